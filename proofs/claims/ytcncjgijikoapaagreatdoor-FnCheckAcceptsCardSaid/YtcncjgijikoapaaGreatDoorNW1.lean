import Derived.Test.YtcncjgijikoapaaGreatDoorDM1
import Derived.Test.YtcncjgijikoapaaGreatDoorW17
import Derived.Maps.Views
import Derived.Maps.OwnOps
import Derived.Maps.OwnSet
import Derived.DeepKeys4
namespace Go.Proofs.YtcncjgijikoapaaGreatDoor
set_option maxHeartbeats 4000000
set_option maxRecDepth 100000
open _root_ renaming Array.size->Z,Nat->N,Int->I,rfl->R,Option.some->S,List.length->J,Option.none->U,Bool.true->So,Bool.false->Sn,absurd->Sz,trivial->JV,List.range->Rg,Decidable.decide->Jd
open Go renaming World.cell?->E,World.alloc->D,Obj.cells->Sc,Ending.returned->Rt,RowKit.Below->Sw,Calls->Sk,World.ownsRow->Sx,IntKind.i64->S6,undef->Su,RowKit.intOf->JB
open Value renaming slice->X,agg->Sa,int->Si,bool->Sb,tuple->St
open Go.RowKit Go.Proofs.Tryz Go.Shelf
variable{t T z:I}{n m:N}{w:Ub}{a:Uj}{f F:Wk}
theorem Ki(l)(a:Uy)(c)(s:n<=1000):
 Sk prog 50 #[Sa #[H l,X a n c]] w λi d=>∃f b,i=Rt (Hn f)/\Z w.1<=f/\Z w.1<=b/\Sw (Z w.1) w d/\YW d f b (Z d.1) ((n+63)/64) a n c (λ_=>0) Hq []:=by
 have o:=Y λW=>Tt n W O
 go_in
 go_wp2_with fail
 refine Y7 (λd=>E d (A (Z w.1) 1)=S (X a n c)) λig=>?_;refine Xn 0 ?_;(iterate 4 refine Rm ?_);refine Xs 5 λK hK=>?_;go_simp
 go_at_call 99
 refine(o _).mono ?_;rintro i h⟨b,rfl,k,e,g⟩;have t:Z w.1+1<=Z h.1:=by have:=e.4;simp at this;omega
 have j:Cl h (Z w.1) 1 (X a n c):=G (e.cell (p:=A (Z w.1) 1) (by show Z w.1<_;simp)) SC;have r:=g.lt;have m:=Y<|Xg (w1:=(D w<|Sc #[H l,X a n c] 25).drew) (Xb Rf _).drew e;have p:=Y g;have q:Z w.1<=b:=by simp at k;omega
 refine hK _ _ j λig=>?_;refine Xn 6 ?_;refine Xs 7 λK hK=>?_;go_simp;refine hK _ _ (G (bP _ _ _<|by show Z w.1<_;omega) j) λig=>?_;refine Xn 8 ?_;refine Yq ?_;go_wp2;go_ret;refine⟨Z h.1,b,R,O,q,Xb m _,⟨sP,sP,sP,λu=>sP,p.alloc _,dA,sP,SB,O,aA⟩⟩
section
attribute [local go_sem] Oper.semAt_some
theorem uy(cs Bx ch b5 O_)(Pd:N×Wc×Wc->Prop)(x L)(v:Q (UI x ch b5 Bx cs (Z L.1) L))(hM:Q (∀k,ch<=k->k<b5->¬O_ k))(bp:Q (¬O_ Bx))(a8:Q (∀k,Z L.1<=k->¬O_ k))(dl:Q (¬O_ 1))(dn:Q (¬O_ 0))(gt:Q (∀et∈x.2,1<=et.1/\et.1<=13))(hr:1<=x.3.1/\x.3.1<=3)(ho:J x.2<=4000)(hp:J x.1<=4000)(ci:Q (∀q∈NS x,Pd q)):
 lf Fence.wide 7 prog 137 #[Hn Bx] (λ_=>pf) (λ_=>og (Z L.1) Pd) (Zf cs O_) (λu=>u.map Pl.dat=NS x) (λu=>u.map Pl.dat <+: NS x) (J x.2+2) False False L:=by
 intro n J0 Jx W hW hl hJ dj _ _ hY h0;have HY:=Y λh x V=>hY (Z W.1) h x V<|aA;have X_:=Y<|hJ (Z W.1);have H0:=Y λV=>h0 (Z W.1) V<|aA;have HE:Q (∀u V,u.map Pl.dat=NS x->J0 (Z W.1) u V->(∃eu u,Z W.1<=eu/\u.map Pl.dat=NS x/\J0 eu u V)\/∃h,h.map Pl.dat <+: NS x/\Jx h V):=Y λu V f i=>.inl ⟨_,u,aA,f,i⟩;have cc:=Y dj;clear hY hJ h0 dj;generalize J0 (Z W.1)=f5 at HY X_ H0 HE;have bc:=hW.4;have fs:=Y<|v.below hW aA;refine callsIn_of_wp_marks func137 R JV ?_ R;simp only[ntmps137,xY,Nat.reduceAdd,Nat.reduceSub];gi_wp2;have gb:(λx9:Ub=>Q (Sw (Z W.1) W x9)/\E x9 (A (Z W.1) 0)=S (.func (.yield n) #[] #[])/\Z x9.1=Z W.1+1) (D W<|Sc #[.func (.yield n) #[] #[]] 246):=⟨Y<|Xb Rf _,SC,sP⟩;generalize D W _=wa at*;obtain⟨cw,b4,h8⟩:=gb;have cf:=Y<|fs.below cw.o bc;obtain⟨pa,pc,Q_,ic,e0,e1,t0,gz,gl⟩:=cf.3;simp only[aV]at e1 t0;clear e0 gz gl;obtain⟨k,hk⟩:=bX (show 0<=x.3.1 by omega);have gp:1<=k:=O;have gq:k<=3:=O;have HT:Q (Va wa Bx 2 ⟨(k:I),x.3.a,x.3.3,x.3.4⟩):=Y (by rw[<-hk];exact t0);have M:=Y<|BY wa.drew (Y HT.o) gp gq (Y cf.2);have eo:Id ⟨(k:I),x.3.a,x.3.3,x.3.4⟩=Id x.3:=by unfold Id;simp only;rw[<-hk]
 rw[eo]at M;have da:Q (J (Id x.3)<=1):=Y (by unfold Id;split<;>simp);clear eo t0;obtain⟨d,cq⟩:∃d,d=Id x.3:=⟨_,R⟩;rw[<-cq]at M da;have aq:=Y cq;clear cq;have hx:S6.wrap ((J x.2:I)+1)=(J x.2:I)+1:=by rw[dF];omega
 refine Tc (λB=>E B (A (Z W.1) 0)=S (.func (.yield n) #[] #[])/\E B (A Bx 1)=S (X Q_ (J x.2) ic)) λig=>?_;refine Yi 0 ?_;refine Yi 1 ?_;refine Yi 2 ?_;refine Yi 3 ?_;refine Yi 4 ?_;refine Yi 5 ?_;refine Yc 6 λN_ hK=>?_;go_simp;refine⟨JV,(bM.2 M.o).mono ?_⟩;rintro e w5⟨v5,rfl,af,em⟩;obtain⟨a5,c5,rfl,ed⟩:=Xk em;have br:Sw (Z wa.1) wa w5:=⟨af.1,af.2,af.3,af.4,af.5⟩;have ct:=Y br;have y5:=G (XU br O) b4;have i5:=oB br e1 (by have:=v.4;show Bx<_;omega);have e6:Q (Xf w5 (Z wa.1) (Z w5.1) a5 d):=Y ed;have M_:=Y<|Yz (J d) c5 e6 (Y R) (oN da.o) aA;clear af em ed M br;refine hK _ _ ⟨y5,i5⟩ λig=>?_;clear hK;refine Yc 7 λN_ hK=>?_;go_simp;refine⟨JV,(bM.2 M_.o).mono ?_⟩;rintro e w6⟨a6,c6,rfl,cj,ee⟩;have aj:=Y<|Xg ct.o cj;have y6:=G (XU aj.o O) b4;have i6:=oB aj e1 (by have:=v.4;show Bx<_;omega);have e7:=Y ee;have h6:=aj.4;have h7:=cj.4;have h5:=ct.4;clear cj ee M_ y5 i5;refine hK _ _ ⟨y6,i6⟩ λig=>?_;clear hK;refine Yi 8 ?_;have fr:=Y<|cf.below aj.o O;have fa:=Y<|H0.o w6 O (Xg cw.o aj.o);obtain⟨fn,tmps,df,bo,P_,r⟩:=HY.o [] ⟨J x.2+1,a6,c6,d,U,0,[]⟩ w6 fa.o ⟨ci.o _ (by show((J x.2+1:N),d,([]:Wc))∈NS x;rw[aq.o];exact cI),e7.mono O<|aA,λl hi=>Sz hi sP⟩ sP;have P:(Instr.yield n #[H<|(J x.2:I)+1,Sa #[X a6 (J d) c6,Hq]]).run prog w6=_:=P_;clear P_;refine Yc 9 λN_ hK=>?_;go_simp;refine r.mono ?_;rintro e p (⟨rfl,ar,z,bx⟩|⟨rfl,ar,z,bx⟩);rotate_left
 .have b8:=Y ar;have C:=z.cell y6<|a8.o _ bc;have i3:=z.cell i6 bp.o;clear ar z bx P r;refine hK _ _ ⟨C,i3⟩ λig=>?_;clear hK ig;have ig:(λB:Ub=>E B (A (Z W.1) 0)=S (.func (.yield n) #[] #[])/\E B (A Bx 1)=S (X Q_ (J x.2) ic)) p:=⟨C,i3⟩;refine Yi 10 ?_;refine ZV ?_;clear ig y6 i6 b4 e1;gi_wp2;exact⟨St #[],gV R _ _ _,⟨_,R⟩,.inr ⟨_,by show[((J x.2+1:N),d,([]:Wc))] <+: NS x;rw[aq.o];exact⟨_,R⟩,b8.o⟩⟩
 have b8:=Y ar;have hd:=Y z;have hb:=Y bx;have fj:=Y<|fr.kp z hM.o bp.o dl.o dn.o;have C:=z.cell y6<|a8.o _ bc;have i3:=z.cell i6 bp.o;have hz:=z.1;clear ar z bx P r;refine hK _ _ ⟨C,i3⟩ λig=>?_;clear hK ig
 have ig:(λB:Ub=>E B (A (Z W.1) 0)=S (.func (.yield n) #[] #[])/\E B (A Bx 1)=S (X Q_ (J x.2) ic)) p:=⟨C,i3⟩;refine Yi 10 ?_;refine ZV ?_;clear ig y6 i6 b4 e1;gi_wp2;refine⟨JV,(V6 Fence.wide 6 JV R Q_ (J x.2) ic p).mono ?_⟩;rintro e K⟨rfl,b3⟩;have w:Sw (Z p.1) p K:=by rw[b3];exact Xb Rf _
 have er:Z K.1=Z p.1+1:=by rw[b3];simp
 have ep:E K (A (Z p.1) 0)=S (X Q_ (J x.2) ic):=by rw[b3];simp[go_sem]
 have dc:=Y<|fj.below w O;have e9:=Y<|XO X_.o b8.o w;have y4:=G (XU w O) C;have ev:=Y w;have I3:=Y i3;clear b3 w C i3;have fl:=Y ep;have he:=Y er;have g5:Z W.1<Z K.1:=O;have fx:Q (Z p.1<Z K.1):=Y O;have L_:Q (Z L.1<=Z K.1):=Y O;have fz:=Y y4;clear ep er y4;gi_wp2
 have gd:¬O_ (Z p.1):=a8.o _ O;refine wpIn_rangeFunc_ownH (F:=Fence.wide) (n:=7) R vY (gf:=154) (lb:=#[Hn (Z p.1)]) R JV (enters_of func154 vZ R) (VE Fence.wide 6 JV R vY O_ O v.5 hM.o gd (aJ v.8 L_.o) fx.o fl.o (Y ?inss)) (λF k=>F.trans k) (λV R_ o o' f i g _=>Zf.putObj V R_ o o' (aJ v.8<|aJ L_.o f) i g) Rf (λ_=>R)
  (λh V=>∃a:List Pl,a.map Pl.dat=(J x.2+1,d,[])::h.map (VH x)/\f5 a V/\UI x ch b5 Bx cs (Z L.1) V/\E V (A (Z W.1) 0)=S (.func (.yield n) #[] #[])/\Z K.1<=Z V.1)
  (λc_ h V=>c_=.ret/\∃a:List Pl,a.map Pl.dat=(J x.2+1,d,[])::h.map (VH x)/\Jx a V)
  ?ownI ?ownX ?start
  (λj a' V=>∃b,a'=⟨#[.func (.yield n) #[] #[],Hn Bx,Hn (Z W.1),H ((j:N):I),Hn b,Su,Su,Su,.func (.yield n) #[] #[],Ho Bx 1,X Q_ (J x.2) ic,H (J x.2:I),H<|(J x.2:I)+1,Ho Bx 2,X a5 (J d) c5,X a6 (J d) c6,Sa #[X a6 (J d) c6,Hq],Sb So,Sb Sn,Ho Bx 1,X Q_ (J x.2) ic,.func (.func 154) #[] #[Hn (Z p.1)],H ((j:N):I),mj x.2[j],Su,Su,Su,Su,Su,Su,Su,Su,Su,Su,Su,Su,Su,Su,Su,Su,Su,Su,Su,Su,Su,Su,Su,Su,Su,Su,Su,Su,Su],[]⟩/\Z K.1<=b/\Jk V b 0 x.2[j]) ?ownA ?assign ?body ?done ?stop
 case inss=>
  obtain⟨g7,g8,es,g6,_,f1,_,_,f4⟩:=dc.3;simp only[aV]at f1;have gi:es=Q_:=by have g:=oB ev I3.o (by show Bx<_;have:=v.4;omega);rw[f1]at g;injection g with g;injection g
  rw[<-gi];exact f4
 case ownI=>
  rintro h S_ V row⟨a,m,T,c,t,p5⟩ k q;have dz:∀l,l<Z K.1->V.1[l]?=S_.1[l]?:=λl hi=>k.5 l O (λe=>by have:=(q l e.symm).1;omega);refine⟨a,m,X_.o a S_ V row T k λbd e=>⟨oN<|(q bd e).1,(q bd e).2⟩,c.same (λl hi=>dz l<|aX hi L_.o) k.4,?_,aJ p5 k.4⟩;exact G (Xc<|dz _ g5) t
 case ownX=>
  rintro c_ h S_ V row⟨rfl,a,p0,m⟩ k q;exact⟨R,a,p0,cc.o a S_ V row m k λbd e=>⟨oN<|(q bd e).1,(q bd e).2⟩⟩
 case start=>exact⟨[⟨J x.2+1,a6,c6,d,U,0,[]⟩],R,e9.o,dc.o,fz.o,aA⟩
 case ownA=>
  rintro j a' _ S_ V row⟨b,e,dw,y⟩ k q;have gf:V.1[b]?=S_.1[b]?:=by obtain⟨o,f,i⟩:=Yn y.1;refine k.5 b (aS.1 f).1 λe=>?_;obtain⟨_,o2,g,h4⟩:=q b e.symm;rw[show S_.1[b]?=S o from f]at g;injection g with g;subst g;rw[i]at h4;cases h4
  have s:=λo=>Xc (o:=o) gf;exact⟨b,e,dw,G (s _) y.1,G (s _) y.2.1,G (s _) y.2.2.1,G (s _) y.2.2.2.1,G (s _) y.2.2.2.2⟩
 case assign=>
  intro R_ h j V N_ hI hK;have HI:=Y hI;have fb:=Y hK;clear hI hK;unfold mj;gi_wp2;have Y_:Sw (Z V.1) V (D V<|Sc #[H x.2[j].1,H x.2[j].2,H x.2[j].a,H x.2[j].b,H x.2[j].5] 64):=Xb Rf _;obtain⟨a,m,T,c,t,p5⟩:=HI.o;refine fb.o _ _ ⟨Y_.4,λk o _ f _=>G (Y_.5 k (aS.1 f).1) f⟩ (Z4 Y_<|oP L_.o v.8) ⟨a,m,XO X_.o T Y_,c.below Y_<|oN L_.o,oB Y_ t O,aJ p5 Y_.4⟩ ⟨Z V.1,R,p5,?_⟩;exact⟨SC,SC,SC,SC,SC⟩
 case body=>
  rintro R_ h j a' V hm _⟨a,m,T,c,t,p5⟩ ⟨b,rfl,dw,y⟩ hn;have D_:=Y m;have cd:=Y T;have bm:=Y c;have gs:=gt.o x.2[j] (aH _);obtain⟨kk,b0⟩:=bX (show 0<=x.2[j].1 by omega);have eg:1<=kk:=O;have ei:kk<=13:=O;have ge:b<Z V.1:=aI V _ y.1;have ab:Q (Jk V b 0 ⟨(kk:I),x.2[j].2,x.2[j].a,x.2[j].b,x.2[j].5⟩):=Y (by rw[<-b0];exact y);have en:Iw ⟨(kk:I),x.2[j].2,x.2[j].a,x.2[j].b,x.2[j].5⟩=Iw x.2[j]:=by rw[<-b0]
  have eq:BW ⟨(kk:I),x.2[j].2,x.2[j].a,x.2[j].b,x.2[j].5⟩=BW x.2[j]:=by rw[<-b0]
  have M:=Y<|vf b kk x.2[j].2 x.2[j].a x.2[j].b x.2[j].5 V.drew (Y ab.o) eg ei (Y bm.1);have bn:Q (∀V',Sw (Z V.1) V V'->_):=Y (λV' (hV:Sw (Z V.1) V V')=>UH b x.2[j].2 x.2[j].a x.2[j].b x.2[j].5 V' (Y (by
   have s:=λo=>hV.cell (p:=A b o) ge
   exact⟨G (s _) ab.1,G (s _) ab.2.1,G (s _) ab.2.2.1,G (s _) ab.2.2.2.1,G (s _) ab.2.2.2.2⟩)) eg ei (Y (bm.below hV<|oN L_.o).1))
  rw[en]at M;simp only[eq]at bn;obtain⟨ui,b1⟩:∃I_,I_=Iw x.2[j]:=⟨_,R⟩;obtain⟨di,bv⟩:∃I_,I_=BW x.2[j]:=⟨_,R⟩;rw[<-b1]at M;simp only[<-bv]at bn;have cg:=Y b1;have b6:=Y bv;have hs:J ui<=2:=by rw[b1];exact oU _
  have hg:J di<=1:=by rw[bv];unfold BW;split<;>simp
  clear b1 bv en eq y m T c b0 gs;have ce:Q (J a<J x.2+1):=Y (by have F:=fI List.length D_.o;simp at F;omega)
  have hw:S6.wrap (((j:N):I)+1)=((j:N):I)+1:=by have:=j.2;rw[dF];omega
  gi_wp2;refine Tc (λB=>E B (A (Z W.1) 0)=S (.func (.yield n) #[] #[])) λig=>?_;refine Yi 0 ?_;refine Yi 1 ?_;refine Yi 2 ?_;refine Yc 3 λN_ hK=>?_;go_simp;refine⟨JV,(CallsIn.inRound R_<|bM.2 M.o).mono ?_⟩;rintro e V1⟨v1,rfl,ad,ek⟩;obtain⟨a1,c1,rfl,d0⟩:=Xk ek;have aa:Q (Sw (Z V.1) V V1):=Y ⟨ad.1,ad.2,ad.3,ad.4,ad.5⟩;have cz:Q (Xf V1 (Z V.1) (Z V1.1) a1 ui):=Y d0;have y1:=G (XU aa.o O) t;have M_:=Y<|Yz (J ui) c1 cz (Y R) O aA;clear ad ek d0 M;refine hK _ _ y1 λig=>?_;clear hK;refine Yc 4 λN_ hK=>?_;go_simp;refine⟨JV,(CallsIn.inRound R_<|bM.2 M_.o).mono ?_⟩;rintro e V2⟨a2,c2,rfl,ds,ea⟩;have bf:=Y<|Xg aa.o ds;have c7:=Y<|ea.mono aa.4 aA;have y2:=G (XU bf.o O) t;have dd:=Y<|bn.o V2 bf.o;clear ds ea M_ y1 aa;refine hK _ _ y2 λig=>?_;clear hK;refine Yc 5 λN_ hK=>?_;go_simp;refine⟨JV,(CallsIn.inRound R_<|bM.2 dd.o).mono ?_⟩;rintro e V3⟨v3,rfl,bq,el⟩;obtain⟨a3,c3,rfl,eb⟩:=Xk el;have c8:=Y<|(c7.keep bq).mono aA bq.4;have bh:=Y<|Xg bf.o bq;have c9:=Y eb;have C:=G (XU bh.o O) t;have M_:=Y<|Yz (J di) c3 c9 (Y R) O aA;clear bq el eb y2;refine hK _ _ C λig=>?_;clear hK;refine Yc 6 λN_ hK=>?_;go_simp;refine⟨JV,(CallsIn.inRound R_<|bM.2 M_.o).mono ?_⟩;rintro e V4⟨a4,c4,rfl,w,ec⟩;have ey:=Y<|(c8.keep w).mono aA w.4;have U_:=Y<|Xg bh.o w;have ez:=Y<|ec.mono bh.4 aA;have y4:=G (XU U_.o O) t;clear w ec M_ C;refine hK _ _ y4 λig=>?_;clear hK;refine Yi 7 ?_;have ac:Z L.1<=Z V.1:=oN L_.o;have fq:=Y<|bm.below U_.o ac;obtain⟨fn,tmps,df,bo,P_,r⟩:=KY (l':=R_) (m':=4) (HY.o a ⟨(j:N)+1,a2,c2,ui,a4,c4,di⟩ V4 (XO X_.o cd.o U_.o) ⟨ci.o _ (by have F:=t6 x j;unfold VH at F;rw[<-cg.o,<-b6.o]at F;exact F),ey.mono ac<|aA,ez.mono ac<|aA⟩ (oN ce.o));have P:(Instr.yield n #[H<|((j:N):I)+1,Sa #[X a2 (J ui) c2,X a4 (J di) c4]]).run prog V4=_:=P_;clear P_;refine Yc 8 λN_ hK=>?_;go_simp;refine r.mono ?_;rintro e V5 (⟨rfl,az,Z_,a9⟩|⟨rfl,az,Z_,a9⟩);rotate_left
  .have y5:=Z_.cell y4<|a8.o _ bc;have ca:=Y az;have bl:=Y Z_;have b7:=Y a9;clear az Z_ a9 P r;refine hK _ _ y5 λig=>?_;clear hK;refine Yi 9 ?_;refine ZV ?_;gi_wp2;have bb:=(Z4 U_.o<|aJ v.8 ac).trans bl.o;refine⟨⟨bb.1,λk o f i g=>b7.2 k o O (G (U_.5 k (aS.1 i).1) i) g⟩,R,a++[⟨(j:N)+1,a2,c2,ui,a4,c4,di⟩],?_,ca.o⟩;rw[bG,D_.o,bG];show _=(J x.2+1,d,[])::(h.map (VH x)++[VH x j]);rw[<-cW];congr 1;unfold VH Pl.dat;simp only[eH,fZ];rw[cg.o,b6.o]
  have y5:=Z_.cell y4<|a8.o _ bc;have ca:=Y az;have bl:=Y Z_;have b7:=Y a9;clear az Z_ a9 P r;refine hK _ _ y5 λig=>?_;clear hK
  refine Yi 9 ?_;refine ZV ?_;gi_wp2;have bb:=(Z4 U_.o<|aJ v.8 ac).trans bl.o;refine⟨⟨bb.1,λk o f i g=>b7.2 k o O (G (U_.5 k (aS.1 i).1) i) g⟩,bb,a++[⟨(j:N)+1,a2,c2,ui,a4,c4,di⟩],?_,ca.o,fq.kp bl.o hM.o bp.o dl.o dn.o,y5,aJ p5 bb.1⟩;rw[bG,D_.o,bG];show _=(J x.2+1,d,[])::(h.map (VH x)++[VH x j]);rw[<-cW];congr 1;unfold VH Pl.dat;simp only[eH,fZ];rw[cg.o,b6.o]
 case done=>
  rintro be ys V hD rfl⟨a,m,T,c,t,p5⟩ a7;have D_:=Y m;have cd:=Y T;have bm:=Y c;have ao:=Y a7;have fe:=Y t;obtain⟨g7,g8,es,g6,f0,f1,_,f3,_⟩:=c.3;have fi:=Y f3;have ga:Bx<Z V.1:=aI V _ f0;have f7:=λo=>G (bP V o (A Bx 0) ga) f0;have gv:Z W.1<Z V.1:=O;clear f1 f3 m T c a7 f0 t;obtain⟨i0,gh,g0,g3,g4⟩:=fX RF;gi_wp2;clear f7
  gi_loopw [38] (λl wr=>∃k:N,k<=J x.1/\l=H k/\Q (Sw (Z V.1) V wr)/\E wr (A (Z V.1) 0)=S Hq/\wr.frozen? (A (Z V.1) 1)=Sn/\∃I_,E wr (A (Z V.1) 1)=S I_/\Q (Sx wr (Z V.1+1) 66 1 I_ k (((x.1.map Ph.dst).take k).map (Si S6)))) λl _=>J x.1-(JB l).toNat
  .exact⟨0,aN,R,Y<|Xb Rf _,SC,SC,Hq,SC,Y<|dA⟩
  obtain⟨k,hh,rfl,T_,c0,z1,I_,c1,HO⟩:=hrel;by_cases ej:k<J x.1
  .obtain⟨f6,o,rfl,hf,ap,cp,f,i,_⟩:=fi.o k ej;have du:f6<Z V.1:=aI V _ f;have g1:=oB T_ f du;have g2:=oB T_ i du;have HN:Q ((x.1.map Ph.dst).take (k+1)=(x.1.map Ph.dst).take k++[x.1[k].1]):=Y (by rw[X7<|by simpa using ej];simp);have co:Z V.1<Z wr.1:=aI wr _ c0;clear f i;generalize x.1[k]=ph at*;generalize (x.1.map Ph.dst).take k=dk at*
   gi_wp2_with (gi_at_builtin;refine wpListIn_append_own _ R _ _ 208 R (Z V.1+1) 66 i0 (H 0) 1 8 underlying208 gh g0 g3 g4 R vY _ _ _ R ((HO.alloc _).alloc _) (A (Z wr.1+1) 0) 1 1 [H ph.1] R R ?c1 ?c2 ?c3 ?c4 ?c5 ?_)
   case c1=>
    intro j I_ hj
    match j,hj with
    |0,hj=>simp at hj;subst hj;simp[Addr.add,go_sem]
   case c2=>intro I_ hu;simp at hu;subst hu;rfl
   case c3=>unfold maxLen;omega
   case c4=>omega
   case c5=>simp;omega
   intro v1 w1 cn ck _;obtain⟨av,cv,hv,_⟩:=Xk (xs:=dk++[ph.1]) (by rw[Yl];exact cn);have HV:=Y hv;have db:=Y cn;have aa:=Y (Xy (Xb (Xb T_.o _) _) ck ((HO.alloc _).alloc _) O (by have:=T_.4;simp;omega));have bt:=YJ ck ((HO.alloc _).alloc _) (b:=Z V.1) O SB;have k0:=G (Xc bt) (oB (Xb (Xb (dC (Z wr.1) wr) _) _) c0 co);have k1:=G (Xc bt) (oB (Xb (Xb (dC (Z wr.1) wr) _) _) c1 co);have kz:w1.frozen? (A (Z V.1) 1)=Sn:=by rw[bJ (a:=(A (Z V.1) 1)) bt];exact G ((Xb (Xb (dC (Z wr.1) wr) _) _).frozen (p:=A (Z V.1) 1) co) z1
   clear cn ck bt c0 c1 z1;rw[hv];clear hv;gi_wp2;have cr:=HV.o;rw[aQ,bA,bO,aV]at cr;rw[<-cr];clear cr;refine⟨⟨k+1,O,gM,Y<|aa.setCell aA _,?_,?_,v1,?_,Y ?_⟩,SA⟩;·exact G (@cJ w1 (A (Z V.1) 1) (A (Z V.1) 0) v1 sP) k0
   .exact G (eX _ _ _ _) kz
   .exact iL w1 _ v1<|by rw[k1];rfl
   rw[HN.o,Yl];exact db.kept (row:=S (Z V.1)) ⟨R,R,R,SH,λk _ hk=>cY λe=>hk<|by rw[e]⟩ (aZ λe=>by have:=(db.lt _ e).1;omega)
  have gr:k=J x.1:=O;subst gr;have cm:=HO.o;rw[aW sP]at cm;obtain⟨av,cv,rfl,ef⟩:=Xk cm;have e8:=Y ef;have ac:Z L.1<=Z V.1:=oN L_.o
  have gg:=(aS.1 ao.o).1;have cx:=Y<|G (T_.5 be gg) ao.o;have yr:=oB T_ fe.o gv;have ce:Q (J a=J x.2+1):=Y (by have F:=fI List.length D_.o;simp[Vf]at F;omega)
  clear cm ef;obtain⟨fn,tmps,df,bo,P_,r⟩:=HY.o a ⟨0,U,0,[],av,cv,x.1.map Ph.dst⟩ wr (XO X_.o cd.o T_.o) ⟨ci.o _<|tE x,λl hi=>Sz hi sP,e8.mono O<|aA⟩ (oN ce.o);have P:(Instr.yield n #[H 0,Sa #[Hq,X av (J (x.1.map Ph.dst)) cv]]).run prog wr=_:=P_;rw[bK]at P c1;clear P_;gi_wp2;refine r.mono ?_;rintro e V9 (⟨rfl,a0,cl,ba⟩|⟨rfl,a0,cl,ba⟩);rotate_left
  .have cb:=Y a0;have al:=Y<|ba.2 be _ O cx.o R;clear a0 cl ba P r;gi_wp2;refine YK al.o ⟨St #[],gV R _ _ _,⟨_,R⟩,.inr ⟨a++[⟨0,U,0,[],av,cv,x.1.map Ph.dst⟩],?_,cc.putObj _ cb.o O al.o R⟩⟩;rw[bG,D_.o,aq.o];exact mD _
  have cb:=Y a0;have al:=Y<|ba.2 be _ O cx.o R;clear a0 cl ba P r;gi_wp2;refine YK al.o ⟨St #[],gV R _ _ _,⟨_,R⟩,HE.o (a++[⟨0,U,0,[],av,cv,x.1.map Ph.dst⟩]) _ ?_ (X_.putObj _ cb.o O al.o R)⟩;rw[bG,D_.o,aq.o];rfl
 rintro be c_ h V hD⟨q,hq⟩ ⟨rfl,a,p0,m⟩ a7;have fc:=Y p0;have HQ:=Y hq;clear p0 hq;have D_:=Y m;have ao:=Y a7;clear m a7;gi_wp2;refine YK ao.o ⟨St #[],gV R _ _ _,⟨_,R⟩,.inr ⟨a,?_,cc.putObj _ D_.o O ao.o R⟩⟩;rw[fc.o,aq.o,HQ.o];obtain⟨g9,ht⟩:=Bu (J x.2) q;refine⟨g9.map (VH x)++[(0,[],x.1.map Ph.dst)],?_⟩;unfold NS;rw[cW,<-cK,<-bG,ht]
end
section
open Go.Maps
theorem Ma:laidOutB prog=So:=vZ
theorem K0:(146 : TypeId) < Z prog.types:=fV vZ
theorem Oy:(match prog.underlying 146 with|some (.array _ _)|some (.struct _)=>So|_=>Sn)=So:=vZ
theorem Nq:prog.keyTypeAt 2 146=So:=vZ
theorem L8:2+1<=10000:=vY
theorem zn:Keyed prog 146:=Keyed.of_law<|deep_law_laid Ma (m:=2) L8 K0 Nq Oy
def Sv(v r:I):Uj:=Sa #[H v,H r]
def p9(v r:I):Lit:=.string (keyBytes [.int S6 v,.int S6 r])
theorem MI:prog.keyType 146=So:=vZ
theorem P3{P : Yh}{k : TypeId}{f0 f1 : Field}(hk : P.underlying k = S (.struct #[f0, f1]))(h0 : P.underlying f0.2 = S (.int S6))(h1 : P.underlying f1.2 = S (.int S6))(o0 : f0.3 = 0)(o1 : f1.3 = 1)(n0 : f0.1 ≠ "_")(n1 : f1.1 ≠ "_")(ck : P.cellsOf k = 2)(c0 : P.cellsOf f0.2 = 1)(c1 : P.cellsOf f1.2 = 1){v r : I}(hv : (Lit.int S6 v).wf = So)(hr : (Lit.int S6 r).wf = So)(d : N): P.keyLits (d + 2) k [Si S6 v, Si S6 r] = S [.int S6 v, .int S6 r] := by
 simp[Program.keyLits, *]
theorem yK{v r:I}(hv:0<=v/\v<=100000)(hr:0<=r/\r<=100000):keyOf prog 146 (Sv v r)=S (p9 v r):=by
 have h1:(Lit.int S6 v).wf=So:=WalkArith.wf_i64 O;have h2:(Lit.int S6 r).wf=So:=WalkArith.wf_i64 O;obtain⟨s,hs⟩:∃s,Z prog.types=s+1:=by
  cases h:Z prog.types with
  | zero =>
   have:=K0;rw[h]at this;exact Sz this (wA _)
  | succ s=>exact⟨s,R⟩
 have hl:=P3 underlying146 vZ vZ (by rfl) (by rfl) vY vY vZ vZ vZ h1 h2 s;have c1:prog.cellsOf 146=2:=vZ;have hf:(Sv v r).formed prog 146=So:=by simp[Sv,Value.formed,underlying146,c1]
 unfold keyOf;rw[underlying146];simp only[MI,rS,hf,gG,hs];show((prog.keyLits (s+2) 146 [Si S6 v,Si S6 r]).map _)=_;rw[hl];rfl
theorem Y5{v r v' r':I}(hv:0<=v/\v<=100000)(hr:0<=r/\r<=100000)(hv':0<=v'/\v'<=100000)(hr':0<=r'/\r'<=100000)(e:p9 v r=p9 v' r'):v=v'/\r=r':=by
 have h:=zn.inj (yK hv hr) (by rw[e];exact yK hv' hr');unfold Sv at h;simpa using h
theorem Df:WideAt.IsKeyLit (p9 t T):=by simp[p9,WideAt.IsKeyLit]
def pT(v:Value):Option (DataW Unit×List MemPlace):=match v with
 |.agg a=>match a.1 with
  |[X (S ⟨g,0,U⟩) n c]=>if n=c then S (.agg [.lit (.int S6 g),.lit (.int S6 n)],[])else U
  |[X U 0 0]=>S (.agg [],[])
  |_=>U
 |_=>U
def vO(g n:N):Uj:=Sa #[Hl g n n]
def qd(g n:N):DataW Unit:=.agg [.lit (.int S6 g),.lit (.int S6 n)]
theorem T2(g n:N):pT (vO g n)=S (qd g n,[]):=by simp[pT,vO,qd]
theorem Kg:pT (Sa #[Hq])=S (.agg [],[]):=R
theorem RP{j:List MemPlace}(h:pT a=S (qd n m,j)):a=vO n m:=by
 unfold pT at h;split at h
 ·rename_i e
  split at h
  ·rename_i g i k d
   split at h
   ·rename_i f
    subst f;unfold qd at h;simp only[Option.some.injEq,jC,kC,List.cons.injEq,DataW.lit.injEq,Lit.int.injEq,and_true,true_and]at h;obtain⟨⟨b,c⟩,_⟩:=h;have b:g=n:=O;have c:i=m:=O;subst b c;cases e;simp only at d;subst d;rfl
   ·cases h
  ·unfold qd at h;simp at h
  ·cases h
 ·cases h
theorem Ln{d:List MemPlace}(h:pT a=S (.agg [],d)):a=Sa #[Hq]:=by
 unfold pT at h;split at h
 .rename_i c;split at h
  .split at h;·simp at h
   cases h
  .rename_i b;cases c;simp only at b;subst b;rfl
  cases h
 cases h
def nO(n:N)(W:Wk):N:=J ((Rg n).filter λb=>!Xh W b)
def Rb(n:N)(Wd:N->N->N):N->N
 |0=>0
 |V+1=>Rb n Wd V+nO n (Wd V)
theorem QT(n:N)(W:Wk):nO n W<=n:=by unfold nO;have:=fJ (λb=>!Xh W b) (Rg n);rwa[gI]at this
theorem F6(n:N)(Wd:Vp):∀V,Rb n Wd V<=V*n
 |0=>aN
 |V+1=>by have:=F6 n Wd V;have:=QT n<|Wd V;rw[jK,jL];show Rb n Wd V+nO n (Wd V)<=_;omega
theorem XV{b:N}(d:b<n)(h:Xh f b=Sn)(a:∀x,Xh F x=(Jd (x=b)||Xh f x)):nO n F + 1<=nO n f:=by
 have j:∀l:Wa,b∈l->J (l.filter λx=>!Xh F x)+1<=J (l.filter λx=>!Xh f x):=by
  intro l
  induction l with
  |nil=>intro h;cases h
  |cons x l c=>
   intro g;have mono:∀l:Wa,J (l.filter λx=>!Xh F x)<=J (l.filter λx=>!Xh f x):=λl=>by
    induction l with
    |nil=>simp
    |cons y l c=>
     rw[iW,iW,a y];cases Xh f y<;>by_cases e:y=b<;>simp[e]<;>omega
   have:=mono l;by_cases e:x=b
   .subst e;rw[iW,iW,a x,h];simp;omega
   have i:b∈l:=by
    obtain q|q:=cH.1 g;·exact Sz q.symm e
    exact q
   have:=c i;rw[iW,iW,a x];cases Xh f x<;>simp[e]<;>omega
 exact j _<|bE.2 d
theorem IQ{n b v:N}{Wd:Vp}{c:Wk}(f:b<n)(h:Xh (Wd v) b=Sn)(d:∀x,Xh c x=(Jd (x=b)||Xh (Wd v) x)):∀V,v<V->Rb n (λu=>if u=v then c else Wd u) V+1<=Rb n Wd V
 |0,hv=>Sz hv<|wA _
 |V+1,hv=>by
  show Rb n _ V+nO n (if V=v then c else Wd V)+1<=Rb n Wd V+nO n (Wd V);by_cases e:V=v
  .subst e
   rw[aU R];have j:=XV f h d;have g:∀a,a<=V->Rb n (λu=>if u=V then c else Wd u) a=Rb n Wd a:=λa=>by
    induction a with
    |zero=>intro _;rfl
    |succ q i=>
     intro k;show Rb n _ q+nO n (if q=V then c else Wd q)=Rb n Wd q+nO n (Wd q);rw[i O,aM O]
   rw[g V aA];omega
  rw[aM e];have:=IQ f h d V O;omega
end
end Go.Proofs.YtcncjgijikoapaaGreatDoor
