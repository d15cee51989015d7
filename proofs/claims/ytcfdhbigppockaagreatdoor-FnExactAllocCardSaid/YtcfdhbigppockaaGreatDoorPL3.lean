import Derived.Test.YtcfdhbigppockaaGreatDoorID1
namespace Go.Proofs.YtcfdhbigppockaaGreatDoor
set_option maxHeartbeats 8000000
set_option maxRecDepth 100000
open Go.RowKit Go.Shelf Go.Proofs.Tryz
variable{t T z:Int}{n m k B g i j c:Nat}{w v u W V:Ub}{a:Uj}{p:Uy}{M N:Vp}{d:Vv}{s:Wa}{l:Wc}{x:Wi}{f F:Wk}{q:Xe}{R:Yh}{E:Zh}
section
attribute [local go_sem] Oper.semAt_some
theorem uy(cs Bx ch b5:Nat)(O:Vv)(Pd:Nat×Wc×Wc->Prop)(x:Xe)(J:Ub)(v:Hs (UI x ch b5 Bx cs J.1.size J))(hM:Hs (∀k,ch<=k->k<b5->¬O k))(bp:Hs (¬O Bx))(a8:Hs (∀k,J.1.size<=k->¬O k))(dl:Hs (¬O 1))(dn:Hs (¬O 2))(gt:Hs (∀et∈x.2,1<=et.1/\et.1<=13))(hr:1<=x.3.1/\x.3.1<=3)(ho:x.2.length<=4000)(hp:x.1.length<=4000)(ci:Hs (∀q∈NS x,Pd q)):
 lf Fence.wide 7 prog 147 #[Hn Bx] (λ_=>pf) (λ_=>og J.1.size Pd) (Zf cs O) (λu=>u.map Pl.dat=NS x) (λu=>u.map Pl.dat <+: NS x) (x.2.length+2) False False J:=by
 intro n J0 Jx W hW hl hJ dj _ _ hY h0;have HY:=Xa λh x V=>hY W.1.size h x V<|aA;have X:=Xa<|hJ W.1.size;have H0:=Xa λV=>h0 W.1.size V<|aA;have HE:Hs (∀u V,u.map Pl.dat=NS x->J0 W.1.size u V->(∃eu u,W.1.size<=eu/\u.map Pl.dat=NS x/\J0 eu u V)\/∃h,h.map Pl.dat <+: NS x/\Jx h V):=Xa λu V f i=>.inl ⟨_,u,aA,f,i⟩;have cc:=Xa dj;clear hY hJ h0 dj;generalize J0 W.1.size=f5 at HY X H0 HE;have bc:=hW.4;have fs:=Xa<|v.below hW aA;refine callsIn_of_wp_marks func147 rfl trivial ?_ rfl;simp only[ntmps147,xY,Nat.reduceAdd,Nat.reduceSub];gi_wp2;have gb:(λx9:Ub=>Hs (Below W.1.size W x9)/\x9.cell? (Hk W.1.size 0)=some (.func (.yield n) #[] #[])/\x9.1.size=W.1.size+1) (W.alloc<|.cells #[.func (.yield n) #[] #[]] 251):=⟨Xa<|Xb (Below.refl _ _) _,(by simp[go_sem]),sP⟩;generalize W.alloc _=wa at*;obtain⟨cw,b4,h8⟩:=gb;have cf:=Xa<|fs.below cw.o bc;obtain⟨pa,pc,Q,ic,e0,e1,t0,gz,gl⟩:=cf.3;simp only[aV]at e1 t0;clear e0 gz gl;obtain⟨k,hk⟩:=bX (show 0<=x.3.1 by omega);have gp:1<=k:=oM;have gq:k<=3:=oM;have HT:Hs (Va wa Bx 2 ⟨(k:Int),x.3.a,x.3.3,x.3.4⟩):=Xa (by rw[<-hk];exact t0);have E:=Xa<|BY wa.drew (Xa HT.o) gp gq (Xa cf.2);have eo:Id ⟨(k:Int),x.3.a,x.3.3,x.3.4⟩=Id x.3:=by unfold Id;simp only;rw[<-hk]
 rw[eo]at E;have da:Hs ((Id x.3).length<=1):=Xa (by unfold Id;split<;>simp);clear eo t0;obtain⟨d,cq⟩:∃d,d=Id x.3:=⟨_,rfl⟩;rw[<-cq]at E da;have aq:=Xa cq;clear cq;have hx:IntKind.i64.wrap ((x.2.length:Int)+1)=(x.2.length:Int)+1:=by rw[dF];omega
 refine Tc (λB=>B.cell? (Hk W.1.size 0)=some (.func (.yield n) #[] #[])/\B.cell? (Hk Bx 1)=some (.slice Q x.2.length ic)) λhHeld=>?_;refine Yi 0 ?_;refine Yi 1 ?_;refine Yi 2 ?_;refine Yi 3 ?_;refine Yi 4 ?_;refine Yi 5 ?_;refine Yc 6 λN hK=>?_;go_simp;refine⟨trivial,(bM.2 E.o).mono ?_⟩;rintro e w5⟨v5,rfl,af,em⟩;obtain⟨a5,c5,rfl,ed⟩:=Xk em;have br:Below wa.1.size wa w5:=⟨af.1,af.2,af.3,af.4,af.5⟩;have ct:=Xa br;have y5:=(XU br oM).trans b4;have i5:=oB br e1 (by have:=v.4;show Bx<_;omega);have e6:Hs (Xf w5 wa.1.size w5.1.size a5 d):=Xa ed;have M:=Xa<|Yz d.length c5 e6 (Xa rfl) (oN da.o) aA;clear af em ed E br;refine hK _ _ ⟨y5,i5⟩ λhHeld=>?_;clear hK;refine Yc 7 λN hK=>?_;go_simp;refine⟨trivial,(bM.2 M.o).mono ?_⟩;rintro e w6⟨a6,c6,rfl,cj,ee⟩;have aj:=Xa<|Xg ct.o cj;have y6:=(XU aj.o oM).trans b4;have i6:=oB aj e1 (by have:=v.4;show Bx<_;omega);have e7:=Xa ee;have h6:=aj.4;have h7:=cj.4;have h5:=ct.4;clear cj ee M y5 i5;refine hK _ _ ⟨y6,i6⟩ λhHeld=>?_;clear hK;refine Yi 8 ?_;have fr:=Xa<|cf.below aj.o oM;have fa:=Xa<|H0.o w6 oM (Xg cw.o aj.o);obtain⟨fn,tmps,df,bo,P,r⟩:=HY.o [] ⟨x.2.length+1,a6,c6,d,none,0,[]⟩ w6 fa.o ⟨ci.o _ (by show((x.2.length+1:Nat),d,([]:Wc))∈NS x;rw[aq.o];exact cI),e7.mono oM<|aA,λl hi=>absurd hi sP⟩ sP;have G:(Instr.yield n #[Hp<|(x.2.length:Int)+1,.agg #[.slice a6 d.length c6,Hq]]).run prog w6=_:=P;clear P;refine Yc 9 λN hK=>?_;go_simp;refine r.mono ?_;rintro e p (⟨rfl,ar,z,bx⟩|⟨rfl,ar,z,bx⟩);rotate_left
 .have b8:=Xa ar;have C:=z.cell y6<|a8.o _ bc;have i3:=z.cell i6 bp.o;clear ar z bx G r;refine hK _ _ ⟨C,i3⟩ λhHeld=>?_;clear hK hHeld;have hHeld:(λB:Ub=>B.cell? (Hk W.1.size 0)=some (.func (.yield n) #[] #[])/\B.cell? (Hk Bx 1)=some (.slice Q x.2.length ic)) p:=⟨C,i3⟩;refine Yi 10 ?_;refine ZV ?_;clear hHeld y6 i6 b4 e1;gi_wp2;exact⟨.tuple #[],gV rfl _ _ _,⟨_,rfl⟩,.inr ⟨_,by show[((x.2.length+1:Nat),d,([]:Wc))] <+: NS x;rw[aq.o];exact⟨_,rfl⟩,b8.o⟩⟩
 have b8:=Xa ar;have hd:=Xa z;have hb:=Xa bx;have fj:=Xa<|fr.kp z hM.o bp.o dl.o dn.o;have C:=z.cell y6<|a8.o _ bc;have i3:=z.cell i6 bp.o;have hz:=z.1;clear ar z bx G r;refine hK _ _ ⟨C,i3⟩ λhHeld=>?_;clear hK hHeld
 try simp only[xX]
 have hHeld:(λB:Ub=>B.cell? (Hk W.1.size 0)=some (.func (.yield n) #[] #[])/\B.cell? (Hk Bx 1)=some (.slice Q x.2.length ic)) p:=⟨C,i3⟩;refine Yi 10 ?_;refine ZV ?_;clear hHeld y6 i6 b4 e1;gi_wp2;refine⟨trivial,(V6 Fence.wide 6 trivial rfl Q x.2.length ic p).mono ?_⟩;rintro e K⟨rfl,b3⟩;have w:Below p.1.size p K:=by rw[b3];exact Xb (Below.refl _ _) _
 have er:K.1.size=p.1.size+1:=by rw[b3];simp
 have ep:K.cell? (Hk p.1.size 0)=some (.slice Q x.2.length ic):=by rw[b3];simp[go_sem]
 have dc:=Xa<|fj.below w oM;have e9:=Xa<|XO X.o b8.o w;have y4:=(XU w oM).trans C;have ev:=Xa w;have I3:=Xa i3;clear b3 w C i3;have fl:=Xa ep;have he:=Xa er;have g5:W.1.size<K.1.size:=oM;have fx:Hs (p.1.size<K.1.size):=Xa oM;have L:Hs (J.1.size<=K.1.size):=Xa oM;have fz:=Xa y4;clear ep er y4;gi_wp2
 have gd:¬O p.1.size:=a8.o _ oM;refine wpIn_rangeFunc_ownH (F:=Fence.wide) (n:=7) rfl vY (gf:=181) (lb:=#[Hn p.1.size]) rfl trivial (enters_of func181 vZ rfl) (VE Fence.wide 6 trivial rfl vY O oM v.5 hM.o gd (aJ v.8 L.o) fx.o fl.o (Xa ?inss)) (λF k=>F.trans k) (λV R o o' f i g _=>Zf.putObj V R o o' (aJ v.8<|aJ L.o f) i g) (Below.refl _ _) (λ_=>rfl)
  (λh V=>∃a:List Pl,a.map Pl.dat=(x.2.length+1,d,[])::h.map (VH x)/\f5 a V/\UI x ch b5 Bx cs J.1.size V/\V.cell? (Hk W.1.size 0)=some (.func (.yield n) #[] #[])/\K.1.size<=V.1.size)
  (λc h V=>c=.ret/\∃a:List Pl,a.map Pl.dat=(x.2.length+1,d,[])::h.map (VH x)/\Jx a V)
  ?ownI ?ownX ?start
  (λj a' V=>∃b,a'=⟨#[.func (.yield n) #[] #[],Hn Bx,Hn W.1.size,Hp ((j:Nat):Int),Hn b,undef,undef,undef,.func (.yield n) #[] #[],Ho Bx 1,.slice Q x.2.length ic,Hp (x.2.length:Int),Hp<|(x.2.length:Int)+1,Ho Bx 2,.slice a5 d.length c5,.slice a6 d.length c6,.agg #[.slice a6 d.length c6,Hq],.bool true,.bool false,Ho Bx 1,.slice Q x.2.length ic,.func (.func 181) #[] #[Hn p.1.size],Hp ((j:Nat):Int),mj x.2[j],undef,undef,undef,undef,undef,undef,undef,undef,undef,undef,undef,undef,undef,undef,undef,undef,undef,undef,undef,undef,undef,undef,undef,undef,undef,undef,undef,undef,undef],[]⟩/\K.1.size<=b/\Jk V b 0 x.2[j]) ?ownA ?assign ?body ?done ?stop
 case inss=>
  obtain⟨g7,g8,es,g6,_,f1,_,_,f4⟩:=dc.3;simp only[aV]at f1;have gi:es=Q:=by
   have g:=oB ev I3.o (by show Bx<_;have:=v.4;omega);rw[f1]at g;injection g with g;injection g
  rw[<-gi];exact f4
 case ownI=>
  rintro h S V row⟨a,m,H,A,t,p5⟩ k q;have dz:∀l,l<K.1.size->V.1[l]?=S.1[l]?:=λl hi=>k.5 l oM (λe=>by have:=(q l e.symm).1;omega);refine⟨a,m,X.o a S V row H k λbd e=>⟨oN<|(q bd e).1,(q bd e).2⟩,A.same (λl hi=>dz l<|aX hi L.o) k.4,?_,aJ p5 k.4⟩;exact(Xc<|dz _ g5).trans t
 case ownX=>
  rintro c h S V row⟨rfl,a,p0,m⟩ k q;exact⟨rfl,a,p0,cc.o a S V row m k λbd e=>⟨oN<|(q bd e).1,(q bd e).2⟩⟩
 case start=>exact⟨[⟨x.2.length+1,a6,c6,d,none,0,[]⟩],rfl,e9.o,dc.o,fz.o,aA⟩
 case ownA=>
  rintro j a' _ S V row⟨b,e,dw,y⟩ k q;have gf:V.1[b]?=S.1[b]?:=by
   obtain⟨o,f,i⟩:=Yn y.1;refine k.5 b (aS.1 f).1 λe=>?_;obtain⟨_,o2,g,h4⟩:=q b e.symm;rw[show S.1[b]?=some o from f]at g;injection g with g;subst g;rw[i]at h4;cases h4
  have s:=λo=>Xc (o:=o) gf;exact⟨b,e,dw,(s _).trans y.1,(s _).trans y.2.1,(s _).trans y.2.2.1,(s _).trans y.2.2.2.1,(s _).trans y.2.2.2.2⟩
 case assign=>
  intro R h j V N hI hK;have HI:=Xa hI;have fb:=Xa hK;clear hI hK;unfold mj;gi_wp2;have Y:Below V.1.size V (V.alloc<|.cells #[Hp x.2[j].1,Hp x.2[j].2,Hp x.2[j].a,Hp x.2[j].b,Hp x.2[j].5] 66):=Xb (Below.refl _ _) _;obtain⟨a,m,H,A,t,p5⟩:=HI.o;refine fb.o _ _ ⟨Y.4,λk o _ f _=>(Y.5 k (aS.1 f).1).trans f⟩ (Zf.of_below Y<|oP L.o v.8) ⟨a,m,XO X.o H Y,A.below Y<|oN L.o,oB Y t oM,aJ p5 Y.4⟩ ⟨V.1.size,rfl,p5,?_⟩;exact⟨by simp[go_sem],by simp[go_sem],by simp[go_sem],by simp[go_sem],by simp[go_sem]⟩
 case body=>
  rintro R h j a' V hm _⟨a,m,H,A,t,p5⟩ ⟨b,rfl,dw,y⟩ hn;have D:=Xa m;have cd:=Xa H;have bm:=Xa A;have gs:=gt.o x.2[j] (aH _);obtain⟨kk,b0⟩:=bX (show 0<=x.2[j].1 by omega);have eg:1<=kk:=oM;have ei:kk<=13:=oM;have ge:b<V.1.size:=aI V _ y.1;have ab:Hs (Jk V b 0 ⟨(kk:Int),x.2[j].2,x.2[j].a,x.2[j].b,x.2[j].5⟩):=Xa (by rw[<-b0];exact y);have en:Iw ⟨(kk:Int),x.2[j].2,x.2[j].a,x.2[j].b,x.2[j].5⟩=Iw x.2[j]:=by rw[<-b0]
  have eq:BW ⟨(kk:Int),x.2[j].2,x.2[j].a,x.2[j].b,x.2[j].5⟩=BW x.2[j]:=by rw[<-b0]
  have E:=Xa<|vf b kk x.2[j].2 x.2[j].a x.2[j].b x.2[j].5 V.drew (Xa ab.o) eg ei (Xa bm.1);have bn:Hs (∀V',Below V.1.size V V'->_):=Xa (λV' (hV:Below V.1.size V V')=>UH b x.2[j].2 x.2[j].a x.2[j].b x.2[j].5 V' (Xa (by
   have s:=λo=>hV.cell (p:=Hk b o) ge
   exact⟨(s _).trans ab.1,(s _).trans ab.2.1,(s _).trans ab.2.2.1,(s _).trans ab.2.2.2.1,(s _).trans ab.2.2.2.2⟩)) eg ei (Xa (bm.below hV<|oN L.o).1))
  rw[en]at E;simp only[eq]at bn;obtain⟨ui,b1⟩:∃I,I=Iw x.2[j]:=⟨_,rfl⟩;obtain⟨di,bv⟩:∃I,I=BW x.2[j]:=⟨_,rfl⟩;rw[<-b1]at E;simp only[<-bv]at bn;have cg:=Xa b1;have b6:=Xa bv;have hs:ui.length<=2:=by rw[b1];exact oU _
  have hg:di.length<=1:=by rw[bv];unfold BW;split<;>simp
  clear b1 bv en eq y m H A b0 gs;have ce:Hs (a.length<x.2.length+1):=Xa (by
   have F:=fI List.length D.o;simp at F;omega)
  have hw:IntKind.i64.wrap (((j:Nat):Int)+1)=((j:Nat):Int)+1:=by have:=j.2;rw[dF];omega
  gi_wp2;refine Tc (λB=>B.cell? (Hk W.1.size 0)=some (.func (.yield n) #[] #[])) λhHeld=>?_;refine Yi 0 ?_;refine Yi 1 ?_;refine Yi 2 ?_;refine Yc 3 λN hK=>?_;go_simp;refine⟨trivial,(CallsIn.inRound R<|bM.2 E.o).mono ?_⟩;rintro e V1⟨v1,rfl,ad,ek⟩;obtain⟨a1,c1,rfl,d0⟩:=Xk ek;have aa:Hs (Below V.1.size V V1):=Xa ⟨ad.1,ad.2,ad.3,ad.4,ad.5⟩;have cz:Hs (Xf V1 V.1.size V1.1.size a1 ui):=Xa d0;have y1:=(XU aa.o oM).trans t;have M:=Xa<|Yz ui.length c1 cz (Xa rfl) oM aA;clear ad ek d0 E;refine hK _ _ y1 λhHeld=>?_;clear hK;refine Yc 4 λN hK=>?_;go_simp;refine⟨trivial,(CallsIn.inRound R<|bM.2 M.o).mono ?_⟩;rintro e V2⟨a2,c2,rfl,ds,ea⟩;have bf:=Xa<|Xg aa.o ds;have c7:=Xa<|ea.mono aa.4 aA;have y2:=(XU bf.o oM).trans t;have dd:=Xa<|bn.o V2 bf.o;clear ds ea M bn y1 cz aa;refine hK _ _ y2 λhHeld=>?_;clear hK;refine Yc 5 λN hK=>?_;go_simp;refine⟨trivial,(CallsIn.inRound R<|bM.2 dd.o).mono ?_⟩;rintro e V3⟨v3,rfl,bq,el⟩;obtain⟨a3,c3,rfl,eb⟩:=Xk el;have c8:=Xa<|(c7.keep bq).mono aA bq.4;have bh:=Xa<|Xg bf.o bq;have c9:=Xa eb;have C:=(XU bh.o oM).trans t;have M:=Xa<|Yz di.length c3 c9 (Xa rfl) oM aA;clear bq el eb dd y2 bf c7 c9;refine hK _ _ C λhHeld=>?_;clear hK;refine Yc 6 λN hK=>?_;go_simp;refine⟨trivial,(CallsIn.inRound R<|bM.2 M.o).mono ?_⟩;rintro e V4⟨a4,c4,rfl,w,ec⟩;have ey:=Xa<|(c8.keep w).mono aA w.4;have U:=Xa<|Xg bh.o w;have ez:=Xa<|ec.mono bh.4 aA;have y4:=(XU U.o oM).trans t;clear w ec M C bh c8;refine hK _ _ y4 λhHeld=>?_;clear hK;refine Yi 7 ?_;have ac:J.1.size<=V.1.size:=oN L.o;have fq:=Xa<|bm.below U.o ac;obtain⟨fn,tmps,df,bo,P,r⟩:=KY (l':=R) (m':=4) (HY.o a ⟨(j:Nat)+1,a2,c2,ui,a4,c4,di⟩ V4 (XO X.o cd.o U.o) ⟨ci.o _ (by have F:=t6 x j;unfold VH at F;rw[<-cg.o,<-b6.o]at F;exact F),ey.mono ac<|aA,ez.mono ac<|aA⟩ (oN ce.o));have G:(Instr.yield n #[Hp<|((j:Nat):Int)+1,.agg #[.slice a2 ui.length c2,.slice a4 di.length c4]]).run prog V4=_:=P;clear P;refine Yc 8 λN hK=>?_;go_simp;refine r.mono ?_;rintro e V5 (⟨rfl,az,Z,a9⟩|⟨rfl,az,Z,a9⟩);rotate_left
  .have y5:=Z.cell y4<|a8.o _ bc;have ca:=Xa az;have bl:=Xa Z;have b7:=Xa a9;clear az Z a9 G r;refine hK _ _ y5 λhHeld=>?_;clear hK;refine Yi 9 ?_;refine ZV ?_;gi_wp2;have bb:=(Zf.of_below U.o<|aJ v.8 ac).trans bl.o;refine⟨⟨bb.1,λk o f i g=>b7.2 k o oM ((U.5 k (aS.1 i).1).trans i) g⟩,rfl,a++[⟨(j:Nat)+1,a2,c2,ui,a4,c4,di⟩],?_,ca.o⟩;rw[bG,D.o,bG];show _=(x.2.length+1,d,[])::(h.map (VH x)++[VH x j]);rw[<-cW];congr 1;unfold VH Pl.dat;simp only[eH,fZ];rw[cg.o,b6.o]
  have y5:=Z.cell y4<|a8.o _ bc;have ca:=Xa az;have bl:=Xa Z;have b7:=Xa a9;clear az Z a9 G r;refine hK _ _ y5 λhHeld=>?_;clear hK
  try simp only[xX]
  refine Yi 9 ?_;refine ZV ?_;gi_wp2;have bb:=(Zf.of_below U.o<|aJ v.8 ac).trans bl.o;refine⟨⟨bb.1,λk o f i g=>b7.2 k o oM ((U.5 k (aS.1 i).1).trans i) g⟩,bb,a++[⟨(j:Nat)+1,a2,c2,ui,a4,c4,di⟩],?_,ca.o,fq.kp bl.o hM.o bp.o dl.o dn.o,y5,aJ p5 bb.1⟩;rw[bG,D.o,bG];show _=(x.2.length+1,d,[])::(h.map (VH x)++[VH x j]);rw[<-cW];congr 1;unfold VH Pl.dat;simp only[eH,fZ];rw[cg.o,b6.o]
 case done=>
  rintro be ys V hD rfl⟨a,m,H,A,t,p5⟩ a7;have D:=Xa m;have cd:=Xa H;have bm:=Xa A;have ao:=Xa a7;have fe:=Xa t;obtain⟨g7,g8,es,g6,f0,f1,_,f3,_⟩:=A.3;have fi:=Xa f3;have ga:Bx<V.1.size:=aI V _ f0;have f7:=λo=>(bP V o (Hk Bx 0) ga).trans f0;have gv:W.1.size<V.1.size:=oM;clear f1 f3 m H A a7 f0 t;obtain⟨i0,gh,g0,g3,g4⟩:=fX RF;gi_wp2;clear f7
  gi_loopw [38] (λl wr=>∃k:Nat,k<=x.1.length/\l=Hp k/\Hs (Below V.1.size V wr)/\wr.cell? (Hk V.1.size 0)=some Hq/\wr.frozen? (Hk V.1.size 1)=false/\∃I,wr.cell? (Hk V.1.size 1)=some I/\Hs (wr.ownsRow (V.1.size+1) 109 1 I k (((x.1.map Ph.dst).take k).map (Value.int .i64)))) λl _=>x.1.length-(intOf l).toNat
  case atStart=>exact⟨0,aN,rfl,Xa<|Xb (Below.refl _ _) _,by simp[go_sem],by simp[go_sem],Hq,by simp[go_sem],Xa<|dA⟩
  obtain⟨k,hh,rfl,T,c0,z1,I,c1,HO⟩:=hrel;by_cases ej:k<x.1.length
  .obtain⟨f6,o,rfl,hf,ap,cp,f,i,_⟩:=fi.o k ej;have du:f6<V.1.size:=aI V _ f;have g1:=oB T f du;have g2:=oB T i du;have HN:Hs ((x.1.map Ph.dst).take (k+1)=(x.1.map Ph.dst).take k++[x.1[k].1]):=Xa (by rw[X7<|by simpa using ej];simp);have co:V.1.size<wr.1.size:=aI wr _ c0;clear f i;generalize x.1[k]=ph at*;generalize (x.1.map Ph.dst).take k=dk at*
   gi_wp2_with (gi_at_builtin;refine wpListIn_append_own _ rfl _ _ 182 rfl (V.1.size+1) 109 i0 (Hp 0) 1 8 underlying182 gh g0 g3 g4 rfl vY _ _ _ rfl ((HO.alloc _).alloc _) (Hk (wr.1.size+1) 0) 1 1 [Hp ph.1] rfl rfl ?c1 ?c2 ?c3 ?c4 ?c5 ?_)
   case c1=>
    intro j I hj
    match j,hj with
    |0,hj=>simp at hj;subst hj;simp[Addr.add,go_sem]
   case c2=>intro I hu;simp at hu;subst hu;rfl
   case c3=>unfold maxLen;omega
   case c4=>omega
   case c5=>simp;omega
   intro v1 w1 cn ck _;obtain⟨av,cv,hv,_⟩:=Xk (xs:=dk++[ph.1]) (by rw[Yl];exact cn);have HV:=Xa hv;have db:=Xa cn;have aa:=Xa (Xy (Xb (Xb T.o _) _) ck ((HO.alloc _).alloc _) oM (by have:=T.4;simp;omega));have bt:=YJ ck ((HO.alloc _).alloc _) (b:=V.1.size) oM (by simp;omega);have k0:=(Xc bt).trans (oB (Xb (Xb (Below.refl wr.1.size wr) _) _) c0 co);have k1:=(Xc bt).trans (oB (Xb (Xb (Below.refl wr.1.size wr) _) _) c1 co);have kz:w1.frozen? (Hk V.1.size 1)=false:=by
    rw[bJ (a:=(Hk V.1.size 1)) bt];exact((Xb (Xb (Below.refl wr.1.size wr) _) _).frozen (p:=Hk V.1.size 1) co).trans z1
   clear cn ck bt c0 c1 z1;rw[hv];clear hv;gi_wp2;have cr:=HV.o;rw[aQ,bA,bO,aV]at cr;rw[<-cr];clear cr;refine⟨⟨k+1,oM,gM,Xa<|aa.setCell aA _,?_,?_,v1,?_,Xa ?_⟩,by simp[intOf];omega⟩;·exact(@cJ w1 (Hk V.1.size 1) (Hk V.1.size 0) v1 sP).trans k0
   .exact(eX _ _ _ _).trans kz
   .exact iL w1 _ v1<|by rw[k1];rfl
   rw[HN.o,Yl];exact db.kept (row:=some V.1.size) ⟨rfl,rfl,rfl,by simp[World.setCell],λk _ hk=>Below.heap_setCell _ _ _ _ λe=>hk<|by rw[e]⟩ (aZ λe=>by have:=(db.lt _ e).1;omega)
  have gr:k=x.1.length:=oM;subst gr;have cm:=HO.o;rw[aW sP]at cm;obtain⟨av,cv,rfl,ef⟩:=Xk cm;have e8:=Xa ef;have ac:J.1.size<=V.1.size:=oN L.o
  have gg:=(aS.1 ao.o).1;have cx:=Xa<|(T.5 be gg).trans ao.o;have yr:=oB T fe.o gv;have ce:Hs (a.length=x.2.length+1):=Xa (by
   have F:=fI List.length D.o;simp[Vf]at F;omega)
  clear cm ef;obtain⟨fn,tmps,df,bo,P,r⟩:=HY.o a ⟨0,none,0,[],av,cv,x.1.map Ph.dst⟩ wr (XO X.o cd.o T.o) ⟨ci.o _<|tE x,λl hi=>absurd hi sP,e8.mono oM<|aA⟩ (oN ce.o);have G:(Instr.yield n #[Hp 0,.agg #[Hq,.slice av (x.1.map Ph.dst).length cv]]).run prog wr=_:=P;rw[bK]at G c1;clear P;gi_wp2;refine r.mono ?_;rintro e V9 (⟨rfl,a0,cl,ba⟩|⟨rfl,a0,cl,ba⟩);rotate_left
  .have cb:=Xa a0;have al:=Xa<|ba.2 be _ oM cx.o rfl;clear a0 cl ba G r;gi_wp2;refine YK al.o ⟨.tuple #[],gV rfl _ _ _,⟨_,rfl⟩,.inr ⟨a++[⟨0,none,0,[],av,cv,x.1.map Ph.dst⟩],?_,cc.putObj _ cb.o oM al.o rfl⟩⟩;rw[bG,D.o,aq.o];exact mD _
  have cb:=Xa a0;have al:=Xa<|ba.2 be _ oM cx.o rfl;clear a0 cl ba G r;gi_wp2;refine YK al.o ⟨.tuple #[],gV rfl _ _ _,⟨_,rfl⟩,HE.o (a++[⟨0,none,0,[],av,cv,x.1.map Ph.dst⟩]) _ ?_ (X.putObj _ cb.o oM al.o rfl)⟩;rw[bG,D.o,aq.o];rfl
 rintro be c h V hD⟨q,hq⟩ ⟨rfl,a,p0,m⟩ a7;have fc:=Xa p0;have HQ:=Xa hq;clear p0 hq;have D:=Xa m;have ao:=Xa a7;clear m a7;gi_wp2;refine YK ao.o ⟨.tuple #[],gV rfl _ _ _,⟨_,rfl⟩,.inr ⟨a,?_,cc.putObj _ D.o oM ao.o rfl⟩⟩;rw[fc.o,aq.o,HQ.o];obtain⟨g9,ht⟩:=Bu x.2.length q;refine⟨g9.map (VH x)++[(0,[],x.1.map Ph.dst)],?_⟩;unfold NS;rw[cW,<-cK,<-bG,ht]
end
theorem lf.seqN{c:Type}{F:Fence}{i:c->Zh}{g:c->Vy}{d:Ub->Vy}{S Sp:List c->Prop}(h:lf F n R m E (λ_=>i) (λ_=>g) d S Sp k False False w):pp F n R m E i g d S k w:=by
 intro A J W q t j r o;refine(h A (λ_=>J) (λ_ _=>False) W q t (λ_=>j) (λ_ _ _ _ h _ _=>h) (λf=>f.elim) (λf=>f.elim) (λz l B V _ b v u=>(r l B V b v u).mono λe D h=>bC h) λz V _ _ a=>j [] W V none o ⟨a.1,a.2,a.3,a.4,λy s _=>a.5 y s⟩ λG e=>by cases e).mono ?_;rintro e V⟨x,⟨z,C,_,p,b⟩|⟨l,_,f⟩⟩;·exact⟨x,C,p,b⟩
 exact f.elim
theorem BM{Bx:Nat}(a:Vv)(c:Nat×Wc×Wc->Prop)(b:Hs (P0 q n m Bx w.1.size w))(d:Hs (∀k,n<=k->k<m->¬a k))(h:Hs (¬a Bx))(g:Hs (∀k,w.1.size<=k->¬a k))(e:Hs (¬a 1))(f:Hs (¬a 2))(o:Hs (∀y∈q.2,1<=y.1/\y.1<=13))(p:1<=q.3.1/\q.3.1<=3)(j:q.2.length<=4000)(l:q.1.length<=4000)(i:Hs (∀r∈NS q,c r)):
 pp Fence.wide 7 prog 147 #[Hn Bx] pf (og w.1.size c) (Zf w.1.size a) (λs=>s.map Pl.dat=NS q) (q.2.length+2) w :=
 lf.seqN (uy w.1.size Bx n m a c q w (Xa ⟨b.1,b.2,b.3,b.4,b.5,b.6,b.7,aA⟩) d h g e f o p j l i)
structure Pp(w Y:Ub)(V:Nat)(a:Uy)(n c Kw:Nat)(xs:Wi)(Gi LB Go:Nat)(go:Wk)(WO:Vp):Prop where
 low:Below w.1.size w Y
 f0:Y.cell? ⟨w.1.size,0,none⟩=some (.int .i64 (V:Int))
 f1:Y.cell? ⟨w.1.size,1,none⟩=some (.slice a n c)
 r0:Y.cell? ⟨w.1.size+1,0,none⟩=some (.slice none 0 0)
 r1:Y.cell? ⟨w.1.size+1,1,none⟩=some (.slice none 0 0)
 rz:∀q,Y.frozen? ⟨w.1.size+1,q,none⟩=false
 gi:Y.rowIs Gi 103 n λ_=>.slice none 0 0
 l0:Y.cell? ⟨LB,0,none⟩=some (.slice (some ⟨Gi,0,none⟩) n n)
 l1:Y.cell? ⟨LB,1,none⟩=some (.slice (some ⟨Go,0,none⟩) n n)
 o:XK Y Go n Kw go (λ_=>Kw) WO
 wd:XQ WO
 has:∀b,b<n->∀v,Xh (WO b) v=true↔(b,v)∈Nr xs n
 b1:w.1.size+2<=Gi
 b2:w.1.size+2<=LB
 b3:w.1.size+2<=Go
 b4:∀i,i<n->w.1.size+2<=go i
 d1:Gi≠LB
 d2:Gi≠Go
 d3:LB≠Go
 d4:∀i,i<n->go i≠Gi/\go i≠LB
theorem tT(F:Fence)(n:Nat)(b:F.1 102)(c:F.4=none){v1 v2 v3 v4 v5:Uj}(w:Ub):
 CallsIn F n prog 102 #[.agg #[a,v1,v2,v3,v4,v5]] w λe d=>e=.returned (.func (.func 147) #[] #[.pointer (some ⟨w.1.size,0,none⟩)])/\d=w.alloc (.cells #[a,v1,v2,v3,v4,v5] 60):=by
 refine iD func102 rfl b ?_ c;simp only[ntmps102,xY,Nat.reduceAdd,Nat.reduceSub];gi_wp2;go_ret;exact⟨rfl,rfl⟩
theorem XK.setCell(h:XK w n m k f F M)(p:Addr)(v:Uj)(b:p.1≠n)(c:∀i,i<m->p.1≠f i):XK (w.setCell p v) n m k f F M :=
 ⟨h.1.setOther (λe=>b e.symm) v,λi a=>(h.2 i a).setOther (λe=>c i a e.symm) v,h.3,h.o⟩
theorem VR{go:Wk}(H:Below w.1.size w v)(L:v.1.size=w.1.size+2)(h:Below v.1.size v u)(E:v.cell? ⟨w.1.size,0,none⟩=some (.int .i64 (n:Int)))(f1:v.cell? ⟨w.1.size,1,none⟩=some (.slice p m c))(I:v.cell? ⟨w.1.size+1,0,none⟩=some (.slice none 0 0))(J:v.cell? ⟨w.1.size+1,1,none⟩=some (.slice none 0 0))(rz:∀q,v.frozen? ⟨w.1.size+1,q,none⟩=false)(t:u.rowIs B 103 m λ_=>.slice none 0 0)(y:u.rowIs g 106 2 λ_=>.slice none 0 0)(z:XK u i m k go (λ_=>k) M)(K:XQ M)(G:∀j,j<m->∀s,Xh (M j) s=true↔(j,s)∈Nr x m)(A:w.1.size+2<=B)(b2:w.1.size+2<=g)(C:w.1.size+2<=i)(D:∀b,b<m->w.1.size+2<=go b)(a:i≠g/\B≠g/\B≠i/\∀b,b<m->go b≠B/\go b≠g):
 Pp w ((u.setCell ⟨g,0,none⟩ (.slice (some ⟨B,0,none⟩) m m)).setCell ⟨g,1,none⟩ (.slice (some ⟨i,0,none⟩) m m)) n p m c k x B g i go M:=by
 have r:=(y.set 0<|Hl B m m).set 1 (Hl i m m);have f:∀d:Addr,d.1<v.1.size->d.1≠g->((u.setCell (Hk g 0) (Hl B m m)).setCell (Hk g 1) (Hl i m m)).cell? d=v.cell? d:=λd F o=>
  (bH _ _ _ _ λe=>o e.symm).trans ((bH _ _ _ _ λe=>o e.symm).trans (h.cell F))
 refine⟨((Xg H h).setCell (by show w.1.size<=g;omega) _).setCell (by show w.1.size<=g;omega) _,(f _ (by show w.1.size<_;omega) (by show w.1.size≠g;omega)).trans E,(f _ (by show w.1.size<_;omega) (by show w.1.size≠g;omega)).trans f1,(f _ (by show w.1.size+1<_;omega) (by show w.1.size+1≠g;omega)).trans I,(f _ (by show w.1.size+1<_;omega) (by show w.1.size+1≠g;omega)).trans J,λq=>?_,(t.setOther a.2.1 _).setOther a.2.1 _,(r.cell (i:=0) vY).trans sP,(r.cell (i:=1) vY).trans sP,(z.setCell _ _ (λe=>a.1 e.symm) λb l e=>(a.2.2.2 b l).2 e.symm).setCell _ _ (λe=>a.1 e.symm) λb l e=>(a.2.2.2 b l).2 e.symm,K,G,A,b2,C,D,a.2.1,a.2.2.1,λe=>a.1 e.symm,a.2.2.2⟩;exact(eX _ _ _ _).trans ((eX _ _ _ _).trans ((h.frozen (p:=Hk (w.1.size+1) q) (by show w.1.size+1<_;omega)).trans (rz q)))
structure VD where
 w:Ub
 V:Nat
 n:Nat
 c:Nat
 Kw:Nat
 K2:Nat
 a:Uy
 xs:Wi
 Gi:Nat
 LB:Nat
 Go:Nat
 DB:Nat
 Gd:Nat
 Gn:Nat
 bS:Nat
 gS:Nat
 sA:Nat
 s3:Nat
 M:Nat
 go:Wk
 gd:Wk
 WO:Vp
structure PE where
 gi:Wk
 ci:Wk
 WI:Vp
 WD:Vp
 nx:Vu
 Ws:Wk
 vS:Uj
 Lf:Wa
structure PO(p:VD):Prop where
 a1:p.w.1.size+2<=p.9/\p.9<p.sA
 a2:p.w.1.size+2<=p.LB/\p.LB<p.sA
 a3:p.w.1.size+2<=p.Go/\p.Go<p.sA
 a4:∀i,i<p.n->p.w.1.size+2<=p.go i/\p.go i<p.sA
 d1:p.9≠p.LB
 d2:p.9≠p.Go
 d3:p.LB≠p.Go
 d4:∀i,i<p.n->p.go i≠p.9/\p.go i≠p.LB
 a5:p.sA<=p.Gd/\p.Gd<p.s3
 a6:∀i,i<p.n->p.sA<=p.gd i/\p.gd i<p.s3
 a7:p.DB=p.s3
 a8:p.Gn=p.s3+1
 a9:p.s3+2<=p.bS/\p.bS<p.M
 a10:p.s3+2<=p.gS/\p.gS<p.M
 a11:p.bS≠p.gS
def N6(a:Wi)(i:Nat):Wc:=(a[i]?).elim [] λx=>x.3.tg
theorem VS(h:n<x.length):N6 x n=x[n].3.tg:=by simp[N6,h]
structure Oi(p:VD)(W:Ub)(k:Nat)(d:PE):Prop where
 low:Below p.w.1.size p.w W
 sz:p.M<=W.1.size
 f0:W.cell? ⟨p.w.1.size,0,none⟩=some (.int .i64 (p.V:Int))
 f1:W.cell? ⟨p.w.1.size,1,none⟩=some (.slice p.a p.n p.c)
 r0:W.cell? ⟨p.w.1.size+1,0,none⟩=some (.slice none 0 0)
 r1:W.cell? ⟨p.w.1.size+1,1,none⟩=some (.slice none 0 0)
 rz:∀q,W.frozen? ⟨p.w.1.size+1,q,none⟩=false
 l0:W.cell? ⟨p.LB,0,none⟩=some (.slice (some ⟨p.9,0,none⟩) p.n p.n)
 l1:W.cell? ⟨p.LB,1,none⟩=some (.slice (some ⟨p.Go,0,none⟩) p.n p.n)
 d0:W.cell? ⟨p.DB,0,none⟩=some (.slice (some ⟨p.Gd,0,none⟩) p.n p.n)
 o:XK W p.Go p.n p.5 p.go (λ_=>p.5) p.WO
 inr:W.rowIs p.9 103 p.n λi=>if i<k then .slice (some ⟨d.1 i,0,none⟩) p.5 (d.2 i)else .slice none 0 0
 ins:∀i,i<k->Cp W (d.1 i) p.5 (d.2 i) (d.3 i)
 inj:∀i j,i<k->j<k->d.1 i=d.1 j->i=j
 igM:∀i,i<k->p.M<=d.1 i
 defs:XK W p.Gd p.n p.5 p.gd (λ_=>p.5) d.4
 nxr:W.rowIs p.Gn 41 p.n λi=>if i<k then d.5 i else .slice none 0 0
 nxs:∀i,i<k->∃a' c',d.5 i=.slice a' (N6 p.8 i).length c'/\Yv W (λb=>p.M<=b/\(∀j,j<k->b≠d.1 j)/\some b≠d.7.ownBlock) a' (N6 p.8 i)
 sea:YW W p.bS p.gS p.M p.6 p.a p.n p.c d.6 d.7 d.8
 giv:∀i,i<k->some (d.1 i)≠d.7.ownBlock
def ix{a:Type}(f:Nat->a)(k:Nat)(v:a):Nat->a:=λi=>if i=k then v else f i
theorem Zt{a:Type}(f:Nat->a)(v:a):ix f n v n=v:=by simp[ix]
theorem Zb{a:Type}(f:Nat->a)(v:a)(h:m≠n):ix f n v m=f m:=by simp[ix,h]
theorem Oi.next{p:VD}{d:PE}(h:Oi p w n d)(s:PO p)(B:n<p.n){gB CB:Nat}{I' D':Wk}{nk v':Uj}{Ws':Wk}{Lf':Wa}(R:v.4=w.4)(T:v.2=w.2)(Q:v.5=w.5)(G:w.1.size<=v.1.size)(E:∀q,q<w.1.size->q≠p.9->q≠p.gd n->q≠p.Gn->q≠p.bS->q≠p.gS->some q≠d.7.ownBlock->v.1[q]?=w.1[q]?)(ab:w.1.size<=gB)(O:Cp v gB p.5 CB I')(M:v.rowIs p.9 103 p.n λi=>if i=n then Hl gB p.5 CB else if i<n then Hl (d.1 i) p.5 (d.2 i)else Hq)(L:Cp v (p.gd n) p.5 p.5 D')(N:v.rowIs p.Gn 41 p.n λi=>if i=n then nk else if i<n then d.5 i else Hq)(P:∃m u,nk=.slice m (N6 p.8 n).length u/\Yv v (λf=>w.1.size<=f/\f≠gB/\some f≠v'.ownBlock) m (N6 p.8 n))(S:YW v p.bS p.gS p.M p.6 p.a p.n p.c Ws' v' Lf')(c:v'.ownBlock=d.7.ownBlock\/∀q,v'.ownBlock=some q->w.1.size<=q)(U:some gB≠v'.ownBlock):
 Oi p v (n+1) ⟨ix d.1 n gB,ix d.2 n CB,ix d.3 n I',ix d.4 n D',ix d.5 n nk,Ws',v',Lf'⟩:=by
 have V:=λq e=>(h.19.6.lt q e).1;have hM:=s.a9;have aa:=s.14;have hG:=s.9;have X:=h.2;have W:=h.1.4;have h7:=s.a7;have h8:=s.a8;have ac:=s.a6 n B;have k:∀q,q<p.M->q≠p.9->q≠p.gd n->q≠p.Gn->q≠p.bS->q≠p.gS->v.1[q]?=w.1[q]?:=λq t y A I J K=>E q oM y A I J K (λe=>by have:=V q e.symm;omega);have Y:=s.1;have D:=s.2;have Z:=s.3;have r:∀q o C,q<p.sA->q≠p.9->w.cell? (Hk q o)=some C->v.cell? (Hk q o)=some C:=λq o C t y z=>(Xc<|k q oM y oM oM oM oM).trans z;have H:∀q,p.M<=q->q<w.1.size->some q≠d.7.ownBlock->v.1[q]?=w.1[q]?:=λq t y A=>E q y oM oM oM oM oM A;refine⟨⟨R.trans h.1.1,T.trans h.1.2,Q.trans h.1.3,aJ W G,λq hq=>(k q oM oM oM oM oM oM).trans (h.1.5 q hq)⟩,aJ X G,r _ _ _ oM oM h.3,r _ _ _ oM oM h.4,r _ _ _ oM oM h.5,r _ _ _ oM oM h.6,λq=>?rz,r _ _ _ D.2 (λe=>s.5 e.symm) h.8,r _ _ _ D.2 (λe=>s.5 e.symm) h.9,(Xc<|k p.DB oM oM oM oM oM oM).trans h.d0,?out,?inr,?ins,?inj,?igM,?defs,?nxr,?nxs,S,?giv⟩
 case rz=>rw[bJ (a:=(Hk (p.w.1.size+1) q)) (k (p.w.1.size+1) oM oM oM oM oM oM)];exact h.7 q
 case out=>
  refine⟨h.o.1.of_block (k p.Go oM (λe=>s.6 e.symm) oM oM oM oM),λi a=>?_,h.o.3,h.o.o⟩;have:=s.4 i a;exact(h.o.2 i a).of_block (k _ oM (s.8 i a).1 oM oM oM oM)
 case inr=>
  refine M.congr λi _=>?_;by_cases e:i=n;·rw[aU e,aU oM,e];simp only[Zt]
  rw[aM e];by_cases e2:i<n;·rw[aU e2,aU oM];simp only[Zb _ _ e]
  rw[aM e2,aM oM]
 case ins=>
  intro i a;by_cases e:i=n;·subst e;simp only[Zt];exact O
  have g:i<n:=oM;simp only[Zb _ _ e];exact(h.13 i g).of_block (H _ (h.15 i g) (h.13 i g).lt (h.20 i g))
 case inj=>
  intro i j a F e;by_cases e1:i=n
  .by_cases e2:j=n;·omega
   simp only[e1,Zt,Zb _ _ e2]at e;have:=(h.13 j oM).lt;omega
  by_cases e2:j=n
  .simp only[e2,Zt,Zb _ _ e1]at e;have:=(h.13 i oM).lt;omega
  simp only[Zb _ _ e1,Zb _ _ e2]at e;exact h.14 i j oM oM e
 case igM=>
  intro i a;by_cases e:i=n;·subst e;simp only[Zt];omega
  simp only[Zb _ _ e];exact h.15 i oM
 case defs=>
  refine⟨h.16.1.of_block (k p.Gd oM oM (λe=>h.16.o n B e.symm) oM oM oM),λi a=>?_,h.16.3,h.16.o⟩;by_cases e:i=n;·subst e;simp only[Zt];exact L
  simp only[Zb _ _ e];have:=s.a6 i a;exact(h.16.2 i a).of_block (k _ oM oM (λe2=>e<|h.16.3 i n a B e2) oM oM oM)
 case nxr=>
  refine N.congr λi _=>?_;by_cases e:i=n;·rw[aU e,aU oM,e];simp only[Zt]
  rw[aM e];by_cases e2:i<n;·rw[aU e2,aU oM];simp only[Zb _ _ e]
  rw[aM e2,aM oM]
 case nxs=>
  intro i a;by_cases e:i=n
  .subst e;simp only[Zt];let⟨m,u,e1,t⟩:=P;refine⟨m,u,e1,λq hq=>?_⟩;let⟨f,o,e2,b,z⟩:=t q hq;refine⟨f,o,e2,⟨⟨oM,λj F=>?_,b.1.2.2⟩,b.2⟩,z⟩;by_cases x:j=i;·rw[x];simp only[Zt];exact b.1.2.1
   simp only[Zb _ _ x];have:=(h.13 j oM).lt;omega
  have g:i<n:=oM;simp only[Zb _ _ e];let⟨m,u,e1,t⟩:=h.18 i g;refine⟨m,u,e1,λq hq=>?_⟩;let⟨f,o,e2,b,z⟩:=t q hq;refine⟨f,o,e2,⟨⟨b.1.1,λj F=>?_,λl=>?_⟩,oM⟩,(Xc<|H f b.1.1 b.2 b.1.2.2).trans z⟩
  .by_cases x:j=n;·rw[x];simp only[Zt];omega
   simp only[Zb _ _ x];exact b.1.2.1 j oM
  obtain c|c:=c;·rw[c]at l;exact b.1.2.2 l
  have:=c f l.symm;omega
 intro i a;by_cases e:i=n;·subst e;simp only[Zt];exact U
 have g:i<n:=oM;simp only[Zb _ _ e];intro l;obtain c|c:=c;·rw[c]at l;exact h.20 i g l
 have:=c _ l.symm;have:=(h.13 i g).lt;omega
theorem ve(tg:Yr):∀(m b:Nat)(s:Wk×Wa)(P:Wa),(∀x,Xh s.1 x=true->x∈s.2\/x∈P)->∀x,Xh (C9 tg m b s).1 x=true->x∈(C9 tg m b s).2\/x∈P
 |0,_,_,_,h=>h
 |m+1,b,s,P,h=>by
  by_cases e:Xh s.1 b=true;·rw[Vd e];exact h
  have i:Xh s.1 b=false:=by simpa using e
  have g:∀(l:Wa)(c:Wk×Wa),(∀x,Xh c.1 x=true->x∈c.2\/x∈b::P)->∀x,Xh (l.foldl (λs t=>C9 tg m t s) c).1 x=true->x∈(l.foldl (λs t=>C9 tg m t s) c).2\/x∈b::P:=by
   intro l
   induction l with
   |nil=>exact λ_ h=>h
   |cons t l k=>exact λc f=>k _<|ve tg m t c (b::P) f
  rw[nY i];intro x j;obtain a|a:=g (tg b) (YH s.1 b,s.2) (λy d=>by
   rw[Z8,dI,bD]at d;rcases d with rfl|d;·exact aZ sP
   rcases h y d with a|a;·exact bC a
   exact aZ<|by simp[a]) x j
  .exact bC<|by simp[a]
  obtain rfl|a:=cH.1 a;·exact bC sP
  exact aZ a
theorem vt(tg:Yr){n:Nat}(f:∀b,b<n->∀t∈tg b,t<n):∀(m b:Nat)(s:Wk×Wa),b<n->(∀x∈s.2,x<n)->∀x∈(C9 tg m b s).2,x<n
 |0,_,_,_,h=>h
 |m+1,b,s,hb,h=>by
  by_cases e:Xh s.1 b=true;·rw[Vd e];exact h
  have j:Xh s.1 b=false:=by simpa using e
  have i:∀(l:Wa)(c:Wk×Wa),(∀t∈l,t<n)->(∀x∈c.2,x<n)->∀x∈(l.foldl (λs t=>C9 tg m t s) c).2,x<n:=by
   intro l
   induction l with
   |nil=>exact λ_ _ h=>h
   |cons t l k=>exact λc d g=>k _ (λq hq=>d q<|by simp[hq]) (vt tg f m t c (d t sP) g)
  rw[nY j];intro x a;obtain a|a:=bU.1 a;·exact i (tg b) (YH s.1 b,s.2) (f b hb) h x a
  have:x=b:=by simpa using a
  omega
theorem BD(tg:Yr){s:Wk×Wa}(b:k<n)(d:XB s.1 n<=m):Xh (C9 tg m k s).1 k=true:=by
 cases m with
 |zero=>exact KB tg 0 k s k<|T8 oM b
 |succ m=>
  by_cases a:Xh s.1 k=true;·exact KB tg _ k s k a
  have c:Xh s.1 k=false:=by simpa using a
  rw[nY c];exact Ue tg m _ _ k<|by rw[Z8];simp
def Ut(W:Wk)(q:Nat×Wc×Wc):Wk:=E2 (Js W<|X9 q.2.2) (X9 q.2.1)
def Uo(W:Wk)(q:Nat×Wc×Wc):Wk:=E2 W<|X9 q.2.2
def OS(x:Xe)(W:Wk):Wk:=(NS x).foldl Ut W
def OU(x:Xe):Wk:=(NS x).foldl Uo λ_=>0
theorem FR(h:XA f):XA (OS q f):=by
 unfold OS;generalize NS q=l
 induction l generalizing f with
 |nil=>exact h
 |cons b l a=>exact a<|Zs _ (JX _ h)
theorem JW:XA (λ_=>0):=λ_=>by show 0<_;decide
theorem uG{l:List (Nat×Wc×Wc)}(h:XA f):XA (l.foldl Uo f):=by
 induction l generalizing f with
 |nil=>exact h
 |cons q l a=>exact a<|Zs _ h
theorem Fg:XA (OU q):=uG JW
structure O2(p:VD)(k:Nat)(d:PE):Prop where
 wi:∀i (h:i<p.8.length),i<k->d.3 i=OS p.8[i] (p.WO i)
 wd:∀i (h:i<p.8.length),d.4 i=if i<k then OU p.8[i]else λ_=>0
 mem:∀x,Xh d.6 x=true->x∈d.8
 sn:∀i,i<k->Xh d.6 i=true
 lt:∀x∈d.8,x<p.n
 wok:XA d.6
 len:d.8.length+XB d.6 p.n<=p.n
theorem CN(p:VD):O2 p 0 ⟨λ_=>0,λ_=>0,λ_ _=>0,λ_ _=>0,λ_=>Hq,λ_=>0,Hq,[]⟩ :=
 ⟨λi _ h=>absurd h oM,λi _=>sP,λx h=>by simp[Z3]at h,λi h=>absurd h oM,λx h=>absurd h eA,JW,by simpa using ZA (λ_=>0) p.n⟩
theorem O2.next{p:VD}{d:PE}(h:O2 p n d)(c:n<p.n)(g:∀f,f<p.n->∀t∈X8 p.8 f,t<p.n)(k j:Wk)(nx:Vu)(v:Uj){I' D':Wk}(s:n<p.8.length)(m:I'=OS p.8[n] (p.WO n))(l:D'=OU p.8[n]):
 O2 p (n+1) ⟨k,j,ix d.3 n I',ix d.4 n D',nx,(C9 (X8 p.8) p.n n (d.6,d.8)).1,v,(C9 (X8 p.8) p.n n (d.6,d.8)).2⟩:=by
 refine⟨λi a r=>?_,λi a=>?_,λx o=>?_,λi a=>?_,?_,oW _ _ _ _ h.6,aJ (qE _ g _ _ _ c) h.7⟩
 .by_cases e:i=n;·subst e;simp only[Zt];exact m
  simp only[Zb _ _ e];exact h.1 i a oM
 .by_cases e:i=n;·subst e;simp only[Zt];rw[aU oM];exact l
  simp only[Zb _ _ e];rw[h.2 i a];by_cases e2:i<n;·rw[aU e2,aU oM]
  rw[aM e2,aM oM]
 .rcases ve (X8 p.8) p.n n (d.6,d.8) [] (λy q=>bC<|h.3 y q) x o with b|b;·exact b
  cases b
 .by_cases e:i=n;·subst e;exact BD _ c<|ZA _ _
  exact KB _ _ _ _ _<|h.4 i oM
 exact vt _ g _ _ _ c h.5
def H7(y:Yg):Int:=if dB y.1 then y.2 else -1
def Ya(v:Int)(fin:Bool):List Yg->Nat
 |[]=>if fin then 1 else 0
 |y::ys=>if Cg (Iw y) v then 1 else if H7 y=v then 2 else Ya v fin ys
def NA(x:Xe)(E:Wc)(v:Int):Nat:=Ya v (Cg (Id x.3) v||Cg E v) x.2
def pd(W:Wk)(y:Yg):Wk:=E2 (Js W<|X9 (BW y)) (X9<|Iw y)
theorem XD:Cg l t=true↔t∈l:=by unfold Cg;exact eY
theorem Cb{y:Yg}(a:∀v∈Iw y,0<=v)(b:∀v∈BW y,0<=v)(v:Nat):Xh (pd f y) v=true↔(v:Int)∈Iw y\/((v:Int)∉BW y/\Xh f v=true):=by
 unfold pd;rw[YR,Kt,dI,bD,YV a,bY,bD,YV b]
theorem YN{y:Yg}:H7 y=(n:Int)↔(n:Int)∈BW y:=by
 unfold H7 BW;by_cases e:dB y.1=true;·rw[aU e,aU e];simp[nJ]
 rw[aM e,aM e];simp
theorem xe{v:Nat}{W:Wk}:∀(a:Vr),(∀y∈a,(∀v∈Iw y,0<=v)/\∀v∈BW y,0<=v)->(Xh (a.foldr (λy c=>pd c y) W) v=true↔Ya (v:Int) (Xh W v) a=1)
 |[],_=>by
  unfold Ya;cases h:Xh W v<;>simp[h]
 |y::a,hy=>by
  have e:=xe (v:=v) (W:=W) a λz d=>hy z<|cN _ d;have b:=hy y cI;rw[List.foldr_cons,Cb b.1 b.2,e];show _↔(if Cg (Iw y) (v:Int)then 1 else if H7 y=(v:Int)then 2 else Ya (v:Int) (Xh W v) a)=1;by_cases e1:(v:Int)∈Iw y;·rw[aU<|XD.2 e1];simp[e1]
  rw[aM λh=>e1<|XD.1 h];by_cases e2:(v:Int)∈BW y;·rw[aU<|YN.2 e2];simp[e1,e2]
  rw[aM λh=>e2<|YN.1 h];simp[e1,e2]
theorem Ev{a b:Type}{l:List a}(g:Fin l.length->b):(Us l.length 0).map g=((List.finRange l.length).map g).reverse:=by
 unfold Us;rw[aW sP,List.map_reverse]
theorem E8{a:Type}(l:List a):(List.finRange l.length).map (λj=>l[j])=l:=by
 apply mG;·simp
 intro i b c;simp
theorem Ex:((Us q.2.length 0).map (VH q)).foldl Ut f=q.2.foldr (λy a=>pd a y) f:=by
 rw[Ev,List.foldl_reverse]
 conv=>rhs;rw[<-E8 q.2]
 rw[List.foldr_map,List.foldr_map];rfl
theorem vB(h:∀y∈q.2,(∀n∈Iw y,0<=n)/\∀n∈BW y,0<=n)(d:∀n∈Id q.3,0<=n)(c:∀p∈q.1,0<=p.1):
 Xh (OS q f) n=true↔(n:Int)∉q.1.map Ph.dst/\Ya (n:Int) (Cg (Id q.3) (n:Int)||Xh f n) q.2=1:=by
 unfold OS NS;rw[iM,dT,iM,List.foldl_nil,Ex];have b:∀n∈q.1.map Ph.dst,0<=n:=λn g=>by obtain⟨p,a,rfl⟩:=aY.1 g;exact c p a
 show Xh (E2 (Js _<|X9 (q.1.map Ph.dst)) (X9 [])) n=true↔_;rw[YR,Kt,dI,bD,bY,bD,YV b];rw[xe q.2 h];have e:Xh (Ut f (q.2.length+1,Id q.3,[])) n=(Cg (Id q.3) (n:Int)||Xh f n):=by
  show Xh (E2 (Js f<|X9 []) (X9<|Id q.3)) n=_;rw[YR,Kt,eQ,dI,dI,bD,YV d,XD];simp[X9]
 rw[e];simp[X9]
theorem WK(d:∀y∈q.2,∀n∈BW y,0<=n)(i:∀p∈q.1,0<=p.1):Xh (OU q) n=true↔(n:Int)∈q.1.map Ph.dst\/∃y∈q.2,(n:Int)∈BW y:=by
 have f:∀(l:List (Nat×Wc×Wc))(W:Wk),Xh (l.foldl Uo W) n=true↔Xh W n=true\/∃b∈l,n∈X9 b.2.2:=by
  intro l
  induction l with
  |nil=>intro W;simp
  |cons b l m=>
   intro W;rw[iM,m];unfold Uo;rw[YR,dI,bD];simp only[cH,exists_eq_or_imp];constructor
   .rintro((h|h)|h);·exact aZ<|bC h
    .exact bC h
    exact aZ<|aZ h
   rintro(h|h|h);·exact bC<|aZ h
   .exact bC<|bC h
   exact aZ h
 have c:∀n∈q.1.map Ph.dst,0<=n:=λn a=>by obtain⟨p,e,rfl⟩:=aY.1 a;exact i p e
 unfold OU;rw[f,Z3];unfold NS;constructor
 .rintro(h|⟨b,hq,a⟩);·cases h
  obtain rfl|hq:=cH.1 hq;·simp[X9]at a
  obtain hq|hq:=bU.1 hq
  .obtain⟨j,_,rfl⟩:=aY.1 hq;exact aZ ⟨q.2[j],aH _,(YV<|d _ (aH _)).1 a⟩
  rw[cS.1 hq]at a;exact bC<|(YV c).1 a
 rintro(h|⟨y,k,a⟩);·exact aZ ⟨_,tE q,(YV c).2 h⟩
 obtain⟨j,g,rfl⟩:=bR k;exact aZ ⟨_,t6 q ⟨j,g⟩,(YV<|d _ (aH _)).2 a⟩
theorem UQ{v:Nat}{fin:Bool}:∀(c:Vr),Ya (v:Int) fin c=0->∀y∈c,(v:Int)∉BW y
 |[],_,_,h=>by cases h
 |z::zs,h,y,b=>by
  have a:(if Cg (Iw z) (v:Int)then 1 else if H7 z=(v:Int)then 2 else Ya (v:Int) fin zs)=0:=h;by_cases e1:Cg (Iw z) (v:Int)=true;·rw[aU e1]at a;cases a
  rw[aM e1]at a;by_cases e2:H7 z=(v:Int);·rw[aU e2]at a;cases a
  rw[aM e2]at a;obtain rfl|b:=cH.1 b;·exact λd=>e2<|YN.2 d
  exact UQ zs a y b
theorem Ud{v:Nat}{fin:Bool}:∀(a:Vr),(∀y∈a,(v:Int)∉BW y)->Ya (v:Int) fin a≠2
 |[],_=>by unfold Ya;split<;>simp
 |z::zs,h=>by
  show(if Cg (Iw z) (v:Int)then 1 else if H7 z=(v:Int)then 2 else Ya (v:Int) fin zs)≠2;by_cases e1:Cg (Iw z) (v:Int)=true;·rw[aU e1];simp
  rw[aM e1,aM λe2=>h z cI<|YN.1 e2];exact Ud zs λy b=>h y<|cN _ b
theorem Vg{v:Int}{fin:Bool}:∀(a:Vr),Ya v fin a<=2
 |[]=>by unfold Ya;split<;>simp
 |z::zs=>by
  show(if Cg (Iw z) v then 1 else if H7 z=v then 2 else Ya v fin zs)<=2;split
  .decide
  split
  .decide
  exact Vg zs
theorem TV{v:Int}{fin:Bool}:∀(c:Vr),Ya v fin c=1->fin=true\/∃y∈c,v∈Iw y
 |[],h=>by
  have a:(if fin then 1 else 0)=1:=h;cases fin<;>simp_all
 |z::zs,h=>by
  have a:(if Cg (Iw z) v then 1 else if H7 z=v then 2 else Ya v fin zs)=1:=h;by_cases e1:Cg (Iw z) v=true;·exact aZ ⟨z,cI,XD.1 e1⟩
  rw[aM e1]at a;by_cases e2:H7 z=v;·rw[aU e2]at a;cases a
  rw[aM e2]at a;obtain b|⟨y,d,b⟩:=TV zs a;·exact bC b
  exact aZ ⟨y,cN _ d,b⟩
def G2(a:List Xe)(p t:Int):List Int:=match a[t.toNat]? with
 |none=>[]
 |some x=>if x.1=[]then []else (List.range (AQ a 0 t).length).flatMap λi=>if (AQ a 0 t).getD i 0=p then x.1.map (λh=>h.2.getD i 0)else []
def XP(a:List Xe)(b:Nat):List Int:=match a[b]? with
 |none=>[]
 |some x=>x.3.tg.flatMap<|G2 a (b:Int)
theorem KE(q:Jy n x)(l:m<x.length):(k:Int)∈XP x m↔(m,k)∈Nr x x.length:=by
 have j:=λH G t a=>(q.1.3 H G t a).1
 have D:(k:Int)∈XP x m↔∃t:Nat,∃a:t<x.length,∃i,i<(XX x x.length t).length/\(XX x x.length t).getD i 0=m/\∃p∈x[t].1,p.2.getD i 0=(k:Int):=by
  unfold XP;rw[aC l];simp only[bV];constructor
  .rintro⟨t,a,d⟩;have u:=q.1.3 _ (aH l) t a;obtain⟨h,rfl⟩:=bX u.1;have y:h<x.length:=oN u.2;refine⟨h,y,?_⟩;unfold G2 at d;rw[dM,aC y]at d;simp only at d;by_cases e:x[h].1=[];·rw[aU e]at d;cases d
   rw[aM e]at d;let⟨i,c,b⟩:=bV.1 d;rw[K9 j]at c b;have v:i<(XX x x.length h).length:=by simpa [Xi]using c
   by_cases e2:(Xi<|XX x x.length h).getD i 0=(m:Int)
   .rw[aU e2]at b;let⟨p,f,s⟩:=aY.1 b;refine⟨i,v,?_,p,f,s⟩;simp only[Xi,bF,dX,aC v,jY,gR]at e2 |-;have:((XX x x.length h)[i]:Int)=(m:Int):=e2;omega
   rw[aM e2]at b;cases b
  rintro⟨t,a,i,c,g,p,b,f⟩
  have E:m∈XX x x.length t:=by
   rw[<-g,bF,aC c];exact aH c
  have F:(t:Int)∈x[m].3.tg:=by
   have:=(Uf.1 E).2;rw[Km l]at this;let⟨A,r,e⟩:=aY.1 this;have:=j _ (aH l) A r;rw[show(t:Int)=A by omega];exact r
  refine⟨(t:Int),F,?_⟩;unfold G2;rw[dM,aC a];simp only;rw[aM (λe=>by rw[e]at b;cases b),K9 j];refine bV.2 ⟨i,by simpa [Xi]using c,?_⟩;rw[aU (by
   simp only[Xi,bF,dX,aC c,jY,gR]at g |-;show((XX x x.length t)[i]:Int)=(m:Int);rw[g])]
  exact aY.2 ⟨p,b,f⟩
 rw[D];unfold Nr PW Og;rw[bV];constructor
 .rintro⟨t,a,i,c,g,p,b,f⟩;refine⟨t,bE.2 a,?_⟩;rw[aC a];refine bV.2 ⟨p,b,?_⟩;have z:=(q.9 t a p b).1;rw[K9 j]at z;have I:p.2.length=(XX x x.length t).length:=by simpa [Xi]using z
  have o:i<p.2.length:=oM;rw[bF,aC o]at f;rw[bF,aC c]at g;have r:i<((XX x x.length t).zip (X9 p.2)).length:=by simp[X9];omega
  have e:((XX x x.length t).zip (X9 p.2))[i]=(m,k):=by
   rw[List.getElem_zip];simp only[X9,cM];have B:(XX x x.length t)[i]=m:=g;have C:p.2[i]=(k:Int):=f;rw[B,C];rfl
  rw[<-e];exact aH r
 rintro⟨t,a,d⟩;have a:=bE.1 a;rw[aC a]at d;let⟨p,b,f⟩:=bV.1 (show _∈List.flatMap _ x[t].1 from d);let⟨i,c,e⟩:=bR f;rw[List.getElem_zip]at e;have w:i<(XX x x.length t).length:=by simp at c;omega
 have o:i<p.2.length:=by simp[X9]at c;omega
 refine⟨t,a,i,w,?_,p,b,?_⟩
 .rw[bF,aC w];exact fI Prod.fst e
 rw[bF,aC o];have s:(X9 p.2)[i]'(by simp[X9];omega)=k:=fI Prod.snd e;simp only[X9,cM]at s;have:=(q.9 t a p b).2 p.2[i] (aH o);show p.2[i]=(k:Int);omega
def C7(a:List Xe)(b v:Nat):Nat:=match a[b]? with
 |none=>0
 |some x=>NA x (XP a b) (v:Int)
def Yo(a:List Xe)(b v:Nat):Bool:=match a[b]? with
 |none=>false
 |some x=>Cg (x.1.map Ph.dst) (v:Int)
inductive Nu (xs:List Xe) (v:Nat):Nat->Prop
 |root:Nu xs v 0
 |step {b t:Nat}:Nu xs v b->Yo xs b v=false->C7 xs b v=0->t∈X8 xs b->Nu xs v t
def N4(a:Wi)(v:Nat):Prop:=∃b,Nu a v b/\Yo a b v=false/\C7 a b v=1
theorem Nu.lt(h:UF x)(a:Nu x n m):m<x.length:=by
 induction a with
 |root=>exact h.1
 |step _ _ _ b c=>exact h.tg _ c _ b
theorem EX(d:Jy n x){q:Vp}(E:∀i (h:i<x.length),M i=OS x[i] (q i))(C:∀i (h:i<x.length),N i=OU x[i])(F:∀b,b<x.length->∀m,Xh (q b) m=true↔(b,m)∈Nr x x.length){ord:Vv}(I:∀b,b<x.length->ord b){src:Yr}(D:∀b,b<x.length->src b=X8 x b):
 Sp M N ord src 0 m↔N4 x m:=by
 have B:∀b,b<x.length->(Xh (M b) m=true↔Yo x b m=false/\C7 x b m=1):=λb a=>by
  have g:=aH a;rw[E b a,vB (λy j=>⟨λz k=>(d.5 _ g y j z k).1,λz k=>(d.6 _ g y j z k).1⟩) (λz k=>(d.7 _ g z k).1) λp o=>(d.8 _ g p o).1];unfold Yo C7 NA;rw[aC a];simp only;have r:Xh (q b) m=Cg (XP x b) (m:Int):=by rw[eQ,F b a,XD,KE d a]
  rw[r,<-gU,XD]
 have G:∀b,b<x.length->Yo x b m=false->C7 x b m=0->Xh (N b) m=false:=λb a e c=>by
  have g:=aH a;rw[C b a,<-gU,WK (λy j z k=>(d.6 _ g y j z k).1) λp o=>(d.8 _ g p o).1];unfold Yo at e;unfold C7 NA at c;rw[aC a]at e c;simp only at e c;rintro(h|⟨y,j,h⟩);·rw[XD.2 h]at e;cases e
  exact UQ _ c y j h
 have H:∀b,b<x.length->Xh (N b) m=false->Yo x b m=false/\C7 x b m≠2:=λb a h=>by
  have g:=aH a;rw[C b a,<-gU,WK (λy j z k=>(d.6 _ g y j z k).1) λp o=>(d.8 _ g p o).1]at h;unfold Yo C7 NA;rw[aC a];simp only;refine⟨?_,Ud _ λy j c=>h<|aZ ⟨y,j,c⟩⟩;rw[<-gU,XD];exact λc=>h<|bC c
 constructor
 .intro h
  have w:∀b l,Sp M N ord src b l->l=m->Nu x m b->N4 x m:=by
   intro b l u
   induction u with
   |init e=>rintro rfl f;exact⟨_,f,(B _<|f.lt d.1).1 e⟩
   |@take b K l e c A s v=>
    rintro rfl f;have a:=f.lt d.1;have t:=H b a s;have J:C7 x b l<=2:=by
     unfold C7;split;·exact aN
     exact Vg _
    by_cases r:C7 x b l=1;·exact⟨b,f,t.1,r⟩
    exact v rfl<|Nu.step f t.1 (oN t.2) (by rw[<-D b a];exact c)
  exact w 0 m h rfl Nu.root
 rintro⟨b,f,e,c⟩
 have w:∀b,Nu x m b->Sp M N ord src b m->Sp M N ord src 0 m:=by
  intro b f
  induction f with
  |root=>exact λh=>h
  |@step b L e c A s v=>
   intro u;have a:=e.lt d.1;exact v<|Sp.take (I b a) (by rw[D b a];exact s) u (G b a c A)
 exact w b f<|Sp.init ((B b<|f.lt d.1).2 ⟨e,c⟩)
theorem wH(a:Jy n x)(j:N4 x m):m<n:=by
 let⟨u,o,_,b⟩:=j;have f:=o.lt a.1;have h:=aH f;unfold C7 NA at b;rw[aC f]at b;simp only at b;obtain d|⟨y,q,d⟩:=TV _ b
 .rcases dI _ _▸d with e|e;·have:=(a.7 _ h _<|XD.1 e).2;omega
  have g:=(KE a f).1 (XD.1 e);unfold Nr PW Og at g;let⟨t,c,i⟩:=bV.1 g;have c:=bE.1 c;rw[aC c]at i;let⟨s,p,k⟩:=bV.1 (show _∈List.flatMap _ x[t].1 from i);have l:=List.of_mem_zip k;let⟨z,r,v⟩:=aY.1 l.2;have:=(a.9 t c s p).2 z r;omega
 have:=(a.5 _ h y q _ d).2;omega
section
structure OI(xs:Wi)(v:Nat)(td:Wa)(i:Nat):Prop where
 nd:td.Nodup
 op:∀x∈td,Nu xs v x
 z:0∈td
 dn:∀j (h:j<td.length),j<i->Yo xs td[j] v=true\/(C7 xs td[j] v≠1/\(C7 xs td[j] v=0->∀t∈X8 xs td[j],t∈td))
section
variable {xs: Wi} {v: Nat} {td: Wa} {i: Nat}
theorem Ci:OI xs v [0] 0:=⟨sP,λx a=>(cS.1 a)▸Nu.root,sP,λj _ h=>absurd h oM⟩
theorem OI.go(h:OI xs v td i)(c:i<td.length)(a:Yo xs td[i] v=true\/(C7 xs td[i] v≠1/\(C7 xs td[i] v=0->∀t∈X8 xs td[i],t∈td))):OI xs v td (i+1) :=
 ⟨h.1,h.2,h.z,λj b d=>if e:j=i then by subst e;exact a else h.4 j b oM⟩
theorem OI.push(h:OI xs v td i)(f:i<td.length)(l:Yo xs td[i] v=false)(c:C7 xs td[i] v=0){t:Nat}(m:t∈X8 xs td[i])(k:t∉td):OI xs v (td++[t]) i:=by
 refine⟨?_,λx a=>?_,by simp[h.z],λj r g=>?_⟩
 .rw[gW];exact⟨h.1,sP,λo ha p d=>(cS.1 d)▸λe=>k (e▸ha)⟩
 .rcases bU.1 a with a|a;·exact h.2 x a
  rw[cS.1 a];exact Nu.step (h.2 _<|aH f) l c m
 have b:j<td.length:=oM;rw[fA b];obtain q|⟨q1,q2⟩:=h.4 j b g;·exact bC q
 exact aZ ⟨q1,λe u n=>dD _<|q2 e u n⟩
theorem OI.none(h:OI xs v td i)(k:td.length<=i):¬N4 xs v:=by
 rintro⟨b,c,d,e⟩;have f:∀b,Nu xs v b->b∈td:=λb c=>by
  induction c with
  |root=>exact h.z
  |step _ q1 q2 q3 g=>
   obtain⟨j,a,rfl⟩:=bR g;obtain q|q:=h.4 j a oM;·rw[q]at q1;cases q1
   exact q.2 q2 _ q3
 obtain⟨j,a,rfl⟩:=bR<|f b c;obtain q|q:=h.4 j a oM;·rw[q]at d;cases d
 exact q.1 e
theorem OI.hit(h:OI xs v td i)(b:i<td.length)(c:Yo xs td[i] v=false)(a:C7 xs td[i] v=1):N4 xs v:=⟨_,h.2 _<|aH b,c,a⟩
theorem OI.lt(h:OI xs v td i)(a:UF xs):∀x∈td,x<xs.length:=λx b=>(h.2 x b).lt a
end
end
theorem Cr{go:Wk}(h:Pp w v n p m c k x B g i go M)(J:v.1.size<=j)(D:Below v.1.size v u)(t:XK u j m k f (λ_=>k) λ_ _=>0)(N:∀b,b<m->v.1.size<=f b){l o:Nat}(K:u.1.size+2<=l)(L:u.1.size+2<=o)(q:Below (u.1.size+2) ((u.alloc<|.cells #[.slice (some ⟨j,0,none⟩) m m] 104).alloc (.cells (madeCells #[.slice none 0 0] m) 41)) W)(r:YW W l o W.1.size ((m+63)/64) p m c (λ_=>0) (.slice none 0 0) []):
 PO ⟨w,n,m,c,k,(m+63)/64,p,x,B,g,i,u.1.size,j,u.1.size+1,l,o,v.1.size,u.1.size,W.1.size,go,f,M⟩/\Oi ⟨w,n,m,c,k,(m+63)/64,p,x,B,g,i,u.1.size,j,u.1.size+1,l,o,v.1.size,u.1.size,W.1.size,go,f,M⟩ W 0 ⟨λ_=>0,λ_=>0,λ_ _=>0,λ_ _=>0,λ_=>.slice none 0 0,λ_=>0,.slice none 0 0,[]⟩:=by
 have S:=D.4;have Q:((u.alloc<|.cells #[.slice (some ⟨j,0,none⟩) m m] 104).alloc (.cells (madeCells #[.slice none 0 0] m) 41)).1.size=u.1.size+2:=sP;have I:Below u.1.size u ((u.alloc<|.cells #[.slice (some ⟨j,0,none⟩) m m] 104).alloc (.cells (madeCells #[.slice none 0 0] m) 41)):=Xb (Xb (Below.refl _ _) _) _;have T:u.1.size+2<=W.1.size:=oN q.4
 have C:=I.trans<|q.mono oM;have e:=Xg D C;have R:=h.1.4;have y:=h.7.lt;have z:=aI v _ h.8;have H:=h.o.1.lt;have F:=h.b1;have b2:=h.b2;have G:=h.b3;have O:((u.alloc<|.cells #[.slice (some ⟨j,0,none⟩) m m] 104).alloc (.cells (madeCells #[.slice none 0 0] m) 41)).rowIs (u.1.size+1) 41 m (λ_=>.slice none 0 0):=by
  have:=dG (u.alloc<|.cells #[.slice (some ⟨j,0,none⟩) m m] 104) (.slice none 0 0) m 41;rwa[aO]at this
 have d:∀s:Addr,s.1<v.1.size->W.cell? s=v.cell? s:=λs P=>e.cell P;have A:g<v.1.size:=z;refine⟨⟨⟨F,y⟩,⟨b2,z⟩,⟨G,H⟩,λb a=>⟨h.b4 b a,(h.o.2 b a).lt⟩,h.d1,h.d2,h.d3,h.d4,⟨J,t.1.lt⟩,λb a=>⟨N b a,(t.2 b a).lt⟩,rfl,rfl,⟨K,r.7⟩,⟨L,r.8⟩,r.9⟩,?_⟩;refine⟨Xg h.1 e,aA,(d _<|by show w.1.size<_;omega).trans h.2,(d _<|by show w.1.size<_;omega).trans h.3,(d _<|by show w.1.size+1<_;omega).trans h.4,(d _<|by show w.1.size+1<_;omega).trans h.5,λE=>(e.frozen (p:=Hk (w.1.size+1) E) (by show w.1.size+1<_;omega)).trans (h.6 E),(d _ A).trans h.8,(d _ A).trans h.9,(q.cell (p:=Hk u.1.size 0) (by show u.1.size<_;omega)).trans (by simp[go_sem]),h.o.keep e,(h.7.of_block<|e.5 _ y).congr λb _=>sP,λb a=>absurd a oM,λb U a=>absurd a oM,λb a=>absurd a oM,t.keep C,(O.of_block<|q.5 _ oM).congr λb _=>sP,λb a=>absurd a oM,r,λb a=>absurd a oM⟩
structure OO(w4:Ub)(gB gD Kw CB:Nat)(W0:Wk)(pre:List Pl)(V:Ub):Prop where
 os:V.4=w4.4
 tape:V.2=w4.2
 output:V.5=w4.5
 size:w4.1.size<=V.1.size
 fr:∀q,q<w4.1.size->q≠gB->q≠gD->V.1[q]?=w4.1[q]?
 ws:Cp V gB Kw CB ((pre.map Pl.dat).foldl Ut W0)
 wd:Cp V gD Kw Kw ((pre.map Pl.dat).foldl Uo λ_=>0)
theorem OO.own(j:n<w.1.size)(l:m<w.1.size):OwnFrom w.1.size (OO w n m k B f):=λr A V row h a q=>by
 have o:=h.4;have c:∀b,b<w.1.size->V.1[b]?=A.1[b]?:=λb p=>a.5 b oM (λe=>by have:=(q b e.symm).1;omega);exact⟨a.1.trans h.1,a.2.trans h.2,a.3.trans h.3,aJ o a.4,λb d g i=>(c b d).trans (h.5 b d g i),h.6.of_block<|c n j,h.7.of_block<|c m l⟩
theorem OO.below(b:n<w.1.size)(c:m<w.1.size){a:List Pl}(h:OO w n m k B f a v)(d:Below v.1.size v u):OO w n m k B f a u:=XO (OO.own b c) h d
theorem Ec{l:List (Nat×Wc×Wc)}(h:XA f):XA (l.foldl Ut f):=by
 induction l generalizing f with
 |nil=>exact h
 |cons q l a=>exact a<|Zs _ (JX _ h)
theorem OO.next{gB CB:Nat}{d:List Pl}(h:OO w gB n m CB f d v)(k:gB<w.1.size)(i:gB≠n){p:Pl}(b:v.grownBy u (some gB))(c:u.grownBy W (some gB))(a:W.grownBy V (some n))(j:Cp W gB m CB (Ut ((d.map Pl.dat).foldl Ut f) p.dat))(g:Cp V n m m (Uo ((d.map Pl.dat).foldl Uo λ_=>0) p.dat)):OO w gB n m CB f (d++[p]) V:=by
 have l:=h.4;have o:=b.4;have r:=c.4;have s:=a.4;refine⟨a.1.trans<|c.1.trans (b.1.trans h.1),a.2.trans<|c.2.trans (b.2.trans h.2),a.3.trans<|c.3.trans (b.3.trans h.3),oM,λq q1 q2 q3=>?_,?_,?_⟩;·exact(a.5 q oM λe=>q3<|by injection e).trans ((c.5 q oM λe=>q2<|by injection e).trans ((b.5 q oM λe=>q2<|by injection e).trans (h.5 q q1 q2 q3)))
 .rw[bG,dT];exact j.of_block<|a.5 gB oM λe=>i<|by injection e
 rw[bG,dT];exact g
theorem tC{row:Zm}(h:Xf w n w.1.size p l)(k:w.grownBy v row)(t:∀r,row=some r->m<=r/\∃o:Obj,w.1[r]?=some o/\o.isCells=false):Xf v n v.1.size p l:=λq j=>by
 let⟨b,o,f,c,e⟩:=h q j;refine⟨b,o,f,⟨c.1,aX c.2 k.4⟩,(Xc<|k.5 b c.2 λe2=>?_).trans e⟩;let⟨s,g,i⟩:=Yn e;let⟨_,u,a,d⟩:=t b e2.symm;rw[show w.1[b]?=some s from g]at a;injection a with a;subst a;rw[i]at d;cases d
theorem qn(n b:Nat)(a:Nat×Wc×Wc->Prop):OwnFrom n (og b a):=λ_ _ _ _ h k q=>⟨h.1,tC h.2.1 k q,tC h.2.2 k q⟩
theorem tA{a:Nat×Wc×Wc->Prop}{p:Pl}(h:og n a p w)(k:Below w.1.size w v):og n a p v:=XO (qn 0 n a) h k
theorem YZ(h:Xf w m w.1.size p l)(k:w.grownBy v (some n))(f:n<m):Xf v m v.1.size p l:=λi d=>by
 let⟨b,o,e,a,c⟩:=h i d;exact⟨b,o,e,⟨a.1,aX a.2 k.4⟩,(Xc<|k.5 b a.2 λe2=>by injection e2 with e2;omega).trans c⟩
structure PM(n₀ bp:Nat)(p:Pl)(V:Ub):Prop where
 ge:n₀<=bp
 c0:V.cell? ⟨bp,0,none⟩=some (.slice p.2 p.4.length p.3)
 c1:V.cell? ⟨bp,1,none⟩=some (.slice p.5 p.7.length p.6)
theorem PM.own{p:Pl}:OwnFrom n (λ(_:Unit) V=>PM m k p V):=λ_ A V row h g q=>by
 have d:V.1[k]?=A.1[k]?:=by
  let⟨o,b,f⟩:=Yn h.2;refine g.5 k (aS.1 b).1 λe=>?_;let⟨_,i,a,c⟩:=q k e.symm;rw[show A.1[k]?=some o from b]at a;injection a with a;subst a;rw[f]at c;cases c
 exact⟨h.1,(Xc d).trans h.2,(Xc d).trans h.3⟩
theorem Zg(k:w.grownBy v (some m))(c:d m)(g:n<=w.1.size):Zf n d w v :=
 ⟨k.4,λi f a=>k.5 i oM (λe=>a<|by injection e with e;rw[e];exact c),λi o a b _=>(k.5 i (aS.1 b).1 λe=>a<|by injection e with e;rw[e];exact c).trans b⟩
theorem Jc(k:w.grownBy v (some n))(c:∃o:Obj,w.1[n]?=some o/\o.isCells=true):KeepsOthers w v :=
 KeepsOthers.of_grownBy k (λj o e h=>by
  let⟨d,a,b⟩:=c;injection e with e;subst e;rw[a]at h;injection h with h;rw[<-h];exact b)
theorem Cp.obj(h:Cp w n m k f):∃o:Obj,w.1[n]?=some o/\o.isCells=true:=by
 let⟨_,T,c,a,_⟩:=h;exact⟨_,a,rfl⟩
theorem CE{wr:Ub}(h:ZJ wr n s)(d:n<=wr.1.size)(e:wr.1.size<=m)(hK:w.1[m]?=some (.deferred (some [])))(b:∀k,n<=k->wr.1[k]?=some (.deferred (some []))->w.1[k]?=wr.1[k]?):ZJ w n (m::s):=by
 have c:=λk a=>(aS.1<|h.3 k a).1;refine⟨fL.2 ⟨λk=>by have:=c m k;omega,h.1⟩,λk a=>?_,λk a=>?_⟩
 .rcases cH.1 a with rfl|a;·omega
  exact h.2 k a
 obtain rfl|a:=cH.1 a;·exact hK
 exact(b k (h.2 k a) (h.3 k a)).trans (h.3 k a)
def Pn(V:Nat)(q:Nat×Wc×Wc):Prop:=(∀v∈q.2.1,0<=v/\v<V)/\(∀v∈q.2.2,0<=v/\v<V)/\q.2.1.length<=4000/\q.2.2.length<=4000
theorem qF(a:Jy n x)(c:q∈x):∀d∈NS q,Pn n d:=λd hq=>by
 unfold NS at hq;have h:(Id q.3).length<=1:=by unfold Id;split<;>simp
 obtain rfl|hq:=cH.1 hq;·exact⟨a.7 q c,λv b=>absurd b eA,by show(Id q.3).length<=_;omega,sP⟩
 obtain hq|hq:=bU.1 hq
 .obtain⟨j,_,rfl⟩:=aY.1 hq;have f:=oU q.2[j];have g:(BW q.2[j]).length<=1:=by unfold BW;split<;>simp
  exact⟨a.5 q c _<|aH _,a.6 q c _<|aH _,by show(Iw q.2[j]).length<=_;omega,by show(BW q.2[j]).length<=_;omega⟩
 rw[cS.1 hq];refine⟨λv b=>absurd b eA,λv b=>?_,sP,?_⟩
 .obtain⟨p,e,rfl⟩:=aY.1 b;exact a.8 q c p e
 show(q.1.map Ph.dst).length<=_;rw[bK];exact(a.10 q c).2
structure Po(w w':Ub)(n Kw:Nat)(xs:Wi)(Gi Go:Nat)(gi go ci:Wk)(WI WX:Vp):Prop where
 low:Below w.1.size w w'
 si:XK w' Gi n Kw gi ci WI
 so:XK w' Go n Kw go (λ_=>Kw) WX
 wi:XQ WI
 wx:XQ WX
 b1:w.1.size<=Gi/\w.1.size<=Go
 b2:∀i,i<n->w.1.size<=gi i/\w.1.size<=go i
 inn:∃(I T W0:Vp)(ord:Wa),(∀i (h:i<xs.length),I i=OS xs[i] (W0 i))/\(∀i (h:i<xs.length),T i=OU xs[i])/\(∀b,b<xs.length->∀v,Xh (W0 b) v=true↔(b,v)∈Nr xs xs.length)/\(∀b,b<xs.length->b∈ord)/\(∀b,b<n->∀x,x<64*Kw->(Xh (WI b) x=true↔Sp I T (·∈ord) (X8 xs) b x))/\∀b,b<n->∀x,(Xh (WX b) x=true↔Xh (W0 b) x=true\/∃t∈X8 xs b,Xh (WI t) x=true)
section
theorem Cw{w:Ub}{b e s:Nat}{v:Uj}{n:Nat}{i:Wo}(h:w.ownsRow b e s v n i){g:Nat}(a:v.ownBlock=some g):∃o:Obj,w.1[g]?=some o/\o.isCells=true:=by
 obtain⟨_,h|⟨c,j,l,rfl,_,f,_⟩⟩:=h;·rw[h.1]at a;cases a
 have e:c=g:=by simpa [Value.ownBlock]using a
 subst e;exact⟨_,f,rfl⟩
theorem YW.same{w b:Ub}{a c f K:Nat}{i:Uy}{m j:Nat}{W:Wk}{v:Uj}{L:Wa}(h:YW w a c f K i m j W v L)(l:b.1[a]?=w.1[a]?)(n:b.1[c]?=w.1[c]?)(o:∀g,v.ownBlock=some g->b.1[g]?=w.1[g]?)(r:w.1.size<=b.1.size):YW b a c f K i m j W v L:=by
 have e:∀q,b.cell? (Hk a q)=w.cell? (Hk a q):=λq=>bZ l;exact⟨(e 0).trans h.1,(e 1).trans h.2,(e 2).trans h.3,λq=>(bJ l).trans (h.4 q),h.5.of_block n,Zl h.6 o,h.7,h.8,h.9,aJ h.sz r⟩
section
variable {p: VD} {wr w4 W w5: Ub} {k: Nat} {d: PE} {gB CB: Nat} {ps: List Pl} {u5: Uj}
theorem uJ(g:∀q,q<wr.1.size->q≠p.9->w4.1[q]?=wr.1[q]?)(j:wr.1.size<=w4.1.size)(i:wr.1.size<=gB)(a:OO w4 gB (p.gd k) p.5 CB (p.WO k) ps W)(h:Below W.1.size W w5):
 ∀q,q<wr.1.size->q≠p.9->q≠p.gd k->q≠p.Gn->(w5.setCell ⟨p.Gn,k,none⟩ u5).1[q]?=wr.1[q]?:=λq b c e f=>by
 have:=a.4;exact(Below.heap_setCell _ _ _ _ f).trans ((h.5 q oM).trans ((a.5 q oM oM e).trans (g q b c)))
theorem B9(h:Oi p wr k d)(s:PO p)(j:k<p.n)(f:∀q,q<wr.1.size->q≠p.9->w4.1[q]?=wr.1[q]?)(l:wr.1.size<=w4.1.size)(i:wr.1.size<=gB)(b:OO w4 gB (p.gd k) p.5 CB (p.WO k) ps W)(c:Below W.1.size W w5):
 YW (w5.setCell ⟨p.Gn,k,none⟩ u5) p.bS p.gS p.M p.6 p.a p.n p.c d.6 d.7 d.8:=by
 have v:=h.2;have a:=uJ (u5:=u5) f l i b c;have m:=s.1;have o:=s.9;have r:=s.a6 k j;have t:=s.a8;have u:=s.a9;have n:=s.14;have w:=b.4;have x:=c.4;refine h.19.same (a _ oM oM oM oM) (a _ oM oM oM oM) (λg e=>?_) (by rw[Xd];omega);have:=h.19.6.lt g e;exact a g oM oM oM oM
theorem Oi.round{j:Ub}{X:Xe}{D:Nat}{E:Wa}{m:Uy}{c5:Nat}{u:Uj}(o:Oi p wr k d)(s:PO p)(hq:O2 p k d)(hm:ZJ wr p.M E)(z:k<p.n)(J:k<p.8.length)(ht:∀l,l<p.n->∀al∈X8 p.8 l,al<p.n)(F:∀q,q<wr.1.size->q≠p.9->w4.1[q]?=wr.1[q]?)(w:w4.4=wr.4/\w4.2=wr.2/\w4.5=wr.5)(af:wr.1.size<=w4.1.size)(y:wr.1.size<=gB)(aq:gB<w4.1.size)(T:w4.rowIs p.9 103 p.n λi=>if i=k then .slice (some ⟨gB,0,none⟩) p.5 CB else if i<k then .slice (some ⟨d.1 i,0,none⟩) p.5 (d.2 i)else .slice none 0 0)(b:OO w4 gB (p.gd k) p.5 CB (p.WO k) ps W)(H:ps.map Pl.dat=NS X)(x:X=p.8[k])(hD:w4.1.size<=D)(G:W.1[D]?=some (.deferred (some [])))(c:Below W.1.size W w5)(aa:Xf w5 W.1.size w5.1.size m X.3.tg)(a:Vh (w5.setCell ⟨p.Gn,k,none⟩ (.slice m X.3.tg.length c5)) j p.bS p.gS d.7 u)(hs:YW j p.bS p.gS p.M p.6 p.a p.n p.c (C9 (X8 p.8) p.n k (d.6,d.8)).1 u (C9 (X8 p.8) p.n k (d.6,d.8)).2):
 ∃C,Oi p j (k+1) C/\O2 p (k+1) C/\ZJ j p.M (D::E):=by
 have hz:=o.2;have O:=uJ (u5:=.slice m X.3.tg.length c5) F af y b c;have a1:=s.1;have ap:=s.9;have a6:=s.a6 k z;have a8:=s.a8;have a9:=s.a9;have ao:=s.14;have ar:=b.4;have az:=c.4;have aj:=a.4;rw[Xd]at aj;have t:=λg e=>o.19.6.lt g e
 have L:∀g,u.ownBlock=some g->d.7.ownBlock=some g\/w5.1.size<=g:=λg e=>by
  obtain q|q:=a.6;·exact bC<|by rw[<-q];exact e
  have:=q g e;rw[Xd]at this;exact aZ this
 have R:=(aS.1 G).1;have B:∀q,wr.1.size<=q->q<w5.1.size->j.1[q]?=w5.1[q]?:=λq r f=>(a.5 q (by rw[Xd];exact f) oM oM λe=>by have:=t q e.symm;omega).trans (Below.heap_setCell _ _ _ _<|by show q≠p.Gn;omega);have M:∀q,q<wr.1.size->q≠p.Gn->q≠p.bS->q≠p.gS->some q≠d.7.ownBlock->j.1[q]?=W.1[q]?:=λq r f h n v=>(a.5 q (by rw[Xd];omega) h n v).trans ((Below.heap_setCell _ _ _ _ f).trans (c.5 q oM));have A:∀q,q<p.M->some q≠d.7.ownBlock:=λq hq e=>by have:=t q e.symm;omega
 have I:=λq r f h n v P Q=>(a.5 q (by rw[Xd];omega) v P Q).trans (O q r f h n);have ad:(ps.map Pl.dat).foldl Ut (p.WO k)=OS p.8[k] (p.WO k):=by rw[H,<-x];rfl
 have ac:(ps.map Pl.dat).foldl Uo (λ_=>0)=OU p.8[k]:=by rw[H,<-x];rfl
 have Z:Cp j gB p.5 CB (OS p.8[k] (p.WO k)):=by
  rw[<-ad];exact b.6.of_block<|(B gB y oM).trans (c.5 gB oM)
 have S:Cp j (p.gd k) p.5 p.5 (OU p.8[k]):=by
  rw[<-ac];exact b.7.of_block<|M _ oM oM oM oM (A _ oM)
 have U:=(T.of_block<|b.5 p.9 oM oM oM).of_block (M p.9 oM oM oM oM<|A _ oM);have V:w5.rowIs p.Gn 41 p.n (λi=>if i<k then d.5 i else Hq):=by
  refine((o.17.of_block<|F p.Gn oM oM).of_block (b.5 p.Gn oM oM oM)).of_block (c.5 p.Gn oM)
 have Y:=(V.set k<|.slice m X.3.tg.length c5).of_block (a.5 p.Gn (by rw[Xd];omega) oM oM (A _ oM));have K:N6 p.8 k=X.3.tg:=by rw[VS J,x]
 refine⟨_,o.next s z (gB:=gB) (CB:=CB) (I':=OS p.8[k] (p.WO k)) (D':=OU p.8[k]) (nk:=.slice m X.3.tg.length c5) (v':=u) (Ws':=(C9 (X8 p.8) p.n k (d.6,d.8)).1) (Lf':=(C9 (X8 p.8) p.n k (d.6,d.8)).2) (a.1.trans<|c.1.trans (b.1.trans w.1)) (a.2.trans<|c.2.trans (b.2.trans w.2.1)) (a.3.trans<|c.3.trans (b.3.trans w.2.2)) oM I y Z U S Y ⟨m,c5,by rw[K],?_⟩ hs ?_ ?_,hq.next z ht _ _ _ _ J rfl rfl,CE hm hz oM ?_ ?_⟩
 .rw[K];intro i hi;let⟨l,N,e,hb,hc⟩:=aa i hi;refine⟨l,N,e,⟨⟨oM,oM,λe2=>?_⟩,oM⟩,(Xc<|B l oM hb.2).trans hc⟩;obtain q|q:=L l e2.symm;·have:=t l q;omega
  omega
 .rcases a.6 with q|q;·exact bC q
  exact aZ λg e=>by have:=q g e;rw[Xd]at this;omega
 .intro e;obtain q|q:=L gB e.symm;·have:=t gB q;omega
  omega
 .exact(B D oM oM).trans ((c.5 D R).trans G)
 intro q r f;have ab:=(aS.1 f).1;refine I q ab oM oM oM oM oM λe=>?_;let⟨N,h,n⟩:=Cw o.19.6 e.symm;rw[f]at h;injection h with h;rw[<-h]at n;cases n
end
end
section
structure TH(W1:Ub)(G:Nat)(wr:Ub)(u:Uj)(l:Wc):Prop where
 os:wr.4=W1.4
 tape:wr.2=W1.2
 output:wr.5=W1.5
 size:W1.1.size<=wr.1.size
 fr:∀q,q<W1.1.size->q≠G->wr.1[q]?=W1.1[q]?
 own:wr.ownsRow G 2 1 u l.length (l.map<|Value.int .i64)
 here:∀g,u.ownBlock=some g->g=G\/W1.1.size<=g
section
variable {W1 wr w2: Ub} {G: Nat} {u u': Uj} {l: Wc}
theorem TH.start(h:W1.ownsRow G 2 1 u 0 [])(a:∀g,u.ownBlock=some g->g=G):TH W1 G W1 u []:=⟨rfl,rfl,rfl,aA,λ_ _ _=>rfl,h,λg e=>bC<|a g e⟩
theorem TH.push{x:Int}(h:TH W1 G wr u l)(a:wr.grownBy w2 u.ownBlock)(f:w2.ownsRow G 2 1 u' (l.length+1) (l.map (Value.int .i64)++[Hp x]))(d:u'.ownBlock=u.ownBlock\/u'.ownBlock=some wr.1.size):TH W1 G w2 u' (l++[x]):=by
 have i:=h.4;refine⟨a.1.trans h.1,a.2.trans h.2,a.3.trans h.3,aJ i a.4,λq c b=>(a.5 q oM λe=>?_).trans (h.5 q c b),?_,λg e=>?_⟩
 .rcases h.7 q e.symm with k|k;·exact b k
  omega
 .rw[Yl,aQ];exact f
 obtain k|k:=d;·exact h.7 g<|by rw[<-k];exact e
 rw[k]at e;injection e with e;exact aZ oM
theorem TH.below(h:TH W1 G wr u l)(k:Below wr.1.size wr w2):TH W1 G w2 u l :=
 ⟨k.1.trans h.1,k.2.trans h.2,k.3.trans h.3,aJ h.4 k.4,λq a b=>(k.5 q<|aX a h.4).trans (h.5 q a b),Zl h.6 λg e=>k.5 g (h.6.lt g e).2,h.7⟩
theorem TH.alloc(h:TH W1 G wr u l)(o:Obj):TH W1 G (wr.alloc o) u l:=h.below<|Xb (Below.refl _ _) o
theorem TH.cell(h:TH W1 G wr u l){b o:Nat}{v:Uj}(c:b≠G)(a:W1.cell? (Hk b o)=some v):wr.cell? (Hk b o)=some v:=(Xc<|h.5 b (aI W1 _ a) c).trans a
end
end
theorem AI{t:Yj}:
 Calls prog 131 #[.agg #[Hp t.1,Hp t.a,Hp t.3,Hp t.4]] w λj e=>∃f c,j=.returned (.slice f (Id t).length c)/\Below w.1.size w e/\Xf e w.1.size e.1.size f (Id t):=by
 let⟨d,h,tg,k⟩:=t;by_cases a:d=1
 .subst a
  go_in
  go_wp2;go_ret;exact⟨_,_,rfl,Xb (Xb (Below.refl _ _) _) _,λi b=>absurd b<|by simp[Id]⟩
 have e1:(d==1)=false:=by simp[a]
 have g:Id ⟨d,h,tg,k⟩=[h]:=by simp[Id,a]
 rw[g]
 go_in
 go_wp2;go_ret;refine⟨_,_,rfl,Xb (Xb (Below.refl _ _) _) _,λi b=>?_⟩
 match i,b with
 |0,_=>exact⟨_,_,rfl,⟨sP,sP⟩,sP⟩
theorem Wv(z:Yg)(w:Ub):
 Calls prog 132 #[mj z] w λt N=>∃Q c,t=.returned (.slice Q (Iw z).length c)/\Below w.1.size w N/\Xf N w.1.size N.1.size Q (Iw z):=by
 obtain⟨K,F,H,I,J⟩:=fX RH;obtain⟨b,l,f,d,m⟩:=z;have V:=Xa λW=>vG b W;have O:=Xa λW=>vU b W;have s:Hs (Iw ⟨b,l,f,d,m⟩=(if aB b then [f]else [])++(if bB b then [d]else [])):=Xa rfl;generalize Iw ⟨b,l,f,d,m⟩=rs at*;generalize aB b=Z at*;generalize bB b=T at*;unfold mj
 go_in
 go_wp2_with fail
 refine(V _).mono ?_;rintro t r⟨rfl,h⟩;rw[h];clear h r;have D:Hs (Below w.1.size w<|(w.alloc<|.cells #[Hp b,Hp l,Hp f,Hp d,Hp m] 66).alloc (.cells #[] 2)):=Xa<|Xb (Xb (Below.refl _ _) _) _;have k:=Xa<|K5 w (.cells #[Hp b,Hp l,Hp f,Hp d,Hp m] 66);have Y:(λU:Ub=>w.1.size<U.1.size/\(∀L M,#[Hp b,Hp l,Hp f,Hp d,Hp m][L]?=some M->U.cell? (Hk w.1.size L)=some M)) ((w.alloc<|.cells #[Hp b,Hp l,Hp f,Hp d,Hp m] 66).alloc (.cells #[] 2)):=⟨(by simp;omega),(λL M X=>by
  rw[bP _ _ _ sP];rw[eC];exact X)⟩
 generalize (w.alloc _).alloc _=W at*;obtain⟨G,v⟩:=Y;have c0:=v 0 _ rfl;have c2:=v 2 _ rfl;have c3:=v 3 _ rfl;clear v;have aa:=Xa G;cases Z with
 |false=>
  go_wp2_with fail
  refine(O _).mono ?_;rintro t r⟨rfl,h⟩;rw[h];clear h r;cases T with
  |false=>
   go_wp2;go_ret;have e:=s.o;simp at e;subst e;obtain⟨i,c1,e1,j⟩:=Xk (xs:=([]:Wc)) (by simpa using k.o);exact⟨i,c1,fI Ending.returned e1,D,j.mono oM<|aA⟩
  |true=>
   go_wp2_with (at_builtin;refine fT _ rfl _ _ 41 rfl (w.1.size+1) 2 K (Hp 0) 1 8 underlying41 F H I J rfl vY _ _ _ rfl (k.alloc _) (Hk W.1.size 0) 1 1 [Hp d] rfl rfl ?c1 ?c2 ?c3 ?c4 ?c5 ?_)
   case c1=>
    intro q u a
    match q,a with
    |0,a=>simp at a;subst a;simp[Addr.add]
   case c2=>intro u g;simp at g;subst g;rfl
   case c3=>unfold maxLen;(try simp);(try omega)
   case c4=>simp
   case c5=>simp;omega
   intro v1 w9 p o _;have n:=Xy (Xb D _) o (k.alloc _) oM (by simp;omega);have A:=Xa n;have C:=Xa p;clear p o n;go_wp2;go_ret;have e:=s.o;simp at e;subst e;obtain⟨i,c1,e1,j⟩:=Xk (xs:=([]:Wc)++[d]) (by simpa using C.o);exact⟨i,c1,fI Ending.returned e1,A,j.mono oM<|aA⟩
 |true=>
  go_wp2_with (at_builtin;refine fT _ rfl _ _ 41 rfl (w.1.size+1) 2 K (Hp 0) 1 8 underlying41 F H I J rfl vY _ _ _ rfl (k.alloc _) (Hk W.1.size 0) 1 1 [Hp f] rfl rfl ?c1 ?c2 ?c3 ?c4 ?c5 ?_)
  case c1=>
   intro q u a
   match q,a with
   |0,a=>simp at a;subst a;simp[Addr.add]
  case c2=>intro u g;simp at g;subst g;rfl
  case c3=>unfold maxLen;(try simp);(try omega)
  case c4=>simp
  case c5=>simp;omega
  intro v0 y S x _;have R:=Xy (Xb D _) x (k.alloc _) oM (by simp;omega);have E:=YJ x (k.alloc _) (b:=w.1.size) oM (by simp;omega);have d3:Cl y w.1.size 3 (Hp d):=(Xc E).trans ((bP W _ (Hk w.1.size 3) G).trans c3);have d0:Cl y w.1.size 0 (Hp b):=(Xc E).trans ((bP W _ (Hk w.1.size 0) G).trans c0);have P:=Xa R;have B:=Xa (by simpa using S);have ab:w.1.size<y.1.size:=by have:=x.4;simp at this;omega
  clear S x E R c0 c2 c3;go_wp2_with fail
  refine(O _).mono ?_;rintro t r⟨rfl,h⟩;rw[h];clear h r;cases T with
  |false=>
   go_wp2;go_ret;have e:=s.o;simp at e;subst e;obtain⟨i,c1,e1,j⟩:=Xk (xs:=[f]) (by simpa using B.o);exact⟨i,c1,fI Ending.returned e1,P,j.mono oM<|aA⟩
  |true=>
   go_wp2_with (at_builtin;refine fT _ rfl _ _ 41 rfl (w.1.size+1) 2 K (Hp 0) 1 8 underlying41 F H I J rfl vY _ _ _ rfl (B.alloc _) (Hk y.1.size 0) 1 1 [Hp d] rfl rfl ?c1 ?c2 ?c3 ?c4 ?c5 ?_)
   case c1=>
    intro q u a
    match q,a with
    |0,a=>simp at a;subst a;simp[Addr.add]
   case c2=>intro u g;simp at g;subst g;rfl
   case c3=>unfold maxLen;(try simp);(try omega)
   case c4=>simp
   case c5=>simp;omega
   intro v1 w9 p o _;have n:=Xy (Xb P _) o (B.alloc _) oM (by simp;omega);have A:=Xa n;have C:=Xa p;clear p o n;go_wp2;go_ret;have e:=s.o;simp at e;subst e;obtain⟨i,c1,e1,j⟩:=Xk (xs:=[f]++[d]) (by simpa using C.o);exact⟨i,c1,fI Ending.returned e1,A,j.mono oM<|aA⟩
theorem Bp{a:Za}{v1 v2 v3 v4 v5:Uj}(L B:Nat)(E:Hs (Jw w L B p a))(r:Hs (n=a.length))(W:n<=4000)(x:B<=w.1.size):
 Calls prog 130 #[.agg #[.slice p n m,v1,v2,v3,v4,v5]] w λv g=>∃h c,v=.returned (.slice h (a.map Ph.dst).length c)/\Below w.1.size w g/\Xf g w.1.size g.1.size h (a.map Ph.dst):=by
 let⟨K,C,H,I,J⟩:=fX RH
 go_in
 go_wp2
 go_loopw [3,4] (λu i wr=>∃k:Nat,k<=n/\i=Hp k/\Hs (Below w.1.size w wr)/\w.1.size<wr.1.size/\wr.cell? (Hk w.1.size 0)=some (.slice p n m)/\Hs (wr.ownsRow (w.1.size+1) 2 1 u k (((a.map Ph.dst).take k).map (Value.int .i64)))) λ_ i _=>n-(intOf i).toNat
 case atStart=>exact⟨0,aN,rfl,Xa<|Xb (Xb (Below.refl _ _) _) _,by simp;omega,sP,Xa<|K5 _ _⟩
 obtain⟨k,U,rfl,e,F,A,b⟩:=hrel;by_cases V:k<n
 .have j:k<a.length:=oN r.o;obtain⟨O,Y,rfl,⟨_,S⟩,ha,T,Q,R,_⟩:=(E.keep<|e.mono x) k j;have s:Hs ((a.map Ph.dst).take (k+1)=(a.map Ph.dst).take k++[a[k].1]):=Xa (by rw[X7<|by simpa using j];simp);generalize a[k]=X at*;generalize (a.map Ph.dst).take k=P at*;go_wp2_with (at_builtin;refine fT _ rfl _ _ 41 rfl (w.1.size+1) 2 K (Hp 0) 1 8 underlying41 C H I J rfl vY _ _ _ rfl (b.alloc _) (Hk wr.1.size 0) 1 1 [Hp X.1] rfl rfl ?c1 ?c2 ?c3 ?c4 ?c5 ?_)
  case c1=>
   intro M u d
   match M,d with
   |0,d=>simp at d;subst d;simp[Addr.add]
  case c2=>intro u q;simp at q;subst q;rfl
  case c3=>unfold maxLen;omega
  case c4=>omega
  case c5=>simp;omega
  intro Z w1 o f _;have t:=Xa o;go_wp2;have y:=Xy (Xb e _) f (b.alloc _) oM (by simp;omega);have z:=YJ f (b.alloc _) (b:=w.1.size) oM (by simp;omega);have G:=f.4;simp at G;exact⟨⟨k+1,oM,gM,Xa y,oM,(Xc z).trans ((bP wr _ (Hk w.1.size 0) F).trans A),Xa<|by rw[s.o,Yl];exact t⟩,by simp[intOf];omega⟩
 go_wp2;go_ret;have l:=b.o;rw[aW (by have:=r.o;simp;omega)]at l;obtain⟨N,c1,rfl,D⟩:=Xk l;exact⟨_,_,rfl,e,D.mono oM<|aA⟩
def Oe(b:Wc)(a:Za)(p:Int)(i:Nat):Wc:=(List.range i).flatMap λi=>if b.getD i 0=p then a.map (λh=>h.2.getD i 0)else []
theorem uW{a:Za}:Oe l a t (n+1)=Oe l a t n++(if l.getD n 0=t then a.map (λh=>h.2.getD n 0)else []):=by
 unfold Oe;rw[dN,eZ];simp
theorem qL(b:Wc)(a:Za)(p:Int):∀i,(Oe b a p i).length<=i*a.length
 |0=>by simp[Oe]
 |i+1=>by
  have:=qL b a p i;rw[uW,aQ,Nat.succ_mul];split;·rw[bK];omega
  simp;omega
theorem tY(c:Nat)(e:Int)(ha:Hs (Xp w B g p x))(J:Hs (m=x.length))(hB:g<=w.1.size)(ho:Hs (Jy n x))(ct:k<m):
 Calls prog 80 #[.agg #[Hp n,.slice p m c],Hp e,Hp k] w λo w'=>∃s c',o=.returned (.slice (some s) (G2 x e (k:Int)).length c')/\Below w.1.size w w'/\Xf w' w.1.size w'.1.size (some s) (G2 x e (k:Int)):=by
 let⟨i0,b8,cf,cg,ci⟩:=fX RH;have hn:m<=1000:=oP J.o ho.1.2;have I:k<x.length:=oN J.o;obtain⟨j,q,rfl,⟨cr,cq⟩,hc⟩:=ha k I;let⟨pa,pc,ia,ic,q0,_,_,bd,_⟩:=hc;have br:=Xa bd;have bq:=Xa<|ho.9 k I;have X:=(ho.10 _<|aH I).2;have N:Hs (G2 x e (k:Int)=if x[k].1=[]then []else Oe (AQ x 0 (k:Int)) x[k].1 e (AQ x 0 (k:Int)).length):=Xa (by unfold G2 Oe;rw[dM,aC I]);have a0:=Xa λb4 (hW:Below w.1.size w b4)=>ZE (n:Int) c (k:Int) (Xa<|ha.keep (hW.mono hB)) J oM (oN hW.4);have be:=YO (k:Int) x 0;have bf:(AQ x 0 (k:Int)).length<=1000:=oN J.o;generalize AQ x 0 (k:Int)=f at*;generalize G2 x e (k:Int)=ed at*;generalize x[k].1=b at*;clear bd;have U:j<w.1.size:=oM;have qa:=λo1 o2=>oB (Xb (Xb (Below.refl w.1.size w) o1) o2) q0 U;clear q0
 go_in
 by_cases D:b.length=0
 .have G:=iE D;have he:ed=[]:=by rw[N.o,aU G]
  have bi:Hs (Below w.1.size w<|(w.alloc<|.cells #[Hp n,Hm j q m c] 37).alloc (.cells #[] 2)):=Xa<|Xb (Xb (Below.refl _ _) _) _;simp only[D]at qa;clear bf X be;go_wp2;go_ret;rw[he];exact⟨_,_,rfl,bi,λv V=>absurd V sP⟩
 have b5:((b.length:Int)==0)=false:=by simp[D]
 have G:b≠[]:=λo=>D (by rw[o];rfl);have al:Hs (ed=Oe f b e f.length):=Xa (by rw[N.o,aM G]);clear N G;have az:=Xa<|K5 w (.cells #[Hp n,Hm j q m c] 37);have M:Hs (Below w.1.size w<|(w.alloc<|.cells #[Hp n,Hm j q m c] 37).alloc (.cells #[] 2)):=Xa<|Xb (Xb (Below.refl _ _) _) _;have af:((w.alloc<|.cells #[Hp n,Hm j q m c] 37).alloc (.cells #[] 2)).1.size=w.1.size+2:=sP;have a6:((w.alloc<|.cells #[Hp n,Hm j q m c] 37).alloc (.cells #[] 2)).cell? (Hk w.1.size 1)=some (Hm j q m c):=sP;go_wp2_with fail
 refine(a0 _ M).mono ?_;rintro o L⟨a1,c1,rfl,t,W⟩;rw[af]at t W;have ch:=t.4;rw[af]at ch;have r:=Xa<|M.trans (t.mono oM);have a7:=(XU t oM).trans a6;have bo:=Xa W;have ap:Hs (TH L (w.1.size+1) L (Hl (w.1.size+1) 0 0) []):=Xa (TH.start (Zl az (λC o=>by
  have S:w.1.size+1=C:=by simpa [Value.ownBlock]using o
  subst S;exact t.5 _ oM)) (λC o=>by
  have S:w.1.size+1=C:=by simpa [Value.ownBlock]using o
  exact S.symm))
 have a2:=(r.cell (p:=Hk j<|q+k*6) U).trans (by have:=qa (.cells #[] 0) (.cells #[] 0);exact((Xb (Xb (Below.refl w.1.size w) _) _).cell (p:=Hk j<|q+k*6) U).symm.trans this);have P:=Xa a2;have ao:=Xa a7;have bt:=Xa<|br.keep (r.mono hB);have bl:=al;let⟨np,F⟩:∃d,d=f.length:=⟨_,rfl⟩;rw[<-F]at bf;have ar:=Xa F;let⟨K,Z⟩:∃d,d=b.length:=⟨_,rfl⟩;rw[<-Z]at P X b5;have O:=Xa Z;clear t W a6 a7 af a2 qa az M a0 al be;rw[<-F];clear F Z;go_wp2
 go_loopw [7,9] (λu v wr=>∃a:Nat,a<=np/\v=Hp a/\Hs (TH L (w.1.size+1) wr u (Oe f b e a))/\Hs (u≠Hq)) λ_ v _=>np-(intOf v).toNat
 case atStart=>exact⟨0,aN,rfl,ap,Xa sP⟩
 clear ap;obtain⟨a,hk,rfl,i,R⟩:=hrel;by_cases cb:a<np
 .have ba:a<f.length:=by rw[<-ar.o];exact cb
  obtain⟨b1,o1,rfl,⟨ck,cl⟩,a4⟩:=bo a ba;have k1:=i.cell oM a4;have kf:=i.cell oM ao;have kq:=i.cell oM P;have A:Hs (Oe f b e (a+1)=Oe f b e a++(if f[a]=e then b.map (λh=>h.2.getD a 0)else [])):=Xa (by rw[uW];congr 1;rw[bF,aC ba];rfl);have bp:Hs ((Oe f b e a).length<=4000000):=Xa (aJ (qL f b e a) (aJ (lO (show a<=1000 by omega) (show b.length<=4000 by rw[<-O.o];exact X)) vY));generalize f[a]=z at*;clear a4;by_cases H:z=e
  .subst H;have Q:=Xa (by have h:=A.o;rw[aU rfl]at h;exact h);have b7:(z==z)=true:=sP;generalize Oe f b z a=T at*;clear A;go_wp2_with fail
   clear k1 kf kq;generalize wr=wo at*
   go_loopw [7,10] (λu aj wr=>∃d:Nat,d<=K/\aj=Hp d/\Hs (TH L (w.1.size+1) wr u (T++(b.map λh=>h.2.getD a 0).take d))/\Hs (u≠Hq)) λ_ v _=>K-(intOf v).toNat
   case atStart=>exact⟨0,aN,rfl,Xa (by simpa using i.o),R⟩
   obtain⟨d,hm,rfl,l,bx⟩:=hrel;have kf:=l.cell oM ao;have kq:=l.cell oM P;by_cases cd:d<K
   .have Y:d<b.length:=by rw[<-O.o];exact cd
    obtain⟨b2,o2,rfl,⟨cm,cn⟩,aa,ac,g0,g1,gi⟩:=bt d Y;have b6:=(bq b[d] (aH Y)).1;have a9:a<b[d].2.length:=oM;obtain⟨b3,o3,rfl,⟨co,cp⟩,g3⟩:=gi a a9;have m1:=l.cell oM g1;have m3:=l.cell oM g3;have bv:Hs ((b.map λh=>h.2.getD a 0).take (d+1)=(b.map λh=>h.2.getD a 0).take d++[b[d].2[a]]):=Xa (by rw[X7<|by simpa using Y];simp[a9]);have aq:Hs ((T++(b.map λh=>h.2.getD a 0).take d).length<=4004000):=Xa (by have:=bp.o;rw[aQ,dH];omega);have cs:(a:Int)<(b[d].2.length:Int):=oM;generalize (b.map λh=>h.2.getD a 0).take d=tm at*;generalize b[d].2[a]=av at*;generalize b[d].2.length=la at*;generalize a5:T++tm=el at*;have bm:=Xa a5;clear g0 g1 g3 gi b6 a5;go_wp2_with (at_builtin;refine bT _ rfl _ _ 41 rfl (w.1.size+1) 2 i0 (Hp 0) 1 8 underlying41 b8 cf cg ci rfl vY _ _ _ rfl (l.6.alloc _) (Hk wr.1.size 0) 1 1 [Hp av] rfl rfl ?c1 ?c2 ?c3 ?c4 ?c5 ?_)
    case c1=>
     intro aj u E
     match aj,E with
     |0,E=>simp at E;subst E;simp[Addr.add]
    case c2=>intro u hu;simp at hu;subst hu;rfl
    case c3=>have:=aq.o;unfold maxLen;omega
    case c4=>have:=aq.o;omega
    case c5=>have:=l.4;simp;omega
    intro u1 w2 bc a8 bb a3;have bn:=Xa ((l.alloc _).push (x:=av) a8 bc (by rw[aO];exact a3));have b0:Hs (u1≠Hq):=Xa bb;clear bc a8 a3 bb kf kq m1 m3;go_wp2;exact⟨⟨d+1,oM,gM,Xa (by rw[bv.o,<-cK,bm.o];exact bn),b0⟩,by simp[intOf];omega⟩
   have ce:K<=d:=oM;go_wp2;exact⟨⟨a+1,oM,gM,Xa (by rw[Q.o];have h:=l.o;rw[aW<|by rw[bK,<-O.o];exact ce]at h;exact h),bx⟩,by simp[intOf];omega⟩
  have Q:=Xa (by have h:=A.o;rw[aM H,fF]at h;exact h);have b7:(z==e)=false:=by simp[H]
  clear A H;go_wp2;exact⟨⟨a+1,oM,gM,Xa (by rw[Q.o];exact i),R⟩,by simp[intOf];omega⟩
 have ca:a=f.length:=oN ar.o;go_wp2;go_ret;have ab:=i.6;rw[ca,<-bl.o]at ab;let⟨s,cc,e2,V⟩:=Xk ab;cases s with
 |none=>
  exfalso;obtain⟨y,_,_⟩|y:=Vc ab;·exact R y
  let⟨C,cj,y,_⟩:=y;rw[y]at e2;injection e2 with e2;cases e2
 |some s=>
  refine⟨s,cc,fI Ending.returned e2,⟨i.1.trans r.1,i.2.trans r.2,i.3.trans r.3,aJ r.4 i.4,λbh hq=>(i.5 bh oM oM).trans (r.5 bh hq)⟩,V.mono oM<|aA⟩
section
def Jv(x:Xe):Tm:=x.2.map Iw
def Z2(x:Xe):Wc:=x.2.map H7
theorem Yv.mono{w:Ub}{P Q:Vv}{c:Uy}{d:Wc}(h:Yv w P c d)(k:∀b,b<w.1.size->P b->Q b):Yv w Q c d:=λi g=>by
 let⟨b,o,e,a,f⟩:=h i g;exact⟨b,o,e,⟨k b a.2 a.1,a.2⟩,f⟩
theorem Yv.keep{w w':Ub}{P:Vv}{c:Uy}{d:Wc}(h:Yv w P c d)(k:∀b,b<w.1.size->P b->w'.1[b]?=w.1[b]?)(i:w.1.size<=w'.1.size):Yv w' P c d:=λj g=>by
 let⟨b,o,e,a,f⟩:=h j g;exact⟨b,o,e,⟨a.1,aX a.2 i⟩,(Xc<|k b a.2 a.1).trans f⟩
theorem TA.mono{w:Ub}{P Q:Vv}{c:Uy}{d:Tm}(h:TA w P c d)(k:∀b,b<w.1.size->P b->Q b):TA w Q c d:=λn m=>by
 let⟨b,o,g,a,e,f,j,i⟩:=h n m;exact⟨b,o,g,⟨k b a.2 a.1,a.2⟩,e,f,j,i.mono k⟩
theorem TA.keep{w w':Ub}{P:Vv}{c:Uy}{e:Tm}(i:TA w P c e)(k:∀b,b<w.1.size->P b->w'.1[b]?=w.1[b]?)(d:w.1.size<=w'.1.size):TA w' P c e:=λo n=>by
 let⟨b,p,h,a,f,g,m,j⟩:=i o n;exact⟨b,p,h,⟨a.1,aX a.2 d⟩,f,g,(Xc<|k b a.2 a.1).trans m,j.keep k d⟩
theorem Yv.of_at{w:Ub}{L B:Nat}{P:Vv}{a:Uy}{d:Wc}(h:Xf w L B a d)(j:B<=w.1.size)(k:∀b,L<=b->b<B->P b):Yv w P a d:=λi g=>by
 let⟨b,o,e,c,f⟩:=h i g;exact⟨b,o,e,⟨k b c.1 c.2,oM⟩,f⟩
theorem Yv.at_{w:Ub}{P:Vv}{a:Uy}{b:Wc}(h:Yv w P a b):Xf w 0 w.1.size a b:=λi g=>by
 let⟨c,o,e,d,f⟩:=h i g;exact⟨c,o,e,⟨aN,d.2⟩,f⟩
structure VO(w:Ub)(P:Vv)(us:Vu)(x:Xe)(E:Wc):Prop where
 e0:∃a c,us 0=.slice a x.3.tg.length c/\Yv w P a x.3.tg
 e1:∃a c,us 1=.slice a (x.1.map Ph.dst).length c/\Yv w P a (x.1.map Ph.dst)
 e2:∃a c,us 2=.slice a E.length c/\Yv w P a E
 e3:∃a c,us 3=.slice a (Jv x).length c/\TA w P a (Jv x)
 e4:∃a c,us 4=.slice a (Z2 x).length c/\Yv w P a (Z2 x)
 e5:∃a c,us 5=.slice a (Id x.3).length c/\Yv w P a (Id x.3)
theorem VO.keep{w w':Ub}{P:Vv}{c:Vu}{x:Xe}{E:Wc}(m:VO w P c x E)(k:∀b,b<w.1.size->P b->w'.1[b]?=w.1[b]?)(a:w.1.size<=w'.1.size):VO w' P c x E:=by
 let⟨⟨d,c0,j,n⟩,⟨e,c1,e1,o⟩,⟨f,c2,e2,p⟩,⟨g,c3,e3,q⟩,⟨h,c4,e4,r⟩,⟨i,c5,e5,s⟩⟩:=m;exact⟨⟨d,c0,j,n.keep k a⟩,⟨e,c1,e1,o.keep k a⟩,⟨f,c2,e2,p.keep k a⟩,⟨g,c3,e3,q.keep k a⟩,⟨h,c4,e4,r.keep k a⟩,⟨i,c5,e5,s.keep k a⟩⟩
theorem VO.mono{w:Ub}{P Q:Vv}{a:Vu}{x:Xe}{E:Wc}(j:VO w P a x E)(k:∀b,b<w.1.size->P b->Q b):VO w Q a x E:=by
 let⟨⟨c,c0,i,m⟩,⟨d,c1,e1,n⟩,⟨e,c2,e2,o⟩,⟨f,c3,e3,p⟩,⟨g,c4,e4,q⟩,⟨h,c5,e5,r⟩⟩:=j;exact⟨⟨c,c0,i,m.mono k⟩,⟨d,c1,e1,n.mono k⟩,⟨e,c2,e2,o.mono k⟩,⟨f,c3,e3,p.mono k⟩,⟨g,c4,e4,q.mono k⟩,⟨h,c5,e5,r.mono k⟩⟩
structure Ow(W1:Ub)(bx:Nat)(f0:Vu)(wr:Ub)(u:Uj)(l:Wc):Prop where
 os:wr.4=W1.4
 tape:wr.2=W1.2
 output:wr.5=W1.5
 size:W1.1.size<=wr.1.size
 fr:∀q,q<W1.1.size->q≠bx->wr.1[q]?=W1.1[q]?
 box:wr.rowIs bx 138 6 λi=>if i=2 then u else f0 i
 own:wr.ownsRow W1.1.size 2 1 u l.length (l.map<|Value.int .i64)
section
variable {W1 wr w5 w6: Ub} {bx: Nat} {f0: Nat -> Uj} {u u': Uj} {l qs: Wc}
theorem Ow.start(b:W1.rowIs bx 138 6 f0)(a:f0 2=.slice none 0 0):Ow W1 bx f0 W1 (.slice none 0 0) [] :=
 ⟨rfl,rfl,rfl,aA,λ_ _ _=>rfl,b.congr (λi _=>by by_cases e:i=2<;>simp[e,a]),dA⟩
theorem Ow.push(h:Ow W1 bx f0 wr u l)(g:bx<W1.1.size)(b:Below wr.1.size wr w5)(a:w5.grownBy w6 u.ownBlock)(i:w6.ownsRow W1.1.size 2 1 u' (l++qs).length ((l++qs).map (Value.int .i64))):Ow W1 bx f0 (w6.setCell ⟨bx,2,none⟩ u') u' (l++qs):=by
 have k:=h.4;have m:=b.4;have n:=a.4;have f:∀q,q<W1.1.size->w6.1[q]?=wr.1[q]?:=λq hq=>(a.5 q oM λe=>by have:=(h.7.lt q e.symm).1;omega).trans (b.5 q oM);refine⟨a.1.trans<|b.1.trans h.1,a.2.trans<|b.2.trans h.2,a.3.trans<|b.3.trans h.3,by rw[Xd];omega,λq c d=>(Below.heap_setCell _ _ _ _ d).trans ((f q c).trans (h.5 q c d)),((h.6.of_block<|f bx g).set 2 u').congr (λj _=>by by_cases e:j=2<;>simp[e]),ownsRow_setCell_below i g _⟩
theorem Ow.cell(h:Ow W1 bx f0 wr u l){b o:Nat}{v:Uj}(c:b≠bx)(a:W1.cell? (Hk b o)=some v):wr.cell? (Hk b o)=some v:=(Xc<|h.5 b (aI W1 _ a) c).trans a
end
structure OL(W2:Ub)(bx:Nat)(f0:Vu)(wr:Ub)(ur ud:Uj)(rs:Wo)(zs:Tm)(ds:Wc):Prop where
 os:wr.4=W2.4
 tape:wr.2=W2.2
 output:wr.5=W2.5
 size:W2.1.size<=wr.1.size
 fr:∀q,q<W2.1.size->q≠bx->wr.1[q]?=W2.1[q]?
 box:wr.rowIs bx 138 6 λi=>if i=3 then ur else if i=4 then ud else f0 i
 ownR:wr.ownsRow W2.1.size 80 1 ur rs.length rs
 len:rs.length=zs.length
 rows:∀i (h:i<zs.length),∃a' c',rs[i]?=some (.slice a' zs[i].length c')/\Yv wr (λb=>W2.1.size<=b/\some b≠ur.ownBlock/\some b≠ud.ownBlock) a' zs[i]
 ownD:wr.ownsRow W2.1.size 2 1 ud ds.length (ds.map<|Value.int .i64)
 ne:∀g,ur.ownBlock=some g->ud.ownBlock≠some g
section
variable {W2 wr w5 w6: Ub} {bx: Nat} {f0: Nat -> Uj} {ur ud ur' ud': Uj} {rs: Wo} {zs: Tm} {ds: Wc}
theorem OL.start(c:W2.rowIs bx 138 6 f0)(a:f0 3=.slice none 0 0)(b:f0 4=.slice none 0 0):OL W2 bx f0 W2 (.slice none 0 0) (.slice none 0 0) [] [] [] :=
 ⟨rfl,rfl,rfl,aA,λ_ _ _=>rfl,c.congr (λi _=>by by_cases e:i=3<;>by_cases e2:i=4<;>simp[e,e2,a,b]),dA,rfl,λi h=>absurd h sP,dA,λg e=>by cases e⟩
theorem OL.below(h:OL W2 bx f0 wr ur ud rs zs ds)(k:Below wr.1.size wr w5):OL W2 bx f0 w5 ur ud rs zs ds:=by
 have n:=h.size;refine⟨k.1.trans h.os,k.2.trans h.tape,k.3.trans h.output,aJ n k.4,λq d f=>(k.5 q oM).trans (h.fr q d f),h.box.of_block<|k.5 _ h.box.lt,Zl h.ownR λg e=>k.5 g (h.ownR.lt g e).2,h.len,λo j=>?_,Zl h.ownD λg e=>k.5 g (h.ownD.lt g e).2,h.ne⟩;let⟨a,c,e,m⟩:=h.rows o j;exact⟨a,c,e,m.keep (λb i _=>k.5 b i) k.4⟩
theorem OL.pushR{f:Uy}{c5:Nat}{ys:Wc}(h:OL W2 bx f0 wr ur ud rs zs ds)(s:bx<W2.1.size){B0:Nat}(D:W2.1.size<=B0)(n:∀g,ur.ownBlock=some g->g<B0)(y:∀g,ud.ownBlock=some g->g<B0)(A:Xf wr B0 wr.1.size f ys)(d:wr.grownBy w6 ur.ownBlock)(B:w6.ownsRow W2.1.size 80 1 ur' (rs.length+1) (rs++[.slice f ys.length c5]))(o:ur'.ownBlock=ur.ownBlock\/ur'.ownBlock=some wr.1.size):
 OL W2 bx f0 (w6.setCell ⟨bx,3,none⟩ ur') ur' ud (rs++[.slice f ys.length c5]) (zs++[ys]) ds:=by
 have E:=h.size;have F:=d.4;have p:∀q,q<W2.1.size->some q≠ur.ownBlock:=λq hq e=>by have:=(h.ownR.lt q e.symm).1;omega
 have r:∀b,b<wr.1.size->some b≠ur.ownBlock->some b≠ur'.ownBlock:=λb c a e=>by
  obtain k|k:=o;·exact a (k▸e)
  rw[k]at e;injection e with e;omega
 have keep:∀b,b<wr.1.size->b≠bx->some b≠ur.ownBlock->(w6.setCell (Hk bx 3) ur').1[b]?=wr.1[b]?:=λb a j x=>(Below.heap_setCell _ _ _ _ j).trans (d.5 b a x);refine⟨d.1.trans h.os,d.2.trans h.tape,d.3.trans h.output,by rw[Xd];omega,λq a j=>(keep q oM j<|p q a).trans (h.fr q a j),((h.box.of_block<|d.5 bx oM (p _ s)).set 3 ur').congr (λi _=>by by_cases e:i=3<;>simp[e]),?_,by simp[h.len],λi z=>?_,?_,λg e=>?_⟩
 .rw[aQ];exact ownsRow_setCell_below B s _
 .by_cases e:i<zs.length
  .let⟨t,v,e1,m⟩:=h.rows i e;refine⟨t,v,?_,?_⟩;·rw[dL (h.len▸e),fA e];exact e1
   rw[fA e];refine(m.mono (Q:=λb=>W2.1.size<=b/\some b≠ur.ownBlock/\some b≠ur'.ownBlock/\some b≠ud.ownBlock) λb c q=>⟨q.1,q.2.1,r b c q.2.1,q.2.2⟩).keep (λb c q=>keep b c oM q.2.1) (by rw[Xd];omega) |>.mono λb _ q=>⟨q.1,q.2.2.1,q.2.2.2⟩
  have w:i=zs.length:=by simp at z;omega
  subst w;refine⟨f,c5,?_,?_⟩;·rw[eV (h.len▸aA),h.len];simp
  rw[fN<|aA];simp only[kL,eM];have m:Yv wr (λb=>B0<=b) f ys:=Yv.of_at A aA λb a _=>a;exact((m.mono (Q:=λb=>W2.1.size<=b/\some b≠ur'.ownBlock/\some b≠ud.ownBlock/\some b≠ur.ownBlock) λb c q=>⟨oM,r b c (λe=>by have:=n b e.symm;omega),λe=>by have:=y b e.symm;omega,λe=>by have:=n b e.symm;omega⟩).keep (w':=w6.setCell (Hk bx 3) ur') (λb c q=>keep b c oM q.2.2.2) (by rw[Xd];omega)).mono λb _ q=>⟨q.1,q.2.1,q.2.2.1⟩
 .refine Zl h.ownD λg e=>keep g (h.ownD.lt g e).2 (oN<|(h.ownD.lt g e).1) λe2=>h.ne g e2.symm e
 obtain k|k:=o;·rw[k]at e;exact h.ne g e
 rw[k]at e;injection e with e;intro e2;have:=(h.ownD.lt g e2).2;omega
theorem OL.pushD{x:Int}(h:OL W2 bx f0 wr ur ud rs zs ds)(n:bx<W2.1.size)(c:wr.grownBy w6 ud.ownBlock)(w:w6.ownsRow W2.1.size 2 1 ud' (ds.length+1) (ds.map (Value.int .i64)++[.int .i64 x]))(s:ud'.ownBlock=ud.ownBlock\/ud'.ownBlock=some wr.1.size):
 OL W2 bx f0 (w6.setCell ⟨bx,4,none⟩ ud') ur ud' rs zs (ds++[x]):=by
 have A:=h.size;have B:=c.4;have j:∀q,q<W2.1.size->some q≠ud.ownBlock:=λq hq e=>by have:=(h.ownD.lt q e.symm).1;omega
 have m:∀b,b<wr.1.size->some b≠ud.ownBlock->some b≠ud'.ownBlock:=λb f a e=>by
  obtain k|k:=s;·exact a (k▸e)
  rw[k]at e;injection e with e;omega
 have keep:∀b,b<wr.1.size->b≠bx->some b≠ud.ownBlock->(w6.setCell (Hk bx 4) ud').1[b]?=wr.1[b]?:=λb a d r=>(Below.heap_setCell _ _ _ _ d).trans (c.5 b a r);refine⟨c.1.trans h.os,c.2.trans h.tape,c.3.trans h.output,by rw[Xd];omega,λq a d=>(keep q oM d<|j q a).trans (h.fr q a d),((h.box.of_block<|c.5 bx oM (j _ n)).set 4 ud').congr (λi _=>by by_cases e:i=4<;>simp[e]),Zl h.ownR λg e=>keep g (h.ownR.lt g e).2 (oN<|(h.ownR.lt g e).1) λe2=>h.ne g e e2.symm,h.len,λi t=>?_,?_,λg e e2=>?_⟩
 .let⟨o,p,e1,y⟩:=h.rows i t;refine⟨o,p,e1,?_⟩;exact((y.mono (Q:=λb=>W2.1.size<=b/\some b≠ur.ownBlock/\some b≠ud'.ownBlock/\some b≠ud.ownBlock) λb f q=>⟨q.1,q.2.1,m b f q.2.2,q.2.2⟩).keep (w':=w6.setCell (Hk bx 4) ud') (λb f q=>keep b f oM q.2.2.2) (by rw[Xd];omega)).mono λb _ q=>⟨q.1,q.2.1,q.2.2.1⟩
 .rw[Yl,aQ];exact ownsRow_setCell_below w n _
 exact m g (h.ownR.lt g e).2 (λe3=>h.ne g e e3.symm) e2.symm
theorem OL.fin(h:OL W2 bx f0 wr ur ud rs zs ds):(∃a c,ur=.slice a zs.length c/\TA wr (λb=>W2.1.size<=b) a zs)/\∃a c,ud=.slice a ds.length c/\Yv wr (λb=>W2.1.size<=b) a ds:=by
 refine⟨?_,?_⟩
 .rcases Vc h.ownR with⟨e1,e2,_⟩|⟨g,c,e1,hg,_⟩
  .have n:zs.length=0:=h.len▸e2;exact⟨none,0,by rw[e1,n],λi d=>absurd d oM⟩
  refine⟨_,c,by rw[e1,h.len],λi d=>?_⟩;let⟨e,f,e3,m⟩:=h.rows i d;refine⟨g,0,rfl,hg,e,f,?_,m.mono λb _ q=>q.1⟩;have:=h.ownR.cells (g:=g) (by rw[e1];rfl) i _ e3;rw[aV];by_cases e4:i=0;·subst e4;simpa [Addr.add]using this
  simpa [Addr.add,e4]using this
 let⟨a,c,j,d⟩:=Xk h.ownD;exact⟨a,c,j,Yv.of_at d aA λb k _=>k⟩
end
structure PL(w:Ub)(V:Nat)(a:Uy)(n c:Nat)(xs:Wi)(wr:Ub)(u:Uj)(k:Nat)(cs:Wo):Prop where
 low:Below w.1.size w wr
 sz:w.1.size+2<=wr.1.size
 f0:wr.cell? ⟨w.1.size,0,none⟩=some (.int .i64 (V:Int))
 f1:wr.cell? ⟨w.1.size,1,none⟩=some (.slice a n c)
 own:wr.ownsRow (w.1.size+1) 138 6 u k cs
 fa:∀i (h:i<xs.length),i<k->VO wr (λb=>w.1.size+2<=b/\some b≠u.ownBlock) (λj=>cs.getD (i*6+j) (.slice none 0 0)) xs[i] (XP xs i)
theorem PL.next{w:Ub}{V:Nat}{E:Uy}{I c:Nat}{s:Wi}{wr i o:Ub}{u u':Uj}{k:Nat}{m:Wo}{f:Vu}(h:PL w V E I c s wr u k m)(T:k<s.length)(n:Below wr.1.size wr i)(O:VO i (λb=>wr.1.size<=b) f s[k] (XP s k))(g:i.grownBy o u.ownBlock)(Q:o.ownsRow (w.1.size+1) 138 6 u' (k+1) (m++[f 0,f 1,f 2,f 3,f 4,f 5]))(M:u'.ownBlock=u.ownBlock\/u'.ownBlock=some i.1.size):
 PL w V E I c s o u' (k+1) (m++[f 0,f 1,f 2,f 3,f 4,f 5]):=by
 have W:=h.sz;have R:=n.4;have H:=g.4;have U:=h.low.4;have C:=λJ e=>h.own.lt J e;have N:=h.own.1;have D:∀q,q<=w.1.size->o.1[q]?=wr.1[q]?:=λq hq=>(g.5 q oM λe=>by have:=C q e.symm;omega).trans (n.5 q oM)
 refine⟨⟨g.1.trans<|n.1.trans h.low.1,g.2.trans<|n.2.trans h.low.2,g.3.trans<|n.3.trans h.low.3,oM,λq hq=>(D q oM).trans (h.low.5 q hq)⟩,oM,(Xc<|D _ aA).trans h.f0,(Xc<|D _ aA).trans h.f1,Q,λr P S=>?_⟩;have G:∀b,b<i.1.size->some b≠u.ownBlock->some b≠u'.ownBlock:=λb d p e=>by
  obtain q|q:=M;·exact p (q▸e)
  rw[q]at e;injection e with e;omega
 by_cases e:r=k
 .subst e
  have v:=O.mono (Q:=λb=>(w.1.size+2<=b/\some b≠u'.ownBlock)/\some b≠u.ownBlock) (λb d q=>⟨⟨oM,G b d λe=>by have:=C b e.symm;omega⟩,λe=>by have:=C b e.symm;omega⟩);have y:=(v.keep (w':=o) (λb d q=>g.5 b d q.2) H).mono (Q:=λb=>w.1.size+2<=b/\some b≠u'.ownBlock) λb _ q=>q.1;have a:∀j,j<6->(m++[f 0,f 1,f 2,f 3,f 4,f 5]).getD (r*6+j) Hq=f j:=λj F=>by
   rw[bF,eV oM,N,Nat.add_sub_cancel_left]
   match j,F with
   |0,_=>rfl
   |1,_=>rfl
   |2,_=>rfl
   |3,_=>rfl
   |4,_=>rfl
   |5,_=>rfl
  let⟨t,p,x,z,A,B⟩:=y;exact⟨by rw[a 0 vY];exact t,by rw[a 1 vY];exact p,by rw[a 2 vY];exact x,by rw[a 3 vY];exact z,by rw[a 4 vY];exact A,by rw[a 5 vY];exact B⟩
 have a:∀j,j<6->(m++[f 0,f 1,f 2,f 3,f 4,f 5]).getD (r*6+j) Hq=m.getD (r*6+j) Hq:=λj F=>by
  rw[bF,bF,dL oM]
 let⟨t,K,x,z,A,B⟩:=((((h.fa r P oM).keep (w':=i) (λb d _=>n.5 b d) R).mono (Q:=λb=>(w.1.size+2<=b/\some b≠u'.ownBlock)/\some b≠u.ownBlock) λb d q=>⟨⟨q.1,G b d q.2⟩,q.2⟩).keep (w':=o) (λb d q=>g.5 b d q.2) H).mono (Q:=λb=>w.1.size+2<=b/\some b≠u'.ownBlock) λb _ q=>q.1;exact⟨(a 0 vY)▸t,(a 1 vY)▸K,(a 2 vY)▸x,(a 3 vY)▸z,(a 4 vY)▸A,(a 5 vY)▸B⟩
theorem EZ{w:Ub}{L B:Nat}{b:Addr}{a:Wc}(h:Xf w L B (some b) a):∀(j:Nat)(u:Uj),(a.map<|Value.int .i64)[j]?=some u->w.cell? (b.add j)=some u:=λj u c=>by
 have d:j<a.length:=by have:=(cV.1 c).1;simpa using this
 let⟨i,o,e,_,f⟩:=h j d;injection e with e;subst e;have g:Hp a[j]=u:=by simpa [d]using c
 rw[<-g,<-f];by_cases e:j=0<;>simp[Addr.add,e]
theorem tQ{V:Nat}{a:Wi}(b:Jy V a)(p t:Int):(G2 a p t).length<=4000000:=by
 unfold G2;split;·simp
 rename_i x e;split;·simp
 have f:=YO t a 0;have g:=b.1.2;exact aJ (qL (AQ a 0 t) x.1 p (AQ a 0 t).length) (aJ (lO (show(AQ a 0 t).length<=1000 by omega) (b.10 x<|eN e).2) vY)
theorem V8{V:Nat}{b:Wi}(a:Jy V b)(p:Int):∀l:Wc,(l.flatMap<|G2 b p).length<=l.length*4000000
 |[]=>sP
 |t::l=>by
  have c:=V8 a p l;have d:=tQ a p t;rw[jF,aQ,bA];omega
theorem CL{a:Wi}{p:Int}{l:Wc}{j:Nat}(h:j<l.length):(l.take<|j+1).flatMap (G2 a p)=(l.take j).flatMap (G2 a p)++G2 a p l[j]:=by
 rw[bN h,eZ];simp
structure Pv(wr Y:Ub)(bx:Nat)(X:Xe)(f0:Vu):Prop where
 low:Below wr.1.size wr Y
 b1:wr.1.size<=bx
 box:Y.rowIs bx 138 6 f0
 n2:f0 2=.slice none 0 0
 n3:f0 3=.slice none 0 0
 n4:f0 4=.slice none 0 0
 e0:∃a c,f0 0=.slice a X.3.tg.length c/\Yv Y (λb=>wr.1.size<=b/\b≠bx) a X.3.tg
 e1:∃a c,f0 1=.slice a X.1.length c/\Yv Y (λb=>wr.1.size<=b/\b≠bx) a (X.1.map Ph.dst)
 e5:∃a c,f0 5=.slice a (Id X.3).length c/\Yv Y (λb=>wr.1.size<=b/\b≠bx) a (Id X.3)
def xp(c a b:Uj)(i:Nat):Uj:=if i=0 then c else if i=1 then a else if i=5 then b else .slice none 0 0
structure Ot(u W:Ub)(o:Zm)(I:List (Uy×Wc)):Prop where
 s:Below u.1.size u W
 bx:∀b,o=some b->W.rowIs b 138 6 (λ_=>.slice none 0 0)/\u.1.size<=b
 il:∀x∈I,Yv W (λb=>u.1.size<=b/\o≠some b) x.1 x.2
theorem Ot.next{u W a:Ub}{o:Zm}{I:List (Uy×Wc)}(h:Ot u W o I)(k:Below W.1.size W a):Ot u a o I :=
 ⟨Xg h.s k,λb e=>⟨(h.2 b e).1.of_block (k.5 _ (h.2 b e).1.lt),(h.2 b e).2⟩,λx d=>(h.3 x d).keep (λb c _=>k.5 b c) k.4⟩
theorem Ot.add{u W a:Ub}{o:Zm}{I:List (Uy×Wc)}{c:Uy}{d:Wc}(h:Ot u W o I)(k:Below W.1.size W a)(i:Xf a W.1.size a.1.size c d):Ot u a o ((c,d)::I):=by
 refine⟨(h.next k).s,(h.next k).2,λx b=>?_⟩;obtain rfl|b:=cH.1 b;·exact Yv.of_at i aA λe g _=>⟨aJ h.s.4 g,λf=>by have:=(h.2 e f).1.lt;omega⟩
 exact(h.next k).3 x b
theorem Ot.box{u W:Ub}{I:List (Uy×Wc)}(h:Ot u W none I):∃a,a=W.1.size/\Ot u (W.alloc<|.cells #[.slice none 0 0,.slice none 0 0,.slice none 0 0,.slice none 0 0,.slice none 0 0,.slice none 0 0] 138) (some a) I:=by
 refine⟨_,rfl,Xb h.s _,λb e=>?_,λx g=>((h.3 x g).mono λb j c=>⟨c.1,λe=>by cases e;omega⟩).keep (λb d _=>Below.heap_alloc _ _ _ d) sP⟩;cases e;exact⟨eK _ _ _ _ (λi f=>by match i,f with|0,_=>rfl|1,_=>rfl|2,_=>rfl|3,_=>rfl|4,_=>rfl|5,_=>rfl),h.s.4⟩
theorem AU{wr Z:Ub}{bx:Nat}{X:Xe}{f d e:Uy}{cT cP cR:Nat}(h:Ot wr Z (some bx) [(e,Id X.3),(d,X.1.map Ph.dst),(f,X.3.tg)]):
 Pv wr ((((((Z.setCell ⟨bx,0,none⟩ (.slice f X.3.tg.length cT)).setCell ⟨bx,1,none⟩ (.slice d X.1.length cP)).setCell ⟨bx,2,none⟩ (.slice none 0 0)).setCell ⟨bx,3,none⟩ (.slice none 0 0)).setCell ⟨bx,4,none⟩ (.slice none 0 0)).setCell ⟨bx,5,none⟩ (.slice e (Id X.3).length cR)) bx X (xp (.slice f X.3.tg.length cT) (.slice d X.1.length cP) (.slice e (Id X.3).length cR)):=by
 let⟨m,a⟩:=h.bx bx rfl;have c:∀{W:Ub}{j:Uy}{k:Wc}(i:Nat)(v:Uj),Yv W (λb=>wr.1.size<=b/\b≠bx) j k->Yv (W.setCell (Hk bx i) v) (λb=>wr.1.size<=b/\b≠bx) j k:=λi v r=>r.keep (λb _ q=>Below.heap_setCell _ _ _ _ q.2) sP;have g:=λx p s v1 v2 v3 v4 v5=>c 5 v5 (c 4 v4<|c 3 v3 (c 2 v2<|c 1 v1 (c 0 s<|(h.il x p).mono λb _ q=>⟨q.1,λn=>q.2<|by rw[n]⟩)));refine⟨((((((h.s.setCell a _).setCell a _).setCell a _).setCell a _).setCell a _).setCell a _),a,((((((m.set 0 _).set 1 _).set 2 _).set 3 _).set 4 _).set 5 _).congr λi o=>?_,rfl,rfl,rfl,⟨f,cT,rfl,g (f,X.3.tg) sP _ _ _ _ _ _⟩,⟨d,cP,rfl,g (d,X.1.map Ph.dst) sP _ _ _ _ _ _⟩,⟨e,cR,rfl,g (e,Id X.3) sP _ _ _ _ _ _⟩⟩;unfold xp
 match i,o with
 |0,_=>rfl
 |1,_=>rfl
 |2,_=>rfl
 |3,_=>rfl
 |4,_=>rfl
 |5,_=>rfl
def jo(a v1 v2 v3 v4 v5:Value):Nat->Value
 |0=>a
 |1=>v1
 |2=>v2
 |3=>v3
 |4=>v4
 |_=>v5
def YQ(w:Ub)(d:Uy)(a:Wi):Prop:=∀i (h:i<a.length),∃b o c,d=some ⟨b,o,none⟩/\b<w.1.size/\(∀j,j<6->w.cell? ⟨b,o+i*6+j,none⟩=some (c j))/\VO w (λ_=>True) c a[i] (XP a i)
theorem YQ.keep{w w':Ub}{a:Uy}{d:Wi}(h:YQ w a d)(k:Below w.1.size w w'):YQ w' a d:=λm i=>by
 let⟨b,o,p,e,c,f,g⟩:=h m i;exact⟨b,o,p,e,aX c k.4,λn j=>(Xc<|k.5 b c).trans (f n j),g.keep (λq hq _=>k.5 q hq) k.4⟩
def WJ(w:Ub)(c:Nat)(e:Uy)(a:Wi):Prop:=∀i (h:i<a.length),∃b o d,e=some ⟨b,o,none⟩/\(c<=b/\b<w.1.size)/\(∀j,j<6->w.cell? ⟨b,o+i*6+j,none⟩=some (d j))/\VO w (λq=>c<=q) d a[i] (XP a i)
theorem WJ.at_{w:Ub}{d:Nat}{a:Uy}{b:Wi}(h:WJ w d a b):YQ w a b:=λk j=>by
 let⟨c,o,m,e,f,g,i⟩:=h k j;exact⟨c,o,m,e,f.2,g,i.mono λ_ _ _=>trivial⟩
theorem PL.fin{w:Ub}{V:Nat}{m:Uy}{n c:Nat}{d:Wi}{wr:Ub}{u:Uj}{a:Wo}(h:PL w V m n c d wr u d.length a):∃f e,u=.slice f d.length e/\WJ wr w.1.size f d:=by
 obtain⟨e1,e2,_⟩|⟨g,e,e1,hg,_⟩:=Vc h.own;·exact⟨none,0,by rw[e1,e2],λi b=>absurd b oM⟩
 have o:=h.own.1;refine⟨_,e,e1,λi b=>⟨g,0,λj=>a.getD (i*6+j) Hq,rfl,⟨oN hg.1,hg.2⟩,λj p=>?_,(h.fa i b b).mono λq _ hq=>by have:=hq.1;omega⟩⟩;have k:i*6+j<a.length:=oM;have:=h.own.cells (g:=g) (by rw[e1];rfl) (i*6+j) (a[i*6+j]) (aC k);show wr.cell? (Hk g<|0+i*6+j)=some (a.getD (i*6+j) Hq);rw[aV,bF,aC k];rw[ja]at this;exact this
end
def I0(b:Wi)(a:Vp)(i:Nat):Wk:=(b[i]?).elim (λ_=>0) λx=>OS x<|a i
def T0(a:Wi)(i:Nat):Wk:=(a[i]?).elim (λ_=>0) OU
theorem wY(h:n<x.length):I0 x M n=OS x[n] (M n):=by simp[I0,h]
theorem wT(h:n<x.length):T0 x n=OU x[n]:=by simp[T0,h]
theorem Gc(h:XQ M):XQ (I0 x M):=λi=>by
 unfold I0;cases x[i]? with
 |none=>exact JW
 |some a=>exact FR<|h i
theorem FY:XQ (T0 x):=λi=>by
 unfold T0;cases x[i]? with
 |none=>exact JW
 |some a=>exact Fg
theorem cy.congr(h:cy n w m k B f F M)(e:∀i,i<k->M i=N i):cy n w m k B f F N :=
 ⟨h.1,λi a=>(e i a)▸h.2 i a,h.3,h.o⟩
def jh(a:Wi):List Wa:=(List.range a.length).map (X8 a)
theorem DD:(λb=>(jh x).getD b [])=X8 x:=by
 funext b;unfold jh;by_cases h:b<x.length
 .simp[h]
 simp only[bF,dX];rw[dK<|by simp;omega];unfold X8;rw[dK oM];rfl
theorem WM(a:UF x)(h:n<x.length):Xi (X8 x n)=N6 x n:=by
 rw[Km h,VS h];exact Kv λv b=>(a.3 _ (aH h) v b).1
structure Px(p:VD)(gi ci:Wk)(nx:Vu)(ds:Wa)(W:Ub)(WI:Vp):Prop where
 low:Below p.w.1.size p.w W
 sz:p.M<=W.1.size
 f0:W.cell? ⟨p.w.1.size,0,none⟩=some (.int .i64 (p.V:Int))
 r0:W.cell? ⟨p.w.1.size+1,0,none⟩=some (.slice none 0 0)
 r1:W.cell? ⟨p.w.1.size+1,1,none⟩=some (.slice none 0 0)
 rz:∀q,W.frozen? ⟨p.w.1.size+1,q,none⟩=false
 l0:W.cell? ⟨p.LB,0,none⟩=some (.slice (some ⟨p.9,0,none⟩) p.n p.n)
 l1:W.cell? ⟨p.LB,1,none⟩=some (.slice (some ⟨p.Go,0,none⟩) p.n p.n)
 o:XK W p.Go p.n p.5 p.go (λ_=>p.5) p.WO
 inn:XK W p.9 p.n p.5 gi ci WI
 igM:∀i,i<p.n->p.M<=gi i
 nxr:W.rowIs p.Gn 41 p.n nx
 nxs:∀i,i<p.n->∃a' c',nx i=.slice a' (N6 p.8 i).length c'/\Yv W (λb=>p.M<=b) a' (N6 p.8 i)
 O7:ZJ W p.M ds
 wi:XQ WI
 ord:∃ord:Wa,(∀b,b<p.n->b∈ord)/\∀b,b<p.n->∀x,x<64*p.5->(Xh (WI b) x=true↔Sp (I0 p.8 p.WO) (T0 p.8) (·∈ord) (X8 p.8) b x)
theorem Oi.spread{p:VD}{d:PE}(h:Oi p w p.n d)(j:PO p)(q:O2 p p.n d)(E:ZJ w p.M s)(y:Jy p.V p.8)(L:p.n=p.8.length)(ab:XQ p.WO)(S:p.5<=100):
 ∃m C,d.7=.slice (some ⟨m,0,none⟩) d.8.length C/\Calls prog 105 #[.slice (some ⟨m,0,none⟩) d.8.length C,.slice (some ⟨p.Gn,0,none⟩) p.n p.n,.slice (some ⟨p.9,0,none⟩) p.n p.n,.slice (some ⟨p.Gd,0,none⟩) p.n p.n] w.drew λe r=>e=.returned (.tuple #[])/\(∃O,Px p d.1 d.2 d.5 s r O)/\(∀b,b<w.1.size->b<p.M->r.1[b]?=w.1[b]?):=by
 have hz:=h.2;have az:1<=p.n:=oN y.1.1;have a0:p.n<=1000:=oN y.1.2;have J:=eJ<|q.3 0 (q.4 0 oM);have T:d.8.length<=1000:=oN q.7
 let⟨m,C,N,hg,_⟩:=Xm h.19.6 J;refine⟨m,C,N,?_⟩;have M:=h.19.6;rw[N,show Je d.8=(Xi d.8).map (Value.int .i64) by simp[Je,Xi]]at M;let⟨a1,c1,e1,U⟩:=Xk M;injection e1 with e1 e2 e3;subst e1;have aj:=j.1;have ap:=j.9;have aq:=j.a8;have ar:=j.a9;have t:XK w p.9 p.n p.5 d.1 d.2 (I0 p.8 p.WO):=⟨h.12.congr λi a=>by rw[aU a],λi a=>by rw[wY oM,<-q.1 i oM a];exact h.13 i a,h.14,λi a e=>by have:=h.15 i a;omega⟩;have u:XK w p.Gd p.n p.5 p.gd (λ_=>p.5) (T0 p.8):=h.16.congr (λi a=>by rw[wT oM,q.2 i oM,aU a]);have X:∀i,i<p.n->w.cell? (Hk p.Gn<|0+i)=some (d.5 i):=λi a=>by
  rw[aV];exact(h.17.cell a).trans (by rw[aU a])
 have Z:TA w (λac=>∀i,i<p.n->ac≠d.1 i) (some ⟨p.Gn,0,none⟩) ((jh p.8).map Xi):=λi a=>by
  have x:i<p.8.length:=by simpa [jh]using a
  have K:i<p.n:=oM;let⟨z,A,e,F⟩:=h.18 i K;have H:((jh p.8).map Xi)[i]=N6 p.8 i:=by
   simp only[cM,jh,dW];exact WM y.1 x
  refine⟨p.Gn,0,rfl,⟨λl k e=>by have:=h.15 l k;omega,h.17.lt⟩,z,A,?_,?_⟩;·rw[H,X i K,e]
  rw[H];intro l k;let⟨b,o,e2,c,D⟩:=F l k;exact⟨b,o,e2,⟨c.1.2.1,c.2⟩,D⟩
 refine(Az m 0 d.8.length C d.8 p.M w.1.size (some ⟨p.Gn,0,none⟩) p.n p.n (jh p.8) p.9 p.Gd p.n p.5 d.1 p.gd d.2 (λ_=>p.5) (I0 p.8 p.WO) (T0 p.8) w.drew (Xa U) (Xa rfl) T J (Xa Z) (Xa<|by simp[jh];exact L) (Xa<|by simp[jh];exact L.symm) S aA (Xa ⟨t.1,λi a=>(t.2 i a).drew,t.3,t.o⟩) (Xa ⟨u.1,λi a=>(u.2 i a).drew,u.3,u.o⟩) (Xa<|Gc ab) (Xa FY) (Xa λi a=>by have:=h.15 i a;omega) (Xa λi l a k=>by have:=h.15 l k;have:=j.a6 i a;omega) (Xa q.5) (Xa λa2 W=>?_)).mono ?_
 .obtain⟨i,a,rfl⟩:=aY.1 W;have x:=bE.1 a;refine⟨?_,λad ht=>by have:=y.1.tg i x ad ht;omega⟩;rw[Km x,bK];have:=KJ p.8[i].3;omega
 rintro e r⟨rfl,n,P,aa,Y,V⟩;have g:U8 w r p.n d.1:=⟨n.1,n.2,n.3,n.4,n.5⟩;have f:∀b,b<p.M->r.1[b]?=w.1[b]?:=λb c=>g.5 b oM (λi a e=>by have:=h.15 i a;omega);have hw:=h.1.4;have al:=j.2;have ao:=j.3;refine⟨rfl,⟨P,⟨⟨g.1.trans h.1.1,g.2.trans h.1.2,g.3.trans h.1.3,aJ hw g.4,λb c=>(f b oM).trans (h.1.5 b c)⟩,aJ hz g.4,(Xc<|f _ oM).trans h.3,(Xc<|f _ oM).trans h.5,(Xc<|f _ oM).trans h.6,λo=>by rw[bJ (a:=(Hk (p.w.1.size+1) o)) (f (p.w.1.size+1) oM)];exact h.7 o,(Xc<|f _ oM).trans h.8,(Xc<|f _ oM).trans h.9,⟨h.o.1.of_block<|f _ oM,λi a=>(h.o.2 i a).of_block (f _<|oN (j.4 i a)),h.o.3,h.o.o⟩,Y,h.15,(h.17.of_block<|f _ oM).congr λi a=>by rw[aU a],λi a=>?_,⟨E.1,E.2,λG R=>?_⟩,aa,d.8,λb c=>q.3 b<|q.4 b c,λb c af hx=>?_⟩⟩,λb h1 Q=>f b Q⟩
 .let⟨z,A,e,F⟩:=h.18 i a;refine⟨z,A,e,λl k=>?_⟩;let⟨b,o,e2,c,D⟩:=F l k;exact⟨b,o,e2,⟨c.1.1,aX c.2 g.4⟩,(Xc<|g.5 b c.2 c.1.2.1).trans D⟩
 .have B:=E.3 G R;refine(g.5 G (aS.1 B).1 λi a e=>?_).trans B;let⟨o,v,I⟩:=(h.13 i a).obj;rw[<-e,B]at v;injection v with v;rw[<-v]at I;cases I
 rw[<-DD];exact V b c af hx
def it(a:Vp)(l:Wa)(W:Wk):Wk:=l.foldl (λW t=>NR W (a t) λ_=>0) W
theorem qM{a:Vp}(h:XQ a):∀(l:Wa){W:Wk},XA W->XA (it a l W)
 |[],_,hW=>hW
 |t::l,_,hW=>qM h l<|q8 hW (h t)
theorem uX{a:Vp}(h:XQ a)(x:Nat):∀(l:Wa){W:Wk},XA W->(Xh (it a l W) x=true↔Xh W x=true\/∃t∈l,Xh (a t) x=true)
 |[],W,_=>by simp[it]
 |t::l,W,hW=>by
  show Xh (it a l<|NR W (a t) λ_=>0) x=true↔_;rw[uX h x l<|q8 hW (h t),vD hW JW,Z3];simp only[Bool.not_false,Bool.and_true,dI,cH,exists_eq_or_imp,or_assoc]
theorem CU(h:n<s.length)(W:Wk):it M (s.take<|n+1) W=NR (it M (s.take n) W) (M s[n]) (λ_=>0):=by
 unfold it;rw[bN h,dT];rfl
def Vq(d:Wi)(b a:Vp)(c j:Nat):Vp:=λi=>if i<c then it b (X8 d i) (a i)else if i=c then it b ((X8 d i).take j) (a i)else a i
theorem vm(h:XQ M)(a:XQ N)(b j:Nat):XQ (Vq x M N b j):=λi=>by
 unfold Vq;split;·exact qM h _<|a i
 split;·exact qM h _<|a i
 exact a i
structure OY(p:VD)(gi ci:Wk)(ds:Wa)(WI:Vp)(W2:Ub)(gN:Nat)(wr:Ub)(b j:Nat):Prop where
 os:wr.4=W2.4
 tape:wr.2=W2.2
 output:wr.5=W2.5
 size:W2.1.size<=wr.1.size
 fr:∀q,q<W2.1.size->(∀i,i<p.n->q≠p.go i)->wr.1[q]?=W2.1[q]?
 o:XK wr p.Go p.n p.5 p.go (λ_=>p.5) (Vq p.8 WI p.WO b j)
theorem OY.start{p:VD}{nx:Vu}(h:Px p f F nx s w M)(k:Below w.1.size w v):OY p f F s M v n v 0 0 :=
 ⟨rfl,rfl,rfl,aA,λ_ _ _=>rfl,(h.o.keep k).congr (λi _=>by unfold Vq;by_cases e:i=0<;>simp[e,it])⟩
theorem OY.row{p:VD}{wr:Ub}(h:OY p f F s M w n wr m k)(a:(X8 p.8 m).length<=k):OY p f F s M w n wr (m+1) 0 :=
 ⟨h.1,h.2,h.3,h.4,h.5,h.o.congr (λi _=>by
  unfold Vq;by_cases e1:i<m;·rw[aU e1,aU oM]
  by_cases e2:i=m;·rw[aM e1,aU e2,aU oM,e2,aW a]
  rw[aM e1,aM e2,aM oM];by_cases e3:i=m+1;·rw[aU e3];simp[it]
  rw[aM e3])⟩
theorem OY.next{p:VD}{wr:Ub}(h:OY p f F s M w n wr m k)(d:m<p.n)(g:k<(X8 p.8 m).length)(a:wr.grownBy v (some<|p.go m))(j:Cp v (p.go m) p.5 p.5 (NR (Vq p.8 M p.WO m k m) (M (X8 p.8 m)[k]) λ_=>0)):OY p f F s M w n v m (k+1):=by
 refine⟨a.1.trans h.1,a.2.trans h.2,a.3.trans h.3,aJ h.4 a.4,λq b c=>(a.5 q (aX b h.4) λe=>c m d<|by injection e).trans (h.5 q b c),(h.o.wrote d a j).congr λi _=>?_⟩;by_cases e:i=m
 .subst e;simp only[Vq,Nat.lt_irrefl,fD,gG];rw[CU g]
 unfold Vq;rw[aM e];by_cases e1:i<m;·rw[aU e1,aU e1]
 rw[aM e1,aM e1,aM e,aM e]
theorem OY.res{p:VD}{nx:Vu}{wr w':Ub}(h:OY p f F s M v n wr p.n 0)(b:Px p f F nx s w M)(c:PO p)(e:Below w.1.size w v)(A:p.n=p.8.length)(r:XQ p.WO)(x:∀d,d<p.n->∀j,Xh (p.WO d) j=true↔(d,j)∈Nr p.8 p.n)(g:∀q,q<wr.1.size->q≠p.w.1.size+1->q<p.M\/(∃i,i<p.n/\q=f i)->w'.1[q]?=wr.1[q]?)(B:w'.4=wr.4)(D:w'.2=wr.2)(C:w'.5=wr.5)(P:wr.1.size<=w'.1.size):Po p.w w' p.n p.5 p.8 p.9 p.Go f p.go F M (Vq p.8 M p.WO p.n 0):=by
 have S:=b.1.4;have I:=c.1;have J:=c.3;have K:=c.9;have L:=c.a9;have N:=b.2;have Q:=e.4;have R:=h.4;have t:=λq u l m=>(g q oM l<|bC u).trans ((h.5 q oM m).trans (e.5 q oM));refine⟨⟨B.trans<|h.1.trans (e.1.trans b.1.1),D.trans<|h.2.trans (e.2.trans b.1.2),C.trans<|h.3.trans (e.3.trans b.1.3),oM,λq hq=>(t q oM oM λi a k=>by have:=c.4 i a;omega).trans (b.1.5 q hq)⟩,⟨b.10.1.of_block (t p.9 oM oM λi a k=>(c.8 i a).1 k.symm),λi a=>?_,b.10.3,b.10.o⟩,⟨h.o.1.of_block<|g p.Go oM oM (bC oM),λi a=>(h.o.2 i a).of_block (g _ (oN<|c.4 i a) (oN<|c.4 i a) (bC<|oN (c.4 i a))),h.o.3,h.o.o⟩,b.wi,vm b.wi r _ _,⟨oM,oM⟩,λi a=>⟨oN<|b.11 i a,oN<|c.4 i a⟩,?_⟩
 .have O:=b.11 i a;have z:=(b.10.2 i a).lt;refine(b.10.2 i a).of_block ((g (f i) oM oM (aZ ⟨i,a,rfl⟩)).trans ((h.5 (f i) oM λE y k=>by have:=c.4 E y;omega).trans (e.5 _ z)))
 let⟨G,l,m⟩:=b.16;refine⟨I0 p.8 p.WO,T0 p.8,p.WO,G,λi a=>wY a,λi a=>wT a,λd o j=>A▸x d oM j,λd o=>l d oM,m,λd o H=>?_⟩;unfold Vq;rw[aU o];exact uX b.wi H _<|r d
theorem JZ{F:Fence}{o:Nat}{P:Yh}{e:Func}{tmps:Zh}{R:Ending->Vy}{B:Nat}:∀(b:Wa)(W:Ub),ZJ W B b->(∀a:Ub,a.4=W.4->a.2=W.2->a.5=W.5->W.1.size<=a.1.size->(∀k,k∉b->a.1[k]?=W.1[k]?)->∃v,(results e tmps).run P a=.ok v a/\R (.returned v) a)->LeavesInM F o P e tmps R (O7 b) .returning W
 |[],W,_,h=>h W rfl rfl rfl aA λ_ _=>rfl
 |D::b,W,hm,h=>by
  refine⟨sP,bC ⟨D,_,rfl,run_takeDeferred<|hm.3 D cI,?_⟩⟩;have c:=grownBy_putObj' W D<|.deferred none;refine JZ (B:=B) b _ ⟨(fL.1 hm.1).2,λk d=>hm.2 k<|cN _ d,λk d=>?_⟩ λa i j l m n=>h a (i.trans c.1) (j.trans c.2) (l.trans c.3) (aJ c.4 m) λq hq=>?_;·exact(World.putObj_heap_other λg=>(fL.1 hm.1).1 (by rw[<-g];exact d)).trans (hm.3 k<|cN _ d)
  have f:q≠D/\q∉b:=by simpa using hq
  exact(n q f.2).trans (World.putObj_heap_other f.1)
theorem Ur{b d n a:Int}:
 Calls prog 66 #[.agg #[Hp t,Hp T,Hp z,Hp b,Hp d],Hp n,Hp a] w λe g=>e=.returned (.bool (Yw n a ⟨t,T,z,b,d⟩))/\Below w.1.size w g:=by
 by_cases h:1<=t/\t<=a
 .let⟨c,i⟩:=h
  go_in
  go_wp2_with fail
  refine(nZ _ _).mono ?_;rintro e f⟨rfl,rfl⟩;go_wp2_with fail
  refine(vG _ _).mono ?_;rintro e f⟨rfl,rfl⟩;go_wp2_with fail
  refine(vU _ _).mono ?_;rintro e f⟨rfl,rfl⟩;go_wp2
  all_goals
   go_ret;refine⟨Xl ?_,Xb (Below.refl _ _) _⟩
   first|(simp[Yw,Tp,Wu, *];done)|(simp[Yw,Tp,Wu, *];omega)|(rw[eQ];simp[Yw,Tp,Wu, *];omega)
 go_in
 go_wp2
 all_goals
  go_ret;refine⟨Xl ?_,Xb (Below.refl _ _) _⟩;symm;unfold Yw;by_cases c:1<=t;·rw[dJ (p:=t<=a) oM];simp
  rw[dJ (p:=1<=t) c];simp
section
attribute [local go_sem ↓] Go.wp_at_zero Go.wp_at_succ
def KV(v:Int)(n:Nat)(x:Xe):Bool:=x.2.all (Yw v 10)&&Jf v n x.3
theorem EI{F:Fn}:(Z0 F&&J2 F)=F.2.all (KV F.1 F.2.length):=by
 rw[show F.2.all (KV F.1 F.2.length)=F.2.all (λx=>x.2.all (Yw F.1 10)&&Jf F.1 F.2.length x.3)from rfl,vw];rfl
theorem AJ(ha:Hs (Xp w m k p x))(l:Hs (n=x.length))(j:n<=1048576)(g:Hs (Xo x<=1048576))(b:k<=w.1.size)(h:Hs (¬(0<=t/\t<=2000/\1<=n/\n<=1000/\Xo x<=4000))):
 Calls prog 32 #[.agg #[Hp t,.slice p n c]] w λe o=>e=.returned (.bool false)/\Below w.1.size w o:=by
 by_cases a:0<=t/\t<=2000/\1<=n/\n<=1000
 .let⟨q,d1,d2,d3⟩:=a;have r:4000<Xo x:=oN h.o
  go_in
  go_wp2_with fail
  refine(tB m k ?q1 l j g ?q2).mono ?_
  case q1=>exact ha.keep (Xb (Below.refl _ _) _ |>.mono b)
  case q2=>simp;omega
  rintro e s⟨rfl,f⟩;go_wp2;go_ret;exact⟨rfl,Xg (Xb (Below.refl _ _) _) f⟩
 have i:t<0\/(0<=t/\2000<t)\/(0<=t/\t<=2000/\n<1)\/(0<=t/\t<=2000/\1<=n/\1000<n):=oM;obtain d|⟨d,d1⟩|⟨d,d1,d2⟩|⟨d,d1,d2,d3⟩:=i
 all_goals
  go_in
  go_wp2;go_ret;exact⟨rfl,Xb (Below.refl _ _) _⟩
end
structure OB(w w1 X:Ub)(V:Nat)(a:Uy)(n c Kw:Nat)(xs:Wi)(m l:Zm)(q:Option (Nat×Wk×Vp)):Prop where
 low:Below w1.1.size w1 X
 f0:w1.cell? ⟨w.1.size,0,none⟩=some (.int .i64 (V:Int))
 f1:w1.cell? ⟨w.1.size,1,none⟩=some (.slice a n c)
 lt:w.1.size<w1.1.size
 mr:∀g,m=some g->X.rowIs g 103 n (λ_=>.slice none 0 0)/\w1.1.size<=g
 lb:∀g,l=some g->X.rowIs g 106 2 (λ_=>.slice none 0 0)/\w1.1.size<=g
 ca:∀r,q=some r->XK X r.1 n Kw r.2.1 (λ_=>Kw) r.2.2/\XQ r.2.2/\(∀b,b<n->∀v,Xh (r.2.2 b) v=true↔(b,v)∈Nr xs n)/\w1.1.size<=r.1/\∀i,i<n->w1.1.size<=r.2.1 i
 d1:∀g h,m=some g->l=some h->g≠h
 d2:∀g r,m=some g->q=some r->g≠r.1/\∀i,i<n->r.2.1 i≠g
 d3:∀g r,l=some g->q=some r->g≠r.1/\∀i,i<n->r.2.1 i≠g
theorem OB.next{b l:Zm}{q:Option (Nat×Wk×Vp)}(h:OB w v u n p m c k x b l q)(a:Below u.1.size u W):OB w v W n p m c k x b l q :=
 ⟨Xg h.1 a,h.2,h.3,h.4,λg e=>⟨(h.5 g e).1.of_block (a.5 _ (h.5 g e).1.lt),(h.5 g e).2⟩,λg e=>⟨(h.6 g e).1.of_block (a.5 _ (h.6 g e).1.lt),(h.6 g e).2⟩,λr e=>⟨(h.7 r e).1.keep a,(h.7 r e).2⟩,h.8,h.9,h.d3⟩
theorem OB.mkS{l:Zm}{q:Option (Nat×Wk×Vp)}{K:Tf}{A:Act}(h:OB w v u n p m c k x none l q)(d:∀Y,OB w v Y n p m c k x (some u.1.size) l q->K A Y):K A (u.alloc<|.cells (madeCells #[.slice none 0 0] m) 103):=by
 have a:=h.next<|Xb (Below.refl _ u) (.cells (madeCells #[Hq] m) 103);have z:=h.1.4;refine d _ ⟨a.1,h.2,h.3,h.4,λg e=>?_,a.6,a.7,λg r e e2=>?_,λg r e e2=>?_,a.d3⟩;·cases e;exact⟨dG u _ m _,z⟩
 .cases e;have:=(h.6 r e2).1.lt;omega
 cases e;have:=(h.7 r e2).1.1.lt;exact⟨oM,λi b=>by have:=((h.7 r e2).1.2 i b).lt;omega⟩
theorem OB.lbS{d:Zm}{q:Option (Nat×Wk×Vp)}{K:Tf}{A:Act}(h:OB w v u n p m c k x d none q)(f:∀Y,OB w v Y n p m c k x d (some u.1.size) q->K A Y):K A (u.alloc<|.cells #[.slice none 0 0,.slice none 0 0] 106):=by
 have a:=h.next<|Xb (Below.refl _ u) (.cells #[Hq,Hq] 106);have z:=h.1.4;refine f _ ⟨a.1,h.2,h.3,h.4,a.5,λg e=>?_,a.7,λg r e e2=>?_,a.9,λg r e e2=>?_⟩;·cases e;exact⟨eK u #[Hq,Hq] 106 (λ_=>Hq) (λi b=>by match i,b with|0,_=>rfl|1,_=>rfl),z⟩
 .cases e2;have:=(h.5 g e).1.lt;omega
 cases e;have:=(h.7 r e2).1.1.lt;exact⟨oM,λi b=>by have:=((h.7 r e2).1.2 i b).lt;omega⟩
theorem OB.caS{av:Zh}{q o:Zm}(h:OB w v u m p k c B x q o none)(A:Calls R n av u λe t=>∃G a b,e=.returned (Hl G k k)/\u.1.size<=G/\Below u.1.size u t/\XK t G k B a (λ_=>B) b/\(∀i,i<k->u.1.size<=a i)/\XQ b/\∀d,d<k->∀s,Xh (b d) s=true↔(d,s)∈Nr x k):
 Calls R n av u λe Y=>∃G a b,e=.returned (Hl G k k)/\OB w v Y m p k c B x q o (some (G,a,b)):=by
 refine A.mono ?_;rintro e Y⟨G,a,b,rfl,y,d,D,l,E,C⟩;have j:=h.next d;have z:=h.1.4;refine⟨G,a,b,rfl,j.1,h.2,h.3,h.4,j.5,j.6,λr e=>?_,j.8,λg r e e2=>?_,λg r e e2=>?_⟩;·cases e;exact⟨D,E,C,aJ z y,λi f=>aJ z<|l i f⟩
 .cases e2;have:=(h.5 g e).1.lt;exact⟨by show g≠G;omega,λi f=>by have:=l i f;show a i≠g;omega⟩
 cases e2;have:=(h.6 g e).1.lt;exact⟨by show g≠G;omega,λi f=>by have:=l i f;show a i≠g;omega⟩
theorem OB.kp{a l:Zm}{q:Option (Nat×Wk×Vp)}(h:OB w v u n p m c k x a l q):u.cell? (Hk w.1.size 0)=some (Hp n)/\u.cell? (Hk w.1.size 1)=some (.slice p m c) :=
 ⟨oB h.1 h.2 h.4,oB h.1 h.3 h.4⟩
theorem OB.lbc{d:Zm}{q:Option (Nat×Wk×Vp)}(h:OB w v u n p m c k x d (some B) q):u.cell? ⟨B,0,none⟩=some (.slice none 0 0)/\u.cell? ⟨B,1,none⟩=some (.slice none 0 0)/\(∀o,u.frozen? ⟨B,o,none⟩=false)/\∀b,(u.setCell ⟨B,0,none⟩ b).cell? ⟨B,1,none⟩=some (.slice none 0 0):=by
 have r:=(h.6 B rfl).1;have a:=r.cell (i:=1) vY;exact⟨r.cell (i:=0) vY,a,r.frozen,λb=>(cJ sP).trans a⟩
theorem OB.fin(h:OB w v u n p m c k x (some B) (some g) (some (i,f,M)))(q:Below w.1.size w v)(a:v.1.size=w.1.size+2)(s:v.cell? ⟨w.1.size+1,0,none⟩=some (.slice none 0 0))(t:v.cell? ⟨w.1.size+1,1,none⟩=some (.slice none 0 0))(rz:∀r,v.frozen? ⟨w.1.size+1,r,none⟩=false):
 Pp w ((u.setCell ⟨g,0,none⟩ (.slice (some ⟨B,0,none⟩) m m)).setCell ⟨g,1,none⟩ (.slice (some ⟨i,0,none⟩) m m)) n p m c k x B g i f M:=by
 let⟨y,z,o,e,j⟩:=h.7 _ rfl;have d2:=h.9 _ _ rfl rfl;have d3:=h.d3 _ _ rfl rfl;exact VR q a h.1 h.2 h.3 s t rz (h.5 B rfl).1 (h.6 g rfl).1 y z o (a▸(h.5 B rfl).2) (a▸(h.6 g rfl).2) (a▸e) (λd b=>a▸j d b) ⟨λl=>d3.1 l.symm,h.8 _ _ rfl rfl,d2.1,λd b=>⟨d2.2 d b,d3.2 d b⟩⟩
theorem IW.set4{wr:Ub}(h:IW n m w wr)(a:n<=k/\k<m){b:Int}(d:wr.cell? ⟨k,B,none⟩=some (.int .i64 t))(e1:wr.cell? ⟨k,B+1,none⟩=some (.int .i64 T))(e2:wr.cell? ⟨k,B+2,none⟩=some (.int .i64 z))(e3:wr.cell? ⟨k,B+3,none⟩=some (.int .i64 b))(c v1 v2 v3:Int):
 IW n m w ((((wr.setCell ⟨k,B,none⟩ (.int .i64 c)).setCell ⟨k,B+1,none⟩ (.int .i64 v1)).setCell ⟨k,B+2,none⟩ (.int .i64 v2)).setCell ⟨k,B+3,none⟩ (.int .i64 v3)):=by
 refine IW.set (IW.set (IW.set (IW.set h a d c) a (u:=T) ?_ v1) a (u:=z) ?_ v2) a (u:=b) ?_ v3;·rw[XL _ _ oM];exact e1
 .rw[XL _ _ oM,XL _ _ oM];exact e2
 rw[XL _ _ oM,XL _ _ oM,XL _ _ oM];exact e3
theorem IW.set5{wr:Ub}(h:IW n m w wr)(a:n<=k/\k<m){e b:Int}(d:wr.cell? ⟨k,B,none⟩=some (.int .i64 t))(e1:wr.cell? ⟨k,B+1,none⟩=some (.int .i64 T))(e2:wr.cell? ⟨k,B+2,none⟩=some (.int .i64 z))(e3:wr.cell? ⟨k,B+3,none⟩=some (.int .i64 e))(e4:wr.cell? ⟨k,B+4,none⟩=some (.int .i64 b))(c v1 v2 v3 v4:Int):
 IW n m w (((((wr.setCell ⟨k,B,none⟩ (.int .i64 c)).setCell ⟨k,B+1,none⟩ (.int .i64 v1)).setCell ⟨k,B+2,none⟩ (.int .i64 v2)).setCell ⟨k,B+3,none⟩ (.int .i64 v3)).setCell ⟨k,B+4,none⟩ (.int .i64 v4)):=by
 refine IW.set (h.set4 a d e1 e2 e3 c v1 v2 v3) a (u:=b) ?_ v4;rw[XL _ _ oM,XL _ _ oM,XL _ _ oM,XL _ _ oM];exact e4
def Nd(k:Int)(n:Nat):Wc:=(List.range n).map λi=>k+(i:Nat)
end Go.Proofs.YtcfdhbigppockaaGreatDoor
