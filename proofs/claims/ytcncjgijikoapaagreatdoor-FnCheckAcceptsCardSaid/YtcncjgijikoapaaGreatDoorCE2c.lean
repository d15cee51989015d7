import Derived.Test.YtcncjgijikoapaaGreatDoorCD4
import Derived.Defers
import Derived.Recover
import Derived.Test.YtcncjgijikoapaaGreatDoorLMbz
import Derived.Laws.Pointers
namespace Go.Proofs.YtcncjgijikoapaaGreatDoor
set_option maxHeartbeats 8000000
set_option maxRecDepth 100000
open _root_ renaming Array.size->Z,List.length->J,Nat->N,Int->I,rfl->R,Option.some->S,Option.none->U,Bool.true->So,Bool.false->Sn,absurd->Sz,trivial->JV
open Go renaming World.cell?->E,World.alloc->D,World.setCell->Se,IntKind.i64->S6,Obj.cells->Sc,Ending.returned->Rt,RowKit.Below->Sw,Calls->Sk,RowKit.intOf->JB,results->JC,World.ownsRow->Sx
open Value renaming slice->X,int->Si,agg->Sa,tuple->St,pointer->Sj
open Go.RowKit Go.Proofs.Tryz
variable{t:I}{n m k B g i j c:N}{w v:Ub}{p P:Uy}{l:Wc}{x:Wi}{E_:Zh}
section
open Go.Maps
theorem XM:(prog.info? 143).map (λi=>(i.8,i.3,i.4))=S (S<|Sa #[H 0,H 0],2,16):=vZ
theorem LV{c:Zh}(h:Z E_=Z c)(l:n=Z c):Array.foldl (λa (x:Uj×N)=>a.setIfInBounds x.2 x.1) E_ c.zipIdx 0 n=c:=by
 have m:n=Z c.zipIdx:=by rw[Array.size_zipIdx];exact l
 subst m;have g:=@Array.foldl_induction _ _ c.zipIdx (λi (a:Zh)=>Z a=Z c/\∀j,j<i->a[j]?=c[j]?) E_ ⟨h,λ_ h=>Sz h<|wA _⟩ (λa (x:Uj×N)=>a.setIfInBounds x.2 x.1) (λi b d=>by
  have k:i.1<Z c:=oN i.2;refine⟨by simpa using d.1,λj e=>?_⟩;simp only[Fin.getElem_fin,Array.getElem_zipIdx,aV];by_cases f:j=i.1
  .subst f;rw[Array.getElem?_setIfInBounds_self_of_lt (by rw[d.1];exact k),Array.getElem?_eq_getElem k]
  rw[Array.getElem?_setIfInBounds_ne (kA f)]
  exact d.2 j O)
 apply Array.ext_getElem?;intro j;by_cases e:j<Z c.zipIdx;·exact g.2 j e
 rw[Array.size_zipIdx]at e;rw[iI (by rw[g.1];omega),iI O]
theorem Fa(h:XJ ⟨(n:I),x⟩=So):∀a∈x,(∀t∈a.3.tg,0<=t/\t<(J x:I))/\a.3.tg.Nodup:=(XH h).1.4
theorem Qt{ws:Ub}{og wg mn:N}{k:I}{a ma:Uy}{mc:N}{cs:Wc}{M:List ag}(h:vI w v n og wg B g i #[Si S6 (g:I),X a i c,Si S6 k,X ma mn mc,X (S ⟨og,0,U⟩) g g,X (S ⟨wg,0,U⟩) i i,X U 0 0,.map U,X U 0 0] x)(p:Sw (Z v.1) v ws)(K:Z v.1<=m)(j:ws.rowIs m 139 (mn*130) λq=>nU Ri<|q%130):
 RL w (D (Se (Se ws ⟨n,6,U⟩ (X (S ⟨m,0,U⟩) mn mn)) ⟨n,7,U⟩ (.map (S (Z ws.1)))) (.map #[] 0)) (Z ws.1+1) n og wg m (Z ws.1) B g i mn #[Si S6 (g:I),X a i c,Si S6 k,X ma mn mc,X (S ⟨og,0,U⟩) g g,X (S ⟨wg,0,U⟩) i i,X (S ⟨m,0,U⟩) mn mn,.map (S (Z ws.1)),X U 0 0] x cs M 0 0 0 []:=by
 have E_:=h.2;have h:=h.keep p;obtain⟨o,f,r⟩:=h.5;have L:=h.2;have C:=h.3;have u:=j.lt;have s:=f.lt;have y:=h.6.lt;have F:=h.4.lt;have b:Z (Se (Se ws (A n 6) (Hl m mn mn)) (A n 7) (.map (S (Z ws.1)))).1=Z ws.1:=sP;have d:∀q,q<Z ws.1->q≠n->(D (Se (Se ws (A n 6) (Hl m mn mn)) (A n 7) (.map (S (Z ws.1)))) (.map #[] 0)).1[q]?=ws.1[q]?:=λq z e=>G (gF _ _ _ O) (G (cY e) (cY e));refine⟨((h.1.setCell (show Z w.1<=n by omega) _).setCell (show Z w.1<=n by omega) _).alloc (by rw[b];have:=h.1.4;omega) _,O,O,by rw[aO,b];exact aA,?_,⟨o,f.of_block<|d og s O,r⟩,?_,?_,λ_=>[],λ_=>Hq,⟨h.6.of_block<|d wg y O,λT _=>dA,λ_ _ _ _ _=>bC R,O,λ_ _ _ l=>by cases l⟩,λV _=>⟨by simp[Yk,AQ],λq t=>by cases t⟩⟩
 .have:=((h.4.set 6<|Hl m mn mn).set 7 (.map (S (Z ws.1)))).box (.map #[] 0);simpa using this
 .exact j.of_block<|d m u O
 have:=World.ownsMap_made (Se (Se ws (A n 6) (Hl m mn mn)) (A n 7) (.map (S (Z ws.1)))) prog 146 pT;rw[b]at this;exact this
theorem M9(c:N){mn:N}(h:N)(s:I){M:List ag}(ha:Q (Xp w 0 B p x))(dz:Q (d7 w 0 B P M))(hB:B<=Z w.1)(hx:Q (k=J x))(cj:Q (mn=J M))(cg:mn<=5000)(hv:Q (XJ ⟨(n:I),x⟩=So))(hL:Q (sX x l M))(hO:Q (Yy w)):
 Sk prog 25 #[Sa #[H n,X p k c],Sa #[H s,X P mn h]] w λE_ z=>∃W_ d og wg C y,E_=Rt (Hn d)/\RL w z W_ d og wg C y B n k mn #[H n,X p k c,H s,X P mn h,Hl og n n,Hl wg k k,Hl C mn mn,.map (S y),Hq] x l M 0 0 k []:=by
 have ho:=XH hv.o;have hn:k<=1000:=oP hx.o ho.1.2;have ez:1<=k:=oP hx.o ho.1.1;have e6:k<=mn:=by have:=hL.1;have:=hx.o;have:=cj.o;omega
 clear ho;have a4:=Y λdn (hb:Sw (Z w.1) w dn)=>Tn c (Y<|ha.keep (hb.mono hB)) (oN hb.4) hx hv (Y<|hO.keep hb hO.1);have d2:=fM (P:=prog) 129 141 Hq 24 underlying129 Mz R S6 S6 k O O
 go_in
 go_wp2_with fail
 have cu:=(Bx.new w #[H n,X p k c] 25).box (Sc #[H s,X P mn h] 31);have bf:=Bx.new (D w (Sc #[H n,X p k c] 25)) #[H s,X P mn h] 31;rw[aO]at bf;have ad:=Y cu;have af:=Y bf;have HA:=Y<|Xb (Xb (dC (Z w.1) w) (Sc #[H n,X p k c] 25)) (Sc #[H s,X P mn h] 31);clear cu bf;generalize D (D w _) _=g at*;obtain⟨a,O_⟩:∃a,Q (a=Z w.1):=⟨_,Y R⟩;simp only[<-O_.o]
 go_cut [5]from 11 to 82 λc5 wx=>∃d og wg,c5=Hn d/\Q (vI w wx d og wg B n k #[H n,X p k c,H s,X P mn h,Hl og n n,Hl wg k k,Hq,.map U,Hq] x)/\Q (Sw (Z g.1) g wx)/\Q (a+1<d/\a+1<wg)
 case first=>
  have T_:E g (A a 0)=S (H n):=by rw[O_.o];exact Bx.c ad.o 0
  have x1:E g (A a 1)=S (X p k c):=by rw[O_.o];exact Bx.c ad.o 1
  have x2:E g (A (a+1) 0)=S (H s):=by rw[O_.o];exact Bx.c af.o 0
  have U_:E g (A (a+1) 1)=S (X P mn h):=by rw[O_.o];exact Bx.c af.o 1
  have i:a<Z g.1/\a+1<Z g.1:=⟨aI g _ T_,aI g _ x2⟩;refine Y7 (λz=>E z (A a 0)=S (H n)/\E z (A a 1)=S (X p k c)/\E z (A (a+1) 0)=S (H s)/\E z (A (a+1) 1)=S (X P mn h)) λe=>?_;refine Xn 0 ?_;refine Xn 1 ?_;refine Xn 2 ?_;refine Xn 4 ?_;refine Xn 5 ?_;refine Xn 6 ?_;refine eS (rs:=[3,7]) vZ sP ?_;refine(bQ R (λK hK=>?_) (bQ R (λK hK=>?_) dY))
  .go_simp
   go_at_call 57
   refine(a4.o g.drew HA.drew).mono ?_;rintro E_ r⟨Y_,rfl,v⟩;dsimp only;have f:Sw (Z g.1) g r:=⟨v.1.1,v.1.2,v.1.3,v.1.4,v.1.5⟩;have y0:=oB f T_ i.1;have y1:=oB f x1 i.1;have y2:=oB f x2 i.2;have V_:=oB f U_ i.2;have bh:a<Z r.1/\a+1<Z r.1:=oN f.4;have o:=Y<|Td (n:=k) #[H n,X p k c,H s,X P mn h,Hl Y_ n n,Hl (Z r.1) k k,Hq,.map U,Hq] hB HA.drew v;have u:=Y f;clear v f;refine hK _ _ ⟨y0,y1,y2,V_⟩ λe=>?_;clear hK
   try simp only[xX]
   refine Xs 7 λK hK=>?_;go_simp;refine hK _ _ kP λe=>?_;clear hK;refine Xn 8 ?_;refine Xs 9 λK hK=>?_;go_simp;refine hK _ _ kP λe=>?_;clear hK;refine Xn 10 ?_;refine Yq ?_;clear e;go_wp2;go_meet;exact⟨_,_,_,R,o.o,Y ((u.alloc u.4 _).alloc (by rw[aO];have:=u.4;omega) _),Y ⟨oP i.2 u.4,oP i.2 u.4⟩⟩
  skip
  go_simp;refine hK _ _ kP λe=>?_;clear hK
  try simp only[xX]
  refine Xs 3 λK hK=>?_;go_simp
  go_at_call 57
  refine(a4.o (D g.drew (Sc (madeCells #[Hq] k) 141)) (Xb HA.drew _)).mono ?_;rintro E_ r⟨Y_,rfl,v⟩;dsimp only;have f:Sw (Z g.1) g r:=Xg (Xb (dC (Z g.1) g).drew (Sc (madeCells #[Hq] k) 141)) v.1;have y0:=oB f T_ i.1;have y1:=oB f x1 i.1;have y2:=oB f x2 i.2;have V_:=oB f U_ i.2;have bh:a<Z r.1/\a+1<Z r.1:=oN f.4;have o:=Y<|Mb (n:=k) #[H n,X p k c,H s,X P mn h,Hl Y_ n n,Hl (Z g.1) k k,Hq,.map U,Hq] hB HA.drew v;have u:=Y f;clear v f;refine hK _ _ ⟨y0,y1,y2,V_⟩ λe=>?_;clear hK;refine Xn 8 ?_;refine Xs 9 λK hK=>?_;go_simp;refine hK _ _ kP λe=>?_;clear hK;refine Xn 10 ?_;refine Yq ?_;clear e;go_wp2;go_meet;exact⟨_,_,_,R,o.o,Y<|u.alloc u.4 _,Y ⟨oP i.2 u.4,i.2⟩⟩
 obtain⟨d,og,wg,rfl,o,a1,al⟩:=hcut;have T_:E wc (A a 1)=S (X p k c):=by rw[O_.o];exact Bx.c (ad.keep<|a1.5 _ ad.lt) 1
 have U_:E wc (A (a+1) 1)=S (X P mn h):=by rw[O_.o];exact Bx.c (af.keep<|a1.5 _ af.lt) 1
 have i:a<Z wc.1/\a+1<Z wc.1:=⟨aI wc _ T_,aI wc _ U_⟩;have bi:a+1≠d:=oN al.1;have fe:a≠d:=oN al.1;have c6:E wc (A d 6)=S Hq:=Bx.c o.4 6;have f6:∀q,wc.frozen? (A d q)=Sn:=λq=>(Bx.thaw o.4) q;have a9:=o.4.lt;have bv:=Y<|Qz wc.drew;go_wp2_with fail
 refine Y7 (λz=>E z (A (a+1) 1)=S (X P mn h)) λe=>?_;refine Xn 0 ?_;refine Xn 3 ?_;refine Xn 4 ?_;refine Xn 5 ?_;refine Xs 1 λK hK=>?_;go_simp
 go_at_call 59
 with_reducible refine bv.o.mono ?_
 rintro E_ r⟨cc,rfl,bb,ba,Z_⟩;have f:Sw (Z wc.1) wc r:=⟨Z_.1,Z_.2,Z_.3,Z_.4,Z_.5⟩;have V_:=oB f U_ i.2;have u:=Y f;have bh:=f.4;have cz:=Y ba;have d4:0<mn:=O;have bq:=Y (VN (Z r.1) (D r (Sc cc 139)) O d4 (Y (λj hj=>by rw[aV];have F:=Bx.new r cc 139;exact Bx.cell F<|ba j hj)) sP)
 clear f Z_ ba;refine hK _ _ V_ λe=>?_;clear hK;refine Xs 2 λK hK=>?_;go_simp;rw[LV (by rw[bb];rfl) bb.symm];refine hK _ _ (oB ((dC (Z r.heap) r).alloc aA _) V_ O) λe=>?_;clear hK;refine Xs 6 λK hK=>?_;go_simp
 go_at_call 58
 with_reducible refine bq.o.mono ?_
 rintro E_ L⟨C,rfl,cr,ca,co⟩;have W:Sw (Z wc.1) wc L:=Xg (Xb u.o _) ca;have y4:=oB W U_ i.2;have d6:=oB W c6 a9;have g6:∀q,L.frozen? (A d q)=Sn:=λq=>G (W.frozen (p:=A d q) a9) (f6 q);have bt:Q (Z wc.1<=C):=Y (by have F:=cr;(try rw[aO]at F);omega);have br:=Y co;have bm:=Y W;have d7:E L (A d 7)=S (.map U):=oB W (Bx.c o.4 7) a9;have z1:=oB W T_ i.1;have ek:a<Z L.1/\a+1<Z L.1/\d<Z L.1:=oN W.4;clear cr ca co W c6 f6 T_ U_ V_;refine hK _ _ y4 λe=>?_;clear hK;refine Xn 7 ?_;refine Xn 8 ?_;refine Xs 9 λK hK=>?_;go_simp;refine hK _ _ (G (Xc<|cY bi) y4) λe=>?_;clear hK;refine Yq ?_;clear e;have d3:=@run_makeMap prog;go_wp2;have ap:=Y<|Qt (k:=s) (a:=p) (ma:=P) (c:=c) (mc:=h) (cs:=l) (M:=M) o.o bm.o bt.o br.o;have z3:=ap.low;have y5:E (D (Se (Se L (A d 6) (Hl C mn mn)) (A d 7) (.map (S (Z L.heap)))) (.map #[] 0)) (A (a+1) 1)=S (X P mn h):=G (Xc<|G (gF _ _ _ (by first|omega|(simp;omega))) (G (cY bi) (cY bi))) y4;have b3:=Y y5;clear z3 y5 y4 d6 g6 d7 z1 ek bt br bm bq u cz bv d3 o ad af HA a4 d2 a1 i bh bb;generalize D (Se (Se L _ _) _ _) _=w7 at*;obtain⟨y,ci⟩:∃y,y=Z L.heap:=⟨_,R⟩;rw[<-ci]at ap;clear ci;generalize y+1=W_ at*
 go_loopw [37] (λJ_ wr=>∃b:N,b<=k/\J_=H b/\Q (RL w wr W_ d og wg C y B n k mn #[H n,X p k c,H s,X P mn h,Hl og n n,Hl wg k k,Hl C mn mn,.map (S y),Hq] x l M 0 0 b [])/\Q (E wr (A (a+1) 1)=S (X P mn h))) λJ_ _=>k-(JB J_).toNat
 .exact⟨0,aN,R,ap,b3⟩
 clear ap b3;obtain⟨b,hb,rfl,L_,X_⟩:=hrel;by_cases ew:b<k
 .have aa:b<J x:=oN hx.o;have a6:b<J M:=oN hL.1;obtain⟨Y_,o_,rfl,⟨_,es⟩,pa,pc,ia,ic,d0,d1,dT,_,_⟩:=ha.o b aa;obtain⟨gm,om,rfl,⟨_,ey⟩,ja,jc,_,fT,_⟩:=dz.o b a6;have eg:=L_.1.5 Y_ O;have em:=L_.1.5 gm O;have e0:=G (Xc eg) d0;have e1:=G (Xc eg) d1;obtain⟨e2,e3,e4,e5⟩:=dT.keepS eg;obtain⟨f1,f2,f3,f4⟩:=fT.keepS em;have dk:=Y<|hL.4 b aa a6;have dj:=Y<|(hL.3 b aa a6).2.2.1;have df:=Y λcw=>TD cw aa;have bx:=Y<|Fa hv.o _ (aH aa);have cn:=X_.o;have fg:=L_.z;have e7:=L_.2;have cv:a+1<Z wr.1:=aI wr _ cn;clear eg em d0 d1 dT fT;generalize hT:x[b].3=b5 at*;generalize ds:M[b].2=T' at*;clear hT ds;have d5:=KJ b5;generalize J x[b].1=pn at*;generalize J x[b].2=yn at*;obtain⟨kt,ta,kh,tl⟩:=b5;obtain⟨ku,ua,ut,ul⟩:=T';dsimp only at e2 e3 e4 e5 f1 f2 f3 f4;have et:gm<Z wr.1:=aI wr _ f1;have eo:(b:I)<(k:I):=O;have ep:(b:I)<(mn:I):=oN cj.o;go_wp2_with fail
  have b6:=Xb (dC (Z wr.1) wr) (Sc #[X pa pn pc,X ia yn ic,H kt,H ta,H kh,H tl] 52);have bg:=Bx.new wr #[X pa pn pc,X ia yn ic,H kt,H ta,H kh,H tl] 52;refine(zo ⟨ku,ua,ut,ul⟩ _).mono ?_;rintro E_ w2⟨a2,c2,rfl,ar,cl⟩;have aj:=Y<|bg.keep (ar.5 _ bg.lt);have bl:=Y<|Xg b6 ar;have fc:Z wr.1+1<=Z w2.1:=by have:=ar.4;simpa using this
  have ac:=Y (Zk cl<|show Z wr.1<=_ by simp);have T:=Bx.c aj.o 2;have h3:=Bx.c aj.o 3;have h4:=Bx.c aj.o 4;have h5:=Bx.c aj.o 5;clear b6 bg ar cl e0 e1 e2 e3 e4 e5 f1 f2 f3 f4;dsimp only;go_wp2_with fail
  refine(zo ⟨kt,ta,kh,tl⟩ _).mono ?_;rintro E_ V⟨a8,c8,rfl,au,cm⟩;have a3:=Y<|Xg bl.o au;have bp:=Y (Zk cm<|show Z wr.1<=_ by omega);have ac:=Y (Zl ac.o λb E_=>au.5 b (ac.lt b E_).2);have el:=au.4;clear au cm T h3 h4 h5 aj bl;generalize ea:(⟨kt,ta,kh,tl⟩:Yj).tg=S_ at*;generalize eb:(⟨ku,ua,ut,ul⟩:Yj).tg=us at*;clear ea eb;have c7:=Y<|yI ac.o R;have da:=Y<|yI bp.o R;have bn:=Y<|(L_.avoid (m0':=Z wr.1) (m1':=Z V.1) aA).keep a3.o;have b4:=Y<|oB a3 X_.o cv;have fd:Z wr.1<Z V.1:=O;clear ac bp L_ X_ a3 cn cv;generalize Z wr.1=m0 at*;obtain⟨R_,ao⟩:∃R_,Q (R_=J S_):=⟨_,Y R⟩;have ec:J us=R_:=by rw[ao.o];exact dj.o
  rw[<-ao.o]at d5;simp only[<-ao.o,ec];go_wp2;generalize wr=wo at*
  go_loopw [53] (λJ_ wr=>∃j:N,j<=R_/\J_=H j/\Q (RL w wr W_ d og wg C y B n k mn #[H n,Hm Y_ o_ k c,H s,Hm gm om mn h,Hl og n n,Hl wg k k,Hl C mn mn,.map (S y),Hq] x l M m0 (Z V.1) b (S_.take j))/\Q (E wr (A (a+1) 1)=S (Hm gm om mn h))/\Q (YA m0 (Z V.1) V wr)/\Z V.1<=Z wr.1) λJ_ _=>R_-(JB J_).toNat
  .exact⟨0,aN,R,Y (by rw[lK];exact bn.o),b4,Y λ_ _ _=>R,aA⟩
  clear bn b4;obtain⟨j,hj,rfl,N_,X_,a5,e8⟩:=hrel;by_cases dy:j<R_
  .have az:j<J S_:=by rw[<-ao.o];exact dy
   have ce:j<J us:=O;obtain⟨g8,o8,rfl,er,eq⟩:=da.keepS (λq Q_ T=>a5.o q O T) j az;obtain⟨g2,o2,rfl,dv,a7⟩:=c7.keepS (λq Q_ T=>a5.o q O O) j ce;have b1:=Y<|dk.o j az ce;have ck:S_[j]∉S_.take j:=by intro hm;obtain⟨m,cg,ch⟩:=bR hm;simp only[dH]at cg;rw[jG]at ch;have:=(List.getElem_inj bx.2).1 ch;omega
   obtain⟨cs,e9⟩:=bx.1 _<|aH az;have di:=Y<|X7 az;obtain⟨t,ht⟩:=bX cs;have dd:=Y ck;clear ck cs;generalize S_[j]=kh at*;generalize us[j]=ab at*;subst ht;have a0:t<k:=oN hx.o
   obtain⟨am,dl,hU,hP⟩:=N_.9;have ed:=hU.1.cell a0;have ee:=hU.1.frozen t;have HU:=Y hU;have HP:=Y hP;have ev:J (am t)<=b+1:=by have F:=fI List.length (hP t a0).1;rw[bK]at F;rw[F];exact UW x b t _ O
   have c5:E wr (A d 5)=S (Hl wg k k):=Bx.c N_.5 5;have du:=N_.5.lt;have ef:=hU.1.lt;have eu:(j:I)<(R_:I):=O;have fa:(t:I)<(k:I):=O;clear hU hP;have en:=Y b1.o;have fb:=N_.z;have bo:=Y<|N_.keep (Xb (dC (Z wr.1) wr).drew (Sc #[H b,H ab] 143));have b0:=Y<|HU.keep (Xb (dC (Z wr.1) wr).drew (Sc #[H b,H ab] 143));have dw:g2<Z wr.1:=aI wr _ a7;go_wp2_with fail
   refine Y7 (λz=>E z (A d 5)=S (Hl wg k k)/\E z (A g2 (o2+j))=S (H ab)) λe=>?_;refine Xn 0 ?_;(iterate 10 refine Rm ?_);refine Xn 12 ?_;(iterate 5 refine Rm ?_);refine eS (rs:=[11,18]) vZ sP ?_;refine(bQ R (λK hK=>?_) (bQ R (λK hK=>?_) dY));go_simp;refine hK _ _ kP λe=>?_;clear hK
   try simp only[xX]
   refine Xs 18 λK hK=>?_;go_simp;refine hK _ _ kP λe=>?_;clear hK;rotate_left;go_simp;refine hK _ _ kP λe=>?_;clear hK
   try simp only[xX]
   refine Xs 11 λK hK=>?_;go_simp;refine hK _ _ kP λe=>?_;clear hK
   all_goals
    refine Xs 19 λK hK=>?_;refine YD XM (b0.2 t a0) (World.news_of_block<|World.alloc_heap_new _ _) (by intro J_ hu;simp at hu;obtain rfl|rfl:=hu<;>rfl) ?_ (hs:=by exact bo.z)
    intro v1 w1 bd bc _ b8;obtain⟨g9,c9,rfl,_,_⟩:=Xm bd O;obtain⟨b7,cf,ct⟩:=bo.push b0.o HP.o a0 (by show _<=Z (D (wr.drew) _).1;rw[aO];show _<=Z wr.1+1;omega) bc bd b8 dd.o aa b1.o;have aq:∀q,q<Z wr.1->(D wr.drew (Sc #[H b,H ab] 143)).1[q]?=wr.1[q]?:=λq hq=>gF _ _ _ hq;have cq:Z (D wr.drew (Sc #[H b,H ab] 143)).1=Z wr.1+1:=aO _ _;have cd:=bc.4;have cd:Z wr.1+1<=Z w1.1:=by rw[<-cq];exact cd
    have bk:∀q,q<Z wr.1->q≠wg->(q<W_\/m0<=q/\q<Z V.1)->(Se w1 (A wg t) (Hl g9 (J (am t)+1) c9)).1[q]?=wr.1[q]?/\w1.1[q]?=wr.1[q]?:=λq Q_ T h3=>by have F:=cf q O T h3;exact⟨G F.1<|aq q Q_,G F.2<|aq q Q_⟩
    have be:w1.1[wg]?=wr.1[wg]?:=G ct<|aq wg ef;have kc:=bk d du (oN N_.3) (bC O);have kg:=bk g2 dw O<|aZ dv;have kz:=bk (a+1) (oN al.o) (oN al.o) (bC<|oN al.o);have q1:=G (Xc (o:=t) be) ed;have q2:w1.frozen? (A wg t)=Sn:=G (bJ (a:=(A wg t)) be) ee;have dc:=Y b7;have db:=Y<|G (Xc (o:=1) kz.1) X_.o;have dh:Q (YA m0 (Z V.1) V<|Se w1 (A wg t) (Hl g9 (J (am t)+1) c9)):=Y λq Q_ T=>G ((bk q O O<|aZ ⟨Q_,T⟩).1) (a5.o q Q_ T);have r1:=G (Xc (o:=5) kc.2) c5;have r2:=G (Xc (o:=o2+j) kg.2) a7;have r3:=G (Xc (o:=5) kc.1) c5;have r4:=G (Xc (o:=o2+j) kg.1) a7;clear b7 cf ct bd bc b8 aq cq bk kc kg kz be;refine hK _ _ ⟨r1,r2⟩ λe=>?_;clear hK;refine Xn 20 ?_;refine Xs 21 λK hK=>?_;go_simp;refine hK _ _ ⟨r3,r4⟩ λe=>?_;clear hK;refine Yq ?_;clear e;go_wp2;exact⟨⟨j+1,O,gM,Y (by rw[di.o];exact dc.o),db,dh,SF⟩,SA⟩
  have cx:=Y<|aW (l:=S_) (i:=j) (oN ao.o);go_wp2;exact⟨⟨b+1,O,gM,Y ((N_.same (k':=b+1) (ts':=[]) λcw _=>by rw[cx.o,df.o,J5]).zero),X_⟩,SA⟩
 have dt:b=k:=O;subst dt;go_wp2;go_ret;exact⟨W_,d,og,wg,C,y,R,L_.o⟩
end
section
open Go.Maps
def oQ(wr:Ub)(d i g og wg a V n c mn h:N)(b f:Uy)(k:I)(j:Wi)(M:List ag)(e:Wc):je:=⟨wr,Z wr.1,a,d,i,g,og,wg,V,n,c,mn,h,V,n,mn,b,f,k,j,M,e⟩
def yW:CC:=⟨.map [],0,λ_ _=>0,λ_=>U,Hq,[]⟩
theorem LN{wr:Ub}{og wg d mn y:N}{M:List ag}(h:RL w wr n m og wg k B i j d mn #[H j,X p d c,H t,X P mn y,Hl og j j,Hl wg d d,Hl k mn mn,.map (S B),Hq] x l M 0 0 d [])(ha:Xp w 0 i p x)(ac:d7 w 0 i P M)(X_:i<=Z w.1)(V:d=J x)(ad:mn=J M)(ab:mn<=5000)(K:l8 j x l t)(hk:t<=64)(Y_:sX x l M):
 kW (oQ wr m k B og wg i j d c mn y p P t x M l)/\jg (oQ wr m k B og wg i j d c mn y p P t x M l) wr (mU (oQ wr m k B og wg i j d c mn y p P t x M l) 0) yW:=by
 have W:=h.2;have f:=h.3;have hz:=h.z;have I_:=K.ok;have N_:d<=1000:=by rw[V];exact I_.1.2
 have L:=h.1.mono X_;obtain⟨aq,K_,aa⟩:=h.6;obtain⟨q,ap,z,Z_⟩:=h.9;refine⟨⟨K,hk,Y_,V,ad,N_,ab,⟨f.1.2.2.1,f.1.2.2.2,f.2.2.2⟩,⟨show m<Z wr.1 by omega,show k<Z wr.1 by omega,show B<Z wr.1 by omega⟩,⟨show i<=m by omega,show i<=k by omega,show i<=B by omega⟩,ha.keep L,ac.keep L,⟨show og<Z wr.1 by omega,λe=>f.1.1 e.symm,f.2.1.2.1,f.2.1.2.2⟩,⟨show wg<Z wr.1 by omega,λe=>f.1.2.1 e.symm,f.2.2.1.1,f.2.2.1.2⟩,λv u=>?_,λa ht=>?_⟩,?_⟩
 .obtain⟨G_,S_,pa,pc,H_,T_,U_,V_,W_⟩:=aa v u<|(Eu K.1).2.2 v u;refine⟨G_,S_,pa,pc,H_,by show G_<d;omega,?_,?_,W_.keep L⟩;·rw[<-U_];exact K_.cell (show v*2<j*2 by have:v<j:=u;omega)
  rw[<-V_];exact K_.cell (show v*2+1<j*2 by have:v<j:=u;omega)
 .have s:a<d:=ht;obtain⟨af,aj⟩:=Z_ a s;have Q_:(q a).map (λao=>(ao.1:I))=AQ x 0 (a:I):=by rw[af,J5,aW O]
  have T:J (q a)=J (AQ x 0 (a:I)):=by rw[<-Q_,bK]
  have J_:=z.1.cell s;obtain⟨e1,e2,_⟩|⟨g,c',e1,hg,_⟩:=Vc (z.2 a s)
  .refine⟨U,0,by show E wr (A wg a)=S (X U (J (AQ x 0 (a:I))) 0);rw[J_,e1,<-T,e2],λo r=>?_⟩;have C:o<J (AQ x 0 (a:I)):=r;omega
  refine⟨_,c',by show E wr (A wg a)=S (Hl g (J (AQ x 0 (a:I))) c');rw[J_,e1,T],λo r=>?_⟩;have C:o<J (q a):=by rw[T];exact r
  have F:=z.2 a s;rw[e1]at F;obtain⟨k0,k1⟩:=KC (q a) o C;obtain⟨hq,hw⟩:=aj _<|aH C;have am:(AQ x 0 (a:I))[o]'r=((q a)[o].1:I):=by simp only[<-Q_,cM]
  exact⟨g,(q a)[o].1,(q a)[o].2,R,⟨hg.2,by show g≠m;omega,by show g≠k;omega,by show g≠B;omega⟩,Jj F k0,Jj F k1,am,hq,hw⟩
 refine⟨⟨aA,λ_ _=>R⟩,h.5,by rw[PD];exact h.7,h.8,dA,(λ_ _ _ e=>by cases e),λ_=>KW,λ_ _ b=>Z3,(λ_ _ _ _ _ e=>by cases e),λv _=>⟨R,(λ_ e=>by cases e)⟩,λv b _ _ L_=>?_,(λar W=>by cases W),aN,?_⟩
 .have:=Z3 (n:=b);rw[show Xh (yW.3 v) b=Sn from this]at L_;cases L_
 have H_:=F6 d (λ_ _=>0) j;have T_:=lO I_.2 N_;show 0+Rb d (λ_ _=>0) j<=2000000;omega
end
section
open Go.Maps
theorem Pb{p:Addr}:
 CallsD prog 22 #[Sj (S p)] .returning w λe c d=>e=Rt (St #[])/\c=.returning/\d=w:=by
 refine callsD_of_wpS func22 R λa f b=>?_;apply wpS_seq;apply wpS_region;simp[wpOpsS,go_sem,recoverD,b,ntmps22,Exit.thenS];apply wpS_seq;apply wpS_seq;apply wpS_region;simp[wpOpsS,go_sem,Exit.thenS];refine wpS_cond (t:=So) (by simp[Act.eval,Array.replicate]) ?_;simp only[gG];refine wpS_of_wp<|wp_ret ?_;cases a
 simp_all[bodyPostS,JC,results22,Exit.thenS]
end
section
open Go.Maps
theorem Lz(C:je)(K:N->ju j9)(L:CC)(b:Q (kW C))(a:Q (jg C w K L))(M:n<C.n)(F:m<C.V)(t:Q (k<J (AQ C.xs 0 (n:I))))(P:B<C.mn):
 Sk prog 63 #[Hn C.4,Sa #[H n,H m,H (Kp C.cs (m:I))],H k,H B] w λe T=>e=Rt (Sa #[H (su C.xs n k (m:I)),H (if (B:I)=(n:I)then Kp C.cs (m:I)else ((K B).1 (Kp C.cs (m:I))).2)])/\Sw (Z w.1) w T:=by
 obtain⟨d,f,pa,pc,u,_,o0,o1,h⟩:=b.orgs a.1 F;have g:=MV b.o u M t.o;have q:=b.1.col (v:=(m:I)) O O;have T_:=b.2;obtain⟨r,v⟩:=bX q.1;have c4:E w (A C.4 4)=S (Hl C.7 C.V C.oc):=Bx.c a.2 4;have N_:E w (A C.4 6)=S (Hl C.5 C.mn C.sc):=Bx.c a.2 6;have P_:=Bx.lt a.2;have aa:=World.rowIs.lt a.3;have U_:C.7<Z w.1:=oP a.1.1 b.13.1;have V:r<64:=O;obtain⟨_,s1⟩:=a.3.cell (b:=B) P (r:=r) O;rw[show Sm (K B) r=(K B).1 (r:I)from aU V]at s1;rw[v];have ab:(m:I)<(C.V:I):=O;have Y_:(B:I)<(C.mn:I):=O;have Z_:(r:I)<65:=O;obtain⟨s,x⟩:∃s,s=((K B).1 (r:I)).2:=⟨_,R⟩;rw[<-x]at s1 |-;have O_:C.3<=C.4:=b.b0.1;have I_:C.4<Z w.1+1/\C.7<Z w.1+1/\C.5<Z w.1+1:=O;have J_:C.4<Z w.1+1+1/\C.7<Z w.1+1+1/\C.5<Z w.1+1+1:=O;have K_:C.4<Z w.1+1+1+1/\C.7<Z w.1+1+1+1/\C.5<Z w.1+1+1+1:=O;clear x q v u b a t;by_cases c:d=n/\f≠[]
 .obtain⟨z,p⟩:=g.1 c;obtain⟨i,po,rfl,V_,W⟩:=h k z;rw[p]at W;have j:((d:I)==(n:I))=So:=by rw[c.1];simp
  have o:((J f:I) > 0):=O;clear g h p c;generalize J f=an at*;generalize su C.xs n k (m:I)=y at*;have R_:(k:I)<(an:I):=O;have W_:i<Z w.1:=O;have L_:i<Z w.1+1:=O;have P2:i<Z w.1+1+1:=O;have M_:i<Z w.1+1+1+1:=O;by_cases e:B=n
  .subst e;rw[aU R]
   go_in
   go_wp2;go_region;go_wp2;refine YL (v:=Sa #[H y,H r]) ⟨R,?_⟩
   repeat' first|exact Rf|refine vT ?_ (by simp<;>omega) _|refine qG ?_ SG _|refine Below.drew ?_
  have eI:¬(B:I)=(n:I):=O;rw[aM eI];have eB:((B:I) != (n:I))=So:=by simpa using eI
  go_in
  go_wp2;go_region;go_wp2;go_region;go_wp2;refine YL (v:=Sa #[H y,H s]) ⟨R,?_⟩
  repeat' first|exact Rf|refine vT ?_ (by simp<;>omega) _|refine qG ?_ SG _|refine Below.drew ?_
 rw[g.2 c];by_cases j:d=n
 .have o:f=[]:=by
   by_cases l:f=[];·exact l
   exact Sz ⟨j,l⟩ c
  subst o j;clear g h c;by_cases e:B=d
  .subst e;rw[aU R]
   go_in
   go_wp2;go_region;go_wp2;refine YL (v:=Sa #[H m,H r]) ⟨R,?_⟩
   repeat' first|exact Rf|refine vT ?_ (by simp<;>omega) _|refine qG ?_ SG _|refine Below.drew ?_
  have eI:¬(B:I)=(d:I):=O;rw[aM eI];have eB:((B:I) != (d:I))=So:=by simpa using eI
  go_in
  go_wp2;go_region;go_wp2;go_region;go_wp2;refine YL (v:=Sa #[H m,H s]) ⟨R,?_⟩
  repeat' first|exact Rf|refine vT ?_ (by simp<;>omega) _|refine qG ?_ SG _|refine Below.drew ?_
 have Q_:((d:I)==(n:I))=Sn:=by simpa using(show ¬(d:I)=(n:I) by omega)
 clear g h c;generalize J f=an at*;by_cases e:B=n
 .subst e;rw[aU R]
  go_in
  go_wp2;go_region;go_wp2;refine YL (v:=Sa #[H m,H r]) ⟨R,?_⟩
  repeat' first|exact Rf|refine vT ?_ (by simp<;>omega) _|refine qG ?_ SG _|refine Below.drew ?_
 have eI:¬(B:I)=(n:I):=O;rw[aM eI];have eB:((B:I) != (n:I))=So:=by simpa using eI
 go_in
 go_wp2;go_region;go_wp2;go_region;go_wp2;refine YL (v:=Sa #[H m,H s]) ⟨R,?_⟩
 repeat' first|exact Rf|refine vT ?_ (by simp<;>omega) _|refine qG ?_ SG _|refine Below.drew ?_
end
section
open Go.Maps
def sT(a:CC)(wv:Uj)(ws:List (N×N)):CC:={ a with wv:=wv,ws:=ws }
theorem jg.popped{K:je}{v:CC}{x:N->ju j9}(j:jg K w x v)(d:kW K){b cap:N}{ws:List (N×N)}(c:v.6=ws++[(b,n)])(g:v.5=X (S ⟨m,0,U⟩) (J ws+1) cap):jg K (Se w ⟨K.4,8,U⟩ (X (S ⟨m,0,U⟩) (J ws) cap)) x (sT v (X (S ⟨m,0,U⟩) (J ws) cap) ws)/\(sT v (X (S ⟨m,0,U⟩) (J ws) cap) ws).mm K+1=v.mm K/\i7 K v w (sT v (X (S ⟨m,0,U⟩) (J ws) cap) ws) (Se w ⟨K.4,8,U⟩ (X (S ⟨m,0,U⟩) (J ws) cap)):=by
 have a:EW K w x v.1 v.2 v.3 v.4 v.5 v.6:=j;have lt:=d.9;have l:(sT v (Hl m (J ws) cap) ws).mm K+1=v.mm K:=by unfold CC.mm sT;rw[c,aQ];simp;omega
 have r:v.5.ownBlock=S m:=by rw[g];rfl
 have t:=(a.5.lt m r);have row:Sx w K.2 148 3 (Hl m (J ws) cap) (J ws) (R8 K.cs ws):=by have:=a.5;rw[c,g,aQ,Bf]at this;exact ownsRow_pop (BH _ _) this
 refine⟨⟨⟨by simpa using a.1.1,λq f=>G (cY<|show q≠K.4 from f.2.1) (a.1.2 q f)⟩,a.2.set 8 _,a.3.of_block<|cY (kA d.8.1),a.4.setCell (a:=(A K.4 8)) (kA d.8.2.1) _,Zl row (λq e=>cY (show q≠K.4 by have:=(row.lt q e).1;omega)),?_,a.7,a.8,a.9,a.10,a.11,λs o=>a.12 s (by rw[c];exact dD _ o),a.13,?_⟩,l,⟨⟨R,R,R⟩,sP,λq f i=>⟨cY (show q≠K.4 from λe=>i<|bC e),?_⟩⟩⟩
 .intro u h p k;have:=a.6 u h p k;exact⟨this.1,this.2.of_block<|cY (show h≠K.4 by have:=this.1;omega)⟩
 .have:=a.14;rw[c,aQ]at this;show J ws+Rb K.n v.3 K.V<=_;omega
 exact Bo (D_:=v.1) (c:=v.2) (Wd:=v.3) (ws:=v.6) i (bC<|by rw[g];rfl)
theorem Lr(C:je)(L:N->ju j9)(M:CC)(a:Q (kW C))(hT:Q (jg C w L M))(hS:Q (∀b,b<C.mn->L b=SY C.cs C.xs C.M b)):
 Sk prog 27 #[Sj (S ⟨C.4,0,U⟩)] w λe d=>e=Rt (St #[])/\∃s,jg C d L s/\i7 C M w s d:=by
 go_in
 go_wp2
 go_loopg [2] (M.mm C) λP P_ wr=>∃q,Q (jg C wr L q)/\Q (q.mm C<=P)/\Q (i7 C M w q wr)
 case atStart=>exact⟨M,hT,Y aA,Y i7.refl⟩
 obtain⟨q,f,HM,T_⟩:=hrel;have c8:E wr ⟨C.4,8,U⟩=S q.5:=Bx.c f.2 8;obtain h|⟨ws,p,h⟩:=List.eq_nil_or_concat q.6
 .have g:∃z c,q.5=X z 0 c:=by
   obtain⟨e1,_,_⟩|⟨g',c',e,_⟩:=Vc f.5;·exact⟨U,0,e1⟩
   exact⟨_,c',by rw[e,h];rfl⟩
  obtain⟨g0,c0,g⟩:=g;rw[g]at c8;clear h g;go_wp2
  go_end0
  exact⟨R,q,f.o,T_.o⟩
 rw[List.concat_eq_append]at h
 obtain⟨b,v⟩:=p;have hp:=f.12 (b,v) (by rw[h];simp);dsimp only at hp;obtain⟨a2,be,bd⟩:=hp;have b0:=Y bd;have g:∃r c,q.5=X (S ⟨r,0,U⟩) (J ws+1) c:=by
  obtain⟨z,c,e,_⟩:=Xm f.5 (by rw[h];simp);exact⟨z,c,by rw[e,h];simp⟩
 obtain⟨r,cap,g⟩:=g;rw[g]at c8;have aa:=f.5;rw[h,g]at aa;have t:Sx wr C.2 148 3 (X (S ⟨r,0,U⟩) (J (ws++[(b,v)])) cap) (J (ws++[(b,v)])) (R8 C.cs<|ws++[(b,v)]):=by
  simpa using aa
 obtain⟨k0,k1,k2⟩:=Mt C.cs ws b v;have s0:=Jj t k0;have s1:=Jj t k1;have s2:=Jj t k2;have au:=f.popped a.o h g;have xs:Bx (D (Se wr ⟨C.4,8,U⟩ (X (S ⟨r,0,U⟩) (J ws) cap)) (Sc #[Si S6 (b:I),Si S6 (v:I),Si S6 (Kp C.cs (v:I))] 148)) (Z wr.1) #[Si S6 (b:I),Si S6 (v:I),Si S6 (Kp C.cs (v:I))] 148:=by
  have:=Bx.new (Se wr ⟨C.4,8,U⟩ (X (S ⟨r,0,U⟩) (J ws) cap)) #[Si S6 (b:I),Si S6 (v:I),Si S6 (Kp C.cs (v:I))] 148;simpa using this
 have ct:=(t.lt r R).2;have kz:=Bx.thaw f.2;have co:=Bx.lt f.2;have cn:J ws+1<=cap:=by
  obtain⟨e,_⟩|⟨z,c',e,_,i⟩:=Vc t;·cases e
  simp only[Value.slice.injEq]at e;rw[aQ]at i;simp at i;omega
 have cm:(J ws:I)<=(cap:I):=O;have cq:((J ws:I)+1 > 0):=O;have HY:=Y au;have cu:J ws<=2000000:=by have:=f.14;rw[h,aQ]at this;simp at this;omega
 have al:Q (q.mm C<=gk):=HM;have ck:=Y h;have b3:=Y g;clear aa t k0 k1 k2 au bd g h;generalize bf:J ws=n at*;have cj:=Y bf;clear bf;have cv:wrap64 (n:I)=(n:I):=by unfold wrap64;omega
 go_wp2;have b5:=Y xs;obtain⟨az,cc,a3⟩:=HY.o;have K_:=az.calm<|Xb Rf (Sc #[Si S6 (b:I),Si S6 (v:I),Si S6 (Kp C.cs (v:I))] 148);have a4:=a3.trans<|i7.below (Xb Rf (Sc #[Si S6 (b:I),Si S6 (v:I),Si S6 (Kp C.cs (v:I))] 148));have bi:=Y<|T_.trans a4;have a9:¬(sT q (X (S ⟨r,0,U⟩) n cap) ws).own C (Z wr.1):=by
  have h0:¬q.own C (Z wr.1):=λi=>by have:=f.lim i a.o;omega
  exact Bo (D_:=q.1) (c:=q.2) (Wd:=q.3) (ws:=q.6) h0 (bC<|by rw[b3.o];rfl)
 have bp:=Y a9;obtain⟨z,cw,x,yw⟩:=a.ways K_.1 a2;have b6:=Y yw;have y5:E (D (Se wr ⟨C.4,8,U⟩ (X (S ⟨r,0,U⟩) n cap)) (Sc #[Si S6 (b:I),Si S6 (v:I),Si S6 (Kp C.cs (v:I))] 148)) ⟨C.4,5,U⟩=S (X (S ⟨C.8,0,U⟩) C.n C.wc):=Bx.c K_.2 5;have z0:E (D (Se wr ⟨C.4,8,U⟩ (X (S ⟨r,0,U⟩) n cap)) (Sc #[Si S6 (b:I),Si S6 (v:I),Si S6 (Kp C.cs (v:I))] 148)) ⟨Z wr.1,0,U⟩=S (Si S6 (b:I)):=Bx.c xs 0;have ao:=Y K_;have ca:(sT q (X (S ⟨r,0,U⟩) n cap) ws).mm C+1<=gk:=oN al.o
 clear az a3 K_ cc a4 a9 yw xs c8 s0 s1 s2 kz HY f HM T_ al;generalize sT q (X (S ⟨r,0,U⟩) n cap) ws=P1 at*;have cg:Z wr.1<Z (D (Se wr ⟨C.4,8,U⟩ (X (S ⟨r,0,U⟩) n cap)) (Sc #[Si S6 (b:I),Si S6 (v:I),Si S6 (Kp C.cs (v:I))] 148)).1:=sP;generalize D (Se wr _ _) _=wp at*;generalize Z wr.1=m at*;have cl:(b:I)<(C.n:I):=O;obtain⟨o,ac⟩:∃o,o=J (AQ C.xs 0 (b:I)):=⟨_,R⟩;rw[<-ac]at x;have am:=Y ac;clear ac;have cs:o<=1000000:=by
  have h1:=YO (b:I) C.xs 0;have:=a.4;have:=a.6;rw[am.o];omega
 go_region;go_wp2
 go_loopw [43] (λP_ wq=>∃(j:N)(K:CC),j<=o/\P_=Si S6 j/\Q (jg C wq L K)/\Q (K.mm C+1<=gk)/\Q (i7 C M w K wq)/\Q (i7 C P1 wp K wq)) λP_ _=>o-(JB P_).toNat
 case atStart=>exact⟨0,P1,aN,R,Y<|ao.calm (Rf).drew,Y ca,Y<|bi.trans (i7.below (Rf).drew),Y<|i7.below (Rf).drew⟩
 obtain⟨j,K,hi,rfl,y,aq,U_,V_⟩:=hrel;by_cases cb:j<o
 .have M_:j<J (AQ C.xs 0 (b:I)):=by rw[<-am.o];exact cb
  obtain⟨J_,p,bg,hg,a6,w0,w1,ba,bb,af⟩:=b6.o j M_;subst hg;have ab:wr.1[J_]?=wp.1[J_]?:=G (y.1.2 J_ a6) (ao.1.2 J_ a6).symm;have e0:=G (Xc ab) w0;have e1:=G (Xc ab) w1;have ad:=V_.3 m cg bp.o;have aj:Bx wr m #[Si S6 (b:I),Si S6 (v:I),Si S6 (Kp C.cs (v:I))] 148:=b5.keep ad.1;obtain⟨u,f1,f2,f3,f4,r',f5,f6,f7⟩:=a.1.way a.2 a.3 (t:=b) (u:=v) (i:=j) (via:=bg) (oN a.4) M_ ba be b0.o bb af;obtain⟨k,cf,bc⟩:∃k:N,bg=(k:I)/\k<C.mn:=by
   obtain⟨e,_⟩|⟨q_,e,_,_,hq⟩:=af;·exact⟨b,e,by have:=a.3.1;have:=a.4;have:=a.5;omega⟩
   exact⟨q_,e,by rw[a.5];exact(cV.1 hq).1⟩
  subst cf;have ce:p<C.n:=oN a.4;have cd:p<C.mn:=by have:=a.3.1;have:=a.4;have:=a.5;omega
  obtain⟨ru,rfl⟩:=bX f5;have br:Q (∀W,jg C W L K->Sk prog 63 #[Sj (S ⟨C.4,0,U⟩),Sa #[Si S6 b,Si S6 v,Si S6 (Kp C.cs (v:I))],Si S6 j,Si S6 k] W λe d=>e=Rt (Sa #[Si S6 (u:I),Si S6 (ru:I)])/\Sw (Z W.1) W d):=Y (λW L_=>by
   have i:=Lz C L K a (Y L_) a2 be (Y M_) bc;rw[f1,hS.o k bc]at i;rw[f7];exact i)
  have bh:Q (∀W,jg C W L K->Sk prog 62 #[Sj (S ⟨C.4,0,U⟩),Si S6 p,X (S ⟨Z W.1,0,U⟩) 1 1] (D W (Sc #[Si S6 (u:I),Si S6 (ru:I)] 146)) λe d=>e=Rt (St #[])/\∃s,jg C d L s/\s.mm C<=K.mm C/\i7 C K (D W (Sc #[Si S6 (u:I),Si S6 (ru:I)] 146)) s d):=Y (λW L_=>by
   have hx:=Bx.new W #[Si S6 (u:I),Si S6 (ru:I)] 146;refine Bw C L K [(u:I)] [(ru:I)] a (Y<|L_.calm (Xb Rf _)) ce (Y λP i _=>?_) (Y R) (Y R) O (Y λP i _=>?_)
   .obtain rfl:P=0:=by simpa using i
    exact⟨_,R,hx.lt,λho=>by have:=L_.lim ho a.o;omega,Bx.c hx 0,Bx.c hx 1⟩
   obtain rfl:P=0:=by simpa using i
   exact⟨u,ru,_,R,R,f2,O,f3,bb,by rw[hS.o p cd,<-f4,f7]⟩)
  have b8:True:=JV;clear f1 f2 f3 f4 f5 f6 f7 af ba w0 w1 ab M_ b8;have cr:(j:I)<(o:I):=O;go_wp2;have b4:=Y aj;have bq:=Y ad.2;have G_:=Y<|Xb (dC (Z wr.1) wr) (Sc #[Si S6 (p:I),Si S6 (k:I)] 143);have N_:=Bx.new wr #[Si S6 (p:I),Si S6 (k:I)] 143;have T:=aj.box (Sc #[Si S6 (p:I),Si S6 (k:I)] 143);have a8:¬K.own C (Z wr.1):=λho=>by have:=y.lim ho a.o;omega
  have ap:=Y<|y.calm G_.o;have bm:=Y<|U_.trans (i7.below G_.o);have bx:=Y<|V_.trans (i7.below G_.o);have bo:=Y a8;clear aj ad a8 e0 e1 G_ b4 y U_ V_;generalize D wr _=l at*;generalize Z wr.1=q1 at*;have t0:E l ⟨q1,0,U⟩=S (Si S6 (p:I)):=Bx.c N_ 0;have t1:E l ⟨q1,1,U⟩=S (Si S6 (k:I)):=Bx.c N_ 1;have t2:E l ⟨m,0,U⟩=S (Si S6 (b:I)):=Bx.c T 0;have t3:E l ⟨m,1,U⟩=S (Si S6 (v:I)):=Bx.c T 1;have t4:E l ⟨m,2,U⟩=S (Si S6 (Kp C.cs (v:I))):=Bx.c T 2;have I_:=Y N_;have H_:=Y T;have bt:=Y<|br.o l.drew (ap.calm (Rf).drew);clear N_ T;refine Y7 (λd=>E d ⟨q1,0,U⟩=S (Si S6 (p:I))/\E d ⟨q1,1,U⟩=S (Si S6 (k:I))/\E d ⟨m,0,U⟩=S (Si S6 (b:I))/\E d ⟨m,1,U⟩=S (Si S6 (v:I))/\E d ⟨m,2,U⟩=S (Si S6 (Kp C.cs (v:I)))) λO_=>?_;refine Xn 0 ?_;refine Xn 1 ?_;refine Xn 2 ?_;refine Xn 3 ?_;refine Xn 4 ?_;refine Xn 5 ?_;refine Xn 6 ?_;refine Xn 7 ?_;refine Xs 8 λar hK=>?_;go_simp
  go_at_call 63
  with_reducible refine bt.o.mono ?_
  rintro e Q_⟨rfl,a1⟩;have V:Sw (Z l.1) l Q_:=Xg (dC (Z l.1) l).drew a1;have b1:=Y<|ap.calm V;have HA:=Y<|bh.o Q_ b1.o;have R_:=I_.keep<|V.5 _ I_.lt;have F:=H_.keep<|V.5 _ H_.lt;have bl:=Y<|i7.below (K:=C) (X_:=K) V;have ci:=Y R_;have ch:=Y F;dsimp only;refine hK _ _ ⟨Bx.cell R_ R,Bx.cell R_ R,Bx.cell F R,Bx.cell F R,Bx.cell F R⟩ λO_=>?_;clear hK a1 V R_ F
  try simp only[xX]
  refine Xs 9 λar hK=>?_;go_simp;refine hK _ _ kP λO_=>?_;clear hK;refine Xs 10 λar hK=>?_;go_simp
  go_at_call 62
  with_reducible refine HA.o.mono ?_
  rintro e w6⟨rfl,Z2,a0,a7,a5⟩;have B:=bl.trans<|(i7.below (K:=C) (X_:=K) (Xb (dC (Z Q_.1) Q_) _)).trans a5;have y1:=I_.keep (B.3 _ I_.lt bo.o).1;have x:=H_.keep (B.3 _ H_.lt bq.o).1;have b7:=Y a0;have bn:=Y a7;have bk:=Y<|bm.trans B;have bv:=Y<|bx.trans B;dsimp only;refine hK _ _ ⟨Bx.cell y1 R,Bx.cell y1 R,Bx.cell x R,Bx.cell x R,Bx.cell x R⟩ λO_=>?_;clear hK a0 a7 a5 B y1 x
  try simp only[xX]
  refine Yq ?_;clear O_;go_wp2;exact⟨⟨j+1,Z2,O,gM,b7,Y<|oP bn.o aq.o,bk,bv⟩,by simp[JB];omega⟩
 go_wp2
 go_roundg (gk-1)
 case measure=>omega
 exact⟨K,y,Y<|oN aq.o,U_⟩
end
section
open Go.Maps
theorem sK.keep{w':Ub}(h:sK w p x)(ha:Xp w 0 n p x)(d:Sw n w w'):sK w' p x:=λi c b o j l k e g=>by obtain⟨m,q,a,f,_⟩:=ha i c;rw[e]at a;cases a;exact h i c b o j l k e<|G (d.cell (p:=A b (o+i*6+1)) f.2).symm g
theorem NF{wr:Ub}{og wg f mn mc:N}{a ma:Uy}{k:I}{M:List ag}(h:RL w wr n m og wg B g i j f mn E_ x l M 0 0 f [])(b:Yy w)(d:Yb w):∀W,(oQ wr m B g og wg i j f c mn mc a ma k x M l).fr W->Yy W/\Yb W:=λW e=>by have s:=h.2;have u:=h.z;have r:=h.1.4;have p:∀q,q<Z w.1->W.1[q]?=wr.1[q]?:=λq t=>e.2 q ⟨show q<Z wr.1 by omega,show q≠m by omega,show q≠B by omega,show q≠g by omega⟩;have o:Sw (Z w.1) w wr:=h.1;exact⟨(b.keep o b.1).of_block (p _ b.1) e.1,(d.keep o d.1).of_block (p _ d.1) e.1⟩
theorem Lg{mn:N}{M:List ag}(ha:Q (Xp w 0 B p x))(N_:Q (d7 w 0 B P M))(j:B<=Z w.1)(L:Q (m=J x))(T:Q (mn=J M))(a7:mn<=k)(b:Q (l8 n x l t))(bd:1<=t)(hk:t<=64)(Y_:Q (sX x l M))(ba:Q (Ft (n:I) x=0))(hs:Q (J x+Xx x<=1048576))(Z_:Q (nK t M=So))(a6:Q (sK w p x))(v:Q (Yy w))(z:Q (Yb w)):
 Sk prog 8 #[Sa #[H n,X p m c],Sa #[H t,X P mn k],H t] w λe w'=>e=Rt (H 0)/\Sw (Z w.1) w w':=by
 have bi:∀(fn:Go.Fn)(first cap:Zh)(w:Ub),(Instr.makeFunc fn first cap).run prog w=.ok (.func fn first cap) w:=λ_ _ _ _=>R;have T_:=Y λW_ (h:Sw (Z w.1) w W_)=>Te (n:I) m c (Y<|ha.keep (h.mono j)) L hs (oN h.4) (Y<|v.keep h v.1) (Y<|z.keep h z.1);rw[ba.o]at T_
 go_enter_defers func8,ntmps8
 go_wp2_with fail
 have ap:=Xb (Xb (Xb (dC (Z w.1) w) (Sc #[H n,X p m c] 25)) (Sc #[H t,X P mn k] 31)) (Sc #[H 0] 2);have x0:=((Bx.new w #[H n,X p m c] 25).box (Sc #[H t,X P mn k] 31)).box (Sc #[H 0] 2);have x1:=(Bx.new (D w (Sc #[H n,X p m c] 25)) #[H t,X P mn k] 31).box (Sc #[H 0] 2);have x2:=Bx.new (D (D w (Sc #[H n,X p m c] 25)) (Sc #[H t,X P mn k] 31)) #[H 0] 2;simp only[aO]at x1 x2;have f:=Y x0;have d:=Y x1;have a:=Y x2;have R_:=Y ap;clear x0 x1 x2 ap;generalize D (D (D w _) _) _=w0 at*;refine YU (T_.o w0 R_.o) λw1 E_=>?_;have S_:=Y<|Xg R_.o E_;have f:=Y<|f.keep (E_.5 _ f.lt);have d:=Y<|d.keep (E_.5 _ d.lt);have a:=Y<|a.keep (E_.5 _ a.lt);have aa:=Z_.o;unfold nK sj at aa;simp only[bY,bD]at aa;have a8:=wI M;have bh:mn<=3000:=oN T.o;have ao:Q (J M+Rp M<=1048576):=Y O;have U_:=Y λW_ (h:Sw (Z w.1) w W_)=>Dz t k 0 (Y<|N_.keep (h.mono j)) T ao (oN h.4) (Y (v.keep h v.1).old) (Y (z.keep h z.1).old);rw[Z_.o]at U_;have V:=Bx.c d.o 0;have K:=Bx.c d.o 1;have be:¬t<1:=O;have bf:¬t > 64:=O;have bg:¬t > t:=O;clear T_ E_ aa a8 R_;dsimp only;go_wp2_with fail
 refine YU (U_.o w1 S_.o) λw2 F=>?_;have C:=Y<|Xg S_.o F;have f:=Y<|f.keep (F.5 _ f.lt);have d:=Y<|d.keep (F.5 _ d.lt);have a:=Y<|a.keep (F.5 _ a.lt);clear V K U_ F S_;have V:=Bx.c d.o 0;have K:=Bx.c d.o 1;have V_:=Bx.c f.o 0;have f1:=Bx.c f.o 1;have ab:=XH b.1;have a9:m<=1000:=by rw[L.o];exact ab.1.2
 have bc:=C.4;have am:=Y (QJ (n:I) t c (Y<|ha.keep (C.mono j)) (Y<|N_.keep (C.mono j)) O L T a7 a9 O Y_ (Y<|IY b.1) (Y λad ac=>(Fa b.1 ad ac).1) (Y λad ac=>by have:=(ab.10 ad ac).1;omega) (Y λbn hy=>by have:=zI hy;have:=ao.o;omega));dsimp only;go_wp2_with fail
 refine YU am λw3 W=>?_;have g:=Y<|Xg C.o W;have f:=Y<|f.keep (W.5 _ f.lt);have d:=Y<|d.keep (W.5 _ d.lt);have a:=Y<|a.keep (W.5 _ a.lt);have bb:Z w.1+1+1<Z w3.1:=a.lt;clear V K V_ f1 am W C bc;have V:=Bx.c d.o 0;have K:=Bx.c d.o 1;have V_:=Bx.c f.o 0;have f1:=Bx.c f.o 1;have bk:=g.4;have aj:=Y<|M9 c k t (Y<|ha.keep (g.mono j)) (Y<|N_.keep (g.mono j)) O L T O (Y b.1) Y_ (Y<|v.keep g.o v.1);dsimp only;go_wp2_with fail
 refine aj.mono ?_;rintro e s⟨z0,i,og,wg,r,o,rfl,u⟩;obtain⟨X_,aq⟩:=LN u (ha.keep<|g.mono j) (N_.keep<|g.mono j) O L.o T.o O b.o hk Y_.o;have a2:=NF (c:=c) (mc:=k) (a:=p) (ma:=P) (k:=t) u (v.keep g.o v.1) (z.keep g.o z.1);have au:=((a6.keep ha.o<|g.mono j).keep (ha.keep<|g.mono j) (u.1.mono O));have a:=Y<|a.keep (u.1.5 _ a.lt);have a1:∀q,q<Z w3.1->¬yW.own (oQ s i r o og wg B n m c mn k p P t x M l) q:=λq hq ho=>by
  have:=u.2;obtain e|e|e|e|⟨_,_,e⟩:=ho;·have e:q=i:=e;omega
  .have e:q=r:=e;omega
  .have e:q=o:=e;omega
  .cases e
  cases e
 have al:=Y a1;have af:Q ((oQ s i r o og wg B n m c mn k p P t x M l).4=i/\(oQ s i r o og wg B n m c mn k p P t x M l).xs=x/\(oQ s i r o og wg B n m c mn k p P t x M l).M=M/\(oQ s i r o og wg B n m c mn k p P t x M l).k=t/\(oQ s i r o og wg B n m c mn k p P t x M l).a=p/\(oQ s i r o og wg B n m c mn k p P t x M l).w=s):=Y ⟨R,R,R,R,R,R⟩;have D_:=Y<|Xg g.o u.1;have bl:=u.1.4;generalize oQ s i r o og wg B n m c mn k p P t x M l=L_ at*;obtain⟨q1,q2,q3,q4,q5,q6⟩:=af.o;have O_:=Y (MF L_ yW (Y X_) (Y aq) (Y<|by rw[q2];exact IY b.1) (Y<|by rw[q3,q4];exact Z_.o) (Y<|by rw[q2,q5,q6];exact au) (Y a2));rw[q1]at O_;have HG:=Y X_;clear V K V_ f1 aj aq au a2 a1 u X_ q1 q2 q3 q4 q5 q6 ab;dsimp only;go_wp2_with fail
 refine YU O_ λw5⟨B5,ar,az⟩=>?_;have Q_:=Y (Lr L_ (mU L_ L_.mn) B5 HG (Y ar) (Y λb_ h=>aU h));rw[af.1]at Q_;have a4:=Y az;clear ar az O_;dsimp only;go_wp2_with fail
 refine YU Q_ λw6⟨Z7,_,a0⟩=>?_;have y:=Y<|a4.trans a0;have a:=Y<|a.keep (y.3 _ a.lt<|al.o _ bb).1;have c2:=Bx.c a.o 0;have z2:=Bx.thaw a.o;clear a0 Q_;dsimp only;go_wp2;have a3:Q (Sw (Z w.1) w<|Se w6 (A (Z w.1+1+1) 0) (H 0)):=Y (by have h6:Sw (Z w.1) w w6:=⟨G y.1.1 D_.1,G y.1.2.1 D_.2,G y.1.2.2 D_.3,aJ D_.4 y.2,λq hq=>G ((y.3 q (oN g.4) (al.o q O)).1) (D_.5 q hq)⟩;exact h6.setCell (by show Z w.1<=Z w.1+1+1;omega) _)
 have a5:E (Se w6 (A (Z w.1+1+1) 0) (H 0)) (A (Z w.1+1+1) 0)=S (H 0):=Bx.c (a.set 0<|H 0) 0;refine leaves_cons (f:=22) (args:=#[Hn (Z w.1+1+1)]) sP SC ?_;refine(Pb).mono ?_;rintro e u' bm⟨rfl,rfl,rfl⟩;simp[Leaves,settle,JC,results8,go_sem,a5];exact a3.o
end
end Go.Proofs.YtcncjgijikoapaaGreatDoor
