import Derived.Test.YtcncjgijikoapaaGreatDoorSLS
namespace Go.Proofs.YtcncjgijikoapaaGreatDoor
set_option maxHeartbeats 2000000
set_option maxRecDepth 100000
open _root_ renaming Array.size->Z,Nat->N,rfl->R,Option.some->S,Option.none->U,List.length->J,Int->I,Bool.false->Sn,absurd->Sz,Decidable.decide->Jd,List.range->Rg,Bool.true->So,trivial->JV
open Go renaming World.setCell->Se,World.ownsRow->Sx,World.cell?->E,IntKind.i64->S6,Ending.returned->Rt,Calls->Sk,RowKit.intOf->JB,World.alloc->D,Obj.cells->Sc,RowKit.Below->Sw,results->JC
open Value renaming slice->X,int->Si,agg->Sa,tuple->St,bool->Sb,pointer->Sj
open Go.RowKit Go.Shelf Go.Proofs.Tryz
variable{t:I}{n m k B g i j c:N}{w v u W V:Ub}{a:Uj}{p:Uy}{M N_:Vp}{d:Vv}{s:Wa}{l:Wc}{x:Wi}{f F:Wk}{q:Xe}{R_:Yh}{E_:Zh}
section
structure XW(w w':Ub)(lab lab':N->N×N×N)(base:N)(ok:Vv):Prop where
 size:Z w.1<=Z w'.1
 same:∀b,base<=b->b<Z w.1->ok b->w'.1[b]?=w.1[b]?/\lab' b=lab b
 fresh:(∀b,Z w.1<=b->lab b=(0,0,0))->∀b,Z w'.1<=b->lab' b=(0,0,0)
variable {w w': Ub} {lab lab': N -> N×N×N} {base: N} {ok: N -> Prop}
theorem Xv.sp{L:N×N×N}{t c v n a}(h:Xv w lab L base t c v n a)(k:XW w w' lab lab' base ok)(g:∀b,lab b=L->ok b):Xv w' lab' L base t c v n a :=
 h.keep λb d f e=>by have:=k.2 b d f<|g b e;exact⟨this.1,G this.2 e⟩
theorem Bx.sp{b t a}(h:Bx w b a t)(k:XW w w' lab lab' base ok)(c:base<=b)(d:ok b):Bx w' b a t:=h.keep (k.2 b c h.lt d).1
theorem XW.put(g q)(u:Uj):XW w (Se w ⟨g,q,U⟩ u) lab lab base (λb=>b≠g) :=
 ⟨SH,λb _ _ a=>⟨cY a,R⟩,λh b a=>h b<|by simpa [World.setCell]using a⟩
theorem Xv.grow{L:N×N×N}{t g}{v a:Uj}{p k}{l h:Wo}(i:Xv w lab L base t g v p l)(d:w.grownBy w' v.ownBlock)(j:Sx w' base t g a k h)(n:a.ownBlock=v.ownBlock\/a.ownBlock=S (Z w.1))(o:∀b,Z w.1<=b->lab b=(0,0,0)):
 ∃lab',Xv w' lab' L base t g a k h/\XW w w' lab lab' base (λb=>lab b≠L):=by
 refine⟨λb=>if a.ownBlock=S b then L else lab b,⟨j,λb e=>aU e⟩,d.4,λb q m c=>⟨d.5 b m λe=>c<|i.2 b e.symm,aM λe=>?_⟩,λ_ b c=>G (aM λe=>?_) (o b<|aJ d.4 c)⟩
 .rcases n with f|f;·exact c<|i.2 b (G f.symm e)
  rw[e]at f;injection f with f;omega
 have:=(j.lt b e).2;have:=d.4;omega
end
section
structure HK(w:Ub)(g K C:N)(W:Ym):Prop where
 le:K<=C
 ex:∃T:Vu,w.rowIs g 2 C λi=>if i<K then Si S6 (W i)else T i
namespace HK
variable {w: Ub} {g K C: N} {W W': N -> I}
theorem lt(h:HK w g K C W):g<Z w.1:=by let⟨_,T,h⟩:=h;exact h.lt
theorem cell(h:HK w g K C W){i:N}(a:i<K):E w (A g i)=S (H<|W i):=by let⟨b,T,h⟩:=h;have:=h.cell (i:=i) O;rwa[aU a]at this
theorem frozen(h:HK w g K C W)(i:N):w.frozen? (A g i)=Sn:=by let⟨_,T,h⟩:=h;exact h.frozen i
theorem congr(h:HK w g K C W)(e:∀i,i<K->W i=W' i):HK w g K C W':=by
 let⟨b,T,h⟩:=h;refine⟨b,T,h.congr λi _=>?_⟩;by_cases a:i<K;·rw[aU a,aU a,e i a]
 rw[aM a,aM a]
theorem of_block{a:Ub}(h:HK w g K C W)(e:a.1[g]?=w.1[g]?):HK a g K C W:=by let⟨b,T,h⟩:=h;exact⟨b,T,h.of_block e⟩
theorem set(h:HK w g K C W)(i:N)(v:I)(b:i<K):HK (Se w ⟨g,i,U⟩ (Si S6 v)) g K C (λj=>if j=i then v else W j):=by
 let⟨a,T,h⟩:=h;refine⟨a,T,(h.set i _).congr λj _=>?_⟩;by_cases e:j=i;·rw[aU e,aU O,aU e]
 rw[aM e,aM e]
theorem setOther(h:HK w g K C W){a:Addr}(ha:g≠a.1)(v:Uj):HK (Se w a v) g K C W:=by let⟨b,T,h⟩:=h;exact⟨b,T,h.setOther ha v⟩
theorem of_own{c:N}{v:Uj}{a:Wc}(h:Sx w c 2 1 v (J a) (a.map<|Si S6))(p:v≠X U 0 0):∃g C,v=X (S ⟨g,0,U⟩) (J a) C/\c<=g/\HK w g (J a) C (λi=>a.getD i 0):=by
 obtain⟨o,h|⟨g,k,b,rfl,m,n,l,_,f,j⟩⟩:=h;·exact Sz h.1 p
 simp only[iN]at o f j;refine⟨g,k,R,m,l,λi=>b[i]?.getD (H 0),b,n,f,λi q=>?_⟩;show b[i]?=S (if i<J a then H (a.getD i 0)else b[i]?.getD (H 0));by_cases e:i<J a
 .rw[aU e];have d:(b.1.take (J a))[i]?=S (H a[i]):=by rw[j];simp[e]
  rw[fH e]at d;have e2:a.getD i 0=a[i]:=by simp[e]
  rw[e2];simpa using d
 rw[aM e];have:i<Z b:=O;simp[this]
end HK
end
theorem lf.seqN{c:Type}{F}{i:c->Zh}{g:c->Vy}{d:Ub->Vy}{K Sp:List c->Prop}(h:lf F n R_ m E_ (λ_=>i) (λ_=>g) d K Sp k False False w):pp F n R_ m E_ i g d K k w:=by
 intro L M W q t j r o;refine(h L (λ_=>M) (λ_ _=>False) W q t (λ_=>j) (λ_ _ _ _ h _ _=>h) (λf=>f.elim) (λf=>f.elim) (λz l B V _ b v u=>(r l B V b v u).mono λe P h=>bC h) λz V _ _ a=>j [] W V U o ⟨a.1,a.2,a.3,a.4,λy s _=>a.5 y s⟩ λT e=>by cases e).mono ?_;rintro e V⟨x,⟨z,C,_,p,b⟩|⟨l,_,f⟩⟩;·exact⟨x,C,p,b⟩
 exact f.elim
theorem BM{Bx}(a)(c:N×Wc×Wc->Prop)(b:Q (P0 q n m Bx (Z w.1) w))(d:Q (∀k,n<=k->k<m->¬a k))(h:Q (¬a Bx))(g:Q (∀k,Z w.1<=k->¬a k))(e:Q (¬a 1))(f:Q (¬a 0))(o:Q (∀y∈q.2,1<=y.1/\y.1<=13))(p:1<=q.3.1/\q.3.1<=3)(j:J q.2<=4000)(l:J q.1<=4000)(i:Q (∀r∈NS q,c r)):
 pp Fence.wide 7 prog 137 #[Hn Bx] pf (og (Z w.1) c) (Zf (Z w.1) a) (λs=>s.map Pl.dat=NS q) (J q.2+2) w :=
 lf.seqN (uy (Z w.1) Bx n m a c q w (Y ⟨b.1,b.2,b.3,b.4,b.5,b.6,b.7,aA⟩) d h g e f o p j l i)
def jm(W:Wk)(x:N):Wk:=λi=>if i=x/64 then W i&&&(18446744073709551615-2^(x%64))else W i
theorem uS(h:n<64):2^n<18446744073709551616:=aX (lB vY h) vY
theorem EJ:Xh (jm f n) m=(Jd (m≠n)&&Xh f m):=by
 unfold Xh jm;by_cases e:m/64=n/64
 .rw[aU e,jW,qA (uS<|dS _ vY) (dS _ vY),nE];by_cases h:n%64=m%64
  .have:m=n:=O;simp[this]
  have:m≠n:=λq=>h (by rw[q]);simp[h,this]
 rw[aM e];have:m≠n:=λq=>e (by rw[q]);simp[this]
theorem FN(h:XA f)(x):XA (jm f x):=λi=>by
 unfold jm;split;·exact iC jB<|h i
 exact h i
def Js(W:Wk)(a:Wa):Wk:=a.foldl jm W
theorem Ch{W}(h:n<J s):Js W (s.take<|n+1)=jm (Js W<|s.take n) s[n]:=by unfold Js;rw[bN h,dT];rfl
theorem JX:∀(a:Wa){W:Wk},XA W->XA (Js W a)
 |[],_,h=>h
 |t::a,_,h=>JX a<|FN h t
theorem Kt:∀(a:Wa)(W:Wk)(y:N),Xh (Js W a) y=(Jd (y∉a)&&Xh W y)
 |[],_,_=>by simp[Js]
 |t::a,W,y=>by have h:=Kt a (jm W t) y;have e:Js W (t::a)=Js (jm W t) a:=R;rw[e,h,EJ];by_cases b:y=t<;>by_cases c:y∈a<;>simp[b,c]
theorem Bn(c:m<64)(b:n<18446744073709551616):bits .andNot .u64 (n:I) (IntKind.u64.wrap<|2^m)=((n&&&(18446744073709551615-2^m):N):I):=by
 have a:=uS c;have e:IntKind.u64.wrap (2^m)=((2^m:N):I):=by rw[iV];have:((2^m:N):I)=(2:I)^m:=sP;rw[<-this];exact mB (kF _) (Int.ofNat_lt.2 a)
 rw[e,kM _ _ b a]
theorem JL(c o L w)(ha:Q (Xf w L g o<|s.map Int.ofNat))(y:Q (B=J s))(hn:B<=4000)(M:Q (∀t∈s,t<64*m))(hK:m<=1000)(F:Q (XA f))(x:Q (Cp w n m k f))(V_:g<=Z w.1)(Z_:¬(L<=n/\n<g)):
 Sk prog 106 #[Sa #[Hl n m k],X o B c] w λe z=>e=Rt (St #[])/\w.grownBy z (S n)/\Cp z n m k (Js f s):=by
 go_in
 go_wp2;have Y_:=x.lt
 go_loopw [8] (λu wr=>∃q:N,q<=B/\u=H q/\Q (w.grownBy wr<|S n)/\E wr (A (Z w.1) 0)=S (Hl n m k)/\Q (Cp wr n m k<|Js f (s.take q))) λu _=>B-(JB u).toNat
 .exact⟨0,aN,R,Y<|bW _ _ _,sP,Y<|x.alloc _⟩
 obtain⟨q,hq,rfl,d,K,a⟩:=hrel;by_cases aa:q<B
 .have l:q<J s:=oN y.o
  obtain⟨p,P,rfl,W_,r⟩:=ha q (by simpa using l);have j:=G (Xc<|d.5 p O λe=>by injection e with e;omega) r;rw[cM]at j;have ad:=M _<|aH l;have T:=Y<|Ch (W:=f) l;have V:=Y<|JX (s.take q) F;generalize s[q]=t at*;have T_:=rh t;have U_:=rg t;have Q_:Cl wr p (P+q) (H t):=j;generalize Js f (s.take q)=h at*;have v:t/64<m:=O;have W:t%64<64:=dS _ vY;have R_:=a.cell v;have S_:=a.frozen;have C:=Y<|Bn W (V<|t/64);have A_:Q (∀i,(if i=t/64 then h (t/64)&&&(18446744073709551615-2^(t%64))else h i)=Js f (s.take<|q+1) i):=Y (λi=>by
   rw[T.o];unfold jm;by_cases e:i=t/64;·rw[aU e,aU e,e]
   rw[aM e,aM e])
  generalize X_:t/64=b at*;generalize ab:t%64=P_ at*;go_wp2;go_region;go_wp2;rw[C.o];have N_:wr.grownBy (Se wr (A n b) (Si .u64 ((h b&&&(18446744073709551615-2^P_):N):I))).drew (S n):=⟨R,R,R,by simp[World.setCell,World.drew],λaj _ I_=>cY λe=>I_<|by rw[e]⟩;refine⟨⟨q+1,O,gM,Y (d.andThen N_ λaf H_=>by cases H_;exact aZ R),?_,Y ?_⟩,SA⟩;·exact G (bH wr (A n b) (A (Z w.1) 0) _ (by show n≠Z w.1;omega)) K
  refine Cp.drew ((a.set b _ v).congr λi _=>?_);rw[<-A_.o i]
 have ac:q=B:=O;have F_:Q (s.take q=s):=Y<|aW (oN y.o);rw[F_.o]at a;go_wp2
 go_end0
 exact⟨R,d,a⟩
theorem BV(y:Q (Cp w n m k f))(hK:m<=1000):
 Sk prog 136 #[Hl n m k] w λe C=>∃b d,e=Rt (Hl b m d)/\Z w.1<=b/\Sw (Z w.1) w C/\Cp C b m d f:=by
 let⟨L,F,P,T,K⟩:=fX Qg;have O_:∀(w:Ub)(g:Uy)(o c p h:N),(binOp .eql 84 (X g o c) (X U p h)).run prog w=.ok (Sb g.isNone) w:=λw g o c p h=>Lib.run_eql_slice_nil w _ _ g o c p h underlying84;have N_:=y.lt;have q:Q (Sx (D w<|Sc #[] 173) (Z w.1) 173 1 (Hl (Z w.1) 0 0) 0 []):=Y<|eI (base:=Z w.1) (e:=173) (size:=1) w #[] 0 sP sP R
 go_in
 go_wp2_with (at_builtin;refine fT _ R _ _ 84 R (Z w.1) 173 L (Si .u64 0) 1 8 underlying84 F P T K R vY _ _ _ R q (A n 0) m k ((Rg m).map λi=>Si .u64 (f i:I)) R ?c0 ?c1 ?c2 ?c3 ?c4 ?c5 ?_)
 case c0=>simp
 case c1=>
  intro l M a;rw[dX]at a;by_cases e:l<m
  .rw[iQ e]at a;simp at a;subst a;have:=(y.alloc<|Sc #[] 173).cell e;have e2:((A n 0):Addr).add l=(A n l):=by rw[mK];simp
   rw[e2];exact this
  rw[dK<|by simp;omega]at a;cases a
 case c2=>
  intro M V;obtain⟨i,_,rfl⟩:=aY.1 V;rfl
 case c3=>unfold maxLen;omega
 case c4=>omega
 case c5=>simp
 intro v1 B u s t;have z:v1≠Hq:=by simpa using t
 have r:=Xy (Xb (dC (Z w.1) w) _) s q aA sP;have v:Sx B (Z w.1) 173 1 v1 (J ((Rg m).map f)) (((Rg m).map f).map λx:N=>Si .u64 x):=by have e:(((Rg m).map f).map λx:N=>Si .u64 x)=(Rg m).map λi=>Si .u64 (f i:I):=sP;rw[e];simpa using u
 obtain⟨b,d,rfl,W,j⟩:=Cp.of_own v z;have C_:=Y r;have D_:Q (Cp B b m d f):=Y (by have e:J ((Rg m).map f)=m:=sP;rw[e]at j;exact j.congr λi F_=>by simp[F_])
 have e:J ((Rg m).map f)=m:=sP;rw[e];go_wp2;go_ret;exact⟨_,_,R,W,C_,D_⟩
theorem Kk(g K C W w)(q:Q (Cp w g K C W))(hK:K<=1000):
 Sk prog 104 #[Sa #[Hl g K C]] w λe j=>∃b c,e=Rt (Sa #[Hl b K c])/\Z w.1<=b/\Sw (Z w.1) w j/\Cp j b K c W:=by
 go_in
 go_wp2_with fail
 have m:Q (Sw (Z w.1) w<|D (D w<|Sc #[Hl g K C] 86) (Sc #[Hq] 86)):=Y<|Xb (Xb Rf _) _;have v:Z (D (D w<|Sc #[Hl g K C] 86) (Sc #[Hq] 86)).1=Z w.1+2:=sP;have r:=(q.alloc<|Sc #[Hl g K C] 86).alloc (Sc #[Hq] 86);have p:(λk:Ub=>E k (A (Z w.1+1) 0)=S Hq/\k.frozen? (A (Z w.1+1) 0)=Sn) (D (D w<|Sc #[Hl g K C] 86) (Sc #[Hq] 86)):=⟨SC,SC⟩;generalize D (D w _) _=t at*;let⟨f,h⟩:=p;refine(BV (Y r) hK).mono ?_;rintro e s⟨d,l,rfl,u,a,i⟩;have f1:=G (XU a O) f;have f2:s.frozen? (A (Z w.1+1) 0)=Sn:=by rw[bJ (w:=t) (a:=(A (Z w.1+1) 0)) (a.5 _<|by show Z w.1+1<_;omega)];exact h
 have n:=Y<|Xg m a;have o:=Y i;go_wp2_with fail
 refine YL (v:=Sa #[Hl d K l]) ?_;exact⟨_,_,R,O,n.setCell (by show Z w.1<=Z w.1+1;omega) _,o.setOther (by show d≠Z w.1+1;omega) _⟩
structure Pp(w Y_:Ub)(V:N)(a:Uy)(n c Kw:N)(xs:Wi)(Gi LB Go:N)(go:Wk)(WO:Vp):Prop where
 low:Sw (Z w.1) w Y_
 f0:E Y_ ⟨Z w.1,0,U⟩=S (Si S6 (V:I))
 f1:E Y_ ⟨Z w.1,1,U⟩=S (X a n c)
 r0:E Y_ ⟨Z w.1+1,0,U⟩=S (X U 0 0)
 r1:E Y_ ⟨Z w.1+1,1,U⟩=S (X U 0 0)
 rz:∀q,Y_.frozen? ⟨Z w.1+1,q,U⟩=Sn
 gi:Y_.rowIs Gi 86 n λ_=>X U 0 0
 l0:E Y_ ⟨LB,0,U⟩=S (X (S ⟨Gi,0,U⟩) n n)
 l1:E Y_ ⟨LB,1,U⟩=S (X (S ⟨Go,0,U⟩) n n)
 o:XK Y_ Go n Kw go (λ_=>Kw) WO
 wd:XQ WO
 has:∀b,b<n->∀v,Xh (WO b) v=So↔(b,v)∈Nr xs n
 b1:Z w.1+2<=Gi
 b2:Z w.1+2<=LB
 b3:Z w.1+2<=Go
 b4:∀i,i<n->Z w.1+2<=go i
 d1:Gi≠LB
 d2:Gi≠Go
 d3:LB≠Go
 d4:∀i,i<n->go i≠Gi/\go i≠LB
theorem tT(F n)(b:F.1 105)(c:F.4=U){v1 v2 v3 v4 v5:Uj}(w:Ub):
 CallsIn F n prog 105 #[Sa #[a,v1,v2,v3,v4,v5]] w λe d=>e=Rt (.func (.func 137) #[] #[Sj (S ⟨Z w.1,0,U⟩)])/\d=D w (Sc #[a,v1,v2,v3,v4,v5] 52):=by
 refine iD func105 R b ?_ c;simp only[ntmps105,xY,Nat.reduceAdd,Nat.reduceSub];gi_wp2;go_ret;exact⟨R,R⟩
theorem XK.setCell(h:XK w n m k f F M)(p)(v:Uj)(b:p.1≠n)(c:∀i,i<m->p.1≠f i):XK (Se w p v) n m k f F M :=
 ⟨h.1.setOther (λe=>b e.symm) v,λi a=>(h.2 i a).setOther (λe=>c i a e.symm) v,h.3,h.o⟩
theorem VR{go}(C:Sw (Z w.1) w v)(L_:Z v.1=Z w.1+2)(h:Sw (Z v.1) v u)(L:E v ⟨Z w.1,0,U⟩=S (Si S6 (n:I)))(f1:E v ⟨Z w.1,1,U⟩=S (X p m c))(P:E v ⟨Z w.1+1,0,U⟩=S (X U 0 0))(T:E v ⟨Z w.1+1,1,U⟩=S (X U 0 0))(rz:∀q,v.frozen? ⟨Z w.1+1,q,U⟩=Sn)(t:u.rowIs B 86 m λ_=>X U 0 0)(y:u.rowIs g 122 2 λ_=>X U 0 0)(z:XK u i m k go (λ_=>k) M)(K:XQ M)(V:∀j,j<m->∀s,Xh (M j) s=So↔(j,s)∈Nr x m)(W:Z w.1+2<=B)(b2:Z w.1+2<=g)(C_:Z w.1+2<=i)(D_:∀b,b<m->Z w.1+2<=go b)(a:i≠g/\B≠g/\B≠i/\∀b,b<m->go b≠B/\go b≠g):
 Pp w (Se (Se u ⟨g,0,U⟩ (X (S ⟨B,0,U⟩) m m)) ⟨g,1,U⟩ (X (S ⟨i,0,U⟩) m m)) n p m c k x B g i go M:=by
 have r:=(y.set 0<|Hl B m m).set 1 (Hl i m m);have f:∀d:Addr,d.1<Z v.1->d.1≠g->E (Se (Se u (A g 0) (Hl B m m)) (A g 1) (Hl i m m)) d=E v d:=λd F o=>
  G (bH _ _ _ _ λe=>o e.symm) (G (bH _ _ _ _ λe=>o e.symm) (h.cell F))
 refine⟨((Xg C h).setCell (by show Z w.1<=g;omega) _).setCell (by show Z w.1<=g;omega) _,G (f _ (by show Z w.1<_;omega) (by show Z w.1≠g;omega)) L,G (f _ (by show Z w.1<_;omega) (by show Z w.1≠g;omega)) f1,G (f _ (by show Z w.1+1<_;omega) (by show Z w.1+1≠g;omega)) P,G (f _ (by show Z w.1+1<_;omega) (by show Z w.1+1≠g;omega)) T,λq=>?_,(t.setOther a.2.1 _).setOther a.2.1 _,G (r.cell (i:=0) vY) sP,G (r.cell (i:=1) vY) sP,(z.setCell _ _ (λe=>a.1 e.symm) λb l e=>(a.2.2.2 b l).2 e.symm).setCell _ _ (λe=>a.1 e.symm) λb l e=>(a.2.2.2 b l).2 e.symm,K,V,W,b2,C_,D_,a.2.1,a.2.2.1,λe=>a.1 e.symm,a.2.2.2⟩;exact G (eX _ _ _ _) (G (eX _ _ _ _) (G (h.frozen (p:=A (Z w.1+1) q) (by show Z w.1+1<_;omega)) (rz q)))
structure VD where
 w:Ub
 V:N
 n:N
 c:N
 Kw:N
 K2:N
 a:Uy
 xs:Wi
 Gi:N
 LB:N
 Go:N
 DB:N
 Gd:N
 Gn:N
 bS:N
 gS:N
 sA:N
 s3:N
 M:N
 go:Wk
 gd:Wk
 WO:Vp
structure PE where
 gi:Wk
 ci:Wk
 WI:Vp
 WD:Vp
 nx:Vu
 Ws:Wk
 vS:Uj
 Lf:Wa
structure PO(p:VD):Prop where
 a1:Z p.w.1+2<=p.9/\p.9<p.sA
 a2:Z p.w.1+2<=p.LB/\p.LB<p.sA
 a3:Z p.w.1+2<=p.Go/\p.Go<p.sA
 a4:∀i,i<p.n->Z p.w.1+2<=p.go i/\p.go i<p.sA
 d1:p.9≠p.LB
 d2:p.9≠p.Go
 d3:p.LB≠p.Go
 d4:∀i,i<p.n->p.go i≠p.9/\p.go i≠p.LB
 a5:p.sA<=p.Gd/\p.Gd<p.s3
 a6:∀i,i<p.n->p.sA<=p.gd i/\p.gd i<p.s3
 a7:p.DB=p.s3
 a8:p.Gn=p.s3+1
 a9:p.s3+2<=p.bS/\p.bS<p.M
 a10:p.s3+2<=p.gS/\p.gS<p.M
 a11:p.bS≠p.gS
def N6(a:Wi)(i:N):Wc:=(a[i]?).elim [] λx=>x.3.tg
theorem VS(h:n<J x):N6 x n=x[n].3.tg:=by simp[N6,h]
structure Oi(p:VD)(W:Ub)(k:N)(d:PE):Prop where
 low:Sw (Z p.w.1) p.w W
 sz:p.M<=Z W.1
 f0:E W ⟨Z p.w.1,0,U⟩=S (Si S6 (p.V:I))
 f1:E W ⟨Z p.w.1,1,U⟩=S (X p.a p.n p.c)
 r0:E W ⟨Z p.w.1+1,0,U⟩=S (X U 0 0)
 r1:E W ⟨Z p.w.1+1,1,U⟩=S (X U 0 0)
 rz:∀q,W.frozen? ⟨Z p.w.1+1,q,U⟩=Sn
 l0:E W ⟨p.LB,0,U⟩=S (X (S ⟨p.9,0,U⟩) p.n p.n)
 l1:E W ⟨p.LB,1,U⟩=S (X (S ⟨p.Go,0,U⟩) p.n p.n)
 d0:E W ⟨p.DB,0,U⟩=S (X (S ⟨p.Gd,0,U⟩) p.n p.n)
 o:XK W p.Go p.n p.5 p.go (λ_=>p.5) p.WO
 inr:W.rowIs p.9 86 p.n λi=>if i<k then X (S ⟨d.1 i,0,U⟩) p.5 (d.2 i)else X U 0 0
 ins:∀i,i<k->Cp W (d.1 i) p.5 (d.2 i) (d.3 i)
 inj:∀i j,i<k->j<k->d.1 i=d.1 j->i=j
 igM:∀i,i<k->p.M<=d.1 i
 defs:XK W p.Gd p.n p.5 p.gd (λ_=>p.5) d.4
 nxr:W.rowIs p.Gn 26 p.n λi=>if i<k then d.5 i else X U 0 0
 nxs:∀i,i<k->∃a' c',d.5 i=X a' (J (N6 p.8 i)) c'/\Yv W (λb=>p.M<=b/\(∀j,j<k->b≠d.1 j)/\S b≠d.7.ownBlock) a' (N6 p.8 i)
 sea:YW W p.bS p.gS p.M p.6 p.a p.n p.c d.6 d.7 d.8
 giv:∀i,i<k->S (d.1 i)≠d.7.ownBlock
def ix{a:Type}(f:N->a)(k:N)(v:a):N->a:=λi=>if i=k then v else f i
theorem Zt{a:Type}(f:N->a)(v:a):ix f n v n=v:=by simp[ix]
theorem Zb{a:Type}(f:N->a)(v:a)(h:m≠n):ix f n v m=f m:=by simp[ix,h]
theorem Oi.next{p d}(h:Oi p w n d)(s:PO p)(B:n<p.n){gB CB I' D'}{nk v':Uj}{Ws' Lf'}(W:v.4=w.4)(T:v.2=w.2)(Q_:v.5=w.5)(L:Z w.1<=Z v.1)(M:∀q,q<Z w.1->q≠p.9->q≠p.gd n->q≠p.Gn->q≠p.bS->q≠p.gS->S q≠d.7.ownBlock->v.1[q]?=w.1[q]?)(ab:Z w.1<=gB)(O_:Cp v gB p.5 CB I')(M_:v.rowIs p.9 86 p.n λi=>if i=n then Hl gB p.5 CB else if i<n then Hl (d.1 i) p.5 (d.2 i)else Hq)(L_:Cp v (p.gd n) p.5 p.5 D')(N_:v.rowIs p.Gn 26 p.n λi=>if i=n then nk else if i<n then d.5 i else Hq)(P_:∃m u,nk=X m (J (N6 p.8 n)) u/\Yv v (λf=>Z w.1<=f/\f≠gB/\S f≠v'.ownBlock) m (N6 p.8 n))(S_:YW v p.bS p.gS p.M p.6 p.a p.n p.c Ws' v' Lf')(c:v'.ownBlock=d.7.ownBlock\/∀q,v'.ownBlock=S q->Z w.1<=q)(U_:S gB≠v'.ownBlock):
 Oi p v (n+1) ⟨ix d.1 n gB,ix d.2 n CB,ix d.3 n I',ix d.4 n D',ix d.5 n nk,Ws',v',Lf'⟩:=by
 have V_:=λq e=>(h.19.6.lt q e).1;have hM:=s.a9;have aa:=s.14;have hG:=s.9;have X_:=h.2;have W_:=h.1.4;have h7:=s.a7;have h8:=s.a8;have ac:=s.a6 n B;have k:∀q,q<p.M->q≠p.9->q≠p.gd n->q≠p.Gn->q≠p.bS->q≠p.gS->v.1[q]?=w.1[q]?:=λq t y K I_ J_ K_=>M q O y K I_ J_ K_ (λe=>by have:=V_ q e.symm;omega);have Y_:=s.1;have P:=s.2;have Z_:=s.3;have r:∀q o C,q<p.sA->q≠p.9->E w (A q o)=S C->E v (A q o)=S C:=λq o C t y z=>G (Xc<|k q O y O O O O) z;have V:∀q,p.M<=q->q<Z w.1->S q≠d.7.ownBlock->v.1[q]?=w.1[q]?:=λq t y K=>M q y O O O O O K;refine⟨⟨G W h.1.1,G T h.1.2,G Q_ h.1.3,aJ W_ L,λq hq=>G (k q O O O O O O) (h.1.5 q hq)⟩,aJ X_ L,r _ _ _ O O h.3,r _ _ _ O O h.4,r _ _ _ O O h.5,r _ _ _ O O h.6,λq=>?rz,r _ _ _ P.2 (λe=>s.5 e.symm) h.8,r _ _ _ P.2 (λe=>s.5 e.symm) h.9,G (Xc<|k p.DB O O O O O O) h.d0,?out,?inr,?ins,?inj,?igM,?defs,?nxr,?nxs,S_,?giv⟩
 case rz=>rw[bJ (a:=(A (Z p.w.1+1) q)) (k (Z p.w.1+1) O O O O O O)];exact h.7 q
 case out=>
  refine⟨h.o.1.of_block (k p.Go O (λe=>s.6 e.symm) O O O O),λi a=>?_,h.o.3,h.o.o⟩;have:=s.4 i a;exact(h.o.2 i a).of_block (k _ O (s.8 i a).1 O O O O)
 case inr=>
  refine M_.congr λi _=>?_;by_cases e:i=n;·rw[aU e,aU O,e];simp only[Zt]
  rw[aM e];by_cases e2:i<n;·rw[aU e2,aU O];simp only[Zb _ _ e]
  rw[aM e2,aM O]
 case ins=>
  intro i a;by_cases e:i=n;·subst e;simp only[Zt];exact O_
  have g:i<n:=O;simp only[Zb _ _ e];exact(h.13 i g).of_block (V _ (h.15 i g) (h.13 i g).lt (h.20 i g))
 case inj=>
  intro i j a F e;by_cases e1:i=n
  .by_cases e2:j=n;·omega
   simp only[e1,Zt,Zb _ _ e2]at e;have:=(h.13 j O).lt;omega
  by_cases e2:j=n
  .simp only[e2,Zt,Zb _ _ e1]at e;have:=(h.13 i O).lt;omega
  simp only[Zb _ _ e1,Zb _ _ e2]at e;exact h.14 i j O O e
 case igM=>
  intro i a;by_cases e:i=n;·subst e;simp only[Zt];omega
  simp only[Zb _ _ e];exact h.15 i O
 case defs=>
  refine⟨h.16.1.of_block (k p.Gd O O (λe=>h.16.o n B e.symm) O O O),λi a=>?_,h.16.3,h.16.o⟩;by_cases e:i=n;·subst e;simp only[Zt];exact L_
  simp only[Zb _ _ e];have:=s.a6 i a;exact(h.16.2 i a).of_block (k _ O O (λe2=>e<|h.16.3 i n a B e2) O O O)
 case nxr=>
  refine N_.congr λi _=>?_;by_cases e:i=n;·rw[aU e,aU O,e];simp only[Zt]
  rw[aM e];by_cases e2:i<n;·rw[aU e2,aU O];simp only[Zb _ _ e]
  rw[aM e2,aM O]
 case nxs=>
  intro i a;by_cases e:i=n
  .subst e;simp only[Zt];let⟨m,u,e1,t⟩:=P_;refine⟨m,u,e1,λq hq=>?_⟩;let⟨f,o,e2,b,z⟩:=t q hq;refine⟨f,o,e2,⟨⟨O,λj F=>?_,b.1.2.2⟩,b.2⟩,z⟩;by_cases x:j=i;·rw[x];simp only[Zt];exact b.1.2.1
   simp only[Zb _ _ x];have:=(h.13 j O).lt;omega
  have g:i<n:=O;simp only[Zb _ _ e];let⟨m,u,e1,t⟩:=h.18 i g;refine⟨m,u,e1,λq hq=>?_⟩;let⟨f,o,e2,b,z⟩:=t q hq;refine⟨f,o,e2,⟨⟨b.1.1,λj F=>?_,λl=>?_⟩,O⟩,G (Xc<|V f b.1.1 b.2 b.1.2.2) z⟩
  .by_cases x:j=n;·rw[x];simp only[Zt];omega
   simp only[Zb _ _ x];exact b.1.2.1 j O
  obtain c|c:=c;·rw[c]at l;exact b.1.2.2 l
  have:=c f l.symm;omega
 intro i a;by_cases e:i=n;·subst e;simp only[Zt];exact U_
 have g:i<n:=O;simp only[Zb _ _ e];intro l;obtain c|c:=c;·rw[c]at l;exact h.20 i g l
 have:=c _ l.symm;have:=(h.13 i g).lt;omega
theorem ve(tg:Yr):∀(m b:N)(s:Wk×Wa)(P:Wa),(∀x,Xh s.1 x=So->x∈s.2\/x∈P)->∀x,Xh (C9 tg m b s).1 x=So->x∈(C9 tg m b s).2\/x∈P
 |0,_,_,_,h=>h
 |m+1,b,s,P,h=>by
  by_cases e:Xh s.1 b=So;·rw[Vd e];exact h
  have i:Xh s.1 b=Sn:=by simpa using e
  have g:∀(l:Wa)(c:Wk×Wa),(∀x,Xh c.1 x=So->x∈c.2\/x∈b::P)->∀x,Xh (l.foldl (λs t=>C9 tg m t s) c).1 x=So->x∈(l.foldl (λs t=>C9 tg m t s) c).2\/x∈b::P:=by
   intro l
   induction l with
   |nil=>exact λ_ h=>h
   |cons t l k=>exact λc f=>k _<|ve tg m t c (b::P) f
  rw[nY i];intro x j;obtain a|a:=g (tg b) (YH s.1 b,s.2) (λy d=>by
   rw[Z8,dI,bD]at d;rcases d with rfl|d;·exact aZ sP
   rcases h y d with a|a;·exact bC a
   exact aZ<|by simp[a]) x j
  .exact bC<|by simp[a]
  obtain rfl|a:=cH.1 a;·exact bC sP
  exact aZ a
theorem vt(tg:Yr){n}(f:∀b,b<n->∀t∈tg b,t<n):∀(m b:N)(s:Wk×Wa),b<n->(∀x∈s.2,x<n)->∀x∈(C9 tg m b s).2,x<n
 |0,_,_,_,h=>h
 |m+1,b,s,hb,h=>by
  by_cases e:Xh s.1 b=So;·rw[Vd e];exact h
  have j:Xh s.1 b=Sn:=by simpa using e
  have i:∀(l:Wa)(c:Wk×Wa),(∀t∈l,t<n)->(∀x∈c.2,x<n)->∀x∈(l.foldl (λs t=>C9 tg m t s) c).2,x<n:=by
   intro l
   induction l with
   |nil=>exact λ_ _ h=>h
   |cons t l k=>exact λc d g=>k _ (λq hq=>d q<|by simp[hq]) (vt tg f m t c (d t sP) g)
  rw[nY j];intro x a;obtain a|a:=bU.1 a;·exact i (tg b) (YH s.1 b,s.2) (f b hb) h x a
  have:x=b:=by simpa using a
  omega
theorem BD(tg:Yr){s:Wk×Wa}(b:k<n)(d:XB s.1 n<=m):Xh (C9 tg m k s).1 k=So:=by
 cases m with
 |zero=>exact KB tg 0 k s k<|T8 O b
 |succ m=>
  by_cases a:Xh s.1 k=So;·exact KB tg _ k s k a
  have c:Xh s.1 k=Sn:=by simpa using a
  rw[nY c];exact Ue tg m _ _ k<|by rw[Z8];simp
def Ut(W:Wk)(q:N×Wc×Wc):Wk:=E2 (Js W<|X9 q.2.2) (X9 q.2.1)
def Uo(W:Wk)(q:N×Wc×Wc):Wk:=E2 W<|X9 q.2.2
def OS(x:Xe)(W:Wk):Wk:=(NS x).foldl Ut W
def OU(x:Xe):Wk:=(NS x).foldl Uo λ_=>0
theorem FR(h:XA f):XA (OS q f):=by
 unfold OS;generalize NS q=l
 induction l generalizing f with
 |nil=>exact h
 |cons b l a=>exact a<|Zs _ (JX _ h)
theorem JW:XA (λ_=>0):=λ_=>by show 0<_;decide
theorem uG{l:List (N×Wc×Wc)}(h:XA f):XA (l.foldl Uo f):=by
 induction l generalizing f with
 |nil=>exact h
 |cons q l a=>exact a<|Zs _ h
theorem Fg:XA (OU q):=uG JW
structure O2(p:VD)(k:N)(d:PE):Prop where
 wi:∀i (h:i<J p.8),i<k->d.3 i=OS p.8[i] (p.WO i)
 wd:∀i (h:i<J p.8),d.4 i=if i<k then OU p.8[i]else λ_=>0
 mem:∀x,Xh d.6 x=So->x∈d.8
 sn:∀i,i<k->Xh d.6 i=So
 lt:∀x∈d.8,x<p.n
 wok:XA d.6
 len:J d.8+XB d.6 p.n<=p.n
theorem CN(p):O2 p 0 ⟨λ_=>0,λ_=>0,λ_ _=>0,λ_ _=>0,λ_=>Hq,λ_=>0,Hq,[]⟩ :=
 ⟨λi _ h=>Sz h O,λi _=>sP,λx h=>by simp[Z3]at h,λi h=>Sz h O,λx h=>Sz h eA,JW,by simpa using ZA (λ_=>0) p.n⟩
theorem O2.next{p d}(h:O2 p n d)(c:n<p.n)(g:∀f,f<p.n->∀t∈X8 p.8 f,t<p.n)(k j nx v){I' D'}(s:n<J p.8)(m:I'=OS p.8[n] (p.WO n))(l:D'=OU p.8[n]):
 O2 p (n+1) ⟨k,j,ix d.3 n I',ix d.4 n D',nx,(C9 (X8 p.8) p.n n (d.6,d.8)).1,v,(C9 (X8 p.8) p.n n (d.6,d.8)).2⟩:=by
 refine⟨λi a r=>?_,λi a=>?_,λx o=>?_,λi a=>?_,?_,oW _ _ _ _ h.6,aJ (qE _ g _ _ _ c) h.7⟩
 .by_cases e:i=n;·subst e;simp only[Zt];exact m
  simp only[Zb _ _ e];exact h.1 i a O
 .by_cases e:i=n;·subst e;simp only[Zt];rw[aU O];exact l
  simp only[Zb _ _ e];rw[h.2 i a];by_cases e2:i<n;·rw[aU e2,aU O]
  rw[aM e2,aM O]
 .rcases ve (X8 p.8) p.n n (d.6,d.8) [] (λy q=>bC<|h.3 y q) x o with b|b;·exact b
  cases b
 .by_cases e:i=n;·subst e;exact BD _ c<|ZA _ _
  exact KB _ _ _ _ _<|h.4 i O
 exact vt _ g _ _ _ c h.5
def H7(y:Yg):I:=if dB y.1 then y.2 else -1
def Ya(v:I)(fin:Bool):List Yg->N
 |[]=>if fin then 1 else 0
 |y::ys=>if Cg (Iw y) v then 1 else if H7 y=v then 2 else Ya v fin ys
def NA(x:Xe)(a:Wc)(v:I):N:=Ya v (Cg (Id x.3) v||Cg a v) x.2
def pd(W:Wk)(y:Yg):Wk:=E2 (Js W<|X9 (BW y)) (X9<|Iw y)
theorem XD:Cg l t=So↔t∈l:=by unfold Cg;exact eY
theorem Cb{y}(a:∀v∈Iw y,0<=v)(b:∀v∈BW y,0<=v)(v):Xh (pd f y) v=So↔(v:I)∈Iw y\/((v:I)∉BW y/\Xh f v=So):=by unfold pd;rw[YR,Kt,dI,bD,YV a,bY,bD,YV b]
theorem YN{y}:H7 y=(n:I)↔(n:I)∈BW y:=by
 unfold H7 BW;by_cases e:dB y.1=So;·rw[aU e,aU e];simp[nJ]
 rw[aM e,aM e];simp
theorem xe{v W}:∀(a:Vr),(∀y∈a,(∀v∈Iw y,0<=v)/\∀v∈BW y,0<=v)->(Xh (a.foldr (λy c=>pd c y) W) v=So↔Ya (v:I) (Xh W v) a=1)
 |[],_=>by unfold Ya;cases h:Xh W v<;>simp[h]
 |y::a,hy=>by
  have e:=xe (v:=v) (W:=W) a λz d=>hy z<|cN _ d;have b:=hy y cI;rw[List.foldr_cons,Cb b.1 b.2,e];show _↔(if Cg (Iw y) (v:I)then 1 else if H7 y=(v:I)then 2 else Ya v (Xh W v) a)=1;by_cases e1:(v:I)∈Iw y;·rw[aU<|XD.2 e1];simp[e1]
  rw[aM λh=>e1<|XD.1 h];by_cases e2:(v:I)∈BW y;·rw[aU<|YN.2 e2];simp[e1,e2]
  rw[aM λh=>e2<|YN.1 h];simp[e1,e2]
theorem Ev{a b:Type}{l:List a}(g:Fin (J l)->b):(Us (J l) 0).map g=((List.finRange (J l)).map g).reverse:=by unfold Us;rw[aW sP,List.map_reverse]
theorem E8{a:Type}(l:List a):(List.finRange (J l)).map (λj=>l[j])=l:=by
 apply mG;·simp
 intro i b c;simp
theorem Ex:((Us (J q.2) 0).map (VH q)).foldl Ut f=q.2.foldr (λy a=>pd a y) f:=by
 rw[Ev,List.foldl_reverse]
 conv=>rhs;rw[<-E8 q.2]
 rw[List.foldr_map,List.foldr_map];rfl
theorem vB(h:∀y∈q.2,(∀n∈Iw y,0<=n)/\∀n∈BW y,0<=n)(d:∀n∈Id q.3,0<=n)(c:∀p∈q.1,0<=p.1):
 Xh (OS q f) n=So↔(n:I)∉q.1.map Ph.dst/\Ya (n:I) (Cg (Id q.3) (n:I)||Xh f n) q.2=1:=by
 unfold OS NS;rw[iM,dT,iM,List.foldl_nil,Ex];have b:∀n∈q.1.map Ph.dst,0<=n:=λn g=>by obtain⟨p,a,rfl⟩:=aY.1 g;exact c p a
 show Xh (E2 (Js _<|X9 (q.1.map Ph.dst)) (X9 [])) n=So↔_;rw[YR,Kt,dI,bD,bY,bD,YV b];rw[xe q.2 h];have e:Xh (Ut f (J q.2+1,Id q.3,[])) n=(Cg (Id q.3) (n:I)||Xh f n):=by show Xh (E2 (Js f<|X9 []) (X9<|Id q.3)) n=_;rw[YR,Kt,eQ,dI,dI,bD,YV d,XD];simp[X9]
 rw[e];simp[X9]
theorem WK(d:∀y∈q.2,∀n∈BW y,0<=n)(i:∀p∈q.1,0<=p.1):Xh (OU q) n=So↔(n:I)∈q.1.map Ph.dst\/∃y∈q.2,(n:I)∈BW y:=by
 have f:∀(l:List (N×Wc×Wc))(W:Wk),Xh (l.foldl Uo W) n=So↔Xh W n=So\/∃b∈l,n∈X9 b.2.2:=by
  intro l
  induction l with
  |nil=>intro W;simp
  |cons b l m=>
   intro W;rw[iM,m];unfold Uo;rw[YR,dI,bD];simp only[cH,exists_eq_or_imp];constructor
   .rintro((h|h)|h);·exact aZ<|bC h
    .exact bC h
    exact aZ<|aZ h
   rintro(h|h|h);·exact bC<|aZ h
   .exact bC<|bC h
   exact aZ h
 have c:∀n∈q.1.map Ph.dst,0<=n:=λn a=>by obtain⟨p,e,rfl⟩:=aY.1 a;exact i p e
 unfold OU;rw[f,Z3];unfold NS;constructor
 .rintro(h|⟨b,hq,a⟩);·cases h
  obtain rfl|hq:=cH.1 hq;·simp[X9]at a
  obtain hq|hq:=bU.1 hq
  .obtain⟨j,_,rfl⟩:=aY.1 hq;exact aZ ⟨q.2[j],aH _,(YV<|d _ (aH _)).1 a⟩
  rw[cS.1 hq]at a;exact bC<|(YV c).1 a
 rintro(h|⟨y,k,a⟩);·exact aZ ⟨_,tE q,(YV c).2 h⟩
 obtain⟨j,g,rfl⟩:=bR k;exact aZ ⟨_,t6 q ⟨j,g⟩,(YV<|d _ (aH _)).2 a⟩
theorem UQ{v:N}{fin}:∀(c:Vr),Ya (v:I) fin c=0->∀y∈c,(v:I)∉BW y
 |[],_,_,h=>by cases h
 |z::zs,h,y,b=>by
  have a:(if Cg (Iw z) (v:I)then 1 else if H7 z=(v:I)then 2 else Ya v fin zs)=0:=h;by_cases e1:Cg (Iw z) v=So;·rw[aU e1]at a;cases a
  rw[aM e1]at a;by_cases e2:H7 z=(v:I);·rw[aU e2]at a;cases a
  rw[aM e2]at a;obtain rfl|b:=cH.1 b;·exact λd=>e2<|YN.2 d
  exact UQ zs a y b
theorem Ud{v:N}{fin:Bool}:∀(a:Vr),(∀y∈a,(v:I)∉BW y)->Ya (v:I) fin a≠2
 |[],_=>by unfold Ya;split<;>simp
 |z::zs,h=>by
  show(if Cg (Iw z) (v:I)then 1 else if H7 z=(v:I)then 2 else Ya v fin zs)≠2;by_cases e1:Cg (Iw z) v=So;·rw[aU e1];simp
  rw[aM e1,aM λe2=>h z cI<|YN.1 e2];exact Ud zs λy b=>h y<|cN _ b
theorem Vg{v:I}{fin:Bool}:∀(a:Vr),Ya v fin a<=2
 |[]=>by unfold Ya;split<;>simp
 |z::zs=>by
  show(if Cg (Iw z) v then 1 else if H7 z=v then 2 else Ya v fin zs)<=2;split
  .decide
  split
  .decide
  exact Vg zs
theorem TV{v fin}:∀(c:Vr),Ya v fin c=1->fin=So\/∃y∈c,v∈Iw y
 |[],h=>by have a:(if fin then 1 else 0)=1:=h;cases fin<;>simp_all
 |z::zs,h=>by
  have a:(if Cg (Iw z) v then 1 else if H7 z=v then 2 else Ya v fin zs)=1:=h;by_cases e1:Cg (Iw z) v=So;·exact aZ ⟨z,cI,XD.1 e1⟩
  rw[aM e1]at a;by_cases e2:H7 z=v;·rw[aU e2]at a;cases a
  rw[aM e2]at a;obtain b|⟨y,d,b⟩:=TV zs a;·exact bC b
  exact aZ ⟨y,cN _ d,b⟩
def G2(a:List Xe)(p t:I):List I:=match a[t.toNat]? with
 |none=>[]
 |some x=>if x.1=[]then []else (Rg (J (AQ a 0 t))).flatMap λi=>if (AQ a 0 t).getD i 0=p then x.1.map (λh=>h.2.getD i 0)else []
def XP(a:List Xe)(b:N):List I:=match a[b]? with
 |none=>[]
 |some x=>x.3.tg.flatMap<|G2 a (b:I)
theorem KE(q:Jy n x)(l:m<J x):(k:I)∈XP x m↔(m,k)∈Nr x (J x):=by
 have j:=λL P t a=>(q.1.3 L P t a).1
 have T:(k:I)∈XP x m↔∃t:N,∃a:t<J x,∃i,i<J (XX x (J x) t)/\(XX x (J x) t).getD i 0=m/\∃p∈x[t].1,p.2.getD i 0=(k:I):=by
  unfold XP;rw[aC l];simp only[bV];constructor
  .rintro⟨t,a,d⟩;have u:=q.1.3 _ (aH l) t a;obtain⟨h,rfl⟩:=bX u.1;have y:h<J x:=oN u.2;refine⟨h,y,?_⟩;unfold G2 at d;rw[dM,aC y]at d;simp only at d;by_cases e:x[h].1=[];·rw[aU e]at d;cases d
   rw[aM e]at d;let⟨i,c,b⟩:=bV.1 d;rw[K9 j]at c b;have v:i<J (XX x (J x) h):=by simpa [Xi]using c
   by_cases e2:(Xi<|XX x (J x) h).getD i 0=(m:I)
   .rw[aU e2]at b;let⟨p,f,s⟩:=aY.1 b;refine⟨i,v,?_,p,f,s⟩;simp only[Xi,bF,dX,aC v,jY,gR]at e2 |-;have:((XX x (J x) h)[i]:I)=(m:I):=e2;omega
   rw[aM e2]at b;cases b
  rintro⟨t,a,i,c,g,p,b,f⟩
  have V:m∈XX x (J x) t:=by rw[<-g,bF,aC c];exact aH c
  have F:(t:I)∈x[m].3.tg:=by have:=(Uf.1 V).2;rw[Km l]at this;let⟨K,r,e⟩:=aY.1 this;have:=j _ (aH l) K r;rw[show(t:I)=K by omega];exact r
  refine⟨(t:I),F,?_⟩;unfold G2;rw[dM,aC a];simp only;rw[aM (λe=>by rw[e]at b;cases b),K9 j];refine bV.2 ⟨i,by simpa [Xi]using c,?_⟩;rw[aU (by simp only[Xi,bF,dX,aC c,jY,gR]at g |-;show((XX x (J x) t)[i]:I)=(m:I);rw[g])]
  exact aY.2 ⟨p,b,f⟩
 rw[T];unfold Nr PW Og;rw[bV];constructor
 .rintro⟨t,a,i,c,g,p,b,f⟩;refine⟨t,bE.2 a,?_⟩;rw[aC a];refine bV.2 ⟨p,b,?_⟩;have z:=(q.9 t a p b).1;rw[K9 j]at z;have W:J p.2=J (XX x (J x) t):=by simpa [Xi]using z
  have o:i<J p.2:=O;rw[bF,aC o]at f;rw[bF,aC c]at g;have r:i<J ((XX x (J x) t).zip (X9 p.2)):=by simp[X9];omega
  have e:((XX x (J x) t).zip (X9 p.2))[i]=(m,k):=by rw[List.getElem_zip];simp only[X9,cM];have B:(XX x (J x) t)[i]=m:=g;have C:p.2[i]=(k:I):=f;rw[B,C];rfl
  rw[<-e];exact aH r
 rintro⟨t,a,d⟩;have a:=bE.1 a;rw[aC a]at d;let⟨p,b,f⟩:=bV.1 (show _∈List.flatMap _ x[t].1 from d);let⟨i,c,e⟩:=bR f;rw[List.getElem_zip]at e;have w:i<J (XX x (J x) t):=by simp at c;omega
 have o:i<J p.2:=by simp[X9]at c;omega
 refine⟨t,a,i,w,?_,p,b,?_⟩
 .rw[bF,aC w];exact fI Prod.fst e
 rw[bF,aC o];have s:(X9 p.2)[i]'(by simp[X9];omega)=k:=fI Prod.snd e;simp only[X9,cM]at s;have:=(q.9 t a p b).2 p.2[i] (aH o);show p.2[i]=(k:I);omega
def C7(a:List Xe)(b v:N):N:=match a[b]? with
 |none=>0
 |some x=>NA x (XP a b) (v:I)
def Yo(a:List Xe)(b v:N):Bool:=match a[b]? with
 |none=>Sn
 |some x=>Cg (x.1.map Ph.dst) (v:I)
inductive Nu (xs:List Xe) (v:N):N->Prop
 |root:Nu xs v 0
 |step {b t:N}:Nu xs v b->Yo xs b v=Sn->C7 xs b v=0->t∈X8 xs b->Nu xs v t
def N4(a:Wi)(v:N):Prop:=∃b,Nu a v b/\Yo a b v=Sn/\C7 a b v=1
theorem Nu.lt(h:UF x)(a:Nu x n m):m<J x:=by
 induction a with
 |root=>exact h.1
 |step _ _ _ b c=>exact h.tg _ c _ b
theorem EX(d:Jy n x){q:Vp}(P:∀i (h:i<J x),M i=OS x[i] (q i))(C:∀i (h:i<J x),N_ i=OU x[i])(F:∀b,b<J x->∀m,Xh (q b) m=So↔(b,m)∈Nr x (J x)){ord:Vv}(T:∀b,b<J x->ord b){src:Yr}(K:∀b,b<J x->src b=X8 x b):
 Sp M N_ ord src 0 m↔N4 x m:=by
 have B:∀b,b<J x->(Xh (M b) m=So↔Yo x b m=Sn/\C7 x b m=1):=λb a=>by
  have g:=aH a;rw[P b a,vB (λy j=>⟨λz k=>(d.5 _ g y j z k).1,λz k=>(d.6 _ g y j z k).1⟩) (λz k=>(d.7 _ g z k).1) λp o=>(d.8 _ g p o).1];unfold Yo C7 NA;rw[aC a];simp only;have r:Xh (q b) m=Cg (XP x b) (m:I):=by rw[eQ,F b a,XD,KE d a]
  rw[r,<-gU,XD]
 have V:∀b,b<J x->Yo x b m=Sn->C7 x b m=0->Xh (N_ b) m=Sn:=λb a e c=>by
  have g:=aH a;rw[C b a,<-gU,WK (λy j z k=>(d.6 _ g y j z k).1) λp o=>(d.8 _ g p o).1];unfold Yo at e;unfold C7 NA at c;rw[aC a]at e c;simp only at e c;rintro(h|⟨y,j,h⟩);·rw[XD.2 h]at e;cases e
  exact UQ _ c y j h
 have W:∀b,b<J x->Xh (N_ b) m=Sn->Yo x b m=Sn/\C7 x b m≠2:=λb a h=>by have g:=aH a;rw[C b a,<-gU,WK (λy j z k=>(d.6 _ g y j z k).1) λp o=>(d.8 _ g p o).1]at h;unfold Yo C7 NA;rw[aC a];simp only;refine⟨?_,Ud _ λy j c=>h<|aZ ⟨y,j,c⟩⟩;rw[<-gU,XD];exact λc=>h<|bC c
 constructor
 .intro h
  have w:∀b l,Sp M N_ ord src b l->l=m->Nu x m b->N4 x m:=by
   intro b l u
   induction u with
   |init e=>rintro rfl f;exact⟨_,f,(B _<|f.lt d.1).1 e⟩
   |@take b K_ l e c L s v=>
    rintro rfl f;have a:=f.lt d.1;have t:=W b a s;have J_:C7 x b l<=2:=by
     unfold C7;split;·exact aN
     exact Vg _
    by_cases r:C7 x b l=1;·exact⟨b,f,t.1,r⟩
    exact v R<|Nu.step f t.1 (oN t.2) (by rw[<-K b a];exact c)
  exact w 0 m h R Nu.root
 rintro⟨b,f,e,c⟩
 have w:∀b,Nu x m b->Sp M N_ ord src b m->Sp M N_ ord src 0 m:=by
  intro b f
  induction f with
  |root=>exact λh=>h
  |@step b L_ e c L s v=>
   intro u;have a:=e.lt d.1;exact v<|Sp.take (T b a) (by rw[K b a];exact s) u (V b a c L)
 exact w b f<|Sp.init ((B b<|f.lt d.1).2 ⟨e,c⟩)
theorem wH(a:Jy n x)(j:N4 x m):m<n:=by
 let⟨u,o,_,b⟩:=j;have f:=o.lt a.1;have h:=aH f;unfold C7 NA at b;rw[aC f]at b;simp only at b;obtain d|⟨y,q,d⟩:=TV _ b
 .rcases dI _ _▸d with e|e;·have:=(a.7 _ h _<|XD.1 e).2;omega
  have g:=(KE a f).1 (XD.1 e);unfold Nr PW Og at g;let⟨t,c,i⟩:=bV.1 g;have c:=bE.1 c;rw[aC c]at i;let⟨s,p,k⟩:=bV.1 (show _∈List.flatMap _ x[t].1 from i);have l:=List.of_mem_zip k;let⟨z,r,v⟩:=aY.1 l.2;have:=(a.9 t c s p).2 z r;omega
 have:=(a.5 _ h y q _ d).2;omega
section
structure OI(xs:Wi)(v:N)(td:Wa)(i:N):Prop where
 nd:td.Nodup
 op:∀x∈td,Nu xs v x
 z:0∈td
 dn:∀j (h:j<J td),j<i->Yo xs td[j] v=So\/(C7 xs td[j] v≠1/\(C7 xs td[j] v=0->∀t∈X8 xs td[j],t∈td))
section
variable {xs: Wi} {v: N} {td: Wa} {i: N}
theorem Ci:OI xs v [0] 0:=⟨sP,λx a=>(cS.1 a)▸Nu.root,sP,λj _ h=>Sz h O⟩
theorem OI.go(h:OI xs v td i)(c:i<J td)(a:Yo xs td[i] v=So\/(C7 xs td[i] v≠1/\(C7 xs td[i] v=0->∀t∈X8 xs td[i],t∈td))):OI xs v td (i+1) :=
 ⟨h.1,h.2,h.z,λj b d=>if e:j=i then by subst e;exact a else h.4 j b O⟩
theorem OI.push(h:OI xs v td i)(f:i<J td)(l:Yo xs td[i] v=Sn)(c:C7 xs td[i] v=0){t}(m:t∈X8 xs td[i])(k:t∉td):OI xs v (td++[t]) i:=by
 refine⟨?_,λx a=>?_,by simp[h.z],λj r g=>?_⟩
 .rw[gW];exact⟨h.1,sP,λo ha p d=>(cS.1 d)▸λe=>k (e▸ha)⟩
 .rcases bU.1 a with a|a;·exact h.2 x a
  rw[cS.1 a];exact Nu.step (h.2 _<|aH f) l c m
 have b:j<J td:=O;rw[fA b];obtain q|⟨q1,q2⟩:=h.4 j b g;·exact bC q
 exact aZ ⟨q1,λe u n=>dD _<|q2 e u n⟩
theorem OI.none(h:OI xs v td i)(k:J td<=i):¬N4 xs v:=by
 rintro⟨b,c,d,e⟩;have f:∀b,Nu xs v b->b∈td:=λb c=>by
  induction c with
  |root=>exact h.z
  |step _ q1 q2 q3 g=>
   obtain⟨j,a,rfl⟩:=bR g;obtain q|q:=h.4 j a O;·rw[q]at q1;cases q1
   exact q.2 q2 _ q3
 obtain⟨j,a,rfl⟩:=bR<|f b c;obtain q|q:=h.4 j a O;·rw[q]at d;cases d
 exact q.1 e
theorem OI.hit(h:OI xs v td i)(b:i<J td)(c:Yo xs td[i] v=Sn)(a:C7 xs td[i] v=1):N4 xs v:=⟨_,h.2 _<|aH b,c,a⟩
theorem OI.lt(h:OI xs v td i)(a:UF xs):∀x∈td,x<J xs:=λx b=>(h.2 x b).lt a
end
end
theorem Cr{go}(h:Pp w v n p m c k x B g i go M)(T:Z v.1<=j)(F:Sw (Z v.1) v u)(t:XK u j m k f (λ_=>k) λ_ _=>0)(V:∀b,b<m->Z v.1<=f b){l o}(K:Z u.1+2<=l)(L_:Z u.1+2<=o)(q:Sw (Z u.1+2) (D (D u<|Sc #[X (S ⟨j,0,U⟩) m m] 120) (Sc (madeCells #[X U 0 0] m) 26)) W)(r:YW W l o (Z W.1) ((m+63)/64) p m c (λ_=>0) (X U 0 0) []):
 PO ⟨w,n,m,c,k,(m+63)/64,p,x,B,g,i,Z u.1,j,Z u.1+1,l,o,Z v.1,Z u.1,Z W.1,go,f,M⟩/\Oi ⟨w,n,m,c,k,(m+63)/64,p,x,B,g,i,Z u.1,j,Z u.1+1,l,o,Z v.1,Z u.1,Z W.1,go,f,M⟩ W 0 ⟨λ_=>0,λ_=>0,λ_ _=>0,λ_ _=>0,λ_=>X U 0 0,λ_=>0,X U 0 0,[]⟩:=by
 have S_:=F.4;have Q_:Z (D (D u<|Sc #[X (S ⟨j,0,U⟩) m m] 120) (Sc (madeCells #[X U 0 0] m) 26)).1=Z u.1+2:=sP;have I_:Sw (Z u.1) u (D (D u<|Sc #[X (S ⟨j,0,U⟩) m m] 120) (Sc (madeCells #[X U 0 0] m) 26)):=Xb (Xb Rf _) _;have T_:Z u.1+2<=Z W.1:=oN q.4
 have C:=I_.trans<|q.mono O;have e:=Xg F C;have R_:=h.1.4;have y:=h.7.lt;have z:=aI v _ h.8;have H_:=h.o.1.lt;have F_:=h.b1;have b2:=h.b2;have G_:=h.b3;have O_:(D (D u<|Sc #[X (S ⟨j,0,U⟩) m m] 120) (Sc (madeCells #[X U 0 0] m) 26)).rowIs (Z u.1+1) 26 m (λ_=>X U 0 0):=by have:=dG (D u<|Sc #[X (S ⟨j,0,U⟩) m m] 120) (X U 0 0) m 26;rwa[aO]at this
 have d:∀s:Addr,s.1<Z v.1->E W s=E v s:=λs P_=>e.cell P_;have L:g<Z v.1:=z;refine⟨⟨⟨F_,y⟩,⟨b2,z⟩,⟨G_,H_⟩,λb a=>⟨h.b4 b a,(h.o.2 b a).lt⟩,h.d1,h.d2,h.d3,h.d4,⟨T,t.1.lt⟩,λb a=>⟨V b a,(t.2 b a).lt⟩,R,R,⟨K,r.7⟩,⟨L_,r.8⟩,r.9⟩,?_⟩;refine⟨Xg h.1 e,aA,G (d _<|by show Z w.1<_;omega) h.2,G (d _<|by show Z w.1<_;omega) h.3,G (d _<|by show Z w.1+1<_;omega) h.4,G (d _<|by show Z w.1+1<_;omega) h.5,λP=>G (e.frozen (p:=A (Z w.1+1) P) (by show Z w.1+1<_;omega)) (h.6 P),G (d _ L) h.8,G (d _ L) h.9,G (q.cell (p:=A (Z u.1) 0) (by show Z u.1<_;omega)) SC,h.o.keep e,(h.7.of_block<|e.5 _ y).congr λb _=>sP,λb a=>Sz a O,λb U_ a=>Sz a O,λb a=>Sz a O,t.keep C,(O_.of_block<|q.5 _ O).congr λb _=>sP,λb a=>Sz a O,r,λb a=>Sz a O⟩
structure OO(w4:Ub)(gB gD Kw CB:N)(W0:Wk)(pre:List Pl)(V:Ub):Prop where
 os:V.4=w4.4
 tape:V.2=w4.2
 output:V.5=w4.5
 size:Z w4.1<=Z V.1
 fr:∀q,q<Z w4.1->q≠gB->q≠gD->V.1[q]?=w4.1[q]?
 ws:Cp V gB Kw CB ((pre.map Pl.dat).foldl Ut W0)
 wd:Cp V gD Kw Kw ((pre.map Pl.dat).foldl Uo λ_=>0)
theorem OO.own(j:n<Z w.1)(l:m<Z w.1):OwnFrom (Z w.1) (OO w n m k B f):=λr t V row h a q=>by have o:=h.4;have c:∀b,b<Z w.1->V.1[b]?=t.1[b]?:=λb p=>a.5 b O (λe=>by have:=(q b e.symm).1;omega);exact⟨G a.1 h.1,G a.2 h.2,G a.3 h.3,aJ o a.4,λb d g i=>G (c b d) (h.5 b d g i),h.6.of_block<|c n j,h.7.of_block<|c m l⟩
theorem OO.below(b:n<Z w.1)(c:m<Z w.1){a}(h:OO w n m k B f a v)(d:Sw (Z v.1) v u):OO w n m k B f a u:=XO (OO.own b c) h d
theorem Ec{l:List (N×Wc×Wc)}(h:XA f):XA (l.foldl Ut f):=by
 induction l generalizing f with
 |nil=>exact h
 |cons q l a=>exact a<|Zs _ (JX _ h)
theorem OO.next{gB CB d}(h:OO w gB n m CB f d v)(k:gB<Z w.1)(i:gB≠n){p}(b:v.grownBy u (S gB))(c:u.grownBy W (S gB))(a:W.grownBy V (S n))(j:Cp W gB m CB (Ut ((d.map Pl.dat).foldl Ut f) p.dat))(g:Cp V n m m (Uo ((d.map Pl.dat).foldl Uo λ_=>0) p.dat)):OO w gB n m CB f (d++[p]) V:=by
 have l:=h.4;have o:=b.4;have r:=c.4;have s:=a.4;refine⟨G a.1<|G c.1 (G b.1 h.1),G a.2<|G c.2 (G b.2 h.2),G a.3<|G c.3 (G b.3 h.3),O,λq q1 q2 q3=>?_,?_,?_⟩;·exact G (a.5 q O λe=>q3<|by injection e) (G (c.5 q O λe=>q2<|by injection e) (G (b.5 q O λe=>q2<|by injection e) (h.5 q q1 q2 q3)))
 .rw[bG,dT];exact j.of_block<|a.5 gB O λe=>i<|by injection e
 rw[bG,dT];exact g
theorem tC{row:Zm}(h:Xf w n (Z w.1) p l)(k:w.grownBy v row)(t:∀r,row=S r->m<=r/\∃o:Obj,w.1[r]?=S o/\o.isCells=Sn):Xf v n (Z v.1) p l:=λq j=>by let⟨b,o,f,c,e⟩:=h q j;refine⟨b,o,f,⟨c.1,aX c.2 k.4⟩,G (Xc<|k.5 b c.2 λe2=>?_) e⟩;let⟨s,g,i⟩:=Yn e;let⟨_,u,a,d⟩:=t b e2.symm;rw[show w.1[b]?=S s from g]at a;injection a with a;subst a;rw[i]at d;cases d
theorem qn(n b)(a:N×Wc×Wc->Prop):OwnFrom n (og b a):=λ_ _ _ _ h k q=>⟨h.1,tC h.2.1 k q,tC h.2.2 k q⟩
theorem tA{a:N×Wc×Wc->Prop}{p}(h:og n a p w)(k:Sw (Z w.1) w v):og n a p v:=XO (qn 0 n a) h k
theorem YZ(h:Xf w m (Z w.1) p l)(k:w.grownBy v (S n))(f:n<m):Xf v m (Z v.1) p l:=λi d=>by let⟨b,o,e,a,c⟩:=h i d;exact⟨b,o,e,⟨a.1,aX a.2 k.4⟩,G (Xc<|k.5 b a.2 λe2=>by injection e2 with e2;omega) c⟩
structure PM(n₀ bp:N)(p:Pl)(V:Ub):Prop where
 ge:n₀<=bp
 c0:E V ⟨bp,0,U⟩=S (X p.2 (J p.4) p.3)
 c1:E V ⟨bp,1,U⟩=S (X p.5 (J p.7) p.6)
theorem PM.own{p}:OwnFrom n (λ(_:Unit) V=>PM m k p V):=λ_ j V row h g q=>by
 have d:V.1[k]?=j.1[k]?:=by let⟨o,b,f⟩:=Yn h.2;refine g.5 k (aS.1 b).1 λe=>?_;let⟨_,i,a,c⟩:=q k e.symm;rw[show j.1[k]?=S o from b]at a;injection a with a;subst a;rw[f]at c;cases c
 exact⟨h.1,G (Xc d) h.2,G (Xc d) h.3⟩
theorem Zg(k:w.grownBy v (S m))(c:d m)(g:n<=Z w.1):Zf n d w v :=
 ⟨k.4,λi f a=>k.5 i O (λe=>a<|by injection e with e;rw[e];exact c),λi o a b _=>G (k.5 i (aS.1 b).1 λe=>a<|by injection e with e;rw[e];exact c) b⟩
theorem Jc(k:w.grownBy v (S n))(c:∃o:Obj,w.1[n]?=S o/\o.isCells=So):KeepsOthers w v :=
 KeepsOthers.of_grownBy k (λj o e h=>by let⟨d,a,b⟩:=c;injection e with e;subst e;rw[a]at h;injection h with h;rw[<-h];exact b)
theorem Cp.obj(h:Cp w n m k f):∃o:Obj,w.1[n]?=S o/\o.isCells=So:=by let⟨_,T,c,a,_⟩:=h;exact⟨_,a,R⟩
theorem CE{wr}(h:ZJ wr n s)(d:n<=Z wr.1)(e:Z wr.1<=m)(hK:w.1[m]?=S (.deferred (S [])))(b:∀k,n<=k->wr.1[k]?=S (.deferred (S []))->w.1[k]?=wr.1[k]?):ZJ w n (m::s):=by
 have c:=λk a=>(aS.1<|h.3 k a).1;refine⟨fL.2 ⟨λk=>by have:=c m k;omega,h.1⟩,λk a=>?_,λk a=>?_⟩
 .rcases cH.1 a with rfl|a;·omega
  exact h.2 k a
 obtain rfl|a:=cH.1 a;·exact hK
 exact G (b k (h.2 k a) (h.3 k a)) (h.3 k a)
def Pn(V:N)(q:N×Wc×Wc):Prop:=(∀v∈q.2.1,0<=v/\v<V)/\(∀v∈q.2.2,0<=v/\v<V)/\J q.2.1<=4000/\J q.2.2<=4000
theorem qF(a:Jy n x)(c:q∈x):∀d∈NS q,Pn n d:=λd hq=>by
 unfold NS at hq;have h:J (Id q.3)<=1:=by unfold Id;split<;>simp
 obtain rfl|hq:=cH.1 hq;·exact⟨a.7 q c,λv b=>Sz b eA,by show J (Id q.3)<=_;omega,sP⟩
 obtain hq|hq:=bU.1 hq
 .obtain⟨j,_,rfl⟩:=aY.1 hq;have f:=oU q.2[j];have g:J (BW q.2[j])<=1:=by unfold BW;split<;>simp
  exact⟨a.5 q c _<|aH _,a.6 q c _<|aH _,by show J (Iw q.2[j])<=_;omega,by show J (BW q.2[j])<=_;omega⟩
 rw[cS.1 hq];refine⟨λv b=>Sz b eA,λv b=>?_,sP,?_⟩
 .obtain⟨p,e,rfl⟩:=aY.1 b;exact a.8 q c p e
 show J (q.1.map Ph.dst)<=_;rw[bK];exact(a.10 q c).2
structure Po(w w':Ub)(n Kw:N)(xs:Wi)(Gi Go:N)(gi go ci:Wk)(WI WX:Vp):Prop where
 low:Sw (Z w.1) w w'
 si:XK w' Gi n Kw gi ci WI
 so:XK w' Go n Kw go (λ_=>Kw) WX
 wi:XQ WI
 wx:XQ WX
 b1:Z w.1<=Gi/\Z w.1<=Go
 b2:∀i,i<n->Z w.1<=gi i/\Z w.1<=go i
 inn:∃(I_ T W0:Vp)(ord:Wa),(∀i (h:i<J xs),I_ i=OS xs[i] (W0 i))/\(∀i (h:i<J xs),T i=OU xs[i])/\(∀b,b<J xs->∀v,Xh (W0 b) v=So↔(b,v)∈Nr xs (J xs))/\(∀b,b<J xs->b∈ord)/\(∀b,b<n->∀x,x<64*Kw->(Xh (WI b) x=So↔Sp I_ T (·∈ord) (X8 xs) b x))/\∀b,b<n->∀x,(Xh (WX b) x=So↔Xh (W0 b) x=So\/∃t∈X8 xs b,Xh (WI t) x=So)
section
theorem Cw{w:Ub}{b e s:N}{v:Uj}{n}{i:Wo}(h:Sx w b e s v n i){g}(a:v.ownBlock=S g):∃o:Obj,w.1[g]?=S o/\o.isCells=So:=by
 obtain⟨_,h|⟨c,j,l,rfl,_,f,_⟩⟩:=h;·rw[h.1]at a;cases a
 have e:c=g:=by simpa [Value.ownBlock]using a
 subst e;exact⟨_,f,R⟩
theorem YW.same{w b a c f K i m j W v L}(h:YW w a c f K i m j W v L)(l:b.1[a]?=w.1[a]?)(n:b.1[c]?=w.1[c]?)(o:∀g,v.ownBlock=S g->b.1[g]?=w.1[g]?)(r:Z w.1<=Z b.1):YW b a c f K i m j W v L:=by have e:∀q,E b (A a q)=E w (A a q):=λq=>bZ l;exact⟨G (e 0) h.1,G (e 1) h.2,G (e 2) h.3,λq=>G (bJ l) (h.4 q),h.5.of_block n,Zl h.6 o,h.7,h.8,h.9,aJ h.sz r⟩
section
variable {p: VD} {wr w4 W w5: Ub} {k: N} {d: PE} {gB CB: N} {ps: List Pl} {u5: Uj}
theorem uJ(g:∀q,q<Z wr.1->q≠p.9->w4.1[q]?=wr.1[q]?)(j:Z wr.1<=Z w4.1)(i:Z wr.1<=gB)(a:OO w4 gB (p.gd k) p.5 CB (p.WO k) ps W)(h:Sw (Z W.1) W w5):
 ∀q,q<Z wr.1->q≠p.9->q≠p.gd k->q≠p.Gn->(Se w5 ⟨p.Gn,k,U⟩ u5).1[q]?=wr.1[q]?:=λq b c e f=>by
 have:=a.4;exact G (cY f) (G (h.5 q O) (G (a.5 q O O e) (g q b c)))
theorem B9(h:Oi p wr k d)(s:PO p)(j:k<p.n)(f:∀q,q<Z wr.1->q≠p.9->w4.1[q]?=wr.1[q]?)(l:Z wr.1<=Z w4.1)(i:Z wr.1<=gB)(b:OO w4 gB (p.gd k) p.5 CB (p.WO k) ps W)(c:Sw (Z W.1) W w5):
 YW (Se w5 ⟨p.Gn,k,U⟩ u5) p.bS p.gS p.M p.6 p.a p.n p.c d.6 d.7 d.8:=by
 have v:=h.2;have a:=uJ (u5:=u5) f l i b c;have m:=s.1;have o:=s.9;have r:=s.a6 k j;have t:=s.a8;have u:=s.a9;have n:=s.14;have w:=b.4;have x:=c.4;refine h.19.same (a _ O O O O) (a _ O O O O) (λg e=>?_) SF;have:=h.19.6.lt g e;exact a g O O O O
theorem Oi.round{j C K M m c5 u}(o:Oi p wr k d)(s:PO p)(hq:O2 p k d)(hm:ZJ wr p.M M)(z:k<p.n)(P:k<J p.8)(ht:∀l,l<p.n->∀al∈X8 p.8 l,al<p.n)(F:∀q,q<Z wr.1->q≠p.9->w4.1[q]?=wr.1[q]?)(w:w4.4=wr.4/\w4.2=wr.2/\w4.5=wr.5)(af:Z wr.1<=Z w4.1)(y:Z wr.1<=gB)(aq:gB<Z w4.1)(T_:w4.rowIs p.9 86 p.n λi=>if i=k then X (S ⟨gB,0,U⟩) p.5 CB else if i<k then X (S ⟨d.1 i,0,U⟩) p.5 (d.2 i)else X U 0 0)(b:OO w4 gB (p.gd k) p.5 CB (p.WO k) ps W)(T:ps.map Pl.dat=NS C)(x:C=p.8[k])(hD:Z w4.1<=K)(V:W.1[K]?=S (.deferred (S [])))(c:Sw (Z W.1) W w5)(aa:Xf w5 (Z W.1) (Z w5.1) m C.3.tg)(a:Vh (Se w5 ⟨p.Gn,k,U⟩ (X m (J C.3.tg) c5)) j p.bS p.gS d.7 u)(hs:YW j p.bS p.gS p.M p.6 p.a p.n p.c (C9 (X8 p.8) p.n k (d.6,d.8)).1 u (C9 (X8 p.8) p.n k (d.6,d.8)).2):
 ∃C_,Oi p j (k+1) C_/\O2 p (k+1) C_/\ZJ j p.M (K::M):=by
 have hz:=o.2;have O_:=uJ (u5:=X m (J C.3.tg) c5) F af y b c;have a1:=s.1;have ap:=s.9;have a6:=s.a6 k z;have a8:=s.a8;have a9:=s.a9;have ao:=s.14;have ar:=b.4;have az:=c.4;have aj:=a.4;rw[Xd]at aj;have t:=λg e=>o.19.6.lt g e
 have L_:∀g,u.ownBlock=S g->d.7.ownBlock=S g\/Z w5.1<=g:=λg e=>by
  obtain q|q:=a.6;·exact bC<|by rw[<-q];exact e
  have:=q g e;rw[Xd]at this;exact aZ this
 have R_:=(aS.1 V).1;have B:∀q,Z wr.1<=q->q<Z w5.1->j.1[q]?=w5.1[q]?:=λq r f=>G (a.5 q (by rw[Xd];exact f) O O λe=>by have:=t q e.symm;omega) (cY<|by show q≠p.Gn;omega);have M_:∀q,q<Z wr.1->q≠p.Gn->q≠p.bS->q≠p.gS->S q≠d.7.ownBlock->j.1[q]?=W.1[q]?:=λq r f h n v=>G (a.5 q SF h n v) (G (cY f) (c.5 q O));have L:∀q,q<p.M->S q≠d.7.ownBlock:=λq hq e=>by have:=t q e.symm;omega
 have I_:=λq r f h n v P_ Q_=>G (a.5 q SF v P_ Q_) (O_ q r f h n);have ad:(ps.map Pl.dat).foldl Ut (p.WO k)=OS p.8[k] (p.WO k):=by rw[T,<-x];rfl
 have ac:(ps.map Pl.dat).foldl Uo (λ_=>0)=OU p.8[k]:=by rw[T,<-x];rfl
 have Z_:Cp j gB p.5 CB (OS p.8[k] (p.WO k)):=by rw[<-ad];exact b.6.of_block<|G (B gB y O) (c.5 gB O)
 have S_:Cp j (p.gd k) p.5 p.5 (OU p.8[k]):=by rw[<-ac];exact b.7.of_block<|M_ _ O O O O (L _ O)
 have U_:=(T_.of_block<|b.5 p.9 O O O).of_block (M_ p.9 O O O O<|L _ O);have V_:w5.rowIs p.Gn 26 p.n (λi=>if i<k then d.5 i else Hq):=by refine((o.17.of_block<|F p.Gn O O).of_block (b.5 p.Gn O O O)).of_block (c.5 p.Gn O)
 have Y_:=(V_.set k<|X m (J C.3.tg) c5).of_block (a.5 p.Gn SF O O (L _ O));have K_:N6 p.8 k=C.3.tg:=by rw[VS P,x]
 refine⟨_,o.next s z (gB:=gB) (CB:=CB) (I':=OS p.8[k] (p.WO k)) (D':=OU p.8[k]) (nk:=X m (J C.3.tg) c5) (v':=u) (Ws':=(C9 (X8 p.8) p.n k (d.6,d.8)).1) (Lf':=(C9 (X8 p.8) p.n k (d.6,d.8)).2) (G a.1<|G c.1 (G b.1 w.1)) (G a.2<|G c.2 (G b.2 w.2.1)) (G a.3<|G c.3 (G b.3 w.2.2)) O I_ y Z_ U_ S_ Y_ ⟨m,c5,by rw[K_],?_⟩ hs ?_ ?_,hq.next z ht _ _ _ _ P R R,CE hm hz O ?_ ?_⟩
 .rw[K_];intro i hi;let⟨l,N_,e,hb,hc⟩:=aa i hi;refine⟨l,N_,e,⟨⟨O,O,λe2=>?_⟩,O⟩,G (Xc<|B l O hb.2) hc⟩;obtain q|q:=L_ l e2.symm;·have:=t l q;omega
  omega
 .rcases a.6 with q|q;·exact bC q
  exact aZ λg e=>by have:=q g e;rw[Xd]at this;omega
 .intro e;obtain q|q:=L_ gB e.symm;·have:=t gB q;omega
  omega
 .exact G (B K O O) (G (c.5 K R_) V)
 intro q r f;have ab:=(aS.1 f).1;refine I_ q ab O O O O O λe=>?_;let⟨N_,h,n⟩:=Cw o.19.6 e.symm;rw[f]at h;injection h with h;rw[<-h]at n;cases n
end
end
section
structure TH(W1:Ub)(G_:N)(wr:Ub)(u:Uj)(l:Wc):Prop where
 os:wr.4=W1.4
 tape:wr.2=W1.2
 output:wr.5=W1.5
 size:Z W1.1<=Z wr.1
 fr:∀q,q<Z W1.1->q≠G_->wr.1[q]?=W1.1[q]?
 own:Sx wr G_ 2 1 u (J l) (l.map<|Si S6)
 here:∀g,u.ownBlock=S g->g=G_\/Z W1.1<=g
section
variable {W1 wr w2: Ub} {G_: N} {u u': Uj} {l: Wc}
theorem TH.start(h:Sx W1 G_ 2 1 u 0 [])(a:∀g,u.ownBlock=S g->g=G_):TH W1 G_ W1 u []:=⟨R,R,R,aA,λ_ _ _=>R,h,λg e=>bC<|a g e⟩
theorem TH.push{x}(h:TH W1 G_ wr u l)(a:wr.grownBy w2 u.ownBlock)(f:Sx w2 G_ 2 1 u' (J l+1) (l.map (Si S6)++[H x]))(d:u'.ownBlock=u.ownBlock\/u'.ownBlock=S (Z wr.1)):TH W1 G_ w2 u' (l++[x]):=by
 have i:=h.4;refine⟨G a.1 h.1,G a.2 h.2,G a.3 h.3,aJ i a.4,λq c b=>G (a.5 q O λe=>?_) (h.5 q c b),?_,λg e=>?_⟩
 .rcases h.7 q e.symm with k|k;·exact b k
  omega
 .rw[Yl,aQ];exact f
 obtain k|k:=d;·exact h.7 g<|by rw[<-k];exact e
 rw[k]at e;injection e with e;exact aZ O
theorem TH.below(h:TH W1 G_ wr u l)(k:Sw (Z wr.1) wr w2):TH W1 G_ w2 u l :=
 ⟨G k.1 h.1,G k.2 h.2,G k.3 h.3,aJ h.4 k.4,λq a b=>G (k.5 q<|aX a h.4) (h.5 q a b),Zl h.6 λg e=>k.5 g (h.6.lt g e).2,h.7⟩
theorem TH.alloc(h:TH W1 G_ wr u l)(o):TH W1 G_ (D wr o) u l:=h.below<|Xb Rf o
theorem TH.cell(h:TH W1 G_ wr u l){b o}{v:Uj}(c:b≠G_)(a:E W1 (A b o)=S v):E wr (A b o)=S v:=G (Xc<|h.5 b (aI W1 _ a) c) a
end
end
def I0(b:Wi)(a:Vp)(i:N):Wk:=(b[i]?).elim (λ_=>0) λx=>OS x<|a i
def T0(a:Wi)(i:N):Wk:=(a[i]?).elim (λ_=>0) OU
theorem wY(h:n<J x):I0 x M n=OS x[n] (M n):=by simp[I0,h]
theorem wT(h:n<J x):T0 x n=OU x[n]:=by simp[T0,h]
theorem Gc(h:XQ M):XQ (I0 x M):=λi=>by
 unfold I0;cases x[i]? with
 |none=>exact JW
 |some a=>exact FR<|h i
theorem FY:XQ (T0 x):=λi=>by
 unfold T0;cases x[i]? with
 |none=>exact JW
 |some a=>exact Fg
theorem cy.congr(h:cy n w m k B f F M)(e:∀i,i<k->M i=N_ i):cy n w m k B f F N_ :=
 ⟨h.1,λi a=>(e i a)▸h.2 i a,h.3,h.o⟩
def jh(a:Wi):List Wa:=(Rg (J a)).map (X8 a)
theorem DD:(λb=>(jh x).getD b [])=X8 x:=by
 funext b;unfold jh;by_cases h:b<J x
 .simp[h]
 simp only[bF,dX];rw[dK<|by simp;omega];unfold X8;rw[dK O];rfl
theorem WM(a:UF x)(h:n<J x):Xi (X8 x n)=N6 x n:=by rw[Km h,VS h];exact Kv λv b=>(a.3 _ (aH h) v b).1
structure Px(p:VD)(gi ci:Wk)(nx:Vu)(ds:Wa)(W:Ub)(WI:Vp):Prop where
 low:Sw (Z p.w.1) p.w W
 sz:p.M<=Z W.1
 f0:E W ⟨Z p.w.1,0,U⟩=S (Si S6 (p.V:I))
 r0:E W ⟨Z p.w.1+1,0,U⟩=S (X U 0 0)
 r1:E W ⟨Z p.w.1+1,1,U⟩=S (X U 0 0)
 rz:∀q,W.frozen? ⟨Z p.w.1+1,q,U⟩=Sn
 l0:E W ⟨p.LB,0,U⟩=S (X (S ⟨p.9,0,U⟩) p.n p.n)
 l1:E W ⟨p.LB,1,U⟩=S (X (S ⟨p.Go,0,U⟩) p.n p.n)
 o:XK W p.Go p.n p.5 p.go (λ_=>p.5) p.WO
 inn:XK W p.9 p.n p.5 gi ci WI
 igM:∀i,i<p.n->p.M<=gi i
 nxr:W.rowIs p.Gn 26 p.n nx
 nxs:∀i,i<p.n->∃a' c',nx i=X a' (J (N6 p.8 i)) c'/\Yv W (λb=>p.M<=b) a' (N6 p.8 i)
 O7:ZJ W p.M ds
 wi:XQ WI
 ord:∃ord:Wa,(∀b,b<p.n->b∈ord)/\∀b,b<p.n->∀x,x<64*p.5->(Xh (WI b) x=So↔Sp (I0 p.8 p.WO) (T0 p.8) (·∈ord) (X8 p.8) b x)
theorem Oi.spread{p d}(h:Oi p w p.n d)(j:PO p)(q:O2 p p.n d)(P:ZJ w p.M s)(y:Jy p.V p.8)(L:p.n=J p.8)(ab:XQ p.WO)(S_:p.5<=100):
 ∃m C,d.7=X (S ⟨m,0,U⟩) (J d.8) C/\Sk prog 108 #[X (S ⟨m,0,U⟩) (J d.8) C,X (S ⟨p.Gn,0,U⟩) p.n p.n,X (S ⟨p.9,0,U⟩) p.n p.n,X (S ⟨p.Gd,0,U⟩) p.n p.n] w.drew λe r=>e=Rt (St #[])/\(∃O_,Px p d.1 d.2 d.5 s r O_)/\(∀b,b<Z w.1->b<p.M->r.1[b]?=w.1[b]?):=by
 have hz:=h.2;have az:1<=p.n:=oN y.1.1;have a0:p.n<=1000:=oN y.1.2;have W:=eJ<|q.3 0 (q.4 0 O);have T_:J d.8<=1000:=oN q.7
 let⟨m,C,N_,hg,_⟩:=Xm h.19.6 W;refine⟨m,C,N_,?_⟩;have M:=h.19.6;rw[N_,show Je d.8=(Xi d.8).map (Si S6) by simp[Je,Xi]]at M;let⟨a1,c1,e1,U_⟩:=Xk M;injection e1 with e1 e2 e3;subst e1;have aj:=j.1;have ap:=j.9;have aq:=j.a8;have ar:=j.a9;have t:XK w p.9 p.n p.5 d.1 d.2 (I0 p.8 p.WO):=⟨h.12.congr λi a=>by rw[aU a],λi a=>by rw[wY O,<-q.1 i O a];exact h.13 i a,h.14,λi a e=>by have:=h.15 i a;omega⟩;have u:XK w p.Gd p.n p.5 p.gd (λ_=>p.5) (T0 p.8):=h.16.congr (λi a=>by rw[wT O,q.2 i O,aU a]);have X_:∀i,i<p.n->E w (A p.Gn<|0+i)=S (d.5 i):=λi a=>by rw[aV];exact G (h.17.cell a) (by rw[aU a])
 have Z_:TA w (λac=>∀i,i<p.n->ac≠d.1 i) (S ⟨p.Gn,0,U⟩) ((jh p.8).map Xi):=λi a=>by
  have x:i<J p.8:=by simpa [jh]using a
  have K:i<p.n:=O;let⟨z,T,e,F⟩:=h.18 i K;have H_:((jh p.8).map Xi)[i]=N6 p.8 i:=by simp only[cM,jh,dW];exact WM y.1 x
  refine⟨p.Gn,0,R,⟨λl k e=>by have:=h.15 l k;omega,h.17.lt⟩,z,T,?_,?_⟩;·rw[H_,X_ i K,e]
  rw[H_];intro l k;let⟨b,o,e2,c,V⟩:=F l k;exact⟨b,o,e2,⟨c.1.2.1,c.2⟩,V⟩
 refine(Az m 0 (J d.8) C d.8 p.M (Z w.1) (S ⟨p.Gn,0,U⟩) p.n p.n (jh p.8) p.9 p.Gd p.n p.5 d.1 p.gd d.2 (λ_=>p.5) (I0 p.8 p.WO) (T0 p.8) w.drew (Y U_) (Y R) T_ W (Y Z_) (Y<|by simp[jh];exact L) (Y<|by simp[jh];exact L.symm) S_ aA (Y ⟨t.1,λi a=>(t.2 i a).drew,t.3,t.o⟩) (Y ⟨u.1,λi a=>(u.2 i a).drew,u.3,u.o⟩) (Y<|Gc ab) (Y FY) (Y λi a=>by have:=h.15 i a;omega) (Y λi l a k=>by have:=h.15 l k;have:=j.a6 i a;omega) (Y q.5) (Y λa2 W_=>?_)).mono ?_
 .obtain⟨i,a,rfl⟩:=aY.1 W_;have x:=bE.1 a;refine⟨?_,λad ht=>by have:=y.1.tg i x ad ht;omega⟩;rw[Km x,bK];have:=KJ p.8[i].3;omega
 rintro e r⟨rfl,n,P_,aa,Y_,V_⟩;have g:U8 w r p.n d.1:=⟨n.1,n.2,n.3,n.4,n.5⟩;have f:∀b,b<p.M->r.1[b]?=w.1[b]?:=λb c=>g.5 b O (λi a e=>by have:=h.15 i a;omega);have hw:=h.1.4;have al:=j.2;have ao:=j.3;refine⟨R,⟨P_,⟨⟨G g.1 h.1.1,G g.2 h.1.2,G g.3 h.1.3,aJ hw g.4,λb c=>G (f b O) (h.1.5 b c)⟩,aJ hz g.4,G (Xc<|f _ O) h.3,G (Xc<|f _ O) h.5,G (Xc<|f _ O) h.6,λo=>by rw[bJ (a:=(A (Z p.w.1+1) o)) (f (Z p.w.1+1) O)];exact h.7 o,G (Xc<|f _ O) h.8,G (Xc<|f _ O) h.9,⟨h.o.1.of_block<|f _ O,λi a=>(h.o.2 i a).of_block (f _<|oN (j.4 i a)),h.o.3,h.o.o⟩,Y_,h.15,(h.17.of_block<|f _ O).congr λi a=>by rw[aU a],λi a=>?_,⟨P.1,P.2,λG_ R_=>?_⟩,aa,d.8,λb c=>q.3 b<|q.4 b c,λb c af hx=>?_⟩⟩,λb h1 Q_=>f b Q_⟩
 .let⟨z,T,e,F⟩:=h.18 i a;refine⟨z,T,e,λl k=>?_⟩;let⟨b,o,e2,c,V⟩:=F l k;exact⟨b,o,e2,⟨c.1.1,aX c.2 g.4⟩,G (Xc<|g.5 b c.2 c.1.2.1) V⟩
 .have B:=P.3 G_ R_;refine G (g.5 G_ (aS.1 B).1 λi a e=>?_) B;let⟨o,v,I_⟩:=(h.13 i a).obj;rw[<-e,B]at v;injection v with v;rw[<-v]at I_;cases I_
 rw[<-DD];exact V_ b c af hx
def it(a:Vp)(l:Wa)(W:Wk):Wk:=l.foldl (λW t=>NR W (a t) λ_=>0) W
theorem qM{a:Vp}(h:XQ a):∀(l:Wa){W:Wk},XA W->XA (it a l W)
 |[],_,hW=>hW
 |t::l,_,hW=>qM h l<|q8 hW (h t)
theorem uX{a:Vp}(h:XQ a)(x:N):∀(l:Wa){W:Wk},XA W->(Xh (it a l W) x=So↔Xh W x=So\/∃t∈l,Xh (a t) x=So)
 |[],W,_=>by simp[it]
 |t::l,W,hW=>by show Xh (it a l<|NR W (a t) λ_=>0) x=So↔_;rw[uX h x l<|q8 hW (h t),vD hW JW,Z3];simp only[Bool.not_false,vR,dI,cH,exists_eq_or_imp,or_assoc]
theorem CU(h:n<J s)(W):it M (s.take<|n+1) W=NR (it M (s.take n) W) (M s[n]) (λ_=>0):=by unfold it;rw[bN h,dT];rfl
def Vq(d:Wi)(b a:Vp)(c j:N):Vp:=λi=>if i<c then it b (X8 d i) (a i)else if i=c then it b ((X8 d i).take j) (a i)else a i
theorem vm(h:XQ M)(a:XQ N_)(b j):XQ (Vq x M N_ b j):=λi=>by
 unfold Vq;split;·exact qM h _<|a i
 split;·exact qM h _<|a i
 exact a i
structure OY(p:VD)(gi ci:Wk)(ds:Wa)(WI:Vp)(W2:Ub)(gN:N)(wr:Ub)(b j:N):Prop where
 os:wr.4=W2.4
 tape:wr.2=W2.2
 output:wr.5=W2.5
 size:Z W2.1<=Z wr.1
 fr:∀q,q<Z W2.1->(∀i,i<p.n->q≠p.go i)->wr.1[q]?=W2.1[q]?
 o:XK wr p.Go p.n p.5 p.go (λ_=>p.5) (Vq p.8 WI p.WO b j)
theorem OY.start{p nx}(h:Px p f F nx s w M)(k:Sw (Z w.1) w v):OY p f F s M v n v 0 0 :=
 ⟨R,R,R,aA,λ_ _ _=>R,(h.o.keep k).congr (λi _=>by unfold Vq;by_cases e:i=0<;>simp[e,it])⟩
theorem OY.row{p wr}(h:OY p f F s M w n wr m k)(a:J (X8 p.8 m)<=k):OY p f F s M w n wr (m+1) 0 :=
 ⟨h.1,h.2,h.3,h.4,h.5,h.o.congr (λi _=>by
  unfold Vq;by_cases e1:i<m;·rw[aU e1,aU O]
  by_cases e2:i=m;·rw[aM e1,aU e2,aU O,e2,aW a]
  rw[aM e1,aM e2,aM O];by_cases e3:i=m+1;·rw[aU e3];simp[it]
  rw[aM e3])⟩
theorem OY.next{p wr}(h:OY p f F s M w n wr m k)(d:m<p.n)(g:k<J (X8 p.8 m))(a:wr.grownBy v (S<|p.go m))(j:Cp v (p.go m) p.5 p.5 (NR (Vq p.8 M p.WO m k m) (M (X8 p.8 m)[k]) λ_=>0)):OY p f F s M w n v m (k+1):=by
 refine⟨G a.1 h.1,G a.2 h.2,G a.3 h.3,aJ h.4 a.4,λq b c=>G (a.5 q (aX b h.4) λe=>c m d<|by injection e) (h.5 q b c),(h.o.wrote d a j).congr λi _=>?_⟩;by_cases e:i=m
 .subst e;simp only[Vq,Nat.lt_irrefl,fD,gG];rw[CU g]
 unfold Vq;rw[aM e];by_cases e1:i<m;·rw[aU e1,aU e1]
 rw[aM e1,aM e1,aM e,aM e]
theorem OY.res{p nx wr w'}(h:OY p f F s M v n wr p.n 0)(b:Px p f F nx s w M)(c:PO p)(e:Sw (Z w.1) w v)(K:p.n=J p.8)(r:XQ p.WO)(x:∀d,d<p.n->∀j,Xh (p.WO d) j=So↔(d,j)∈Nr p.8 p.n)(g:∀q,q<Z wr.1->q≠Z p.w.1+1->q<p.M\/(∃i,i<p.n/\q=f i)->w'.1[q]?=wr.1[q]?)(B:w'.4=wr.4)(L:w'.2=wr.2)(C:w'.5=wr.5)(P:Z wr.1<=Z w'.1):Po p.w w' p.n p.5 p.8 p.9 p.Go f p.go F M (Vq p.8 M p.WO p.n 0):=by
 have S_:=b.1.4;have I_:=c.1;have J_:=c.3;have K_:=c.9;have L_:=c.a9;have N_:=b.2;have Q_:=e.4;have R_:=h.4;have t:=λq u l m=>G (g q O l<|bC u) (G (h.5 q O m) (e.5 q O));refine⟨⟨G B<|G h.1 (G e.1 b.1.1),G L<|G h.2 (G e.2 b.1.2),G C<|G h.3 (G e.3 b.1.3),O,λq hq=>G (t q O O λi a k=>by have:=c.4 i a;omega) (b.1.5 q hq)⟩,⟨b.10.1.of_block (t p.9 O O λi a k=>(c.8 i a).1 k.symm),λi a=>?_,b.10.3,b.10.o⟩,⟨h.o.1.of_block<|g p.Go O O (bC O),λi a=>(h.o.2 i a).of_block (g _ (oN<|c.4 i a) (oN<|c.4 i a) (bC<|oN (c.4 i a))),h.o.3,h.o.o⟩,b.wi,vm b.wi r _ _,⟨O,O⟩,λi a=>⟨oN<|b.11 i a,oN<|c.4 i a⟩,?_⟩
 .have O_:=b.11 i a;have z:=(b.10.2 i a).lt;refine(b.10.2 i a).of_block (G (g (f i) O O (aZ ⟨i,a,R⟩)) (G (h.5 (f i) O λT y k=>by have:=c.4 T y;omega) (e.5 _ z)))
 let⟨V,l,m⟩:=b.16;refine⟨I0 p.8 p.WO,T0 p.8,p.WO,V,λi a=>wY a,λi a=>wT a,λd o j=>K▸x d O j,λd o=>l d O,m,λd o W=>?_⟩;unfold Vq;rw[aU o];exact uX b.wi W _<|r d
theorem JZ{F o}{P:Yh}{e}{tmps:Zh}{r:Ending->Vy}{B}:∀(b:Wa)(W:Ub),ZJ W B b->(∀a:Ub,a.4=W.4->a.2=W.2->a.5=W.5->Z W.1<=Z a.1->(∀k,k∉b->a.1[k]?=W.1[k]?)->∃v,(JC e tmps).run P a=.ok v a/\r (Rt v) a)->LeavesInM F o P e tmps r (O7 b) .returning W
 |[],W,_,h=>h W R R R aA λ_ _=>R
 |p::b,W,hm,h=>by
  refine⟨sP,bC ⟨p,_,R,run_takeDeferred<|hm.3 p cI,?_⟩⟩;have c:=grownBy_putObj' W p<|.deferred U;refine JZ (B:=B) b _ ⟨(fL.1 hm.1).2,λk d=>hm.2 k<|cN _ d,λk d=>?_⟩ λa i j l m n=>h a (G i c.1) (G j c.2) (G l c.3) (aJ c.4 m) λq hq=>?_;·exact G (World.putObj_heap_other λg=>(fL.1 hm.1).1 (by rw[<-g];exact d)) (hm.3 k<|cN _ d)
  have f:q≠p/\q∉b:=by simpa using hq
  exact G (n q f.2) (World.putObj_heap_other f.1)
structure OB(w w1 X_:Ub)(V:N)(a:Uy)(n c Kw:N)(xs:Wi)(m l:Zm)(q:Option (N×Wk×Vp)):Prop where
 low:Sw (Z w1.1) w1 X_
 f0:E w1 ⟨Z w.1,0,U⟩=S (Si S6 (V:I))
 f1:E w1 ⟨Z w.1,1,U⟩=S (X a n c)
 lt:Z w.1<Z w1.1
 mr:∀g,m=S g->X_.rowIs g 86 n (λ_=>X U 0 0)/\Z w1.1<=g
 lb:∀g,l=S g->X_.rowIs g 122 2 (λ_=>X U 0 0)/\Z w1.1<=g
 ca:∀r,q=S r->XK X_ r.1 n Kw r.2.1 (λ_=>Kw) r.2.2/\XQ r.2.2/\(∀b,b<n->∀v,Xh (r.2.2 b) v=So↔(b,v)∈Nr xs n)/\Z w1.1<=r.1/\∀i,i<n->Z w1.1<=r.2.1 i
 d1:∀g h,m=S g->l=S h->g≠h
 d2:∀g r,m=S g->q=S r->g≠r.1/\∀i,i<n->r.2.1 i≠g
 d3:∀g r,l=S g->q=S r->g≠r.1/\∀i,i<n->r.2.1 i≠g
theorem OB.next{b l}{q:Option (N×Wk×Vp)}(h:OB w v u n p m c k x b l q)(a:Sw (Z u.1) u W):OB w v W n p m c k x b l q :=
 ⟨Xg h.1 a,h.2,h.3,h.4,λg e=>⟨(h.5 g e).1.of_block (a.5 _ (h.5 g e).1.lt),(h.5 g e).2⟩,λg e=>⟨(h.6 g e).1.of_block (a.5 _ (h.6 g e).1.lt),(h.6 g e).2⟩,λr e=>⟨(h.7 r e).1.keep a,(h.7 r e).2⟩,h.8,h.9,h.d3⟩
theorem OB.mkS{l}{q:Option (N×Wk×Vp)}{K:Tf}{j}(h:OB w v u n p m c k x U l q)(d:∀o,OB w v o n p m c k x (S (Z u.1)) l q->K j o):K j (D u<|Sc (madeCells #[X U 0 0] m) 86):=by
 have a:=h.next<|Xb (dC _ u) (Sc (madeCells #[Hq] m) 86);have z:=h.1.4;refine d _ ⟨a.1,h.2,h.3,h.4,λg e=>?_,a.6,a.7,λg r e e2=>?_,λg r e e2=>?_,a.d3⟩;·cases e;exact⟨dG u _ m _,z⟩
 .cases e;have:=(h.6 r e2).1.lt;omega
 cases e;have:=(h.7 r e2).1.1.lt;exact⟨O,λi b=>by have:=((h.7 r e2).1.2 i b).lt;omega⟩
theorem OB.lbS{d}{q:Option (N×Wk×Vp)}{K:Tf}{j}(h:OB w v u n p m c k x d U q)(f:∀l,OB w v l n p m c k x d (S (Z u.1)) q->K j l):K j (D u<|Sc #[X U 0 0,X U 0 0] 122):=by
 have a:=h.next<|Xb (dC _ u) (Sc #[Hq,Hq] 122);have z:=h.1.4;refine f _ ⟨a.1,h.2,h.3,h.4,a.5,λg e=>?_,a.7,λg r e e2=>?_,a.9,λg r e e2=>?_⟩;·cases e;exact⟨eK u #[Hq,Hq] 122 (λ_=>Hq) (λi b=>by match i,b with|0,_=>rfl|1,_=>rfl),z⟩
 .cases e2;have:=(h.5 g e).1.lt;omega
 cases e;have:=(h.7 r e2).1.1.lt;exact⟨O,λi b=>by have:=((h.7 r e2).1.2 i b).lt;omega⟩
theorem OB.caS{av:Zh}{q o}(h:OB w v u m p k c B x q o U)(L:Sk R_ n av u λe t=>∃F a b,e=Rt (Hl F k k)/\Z u.1<=F/\Sw (Z u.1) u t/\XK t F k B a (λ_=>B) b/\(∀i,i<k->Z u.1<=a i)/\XQ b/\∀d,d<k->∀s,Xh (b d) s=So↔(d,s)∈Nr x k):
 Sk R_ n av u λe K=>∃F a b,e=Rt (Hl F k k)/\OB w v K m p k c B x q o (S (F,a,b)):=by
 refine L.mono ?_;rintro e K⟨F,a,b,rfl,y,d,P,l,T,C⟩;have j:=h.next d;have z:=h.1.4;refine⟨F,a,b,R,j.1,h.2,h.3,h.4,j.5,j.6,λr e=>?_,j.8,λg r e e2=>?_,λg r e e2=>?_⟩;·cases e;exact⟨P,T,C,aJ z y,λi f=>aJ z<|l i f⟩
 .cases e2;have:=(h.5 g e).1.lt;exact⟨by show g≠F;omega,λi f=>by have:=l i f;show a i≠g;omega⟩
 cases e2;have:=(h.6 g e).1.lt;exact⟨by show g≠F;omega,λi f=>by have:=l i f;show a i≠g;omega⟩
theorem OB.kp{a l}{q:Option (N×Wk×Vp)}(h:OB w v u n p m c k x a l q):E u (A (Z w.1) 0)=S (H n)/\E u (A (Z w.1) 1)=S (X p m c) :=
 ⟨oB h.1 h.2 h.4,oB h.1 h.3 h.4⟩
theorem OB.lbc{d}{q:Option (N×Wk×Vp)}(h:OB w v u n p m c k x d (S B) q):E u ⟨B,0,U⟩=S (X U 0 0)/\E u ⟨B,1,U⟩=S (X U 0 0)/\(∀o,u.frozen? ⟨B,o,U⟩=Sn)/\∀b,E (Se u ⟨B,0,U⟩ b) ⟨B,1,U⟩=S (X U 0 0):=by have r:=(h.6 B R).1;have a:=r.cell (i:=1) vY;exact⟨r.cell (i:=0) vY,a,r.frozen,λb=>G (cJ sP) a⟩
theorem OB.fin(h:OB w v u n p m c k x (S B) (S g) (S (i,f,M)))(q:Sw (Z w.1) w v)(a:Z v.1=Z w.1+2)(s:E v ⟨Z w.1+1,0,U⟩=S (X U 0 0))(t:E v ⟨Z w.1+1,1,U⟩=S (X U 0 0))(rz:∀r,v.frozen? ⟨Z w.1+1,r,U⟩=Sn):
 Pp w (Se (Se u ⟨g,0,U⟩ (X (S ⟨B,0,U⟩) m m)) ⟨g,1,U⟩ (X (S ⟨i,0,U⟩) m m)) n p m c k x B g i f M:=by
 let⟨y,z,o,e,j⟩:=h.7 _ R;have d2:=h.9 _ _ R R;have d3:=h.d3 _ _ R R;exact VR q a h.1 h.2 h.3 s t rz (h.5 B R).1 (h.6 g R).1 y z o (a▸(h.5 B R).2) (a▸(h.6 g R).2) (a▸e) (λd b=>a▸j d b) ⟨λl=>d3.1 l.symm,h.8 _ _ R R,d2.1,λd b=>⟨d2.2 d b,d3.2 d b⟩⟩
section
attribute [local go_sem] Oper.semAt_some
theorem FX(h:XA f)(i):f i<18446744073709551616:=h i
theorem qW(W i j)(a:j<64):Xh W (64*i+j)=(W i).testBit j:=by unfold Xh;rw[show(64*i+j)/64=i by omega,show(64*i+j)%64=j by omega]
structure ji(W:Wk)(i k y:N):Prop where
 le:k<=64
 lt:y<18446744073709551616
 bit:∀j,y.testBit j=((W i).testBit j&&Jd (k<=j))
theorem ji.start(h:XA f)(i):ji f i 0 (f i):=⟨vY,FX h i,λj=>sP⟩
theorem ji.next(l:ji f n m k)(d:k≠0):ji f n (Lib.ctz 64 k+1) (k&&&(k-1))/\Mq f (64*n+(Lib.ctz 64 k+1))=Mq f (64*n+m)++[64*n+Lib.ctz 64 k]/\Lib.ctz 64 k<64/\(k&&&(k-1))<k:=by
 have i:k<2^64:=l.2;let⟨y,x,p⟩:=qh d i;have h:=Fs d i;have v:=EY d i;have b:=l.3;have w:k&&&(k-1)<=k-1:=Nat.and_le_right;generalize Lib.ctz 64 k=c at*;have u:m<=c/\(f n).testBit c=So:=by have a:=h.1;rw[b,bY,bD]at a;exact⟨a.2,a.1⟩
 refine⟨⟨O,O,λj=>?_⟩,?_,p,O⟩
 .rw[v,b];by_cases e:j=c;·subst e;simp
  by_cases e2:j<c
  .have g:=h.2 j e2;rw[b]at g;rw[g];have:¬c+1<=j:=O;simp[this]
  have r:m<=j:=O;have s:c+1<=j:=O;simp[e,r,s]
 have e:64*n+(c+1)=(64*n+c)+1:=O;rw[e];refine EP O (λq a g=>?_) (by rw[qW f n c p];exact u.2);obtain⟨j,rfl⟩:∃j,q=64*n+j:=⟨q-64*n,O⟩;have o:=h.2 j O;rw[b]at o;rw[qW f n j O];have t:m<=j:=O;simpa [t]using o
theorem ji.done(h:ji f n m 0):Mq f (64*(n+1))=Mq f (64*n+m):=by refine qB (oN h.1) λq c d=>?_;obtain⟨j,rfl⟩:∃j,q=64*n+j:=⟨q-64*n,O⟩;rw[qW f n j O];have a:=h.3 j;have b:m<=j:=O;simpa [b]using a.symm
theorem Fx{W p q}(h:p<=q):J (Mq W p)<=J (Mq W q):=by unfold Mq;obtain⟨d,rfl⟩:∃d,q=p+d:=⟨q-p,O⟩;rw[lI,eU,aQ];omega
theorem FO(n)(a:Uy)(len b)(w:Ub):
 CallsIn Fence.wide n prog 78 #[Sa #[X a len b]] w λe c=>e=Rt (.func (.func 126) #[] #[Sj (S ⟨Z w.1,0,U⟩)])/\c=D w (Sc #[X a len b] 86):=by
 refine iD func78 R JV ?_ R;simp only[ntmps78,xY,Nat.reduceAdd,Nat.reduceSub];gi_wp2;go_ret;exact⟨R,R⟩
end
def Jq(a:Wi):Prop:=∀b,b<J a->Re (X8 a) b
open Classical in
noncomputable def Ft(v:I)(a:Wi):I:=if XJ ⟨v,a⟩=Sn then 9 else if ¬Jq a then 10 else if ∃x,N4 a x then 11 else 0
theorem vC:∀(n:N)(F:Wa),(∀b,b<n->b∈F)->n<=J F
 |0,_,_=>aN
 |n+1,F,h=>by have c:=vC n (F.erase n) λb d=>(iF O).2 (h b O);have a:=h n O;rw[fP a]at c;have:=eJ a;omega
theorem uQ(g:UF x){F:Wa}(f:F.Nodup)(d:∀a,a∈F↔Re (X8 x) a):J F<=J x/\(J F=J x↔Jq x):=by
 have k:=YS f λa b=>g.re a<|(d a).1 b;refine⟨k,λh c e=>?_,λh=>?_⟩
 .apply dQ
  intro j;have l:=fL.2 ⟨λi=>j<|(d c).1 i,f⟩;have:=YS (n:=J x) l (λa b=>by
   obtain rfl|b:=cH.1 b;·exact e
   exact g.re a<|(d a).1 b)
  rw[bA]at this;omega
 have:=vC (J x) F λc e=>(d c).2 (h c e);omega
open Classical in
theorem Uh(h:XJ ⟨t,x⟩=Sn):Ft t x=9:=by unfold Ft;rw[aU h]
open Classical in
theorem t9(h:XJ ⟨t,x⟩=So)(k:¬Jq x):Ft t x=10:=by unfold Ft;rw[aM (by rw[h];decide),aU k]
open Classical in
theorem qg(h:XJ ⟨t,x⟩=So)(k:Jq x)(m:∃a,N4 x a):Ft t x=11:=by unfold Ft;rw[aM (by rw[h];decide),aM λq=>q k,aU m]
open Classical in
theorem uP(h:XJ ⟨t,x⟩=So)(k:Jq x)(m:¬∃a,N4 x a):Ft t x=0:=by unfold Ft;rw[aM (by rw[h];decide),aM λq=>q k,aM m]
section
attribute [local go_sem] Oper.semAt_some
theorem DH{p q}(h:p<=q)(a:n∈Mq f p):n∈Mq f q:=by have:=om.1 a;exact om.2 ⟨O,this.2⟩
theorem DS(h)(L:E w (A n 0)=S (Hl m k B))(r:Q (Cp w m k B f))(M:Q (XA f))(C:Q (Jn w))(hK:k<=100)(z:Q (¬h m))(aa:Q (¬h 2)):
 pp Fence.wide 7 prog 126 #[Hn n] (λx:N=>#[H x]) (λx _=>x∈Mq f (64*k)) (Zf (Z w.1) h) (λxs=>xs=Mq f (64*k)) (J (Mq f<|64*k)) w:=by
 intro a2 s t l hl v_ F g;have K:n<Z w.1:=aI w _ L;have ar:=oB l L K;have T:=Y<|r.of_block (l.5 m r.lt);have ab:(2: N)<Z w.1:=aI w _<|C 0 vY;have W:=Y<|C.of_block (l.5 _ ab);refine iD func126 R JV ?_ R;simp only[ntmps126,xY,Nat.reduceAdd,Nat.reduceSub];gi_wp2
 gi_loopw [8] (λq wr=>∃a:N,a<=k/\q=H a/\Q (s (Mq f<|64*a) wr)/\Zf (Z w.1) h t wr) λq _=>k-(JB q).toNat
 .exact⟨0,aN,R,Y (by rw[Nat.mul_zero];exact Y g),Zf.refl _⟩
 obtain⟨a,hk,rfl,d,o⟩:=hrel;by_cases ad:a<k
 .have V:=o.cell (T.cell ad) z;have c:=Y<|ji.start M a;have aj:=M a;generalize al:f a=yk at V c aj;generalize wr=wo at*;have aq:S6.wrap ((a:I)*64)=(a:I)*64:=by rw[dF];omega
  have e:=Y o;gi_wp2
  gi_loopw [4] (λy wr=>∃b p:N,y=Si .u64 b/\Q (ji f a p b)/\Q (s (Mq f<|64*a+p) wr)/\Q (Zf (Z w.1) h t wr)) λy _=>(JB y).toNat
  .exact⟨yk,0,R,c,d,e⟩
  obtain⟨b,p,rfl,c,d,e⟩:=hrel;have v:=c.2;by_cases g:b=0
  .subst g;gi_wp2;exact⟨⟨a+1,O,gM,Y (c.done▸d),e⟩,SA⟩
  let⟨P,j,n3,n4⟩:=c.next g;have V_:=Y j;have a1:((b:I)==0)=Sn:=SB
  have az:IntKind.u64.wrap ((b:I)-1)=((b-1:N):I):=by rw[iV];omega
  have a0:=bits_and_u64_nat b (b-1) v O;have r_:=Y<|Fj v g wr (Y<|W.of_block (e.2 _ O aa));have I_:J (Mq f<|64*a+p)<J (Mq f<|64*k):=by have u:=fI List.length j;have h2:=Fx (W:=f) (p:=64*a+(Lib.ctz 64 b+1)) (q:=64*k) O;rw[aQ]at u;simp at u;omega
  have K_:64*a+Lib.ctz 64 b∈Mq f (64*k):=DH (q:=64*k) (p:=64*a+(Lib.ctz 64 b+1)) O (by rw[j];simp);let⟨fn,tmps,ao,bo,N_,A_⟩:=(Y F) _ (64*a+Lib.ctz 64 b) wr d K_ I_;generalize Lib.ctz 64 b=i at*;generalize b&&&(b-1)=yn at*;have ap:S6.wrap ((a:I)*64+(i:I))=(a:I)*64+(i:I):=by rw[dF];omega
  have F_:(((64*a+i:N)):I)=(a:I)*64+(i:I):=O;rw[F_]at N_;gi_wp2;refine⟨JV,(bM.2 r_).mono ?_⟩;rintro X_ w1⟨rfl,af⟩;subst af;gi_wp2;refine A_.mono ?_;rintro X_ W3⟨rfl,z_,H_,_⟩;gi_wp2;exact⟨⟨yn,i+1,R,Y P,Y (V_.o▸(Y z_)),Y<|e.trans H_⟩,SA⟩
 have ac:a=k:=O;gi_wp2
 go_end0
 exact⟨⟨_,R⟩,_,R,ac▸d⟩
end
end Go.Proofs.YtcncjgijikoapaaGreatDoor
