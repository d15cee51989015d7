import Derived.Laws.CopyOwn
import Derived.Test.YtcncjgijikoapaaGreatDoorID1
import Derived.Test.YtcncjgijikoapaaGreatDoorNW1
import Derived.Test.YtcncjgijikoapaaGreatDoorW18b
namespace Go.Proofs.YtcncjgijikoapaaGreatDoor
set_option maxHeartbeats 4000000
set_option maxRecDepth 100000
open _root_ renaming Nat->N,Int->I,rfl->R,Option.some->S,List.length->J,List.range->Rg,Array.size->Z,Option.none->U,Bool.false->Sn,Decidable.decide->Jd,Bool.true->So,absurd->Sz,trivial->JV
open Value renaming int->Si,tuple->St,slice->X,agg->Sa
open Go renaming Ending.returned->Rt,Calls->Sk,World.cell?->E,World.alloc->D,World.setCell->Se,World.ownsRow->Sx,RowKit.Below->Sw,IntKind.i64->S6,Obj.cells->Sc,RowKit.intOf->JB
open Go.RowKit Go.Proofs.Tryz Go.Shelf
variable{t T:I}{n m k B g i j c:N}{w v u:Ub}{p P:Uy}{M:Vp}{s:Wa}{l:Wc}{x:Wi}{f:Wk}{q:Xe}
theorem WH(a:n<=5000):bits .and .u64 (n:I) 4294967295=(n:I):=by
 have h:n&&&4294967295=n:=by have:=kO n 32;rw[show(2^32-1:N)=4294967295 from R]at this;rw[this];omega
 rw[show(4294967295:I)=((4294967295:N):I)from R,jH _ _ O vY,h]
theorem PK(w:Ub)(a:n<=5000):
 Sk prog 146 #[Si .u64 1,Si .u64 n] w λe b=>e=Rt (St #[Si .u64 0,Si .u64 n])/\b=w:=by
 have d:bits .and .u64 1 4294967295=1:=vY;have c:bits .and .u64 0 4294967295=0:=vY;have f:=WH a;have g:(n:I)/4294967296=0:=O;have ik:IntKind.u64.wrap (n:I)=n:=by simp[IntKind.wrap,IntKind.bits,IntKind.signed];omega
 have h:IntKind.u64.wrap 0=0:=vY
 go_in
 go_wp2_with fail
 refine YL (v:=St #[Si .u64 0,Si .u64 n]) ⟨R,R⟩
theorem Li(w:Ub)(b:n<=5000):
 Sk prog 115 #[Si .u64 1,Si .u64 n] w λe c=>e=Rt (St #[Si .u64 0,Si .u64 n])/\c=w:=by
 have a:=Y λW=>PK W b
 go_in
 go_wp2_with fail
 refine YU (a.o _) ?_;rintro d rfl;go_wp2_with fail
 refine YL (v:=St #[Si .u64 0,Si .u64 n]) ⟨R,R⟩
section
attribute [local go_sem] Oper.semAt_some
def O7(a:Wa):List Deferred:=a.map λb=>{ target:=.collected b,args:=#[] }
structure ZJ(W:Ub)(B:N)(ds:Wa):Prop where
 nd:ds.Nodup
 ge:∀D_∈ds,B<=D_
 obj:∀D_∈ds,W.1[D_]?=S (.deferred (S []))
end
def WC(P:Wc)(k:N)(c:N):Wa:=(Rg k).filter λb=>P.getD b 0==(c:I)
theorem vM:WC l (J l) c=Nj l c:=R
theorem Y0:J (Xi s)=J s:=by simp[Xi]
section
theorem QQ:(prog.info? 61).map (λi=>(i.8,i.3,i.4))=S (S<|Sa #[Hq],1,24):=vZ
structure OE(w6 wr:Ub)(F:N)(x2 x3:Uj)(U_ V:Vu)(b1:N)(p1:Uy)(c1 b2:N)(p2:Uy)(c2:N):Prop where
 e0:E wr ⟨F,0,U⟩=S (X p1 b1 c1)
 e1:E wr ⟨F,1,U⟩=S (X p2 b2 c2)
 e2:E wr ⟨F,2,U⟩=S x2
 e3:E wr ⟨F,3,U⟩=S x3
 thaw:∀q,wr.frozen? ⟨F,q,U⟩=Sn
 bel:Sw F w6 wr
 lt:F<Z wr.1
 le:F=Z w6.1
 o1:Sx wr (F+1) 61 1 (X p1 b1 c1) b1 ((Rg b1).map U_)
 o2:Sx wr (F+1) 4 1 (X p2 b2 c2) b2 ((Rg b2).map V)
 dj:(X p1 b1 c1).ownBlock=U\/(X p1 b1 c1).ownBlock≠(X p2 b2 c2).ownBlock
theorem n9{w d:Ub}{B a t s n:N}{v:Uj}{b:Wo}(i:Sx w B t s v n b)(l:a<=B)(p:∀k,v.ownBlock=S k->d.1[k]?=w.1[k]?):Sx d a t s v n b:=by
 obtain⟨c,j|⟨g,f,h,e,m,o,q⟩⟩:=i;·exact⟨c,bC j⟩
 exact⟨c,aZ ⟨g,f,h,e,aJ l m,G (p g<|by rw[e];rfl) o,q⟩⟩
theorem xq{w:Ub}{R_ F t:N}{i:Vu}(l:w.rowIs R_ t 4 i)(m:R_≠F){x c d f g:Uj}{a:Ub}(e:a=Se (Se (Se (Se (Se w ⟨F,3,U⟩ x) ⟨R_,0,U⟩ c) ⟨R_,1,U⟩ d) ⟨R_,2,U⟩ f) ⟨R_,3,U⟩ g):
 E a ⟨R_,0,U⟩=S c/\E a ⟨R_,1,U⟩=S d/\E a ⟨R_,2,U⟩=S f/\E a ⟨R_,3,U⟩=S g/\(∀k,k≠F->k≠R_->a.1[k]?=w.1[k]?)/\Z a.1=Z w.1/\a.4=w.4/\a.2=w.2/\a.5=w.5:=by
 have h:=((((l.setOther (a:=(A F 3)) m x).set 0 c).set 1 d).set 2 f).set 3 g;rw[<-e]at h;refine⟨?_,?_,?_,?_,λk j b=>?_,?_,?_,?_,?_⟩;·rw[h.cell vY];simp
 .rw[h.cell vY];simp
 .rw[h.cell vY];simp
 .rw[h.cell vY];simp
 .rw[e,cY b,cY b,cY b,cY b,cY j]
 .rw[e];simp[World.setCell]
 .rw[e];simp[World.setCell]
 .rw[e];simp[World.setCell]
 rw[e];simp[World.setCell]
section
variable {w6 wr wr': Ub} {F: N} {x2 x3: Uj} {U_ V: N -> Uj} {b1: N} {p1: Uy} {c1 b2: N} {p2: Uy} {c2: N}
theorem OE.below(h:OE w6 wr F x2 x3 U_ V b1 p1 c1 b2 p2 c2)(k:Sw (Z wr.1) wr wr'):OE w6 wr' F x2 x3 U_ V b1 p1 c1 b2 p2 c2:=by
 have c:=k.5 F h.7;have a:∀q,E wr' (A F q)=E wr (A F q):=λq=>bZ c
 have own:∀{t v n b},Sx wr (F+1) t 1 v n b->Sx wr' (F+1) t 1 v n b:=λ{t v n b} e=>by
  refine e.kept (row:=U) ⟨k.1,k.2,k.3,k.4,λj d _=>k.5 j d⟩ ?_;cases v.ownBlock with
  |none=>exact bC R
  |some j=>exact aZ sP
 exact⟨G (a 0) h.1,G (a 1) h.2,G (a 2) h.3,G (a 3) h.4,λq=>G (bJ c) (h.5 q),h.6.trans<|k.mono (dU h.7),aX h.7 k.4,h.8,own h.9,own h.o2,h.dj⟩
theorem tM{w:Ub}{B t s n:N}{v:Uj}{a:Wo}(h:Sx w B t s v n a){k}(b:Z w.1<=k):v.ownBlock=U\/v.ownBlock≠S k:=by
 by_cases e:v.ownBlock=S k;·have:=(h.lt k e).2;omega
 exact aZ e
theorem EQ{a b:Zm}(h:a=U\/a≠b):b=U\/b≠a:=by
 obtain h|h:=h
 .subst h;cases b with
  |none=>exact bC R
  |some k=>exact aZ sP
 exact aZ λe=>h e.symm
theorem ue{w:Ub}{B t s n:N}{v:Uj}{a:Wo}(h:Sx w B t s v n a):Sx w.drew B t s v n a:=h
theorem tJ{a:Type}(f:N->a){b}:(Rg<|b+1).map f=(Rg b).map f++[f b]:=by rw[dN,bG];rfl
theorem OE.app1{a:Ub}{g}{f:Uy}{c}(h:OE w6 wr F x2 x3 U_ V b1 p1 c1 b2 p2 c2)(b:(D wr g).grownBy a (X p1 b1 c1).ownBlock)(s:Sx a (F+1) 61 1 (X f (b1+1) c) (b1+1) ((Rg b1).map U_++[U_ b1]))(p:(X f (b1+1) c).ownBlock=(X p1 b1 c1).ownBlock\/(X f (b1+1) c).ownBlock=S (Z wr.1+1)):
 OE w6 (Se a ⟨F,0,U⟩ (X f (b1+1) c)) F x2 x3 U_ V (b1+1) f c b2 p2 c2/\(∀q,E a ⟨F,q,U⟩=E wr ⟨F,q,U⟩)/\(∀q,a.frozen? ⟨F,q,U⟩=Sn)/\Sw F wr a:=by
 have r:=h.7;have ha:∀k,k<Z wr.1->(D wr g).1[k]?=wr.1[k]?:=λk j=>gF _ _ _ j;have u:Z (D wr g).1=Z wr.1+1:=aO _ _;have t:=b.4;have o:∀k,k<=F->S k≠(X p1 b1 c1).ownBlock:=λk j e=>by have:=(h.9.lt k e.symm).1;omega
 have m:=G (b.5 F O<|o _ aA) (ha _ r);have d:∀q,E a (A F q)=E wr (A F q):=λq=>bZ m;have l:=λq=>G (bJ m) (h.5 q);have n:Sw F wr a:=⟨b.1,b.2,b.3,O,λk j=>G (b.5 k O<|o k O) (ha k O)⟩;refine⟨⟨fQ _ _ _<|G (d 0) h.1,G (XL _ _ O _) (G (d 1) h.2),G (XL _ _ O _) (G (d 2) h.3),G (XL _ _ O _) (G (d 3) h.4),λq=>by rw[eX];exact l q,(h.6.trans n).setCell (p:=A F 0) aA _,SF,h.8,?_,?_,?_⟩,d,l,n⟩
 .rw[tJ];exact ke s (by show F<F+1;omega) _
 .exact ke ((h.o2.alloc g).kept b (EQ h.dj)) (by show F<F+1;omega) _
 obtain e|e:=p;·rw[e];exact h.dj
 obtain i|i:=tM h.o2 (k:=Z wr.1+1) O;·exact aZ<|by rw[e,i];simp
 exact aZ (e▸λk=>i k.symm)
theorem OE.app2{a:Ub}{g}{f:Uy}{c}(h:OE w6 wr F x2 x3 U_ V b1 p1 c1 b2 p2 c2)(b:(D wr g).grownBy a (X p2 b2 c2).ownBlock)(s:Sx a (F+1) 4 1 (X f (b2+1) c) (b2+1) ((Rg b2).map V++[V b2]))(p:(X f (b2+1) c).ownBlock=(X p2 b2 c2).ownBlock\/(X f (b2+1) c).ownBlock=S (Z wr.1+1)):
 OE w6 (Se a ⟨F,1,U⟩ (X f (b2+1) c)) F x2 x3 U_ V b1 p1 c1 (b2+1) f c/\(∀q,E a ⟨F,q,U⟩=E wr ⟨F,q,U⟩)/\(∀q,a.frozen? ⟨F,q,U⟩=Sn)/\Sw F wr a:=by
 have r:=h.7;have ha:∀k,k<Z wr.1->(D wr g).1[k]?=wr.1[k]?:=λk j=>gF _ _ _ j;have u:Z (D wr g).1=Z wr.1+1:=aO _ _;have t:=b.4;have o:∀k,k<=F->S k≠(X p2 b2 c2).ownBlock:=λk j e=>by have:=(h.o2.lt k e.symm).1;omega
 have m:=G (b.5 F O<|o _ aA) (ha _ r);have d:∀q,E a (A F q)=E wr (A F q):=λq=>bZ m;have l:=λq=>G (bJ m) (h.5 q);have n:Sw F wr a:=⟨b.1,b.2,b.3,O,λk j=>G (b.5 k O<|o k O) (ha k O)⟩;refine⟨⟨G (XL _ _ O _) (G (d 0) h.1),fQ _ _ _<|G (d 1) h.2,G (XL _ _ O _) (G (d 2) h.3),G (XL _ _ O _) (G (d 3) h.4),λq=>by rw[eX];exact l q,(h.6.trans n).setCell (p:=A F 1) aA _,SF,h.8,?_,?_,?_⟩,d,l,n⟩;·exact ke ((h.9.alloc g).kept b h.dj) (by show F<F+1;omega) _
 .rw[tJ];exact ke s (by show F<F+1;omega) _
 obtain e|e:=p;·rw[e];exact h.dj
 obtain i|i:=tM h.9 (k:=Z wr.1+1) O;·exact bC i
 exact aZ (e▸i)
end
end
section
def ZN(w:Ub)(b n:N)(P:Tj)(a:Vu):Prop :=
 w.rowIs b 61 n a/\(∀i,i<n->Sx w (b+1) 2 1 (a i) (J (P i)) ((P i).map (Si S6)))/\(∀i j,i<n->j<n->i≠j->(a i).ownBlock=U\/(a i).ownBlock≠(a j).ownBlock)
theorem ZN.alloc{w b n P c}(h:ZN w b n P c)(o):ZN (D w o) b n P c:=⟨h.1.alloc o,λi a=>(h.2.1 i a).alloc o,h.2.2⟩
theorem ZN.below{w a:Ub}{f n P e}(h:ZN w f n P e)(k:Sw (Z w.1) w a):ZN a f n P e:=by refine⟨h.1.of_block<|k.5 _ h.1.lt,λi d=>?_,h.2.2⟩;refine(h.2.1 i d).kept (row:=U) ⟨k.1,k.2,k.3,k.4,λb c _=>k.5 b c⟩ ?_;cases (e i).ownBlock<;>simp
theorem ZN.congr{w b n P P' c}(h:ZN w b n P c)(e:∀i,i<n->P i=P' i):ZN w b n P' c :=
 ⟨h.1,λi a=>(e i a)▸h.2.1 i a,h.2.2⟩
theorem ZN.step{w k:Ub}{y n P v}(h:ZN w y n P v){t}(p:t<n)(x)(b:Uj)(o:w.grownBy k (v t).ownBlock)(s:Sx k (y+1) 2 1 b (J (P t)+1) ((P t).map (Si S6)++[Si S6 x]))(l:b.ownBlock=(v t).ownBlock\/b.ownBlock=S (Z w.1)):
 ZN (Se k ⟨y,t,U⟩ b) y n (λi=>if i=t then P t++[x]else P i) (λi=>if i=t then b else v i):=by
 have u:=h.1.of_block (o.5 _ h.1.lt λe=>by have:=((h.2.1 t p).lt _ e.symm).1;omega);refine⟨u.set t b,λi a=>?_,λi j a d c=>?_⟩
 .refine ke ?_ SG _;by_cases e:i=t
  .subst e;simp only[gG,aQ,bA,bO,bG,eH,fZ];exact s
  simp only[e,fD];exact(h.2.1 i a).kept o (h.2.2 i t a p e)
 have fresh:∀m,m<n->(v m).ownBlock=U\/(v m).ownBlock≠S (Z w.1):=λm r=>by
  by_cases e:(v m).ownBlock=S (Z w.1);·have:=((h.2.1 m r).lt _ e).2;omega
  exact aZ e
 by_cases e1:i=t
 .subst e1;have e2:¬j=i:=λe=>c e.symm;simp only[gG,e2,fD];obtain q|q:=l;·rw[q];exact h.2.2 i j a d c
  right
  rw[q];intro g;obtain f|f:=fresh j d;·rw[f]at g;cases g
  exact f g.symm
 simp only[e1,fD];by_cases e2:j=t
 .subst e2;simp only[gG];obtain q|q:=l;·rw[q];exact h.2.2 i j a d c
  rw[q];exact fresh i a
 simp only[e2,fD];exact h.2.2 i j a d c
theorem ZN.ints{w e n P f}(h:ZN w e n P f):XR w e (Z w.1) (S ⟨e,0,U⟩) ((Rg n).map P):=λi a=>by
 simp only[bK,gI]at a;let⟨b,c,d,ha⟩:=Xk<|h.2.1 i a;refine⟨e,0,R,⟨aA,h.1.lt⟩,b,c,?_,?_⟩
 .simp only[cM,dW,aV];rw[h.1.cell a,d]
 simp only[cM,dW];exact ha.mono O<|aA
theorem ZN.born(w:Ub)(n):ZN (D w<|Sc (madeCells #[X U 0 0] n) 61) (Z w.1) n (λ_=>[]) (λ_=>X U 0 0) :=
 ⟨dG _ _ _ _,λ_ _=>dA,λ_ _ _ _ _=>bC R⟩
variable {tg: N -> Wa}
open Classical in
noncomputable def UN(tg:Yr)(k b:N):Wc:=Xi<|(Rg k).filter λa=>Jd (JO tg a b)
open Classical in
theorem tN{k b:N}:UN tg (k+1) b=UN tg k b++(if JO tg k b then [(k:I)]else []):=by
 unfold UN;rw[dN,eU,iW,jX];by_cases h:JO tg k b;·rw[aU SI,aU h];simp[Xi]
 rw[aM SI,aM h];simp[Xi]
theorem DZ(k b):J (UN tg k b)<=k:=by unfold UN;rw[Y0];exact aJ (fJ _ _) sP
theorem Cx{k}(h:¬Re tg k)(b):UN tg (k+1) b=UN tg k b:=by rw[tN,aM λd=>h d.1,fF]
noncomputable def Zy(tg:Yr)(F a:Wa)(k i b:N):Wc:=UN tg k b++(if b∈F.take i/\b∉a then [(k:I)]else [])
theorem BG(F a k b):Zy tg F a k 0 b=UN tg k b:=by unfold Zy;rw[aM sP,fF]
theorem Ca(F a k i b):J (Zy tg F a k i b)<=k+1:=by unfold Zy;have:=DZ (tg:=tg) k b;rw[aQ];split<;>simp<;>omega
theorem Kx{F:Wa}{i b}(a:i<J F):b∈F.take (i+1)↔b∈F.take i\/b=F[i]:=by rw[bN a,bU,cS]
theorem DN{F a:Wa}{k i}(c:i<J F)(h:F[i]∈a)(b):Zy tg F a k (i+1) b=Zy tg F a k i b:=by
 unfold Zy;by_cases e:b=F[i];·rw[aM λq=>q.2 (e▸h),aM λq=>q.2 (e▸h)]
 by_cases q:b∈F.take i/\b∉a;·rw[aU ⟨(Kx c).2 (bC q.1),q.2⟩,aU q]
 rw[aM λr=>q ⟨((Kx c).1 r.1).resolve_right e,r.2⟩,aM q]
theorem CD{F a:Wa}{k i}(d:F.Nodup)(c:i<J F)(h:F[i]∉a)(b):Zy tg F a k (i+1) b=if b=F[i]then Zy tg F a k i F[i]++[(k:I)]else Zy tg F a k i b:=by
 have g:F[i]∉F.take i:=λq=>by have e:=(hH i F).symm;have f:F[i]∈F.drop i:=(gZ c)▸cI;rw[e,gW]at d;exact d.2.2 _ q _ f R
 by_cases e:b=F[i]
 .rw[aU e,e];unfold Zy;rw[aU ⟨(Kx c).2 (aZ R),h⟩,aM λq=>g q.1,fF]
 rw[aM e];unfold Zy;by_cases q:b∈F.take i/\b∉a;·rw[aU ⟨(Kx c).2 (bC q.1),q.2⟩,aU q]
 rw[aM λr=>q ⟨((Kx c).1 r.1).resolve_right e,r.2⟩,aM q]
theorem Bt{F a:Wa}{k}(hF:∀x,x∈F↔Re tg x)(c:∀x,x∈a↔Av tg k x)(e:Re tg k){i}(d:J F<=i)(b):Zy tg F a k i b=UN tg (k+1) b:=by
 rw[tN];unfold Zy;rw[aW d];by_cases h:JO tg k b;·rw[aU ⟨(hF b).2 h.2,λq=>h.3<|(c b).1 q⟩,aU h]
 rw[aM λq=>h ⟨e,(hF b).1 q.1,λr=>q.2<|(c b).2 r⟩,aM h]
end
theorem qr:Je s=(Xi s).map (Si S6):=by simp[Je,Xi]
theorem qS:Cg (Xi s) (n:I)=So↔n∈s:=by
 unfold Cg;rw[eY];unfold Xi;rw[aY];constructor
 .rintro⟨a,h,e⟩;have:a=n:=Int.ofNat.inj e;rw[<-this];exact h
 exact λh=>⟨n,h,R⟩
structure PF(w2 wr:Ub)(G_ n K:N)(gs:Wk)(Ws:Vp)(E_:List (N×N)):Prop where
 sets:XK wr G_ n K gs (λ_=>K) Ws
 wd:XQ Ws
 fr:U8 w2 wr n gs
 has:∀b,b<n->∀v,Xh (Ws b) v=So↔(b,v)∈E_
def O0(c wr:Ub)(d n K:N)(b:Wk)(e:List (N×N)):Prop:=∃a,PF c wr d n K b a e
theorem PF.below{wr}{b:List (N×N)}(h:PF w wr n m k f M b)(a:Sw (Z wr.1) wr v):PF w v n m k f M b:=⟨h.1.keep a,h.2,h.3.below a,h.4⟩
theorem O0.below{wr}{c:List (N×N)}(h:O0 w wr n m k f c)(b:Sw (Z wr.1) wr v):O0 w v n m k f c:=by let⟨a,h⟩:=h;exact⟨a,h.below b⟩
theorem PF.add{wr}{l:List (N×N)}(h:PF w wr n m k f M l)(c:B<m)(d:wr.grownBy v (S<|f B))(j:Cp v (f B) k k (E2 (M B) [g])):PF w v n m k f (λi=>if i=B then E2 (M B) [g]else M i) (l++[(B,g)]):=by
 refine⟨h.1.wrote c d j,λi=>?_,h.3.grown d c,λb a x=>?_⟩
 .by_cases e:i=B;·simp only[aU e];exact Zs _<|h.2 B
  simp only[aM e];exact h.2 i
 by_cases e:b=B
 .subst e;simp only[gG,bU,cS,jC,true_and];rw[YR,dI,bD,cS,h.4 b a x];exact or_comm
 simp only[aM e,bU,cS,jC];rw[h.4 b a x];exact⟨bC,λh=>h.elim id λh=>Sz h.1 e⟩
theorem D6{xs:Wi}(h:n<J xs):Nr xs (n+1)=Nr xs n++Og xs n xs[n].1:=by unfold Nr;rw[dN,eZ];simp[PW,h]
theorem DL{xs t}{a:Za}(h:n<J a):Og xs t (a.take<|n+1)=Og xs t (a.take n)++(XX xs (J xs) t).zip (X9 a[n].2):=by unfold Og;rw[X7 h,eZ];simp
theorem A6(c)(ha:Q (Xp w k B p x))(t:Q (m=J x))(hB:B<=Z w.1)(P:Q (Jy n x)):
 Sk prog 102 #[Sa #[H n,X p m c]] w λh w'=>∃L f z,h=Rt (Hl L m m)/\Z w.1<=L/\Sw (Z w.1) w w'/\XK w' L m ((n+63)/64) f (λ_=>(n+63)/64) z/\(∀i,i<m->Z w.1<=f i)/\XQ z/\∀T,T<m->∀ab,Xh (z T) ab=So↔(T,ab)∈Nr x m:=by
 have hn:m<=1000:=oP t.o P.1.2;have hV:=P.2;have aj:=Y λW_=>Ti m n W_ hn O;have ar:=Y (λW_ (d:Sw (Z w.1) w W_)=>KF n c (Y<|ha.keep (d.mono hB)) t O (oN d.4) (Y<|by rw[t.o];exact P.1.4));have hK:(n+63)/64<=32:=O;have cl:n<=64*((n+63)/64):=O;generalize (n+63)/64=K at*
 go_in
 go_wp2_with fail
 refine(aj _).mono ?_;rintro h S_⟨L,f,rfl,hG,O_,Q_,a7⟩;have ad:Q (Sw (Z w.1) w<|D w (Sc #[H n,X p m c] 25)):=Y<|Xb Rf _;have q0:=G (O_.cell (p:=A (Z w.1) 0) (by show Z w.1<_;simp)) (by simp[go_sem]:(w.alloc<|Sc #[H n,X p m c] 25).cell? (A w.heap.size 0)=S (H n));have q1:=G (O_.cell (p:=A (Z w.1) 1) (by show Z w.1<_;simp)) (by simp[go_sem]:(w.alloc<|Sc #[H n,X p m c] 25).cell? (A w.heap.size 1)=S (X p m c));have M:=Y<|Xg ad O_;have az:=Y Q_;have cj:Z w.1<L:=by simp at hG;omega
 have v:Q (∀i,i<m->Z w.1<f i/\f i<Z S_.1):=Y (λi g=>⟨by have:=a7 i g;simp at this;omega,(Q_.2 i g).lt⟩);have ck:=Q_.1.lt;have ct:=M.4;have cg:Z w.1<Z S_.1:=O;have al:=Y<|ar.o S_ M;clear O_ Q_ a7 hG;go_wp2_with fail
 refine al.mono ?_;rintro h r⟨ci,rfl,V,bd⟩;have u:=Y<|Xg M V;have bx:=Y bd.ints;have bo:Q (O0 r r L m K f []):=Y ⟨_,az.keep V,λ_=>λ_=>vY,U8.refl _ _ _,λT _ ab=>by simp[Z3]⟩;have cx:=oB V q1 cg;have cv:=V.4;clear V bd q0 q1;have bl:=Y<|ha.keep (u.mono hB);go_wp2
 go_loopw [22] (λi wr=>∃a:N,a<=m/\i=H a/\Q (O0 r wr L m K f<|Nr x a)) λi _=>m-(JB i).toNat
 .exact⟨0,aN,R,bo⟩
 obtain⟨a,hk,rfl,b⟩:=hrel;by_cases cd:a<m;rotate_left
 .have cc:a=m:=O;subst cc;go_wp2;go_ret;let⟨z,d⟩:=b.o;refine⟨L,f,z,R,O,⟨G d.3.1 u.1,G d.3.2 u.2,G d.3.3 u.3,aJ u.4 d.3.4,λi g=>G (d.3.5 i (oN u.4) λj C h=>by have:=v j C;omega) (u.5 i g)⟩,d.1,λi g=>by have:=v i g;omega,d.2,d.4⟩
 have P_:a<J x:=oN t.o;obtain⟨T,cw,rfl,a5,hc⟩:=bl a P_;have l:=b.elim λ_ U_=>U_.3;have s:Q (YA k B r wr):=Y (λi W F_=>l.5 i O λj C h=>by have:=v j C;omega);let⟨pa,pc,ia,ic,e0,e1,⟨e2,e3,e4,e5⟩,bb,_⟩:=hc.keepS s<|s T a5.1 a5.2;have aq:=Y bb;have br:=Y<|D6 (xs:=x) P_;have bt:=Y<|P.9 a P_;have ao:=Y (K9 (λch t L_ ht=>(P.1.3 ch t L_ ht).1) a);have I_:=(P.10 x[a] (aH P_)).2;clear hc bb l;generalize x[a]=F at*;go_wp2_with fail
 have bp:Q (O0 r (D wr<|Sc #[X pa (J F.1) pc,X ia (J F.2) ic,H F.3.1,H F.3.a,H F.3.3,H F.3.4] 52) L m K f (Nr x a)):=Y<|b.below (Xb Rf _);have bv:=Y (aq.keepS λi W F_=>(s i W F_).symm);clear s e0 e1 e2 e3 e4 e5 b;generalize wr=wo at*
 go_loopw [30] (λi wr=>∃j:N,j<=J F.1/\i=H j/\Q (O0 r wr L m K f<|Nr x a++Og x a (F.1.take j))) λi _=>J F.1-(JB i).toNat
 .exact⟨0,aN,R,Y<|by rw[show Nr x a++Og x a (F.1.take 0)=Nr x a by simp[Og]];exact bp⟩
 obtain⟨j,C,rfl,b⟩:=hrel;by_cases Y_:j<J F.1;rotate_left
 .have cb:j=J F.1:=O;have y:Q (F.1.take j=F.1):=Y<|aW O;rw[y.o]at b;clear cb;go_wp2;exact⟨⟨a+1,O,gM,Y<|by rw[br.o];exact b⟩,SA⟩
 have l:=b.elim λ_ U_=>U_.3;have s:Q (YA k B r wr):=Y (λi W F_=>l.5 i O λj C h=>by have:=v j C;omega);obtain⟨b2,o2,rfl,cn,ap,cp,f0,f1,a2⟩:=(bv.keepS s) j Y_;have bm:=Y (a2.keepS λi W F_=>(s i W F_).symm);have b1:=Y<|DL (xs:=x) (t:=a) Y_;let⟨a0,a3⟩:=bt F.1[j] (aH Y_);have bn:=Y a3;clear l a2 a3;generalize F.1[j]=e at*;have cr:J (XX x (J x) a)<=m:=oP (tR (xs:=x) (n:=J x) (b:=a)) t.o;have a1:J e.2=J (XX x (J x) a):=by rw[a0,ao.o];simp[Xi]
 have ac:=Y a1;have cm:J e.2<=1000:=O;clear a0 a1;go_wp2_with fail
 have bq:Q (O0 r (D wr<|Sc #[H e.1,X ap (J e.2) cp] 152) L m K f (Nr x a++Og x a (F.1.take j))):=Y<|b.below (Xb Rf _);clear b f0 f1 s;generalize wr=cz at*
 go_loopw [37] (λi wr=>∃q:N,q<=J e.2/\i=H q/\Q (O0 r wr L m K f<|Nr x a++Og x a (F.1.take j)++((XX x (J x) a).zip (X9 e.2)).take q)) λi _=>J e.2-(JB i).toNat
 .exact⟨0,aN,R,Y<|by rw[lK,fF];exact bq⟩
 obtain⟨q,hq,rfl,b⟩:=hrel;by_cases a9:q<J e.2
 .let⟨z,d⟩:=b.o;have l:=d.3;obtain⟨b3,o3,rfl,co,r0⟩:=bm q a9;have bh:=G (Xc (l.5 b3 O λi g h=>by have:=v i g;omega)) r0;let⟨b4,o4,e4,b8,a4,c4,r1,V_⟩:=bx a (by simpa using cd);injection e4 with e4;injection e4 with e5 e6;subst e5;subst e6;have R_:=G (Xc (l.5 (Z S_.1+1) b8.2 λi g h=>by have:=v i g;omega)) r1;simp only[cM,dW,ao.o]at R_ V_;have Z_:q<J (XX x (J x) a):=oN ac.o;let⟨b5,o5,e7,ca,r2⟩:=V_ q (by simpa [Xi]using Z_);subst e7;have bi:=G (Xc (l.5 b5 ca.2 λi g h=>by have:=v i g;omega)) r2;have bc:(Xi<|XX x (J x) a)[q]'(by simpa [Xi]using Z_)=(((XX x (J x) a)[q]:N):I):=by simp[Xi]
  rw[bc]at bi;have I_:(XX x (J x) a)[q]<m:=oP ((Uf.1<|aH Z_).1) t.o
  have aa:=bn e.2[q] (aH a9);have y:Q (((XX x (J x) a).zip (X9 e.2)).take (q+1)=((XX x (J x) a).zip (X9 e.2)).take q++[((XX x (J x) a)[q],e.2[q].toNat)]):=Y (by rw[X7<|by simp[X9];omega];simp[X9])
  let⟨o,bf⟩:=bX aa.1;rw[bf]at bh aa y;simp only[dM]at y;have a8:J (Xi<|XX x (J x) a)=J (XX x (J x) a):=by simp[Xi]
  rw[a8,aV]at R_;have ba:=ac.o;rw[<-ba]at R_;have N_:=Y d;clear d l r0 r1 r2 V_ bc bf b ba a8;generalize (XX x (J x) a)[q]=J_ at*;have b7:=N_.1.1.cell I_;have cs:o<n:=O;clear aa;go_wp2_with fail
  have T_:=Y<|N_.below (Xb Rf (Sc #[H o] 66));have cq:=(N_.1.2 J_ I_).lt;have cf:Z wr.1+1<=Z (D wr<|Sc #[H o] 66).1:=sP;have af:Q (Xf (D wr<|Sc #[H o] 66) (Z wr.1) (Z wr.1+1) (S ⟨Z wr.1,0,U⟩) ([o].map Int.ofNat)):=Y<|UY wr o;have b0:∀L_∈[o],L_<64*K:=λL_ ht=>by
   have h:L_=o:=by simpa using ht
   omega
  refine YU (ZG (f J_) K K 1 1 (z J_) _ [o] (Z wr.1) (Z wr.1+1) _ af (Y R) O (Y b0) O (Y<|N_.2 J_) (Y<|T_.1.2 J_ I_) cf O) λw5⟨a6,be⟩=>?_;have b6:=Y<|T_.add I_ a6 be;clear a6 be b7 bh R_ bi;go_wp2;exact⟨⟨q+1,O,gM,Y ⟨_,by rw[y.o,<-cK];exact b6⟩⟩,SA⟩
 have ce:q=J e.2:=O;have y:Q (((XX x (J x) a).zip (X9 e.2)).take q=(XX x (J x) a).zip (X9 e.2)):=Y (aW<|by simp[X9];omega);rw[y.o]at b;clear ce;go_wp2;exact⟨⟨j+1,O,gM,Y<|by rw[b1.o,<-cK];exact b⟩,SA⟩
theorem GZ(ha:Q (Xf w m k p l))(j:Q (n=J l))(x:n<=1048576)(h:Q (t∈l)):
 Sk prog 128 #[X p n c,H t] w λe o=>e=Rt (H<|de l t)/\o=w:=by
 have g:=pC h;have d:=yq g;generalize r:de l t=z at*
 go_in
 go_wp2
 go_loopw [8] (λi wr=>∃a:N,a<=z/\i=H a/\wr=w) λi _=>n-(JB i).toNat
 .exact⟨0,aN,R,R⟩
 obtain⟨a,u,rfl,rfl⟩:=hrel;have b:a<J l:=O;have v:a<n:=oN j.o;obtain⟨q,y,rfl,_,f⟩:=ha a b;by_cases e:a=z
 .subst e;rw[d]at f;go_wp2;go_ret;exact⟨R,R⟩
 have s:(t==l[a])=Sn:=Is O b;generalize l[a]=C at*;go_wp2;exact⟨⟨a+1,O,gM,JV⟩,SA⟩
def jb(w:Ub)(L B:N)(c:Uy)(a:List (I×I)):Prop :=
 ∀i (h:i<J a),∃b o,c=S ⟨b,o,U⟩/\(L<=b/\b<B)/\E w ⟨b,o+i*2,U⟩=S (Si S6 a[i].1)/\E w ⟨b,o+i*2+1,U⟩=S (Si S6 a[i].2)
theorem jb.keepS{w'}{c:List (I×I)}(h:jb w n m p c)(k:YA n m w w'):jb w' n m p c:=λi g=>by let⟨b,o,e,a,d,f⟩:=h i g;exact⟨b,o,e,a,G (Xc<|k b a.1 a.2) d,G (Xc<|k b a.1 a.2) f⟩
theorem jb.mono{a:List (I×I)}(h:jb w n m p a)(l:k<=n)(j:m<=B):jb w k B p a:=λi f=>by let⟨b,o,e,g,c,d⟩:=h i f;exact⟨b,o,e,O,c,d⟩
def gc:List (I×I)->List Value
 |[]=>[]
 |t::ts=>Si S6 t.1::Si S6 t.2::gc ts
theorem GQ{a:List (I×I)}(t:I×I):gc (a++[t])=gc a++[H t.1,H t.2]:=by
 induction a with
 |nil=>rfl
 |cons x a b=>simp[gc,b]
theorem xy:∀(a:List (I×I))(i:N)(h:i<J a),(gc a)[i*2]?=S (H a[i].1)/\(gc a)[i*2+1]?=S (H a[i].2)
 |[],i,h=>Sz h sP
 |t::a,0,_=>by simp[gc]
 |t::a,i+1,h=>by have:=xy a i SI;rw[show(i+1)*2=i*2+1+1 by omega];simpa [gc]using this
theorem Hb:((A n 0):Addr).add m=(A n<|0+m):=by unfold Addr.add;split<;>simp_all
theorem GO{b:List (I×I)}(h:Sx w n m 2 (X p k B) g (gc b)):jb w n (Z w.1) p b:=λi j=>by
 let⟨d,e⟩:=xy b i j;cases p with
 |none=>
  exfalso;obtain⟨_,e2⟩|⟨_,_,_,e2,_⟩:=h.2
  .have l:=h.1;have:i*2<J (gc b):=(cV.1 d).1;omega
  injection e2 with e3;injection e3
 |some a=>
  have c:(X (S a) k B).ownBlock=S a.1:=R;have f:=h.lt _ c;have e2:a=(A a.1 0):=by
   obtain⟨e3,_⟩|⟨_,_,_,e3,_⟩:=h.2;·injection e3 with e4;injection e4
   injection e3 with e4;injection e4 with e4;rw[e4]
  have c1:=h.cells c _ _ d;have c2:=h.cells c _ _ e;rw[Hb]at c1 c2;exact⟨a.1,0,fI S e2,f,c1,c2⟩
structure my(w:Ub)(E_:N)(t:I)(ta:Uy)(nt ct:N)(ts:List (I×I)):Prop where
 c0:E w ⟨E_,0,U⟩=S (Si S6 t)
 c1:E w ⟨E_,1,U⟩=S (X ta nt ct)
 fz:∀o,w.frozen? ⟨E_,o,U⟩=Sn
 own:Sx w (E_+1) 184 2 (X ta nt ct) nt (gc ts)
theorem my.push{b:List (I×I)}(h:my w n t p m k b)(c:Sw (Z w.1) w v)(f:n<Z w.1){x}(d:Sx u (n+1) 184 2 (X (S ⟨B,0,U⟩) (m+1) g) (m+1) (gc b++[Si S6 x,Si S6 T]))(i:v.grownBy u (X p m k).ownBlock):
 my (Se u ⟨n,1,U⟩ (X (S ⟨B,0,U⟩) (m+1) g)) n t (S ⟨B,0,U⟩) (m+1) g (b++[(x,T)]):=by
 have q:=c.4;have a:=G (i.5 n O λe=>by have:=(h.4.lt _ e.symm).1;omega) (c.5 n f);have l:=d.lt B R;refine⟨?_,?_,λo=>G (eX _ _ _ _) (G (bJ a) (h.3 o)),?_⟩
 .rw[cJ<|by intro e;injection e with _ e;omega];exact G (Xc a) h.1
 .exact fQ _ _ _<|G (Xc a) h.2
 rw[GQ];exact Zl d λj e=>cY λe2=>by injection e with e;dsimp only at e e2;omega
theorem Qf:(prog.info? 184).map (λi=>(i.8,i.3,i.4))=S (S<|Sa #[H 0,H 0],2,16):=vZ
theorem rF{row:Zm}(a:w.grownBy v row)(b:k<Z w.1)(c:S k≠row):(∀o,E v (A k o)=E w (A k o))/\(∀o,v.frozen? (A k o)=w.frozen? (A k o)) :=
 ⟨λo=>a.cell_far (A k o) b c,λo=>a.frozen_far (A k o) b c⟩
theorem GF(W c pc){N_ B2}(ha:Q (Xp w g i p x))(hx:Q (n=J x))(hB:i<=Z w.1)(hp:Q (XR w j B2 P N_))(bf:Q (m=J N_))(a3:B2<=Z w.1)(ht:B<n)(b8:B<m)(hX:Q (∀K_:B<J x,x[B]=q))(bh:Q (∀K_:B<J N_,N_[B]=l))(be:J l<=1048576)(b6:J q.1<=1048576)(hm:Q ((k:I)∈l))(bd:Q (∀F (K_:F<J q.1),ZX t (J l) q.1[F]=So)):
 Sk prog 82 #[Sa #[H W,X p n c],X P m pc,H k,H B] w
  λr M=>∃d e,r=Rt (Sa #[H B,X d (J q.1) e])/\Sw (Z w.1) w M/\jb M (Z w.1) (Z M.1) d (E9 (de l k) q.1):=by
 have az:B<J x:=oN hx.o;have ar:B<J N_:=oN bf.o;let⟨i0,a9,bi,bm,bn⟩:=fX Qf;obtain⟨h,o,rfl,⟨_,b1⟩,hc⟩:=ha B az;rw[hX.o az]at hc;obtain⟨fa,fc,ia,ic,e0,-,-,ap,-⟩:=hc;obtain⟨b2,o2,rfl,⟨_,bx⟩,qa,qc,q0,hq⟩:=hp B ar;rw[bh.o ar]at q0 hq;have H_:=λb y V=>Xb (Xb (Xb (dC (Z w.1) w) b) y) V;have E0:=λb y V=>oB (H_ b y V) e0 O;have Q0:=λb y V=>oB (H_ b y V) q0 O;have HQ:=λb y V=>Y<|hq.keep ((H_ b y V).mono a3);have hI:=Y<|pC hm;have a2:=Y ap;clear ap hq;have ST:∀b,my (D (D (D w b) (Sc #[H 0,Hq] 181)) (Sc #[H B,Hq] 181)) (Z w.1+1+1) B U 0 0 []:=λb=>⟨SC,SC,λo=>by simp[go_sem],dA⟩
 go_in
 go_wp2_with (go_at_call 128;refine YU (GZ (HQ _ _ _) R be hm) ?_;rintro f rfl)
 generalize a4:de l k=K at*;have aj:=H_ (Sc #[H W,Hm h o n c] 25) (Sc #[H 0,Hq] 181) (Sc #[H B,Hq] 181);have aq:=ST<|Sc #[H W,Hm h o n c] 25;have r0:D (D (D w<|Sc #[H W,Hm h o n c] 25) (Sc #[H 0,Hq] 181)) (Sc #[H B,Hq] 181)=D (D (D w<|Sc #[H W,Hm h o n c] 25) (Sc #[H 0,Hq] 181)) (Sc #[H B,Hq] 181):=R;clear r0 ST H_ HQ Q0 q0;have a5:∀o,(D (D (D w<|Sc #[H W,Hm h o n c] 25) (Sc #[H 0,Hq] 181)) (Sc #[H B,Hq] 181)).frozen? (A (Z w.1+1) o)=Sn:=λo=>by simp[go_sem]
 go_loopw [28] (λF wr=>∃(a:N)(d:Uy)(e:N),a<=J q.1/\F=H a/\Q (Sw (Z w.1) w wr)/\Z w.1+1+1+1<=Z wr.1/\Q (my wr (Z w.1+1+1) B d a e (E9 K<|q.1.take a))/\Q (E wr (A (Z w.1+1) 0)=S (H 0)/\E wr (A (Z w.1+1) 1)=S Hq/\∀o,wr.frozen? (A (Z w.1+1) o)=Sn)) λF _=>J q.1-(JB F).toNat
 .exact⟨0,U,0,aN,R,Y aj,sP,Y (by simpa [E9]using aq),Y ⟨SC,SC,λo=>by simp[go_sem]⟩⟩
 obtain⟨a,d,e,hk,rfl,M_,ca,s,U_⟩:=hrel;clear aj aq a5 E0 e0;by_cases W_:a<J q.1;rotate_left
 .have ba:a=J q.1:=O;subst ba;let⟨m0,m1,mz,mo⟩:=s.o;let⟨r0,r1,rz⟩:=U_.o;have HO:=λb y=>Zl (w':=Se (Se wr (A (Z w.1+1) 0) b) (A (Z w.1+1) 1) y) mo (λh r=>by have:=(mo.lt h r).1;rw[cY SG,cY<|by dsimp only;omega]);have a1:=Y HO;clear HO mo;go_wp2;refine YL (v:=Sa #[H B,X d (J q.1) e]) ⟨d,e,R,(M_.setCell (by show Z w.1<=Z w.1+1;omega) _).setCell (by show Z w.1<=Z w.1+1;omega) _,?_⟩;have K_:=GO<|a1 (H B) (X d (J q.1) e);rw[gC]at K_;rw[a4];exact K_.mono O<|aA
 obtain⟨b',o',rfl,⟨_,bv⟩,aa,cc,g0,g1,af⟩:=a2 a W_;let⟨⟨d0,d1⟩,a6,a8⟩:=GW<|bd a W_;have Y_:E9 K (q.1.take<|a+1)=E9 K (q.1.take a)++[(q.1[a].1,q.1[a].2.getD K 0)]:=by unfold E9;rw[X7 W_,bG];rfl
 have ac:K<J q.1[a].2:=oN hI.o;have ad:q.1[a].2.getD K 0=q.1[a].2[K]:=by simp[ac]
 rw[ad]at Y_;obtain⟨v,o3,rfl,⟨_,b0⟩,h3⟩:=af K ac;have G0:=G (XU M_ O) g0;have G1:=G (XU M_ O) g1;have G3:=G (XU M_ O) h3;have a0:=Y Y_;have bt:J q.1[a].2<=1048576:=O;clear Y_ ad af a8 a6 h3 g0 g1;generalize q.1[a].2[K]=O_ at*;generalize J q.1[a].2=al at*;generalize q.1[a].1=J_ at*;generalize E9 K (q.1.take a)=TS at*;have c3:=λb y=>oB (Xb (Xb (dC (Z wr.1) wr) b).drew y) G3 O;have m1:=λb y=>oB (Xb (Xb (dC (Z wr.1) wr) b).drew y) s.2 O;have mz:=λb y o=>G ((Xb (Xb (dC (Z wr.1) wr) b).drew y).frozen (p:=A (Z w.1+1+1) o) (by show Z w.1+1+1<_;omega)) (s.3 o);have bp:=λb=>oB ((Xb (dC (Z wr.1) wr) b).drew) s.2 O;have m2:∀b y,E (D (D wr b) y) (A (Z w.1+1+1) 1)=S (X d a e):=m1;have ab:=λb y=>Zl s.4 λh r=>((Xb (Xb (dC (Z wr.1) wr) b).drew y).5 h (s.4.lt h r).2);have bc:∀u,Z wr.1<=u->S u≠(X d a e).ownBlock:=λu hq r=>by have:=(s.4.lt u r.symm).2;omega
 have X_:∀u,u<Z w.1+1+1+1->S u≠(X d a e).ownBlock:=λu hq r=>by have:=(s.4.lt u r.symm).1;omega
 have HP:∀(b y:Obj)(L z:N)(f:Ub),Sx f (Z w.1+1+1+1) 184 2 (Hl L (a+1) z) (a+1) (gc TS++[H J_,H O_])->(D ((D wr b).drew) y).grownBy f (X d a e).ownBlock ->
  my (Se f (A (Z w.1+1+1) 1) (Hl L (a+1) z)) (Z w.1+1+1) B (S ⟨L,0,U⟩) (a+1) z (TS++[(J_,O_)])/\Sw (Z w.1) w f/\f.1[Z w.1+1]?=wr.1[Z w.1+1]?/\Z wr.1<=Z f.1:=λb y L z f ho T=>by
  have S_:=Xb (Xb (dC (Z wr.1) wr) b).drew y;have b5:=T.4;have b4:=S_.4;exact⟨s.push S_ O ho T,Xy (M_.trans<|S_.mono O) T (ab b y) O O,G (T.5 _ O<|X_ _ O) (S_.5 _ O),O⟩
 have n3:Z w.1+1+1≠v:=O;have n5:Z w.1+1+1≠Z wr.1:=O;go_wp2;refine Y7 (λM=>E M (A (Z wr.1) 0)=S (H J_)/\E M (A (Z wr.1) 1)=S (Hm v o3 al cc)/\E M (A v<|o3+K)=S (H O_)) λig=>?_;refine Xn 0 ?_;refine Xn 2 ?_;(iterate 7 refine Rm ?_);refine eS (rs:=[1,10]) vZ sP ?_;refine(bQ R (λR_ hK=>?_) (bQ R (λR_ hK=>?_) dY))
 focus
  go_simp;refine hK _ _ kP λig=>?_;clear hK
  refine eS (rs:=[10]) vZ sP ?_
 rotate_left
 focus
  go_simp;refine hK _ _ kP λig=>?_;clear hK
  refine eS (rs:=[1]) vZ sP ?_
 all_goals (
  refine bQ R (λR_ hK=>?_) dY;go_simp;refine hK _ _ kP λig=>?_;clear hK
  refine Xs 11 λR_ hK=>?_;refine XC _ R (.tmp 33) (.tmp 42) 179 R (Z w.1+1+1+1) 184 i0 (Sa #[H 0,H 0]) 2 16 underlying179 a9 bi bm bn R vY (X d a e) a (gc TS) SE (ab _ _) (A (Z wr.1+1) 0) 1 1 [H J_,H O_] SE R ?_ (by intro bq hu;simp at hu;obtain rfl|rfl:=hu<;>rfl) vY SD O SB (Z wr.1+1+1) sP ?_
  .intro bo bq C
   match bo,C with
   |0,C=>simp at C;subst C;simp[Addr.add,go_sem]
   |1,C=>simp at C;subst C;simp[Addr.add,go_sem]
  intro L z f ao L_ a7 bb;have Q_:=Y<|HP _ _ L z f ao L_;obtain⟨V_,-⟩:=rF L_ (k:=Z wr.1) (by simp<;>omega) (bc _ O);obtain⟨f3,-⟩:=rF L_ (k:=v) (by simp<;>omega) (X_ _ O);let⟨f1,e1⟩:=rF L_ (k:=Z w.1+1+1) (by simp<;>omega) (X_ _ O);have kx:Cl f (Z wr.1) 0 (H J_):=G (V_ 0) SC;have ky:Cl f (Z wr.1) 1 (Hm v o3 al cc):=G (V_ 1) SC;have kz:=G (f3 _) (c3 _ _);have k1:=G (f1 1) (m1 _ _);have z1:=λo=>G (e1 o) (mz _ _ o)
  clear V_ f1 f3 e1 ao L_ a7 bb;refine hK _ _ kP λig=>?_;clear hK;refine Xn 12 ?_;refine Xs 13 λR_ hK=>?_;go_simp;refine hK _ _ kP λig=>?_;clear hK;refine Yq ?_;go_wp2;have Z_:(Se f (A (Z w.1+1+1) 1) (Hl L (a+1) z)).1[Z w.1+1]?=wr.1[Z w.1+1]?:=G (cY<|by show Z w.1+1≠Z w.1+1+1;omega) Q_.2.2.1;exact⟨⟨a+1,S<|A L 0,z,O,gM,Y (Q_.2.1.setCell (by show Z w.1<=Z w.1+1+1;omega) _),by have:=Q_.2.2.2;simp only[Xd];omega,Y (a0.o▸Q_.1),Y ⟨G (Xc Z_) U_.1,G (Xc Z_) U_.2.1,λo=>G (bJ Z_) (U_.2.2 o)⟩⟩,SA⟩)
end Go.Proofs.YtcncjgijikoapaaGreatDoor
