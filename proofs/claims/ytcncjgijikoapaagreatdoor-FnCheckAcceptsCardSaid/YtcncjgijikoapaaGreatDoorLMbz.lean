import Derived.Test.YtcncjgijikoapaaGreatDoorTN5
import Derived.Test.YtcncjgijikoapaaGreatDoorSPa
namespace Go.Proofs.YtcncjgijikoapaaGreatDoor
set_option maxHeartbeats 4000000
set_option maxRecDepth 100000
open _root_ renaming Int->I,Bool.true->So,Nat->N,rfl->R,Bool.false->Sn,List.length->J,Array.size->Z,Option.some->S,Option.none->U,Decidable.decide->Jd,trivial->JV
open Go renaming World.cell?->E,World.alloc->D,Obj.cells->Sc,Ending.returned->Rt,RowKit.Below->Sw,Calls->Sk,RowKit.intOf->JB,World.setCell->Se,undef->Su,results->JC
open Value renaming slice->X,bool->Sb,agg->Sa,tuple->St
open Go.RowKit Go.Proofs.Tryz Go.Shelf
variable{t T:I}{n m k c:N}{w v u:Ub}{p P:Uy}{s:Wa}{l:Wc}{x:Wi}
theorem CR(h:MD t x l T=So):Pm t x l T:=by unfold MD at h;exact @fV _ (Classical.propDecidable _) h
section
variable {V: N} {xs: Wi} {cs: Wc} {k: I}
theorem Ac{u:Bool}{x b a:I}(h:u=So->b<=x/\x<a)(c:u=Sn->x=0):Tp u x b a=So:=by
 unfold Tp;cases u with
 |true=>have:=h R;simp[this]
 |false=>simp[c R]
theorem Ea{u:Bool}{x c a:I}(h:Tp u x c a=So)(b:u=Sn):x=0:=by subst b;simpa [Tp]using h
theorem l8.lcf(h:l8 V xs cs k){u:Bool}{x:I}(a:Tp u x 0 V=So):Tp u (if u=So then Kp cs x else x) 0 k=So:=by
 cases u with
 |true=>
  have:=Vb a R;have c:=h.col this.1 this.2;exact Ac (λ_=>c) λe=>by cases e
 |false=>exact Ac (λe=>by cases e) λ_=>Ea a R
theorem l8.ins(h:l8 V xs cs k){y:Yg}(a:Yw (V:I) 10 y=So):Yw k 13 (ZR cs y)=So:=by unfold Yw at a |-;simp only[bY,bD]at a |-;obtain⟨⟨⟨⟨⟨b,g⟩,c⟩,d⟩,e⟩,f⟩:=a;exact⟨⟨⟨⟨⟨b,by show y.1<=13;omega⟩,h.lcf c⟩,h.lcf d⟩,h.lcf e⟩,f⟩
def z8(k:I)(m:Mv):Prop:=(0<=m.1/\m.1<k)/\(m.2=-1\/0<=m.2/\m.2<k)
theorem UG(p:1<=k){L:Wy}(l:L≠[])(h:∀m∈L,z8 k m):Yw k 13 (dm L).1=So/\∀m∈(dm L).2,z8 k m:=by
 have f:∀t,t∈ai L->0<=t/\t<k:=λt b=>by obtain⟨m,a,rfl⟩:=aY.1 b;exact(h m a).1
 unfold dm;cases e:bj (fo L)with
 |some t=>
  dsimp only;have b:t∈ai L:=(fG.1 (mq e).1).1;have o:pz L t=-1\/0<=pz L t/\pz L t<k:=by
   unfold pz;cases e2:L.find? (λm=>m.1==t)with
   |none=>exact aZ ⟨zP _,by show(0:I)<k;omega⟩
   |some m=>exact(h m<|List.mem_of_find?_eq_some e2).2
  have:=f t b;refine⟨?_,λm a=>h m (fG.1 a).1⟩;unfold N3;split;·simp[Yw,Tp,dB,aB,bB,Wu,this]
  rename_i j;dsimp only at j;have g:0<=pz L t/\pz L t<k:=O;simp[Yw,Tp,dB,aB,bB,Wu,this,g]
 |none=>
  cases e2:bj (ai L)with
  |none=>
   exfalso;have:=lj.1 e2;unfold ai at this;exact l<|List.map_eq_nil_iff.1 this
  |some r=>
   dsimp only;have n:=f r (mq e2).1;refine⟨by simp[Yw,Tp,dB,aB,bB,Wu,n],λm a=>?_⟩;obtain⟨d,i,rfl⟩:=aY.1 a;have:=h d i;by_cases c:d.2=r;·rw[aU c];exact⟨this.1,bC R⟩
   rw[aM c];exact this
theorem J3(b:1<=k):∀(n:N)(L:Wy),(∀m∈L,z8 k m)->∀y∈ax n L,Yw k 13 y=So
 |0,_,_,y,a=>by simp[ax]at a
 |_+1,[],_,y,a=>by simp[ax]at a
 |n+1,m::L,h,y,a=>by
  obtain⟨c,d⟩:=UG b (List.cons_ne_nil m L) h;obtain rfl|a:=cH.1 a;·exact c
  exact J3 b n _ d y a
theorem l8.cp(h:l8 V xs cs k)(i:1<=k)(p:N)(t:I):∀y∈NL cs xs p t,Yw k 13 y=So:=λy c=>by
 unfold NL dp at c;split at c
 .refine J3 i _ _ (λm b=>?_) y c;have b:=(fG.1 b).1;unfold NU E9 at b;obtain⟨q,j,rfl⟩:=aY.1 b;obtain⟨d,a,rfl⟩:=aY.1 j;unfold iT at a;cases e:xs[t.toNat]? with
  |none=>rw[e]at a;cases a
  |some x=>
   rw[e]at a;obtain⟨g,rfl⟩:=cV.1 e;have f:=h.ok.8 _ (aH g) d a;have ha:=(h.ok.9 _ g d a).2;refine⟨h.col f.1 f.2,aZ ?_⟩;dsimp only;generalize de (AQ xs 0 t) (p:I)=l;rw[bF];cases e2:d.2[l]? with
   |none=>exact h.col (zP _) (by show(0:I)<V;omega)
   |some z=>
    have:=ha z<|eN e2;exact h.col this.1 this.2
 cases c
end
section
variable {V: N} {xs: Wi} {cs: Wc} {k: I}
theorem Fw{u:Bool}{x n b:I}(h:Tp u x 1 n=So)(a:n<=b):Tp u x 0 b=So :=
 Ac (λe=>by have:=Vb h e;omega) λe=>Ea h e
theorem l8.ter(h:l8 V xs cs k){t:Yj}{n N_:I}(a:Zu (V:I) 1 n t=So)(b:n<=N_):Zu k 0 N_ (NN cs t)=So:=by
 unfold Zu at a |-;simp only[bY,bD]at a |-;obtain⟨⟨⟨⟨c,d⟩,f⟩,g⟩,i⟩:=a;refine⟨⟨⟨⟨c,d⟩,?_⟩,Fw g b⟩,Fw i b⟩;have:=h.lcf f;show Tp (t.1 != 1) (if t.1=1 then t.a else Kp cs t.a) 0 k=So;by_cases e:t.1=1
 .rw[aU e];simpa [e]using this
 rw[aM e];have e2:(t.1 != 1)=So:=by simpa using e
 rw[e2]at this |-;rwa[aU R]at this
theorem l8.sd(h:l8 V xs cs k)(d:1<=k)(p:N){t:I}(f:0<=t/\t<J xs)(m:N)(i:N)(g:J xs<=i)(a:m+J (ah cs xs p t m).2<=i):(0<=(ah cs xs p t m).1/\(ah cs xs p t m).1<(i:I))/\∀y∈(ah cs xs p t m).2,Vdf k i y=So:=by
 unfold ah at a |-;split;·exact⟨SG,λy b=>by cases b⟩
 rename_i e;rw[aM e]at a;simp only[nR]at a;refine⟨SG,λy b=>?_⟩;rw[cS.1 b];unfold Vdf;rw[bY];refine⟨dV.2<|h.cp d p t,?_⟩;have c:t<(i:I):=O;simp[Zu,Tp,f.1,c]
theorem l8.blk(h:l8 V xs cs k)(j:1<=k){b:N}(g:b<J xs)(m x:N)(e:J xs<=x)(c:m+J (Nk cs xs b xs[b] m).2<=x):Vdf k x (Nk cs xs b xs[b] m).1=So/\∀y∈(Nk cs xs b xs[b] m).2,Vdf k x y=So:=by
 have q:=h.1;simp only[XJ,bY]at q;obtain⟨⟨⟨⟨_,v⟩,w⟩,_⟩,_⟩:=q;have s:∀y∈xs[b].2,Yw (V:I) 10 y=So:=λy a=>dV.1 (dV.1 w _<|aH g) y a
 have f:=dV.1 v _<|aH g;simp only[Jf,bY]at f;have o:=h.ok.1.3 _<|aH g;have i:(xs[b].2.map (ZR cs)).all (Yw k 13)=So:=dV.2 (λy a=>by obtain⟨z,u,rfl⟩:=aY.1 a;exact h.ins<|s z u)
 have p:=h.ter (N_:=x) f.1 (by exact_mod_cast e);unfold Nk at c |-;by_cases r:xs[b].3.1=1
 .rw[aU r];refine⟨?_,λy a=>by cases a⟩;unfold Vdf;rw[bY];refine⟨?_,p⟩;dsimp only;rw[sS,bY];exact⟨i,dV.2<|h.cp j _ _⟩
 rw[aM r]at c |-;by_cases d:xs[b].3.1=2
 .rw[aU d]at c |-;have n:xs[b].3.tg=[xs[b].3.3,xs[b].3.4]:=by simp[Yj.tg,d]
  dsimp only at c |-;rw[aQ]at c;obtain⟨s1,s2⟩:=h.sd j b (o xs[b].3.3 (by rw[n];simp)) m x e O;obtain⟨s3,s4⟩:=h.sd j b (o xs[b].3.4 (by rw[n];simp)) (m+J (ah cs xs b xs[b].3.3 m).2) x e O;refine⟨?_,λy a=>?_⟩
  .unfold Vdf;rw[bY];refine⟨i,?_⟩;have l:=f.1;unfold Zu at l;simp only[bY,bD]at l;have ha:=Vb l.1.1.2 (by simp[d]);have t:=h.col ha.1 ha.2;simp[Zu,Tp,d,s1,s3,t]
  obtain a|a:=bU.1 a;·exact s2 y a
  exact s4 y a
 rw[aM d];refine⟨?_,λy a=>by cases a⟩;unfold Vdf;rw[bY];exact⟨i,p⟩
theorem l8.all(h:l8 V xs cs k)(c:1<=k):∀b,b<=J xs->∀j,J xs<=j->J xs+J (ae cs xs b).2<=j->(∀y∈(ae cs xs b).1,Vdf k j y=So)/\∀y∈(ae cs xs b).2,Vdf k j y=So
 |0,_,_,_,_=>by simp[ae]
 |b+1,hb,j,hN,hm=>by
  rw[ou cs xs b hb]at hm |-;dsimp only at hm |-;rw[aQ]at hm;obtain⟨d,e⟩:=h.all c b O j hN O;obtain⟨f,i⟩:=h.blk c (b:=b) hb (J xs+J (ae cs xs b).2) j hN O;refine⟨λy a=>?_,λy a=>?_⟩
  .rcases bU.1 a with g|g;·exact d y g
   rw[cS.1 g];exact f
  obtain g|g:=bU.1 a;·exact e y g
  exact i y g
def sM(a:Wi):N:=(a.map λx=>J x.2).sum
theorem zB{a b:List ag}:Pj (a++b)=Pj a+Pj b:=by simp[Pj]
theorem IT(p:N)(t:I)(m:N):Pj (ah cs xs p t m).2<=129:=by
 unfold ah;split;·exact aN
 have:=m8<|NU cs xs p t;have h:J (NL cs xs p t)<=128:=this;simp[Pj];omega
theorem WB(b:N)(x:Xe)(m:N):Pj [(Nk cs xs b x m).1]<=J x.2+129/\Pj (Nk cs xs b x m).2<=258:=by
 unfold Nk;split
 .have:=m8<|NU cs xs b x.3.3;have h:J (NL cs xs b x.3.3)<=128:=this;refine⟨by simp[Pj];omega,aN⟩
 split
 .refine⟨by simp[Pj];omega,?_⟩;rw[zB];have:=IT (cs:=cs) (xs:=xs) b x.3.3 m;have:=IT (cs:=cs) (xs:=xs) b x.3.4 (m+J (ah cs xs b x.3.3 m).2);omega
 exact⟨by simp[Pj];omega,aN⟩
theorem F9:∀b,b<=J xs->Pj (ae cs xs b).1+Pj (ae cs xs b).2<=sM (xs.take b)+b*387
 |0,_=>aN
 |b+1,hb=>by
  have:=F9 b O;obtain⟨a,c⟩:=WB (cs:=cs) (xs:=xs) b xs[b] (J xs+J (ae cs xs b).2);rw[ou cs xs b hb];dsimp only;rw[zB,zB];have e:sM (xs.take<|b+1)=sM (xs.take b)+J xs[b].2:=by unfold sM;rw[bN hb,bG,List.sum_append];rfl
  omega
theorem MK(a:Wi):sM a<=Xo a:=by
 induction a with
 |nil=>exact aA
 |cons y a e=>
  have b:sM (y::a)=J y.2+sM a:=by simp[sM]
  have c:Xo (y::a)=Ul y+Xo a:=by simp[Xo]
  have d:J y.2<=Ul y:=by unfold Ul;omega
  omega
theorem l8.valid(h:l8 V xs cs k)(b:1<=k)(n:k<=64)(q:J xs<=12):nK k (NK cs xs)=So:=by
 have o:=ll cs xs (J xs) aA;have s:J (NK cs xs)=J xs+J (ae cs xs (J xs)).2:=by unfold NK;rw[aQ,o]
 have a:=h.ok;have m:=yo cs xs a.1.2 λx p=>(a.10 x p).1;have d:=h.1;simp only[XJ,bY]at d;have c:=d.1.1.1.1;simp only[Y6,bY,bD]at c;have j:=F9 (cs:=cs) (xs:=xs) (J xs) aA;rw[gC]at j;have r:=MK xs;have l:Pj (NK cs xs)<=20000:=by unfold NK;rw[zB];have:Xo xs<=4000:=c.2;omega
 obtain⟨f,i⟩:=h.all b (J xs) aA (J (NK cs xs)) O O;unfold nK;rw[Fr b n (oN a.1.1) m.1 l,rS];refine dV.2 λy e=>?_;unfold NK at e;obtain g|g:=bU.1 e;·exact f y g
 exact i y g
end
theorem QJ(V j:I)(c:N){mn:N}{M:List ag}(ha:Q (Xp w 0 k p x))(hm:Q (d7 w 0 k P M))(hB:k<=Z w.1)(F:Q (n=J x))(L:Q (mn=J M))(bv:mn<=m)(hn:n<=1000)(bx:mn<=1048576)(T:Q (sX x l M))(bm:Q (∀Q_∈x,∀z∈Q_.2,z.1<=10))(bo:Q (∀Q_∈x,∀a2∈Q_.3.tg,0<=a2/\a2<J x))(bi:Q (∀Q_∈x,J Q_.2<=1048576))(ar:Q (∀z∈M,J z.1<=1048576)):
 Sk prog 24 #[Sa #[H V,X p n c],Sa #[H j,X P mn m]] w λf q=>f=Rt (Sb So)/\Sw (Z w.1) w q:=by
 have b0:n<=mn:=by have:=T.1;have:=F.o;have:=L.o;omega
 have b6:¬mn<n:=O;have b5:¬(mn:I)<(n:I):=O;obtain⟨R_,C⟩:∃R_,R_=if m=n then P else P.map (·.add (n*5)):=⟨_,R⟩
 have bn:∀W,(Instr.sliceAt 29 (X P mn m) (S<|H n) U U).run prog W=.ok (X R_ (mn-n) (m-n)) W:=λW=>by
  have B:(n:I)<=mn:=O;by_cases f:m=n
  .rw[aU f]at C;subst C;simp[go_sem,B,f]
  rw[aM f]at C;subst C;simp[go_sem,B,f]
 have HA:=Y C;clear C
 go_in
 go_wp2;have bA:Bx (D (D w (Sc #[H V,X p n c] 25)) (Sc #[H j,X P mn m] 31)) (Z w.1) #[H V,X p n c] 25:=(Bx.new w _ _).box _;have bB:Bx (D (D w (Sc #[H V,X p n c] 25)) (Sc #[H j,X P mn m] 31)) (Z w.1+1) #[H j,X P mn m] 31:=by have bc:=Bx.new (D w (Sc #[H V,X p n c] 25)) #[H j,X P mn m] 31;rwa[aO]at bc
 have aa:Q (Sw (Z w.1) w<|D (D w (Sc #[H V,X p n c] 25)) (Sc #[H j,X P mn m] 31)):=Y<|Xb (Xb Rf _) _;have az:Z (D (D w (Sc #[H V,X p n c] 25)) (Sc #[H j,X P mn m] 31)).1=Z w.1+2:=sP;generalize D (D w _) _=o at*;have ac:=Y bA;have ad:=Y bB;have a:=Y az;have a9:=Y<|ha.keep (aa.mono hB);have ab:=Y<|hm.keep (aa.mono hB);clear bA bB az bn
 go_loopw [23] (λu wr=>∃i:N,i<=mn-n/\u=H i/\Q (Sw (Z o.1) o wr)) λu _=>mn-n-(JB u).toNat
 .exact⟨0,aN,R,Y<|Rf⟩
 obtain⟨i,hi,rfl,d⟩:=hrel;have U_:=d.4;by_cases bl:i<mn-n
 .have hq:n+i<J M:=oN L.o
  obtain⟨s,o_,rfl,hg,g,h,e0,⟨e1,e2,e3,e4⟩,K_⟩:=ab.keep (d.mono<|oN a.o) (n+i) hq;have bd:R_=S (A s (o_+n*5)):=by rw[HA.o,aM O];show S (((A s o_):Addr).add (n*5))=_;unfold Addr.add;simp
  subst bd;rw[show o_+(n+i)*5=o_+n*5+i*5 by omega]at e0 e1 e2 e3 e4;obtain⟨b1,b2,b3,b4⟩:=T.2 (n+i) hq (oN F.o);have bk:=ar.o _<|aH hq;rw[b2]at e1;have b7:¬(n:I)<=M[n+i].2.3:=oN F.o;have I_:=Y (λW (e:Sw (Z wr.1) wr W)=>Jz g (J M[n+i].1) h [] M[n+i].1 0 k W (Y<|by rw[dR];exact K_.keep<|e.mono (oN a.o)) (Y sP) bk (oP a.o e.4) (Y sP) (Y λz t=>(b1 z t).1));generalize J M[n+i].1=v at*;generalize M[n+i].2.3=kh at*;clear b1 b2 b3 b4 K_;go_wp2_with fail
  refine(I_.o _<|Xb Rf _).mono ?_;rintro f w5⟨a5,c5,rfl,b,_⟩;have r:=(Bx.new wr #[X g v h,H 1,H M[n+i].2.a,H kh,H M[n+i].2.4] 54).keep (b.5 _ sP);have t1:=Bx.c r 1;have t3:=Bx.c r 3;have a3:=Y<|d.trans ((Xg (Xb (dC (Z wr.1) wr) _) b).mono U_);clear r b I_;go_wp2;exact⟨⟨i+1,O,gM,a3⟩,SA⟩
 have f0:=oB d (Bx.c ac.o 0) (by show Z w.1<_;have:=a.o;omega);have f1:=oB d (Bx.c ac.o 1) (by show Z w.1<_;have:=a.o;omega);clear HA;go_wp2
 go_loopw [8,49] (λu8 u wr=>∃i:N,i<=n/\u=H i/\Q (Sw (Z o.1) o wr)) λ_ u _=>n-(JB u).toNat
 .exact⟨0,aN,R,d⟩
 clear d f0 f1;obtain⟨i,hi,rfl,d⟩:=hrel;have U_:=d.4;by_cases bl:i<n
 .have K:i<J x:=oN F.o;have L_:i<J M:=oN L.o
  obtain⟨b_,o_,rfl,bq,pa,pc,g,h,e0,e1,⟨t0,t1,t2,t3⟩,-,K_⟩:=a9.keep (d.mono<|oN a.o) i K;obtain⟨s,og,rfl,hg,ja,jc,m0,-,aq⟩:=ab.keep (d.mono<|oN a.o) i L_;obtain⟨l1,l2,l3,l4⟩:=T.3 i K L_;have af:=Y<|T.4 i K L_;have a6:=Y T.2;have h0:=oB d (Bx.c ad.o 0) (by show Z w.1+1<_;have:=a.o;omega);have B:=oB d (Bx.c ad.o 1) (by show Z w.1+1<_;have:=a.o;omega);have bg:=bi.o _<|aH K;have bh:=ar.o _<|aH L_;have I_:=Y (λW (e:Sw (Z wr.1) wr W)=>Jz ja (J (x[i].2.map (ZR l)++SX l x i x[i])) jc (x[i].2.map (ZR l)) (SX l x i x[i]) 0 k W (Y<|by rw[<-l1];exact aq.keep<|e.mono (oN a.o)) (Y R) (by rw[<-l1];exact bh) (oP a.o e.4) (Y (λz t=>by
   obtain⟨bp,hz,rfl⟩:=aY.1 t;exact bm.o _ (aH K) bp hz)) (Y (λz t=>by
   unfold SX at t;split at t;·exact(zL z t).1
   cases t)))
  rw[<-l1,bK]at I_;have a7:=Y (λW a' c' D_ (e:Sw (Z wr.1) wr W) (hD:D_<=Z W.1) (bf:YY W D_ (Z W.1) a' (x[i].2.map (ZR l)))=>XS g h (J x[i].2) c' x[i].2 0 k (Y<|K_.keep (e.mono<|oN a.o)) (Y bf) (Y R) (Y R) (Y sP) bg (oP a.o e.4) aA (Y λa1 B h2=>by rw[cM];exact⟨R,R⟩));have a8:=Y (λW (e:Sw (Z o.1) o W)=>Lo j (S ⟨s,og,U⟩) m i n 0 k W (Y<|ab.keep (e.mono<|oN a.o)) L (oP a.o e.4) (oN L.o) (Y ⟨L_,R⟩) (Y l2) (Y l3) (Y (λa1 q1 q2=>by
   have ht:=bo.o _ (aH K) _ (aH q1);obtain⟨z1,_⟩|⟨u,z1,z2,_,z4⟩:=af.o a1 q1 q2;·exact bC ⟨z1,oN F.o⟩
   obtain⟨z5,z6⟩:=cV.1 z4
   exact aZ ⟨u,z5,z1,oN F.o,by rw[z6]⟩)))
  clear l1 l2 l3 l4 K_ aq af a6;generalize J M[i].1=jl at*;generalize J x[i].2=v at*;generalize J x[i].1=pl at*;generalize x[i].2.map (ZR l)=zs at*;generalize x[i].3=ba at*;obtain⟨Tk,RX,Tt,Te⟩:=ba;dsimp only at*;have be:s<Z wr.1:=oN a.o;have br:i<mn:=O;have bt:(i:I)<(mn:I):=O;have au:Z w.1+1<Z wr.1:=oN a.o
  have H_:=Y (λ(W:Ub)(e:Sw (Z wr.1+1) (D wr (Sc #[X pa pl pc,X g v h,H Tk,H RX,H Tt,H Te] 52)) W)=>show E W (A (Z wr.1) 1)=S (X g v h)/\E W (A (Z wr.1) 2)=S (H Tk)/\E W (A (Z wr.1) 3)=S (H RX)/\E W (A (Z wr.1) 4)=S (H Tt)/\E W (A (Z wr.1) 5)=S (H Te)/\E W (A (Z w.1+1) 0)=S (H j)/\E W (A (Z w.1+1) 1)=S (Hm s og mn m)/\E W (A s (og+i*5))=S (X ja jl jc)from by
   have r:=(Bx.new wr #[X pa pl pc,X g v h,H Tk,H RX,H Tt,H Te] 52).keep (e.5 _ O);have kk:∀O_:Addr,O_.1<Z wr.1->E W O_=E wr O_:=λO_ hp=>G (e.cell (p:=O_) O) (bP _ _ _ hp)
   exact⟨Bx.c r 1,Bx.c r 2,Bx.c r 3,Bx.c r 4,Bx.c r 5,G (kk _ au) h0,G (kk _ au) B,G (kk _ be) m0⟩)
  have ao:Sw (Z wr.1) wr (D wr (Sc #[X pa pl pc,X g v h,H Tk,H RX,H Tt,H Te] 52)):=Xb Rf _;have a0:Z (D wr (Sc #[X pa pl pc,X g v h,H Tk,H RX,H Tt,H Te] 52)).1=Z wr.1+1:=sP;go_wp2_with fail
  generalize D wr _=y at*;have T_:=Y a0;have S_:=Y ao;clear a0 ao e0 e1 t0 t1 t2 t3 m0 h0 B;rw[<-T_.o]at H_;obtain⟨f1,f2,f3,f4,f5,f6,f7,f8⟩:=H_.o y<|Rf;refine Y7 (λq=>E q (A (Z wr.1) 1)=S (X g v h)/\E q (A (Z wr.1) 2)=S (H Tk)/\E q (A (Z wr.1) 3)=S (H RX)/\E q (A (Z wr.1) 4)=S (H Tt)/\E q (A (Z wr.1) 5)=S (H Te)/\E q (A (Z w.1+1) 0)=S (H j)/\E q (A (Z w.1+1) 1)=S (Hm s og mn m)/\E q (A s (og+i*5))=S (X ja jl jc)) λX_=>?_;refine Xn 0 ?_;(iterate 7 refine Rm ?_);refine Xs 8 λaj hK=>?_;go_simp;refine(I_.o _ S_.drew).mono ?_;rintro f w5⟨a5,c5,rfl,b,ap⟩;have Y_:Sw (Z y.heap) y w5:=(Rf).drew.trans b;refine hK _ _ (H_.o _ Y_) λX_=>?_;clear hK;refine Xs 9 λaj hK=>?_;go_simp;refine YU (a7.o w5 a5 c5 (Z y.heap) (S_.trans<|Y_.mono (oN T_.o)) b.size ap) λw6 al=>?_;have Z_:Sw (Z y.heap) y w6:=Xg Y_ al;refine hK _ _ (H_.o _ Z_) λX_=>?_;clear hK;refine Xn 10 ?_;(iterate 6 refine Rm ?_);refine Xs 17 λaj hK=>?_;go_simp;refine YU (a8.o w6<|d.trans ((S_.trans<|Z_.mono (oN T_.o)).mono U_)) λw7 am=>?_;have k7:Sw (Z y.heap) y w7:=Xg Z_ am;refine hK _ _ (H_.o _ k7) λX_=>?_;clear hK;refine Xn 18 ?_;refine Xn 19 ?_;refine Yq ?_;have a4:=Y<|d.trans ((S_.trans<|k7.mono (oN T_.o)).mono U_);clear X_ Y_ Z_ k7 b al am ap;go_wp2;exact⟨⟨i+1,O,gM,a4⟩,SA⟩
 go_wp2;go_ret;exact⟨R,aa.trans<|d.mono (oN a.o)⟩
theorem KG{a:List ag}(L B:N)(ha:Q (d7 w L B p a))(g:Q (n=J a))(V:n<=1048576)(W:Pj a<=1048576)(y:B<=Z w.1):
 Sk prog 19 #[Sa #[H t,X p n c]] w λe b=>e=Rt (Sb (Jd (1<=n)&&Jd (n<=3000)&&Jd (Pj a<=20000)))/\Sw (Z w.1) w b:=by
 by_cases q:1<=n/\n<=3000
 .obtain⟨v,x⟩:=q;have h:Q (Pj a=J a+Rp a):=wI a
  go_in
  go_wp2
  go_loopw [3,18] (λo i wr=>∃k:N,k<=n/\i=H k/\o=H (n+Rp (a.take k):N)/\n+Rp (a.take k)<=20000/\Sw (Z w.1) w wr) λ_ i _=>n-(JB i).toNat
  .exact⟨0,aN,R,by simp[Rp],by simp[Rp];omega,Xb Rf _⟩
  obtain⟨k,K,rfl,rfl,C,f⟩:=hrel;by_cases M:k<n
  .have r:k<J a:=oN g.o;obtain⟨b_,o_,rfl,⟨_,I_⟩,m⟩:=ha.o k r;obtain⟨P_,Q_,e1,⟨e2,e3,e4,e5⟩,_⟩:=m.keep (f.mono y) O;have d:Q (Rp (a.take<|k+1)=Rp (a.take k)+J a[k].1):=by show _=_;rw[X7 r,NM]
   have j:=QH a<|k+1;have s:=Y j;have H_:Rp (a.take k)+J a[k].1<=1048576:=oP d.o h.o;clear m j;generalize a[k]=F at*;generalize l:Rp (a.take k)=P at*;have F_:=Y l;clear l;by_cases J_:20000<n+P+J F.1
   .go_wp2;go_ret;refine⟨Xl ?_,Xb f _⟩;have e:¬Pj a<=20000:=by have:=d.o;have:=s.o;have:=h.o;have:=g.o;omega
    rw[dJ e];simp
   go_wp2;exact⟨⟨k+1,O,gM,by rw[d.o];go_num,by rw[d.o];omega,Xb f _⟩,SA⟩
  go_wp2;go_ret;have e:=aW (l:=a) (i:=k) (oN g.o);rw[e]at C;refine⟨Xl ?_,f⟩;rw[eB v,eB x,eB (show Pj a<=20000 by have:=h.o;have:=g.o;omega)];rfl
 have z:Q ((Jd (1<=n)&&Jd (n<=3000)&&Jd (Pj a<=20000))=Sn):=by
  show _=_;by_cases d:1<=n;·rw[dJ<|show ¬n<=3000 by omega];simp
  rw[dJ d];simp
 have T:n<1\/(1<=n/\3000<n):=O;clear q;obtain u|⟨u,G_⟩:=T
 all_goals
  go_in
  go_wp2;go_ret;exact⟨Xl z.symm,Xb Rf _⟩
theorem Dz(v:I)(c:N){a:List ag}(L:N)(ha:Q (d7 w L m p a))(i:Q (n=J a))(K:Q (J a+Rp a<=1048576))(M:m<=Z w.1)(hO:Q (Uw w))(hT:Q (T7 w)):
 Sk prog 7 #[Sa #[H v,X p n c]] w λe w'=>e=Rt (Sb (nK v a))/\Sw (Z w.1) w w':=by
 have U_:n<=1048576:=oP i.o K.o;have R_:Q (Pj a<=1048576):=by show _<=_;rw[wI];exact K.o
 have al:=Y<|LD K.o;by_cases W_:1<=v/\v<=64
 .obtain⟨v1,v2⟩:=W_;cases hq:(Jd (1<=n)&&Jd (n<=3000)&&Jd (Pj a<=20000))
  .have T:=Y hq
   have f:Q (nK v a=Sn):=J1 (λ⟨_,_,d1,d2,N_⟩=>by have e:=i.o;rw[eB (show 1<=n by omega),eB (show n<=3000 by omega),eB N_]at hq;cases hq)
   clear hq
   go_in
   go_wp2_with fail
   refine(KG L m ?q1 i U_ R_.o ?q2).mono ?_
   case q1=>exact ha.keep (Xb Rf _ |>.mono M)
   case q2=>simp;omega
   rintro e x⟨rfl,q⟩;rw[Xw T];go_wp2;go_ret;exact⟨Xl f.symm,Xg (Xb Rf _) q⟩
  have T:=Y hq
  have f:Q (nK v a=a.all (Vdf v n)):=by show _=_;have e:=i.o;simp only[bY,bD]at hq;unfold nK;rw[Fr v1 v2 O O hq.2,<-e];rfl
  have N_:n<=3000:=by simp only[bY,bD]at hq;exact hq.1.2
  clear hq
  go_in
  go_wp2_with fail
  refine(KG L m ?q1 i U_ R_.o ?q2).mono ?_
  case q1=>exact ha.keep (Xb Rf _ |>.mono M)
  case q2=>simp;omega
  rintro e x⟨rfl,q⟩;rw[Xw T];obtain⟨V,z⟩:=NC q;have Y_:E x (A (Z w.1) 0)=S (H v):=by rw[V _ _ sP];simp
  have k1:E x (A (Z w.1) 1)=S (X p n c):=by rw[V _ _ sP];simp
  have r:=Xg (Xb (dC (Z w.1) w) _) q;have aq:=q.4;simp at aq;have C:=Y r;have HA:=Y<|ha.keep (r.mono M);have K_:=Y<|hO.keep r;have M_:=Y<|hT.keep r;clear V z q r ha;go_wp2
  go_loopw [23] (λl wr=>∃k:N,k<=n/\l=H k/\Sw (Z x.1) x wr/\Q ((a.take k).all (Vdf v n)=So)) λl _=>n-(JB l).toNat
  .exact⟨0,aN,R,Rf,R⟩
  obtain⟨k,hk,rfl,d,O_⟩:=hrel;have a6:=d.4;have a3:Z w.1<Z wr.1:=O;have Z_:=G (XU d O) Y_;have au:=G (XU d O) k1;by_cases a2:k<n
  .have o:k<J a:=oN i.o;obtain⟨b_,o_,rfl,⟨_,az⟩,hc⟩:=HA.o k o;obtain⟨ia,ic,f1,⟨f2,f3,f4,f5⟩,T_⟩:=hc;have e1:=G (XU d O) f1;have e2:=G (XU d O) f2;have e3:=G (XU d O) f3;have e4:=G (XU d O) f4;have e5:=G (XU d O) f5;have a1:=al.o _<|aH o;have V_:=Y λh=>JN (p:=Vdf v n) (xs:=a) (k:=k) o h;have ao:=Y λh=>XY (p:=Vdf v n) o O_.o h;have HI:=Y T_;clear T_ f1 f2 f3 f4 f5 Y_ k1;generalize a[k]=b at*;have F:Q (Vdf v n b=(b.1.all (Yw v 13)&&Zu v 0 n ⟨b.2.1,b.2.a,b.2.3,b.2.4⟩)):=R;cases hr:Zu v 0 n ⟨b.2.1,b.2.a,b.2.3,b.2.4⟩
   .have t:=Y hr;clear hr;go_wp2_with fail
    refine(Kn ?q1).mono ?_
    case q1=>exact T7.keep M_.o<|Xb d _
    rintro e y⟨rfl,g⟩;rw[Xw t];go_wp2;go_ret;exact⟨Xl (by rw[f.o,Xw V_<|by rw[F.o,t.o];simp]),Xg C.o<|Xg (Xb d _) g⟩
   have t:=Y hr;clear hr;go_wp2_with fail
   refine(Kn ?q1).mono ?_
   case q1=>exact T7.keep M_.o<|Xb d _
   rintro e y⟨rfl,g⟩;rw[Xw t];have bb:=Xg (Xb d _) g;obtain⟨z,aj⟩:=NC g;have m1:E y (A (Z wr.1) 0)=S (X ia (J b.1) ic):=by rw[z _ _ sP];simp
   have ar:=g.4;simp at ar;have a7:Z wr.1<Z y.1:=O;have x0:=G (g.cell (p:=A (Z w.1) 0) (by show Z w.1<_;simp;omega)) (oB (Xb (dC (Z wr.1) wr) _) Z_ O);clear z aj g e1 e2 e3 e4 e5 Z_ au;have aa:=Y bb;go_wp2
   go_loopw [39] (λl wi=>∃j:N,j<=J b.1/\l=H j/\Sw (Z y.1) y wi/\Q ((b.1.take j).all (Yw v 13)=So)) λl _=>J b.1-(JB l).toNat
   .exact⟨0,aN,R,Rf,R⟩
   obtain⟨j,hj,rfl,B,Q_⟩:=hrel;have u:=Xg aa.o B;have r0:=G (XU B O) x0;have a5:=B.4;have a4:Z w.1<Z wr.1:=O;clear m1;by_cases W:j<J b.1
   .obtain⟨b',o',rfl,⟨_,a0⟩,S_⟩:=HI.o j W;obtain⟨g0,g1,g2,g3,g4⟩:=S_.keep u O;have am:=Y λh=>JN (p:=Yw v 13) (xs:=b.1) (k:=j) W h;have ap:=Y λh=>XY (p:=Yw v 13) W Q_.o h;clear S_;generalize b.1[j]=P at*;cases hr:Yw v 13 ⟨P.1,P.2,P.a,P.b,P.5⟩
    .have s:=Y hr;clear hr;go_wp2_with fail
     refine(AB _ _ _ _ _ _ _ vY ?q1).mono ?_
     case q1=>exact Uw.keep K_.o<|Xb u _
     rintro e w3⟨rfl,G_⟩;rw[Xw s];go_wp2;go_ret;exact⟨Xl (by rw[f.o,Xw V_<|by rw[F.o,Xw am s.o];rfl]),Xg C.o<|Xg (Xb u _) G_⟩
    have s:=Y hr;clear hr;go_wp2_with fail
    refine(AB _ _ _ _ _ _ _ vY ?q1).mono ?_
    case q1=>exact Uw.keep K_.o<|Xb u _
    rintro e w3⟨rfl,G_⟩;rw[Xw s];go_wp2;exact⟨⟨j+1,O,gM,Xg (Xb B _) G_,Xw ap s.o⟩,SA⟩
   have ad:=Y<|YE (p:=Yw v 13) (xs:=b.1) (k:=j) O Q_.o;go_wp2;exact⟨⟨k+1,O,gM,u,Xw ao<|by rw[F.o,t.o,ad.o];rfl⟩,SA⟩
  have ac:=Y<|YE (p:=Vdf v n) (xs:=a) (k:=k) (oN i.o) O_.o;go_wp2;go_ret;exact⟨Xl (by rw[f.o,ac.o]),Xg C.o d⟩
 have f:Q (nK v a=Sn):=J1 O;have af:v<1\/(1<=v/\64<v):=O;clear W_;obtain ab|⟨ab,d1⟩:=af
 all_goals
  go_in
  go_wp2;go_ret;exact⟨Xl f.symm,Xb Rf _⟩
section
attribute [local go_sem] Oper.semAt_some
structure OM(w6:Ub)(gT Kr:N)(R_:Vv)(U_:Ub):Prop where
 os:U_.4=w6.4
 tape:U_.2=w6.2
 output:U_.5=w6.5
 size:Z w6.1<=Z U_.1
 gl:gT<Z w6.1
 fr:∀q,q<Z w6.1->q≠gT->U_.1[q]?=w6.1[q]?
 st:∃T:Wk,Cp U_ gT Kr Kr T/\XA T/\∀c,c<64*Kr->(Xh T c=So↔R_ c)
section
variable {w6 U_ U': Ub} {gT Kr: N} {R_ R': N -> Prop}
theorem OM.far(h:OM w6 gT Kr R_ U_)(k:Sw (Z w6.1) U_ U'):OM w6 gT Kr R_ U':=by let⟨T,a,b⟩:=h.7;exact⟨G k.1 h.1,G k.2 h.2,G k.3 h.3,aJ h.4 k.4,h.5,λq q1 q2=>G (k.5 q q1) (h.6 q q1 q2),T,a.of_block<|k.5 _ h.5,b⟩
theorem OM.congr(h:OM w6 gT Kr R_ U_)(e:∀c,c<64*Kr->(R_ c↔R' c)):OM w6 gT Kr R' U_:=by let⟨T,b,d,f⟩:=h.7;exact⟨h.1,h.2,h.3,h.4,h.5,h.6,T,b,d,λc a=>(f c a).trans (e c a)⟩
theorem OM.own(w6 gT Kr){a:Type}(R_:a->Vv):OwnFrom (Z w6.1) (λs U_=>OM w6 gT Kr (R_ s) U_):=λs d U_ row h k q=>by have:=h.4;exact h.far ⟨k.1,k.2,k.3,k.4,λb c=>k.5 b O λe=>by have:=(q b e.symm).1;omega⟩
theorem OM.cell(h:OM w6 gT Kr R_ U_){b o}{v:Uj}(c:b≠gT)(a:E w6 (A b o)=S v):E U_ (A b o)=S v:=G (Xc<|h.6 b (aI w6 _ a) c) a
theorem OM.turn(h:OM w6 gT Kr R_ U_){g}(k:U_.grownBy U' (S gT))(b:Cp U' gT Kr Kr g)(d:XA g)(a:∀c,c<64*Kr->(Xh g c=So↔R' c)):OM w6 gT Kr R' U':=by have f:=h.4;exact⟨G k.1 h.1,G k.2 h.2,G k.3 h.3,aJ h.4 k.4,h.5,λq q1 q2=>G (k.5 q O λe=>q2<|by injection e) (h.6 q q1 q2),g,b,d,a⟩
end
def jn(a:Wc)(l:Wa)(c:N):Prop:=∃v∈l,a[v]?=S (c:I)
theorem VA{z g C W P m}(T){s Kr:N}{k b1 aq w}(Q_:Q (Cp w z g C W))(ce:Q (XA W))(ha:Q (Xf w b1 aq P k))(hx:Q (m=J k))(hB:aq<=Z w.1)(hT:Q (Jn w))(hK:g<=100)(b7:Q (N1 m g W))(hr:s<=2000)(af:Q (Kr=(s+63)/64))(hc:Q (∀c∈k,c=-1\/0<=c/\c<s)):
 Sk prog 33 #[Sa #[Hl z g C],X P m T,H s] w λr n=>∃ab aa,r=Rt (Sa #[Hl ab Kr Kr])/\Z w.1<=ab/\Sw (Z w.1) w n/\Cp n ab Kr Kr aa/\XA aa/\∀c,c<64*Kr->(Xh aa c=So↔jn k (Mq W<|64*g) c):=by
 have HN:=Y λW=>As s W O;simp only[<-af.o]at HN;have cn:Kr<=100:=oN af.o;have ct:s<=64*Kr:=oN af.o;refine(bM (n:=8)).1 ?_;refine callsIn_of_wp_marks func33 R JV ?_ R;simp only[ntmps33,xY,Nat.reduceAdd,Nat.reduceSub];gi_wp2
 have cj:=Q_.lt;have M_:(λf:Ub=>Q (Sw (Z w.1) w f)/\Z w.1+3<=Z f.1/\E f (A (Z w.1) 0)=S (Hl z g C)/\E f (A (Z w.1+1) 0)=S (X P m T)/\Q (f.rowIs (Z w.1+2) 87 1 λ_=>Hq)) (D (D (D w<|Sc #[Hl z g C] 86) (Sc #[X P m T] 26)) (Sc #[Hq] 87)):=⟨Y<|Xb (Xb (Xb Rf _) _) _,sP,SC,SC,(Y (by
  have h:=eK (D (D w<|Sc #[Hl z g C] 86) (Sc #[X P m T] 26)) #[Hq] 87 (λ_=>Hq) (λS_ K=>by match S_,K with|0,_=>rfl)
  rw[aO,aO]at h;exact h))⟩
 generalize D (D (D w _) _) _=w0 at*;let⟨az,cv,c3,c4,a4⟩:=M_;refine⟨JV,(bM.2<|HN w0).mono ?_⟩;rintro r o⟨gT,rfl,cp,V,aj⟩;have cw:=V.4;have d3:=G (XU V O) c3;have d4:=G (XU V O) c4;have a0:=Y<|Xg az V;have a5:=Y<|a4.of_block (V.5 _ O);have a6:=Y aj;have cr:=aj.lt;have e3:=λob=>G (bP o ob (A (Z w.1) 0) (by show Z w.1<_;omega)) d3;clear V aj c3 c4 a4 az;gi_wp2;have M_:(λf:Ub=>Sw (Z o.1) o f/\Z o.1+1<=Z f.1/\E f (A (Z o.1) 0)=S (Hl gT Kr Kr)) (D o<|Sc #[Hl gT Kr Kr] 87):=⟨Xb Rf _,sP,SC⟩;generalize D o _=L at*;let⟨l,cz,c7⟩:=M_;clear e3;refine⟨JV,(FO 7 (S ⟨z,0,U⟩) g C L).mono ?_⟩;rintro r B⟨rfl,u⟩;have ad:Sw (Z L.1) L B:=by rw[u];exact Xb Rf _
 have cx:Z L.1+1<=Z B.1:=by rw[u,aO];exact aA
 have a9:E B (A (Z L.1) 0)=S (Hl z g C):=by rw[u];simp[go_sem]
 have F:=Y<|Xg l ad;have p:=Y<|Xg a0 F;have f4:=G (XU F O) d4;have f7:=G (XU ad O) c7;have bp:=Y<|a5.of_block (F.5 _ O);have bq:=Y<|a6.of_block (F.5 _ O);have b4:(2: N)<Z w.1:=aI w _<|hT 0 vY;have b0:=Y<|Q_.of_block (p.5 z cj);have br:=Y<|hT.of_block (p.5 _ b4);have bl:=Y f4;have a2:=Y f7;have bi:=Y a9;clear l ad u c7 d3 d4 f4 f7 a9;gi_wp2
 have bm:Q (OM B gT Kr (jn k []) B):=Y ⟨R,R,R,aA,oN F.4,λ_ _ _=>R,λ_=>0,⟨aA,λ_=>Hq,bq.congr λS_ K=>by rw[aU K]⟩,KW,λc _=>⟨λh=>by simp[Xh]at h,λh=>by let⟨v,b,_⟩:=h;simp at b⟩⟩;have c8:=F.4;refine wj (F:=Fence.wide) (n:=8) R vY (gf:=126) (lb:=#[Hn (Z L.1)]) R JV (enters_of func126 vZ R) (DS (λq=>q=gT) bi b0 ce br hK (Y O) (Y O)) (λ_ _ _ _ h _ _=>h) (λh ck=>h.trans ck) (λW T_ V_ O_ b a j=>Zf.putObj W T_ V_ O_ b a j) Rf (λ_=>R)
  (λao U_=>OM B gT Kr (jn k ao) U_) (OM.own B gT Kr<|jn k) bm
  (λx a' U_=>a'=⟨#[Sa #[Hl z g C],X P m T,H s,Hn (Z w.1),Hn<|Z w.1+1,Su,Hn<|Z w.1+1+1,Hn (Z o.1),H x,H s,Sa #[Hl gT Kr Kr],Sa #[Hl z g C],.func (.func 126) #[] #[Hn (Z L.1)],H x,Su,Su,Su,Su,Su,Su,Su,Su,Su,Su,Su,Su,Su],[]⟩) (λ_ _ _ _ _ _ h _ _=>h) ?assign ?body ?done
 case assign=>
  intro T_ ao x U_ a7 d hP bc;have e:=Y d;have bo:=Y bc;clear d bc;gi_wp2;exact bo _ _ (KeepsOthers.refl _) (Zf.refl _) e hP R
 case body=>
  rintro T_ ao x a' U_ d hP rfl b6;have e:=Y d;have bh:=om.1 hP;have cf:=b7 x bh.1 bh.2;have al:x<J k:=by rw[<-hx.o];exact cf
  obtain⟨a8,V_,rfl,hb,ba⟩:=ha x al;have e0:=d.cell O<|G (XU p O) ba;have e4:=d.cell O bl;have e7:=d.cell O a2;have co:=hc _<|aH al;have Y_:=Y<|aC al;have ca:=d.4;generalize k[x]=ap at*;have c6:(x:I)<(m:I):=O;clear d ba b6;by_cases hy:ap=-1
  .subst hy;have cg:((-1:I) != -1)=Sn:=vY;gi_wp2;refine⟨KeepsOthers.refl _,Zf.refl _,e.congr λc _=>?_⟩;constructor;·rintro⟨v,b,a⟩;exact⟨v,dD _ b,a⟩
   rintro⟨v,b,a⟩;obtain j|j:=bU.1 b;·exact⟨v,j,a⟩
   rw[cS.1 j,Y_.o]at a;injection a with a;omega
  have cg:(ap != -1)=So:=by rw[jJ];exact hy
  obtain⟨t,rfl⟩:=bX (show 0<=ap by omega);have cd:t<64*Kr:=O;let⟨X_,I_,N_,P_⟩:=e.7;have HX:=Y I_;have bx:=Y N_;have bv:=Y P_;have ar:Q (∀i,Sw (Z U_.1) U_ i->Z U_.1+1<=Z i.1->E i (A (Z U_.1) 0)=S (H t)->Sk prog 79 #[Sa #[Hl gT Kr Kr],Hl (Z U_.1) 1 1] i λr n=>r=Rt (St #[])/\i.grownBy n (S gT)/\Cp n gT Kr Kr (E2 X_ [t])):=Y (λi b a j=>by
   refine AY gT Kr Kr 1 1 X_ (S ⟨Z U_.1,0,U⟩) [t] (Z U_.1) (Z U_.1+1) i (Y λS_ K=>?_) (Y R) vY (Y λz Q_=>by rw[cS.1 Q_];exact cd) O (Y N_) (Y<|I_.of_block (b.5 _ I_.lt)) a (oN e.5);have b5:S_=0:=by simp at K;exact K
   subst b5;exact⟨Z U_.1,0,R,⟨aA,O⟩,j⟩)
  clear I_ N_ P_;gi_wp2;refine Tc (λn=>E n (A (Z o.1) 0)=S (Hl gT Kr Kr)/\E n (A (Z w.1+1) 0)=S (Hm a8 V_ m T)/\E n (A a8<|V_+x)=S (H t)) λig=>?_;refine Yi 0 ?_;refine Yi 1 ?_;refine Yi 2 ?_;refine Yi 3 ?_;refine Yi 4 ?_;refine Yc 5 λa7 hK=>?_;go_simp;have M_:(λf:Ub=>Sw (Z U_.1) U_ f/\Z U_.1+1<=Z f.1/\E f (A (Z U_.1) 0)=S (H t)) ((D U_<|Sc #[H t] 90).drew):=⟨(Xb Rf _).drew,(by simp[World.drew]),SC⟩;generalize (D U_ _).drew=i at*;let⟨l,ch,bd⟩:=M_;have E_:=Y l;have g0:=oB l e0<|aI U_ _ e0;have g4:=oB l e4<|aI U_ _ e4;have g7:=oB l e7<|aI U_ _ e7;have a1:=Y<|ar.o i l ch bd;clear l bd e0 e4 e7;refine hK _ _ ⟨g7,g4,g0⟩ λig=>?_;clear hK;refine Yc 6 λa7 hK=>?_;go_simp;refine⟨JV,(CallsIn.inRound T_<|bM.2 a1).mono ?_⟩;rintro r U3⟨rfl,y,u⟩;have q3:∀(L_ O_:N)(v:Uj),L_≠gT->E i (A L_ O_)=S v->E U3 (A L_ O_)=S v:=λL_ O_ v b a=>G (Xc<|y.5 L_ (aI i _ a) λr=>b<|by injection r) a;have Z_:Q (U_.grownBy U3<|S gT):=Y ⟨G y.1 E_.1,G y.2 E_.2,G y.3 E_.3,aJ E_.4 y.4,λq q1 q2=>G (y.5 q (aX q1 E_.4) q2) (E_.5 q q1)⟩;have bt:=Y u;refine hK _ _ ⟨q3 _ _ _ O g7,q3 _ _ _ O g4,q3 _ _ _ O g0⟩ λig=>?_;clear hK y u q3 g0 g4 g7
  refine ZV ?_;clear ig;gi_wp2;refine⟨Jc Z_ HX.obj,Zg Z_ R ca,e.turn Z_ bt (Zs [t] bx) λc b3=>?_⟩;rw[YR,dI,bv.o c b3,bD,cS];constructor
  .rintro(h|⟨v,b,a⟩);·exact⟨x,fB _<|cS.2 R,by rw[Y_.o,h]⟩
   exact⟨v,dD _ b,a⟩
  rintro⟨v,b,a⟩;obtain j|j:=bU.1 b;·exact aZ ⟨v,j,a⟩
  rw[cS.1 j,Y_.o]at a;injection a with a;exact bC (by have h4:=a;omega)
 rintro M xs U_ hD rfl d bb;have e:=Y d;have a3:=Y bb;have h7:=d.cell O a2;have ac:=bp.of_block<|d.6 (Z w.1+2) O O;have h6:=ac.cell (i:=0) vY;have cl:=ac.frozen 0;have ci:=d.4;clear d bb;have cm:=(aS.1 a3).1;gi_wp2
 have bn:Q ((Se U_ (A (Z w.1+2) 0) (Hl gT Kr Kr)).1[M]?=S (.deferred (S []))):=Y (G (cY<|by show M≠Z w.1+2;omega) a3);have b8:E ((Se U_ (A (Z w.1+2) 0) (Hl gT Kr Kr)).putObj M (.deferred U)) (A (Z w.1+2) 0)=S (Hl gT Kr Kr):=by refine G (bZ (a:=(A (Z w.1+2) 0)) (World.putObj_heap_other<|show Z w.1+2≠M by omega)) ?_;have:=(ac.set 0<|Hl gT Kr Kr).cell (i:=0) vY;simpa using this
 refine YK bn ⟨Sa #[Hl gT Kr Kr],by simp[JC,results33,go_sem,b8],?_⟩;have be:∀q,q≠Z w.1+2->q≠M->((Se U_ (A (Z w.1+2) 0) (Hl gT Kr Kr)).putObj M (.deferred U)).1[q]?=U_.1[q]?:=λq q1 q2=>G (World.putObj_heap_other q2) (cY q1);let⟨X_,I_,N_,P_⟩:=e.7;have cq:=e.5;refine⟨gT,X_,R,O,⟨G e.1 p.1,G e.2 p.2,G e.3 p.3,?_,λq hq=>G (be q O O) (G (e.6 q O O) (p.5 q hq))⟩,I_.of_block<|be gT O O,N_,P_⟩;have cb:=p.4;have bf:=(grownBy_putObj' (Se U_ (A (Z w.1+2) 0) (Hl gT Kr Kr)) M (.deferred U)).4;rw[Xd]at bf;exact aJ cb<|aJ ci bf
end
section
attribute [local go_sem] Oper.semAt_some
structure PG(w:Ub)(p:N)(l:Wc)(f:List Sd)(V:Ub):Prop where
 low:Sw (Z w.1) w V
 ok:∀s∈f,((On p s).map<|US l).Nodup
theorem PG.far{f}(h:PG w n l f v)(k:Sw (Z w.1) v u):PG w n l f u:=⟨h.1.trans k,h.2⟩
theorem PG.own(a)(p:N):OwnFrom (Z a.1) (PG a p l):=λf V c row h k q=>by have:=h.1.4;exact h.far ⟨k.1,k.2,k.3,k.4,λb d=>k.5 b O λe=>by have:=(q b e.symm).1;omega⟩
theorem Dd(h:∀c∈l,0<=c/\c<t)(d:∀u∈s,u<J l):jn l s c↔∃v∈s,US l v=c:=by
 unfold jn US NG;constructor
 .rintro⟨v,a,b⟩;refine⟨v,a,?_⟩;rw[bF,b];rfl
 rintro⟨v,a,b⟩;refine⟨v,a,?_⟩;rw[bF,aC<|d v a,gR]at b;rw[aC<|d v a];have:=(h _<|aH (d v a)).1;exact fI S O
theorem EG(h:∀c∈l,0<=c/\c<(n:I))(a:m<J l):US l m<n:=by unfold US NG;rw[bF,aC a,gR];have:=h _<|aH a;omega
end
section
attribute [local go_sem] Oper.semAt_some
theorem yA{F:Fence}{n:N}{P:Yh}{fn:Func}{a:Zh}{b:Ending->Vy}{W:Ub}(h:∃v,(JC fn a).run P W=.ok v W/\b (Rt v) W):LeavesInM F n P fn a b [] .returning W:=h
structure uz(w3:Ub)(Br p:N)(cs:Wc)(pre:List Sd)(V:Ub):Prop where
 os:V.4=w3.4
 tape:V.2=w3.2
 output:V.5=w3.5
 size:Z w3.1<=Z V.1
 bl:Br<Z w3.1
 fr:∀q,q<Z w3.1->q≠Br->V.1[q]?=w3.1[q]?
 row:V.rowIs Br 4 1 λ_=>Sb Sn
 bad:∃s∈pre,¬((On p s).map (US cs)).Nodup
section
variable {w3 V V': Ub} {Br p: N} {cs: Wc} {pre: List Sd}
theorem uz.far(h:uz w3 Br p cs pre V)(k:Sw (Z w3.1) V V'):uz w3 Br p cs pre V' :=
 ⟨G k.1 h.1,G k.2 h.2,G k.3 h.3,aJ h.4 k.4,h.5,λq q1 q2=>G (k.5 q q1) (h.6 q q1 q2),h.7.of_block<|k.5 _ h.5,h.8⟩
theorem uz.own(w3:Ub)(Br p:N)(cs:Wc):OwnFrom (Z w3.1) (uz w3 Br p cs):=λpre V V' row h k q=>by have:=h.4;exact h.far ⟨k.1,k.2,k.3,k.4,λb a=>k.5 b O λe=>by have:=(q b e.symm).1;omega⟩
end
theorem F0(v:I){C:Uy}{u:N}(c:N){a:Wi}{ca a6:N}{o:Uy}{d:N}(M:N){cs:Wc}{Lc Bc:N}(k:I){w:Ub}(ha:Q (Xp w ca a6 C a))(hx:Q (u=J a))(R_:Q (J a+Xx a<=1048576))(hB:a6<=Z w.1)(hO:Q (Yy w))(hT:Q (Yb w))(hZ:Q (Jn w))(hc:Q (Xf w Lc Bc o cs))(af:Q (d=J cs))(dc:Bc<=Z w.1)(ef:d<=1048576):
 Sk prog 13 #[Sa #[H v,X C u c],X o d M,H k] w λe w'=>e=Rt (Sb (MD v a cs k))/\Sw (Z w.1) w w':=by
 have bd:=Y λW (K_:Sw (Z w.1) w W)=>Te v u c (Y<|ha.keep (K_.mono hB)) hx R_ (oN K_.4) (Y<|hO.keep K_ hO.1) (Y<|hT.keep K_ hT.1);obtain⟨vd,bn⟩:∃vd,vd=Ft v a:=⟨_,R⟩;rw[<-bn]at bd;have be:=Y bn;clear bn;refine(bM (n:=10)).1 ?_;refine callsIn_of_wp_marks func13 R JV ?_ R;simp only[ntmps13,dO,bA,bO,Nat.reduceAdd,Nat.reduceSub,cX,cZ,dP,dE,dR,cW];gi_wp2
 have dh:(λY_:Ub=>Sw (Z w.1) w Y_/\Z w.1+4<=Z Y_.1/\E Y_ (A (Z w.1) 0)=S (H v)/\E Y_ (A (Z w.1) 1)=S (X C u c)/\E Y_ (A (Z w.1+1) 0)=S (X o d M)/\E Y_ (A (Z w.1+2) 0)=S (H k)/\Q (Y_.rowIs (Z w.1+3) 4 1 λ_=>Sb Sn)) (D (D (D (D w (Sc #[H v,X C u c] 25)) (Sc #[X o d M] 26)) (Sc #[H k] 2)) (Sc #[Sb Sn] 4)):=⟨Xb (Xb (Xb (Xb Rf _) _) _) _,sP,SC,SC,SC,SC,(Y (by
  have h:=eK (D (D (D w (Sc #[H v,X C u c] 25)) (Sc #[X o d M] 26)) (Sc #[H k] 2)) #[Sb Sn] 4 (λ_=>Sb Sn) (λX_ hi=>by match X_,hi with|0,_=>rfl)
  rw[aO,aO,aO]at h;exact h))⟩
 generalize D (D (D (D w _) _) _) _=w0 at*;obtain⟨bk,eh,c0,c1,c2,c3,b4⟩:=dh;refine⟨JV,(bM.2<|bd.o w0 bk).mono ?_⟩;rintro e y⟨rfl,L_⟩;have ei:=L_.4;have k0:=G (XU L_ O) c0;have k1:=G (XU L_ O) c1;have k2:=G (XU L_ O) c2;have k3:=G (XU L_ O) c3;have al:=Y<|b4.of_block (L_.5 _ O);have k4:=al.cell (i:=0) vY;have k5:=al.frozen 0;have a7:=Y<|Xg bk L_;have N_:Q (MD v a cs k=Sn->E (Se y (A (Z w.1+3) 0) (Sb Sn)) (A (Z w.1+3) 0)=S (Sb (MD v a cs k))/\Sw (Z w.1) w (Se y (A (Z w.1+3) 0) (Sb Sn))):=Y (λh=>by refine⟨?_,a7.setCell (by show Z w.1<=Z w.1+3;omega) _⟩;rw[h];simpa using(al.set 0<|Sb Sn).cell (i:=0) vY)
 clear L_ bk c0 c1 c2 c3 bd b4;by_cases hv:vd=0
 case neg=>
  have f:=Y (N_.o<|pL (v:=v) (xs:=a) (cs:=cs) (k:=k) λh=>hv<|G be h.1);have bm:(vd != 0)=So:=by rw[jJ];exact hv
  gi_wp2;have j:=f.1;exact yA ⟨Sb (MD v a cs k),by simp[JC,results13,go_sem,j],R,f.2⟩
 subst hv;by_cases dk:k<0
 .have f:=Y (N_.o (pL (v:=v) (xs:=a) (cs:=cs) (k:=k) λh=>by have:=h.2.1;omega));gi_wp2;have j:=f.1;exact yA ⟨Sb (MD v a cs k),by simp[JC,results13,go_sem,j],R,f.2⟩
 by_cases dl:2000<k
 .have f:=Y (N_.o (pL (v:=v) (xs:=a) (cs:=cs) (k:=k) λh=>by have:=h.2.2.1;omega));gi_wp2;have j:=f.1;exact yA ⟨Sb (MD v a cs k),by simp[JC,results13,go_sem,j],R,f.2⟩
 by_cases bl:(d:I)=v
 case neg=>
  have f:=Y (N_.o<|pL (v:=v) (xs:=a) (cs:=cs) (k:=k) λh=>bl<|by rw[af.o];exact h.2.2.2.1);have bm:((d:I) != v)=So:=by rw[jJ];exact bl
  gi_wp2;have j:=f.1;exact yA ⟨Sb (MD v a cs k),by simp[JC,results13,go_sem,j],R,f.2⟩
 subst bl;have bm:((d:I) != (d:I))=Sn:=sP;have ba:Q (Jy d a):=Y<|XH (DQ be.symm);have d0:=ba.2;have br:Q (∀(q:N)(h:q<d),∃b_ o_,o=S (A b_ o_)/\E y (A b_ (o_+q))=S (H (NG cs q))/\∃h:q<J cs,NG cs q=cs[q]):=Y (λq hq=>by
  have aj:q<J cs:=by rw[<-af.o];exact hq
  obtain⟨b_,o_,e,K_,h⟩:=hc.o q aj;have e2:NG cs q=cs[q]:=by unfold NG;rw[bF,aC aj];rfl
  refine⟨b_,o_,e,?_,aj,e2⟩;rw[e2];exact G (XU a7.o O) h)
 gi_wp2
 gi_loop [30] (λX_=>∃q:N,q<=d/\X_=H q/\Q (x7 cs k q)) λX_=>d-(JB X_).toNat
 .exact⟨0,aN,R,Y<|JP⟩
 obtain⟨q,hq,rfl,HQ⟩:=hrel;by_cases ds:q<d
 .obtain⟨b_,o_,rfl,e0,aj,eq⟩:=br.o q ds;have a9:=Y λh=>N_.o<|pL (EN (v:=(d:I)) (xs:=a) (k:=k) aj h);have b8:=Y λh=>KI HQ.o aj h;rw[<-eq]at a9 b8;clear eq N_;generalize NG cs q=cb at*;have eg:(q:I)<(d:I):=O;by_cases dv:cb<0
  .have f:=Y<|a9.o O;gi_wp2;have j:=f.1;exact yA ⟨Sb (MD (d:I) a cs k),by simp[JC,results13,go_sem,j],R,f.2⟩
  by_cases dw:k<=cb
  .have f:=Y<|a9.o O;gi_wp2;have j:=f.1;exact yA ⟨Sb (MD (d:I) a cs k),by simp[JC,results13,go_sem,j],R,f.2⟩
  gi_wp2;exact⟨⟨q+1,O,gM,Y<|b8.o O⟩,SA⟩
 have dt:q=d:=O;subst dt;have a0:Q (∀c∈cs,0<=c/\c<k):=Y (KX<|by rw[<-af.o];exact HQ.o);clear HQ br N_ k4 k5;obtain⟨K,rfl⟩:=bX (show 0<=k by omega);gi_wp2;generalize Jd ((K:I)<0)=d1;generalize Jd (2000<(K:I))=d2;generalize (d1||d2)=d3;refine⟨JV,(Wx 9 y).mono ?_⟩;rintro e w3⟨rfl,az⟩;have ao:Sw (Z y.1) y w3:=by rw[az];exact Xb Rf _
 have ej:Z y.1+1<=Z w3.1:=by rw[az,aO];exact aA
 have ci:E w3 (A (Z y.1) 0)=S (H q):=by rw[az];simp[go_sem]
 have cj:E w3 (A (Z y.1) 1)=S (X C u c):=by rw[az];simp[go_sem]
 have l:Q (Sw (Z w.1) w w3):=Y<|Xg a7.o ao;have cw:=Y<|G (XU ao O) k2;have cx:=Y<|G (XU ao O) k3;have b5:=Y<|al.of_block (ao.5 _ O);obtain⟨n,cm⟩:∃m_,m_=(q+63)/64:=⟨_,R⟩;have c8:=Y cm;have df:n<=100:=O;obtain⟨B,cl⟩:∃m_,m_=(K+63)/64:=⟨_,R⟩;have c7:=Y cl;have dx:B<=100:=O;have dn:K<=64*B:=O;have dy:=hO.1;have dz:=hT.1;have dj:(2 : N)<Z w.1:=aI w _<|hZ.o 0 vY;have cr:Q (Xp w3 ca a6 C a):=Y<|ha.keep (l.mono hB);have c9:=Y<|hO.keep l.o hO.1;have db:=Y<|hT.keep l.o hT.1;have cu:=Y ci;have cv:=Y cj;have hn:u<=1000:=oP hx.o ba.1.2;clear ao az cm cl ci cj k0 k1 k2 k3 al dk dl bm;gi_wp2
 refine nX (F:=Fence.wide) (n:=10) R vY (gf:=75) (lb:=#[Hn (Z y.1)]) R JV (enters_of func75 vZ R) (uF (λz=>z=Z w.1+3) cu.o cv.o cr hx O aA c9 db O O ba c8 (Y λz r g e=>O) (Y λz r e=>O) (Y λe=>O) (Y λe=>O)) (λz=>un z) (λh k=>h.trans k) (λW cq o_ o' r g h3=>Zf.putObj W cq o_ o' O g h3) Rf (λ_ _=>R)
  (λ_=>PG w3 (64*n) cs) (λc pre V=>c=.ret/\uz w3 (Z w.1+3) (64*n) cs pre V) (λ_=>PG.own w3 _) (λc x M_ V row h k q=>⟨h.1,uz.own w3 _ _ _ x M_ V row h.2 k q⟩) (λ_ z x M_ A' S_ h s=>h.far ⟨s.1,s.2,s.3,s.4,λb_ K_=>s.5 b_ (oN h.1.4) λe=>by injection e with e;omega⟩) (λ_=>⟨λz z' x M_ A' _ h k=>h.far<|k.mono O,λc x M_ A' h k=>⟨h.1,h.2.far<|k.mono O⟩⟩) (λz b _ _ hU=>⟨hU,λx h=>by simp at h⟩)
  (λz p a' b=>∃F:N,a'=⟨#[Sa #[H q,X C u c],X o q M,H K,Hn (Z w.1),Hn (Z w.1+1),Hn (Z w.1+1+1),Hn (Z w.1+1+1+1),Su,u8,Hn F,Sa #[H q,X C u c],H 0,Sb Sn,Sb Sn,H K,Sb d1,Sb d1,Sb d1,H K,Sb d2,Sb d3,Sb d3,X o q M,H q,Hn (Z w.1),H q,Sb Sn,Sb d3,X o q M,H q,H q,Sb Sn,u32,u33,u34,u35,u36,u37,u38,u39,u40,u41,Sa #[H q,X C u c],.func (.func 75) #[] #[Hn (Z y.1)],Sa #[Hl z n p.C],Su,Su,Su,Su,Su,Su,Su,Su],[]⟩/\Z w3.1<=F/\E b (A F 0)=S (Hl z n p.C)) ?ownA ?assign ?body ?done ?stop
 case ownA=>
  rintro z p a' _ M_ b row⟨F,e,r,g⟩ s qq;refine⟨F,e,r,G (Xc<|s.5 F (aI M_ _ g) λe2=>?_) g⟩;obtain⟨ob,h3,h4⟩:=Yn g;obtain⟨_,o2,h5,h6⟩:=qq F e2.symm;rw[show M_.1[F]?=S ob from h3]at h5;injection h5 with h5;subst h5;rw[h4]at h6;cases h6
 case assign=>
  intro l' z pre p b KK S_ i t cd;have L:=Y i;have da:=Y t;have c6:=Y cd;clear i t cd;unfold ru;gi_wp2;have au:Sw (Z b.1) b (D b (Sc #[Hl z n p.C] 86)):=Xb Rf _;exact c6.o _ _ ⟨au.4,λk o_ r _=>G (au.5 k (aS.1 r).1) r⟩ (Zf.of_below au L.1.4) (L.far<|au.mono L.1.4) (th da.o au) ⟨Z b.1,R,L.1.4,SC⟩
 case body=>
  rintro l' z pre p a' b S_ ec _ i t⟨F,rfl,d4,cg⟩ ed;have L:=Y i;have a5:=i.1.4;have e2:=G (XU i.1 O) cw.o;have e3:=G (XU i.1 O) cx.o;have Z_:=Y<|b5.of_block (i.1.5 _ O);have a4:Q (Sw (Z w.1) w b):=Y<|l.trans (i.1.mono l.4);have bx:=Y λW (hW:Sw (Z b.1) b W)=>VA M (Y<|t.2.1.of_block (hW.5 z t.2.1.lt)) (Y t.2.2) (Y<|hc.keep ((a4.trans<|hW.mono a4.4).mono dc)) af (oN hW.4) (Y<|hZ.of_block ((a4.trans<|hW.mono a4.4).5 _ dj)) df (Y t.1) O c7 (Y λc hc=>aZ<|a0.o c hc);have bv:=Y λW s T (r:Cp W s B B T) (g:XA T)=>AF s B B T W (Y g) (Y r) O;have b0:=Y λW (hW:Sw (Z b.1) b W)=>Kl z n p.C p.W W (Y t.2.2) (Y<|t.2.1.of_block (hW.5 z t.2.1.lt)) O;have b1:Q (∀T,(∀c,c<64*B->(Xh T c=So↔jn cs (Mq p.W<|64*n) c))->(NO T B<NO p.W n↔¬((On (64*n) p).map (US cs)).Nodup)):=Y (λT h=>by
   have hl:∀bo∈Mq p.W (64*n),bo<J cs:=λbo hu=>by have r:=om.1 hu;rw[<-af.o];exact t.1 bo r.1 r.2
   rw[qV,qV];exact Eo (λc hc=>(h c hc).trans (Dd a0.o hl)) λv hv=>aX (EG a0.o<|hl v hv) dn)
  clear i t;gi_wp2;refine Tc (λw'=>E w' (A F 0)=S (Hl z n p.C)/\E w' (A (Z w.1+1) 0)=S (X o q M)/\E w' (A (Z w.1+2) 0)=S (H K)) λig=>?_;refine Yi 0 ?_;refine Yi 1 ?_;refine Yi 2 ?_;refine Yi 5 ?_;refine Yc 3 λbf hK=>?_;go_simp;refine⟨JV,(CallsIn.inRound l'<|bM.2 (bx.o b.drew (dC (Z b.heap) b).drew)).mono ?_⟩;rintro e O_⟨s,T,rfl,eb,aa,co,ch,cn⟩;have ap:Sw (Z b.heap) b O_:=⟨aa.os,aa.tape,aa.output,aa.size,aa.block⟩;have ct:=Y ap;have a1:=oB ap cg<|aI b _ cg;have a2:=oB ap e2<|aI b _ e2;have a3:=oB ap e3<|aI b _ e3;have bt:=Y<|bv.o O_ s T co ch;have b3:=Y<|b1.o T cn;have b6:=Y<|b0.o;have d5:=TB T B;have ea:=TB p.W n;clear ap aa co ch cn bx bv b1 b0;refine hK _ _ ⟨a1,a2,a3⟩ λig=>?_;clear hK;refine Yc 4 λbf hK=>?_;go_simp;refine⟨JV,(CallsIn.inRound l'<|bM.2 bt.o).mono ?_⟩;rintro e P_⟨rfl,ab⟩;have aq:Sw (Z O_.heap) O_ P_:=⟨ab.os,ab.tape,ab.output,ab.size,ab.block⟩;have bq:=Y<|Xg ct.o aq;have bg:=oB aq a1<|aI O_ _ a1;have bh:=oB aq a2<|aI O_ _ a2;have bi:=oB aq a3<|aI O_ _ a3;have b7:=Y<|b6.o P_ bq.o;generalize NO T B=nT at*;generalize NO p.W n=nV at*;clear aq ab bt b6;refine hK _ _ ⟨bg,bh,bi⟩ λig=>?_;clear hK;refine Yc 6 λbf hK=>?_;go_simp;refine⟨JV,(CallsIn.inRound l'<|bM.2 b7.o).mono ?_⟩;rintro e U7⟨rfl,ad⟩;have ar:Sw (Z P_.heap) P_ U7:=⟨ad.os,ad.tape,ad.output,ad.size,ad.block⟩;have P:=Y<|Xg bq.o ar;have g1:=oB ar bg<|aI P_ _ bg;have g2:=oB ar bh<|aI P_ _ bh;have g3:=oB ar bi<|aI P_ _ bi;clear ar ad b7;refine hK _ _ ⟨g1,g2,g3⟩ λig=>?_;clear hK;refine Yc 7 λbf hK=>?_;go_simp;refine hK _ _ kP λig=>?_;clear hK;refine ZV ?_;clear ig;have bc:=Y<|Z_.of_block (P.block _ Z_.lt);have r7:=bc.cell (i:=0) vY;have f7:=bc.frozen 0;by_cases ee:(nT:I)<(nV:I)
  .gi_wp2;have ck:Zf (Z w3.1) (λz=>z=Z w.1+3) b (Se U7 (A (Z w.1+3) 0) (Sb Sn)):=(Zf.of_below P.o a5).trans (Zg ⟨R,R,R,SH,λk _ hk=>cY λe=>hk<|by rw[e]⟩ R (oN P.4));have h7:=L.1.trans<|P.mono a5;refine⟨⟨ck.1,λz ob r g h3=>?_⟩,ck,R,⟨h7.1,h7.2,h7.3,by rw[Xd];exact h7.4,O,λz q1 q2=>G (cY q2) (h7.5 z q1),?_,p,fB _<|cS.2 R,b3.1 O⟩⟩;·exact G (cY<|by show z≠Z w.1+3;omega) (G (P.5 z (aS.1 g).1) g)
   exact(bc.set 0 _).congr λX_ hi=>by rw[show X_=0 by omega];simp
  gi_wp2;refine⟨⟨P.4,λz ob r g h3=>G (P.5 z (aS.1 g).1) g⟩,Zf.of_below P.o a5,L.1.trans<|P.mono a5,λx R_=>?_⟩;obtain h|h:=bU.1 R_;·exact L.2 x h
  rw[cS.1 h];exact Classical.not_not.1 λg=>by have:=b3.2 g;omega
 case done=>
  rintro m z ss b hD S_ ce i Q_;have L:=Y i;have a8:=Y Q_;have Z_:=Y<|b5.of_block (i.1.5 _ O);have r7:=Z_.cell (i:=0) vY;have f7:=Z_.frozen 0;have dd:m<Z b.1:=(aS.1 Q_).1;have bb:Q (MD (q:I) a cs (K:I)=So):=Y (CG ⟨be.symm,O,O,by rw[af.o],a0.o,λcq hl=>by rw[show((q:I)).toNat=q from R,<-hx.o,<-ce]at hl;obtain⟨x,R_,rfl⟩:=aY.1 hl;exact i.2 x R_⟩)
  clear i Q_ ce;gi_wp2
  have cz:Q ((Se b (A (Z w.1+3) 0) (Sb So)).1[m]?=S (.deferred (S []))):=Y (G (cY<|by show m≠Z w.1+3;omega) a8.o);have j:E ((Se b (A (Z w.1+3) 0) (Sb So)).putObj m (.deferred U)) (A (Z w.1+3) 0)=S (Sb So):=by refine G (bZ (a:=(A (Z w.1+3) 0)) (World.putObj_heap_other<|show Z w.1+3≠m by omega)) ?_;simpa using(Z_.set 0<|Sb So).cell (i:=0) vY
  refine YK cz.o ⟨Sb So,by simp[JC,results13,go_sem,j],?_⟩;have di:Sw (Z w.1) w b:=l.trans<|L.1.mono l.4;have am:Sw (Z w.1) w (Se b (A (Z w.1+3) 0) (Sb So)):=di.setCell (by show Z w.1<=Z w.1+3;omega) _;have J_:=grownBy_putObj' (Se b (A (Z w.1+3) 0) (Sb So)) m (.deferred U);have du:=l.4;exact⟨by rw[bb.o],G J_.1 am.1,G J_.2 am.2,G J_.3 am.3,aJ am.4 J_.4,λz S_=>G (World.putObj_heap_other O) (am.5 z S_)⟩
 rintro m c' pre b hD cf⟨rfl,hX⟩ Q_;have a8:=Y Q_;have dd:m<Z b.1:=(aS.1 Q_).1;have bb:Q (MD (q:I) a cs (K:I)=Sn):=Y (pL (λh=>by obtain⟨x,R_,K_⟩:=hX.8;refine K_<|h.2.2.2.2.2 _ ?_;rw[show((q:I)).toNat=q from R,<-hx.o];exact cf.subset<|aY.2 ⟨x,R_,R⟩))
 have HX:=Y hX;clear hX Q_ cf;gi_wp2;have j:E (b.putObj m<|.deferred U) (A (Z w.1+3) 0)=S (Sb Sn):=G (bZ (a:=(A (Z w.1+3) 0)) (World.putObj_heap_other<|show Z w.1+3≠m by omega)) (HX.7.cell (i:=0) vY);refine YK a8.o ⟨Sb Sn,by simp[JC,results13,go_sem,j],?_⟩;have J_:=grownBy_putObj' b m<|.deferred U;have du:=l.4;exact⟨by rw[bb.o],G J_.1<|G HX.1 l.1,G J_.2<|G HX.2 l.2,G J_.3<|G HX.3 l.3,aJ l.4<|aJ HX.4 J_.4,λz S_=>G (World.putObj_heap_other O) (G (HX.6 z O O) (l.5 z S_))⟩
end
end Go.Proofs.YtcncjgijikoapaaGreatDoor
