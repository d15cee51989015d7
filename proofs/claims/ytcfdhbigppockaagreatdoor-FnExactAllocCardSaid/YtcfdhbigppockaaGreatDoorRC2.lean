import Derived.Test.YtcfdhbigppockaaGreatDoorE2
import Derived.Lib.AppendZerosOnto
import Derived.Lib.Walk
import Derived.Lib.SliceRun
import Derived.Deep.LoopGhost
import Derived.WalkMore
namespace Go.Proofs.YtcfdhbigppockaaGreatDoor
set_option maxHeartbeats 4000000
set_option maxRecDepth 100000
open Go.RowKit Go.Proofs.Tryz
variable{t:Int}{n m k B g i j c:Nat}{w v u:Ub}{p P:Uy}{M:Vp}{d:Vv}{s S:Wa}{l L:Wc}{x:Wi}{f F:Wk}{q:Xe}
structure O5(tg:Yr)(n:Nat)(z:Int)(F F':Wa)(i q:Nat)(ts:Wc):Prop where
 pre:∃E,F'=F++E
 nd:F'.Nodup
 av:∀x∈F',OR tg z x
 lt:∀x∈F',x<n
 now:∀k (h:k<ts.length),k<q->ts[k]≠z->ts[k]=0\/ts[k].toNat∈F'
theorem CQ{tg:Yr}(h:PU tg n t s m):O5 tg n t s s m 0 l:=⟨⟨[],sP⟩,h.1,h.2,h.3,λk _ a=>absurd a oM⟩
theorem Da{tg:Yr}(h:O5 tg n t s S m k l)(hq:k<l.length)(f:l[k]=t\/l[k]=0\/l[k].toNat∈S):O5 tg n t s S m (k+1) l:=⟨h.1,h.2,h.3,h.4,λc d g b=>by
 by_cases e:c=k
 .subst e;obtain a|a|a:=f;·exact absurd a b
  .exact bC a
  exact aZ a
 exact h.5 c d oM b⟩
theorem Du{tg:Yr}(h:O5 tg n t s S m k l)(hq:k<l.length)(j:l[k]=B)(u:B<n)(q:(B:Int)≠t)(g:B∉S)(d:m<s.length)(o:B∈tg s[m]):O5 tg n t s (S++[B]) m (k+1) l:=by
 let⟨E,e⟩:=h.1;refine⟨⟨E++[B],by rw[e,cK]⟩,?_,λx b=>?_,λx b=>?_,λc f r i=>?_⟩
 .rw[gW]
  exact⟨h.2,sP,λx b y p e2=>g (by
   have:y=B:=by simpa using p
   rw[<-this,<-e2];exact b)⟩
 .rcases bU.1 b with a|a;·exact h.3 x a
  have:x=B:=by simpa using a
  rw[this];exact OR.step (h.3 s[m] (by rw[e];exact dD _<|aH d)) o q
 .rcases bU.1 b with a|a;·exact h.4 x a
  have:x=B:=by simpa using a
  omega
 by_cases e2:c=k
 .subst e2;exact aZ<|by rw[j];simp
 obtain a|a:=h.5 c f oM i;·exact bC a
 exact aZ<|dD _ a
theorem CV{tg:Yr}(h:O5 tg n t s S m k l)(j:PU tg n t s m)(A:t≠0)(C:m<s.length)(hq:l.length<=k)(y:tg s[m]=l.map Int.toNat)(u:∀d∈l,0<=d):PU tg n t S (m+1):=by
 let⟨E,g⟩:=h.1;have o:∀x∈s,x∈S:=λx z=>by rw[g];exact dD _ z
 refine⟨h.2,h.3,h.4,λf=>o 0<|j.4 f,λf=>absurd f A,λb w D d c p=>?_⟩;have e:b<s.length:=oM;have r:S[b]=s[b]:=by
  have i:S[b]?=(s++E)[b]?:=by rw[g]
  rw[aC w,dL e,aC e]at i;injection i
 rw[r]at c;by_cases e2:b=m
 .subst e2;rw[y]at c;obtain⟨G,q,rfl⟩:=aY.1 c;obtain⟨B,v,rfl⟩:=bR q;have F:=u _ q;obtain a|a:=h.5 B v oM (λe3=>p oM);·exact bC<|by rw[a];rfl
  exact aZ a
 obtain a|a:=j.6 b e oM d c p;·exact bC a
 exact aZ<|o d a
theorem Ck(w:Ub)(c:0<n):(w.alloc<|.cells ((madeCells #[.bool false] n).setIfInBounds 0 (.bool true)) 4).rowIs w.1.size 4 n (λx=>.bool (decide (x=0\/x∈[0]))):=by
 have h:=eK w ((madeCells #[.bool false] n).setIfInBounds 0 (.bool true)) 4 (λx=>.bool (decide (x=0\/x∈[0]))) (λi a=>by
  rw[jS,nA]at a;rw[Array.getElem?_setIfInBounds];by_cases e:0=i;·subst e;simp[c,nA]
  have b:¬i=0:=λh=>e h.symm
  have e1:=Nat.mod_one i;simp[e,b,madeCells,a,e1])
 rw[jS,nA]at h;exact h
theorem qt(vl:Int)(c:Nat)(z:Int)(ha:Hs (Xp w m k p x))(Z:Hs (n=x.length))(hn:n<=1000)(bp:0<n)(hB:k<=w.1.size)(hT:Hs (∀b∈x,∀t∈b.3.tg,0<=t/\t<n)):
 Calls prog 71 #[.agg #[Hp vl,.slice p n c],Hp z] w λe s=>∃v F,e=.returned v/\Below w.1.size w s/\s.ownsRow w.1.size 2 1 v F.length (Je F)/\F.Nodup/\∀b,b∈F↔OR (X8 x) z b:=by
 let⟨i0,bm,b0,b1,b3⟩:=Xq RH;have dw:=fM (P:=prog) 70 4 (.bool false) 1 underlying70 Q7 rfl .i64 .i64 n oM oM;have ab:=λco=>(dG co (.bool false) n 4).cell bp;by_cases O:z=0
 .subst O;have ar:=λo1 o2=>ab<|(w.alloc o1).alloc o2;simp only[aO]at ar;clear ab
  go_in
  go_wp2
  go_loopw [5,7] (λv u wr=>v=Hl (w.1.size+1) 0 0/\u=Hp 0/\Hs (Below w.1.size w wr)/\Hs (w.1.size+1<wr.1.size)/\Hs (wr.ownsRow w.1.size 2 1 (Hl (w.1.size+1) 0 0) 0 [])) λ_ _ _=>0
  case atStart=>exact⟨rfl,rfl,Xa<|Xb (Xb (Xb (Below.refl _ _) _) _) _,Xa sP,Xa (World.ownsRow.alloc (by
   have h:=eI (base:=w.1.size) (e:=2) (size:=1) (w.alloc<|.cells #[Hp vl,.slice p n c] 37) #[] 0 sP sP rfl;rw[aO]at h;exact h) _)⟩
  obtain⟨rfl,rfl,R,HZ,y⟩:=hrel;go_wp2;go_ret
  refine⟨_,[],rfl,R,y,iU,λb=>⟨λh=>(by cases h),λh=>?_⟩⟩;exfalso;have:∀{c},OR (X8 x) 0 c->False:=λhc=>by
   induction hc with
   |root h=>exact h rfl
   |step _ _ _ ih=>exact ih
  exact this h
 have eb:(z==0)=false:=by simpa using O
 go_in
 go_wp2_with (at_builtin;refine bT _ rfl _ _ 41 rfl (w.1.size+1) 2 i0 (Hp 0) 1 8 underlying41 bm b0 b1 b3 rfl vY _ _ _ rfl (World.ownsRow.alloc (K5 w _) _) (Hk (w.1.size+2) 0) 1 1 [Hp 0] rfl rfl ?c1 ?c2 ?c3 ?c4 ?c5 ?_)
 case c1=>
  have h:=Yf ((w.alloc<|.cells #[Hp vl,.slice p n c] 37).alloc (.cells #[] 2)) (Hp 0) 2;simpa using h
 case c2=>intro u Y;simp at Y;subst Y;rfl
 case c3=>unfold maxLen;omega
 case c4=>omega
 case c5=>simp
 intro v1 l a0 ac cz cq;have bi:Cl l w.1.size 1 (.slice p n c):=(Xc<|ac.5 w.1.size (by simp;omega) (by simp[Value.ownBlock])).trans (by simp[go_sem]);have a1:=Xa ((Xb (Xb (Xb (Below.refl _ _) _) _) _).grown ac (by simp;omega) λa e=>by simp[Value.ownBlock]at e;omega);have af:Hs (w.1.size+2<l.1.size):=Xa (by have:=ac.4;simp only[aO]at this;omega);obtain⟨g1,k1,rfl,bl,du⟩:=Xm a0 oM;have a7:Hs (l.ownsRow (w.1.size+1) 2 1 (Hl g1 (0+1) k1) [0].length (Je [0])):=Xa a0;have cs:=bl.2;clear a0 ac cz cq bl;have ar:=ab l;clear ab;go_wp2_with fail
 have ci:=Xa<|Ck l bp;have ce:=Xa<|a7.alloc (.cells ((madeCells #[.bool false] n).setIfInBounds 0 (.bool true)) 4);have b4:Hs (Below w.1.size w<|l.alloc (.cells ((madeCells #[.bool false] n).setIfInBounds 0 (.bool true)) 4)):=Xa<|Xb a1 _;have b7:Hs ((l.alloc<|.cells ((madeCells #[.bool false] n).setIfInBounds 0 (.bool true)) 4).cell? (Hk w.1.size 1)=some (.slice p n c)):=Xa ((bP _ _ _ (by have:=af.o;show w.1.size<_;omega)).trans bi);have b8:Hs (g1≠l.1.size):=Xa oM;have ca:Hs (w.1.size+1<l.1.size):=Xa<|oN af.o;clear ar bi cs a7 a1 af;generalize l.alloc _=w2 at*;generalize l.1.size=g at*
 go_loopw [5,7] (λv u wr=>∃(F:Wa)(i:Nat),u=Hp i/\i<=F.length/\Hs (PU (X8 x) n z F i)/\Hs (Below w.1.size w wr)/\Hs (wr.cell? (Hk w.1.size 1)=some (.slice p n c))/\Hs (wr.rowIs g 4 n λb=>.bool (decide (b=0\/b∈F)))/\Hs (v.ownBlock≠some g)/\Hs (wr.ownsRow (w.1.size+1) 2 1 v F.length (Je F))) λ_ u _=>n+1-(intOf u).toNat
 case atStart=>exact⟨[0],0,rfl,aN,Xa ⟨sP,λb Z=>by
  have:b=0:=by simpa using Z
  subst this;exact OR.root O,λb Z=>by
  have:b=0:=by simpa using Z
  omega,λ_=>sP,λh=>absurd h O,λa _ hk=>absurd hk oM⟩,b4,b7,ci,Xa (by simp[Value.ownBlock];exact b8),ce⟩
 obtain⟨F,i,rfl,hi,A,R,HC,HS,HN,y⟩:=hrel;have dj:=YS A.1 A.3;by_cases ad:i<F.length
 .obtain⟨gv,kv,rfl,ct,cx⟩:=Xm y oM;have di:=A.3 F[i] (aH ad);have ao:F[i]<x.length:=oN Z.o;have ef:=Jj y (j:=i) (u:=Hp (F[i]:Int)) (by simp[Je,ad]);have df:=hB;obtain⟨C,P,rfl,dl,pa,pc,ia,ic,-,-,⟨t0,t1,t2,t3⟩,-,-⟩:=(ha.keep<|R.mono hB) F[i] ao;have bf:=HC.o;have bd:=Xa<|hT.o _ (aH ao);have bc:=Xa<|Km ao;have bx:=y.lt gv rfl;generalize bh:F[i]=I at*;have a4:=Xa bh;clear bh;generalize x[I].3=E at*;have H:Hs (w.1.size+1<=wr.1.size/\g<wr.1.size):=Xa ⟨oM,HS.lt⟩;go_wp2_with fail
  refine Y7 (λs=>s.cell? (Hk w.1.size 1)=some (Hm C P n c)/\s.cell? (Hk gv i)=some (Hp I)/\s.cell? (Hk C<|P+I*6+2)=some (Hp E.1)/\s.cell? (Hk C<|P+I*6+2+1)=some (Hp E.a)/\s.cell? (Hk C<|P+I*6+2+2)=some (Hp E.3)/\s.cell? (Hk C<|P+I*6+2+3)=some (Hp E.4)) λhHeld=>?_;refine Xn 0 ?_;refine Xn 1 ?_;refine Xn 2 ?_;refine Xn 3 ?_;refine Xn 4 ?_;refine Xn 5 ?_;refine Xn 6 ?_;refine Xn 7 ?_;refine Xn 8 ?_;refine Xs 9 λdb hK=>?_;go_simp
  go_at_call 128
  refine(ZO E _).mono ?_;rintro e G⟨be,dc,rfl,M,bn⟩;have o:Below wr.1.size wr G:=⟨M.1,M.2,M.3,M.4,M.5⟩;have aq:C<wr.1.size:=oN H.o;have kc:=λq=>o.cell (p:=Hk C q) aq;refine hK _ _ ⟨oB o bf (by have:=H.o;show w.1.size<_;omega),oB o ef bx.2,(kc _).trans t0,(kc _).trans t1,(kc _).trans t2,(kc _).trans t3⟩ λhHeld=>?_;clear hK kc aq
  try simp only[xX]
  refine Xn 10 ?_;refine Yq ?_;have bo:Xf G wr.1.size G.1.size be E.tg:=bn;have a2:=Xa<|Xg R o;have a3:=Xa (oB o HC (by have:=H.o;show w.1.size<_;omega));have a9:=Xa<|HS.of_block (o.5 g H.2);have a8:=Xa<|pj y (o.5 gv bx.2);have a6:=Xa bo;have cm:=Xa o.4;clear M bn o bo t0 t1 t2 t3 ef bf hHeld;generalize bv:E.tg=j at*;have dz:j.length<=2:=by rw[<-bv];exact KJ E
  clear bv;go_wp2_with fail
  generalize wr=wo at*
  go_loopw [5,9] (λv u Q=>∃(f:Wa)(q:Nat),u=Hp q/\q<=j.length/\Hs (O5 (X8 x) n z F f i q j)/\Hs (Below w.1.size w Q)/\Hs (Q.cell? (Hk w.1.size 1)=some (Hm C P n c))/\Hs (Q.rowIs g 4 n λb=>.bool (decide (b=0\/b∈f)))/\Hs (v.ownBlock≠some g)/\Hs (Xf Q wo.1.size G.1.size be j)/\Hs (∀a,v.ownBlock=some a->a<wo.1.size\/G.1.size<=a)/\Hs (G.1.size<=Q.1.size)/\Hs (Q.ownsRow (w.1.size+1) 2 1 v f.length (Je f))) λ_ u _=>j.length-(intOf u).toNat
  case atStart=>exact⟨F,0,rfl,aN,Xa<|CQ A,a2,a3,a9,HN,a6,Xa (λa e=>by
   simp only[Value.ownBlock,Option.some.injEq]at e;exact bC oM),Xa<|aA,a8⟩
  obtain⟨f,q,rfl,hq,J,S,T,B,K,U,aa,aj,L⟩:=hrel;have dk:=YS J.2 J.4;clear a2 a3 a9 a8 a6;by_cases X:q<j.length
  .obtain⟨bt,ot,rfl,dn,et⟩:=U q X;have c8:=bd j[q] (aH X);have ba:=Xa<|Da J X;have cl:Hs (∀t:Nat,j[q]=(t:Int)->t∈X8 x I):=Xa (λt e=>by rw[bc.o];exact aY.2 ⟨j[q],aH X,by rw[e];rfl⟩);have ck:Hs (∀t:Nat,j[q]=(t:Int)->t<n->(t:Int)≠z->t∉f->t∈X8 x F[i]->O5 (X8 x) n z F (f++[t]) i (q+1) j):=Xa λt e1 e2 e3 e4 e5=>Du J X e1 e2 e3 e4 ad e5;generalize j[q]=tq at*;obtain⟨d,rfl⟩:=Zv c8.1;have br:d<n:=oM;have al:=B.cell br;have dd:=B.frozen;by_cases r:(d:Int)=z
   .have hb:((d:Int)==z)=true:=by simpa using r
    have cr:((d:Int) != z)=false:=by simp[r]
    have V:=Xa<|ba.o (bC r);clear r al;go_wp2;exact⟨⟨f,q+1,gM,oM,V,S,T,B,K,U,aa,aj,L⟩,by simp[intOf];omega⟩
   have hb:((d:Int)==z)=false:=by simpa using r
   have cr:((d:Int) != z)=true:=by simp[r]
   by_cases N:d=0\/d∈f
   .rw[eB N]at al;have V:=Xa (ba.o<|aZ (by obtain h|h:=N;exact bC oM;exact aZ<|by simpa using h));clear N r;go_wp2;exact⟨⟨f,q+1,gM,oM,V,S,T,B,K,U,aa,aj,L⟩,by simp[intOf];omega⟩
   rw[dJ N]at al
   have V:=Xa (ck.o d rfl br r (λh=>N<|aZ h) (by rw[a4.o];exact cl d rfl));have cj:Hs (∀b,b<n->(if b=d then true else decide (b=0\/b∈f))=decide (b=0\/b∈f++[d])):=Xa (λb _=>by
    by_cases e:b=d;·subst e;simp
    simp[e])
   clear N r;have ea:=aj.o;have c9:bt≠g:=oN H.2;have ec:g≠bt:=λe=>c9 e.symm;have aq:bt<wr.1.size:=oM;have a5:=Xa B.lt;have d0:w.1.size+1<=wr.1.size:=oP H.o cm.o;go_wp2_with (at_builtin;refine bT _ rfl _ _ 41 rfl (w.1.size+1) 2 i0 (Hp 0) 1 8 underlying41 bm b0 b1 b3 rfl vY _ _ _ rfl ((fS L (a:=(Hk g d)) K (.bool true)).alloc _) (Hk wr.1.size 0) 1 1 [Hp d] rfl rfl ?c1 ?c2 ?c3 ?c4 ?c5 ?_)
   case c1=>
    have h:=Yf (wr.setCell (Hk g d) (.bool true)) (Hp d) 2;rw[Xd]at h;exact h
   case c2=>intro u Y;simp at Y;subst Y;rfl
   case c3=>unfold maxLen;omega
   case c4=>omega
   case c5=>rw[aO,Xd];omega
   intro v8 w8 bq W c6 ap;have c7:=W.4;rw[aO,Xd]at c7;have blk:∀a,a<wr.1.size->a≠g->(∀D,u5.ownBlock=some D->a≠D)->w8.1[a]?=wr.1[a]?:=λa h1 h2 h3=>by
    refine(W.5 a (by rw[aO,Xd];omega) λe=>h3 a e.symm rfl).trans ?_;rw[Below.heap_alloc _ _ _<|by rw[Xd];exact h1];exact Below.heap_setCell _ _ _ _ h2
   have az:=λD e=>(L.lt D e).1
   have ds:=ca.o;have b5:=Xa (((Below.alloc (S.setCell (by show w.1.size<=g;omega) _) (by rw[Xd];omega) _).grown W (by rw[aO,Xd];omega) λa e=>by have:=az a e;omega));have b6:=Xa ((Xc (blk w.1.size oM oM λD e=>by have:=az D e;omega)).trans T);have ch:=Xa (UC (C:=Value.bool) (((TS (C:=Value.bool) B d true).alloc _).of_block (W.5 g (by rw[aO,Xd];have:=a5.o;omega) λe=>K e.symm)) cj);have cd:Hs (v8.ownBlock≠some g):=Xa (λe=>by
    obtain h|h:=ap;·exact K<|h.symm.trans e
    rw[e]at h;injection h with h;have:=a5.o;omega)
   have cb:=Xa (U.keepS λa h1 h2=>blk a oM (oN H.2) λD e=>by obtain h|h:=aa.o D e<;>omega);have cc:Hs (∀a,v8.ownBlock=some a->a<wo.1.size\/G.1.size<=a):=Xa (λa e=>by
    obtain h|h:=ap;·exact aa a<|h.symm.trans e
    rw[e]at h;injection h with h;exact aZ oM)
   have cn:Hs (G.1.size<=w8.1.size):=Xa oM;have cf:Hs (w8.ownsRow (w.1.size+1) 2 1 v8 (f++[d]).length (Je<|f++[d])):=Xa (by rw[VP,aQ];exact bq);clear bq W c6 ap blk az L B T S U;go_wp2;exact⟨⟨f++[d],q+1,gM,oM,V,b5,b6,ch,cd,cb,cc,cn,cf⟩,by simp[intOf];omega⟩
  have cg:=Xa (CV J A O ad oM (by rw[a4.o];exact bc) λt ht=>(bd t ht).1);have cw:i+1<=f.length:=by let⟨da,e⟩:=J.1;rw[e,aQ];omega
  go_wp2;exact⟨⟨f,i+1,gM,cw,cg,S,T,B,K,L⟩,by simp[intOf];omega⟩
 have cv:i=F.length:=oM;subst cv;have cp:=eJ<|A.4 O;obtain⟨gv,kv,rfl,ct,cx⟩:=Xm y cp;go_wp2;go_ret;exact⟨_,F,rfl,R,Zk y oM,A.1,Ek A<|aA⟩
structure cy(t:Nat)(w:Ub)(G n K:Nat)(gs cp:Wk)(Ws:Vp):Prop where
 row:w.rowIs G t n λi=>.slice (some ⟨gs i,0,none⟩) K (cp i)
 set:∀i,i<n->Cp w (gs i) K (cp i) (Ws i)
 inj:∀i j,i<n->j<n->gs i=gs j->i=j
 o:∀i,i<n->gs i≠G
abbrev Ye(w:Ub)(G n K:Nat)(a:Wk):=cy 100 w G n K a λ_=>K
abbrev XK:=cy 103
theorem Q8:(prog.info? 100).map (λi=>(i.8,i.3,i.4))=some (some<|.agg #[Hq],1,24):=vZ
theorem Q9:(prog.info? 103).map (λi=>(i.8,i.3,i.4))=some (some<|.agg #[Hq],1,24):=vZ
theorem J9{P:Yh}(t e:TypeId)(z:Uj)(a bytes:Nat)(g:P.underlying t=some (.slice e))(d:(P.info? e).map (λi=>(i.8,i.3,i.4))=some (some z,a,bytes))(n:Nat)(l:bytes*n<=281474976710656)(k:n<=9223372036854775807)(w:Ub):
 (Instr.makeSlice t (.int .i64 (n:Int)) (.int .i64 (n:Int))).run P w=.ok (.slice (some ⟨w.1.size,0,none⟩) n n) (w.alloc<|.cells (madeCells z.cells<|n*a) e):=by
 let⟨i,c,hq⟩:=Option.map_eq_some_iff.1 d;simp only[jC]at hq;let⟨j,f,b⟩:=hq;have h:=run_make (P:=P) w t e i z g c j .i64 .i64 (n:Int) (n:Int) oM (Int.le_refl _) (by rw[b,<-Int.natCast_mul];omega) oM;simp only[dM,f]at h;exact h
structure o7(t:Nat)(w wr:Ub)(G n K q:Nat)(gs:Wk):Prop where
 low:Below w.1.size w wr
 base:w.1.size<=G
 row:wr.rowIs G t n λi=>if i<q then .slice (some ⟨gs i,0,none⟩) K K else .slice none 0 0
 set:∀i,i<q->wr.rowIs (gs i) 189 K λ_=>.int .u64 ((0:Nat):Int)
 inj:∀i j,i<q->j<q->gs i=gs j->i=j
 up:∀i,i<q->G<gs i
theorem o7.next{wr:Ub}(h:o7 n w wr m k B g f)(hq:g<k)(c:Below wr.1.size wr v)(q:wr.1.size<=i)(p:v.rowIs i 189 B λ_=>.int .u64 ((0:Nat):Int)):
 o7 n w (v.setCell ⟨m,g,none⟩ (.slice (some ⟨i,0,none⟩) B B)) m k B (g+1) (λa=>if a=g then i else f a)/\v.cell? ⟨m,g,none⟩=some (.slice none 0 0)/\v.frozen? ⟨m,g,none⟩=false:=by
 have o:=h.3.lt;have l:=h.3.of_block<|c.5 m o;have d:=λa b=>(h.4 a b).lt;refine⟨⟨(h.1.trans<|c.mono h.1.4).setCell h.2 _,h.2,(l.set g _).congr λa _=>?_,λa b=>?_,λa j b r e=>?_,λa b=>?_⟩,(l.cell hq).trans sP,l.frozen g⟩
 .by_cases e:a=g;·subst e;simp
  rw[aM e];by_cases e2:a<g;·rw[aU e2,aU oM];simp[e]
  rw[aM e2,aM oM]
 .by_cases e:a=g;·rw[aU e];exact p.setOther (by show i≠m;omega) _
  rw[aM e];have:=h.6 a oM;exact((h.4 a oM).of_block (c.5 _<|d a oM)).setOther (by show f a≠m;omega) _
 .by_cases e1:a=g
  .by_cases e2:j=g;·rw[e1,e2]
   rw[aU e1,aM e2]at e;have:=d j oM;omega
  by_cases e2:j=g
  .rw[aM e1,aU e2]at e;have:=d a oM;omega
  rw[aM e1,aM e2]at e;exact h.5 a j oM oM e
 by_cases e:a=g
 .show m<if a=g then i else f a
  rw[aU e];omega
 show m<if a=g then i else f a
 rw[aM e];exact h.6 a oM
theorem P1(h j t e:Nat)(f:(h=100/\j=106/\t=103/\e=104)\/h=211/\j=95/\t=100/\e=310)(n d:Nat)(w:Ub)(F:n<=1000)(C:d<=60000):
 Calls prog h #[Hp n,Hp d] w λg r=>∃G c,g=.returned (Hl G n n)/\w.1.size<=G/\Below w.1.size w r/\cy t r G n ((d+63)/64) c (λ_=>(d+63)/64) (λ_ _=>0)/\(∀i,i<n->w.1.size<=c i):=by
 have o:∀(_:e=e),_:=λ_=>J9 (P:=prog) e t (.agg #[Hq]) 1 24 (by obtain⟨_,_,rfl,rfl⟩|⟨_,_,rfl,rfl⟩:=f;exact underlying104;exact underlying310) (by obtain⟨_,_,rfl,rfl⟩|⟨_,_,rfl,rfl⟩:=f;exact Q9;exact Q8) n oM oM;replace o:=o rfl;have s:=Xa<|dG w Hq n t;have v:=Xa (λW=>Ps j (by obtain k|k:=f<;>simp[k.2.1]) d W C);generalize (d+63)/64=K at*;obtain⟨rfl,rfl,rfl,rfl⟩|⟨rfl,rfl,rfl,rfl⟩:=f
 go_in
 rotate_left
 go_in
 rotate_left
 all_goals (
  go_wp2
  go_loopw [11] (λu wr=>∃q:Nat,q<=n/\u=Hp q/\∃c,Hs<|o7 _ w wr w.1.size n K q c) λu _=>n-(intOf u).toNat
  case atStart=>exact⟨0,aN,rfl,λ_=>0,Xa ⟨Xb (Below.refl _ _) _,aA,by simpa [Value.cells]using s.o,λi a=>absurd a oM,λi I a=>absurd a oM,λi a=>absurd a oM⟩⟩
  case round=>
   obtain⟨q,hq,rfl,c,b⟩:=hrel;by_cases A:q<n
   .go_wp2_with fail
    refine(v wr).mono ?_;rintro g J⟨D,rfl,z,m,p⟩;have y:=b.next A m z p;let⟨l,E,H⟩:=y;have x:=Xa l;go_wp2;exact⟨⟨q+1,oM,gM,_,x⟩,by simp[intOf];omega⟩
   have B:q=n:=oM;subst B;go_wp2;go_ret
   refine⟨_,c,rfl,aA,b.1,⟨b.3.congr λi a=>by rw[aU a],λi a=>Cp.of_row<|b.4 i a,b.5,λi a g=>by have:=b.6 i a;omega⟩,λi a=>by have:=b.6 i a;omega⟩)
abbrev Th:=@P1 211 95 100 310<|aZ ⟨rfl,rfl,rfl,rfl⟩
abbrev Ti:=@P1 100 106 103 104<|bC ⟨rfl,rfl,rfl,rfl⟩
def oe(L a:Wc)(i:Nat):Prop:=a.length=L.length/\∀k (h:k<L.length),a[k]?=some (if k<i\/L.length<=k+i then L[L.length-1-k]else L[k])
theorem DR(L:Wc):oe L L 0:=⟨rfl,λk h=>by rw[aM oM,aC h]⟩
theorem Dw(h:oe l L n)(b:l.length<=2*n+1):L=l.reverse:=by
 refine iG λk=>?_;by_cases a:k<l.length
 .rw[h.2 k a,List.getElem?_reverse a,aC oM];split;·rfl
  have e:l.length-1-k=k:=oM;simp only[e]
 rw[dK (by rw[h.1];omega),dK<|by rw[jQ];omega]
theorem DC(h:oe l L n)(d:2*n+1<l.length)(a:n<L.length)(b:l.length-1-n<L.length):oe l ((L.set n L[l.length-1-n]).set (l.length-1-n) L[n]) (n+1):=by
 refine⟨by rw[bL,bL];exact h.1,λk c=>?_⟩;have e1:=h.2 n oM;have e2:=h.2 (l.length-1-n) oM;rw[aC a,aM oM]at e1;rw[aC b,aM oM]at e2;injection e1 with e1;injection e2 with e2;rw[kG,bL];by_cases c1:l.length-1-n=k
 .subst c1;rw[aU rfl,aU b,aU oM,e1];have e:l.length-1-(l.length-1-n)=n:=oM;simp only[e]
 rw[aM c1,kG];by_cases c2:n=k
 .subst c2;rw[aU rfl,aU a,aU oM,e2]
 rw[aM c2,h.2 k c];by_cases c3:k<n\/l.length<=k+n;·rw[aU c3,aU oM]
 rw[aM c3,aM oM]
theorem TM(O:m<=1000000)(t:Hs (m=l.length))(E:Hs (w.ownsRow k 2 1 (Hl n m c) m (l.map<|Value.int .i64))):
 Calls prog 153 #[Hl n m c] w λe x=>e=.returned (.tuple #[])/\w.grownBy x (some n)/\x.ownsRow k 2 1 (Hl n m c) m (l.reverse.map<|Value.int .i64):=by
 go_in
 go_wp2
 go_loopw [2,3] (λu v wr=>∃(i:Nat)(a:Wc),u=Hp i/\v=Hp ((m:Int)-1-i)/\2*i<=m/\Hs (oe l a i)/\Hs (w.grownBy wr<|some n)/\Hs (wr.ownsRow k 2 1 (Hl n m c) m (a.map<|Value.int .i64))) λu _ _=>m-(intOf u).toNat
 case atStart=>exact⟨0,l,rfl,gM,oM,Xa<|DR l,Xa ⟨rfl,rfl,rfl,aA,λ_ _ _=>rfl⟩,E⟩
 obtain⟨i,a,rfl,rfl,J,d,h,b⟩:=hrel;by_cases N:2*i+1<m
 .have C:=t.o;have D:=d.1;let⟨j,f⟩:∃j:Nat,(m:Int)-1-i=j:=⟨m-1-i,oM⟩;have g:j=l.length-1-i:=oM;have q:i<a.length:=oM;have A:l.length-1-i<a.length:=oM;have B:j<a.length:=oM;have p:=Xa<|DC d oM q A;have e1:=Jj b (j:=i) (u:=Hp a[i]) (by simp[q]);have e2:=Jj b (j:=j) (u:=Hp a[j]) (by simp[B]);have P:=ol b;have o:Hs (a[l.length-1-i]=a[j]):=Xa (by simp only[g]);rw[o.o,<-g]at p;have K:i<j:=oM;have M:j<m:=oM;have L:i<m:=oM;have r:(j:Int)-1=(m:Int)-1-(i+1:Nat):=oM;have z:=Xa r;have I:∀v,(wr.setCell (Hk n i) v).cell? (Hk n j)=some (Hp a[j]):=λv=>(XL _ _ oM _).trans e2;clear C D g r o;rw[f];generalize a[i]=G at*;generalize a[j]=H at*;go_wp2;go_region;go_wp2;have F:wr.grownBy ((wr.setCell (Hk n i) (Hp H)).setCell (Hk n j) (Hp G)).drew (some n):=⟨rfl,rfl,rfl,by simp[World.setCell,World.drew],λQ _ s=>(Below.heap_setCell _ _ _ _ λe=>s<|by rw[e]).trans (Below.heap_setCell _ _ _ _ λe=>s<|by rw[e])⟩;refine⟨⟨i+1,_,gM,by rw[z.o],oM,p,Xa (h.andThen F λj f=>by cases f;exact aZ rfl),Xa ?_⟩,by simp[intOf];omega⟩;rw[mN,mN];exact qO (qO b _) _
 have y:=Xa<|Dw d (oN t.o);go_wp2
 go_end0
 exact⟨rfl,h,by rw[<-y.o];exact b⟩
theorem Aq(t:Hs (Xf w B g (some ⟨n,m,none⟩) l))(u:Hs (k=l.length))(C:k<=1000000000)(r:g<=w.1.size):
 Calls prog 152 #[Hm n m k c] w λq i=>∃v,q=.returned v/\Below w.1.size w i/\v≠Hq/\i.ownsRow w.1.size 2 1 v l.length (l.map<|Value.int .i64):=by
 let⟨A,s,x,y,z⟩:=fX RH;have D:∀(w:Ub)(a:Uy)(k c d b:Nat),(binOp .eql 41 (.slice a k c) (.slice none d b)).run prog w=.ok (.bool a.isNone) w:=λw a k c d b=>Lib.run_eql_slice_nil w _ _ a k c d b underlying41
 go_in
 go_wp2_with (at_builtin;refine nG rfl λK hK=>JD _ _ 41 rfl w.1.size 2 A underlying41 s x y z (Hl w.1.size 0 0) [] rfl (by simpa using World.ownsRow_lit (base:=w.1.size) (e:=2) (size:=1) w #[] 0 sP sP rfl) sP (some ⟨n,m,none⟩) k c l B g rfl u (t.keep<|(Xb (Below.refl w.1.size w) _).mono r) (by simp;omega) sP ?_)
 intro v1 E h e f;have j:=Xa (e.below (by simpa using World.ownsRow_lit (base:=w.1.size) (e:=2) (size:=1) w #[] 0 sP sP rfl:(w.alloc<|.cells #[] 2).ownsRow w.heap.size 2 1 (Hl w.heap.size 0 0) 0 []) (Xb (Below.refl _ _) _) sP);have p:=Xa h;have o:=Xa f;refine hK _ _ ?_;go_wp2;go_ret;exact⟨_,rfl,j,o,p⟩
def vL(a b:Ub):Prop:=a=b
theorem Bb(n:Nat)(w:Ub)(o:n<=1000000):
 Calls prog 182 #[Hq,Hp n] w λi f=>∃v,i=.returned v/\Below w.1.size w f/\(0<n->v≠Hq)/\f.ownsRow w.1.size 2 1 v 0 []:=by
 let⟨e,l,m,p,d⟩:=fX RH;by_cases j:n=0
 .subst j
  go_in
  go_wp2;go_ret;exact⟨_,rfl,Below.refl _ _,λh=>absurd h oM,dA⟩
 have c:∀b,(Builtin.append_ #[41,3] b #[Hq,Hp n]).run prog w =
  .ok (Hl w.1.size (0+n) (grownCap w (0+n) 0 2)) (w.drew.alloc<|.cells (([]:Wo).toArray++Builtin.zeroCells (Hp 0).cells n++Builtin.zeroCells (Hp 0).cells (grownCap w (0+n) 0 2 - (0+n))) 2):=λb=>
  Lib.run_append_grow_zeros w 41 3 b 2 e (Hp 0) .i64 .i64 underlying41 underlying3 l m none 0 0 [] (run_firstCells_none w.drew e.3 0 0 0) n oM oM oM oM (by rw[d];omega) (by rw[d];exact growslice_fits oM oM)
 have k:0+n<=grownCap w (0+n) 0 2:=grownCap_ge w _ _ _;have a:=grownCap_le_maxLen w (0+n) 0 2 (by unfold maxLen;omega);rw[aV]at c k a;have g:Hs (∀W:Ub,(W.alloc<|.cells (([]:Wo).toArray++Builtin.zeroCells (Hp 0).cells n++Builtin.zeroCells (Hp 0).cells (grownCap w n 0 2 - n)) 2).ownsRow W.1.size 2 1 (Hl W.1.size 0<|grownCap w n 0 2) 0 []):=Xa (λW=>World.ownsRow_made W _ _ aA a (by simp[size_zeroCells,Value.cells];omega));generalize ([]:Wo).toArray++Builtin.zeroCells (Hp 0).cells n++Builtin.zeroCells (Hp 0).cells (grownCap w n 0 2 - n)=cells at*;generalize grownCap w n 0 2=G at*;unfold maxLen at a
 go_in
 go_wp2_with (at_builtin;refine Lib.wpList_append_run _ rfl _ _ _ _ rfl _ _ rfl rfl _ _ (c _) ?_)
 all_goals (go_ret;exact⟨_,rfl,Xb (Below.refl _ _).drew _,λ_ h=>(by cases h),g w.drew⟩)
theorem Wb{c1 c2:Nat}(T:Hs (Xf w B g p l))(U:Hs (Xf w i j P L))(e1:Hs (m=l.length))(e2:Hs (k=L.length))(aa:m<=1000)(ab:k<=1000)(Y:0<m+k)(V:g<=w.1.size)(W:j<=w.1.size)(I:w.cell? (Hk n 0)=some (.slice p m c1))(q1:w.cell? (Hk n 1)=some (.slice P k c2)):
 Calls prog 154 #[Hl n 2 2] w λx J=>∃v,x=.returned v/\Below w.1.size w J/\J.ownsRow w.1.size 2 1 v (l++L).length ((l++L).map (Value.int .i64)):=by
 obtain⟨H,A,E,F,G⟩:=fX RH;have M:=Xa<|Bb (m+k) w oM
 go_in
 go_wp2
 go_loopw [3,11] (λs u wr=>vL wr w/\((s=Hp 0/\u=Hp 0)\/(s=Hp m/\u=Hp 1)\/(s=Hp ((m+k:Nat):Int)/\u=Hp 2))) λ_ u _=>2-(intOf u).toNat
 case atStart=>exact⟨rfl,bC ⟨rfl,rfl⟩⟩
 obtain⟨q,r⟩:=hrel;unfold vL at q;have X:=q.symm;subst X;clear q;obtain⟨rfl,rfl⟩|⟨rfl,rfl⟩|⟨rfl,rfl⟩:=r
 .go_wp2;exact⟨⟨rfl,aZ<|bC ⟨rfl,rfl⟩⟩,by simp[intOf]⟩
 .go_wp2;exact⟨⟨rfl,aZ<|aZ ⟨gM,rfl⟩⟩,by simp[intOf]⟩
 go_wp2_with fail
 refine M.mono ?_;rintro x w1⟨v,rfl,y,C,D⟩;have K:=Xa y;have R:=Xa D;have Q:=Xa<|C Y;have z:n<w.1.size:=aI _ _ I;clear y D C;go_wp2
 go_loopw [6,27] (λv u e=>Hs (Below w.1.size w e)/\Hs (v≠Hq)/\((u=Hp 0/\Hs (e.ownsRow w.1.size 2 1 v ([]:Wc).length (([]:Wc).map (Value.int .i64))))\/(u=Hp 1/\Hs (e.ownsRow w.1.size 2 1 v l.length<|l.map (Value.int .i64)))\/(u=Hp 2/\Hs (e.ownsRow w.1.size 2 1 v (l++L).length ((l++L).map (Value.int .i64)))))) λ_ u _=>2-(intOf u).toNat
 case atStart=>exact⟨K,Q,bC ⟨rfl,R⟩⟩
 obtain⟨a,t,r⟩:=hrel;have aj:=oB a I z;have al:=oB a q1 z;have af:=a.4;have ac:l.length<=1000:=oN e1.o;have ad:L.length<=1000:=oN e2.o;obtain⟨rfl,HOq⟩|⟨rfl,HOq⟩|⟨rfl,HOq⟩:=r
 .have N:=Xa<|T.keep (a.mono V);go_wp2_with (at_builtin;refine nG rfl λS hK=>JD _ _ 41 rfl w.1.size 2 H underlying41 A E F G _ [] rfl HOq t p m c1 l B g rfl e1 N (by simp;omega) oM ?_)
  intro v2 Z d b c;have f:=Xa<|b.below HOq a oM;have o:=Xa d;have h:=Xa c;clear d b c;refine hK _ _ ?_;go_wp2;exact⟨⟨f,h,aZ<|bC ⟨rfl,o⟩⟩,by simp[intOf]⟩
 .have O:=Xa<|U.keep (a.mono W);go_wp2_with (at_builtin;refine nG rfl λS hK=>JD _ _ 41 rfl w.1.size 2 H underlying41 A E F G _ l rfl HOq t P k c2 L i j rfl e2 O oM oM ?_)
  intro v2 Z d b c;have f:=Xa<|b.below HOq a oM;have o:=Xa d;have h:=Xa c;clear d b c;refine hK _ _ ?_;go_wp2;exact⟨⟨f,h,aZ<|aZ ⟨rfl,Xa<|by rw[aQ,bG];exact o⟩⟩,by simp[intOf]⟩
 go_wp2;go_ret;exact⟨_,rfl,a,HOq⟩
structure U8(w w':Ub)(n:Nat)(gs:Wk):Prop where
 os:w'.4=w.4
 tape:w'.2=w.2
 output:w'.5=w.5
 size:w.1.size<=w'.1.size
 block:∀k,k<w.1.size->(∀i,i<n->k≠gs i)->w'.1[k]?=w.1[k]?
theorem U8.refl(w:Ub)(n:Nat)(a:Wk):U8 w w n a:=⟨rfl,rfl,rfl,aA,λ_ _ _=>rfl⟩
theorem U8.below(h:U8 w v n f)(k:Below v.1.size v u):U8 w u n f:=⟨k.1.trans h.1,k.2.trans h.2,k.3.trans h.3,aJ h.4 k.4,λj a b=>(k.5 j<|aX a h.4).trans (h.5 j a b)⟩
theorem U8.grown(h:U8 w v n f)(k:v.grownBy u (some<|f m))(c:m<n):U8 w u n f:=⟨k.1.trans h.1,k.2.trans h.2,k.3.trans h.3,aJ h.4 k.4,λj a b=>(k.5 j (aX a h.4) λe=>b m c<|by injection e).trans (h.5 j a b)⟩
def Xi(l:Wa):Wc:=l.map Int.ofNat
def Yv(w:Ub)(P:Vv)(c:Uy)(a:Wc):Prop :=
 ∀i (h:i<a.length),∃b o,c=some ⟨b,o,none⟩/\(P b/\b<w.1.size)/\w.cell? ⟨b,o+i,none⟩=some (.int .i64 a[i])
def TA(w:Ub)(P:Vv)(d:Uy)(a:Tm):Prop :=
 ∀i (h:i<a.length),∃b o,d=some ⟨b,o,none⟩/\(P b/\b<w.1.size)/\∃c e,w.cell? ⟨b,o+i,none⟩=some (.slice c a[i].length e)/\Yv w P c a[i]
theorem cy.keep{w':Ub}(h:cy n w m k B f F M)(b:Below w.1.size w w'):cy n w' m k B f F M :=
 ⟨h.1.of_block<|b.5 _ h.1.lt,λi a=>(h.2 i a).of_block (b.5 _ (h.2 i a).lt),h.3,h.o⟩
theorem cy.wrote{b:Wk}(h:cy n w m k B f F M)(c:g<k)(d:w.grownBy v (some<|f g))(j:Cp v (f g) B (F g) b):cy n v m k B f F (λi=>if i=g then b else M i):=by
 refine⟨h.1.of_block (d.5 _ h.1.lt λe=>h.o g c<|by injection e with e;exact e.symm),λi a=>?_,h.3,h.o⟩;by_cases e:i=g
 .subst e;simpa using j
 simp only[aM e];exact(h.2 i a).of_block (d.5 _ (h.2 i a).lt λe2=>e<|by injection e2 with e2;exact h.3 i g a c e2)
theorem cy.apart{b:Wk}(h:cy n w m k B F b M)(c:U8 w v k f)(d:∀i,i<k->m≠f i)(e:∀i j,i<k->j<k->F i≠f j):cy n v m k B F b M :=
 ⟨h.1.of_block<|c.5 _ h.1.lt d,λi a=>(h.2 i a).of_block (c.5 _ (h.2 i a).lt λj g=>e i j a g),h.3,h.o⟩
theorem P4(az fa t:Nat)(hf:(az=105/\fa=107)\/az=212/\fa=225)(Z o0 o c0:Nat)(d:Wa)(L1 B1:Nat)(sa:Uy)(ns cs:Nat)(a:List Wa)(G J n K:Nat)(c aa s ar:Wk)(I T:Vp)(w:Ub)(cb:Hs (Xf w L1 B1 (some ⟨Z,o0,none⟩) (Xi d)))(h0:Hs (o=d.length))(b7:o<=1000)(e7:0<o)(ep:Hs (TA w (λl=>∀i,i<n->l≠c i) sa (a.map Xi)))(hs:Hs (ns=a.length))(ej:Hs (a.length=n))(hK:K<=100)(bn:B1<=w.1.size)(HI:Hs (cy t w G n K c s I))(HT:Hs (cy t w J n K aa ar T))(eq:Hs (XQ I))(V:Hs (XQ T))(d3:Hs (∀i,i<n->J≠c i))(d4:Hs (∀i ci,i<n->ci<n->aa i≠c ci))(ho:Hs (∀b∈d,b<n))(eo:Hs (∀cj∈a,cj.length<=2000/\∀t∈cj,t<n)):
 Calls prog az #[Hm Z o0 o c0,.slice sa ns cs,Hl G n n,Hl J n n] w λe M=>e=.returned (.tuple #[])/\U8 w M n c/\∃Ws,XQ Ws/\cy t M G n K c s Ws/\∀b,b<n->∀x,x<64*K->(Xh (Ws b) x=true↔Sp I T (·∈d) (λb=>a.getD b []) b x):=by
 have cq:=Xa (P8 fa (by obtain h|h:=hf<;>simp[h.2]));obtain⟨rfl,rfl⟩|⟨rfl,rfl⟩:=hf
 go_in
 rotate_left
 go_in
 rotate_left
 all_goals (
  go_wp2_with fail
  go_step3
  go_wp2_with fail
  refine(Aq cb (Xa (by have:=h0.o;simp[Xi];omega)) oM bn).mono ?_;rintro e w1⟨v1,rfl,bq,ei,a2⟩;obtain⟨P,k1,rfl,b1,e0⟩:=Xm a2 (by have:=h0.o;simp[Xi];omega);have ad:=Xa bq;have al:=Xa a2;have Q:(Xi d).length=o:=by have:=h0.o;simp[Xi];omega
  rw[Q]at al;clear bq a2 ei;go_wp2_with fail
  have ez:P<w1.1.size:=b1.2;have ey:w.1.size<=P:=b1.1;refine(TM oM (Xa Q.symm) al).mono ?_;rintro e B⟨rfl,b3,ca⟩;have a8:Hs (Below w.1.size w B):=Xa (ad.grown b3 ad.4 λl e=>by cases e;omega);have bd:=Xa ca;clear b3 ca al ad;go_wp2_with fail
  have eb:(λx9:Ub=>Hs (Below B.1.size B x9)/\x9.cell? (Hk B.1.size 0)=some (Hm Z o0 o c0)/\x9.cell? (Hk B.1.size 1)=some (Hl P o k1)) (B.alloc<|.cells #[Hm Z o0 o c0,Hl P o k1] 41):=⟨Xa<|Xb (Below.refl _ _) _,sP,sP⟩;generalize B.alloc _=wa at*;let⟨Y,ac,cc⟩:=eb;have X:Hs (Below w.1.size w wa):=Xa<|Xg a8 Y;have A:(Xi d).reverse.length=o:=by rw[jQ];exact Q
  have bb:Hs (Xf wa w.1.size B.1.size (some ⟨P,0,none⟩) (Xi d).reverse):=Xa (by
   have h:=bd.o;rw[<-A]at h;let⟨a',c',e',eg⟩:=Xk h;injection e' with e1;subst e1;exact eg.keep Y)
  refine(Wb (Xa<|cb.keep (X.mono bn)) bb (Xa Q.symm) (Xa A.symm) b7 b7 oM (oN X.4) Y.4 ac cc).mono ?_;rintro e N⟨v3,rfl,a1,a4⟩;have g:Hs (Below w.1.size w N):=Xa<|Xg X a1;have eR:Xi d++(Xi d).reverse=Xi (d++d.reverse):=by simp[Xi]
  rw[eR]at a4;have ec:(d++d.reverse).length=2*o:=by have:=h0.o;simp;omega
  have a0:Hs (∀b,b∈d++d.reverse↔b∈d):=Xa λb=>sP;generalize d++d.reverse=R at*;have b8:(Xi R).length=R.length:=by simp[Xi]
  let⟨a3,c3,e3,b4⟩:=Xk a4;rw[b8]at e3;subst e3;have c6:=Xa b4;have dw:Hs (wa.1.size<=N.1.size/\w.1.size<=wa.1.size):=Xa ⟨a1.4,X.4⟩;clear a1 a4 eR ac cc bb Y bd a8 b4;have di:=Xa<|HI.keep (g);have dn:=Xa<|HT.keep (g);have bo:0<R.length:=oM;have eu:R.length<=2000:=oM;clear ec Q A b8;have cw:Hs (∀i,i<n->c i<w.1.size):=Xa λi E=>(HI.2 i E).lt;go_wp2_with fail
  go_step3
  go_wp2
  go_loopg [10] (JI I K n) λl qv wr=>∃(q:Nat)(W:Vp),qv=Hp q/\q<R.length/\Hs (U8 N wr n c)/\Hs (cy t wr G n K c s W)/\Hs (XQ W)/\Hs (JI W K n<=l)/\Hs (∀b x,Xh (I b) x=true->Xh (W b) x=true)/\Hs (∀b x,Xh (W b) x=true->Sp I T (·∈d) (λb=>a.getD b []) b x)/\Hs (Ov T K (λb=>a.getD b []) W R q 0)
  case atStart=>exact⟨0,I,rfl,bo,Xa<|U8.refl _ _ _,di,eq,Xa<|aA,Xa λ_ _ h=>h,Xa λ_ _ h=>Sp.init h,Xa Vz⟩
  case round=>
   obtain⟨q0,W0,rfl,ac,cn,df,du,c8,cz,dl,ck⟩:=hrel;go_wp2_with fail
   generalize wr=wo at*
   go_loopw [10,26] (λqv H wr=>∃(q p:Nat)(W:Vp),qv=Hp q/\q<R.length/\H=Hp p/\p<=R.length/\Hs (U8 N wr n c)/\Hs (cy t wr G n K c s W)/\Hs (XQ W)/\Hs (JI W K n<gk\/(JI W K n<=gk/\q=q0+p))/\Hs (∀b x,Xh (I b) x=true->Xh (W b) x=true)/\Hs (∀b x,Xh (W b) x=true->Sp I T (·∈d) (λb=>a.getD b []) b x)/\Hs (Ov T K (λb=>a.getD b []) W R q p)) λ_ H _=>R.length-(intOf H).toNat
   case atStart=>exact⟨q0,0,W0,rfl,ac,rfl,aN,cn,df,du,Xa<|aZ ⟨c8,oM⟩,cz,dl,ck⟩
   case round=>
    obtain⟨q,p,W,rfl,hq,rfl,hp,y,HS,C,HM,bc,bf,HC⟩:=hrel;by_cases S:p<R.length
    .obtain⟨br,e8,rfl,ef,bm⟩:=c6 p (by simpa [Xi]using S);have ct:Hs (U8 w wr n c):=Xa ⟨y.1.trans g.1,y.2.trans g.2,y.3.trans g.3,aJ g.4 y.4,λl u D=>(y.5 l (aX u g.4) D).trans (g.5 l u)⟩;have er:=(Xc (y.5 br ef.2 λi E e=>by have:=cw i E;have:=dw.o;omega)).trans bm;have bp:(Xi R)[p]'(by simpa [Xi]using S)=((R[p]:Nat):Int):=by simp[Xi]
     rw[bp]at er;have m:R[p]<n:=ho _<|(a0 _).1 (aH S);have ee:Hs (R[p]∈d):=Xa<|(a0 _).1 (aH S);have ab:R[p]<a.length:=oN ej.o;let⟨bs,os,en,bv,dz,et,es,b6⟩:=ep R[p] (by simpa using ab);subst en;have d0:=(Xc<|ct.5 bs bv.2 bv.1).trans es;have cf:((a.map Xi)[R[p]]'(by simpa using ab)).length=a[R[p]].length:=by simp[Xi]
     rw[cf]at d0;have be:=Xa<|eo.o a[R[p]] (aH ab);have e6:=be.1;have ba:Hs (a.getD R[p] []=a[R[p]]):=Xa (by simp[ab]);have cm:Hs (∀W',(∀i x,x<64*K->Xh (W' i) x=Xh (W i) x)->PN T K (λb=>a.getD b []) W R[p]->Ov T K (λb=>a.getD b []) W' R (q+1) (p+1)):=Xa λW' e hb=>Br HC e S hb;have ev:R[p]<ns:=oN hs.o;have c7:Hs (Yv w (λl=>∀i,i<n->l≠c i) dz (Xi a[R[p]])):=Xa (by simpa using b6);clear bm es b6 bp cf;generalize ed:R[p]=b at*;clear ed;generalize a[b]=f at*;go_wp2_with fail
     generalize wr=e9 at*
     go_loopw [13,35] (λgv H wq=>∃r:Nat,r<=f.length/\H=Hp r/\gv=.bool (E5 T K b (f.take r) (W,false)).2/\Hs (U8 N wq n c)/\Hs (cy t wq G n K c s (E5 T K b (f.take r) (W,false)).1)) λ_ H _=>f.length-(intOf H).toNat
     case atStart=>exact⟨0,aN,rfl,rfl,y,HS⟩
     obtain⟨r,hr,rfl,rfl,j,k⟩:=hrel;by_cases A:r<f.length
     .have cv:Hs (U8 w wr n c):=Xa ⟨j.1.trans g.1,j.2.trans g.2,j.3.trans g.3,aJ g.4 j.4,λl u D=>(j.5 l (aX u g.4) D).trans (g.5 l u)⟩;obtain⟨b5,o5,rfl,bt,bl⟩:=c7 r (by simpa [Xi]using A);have e5:=(Xc<|cv.5 b5 bt.2 bt.1).trans bl;have cg:(Xi f)[r]'(by simpa [Xi]using A)=((f[r]:Nat):Int):=by simp[Xi]
      rw[cg]at e5;have a6:f[r]<n:=be.2 _<|aH A;have ap:=Xa<|dn.apart j d3 d4;have bh:=Xa<|Ay (T:=T) (K:=K) (b:=b) A (W,false);have bi:=Xa<|TG (T:=T) (K:=K) (b:=b) (f.take r) (W,false) C;clear bl cg;generalize f[r]=v at*;generalize E5 T K b (f.take r) (W,false)=sq at*;let⟨O,gq⟩:=sq;dsimp only at*;have k1:=k.1.cell m;have k2:=k.1.cell a6;have k3:=ap.1.cell m;have a7:=Xa (cq.o (c b) (c v) (aa b) K (s b) (s v) (ar b) (O b) (O v) (T b) wr.drew (Xa<|bi.o b) (Xa<|bi.o v) (Xa<|V.o b) oM (Xa<|(k.2 b m).drew) (Xa<|(k.2 v a6).drew) (Xa<|(ap.2 b m).drew) (d4 b b m m) (Xa λe=>by rw[k.3 v b a6 m e]));have dk:Hs (cy t wr.drew G n K c s O):=Xa ⟨k.1,λi E=>(k.2 i E).drew,k.3,k.o.o⟩;have cr:Hs (U8 N wr.drew n c):=Xa ⟨j.1,j.2,j.3,j.4,j.5⟩;have aj:Hs (G<wr.1.size/\J<wr.1.size):=Xa ⟨k.1.lt,ap.1.lt⟩;generalize Ix (O b) (O v) (T b) K=g5 at*;go_wp2_with fail
      refine Y7 (λM=>M.cell? (Hk G b)=some (Hl (c b) K (s b))/\M.cell? (Hk G v)=some (Hl (c v) K (s v))/\M.cell? (Hk J b)=some (Hl (aa b) K (ar b))) λhHeld=>?_;refine Xn 0 ?_;refine Xn 1 ?_;refine Xn 2 ?_;refine Xn 3 ?_;refine Xn 4 ?_;refine Xn 5 ?_;refine Xn 6 ?_;refine Xn 7 ?_;refine Xn 8 ?_;refine Xn 9 ?_;refine Xn 10 ?_;refine Xn 11 ?_;refine Xs 12 λK hK=>?_;go_simp
      first|go_at_call 107|go_at_call 225
      refine a7.mono ?_;rintro e w5⟨rfl,L,ce⟩;have dj:=Xa<|dk.wrote m L ce;have co:=Xa<|cr.grown L m;have j1:=(Xc<|L.5 G aj.1 λe=>k.o.o b m<|by injection e with e;exact e.symm).trans k1;have j2:=(Xc<|L.5 G aj.1 λe=>k.o.o b m<|by injection e with e;exact e.symm).trans k2;have j3:=(Xc<|L.5 J aj.2 λe=>d3 b m<|by injection e).trans k3;clear L ce a7;refine hK _ _ ⟨j1,j2,j3⟩ λhHeld=>?_;clear hK;refine Xn 13 ?_;cases g5
      focus
       refine wpAnyH_take (i:=14) (v:=?_) rfl vZ vZ vZ (λ_ _ _ h=>h) (bC ⟨by rfl,?_⟩) (by assumption) ?_;rotate_left;intro w hSw;(try dsimp only at hSw);go_simp;try with_reducible rfl
      rotate_left
      focus
       refine wpAnyH_take (i:=14) (v:=undef) rfl vZ vZ vZ (λ_ _ _ h=>h) (aZ ⟨by rfl,rfl⟩) (by assumption) ?_
      all_goals (
       simp only[xX];refine Xn 15 ?_;refine Xn 16 ?_;refine Yq ?_;go_wp2
       exact⟨⟨r+1,oM,gM,by rw[bh.o];rfl,Xa co.o,Xa<|by rw[bh.o];exact dj⟩,by simp[intOf];omega⟩)
     have em:r=f.length:=oM;have ds:Hs (f.take r=f):=Xa<|aW oM;rw[ds.o]at k |-;clear em;have aq:=Xa<|TG (T:=T) (K:=K) (b:=b) f (W,false) C;have db:=Xa<|JJ (T:=T) (K:=K) (b:=b) V f (W,false) C;have ao:=Xa (T9 (I:=I) (T:=T) (K:=K) (b:=b) (ord:=(·∈d)) (src:=λb=>a.getD b []) V ee f (W,false) C (λt U=>by show t∈a.getD b [];rw[ba.o];exact U) bf);have dd:=Xa<|T6 (T:=T) (K:=K) (b:=b) V f (W,false) C;have cx:=Xa<|UB (T:=T) (K:=K) (b:=b) V f (W,false) C rfl;have dc:=Xa λi (E:i≠b)=>TN (T:=T) (K:=K) E f (W,false);generalize E5 T K b f (W,false)=sq at*;let⟨z,ea⟩:=sq;dsimp only at*;have af:Hs (∀b x,Xh (I b) x=true->Xh (z b) x=true):=Xa λb x h=>db b x<|bc b x h;cases ea with
     |true=>
      have c9:=Xa<|tx (K:=K) dc (cx rfl) n m;go_wp2;exact⟨⟨0,p+1,z,rfl,bo,gM,oM,j,k,aq,Xa (bC (by have:=c9.o;obtain h|h:=HM.o<;>omega)),af,ao,Xa Vz⟩,by simp[intOf];omega⟩
     |false=>
      let⟨a5,bx⟩:=dd rfl;have a9:Hs (Ov T K (λb=>a.getD b []) z R (q+1) (p+1)):=Xa (cm.o z a5 (λt U x F=>by have ch:t∈a.getD b []:=U;rw[ba.o]at ch;exact bx t ch x F));have da:Hs (JI z K n=JI W K n):=Xa (Vo n λi _=>Vl λx F=>a5 i x F);clear a5 bx;by_cases cd:q+1=R.length
      .have el:(((q:Int)+1)==(R.length:Int))=true:=by simp;omega
       have cl:Hs (Ov T K (λb=>a.getD b []) z R R.length (p+1)):=Xa (by rw[<-cd];exact a9);clear cd;go_wp2
       go_end0
       refine⟨rfl,⟨j.1.trans g.1,j.2.trans g.2,j.3.trans g.3,aJ g.4 j.4,λl u D=>(j.5 l (aX u g.4) D).trans (g.5 l u)⟩,z,aq,k,λb _ x F=>?_⟩;exact We af ao (λb hb t U x F u D=>B6 cl oM ((a0 b).2 hb) t U x F u D) F
      have el:(((q:Int)+1)==(R.length:Int))=false:=by simp;omega
      go_wp2;exact⟨⟨q+1,p+1,z,gM,oM,gM,oM,j,k,aq,Xa (by rw[da.o];obtain h|⟨h,h'⟩:=HM.o;exact bC h;exact aZ ⟨h,oM⟩),af,ao,a9⟩,by simp[intOf];omega⟩
    have ek:p=R.length:=oM;subst ek;go_wp2_with fail
    go_roundg (JI W K n)
    case measure=>obtain h|⟨_,h⟩:=HM.o;exact h;omega
    case rel=>exact⟨q,W,rfl,hq,y,HS,C,Xa<|aA,bc,bf,Xa<|Bj HC hq⟩)
theorem Mw{f:Tm}(j:XR w n m p f)(a:∀b,n<=b->b<m->d b/\b<w.1.size):TA w d p f:=λq l=>by
 let⟨b,s,i,c,g,h,e2,k⟩:=j q l;refine⟨b,s,i,a b c.1 c.2,g,h,e2,λr o=>?_⟩;let⟨b2,t,e3,e,e4⟩:=k r o;exact⟨b2,t,e3,a b2 e.1 e.2,e4⟩
theorem AC(k o d c0:Nat)(e:Wa)(q g:Nat)(p:Uy)(m s:Nat)(c:List Wa)(r h:Nat)(G f n K:Nat)(a l:Wk)(I T:Vp)(w:Ub)(L:Hs (Xf w q g (some ⟨k,o,none⟩) (Xi e)))(B:Hs (d=e.length))(E:d<=1000)(F:0<d)(O:Hs (XR w r h p<|c.map Xi))(M:Hs (m=c.length))(H:Hs (c.length=n))(hK:K<=100)(C:g<=w.1.size)(V:h<=w.1.size)(z:Hs (Ye w G n K a I))(A:Hs (Ye w f n K l T))(P:Hs (XQ I))(Q:Hs (XQ T))(d2:Hs (∀i,i<n->¬(r<=a i/\a i<h)))(d3:Hs (∀i,i<n->f≠a i))(d4:Hs (∀i u,i<n->u<n->l i≠a u))(J:Hs (∀b∈e,b<n))(N:Hs (∀v∈c,v.length<=2000/\∀R∈v,R<n)):
 Calls prog 212 #[Hm k o d c0,.slice p m s,Hl G n n,Hl f n n] w λt y=>t=.returned (.tuple #[])/\U8 w y n a/\∃j,XQ j/\Ye y G n K a j/\∀b,b<n->∀x,x<64*K->(Xh (j b) x=true↔Sp I T (·∈e) (λb=>c.getD b []) b x) :=
 (P4 _ 225 100 (aZ ⟨rfl,rfl⟩) k o d c0 e q g p m s c G f n K a l _ _ I T w L B E F (Xa<|Mw O λb S U=>⟨λi D t=>d2 i D oM,oM⟩) M H hK C z A P Q d3 d4 J N)
abbrev Az:=@P4 105 107 103<|bC ⟨rfl,rfl⟩
def PD(b:Nat):Wa:=(List.range b).filter λx=>x != 0
def Nt(b:Nat):Vp:=λi=>if i=0 then E2 (λ_=>0) (PD b)else λ_=>0
def N7(b:Nat):Vp:=λi=>if i<b then YH (λ_=>0) i else λ_=>0
theorem KW:XA (λ_=>0):=λ_=>(by decide:0<18446744073709551616)
theorem Dp:PD 1=[]:=rfl
theorem D8(h:n≠0):PD (n+1)=PD n++[n]:=by
 unfold PD;rw[dN,eU];simp[h]
theorem Ew:m∈PD n↔m<n/\m≠0:=by simp[PD]
theorem v9(b:Nat):XQ (Nt b):=λi=>by
 unfold Nt;split;·exact Zs _ KW
 exact KW
theorem vX(b:Nat):XQ (N7 b):=λi=>by
 unfold N7;split;·exact oV KW i
 exact KW
theorem EN(a:k<n):Xh (Nt n m) k=true↔m=0/\k≠0:=by
 unfold Nt;by_cases e:m=0
 .rw[aU e,YR,Z3,jU,bD,Ew];exact⟨λh=>⟨e,h.2⟩,λh=>⟨a,h.2⟩⟩
 rw[aM e,Z3];exact⟨λh=>(by cases h),λh=>absurd h.1 e⟩
theorem En(a:m<n):Xh (N7 n m) k=true↔k=m:=by
 unfold N7;rw[aU a,Z8,Z3,jU,bD]
theorem Cs:Nt 1=λi=>Nt 0 i:=by funext i;unfold Nt;rw[Dp];rfl
theorem Dz(h:n≠0):(λi=>if i=0 then E2 (Nt n 0) [n]else Nt n i)=Nt (n+1):=by
 funext i;unfold Nt;by_cases e:i=0
 .subst e;simp only[gG];rw[D8 h];unfold E2;rw[dT]
 simp only[aM e]
theorem Dt:(λi=>if i=n then E2 (N7 n n) [n]else N7 n i)=N7 (n+1):=by
 funext i;unfold N7;by_cases e:i=n
 .subst e;simp only[gG,Nat.lt_irrefl,fD];rw[aU<|iJ];rfl
 simp only[aM e];by_cases h:i<n;·rw[aU h,aU oM]
 rw[aM h,aM oM]
theorem cy.grown(h:cy n w m k B f F M)(b:w.grownBy v (some g))(c:m≠g)(d:∀i,i<k->f i≠g):cy n v m k B f F M :=
 ⟨h.1.of_block (b.5 _ h.1.lt λe=>c<|by injection e),λi a=>(h.2 i a).of_block (b.5 _ (h.2 i a).lt λe=>d i a<|by injection e),h.3,h.o⟩
theorem A5(Z:Uy)(pc:Nat)(c0:Nat){I:List Wa}(L2 P:Nat)(b3:Hs (XR w L2 P Z<|I.map Xi))(hs:Hs (n=I.length))(b0:Hs (Xf w g i (some ⟨m,k,none⟩) (Xi s)))(h0:Hs (B=s.length))(hn:n<=1000)(l:0<n)(bv:B<=1000)(bx:0<B)(bo:i<=w.1.size)(bp:P<=w.1.size)(ho:Hs (∀b∈s,b<n))(b1:Hs (∀ba∈I,ba.length<=2000/\∀J∈ba,J<n)):
 Calls prog 191 #[.slice Z n pc,Hm m k B c0] w λe w'=>∃G j E,e=.returned (Hl G n n)/\Below w.1.size w w'/\Ye w' G n ((n+63)/64) j E/\XQ E/\∀b,b<n->∀M,M<n->(Xh (E b) M=true↔Sp (Nt n) (N7 n) (·∈s) (λb=>I.getD b []) b M):=by
 have ca:(n+63)/64<=16:=oM;have cb:n<=64*((n+63)/64):=oM;have aj:=Xa<|Th n n w hn oM;have al:=Xa λbn=>Th n n bn hn oM;generalize (n+63)/64=K at*
 go_in
 go_wp2_with fail
 refine aj.mono ?_;rintro e w1⟨G,j,rfl,hG,a0,a4,a7⟩;have Q:=Xa a0;have N:=Xa a4;clear a0 a4 aj;go_wp2_with fail
 refine(al w1).mono ?_;rintro e L⟨y,p,rfl,b7,X,a5,a8⟩;have ab:=Xa<|Xg Q X;have ap:=Xa<|N.keep X;have ar:=Xa a5;have b8:=N.1.lt;have ad:=Xa λa d=>(N.2 a d).lt;have V:=Xa a7;have be:=Xa Q.4;have W:=Xa a8;clear X a5 al Q N a7 a8;go_wp2_with fail
 have S:Hs (∀a O,a<n->O<n->p a≠j O):=Xa (λa O d hj e=>by have:=ad O hj;have:=W a d;omega);have bd:Hs (∀a,a<n->G≠p a):=Xa (λa d e=>by have:=W a d;omega);have ac:Hs (∀a,a<n->y≠j a):=Xa (λa d e=>by have:=ad a d;omega);have af:Hs (Ye L G n K j<|Nt 0):=Xa (by
  have e:(λ_ _=>0:Vp)=Nt 0:=by funext a;unfold Nt;split<;>rfl
  rw[<-e];exact ap)
 have aq:Hs (Ye L y n K p<|N7 0):=Xa (by
  have e:(λ_ _=>0:Vp)=N7 0:=by funext a;unfold N7;rw[aM oM]
  rw[<-e];exact ar)
 clear ap ar
 go_loopw [18] (λaa wr=>∃b:Nat,b<=n/\aa=Hp b/\Hs (Below w.1.size w wr)/\Hs (L.1.size<=wr.1.size)/\Hs (Ye wr G n K j<|Nt b)/\Hs (Ye wr y n K p<|N7 b)) λaa _=>n-(intOf aa).toNat
 case atStart=>exact⟨0,aN,rfl,ab,Xa<|aA,af,aq⟩
 obtain⟨b,hb,rfl,h,HZ,z,D⟩:=hrel;clear af aq ab;by_cases r:b<n
 .have k1:=D.1.cell r;have Y:=z.1.cell l;go_wp2_with fail
  have C:Hs (Xf (wr.alloc<|.cells #[Hp b] 172) wr.1.size (wr.1.size+1) (some ⟨wr.1.size,0,none⟩) ([b].map Int.ofNat)):=Xa<|UY wr b;have ao:Hs (∀J∈[b],J<64*K):=Xa (λJ ht=>by
   have:J=b:=by simpa using ht
   omega)
  have u:=Xa<|D.keep (Xb (Below.refl _ _) (.cells #[Hp b] 172));have t:=Xa<|z.keep (Xb (Below.refl _ _) (.cells #[Hp b] 172));have o:=Xa<|Xb h (.cells #[Hp b] 172);have b4:wr.1.size+1<=(wr.alloc<|.cells #[Hp b] 172).1.size:=sP;have ce:=(D.2 b r).lt;have cc:=(z.2 0 l).lt;clear h z D k1 Y;generalize wr.alloc _=wa at*;refine(Tz (p b) K K 1 1 (N7 b b) _ [b] wr.1.size (wr.1.size+1) wa C (Xa rfl) oM ao oM (Xa<|vX b b) (Xa<|u.2 b r) b4 oM).mono ?_;rintro e f⟨rfl,F,a2⟩;have U:Hs (Ye f y n K p<|N7 (b+1)):=Xa (by rw[<-Dt];exact u.wrote r F a2);have A:=Xa (t.grown F (bd b r) λa d e=>S b a r d e.symm);have R:=Xa (o.grown F o.4 λx e=>by cases e;have:=W b r;have:=be.o;omega);have az:Hs (L.1.size<=f.1.size):=Xa<|oP F.4 HZ.o;clear F a2 u t o C;by_cases q:b=0
  .have T:Hs (Ye f G n K j<|Nt (b+1)):=Xa (by subst q;rw[Cs];exact A);have bq:((b:Int)==0)=true:=by simp[q]
   have br:((b:Int) != 0)=false:=by simp[q]
   clear q;go_wp2;exact⟨⟨b+1,oM,gM,R,az,T,U⟩,by simp[intOf];omega⟩
  have bq:((b:Int)==0)=false:=by simp[q]
  have br:((b:Int) != 0)=true:=by simp[q]
  have Y:=A.1.cell l;go_wp2_with fail
  have C:Hs (Xf (f.alloc<|.cells #[Hp b] 172) f.1.size (f.1.size+1) (some ⟨f.1.size,0,none⟩) ([b].map Int.ofNat)):=Xa<|UY f b;have u:=Xa<|U.keep (Xb (Below.refl _ _) (.cells #[Hp b] 172));have t:=Xa<|A.keep (Xb (Below.refl _ _) (.cells #[Hp b] 172));have o:=Xa<|Xb R (.cells #[Hp b] 172);have b5:f.1.size+1<=(f.alloc<|.cells #[Hp b] 172).1.size:=sP;have cd:=(A.2 0 l).lt;clear R A U Y;generalize f.alloc _=wb at*;refine(Tz (j 0) K K 1 1 (Nt b 0) _ [b] f.1.size (f.1.size+1) wb C (Xa rfl) oM ao oM (Xa<|v9 b 0) (Xa<|t.2 0 l) b5 oM).mono ?_;rintro e w6⟨rfl,H,a3⟩;have T:Hs (Ye w6 G n K j<|Nt (b+1)):=Xa (by rw[<-Dz q];exact t.wrote l H a3);have bi:=Xa (u.grown H (ac 0 l) λa d=>S a 0 d l);have bb:=Xa (o.grown H o.4 λx e=>by cases e;exact V 0 l);have bm:Hs (L.1.size<=w6.1.size):=Xa<|oP H.4 az.o;clear H a3 u t o C;go_wp2;exact⟨⟨b+1,oM,gM,bb,bm,T,bi⟩,by simp[intOf];omega⟩
 have bt:b=n:=oM;subst bt;go_wp2_with fail
 refine(AC m k B c0 s g i Z b pc I L2 P G y b K j p (Nt b) (N7 b) wr (Xa<|b0.keep (h.mono bo)) h0 bv bx (Xa<|b3.keepS λx _ h2=>(h.mono bp).5 x h2) hs (Xa hs.symm) oM (oN h.4) (oN h.4) z D (Xa<|v9 b) (Xa<|vX b) (Xa λa d b6=>by have:=V a d;omega) ac S ho b1).mono ?_;rintro e w7⟨rfl,v,E,a9,a6,a1⟩;have bc:Hs (Below w.1.size w w7):=Xa ⟨v.1.trans h.1,v.2.trans h.2,v.3.trans h.3,aJ h.4 v.4,λx hk=>(v.5 x (oN h.4) λa d e=>by have:=V a d;omega).trans (h.5 x hk)⟩;have bh:=Xa a6;have bl:=Xa a9;have bf:=Xa a1;clear v a9 a6 a1;go_wp2;go_ret;exact⟨G,j,E,rfl,bc,bh,bl,λc hc M hx=>bf c hc M oM⟩
theorem Vi(h:J2 ⟨t,x⟩=true):mp x x.length:=by
 intro a i;have d:Jf t x.length a.3=true:=dV.1 h a i;simp only[Jf,Zu,bY,bD]at d;let⟨⟨⟨⟨⟨j,k⟩,l⟩,b⟩,f⟩,c⟩:=d;have g:a.3.1=1\/a.3.1=2\/a.3.1=3:=oM;obtain e|e|e:=g
 .simp only[e,Tp]at b;simp[Yj.tg,e]at b |-;omega
 .simp only[e,Tp]at b f c;simp[Yj.tg,e]at b f c |-;refine⟨?_,c⟩;omega
 simp[Yj.tg,e]
theorem Ce(h:Z0 ⟨n,x⟩=true)(l:KL ⟨n,x⟩=true):wU x n:=by
 intro m d;constructor
 .intro p i;obtain⟨k,g,rfl⟩:=bR d;have a:=(Zr ZX ⟨n,x⟩ x 0).1 l k g;have b:=dV.1 a p i;simp only[ZX,Tp,bY,bD,gG]at b;exact b.1
 intro y j;have a:=dV.1 (dV.1 h m d) y j;simp only[Yw,bY,bD]at a;let⟨⟨⟨⟨⟨b,e⟩,c⟩,_⟩,_⟩,_⟩:=a;refine⟨b,e,λf=>?_⟩;rw[f]at c;simpa [Tp]using c
theorem V7:Xo x=x.length+Xx x:=by
 induction x with
 |nil=>rfl
 |cons a x b=>
  have d:Xo (a::x)=Ul a+Xo x:=by simp[Xo]
  have e:Xx (a::x)=ZZ a+Xx x:=by simp[Xx]
  have f:XZ a.1=a.1.length+JG a.1:=by
   generalize a.1=c
   induction c with
   |nil=>rfl
   |cons p c b=>simp only[XZ,JG,eH,kX,bA]at b |-;omega
  rw[d,e,b,bA];simp only[Ul,ZZ];omega
theorem FL(h:q∈x):q.1.length+JG q.1+q.2.length<=Xx x:=by
 induction x with
 |nil=>cases h
 |cons y a c=>
  have b:Xx (y::a)=ZZ y+Xx a:=by simp[Xx]
  obtain rfl|h:=cH.1 h;·rw[b];simp only[ZZ];omega
  have:=c h;omega
theorem Gm{a:Za}{p:Ph}(h:p∈a):p.2.length<=JG a:=by
 induction a with
 |nil=>cases h
 |cons y b c=>
  have d:JG (y::b)=y.2.length+JG b:=by simp[JG]
  obtain rfl|h:=cH.1 h;·omega
  have:=c h;omega
theorem ti(h:x.length+Xx x<=1048576):Fv x:=λd b=>by
 have c:=FL b;exact⟨oM,oM,λp a=>by have:=Gm a;omega⟩
theorem JK(v:Int)(y:Uy)(u c:Nat)(a:Wi)(V C:Nat)(w:Ub)(ha:Hs (Xp w V C y a))(g:Hs (u=a.length))(t:Hs (a.length+Xx a<=1048576))(K:C<=w.1.size)(X:Hs (Uw w))(hT:Hs (T7 w)):
 Calls prog 43 #[.agg #[Hp v,.slice y u c]] w λh w'=>h=.returned (.bool (XJ ⟨v,a⟩))/\Below w.1.size w w':=by
 have l:u<=1048576:=oP g.o t.o;have M:Xo a<=1048576:=by rw[V7];exact t
 have A:=Xa<|ti t;have s:=λaj=>ha.keep<|(Xb (Below.refl w.1.size w) aj).mono K;have G:=Xa M;have o:Hs (XJ ⟨v,a⟩=(Y6 ⟨v,a⟩&&J2 ⟨v,a⟩&&Z0 ⟨v,a⟩&&KL ⟨v,a⟩&&JM ⟨v,a⟩)):=rfl;cases h1:Y6 ⟨v,a⟩
 .have b:=Xa h1;have r:=Xa s
  go_in
  go_wp2_with fail
  refine(Uz (Xw r _) g l G (by simp;omega)).mono ?_;rintro h B⟨rfl,k⟩;rw[Xw b];go_wp2;go_ret;exact⟨Xl (by rw[o.o,b.o];rfl),Xg (Xb (Below.refl _ _) _) k⟩
 have b:=Xa h1;have r:=Xa s;have O:0<=v/\v<=2000:=by
  have j:=b.o;simp only[Y6,bY,bD]at j;omega
 obtain⟨p,rfl⟩:=bX O.1;have hm:p<=2000:=oM
 go_in
 go_wp2_with fail
 refine(Uz (Xw r _) g l G (by simp;omega)).mono ?_;rintro h B⟨rfl,k⟩;rw[Xw b];let⟨z,ad⟩:=NC k;have P:B.cell? (Hk w.1.size 0)=some (Hp p):=by rw[z _ _ sP];simp
 have R:B.cell? (Hk w.1.size 1)=some (.slice y u c):=by rw[z _ _ sP];simp
 have m:=Xg (Xb (Below.refl w.1.size w) _) k;have af:=k.4;simp at af;have H:=Xa<|ha.keep (m.mono K);have Y:=Xa<|X.keep m;have ab:=Xa<|hT.keep m;have D:=Xa m;go_wp2_with fail
 refine(AD H g l oM ab).mono ?_;rintro h w2⟨rfl,d⟩;cases h2:J2 ⟨p,a⟩
 .have i:=Xa h2;go_wp2;go_ret;exact⟨Xl (by rw[o.o,b.o,i.o];rfl),Xg D d⟩
 have i:=Xa h2;have N:=Xa<|Vi i;rw[<-g.o]at N;have Q:=(XU d oM).trans P;have S:=(XU d oM).trans R;have al:=d.4;have I:=Xa<|H.keep (d.mono oM);have L:=Xa<|Y.keep d;have E:=Xa<|Xg D d;go_wp2_with fail
 refine(W4 I g l (λx j=>(A x j).2.1) oM L).mono ?_;rintro h w3⟨rfl,e⟩;cases h3:Z0 ⟨p,a⟩
 .have n:=Xa h3;go_wp2;go_ret;exact⟨Xl (by rw[o.o,b.o,i.o,n.o];rfl),Xg E e⟩
 have n:=Xa h3;have T:=(XU e oM).trans Q;have q1:=(XU e oM).trans S;have ao:=e.4;have J:=Xa<|I.keep (e.mono oM);have Z:=Xa<|L.keep e;have F:=Xa<|Xg E e;go_wp2_with fail
 refine(AG J g l (λx j=>⟨(A x j).1,(A x j).2.2⟩) oM N).mono ?_;rintro h w4⟨rfl,f⟩;cases h4:KL ⟨p,a⟩
 .have q:=Xa h4;go_wp2;go_ret;exact⟨Xl (by rw[o.o,b.o,i.o,n.o,q.o];rfl),Xg F f⟩
 have q:=Xa h4;have r0:=(XU f oM).trans T;have r1:=(XU f oM).trans q1;have ap:=f.4;have W:=Xa<|J.keep (f.mono oM);have aa:=Xa<|Z.keep f;have U:=Xa<|Xg F f;go_wp2_with fail
 refine(WE W g l hm (show Xx a<=1048576 by have:=t.o;omega) oM aa (Ce n q)).mono ?_;rintro h w5⟨rfl,ac⟩;go_wp2;go_ret;exact⟨Xl (by rw[o.o,b.o,i.o,n.o,q.o];simp),Xg U ac⟩
def jm(W:Wk)(x:Nat):Wk:=λi=>if i=x/64 then W i&&&(18446744073709551615-2^(x%64))else W i
theorem uS(h:n<64):2^n<18446744073709551616:=aX (lB vY h) vY
theorem EJ:Xh (jm f n) m=(decide (m≠n)&&Xh f m):=by
 unfold Xh jm;by_cases e:m/64=n/64
 .rw[aU e,jW,qA (uS<|dS _ vY) (dS _ vY),nE];by_cases h:n%64=m%64
  .have:m=n:=oM;simp[this]
  have:m≠n:=λq=>h (by rw[q]);simp[h,this]
 rw[aM e];have:m≠n:=λq=>e (by rw[q]);simp[this]
theorem FN(h:XA f)(x:Nat):XA (jm f x):=λi=>by
 unfold jm;split;·exact iC jB<|h i
 exact h i
def Js(W:Wk)(a:Wa):Wk:=a.foldl jm W
theorem Ch{W:Wk}(h:n<s.length):Js W (s.take<|n+1)=jm (Js W<|s.take n) s[n]:=by
 unfold Js;rw[bN h,dT];rfl
theorem JX:∀(a:Wa){W:Wk},XA W->XA (Js W a)
 |[],_,h=>h
 |t::a,_,h=>JX a<|FN h t
theorem Kt:∀(a:Wa)(W:Wk)(y:Nat),Xh (Js W a) y=(decide (y∉a)&&Xh W y)
 |[],_,_=>by simp[Js]
 |t::a,W,y=>by
  have h:=Kt a (jm W t) y;have e:Js W (t::a)=Js (jm W t) a:=rfl;rw[e,h,EJ];by_cases b:y=t<;>by_cases c:y∈a<;>simp[b,c]
theorem Bn(c:m<64)(b:n<18446744073709551616):bits .andNot .u64 (n:Int) (IntKind.u64.wrap<|2^m)=((n&&&(18446744073709551615-2^m):Nat):Int):=by
 have a:=uS c;have e:IntKind.u64.wrap (2^m)=((2^m:Nat):Int):=by
  rw[iV];have:((2^m:Nat):Int)=(2:Int)^m:=sP;rw[<-this];exact mB (kF _) (Int.ofNat_lt.2 a)
 rw[e,kM _ _ b a]
theorem JL(c:Nat)(o:Uy)(L:Nat)(w:Ub)(ha:Hs (Xf w L g o<|s.map Int.ofNat))(y:Hs (B=s.length))(hn:B<=4000)(M:Hs (∀t∈s,t<64*m))(hK:m<=1000)(G:Hs (XA f))(x:Hs (Cp w n m k f))(V:g<=w.1.size)(Z:¬(L<=n/\n<g)):
 Calls prog 103 #[.agg #[Hl n m k],.slice o B c] w λe z=>e=.returned (.tuple #[])/\w.grownBy z (some n)/\Cp z n m k (Js f s):=by
 go_in
 go_wp2;have Y:=x.lt
 go_loopw [8] (λu wr=>∃q:Nat,q<=B/\u=Hp q/\Hs (w.grownBy wr<|some n)/\wr.cell? (Hk w.1.size 0)=some (Hl n m k)/\Hs (Cp wr n m k<|Js f (s.take q))) λu _=>B-(intOf u).toNat
 case atStart=>exact⟨0,aN,rfl,Xa<|bW _ _ _,sP,Xa<|x.alloc _⟩
 obtain⟨q,hq,rfl,d,K,a⟩:=hrel;by_cases aa:q<B
 .have l:q<s.length:=oN y.o
  obtain⟨p,O,rfl,W,r⟩:=ha q (by simpa using l);have j:=(Xc<|d.5 p oM λe=>by injection e with e;omega).trans r;rw[cM]at j;have ad:=M _<|aH l;have D:=Xa<|Ch (W:=f) l;have E:=Xa<|JX (s.take q) G;generalize s[q]=t at*;have T:=rh t;have U:=rg t;have Q:Cl wr p (O+q) (Hp t):=j;generalize Js f (s.take q)=h at*;have v:t/64<m:=oM;have J:t%64<64:=dS _ vY;have R:=a.cell v;have S:=a.frozen;have C:=Xa<|Bn J (E<|t/64);have A:Hs (∀i,(if i=t/64 then h (t/64)&&&(18446744073709551615-2^(t%64))else h i)=Js f (s.take<|q+1) i):=Xa (λi=>by
   rw[D.o];unfold jm;by_cases e:i=t/64;·rw[aU e,aU e,e]
   rw[aM e,aM e])
  generalize X:t/64=b at*;generalize ab:t%64=P at*;go_wp2;go_region;go_wp2;rw[C.o];have N:wr.grownBy (wr.setCell (Hk n b) (.int .u64 ((h b&&&(18446744073709551615-2^P):Nat):Int))).drew (some n):=⟨rfl,rfl,rfl,by simp[World.setCell,World.drew],λaj _ I=>Below.heap_setCell _ _ _ _ λe=>I<|by rw[e]⟩;refine⟨⟨q+1,oM,gM,Xa (d.andThen N λaf H=>by cases H;exact aZ rfl),?_,Xa ?_⟩,by simp[intOf];omega⟩;·exact(bH wr (Hk n b) (Hk w.1.size 0) _ (by show n≠w.1.size;omega)).trans K
  refine Cp.drew ((a.set b _ v).congr λi _=>?_);rw[<-A.o i]
 have ac:q=B:=oM;have F:Hs (s.take q=s):=Xa<|aW (oN y.o);rw[F.o]at a;go_wp2
 go_end0
 exact⟨rfl,d,a⟩
theorem BV(y:Hs (Cp w n m k f))(hK:m<=1000):
 Calls prog 146 #[Hl n m k] w λe A=>∃b d,e=.returned (Hl b m d)/\w.1.size<=b/\Below w.1.size w A/\Cp A b m d f:=by
 let⟨L,G,I,J,K⟩:=fX Qg;have O:∀(w:Ub)(g:Uy)(o c p h:Nat),(binOp .eql 98 (.slice g o c) (.slice none p h)).run prog w=.ok (.bool g.isNone) w:=λw g o c p h=>Lib.run_eql_slice_nil w _ _ g o c p h underlying98;have N:=y.lt;have q:Hs ((w.alloc<|.cells #[] 189).ownsRow w.1.size 189 1 (Hl w.1.size 0 0) 0 []):=Xa<|eI (base:=w.1.size) (e:=189) (size:=1) w #[] 0 sP sP rfl
 go_in
 go_wp2_with (at_builtin;refine fT _ rfl _ _ 98 rfl w.1.size 189 L (.int .u64 0) 1 8 underlying98 G I J K rfl vY _ _ _ rfl q (Hk n 0) m k ((List.range m).map λi=>Value.int .u64 (f i:Int)) rfl ?c0 ?c1 ?c2 ?c3 ?c4 ?c5 ?_)
 case c0=>simp
 case c1=>
  intro l M a;rw[dX]at a;by_cases e:l<m
  .rw[iQ e]at a;simp at a;subst a;have:=(y.alloc<|.cells #[] 189).cell e;have e2:((Hk n 0):Addr).add l=(Hk n l):=by rw[mK];simp
   rw[e2];exact this
  rw[dK<|by simp;omega]at a;cases a
 case c2=>
  intro M H;obtain⟨i,_,rfl⟩:=aY.1 H;rfl
 case c3=>unfold maxLen;omega
 case c4=>omega
 case c5=>simp
 intro v1 B u s t;have z:v1≠Hq:=by simpa using t
 have r:=Xy (Xb (Below.refl w.1.size w) _) s q aA sP;have v:B.ownsRow w.1.size 189 1 v1 ((List.range m).map f).length (((List.range m).map f).map λx:Nat=>Value.int .u64 (x:Int)):=by
  have e:(((List.range m).map f).map λx:Nat=>Value.int .u64 (x:Int))=(List.range m).map λi=>Value.int .u64 (f i:Int):=sP;rw[e];simpa using u
 obtain⟨b,d,rfl,E,j⟩:=Cp.of_own v z;have C:=Xa r;have D:Hs (Cp B b m d f):=Xa (by
  have e:((List.range m).map f).length=m:=sP;rw[e]at j;exact j.congr λi F=>by simp[F])
 have e:((List.range m).map f).length=m:=sP;rw[e];go_wp2;go_ret;exact⟨_,_,rfl,E,C,D⟩
theorem Kk(g K C:Nat)(W:Wk)(w:Ub)(q:Hs (Cp w g K C W))(hK:K<=1000):
 Calls prog 101 #[.agg #[Hl g K C]] w λe j=>∃b c,e=.returned (.agg #[Hl b K c])/\w.1.size<=b/\Below w.1.size w j/\Cp j b K c W:=by
 go_in
 go_wp2_with fail
 have m:Hs (Below w.1.size w<|(w.alloc<|.cells #[Hl g K C] 103).alloc (.cells #[Hq] 103)):=Xa<|Xb (Xb (Below.refl _ _) _) _;have v:((w.alloc<|.cells #[Hl g K C] 103).alloc (.cells #[Hq] 103)).1.size=w.1.size+2:=sP;have r:=(q.alloc<|.cells #[Hl g K C] 103).alloc (.cells #[Hq] 103);have p:(λk:Ub=>k.cell? (Hk (w.1.size+1) 0)=some Hq/\k.frozen? (Hk (w.1.size+1) 0)=false) ((w.alloc<|.cells #[Hl g K C] 103).alloc (.cells #[Hq] 103)):=⟨(by simp[go_sem]),(by simp[go_sem])⟩;generalize (w.alloc _).alloc _=t at*;let⟨f,h⟩:=p;refine(BV (Xa r) hK).mono ?_;rintro e s⟨d,l,rfl,u,a,i⟩;have f1:=(XU a oM).trans f;have f2:s.frozen? (Hk (w.1.size+1) 0)=false:=by rw[bJ (w:=t) (a:=(Hk (w.1.size+1) 0)) (a.5 _<|by show w.1.size+1<_;omega)];exact h
 have n:=Xa<|Xg m a;have o:=Xa i;go_wp2_with fail
 refine cC (v:=.agg #[Hl d K l]) (by simp[results,results101,go_sem,f1]) rfl ?_;exact⟨_,_,rfl,oM,n.setCell (by show w.1.size<=w.1.size+1;omega) _,o.setOther (by show d≠w.1.size+1;omega) _⟩
end Go.Proofs.YtcfdhbigppockaaGreatDoor
