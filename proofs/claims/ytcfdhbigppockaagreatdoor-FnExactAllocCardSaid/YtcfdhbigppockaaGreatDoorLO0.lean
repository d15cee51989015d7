import Derived.Test.YtcfdhbigppockaaGreatDoorAL1
import Derived.Test.YtcfdhbigppockaaGreatDoorDG5
import Derived.Test.YtcfdhbigppockaaGreatDoorW18b
import Derived.Test.YtcfdhbigppockaaGreatDoorMB1
namespace Go.Proofs.YtcfdhbigppockaaGreatDoor
set_option maxHeartbeats 4000000
set_option maxRecDepth 100000
open Go.RowKit Go.Proofs.Tryz Go.Shelf
variable{t T:Int}{n m k B g i j c:Nat}{w v u:Ub}{a A:Uj}{p P:Uy}{h H:Vu}{l:Wc}{x:Wi}{f:Wk}{y:Wo}
def Kp(a:Wc)(v:Int):Int:=a.getD v.toNat 0
def ZR(a:Wc)(x:Yg):Yg:=⟨x.1,if dB x.1=true then Kp a x.2 else x.2,if aB x.1=true then Kp a x.a else x.a,if bB x.1=true then Kp a x.b else x.b,x.5⟩
def NN(a:Wc)(t:Yj):Yj:=⟨t.1,if t.1=1 then t.a else Kp a t.a,t.3,t.4⟩
def iT(a:Wi)(t:Int):Za:=match a[t.toNat]? with|some x=>x.1|none=>[]
def NU(a:Wc)(b:Wi)(p:Nat)(t:Int):Wy:=(E9 (de (AQ b 0 t) (p:Int)) (iT b t)).map λq=>⟨Kp a q.1,Kp a q.2⟩
def NL(a:Wc)(b:Wi)(p:Nat)(t:Int):Vr:=dp<|NU a b p t
def ah(a:Wc)(b:Wi)(p:Nat)(t:Int)(m:Nat):Int×List ag:=if NL a b p t=[]then (t,[])else ((m:Int),[⟨NL a b p t,⟨1,0,t,0⟩⟩])
def Nk(a:Wc)(c:Wi)(b:Nat)(x:Xe)(m:Nat):ag×List ag :=
 if x.3.1=1 then (⟨x.2.map (ZR a)++NL a c b x.3.3,NN a x.3⟩,[])
 else if x.3.1=2 then (⟨x.2.map<|ZR a,⟨x.3.1,Kp a x.3.a,(ah a c b x.3.3 m).1,(ah a c b x.3.4<|m+(ah a c b x.3.3 m).2.length).1⟩⟩,(ah a c b x.3.3 m).2++(ah a c b x.3.4<|m+(ah a c b x.3.3 m).2.length).2)
 else (⟨x.2.map<|ZR a,NN a x.3⟩,[])
def ae(c:List Int)(a:List Xe):Nat->List ag×List ag
 |0=>([],[])
 |b+1=>match a[b]? with
  |none=>ae c a b
  |some x=>((ae c a b).1++[(Nk c a b x<|a.length+(ae c a b).2.length).1],(ae c a b).2++(Nk c a b x<|a.length+(ae c a b).2.length).2)
def NK(b:Wc)(a:Wi):List ag:=(ae b a a.length).1++(ae b a a.length).2
theorem ou(c:Wc)(a:Wi)(b:Nat)(h:b<a.length):ae c a (b+1)=((ae c a b).1++[(Nk c a b a[b] (a.length+(ae c a b).2.length)).1],(ae c a b).2++(Nk c a b a[b] (a.length+(ae c a b).2.length)).2):=by
 rw[ae,aC h]
theorem ll(c:Wc)(a:Wi):∀b,b<=a.length->(ae c a b).1.length=b
 |0,_=>rfl
 |b+1,h=>by rw[ou c a b oM,aQ,ll c a b oM];rfl
theorem m6(a:Wc)(b:Wi)(p:Nat)(t:Int)(m:Nat):(ah a b p t m).2.length<=1:=by
 unfold ah;split<;>simp
theorem Iu(a:Wc)(c:Wi)(b:Nat)(x:Xe)(m:Nat):(Nk a c b x m).2.length<=2:=by
 unfold Nk;split;·simp
 split
 .have d:=m6 a c b x.3.3 m;have e:=m6 a c b x.3.4<|m+(ah a c b x.3.3 m).2.length;rw[aQ];omega
 simp
theorem oz(c:Wc)(a:Wi):∀b,b<=a.length->(ae c a b).2.length<=2*b
 |0,_=>by simp[ae]
 |b+1,h=>by
  have d:=oz c a b oM;have e:=Iu c a b a[b] (a.length+(ae c a b).2.length);rw[ou c a b oM,aQ];omega
theorem pD(h:n<x.length):iT x (n:Int)=x[n].1:=by
 unfold iT;rw[dM,aC h]
theorem zT{c:Type}(f:Nat->List c):∀(n i:Nat),i<n->(∀j,j<n->j≠i->f j=[])->(List.range n).flatMap f=f i
 |0,i,h,_=>absurd h<|Nat.not_lt_zero _
 |n+1,i,h,hf=>by
  rw[dN,eZ];by_cases e:i=n
  .subst e;have:(List.range i).flatMap f=[]:=List.flatMap_eq_nil_iff.2 λj a=>hf j (oN<|bE.1 a) (oN<|bE.1 a);rw[this];simp
  rw[zT f n i oM λj d b=>hf j oM b];have:f n=[]:=hf n oM λq=>e q.symm;simp[this]
theorem Kh(e:m<x.length)(i:(n:Int)∈AQ x 0 (m:Int)):G2 x (n:Int) (m:Int)=(E9 (de (AQ x 0 (m:Int)) (n:Int)) (iT x (m:Int))).map (λq=>q.2):=by
 have c:=pC i;have d:=yq c;have g:=r5 (m:Int) x 0;rw[pD e];unfold G2;rw[dM,aC e];dsimp only;by_cases b:x[m].1=[];·rw[aU b,b];rfl
 rw[aM b];generalize AQ x 0 (m:Int)=a at*;rw[zT _ a.length (de a (n:Int)) c λj f h=>?_]
 .rw[aU<|by rw[bF,aC c,d];rfl];simp[E9]
 rw[aM λq=>h ?_];rw[bF,aC f]at q;exact(List.getElem_inj g).1 (show a[j]=a[de a (n:Int)] by rw[d];exact q)
def Pf(w a:Ub)(e d b c i:Int):Prop:=Below w.1.size w a/\Bx a w.1.size #[.int .i64 e,.int .i64 d,.int .i64 b,.int .i64 c,.int .i64 i] 66/\Bx a (w.1.size+1) #[.int .i64 0,.int .i64 0,.int .i64 0,.int .i64 0,.int .i64 0] 66
theorem jq(h:Xf w n m p l){v:Int}(f:0<=v)(g:v<l.length):∃b o k,v=((k:Nat):Int)/\k<l.length/\p=some (Hk b o)/\(n<=b/\b<m)/\w.cell? (Hk b<|o+k)=some (Hp<|Kp l v):=by
 obtain⟨k,rfl⟩:∃k:Nat,v=(k:Int):=⟨v.toNat,oM⟩;have a:k<l.length:=oM;let⟨b,o,e,c,d⟩:=h k a;refine⟨b,o,k,rfl,a,e,c,?_⟩;unfold Kp;rw[dM,bF,aC a];exact d
theorem yL{x:Yg}(v:Hs (Xf w k B p l))(o:Hs (n=l.length))(u:B<=w.1.size)(E:Hs (dB x.1=true->0<=x.2/\x.2<n))(ha:Hs (aB x.1=true->0<=x.a/\x.a<n))(A:Hs (bB x.1=true->0<=x.b/\x.b<n)):
 Calls prog 39 #[.agg #[Hp x.1,Hp x.2,Hp x.a,Hp x.b,Hp x.5],.slice p n m] w λt U=>t=.returned (.agg #[Hp (ZR l x).1,Hp (ZR l x).2,Hp (ZR l x).a,Hp (ZR l x).b,Hp (ZR l x).5])/\Below w.1.size w U:=by
 let⟨b,c,d,e,i⟩:=x;dsimp only at*
 go_in
 go_wp2_with fail
 have a:Hs (Pf w ((w.alloc<|.cells #[Hp b,Hp c,Hp d,Hp e,Hp i] 66).alloc (.cells #[Hp 0,Hp 0,Hp 0,Hp 0,Hp 0] 66)) b c d e i):=Xa ⟨Xb (Xb (Below.refl _ _) _) _,(Bx.new _ _ _).box _,by have:=Bx.new (w.alloc<|.cells #[Hp b,Hp c,Hp d,Hp e,Hp i] 66) #[Hp 0,Hp 0,Hp 0,Hp 0,Hp 0] 66;rw[aO]at this;exact this⟩;generalize (w.alloc _).alloc _=X at*;refine(U9).mono ?_;rintro t r⟨rfl,q⟩;subst q;rw[xj]
 go_upto_if 7 with fail
 go_cut []from 5 to 32 λs=>Hs<|Pf w s b (if dB b=true then Kp l c else c) d e i
 case first=>
  cases hB0:dB b with
  |true=>
   obtain⟨z,I,h,g,F,rfl,C,D⟩:=jq (v.keep<|a.1.mono u) (E hB0).1 (oP ((E hB0).2) o.o);have H:(h:Int)<(n:Int):=oN o.o;have G:(0:Int)<=(h:Int):=oM;have J:r.cell? (Hk w.1.size 1)=some (Hp h):=by rw[<-g];exact Bx.cell a.2.1 rfl
   have K:=Bx.thaw a.2.1;have f:=Xa hB0;clear hB0;have y:=Xa g;clear g;go_wp2;go_meet;rw[show(if dB b=true then Kp l c else c)=Kp l c from aU f.o];exact Xa ⟨a.1.setCell (p:=Hk w.1.size 1) aA _,a.2.1.set 1 _,a.2.2.other oM⟩
  |false=>
   have f:=Xa hB0;clear hB0;go_wp2;go_meet;rw[show(if dB b=true then Kp l c else c)=c from aM (by rw[f.o];simp)];exact a
 have a:=hcut;clear hcut;generalize wc=V at*;have L:Cl V w.1.size 0 (Hp b):=Bx.cell a.2.1 rfl;go_wp2_with fail
 refine(U9).mono ?_;rintro t r⟨rfl,q⟩;subst q;rw[xh]
 go_upto_if 16 with fail
 go_cut []from 5 to 32 λs=>Hs<|Pf w s b (if dB b=true then Kp l c else c) (if aB b=true then Kp l d else d) e i
 case first=>
  cases hB1:aB b with
  |true=>
   obtain⟨z,I,h,g,F,rfl,C,D⟩:=jq (v.keep<|a.1.mono u) (ha hB1).1 (oP ((ha hB1).2) o.o);have H:(h:Int)<(n:Int):=oN o.o;have G:(0:Int)<=(h:Int):=oM;have J:r.cell? (Hk w.1.size 2)=some (Hp h):=by rw[<-g];exact Bx.cell a.2.1 rfl
   have K:=Bx.thaw a.2.1;have f:=Xa hB1;clear hB1;have y:=Xa g;clear g;go_wp2;go_meet;rw[show(if aB b=true then Kp l d else d)=Kp l d from aU f.o];exact Xa ⟨a.1.setCell (p:=Hk w.1.size 2) aA _,a.2.1.set 2 _,a.2.2.other oM⟩
  |false=>
   have f:=Xa hB1;clear hB1;go_wp2;go_meet;rw[show(if aB b=true then Kp l d else d)=d from aM (by rw[f.o];simp)];exact a
 have a:=hcut;clear hcut;generalize wc=W at*;have L:Cl W w.1.size 0 (Hp b):=Bx.cell a.2.1 rfl;go_wp2_with fail
 refine(U9).mono ?_;rintro t r⟨rfl,q⟩;subst q;rw[xg]
 go_upto_if 25 with fail
 go_cut []from 5 to 32 λs=>Hs<|Pf w s b (if dB b=true then Kp l c else c) (if aB b=true then Kp l d else d) (if bB b=true then Kp l e else e) i
 case first=>
  cases hB2:bB b with
  |true=>
   obtain⟨z,I,h,g,F,rfl,C,D⟩:=jq (v.keep<|a.1.mono u) (A hB2).1 (oP ((A hB2).2) o.o);have H:(h:Int)<(n:Int):=oN o.o;have G:(0:Int)<=(h:Int):=oM;have J:r.cell? (Hk w.1.size 3)=some (Hp h):=by rw[<-g];exact Bx.cell a.2.1 rfl
   have K:=Bx.thaw a.2.1;have f:=Xa hB2;clear hB2;have y:=Xa g;clear g;go_wp2;go_meet;rw[show(if bB b=true then Kp l e else e)=Kp l e from aU f.o];exact Xa ⟨a.1.setCell (p:=Hk w.1.size 3) aA _,a.2.1.set 3 _,a.2.2.other oM⟩
  |false=>
   have f:=Xa hB2;clear hB2;go_wp2;go_meet;rw[show(if bB b=true then Kp l e else e)=e from aM (by rw[f.o];simp)];exact a
 have a:=hcut;clear hcut;generalize wc=j at*;have L:Cl j w.1.size 0 (Hp b):=Bx.cell a.2.1 rfl;have Y:Cl j w.1.size 1 (Hp<|if dB b=true then Kp l c else c):=Bx.cell a.2.1 rfl;have Z:Cl j w.1.size 2 (Hp<|if aB b=true then Kp l d else d):=Bx.cell a.2.1 rfl;have z3:Cl j w.1.size 3 (Hp<|if bB b=true then Kp l e else e):=Bx.cell a.2.1 rfl;have z4:Cl j w.1.size 4 (Hp i):=Bx.cell a.2.1 rfl;have P:Cl j (w.1.size+1) 0 (Hp 0):=Bx.cell a.2.2 rfl;have Q:Cl j (w.1.size+1) 1 (Hp 0):=Bx.cell a.2.2 rfl;have R:Cl j (w.1.size+1) 2 (Hp 0):=Bx.cell a.2.2 rfl;have S:Cl j (w.1.size+1) 3 (Hp 0):=Bx.cell a.2.2 rfl;have T:Cl j (w.1.size+1) 4 (Hp 0):=Bx.cell a.2.2 rfl;have rz:=Bx.thaw a.2.2;have M:Hs (ZR l ⟨b,c,d,e,i⟩=⟨b,(if dB b=true then Kp l c else c),(if aB b=true then Kp l d else d),(if bB b=true then Kp l e else e),i⟩):=Xa rfl;generalize (if dB b=true then Kp l c else c)=d1 at*;generalize (if aB b=true then Kp l d else d)=N at*;generalize (if bB b=true then Kp l e else e)=O at*;go_wp2;rw[M.o];refine cC (v:=.agg #[Hp b,Hp d1,Hp N,Hp O,Hp i]) (by simp[results,results39,go_sem,P,Q,R,S,T]) rfl ⟨rfl,?_⟩;exact((((a.1.setCell (p:=Hk (w.1.size+1) 0) sP _).setCell (p:=Hk (w.1.size+1) 1) sP _).setCell (p:=Hk (w.1.size+1) 2) sP _).setCell (p:=Hk (w.1.size+1) 3) sP _).setCell (p:=Hk (w.1.size+1) 4) sP _
theorem Mh{a:Wy}(ha:Hs (gj w m k p a))(h:Hs (n=a.length))(hn:n<=1048576)(X:k<=w.1.size):
 Calls prog 81 #[.slice p n c] w λj M=>∃v,j=.returned v/\v≠Hq/\Below w.1.size w M/\M.ownsRow w.1.size 66 5 v (dp a).length (ZP<|dp a):=by
 have i:=Xa<|I4 c ha h hn X;cases hg:bw a with
 |false=>
  have s:Hs (dp a=[]):=Xa (by unfold dp;rw[hg];rfl);rw[hg]at i;clear hg
  go_in
  go_wp2_with (go_at_call 133;refine i.mono ?_;rintro j y⟨rfl,e⟩)
  go_ret;refine⟨_,rfl,sP,Xg e<|Xb (Below.refl _ _) _,?_⟩;rw[s.o];exact Zk (m7 y) e.4
 |true=>
  let⟨W,E⟩:=rK hg;have s:Hs (dp a=ax (2*(bu a).length) (bu a)):=Xa (by unfold dp;rw[aU hg]);have U:=Xa E.start.1;have a0:n<=64:=oN h.o;rw[hg]at i;clear hg E W;let⟨j0,Z,aa,ab,ac⟩:=fX RA
  go_in
  go_wp2_with (go_at_call 133;refine i.mono ?_;rintro j y⟨rfl,e⟩;have N:=Xa e;have s1:=e.4;clear e)
  go_loopw [3,4] (λv u wr=>∃q:Nat,q<=n/\u=Hp q/\Hs (Below w.1.size w wr)/\Hs (wr.ownsRow w.1.size 144 2 v (bu<|a.take q).length (Ng<|bu (a.take q)))) λ_ u _=>n-(intOf u).toNat
  case atStart=>exact⟨0,aN,rfl,Xa<|N.alloc s1 _,Xa<|by rw[lK];exact Zk (sJ y) s1⟩
  obtain⟨q,hq,rfl,b,d⟩:=hrel;have a2:=b.4;by_cases az:q<n
  .have K:q<a.length:=oN h.o
   obtain⟨ao,a3,rfl,ap,B,C⟩:=ha q K;have e0:=(XU b oM).trans B;have e1:=(XU b oM).trans C;have g:Hs (bu (a.take<|q+1)=bu (a.take q)++(if a[q].1=a[q].2 then []else [a[q]])):=Xa (by
    unfold bu;rw[bN K,eU];congr 1;by_cases l:a[q].1=a[q].2;·rw[aU l,List.filter_cons_of_neg<|by simp[l]];rfl
    rw[aM l,List.filter_cons_of_pos<|by simpa using l];rfl)
   have z:Hs ((bu<|a.take q).length<=64):=Xa (aJ (fJ _ _) (by simp;omega));clear B C;generalize hm:a[q]=al at*;let⟨x,t⟩:=al;dsimp only at*;clear hm;generalize bu (a.take q)=f at*;by_cases o:x=t
   .rw[aU o,fF]at g;subst o;go_wp2;go_region;go_wp2;exact⟨⟨q+1,oM,gM,Xa b.drew,Xa<|by rw[g.o];exact d⟩,by simp[intOf];omega⟩
   rw[aM o]at g;have aq:(x==t)=false:=by simpa using o
   go_wp2;go_region;go_wp2_with (at_builtin;refine bT _ rfl _ _ 142 rfl w.1.size 144 j0 (.agg #[Hp 0,Hp 0]) 2 16 underlying142 Z aa ab ac rfl vY _ _ _ rfl (World.ownsRow.alloc (w:=wr.drew) d _) (Hk wr.1.size 0) 1 1 [Hp x,Hp t] rfl rfl ?c1 ?c2 ?c3 ?c4 ?c5 ?_)
   case c1=>exact ng wr.drew
   case c2=>intro u L;simp at L;obtain rfl|rfl:=L<;>rfl
   case c3=>have:=z.o;unfold maxLen;omega
   case c4=>have:=z.o;omega
   case c5=>simp;omega
   intro v1 w2 J F ad Y;have S:Hs (w2.ownsRow w.1.size 144 2 v1 (bu<|a.take (q+1)).length (Ng<|bu (a.take<|q+1))):=Xa (by
    rw[g.o,nf,aQ];exact J)
   have O:=Xa (Xy ((b.drew).alloc (by show w.1.size<=wr.1.size;omega) _) F (World.ownsRow.alloc (w:=wr.drew) d _) aA (by simp;omega));clear J F ad Y d b g;go_wp2;exact⟨⟨q+1,oM,gM,O,S⟩,by simp[intOf];omega⟩
  have a1:q=n:=oM;have A:=Xa (by have:=d.o;rwa[aW<|oN h.o]at this);have aj:(bu a).length<=64:=aJ (fJ _ _) (oN h.o);clear d;generalize bu a=f at*;obtain⟨V,k4,af,-,ar,G⟩:=m9 A;have Q:=Xa G;subst af;clear G A;go_wp2_with fail
  have r:=Lt (2*f.length) V f.length k4 f _ _ wr Q (Xa rfl) U aj oM aA;rw[show((2*f.length:Nat):Int)=2*(f.length:Int) by omega]at r;refine r.mono ?_;rintro j w7⟨v7,rfl,H,D,I⟩;have T:=Xa I;have P:=Xa<|Xg b D;have R:=Xa H;clear I D H r;go_wp2;go_ret;refine⟨_,rfl,R,P,?_⟩;rw[s.o];exact Zk T oM
theorem ym(e:Jy n x)(a:k<x.length)(g:(m:Int)∈AQ x 0 (k:Int)):∀q∈E9 (de (AQ x 0 (k:Int)) (m:Int)) (iT x (k:Int)),(0<=q.1/\q.1<n)/\(0<=q.2/\q.2<n):=by
 intro q hq;rw[pD a]at hq;unfold E9 at hq;obtain⟨h,c,rfl⟩:=aY.1 hq;have b:=e.9 k a h c;have f:=pC g;refine⟨e.8 _ (aH a) h c,?_⟩;have d:de (AQ x 0 (k:Int)) (m:Int)<h.2.length:=by rw[b.1];exact f
 rw[bF,aC d];exact b.2 _<|aH d
theorem sj(c:Nat)(cc:Nat){b t:Nat}(ha:Hs (Xp w k B p x))(hx:Hs (m=x.length))(hB:B<=w.1.size)(ho:Hs (Jy n x))(ck:Hs (∀ct∈x,ct.1.length<=1048576))(J:Hs (Xf w i j P l))(L:Hs (g=l.length))(a5:Hs (g=n))(a2:j<=w.1.size)(cn:t<m)(hp:Hs ((b:Int)∈AQ x 0 (t:Int))):
 Calls prog 40 #[.agg #[Hp n,.slice p m c],.slice P g cc,Hp b,Hp t] w λe h=>∃y,e=.returned y/\y≠Hq/\Below w.1.size w h/\h.ownsRow w.1.size 66 5 y (NL l x b (t:Int)).length (ZP<|NL l x b (t:Int)):=by
 obtain⟨i0,ch,cp,cr,cs⟩:=fX RA;have D:t<x.length:=oN hx.o;have a0:=Xa<|ym ho D hp;have S:=Xa<|Kh D hp;have V:Hs (NU l x b (t:Int)=(E9 (de (AQ x 0 (t:Int)) (b:Int)) (iT x (t:Int))).map λr=>⟨Kp l r.1,Kp l r.2⟩):=Xa rfl;have F:Hs (E9 (de (AQ x 0 (t:Int)) (b:Int)) (iT x (t:Int))=E9 (de (AQ x 0 (t:Int)) (b:Int)) x[t].1):=Xa (by rw[pD D]);have bp:Hs (NL l x b (t:Int)=dp (NU l x b (t:Int))):=Xa rfl;have az:=Xa<|ck.o _ (aH D)
 go_in
 go_wp2_with fail
 have HA:=Xa<|ha.keep (Below.alloc (Below.refl B w) hB (.cells #[Hp n,.slice p m c] 37));refine(tY c (b:Int) HA hx (by simp;omega) ho cn).mono ?_;rintro e d⟨ad,c',rfl,I,H⟩;rw[aO]at I H;have af:=Xa (Xg (Xb (Below.refl _ _) _) (by rw[aO];exact I));have al:Hs (Bx d w.1.size #[Hp n,.slice p m c] 37):=Xa<|(Bx.new w _ _).keep (I.5 _ oM);obtain⟨T,hT⟩:∃T,T=E9 (de (AQ x 0 (t:Int)) (b:Int)) (iT x (t:Int)):=⟨_,rfl⟩;rw[<-hT]at a0 S V F;rw[S.o]at H |-;rw[bK]at |-;obtain⟨f,N⟩:∃f,f=T.length:=⟨_,rfl⟩;have ci:f<=1048576:=by rw[N,F.o];have:=az.o;simpa [E9]using this
 rw[<-N];have HM:=Xa N;have bn:=Xa H;have bh:=al.lt;clear H hT N I HA S az;go_wp2
 go_loopw [10,11] (λy ac wr=>∃a:Nat,a<=f/\ac=Hp a/\Hs (Below d.1.size d wr)/\Hs (wr.ownsRow d.1.size 144 2 y ((NU l x b (t:Int)).take a).length (Ng<|(NU l x b (t:Int)).take a))/\Hs (y≠Hq)) λ_ ac _=>f-(intOf ac).toNat
 case atStart=>exact⟨0,aN,rfl,Xa<|Xb (Below.refl _ _) _,Xa (by
  have:=eI (base:=d.1.size) (e:=144) (size:=2) d #[] 0 aA sP rfl;exact this),Xa sP⟩
 obtain⟨a,hj,rfl,o,A,HV⟩:=hrel;have z:Hs ((NU l x b (t:Int)).length=f):=Xa (by rw[V.o,bK];exact HM.symm);by_cases df:a<f
 .have M:a<T.length:=oN HM.o;have aa:=a0 _<|aH M;have R:=Xa<|Xg af o;obtain⟨G,q,rfl,⟨_,cx⟩,ce⟩:=ha.keep (R.mono hB) t D;obtain⟨pa,pc,ia,ic,e0,_,_,bf,_⟩:=ce;have ba:a<x[t].1.length:=by have:=F.o;rw[this]at M;simpa [E9]using M
  obtain⟨pb,po,rfl,⟨_,dj⟩,cf⟩:=bf a ba;obtain⟨pq,pr,X,cl,cm⟩:=cf;clear cl cm;have a8:x[t].1[a].1=T[a].1:=by simp[F.o,E9]
  rw[a8]at X;obtain⟨ab,ao,Y,⟨_,b4⟩,K⟩:=bn a (by simpa using M);injection Y with Y;subst Y;rw[cM]at K;have U:Hs ((NU l x b (t:Int)).take (a+1)=(NU l x b (t:Int)).take a++[⟨Kp l T[a].1,Kp l T[a].2⟩]):=Xa (by
   rw[bN<|oN z.o];congr 1;simp[V.o])
  have v:Hs (((NU l x b (t:Int)).take a).length=a):=Xa (by rw[dH,z.o];omega);obtain⟨W,co,O,bi,da,rfl,cz,a6⟩:=jq (J.keep<|R.mono a2) aa.1.1 (oP L.o a5.o);obtain⟨cv,cw,Q,bl,dc,Z,c6,a7⟩:=jq (J.keep<|R.mono a2) aa.2.1 (oP L.o a5.o);injection Z with Z;injection Z with b8 cd;subst b8 cd;rw[bi]at X a6 U;rw[bl]at K a7 U;have db:(O:Int)<(g:Int):=oN L.o;have dd:(Q:Int)<(g:Int):=oN L.o
  have dk:(a:Int)<((x[t].1.length:Nat):Int):=oM;have c9:(a:Int)<(f:Int):=oM;have dl:(t:Int)<(m:Int):=oM;have ca:=(XU o oM).trans K;have f1:Cl wr w.1.size 1 (Hm G q m c):=(o.cell (p:=Hk w.1.size 1) bh).trans (Bx.cell al rfl);have b7:=o.4;have dn:w.1.size<wr.1.size:=oM;have b6:G<d.1.size:=oM;have cj:pb<d.1.size:=oM;have a4:W<d.1.size:=oM;obtain⟨u,C,E⟩:∃u C,u10=.slice u ((NU l x b (t:Int)).take a).length C:=by
   obtain⟨e,a1,_⟩|⟨u,C,e,_⟩:=Vc A;·exact absurd e HV
   exact⟨_,_,e⟩
  rw[v.o]at E;subst E;clear a8 ba bf K;generalize x[t].1.length=pl at*;generalize Kp l (O:Int)=z1 at*;generalize Kp l (Q:Int)=z2 at*;clear bi bl aa;go_wp2;refine Y7 (λh=>h.cell? (Hk w.1.size 1)=some (Hm G q m c)/\h.cell? (Hk G<|q+t*6)=some (Hm pb po pl pc)/\h.cell? (Hk pb<|po+a*2)=some (Hp O)/\h.cell? (Hk W<|co+O)=some (Hp z1)/\h.cell? (Hk ab<|ao+a)=some (Hp Q)/\h.cell? (Hk W<|co+Q)=some (Hp z2)) λhHeld=>?_;refine Xn 0 ?_;refine Xn 1 ?_;refine Xn 2 ?_;refine Xn 3 ?_;refine Xn 4 ?_;refine Xn 5 ?_;refine Xn 6 ?_;refine Xn 7 ?_;refine Xn 8 ?_;refine Xn 9 ?_;refine Xn 10 ?_;refine Xn 11 ?_;refine Xn 12 ?_;refine Xn 13 ?_;refine Xn 14 ?_;refine Xn 15 ?_;refine Xn 16 ?_;refine Xn 17 ?_;refine Xn 18 ?_;refine Xn 19 ?_;refine Xn 20 ?_;refine Xn 21 ?_;refine Xs 22 λb0 hK=>?_;go_simp;refine hK _ _ kP λhHeld=>?_;clear hK;refine Xs 23 λb0 hK=>?_;refine d6 rfl _ _ 142 rfl d.1.size 144 i0 (.agg #[Hp 0,Hp 0]) 2 16 underlying142 ch cp cr cs rfl vY (.slice u a C) a (Ng<|(NU l x b (t:Int)).take a) rfl ?s1 (Hk wr.1.size 0) 1 1 [Hp z1,Hp z2] rfl rfl ?s2 ?s3 ?s4 ?s5 ?s6 ?_
  case s1=>rw[<-v.o];exact(World.ownsRow.alloc (w:=wr.drew) (by rw[v.o];have:=A.o;rw[v.o]at this;exact this) _)
  case s2=>exact ng _
  case s3=>intro ds hu;simp at hu;obtain rfl|rfl:=hu<;>rfl
  case s4=>unfold maxLen;omega
  case s5=>omega
  case s6=>simp;omega
  intro v8 w8 be a9 bc b5;have ar:Hs ((wr.drew.alloc<|.cells #[Hp z1,Hp z2] 144).ownsRow d.1.size 144 2 (.slice u a C) a (Ng<|(NU l x b (t:Int)).take a)):=Xa (World.ownsRow.alloc (w:=wr.drew) (by have:=A.o;rw[v.o]at this;exact this) _);have aj:=Xa (Xy (Below.alloc o.drew (show d.1.size<=wr.1.size from b7) _) a9 ar aA (by simp;omega));have bt:Hs (w8.ownsRow d.1.size 144 2 v8 ((NU l x b (t:Int)).take (a+1)).length (Ng<|(NU l x b (t:Int)).take (a+1))):=Xa (by
   rw[U.o,nf,aQ,v.o];exact be)
  have bx:Hs (v8≠Hq):=Xa (λe=>by have:=(bc.1 e).2;omega);have s:∀r q,r<d.1.size->w8.cell? (Hk r q)=wr.cell? (Hk r q):=λr q hq=>oB aj (o.cell (p:=Hk r q) hq).symm hq;refine hK _ _ ⟨(s _ _ bh).trans f1,(s _ _ b6).trans e0,(s _ _ cj).trans X,(s _ _ a4).trans a6,(s _ _ b4).trans ca,(s _ _ a4).trans a7⟩ λhHeld=>?_;clear hK be a9 bc b5 s ar
  try simp only[xX]
  refine Xn 24 ?_;refine Yq ?_;clear hHeld;go_wp2;exact⟨⟨a+1,oM,gM,aj,bt,bx⟩,by simp[intOf];omega⟩
 have HE:Hs ((NU l x b (t:Int)).take a=NU l x b (t:Int)):=Xa (aW<|by rw[z.o];omega);have ap:=A;rw[HE.o]at ap;obtain⟨aq,cq,E,_,_,bb⟩:=m9 ap;rw[z.o]at E;have di:a=f:=oM;have bq:=Xa bb;subst E;have c7:¬(a:Int)<(f:Int):=oM;clear bb A;go_wp2_with fail
 refine(Mh bq (Xa z.symm) ci aA).mono ?_;rintro e w5⟨v5,rfl,bm,a3,bd⟩;have bo:=Xa<|Xg (Xg af o) a3;have br:Hs (w5.ownsRow w.1.size 66 5 v5 (NL l x b (t:Int)).length (ZP<|NL l x b (t:Int))):=Xa (by
  rw[bp.o];obtain⟨hl,a1|⟨u,b1,b3,e,hg,hh,J⟩⟩:=bd;·exact⟨hl,bC a1⟩
  have:=o.4
  exact⟨hl,aZ ⟨u,b1,b3,e,oM,hh,J⟩⟩)
 have bv:=Xa bm;clear a3 bd bm;go_wp2;go_ret;exact⟨_,rfl,bv,bo,br⟩
section
structure XW(w w':Ub)(lab lab':Nat->Nat×Nat×Nat)(base:Nat)(ok:Vv):Prop where
 size:w.1.size<=w'.1.size
 same:∀b,base<=b->b<w.1.size->ok b->w'.1[b]?=w.1[b]?/\lab' b=lab b
 fresh:(∀b,w.1.size<=b->lab b=(0,0,0))->∀b,w'.1.size<=b->lab' b=(0,0,0)
variable {w w': Ub} {lab lab': Nat -> Nat×Nat×Nat} {base: Nat} {ok: Nat -> Prop}
theorem Xv.sp{L:Nat×Nat×Nat}{t c:Nat}{v:Uj}{n:Nat}{a:Wo}(h:Xv w lab L base t c v n a)(k:XW w w' lab lab' base ok)(g:∀b,lab b=L->ok b):Xv w' lab' L base t c v n a :=
 h.keep λb d f e=>by have:=k.2 b d f<|g b e;exact⟨this.1,this.2.trans e⟩
theorem Bx.sp{b t:Nat}{a:Zh}(h:Bx w b a t)(k:XW w w' lab lab' base ok)(c:base<=b)(d:ok b):Bx w' b a t:=h.keep (k.2 b c h.lt d).1
theorem XW.put(g q:Nat)(u:Uj):XW w (w.setCell ⟨g,q,none⟩ u) lab lab base (λb=>b≠g) :=
 ⟨by simp[World.setCell],λb _ _ a=>⟨Below.heap_setCell _ _ _ _ a,rfl⟩,λh b a=>h b<|by simpa [World.setCell]using a⟩
theorem Xv.grow{L:Nat×Nat×Nat}{t g:Nat}{v a:Uj}{p k:Nat}{l h:Wo}(i:Xv w lab L base t g v p l)(d:w.grownBy w' v.ownBlock)(j:w'.ownsRow base t g a k h)(n:a.ownBlock=v.ownBlock\/a.ownBlock=some w.1.size)(o:∀b,w.1.size<=b->lab b=(0,0,0)):
 ∃lab',Xv w' lab' L base t g a k h/\XW w w' lab lab' base (λb=>lab b≠L):=by
 refine⟨λb=>if a.ownBlock=some b then L else lab b,⟨j,λb e=>aU e⟩,d.4,λb q m c=>⟨d.5 b m λe=>c<|i.2 b e.symm,aM λe=>?_⟩,λ_ b c=>(aM λe=>?_).trans (o b<|aJ d.4 c)⟩
 .rcases n with f|f;·exact c<|i.2 b (f.symm.trans e)
  rw[e]at f;injection f with f;omega
 have:=(j.lt b e).2;have:=d.4;omega
end
section
def Nf(i:Uj)(t:Yj):Wo:=[i,.int .i64 t.1,.int .i64 t.a,.int .i64 t.3,.int .i64 t.4]
def NH(iv:Vu)(xs:List ag):Wo:=Yu (λi x=>Nf (iv i) x.2) 0 xs
theorem Hx{iv:Vu}{xs:List ag}(x:ag):NH iv (xs++[x])=NH iv xs++Nf (iv xs.length) x.2:=by
 unfold NH;rw[Zo,aV]
theorem rQ{iv jv:Vu}{xs:List ag}(h:∀i,i<xs.length->iv i=jv i):NH iv xs=NH jv xs:=by
 unfold NH;have e:∀(a:List ag)(k:Nat),(∀i,i<a.length->iv (k+i)=jv (k+i))->Yu (λi x=>Nf (iv i) x.2) k a=Yu (λi x=>Nf (jv i) x.2) k a:=by
  intro a
  induction a with
  |nil=>intro k _;rfl
  |cons y r d=>
   intro k c;show Nf (iv k) y.2++Yu _ (k+1) r=Nf (jv k) y.2++Yu _ (k+1) r;rw[show iv k=jv k from c 0 sP,d (k+1) λi b=>by have:=c (i+1) (by simpa using b);rwa[show k+(i+1)=k+1+i by omega]at this]
 exact e xs 0 λi b=>by rw[aV];exact h i b
theorem pE(iv:Vu)(xs:List ag):(NH iv xs).length=xs.length*5:=Zn (sz:=5) (λ_ _=>rfl) _ _
variable {w w': Ub} {lab lab': Nat -> Nat×Nat×Nat} {base: Nat} {ok: Nat -> Prop}
theorem Xv.fresh{L:Nat×Nat×Nat}{t g n:Nat}{v:Uj}{d:Wo}(a:Below w.1.size w w')(c:w'.ownsRow w.1.size t g v n d)(s:base<=w.1.size)(p:∀b,w.1.size<=b->lab b=(0,0,0)):
 ∃lab',Xv w' lab' L base t g v n d/\XW w w' lab lab' base (λ_=>True):=by
 refine⟨λb=>if v.ownBlock=some b then L else lab b,⟨?_,λb e=>aU e⟩,a.4,λb r l _=>⟨a.5 b l,aM λe=>?_⟩,λ_ b m=>(aM λe=>?_).trans (p b<|aJ a.4 m)⟩
 .obtain⟨f,k|⟨j,h,i,e,u,q,o⟩⟩:=c;·exact⟨f,bC k⟩
  exact⟨f,aZ ⟨j,h,i,e,oM,q,o⟩⟩
 .have:=(c.lt b e).1;omega
 have:=(c.lt b e).2;omega
structure Nh(w:Ub)(lab:Nat->Nat×Nat×Nat)(base:Nat)(v:Uj)(K J:Nat)(xs:List ag)(iv:Vu):Prop where
 blks:Xv w lab (K,0,0) base 84 5 v xs.length (NH iv xs)
 ins:∀i (h:i<xs.length),Xv w lab (J,i,0) base 66 5 (iv i) xs[i].1.length (ZP xs[i].1)
variable {v v': Uj} {K J: Nat} {xs: List ag} {iv: Nat -> Uj}
theorem Nh.nil:Nh w lab base Hq K J [] iv:=⟨⟨dA,λb e=>by cases e⟩,λi h=>absurd h<|Nat.not_lt_zero _⟩
theorem Nh.sp(h:Nh w lab base v K J xs iv)(k:XW w w' lab lab' base ok)(d:∀b,lab b=(K,0,0)->ok b)(c:∀b i,i<xs.length->lab b=(J,i,0)->ok b):Nh w' lab' base v K J xs iv :=
 ⟨h.1.sp k d,λi a=>(h.2 i a).sp k λb e=>c b i a e⟩
theorem Nh.push(h:Nh w lab base v K J xs iv)(g:K≠J)(x:ag){q:Uj}(hq:Xv w lab (J,xs.length,0) base 66 5 q x.1.length (ZP x.1))(l:w.grownBy w' v.ownBlock)(m:w'.ownsRow base 84 5 v' (xs.length+1) (NH iv xs++Nf q x.2))(j:v'.ownBlock=v.ownBlock\/v'.ownBlock=some w.1.size)(k:∀b,w.1.size<=b->lab b=(0,0,0)):
 ∃lab',Nh w' lab' base v' K J (xs++[x]) (λi=>if i=xs.length then q else iv i)/\XW w w' lab lab' base (λb=>lab b≠(K,0,0)):=by
 let⟨lab',n,a⟩:=h.1.grow l m j k;have f:∀i b,lab b=(J,i,0)->lab b≠(K,0,0):=λi b e q=>g (by rw[e]at q;injection q with q;exact q.symm);refine⟨lab',⟨?_,λi c=>?_⟩,a⟩
 .have e:NH (λi=>if i=xs.length then q else iv i) (xs++[x])=NH iv xs++Nf q x.2:=by
   rw[Hx,aU rfl,rQ (jv:=iv) λi c=>aM oM]
  rw[e,aQ,List.length_singleton];exact n
 by_cases e:i=xs.length
 .subst e;rw[aU rfl];have e2:(xs++[x])[xs.length]=x:=sP;rw[e2];exact hq.sp a λb e=>f _ b e
 rw[aM e];have d:i<xs.length:=by rw[aQ,List.length_singleton]at c;omega
 rw[fA d];exact(h.2 i d).sp a λb e=>f _ b e
theorem lq{g n c i:Nat}(h:Xv w lab (K,0,0) base 84 5 (Hl g n c) n (NH iv xs))(a:i<xs.length){q:Nat}{u:Uj}(hq:q<5)(b:(Nf (iv i) xs[i].2)[q]?=some u):w.cell? (Hk g<|i*5+q)=some u:=h.cell (by
 unfold NH;rw[Xz (sz:=5) (λ_ _=>rfl) 0 xs i a q hq,aV];exact b)
theorem rH:∀(a:Vr)(k:Nat),ZP a=Yu (λ_ x=>[.int .i64 x.1,.int .i64 x.2,.int .i64 x.a,.int .i64 x.b,.int .i64 x.5]) k a
 |[],_=>rfl
 |y::r,k=>by rw[rM,rH r<|k+1];rfl
theorem Xv.inss{L:Nat×Nat×Nat}{d:Uy}{n c:Nat}{a:Vr}(h:Xv w lab L base 66 5 (.slice d n c) a.length (ZP a)):YY w base w.1.size d a:=λi f=>by
 let⟨g,k,e⟩:=h.got oM;cases e;have b:∀q u,q<5->([Hp a[i].1,Hp a[i].2,Hp a[i].a,Hp a[i].b,Hp a[i].5]:Wo)[q]?=some u->w.cell? (Hk g<|i*5+q)=some u:=λq u hq j=>h.cell (by
  rw[rH a 0,Xz (sz:=5) (λ_ _=>rfl) 0 a i f q hq];exact j)
 refine⟨g,0,rfl,h.blk.1,?_⟩;rw[aV];exact⟨b 0 _ oM rfl,b 1 _ oM rfl,b 2 _ oM rfl,b 3 _ oM rfl,b 4 _ oM rfl⟩
theorem Nh.at_{d:Uy}{o c:Nat}(h:Nh w lab base (.slice d o c) K J xs iv):d7 w base w.1.size d xs:=λi b=>by
 let⟨k,p,j⟩:=h.1.got oM;cases j;have f:=h.1;let⟨m,n,e⟩:=(h.2 i b).form;have g:=h.2 i b;rw[e]at g;have a:=λq u hq l=>lq (q:=q) (u:=u) f b hq l;refine⟨k,0,rfl,f.blk.1,m,n,?_,⟨?_,?_,?_,?_⟩,g.inss⟩;·rw[aV];exact a 0 _ oM<|by rw[<-e];rfl
 .rw[aV];exact a 1 _ oM rfl
 .rw[aV];exact a 2 _ oM rfl
 .rw[aV];exact a 3 _ oM rfl
 rw[aV];exact a 4 _ oM rfl
end
section
theorem j8{w:Ub}{b d t e:Nat}{f g:Zh}(h:Bx w b f t)(k:Bx w d g e)(j:t≠e):b≠d:=λi=>by
 subst i;unfold Bx at h k;rw[h]at k;injection k with k;injection k with _ k;exact j k
theorem XW.below{w w':Ub}{lab:Nat->Nat×Nat×Nat}{d:Nat}(h:Below w.1.size w w'):XW w w' lab lab d (λ_=>True) :=
 ⟨h.4,λb _ e _=>⟨h.5 b e,rfl⟩,λg b f=>g b<|aJ h.4 f⟩
structure Om(w wr:Ub)(lab:Nat->Nat×Nat×Nat)(V:Int)(a:Uy)(n c:Nat)(k:Int)(mb:Nat)(mv sv:Uj)(M S:List ag)(iv jv:Vu):Prop where
 low:Below w.1.size w wr
 fb:Bx wr w.1.size #[.int .i64 V,.slice a n c] 37
 rb:Bx wr (w.1.size+1) #[.int .i64 0,.slice none 0 0] 25
 mbx:Bx wr mb #[.int .i64 k,mv] 25
 mw:w.1.size+1<mb
 m:Nh wr lab w.1.size mv 1 3 M iv
 s:Nh wr lab w.1.size sv 2 4 S jv
 fr:∀q,wr.1.size<=q->lab q=(0,0,0)
 l0:lab w.1.size=(0,0,0)/\lab (w.1.size+1)=(0,0,0)/\lab mb=(0,0,0)
variable {w wr w': Ub} {lab lab': Nat -> Nat×Nat×Nat} {V: Int} {a: Uy} {n c: Nat} {k: Int} {mb: Nat} {mv sv: Uj} {M S: List ag} {iv jv: Nat -> Uj} {ok: Nat -> Prop}
theorem Om.sp(h:Om w wr lab V a n c k mb mv sv M S iv jv)(m:Below w.1.size wr w')(d:XW wr w' lab lab' w.1.size ok)(e:∀b,b=w.1.size\/b=w.1.size+1\/b=mb->ok b)(g:∀b,lab b=(1,0,0)\/lab b=(2,0,0)->ok b)(j:∀b i,i<M.length->lab b=(3,i,0)->ok b)(l:∀b i,lab b=(4,i,0)->ok b):Om w w' lab' V a n c k mb mv sv M S iv jv:=by
 have o:=h.5;exact⟨h.1.trans m,h.2.sp d aA (e _<|bC rfl),h.3.sp d oM<|e _ (aZ<|bC rfl),h.4.sp d oM<|e _ (aZ<|aZ rfl),h.5,h.m.sp d (λb f=>g b<|bC f) j,h.s.sp d (λb f=>g b<|aZ f) λb i _ f=>l b i f,d.3 h.8,
  (d.2 _ aA h.2.lt (e _<|bC rfl)).2.trans h.9.1,(d.2 _ oM h.3.lt<|e _ (aZ<|bC rfl)).2.trans h.9.2.1,(d.2 _ oM h.4.lt<|e _ (aZ<|aZ rfl)).2.trans h.9.2.2⟩
theorem Om.calm(h:Om w wr lab V a n c k mb mv sv M S iv jv)(b:Below wr.1.size wr w'):Om w w' lab V a n c k mb mv sv M S iv jv :=
 h.sp (b.mono h.1.4) (XW.below b) (λ_ _=>trivial) (λ_ _=>trivial) (λ_ _ _ _=>trivial) λ_ _ _=>trivial
structure Ny(w wr:Ub)(lab:Nat->Nat×Nat×Nat)(V:Int)(a:Uy)(n c:Nat)(k:Int)(mb:Nat)(mv sv:Uj)(M S:List ag)(iv jv:Vu)(xb:Nat)(xv:Uj)(is:Vr)(t:Yj):Prop where
 s:Om w wr lab V a n c k mb mv sv M S iv jv
 bx:Bx wr xb #[xv,.int .i64 t.1,.int .i64 t.a,.int .i64 t.3,.int .i64 t.4] 84
 xw:w.1.size<=xb
 lx:lab xb=(0,0,0)
 row:Xv wr lab (3,M.length,0) w.1.size 66 5 xv is.length (ZP is)
variable {xb: Nat} {xv v8: Uj} {is: Vr} {t: Yj} {w8: Ub}
theorem Ny.calm(h:Ny w wr lab V a n c k mb mv sv M S iv jv xb xv is t)(b:Below wr.1.size wr w'):Ny w w' lab V a n c k mb mv sv M S iv jv xb xv is t :=
 ⟨h.s.calm b,h.2.keep<|b.5 _ h.2.lt,h.3,h.4,h.5.sp (XW.below b) λ_ _=>trivial⟩
theorem Ny.spT(h:Ny w wr lab V a n c k mb mv sv M S iv jv xb xv is t)(d:Below wr.1.size wr w')(b:XW wr w' lab lab' w.1.size λ_=>True):Ny w w' lab' V a n c k mb mv sv M S iv jv xb xv is t :=
 ⟨h.s.sp (d.mono h.s.1.4) b (λ_ _=>trivial) (λ_ _=>trivial) (λ_ _ _ _=>trivial) λ_ _ _=>trivial,h.2.keep<|d.5 _ h.2.lt,h.3,(b.2 _ h.3 h.2.lt trivial).2.trans h.4,h.5.sp b λ_ _=>trivial⟩
theorem Ny.turn(h:Ny w wr lab V a n c k mb mv sv M S iv jv xb xv is t)(q:Nat)(u:Uj){i:Uj}{d:Yj}(m:#[xv,.int .i64 t.1,.int .i64 t.a,.int .i64 t.3,.int .i64 t.4].setIfInBounds q u=#[i,.int .i64 d.1,.int .i64 d.a,.int .i64 d.3,.int .i64 d.4]){f:Vr}(o:Xv (wr.setCell ⟨xb,q,none⟩ u) lab (3,M.length,0) w.1.size 66 5 i f.length (ZP f)):
 Ny w (wr.setCell ⟨xb,q,none⟩ u) lab V a n c k mb mv sv M S iv jv xb i f d:=by
 have j:=h.2.set q u;rw[m]at j;have r:=j8 h.2 h.s.2 vY;have s:=j8 h.2 h.s.3 vY;have v:=j8 h.2 h.s.4 vY;have g:∀b L,lab b=L->L≠(0,0,0)->b≠xb:=λb L e l q=>l (by rw[<-e,q];exact h.4);exact⟨h.s.sp ((Below.refl _ _).setCell h.3 _) (XW.put xb q u) (λb e=>by obtain rfl|rfl|rfl:=e<;>exact λq=>by first|exact r q.symm|exact s q.symm|exact v q.symm) (λb e=>by rcases e with e|e<;>exact g b _ e sP) (λb p _ e=>g b _ e sP) λb p e=>g b _ e sP,j,h.3,h.4,o⟩
theorem Ny.te(h:Ny w wr lab V a n c k mb mv sv M S iv jv xb xv is t)(q:Nat)(z:Int){t':Yj}(b:#[xv,.int .i64 t.1,.int .i64 t.a,.int .i64 t.3,.int .i64 t.4].setIfInBounds q (.int .i64 z)=#[xv,.int .i64 t'.1,.int .i64 t'.a,.int .i64 t'.3,.int .i64 t'.4]):
 Ny w (wr.setCell ⟨xb,q,none⟩ (.int .i64 z)) lab V a n c k mb mv sv M S iv jv xb xv is t' :=
 h.turn q (Hp z) b (h.5.sp (XW.put xb q _) λd e q=>by rw[q,h.4]at e;simp at e)
theorem Ny.push(h:Ny w wr lab V a n c k mb mv sv M S iv jv xb xv is t)(d:Vr)(f:wr.grownBy w8 xv.ownBlock)(x:w8.ownsRow w.1.size 66 5 v8 (is.length+d.length) (ZP is++ZP d))(s:v8.ownBlock=xv.ownBlock\/v8.ownBlock=some wr.1.size):
 ∃lab',Ny w (w8.setCell ⟨xb,0,none⟩ v8) lab' V a n c k mb mv sv M S iv jv xb v8 (is++d) t/\Bx w8 xb #[xv,.int .i64 t.1,.int .i64 t.a,.int .i64 t.3,.int .i64 t.4] 84/\Om w w8 lab' V a n c k mb mv sv M S iv jv:=by
 let⟨lab',y,m⟩:=h.5.grow f x s h.s.8;have i:∀b,lab b=(0,0,0)->lab b≠(3,M.length,0):=λb e q=>by rw[e]at q;simp at q
 have v:Below w.1.size wr w8:=⟨f.1,f.2,f.3,f.4,λq hq=>f.5 q (aX hq h.s.1.4) λe=>by have:=(h.5.1.lt q e.symm).1;omega⟩;have g:=h.s.sp v m (λb e=>by obtain rfl|rfl|rfl:=e;exact i _ h.s.9.1;exact i _ h.s.9.2.1;exact i _ h.s.9.2.2) (λb e q=>by obtain e|e:=e<;>(rw[e]at q;simp at q)) (λb o D e q=>by rw[e]at q;simp at q;omega) (λb o e q=>by rw[e]at q;simp at q);have j:=h.2.sp m h.3<|i _ h.4;have p:=(m.2 _ h.3 h.2.lt<|i _ h.4).2.trans h.4;have e1:(is++d).length=is.length+d.length:=aQ;have z:Xv w8 lab' (3,M.length,0) w.1.size 66 5 v8 (is++d).length (ZP<|is++d):=by rw[e1,j7];exact y
 refine⟨lab',?_,j,g⟩;have u:=j.set 0 v8;have A:=j8 j g.2 vY;have B:=j8 j g.3 vY;have C:=j8 j g.4 vY;have l:∀b L,lab' b=L->L≠(0,0,0)->b≠xb:=λb L e r q=>r (by rw[<-e,q];exact p);exact⟨g.sp ((Below.refl _ _).setCell h.3 _) (XW.put xb 0 v8) (λb e=>by obtain rfl|rfl|rfl:=e<;>exact λq=>by first|exact A q.symm|exact B q.symm|exact C q.symm) (λb e=>by rcases e with e|e<;>exact l b _ e sP) (λb o _ e=>l b _ e sP) λb o e=>l b _ e sP,u,h.3,p,z.sp (XW.put xb 0 v8) λb e=>l b _ e sP⟩
theorem Ny.side(h:Ny w wr lab V a n c k mb mv sv M S iv jv xb xv is t)(x:ag){q:Uj}{o:Obj}(hq:Xv wr lab (4,S.length,0) w.1.size 66 5 q x.1.length (ZP x.1))(i:(wr.alloc o).grownBy w8 sv.ownBlock)(r:w8.ownsRow w.1.size 84 5 v8 (S.length+1) (NH jv S++Nf q x.2))(m:v8.ownBlock=sv.ownBlock\/v8.ownBlock=some (wr.alloc o).1.size):
 ∃lab',Ny w w8 lab' V a n c k mb mv v8 M (S++[x]) iv (λj=>if j=S.length then q else jv j) xb xv is t:=by
 have b:=h.calm<|Xb (Below.refl wr.1.size wr) o;have s:=hq.sp (XW.below<|Xb (Below.refl wr.1.size wr) o) λ_ _=>trivial;let⟨lab',l,d⟩:=b.s.s.push vY x s i r m b.s.8;have f:∀g,lab g=(0,0,0)->lab g≠(2,0,0):=λg e q=>by rw[e]at q;simp at q
 have p:Below w.1.size (wr.alloc o) w8:=⟨i.1,i.2,i.3,i.4,λq hq=>i.5 q (aX hq b.s.1.4) λe=>by have:=(b.s.s.1.1.lt q e.symm).1;omega⟩;have u:=h.s.5;refine⟨lab',⟨b.s.1.trans p,b.s.2.sp d aA (f _ b.s.9.1),b.s.3.sp d oM<|f _ b.s.9.2.1,b.s.4.sp d oM<|f _ b.s.9.2.2,h.s.5,b.s.m.sp d (λg e q=>by rw[e]at q;simp at q) λg j _ e q=>by rw[e]at q;simp at q,l,d.3 b.s.8,(d.2 _ aA b.s.2.lt (f _ b.s.9.1)).2.trans b.s.9.1,(d.2 _ oM b.s.3.lt<|f _ b.s.9.2.1).2.trans b.s.9.2.1,(d.2 _ oM b.s.4.lt<|f _ b.s.9.2.2).2.trans b.s.9.2.2⟩,b.2.sp d h.3<|f _ b.4,h.3,(d.2 _ h.3 b.2.lt<|f _ b.4).2.trans b.4,b.5.sp d λg e q=>by rw[e]at q;simp at q⟩
theorem Ny.done(m:Ny w wr lab V a n c k mb mv sv M S iv jv xb xv is t){o:Obj}(g:(wr.alloc o).grownBy w8 mv.ownBlock)(A:w8.ownsRow w.1.size 84 5 v8 (M.length+1) (NH iv M++Nf xv t))(v:v8.ownBlock=mv.ownBlock\/v8.ownBlock=some (wr.alloc o).1.size):
 ∃lab',Om w (w8.setCell ⟨mb,1,none⟩ v8) lab' V a n c k mb v8 sv (M++[⟨is,t⟩]) S (λi=>if i=M.length then xv else iv i) jv/\Bx w8 mb #[.int .i64 k,mv] 25:=by
 have b:=m.calm<|Xb (Below.refl wr.1.size wr) o;let⟨lab',u,f⟩:=b.s.m.push vY ⟨is,t⟩ b.5 g A v b.s.8;have h:∀d,lab d=(0,0,0)->lab d≠(1,0,0):=λd e q=>by rw[e]at q;simp at q
 have y:Below w.1.size (wr.alloc o) w8:=⟨g.1,g.2,g.3,g.4,λq hq=>g.5 q (aX hq b.s.1.4) λe=>by have:=(b.s.m.1.1.lt q e.symm).1;omega⟩;have z:=m.s.5;have D:=(f.2 _ aA b.s.2.lt (h _ b.s.9.1)).2.trans b.s.9.1;have E:=(f.2 _ oM b.s.3.lt<|h _ b.s.9.2.1).2.trans b.s.9.2.1;have r:=(f.2 _ oM b.s.4.lt<|h _ b.s.9.2.2).2.trans b.s.9.2.2;have x:=b.s.2.sp f aA (h _ b.s.9.1);have B:=b.s.3.sp f oM<|h _ b.s.9.2.1;have p:=b.s.4.sp f oM<|h _ b.s.9.2.2;have C:=b.s.s.sp f (λd e q=>by rw[e]at q;simp at q) (λd i _ e q=>by rw[e]at q;simp at q);have j:∀d L,lab' d=L->L≠(0,0,0)->d≠mb:=λd L e s q=>s (by rw[<-e,q];exact r);have l:=XW.put (w:=w8) (lab:=lab') (base:=w.1.size) mb 1 v8;exact⟨lab',⟨(b.s.1.trans y).setCell (p:=Hk mb 1) (by show w.1.size<=mb;omega) _,x.other λe=>oM,B.other λe=>oM,p.set 1 v8,z,u.sp l (λd e=>j d _ e sP) λd i _ e=>j d _ e sP,C.sp l (λd e=>j d _ e sP) λd i _ e=>j d _ e sP,l.3<|f.3 b.s.8,D,E,r⟩,p⟩
def Oz(w wr:Ub)(V:Int)(a:Uy)(n c:Nat)(k:Int)(mb:Nat)(mv sv:Uj)(M S:List ag)(iv jv:Vu)(xb:Nat)(is:Vr)(t:Yj):Prop:=∃lab xv,Ny w wr lab V a n c k mb mv sv M S iv jv xb xv is t
def O9(w wr:Ub)(V:Int)(a:Uy)(n c:Nat)(k:Int)(mb:Nat)(mv sv:Uj)(M:List ag)(iv:Vu)(xb:Nat)(S:List ag)(is:Vr)(t:Yj):Prop:=∃lab xv jv,Ny w wr lab V a n c k mb mv sv M S iv jv xb xv is t
def PQ(w wr:Ub)(V:Int)(a:Uy)(n c:Nat)(k:Int)(mb:Nat)(sv:Uj)(M S:List ag):Prop:=∃lab mv iv jv,Om w wr lab V a n c k mb mv sv M S iv jv/\sv≠.slice none 0 0
end
theorem Qa:(prog.info? 84).map (λi=>(i.8,i.3,i.4))=some (some<|.agg #[Hq,Hp 0,Hp 0,Hp 0,Hp 0],5,56):=vZ
def kr:Code->List Code
 |.loop c=>[c]
 |.seq a b=>kr a++kr b
 |.block _ c=>kr c
 |.scope c=>kr c
 |.cond _ a b=>kr a++kr b
 |_=>[]
noncomputable def Ao:Code:=(kr<|f15.9.getD .skip).getD 0 .skip
noncomputable def Nb:Code:=(kr Ao).getD 0 .skip
theorem zY(T:Type):∀(a:List T)(k:Nat)(f:Nat->T),(∀i (h:i<a.length),f (k+i)=a[i])->a=(List.range' k a.length).map f
 |[],_,_,_=>rfl
 |x::a,k,f,h=>by
  rw[bA,List.range'_succ,eH];have b:=h 0 sP;rw[fW,eM]at b;rw[b];congr 1;exact zY T a (k+1) f λi c=>by have:=h (i+1) (by simpa using c);rwa[fO,show k+(i+1)=k+1+i by omega]at this
theorem Lw:(List.range' 13 155).map h=(h 13::h 14::h 15::h 16::h 17::h 18::h 19::h 20::h 21::h 22::h 23::h 24::h 25::h 26::h 27::h 28::h 29::h 30::h 31::h 32::h 33::h 34::h 35::h 36::h 37::h 38::h 39::h 40::h 41::h 42::h 43::h 44::h 45::h 46::h 47::h 48::h 49::h 50::h 51::h 52::h 53::h 54::h 55::h 56::h 57::h 58::h 59::h 60::h 61::h 62::h 63::h 64::h 65::h 66::h 67::h 68::h 69::h 70::h 71::h 72::h 73::h 74::h 75::h 76::h 77::h 78::h 79::h 80::h 81::h 82::h 83::h 84::h 85::h 86::h 87::h 88::h 89::h 90::h 91::h 92::h 93::h 94::h 95::h 96::h 97::h 98::h 99::h 100::h 101::h 102::h 103::h 104::h 105::h 106::h 107::h 108::h 109::h 110::h 111::h 112::h 113::h 114::h 115::h 116::h 117::h 118::h 119::h 120::h 121::h 122::h 123::h 124::h 125::h 126::h 127::h 128::h 129::h 130::h 131::h 132::h 133::h 134::h 135::h 136::h 137::h 138::h 139::h 140::h 141::h 142::h 143::h 144::h 145::h 146::h 147::h 148::h 149::h 150::h 151::h 152::h 153::h 154::h 155::h 156::h 157::h 158::h 159::h 160::h 161::h 162::h 163::h 164::h 165::h 166::h 167::[]):=rfl
theorem qd(h:y.length=155):∃f:Vu,y=(f 13::f 14::f 15::f 16::f 17::f 18::f 19::f 20::f 21::f 22::f 23::f 24::f 25::f 26::f 27::f 28::f 29::f 30::f 31::f 32::f 33::f 34::f 35::f 36::f 37::f 38::f 39::f 40::f 41::f 42::f 43::f 44::f 45::f 46::f 47::f 48::f 49::f 50::f 51::f 52::f 53::f 54::f 55::f 56::f 57::f 58::f 59::f 60::f 61::f 62::f 63::f 64::f 65::f 66::f 67::f 68::f 69::f 70::f 71::f 72::f 73::f 74::f 75::f 76::f 77::f 78::f 79::f 80::f 81::f 82::f 83::f 84::f 85::f 86::f 87::f 88::f 89::f 90::f 91::f 92::f 93::f 94::f 95::f 96::f 97::f 98::f 99::f 100::f 101::f 102::f 103::f 104::f 105::f 106::f 107::f 108::f 109::f 110::f 111::f 112::f 113::f 114::f 115::f 116::f 117::f 118::f 119::f 120::f 121::f 122::f 123::f 124::f 125::f 126::f 127::f 128::f 129::f 130::f 131::f 132::f 133::f 134::f 135::f 136::f 137::f 138::f 139::f 140::f 141::f 142::f 143::f 144::f 145::f 146::f 147::f 148::f 149::f 150::f 151::f 152::f 153::f 154::f 155::f 156::f 157::f 158::f 159::f 160::f 161::f 162::f 163::f 164::f 165::f 166::f 167::[]):=by
 have e:=zY Uj y 13 (λi=>y.getD (i-13) undef) (λi a=>by simp[a]);rw[h]at e;exact⟨λi=>y.getD (i-13) undef,e.trans<|Lw⟩
structure QE where
 j:Nat
 tl:Wo
theorem QK{Q:Yt}(bc:Nat){Lc X:Nat}{u R:Nat}{N S:List ag}{o:Nat}{d:Vr}{U:Yj}(ia:Uy)(ic:Nat){c0 c2 c4 c5 c6 c7 E c9:Uj}(hQ:Hs (∀c (a1:Act) t z w,Q (.panic c) (a1.put (some t) z) w->Q (.panic c) a1 w))(hB:g<=w.1.size)(hc:Hs (Xf w Lc X p l))(a5:Hs (i=l.length))(af:Hs (i=n))(a2:X<=w.1.size)(bt:u<B)(a0:Hs (∀W,Below w.1.size w W->W.cell? (Hk m<|k+u*6+1)=some (.slice ia d.length ic)/\YY W bc g ia d))(ba:Hs (∀a9∈d,(∀z∈Iw a9,0<=z/\z<n)/\(∀z∈BW a9,0<=z/\z<n)))(bv:d.length<=1048576)(a6:∀(y:Wo)(r:Ub),y.length=155->Hs (Oz w r (n:Int) (some ⟨m,k,none⟩) B c T R a A N S h H o ((d.map<|ZR l).take d.length) U)->Q (.exit 2) ⟨(c0::.slice p i j::c2::Hn w.1.size::c4::c5::c6::c7::E::c9::Hp u::Hn o::Hp ((d.length:Nat):Int)::y).toArray,[]⟩ r){wr:Ub}(C:y.length=155)(v:Hs (Oz w wr (n:Int) (some ⟨m,k,none⟩) B c T R a A N S h H o ((d.map<|ZR l).take 0) U)):
 Code.wp prog (Code.loop Nb) Q ⟨(c0::.slice p i j::c2::Hn w.1.size::c4::c5::c6::c7::E::c9::Hp u::Hn o::Hp ((0:Nat):Int)::y).toArray,[]⟩ wr:=by
 have HX:=Xa a6;clear a6;let⟨i0,bf,bm,bn,bo⟩:=fX RB;have br:(0:Int)<=(u:Int):=oM;have bx:(u:Int)<(B:Int):=oM;refine iY (λO wr=>∃G:QE,O=⟨(c0::.slice p i j::c2::Hn w.1.size::c4::c5::c6::c7::E::c9::Hp u::Hn o::Hp ((G.j:Nat):Int)::G.2).toArray,[]⟩/\G.2.length=155/\G.j<=d.length/\Hs (Oz w wr (n:Int) (some ⟨m,k,none⟩) B c T R a A N S h H o ((d.map<|ZR l).take G.j) U)) (λO _=>d.length-(intOf<|O.1.getD 12 undef).toNat) ⟨⟨0,y⟩,rfl,C,aN,v⟩ ?_;clear v C;rintro O wr⟨⟨b,y⟩,rfl,C,hj,HQ⟩;dsimp only at C hj HQ |-
 conv=>arg 2;whnf
 obtain⟨bq,rfl⟩:=qd C;clear C;let⟨b3,xv,x⟩:=HQ.o;have f:=Xa x;clear f;let⟨k1,bh⟩:=a0 wr x.s.1;have f1:Cl wr w.1.size 1 (Hm m k B c):=Bx.cell x.s.2 rfl;by_cases aj:b<d.length
 .have bi:(b:Int)<(d.length:Int):=oM
  obtain⟨e,q,rfl,⟨_,b0⟩,be⟩:=bh b aj;have HJ:Hs ((d.map<|ZR l).take (b+1)=(d.map<|ZR l).take b++[ZR l d[b]]):=Xa (by
   rw[bN<|by simpa using aj];simp)
  have aa:Hs (((d.map<|ZR l).take b).length=b):=Xa (by rw[dH,bK];omega);have Z:=Xa<|ba.o _ (aH aj);generalize d[b]=Y at*;let⟨g0,g1,g2,g3,g4⟩:=be;let⟨I,J,a8⟩:=x.5.form;rw[aa.o]at a8;subst a8;have L:=Xa x;have x0:Cl wr o 0 (.slice I b J):=Bx.cell x.2 rfl;have M:Hs (∀W,Bx W w.1.size #[Hp n,Hm m k B c] 37->Below w.1.size w W->W.cell? (Hk w.1.size 1)=some (Hm m k B c)/\W.cell? (Hk m<|k+u*6+1)=some (Hm e q d.length ic)/\W.cell? (Hk e<|q+b*5)=some (Hp Y.1)/\W.cell? (Hk e<|q+b*5+1)=some (Hp Y.2)/\W.cell? (Hk e<|q+b*5+2)=some (Hp Y.a)/\W.cell? (Hk e<|q+b*5+3)=some (Hp Y.b)/\W.cell? (Hk e<|q+b*5+4)=some (Hp Y.5)):=Xa (λW hF hW=>by
   have j:=λD=>(hW.cell (p:=Hk e D) (show e<w.1.size by omega)).trans (L.s.1.cell (p:=Hk e D) (show e<w.1.size by omega)).symm
   exact⟨Bx.cell hF rfl,(a0 W hW).1,(j _).trans g0,(j _).trans g1,(j _).trans g2,(j _).trans g3,(j _).trans g4⟩)
  have ac:=Xa<|L.calm (Below.refl wr.1.size wr).drew;have ar:=Xa<|hc.keep (ac.s.1.mono a2);have a3:X<=wr.drew.1.size:=aJ a2 L.s.1.4;have az:Hs (dB Y.1=true->0<=Y.2/\Y.2<i):=Xa (λv=>by have:=Z.2 Y.2 (by simp[BW,v]);rw[af.o];exact this);have ap:Hs (aB Y.1=true->0<=Y.a/\Y.a<i):=Xa (λv=>by have:=Z.1 Y.a (by simp[Iw,v]);rw[af.o];exact this);have aq:Hs (bB Y.1=true->0<=Y.b/\Y.b<i):=Xa (λv=>by have:=Z.1 Y.b (by simp[Iw,v]);rw[af.o];exact this);have b1:=L.s.1.4;clear x;go_wp2;refine Y7 (λr=>r.cell? (Hk w.1.size 1)=some (Hm m k B c)/\r.cell? (Hk m<|k+u*6+1)=some (Hm e q d.length ic)/\r.cell? (Hk e<|q+b*5)=some (Hp Y.1)/\r.cell? (Hk e<|q+b*5+1)=some (Hp Y.2)/\r.cell? (Hk e<|q+b*5+2)=some (Hp Y.a)/\r.cell? (Hk e<|q+b*5+3)=some (Hp Y.b)/\r.cell? (Hk e<|q+b*5+4)=some (Hp Y.5)) λhHeld=>?_;refine X0 0 ?_;refine X0 2 ?_;refine X0 3 ?_;refine X0 4 ?_;refine X0 5 ?_;refine X0 6 ?_;refine X0 7 ?_;refine X0 8 ?_;refine X0 9 ?_;refine X0 10 ?_;refine X0 11 ?_;refine eS (rs:=[1,12]) vZ sP ?_;refine(bQ rfl (λK hK=>?_) (bQ rfl (λK hK=>?_) dY))
  focus
   go_simp;refine hK _ _ kP λhHeld=>?_;clear hK
   try simp only[xX]
   refine Xs 12 λK hK=>?_;go_simp
   go_at_call 39
   refine(yL ar a5 a3 az ap aq ).mono ?_;rintro bd s⟨rfl,F⟩;have f:=Xa<|ac.calm F;have s1:=M s f.s.2 f.s.1;have V:Cl s o 0 (.slice I b J):=Bx.cell f.2 rfl;have x2:=λD=>(bP s D (Hk o 0) f.2.lt).trans V;clear F;dsimp only;refine hK _ _ s1 λhHeld=>?_;clear hK;refine Xs 13 λK hK=>?_;go_simp;refine hK _ _ kP λhHeld=>?_;clear hK
  rotate_left
  focus
   go_simp
   go_at_call 39
   refine(yL ar a5 a3 az ap aq ).mono ?_;rintro bd s⟨rfl,F⟩;have f:=Xa<|ac.calm F;have s1:=M s f.s.2 f.s.1;have V:Cl s o 0 (.slice I b J):=Bx.cell f.2 rfl;have x2:=λD=>(bP s D (Hk o 0) f.2.lt).trans V;clear F;dsimp only;refine hK _ _ s1 λhHeld=>?_;clear hK
   try simp only[xX]
   refine eS (rs:=[1,13]) vZ sP ?_;refine(bQ rfl (λK hK=>?_) (bQ rfl (λK hK=>?_) dY))
   focus
    go_simp;refine hK _ _ kP λhHeld=>?_;clear hK
    try simp only[xX]
    refine Xs 13 λK hK=>?_;go_simp;refine hK _ _ kP λhHeld=>?_;clear hK
   rotate_left
   focus
    go_simp;refine hK _ _ kP λhHeld=>?_;clear hK
    try simp only[xX]
    refine Xs 1 λK hK=>?_;go_simp;refine hK _ _ kP λhHeld=>?_;clear hK
  all_goals (
   have ab:=Xa<|f.calm (Xb (Below.refl s.1.size s) (.cells #[Hp (ZR l Y).1,Hp (ZR l Y).2,Hp (ZR l Y).a,Hp (ZR l Y).b,Hp (ZR l Y).5] 66));refine Xs 14 λK hK=>?_;refine d6 rfl _ _ 58 rfl w.1.size 66 i0 (.agg #[Hp 0,Hp 0,Hp 0,Hp 0,Hp 0]) 5 40 underlying58 bf bm bn bo rfl vY (.slice I b J) b (ZP<|(d.map<|ZR l).take b) rfl ?s1 (Hk s.1.size 0) 1 1 [Hp (ZR l Y).1,Hp (ZR l Y).2,Hp (ZR l Y).a,Hp (ZR l Y).b,Hp (ZR l Y).5] rfl rfl ?s2 ?s3 ?s4 ?s5 ?s6 ?_
   case s1=>have:=ab.5.1;rw[aa.o]at this;exact this
   case s2=>exact World.news_of_block<|World.alloc_heap_new _ _
   case s3=>intro b4 hu;simp at hu;obtain rfl|rfl|rfl|rfl|rfl:=hu<;>rfl
   case s4=>unfold maxLen;omega
   case s5=>omega
   case s6=>have:=f.s.1.4;simp;omega
   intro v8 w8 al a7 _ a4;let⟨bp,P,ao,ad⟩:=ab.push [ZR l Y] a7 (by rw[aa.o];exact al) a4;obtain⟨g8,E,rfl,_,_⟩:=Xm al oM;have s8:=M w8 ad.2 ad.1;have s9:=M _ P.s.2 P.s.1;have k0:Cl w8 o 0 (.slice I b J):=Bx.cell ao rfl;have kz:=Bx.thaw ao;have bb:Hs (Oz w (w8.setCell (Hk o 0) (Hl g8 (b+1) E)) (n:Int) (some ⟨m,k,none⟩) B c T R a A N S h H o ((d.map<|ZR l).take (b+1)) U):=Xa ⟨bp,_,by rw[HJ.o];exact P⟩;clear al a7 a4 P ao ad x0 V x2 f ab;refine hK _ _ s8 λhHeld=>?_;clear hK;refine X0 15 ?_;refine Xs 16 λK hK=>?_;go_simp;refine hK _ _ s9 λhHeld=>?_;clear hK;refine Yq ?_;clear hHeld k0 kz s8 s9;go_wp2;refine⟨⟨⟨b+1,_⟩,rfl,rfl,(by show b+1<=d.length;omega),bb⟩,by simp[intOf];omega⟩)
 have bi:¬(b:Int)<(d.length:Int):=oM;have bl:b=d.length:=oM;subst bl;go_wp2_with fail
 exact HX _ _ rfl HQ
structure N8(L B:Nat)(w w':Ub):Prop where
 os:w'.4=w.4
 tape:w'.2=w.2
 output:w'.5=w.5
 size:w.1.size<=w'.1.size
 block:∀k,k<w.1.size->¬(L<=k/\k<B)->w'.1[k]?=w.1[k]?
theorem N8.of_iw(h:IW n m w v):N8 n m w v:=⟨h.1,h.2,h.3,by rw[h.4];exact aA,λk _ a=>h.5 k a⟩
theorem N8.of_below(h:Below w.1.size w v):N8 n m w v:=⟨h.1,h.2,h.3,h.4,λk a _=>h.5 k a⟩
theorem N8.trans(h:N8 n m w v)(k:N8 n m v u):N8 n m w u :=
 ⟨k.1.trans h.1,k.2.trans h.2,k.3.trans h.3,aJ h.4 k.4,λi a b=>(k.5 i (aX a h.4) b).trans (h.5 i a b)⟩
theorem N8.below(h:N8 n m v u)(k:Below w.1.size w v)(b:w.1.size<=n):Below w.1.size w u :=
 ⟨h.1.trans k.1,h.2.trans k.2,h.3.trans k.3,aJ k.4 h.4,λi a=>(h.5 i (aX a k.4) oM).trans (k.5 i a)⟩
theorem I9(c:Nat)(ha:Hs (Xp w m k p x))(j:Hs (n=x.length))(hs:Hs (x.length+Xx x<=1048576))(hB:k<=w.1.size)(hv:Hs (XJ ⟨t,x⟩=true)):
 Calls prog 34 #[.agg #[Hp t,.slice p n c]] w λl Q=>∃P a1 c1 a2 c2 a3 c3 a4 c4,l=.returned (.agg #[.slice a1 n c1,.slice a2 n c2,.slice a3 n c3,.slice a4 (XT P n 0).length c4])/\Below w.1.size w Q/\YX (X8 x) n P/\MX Q w.1.size Q.1.size (Pq x) (Pe x) P (Xi<|XT P n 0) a1 a2 a3 a4:=by
 have D:=Xa<|Wz hv;have H:n<=1000:=oP D.2 j.o;have ap:0<n:=oP D.1 j.o;have b0:Hs (∀I,Re (X8 x) I->I<n):=Xa (j.o▸D.re);have a6:=Xa λW (g:Below w.1.size w W)=>Tr t p n c x m k W (Xa<|ha.keep (g.mono hB)) j hs (oN g.4);rw[<-WY,hv.o]at a6
 go_in
 go_wp2_with fail
 refine(a6 _ (by first|exact Below.refl _ _|exact Xb (Below.refl _ _) _|exact Xb (Xb (Below.refl _ _) _) _)).mono ?_;rintro l a⟨rfl,V⟩;obtain⟨ba,dw⟩:=NC V;have k0:a.cell? (Hk w.1.size 0)=some (Hp t):=by rw[ba _ _<|by simp;omega];simp[go_sem]
 have k1:a.cell? (Hk w.1.size 1)=some (.slice p n c):=by rw[ba _ _<|by simp;omega];simp[go_sem]
 have ac:=Xa<|Xg (Xb (Xb (Below.refl w.1.size w) _) _) V;have f0:w.1.size+2<=a.1.size:=by have:=V.4;simp at this;omega
 have bx:Hs (a.rowIs (w.1.size+1) 72 4 λ_=>Hq):=Xa (by
  have aj:=eK (w.alloc<|.cells #[Hp t,.slice p n c] 37) #[Hq,Hq,Hq,Hq] 72 (λ_=>Hq) (λi o=>by
   match i,o with
   |0,_=>rfl
   |1,_=>rfl
   |2,_=>rfl
   |3,_=>rfl)
  rw[aO]at aj;exact aj.of_block<|V.5 _ sP)
 clear ba dw V a6;have s:w.1.size<a.1.size:=oM;go_wp2_with fail
 refine((Xa λW (g:Below w.1.size w W) z=>qt t c z (Xa<|ha.keep (g.mono hB)) j H ap (oN g.4) (Xa (j.o▸D.3))) _ (Xb ac _) (-1)).mono ?_;rintro l v⟨v2,F,rfl,M,cn,cm,ck⟩;obtain⟨a2,df,rfl,al⟩:=Xk (xs:=Xi F) (qr▸cn);have bt:=Xa λI=>(ck I).trans (rf vY);have ea:(Xi F).length<=1000:=by rw[Y0];exact aJ (YS cm λI j=>b0 I<|(bt I).1 j) H
 have f4:a.1.size+1<=v.1.size:=by have:=M.4;simp at this;omega
 have cr:=Xa (by simpa using al);have er:=Xa<|Xg (Xb ac<|.cells #[Hq,Hq,Hq,Hq] 72) M;have bo:Hs (Oa a v v (λ_=>Hq) (λz=>.bool (Cg (Xi F) (z:Int))) (λi:Nat=>AQ x 0 (i:Int)) 0 0 none 0 0 none 0):=Xa (by
  have h0:OE a (a.alloc<|.cells #[Hq,Hq,Hq,Hq] 72) a.1.size Hq Hq (λ_=>Hq) (λz=>.bool (Cg (Xi F) (z:Int))) 0 none 0 0 none 0 :=
   ⟨by simp[go_sem],by simp[go_sem],by simp[go_sem],by simp[go_sem],λu=>(eK a #[Hq,Hq,Hq,Hq] 72 (λi=>#[Hq,Hq,Hq,Hq].getD i undef) λi o=>by simp[Array.getElem?_eq_getElem o]).frozen u,Xb (Below.refl _ _) _,sP,rfl,dA,dA,bC rfl⟩
  exact⟨h0.below M,λi o=>absurd o<|Nat.not_lt_zero _,YA.refl _ _ _,λd Y=>(by obtain l|l:=Y<;>cases l),aA⟩)
 have es:Hs (v.cell? (Hk w.1.size 0)=some (Hp t)/\v.cell? (Hk w.1.size 1)=some (.slice p n c)):=Xa ⟨oB M ((bP a _ (Hk w.1.size 0) s).trans k0) (by show w.1.size<_;simp;omega),oB M ((bP a _ (Hk w.1.size 1) s).trans k1) (by show w.1.size<_;simp;omega)⟩;clear M cn al ck cm;obtain⟨lF,bb⟩:∃lF,lF=(Xi F).length:=⟨_,rfl⟩;rw[<-bb]at ea |-;have cs:=Xa bb;have ad:Hs (a.cell? (Hk w.1.size 0)=some (Hp t)/\a.cell? (Hk w.1.size 1)=some (.slice p n c)):=Xa ⟨k0,k1⟩;clear bb k0 k1;go_wp2
 go_loopw [5] (λab wr=>∃(b:Nat)(N:Uy)(c1:Nat)(O:Uy)(c2:Nat)(af:Vu),b<=n/\ab=Hp b/\Hs (Oa a v wr af (λz=>.bool (Cg (Xi F) (z:Int))) (λi:Nat=>AQ x 0 (i:Int)) b b N c1 b O c2)) λab _=>n-(intOf ab).toNat
 case atStart=>exact⟨0,none,0,none,0,_,aN,rfl,bo⟩
 clear bo;obtain⟨b,N,c1,O,c2,af,e7,rfl,C⟩:=hrel;have fz:=C.1.7;have cj:w.1.size<wr.1.size:=oM;have bm:=Xa<|ac.trans (C.1.6.mono oM);have g0:=oB C.1.6 ad.1 s;have E:=oB C.1.6 ad.2 s;by_cases fj:b<n
 .have m0:=C.1.1;obtain⟨i1,dz,el,em,en⟩:=Xq QQ;have cw:=Xa<|C.below (Below.refl wr.1.size wr).drew;have co:=Xa bm.drew;have fr:(AQ x 0 (b:Int)).length<=1000:=aJ (YO _ _ _) (oN j.o);have cl:w.1.size≠a.1.size:=oM;go_wp2_with fail
  refine Y7 (λQ=>Q.cell? (Hk w.1.size 0)=some (Hp t)/\Q.cell? (Hk w.1.size 1)=some (.slice p n c)) λhHeld=>?_;refine Xn 0 ?_;refine Xn 2 ?_;refine Xn 3 ?_;refine eS (rs:=[1,4]) vZ sP ?_;refine(bQ rfl (λK hK=>?_) (bQ rfl (λK hK=>?_) dY))
  focus
   go_simp;refine hK _ _ kP λhHeld=>?_;clear hK
   try simp only[xX]
   refine Xs 4 λK hK=>?_
  all_goals (
   go_simp
   go_at_call 68
   refine((Xa λW (g:Below w.1.size w W) u=>ZE t c u (Xa<|ha.keep (g.mono hB)) j oM (oN g.4)) _ co (b:Int)).mono ?_;rintro l e⟨ua,uc,rfl,B,ci⟩;have R:=Xa<|cw.newU (u:=.slice ua (AQ x 0 (b:Int)).length uc) (uc:=uc) B rfl ci;have y0:=R.1.1;have yl:=R.1.7;have bh:=oB B g0 cj;have bi:=oB B E cj;have az:wr.1.size<=e.1.size:=B.4;clear B ci;generalize (AQ x 0 (b:Int)).length=ul at*;refine hK _ _ ⟨bh,bi⟩ λhHeld=>?_;clear hK;refine Xn 5 ?_;skip)
  rotate_left;refine eS (rs:=[1,6]) vZ sP ?_;refine(bQ rfl (λK hK=>?_) (bQ rfl (λK hK=>?_) dY))
  focus
   go_simp;refine hK _ _ kP λhHeld=>?_;clear hK
   try simp only[xX]
  rotate_left
  all_goals (
   try (refine eS (rs:=[6]) vZ sP ?_;refine bQ rfl (λK hK=>?_) dY)
   go_simp;refine hK _ _ kP λhHeld=>?_;clear hK
   try simp only[xX]
   skip)
  focus
   refine Xs 1 λK hK=>?_;go_simp;refine hK _ _ kP λhHeld=>?_;clear hK
  all_goals (
   refine Xs 7 λK hK=>?_;refine d6 rfl _ _ 69 rfl (a.1.size+1) 80 i1 (.agg #[Hq]) 1 24 underlying69 dz el em en rfl vY (.slice N b c1) b ((List.range b).map λi=>if i=b then Value.slice ua ul uc else af i) rfl ?s1 (Hk e.1.size 0) 1 1 [.slice ua ul uc] rfl rfl ?s2 ?s3 ?s4 ?s5 ?s6 ?_
   case s1=>exact R.1.9.alloc _
   case s2=>exact Yf _ _ _
   case s3=>intro ab Z;simp at Z;subst Z;rfl
   case s4=>unfold maxLen;omega
   case s5=>omega
   case s6=>simp;omega
   intro v8 w8 be cg _ cb;obtain⟨g8,c8,rfl,fc,_⟩:=Xm be oM;obtain⟨b8,b3,b6,a9⟩:=R.app1 cg (by rw[aU rfl];exact be) (by simpa using cb);have z0:=(b3 0).trans R.1.1;have zf:=b6 0;have za:=oB a9 bh s;have zb:=oB a9 bi s;have a0:=Xa b8;clear be cg cb b8 b3 b6 a9;refine hK _ _ ⟨za,zb⟩ λhHeld=>?_;clear hK;refine Xn 8 ?_;refine Xs 9 λK hK=>?_;go_simp;refine hK _ _ ⟨(Xc<|Below.heap_setCell _ _ _ _ cl).trans za,(Xc<|Below.heap_setCell _ _ _ _ cl).trans zb⟩ λhHeld=>?_;clear hK;refine Yq ?_;clear hHeld z0 zf za zb y0 yl bh bi m0;generalize w8.setCell _ _=w9 at*;have S:=Xa<|a0.below (Below.refl w9.1.size w9).drew;have x1:=a0.1.2;have xl:=a0.1.7;obtain⟨i2,al,ei,ej,ek⟩:=Xq Q7;have bp:=Xa λW (aj:YA (a.1.size+1) v.1.size v W)=>YF a2 df b (Xi F) (a.1.size+1) v.1.size W (Xa<|cr.keepS aj) cs oM;go_wp2_with fail
   refine Y7 (λ_=>True) λhHeld=>?_;refine Xn 0 ?_;refine Xn 2 ?_;refine Xn 3 ?_;refine eS (rs:=[1,4]) vZ sP ?_;refine(bQ rfl (λK hK=>?_) (bQ rfl (λK hK=>?_) dY));go_simp;refine hK _ _ kP λhHeld=>?_;clear hK
   try simp only[xX]
   refine Xs 4 λK hK=>?_;go_simp
   go_at_call 70
   refine(bp _ S.3).mono ?_;rintro l ep⟨rfl,bf⟩;subst bf;refine hK _ _ trivial λhHeld=>?_;clear hK;refine Xs 5 λK hK=>?_;go_simp;refine hK _ _ kP λhHeld=>?_;clear hK;rotate_left;go_simp
   go_at_call 70
   refine(bp _ S.3).mono ?_;rintro l ep⟨rfl,bf⟩;subst bf;refine hK _ _ trivial λhHeld=>?_;clear hK
   try simp only[xX]
   refine eS (rs:=[1,5]) vZ sP ?_;refine(bQ rfl (λK hK=>?_) (bQ rfl (λK hK=>?_) dY));go_simp;refine hK _ _ kP λhHeld=>?_;clear hK
   try simp only[xX]
   refine Xs 5 λK hK=>?_;go_simp;refine hK _ _ kP λhHeld=>?_;clear hK;rotate_left;go_simp;refine hK _ _ kP λhHeld=>?_;clear hK
   try simp only[xX]
   refine Xs 1 λK hK=>?_;go_simp;refine hK _ _ kP λhHeld=>?_;clear hK
   all_goals (
    refine Xs 6 λK hK=>?_;refine d6 rfl _ _ 70 rfl (a.1.size+1) 4 i2 (.bool false) 1 1 underlying70 al ei ej ek rfl vY (.slice O b c2) b ((List.range b).map λz:Nat=>.bool (Cg (Xi F) (z:Int))) rfl ?s1 (Hk w9.1.size 0) 1 1 [.bool (Cg (Xi F) (b:Int))] rfl rfl ?s2 ?s3 ?s4 ?s5 ?s6 ?_
    case s1=>exact S.1.o2.alloc _
    case s2=>exact Yf _ _ _
    case s3=>intro ab Z;simp at Z;subst Z;rfl
    case s4=>unfold maxLen;omega
    case s5=>omega
    case s6=>simp;omega
    intro gb eq bd ce _ ca;obtain⟨ez,dd,rfl,e9,_⟩:=Xm bd oM;obtain⟨b7,b1,b5,ds⟩:=S.app2 ce bd (by simpa using ca);have z0:=(b1 1).trans S.1.2;have zf:=b5 1;have ct:=Xa b7;clear bd ce ca b7 b1 b5 ds;refine hK _ _ trivial λhHeld=>?_;clear hK;refine Xn 7 ?_;refine Xs 8 λK hK=>?_;go_simp;refine hK _ _ trivial λhHeld=>?_;clear hK;refine Yq ?_;clear hHeld z0 zf;generalize eq.setCell _ _=gd at*;go_wp2
    exact⟨⟨b+1,_,c8,_,dd,_,oM,gM,ct⟩,by simp[intOf];omega⟩))
 have dn:n=b:=oM;subst dn;have bn:=Xa ((Xa λW (g:Below w.1.size w W)=>Di t c (Xa<|ha.keep (g.mono hB)) j (oN g.4) D).o wr bm);go_wp2_with fail
 refine bn.mono ?_;rintro l w3⟨da,dc,rfl,a7,cd⟩;have J:Hs (YX (X8 x) n ((List.range n).map (L0<|(List.range n).map (Zq (X8 x) n)))):=Xa (by rw[j.o];exact D.model);have br:=Xa (CT da dc ((List.range n).map (Zq (X8 x) n)) wr.1.size (Xa<|by rw[jO];exact cd) (Xa sP) H aA (Xa (λga hl=>by
  obtain⟨b,_,rfl⟩:=aY.1 hl;exact⟨aJ (rr n b) H,λp ha=>(Jo.1 ha).1⟩)))
 have cv:=Xa<|C.below a7;have f5:=a7.4;clear a7 cd bn;go_wp2_with fail
 refine br.mono ?_;rintro l h⟨v4,rfl,a8,aq⟩;obtain⟨P,hP⟩:∃P,P=(List.range n).map (L0<|(List.range n).map (Zq (X8 x) n)):=⟨_,rfl⟩;rw[<-hP]at J aq;obtain⟨y,c3,rfl,fb,_⟩:=Xm aq ap;have f:=Xa<|cv.below a8;have cx:=Xa aq;have f6:=a8.4;have t2:=f.1.3;have t3:=f.1.4;have tz:=f.1.5;have e0:=oB f.1.6 ad.1 s;have e6:=oB f.1.6 ad.2 s;have fn:w.1.size≠a.1.size:=oM;have fq:a.1.size≠w.1.size:=oM;clear a8 aq br hP g0 E;have t0:=f.1.1;have t1:=f.1.2;have fs:Hs ((P.map<|Value.int .i64).length=n*1):=Xa (by simp[J.1]);have bq:Hs (Xf h w3.1.size h.1.size (some ⟨y,0,none⟩) P):=Xa (by
  obtain⟨a',c',eg,ch⟩:=Xk cx;injection eg with e1;rw[e1];exact ch)
 have fi:=f.1.7;have fe:a.1.size<w3.1.size:=oM;have dl:=Xa<|bx.of_block (f.1.6.5 _ bx.lt);have bv:=Xa (λW (hW:W=h.setCell (Hk a.1.size 2) (Hl y n c3))=>Me (some ⟨y,0,none⟩) c3 w3.1.size h.1.size (Xa J.1.symm) H (Re<|X8 x) (Xa λb c _ hc=>(Kf J hc).1.2) (Xa λeo b g=>aJ (o9 J b0 eo g) H) n 0 W (Xa<|bq.keepS λd T A=>by rw[hW];exact Below.heap_setCell _ _ _ _<|by dsimp only;omega) (by rw[hW,Xd];exact aA) (Xa Re.root) H);go_wp2_with fail
 obtain⟨e,r⟩:∃e,e=h.setCell (Hk a.1.size 2) (Hl y n c3):=⟨_,rfl⟩;rw[<-r];have B:∀d,d≠a.1.size->e.1[d]?=h.1[d]?:=λd Y=>by rw[r];exact Below.heap_setCell _ _ _ _ Y
 have az:e.1.size=h.1.size:=by rw[r,Xd]
 have s2:e.cell? (Hk a.1.size 2)=some (Hl y n c3):=by rw[r];exact fQ _ _ _ t2
 have s0:e.cell? (Hk a.1.size 0)=some (.slice N n c1):=by rw[r];exact(XL _ _ oM _).trans t0
 have s1:e.cell? (Hk a.1.size 1)=some (.slice O n c2):=by rw[r];exact(XL _ _ oM _).trans t1
 have s3:e.cell? (Hk a.1.size 3)=some Hq:=by rw[r];exact(XL _ _ oM _).trans t3
 have sz:∀u,e.frozen? (Hk a.1.size u)=false:=λu=>by rw[r,eX];exact tz u
 have ar:e.4=h.4/\e.2=h.2/\e.5=h.5:=by rw[r];exact⟨rfl,rfl,rfl⟩
 have ee:0<(XT P n 0).length:=by cases n<;>simp[XT]
 refine(bv e r).mono ?_;rintro l w6⟨v6,rfl,q,bc⟩;obtain⟨L,c4,rfl,cf,_⟩:=Xm bc ee;have cz:=Xa bc;have aa:a.1.size<e.1.size:=oM;have r0:=oB q s0 aa;have r1:=oB q s1 aa;have r2:=oB q s2 aa;have r3:=oB q s3 aa;have rz:=λu=>(bJ<|q.5 _ aa).trans (sz u);have bl:Hs (∀d,d<h.1.size->d≠a.1.size->w6.1[d]?=h.1[d]?):=Xa λd T A=>(q.5 d oM).trans (B d A);have a5:Hs (w6.4=h.4/\w6.2=h.2/\w6.5=h.5):=Xa ⟨q.1.trans ar.1,q.2.trans ar.2.1,q.3.trans ar.2.2⟩;have f7:=q.4;have G:=dl.of_block<|bl _ oM oM;have y0:=G.cell (i:=0) vY;have y1:=G.cell (i:=1) vY;have y2:=G.cell (i:=2) vY;have y3:=G.cell (i:=3) vY;have yf:=G.frozen;have fl:a.1.size≠w.1.size+1:=oM;have eb:w.1.size+1≠a.1.size:=oM;have c7:=Xa G;have cq:=Xa cf;have db:=Xa az;generalize hQ:(XT P n 0).length=ql at*;have HQ:=Xa hQ;clear r B s0 s1 s2 s3 sz ar q bc bv t0 t1 t2 t3 tz G az hQ;go_wp2_with fail
 obtain⟨wE,hE⟩:∃wE,wE=((((w6.setCell (Hk a.1.size 3) (Hl L ql c4)).setCell (Hk (w.1.size+1) 0) (.slice N n c1)).setCell (Hk (w.1.size+1) 1) (.slice O n c2)).setCell (Hk (w.1.size+1) 2) (Hl y n c3)).setCell (Hk (w.1.size+1) 3) (Hl L ql c4):=⟨_,rfl⟩;rw[<-hE];obtain⟨z0,z1,z2,z3,cc,fx,ec,ef,ed⟩:=xq c7 eb hE;clear hE;refine cC (v:=.agg #[.slice N n c1,.slice O n c2,Hl y n c3,Hl L ql c4]) (by simp[results,results34,go_sem,z0,z1,z2,z3]) rfl ?_;have az:=db.o;have cf:=cq.o;have X:=λd T A h3=>(cc d A h3).trans (bl d T A);obtain⟨E,q1,e1,e8,_⟩:=Xm f.1.9 ap;obtain⟨g2,q2,e2,fa,_⟩:=Xm f.1.o2 ap;injection e1 with di et eu;injection e2 with dj ev ey;subst di;subst dj;refine⟨P,some<|Hk E 0,c1,some<|Hk g2 0,c2,some<|Hk y 0,c3,some<|Hk L 0,c4,by rw[HQ.o],?_,J,?_,?_,?_,?_⟩
 .have U:=ac.trans<|f.1.6.mono (dU s);exact⟨ec.trans<|a5.1.trans U.1,ef.trans<|a5.2.1.trans U.2,ed.trans<|a5.2.2.trans U.3,oN U.4,λd Y=>(X d oM oM oM).trans (U.5 d Y)⟩
 .intro i o;have ao:i<n:=by have:=j.o;simp only[Pq,bK,gI]at o;omega
  obtain⟨lo,ch,a',c',q1,q2,q3,q4,q5⟩:=f.2 i ao;have du:Cl wE E i (af i):=(bZ<|X E oM oM oM).trans (Jj f.1.9<|by simp[ao]);have b4:(Pq x)[i]=AQ x 0 (i:Int):=by simp[Pq]
  refine⟨E,0,rfl,⟨oM,oM⟩,a',c',?_,?_⟩;·rw[aV,du,q1,b4]
  rw[b4];exact(q4.keepS λd T A=>X d oM oM oM).mono oM oM
 .intro i o;have ao:i<n:=by have:=j.o;simp only[Pe,bK,gI]at o;omega
  have dk:(Pe x)[i]=Xh (Zp x).1 i:=by simp[Pe]
  refine⟨g2,0,rfl,⟨oM,oM⟩,?_⟩;rw[aV,dk];have g:=eQ.2<|qS.trans ((bt i).trans (D.top.2.1 i).symm);rw[<-g];exact(bZ<|X g2 oM oM oM).trans (Jj f.1.o2<|by simp[ao])
 .exact(bq.keepS λd T A=>X d A oM oM).mono oM oM
 intro i o;refine⟨L,0,rfl,⟨oM,oM⟩,?_⟩;rw[aV];have d0:i<(XT P n 0).length:=by rw[Y0]at o;exact o
 exact(bZ<|cc L oM oM).trans (Jj cz<|by simp[Je,Xi,d0])
abbrev As:=@Ps 156<|aZ (aZ rfl)
abbrev AY:=@Pu 158<|aZ (aZ rfl)
abbrev AF:=@P7 112<|aZ rfl
abbrev A7:=@P5 121<|aZ rfl
section
attribute [local go_sem] Oper.semAt_some
theorem DH{p q:Nat}(h:p<=q)(a:n∈Mq f p):n∈Mq f q:=by
 have:=om.1 a;exact om.2 ⟨oM,this.2⟩
theorem DS(h:Vv)(L:w.cell? (Hk n 0)=some (Hl m k B))(G:Hs (Cp w m k B f))(M:Hs (XA f))(C:Hs (Jn w))(hK:k<=100)(Z:Hs (¬h m))(aa:Hs (¬h 3)):
 pp Fence.wide 7 prog 183 #[Hn n] (λx:Nat=>#[Hp x]) (λx _=>x∈Mq f (64*k)) (Zf w.1.size h) (λxs=>xs=Mq f (64*k)) (Mq f<|64*k).length w:=by
 intro a2 J t l hl v D g;have Y:n<w.1.size:=aI w _ L;have ar:=oB l L Y;have R:=Xa<|G.of_block (l.5 m G.lt);have ab:(3: Nat)<w.1.size:=aI w _<|C 0 vY;have W:=Xa<|C.of_block (l.5 _ ab);refine iD func183 rfl trivial ?_ rfl;simp only[ntmps183,xY,Nat.reduceAdd,Nat.reduceSub];gi_wp2
 gi_loopw [8] (λq wr=>∃a:Nat,a<=k/\q=Hp a/\Hs (J (Mq f<|64*a) wr)/\Zf w.1.size h t wr) λq _=>k-(intOf q).toNat
 case atStart=>exact⟨0,aN,rfl,Xa (by rw[Nat.mul_zero];exact Xa g),Zf.refl _⟩
 obtain⟨a,hk,rfl,d,o⟩:=hrel;by_cases ad:a<k
 .have E:=o.cell (R.cell ad) Z;have c:=Xa<|ji.start M a;have aj:=M a;generalize al:f a=yk at E c aj;generalize wr=wo at*;have aq:IntKind.i64.wrap ((a:Int)*64)=(a:Int)*64:=by rw[dF];omega
  have e:=Xa o;gi_wp2
  gi_loopw [4] (λy wr=>∃b p:Nat,y=.int .u64 b/\Hs (ji f a p b)/\Hs (J (Mq f<|64*a+p) wr)/\Hs (Zf w.1.size h t wr)) λy _=>(intOf y).toNat
  case atStart=>exact⟨yk,0,rfl,c,d,e⟩
  obtain⟨b,p,rfl,c,d,e⟩:=hrel;have O:=c.2;by_cases g:b=0
  .subst g;gi_wp2;exact⟨⟨a+1,oM,gM,Xa (c.done▸d),e⟩,by simp[intOf];omega⟩
  let⟨P,j,n3,n4⟩:=c.next g;have V:=Xa j;have a1:((b:Int)==0)=false:=by simp;omega
  have az:IntKind.u64.wrap ((b:Int)-1)=((b-1:Nat):Int):=by rw[iV];omega
  have a0:=bits_and_u64_nat b (b-1) O oM;have r:=Xa<|Fj O g wr (Xa<|W.of_block (e.2 _ oM aa));have I:(Mq f<|64*a+p).length<(Mq f<|64*k).length:=by
   have u:=fI List.length j;have h2:=Fx (W:=f) (p:=64*a+(Lib.ctz 64 b+1)) (q:=64*k) oM;rw[aQ]at u;simp at u;omega
  have K:64*a+Lib.ctz 64 b∈Mq f (64*k):=DH (q:=64*k) (p:=64*a+(Lib.ctz 64 b+1)) oM (by rw[j];simp);let⟨fn,tmps,ao,bo,N,A⟩:=(Xa D) _ (64*a+Lib.ctz 64 b) wr d K I;generalize Lib.ctz 64 b=i at*;generalize b&&&(b-1)=yn at*;have ap:IntKind.i64.wrap ((a:Int)*64+(i:Int))=(a:Int)*64+(i:Int):=by rw[dF];omega
  have F:(((64*a+i:Nat)):Int)=(a:Int)*64+(i:Int):=oM;rw[F]at N;gi_wp2;refine⟨trivial,(bM.2 r).mono ?_⟩;rintro X w1⟨rfl,af⟩;subst af;gi_wp2;refine A.mono ?_;rintro X W3⟨rfl,z,H,_⟩;gi_wp2;exact⟨⟨yn,i+1,rfl,Xa P,Xa (V.o▸(Xa z)),Xa<|e.trans H⟩,by simp[intOf];omega⟩
 have ac:a=k:=oM;gi_wp2
 go_end0
 exact⟨⟨_,rfl⟩,_,rfl,ac▸d⟩
end
theorem Ke{b:Wn}(ha:Hs (Yx w k B p b))(o:Hs (Yx w g i P b))(q:Hs (n=b.length))(E:n<=1000000000)(u:B<=w.1.size)(v:i<=w.1.size):
 Calls prog 8 #[.slice p n c,.slice P n m] w λl r=>l=.returned (.bool true)/\Below w.1.size w r:=by
 go_in
 go_wp2
 go_loopw [5] (λe wr=>∃a:Nat,a<=n/\e=Hp a/\Below w.1.size w wr) λe _=>n-(intOf e).toNat
 case atStart=>exact⟨0,aN,rfl,Below.refl _ _⟩
 obtain⟨a,z,rfl,d⟩:=hrel;by_cases D:a<n
 .have j:a<b.length:=oN q.o;obtain⟨s,F,rfl,⟨_,x⟩,f⟩:=ha a j;obtain⟨t,G,rfl,⟨_,y⟩,h⟩:=o a j;have A:(0:Int)<=(a:Int):=oM;have C:(a:Int)<(n:Int):=oM;have e1:=(XU d oM).trans f;have e2:=(XU d oM).trans h;generalize (b[a].toNat:Int)=Z at*;go_wp2;go_region;go_wp2;exact⟨⟨a+1,oM,gM,d.drew⟩,by simp[intOf];omega⟩
 go_wp2;go_ret;exact⟨rfl,d⟩
def zm(w:Ub)(L B:Nat)(a:Uy)(k:Int)(n:Nat):Prop:=∀q,q<n->∃b o,a=some ⟨b,o,none⟩/\(L<=b/\b<B)/\w.cell? ⟨b,o+q,none⟩=some (.int .u8 ((k+(q:Nat))%256))
theorem I5{y:Wn}(ha:Hs (Yx w m k p y))(G:Hs (n=y.length))(F:Hs (iy m k w))(O:n<=1000000000)(K:0<=t)(L:t<=1000000000):
 Calls prog 9 #[.slice p n c,Hp t] w λe x=>e=.returned (Hp<|t+n)/\N8 m k w x/\zm x m k p t n:=by
 go_in
 go_wp2
 go_loopw [1,5] (λI i wr=>∃j:Nat,j<=n/\i=Hp j/\I=Hp (t+j)/\Hs (N8 m k w wr)/\Hs (iy m k wr)/\Hs (∀q,q<n->∃b o v,p=some (Hk b o)/\(m<=b/\b<k)/\wr.cell? (Hk b<|o+q)=some (.int .u8 v))/\Hs (zm wr m k p t j)) λ_ i _=>n-(intOf i).toNat
 case atStart=>
  refine⟨0,aN,rfl,sP,Xa<|N8.of_below (Below.refl _ _),F,Xa λq hq=>?_,Xa λq hq=>absurd hq oM⟩;let⟨b,o,e,B,d⟩:=ha q<|oN G.o;exact⟨b,o,_,e,B,d⟩
 obtain⟨j,N,rfl,rfl,r,u,l,s⟩:=hrel;by_cases E:j<n
 .obtain⟨b,o,v,rfl,a,d⟩:=l j E;have M:=u b (o+j) a;go_wp2;refine⟨⟨j+1,oM,gM,gM,Xa (r.trans ⟨rfl,rfl,rfl,by simp[World.setCell],λq _ hq=>Below.heap_setCell _ _ _ _<|by dsimp only;omega⟩),Xa<|u.setCell _ _,Xa λq hq=>?_,Xa λq hq=>?_⟩,by simp[intOf];omega⟩
  .by_cases e:q=j
   .subst e;exact⟨b,o,_,rfl,a,fQ _ _ _ d⟩
   let⟨z,H,J,f,C,g⟩:=l q hq;cases f;exact⟨b,o,J,rfl,a,by rw[cJ<|by intro h;injection h with _ A;omega];exact g⟩
  by_cases e:q=j
  .subst e;exact⟨b,o,rfl,a,fQ _ _ _ d⟩
  let⟨z,H,f,C,g⟩:=s q oM;cases f;exact⟨b,o,rfl,a,by rw[cJ<|by intro h;injection h with _ A;omega];exact g⟩
 have D:j=n:=oM;subst D;go_wp2;go_ret;exact⟨rfl,r,s⟩
end Go.Proofs.YtcfdhbigppockaaGreatDoor
