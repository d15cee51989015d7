import Derived.Test.YtghnlncgiihhgaaGreatDoorMA0
namespace Go.Proofs.YtghnlncgiihhgaaGreatDoor
set_option maxHeartbeats 4000000
set_option maxRecDepth 100000
open Go.RowKit Go.Proofs.Tryz
variable{n m k B g:Nat}{f F:Nat->Nat}{M:Nat->Nat->Nat}{w v:World}
section
structure WsAt(w:World)(g K C:Nat)(W:Nat->Nat):Prop where
 le:K<=C
 ex:∃T:Nat->Value,w.rowIs g 114 C (fun i=>if i<K then .int .u64 (W i)else T i)
namespace WsAt
variable {w : World} {g K C : Nat} {W W' : Nat -> Nat}
theorem lt(h:WsAt w g K C W):g<w.heap.size:=by
 obtain⟨_,T,h⟩:=h;exact h.lt
theorem cell(h:WsAt w g K C W){i:Nat}(a:i<K):w.cell? ⟨g,i,none⟩=some (.int .u64 (W i)):=by
 obtain⟨b,T,h⟩:=h;have:=h.cell (i:=i) oM;rwa[aU a]at this
theorem frozen(h:WsAt w g K C W)(i:Nat):w.frozen? ⟨g,i,none⟩=false:=by
 obtain⟨_,T,h⟩:=h;exact h.frozen i
theorem congr(h:WsAt w g K C W)(e:∀i,i<K->W i=W' i):WsAt w g K C W':=by
 obtain⟨b,T,h⟩:=h;refine⟨b,T,h.congr (fun i _=>?_)⟩;by_cases a:i<K
 ·rw[aU a,aU a,e i a]
 ·rw[aM a,aM a]
theorem of_block{a:World}(h:WsAt w g K C W)(e:a.heap[g]?=w.heap[g]?):WsAt a g K C W:=by
 obtain⟨b,T,h⟩:=h;exact⟨b,T,h.of_block e⟩
theorem set(h:WsAt w g K C W)(i v:Nat)(b:i<K):WsAt (w.setCell ⟨g,i,none⟩ (.int .u64 (v:Int))) g K C (fun j=>if j=i then v else W j):=by
 obtain⟨a,T,h⟩:=h;refine⟨a,T,(h.set i _).congr (fun j _=>?_)⟩;by_cases e:j=i
 ·rw[aU e,aU oM,aU e]
 ·rw[aM e,aM e]
theorem setOther(h:WsAt w g K C W){a:Addr}(ha:g≠a.block)(v:Value):WsAt (w.setCell a v) g K C W:=by
 obtain⟨b,T,h⟩:=h;exact⟨b,T,h.setOther ha v⟩
theorem alloc(h:WsAt w g K C W)(o:Obj):WsAt (w.alloc o) g K C W:=by
 obtain⟨a,T,h⟩:=h;exact⟨a,T,h.alloc o⟩
theorem drew(h:WsAt w g K C W):WsAt w.drew g K C W:=by
 obtain⟨a,T,h⟩:=h;exact⟨a,T,h.drew⟩
theorem of_row(h:w.rowIs g 114 K (fun i=>.int .u64 (W i))):WsAt w g K K W :=
 ⟨aA _,fun _=>.int .u64 0,h.congr (fun i a=>by rw[aU a])⟩
theorem of_own{c:Nat}{v:Value}{a:List Nat}(h:w.ownsRow c 114 1 v a.length (a.map fun x:Nat=>Value.int .u64 (x:Int)))(p:v≠.slice none 0 0):∃g C,v=.slice (some ⟨g,0,none⟩) a.length C/\c<=g/\WsAt w g a.length C (fun i=>a.getD i 0):=by
 obtain⟨o,h | ⟨g,k,b,rfl,m,n,l,_,f,j⟩⟩:=h
 ·exact absurd h.1 p
 ·simp only[iN]at o f j
  refine⟨g,k,rfl,m,l,fun i=>b[i]?.getD (.int .u64 0),b,n,f,fun i q=>?_⟩;show b[i]?=some (if i<a.length then Value.int .u64 ((a.getD i 0:Nat):Int)else b[i]?.getD (.int .u64 0));by_cases e:i<a.length
  ·rw[aU e]
   have d:(b.toList.take a.length)[i]?=some (Value.int .u64 (a[i]:Nat)):=by rw[j];simp[e]
   rw[fH e]at d;have e2:a.getD i 0=a[i]:=by simp[e]
   rw[e2];simpa using d
  ·rw[aM e]
   have:i<b.size:=oM;simp[this]
end WsAt
end
theorem Tryz.infoU64valueNo:(prog.info? 114).map (fun i=>(i.zero,i.size,i.bytes))=some (some (.int .u64 0),1,8):=vZ
theorem Ty(a:Nat)(w:World)(i:a<=60000):Calls prog 82 #[.int .i64 a] w fun e b=>∃g,e=.returned (.agg #[.slice (some ⟨g,0,none⟩) ((a+63) / 64) ((a+63) / 64)])/\w.heap.size<=g/\Below w.heap.size w b/\b.rowIs g 114 ((a+63) / 64) (fun _=>.int .u64 ((0:Nat):Int)):=by
 have f:=fM (P:=prog) 43 114 (.int .u64 0) 8 underlying43 Tryz.infoU64valueNo rfl .i64 .i64 ((a+63) / 64) oM oM;have hq:((a:Int)+63).tdiv 64=(((a+63) / 64:Nat):Int):=by rw[fY oM];omega
 have h:((a:Int)+64-1)=(a:Int)+63:=oM;have hK:(a+63) / 64<=1000:=oM;generalize (a+63) / 64=K at *
 go_in
 go_wp2;refine cC (v:=.agg #[.slice (some ⟨w.heap.size+1,0,none⟩) K K]) (by simp[results,results82,go_sem]) rfl ?_;refine⟨w.heap.size+1,rfl,oM,Xb (Xb (Below.refl _ _) _) _,?_⟩;have c:=fun d=>by
  have:=dG (w.alloc d) (.int .u64 0) K 114;rwa[aO]at this
 exact c _
theorem ZG(g K C n D:Nat)(W:Nat->Nat)(l:Option Addr)(a:List Nat)(L B:Nat)(w:World)(ha:Hid (Xf w L B l (a.map Int.ofNat)))(r:Hid (n=a.length))(hn:n<=4000)(J:Hid (∀t∈a,t<64*K))(hK:K<=1000)(E:Hid (XA W))(p:Hid (WsAt w g K C W))(U:B<=w.heap.size)(Z:¬(L<=g/\g<B)) :
 Calls prog 80 #[.agg #[.slice (some ⟨g,0,none⟩) K C],.slice l n D] w fun e s=>e=.returned (.tuple #[])/\w.grownBy s (some g)/\WsAt s g K C (addsN W a):=by
 go_in
 go_wp2;have Y:=p.lt
 go_loopw [8] (fun u wr=>∃q:Nat,q<=n/\u=.int .i64 q/\Hid (w.grownBy wr (some g))/\wr.cell? ⟨w.heap.size,0,none⟩=some (.slice (some ⟨g,0,none⟩) K C)/\Hid (WsAt wr g K C (addsN W (a.take q)))) (fun u _=>n-(intOf u).toNat)
 case atStart=>exact⟨0,aN _,rfl,Xa (bW _ _ _),sP,Xa (p.alloc _)⟩
 case round =>
  obtain⟨q,hq,rfl,f,I,c⟩:=hrel;by_cases aa:q<n
  ·have k:q<a.length:=oN r.out
   obtain⟨b,N,rfl,V,m⟩:=ha q (by simpa using k);have j:=(Xc (f.block b oM (fun e=>by injection e with e;omega))).trans m;rw[cM]at j;have ad:=J _ (aH k);have y:=Xa (VW (W:=W) k);have z:=Xa (Zs (a.take q) E);clear m;generalize a[q]=t at *;have S:=dp t;have T:=dh t;have P:Cl wr b (N+q) (.int .i64 (t:Int)):=j;clear j;generalize addsN W (a.take q)=h at *;have o:t / 64<K:=oM;have H:t % 64<64:=dS _ vY;have Q:=c.cell o;have R:=c.frozen;have x:=Xa (je H (z (t / 64)));have v:Hid (∀i,(if i=t / 64 then h (t / 64) ||| 2 ^ (t % 64)else h i)=addsN W (a.take (q+1)) i):=Xa (fun i=>by
    rw[y.out];unfold YH;by_cases e:i=t / 64
    ·rw[aU e,aU e,e]
    ·rw[aM e,aM e])
   generalize X:t / 64=d at *;generalize ab:t % 64=O at *;go_wp2
   go_region
   go_wp2;rw[x.out];have M:wr.grownBy (wr.setCell ⟨g,d,none⟩ (.int .u64 ((h d ||| 2 ^ O:Nat):Int))).drew (some g):=⟨rfl,rfl,rfl,by simp[World.setCell,World.drew],fun aj _ G=>Below.heap_setCell _ _ _ _ (fun e=>G (by rw[e]))⟩;refine⟨⟨q+1,oM,gM,Xa (f.andThen M (fun af F=>by cases F;exact aZ rfl)),?_,Xa ?_⟩,by simp[intOf];omega⟩
   ·exact(bH wr ⟨g,d,none⟩ ⟨w.heap.size,0,none⟩ _ (by show g≠w.heap.size;omega)).trans I
   ·refine WsAt.drew ((c.set d _ o).congr (fun i _=>?_))
    rw[<-v.out i]
  ·have ac:q=n:=oM
   have A:Hid (a.take q=a):=Xa (aW (oN r.out));rw[A.out]at c;go_wp2
   go_end0
   exact⟨rfl,f,c⟩
theorem Tv(g b c K C m k:Nat)(S O T:Nat->Nat)(w:World)(p:Hid (XA S))(l:Hid (XA O))(H:Hid (XA T))(hK:K<=1000)(y:Hid (WsAt w g K C S))(x:Hid (WsAt w b K m O))(z:Hid (WsAt w c K k T))(G:c≠g)(P:Hid (b=g->S=O)) :
 Calls prog 83 #[.agg #[.slice (some ⟨g,0,none⟩) K C],.agg #[.slice (some ⟨b,0,none⟩) K m],.agg #[.slice (some ⟨c,0,none⟩) K k]] w fun e A=>e=.returned (.bool (grewN S O T K))/\w.grownBy A (some g)/\WsAt A g K C (butN S O T):=by
 go_in
 go_wp2;have l1:=y.lt;have W:=x.lt;have X:=z.lt
 go_loopw [7,14] (fun F u wr=>∃q:Nat,q<=K/\u=.int .i64 q/\F=.bool (grewN S O T q)/\Hid (w.grownBy wr (some g))/\wr.cell? ⟨w.heap.size,0,none⟩=some (.slice (some ⟨g,0,none⟩) K C)/\wr.cell? ⟨w.heap.size+2,0,none⟩=some (.slice (some ⟨c,0,none⟩) K k)/\Hid (WsAt wr g K C (fun i=>if i<q then butN S O T i else S i))) (fun _ u _=>K-(intOf u).toNat)
 case atStart=>exact⟨0,aN _,rfl,by rw[mi],Xa (((bW w _ _).andThen (bW _ _ _) (fun t d=>aZ d)).andThen (bW _ _ _) (fun t d=>aZ d)),by simp[go_sem],by simp[go_sem],Xa ((((y.alloc _).alloc _).alloc _).congr (fun i _=>sP))⟩
 case round =>
  obtain⟨q,hq,rfl,rfl,f,Q,R,h⟩:=hrel;by_cases j:q<K
  ·have e1:Cl wr g q (.int .u64 (S q)):=(h.cell j).trans sP
   have e3:=(Xc (f.block c X (fun e=>G (by injection e)))).trans (z.cell j);have e2:wr.cell? ⟨b,q,none⟩=some (.int .u64 (O q)):=by
    by_cases e:b=g
    ·rw[<-P.out e,e];exact e1
    ·exact(Xc (f.block b W (fun D=>e (by injection D)))).trans (x.cell j)
   have ez:=h.frozen;have Z:=kM (O q) (T q) (l q) (H q);have M:O q &&& (18446744073709551615-T q)<18446744073709551616:=iC jB (l q);have aa:bits .andNot .u64 ((O q &&& (18446744073709551615-T q):Nat):Int) (S q:Int)=((moreN S O T q:Nat):Int):=kM _ (S q) M (p q);have ab:bits .or .u64 (S q:Int) ((moreN S O T q:Nat):Int)=((butN S O T q:Nat):Int):=u64_or_nat _ _ (p q) (WR l q);have n:=Xa (m6 S O T q);have U:g≠w.heap.size:=oM;have V:g≠w.heap.size+2:=oM;have o:Hid (WsAt (wr.setCell ⟨g,q,none⟩ (.int .u64 (butN S O T q:Int))) g K C (fun i=>if i<q+1 then butN S O T i else S i)):=Xa ((h.set q _ j).congr (fun i _=>by
    by_cases e:i=q
    ·subst e;simp
    ·rw[aM e]
     by_cases e2:i<q
     ·rw[aU e2,aU oM]
     ·rw[aM e2,aM oM]))
   have v:wr.grownBy (wr.setCell ⟨g,q,none⟩ (.int .u64 (butN S O T q:Int))) (some g):=⟨rfl,rfl,rfl,by simp[World.setCell],fun ad _ L=>Below.heap_setCell _ _ _ _ (fun e=>L (by rw[e]))⟩;have a:=Xa (f.andThen v (fun t d=>by cases d;exact aZ rfl));have r:=(bH wr ⟨g,q,none⟩ ⟨w.heap.size,0,none⟩ (.int .u64 (butN S O T q:Int)) U).trans Q;have s:=(bH wr ⟨g,q,none⟩ ⟨w.heap.size+2,0,none⟩ (.int .u64 (butN S O T q:Int)) V).trans R;generalize I:O q &&& (18446744073709551615-T q)=ac at *;generalize butN S O T q=Y at *;generalize moreN S O T q=B at *;generalize S q=Sq at *;generalize O q=Oq at *;generalize T q=Tq at *;generalize grewN S O T q=E at *;clear I v;cases E with
   | true =>
    go_wp2
    go_region
    go_wp2;exact⟨⟨q+1,oM,gM,by rw[n.out];rfl,Xa ⟨a.os,a.tape,a.output,a.size,a.block⟩,r,s,Xa o.drew⟩,by simp[intOf];omega⟩
   | false =>
    go_wp2
    go_region
    go_wp2;exact⟨⟨q+1,oM,gM,by rw[n.out];cases B<;>rfl,Xa ⟨a.os,a.tape,a.output,a.size,a.block⟩,r,s,Xa o.drew⟩,by simp[intOf];omega⟩
  ·have N:q=K:=oM
   subst N;go_wp2
   go_ret
   exact⟨rfl,f,h.congr (fun i J=>by rw[aU J])⟩
structure XK(w:World)(G n K:Nat)(gs cp:Nat->Nat)(Ws:Nat->Nat->Nat):Prop where
 row:w.rowIs G 45 n (fun i=>.slice (some ⟨gs i,0,none⟩) K (cp i))
 set:∀i,i<n->WsAt w (gs i) K (cp i) (Ws i)
 inj:∀i j,i<n->j<n->gs i=gs j->i=j
 out:∀i,i<n->gs i≠G
theorem Tryz.infoSetV:(prog.info? 45).map (fun i=>(i.zero,i.size,i.bytes))=some (some (.agg #[.slice none 0 0]),1,24):=vZ
structure fu(w wr:World)(G n K q:Nat)(gs:Nat->Nat):Prop where
 low:Below w.heap.size w wr
 base:w.heap.size<=G
 row:wr.rowIs G 45 n (fun i=>if i<q then .slice (some ⟨gs i,0,none⟩) K K else .slice none 0 0)
 set:∀i,i<q->wr.rowIs (gs i) 114 K (fun _=>.int .u64 ((0:Nat):Int))
 inj:∀i j,i<q->j<q->gs i=gs j->i=j
 up:∀i,i<q->G<gs i
theorem fu.next{wr:World}(h:fu w wr n m k B f)(hq:B<m)(b:Below wr.heap.size wr v)(p:wr.heap.size<=g)(o:v.rowIs g 114 k (fun _=>.int .u64 ((0:Nat):Int))) :
 fu w (v.setCell ⟨n,B,none⟩ (.slice (some ⟨g,0,none⟩) k k)) n m k (B+1) (fun i=>if i=B then g else f i)/\v.cell? ⟨n,B,none⟩=some (.slice none 0 0)/\v.frozen? ⟨n,B,none⟩=false:=by
 have l:=h.row.lt;have d:=h.row.of_block (b.block n l);have c:=fun i a=>(h.set i a).lt
 refine⟨⟨(h.low.trans (b.mono h.low.size)).setCell h.base _,h.base,(d.set B _).congr (fun i _=>?_),fun i a=>?_,fun i j a q e=>?_,fun i a=>?_⟩,(d.cell hq).trans sP,d.frozen B⟩
 ·by_cases e:i=B
  ·subst e;simp
  ·rw[aM e]
   by_cases e2:i<B
   ·rw[aU e2,aU oM];simp[e]
   ·rw[aM e2,aM oM]
 ·by_cases e:i=B
  ·rw[aU e];exact o.setOther (by show g≠n;omega) _
  ·rw[aM e]
   have:=h.up i oM;exact((h.set i oM).of_block (b.block _ (c i oM))).setOther (by show f i≠n;omega) _
 ·by_cases e1:i=B
  ·by_cases e2:j=B
   ·rw[e1,e2]
   ·rw[aU e1,aM e2]at e
    have:=c j oM;omega
  ·by_cases e2:j=B
   ·rw[aM e1,aU e2]at e
    have:=c i oM;omega
   ·rw[aM e1,aM e2]at e
    exact h.inj i j oM oM e
 ·by_cases e:i=B
  ·show n<if i=B then g else f i
   rw[aU e];omega
  ·show n<if i=B then g else f i
   rw[aM e];exact h.up i oM
theorem Ti(n d:Nat)(w:World)(z:n<=1000)(t:d<=60000) :
 Calls prog 77 #[.int .i64 n,.int .i64 d] w fun e j=>∃G c,e=.returned (.slice (some ⟨G,0,none⟩) n n)/\w.heap.size<=G/\Below w.heap.size w j/\XK j G n ((d+63) / 64) c (fun _=>(d+63) / 64) (fun _ _=>0)/\(∀i,i<n->w.heap.size<=c i):=by
 have y:=J9 (P:=prog) 75 45 (.agg #[.slice none 0 0]) 1 24 underlying75 Tryz.infoSetV n oM oM;have k:=Xa (fun W=>Ty d W t);generalize (d+63) / 64=K at *
 go_in
 go_wp2
 go_loopw [11] (fun u wr=>∃q:Nat,q<=n/\u=.int .i64 q/\∃c,Hid (fu w wr w.heap.size n K q c)) (fun u _=>n-(intOf u).toNat)
 case atStart=>exact⟨0,aN _,rfl,fun _=>0,Xa ⟨Xb (Below.refl _ _) _,aA _,by
  have m:=dG w (.slice none 0 0) n 45;simpa [Value.cells]using m,fun i a=>absurd a oM,fun i B a=>absurd a oM,fun i a=>absurd a oM⟩⟩
 case round =>
  obtain⟨q,hq,rfl,c,b⟩:=hrel;by_cases r:q<n
  ·go_wp2_with fail
   refine(k wr).mono ?_;rintro e C ⟨v,rfl,p,g,h⟩;have o:=b.next r g p h;obtain⟨f,x,A⟩:=o;have l:=Xa f;clear f g h
   go_wp2
   exact⟨⟨q+1,oM,gM,_,l⟩,by simp[intOf];omega⟩
  ·have s:q=n:=oM
   subst s
   go_wp2
   go_ret
   refine⟨_,c,rfl,aA _,b.low,⟨b.row.congr (fun i a=>by rw[aU a]),fun i a=>WsAt.of_row (b.set i a),b.inj,fun i a e=>by have:=b.up i a;omega⟩,fun i a=>by have:=b.up i a;omega⟩
def Yv(w:World)(P:Nat->Prop)(c:Option Addr)(a:List Int):Prop :=
 ∀i (h:i<a.length),∃b o,c=some ⟨b,o,none⟩/\(P b/\b<w.heap.size)/\w.cell? ⟨b,o+i,none⟩=some (.int .i64 a[i])
def TA(w:World)(P:Nat->Prop)(d:Option Addr)(a:List (List Int)):Prop :=
 ∀i (h:i<a.length),∃b o,d=some ⟨b,o,none⟩/\(P b/\b<w.heap.size)/\∃c e,w.cell? ⟨b,o+i,none⟩=some (.slice c a[i].length e)/\Yv w P c a[i]
theorem XK.keep{w':World}(h:XK w n m k f F M)(b:Below w.heap.size w w'):XK w' n m k f F M :=
 ⟨h.row.of_block (b.block _ h.row.lt),fun i a=>(h.set i a).of_block (b.block _ (h.set i a).lt),h.inj,h.out⟩
theorem XK.wrote{b:Nat}{c:Nat->Nat}(h:XK w n m k f F M)(d:b<m)(g:w.grownBy v (some (f b)))(j:WsAt v (f b) k (F b) c):XK v n m k f F (fun i=>if i=b then c else M i):=by
 refine⟨h.row.of_block (g.block _ h.row.lt (fun e=>h.out b d (by injection e with e;exact e.symm))),fun i a=>?_,h.inj,h.out⟩;by_cases e:i=b
 ·subst e
  simpa using j
 ·simp only[aM e]
  exact(h.set i a).of_block (g.block _ (h.set i a).lt (fun e2=>e (by injection e2 with e2;exact h.inj i b a d e2)))
theorem XK.apart{b:Nat->Nat}(h:XK w n m k F b M)(c:U8 w v m f)(d:∀i,i<m->n≠f i)(e:∀i j,i<m->j<m->F i≠f j):XK v n m k F b M :=
 ⟨h.row.of_block (c.block _ h.row.lt d),fun i a=>(h.set i a).of_block (c.block _ (h.set i a).lt (fun j g=>e i j a g)),h.inj,h.out⟩
theorem rL(H N h c0:Nat)(a:List Nat)(L1 B1:Nat)(sa:Option Addr)(ns cs:Nat)(d:List (List Nat))(G B n K:Nat)(c V u aj:Nat->Nat)(I T:Nat->Nat->Nat)(w:World)
 (cc:Hid (Xf w L1 B1 (some ⟨H,N,none⟩) (Xi a))) (h0:Hid (h=a.length)) (b9:h<=1000) (e0:0<h) (el:Hid (TA w (fun o=>∀i,i<n->o≠c i) sa (d.map Xi))) (hs:Hid (ns=d.length)) (ee:Hid (d.length=n)) (hK:K<=100)
 (bv:B1<=w.heap.size) (HI:Hid (XK w G n K c u I)) (HT:Hid (XK w B n K V aj T)) (em:Hid (XQ I)) (aa:Hid (XQ T))
 (d3:Hid (∀i,i<n->B≠c i)) (d4:Hid (∀i cj,i<n->cj<n->V i≠c cj))
 (ho:Hid (∀b∈a,b<n)) (ek:Hid (∀ck∈d,ck.length<=2000/\∀E∈ck,E<n)) :
 Calls prog 81 #[.slice (some ⟨H,N,none⟩) h c0,.slice sa ns cs,.slice (some ⟨G,0,none⟩) n n,.slice (some ⟨B,0,none⟩) n n] w fun e z=>e=.returned (.tuple #[])/\U8 w z n c/\∃Ws,XQ Ws/\XK z G n K c u Ws/\∀b,b<n->∀x,x<64*K->(Xh (Ws b) x=true↔Sp I T (·∈a) (fun b=>d.getD b []) b x):=by
 go_in
 go_wp2_with fail
 go_step3
 go_wp2_with fail
 refine(kw H N h c0 (Xi a) L1 B1 w cc (Xa (by have:=h0.out;simp[Xi];omega)) oM bv).mono ?_;rintro e w1 ⟨v1,rfl,bz,ed,a6⟩;obtain⟨Q,A,rfl,b4,ey⟩:=Xm a6 (by have:=h0.out;simp[Xi];omega);have aq:=Xa bz;have ay:=Xa a6;have X:(Xi a).length=h:=by have:=h0.out;simp[Xi];omega
 rw[X]at ay;clear bz a6 ed
 go_wp2_with fail
 have ev:=b4.2;have eu:=b4.1;refine(TM Q h A w.heap.size (Xi a) w1 oM (Xa X.symm) ay).mono ?_;rintro e v ⟨rfl,b6,cb⟩;have ba:=Xa (aq.grown b6 aq.size (fun o e=>by cases e;omega));have bl:=Xa cb;clear b6 cb ay aq
 go_wp2_with fail
 have af:Hid (Below v.heap.size v (v.alloc (.cells #[.slice (some ⟨H,N,none⟩) h c0,.slice (some ⟨Q,0,none⟩) h A] 27))):=Xa (Xb (Below.refl _ _) _);have ap:(v.alloc (.cells #[.slice (some ⟨H,N,none⟩) h c0,.slice (some ⟨Q,0,none⟩) h A] 27)).cell? ⟨v.heap.size,0,none⟩=some (.slice (some ⟨H,N,none⟩) h c0):=sP;have cd:(v.alloc (.cells #[.slice (some ⟨H,N,none⟩) h c0,.slice (some ⟨Q,0,none⟩) h A] 27)).cell? ⟨v.heap.size,1,none⟩=some (.slice (some ⟨Q,0,none⟩) h A):=sP;generalize v.alloc _=wa at *;have ac:=Xa (Xg ba af);have D:(Xi a).reverse.length=h:=by rw[jQ];exact X
 have bf:Hid (Xf wa w.heap.size v.heap.size (some ⟨Q,0,none⟩) (Xi a).reverse):=Xa (by
  have m:=bl.out;rw[<-D]at m;obtain⟨a',c',e',ec⟩:=Xk m;injection e' with e1;subst e1;exact ec.keep af)
 refine(Wb v.heap.size h c0 h A _ _ (Xi a) (Xi a).reverse L1 B1 w.heap.size v.heap.size wa (Xa (cc.keep (ac.mono bv))) bf (Xa X.symm) (Xa D.symm) b9 b9 oM (oN ac.size) af.size ap cd).mono ?_;rintro e w3 ⟨v3,rfl,a5,a7⟩;have f:=Xa (Xg ac a5);have eR:Xi a++(Xi a).reverse=Xi (a++a.reverse):=by simp[Xi]
 rw[eR]at a7;have d2:(a++a.reverse).length=2*h:=by have:=h0.out;simp;omega
 have a4:Hid (∀b,b∈a++a.reverse↔b∈a):=Xa (fun b=>sP);generalize a++a.reverse=R at *;have ca:(Xi R).length=R.length:=by simp[Xi]
 obtain⟨a3,c3,e3,b7⟩:=Xk a7;rw[ca]at e3;subst e3;have c7:=Xa b7;have du:Hid (wa.heap.size<=w3.heap.size/\w.heap.size<=wa.heap.size):=Xa ⟨a5.size,ac.size⟩;clear a5 a7 eR ap cd bf af bl ba b7;have dj:=Xa (HI.keep (f));have dl:=Xa (HT.keep (f));have bw:0<R.length:=oM;have eq:R.length<=2000:=oM;clear d2 X D ca;have cx:=Xa (fun i L=>(HI.set i L).lt)
 go_wp2_with fail
 go_step3
 go_wp2
 go_loopg [10] (JI I K n) (fun o qv wr=>∃(q:Nat)(W:Nat->Nat->Nat),qv=.int .i64 q/\q<R.length/\Hid (U8 w3 wr n c)/\Hid (XK wr G n K c u W)/\Hid (XQ W)/\Hid (JI W K n<=o)/\Hid (∀b x,Xh (I b) x=true->Xh (W b) x=true)/\Hid (∀b x,Xh (W b) x=true->Sp I T (·∈a) (fun b=>d.getD b []) b x)/\Hid (ClQ T K (fun b=>d.getD b []) W R q 0))
 case atStart=>exact⟨0,I,rfl,bw,Xa (U8.refl _ _ _),dj,em,Xa (aA _),Xa (fun _ _ m=>m),Xa (fun _ _ m=>Sp.init m),Xa Vz⟩
 case round =>
  obtain⟨q0,W0,rfl,ap,ct,di,ds,c9,c6,dk,cl⟩:=hrel
  go_wp2_with fail
  generalize wr=wo at *
  go_loopw [10,26] (fun qv O wr=>∃(q p:Nat)(W:Nat->Nat->Nat),qv=.int .i64 q/\q<R.length/\O=.int .i64 p/\p<=R.length/\Hid (U8 w3 wr n c)/\Hid (XK wr G n K c u W)/\Hid (XQ W)/\Hid (JI W K n<gk\/(JI W K n<=gk/\q=q0+p))/\Hid (∀b x,Xh (I b) x=true->Xh (W b) x=true)/\Hid (∀b x,Xh (W b) x=true->Sp I T (·∈a) (fun b=>d.getD b []) b x)/\Hid (ClQ T K (fun b=>d.getD b []) W R q p)) (fun _ O _=>R.length-(intOf O).toNat)
  case atStart=>exact⟨q0,0,W0,rfl,ap,rfl,aN _,ct,di,ds,Xa (aZ ⟨c9,oM⟩),c6,dk,cl⟩
  case round =>
   obtain⟨q,p,W,rfl,hq,rfl,hp,C,HS,F,HM,bi,bo,HC⟩:=hrel;by_cases Y:p<R.length
   ·obtain⟨br,e6,rfl,eb,bt⟩:=c7 p (by simpa [Xi]using Y)
    have cv:Hid (U8 w wr n c):=Xa ⟨C.os.trans f.os,C.tape.trans f.tape,C.output.trans f.output,aJ f.size C.size,fun o y J=>(C.block o (aX y f.size) J).trans (f.block o y)⟩;have er:=(Xc (C.block br eb.2 (fun i L e=>by have:=cx i L;have:=du.out;omega))).trans bt;have bx:(Xi R)[p]'(by simpa [Xi]using Y)=((R[p]:Nat):Int):=by simp[Xi]
    rw[bx]at er;have l:=ho _ ((a4 _).1 (aH Y));have ea:=Xa ((a4 _).1 (aH Y));have al:R[p]<d.length:=oN ee.out
    obtain⟨bs,os,ej,b2,dw,ep,es,b8⟩:=el R[p] (by simpa using al);subst ej;have d0:=(Xc (cv.block bs b2.2 b2.1)).trans es;have cf:((d.map Xi)[R[p]]'(by simpa using al)).length=d[R[p]].length:=by simp[Xi]
    rw[cf]at d0;have bn:=Xa (ek.out d[R[p]] (aH al));have ez:=bn.1;have bd:Hid (d.getD R[p] []=d[R[p]]):=Xa (by simp[al]);have cr:Hid (∀W',(∀i x,x<64*K->Xh (W' i) x=Xh (W i) x)->ClB T K (fun b=>d.getD b []) W R[p]->ClQ T K (fun b=>d.getD b []) W' R (q+1) (p+1)):=Xa (fun W' e hb=>pG HC e Y hb);have et:R[p]<ns:=oN hs.out
    have c8:Hid (Yv w (fun o=>∀i,i<n->o≠c i) dw (Xi d[R[p]])):=Xa (by simpa using b8);clear bt es b8 bx cf;generalize d5:R[p]=b at *;clear d5;generalize d[b]=g at *
    go_wp2_with fail
    generalize wr=e7 at *
    go_loopw [13,35] (fun gv O wq=>∃r:Nat,r<=g.length/\O=.int .i64 r/\gv=.bool (takesN T K b (g.take r) (W,false)).2/\Hid (U8 w3 wq n c)/\Hid (XK wq G n K c u (takesN T K b (g.take r) (W,false)).1)) (fun _ O _=>g.length-(intOf O).toNat)
    case atStart=>exact⟨0,aN _,rfl,rfl,C,HS⟩
    case round =>
     obtain⟨r,hr,rfl,rfl,j,k⟩:=hrel;by_cases D:r<g.length
     ·have cw:Hid (U8 w wr n c):=Xa ⟨j.os.trans f.os,j.tape.trans f.tape,j.output.trans f.output,aJ f.size j.size,fun o y J=>(j.block o (aX y f.size) J).trans (f.block o y)⟩
      obtain⟨b5,o5,rfl,b1,bq⟩:=c8 r (by simpa [Xi]using D);have e5:=(Xc (cw.block b5 b1.2 b1.1)).trans bq;have ch:(Xi g)[r]'(by simpa [Xi]using D)=((g[r]:Nat):Int):=by simp[Xi]
      rw[ch]at e5;have a9:=bn.2 _ (aH D);have a1:=Xa (dl.apart j d3 d4);have ad:=Xa (lm (T:=T) (K:=K) (b:=b) D (W,false));have bp:=Xa (TG (T:=T) (K:=K) (b:=b) (g.take r) (W,false) F);clear bq ch;generalize g[r]=t at *;generalize takesN T K b (g.take r) (W,false)=sq at *;obtain⟨U,gq⟩:=sq;dsimp only at *;have A:=k.row.cell l;have k2:=k.row.cell a9;have k3:=a1.row.cell l;have ab:=Xa (Tv (c b) (c t) (V b) K (u b) (u t) (aj b) (U b) (U t) (T b) wr.drew (Xa (bp.out b)) (Xa (bp.out t)) (Xa (aa.out b)) oM (Xa ((k.set b l).drew)) (Xa ((k.set t a9).drew)) (Xa ((a1.set b l).drew)) (d4 b b l l) (Xa (fun e=>by rw[k.inj t b a9 l e])));have bm:Hid (XK wr.drew G n K c u U):=Xa ⟨k.row,fun i L=>(k.set i L).drew,k.inj,k.out.out⟩;have bc:Hid (U8 w3 wr.drew n c):=Xa ⟨j.os,j.tape,j.output,j.size,j.block⟩;have P:Hid (G<wr.heap.size/\B<wr.heap.size):=Xa ⟨k.row.lt,a1.row.lt⟩;generalize grewN (U b) (U t) (T b) K=g5 at *;cases g5 with
      | true =>
       go_wp2_with fail
       refine Y7 (fun z=>z.cell? ⟨G,b,none⟩=some (.slice (some ⟨c b,0,none⟩) K (u b))/\z.cell? ⟨G,t,none⟩=some (.slice (some ⟨c t,0,none⟩) K (u t))/\z.cell? ⟨B,b,none⟩=some (.slice (some ⟨V b,0,none⟩) K (aj b))) (fun hHeld=>?_);refine Xn 0 ?_;refine Xn 1 ?_;refine Xn 2 ?_;refine Xn 3 ?_;refine Xn 4 ?_;refine Xn 5 ?_;refine Xn 6 ?_;refine Xn 7 ?_;refine Xn 8 ?_;refine Xn 9 ?_;refine Xn 10 ?_;refine Xn 11 ?_;refine Xs 12 (fun K hK=>?_);go_simp
       go_at_call 83
       refine ab.mono ?_;rintro e w5 ⟨rfl,s,Z⟩;have az:=Xa (bm.wrote l s Z);have ar:=Xa (bc.grown s l);have j1:=(Xc (s.block G P.1 (fun e=>k.out.out b l (by injection e with e;exact e.symm)))).trans A;have j2:=(Xc (s.block G P.1 (fun e=>k.out.out b l (by injection e with e;exact e.symm)))).trans k2;have j3:=(Xc (s.block B P.2 (fun e=>d3 b l (by injection e)))).trans k3;clear s Z ab;refine hK _ _ ⟨j1,j2,j3⟩ (fun hHeld=>?_);clear hK;refine Xn 13 ?_;refine KH 14 ?_;refine Xn 15 ?_;refine Xn 16 ?_;refine Yq ?_
       go_wp2
       exact⟨⟨r+1,oM,gM,by rw[ad.out];rfl,Xa ar.out,Xa (by rw[ad.out];exact az)⟩,by simp[intOf];omega⟩
      | false =>
       go_wp2_with fail
       refine Y7 (fun z=>z.cell? ⟨G,b,none⟩=some (.slice (some ⟨c b,0,none⟩) K (u b))/\z.cell? ⟨G,t,none⟩=some (.slice (some ⟨c t,0,none⟩) K (u t))/\z.cell? ⟨B,b,none⟩=some (.slice (some ⟨V b,0,none⟩) K (aj b))) (fun hHeld=>?_);refine Xn 0 ?_;refine Xn 1 ?_;refine Xn 2 ?_;refine Xn 3 ?_;refine Xn 4 ?_;refine Xn 5 ?_;refine Xn 6 ?_;refine Xn 7 ?_;refine Xn 8 ?_;refine Xn 9 ?_;refine Xn 10 ?_;refine Xn 11 ?_;refine Xs 12 (fun K hK=>?_);go_simp
       go_at_call 83
       refine ab.mono ?_;rintro e w5 ⟨rfl,s,Z⟩;have az:=Xa (bm.wrote l s Z);have ar:=Xa (bc.grown s l);have j1:=(Xc (s.block G P.1 (fun e=>k.out.out b l (by injection e with e;exact e.symm)))).trans A;have j2:=(Xc (s.block G P.1 (fun e=>k.out.out b l (by injection e with e;exact e.symm)))).trans k2;have j3:=(Xc (s.block B P.2 (fun e=>d3 b l (by injection e)))).trans k3;clear s Z ab;refine hK _ _ ⟨j1,j2,j3⟩ (fun hHeld=>?_);clear hK;refine Xn 13 ?_;refine Xn 14 ?_;refine Xn 15 ?_;refine Xn 16 ?_;refine Yq ?_
       go_wp2
       exact⟨⟨r+1,oM,gM,by rw[ad.out];rfl,Xa ar.out,Xa (by rw[ad.out];exact az)⟩,by simp[intOf];omega⟩
     ·have ei:r=g.length:=oM
      have dn:Hid (g.take r=g):=Xa (aW oM);rw[dn.out]at k |-;clear ei;have a2:=Xa (TG (T:=T) (K:=K) (b:=b) g (W,false) F);have dc:=Xa (JJ (T:=T) (K:=K) (b:=b) aa g (W,false) F);have a0:=Xa (T9 (I:=I) (T:=T) (K:=K) (b:=b) (ord:=(·∈a)) (src:=fun b=>d.getD b []) aa ea g (W,false) F (fun E ht=>by show E∈d.getD b [];rw[bd.out];exact ht) bo);have df:=Xa (T6 (T:=T) (K:=K) (b:=b) aa g (W,false) F);have cz:=Xa (UB (T:=T) (K:=K) (b:=b) aa g (W,false) F rfl);have dd:=Xa (fun i (L:i≠b)=>TN (T:=T) (K:=K) L g (W,false));generalize takesN T K b g (W,false)=sq at *;obtain⟨S,d1⟩:=sq;dsimp only at *;have ax:=Xa (fun b x m=>dc b x (bi b x m));cases d1 with
      | true =>
       have da:=Xa (ig (K:=K) dd (cz rfl) n l)
       go_wp2
       exact⟨⟨0,p+1,S,rfl,bw,gM,oM,j,k,a2,Xa (bC (by have:=da.out;rcases HM.out with m | m<;>omega)),ax,a0,Xa Vz⟩,by simp[intOf];omega⟩
      | false =>
       obtain⟨a8,b3⟩:=df rfl;have bb:=Xa (cr.out S a8 (fun E ht x M=>by have ci:E∈d.getD b []:=ht;rw[bd.out]at ci;exact b3 E ci x M));have db:=Xa (Vo n (fun i _=>Vl _ (fun x M=>a8 i x M)));clear a8 b3;by_cases ce:q+1=R.length
       ·have eg:(((q:Int)+1)==(R.length:Int))=true:=by simp;omega
        have cq:Hid (ClQ T K (fun b=>d.getD b []) S R R.length (p+1)):=Xa (by rw[<-ce];exact bb);clear ce
        go_wp2
        go_end0
        refine⟨rfl,⟨j.os.trans f.os,j.tape.trans f.tape,j.output.trans f.output,aJ f.size j.size,fun o y J=>(j.block o (aX y f.size) J).trans (f.block o y)⟩,S,a2,k,fun b _ x M=>?_⟩;exact We ax a0 (fun b hb E ht x M y J=>qo cq oM ((a4 b).2 hb) E ht x M y J) b x M
       ·have eg:(((q:Int)+1)==(R.length:Int))=false:=by simp;omega
        go_wp2
        exact⟨⟨q+1,p+1,S,gM,oM,gM,oM,j,k,a2,Xa (by rw[db.out];rcases HM.out with m | ⟨m,h'⟩;exact bC m;exact aZ ⟨m,oM⟩),ax,a0,bb⟩,by simp[intOf];omega⟩
   ·have ef:p=R.length:=oM
    subst ef
    go_wp2_with fail
    go_roundg (JI W K n)
    case measure=>rcases HM.out with m | ⟨_,m⟩;exact m;omega
    case rel=>exact⟨q,W,rfl,hq,C,HS,F,Xa (aA _),bi,bo,Xa (pf HC hq)⟩
structure PuI(w2 wr:World)(G n K:Nat)(gs:Nat->Nat)(Ws:Nat->Nat->Nat)(E:List (Nat × Nat)):Prop where
 sets:XK wr G n K gs (fun _=>K) Ws
 wd:XQ Ws
 fr:U8 w2 wr n gs
 has:∀b,b<n->∀v,Xh (Ws b) v=true↔(b,v)∈E
def PuE(c wr:World)(G n K:Nat)(b:Nat->Nat)(E:List (Nat × Nat)):Prop:=∃a,PuI c wr G n K b a E
theorem PuI.below{wr:World}{E:List (Nat × Nat)}(h:PuI w wr n m k f M E)(a:Below wr.heap.size wr v):PuI w v n m k f M E:=⟨h.sets.keep a,h.wd,h.fr.below a,h.has⟩
theorem PuE.below{wr:World}{E:List (Nat × Nat)}(h:PuE w wr n m k f E)(b:Below wr.heap.size wr v):PuE w v n m k f E:=by
 obtain⟨a,h⟩:=h;exact⟨a,h.below b⟩
theorem PuI.add{wr:World}{E:List (Nat × Nat)}(h:PuI w wr n m k f M E)(c:B<m)(d:wr.grownBy v (some (f B)))(j:WsAt v (f B) k k (addsN (M B) [g])):PuI w v n m k f (fun i=>if i=B then addsN (M B) [g]else M i) (E++[(B,g)]):=by
 refine⟨h.sets.wrote c d j,fun i=>?_,h.fr.grown d c,fun b a x=>?_⟩
 ·by_cases e:i=B
  ·simp only[aU e];exact Zs _ (h.wd B)
  ·simp only[aM e];exact h.wd i
 ·by_cases e:b=B
  ·subst e
   simp only[gG,bU,cS,jC,true_and];rw[YR,dI,bD,cS,h.has b a x];exact or_comm
  ·simp only[aM e,bU,cS,jC]
   rw[h.has b a x];exact⟨bC,fun h=>h.elim id (fun h=>absurd h.1 e)⟩
theorem yF{xs:List Xe}(h:n<xs.length):phE xs (n+1)=phE xs n++phT xs n xs[n].ps:=by
 unfold phE;rw[dN,eZ];simp[phB,h]
theorem xP{xs:List Xe}{t:Nat}{a:List Ph}(h:n<a.length):phT xs t (a.take (n+1))=phT xs t (a.take n)++(XX xs xs.length t).zip (X9 a[n].args):=by
 unfold phT;rw[X7 _ _ h,eZ];simp
theorem sI(V:Nat)(x:Option Addr)(n y:Nat)(a:List Xe)(M B:Nat)(w:World)(ha:Hid (Xp w M B x a))(r:Hid (n=a.length))(hB:B<=w.heap.size)(A:Hid (Jy V a)) :
 Calls prog 76 #[.agg #[.int .i64 (V:Int),.slice x n y]] w fun h w'=>∃G f v,h=.returned (.slice (some ⟨G,0,none⟩) n n)/\w.heap.size<=G/\Below w.heap.size w w'/\XK w' G n ((V+63) / 64) f (fun _=>(V+63) / 64) v/\(∀i,i<n->w.heap.size<=f i)/\XQ v/\∀b,b<n->∀ab,Xh (v b) ab=true↔(b,ab)∈phE a n:=by
 have hn:n<=1000:=oP r.out A.okf.n2
 have hV:=A.vle;have aj:=Xa (fun W=>Ti n V W hn oM);have ax:=Xa (fun W (d:Below w.heap.size w W)=>KF (V:Int) x n y a M B W (Xa (ha.keep (d.mono hB))) r oM (oN d.size) (Xa (by rw[r.out];exact A.okf.ok)));have hK:(V+63) / 64<=32:=oM;have cj:V<=64*((V+63) / 64):=oM;generalize (V+63) / 64=K at *
 go_in
 go_wp2_with fail
 refine(aj _).mono ?_;rintro h R ⟨G,f,rfl,hG,N,P,a6⟩;have ad:Hid (Below w.heap.size w (w.alloc (.cells #[.int .i64 (V:Int),.slice x n y] 25))):=Xa (Xb (Below.refl _ _) _);have q0:=(N.cell (p:=⟨w.heap.size,0,none⟩) (by show w.heap.size<_;simp)).trans (by simp[go_sem]:(w.alloc (.cells #[.int .i64 (V:Int),.slice x n y] 25)).cell? ⟨w.heap.size,0,none⟩=some (.int .i64 (V:Int)));have q1:=(N.cell (p:=⟨w.heap.size,1,none⟩) (by show w.heap.size<_;simp)).trans (by simp[go_sem]:(w.alloc (.cells #[.int .i64 (V:Int),.slice x n y] 25)).cell? ⟨w.heap.size,1,none⟩=some (.slice x n y));have J:=Xa (Xg ad N);have ay:=Xa P;have ch:w.heap.size<G:=by simp at hG;omega
 have t:Hid (∀i,i<n->w.heap.size<f i/\f i<R.heap.size):=Xa (fun i g=>⟨by have:=a6 i g;simp at this;omega,(P.set i g).lt⟩);have ci:=P.row.lt;have cv:=J.size;have cd:w.heap.size<R.heap.size:=oM;have al:=Xa (ax.out R J);clear N P a6 hG aj ax ad
 go_wp2_with fail
 refine al.mono ?_;rintro h o ⟨cf,rfl,E,bc⟩;have s:=Xa (Xg J E);have bw:=Xa bc.ints;have bp:Hid (PuE o o G n K f []):=Xa ⟨_,ay.keep E,fun _=>fun _=>vY,U8.refl _ _ _,fun b _ ab=>by simp[Z3]⟩;have cz:=oB E q1 cd;have cw:=E.size;clear E bc al ay q0 q1 J;have bm:=Xa (ha.keep (s.mono hB))
 go_wp2
 go_loopw [22] (fun i wr=>∃k:Nat,k<=n/\i=.int .i64 k/\Hid (PuE o wr G n K f (phE a k))) (fun i _=>n-(intOf i).toNat)
 case atStart=>exact⟨0,aN _,rfl,bp⟩
 case round =>
  obtain⟨k,hk,rfl,c⟩:=hrel;by_cases ca:k<n
  ·have O:k<a.length:=oN r.out
   obtain⟨b,cx,rfl,a3,hc⟩:=bm k O;have l:=c.elim (fun _ T=>T.fr);have p:Hid (YA M B o wr):=Xa (fun i C D=>l.block i oM (fun j z h=>by have:=t j z;omega));obtain⟨pa,pc,ia,ic,e0,e1,⟨e2,e3,e4,e5⟩,ba,_⟩:=hc.keepS p (p b a3.1 a3.2);have ar:=Xa ba;have bs:=Xa (yF (xs:=a) O);have bt:=Xa (A.pha k O);have aq:=Xa (K9 (fun ce r I ht=>(A.okf.tgt ce r I ht).1) k);have F:=(A.lens a[k] (aH O)).2;clear hc ba l;generalize a[k]=X at *
   go_wp2_with fail
   have bq:Hid (PuE o (wr.alloc (.cells #[.slice pa X.ps.length pc,.slice ia X.is.length ic,.int .i64 X.te.kind,.int .i64 X.te.a,.int .i64 X.te.to,.int .i64 X.te.els] 90)) G n K f (phE a k)):=Xa (c.below (Xb (Below.refl _ _) _));have bv:=Xa (ar.keepS (fun i C D=>(p i C D).symm));clear ar p e0 e1 e2 e3 e4 e5 c;generalize wr=wo at *
   go_loopw [30] (fun i wr=>∃j:Nat,j<=X.ps.length/\i=.int .i64 j/\Hid (PuE o wr G n K f (phE a k++phT a k (X.ps.take j)))) (fun i _=>X.ps.length-(intOf i).toNat)
   case atStart=>exact⟨0,aN _,rfl,Xa (by rw[show phE a k++phT a k (X.ps.take 0)=phE a k by simp[phT]];exact bq)⟩
   case round =>
    obtain⟨j,z,rfl,c⟩:=hrel;by_cases Y:j<X.ps.length
    ·have l:=c.elim (fun _ T=>T.fr)
     have p:Hid (YA M B o wr):=Xa (fun i C D=>l.block i oM (fun j z h=>by have:=t j z;omega));obtain⟨b2,o2,rfl,cl,ap,cp,f0,f1,a1⟩:=(bv.keepS p) j Y;have bn:=Xa (a1.keepS (fun i C D=>(p i C D).symm));have bz:=Xa (xP (xs:=a) (t:=k) Y);obtain⟨az,a2⟩:=bt X.ps[j] (aH Y);have bo:=Xa a2;clear l a1 a2;generalize X.ps[j]=e at *;have cs:(XX a a.length k).length<=n:=oP (m9 (xs:=a) (n:=a.length) (b:=k)) r.out
     have a0:e.args.length=(XX a a.length k).length:=by rw[az,aq.out];simp[Xi]
     have ac:=Xa a0;have ck:e.args.length<=1000:=oM;clear az a0
     go_wp2_with fail
     have br:Hid (PuE o (wr.alloc (.cells #[.int .i64 e.dst,.slice ap e.args.length cp] 96)) G n K f (phE a k++phT a k (X.ps.take j))):=Xa (c.below (Xb (Below.refl _ _) _));clear c f0 f1 p;generalize wr=c6 at *
     go_loopw [37] (fun i wr=>∃q:Nat,q<=e.args.length/\i=.int .i64 q/\Hid (PuE o wr G n K f (phE a k++phT a k (X.ps.take j)++((XX a a.length k).zip (X9 e.args)).take q))) (fun i _=>e.args.length-(intOf i).toNat)
     case atStart=>exact⟨0,aN _,rfl,Xa (by rw[lK,fF];exact br)⟩
     case round =>
      obtain⟨q,hq,rfl,c⟩:=hrel;by_cases a8:q<e.args.length
      ·obtain⟨v,d⟩:=c.out
       have l:=d.fr;obtain⟨b3,o3,rfl,cq,r0⟩:=bn q a8;have bi:=(Xc (l.block b3 oM (fun i g h=>by have:=t i g;omega))).trans r0;obtain⟨b4,o4,e4,b6,a4,c4,r1,U⟩:=bw k (by simpa using ca);injection e4 with e4;injection e4 with e5 e6;subst e5;subst e6;have Q:=(Xc (l.block (R.heap.size+1) b6.2 (fun i g h=>by have:=t i g;omega))).trans r1;simp only[cM,dW,aq.out]at Q U;have Z:q<(XX a a.length k).length:=oN ac.out
       obtain⟨b5,o5,e7,b7,r2⟩:=U q (by simpa [Xi]using Z);subst e7;have bl:=(Xc (l.block b5 b7.2 (fun i g h=>by have:=t i g;omega))).trans r2;have bb:(Xi (XX a a.length k))[q]'(by simpa [Xi]using Z)=(((XX a a.length k)[q]:Nat):Int):=by simp[Xi]
       rw[bb]at bl;have F:(XX a a.length k)[q]<n:=oP ((Uf.1 (aH Z)).1) r.out
       have aa:=bo e.args[q] (aH a8);have u:Hid (((XX a a.length k).zip (X9 e.args)).take (q+1)=((XX a a.length k).zip (X9 e.args)).take q++[((XX a a.length k)[q],e.args[q].toNat)]):=Xa (by
        rw[X7 _ _ (by simp[X9];omega)];simp[X9])
       obtain⟨m,bf⟩:=bX aa.1;rw[bf]at bi aa u;simp only[dM]at u;have a7:(Xi (XX a a.length k)).length=(XX a a.length k).length:=by simp[Xi]
       rw[a7,aV]at Q;have a9:=ac.out;rw[<-a9]at Q;have L:=Xa d;clear d l r0 r1 r2 U bb bf c a9 a7;generalize (XX a a.length k)[q]=H at *;have b1:=L.sets.row.cell F;have ct:m<V:=oM;clear aa
       go_wp2_with fail
       have S:=Xa (L.below (Xb (Below.refl _ _) (.cells #[.int .i64 (m:Int)] 42)));have cr:=(L.sets.set H F).lt;have cc:wr.heap.size+1<=(wr.alloc (.cells #[.int .i64 (m:Int)] 42)).heap.size:=sP;have af:Hid (Xf (wr.alloc (.cells #[.int .i64 (m:Int)] 42)) wr.heap.size (wr.heap.size+1) (some ⟨wr.heap.size,0,none⟩) ([m].map Int.ofNat)):=Xa (UY wr m _);have bx:∀I∈[m],I<64*K:=fun I ht=>by
        have h:I=m:=by simpa using ht
        omega
       refine(ZG (f H) K K 1 1 (v H) _ [m] wr.heap.size (wr.heap.size+1) _ af (Xa rfl) oM (Xa bx) oM (Xa (L.wd H)) (Xa (S.sets.set H F)) cc oM).mono ?_;rintro h w5 ⟨rfl,a5,bd⟩;have b0:=Xa (S.add F a5 bd);clear a5 bd S af b1 bi Q bl
       go_wp2
       exact⟨⟨q+1,oM,gM,Xa ⟨_,by rw[u.out,<-cK];exact b0⟩⟩,by simp[intOf];omega⟩
      ·have cb:q=e.args.length:=oM
       have u:Hid (((XX a a.length k).zip (X9 e.args)).take q=(XX a a.length k).zip (X9 e.args)):=Xa (aW (by simp[X9];omega));rw[u.out]at c;clear cb
       go_wp2
       exact⟨⟨j+1,oM,gM,Xa (by rw[bz.out,<-cK];exact c)⟩,by simp[intOf];omega⟩
    ·have b8:j=X.ps.length:=oM
     have u:Hid (X.ps.take j=X.ps):=Xa (aW oM);rw[u.out]at c;clear b8
     go_wp2
     exact⟨⟨k+1,oM,gM,Xa (by rw[bs.out];exact c)⟩,by simp[intOf];omega⟩
  ·have b9:k=n:=oM
   subst b9;go_wp2
   go_ret
   obtain⟨v,d⟩:=c.out;refine⟨G,f,v,rfl,oM,⟨d.fr.os.trans s.os,d.fr.tape.trans s.tape,d.fr.output.trans s.output,aJ s.size d.fr.size,fun i g=>(d.fr.block i (oN s.size) (fun j z h=>by have:=t j z;omega)).trans (s.block i g)⟩,d.sets,fun i g=>by have:=t i g;omega,d.wd,d.has⟩
end Go.Proofs.YtghnlncgiihhgaaGreatDoor
