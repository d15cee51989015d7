import Derived.Test.YtghnlncgiihhgaaGreatDoorW2
import Derived.Deep.LoopGhost
import Derived.WalkMore
import Derived.RangeFuncNested
import Derived.RangeFuncBound
import Derived.RangeFuncCalls
import Derived.RangeFuncLeaves
import Derived.Shelf.Abstract
import Derived.Shelf.RegionOpen
import Derived.OwnWalkIn
import Derived.TacticsInMore
import Derived.LoopNIn
import Derived.LoopIn
namespace Go.Proofs.YtghnlncgiihhgaaGreatDoor
set_option maxHeartbeats 4000000
set_option maxRecDepth 100000
open Go.RowKit Go.Proofs.Tryz Go.Shelf
variable{l:List Int}{s:List Nat}{y:List Value}{n m k B:Nat}{f F:Nat->Nat}{M:Nat->Nat->Nat}{a:Value}{w v u:World}
structure U8(w w':World)(n:Nat)(gs:Nat->Nat):Prop where
 os:w'.os=w.os
 tape:w'.tape=w.tape
 output:w'.output=w.output
 size:w.heap.size<=w'.heap.size
 block:∀k,k<w.heap.size->(∀i,i<n->k≠gs i)->w'.heap[k]?=w.heap[k]?
theorem U8.refl(w:World)(n:Nat)(a:Nat->Nat):U8 w w n a:=⟨rfl,rfl,rfl,aA _,fun _ _ _=>rfl⟩
theorem U8.below(h:U8 w v n f)(k:Below v.heap.size v u):U8 w u n f:=⟨k.os.trans h.os,k.tape.trans h.tape,k.output.trans h.output,aJ h.size k.size,fun j a b=>(k.block j (aX a h.size)).trans (h.block j a b)⟩
theorem U8.grown{b:Nat}(h:U8 w v n f)(k:v.grownBy u (some (f b)))(d:b<n):U8 w u n f:=⟨k.os.trans h.os,k.tape.trans h.tape,k.output.trans h.output,aJ h.size k.size,fun j a c=>(k.block j (aX a h.size) (fun e=>c b d (by injection e))).trans (h.block j a c)⟩
theorem Ye.keep{w':World}(h:Ye w n m k f M)(b:Below w.heap.size w w'):Ye w' n m k f M :=
 ⟨h.row.of_block (b.block _ h.row.lt),fun i a=>(h.set i a).of_block (b.block _ (h.set i a).lt),h.inj,h.out⟩
theorem Ye.wrote{b:Nat}(h:Ye w n m k f M)(c:b<m)(d:w.grownBy v (some (f b)))(g:v.rowIs (f b) 114 k (fun j=>.int .u64 (F j))):Ye v n m k f (fun i=>if i=b then F else M i):=by
 refine⟨h.row.of_block (d.block _ h.row.lt (fun e=>h.out b c (by injection e with e;exact e.symm))),fun i a=>?_,h.inj,h.out⟩;by_cases e:i=b
 ·subst e
  simpa using g
 ·simp only[aM e]
  exact(h.set i a).of_block (d.block _ (h.set i a).lt (fun e2=>e (by injection e2 with e2;exact h.inj i b a c e2)))
theorem Ye.apart(h:Ye w n m k F M)(b:U8 w v m f)(c:∀i,i<m->n≠f i)(d:∀i j,i<m->j<m->F i≠f j):Ye v n m k F M :=
 ⟨h.row.of_block (b.block _ h.row.lt c),fun i a=>(h.set i a).of_block (b.block _ (h.set i a).lt (fun j e=>d i j a e)),h.inj,h.out⟩
def Xi(l:List Nat):List Int:=l.map Int.ofNat
theorem rP(H M h c0:Nat)(a:List Nat)(L1 B1:Nat)(sa:Option Addr)(ns cs:Nat)(d:List (List Nat))(L2 B2:Nat)(G B n K:Nat)(c U:Nat->Nat)(I T:Nat->Nat->Nat)(w:World)
 (b9:Hid (Xf w L1 B1 (some ⟨H,M,none⟩) (Xi a))) (h0:Hid (h=a.length)) (b6:h<=1000) (e0:0<h) (ei:Hid (XR w L2 B2 sa (d.map Xi))) (hs:Hid (ns=d.length)) (eb:Hid (d.length=n)) (hK:K<=100)
 (bt:B1<=w.heap.size) (el:B2<=w.heap.size) (HI:Hid (Ye w G n K c I)) (HT:Hid (Ye w B n K U T)) (ej:Hid (XQ I)) (aa:Hid (XQ T))
 (d2:Hid (∀i,i<n->¬(L2<=c i/\c i<B2))) (d3:Hid (∀i,i<n->B≠c i)) (d4:Hid (∀i cf,i<n->cf<n->U i≠c cf))
 (ho:Hid (∀b∈a,b<n)) (eg:Hid (∀ch∈d,ch.length<=2000/\∀E∈ch,E<n)) :
 Calls prog 122 #[.slice (some ⟨H,M,none⟩) h c0,.slice sa ns cs,.slice (some ⟨G,0,none⟩) n n,.slice (some ⟨B,0,none⟩) n n] w fun e y=>e=.returned (.tuple #[])/\U8 w y n c/\∃Ws,XQ Ws/\Ye y G n K c Ws/\∀b,b<n->∀x,x<64*K->(Xh (Ws b) x=true↔Sp I T (·∈a) (fun b=>d.getD b []) b x):=by
 go_in
 go_wp2_with fail
 go_step3
 go_wp2_with fail
 refine(kw H M h c0 (Xi a) L1 B1 w b9 (Xa (by have:=h0.out;simp[Xi];omega)) oM bt).mono ?_;rintro e w1 ⟨v1,rfl,bx,ea,a5⟩;obtain⟨P,A,rfl,b1,ey⟩:=Xm a5 (by have:=h0.out;simp[Xi];omega);have ap:=Xa bx;have ax:=Xa a5;have V:(Xi a).length=h:=by have:=h0.out;simp[Xi];omega
 rw[V]at ax;clear bx a5 ea
 go_wp2_with fail
 have ev:=b1.2;have eu:=b1.1;refine(TM P h A w.heap.size (Xi a) w1 oM (Xa V.symm) ax).mono ?_;rintro e t ⟨rfl,b2,b8⟩;have a9:=Xa (ap.grown b2 ap.size (fun s e=>by cases e;omega));have bi:=Xa b8;clear b2 b8 ax ap
 go_wp2_with fail
 have af:Hid (Below t.heap.size t (t.alloc (.cells #[.slice (some ⟨H,M,none⟩) h c0,.slice (some ⟨P,0,none⟩) h A] 27))):=Xa (Xb (Below.refl _ _) _);have al:(t.alloc (.cells #[.slice (some ⟨H,M,none⟩) h c0,.slice (some ⟨P,0,none⟩) h A] 27)).cell? ⟨t.heap.size,0,none⟩=some (.slice (some ⟨H,M,none⟩) h c0):=sP;have ca:(t.alloc (.cells #[.slice (some ⟨H,M,none⟩) h c0,.slice (some ⟨P,0,none⟩) h A] 27)).cell? ⟨t.heap.size,1,none⟩=some (.slice (some ⟨P,0,none⟩) h A):=sP;generalize t.alloc _=wa at *;have ac:=Xa (Xg a9 af);have D:(Xi a).reverse.length=h:=by rw[jQ];exact V
 have bd:Hid (Xf wa w.heap.size t.heap.size (some ⟨P,0,none⟩) (Xi a).reverse):=Xa (by
  have m:=bi.out;rw[<-D]at m;obtain⟨a',c',e',d5⟩:=Xk m;injection e' with e1;subst e1;exact d5.keep af)
 refine(Wb t.heap.size h c0 h A _ _ (Xi a) (Xi a).reverse L1 B1 w.heap.size t.heap.size wa (Xa (b9.keep (ac.mono bt))) bd (Xa V.symm) (Xa D.symm) b6 b6 oM (oN ac.size) af.size al ca).mono ?_;rintro e w3 ⟨v3,rfl,a4,a6⟩;have f:=Xa (Xg ac a4);have eR:Xi a++(Xi a).reverse=Xi (a++a.reverse):=by simp[Xi]
 rw[eR]at a6;have du:(a++a.reverse).length=2*h:=by have:=h0.out;simp;omega
 have a2:Hid (∀b,b∈a++a.reverse↔b∈a):=Xa (fun b=>sP);generalize a++a.reverse=R at *;have b7:(Xi R).length=R.length:=by simp[Xi]
 obtain⟨a3,c3,e3,b3⟩:=Xk a6;rw[b7]at e3;subst e3;have cw:=Xa b3;have dk:Hid (wa.heap.size<=w3.heap.size/\w.heap.size<=wa.heap.size):=Xa ⟨a4.size,ac.size⟩;clear a4 a6 eR al ca bd af bi a9 b3;have dc:=Xa (HI.keep (f));have df:=Xa (HT.keep (f));have bv:0<R.length:=oM;have em:R.length<=2000:=oM;clear du V D b7;have cr:=Xa (fun i z=>(HI.set i z).lt)
 go_wp2_with fail
 go_step3
 go_wp2
 go_loopg [10] (JI I K n) (fun s qv wr=>∃(q:Nat)(W:Nat->Nat->Nat),qv=.int .i64 q/\q<R.length/\Hid (U8 w3 wr n c)/\Hid (Ye wr G n K c W)/\Hid (XQ W)/\Hid (JI W K n<=s)/\Hid (∀b x,Xh (I b) x=true->Xh (W b) x=true)/\Hid (∀b x,Xh (W b) x=true->Sp I T (·∈a) (fun b=>d.getD b []) b x)/\Hid (ClQ T K (fun b=>d.getD b []) W R q 0))
 case atStart=>exact⟨0,I,rfl,bv,Xa (U8.refl _ _ _),dc,ej,Xa (aA _),Xa (fun _ _ m=>m),Xa (fun _ _ m=>Sp.init m),Xa Vz⟩
 case round =>
  obtain⟨q0,W0,rfl,al,cl,db,dj,cz,cv,dd,ci⟩:=hrel
  go_wp2_with fail
  generalize wr=wo at *
  go_loopw [10,26] (fun qv N wr=>∃(q p:Nat)(W:Nat->Nat->Nat),qv=.int .i64 q/\q<R.length/\N=.int .i64 p/\p<=R.length/\Hid (U8 w3 wr n c)/\Hid (Ye wr G n K c W)/\Hid (XQ W)/\Hid (JI W K n<gk\/(JI W K n<=gk/\q=q0+p))/\Hid (∀b x,Xh (I b) x=true->Xh (W b) x=true)/\Hid (∀b x,Xh (W b) x=true->Sp I T (·∈a) (fun b=>d.getD b []) b x)/\Hid (ClQ T K (fun b=>d.getD b []) W R q p)) (fun _ N _=>R.length-(intOf N).toNat)
  case atStart=>exact⟨q0,0,W0,rfl,al,rfl,aN _,cl,db,dj,Xa (aZ ⟨cz,oM⟩),cv,dd,ci⟩
  case round =>
   obtain⟨q,p,W,rfl,hq,rfl,hp,C,HS,F,HM,bf,bn,HC⟩:=hrel;by_cases X:p<R.length
   ·obtain⟨br,e6,rfl,d1,bq⟩:=cw p (by simpa [Xi]using X)
    have cp:Hid (U8 w wr n c):=Xa ⟨C.os.trans f.os,C.tape.trans f.tape,C.output.trans f.output,aJ f.size C.size,fun s u J=>(C.block s (aX u f.size) J).trans (f.block s u)⟩;have er:=(Xc (C.block br d1.2 (fun i z e=>by have:=cr i z;have:=dk.out;omega))).trans bq;have bw:(Xi R)[p]'(by simpa [Xi]using X)=((R[p]:Nat):Int):=by simp[Xi]
    rw[bw]at er;have l:=ho _ ((a2 _).1 (aH X));have d0:=Xa ((a2 _).1 (aH X));have aj:R[p]<d.length:=oN eb.out
    obtain⟨bs,os,ef,eq,dl,ek,es,b4⟩:=ei R[p] (by simpa using aj);subst ef;have dn:=(Xc (cp.block bs oM (fun i z e=>d2 i z oM))).trans es;have cc:((d.map Xi)[R[p]]'(by simpa using aj)).length=d[R[p]].length:=by simp[Xi]
    rw[cc]at dn;have bm:=Xa (eg.out d[R[p]] (aH aj));have ez:=bm.1;have bc:Hid (d.getD R[p] []=d[R[p]]):=Xa (by simp[aj]);have ck:Hid (∀W',(∀i x,x<64*K->Xh (W' i) x=Xh (W i) x)->ClB T K (fun b=>d.getD b []) W R[p]->ClQ T K (fun b=>d.getD b []) W' R (q+1) (p+1)):=Xa (fun W' e hb=>pG HC e X hb);have et:R[p]<ns:=oN hs.out
    have cx:Hid (Xf w L2 B2 dl (Xi d[R[p]])):=Xa (by simpa using b4);clear bq es b4 bw cc;generalize dw:R[p]=b at *;clear dw;generalize d[b]=g at *
    go_wp2_with fail
    generalize wr=e7 at *
    go_loopw [13,35] (fun gv N wq=>∃r:Nat,r<=g.length/\N=.int .i64 r/\gv=.bool (takesN T K b (g.take r) (W,false)).2/\Hid (U8 w3 wq n c)/\Hid (Ye wq G n K c (takesN T K b (g.take r) (W,false)).1)) (fun _ N _=>g.length-(intOf N).toNat)
    case atStart=>exact⟨0,aN _,rfl,rfl,C,HS⟩
    case round =>
     obtain⟨r,hr,rfl,rfl,j,k⟩:=hrel;by_cases D:r<g.length
     ·have cq:Hid (U8 w wr n c):=Xa ⟨j.os.trans f.os,j.tape.trans f.tape,j.output.trans f.output,aJ f.size j.size,fun s u J=>(j.block s (aX u f.size) J).trans (f.block s u)⟩
      obtain⟨b5,o5,rfl,ep,bp⟩:=cx r (by simpa [Xi]using D);have e5:=(Xc (cq.block b5 oM (fun i z e=>d2 i z oM))).trans bp;have cd:(Xi g)[r]'(by simpa [Xi]using D)=((g[r]:Nat):Int):=by simp[Xi]
      rw[cd]at e5;have a8:=bm.2 _ (aH D);have a0:=Xa (df.apart j d3 d4);have ad:=Xa (lm (T:=T) (K:=K) (b:=b) D (W,false));have bo:=Xa (TG (T:=T) (K:=K) (b:=b) (g.take r) (W,false) F);clear bp cd;generalize g[r]=v at *;generalize takesN T K b (g.take r) (W,false)=sq at *;obtain⟨S,gq⟩:=sq;dsimp only at *;have A:=k.row.cell l;have k2:=k.row.cell a8;have k3:=a0.row.cell l;have ab:=Xa (rK (c b) (c v) (U b) K (S b) (S v) (T b) wr.drew (Xa (bo.out b)) (Xa (bo.out v)) (Xa (aa.out b)) oM (Xa (k.set b l)) (Xa (k.set v a8)) (Xa (a0.set b l)) (d4 b b l l) (Xa (fun e=>by rw[k.inj v b a8 l e])));have bl:Hid (Ye wr.drew G n K c S):=Xa ⟨k.row,k.set,k.inj,k.out.out⟩;have bb:Hid (U8 w3 wr.drew n c):=Xa ⟨j.os,j.tape,j.output,j.size,j.block⟩;have O:Hid (G<wr.heap.size/\B<wr.heap.size):=Xa ⟨k.row.lt,a0.row.lt⟩;generalize grewN (S b) (S v) (T b) K=g5 at *;cases g5 with
      | true =>
       go_wp2_with fail
       refine Y7 (fun y=>y.cell? ⟨G,b,none⟩=some (.slice (some ⟨c b,0,none⟩) K K)/\y.cell? ⟨G,v,none⟩=some (.slice (some ⟨c v,0,none⟩) K K)/\y.cell? ⟨B,b,none⟩=some (.slice (some ⟨U b,0,none⟩) K K)) (fun hHeld=>?_);refine Xn 0 ?_;refine Xn 1 ?_;refine Xn 2 ?_;refine Xn 3 ?_;refine Xn 4 ?_;refine Xn 5 ?_;refine Xn 6 ?_;refine Xn 7 ?_;refine Xn 8 ?_;refine Xn 9 ?_;refine Xn 10 ?_;refine Xn 11 ?_;refine Xs 12 (fun K hK=>?_);go_simp
       go_at_call 124
       refine ab.mono ?_;rintro e w5 ⟨rfl,o,Y⟩;have ay:=Xa (bl.wrote l o Y);have aq:=Xa (bb.grown o l);have j1:=(Xc (o.block G O.1 (fun e=>k.out.out b l (by injection e with e;exact e.symm)))).trans A;have j2:=(Xc (o.block G O.1 (fun e=>k.out.out b l (by injection e with e;exact e.symm)))).trans k2;have j3:=(Xc (o.block B O.2 (fun e=>d3 b l (by injection e)))).trans k3;clear o Y ab;refine hK _ _ ⟨j1,j2,j3⟩ (fun hHeld=>?_);clear hK;refine Xn 13 ?_;refine KH 14 ?_;refine Xn 15 ?_;refine Xn 16 ?_;refine Yq ?_
       go_wp2
       exact⟨⟨r+1,oM,gM,by rw[ad.out];rfl,Xa aq.out,Xa (by rw[ad.out];exact ay)⟩,by simp[intOf];omega⟩
      | false =>
       go_wp2_with fail
       refine Y7 (fun y=>y.cell? ⟨G,b,none⟩=some (.slice (some ⟨c b,0,none⟩) K K)/\y.cell? ⟨G,v,none⟩=some (.slice (some ⟨c v,0,none⟩) K K)/\y.cell? ⟨B,b,none⟩=some (.slice (some ⟨U b,0,none⟩) K K)) (fun hHeld=>?_);refine Xn 0 ?_;refine Xn 1 ?_;refine Xn 2 ?_;refine Xn 3 ?_;refine Xn 4 ?_;refine Xn 5 ?_;refine Xn 6 ?_;refine Xn 7 ?_;refine Xn 8 ?_;refine Xn 9 ?_;refine Xn 10 ?_;refine Xn 11 ?_;refine Xs 12 (fun K hK=>?_);go_simp
       go_at_call 124
       refine ab.mono ?_;rintro e w5 ⟨rfl,o,Y⟩;have ay:=Xa (bl.wrote l o Y);have aq:=Xa (bb.grown o l);have j1:=(Xc (o.block G O.1 (fun e=>k.out.out b l (by injection e with e;exact e.symm)))).trans A;have j2:=(Xc (o.block G O.1 (fun e=>k.out.out b l (by injection e with e;exact e.symm)))).trans k2;have j3:=(Xc (o.block B O.2 (fun e=>d3 b l (by injection e)))).trans k3;clear o Y ab;refine hK _ _ ⟨j1,j2,j3⟩ (fun hHeld=>?_);clear hK;refine Xn 13 ?_;refine Xn 14 ?_;refine Xn 15 ?_;refine Xn 16 ?_;refine Yq ?_
       go_wp2
       exact⟨⟨r+1,oM,gM,by rw[ad.out];rfl,Xa aq.out,Xa (by rw[ad.out];exact ay)⟩,by simp[intOf];omega⟩
     ·have ee:r=g.length:=oM
      have di:Hid (g.take r=g):=Xa (aW oM);rw[di.out]at k |-;clear ee;have a1:=Xa (TG (T:=T) (K:=K) (b:=b) g (W,false) F);have c8:=Xa (JJ (T:=T) (K:=K) (b:=b) aa g (W,false) F);have az:=Xa (T9 (I:=I) (T:=T) (K:=K) (b:=b) (ord:=(·∈a)) (src:=fun b=>d.getD b []) aa d0 g (W,false) F (fun E Z=>by show E∈d.getD b [];rw[bc.out];exact Z) bn);have da:=Xa (T6 (T:=T) (K:=K) (b:=b) aa g (W,false) F);have ct:=Xa (UB (T:=T) (K:=K) (b:=b) aa g (W,false) F rfl);have c9:=Xa (fun i (z:i≠b)=>TN (T:=T) (K:=K) z g (W,false));generalize takesN T K b g (W,false)=sq at *;obtain⟨Q,ds⟩:=sq;dsimp only at *;have ar:=Xa (fun b x m=>c8 b x (bf b x m));cases ds with
      | true =>
       have c6:=Xa (ig (K:=K) c9 (ct rfl) n l)
       go_wp2
       exact⟨⟨0,p+1,Q,rfl,bv,gM,oM,j,k,a1,Xa (bC (by have:=c6.out;rcases HM.out with m | m<;>omega)),ar,az,Xa Vz⟩,by simp[intOf];omega⟩
      | false =>
       obtain⟨a7,bz⟩:=da rfl;have ba:=Xa (ck.out Q a7 (fun E Z x L=>by have ce:E∈d.getD b []:=Z;rw[bc.out]at ce;exact bz E ce x L));have c7:=Xa (Vo n (fun i _=>Vl _ (fun x L=>a7 i x L)));clear a7 bz;by_cases cb:q+1=R.length
       ·have ed:(((q:Int)+1)==(R.length:Int))=true:=by simp;omega
        have cj:Hid (ClQ T K (fun b=>d.getD b []) Q R R.length (p+1)):=Xa (by rw[<-cb];exact ba);clear cb
        go_wp2
        go_end0
        refine⟨rfl,⟨j.os.trans f.os,j.tape.trans f.tape,j.output.trans f.output,aJ f.size j.size,fun s u J=>(j.block s (aX u f.size) J).trans (f.block s u)⟩,Q,a1,k,fun b _ x L=>?_⟩;exact We ar az (fun b hb E Z x L u J=>qo cj oM ((a2 b).2 hb) E Z x L u J) b x L
       ·have ed:(((q:Int)+1)==(R.length:Int))=false:=by simp;omega
        go_wp2
        exact⟨⟨q+1,p+1,Q,gM,oM,gM,oM,j,k,a1,Xa (by rw[c7.out];rcases HM.out with m | ⟨m,h'⟩;exact bC m;exact aZ ⟨m,oM⟩),ar,az,ba⟩,by simp[intOf];omega⟩
   ·have ec:p=R.length:=oM
    subst ec
    go_wp2_with fail
    go_roundg (JI W K n)
    case measure=>rcases HM.out with m | ⟨_,m⟩;exact m;omega
    case rel=>exact⟨q,W,rfl,hq,C,HS,F,Xa (aA _),bf,bn,Xa (pf HC hq)⟩
def en(o:Option Nat):Int:=match o with
 | some a=>(a:Int)
 | none=>-1
def Uv(d:Nat->Nat)(b:Nat)(c:Option Nat)(a:Nat):Option Nat:=if a≠b/\(c=none\/∃k,c=some k/\d a > d k)then some a else c
theorem um{cnt:Nat->Nat}{b:Nat}(h:n<s.length):bestP cnt b (s.take (n+1))=Uv cnt b (bestP cnt b (s.take n)) s[n]:=by
 unfold bestP Uv;rw[bN h,dT];rfl
def idomP(a:List (List Nat))(b:Nat):Int:=en (bestP (fun c=>(a.getD c []).length) b (a.getD b []))
theorem xW{b:Nat}:∀(e:List Nat){a:Nat},bestP f b e=some a->a∈e:=fun e=>by
 have i:∀(l:List Nat)(d:Option Nat)(a:Nat),l.foldl (fun d a=>if a≠b/\(d=none\/∃k,d=some k/\f a > f k)then some a else d) d=some a->d=some a\/a∈l:=fun l=>by
  induction l with
  | nil=>intro d a h;exact bC h
  | cons j l g =>
   intro d a h;rw[iM]at h;rcases g _ a h with c | c
   ·split at c
    ·injection c with c
     exact aZ (by rw[c];exact cI)
    ·exact bC c
   ·exact aZ (cN _ c)
 intro a h;rcases i e none a h with c | c
 ·cases c
 ·exact c
theorem yI(h:w.ownsRow n m k a B y)(e:v.heap=w.heap):v.ownsRow n m k a B y:=by
 unfold World.ownsRow at *;rw[e];exact h
theorem vK(F:Option Addr)(n dc:Nat)(a:List (List Nat))(W B:Nat)(w:World)(hd:Hid (XR w W B F (a.map Xi)))(L:Hid (n=a.length))(hn:n<=1000)(hB:B<=w.heap.size)(K:Hid (∀al∈a,al.length<=1000/\∀d∈al,d<n)) :
 Calls prog 66 #[.slice F n dc] w fun q m=>∃z,q=.returned z/\Below w.heap.size w m/\m.ownsRow w.heap.size 2 1 z n (((List.range n).map (idomP a)).map (Value.int .i64)):=by
 obtain⟨i0,a6,a9,ba,bb⟩:=Xq Tryz.info2'
 go_in
 go_wp2
 go_loopw [3,4] (fun z u wr=>∃b:Nat,b<=n/\u=.int .i64 b/\Hid (Below w.heap.size w wr)/\Hid (wr.ownsRow w.heap.size 2 1 z b (((List.range b).map (idomP a)).map (Value.int .i64)))) (fun _ u _=>n-(intOf u).toNat)
 case atStart=>exact⟨0,aN _,rfl,Xa (Xb (Below.refl _ _) _),Xa (by
  have:=eI (base:=w.heap.size) (e:=2) (size:=1) w #[] 0 sP sP rfl;simpa using this)⟩
 case round =>
  obtain⟨b,hb,rfl,Q,U⟩:=hrel;by_cases bp:b<n
  ·have I:b<a.length:=oN L.out
   have A:Hid (∀t (l:t<a.length),∃f h i p,F=some ⟨f,h,none⟩/\f<B/\w.cell? ⟨f,h+t,none⟩=some (.slice i a[t].length p)/\Xf w W B i (Xi a[t])):=Xa (fun t l=>by
    obtain⟨f,h,q,aa,i,p,e1,e2⟩:=hd t (by simpa using l);have e3:(a.map Xi)[t]'(by simpa using l)=Xi a[t]:=sP;rw[e3]at e1 e2;exact⟨f,h,i,p,q,aa.2,by rw[e1];simp[Xi],e2⟩)
   obtain⟨f,h,ab,cb,rfl,aa,G,y⟩:=A b I;have T:Hid (∀t (l:t<a.length),∃i p,w.cell? ⟨f,h+t,none⟩=some (.slice i a[t].length p)):=Xa (fun t l=>by
    obtain⟨bc,br,i,p,q,_,e1,_⟩:=A t l;injection q with q;injection q with e4 e5;subst e4 e5;exact⟨i,p,e1⟩)
   have C:=Xa (K.out a[b] (aH I));have bo:=C.1;have ay:=Xa y;have ax:Hid (a.getD b []=a[b]):=Xa (by simp[I]);have ar:=Xa G;clear y G A;generalize a[b]=e at *
   go_wp2_with fail
   generalize wr=wo at *
   go_loopw [5,6] (fun Z u wq=>∃j:Nat,j<=e.length/\u=.int .i64 j/\Z=.int .i64 (en (bestP (fun d=>(a.getD d []).length) b (e.take j)))/\Hid (Below w.heap.size w wq)/\Hid (wq.heap=wo.heap)) (fun _ u _=>e.length-(intOf u).toNat)
   case atStart=>exact⟨0,aN _,rfl,rfl,Q,Xa rfl⟩
   case round =>
    obtain⟨j,hj,rfl,rfl,g,s⟩:=hrel;have G:=(XU g oM).trans ar;by_cases x:j<e.length
    ·obtain⟨Z,ov,rfl,bi,ev⟩:=ay j (by simpa [Xi]using x)
     have ej:=(XU g oM).trans ev;have e3:(Xi e)[j]'(by simpa [Xi]using x)=((e[j]:Nat):Int):=by simp[Xi]
     rw[e3]at ej;have bf:=C.2 e[j] (aH x);have v:=Xa (um (cnt:=fun d=>(a.getD d []).length) (b:=b) x);have aq:Hid (∀k,bestP (fun d=>(a.getD d []).length) b (e.take j)=some k->k<n):=Xa (fun k l=>C.2 k (iO (xW _ l)));clear ev e3;generalize e[j]=c at *;generalize bestP (fun d=>(a.getD d []).length) b (e.take j)=E at *;have H:c<a.length:=oN L.out
     obtain⟨X,c1,h1⟩:=T c H;have e1:=(XU g oM).trans h1;have R:Hid ((a.getD c []).length=a[c].length):=Xa (by simp[H]);have bm:=(K a[c] (aH H)).1;clear h1;by_cases r:c=b
     ·have o:Hid (Uv (fun d=>(a.getD d []).length) b E c=E):=Xa (by unfold Uv;rw[aM (fun k=>k.1 r)])
      have q1:((c:Int)==(b:Int))=true:=by simp[r]
      have q2:((c:Int) != (b:Int))=false:=by simp[r]
      clear r e1
      go_wp2_with fail
      refine Y7 (fun _=>True) (fun hHeld=>?_);refine Xn 0 ?_;refine Xn 1 ?_;refine Xn 2 ?_;refine Xn 3 ?_;refine KH 4 ?_;refine KH 5 ?_;refine KH 6 ?_;refine KH 7 ?_;refine KH 8 ?_;refine KH 9 ?_;refine KH 10 ?_;refine KH 11 ?_;refine KH 12 ?_;refine KH 13 ?_;refine KH 14 ?_;refine KH 15 ?_;refine KH 16 ?_;refine KH 17 ?_;refine KH 18 ?_;refine KH 19 ?_;refine KH 20 ?_;refine Xn 21 ?_;refine Yq ?_
      go_wp2
      exact⟨⟨j+1,oM,gM,by rw[v.out,o.out],Xa g.drew,Xa s.out⟩,by simp[intOf];omega⟩
     ·have q1:((c:Int)==(b:Int))=false:=by simp;omega
      have q2:((c:Int) != (b:Int))=true:=by simp;omega
      cases E with
      | none =>
       have o:Hid (Uv (fun d=>(a.getD d []).length) b none c=some c):=Xa (by unfold Uv;rw[aU ⟨r,bC rfl⟩]);have D:Hid (en none=-1):=Xa rfl;rw[D.out];clear e1
       go_wp2_with fail
       refine Y7 (fun _=>True) (fun hHeld=>?_);refine Xn 0 ?_;refine Xn 1 ?_;refine Xn 2 ?_;refine Xn 3 ?_;refine Xn 4 ?_;refine Xn 5 ?_;refine Xn 6 ?_;refine KH 7 ?_;refine KH 8 ?_;refine KH 9 ?_;refine KH 10 ?_;refine KH 11 ?_;refine KH 12 ?_;refine KH 13 ?_;refine KH 14 ?_;refine KH 15 ?_;refine KH 16 ?_;refine KH 17 ?_;refine KH 18 ?_;refine KH 19 ?_;refine Xn 20 ?_;refine Xn 21 ?_;refine Yq ?_
       go_wp2
       exact⟨⟨j+1,oM,gM,by rw[v.out,o.out];rfl,Xa g.drew,Xa s.out⟩,by simp[intOf];omega⟩
      | some k =>
       have bl:=aq k rfl;have J:k<a.length:=oN L.out
       obtain⟨Y,c2,h2⟩:=T k J;have e2:=(XU g oM).trans h2;have S:Hid ((a.getD k []).length=a[k].length):=Xa (by simp[J]);have bn:=(K a[k] (aH J)).1;have D:Hid (en (some k)=(k:Int)):=Xa rfl;rw[D.out];clear h2;by_cases ad:a[c].length > a[k].length
       ·have o:Hid (Uv (fun d=>(a.getD d []).length) b (some k) c=some c):=Xa (by unfold Uv;rw[aU ⟨r,aZ ⟨k,rfl,by show(a.getD c []).length > (a.getD k []).length;rw[R.out,S.out];exact ad⟩⟩])
        generalize a[c].length=M at *;generalize a[k].length=N at *
        go_wp2_with fail
        refine Y7 (fun m=>m.cell? ⟨f,h+c,none⟩=some (.slice X M c1)/\m.cell? ⟨f,h+k,none⟩=some (.slice Y N c2)) (fun hHeld=>?_);refine Xn 0 ?_;refine Xn 1 ?_;refine Xn 2 ?_;refine Xn 3 ?_;refine Xn 4 ?_;refine Xn 5 ?_;refine Xn 6 ?_;refine Xn 7 ?_;refine Xn 8 ?_;refine Xn 9 ?_;refine Xn 10 ?_;refine Xn 11 ?_;refine Xn 12 ?_;refine Xn 13 ?_;refine Xn 14 ?_;refine Xn 15 ?_;refine Xn 16 ?_;refine Xn 17 ?_;refine Xn 18 ?_;refine Xn 19 ?_;refine Xn 20 ?_;refine Xn 21 ?_;refine Yq ?_
        go_wp2
        exact⟨⟨j+1,oM,gM,by rw[v.out,o.out];rfl,Xa g.drew,Xa s.out⟩,by simp[intOf];omega⟩
       ·have o:Hid (Uv (fun d=>(a.getD d []).length) b (some k) c=some k):=Xa (by
         unfold Uv;rw[aM (fun O=>by
          rcases O.2 with O | ⟨bt,P,q4⟩
          ·cases O
          ·injection P with P
           subst P;have q5:(a.getD c []).length > (a.getD k []).length:=q4;rw[R.out,S.out]at q5;exact ad q5)])
        generalize a[c].length=M at *;generalize a[k].length=N at *
        go_wp2_with fail
        refine Y7 (fun m=>m.cell? ⟨f,h+c,none⟩=some (.slice X M c1)/\m.cell? ⟨f,h+k,none⟩=some (.slice Y N c2)) (fun hHeld=>?_);refine Xn 0 ?_;refine Xn 1 ?_;refine Xn 2 ?_;refine Xn 3 ?_;refine Xn 4 ?_;refine Xn 5 ?_;refine Xn 6 ?_;refine Xn 7 ?_;refine Xn 8 ?_;refine Xn 9 ?_;refine Xn 10 ?_;refine Xn 11 ?_;refine Xn 12 ?_;refine Xn 13 ?_;refine Xn 14 ?_;refine Xn 15 ?_;refine Xn 16 ?_;refine Xn 17 ?_;refine Xn 18 ?_;refine Xn 19 ?_;refine Xn 20 ?_;refine Xn 21 ?_;refine Yq ?_
        go_wp2
        exact⟨⟨j+1,oM,gM,by rw[v.out,o.out];rfl,Xa g.drew,Xa s.out⟩,by simp[intOf];omega⟩
    ·have a7:j=e.length:=oM
     subst a7;have az:Hid (en (bestP (fun d=>(a.getD d []).length) b (e.take e.length))=idomP a b):=Xa (by unfold idomP;rw[gC,ax.out]);rw[az.out];have V:=Xa (yI U s);have bq:=g.size;have a3:Hid (((List.range (b+1)).map (idomP a)).map (Value.int .i64)=((List.range b).map (idomP a)).map (Value.int .i64)++[.int .i64 (idomP a b)]):=Xa (by rw[dN];simp);generalize idomP a b=y at *
     go_wp2_with (at_builtin;refine bT _ rfl _ _ 27 rfl w.heap.size 2 i0 (.int .i64 0) 1 8 underlying27 a6 a9 ba bb rfl vY _ _ _ rfl (V.alloc _) ⟨wr.heap.size,0,none⟩ 1 1 [.int .i64 y] rfl rfl ?c1 ?c2 ?c3 ?c4 ?c5 ?_)
     case c1=>exact Yf _ _ _
     case c2=>intro u hu;simp at hu;subst hu;rfl
     case c3=>unfold maxLen;omega
     case c4=>omega
     case c5=>simp;omega
     intro v8 w8 af ac a8 a4;have ap:=Xa (Xy (Below.alloc g oM _) ac (V.alloc _) (aA _) (by simp;omega));have a0:Hid (w8.ownsRow w.heap.size 2 1 v8 (b+1) (((List.range (b+1)).map (idomP a)).map (Value.int .i64))):=Xa (by rw[a3.out,jO];exact af);clear af ac a8 a4
     go_wp2
     exact⟨⟨b+1,oM,gM,ap,a0⟩,by simp[intOf];omega⟩
  ·have a5:b=n:=oM
   subst a5
   go_wp2
   go_ret
   exact⟨_,rfl,Q,U⟩
section
variable {tg : Nat -> List Nat}
open Classical in
noncomputable def Zq(tg:Nat->List Nat)(n b:Nat):List Nat:=(List.range n).filter fun a=>decide (JO tg a b)
theorem Jo{n a b:Nat}:a∈Zq tg n b↔a<n/\JO tg a b:=by
 unfold Zq;simp
theorem AF(n b:Nat):(Zq tg n b).Nodup:=List.nodup_range.sublist jR
theorem VU{n a c:Nat}(ha:a<n)(h:JO tg c a)(g:c≠a):(Zq tg n c).length<(Zq tg n a).length:=by
 have d:a ∉ Zq tg n c:=fun k=>g (Z1 h (Jo.1 k).2)
 have e:=fL.2 ⟨d,AF n c⟩;have f:(a::Zq tg n c) ⊆ Zq tg n a:=fun x b=>by
  rcases cH.1 b with rfl | b
  ·exact Jo.2 ⟨ha,Zd h.rb⟩
  ·obtain⟨i,j⟩:=Jo.1 b
   exact Jo.2 ⟨i,J8 j h⟩
 have:=kV e f;simp only[bA]at this;omega
theorem Uk{n b:Nat}(a:b<n):((List.range n).map (Zq tg n)).getD b []=Zq tg n b:=by simp[a]
theorem tN{n a b:Nat}(d:∀x,Re tg x->x<n)(h:Idm tg a b):idomP ((List.range n).map (Zq tg n)) b=(a:Int):=by
 have f:=d b h.dom.rb;have c:=d a h.dom.ra;have m:bestP (fun a=>(((List.range n).map (Zq tg n)).getD a []).length) b (Zq tg n b)=some a:=by
  refine ut (Jo.2 ⟨c,h.dom⟩) h.ne (fun e g j i=>?_);obtain⟨k,l⟩:=Jo.1 g;rw[Uk k,Uk c];exact VU c (h.near e l j) i
 unfold idomP;rw[Uk f,m];rfl
theorem tI{n b:Nat}(d:b<n)(h:∀c,JO tg c b->c=b):idomP ((List.range n).map (Zq tg n)) b=-1:=by
 unfold idomP;rw[Uk d,ue (fun a ha=>h a (Jo.1 ha).2)];rfl
end
section
variable {tg : Nat -> List Nat}
structure YX(tg:Nat->List Nat)(n:Nat)(P:List Int):Prop where
 len:P.length=n
 get:∀b,b<n->(∃a:Nat,Idm tg a b/\P.getD b 0=(a:Int))\/((∀c,JO tg c b->c=b)/\P.getD b 0=-1)
theorem uX{n:Nat}{P Q:List Int}(h:YX tg n P)(k:YX tg n Q):P=Q:=by
 apply mG (h.len.trans k.len.symm);intro i d e;have e1:P.getD i 0=P[i]:=by simp[d]
 have e2:Q.getD i 0=Q[i]:=by simp[e]
 rw[<-e1,<-e2];have b:i<n:=by rw[<-h.len];exact d
 rcases h.get i b with⟨a,ha,ea⟩ | ⟨ha,ea⟩
 ·rcases k.get i b with⟨c,hc,ec⟩ | ⟨hc,ec⟩
  ·rw[ea,ec,An ha hc]
  ·exact absurd (hc a ha.dom) ha.ne
 ·rcases k.get i b with⟨c,hc,ec⟩ | ⟨hc,ec⟩
  ·exact absurd (ha c hc.dom) hc.ne
  ·rw[ea,ec]
open Classical in
theorem Wf{n:Nat}(g:∀x,Re tg x->x<n)(f:∀b,b<n->(∃a,Idm tg a b)\/∀d,JO tg d b->d=b):YX tg n ((List.range n).map (idomP ((List.range n).map (Zq tg n)))):=by
 refine⟨sP,fun b c=>?_⟩;have e:((List.range n).map (idomP ((List.range n).map (Zq tg n)))).getD b 0=idomP ((List.range n).map (Zq tg n)) b:=by simp[c]
 rw[e];rcases f b c with⟨a,ha⟩ | h
 ·exact bC ⟨a,ha,tN g ha⟩
 ·exact aZ ⟨h,tI c h⟩
def chP(P:List Int)(b:Nat):List Nat:=(List.range P.length).filter fun c=>P.getD c 0==(b:Int)
def XT(P:List Int):Nat->Nat->List Nat
 | 0,b=>[b]
 | m+1,b=>b::(chP P b).flatMap (XT P m)
theorem jl{P:List Int}{b c:Nat}:c∈chP P b↔c<P.length/\P.getD c 0=(b:Int):=by
 unfold chP;rw[fG,bE,iA]
theorem Kf{n:Nat}{P:List Int}(h:YX tg n P){b c:Nat}(f:c∈chP P b):Idm tg b c:=by
 obtain⟨e,d⟩:=jl.1 f;rcases h.get c (by rw[<-h.len];exact e)with⟨a,ha,ea⟩ | ⟨_,ea⟩
 ·rw[ea]at d
  have:a=b:=oM;rw[<-this];exact ha
 ·rw[ea]at d;omega
theorem AK{P:List Int}{b:Nat}:(chP P b).length<=P.length:=aJ (fJ _ _) sP
theorem Ji{n:Nat}{P:List Int}(h:YX tg n P):∀(m b x:Nat),Re tg b->x∈XT P m b->JO tg b x
 | 0,b,x,hb,a=>by
  have:x=b:=by simpa [XT]using a
  rw[this];exact Zd hb
 | m+1,b,x,hb,a=>by
  rw[XT,cH]at a;rcases a with rfl | a
  ·exact Zd hb
  ·obtain⟨d,e,a⟩:=bV.1 a
   have c:=Kf h e;exact J8 c.dom (Ji h m d x c.dom.rb a)
theorem jx{r:Nat}{P:List Int}(h:YX tg r P):∀(m b:Nat),Re tg b->(XT P m b).Nodup
 | 0,b,_=>by simp[XT]
 | m+1,b,hb=>by
  rw[XT,fL];refine⟨fun d=>?_,?_⟩
  ·obtain⟨c,a,d⟩:=bV.1 d
   have g:=Kf h a;exact g.ne (Z1 g.dom (Ji h m c b g.dom.rb d))
  ·unfold List.Nodup
   rw[iK];refine⟨fun c a=>jx h m c (Kf h a).dom.rb,?_⟩;have p:(chP P b).Nodup:=List.nodup_range.sublist jR;refine jT (fun {c i} a o j x d y q f=>?_) p;subst f;have e:=Kf h a;have id:=Kf h o;have l:=Ji h m c x e.dom.rb d;have n:=Ji h m i x id.dom.rb q;rcases TY l n with k | k
   ·exact e.ne (Z1 e.dom (id.near c k j))
   ·exact id.ne (Z1 id.dom (e.near i k (fun f=>j f.symm)))
theorem qr{n:Nat}{P:List Int}(h:YX tg n P)(c:∀x,Re tg x->x<n)(m b:Nat)(a:Re tg b):(XT P m b).length<=n:=YS (jx h m b a) (fun x d=>c x (Ji h m b x a d).rb)
theorem jg{n:Nat}{P:List Int}(h:YX tg n P)(e:∀x,Re tg x->x<n){b c:Nat}(d:c∈chP P b):(Zq tg n b).length<(Zq tg n c).length:=by
 have a:=Kf h d;exact VU (e c a.dom.rb) a.dom a.ne
theorem j9(n b:Nat):(Zq tg n b).length<=n:=aJ (fJ _ _) sP
theorem qy{n:Nat}{P:List Int}(h:YX tg n P)(e:∀x,Re tg x->x<n){b:Nat}(d:Re tg b)(g:b≠0):∃c:Nat,P.getD b 0=(c:Int)/\c<n/\Re tg c/\(Zq tg n c).length<(Zq tg n b).length/\∀a,a≠b->(JO tg a b↔JO tg a c):=by
 rcases h.get b (e b d)with⟨c,hc,ec⟩ | ⟨hc,_⟩
 ·exact⟨c,ec,e c hc.dom.ra,hc.dom.ra,VU (e b d) hc.dom hc.ne,fun a i=>⟨fun k=>hc.near a k i,fun k=>J8 k hc.dom⟩⟩
 ·exact absurd (hc 0 (vN d)) (fun f=>g f.symm)
end
def WC(P:List Int)(k:Nat)(c:Nat):List Nat:=(List.range k).filter fun b=>P.getD b 0==(c:Int)
theorem vW(P:List Int)(c:Nat):WC P P.length c=chP P c:=rfl
theorem yJ(P:List Int)(k c:Nat):(WC P k c).length<=k:=aJ (fJ _ _) sP
theorem ww(h:l.getD n 0=(m:Int))(i:Nat):Xi (WC l (n+1) i)=if i=m then Xi (WC l n m)++[(n:Int)]else Xi (WC l n i):=by
 unfold WC;rw[dN,eU,iW,jX,h];by_cases e:i=m
 ·subst e
  rw[aU sP,aU rfl];simp[Xi]
 ·rw[aM (by simp;omega),aM e]
  simp[Xi]
theorem vw{P:List Int}(h:P.getD k 0<0)(i:Nat):WC P (k+1) i=WC P k i:=by
 unfold WC;rw[dN,eU,iW,jX,aM (by rw[iA];omega),fF]
theorem Y0(l:List Nat):(Xi l).length=l.length:=by simp[Xi]
theorem rI(v:Option Addr)(n H:Nat)(P:List Int)(L B:Nat)(w:World)(ha:Hid (Xf w L B v P))(E:Hid (n=P.length))(hn:n<=1000)(hB:B<=w.heap.size)(K:Hid (∀p∈P,p<n)) :
 Calls prog 89 #[.slice v n H] w fun j r=>∃x I,j=.returned (.slice x n I)/\Below w.heap.size w r/\XR r w.heap.size r.heap.size x ((List.range n).map fun i:Nat=>Xi (chP P i)):=by
 obtain⟨Y,Q,V,W,X⟩:=fX Tryz.info2';have al:=fM (P:=prog) 133 27 (.slice none 0 0) 24 underlying133 Tryz.info45 rfl .i64 .i64 n oM oM
 go_in
 go_wp2
 go_loopw [11] (fun i wr=>∃k:Nat,k<=n/\i=.int .i64 k/\Below w.heap.size w wr/\Hid (∃U,YT wr w.heap.size n (fun i=>Xi (WC P k i)) U)) (fun i _=>n-(intOf i).toNat)
 case atStart=>exact⟨0,aN _,rfl,Xb (Below.refl _ _) _,⟨_,YT.born w n⟩⟩
 case round =>
  obtain⟨k,hk,rfl,e,h⟩:=hrel;by_cases aj:k<n
  ·have m:k<P.length:=oN E.out
   obtain⟨b,ar,rfl,⟨_,ab⟩,z⟩:=ha k m;have ad:=(XU e oM).trans z;have ap:=K _ (aH m);have A:P.getD k 0=P[k]:=by simp[m]
   have u:=Xa A;clear z A;generalize P[k]=p at *;by_cases R:0<=p
   ·obtain⟨t,rfl⟩:=bX R
    have d:t<n:=oM;obtain⟨U,c⟩:=h.out;have N:=c.1.cell d;have O:=c.1.frozen t;have aq:(Xi (WC P k t)).length<=k:=by rw[Y0];exact yJ P k t
    have a:=Xa c;clear c h
    go_wp2_with (at_builtin;refine bT _ rfl _ _ 27 rfl (w.heap.size+1) 2 Y (.int .i64 0) 1 8 underlying27 Q V W X rfl vY _ _ _ rfl ((a.alloc _).2.1 t d) ⟨wr.heap.size,0,none⟩ 1 1 [.int .i64 k] rfl rfl ?c1 ?c2 ?c3 ?c4 ?c5 ?_)
    case c1 =>
     intro Z aa g
     match Z,g with
     | 0,g=>simp at g;subst g;simp[Addr.add]
    case c2=>intro aa C;simp at C;subst C;rfl
    case c3=>unfold maxLen;omega
    case c4=>omega
    case c5=>have:=a.1.lt;simp;omega
    intro v1 s o f _ y;obtain⟨av,cv,q,_⟩:=Xk (xs:=Xi (WC P k t)++[(k:Int)]) (by rw[Yl];exact o);have T:=Xa ((a.alloc (.cells #[.int .i64 k] 2)).step d k v1 f o (by rw[aO];exact y));have l:s.heap[w.heap.size]?=(wr.alloc (.cells #[.int .i64 k] 2)).heap[w.heap.size]?:=YJ f ((a.alloc (.cells #[.int .i64 k] 2)).2.1 t d) oM (by have:=a.1.lt;simp;omega);have M:=Xa (Xy (Xb e (.cells #[.int .i64 k] 2)) f ((a.alloc (.cells #[.int .i64 k] 2)).2.1 t d) oM (by have:=e.size;simp;omega));have ac:s.cell? ⟨w.heap.size,t,none⟩=some (U t):=by rw[Xc l];exact((a.alloc (.cells #[.int .i64 k] 2)).1).cell d
    have af:s.frozen? ⟨w.heap.size,t,none⟩=false:=by rw[bJ (w:=wr.alloc (.cells #[.int .i64 k] 2)) (a:=⟨w.heap.size,t,none⟩) l];exact((a.alloc (.cells #[.int .i64 k] 2)).1).frozen t
    have G:=Xa q;clear o f y l N O;rw[q];clear q;go_wp2;have D:=G.out;rw[aQ,bA,bO,aV]at D;rw[<-D];refine⟨⟨k+1,oM,gM,M.setCell (by dsimp only;omega) _,⟨_,(T).congr (fun i _=>?_)⟩⟩,by simp[intOf];omega⟩;exact(ww u i).symm
   ·have S:p<0:=oM
    have F:=Xa (fun i=>vw (P:=P) (k:=k) (by rw[u.out];exact S) i);go_wp2;refine⟨⟨k+1,oM,gM,e,?_⟩,by simp[intOf];omega⟩;obtain⟨U,c⟩:=h.out;exact⟨U,c.congr (fun i _=>by rw[F.out])⟩
  ·go_wp2
   go_ret
   obtain⟨U,c⟩:=h.out;have j:k=P.length:=oN E.out
   refine⟨_,_,rfl,e,?_⟩;have J:=(c.congr (P':=fun i:Nat=>Xi (chP P i)) (fun i _=>by rw[j,vW])).ints;exact J.mono oM (aA _)
section
def ZN(w:World)(G n:Nat)(P:Nat->List Int)(U:Nat->Value):Prop :=
 w.rowIs G 55 n U/\(∀i,i<n->w.ownsRow (G+1) 2 1 (U i) (P i).length ((P i).map (Value.int .i64)))/\(∀i j,i<n->j<n->i≠j->(U i).ownBlock=none\/(U i).ownBlock≠(U j).ownBlock)
theorem ZN.alloc{w:World}{G n:Nat}{P:Nat->List Int}{U:Nat->Value}(h:ZN w G n P U)(o:Obj):ZN (w.alloc o) G n P U:=⟨h.1.alloc o,fun i a=>(h.2.1 i a).alloc o,h.2.2⟩
theorem ZN.below{w a:World}{G n:Nat}{P:Nat->List Int}{U:Nat->Value}(h:ZN w G n P U)(k:Below w.heap.size w a):ZN a G n P U:=by
 refine⟨h.1.of_block (k.block _ h.1.lt),fun i d=>?_,h.2.2⟩;refine(h.2.1 i d).kept (row:=none) ⟨k.os,k.tape,k.output,k.size,fun b c _=>k.block b c⟩ ?_;cases (U i).ownBlock<;>simp
theorem ZN.congr{w:World}{G n:Nat}{P P':Nat->List Int}{U:Nat->Value}(h:ZN w G n P U)(e:∀i,i<n->P i=P' i):ZN w G n P' U :=
 ⟨h.1,fun i a=>by rw[<-e i a];exact h.2.1 i a,h.2.2⟩
theorem ZN.step{w k:World}{G n:Nat}{P:Nat->List Int}{U:Nat->Value}(h:ZN w G n P U){t:Nat}(p:t<n)(x:Int)(b:Value)(o:w.grownBy k (U t).ownBlock)
 (s:k.ownsRow (G+1) 2 1 b ((P t).length+1) ((P t).map (Value.int .i64)++[.int .i64 x])) (l:b.ownBlock=(U t).ownBlock\/b.ownBlock=some w.heap.size) :
 ZN (k.setCell ⟨G,t,none⟩ b) G n (fun i=>if i=t then P t++[x]else P i) (fun i=>if i=t then b else U i):=by
 have u:=h.1.of_block (o.block _ h.1.lt (fun e=>by have:=((h.2.1 t p).lt _ e.symm).1;omega));refine⟨u.set t b,fun i a=>?_,fun i j a d c=>?_⟩
 ·refine ownsRow_setCell_below ?_ (by dsimp only;omega) _
  by_cases e:i=t
  ·subst e
   simp only[gG,aQ,bA,bO,bG,eH,fZ];exact s
  ·simp only[e,fD]
   exact(h.2.1 i a).kept o (h.2.2 i t a p e)
 ·have fresh:∀m,m<n->(U m).ownBlock=none\/(U m).ownBlock≠some w.heap.size:=fun m r=>by
   by_cases e:(U m).ownBlock=some w.heap.size
   ·have:=((h.2.1 m r).lt _ e).2;omega
   ·exact aZ e
  by_cases e1:i=t
  ·subst e1
   have e2:¬j=i:=fun e=>c e.symm
   simp only[gG,e2,fD];rcases l with q | q
   ·rw[q];exact h.2.2 i j a d c
   ·right
    rw[q];intro g;rcases fresh j d with f | f
    ·rw[f]at g;cases g
    ·exact f g.symm
  ·simp only[e1,fD]
   by_cases e2:j=t
   ·subst e2
    simp only[gG];rcases l with q | q
    ·rw[q];exact h.2.2 i j a d c
    ·rw[q];exact fresh i a
   ·simp only[e2,fD]
    exact h.2.2 i j a d c
theorem ZN.ints{w:World}{G n:Nat}{P:Nat->List Int}{U:Nat->Value}(h:ZN w G n P U):XR w G w.heap.size (some ⟨G,0,none⟩) ((List.range n).map P):=fun i a=>by
 simp only[bK,gI]at a;obtain⟨b,c,d,ha⟩:=Xk (h.2.1 i a);refine⟨G,0,rfl,⟨aA _,h.1.lt⟩,b,c,?_,?_⟩
 ·simp only[cM,dW,aV]
  rw[h.1.cell a,d]
 ·simp only[cM,dW]
  exact ha.mono oM (aA _)
theorem ZN.born(w:World)(n:Nat):ZN (w.alloc (.cells (madeCells #[.slice none 0 0] n) 55)) w.heap.size n (fun _=>[]) (fun _=>.slice none 0 0) :=
 ⟨dG _ _ _ _,fun _ _=>dA _ _ _ _,fun _ _ _ _ _=>bC rfl⟩
variable {tg : Nat -> List Nat}
open Classical in
noncomputable def UN(tg:Nat->List Nat)(k b:Nat):List Int:=Xi ((List.range k).filter fun a=>decide (JO tg a b))
open Classical in
theorem mn(k b:Nat):UN tg (k+1) b=UN tg k b++(if JO tg k b then [(k:Int)]else []):=by
 unfold UN;rw[dN,eU,iW,jX];by_cases h:JO tg k b
 ·rw[aU (by simpa using h),aU h];simp[Xi]
 ·rw[aM (by simpa using h),aM h];simp[Xi]
theorem yC(k b:Nat):(UN tg k b).length<=k:=by
 unfold UN;rw[Y0];exact aJ (fJ _ _) sP
theorem uM{k:Nat}(h:¬Re tg k)(b:Nat):UN tg (k+1) b=UN tg k b:=by
 rw[mn,aM (fun d=>h d.ra),fF]
noncomputable def Zy(tg:Nat->List Nat)(F a:List Nat)(k i b:Nat):List Int:=UN tg k b++(if b∈F.take i/\b ∉ a then [(k:Int)]else [])
theorem tD(F a:List Nat)(k b:Nat):Zy tg F a k 0 b=UN tg k b:=by
 unfold Zy;rw[aM sP,fF]
theorem tZ(F a:List Nat)(k i b:Nat):(Zy tg F a k i b).length<=k+1:=by
 unfold Zy;have:=yC (tg:=tg) k b;rw[aQ];split<;>simp<;>omega
theorem Kx{F:List Nat}{i b:Nat}(a:i<F.length):b∈F.take (i+1)↔b∈F.take i\/b=F[i]:=by
 rw[bN a,bU,cS]
theorem xV{F a:List Nat}{k i:Nat}(c:i<F.length)(h:F[i]∈a)(b:Nat):Zy tg F a k (i+1) b=Zy tg F a k i b:=by
 unfold Zy;by_cases e:b=F[i]
 ·rw[aM (fun q=>q.2 (by rw[e];exact h)),aM (fun q=>q.2 (by rw[e];exact h))]
 ·by_cases q:b∈F.take i/\b ∉ a
  ·rw[aU ⟨(Kx c).2 (bC q.1),q.2⟩,aU q]
  ·rw[aM (fun r=>q ⟨((Kx c).1 r.1).resolve_right e,r.2⟩),aM q]
theorem uQ{F a:List Nat}{k i:Nat}(d:F.Nodup)(c:i<F.length)(h:F[i] ∉ a)(b:Nat):Zy tg F a k (i+1) b=if b=F[i]then Zy tg F a k i F[i]++[(k:Int)]else Zy tg F a k i b:=by
 have g:F[i] ∉ F.take i:=fun q=>by
  have e:=(hH i F).symm;have f:F[i]∈F.drop i:=by rw[gZ c];exact cI
  rw[e,gW]at d;exact d.2.2 _ q _ f rfl
 by_cases e:b=F[i]
 ·rw[aU e,e]
  unfold Zy;rw[aU ⟨(Kx c).2 (aZ rfl),h⟩,aM (fun q=>g q.1),fF]
 ·rw[aM e]
  unfold Zy;by_cases q:b∈F.take i/\b ∉ a
  ·rw[aU ⟨(Kx c).2 (bC q.1),q.2⟩,aU q]
  ·rw[aM (fun r=>q ⟨((Kx c).1 r.1).resolve_right e,r.2⟩),aM q]
theorem sY{F a:List Nat}{k:Nat}(hF:∀x,x∈F↔Re tg x)(c:∀x,x∈a↔Av tg k x)(e:Re tg k){i:Nat}(d:F.length<=i)(b:Nat):Zy tg F a k i b=UN tg (k+1) b:=by
 rw[mn];unfold Zy;rw[aW d];by_cases h:JO tg k b
 ·rw[aU ⟨(hF b).2 h.rb,fun q=>h.no ((c b).1 q)⟩,aU h]
 ·rw[aM (fun q=>h ⟨e,(hF b).1 q.1,fun r=>q.2 ((c b).2 r)⟩),aM h]
end
section
attribute [local go_sem] Oper.semAt_some
def K7{b:Type}(f:Nat->b)(a k:Nat):List b:=(List.range (a-k)).map fun j=>f (a-1-j)
theorem jh{a:Type}(f:Nat->a)(h:m<n):K7 f n m=K7 f n (m+1)++[f m]:=by
 unfold K7;have e:n-m=(n-(m+1))+1:=oM;rw[e,dN,bG];have e2:n-1-(n-(m+1))=m:=oM;simp[e2]
theorem yw{b:Type}(f:Nat->b)(a:Nat):K7 f a a=[]:=by simp[K7]
theorem Bi{b:Type}(f:Nat->b)(a k:Nat):(K7 f a k).length=a-k:=by simp[K7]
abbrev Pb(N:Nat):={ x:Nat × Nat // x.2<N }
theorem zI(b:∀z∈s,z<n)(a:0<n)(j:Nat):s[j]?.getD 0<n:=by
 by_cases h:j<s.length
 ·rw[aC h];exact b _ (aH h)
 ·rw[dK oM];exact a
def WF{a:List Nat}{N:Nat}(c:∀z∈a,z<N)(b:0<N)(j:Nat):Pb N:=⟨(j,a[j]?.getD 0),zI c b j⟩
theorem BD(F:Fence)(o:Nat)(A:F.fn 123)(O:F.round=none)(U:1<=o)(s i h b t a w:Nat)(v:List Nat)(N:Nat)(g:∀z∈v,z<N)(f:0<N)(V:a<=1000000)(I:b<h)(J p:List (Pb N)->World->Prop)
 (H:∀c x W,J c W->c.length<a->YieldAt F (o-1) prog s #[.int .i64 (x.1.1:Int),.int .i64 (x.1.2:Int)] W fun e d =>
  (e=.returned (.bool true)/\J (c++[x]) d/\Below h W d)\/(e=.returned (.bool false)/\p (c++[x]) d))
 (W:World) (C:W.cell? ⟨i,0,none⟩=some (.slice (some ⟨b,t,none⟩) a w)) (B:i<h) (K:∀n,n<a->W.cell? ⟨b,t+n,none⟩=some (.int .i64 ((v[n]?.getD 0:Nat):Int))) (y:J [] W) :
 CallsIn F o prog 123 #[.func (.yield s) #[] #[],.pointer (some ⟨i,0,none⟩)] W fun e d=>(∃Q,e=.returned Q) /\
  ((∃u,u=K7 (WF g f) a 0/\J u d)\/(∃c,(∃k,k<a/\c=K7 (WF g f) a k)/\p c d)):=by
 refine iD func123 rfl A ?_ O;simp only[ntmps123,xY,Nat.reduceAdd,Nat.reduceSub]
 gi_wp2
 gi_loopw [3] (fun m wr=>∃(k:Nat)(z:Int),k<=a/\m=.int .i64 z/\z+1=(k:Int)/\J (K7 (WF g f) a k) wr/\Below h W wr)
  (fun m _=>(intOf m+1).toNat)
 case atStart=>exact⟨a,_,aA _,rfl,oM,by rw[yw];exact y,Below.refl _ _⟩
 case round =>
  obtain⟨k,z,L,rfl,X,r,j⟩:=hrel;have S:=oB j C B;cases k with
  | zero =>
   have l:z=-1:=oM;subst l
   gi_wp2
   go_end0
   exact⟨⟨_,rfl⟩,.inl ⟨_,rfl,r⟩⟩
  | succ q =>
   have l:z=(q:Int):=oM;subst l;have hq:q<a:=L;have T:=oB j (K q hq) I;obtain⟨fn,tmps,assign,body,P,G⟩:=H _ (WF g f q) wr r (by rw[Bi];omega);dsimp only[WF]at P
   gi_wp2
   refine G.mono ?_;rintro e R (⟨rfl,D,M⟩ | ⟨rfl,E⟩)
   ·gi_wp2
    go_roundw
    case rel=>exact⟨q,_,oM,rfl,oM,by rw[jh _ hq];exact D,j.trans M⟩
    case measure=>simp[intOf]
   ·gi_wp2
    refine cC (gV rfl _ _ _) rfl ?_;exact⟨⟨_,rfl⟩,.inr ⟨_,⟨q,hq,(jh _ hq).symm⟩,E⟩⟩
theorem sQ(F:Fence)(n:Nat)(d:F.fn 116)(f:F.round=none)(a:Option Addr)(c b:Nat)(w:World) :
 CallsIn F n prog 116 #[.slice a c b] w fun e g=>e=.returned (.func (.func 123) #[] #[.pointer (some ⟨w.heap.size,0,none⟩)])/\g=w.alloc (.cells #[.slice a c b] 27):=by
 refine iD func116 rfl d ?_ f;simp only[ntmps116,xY,Nat.reduceAdd,Nat.reduceSub]
 gi_wp2
 go_ret
 exact⟨rfl,rfl⟩
theorem rM(F:Fence)(n:Nat)(q:F.fn 123)(z:F.round=none)(v:1<=n)(c b f a h:Nat)(g:List Nat)(N:Nat)(e:∀D∈g,D<N)(d:0<N)(y:a<=1000000)(w:World)(i:c<w.heap.size)(l:b<w.heap.size)
 (t:w.cell? ⟨c,0,none⟩=some (.slice (some ⟨b,f,none⟩) a h)) (r:∀j,j<a->w.cell? ⟨b,f+j,none⟩=some (.int .i64 ((g[j]?.getD 0:Nat):Int))) :
 SeqStopsK F n prog 123 #[.pointer (some ⟨c,0,none⟩)] (fun x:Pb N=>#[Value.int .i64 (x.1.1:Int),Value.int .i64 (x.1.2:Int)]) (Below w.heap.size) (fun C=>C=K7 (WF e d) a 0)
  (fun B=>∃m,m<a/\B=K7 (WF e d) a m) a w:=fun A J o W k _ _ s p =>
 BD F n q z v A c w.heap.size b f a h g N e d y l J o s W (oB k t i) i (fun j u=>oB k (r j u) l) p
end
def avL(b:Nat):List Nat:=(List.range b).filter fun x=>x != 0
def Iav(b:Nat):Nat->Nat->Nat:=fun i=>if i=0 then addsN (fun _=>0) (avL b)else fun _=>0
def Tse(b:Nat):Nat->Nat->Nat:=fun i=>if i<b then YH (fun _=>0) i else fun _=>0
theorem KW:XA (fun _=>0):=fun _=>(by decide:0<18446744073709551616)
theorem wU:avL 1=[]:=rfl
theorem yH{b:Nat}(h:b≠0):avL (b+1)=avL b++[b]:=by
 unfold avL;rw[dN,eU];simp[h]
theorem zD{b:Nat}:n∈avL b↔n<b/\n≠0:=by simp[avL]
theorem qJ(b:Nat):XQ (Iav b):=fun i=>by
 unfold Iav;split
 ·exact Zs _ KW
 ·exact KW
theorem qI(b:Nat):XQ (Tse b):=fun i=>by
 unfold Tse;split
 ·exact ff KW i
 ·exact KW
theorem Ad{b:Nat}(a:m<n):Xh (Iav n b) m=true↔b=0/\m≠0:=by
 unfold Iav;by_cases e:b=0
 ·rw[aU e,YR,Z3,jU,bD,zD]
  exact⟨fun h=>⟨e,h.2⟩,fun h=>⟨a,h.2⟩⟩
 ·rw[aM e,Z3]
  exact⟨fun h=>(by cases h),fun h=>absurd h.1 e⟩
theorem zh{b:Nat}(a:b<n):Xh (Tse n b) m=true↔m=b:=by
 unfold Tse;rw[aU a,Z8,Z3,jU,bD]
theorem uz:Iav 1=fun i=>Iav 0 i:=by funext i;unfold Iav;rw[wU];rfl
theorem xq{b:Nat}(h:b≠0):(fun i=>if i=0 then addsN (Iav b 0) [b]else Iav b i)=Iav (b+1):=by
 funext i;unfold Iav;by_cases e:i=0
 ·subst e
  simp only[gG];rw[yH h];unfold addsN;rw[dT]
 ·simp only[aM e]
theorem wZ(b:Nat):(fun i=>if i=b then addsN (Tse b b) [b]else Tse b i)=Tse (b+1):=by
 funext i;unfold Tse;by_cases e:i=b
 ·subst e
  simp only[gG,Nat.lt_irrefl,fD];rw[aU (iJ _)];rfl
 ·simp only[aM e]
  by_cases h:i<b
  ·rw[aU h,aU oM]
  ·rw[aM h,aM oM]
theorem Ye.grown{b:Nat}(h:Ye w n m k f M)(c:w.grownBy v (some b))(d:n≠b)(g:∀i,i<m->f i≠b):Ye v n m k f M :=
 ⟨h.row.of_block (c.block _ h.row.lt (fun e=>d (by injection e))),fun i a=>(h.set i a).of_block (c.block _ (h.set i a).lt (fun e=>g i a (by injection e))),h.inj,h.out⟩
theorem sH(X:Option Addr)(n pc T W A c0:Nat)(C:List (List Nat))(B:List Nat)(L1 J L2 L:Nat)(w:World)(bz:Hid (XR w L2 L X (C.map Xi)))(hs:Hid (n=C.length))(bw:Hid (Xf w L1 J (some ⟨T,W,none⟩) (Xi B)))(h0:Hid (A=B.length))(hn:n<=1000)(g:0<n)(bt:A<=1000)(bv:0<A)(bo:J<=w.heap.size)(bp:L<=w.heap.size)(ho:Hid (∀b∈B,b<n))(bx:Hid (∀a7∈C,a7.length<=2000/\∀D∈a7,D<n)) :
 Calls prog 115 #[.slice X n pc,.slice (some ⟨T,W,none⟩) A c0] w fun e w'=>∃G f x,e=.returned (.slice (some ⟨G,0,none⟩) n n)/\Below w.heap.size w w'/\Ye w' G n ((n+63) / 64) f x/\XQ x/\∀b,b<n->∀F,F<n->(Xh (x b) F=true↔Sp (Iav n) (Tse n) (·∈B) (fun b=>C.getD b []) b F):=by
 have b6:(n+63) / 64<=16:=oM;have b7:n<=64*((n+63) / 64):=oM;have ad:=Xa (Th n n w hn oM);have af:=Xa (fun bm=>Th n n bm hn oM);generalize (n+63) / 64=K at *
 go_in
 go_wp2_with fail
 refine ad.mono ?_;rintro e w1 ⟨G,f,rfl,hG,ax,a1,a4⟩;have M:=Xa ax;have H:=Xa a1;clear ax a1 ad
 go_wp2_with fail
 refine(af w1).mono ?_;rintro e E ⟨r,j,rfl,b4,U,a2,a5⟩;have Z:=Xa (Xg M U);have al:=Xa (H.keep U);have aq:=Xa a2;have b5:=H.row.lt;have ab:=Xa (fun i a=>(H.set i a).lt);have R:=Xa a4;have bb:=Xa M.size;have S:=Xa a5;clear U a2 af M H a4 a5
 go_wp2_with fail
 have O:Hid (∀i I,i<n->I<n->j i≠f I):=Xa (fun i I a hj e=>by have:=ab I hj;have:=S i a;omega);have ba:Hid (∀i,i<n->G≠j i):=Xa (fun i a e=>by have:=S i a;omega);have aa:Hid (∀i,i<n->r≠f i):=Xa (fun i a e=>by have:=ab i a;omega);have ac:Hid (Ye E G n K f (Iav 0)):=Xa (by
  have e:(fun _ _=>0:Nat->Nat->Nat)=Iav 0:=by funext i;unfold Iav;split<;>rfl
  rw[<-e];exact al)
 have ap:Hid (Ye E r n K j (Tse 0)):=Xa (by
  have e:(fun _ _=>0:Nat->Nat->Nat)=Tse 0:=by funext i;unfold Tse;rw[aM oM]
  rw[<-e];exact aq)
 clear al aq
 go_loopw [18] (fun Y wr=>∃b:Nat,b<=n/\Y=.int .i64 b/\Hid (Below w.heap.size w wr)/\Hid (E.heap.size<=wr.heap.size)/\Hid (Ye wr G n K f (Iav b))/\Hid (Ye wr r n K j (Tse b))) (fun Y _=>n-(intOf Y).toNat)
 case atStart=>exact⟨0,aN _,rfl,Z,Xa (aA _),ac,ap⟩
 case round =>
  obtain⟨b,hb,rfl,d,HZ,s,v⟩:=hrel;clear ac ap Z;by_cases l:b<n
  ·have k1:=v.row.cell l
   have V:=s.row.cell g
   go_wp2_with fail
   have u:Hid (Xf (wr.alloc (.cells #[.int .i64 (b:Int)] 128)) wr.heap.size (wr.heap.size+1) (some ⟨wr.heap.size,0,none⟩) ([b].map Int.ofNat)):=Xa (UY wr b _);have aj:Hid (∀D∈[b],D<64*K):=Xa (fun D ht=>by
    have:D=b:=by simpa using ht
    omega)
   have o:=Xa (v.keep (Xb (Below.refl _ _) (.cells #[.int .i64 (b:Int)] 128)));have m:=Xa (s.keep (Xb (Below.refl _ _) (.cells #[.int .i64 (b:Int)] 128)));have h:=Xa (Xb d (.cells #[.int .i64 (b:Int)] 128));have b1:wr.heap.size+1<=(wr.alloc (.cells #[.int .i64 (b:Int)] 128)).heap.size:=sP;have ca:=(v.set b l).lt;have b8:=(s.set 0 g).lt;clear d s v k1 V;generalize wr.alloc _=wa at *;refine(Tz (j b) K 1 1 (Tse b b) _ [b] wr.heap.size (wr.heap.size+1) wa u (Xa rfl) oM aj oM (Xa (qI b b)) (Xa (o.set b l)) b1 oM).mono ?_;rintro e c ⟨rfl,y,az⟩;have Q:Hid (Ye c r n K j (Tse (b+1))):=Xa (by rw[<-wZ];exact o.wrote l y az);have t:=Xa (m.grown y (ba b l) (fun i a e=>O b i l a e.symm));have N:=Xa (h.grown y h.size (fun q e=>by cases e;have:=S b l;have:=bb.out;omega));have ar:Hid (E.heap.size<=c.heap.size):=Xa (oP y.size HZ.out);clear y az o m h u;by_cases k:b=0
   ·have P:Hid (Ye c G n K f (Iav (b+1))):=Xa (by subst k;rw[uz];exact t)
    have bq:((b:Int)==0)=true:=by simp[k]
    have br:((b:Int) != 0)=false:=by simp[k]
    clear k
    go_wp2
    exact⟨⟨b+1,oM,gM,N,ar,P,Q⟩,by simp[intOf];omega⟩
   ·have bq:((b:Int)==0)=false:=by simp[k]
    have br:((b:Int) != 0)=true:=by simp[k]
    have V:=t.row.cell g
    go_wp2_with fail
    have u:Hid (Xf (c.alloc (.cells #[.int .i64 (b:Int)] 128)) c.heap.size (c.heap.size+1) (some ⟨c.heap.size,0,none⟩) ([b].map Int.ofNat)):=Xa (UY c b _);have o:=Xa (Q.keep (Xb (Below.refl _ _) (.cells #[.int .i64 (b:Int)] 128)));have m:=Xa (t.keep (Xb (Below.refl _ _) (.cells #[.int .i64 (b:Int)] 128)));have h:=Xa (Xb N (.cells #[.int .i64 (b:Int)] 128));have b2:c.heap.size+1<=(c.alloc (.cells #[.int .i64 (b:Int)] 128)).heap.size:=sP;have b9:=(t.set 0 g).lt;clear N t Q V;generalize c.alloc _=wb at *;refine(Tz (f 0) K 1 1 (Iav b 0) _ [b] c.heap.size (c.heap.size+1) wb u (Xa rfl) oM aj oM (Xa (qJ b 0)) (Xa (m.set 0 g)) b2 oM).mono ?_;rintro e w6 ⟨rfl,z,a0⟩;have P:Hid (Ye w6 G n K f (Iav (b+1))):=Xa (by rw[<-xq k];exact m.wrote g z a0);have bf:=Xa (o.grown z (aa 0 g) (fun i a=>O i 0 a g));have a8:=Xa (h.grown z h.size (fun q e=>by cases e;exact R 0 g));have bl:Hid (E.heap.size<=w6.heap.size):=Xa (oP z.size ar.out);clear z a0 o m h u
    go_wp2
    exact⟨⟨b+1,oM,gM,a8,bl,P,bf⟩,by simp[intOf];omega⟩
  ·have bs:b=n:=oM
   subst bs
   go_wp2_with fail
   refine(rP T W A c0 B L1 J X b pc C L2 L G r b K f j (Iav b) (Tse b) wr (Xa (bw.keep (d.mono bo))) h0 bt bv (Xa (bz.keepS (fun q _ h2=>(d.mono bp).block q h2))) hs (Xa hs.symm) oM (oN d.size) (oN d.size) s v (Xa (qJ b)) (Xa (qI b)) (Xa (fun i a b3=>by have:=R i a;omega)) aa O ho bx).mono ?_;rintro e w7 ⟨rfl,p,x,a6,a3,ay⟩;have a9:Hid (Below w.heap.size w w7):=Xa ⟨p.os.trans d.os,p.tape.trans d.tape,p.output.trans d.output,aJ d.size p.size,fun q hk=>(p.block q (oN d.size) (fun i a e=>by have:=R i a;omega)).trans (d.block q hk)⟩;have bd:=Xa a3;have bi:=Xa a6;have bc:=Xa ay;clear p a6 a3 ay
   go_wp2
   go_ret
   exact⟨G,f,x,rfl,a9,bd,bi,fun bn hc F hx=>bc bn hc F oM⟩
section
def VB(b:Nat->Nat->Nat)(a:List Nat):Nat->Nat->Int
 | 0,_=>-1
 | i+1,z=>match (a.take i).reverse.find? (fun c=>!Xh (b (a.getD i 0)) c)with
  | some c=>if z=a.getD i 0 then (c:Int)else VB b a i z
  | none=>VB b a i z
theorem pC{c:Nat->Nat->Nat}{a:List Nat}{i b:Nat}(h:(a.take i).reverse.find? (fun b=>!Xh (c (a.getD i 0)) b)=some b)(z:Nat):VB c a (i+1) z=if z=a.getD i 0 then (b:Int)else VB c a i z:=by
 rw[VB,h]
theorem oL{b:Nat->Nat->Nat}{a:List Nat}{i:Nat}(h:(a.take i).reverse.find? (fun c=>!Xh (b (a.getD i 0)) c)=none)(z:Nat):VB b a (i+1) z=VB b a i z:=by
 rw[VB,h]
theorem qO{b:List Nat}{N:Nat}(g:∀z∈b,z<N)(d:0<N){a:Nat}(c:a<=b.length):(K7 (WF g d) a 0).map (fun x=>x.1.2)=(b.take a).reverse:=by
 apply mG
 ·simp[K7,c]
 ·intro j e h
  have i:j<a:=by simpa [K7]using e
  have f:a-1-j<b.length:=oM;simp[K7,WF,jZ c,aC f]
theorem qU{b:Type}(f:Nat->b){len:Nat}:∀(k:Nat),k<=len->∃r,K7 f len 0=K7 f len k++r
 | 0,_=>⟨[],sP⟩
 | k+1,h=>by
  obtain⟨r,a⟩:=qU f (len:=len) k oM;exact⟨f k::r,by rw[a,jh f (show k<len from h)];simp⟩
theorem wB{d:List Nat}{N:Nat}(b:∀z∈d,z<N)(a:0<N){len k:Nat}(h:len<=d.length)(g:k<=len){p:Nat->Bool}{c:List (Pb N)}{x:Pb N}(e:c++[x]=K7 (WF b a) len k)(i:∀y∈c,p y.1.2=false)(m:p x.1.2=true):(d.take len).reverse.find? p=some x.1.2:=by
 obtain⟨r,j⟩:=qU (WF b a) k g;rw[<-qO b a h,j,<-e,bG,bG,List.find?_append,List.find?_append];have f:(c.map fun x=>x.1.2).find? p=none:=by
  rw[lS];intro y n;obtain⟨u,l,rfl⟩:=aY.1 n;rw[i u l];decide
 rw[f];simp[m]
theorem vI{a:List Nat}{N:Nat}(c:∀z∈a,z<N)(b:0<N){len:Nat}(d:len<=a.length){p:Nat->Bool}(e:∀y∈K7 (WF c b) len 0,p y.1.2=false):(a.take len).reverse.find? p=none:=by
 rw[<-qO c b d,lS];intro y g;obtain⟨u,f,rfl⟩:=aY.1 g;rw[e u f];decide
theorem i7{Ws:Nat->Nat->Nat}{a:List Nat}{b:Nat}:∀(i:Nat),i<=a.length->(∀j,j<i->a.getD j 0≠b)->VB Ws a i b=-1
 | 0,_,_=>rfl
 | i+1,hi,h=>by
  have c:=i7 (Ws:=Ws) i oM (fun j d=>h j oM);rw[VB];split
  ·rw[aM (fun e=>h i oM e.symm)];exact c
  ·exact c
theorem pu{Ws:Nat->Nat->Nat}{ord:List Nat}{b i:Nat}:∀(m:Nat),(∀j,i<=j->j<i+m->ord.getD j 0≠b)->VB Ws ord (i+m) b=VB Ws ord i b
 | 0,_=>rfl
 | m+1,h=>by
  have c:=pu (Ws:=Ws) (i:=i) m (fun j a d=>h j a oM);rw[<-c,<-Nat.add_assoc,VB];split
  ·rw[aM (fun e=>h (i+m) oM oM e.symm)]
  ·rfl
variable {tg : Nat -> List Nat}
theorem UR{n:Nat}{Ws:Nat->Nat->Nat}{o:List Nat}(s:o.Nodup)(k:∀x,x∈o↔Re tg x)(v:∀x,Re tg x->x<n)(w:∀x a,JO tg a x->a≠x->Bef o a x)(z:∀b,b<n->∀x,x<n->(Xh (Ws b) x=true↔Av tg x b)):YX tg n ((List.range n).map (VB Ws o o.length)):=by
 refine⟨sP,fun b q=>?_⟩;have e:((List.range n).map (VB Ws o o.length)).getD b 0=VB Ws o o.length b:=by simp[q]
 rw[e];by_cases l:b∈o
 ·obtain⟨i,f,d⟩:=bR l
  have t:=gY.1 (show o.Pairwise (·≠·) from s);have g:∀j (c:j<o.length),o.getD j 0=o[j]:=fun j c=>by simp[c]
  have m:VB Ws o o.length b=VB Ws o (i+1) b:=by
   have:=pu (Ws:=Ws) (ord:=o) (b:=b) (i:=i+1) (o.length-(i+1)) (fun j m p=>by
    have c:j<o.length:=oM;rw[g j c,<-d];exact fun e=>t i j f c oM e.symm)
   rw[show i+1+(o.length-(i+1))=o.length by omega]at this;exact this
  have p:VB Ws o i b=-1:=i7 i oM (fun j c=>by
   have r:j<o.length:=oM;rw[g j r,<-d];exact t j i r f c)
  have y:∀a∈o,(!Xh (Ws (o.getD i 0)) a)=true↔¬Av tg a o[i]:=fun a ha=>by
   rw[g i f,<-z o[i] (by rw[d];exact q) a (v a ((k a).1 ha))];simp
  have h:=vy s k w f y;rw[m];cases hf:(o.take i).reverse.find? (fun a=>!Xh (Ws (o.getD i 0)) a)with
  | some a =>
   rw[hf]at h;rw[pC hf,g i f,d,aU rfl];exact bC ⟨a,by rw[<-d];exact h,rfl⟩
  | none =>
   rw[hf]at h;rw[oL hf,p];exact aZ ⟨by rw[<-d];exact h,rfl⟩
 ·refine aZ ⟨fun A u=>absurd ((k b).2 u.rb) l,i7 _ (aA _) (fun j c e=>l ?_)⟩
  have:o.getD j 0=o[j]:=by simp[c]
  rw[<-e,this];exact aH c
end
end Go.Proofs.YtghnlncgiihhgaaGreatDoor
