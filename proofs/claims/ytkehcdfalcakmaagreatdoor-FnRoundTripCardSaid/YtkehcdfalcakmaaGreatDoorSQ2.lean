import Derived.Test.YtkehcdfalcakmaaGreatDoorW6b
import Derived.Deep.AppendLies
import Derived.RangeFuncRecord
import Derived.Deep.CutRange
namespace Go.Proofs.YtkehcdfalcakmaaGreatDoor
open Go.RowKit
def Um(w:World)(L B:Nat)(a:Option Addr)(xs:List Mv):Prop:=∀i (h:i<xs.length),∃b o,a=some ⟨b,o,none⟩/\(L<=b/\b<B)/\w.cell? ⟨b,o+i*2,none⟩=some (.int .i64 xs[i].to)/\w.cell? ⟨b,o+i*2+1,none⟩=some (.int .i64 xs[i].frm)
theorem Um.keepS{w w':World}{L B:Nat}{a:Option Addr}{xs:List Mv}(h:Um w L B a xs)(k:X7 L B w w'):Um w' L B a xs:=fun i hi=>by
 obtain⟨b,o,e,hb,h1,h2⟩:=h i hi;have q:=k b hb.1 hb.2;exact⟨b,o,e,hb,(Xc q).trans h1,(Xc q).trans h2⟩
theorem Um.keep{w w':World}{L B:Nat}{a:Option Addr}{xs:List Mv}(h:Um w L B a xs)(k:Below B w w'):Um w' L B a xs:=h.keepS (X7.of_below k)
theorem Um.mono{w:World}{L B L' B':Nat}{a:Option Addr}{xs:List Mv}(h:Um w L B a xs)(h1:L'<=L)(h2:B<=B'):Um w L' B' a xs:=fun i hi=>by
 obtain⟨b,o,e,hb,r⟩:=h i hi;exact⟨b,o,e,by omega,r⟩
theorem Zfi(g j:Nat):(⟨g,0,none⟩:Addr).add j=⟨g,j,none⟩:=by unfold Addr.add;split<;>simp_all
theorem KS{w:World}{base e s g n c:Nat}{cs:List Value}(h:w.ownsRow base e s (.slice (some ⟨g,0,none⟩) n c) n cs){j:Nat}{u:Value}(hj:cs[j]?=some u):w.cell? ⟨g,j,none⟩=some u:=by
 have:=h.cells (g:=g) rfl j u hj;rw[Zfi]at this;exact this
theorem Zb5{w:World}{base e s n:Nat}{v:Value}{cs:List Value}(h:w.ownsRow base e s v n cs):(v=.slice none 0 0/\n=0/\cs=[])\/∃g c,v=.slice (some ⟨g,0,none⟩) n c/\(base<=g/\g<w.heap.size)/\n<=c:=by
 rcases h.2 with⟨e1,e2⟩ | ⟨g,cap,cur,e1,hb,hh,hc,_⟩
 ·refine Or.inl ⟨e1,e2,List.eq_nil_of_length_eq_zero ?_⟩
  rw[h.1,e2,Nat.zero_mul]
 ·exact Or.inr ⟨g,cap,e1,⟨hb,(Array.getElem?_eq_some_iff.1 hh).1⟩,hc⟩
structure DrW(w wr:World)(B:Nat)(s:Sr):Prop where
 low:Below w.heap.size w wr
 src:ZL wr w.heap.size (w.heap.size+1) B s
 ok:ZJ s
 bB:w.heap.size+1<=B
 sB:B<=wr.heap.size
theorem DrW.drew{w wr:World}{B:Nat}{s:Sr}(h:DrW w wr B s):DrW w wr.drew B s:=⟨h.low.drew,h.src.drew,h.ok,h.bB,h.sB⟩
theorem ZL.block{w w':World}{b L B:Nat}{s:Sr}(h:ZL w b L B s)(hb:w'.heap[b]?=w.heap[b]?)(hk:∀k,L<=k->k<B->w'.heap[k]?=w.heap[k]?):ZL w' b L B s:=by
 obtain⟨a,c,e0,hbb⟩:=h.c0;have ce:∀q,w'.cell? ⟨b,q,none⟩=w.cell? ⟨b,q,none⟩:=fun q=>World.cell?_of_block hb
 exact⟨⟨a,c,(ce 0).trans e0,hbb.keepS hk⟩,(ce 1).trans h.c1,(ce 2).trans h.c2,(ce 3).trans h.c3,fun q=>(World.frozen?_of_block hb).trans (h.thaw q),h.out⟩
theorem DrW.keep{w wr w':World}{B:Nat}{s:Sr}(h:DrW w wr B s)(hk:Below B wr w'):DrW w w' B s:=by
 have h1:=h.bB;exact⟨h.low.trans (hk.mono (by omega)),h.src.block (hk.block _ (by omega)) (fun k _ h2=>hk.block k h2),h.ok,h.bB,Nat.le_trans h.sB hk.size⟩
theorem Tg{w w':World}{B t sz b n:Nat}{v:Value}{cs:List Value}(h:w.ownsRow B t sz v n cs)(hg:w.grownBy w' (some b))(hb:b<B):w'.ownsRow B t sz v n cs :=
 h.kept hg (by
  cases e:v.ownBlock with
  | none=>exact Or.inl rfl
  | some k=>exact Or.inr (fun e2=>by cases e2;have:=(h.lt _ e).1;omega))
theorem ZgU{w w1:World}{B t s g:Nat}{n c:Nat}{xs:List Value}(h:w.ownsRow B t s (.slice (some ⟨g,0,none⟩) n c) n xs)(k:w1.heap[g]?=w.heap[g]?):w1.ownsRow B t s (.slice (some ⟨g,0,none⟩) n c) n xs:=by
 obtain⟨hl,h | ⟨g',cap,cur,e,hg,hh,hc⟩⟩:=h
 ·exact⟨hl,Or.inl h⟩
 ·cases e
  exact⟨hl,Or.inr ⟨g,c,cur,rfl,hg,k.trans hh,hc⟩⟩
theorem Zdi{w:World}{B t sz g n c k:Nat}{cs:List Value}(h:w.ownsRow B t sz (.slice (some ⟨g,0,none⟩) n c) n cs)(u:Value):(w.setCell ⟨g,k,none⟩ u).ownsRow B t sz (.slice (some ⟨g,0,none⟩) n c) n (cs.set k u):=by
 obtain⟨hl,h0 | ⟨g',cap,cur,e,hg,hh,hc,hm,hs,ht⟩⟩:=h
 ·cases h0.1
 ·cases e
  refine⟨by rw[List.length_set];exact hl,Or.inr ⟨g,c,cur.setIfInBounds k u,rfl,hg,?_,hc,hm,by rw[Array.size_setIfInBounds];exact hs,?_⟩⟩
  ·exact heap_setCell_same w g k cur t u hh
  ·rw[Array.toList_setIfInBounds,List.take_set,ht]
theorem Xj{w:World}{base e s n:Nat}{v:Value}{cs:List Value}(h:w.ownsRow base e s v n cs)(hn:0<n):∃g c,v=.slice (some ⟨g,0,none⟩) n c/\(base<=g/\g<w.heap.size)/\n<=c:=by
 rcases Zb5 h with⟨_,e,_⟩ | h
 ·omega
 ·exact h
theorem Zr{x:Int}(h:0<=x):∃m:Nat,x=m:=⟨x.toNat,by omega⟩
end Go.Proofs.YtkehcdfalcakmaaGreatDoor
namespace Go.Proofs.YtkehcdfalcakmaaGreatDoor
set_option maxHeartbeats 1000000
open Go.RowKit
structure Zs(w:World)(sb B:Nat)(s:Sr):Prop where
 src:ZL w sb (sb+1) B s
 ok:ZJ s
 bB:sb+1<=B
 sB:B<=w.heap.size
theorem Zs.drew{w:World}{sb B:Nat}{s:Sr}(h:Zs w sb B s):Zs w.drew sb B s:=⟨h.src.drew,h.ok,h.bB,h.sB⟩
theorem Zs.keep{w w':World}{sb B:Nat}{s:Sr}(h:Zs w sb B s)(hk:Below B w w'):Zs w' sb B s:=by
 have h1:=h.bB;exact⟨h.src.block (hk.block _ (by omega)) (fun k _ h2=>hk.block k h2),h.ok,h.bB,Nat.le_trans h.sB hk.size⟩
theorem Xv(sb B:Nat)(s:Sr)(n:Int)(w:World)(h:Hid (Zs w sb B s))(hn:n<=1000000)(hn0:-1000000<=n) :
 Calls Tryz.prog 30 #[.pointer (some ⟨sb,0,none⟩),.int .i64 n] w fun e w'=>e=.returned (.int .i64 (nextP s n).1)/\Zs w' sb B (nextP s n).2/\w.grownBy w' (some sb):=by
 refine(ZfG sb (sb+1) B s n w (Xa h.src) (Xa h.ok) hn hn0).mono ?_;rintro e w' ⟨rfl,hs,hg⟩;exact⟨rfl,⟨hs,Yo h.ok _,h.bB,Nat.le_trans h.sB hg.size⟩,hg⟩
theorem Yi{w w1 w2:World}{b:Nat}(h:w.grownBy w1 (some b))(k:w1.grownBy w2 (some b)):w.grownBy w2 (some b) :=
 ⟨k.os.trans h.os,k.tape.trans h.tape,k.output.trans h.output,Nat.le_trans h.size k.size,fun i hi hb=>(k.block i (Nat.lt_of_lt_of_le hi h.size) hb).trans (h.block i hi hb)⟩
theorem Xh.grown{w w':World}{L B sb:Nat}{a:Option Addr}{xs:List Int}(h:Xh w L B a xs)(g:w.grownBy w' (some sb))(hs:sb<L)(hB:B<=w.heap.size):Xh w' L B a xs :=
 h.keepS (fun k h1 h2=>g.block k (by omega) (fun e=>by injection e;omega))
def Yu(s:Sr)(vs:List Int)(near:Bool):Int × Sr :=
 if vs.length=0 then (0,s)
 else if near=true/\3<vs.length then
  if (nextP s 4).1=0 then (vs.getD (nextP (nextP s 4).2 vs.length).1.toNat 0,(nextP (nextP s 4).2 vs.length).2)
  else (vs.getD ((vs.length:Int)-1-(nextP (nextP s 4).2 3).1).toNat 0,(nextP (nextP s 4).2 3).2)
 else (vs.getD (nextP s vs.length).1.toNat 0,(nextP s vs.length).2)
theorem ZaF{s:Sr}(h:ZJ s)(vs:List Int)(near:Bool):ZJ (Yu s vs near).2:=by
 unfold Yu;split
 ·exact h
 ·split
  ·split
   ·exact Yo (Yo h _) _
   ·exact Yo (Yo h _) _
  ·exact Yo h _
theorem Jp(sb B:Nat)(s:Sr)(a:Option Addr)(n c:Nat)(vs:List Int)(L' B':Nat)(near:Bool)(w:World)(h:Hid (Zs w sb B s))(hv:Hid (Xh w L' B' a vs))(hx:Hid (n=vs.length))(hn:n<=5000)(hL:sb<L')(hB:B'<=w.heap.size) :
 Calls Tryz.prog 74 #[.pointer (some ⟨sb,0,none⟩),.slice a n c,.bool near] w fun e w'=>e=.returned (.int .i64 (Yu s vs near).1)/\Zs w' sb B (Yu s vs near).2/\w.grownBy w' (some sb):=by
 have hx':=hx.out;by_cases h0:n=0
 ·have HP:Hid (Yu s vs near=(0,s)):=Xa (by unfold Yu;rw[if_pos (by omega)])
  subst h0;clear hx'
  go_enter Tryz.func74,Tryz.ntmps74
  go_wp2
  go_ret
  rw[HP.out];exact⟨rfl,h.out,World.grownBy.refl _ _⟩
 ·have h0b:(n==0)=false:=by simpa using h0
  have hn0:(0:Int)<n:=by omega
  have hni:((n:Int)==0)=false:=by simp;omega
  by_cases h1:near=true/\3<n
  ·obtain⟨rfl,h3⟩:=h1
   have h3i:(3:Int)<n:=by omega
   have HP:Hid (Yu s vs true=if (nextP s 4).1=0 then (vs.getD (nextP (nextP s 4).2 n).1.toNat 0,(nextP (nextP s 4).2 n).2)else (vs.getD ((n:Int)-1-(nextP (nextP s 4).2 3).1).toNat 0,(nextP (nextP s 4).2 3).2)):=Xa (by unfold Yu;rw[if_neg (by omega),if_pos ⟨rfl,by omega⟩,<-hx']);clear hx'
   go_enter Tryz.func74,Tryz.ntmps74
   go_wp2_with fail
   refine(Xv sb B s 4 w h (by omega) (by omega)).mono ?_;rintro e w1 ⟨rfl,hd,hg⟩;have HG1:=Xa hg;obtain⟨r,s1,hrs⟩:∃r s',nextP s 4=(r,s'):=⟨_,_,rfl⟩;rw[hrs]at hd HP |-;dsimp only at hd HP |-;have HD1:=Xa hd;have HV1:=Xa (hv.grown hg hL hB);clear hd hg hrs;by_cases hr:r=0
   ·subst hr
    go_wp2_with fail
    refine(Xv sb B s1 n w1 HD1 (by omega) (by omega)).mono ?_;rintro e w2 ⟨rfl,hd,hg⟩;have hlt:=Xx s1 (n:=(n:Int)) (by omega);obtain⟨q,s2,hrs⟩:∃r s',nextP s1 n=(r,s'):=⟨_,_,rfl⟩;rw[hrs]at hd HP hlt |-;dsimp only at hd HP hlt |-;rw[if_pos trivial]at HP;obtain⟨q,rfl⟩:=Zr hlt.1;have hqv:q<vs.length:=by have:=hx.out;omega
    obtain⟨b',o',rfl,hbb,hc⟩:=(HV1.grown hg hL (Nat.le_trans hB HG1.size)) q hqv;rw[show vs.getD ((q:Int)).toNat 0=vs[q] by simp[hqv]]at HP;have HG2:=Xa (Yi HG1.out hg);have HD2:=Xa hd;clear hd hg hrs hbb HV1;generalize vs[q]=vq at *;go_wp2
    go_ret
    rw[HP.out];exact⟨rfl,HD2.out,HG2.out⟩
   ·have hrb:(r==0)=false:=by simpa using hr
    rw[if_neg hr]at HP
    go_wp2_with fail
    refine(Xv sb B s1 3 w1 HD1 (by omega) (by omega)).mono ?_;rintro e w2 ⟨rfl,hd,hg⟩;have hlt:=Xx s1 (n:=3) (by omega);obtain⟨q,s2,hrs⟩:∃r s',nextP s1 3=(r,s'):=⟨_,_,rfl⟩;rw[hrs]at hd HP hlt |-;dsimp only at hd HP hlt |-;obtain⟨m,hm⟩:=Zr (x:=(n:Int)-1-q) (by omega);have hqv:m<vs.length:=by have:=hx.out;omega
    obtain⟨b',o',rfl,hbb,hc⟩:=(HV1.grown hg hL (Nat.le_trans hB HG1.size)) m hqv;rw[hm,show vs.getD ((m:Int)).toNat 0=vs[m] by simp[hqv]]at HP;have HG2:=Xa (Yi HG1.out hg);have HD2:=Xa hd;clear hd hg hrs hbb HV1;have hmn:m<n:=by omega
    generalize vs[m]=vq at *;go_wp2
    go_ret
    rw[HP.out];exact⟨rfl,HD2.out,HG2.out⟩
  ·have HP:Hid (Yu s vs near=(vs.getD (nextP s n).1.toNat 0,(nextP s n).2)):=Xa (by unfold Yu;rw[if_neg (by omega),if_neg (by rw[<-hx'];exact h1),<-hx'])
   clear hx';have KEY:∀(nr:Bool)(h3:nr=false\/¬(3:Int)<n),Calls Tryz.prog 74 #[.pointer (some ⟨sb,0,none⟩),.slice a n c,.bool nr] w fun e w'=>e=.returned (.int .i64 (vs.getD (nextP s n).1.toNat 0))/\Zs w' sb B (nextP s n).2/\w.grownBy w' (some sb):=by
    intro nr h3;clear h1 HP;cases nr with
    | false =>
     clear h3
     go_enter Tryz.func74,Tryz.ntmps74
     go_wp2_with fail
     refine(Xv sb B s n w h (by omega) (by omega)).mono ?_;rintro e w2 ⟨rfl,hd,hg⟩;have hlt:=Xx s (n:=(n:Int)) (by omega);obtain⟨q,s2,hrs⟩:∃r s',nextP s n=(r,s'):=⟨_,_,rfl⟩;have HRS:=Xa hrs;rw[hrs]at hd hlt |-;dsimp only at hd hlt |-;obtain⟨q,rfl⟩:=Zr hlt.1;have hqv:q<vs.length:=by have:=hx.out;omega
     obtain⟨b',o',rfl,hbb,hc⟩:=(hv.grown hg hL hB) q hqv;have HQ:Hid (vs.getD ((q:Int)).toNat 0=vs[q]):=Xa (by simp[hqv]);have HG2:=Xa hg;have HD2:=Xa hd;clear hd hg hrs hbb;generalize vs[q]=vq at *;go_wp2
     go_ret
     rw[HRS.out];dsimp only;rw[HQ.out];exact⟨rfl,HD2.out,HG2.out⟩
    | true =>
     have h3':¬(3:Int)<n:=by rcases h3 with h | h;cases h;exact h
     clear h3
     go_enter Tryz.func74,Tryz.ntmps74
     go_wp2_with fail
     refine(Xv sb B s n w h (by omega) (by omega)).mono ?_;rintro e w2 ⟨rfl,hd,hg⟩;have hlt:=Xx s (n:=(n:Int)) (by omega);obtain⟨q,s2,hrs⟩:∃r s',nextP s n=(r,s'):=⟨_,_,rfl⟩;have HRS:=Xa hrs;rw[hrs]at hd hlt |-;dsimp only at hd hlt |-;obtain⟨q,rfl⟩:=Zr hlt.1;have hqv:q<vs.length:=by have:=hx.out;omega
     obtain⟨b',o',rfl,hbb,hc⟩:=(hv.grown hg hL hB) q hqv;have HQ:Hid (vs.getD ((q:Int)).toNat 0=vs[q]):=Xa (by simp[hqv]);have HG2:=Xa hg;have HD2:=Xa hd;clear hd hg hrs hbb;generalize vs[q]=vq at *;go_wp2
     go_ret
     rw[HRS.out];dsimp only;rw[HQ.out];exact⟨rfl,HD2.out,HG2.out⟩
   rw[HP.out];exact KEY near (by
    cases near with
    | false=>exact Or.inl rfl
    | true=>exact Or.inr (fun h3=>h1 ⟨rfl,by omega⟩))
def Kk(s:Sr):Int × Sr :=
 if (nextP s 16).1<10 then ((nextP s 16).1-3,(nextP s 16).2)
 else if (nextP s 16).1=10 then (1000000000,(nextP s 16).2)
 else if (nextP s 16).1=11 then (-1000000000,(nextP s 16).2)
 else ((nextP (nextP s 16).2 200).1-100,(nextP (nextP s 16).2 200).2)
theorem Zfn{s:Sr}(h:ZJ s):ZJ (Kk s).2:=by
 unfold Kk;split
 ·exact Yo h _
 ·split
  ·exact Yo h _
  ·split
   ·exact Yo h _
   ·exact Yo (Yo h _) _
theorem WZ(sb B:Nat)(s:Sr)(w:World)(h:Hid (Zs w sb B s)) :
 Calls Tryz.prog 89 #[.pointer (some ⟨sb,0,none⟩)] w fun e w'=>e=.returned (.int .i64 (Kk s).1)/\Zs w' sb B (Kk s).2/\w.grownBy w' (some sb):=by
 have HP:Hid (Kk s=if (nextP s 16).1<10 then ((nextP s 16).1-3,(nextP s 16).2)else if (nextP s 16).1=10 then (1000000000,(nextP s 16).2)else if (nextP s 16).1=11 then (-1000000000,(nextP s 16).2)else ((nextP (nextP s 16).2 200).1-100,(nextP (nextP s 16).2 200).2)):=Xa rfl
 go_enter Tryz.func89,Tryz.ntmps89
 go_wp2_with fail
 refine(Xv sb B s 16 w h (by omega) (by omega)).mono ?_;rintro e w1 ⟨rfl,hd,hg⟩;have hlt:=Xx s (n:=16) (by omega);obtain⟨k,s1,hrs⟩:∃r s',nextP s 16=(r,s'):=⟨_,_,rfl⟩;rw[hrs]at hd HP hlt |-;dsimp only at hd HP hlt |-;have HD1:=Xa hd;have HG1:=Xa hg;clear hd hg hrs;by_cases h1:k<10
 ·rw[if_pos h1]at HP
  go_wp2
  go_ret
  rw[HP.out];exact⟨rfl,HD1.out,HG1.out⟩
 ·rw[if_neg h1]at HP
  by_cases h2:k=10
  ·rw[if_pos h2]at HP
   have h2b:(k==10)=true:=by simpa using h2
   clear h2;go_wp2
   go_ret
   rw[HP.out];exact⟨rfl,HD1.out,HG1.out⟩
  ·rw[if_neg h2]at HP
   have h2b:(k==10)=false:=by simpa using h2
   by_cases h3:k=11
   ·rw[if_pos h3]at HP
    have h3b:(k==11)=true:=by simpa using h3
    clear h2 h3;go_wp2
    go_ret
    rw[HP.out];exact⟨rfl,HD1.out,HG1.out⟩
   ·rw[if_neg h3]at HP
    have h3b:(k==11)=false:=by simpa using h3
    clear h2 h3
    go_wp2_with fail
    refine(Xv sb B s1 200 w1 HD1 (by omega) (by omega)).mono ?_;rintro e w2 ⟨rfl,hd,hg⟩;have hl2:=Xx s1 (n:=200) (by omega);obtain⟨q,s2,hrs⟩:∃r s',nextP s1 200=(r,s'):=⟨_,_,rfl⟩;rw[hrs]at hd HP hl2 |-;dsimp only at hd HP hl2 |-;have HD2:=Xa hd;have HG2:=Xa (Yi HG1.out hg);clear hd hg hrs;go_wp2
    go_ret
    rw[HP.out];exact⟨rfl,HD2.out,HG2.out⟩
def ZbW(k a b:Int)(n:Nat)(dst:Int)(s:Sr):Xz × Sr :=
 if k<2\/n=0 then (⟨1,dst,0,0,(Kk s).1⟩,(Kk s).2)
 else if k=2 then (⟨2,dst,0,0,(nextP s 8).1⟩,(nextP s 8).2)
 else if k=9 then (⟨8,dst,a,0,0⟩,s)
 else if k=10 then (⟨9,0,a,b,0⟩,s)
 else if k=11 then (⟨10,0,a,0,0⟩,s)
 else if k=7 then (⟨if (nextP s 2).1=0 then 6 else 3,dst,a,b,0⟩,(nextP s 2).2)
 else (⟨if k=4\/k=5 then 4 else if k=6 then 5 else if k=8 then 7 else 3,dst,a,b,0⟩,s)
def instrP(s:Sr)(vs:List Int)(dst:Int)(near:Bool):Xz × Sr :=
 ZbW (nextP s 14).1 (Yu (nextP s 14).2 vs near).1 (Yu (Yu (nextP s 14).2 vs near).2 vs near).1 vs.length dst (Yu (Yu (nextP s 14).2 vs near).2 vs near).2
def Xz.agg(x:Xz):Value:=.agg #[.int .i64 x.op,.int .i64 x.dst,.int .i64 x.a,.int .i64 x.b,.int .i64 x.imm]
theorem Zg1{k a b:Int}{n:Nat}{dst:Int}{s:Sr}(h:ZJ s):ZJ (ZbW k a b n dst s).2:=by
 unfold ZbW
 repeat' split
 all_goals first | exact Zfn h | exact Yo h _ | exact h
theorem Zbd{s:Sr}{vs:List Int}{dst:Int}{near:Bool}(h:ZJ s):ZJ (instrP s vs dst near).2:=Zg1 (ZaF (ZaF (Yo h _) _ _) _ _)
theorem WO{w w1:World}{o:Obj}{b:Nat}(h:(w.alloc o).grownBy w1 (some b)):w.grownBy w1 (some b):=by
 have k:=World.grownBy_alloc w o (some b);exact⟨h.os.trans k.os,h.tape.trans k.tape,h.output.trans k.output,Nat.le_trans k.size h.size,fun i hi hb=>(h.block i (Nat.lt_of_lt_of_le hi k.size) hb).trans (k.block i hi hb)⟩
theorem XH{w w1:World}{b g q:Nat}{v:Value}(h:w.grownBy w1 (some b))(hg:w.heap.size<=g):w.grownBy (w1.setCell ⟨g,q,none⟩ v) (some b) :=
 ⟨h.os,h.tape,h.output,by simpa [World.setCell]using h.size,fun i hi hb=>(Below.heap_setCell _ _ _ _ (by show i≠g;omega)).trans (h.block i hi hb)⟩
theorem Zs.put{w:World}{sb B g q:Nat}{s:Sr}{v:Value}(h:Zs w sb B s)(hg:B<=g):Zs (w.setCell ⟨g,q,none⟩ v) sb B s:=h.keep ((Below.refl B w).setCell hg _)
theorem Zs.box{w:World}{sb B:Nat}{s:Sr}(h:Zs w sb B s)(o:Obj):Zs (w.alloc o) sb B s:=h.keep (Below.alloc (Below.refl _ _) h.sB _)
end Go.Proofs.YtkehcdfalcakmaaGreatDoor
namespace Go.Proofs.YtkehcdfalcakmaaGreatDoor
open Go.RowKit
def XW{T:Type}(f:Nat->T->List Value):Nat->List T->List Value
 | _,[]=>[]
 | k,x::xs=>f k x++XW f (k+1) xs
variable {T : Type} {f f' : Nat -> T -> List Value} {sz : Nat}
theorem Zc(hf:∀k x,(f k x).length=sz):∀(k:Nat)(xs:List T),(XW f k xs).length=xs.length*sz
 | _,[]=>by simp[XW]
 | k,x::xs=>by rw[XW,List.length_append,hf,Zc hf,List.length_cons,Nat.add_mul,Nat.one_mul,Nat.add_comm]
theorem Xu(hf:∀k x,(f k x).length=sz):∀(k:Nat)(xs:List T)(i:Nat)(h:i<xs.length)(q:Nat),q<sz->(XW f k xs)[i*sz+q]?=(f (k+i) xs[i])[q]?
 | _,[],_,h,_,_=>absurd h (by simp)
 | k,x::xs,0,_,q,hq=>by
  rw[XW,Nat.zero_mul,Nat.zero_add,List.getElem?_append_left (by rw[hf];exact hq)];rfl
 | k,x::xs,i+1,h,q,hq=>by
  rw[XW,List.getElem?_append_right (by rw[hf,Nat.add_mul,Nat.one_mul];omega),hf,show(i+1)*sz+q-sz=i*sz+q by rw[Nat.add_mul,Nat.one_mul];omega,Xu hf (k+1) xs i (by simpa using h) q hq,List.getElem_cons_succ,show k+1+i=k+(i+1) by omega]
theorem Y8:∀(k:Nat)(xs:List T)(x:T),XW f k (xs++[x])=XW f k xs++f (k+xs.length) x
 | k,[],x=>by simp[XW]
 | k,y::xs,x=>by rw[List.cons_append,XW,XW,Y8 (k+1) xs x,List.append_assoc,List.length_cons,show k+1+xs.length=k+(xs.length+1) by omega]
theorem Z2:∀(k:Nat)(xs:List T),(∀i (h:i<xs.length),f (k+i) xs[i]=f' (k+i) xs[i])->XW f k xs=XW f' k xs
 | _,[],_=>rfl
 | k,x::xs,h=>by
  rw[XW,XW,Z2 (k+1) xs (fun i hi=>by have:=h (i+1) (by simpa using hi);rwa[List.getElem_cons_succ,show k+(i+1)=k+1+i by omega]at this)];have:=h 0 (by simp);rw[Nat.add_zero,List.getElem_cons_zero]at this;rw[this]
theorem Ye(hf:∀k x,(f k x).length=sz):∀(k:Nat)(xs:List T)(i:Nat)(h:i<xs.length)(y:T)(q:Nat)(u:Value),q<sz->f' (k+i) y=(f (k+i) xs[i]).set q u->(∀j (hj:j<xs.length),j≠i->f' (k+j) xs[j]=f (k+j) xs[j])->XW f' k (xs.set i y)=(XW f k xs).set (i*sz+q) u
 | _,[],_,h,_,_,_,_,_,_=>absurd h (by simp)
 | k,x::xs,0,_,y,q,u,hq,hy,hj=>by
  rw[List.set_cons_zero,XW,XW,Nat.zero_mul,Nat.zero_add,List.set_append_left _ _ (by rw[hf];exact hq)];rw[Nat.add_zero,List.getElem_cons_zero]at hy;rw[hy,Z2 (f:=f') (f':=f) (k+1) xs (fun i hi=>by have:=hj (i+1) (by simpa using hi) (by omega);rwa[List.getElem_cons_succ,show k+(i+1)=k+1+i by omega]at this)]
 | k,x::xs,i+1,h,y,q,u,hq,hy,hj=>by
  have e0:=hj 0 (by simp) (by omega);rw[Nat.add_zero,List.getElem_cons_zero]at e0;rw[List.getElem_cons_succ,show k+(i+1)=k+1+i by omega]at hy;rw[List.set_cons_succ,XW,XW,e0,List.set_append_right _ _ (by rw[hf,Nat.add_mul,Nat.one_mul];omega),hf,show(i+1)*sz+q-sz=i*sz+q by rw[Nat.add_mul,Nat.one_mul];omega,
   Ye hf (k+1) xs i (by simpa using h) y q u hq hy (fun j hj' hne=>by have:=hj (j+1) (by simpa using hj') (by omega);rwa[List.getElem_cons_succ,show k+(j+1)=k+1+j by omega]at this)]
structure Xq(w:World)(lab:Nat->Nat × Nat × Nat)(L:Nat × Nat × Nat)(base t sz:Nat)(v:Value)(n:Nat)(cs:List Value):Prop where
 own:w.ownsRow base t sz v n cs
 lab:∀b,v.ownBlock=some b->lab b=L
theorem YA{w w':World}{base t sz:Nat}{v:Value}{n:Nat}{cs:List Value}(h:w.ownsRow base t sz v n cs)(k:∀b,v.ownBlock=some b->w'.heap[b]?=w.heap[b]?):w'.ownsRow base t sz v n cs:=by
 obtain⟨hl,h | ⟨g,cap,cur,e,hg,hh,hc⟩⟩:=h
 ·exact⟨hl,Or.inl h⟩
 ·subst e
  exact⟨hl,Or.inr ⟨g,cap,cur,rfl,hg,(k g rfl).trans hh,hc⟩⟩
theorem Xq.keep{w w':World}{lab lab':Nat->Nat × Nat × Nat}{L:Nat × Nat × Nat}{base t sz:Nat}{v:Value}{n:Nat}{cs:List Value}(h:Xq w lab L base t sz v n cs)(k:∀b,base<=b->b<w.heap.size->lab b=L->w'.heap[b]?=w.heap[b]?/\lab' b=L):Xq w' lab' L base t sz v n cs :=
 ⟨YA h.own (fun b e=>(k b (h.own.lt b e).1 (h.own.lt b e).2 (h.lab b e)).1),fun b e=>(k b (h.own.lt b e).1 (h.own.lt b e).2 (h.lab b e)).2⟩
theorem Xq.set{w:World}{lab:Nat->Nat × Nat × Nat}{L:Nat × Nat × Nat}{base t sz g n c:Nat}{cs:List Value}(h:Xq w lab L base t sz (.slice (some ⟨g,0,none⟩) n c) n cs)(q:Nat)(u:Value):Xq (w.setCell ⟨g,q,none⟩ u) lab L base t sz (.slice (some ⟨g,0,none⟩) n c) n (cs.set q u):=⟨Zdi h.own u,h.lab⟩
theorem Xq.thaw{w:World}{lab:Nat->Nat × Nat × Nat}{L:Nat × Nat × Nat}{base t sz g n c:Nat}{cs:List Value}(h:Xq w lab L base t sz (.slice (some ⟨g,0,none⟩) n c) n cs)(q:Nat):w.frozen? ⟨g,q,none⟩=false:=h.own.frozenAt q
theorem Xq.cell{w:World}{lab:Nat->Nat × Nat × Nat}{L:Nat × Nat × Nat}{base t sz g n c:Nat}{cs:List Value}(h:Xq w lab L base t sz (.slice (some ⟨g,0,none⟩) n c) n cs){q:Nat}{u:Value}(hu:cs[q]?=some u):w.cell? ⟨g,q,none⟩=some u:=KS h.own hu
theorem Xq.blk{w:World}{lab:Nat->Nat × Nat × Nat}{L:Nat × Nat × Nat}{base t sz g n c:Nat}{cs:List Value}(h:Xq w lab L base t sz (.slice (some ⟨g,0,none⟩) n c) n cs):(base<=g/\g<w.heap.size)/\lab g=L:=⟨h.own.lt g rfl,h.lab g rfl⟩
theorem Xq.got{w:World}{lab:Nat->Nat × Nat × Nat}{L:Nat × Nat × Nat}{base t sz n:Nat}{v:Value}{cs:List Value}(h:Xq w lab L base t sz v n cs)(hn:0<n):∃g c,v=.slice (some ⟨g,0,none⟩) n c:=by
 obtain⟨g,c,e,_⟩:=Xj h.own hn;exact⟨g,c,e⟩
theorem Xq.form{w:World}{lab:Nat->Nat × Nat × Nat}{L:Nat × Nat × Nat}{base t sz n:Nat}{v:Value}{cs:List Value}(h:Xq w lab L base t sz v n cs):∃a c,v=.slice a n c:=by
 rcases h.own.2 with⟨e,h0⟩ | ⟨g,cap,_,e,_⟩
 ·exact⟨none,0,by rw[e,h0]⟩
 ·exact⟨_,_,e⟩
def Tk(p i:Value)(t:XN):List Value:=[p,i,.int .i64 t.kind,.int .i64 t.a,.int .i64 t.to,.int .i64 t.els]
def Xy(pv iv:Nat->Value)(xs:List Xf):List Value:=XW (fun i x=>Tk (pv i) (iv i) x.term) 0 xs
def XU(av:Nat->Value)(ps:List Ph):List Value:=XW (fun j p=>[.int .i64 p.dst,av j]) 0 ps
def XD(is:List Xz):List Value:=XW (fun _ x=>x.cells) 0 is
def Xo(xs:List Int):List Value:=xs.map (Value.int .i64)
structure Z5(w:World)(lab:Nat->Nat × Nat × Nat)(base:Nat)(v:Value)(xs:List Xf)(pv iv:Nat->Value)(av:Nat->Nat->Value):Prop where
 blks:Xq w lab (1,0,0) base 43 6 v xs.length (Xy pv iv xs)
 phis:∀i (h:i<xs.length),Xq w lab (2,i,0) base 46 2 (pv i) xs[i].phis.length (XU (av i) xs[i].phis)
 ins:∀i (h:i<xs.length),Xq w lab (3,i,0) base 53 5 (iv i) xs[i].instrs.length (XD xs[i].instrs)
 args:∀i (h:i<xs.length) j (hj:j<xs[i].phis.length),Xq w lab (4,i,j) base 2 1 (av i j) xs[i].phis[j].args.length (Xo xs[i].phis[j].args)
theorem Z5.keep{w w':World}{lab lab':Nat->Nat × Nat × Nat}{base:Nat}{v:Value}{xs:List Xf}{pv iv:Nat->Value}{av:Nat->Nat->Value}(h:Z5 w lab base v xs pv iv av)(k:∀b,base<=b->b<w.heap.size->(lab b).1≠0->(lab b).1<5->w'.heap[b]?=w.heap[b]?/\lab' b=lab b):Z5 w' lab' base v xs pv iv av:=by
 have kk:∀L:Nat × Nat × Nat,L.1≠0->L.1<5->∀b,base<=b->b<w.heap.size->lab b=L->w'.heap[b]?=w.heap[b]?/\lab' b=L:=fun L h0 h5 b h1 h2 e=>by
  subst e;exact k b h1 h2 h0 h5
 exact⟨h.blks.keep (kk _ (by simp) (by simp)),fun i hi=>(h.phis i hi).keep (kk _ (by simp) (by simp)),fun i hi=>(h.ins i hi).keep (kk _ (by simp) (by simp)),fun i hi j hj=>(h.args i hi j hj).keep (kk _ (by simp) (by simp))⟩
theorem JZ(p i:Value)(t:XN):(Tk p i t).length=6:=rfl
theorem Xq.ints{w:World}{lab:Nat->Nat × Nat × Nat}{L:Nat × Nat × Nat}{base n:Nat}{a:Option Addr}{c:Nat}{xs:List Int}(h:Xq w lab L base 2 1 (.slice a n c) xs.length (Xo xs)):Xh w base w.heap.size a xs:=fun i hi=>by
 obtain⟨g,c',e⟩:=h.got (by omega);cases e;exact⟨g,0,rfl,h.blk.1,by rw[Nat.zero_add];exact h.cell (by unfold Xo;simp[hi])⟩
theorem Z5.at_{w:World}{lab:Nat->Nat × Nat × Nat}{base:Nat}{a:Option Addr}{n c:Nat}{xs:List Xf}{pv iv:Nat->Value}{av:Nat->Nat->Value}(h:Z5 w lab base (.slice a n c) xs pv iv av):X8 w base w.heap.size a xs:=fun i hi=>by
 obtain⟨g,c',e⟩:=h.blks.got (by omega);cases e;have hb:=h.blks;obtain⟨pa,pc,ep⟩:=(h.phis i hi).form;obtain⟨ia,ic,ei⟩:=(h.ins i hi).form;have cc:∀q u,q<6->(Tk (pv i) (iv i) xs[i].term)[q]?=some u->w.cell? ⟨g,i*6+q,none⟩=some u:=fun q u hq hu=>hb.cell (by
  unfold Xy;rw[Xu (fun _ _=>JZ _ _ _) 0 xs i hi q hq,Nat.zero_add];exact hu)
 refine⟨g,0,rfl,hb.blk.1,pa,pc,ia,ic,?_,?_,⟨?_,?_,?_,?_⟩,fun j hj=>?_,fun j hj=>?_⟩
 ·rw[Nat.zero_add];exact cc 0 _ (by omega) (by rw[<-ep];rfl)
 ·rw[Nat.zero_add];exact cc 1 _ (by omega) (by rw[<-ei];rfl)
 ·rw[Nat.zero_add];exact cc 2 _ (by omega) rfl
 ·rw[Nat.zero_add];exact cc 3 _ (by omega) rfl
 ·rw[Nat.zero_add];exact cc 4 _ (by omega) rfl
 ·rw[Nat.zero_add];exact cc 5 _ (by omega) rfl
 ·have hp:=h.phis i hi
  obtain⟨gp,cp,e⟩:=hp.got (by omega);rw[e]at ep hp;cases ep;have ha:=h.args i hi j hj;obtain⟨aa,ac,ea⟩:=ha.form;have pc:∀q u,q<2->([.int .i64 xs[i].phis[j].dst,av i j]:List Value)[q]?=some u->w.cell? ⟨gp,j*2+q,none⟩=some u:=fun q u hq hu=>hp.cell (by
   unfold XU;rw[Xu (sz:=2) (fun _ _=>rfl) 0 xs[i].phis j hj q hq,Nat.zero_add];exact hu)
  rw[ea]at ha;exact⟨gp,0,rfl,hp.blk.1,aa,ac,by rw[Nat.zero_add];exact pc 0 _ (by omega) rfl,by rw[Nat.zero_add];exact pc 1 _ (by omega) (by rw[<-ea];rfl),ha.ints⟩
 ·have hp:=h.ins i hi
  obtain⟨gp,cp,e⟩:=hp.got (by omega);rw[e]at ei hp;cases ei;have pc:∀q u,q<5->(xs[i].instrs[j].cells)[q]?=some u->w.cell? ⟨gp,j*5+q,none⟩=some u:=fun q u hq hu=>hp.cell (by
   unfold XD;rw[Xu (sz:=5) (fun _ _=>rfl) 0 xs[i].instrs j hj q hq];exact hu)
  exact⟨gp,0,rfl,hp.blk.1,by rw[Nat.zero_add];exact pc 0 _ (by omega) rfl,by rw[Nat.zero_add];exact pc 1 _ (by omega) rfl,by rw[Nat.zero_add];exact pc 2 _ (by omega) rfl,by rw[Nat.zero_add];exact pc 3 _ (by omega) rfl,by rw[Nat.zero_add];exact pc 4 _ (by omega) rfl⟩
end Go.Proofs.YtkehcdfalcakmaaGreatDoor
namespace Go.Proofs.YtkehcdfalcakmaaGreatDoor
open Go.RowKit
def UA(s:Sr)(n:Nat):Int × Sr:=if 2<n then (1+(nextP s ((n:Int)-1)).1,(nextP s ((n:Int)-1)).2)else (0,s)
def brP(s:Sr)(o i:Int):XN × Sr :=
 if o≠0/\o≠i then
  if (nextP s 4).1=0 then (⟨1,0,i,0⟩,(nextP s 4).2)
  else if (nextP (nextP s 4).2 2).1=0 then (⟨2,0,o,i⟩,(nextP (nextP s 4).2 2).2)else (⟨2,0,i,o⟩,(nextP (nextP s 4).2 2).2)
 else (⟨1,0,i,0⟩,s)
def ZfM(s:Sr)(n:Nat):XN × Sr :=
 if 1<n then
  if (nextP s 8).1=0 then (⟨1,0,1+(nextP (nextP s 8).2 ((n:Int)-1)).1,0⟩,(nextP (nextP s 8).2 ((n:Int)-1)).2)else (⟨3,0,0,0⟩,(nextP s 8).2)
 else (⟨3,0,0,0⟩,s)
def terK(s:Sr)(n i:Nat):XN × Sr:=if i+1<n then brP (UA s n).2 (UA s n).1 ((i:Int)+1)else ZfM s n
def Jr(n:Nat):Nat->Nat->Sr->List XN->List XN × Sr
 | 0,_,s,acc=>(acc,s)
 | k+1,i,s,acc=>Jr n k (i+1) (terK s n i).2 (acc++[(terK s n i).1])
theorem Zbb(n:Nat):∀(k i:Nat)(s:Sr)(acc:List XN),(Jr n k i s acc).1.length=acc.length+k
 | 0,_,_,_=>rfl
 | k+1,i,s,acc=>by rw[Jr,Zbb];simp;omega
def Wg(n i:Nat)(t:XN):Prop :=
 (t=⟨3,0,0,0⟩/\¬i+1<n)\/(∃q:Nat,t=⟨1,0,q,0⟩/\1<=q/\q<n/\(i+1<n->q=i+1))\/(∃q r:Nat,t=⟨2,0,q,r⟩/\1<=q/\q<n/\1<=r/\r<n/\q≠r/\(q=i+1\/r=i+1)/\i+1<n)
theorem ZgS(s:Sr)(n:Nat):(UA s n).1=0\/(1<=(UA s n).1/\(UA s n).1<n):=by
 unfold UA;split
 ·rename_i h
  have:=Xx s (n:=(n:Int)-1) (by omega);right;show 1<=1+(nextP s ((n:Int)-1)).1/\1+(nextP s ((n:Int)-1)).1<n;omega
 ·exact Or.inl rfl
theorem Zgw(s:Sr)(n i:Nat)(h:i<n):Wg n i (terK s n i).1:=by
 unfold terK;split
 ·rename_i hi
  have ho:=ZgS s n;unfold brP;split
  ·rename_i h1
   obtain⟨q,hq⟩:=Zr (x:=(UA s n).1) (by omega);rw[hq]at h1 ho |-;split
   ·exact Or.inr (Or.inl ⟨i+1,rfl,by omega,hi,fun _=>rfl⟩)
   ·split
    ·exact Or.inr (Or.inr ⟨q,i+1,rfl,by omega,by omega,by omega,hi,by omega,Or.inr rfl,hi⟩)
    ·exact Or.inr (Or.inr ⟨i+1,q,rfl,by omega,hi,by omega,by omega,by omega,Or.inl rfl,hi⟩)
  ·exact Or.inr (Or.inl ⟨i+1,rfl,by omega,hi,fun _=>rfl⟩)
 ·rename_i hi
  unfold ZfM;split
  ·rename_i h1
   split
   ·have hl:=Xx (nextP s 8).2 (n:=(n:Int)-1) (by omega)
    obtain⟨q,hq⟩:=Zr hl.1;rw[hq]at hl |-;exact Or.inr (Or.inl ⟨1+q,by simp,by omega,by omega,fun h2=>absurd h2 hi⟩)
   ·exact Or.inl ⟨rfl,hi⟩
  ·exact Or.inl ⟨rfl,hi⟩
theorem ZbC(n:Nat):∀(k i:Nat)(s:Sr)(acc:List XN),acc.length=i->i+k=n->(∀j (h:j<acc.length),Wg n j acc[j])->∀j (h:j<(Jr n k i s acc).1.length),Wg n j (Jr n k i s acc).1[j]
 | 0,_,_,_,_,_,h=>h
 | k+1,i,s,acc,hl,hn,h=>by
  rw[Jr];refine ZbC n k (i+1) _ _ (by simp[hl]) (by omega) (fun j hj=>?_);by_cases e:j<acc.length
  ·rw[List.getElem_append_left e];exact h j e
  ·have hj':j=i:=by simp at hj;omega
   subst hj';rw[List.getElem_append_right (by omega)];simp only[hl,Nat.sub_self,List.getElem_cons_zero];exact Zgw s n j (by omega)
def Yf(t:XN):Xf:=⟨[],[],t⟩
def YH:Nat->Value:=fun _=>.slice none 0 0
def Bx(w:World)(b:Nat)(cs:Array Value)(t:Nat):Prop:=w.heap[b]?=some (.cells cs t)
theorem Bx.lt{w:World}{b t:Nat}{cs:Array Value}(h:Bx w b cs t):b<w.heap.size:=by
 by_cases e:b<w.heap.size
 ·exact e
 ·unfold Bx at h
  rw[Array.getElem?_eq_none (by omega)]at h;cases h
theorem Bx.cell{w:World}{b t q:Nat}{cs:Array Value}{u:Value}(h:Bx w b cs t)(hq:cs[q]?=some u):w.cell? ⟨b,q,none⟩=some u:=(cell_of_row w b q cs t _ h).trans hq
theorem Bx.thaw{w:World}{b t:Nat}{cs:Array Value}(h:Bx w b cs t)(q:Nat):w.frozen? ⟨b,q,none⟩=false:=by
 unfold World.frozen?;unfold Bx at h;show(match w.heap[b]? with | some (.cells _ _ (lo,hi))=>decide (lo<=q)&&decide (q<hi) | _=>false)=false
 rw[h];simp
theorem Bx.set{w:World}{b t:Nat}{cs:Array Value}(h:Bx w b cs t)(q:Nat)(u:Value):Bx (w.setCell ⟨b,q,none⟩ u) b (cs.setIfInBounds q u) t:=heap_setCell_same w b q cs t u h
theorem Bx.keep{w w':World}{b t:Nat}{cs:Array Value}(h:Bx w b cs t)(k:w'.heap[b]?=w.heap[b]?):Bx w' b cs t:=k.trans h
theorem Bx.new(w:World)(cs:Array Value)(t:Nat):Bx (w.alloc (.cells cs t)) w.heap.size cs t:=World.alloc_heap_new _ _
theorem Bx.box{w:World}{b t:Nat}{cs:Array Value}(h:Bx w b cs t)(o:Obj):Bx (w.alloc o) b cs t:=h.keep (Below.heap_alloc _ _ _ h.lt)
theorem Bx.other{w:World}{b t g q:Nat}{cs:Array Value}{u:Value}(h:Bx w b cs t)(hg:b≠g):Bx (w.setCell ⟨g,q,none⟩ u) b cs t:=h.keep (Below.heap_setCell _ _ _ _ hg)
theorem Bx.grown{w w':World}{b t:Nat}{cs:Array Value}{r:Option Nat}(h:Bx w b cs t)(g:w.grownBy w' r)(hr:some b≠r):Bx w' b cs t:=h.keep (g.block b h.lt hr)
structure SkW(w wr:World)(sb B:Nat)(s:Sr)(v:Value)(acc:List XN):Prop where
 dr:Zs wr sb B s
 gr:w.grownBy wr (some sb)
 bw:B<=w.heap.size
 res:Bx wr w.heap.size #[.int .i64 0,.slice none 0 0] 25
 fun_:Bx wr (w.heap.size+1) #[.int .i64 0,v] 25
 own:wr.ownsRow (w.heap.size+2) 43 6 v acc.length (Xy YH YH (acc.map Yf))
 size:w.heap.size+2<=wr.heap.size
theorem SkW.next{w wr w':World}{sb B:Nat}{s s':Sr}{v:Value}{acc:List XN}(h:SkW w wr sb B s v acc)(g:wr.grownBy w' (some sb))(d:Zs w' sb B s'):SkW w w' sb B s' v acc:=by
 have hb:=h.dr.bB;have hw:=h.bw;exact⟨d,Yi h.gr g,h.bw,h.res.grown g (by intro e;injection e;omega),h.fun_.grown g (by intro e;injection e;omega),Tg h.own g (by omega),Nat.le_trans h.size g.size⟩
theorem SkW.box{w wr:World}{sb B:Nat}{s:Sr}{v:Value}{acc:List XN}(h:SkW w wr sb B s v acc)(o:Obj):SkW w (wr.alloc o) sb B s v acc:=by
 have k:=World.grownBy_alloc wr o (some sb);exact⟨h.dr.box o,Yi h.gr k,h.bw,h.res.box o,h.fun_.box o,h.own.alloc o,Nat.le_trans h.size k.size⟩
theorem SkW.put{w wr:World}{sb B g q:Nat}{s:Sr}{v u:Value}{acc:List XN}(h:SkW w wr sb B s v acc)(hg:w.heap.size+2<=g)(hv:v.ownBlock≠some g):SkW w (wr.setCell ⟨g,q,none⟩ u) sb B s v acc:=by
 have hw:=h.bw;exact⟨h.dr.put (by omega),XH h.gr (by omega),h.bw,h.res.other (by omega),h.fun_.other (by omega),ownsRow_setCell_other h.own hv u,by simpa [World.setCell]using h.size⟩
end Go.Proofs.YtkehcdfalcakmaaGreatDoor
