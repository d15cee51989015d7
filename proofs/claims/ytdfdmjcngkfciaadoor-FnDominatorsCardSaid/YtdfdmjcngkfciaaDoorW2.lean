import Derived.Test.YtdfdmjcngkfciaaDoorPure
import Derived.Deep.RegionWith
import Derived.Deep.DrawnRows
import Derived.Test.YtdfdmjcngkfciaaDoorMem
import Derived.Test.YtdfdmjcngkfciaaDoorNSb
import Derived.Test.YtdfdmjcngkfciaaDoorW7
import Derived.Maps.AppendAt
import Derived.Test.YtdfdmjcngkfciaaDoorProg
import Derived.WalkKit
import Derived.OwnWalk
import Derived.Lib.ItoaMem
import Derived.Lib.UnsafeStr
import Derived.Deep.RegionHeld3
namespace Go.Proofs.YtdfdmjcngkfciaaDoor
open Go.RowKit
attribute [local go_sem ↓] Go.wp_at_zero Go.wp_at_succ
def PhLen (xs:List Ph):Prop:=∀p∈xs,p.args.length≤1048576
def BlkLen (xs:List Blk):Prop:=∀x∈xs,x.phis.length≤1048576∧x.instrs.length≤1048576∧PhLen x.phis
end Go.Proofs.YtdfdmjcngkfciaaDoor

namespace Go.Proofs.YtdfdmjcngkfciaaDoor
open Go.RowKit
theorem Tryd.info2:(Tryd.prog.info? 2).map (fun i=>(i.zero,i.size,i.bytes))=some (some (.int .i64 0),1,8):=by kernel_rfl
end Go.Proofs.YtdfdmjcngkfciaaDoor

namespace Go.Proofs.YtdfdmjcngkfciaaDoor
open Go.RowKit
def IntssAt (w:World) (L B:Nat) (a:Option Addr) (xss:List (List Int)):Prop :=
 ∀i (h:i<xss.length),∃b o,a=some ⟨b,o,none⟩∧(L≤b∧b<B)∧∃a' c',w.cell? ⟨b,o+i,none⟩=some (.slice a' xss[i].length c')∧IntsAt w L B a' xss[i]
theorem IntssAt.keepS {w w':World} {L B:Nat} {a:Option Addr} {xss:List (List Int)} (h:IntssAt w L B a xss) (k:Same L B w w'):IntssAt w' L B a xss:=fun i hi=>by
 obtain ⟨b,o,e,hb,a',c',h1,h2⟩:=h i hi
 exact ⟨b,o,e,hb,a',c',(cell_of (k b hb.1 hb.2)).trans h1,h2.keepS k⟩
theorem IntssAt.keep {w w':World} {L B:Nat} {a:Option Addr} {xss:List (List Int)} (h:IntssAt w L B a xss) (k:Below B w w'):IntssAt w' L B a xss:=h.keepS (Same.of_below k)
theorem IntssAt.mono {w:World} {L B L' B':Nat} {a:Option Addr} {xss:List (List Int)} (h:IntssAt w L B a xss) (l:L'≤L) (k:B≤B'):IntssAt w L' B' a xss:=fun i hi=>by
 obtain ⟨b,o,e,hb,a',c',h1,h2⟩:=h i hi
 exact ⟨b,o,e,by omega,a',c',h1,h2.mono l k⟩
def Rows2 (w:World) (G n:Nat) (P:Nat→List Int) (U:Nat→Value):Prop :=
 w.rowIs G 29 n U∧(∀i,i<n→w.ownsRow (G+1) 2 1 (U i) (P i).length ((P i).map (Value.int .i64)))∧(∀i j,i<n→j<n→i≠j→(U i).ownBlock=none∨(U i).ownBlock≠(U j).ownBlock)
theorem Rows2.alloc {w:World} {G n:Nat} {P:Nat→List Int} {U:Nat→Value} (h:Rows2 w G n P U) (o:Obj):Rows2 (w.alloc o) G n P U:=⟨h.1.alloc o,fun i hi=>(h.2.1 i hi).alloc o,h.2.2⟩
theorem Rows2.below {w w':World} {G n:Nat} {P:Nat→List Int} {U:Nat→Value} (h:Rows2 w G n P U) (k:Below w.heap.size w w'):Rows2 w' G n P U:=by
 refine ⟨h.1.of_block (k.block _ h.1.lt),fun i hi=>?_,h.2.2⟩
 refine (h.2.1 i hi).kept (row:=none) ⟨k.os,k.tape,k.output,k.size,fun b hb _=>k.block b hb⟩ ?_
 cases (U i).ownBlock<;>simp
theorem Rows2.congr {w:World} {G n:Nat} {P P':Nat→List Int} {U:Nat→Value} (h:Rows2 w G n P U) (e:∀i,i<n→P i=P' i):Rows2 w G n P' U :=
 ⟨h.1,fun i hi=>by rw [←e i hi];exact h.2.1 i hi,h.2.2⟩
theorem Rows2.step {w w1:World} {G n:Nat} {P:Nat→List Int} {U:Nat→Value} (h:Rows2 w G n P U) {t:Nat} (ht:t<n) (x:Int) (v':Value) (hg:w.grownBy w1 (U t).ownBlock)
  (ho:w1.ownsRow (G+1) 2 1 v' ((P t).length+1) ((P t).map (Value.int .i64)++[.int .i64 x])) (hat:v'.ownBlock=(U t).ownBlock∨v'.ownBlock=some w.heap.size) :
  Rows2 (w1.setCell ⟨G,t,none⟩ v') G n (fun i=>if i=t then P t++[x] else P i) (fun i=>if i=t then v' else U i):=by
 have hr:w1.rowIs G 29 n U:=h.1.of_block (hg.block _ h.1.lt (fun e=>by have:=((h.2.1 t ht).lt _ e.symm).1;omega))
 refine ⟨hr.set t v',fun i hi=>?_,fun i j hi hj hij=>?_⟩
 ·refine ownsRow_setCell_below ?_ (by dsimp only;omega) _
  by_cases e:i=t
  ·subst e
   simp only [if_true,List.length_append,List.length_cons,List.length_nil,List.map_append,List.map_cons,List.map_nil]
   exact ho
  ·simp only [e,if_false]
   exact (h.2.1 i hi).kept hg (h.2.2 i t hi ht e)
 ·have fresh:∀m,m<n→(U m).ownBlock=none∨(U m).ownBlock≠some w.heap.size:=fun m hm=>by
   by_cases e:(U m).ownBlock=some w.heap.size
   ·have:=((h.2.1 m hm).lt _ e).2;omega
   ·exact Or.inr e
  by_cases e1:i=t
  ·subst e1
   have e2:¬j=i:=fun e=>hij e.symm
   simp only [if_true,e2,if_false]
   rcases hat with q | q
   ·rw [q];exact h.2.2 i j hi hj hij
   ·right
    rw [q]
    intro hh
    rcases fresh j hj with f | f
    ·rw [f] at hh;cases hh
    ·exact f hh.symm
  ·simp only [e1,if_false]
   by_cases e2:j=t
   ·subst e2
    simp only [if_true]
    rcases hat with q | q
    ·rw [q];exact h.2.2 i j hi hj hij
    ·rw [q];exact fresh i hi
   ·simp only [e2,if_false]
    exact h.2.2 i j hi hj hij
theorem Rows2.ints {w:World} {G n:Nat} {P:Nat→List Int} {U:Nat→Value} (h:Rows2 w G n P U):IntssAt w G w.heap.size (some ⟨G,0,none⟩) ((List.range n).map P):=fun i hi=>by
 simp only [List.length_map,List.length_range] at hi
 obtain ⟨a,c,hv,ha⟩:=ints_owned (h.2.1 i hi)
 refine ⟨G,0,rfl,⟨Nat.le_refl _,h.1.lt⟩,a,c,?_,?_⟩
 ·simp only [List.getElem_map,List.getElem_range,Nat.zero_add]
  rw [h.1.cell hi,hv]
 ·simp only [List.getElem_map,List.getElem_range]
  exact ha.mono (by omega) (Nat.le_refl _)
theorem Tryd.info45:(Tryd.prog.info? 29).map (fun i=>(i.zero,i.size,i.bytes))=some (some (.slice none 0 0),1,24):=by kernel_rfl
theorem Rows2.born (w:World) (n:Nat):Rows2 (w.alloc (.cells (madeCells #[.slice none 0 0] n) 29)) w.heap.size n (fun _=>[]) (fun _=>.slice none 0 0) :=
 ⟨World.rowIs_made _ _ _ _,fun _ _=>World.ownsRow_nil _ _ _ _,fun _ _ _ _ _=>Or.inl rfl⟩
end Go.Proofs.YtdfdmjcngkfciaaDoor

namespace Go.Proofs.YtdfdmjcngkfciaaDoor
open Go.RowKit
structure SetsAt (w:World) (G n K:Nat) (gs:Nat→Nat) (Ws:Nat→Nat→Nat):Prop where
 row:w.rowIs G 55 n (fun i=>.slice (some ⟨gs i,0,none⟩) K K)
 set:∀i,i<n→w.rowIs (gs i) 88 K (fun j=>.int .u64 (Ws i j))
 inj:∀i j,i<n→j<n→gs i=gs j→i=j
 out:∀i,i<n→gs i≠G
theorem Tryd.infoSet:(Tryd.prog.info? 55).map (fun i=>(i.zero,i.size,i.bytes))=some (some (.agg #[.slice none 0 0]),1,24):=by kernel_rfl
theorem run_makeS {P:Program} (t e:TypeId) (z:Value) (size bytes:Nat) (ht:P.underlying t=some (.slice e)) (hinfo:(P.info? e).map (fun i=>(i.zero,i.size,i.bytes))=some (some z,size,bytes))
  (n:Nat) (hbytes:bytes*n≤281474976710656) (h63:n≤9223372036854775807) (w:World) :
  (Instr.makeSlice t (.int .i64 (n:Int)) (.int .i64 (n:Int))).run P w=.ok (.slice (some ⟨w.heap.size,0,none⟩) n n) (w.alloc (.cells (madeCells z.cells (n*size)) e)):=by
 obtain ⟨i,hi,hq⟩:=Option.map_eq_some_iff.1 hinfo
 simp only [Prod.mk.injEq] at hq
 obtain ⟨hz,hsz,hbt⟩:=hq
 have h:=run_make (P:=P) w t e i z ht hi hz .i64 .i64 (n:Int) (n:Int) (by omega) (Int.le_refl _) (by rw [hbt,←Int.natCast_mul];omega) (by omega)
 simp only [Int.toNat_natCast,hsz] at h
 exact h
structure SetsTo (w wr:World) (G n K q:Nat) (gs:Nat→Nat):Prop where
 low:Below w.heap.size w wr
 base:w.heap.size≤G
 row:wr.rowIs G 55 n (fun i=>if i<q then .slice (some ⟨gs i,0,none⟩) K K else .slice none 0 0)
 set:∀i,i<q→wr.rowIs (gs i) 88 K (fun _=>.int .u64 ((0:Nat):Int))
 inj:∀i j,i<q→j<q→gs i=gs j→i=j
 up:∀i,i<q→G<gs i
theorem SetsTo.next {w wr w1:World} {G n K q g:Nat} {gs:Nat→Nat} (h:SetsTo w wr G n K q gs) (hq:q<n) (hb:Below wr.heap.size wr w1) (hg:wr.heap.size≤g) (hr:w1.rowIs g 88 K (fun _=>.int .u64 ((0:Nat):Int))) :
  SetsTo w (w1.setCell ⟨G,q,none⟩ (.slice (some ⟨g,0,none⟩) K K)) G n K (q+1) (fun i=>if i=q then g else gs i)∧w1.cell? ⟨G,q,none⟩=some (.slice none 0 0)∧w1.frozen? ⟨G,q,none⟩=false:=by
 have hGl:G<wr.heap.size:=h.row.lt
 have hrow:w1.rowIs G 55 n (fun i=>if i<q then .slice (some ⟨gs i,0,none⟩) K K else .slice none 0 0):=h.row.of_block (hb.block G hGl)
 have hgl:∀i,i<q→gs i<wr.heap.size:=fun i hi=>(h.set i hi).lt
 refine ⟨⟨(h.low.trans (hb.mono h.low.size)).setCell h.base _,h.base,(hrow.set q _).congr (fun i _=>?_),fun i hi=>?_,fun i j hi hj e=>?_,fun i hi=>?_⟩,(hrow.cell hq).trans (by simp),hrow.frozen q⟩
 ·by_cases e:i=q
  ·subst e;simp
  ·rw [if_neg e]
   by_cases e2:i<q
   ·rw [if_pos e2,if_pos (by omega)];simp [e]
   ·rw [if_neg e2,if_neg (by omega)]
 ·by_cases e:i=q
  ·rw [if_pos e];exact hr.setOther (by show g≠G;omega) _
  ·rw [if_neg e]
   have:=h.up i (by omega)
   exact ((h.set i (by omega)).of_block (hb.block _ (hgl i (by omega)))).setOther (by show gs i≠G;omega) _
 ·by_cases e1:i=q
  ·by_cases e2:j=q
   ·rw [e1,e2]
   ·rw [if_pos e1,if_neg e2] at e
    have:=hgl j (by omega);omega
  ·by_cases e2:j=q
   ·rw [if_neg e1,if_pos e2] at e
    have:=hgl i (by omega);omega
   ·rw [if_neg e1,if_neg e2] at e
    exact h.inj i j (by omega) (by omega) e
 ·by_cases e:i=q
  ·show G<if i=q then g else gs i
   rw [if_pos e];omega
  ·show G<if i=q then g else gs i
   rw [if_neg e];exact h.up i (by omega)
set_option maxHeartbeats 1000000 in
set_option maxRecDepth 100000 in
theorem newSets_blockNo (n room:Nat) (w:World) (hn:n≤1000) (hr:room≤60000) :
  Calls Tryd.prog 54 #[.int .i64 n,.int .i64 room] w fun e w'=>∃G gs,e=.returned (.slice (some ⟨G,0,none⟩) n n)∧w.heap.size≤G∧Below w.heap.size w w'∧SetsAt w' G n ((room+63) / 64) gs (fun _ _=>0)∧(∀i,i<n→w.heap.size≤gs i):=by
 have hmk:=run_makeS (P:=Tryd.prog) 82 55 (.agg #[.slice none 0 0]) 1 24 Tryd.underlying82 Tryd.infoSet n (by omega) (by omega)
 have HNS:=hide (fun W=>newSet_blockNo room W hr)
 generalize (room+63) / 64=K at *
 go_enter Tryd.func54,Tryd.ntmps54
 go_wp2_with fail
 go_loopw [11] (fun u wr=>∃q:Nat,q≤n∧u=.int .i64 q∧∃gs,Hid (SetsTo w wr w.heap.size n K q gs)) (fun u _=>n-(intOf u).toNat)
 case atStart=>exact ⟨0,Nat.zero_le _,rfl,fun _=>0,hide ⟨balloc (Below.refl _ _) _,Nat.le_refl _,by
  have h:=World.rowIs_made w (.slice none 0 0) n 55
  simpa [Value.cells] using h,fun i hi=>absurd hi (by omega),fun i j hi=>absurd hi (by omega),fun i hi=>absurd hi (by omega)⟩⟩
 case round =>
  obtain ⟨q,hq,rfl,gs,HS⟩:=hrel
  by_cases hlt:q<n
  ·go_wp2_with fail
   refine (HNS.out wr).mono ?_
   rintro e w1 ⟨g,rfl,hg,hb1,hr1⟩
   have hS1:=HS.out.next hlt hb1 hg hr1
   obtain ⟨hS2,hc1,hz1⟩:=hS1
   have HS2:=hide hS2
   clear hS2 hb1 hr1
   go_wp2_with fail
   exact ⟨⟨q+1,by omega,by go_num,_,HS2⟩,by simp [intOf];omega⟩
  ·have hqn:q=n:=by omega
   subst hqn
   go_wp2_with fail
   go_ret
   refine ⟨_,gs,rfl,Nat.le_refl _,HS.out.low,⟨HS.out.row.congr (fun i hi=>by rw [if_pos hi]),HS.out.set,HS.out.inj,fun i hi e=>by have:=HS.out.up i hi;omega⟩,fun i hi=>by have:=HS.out.up i hi;omega⟩
end Go.Proofs.YtdfdmjcngkfciaaDoor

namespace Go.Proofs.YtdfdmjcngkfciaaDoor
open Go.RowKit
/-- What an append, or more of them, may do: the row's own block turns, or the row is a new one. -/
structure Gr (w w' : World) (u v : Value) : Prop where
  grown : w.grownBy w' u.ownBlock
  own : ∀ g, v.ownBlock = some g → w.heap.size ≤ g ∨ u.ownBlock = some g
theorem Gr.refl (w : World) (u : Value) : Gr w w u u := ⟨⟨rfl, rfl, rfl, Nat.le_refl _, fun _ _ _ => rfl⟩, fun _ h => Or.inr h⟩
theorem Gr.trans {a b c : World} {u v x : Value} (h : Gr a b u v) (k : Gr b c v x) : Gr a c u x :=
  ⟨⟨k.grown.os.trans h.grown.os, k.grown.tape.trans h.grown.tape, k.grown.output.trans h.grown.output, Nat.le_trans h.grown.size k.grown.size,
    fun i hi hne => (k.grown.block i (Nat.lt_of_lt_of_le hi h.grown.size) (fun e => by
      rcases h.own i e.symm with h1 | h1
      · omega
      · exact hne h1.symm)).trans (h.grown.block i hi hne)⟩,
   fun g hg => by
    rcases k.own g hg with h1 | h1
    · exact Or.inl (Nat.le_trans h.grown.size h1)
    · exact h.own g h1⟩
theorem Gr.below {w w' W : World} {u v : Value} {B e s n : Nat} {xs : List Value} (h : Gr w w' u v) (ho : w.ownsRow B e s u n xs) (hb : Below B W w) (hB : B ≤ w.heap.size) : Below B W w' :=
  hb.grown h.grown hB (fun k hk => (ho.lt k hk).1)
theorem Gr.alloc {w w' : World} {u v : Value} (h : Gr w w' u v) (o : Obj) : Gr w (w'.alloc o) u v :=
  ⟨⟨h.grown.os, h.grown.tape, h.grown.output, by have := h.grown.size; simp; omega, fun i hi hne => (Below.heap_alloc _ _ _ (Nat.lt_of_lt_of_le hi h.grown.size)).trans (h.grown.block i hi hne)⟩, h.own⟩
end Go.Proofs.YtdfdmjcngkfciaaDoor

namespace Go.Proofs.YtdfdmjcngkfciaaDoor
open Go.RowKit
theorem Gr.same {w w':World} {u v:Value} {L B:Nat} (h:Gr w w' u v) (hu:∀g,u.ownBlock=some g→g<L∨B≤g) (hB:B≤w.heap.size):Same L B w w':=fun k h1 h2 =>
 h.grown.block k (by omega) (fun e=>by have:=hu k e.symm;omega)
end Go.Proofs.YtdfdmjcngkfciaaDoor
