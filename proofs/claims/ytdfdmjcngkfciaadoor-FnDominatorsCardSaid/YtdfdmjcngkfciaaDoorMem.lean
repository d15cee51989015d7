import Derived.WalkKit
import Derived.OrdersHeld
import Derived.Deep.OwnRows
import Derived.Deep.MidRow
import Derived.Deep.Slices
import Derived.Test.YtdfdmjcngkfciaaDoorProg
import Derived.WalkSpells
import Derived.WalkLawsBesides
import Derived.Deep.RegionHeld3
namespace Go.Proofs.YtdfdmjcngkfciaaDoor
open Go.RowKit
structure Ins where
 op:Int
 dst:Int
 a:Int
 b:Int
 imm:Int
structure Ter where
 kind:Int
 a:Int
 to:Int
 els:Int
structure Ph where
 dst:Int
 args:List Int
structure Blk where
 phis:List Ph
 instrs:List Ins
 term:Ter
structure Fn where
 values:Int
 blocks:List Blk
def Ins.cells (x:Ins):List Value:=[.int .i64 x.op,.int .i64 x.dst,.int .i64 x.a,.int .i64 x.b,.int .i64 x.imm]
def Ter.cells (x:Ter):List Value:=[.int .i64 x.kind,.int .i64 x.a,.int .i64 x.to,.int .i64 x.els]
def IntsAt (w:World) (L B:Nat) (a:Option Addr) (xs:List Int):Prop :=
 ∀i (h:i<xs.length),∃b o,a=some ⟨b,o,none⟩∧(L≤b∧b<B)∧w.cell? ⟨b,o+i,none⟩=some (.int .i64 xs[i])
def InsAt (w:World) (b o:Nat) (x:Ins):Prop :=
 w.cell? ⟨b,o,none⟩=some (.int .i64 x.op)∧w.cell? ⟨b,o+1,none⟩=some (.int .i64 x.dst)∧w.cell? ⟨b,o+2,none⟩=some (.int .i64 x.a) ∧
 w.cell? ⟨b,o+3,none⟩=some (.int .i64 x.b)∧w.cell? ⟨b,o+4,none⟩=some (.int .i64 x.imm)
def InssAt (w:World) (L B:Nat) (a:Option Addr) (xs:List Ins):Prop :=
 ∀i (h:i<xs.length),∃b o,a=some ⟨b,o,none⟩∧(L≤b∧b<B)∧InsAt w b (o+i*5) xs[i]
def TerAt (w:World) (b o:Nat) (x:Ter):Prop :=
 w.cell? ⟨b,o,none⟩=some (.int .i64 x.kind)∧w.cell? ⟨b,o+1,none⟩=some (.int .i64 x.a)∧w.cell? ⟨b,o+2,none⟩=some (.int .i64 x.to) ∧
 w.cell? ⟨b,o+3,none⟩=some (.int .i64 x.els)
def PhAt (w:World) (L B b o:Nat) (x:Ph):Prop :=
 ∃a c,w.cell? ⟨b,o,none⟩=some (.int .i64 x.dst)∧w.cell? ⟨b,o+1,none⟩=some (.slice a x.args.length c)∧IntsAt w L B a x.args
def PhsAt (w:World) (L B:Nat) (a:Option Addr) (xs:List Ph):Prop :=
 ∀i (h:i<xs.length),∃b o,a=some ⟨b,o,none⟩∧(L≤b∧b<B)∧PhAt w L B b (o+i*2) xs[i]
def BlkAt (w:World) (L B b o:Nat) (x:Blk):Prop :=
 ∃pa pc ia ic,w.cell? ⟨b,o,none⟩=some (.slice pa x.phis.length pc)∧w.cell? ⟨b,o+1,none⟩=some (.slice ia x.instrs.length ic) ∧
  TerAt w b (o+2) x.term∧PhsAt w L B pa x.phis∧InssAt w L B ia x.instrs
def BlksAt (w:World) (L B:Nat) (a:Option Addr) (xs:List Blk):Prop :=
 ∀i (h:i<xs.length),∃b o,a=some ⟨b,o,none⟩∧(L≤b∧b<B)∧BlkAt w L B b (o+i*6) xs[i]
theorem hide {p:Prop} (h:p):Hid p:=h
theorem unhide {p:Prop} (h:Hid p):p:=h
theorem bnext {w w1 w2:World} (h:Below w.heap.size w w1) (k:Below w1.heap.size w1 w2):Below w.heap.size w w2:=h.trans (k.mono h.size)
theorem bcell {W w1:World} (hb:Below W.heap.size W w1):(∀b o,b<W.heap.size→w1.cell? ⟨b,o,none⟩=W.cell? ⟨b,o,none⟩)∧(∀b o,b<W.heap.size→w1.frozen? ⟨b,o,none⟩=W.frozen? ⟨b,o,none⟩) :=
 ⟨fun b o h=>hb.cell (p:=⟨b,o,none⟩) h,fun b o h=>hb.frozen (p:=⟨b,o,none⟩) h⟩
theorem balloc {w w1:World} (h:Below w.heap.size w w1) (o:Obj):Below w.heap.size w (w1.alloc o):=h.alloc h.size o
def Thaw (L:Nat) (w:World):Prop:=∀b o,L≤b→w.frozen? ⟨b,o,none⟩=false
theorem Thaw.start (w:World):Thaw w.heap.size w:=fun b o h=>by
 unfold World.frozen?
 rw [Array.getElem?_eq_none (by exact h)]
theorem Thaw.alloc {L:Nat} {w:World} (h:Thaw L w) (c:Array Value) (t:TypeId):Thaw L (w.alloc (.cells c t)):=fun b o hb=>by
 by_cases e:b<w.heap.size
 ·rw [World.frozen?_of_block (w:=w) (a:=⟨b,o,none⟩) (Below.heap_alloc _ _ _ e)];exact h b o hb
 ·unfold World.frozen?
  show (match (w.heap.push (.cells c t))[b]? with | some (.cells _ _ (lo,hi))=>decide (lo≤o)&&decide (o<hi) | _=>false)=false
  rw [Array.getElem?_push]
  split
  ·rename_i _ _ _ hh
   split at hh
   ·cases hh;simp
   ·rw [Array.getElem?_eq_none (by omega)] at hh;cases hh
  ·rfl
theorem Thaw.setCell {L:Nat} {w:World} (h:Thaw L w) (p:Addr) (v:Value):Thaw L (w.setCell p v):=fun b o hb=>by rw [World.frozen?_setCell];exact h b o hb
theorem Thaw.drew {L:Nat} {w:World} (h:Thaw L w):Thaw L w.drew:=h
theorem Thaw.trans {L:Nat} {w w1:World} (h:Thaw L w) (k:Below w.heap.size w w1) (t:Thaw w.heap.size w1):Thaw L w1:=fun b o hb=>by
 by_cases e:b<w.heap.size
 ·rw [k.frozen (p:=⟨b,o,none⟩) e];exact h b o hb
 ·exact t b o (by omega)
theorem Thaw.mono {L L':Nat} {w:World} (h:Thaw L w) (l:L≤L'):Thaw L' w:=fun b o hb=>h b o (by omega)
variable {w w' : World} {L B : Nat}
def Same (L B:Nat) (w w':World):Prop:=∀k,L≤k→k<B→w'.heap[k]?=w.heap[k]?
theorem Same.of_below (k:Below B w w'):Same L B w w':=fun i _ h=>k.block i h
theorem Same.mono {L' B':Nat} (h:Same L B w w') (l:L≤L') (k:B'≤B):Same L' B' w w':=fun i hi hj=>h i (by omega) (by omega)
theorem Same.trans {w2:World} (h:Same L B w w') (k:Same L B w' w2):Same L B w w2:=fun i hi hj=>(k i hi hj).trans (h i hi hj)
theorem cell_of {b o:Nat} (h:w'.heap[b]?=w.heap[b]?):w'.cell? ⟨b,o,none⟩=w.cell? ⟨b,o,none⟩:=World.cell?_of_block (w:=w) h
theorem IntsAt.keepS {a:Option Addr} {xs:List Int} (h:IntsAt w L B a xs) (k:Same L B w w'):IntsAt w' L B a xs:=fun i hi=>by
 obtain ⟨b,o,e,hb,hc⟩:=h i hi
 exact ⟨b,o,e,hb,by rw [cell_of (k b hb.1 hb.2)];exact hc⟩
theorem InsAt.keepS {b o:Nat} {x:Ins} (h:InsAt w b o x) (k:w'.heap[b]?=w.heap[b]?):InsAt w' b o x:=by
 obtain ⟨h0,h1,h2,h3,h4⟩:=h
 exact ⟨(cell_of k).trans h0,(cell_of k).trans h1,(cell_of k).trans h2,(cell_of k).trans h3,(cell_of k).trans h4⟩
theorem TerAt.keepS {b o:Nat} {x:Ter} (h:TerAt w b o x) (k:w'.heap[b]?=w.heap[b]?):TerAt w' b o x:=by
 obtain ⟨h0,h1,h2,h3⟩:=h
 exact ⟨(cell_of k).trans h0,(cell_of k).trans h1,(cell_of k).trans h2,(cell_of k).trans h3⟩
theorem InssAt.keepS {a:Option Addr} {xs:List Ins} (h:InssAt w L B a xs) (k:Same L B w w'):InssAt w' L B a xs:=fun i hi=>by
 obtain ⟨b,o,e,hb,hc⟩:=h i hi
 exact ⟨b,o,e,hb,hc.keepS (k b hb.1 hb.2)⟩
theorem PhAt.keepS {b o:Nat} {x:Ph} (h:PhAt w L B b o x) (k:Same L B w w') (e:w'.heap[b]?=w.heap[b]?):PhAt w' L B b o x:=by
 obtain ⟨a,c,h0,h1,h2⟩:=h
 exact ⟨a,c,(cell_of e).trans h0,(cell_of e).trans h1,h2.keepS k⟩
theorem PhsAt.keepS {a:Option Addr} {xs:List Ph} (h:PhsAt w L B a xs) (k:Same L B w w'):PhsAt w' L B a xs:=fun i hi=>by
 obtain ⟨b,o,e,hb,hc⟩:=h i hi
 exact ⟨b,o,e,hb,hc.keepS k (k b hb.1 hb.2)⟩
theorem BlkAt.keepS {b o:Nat} {x:Blk} (h:BlkAt w L B b o x) (k:Same L B w w') (e:w'.heap[b]?=w.heap[b]?):BlkAt w' L B b o x:=by
 obtain ⟨pa,pc,ia,ic,h0,h1,h2,h3,h4⟩:=h
 exact ⟨pa,pc,ia,ic,(cell_of e).trans h0,(cell_of e).trans h1,h2.keepS e,h3.keepS k,h4.keepS k⟩
theorem BlksAt.keepS {a:Option Addr} {xs:List Blk} (h:BlksAt w L B a xs) (k:Same L B w w'):BlksAt w' L B a xs:=fun i hi=>by
 obtain ⟨b,o,e,hb,hc⟩:=h i hi
 exact ⟨b,o,e,hb,hc.keepS k (k b hb.1 hb.2)⟩
theorem IntsAt.keep {a:Option Addr} {xs:List Int} (h:IntsAt w L B a xs) (k:Below B w w'):IntsAt w' L B a xs:=h.keepS (Same.of_below k)
theorem InsAt.keep {b o:Nat} {x:Ins} (h:InsAt w b o x) (k:Below B w w') (hb:b<B):InsAt w' b o x:=h.keepS (k.block b hb)
theorem TerAt.keep {b o:Nat} {x:Ter} (h:TerAt w b o x) (k:Below B w w') (hb:b<B):TerAt w' b o x:=h.keepS (k.block b hb)
theorem InssAt.keep {a:Option Addr} {xs:List Ins} (h:InssAt w L B a xs) (k:Below B w w'):InssAt w' L B a xs:=h.keepS (Same.of_below k)
theorem PhAt.keep {b o:Nat} {x:Ph} (h:PhAt w L B b o x) (k:Below B w w') (hb:b<B):PhAt w' L B b o x:=h.keepS (Same.of_below k) (k.block b hb)
theorem PhsAt.keep {a:Option Addr} {xs:List Ph} (h:PhsAt w L B a xs) (k:Below B w w'):PhsAt w' L B a xs:=h.keepS (Same.of_below k)
theorem BlkAt.keep {b o:Nat} {x:Blk} (h:BlkAt w L B b o x) (k:Below B w w') (hb:b<B):BlkAt w' L B b o x:=h.keepS (Same.of_below k) (k.block b hb)
theorem BlksAt.keep {a:Option Addr} {xs:List Blk} (h:BlksAt w L B a xs) (k:Below B w w'):BlksAt w' L B a xs:=h.keepS (Same.of_below k)
theorem IntsAt.mono {L' B':Nat} {a:Option Addr} {xs:List Int} (h:IntsAt w L B a xs) (l:L'≤L) (k:B≤B'):IntsAt w L' B' a xs:=fun i hi=>by
 obtain ⟨b,o,e,hb,hc⟩:=h i hi
 exact ⟨b,o,e,by omega,hc⟩
theorem InssAt.mono {L' B':Nat} {a:Option Addr} {xs:List Ins} (h:InssAt w L B a xs) (l:L'≤L) (k:B≤B'):InssAt w L' B' a xs:=fun i hi=>by
 obtain ⟨b,o,e,hb,hc⟩:=h i hi
 exact ⟨b,o,e,by omega,hc⟩
theorem PhAt.mono {L' B':Nat} {b o:Nat} {x:Ph} (h:PhAt w L B b o x) (l:L'≤L) (k:B≤B'):PhAt w L' B' b o x:=by
 obtain ⟨a,c,h0,h1,h2⟩:=h
 exact ⟨a,c,h0,h1,h2.mono l k⟩
theorem PhsAt.mono {L' B':Nat} {a:Option Addr} {xs:List Ph} (h:PhsAt w L B a xs) (l:L'≤L) (k:B≤B'):PhsAt w L' B' a xs:=fun i hi=>by
 obtain ⟨b,o,e,hb,hc⟩:=h i hi
 exact ⟨b,o,e,by omega,hc.mono l k⟩
theorem BlkAt.mono {L' B':Nat} {b o:Nat} {x:Blk} (h:BlkAt w L B b o x) (l:L'≤L) (k:B≤B'):BlkAt w L' B' b o x:=by
 obtain ⟨pa,pc,ia,ic,h0,h1,h2,h3,h4⟩:=h
 exact ⟨pa,pc,ia,ic,h0,h1,h2,h3.mono l k,h4.mono l k⟩
theorem BlksAt.mono {L' B':Nat} {a:Option Addr} {xs:List Blk} (h:BlksAt w L B a xs) (l:L'≤L) (k:B≤B'):BlksAt w L' B' a xs:=fun i hi=>by
 obtain ⟨b,o,e,hb,hc⟩:=h i hi
 exact ⟨b,o,e,by omega,hc.mono l k⟩
theorem xA {α:Type} {xs:List α} {i:Nat} (h:i<xs.toArray.size):xs.toArray[i]=xs[i]'(by simpa using h):=rfl
theorem xB {α:Type} {a:α} {ys:List α} {h:0<(a::ys).length}:(a::ys)[0]=a:=rfl
theorem xC {α:Type} {a:α} {ys:List α} {i:Nat} {h:i+1<(a::ys).length}:(a::ys)[i+1]=ys[i]'(Nat.lt_of_succ_lt_succ h):=rfl
theorem xD {α:Type} {l:List α} {i:Nat} {a:α}:l.toArray.setIfInBounds i a=(l.set i a).toArray:=List.setIfInBounds_toArray ..
theorem xE {α:Type} {x:α} {xs:List α} {a:α}:(x::xs).set 0 a=a::xs:=rfl
theorem xF {α:Type} {x:α} {xs:List α} {i:Nat} {a:α}:(x::xs).set (i+1) a=x::xs.set i a:=rfl
theorem tkQ {P:Program} {md:Region.Mode} {ops:Array Oper} {Q:Exit→Act→World→Prop} {S:World→Prop} (i:Nat) {oi:Oper} {v:Value} {fuel:Nat} {listed:Array Bool} {a:Act} {w:World} (hi:ops[i]?=some oi) (hQ:∀c a w,Q (.panic c) (a.put oi.dst v) w→Q (.panic c) a w)
  (h:wpAnyH P md ops Q S fuel (listed.setIfInBounds i true) (a.put oi.dst v) w) (hw:Region.wanted oi (yielded ops a.tmps)=true:=by rfl) (hy:∀(w:World),S w→Sem.run P (execOp a.eval oi) w=Result.ok (Next.value v) w:=by intro w hSw;(try dsimp only at hSw);go_simp;try with_reducible rfl) (hs:Region.noSelect ops=true:=by kernel_rfl) (hf:Region.free md ops listed i=true:=by kernel_rfl) (hr:(Region.ready md ops listed).contains i=true:=by kernel_rfl) (hS:S w:=by assumption):wpAnyH P md ops Q S (fuel+1) listed a w:=wpAnyH_take hi hs hf hr hQ (Or.inl ⟨hw,hy⟩) hS h
theorem tkH {P:Program} {md:Region.Mode} {ops:Array Oper} {Q:Exit→Act→World→Prop} {S:World→Prop} (i:Nat) {oi:Oper} {v:Value} {fuel:Nat} {listed:Array Bool} {a:Act} {w:World} (hi:ops[i]?=some oi)
  (h:wpAnyH P md ops Q S fuel (listed.setIfInBounds i true) (a.put oi.dst v) w) (hQ:∀c a w,Q (.panic c) (a.put oi.dst v) w→Q (.panic c) a w:=by exact fun _ _ _ h=>h) (hw:Region.wanted oi (yielded ops a.tmps)=true:=by rfl) (hy:∀(w:World),S w→Sem.run P (execOp a.eval oi) w=Result.ok (Next.value v) w:=by intro w hSw;(try dsimp only at hSw);go_simp;try with_reducible rfl) (hs:Region.noSelect ops=true:=by kernel_rfl) (hf:Region.free md ops listed i=true:=by kernel_rfl) (hr:(Region.ready md ops listed).contains i=true:=by kernel_rfl) (hS:S w:=by assumption):wpAnyH P md ops Q S (fuel+1) listed a w:=wpAnyH_take hi hs hf hr hQ (Or.inl ⟨hw,hy⟩) hS h
theorem cTr {n:Nat} {w w':World} (k:Below n w w') {b o:Nat} (hb:b<n):w'.cell? ⟨b,o,none⟩=w.cell? ⟨b,o,none⟩:=k.cell (p:=⟨b,o,none⟩) hb
end Go.Proofs.YtdfdmjcngkfciaaDoor

namespace Go.Proofs.YtdfdmjcngkfciaaDoor
open Go.RowKit
variable {w w1 : World} {L B b t N : Nat} {f : Nat → Value}
theorem heap_setCells (b:Nat):∀(vs:List Value) (o:Nat) (w:World) (k:Nat),k≠b→(w.setCells b o vs).heap[k]?=w.heap[k]?
 | [],_,_,_,_=>rfl
 | v::r,o,w,k,h=>by rw [World.setCells,heap_setCells b r _ _ _ h,Below.heap_setCell _ _ _ _ h]
theorem same_setCells (h:Same L B w w1) (vs:List Value) (o:Nat) (hb:b<L∨B≤b):Same L B w (w1.setCells b o vs):=fun k h1 h2=>by
 rw [heap_setCells _ _ _ _ _ (by omega)];exact h k h1 h2
theorem Same.refl (L B:Nat) (w:World):Same L B w w:=fun _ _ _=>rfl
theorem Same.setCell (h:Same L B w w1) {p:Addr} (hp:p.block<L∨B≤p.block) (v:Value):Same L B w (w1.setCell p v):=fun k h1 h2=>by
 rw [Below.heap_setCell _ _ _ _ (by omega)];exact h k h1 h2
theorem size_setCell (w:World) (p:Addr) (v:Value):(w.setCell p v).heap.size=w.heap.size:=by simp [World.setCell]
theorem insAt_range {o:Nat} {x:Ins}:InsAt w b o x↔w.rangeAt b o x.cells:=by
 constructor
 ·rintro ⟨h0,h1,h2,h3,h4⟩ j v hv
  match j,hv with
  | 0,hv=>simp [Ins.cells] at hv;subst hv;exact h0
  | 1,hv=>simp [Ins.cells] at hv;subst hv;exact h1
  | 2,hv=>simp [Ins.cells] at hv;subst hv;exact h2
  | 3,hv=>simp [Ins.cells] at hv;subst hv;exact h3
  | 4,hv=>simp [Ins.cells] at hv;subst hv;exact h4
  | n+5,hv=>simp [Ins.cells] at hv
 ·intro h
  exact ⟨h 0 _ rfl,h 1 _ rfl,h 2 _ rfl,h 3 _ rfl,h 4 _ rfl⟩
theorem InsAt.apart {o o':Nat} {x:Ins} (h:InsAt w b o x) (vs:List Value) (hap:o+5≤o'∨o' + vs.length≤o):InsAt (w.setCells b o' vs) b o x :=
 insAt_range.2 (World.rangeAt_setCells_apart (insAt_range.1 h) b o' vs (by simp only [Ins.cells,List.length_cons,List.length_nil];omega))
theorem out_cell {o o':Nat} {vs:List Value} (hap:o<o'∨o' + vs.length≤o):(w.setCells b o' vs).cell? ⟨b,o,none⟩=w.cell? ⟨b,o,none⟩ :=
 World.cell?_setCells_out b vs o' w ⟨b,o,none⟩ (fun _ _=>hap)
theorem PhAt.apart {o o':Nat} {x:Ph} (h:PhAt w L B b o x) (hb:b<L) (vs:List Value) (hap:o+2≤o'∨o' + vs.length≤o):PhAt (w.setCells b o' vs) L B b o x:=by
 obtain ⟨a,c,h0,h1,h2⟩:=h
 exact ⟨a,c,(out_cell (by omega)).trans h0,(out_cell (by omega)).trans h1,h2.keepS (same_setCells (Same.refl _ _ _) _ _ (Or.inl hb))⟩
theorem TerAt.apart {o o':Nat} {x:Ter} (h:TerAt w b o x) (vs:List Value) (hap:o+4≤o'∨o' + vs.length≤o):TerAt (w.setCells b o' vs) b o x:=by
 obtain ⟨h0,h1,h2,h3⟩:=h
 exact ⟨(out_cell (by omega)).trans h0,(out_cell (by omega)).trans h1,(out_cell (by omega)).trans h2,(out_cell (by omega)).trans h3⟩
theorem BlkAt.apart {o o':Nat} {x:Blk} (h:BlkAt w L B b o x) (hb:b<L) (vs:List Value) (hap:o+6≤o'∨o' + vs.length≤o):BlkAt (w.setCells b o' vs) L B b o x:=by
 obtain ⟨pa,pc,ia,ic,h0,h1,h2,h3,h4⟩:=h
 exact ⟨pa,pc,ia,ic,(out_cell (by omega)).trans h0,(out_cell (by omega)).trans h1,h2.apart _ (by omega),h3.keepS (same_setCells (Same.refl _ _ _) _ _ (Or.inl hb)),h4.keepS (same_setCells (Same.refl _ _ _) _ _ (Or.inl hb))⟩
end Go.Proofs.YtdfdmjcngkfciaaDoor

namespace Go.Proofs.YtdfdmjcngkfciaaDoor
open Go.RowKit Go.Deep
structure IW (L B:Nat) (w w':World):Prop where
 os:w'.os=w.os
 tape:w'.tape=w.tape
 output:w'.output=w.output
 size:w'.heap.size=w.heap.size
 block:∀k,¬(L≤k∧k<B)→w'.heap[k]?=w.heap[k]?
 cell:∀p,w'.cell? p=w.cell? p∨∃u v,w.cell? p=some (.int .i64 u)∧w'.cell? p=some (.int .i64 v)
 frozen:∀p,w'.frozen? p=w.frozen? p
variable {w w' w1 : World} {L B : Nat}
theorem IW.refl (L B:Nat) (w:World):IW L B w w:=⟨rfl,rfl,rfl,rfl,fun _ _=>rfl,fun _=>Or.inl rfl,fun _=>rfl⟩
theorem IW.trans {w2:World} (h:IW L B w w1) (k:IW L B w1 w2):IW L B w w2:=by
 refine ⟨k.os.trans h.os,k.tape.trans h.tape,k.output.trans h.output,k.size.trans h.size,fun i hi=>(k.block i hi).trans (h.block i hi),fun p=>?_,fun p=>(k.frozen p).trans (h.frozen p)⟩
 rcases k.cell p with e | ⟨u,v,e1,e2⟩
 ·rcases h.cell p with f | ⟨u,v,f1,f2⟩
  ·exact Or.inl (e.trans f)
  ·exact Or.inr ⟨u,v,f1,e.trans f2⟩
 ·rcases h.cell p with f | ⟨u',v',f1,f2⟩
  ·exact Or.inr ⟨u,v,f.symm.trans e1,e2⟩
  ·exact Or.inr ⟨u',v,f1,e2⟩
theorem IW.set (h:IW L B w w1) {b o:Nat} (hp:L≤b∧b<B) {u:Int} (hc:w1.cell? ⟨b,o,none⟩=some (.int .i64 u)) (v:Int):IW L B w (w1.setCell ⟨b,o,none⟩ (.int .i64 v)):=by
 refine h.trans ⟨rfl,rfl,rfl,by simp [World.setCell],fun k hk=>Below.heap_setCell _ _ _ _ (by dsimp only;omega),fun p=>?_,fun p=>World.frozen?_setCell _ _ _ _⟩
 by_cases e:p=⟨b,o,none⟩
 ·subst e
  exact Or.inr ⟨u,v,hc,World.cell?_setCell_same _ _ _ hc⟩
 ·exact Or.inl (World.cell?_setCell_other _ _ _ _ (fun h=>e h.symm))
theorem IW.int (h:IW L B w w') {p:Addr} {u:Int} (hc:w.cell? p=some (.int .i64 u)):∃v,w'.cell? p=some (.int .i64 v):=by
 rcases h.cell p with e | ⟨_,v,_,e⟩
 ·exact ⟨u,e.trans hc⟩
 ·exact ⟨v,e⟩
theorem IW.slice (h:IW L B w w') {p:Addr} {a:Option Addr} {n c:Nat} (hc:w.cell? p=some (.slice a n c)):w'.cell? p=some (.slice a n c):=by
 rcases h.cell p with e | ⟨u,_,e,_⟩
 ·exact e.trans hc
 ·rw [hc] at e;cases e
def ThawB (L B:Nat) (w:World):Prop:=∀b o,L≤b∧b<B→w.frozen? ⟨b,o,none⟩=false
theorem ThawB.of {L B:Nat} {w:World} (h:Thaw L w):ThawB L B w:=fun b o hb=>h b o hb.1
theorem ThawB.keepS {L B:Nat} {w w':World} (h:ThawB L B w) (k:Same L B w w'):ThawB L B w':=fun b o hb=>(World.frozen?_of_block (k b hb.1 hb.2)).trans (h b o hb)
theorem ThawB.setCell {L B:Nat} {w:World} (h:ThawB L B w) (p:Addr) (v:Value):ThawB L B (w.setCell p v):=fun b o hb=>by rw [World.frozen?_setCell];exact h b o hb
theorem IW.thaw (h:IW L B w w') {M:Nat} (t:Thaw M w):Thaw M w':=fun b o hb=>(h.frozen _).trans (t b o hb)
variable {L' B' : Nat} {a : Option Addr}
end Go.Proofs.YtdfdmjcngkfciaaDoor

namespace Go.Proofs.YtdfdmjcngkfciaaDoor
open Go.RowKit
def bytesV (l:List UInt8):List Value:=l.map fun b=>Value.int .u8 (b.toNat:Int)
theorem bytesV_snoc (l:List UInt8) (b:UInt8):bytesV (l++[b])=bytesV l++[Value.int .u8 (b.toNat:Int)]:=by simp [bytesV]
def ValsAt (w:World) (L B:Nat) (a:Option Addr) (vs:List Value):Prop:=∀i (h:i<vs.length),∃b o,a=some ⟨b,o,none⟩∧(L≤b∧b<B)∧w.cell? ⟨b,o+i,none⟩=some vs[i]
theorem ValsAt.keepS {w w':World} {L B:Nat} {a:Option Addr} {xs:List Value} (h:ValsAt w L B a xs) (k:Same L B w w'):ValsAt w' L B a xs:=fun i hi=>by
 obtain ⟨b,o,e,hb,hc⟩:=h i hi
 exact ⟨b,o,e,hb,by rw [cell_of (k b hb.1 hb.2)];exact hc⟩
def BytesAt (w:World) (L B:Nat) (a:Option Addr) (bs:List UInt8):Prop:=∀i (h:i<bs.length),∃b o,a=some ⟨b,o,none⟩∧(L≤b∧b<B)∧w.cell? ⟨b,o+i,none⟩=some (.int .u8 (bs[i].toNat:Int))
theorem BytesAt.keepS {w w':World} {L B:Nat} {a:Option Addr} {xs:List UInt8} (h:BytesAt w L B a xs) (k:Same L B w w'):BytesAt w' L B a xs:=fun i hi=>by
 obtain ⟨b,o,e,hb,hc⟩:=h i hi
 exact ⟨b,o,e,hb,by rw [cell_of (k b hb.1 hb.2)];exact hc⟩
theorem BytesAt.keep {w w':World} {L B:Nat} {a:Option Addr} {xs:List UInt8} (h:BytesAt w L B a xs) (k:Below B w w'):BytesAt w' L B a xs:=h.keepS (Same.of_below k)
theorem bytes_owned {w:World} {base e n:Nat} {v:Value} {bs:List UInt8} (h:w.ownsRow base e 1 v n (bytesV bs)):∃a c L B,v=.slice a bs.length c∧BytesAt w L B a bs∧ThawB L B w∧((L=0∧B=0)∨(B=L+1∧base≤L∧L<w.heap.size)):=by
 obtain ⟨hl,h0 | ⟨g,cap,cur,rfl,hg,hh,hc,_,hs,ht⟩⟩:=h
 ·have:bs=[]:=by
   have h2:=h0.2
   subst h2
   simpa [bytesV] using hl
  subst this
  exact ⟨none,0,0,0,h0.1,fun i hi=>absurd hi (by simp),fun b o hb=>absurd hb (by omega),Or.inl ⟨rfl,rfl⟩⟩
 ·have hgl:g<w.heap.size:=(Array.getElem?_eq_some_iff.1 hh).1
  have hn:n=bs.length:=by simpa [bytesV] using hl.symm
  subst hn
  refine ⟨_,_,g,g+1,rfl,fun i hi=>⟨g,0,rfl,⟨Nat.le_refl _,Nat.lt_succ_self _⟩,?_⟩,fun b o hb=>?_,Or.inr ⟨rfl,hg,hgl⟩⟩
  ·rw [Nat.zero_add,cell_of_row w g i cur e (0,0) hh,←Array.getElem?_toList]
   have h3:=congrArg (fun l:List Value=>l[i]?) ht
   simp only [List.getElem?_take,Nat.mul_one,hi,if_true] at h3
   rw [h3]
   simp [bytesV,hi]
  ·have:b=g:=by omega
   subst this
   unfold World.frozen?
   rw [hh];simp
theorem own_base {w:World} {B B' e s n:Nat} {v:Value} {xs:List Value} (h:w.ownsRow B e s v n xs) (hb:B'≤B):w.ownsRow B' e s v n xs:=by
 obtain ⟨hl,h0 | ⟨g,cap,cur,hv,hg,r⟩⟩:=h
 ·exact ⟨hl,.inl h0⟩
 ·exact ⟨hl,.inr ⟨g,cap,cur,hv,Nat.le_trans hb hg,r⟩⟩
end Go.Proofs.YtdfdmjcngkfciaaDoor

namespace Go.Proofs.YtdfdmjcngkfciaaDoor
open Go.RowKit
structure Sr where
 code:List UInt8
 pos:Nat
 mix:Int
 size:Int
def nextP (s:Sr) (n:Int):Int × Sr :=
 if n≤1 then (0,s)
 else if s.pos<s.code.length∧n≤256 then (((s.code.getD s.pos 0).toNat:Int) % n,{ s with pos:=s.pos+1 })
 else ((s.mix*1103+12347) % 1000003 / 3 % n,{ s with mix:=(s.mix*1103+12347) % 1000003 })
structure SrOk (s:Sr):Prop where
 len:s.code.length≤4000
 pos:s.pos≤s.code.length
 mix:0≤s.mix∧s.mix<1000003
 size:1≤s.size∧s.size≤7
theorem next_ok {s:Sr} (h:SrOk s) (n:Int):SrOk (nextP s n).2:=by
 unfold nextP
 split
 ·exact h
 ·split
  ·rename_i h1
   exact ⟨h.len,h1.1,h.mix,h.size⟩
  ·refine ⟨h.len,h.pos,?_,h.size⟩
   show 0≤(s.mix*1103+12347) % 1000003∧(s.mix*1103+12347) % 1000003<1000003
   omega
theorem next_lt (s:Sr) {n:Int} (h:1≤n):0≤(nextP s n).1∧(nextP s n).1<n:=by
 unfold nextP
 split
 ·exact ⟨Int.le_refl _,by show (0:Int)<n;omega⟩
 ·split
  ·exact ⟨Int.emod_nonneg _ (by omega),Int.emod_lt_of_pos _ (by omega)⟩
  ·exact ⟨Int.emod_nonneg _ (by omega),Int.emod_lt_of_pos _ (by omega)⟩
structure SrAt (w:World) (b L B:Nat) (s:Sr):Prop where
 c0:∃a c,w.cell? ⟨b,0,none⟩=some (.slice a s.code.length c)∧BytesAt w L B a s.code
 c1:w.cell? ⟨b,1,none⟩=some (.int .i64 s.pos)
 c2:w.cell? ⟨b,2,none⟩=some (.int .i64 s.mix)
 c3:w.cell? ⟨b,3,none⟩=some (.int .i64 s.size)
 thaw:∀q,w.frozen? ⟨b,q,none⟩=false
 out:¬(L≤b∧b<B)
theorem bytes_set {w:World} {b q L B:Nat} {a:Option Addr} {bs:List UInt8} (v:Value) (hb:BytesAt w L B a bs) (ho:¬(L≤b∧b<B)):BytesAt (w.setCell ⟨b,q,none⟩ v) L B a bs:=hb.keepS (fun k h1 h2=>Below.heap_setCell _ _ _ _ (by show k≠b;intro e;exact ho (by omega)))
theorem set_other (w:World) (b:Nat) {o o':Nat} (h:o≠o') (v:Value):(w.setCell ⟨b,o,none⟩ v).cell? ⟨b,o',none⟩=w.cell? ⟨b,o',none⟩:=World.cell?_setCell_other _ _ _ _ (by intro e;injection e with _ e2;exact h e2)
theorem SrAt.mix {w:World} {b L B:Nat} {s:Sr} (h:SrAt w b L B s) (m:Int):SrAt (w.setCell ⟨b,2,none⟩ (.int .i64 m)).drew b L B { s with mix:=m }:=by
 obtain ⟨a,c,e0,hb⟩:=h.c0
 exact ⟨⟨a,c,(set_other w b (by omega) _).trans e0,bytes_set _ hb h.out⟩,(set_other w b (by omega) _).trans h.c1,World.cell?_setCell_same w _ _ h.c2,(set_other w b (by omega) _).trans h.c3,fun q=>by show (w.setCell _ _).frozen? _=false;rw [World.frozen?_setCell];exact h.thaw q,h.out⟩
theorem SrAt.pos {w:World} {b L B:Nat} {s:Sr} (h:SrAt w b L B s) (m:Nat):SrAt (w.setCell ⟨b,1,none⟩ (.int .i64 m)).drew b L B { s with pos:=m }:=by
 obtain ⟨a,c,e0,hb⟩:=h.c0
 exact ⟨⟨a,c,(set_other w b (by omega) _).trans e0,bytes_set _ hb h.out⟩,World.cell?_setCell_same w _ _ h.c1,(set_other w b (by omega) _).trans h.c2,(set_other w b (by omega) _).trans h.c3,fun q=>by show (w.setCell _ _).frozen? _=false;rw [World.frozen?_setCell];exact h.thaw q,h.out⟩
theorem SrAt.drew {w:World} {b L B:Nat} {s:Sr} (h:SrAt w b L B s):SrAt w.drew b L B s:=⟨h.c0,h.c1,h.c2,h.c3,h.thaw,h.out⟩
theorem grown_set (w:World) (b q:Nat) (v:Value):w.grownBy (w.setCell ⟨b,q,none⟩ v).drew (some b):=⟨rfl,rfl,rfl,by simp [World.setCell,World.drew],fun k _ hk=>Below.heap_setCell _ _ _ _ (fun e=>hk (by rw [e]))⟩
set_option maxHeartbeats 1000000 in
set_option maxRecDepth 100000 in
theorem next_any (b L B:Nat) (s:Sr) (n:Int) (w:World) (hs:Hid (SrAt w b L B s)) (hk:Hid (SrOk s)) (hn:n≤1000000) (hn0:-1000000≤n) :
  Calls Tryd.prog 27 #[.pointer (some ⟨b,0,none⟩),.int .i64 n] w fun e w'=>e=.returned (.int .i64 (nextP s n).1)∧SrAt w' b L B (nextP s n).2∧w.grownBy w' (some b):=by
 obtain ⟨a,c,e0,hb⟩:=hs.out.c0
 have e1:=hs.out.c1
 have e2:=hs.out.c2
 have z1:=hs.out.thaw 1
 have z2:=hs.out.thaw 2
 have HB:=hide hb
 clear hb
 have hp:=hk.out.pos
 have hl:=hk.out.len
 have hm:=hk.out.mix
 have HN:Hid (nextP s n=if n≤1 then (0,s) else if s.pos<s.code.length∧n≤256 then (((s.code.getD s.pos 0).toNat:Int) % n,{ s with pos:=s.pos+1 }) else ((s.mix*1103+12347) % 1000003 / 3 % n,{ s with mix:=(s.mix*1103+12347) % 1000003 })):=hide rfl
 by_cases h1:n≤1
 ·have HR:Hid (nextP s n=(0,s)):=hide (by rw [HN.out,if_pos h1])
  clear HN
  go_enter Tryd.func27,Tryd.ntmps27
  go_wp2
  go_ret
  rw [HR.out]
  exact ⟨rfl,hs.out,⟨rfl,rfl,rfl,Nat.le_refl _,fun _ _ _=>rfl⟩⟩
 ·by_cases h2:s.pos<s.code.length∧n≤256
  ·have HR:Hid (nextP s n=(((s.code.getD s.pos 0).toNat:Int) % n,{ s with pos:=s.pos+1 })):=hide (by rw [HN.out,if_neg h1,if_pos h2])
   obtain ⟨h3,h4⟩:=h2
   obtain ⟨b',o',rfl,hbb,hc⟩:=HB.out s.pos h3
   have HG:Hid (s.code.getD s.pos 0=s.code[s.pos]):=hide (by simp [h3])
   have hby:s.code[s.pos].toNat<256:=UInt8.toNat_lt _
   have HC0:=hide hs.out
   generalize s.code[s.pos]=by0 at *
   generalize hbn:by0.toNat=bn at *
   have hrem:((bn:Nat):Int).tmod n=(bn:Int) % n:=Int.tmod_eq_emod_of_nonneg (by omega)
   clear HN hbb
   have hlt:(s.pos:Int)<(s.code.length:Int):=by omega
   generalize hcl:s.code.length=cl at *
   go_enter Tryd.func27,Tryd.ntmps27
   go_wp2
   go_region
   go_wp2
   go_region
   go_wp2
   go_ret
   rw [HR.out]
   have hsp:=(hs.out.pos (s.pos+1)).drew
   have hgs:=(grown_set w b 1 (.int .i64 ((s.pos+1:Nat):Int)))
   rw [Int.natCast_add] at hsp hgs
   refine ⟨?_,hsp,⟨hgs.os,hgs.tape,hgs.output,hgs.size,hgs.block⟩⟩
   rw [HG.out,hbn]
   rfl
  ·have HR:Hid (nextP s n=((s.mix*1103+12347) % 1000003 / 3 % n,{ s with mix:=(s.mix*1103+12347) % 1000003 })):=hide (by rw [HN.out,if_neg h1,if_neg h2])
   have hrem:(s.mix*1103+12347).tmod 1000003=(s.mix*1103+12347) % 1000003:=Int.tmod_eq_emod_of_nonneg (by omega)
   have hq:((s.mix*1103+12347) % 1000003).tdiv 3=(s.mix*1103+12347) % 1000003 / 3:=Int.tdiv_eq_ediv_of_nonneg (by omega)
   have hr2:((s.mix*1103+12347) % 1000003 / 3).tmod n=(s.mix*1103+12347) % 1000003 / 3 % n:=Int.tmod_eq_emod_of_nonneg (by omega)
   clear HN
   by_cases h3:s.pos<s.code.length
   ·have h4:¬n≤256:=fun h4=>h2 ⟨h3,h4⟩
    clear h2
    have hlt:(s.pos:Int)<(s.code.length:Int):=by omega
    generalize hcl:s.code.length=cl at *
    go_enter Tryd.func27,Tryd.ntmps27
    go_wp2
    go_region
    go_wp2
    go_ret
    rw [HR.out]
    exact ⟨rfl,hs.out.mix _,grown_set _ _ _ _⟩
   ·clear h2
    have hlt:¬(s.pos:Int)<(s.code.length:Int):=by omega
    generalize hcl:s.code.length=cl at *
    go_enter Tryd.func27,Tryd.ntmps27
    go_wp2
    go_region
    go_wp2
    go_ret
    rw [HR.out]
    exact ⟨rfl,hs.out.mix _,grown_set _ _ _ _⟩
end Go.Proofs.YtdfdmjcngkfciaaDoor

namespace Go.Proofs.YtdfdmjcngkfciaaDoor
structure Mv where
 to:Int
 frm:Int
def isRead (L:List Mv) (r:Int):Bool:=L.any fun m=>m.frm==r
def lowI:List Int→Option Int
 | []=>none
 | x::xs=>match lowI xs with
  | none=>some x
  | some y=>some (if x<y then x else y)
def tosM (L:List Mv):List Int:=L.map (·.to)
def freeT (L:List Mv):List Int:=(tosM L).filter fun t=>!isRead L t
def cpI (m:Mv):Ins:=if m.frm<0 then ⟨13,m.to,0,0,0⟩ else ⟨11,m.to,m.frm,0,0⟩
def fromOf (L:List Mv) (t:Int):Int:=((L.find? fun m=>m.to==t).map (·.frm)).getD 0
def without (L:List Mv) (t:Int):List Mv:=L.filter fun m=>m.to != t
def scratch (L:List Mv) (r:Int):List Mv:=L.map fun m=>if m.frm=r then ⟨m.to,-1⟩ else m
def stepM (L:List Mv):Ins × List Mv:=match lowI (freeT L) with
 | some t=>(cpI ⟨t,fromOf L t⟩,without L t)
 | none=>match lowI (tosM L) with
  | some r=>(⟨12,0,r,0,0⟩,scratch L r)
  | none=>(⟨0,0,0,0,0⟩,[])
structure MvOk (L:List Mv):Prop where
 nd:(tosM L).Nodup
 to:∀m∈L,0≤m.to∧m.to<64
 frm:∀m∈L,m.frm=-1∨(0≤m.frm∧m.frm<64)
 ne:∀m∈L,m.frm≠m.to
def meas (L:List Mv):Nat:=L.length+(L.filter fun m=>decide (0≤m.frm)).length
theorem MvOk.nil:MvOk []:=⟨by simp [tosM],by simp,by simp,by simp⟩
theorem MvOk.without {L:List Mv} (h:MvOk L) (t:Int):MvOk (without L t):=by
 refine ⟨?_,fun m hm=>h.to m (List.mem_filter.1 hm).1,fun m hm=>h.frm m (List.mem_filter.1 hm).1,fun m hm=>h.ne m (List.mem_filter.1 hm).1⟩
 exact h.nd.sublist (List.filter_sublist.map _)
theorem tos_scratch (L:List Mv) (r:Int):tosM (scratch L r)=tosM L:=by
 unfold tosM scratch
 rw [List.map_map]
 refine List.map_congr_left (fun m _=>?_)
 show (if m.frm=r then (⟨m.to,-1⟩:Mv) else m).to=m.to
 split<;>rfl
theorem MvOk.scratch {L:List Mv} (h:MvOk L) (r:Int):MvOk (scratch L r):=by
 have key:∀m∈Go.Proofs.YtdfdmjcngkfciaaDoor.scratch L r,∃q∈L,m=(if q.frm=r then ⟨q.to,-1⟩ else q):=fun m hm=>by
  obtain ⟨q,hq,e⟩:=List.mem_map.1 hm
  exact ⟨q,hq,e.symm⟩
 refine ⟨by rw [tos_scratch];exact h.nd,fun m hm=>?_,fun m hm=>?_,fun m hm=>?_⟩<;>obtain ⟨q,hq,rfl⟩:=key m hm
 ·have:=h.to q hq;split<;>exact this
 ·split
  ·exact Or.inl rfl
  ·exact h.frm q hq
 ·have h1:=h.to q hq
  have h2:=h.ne q hq
  split
  ·show (-1:Int)≠q.to;omega
  ·exact h2
theorem MvOk.step {L:List Mv} (h:MvOk L):MvOk (stepM L).2:=by
 unfold stepM
 split
 ·exact h.without _
 ·split
  ·exact h.scratch _
  ·exact MvOk.nil
def startM (L:List Mv):List Mv:=L.filter fun m=>m.to != m.frm
structure GoodL (L:List Mv):Prop where
 nd:(tosM L).Nodup
 rng:∀m∈L,0≤m.to∧m.to<64∧0≤m.frm∧m.frm<64
theorem GoodL.start {L:List Mv} (h:GoodL L):MvOk (startM L)∧meas (startM L)=2*(startM L).length:=by
 have sub:∀m∈startM L,m∈L∧m.to≠m.frm:=fun m hm=>by simpa [startM] using hm
 refine ⟨⟨h.nd.sublist (List.filter_sublist.map _),fun m hm=>?_,fun m hm=>?_,fun m hm=>?_⟩,?_⟩
 ·have:=h.rng m (sub m hm).1;omega
 ·have:=h.rng m (sub m hm).1;omega
 ·exact fun e=>(sub m hm).2 e.symm
 ·unfold meas
  rw [List.filter_eq_self.2 (fun m hm=>by have:=h.rng m (sub m hm).1;simp;omega)]
  omega
end Go.Proofs.YtdfdmjcngkfciaaDoor

namespace Go.Proofs.YtdfdmjcngkfciaaDoor
def mixP (c:List UInt8) (m:Int):Int:=c.foldl (fun m b=>(m*257+(b.toNat:Int)+1) % 1000003) m
def srcP (bs:List UInt8):Sr:=⟨bs.take 4000,0,mixP (bs.take 4000) (((bs.length % 1000:Nat):Int)+29),if 1+(((bs.take 4000).length:Nat):Int) / 50 > 7 then 7 else 1+(((bs.take 4000).length:Nat):Int) / 50⟩
theorem mix_rng:∀(c:List UInt8) (m:Int),0≤m→m<1000003→0≤mixP c m∧mixP c m<1000003
 | [],m,h0,h1=>⟨h0,h1⟩
 | b::c,m,h0,h1=>mix_rng c _ (Int.emod_nonneg _ (by decide)) (Int.emod_lt_of_pos _ (by decide))
theorem mix_take (c:List UInt8) (m:Int) (j:Nat) (h:j<c.length):mixP (c.take (j+1)) m=(mixP (c.take j) m*257+(c[j].toNat:Int)+1) % 1000003:=by
 unfold mixP
 rw [List.take_succ_eq_append_getElem h,List.foldl_append]
 rfl
theorem srcP_ok (bs:List UInt8):SrOk (srcP bs):=by
 refine ⟨?_,Nat.zero_le _,mix_rng _ _ (by omega) (by have:=Nat.mod_lt bs.length (show 0<1000 by decide);omega),?_⟩
 ·show (bs.take 4000).length≤4000
  rw [List.length_take];omega
 ·unfold srcP
  dsimp only
  split<;>omega
theorem getD_mem {T:Type} (xs:List T) (d:T) {i:Nat} (h:i<xs.length):xs.getD i d∈xs:=by
 rw [show xs.getD i d=xs[i] by simp [h]]
 exact List.getElem_mem h
end Go.Proofs.YtdfdmjcngkfciaaDoor
