import Derived.WalkKit
import Derived.OrdersHeld
import Derived.Laws.BitsAllLaws
import Derived.Test.YthgikffcdgpgiaaGreatDoorProg
import Derived.WalkSpells
import Derived.WalkLawsBesides
namespace Go.Proofs.YthgikffcdgpgiaaGreatDoor
open Go.RowKit
structure Ins where
 op:Int
 dst:Int
 a:Int
 b:Int
 imm:Int
structure Ter where
 kind:Int
 a:Int
 to:Int
 els:Int
structure Ph where
 dst:Int
 args:List Int
structure Blk where
 phis:List Ph
 instrs:List Ins
 term:Ter
structure Fn where
 values:Int
 blocks:List Blk
def Ins.cells (x:Ins):List Value:=[.int .i64 x.op,.int .i64 x.dst,.int .i64 x.a,.int .i64 x.b,.int .i64 x.imm]
def IntsAt (w:World) (L B:Nat) (a:Option Addr) (xs:List Int):Prop :=
 ∀i (h:i<xs.length),∃b o,a=some ⟨b,o,none⟩∧(L≤b∧b<B)∧w.cell? ⟨b,o+i,none⟩=some (.int .i64 xs[i])
def InsAt (w:World) (b o:Nat) (x:Ins):Prop :=
 w.cell? ⟨b,o,none⟩=some (.int .i64 x.op)∧w.cell? ⟨b,o+1,none⟩=some (.int .i64 x.dst)∧w.cell? ⟨b,o+2,none⟩=some (.int .i64 x.a) ∧
 w.cell? ⟨b,o+3,none⟩=some (.int .i64 x.b)∧w.cell? ⟨b,o+4,none⟩=some (.int .i64 x.imm)
def InssAt (w:World) (L B:Nat) (a:Option Addr) (xs:List Ins):Prop :=
 ∀i (h:i<xs.length),∃b o,a=some ⟨b,o,none⟩∧(L≤b∧b<B)∧InsAt w b (o+i*5) xs[i]
def TerAt (w:World) (b o:Nat) (x:Ter):Prop :=
 w.cell? ⟨b,o,none⟩=some (.int .i64 x.kind)∧w.cell? ⟨b,o+1,none⟩=some (.int .i64 x.a)∧w.cell? ⟨b,o+2,none⟩=some (.int .i64 x.to) ∧
 w.cell? ⟨b,o+3,none⟩=some (.int .i64 x.els)
def PhAt (w:World) (L B b o:Nat) (x:Ph):Prop :=
 ∃a c,w.cell? ⟨b,o,none⟩=some (.int .i64 x.dst)∧w.cell? ⟨b,o+1,none⟩=some (.slice a x.args.length c)∧IntsAt w L B a x.args
def PhsAt (w:World) (L B:Nat) (a:Option Addr) (xs:List Ph):Prop :=
 ∀i (h:i<xs.length),∃b o,a=some ⟨b,o,none⟩∧(L≤b∧b<B)∧PhAt w L B b (o+i*2) xs[i]
def BlkAt (w:World) (L B b o:Nat) (x:Blk):Prop :=
 ∃pa pc ia ic,w.cell? ⟨b,o,none⟩=some (.slice pa x.phis.length pc)∧w.cell? ⟨b,o+1,none⟩=some (.slice ia x.instrs.length ic) ∧
  TerAt w b (o+2) x.term∧PhsAt w L B pa x.phis∧InssAt w L B ia x.instrs
def BlksAt (w:World) (L B:Nat) (a:Option Addr) (xs:List Blk):Prop :=
 ∀i (h:i<xs.length),∃b o,a=some ⟨b,o,none⟩∧(L≤b∧b<B)∧BlkAt w L B b (o+i*6) xs[i]
theorem hide {p:Prop} (h:p):Hid p:=h
theorem unhide {p:Prop} (h:Hid p):p:=h
theorem bnext {w w1 w2:World} (h:Below w.heap.size w w1) (k:Below w1.heap.size w1 w2):Below w.heap.size w w2:=h.trans (k.mono h.size)
theorem bcell {W w1:World} (hb:Below W.heap.size W w1):(∀b o,b<W.heap.size→w1.cell? ⟨b,o,none⟩=W.cell? ⟨b,o,none⟩)∧(∀b o,b<W.heap.size→w1.frozen? ⟨b,o,none⟩=W.frozen? ⟨b,o,none⟩) :=
 ⟨fun b o h=>hb.cell (p:=⟨b,o,none⟩) h,fun b o h=>hb.frozen (p:=⟨b,o,none⟩) h⟩
theorem balloc {w w1:World} (h:Below w.heap.size w w1) (o:Obj):Below w.heap.size w (w1.alloc o):=h.alloc h.size o
def Thaw (L:Nat) (w:World):Prop:=∀b o,L≤b→w.frozen? ⟨b,o,none⟩=false
theorem Thaw.start (w:World):Thaw w.heap.size w:=fun b o h=>by
 unfold World.frozen?
 rw [Array.getElem?_eq_none (by exact h)]
theorem Thaw.alloc {L:Nat} {w:World} (h:Thaw L w) (c:Array Value) (t:TypeId):Thaw L (w.alloc (.cells c t)):=fun b o hb=>by
 by_cases e:b<w.heap.size
 ·rw [World.frozen?_of_block (w:=w) (a:=⟨b,o,none⟩) (Below.heap_alloc _ _ _ e)];exact h b o hb
 ·unfold World.frozen?
  show (match (w.heap.push (.cells c t))[b]? with | some (.cells _ _ (lo,hi))=>decide (lo≤o)&&decide (o<hi) | _=>false)=false
  rw [Array.getElem?_push]
  split
  ·rename_i _ _ _ hh
   split at hh
   ·cases hh;simp
   ·rw [Array.getElem?_eq_none (by omega)] at hh;cases hh
  ·rfl
theorem Thaw.setCell {L:Nat} {w:World} (h:Thaw L w) (p:Addr) (v:Value):Thaw L (w.setCell p v):=fun b o hb=>by rw [World.frozen?_setCell];exact h b o hb
theorem Thaw.trans {L:Nat} {w w1:World} (h:Thaw L w) (k:Below w.heap.size w w1) (t:Thaw w.heap.size w1):Thaw L w1:=fun b o hb=>by
 by_cases e:b<w.heap.size
 ·rw [k.frozen (p:=⟨b,o,none⟩) e];exact h b o hb
 ·exact t b o (by omega)
variable {w w' : World} {L B : Nat}
def Same (L B:Nat) (w w':World):Prop:=∀k,L≤k→k<B→w'.heap[k]?=w.heap[k]?
theorem Same.of_below (k:Below B w w'):Same L B w w':=fun i _ h=>k.block i h
theorem Same.trans {w2:World} (h:Same L B w w') (k:Same L B w' w2):Same L B w w2:=fun i hi hj=>(k i hi hj).trans (h i hi hj)
theorem cell_of {b o:Nat} (h:w'.heap[b]?=w.heap[b]?):w'.cell? ⟨b,o,none⟩=w.cell? ⟨b,o,none⟩:=World.cell?_of_block (w:=w) h
theorem IntsAt.keepS {a:Option Addr} {xs:List Int} (h:IntsAt w L B a xs) (k:Same L B w w'):IntsAt w' L B a xs:=fun i hi=>by
 obtain ⟨b,o,e,hb,hc⟩:=h i hi
 exact ⟨b,o,e,hb,by rw [cell_of (k b hb.1 hb.2)];exact hc⟩
theorem InsAt.keepS {b o:Nat} {x:Ins} (h:InsAt w b o x) (k:w'.heap[b]?=w.heap[b]?):InsAt w' b o x:=by
 obtain ⟨h0,h1,h2,h3,h4⟩:=h
 exact ⟨(cell_of k).trans h0,(cell_of k).trans h1,(cell_of k).trans h2,(cell_of k).trans h3,(cell_of k).trans h4⟩
theorem TerAt.keepS {b o:Nat} {x:Ter} (h:TerAt w b o x) (k:w'.heap[b]?=w.heap[b]?):TerAt w' b o x:=by
 obtain ⟨h0,h1,h2,h3⟩:=h
 exact ⟨(cell_of k).trans h0,(cell_of k).trans h1,(cell_of k).trans h2,(cell_of k).trans h3⟩
theorem InssAt.keepS {a:Option Addr} {xs:List Ins} (h:InssAt w L B a xs) (k:Same L B w w'):InssAt w' L B a xs:=fun i hi=>by
 obtain ⟨b,o,e,hb,hc⟩:=h i hi
 exact ⟨b,o,e,hb,hc.keepS (k b hb.1 hb.2)⟩
theorem PhAt.keepS {b o:Nat} {x:Ph} (h:PhAt w L B b o x) (k:Same L B w w') (e:w'.heap[b]?=w.heap[b]?):PhAt w' L B b o x:=by
 obtain ⟨a,c,h0,h1,h2⟩:=h
 exact ⟨a,c,(cell_of e).trans h0,(cell_of e).trans h1,h2.keepS k⟩
theorem PhsAt.keepS {a:Option Addr} {xs:List Ph} (h:PhsAt w L B a xs) (k:Same L B w w'):PhsAt w' L B a xs:=fun i hi=>by
 obtain ⟨b,o,e,hb,hc⟩:=h i hi
 exact ⟨b,o,e,hb,hc.keepS k (k b hb.1 hb.2)⟩
theorem BlkAt.keepS {b o:Nat} {x:Blk} (h:BlkAt w L B b o x) (k:Same L B w w') (e:w'.heap[b]?=w.heap[b]?):BlkAt w' L B b o x:=by
 obtain ⟨pa,pc,ia,ic,h0,h1,h2,h3,h4⟩:=h
 exact ⟨pa,pc,ia,ic,(cell_of e).trans h0,(cell_of e).trans h1,h2.keepS e,h3.keepS k,h4.keepS k⟩
theorem BlksAt.keepS {a:Option Addr} {xs:List Blk} (h:BlksAt w L B a xs) (k:Same L B w w'):BlksAt w' L B a xs:=fun i hi=>by
 obtain ⟨b,o,e,hb,hc⟩:=h i hi
 exact ⟨b,o,e,hb,hc.keepS k (k b hb.1 hb.2)⟩
theorem IntsAt.keep {a:Option Addr} {xs:List Int} (h:IntsAt w L B a xs) (k:Below B w w'):IntsAt w' L B a xs:=h.keepS (Same.of_below k)
theorem InsAt.keep {b o:Nat} {x:Ins} (h:InsAt w b o x) (k:Below B w w') (hb:b<B):InsAt w' b o x:=h.keepS (k.block b hb)
theorem InssAt.keep {a:Option Addr} {xs:List Ins} (h:InssAt w L B a xs) (k:Below B w w'):InssAt w' L B a xs:=h.keepS (Same.of_below k)
theorem PhAt.keep {b o:Nat} {x:Ph} (h:PhAt w L B b o x) (k:Below B w w') (hb:b<B):PhAt w' L B b o x:=h.keepS (Same.of_below k) (k.block b hb)
theorem PhsAt.keep {a:Option Addr} {xs:List Ph} (h:PhsAt w L B a xs) (k:Below B w w'):PhsAt w' L B a xs:=h.keepS (Same.of_below k)
theorem BlkAt.keep {b o:Nat} {x:Blk} (h:BlkAt w L B b o x) (k:Below B w w') (hb:b<B):BlkAt w' L B b o x:=h.keepS (Same.of_below k) (k.block b hb)
theorem BlksAt.keep {a:Option Addr} {xs:List Blk} (h:BlksAt w L B a xs) (k:Below B w w'):BlksAt w' L B a xs:=h.keepS (Same.of_below k)
theorem IntsAt.mono {L' B':Nat} {a:Option Addr} {xs:List Int} (h:IntsAt w L B a xs) (l:L'≤L) (k:B≤B'):IntsAt w L' B' a xs:=fun i hi=>by
 obtain ⟨b,o,e,hb,hc⟩:=h i hi
 exact ⟨b,o,e,by omega,hc⟩
theorem InssAt.mono {L' B':Nat} {a:Option Addr} {xs:List Ins} (h:InssAt w L B a xs) (l:L'≤L) (k:B≤B'):InssAt w L' B' a xs:=fun i hi=>by
 obtain ⟨b,o,e,hb,hc⟩:=h i hi
 exact ⟨b,o,e,by omega,hc⟩
theorem PhAt.mono {L' B':Nat} {b o:Nat} {x:Ph} (h:PhAt w L B b o x) (l:L'≤L) (k:B≤B'):PhAt w L' B' b o x:=by
 obtain ⟨a,c,h0,h1,h2⟩:=h
 exact ⟨a,c,h0,h1,h2.mono l k⟩
theorem PhsAt.mono {L' B':Nat} {a:Option Addr} {xs:List Ph} (h:PhsAt w L B a xs) (l:L'≤L) (k:B≤B'):PhsAt w L' B' a xs:=fun i hi=>by
 obtain ⟨b,o,e,hb,hc⟩:=h i hi
 exact ⟨b,o,e,by omega,hc.mono l k⟩
theorem BlkAt.mono {L' B':Nat} {b o:Nat} {x:Blk} (h:BlkAt w L B b o x) (l:L'≤L) (k:B≤B'):BlkAt w L' B' b o x:=by
 obtain ⟨pa,pc,ia,ic,h0,h1,h2,h3,h4⟩:=h
 exact ⟨pa,pc,ia,ic,h0,h1,h2,h3.mono l k,h4.mono l k⟩
theorem BlksAt.mono {L' B':Nat} {a:Option Addr} {xs:List Blk} (h:BlksAt w L B a xs) (l:L'≤L) (k:B≤B'):BlksAt w L' B' a xs:=fun i hi=>by
 obtain ⟨b,o,e,hb,hc⟩:=h i hi
 exact ⟨b,o,e,by omega,hc.mono l k⟩
theorem xA {α:Type} {xs:List α} {i:Nat} (h:i<xs.toArray.size):xs.toArray[i]=xs[i]'(by simpa using h):=rfl
theorem xB {α:Type} {a:α} {ys:List α} {h:0<(a::ys).length}:(a::ys)[0]=a:=rfl
theorem xC {α:Type} {a:α} {ys:List α} {i:Nat} {h:i+1<(a::ys).length}:(a::ys)[i+1]=ys[i]'(Nat.lt_of_succ_lt_succ h):=rfl
theorem xD {α:Type} {l:List α} {i:Nat} {a:α}:l.toArray.setIfInBounds i a=(l.set i a).toArray:=List.setIfInBounds_toArray ..
theorem xE {α:Type} {x:α} {xs:List α} {a:α}:(x::xs).set 0 a=a::xs:=rfl
theorem xF {α:Type} {x:α} {xs:List α} {i:Nat} {a:α}:(x::xs).set (i+1) a=x::xs.set i a:=rfl
theorem tkQ {P:Program} {md:Region.Mode} {ops:Array Oper} {Q:Exit→Act→World→Prop} {S:World→Prop} (i:Nat) {oi:Oper} {v:Value} {fuel:Nat} {listed:Array Bool} {a:Act} {w:World} (hi:ops[i]?=some oi) (hQ:∀c a w,Q (.panic c) (a.put oi.dst v) w→Q (.panic c) a w)
  (h:wpAnyH P md ops Q S fuel (listed.setIfInBounds i true) (a.put oi.dst v) w) (hw:Region.wanted oi (yielded ops a.tmps)=true:=by rfl) (hy:∀(w:World),S w→Sem.run P (execOp a.eval oi) w=Result.ok (Next.value v) w:=by intro w hSw;(try dsimp only at hSw);go_simp;try with_reducible rfl) (hs:Region.noSelect ops=true:=by kernel_rfl) (hf:Region.free md ops listed i=true:=by kernel_rfl) (hr:(Region.ready md ops listed).contains i=true:=by kernel_rfl) (hS:S w:=by assumption):wpAnyH P md ops Q S (fuel+1) listed a w:=wpAnyH_take hi hs hf hr hQ (Or.inl ⟨hw,hy⟩) hS h
theorem tkH {P:Program} {md:Region.Mode} {ops:Array Oper} {Q:Exit→Act→World→Prop} {S:World→Prop} (i:Nat) {oi:Oper} {v:Value} {fuel:Nat} {listed:Array Bool} {a:Act} {w:World} (hi:ops[i]?=some oi)
  (h:wpAnyH P md ops Q S fuel (listed.setIfInBounds i true) (a.put oi.dst v) w) (hQ:∀c a w,Q (.panic c) (a.put oi.dst v) w→Q (.panic c) a w:=by exact fun _ _ _ h=>h) (hw:Region.wanted oi (yielded ops a.tmps)=true:=by rfl) (hy:∀(w:World),S w→Sem.run P (execOp a.eval oi) w=Result.ok (Next.value v) w:=by intro w hSw;(try dsimp only at hSw);go_simp;try with_reducible rfl) (hs:Region.noSelect ops=true:=by kernel_rfl) (hf:Region.free md ops listed i=true:=by kernel_rfl) (hr:(Region.ready md ops listed).contains i=true:=by kernel_rfl) (hS:S w:=by assumption):wpAnyH P md ops Q S (fuel+1) listed a w:=wpAnyH_take hi hs hf hr hQ (Or.inl ⟨hw,hy⟩) hS h
theorem cTr {n:Nat} {w w':World} (k:Below n w w') {b o:Nat} (hb:b<n):w'.cell? ⟨b,o,none⟩=w.cell? ⟨b,o,none⟩:=k.cell (p:=⟨b,o,none⟩) hb
end Go.Proofs.YthgikffcdgpgiaaGreatDoor

namespace Go.Proofs.YthgikffcdgpgiaaGreatDoor
open Go.RowKit
def hasN (W:Nat→Nat) (x:Nat):Bool:=(W (x / 64)).testBit (x % 64)
def addN (W:Nat→Nat) (x:Nat):Nat→Nat:=fun i=>if i=x / 64 then W i ||| 2 ^ (x % 64) else W i
def WdOk (W:Nat→Nat):Prop:=∀i,W i<18446744073709551616
theorem has_none (x:Nat):hasN (fun _=>0) x=false:=by simp [hasN]
theorem has_add (W:Nat→Nat) (x y:Nat):hasN (addN W x) y=(decide (y=x)||hasN W y):=by
 unfold hasN addN
 by_cases h:y / 64=x / 64
 ·rw [if_pos h,Nat.testBit_or,Nat.testBit_two_pow]
  by_cases e:x % 64=y % 64
  ·have:y=x:=by omega
   simp [this]
  ·have:¬y=x:=fun h2=>e (by rw [h2])
   simp [this,e]
 ·rw [if_neg h]
  have:¬y=x:=fun h2=>h (by rw [h2])
  simp [this]
theorem add_wd {W:Nat→Nat} (h:WdOk W) (x:Nat):WdOk (addN W x):=fun i=>by
 unfold addN
 split
 ·exact Nat.or_lt_two_pow (n:=64) (h i) (Nat.pow_lt_pow_right (by decide) (Nat.mod_lt _ (by decide)))
 ·exact h i
def moreN (S O T:Nat→Nat) (i:Nat):Nat:=(O i &&& (18446744073709551615-T i)) &&& (18446744073709551615-S i)
def butN (S O T:Nat→Nat) (i:Nat):Nat:=S i ||| moreN S O T i
theorem not_bit {a t:Nat} (ha:a<18446744073709551616) (ht:t<64):(18446744073709551615-a).testBit t=!a.testBit t:=by
 have:=Nat.testBit_two_pow_sub_succ (n:=64) (x:=a) ha t
 rw [show 18446744073709551615-a=2 ^ 64-(a+1) by omega,this]
 simp [ht]
theorem more_bit {S O T:Nat→Nat} (hS:WdOk S) (hT:WdOk T) (i:Nat) {t:Nat} (ht:t<64):(moreN S O T i).testBit t=((O i).testBit t && !(T i).testBit t && !(S i).testBit t):=by
 unfold moreN
 rw [Nat.testBit_and,Nat.testBit_and,not_bit (hT i) ht,not_bit (hS i) ht]
theorem more_lt {S O T:Nat→Nat} (hO:WdOk O) (i:Nat):moreN S O T i<18446744073709551616:=Nat.lt_of_le_of_lt (Nat.le_trans Nat.and_le_left Nat.and_le_left) (hO i)
theorem but_wd {S O T:Nat→Nat} (hS:WdOk S) (hO:WdOk O):WdOk (butN S O T):=fun i=>Nat.or_lt_two_pow (n:=64) (hS i) (more_lt hO i)
theorem has_but {S O T:Nat→Nat} (hS:WdOk S) (hT:WdOk T) (x:Nat):hasN (butN S O T) x=(hasN S x||(hasN O x && !hasN T x)):=by
 unfold hasN butN
 rw [Nat.testBit_or,more_bit hS hT _ (Nat.mod_lt _ (by decide))]
 cases (S (x / 64)).testBit (x % 64)<;>simp
theorem more_some {S O T:Nat→Nat} (hS:WdOk S) (hO:WdOk O) (hT:WdOk T) (i:Nat) (h:moreN S O T i≠0):∃x,x / 64=i∧hasN O x=true∧hasN T x=false∧hasN S x=false:=by
 obtain ⟨t,ht⟩:=Nat.exists_testBit_of_ne_zero h
 have h64:t<64:=by
  rcases Nat.lt_or_ge t 64 with h1 | h1
  ·exact h1
  ·have:=Nat.testBit_lt_two_pow (Nat.lt_of_lt_of_le (more_lt (S:=S) (T:=T) hO i) (Nat.pow_le_pow_right (by decide) h1:2 ^ 64≤2 ^ t))
   rw [this] at ht
   cases ht
 rw [more_bit hS hT _ h64] at ht
 simp only [Bool.and_eq_true,Bool.not_eq_true'] at ht
 refine ⟨64*i+t,by omega,?_,?_,?_⟩
 ·unfold hasN;rw [show (64*i+t) / 64=i by omega,show (64*i+t) % 64=t by omega];exact ht.1.1
 ·unfold hasN;rw [show (64*i+t) / 64=i by omega,show (64*i+t) % 64=t by omega];exact ht.1.2
 ·unfold hasN;rw [show (64*i+t) / 64=i by omega,show (64*i+t) % 64=t by omega];exact ht.2
theorem more_none {S O T:Nat→Nat} (hS:WdOk S) (hT:WdOk T) {x:Nat} (h:moreN S O T (x / 64)=0) (h1:hasN O x=true) (h2:hasN T x=false):hasN S x=true:=by
 have:=more_bit (O:=O) hS hT (x / 64) (Nat.mod_lt x (show 0<64 by decide))
 rw [h,Nat.zero_testBit] at this
 unfold hasN at *
 rw [h1,h2] at this
 cases hs:(S (x / 64)).testBit (x % 64) with
 | true=>rfl
 | false=>rw [hs] at this;cases this
def grewN (S O T:Nat→Nat) (K:Nat):Bool:=(List.range K).any fun i=>moreN S O T i != 0
theorem grew_zero (S O T:Nat→Nat):grewN S O T 0=false:=rfl
theorem grew_succ (S O T:Nat→Nat) (K:Nat):grewN S O T (K+1)=(grewN S O T K||(moreN S O T K != 0)):=by
 unfold grewN
 rw [List.range_succ,List.any_append]
 simp
theorem grew_yes {S O T:Nat→Nat} {K:Nat} (hS:WdOk S) (hO:WdOk O) (hT:WdOk T) (h:grewN S O T K=true):∃x,x<64*K∧hasN O x=true∧hasN T x=false∧hasN S x=false:=by
 obtain ⟨i,hi,hm⟩:=List.any_eq_true.1 h
 obtain ⟨x,h1,h2⟩:=more_some hS hO hT i (by simpa using hm)
 have:=List.mem_range.1 hi
 exact ⟨x,by omega,h2⟩
theorem grew_no {S O T:Nat→Nat} {K:Nat} (hS:WdOk S) (hT:WdOk T) (h:grewN S O T K=false) {x:Nat} (hx:x<64*K) (h1:hasN O x=true) (h2:hasN T x=false):hasN S x=true:=by
 refine more_none hS hT ?_ h1 h2
 have:=List.any_eq_false.1 h (x / 64) (List.mem_range.2 (by omega))
 simpa using this
def addsN (W:Nat→Nat) (ts:List Nat):Nat→Nat:=ts.foldl addN W
theorem adds_take {W:Nat→Nat} {ts:List Nat} {q:Nat} (h:q<ts.length):addsN W (ts.take (q+1))=addN (addsN W (ts.take q)) ts[q]:=by
 unfold addsN
 rw [List.take_succ_eq_append_getElem h,List.foldl_append]
 rfl
theorem adds_wd:∀(ts:List Nat) {W:Nat→Nat},WdOk W→WdOk (addsN W ts)
 | [],_,h=>h
 | t::ts,_,h=>adds_wd ts (add_wd h t)
theorem has_adds:∀(ts:List Nat) (W:Nat→Nat) (y:Nat),hasN (addsN W ts) y=(decide (y∈ts)||hasN W y)
 | [],W,y=>by simp [addsN]
 | t::ts,W,y=>by
  show hasN (addsN (addN W t) ts) y=_
  rw [has_adds ts,has_add]
  by_cases h1:y=t
  ·simp [h1]
  ·by_cases h2:y∈ts<;>simp [h1,h2]
theorem ret_boolN {a b:Bool} (h:a=b):Ending.returned (.bool a)=Ending.returned (.bool b):=by rw [h]
theorem quoN (x:Nat):(x:Int).tdiv 64=((x / 64:Nat):Int):=by rw [Int.tdiv_eq_ediv_of_nonneg (by omega)];omega
theorem remN (x:Nat):(x:Int).tmod 64=((x % 64:Nat):Int):=by rw [Int.tmod_eq_emod_of_nonneg (by omega)];omega
theorem hasN_bit {W t:Nat} (hW:W<18446744073709551616):(bits .and .u64 ((W:Int) / 2 ^ t) 1==1)=W.testBit t:=by
 have hq:W / 2 ^ t<18446744073709551616:=Nat.lt_of_le_of_lt (Nat.div_le_self _ _) hW
 have e:((W:Int) / 2 ^ t)=((W / 2 ^ t:Nat):Int):=by simp
 rw [e,show (1:Int)=((1:Nat):Int) from rfl,u64_and_nat _ _ hq (by decide),Nat.and_one_is_mod,Nat.testBit_eq_decide_div_mod_eq]
 by_cases h:W / 2 ^ t % 2=1
 ·simp [h]
 ·have h0:W / 2 ^ t % 2=0:=by omega
  simp [h0]
theorem orN_bit {W t:Nat} (ht:t<64) (hW:W<18446744073709551616):bits .or .u64 (W:Int) (IntKind.u64.wrap (2 ^ t))=((W ||| 2 ^ t:Nat):Int):=by
 have h2:2 ^ t<18446744073709551616:=Nat.lt_of_lt_of_le (Nat.pow_lt_pow_right (by decide) ht) (by decide)
 have e:IntKind.u64.wrap (2 ^ t)=((2 ^ t:Nat):Int):=by
  rw [IntKind.wrap_u64]
  have:((2 ^ t:Nat):Int)=(2:Int) ^ t:=by simp
  rw [←this]
  exact Int.emod_eq_of_lt (Int.natCast_nonneg _) (Int.ofNat_lt.2 h2)
 rw [e,u64_or_nat _ _ hW h2]
end Go.Proofs.YthgikffcdgpgiaaGreatDoor

namespace Go.Proofs.YthgikffcdgpgiaaGreatDoor
def dB (op:Int):Bool:=decide (1≤op∧op≤8)||decide (op=11)||decide (op=13)
def aB (op:Int):Bool:=decide (3≤op∧op≤12)
def bB (op:Int):Bool:=decide (3≤op∧op≤7)||decide (op=9)
def fld (u:Bool) (x lo hi:Int):Bool:=if u then decide (lo≤x)&&decide (x<hi) else x==0
def immOk (x:Ins):Bool:=if x.op==1 then decide (-1000000000≤x.imm)&&decide (x.imm≤1000000000) else if x.op==2 then decide (0≤x.imm)&&decide (x.imm<8) else x.imm==0
def insOk (n most:Int) (x:Ins):Bool :=
 decide (1≤x.op)&&decide (x.op≤most)&&fld (dB x.op) x.dst 0 n&&fld (aB x.op) x.a 0 n&&fld (bB x.op) x.b 0 n&&immOk x
def terOk (n low blocks:Int) (t:Ter):Bool :=
 decide (1≤t.kind)&&decide (t.kind≤3)&&fld (t.kind != 1) t.a 0 n&&fld (t.kind != 3) t.to low blocks&&fld (t.kind==2) t.els low blocks
def terOk' (n blocks:Int) (t:Ter):Bool:=terOk n 1 blocks t && !(t.kind==2&&t.to==t.els)
def Ter.targets (t:Ter):List Int:=if t.kind=1 then [t.to] else if t.kind=2 then [t.to,t.els] else []
def phSize (ps:List Ph):Nat:=(ps.map fun p=>1+p.args.length).sum
def blkSize (x:Blk):Nat:=1+x.instrs.length+phSize x.phis
def blksSize (xs:List Blk):Nat:=(xs.map blkSize).sum
def predsFrom:List Blk→Nat→Int→List Int
 | [],_,_=>[]
 | x::xs,i,b=>(if x.term.targets.contains b then [(i:Int)] else [])++predsFrom xs (i+1) b
def Fn.preds (F:Fn) (b:Int):List Int:=predsFrom F.blocks 0 b
def phDefs (ps:List Ph):List Int:=ps.map (·.dst)
def insDefs (xs:List Ins):List Int:=(xs.filter fun x=>dB x.op).map (·.dst)
def blkDefs (x:Blk):List Int:=phDefs x.phis++insDefs x.instrs
def blksDefs (xs:List Blk):List Int:=xs.flatMap blkDefs
def sizeOk (F:Fn):Bool:=decide (0≤F.values)&&decide (F.values≤2000)&&decide (1≤F.blocks.length)&&decide (F.blocks.length≤1000)&&decide (blksSize F.blocks≤4000)
def termsOk (F:Fn):Bool:=F.blocks.all fun x=>terOk' F.values F.blocks.length x.term
def instrsOk (F:Fn):Bool:=F.blocks.all fun x=>x.instrs.all (insOk F.values 10)
def phOkS (n:Int) (k:Nat) (p:Ph):Bool:=decide (1≤p.args.length)&&decide (p.args.length=k)&&p.args.all (fun a=>decide (0≤a)&&decide (a<n))
def phOkI (n:Int) (k:Nat) (p:Ph):Bool:=fld true p.dst 0 n&&phOkS n k p
def phisFrom (ok:Int→Nat→Ph→Bool) (F:Fn) (xs:List Blk) (i:Nat):Bool :=
 match xs with
 | []=>true
 | x::xs=>x.phis.all (ok F.values (F.preds i).length)&&phisFrom ok F xs (i+1)
def phisOkS (F:Fn):Bool:=phisFrom phOkS F F.blocks 0
def phisOkI (F:Fn):Bool:=phisFrom phOkI F F.blocks 0
def countEq (xs:List Int) (v:Int):Nat:=(xs.filter fun x=>x==v).length
def onceOk (F:Fn):Bool:=(List.range F.values.toNat).all fun v=>countEq (blksDefs F.blocks) v==1
def coverOk (F:Fn):Bool:=decide (((blksDefs F.blocks).length:Int)=F.values)&&(List.range F.values.toNat).all fun v=>(blksDefs F.blocks).contains (v:Int)
def validI (F:Fn):Bool:=sizeOk F&&termsOk F&&instrsOk F&&phisOkI F&&onceOk F
def validS (F:Fn):Bool:=sizeOk F&&(instrsOk F&&termsOk F)&&phisOkS F&&coverOk F
def szR (l:Int) (n:Nat):Int:=if l<n then -1 else l-n
theorem szR_neg {l:Int} {n:Nat} (h:l<n):szR l n=-1:=if_pos h
theorem szR_pos {l:Int} {n:Nat} (h:(n:Int)≤l):szR l n=l-n:=if_neg (by omega)
def phTot (ps:List Ph):Nat:=(ps.map fun p=>p.args.length).sum
def blkTot (x:Blk):Nat:=x.phis.length+phTot x.phis+x.instrs.length
def blksTot (xs:List Blk):Nat:=(xs.map blkTot).sum
theorem phTot_snoc (ps:List Ph) (p:Ph):phTot (ps++[p])=phTot ps+p.args.length:=by simp [phTot]
theorem blksTot_snoc (ps:List Blk) (p:Blk):blksTot (ps++[p])=blksTot ps+blkTot p:=by simp [blksTot]
theorem sum_take_le {α:Type} (f:α→Nat) (xs:List α) (k:Nat):((xs.take k).map f).sum≤(xs.map f).sum:=by
 induction xs generalizing k with
 | nil=>simp
 | cons x xs ih=>cases k with
  | zero=>simp
  | succ k=>simp only [List.take_succ_cons,List.map_cons,List.sum_cons];have:=ih k;omega
theorem phTot_take (ps:List Ph) (k:Nat):phTot (ps.take k)≤phTot ps:=sum_take_le _ _ _
theorem blksTot_take (ps:List Blk) (k:Nat):blksTot (ps.take k)≤blksTot ps:=sum_take_le _ _ _
end Go.Proofs.YthgikffcdgpgiaaGreatDoor

namespace Go.Proofs.YthgikffcdgpgiaaGreatDoor
theorem countEq_count (l:List Int) (v:Int):countEq l v=l.count v:=by
 unfold countEq
 rw [List.count,List.countP_eq_length_filter]
theorem cover_to (n:Nat):∀l:List Int,l.length=n→(∀v:Nat,v<n→(v:Int)∈l)→(∀d∈l,0≤d∧d<n)∧∀v:Nat,v<n→l.count (v:Int)=1:=by
 induction n with
 | zero =>
  intro l hl _
  have:l=[]:=List.eq_nil_of_length_eq_zero hl
  subst this
  exact ⟨fun d hd=>(List.not_mem_nil hd).elim,fun v hv=>absurd hv (by omega)⟩
 | succ n ih =>
  intro l hl hv
  have hm:=hv n (by omega)
  have hlen:(l.erase (n:Int)).length=n:=by rw [List.length_erase_of_mem hm];omega
  have hmem:∀v:Nat,v<n→(v:Int)∈l.erase (n:Int):=fun v h=>(List.mem_erase_of_ne (by omega)).2 (hv v (by omega))
  obtain ⟨h1,h2⟩:=ih _ hlen hmem
  have hp:=List.perm_cons_erase hm
  refine ⟨fun d hd=>?_,fun v h=>?_⟩
  ·rcases List.mem_cons.1 (hp.mem_iff.1 hd) with rfl | hd
   ·omega
   ·have:=h1 d hd;omega
  ·rw [hp.count_eq,List.count_cons]
   by_cases e:v=n
   ·subst e
    have:(l.erase (v:Int)).count (v:Int)=0:=List.count_eq_zero.2 (fun hh=>by have:=h1 _ hh;omega)
    simp [this]
   ·rw [h2 v (by omega)]
    have:((n:Int)==(v:Int))=false:=by simp;omega
    simp [this]
theorem cover_from (n:Nat):∀l:List Int,(∀d∈l,0≤d∧d<n)→(∀v:Nat,v<n→l.count (v:Int)=1)→l.length=n∧∀v:Nat,v<n→(v:Int)∈l:=by
 induction n with
 | zero =>
  intro l hl _
  have:l=[]:=List.eq_nil_iff_forall_not_mem.2 (fun d hd=>by have:=hl d hd;omega)
  subst this
  exact ⟨rfl,fun v hv=>absurd hv (by omega)⟩
 | succ n ih =>
  intro l hl hc
  have hm:(n:Int)∈l:=List.count_pos_iff.1 (by rw [hc n (by omega)];omega)
  have hp:=List.perm_cons_erase hm
  have hc0:(l.erase (n:Int)).count (n:Int)=0:=by rw [List.count_erase_self,hc n (by omega)]
  have h1:∀d∈l.erase (n:Int),0≤d∧d<n:=fun d hd=>by
   have h:=hl d (List.mem_of_mem_erase hd)
   have hne:d≠n:=fun e=>by subst e;exact absurd hd (List.count_eq_zero.1 hc0)
   omega
  have h2:∀v:Nat,v<n→(l.erase (n:Int)).count (v:Int)=1:=fun v h=>by
   rw [List.count_erase_of_ne (by omega)];exact hc v (by omega)
  obtain ⟨k1,k2⟩:=ih _ h1 h2
  refine ⟨by have:=List.length_erase_of_mem hm;have:0<l.length:=List.length_pos_of_mem hm;omega,fun v h=>?_⟩
  exact List.count_pos_iff.1 (by rw [hc v h];omega)
def dstsOk (n:Int) (xs:List Blk):Bool:=xs.all fun x=>x.phis.all fun p=>fld true p.dst 0 n
theorem all_and {α:Type} (p q:α→Bool) (l:List α):l.all (fun x=>p x&&q x)=(l.all p&&l.all q):=by
 induction l with
 | nil=>rfl
 | cons x l ih=>simp only [List.all_cons,ih];cases p x<;>cases q x<;>cases l.all p<;>simp
theorem phisFrom_split (F:Fn):∀(xs:List Blk) (i:Nat),phisFrom phOkI F xs i=(dstsOk F.values xs&&phisFrom phOkS F xs i):=by
 intro xs
 induction xs with
 | nil=>intro i;rfl
 | cons x xs ih =>
  intro i
  simp only [phisFrom,dstsOk,List.all_cons,ih]
  have:x.phis.all (phOkI F.values (F.preds ↑i).length)=(x.phis.all (fun p=>fld true p.dst 0 F.values)&&x.phis.all (phOkS F.values (F.preds ↑i).length)):=all_and _ _ _
  rw [this]
  cases x.phis.all (fun p=>fld true p.dst 0 F.values)<;>cases x.phis.all (phOkS F.values (F.preds ↑i).length)<;>simp
theorem defs_range (F:Fn) (hi:instrsOk F=true):(dstsOk F.values F.blocks=true↔∀d∈blksDefs F.blocks,0≤d∧d<F.values):=by
 unfold dstsOk blksDefs
 simp only [List.all_eq_true,List.mem_flatMap,blkDefs,phDefs,insDefs,List.mem_append,List.mem_map,List.mem_filter,fld,if_true,Bool.and_eq_true,decide_eq_true_eq]
 constructor
 ·rintro h d ⟨x,hx,⟨p,hp,rfl⟩ | ⟨y,⟨hy,hd⟩,rfl⟩⟩
  ·exact h x hx p hp
  ·have:=List.all_eq_true.1 (List.all_eq_true.1 hi x hx) y hy
   simp only [insOk,hd,fld,if_true,Bool.and_eq_true,decide_eq_true_eq] at this
   omega
 ·intro h x hx p hp
  exact h _ ⟨x,hx,Or.inl ⟨p,hp,rfl⟩⟩
theorem once_cover (F:Fn) (h0:0≤F.values) (hi:instrsOk F=true):(dstsOk F.values F.blocks&&onceOk F)=coverOk F:=by
 rw [Bool.eq_iff_iff]
 obtain ⟨n,hn⟩:=Int.eq_ofNat_of_zero_le h0
 rw [Bool.and_eq_true,defs_range F hi]
 unfold onceOk coverOk
 rw [hn]
 simp only [List.all_eq_true,List.mem_range,Int.toNat_natCast,beq_iff_eq,Bool.and_eq_true,decide_eq_true_eq,List.contains_iff_mem,countEq_count]
 constructor
 ·rintro ⟨h1,h2⟩
  obtain ⟨k1,k2⟩:=cover_from n _ h1 h2
  exact ⟨by omega,k2⟩
 ·rintro ⟨h1,h2⟩
  exact cover_to n _ (by omega) h2
theorem valid_same (F:Fn):validI F=validS F:=by
 unfold validI validS phisOkI phisOkS
 rw [phisFrom_split]
 cases hs:sizeOk F
 ·simp
 cases hi:instrsOk F
 ·simp
 cases ht:termsOk F
 ·simp
 have h0:0≤F.values:=by
  simp only [sizeOk,Bool.and_eq_true,decide_eq_true_eq] at hs
  omega
 have:=once_cover F h0 hi
 rw [←this]
 cases dstsOk F.values F.blocks<;>cases phisFrom phOkS F F.blocks 0<;>simp
end Go.Proofs.YthgikffcdgpgiaaGreatDoor

namespace Go.Proofs.YthgikffcdgpgiaaGreatDoor
open Go.RowKit
theorem ret_int {k:IntKind} {a b:Int} (h:a=b):Ending.returned (.int k a)=.returned (.int k b):=by rw [h]
theorem ret_bool {a b:Bool} (h:a=b):Ending.returned (.bool a)=.returned (.bool b):=by rw [h]
set_option maxHeartbeats 400000 in
theorem validField_any (u:Bool) (x lo hi:Int) (w:World) :
  Calls Tryz.prog 123 #[.bool u,.int .i64 x,.int .i64 lo,.int .i64 hi] w fun e w'=>e=.returned (.bool (fld u x lo hi))∧w'=w:=by
 cases u
 ·go_enter Tryz.func123,Tryz.ntmps123
  go_wp2
  go_ret
  exact ⟨rfl,rfl⟩
 ·by_cases h1:lo≤x<;>by_cases h2:x<hi
  all_goals
   go_enter Tryz.func123,Tryz.ntmps123
   go_wp2
   go_ret
   exact ⟨by simp [fld,h1,h2],rfl⟩
set_option maxHeartbeats 400000 in
theorem szInts_any (a:Option Addr) (n c:Nat) (l:Int) (w:World) (hn:n≤9223372036854775807) (h0:0≤l) (h1:l≤1048576) :
  Calls Tryz.prog 137 #[.slice a n c,.int .i64 l] w fun e w'=>e=.returned (.int .i64 (szR l n))∧w'=w:=by
 by_cases h:l<n
 ·go_enter Tryz.func137,Tryz.ntmps137
  go_wp2
  go_ret
  exact ⟨ret_int (szR_neg h).symm,rfl⟩
 ·go_enter Tryz.func137,Tryz.ntmps137
  go_wp2
  go_ret
  exact ⟨ret_int (szR_pos (by omega)).symm,rfl⟩
set_option maxHeartbeats 400000 in
theorem szInstrs_any (a:Option Addr) (n c:Nat) (l:Int) (w:World) (hn:n≤9223372036854775807) (h0:0≤l) (h1:l≤1048576) :
  Calls Tryz.prog 72 #[.slice a n c,.int .i64 l] w fun e w'=>e=.returned (.int .i64 (szR l n))∧w'=w:=by
 by_cases h:l<n
 ·go_enter Tryz.func72,Tryz.ntmps72
  go_wp2
  go_ret
  exact ⟨ret_int (szR_neg h).symm,rfl⟩
 ·go_enter Tryz.func72,Tryz.ntmps72
  go_wp2
  go_ret
  exact ⟨ret_int (szR_pos (by omega)).symm,rfl⟩
set_option maxHeartbeats 400000 in
theorem szPhi_any (d:Int) (a:Option Addr) (n c:Nat) (l:Int) (w:World) (hn:n≤9223372036854775807) (h0:0≤l) (h1:l≤1048576) :
  Calls Tryz.prog 118 #[.agg #[.int .i64 d,.slice a n c],.int .i64 l] w fun e w'=>e=.returned (.int .i64 (szR l n))∧Below w.heap.size w w':=by
 by_cases h:l<n
 ·have hz:=szR_neg h
  go_enter Tryz.func118,Tryz.ntmps118
  go_wp2_with (go_at_call 137;refine (szInts_any _ _ _ _ _ (by omega) (by omega) (by omega)).mono ?_;rintro e w' ⟨rfl,rfl⟩)
  go_ret
  exact ⟨ret_int hz.symm,(Below.refl _ _).alloc (Nat.le_refl _) _⟩
 ·have hz:szR l n=l-n:=szR_pos (by omega)
  go_enter Tryz.func118,Tryz.ntmps118
  go_wp2_with (go_at_call 137;refine (szInts_any _ _ _ _ _ (by omega) (by omega) (by omega)).mono ?_;rintro e w' ⟨rfl,rfl⟩)
  go_ret
  exact ⟨ret_int hz.symm,(Below.refl _ _).alloc (Nat.le_refl _) _⟩
theorem take_next {α:Type} (xs:List α) (k:Nat) (h:k<xs.length):xs.take (k+1)=xs.take k++[xs[k]]:=List.take_succ_eq_append_getElem h
set_option maxHeartbeats 400000 in
theorem szPhis_any (a:Option Addr) (n c:Nat) (l:Int) (xs:List Ph) (L B:Nat) (w:World) (ha:Hid (PhsAt w L B a xs)) (hx:Hid (n=xs.length)) (hn:n≤9223372036854775807) (hs:Hid (∀p∈xs,p.args.length≤9223372036854775807))
  (h0:0≤l) (h1:l≤1048576) (hB:B≤w.heap.size) :
  Calls Tryz.prog 71 #[.slice a n c,.int .i64 l] w fun e w'=>e=.returned (.int .i64 (szR l (n+phTot xs)))∧Below w.heap.size w w':=by
 by_cases h:l<n
 ·go_enter Tryz.func71,Tryz.ntmps71
  go_wp2
  go_ret
  exact ⟨ret_int (szR_neg (by omega)).symm,Below.refl _ _⟩
 ·go_enter Tryz.func71,Tryz.ntmps71
  go_wp2
  go_loopw [1,5] (fun q i wr=>∃k:Nat,k≤n∧i=.int .i64 k∧(∃r:Int,q=.int .i64 r∧0≤r∧r≤1048576∧Hid (r=l-(n+phTot (xs.take k):Nat)))∧Below w.heap.size w wr) (fun _ i _=>n-(intOf i).toNat)
  case atStart=>exact ⟨0,Nat.zero_le _,rfl,⟨_,rfl,by omega,by omega,by show _=_;simp [phTot]⟩,Below.refl _ _⟩
  case round =>
   obtain ⟨k,hk,rfl,⟨r,rfl,hr0,hr1,hr⟩,hw⟩:=hrel
   by_cases hlt:k<n
   ·obtain ⟨b,o,rfl,⟨_,hbB⟩,aa,cc,hc0,hc1,_⟩:=ha.out k (by have:=hx.out;omega)
    have hq:=hs.out _ (List.getElem_mem (by have:=hx.out;omega:k<xs.length))
    have e1:=(cTr hw (by omega)).trans hc0
    have e2:=(cTr hw (by omega)).trans hc1
    clear hc0 hc1
    have HT:Hid (phTot (xs.take (k+1))=phTot (xs.take k)+(xs[k]'(by have:=hx.out;omega)).args.length):=by show _=_;rw [take_next _ _ (by have:=hx.out;omega),phTot_snoc]
    have HL:Hid (phTot (xs.take (k+1))≤phTot xs):=phTot_take _ _
    generalize (xs[k]'(by have:=hx.out;omega)).args.length=m at *
    generalize (xs[k]'(by have:=hx.out;omega)).dst=d at *
    by_cases hm:r<m
    ·have hz:=szR_neg hm
     go_wp2_with (go_at_call 118;refine (szPhi_any _ _ _ _ _ _ (by omega) (by omega) (by omega)).mono ?_;rintro e w' ⟨rfl,hb1⟩)
     go_ret
     exact ⟨ret_int (szR_neg (by have:=hr.out;have:=HT.out;have:=HL.out;omega)).symm,bnext hw hb1⟩
    ·have hz:szR r m=r-m:=szR_pos (by omega)
     go_wp2_with (go_at_call 118;refine (szPhi_any _ _ _ _ _ _ (by omega) (by omega) (by omega)).mono ?_;rintro e w' ⟨rfl,hb1⟩)
     exact ⟨⟨k+1,by omega,by go_num,⟨_,rfl,by omega,by omega,by have:=hr.out;have:=HT.out;show _=_;omega⟩,bnext hw hb1⟩,by simp [intOf];omega⟩
   ·go_wp2
    go_ret
    have:k=n:=by omega
    have h2:=hr.out
    rw [List.take_of_length_le (by have:=hx.out;omega)] at h2
    exact ⟨ret_int (by rw [szR_pos (by omega)];exact h2),hw⟩
set_option maxHeartbeats 400000 in
theorem szBlock_any (p i:Option Addr) (n pc m ic:Nat) (t0 t1 t2 t3 l:Int) (xs:List Ph) (L B:Nat) (w:World) (ha:Hid (PhsAt w L B p xs)) (hx:Hid (n=xs.length)) (hn:n≤9223372036854775807) (hm:m≤9223372036854775807) (hs:Hid (∀p∈xs,p.args.length≤9223372036854775807))
  (h0:0≤l) (h1:l≤1048576) (hB:B≤w.heap.size) :
  Calls Tryz.prog 38 #[.agg #[.slice p n pc,.slice i m ic,.int .i64 t0,.int .i64 t1,.int .i64 t2,.int .i64 t3],.int .i64 l] w fun e w'=>e=.returned (.int .i64 (szR l (n+phTot xs+m)))∧Below w.heap.size w w':=by
 by_cases h:l<(n+phTot xs:Nat)
 ·have hz:=szR_neg h
  go_enter Tryz.func38,Tryz.ntmps38
  go_wp2_with (go_at_call 71;refine (szPhis_any _ _ _ _ xs L B _ (ha.out.keep ((Below.refl _ _).alloc hB _)) hx (by omega) hs (by omega) (by omega) (by simp;omega)).mono ?_;rintro e w' ⟨rfl,hb1⟩)
  go_ret
  exact ⟨ret_int (szR_neg (by omega)).symm,bnext ((Below.refl _ _).alloc (Nat.le_refl _) _) hb1⟩
 ·have hz:szR l (n+phTot xs)=l-(n+phTot xs:Nat):=szR_pos (by omega)
  generalize hN:n+phTot xs=N at *
  have HN:=hide hN
  clear hN
  by_cases h2:l-N<m
  ·have hz2:=szR_neg h2
   go_enter Tryz.func38,Tryz.ntmps38
   go_wp2_with (first | (go_at_call 71;refine (szPhis_any _ _ _ _ xs L B _ (ha.out.keep ((Below.refl _ _).alloc hB _)) hx (by omega) hs (by omega) (by omega) (by simp;omega)).mono ?_;rintro e w1 ⟨rfl,hb1⟩;obtain ⟨hc1,hf1⟩:=bcell hb1;rw [unhide HN]) | (go_at_call 72;refine (szInstrs_any _ _ _ _ _ (by omega) (by omega) (by omega)).mono ?_;rintro e w' ⟨rfl,rfl⟩))
   go_ret
   exact ⟨ret_int (szR_neg (by omega)).symm,bnext ((Below.refl _ _).alloc (Nat.le_refl _) _) hb1⟩
  ·have hz2:szR (l-N) m=l-N-m:=szR_pos (by omega)
   go_enter Tryz.func38,Tryz.ntmps38
   go_wp2_with (first | (go_at_call 71;refine (szPhis_any _ _ _ _ xs L B _ (ha.out.keep ((Below.refl _ _).alloc hB _)) hx (by omega) hs (by omega) (by omega) (by simp;omega)).mono ?_;rintro e w1 ⟨rfl,hb1⟩;obtain ⟨hc1,hf1⟩:=bcell hb1;rw [unhide HN]) | (go_at_call 72;refine (szInstrs_any _ _ _ _ _ (by omega) (by omega) (by omega)).mono ?_;rintro e w' ⟨rfl,rfl⟩))
   go_ret
   exact ⟨ret_int (by rw [szR_pos (by omega)];omega),bnext ((Below.refl _ _).alloc (Nat.le_refl _) _) hb1⟩
def LenOk (xs:List Blk):Prop:=∀x∈xs,x.phis.length≤9223372036854775807∧x.instrs.length≤9223372036854775807∧∀p∈x.phis,p.args.length≤9223372036854775807
set_option maxHeartbeats 400000 in
theorem szBlocks_any (a:Option Addr) (n c:Nat) (l:Int) (xs:List Blk) (L B:Nat) (w:World) (ha:Hid (BlksAt w L B a xs)) (hx:Hid (n=xs.length)) (hn:n≤9223372036854775807) (hs:Hid (LenOk xs))
  (h0:0≤l) (h1:l≤1048576) (hB:B≤w.heap.size) :
  Calls Tryz.prog 18 #[.slice a n c,.int .i64 l] w fun e w'=>e=.returned (.int .i64 (szR l (n+blksTot xs)))∧Below w.heap.size w w':=by
 by_cases h:l<n
 ·go_enter Tryz.func18,Tryz.ntmps18
  go_wp2
  go_ret
  exact ⟨ret_int (szR_neg (by omega)).symm,Below.refl _ _⟩
 ·go_enter Tryz.func18,Tryz.ntmps18
  go_wp2
  go_loopw [1,5] (fun q i wr=>∃k:Nat,k≤n∧i=.int .i64 k∧(∃r:Int,q=.int .i64 r∧0≤r∧r≤1048576∧Hid (r=l-(n+blksTot (xs.take k):Nat)))∧Below w.heap.size w wr) (fun _ i _=>n-(intOf i).toNat)
  case atStart=>exact ⟨0,Nat.zero_le _,rfl,⟨_,rfl,by omega,by omega,by show _=_;simp [blksTot]⟩,Below.refl _ _⟩
  case round =>
   obtain ⟨k,hk,rfl,⟨r,rfl,hr0,hr1,hr⟩,hw⟩:=hrel
   by_cases hlt:k<n
   ·have hkx:k<xs.length:=by have:=hx.out;omega
    obtain ⟨b,o,rfl,⟨_,hbB⟩,pa,pc,ia,ic,hc0,hc1,⟨hc2,hc3,hc4,hc5⟩,hps,_⟩:=ha.out k hkx
    obtain ⟨hq1,hq2,hq3⟩:=hs.out _ (List.getElem_mem hkx)
    have HQ3:=hide hq3
    have e0:=(cTr hw (by omega)).trans hc0
    have e1:=(cTr hw (by omega)).trans hc1
    have e2:=(cTr hw (by omega)).trans hc2
    have e3:=(cTr hw (by omega)).trans hc3
    have e4:=(cTr hw (by omega)).trans hc4
    have e5:=(cTr hw (by omega)).trans hc5
    have HP:=hide (hps.keep (hw.mono hB))
    clear hc0 hc1 hc2 hc3 hc4 hc5 hps hq3
    have HT:Hid (blksTot (xs.take (k+1))=blksTot (xs.take k)+(xs[k].phis.length+phTot xs[k].phis+xs[k].instrs.length)):=by show _=_;rw [take_next _ _ hkx,blksTot_snoc];rfl
    have HL:Hid (blksTot (xs.take (k+1))≤blksTot xs):=blksTot_take _ _
    have hBr:B≤wr.heap.size:=by have:=hw.size;omega
    generalize xs[k]=X at *
    by_cases hm:r<(X.phis.length+phTot X.phis+X.instrs.length:Nat)
    ·have hz:=szR_neg hm
     go_wp2_with (go_at_call 38;refine (szBlock_any _ _ _ _ _ _ _ _ _ _ _ X.phis L B _ HP rfl (by omega) (by omega) HQ3 (by omega) (by omega) (by omega)).mono ?_;rintro e w' ⟨rfl,hb1⟩)
     go_ret
     exact ⟨ret_int (szR_neg (by have:=hr.out;have:=HT.out;have:=HL.out;omega)).symm,bnext hw hb1⟩
    ·have hz:szR r (X.phis.length+phTot X.phis+X.instrs.length)=r-(X.phis.length+phTot X.phis+X.instrs.length:Nat):=szR_pos (by omega)
     go_wp2_with (go_at_call 38;refine (szBlock_any _ _ _ _ _ _ _ _ _ _ _ X.phis L B _ HP rfl (by omega) (by omega) HQ3 (by omega) (by omega) (by omega)).mono ?_;rintro e w' ⟨rfl,hb1⟩)
     exact ⟨⟨k+1,by omega,by go_num,⟨_,rfl,by omega,by omega,by have:=hr.out;have:=HT.out;show _=_;omega⟩,bnext hw hb1⟩,by simp [intOf];omega⟩
   ·go_wp2
    go_ret
    have:k=n:=by omega
    have h2:=hr.out
    rw [List.take_of_length_le (by have:=hx.out;omega)] at h2
    exact ⟨ret_int (by rw [szR_pos (by omega)];exact h2),hw⟩
set_option maxHeartbeats 400000 in
theorem szFunc_any (v:Int) (a:Option Addr) (n c:Nat) (l:Int) (xs:List Blk) (L B:Nat) (w:World) (ha:Hid (BlksAt w L B a xs)) (hx:Hid (n=xs.length)) (hn:n≤9223372036854775807) (hs:Hid (LenOk xs))
  (h0:0≤l) (h1:l≤1048576) (hB:B≤w.heap.size) :
  Calls Tryz.prog 5 #[.agg #[.int .i64 v,.slice a n c],.int .i64 l] w fun e w'=>e=.returned (.int .i64 (szR l (n+blksTot xs)))∧Below w.heap.size w w':=by
 by_cases h:l<(n+blksTot xs:Nat)
 ·have hz:=szR_neg h
  go_enter Tryz.func5,Tryz.ntmps5
  go_wp2_with (go_at_call 18;refine (szBlocks_any _ _ _ _ xs L B _ (ha.out.keep ((Below.refl _ _).alloc hB _)) hx (by omega) hs (by omega) (by omega) (by simp;omega)).mono ?_;rintro e w' ⟨rfl,hb1⟩)
  go_ret
  exact ⟨ret_int hz.symm,bnext ((Below.refl _ _).alloc (Nat.le_refl _) _) hb1⟩
 ·have hz:szR l (n+blksTot xs)=l-(n+blksTot xs:Nat):=szR_pos (by omega)
  go_enter Tryz.func5,Tryz.ntmps5
  go_wp2_with (go_at_call 18;refine (szBlocks_any _ _ _ _ xs L B _ (ha.out.keep ((Below.refl _ _).alloc hB _)) hx (by omega) hs (by omega) (by omega) (by simp;omega)).mono ?_;rintro e w' ⟨rfl,hb1⟩)
  go_ret
  exact ⟨ret_int hz.symm,bnext ((Below.refl _ _).alloc (Nat.le_refl _) _) hb1⟩
end Go.Proofs.YthgikffcdgpgiaaGreatDoor
