import Derived.WalkKit
import Derived.Below
import Derived.Deep.OwnRows
import Derived.Maps.AppendAt
import Derived.OpenShut
import Derived.Deep.RegionHeld
import Derived.WalkSmall
import Derived.Deep.MidRow
import Derived.Deep.Slices
import Derived.Test.YtghnlncgiihhgaaGreatDoorProg
import Derived.WalkSpells
import Derived.WalkLawsBesides
import Derived.Deep.RegionHeld3
import Derived.Deep.DrawnRows
import Derived.BigQuiet
namespace Go.Proofs.YtghnlncgiihhgaaGreatDoor
set_option maxHeartbeats 2000000
set_option maxRecDepth 100000
open Go.RowKit Go.Deep Go.Proofs.Tryz
variable{r:Bool}{t T z:Int}{y:List Value}{n m k B g:Nat}{p:Option Addr}{R:Program}{a A:Value}{w v u:World}
abbrev aA:=@Nat.le_refl
abbrev aC:=@List.getElem?_eq_getElem
abbrev aH:=@List.getElem_mem
abbrev aI:=@World.block_lt_of_cell?
abbrev aJ:=@Nat.le_trans
abbrev aM:=@if_neg
abbrev aN:=@Nat.zero_le
abbrev aO:=@World.size_alloc
abbrev aQ:=@List.length_append
abbrev aS:=@Array.getElem?_eq_some_iff
abbrev aU:=@if_pos
abbrev aV:=@Nat.zero_add
abbrev aW:=@List.take_of_length_le
abbrev aX:=@Nat.lt_of_lt_of_le
abbrev aY:=@List.mem_map
abbrev aZ:=@Or.inr
abbrev bA:=@List.length_cons
abbrev bC:=@Or.inl
abbrev bD:=@decide_eq_true_eq
abbrev bE:=@List.mem_range
abbrev bF:=@List.getD_eq_getElem?_getD
abbrev bG:=@List.map_append
abbrev bH:=@World.cell?_setCell_far
abbrev bI:=@List.getElem_set_ne
abbrev bJ:=@World.frozen?_of_block
abbrev bK:=@List.length_map
abbrev bL:=@List.length_set
abbrev bM:=@callsIn_wide
abbrev bN:=@List.take_succ_eq_append_getElem
abbrev bO:=@List.length_nil
abbrev bP:=@World.cell?_alloc_lt
abbrev bQ:=@AllReadyH.cons
abbrev bR:=@List.getElem_of_mem
abbrev bT:=@wpList_append_own_at
abbrev bU:=@List.mem_append
abbrev bV:=@List.mem_flatMap
abbrev bW:=@World.grownBy_alloc
abbrev bX:=@Int.eq_ofNat_of_zero_le
abbrev bY:=@Bool.and_eq_true
abbrev bZ:=@World.cell?_of_block
abbrev cC:=@bodyPost_ret
abbrev cH:=@List.mem_cons
abbrev cI:=@List.mem_cons_self
abbrev cJ:=@World.cell?_setCell_other
abbrev cK:=@List.append_assoc
abbrev cM:=@List.getElem_map
abbrev cN:=@List.mem_cons_of_mem
abbrev cQ:=@List.getElem_set_self
abbrev cS:=@List.mem_singleton
abbrev cV:=@List.getElem?_eq_some_iff
abbrev cW:=@List.cons_append
abbrev cX:=@Array.replicate_succ
abbrev cZ:=@Array.replicate_zero
abbrev dA:=@World.ownsRow_nil
abbrev dD:=@List.mem_append_left
abbrev dE:=@List.append_toArray
abbrev dF:=@IntKind.wrap_i64
abbrev dG:=@World.rowIs_made
abbrev dH:=@List.length_take
abbrev dI:=@Bool.or_eq_true
abbrev dJ:=@decide_eq_false
abbrev dK:=@List.getElem?_eq_none
abbrev dL:=@List.getElem?_append_left
abbrev dM:=@Int.toNat_natCast
abbrev dN:=@List.range_succ
abbrev dO:=@List.size_toArray
abbrev dP:=@List.push_toArray
abbrev dQ:=@Classical.byContradiction
abbrev dR:=@List.nil_append
abbrev dS:=@Nat.mod_lt
abbrev dT:=@List.foldl_append
abbrev dU:=@Nat.le_of_lt
abbrev dV:=@List.all_eq_true
abbrev dW:=@List.getElem_range
abbrev dX:=@List.getElem?_map
abbrev dY:=@AllReadyH.nil
abbrev dZ:=@List.getElem?_set_ne
abbrev eA:=@List.not_mem_nil
abbrev eB:=@decide_eq_true
abbrev eC:=@World.cell?_alloc_new
abbrev eH:=@List.map_cons
abbrev eI:=@World.ownsRow_lit
abbrev eJ:=@List.length_pos_of_mem
abbrev eK:=@World.rowIs_alloc
abbrev eM:=@List.getElem_cons_zero
abbrev eN:=@List.mem_of_getElem?
abbrev eQ:=@Bool.eq_iff_iff
abbrev eS:=@wpAnyH_ready
abbrev eU:=@List.filter_append
abbrev eV:=@List.getElem?_append_right
abbrev eW:=@Int.tmod_eq_emod_of_nonneg
abbrev eX:=@World.frozen?_setCell
abbrev eY:=@List.contains_iff_mem
abbrev eZ:=@List.flatMap_append
abbrev fA:=@List.getElem_append_left
abbrev fB:=@List.mem_append_right
abbrev fC:=@decide_eq_false_iff_not
abbrev fD:=@if_false
abbrev fE:=@List.mem_or_eq_of_mem_set
abbrev fF:=@List.append_nil
abbrev fG:=@List.mem_filter
abbrev fH:=@List.getElem?_take_of_lt
abbrev fI:=@congrArg
abbrev fJ:=@List.length_filter_le
abbrev fK:=@List.set_getElem_self
abbrev fL:=@List.nodup_cons
abbrev fM:=@run_make_row'
abbrev fN:=@List.getElem_append_right
abbrev fO:=@List.getElem_cons_succ
abbrev fP:=@List.length_erase_of_mem
abbrev fQ:=@World.cell?_setCell_same
abbrev fR:=@Int.toNat_of_nonneg
abbrev fS:=@ownsRow_setCell_other
abbrev fT:=@wpList_append_own
abbrev fV:=@of_decide_eq_true
abbrev fW:=@Nat.add_zero
abbrev fX:=@info_parts
abbrev fY:=@Int.tdiv_eq_ediv_of_nonneg
abbrev fZ:=@List.map_nil
abbrev gC:=@List.take_length
abbrev gE:=@List.set_set
abbrev gG:=@if_true
abbrev gH:=@List.map_congr_left
abbrev gI:=@List.length_range
abbrev gJ:=@Classical.choose_spec
abbrev gK:=@List.countP_eq_length_filter
abbrev gP:=@Exists.intro
abbrev gQ:=@Option.some.inj
abbrev gR:=@Option.getD_some
abbrev gU:=@Bool.not_eq_true
abbrev gV:=@results_none
abbrev gW:=@List.nodup_append
abbrev gX:=@Nat.le_succ
abbrev gY:=@List.pairwise_iff_getElem
abbrev gZ:=@List.drop_eq_getElem_cons
abbrev hH:=@List.take_append_drop
abbrev iA:=@beq_iff_eq
abbrev iC:=@Nat.lt_of_le_of_lt
abbrev iD:=@callsIn_of_wp
abbrev iE:=@List.eq_nil_of_length_eq_zero
abbrev iF:=@List.mem_erase_of_ne
abbrev iG:=@List.ext_getElem?
abbrev iH:=@Nat.testBit_two_pow_mul_add
abbrev iI:=@Array.getElem?_eq_none
abbrev iJ:=@Nat.lt_succ_self
abbrev iK:=@List.pairwise_flatMap
abbrev iL:=@World.cell?_setCell_same'
abbrev iM:=@List.foldl_cons
abbrev iN:=@Nat.mul_one
abbrev iO:=@List.mem_of_mem_take
abbrev iQ:=@List.getElem?_range
abbrev iS:=@beq_eq_false_iff_ne
abbrev iU:=@List.nodup_nil
abbrev iV:=@IntKind.wrap_u64
abbrev iW:=@List.filter_cons
abbrev iX:=@below_drewN
abbrev iY:=@wp_loop
abbrev iZ:=@Nat.div_div_eq_div_mul
abbrev jA:=@List.getElem?_drop
abbrev jB:=@Nat.and_le_left
abbrev jC:=@Prod.mk.injEq
abbrev jD:=@Bool.and_eq_false_iff
abbrev jE:=@Result.andThen_ok
abbrev jF:=@List.flatMap_cons
abbrev jG:=@List.getElem_take
abbrev jH:=@u64_and_nat
abbrev jI:=@Nat.mul_le_mul_right
abbrev jJ:=@bne_iff_ne
abbrev jK:=@Nat.add_mul
abbrev jL:=@Nat.one_mul
abbrev jM:=@Nat.mod_eq_of_lt
abbrev jN:=@List.map_toArray
abbrev jO:=@List.map_map
abbrev jP:=@Act.put_comm
abbrev jQ:=@List.length_reverse
abbrev jR:=@List.filter_sublist
abbrev jS:=@Array.size_setIfInBounds
abbrev jT:=@List.Pairwise.imp_of_mem
abbrev jU:=@Bool.or_false
abbrev jV:=@Bool.false_or
abbrev jW:=@Nat.testBit_and
abbrev jX:=@List.filter_nil
abbrev jY:=@Option.map_some
abbrev jZ:=@Nat.min_eq_left
abbrev kA:=@Ne.symm
abbrev kB:=@Int.natCast_add
abbrev kC:=@DataW.agg.injEq
abbrev kD:=@List.append_of_mem
abbrev kE:=@List.count_pos_iff
abbrev kF:=@Int.natCast_nonneg
abbrev kG:=@List.getElem?_set
abbrev kH:=@Nat.add_mod_right
abbrev kI:=@run_append_own_at
abbrev kJ:=@List.take_add_one
abbrev kK:=@List.countP_congr
abbrev kL:=@Nat.sub_self
abbrev kM:=@u64_andNot_nat
abbrev kN:=@List.length_replicate
abbrev kO:=@Nat.and_two_pow_sub_one_eq_mod
abbrev kQ:=@Nat.min_le_right
abbrev kS:=@List.nodup_range
abbrev kU:=@List.mem_reverse
abbrev kV:=@List.Nodup.length_le_of_subset
abbrev kW:=@Int.natCast_emod
abbrev kX:=@List.sum_cons
abbrev kY:=@List.pairwise_append
abbrev kZ:=@List.count_eq_zero_of_not_mem
abbrev lB:=@Nat.pow_lt_pow_right
abbrev lC:=@Nat.zero_mul
abbrev lG:=@Sem.run_bind
abbrev lH:=@Sem.run_pure
abbrev lI:=@List.range_add
abbrev lJ:=@World.grownBy.refl
abbrev lK:=@List.take_zero
abbrev lL:=@or_false
abbrev lM:=@Int.emod_lt_of_pos
abbrev lN:=@List.countP_append
abbrev lO:=@Nat.mul_le_mul
abbrev lQ:=@UInt8.toNat_lt
abbrev lS:=@List.find?_eq_none
abbrev lU:=@List.Pairwise.nil
abbrev lV:=@Bool.not_eq_true'
abbrev lW:=@List.filter_congr
abbrev lX:=@List.mem_finRange
abbrev lY:=@Bool.eq_false_iff
abbrev lZ:=@List.all_eq_false
abbrev mA:=@Nat.lt_trichotomy
abbrev mB:=@Int.emod_eq_of_lt
abbrev mC:=@List.length_filterMap_le
abbrev mD:=@List.prefix_refl
abbrev mE:=@DataW.trod_array
abbrev mF:=@List.length_drop
abbrev mG:=@List.ext_getElem
abbrev mH:=@Nat.lt_add_of_pos_right
abbrev mI:=@List.getElem?_replicate
abbrev mJ:=@List.filter_eq_nil_iff
abbrev mK:=@Addr.add_lit
abbrev mL:=@Nat.lt_or_ge
abbrev mM:=@List.getElem?_set_self
abbrev mN:=@List.map_set
abbrev mO:=@List.getElem_cons_drop
abbrev mP:=@List.drop_eq_nil_of_le
abbrev mQ:=@Nat.min_le_left
abbrev mR:=@Int.emod_nonneg
abbrev mS:=@World.var?_cell
abbrev mT:=@trodAll_cons_mk
abbrev mV:=@List.filterMap_append
abbrev mW:=@List.countP_le_length
abbrev mX:=@Array.getElem?_toList
abbrev mY:=@List.nodup_iff_count
abbrev mZ:=@List.perm_cons_erase
abbrev nA:=@size_madeCells
abbrev nB:=@Array.mem_toList_iff
abbrev nC:=@List.countP_pos_iff
abbrev nD:=@List.filterMap_cons
abbrev nE:=@Nat.testBit_two_pow
abbrev nF:=@Bool.or_comm
abbrev nG:=@wpList_plain
abbrev nH:=@wpIn_loop
abbrev nJ:=@eq_comm
abbrev oA (w v : World) : Prop := Below w.heap.size w v
abbrev Cl (w : World) (b o : Nat) (v : Value) : Prop := w.cell? ⟨b, o, none⟩ = some v
theorem oM {p : Prop} (h : p := by omega) : p := h
theorem vZ {p : Prop} (h : p := by kernel_rfl) : p := h
theorem vY {p : Prop} (h : p := by decide) : p := h
theorem sP {p : Prop} (h : p := by simp) : p := h
theorem gM {p : Prop} (h : p := by go_num) : p := h
theorem oN {p q : Prop} (h : q) (k : q → p := by intro _; omega) : p := k h
theorem oP {p q r : Prop} (h : q) (h' : r) (k : q → r → p := by intro _ _; omega) : p := k h h'
theorem oR {p q r s : Prop} (h : q) (h' : r) (h'' : s) (k : q → r → s → p := by intro _ _ _; omega) : p := k h h' h''
section
structure Yg where
 op:Int
 dst:Int
 a:Int
 b:Int
 imm:Int
structure Yj where
 kind:Int
 a:Int
 to:Int
 els:Int
structure Ph where
 dst:Int
 args:List Int
structure Xe where
 ps:List Ph
 is:List Yg
 te:Yj
structure Fn where
 values:Int
 blocks:List Xe
def Yg.cells(x:Yg):List Value:=[.int .i64 x.op,.int .i64 x.dst,.int .i64 x.a,.int .i64 x.b,.int .i64 x.imm]
def Xf(w:World)(L B:Nat)(c:Option Addr)(a:List Int):Prop :=
 ∀i (h:i<a.length),∃b o,c=some ⟨b,o,none⟩/\(L<=b/\b<B)/\w.cell? ⟨b,o+i,none⟩=some (.int .i64 a[i])
def Jk(w:World)(b o:Nat)(x:Yg):Prop :=
 w.cell? ⟨b,o,none⟩=some (.int .i64 x.op)/\w.cell? ⟨b,o+1,none⟩=some (.int .i64 x.dst)/\w.cell? ⟨b,o+2,none⟩=some (.int .i64 x.a) /\
 w.cell? ⟨b,o+3,none⟩=some (.int .i64 x.b)/\w.cell? ⟨b,o+4,none⟩=some (.int .i64 x.imm)
def YY(w:World)(L B:Nat)(c:Option Addr)(a:List Yg):Prop :=
 ∀i (h:i<a.length),∃b o,c=some ⟨b,o,none⟩/\(L<=b/\b<B)/\Jk w b (o+i*5) a[i]
def Va(w:World)(b o:Nat)(x:Yj):Prop :=
 w.cell? ⟨b,o,none⟩=some (.int .i64 x.kind)/\w.cell? ⟨b,o+1,none⟩=some (.int .i64 x.a)/\w.cell? ⟨b,o+2,none⟩=some (.int .i64 x.to) /\
 w.cell? ⟨b,o+3,none⟩=some (.int .i64 x.els)
def cn(w:World)(L B b o:Nat)(x:Ph):Prop :=
 ∃a c,w.cell? ⟨b,o,none⟩=some (.int .i64 x.dst)/\w.cell? ⟨b,o+1,none⟩=some (.slice a x.args.length c)/\Xf w L B a x.args
def Jw(w:World)(L B:Nat)(c:Option Addr)(a:List Ph):Prop :=
 ∀i (h:i<a.length),∃b o,c=some ⟨b,o,none⟩/\(L<=b/\b<B)/\cn w L B b (o+i*2) a[i]
def Tk(w:World)(L B b o:Nat)(x:Xe):Prop :=
 ∃c e a d,w.cell? ⟨b,o,none⟩=some (.slice c x.ps.length e)/\w.cell? ⟨b,o+1,none⟩=some (.slice a x.is.length d) /\
  Va w b (o+2) x.te/\Jw w L B c x.ps/\YY w L B a x.is
def Xp(w:World)(L B:Nat)(c:Option Addr)(a:List Xe):Prop :=
 ∀i (h:i<a.length),∃b o,c=some ⟨b,o,none⟩/\(L<=b/\b<B)/\Tk w L B b (o+i*6) a[i]
theorem Xa{p:Prop}(h:p):Hid p:=h
theorem Xw{p:Prop}(h:Hid p):p:=h
theorem Xg{w w1 a:World}(h:Below w.heap.size w w1)(k:Below w1.heap.size w1 a):Below w.heap.size w a:=h.trans (k.mono h.size)
theorem bcell{W a:World}(c:Below W.heap.size W a):(∀b o,b<W.heap.size->a.cell? ⟨b,o,none⟩=W.cell? ⟨b,o,none⟩)/\(∀b o,b<W.heap.size->a.frozen? ⟨b,o,none⟩=W.frozen? ⟨b,o,none⟩) :=
 ⟨fun b o h=>c.cell (p:=⟨b,o,none⟩) h,fun b o h=>c.frozen (p:=⟨b,o,none⟩) h⟩
theorem Xb{w a:World}(h:Below w.heap.size w a)(o:Obj):Below w.heap.size w (a.alloc o):=h.alloc h.size o
def dm(L:Nat)(w:World):Prop:=∀b o,L<=b->w.frozen? ⟨b,o,none⟩=false
theorem dm.start(w:World):dm w.heap.size w:=fun b o h=>by
 unfold World.frozen?;rw[iI (by exact h)]
theorem dm.alloc{L:Nat}{w:World}(h:dm L w)(c:Array Value)(t:TypeId):dm L (w.alloc (.cells c t)):=fun b o d=>by
 by_cases e:b<w.heap.size
 ·rw[bJ (w:=w) (a:=⟨b,o,none⟩) (Below.heap_alloc _ _ _ e)];exact h b o d
 ·unfold World.frozen?
  show(match (w.heap.push (.cells c t))[b]? with | some (.cells _ _ (lo,hi))=>decide (lo<=o)&&decide (o<hi) | _=>false)=false
  rw[Array.getElem?_push];split
  ·rename_i _ _ _ a
   split at a
   ·cases a;simp
   ·rw[iI oM]at a;cases a
  ·rfl
variable {w w' : World} {L B : Nat}
def YA(L B:Nat)(w w':World):Prop:=∀k,L<=k->k<B->w'.heap[k]?=w.heap[k]?
theorem YA.of_below(k:Below B w w'):YA L B w w':=fun i _ h=>k.block i h
theorem Xc{b o:Nat}(h:w'.heap[b]?=w.heap[b]?):w'.cell? ⟨b,o,none⟩=w.cell? ⟨b,o,none⟩:=bZ (w:=w) h
theorem Xf.keepS{c:Option Addr}{d:List Int}(h:Xf w L B c d)(k:YA L B w w'):Xf w' L B c d:=fun i g=>by
 obtain⟨b,o,e,a,f⟩:=h i g;exact⟨b,o,e,a,by rw[Xc (k b a.1 a.2)];exact f⟩
theorem Jk.keepS{b o:Nat}{x:Yg}(h:Jk w b o x)(k:w'.heap[b]?=w.heap[b]?):Jk w' b o x:=by
 obtain⟨a,c,d,e,f⟩:=h;exact⟨(Xc k).trans a,(Xc k).trans c,(Xc k).trans d,(Xc k).trans e,(Xc k).trans f⟩
theorem Va.keepS{b o:Nat}{x:Yj}(h:Va w b o x)(k:w'.heap[b]?=w.heap[b]?):Va w' b o x:=by
 obtain⟨a,c,d,e⟩:=h;exact⟨(Xc k).trans a,(Xc k).trans c,(Xc k).trans d,(Xc k).trans e⟩
theorem YY.keepS{c:Option Addr}{d:List Yg}(h:YY w L B c d)(k:YA L B w w'):YY w' L B c d:=fun i g=>by
 obtain⟨b,o,e,a,f⟩:=h i g;exact⟨b,o,e,a,f.keepS (k b a.1 a.2)⟩
theorem cn.keepS{b o:Nat}{x:Ph}(h:cn w L B b o x)(k:YA L B w w')(e:w'.heap[b]?=w.heap[b]?):cn w' L B b o x:=by
 obtain⟨a,c,d,f,g⟩:=h;exact⟨a,c,(Xc e).trans d,(Xc e).trans f,g.keepS k⟩
theorem Jw.keepS{c:Option Addr}{d:List Ph}(h:Jw w L B c d)(k:YA L B w w'):Jw w' L B c d:=fun i g=>by
 obtain⟨b,o,e,a,f⟩:=h i g;exact⟨b,o,e,a,f.keepS k (k b a.1 a.2)⟩
theorem Tk.keepS{b o:Nat}{x:Xe}(h:Tk w L B b o x)(k:YA L B w w')(e:w'.heap[b]?=w.heap[b]?):Tk w' L B b o x:=by
 obtain⟨l,m,i,j,a,c,d,f,g⟩:=h;exact⟨l,m,i,j,(Xc e).trans a,(Xc e).trans c,d.keepS e,f.keepS k,g.keepS k⟩
theorem Xp.keepS{c:Option Addr}{d:List Xe}(h:Xp w L B c d)(k:YA L B w w'):Xp w' L B c d:=fun i g=>by
 obtain⟨b,o,e,a,f⟩:=h i g;exact⟨b,o,e,a,f.keepS k (k b a.1 a.2)⟩
theorem Xf.keep{a:Option Addr}{b:List Int}(h:Xf w L B a b)(k:Below B w w'):Xf w' L B a b:=h.keepS (YA.of_below k)
theorem Jk.keep{b o:Nat}{x:Yg}(h:Jk w b o x)(k:Below B w w')(a:b<B):Jk w' b o x:=h.keepS (k.block b a)
theorem YY.keep{a:Option Addr}{b:List Yg}(h:YY w L B a b)(k:Below B w w'):YY w' L B a b:=h.keepS (YA.of_below k)
theorem Jw.keep{a:Option Addr}{b:List Ph}(h:Jw w L B a b)(k:Below B w w'):Jw w' L B a b:=h.keepS (YA.of_below k)
theorem Tk.keep{b o:Nat}{x:Xe}(h:Tk w L B b o x)(k:Below B w w')(a:b<B):Tk w' L B b o x:=h.keepS (YA.of_below k) (k.block b a)
theorem Xp.keep{a:Option Addr}{b:List Xe}(h:Xp w L B a b)(k:Below B w w'):Xp w' L B a b:=h.keepS (YA.of_below k)
theorem Xf.mono{c a:Nat}{d:Option Addr}{e:List Int}(h:Xf w L B d e)(m:c<=L)(l:B<=a):Xf w c a d e:=fun j i=>by
 obtain⟨b,o,f,k,g⟩:=h j i;exact⟨b,o,f,oM,g⟩
theorem YY.mono{c a:Nat}{d:Option Addr}{e:List Yg}(h:YY w L B d e)(m:c<=L)(l:B<=a):YY w c a d e:=fun j i=>by
 obtain⟨b,o,f,k,g⟩:=h j i;exact⟨b,o,f,oM,g⟩
theorem cn.mono{c a:Nat}{b o:Nat}{x:Ph}(h:cn w L B b o x)(l:c<=L)(k:B<=a):cn w c a b o x:=by
 obtain⟨d,e,f,g,i⟩:=h;exact⟨d,e,f,g,i.mono l k⟩
theorem Jw.mono{c a:Nat}{d:Option Addr}{e:List Ph}(h:Jw w L B d e)(l:c<=L)(k:B<=a):Jw w c a d e:=fun j i=>by
 obtain⟨b,o,f,m,g⟩:=h j i;exact⟨b,o,f,oM,g.mono l k⟩
theorem Tk.mono{c a:Nat}{b o:Nat}{x:Xe}(h:Tk w L B b o x)(l:c<=L)(k:B<=a):Tk w c a b o x:=by
 obtain⟨n,p,j,m,d,e,f,g,i⟩:=h;exact⟨n,p,j,m,d,e,f,g.mono l k,i.mono l k⟩
theorem Xp.mono{c a:Nat}{d:Option Addr}{e:List Xe}(h:Xp w L B d e)(l:c<=L)(k:B<=a):Xp w c a d e:=fun j i=>by
 obtain⟨b,o,f,m,g⟩:=h j i;exact⟨b,o,f,oM,g.mono l k⟩
end
theorem xA{α:Type}{xs:List α}{i:Nat}(h:i<xs.toArray.size):xs.toArray[i]=xs[i]'(by simpa using h):=rfl
theorem xB{α:Type}{a:α}{ys:List α}{h:0<(a::ys).length}:(a::ys)[0]=a:=rfl
theorem xC{α:Type}{a:α}{ys:List α}{i:Nat}{h:i+1<(a::ys).length}:(a::ys)[i+1]=ys[i]'(Nat.lt_of_succ_lt_succ h):=rfl
theorem xD{α:Type}{l:List α}{i:Nat}{a:α}:l.toArray.setIfInBounds i a=(l.set i a).toArray:=List.setIfInBounds_toArray ..
theorem xE{α:Type}{x:α}{xs:List α}{a:α}:(x::xs).set 0 a=a::xs:=rfl
theorem xF{α:Type}{x:α}{xs:List α}{i:Nat}{a:α}:(x::xs).set (i+1) a=x::xs.set i a:=rfl
theorem X0{P:Program}{md:Region.Mode}{ops:Array Oper}{Q:Exit->Act->World->Prop}{S:World->Prop}(i:Nat){oi:Oper}{v:Value}{fuel:Nat}{listed:Array Bool}{a b:Act}{w:World}(h:wpAnyH P md ops Q S fuel (listed.setIfInBounds i true) b w)(hi:ops[i]?=some oi:=by exact rfl)(hw:Region.wanted oi (yielded ops a.tmps)=true:=by rfl)(hy:∀(w:World),S w->Sem.run P (execOp a.eval oi) w=Result.ok (Next.value v) w:=by intro w hSw;(try dsimp only at hSw);go_simp;try with_reducible rfl)(hp:a.put oi.dst v=b:=by(simp only[Act.put,xA,xB,xC,xD,xE,xF]);exact rfl)(hq:∀c a w,Q (.panic c) (a.put oi.dst v) w->Q (.panic c) a w:=by exact(fun _ _ _ h=>hQ.out _ _ _ _ _ h))(hs:Region.noSelect ops=true:=by kernel_rfl)(hf:Region.free md ops listed i=true:=by kernel_rfl)(hr:(Region.ready md ops listed).contains i=true:=by kernel_rfl)(hS:S w:=by assumption):wpAnyH P md ops Q S (fuel+1) listed a w:=wpAnyH_take hi hs hf hr hq (Or.inl ⟨hw,hy⟩) hS (hp ▸ h)
theorem Xn{P:Program}{md:Region.Mode}{ops:Array Oper}{Q:Exit->Act->World->Prop}{S:World->Prop}(i:Nat){oi:Oper}{v:Value}{fuel:Nat}{listed:Array Bool}{a b:Act}{w:World}(h:wpAnyH P md ops Q S fuel (listed.setIfInBounds i true) b w)(hi:ops[i]?=some oi:=by exact rfl)(hw:Region.wanted oi (yielded ops a.tmps)=true:=by rfl)(hy:∀(w:World),S w->Sem.run P (execOp a.eval oi) w=Result.ok (Next.value v) w:=by intro w hSw;(try dsimp only at hSw);go_simp;try with_reducible rfl)(hp:a.put oi.dst v=b:=by(simp only[Act.put,xA,xB,xC,xD,xE,xF]);exact rfl)(hq:∀c a w,Q (.panic c) (a.put oi.dst v) w->Q (.panic c) a w:=by exact fun _ _ _ h=>h)(hs:Region.noSelect ops=true:=by kernel_rfl)(hf:Region.free md ops listed i=true:=by kernel_rfl)(hr:(Region.ready md ops listed).contains i=true:=by kernel_rfl)(hS:S w:=by assumption):wpAnyH P md ops Q S (fuel+1) listed a w:=wpAnyH_take hi hs hf hr hq (Or.inl ⟨hw,hy⟩) hS (hp ▸ h)
theorem KH{P:Program}{md:Region.Mode}{ops:Array Oper}{Q:Exit->Act->World->Prop}{S:World->Prop}(i:Nat){oi:Oper}{fuel:Nat}{listed:Array Bool}{a b:Act}{w:World}(h:wpAnyH P md ops Q S fuel (listed.setIfInBounds i true) b w)(hi:ops[i]?=some oi:=by exact rfl)(hw:Region.wanted oi (yielded ops a.tmps)=false:=by rfl)(hp:a.put oi.dst undef=b:=by(simp only[Act.put,xA,xB,xC,xD,xE,xF]);exact rfl)(hq:∀c a w,Q (.panic c) (a.put oi.dst undef) w->Q (.panic c) a w:=by exact fun _ _ _ h=>h)(hs:Region.noSelect ops=true:=by kernel_rfl)(hf:Region.free md ops listed i=true:=by kernel_rfl)(hr:(Region.ready md ops listed).contains i=true:=by kernel_rfl)(hS:S w:=by assumption):wpAnyH P md ops Q S (fuel+1) listed a w:=wpAnyH_take hi hs hf hr hq (Or.inr ⟨hw,rfl⟩) hS (hp ▸ h)
theorem Xs{P:Program}{md:Region.Mode}{ops:Array Oper}{Q:Exit->Act->World->Prop}{S:World->Prop}(i:Nat){oi:Oper}{fuel:Nat}{listed:Array Bool}{a:Act}{w:World}(h:∀K':Act->World->Prop,Shut (∀a w,S w->∀{b:Act},(S w->wpAnyH P md ops Q S fuel (listed.setIfInBounds i true) b w)->(hp:a=b:=by(try simp only[Act.put,xA,xB,xC,xD,xE,xF]);exact rfl)->K' a w)->if Region.wanted oi (yielded ops a.tmps)=true then Oper.wp P oi a w K' Q else K' (a.put oi.dst undef) w)(hi:ops[i]?=some oi:=by exact rfl)(hr:Region.ready md ops listed=[i]:=by kernel_rfl):wpAnyH P md ops Q S (fuel+1) listed a w:=wpAnyH_ready (rs:=[i]) hr (by simp) (AllReadyH.cons hi (fun K hK=>h K (fun a w hs b k hp=>hK a w hs (hp ▸ k))) AllReadyH.nil)
theorem Y7{P:Program}{ops:Array Oper}{Q:Exit->Act->World->Prop}(S:World->Prop){id:Nat}{a:Act}{w:World}(h:S w.drew->wpAnyH P .any ops Q S ops.size (Array.replicate ops.size false) a w.drew)(hS:S w.drew:=by first | with_reducible exact True.intro | ((try dsimp only);go_keep))(hm:P.follows .mixedOrders=true:=by kernel_rfl):(Code.region id ops true).wp P Q a w:=wp_region_held_drew hm hS h
theorem Yq{P:Program}{md:Region.Mode}{ops:Array Oper}{Q:Exit->Act->World->Prop}{S:World->Prop}{listed:Array Bool}{a:Act}{w:World}{fuel:Nat}(h:Q .normal a w)(hr:Region.ready md ops listed=[]:=by kernel_rfl):wpAnyH P md ops Q S fuel listed a w:=wpAnyH_done hr h fuel
theorem kP{S:Prop}(h:S:=by first | with_reducible exact hHeld | ((try dsimp only);go_keep)):S:=h
theorem XU{n:Nat}{w w':World}(k:Below n w w'){b o:Nat}(hb:b<n):w'.cell? ⟨b,o,none⟩=w.cell? ⟨b,o,none⟩:=k.cell (p:=⟨b,o,none⟩) hb
theorem oB {n : Nat} {w v : World} {b o : Nat} {x : Option Value} (k : Below n w v) (e : w.cell? ⟨b, o, none⟩ = x) (hb : b < n) : v.cell? ⟨b, o, none⟩ = x := (k.cell (p := ⟨b, o, none⟩) hb).trans e
abbrev xX := And.intro @Act.put.eq_1 (And.intro @Act.put.eq_2 (And.intro @xA (And.intro @xB (And.intro @xC (And.intro @xD (And.intro @xE @xF))))))
abbrev xY := And.intro @dO.{0} (And.intro @bA.{0} (And.intro @bO.{0} (And.intro @cX.{0} (And.intro @cZ.{0} (And.intro @dP.{0} (And.intro @dE.{0} (And.intro @dR.{0} @cW.{0})))))))
section
variable {w w1 : World} {L B b t N : Nat} {f : Nat -> Value}
theorem YA.refl(L B:Nat)(w:World):YA L B w w:=fun _ _ _=>rfl
theorem YA.setCell(h:YA L B w w1){p:Addr}(d:p.block<L\/B<=p.block)(v:Value):YA L B w (w1.setCell p v):=fun k a c=>by
 rw[Below.heap_setCell _ _ _ _ oM];exact h k a c
theorem Xd(w:World)(p:Addr)(v:Value):(w.setCell p v).heap.size=w.heap.size:=by simp[World.setCell]
end
section
variable {w w' w1 : World} {L B : Nat}
def BO(L B:Nat)(w:World):Prop:=∀b o,L<=b/\b<B->w.frozen? ⟨b,o,none⟩=false
variable {L' B' : Nat} {a : Option Addr}
end
def JS(l:List UInt8):List Value:=l.map fun b=>Value.int .u8 (b.toNat:Int)
theorem sE(l:List UInt8)(b:UInt8):JS (l++[b])=JS l++[Value.int .u8 (b.toNat:Int)]:=by simp[JS]
def Zx(w:World)(L B:Nat)(c:Option Addr)(a:List Value):Prop:=∀i (h:i<a.length),∃b o,c=some ⟨b,o,none⟩/\(L<=b/\b<B)/\w.cell? ⟨b,o+i,none⟩=some a[i]
theorem Zx.keepS(h:Zx w n m p y)(k:YA n m w v):Zx v n m p y:=fun i d=>by
 obtain⟨b,o,e,a,c⟩:=h i d;exact⟨b,o,e,a,by rw[Xc (k b a.1 a.2)];exact c⟩
theorem UO(h:w.ownsRow n m 1 a k y):∃f l,a=.slice f y.length l/\Zx w n w.heap.size f y:=by
 obtain⟨e,h | ⟨g,s,o,rfl,p,d,t,_,q,j⟩⟩:=h
 ·obtain⟨rfl,rfl⟩:=h
  have:y=[]:=by simpa using e
  subst this;exact⟨_,_,rfl,fun i b=>absurd b sP⟩
 ·simp only[iN]at e q j
  subst e;refine⟨_,_,rfl,fun i b=>⟨g,0,rfl,⟨p,?_⟩,?_⟩⟩
  ·rcases mL g w.heap.size with c | c
   ·exact c
   ·rw[iI c]at d;cases d
  ·rw[aV,cell_of_row w g i o m (0,0) d,<-mX]
   have:=fI (fun r:List Value=>r[i]?) j;simp only[List.getElem?_take,b,gG]at this;rw[this,aC b]
theorem ou(w:World)(a:List Value)(t:TypeId):Zx (w.alloc (.cells a.toArray t)) w.heap.size (w.heap.size+1) (some ⟨w.heap.size,0,none⟩) a:=fun i b =>
 ⟨_,0,rfl,⟨aA _,iJ _⟩,by simp[b]⟩
def Yx(w:World)(L B:Nat)(c:Option Addr)(a:List UInt8):Prop:=∀i (h:i<a.length),∃b o,c=some ⟨b,o,none⟩/\(L<=b/\b<B)/\w.cell? ⟨b,o+i,none⟩=some (.int .u8 (a[i].toNat:Int))
theorem Yx.keepS{c:List UInt8}(h:Yx w n m p c)(k:YA n m w v):Yx v n m p c:=fun i f=>by
 obtain⟨b,o,e,a,d⟩:=h i f;exact⟨b,o,e,a,by rw[Xc (k b a.1 a.2)];exact d⟩
theorem Yx.keep{w':World}{a:List UInt8}(h:Yx w n B p a)(k:Below B w w'):Yx w' n B p a:=h.keepS (YA.of_below k)
theorem sN{c:List UInt8}(r:w.ownsRow n m 1 a k (JS c)):∃f p L B,a=.slice f c.length p/\Yx w L B f c/\BO L B w/\((L=0/\B=0)\/(B=L+1/\n<=L/\L<w.heap.size)):=by
 obtain⟨o,h | ⟨g,A,q,rfl,t,e,C,_,D,x⟩⟩:=r
 ·have:c=[]:=by
   have s:=h.2;subst s;simpa [JS]using o
  subst this;exact⟨none,0,0,0,h.1,fun i d=>absurd d sP,fun b z l=>absurd l oM,bC ⟨rfl,rfl⟩⟩
 ·have u:=(aS.1 e).1
  have v:k=c.length:=by simpa [JS]using o.symm
  subst v;refine⟨_,_,g,g+1,rfl,fun i d=>⟨g,0,rfl,⟨aA _,iJ _⟩,?_⟩,fun b z l=>?_,aZ ⟨rfl,t,u⟩⟩
  ·rw[aV,cell_of_row w g i q m (0,0) e,<-mX]
   have j:=fI (fun y:List Value=>y[i]?) x;simp only[List.getElem?_take,iN,d,gG]at j;rw[j];simp[JS,d]
  ·have:b=g:=oM
   subst this;unfold World.frozen?;rw[e];simp
theorem Zk(h:w.ownsRow n k B a g y)(i:m<=n):w.ownsRow m k B a g y:=by
 obtain⟨b,f | ⟨e,c,d,l,j,r⟩⟩:=h
 ·exact⟨b,.inl f⟩
 ·exact⟨b,.inr ⟨e,c,d,l,aJ i j,r⟩⟩
structure Sr where
 code:List UInt8
 pos:Nat
 mix:Int
 size:Int
def nextP(s:Sr)(n:Int):Int × Sr :=
 if n<=1 then (0,s)
 else if s.pos<s.code.length/\n<=256 then (((s.code.getD s.pos 0).toNat:Int) % n,{ s with pos:=s.pos+1 })
 else ((s.mix*1103+12347) % 1000003 / 3 % n,{ s with mix:=(s.mix*1103+12347) % 1000003 })
structure Jb(s:Sr):Prop where
 len:s.code.length<=4000
 pos:s.pos<=s.code.length
 mix:0<=s.mix/\s.mix<1000003
 size:1<=s.size/\s.size<=7
theorem Y8{s:Sr}(h:Jb s)(n:Int):Jb (nextP s n).2:=by
 unfold nextP;split
 ·exact h
 ·split
  ·rename_i a
   exact⟨h.len,a.1,h.mix,h.size⟩
  ·refine⟨h.len,h.pos,?_,h.size⟩
   show 0<=(s.mix*1103+12347) % 1000003/\(s.mix*1103+12347) % 1000003<1000003;omega
theorem XE(s:Sr){n:Int}(h:1<=n):0<=(nextP s n).1/\(nextP s n).1<n:=by
 unfold nextP;split
 ·exact⟨Int.le_refl _,by show(0:Int)<n;omega⟩
 ·split
  ·exact⟨mR _ oM,lM _ oM⟩
  ·exact⟨mR _ oM,lM _ oM⟩
structure Jg(w:World)(b L B:Nat)(s:Sr):Prop where
 c0:∃a c,w.cell? ⟨b,0,none⟩=some (.slice a s.code.length c)/\Yx w L B a s.code
 c1:w.cell? ⟨b,1,none⟩=some (.int .i64 s.pos)
 c2:w.cell? ⟨b,2,none⟩=some (.int .i64 s.mix)
 c3:w.cell? ⟨b,3,none⟩=some (.int .i64 s.size)
 thaw:∀q,w.frozen? ⟨b,q,none⟩=false
 out:¬(L<=b/\b<B)
theorem VQ{b:Nat}{a:List UInt8}(v:Value)(c:Yx w m k p a)(d:¬(m<=b/\b<k)):Yx (w.setCell ⟨b,n,none⟩ v) m k p a:=c.keepS (fun e g h=>Below.heap_setCell _ _ _ _ (by show e≠b;intro f;exact d oM))
theorem XL(w:World)(b:Nat)(h:n≠m)(v:Value):(w.setCell ⟨b,n,none⟩ v).cell? ⟨b,m,none⟩=w.cell? ⟨b,m,none⟩:=cJ _ _ _ _ (by intro e;injection e with _ e2;exact h e2)
theorem Jg.mix{b:Nat}{s:Sr}(h:Jg w b n m s)(a:Int):Jg (w.setCell ⟨b,2,none⟩ (.int .i64 a)).drew b n m { s with mix:=a }:=by
 obtain⟨c,d,e,f⟩:=h.c0;exact⟨⟨c,d,(XL w b oM _).trans e,VQ _ f h.out⟩,(XL w b oM _).trans h.c1,fQ w _ _ h.c2,(XL w b oM _).trans h.c3,fun q=>by show(w.setCell _ _).frozen? _=false;rw[eX];exact h.thaw q,h.out⟩
theorem Jg.pos{b:Nat}{s:Sr}(h:Jg w b n m s)(a:Nat):Jg (w.setCell ⟨b,1,none⟩ (.int .i64 a)).drew b n m { s with pos:=a }:=by
 obtain⟨c,d,e,f⟩:=h.c0;exact⟨⟨c,d,(XL w b oM _).trans e,VQ _ f h.out⟩,fQ w _ _ h.c1,(XL w b oM _).trans h.c2,(XL w b oM _).trans h.c3,fun q=>by show(w.setCell _ _).frozen? _=false;rw[eX];exact h.thaw q,h.out⟩
theorem Jg.drew{b:Nat}{s:Sr}(h:Jg w b n m s):Jg w.drew b n m s:=⟨h.c0,h.c1,h.c2,h.c3,h.thaw,h.out⟩
theorem VN(w:World)(b q:Nat)(v:Value):w.grownBy (w.setCell ⟨b,q,none⟩ v).drew (some b):=⟨rfl,rfl,rfl,by simp[World.setCell,World.drew],fun k _ a=>Below.heap_setCell _ _ _ _ (fun e=>a (by rw[e]))⟩
theorem xK(b L B:Nat)(s:Sr)(n:Int)(w:World)(a:Hid (Jg w b L B s))(j:Hid (Jb s))(M:n<=1000000)(N:-1000000<=n) :
 Calls prog 29 #[.pointer (some ⟨b,0,none⟩),.int .i64 n] w fun x r=>x=.returned (.int .i64 (nextP s n).1)/\Jg r b L B (nextP s n).2/\w.grownBy r (some b):=by
 obtain⟨D,F,G,m⟩:=a.c0;have e1:=a.c1;have e2:=a.c2;have R:=a.thaw 1;have S:=a.thaw 2;have t:=Xa m;clear m;have O:=j.pos;have J:=j.len;have K:=j.mix;have c:Hid (nextP s n=if n<=1 then (0,s)else if s.pos<s.code.length/\n<=256 then (((s.code.getD s.pos 0).toNat:Int) % n,{ s with pos:=s.pos+1 })else ((s.mix*1103+12347) % 1000003 / 3 % n,{ s with mix:=(s.mix*1103+12347) % 1000003 })):=Xa rfl;by_cases h:n<=1
 ·have d:Hid (nextP s n=(0,s)):=Xa (by rw[c.out,aU h])
  clear c
  go_in
  go_wp2
  go_ret
  rw[d.out];exact⟨rfl,a,⟨rfl,rfl,rfl,aA _,fun _ _ _=>rfl⟩⟩
 ·by_cases e:s.pos<s.code.length/\n<=256
  ·have d:Hid (nextP s n=(((s.code.getD s.pos 0).toNat:Int) % n,{ s with pos:=s.pos+1 })):=Xa (by rw[c.out,aM h,aU e])
   obtain⟨g,i⟩:=e;obtain⟨E,Q,rfl,y,I⟩:=t s.pos g;have u:Hid (s.code.getD s.pos 0=s.code[s.pos]):=Xa (by simp[g]);have H:s.code[s.pos].toNat<256:=lQ _;have C:=Xa a.out;generalize s.code[s.pos]=v at *;generalize z:v.toNat=k at *;have A:((k:Nat):Int).tmod n=(k:Int) % n:=eW oM;clear c y;have p:(s.pos:Int)<(s.code.length:Int):=oM;generalize o:s.code.length=l at *
   go_in
   go_wp2
   go_region
   go_wp2
   go_region
   go_wp2
   go_ret
   rw[d.out];have q:=(a.pos (s.pos+1)).drew;have f:=(VN w b 1 (.int .i64 ((s.pos+1:Nat):Int)));rw[kB]at q f;refine⟨?_,q,⟨f.os,f.tape,f.output,f.size,f.block⟩⟩;rw[u.out,z];rfl
  ·have d:Hid (nextP s n=((s.mix*1103+12347) % 1000003 / 3 % n,{ s with mix:=(s.mix*1103+12347) % 1000003 })):=Xa (by rw[c.out,aM h,aM e])
   have A:(s.mix*1103+12347).tmod 1000003=(s.mix*1103+12347) % 1000003:=eW oM;have hq:((s.mix*1103+12347) % 1000003).tdiv 3=(s.mix*1103+12347) % 1000003 / 3:=fY oM;have P:((s.mix*1103+12347) % 1000003 / 3).tmod n=(s.mix*1103+12347) % 1000003 / 3 % n:=eW oM;clear c;by_cases g:s.pos<s.code.length
   ·have i:¬n<=256:=fun i=>e ⟨g,i⟩
    clear e;have p:(s.pos:Int)<(s.code.length:Int):=oM;generalize o:s.code.length=l at *
    go_in
    go_wp2
    go_region
    go_wp2
    go_ret
    rw[d.out];exact⟨rfl,a.mix _,VN _ _ _ _⟩
   ·clear e
    have p:¬(s.pos:Int)<(s.code.length:Int):=oM;generalize o:s.code.length=l at *
    go_in
    go_wp2
    go_region
    go_wp2
    go_ret
    rw[d.out];exact⟨rfl,a.mix _,VN _ _ _ _⟩
structure Mv where
 to:Int
 frm:Int
def CI(L:List Mv)(t:Int):List Mv:=L.filter fun m=>m.to != t
def JV(c:List UInt8)(m:Int):Int:=c.foldl (fun m b=>(m*257+(b.toNat:Int)+1) % 1000003) m
def WB(a:List UInt8):Sr:=⟨a.take 4000,0,JV (a.take 4000) (((a.length % 1000:Nat):Int)+29),if 1+(((a.take 4000).length:Nat):Int) / 50 > 7 then 7 else 1+(((a.take 4000).length:Nat):Int) / 50⟩
theorem WP:∀(c:List UInt8)(m:Int),0<=m->m<1000003->0<=JV c m/\JV c m<1000003
 | [],m,h0,h1=>⟨h0,h1⟩
 | b::c,m,h0,h1=>WP c _ (mR _ vY) (lM _ vY)
theorem oV(c:List UInt8)(m:Int)(j:Nat)(h:j<c.length):JV (c.take (j+1)) m=(JV (c.take j) m*257+(c[j].toNat:Int)+1) % 1000003:=by
 unfold JV;rw[bN h,dT];rfl
theorem AC(a:List UInt8):Jb (WB a):=by
 refine⟨?_,aN _,WP _ _ oM (by have:=dS a.length (show 0<1000 by decide);omega),?_⟩
 ·show(a.take 4000).length<=4000
  rw[dH];omega
 ·unfold WB
  dsimp only;split<;>omega
theorem oO{T:Type}(a:List T)(d:T)(h:n<a.length):a.getD n d∈a:=by
 rw[show a.getD n d=a[n] by simp[h]];exact aH h
theorem Tryz.infoBy:(prog.info? 5).map (fun i=>(i.zero,i.size,i.bytes))=some (some (.int .u8 0),1,1):=vZ
theorem Xq{b:Nat}(h:(R.info? n).map (fun i=>(i.zero,i.size,i.bytes))=some (some a,m,b)):∃i,R.info? n=some i/\i.zero=some a/\i.size=m/\i.bytes=b:=by
 cases hi:R.info? n with
 | none=>rw[hi]at h;cases h
 | some i =>
  rw[hi]at h;simp only[jY,Option.some.injEq,jC]at h;exact⟨i,rfl,h.1,h.2.1,h.2.2⟩
theorem Z7{l:Array Oper}{o:Oper}{b:Act}{K:Act->World->Prop}{Q:Exit->Act->World->Prop}{E:Prop}(H:o.guard=none)(s x:Operand)(t:TypeId)
 (M:o.op=.call { callee:=.builtin .append,args:=#[s,x],argTypes:=#[t,t] })
 (f:Nat) (e:TypeId) (i:TypeInfo) (z:Value) (size bytes:Nat) (U:R.underlying t=some (.slice e)) (I:R.info? e=some i) (X:i.zero=some z)
 (S:i.size=size) (F:i.bytes=bytes) (Y:z.cells.size=size) (T:0<size)
 (v:Value) (n:Nat) (h:List Value) (P:b.eval s=v) (N:w.ownsRow f e size v n h)
 (g:Addr) (m j:Nat) (c:List Value) (W:b.eval x=.slice (some g) m j) (J:c.length=m*size) (L:∀k u,c[k]?=some u->w.cell? (g.add k)=some u) (q:∀u∈c,u.oneCell'=true)
 (C:n+m<=maxLen) (G:(n+m)*bytes<=140737488355328) (D:f<=w.heap.size)
 (p:∀a d,d.ownsRow f e size a (n+m) (h++c)->w.grownBy d v.ownBlock->(a=.slice none 0 0↔v=.slice none 0 0/\m=0)->(a.ownBlock=v.ownBlock\/a.ownBlock=some w.heap.size)->K (b.put o.dst a) d) :
 if Region.wanted o (yielded l b.tmps)=true then Oper.wp R o b w K Q else E:=by
 have V:Region.wanted o (yielded l b.tmps)=true:=by simp[Region.wanted,H]
 rw[aU V];obtain⟨a,d,O,r,y,A,B⟩:=kI (P:=R) w f t o.type e i z size bytes U I X S F Y T v n h N g m j c J L q C G D;unfold Oper.wp execOp;simp only[M,resolve,invoke,builtin,lG,lH,jE,jN,eH,fZ,P,W,O];exact p a d r y A B
structure ao(w wr:World)(bs:List UInt8)(j:Nat)(v:Value):Prop where
 low:Below w.heap.size w wr
 size:w.heap.size+1<=wr.heap.size
 c0:wr.cell? ⟨w.heap.size,0,none⟩=some v
 c1:wr.cell? ⟨w.heap.size,1,none⟩=some (.int .i64 0)
 c2:wr.cell? ⟨w.heap.size,2,none⟩=some (.int .i64 0)
 c3:wr.cell? ⟨w.heap.size,3,none⟩=some (.int .i64 0)
 thaw:∀q,wr.frozen? ⟨w.heap.size,q,none⟩=false
 own:wr.ownsRow (w.heap.size+1) 5 1 v j (JS (bs.take j))
theorem ao.drew{wr:World}{b:List UInt8}(h:ao w wr b n a):ao w wr.drew b n a:=⟨h.low.drew,h.size,h.c0,h.c1,h.c2,h.c3,h.thaw,h.own⟩
theorem ao.step{wr:World}{b:List UInt8}(h:ao w wr b n a)(o:n<b.length)(d:wr.grownBy v none)(f:v.grownBy u a.ownBlock)
 (k:u.ownsRow (w.heap.size+1) 5 1 A (n+1) (JS (b.take n)++[.int .u8 (b[n].toNat:Int)])):ao w (u.setCell ⟨w.heap.size,0,none⟩ A) b (n+1) A/\Below w.heap.size w u/\(∀q,u.frozen? ⟨w.heap.size,q,none⟩=false)/\u.cell? ⟨w.heap.size,0,none⟩=some a/\∃g m,A=.slice (some ⟨g,0,none⟩) (n+1) m:=by
 have p:some w.heap.size≠a.ownBlock:=fun e=>by have:=(h.own.lt _ e.symm).1;omega
 have s:=h.size;have j:=(f.block _ (oN d.size) p).trans (d.block _ oM sP);have l:=((h.low.grown d oM (fun r e=>by cases e)).grown f (oN d.size) (fun r e=>by have:=(h.own.lt _ e).1;omega));have c:∀q,u.cell? ⟨w.heap.size,q,none⟩=wr.cell? ⟨w.heap.size,q,none⟩:=fun q=>bZ j
 have i:=fun q=>(bJ j).trans (h.thaw q)
 refine⟨⟨l.setCell (aA _) _,?_,fQ _ _ _ ((c 0).trans h.c0),(XL _ _ oM _).trans ((c 1).trans h.c1),(XL _ _ oM _).trans ((c 2).trans h.c2),(XL _ _ oM _).trans ((c 3).trans h.c3),fun q=>by rw[eX];exact i q,?_⟩,l,i,(c 0).trans h.c0,?_⟩
 ·rw[Xd];have:=d.size;have:=f.size;omega
 ·refine ownsRow_setCell_below ?_ (by show w.heap.size<_;omega) _
  rw[bN o,sE];exact k
 ·rcases k.2 with⟨_,h0⟩ | ⟨g,cap,_,e,_⟩
  ·omega
  ·exact⟨g,cap,e⟩
theorem Yx.wide{a:List UInt8}(h:Yx w n m p a)(f:k<=n)(g:m<=B):Yx w k B p a:=fun i d=>by
 obtain⟨b,o,e,j,c⟩:=h i d;exact⟨b,o,e,oM,c⟩
theorem ao.done{wr:World}{c:List UInt8}(h:ao w wr c n a)(m:c.take n=c.take 4000):∃d e,a=.slice d (c.take 4000).length e/\Jg wr w.heap.size (w.heap.size+1) wr.heap.size ⟨c.take 4000,0,0,0⟩:=by
 have i:=h.own;rw[m]at i;obtain⟨d,e,L,B,j,g,-,k⟩:=sN i;subst j;refine⟨d,e,rfl,⟨⟨d,e,h.c0,?_⟩,h.c1,h.c2,h.c3,h.thaw,oM⟩⟩;rcases k with⟨rfl,rfl⟩ | ⟨rfl,h1,f⟩
 ·exact fun o l=>by obtain⟨b,p,_,f,_⟩:=g o l;omega
 ·exact g.wide h1 f
theorem Jg.undrew{b:Nat}{s:Sr}(h:Jg w.drew b n m s):Jg w b n m s:=⟨h.c0,h.c1,h.c2,h.c3,h.thaw,h.out⟩
theorem Jg.siz{b:Nat}{s:Sr}(h:Jg w b n m s)(a:Int):Jg (w.setCell ⟨b,3,none⟩ (.int .i64 a)) b n m { s with size:=a }:=by
 obtain⟨c,d,e,f⟩:=h.c0;exact⟨⟨c,d,(XL w b oM _).trans e,VQ _ f h.out⟩,(XL w b oM _).trans h.c1,(XL w b oM _).trans h.c2,fQ w _ _ h.c3,fun q=>by show(w.setCell _ _).frozen? _=false;rw[eX];exact h.thaw q,h.out⟩
theorem oX(w:World)(o:Obj):w.grownBy (w.alloc o).drew none:=⟨rfl,rfl,rfl,(bW w o none).size,fun k a b=>(bW w o none).block k a b⟩
theorem Yf(w:World)(u:Value)(b:Nat):∀j x,([u]:List Value)[j]?=some x->(w.alloc (.cells #[u] b)).cell? ((⟨w.heap.size,0,none⟩:Addr).add j)=some x:=fun j x a=>by
 have ha:(⟨w.heap.size,0,none⟩:Addr).add j=⟨w.heap.size,j,none⟩:=by unfold Addr.add;split<;>simp_all
 rw[ha]
 match j,a with
 | 0,a=>simpa using a
 | j+1,a=>cases a
theorem tp(aj:Option Addr)(n a4:Nat)(a:List UInt8)(a3 ad:Nat)(w:World)(ha:Hid (Yx w a3 ad aj a))(hx:Hid (n=a.length))(hn:n<=1048576)(hB:ad<=w.heap.size) :
 Calls prog 14 #[.slice aj n a4] w fun a5 t=>a5=.returned (.pointer (some ⟨w.heap.size,0,none⟩))/\Below w.heap.size w t/\w.heap.size+1<=t.heap.size/\Jg t w.heap.size (w.heap.size+1) t.heap.size (WB a):=by
 obtain⟨i0,ax,az,a0,a1⟩:=Xq Tryz.infoBy
 go_in
 go_wp2
 go_loopw [4] (fun u wr=>∃j:Nat,j<=n/\j<=4000/\u=.int .i64 j/\∃N,Hid (ao w wr a j N)) (fun u _=>n-(intOf u).toNat)
 case atStart=>exact⟨0,aN _,aN _,rfl,.slice none 0 0,Xa (by
  refine⟨Xb (Below.refl _ _) _,sP,by simp[go_sem],by simp[go_sem],by simp[go_sem],by simp[go_sem],fun bm=>by simp[go_sem],?_⟩;rw[lK];exact dA _ _ _ _)⟩
 case round =>
  obtain⟨j,hj,bl,rfl,N,f⟩:=hrel;by_cases ab:j<n/\j<4000
  ·obtain⟨ab,bc⟩:=ab
   have aa:j<a.length:=oN hx.out
   obtain⟨b,a2,rfl,ap,X⟩:=ha j aa;have ej:=(XU f.low oM).trans X;have ay:=f.size;have k:=f.c0;have bi:∀ob,(wr.alloc ob).cell? ⟨w.heap.size,0,none⟩=some N:=fun ob=>(bP _ _ _ (by show w.heap.size<_;omega)).trans k
   have ar:b≠w.heap.size:=oM;have af:Hid (∀O,Below w.heap.size w O->O.cell? ⟨b,a2+j,none⟩=some (.int .u8 (a[j].toNat:Int))):=Xa (fun O h8=>(XU h8 oM).trans X);clear X;go_wp2;refine Y7 (fun t=>t.cell? ⟨b,a2+j,none⟩=some (.int .u8 (a[j].toNat:Int))) (fun hHeld=>?_);refine Xn 0 ?_;refine Xn 2 ?_;refine Xn 3 ?_;refine Xn 4 ?_;refine Xn 5 ?_;refine eS (rs:=[1,6]) vZ sP ?_;refine(bQ rfl (fun K hK=>?_) (bQ rfl (fun K hK=>?_) dY))
   ·skip
    go_simp;refine hK _ _ kP (fun hHeld=>?_);clear hK
    try simp only[xX]
    refine Xs 6 (fun K hK=>?_);go_simp;refine hK _ _ kP (fun hHeld=>?_);clear hK;refine Xs 7 (fun K hK=>?_);refine Z7 rfl (.tmp 18) (.tmp 23) 22 rfl (w.heap.size+1) 5 i0 (.int .u8 0) 1 1 underlying22 ax az a0 a1 rfl vY N j (JS (a.take j)) (by simp[Act.eval]) (f.drew.own.alloc _) ⟨wr.heap.size,0,none⟩ 1 1 [.int .u8 (a[j].toNat:Int)] (by simp[Act.eval]) rfl (Yf _ _ _) (by intro u J;simp at J;subst J;rfl) (by unfold maxLen;omega) oM (by(try simp);omega) ?_;rintro v8 O H E - -;have T:=f.step aa (oX wr _) E H;obtain⟨I,F,D,a7,g8,c8,rfl⟩:=T;have U:=Xa I;have W:=af _ F;have a8:=D 0;clear H E I F D;refine hK _ _ kP (fun hHeld=>?_);clear hK;refine Xn 8 ?_;refine Xs 9 (fun K hK=>?_);go_simp;refine hK _ _ ((bH _ _ _ _ (kA ar)).trans W) (fun hHeld=>?_);clear hK;refine Yq ?_;go_wp2;exact⟨⟨j+1,oM,oM,gM,_,Xa U.out⟩,by simp[intOf];omega⟩
   ·skip
    go_simp;refine hK _ _ kP (fun hHeld=>?_);clear hK
    try simp only[xX]
    refine Xs 1 (fun K hK=>?_);go_simp;refine hK _ _ kP (fun hHeld=>?_);clear hK;refine Xs 7 (fun K hK=>?_);refine Z7 rfl (.tmp 18) (.tmp 23) 22 rfl (w.heap.size+1) 5 i0 (.int .u8 0) 1 1 underlying22 ax az a0 a1 rfl vY N j (JS (a.take j)) (by simp[Act.eval]) (f.drew.own.alloc _) ⟨wr.heap.size,0,none⟩ 1 1 [.int .u8 (a[j].toNat:Int)] (by simp[Act.eval]) rfl (Yf _ _ _) (by intro u J;simp at J;subst J;rfl) (by unfold maxLen;omega) oM (by(try simp);omega) ?_;rintro v8 O H E - -;have T:=f.step aa (oX wr _) E H;obtain⟨I,F,D,a7,g8,c8,rfl⟩:=T;have U:=Xa I;have W:=af _ F;have a8:=D 0;clear H E I F D;refine hK _ _ kP (fun hHeld=>?_);clear hK;refine Xn 8 ?_;refine Xs 9 (fun K hK=>?_);go_simp;refine hK _ _ ((bH _ _ _ _ (kA ar)).trans W) (fun hHeld=>?_);clear hK;refine Yq ?_;go_wp2;exact⟨⟨j+1,oM,oM,gM,_,Xa U.out⟩,by simp[intOf];omega⟩
  ·have HE:Hid (a.take j=a.take 4000):=Xa (by
    have:=hx.out;by_cases h4:j=4000
    ·rw[h4]
    ·rw[aW oM,aW oM])
   obtain⟨av,cv,rfl,al⟩:=f.done HE;have v:=Xa al;have P:=Xa f.low;have Q:=Xa f.size;have HX:=Xa (show(((n:Int) % 1000)+29)=(((a.length % 1000:Nat):Int)+29) by have:=hx.out;omega);clear al HE f;have k:=v.c2;have e2:=v.c2;have R:=v.thaw 2;dsimp only at e2;by_cases ba:j<n
   ·have bc:¬j<4000:=fun h=>ab ⟨ba,h⟩
    go_wp2;clear e2 R k;generalize wr=r at *
    go_loopw [5] (fun u s=>∃i:Nat,i<=(a.take 4000).length/\u=.int .i64 i/\Hid (Below w.heap.size w s)/\Hid (s.heap.size=r.heap.size)/\Hid (Jg s w.heap.size (w.heap.size+1) r.heap.size ⟨a.take 4000,0,JV ((a.take 4000).take i) (((a.length % 1000:Nat):Int)+29),0⟩)) (fun u _=>(a.take 4000).length-(intOf u).toNat)
    case atStart=>exact⟨0,aN _,rfl,Xa (P.setCell (aA _) _),Xa (Xd _ _ _),Xa (by
     rw[lK,HX.out];exact(v.mix (((a.length % 1000:Nat):Int)+29)).undrew)⟩
    case round =>
     obtain⟨i,hi,rfl,l,g,d⟩:=hrel;obtain⟨aq,cq,k,q⟩:=d.c0;have e2:=d.c2;have e3:=d.c3;have R:=d.thaw 2;have z3:=d.thaw 3;dsimp only at k e2 e3 q;have bd:=WP ((a.take 4000).take i) (((a.length % 1000:Nat):Int)+29) oM (by have:=dS a.length (show 0<1000 by decide);omega);have o:Hid (∀h:i<(a.take 4000).length,JV ((a.take 4000).take (i+1)) (((a.length % 1000:Nat):Int)+29)=(JV ((a.take 4000).take i) (((a.length % 1000:Nat):Int)+29)*257+((a.take 4000)[i].toNat:Int)+1) % 1000003):=Xa (fun h=>oV _ _ i h);have m:Hid (i=(a.take 4000).length->JV ((a.take 4000).take i) (((a.length % 1000:Nat):Int)+29)=JV (a.take 4000) (((a.length % 1000:Nat):Int)+29)):=Xa (fun h=>by rw[h,gC]);have e:Hid (WB a=⟨a.take 4000,0,JV (a.take 4000) (((a.length % 1000:Nat):Int)+29),if 1+(((a.take 4000).length:Nat):Int) / 50 > 7 then 7 else 1+(((a.take 4000).length:Nat):Int) / 50⟩):=Xa rfl;have a9:(a.take 4000).length<=4000:=by rw[dH];omega
     generalize (((a.length % 1000:Nat):Int)+29)=L at *;generalize ac:JV ((a.take 4000).take i) L=M at *;generalize a.take 4000=c at *;have x:=Xa q;clear q ac;by_cases G:i<c.length
     ·obtain⟨bq,oq,rfl,ap,ec⟩:=x i G
      have S:=Xa (o.out G);have a6:c[i].toNat<256:=lQ _;generalize c[i]=V at *;generalize V.toNat=A at *;have bf:(M*257+(A:Int)+1).tmod 1000003=(M*257+(A:Int)+1) % 1000003:=eW oM;have bb:(i:Int)<(c.length:Int):=oM;clear o m e;generalize Y:c.length=B at *;go_wp2
      go_region
      go_wp2;exact⟨⟨i+1,oM,gM,Xa (l.setCell (aA _) _).drew,Xa ((Xd _ _ _).trans g),Xa (by rw[S.out];exact d.mix _)⟩,by simp[intOf];omega⟩
     ·have Z:i=c.length:=oM
      have y:Hid (Jg wr w.heap.size (w.heap.size+1) r.heap.size ⟨c,0,JV c L,0⟩):=Xa (by rw[<-m.out Z];exact d);have z:=e;clear m o d x e;have e:=z;clear z;generalize Y:c.length=B at *;have ay:=P.size;by_cases C:1+(B:Int) / 50 > 7
      ·have p:=Xa (e.trans (by rw[aU C]))
       go_wp2
       go_ret
       refine⟨rfl,(l.setCell (aA _) _).setCell (aA _) _,?_,?_⟩
       ·rw[Xd,Xd,g.out];exact Q
       ·rw[Xd,Xd,g.out,p.out]
        exact(y.siz _).siz _
      ·have p:=Xa (e.trans (by rw[aM C]))
       go_wp2
       go_ret
       refine⟨rfl,l.setCell (aA _) _,?_,?_⟩
       ·rw[Xd,g.out];exact Q
       ·rw[Xd,g.out,p.out]
        exact y.siz _
   ·skip
    go_wp2;clear e2 R k;generalize wr=r at *
    go_loopw [5] (fun u s=>∃i:Nat,i<=(a.take 4000).length/\u=.int .i64 i/\Hid (Below w.heap.size w s)/\Hid (s.heap.size=r.heap.size)/\Hid (Jg s w.heap.size (w.heap.size+1) r.heap.size ⟨a.take 4000,0,JV ((a.take 4000).take i) (((a.length % 1000:Nat):Int)+29),0⟩)) (fun u _=>(a.take 4000).length-(intOf u).toNat)
    case atStart=>exact⟨0,aN _,rfl,Xa (P.setCell (aA _) _),Xa (Xd _ _ _),Xa (by
     rw[lK,HX.out];exact(v.mix (((a.length % 1000:Nat):Int)+29)).undrew)⟩
    case round =>
     obtain⟨i,hi,rfl,l,g,d⟩:=hrel;obtain⟨aq,cq,k,q⟩:=d.c0;have e2:=d.c2;have e3:=d.c3;have R:=d.thaw 2;have z3:=d.thaw 3;dsimp only at k e2 e3 q;have bd:=WP ((a.take 4000).take i) (((a.length % 1000:Nat):Int)+29) oM (by have:=dS a.length (show 0<1000 by decide);omega);have o:Hid (∀h:i<(a.take 4000).length,JV ((a.take 4000).take (i+1)) (((a.length % 1000:Nat):Int)+29)=(JV ((a.take 4000).take i) (((a.length % 1000:Nat):Int)+29)*257+((a.take 4000)[i].toNat:Int)+1) % 1000003):=Xa (fun h=>oV _ _ i h);have m:Hid (i=(a.take 4000).length->JV ((a.take 4000).take i) (((a.length % 1000:Nat):Int)+29)=JV (a.take 4000) (((a.length % 1000:Nat):Int)+29)):=Xa (fun h=>by rw[h,gC]);have e:Hid (WB a=⟨a.take 4000,0,JV (a.take 4000) (((a.length % 1000:Nat):Int)+29),if 1+(((a.take 4000).length:Nat):Int) / 50 > 7 then 7 else 1+(((a.take 4000).length:Nat):Int) / 50⟩):=Xa rfl;have a9:(a.take 4000).length<=4000:=by rw[dH];omega
     generalize (((a.length % 1000:Nat):Int)+29)=L at *;generalize ac:JV ((a.take 4000).take i) L=M at *;generalize a.take 4000=c at *;have x:=Xa q;clear q ac;by_cases G:i<c.length
     ·obtain⟨bq,oq,rfl,ap,ec⟩:=x i G
      have S:=Xa (o.out G);have a6:c[i].toNat<256:=lQ _;generalize c[i]=V at *;generalize V.toNat=A at *;have bf:(M*257+(A:Int)+1).tmod 1000003=(M*257+(A:Int)+1) % 1000003:=eW oM;have bb:(i:Int)<(c.length:Int):=oM;clear o m e;generalize Y:c.length=B at *;go_wp2
      go_region
      go_wp2;exact⟨⟨i+1,oM,gM,Xa (l.setCell (aA _) _).drew,Xa ((Xd _ _ _).trans g),Xa (by rw[S.out];exact d.mix _)⟩,by simp[intOf];omega⟩
     ·have Z:i=c.length:=oM
      have y:Hid (Jg wr w.heap.size (w.heap.size+1) r.heap.size ⟨c,0,JV c L,0⟩):=Xa (by rw[<-m.out Z];exact d);have z:=e;clear m o d x e;have e:=z;clear z;generalize Y:c.length=B at *;have ay:=P.size;by_cases C:1+(B:Int) / 50 > 7
      ·have p:=Xa (e.trans (by rw[aU C]))
       go_wp2
       go_ret
       refine⟨rfl,(l.setCell (aA _) _).setCell (aA _) _,?_,?_⟩
       ·rw[Xd,Xd,g.out];exact Q
       ·rw[Xd,Xd,g.out,p.out]
        exact(y.siz _).siz _
      ·have p:=Xa (e.trans (by rw[aM C]))
       go_wp2
       go_ret
       refine⟨rfl,l.setCell (aA _) _,?_,?_⟩
       ·rw[Xd,g.out];exact Q
       ·rw[Xd,g.out,p.out]
        exact y.siz _
def dB(a:Int):Bool:=decide (1<=a/\a<=8)||decide (a=11)||decide (a=13)
def aB(a:Int):Bool:=decide (3<=a/\a<=12)
def bB(a:Int):Bool:=decide (3<=a/\a<=7)||decide (a=9)
def Tp(u:Bool)(x b a:Int):Bool:=if u then decide (b<=x)&&decide (x<a)else x==0
def Wu(x:Yg):Bool:=if x.op==1 then decide (-1000000000<=x.imm)&&decide (x.imm<=1000000000)else if x.op==2 then decide (0<=x.imm)&&decide (x.imm<8)else x.imm==0
def Yw(n a:Int)(x:Yg):Bool :=
 decide (1<=x.op)&&decide (x.op<=a)&&Tp (dB x.op) x.dst 0 n&&Tp (aB x.op) x.a 0 n&&Tp (bB x.op) x.b 0 n&&Wu x
def Zu(n low a:Int)(t:Yj):Bool :=
 decide (1<=t.kind)&&decide (t.kind<=3)&&Tp (t.kind != 1) t.a 0 n&&Tp (t.kind != 3) t.to low a&&Tp (t.kind==2) t.els low a
def Jf(n a:Int)(t:Yj):Bool:=Zu n 1 a t && !(t.kind==2&&t.to==t.els)
def Yj.tg(t:Yj):List Int:=if t.kind=1 then [t.to]else if t.kind=2 then [t.to,t.els]else []
def XZ(a:List Ph):Nat:=(a.map fun p=>1+p.args.length).sum
def Ul(x:Xe):Nat:=1+x.is.length+XZ x.ps
def Xo(a:List Xe):Nat:=(a.map Ul).sum
def predsFrom:List Xe->Nat->Int->List Int
 | [],_,_=>[]
 | x::xs,i,b=>(if x.te.tg.contains b then [(i:Int)]else [])++predsFrom xs (i+1) b
def Fn.preds(F:Fn)(b:Int):List Int:=predsFrom F.blocks 0 b
def XG(a:List Ph):List Int:=a.map (·.dst)
def XI(a:List Yg):List Int:=(a.filter fun x=>dB x.op).map (·.dst)
def Z6(x:Xe):List Int:=XG x.ps++XI x.is
def blksDefs(a:List Xe):List Int:=a.flatMap Z6
def Y6(F:Fn):Bool:=decide (0<=F.values)&&decide (F.values<=2000)&&decide (1<=F.blocks.length)&&decide (F.blocks.length<=1000)&&decide (Xo F.blocks<=4000)
def J2(F:Fn):Bool:=F.blocks.all fun x=>Jf F.values F.blocks.length x.te
def Z0(F:Fn):Bool:=F.blocks.all fun x=>x.is.all (Yw F.values 10)
def Jt(n:Int)(k:Nat)(p:Ph):Bool:=decide (1<=p.args.length)&&decide (p.args.length=k)&&p.args.all (fun a=>decide (0<=a)&&decide (a<n))
def ZX(n:Int)(k:Nat)(p:Ph):Bool:=Tp true p.dst 0 n&&Jt n k p
def Zi(b:Int->Nat->Ph->Bool)(F:Fn)(a:List Xe)(i:Nat):Bool :=
 match a with
 | []=>true
 | x::a=>x.ps.all (b F.values (F.preds i).length)&&Zi b F a (i+1)
def Ug(F:Fn):Bool:=Zi Jt F F.blocks 0
def KL(F:Fn):Bool:=Zi ZX F F.blocks 0
def countEq(a:List Int)(v:Int):Nat:=(a.filter fun x=>x==v).length
def JM(F:Fn):Bool:=(List.range F.values.toNat).all fun v=>countEq (blksDefs F.blocks) v==1
def Ui(F:Fn):Bool:=decide (((blksDefs F.blocks).length:Int)=F.values)&&(List.range F.values.toNat).all fun v=>(blksDefs F.blocks).contains (v:Int)
def XJ(F:Fn):Bool:=Y6 F&&J2 F&&Z0 F&&KL F&&JM F
def dy(F:Fn):Bool:=Y6 F&&(Z0 F&&J2 F)&&Ug F&&Ui F
def JG(a:List Ph):Nat:=(a.map fun p=>p.args.length).sum
def ZZ(x:Xe):Nat:=x.ps.length+JG x.ps+x.is.length
def Xx(a:List Xe):Nat:=(a.map ZZ).sum
theorem Vm(a:List Xe)(p:Xe):Xx (a++[p])=Xx a+ZZ p:=by simp[Xx]
theorem Tw{b:Type}(f:b->Nat)(a:List b)(k:Nat):((a.take k).map f).sum<=(a.map f).sum:=by
 induction a generalizing k with
 | nil=>simp
 | cons x a c=>cases k with
  | zero=>simp
  | succ k=>simp only[List.take_succ_cons,eH,kX];have:=c k;omega
theorem UX(a:List Xe)(k:Nat):Xx (a.take k)<=Xx a:=Tw _ _ _
theorem yU{k:IntKind}{b:Int}(h:t=b):Ending.returned (.int k t)=.returned (.int k b):=by rw[h]
theorem Xl{b:Bool}(h:r=b):Ending.returned (.bool r)=.returned (.bool b):=by rw[h]
theorem Yp(u:Bool)(x b a:Int)(w:World) :
 Calls prog 100 #[.bool u,.int .i64 x,.int .i64 b,.int .i64 a] w fun e f=>e=.returned (.bool (Tp u x b a))/\f=w:=by
 cases u
 ·go_in
  go_wp2
  go_ret
  exact⟨rfl,rfl⟩
 ·by_cases c:b<=x<;>by_cases d:x<a
  all_goals
   go_in
   go_wp2
   go_ret
   exact⟨by simp[Tp,c,d],rfl⟩
theorem X7{b:Type}(a:List b)(k:Nat)(h:k<a.length):a.take (k+1)=a.take k++[a[k]]:=bN h
theorem rR(l:List Int)(v:Int):countEq l v=l.count v:=by
 unfold countEq;rw[List.count,gK]
theorem yM(n:Nat):∀l:List Int,l.length=n->(∀v:Nat,v<n->(v:Int)∈l)->(∀d∈l,0<=d/\d<n)/\∀v:Nat,v<n->l.count (v:Int)=1:=by
 induction n with
 | zero =>
  intro l e _;have:l=[]:=iE e;subst this;exact⟨fun d a=>(eA a).elim,fun v b=>absurd b oM⟩
 | succ n p =>
  intro l e b;have f:=b n oM;have m:(l.erase (n:Int)).length=n:=by rw[fP f];omega
  have o:∀v:Nat,v<n->(v:Int)∈l.erase (n:Int):=fun v i=>(iF oM).2 (b v oM)
  obtain⟨c,j⟩:=p _ m o;have g:=mZ f;refine⟨fun d a=>?_,fun v i=>?_⟩
  ·rcases cH.1 (g.mem_iff.1 a)with rfl | a
   ·omega
   ·have:=c d a;omega
  ·rw[g.count_eq,List.count_cons]
   by_cases h:v=n
   ·subst h
    have:(l.erase (v:Int)).count (v:Int)=0:=List.count_eq_zero.2 (fun k=>by have:=c _ k;omega);simp[this]
   ·rw[j v oM]
    have:((n:Int)==(v:Int))=false:=by simp;omega
    simp[this]
theorem tC(n:Nat):∀l:List Int,(∀d∈l,0<=d/\d<n)->(∀v:Nat,v<n->l.count (v:Int)=1)->l.length=n/\∀v:Nat,v<n->(v:Int)∈l:=by
 induction n with
 | zero =>
  intro l c _;have:l=[]:=List.eq_nil_iff_forall_not_mem.2 (fun d b=>by have:=c d b;omega);subst this;exact⟨rfl,fun v k=>absurd k oM⟩
 | succ n m =>
  intro l c a;have e:=kE.1 (by rw[a n oM];omega);have p:=mZ e;have j:(l.erase (n:Int)).count (n:Int)=0:=by rw[List.count_erase_self,a n oM]
  have g:∀d∈l.erase (n:Int),0<=d/\d<n:=fun d b=>by
   have h:=c d (List.mem_of_mem_erase b);have o:d≠n:=fun f=>by subst f;exact absurd b (List.count_eq_zero.1 j)
   omega
  have i:∀v:Nat,v<n->(l.erase (n:Int)).count (v:Int)=1:=fun v h=>by
   rw[List.count_erase_of_ne oM];exact a v oM
  obtain⟨q,r⟩:=m _ g i;refine⟨by have:=fP e;have:0<l.length:=eJ e;omega,fun v h=>?_⟩;exact kE.1 (by rw[a v h];omega)
def VF(n:Int)(a:List Xe):Bool:=a.all fun x=>x.ps.all fun p=>Tp true p.dst 0 n
theorem qb{a:Type}(p q:a->Bool)(l:List a):l.all (fun x=>p x&&q x)=(l.all p&&l.all q):=by
 induction l with
 | nil=>rfl
 | cons x l b=>simp only[List.all_cons,b];cases p x<;>cases q x<;>cases l.all p<;>simp
theorem rJ(F:Fn):∀(a:List Xe)(i:Nat),Zi ZX F a i=(VF F.values a&&Zi Jt F a i):=by
 intro a
 induction a with
 | nil=>intro i;rfl
 | cons x a b =>
  intro i;simp only[Zi,VF,List.all_cons,b];have:x.ps.all (ZX F.values (F.preds ↑i).length)=(x.ps.all (fun p=>Tp true p.dst 0 F.values)&&x.ps.all (Jt F.values (F.preds ↑i).length)):=qb _ _ _;rw[this];cases x.ps.all (fun p=>Tp true p.dst 0 F.values)<;>cases x.ps.all (Jt F.values (F.preds ↑i).length)<;>simp
theorem tM(F:Fn)(e:Z0 F=true):(VF F.values F.blocks=true↔∀d∈blksDefs F.blocks,0<=d/\d<F.values):=by
 unfold VF blksDefs;simp only[dV,bV,Z6,XG,XI,bU,aY,fG,Tp,gG,bY,bD];constructor
 ·rintro h d ⟨x,a,⟨p,b,rfl⟩ | ⟨y,⟨f,c⟩,rfl⟩⟩
  ·exact h x a p b
  ·have:=dV.1 (dV.1 e x a) y f
   simp only[Yw,c,Tp,gG,bY,bD]at this;omega
 ·intro h x a p b
  exact h _ ⟨x,a,bC ⟨p,b,rfl⟩⟩
theorem ti(F:Fn)(c:0<=F.values)(d:Z0 F=true):(VF F.values F.blocks&&JM F)=Ui F:=by
 rw[eQ];obtain⟨n,e⟩:=bX c;rw[bY,tM F d];unfold JM Ui;rw[e];simp only[dV,bE,dM,iA,bY,bD,eY,rR];constructor
 ·rintro⟨b,a⟩
  obtain⟨g,f⟩:=tC n _ b a;exact⟨oM,f⟩
 ·rintro⟨b,a⟩
  exact yM n _ oM a
theorem WY(F:Fn):XJ F=dy F:=by
 unfold XJ dy KL Ug;rw[rJ];cases hs:Y6 F
 ·simp
 cases hi:Z0 F
 ·simp
 cases ht:J2 F
 ·simp
 have a:0<=F.values:=by
  simp only[Y6,bY,bD]at hs;omega
 have:=ti F a hi;rw[<-this];cases VF F.values F.blocks<;>cases Zi Jt F F.blocks 0<;>simp
def Kz(a:Int):ByteArray :=
 if a=1 then ⟨#[100,105]⟩else if a=2 then ⟨#[100,105]⟩else if 3<=a/\a<=7 then ⟨#[100,97,98]⟩else if a=8 then ⟨#[100,97]⟩else if a=11 then ⟨#[100,97]⟩
 else if a=9 then ⟨#[97,98]⟩else if a=10 then ⟨#[97]⟩else if a=12 then ⟨#[97]⟩else if a=13 then ⟨#[100]⟩else ⟨#[]⟩
theorem tj{a b:ByteArray}(h:a=b):Ending.returned (.string a)=.returned (.string b):=by rw[h]
theorem tH(a:Int)(w:World) :
 Calls prog 103 #[.int .i64 a] w fun e d=>e=.returned (.string (Kz a))/\d=w:=by
 by_cases h:1<=a/\a<=13
 ·have b:a=1\/a=2\/a=3\/a=4\/a=5\/a=6\/a=7\/a=8\/a=9\/a=10\/a=11\/a=12\/a=13:=oM
  rcases b with rfl | rfl | rfl | rfl | rfl | rfl | rfl | rfl | rfl | rfl | rfl | rfl | rfl
  all_goals
   clear h
   go_in
   go_wp2
   go_ret
   exact⟨rfl,rfl⟩
 ·have f:(a==1)=false:=by simp;omega
  have l:(a==2)=false:=by simp;omega
  have m:(a==3)=false:=by simp;omega
  have n:(a==4)=false:=by simp;omega
  have o:(a==5)=false:=by simp;omega
  have p:(a==6)=false:=by simp;omega
  have q:(a==7)=false:=by simp;omega
  have r:(a==8)=false:=by simp;omega
  have s:(a==9)=false:=by simp;omega
  have g:(a==10)=false:=by simp;omega
  have i:(a==11)=false:=by simp;omega
  have j:(a==12)=false:=by simp;omega
  have k:(a==13)=false:=by simp;omega
  have c:Hid (Kz a=⟨#[]⟩):=by
   show _=_;unfold Kz;rw[aM oM,aM oM,aM oM,aM oM,aM oM,aM oM,aM oM,aM oM,aM oM]
  clear h
  go_in
  go_wp2
  go_ret
  exact⟨tj c.symm,rfl⟩
def ae(s:ByteArray)(f:Int):Bool:=s.data.toList.any fun c=>(c.toNat:Int)==f
theorem xN{s:ByteArray}(a:n<s.size)(h:(s[n].toNat:Int)=t):ae s t=true:=by
 unfold ae;rw[List.any_eq_true];exact⟨s[n],by rw[nB];exact Array.getElem_mem a,by simp[h]⟩
theorem zN{s:ByteArray}(h:∀j (a:j<s.size),(s[j].toNat:Int)≠t):ae s t=false:=by
 unfold ae;rw[List.any_eq_false];intro c b;obtain⟨j,a,rfl⟩:=Array.mem_iff_getElem.1 (nB.1 b);have:=h j a;rw[iA];exact this
theorem tS(a:Int):(Kz a).size<=3:=by
 unfold Kz
 repeat (split<;>try decide)
theorem U9(c f:Int)(w:World) :
 Calls prog 64 #[.int .i64 c,.int .u8 f] w fun e p=>e=.returned (.bool (ae (Kz c) f))/\p=w:=by
 go_in
 go_wp2_with fail
 refine(tH _ _).mono ?_;rintro e t ⟨rfl,rfl⟩;have r:=tS c;generalize l:Kz c=s at *;have g:=Xa l;clear l;go_wp2
 go_loop [6] (fun i=>∃k:Nat,k<=s.size/\i=.int .i64 k/\Hid (∀j (b:j<s.size),j<k->(s[j].toNat:Int)≠f)) (fun i=>s.size-(intOf i).toNat)
 case atStart=>exact⟨0,aN _,rfl,fun j b h=>absurd h oM⟩
 case round =>
  obtain⟨k,q,rfl,m⟩:=hrel;by_cases o:k<s.size
  ·by_cases a:(s[k].toNat:Int)=f
   ·have n:((s[k].toNat:Int)==f)=true:=by simp[a]
    have d:=Xa a;clear a;go_wp2
    go_ret
    exact⟨Xl (by rw[Xw g];exact(xN o d).symm),rfl⟩
   ·have n:((s[k].toNat:Int)==f)=false:=by simp[a]
    have d:=Xa a;clear a;go_wp2
    go_round
    case rel=>exact⟨k+1,oM,gM,fun j b h=>if e:j=k then by subst e;exact d else m j b oM⟩
    case measure=>simp[intOf];omega
  ·go_wp2
   go_ret
   exact⟨Xl (by rw[Xw g];exact(zN fun j b=>m j b oM).symm),rfl⟩
theorem By(a:Int):ae (Kz a) 100=dB a:=by
 by_cases h:1<=a/\a<=13
 ·have b:a=1\/a=2\/a=3\/a=4\/a=5\/a=6\/a=7\/a=8\/a=9\/a=10\/a=11\/a=12\/a=13:=oM
  rcases b with rfl | rfl | rfl | rfl | rfl | rfl | rfl | rfl | rfl | rfl | rfl | rfl | rfl<;>rfl
 ·unfold Kz
  rw[aM oM,aM oM,aM oM,aM oM,aM oM,aM oM,aM oM,aM oM,aM oM];simp only[ae,dB];rw[dJ oM,dJ oM,dJ oM];rfl
theorem AV(a:Int):ae (Kz a) 97=aB a:=by
 by_cases h:1<=a/\a<=13
 ·have b:a=1\/a=2\/a=3\/a=4\/a=5\/a=6\/a=7\/a=8\/a=9\/a=10\/a=11\/a=12\/a=13:=oM
  rcases b with rfl | rfl | rfl | rfl | rfl | rfl | rfl | rfl | rfl | rfl | rfl | rfl | rfl<;>rfl
 ·unfold Kz
  rw[aM oM,aM oM,aM oM,aM oM,aM oM,aM oM,aM oM,aM oM,aM oM];simp only[ae,aB];rw[dJ oM];rfl
theorem AN(a:Int):ae (Kz a) 98=bB a:=by
 by_cases h:1<=a/\a<=13
 ·have b:a=1\/a=2\/a=3\/a=4\/a=5\/a=6\/a=7\/a=8\/a=9\/a=10\/a=11\/a=12\/a=13:=oM
  rcases b with rfl | rfl | rfl | rfl | rfl | rfl | rfl | rfl | rfl | rfl | rfl | rfl | rfl<;>rfl
 ·unfold Kz
  rw[aM oM,aM oM,aM oM,aM oM,aM oM,aM oM,aM oM,aM oM,aM oM];simp only[ae,bB];rw[dJ oM,dJ oM];rfl
theorem dg(a:Int)(w:World):Calls prog 64 #[.int .i64 a,.int .u8 100] w fun e b=>e=.returned (.bool (dB a))/\b=w:=by rw[<-By];exact U9 a 100 w
theorem fy(a:Int)(w:World):Calls prog 64 #[.int .i64 a,.int .u8 97] w fun e b=>e=.returned (.bool (aB a))/\b=w:=by rw[<-AV];exact U9 a 97 w
theorem j5(a:Int)(w:World):Calls prog 64 #[.int .i64 a,.int .u8 98] w fun e b=>e=.returned (.bool (bB a))/\b=w:=by rw[<-AN];exact U9 a 98 w
theorem ZO(t:Yj)(w:World) :
 Calls prog 49 #[.agg #[.int .i64 t.kind,.int .i64 t.a,.int .i64 t.to,.int .i64 t.els]] w fun j e=>∃f h,j=.returned (.slice f t.tg.length h)/\Below w.heap.size w e/\Xf e w.heap.size e.heap.size f t.tg:=by
 obtain⟨b,l,tg,k⟩:=t;by_cases c:b=1
 ·subst c
  go_in
  go_wp2
  go_ret
  refine⟨_,_,rfl,Xb (Xb (Below.refl _ _) _) _,fun i a=>?_⟩;simp[Yj.tg]at a;subst a;exact⟨_,_,rfl,⟨sP,sP⟩,by simp[Yj.tg]⟩
 ·by_cases d:b=2
  ·subst d
   go_in
   go_wp2
   go_ret
   refine⟨_,_,rfl,Xb (Xb (Below.refl _ _) _) _,fun i a=>?_⟩;simp[Yj.tg]at a
   match i,a with
   | 0,_=>exact⟨_,_,rfl,⟨sP,sP⟩,by simp[Yj.tg]⟩
   | 1,_=>exact⟨_,_,rfl,⟨sP,sP⟩,by simp[Yj.tg]⟩
  ·have e1:(b==1)=false:=by simp[c]
   have e2:(b==2)=false:=by simp[d]
   have g:(Yj.tg ⟨b,l,tg,k⟩)=[]:=by simp[Yj.tg,c,d]
   rw[g];clear c d g
   go_in
   go_wp2
   go_ret
   exact⟨_,_,rfl,Xb (Xb (Below.refl _ _) _) _,fun i a=>absurd a sP⟩
def To(b a x:Int):Bool:=decide (b<=x)&&decide (x<a)
theorem zm(n d b a tg c:Int):Zu n d b ⟨1,a,tg,c⟩=(a==0&&To d b tg&&c==0):=by simp[Zu,Tp,To]
theorem Al(n b a c tg d:Int):Zu n b a ⟨2,c,tg,d⟩=(To 0 n c&&To b a tg&&To b a d):=by simp[Zu,Tp,To]
theorem Ae(n d c a tg b:Int):Zu n d c ⟨3,a,tg,b⟩=(To 0 n a&&tg==0&&b==0):=by simp[Zu,Tp,To]
theorem oh{k a tg b:Int}(h:¬(1<=k/\k<=3)):Zu t T z ⟨k,a,tg,b⟩=false:=by
 unfold Zu;by_cases c:1<=k
 ·rw[dJ (p:=k<=3) oM];simp
 ·rw[dJ (p:=1<=k) c];simp
theorem XY{b:Type}{p:b->Bool}{a:List b}(c:n<a.length)(h:(a.take n).all p=true)(d:p a[n]=true):(a.take (n+1)).all p=true:=by
 rw[X7 a n c,List.all_append,h];simp[d]
theorem JN{a:Type}{p:a->Bool}{xs:List a}(b:k<xs.length)(c:p xs[k]=false):xs.all p=false:=by
 rw[lZ];exact⟨_,aH b,by simp[c]⟩
theorem YE{a:Type}{p:a->Bool}{xs:List a}(b:xs.length<=k)(h:(xs.take k).all p=true):xs.all p=true:=by
 rwa[aW b]at h
theorem Kj(d l tg o y low f:Int)(w:World)(a:List Int)(R:Bool)(p:Hid ((Yj.mk d l tg o).tg=a))(C:a.length<=2)(G:1<=d)(H:d<=3)
 (c1:Hid (d=1->l=0/\o=0)) (c3:Hid (d=3->tg=0/\o=0)) (c2:Hid (d≠1->0<=l/\l<y)) (j:Hid (a.all (To low f)=R)) :
 Calls prog 45 #[.agg #[.int .i64 d,.int .i64 l,.int .i64 tg,.int .i64 o],.int .i64 y,.int .i64 low,.int .i64 f] w fun n E=>n=.returned (.bool R)/\Below w.heap.size w E:=by
 have q:d=1\/d=2\/d=3:=oM;have F:=Xa C;rcases q with rfl | rfl | rfl
 ·obtain⟨rfl,rfl⟩:=c1 rfl
  clear c1 c2 c3
  go_in
  go_wp2_with (go_at_call 49;refine(ZO ⟨_,_,_,_⟩ _).mono ?_;rintro n z ⟨u,v,rfl,h,c⟩;rw[Xw p]at c |-;have m:=Xa c;clear c)
  go_loop [10] (fun i=>∃k:Nat,k<=a.length/\i=.int .i64 k/\Hid ((a.take k).all (To low f)=true)) (fun i=>a.length-(intOf i).toNat)
  case atStart=>exact⟨0,aN _,rfl,rfl⟩
  case round =>
   obtain⟨k,x,rfl,g⟩:=hrel;by_cases e:k<a.length
   ·obtain⟨b,D,rfl,_,q⟩:=m k e
    by_cases r:low<=a[k]/\a[k]<f
    ·obtain⟨s,t⟩:=r
     go_wp2
     go_round
     case rel=>exact⟨k+1,oM,gM,XY e g (by simp[To,s,t])⟩
     case measure=>simp[intOf];omega
    ·go_wp2
     all_goals
      go_ret
      exact⟨Xl (by rw[<-j.out];exact(JN e (by unfold To;rw[jD,fC,fC];omega)).symm),Xg (Xb (Below.refl _ _) _) h⟩
   ·go_wp2
    go_ret
    exact⟨Xl (by rw[<-j.out];exact(YE oM g).symm),Xg (Xb (Below.refl _ _) _) h⟩
 ·obtain⟨A,B⟩:=c2 vY
  clear c1 c2 c3
  go_in
  go_wp2_with (go_at_call 49;refine(ZO ⟨_,_,_,_⟩ _).mono ?_;rintro n z ⟨u,v,rfl,h,c⟩;rw[Xw p]at c |-;have m:=Xa c;clear c)
  go_loop [10] (fun i=>∃k:Nat,k<=a.length/\i=.int .i64 k/\Hid ((a.take k).all (To low f)=true)) (fun i=>a.length-(intOf i).toNat)
  case atStart=>exact⟨0,aN _,rfl,rfl⟩
  case round =>
   obtain⟨k,x,rfl,g⟩:=hrel;by_cases e:k<a.length
   ·obtain⟨b,D,rfl,_,q⟩:=m k e
    by_cases r:low<=a[k]/\a[k]<f
    ·obtain⟨s,t⟩:=r
     go_wp2
     go_round
     case rel=>exact⟨k+1,oM,gM,XY e g (by simp[To,s,t])⟩
     case measure=>simp[intOf];omega
    ·go_wp2
     all_goals
      go_ret
      exact⟨Xl (by rw[<-j.out];exact(JN e (by unfold To;rw[jD,fC,fC];omega)).symm),Xg (Xb (Below.refl _ _) _) h⟩
   ·go_wp2
    go_ret
    exact⟨Xl (by rw[<-j.out];exact(YE oM g).symm),Xg (Xb (Below.refl _ _) _) h⟩
 ·obtain⟨A,B⟩:=c2 vY
  obtain⟨rfl,rfl⟩:=c3 rfl;clear c1 c2 c3
  go_in
  go_wp2_with (go_at_call 49;refine(ZO ⟨_,_,_,_⟩ _).mono ?_;rintro n z ⟨u,v,rfl,h,c⟩;rw[Xw p]at c |-;have m:=Xa c;clear c)
  go_loop [10] (fun i=>∃k:Nat,k<=a.length/\i=.int .i64 k/\Hid ((a.take k).all (To low f)=true)) (fun i=>a.length-(intOf i).toNat)
  case atStart=>exact⟨0,aN _,rfl,rfl⟩
  case round =>
   obtain⟨k,x,rfl,g⟩:=hrel;by_cases e:k<a.length
   ·have:=p.out
    simp[Yj.tg]at this;subst this;simp at e
   ·go_wp2
    go_ret
    exact⟨Xl (by rw[<-j.out];exact(YE oM g).symm),Xg (Xb (Below.refl _ _) _) h⟩
theorem Ju(a c tg d n low i:Int)(w:World)(h:¬(1<=a/\a<=3)\/(a=1/\¬(c=0/\d=0))\/(a=3/\¬(tg=0/\d=0))\/(1<=a/\a<=3/\a≠1/\¬(0<=c/\c<n))) :
 Calls prog 45 #[.agg #[.int .i64 a,.int .i64 c,.int .i64 tg,.int .i64 d],.int .i64 n,.int .i64 low,.int .i64 i] w fun j l=>j=.returned (.bool false)/\Below w.heap.size w l:=by
 by_cases f:1<=a/\a<=3
 ·have k:a=1\/a=2\/a=3:=oM
  rcases k with rfl | rfl | rfl
  ·have b:¬(c=0/\d=0):=oM
   clear h f;by_cases e:c=0
   ·subst e
    have g:(d != 0)=true:=by simp at b;simp[b]
    clear b
    go_in
    go_wp2
    go_ret
    exact⟨rfl,Xb (Below.refl _ _) _⟩
   ·have g:(c != 0)=true:=by simp[e]
    clear b e
    go_in
    go_wp2
    go_ret
    exact⟨rfl,Xb (Below.refl _ _) _⟩
  ·have b:c<0\/n<=c:=oM
   clear h f
   go_in
   go_wp2
   all_goals
    go_ret
    exact⟨rfl,Xb (Below.refl _ _) _⟩
  ·by_cases b:tg=0/\d=0
   ·obtain⟨rfl,rfl⟩:=b
    have b:c<0\/n<=c:=oM;clear h f
    go_in
    go_wp2
    all_goals
     go_ret
     exact⟨rfl,Xb (Below.refl _ _) _⟩
   ·clear h f
    by_cases e:tg=0
    ·subst e
     have g:(d != 0)=true:=by simp at b;simp[b]
     clear b
     go_in
     go_wp2
     go_ret
     exact⟨rfl,Xb (Below.refl _ _) _⟩
    ·have g:(tg != 0)=true:=by simp[e]
     clear b e
     go_in
     go_wp2
     go_ret
     exact⟨rfl,Xb (Below.refl _ _) _⟩
 ·have b:a<1\/3<a:=oM
  clear h f
  go_in
  go_wp2
  all_goals
   go_ret
   exact⟨rfl,Xb (Below.refl _ _) _⟩
theorem KS(d a tg b n low c:Int)(w:World) :
 Calls prog 45 #[.agg #[.int .i64 d,.int .i64 a,.int .i64 tg,.int .i64 b],.int .i64 n,.int .i64 low,.int .i64 c] w fun e k=>e=.returned (.bool (Zu n low c ⟨d,a,tg,b⟩))/\Below w.heap.size w k:=by
 by_cases i:1<=d/\d<=3
 ·have j:d=1\/d=2\/d=3:=oM
  rcases j with rfl | rfl | rfl
  ·rw[zm]
   by_cases h:a=0/\b=0
   ·exact Kj 1 a tg b n low c w [tg] _ rfl sP vY vY (fun _=>h) (fun e=>oM) (fun e=>absurd rfl e) (by obtain⟨rfl,rfl⟩:=h;show _=_;simp)
   ·have e:(a==0&&To low c tg&&b==0)=false:=by
     by_cases f:a=0
     ·have:b≠0:=fun e=>h ⟨f,e⟩
      simp[this]
     ·simp[f]
    rw[e];exact Ju 1 a tg b n low c w (aZ (bC ⟨rfl,h⟩))
  ·rw[Al]
   by_cases h:0<=a/\a<n
   ·exact Kj 2 a tg b n low c w [tg,b] _ rfl sP vY vY (fun e=>oM) (fun e=>oM) (fun _=>h) (by show _=_;simp[To,h.1,h.2])
   ·have e:To 0 n a=false:=by unfold To;rw[jD,fC,fC];omega
    rw[e];exact Ju 2 a tg b n low c w oM
  ·rw[Ae]
   by_cases h:0<=a/\a<n
   ·by_cases g:tg=0/\b=0
    ·exact Kj 3 a tg b n low c w [] _ rfl sP vY vY (fun e=>oM) (fun _=>g) (fun _=>h) (by obtain⟨rfl,rfl⟩:=g;show _=_;simp[To,h.1,h.2])
    ·have e:(To 0 n a&&tg==0&&b==0)=false:=by
      by_cases f:tg=0
      ·have:b≠0:=fun e=>g ⟨f,e⟩
       simp[this]
      ·simp[f]
     rw[e];exact Ju 3 a tg b n low c w oM
   ·have e:To 0 n a=false:=by unfold To;rw[jD,fC,fC];omega
    rw[e];exact Ju 3 a tg b n low c w oM
 ·rw[oh i]
  exact Ju d a tg b n low c w (bC i)
end Go.Proofs.YtghnlncgiihhgaaGreatDoor
