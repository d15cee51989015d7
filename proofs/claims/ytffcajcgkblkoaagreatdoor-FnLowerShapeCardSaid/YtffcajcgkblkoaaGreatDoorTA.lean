import Derived.WalkKit
import Derived.Below
import Derived.Deep.OwnRows
import Derived.Maps.AppendAt
import Derived.OpenShut
import Derived.Deep.RegionHeld
import Derived.WalkSmall
import Derived.Laws.BitsAllLaws
import Derived.Test.YtffcajcgkblkoaaGreatDoorProg
import Derived.WalkSpells
import Derived.WalkLawsBesides
import Derived.Deep.RegionWith
import Derived.Deep.DrawnRows
import Derived.Deep.MidRow
import Derived.BigQuiet
import Derived.Deep.RegionHeld3
namespace Go.Proofs.YtffcajcgkblkoaaGreatDoor
set_option maxHeartbeats 2000000
set_option maxRecDepth 100000
open Go.RowKit Go.Proofs.Tryz
variable{r:Bool}{t T z:Int}{s:List Nat}{y:List Value}{n m k B g:Nat}{f F:Nat->Nat}{a:Value}{w v u:World}
abbrev aA:=@Nat.le_refl
abbrev aC:=@List.getElem?_eq_getElem
abbrev aH:=@List.getElem_mem
abbrev aI:=@World.block_lt_of_cell?
abbrev aJ:=@Nat.le_trans
abbrev aM:=@if_neg
abbrev aN:=@Nat.zero_le
abbrev aO:=@World.size_alloc
abbrev aQ:=@List.length_append
abbrev aS:=@Array.getElem?_eq_some_iff
abbrev aU:=@if_pos
abbrev aV:=@Nat.zero_add
abbrev aW:=@List.take_of_length_le
abbrev aX:=@Nat.lt_of_lt_of_le
abbrev aY:=@List.mem_map
abbrev aZ:=@Or.inr
abbrev bA:=@List.length_cons
abbrev bC:=@Or.inl
abbrev bD:=@decide_eq_true_eq
abbrev bE:=@List.mem_range
abbrev bF:=@List.getD_eq_getElem?_getD
abbrev bG:=@List.map_append
abbrev bH:=@World.cell?_setCell_far
abbrev bI:=@List.getElem_set_ne
abbrev bJ:=@World.frozen?_of_block
abbrev bK:=@List.length_map
abbrev bL:=@List.length_set
abbrev bM:=@callsIn_wide
abbrev bN:=@List.take_succ_eq_append_getElem
abbrev bO:=@List.length_nil
abbrev bP:=@World.cell?_alloc_lt
abbrev bQ:=@AllReadyH.cons
abbrev bR:=@List.getElem_of_mem
abbrev bT:=@wpList_append_own_at
abbrev bU:=@List.mem_append
abbrev bV:=@List.mem_flatMap
abbrev bW:=@World.grownBy_alloc
abbrev bX:=@Int.eq_ofNat_of_zero_le
abbrev bY:=@Bool.and_eq_true
abbrev bZ:=@World.cell?_of_block
abbrev cC:=@bodyPost_ret
abbrev cH:=@List.mem_cons
abbrev cI:=@List.mem_cons_self
abbrev cJ:=@World.cell?_setCell_other
abbrev cK:=@List.append_assoc
abbrev cM:=@List.getElem_map
abbrev cN:=@List.mem_cons_of_mem
abbrev cQ:=@List.getElem_set_self
abbrev cS:=@List.mem_singleton
abbrev cV:=@List.getElem?_eq_some_iff
abbrev cW:=@List.cons_append
abbrev cX:=@Array.replicate_succ
abbrev cZ:=@Array.replicate_zero
abbrev dA:=@World.ownsRow_nil
abbrev dD:=@List.mem_append_left
abbrev dE:=@List.append_toArray
abbrev dF:=@IntKind.wrap_i64
abbrev dG:=@World.rowIs_made
abbrev dH:=@List.length_take
abbrev dI:=@Bool.or_eq_true
abbrev dJ:=@decide_eq_false
abbrev dK:=@List.getElem?_eq_none
abbrev dL:=@List.getElem?_append_left
abbrev dM:=@Int.toNat_natCast
abbrev dN:=@List.range_succ
abbrev dO:=@List.size_toArray
abbrev dP:=@List.push_toArray
abbrev dQ:=@Classical.byContradiction
abbrev dR:=@List.nil_append
abbrev dS:=@Nat.mod_lt
abbrev dT:=@List.foldl_append
abbrev dU:=@Nat.le_of_lt
abbrev dV:=@List.all_eq_true
abbrev dW:=@List.getElem_range
abbrev dX:=@List.getElem?_map
abbrev dY:=@AllReadyH.nil
abbrev dZ:=@List.getElem?_set_ne
abbrev eA:=@List.not_mem_nil
abbrev eB:=@decide_eq_true
abbrev eC:=@World.cell?_alloc_new
abbrev eH:=@List.map_cons
abbrev eI:=@World.ownsRow_lit
abbrev eJ:=@List.length_pos_of_mem
abbrev eK:=@World.rowIs_alloc
abbrev eM:=@List.getElem_cons_zero
abbrev eN:=@List.mem_of_getElem?
abbrev eQ:=@Bool.eq_iff_iff
abbrev eS:=@wpAnyH_ready
abbrev eU:=@List.filter_append
abbrev eV:=@List.getElem?_append_right
abbrev eW:=@Int.tmod_eq_emod_of_nonneg
abbrev eX:=@World.frozen?_setCell
abbrev eY:=@List.contains_iff_mem
abbrev eZ:=@List.flatMap_append
abbrev fA:=@List.getElem_append_left
abbrev fB:=@List.mem_append_right
abbrev fC:=@decide_eq_false_iff_not
abbrev fD:=@if_false
abbrev fE:=@List.mem_or_eq_of_mem_set
abbrev fF:=@List.append_nil
abbrev fG:=@List.mem_filter
abbrev fH:=@List.getElem?_take_of_lt
abbrev fI:=@congrArg
abbrev fJ:=@List.length_filter_le
abbrev fK:=@List.set_getElem_self
abbrev fL:=@List.nodup_cons
abbrev fM:=@run_make_row'
abbrev fN:=@List.getElem_append_right
abbrev fO:=@List.getElem_cons_succ
abbrev fP:=@List.length_erase_of_mem
abbrev fQ:=@World.cell?_setCell_same
abbrev fR:=@Int.toNat_of_nonneg
abbrev fS:=@ownsRow_setCell_other
abbrev fT:=@wpList_append_own
abbrev fV:=@of_decide_eq_true
abbrev fW:=@Nat.add_zero
abbrev fX:=@info_parts
abbrev fY:=@Int.tdiv_eq_ediv_of_nonneg
abbrev fZ:=@List.map_nil
abbrev gC:=@List.take_length
abbrev gE:=@List.set_set
abbrev gG:=@if_true
abbrev gH:=@List.map_congr_left
abbrev gI:=@List.length_range
abbrev gJ:=@Classical.choose_spec
abbrev gK:=@List.countP_eq_length_filter
abbrev gP:=@Exists.intro
abbrev gQ:=@Option.some.inj
abbrev gR:=@Option.getD_some
abbrev gU:=@Bool.not_eq_true
abbrev gV:=@results_none
abbrev gW:=@List.nodup_append
abbrev gX:=@Nat.le_succ
abbrev gY:=@List.pairwise_iff_getElem
abbrev gZ:=@List.drop_eq_getElem_cons
abbrev hH:=@List.take_append_drop
abbrev iA:=@beq_iff_eq
abbrev iC:=@Nat.lt_of_le_of_lt
abbrev iD:=@callsIn_of_wp
abbrev iE:=@List.eq_nil_of_length_eq_zero
abbrev iF:=@List.mem_erase_of_ne
abbrev iG:=@List.ext_getElem?
abbrev iH:=@Nat.testBit_two_pow_mul_add
abbrev iI:=@Array.getElem?_eq_none
abbrev iJ:=@Nat.lt_succ_self
abbrev iK:=@List.pairwise_flatMap
abbrev iL:=@World.cell?_setCell_same'
abbrev iM:=@List.foldl_cons
abbrev iN:=@Nat.mul_one
abbrev iO:=@List.mem_of_mem_take
abbrev iQ:=@List.getElem?_range
abbrev iS:=@beq_eq_false_iff_ne
abbrev iU:=@List.nodup_nil
abbrev iV:=@IntKind.wrap_u64
abbrev iW:=@List.filter_cons
abbrev iX:=@below_drewN
abbrev iY:=@wp_loop
abbrev iZ:=@Nat.div_div_eq_div_mul
abbrev jA:=@List.getElem?_drop
abbrev jB:=@Nat.and_le_left
abbrev jC:=@Prod.mk.injEq
abbrev jD:=@Bool.and_eq_false_iff
abbrev jE:=@Result.andThen_ok
abbrev jF:=@List.flatMap_cons
abbrev jG:=@List.getElem_take
abbrev jH:=@u64_and_nat
abbrev jI:=@Nat.mul_le_mul_right
abbrev jJ:=@bne_iff_ne
abbrev jK:=@Nat.add_mul
abbrev jL:=@Nat.one_mul
abbrev jM:=@Nat.mod_eq_of_lt
abbrev jN:=@List.map_toArray
abbrev jO:=@List.map_map
abbrev jP:=@Act.put_comm
abbrev jQ:=@List.length_reverse
abbrev jR:=@List.filter_sublist
abbrev jS:=@Array.size_setIfInBounds
abbrev jT:=@List.Pairwise.imp_of_mem
abbrev jU:=@Bool.or_false
abbrev jV:=@Bool.false_or
abbrev jW:=@Nat.testBit_and
abbrev jX:=@List.filter_nil
abbrev jY:=@Option.map_some
abbrev jZ:=@Nat.min_eq_left
abbrev kA:=@Ne.symm
abbrev kB:=@Int.natCast_add
abbrev kC:=@DataW.agg.injEq
abbrev kD:=@List.append_of_mem
abbrev kE:=@List.count_pos_iff
abbrev kF:=@Int.natCast_nonneg
abbrev kG:=@List.getElem?_set
abbrev kH:=@Nat.add_mod_right
abbrev kI:=@run_append_own_at
abbrev kJ:=@List.take_add_one
abbrev kK:=@List.countP_congr
abbrev kL:=@Nat.sub_self
abbrev kM:=@u64_andNot_nat
abbrev kN:=@List.length_replicate
abbrev kO:=@Nat.and_two_pow_sub_one_eq_mod
abbrev kQ:=@Nat.min_le_right
abbrev kS:=@List.nodup_range
abbrev kU:=@List.mem_reverse
abbrev kV:=@List.Nodup.length_le_of_subset
abbrev kW:=@Int.natCast_emod
abbrev kX:=@List.sum_cons
abbrev kY:=@List.pairwise_append
abbrev kZ:=@List.count_eq_zero_of_not_mem
abbrev lB:=@Nat.pow_lt_pow_right
abbrev lC:=@Nat.zero_mul
abbrev lG:=@Sem.run_bind
abbrev lH:=@Sem.run_pure
abbrev lI:=@List.range_add
abbrev lJ:=@World.grownBy.refl
abbrev lK:=@List.take_zero
abbrev lL:=@or_false
abbrev lM:=@Int.emod_lt_of_pos
abbrev lN:=@List.countP_append
abbrev lO:=@Nat.mul_le_mul
abbrev lQ:=@UInt8.toNat_lt
abbrev lS:=@List.find?_eq_none
abbrev lU:=@List.Pairwise.nil
abbrev lV:=@Bool.not_eq_true'
abbrev lW:=@List.filter_congr
abbrev lX:=@List.mem_finRange
abbrev lY:=@Bool.eq_false_iff
abbrev lZ:=@List.all_eq_false
abbrev mA:=@Nat.lt_trichotomy
abbrev mB:=@Int.emod_eq_of_lt
abbrev mC:=@List.length_filterMap_le
abbrev mD:=@List.prefix_refl
abbrev mE:=@DataW.trod_array
abbrev mF:=@List.length_drop
abbrev mG:=@List.ext_getElem
abbrev mH:=@Nat.lt_add_of_pos_right
abbrev mI:=@List.getElem?_replicate
abbrev mJ:=@List.filter_eq_nil_iff
abbrev mK:=@Addr.add_lit
abbrev mL:=@Nat.lt_or_ge
abbrev mM:=@List.getElem?_set_self
abbrev mN:=@List.map_set
abbrev mO:=@List.getElem_cons_drop
abbrev mP:=@List.drop_eq_nil_of_le
abbrev mQ:=@Nat.min_le_left
abbrev mR:=@Int.emod_nonneg
abbrev mS:=@World.var?_cell
abbrev mT:=@trodAll_cons_mk
abbrev mV:=@List.filterMap_append
abbrev mW:=@List.countP_le_length
abbrev mX:=@Array.getElem?_toList
abbrev mY:=@List.nodup_iff_count
abbrev mZ:=@List.perm_cons_erase
abbrev nA:=@size_madeCells
abbrev nB:=@Array.mem_toList_iff
abbrev nC:=@List.countP_pos_iff
abbrev nD:=@List.filterMap_cons
abbrev nE:=@Nat.testBit_two_pow
abbrev nF:=@Bool.or_comm
abbrev nG:=@wpList_plain
abbrev nH:=@wpIn_loop
abbrev nJ:=@eq_comm
abbrev oA (w v: World): Prop := Below w.heap.size w v
abbrev Cl (w: World) (b o: Nat) (v: Value): Prop := w.cell? ⟨b, o, none⟩ = some v
def Hs(p:Prop):Prop:=p
theorem Hs.o{p:Prop}(h:Hs p):p:=h
abbrev Hk(b o:Nat):Addr:=⟨b,o,none⟩
abbrev Hl(b n c:Nat):Value:=.slice (some ⟨b,0,none⟩) n c
abbrev Hm(b o n c:Nat):Value:=.slice (some ⟨b,o,none⟩) n c
abbrev Hn(b:Nat):Value:=.pointer (some ⟨b,0,none⟩)
abbrev Ho(b o:Nat):Value:=.pointer (some ⟨b,o,none⟩)
abbrev Hp(n:Int):Value:=.int .i64 n
abbrev Hq:Value:=.slice none 0 0
abbrev Hr(w:World):Nat:=w.heap.size
theorem oM {p: Prop} (h: p := by omega): p := h
theorem kR {p: Prop} (h: p := by kernel_rfl): p := h
theorem vZ {p: Prop} (h: p := by decide): p := h
theorem sP {p: Prop} (h: p := by simp): p := h
theorem gM {p: Prop} (h: p := by go_num): p := h
theorem oN {p q: Prop} (h: q) (k: q → p := by intro _; omega): p := k h
theorem oP {p q r: Prop} (h: q) (h': r) (k: q → r → p := by intro _ _; omega): p := k h h'
theorem oR {p q r s: Prop} (h: q) (h': r) (h'': s) (k: q → r → s → p := by intro _ _ _; omega): p := k h h' h''
section
structure Yg where
 op:Int
 dst:Int
 a:Int
 b:Int
 imm:Int
structure Yj where
 kind:Int
 a:Int
 to:Int
 els:Int
structure Ph where
 dst:Int
 args:List Int
structure Xe where
 ps:List Ph
 is:List Yg
 te:Yj
structure Fn where
 values:Int
 blocks:List Xe
def Yg.cells(x:Yg):List Value:=[.int .i64 x.op,.int .i64 x.dst,.int .i64 x.a,.int .i64 x.b,.int .i64 x.imm]
def Xf(w:World)(L B:Nat)(c:Option Addr)(a:List Int):Prop :=
 ∀i (h:i<a.length),∃b o,c=some ⟨b,o,none⟩/\(L<=b/\b<B)/\w.cell? ⟨b,o+i,none⟩=some (.int .i64 a[i])
def Jk(w:World)(b o:Nat)(x:Yg):Prop :=
 w.cell? ⟨b,o,none⟩=some (.int .i64 x.op)/\w.cell? ⟨b,o+1,none⟩=some (.int .i64 x.dst)/\w.cell? ⟨b,o+2,none⟩=some (.int .i64 x.a) /\
 w.cell? ⟨b,o+3,none⟩=some (.int .i64 x.b)/\w.cell? ⟨b,o+4,none⟩=some (.int .i64 x.imm)
def YY(w:World)(L B:Nat)(c:Option Addr)(a:List Yg):Prop :=
 ∀i (h:i<a.length),∃b o,c=some ⟨b,o,none⟩/\(L<=b/\b<B)/\Jk w b (o+i*5) a[i]
def Va(w:World)(b o:Nat)(x:Yj):Prop :=
 w.cell? ⟨b,o,none⟩=some (.int .i64 x.kind)/\w.cell? ⟨b,o+1,none⟩=some (.int .i64 x.a)/\w.cell? ⟨b,o+2,none⟩=some (.int .i64 x.to) /\
 w.cell? ⟨b,o+3,none⟩=some (.int .i64 x.els)
def gu(w:World)(L B b o:Nat)(x:Ph):Prop :=
 ∃a c,w.cell? ⟨b,o,none⟩=some (.int .i64 x.dst)/\w.cell? ⟨b,o+1,none⟩=some (.slice a x.args.length c)/\Xf w L B a x.args
def Jw(w:World)(L B:Nat)(c:Option Addr)(a:List Ph):Prop :=
 ∀i (h:i<a.length),∃b o,c=some ⟨b,o,none⟩/\(L<=b/\b<B)/\gu w L B b (o+i*2) a[i]
def Tk(w:World)(L B b o:Nat)(x:Xe):Prop :=
 ∃c e a d,w.cell? ⟨b,o,none⟩=some (.slice c x.ps.length e)/\w.cell? ⟨b,o+1,none⟩=some (.slice a x.is.length d) /\
  Va w b (o+2) x.te/\Jw w L B c x.ps/\YY w L B a x.is
def Xp(w:World)(L B:Nat)(c:Option Addr)(a:List Xe):Prop :=
 ∀i (h:i<a.length),∃b o,c=some ⟨b,o,none⟩/\(L<=b/\b<B)/\Tk w L B b (o+i*6) a[i]
theorem Xa{p:Prop}(h:p):Hs p:=h
theorem Xw{p:Prop}(h:Hs p):p:=h
theorem Xg{w w1 a:World}(h:Below w.heap.size w w1)(k:Below w1.heap.size w1 a):Below w.heap.size w a:=h.trans<|k.mono h.size
theorem Hg{W a:World}(c:Below W.heap.size W a):(∀b o,b<W.heap.size->a.cell? (Hk b o)=W.cell? (Hk b o))/\(∀b o,b<W.heap.size->a.frozen? (Hk b o)=W.frozen? (Hk b o)) :=
 ⟨λb o h=>c.cell (p:=Hk b o) h,λb o h=>c.frozen (p:=Hk b o) h⟩
theorem Xb{w a:World}(h:Below w.heap.size w a)(o:Obj):Below w.heap.size w (a.alloc o):=h.alloc h.size o
def jh(L:Nat)(w:World):Prop:=∀b o,L<=b->w.frozen? ⟨b,o,none⟩=false
theorem jh.start(w:World):jh w.heap.size w:=λb o h=>by
 unfold World.frozen?;rw[iI<|by exact h]
theorem jh.alloc{L:Nat}{w:World}(h:jh L w)(c:Array Value)(t:TypeId):jh L (w.alloc<|.cells c t):=λb o d=>by
 by_cases e:b<w.heap.size;·rw[bJ (w:=w) (a:=(Hk b o)) (Below.heap_alloc _ _ _ e)];exact h b o d
 unfold World.frozen?;show(match (w.heap.push<|.cells c t)[b]? with|some (.cells _ _ (lo,hi))=>decide (lo<=o)&&decide (o<hi)|_=>false)=false;rw[Array.getElem?_push];split
 .rename_i _ _ _ a;split at a;·cases a;simp
  rw[iI oM]at a;cases a
 rfl
variable {w w': World} {L B: Nat}
def YA(L B:Nat)(w w':World):Prop:=∀k,L<=k->k<B->w'.heap[k]?=w.heap[k]?
theorem YA.of_below(k:Below B w w'):YA L B w w':=λi _ h=>k.block i h
theorem YA.trans{c:World}(h:YA L B w w')(k:YA L B w' c):YA L B w c:=λi a b=>(k i a b).trans (h i a b)
theorem Xc{b o:Nat}(h:w'.heap[b]?=w.heap[b]?):w'.cell? (Hk b o)=w.cell? (Hk b o):=bZ (w:=w) h
theorem Xf.keepS{c:Option Addr}{d:List Int}(h:Xf w L B c d)(k:YA L B w w'):Xf w' L B c d:=λi g=>by
 let⟨b,o,e,a,f⟩:=h i g;exact⟨b,o,e,a,by rw[Xc<|k b a.1 a.2];exact f⟩
theorem Jk.keepS{b o:Nat}{x:Yg}(h:Jk w b o x)(k:w'.heap[b]?=w.heap[b]?):Jk w' b o x:=by
 let⟨a,c,d,e,f⟩:=h;exact⟨(Xc k).trans a,(Xc k).trans c,(Xc k).trans d,(Xc k).trans e,(Xc k).trans f⟩
theorem Va.keepS{b o:Nat}{x:Yj}(h:Va w b o x)(k:w'.heap[b]?=w.heap[b]?):Va w' b o x:=by
 let⟨a,c,d,e⟩:=h;exact⟨(Xc k).trans a,(Xc k).trans c,(Xc k).trans d,(Xc k).trans e⟩
theorem YY.keepS{c:Option Addr}{d:List Yg}(h:YY w L B c d)(k:YA L B w w'):YY w' L B c d:=λi g=>by
 let⟨b,o,e,a,f⟩:=h i g;exact⟨b,o,e,a,f.keepS<|k b a.1 a.2⟩
theorem gu.keepS{b o:Nat}{x:Ph}(h:gu w L B b o x)(k:YA L B w w')(e:w'.heap[b]?=w.heap[b]?):gu w' L B b o x:=by
 let⟨a,c,d,f,g⟩:=h;exact⟨a,c,(Xc e).trans d,(Xc e).trans f,g.keepS k⟩
theorem Jw.keepS{c:Option Addr}{d:List Ph}(h:Jw w L B c d)(k:YA L B w w'):Jw w' L B c d:=λi g=>by
 let⟨b,o,e,a,f⟩:=h i g;exact⟨b,o,e,a,f.keepS k<|k b a.1 a.2⟩
theorem Tk.keepS{b o:Nat}{x:Xe}(h:Tk w L B b o x)(k:YA L B w w')(e:w'.heap[b]?=w.heap[b]?):Tk w' L B b o x:=by
 let⟨l,m,i,j,a,c,d,f,g⟩:=h;exact⟨l,m,i,j,(Xc e).trans a,(Xc e).trans c,d.keepS e,f.keepS k,g.keepS k⟩
theorem Xp.keepS{c:Option Addr}{d:List Xe}(h:Xp w L B c d)(k:YA L B w w'):Xp w' L B c d:=λi g=>by
 let⟨b,o,e,a,f⟩:=h i g;exact⟨b,o,e,a,f.keepS k<|k b a.1 a.2⟩
theorem Xf.keep{a:Option Addr}{b:List Int}(h:Xf w L B a b)(k:Below B w w'):Xf w' L B a b:=h.keepS<|YA.of_below k
theorem Jk.keep{b o:Nat}{x:Yg}(h:Jk w b o x)(k:Below B w w')(a:b<B):Jk w' b o x:=h.keepS<|k.block b a
theorem YY.keep{a:Option Addr}{b:List Yg}(h:YY w L B a b)(k:Below B w w'):YY w' L B a b:=h.keepS<|YA.of_below k
theorem Jw.keep{a:Option Addr}{b:List Ph}(h:Jw w L B a b)(k:Below B w w'):Jw w' L B a b:=h.keepS<|YA.of_below k
theorem Tk.keep{b o:Nat}{x:Xe}(h:Tk w L B b o x)(k:Below B w w')(a:b<B):Tk w' L B b o x:=h.keepS (YA.of_below k) (k.block b a)
theorem Xp.keep{a:Option Addr}{b:List Xe}(h:Xp w L B a b)(k:Below B w w'):Xp w' L B a b:=h.keepS<|YA.of_below k
theorem Xf.mono{c a:Nat}{d:Option Addr}{e:List Int}(h:Xf w L B d e)(m:c<=L)(l:B<=a):Xf w c a d e:=λj i=>by
 let⟨b,o,f,k,g⟩:=h j i;exact⟨b,o,f,oM,g⟩
theorem YY.mono{c a:Nat}{d:Option Addr}{e:List Yg}(h:YY w L B d e)(m:c<=L)(l:B<=a):YY w c a d e:=λj i=>by
 let⟨b,o,f,k,g⟩:=h j i;exact⟨b,o,f,oM,g⟩
theorem gu.mono{d a:Nat}{b o:Nat}{x:Ph}(h:gu w L B b o x)(l:d<=L)(k:B<=a):gu w d a b o x:=by
 let⟨e,c,f,g,i⟩:=h;exact⟨e,c,f,g,i.mono l k⟩
theorem Jw.mono{c a:Nat}{d:Option Addr}{e:List Ph}(h:Jw w L B d e)(l:c<=L)(k:B<=a):Jw w c a d e:=λj i=>by
 let⟨b,o,f,m,g⟩:=h j i;exact⟨b,o,f,oM,g.mono l k⟩
theorem Tk.mono{c a:Nat}{b o:Nat}{x:Xe}(h:Tk w L B b o x)(l:c<=L)(k:B<=a):Tk w c a b o x:=by
 let⟨n,p,j,m,d,e,f,g,i⟩:=h;exact⟨n,p,j,m,d,e,f,g.mono l k,i.mono l k⟩
theorem Xp.mono{c a:Nat}{d:Option Addr}{e:List Xe}(h:Xp w L B d e)(l:c<=L)(k:B<=a):Xp w c a d e:=λj i=>by
 let⟨b,o,f,m,g⟩:=h j i;exact⟨b,o,f,oM,g.mono l k⟩
end
theorem xA{α:Type}{xs:List α}{i:Nat}(h:i<xs.toArray.size):xs.toArray[i]=xs[i]'(by simpa using h):=rfl
theorem xB{α:Type}{a:α}{ys:List α}{h:0<(a::ys).length}:(a::ys)[0]=a:=rfl
theorem xC{α:Type}{a:α}{ys:List α}{i:Nat}{h:i+1<(a::ys).length}:(a::ys)[i+1]=ys[i]'(Nat.lt_of_succ_lt_succ h):=rfl
theorem xD{α:Type}{l:List α}{i:Nat}{a:α}:l.toArray.setIfInBounds i a=(l.set i a).toArray:=List.setIfInBounds_toArray ..
theorem xE{α:Type}{x:α}{xs:List α}{a:α}:(x::xs).set 0 a=a::xs:=rfl
theorem xF{α:Type}{x:α}{xs:List α}{i:Nat}{a:α}:(x::xs).set (i+1) a=x::xs.set i a:=rfl
theorem X0{P:Program}{md:Region.Mode}{ops:Array Oper}{Q:Exit->Act->World->Prop}{S:World->Prop}(i:Nat){oi:Oper}{v:Value}{fuel:Nat}{listed:Array Bool}{a b:Act}{w:World}(h:wpAnyH P md ops Q S fuel (listed.setIfInBounds i true) b w)(hi:ops[i]?=some oi:=by exact rfl)(hw:Region.wanted oi (yielded ops a.tmps)=true:=by rfl)(hy:∀(w:World),S w->Sem.run P (execOp a.eval oi) w=Result.ok (Next.value v) w:=by intro w hSw;(try dsimp only at hSw);go_simp;try with_reducible rfl)(hp:a.put oi.dst v=b:=by(simp only[Act.put,xA,xB,xC,xD,xE,xF]);exact rfl)(hq:∀c a w,Q (.panic c) (a.put oi.dst v) w->Q (.panic c) a w:=by exact(λ_ _ _ h=>hQ.o _ _ _ _ _ h))(hs:Region.noSelect ops=true:=by kernel_rfl)(hf:Region.free md ops listed i=true:=by kernel_rfl)(hr:(Region.ready md ops listed).contains i=true:=by kernel_rfl)(hS:S w:=by assumption):wpAnyH P md ops Q S (fuel+1) listed a w:=wpAnyH_take hi hs hf hr hq (Or.inl ⟨hw,hy⟩) hS (hp▸h)
theorem Xn{P:Program}{md:Region.Mode}{ops:Array Oper}{Q:Exit->Act->World->Prop}{S:World->Prop}(i:Nat){oi:Oper}{v:Value}{fuel:Nat}{listed:Array Bool}{a b:Act}{w:World}(h:wpAnyH P md ops Q S fuel (listed.setIfInBounds i true) b w)(hi:ops[i]?=some oi:=by exact rfl)(hw:Region.wanted oi (yielded ops a.tmps)=true:=by rfl)(hy:∀(w:World),S w->Sem.run P (execOp a.eval oi) w=Result.ok (Next.value v) w:=by intro w hSw;(try dsimp only at hSw);go_simp;try with_reducible rfl)(hp:a.put oi.dst v=b:=by(simp only[Act.put,xA,xB,xC,xD,xE,xF]);exact rfl)(hq:∀c a w,Q (.panic c) (a.put oi.dst v) w->Q (.panic c) a w:=by exact λ_ _ _ h=>h)(hs:Region.noSelect ops=true:=by kernel_rfl)(hf:Region.free md ops listed i=true:=by kernel_rfl)(hr:(Region.ready md ops listed).contains i=true:=by kernel_rfl)(hS:S w:=by assumption):wpAnyH P md ops Q S (fuel+1) listed a w:=wpAnyH_take hi hs hf hr hq (Or.inl ⟨hw,hy⟩) hS (hp▸h)
theorem KH{P:Program}{md:Region.Mode}{ops:Array Oper}{Q:Exit->Act->World->Prop}{S:World->Prop}(i:Nat){oi:Oper}{fuel:Nat}{listed:Array Bool}{a b:Act}{w:World}(h:wpAnyH P md ops Q S fuel (listed.setIfInBounds i true) b w)(hi:ops[i]?=some oi:=by exact rfl)(hw:Region.wanted oi (yielded ops a.tmps)=false:=by rfl)(hp:a.put oi.dst undef=b:=by(simp only[Act.put,xA,xB,xC,xD,xE,xF]);exact rfl)(hq:∀c a w,Q (.panic c) (a.put oi.dst undef) w->Q (.panic c) a w:=by exact λ_ _ _ h=>h)(hs:Region.noSelect ops=true:=by kernel_rfl)(hf:Region.free md ops listed i=true:=by kernel_rfl)(hr:(Region.ready md ops listed).contains i=true:=by kernel_rfl)(hS:S w:=by assumption):wpAnyH P md ops Q S (fuel+1) listed a w:=wpAnyH_take hi hs hf hr hq (Or.inr ⟨hw,rfl⟩) hS (hp▸h)
theorem tX{P:Program}{md:Region.Mode}{ops:Array Oper}{Q:Exit->Act->World->Prop}{S:World->Prop}(i:Nat){oi:Oper}{fuel:Nat}{listed:Array Bool}{a b:Act}{w:World}(h:wpAnyH P md ops Q S fuel (listed.setIfInBounds i true) b w)(hi:ops[i]?=some oi:=by exact rfl)(hw:Region.wanted oi (yielded ops a.tmps)=false:=by rfl)(hp:a.put oi.dst undef=b:=by(simp only[Act.put,xA,xB,xC,xD,xE,xF]);exact rfl)(hq:∀c a w,Q (.panic c) (a.put oi.dst undef) w->Q (.panic c) a w:=by exact(λ_ _ _ h=>hQ.o _ _ _ _ _ h))(hs:Region.noSelect ops=true:=by kernel_rfl)(hf:Region.free md ops listed i=true:=by kernel_rfl)(hr:(Region.ready md ops listed).contains i=true:=by kernel_rfl)(hS:S w:=by assumption):wpAnyH P md ops Q S (fuel+1) listed a w:=wpAnyH_take hi hs hf hr hq (Or.inr ⟨hw,rfl⟩) hS (hp▸h)
theorem Xs{P:Program}{md:Region.Mode}{ops:Array Oper}{Q:Exit->Act->World->Prop}{S:World->Prop}(i:Nat){oi:Oper}{fuel:Nat}{listed:Array Bool}{a:Act}{w:World}(h:∀K':Act->World->Prop,Shut (∀a w,S w->∀{b:Act},(S w->wpAnyH P md ops Q S fuel (listed.setIfInBounds i true) b w)->(hp:a=b:=by(try simp only[Act.put,xA,xB,xC,xD,xE,xF]);exact rfl)->K' a w)->if Region.wanted oi (yielded ops a.tmps)=true then Oper.wp P oi a w K' Q else K' (a.put oi.dst undef) w)(hi:ops[i]?=some oi:=by exact rfl)(hr:Region.ready md ops listed=[i]:=by kernel_rfl):wpAnyH P md ops Q S (fuel+1) listed a w:=wpAnyH_ready (rs:=[i]) hr (by simp) (AllReadyH.cons hi (λK hK=>h K λa w hs b k hp=>hK a w hs (hp▸k)) AllReadyH.nil)
theorem Y7{P:Program}{ops:Array Oper}{Q:Exit->Act->World->Prop}(S:World->Prop){id:Nat}{a:Act}{w:World}(h:S w.drew->wpAnyH P .any ops Q S ops.size (Array.replicate ops.size false) a w.drew)(hS:S w.drew:=by first|with_reducible exact True.intro|((try dsimp only);go_keep))(hm:P.follows .mixedOrders=true:=by kernel_rfl):(Code.region id ops true).wp P Q a w:=wp_region_held_drew hm hS h
theorem Yq{P:Program}{md:Region.Mode}{ops:Array Oper}{Q:Exit->Act->World->Prop}{S:World->Prop}{listed:Array Bool}{a:Act}{w:World}{fuel:Nat}(h:Q .normal a w)(hr:Region.ready md ops listed=[]:=by kernel_rfl):wpAnyH P md ops Q S fuel listed a w:=wpAnyH_done hr h fuel
theorem kP{S:Prop}(h:S:=by first|with_reducible exact hHeld|((try dsimp only);go_keep)):S:=h
theorem XU{n:Nat}{w w':World}(k:Below n w w'){b o:Nat}(hb:b<n):w'.cell? (Hk b o)=w.cell? (Hk b o):=k.cell (p:=⟨b,o,none⟩) hb
theorem oB {n: Nat} {w v: World} {b o: Nat} {x: Option Value} (k: Below n w v) (e: w.cell? ⟨b, o, none⟩ = x) (hb: b < n): v.cell? ⟨b, o, none⟩ = x := (k.cell (p := ⟨b, o, none⟩) hb).trans e
abbrev xX := And.intro @Act.put.eq_1 (And.intro @Act.put.eq_2 (And.intro @xA (And.intro @xB (And.intro @xC (And.intro @xD (And.intro @xE @xF))))))
abbrev xY := And.intro @dO.{0} (And.intro @bA.{0} (And.intro @bO.{0} (And.intro @cX.{0} (And.intro @cZ.{0} (And.intro @dP.{0} (And.intro @dE.{0} (And.intro @dR.{0} @cW.{0})))))))
def Xh(W:Nat->Nat)(x:Nat):Bool:=(W<|x/64).testBit (x%64)
def YH(W:Nat->Nat)(x:Nat):Nat->Nat:=λi=>if i=x/64 then W i|||2^(x%64)else W i
def XA(W:Nat->Nat):Prop:=∀i,W i<18446744073709551616
theorem Z3(x:Nat):Xh (λ_=>0) x=false:=by simp[Xh]
theorem Z8(W:Nat->Nat)(x y:Nat):Xh (YH W x) y=(decide (y=x)||Xh W y):=by
 unfold Xh YH;by_cases h:y/64=x/64
 .rw[aU h,Nat.testBit_or,nE];by_cases e:x%64=y%64
  .have:y=x:=oM;simp[this]
  have:¬y=x:=λa=>e (by rw[a]);simp[this,e]
 rw[aM h];have:¬y=x:=λa=>h (by rw[a]);simp[this]
theorem jz(h:XA f)(x:Nat):XA (YH f x):=λi=>by
 unfold YH;split;·exact Nat.or_lt_two_pow (n:=64) (h i) (lB vZ<|dS _ vZ)
 exact h i
def H7(S O T:Nat->Nat)(i:Nat):Nat:=(O i&&&(18446744073709551615-T i))&&&(18446744073709551615-S i)
def Hv(S O T:Nat->Nat)(i:Nat):Nat:=S i|||H7 S O T i
theorem nf(ha:n<18446744073709551616)(a:m<64):(18446744073709551615-n).testBit m=!n.testBit m:=by
 have:=Nat.testBit_two_pow_sub_succ (n:=64) (x:=n) ha m;rw[show 18446744073709551615-n=2^64-(n+1) by omega,this];simp[a]
theorem WU{O:Nat->Nat}(b:XA f)(c:XA F)(i:Nat)(a:n<64):(H7 f O F i).testBit n=((O i).testBit n&&!(F i).testBit n&&!(f i).testBit n):=by
 unfold H7;rw[jW,jW,nf (c i) a,nf (b i) a]
theorem WR{S T:Nat->Nat}(a:XA f)(i:Nat):H7 S f T i<18446744073709551616:=iC (aJ jB jB) (a i)
theorem oD{T:Nat->Nat}(b:XA f)(a:XA F):XA (Hv f F T):=λi=>Nat.or_lt_two_pow (n:=64) (b i) (WR a i)
theorem sS{T:Nat->Nat}(a:XA f)(b:XA T)(x:Nat):Xh (Hv f F T) x=(Xh f x||(Xh F x&&!Xh T x)):=by
 unfold Xh Hv;rw[Nat.testBit_or,WU a b _<|dS _ vZ];cases (f<|x/64).testBit (x%64)<;>simp
theorem zJ{T:Nat->Nat}(e:XA f)(d:XA F)(g:XA T)(i:Nat)(h:H7 f F T i≠0):∃x,x/64=i/\Xh F x=true/\Xh T x=false/\Xh f x=false:=by
 let⟨t,a⟩:=Nat.exists_testBit_of_ne_zero h;have c:t<64:=by
  rcases mL t 64 with b|b;·exact b
  have:=Nat.testBit_lt_two_pow<|aX (WR (S:=f) (T:=T) d i) (Nat.pow_le_pow_right vZ b:2^64<=2^t);rw[this]at a;cases a
 rw[WU e g _ c]at a;simp only[bY,lV]at a;refine⟨64*i+t,oM,?_,?_,?_⟩;·unfold Xh;rw[show(64*i+t)/64=i by omega,show(64*i+t)%64=t by omega];exact a.1.1
 .unfold Xh;rw[show(64*i+t)/64=i by omega,show(64*i+t)%64=t by omega];exact a.1.2
 unfold Xh;rw[show(64*i+t)/64=i by omega,show(64*i+t)%64=t by omega];exact a.2
theorem y9{T:Nat->Nat}(c:XA f)(d:XA T)(h:H7 f F T (n/64)=0)(a:Xh F n=true)(b:Xh T n=false):Xh f n=true:=by
 have:=WU (O:=F) c d (n/64) (dS n<|show 0<64 by decide);rw[h,Nat.zero_testBit]at this;unfold Xh at*;rw[a,b]at this;cases hs:(f<|n/64).testBit (n%64)with
 |true=>rfl
 |false=>rw[hs]at this;cases this
def G8(S O T:Nat->Nat)(K:Nat):Bool:=(List.range K).any λi=>H7 S O T i != 0
theorem wH(S O T:Nat->Nat):G8 S O T 0=false:=rfl
theorem wJ(S O T:Nat->Nat)(K:Nat):G8 S O T (K+1)=(G8 S O T K||(H7 S O T K != 0)):=by
 unfold G8;rw[dN,List.any_append];simp
theorem BQ{T:Nat->Nat}(c:XA f)(b:XA F)(d:XA T)(h:G8 f F T n=true):∃x,x<64*n/\Xh F x=true/\Xh T x=false/\Xh f x=false:=by
 let⟨i,e,g⟩:=List.any_eq_true.1 h;let⟨x,j,a⟩:=zJ c b d i (by simpa using g);have:=bE.1 e;exact⟨x,oM,a⟩
theorem Ci{T:Nat->Nat}(c:XA f)(d:XA T)(h:G8 f F T n=false)(e:m<64*n)(a:Xh F m=true)(b:Xh T m=false):Xh f m=true:=by
 refine y9 c d ?_ a b;have:=List.any_eq_false.1 h (m/64) (bE.2 oM);simpa using this
def C3(W:Nat->Nat)(a:List Nat):Nat->Nat:=a.foldl YH W
theorem VW{W:Nat->Nat}(h:n<s.length):C3 W (s.take<|n+1)=YH (C3 W<|s.take n) s[n]:=by
 unfold C3;rw[bN h,dT];rfl
theorem Zs:∀(a:List Nat){W:Nat->Nat},XA W->XA (C3 W a)
 |[],_,h=>h
 |t::a,_,h=>Zs a<|jz h t
theorem YR:∀(a:List Nat)(W:Nat->Nat)(y:Nat),Xh (C3 W a) y=(decide (y∈a)||Xh W y)
 |[],W,y=>by simp[C3]
 |t::a,W,y=>by
  show Xh (C3 (YH W t) a) y=_;rw[YR a,Z8];by_cases b:y=t;·simp[b]
  by_cases c:y∈a<;>simp[b,c]
theorem wK{b:Bool}(h:r=b):Ending.returned (.bool r)=Ending.returned (.bool b):=by rw[h]
theorem oF(x:Nat):(x:Int).tdiv 64=((x/64:Nat):Int):=by rw[fY oM];omega
theorem oE(x:Nat):(x:Int).tmod 64=((x%64:Nat):Int):=by rw[eW oM];omega
theorem rf(b:n<18446744073709551616):(bits .and .u64 ((n:Int)/2^m) 1==1)=n.testBit m:=by
 have hq:n/2^m<18446744073709551616:=iC (Nat.div_le_self _ _) b;have e:((n:Int)/2^m)=((n/2^m:Nat):Int):=sP;rw[e,show(1:Int)=((1:Nat):Int)from rfl,jH _ _ hq vZ,Nat.and_one_is_mod,Nat.testBit_eq_decide_div_mod_eq];by_cases h:n/2^m%2=1;·simp[h]
 have a:n/2^m%2=0:=oM;simp[a]
theorem qI(c:m<64)(b:n<18446744073709551616):bits .or .u64 (n:Int) (IntKind.u64.wrap<|2^m)=((n|||2^m:Nat):Int):=by
 have a:2^m<18446744073709551616:=aX (lB vZ c) vZ;have e:IntKind.u64.wrap (2^m)=((2^m:Nat):Int):=by
  rw[iV];have:((2^m:Nat):Int)=(2:Int)^m:=sP;rw[<-this];exact mB (kF _) (Int.ofNat_lt.2 a)
 rw[e,u64_or_nat _ _ b a]
def dB(a:Int):Bool:=decide (1<=a/\a<=8)||decide (a=11)||decide (a=13)
def aB(a:Int):Bool:=decide (3<=a/\a<=12)
def bB(a:Int):Bool:=decide (3<=a/\a<=7)||decide (a=9)
def Tp(u:Bool)(x b a:Int):Bool:=if u then decide (b<=x)&&decide (x<a)else x==0
def Wu(x:Yg):Bool:=if x.op==1 then decide (-1000000000<=x.imm)&&decide (x.imm<=1000000000)else if x.op==2 then decide (0<=x.imm)&&decide (x.imm<8)else x.imm==0
def Yw(n a:Int)(x:Yg):Bool :=
 decide (1<=x.op)&&decide (x.op<=a)&&Tp (dB x.op) x.dst 0 n&&Tp (aB x.op) x.a 0 n&&Tp (bB x.op) x.b 0 n&&Wu x
def Zu(n low a:Int)(t:Yj):Bool :=
 decide (1<=t.kind)&&decide (t.kind<=3)&&Tp (t.kind != 1) t.a 0 n&&Tp (t.kind != 3) t.to low a&&Tp (t.kind==2) t.els low a
def Jf(n a:Int)(t:Yj):Bool:=Zu n 1 a t&&!(t.kind==2&&t.to==t.els)
def Yj.tg(t:Yj):List Int:=if t.kind=1 then [t.to]else if t.kind=2 then [t.to,t.els]else []
def XZ(a:List Ph):Nat:=(a.map λp=>1+p.args.length).sum
def Ul(x:Xe):Nat:=1+x.is.length+XZ x.ps
def Xo(a:List Xe):Nat:=(a.map Ul).sum
def AQ:List Xe->Nat->Int->List Int
 |[],_,_=>[]
 |x::xs,i,b=>(if x.te.tg.contains b then [(i:Int)]else [])++AQ xs (i+1) b
def Fn.preds(F:Fn)(b:Int):List Int:=AQ F.blocks 0 b
def XG(a:List Ph):List Int:=a.map (·.dst)
def XI(a:List Yg):List Int:=(a.filter λx=>dB x.op).map (·.dst)
def Z6(x:Xe):List Int:=XG x.ps++XI x.is
def BX(a:List Xe):List Int:=a.flatMap Z6
def Y6(F:Fn):Bool:=decide (0<=F.values)&&decide (F.values<=2000)&&decide (1<=F.blocks.length)&&decide (F.blocks.length<=1000)&&decide (Xo F.blocks<=4000)
def J2(F:Fn):Bool:=F.blocks.all λx=>Jf F.values F.blocks.length x.te
def Z0(F:Fn):Bool:=F.blocks.all λx=>x.is.all<|Yw F.values 10
def Jt(n:Int)(k:Nat)(p:Ph):Bool:=decide (1<=p.args.length)&&decide (p.args.length=k)&&p.args.all λa=>decide (0<=a)&&decide (a<n)
def ZX(n:Int)(k:Nat)(p:Ph):Bool:=Tp true p.dst 0 n&&Jt n k p
def Zi(b:Int->Nat->Ph->Bool)(F:Fn)(a:List Xe)(i:Nat):Bool :=
 match a with
 |[]=>true
 |x::a=>x.ps.all (b F.values (F.preds i).length)&&Zi b F a (i+1)
def Ug(F:Fn):Bool:=Zi Jt F F.blocks 0
def KL(F:Fn):Bool:=Zi ZX F F.blocks 0
def E9(a:List Int)(v:Int):Nat:=(a.filter λx=>x==v).length
def JM(F:Fn):Bool:=(List.range F.values.toNat).all λv=>E9 (BX F.blocks) v==1
def Ui(F:Fn):Bool:=decide (((BX F.blocks).length:Int)=F.values)&&(List.range F.values.toNat).all λv=>(BX F.blocks).contains (v:Int)
def XJ(F:Fn):Bool:=Y6 F&&J2 F&&Z0 F&&KL F&&JM F
def je(F:Fn):Bool:=Y6 F&&(Z0 F&&J2 F)&&Ug F&&Ui F
def JG(a:List Ph):Nat:=(a.map λp=>p.args.length).sum
def ZZ(x:Xe):Nat:=x.ps.length+JG x.ps+x.is.length
def Xx(a:List Xe):Nat:=(a.map ZZ).sum
theorem Vm(a:List Xe)(p:Xe):Xx (a++[p])=Xx a+ZZ p:=by simp[Xx]
theorem Tw{b:Type}(f:b->Nat)(a:List b)(k:Nat):((a.take k).map f).sum<=(a.map f).sum:=by
 induction a generalizing k with
 |nil=>simp
 |cons x a c=>cases k with
  |zero=>simp
  |succ k=>simp only[List.take_succ_cons,eH,kX];have:=c k;omega
theorem UX(a:List Xe)(k:Nat):Xx (a.take k)<=Xx a:=Tw _ _ _
theorem Cf{k:IntKind}{b:Int}(h:t=b):Ending.returned (.int k t)=.returned (.int k b):=by rw[h]
theorem Xl{b:Bool}(h:r=b):Ending.returned (.bool r)=.returned (.bool b):=by rw[h]
theorem Yp(u:Bool)(x b a:Int)(w:World) :
 Calls prog 113 #[.bool u,Hp x,Hp b,Hp a] w λe f=>e=.returned (.bool (Tp u x b a))/\f=w:=by
 cases u
 .go_in
  go_wp2;go_ret;exact⟨rfl,rfl⟩
 by_cases c:b<=x<;>by_cases d:x<a
 all_goals
  go_in
  go_wp2;go_ret;exact⟨by simp[Tp,c,d],rfl⟩
theorem X7{b:Type}(a:List b)(k:Nat)(h:k<a.length):a.take (k+1)=a.take k++[a[k]]:=bN h
section
attribute [local go_sem ↓] Go.wp_at_zero Go.wp_at_succ
def Eo(a:List Ph):Prop:=∀p∈a,p.args.length<=1048576
def DR(a:List Xe):Prop:=∀x∈a,x.ps.length<=1048576/\x.is.length<=1048576/\Eo x.ps
end
section
variable {w w1: World} {L B b t N: Nat} {f: Nat -> Value}
theorem YA.refl(L B:Nat)(w:World):YA L B w w:=λ_ _ _=>rfl
theorem YA.setCell(h:YA L B w w1){p:Addr}(d:p.block<L\/B<=p.block)(v:Value):YA L B w (w1.setCell p v):=λk a c=>by
 rw[Below.heap_setCell _ _ _ _ oM];exact h k a c
theorem Xd(w:World)(p:Addr)(v:Value):(w.setCell p v).heap.size=w.heap.size:=by simp[World.setCell]
theorem Zl{w w':World}{a t e:Nat}{v:Value}{n:Nat}{c:List Value}(h:w.ownsRow a t e v n c)(p:∀b,v.ownBlock=some b->w'.heap[b]?=w.heap[b]?):w'.ownsRow a t e v n c:=by
 obtain⟨d,h|⟨g,i,j,k,m,o,l⟩⟩:=h;·exact⟨d,bC h⟩
 subst k;exact⟨d,aZ ⟨g,i,j,rfl,m,(p g rfl).trans o,l⟩⟩
theorem rW{w e:World}{a t d n:Nat}{v:Value}{c:List Value}(h:w.ownsRow a t d v n c)(i:Below w.heap.size w e):e.ownsRow a t d v n c:=Zl h λb g=>i.block b (h.lt b g).2
end
theorem Nv:(prog.info? 2).map (λi=>(i.zero,i.size,i.bytes))=some (some<|Hp 0,1,8):=kR
theorem mn(l:List Int)(v:Int):E9 l v=l.count v:=by
 unfold E9;rw[List.count,gK]
theorem B9(n:Nat):∀l:List Int,l.length=n->(∀v:Nat,v<n->(v:Int)∈l)->(∀d∈l,0<=d/\d<n)/\∀v:Nat,v<n->l.count (v:Int)=1:=by
 induction n with
 |zero=>
  intro l e _;have:l=[]:=iE e;subst this;exact⟨λd a=>(eA a).elim,λv b=>absurd b oM⟩
 |succ n p=>
  intro l e b;have f:=b n oM;have m:(l.erase (n:Int)).length=n:=by rw[fP f];omega
  have o:∀v:Nat,v<n->(v:Int)∈l.erase (n:Int):=λv i=>(iF oM).2 (b v oM);let⟨c,j⟩:=p _ m o;have g:=mZ f;refine⟨λd a=>?_,λv i=>?_⟩
  .rcases cH.1 (g.mem_iff.1 a)with rfl|a;·omega
   have:=c d a;omega
  rw[g.count_eq,List.count_cons];by_cases h:v=n
  .subst h;have:(l.erase (v:Int)).count (v:Int)=0:=List.count_eq_zero.2 (λk=>by have:=c _ k;omega);simp[this]
  rw[j v oM];have:((n:Int)==(v:Int))=false:=by simp;omega
  simp[this]
theorem x8(n:Nat):∀l:List Int,(∀d∈l,0<=d/\d<n)->(∀v:Nat,v<n->l.count (v:Int)=1)->l.length=n/\∀v:Nat,v<n->(v:Int)∈l:=by
 induction n with
 |zero=>
  intro l c _;have:l=[]:=List.eq_nil_iff_forall_not_mem.2 (λd b=>by have:=c d b;omega);subst this;exact⟨rfl,λv k=>absurd k oM⟩
 |succ n m=>
  intro l c a;have e:=kE.1 (by rw[a n oM];omega);have p:=mZ e;have j:(l.erase (n:Int)).count (n:Int)=0:=by rw[List.count_erase_self,a n oM]
  have g:∀d∈l.erase (n:Int),0<=d/\d<n:=λd b=>by
   have h:=c d<|List.mem_of_mem_erase b;have o:d≠n:=λf=>by subst f;exact absurd b<|List.count_eq_zero.1 j
   omega
  have i:∀v:Nat,v<n->(l.erase (n:Int)).count (v:Int)=1:=λv h=>by
   rw[List.count_erase_of_ne oM];exact a v oM
  let⟨q,r⟩:=m _ g i;refine⟨by have:=fP e;have:0<l.length:=eJ e;omega,λv h=>?_⟩;exact kE.1<|by rw[a v h];omega
def VF(n:Int)(a:List Xe):Bool:=a.all λx=>x.ps.all λp=>Tp true p.dst 0 n
theorem sH{a:Type}(p q:a->Bool)(l:List a):l.all (λx=>p x&&q x)=(l.all p&&l.all q):=by
 induction l with
 |nil=>rfl
 |cons x l b=>simp only[List.all_cons,b];cases p x<;>cases q x<;>cases l.all p<;>simp
theorem vY(F:Fn):∀(a:List Xe)(i:Nat),Zi ZX F a i=(VF F.values a&&Zi Jt F a i):=by
 intro a
 induction a with
 |nil=>intro i;rfl
 |cons x a b=>
  intro i;simp only[Zi,VF,List.all_cons,b];have:x.ps.all (ZX F.values (F.preds ↑i).length)=(x.ps.all (λp=>Tp true p.dst 0 F.values)&&x.ps.all (Jt F.values (F.preds ↑i).length)):=sH _ _ _;rw[this];cases x.ps.all (λp=>Tp true p.dst 0 F.values)<;>cases x.ps.all (Jt F.values (F.preds ↑i).length)<;>simp
theorem yw(F:Fn)(e:Z0 F=true):(VF F.values F.blocks=true↔∀d∈BX F.blocks,0<=d/\d<F.values):=by
 unfold VF BX;simp only[dV,bV,Z6,XG,XI,bU,aY,fG,Tp,gG,bY,bD];constructor
 .rintro h d⟨x,a,⟨p,b,rfl⟩|⟨y,⟨f,c⟩,rfl⟩⟩;·exact h x a p b
  have:=dV.1 (dV.1 e x a) y f;simp only[Yw,c,Tp,gG,bY,bD]at this;omega
 intro h x a p b;exact h _ ⟨x,a,bC ⟨p,b,rfl⟩⟩
theorem xT(F:Fn)(c:0<=F.values)(d:Z0 F=true):(VF F.values F.blocks&&JM F)=Ui F:=by
 rw[eQ];let⟨n,e⟩:=bX c;rw[bY,yw F d];unfold JM Ui;rw[e];simp only[dV,bE,dM,iA,bY,bD,eY,mn];constructor
 .rintro⟨b,a⟩;let⟨g,f⟩:=x8 n _ b a;exact⟨oM,f⟩
 rintro⟨b,a⟩;exact B9 n _ oM a
theorem WY(F:Fn):XJ F=je F:=by
 unfold XJ je KL Ug;rw[vY];cases hs:Y6 F;·simp
 cases hi:Z0 F;·simp
 cases ht:J2 F;·simp
 have a:0<=F.values:=by
  simp only[Y6,bY,bD]at hs;omega
 have:=xT F a hi;rw[<-this];cases VF F.values F.blocks<;>cases Zi Jt F F.blocks 0<;>simp
def Kz(a:Int):ByteArray :=
 if a=1 then ⟨#[100,105]⟩else if a=2 then ⟨#[100,105]⟩else if 3<=a/\a<=7 then ⟨#[100,97,98]⟩else if a=8 then ⟨#[100,97]⟩else if a=11 then ⟨#[100,97]⟩
 else if a=9 then ⟨#[97,98]⟩else if a=10 then ⟨#[97]⟩else if a=12 then ⟨#[97]⟩else if a=13 then ⟨#[100]⟩else ⟨#[]⟩
theorem xU{a b:ByteArray}(h:a=b):Ending.returned (.string a)=.returned (.string b):=by rw[h]
theorem ym(a:Int)(w:World) :
 Calls prog 108 #[Hp a] w λe d=>e=.returned (.string (Kz a))/\d=w:=by
 by_cases h:1<=a/\a<=13
 .have b:a=1\/a=2\/a=3\/a=4\/a=5\/a=6\/a=7\/a=8\/a=9\/a=10\/a=11\/a=12\/a=13:=oM;rcases b with rfl|rfl|rfl|rfl|rfl|rfl|rfl|rfl|rfl|rfl|rfl|rfl|rfl
  all_goals
   go_in
   go_wp2;go_ret;exact⟨rfl,rfl⟩
 have f:(a==1)=false:=by simp;omega
 have l:(a==2)=false:=by simp;omega
 have m:(a==3)=false:=by simp;omega
 have n:(a==4)=false:=by simp;omega
 have o:(a==5)=false:=by simp;omega
 have p:(a==6)=false:=by simp;omega
 have q:(a==7)=false:=by simp;omega
 have r:(a==8)=false:=by simp;omega
 have s:(a==9)=false:=by simp;omega
 have g:(a==10)=false:=by simp;omega
 have i:(a==11)=false:=by simp;omega
 have j:(a==12)=false:=by simp;omega
 have k:(a==13)=false:=by simp;omega
 have c:Hs (Kz a=⟨#[]⟩):=by
  show _=_;unfold Kz;rw[aM oM,aM oM,aM oM,aM oM,aM oM,aM oM,aM oM,aM oM,aM oM]
 go_in
 go_wp2;go_ret;exact⟨xU c.symm,rfl⟩
def d8(s:ByteArray)(f:Int):Bool:=s.data.toList.any λc=>(c.toNat:Int)==f
theorem Bz{s:ByteArray}(a:n<s.size)(h:(s[n].toNat:Int)=t):d8 s t=true:=by
 unfold d8;rw[List.any_eq_true];exact⟨s[n],by rw[nB];exact Array.getElem_mem a,by simp[h]⟩
theorem CR{s:ByteArray}(h:∀j (a:j<s.size),(s[j].toNat:Int)≠t):d8 s t=false:=by
 unfold d8;rw[List.any_eq_false];intro c b;obtain⟨j,a,rfl⟩:=Array.mem_iff_getElem.1<|nB.1 b;have:=h j a;rw[iA];exact this
theorem yD(a:Int):(Kz a).size<=3:=by
 unfold Kz
 repeat (split<;>try decide)
theorem U9(c f:Int)(w:World) :
 Calls prog 64 #[Hp c,.int .u8 f] w λe p=>e=.returned (.bool (d8 (Kz c) f))/\p=w:=by
 go_in
 go_wp2_with fail
 refine(ym _ _).mono ?_;rintro e t⟨rfl,rfl⟩;have r:=yD c;generalize l:Kz c=s at*;have g:=Xa l;clear l;go_wp2
 go_loop [6] (λi=>∃k:Nat,k<=s.size/\i=Hp k/\Hs (∀j (b:j<s.size),j<k->(s[j].toNat:Int)≠f)) λi=>s.size-(intOf i).toNat
 case atStart=>exact⟨0,aN _,rfl,λj b h=>absurd h oM⟩
 obtain⟨k,q,rfl,m⟩:=hrel;by_cases o:k<s.size
 .by_cases a:(s[k].toNat:Int)=f
  .have n:((s[k].toNat:Int)==f)=true:=by simp[a]
   have d:=Xa a;clear a;go_wp2;go_ret;exact⟨Xl (by rw[Xw g];exact(Bz o d).symm),rfl⟩
  have n:((s[k].toNat:Int)==f)=false:=by simp[a]
  have d:=Xa a;clear a;go_wp2
  go_round
  case rel=>exact⟨k+1,oM,gM,λj b h=>if e:j=k then by subst e;exact d else m j b oM⟩
  simp[intOf];omega
 go_wp2;go_ret;exact⟨Xl (by rw[Xw g];exact(CR λj b=>m j b oM).symm),rfl⟩
theorem Ef(a:Int):d8 (Kz a) 100=dB a:=by
 by_cases h:1<=a/\a<=13
 .have b:a=1\/a=2\/a=3\/a=4\/a=5\/a=6\/a=7\/a=8\/a=9\/a=10\/a=11\/a=12\/a=13:=oM;rcases b with rfl|rfl|rfl|rfl|rfl|rfl|rfl|rfl|rfl|rfl|rfl|rfl|rfl<;>rfl
 unfold Kz;rw[aM oM,aM oM,aM oM,aM oM,aM oM,aM oM,aM oM,aM oM,aM oM];simp only[d8,dB];rw[dJ oM,dJ oM,dJ oM];rfl
theorem DN(a:Int):d8 (Kz a) 97=aB a:=by
 by_cases h:1<=a/\a<=13
 .have b:a=1\/a=2\/a=3\/a=4\/a=5\/a=6\/a=7\/a=8\/a=9\/a=10\/a=11\/a=12\/a=13:=oM;rcases b with rfl|rfl|rfl|rfl|rfl|rfl|rfl|rfl|rfl|rfl|rfl|rfl|rfl<;>rfl
 unfold Kz;rw[aM oM,aM oM,aM oM,aM oM,aM oM,aM oM,aM oM,aM oM,aM oM];simp only[d8,aB];rw[dJ oM];rfl
theorem DF(a:Int):d8 (Kz a) 98=bB a:=by
 by_cases h:1<=a/\a<=13
 .have b:a=1\/a=2\/a=3\/a=4\/a=5\/a=6\/a=7\/a=8\/a=9\/a=10\/a=11\/a=12\/a=13:=oM;rcases b with rfl|rfl|rfl|rfl|rfl|rfl|rfl|rfl|rfl|rfl|rfl|rfl|rfl<;>rfl
 unfold Kz;rw[aM oM,aM oM,aM oM,aM oM,aM oM,aM oM,aM oM,aM oM,aM oM];simp only[d8,bB];rw[dJ oM,dJ oM];rfl
theorem ix(a:Int)(w:World):Calls prog 64 #[Hp a,.int .u8 100] w λe b=>e=.returned (.bool (dB a))/\b=w:=by rw[<-Ef];exact U9 a 100 w
theorem kh(a:Int)(w:World):Calls prog 64 #[Hp a,.int .u8 97] w λe b=>e=.returned (.bool (aB a))/\b=w:=by rw[<-DN];exact U9 a 97 w
theorem oH(a:Int)(w:World):Calls prog 64 #[Hp a,.int .u8 98] w λe b=>e=.returned (.bool (bB a))/\b=w:=by rw[<-DF];exact U9 a 98 w
theorem ZO(t:Yj)(w:World) :
 Calls prog 50 #[.agg #[Hp t.kind,Hp t.a,Hp t.to,Hp t.els]] w λj f=>∃g c,j=.returned (.slice g t.tg.length c)/\Below w.heap.size w f/\Xf f w.heap.size f.heap.size g t.tg:=by
 let⟨b,l,tg,k⟩:=t;by_cases d:b=1
 .subst d
  go_in
  go_wp2;go_ret;refine⟨_,_,rfl,Xb (Xb (Below.refl _ _) _) _,λi a=>?_⟩;simp[Yj.tg]at a;subst a;exact⟨_,_,rfl,⟨sP,sP⟩,by simp[Yj.tg]⟩
 by_cases e:b=2
 .subst e
  go_in
  go_wp2;go_ret;refine⟨_,_,rfl,Xb (Xb (Below.refl _ _) _) _,λi a=>?_⟩;simp[Yj.tg]at a
  match i,a with
  |0,_=>exact⟨_,_,rfl,⟨sP,sP⟩,by simp[Yj.tg]⟩
  |1,_=>exact⟨_,_,rfl,⟨sP,sP⟩,by simp[Yj.tg]⟩
 have e1:(b==1)=false:=by simp[d]
 have e2:(b==2)=false:=by simp[e]
 have h:(Yj.tg ⟨b,l,tg,k⟩)=[]:=by simp[Yj.tg,d,e]
 rw[h]
 go_in
 go_wp2;go_ret;exact⟨_,_,rfl,Xb (Xb (Below.refl _ _) _) _,λi a=>absurd a sP⟩
def To(b a x:Int):Bool:=decide (b<=x)&&decide (x<a)
theorem Cv(n d b a tg c:Int):Zu n d b ⟨1,a,tg,c⟩=(a==0&&To d b tg&&c==0):=by simp[Zu,Tp,To]
theorem Df(n b a c tg d:Int):Zu n b a ⟨2,c,tg,d⟩=(To 0 n c&&To b a tg&&To b a d):=by simp[Zu,Tp,To]
theorem C7(n d c a tg b:Int):Zu n d c ⟨3,a,tg,b⟩=(To 0 n a&&tg==0&&b==0):=by simp[Zu,Tp,To]
theorem qS{k a tg b:Int}(h:¬(1<=k/\k<=3)):Zu t T z ⟨k,a,tg,b⟩=false:=by
 unfold Zu;by_cases c:1<=k;·rw[dJ (p:=k<=3) oM];simp
 rw[dJ (p:=1<=k) c];simp
theorem XY{b:Type}{p:b->Bool}{a:List b}(c:n<a.length)(h:(a.take n).all p=true)(d:p a[n]=true):(a.take<|n+1).all p=true:=by
 rw[X7 a n c,List.all_append,h];simp[d]
theorem JN{a:Type}{p:a->Bool}{xs:List a}(b:k<xs.length)(c:p xs[k]=false):xs.all p=false:=by
 rw[lZ];exact⟨_,aH b,by simp[c]⟩
theorem YE{a:Type}{p:a->Bool}{xs:List a}(b:xs.length<=k)(h:(xs.take k).all p=true):xs.all p=true:=by
 rwa[aW b]at h
theorem Kj(e m tg p y low g:Int)(w:World)(a:List Int)(R:Bool)(q:Hs ((Yj.mk e m tg p).tg=a))(C:a.length<=2)(G:1<=e)(H:e<=3)
 (c1:Hs (e=1->m=0/\p=0)) (c3:Hs (e=3->tg=0/\p=0)) (c2:Hs (e≠1->0<=m/\m<y)) (l:Hs (a.all (To low g)=R)) :
 Calls prog 46 #[.agg #[Hp e,Hp m,Hp tg,Hp p],Hp y,Hp low,Hp g] w λo E=>o=.returned (.bool R)/\Below w.heap.size w E:=by
 have r:e=1\/e=2\/e=3:=oM;have F:=Xa C;rcases r with rfl|rfl|rfl
 .obtain⟨rfl,rfl⟩:=c1 rfl
  go_in
  go_wp2_with (go_at_call 50;refine(ZO ⟨_,_,_,_⟩ _).mono ?_;rintro o z⟨v,c,rfl,j,d⟩;rw[Xw q]at d |-;have n:=Xa d;clear d)
  go_loop [10] (λi=>∃k:Nat,k<=a.length/\i=Hp k/\Hs ((a.take k).all (To low g)=true)) λi=>a.length-(intOf i).toNat
  case atStart=>exact⟨0,aN _,rfl,rfl⟩
  obtain⟨k,x,rfl,h⟩:=hrel;by_cases f:k<a.length
  .obtain⟨b,D,rfl,_,r⟩:=n k f;by_cases s:low<=a[k]/\a[k]<g
   .let⟨t,u⟩:=s;go_wp2
    go_round
    case rel=>exact⟨k+1,oM,gM,XY f h<|by simp[To,t,u]⟩
    simp[intOf];omega
   go_wp2
   all_goals
    go_ret;exact⟨Xl (by rw[<-l.o];exact(JN f<|by unfold To;rw[jD,fC,fC];omega).symm),Xg (Xb (Below.refl _ _) _) j⟩
  go_wp2;go_ret;exact⟨Xl (by rw[<-l.o];exact(YE oM h).symm),Xg (Xb (Below.refl _ _) _) j⟩
 .let⟨A,B⟩:=c2 vZ
  go_in
  go_wp2_with (go_at_call 50;refine(ZO ⟨_,_,_,_⟩ _).mono ?_;rintro o z⟨v,c,rfl,j,d⟩;rw[Xw q]at d |-;have n:=Xa d;clear d)
  go_loop [10] (λi=>∃k:Nat,k<=a.length/\i=Hp k/\Hs ((a.take k).all (To low g)=true)) λi=>a.length-(intOf i).toNat
  case atStart=>exact⟨0,aN _,rfl,rfl⟩
  obtain⟨k,x,rfl,h⟩:=hrel;by_cases f:k<a.length
  .obtain⟨b,D,rfl,_,r⟩:=n k f;by_cases s:low<=a[k]/\a[k]<g
   .let⟨t,u⟩:=s;go_wp2
    go_round
    case rel=>exact⟨k+1,oM,gM,XY f h<|by simp[To,t,u]⟩
    simp[intOf];omega
   go_wp2
   all_goals
    go_ret;exact⟨Xl (by rw[<-l.o];exact(JN f<|by unfold To;rw[jD,fC,fC];omega).symm),Xg (Xb (Below.refl _ _) _) j⟩
  go_wp2;go_ret;exact⟨Xl (by rw[<-l.o];exact(YE oM h).symm),Xg (Xb (Below.refl _ _) _) j⟩
 let⟨A,B⟩:=c2 vZ;obtain⟨rfl,rfl⟩:=c3 rfl
 go_in
 go_wp2_with (go_at_call 50;refine(ZO ⟨_,_,_,_⟩ _).mono ?_;rintro o z⟨v,c,rfl,j,d⟩;rw[Xw q]at d |-;have n:=Xa d;clear d)
 go_loop [10] (λi=>∃k:Nat,k<=a.length/\i=Hp k/\Hs ((a.take k).all (To low g)=true)) λi=>a.length-(intOf i).toNat
 case atStart=>exact⟨0,aN _,rfl,rfl⟩
 obtain⟨k,x,rfl,h⟩:=hrel;by_cases f:k<a.length
 .have:=q.o;simp[Yj.tg]at this;subst this;simp at f
 go_wp2;go_ret;exact⟨Xl (by rw[<-l.o];exact(YE oM h).symm),Xg (Xb (Below.refl _ _) _) j⟩
theorem Ju(a c tg d n low i:Int)(w:World)(h:¬(1<=a/\a<=3)\/(a=1/\¬(c=0/\d=0))\/(a=3/\¬(tg=0/\d=0))\/(1<=a/\a<=3/\a≠1/\¬(0<=c/\c<n))) :
 Calls prog 46 #[.agg #[Hp a,Hp c,Hp tg,Hp d],Hp n,Hp low,Hp i] w λj l=>j=.returned (.bool false)/\Below w.heap.size w l:=by
 by_cases f:1<=a/\a<=3
 .have k:a=1\/a=2\/a=3:=oM;rcases k with rfl|rfl|rfl
  .have b:¬(c=0/\d=0):=oM;by_cases e:c=0
   .subst e;have g:(d != 0)=true:=by simp at b;simp[b]
    go_in
    go_wp2;go_ret;exact⟨rfl,Xb (Below.refl _ _) _⟩
   have g:(c != 0)=true:=by simp[e]
   go_in
   go_wp2;go_ret;exact⟨rfl,Xb (Below.refl _ _) _⟩
  .have b:c<0\/n<=c:=oM
   go_in
   go_wp2
   all_goals
    go_ret;exact⟨rfl,Xb (Below.refl _ _) _⟩
  by_cases b:tg=0/\d=0
  .obtain⟨rfl,rfl⟩:=b;have b:c<0\/n<=c:=oM
   go_in
   go_wp2
   all_goals
    go_ret;exact⟨rfl,Xb (Below.refl _ _) _⟩
  clear h f;by_cases e:tg=0
  .subst e;have g:(d != 0)=true:=by simp at b;simp[b]
   go_in
   go_wp2;go_ret;exact⟨rfl,Xb (Below.refl _ _) _⟩
  have g:(tg != 0)=true:=by simp[e]
  go_in
  go_wp2;go_ret;exact⟨rfl,Xb (Below.refl _ _) _⟩
 have b:a<1\/3<a:=oM
 go_in
 go_wp2
 all_goals
  go_ret;exact⟨rfl,Xb (Below.refl _ _) _⟩
theorem KS(d a tg b n low c:Int)(w:World) :
 Calls prog 46 #[.agg #[Hp d,Hp a,Hp tg,Hp b],Hp n,Hp low,Hp c] w λe k=>e=.returned (.bool (Zu n low c ⟨d,a,tg,b⟩))/\Below w.heap.size w k:=by
 by_cases i:1<=d/\d<=3
 .have j:d=1\/d=2\/d=3:=oM;rcases j with rfl|rfl|rfl
  .rw[Cv];by_cases h:a=0/\b=0;·exact Kj 1 a tg b n low c w [tg] _ rfl sP vZ vZ (λ_=>h) (λe=>oM) (λe=>absurd rfl e) (by obtain⟨rfl,rfl⟩:=h;show _=_;simp)
   have e:(a==0&&To low c tg&&b==0)=false:=by
    by_cases f:a=0
    .have:b≠0:=λe=>h ⟨f,e⟩;simp[this]
    simp[f]
   rw[e];exact Ju 1 a tg b n low c w<|aZ (bC ⟨rfl,h⟩)
  .rw[Df];by_cases h:0<=a/\a<n;·exact Kj 2 a tg b n low c w [tg,b] _ rfl sP vZ vZ (λe=>oM) (λe=>oM) (λ_=>h) (by show _=_;simp[To,h.1,h.2])
   have e:To 0 n a=false:=by unfold To;rw[jD,fC,fC];omega
   rw[e];exact Ju 2 a tg b n low c w oM
  rw[C7];by_cases h:0<=a/\a<n
  .by_cases g:tg=0/\b=0;·exact Kj 3 a tg b n low c w [] _ rfl sP vZ vZ (λe=>oM) (λ_=>g) (λ_=>h) (by obtain⟨rfl,rfl⟩:=g;show _=_;simp[To,h.1,h.2])
   have e:(To 0 n a&&tg==0&&b==0)=false:=by
    by_cases f:tg=0
    .have:b≠0:=λe=>g ⟨f,e⟩;simp[this]
    simp[f]
   rw[e];exact Ju 3 a tg b n low c w oM
  have e:To 0 n a=false:=by unfold To;rw[jD,fC,fC];omega
  rw[e];exact Ju 3 a tg b n low c w oM
 rw[qS i];exact Ju d a tg b n low c w<|bC i
def Bs(a:List Int)(x:Int):Bool:=a.contains x
theorem mq(l:Option Addr)(n c:Nat)(x:Int)(a:List Int)(L B:Nat)(w:World)(ha:Hs (Xf w L B l a))(q:Hs (n=a.length))(v:n<=100000000) :
 Calls prog 49 #[.slice l n c,Hp x] w λe s=>e=.returned (.bool (Bs a x))/\s=w:=by
 go_in
 go_wp2
 go_loop [5] (λi=>∃k:Nat,k<=n/\i=Hp k/\Hs (∀j (h:j<a.length),j<k->a[j]≠x)) λi=>n-(intOf i).toNat
 case atStart=>exact⟨0,aN _,rfl,λj f h=>absurd h oM⟩
 obtain⟨k,t,rfl,p⟩:=hrel;by_cases u:k<n
 .have o:k<a.length:=oN q.o;obtain⟨b,y,rfl,_,m⟩:=ha k o;by_cases d:a[k]=x
  .have r:(a[k]==x)=true:=by simp[d]
   have g:=Xa d;go_wp2;go_ret;exact⟨Xl (by unfold Bs;rw[nJ,eY,<-g.o];exact aH o),rfl⟩
  have r:(a[k]==x)=false:=by simp[d]
  have g:=Xa d;go_wp2
  go_round
  case rel=>exact⟨k+1,oM,gM,λj f h=>if e:j=k then by subst e;exact g else p j f oM⟩
  simp[intOf];omega
 go_wp2;go_ret
 exact⟨Xl (by
  rw[nJ,lY];intro m;let⟨j,f,e⟩:=bR (eY.1<|show a.contains x=true from m);exact p j f (oN q.o) e),rfl⟩
theorem YF(b:Option Addr)(n c:Nat)(x:Int)(a:List Int)(L B:Nat)(w:World)(ha:Hs (Xf w L B b a))(d:Hs (n=a.length))(g:n<=1048576) :
 Calls prog 49 #[.slice b n c,Hp x] w λe f=>e=.returned (.bool (Bs a x))/\f=w :=
 mq b n c x a L B w ha d oM
theorem xG(t:Yj)(b:Int):t.tg.contains b=true↔(t.kind=1/\t.to=b)\/(t.kind=2/\(t.to=b\/t.els=b)):=by
 unfold Yj.tg;by_cases a:t.kind=1
 .rw[aU a];simp only[a,true_and,eY,cS];constructor;·intro h;exact bC h.symm
  rintro(h|⟨h,_⟩);·exact h.symm
  omega
 rw[aM a];by_cases c:t.kind=2
 .rw[aU c];simp only[c,true_and,eY,cH,eA,lL];constructor
  .rintro(h|h);·exact aZ<|bC h.symm
   exact aZ<|aZ h.symm
  rintro(⟨h,_⟩|h|h);·omega
  .exact bC h.symm
  exact aZ h.symm
 rw[aM c];simp[a,c]
theorem ZK(x:Xe)(b:Int):∀(a:List Xe)(i:Nat),AQ (a++[x]) i b=AQ a i b++(if x.te.tg.contains b then [((i+a.length:Nat):Int)]else [])
 |[],i=>by simp[AQ]
 |y::ys,i=>by
  simp only[cW,AQ];have e:i+1+ys.length=i+(ys.length+1):=oM;rw[ZK x b ys<|i+1,cK,e,bA]
theorem YO(b:Int):∀(a:List Xe)(i:Nat),(AQ a i b).length<=a.length
 |[],_=>aA _
 |y::ys,i=>by
  simp only[AQ,aQ,bA];have:=YO b ys<|i+1;split<;>simp<;>omega
theorem Xk{xs:List Int}(h:w.ownsRow n m 1 a k (xs.map<|Value.int .i64)):∃e c,a=.slice e xs.length c/\Xf w n w.heap.size e xs:=by
 obtain⟨d,h|⟨o,r,l,rfl,p,g,s,_,q,j⟩⟩:=h
 .obtain⟨rfl,rfl⟩:=h;have:xs=[]:=by simpa using d
  subst this;exact⟨_,_,rfl,λi b=>absurd b sP⟩
 simp only[iN,bK]at d q j;subst d;refine⟨_,_,rfl,λi b=>⟨o,0,rfl,⟨p,?_⟩,?_⟩⟩;·exact(aS.1 g).1
 have f:(l.toList.take xs.length)[i]?=some (Hp xs[i]):=by rw[j];simp[b]
 rw[fH b]at f;simp only[World.cell?,g,aV];simpa using f
theorem YJ(c:w.grownBy v a.ownBlock)(d:w.ownsRow n m k a B y){b:Nat}(f:b<n)(e:b<w.heap.size):v.heap[b]?=w.heap[b]? :=
 c.block b e λh=>by have:=(d.lt b h.symm).1;omega
theorem Xy(h:Below n w v)(b:v.grownBy u a.ownBlock)(d:v.ownsRow m k B a g y)(i:n<=m)(e:n<=v.heap.size):Below n w u :=
 h.grown b e λf c=>by have:=(d.lt f c).1;omega
theorem K5(w:World)(o:Obj):((w.alloc o).alloc (.cells #[] 2)).ownsRow (w.heap.size+1) 2 1 (.slice (some ⟨w.heap.size+1,0,none⟩) 0 0) 0 []:=by
 have h:=eI (base:=w.heap.size+1) (e:=2) (size:=1) (w.alloc o) #[] 0 sP sP rfl;rw[aO]at h;exact h
theorem Yl(a:List Int)(x:Int):(a++[x]).map (Value.int .i64)=a.map (Value.int .i64)++[Hp x]:=sP
theorem ZE(W:Int)(m:Option Addr)(n c:Nat)(q:Int)(a:List Xe)(L B:Nat)(w:World)(ha:Hs (Xp w L B m a))(F:Hs (n=a.length))(hn:n<=1048576)(J:B<=w.heap.size) :
 Calls prog 47 #[.agg #[Hp W,.slice m n c],Hp q] w λo x=>∃y H,o=.returned (.slice y (AQ a 0 q).length H)/\Below w.heap.size w x/\Xf x w.heap.size x.heap.size y (AQ a 0 q):=by
 let⟨T,N,Q,R,S⟩:=fX Nv
 go_in
 go_wp2
 go_loopw [5,6] (λv u wr=>∃k:Nat,k<=n/\u=Hp k/\Below w.heap.size w wr/\w.heap.size<wr.heap.size/\wr.cell? (Hk w.heap.size 1)=some (.slice m n c)/\wr.ownsRow (w.heap.size+1) 2 1 v (AQ (a.take k) 0 q).length ((AQ (a.take k) 0 q).map (Value.int .i64))) λ_ u _=>n-(intOf u).toNat
 case atStart=>exact⟨0,aN _,rfl,Xb (Xb (Below.refl _ _) _) _,by simp;omega,sP,K5 _ _⟩
 obtain⟨k,hk,rfl,j,D,A,h⟩:=hrel;by_cases aa:k<n
 .have t:k<a.length:=oN F.o
  obtain⟨b,ac,rfl,⟨_,Z⟩,z⟩:=ha k t;let⟨pa,pc,ia,ic,_,_,⟨e2,e3,e4,e5⟩,_,_⟩:=z.keep (j.mono J) oM;have g:Hs (AQ (a.take<|k+1) 0 q=AQ (a.take k) 0 q++(if a[k].te.tg.contains q then [(k:Int)]else [])):=by
   show _=_;rw[X7 _ _ t,ZK];simp[jZ<|dU t]
  have ab:(AQ (a.take k) 0 q).length<=1048576:=by have:=YO q (a.take k) 0;simp at this;omega
  have e:=Xa h;have i:=Xa<|xG a[k].te q;generalize a[k]=X at*;by_cases d:X.te.tg.contains q=true
  .have l:Hs (AQ (a.take<|k+1) 0 q=AQ (a.take k) 0 q++[(k:Int)]):=by have:=g.o;rw[aU d]at this;exact this
   have p:=i.1 d;generalize AQ (a.take k) 0 q=V at*;have r:(X.te.kind=1/\X.te.to=q)\/(X.te.kind=2/\X.te.to=q)\/(X.te.kind=2/\X.te.to≠q/\X.te.els=q):=oM;rcases r with⟨d1,d2⟩|⟨d1,d2⟩|⟨d1,d3,d2⟩
   all_goals
    go_wp2_with (at_builtin;refine fT _ rfl _ _ 27 rfl (w.heap.size+1) 2 T (Hp 0) 1 8 underlying27 N Q R S rfl vZ _ _ _ rfl ((e.alloc _).alloc _) (Hk (wr.heap.size+1) 0) 1 1 [Hp k] rfl rfl ?c1 ?c2 ?c3 ?c4 ?c5 ?_)
    case c1=>
     intro U v f
     match U,f with
     |0,f=>simp at f;subst f;simp[Addr.add]
    case c2=>intro v E;simp at E;subst E;rfl
    case c3=>unfold maxLen;omega
    case c4=>omega
    case c5=>simp;omega
    intro v1 w1 C s _;have G:=Xa C;go_wp2;have K:=Xy (Xb (Xb j _) _) s ((e.alloc _).alloc _) oM (by simp;omega);have M:=YJ s ((e.alloc _).alloc _) (b:=w.heap.size) oM (by simp;omega);have P:=s.size;simp at P;exact⟨⟨k+1,oM,gM,K,oM,(Xc M).trans (oB (Xb (Xb (Below.refl wr.heap.size wr) _) _) A D),by rw[l.o,Yl];simpa using G.o⟩,by simp[intOf];omega⟩
  have l:Hs (AQ (a.take<|k+1) 0 q=AQ (a.take k) 0 q):=by have:=g.o;rw[aM d,fF]at this;exact this
  have p:¬((X.te.kind=1/\X.te.to=q)\/(X.te.kind=2/\(X.te.to=q\/X.te.els=q))):=λI=>d<|i.2 I
  generalize AQ (a.take k) 0 q=V at*;have r:(X.te.kind=1/\(X.te.to==q)=false)\/(X.te.kind=2/\(X.te.to==q)=false/\(X.te.els==q)=false)\/((X.te.kind==1)=false/\(X.te.kind==2)=false):=by
   simp only[iS];omega
  rcases r with⟨d1,d2⟩|⟨d1,d2,d3⟩|⟨d1,d2⟩
  all_goals
   go_wp2;exact⟨⟨k+1,oM,gM,Xb j _,by simp;omega,oB (Xb (Below.refl wr.heap.size wr) _) A D,by rw[l.o];exact e.alloc _⟩,by simp[intOf];omega⟩
 go_wp2;go_ret;have o:=aW (l:=a) (i:=k) (oN F.o);rw[o]at h;obtain⟨Y,c1,rfl,O⟩:=Xk h;exact⟨_,_,rfl,j,O.mono oM<|aA _⟩
section
structure Bf(w:World)(g K C:Nat)(W:Nat->Nat):Prop where
 le:K<=C
 ex:∃T:Nat->Value,w.rowIs g 154 C λi=>if i<K then .int .u64 (W i)else T i
namespace Bf
variable {w: World} {g K C: Nat} {W W': Nat -> Nat}
theorem lt(h:Bf w g K C W):g<w.heap.size:=by
 let⟨_,T,h⟩:=h;exact h.lt
theorem cell(h:Bf w g K C W){i:Nat}(a:i<K):w.cell? (Hk g i)=some (.int .u64 (W i)):=by
 let⟨b,T,h⟩:=h;have:=h.cell (i:=i) oM;rwa[aU a]at this
theorem frozen(h:Bf w g K C W)(i:Nat):w.frozen? (Hk g i)=false:=by
 let⟨_,T,h⟩:=h;exact h.frozen i
theorem congr(h:Bf w g K C W)(e:∀i,i<K->W i=W' i):Bf w g K C W':=by
 let⟨b,T,h⟩:=h;refine⟨b,T,h.congr λi _=>?_⟩;by_cases a:i<K;·rw[aU a,aU a,e i a]
 rw[aM a,aM a]
theorem of_block{a:World}(h:Bf w g K C W)(e:a.heap[g]?=w.heap[g]?):Bf a g K C W:=by
 let⟨b,T,h⟩:=h;exact⟨b,T,h.of_block e⟩
theorem set(h:Bf w g K C W)(i v:Nat)(b:i<K):Bf (w.setCell ⟨g,i,none⟩ (.int .u64 (v:Int))) g K C (λj=>if j=i then v else W j):=by
 let⟨a,T,h⟩:=h;refine⟨a,T,(h.set i _).congr λj _=>?_⟩;by_cases e:j=i;·rw[aU e,aU oM,aU e]
 rw[aM e,aM e]
theorem setOther(h:Bf w g K C W){a:Addr}(ha:g≠a.block)(v:Value):Bf (w.setCell a v) g K C W:=by
 let⟨b,T,h⟩:=h;exact⟨b,T,h.setOther ha v⟩
theorem alloc(h:Bf w g K C W)(o:Obj):Bf (w.alloc o) g K C W:=by
 let⟨a,T,h⟩:=h;exact⟨a,T,h.alloc o⟩
theorem drew(h:Bf w g K C W):Bf w.drew g K C W:=by
 let⟨a,T,h⟩:=h;exact⟨a,T,h.drew⟩
theorem of_row(h:w.rowIs g 154 K λi=>.int .u64 (W i)):Bf w g K K W :=
 ⟨aA _,λ_=>.int .u64 0,h.congr λi a=>by rw[aU a]⟩
theorem to_row(h:Bf w g K K W):w.rowIs g 154 K (λi=>.int .u64 (W i)):=by
 let⟨_,T,h⟩:=h;exact h.congr λi a=>by rw[aU a]
theorem of_own{c:Nat}{v:Value}{a:List Nat}(h:w.ownsRow c 154 1 v a.length (a.map λx:Nat=>Value.int .u64 (x:Int)))(p:v≠.slice none 0 0):∃g C,v=.slice (some ⟨g,0,none⟩) a.length C/\c<=g/\Bf w g a.length C (λi=>a.getD i 0):=by
 obtain⟨o,h|⟨g,k,b,rfl,m,n,l,_,f,j⟩⟩:=h;·exact absurd h.1 p
 simp only[iN]at o f j;refine⟨g,k,rfl,m,l,λi=>b[i]?.getD (.int .u64 0),b,n,f,λi q=>?_⟩;show b[i]?=some (if i<a.length then Value.int .u64 ((a.getD i 0:Nat):Int)else b[i]?.getD (.int .u64 0));by_cases e:i<a.length
 .rw[aU e];have d:(b.toList.take a.length)[i]?=some (Value.int .u64 (a[i]:Nat)):=by rw[j];simp[e]
  rw[fH e]at d;have e2:a.getD i 0=a[i]:=by simp[e]
  rw[e2];simpa using d
 rw[aM e];have:i<b.size:=oM;simp[this]
end Bf
end
theorem Nn:(prog.info? 154).map (λi=>(i.zero,i.size,i.bytes))=some (some<|.int .u64 0,1,8):=kR
theorem Ml(f:Nat)(h:f=78\/f=39)(g K x:Nat)(W:Nat->Nat)(w:World)(d:Hs (XA W))(b:Hs (w.rowIs g 154 K λj=>.int .u64 (W j)))(u:x<64*K)(hK:K<=1000):Calls prog f #[.agg #[Hl g K K],Hp x] w λe k=>e=.returned (.bool (Xh W x))/\Below w.heap.size w k:=by
 have n:=oF x;have p:=oE x;have hq:x/64<K:=oM;have s:x%64<64:=dS _ vZ;have a:=b.cell hq;have i:=b.lt;have q:=λo=>oB (Xb (Below.refl w.heap.size w) o) a i;have c:Hs ((bits .and .u64 ((W (x/64):Int)/2^(x%64)) 1==1)=Xh W x):=Xa<|rf (d _);generalize r:x/64=l at*;generalize t:x%64=v at*;generalize W l=m at*;rcases h with rfl|rfl
 go_in
 rotate_left
 go_in
 rotate_left
 all_goals (
  go_wp2;go_ret
  exact⟨wK c,Xb (Below.refl _ _) _⟩)
theorem MP(f:Nat)(c:f=86\/f=77\/f=90)(a:Nat)(w:World)(k:a<=60000):Calls prog f #[Hp a] w λe b=>∃g,e=.returned (.agg #[Hl g ((a+63)/64) ((a+63)/64)])/\w.heap.size<=g/\Below w.heap.size w b/\b.rowIs g 154 ((a+63)/64) (λ_=>.int .u64 ((0:Nat):Int)):=by
 have i:=fM (P:=prog) 57 154 (.int .u64 0) 8 underlying57 Nn rfl .i64 .i64 ((a+63)/64) oM oM;have hq:((a:Int)+63).tdiv 64=(((a+63)/64:Nat):Int):=by rw[fY oM];omega
 have j:((a:Int)+64-1)=(a:Int)+63:=oM;have hK:(a+63)/64<=1000:=oM;generalize (a+63)/64=K at*;rcases c with rfl|rfl|rfl
 go_in
 rotate_left
 go_in
 rotate_left
 go_in
 rotate_left
 all_goals (
  go_wp2;refine cC (v:=.agg #[Hl (w.heap.size+1) K K]) (by first|(simp[results,results86,go_sem];done)|(simp[results,results77,go_sem];done)|(simp[results,results90,go_sem];done)) rfl ?_;refine⟨w.heap.size+1,rfl,oM,Xb (Xb (Below.refl _ _) _) _,?_⟩;have d:=λh=>by
   have:=dG (w.alloc h) (.int .u64 0) K 154;rwa[aO]at this
  exact d _)
theorem Mg(f:Nat)(G:f=84\/f=79\/f=92)(g K C n c:Nat)(W:Nat->Nat)(o:Option Addr)(a:List Nat)(L B:Nat)(w:World)(ha:Hs (Xf w L B o<|a.map Int.ofNat))(v:Hs (n=a.length))(hn:n<=4000)(N:Hs (∀t∈a,t<64*K))(hK:K<=1000)(F:Hs (XA W))(s:Hs (Bf w g K C W))(X:B<=w.heap.size)(aa:¬(L<=g/\g<B)) :
 Calls prog f #[.agg #[Hl g K C],.slice o n c] w λe x=>e=.returned (.tuple #[])/\w.grownBy x (some g)/\Bf x g K C (C3 W a):=by
 rcases G with rfl|rfl|rfl
 go_in
 rotate_left
 go_in
 rotate_left
 go_in
 rotate_left
 all_goals (
  go_wp2;have hg:=s.lt
  go_loopw [8] (λu wr=>∃q:Nat,q<=n/\u=Hp q/\Hs (w.grownBy wr<|some g)/\wr.cell? (Hk w.heap.size 0)=some (Hl g K C)/\Hs (Bf wr g K C<|C3 W (a.take q))) λu _=>n-(intOf u).toNat
  case atStart=>exact⟨0,aN _,rfl,Xa<|bW _ _ _,sP,Xa<|s.alloc _⟩
  case round=>
   obtain⟨q,hq,rfl,j,M,d⟩:=hrel;by_cases ab:q<n
   .have m:q<a.length:=oN v.o
    obtain⟨b,P,rfl,Y,p⟩:=ha q (by simpa using m);have l:=(Xc<|j.block b oM λe=>by injection e with e;omega).trans p;rw[cM]at l;have af:=N _<|aH m;have A:=Xa<|VW (W:=W) m;have D:=Xa<|Zs (a.take q) F;generalize a[q]=t at*;have U:=oF t;have V:=oE t;have R:Cl wr b (P+q) (Hp t):=l;generalize C3 W (a.take q)=k at*;have r:t/64<K:=oM;have J:t%64<64:=dS _ vZ;have S:=d.cell r;have T:=d.frozen;have z:=Xa<|qI J (D<|t/64);have y:Hs (∀i,(if i=t/64 then k (t/64)|||2^(t%64)else k i)=C3 W (a.take<|q+1) i):=Xa (λi=>by
     rw[A.o];unfold YH;by_cases e:i=t/64;·rw[aU e,aU e,e]
     rw[aM e,aM e])
    generalize Z:t/64=h at*;generalize ac:t%64=Q at*;go_wp2;go_region;go_wp2;rw[z.o];have O:wr.grownBy (wr.setCell (Hk g h) (.int .u64 ((k h|||2^Q:Nat):Int))).drew (some g):=⟨rfl,rfl,rfl,by simp[World.setCell,World.drew],λal _ I=>Below.heap_setCell _ _ _ _ λe=>I<|by rw[e]⟩;refine⟨⟨q+1,oM,gM,Xa (j.andThen O λaj H=>by cases H;exact aZ rfl),?_,Xa ?_⟩,by simp[intOf];omega⟩;·exact(bH wr (Hk g h) (Hk w.heap.size 0) _ (by show g≠w.heap.size;omega)).trans M
    refine Bf.drew ((d.set h _ r).congr λi _=>?_);rw[<-y.o i]
   have ad:q=n:=oM;have E:Hs (a.take q=a):=Xa<|aW (oN v.o);rw[E.o]at d;go_wp2
   go_end0
   exact⟨rfl,j,d⟩)
theorem Mx(l:Nat)(L:l=87\/l=144)(g b c K C n k:Nat)(S O T:Nat->Nat)(w:World)(r:Hs (XA S))(m:Hs (XA O))(I:Hs (XA T))(hK:K<=1000)(z:Hs (Bf w g K C S))(y:Hs (Bf w b K n O))(A:Hs (Bf w c K k T))(H:c≠g)(R:Hs (b=g->S=O)) :
 Calls prog l #[.agg #[Hl g K C],.agg #[Hl b K n],.agg #[Hl c K k]] w λe B=>e=.returned (.bool (G8 S O T K))/\w.grownBy B (some g)/\Bf B g K C (Hv S O T):=by
 rcases L with rfl|rfl
 go_in
 rotate_left
 go_in
 rotate_left
 all_goals (
  go_wp2;have l1:=z.lt;have Y:=y.lt;have Z:=A.lt
  go_loopw [7,14] (λG u wr=>∃q:Nat,q<=K/\u=Hp q/\G=.bool (G8 S O T q)/\Hs (w.grownBy wr<|some g)/\wr.cell? (Hk w.heap.size 0)=some (Hl g K C)/\wr.cell? (Hk (w.heap.size+2) 0)=some (Hl c K k)/\Hs (Bf wr g K C λi=>if i<q then Hv S O T i else S i)) λ_ u _=>K-(intOf u).toNat
  case atStart=>exact⟨0,aN _,rfl,by rw[wH],Xa (((bW w _ _).andThen (bW _ _ _) λv d=>aZ d).andThen (bW _ _ _) λv d=>aZ d),by simp[go_sem],by simp[go_sem],Xa<|(((z.alloc _).alloc _).alloc _).congr λi _=>sP⟩
  case round=>
   obtain⟨q,hq,rfl,rfl,f,U,V,h⟩:=hrel;by_cases j:q<K
   .have e1:Cl wr g q (.int .u64 (S q)):=(h.cell j).trans sP
    have e3:=(Xc<|f.block c Z λe=>H<|by injection e).trans (A.cell j);have e2:wr.cell? (Hk b q)=some (.int .u64 (O q)):=by
     by_cases e:b=g;·rw[<-R.o e,e];exact e1
     exact(Xc<|f.block b Y λE=>e<|by injection E).trans (y.cell j)
    have ez:=h.frozen;have aa:=kM (O q) (T q) (m q) (I q);have P:O q&&&(18446744073709551615-T q)<18446744073709551616:=iC jB<|m q;have ab:bits .andNot .u64 ((O q&&&(18446744073709551615-T q):Nat):Int) (S q:Int)=((H7 S O T q:Nat):Int):=kM _ (S q) P (r q);have ac:bits .or .u64 (S q:Int) ((H7 S O T q:Nat):Int)=((Hv S O T q:Nat):Int):=u64_or_nat _ _ (r q) (WR m q);have o:=Xa<|wJ S O T q;have W:g≠w.heap.size:=oM;have X:g≠w.heap.size+2:=oM;have p:Hs (Bf (wr.setCell (Hk g q) (.int .u64 (Hv S O T q:Int))) g K C λi=>if i<q+1 then Hv S O T i else S i):=Xa ((h.set q _ j).congr (λi _=>by
     by_cases e:i=q;·subst e;simp
     rw[aM e];by_cases e2:i<q;·rw[aU e2,aU oM]
     rw[aM e2,aM oM]))
    have x:wr.grownBy (wr.setCell (Hk g q) (.int .u64 (Hv S O T q:Int))) (some g):=⟨rfl,rfl,rfl,by simp[World.setCell],λaf _ N=>Below.heap_setCell _ _ _ _ λe=>N<|by rw[e]⟩;have a:=Xa (f.andThen x λv d=>by cases d;exact aZ rfl);have s:=(bH wr (Hk g q) (Hk w.heap.size 0) (.int .u64 (Hv S O T q:Int)) W).trans U;have t:=(bH wr (Hk g q) (Hk (w.heap.size+2) 0) (.int .u64 (Hv S O T q:Int)) X).trans V;generalize J:O q&&&(18446744073709551615-T q)=ad at*;generalize Hv S O T q=Bq at*;generalize H7 S O T q=D at*;generalize S q=Sq at*;generalize O q=Oq at*;generalize T q=Tq at*;generalize G8 S O T q=F at*;cases F with
    |true=>
     go_wp2;go_region;go_wp2;exact⟨⟨q+1,oM,gM,by rw[o.o];rfl,Xa ⟨a.os,a.tape,a.output,a.size,a.block⟩,s,t,Xa p.drew⟩,by simp[intOf];omega⟩
    |false=>
     go_wp2;go_region;go_wp2;exact⟨⟨q+1,oM,gM,by rw[o.o];cases D<;>rfl,Xa ⟨a.os,a.tape,a.output,a.size,a.block⟩,s,t,Xa p.drew⟩,by simp[intOf];omega⟩
   have Q:q=K:=oM;subst Q;go_wp2;go_ret
   exact⟨rfl,f,h.congr λi M=>by rw[aU M]⟩)
abbrev Ty:=@MP 86<|bC rfl
abbrev ZG:=@Mg 84<|bC rfl
abbrev Tv:=@Mx 87<|bC rfl
end Go.Proofs.YtffcajcgkblkoaaGreatDoor
