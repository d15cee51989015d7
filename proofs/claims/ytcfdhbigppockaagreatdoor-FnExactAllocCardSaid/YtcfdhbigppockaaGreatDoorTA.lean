import Derived.WalkKit
import Derived.Below
import Derived.Deep.OwnRows
import Derived.Maps.AppendAt
import Derived.OpenShut
import Derived.Deep.RegionHeld
import Derived.WalkSmall
namespace Go.Proofs.YtcfdhbigppockaaGreatDoor
open Go.RowKit
abbrev Yt:=Exit->Act->World->Prop
abbrev Vw:=List (List UInt8)
abbrev Tf:=Act->World->Prop
abbrev Tm:=List (List Int)
abbrev Vp:=Nat->Nat->Nat
abbrev Tj:=Nat->List Int
abbrev Yr:=Nat->List Nat
abbrev Vy:=World->Prop
abbrev Uy:=Option Addr
abbrev Zh:=Array Value
abbrev Wo:=List Value
abbrev Wn:=List UInt8
abbrev Vu:=Nat->Value
abbrev Zz:=Array Bool
abbrev Zm:=Option Nat
abbrev Vv:=Nat->Prop
abbrev Ys:=Nat->Bool
abbrev Wc:=List Int
abbrev Wa:=List Nat
abbrev Wk:=Nat->Nat
abbrev Ym:=Nat->Int
abbrev Yh:=Program
abbrev Ub:=World
abbrev Uj:=Value
abbrev aA{a}:=@Nat.le_refl a
abbrev aC:=@List.getElem?_eq_getElem
abbrev aH:=@List.getElem_mem
abbrev aI:=@World.block_lt_of_cell?
abbrev aJ:=@Nat.le_trans
abbrev aM:=@if_neg
abbrev aN{a}:=@Nat.zero_le a
abbrev aO:=@World.size_alloc
abbrev aQ:=@List.length_append
abbrev aS:=@Array.getElem?_eq_some_iff
abbrev aU:=@if_pos
abbrev aV:=@Nat.zero_add
abbrev aW:=@List.take_of_length_le
abbrev aX:=@Nat.lt_of_lt_of_le
abbrev aY:=@List.mem_map
abbrev aZ:=@Or.inr
abbrev bA:=@List.length_cons
abbrev bC:=@Or.inl
abbrev bD:=@decide_eq_true_eq
abbrev bE:=@List.mem_range
abbrev bF:=@List.getD_eq_getElem?_getD
abbrev bG:=@List.map_append
abbrev bH:=@World.cell?_setCell_far
abbrev bI:=@List.getElem_set_ne
abbrev bJ:=@World.frozen?_of_block
abbrev bK:=@List.length_map
abbrev bL:=@List.length_set
abbrev bM:=@callsIn_wide
abbrev bN:=@List.take_succ_eq_append_getElem
abbrev bO:=@List.length_nil
abbrev bP:=@World.cell?_alloc_lt
abbrev bQ:=@AllReadyH.cons
abbrev bR:=@List.getElem_of_mem
abbrev bT:=@wpList_append_own_at
abbrev bU:=@List.mem_append
abbrev bV:=@List.mem_flatMap
abbrev bW:=@World.grownBy_alloc
abbrev bX:=@Int.eq_ofNat_of_zero_le
abbrev bY:=@Bool.and_eq_true
abbrev bZ:=@World.cell?_of_block
abbrev cC:=@bodyPost_ret
abbrev cH:=@List.mem_cons
abbrev cI:=@List.mem_cons_self
abbrev cJ{a b c d}:=@World.cell?_setCell_other a b c d
abbrev cK:=@List.append_assoc
abbrev cM:=@List.getElem_map
abbrev cN:=@List.mem_cons_of_mem
abbrev cQ:=@List.getElem_set_self
abbrev cS:=@List.mem_singleton
abbrev cV:=@List.getElem?_eq_some_iff
abbrev cW:=@List.cons_append
abbrev cX:=@Array.replicate_succ
abbrev cZ:=@Array.replicate_zero
abbrev dA{a b c d}:=@World.ownsRow_nil a b c d
abbrev dD:=@List.mem_append_left
abbrev dE:=@List.append_toArray
abbrev dF:=@IntKind.wrap_i64
abbrev dG:=@World.rowIs_made
abbrev dH:=@List.length_take
abbrev dI:=@Bool.or_eq_true
abbrev dJ:=@decide_eq_false
abbrev dK:=@List.getElem?_eq_none
abbrev dL:=@List.getElem?_append_left
abbrev dM:=@Int.toNat_natCast
abbrev dN:=@List.range_succ
abbrev dO:=@List.size_toArray
abbrev dP:=@List.push_toArray
abbrev dQ:=@Classical.byContradiction
abbrev dR:=@List.nil_append
abbrev dS:=@Nat.mod_lt
abbrev dT:=@List.foldl_append
abbrev dU:=@Nat.le_of_lt
abbrev dV:=@List.all_eq_true
abbrev dW:=@List.getElem_range
abbrev dX:=@List.getElem?_map
abbrev dY:=@AllReadyH.nil
abbrev dZ:=@List.getElem?_set_ne
abbrev eA:=@List.not_mem_nil
abbrev eB:=@decide_eq_true
abbrev eC:=@World.cell?_alloc_new
abbrev eH:=@List.map_cons
abbrev eI:=@World.ownsRow_lit
abbrev eJ:=@List.length_pos_of_mem
abbrev eK:=@World.rowIs_alloc
abbrev eM:=@List.getElem_cons_zero
abbrev eN:=@List.mem_of_getElem?
abbrev eQ:=@Bool.eq_iff_iff
abbrev eS:=@wpAnyH_ready
abbrev eU:=@List.filter_append
abbrev eV:=@List.getElem?_append_right
abbrev eW:=@Int.tmod_eq_emod_of_nonneg
abbrev eX:=@World.frozen?_setCell
abbrev eY:=@List.contains_iff_mem
abbrev eZ:=@List.flatMap_append
abbrev fA:=@List.getElem_append_left
abbrev fB:=@List.mem_append_right
abbrev fC:=@decide_eq_false_iff_not
abbrev fD:=@if_false
abbrev fE:=@List.mem_or_eq_of_mem_set
abbrev fF:=@List.append_nil
abbrev fG:=@List.mem_filter
abbrev fH:=@List.getElem?_take_of_lt
abbrev fI:=@congrArg
abbrev fJ:=@List.length_filter_le
abbrev fK:=@List.set_getElem_self
abbrev fL:=@List.nodup_cons
abbrev fM:=@run_make_row'
abbrev fN:=@List.getElem_append_right
abbrev fO:=@List.getElem_cons_succ
abbrev fP:=@List.length_erase_of_mem
abbrev fQ:=@World.cell?_setCell_same
abbrev fR:=@Int.toNat_of_nonneg
abbrev fS:=@ownsRow_setCell_other
abbrev fT:=@wpList_append_own
abbrev fV:=@of_decide_eq_true
abbrev fW:=@Nat.add_zero
abbrev fX:=@info_parts
abbrev fY:=@Int.tdiv_eq_ediv_of_nonneg
abbrev fZ:=@List.map_nil
abbrev gC:=@List.take_length
abbrev gE:=@List.set_set
abbrev gG:=@if_true
abbrev gH:=@List.map_congr_left
abbrev gI:=@List.length_range
abbrev gJ:=@Classical.choose_spec
abbrev gK:=@List.countP_eq_length_filter
abbrev gP:=@Exists.intro
abbrev gQ:=@Option.some.inj
abbrev gR:=@Option.getD_some
abbrev gU:=@Bool.not_eq_true
abbrev gV:=@results_none
abbrev gW:=@List.nodup_append
abbrev gX{a}:=@Nat.le_succ a
abbrev gY:=@List.pairwise_iff_getElem
abbrev gZ:=@List.drop_eq_getElem_cons
abbrev hH:=@List.take_append_drop
abbrev iA:=@beq_iff_eq
abbrev iC:=@Nat.lt_of_le_of_lt
abbrev iD:=@callsIn_of_wp
abbrev iE:=@List.eq_nil_of_length_eq_zero
abbrev iF:=@List.mem_erase_of_ne
abbrev iG:=@List.ext_getElem?
abbrev iH:=@Nat.testBit_two_pow_mul_add
abbrev iI:=@Array.getElem?_eq_none
abbrev iJ{a}:=@Nat.lt_succ_self a
abbrev iK:=@List.pairwise_flatMap
abbrev iL:=@World.cell?_setCell_same'
abbrev iM:=@List.foldl_cons
abbrev iN:=@Nat.mul_one
abbrev iO:=@List.mem_of_mem_take
abbrev iQ:=@List.getElem?_range
abbrev iS:=@beq_eq_false_iff_ne
abbrev iU:=@List.nodup_nil
abbrev iV:=@IntKind.wrap_u64
abbrev iW:=@List.filter_cons
abbrev iX:=@below_drewN
abbrev iY:=@wp_loop
abbrev iZ:=@Nat.div_div_eq_div_mul
abbrev jA:=@List.getElem?_drop
abbrev jB:=@Nat.and_le_left
abbrev jC:=@Prod.mk.injEq
abbrev jD:=@Bool.and_eq_false_iff
abbrev jE:=@Result.andThen_ok
abbrev jF:=@List.flatMap_cons
abbrev jG:=@List.getElem_take
abbrev jH:=@u64_and_nat
abbrev jI:=@Nat.mul_le_mul_right
abbrev jJ:=@bne_iff_ne
abbrev jK:=@Nat.add_mul
abbrev jL:=@Nat.one_mul
abbrev jM:=@Nat.mod_eq_of_lt
abbrev jN:=@List.map_toArray
abbrev jO:=@List.map_map
abbrev jP:=@Act.put_comm
abbrev jQ:=@List.length_reverse
abbrev jR:=@List.filter_sublist
abbrev jS:=@Array.size_setIfInBounds
abbrev jT:=@List.Pairwise.imp_of_mem
abbrev jU:=@Bool.or_false
abbrev jV:=@Bool.false_or
abbrev jW:=@Nat.testBit_and
abbrev jX:=@List.filter_nil
abbrev jY:=@Option.map_some
abbrev jZ:=@Nat.min_eq_left
abbrev kA:=@Ne.symm
abbrev kB:=@Int.natCast_add
abbrev kC:=@DataW.agg.injEq
abbrev kD:=@List.append_of_mem
abbrev kE:=@List.count_pos_iff
abbrev kF:=@Int.natCast_nonneg
abbrev kG:=@List.getElem?_set
abbrev kH:=@Nat.add_mod_right
abbrev kI:=@run_append_own_at
abbrev kJ:=@List.take_add_one
abbrev kK:=@List.countP_congr
abbrev kL:=@Nat.sub_self
abbrev kM:=@u64_andNot_nat
abbrev kN:=@List.length_replicate
abbrev kO:=@Nat.and_two_pow_sub_one_eq_mod
abbrev kQ:=@Nat.min_le_right
abbrev kS:=@List.nodup_range
abbrev kU:=@List.mem_reverse
abbrev kV:=@List.Nodup.length_le_of_subset
abbrev kW:=@Int.natCast_emod
abbrev kX:=@List.sum_cons
abbrev kY:=@List.pairwise_append
abbrev kZ:=@List.count_eq_zero_of_not_mem
abbrev lB:=@Nat.pow_lt_pow_right
abbrev lC:=@Nat.zero_mul
abbrev lG:=@Sem.run_bind
abbrev lH:=@Sem.run_pure
abbrev lI:=@List.range_add
abbrev lJ:=@World.grownBy.refl
abbrev lK:=@List.take_zero
abbrev lL:=@or_false
abbrev lM:=@Int.emod_lt_of_pos
abbrev lN:=@List.countP_append
abbrev lO:=@Nat.mul_le_mul
abbrev lQ:=@UInt8.toNat_lt
abbrev lS:=@List.find?_eq_none
abbrev lU:=@List.Pairwise.nil
abbrev lV:=@Bool.not_eq_true'
abbrev lW:=@List.filter_congr
abbrev lX:=@List.mem_finRange
abbrev lY:=@Bool.eq_false_iff
abbrev lZ:=@List.all_eq_false
abbrev mA:=@Nat.lt_trichotomy
abbrev mB:=@Int.emod_eq_of_lt
abbrev mC:=@List.length_filterMap_le
abbrev mD:=@List.prefix_refl
abbrev mE:=@DataW.trod_array
abbrev mF:=@List.length_drop
abbrev mG:=@List.ext_getElem
abbrev mH:=@Nat.lt_add_of_pos_right
abbrev mI:=@List.getElem?_replicate
abbrev mJ:=@List.filter_eq_nil_iff
abbrev mK:=@Addr.add_lit
abbrev mL:=@Nat.lt_or_ge
abbrev mM:=@List.getElem?_set_self
abbrev mN:=@List.map_set
abbrev mO:=@List.getElem_cons_drop
abbrev mP:=@List.drop_eq_nil_of_le
abbrev mQ:=@Nat.min_le_left
abbrev mR:=@Int.emod_nonneg
abbrev mS:=@World.var?_cell
abbrev mT:=@trodAll_cons_mk
abbrev mV:=@List.filterMap_append
abbrev mW:=@List.countP_le_length
abbrev mX:=@Array.getElem?_toList
abbrev mY:=@List.nodup_iff_count
abbrev mZ:=@List.perm_cons_erase
abbrev nA:=@size_madeCells
abbrev nB:=@Array.mem_toList_iff
abbrev nC:=@List.countP_pos_iff
abbrev nD:=@List.filterMap_cons
abbrev nE:=@Nat.testBit_two_pow
abbrev nF:=@Bool.or_comm
abbrev nG:=@wpList_plain
abbrev nH:=@wpIn_loop
abbrev nJ:=@eq_comm
abbrev oA (w v: World): Prop := Below w.1.size w v
abbrev Cl (w: World) (b o: Nat) (v: Value): Prop := w.cell? ⟨b, o, none⟩ = some v
def Hs(p:Prop):Prop:=p
theorem Hs.o{p:Prop}(h:Hs p):p:=h
abbrev Hk(b o:Nat):Addr:=⟨b,o,none⟩
abbrev Hl(b n c:Nat):Value:=.slice (some ⟨b,0,none⟩) n c
abbrev Hm(b o n c:Nat):Value:=.slice (some ⟨b,o,none⟩) n c
abbrev Hn(b:Nat):Value:=.pointer (some ⟨b,0,none⟩)
abbrev Ho(b o:Nat):Value:=.pointer (some ⟨b,o,none⟩)
abbrev Hp(n:Int):Value:=.int .i64 n
abbrev Hq:Value:=.slice none 0 0
abbrev Hr(w:World):Nat:=w.heap.size
theorem oM {p: Prop} (h: p := by omega): p := h
theorem vZ {p: Prop} (h: p := by kernel_rfl): p := h
theorem vY {p: Prop} (h: p := by decide): p := h
theorem sP {p: Prop} (h: p := by simp): p := h
theorem gM {p: Prop} (h: p := by go_num): p := h
theorem oN {p q: Prop} (h: q) (k: q → p := by intro _; omega): p := k h
theorem oP {p q r: Prop} (h: q) (h': r) (k: q → r → p := by intro _ _; omega): p := k h h'
theorem oR {p q r s: Prop} (h: q) (h': r) (h'': s) (k: q → r → s → p := by intro _ _ _; omega): p := k h h' h''
section
structure Yg where
 op:Int
 dst:Int
 a:Int
 b:Int
 imm:Int
abbrev Vr:=List Yg
structure Yj where
 kind:Int
 a:Int
 to:Int
 els:Int
structure Ph where
 dst:Int
 args:Wc
abbrev Za:=List Ph
structure Xe where
 ps:Za
 is:Vr
 te:Yj
abbrev Wi:=List Xe
structure Fn where
 values:Int
 blocks:Wi
def Yg.cells(x:Yg):Wo:=[.int .i64 x.1,.int .i64 x.2,.int .i64 x.a,.int .i64 x.b,.int .i64 x.5]
def Xf(w:Ub)(L B:Nat)(c:Uy)(a:Wc):Prop :=
 ∀i (h:i<a.length),∃b o,c=some ⟨b,o,none⟩/\(L<=b/\b<B)/\w.cell? ⟨b,o+i,none⟩=some (.int .i64 a[i])
def Jk(w:Ub)(b o:Nat)(x:Yg):Prop :=
 w.cell? ⟨b,o,none⟩=some (.int .i64 x.1)/\w.cell? ⟨b,o+1,none⟩=some (.int .i64 x.2)/\w.cell? ⟨b,o+2,none⟩=some (.int .i64 x.a) /\
 w.cell? ⟨b,o+3,none⟩=some (.int .i64 x.b)/\w.cell? ⟨b,o+4,none⟩=some (.int .i64 x.5)
def YY(w:Ub)(L B:Nat)(c:Uy)(a:Vr):Prop :=
 ∀i (h:i<a.length),∃b o,c=some ⟨b,o,none⟩/\(L<=b/\b<B)/\Jk w b (o+i*5) a[i]
def Va(w:Ub)(b o:Nat)(x:Yj):Prop :=
 w.cell? ⟨b,o,none⟩=some (.int .i64 x.1)/\w.cell? ⟨b,o+1,none⟩=some (.int .i64 x.a)/\w.cell? ⟨b,o+2,none⟩=some (.int .i64 x.3) /\
 w.cell? ⟨b,o+3,none⟩=some (.int .i64 x.4)
def ld(w:Ub)(L B b o:Nat)(x:Ph):Prop :=
 ∃a c,w.cell? ⟨b,o,none⟩=some (.int .i64 x.1)/\w.cell? ⟨b,o+1,none⟩=some (.slice a x.2.length c)/\Xf w L B a x.2
def Jw(w:Ub)(L B:Nat)(c:Uy)(a:Za):Prop :=
 ∀i (h:i<a.length),∃b o,c=some ⟨b,o,none⟩/\(L<=b/\b<B)/\ld w L B b (o+i*2) a[i]
def Tk(w:Ub)(L B b o:Nat)(x:Xe):Prop :=
 ∃c e a d,w.cell? ⟨b,o,none⟩=some (.slice c x.1.length e)/\w.cell? ⟨b,o+1,none⟩=some (.slice a x.2.length d) /\
  Va w b (o+2) x.3/\Jw w L B c x.1/\YY w L B a x.2
def Xp(w:Ub)(L B:Nat)(c:Uy)(a:Wi):Prop :=
 ∀i (h:i<a.length),∃b o,c=some ⟨b,o,none⟩/\(L<=b/\b<B)/\Tk w L B b (o+i*6) a[i]
theorem Xa{p:Prop}(h:p):Hs p:=h
theorem Xw{p:Prop}(h:Hs p):p:=h
theorem Xg{w w1 a:Ub}(h:Below w.1.size w w1)(k:Below w1.1.size w1 a):Below w.1.size w a:=h.trans<|k.mono h.4
theorem NC{W a:Ub}(c:Below W.1.size W a):(∀b o,b<W.1.size->a.cell? (Hk b o)=W.cell? (Hk b o))/\(∀b o,b<W.1.size->a.frozen? (Hk b o)=W.frozen? (Hk b o)) :=
 ⟨λb o h=>c.cell (p:=Hk b o) h,λb o h=>c.frozen (p:=Hk b o) h⟩
theorem Xb{w a:Ub}(h:Below w.1.size w a)(o:Obj):Below w.1.size w (a.alloc o):=h.alloc h.4 o
def ij(L:Nat)(w:Ub):Prop:=∀b o,L<=b->w.frozen? ⟨b,o,none⟩=false
theorem ij.start(w:Ub):ij w.1.size w:=λb o h=>by
 unfold World.frozen?;rw[iI<|by exact h]
theorem ij.alloc{L:Nat}{w:Ub}(h:ij L w)(c:Zh)(t:TypeId):ij L (w.alloc<|.cells c t):=λb o d=>by
 by_cases e:b<w.1.size;·rw[bJ (w:=w) (a:=(Hk b o)) (Below.heap_alloc _ _ _ e)];exact h b o d
 unfold World.frozen?;show(match (w.1.push<|.cells c t)[b]? with|some (.cells _ _ (lo,hi))=>decide (lo<=o)&&decide (o<hi)|_=>false)=false;rw[Array.getElem?_push];split
 .rename_i _ _ _ a;split at a;·cases a;simp
  rw[iI oM]at a;cases a
 rfl
theorem ij.setCell{L:Nat}{w:Ub}(h:ij L w)(p:Addr)(v:Uj):ij L (w.setCell p v):=λb o a=>by rw[eX];exact h b o a
variable {w w': Ub} {L B: Nat}
def YA(L B:Nat)(w w':Ub):Prop:=∀k,L<=k->k<B->w'.1[k]?=w.1[k]?
theorem YA.of_below(k:Below B w w'):YA L B w w':=λi _ h=>k.5 i h
theorem YA.mono{b a:Nat}(h:YA L B w w')(l:L<=b)(k:a<=B):YA b a w w':=λi c d=>h i oM oM
theorem YA.trans{c:Ub}(h:YA L B w w')(k:YA L B w' c):YA L B w c:=λi a b=>(k i a b).trans (h i a b)
theorem Xc{b o:Nat}(h:w'.1[b]?=w.1[b]?):w'.cell? (Hk b o)=w.cell? (Hk b o):=bZ (w:=w) h
theorem Xf.keepS{b:Uy}{d:Wc}(h:Xf w L B b d)(k:YA L B w w'):Xf w' L B b d:=λi g=>by
 let⟨c,o,e,a,f⟩:=h i g;exact⟨c,o,e,a,by rw[Xc<|k c a.1 a.2];exact f⟩
theorem Jk.keepS{b o:Nat}{x:Yg}(h:Jk w b o x)(k:w'.1[b]?=w.1[b]?):Jk w' b o x:=by
 let⟨a,c,d,e,f⟩:=h;exact⟨(Xc k).trans a,(Xc k).trans c,(Xc k).trans d,(Xc k).trans e,(Xc k).trans f⟩
theorem Va.keepS{b o:Nat}{x:Yj}(h:Va w b o x)(k:w'.1[b]?=w.1[b]?):Va w' b o x:=by
 let⟨a,c,d,e⟩:=h;exact⟨(Xc k).trans a,(Xc k).trans c,(Xc k).trans d,(Xc k).trans e⟩
theorem YY.keepS{b:Uy}{d:Vr}(h:YY w L B b d)(k:YA L B w w'):YY w' L B b d:=λi g=>by
 let⟨c,o,e,a,f⟩:=h i g;exact⟨c,o,e,a,f.keepS<|k c a.1 a.2⟩
theorem ld.keepS{b o:Nat}{x:Ph}(h:ld w L B b o x)(k:YA L B w w')(e:w'.1[b]?=w.1[b]?):ld w' L B b o x:=by
 let⟨a,c,d,f,g⟩:=h;exact⟨a,c,(Xc e).trans d,(Xc e).trans f,g.keepS k⟩
theorem Jw.keepS{b:Uy}{d:Za}(h:Jw w L B b d)(k:YA L B w w'):Jw w' L B b d:=λi g=>by
 let⟨c,o,e,a,f⟩:=h i g;exact⟨c,o,e,a,f.keepS k<|k c a.1 a.2⟩
theorem Tk.keepS{b o:Nat}{x:Xe}(h:Tk w L B b o x)(k:YA L B w w')(e:w'.1[b]?=w.1[b]?):Tk w' L B b o x:=by
 let⟨l,m,i,j,a,c,d,f,g⟩:=h;exact⟨l,m,i,j,(Xc e).trans a,(Xc e).trans c,d.keepS e,f.keepS k,g.keepS k⟩
theorem Xp.keepS{b:Uy}{d:Wi}(h:Xp w L B b d)(k:YA L B w w'):Xp w' L B b d:=λi g=>by
 let⟨c,o,e,a,f⟩:=h i g;exact⟨c,o,e,a,f.keepS k<|k c a.1 a.2⟩
theorem Xf.keep{a:Uy}{b:Wc}(h:Xf w L B a b)(k:Below B w w'):Xf w' L B a b:=h.keepS<|YA.of_below k
theorem Jk.keep{b o:Nat}{x:Yg}(h:Jk w b o x)(k:Below B w w')(a:b<B):Jk w' b o x:=h.keepS<|k.5 b a
theorem YY.keep{a:Uy}{b:Vr}(h:YY w L B a b)(k:Below B w w'):YY w' L B a b:=h.keepS<|YA.of_below k
theorem Jw.keep{a:Uy}{b:Za}(h:Jw w L B a b)(k:Below B w w'):Jw w' L B a b:=h.keepS<|YA.of_below k
theorem Tk.keep{b o:Nat}{x:Xe}(h:Tk w L B b o x)(k:Below B w w')(a:b<B):Tk w' L B b o x:=h.keepS (YA.of_below k) (k.5 b a)
theorem Xp.keep{a:Uy}{b:Wi}(h:Xp w L B a b)(k:Below B w w'):Xp w' L B a b:=h.keepS<|YA.of_below k
theorem Xf.mono{b a:Nat}{c:Uy}{d:Wc}(h:Xf w L B c d)(m:b<=L)(l:B<=a):Xf w b a c d:=λj i=>by
 let⟨e,o,f,k,g⟩:=h j i;exact⟨e,o,f,oM,g⟩
theorem YY.mono{b a:Nat}{c:Uy}{d:Vr}(h:YY w L B c d)(m:b<=L)(l:B<=a):YY w b a c d:=λj i=>by
 let⟨e,o,f,k,g⟩:=h j i;exact⟨e,o,f,oM,g⟩
theorem ld.mono{b a:Nat}{d o:Nat}{x:Ph}(h:ld w L B d o x)(l:b<=L)(k:B<=a):ld w b a d o x:=by
 let⟨e,c,f,g,i⟩:=h;exact⟨e,c,f,g,i.mono l k⟩
theorem Jw.mono{b a:Nat}{c:Uy}{d:Za}(h:Jw w L B c d)(l:b<=L)(k:B<=a):Jw w b a c d:=λj i=>by
 let⟨e,o,f,m,g⟩:=h j i;exact⟨e,o,f,oM,g.mono l k⟩
theorem Tk.mono{b a:Nat}{c o:Nat}{x:Xe}(h:Tk w L B c o x)(l:b<=L)(k:B<=a):Tk w b a c o x:=by
 let⟨n,p,j,m,d,e,f,g,i⟩:=h;exact⟨n,p,j,m,d,e,f,g.mono l k,i.mono l k⟩
theorem Xp.mono{b a:Nat}{c:Uy}{d:Wi}(h:Xp w L B c d)(l:b<=L)(k:B<=a):Xp w b a c d:=λj i=>by
 let⟨e,o,f,m,g⟩:=h j i;exact⟨e,o,f,oM,g.mono l k⟩
end
theorem xA{α:Type}{xs:List α}{i:Nat}(h:i<xs.toArray.size):xs.toArray[i]=xs[i]'(by simpa using h):=rfl
theorem xB{α:Type}{a:α}{ys:List α}{h:0<(a::ys).length}:(a::ys)[0]=a:=rfl
theorem xC{α:Type}{a:α}{ys:List α}{i:Nat}{h:i+1<(a::ys).length}:(a::ys)[i+1]=ys[i]'(Nat.lt_of_succ_lt_succ h):=rfl
theorem xD{α:Type}{l:List α}{i:Nat}{a:α}:l.toArray.setIfInBounds i a=(l.set i a).toArray:=List.setIfInBounds_toArray ..
theorem xE{α:Type}{x:α}{xs:List α}{a:α}:(x::xs).set 0 a=a::xs:=rfl
theorem xF{α:Type}{x:α}{xs:List α}{i:Nat}{a:α}:(x::xs).set (i+1) a=x::xs.set i a:=rfl
theorem X0{P:Program}{md:Region.Mode}{ops:Array Oper}{Q:Exit->Act->World->Prop}{S:World->Prop}(i:Nat){oi:Oper}{v:Value}{fuel:Nat}{listed:Array Bool}{a b:Act}{w:World}(h:wpAnyH P md ops Q S fuel (listed.setIfInBounds i true) b w)(hi:ops[i]?=some oi:=by exact rfl)(hw:Region.wanted oi (yielded ops a.1)=true:=by rfl)(hy:∀(w:World),S w->Sem.run P (execOp a.eval oi) w=Result.ok (Next.value v) w:=by intro w hSw;(try dsimp only at hSw);go_simp;try with_reducible rfl)(hp:a.put oi.1 v=b:=by(simp only[Act.put,xA,xB,xC,xD,xE,xF]);exact rfl)(hq:∀c a w,Q (.panic c) (a.put oi.1 v) w->Q (.panic c) a w:=by exact(λ_ _ _ h=>hQ.o _ _ _ _ _ h))(hs:Region.noSelect ops=true:=by kernel_rfl)(hf:Region.free md ops listed i=true:=by kernel_rfl)(hr:(Region.ready md ops listed).contains i=true:=by kernel_rfl)(hS:S w:=by assumption):wpAnyH P md ops Q S (fuel+1) listed a w:=wpAnyH_take hi hs hf hr hq (Or.inl ⟨hw,hy⟩) hS (hp▸h)
theorem Xn{P:Program}{md:Region.Mode}{ops:Array Oper}{Q:Exit->Act->World->Prop}{S:World->Prop}(i:Nat){oi:Oper}{v:Value}{fuel:Nat}{listed:Array Bool}{a b:Act}{w:World}(h:wpAnyH P md ops Q S fuel (listed.setIfInBounds i true) b w)(hi:ops[i]?=some oi:=by exact rfl)(hw:Region.wanted oi (yielded ops a.1)=true:=by rfl)(hy:∀(w:World),S w->Sem.run P (execOp a.eval oi) w=Result.ok (Next.value v) w:=by intro w hSw;(try dsimp only at hSw);go_simp;try with_reducible rfl)(hp:a.put oi.1 v=b:=by(simp only[Act.put,xA,xB,xC,xD,xE,xF]);exact rfl)(hq:∀c a w,Q (.panic c) (a.put oi.1 v) w->Q (.panic c) a w:=by exact λ_ _ _ h=>h)(hs:Region.noSelect ops=true:=by kernel_rfl)(hf:Region.free md ops listed i=true:=by kernel_rfl)(hr:(Region.ready md ops listed).contains i=true:=by kernel_rfl)(hS:S w:=by assumption):wpAnyH P md ops Q S (fuel+1) listed a w:=wpAnyH_take hi hs hf hr hq (Or.inl ⟨hw,hy⟩) hS (hp▸h)
theorem KH{P:Program}{md:Region.Mode}{ops:Array Oper}{Q:Exit->Act->World->Prop}{S:World->Prop}(i:Nat){oi:Oper}{fuel:Nat}{listed:Array Bool}{a b:Act}{w:World}(h:wpAnyH P md ops Q S fuel (listed.setIfInBounds i true) b w)(hi:ops[i]?=some oi:=by exact rfl)(hw:Region.wanted oi (yielded ops a.1)=false:=by rfl)(hp:a.put oi.1 undef=b:=by(simp only[Act.put,xA,xB,xC,xD,xE,xF]);exact rfl)(hq:∀c a w,Q (.panic c) (a.put oi.1 undef) w->Q (.panic c) a w:=by exact λ_ _ _ h=>h)(hs:Region.noSelect ops=true:=by kernel_rfl)(hf:Region.free md ops listed i=true:=by kernel_rfl)(hr:(Region.ready md ops listed).contains i=true:=by kernel_rfl)(hS:S w:=by assumption):wpAnyH P md ops Q S (fuel+1) listed a w:=wpAnyH_take hi hs hf hr hq (Or.inr ⟨hw,rfl⟩) hS (hp▸h)
theorem tX{P:Program}{md:Region.Mode}{ops:Array Oper}{Q:Exit->Act->World->Prop}{S:World->Prop}(i:Nat){oi:Oper}{fuel:Nat}{listed:Array Bool}{a b:Act}{w:World}(h:wpAnyH P md ops Q S fuel (listed.setIfInBounds i true) b w)(hi:ops[i]?=some oi:=by exact rfl)(hw:Region.wanted oi (yielded ops a.1)=false:=by rfl)(hp:a.put oi.1 undef=b:=by(simp only[Act.put,xA,xB,xC,xD,xE,xF]);exact rfl)(hq:∀c a w,Q (.panic c) (a.put oi.1 undef) w->Q (.panic c) a w:=by exact(λ_ _ _ h=>hQ.o _ _ _ _ _ h))(hs:Region.noSelect ops=true:=by kernel_rfl)(hf:Region.free md ops listed i=true:=by kernel_rfl)(hr:(Region.ready md ops listed).contains i=true:=by kernel_rfl)(hS:S w:=by assumption):wpAnyH P md ops Q S (fuel+1) listed a w:=wpAnyH_take hi hs hf hr hq (Or.inr ⟨hw,rfl⟩) hS (hp▸h)
theorem Xs{P:Program}{md:Region.Mode}{ops:Array Oper}{Q:Exit->Act->World->Prop}{S:World->Prop}(i:Nat){oi:Oper}{fuel:Nat}{listed:Array Bool}{a:Act}{w:World}(h:∀K':Act->World->Prop,Shut (∀a w,S w->∀{b:Act},(S w->wpAnyH P md ops Q S fuel (listed.setIfInBounds i true) b w)->(hp:a=b:=by(try simp only[Act.put,xA,xB,xC,xD,xE,xF]);exact rfl)->K' a w)->if Region.wanted oi (yielded ops a.1)=true then Oper.wp P oi a w K' Q else K' (a.put oi.1 undef) w)(hi:ops[i]?=some oi:=by exact rfl)(hr:Region.ready md ops listed=[i]:=by kernel_rfl):wpAnyH P md ops Q S (fuel+1) listed a w:=wpAnyH_ready (rs:=[i]) hr (by simp) (AllReadyH.cons hi (λK hK=>h K λa w hs b k hp=>hK a w hs (hp▸k)) AllReadyH.nil)
theorem Y7{P:Program}{ops:Array Oper}{Q:Exit->Act->World->Prop}(S:World->Prop){id:Nat}{a:Act}{w:World}(h:S w.drew->wpAnyH P .any ops Q S ops.size (Array.replicate ops.size false) a w.drew)(hS:S w.drew:=by first|with_reducible exact True.intro|((try dsimp only);go_keep))(hm:P.follows .mixedOrders=true:=by kernel_rfl):(Code.region id ops true).wp P Q a w:=wp_region_held_drew hm hS h
theorem Yq{P:Program}{md:Region.Mode}{ops:Array Oper}{Q:Exit->Act->World->Prop}{S:World->Prop}{listed:Array Bool}{a:Act}{w:World}{fuel:Nat}(h:Q .normal a w)(hr:Region.ready md ops listed=[]:=by kernel_rfl):wpAnyH P md ops Q S fuel listed a w:=wpAnyH_done hr h fuel
theorem kP{S:Prop}(h:S:=by first|with_reducible exact hHeld|((try dsimp only);go_keep)):S:=h
theorem XU{n:Nat}{w w':World}(k:Below n w w'){b o:Nat}(hb:b<n):w'.cell? (Hk b o)=w.cell? (Hk b o):=k.cell (p:=⟨b,o,none⟩) hb
theorem oB {n: Nat} {w v: World} {b o: Nat} {x: Option Value} (k: Below n w v) (e: w.cell? ⟨b, o, none⟩ = x) (hb: b < n): v.cell? ⟨b, o, none⟩ = x := (k.cell (p := ⟨b, o, none⟩) hb).trans e
abbrev xX := And.intro @Act.put.eq_1 (And.intro @Act.put.eq_2 (And.intro @xA (And.intro @xB (And.intro @xC (And.intro @xD (And.intro @xE @xF))))))
abbrev xY := And.intro @dO.{0} (And.intro @bA.{0} (And.intro @bO.{0} (And.intro @cX.{0} (And.intro @cZ.{0} (And.intro @dP.{0} (And.intro @dE.{0} (And.intro @dR.{0} @cW.{0})))))))
end Go.Proofs.YtcfdhbigppockaaGreatDoor
