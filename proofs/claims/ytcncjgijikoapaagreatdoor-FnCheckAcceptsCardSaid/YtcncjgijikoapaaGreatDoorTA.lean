import Derived.Deep.AppendLies
import Derived.WalkKit
import Derived.Below
import Derived.Deep.OwnRows
import Derived.Maps.AppendAt
import Derived.OpenShut
import Derived.Deep.RegionHeld
import Derived.WalkSmall
namespace Go.Proofs.YtcncjgijikoapaaGreatDoor
open Go renaming World.cell?->E,IntKind.i64->S6,World.alloc->D,RowKit.Below->Sw,undef->Su
open _root_ renaming Nat->N,Int->I,Option.some->S,Option.none->U,Array.size->Z,List.length->J,rfl->R,Bool.true->So,Bool.false->Sn
open Value renaming slice->X,int->Si,pointer->Sj
open Go.RowKit
abbrev XE:=@World.news_of_block
abbrev XC:=@step_append_lies
abbrev Yt:=Exit->Act->World->Prop
abbrev Tf:=Act->World->Prop
abbrev Tm:=List (List I)
abbrev Vp:=N->N->N
abbrev Tj:=N->List I
abbrev Yr:=N->List N
abbrev Vy:=World->Prop
abbrev Uy:=Option Addr
abbrev Zh:=Array Value
abbrev Wo:=List Value
abbrev Wn:=List UInt8
abbrev Vu:=N->Value
abbrev Zz:=Array Bool
abbrev Zm:=Option N
abbrev Vv:=N->Prop
abbrev Ys:=N->Bool
abbrev Wc:=List I
abbrev Wa:=List N
abbrev Wk:=N->N
abbrev Ym:=N->I
abbrev Yh:=Program
abbrev Ub:=World
abbrev Uj:=Value
abbrev aA{a}:=@Nat.le_refl a
abbrev aC:=@List.getElem?_eq_getElem
abbrev aH:=@List.getElem_mem
abbrev aI:=@World.block_lt_of_cell?
abbrev aJ:=@Nat.le_trans
abbrev aM:=@if_neg
abbrev aN{a}:=@Nat.zero_le a
abbrev aO:=@World.size_alloc
abbrev aQ:=@List.length_append
abbrev aS:=@Array.getElem?_eq_some_iff
abbrev aU:=@if_pos
abbrev aV:=@Nat.zero_add
abbrev aW:=@List.take_of_length_le
abbrev aX:=@Nat.lt_of_lt_of_le
abbrev aY:=@List.mem_map
abbrev aZ:=@Or.inr
abbrev bA:=@List.length_cons
abbrev bC:=@Or.inl
abbrev bD:=@decide_eq_true_eq
abbrev bE:=@List.mem_range
abbrev bF:=@List.getD_eq_getElem?_getD
abbrev bG:=@List.map_append
abbrev bH:=@World.cell?_setCell_far
abbrev bI:=@List.getElem_set_ne
abbrev bJ:=@World.frozen?_of_block
abbrev bK:=@List.length_map
abbrev bL:=@List.length_set
abbrev bM:=@callsIn_wide
abbrev bN:=@List.take_succ_eq_append_getElem
abbrev bO:=@List.length_nil
abbrev bP:=@World.cell?_alloc_lt
abbrev bQ:=@AllReadyH.cons
abbrev bR:=@List.getElem_of_mem
abbrev bT:=@wpList_append_own_at
abbrev bU:=@List.mem_append
abbrev bV:=@List.mem_flatMap
abbrev bW:=@World.grownBy_alloc
abbrev bX:=@Int.eq_ofNat_of_zero_le
abbrev bY:=@Bool.and_eq_true
abbrev bZ:=@World.cell?_of_block
abbrev cC:=@bodyPost_ret
abbrev cH:=@List.mem_cons
abbrev cI:=@List.mem_cons_self
abbrev cJ{a b c d}:=@World.cell?_setCell_other a b c d
abbrev cK:=@List.append_assoc
abbrev cM:=@List.getElem_map
abbrev cN:=@List.mem_cons_of_mem
abbrev cQ:=@List.getElem_set_self
abbrev cS:=@List.mem_singleton
abbrev cV:=@List.getElem?_eq_some_iff
abbrev cW:=@List.cons_append
abbrev cX:=@Array.replicate_succ
abbrev cZ:=@Array.replicate_zero
abbrev dA{a b c d}:=@World.ownsRow_nil a b c d
abbrev dD:=@List.mem_append_left
abbrev dE:=@List.append_toArray
abbrev dF:=@IntKind.wrap_i64
abbrev dG:=@World.rowIs_made
abbrev dH:=@List.length_take
abbrev dI:=@Bool.or_eq_true
abbrev dJ:=@decide_eq_false
abbrev dK:=@List.getElem?_eq_none
abbrev dL:=@List.getElem?_append_left
abbrev dM:=@Int.toNat_natCast
abbrev dN:=@List.range_succ
abbrev dO:=@List.size_toArray
abbrev dP:=@List.push_toArray
abbrev dQ:=@Classical.byContradiction
abbrev dR:=@List.nil_append
abbrev dS:=@Nat.mod_lt
abbrev dT:=@List.foldl_append
abbrev dU:=@Nat.le_of_lt
abbrev dV:=@List.all_eq_true
abbrev dW:=@List.getElem_range
abbrev dX:=@List.getElem?_map
abbrev dY:=@AllReadyH.nil
abbrev dZ:=@List.getElem?_set_ne
abbrev eA:=@List.not_mem_nil
abbrev eB:=@decide_eq_true
abbrev eC:=@World.cell?_alloc_new
abbrev eH:=@List.map_cons
abbrev eI:=@World.ownsRow_lit
abbrev eJ:=@List.length_pos_of_mem
abbrev eK:=@World.rowIs_alloc
abbrev eM:=@List.getElem_cons_zero
abbrev eN:=@List.mem_of_getElem?
abbrev eQ:=@Bool.eq_iff_iff
abbrev eS:=@wpAnyH_ready
abbrev eU:=@List.filter_append
abbrev eV:=@List.getElem?_append_right
abbrev eW:=@Int.tmod_eq_emod_of_nonneg
abbrev eX:=@World.frozen?_setCell
abbrev eY:=@List.contains_iff_mem
abbrev eZ:=@List.flatMap_append
abbrev fA:=@List.getElem_append_left
abbrev fB:=@List.mem_append_right
abbrev fC:=@decide_eq_false_iff_not
abbrev fD:=@if_false
abbrev fE:=@List.mem_or_eq_of_mem_set
abbrev fF:=@List.append_nil
abbrev fG:=@List.mem_filter
abbrev fH:=@List.getElem?_take_of_lt
abbrev fI:=@congrArg
abbrev fJ:=@List.length_filter_le
abbrev fK:=@List.set_getElem_self
abbrev fL:=@List.nodup_cons
abbrev fM:=@run_make_row'
abbrev fN:=@List.getElem_append_right
abbrev fO:=@List.getElem_cons_succ
abbrev fP:=@List.length_erase_of_mem
abbrev fQ:=@World.cell?_setCell_same
abbrev fR:=@Int.toNat_of_nonneg
abbrev fS:=@ownsRow_setCell_other
abbrev fT:=@wpList_append_own
abbrev fV:=@of_decide_eq_true
abbrev fW:=@Nat.add_zero
abbrev fX:=@info_parts
abbrev fY:=@Int.tdiv_eq_ediv_of_nonneg
abbrev fZ:=@List.map_nil
abbrev gC:=@List.take_length
abbrev gE:=@List.set_set
abbrev gG:=@if_true
abbrev gH:=@List.map_congr_left
abbrev gI:=@List.length_range
abbrev gJ:=@Classical.choose_spec
abbrev gK:=@List.countP_eq_length_filter
abbrev gP:=@Exists.intro
abbrev gQ:=@Option.some.inj
abbrev gR:=@Option.getD_some
abbrev gU:=@Bool.not_eq_true
abbrev gV:=@results_none
abbrev gW:=@List.nodup_append
abbrev gX{a}:=@Nat.le_succ a
abbrev gY:=@List.pairwise_iff_getElem
abbrev gZ:=@List.drop_eq_getElem_cons
abbrev hH:=@List.take_append_drop
abbrev iA:=@beq_iff_eq
abbrev iC:=@Nat.lt_of_le_of_lt
abbrev iD:=@callsIn_of_wp
abbrev iE:=@List.eq_nil_of_length_eq_zero
abbrev iF:=@List.mem_erase_of_ne
abbrev iG:=@List.ext_getElem?
abbrev iH:=@Nat.testBit_two_pow_mul_add
abbrev iI:=@Array.getElem?_eq_none
abbrev iJ{a}:=@Nat.lt_succ_self a
abbrev iK:=@List.pairwise_flatMap
abbrev iL:=@World.cell?_setCell_same'
abbrev iM:=@List.foldl_cons
abbrev iN:=@Nat.mul_one
abbrev iO:=@List.mem_of_mem_take
abbrev iQ:=@List.getElem?_range
abbrev iS:=@beq_eq_false_iff_ne
abbrev iU:=@List.nodup_nil
abbrev iV:=@IntKind.wrap_u64
abbrev iW:=@List.filter_cons
abbrev iX:=@below_drewN
abbrev iY:=@wp_loop
abbrev iZ:=@Nat.div_div_eq_div_mul
abbrev jA:=@List.getElem?_drop
abbrev jB:=@Nat.and_le_left
abbrev jC:=@Prod.mk.injEq
abbrev jD:=@Bool.and_eq_false_iff
abbrev jE:=@Result.andThen_ok
abbrev jF:=@List.flatMap_cons
abbrev jG:=@List.getElem_take
abbrev jH:=@u64_and_nat
abbrev jI:=@Nat.mul_le_mul_right
abbrev jJ:=@bne_iff_ne
abbrev jK:=@Nat.add_mul
abbrev jL:=@Nat.one_mul
abbrev jM:=@Nat.mod_eq_of_lt
abbrev jN:=@List.map_toArray
abbrev jO:=@List.map_map
abbrev jP:=@Act.put_comm
abbrev jQ:=@List.length_reverse
abbrev jR:=@List.filter_sublist
abbrev jS:=@Array.size_setIfInBounds
abbrev jT:=@List.Pairwise.imp_of_mem
abbrev jU:=@Bool.or_false
abbrev jV:=@Bool.false_or
abbrev jW:=@Nat.testBit_and
abbrev jX:=@List.filter_nil
abbrev jY:=@Option.map_some
abbrev jZ:=@Nat.min_eq_left
abbrev kA:=@Ne.symm
abbrev kB:=@Int.natCast_add
abbrev kC:=@DataW.agg.injEq
abbrev kD:=@List.append_of_mem
abbrev kE:=@List.count_pos_iff
abbrev kF:=@Int.natCast_nonneg
abbrev kG:=@List.getElem?_set
abbrev kH:=@Nat.add_mod_right
abbrev kI:=@run_append_own_at
abbrev kJ:=@List.take_add_one
abbrev kK:=@List.countP_congr
abbrev kL:=@Nat.sub_self
abbrev kM:=@u64_andNot_nat
abbrev kN:=@List.length_replicate
abbrev kO:=@Nat.and_two_pow_sub_one_eq_mod
abbrev kQ:=@Nat.min_le_right
abbrev kS:=@List.nodup_range
abbrev kU:=@List.mem_reverse
abbrev kV:=@List.Nodup.length_le_of_subset
abbrev kX:=@List.sum_cons
abbrev kY:=@List.pairwise_append
abbrev kZ:=@List.count_eq_zero_of_not_mem
abbrev lB:=@Nat.pow_lt_pow_right
abbrev lC:=@Nat.zero_mul
abbrev lG:=@Sem.run_bind
abbrev lH:=@Sem.run_pure
abbrev lI:=@List.range_add
abbrev lJ:=@World.grownBy.refl
abbrev lK:=@List.take_zero
abbrev lL:=@or_false
abbrev lM:=@Int.emod_lt_of_pos
abbrev lN:=@List.countP_append
abbrev lO:=@Nat.mul_le_mul
abbrev lQ:=@UInt8.toNat_lt
abbrev lS:=@List.find?_eq_none
abbrev lU:=@List.Pairwise.nil
abbrev lV:=@Bool.not_eq_true'
abbrev lW:=@List.filter_congr
abbrev lX:=@List.mem_finRange
abbrev lY:=@Bool.eq_false_iff
abbrev lZ:=@List.all_eq_false
abbrev mA:=@Nat.lt_trichotomy
abbrev mB:=@Int.emod_eq_of_lt
abbrev mC:=@List.length_filterMap_le
abbrev mD:=@List.prefix_refl
abbrev mE:=@DataW.trod_array
abbrev mF:=@List.length_drop
abbrev mG:=@List.ext_getElem
abbrev mH:=@Nat.lt_add_of_pos_right
abbrev mI:=@List.getElem?_replicate
abbrev mJ:=@List.filter_eq_nil_iff
abbrev mK:=@Addr.add_lit
abbrev mL:=@Nat.lt_or_ge
abbrev mM:=@List.getElem?_set_self
abbrev mN:=@List.map_set
abbrev mP:=@List.drop_eq_nil_of_le
abbrev mQ:=@Nat.min_le_left
abbrev mR:=@Int.emod_nonneg
abbrev mS:=@World.var?_cell
abbrev mT:=@trodAll_cons_mk
abbrev mV:=@List.filterMap_append
abbrev mW:=@List.countP_le_length
abbrev mX:=@Array.getElem?_toList
abbrev mY:=@List.nodup_iff_count
abbrev mZ:=@List.perm_cons_erase
abbrev nA:=@size_madeCells
abbrev nB:=@Array.mem_toList_iff
abbrev nC:=@List.countP_pos_iff
abbrev nD:=@List.filterMap_cons
abbrev nE:=@Nat.testBit_two_pow
abbrev nF:=@Bool.or_comm
abbrev nG:=@wpList_plain
abbrev nH:=@wpIn_loop
abbrev nJ:=@eq_comm
abbrev Cl (w: World) (b o: N) (v: Value): Prop := E w ⟨b, o, U⟩ = S v
def Q(p:Prop):Prop:=p
theorem Q.o{p:Prop}(h:Q p):p:=h
abbrev A(b o:N):Addr:=⟨b,o,U⟩
abbrev Hl(b n c:N):Value:=X (S ⟨b,0,U⟩) n c
abbrev Hm(b o n c:N):Value:=X (S ⟨b,o,U⟩) n c
abbrev Hn(b:N):Value:=Sj (S ⟨b,0,U⟩)
abbrev Ho(b o:N):Value:=Sj (S ⟨b,o,U⟩)
abbrev H(n:I):Value:=Si S6 n
abbrev Hq:Value:=X U 0 0
abbrev G:=@Eq.trans
theorem Rf{n w}:Below n w w:=Below.refl n w
abbrev cY{a b c d}:=@Go.RowKit.Below.heap_setCell a b c d
abbrev dC:=@Go.RowKit.Below.refl
abbrev gF:=@Go.RowKit.Below.heap_alloc
abbrev ke:=@Go.RowKit.ownsRow_setCell_below
abbrev l9:=@Go.heap_alloc_new
abbrev nR:=@List.length_singleton
abbrev qG:=@Go.RowKit.Below.setCell
abbrev rS:=@Bool.true_and
abbrev rT:=@List.any_eq_false
abbrev sk:=@List.filter_cons_of_neg
abbrev sC:=@List.filter_cons_of_pos
abbrev sS:=@List.all_append
abbrev tj:=@List.any_eq_true
abbrev uw:=@List.take_succ_cons
abbrev uB:=@Nat.add_sub_cancel_left
abbrev uE:=@Go.cell_of_row
abbrev uT:=@Go.bodyPost_end
abbrev vi:=@List.all_cons
abbrev vr:=@Nat.add_sub_cancel
abbrev vR:=@Bool.and_true
abbrev vT:=@Go.RowKit.Below.alloc
abbrev wn:=@Go.wpList_mapUpdate_own
abbrev wA:=@Nat.not_lt_zero
abbrev ya:=@List.drop_succ_cons
abbrev yy:=@Nat.add_comm
abbrev zC:=@List.drop_zero
abbrev zP:=@Int.le_refl
abbrev zZ:=@Nat.add_assoc
abbrev Am:=@List.drop_length
abbrev Bs:=@Go.World.frozen?_alloc_old
abbrev Hu:=@List.set_append_right
abbrev IJ:=@Nat.pow_le_pow_right
abbrev IL:=@Bool.or_eq_false_iff
theorem O{p:Prop}(h:p:=by omega):p:=h
theorem vZ{p:Prop}(h:p:=by kernel_rfl):p:=h
theorem vY{p:Prop}(h:p:=by decide):p:=h
theorem sP{p:Prop}(h:p:=by simp):p:=h
theorem gM{p:Prop}(h:p:=by go_num):p:=h
theorem oN{p q:Prop}(h:q)(k:q->p:=by intro _; omega):p:=k h
theorem oP{p q r:Prop}(h:q)(h':r)(k:q->r->p:=by intro _ _; omega):p:=k h h'
theorem SA{p:Prop}(h:p:=by simp[RowKit.intOf];omega):p:=h
theorem SB{p:Prop}(h:p:=by simp;omega):p:=h
theorem SC{p:Prop}(h:p:=by simp[go_sem]):p:=h
theorem SD{p:Prop}(h:p:=by unfold maxLen;omega):p:=h
theorem SE{p:Prop}(h:p:=by simp[Act.eval]):p:=h
theorem SF{p:Prop}(h:p:=by rw[Xd];omega):p:=h
theorem SG{p:Prop}(h:p:=by dsimp only;omega):p:=h
theorem SH{p:Prop}(h:p:=by simp[World.setCell]):p:=h
theorem SI{p:Prop}(h:p:=by simpa using h):p:=h
theorem SJ{p:Prop}(h:p:=by simpa using b):p:=h
theorem SK{p:Prop}(h:p:=by simpa using c):p:=h
theorem SL{p:Prop}(h:p:=by simp[RowKit.intOf]):p:=h
section
structure Yg where
 op:I
 dst:I
 a:I
 b:I
 imm:I
abbrev Vr:=List Yg
structure Yj where
 kind:I
 a:I
 to:I
 els:I
structure Ph where
 dst:I
 args:Wc
abbrev Za:=List Ph
structure Xe where
 ps:Za
 is:Vr
 te:Yj
abbrev Wi:=List Xe
structure Fn where
 values:I
 blocks:Wi
def Yg.cells(x:Yg):Wo:=[Si S6 x.1,Si S6 x.2,Si S6 x.a,Si S6 x.b,Si S6 x.5]
def Xf(w:Ub)(L B:N)(c:Uy)(a:Wc):Prop :=
 ∀i (h:i<J a),∃b o,c=S ⟨b,o,U⟩/\(L<=b/\b<B)/\E w ⟨b,o+i,U⟩=S (Si S6 a[i])
def Jk(w:Ub)(b o:N)(x:Yg):Prop :=
 E w ⟨b,o,U⟩=S (Si S6 x.1)/\E w ⟨b,o+1,U⟩=S (Si S6 x.2)/\E w ⟨b,o+2,U⟩=S (Si S6 x.a) /\
 E w ⟨b,o+3,U⟩=S (Si S6 x.b)/\E w ⟨b,o+4,U⟩=S (Si S6 x.5)
def YY(w:Ub)(L B:N)(c:Uy)(a:Vr):Prop :=
 ∀i (h:i<J a),∃b o,c=S ⟨b,o,U⟩/\(L<=b/\b<B)/\Jk w b (o+i*5) a[i]
def Va(w:Ub)(b o:N)(x:Yj):Prop :=
 E w ⟨b,o,U⟩=S (Si S6 x.1)/\E w ⟨b,o+1,U⟩=S (Si S6 x.a)/\E w ⟨b,o+2,U⟩=S (Si S6 x.3) /\
 E w ⟨b,o+3,U⟩=S (Si S6 x.4)
def ld(w:Ub)(L B b o:N)(x:Ph):Prop :=
 ∃a c,E w ⟨b,o,U⟩=S (Si S6 x.1)/\E w ⟨b,o+1,U⟩=S (X a (J x.2) c)/\Xf w L B a x.2
def Jw(w:Ub)(L B:N)(c:Uy)(a:Za):Prop :=
 ∀i (h:i<J a),∃b o,c=S ⟨b,o,U⟩/\(L<=b/\b<B)/\ld w L B b (o+i*2) a[i]
def Tk(w:Ub)(L B b o:N)(x:Xe):Prop :=
 ∃c e a d,E w ⟨b,o,U⟩=S (X c (J x.1) e)/\E w ⟨b,o+1,U⟩=S (X a (J x.2) d) /\
  Va w b (o+2) x.3/\Jw w L B c x.1/\YY w L B a x.2
def Xp(w:Ub)(L B:N)(c:Uy)(a:Wi):Prop :=
 ∀i (h:i<J a),∃b o,c=S ⟨b,o,U⟩/\(L<=b/\b<B)/\Tk w L B b (o+i*6) a[i]
theorem Y{p:Prop}(h:p):Q p:=h
theorem Xw{p:Prop}(h:Q p):p:=h
theorem Xg{w w1 a:Ub}(h:Sw (Z w.1) w w1)(k:Sw (Z w1.1) w1 a):Sw (Z w.1) w a:=h.trans<|k.mono h.4
theorem NC{W a:Ub}(c:Sw (Z W.1) W a):(∀b o,b<Z W.1->E a (A b o)=E W (A b o))/\(∀b o,b<Z W.1->a.frozen? (A b o)=W.frozen? (A b o)) :=
 ⟨λb o h=>c.cell (p:=A b o) h,λb o h=>c.frozen (p:=A b o) h⟩
theorem Xb{w a:Ub}(h:Sw (Z w.1) w a)(o):Sw (Z w.1) w (D a o):=h.alloc h.4 o
variable {w w': Ub} {L B: N}
def YA(L B:N)(w w':Ub):Prop:=∀k,L<=k->k<B->w'.1[k]?=w.1[k]?
theorem YA.of_below(k:Sw B w w'):YA L B w w':=λi _ h=>k.5 i h
abbrev ZU:=@YA.of_below
theorem YA.trans{c}(h:YA L B w w')(k:YA L B w' c):YA L B w c:=λi a b=>G (k i a b) (h i a b)
theorem Xc{b o}(h:w'.1[b]?=w.1[b]?):E w' (A b o)=E w (A b o):=bZ (w:=w) h
theorem Xf.keepS{b d}(h:Xf w L B b d)(k:YA L B w w'):Xf w' L B b d:=λi g=>by let⟨c,o,e,a,f⟩:=h i g;exact⟨c,o,e,a,by rw[Xc<|k c a.1 a.2];exact f⟩
theorem Jk.keepS{b o x}(h:Jk w b o x)(k:w'.1[b]?=w.1[b]?):Jk w' b o x:=by let⟨a,c,d,e,f⟩:=h;exact⟨G (Xc k) a,G (Xc k) c,G (Xc k) d,G (Xc k) e,G (Xc k) f⟩
theorem Va.keepS{b o x}(h:Va w b o x)(k:w'.1[b]?=w.1[b]?):Va w' b o x:=by let⟨a,c,d,e⟩:=h;exact⟨G (Xc k) a,G (Xc k) c,G (Xc k) d,G (Xc k) e⟩
theorem YY.keepS{b d}(h:YY w L B b d)(k:YA L B w w'):YY w' L B b d:=λi g=>by let⟨c,o,e,a,f⟩:=h i g;exact⟨c,o,e,a,f.keepS<|k c a.1 a.2⟩
theorem ld.keepS{b o x}(h:ld w L B b o x)(k:YA L B w w')(e:w'.1[b]?=w.1[b]?):ld w' L B b o x:=by let⟨a,c,d,f,g⟩:=h;exact⟨a,c,G (Xc e) d,G (Xc e) f,g.keepS k⟩
theorem Jw.keepS{b d}(h:Jw w L B b d)(k:YA L B w w'):Jw w' L B b d:=λi g=>by let⟨c,o,e,a,f⟩:=h i g;exact⟨c,o,e,a,f.keepS k<|k c a.1 a.2⟩
theorem Tk.keepS{b o x}(h:Tk w L B b o x)(k:YA L B w w')(e:w'.1[b]?=w.1[b]?):Tk w' L B b o x:=by let⟨l,m,i,j,a,c,d,f,g⟩:=h;exact⟨l,m,i,j,G (Xc e) a,G (Xc e) c,d.keepS e,f.keepS k,g.keepS k⟩
theorem Xp.keepS{b d}(h:Xp w L B b d)(k:YA L B w w'):Xp w' L B b d:=λi g=>by let⟨c,o,e,a,f⟩:=h i g;exact⟨c,o,e,a,f.keepS k<|k c a.1 a.2⟩
theorem Xf.keep{a b}(h:Xf w L B a b)(k:Sw B w w'):Xf w' L B a b:=h.keepS<|ZU k
theorem Jk.keep{b o x}(h:Jk w b o x)(k:Sw B w w')(a:b<B):Jk w' b o x:=h.keepS<|k.5 b a
theorem YY.keep{a b}(h:YY w L B a b)(k:Sw B w w'):YY w' L B a b:=h.keepS<|ZU k
theorem Jw.keep{a b}(h:Jw w L B a b)(k:Sw B w w'):Jw w' L B a b:=h.keepS<|ZU k
theorem Tk.keep{b o x}(h:Tk w L B b o x)(k:Sw B w w')(a:b<B):Tk w' L B b o x:=h.keepS (ZU k) (k.5 b a)
theorem Xp.keep{a b}(h:Xp w L B a b)(k:Sw B w w'):Xp w' L B a b:=h.keepS<|ZU k
theorem Xf.mono{b a c d}(h:Xf w L B c d)(m:b<=L)(l:B<=a):Xf w b a c d:=λj i=>by let⟨e,o,f,k,g⟩:=h j i;exact⟨e,o,f,O,g⟩
theorem YY.mono{b a c d}(h:YY w L B c d)(m:b<=L)(l:B<=a):YY w b a c d:=λj i=>by let⟨e,o,f,k,g⟩:=h j i;exact⟨e,o,f,O,g⟩
theorem ld.mono{b a d o x}(h:ld w L B d o x)(l:b<=L)(k:B<=a):ld w b a d o x:=by let⟨e,c,f,g,i⟩:=h;exact⟨e,c,f,g,i.mono l k⟩
theorem Jw.mono{b a c d}(h:Jw w L B c d)(l:b<=L)(k:B<=a):Jw w b a c d:=λj i=>by let⟨e,o,f,m,g⟩:=h j i;exact⟨e,o,f,O,g.mono l k⟩
theorem Tk.mono{b a c o x}(h:Tk w L B c o x)(l:b<=L)(k:B<=a):Tk w b a c o x:=by let⟨n,p,j,m,d,e,f,g,i⟩:=h;exact⟨n,p,j,m,d,e,f,g.mono l k,i.mono l k⟩
theorem Xp.mono{b a c d}(h:Xp w L B c d)(l:b<=L)(k:B<=a):Xp w b a c d:=λj i=>by let⟨e,o,f,m,g⟩:=h j i;exact⟨e,o,f,O,g.mono l k⟩
end
theorem xA{α:Type}{xs:List α}{i:N}(h:i<Z xs.toArray):xs.toArray[i]=xs[i]'(by simpa using h):=R
theorem xB{α:Type}{a:α}{ys:List α}{h:0<J (a::ys)}:(a::ys)[0]=a:=R
theorem xC{α:Type}{a:α}{ys:List α}{i:N}{h:i+1<J (a::ys)}:(a::ys)[i+1]=ys[i]'(Nat.lt_of_succ_lt_succ h):=R
theorem xD{α:Type}{l:List α}{i:N}{a:α}:l.toArray.setIfInBounds i a=(l.set i a).toArray:=List.setIfInBounds_toArray ..
theorem xE{α:Type}{x:α}{xs:List α}{a:α}:(x::xs).set 0 a=a::xs:=R
theorem xF{α:Type}{x:α}{xs:List α}{i:N}{a:α}:(x::xs).set (i+1) a=x::xs.set i a:=R
theorem X0{P:Program}{md:Region.Mode}{ops:Array Oper}{d:Exit->Act->World->Prop}{e:World->Prop}(i:N){oi:Oper}{v:Value}{fuel:N}{listed:Array Bool}{a b:Act}{w:World}(h:wpAnyH P md ops d e fuel (listed.setIfInBounds i So) b w)(hi:ops[i]?=S oi:=by exact rfl)(hw:Region.wanted oi (yielded ops a.1)=So:=by rfl)(hy:∀(w:World),e w->Sem.run P (execOp a.eval oi) w=Result.ok (Next.value v) w:=by intro w hSw;(try dsimp only at hSw);go_simp;try with_reducible rfl)(hp:a.put oi.1 v=b:=by(simp only[Act.put,xA,xB,xC,xD,xE,xF]);exact rfl)(hq:∀c a w,d (.panic c) (a.put oi.1 v) w->d (.panic c) a w:=by exact(λ_ _ _ h=>hQ.o _ _ _ _ _ h))(hs:Region.noSelect ops=So:=by kernel_rfl)(hf:Region.free md ops listed i=So:=by kernel_rfl)(hr:(Region.ready md ops listed).contains i=So:=by kernel_rfl)(hS:e w:=by assumption):wpAnyH P md ops d e (fuel+1) listed a w:=wpAnyH_take hi hs hf hr hq (Or.inl ⟨hw,hy⟩) hS (hp▸h)
theorem Xn{P:Program}{md:Region.Mode}{ops:Array Oper}{d:Exit->Act->World->Prop}{e:World->Prop}(i:N){oi:Oper}{v:Value}{fuel:N}{listed:Array Bool}{a b:Act}{w:World}(h:wpAnyH P md ops d e fuel (listed.setIfInBounds i So) b w)(hi:ops[i]?=S oi:=by exact rfl)(hw:Region.wanted oi (yielded ops a.1)=So:=by rfl)(hy:∀(w:World),e w->Sem.run P (execOp a.eval oi) w=Result.ok (Next.value v) w:=by intro w hSw;(try dsimp only at hSw);go_simp;try with_reducible rfl)(hp:a.put oi.1 v=b:=by(simp only[Act.put,xA,xB,xC,xD,xE,xF]);exact rfl)(hq:∀c a w,d (.panic c) (a.put oi.1 v) w->d (.panic c) a w:=by exact λ_ _ _ h=>h)(hs:Region.noSelect ops=So:=by kernel_rfl)(hf:Region.free md ops listed i=So:=by kernel_rfl)(hr:(Region.ready md ops listed).contains i=So:=by kernel_rfl)(hS:e w:=by assumption):wpAnyH P md ops d e (fuel+1) listed a w:=wpAnyH_take hi hs hf hr hq (Or.inl ⟨hw,hy⟩) hS (hp▸h)
theorem Rm{P:Program}{md:Region.Mode}{ops:Array Oper}{d:Exit->Act->World->Prop}{e:World->Prop}{i:N}{oi:Oper}{v:Value}{fuel:N}{listed:Array Bool}{a b:Act}{w:World}(h:wpAnyH P md ops d e fuel ((listed.setIfInBounds i So).setIfInBounds (i+1) So) b w)(hi:ops[i+1]?=S oi:=by exact rfl)(hw:Region.wanted oi (yielded ops a.1)=So:=by rfl)(hy:∀(w:World),e w->Sem.run P (execOp a.eval oi) w=Result.ok (Next.value v) w:=by intro w hSw;(try dsimp only at hSw);go_simp;try with_reducible rfl)(hp:a.put oi.1 v=b:=by(simp only[Act.put,xA,xB,xC,xD,xE,xF]);exact rfl)(hq:∀c a w,d (.panic c) (a.put oi.1 v) w->d (.panic c) a w:=by exact λ_ _ _ h=>h)(hs:Region.noSelect ops=So:=by kernel_rfl)(hf:Region.free md ops (listed.setIfInBounds i So) (i+1)=So:=by kernel_rfl)(hr:(Region.ready md ops (listed.setIfInBounds i So)).contains (i+1)=So:=by kernel_rfl)(hS:e w:=by assumption):wpAnyH P md ops d e (fuel+1) (listed.setIfInBounds i So) a w:=wpAnyH_take hi hs hf hr hq (Or.inl ⟨hw,hy⟩) hS (hp▸h)
theorem KH{P:Program}{md:Region.Mode}{ops:Array Oper}{d:Exit->Act->World->Prop}{e:World->Prop}(i:N){oi:Oper}{fuel:N}{listed:Array Bool}{a b:Act}{w:World}(h:wpAnyH P md ops d e fuel (listed.setIfInBounds i So) b w)(hi:ops[i]?=S oi:=by exact rfl)(hw:Region.wanted oi (yielded ops a.1)=Sn:=by rfl)(hp:a.put oi.1 Su=b:=by(simp only[Act.put,xA,xB,xC,xD,xE,xF]);exact rfl)(hq:∀c a w,d (.panic c) (a.put oi.1 Su) w->d (.panic c) a w:=by exact λ_ _ _ h=>h)(hs:Region.noSelect ops=So:=by kernel_rfl)(hf:Region.free md ops listed i=So:=by kernel_rfl)(hr:(Region.ready md ops listed).contains i=So:=by kernel_rfl)(hS:e w:=by assumption):wpAnyH P md ops d e (fuel+1) listed a w:=wpAnyH_take hi hs hf hr hq (Or.inr ⟨hw,R⟩) hS (hp▸h)
theorem Xs{P:Program}{md:Region.Mode}{ops:Array Oper}{d:Exit->Act->World->Prop}{c:World->Prop}(i:N){oi:Oper}{fuel:N}{listed:Array Bool}{a:Act}{w:World}(h:∀K':Act->World->Prop,Shut (∀a w,c w->∀{b:Act},(c w->wpAnyH P md ops d c fuel (listed.setIfInBounds i So) b w)->(hp:a=b:=by(try simp only[Act.put,xA,xB,xC,xD,xE,xF]);exact rfl)->K' a w)->if Region.wanted oi (yielded ops a.1)=So then Oper.wp P oi a w K' d else K' (a.put oi.1 Su) w)(hi:ops[i]?=S oi:=by exact rfl)(hr:Region.ready md ops listed=[i]:=by kernel_rfl):wpAnyH P md ops d c (fuel+1) listed a w:=wpAnyH_ready (rs:=[i]) hr (by simp) (AllReadyH.cons hi (λK hK=>h K λa w hs b k hp=>hK a w hs (hp▸k)) AllReadyH.nil)
theorem Y7{P:Program}{ops:Array Oper}{c:Exit->Act->World->Prop}(b:World->Prop){id:N}{a:Act}{w:World}(h:b w.drew->wpAnyH P .any ops c b (Z ops) (Array.replicate (Z ops) Sn) a w.drew)(hS:b w.drew:=by first|with_reducible exact True.intro|((try dsimp only);go_keep))(hm:P.follows .mixedOrders=So:=by kernel_rfl):(Code.region id ops So).wp P c a w:=wp_region_held_drew hm hS h
theorem Yq{P:Program}{md:Region.Mode}{ops:Array Oper}{b:Exit->Act->World->Prop}{c:World->Prop}{listed:Array Bool}{a:Act}{w:World}{fuel:N}(h:b .normal a w)(hr:Region.ready md ops listed=[]:=by kernel_rfl):wpAnyH P md ops b c fuel listed a w:=wpAnyH_done hr h fuel
theorem kP{a:Prop}(h:a:=by first|with_reducible exact ig|((try dsimp only);go_keep)):a:=h
theorem XU{n:N}{w w':World}(k:Sw n w w'){b o:N}(hb:b<n):E w' (A b o)=E w (A b o):=k.cell (p:=⟨b,o,U⟩) hb
theorem oB {n: N} {w v: World} {b o: N} {x: Option Value} (k: Sw n w v) (e: E w ⟨b, o, U⟩ = x) (hb: b < n): E v ⟨b, o, U⟩ = x := G (k.cell (p := ⟨b, o, U⟩) hb) e
abbrev xX := And.intro @Act.put.eq_1 (And.intro @Act.put.eq_2 (And.intro @xA (And.intro @xB (And.intro @xC (And.intro @xD (And.intro @xE @xF))))))
abbrev xY := And.intro @dO.{0} (And.intro @bA.{0} (And.intro @bO.{0} (And.intro @cX.{0} (And.intro @cZ.{0} (And.intro @dP.{0} (And.intro @dE.{0} (And.intro @dR.{0} @cW.{0})))))))
end Go.Proofs.YtcncjgijikoapaaGreatDoor
