import Derived.Test.YtdcdgopblbmgoaaGreatDoorQY
/-
  errors.As at a target of type *lineFault: methods, Set, assertions.
-/
namespace Go.Proofs.YtdcdgopblbmgoaaGreatDoor
open Go.RowKit Go.Extern.Stop Go.Stop Go.Extern

theorem Tryz.methodKind (h : Value) (w : World) : (Go.method 314 121 (.agg #[h]) "Elem").run Tryz.prog w = .ok (144, .agg #[h]) w := by kernel_rfl
theorem Tryz.methodImplements (h : Value) (w : World) : (Go.method 314 121 (.agg #[h]) "Implements").run Tryz.prog w = .ok (145, .agg #[h]) w := by kernel_rfl
theorem Tryz.methodAssignableTo (h : Value) (w : World) : (Go.method 314 121 (.agg #[h]) "AssignableTo").run Tryz.prog w = .ok (142, .agg #[h]) w := by kernel_rfl
theorem Tryz.methodUnwrap (s c : Value) (w : World) : (Go.method 314 78 (.agg #[s, c]) "Unwrap").run Tryz.prog w = .ok (137, .agg #[s, c]) w := by kernel_rfl
theorem Tryz.asNo (s c : Value) (w : World) : (Instr.typeAssert (.iface 78 (.agg #[s, c])) 57 126 true).run Tryz.prog w = .ok (.tuple #[.nilIface, .bool false]) w := run_typeAssert_lacksB Tryz.underlying126 (by kernel_rfl) (by kernel_rfl) ..
theorem Tryz.unwrapYes (s c : Value) (w : World) : (Instr.typeAssert (.iface 78 (.agg #[s, c])) 57 129 true).run Tryz.prog w = .ok (.tuple #[.iface 78 (.agg #[s, c]), .bool true]) w := by kernel_rfl
theorem Tryz.partsA (a : Addr) (w : World) : (ReflectliteValue.parts (.agg #[.pointer (some ⟨6, 61, none⟩), .pointer (some a), .int .u64 409])).run Tryz.prog w = .ok (some (61, a, 409)) w := by kernel_rfl
theorem Tryz.partsL (a : Addr) (w : World) : (ReflectliteValue.parts (.agg #[.pointer (some ⟨6, 61, none⟩), .pointer (some a), .int .u64 153])).run Tryz.prog w = .ok (some (61, a, 153)) w := by kernel_rfl
theorem Tryz.directL (w : World) : (Rtype.directlyAssignable 61 61).run Tryz.prog w = .ok true w := by kernel_rfl
theorem unwrap_any (s c : Value) (w : World) : Calls Tryz.prog 137 #[.agg #[s, c]] w fun e w' => e = .returned c ∧ Below w.heap.size w w' := by
  go_enter Tryz.func137, Tryz.ntmps137
  go_wp2
  go_ret
  exact ⟨rfl, balloc (Below.refl _ _) _⟩
end Go.Proofs.YtdcdgopblbmgoaaGreatDoor

/-
  (Value).Set at lineFault; errors.As over a partFault that holds a lineFault.
-/
namespace Go.Proofs.YtdcdgopblbmgoaaGreatDoor
open Go.RowKit Go.Extern.Stop Go.Stop Go.Extern

theorem Tryz.setL (T b : Nat) (c l : Int) (o1 o2 : Value) (W : World) (hb0 : W.cell? ⟨b, 0, none⟩ = some (.int .i64 c)) (hb1 : W.cell? ⟨b, 1, none⟩ = some (.int .i64 l))
    (ht0 : W.cell? ⟨T, 0, none⟩ = some o1) (ht1 : W.cell? ⟨T, 1, none⟩ = some o2) (hf : ∀ o, W.frozen? ⟨T, o, none⟩ = false) :
    (ReflectliteValue.set #[.agg #[.pointer (some ⟨6, 61, none⟩), .pointer (some ⟨T, 0, none⟩), .int .u64 409], .agg #[.pointer (some ⟨6, 61, none⟩), .pointer (some ⟨b, 0, none⟩), .int .u64 153]]).run Tryz.prog W
      = .ok (.tuple #[]) ((W.setCell ⟨T, 0, none⟩ (.int .i64 c)).setCell ⟨T, 1, none⟩ (.int .i64 l)) := by
  have h1 : (W.setCell ⟨T, 0, none⟩ (.int .i64 c)).cell? ⟨T, 1, none⟩ = some o2 := by
    exact (World.cell?_setCell_other _ _ _ _ (by simp)).trans ht1
  have h2 : (W.setCell ⟨T, 0, none⟩ (.int .i64 c)).frozen? ⟨T, 1, none⟩ = false := by
    simp [hf]
  delta ReflectliteValue.set
  delta ReflectliteValue.set.match_3
  rw [dif_pos (by rfl)]
  simp only [Array.getLit, List.getElem_toArray, List.getElem_cons_zero, List.getElem_cons_succ]
  simp only [Sem.run_bind, Tryz.partsA, Tryz.partsL, Result.andThen]
  simp [ReflectliteValue.flagAddr, loadVar, loadCells, loadCellsFrom, hb0, hb1, Result.andThen, Tryz.directL, storeVar, Value.cells, storeCells, Addr.add]
  rw [run_store Tryz.prog W ⟨T, 0, none⟩ _ _ (by rfl)]
  simp [ht0, hf]
  rw [run_store Tryz.prog _ ⟨T, 1, none⟩ _ _ (by rfl)]
  simp [h1, h2]
theorem Tryz.methodKindP (h : Value) (w : World) : (Go.method 314 121 (.agg #[h]) "Kind").run Tryz.prog w = .ok (132, h) w := by kernel_rfl
theorem unwrap_exact (s c : Value) (w : World) : Calls Tryz.prog 137 #[.agg #[s, c]] w fun e w' => e = .returned c ∧ w' = w.alloc (.cells #[s, c] 78) := by
  go_enter Tryz.func137, Tryz.ntmps137
  go_wp2
  go_ret
  exact ⟨rfl, rfl⟩

/-- What errors.As leaves: the blocks that it makes, and the target's two cells. -/
def asW (w : World) (T : Nat) (s : Value) (c l : Int) : World :=
  ((((((w.alloc (.cells #[.pointer (some ⟨T, 0, none⟩)] 63)).alloc (.cells #[.pointer (some ⟨6, 63, none⟩), .pointer (some ⟨w.heap.size, 0, none⟩), .int .u64 150] 89)).alloc (.cells #[.pointer (some ⟨6, 63, none⟩), .pointer (some ⟨w.heap.size, 0, none⟩), .int .u64 150] 89)).alloc (.cells #[s, .iface 61 (.agg #[.int .i64 c, .int .i64 l])] 78)).alloc (.cells #[.int .i64 c, .int .i64 l] 61)).setCell ⟨T, 0, none⟩ (.int .i64 c)).setCell ⟨T, 1, none⟩ (.int .i64 l)

set_option maxHeartbeats 4000000 in
set_option maxRecDepth 100000 in
theorem as_hit (T : Nat) (s : Value) (c l : Int) (o1 o2 : Value) (w : World) (hg : w.cell? ⟨0, 0, none⟩ = some (.iface 121 (.agg #[.pointer (some ⟨6, 57, none⟩)])))
    (ht0 : w.cell? ⟨T, 0, none⟩ = some o1) (ht1 : w.cell? ⟨T, 1, none⟩ = some o2) (hf0 : ∀ o, w.frozen? ⟨T, o, none⟩ = false) :
    Calls Tryz.prog 22 #[.iface 78 (.agg #[s, .iface 61 (.agg #[.int .i64 c, .int .i64 l])]), .iface 63 (.pointer (some ⟨T, 0, none⟩))] w fun ev w' => ev = .returned (.bool true) ∧ w' = asW w T s c l := by
  have x0 := @run_callFunc_extern Tryz.prog 43 _ (fun args => ReflectliteValue.unpack (args.getD 0 (.tuple #[]))) Tryz.func43 (by kernel_rfl) (by kernel_rfl) (by kernel_rfl) (by kernel_rfl)
  have x1 := @run_callFunc_extern Tryz.prog 44 _ (ReflectliteValue.methodAny (ReflectliteValue.valueError "reflectlite.Value.Type" 0) (fun t _ _ _ => ReflectliteType.toType t)) Tryz.func44 (by kernel_rfl) (by kernel_rfl) (by kernel_rfl) (by kernel_rfl)
  have x2 := @run_callFunc_extern Tryz.prog 45 _ (ReflectliteValue.method (ReflectliteValue.valueError "reflectlite.Value.IsNil" 0) ReflectliteValue.isNil) Tryz.func45 (by kernel_rfl) (by kernel_rfl) (by kernel_rfl) (by kernel_rfl)
  have x3 := @run_callFunc_extern Tryz.prog 132 _ (ReflectliteType.abiMethod fun t => do pure (.int .u8 (← Rtype.kind t))) Tryz.func132 (by kernel_rfl) (by kernel_rfl) (by kernel_rfl) (by kernel_rfl)
  have x4 := @run_callFunc_extern Tryz.prog 144 _ (ReflectliteType.method ReflectliteType.elem) Tryz.func144 (by kernel_rfl) (by kernel_rfl) (by kernel_rfl) (by kernel_rfl)
  have x5 := @run_callFunc_extern Tryz.prog 145 _ (ReflectliteType.relation "Implements" ReflectliteType.implements_) Tryz.func145 (by kernel_rfl) (by kernel_rfl) (by kernel_rfl) (by kernel_rfl)
  have x6 := @run_callFunc_extern Tryz.prog 63 _ ReflectliteType.typeOf Tryz.func63 (by kernel_rfl) (by kernel_rfl) (by kernel_rfl) (by kernel_rfl)
  have x7 := @run_callFunc_extern Tryz.prog 142 _ (ReflectliteType.relation "AssignableTo" ReflectliteType.assignableTo) Tryz.func142 (by kernel_rfl) (by kernel_rfl) (by kernel_rfl) (by kernel_rfl)
  have x8 := @run_callFunc_extern Tryz.prog 64 _ (ReflectliteValue.method (ReflectliteValue.valueError "reflectlite.Value.Elem" 0) ReflectliteValue.elem) Tryz.func64 (by kernel_rfl) (by kernel_rfl) (by kernel_rfl) (by kernel_rfl)
  have x9 := @run_callFunc_extern Tryz.prog 65 _ ReflectliteValue.set Tryz.func65 (by kernel_rfl) (by kernel_rfl) (by kernel_rfl) (by kernel_rfl)
  have y0 := Tryz.typeOfL
  have y1 := Tryz.typeOfF
  have y2 := Tryz.methodAssignableTo
  have y3 := Tryz.assignL
  have y4 := Tryz.assignF
  have y5 := Tryz.valueOfL
  have y6 := Tryz.valueOfP
  have y7 := Tryz.typeP
  have y8 := Tryz.methodKindP
  have y9 := Tryz.methodKind
  have y10 := Tryz.methodImplements
  have y11 := Tryz.kindP
  have y12 := Tryz.kindL
  have y13 := Tryz.elemT
  have y14 := Tryz.implementsL
  have y15 := Tryz.asNo
  have y16 := Tryz.unwrapYes
  have y17 := Tryz.methodUnwrap
  have hlt : 0 < w.heap.size := World.block_lt_of_cell? w _ hg
  have htl : T < w.heap.size := World.block_lt_of_cell? w _ ht0
  have hg2 : ((w.alloc (.cells #[.pointer (some ⟨T, 0, none⟩)] 63)).alloc (.cells #[.pointer (some ⟨6, 63, none⟩), .pointer (some ⟨w.heap.size, 0, none⟩), .int .u64 150] 89)).cell? ⟨0, 0, none⟩ = some (.iface 121 (.agg #[.pointer (some ⟨6, 57, none⟩)])) := by
    rw [World.cell?_alloc_lt _ _ ⟨0, 0, none⟩ (by simp only [World.size_alloc]; omega), World.cell?_alloc_lt _ _ ⟨0, 0, none⟩ hlt]; exact hg
  have n8 := Tryz.isNilP ⟨w.heap.size, 0, none⟩ ⟨T, 0, none⟩ ((w.alloc (.cells #[.pointer (some ⟨T, 0, none⟩)] 63)).alloc (.cells #[.pointer (some ⟨6, 63, none⟩), .pointer (some ⟨w.heap.size, 0, none⟩), .int .u64 150] 89)) (by simp)
  have b4 : Below w.heap.size w ((((w.alloc (.cells #[.pointer (some ⟨T, 0, none⟩)] 63)).alloc (.cells #[.pointer (some ⟨6, 63, none⟩), .pointer (some ⟨w.heap.size, 0, none⟩), .int .u64 150] 89)).alloc (.cells #[.pointer (some ⟨6, 63, none⟩), .pointer (some ⟨w.heap.size, 0, none⟩), .int .u64 150] 89)).alloc (.cells #[s, .iface 61 (.agg #[.int .i64 c, .int .i64 l])] 78)) := balloc (balloc (balloc (balloc (Below.refl _ _) _) _) _) _
  have b5 : Below w.heap.size w (((((w.alloc (.cells #[.pointer (some ⟨T, 0, none⟩)] 63)).alloc (.cells #[.pointer (some ⟨6, 63, none⟩), .pointer (some ⟨w.heap.size, 0, none⟩), .int .u64 150] 89)).alloc (.cells #[.pointer (some ⟨6, 63, none⟩), .pointer (some ⟨w.heap.size, 0, none⟩), .int .u64 150] 89)).alloc (.cells #[s, .iface 61 (.agg #[.int .i64 c, .int .i64 l])] 78)).alloc (.cells #[.int .i64 c, .int .i64 l] 61)) := balloc b4 _
  have el := Tryz.elemVP ⟨w.heap.size, 0, none⟩ ⟨T, 0, none⟩ ((((w.alloc (.cells #[.pointer (some ⟨T, 0, none⟩)] 63)).alloc (.cells #[.pointer (some ⟨6, 63, none⟩), .pointer (some ⟨w.heap.size, 0, none⟩), .int .u64 150] 89)).alloc (.cells #[.pointer (some ⟨6, 63, none⟩), .pointer (some ⟨w.heap.size, 0, none⟩), .int .u64 150] 89)).alloc (.cells #[s, .iface 61 (.agg #[.int .i64 c, .int .i64 l])] 78)) (by rw [World.cell?_alloc_lt _ _ ⟨w.heap.size, 0, none⟩ (by simp; omega), World.cell?_alloc_lt _ _ ⟨w.heap.size, 0, none⟩ (by simp; omega)]; simp)
  have st := Tryz.setL T (w.heap.size + 1 + 1 + 1 + 1) c l o1 o2 (((((w.alloc (.cells #[.pointer (some ⟨T, 0, none⟩)] 63)).alloc (.cells #[.pointer (some ⟨6, 63, none⟩), .pointer (some ⟨w.heap.size, 0, none⟩), .int .u64 150] 89)).alloc (.cells #[.pointer (some ⟨6, 63, none⟩), .pointer (some ⟨w.heap.size, 0, none⟩), .int .u64 150] 89)).alloc (.cells #[s, .iface 61 (.agg #[.int .i64 c, .int .i64 l])] 78)).alloc (.cells #[.int .i64 c, .int .i64 l] 61))
    (by rw [World.cell?_alloc_at _ _ _ _ (by simp)]; rfl) (by rw [World.cell?_alloc_at _ _ _ _ (by simp)]; rfl)
    ((b5.cell (p := ⟨T, 0, none⟩) htl).trans ht0) ((b5.cell (p := ⟨T, 1, none⟩) htl).trans ht1) (fun o => (World.frozen?_of_block (b5.block T htl)).trans (hf0 o))
  have uw := unwrap_exact s (.iface 61 (.agg #[.int .i64 c, .int .i64 l])) (((w.alloc (.cells #[.pointer (some ⟨T, 0, none⟩)] 63)).alloc (.cells #[.pointer (some ⟨6, 63, none⟩), .pointer (some ⟨w.heap.size, 0, none⟩), .int .u64 150] 89)).alloc (.cells #[.pointer (some ⟨6, 63, none⟩), .pointer (some ⟨w.heap.size, 0, none⟩), .int .u64 150] 89))
  go_enter Tryz.func22, Tryz.ntmps22
  go_wp2
  refine wp_loop_rounds 2 ?_
  rw [rounds_succ]
  go_wp2
  rw [rounds_succ]
  go_wp2
  go_ret
  exact ⟨rfl, rfl⟩
end Go.Proofs.YtdcdgopblbmgoaaGreatDoor
