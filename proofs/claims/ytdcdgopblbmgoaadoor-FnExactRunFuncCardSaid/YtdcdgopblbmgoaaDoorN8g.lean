import Derived.Test.YtdcdgopblbmgoaaDoorN6
namespace Go.Proofs.YtdcdgopblbmgoaaDoor
open Go.RowKit

set_option maxHeartbeats 4000000 in
set_option maxRecDepth 100000 in
theorem step_trap (R : Nat) (aa : Option Addr) (na ca gh ch : Nat) (ta : Option Addr) (nt ct : Nat) (fuel k0 value : Int) (gv nv cv G n cn : Nat) (b pc : Int) (ka : Option Addr) (kn kc : Nat) (D xa xb : Nat) (vals hp tr K : List Int) (Bt : Nat) (w : World)
    (hst : Hid (PSt w w R aa na ca gh ch ta nt ct fuel k0 value gv nv cv G n cn b pc ka kn kc Bt vals hp tr K)) (hnv : Hid (nv = vals.length)) (hBn : xb < nv) (hz : getN vals (xb : Int) = 0) (hR : R < Bt) (hgv : gv < Bt) (hgh : gh < Bt) (hRv : R ≠ gv) (hRh : R ≠ gh) (hB : Bt ≤ w.heap.size) :
    Calls Tryd.prog 117 #[.pointer (some ⟨R, 0, none⟩), .iface 219 (.agg #[.int .i64 6, .int .i64 D, .int .i64 xa, .int .i64 xb])] w
      fun e w' => e = .returned (.int .i64 2) ∧ PSt w w' R aa na ca gh ch ta nt ct fuel k0 value gv nv cv G n cn b pc ka kn kc Bt vals hp tr K := by
  have ba := fun o => balloc (Below.refl w.heap.size w) o
  have c6 := fun x => ((ba x).cell (p := ⟨R, 6, none⟩) (by show R < _; omega)).trans hst.out.2.1.c6
  have n1 : w.heap.size ≠ R := by omega
  have n2 : w.heap.size ≠ gv := by omega
  have n3 : R ≠ w.heap.size := by omega
  have n4 : gv ≠ w.heap.size := by omega
  have n5 : gv ≠ R := fun e => hRv e.symm
  have n6 : gh ≠ R := fun e => hRh e.symm
  have n7 : gh ≠ w.heap.size := by omega
  have hvh := hst.out.2.2.mem.ne
  have hhv : gh ≠ gv := fun e => hvh e.symm
  have hBx : xb < vals.length := by have := hnv.out; omega
  have VB0 := hst.out.2.2.mem.vals.2 xb hBx
  rw [getN_of _ _ hBx] at hz
  rw [hz] at VB0
  have HF := fun x => hide ((hst.out.next hB hR (ba x)).drew)
  have cb1 := fun x => ((ba x).cell (p := ⟨gv, xb, none⟩) (by show gv < _; omega)).trans VB0
  have Y := fun xT v w => assert_yes Tryd.underlying219 xT v w
  have NC := fun xT v w => assert_no (t := 219) Tryd.underlying214 Tryd.zeroC (by decide) xT v w
  go_enter Tryd.func117, Tryd.ntmps117
  go_wp2
  go_region_held3 (fun w' => w'.cell? ⟨w.heap.size, 0, none⟩ = some (.int .i64 6) ∧ w'.cell? ⟨R, 6, none⟩ = some (.slice (some ⟨gv, 0, none⟩) nv cv) ∧ w'.cell? ⟨w.heap.size, 3, none⟩ = some (.int .i64 xb) ∧ w'.cell? ⟨gv, xb, none⟩ = some (.int .i64 0)) (go_keep) (fail)
  go_wp2
  go_ret
  exact ⟨rfl, (HF _).out⟩
end Go.Proofs.YtdcdgopblbmgoaaDoor

namespace Go.Proofs.YtdcdgopblbmgoaaDoor
open Go.RowKit

set_option maxHeartbeats 4000000 in
set_option maxRecDepth 100000 in
theorem step_copy (R : Nat) (aa : Option Addr) (na ca gh ch : Nat) (ta : Option Addr) (nt ct : Nat) (fuel k0 value : Int) (gv nv cv G n cn : Nat) (b pc : Int) (ka : Option Addr) (kn kc : Nat) (D xa : Nat) (vals hp tr K : List Int) (Bt : Nat) (w : World)
    (hst : Hid (PSt w w R aa na ca gh ch ta nt ct fuel k0 value gv nv cv G n cn b pc ka kn kc Bt vals hp tr K)) (hnv : Hid (nv = vals.length)) (hD : D < nv) (hA : xa < nv) (hR : R < Bt) (hgv : gv < Bt) (hgh : gh < Bt) (hRv : R ≠ gv) (hRh : R ≠ gh) (hB : Bt ≤ w.heap.size) :
    Calls Tryd.prog 117 #[.pointer (some ⟨R, 0, none⟩), .iface 222 (.agg #[.int .i64 D, .int .i64 xa])] w
      fun e w' => e = .returned (.int .i64 0) ∧ PSt w w' R aa na ca gh ch ta nt ct fuel k0 value gv nv cv G n cn b pc ka kn kc Bt (vals.set D (getN vals xa)) hp tr K := by
  have ba := fun o => balloc (Below.refl w.heap.size w) o
  have c6 := fun x => ((ba x).cell (p := ⟨R, 6, none⟩) (by show R < _; omega)).trans hst.out.2.1.c6
  have n1 : w.heap.size ≠ R := by omega
  have n2 : w.heap.size ≠ gv := by omega
  have n3 : R ≠ w.heap.size := by omega
  have n4 : gv ≠ w.heap.size := by omega
  have n5 : gv ≠ R := fun e => hRv e.symm
  have n6 : gh ≠ R := fun e => hRh e.symm
  have n7 : gh ≠ w.heap.size := by omega
  have hvh := hst.out.2.2.mem.ne
  have hhv : gh ≠ gv := fun e => hvh e.symm
  have hDx : D < vals.length := by have := hnv.out; omega
  have hAx : xa < vals.length := by have := hnv.out; omega
  rw [getN_of _ _ hAx]
  have VD0 := hst.out.2.2.mem.vals.2 D hDx
  have VZ0 := hst.out.2.2.mem.vals.frozen D
  have VA0 := hst.out.2.2.mem.vals.2 xa hAx
  have HF := fun x => hide ((((hst.out.next hB hR (ba x)).setV hgv hRv hDx vals[xa])).drew)
  have cd := fun x => ((ba x).cell (p := ⟨gv, D, none⟩) (by show gv < _; omega)).trans VD0
  have cz := fun x => ((ba x).frozen (p := ⟨gv, D, none⟩) (by show gv < _; omega)).trans VZ0
  have ca1 := fun x => ((ba x).cell (p := ⟨gv, xa, none⟩) (by show gv < _; omega)).trans VA0
  have cs : ∀ x, ((w.alloc x).setCell ⟨gv, D, none⟩ (.int .i64 vals[xa])).cell? ⟨gv, xa, none⟩ = some (.int .i64 vals[xa]) := fun x => by
    by_cases e : xa = D
    · subst e
      exact World.cell?_setCell_same' _ _ _ (by simp [cd x])
    · exact (World.cell?_setCell_other _ _ _ _ (by intro e2; injection e2 with _ e3; omega)).trans (ca1 x)
  generalize vals[D] = VD at *
  generalize vals[xa] = VA at *
  have Y := fun xT v w => assert_yes Tryd.underlying222 xT v w
  have NC := fun xT v w => assert_no (t := 222) Tryd.underlying214 Tryd.zeroC (by decide) xT v w
  have NA := fun xT v w => assert_no (t := 222) Tryd.underlying219 Tryd.zeroA (by decide) xT v w
  have NH := fun xT v w => assert_no (t := 222) Tryd.underlying216 Tryd.zeroH (by decide) xT v w
  have NO := fun xT v w => assert_no (t := 222) Tryd.underlying218 Tryd.zeroO (by decide) xT v w
  go_enter Tryd.func117, Tryd.ntmps117
  go_wp2
  go_region_held3 (fun w' => w'.cell? ⟨R, 6, none⟩ = some (.slice (some ⟨gv, 0, none⟩) nv cv) ∧ w'.cell? ⟨w.heap.size, 0, none⟩ = some (.int .i64 D) ∧ w'.cell? ⟨w.heap.size, 1, none⟩ = some (.int .i64 xa) ∧ w'.cell? ⟨gv, xa, none⟩ = some (.int .i64 VA)) (go_keep) (fail)
  go_wp2
  go_ret
  exact ⟨rfl, (HF _).out⟩
end Go.Proofs.YtdcdgopblbmgoaaDoor
