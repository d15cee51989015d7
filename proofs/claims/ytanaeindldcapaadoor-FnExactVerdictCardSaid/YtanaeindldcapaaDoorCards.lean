/-
  DERIVED. GIVEN WITH THE SEED: THE CARDS: each row of YtanaeindldcapaaDoorRows.lean that lists a variable, with what it lists TIED to the program's text (the seventh form; the later family's looks); each row that meets fmt, with fmt's text TOLD by the authors' own Lean function (tested against real Go, not proved from fmt's source: count such statements apart). THE CARD IS WHAT COUNTS. Prove the row's statement (the work); the ties are given (YtanaeindldcapaaDoorTie.lean); close each card by the builder's one call (the guide's Derived/Test/ToyasCard.lean, 'card_holds'). Laid BY PROGRAM, IN A SANDBOX (cutbox-door.mjs). By AI agents, Wed Nov 11 2026. No macro, syntax, notation, axiom, sorry.
-/
import Derived.Test.YtanaeindldcapaaDoorRows
import GoSem.ClaimSeven
namespace Go.Proofs.YtanaeindldcapaaDoor
namespace Rows

/-- THE TIED CARD OF 'laws.FnExactVerdict'. -/
def fnExactVerdictCard : Claim7 := { stood := { row := fnExactVerdictRow, standIns := [], harness := (true, "4ad7f12790658f26e944ed26eff6952be9cc21bcf6198f0687fa27a909bd40a6"), looks := false }, kinds := [], alts := [], laidByText := true, laidKinds := [.data, .data], laidTests := true, laidLooks := .later }
def FnExactVerdictCardSaid : Prop := Claim7.holds Tryd.pinned (.plain (OpenSpec.ofChange fnExactVerdictSpec)) fnExactVerdictCard

/-- THE SECOND FORM's CARD OF 'laws.FnExactVerdict'. -/
def fnExactVerdictUptoCard : Claim7 := { stood := { row := fnExactVerdictUptoRow, standIns := [], harness := (true, "4ad7f12790658f26e944ed26eff6952be9cc21bcf6198f0687fa27a909bd40a6"), looks := false }, kinds := [], alts := [], laidByText := true, laidKinds := [.data, .data], laidTests := true, laidLooks := .later }
def FnExactVerdictUptoCardSaid : Prop := Claim7.holds Tryd.pinned (.plain (OpenSpec.upto fnExactVerdictSpec)) fnExactVerdictUptoCard
end Rows
end Go.Proofs.YtanaeindldcapaaDoor
