/-
  DERIVED. GIVEN WITH THE SEED: THE CARDS: each row of YtffcajcgkblkoaaGreatDoorRows.lean that lists a variable, with what it lists TIED to the program's text (the seventh form; the later family's looks); each row that meets fmt, with fmt's text TOLD by the authors' own Lean function (tested against real Go, not proved from fmt's source: count such statements apart). THE CARD IS WHAT COUNTS. Prove the row's statement (the work); the ties are given (YtffcajcgkblkoaaGreatDoorTie.lean); close each card by the builder's one call (the guide's Derived/Test/ToyasCard.lean, 'card_holds'). Laid BY PROGRAM, IN A SANDBOX (cutbox-door.mjs). By AI agents, Wed Nov 11 2026. No macro, syntax, notation, axiom, sorry.
-/
import Derived.Test.YtffcajcgkblkoaaGreatDoorRows
import GoSem.ClaimSeven
namespace Go.Proofs.YtffcajcgkblkoaaGreatDoor
namespace Rows

/-- THE TIED CARD OF 'laws.FnLowerShape'. -/
def fnLowerShapeCard : Claim7 := { stood := { row := fnLowerShapeRow, standIns := [], harness := (true, "5c71483bfbf9ec3762f9d43d2850f41cd012de7ca5222d640ebc74c498140426"), looks := false }, kinds := [], alts := [], laidByText := true, laidKinds := [.data, .data, .data], laidTests := true, laidLooks := .later }
def FnLowerShapeCardSaid : Prop := Claim7.holds Tryz.pinned (.plain (OpenSpec.ofChange fnLowerShapeSpec)) fnLowerShapeCard

/-- THE SECOND FORM's CARD OF 'laws.FnLowerShape'. -/
def fnLowerShapeUptoCard : Claim7 := { stood := { row := fnLowerShapeUptoRow, standIns := [], harness := (true, "5c71483bfbf9ec3762f9d43d2850f41cd012de7ca5222d640ebc74c498140426"), looks := false }, kinds := [], alts := [], laidByText := true, laidKinds := [.data, .data, .data], laidTests := true, laidLooks := .later }
def FnLowerShapeUptoCardSaid : Prop := Claim7.holds Tryz.pinned (.plain (OpenSpec.upto fnLowerShapeSpec)) fnLowerShapeUptoCard
end Rows
end Go.Proofs.YtffcajcgkblkoaaGreatDoor
