/-
  DERIVED. GIVEN WITH THE SEED: THE CARDS: each row of YthgikffcdgpgiaaGreatDoorRows.lean that lists a variable, with what it lists TIED to the program's text (the seventh form; the later family's looks); each row that meets fmt, with fmt's text TOLD by the authors' own Lean function (tested against real Go, not proved from fmt's source: count such statements apart). THE CARD IS WHAT COUNTS. Prove the row's statement (the work); the ties are given (YthgikffcdgpgiaaGreatDoorTie.lean); close each card by the builder's one call (the guide's Derived/Test/ToyasCard.lean, 'card_holds'). Laid BY PROGRAM, IN A SANDBOX (cutbox-door.mjs). By AI agents, Wed Nov 11 2026. No macro, syntax, notation, axiom, sorry.
-/
import Derived.Test.YthgikffcdgpgiaaGreatDoorRows
import GoSem.ClaimSeven
namespace Go.Proofs.YthgikffcdgpgiaaGreatDoor
namespace Rows

/-- THE TIED CARD OF 'laws.FnExactColor'. -/
def fnExactColorCard : Claim7 := { stood := { row := fnExactColorRow, standIns := [], harness := (true, "19590000f24db5fe46f4f9e7ca0dc21ed1ebed35368fe9a6cacc3bb926b6401c"), looks := false }, kinds := [], alts := [], laidByText := true, laidKinds := [.data, .data, .data], laidTests := true, laidLooks := .later }
def FnExactColorCardSaid : Prop := Claim7.holds Tryz.pinned (.plain (OpenSpec.ofChange fnExactColorSpec)) fnExactColorCard

/-- THE TIED CARD OF 'laws.FnExactProperColoring'. -/
def fnExactProperColoringCard : Claim7 := { stood := { row := fnExactProperColoringRow, standIns := [], harness := (true, "19590000f24db5fe46f4f9e7ca0dc21ed1ebed35368fe9a6cacc3bb926b6401c"), looks := false }, kinds := [], alts := [], laidByText := true, laidKinds := [.data, .data, .data], laidTests := true, laidLooks := .later }
def FnExactProperColoringCardSaid : Prop := Claim7.holds Tryz.pinned (.plain (OpenSpec.ofChange fnExactProperColoringSpec)) fnExactProperColoringCard

/-- THE SECOND FORM's CARD OF 'laws.FnExactColor'. -/
def fnExactColorUptoCard : Claim7 := { stood := { row := fnExactColorUptoRow, standIns := [], harness := (true, "19590000f24db5fe46f4f9e7ca0dc21ed1ebed35368fe9a6cacc3bb926b6401c"), looks := false }, kinds := [], alts := [], laidByText := true, laidKinds := [.data, .data, .data], laidTests := true, laidLooks := .later }
def FnExactColorUptoCardSaid : Prop := Claim7.holds Tryz.pinned (.plain (OpenSpec.upto fnExactColorSpec)) fnExactColorUptoCard

/-- THE SECOND FORM's CARD OF 'laws.FnExactProperColoring'. -/
def fnExactProperColoringUptoCard : Claim7 := { stood := { row := fnExactProperColoringUptoRow, standIns := [], harness := (true, "19590000f24db5fe46f4f9e7ca0dc21ed1ebed35368fe9a6cacc3bb926b6401c"), looks := false }, kinds := [], alts := [], laidByText := true, laidKinds := [.data, .data, .data], laidTests := true, laidLooks := .later }
def FnExactProperColoringUptoCardSaid : Prop := Claim7.holds Tryz.pinned (.plain (OpenSpec.upto fnExactProperColoringSpec)) fnExactProperColoringUptoCard
end Rows
end Go.Proofs.YthgikffcdgpgiaaGreatDoor
