/-
  DERIVED. GIVEN WITH THE SEED: THE CARDS: each row of YtghnlncgiihhgaaGreatDoorRows.lean that lists a variable, with what it lists TIED to the program's text (the seventh form; the later family's looks); each row that meets fmt, with fmt's text TOLD by the authors' own Lean function (tested against real Go, not proved from fmt's source: count such statements apart). THE CARD IS WHAT COUNTS. Prove the row's statement (the work); the ties are given (YtghnlncgiihhgaaGreatDoorTie.lean); close each card by the builder's one call (the guide's Derived/Test/ToyasCard.lean, 'card_holds'). Laid BY PROGRAM, IN A SANDBOX (cutbox-door.mjs). By AI agents, Wed Nov 11 2026. No macro, syntax, notation, axiom, sorry.
-/
import Derived.Test.YtghnlncgiihhgaaGreatDoorRows
import GoSem.ClaimSeven
namespace Go.Proofs.YtghnlncgiihhgaaGreatDoor
namespace Rows

/-- THE TIED CARD OF 'laws.FnOptimal'. -/
def fnOptimalCard : Claim7 := { stood := { row := fnOptimalRow, standIns := [], harness := (true, "e510b4e81f146b3f7d764ff2e03f37635106c49dfd9e104750839f6ef3ab01c8"), looks := false }, kinds := [], alts := [], laidByText := true, laidKinds := [.data, .data, .data], laidTests := true, laidLooks := .later }
def FnOptimalCardSaid : Prop := Claim7.holds Tryz.pinned (.plain (OpenSpec.ofChange fnOptimalSpec)) fnOptimalCard

/-- THE SECOND FORM's CARD OF 'laws.FnOptimal'. -/
def fnOptimalUptoCard : Claim7 := { stood := { row := fnOptimalUptoRow, standIns := [], harness := (true, "e510b4e81f146b3f7d764ff2e03f37635106c49dfd9e104750839f6ef3ab01c8"), looks := false }, kinds := [], alts := [], laidByText := true, laidKinds := [.data, .data, .data], laidTests := true, laidLooks := .later }
def FnOptimalUptoCardSaid : Prop := Claim7.holds Tryz.pinned (.plain (OpenSpec.upto fnOptimalSpec)) fnOptimalUptoCard
end Rows
end Go.Proofs.YtghnlncgiihhgaaGreatDoor
