/-
  DERIVED. GIVEN WITH THE SEED: THE CARDS: each row of YtcncjgijikoapaaGreatDoorRows.lean that lists a variable, with what it lists TIED to the program's text (the seventh form; the later family's looks); each row that meets fmt, with fmt's text TOLD by the authors' own Lean function (tested against real Go, not proved from fmt's source: count such statements apart). THE CARD IS WHAT COUNTS. Prove the row's statement (the work); the ties are given (YtcncjgijikoapaaGreatDoorTie.lean); close each card by the builder's one call (the guide's Derived/Test/ToyasCard.lean, 'card_holds'). Laid BY PROGRAM, IN A SANDBOX (cutbox-door.mjs). By AI agents, Wed Nov 11 2026. No macro, syntax, notation, axiom, sorry.
-/
import Derived.Test.YtcncjgijikoapaaGreatDoorRows
import GoSem.ClaimSeven
namespace Go.Proofs.YtcncjgijikoapaaGreatDoor
namespace Rows

/-- THE TIED CARD OF 'laws.FnCheckAccepts'. -/
def fnCheckAcceptsCard : Claim7 := { stood := { row := fnCheckAcceptsRow, standIns := [], harness := (true, "daa75eb8ec07897c622a092780389d8a223e78612f4ce7ec2d33d1b30956869b"), looks := true }, kinds := [], alts := [], laidByText := true, laidKinds := [.data, .data, .data], laidTests := true, laidLooks := .later }
def FnCheckAcceptsCardSaid : Prop := Claim7.holds Tryz.pinned (.plain (OpenSpec.ofChange fnCheckAcceptsSpec)) fnCheckAcceptsCard

/-- THE SECOND FORM's CARD OF 'laws.FnCheckAccepts'. -/
def fnCheckAcceptsUptoCard : Claim7 := { stood := { row := fnCheckAcceptsUptoRow, standIns := [], harness := (true, "daa75eb8ec07897c622a092780389d8a223e78612f4ce7ec2d33d1b30956869b"), looks := true }, kinds := [], alts := [], laidByText := true, laidKinds := [.data, .data, .data], laidTests := true, laidLooks := .later }
def FnCheckAcceptsUptoCardSaid : Prop := Claim7.holds Tryz.pinned (.plain (OpenSpec.upto fnCheckAcceptsSpec)) fnCheckAcceptsUptoCard
end Rows
end Go.Proofs.YtcncjgijikoapaaGreatDoor
