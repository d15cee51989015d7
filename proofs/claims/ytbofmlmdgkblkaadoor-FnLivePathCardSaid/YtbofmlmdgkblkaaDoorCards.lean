/-
  DERIVED. GIVEN WITH THE SEED: THE CARDS: each row of YtbofmlmdgkblkaaDoorRows.lean that lists a variable, with what it lists TIED to the program's text (the seventh form; the later family's looks); each row that meets fmt, with fmt's text TOLD by the authors' own Lean function (tested against real Go, not proved from fmt's source: count such statements apart). THE CARD IS WHAT COUNTS. Prove the row's statement (the work); the ties are given (YtbofmlmdgkblkaaDoorTie.lean); close each card by the builder's one call (the guide's Derived/Test/ToyasCard.lean, 'card_holds'). Laid BY PROGRAM, IN A SANDBOX (cutbox-door.mjs). By AI agents, Wed Nov 11 2026. No macro, syntax, notation, axiom, sorry.
-/
import Derived.Test.YtbofmlmdgkblkaaDoorRows
import GoSem.ClaimSeven
namespace Go.Proofs.YtbofmlmdgkblkaaDoor
namespace Rows

/-- THE TIED CARD OF 'laws.FnLivePath'. -/
def fnLivePathCard : Claim7 := { stood := { row := fnLivePathRow, standIns := [], harness := (true, "5fcd5659f6f3ca3131ced7eb80ac88765b1bcc11ae6de5922aa09d0355aa8d83"), looks := false }, kinds := [], alts := [], laidByText := true, laidKinds := [.data, .data, .data], laidTests := true, laidLooks := .later }
def FnLivePathCardSaid : Prop := Claim7.holds Tryd.pinned (.plain (OpenSpec.ofChange fnLivePathSpec)) fnLivePathCard

/-- THE SECOND FORM's CARD OF 'laws.FnLivePath'. -/
def fnLivePathUptoCard : Claim7 := { stood := { row := fnLivePathUptoRow, standIns := [], harness := (true, "5fcd5659f6f3ca3131ced7eb80ac88765b1bcc11ae6de5922aa09d0355aa8d83"), looks := false }, kinds := [], alts := [], laidByText := true, laidKinds := [.data, .data, .data], laidTests := true, laidLooks := .later }
def FnLivePathUptoCardSaid : Prop := Claim7.holds Tryd.pinned (.plain (OpenSpec.upto fnLivePathSpec)) fnLivePathUptoCard
end Rows
end Go.Proofs.YtbofmlmdgkblkaaDoor
