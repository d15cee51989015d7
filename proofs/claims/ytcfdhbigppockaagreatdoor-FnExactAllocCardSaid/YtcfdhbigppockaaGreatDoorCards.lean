/-
  DERIVED. GIVEN WITH THE SEED: THE CARDS: each row of YtcfdhbigppockaaGreatDoorRows.lean that lists a variable, with what it lists TIED to the program's text (the seventh form; the later family's looks); each row that meets fmt, with fmt's text TOLD by the authors' own Lean function (tested against real Go, not proved from fmt's source: count such statements apart). THE CARD IS WHAT COUNTS. Prove the row's statement (the work); the ties are given (YtcfdhbigppockaaGreatDoorTie.lean); close each card by the builder's one call (the guide's Derived/Test/ToyasCard.lean, 'card_holds'). Laid BY PROGRAM, IN A SANDBOX (cutbox-door.mjs). By AI agents, Wed Nov 11 2026. No macro, syntax, notation, axiom, sorry.
-/
import Derived.Test.YtcfdhbigppockaaGreatDoorRows
import GoSem.ClaimSeven
namespace Go.Proofs.YtcfdhbigppockaaGreatDoor
namespace Rows

/-- THE TIED CARD OF 'laws.FnExactAlloc'. -/
def fnExactAllocCard : Claim7 := { stood := { row := fnExactAllocRow, standIns := [], harness := (true, "4da0a881096ef35243cbad1c7e97663215d99ac504227d382c05448c7ba360d1"), looks := true }, kinds := [], alts := [], laidByText := true, laidKinds := [.data, .data, .handle, .data, .data, .pinned], laidTests := true, laidLooks := .later }
def FnExactAllocCardSaid : Prop := Claim7.holds Tryz.pinned (.plain (OpenSpec.ofChange fnExactAllocSpec)) fnExactAllocCard

/-- THE SECOND FORM's CARD OF 'laws.FnExactAlloc'. -/
def fnExactAllocUptoCard : Claim7 := { stood := { row := fnExactAllocUptoRow, standIns := [], harness := (true, "4da0a881096ef35243cbad1c7e97663215d99ac504227d382c05448c7ba360d1"), looks := true }, kinds := [], alts := [], laidByText := true, laidKinds := [.data, .data, .handle, .data, .data, .pinned], laidTests := true, laidLooks := .later }
def FnExactAllocUptoCardSaid : Prop := Claim7.holds Tryz.pinned (.plain (OpenSpec.upto fnExactAllocSpec)) fnExactAllocUptoCard
end Rows
end Go.Proofs.YtcfdhbigppockaaGreatDoor
