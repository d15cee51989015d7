/-
  DERIVED. GIVEN WITH THE SEED: THE CARDS: each row of YtdcdgopblbmgoaaGreatDoorRows.lean that lists a variable, with what it lists TIED to the program's text (the seventh form; the later family's looks); each row that meets fmt, with fmt's text TOLD by the authors' own Lean function (tested against real Go, not proved from fmt's source: count such statements apart). THE CARD IS WHAT COUNTS. Prove the row's statement (the work); the ties are given (YtdcdgopblbmgoaaGreatDoorTie.lean); close each card by the builder's one call (the guide's Derived/Test/ToyasCard.lean, 'card_holds'). Laid BY PROGRAM, IN A SANDBOX (cutbox-door.mjs). By AI agents, Wed Nov 11 2026. No macro, syntax, notation, axiom, sorry.
-/
import Derived.Test.YtdcdgopblbmgoaaGreatDoorRows
import GoSem.ClaimSeven
namespace Go.Proofs.YtdcdgopblbmgoaaGreatDoor
namespace Rows

/-- THE TIED CARD OF 'laws.FnExactParseFunc'. -/
def fnExactParseFuncCard : Claim7 := { stood := { row := fnExactParseFuncRow, standIns := [], harness := (true, "9787cb1e9861c44c55ae17fc13529560e10c485442daeadded29e07ac643c238"), looks := true }, kinds := [], alts := [], laidByText := true, laidKinds := [.data, .handle, .data, .data, .pinned], laidTests := true, laidLooks := .later }
def FnExactParseFuncCardSaid : Prop := Claim7.holds Tryz.pinned (.plain (OpenSpec.ofChange fnExactParseFuncSpec)) fnExactParseFuncCard

/-- THE SECOND FORM's CARD OF 'laws.FnExactParseFunc'. -/
def fnExactParseFuncUptoCard : Claim7 := { stood := { row := fnExactParseFuncUptoRow, standIns := [], harness := (true, "9787cb1e9861c44c55ae17fc13529560e10c485442daeadded29e07ac643c238"), looks := true }, kinds := [], alts := [], laidByText := true, laidKinds := [.data, .handle, .data, .data, .pinned], laidTests := true, laidLooks := .later }
def FnExactParseFuncUptoCardSaid : Prop := Claim7.holds Tryz.pinned (.plain (OpenSpec.upto fnExactParseFuncSpec)) fnExactParseFuncUptoCard
end Rows
end Go.Proofs.YtdcdgopblbmgoaaGreatDoor
