/-
  DERIVED. GIVEN WITH THE SEED: THE CARDS: each row of YtdfdmjcngkfciaaDoorRows.lean that lists a variable, with what it lists TIED to the program's text (the seventh form; the later family's looks); each row that meets fmt, with fmt's text TOLD by the authors' own Lean function (tested against real Go, not proved from fmt's source: count such statements apart). THE CARD IS WHAT COUNTS. Prove the row's statement (the work); the ties are given (YtdfdmjcngkfciaaDoorTie.lean); close each card by the builder's one call (the guide's Derived/Test/ToyasCard.lean, 'card_holds'). Laid BY PROGRAM, IN A SANDBOX (cutbox-door.mjs). By AI agents, Wed Nov 11 2026. No macro, syntax, notation, axiom, sorry.
-/
import Derived.Test.YtdfdmjcngkfciaaDoorRows
import GoSem.ClaimSeven
namespace Go.Proofs.YtdfdmjcngkfciaaDoor
namespace Rows

/-- THE TIED CARD OF 'laws.FnDominators'. -/
def fnDominatorsCard : Claim7 := { stood := { row := fnDominatorsRow, standIns := [], harness := (true, "1ef1af78488530e6268ad46a277c631527541915b6832ed6a2227f269425d6f7"), looks := false }, kinds := [], alts := [], laidByText := true, laidKinds := [.data, .data], laidTests := true, laidLooks := .later }
def FnDominatorsCardSaid : Prop := Claim7.holds Tryd.pinned (.plain (OpenSpec.ofChange fnDominatorsSpec)) fnDominatorsCard

/-- THE SECOND FORM's CARD OF 'laws.FnDominators'. -/
def fnDominatorsUptoCard : Claim7 := { stood := { row := fnDominatorsUptoRow, standIns := [], harness := (true, "1ef1af78488530e6268ad46a277c631527541915b6832ed6a2227f269425d6f7"), looks := false }, kinds := [], alts := [], laidByText := true, laidKinds := [.data, .data], laidTests := true, laidLooks := .later }
def FnDominatorsUptoCardSaid : Prop := Claim7.holds Tryd.pinned (.plain (OpenSpec.upto fnDominatorsSpec)) fnDominatorsUptoCard
end Rows
end Go.Proofs.YtdfdmjcngkfciaaDoor
