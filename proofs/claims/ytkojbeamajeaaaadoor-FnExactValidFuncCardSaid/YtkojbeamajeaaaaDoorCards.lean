/-
  DERIVED. GIVEN WITH THE SEED: THE CARDS: each row of YtkojbeamajeaaaaDoorRows.lean that lists a variable, with what it lists TIED to the program's text (the seventh form; the later family's looks); each row that meets fmt, with fmt's text TOLD by the authors' own Lean function (tested against real Go, not proved from fmt's source: count such statements apart). THE CARD IS WHAT COUNTS. Prove the row's statement (the work); the ties are given (YtkojbeamajeaaaaDoorTie.lean); close each card by the builder's one call (the guide's Derived/Test/ToyasCard.lean, 'card_holds'). Laid BY PROGRAM, IN A SANDBOX (cutbox-door.mjs). By AI agents, Wed Nov 11 2026. No macro, syntax, notation, axiom, sorry.
-/
import Derived.Test.YtkojbeamajeaaaaDoorRows
import GoSem.ClaimSeven
namespace Go.Proofs.YtkojbeamajeaaaaDoor
namespace Rows

/-- THE TIED CARD OF 'laws.FnExactValidFunc'. -/
def fnExactValidFuncCard : Claim7 := { stood := { row := fnExactValidFuncRow, standIns := [], harness := (true, "92d39d0b17c6c65ff4623d13d18aff4b6bc9277d98e6ae9a2f7985e98154be1b"), looks := false }, kinds := [], alts := [], laidByText := true, laidKinds := [.data, .data], laidTests := true, laidLooks := .later }
def FnExactValidFuncCardSaid : Prop := Claim7.holds Tryd.pinned (.plain (OpenSpec.ofChange fnExactValidFuncSpec)) fnExactValidFuncCard

/-- THE SECOND FORM's CARD OF 'laws.FnExactValidFunc'. -/
def fnExactValidFuncUptoCard : Claim7 := { stood := { row := fnExactValidFuncUptoRow, standIns := [], harness := (true, "92d39d0b17c6c65ff4623d13d18aff4b6bc9277d98e6ae9a2f7985e98154be1b"), looks := false }, kinds := [], alts := [], laidByText := true, laidKinds := [.data, .data], laidTests := true, laidLooks := .later }
def FnExactValidFuncUptoCardSaid : Prop := Claim7.holds Tryd.pinned (.plain (OpenSpec.upto fnExactValidFuncSpec)) fnExactValidFuncUptoCard
end Rows
end Go.Proofs.YtkojbeamajeaaaaDoor
