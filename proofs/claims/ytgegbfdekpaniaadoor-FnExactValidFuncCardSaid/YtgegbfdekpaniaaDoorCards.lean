/-
  DERIVED. GIVEN WITH THE SEED: THE CARDS: each row of YtgegbfdekpaniaaDoorRows.lean that lists a variable, with what it lists TIED to the program's text (the seventh form; the later family's looks); each row that meets fmt, with fmt's text TOLD by the authors' own Lean function (tested against real Go, not proved from fmt's source: count such statements apart). THE CARD IS WHAT COUNTS. Prove the row's statement (the work); the ties are given (YtgegbfdekpaniaaDoorTie.lean); close each card by the builder's one call (the guide's Derived/Test/ToyasCard.lean, 'card_holds'). Laid BY PROGRAM, IN A SANDBOX (cutbox-door.mjs). By AI agents, Wed Nov 11 2026. No macro, syntax, notation, axiom, sorry.
-/
import Derived.Test.YtgegbfdekpaniaaDoorRows
import GoSem.ClaimSeven
namespace Go.Proofs.YtgegbfdekpaniaaDoor
namespace Rows

/-- THE TIED CARD OF 'laws.FnLivePath'. -/
def fnLivePathCard : Claim7 := { stood := { row := fnLivePathRow, standIns := [], harness := (true, "623e6e48ac368210696e1760d19592302c2bbf235c6b6367bc067255406eb91b"), looks := false }, kinds := [], alts := [], laidByText := true, laidKinds := [.data, .data, .data], laidTests := true, laidLooks := .later }
def FnLivePathCardSaid : Prop := Claim7.holds Tryd.pinned (.plain (OpenSpec.ofChange fnLivePathSpec)) fnLivePathCard

/-- THE TIED CARD OF 'laws.FnDominators'. -/
def fnDominatorsCard : Claim7 := { stood := { row := fnDominatorsRow, standIns := [], harness := (true, "623e6e48ac368210696e1760d19592302c2bbf235c6b6367bc067255406eb91b"), looks := false }, kinds := [], alts := [], laidByText := true, laidKinds := [.data, .data], laidTests := true, laidLooks := .later }
def FnDominatorsCardSaid : Prop := Claim7.holds Tryd.pinned (.plain (OpenSpec.ofChange fnDominatorsSpec)) fnDominatorsCard

/-- THE TIED CARD OF 'laws.FnExactValidFunc'. -/
def fnExactValidFuncCard : Claim7 := { stood := { row := fnExactValidFuncRow, standIns := [], harness := (true, "623e6e48ac368210696e1760d19592302c2bbf235c6b6367bc067255406eb91b"), looks := false }, kinds := [], alts := [], laidByText := true, laidKinds := [.data, .data], laidTests := true, laidLooks := .later }
def FnExactValidFuncCardSaid : Prop := Claim7.holds Tryd.pinned (.plain (OpenSpec.ofChange fnExactValidFuncSpec)) fnExactValidFuncCard

/-- THE SECOND FORM's CARD OF 'laws.FnLivePath'. -/
def fnLivePathUptoCard : Claim7 := { stood := { row := fnLivePathUptoRow, standIns := [], harness := (true, "623e6e48ac368210696e1760d19592302c2bbf235c6b6367bc067255406eb91b"), looks := false }, kinds := [], alts := [], laidByText := true, laidKinds := [.data, .data, .data], laidTests := true, laidLooks := .later }
def FnLivePathUptoCardSaid : Prop := Claim7.holds Tryd.pinned (.plain (OpenSpec.upto fnLivePathSpec)) fnLivePathUptoCard

/-- THE SECOND FORM's CARD OF 'laws.FnDominators'. -/
def fnDominatorsUptoCard : Claim7 := { stood := { row := fnDominatorsUptoRow, standIns := [], harness := (true, "623e6e48ac368210696e1760d19592302c2bbf235c6b6367bc067255406eb91b"), looks := false }, kinds := [], alts := [], laidByText := true, laidKinds := [.data, .data], laidTests := true, laidLooks := .later }
def FnDominatorsUptoCardSaid : Prop := Claim7.holds Tryd.pinned (.plain (OpenSpec.upto fnDominatorsSpec)) fnDominatorsUptoCard

/-- THE SECOND FORM's CARD OF 'laws.FnExactValidFunc'. -/
def fnExactValidFuncUptoCard : Claim7 := { stood := { row := fnExactValidFuncUptoRow, standIns := [], harness := (true, "623e6e48ac368210696e1760d19592302c2bbf235c6b6367bc067255406eb91b"), looks := false }, kinds := [], alts := [], laidByText := true, laidKinds := [.data, .data], laidTests := true, laidLooks := .later }
def FnExactValidFuncUptoCardSaid : Prop := Claim7.holds Tryd.pinned (.plain (OpenSpec.upto fnExactValidFuncSpec)) fnExactValidFuncUptoCard
end Rows
end Go.Proofs.YtgegbfdekpaniaaDoor
