/-
  DERIVED. GIVEN WITH THE SEED: THE CARDS: each row of YtlmaodcddbkllaaDoorRows.lean that lists a variable, with what it lists TIED to the program's text (the seventh form; the later family's looks); each row that meets fmt, with fmt's text TOLD by the authors' own Lean function (tested against real Go, not proved from fmt's source: count such statements apart). THE CARD IS WHAT COUNTS. Prove the row's statement (the work); the ties are given (YtlmaodcddbkllaaDoorTie.lean); close each card by the builder's one call (the guide's Derived/Test/ToyasCard.lean, 'card_holds'). Laid BY PROGRAM, IN A SANDBOX (cutbox-door.mjs). By AI agents, Wed Nov 11 2026. No macro, syntax, notation, axiom, sorry.
-/
import Derived.Test.YtlmaodcddbkllaaDoorRows
import GoSem.ClaimSeven
namespace Go.Proofs.YtlmaodcddbkllaaDoor
namespace Rows

/-- THE TIED CARD OF 'laws.FnLivePath'. -/
def fnLivePathCard : Claim7 := { stood := { row := fnLivePathRow, standIns := [], harness := (true, "e269c577a12cb64d4d3a60a43620c904cb52f602dd9cf52eb613deaf992c3d3c"), looks := false }, kinds := [], alts := [], laidByText := true, laidKinds := [.data, .data, .data], laidTests := true, laidLooks := .later }
def FnLivePathCardSaid : Prop := Claim7.holds Tryd.pinned (.plain (OpenSpec.ofChange fnLivePathSpec)) fnLivePathCard

/-- THE TIED CARD OF 'laws.FnDominators'. -/
def fnDominatorsCard : Claim7 := { stood := { row := fnDominatorsRow, standIns := [], harness := (true, "e269c577a12cb64d4d3a60a43620c904cb52f602dd9cf52eb613deaf992c3d3c"), looks := false }, kinds := [], alts := [], laidByText := true, laidKinds := [.data, .data], laidTests := true, laidLooks := .later }
def FnDominatorsCardSaid : Prop := Claim7.holds Tryd.pinned (.plain (OpenSpec.ofChange fnDominatorsSpec)) fnDominatorsCard

/-- THE TIED CARD OF 'laws.FnSequence'. -/
def fnSequenceCard : Claim7 := { stood := { row := fnSequenceRow, standIns := [], harness := (true, "e269c577a12cb64d4d3a60a43620c904cb52f602dd9cf52eb613deaf992c3d3c"), looks := false }, kinds := [], alts := [], laidByText := true, laidKinds := [.data], laidTests := true, laidLooks := .later }
def FnSequenceCardSaid : Prop := Claim7.holds Tryd.pinned (.plain (OpenSpec.ofChange fnSequenceSpec)) fnSequenceCard

/-- THE TIED CARD OF 'laws.FnExactValidFunc'. -/
def fnExactValidFuncCard : Claim7 := { stood := { row := fnExactValidFuncRow, standIns := [], harness := (true, "e269c577a12cb64d4d3a60a43620c904cb52f602dd9cf52eb613deaf992c3d3c"), looks := false }, kinds := [], alts := [], laidByText := true, laidKinds := [.data, .data], laidTests := true, laidLooks := .later }
def FnExactValidFuncCardSaid : Prop := Claim7.holds Tryd.pinned (.plain (OpenSpec.ofChange fnExactValidFuncSpec)) fnExactValidFuncCard

/-- THE TIED CARD OF 'laws.FnExactEncodeFunc'. -/
def fnExactEncodeFuncCard : Claim7 := { stood := { row := fnExactEncodeFuncRow, standIns := [], harness := (true, "e269c577a12cb64d4d3a60a43620c904cb52f602dd9cf52eb613deaf992c3d3c"), looks := false }, kinds := [], alts := [], laidByText := true, laidKinds := [.data, .data, .data, .data, .data], laidTests := true, laidLooks := .later }
def FnExactEncodeFuncCardSaid : Prop := Claim7.holds Tryd.pinned (.plain (OpenSpec.ofChange fnExactEncodeFuncSpec)) fnExactEncodeFuncCard

/-- THE TIED CARD OF 'laws.FnExactAnalyze'. -/
def fnExactAnalyzeCard : Claim7 := { stood := { row := fnExactAnalyzeRow, standIns := [], harness := (true, "e269c577a12cb64d4d3a60a43620c904cb52f602dd9cf52eb613deaf992c3d3c"), looks := false }, kinds := [], alts := [], laidByText := true, laidKinds := [.data, .data], laidTests := true, laidLooks := .later }
def FnExactAnalyzeCardSaid : Prop := Claim7.holds Tryd.pinned (.plain (OpenSpec.ofChange fnExactAnalyzeSpec)) fnExactAnalyzeCard

/-- THE TIED CARD OF 'laws.FnExactDominates'. -/
def fnExactDominatesCard : Claim7 := { stood := { row := fnExactDominatesRow, standIns := [], harness := (true, "e269c577a12cb64d4d3a60a43620c904cb52f602dd9cf52eb613deaf992c3d3c"), looks := false }, kinds := [], alts := [], laidByText := true, laidKinds := [.data, .data], laidTests := true, laidLooks := .later }
def FnExactDominatesCardSaid : Prop := Claim7.holds Tryd.pinned (.plain (OpenSpec.ofChange fnExactDominatesSpec)) fnExactDominatesCard

/-- THE TIED CARD OF 'laws.FnExactVerdict'. -/
def fnExactVerdictCard : Claim7 := { stood := { row := fnExactVerdictRow, standIns := [], harness := (true, "e269c577a12cb64d4d3a60a43620c904cb52f602dd9cf52eb613deaf992c3d3c"), looks := false }, kinds := [], alts := [], laidByText := true, laidKinds := [.data, .data], laidTests := true, laidLooks := .later }
def FnExactVerdictCardSaid : Prop := Claim7.holds Tryd.pinned (.plain (OpenSpec.ofChange fnExactVerdictSpec)) fnExactVerdictCard

/-- THE TIED CARD OF 'laws.FnExactSequence'. -/
def fnExactSequenceCard : Claim7 := { stood := { row := fnExactSequenceRow, standIns := [], harness := (true, "e269c577a12cb64d4d3a60a43620c904cb52f602dd9cf52eb613deaf992c3d3c"), looks := false }, kinds := [], alts := [], laidByText := true, laidKinds := [.data], laidTests := true, laidLooks := .later }
def FnExactSequenceCardSaid : Prop := Claim7.holds Tryd.pinned (.plain (OpenSpec.ofChange fnExactSequenceSpec)) fnExactSequenceCard

/-- THE SECOND FORM's CARD OF 'laws.FnLivePath'. -/
def fnLivePathUptoCard : Claim7 := { stood := { row := fnLivePathUptoRow, standIns := [], harness := (true, "e269c577a12cb64d4d3a60a43620c904cb52f602dd9cf52eb613deaf992c3d3c"), looks := false }, kinds := [], alts := [], laidByText := true, laidKinds := [.data, .data, .data], laidTests := true, laidLooks := .later }
def FnLivePathUptoCardSaid : Prop := Claim7.holds Tryd.pinned (.plain (OpenSpec.upto fnLivePathSpec)) fnLivePathUptoCard

/-- THE SECOND FORM's CARD OF 'laws.FnDominators'. -/
def fnDominatorsUptoCard : Claim7 := { stood := { row := fnDominatorsUptoRow, standIns := [], harness := (true, "e269c577a12cb64d4d3a60a43620c904cb52f602dd9cf52eb613deaf992c3d3c"), looks := false }, kinds := [], alts := [], laidByText := true, laidKinds := [.data, .data], laidTests := true, laidLooks := .later }
def FnDominatorsUptoCardSaid : Prop := Claim7.holds Tryd.pinned (.plain (OpenSpec.upto fnDominatorsSpec)) fnDominatorsUptoCard

/-- THE SECOND FORM's CARD OF 'laws.FnSequence'. -/
def fnSequenceUptoCard : Claim7 := { stood := { row := fnSequenceUptoRow, standIns := [], harness := (true, "e269c577a12cb64d4d3a60a43620c904cb52f602dd9cf52eb613deaf992c3d3c"), looks := false }, kinds := [], alts := [], laidByText := true, laidKinds := [.data], laidTests := true, laidLooks := .later }
def FnSequenceUptoCardSaid : Prop := Claim7.holds Tryd.pinned (.plain (OpenSpec.upto fnSequenceSpec)) fnSequenceUptoCard

/-- THE SECOND FORM's CARD OF 'laws.FnExactValidFunc'. -/
def fnExactValidFuncUptoCard : Claim7 := { stood := { row := fnExactValidFuncUptoRow, standIns := [], harness := (true, "e269c577a12cb64d4d3a60a43620c904cb52f602dd9cf52eb613deaf992c3d3c"), looks := false }, kinds := [], alts := [], laidByText := true, laidKinds := [.data, .data], laidTests := true, laidLooks := .later }
def FnExactValidFuncUptoCardSaid : Prop := Claim7.holds Tryd.pinned (.plain (OpenSpec.upto fnExactValidFuncSpec)) fnExactValidFuncUptoCard

/-- THE SECOND FORM's CARD OF 'laws.FnExactEncodeFunc'. -/
def fnExactEncodeFuncUptoCard : Claim7 := { stood := { row := fnExactEncodeFuncUptoRow, standIns := [], harness := (true, "e269c577a12cb64d4d3a60a43620c904cb52f602dd9cf52eb613deaf992c3d3c"), looks := false }, kinds := [], alts := [], laidByText := true, laidKinds := [.data, .data, .data, .data, .data], laidTests := true, laidLooks := .later }
def FnExactEncodeFuncUptoCardSaid : Prop := Claim7.holds Tryd.pinned (.plain (OpenSpec.upto fnExactEncodeFuncSpec)) fnExactEncodeFuncUptoCard

/-- THE SECOND FORM's CARD OF 'laws.FnExactAnalyze'. -/
def fnExactAnalyzeUptoCard : Claim7 := { stood := { row := fnExactAnalyzeUptoRow, standIns := [], harness := (true, "e269c577a12cb64d4d3a60a43620c904cb52f602dd9cf52eb613deaf992c3d3c"), looks := false }, kinds := [], alts := [], laidByText := true, laidKinds := [.data, .data], laidTests := true, laidLooks := .later }
def FnExactAnalyzeUptoCardSaid : Prop := Claim7.holds Tryd.pinned (.plain (OpenSpec.upto fnExactAnalyzeSpec)) fnExactAnalyzeUptoCard

/-- THE SECOND FORM's CARD OF 'laws.FnExactDominates'. -/
def fnExactDominatesUptoCard : Claim7 := { stood := { row := fnExactDominatesUptoRow, standIns := [], harness := (true, "e269c577a12cb64d4d3a60a43620c904cb52f602dd9cf52eb613deaf992c3d3c"), looks := false }, kinds := [], alts := [], laidByText := true, laidKinds := [.data, .data], laidTests := true, laidLooks := .later }
def FnExactDominatesUptoCardSaid : Prop := Claim7.holds Tryd.pinned (.plain (OpenSpec.upto fnExactDominatesSpec)) fnExactDominatesUptoCard

/-- THE SECOND FORM's CARD OF 'laws.FnExactVerdict'. -/
def fnExactVerdictUptoCard : Claim7 := { stood := { row := fnExactVerdictUptoRow, standIns := [], harness := (true, "e269c577a12cb64d4d3a60a43620c904cb52f602dd9cf52eb613deaf992c3d3c"), looks := false }, kinds := [], alts := [], laidByText := true, laidKinds := [.data, .data], laidTests := true, laidLooks := .later }
def FnExactVerdictUptoCardSaid : Prop := Claim7.holds Tryd.pinned (.plain (OpenSpec.upto fnExactVerdictSpec)) fnExactVerdictUptoCard

/-- THE SECOND FORM's CARD OF 'laws.FnExactSequence'. -/
def fnExactSequenceUptoCard : Claim7 := { stood := { row := fnExactSequenceUptoRow, standIns := [], harness := (true, "e269c577a12cb64d4d3a60a43620c904cb52f602dd9cf52eb613deaf992c3d3c"), looks := false }, kinds := [], alts := [], laidByText := true, laidKinds := [.data], laidTests := true, laidLooks := .later }
def FnExactSequenceUptoCardSaid : Prop := Claim7.holds Tryd.pinned (.plain (OpenSpec.upto fnExactSequenceSpec)) fnExactSequenceUptoCard
end Rows
end Go.Proofs.YtlmaodcddbkllaaDoor
