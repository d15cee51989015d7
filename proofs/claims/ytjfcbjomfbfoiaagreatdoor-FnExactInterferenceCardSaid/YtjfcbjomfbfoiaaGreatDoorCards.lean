/-
  DERIVED. GIVEN WITH THE SEED: THE CARDS: each row of YtjfcbjomfbfoiaaGreatDoorRows.lean that lists a variable, with what it lists TIED to the program's text (the seventh form; the later family's looks); each row that meets fmt, with fmt's text TOLD by the authors' own Lean function (tested against real Go, not proved from fmt's source: count such statements apart). THE CARD IS WHAT COUNTS. Prove the row's statement (the work); the ties are given (YtjfcbjomfbfoiaaGreatDoorTie.lean); close each card by the builder's one call (the guide's Derived/Test/ToyasCard.lean, 'card_holds'). Laid BY PROGRAM, IN A SANDBOX (cutbox-door.mjs). By AI agents, Wed Nov 11 2026. No macro, syntax, notation, axiom, sorry.
-/
import Derived.Test.YtjfcbjomfbfoiaaGreatDoorRows
import GoSem.ClaimSeven
namespace Go.Proofs.YtjfcbjomfbfoiaaGreatDoor
namespace Rows

/-- THE TIED CARD OF 'laws.FnExactLiveness'. -/
def fnExactLivenessCard : Claim7 := { stood := { row := fnExactLivenessRow, standIns := [], harness := (true, "5b7d34f7f80db43eea23d69c77affc6119beb1bade4aef6d9579510bb4d33b19"), looks := false }, kinds := [], alts := [], laidByText := true, laidKinds := [.data, .data, .data], laidTests := true, laidLooks := .later }
def FnExactLivenessCardSaid : Prop := Claim7.holds Tryz.pinned (.plain (OpenSpec.ofChange fnExactLivenessSpec)) fnExactLivenessCard

/-- THE TIED CARD OF 'laws.FnExactPointSets'. -/
def fnExactPointSetsCard : Claim7 := { stood := { row := fnExactPointSetsRow, standIns := [], harness := (true, "5b7d34f7f80db43eea23d69c77affc6119beb1bade4aef6d9579510bb4d33b19"), looks := false }, kinds := [], alts := [], laidByText := true, laidKinds := [.data, .data, .data], laidTests := true, laidLooks := .later }
def FnExactPointSetsCardSaid : Prop := Claim7.holds Tryz.pinned (.plain (OpenSpec.ofChange fnExactPointSetsSpec)) fnExactPointSetsCard

/-- THE TIED CARD OF 'laws.FnExactMaxLive'. -/
def fnExactMaxLiveCard : Claim7 := { stood := { row := fnExactMaxLiveRow, standIns := [], harness := (true, "5b7d34f7f80db43eea23d69c77affc6119beb1bade4aef6d9579510bb4d33b19"), looks := false }, kinds := [], alts := [], laidByText := true, laidKinds := [.data, .data], laidTests := true, laidLooks := .later }
def FnExactMaxLiveCardSaid : Prop := Claim7.holds Tryz.pinned (.plain (OpenSpec.ofChange fnExactMaxLiveSpec)) fnExactMaxLiveCard

/-- THE TIED CARD OF 'laws.FnExactInterference'. -/
def fnExactInterferenceCard : Claim7 := { stood := { row := fnExactInterferenceRow, standIns := [], harness := (true, "5b7d34f7f80db43eea23d69c77affc6119beb1bade4aef6d9579510bb4d33b19"), looks := false }, kinds := [], alts := [], laidByText := true, laidKinds := [.data, .data, .data], laidTests := true, laidLooks := .later }
def FnExactInterferenceCardSaid : Prop := Claim7.holds Tryz.pinned (.plain (OpenSpec.ofChange fnExactInterferenceSpec)) fnExactInterferenceCard

/-- THE SECOND FORM's CARD OF 'laws.FnExactLiveness'. -/
def fnExactLivenessUptoCard : Claim7 := { stood := { row := fnExactLivenessUptoRow, standIns := [], harness := (true, "5b7d34f7f80db43eea23d69c77affc6119beb1bade4aef6d9579510bb4d33b19"), looks := false }, kinds := [], alts := [], laidByText := true, laidKinds := [.data, .data, .data], laidTests := true, laidLooks := .later }
def FnExactLivenessUptoCardSaid : Prop := Claim7.holds Tryz.pinned (.plain (OpenSpec.upto fnExactLivenessSpec)) fnExactLivenessUptoCard

/-- THE SECOND FORM's CARD OF 'laws.FnExactPointSets'. -/
def fnExactPointSetsUptoCard : Claim7 := { stood := { row := fnExactPointSetsUptoRow, standIns := [], harness := (true, "5b7d34f7f80db43eea23d69c77affc6119beb1bade4aef6d9579510bb4d33b19"), looks := false }, kinds := [], alts := [], laidByText := true, laidKinds := [.data, .data, .data], laidTests := true, laidLooks := .later }
def FnExactPointSetsUptoCardSaid : Prop := Claim7.holds Tryz.pinned (.plain (OpenSpec.upto fnExactPointSetsSpec)) fnExactPointSetsUptoCard

/-- THE SECOND FORM's CARD OF 'laws.FnExactMaxLive'. -/
def fnExactMaxLiveUptoCard : Claim7 := { stood := { row := fnExactMaxLiveUptoRow, standIns := [], harness := (true, "5b7d34f7f80db43eea23d69c77affc6119beb1bade4aef6d9579510bb4d33b19"), looks := false }, kinds := [], alts := [], laidByText := true, laidKinds := [.data, .data], laidTests := true, laidLooks := .later }
def FnExactMaxLiveUptoCardSaid : Prop := Claim7.holds Tryz.pinned (.plain (OpenSpec.upto fnExactMaxLiveSpec)) fnExactMaxLiveUptoCard

/-- THE SECOND FORM's CARD OF 'laws.FnExactInterference'. -/
def fnExactInterferenceUptoCard : Claim7 := { stood := { row := fnExactInterferenceUptoRow, standIns := [], harness := (true, "5b7d34f7f80db43eea23d69c77affc6119beb1bade4aef6d9579510bb4d33b19"), looks := false }, kinds := [], alts := [], laidByText := true, laidKinds := [.data, .data, .data], laidTests := true, laidLooks := .later }
def FnExactInterferenceUptoCardSaid : Prop := Claim7.holds Tryz.pinned (.plain (OpenSpec.upto fnExactInterferenceSpec)) fnExactInterferenceUptoCard
end Rows
end Go.Proofs.YtjfcbjomfbfoiaaGreatDoor
