import Derived.Test.YthgmkangeikilaaGreatDoorTA
import Derived.Test.YthgmkangeikilaaGreatDoorCards
import Derived.Test.YthgmkangeikilaaGreatDoorTie
import Derived.ProofKit
namespace Go.Proofs.YthgmkangeikilaaGreatDoor
open _root_ renaming Bool.true->So
open Go.RowKit
section
open Go.ChangeShapes Go.WideShapes Go.ChangeAt
theorem LY:joinedFacts Tryz.pinned.3.2 3 Tryz.f3 (OpenSpec.ofChange Rows.fnExactExecuteSpec).bare Rows.fnExactExecuteRow=So:=vZ
end
