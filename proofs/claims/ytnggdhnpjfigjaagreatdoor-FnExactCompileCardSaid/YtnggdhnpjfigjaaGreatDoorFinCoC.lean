import Derived.Test.YtnggdhnpjfigjaaGreatDoorTA
import Derived.Test.YtnggdhnpjfigjaaGreatDoorCards
import Derived.Test.YtnggdhnpjfigjaaGreatDoorTie
import Derived.ProofKit
import Derived.JoinedCond
namespace Go.Proofs.YtnggdhnpjfigjaaGreatDoor
open Go.RowKit
section
open Go.ChangeShapes Go.WideShapes Go.ChangeAt
theorem LY:joinedFacts Tryz.pinned.3.2 3 Tryz.f3 (OpenSpec.ofChange Rows.fnExactCompileSpec).bare Rows.fnExactCompileRow=true:=vZ
end
end Go.Proofs.YtnggdhnpjfigjaaGreatDoor
