import Derived.Test.YtcfdhbigppockaaGreatDoorTA
import Derived.Test.YtcfdhbigppockaaGreatDoorCards
import Derived.Test.YtcfdhbigppockaaGreatDoorTie
import Derived.ProofKit
import Derived.JoinedCond
namespace Go.Proofs.YtcfdhbigppockaaGreatDoor
open Go.RowKit
section
open Go.ChangeShapes Go.WideShapes Go.ChangeAt
theorem LY:joinedFacts Tryz.pinned.3.2 3 Tryz.f3 (OpenSpec.ofChange Rows.fnExactAllocSpec).bare Rows.fnExactAllocRow=true:=vZ
end
end Go.Proofs.YtcfdhbigppockaaGreatDoor
