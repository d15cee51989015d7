import Derived.Test.YthgikffcdgpgiaaGreatDoorAN1
import Derived.Test.YthgikffcdgpgiaaGreatDoorRC2
import Derived.Test.YthgikffcdgpgiaaGreatDoorW18b
namespace Go.Proofs.YthgikffcdgpgiaaGreatDoor
open Go.RowKit
theorem natV_natI (F:List Nat):natV F=(natI F).map (Value.int .i64):=by simp [natV,natI]
theorem hasI_nat {F:List Nat} {x:Nat}:hasI (natI F) (x:Int)=true↔x∈F:=by
 unfold hasI
 rw [List.contains_iff_mem]
 unfold natI
 rw [List.mem_map]
 constructor
 ·rintro ⟨a,h,e⟩
  have:a=x:=Int.ofNat.inj e
  rw [←this];exact h
 ·exact fun h=>⟨x,h,rfl⟩
end Go.Proofs.YthgikffcdgpgiaaGreatDoor
