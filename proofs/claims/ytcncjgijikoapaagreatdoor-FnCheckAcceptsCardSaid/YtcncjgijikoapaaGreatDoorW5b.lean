import Derived.Test.YtcncjgijikoapaaGreatDoorOwn
namespace Go.Proofs.YtcncjgijikoapaaGreatDoor
set_option maxHeartbeats 4000000
open _root_ renaming Array.size->Z,Int->I
open Value renaming bool->Sb,agg->Sa
open Go renaming Ending.returned->Rt,RowKit.Below->Sw,Calls->Sk
open Go.RowKit Go.Proofs.Tryz
variable{t T z:I}{w:Ub}
theorem Ur{b d n a}:
 Sk prog 85 #[Sa #[H t,H T,H z,H b,H d],H n,H a] w λe g=>e=Rt (Sb (Yw n a ⟨t,T,z,b,d⟩))/\Sw (Z w.1) w g:=by
 by_cases h:1<=t/\t<=a
 .let⟨c,i⟩:=h
  go_in
  go_wp2_with fail
  refine YU (nZ _ _) ?_;rintro f rfl;go_wp2_with fail
  refine YU (vG _ _) ?_;rintro f rfl;go_wp2_with fail
  refine YU (vU _ _) ?_;rintro f rfl;go_wp2
  all_goals
   go_ret;refine⟨Xl ?_,Xb Rf _⟩
   first|(simp[Yw,Tp,Wu, *];done)|(simp[Yw,Tp,Wu, *];omega)|(rw[eQ];simp[Yw,Tp,Wu, *];omega)
 go_in
 go_wp2
 all_goals
  go_ret;refine⟨Xl ?_,Xb Rf _⟩;symm;unfold Yw;by_cases c:1<=t;·rw[dJ (p:=t<=a) O];simp
  rw[dJ (p:=1<=t) c];simp
end Go.Proofs.YtcncjgijikoapaaGreatDoor
