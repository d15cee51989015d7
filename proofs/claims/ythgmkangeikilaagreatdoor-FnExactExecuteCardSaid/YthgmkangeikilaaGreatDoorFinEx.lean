import Derived.Test.YthgmkangeikilaaGreatDoorFinEx0
import Derived.Test.YthgmkangeikilaaGreatDoorFinExC
namespace Go.Proofs.YthgmkangeikilaaGreatDoor
set_option maxRecDepth 100000
open _root_ renaming Nat->N,rfl->R,Option.some->S,Option.none->U,Bool.true->So,Bool.false->Sn
open Value renaming slice->X,int->Si,agg->Sa,pointer->Sj
open Go renaming IntKind.i64->S6,Obj.cells->Sc
open Go.RowKit Go.Proofs.Tryz
section
open Go.ChangeShapes Go.WideShapes Go.ChangeAt Go.Joins
def plainLaid: List (String × DataW Unit) := [("math/bits.deBruijn64tab", Rows.laid_math_bits_deBruijn64tab), ("unicode/utf8.acceptRanges", Rows.laid_unicode_utf8_acceptRanges), ("loop.example/s0031/impl.opForms", Rows.laid_loop_example_s0031_impl_opForms), ("loop.example/s0031/impl.termForms", Rows.laid_loop_example_s0031_impl_termForms), ("unicode/utf8.first", Rows.laid_unicode_utf8_first)]
def mh(w:World):World:={ w with heap:=w.heap.modify 0 fun
 |.cells _ t frozen=>Sc #[.iface 278 (Sa #[Sj (S ⟨7,111,U⟩)])] t frozen
 |o=>o }
theorem MV(a:Os):((mh<|World.holding prog a ⟨#[],#[],[]⟩).layVars prog plainLaid).os=a:=World.layVars_os _ _ _
theorem Mj(b:Os):laidMetH prog Rows.fnExactExecuteRow.laid (((mh<|World.holding prog b ⟨#[],#[],[]⟩).layVars prog plainLaid).forCall (λ_ _=>0) ⟨#[],#[X U 0 0,Si S6 0,X U 0 0,X U 0 0,Si S6 0],[]⟩).memory:=by
 refine laidMetH_of_parts ?_ vZ;have e1:(plainLaid.filter λx=>(plainLaid.map (·.1)).contains x.1)=plainLaid:=List.filter_eq_self.2 λx a=>eY.2<|aY.2 ⟨x,a,R⟩;have e2:(plainLaid.filter λx=>!(plainLaid.map (·.1)).contains x.1)=[]:=mJ.2 λx a=>by rw[eY.2<|aY.2 ⟨x,a,R⟩];simp
 have h:laidMet prog plainLaid ((mh<|World.holding prog b ⟨#[],#[],[]⟩).layVars prog plainLaid):=laidMet_layVars (w0:=mh<|World.holding prog b ⟨#[],#[],[]⟩) (plainLaid.map (·.1)) [] (by rw[e1]) (by rw[e1];kernel_rfl) (by rw[e1];kernel_rfl) (by rw[e2];exact LaidIn.none);exact h.of_heap<|by simp[World.memory,World.forCall,Input.heap]
theorem LI(c:Os){e:Type}(a:TypeId×Uj->e):∃b d,DataW.whole a prog (((mh<|World.holding prog c ⟨#[],#[],[]⟩).layVars prog plainLaid).forCall (λ_ _=>0) ⟨#[],#[X U 0 0,Si S6 0,X U 0 0,X U 0 0,Si S6 0],[]⟩).memory Tryz.f3.params.toList Rows.fnExactExecuteSpec.vars Sn #[X U 0 0,Si S6 0,X U 0 0,X U 0 0,Si S6 0].toList 8=S ([.nil,.lit (.int S6 0),.nil,.nil,.lit (.int S6 0)],b,d) :=
 ⟨[Rows.laid_loop_example_s0031_impl_opForms,Rows.laid_loop_example_s0031_impl_termForms],[]++(MemPlace.row ⟨2,0,U⟩ 70++[]++(MemPlace.row ⟨1,0,U⟩ 16++[]++[])),vZ⟩
theorem Fw(a:Os)(n:a.Started)(q:Type)(b:TypeId×Uj->q)(F:Stop.Interp):
 ReturnsInHanded {} Tryz.checked a 3 .any ((OpenSpec.ofChange Rows.fnExactExecuteSpec).preRow b prog Tryz.f3 Rows.fnExactExecuteRow.domain Sn Rows.fnExactExecuteRow.laid) (((OpenSpec.ofChange Rows.fnExactExecuteSpec).at F).post b prog Tryz.f3 Sn So Sn Sn):=by
 obtain⟨c,p,m⟩:=LI a b;have d:Input.okWideB prog (((mh<|World.holding prog a ⟨#[],#[],[]⟩).layVars prog plainLaid).forCall (λ_ _=>0) ⟨#[],#[X U 0 0,Si S6 0,X U 0 0,X U 0 0,Si S6 0],[]⟩) 3 ⟨#[],#[X U 0 0,Si S6 0,X U 0 0,X U 0 0,Si S6 0],[]⟩=So:=vZ;refine returnsInHanded_of_row (C:=Tryz.checked) (s:=OpenSpec.ofChange Rows.fnExactExecuteSpec) own n vZ func3
  ⟨(mh<|World.holding prog a ⟨#[],#[],[]⟩).layVars prog plainLaid,λ_ _=>0,⟨#[],#[X U 0 0,Si S6 0,X U 0 0,X U 0 0,Si S6 0],[]⟩,MV a,World.shaped_of_ZipB vZ vZ,(Input.okWide_of_okWideB (base:=0) d).1,(Input.okWide_of_okWideB d).2,
   OpenSpec.preRow_of_cond 8 m vZ (λo k=>by cases k) vZ (Mj a),by simp[Assume.holds]⟩ ?_
 intro W e args g c f l j _ _ _ h i _;exact Df q b W e args g c f l j h i
theorem Gv:Rows.FnExactExecuteSaid :=
 OpenClaim.holds_of_cond 3 Tryz.f3 R R R R R R R ⟨R,R,R,R,R⟩ R R R R R vZ func3 LY
  (fV vZ) (by unfold Func.isWrapper;first|(rw[aU<|by decide +kernel];kernel_rfl)|(rw[aM<|by decide +kernel];exact⟨R,R⟩))
  (λb c d a _ F=>by rw[OpenClaim.pre_eq_preRow];exact Fw b c d a F)
theorem plain(f : FuncId)(fn : Func)(hf : Tryz.pinned.checked.prog.funcNamed "loop.example/s0031/laws.FnExactExecute" = S f)(hfn : Tryz.pinned.checked.prog.funcs[f]? = S fn):
 So=Tryz.pinned.checked.prog.looks []/\∀(j:N) t,fn.params[j]?=S t->Tryz.pinned.checked.prog.wantsStandIn t=Sn:=by
 obtain rfl : f = 3 := Option.some.inj (G (show prog.funcNamed "loop.example/s0031/laws.FnExactExecute" = S 3 by kernel_rfl).symm hf) |>.symm;obtain rfl:fn=Tryz.f3:=(gQ<|func3.symm.trans hfn).symm;refine⟨vZ,λj t ht=>?_⟩;rw[params3]at ht;have h:=Array.mem_of_getElem? ht;simp only[List.mem_toArray,List.mem_cons,List.not_mem_nil,or_false]at h;obtain rfl|rfl|rfl|rfl|rfl:=h<;>exact(show prog.wantsStandIn _=Sn from vZ)
theorem execute_card:Rows.FnExactExecuteCardSaid :=
 Claim7.holds_tied_plain_at .later [] _ _ _ _ Gv (λ_ h=>by cases h) vZ (λ_ h=>by cases h) fnExactExecute_row_tie R ⟨R,R⟩ vZ R plain vZ
end
