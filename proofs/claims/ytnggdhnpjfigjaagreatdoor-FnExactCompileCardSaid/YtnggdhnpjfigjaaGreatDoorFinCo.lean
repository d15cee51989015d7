import Derived.Test.YtnggdhnpjfigjaaGreatDoorFinCo0
import Derived.Test.YtnggdhnpjfigjaaGreatDoorFinCoC
namespace Go.Proofs.YtnggdhnpjfigjaaGreatDoor
set_option maxRecDepth 100000
open Go.RowKit
section
open Go.ChangeShapes Go.WideShapes Go.ChangeAt Go.Joins
def plainLaid: List (String × DataW Unit) := [("math/bits.deBruijn32tab", Rows.laid_math_bits_deBruijn32tab), ("math/bits.deBruijn64tab", Rows.laid_math_bits_deBruijn64tab), ("internal/strconv.uint64pow10", Rows.laid_internal_strconv_uint64pow10), ("unicode/utf8.acceptRanges", Rows.laid_unicode_utf8_acceptRanges), ("loop.example/s0031/impl.opForms", Rows.laid_loop_example_s0031_impl_opForms), ("loop.example/s0031/impl.termForms", Rows.laid_loop_example_s0031_impl_termForms), ("unicode/utf8.first", Rows.laid_unicode_utf8_first)]
def mh(w:World):World:={ w with heap:=w.heap.modify 2 fun
 |.cells _ t frozen=>.cells #[.iface 245 (.agg #[.pointer (some ⟨9,98,none⟩)])] t frozen
 |o=>o }
theorem MV(a:Os):((mh<|World.holding Tryz.prog a ⟨#[],#[],[]⟩).layVars Tryz.prog plainLaid).os=a:=World.layVars_os _ _ _
theorem Mj(b:Os):laidMetH Tryz.prog Rows.fnExactCompileRow.laid (((mh<|World.holding Tryz.prog b ⟨#[],#[],[]⟩).layVars Tryz.prog plainLaid).forCall (λ_ _=>0) ⟨#[],#[.slice none 0 0,.int .i64 0],[]⟩).memory:=by
 refine laidMetH_of_parts ?_ vZ;have e1:(plainLaid.filter λx=>(plainLaid.map (·.1)).contains x.1)=plainLaid:=List.filter_eq_self.2 λx a=>eY.2<|aY.2 ⟨x,a,rfl⟩;have e2:(plainLaid.filter λx=>!(plainLaid.map (·.1)).contains x.1)=[]:=mJ.2 λx a=>by rw[eY.2<|aY.2 ⟨x,a,rfl⟩];simp
 have h:laidMet Tryz.prog plainLaid ((mh<|World.holding Tryz.prog b ⟨#[],#[],[]⟩).layVars Tryz.prog plainLaid):=laidMet_layVars (w0:=mh<|World.holding Tryz.prog b ⟨#[],#[],[]⟩) (plainLaid.map (·.1)) [] (by rw[e1]) (by rw[e1];kernel_rfl) (by rw[e1];kernel_rfl) (by rw[e2];exact LaidIn.none);exact h.of_heap<|by simp[World.memory,World.forCall,Input.heap]
theorem LI(c:Os){e:Type}(a:TypeId×Uj->e):∃b d,DataW.whole a Tryz.prog (((mh<|World.holding Tryz.prog c ⟨#[],#[],[]⟩).layVars Tryz.prog plainLaid).forCall (λ_ _=>0) ⟨#[],#[.slice none 0 0,.int .i64 0],[]⟩).memory Tryz.f3.params.toList Rows.fnExactCompileSpec.vars false #[Value.slice none 0 0,Value.int .i64 0].toList 8=some ([.nil,.lit (.int .i64 0)],b,d) :=
 ⟨[Rows.laid_loop_example_s0031_impl_opForms,Rows.laid_loop_example_s0031_impl_termForms],[]++(MemPlace.row ⟨0,0,none⟩ 70++[]++(MemPlace.row ⟨1,0,none⟩ 16++[]++[])),vZ⟩
theorem Fw(a:Os)(n:a.Started)(q:Type)(b:TypeId×Uj->q)(F:Stop.Interp):
 ReturnsInHanded {} Tryz.checked a 3 .any ((OpenSpec.ofChange Rows.fnExactCompileSpec).preRow b Tryz.prog Tryz.f3 Rows.fnExactCompileRow.domain false Rows.fnExactCompileRow.laid) (((OpenSpec.ofChange Rows.fnExactCompileSpec).at F).post b Tryz.prog Tryz.f3 false true false false):=by
 obtain⟨c,p,m⟩:=LI a b;have d:Input.okWideB Tryz.prog (((mh<|World.holding Tryz.prog a ⟨#[],#[],[]⟩).layVars Tryz.prog plainLaid).forCall (λ_ _=>0) ⟨#[],#[.slice none 0 0,.int .i64 0],[]⟩) 3 ⟨#[],#[.slice none 0 0,.int .i64 0],[]⟩=true:=vZ;refine returnsInHanded_of_row (C:=Tryz.checked) (s:=OpenSpec.ofChange Rows.fnExactCompileSpec) own n vZ Tryz.func3
  ⟨(mh<|World.holding Tryz.prog a ⟨#[],#[],[]⟩).layVars Tryz.prog plainLaid,λ_ _=>0,⟨#[],#[.slice none 0 0,.int .i64 0],[]⟩,MV a,World.shaped_of_ZipB vZ vZ,(Input.okWide_of_okWideB (base:=0) d).1,(Input.okWide_of_okWideB d).2,
   OpenSpec.preRow_of_cond 8 m vZ (λo k=>by cases k) vZ (Mj a),by simp[Assume.holds]⟩ ?_
 intro W e args g c f l j _ _ _ h i _;exact Df q b W e args g c f l j h i
theorem Gv:Rows.FnExactCompileSaid :=
 OpenClaim.holds_of_cond 3 Tryz.f3 rfl rfl rfl rfl rfl rfl rfl ⟨rfl,rfl,rfl,rfl,rfl⟩ rfl rfl rfl rfl rfl vZ Tryz.func3 LY
  (fV vZ) (by unfold Func.isWrapper;first|(rw[aU<|by decide +kernel];kernel_rfl)|(rw[aM<|by decide +kernel];exact⟨rfl,rfl⟩))
  (λb c d a _ F=>by rw[OpenClaim.pre_eq_preRow];exact Fw b c d a F)
theorem plain(f : FuncId)(fn : Func)(hf : Tryz.pinned.checked.prog.funcNamed "loop.example/s0031/laws.FnExactCompile" = some f)(hfn : Tryz.pinned.checked.prog.funcs[f]? = some fn):
 true=Tryz.pinned.checked.prog.looks []/\∀(j:Nat) t,fn.params[j]?=some t->Tryz.pinned.checked.prog.wantsStandIn t=false:=by
 obtain rfl : f = 3 := Option.some.inj ((show Tryz.prog.funcNamed "loop.example/s0031/laws.FnExactCompile" = some 3 by kernel_rfl).symm.trans hf) |>.symm;obtain rfl:fn=Tryz.f3:=(gQ<|Tryz.func3.symm.trans hfn).symm;refine⟨vZ,λj t ht=>?_⟩;rw[Tryz.params3]at ht;have:t=22\/t=2:=by simpa using Array.mem_of_getElem? ht
 obtain rfl|rfl:=this;·exact(show Tryz.prog.wantsStandIn 22=false by kernel_rfl)
 exact(show Tryz.prog.wantsStandIn 2=false by kernel_rfl)
theorem compile_card:Rows.FnExactCompileCardSaid :=
 Claim7.holds_tied_plain_at .later [] _ _ _ _ Gv (λ_ h=>by cases h) vZ (λ_ h=>by cases h) fnExactCompile_row_tie rfl ⟨rfl,rfl⟩ vZ rfl plain vZ
#print axioms compile_card
end
end Go.Proofs.YtnggdhnpjfigjaaGreatDoor
