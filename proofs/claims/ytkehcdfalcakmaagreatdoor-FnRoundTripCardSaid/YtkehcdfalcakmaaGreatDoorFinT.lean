import Derived.Test.YtkehcdfalcakmaaGreatDoorFinT0
namespace Go.Proofs.YtkehcdfalcakmaaGreatDoor
set_option maxRecDepth 100000
open Go.ChangeShapes Go.WideShapes Go.ChangeAt Go.RowKit Go.Joins
def plainLaid : List (String × DataW Unit) := [("math/bits.deBruijn32tab", Rows.laid_math_bits_deBruijn32tab), ("math/bits.deBruijn64tab", Rows.laid_math_bits_deBruijn64tab), ("internal/strconv.uint64pow10", Rows.laid_internal_strconv_uint64pow10), ("unicode/utf8.acceptRanges", Rows.laid_unicode_utf8_acceptRanges), ("loop.example/s0031/impl.opForms", Rows.laid_loop_example_s0031_impl_opForms), ("loop.example/s0031/impl.termForms", Rows.laid_loop_example_s0031_impl_termForms), ("unicode/utf8.first", Rows.laid_unicode_utf8_first)]
def Kf(w:World):World:={ w with heap:=w.heap.modify 2 fun
 | .cells _ t frozen=>.cells #[.iface 132 (.agg #[.pointer (some ⟨9,59,none⟩)])] t frozen
 | o=>o }
theorem Zh8(os:Os):((Kf (World.holding Tryz.prog os ⟨#[],#[],[]⟩)).layVars Tryz.prog plainLaid).os=os:=World.layVars_os _ _ _
theorem ZfD(os:Os):laidMetH Tryz.prog Rows.fnRoundTripRow.laid (((Kf (World.holding Tryz.prog os ⟨#[],#[],[]⟩)).layVars Tryz.prog plainLaid).forCall (fun _ _=>0) ⟨#[],#[.slice none 0 0],[]⟩).memory:=by
 refine laidMetH_of_parts ?_ (by kernel_rfl);have e1:(plainLaid.filter fun x=>(plainLaid.map (·.1)).contains x.1)=plainLaid:=List.filter_eq_self.2 fun x hx=>List.contains_iff_mem.2 (List.mem_map.2 ⟨x,hx,rfl⟩)
 have e2:(plainLaid.filter fun x=>!(plainLaid.map (·.1)).contains x.1)=[]:=List.filter_eq_nil_iff.2 fun x hx=>by rw[List.contains_iff_mem.2 (List.mem_map.2 ⟨x,hx,rfl⟩)];simp
 have h:laidMet Tryz.prog plainLaid ((Kf (World.holding Tryz.prog os ⟨#[],#[],[]⟩)).layVars Tryz.prog plainLaid):=laidMet_layVars (w0:=Kf (World.holding Tryz.prog os ⟨#[],#[],[]⟩)) (plainLaid.map (·.1)) [] (by rw[e1]) (by rw[e1];kernel_rfl) (by rw[e1];kernel_rfl) (by rw[e2];exact LaidIn.none);exact h.of_heap (by simp[World.memory,World.forCall,Input.heap])
theorem ZeB(os:Os){H:Type}(enc:TypeId × Value->H):∃gs places,DataW.whole enc Tryz.prog (((Kf (World.holding Tryz.prog os ⟨#[],#[],[]⟩)).layVars Tryz.prog plainLaid).forCall (fun _ _=>0) ⟨#[],#[.slice none 0 0],[]⟩).memory Tryz.f3.params.toList Rows.fnRoundTripSpec.vars false #[Value.slice none 0 0].toList 8=some ([.nil],gs,places) :=
 ⟨[Rows.laid_loop_example_s0031_impl_termForms,Rows.laid_loop_example_s0031_impl_opForms],[]++(MemPlace.row ⟨1,0,none⟩ 16++[]++(MemPlace.row ⟨0,0,none⟩ 70++[]++[])),by kernel_rfl⟩
theorem Zh6(os:Os)(started:os.Started)(H:Type)(enc:TypeId × Value->H)(F:Stop.Interp) :
 ReturnsInHanded {} Tryz.checked os 3 .any ((OpenSpec.ofChange Rows.fnRoundTripSpec).preRow enc Tryz.prog Tryz.f3 Rows.fnRoundTripRow.domain false Rows.fnRoundTripRow.laid) (((OpenSpec.ofChange Rows.fnRoundTripSpec).at F).post enc Tryz.prog Tryz.f3 false true false false):=by
 obtain⟨gs,places,hx⟩:=ZeB os enc;have hok:Input.okWideB Tryz.prog (((Kf (World.holding Tryz.prog os ⟨#[],#[],[]⟩)).layVars Tryz.prog plainLaid).forCall (fun _ _=>0) ⟨#[],#[.slice none 0 0],[]⟩) 3 ⟨#[],#[.slice none 0 0],[]⟩=true:=by kernel_rfl
 refine returnsInHanded_of_row (C:=Tryz.checked) (s:=OpenSpec.ofChange Rows.fnRoundTripSpec) own started (by kernel_rfl) Tryz.func3
  ⟨(Kf (World.holding Tryz.prog os ⟨#[],#[],[]⟩)).layVars Tryz.prog plainLaid,fun _ _=>0,⟨#[],#[.slice none 0 0],[]⟩,Zh8 os,World.shaped_of_ZipB (by kernel_rfl) (by kernel_rfl),(Input.okWide_of_okWideB (base:=0) hok).1,(Input.okWide_of_okWideB hok).2,
   OpenSpec.preRow_of_cond 8 hx (by kernel_rfl) (fun k hk=>by cases hk) (by kernel_rfl) (ZfD os),by simp[Assume.holds]⟩ ?_
 intro W base args ds gs before hval hW _ _ _ hL hS _;exact Zft H enc W base args ds gs before hval hW hL hS
theorem ZiI:Rows.FnRoundTripSaid :=
 OpenClaim.holds_of_cond 3 Tryz.f3 rfl rfl rfl rfl rfl rfl rfl ⟨rfl,rfl,rfl,rfl,rfl⟩ rfl rfl rfl rfl rfl (by kernel_rfl) Tryz.func3 (by kernel_rfl)
  (of_decide_eq_true (by kernel_rfl)) (by unfold Func.isWrapper;first | (rw[if_pos (by decide +kernel)];kernel_rfl) | (rw[if_neg (by decide +kernel)];exact⟨rfl,rfl⟩))
  (fun os started H enc _ F=>by rw[OpenClaim.pre_eq_preRow];exact Zh6 os started H enc F)
theorem plain (f : FuncId) (fn : Func) (hf : Tryz.pinned.checked.prog.funcNamed "loop.example/s0031/laws.FnRoundTrip" = some f) (hfn : Tryz.pinned.checked.prog.funcs[f]? = some fn) :
 true=Tryz.pinned.checked.prog.looks []/\∀(j:Nat) t,fn.params[j]?=some t->Tryz.pinned.checked.prog.wantsStandIn t=false:=by
 obtain rfl : f = 3 := Option.some.inj ((show Tryz.prog.funcNamed "loop.example/s0031/laws.FnRoundTrip" = some 3 by kernel_rfl).symm.trans hf) |>.symm
 obtain rfl:fn=Tryz.f3:=(Option.some.inj (Tryz.func3.symm.trans hfn)).symm;refine⟨by kernel_rfl,fun j t ht=>?_⟩;rw[Tryz.params3]at ht;obtain rfl:t=22:=by simpa using Array.mem_of_getElem? ht
 exact(show Tryz.prog.wantsStandIn 22=false by kernel_rfl)
theorem fnRoundTrip_card:Rows.FnRoundTripCardSaid :=
 Claim7.holds_tied_plain_at .later [] _ _ _ _ ZiI (fun _ h=>by cases h) (by kernel_rfl) (fun _ h=>by cases h) fnRoundTrip_row_tie rfl ⟨rfl,rfl⟩ (by kernel_rfl) rfl plain (by kernel_rfl)
#print axioms fnRoundTrip_card
end Go.Proofs.YtkehcdfalcakmaaGreatDoor
