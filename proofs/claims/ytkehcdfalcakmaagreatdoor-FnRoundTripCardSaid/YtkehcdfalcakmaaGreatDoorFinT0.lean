import Derived.Test.YtkehcdfalcakmaaGreatDoorCards
import Derived.Test.YtkehcdfalcakmaaGreatDoorTie
import Derived.Test.YtkehcdfalcakmaaGreatDoorQZ0
import Derived.Test.YtkehcdfalcakmaaGreatDoorRead
import Derived.OpenShut
import Derived.OpenVars
import Derived.LaidMore
import Derived.LaidHandle
import Derived.Lay
import Derived.Deep.DeepHandedRow
import Derived.Lib.LaidTab
namespace Go.Proofs.YtkehcdfalcakmaaGreatDoor
set_option maxRecDepth 100000
open Go.ChangeShapes Go.WideShapes Go.ChangeAt Go.RowKit Go.Joins
theorem own:ownKnob Tryz.prog.godebug=none:=by kernel_rfl
theorem gOps : Tryz.prog.globalNamed "loop.example/s0031/impl.opForms" = some 0 := by kernel_rfl
theorem gTers : Tryz.prog.globalNamed "loop.example/s0031/impl.termForms" = some 1 := by kernel_rfl
theorem Zi4:(Tryz.prog.globals[0]?).map (·.type)=some 74:=by kernel_rfl
theorem Zip:(Tryz.prog.globals[1]?).map (·.type)=some 80:=by kernel_rfl
theorem Zfw:Tryz.prog.cellsOf 73=5:=by kernel_rfl
theorem Zec:Tryz.prog.cellsOf 79=4:=by kernel_rfl
theorem ZcE:Tryz.prog.cellsOf 4=1:=by kernel_rfl
theorem ZdX:Tryz.prog.cellsOf 9=1:=by kernel_rfl
theorem Zht{cs:List Value}{k:Nat}{v:Value}(h:(cs.drop k).take 1=[v]):cs[k]?=some v:=by
 have h1:((cs.drop k).take 1)[0]?=some v:=by rw[h];rfl
 rw[List.getElem?_take_of_lt (by omega),List.getElem?_drop]at h1;simpa using h1
theorem Zeh{cs:List Value}{k m j:Nat}{v:Value}(h:((cs.drop k).take m)[j]?=some v)(hj:j<m):cs[k+j]?=some v:=by
 rw[List.getElem?_take_of_lt hj,List.getElem?_drop]at h;exact h
variable {H : Type} {enc : TypeId × Value -> H} {w : World} {base : Nat} {spare : Nat -> Bool} {held : Bool}
theorem Kx{n k:Nat}{cs:List Value}{y:DataW H × List MemPlace}{b:Bool}(h:DataW.trod enc Tryz.prog w base spare held n 4 ((cs.drop k).take (Tryz.prog.cellsOf 4))=some y)(e:y.1=.lit (.bool b)):cs[k]?=some (.bool b):=by
 rw[ZcE]at h;obtain⟨z,h1,h2⟩:=DataW.trod_bool Tryz.underlying4 h;rw[h2]at e;cases e;exact Zht h1
theorem Zgf{n k:Nat}{cs:List Value}{y:DataW H × List MemPlace}{s:List UInt8}(h:DataW.trod enc Tryz.prog w base spare held n 9 ((cs.drop k).take (Tryz.prog.cellsOf 9))=some y)(e:y.1=.lit (.string s)):cs[k]?=some (.string (Xs s)):=by
 rw[ZdX]at h;obtain⟨z,h1,h2,_⟩:=DataW.trod_string Tryz.underlying9 h;rw[h2]at e;have e1:z.data.toList=s:=by simpa using e
 have e2:Xs s=z:=by rw[<-e1];cases z;rfl
 rw[e2];exact Zht h1
theorem Kh{P:Program}{fs:Array Field}{xs:List (DataW H × List MemPlace)}{n:Nat}{cs:List Value}
 (hf:∀(i:Nat)(f:Field),fs[i]?=some f->DataW.trod enc P w base spare held n f.type ((cs.drop f.offset).take (P.cellsOf f.type))=xs[i]?) (hlen:xs.length=fs.size) (i:Nat) {f:Field} (hi:fs[i]?=some f) {ds:List (DataW H)} (hd:xs.map (·.1)=ds) {d:DataW H} (he:ds[i]?=some d) :
 ∃y,DataW.trod enc P w base spare held n f.type ((cs.drop f.offset).take (P.cellsOf f.type))=some y/\y.1=d:=by
 have h1:=hf i f hi;have h2:i<xs.length:=by rw[hlen];exact(Array.getElem?_eq_some_iff.1 hi).1
 rw[List.getElem?_eq_getElem h2]at h1;refine⟨_,h1,?_⟩;have h3:(xs.map (·.1))[i]?=some d:=by rw[hd];exact he
 rw[List.getElem?_map,List.getElem?_eq_getElem h2]at h3;simpa using h3
theorem dt{cs:List Value}{k m j:Nat}{v:Value}(h:((cs.drop k).take m)[j]?=some v)(hj:j<m):cs[k+j]?=some v:=Zeh h hj
theorem Zhv{n:Nat}{cs:List Value}{rows:List (DataW H)}{p:List MemPlace}(h:DataW.trod enc Tryz.prog w base spare held n 74 cs=some (.agg rows,p))(i:Nat)(hi:i<14)(s:List UInt8)(d a b m:Bool)
 (hr:rows[i]?=some (.agg [.lit (.string s),.lit (.bool d),.lit (.bool a),.lit (.bool b),.lit (.bool m)])) :
 cs[i*5]?=some (.string (Xs s))/\cs[i*5+1]?=some (.bool d)/\cs[i*5+2]?=some (.bool a)/\cs[i*5+3]?=some (.bool b)/\cs[i*5+4]?=some (.bool m):=by
 obtain⟨xs,k,_,hx,_,hlen,hel⟩:=DataW.trod_array Tryz.underlying74 h;have h1:=hel i hi;rw[List.getElem?_eq_getElem (by omega),Zfw]at h1;simp only[Prod.mk.injEq,DataW.agg.injEq]at hx;have h2:(xs[i]'(by omega)).1=.agg [.lit (.string s),.lit (.bool d),.lit (.bool a),.lit (.bool b),.lit (.bool m)]:=by
  have:(xs.map (·.1))[i]?=some (.agg [.lit (.string s),.lit (.bool d),.lit (.bool a),.lit (.bool b),.lit (.bool m)]):=by rw[<-hx.1];exact hr
  rw[List.getElem?_map,List.getElem?_eq_getElem (by omega)]at this;simpa using this
 obtain⟨ys,k2,_,hy,_,hlen2,hf⟩:=DataW.trod_struct Tryz.underlying73 h1;rw[hy]at h2;simp only[DataW.agg.injEq]at h2;obtain⟨y0,g0,e0⟩:=Kh hf hlen2 0 rfl h2 rfl;obtain⟨y1,g1,e1⟩:=Kh hf hlen2 1 rfl h2 rfl;obtain⟨y2,g2,e2⟩:=Kh hf hlen2 2 rfl h2 rfl;obtain⟨y3,g3,e3⟩:=Kh hf hlen2 3 rfl h2 rfl;obtain⟨y4,g4,e4⟩:=Kh hf hlen2 4 rfl h2 rfl;exact⟨dt (j:=0) (Zgf (k:=0) g0 e0) (by decide),dt (Kx (k:=1) g1 e1) (by decide),dt (Kx (k:=2) g2 e2) (by decide),dt (Kx (k:=3) g3 e3) (by decide),dt (Kx (k:=4) g4 e4) (by decide)⟩
theorem Zgt{n:Nat}{cs:List Value}{rows:List (DataW H)}{p:List MemPlace}(h:DataW.trod enc Tryz.prog w base spare held n 80 cs=some (.agg rows,p))(i:Nat)(hi:i<4)(s:List UInt8)(a t o:Bool)
 (hr:rows[i]?=some (.agg [.lit (.string s),.lit (.bool a),.lit (.bool t),.lit (.bool o)])) :
 cs[i*4]?=some (.string (Xs s))/\cs[i*4+1]?=some (.bool a)/\cs[i*4+2]?=some (.bool t)/\cs[i*4+3]?=some (.bool o):=by
 obtain⟨xs,k,_,hx,_,hlen,hel⟩:=DataW.trod_array Tryz.underlying80 h;have h1:=hel i hi;rw[List.getElem?_eq_getElem (by omega),Zec]at h1;simp only[Prod.mk.injEq,DataW.agg.injEq]at hx;have h2:(xs[i]'(by omega)).1=.agg [.lit (.string s),.lit (.bool a),.lit (.bool t),.lit (.bool o)]:=by
  have:(xs.map (·.1))[i]?=some (.agg [.lit (.string s),.lit (.bool a),.lit (.bool t),.lit (.bool o)]):=by rw[<-hx.1];exact hr
  rw[List.getElem?_map,List.getElem?_eq_getElem (by omega)]at this;simpa using this
 obtain⟨ys,k2,_,hy,_,hlen2,hf⟩:=DataW.trod_struct Tryz.underlying79 h1;rw[hy]at h2;simp only[DataW.agg.injEq]at h2;obtain⟨y0,g0,e0⟩:=Kh hf hlen2 0 rfl h2 rfl;obtain⟨y1,g1,e1⟩:=Kh hf hlen2 1 rfl h2 rfl;obtain⟨y2,g2,e2⟩:=Kh hf hlen2 2 rfl h2 rfl;obtain⟨y3,g3,e3⟩:=Kh hf hlen2 3 rfl h2 rfl;exact⟨dt (j:=0) (Zgf (k:=0) g0 e0) (by decide),dt (Kx (k:=1) g1 e1) (by decide),dt (Kx (k:=2) g2 e2) (by decide),dt (Kx (k:=3) g3 e3) (by decide)⟩
theorem gErr : Tryz.prog.globalNamed "errors.errorType" = some 2 := by kernel_rfl
theorem rtRow : (Tryz.prog.cutTypes.find? (·.1 == "internal/reflectlite.rtype")).map (·.2) = some 132 := by kernel_rfl
theorem ZhS:((List.range (332 - 100)).filter fun t=>Tryz.prog.rowNamed t [101,114,114,111,114])=[59]:=by kernel_rfl
theorem ZeA:Tryz.prog.types.size=332 - 100:=by kernel_rfl
theorem errT {W : World} (h : handlesMet Tryz.prog [("errors.errorType", Rows.laid_errors_errorType)] W) : ErrT W := by
 obtain⟨name,u,ty,e1,e2,e3,e4,e5⟩:=h _ (List.mem_singleton.2 rfl);have en:name=[101,114,114,111,114]:=(Option.some.inj e1).symm;subst en;obtain rfl:=Option.some.inj (rtRow.symm.trans e2);have hm:ty∈(List.range (332 - 100)).filter fun t=>Tryz.prog.rowNamed t [101,114,114,111,114]:=List.mem_filter.2 ⟨List.mem_range.2 (by rw[<-ZeA];exact e3),e4⟩
 rw[ZhS]at hm;obtain rfl:=List.mem_singleton.1 hm;have hh:typeHandle Tryz.prog 59=.pointer (some ⟨9,59,none⟩):=by kernel_rfl
 rw[hh]at e5;have q:=World.var?_cell gErr e5 0;unfold ErrT;rw[q];rfl
theorem gPow : Tryz.prog.globalNamed "internal/strconv.uint64pow10" = some 3 := by kernel_rfl
theorem ZiT:(Tryz.prog.globals[3]?).map (·.type)=some 184:=by kernel_rfl
theorem ZfP:Rows.laid_internal_strconv_uint64pow10 (H:=Unit)=Lib.tabData .u64 Lib.pow10Tab:=rfl
theorem ZhN{W:World}(h:laidMetH Tryz.prog Rows.fnRoundTripRow.laid W):Ym W/\XR W/\ErrT W/\TabOk W.heap.size W:=by
 have h' : laidMet Tryz.prog [("math/bits.deBruijn32tab", Rows.laid_math_bits_deBruijn32tab), ("math/bits.deBruijn64tab", Rows.laid_math_bits_deBruijn64tab), ("internal/strconv.uint64pow10", Rows.laid_internal_strconv_uint64pow10), ("unicode/utf8.acceptRanges", Rows.laid_unicode_utf8_acceptRanges), ("loop.example/s0031/impl.opForms", Rows.laid_loop_example_s0031_impl_opForms), ("loop.example/s0031/impl.termForms", Rows.laid_loop_example_s0031_impl_termForms), ("unicode/utf8.first", Rows.laid_unicode_utf8_first)] W ∧ handlesMet Tryz.prog [("errors.errorType", Rows.laid_errors_errorType)] W := h
 obtain⟨ps,⟨_,_,_,_,_,_,_,_,_,_,⟨_,_,_,_,_,_,_,_,_,_,⟨g2,t2,cs2,f2,p2,q2,hg2,ht2,hv2,hd2,⟨_,_,_,_,_,_,_,_,_,_,⟨g0,t0,cs0,f0,p0,q0,hg0,ht0,hv0,hd0,⟨g1,t1,cs1,f1,p1,q1,hg1,ht1,hv1,hd1,_,_⟩,_⟩,_⟩,_⟩,_⟩,_⟩,_,_⟩:=h'.1;obtain rfl:=Option.some.inj (gPow.symm.trans hg2);obtain rfl:=Option.some.inj (ZiT.symm.trans ht2);obtain rfl:=Option.some.inj (gOps.symm.trans hg0);obtain rfl:=Option.some.inj (gTers.symm.trans hg1);obtain rfl:=Option.some.inj (Zi4.symm.trans ht0);obtain rfl:=Option.some.inj (Zip.symm.trans ht1);have c0:∀j v,cs0.toList[j]?=some v->W.cell? ⟨0,j,none⟩=some v:=fun j v hv=>by
  have:=World.var?_cell hg0 hv0 j;rw[this];simpa using hv
 have c1:∀j v,cs1.toList[j]?=some v->W.cell? ⟨1,j,none⟩=some v:=fun j v hv=>by
  have:=World.var?_cell hg1 hv1 j;rw[this];simpa using hv
 refine⟨?_,?_,errT h'.2,?_⟩
 ·have row:∀i s d a b m,i<14->((match Rows.laid_loop_example_s0031_impl_opForms (H:=Unit)with | .agg l=>l | _=>[]):List (DataW Unit))[i]?=some (.agg [.lit (.string s),.lit (.bool d),.lit (.bool a),.lit (.bool b),.lit (.bool m)]) ->
   W.cell? ⟨0,i*5,none⟩=some (.string (Xs s))/\W.cell? ⟨0,i*5+1,none⟩=some (.bool d)/\W.cell? ⟨0,i*5+2,none⟩=some (.bool a)/\W.cell? ⟨0,i*5+3,none⟩=some (.bool b)/\W.cell? ⟨0,i*5+4,none⟩=some (.bool m):=fun i s d a b m hi hr=>by
   obtain⟨e0,e1,e2,e3,e4⟩:=Zhv hd0 i hi s d a b m hr;exact⟨c0 _ _ e0,c0 _ _ e1,c0 _ _ e2,c0 _ _ e3,c0 _ _ e4⟩
  have r1:=row 1 _ _ _ _ _ (by decide) rfl;refine⟨JH r1.1,fun k h1 h2=>?_⟩;have hk:k=1\/k=2\/k=3\/k=4\/k=5\/k=6\/k=7\/k=8\/k=9\/k=10\/k=11\/k=12\/k=13:=by omega
  rcases hk with rfl | rfl | rfl | rfl | rfl | rfl | rfl | rfl | rfl | rfl | rfl | rfl | rfl
  ·exact r1
  ·exact row 2 _ _ _ _ _ (by decide) rfl
  ·exact row 3 _ _ _ _ _ (by decide) rfl
  ·exact row 4 _ _ _ _ _ (by decide) rfl
  ·exact row 5 _ _ _ _ _ (by decide) rfl
  ·exact row 6 _ _ _ _ _ (by decide) rfl
  ·exact row 7 _ _ _ _ _ (by decide) rfl
  ·exact row 8 _ _ _ _ _ (by decide) rfl
  ·exact row 9 _ _ _ _ _ (by decide) rfl
  ·exact row 10 _ _ _ _ _ (by decide) rfl
  ·exact row 11 _ _ _ _ _ (by decide) rfl
  ·exact row 12 _ _ _ _ _ (by decide) rfl
  ·exact row 13 _ _ _ _ _ (by decide) rfl
 ·have row:∀i s a t o,i<4->((match Rows.laid_loop_example_s0031_impl_termForms (H:=Unit)with | .agg l=>l | _=>[]):List (DataW Unit))[i]?=some (.agg [.lit (.string s),.lit (.bool a),.lit (.bool t),.lit (.bool o)]) ->
   W.cell? ⟨1,i*4,none⟩=some (.string (Xs s))/\W.cell? ⟨1,i*4+1,none⟩=some (.bool a)/\W.cell? ⟨1,i*4+2,none⟩=some (.bool t)/\W.cell? ⟨1,i*4+3,none⟩=some (.bool o):=fun i s a t o hi hr=>by
   obtain⟨e0,e1,e2,e3⟩:=Zgt hd1 i hi s a t o hr;exact⟨c1 _ _ e0,c1 _ _ e1,c1 _ _ e2,c1 _ _ e3⟩
  have r1:=row 1 _ _ _ _ (by decide) rfl;refine⟨JH r1.1,fun k h1 h2=>?_⟩;have hk:k=1\/k=2\/k=3:=by omega
  rcases hk with rfl | rfl | rfl
  ·exact r1
  ·exact row 2 _ _ _ _ (by decide) rfl
  ·exact row 3 _ _ _ _ (by decide) rfl
 ·refine Lib.tabBelow_of_tabIs ?_
  rw[ZfP]at hd2;unfold Lib.TabIs;rw[hv2,<-Lib.cells_of_tab Tryz.underlying184 Tryz.underlying154 (by kernel_rfl) (by kernel_rfl) hd2]
theorem Zek{P:Program}{W:World}{r:Reach}{base:Nat}{t:TypeId}{v:Value}(ht:P.underlying t=some (.int .i64))(ho:Cell.ok P W r base t v):∃n,v=.int .i64 n:=by
 unfold Cell.ok at ho;rw[ht]at ho;cases v with
 | int k n =>
  obtain⟨rfl,_⟩:=ho;exact⟨n,rfl⟩
 | _=>exact ho.elim
theorem ZiJ{W:World}(h:W.ShapedOpen Tryz.prog):Ti W:=by
 obtain⟨cs,hh,hs,hb⟩:=h.1 4 #[.int .i64 0] 3 (by decide +kernel) (by kernel_rfl);obtain⟨ts,hts,_,hc⟩:=hb (by kernel_rfl);have e:ts=[3]:=Option.some.inj (hts.symm.trans (by kernel_rfl));subst e;have h1:0<cs.size:=by rw[hs];decide
 obtain⟨u,hu,ho⟩:=hc 0 cs[0] (by simp[h1]);have eu:3=u:=by simpa using hu
 subst eu;obtain⟨n,hn⟩:=Zek (P:=Tryz.prog) (t:=3) Tryz.underlying3 ho;have hcell:W.cell? ⟨4,0,none⟩=some cs[0]:=by simp[World.cell?,hh,h1]
 exact⟨World.block_lt_of_cell? W _ hcell,n,by rw[hcell,hn]⟩
theorem Zc6:Tryz.prog.cellsOf 5=1:=by kernel_rfl
theorem ZcV{n:Nat}{cs:List Value}{d:DataW H × List MemPlace}(h:DataW.trod enc Tryz.prog w base spare held n 22 cs=some d) :
 ∃(a:Option Addr)(xs:List UInt8)(c:Nat),cs=[.slice a xs.length c]/\xs.length<=maxLen/\XE w 0 w.heap.size a xs:=by
 obtain⟨a,xs,c,h1,h2,h3⟩:=ZbX (α:=UInt8) (s:=1) Tryz.underlying22 Zc6 (by decide) (fun b o x=>w.cell? ⟨b,o,none⟩=some (.int .u8 (x.toNat:Int))) (fun b o cs' n d hc hl hd=>by
  obtain⟨z,hz,_,hwf⟩:=DataW.trod_int Tryz.underlying5 hd;have hr:0<=z/\z<256:=by
   simp[Lit.wf,IntKind.min,IntKind.max,IntKind.signed,IntKind.bits]at hwf;omega
  refine⟨UInt8.ofNat z.toNat,?_⟩;have:=hc 0 (by decide);rw[hz]at this;have e2:((UInt8.ofNat z.toNat).toNat:Int)=z:=by
   rw[UInt8.toNat_ofNat'];omega
  rw[e2];simpa using this) h
 refine⟨a,xs,c,h1,h2,fun i hi=>?_⟩;obtain⟨b,o,e,hb,hq⟩:=h3 i hi;exact⟨b,o,e,⟨Nat.zero_le _,hb⟩,by simpa using hq⟩
theorem Zft(H:Type)(enc:TypeId × Value->H)(W:World)(base:Nat)(args:Array Value)(ds gs:List (DataW H))(before:List MemPlace)
 (hval:∀(j:Nat) t v,Tryz.f3.params[j]?=some t->args[j]?=some v->Value.okWide Tryz.prog W .any base t v)
 (hW:DataW.Whole enc Tryz.prog Tryz.f3.params.toList Rows.fnRoundTripSpec.vars false W args.toList ds gs before) (hL:laidMetH Tryz.prog Rows.fnRoundTripRow.laid W) (hS:W.ShapedOpen Tryz.prog) :
 Calls Tryz.prog 3 args W fun e W'=>∃v,e=.returned v/\Rows.fnRoundTripSpec.post enc Tryz.prog Tryz.f3 false true false false W args v W':=by
 have hW':=hW;obtain⟨p,q,hA0,hV,rfl,hfz,hnd⟩:=hW;have hA:DataW.TrodAll enc Tryz.prog W 0 (fun _=>true) true Tryz.f3.params.toList args.toList ds p:=hA0;rw[Tryz.params3]at hA hval;obtain⟨v0,vs0,d0,ds0,p0,q0,hargs,rfl,rfl,h0,r0⟩:=trodAll_cons hA;obtain⟨rfl,rfl,rfl⟩:=trodAll_nil r0;obtain rfl:args=#[v0]:=by cases args;simp_all
 clear hA0;have h0':=h0;obtain⟨a1,l1,k1,rfl⟩:=okWide_slice Tryz.underlying22 (hval 0 22 v0 rfl rfl);obtain⟨f1,t1⟩:=h0;obtain⟨b1,ys1,m1,e1,hlen1,hi1⟩:=ZcV t1;have q1:Value.slice a1 l1 k1=.slice b1 ys1.length m1:=by simpa [Value.cells]using e1
 injection q1 with q11 q12 q13;subst q11 q12 q13;obtain⟨hO,hT,hE,hP⟩:=ZhN hL;have hM:=ZiJ hS;have hmax:maxLen=9223372036854775807:=by unfold maxLen;decide
 rw[hmax]at hlen1;refine(Zei a1 ys1.length k1 ys1 W hi1 rfl hlen1 hO hT hP hM hE).mono fun e W' ⟨he,hbel⟩=>?_
 subst he;obtain⟨g1,g2,rfl⟩:∃g1 g2,gs=[g1,g2]:=by
  match gs,hV with
  | [g1,g2],_=>exact⟨g1,g2,rfl⟩
  | [],hV=>exact hV.elim
  | [_],hV=>obtain⟨_,_,_,_,_,_,_,_,_,_,hV,_⟩:=hV;exact hV.elim
  | _::_::_::_,hV=>obtain⟨_,_,_,_,_,_,_,_,_,_,⟨_,_,_,_,_,_,_,_,_,_,hV,_⟩,_⟩:=hV;exact hV.elim
 have hlt:=hW'.lt;refine⟨_,rfl,_,_,_,[],p0++[],q,hW',trodAll_cons_mk (shut_bool Tryz.underlying4 _) trodAll_mk0,?_,?_,hbel.frame _,fun h=>by cases h⟩
 ·exact trodAll_cons_mk (Below.trod (by kernel_rfl) (by kernel_rfl) (of_decide_eq_true (by kernel_rfl)) h0' hbel (fun x hx=>hlt x (List.mem_append_left _ (List.mem_append_left _ hx)))) trodAll_mk0
 ·exact Below.trodVars (by kernel_rfl) hbel (by kernel_rfl) hV
end Go.Proofs.YtkehcdfalcakmaaGreatDoor
