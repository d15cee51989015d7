import Derived.Test.YtkehcdfalcakmaaGreatDoorPR
import Derived.LaidEql
import Derived.Stop.Asserts
import Derived.Test.YtkehcdfalcakmaaGreatDoorE17
namespace Go.Proofs.YtkehcdfalcakmaaGreatDoor
open Go.RowKit Go.Extern.Stop Go.Stop Go.Extern
theorem Zh3(t:Value)(w:World) :
 Calls Tryz.prog 28 #[.nilIface,t] w fun e w'=>e=.returned (.bool false)/\w'=w:=by
 go_enter Tryz.func28,Tryz.ntmps28
 go_wp2
 go_ret
 exact⟨rfl,rfl⟩
theorem Tryz.valueOfP(t:Addr)(w:World):(ReflectliteValue.unpack (.iface 65 (.pointer (some t)))).run Tryz.prog w
 = .ok (.agg #[.pointer (some ⟨9,65,none⟩),.pointer (some ⟨w.heap.size,0,none⟩),.int .u64 150]) (w.alloc (.cells #[.pointer (some t)] 65)):=by kernel_rfl
theorem Tryz.typeP (a : Addr) (w : World) : (ReflectliteValue.methodAny (ReflectliteValue.valueError "reflectlite.Value.Type" 0) (fun t _ _ _ => ReflectliteType.toType t) #[.agg #[.pointer (some ⟨9, 65, none⟩), .pointer (some a), .int .u64 150]]).run Tryz.prog w
 = .ok (.iface 132 (.agg #[.pointer (some ⟨9,65,none⟩)])) w:=by kernel_rfl
theorem Tryz.kindP(w:World):((ReflectliteType.abiMethod fun t=>(fun a:Nat=>Value.int IntKind.u8 (a:Int)) <$> Rtype.kind t) #[.pointer (some ⟨9,65,none⟩)]).run Tryz.prog w=.ok (.int .u8 22) w:=by kernel_rfl
theorem Tryz.kindL(w:World):((ReflectliteType.abiMethod fun t=>(fun a:Nat=>Value.int IntKind.u8 (a:Int)) <$> Rtype.kind t) #[.pointer (some ⟨9,63,none⟩)]).run Tryz.prog w=.ok (.int .u8 25) w:=by kernel_rfl
theorem VK(z:Sem Value)(f:TypeId->Addr->Nat->Nat->Sem Value)(v:Value):ReflectliteValue.method z f #[v]=(ReflectliteValue.parts v >>= fun q=>match q with | none=>z | some (t,a,fl)=>f t a fl (fl % 32)):=rfl
theorem Tryz.partsP(a:Addr)(w:World):(ReflectliteValue.parts (.agg #[.pointer (some ⟨9,65,none⟩),.pointer (some a),.int .u64 150])).run Tryz.prog w=.ok (some (65,a,150)) w:=by kernel_rfl
theorem Tryz.isNilP(a p:Addr)(W:World)(ha:W.cell? a=some (.pointer (some p))) :
 (ReflectliteValue.method (ReflectliteValue.valueError "reflectlite.Value.IsNil" 0) ReflectliteValue.isNil #[.agg #[.pointer (some ⟨9, 65, none⟩), .pointer (some a), .int .u64 150]]).run Tryz.prog W = .ok (.bool false) W := by
 rw[VK];simp only[Sem.run_bind,Tryz.partsP,Result.andThen];simp[ReflectliteValue.isNil,loadVar,isAgg,underlying,Tryz.underlying65,ha,Result.andThen]
theorem Tryz.elemT(w:World):(ReflectliteType.method ReflectliteType.elem #[.agg #[.pointer (some ⟨9,65,none⟩)]]).run Tryz.prog w=.ok (.iface 132 (.agg #[.pointer (some ⟨9,63,none⟩)])) w:=by kernel_rfl
theorem Tryz.implementsL (w : World) : (ReflectliteType.relation "Implements" ReflectliteType.implements_ #[.agg #[.pointer (some ⟨9, 63, none⟩)], .iface 132 (.agg #[.pointer (some ⟨9, 59, none⟩)])]).run Tryz.prog w = .ok (.bool true) w := by kernel_rfl
theorem Tryz.typeOfL(v:Value)(w:World):(ReflectliteType.typeOf #[.iface 63 v]).run Tryz.prog w=.ok (.iface 132 (.agg #[.pointer (some ⟨9,63,none⟩)])) w:=by kernel_rfl
theorem Tryz.typeOfF(v:Value)(w:World):(ReflectliteType.typeOf #[.iface 90 v]).run Tryz.prog w=.ok (.iface 132 (.agg #[.pointer (some ⟨9,90,none⟩)])) w:=by kernel_rfl
theorem Tryz.assignL (w : World) : (ReflectliteType.relation "AssignableTo" ReflectliteType.assignableTo #[.agg #[.pointer (some ⟨9, 63, none⟩)], .iface 132 (.agg #[.pointer (some ⟨9, 63, none⟩)])]).run Tryz.prog w = .ok (.bool true) w := by kernel_rfl
theorem Tryz.assignF (w : World) : (ReflectliteType.relation "AssignableTo" ReflectliteType.assignableTo #[.agg #[.pointer (some ⟨9, 90, none⟩)], .iface 132 (.agg #[.pointer (some ⟨9, 63, none⟩)])]).run Tryz.prog w = .ok (.bool false) w := by kernel_rfl
theorem Tryz.valueOfL(c l:Value)(w:World):(ReflectliteValue.unpack (.iface 63 (.agg #[c,l]))).run Tryz.prog w
 = .ok (.agg #[.pointer (some ⟨9,63,none⟩),.pointer (some ⟨w.heap.size,0,none⟩),.int .u64 153]) (w.alloc (.cells #[c,l] 63)):=by kernel_rfl
theorem Tryz.elemOfP(w:World):(Rtype.elem? 65).run Tryz.prog w=.ok (some 63) w:=by kernel_rfl
theorem Tryz.mkL(p:Addr)(w:World):(ReflectliteValue.mk 63 p ReflectliteValue.flagAddr).run Tryz.prog w=.ok (.agg #[.pointer (some ⟨9,63,none⟩),.pointer (some p),.int .u64 409]) w:=by kernel_rfl
theorem Tryz.elemVP(a p:Addr)(W:World)(ha:W.cell? a=some (.pointer (some p))) :
 (ReflectliteValue.method (ReflectliteValue.valueError "reflectlite.Value.Elem" 0) ReflectliteValue.elem #[.agg #[.pointer (some ⟨9, 65, none⟩), .pointer (some a), .int .u64 150]]).run Tryz.prog W
  = .ok (.agg #[.pointer (some ⟨9,63,none⟩),.pointer (some p),.int .u64 409]) W:=by
 rw[VK];simp only[Sem.run_bind,Tryz.partsP,Result.andThen];simp[ReflectliteValue.elem,loadVar,isAgg,underlying,Tryz.underlying65,ha,Result.andThen,Tryz.elemOfP,Tryz.mkL]
theorem Tryz.methodKind (h : Value) (w : World) : (Go.method 332 132 (.agg #[h]) "Elem").run Tryz.prog w = .ok (151, .agg #[h]) w := by kernel_rfl
theorem Tryz.methodImplements (h : Value) (w : World) : (Go.method 332 132 (.agg #[h]) "Implements").run Tryz.prog w = .ok (152, .agg #[h]) w := by kernel_rfl
theorem Tryz.methodAssignableTo (h : Value) (w : World) : (Go.method 332 132 (.agg #[h]) "AssignableTo").run Tryz.prog w = .ok (149, .agg #[h]) w := by kernel_rfl
theorem Tryz.methodUnwrap (s c : Value) (w : World) : (Go.method 332 90 (.agg #[s, c]) "Unwrap").run Tryz.prog w = .ok (142, .agg #[s, c]) w := by kernel_rfl
theorem Tryz.asNo(s c:Value)(w:World):(Instr.typeAssert (.iface 90 (.agg #[s,c])) 59 137 true).run Tryz.prog w=.ok (.tuple #[.nilIface,.bool false]) w:=run_typeAssert_lacksB Tryz.underlying137 (by kernel_rfl) (by kernel_rfl) ..
theorem Tryz.unwrapYes(s c:Value)(w:World):(Instr.typeAssert (.iface 90 (.agg #[s,c])) 59 140 true).run Tryz.prog w=.ok (.tuple #[.iface 90 (.agg #[s,c]),.bool true]) w:=by kernel_rfl
theorem Tryz.partsA(a:Addr)(w:World):(ReflectliteValue.parts (.agg #[.pointer (some ⟨9,63,none⟩),.pointer (some a),.int .u64 409])).run Tryz.prog w=.ok (some (63,a,409)) w:=by kernel_rfl
theorem Tryz.partsL(a:Addr)(w:World):(ReflectliteValue.parts (.agg #[.pointer (some ⟨9,63,none⟩),.pointer (some a),.int .u64 153])).run Tryz.prog w=.ok (some (63,a,153)) w:=by kernel_rfl
theorem Tryz.directL(w:World):(Rtype.directlyAssignable 63 63).run Tryz.prog w=.ok true w:=by kernel_rfl
end Go.Proofs.YtkehcdfalcakmaaGreatDoor
namespace Go.Proofs.YtkehcdfalcakmaaGreatDoor
set_option maxHeartbeats 4000000
set_option maxRecDepth 100000
open Go.RowKit Go.Extern.Stop Go.Stop Go.Extern
theorem Tryz.setL(T b:Nat)(c l:Int)(o1 o2:Value)(W:World)(hb0:W.cell? ⟨b,0,none⟩=some (.int .i64 c))(hb1:W.cell? ⟨b,1,none⟩=some (.int .i64 l))
 (ht0:W.cell? ⟨T,0,none⟩=some o1) (ht1:W.cell? ⟨T,1,none⟩=some o2) (hf:∀o,W.frozen? ⟨T,o,none⟩=false) :
 (ReflectliteValue.set #[.agg #[.pointer (some ⟨9,63,none⟩),.pointer (some ⟨T,0,none⟩),.int .u64 409],.agg #[.pointer (some ⟨9,63,none⟩),.pointer (some ⟨b,0,none⟩),.int .u64 153]]).run Tryz.prog W
  = .ok (.tuple #[]) ((W.setCell ⟨T,0,none⟩ (.int .i64 c)).setCell ⟨T,1,none⟩ (.int .i64 l)):=by
 have h1:(W.setCell ⟨T,0,none⟩ (.int .i64 c)).cell? ⟨T,1,none⟩=some o2:=by
  exact(World.cell?_setCell_other _ _ _ _ (by simp)).trans ht1
 have h2:(W.setCell ⟨T,0,none⟩ (.int .i64 c)).frozen? ⟨T,1,none⟩=false:=by
  simp[hf]
 delta ReflectliteValue.set
 delta ReflectliteValue.set.match_3
 rw[dif_pos (by rfl)];simp only[Array.getLit,List.getElem_toArray,List.getElem_cons_zero,List.getElem_cons_succ];simp only[Sem.run_bind,Tryz.partsA,Tryz.partsL,Result.andThen];simp[ReflectliteValue.flagAddr,loadVar,loadCells,loadCellsFrom,hb0,hb1,Result.andThen,Tryz.directL,storeVar,Value.cells,storeCells,Addr.add];rw[run_store Tryz.prog W ⟨T,0,none⟩ _ _ (by rfl)];simp[ht0,hf];rw[run_store Tryz.prog _ ⟨T,1,none⟩ _ _ (by rfl)];simp[h1,h2]
theorem Tryz.methodKindP (h : Value) (w : World) : (Go.method 332 132 (.agg #[h]) "Kind").run Tryz.prog w = .ok (137, h) w := by kernel_rfl
theorem Za6(s c:Value)(w:World):Calls Tryz.prog 142 #[.agg #[s,c]] w fun e w'=>e=.returned c/\w'=w.alloc (.cells #[s,c] 90):=by
 go_enter Tryz.func142,Tryz.ntmps142
 go_wp2
 go_ret
 exact⟨rfl,rfl⟩
def asW(w:World)(T:Nat)(s:Value)(c l:Int):World :=
 ((((((w.alloc (.cells #[.pointer (some ⟨T,0,none⟩)] 65)).alloc (.cells #[.pointer (some ⟨9,65,none⟩),.pointer (some ⟨w.heap.size,0,none⟩),.int .u64 150] 101)).alloc (.cells #[.pointer (some ⟨9,65,none⟩),.pointer (some ⟨w.heap.size,0,none⟩),.int .u64 150] 101)).alloc (.cells #[s,.iface 63 (.agg #[.int .i64 c,.int .i64 l])] 90)).alloc (.cells #[.int .i64 c,.int .i64 l] 63)).setCell ⟨T,0,none⟩ (.int .i64 c)).setCell ⟨T,1,none⟩ (.int .i64 l)
theorem Zhy(T:Nat)(s:Value)(c l:Int)(o1 o2:Value)(w:World)(hg:w.cell? ⟨2,0,none⟩=some (.iface 132 (.agg #[.pointer (some ⟨9,59,none⟩)])))
 (ht0:w.cell? ⟨T,0,none⟩=some o1) (ht1:w.cell? ⟨T,1,none⟩=some o2) (hf0:∀o,w.frozen? ⟨T,o,none⟩=false) :
 Calls Tryz.prog 28 #[.iface 90 (.agg #[s,.iface 63 (.agg #[.int .i64 c,.int .i64 l])]),.iface 65 (.pointer (some ⟨T,0,none⟩))] w fun ev w'=>ev=.returned (.bool true)/\w'=asW w T s c l:=by
 have x0:=@run_callFunc_extern Tryz.prog 49 _ (fun args=>ReflectliteValue.unpack (args.getD 0 (.tuple #[]))) Tryz.func49 (by kernel_rfl) (by kernel_rfl) (by kernel_rfl) (by kernel_rfl)
 have x1 := @run_callFunc_extern Tryz.prog 50 _ (ReflectliteValue.methodAny (ReflectliteValue.valueError "reflectlite.Value.Type" 0) (fun t _ _ _ => ReflectliteType.toType t)) Tryz.func50 (by kernel_rfl) (by kernel_rfl) (by kernel_rfl) (by kernel_rfl)
 have x2 := @run_callFunc_extern Tryz.prog 51 _ (ReflectliteValue.method (ReflectliteValue.valueError "reflectlite.Value.IsNil" 0) ReflectliteValue.isNil) Tryz.func51 (by kernel_rfl) (by kernel_rfl) (by kernel_rfl) (by kernel_rfl)
 have x3:=@run_callFunc_extern Tryz.prog 137 _ (ReflectliteType.abiMethod fun t=>do pure (.int .u8 (<-Rtype.kind t))) Tryz.func137 (by kernel_rfl) (by kernel_rfl) (by kernel_rfl) (by kernel_rfl);have x4:=@run_callFunc_extern Tryz.prog 151 _ (ReflectliteType.method ReflectliteType.elem) Tryz.func151 (by kernel_rfl) (by kernel_rfl) (by kernel_rfl) (by kernel_rfl)
 have x5 := @run_callFunc_extern Tryz.prog 152 _ (ReflectliteType.relation "Implements" ReflectliteType.implements_) Tryz.func152 (by kernel_rfl) (by kernel_rfl) (by kernel_rfl) (by kernel_rfl)
 have x6:=@run_callFunc_extern Tryz.prog 67 _ ReflectliteType.typeOf Tryz.func67 (by kernel_rfl) (by kernel_rfl) (by kernel_rfl) (by kernel_rfl)
 have x7 := @run_callFunc_extern Tryz.prog 149 _ (ReflectliteType.relation "AssignableTo" ReflectliteType.assignableTo) Tryz.func149 (by kernel_rfl) (by kernel_rfl) (by kernel_rfl) (by kernel_rfl)
 have x8 := @run_callFunc_extern Tryz.prog 68 _ (ReflectliteValue.method (ReflectliteValue.valueError "reflectlite.Value.Elem" 0) ReflectliteValue.elem) Tryz.func68 (by kernel_rfl) (by kernel_rfl) (by kernel_rfl) (by kernel_rfl)
 have x9:=@run_callFunc_extern Tryz.prog 69 _ ReflectliteValue.set Tryz.func69 (by kernel_rfl) (by kernel_rfl) (by kernel_rfl) (by kernel_rfl);have y0:=Tryz.typeOfL;have y1:=Tryz.typeOfF;have y2:=Tryz.methodAssignableTo;have y3:=Tryz.assignL;have y4:=Tryz.assignF;have y5:=Tryz.valueOfL;have y6:=Tryz.valueOfP;have y7:=Tryz.typeP;have y8:=Tryz.methodKindP;have y9:=Tryz.methodKind;have y10:=Tryz.methodImplements;have y11:=Tryz.kindP;have y12:=Tryz.kindL;have y13:=Tryz.elemT;have y14:=Tryz.implementsL;have y15:=Tryz.asNo;have y16:=Tryz.unwrapYes;have y17:=Tryz.methodUnwrap;have hlt:2 < w.heap.size:=World.block_lt_of_cell? w _ hg;have htl:T<w.heap.size:=World.block_lt_of_cell? w _ ht0;have hg2:((w.alloc (.cells #[.pointer (some ⟨T,0,none⟩)] 65)).alloc (.cells #[.pointer (some ⟨9,65,none⟩),.pointer (some ⟨w.heap.size,0,none⟩),.int .u64 150] 101)).cell? ⟨2,0,none⟩=some (.iface 132 (.agg #[.pointer (some ⟨9,59,none⟩)])):=by
  rw[World.cell?_alloc_lt _ _ ⟨2,0,none⟩ (by simp only[World.size_alloc];omega),World.cell?_alloc_lt _ _ ⟨2,0,none⟩ hlt];exact hg
 have n8:=Tryz.isNilP ⟨w.heap.size,0,none⟩ ⟨T,0,none⟩ ((w.alloc (.cells #[.pointer (some ⟨T,0,none⟩)] 65)).alloc (.cells #[.pointer (some ⟨9,65,none⟩),.pointer (some ⟨w.heap.size,0,none⟩),.int .u64 150] 101)) (by simp);have b4:Below w.heap.size w ((((w.alloc (.cells #[.pointer (some ⟨T,0,none⟩)] 65)).alloc (.cells #[.pointer (some ⟨9,65,none⟩),.pointer (some ⟨w.heap.size,0,none⟩),.int .u64 150] 101)).alloc (.cells #[.pointer (some ⟨9,65,none⟩),.pointer (some ⟨w.heap.size,0,none⟩),.int .u64 150] 101)).alloc (.cells #[s,.iface 63 (.agg #[.int .i64 c,.int .i64 l])] 90)):=Xb (Xb (Xb (Xb (Below.refl _ _) _) _) _) _;have b5:Below w.heap.size w (((((w.alloc (.cells #[.pointer (some ⟨T,0,none⟩)] 65)).alloc (.cells #[.pointer (some ⟨9,65,none⟩),.pointer (some ⟨w.heap.size,0,none⟩),.int .u64 150] 101)).alloc (.cells #[.pointer (some ⟨9,65,none⟩),.pointer (some ⟨w.heap.size,0,none⟩),.int .u64 150] 101)).alloc (.cells #[s,.iface 63 (.agg #[.int .i64 c,.int .i64 l])] 90)).alloc (.cells #[.int .i64 c,.int .i64 l] 63)):=Xb b4 _;have el:=Tryz.elemVP ⟨w.heap.size,0,none⟩ ⟨T,0,none⟩ ((((w.alloc (.cells #[.pointer (some ⟨T,0,none⟩)] 65)).alloc (.cells #[.pointer (some ⟨9,65,none⟩),.pointer (some ⟨w.heap.size,0,none⟩),.int .u64 150] 101)).alloc (.cells #[.pointer (some ⟨9,65,none⟩),.pointer (some ⟨w.heap.size,0,none⟩),.int .u64 150] 101)).alloc (.cells #[s,.iface 63 (.agg #[.int .i64 c,.int .i64 l])] 90)) (by rw[World.cell?_alloc_lt _ _ ⟨w.heap.size,0,none⟩ (by simp;omega),World.cell?_alloc_lt _ _ ⟨w.heap.size,0,none⟩ (by simp;omega)];simp);have st:=Tryz.setL T (w.heap.size+1+1+1+1) c l o1 o2 (((((w.alloc (.cells #[.pointer (some ⟨T,0,none⟩)] 65)).alloc (.cells #[.pointer (some ⟨9,65,none⟩),.pointer (some ⟨w.heap.size,0,none⟩),.int .u64 150] 101)).alloc (.cells #[.pointer (some ⟨9,65,none⟩),.pointer (some ⟨w.heap.size,0,none⟩),.int .u64 150] 101)).alloc (.cells #[s,.iface 63 (.agg #[.int .i64 c,.int .i64 l])] 90)).alloc (.cells #[.int .i64 c,.int .i64 l] 63))
  (by rw[World.cell?_alloc_at _ _ _ _ (by simp)];rfl) (by rw[World.cell?_alloc_at _ _ _ _ (by simp)];rfl)
  ((b5.cell (p:=⟨T,0,none⟩) htl).trans ht0) ((b5.cell (p:=⟨T,1,none⟩) htl).trans ht1) (fun o=>(World.frozen?_of_block (b5.block T htl)).trans (hf0 o))
 have uw:=Za6 s (.iface 63 (.agg #[.int .i64 c,.int .i64 l])) (((w.alloc (.cells #[.pointer (some ⟨T,0,none⟩)] 65)).alloc (.cells #[.pointer (some ⟨9,65,none⟩),.pointer (some ⟨w.heap.size,0,none⟩),.int .u64 150] 101)).alloc (.cells #[.pointer (some ⟨9,65,none⟩),.pointer (some ⟨w.heap.size,0,none⟩),.int .u64 150] 101))
 go_enter Tryz.func28,Tryz.ntmps28
 go_wp2;refine wp_loop_rounds 2 ?_;rw[rounds_succ];go_wp2;rw[rounds_succ];go_wp2
 go_ret
 exact⟨rfl,rfl⟩
end Go.Proofs.YtkehcdfalcakmaaGreatDoor
namespace Go.Proofs.YtkehcdfalcakmaaGreatDoor
set_option maxHeartbeats 4000000
set_option maxRecDepth 100000
open Go.RowKit
def ErrT(w:World):Prop:=w.cell? ⟨2,0,none⟩=some (.iface 132 (.agg #[.pointer (some ⟨9,59,none⟩)]))
theorem ErrT.keep{w w':World}(h:ErrT w)(k:Below w.heap.size w w'):ErrT w':=(k.cell (World.block_lt_of_cell? w _ h)).trans h
def ZgL(w:World)(L B:Nat)(val:Value)(o:ZaJ):Prop:=∃va vc,val=.agg #[.int .i64 o.code,.int .i64 o.line,.int .i64 o.fn.values,.slice va o.fn.blocks.length vc]/\Zo w L B va o.fn.blocks
theorem Zeo{w0 w:World}{T:Nat}{s:Value}{c l:Int}(h:Below w0.heap.size w0 w)(hT:w0.heap.size<=T):Below w0.heap.size w0 (asW w T s c l) :=
 (((((((h.alloc h.size _).alloc (by have:=h.size;simp only[World.size_alloc];omega) _).alloc (by have:=h.size;simp only[World.size_alloc];omega) _).alloc (by have:=h.size;simp only[World.size_alloc];omega) _).alloc (by have:=h.size;simp only[World.size_alloc];omega) _).setCell hT _).setCell hT _)
theorem Zd8{w w3:World}{T:Nat}{s:Value}{c l:Int}{o1 o2:Value}(h:w3=asW w T s c l)(h0:w.cell? ⟨T,0,none⟩=some o1)(h1:w.cell? ⟨T,1,none⟩=some o2) :
 w3.cell? ⟨T,0,none⟩=some (.int .i64 c)/\w3.cell? ⟨T,1,none⟩=some (.int .i64 l)/\(∀b,b<w.heap.size->b≠T->w3.heap[b]?=w.heap[b]?)/\w.heap.size<=w3.heap.size:=by
 have hT:=World.block_lt_of_cell? w _ h0;subst h;unfold asW;generalize hW:((((w.alloc (.cells #[.pointer (some ⟨T,0,none⟩)] 65)).alloc (.cells #[.pointer (some ⟨9,65,none⟩),.pointer (some ⟨w.heap.size,0,none⟩),.int .u64 150] 101)).alloc (.cells #[.pointer (some ⟨9,65,none⟩),.pointer (some ⟨w.heap.size,0,none⟩),.int .u64 150] 101)).alloc (.cells #[s,.iface 63 (.agg #[.int .i64 c,.int .i64 l])] 90)).alloc (.cells #[.int .i64 c,.int .i64 l] 63)=W;have k:Below w.heap.size w W:=by rw[<-hW];exact Xb (Xb (Xb (Xb (Xb (Below.refl _ _) _) _) _) _) _
 have e0:=(k.cell (p:=⟨T,0,none⟩) hT).trans h0;have e1:=(k.cell (p:=⟨T,1,none⟩) hT).trans h1;have e2:(W.setCell ⟨T,0,none⟩ (.int .i64 c)).cell? ⟨T,1,none⟩=some o2:=(World.cell?_setCell_other _ _ _ _ (by simp)).trans e1;refine⟨?_,World.cell?_setCell_same _ _ _ e2,fun b hb hn=>?_,by rw[Xd,Xd];exact k.size⟩
 ·exact(World.cell?_setCell_other _ _ _ _ (by simp)).trans (World.cell?_setCell_same _ _ _ e0)
 ·exact(Below.heap_setCell _ _ _ _ hn).trans ((Below.heap_setCell _ _ _ _ hn).trans (k.block b hb))
theorem Zc2(a:Option Addr)(n c L B:Nat)(text:List UInt8)(w:World)(hx:Hid (n=text.length))(hnc:n<=c)(hc:c<=9223372036854775807)(ha:Hid (XE w L B a text))(hm:Hid (Ti w))(hB:B<=w.heap.size)(ht:Hid (Ym w))(ht2:Hid (XR w))(hE:Hid (ErrT w)) :
 Calls Tryz.prog 8 #[.slice a n c] w fun e w'=>∃val,e=.returned val/\Below w.heap.size w w'/\ZgL w' w.heap.size w'.heap.size val (parseP text):=by
 have b1:Below w.heap.size w (w.alloc (.cells #[.int .i64 0,.int .i64 0,.int .i64 0,.slice none 0 0] 30)):=Xb (Below.refl w.heap.size w) (.cells #[.int .i64 0,.int .i64 0,.int .i64 0,.slice none 0 0] 30);have hs0:(w.alloc (.cells #[.int .i64 0,.int .i64 0,.int .i64 0,.slice none 0 0] 30)).heap.size=w.heap.size+1:=World.size_alloc _ _;have HRT:Hid (Calls Tryz.prog 27 #[.slice a n c] (w.alloc (.cells #[.int .i64 0,.int .i64 0,.int .i64 0,.slice none 0 0] 30)) fun e w'=>Za3 (w.alloc (.cells #[.int .i64 0,.int .i64 0,.int .i64 0,.slice none 0 0] 30)) w' (parseP text) e):=Xa (ZaL a n c L B text (w.alloc (.cells #[.int .i64 0,.int .i64 0,.int .i64 0,.slice none 0 0] 30)) hx hnc hc (Xa (ha.keep (b1.mono hB))) (Xa (Ti.keep hm.out b1)) (by omega) (Xa (ht.keep b1 ht.1)) (Xa (ht2.keep b1 ht2.1)));have HRV:Hid (∀W,Below (w.alloc (.cells #[.int .i64 0,.int .i64 0,.int .i64 0,.slice none 0 0] 30)).heap.size (w.alloc (.cells #[.int .i64 0,.int .i64 0,.int .i64 0,.slice none 0 0] 30)) W->Below w.heap.size w W/\w.heap.size<W.heap.size/\W.cell? ⟨w.heap.size,0,none⟩=some (.int .i64 0)/\W.cell? ⟨w.heap.size,1,none⟩=some (.int .i64 0)/\W.cell? ⟨w.heap.size,2,none⟩=some (.int .i64 0)/\W.cell? ⟨w.heap.size,3,none⟩=some (.slice none 0 0)/\(∀o,W.frozen? ⟨w.heap.size,o,none⟩=false)/\ErrT W):=Xa (fun W k=>by
  have k2:=k.size;have kb:=k.block w.heap.size (by omega);have hb:=b1.trans (k.mono (by omega));exact⟨hb,by omega,(Xc kb).trans (by simp),(Xc kb).trans (by simp),(Xc kb).trans (by simp),(Xc kb).trans (by simp),fun o=>(World.frozen?_of_block kb).trans (by simp),ErrT.keep hE.out hb⟩)
 clear hx ha hm ht ht2 hE b1;generalize parseP text=o at *;by_cases h0:o.code=0
 ·have HR2:Hid (Calls Tryz.prog 27 #[.slice a n c] (w.alloc (.cells #[.int .i64 0,.int .i64 0,.int .i64 0,.slice none 0 0] 30)) fun e w1=>∃va vc,e=.returned (.tuple #[.agg #[.int .i64 o.fn.values,.slice va o.fn.blocks.length vc],.nilIface])/\Below (w.alloc (.cells #[.int .i64 0,.int .i64 0,.int .i64 0,.slice none 0 0] 30)).heap.size (w.alloc (.cells #[.int .i64 0,.int .i64 0,.int .i64 0,.slice none 0 0] 30)) w1/\Hid (o.line=0/\Zo w1 (w.alloc (.cells #[.int .i64 0,.int .i64 0,.int .i64 0,.slice none 0 0] 30)).heap.size w1.heap.size va o.fn.blocks)):=Xa (HRT.mono (fun e w1 h=>by
   rcases h with⟨hb,⟨_,h2,va,vc,h3,h4⟩ | ⟨h1,_⟩⟩
   ·exact⟨va,vc,h3,hb,⟨h2,h4⟩⟩
   ·exact absurd h0 h1))
  clear HRT
  go_enter Tryz.func8,Tryz.ntmps8
  go_wp2_with (go_at_call 27;refine HR2.mono ?_;rintro e w1 ⟨va,vc,rfl,hb1,hsp⟩;obtain⟨hb,hsz,r0,r1,r2,r3,rz,_⟩:=HRV.out w1 hb1;have HB1:=Xa hb;clear hb1 hb)
  go_wp2_with (go_at_call 28;refine(Zh3 _ _).mono ?_;rintro e w2 ⟨rfl,rfl⟩)
  go_wp2;refine bodyPost_ret (v:=.agg #[.int .i64 0,.int .i64 0,.int .i64 o.fn.values,.slice va o.fn.blocks.length vc]) (by simp[results,Tryz.results8,go_sem, *]) rfl ?_;refine⟨_,rfl,?_,va,vc,?_,?_⟩
  ·exact Xb (Xb (HB1.setCell (Nat.le_refl _) _ |>.setCell (Nat.le_refl _) _ |>.setCell (Nat.le_refl _) _ |>.setCell (Nat.le_refl _) _) _) _
  ·rw[h0,hsp.1]
   rfl
  ·refine(hsp.2.keepS (fun b h1 h2=>?_)).mono (by omega) ?_
   ·rw[Below.heap_alloc _ _ _ (by simp;omega),Below.heap_alloc _ _ _ (by simp;omega),Below.heap_setCell _ _ _ _ (by dsimp only;omega),Below.heap_setCell _ _ _ _ (by dsimp only;omega),Below.heap_setCell _ _ _ _ (by dsimp only;omega),Below.heap_setCell _ _ _ _ (by dsimp only;omega)]
   ·simp
    omega
 ·have HR2:Hid (Calls Tryz.prog 27 #[.slice a n c] (w.alloc (.cells #[.int .i64 0,.int .i64 0,.int .i64 0,.slice none 0 0] 30)) fun e w1=>∃s,e=.returned (.tuple #[.agg #[.int .i64 0,.slice none 0 0],.iface 90 (.agg #[.string s,.iface 63 (.agg #[.int .i64 o.code,.int .i64 o.line])])])/\Below (w.alloc (.cells #[.int .i64 0,.int .i64 0,.int .i64 0,.slice none 0 0] 30)).heap.size (w.alloc (.cells #[.int .i64 0,.int .i64 0,.int .i64 0,.slice none 0 0] 30)) w1/\Hid (o=Tm o.code o.line)):=Xa (HRT.mono (fun e w1 h=>by
   rcases h with⟨hb,⟨h1,_⟩ | ⟨_,h2,s,h3⟩⟩
   ·exact absurd h1 h0
   ·exact⟨s,h3,hb,h2⟩))
  clear HRT;have HAS:Hid (∀(W:World)(T:Nat)(s:ByteArray),ErrT W->W.cell? ⟨T,0,none⟩=some (.int .i64 0)->W.cell? ⟨T,1,none⟩=some (.int .i64 0)->(∀q,W.frozen? ⟨T,q,none⟩=false)->Calls Tryz.prog 28 #[.iface 90 (.agg #[.string s,.iface 63 (.agg #[.int .i64 o.code,.int .i64 o.line])]),.iface 65 (.pointer (some ⟨T,0,none⟩))] W fun ev w'=>ev=.returned (.bool true)/\w'=asW W T (.string s) o.code o.line):=Xa (fun W T s h1 h2 h3 h4=>Zhy T (.string s) o.code o.line _ _ W h1 h2 h3 h4)
  go_enter Tryz.func8,Tryz.ntmps8
  go_wp2_with (go_at_call 27;refine HR2.mono ?_;rintro e w1 ⟨s,rfl,hb1,HO⟩;obtain⟨hb,hsz,r0,r1,r2,r3,rz,hE⟩:=HRV.out w1 hb1;have HB1:=Xa hb;have HE:=Xa hE;clear hb1 hb hE)
  go_wp2_with (go_at_call 28;refine(HAS.out _ _ _ (ErrT.keep HE.out (Xb (Xb (Below.refl _ _) _) _)) (by simp) (by simp) (fun q=>by simp)).mono ?_;rintro e w3 ⟨rfl,hw3⟩;obtain⟨f0,f1,f2,f3⟩:=Zd8 (T:=w1.heap.size+1) (o1:=.int .i64 0) (o2:=.int .i64 0) hw3 (by simp) (by simp);have kb:=(f2 w.heap.size (by simp;omega) (by omega)).trans ((Below.heap_alloc _ _ _ (by simp;omega)).trans (Below.heap_alloc _ _ _ hsz));have s0:=(Xc kb).trans r0;have s1:=(Xc kb).trans r1;have s2:=(Xc kb).trans r2;have s3:=(Xc kb).trans r3;have sz:=fun o=>(World.frozen?_of_block (a:=⟨w.heap.size,o,none⟩) kb).trans (rz o);(have HB3:Hid (Below w.heap.size w w3):=Xa (by rw[hw3];exact Zeo (Xb (Xb HB1.out _) _) (by omega)));have hsz3:w.heap.size<w3.heap.size:=(by simp at f3;omega);clear hw3 kb f2 f3 r0 r1 r2 r3 rz)
  refine bodyPost_ret (v:=.agg #[.int .i64 o.code,.int .i64 o.line,.int .i64 0,.slice none 0 0]) (by simp[results,Tryz.results8,go_sem, *]) rfl ?_;refine⟨_,rfl,?_,none,0,?_,?_⟩
  ·exact(HB3.setCell (Nat.le_refl _) _ |>.setCell (Nat.le_refl _) _ |>.setCell (Nat.le_refl _) _ |>.setCell (Nat.le_refl _) _)
  ·rw[HO.out]
   rfl
  ·rw[HO.out]
   exact Or.inl rfl
theorem ZdY(w:World)(line:List UInt8)(hl:line.length<=1000000):∃cap W1,(line.length<=cap/\cap<=9223372036854775807)/\(convert 9 22 (.string (Xs line))).run Tryz.prog w=.ok (.slice (some ⟨w.heap.size,0,none⟩) line.length cap) W1/\Below w.heap.size w W1/\XE W1 w.heap.size W1.heap.size (some ⟨w.heap.size,0,none⟩) line:=by
 refine⟨_,_,⟨?_,?_⟩,by have:=run_bytes_of_string (P:=Tryz.prog) w 9 22 5 (Xs line) Tryz.underlying9 Tryz.underlying22 Tryz.underlying5;rw[TR]at this;exact this,?_,?_⟩
 ·exact grownCap_ge w _ _ _
 ·exact grownCap_le_maxLen w _ _ _ (by unfold maxLen;omega)
 ·exact(Xb (Below.refl _ _).drew _)
 ·intro i hi
  refine⟨_,0,rfl,⟨Nat.le_refl _,by show _<(w.heap.push _).size;simp⟩,?_⟩;rw[Nat.zero_add,cell_of_row _ w.heap.size i _ _ _ (heap_alloc_new w.drew _)];unfold bytesRow;rw[Array.getElem?_append_left (by simpa [Xs]using hi)];simp[Xs,hi]
theorem Zei(ca:Option Addr)(n cc:Nat)(bs:List UInt8)(w:World)(ha:Hid (XE w 0 w.heap.size ca bs))(hx:Hid (n=bs.length))(hn:n<=9223372036854775807)(hO:Hid (Ym w))(hT:Hid (XR w))(hP:Hid (TabOk w.heap.size w))(hM:Hid (Ti w))(hE:Hid (ErrT w)) :
 Calls Tryz.prog 3 #[.slice ca n cc] w fun e w'=>e=.returned (.bool true)/\Below w.heap.size w w':=by
 by_cases hn1:n<=1048576
 ·have hn1I:¬(1048576:Int)<n:=by omega
  have HDR:=Xa (fun W (hb:Below w.heap.size w W)=>ZdP ca n cc bs 0 w.heap.size W (Xa (ha.keep hb)) hx hn1 hb.size);generalize drawL (Vf bs)=F at *;obtain⟨V,xs⟩:=F;dsimp only at HDR;clear ha hx
  go_enter Tryz.func3,Tryz.ntmps3
  go_wp2_with fail
  refine(HDR.out w (Below.refl _ _)).mono ?_;rintro e w1 ⟨a1,m1,c1,rfl,hdo⟩;have HD1:=Xa hdo
  clear hdo
  go_wp2_with fail
  have HB1:Hid (Below w.heap.size w (w1.alloc (.cells #[.int .i64 V,.slice a1 m1 c1] 25))):=Xa (Below.alloc HD1.low HD1.low.size _);have HF1:Hid (Bx (w1.alloc (.cells #[.int .i64 V,.slice a1 m1 c1] 25)) w1.heap.size #[.int .i64 V,.slice a1 m1 c1] 25):=Xa (Bx.new _ _ _);have HA1:Hid (X8 (w1.alloc (.cells #[.int .i64 V,.slice a1 m1 c1] 25)) 0 w1.heap.size a1 xs):=Xa ((HD1.at_.keep (Below.alloc (Below.refl _ _) (Nat.le_refl _) _)).mono (Nat.zero_le _) (Nat.le_refl _));have HL1:=Xa HD1.len;have HT1:=Xa HD1.tot;clear HD1;generalize w1.alloc (.cells #[.int .i64 V,.slice a1 m1 c1] 25)=wf at *;generalize w1.heap.size=fb at *;refine(HDR.out wf HB1.out).mono ?_;rintro e w2 ⟨a2,m2,c2,rfl,hdo⟩;have HD2:=Xa hdo
  have HB2:=Xa (HB1.trans (hdo.low.mono HB1.size));have HF2:=Xa (HF1.keep (hdo.low.block _ HF1.lt));have HA2:=Xa ((HA1.keep (B:=fb) (hdo.low.mono (Nat.le_of_lt HF1.lt))));clear hdo HB1 HF1 HA1 HDR
  go_wp2_with fail
  refine(ZfS V a2 m2 c2 xs wf.heap.size w2.heap.size w2 (Xa HD2.at_) (Xa HD2.len) (Xa HD2.tot) (Nat.le_refl _) (Xa (hO.keep HB2.out hO.1)) (Xa (hT.keep HB2.out hT.1)) (Xa (hP.next HB2.out))).mono ?_;rintro e w3 ⟨v,rfl,hb3,hown⟩;have HB3:=Xa (Xi HB2.out hb3);have HF3:=Xa (HF2.keep (hb3.block _ HF2.lt));have HA3:=Xa (HA2.keep (B:=fb) (hb3.mono (Nat.le_of_lt HF2.lt)));have HOW:=Xa hown;clear hb3 hown HB2 HF2 HA2 HD2;obtain⟨va,vc,hv⟩:∃va vc,v=.slice va (Uy ⟨V,xs⟩).length vc:=by
   rcases Zb5 HOW.out with⟨e,h0,_⟩ | ⟨g,c,e,_⟩
   ·exact⟨none,0,by rw[e,h0]⟩
   ·exact⟨_,_,e⟩
  have HVV:=Xa hv;clear hv;have z0:w3.cell? ⟨fb,0,none⟩=some (.int .i64 V):=Bx.cell HF3.out rfl;have z1:w3.cell? ⟨fb,1,none⟩=some (.slice a1 m1 c1):=Bx.cell HF3.out rfl
  go_wp2_with fail
  refine(VE V a1 m1 c1 xs 0 fb w3 HA3 HL1 HT1 (Nat.le_of_lt HF3.lt)).mono ?_;rintro e w4 ⟨rfl,hb4⟩;have HB4:=Xa (Xi HB3.out hb4);have HF4:=Xa (HF3.keep (hb4.block _ HF3.lt));have HA4:=Xa (HA3.keep (B:=fb) (hb4.mono (Nat.le_of_lt HF3.lt)));have HW4:Hid (w4.ownsRow w2.heap.size 5 1 v (Uy ⟨V,xs⟩).length (Xp (Uy ⟨V,xs⟩))):=Xa (Uc HOW.out hb4);have y0:w4.cell? ⟨fb,0,none⟩=some (.int .i64 V):=Bx.cell HF4.out rfl;have y1:w4.cell? ⟨fb,1,none⟩=some (.slice a1 m1 c1):=Bx.cell HF4.out rfl;clear hb4 HB3 HF3 HA3 HOW z0 z1;cases hval:Yx ⟨V,xs⟩with
  | false =>
   have HVI:Hid (Ki ⟨V,xs⟩=false):=Xa (by rw[Zp];exact hval);have he:Uy ⟨V,xs⟩=[]:=by unfold Uy;rw[if_neg (by rw[hval];simp)]
   have hv:=HVV.out;rw[he]at hv HW4;rw[List.length_nil]at hv;subst hv;clear hval he HVV
   go_wp2_with fail
   refine(YU V a1 m1 c1 xs 0 fb w4 HA4 HL1 HT1 (Nat.le_of_lt HF4.lt) (Xa (hO.keep HB4.out hO.1).old) (Xa (hT.keep HB4.out hT.1).old)).mono ?_;rw[HVI.out];rintro e w5 ⟨rfl,hb5⟩;have HB5:=Xa (Xi HB4.out hb5);clear hb5;go_wp2
   go_ret
   exact⟨rfl,HB5.out⟩
  | true =>
   have HVI:Hid (Ki ⟨V,xs⟩=true):=Xa (by rw[Zp];exact hval);have he:Uy ⟨V,xs⟩=Jn ⟨V,xs⟩:=by unfold Uy;rw[if_pos hval]
   obtain⟨HRP,hrl⟩:=Zbz hval;have HRP:=Xa HRP;have hv:=HVV.out;rw[he]at hv HW4;clear hval he HVV;obtain⟨text,htx⟩:∃t,t=Jn ⟨V,xs⟩:=⟨_,rfl⟩;have hpos:0<text.length:=by rw[htx];unfold Jn lineS;simp
   rw[<-htx]at hv HW4 HRP hrl;obtain⟨g,c,hv',_,_⟩:=Xj HW4.out hpos;obtain⟨rfl,rfl⟩:va=some ⟨g,0,none⟩/\vc=c:=by
    have:=hv.symm.trans hv';injection this with q1 _ q3;exact⟨q1,q3⟩
   rw[hv]at HW4;have HS0:Hid ((convert 22 9 (.slice (some ⟨g,0,none⟩) text.length vc)).run Tryz.prog w4=.ok (.string (Xs text)) w4):=Xa (JX w4 g 0 vc text (fun j h=>by
    rw[Nat.zero_add];exact KS HW4.out (by unfold Xp;simp[h])))
   obtain⟨cap,W1,hcap,hrun,hb5,hat5⟩:=ZdY w4 text (by omega);obtain⟨tl,htl⟩:∃t,t=text.length:=⟨_,rfl⟩;have HTL:=Xa htl;have hs:=HS0.out;have hrun0:=hrun;rw[<-htl]at hv hrl hs hrun hcap;subst hv;have hrlI:(tl:Int)<100000:=by omega
   have HB5:=Xa (Xi HB4.out hb5);have HF5:=Xa (HF4.keep (hb5.block _ HF4.lt));have HA5:=Xa (HA4.keep (B:=fb) (hb5.mono (Nat.le_of_lt HF4.lt)));have HAT:=Xa hat5;have HCP:=Xa hcap;clear hrun0 hb5 hat5 hcap htx hpos hv' htl HS0 HW4 HA4
   go_wp2_with fail
   refine(Zc2 (some ⟨w4.heap.size,0,none⟩) tl cap w4.heap.size W1.heap.size text W1 HTL HCP.1 HCP.2 HAT (Xa (Ti.keep hM.out HB5.out)) (Nat.le_refl _) (Xa (hO.keep HB5.out hO.1)) (Xa (hT.keep HB5.out hT.1)) (Xa (ErrT.keep hE.out HB5.out))).mono ?_;rintro e w6 ⟨val,rfl,hb6,hps⟩;rw[HRP.out]at hps;obtain⟨va6,vc6,hval,hsep⟩:=hps;dsimp only at hval hsep;have hml:=HL1.out;rw[<-hml]at hval;clear hml;have HA6:=Xa (hsep.blks.mono (Nat.zero_le _) (Nat.le_refl _));have HB6:=Xa (Xi HB5.out hb6);have HF6:=Xa (HF5.keep (hb6.block _ HF5.lt));have HG6:=Xa (HA5.keep (B:=fb) (hb6.mono (Nat.le_of_lt HF5.lt)));have hf6:fb<w6.heap.size:=HF6.lt;have x0:w6.cell? ⟨fb,0,none⟩=some (.int .i64 V):=Bx.cell HF6.out rfl;have x1:w6.cell? ⟨fb,1,none⟩=some (.slice a1 m1 c1):=Bx.cell HF6.out rfl;subst hval;clear hb6 hsep hs hrun y0 y1 HB5 HF5 HA5 HAT HB4 HF4
   go_wp2_with fail
   have HP7:Hid (Bx (w6.alloc (.cells #[.int .i64 0,.int .i64 ((0:Nat):Int),.int .i64 V,.slice va6 m1 vc6] 30)) w6.heap.size #[.int .i64 0,.int .i64 ((0:Nat):Int),.int .i64 V,.slice va6 m1 vc6] 30):=Xa (Bx.new _ _ _);have k7:Below w6.heap.size w6 (w6.alloc (.cells #[.int .i64 0,.int .i64 ((0:Nat):Int),.int .i64 V,.slice va6 m1 vc6] 30)):=Xb (Below.refl _ _) _;refine(VL V va6 a1 m1 vc6 c1 xs 0 w6.heap.size 0 fb _ (Xa (HA6.keep k7)) (Xa (HG6.keep (k7.mono (Nat.le_of_lt hf6)))) HL1 HT1 (by simp) (by simp;omega)).mono ?_;rintro e w8 ⟨rfl,hb8⟩;have HB8:=Xa (Xi (Xi HB6.out k7) hb8);have HP8:=Xa (HP7.keep (hb8.block _ HP7.lt));have HA8:=Xa ((HA6.keep k7).keep (B:=w6.heap.size) (hb8.mono (by simp)));have p2:w8.cell? ⟨w6.heap.size,2,none⟩=some (.int .i64 V):=Bx.cell HP8.out rfl;have p3:w8.cell? ⟨w6.heap.size,3,none⟩=some (.slice va6 m1 vc6):=Bx.cell HP8.out rfl;clear hb8 k7 HP7 x0 x1 HG6 HB6 HF6
   go_wp2_with fail
   refine(YU V va6 m1 vc6 xs 0 w6.heap.size w8 HA8 HL1 HT1 (Nat.le_of_lt HP8.lt) (Xa (hO.keep HB8.out hO.1).old) (Xa (hT.keep HB8.out hT.1).old)).mono ?_;rw[HVI.out];rintro e w9 ⟨rfl,hb9⟩;have HB9:=Xa (Xi HB8.out hb9);clear hb9;go_wp2
   go_ret
   exact⟨rfl,HB9.out⟩
 ·have hn1I:(1048576:Int)<n:=by omega
  go_enter Tryz.func3,Tryz.ntmps3
  go_wp2
  go_ret
  exact⟨rfl,Below.refl _ _⟩
end Go.Proofs.YtkehcdfalcakmaaGreatDoor
