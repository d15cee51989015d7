import Derived.Test.YthgikffcdgpgiaaGreatDoorMem
import Derived.Test.YthgikffcdgpgiaaGreatDoorW5
import Derived.ProofKit
import Derived.Deep.Slices
import Derived.Lib.SmallJoins
import Derived.Test.YthgikffcdgpgiaaGreatDoorCards
import Derived.Test.YthgikffcdgpgiaaGreatDoorTie
import Derived.Test.YthgikffcdgpgiaaGreatDoorKL1
import Derived.OpenShut
import Derived.OpenVars
import Derived.LaidMore
import Derived.Deep.DeepHandedRow
import Derived.Lib.LaidTab
namespace Go.Proofs.YthgikffcdgpgiaaGreatDoor
open Go.RowKit Go.Deep
variable {H : Type} {enc : TypeId × Value → H} {P : Program} {w : World} {base : Nat} {spare : Nat → Bool} {held : Bool}
theorem block_of_cell {a:Addr} {v:Value} (h:w.cell? a=some v):a.block<w.heap.size:=by
 unfold World.cell? at h
 split at h
 ·rename_i c _ _ hb
  exact (Array.getElem?_eq_some_iff.1 hb).1
 ·cases h
theorem read_slice {α:Type} [Inhabited α] {t e:TypeId} {fuel s:Nat} {cs:List Value} {x:DataW H × List MemPlace} (ht:P.underlying t=some (.slice e)) (hs:P.cellsOf e=s) (hs0:0<s) (Q:Nat→Nat→α→Prop)
  (hQ:∀b o cs' n d,(∀j,j<s→w.cell? ⟨b,o+j,none⟩=cs'[j]?)→cs'.length=s→DataW.trod enc P w base spare held n e cs'=some d→∃x,Q b o x)
  (h:DataW.trod enc P w base spare held fuel t cs=some x) :
  ∃(a:Option Addr) (xs:List α) (c:Nat),cs=[.slice a xs.length c]∧xs.length≤maxLen∧∀i (hi:i<xs.length),∃b o,a=some ⟨b,o,none⟩∧b<w.heap.size∧Q b (o+i*s) xs[i]:=by
 rcases open_slice ht h with ⟨rfl,_⟩ | ⟨a,len,cap,m,n,D,Pl,rfl,_,hl,hm,hmm,_,hx⟩
 ·exact ⟨none,[],0,rfl,Nat.zero_le _,fun i hi=>absurd hi (by simp)⟩
 rw [hs] at hx
 have hlm:len≤m:=by rw [hmm];split<;>omega
 have cellsOf:∀i,i<len→∃cs',cs'.length=s∧(∀j,j<s→w.cell? ((a.add (i*s)).add j)=cs'[j]?)∧DataW.trod enc P w base spare held n e cs'=some (D i,Pl i):=fun i hi=>by
  obtain ⟨cs',h1,h2⟩:=hx i (by omega)
  obtain ⟨_,h3,h4⟩:=World.cells?_some h1
  exact ⟨cs',h3,h4,h2⟩
 obtain ⟨b,o,spot⟩:=a
 by_cases hlen:len=0
 ·subst hlen
  exact ⟨some ⟨b,o,spot⟩,[],cap,rfl,Nat.zero_le _,fun i hi=>absurd hi (by simp)⟩
 have hspot:spot=none:=by
  obtain ⟨cs',h1,h2,_⟩:=cellsOf 0 (by omega)
  have h3:=h2 0 hs0
  rw [List.getElem?_eq_getElem (by omega)] at h3
  simpa [Addr.add] using World.cell?_spot h3
 subst hspot
 obtain ⟨f,hf⟩:=choose_lt (α:=α) (n:=len) (p:=fun i x=>b<w.heap.size∧Q b (o+i*s) x) (fun i hi=>by
  obtain ⟨cs',h1,h2,h3⟩:=cellsOf i hi
  have h4:∀j,j<s→w.cell? ⟨b,o+i*s+j,none⟩=cs'[j]?:=fun j hj=>by
   have:=h2 j hj
   rw [Addr.add_mid,Addr.add_mid] at this
   exact this
  obtain ⟨x,hx⟩:=hQ b (o+i*s) cs' n _ h4 h1 h3
  have h5:=h4 0 hs0
  rw [List.getElem?_eq_getElem (by omega)] at h5
  exact ⟨x,block_of_cell h5,hx⟩)
 refine ⟨some ⟨b,o,none⟩,(List.range len).map f,cap,by simp,by simp;omega,fun i hi=>?_⟩
 simp only [List.length_map,List.length_range] at hi
 obtain ⟨h1,h2⟩:=hf i hi
 exact ⟨b,o,rfl,h1,by simpa using h2⟩
end Go.Proofs.YthgikffcdgpgiaaGreatDoor

namespace Go.Proofs.YthgikffcdgpgiaaGreatDoor
open Go.RowKit Go.Deep
variable {H : Type} {enc : TypeId × Value → H} {w : World} {base : Nat} {spare : Nat → Bool} {held : Bool}
theorem take1 {cs:List Value} {k:Nat} {v:Value} (h:(cs.drop k).take 1=[v]):cs[k]?=some v:=by
 have h1:((cs.drop k).take 1)[0]?=some v:=by rw [h];rfl
 rw [List.getElem?_take_of_lt (by omega),List.getElem?_drop] at h1
 simpa using h1
theorem fld_at {P:Program} {fs:Array Field} {xs:List (DataW H × List MemPlace)} {n:Nat} {cs:List Value}
  (hf:∀(i:Nat) (f:Field),fs[i]?=some f→DataW.trod enc P w base spare held n f.type ((cs.drop f.offset).take (P.cellsOf f.type))=xs[i]?) (hlen:xs.length=fs.size) {i:Nat} {f:Field} (hi:fs[i]?=some f) :
  ∃y,DataW.trod enc P w base spare held n f.type ((cs.drop f.offset).take (P.cellsOf f.type))=some y:=by
 have h1:=hf i f hi
 have h2:i<xs.length:=by rw [hlen];exact (Array.getElem?_eq_some_iff.1 hi).1
 rw [List.getElem?_eq_getElem h2] at h1
 exact ⟨_,h1⟩
theorem cells_int:Tryz.prog.cellsOf 2=1:=by kernel_rfl
theorem int_at {n k:Nat} {cs:List Value} (h:∃y,DataW.trod enc Tryz.prog w base spare held n 2 ((cs.drop k).take (Tryz.prog.cellsOf 2))=some y):∃z,cs[k]?=some (.int .i64 z):=by
 obtain ⟨y,h⟩:=h
 rw [cells_int] at h
 obtain ⟨z,h1,_⟩:=DataW.trod_int Tryz.underlying2 h
 exact ⟨z,take1 h1⟩
theorem read_instr {n:Nat} {cs:List Value} {d:DataW H × List MemPlace} (h:DataW.trod enc Tryz.prog w base spare held n 193 cs=some d) :
  ∃x:Ins,cs[0]?=some (.int .i64 x.op)∧cs[1]?=some (.int .i64 x.dst)∧cs[2]?=some (.int .i64 x.a)∧cs[3]?=some (.int .i64 x.b)∧cs[4]?=some (.int .i64 x.imm):=by
 obtain ⟨xs,m,_,_,_,hlen,hf⟩:=DataW.trod_struct Tryz.underlying193 h
 obtain ⟨z0,h0⟩:=int_at (k:=0) (fld_at hf hlen (i:=0) rfl)
 obtain ⟨z1,h1⟩:=int_at (k:=1) (fld_at hf hlen (i:=1) rfl)
 obtain ⟨z2,h2⟩:=int_at (k:=2) (fld_at hf hlen (i:=2) rfl)
 obtain ⟨z3,h3⟩:=int_at (k:=3) (fld_at hf hlen (i:=3) rfl)
 obtain ⟨z4,h4⟩:=int_at (k:=4) (fld_at hf hlen (i:=4) rfl)
 exact ⟨⟨z0,z1,z2,z3,z4⟩,h0,h1,h2,h3,h4⟩
theorem read_term {n:Nat} {cs:List Value} {d:DataW H × List MemPlace} (h:DataW.trod enc Tryz.prog w base spare held n 91 cs=some d) :
  ∃x:Ter,cs[0]?=some (.int .i64 x.kind)∧cs[1]?=some (.int .i64 x.a)∧cs[2]?=some (.int .i64 x.to)∧cs[3]?=some (.int .i64 x.els):=by
 obtain ⟨xs,m,_,_,_,hlen,hf⟩:=DataW.trod_struct Tryz.underlying91 h
 obtain ⟨z0,h0⟩:=int_at (k:=0) (fld_at hf hlen (i:=0) rfl)
 obtain ⟨z1,h1⟩:=int_at (k:=1) (fld_at hf hlen (i:=1) rfl)
 obtain ⟨z2,h2⟩:=int_at (k:=2) (fld_at hf hlen (i:=2) rfl)
 obtain ⟨z3,h3⟩:=int_at (k:=3) (fld_at hf hlen (i:=3) rfl)
 exact ⟨⟨z0,z1,z2,z3⟩,h0,h1,h2,h3⟩
theorem read_ints {n:Nat} {cs:List Value} {d:DataW H × List MemPlace} (h:DataW.trod enc Tryz.prog w base spare held n 26 cs=some d) :
  ∃(a:Option Addr) (xs:List Int) (c:Nat),cs=[.slice a xs.length c]∧xs.length≤maxLen∧IntsAt w 0 w.heap.size a xs:=by
 obtain ⟨a,xs,c,h1,h2,h3⟩:=read_slice (α:=Int) (s:=1) Tryz.underlying26 cells_int (by decide) (fun b o x=>w.cell? ⟨b,o,none⟩=some (.int .i64 x)) (fun b o cs' n d hc hl hd=>by
  obtain ⟨z,hz,_⟩:=DataW.trod_int Tryz.underlying2 hd
  refine ⟨z,?_⟩
  have:=hc 0 (by decide)
  rw [hz] at this
  simpa using this) h
 refine ⟨a,xs,c,h1,h2,fun i hi=>?_⟩
 obtain ⟨b,o,e,hb,hq⟩:=h3 i hi
 exact ⟨b,o,e,⟨Nat.zero_le _,hb⟩,by simpa using hq⟩
theorem cells_instr:Tryz.prog.cellsOf 193=5:=by kernel_rfl
theorem read_instrs {n:Nat} {cs:List Value} {d:DataW H × List MemPlace} (h:DataW.trod enc Tryz.prog w base spare held n 90 cs=some d) :
  ∃(a:Option Addr) (xs:List Ins) (c:Nat),cs=[.slice a xs.length c]∧xs.length≤maxLen∧InssAt w 0 w.heap.size a xs:=by
 haveI:Inhabited Ins:=⟨⟨0,0,0,0,0⟩⟩
 obtain ⟨a,xs,c,h1,h2,h3⟩:=read_slice (α:=Ins) (s:=5) Tryz.underlying90 cells_instr (by decide) (fun b o x=>InsAt w b o x) (fun b o cs' n d hc hl hd=>by
  obtain ⟨x,g0,g1,g2,g3,g4⟩:=read_instr hd
  exact ⟨x,(hc 0 (by decide)).trans g0,(hc 1 (by decide)).trans g1,(hc 2 (by decide)).trans g2,(hc 3 (by decide)).trans g3,(hc 4 (by decide)).trans g4⟩) h
 refine ⟨a,xs,c,h1,h2,fun i hi=>?_⟩
 obtain ⟨b,o,e,hb,hq⟩:=h3 i hi
 exact ⟨b,o,e,⟨Nat.zero_le _,hb⟩,hq⟩
theorem cells_ints:Tryz.prog.cellsOf 26=1:=by kernel_rfl
theorem cells_phi:Tryz.prog.cellsOf 190=2:=by kernel_rfl
theorem read_phis {n:Nat} {cs:List Value} {d:DataW H × List MemPlace} (h:DataW.trod enc Tryz.prog w base spare held n 89 cs=some d) :
  ∃(a:Option Addr) (xs:List Ph) (c:Nat),cs=[.slice a xs.length c]∧xs.length≤maxLen∧PhsAt w 0 w.heap.size a xs∧∀p∈xs,p.args.length≤maxLen:=by
 haveI:Inhabited Ph:=⟨⟨0,[]⟩⟩
 obtain ⟨a,xs,c,h1,h2,h3⟩:=read_slice (α:=Ph) (s:=2) Tryz.underlying89 cells_phi (by decide) (fun b o x=>PhAt w 0 w.heap.size b o x∧x.args.length≤maxLen) (fun b o cs' n d hc hl hd=>by
  obtain ⟨ys,m,_,_,_,hlen,hf⟩:=DataW.trod_struct Tryz.underlying190 hd
  obtain ⟨z0,g0⟩:=int_at (k:=0) (fld_at hf hlen (i:=0) rfl)
  obtain ⟨y1,g1⟩:=fld_at hf hlen (i:=1) rfl
  obtain ⟨a',az,c',e1,e2,e3⟩:=read_ints g1
  have e1':(cs'.drop 1).take (Tryz.prog.cellsOf 26)=[.slice a' az.length c']:=e1
  rw [cells_ints] at e1'
  have e4:=take1 e1'
  exact ⟨⟨z0,az⟩,⟨a',c',(hc 0 (by decide)).trans g0,(hc 1 (by decide)).trans e4,e3⟩,e2⟩) h
 refine ⟨a,xs,c,h1,h2,fun i hi=>?_,fun p hp=>?_⟩
 ·obtain ⟨b,o,e,hb,hq⟩:=h3 i hi
  exact ⟨b,o,e,⟨Nat.zero_le _,hb⟩,hq.1⟩
 ·obtain ⟨i,hi,rfl⟩:=List.getElem_of_mem hp
  obtain ⟨b,o,e,hb,hq⟩:=h3 i hi
  exact hq.2
theorem cells_phis:Tryz.prog.cellsOf 89=1:=by kernel_rfl
theorem cells_instrs:Tryz.prog.cellsOf 90=1:=by kernel_rfl
theorem cells_term:Tryz.prog.cellsOf 91=4:=by kernel_rfl
theorem cells_block:Tryz.prog.cellsOf 93=6:=by kernel_rfl
theorem drop_take {cs:List Value} {k m j:Nat} {v:Value} (h:((cs.drop k).take m)[j]?=some v) (hj:j<m):cs[k+j]?=some v:=by
 rw [List.getElem?_take_of_lt hj,List.getElem?_drop] at h
 exact h
theorem read_blocks {n:Nat} {cs:List Value} {d:DataW H × List MemPlace} (h:DataW.trod enc Tryz.prog w base spare held n 22 cs=some d) :
  ∃(a:Option Addr) (xs:List Blk) (c:Nat),cs=[.slice a xs.length c]∧xs.length≤maxLen∧BlksAt w 0 w.heap.size a xs∧∀x∈xs,x.phis.length≤maxLen∧x.instrs.length≤maxLen∧∀p∈x.phis,p.args.length≤maxLen:=by
 haveI:Inhabited Blk:=⟨⟨[],[],⟨0,0,0,0⟩⟩⟩
 obtain ⟨a,xs,c,h1,h2,h3⟩:=read_slice (α:=Blk) (s:=6) Tryz.underlying22 cells_block (by decide) (fun b o x=>BlkAt w 0 w.heap.size b o x∧(x.phis.length≤maxLen∧x.instrs.length≤maxLen∧∀p∈x.phis,p.args.length≤maxLen)) (fun b o cs' n d hc hl hd=>by
  obtain ⟨ys,m,_,_,_,hlen,hf⟩:=DataW.trod_struct Tryz.underlying93 hd
  obtain ⟨y0,g0⟩:=fld_at hf hlen (i:=0) rfl
  obtain ⟨y1,g1⟩:=fld_at hf hlen (i:=1) rfl
  obtain ⟨y2,g2⟩:=fld_at hf hlen (i:=2) rfl
  obtain ⟨pa,ps,pc,e1,e2,e3,e3'⟩:=read_phis g0
  obtain ⟨ia,is,ic,f1,f2,f3⟩:=read_instrs g1
  obtain ⟨t,t0,t1,t2,t3⟩:=read_term g2
  have e1':(cs'.drop 0).take (Tryz.prog.cellsOf 89)=[.slice pa ps.length pc]:=e1
  rw [cells_phis] at e1'
  have e4:=take1 e1'
  have f1':(cs'.drop 1).take (Tryz.prog.cellsOf 90)=[.slice ia is.length ic]:=f1
  rw [cells_instrs] at f1'
  have f4:=take1 f1'
  have hd2:∀j v,j<4→(((cs'.drop 2).take (Tryz.prog.cellsOf 91)))[j]?=some v→cs'[2+j]?=some v:=fun j v hj hv=>by
   rw [cells_term] at hv
   exact drop_take hv hj
  exact ⟨⟨ps,is,t⟩,⟨pa,pc,ia,ic,(hc 0 (by decide)).trans e4,(hc 1 (by decide)).trans f4,⟨(hc 2 (by decide)).trans (hd2 0 _ (by decide) t0),(hc 3 (by decide)).trans (hd2 1 _ (by decide) t1),(hc 4 (by decide)).trans (hd2 2 _ (by decide) t2),(hc 5 (by decide)).trans (hd2 3 _ (by decide) t3)⟩,e3,f3⟩,e2,f2,e3'⟩) h
 refine ⟨a,xs,c,h1,h2,fun i hi=>?_,fun p hp=>?_⟩
 ·obtain ⟨b,o,e,hb,hq⟩:=h3 i hi
  exact ⟨b,o,e,⟨Nat.zero_le _,hb⟩,hq.1⟩
 ·obtain ⟨i,hi,rfl⟩:=List.getElem_of_mem hp
  obtain ⟨b,o,e,hb,hq⟩:=h3 i hi
  exact hq.2
end Go.Proofs.YthgikffcdgpgiaaGreatDoor

namespace Go.Proofs.YthgikffcdgpgiaaGreatDoor
open Go.ChangeShapes Go.WideShapes Go.ChangeAt Go.RowKit Go.Joins
theorem own:ownKnob Tryz.prog.godebug=none:=by kernel_rfl
theorem gOps : Tryz.prog.globalNamed "loop.example/s0031/impl.opForms" = some 0 := by kernel_rfl
theorem gTers : Tryz.prog.globalNamed "loop.example/s0031/impl.termForms" = some 2 := by kernel_rfl
theorem gTz : Tryz.prog.globalNamed "math/bits.deBruijn64tab" = some 1 := by kernel_rfl
theorem tTz:(Tryz.prog.globals[1]?).map (·.type)=some 214:=by kernel_rfl
theorem cells_u8:Tryz.prog.cellsOf 5=1:=by kernel_rfl
theorem tOps:(Tryz.prog.globals[0]?).map (·.type)=some 182:=by kernel_rfl
theorem tTers:(Tryz.prog.globals[2]?).map (·.type)=some 217:=by kernel_rfl
theorem cells_op:Tryz.prog.cellsOf 181=5:=by kernel_rfl
theorem cells_ter:Tryz.prog.cellsOf 216=4:=by kernel_rfl
theorem cells_bool:Tryz.prog.cellsOf 4=1:=by kernel_rfl
theorem cells_str:Tryz.prog.cellsOf 9=1:=by kernel_rfl
variable {H : Type} {enc : TypeId × Value → H} {w : World} {base : Nat} {spare : Nat → Bool} {held : Bool}
theorem bool_at {n k:Nat} {cs:List Value} {y:DataW H × List MemPlace} {b:Bool} (h:DataW.trod enc Tryz.prog w base spare held n 4 ((cs.drop k).take (Tryz.prog.cellsOf 4))=some y) (e:y.1=.lit (.bool b)):cs[k]?=some (.bool b):=by
 rw [cells_bool] at h
 obtain ⟨z,h1,h2⟩:=DataW.trod_bool Tryz.underlying4 h
 rw [h2] at e
 cases e
 exact take1 h1
theorem str_at {n k:Nat} {cs:List Value} {y:DataW H × List MemPlace} {s:List UInt8} (h:DataW.trod enc Tryz.prog w base spare held n 9 ((cs.drop k).take (Tryz.prog.cellsOf 9))=some y) (e:y.1=.lit (.string s)):cs[k]?=some (.string (strOf s)):=by
 rw [cells_str] at h
 obtain ⟨z,h1,h2,_⟩:=DataW.trod_string Tryz.underlying9 h
 rw [h2] at e
 have e1:z.data.toList=s:=by simpa using e
 have e2:strOf s=z:=by rw [←e1];cases z;rfl
 rw [e2]
 exact take1 h1
theorem fld_is {P:Program} {fs:Array Field} {xs:List (DataW H × List MemPlace)} {n:Nat} {cs:List Value}
  (hf:∀(i:Nat) (f:Field),fs[i]?=some f→DataW.trod enc P w base spare held n f.type ((cs.drop f.offset).take (P.cellsOf f.type))=xs[i]?) (hlen:xs.length=fs.size) (i:Nat) {f:Field} (hi:fs[i]?=some f) {ds:List (DataW H)} (hd:xs.map (·.1)=ds) {d:DataW H} (he:ds[i]?=some d) :
  ∃y,DataW.trod enc P w base spare held n f.type ((cs.drop f.offset).take (P.cellsOf f.type))=some y∧y.1=d:=by
 have h1:=hf i f hi
 have h2:i<xs.length:=by rw [hlen];exact (Array.getElem?_eq_some_iff.1 hi).1
 rw [List.getElem?_eq_getElem h2] at h1
 refine ⟨_,h1,?_⟩
 have h3:(xs.map (·.1))[i]?=some d:=by rw [hd];exact he
 rw [List.getElem?_map,List.getElem?_eq_getElem h2] at h3
 simpa using h3
theorem dt {cs:List Value} {k m j:Nat} {v:Value} (h:((cs.drop k).take m)[j]?=some v) (hj:j<m):cs[k+j]?=some v:=drop_take h hj
theorem op_row {n:Nat} {cs:List Value} {rows:List (DataW H)} {p:List MemPlace} (h:DataW.trod enc Tryz.prog w base spare held n 182 cs=some (.agg rows,p)) (i:Nat) (hi:i<14) (s:List UInt8) (d a b m:Bool)
  (hr:rows[i]?=some (.agg [.lit (.string s),.lit (.bool d),.lit (.bool a),.lit (.bool b),.lit (.bool m)])) :
  cs[i*5]?=some (.string (strOf s))∧cs[i*5+1]?=some (.bool d)∧cs[i*5+2]?=some (.bool a)∧cs[i*5+3]?=some (.bool b)∧cs[i*5+4]?=some (.bool m):=by
 obtain ⟨xs,k,_,hx,_,hlen,hel⟩:=DataW.trod_array Tryz.underlying182 h
 have h1:=hel i hi
 rw [List.getElem?_eq_getElem (by omega),cells_op] at h1
 simp only [Prod.mk.injEq,DataW.agg.injEq] at hx
 have h2:(xs[i]'(by omega)).1=.agg [.lit (.string s),.lit (.bool d),.lit (.bool a),.lit (.bool b),.lit (.bool m)]:=by
  have:(xs.map (·.1))[i]?=some (.agg [.lit (.string s),.lit (.bool d),.lit (.bool a),.lit (.bool b),.lit (.bool m)]):=by rw [←hx.1];exact hr
  rw [List.getElem?_map,List.getElem?_eq_getElem (by omega)] at this
  simpa using this
 obtain ⟨ys,k2,_,hy,_,hlen2,hf⟩:=DataW.trod_struct Tryz.underlying181 h1
 rw [hy] at h2
 simp only [DataW.agg.injEq] at h2
 obtain ⟨y0,g0,e0⟩:=fld_is hf hlen2 0 rfl h2 rfl
 obtain ⟨y1,g1,e1⟩:=fld_is hf hlen2 1 rfl h2 rfl
 obtain ⟨y2,g2,e2⟩:=fld_is hf hlen2 2 rfl h2 rfl
 obtain ⟨y3,g3,e3⟩:=fld_is hf hlen2 3 rfl h2 rfl
 obtain ⟨y4,g4,e4⟩:=fld_is hf hlen2 4 rfl h2 rfl
 exact ⟨dt (j:=0) (str_at (k:=0) g0 e0) (by decide),dt (bool_at (k:=1) g1 e1) (by decide),dt (bool_at (k:=2) g2 e2) (by decide),dt (bool_at (k:=3) g3 e3) (by decide),dt (bool_at (k:=4) g4 e4) (by decide)⟩
theorem ter_row {n:Nat} {cs:List Value} {rows:List (DataW H)} {p:List MemPlace} (h:DataW.trod enc Tryz.prog w base spare held n 217 cs=some (.agg rows,p)) (i:Nat) (hi:i<4) (s:List UInt8) (a t o:Bool)
  (hr:rows[i]?=some (.agg [.lit (.string s),.lit (.bool a),.lit (.bool t),.lit (.bool o)])) :
  cs[i*4]?=some (.string (strOf s))∧cs[i*4+1]?=some (.bool a)∧cs[i*4+2]?=some (.bool t)∧cs[i*4+3]?=some (.bool o):=by
 obtain ⟨xs,k,_,hx,_,hlen,hel⟩:=DataW.trod_array Tryz.underlying217 h
 have h1:=hel i hi
 rw [List.getElem?_eq_getElem (by omega),cells_ter] at h1
 simp only [Prod.mk.injEq,DataW.agg.injEq] at hx
 have h2:(xs[i]'(by omega)).1=.agg [.lit (.string s),.lit (.bool a),.lit (.bool t),.lit (.bool o)]:=by
  have:(xs.map (·.1))[i]?=some (.agg [.lit (.string s),.lit (.bool a),.lit (.bool t),.lit (.bool o)]):=by rw [←hx.1];exact hr
  rw [List.getElem?_map,List.getElem?_eq_getElem (by omega)] at this
  simpa using this
 obtain ⟨ys,k2,_,hy,_,hlen2,hf⟩:=DataW.trod_struct Tryz.underlying216 h1
 rw [hy] at h2
 simp only [DataW.agg.injEq] at h2
 obtain ⟨y0,g0,e0⟩:=fld_is hf hlen2 0 rfl h2 rfl
 obtain ⟨y1,g1,e1⟩:=fld_is hf hlen2 1 rfl h2 rfl
 obtain ⟨y2,g2,e2⟩:=fld_is hf hlen2 2 rfl h2 rfl
 obtain ⟨y3,g3,e3⟩:=fld_is hf hlen2 3 rfl h2 rfl
 exact ⟨dt (j:=0) (str_at (k:=0) g0 e0) (by decide),dt (bool_at (k:=1) g1 e1) (by decide),dt (bool_at (k:=2) g2 e2) (by decide),dt (bool_at (k:=3) g3 e3) (by decide)⟩
theorem u8_at {n k:Nat} {cs:List Value} {y:DataW H × List MemPlace} {b:Int} (h:DataW.trod enc Tryz.prog w base spare held n 5 ((cs.drop k).take (Tryz.prog.cellsOf 5))=some y) (e:y.1=.lit (.int .u8 b)):cs[k]?=some (.int .u8 b):=by
 rw [cells_u8] at h
 obtain ⟨z,h1,h2,_⟩:=DataW.trod_int Tryz.underlying5 h
 rw [h2] at e
 cases e
 exact take1 h1
theorem tz_row {n:Nat} {cs:List Value} {rows:List (DataW H)} {p:List MemPlace} (h:DataW.trod enc Tryz.prog w base spare held n 214 cs=some (.agg rows,p)) (i:Nat) (hi:i<64) (k:Int)
  (hr:rows[i]?=some (.lit (.int .u8 k))):cs[i]?=some (.int .u8 k):=by
 obtain ⟨xs,k',_,hx,_,hlen,hel⟩:=DataW.trod_array Tryz.underlying214 h
 have h1:=hel i hi
 rw [List.getElem?_eq_getElem (by omega)] at h1
 simp only [Prod.mk.injEq,DataW.agg.injEq] at hx
 have h2:(xs[i]'(by omega)).1=.lit (.int .u8 k):=by
  have:(xs.map (·.1))[i]?=some (.lit (.int .u8 k)):=by rw [←hx.1];exact hr
  rw [List.getElem?_map,List.getElem?_eq_getElem (by omega)] at this
  simpa using this
 have h3:=u8_at h1 h2
 rw [cells_u8,Nat.mul_one] at h3
 exact h3
def tzData:List (DataW Unit):=match Rows.laid_math_bits_deBruijn64tab (H:=Unit) with
 | .agg l=>l
 | _=>[]
theorem tz_nat:tzData=Lib.deBruijn64tab.map fun k:Nat=>(.lit (.int .u8 (k:Int)):DataW Unit):=rfl
theorem tz_len:Lib.deBruijn64tab.length=64:=by decide
theorem tz_data:∀j,j<64→tzData[j]?=some (.lit (.int .u8 (Lib.deBruijn64tab.getD j 0:Nat))):=fun j hj=>by
 have h:j<Lib.deBruijn64tab.length:=by rw [tz_len];exact hj
 rw [tz_nat,List.getElem?_map,List.getElem?_eq_getElem h,List.getD_eq_getElem?_getD,List.getElem?_eq_getElem h]
 rfl
theorem tables {W:World} (h:laidMetH Tryz.prog Rows.fnExactColorRow.laid W):OpTabW W∧TerTabW W∧TzTab W:=by
 rw [MakeChecks.laidMetH_plain _ _ _ (by kernel_rfl)] at h
 obtain ⟨ps,⟨g2,t2,cs2,f2,p2,q2,hg2,ht2,hv2,hd2,⟨g0,t0,cs0,f0,p0,q0,hg0,ht0,hv0,hd0,⟨g1,t1,cs1,f1,p1,q1,hg1,ht1,hv1,hd1,_,_⟩,_⟩,_⟩,_,_⟩:=h
 obtain rfl:=Option.some.inj (gTz.symm.trans hg2)
 obtain rfl:=Option.some.inj (tTz.symm.trans ht2)
 have c2:∀j v,cs2.toList[j]?=some v→W.cell? ⟨1,j,none⟩=some v:=fun j v hv=>by
  have:=World.var?_cell hg2 hv2 j
  rw [this]
  simpa using hv
 obtain rfl:=Option.some.inj (gOps.symm.trans hg0)
 obtain rfl:=Option.some.inj (gTers.symm.trans hg1)
 obtain rfl:=Option.some.inj (tOps.symm.trans ht0)
 obtain rfl:=Option.some.inj (tTers.symm.trans ht1)
 have c0:∀j v,cs0.toList[j]?=some v→W.cell? ⟨0,j,none⟩=some v:=fun j v hv=>by
  have:=World.var?_cell hg0 hv0 j
  rw [this]
  simpa using hv
 have c1:∀j v,cs1.toList[j]?=some v→W.cell? ⟨2,j,none⟩=some v:=fun j v hv=>by
  have:=World.var?_cell hg1 hv1 j
  rw [this]
  simpa using hv
 refine ⟨?_,?_,fun j hj=>c2 _ _ (tz_row hd2 j hj _ (tz_data j hj))⟩
 ·have row:∀i s d a b m,i<14→((match Rows.laid_loop_example_s0031_impl_opForms (H:=Unit) with | .agg l=>l | _=>[]):List (DataW Unit))[i]?=some (.agg [.lit (.string s),.lit (.bool d),.lit (.bool a),.lit (.bool b),.lit (.bool m)]) →
    W.cell? ⟨0,i*5,none⟩=some (.string (strOf s))∧W.cell? ⟨0,i*5+1,none⟩=some (.bool d)∧W.cell? ⟨0,i*5+2,none⟩=some (.bool a)∧W.cell? ⟨0,i*5+3,none⟩=some (.bool b)∧W.cell? ⟨0,i*5+4,none⟩=some (.bool m):=fun i s d a b m hi hr=>by
   obtain ⟨e0,e1,e2,e3,e4⟩:=op_row hd0 i hi s d a b m hr
   exact ⟨c0 _ _ e0,c0 _ _ e1,c0 _ _ e2,c0 _ _ e3,c0 _ _ e4⟩
  have r1:=row 1 _ _ _ _ _ (by decide) rfl
  refine ⟨block_of_cell r1.1,fun k h1 h2=>?_⟩
  have hk:k=1∨k=2∨k=3∨k=4∨k=5∨k=6∨k=7∨k=8∨k=9∨k=10∨k=11∨k=12∨k=13:=by omega
  rcases hk with rfl | rfl | rfl | rfl | rfl | rfl | rfl | rfl | rfl | rfl | rfl | rfl | rfl
  ·exact r1
  ·exact row 2 _ _ _ _ _ (by decide) rfl
  ·exact row 3 _ _ _ _ _ (by decide) rfl
  ·exact row 4 _ _ _ _ _ (by decide) rfl
  ·exact row 5 _ _ _ _ _ (by decide) rfl
  ·exact row 6 _ _ _ _ _ (by decide) rfl
  ·exact row 7 _ _ _ _ _ (by decide) rfl
  ·exact row 8 _ _ _ _ _ (by decide) rfl
  ·exact row 9 _ _ _ _ _ (by decide) rfl
  ·exact row 10 _ _ _ _ _ (by decide) rfl
  ·exact row 11 _ _ _ _ _ (by decide) rfl
  ·exact row 12 _ _ _ _ _ (by decide) rfl
  ·exact row 13 _ _ _ _ _ (by decide) rfl
 ·have row:∀i s a t o,i<4→((match Rows.laid_loop_example_s0031_impl_termForms (H:=Unit) with | .agg l=>l | _=>[]):List (DataW Unit))[i]?=some (.agg [.lit (.string s),.lit (.bool a),.lit (.bool t),.lit (.bool o)]) →
    W.cell? ⟨2,i*4,none⟩=some (.string (strOf s))∧W.cell? ⟨2,i*4+1,none⟩=some (.bool a)∧W.cell? ⟨2,i*4+2,none⟩=some (.bool t)∧W.cell? ⟨2,i*4+3,none⟩=some (.bool o):=fun i s a t o hi hr=>by
   obtain ⟨e0,e1,e2,e3⟩:=ter_row hd1 i hi s a t o hr
   exact ⟨c1 _ _ e0,c1 _ _ e1,c1 _ _ e2,c1 _ _ e3⟩
  have r1:=row 1 _ _ _ _ (by decide) rfl
  refine ⟨block_of_cell r1.1,fun k h1 h2=>?_⟩
  have hk:k=1∨k=2∨k=3:=by omega
  rcases hk with rfl | rfl | rfl
  ·exact r1
  ·exact row 2 _ _ _ _ (by decide) rfl
  ·exact row 3 _ _ _ _ (by decide) rfl
set_option maxRecDepth 100000 in
theorem contract (H:Type) (enc:TypeId × Value→H) (W:World) (base:Nat) (args:Array Value) (ds gs:List (DataW H)) (before:List MemPlace)
  (hval:∀(j:Nat) t v,Tryz.f3.params[j]?=some t→args[j]?=some v→Value.okWide Tryz.prog W .any base t v)
  (hW:DataW.Whole enc Tryz.prog Tryz.f3.params.toList Rows.fnExactColorSpec.vars false W args.toList ds gs before) (hL:laidMetH Tryz.prog Rows.fnExactColorRow.laid W) :
  Calls Tryz.prog 3 args W fun e W'=>∃v,e=.returned v∧Rows.fnExactColorSpec.post enc Tryz.prog Tryz.f3 false true false false W args v W':=by
 have hW':=hW
 obtain ⟨p,q,hA0,hV,rfl,hfz,hnd⟩:=hW
 have hA:DataW.TrodAll enc Tryz.prog W 0 (fun _=>true) true Tryz.f3.params.toList args.toList ds p:=hA0
 rw [Tryz.params3] at hA hval
 obtain ⟨v0,vs0,d0,ds0,p0,q0,hargs,rfl,rfl,h0,r0⟩:=trodAll_cons hA
 obtain ⟨rfl,rfl,rfl⟩:=trodAll_nil r0
 obtain rfl:args=#[v0]:=by cases args;simp_all
 clear hA0
 have h0':=h0
 obtain ⟨c0,c1,y0,y1,m,rfl,rfl,rfl,hy0,hy1⟩:=open_agg2 Tryz.underlying24 (by kernel_rfl) (show Tryz.prog.cellsOf 24=2 by kernel_rfl) (hval 0 24 v0 rfl rfl) h0
 obtain ⟨val,e0,_,_⟩:=DataW.trod_int Tryz.underlying2 hy0
 obtain ⟨a,xs,c,e1,hlen,hb,hls⟩:=read_blocks hy1
 simp only [List.cons.injEq,and_true] at e0 e1
 subst e0
 subst e1
 obtain ⟨hO,hT,hZ⟩:=tables hL
 have hmax:maxLen=9223372036854775807:=by unfold maxLen;decide
 rw [hmax] at hlen hls
 refine (lawK_any val a xs.length c xs W hb rfl hlen hls hO hT hZ).mono fun e W' ⟨he,hbel⟩=>?_
 subst he
 obtain ⟨g1,g2,rfl⟩:∃g1 g2,gs=[g1,g2]:=by
  match gs,hV with
  | [g1,g2],_=>exact ⟨g1,g2,rfl⟩
  | [],hV=>exact hV.elim
  | [_],hV=>obtain ⟨_,_,_,_,_,_,_,_,_,_,hV,_⟩:=hV;exact hV.elim
  | _::_::_::_,hV=>obtain ⟨_,_,_,_,_,_,_,_,_,_,⟨_,_,_,_,_,_,_,_,_,_,hV,_⟩,_⟩:=hV;exact hV.elim
 have hlt:=hW'.lt
 refine ⟨_,rfl,_,_,_,[],(y0.2++y1.2)++[],q,hW',trodAll_cons_mk (shut_bool Tryz.underlying4 _) trodAll_mk0,?_,?_,hbel.frame _,fun h=>by cases h⟩
 ·exact trodAll_cons_mk (Below.trod (by kernel_rfl) (by kernel_rfl) (of_decide_eq_true (by kernel_rfl)) h0' hbel (fun x hx=>hlt x (List.mem_append_left _ (List.mem_append_left _ hx)))) trodAll_mk0
 ·exact Below.trodVars (by kernel_rfl) hbel (by kernel_rfl) hV
theorem laid_met (os:Os):laidMet Tryz.prog Rows.fnExactColorRow.laid ((World.doorLaid Tryz.prog 64 os).forCall (fun _ _=>0) ⟨#[],#[.agg #[.int .i64 0,.slice none 0 0]],[]⟩).memory :=
 laidMet_of_run' 8 (by kernel_rfl) (by kernel_rfl)
theorem reads (os:Os) {H:Type} (enc:TypeId × Value→H):∃gs places,DataW.whole enc Tryz.prog ((World.doorLaid Tryz.prog 64 os).forCall (fun _ _=>0) ⟨#[],#[.agg #[.int .i64 0,.slice none 0 0]],[]⟩).memory Tryz.f3.params.toList Rows.fnExactColorSpec.vars false #[Value.agg #[.int .i64 0,.slice none 0 0]].toList 8=some ([.agg [.lit (.int .i64 0),.nil]],gs,places) :=
 ⟨[Rows.laid_loop_example_s0031_impl_termForms,Rows.laid_loop_example_s0031_impl_opForms],[]++(MemPlace.row ⟨2,0,none⟩ 16++[]++(MemPlace.row ⟨0,0,none⟩ 70++[]++[])),by kernel_rfl⟩
set_option maxRecDepth 100000 in
theorem lifted (os:Os) (started:os.Started) (H:Type) (enc:TypeId × Value→H) (F:Stop.Interp) :
  ReturnsInHanded {} Tryz.checked os 3 .any ((OpenSpec.ofChange Rows.fnExactColorSpec).preRow enc Tryz.prog Tryz.f3 Rows.fnExactColorRow.domain false Rows.fnExactColorRow.laid) (((OpenSpec.ofChange Rows.fnExactColorSpec).at F).post enc Tryz.prog Tryz.f3 false true false false):=by
 obtain ⟨gs,places,hx⟩:=reads os enc
 refine returnsInHanded_of_row (C:=Tryz.checked) (s:=OpenSpec.ofChange Rows.fnExactColorSpec) own started (by kernel_rfl) Tryz.func3
  (witness_row_at (enc:=enc) (C:=Tryz.checked) false (World.doorLaid Tryz.prog 64 os) #[.agg #[.int .i64 0,.slice none 0 0]] rfl (by kernel_rfl) (by kernel_rfl) (by kernel_rfl)
   (OpenSpec.preRow_of_cond 8 hx (by kernel_rfl) (fun k hk=>by cases hk) (by kernel_rfl) (laid_met os))) ?_
 intro W base args ds gs before hval hW _ _ _ hL _ _
 exact contract H enc W base args ds gs before hval hW hL
theorem said:Rows.FnExactColorSaid :=
 OpenClaim.holds_of_cond 3 Tryz.f3 rfl rfl rfl rfl rfl rfl rfl ⟨rfl,rfl,rfl,rfl,rfl⟩ rfl rfl rfl rfl rfl (by kernel_rfl) Tryz.func3 (by kernel_rfl)
  (of_decide_eq_true (by kernel_rfl)) (by unfold Func.isWrapper;first | (rw [if_pos (by decide +kernel)];kernel_rfl) | (rw [if_neg (by decide +kernel)];exact ⟨rfl,rfl⟩))
  (fun os started H enc _ F=>by rw [OpenClaim.pre_eq_preRow];exact lifted os started H enc F)
theorem plain (f : FuncId) (fn : Func) (hf : Tryz.pinned.checked.prog.funcNamed "loop.example/s0031/laws.FnExactColor" = some f) (hfn : Tryz.pinned.checked.prog.funcs[f]? = some fn) :
  false=Tryz.pinned.checked.prog.looks []∧∀(j:Nat) t,fn.params[j]?=some t→Tryz.pinned.checked.prog.wantsStandIn t=false:=by
 obtain rfl : f = 3 := Option.some.inj ((show Tryz.prog.funcNamed "loop.example/s0031/laws.FnExactColor" = some 3 by kernel_rfl).symm.trans hf) |>.symm
 obtain rfl:fn=Tryz.f3:=(Option.some.inj (Tryz.func3.symm.trans hfn)).symm
 refine ⟨by kernel_rfl,fun j t ht=>?_⟩
 rw [Tryz.params3] at ht
 obtain rfl:t=24:=by simpa using Array.mem_of_getElem? ht
 exact (show Tryz.prog.wantsStandIn 24=false by kernel_rfl)
theorem color_card:Rows.FnExactColorCardSaid :=
 Claim7.holds_tied_plain_at .later [] _ _ _ _ said (fun _ h=>by cases h) (by kernel_rfl) (fun _ h=>by cases h) fnExactColor_row_tie rfl ⟨rfl,rfl⟩ (by kernel_rfl) rfl plain (by kernel_rfl)
#print axioms color_card
end Go.Proofs.YthgikffcdgpgiaaGreatDoor
