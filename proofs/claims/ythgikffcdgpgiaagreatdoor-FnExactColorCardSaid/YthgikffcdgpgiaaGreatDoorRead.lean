import Derived.ProofKit
import Derived.Lib.SmallJoins
import Derived.Test.YthgikffcdgpgiaaGreatDoorCards
import Derived.Test.YthgikffcdgpgiaaGreatDoorTie
import Derived.Test.YthgikffcdgpgiaaGreatDoorW4
import Derived.OpenShut
import Derived.OpenVars
import Derived.LaidMore
import Derived.Deep.DeepHandedRow
import Derived.Lib.LaidTab
namespace Go.Proofs.YthgikffcdgpgiaaGreatDoor
set_option maxRecDepth 100000
open Go.RowKit Go.Deep Go.ChangeShapes Go.WideShapes Go.ChangeAt Go.Joins
section
variable {H : Type} {enc : TypeId × Value -> H} {P : Program} {w : World} {base : Nat} {spare : Nat -> Bool} {held : Bool}
theorem ZT{a:Addr}{v:Value}(h:w.cell? a=some v):a.block<w.heap.size:=by
 unfold World.cell? at h;split at h
 ·rename_i c _ _ hb
  exact(Array.getElem?_eq_some_iff.1 hb).1
 ·cases h
theorem J9{α:Type}[Inhabited α]{t e:TypeId}{fuel s:Nat}{cs:List Value}{x:DataW H × List MemPlace}(ht:P.underlying t=some (.slice e))(hs:P.cellsOf e=s)(hs0:0<s)(Q:Nat->Nat->α->Prop)
 (hQ:∀b o cs' n d,(∀j,j<s->w.cell? ⟨b,o+j,none⟩=cs'[j]?)->cs'.length=s->DataW.trod enc P w base spare held n e cs'=some d->∃x,Q b o x)
 (h:DataW.trod enc P w base spare held fuel t cs=some x) :
 ∃(a:Option Addr)(xs:List α)(c:Nat),cs=[.slice a xs.length c]/\xs.length<=maxLen/\∀i (hi:i<xs.length),∃b o,a=some ⟨b,o,none⟩/\b<w.heap.size/\Q b (o+i*s) xs[i]:=by
 rcases open_slice ht h with⟨rfl,_⟩ | ⟨a,len,cap,m,n,D,Pl,rfl,_,hl,hm,hmm,_,hx⟩
 ·exact⟨none,[],0,rfl,Nat.zero_le _,fun i hi=>absurd hi sP⟩
 rw[hs]at hx;have hlm:len<=m:=by rw[hmm];split<;>omega
 have cellsOf:∀i,i<len->∃cs',cs'.length=s/\(∀j,j<s->w.cell? ((a.add (i*s)).add j)=cs'[j]?)/\DataW.trod enc P w base spare held n e cs'=some (D i,Pl i):=fun i hi=>by
  obtain⟨cs',h1,h2⟩:=hx i oM;obtain⟨_,h3,h4⟩:=World.cells?_some h1;exact⟨cs',h3,h4,h2⟩
 obtain⟨b,o,spot⟩:=a;by_cases hlen:len=0
 ·subst hlen
  exact⟨some ⟨b,o,spot⟩,[],cap,rfl,Nat.zero_le _,fun i hi=>absurd hi sP⟩
 have hspot:spot=none:=by
  obtain⟨cs',h1,h2,_⟩:=cellsOf 0 oM;have h3:=h2 0 hs0;rw[List.getElem?_eq_getElem oM]at h3;simpa [Addr.add]using World.cell?_spot h3
 subst hspot;obtain⟨f,hf⟩:=choose_lt (α:=α) (n:=len) (p:=fun i x=>b<w.heap.size/\Q b (o+i*s) x) (fun i hi=>by
  obtain⟨cs',h1,h2,h3⟩:=cellsOf i hi;have h4:∀j,j<s->w.cell? ⟨b,o+i*s+j,none⟩=cs'[j]?:=fun j hj=>by
   have:=h2 j hj;rw[Addr.add_mid,Addr.add_mid]at this;exact this
  obtain⟨x,hx⟩:=hQ b (o+i*s) cs' n _ h4 h1 h3;have h5:=h4 0 hs0;rw[List.getElem?_eq_getElem oM]at h5;exact⟨x,ZT h5,hx⟩)
 refine⟨some ⟨b,o,none⟩,(List.range len).map f,cap,sP,by simp;omega,fun i hi=>?_⟩;simp only[List.length_map,List.length_range]at hi;obtain⟨h1,h2⟩:=hf i hi;exact⟨b,o,rfl,h1,by simpa using h2⟩
end
section
variable {H : Type} {enc : TypeId × Value -> H} {w : World} {base : Nat} {spare : Nat -> Bool} {held : Bool}
theorem Vg{cs:List Value}{k:Nat}{v:Value}(h:(cs.drop k).take 1=[v]):cs[k]?=some v:=by
 have h1:((cs.drop k).take 1)[0]?=some v:=by rw[h];rfl
 rw[List.getElem?_take_of_lt oM,List.getElem?_drop]at h1;simpa using h1
theorem Zc{P:Program}{fs:Array Field}{xs:List (DataW H × List MemPlace)}{n:Nat}{cs:List Value}
 (hf:∀(i:Nat)(f:Field),fs[i]?=some f->DataW.trod enc P w base spare held n f.type ((cs.drop f.offset).take (P.cellsOf f.type))=xs[i]?) (hlen:xs.length=fs.size) {i:Nat} {f:Field} (hi:fs[i]?=some f) :
 ∃y,DataW.trod enc P w base spare held n f.type ((cs.drop f.offset).take (P.cellsOf f.type))=some y:=by
 have h1:=hf i f hi;have h2:i<xs.length:=by rw[hlen];exact(Array.getElem?_eq_some_iff.1 hi).1
 rw[List.getElem?_eq_getElem h2]at h1;exact⟨_,h1⟩
theorem VJ:Tryz.prog.cellsOf 2=1:=kR
theorem ZU{n k:Nat}{cs:List Value}(h:∃y,DataW.trod enc Tryz.prog w base spare held n 2 ((cs.drop k).take (Tryz.prog.cellsOf 2))=some y):∃z,cs[k]?=some (.int .i64 z):=by
 obtain⟨y,h⟩:=h;rw[VJ]at h;obtain⟨z,h1,_⟩:=DataW.trod_int Tryz.underlying2 h;exact⟨z,Vg h1⟩
theorem Zcg{n:Nat}{cs:List Value}{d:DataW H × List MemPlace}(h:DataW.trod enc Tryz.prog w base spare held n 193 cs=some d) :
 ∃x:YK,cs[0]?=some (.int .i64 x.op)/\cs[1]?=some (.int .i64 x.dst)/\cs[2]?=some (.int .i64 x.a)/\cs[3]?=some (.int .i64 x.b)/\cs[4]?=some (.int .i64 x.imm):=by
 obtain⟨xs,m,_,_,_,hlen,hf⟩:=DataW.trod_struct Tryz.underlying193 h;obtain⟨z0,h0⟩:=ZU (k:=0) (Zc hf hlen (i:=0) rfl);obtain⟨z1,h1⟩:=ZU (k:=1) (Zc hf hlen (i:=1) rfl);obtain⟨z2,h2⟩:=ZU (k:=2) (Zc hf hlen (i:=2) rfl);obtain⟨z3,h3⟩:=ZU (k:=3) (Zc hf hlen (i:=3) rfl);obtain⟨z4,h4⟩:=ZU (k:=4) (Zc hf hlen (i:=4) rfl);exact⟨⟨z0,z1,z2,z3,z4⟩,h0,h1,h2,h3,h4⟩
theorem ZdK{n:Nat}{cs:List Value}{d:DataW H × List MemPlace}(h:DataW.trod enc Tryz.prog w base spare held n 91 cs=some d) :
 ∃x:ZX,cs[0]?=some (.int .i64 x.kind)/\cs[1]?=some (.int .i64 x.a)/\cs[2]?=some (.int .i64 x.to)/\cs[3]?=some (.int .i64 x.els):=by
 obtain⟨xs,m,_,_,_,hlen,hf⟩:=DataW.trod_struct Tryz.underlying91 h;obtain⟨z0,h0⟩:=ZU (k:=0) (Zc hf hlen (i:=0) rfl);obtain⟨z1,h1⟩:=ZU (k:=1) (Zc hf hlen (i:=1) rfl);obtain⟨z2,h2⟩:=ZU (k:=2) (Zc hf hlen (i:=2) rfl);obtain⟨z3,h3⟩:=ZU (k:=3) (Zc hf hlen (i:=3) rfl);exact⟨⟨z0,z1,z2,z3⟩,h0,h1,h2,h3⟩
theorem Zek{n:Nat}{cs:List Value}{d:DataW H × List MemPlace}(h:DataW.trod enc Tryz.prog w base spare held n 26 cs=some d) :
 ∃(a:Option Addr)(xs:List Int)(c:Nat),cs=[.slice a xs.length c]/\xs.length<=maxLen/\Xg w 0 w.heap.size a xs:=by
 obtain⟨a,xs,c,h1,h2,h3⟩:=J9 (α:=Int) (s:=1) Tryz.underlying26 VJ vZ (fun b o x=>w.cell? ⟨b,o,none⟩=some (.int .i64 x)) (fun b o cs' n d hc hl hd=>by
  obtain⟨z,hz,_⟩:=DataW.trod_int Tryz.underlying2 hd;refine⟨z,?_⟩;have:=hc 0 vZ;rw[hz]at this;simpa using this) h
 refine⟨a,xs,c,h1,h2,fun i hi=>?_⟩;obtain⟨b,o,e,hb,hq⟩:=h3 i hi;exact⟨b,o,e,⟨Nat.zero_le _,hb⟩,by simpa using hq⟩
theorem ZaC:Tryz.prog.cellsOf 193=5:=kR
theorem ZaD{n:Nat}{cs:List Value}{d:DataW H × List MemPlace}(h:DataW.trod enc Tryz.prog w base spare held n 90 cs=some d) :
 ∃(a:Option Addr)(xs:List YK)(c:Nat),cs=[.slice a xs.length c]/\xs.length<=maxLen/\XL w 0 w.heap.size a xs:=by
 haveI:Inhabited YK:=⟨⟨0,0,0,0,0⟩⟩
 obtain⟨a,xs,c,h1,h2,h3⟩:=J9 (α:=YK) (s:=5) Tryz.underlying90 ZaC vZ (fun b o x=>Y5 w b o x) (fun b o cs' n d hc hl hd=>by
  obtain⟨x,g0,g1,g2,g3,g4⟩:=Zcg hd;exact⟨x,(hc 0 vZ).trans g0,(hc 1 vZ).trans g1,(hc 2 vZ).trans g2,(hc 3 vZ).trans g3,(hc 4 vZ).trans g4⟩) h
 refine⟨a,xs,c,h1,h2,fun i hi=>?_⟩;obtain⟨b,o,e,hb,hq⟩:=h3 i hi;exact⟨b,o,e,⟨Nat.zero_le _,hb⟩,hq⟩
theorem ZbR:Tryz.prog.cellsOf 26=1:=kR
theorem Zdy:Tryz.prog.cellsOf 190=2:=kR
theorem ZdQ{n:Nat}{cs:List Value}{d:DataW H × List MemPlace}(h:DataW.trod enc Tryz.prog w base spare held n 89 cs=some d) :
 ∃(a:Option Addr)(xs:List Ph)(c:Nat),cs=[.slice a xs.length c]/\xs.length<=maxLen/\XZ w 0 w.heap.size a xs/\∀p∈xs,p.args.length<=maxLen:=by
 haveI:Inhabited Ph:=⟨⟨0,[]⟩⟩
 obtain⟨a,xs,c,h1,h2,h3⟩:=J9 (α:=Ph) (s:=2) Tryz.underlying89 Zdy vZ (fun b o x=>ZG w 0 w.heap.size b o x/\x.args.length<=maxLen) (fun b o cs' n d hc hl hd=>by
  obtain⟨ys,m,_,_,_,hlen,hf⟩:=DataW.trod_struct Tryz.underlying190 hd;obtain⟨z0,g0⟩:=ZU (k:=0) (Zc hf hlen (i:=0) rfl);obtain⟨y1,g1⟩:=Zc hf hlen (i:=1) rfl;obtain⟨a',az,c',e1,e2,e3⟩:=Zek g1;have e1':(cs'.drop 1).take (Tryz.prog.cellsOf 26)=[.slice a' az.length c']:=e1;rw[ZbR]at e1';have e4:=Vg e1';exact⟨⟨z0,az⟩,⟨a',c',(hc 0 vZ).trans g0,(hc 1 vZ).trans e4,e3⟩,e2⟩) h
 refine⟨a,xs,c,h1,h2,fun i hi=>?_,fun p hp=>?_⟩
 ·obtain⟨b,o,e,hb,hq⟩:=h3 i hi
  exact⟨b,o,e,⟨Nat.zero_le _,hb⟩,hq.1⟩
 ·obtain⟨i,hi,rfl⟩:=List.getElem_of_mem hp
  obtain⟨b,o,e,hb,hq⟩:=h3 i hi;exact hq.2
theorem Zc2:Tryz.prog.cellsOf 89=1:=kR
theorem WT:Tryz.prog.cellsOf 90=1:=kR
theorem ZcO:Tryz.prog.cellsOf 91=4:=kR
theorem Zbc:Tryz.prog.cellsOf 93=6:=kR
theorem VR{cs:List Value}{k m j:Nat}{v:Value}(h:((cs.drop k).take m)[j]?=some v)(hj:j<m):cs[k+j]?=some v:=by
 rw[List.getElem?_take_of_lt hj,List.getElem?_drop]at h;exact h
theorem Zb8{n:Nat}{cs:List Value}{d:DataW H × List MemPlace}(h:DataW.trod enc Tryz.prog w base spare held n 22 cs=some d) :
 ∃(a:Option Addr)(xs:List Xi)(c:Nat),cs=[.slice a xs.length c]/\xs.length<=maxLen/\Xl w 0 w.heap.size a xs/\∀x∈xs,x.phis.length<=maxLen/\x.instrs.length<=maxLen/\∀p∈x.phis,p.args.length<=maxLen:=by
 haveI:Inhabited Xi:=⟨⟨[],[],⟨0,0,0,0⟩⟩⟩
 obtain⟨a,xs,c,h1,h2,h3⟩:=J9 (α:=Xi) (s:=6) Tryz.underlying22 Zbc vZ (fun b o x=>Y8 w 0 w.heap.size b o x/\(x.phis.length<=maxLen/\x.instrs.length<=maxLen/\∀p∈x.phis,p.args.length<=maxLen)) (fun b o cs' n d hc hl hd=>by
  obtain⟨ys,m,_,_,_,hlen,hf⟩:=DataW.trod_struct Tryz.underlying93 hd;obtain⟨y0,g0⟩:=Zc hf hlen (i:=0) rfl;obtain⟨y1,g1⟩:=Zc hf hlen (i:=1) rfl;obtain⟨y2,g2⟩:=Zc hf hlen (i:=2) rfl;obtain⟨pa,ps,pc,e1,e2,e3,e3'⟩:=ZdQ g0;obtain⟨ia,is,ic,f1,f2,f3⟩:=ZaD g1;obtain⟨t,t0,t1,t2,t3⟩:=ZdK g2;have e1':(cs'.drop 0).take (Tryz.prog.cellsOf 89)=[.slice pa ps.length pc]:=e1;rw[Zc2]at e1';have e4:=Vg e1';have f1':(cs'.drop 1).take (Tryz.prog.cellsOf 90)=[.slice ia is.length ic]:=f1;rw[WT]at f1';have f4:=Vg f1';have hd2:∀j v,j<4->(((cs'.drop 2).take (Tryz.prog.cellsOf 91)))[j]?=some v->cs'[2+j]?=some v:=fun j v hj hv=>by
   rw[ZcO]at hv;exact VR hv hj
  exact⟨⟨ps,is,t⟩,⟨pa,pc,ia,ic,(hc 0 vZ).trans e4,(hc 1 vZ).trans f4,⟨(hc 2 vZ).trans (hd2 0 _ vZ t0),(hc 3 vZ).trans (hd2 1 _ vZ t1),(hc 4 vZ).trans (hd2 2 _ vZ t2),(hc 5 vZ).trans (hd2 3 _ vZ t3)⟩,e3,f3⟩,e2,f2,e3'⟩) h
 refine⟨a,xs,c,h1,h2,fun i hi=>?_,fun p hp=>?_⟩
 ·obtain⟨b,o,e,hb,hq⟩:=h3 i hi
  exact⟨b,o,e,⟨Nat.zero_le _,hb⟩,hq.1⟩
 ·obtain⟨i,hi,rfl⟩:=List.getElem_of_mem hp
  obtain⟨b,o,e,hb,hq⟩:=h3 i hi;exact hq.2
end
section
theorem own:ownKnob Tryz.prog.godebug=none:=kR
theorem gOps : Tryz.prog.globalNamed "loop.example/s0031/impl.opForms" = some 0 := by kernel_rfl
theorem gTers : Tryz.prog.globalNamed "loop.example/s0031/impl.termForms" = some 2 := by kernel_rfl
theorem gTz : Tryz.prog.globalNamed "math/bits.deBruijn64tab" = some 1 := by kernel_rfl
theorem tTz:(Tryz.prog.globals[1]?).map (·.type)=some 214:=kR
theorem Zba:Tryz.prog.cellsOf 5=1:=kR
theorem Zju:(Tryz.prog.globals[0]?).map (·.type)=some 182:=kR
theorem ZiA:(Tryz.prog.globals[2]?).map (·.type)=some 217:=kR
theorem Zev:Tryz.prog.cellsOf 181=5:=kR
theorem Zej:Tryz.prog.cellsOf 216=4:=kR
theorem Zc8:Tryz.prog.cellsOf 4=1:=kR
theorem ZdS:Tryz.prog.cellsOf 9=1:=kR
variable {H : Type} {enc : TypeId × Value -> H} {w : World} {base : Nat} {spare : Nat -> Bool} {held : Bool}
theorem J5{n k:Nat}{cs:List Value}{y:DataW H × List MemPlace}{b:Bool}(h:DataW.trod enc Tryz.prog w base spare held n 4 ((cs.drop k).take (Tryz.prog.cellsOf 4))=some y)(e:y.1=.lit (.bool b)):cs[k]?=some (.bool b):=by
 rw[Zc8]at h;obtain⟨z,h1,h2⟩:=DataW.trod_bool Tryz.underlying4 h;rw[h2]at e;cases e;exact Vg h1
theorem Zfd{n k:Nat}{cs:List Value}{y:DataW H × List MemPlace}{s:List UInt8}(h:DataW.trod enc Tryz.prog w base spare held n 9 ((cs.drop k).take (Tryz.prog.cellsOf 9))=some y)(e:y.1=.lit (.string s)):cs[k]?=some (.string (Jj s)):=by
 rw[ZdS]at h;obtain⟨z,h1,h2,_⟩:=DataW.trod_string Tryz.underlying9 h;rw[h2]at e;have e1:z.data.toList=s:=by simpa using e
 have e2:Jj s=z:=by rw[<-e1];cases z;rfl
 rw[e2];exact Vg h1
theorem J1{P:Program}{fs:Array Field}{xs:List (DataW H × List MemPlace)}{n:Nat}{cs:List Value}
 (hf:∀(i:Nat)(f:Field),fs[i]?=some f->DataW.trod enc P w base spare held n f.type ((cs.drop f.offset).take (P.cellsOf f.type))=xs[i]?) (hlen:xs.length=fs.size) (i:Nat) {f:Field} (hi:fs[i]?=some f) {ds:List (DataW H)} (hd:xs.map (·.1)=ds) {d:DataW H} (he:ds[i]?=some d) :
 ∃y,DataW.trod enc P w base spare held n f.type ((cs.drop f.offset).take (P.cellsOf f.type))=some y/\y.1=d:=by
 have h1:=hf i f hi;have h2:i<xs.length:=by rw[hlen];exact(Array.getElem?_eq_some_iff.1 hi).1
 rw[List.getElem?_eq_getElem h2]at h1;refine⟨_,h1,?_⟩;have h3:(xs.map (·.1))[i]?=some d:=by rw[hd];exact he
 rw[List.getElem?_map,List.getElem?_eq_getElem h2]at h3;simpa using h3
theorem dt{cs:List Value}{k m j:Nat}{v:Value}(h:((cs.drop k).take m)[j]?=some v)(hj:j<m):cs[k+j]?=some v:=VR h hj
theorem Zig{n:Nat}{cs:List Value}{rows:List (DataW H)}{p:List MemPlace}(h:DataW.trod enc Tryz.prog w base spare held n 182 cs=some (.agg rows,p))(i:Nat)(hi:i<14)(s:List UInt8)(d a b m:Bool)
 (hr:rows[i]?=some (.agg [.lit (.string s),.lit (.bool d),.lit (.bool a),.lit (.bool b),.lit (.bool m)])) :
 cs[i*5]?=some (.string (Jj s))/\cs[i*5+1]?=some (.bool d)/\cs[i*5+2]?=some (.bool a)/\cs[i*5+3]?=some (.bool b)/\cs[i*5+4]?=some (.bool m):=by
 obtain⟨xs,k,_,hx,_,hlen,hel⟩:=DataW.trod_array Tryz.underlying182 h;have h1:=hel i hi;rw[List.getElem?_eq_getElem oM,Zev]at h1;simp only[Prod.mk.injEq,DataW.agg.injEq]at hx;have h2:(xs[i]' oM).1=.agg [.lit (.string s),.lit (.bool d),.lit (.bool a),.lit (.bool b),.lit (.bool m)]:=by
  have:(xs.map (·.1))[i]?=some (.agg [.lit (.string s),.lit (.bool d),.lit (.bool a),.lit (.bool b),.lit (.bool m)]):=by rw[<-hx.1];exact hr
  rw[List.getElem?_map,List.getElem?_eq_getElem oM]at this;simpa using this
 obtain⟨ys,k2,_,hy,_,hlen2,hf⟩:=DataW.trod_struct Tryz.underlying181 h1;rw[hy]at h2;simp only[DataW.agg.injEq]at h2;obtain⟨y0,g0,e0⟩:=J1 hf hlen2 0 rfl h2 rfl;obtain⟨y1,g1,e1⟩:=J1 hf hlen2 1 rfl h2 rfl;obtain⟨y2,g2,e2⟩:=J1 hf hlen2 2 rfl h2 rfl;obtain⟨y3,g3,e3⟩:=J1 hf hlen2 3 rfl h2 rfl;obtain⟨y4,g4,e4⟩:=J1 hf hlen2 4 rfl h2 rfl;exact⟨dt (j:=0) (Zfd (k:=0) g0 e0) vZ,dt (J5 (k:=1) g1 e1) vZ,dt (J5 (k:=2) g2 e2) vZ,dt (J5 (k:=3) g3 e3) vZ,dt (J5 (k:=4) g4 e4) vZ⟩
theorem Zg6{n:Nat}{cs:List Value}{rows:List (DataW H)}{p:List MemPlace}(h:DataW.trod enc Tryz.prog w base spare held n 217 cs=some (.agg rows,p))(i:Nat)(hi:i<4)(s:List UInt8)(a t o:Bool)
 (hr:rows[i]?=some (.agg [.lit (.string s),.lit (.bool a),.lit (.bool t),.lit (.bool o)])) :
 cs[i*4]?=some (.string (Jj s))/\cs[i*4+1]?=some (.bool a)/\cs[i*4+2]?=some (.bool t)/\cs[i*4+3]?=some (.bool o):=by
 obtain⟨xs,k,_,hx,_,hlen,hel⟩:=DataW.trod_array Tryz.underlying217 h;have h1:=hel i hi;rw[List.getElem?_eq_getElem oM,Zej]at h1;simp only[Prod.mk.injEq,DataW.agg.injEq]at hx;have h2:(xs[i]' oM).1=.agg [.lit (.string s),.lit (.bool a),.lit (.bool t),.lit (.bool o)]:=by
  have:(xs.map (·.1))[i]?=some (.agg [.lit (.string s),.lit (.bool a),.lit (.bool t),.lit (.bool o)]):=by rw[<-hx.1];exact hr
  rw[List.getElem?_map,List.getElem?_eq_getElem oM]at this;simpa using this
 obtain⟨ys,k2,_,hy,_,hlen2,hf⟩:=DataW.trod_struct Tryz.underlying216 h1;rw[hy]at h2;simp only[DataW.agg.injEq]at h2;obtain⟨y0,g0,e0⟩:=J1 hf hlen2 0 rfl h2 rfl;obtain⟨y1,g1,e1⟩:=J1 hf hlen2 1 rfl h2 rfl;obtain⟨y2,g2,e2⟩:=J1 hf hlen2 2 rfl h2 rfl;obtain⟨y3,g3,e3⟩:=J1 hf hlen2 3 rfl h2 rfl;exact⟨dt (j:=0) (Zfd (k:=0) g0 e0) vZ,dt (J5 (k:=1) g1 e1) vZ,dt (J5 (k:=2) g2 e2) vZ,dt (J5 (k:=3) g3 e3) vZ⟩
theorem Zi7{n k:Nat}{cs:List Value}{y:DataW H × List MemPlace}{b:Int}(h:DataW.trod enc Tryz.prog w base spare held n 5 ((cs.drop k).take (Tryz.prog.cellsOf 5))=some y)(e:y.1=.lit (.int .u8 b)):cs[k]?=some (.int .u8 b):=by
 rw[Zba]at h;obtain⟨z,h1,h2,_⟩:=DataW.trod_int Tryz.underlying5 h;rw[h2]at e;cases e;exact Vg h1
theorem Zic{n:Nat}{cs:List Value}{rows:List (DataW H)}{p:List MemPlace}(h:DataW.trod enc Tryz.prog w base spare held n 214 cs=some (.agg rows,p))(i:Nat)(hi:i<64)(k:Int)
 (hr:rows[i]?=some (.lit (.int .u8 k))):cs[i]?=some (.int .u8 k):=by
 obtain⟨xs,k',_,hx,_,hlen,hel⟩:=DataW.trod_array Tryz.underlying214 h;have h1:=hel i hi;rw[List.getElem?_eq_getElem oM]at h1;simp only[Prod.mk.injEq,DataW.agg.injEq]at hx;have h2:(xs[i]' oM).1=.lit (.int .u8 k):=by
  have:(xs.map (·.1))[i]?=some (.lit (.int .u8 k)):=by rw[<-hx.1];exact hr
  rw[List.getElem?_map,List.getElem?_eq_getElem oM]at this;simpa using this
 have h3:=Zi7 h1 h2;rw[Zba,Nat.mul_one]at h3;exact h3
def Zfv:List (DataW Unit):=match Rows.laid_math_bits_deBruijn64tab (H:=Unit)with
 | .agg l=>l
 | _=>[]
theorem ZhR:Zfv=Lib.deBruijn64tab.map fun k:Nat=>(.lit (.int .u8 (k:Int)):DataW Unit):=rfl
theorem Zif:Lib.deBruijn64tab.length=64:=vZ
theorem Zgj:∀j,j<64->Zfv[j]?=some (.lit (.int .u8 (Lib.deBruijn64tab.getD j 0:Nat))):=fun j hj=>by
 have h:j<Lib.deBruijn64tab.length:=by rw[Zif];exact hj
 rw[ZhR,List.getElem?_map,List.getElem?_eq_getElem h,List.getD_eq_getElem?_getD,List.getElem?_eq_getElem h];rfl
theorem Zh8{W:World}(h:laidMetH Tryz.prog Rows.fnExactColorRow.laid W):Yf W/\XT W/\Zs W:=by
 rw[MakeChecks.laidMetH_plain _ _ _ kR]at h;obtain⟨ps,⟨g2,t2,cs2,f2,p2,q2,hg2,ht2,hv2,hd2,⟨g0,t0,cs0,f0,p0,q0,hg0,ht0,hv0,hd0,⟨g1,t1,cs1,f1,p1,q1,hg1,ht1,hv1,hd1,_,_⟩,_⟩,_⟩,_,_⟩:=h;obtain rfl:=Option.some.inj (gTz.symm.trans hg2);obtain rfl:=Option.some.inj (tTz.symm.trans ht2);have c2:∀j v,cs2.toList[j]?=some v->W.cell? ⟨1,j,none⟩=some v:=fun j v hv=>by
  have:=World.var?_cell hg2 hv2 j;rw[this];simpa using hv
 obtain rfl:=Option.some.inj (gOps.symm.trans hg0);obtain rfl:=Option.some.inj (gTers.symm.trans hg1);obtain rfl:=Option.some.inj (Zju.symm.trans ht0);obtain rfl:=Option.some.inj (ZiA.symm.trans ht1);have c0:∀j v,cs0.toList[j]?=some v->W.cell? ⟨0,j,none⟩=some v:=fun j v hv=>by
  have:=World.var?_cell hg0 hv0 j;rw[this];simpa using hv
 have c1:∀j v,cs1.toList[j]?=some v->W.cell? ⟨2,j,none⟩=some v:=fun j v hv=>by
  have:=World.var?_cell hg1 hv1 j;rw[this];simpa using hv
 refine⟨?_,?_,fun j hj=>c2 _ _ (Zic hd2 j hj _ (Zgj j hj))⟩
 ·have row:∀i s d a b m,i<14->((match Rows.laid_loop_example_s0031_impl_opForms (H:=Unit)with | .agg l=>l | _=>[]):List (DataW Unit))[i]?=some (.agg [.lit (.string s),.lit (.bool d),.lit (.bool a),.lit (.bool b),.lit (.bool m)]) ->
   W.cell? ⟨0,i*5,none⟩=some (.string (Jj s))/\W.cell? ⟨0,i*5+1,none⟩=some (.bool d)/\W.cell? ⟨0,i*5+2,none⟩=some (.bool a)/\W.cell? ⟨0,i*5+3,none⟩=some (.bool b)/\W.cell? ⟨0,i*5+4,none⟩=some (.bool m):=fun i s d a b m hi hr=>by
   obtain⟨e0,e1,e2,e3,e4⟩:=Zig hd0 i hi s d a b m hr;exact⟨c0 _ _ e0,c0 _ _ e1,c0 _ _ e2,c0 _ _ e3,c0 _ _ e4⟩
  have r1:=row 1 _ _ _ _ _ vZ rfl;refine⟨ZT r1.1,fun k h1 h2=>?_⟩;have hk:k=1\/k=2\/k=3\/k=4\/k=5\/k=6\/k=7\/k=8\/k=9\/k=10\/k=11\/k=12\/k=13:=oM;rcases hk with rfl | rfl | rfl | rfl | rfl | rfl | rfl | rfl | rfl | rfl | rfl | rfl | rfl
  ·exact r1
  ·exact row 2 _ _ _ _ _ vZ rfl
  ·exact row 3 _ _ _ _ _ vZ rfl
  ·exact row 4 _ _ _ _ _ vZ rfl
  ·exact row 5 _ _ _ _ _ vZ rfl
  ·exact row 6 _ _ _ _ _ vZ rfl
  ·exact row 7 _ _ _ _ _ vZ rfl
  ·exact row 8 _ _ _ _ _ vZ rfl
  ·exact row 9 _ _ _ _ _ vZ rfl
  ·exact row 10 _ _ _ _ _ vZ rfl
  ·exact row 11 _ _ _ _ _ vZ rfl
  ·exact row 12 _ _ _ _ _ vZ rfl
  ·exact row 13 _ _ _ _ _ vZ rfl
 ·have row:∀i s a t o,i<4->((match Rows.laid_loop_example_s0031_impl_termForms (H:=Unit)with | .agg l=>l | _=>[]):List (DataW Unit))[i]?=some (.agg [.lit (.string s),.lit (.bool a),.lit (.bool t),.lit (.bool o)]) ->
   W.cell? ⟨2,i*4,none⟩=some (.string (Jj s))/\W.cell? ⟨2,i*4+1,none⟩=some (.bool a)/\W.cell? ⟨2,i*4+2,none⟩=some (.bool t)/\W.cell? ⟨2,i*4+3,none⟩=some (.bool o):=fun i s a t o hi hr=>by
   obtain⟨e0,e1,e2,e3⟩:=Zg6 hd1 i hi s a t o hr;exact⟨c1 _ _ e0,c1 _ _ e1,c1 _ _ e2,c1 _ _ e3⟩
  have r1:=row 1 _ _ _ _ vZ rfl;refine⟨ZT r1.1,fun k h1 h2=>?_⟩;have hk:k=1\/k=2\/k=3:=oM;rcases hk with rfl | rfl | rfl
  ·exact r1
  ·exact row 2 _ _ _ _ vZ rfl
  ·exact row 3 _ _ _ _ vZ rfl
theorem Ze4(H:Type)(enc:TypeId × Value->H)(W:World)(base:Nat)(args:Array Value)(ds gs:List (DataW H))(before:List MemPlace)
 (hval:∀(j:Nat) t v,Tryz.f3.params[j]?=some t->args[j]?=some v->Value.okWide Tryz.prog W .any base t v)
 (hW:DataW.Whole enc Tryz.prog Tryz.f3.params.toList Rows.fnExactColorSpec.vars false W args.toList ds gs before) (hL:laidMetH Tryz.prog Rows.fnExactColorRow.laid W) :
 Calls Tryz.prog 3 args W fun e W'=>∃v,e=.returned v/\Rows.fnExactColorSpec.post enc Tryz.prog Tryz.f3 false true false false W args v W':=by
 have hW':=hW;obtain⟨p,q,hA0,hV,rfl,hfz,hnd⟩:=hW;have hA:DataW.TrodAll enc Tryz.prog W 0 (fun _=>true) true Tryz.f3.params.toList args.toList ds p:=hA0;rw[Tryz.params3]at hA hval;obtain⟨v0,vs0,d0,ds0,p0,q0,hargs,rfl,rfl,h0,r0⟩:=trodAll_cons hA;obtain⟨rfl,rfl,rfl⟩:=trodAll_nil r0;obtain rfl:args=#[v0]:=by cases args;simp_all
 clear hA0;have h0':=h0;obtain⟨c0,c1,y0,y1,m,rfl,rfl,rfl,hy0,hy1⟩:=open_agg2 Tryz.underlying24 kR (show Tryz.prog.cellsOf 24=2 by kernel_rfl) (hval 0 24 v0 rfl rfl) h0;obtain⟨val,e0,_,_⟩:=DataW.trod_int Tryz.underlying2 hy0;obtain⟨a,xs,c,e1,hlen,hb,hls⟩:=Zb8 hy1;simp only[List.cons.injEq,and_true]at e0 e1;subst e0;subst e1;obtain⟨hO,hT,hZ⟩:=Zh8 hL;have hmax:maxLen=9223372036854775807:=by unfold maxLen;decide
 rw[hmax]at hlen hls;refine(Zfl val a xs.length c xs W hb rfl hlen hls hO hT hZ).mono fun e W' ⟨he,hbel⟩=>?_
 subst he;obtain⟨g1,g2,rfl⟩:∃g1 g2,gs=[g1,g2]:=by
  match gs,hV with
  | [g1,g2],_=>exact⟨g1,g2,rfl⟩
  | [],hV=>exact hV.elim
  | [_],hV=>obtain⟨_,_,_,_,_,_,_,_,_,_,hV,_⟩:=hV;exact hV.elim
  | _::_::_::_,hV=>obtain⟨_,_,_,_,_,_,_,_,_,_,⟨_,_,_,_,_,_,_,_,_,_,hV,_⟩,_⟩:=hV;exact hV.elim
 have hlt:=hW'.lt;refine⟨_,rfl,_,_,_,[],(y0.2++y1.2)++[],q,hW',trodAll_cons_mk (shut_bool Tryz.underlying4 _) trodAll_mk0,?_,?_,hbel.frame _,fun h=>by cases h⟩
 ·exact trodAll_cons_mk (Below.trod kR kR (of_decide_eq_true kR) h0' hbel (fun x hx=>hlt x (List.mem_append_left _ (List.mem_append_left _ hx)))) trodAll_mk0
 ·exact Below.trodVars kR hbel kR hV
theorem Ze0(os:Os):laidMet Tryz.prog Rows.fnExactColorRow.laid ((World.doorLaid Tryz.prog 64 os).forCall (fun _ _=>0) ⟨#[],#[.agg #[.int .i64 0,.slice none 0 0]],[]⟩).memory :=
 laidMet_of_run' 8 kR kR
theorem Zi6(os:Os){H:Type}(enc:TypeId × Value->H):∃gs places,DataW.whole enc Tryz.prog ((World.doorLaid Tryz.prog 64 os).forCall (fun _ _=>0) ⟨#[],#[.agg #[.int .i64 0,.slice none 0 0]],[]⟩).memory Tryz.f3.params.toList Rows.fnExactColorSpec.vars false #[Value.agg #[.int .i64 0,.slice none 0 0]].toList 8=some ([.agg [.lit (.int .i64 0),.nil]],gs,places) :=
 ⟨[Rows.laid_loop_example_s0031_impl_termForms,Rows.laid_loop_example_s0031_impl_opForms],[]++(MemPlace.row ⟨2,0,none⟩ 16++[]++(MemPlace.row ⟨0,0,none⟩ 70++[]++[])),kR⟩
theorem Zh7(os:Os)(started:os.Started)(H:Type)(enc:TypeId × Value->H)(F:Stop.Interp) :
 ReturnsInHanded {} Tryz.checked os 3 .any ((OpenSpec.ofChange Rows.fnExactColorSpec).preRow enc Tryz.prog Tryz.f3 Rows.fnExactColorRow.domain false Rows.fnExactColorRow.laid) (((OpenSpec.ofChange Rows.fnExactColorSpec).at F).post enc Tryz.prog Tryz.f3 false true false false):=by
 obtain⟨gs,places,hx⟩:=Zi6 os enc;refine returnsInHanded_of_row (C:=Tryz.checked) (s:=OpenSpec.ofChange Rows.fnExactColorSpec) own started kR Tryz.func3
  (witness_row_at (enc:=enc) (C:=Tryz.checked) false (World.doorLaid Tryz.prog 64 os) #[.agg #[.int .i64 0,.slice none 0 0]] rfl kR kR kR
   (OpenSpec.preRow_of_cond 8 hx kR (fun k hk=>by cases hk) kR (Ze0 os))) ?_
 intro W base args ds gs before hval hW _ _ _ hL _ _;exact Ze4 H enc W base args ds gs before hval hW hL
theorem Zjt:Rows.FnExactColorSaid :=
 OpenClaim.holds_of_cond 3 Tryz.f3 rfl rfl rfl rfl rfl rfl rfl ⟨rfl,rfl,rfl,rfl,rfl⟩ rfl rfl rfl rfl rfl kR Tryz.func3 kR
  (of_decide_eq_true kR) (by unfold Func.isWrapper;first | (rw[if_pos (by decide +kernel)];kernel_rfl) | (rw[if_neg (by decide +kernel)];exact⟨rfl,rfl⟩))
  (fun os started H enc _ F=>by rw[OpenClaim.pre_eq_preRow];exact Zh7 os started H enc F)
theorem plain (f : FuncId) (fn : Func) (hf : Tryz.pinned.checked.prog.funcNamed "loop.example/s0031/laws.FnExactColor" = some f) (hfn : Tryz.pinned.checked.prog.funcs[f]? = some fn) :
 false=Tryz.pinned.checked.prog.looks []/\∀(j:Nat) t,fn.params[j]?=some t->Tryz.pinned.checked.prog.wantsStandIn t=false:=by
 obtain rfl : f = 3 := Option.some.inj ((show Tryz.prog.funcNamed "loop.example/s0031/laws.FnExactColor" = some 3 by kernel_rfl).symm.trans hf) |>.symm
 obtain rfl:fn=Tryz.f3:=(Option.some.inj (Tryz.func3.symm.trans hfn)).symm;refine⟨kR,fun j t ht=>?_⟩;rw[Tryz.params3]at ht;obtain rfl:t=24:=by simpa using Array.mem_of_getElem? ht
 exact(show Tryz.prog.wantsStandIn 24=false by kernel_rfl)
theorem color_card:Rows.FnExactColorCardSaid :=
 Claim7.holds_tied_plain_at .later [] _ _ _ _ Zjt (fun _ h=>by cases h) kR (fun _ h=>by cases h) fnExactColor_row_tie rfl ⟨rfl,rfl⟩ kR rfl plain kR
#print axioms color_card
end
end Go.Proofs.YthgikffcdgpgiaaGreatDoor
