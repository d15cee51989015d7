import Derived.ProofKit
import Derived.Lib.SmallJoins
import Derived.Test.YtlmgmkmomaileaaGreatDoorCards
import Derived.Test.YtlmgmkmomaileaaGreatDoorTie
import Derived.Test.YtlmgmkmomaileaaGreatDoorW4
import Derived.OpenShut
import Derived.OpenVars
import Derived.LaidMore
import Derived.Deep.DeepHandedRow
import Derived.Lib.LaidTab
namespace Go.Proofs.YtlmgmkmomaileaaGreatDoor
open Go.RowKit Go.Deep
variable {H : Type} {enc : TypeId × Value -> H} {P : Program} {w : World} {base : Nat} {spare : Nat -> Bool} {held : Bool}
theorem J3{a:Addr}{v:Value}(h:w.cell? a=some v):a.block<w.heap.size:=by
 unfold World.cell? at h;split at h
 ·rename_i c _ _ hb
  exact(Array.getElem?_eq_some_iff.1 hb).1
 ·cases h
theorem Kg{α:Type}[Inhabited α]{t e:TypeId}{fuel s:Nat}{cs:List Value}{x:DataW H × List MemPlace}(ht:P.underlying t=some (.slice e))(hs:P.cellsOf e=s)(hs0:0<s)(Q:Nat->Nat->α->Prop)
 (hQ:∀b o cs' n d,(∀j,j<s->w.cell? ⟨b,o+j,none⟩=cs'[j]?)->cs'.length=s->DataW.trod enc P w base spare held n e cs'=some d->∃x,Q b o x)
 (h:DataW.trod enc P w base spare held fuel t cs=some x) :
 ∃(a:Option Addr)(xs:List α)(c:Nat),cs=[.slice a xs.length c]/\xs.length<=maxLen/\∀i (hi:i<xs.length),∃b o,a=some ⟨b,o,none⟩/\b<w.heap.size/\Q b (o+i*s) xs[i]:=by
 rcases open_slice ht h with⟨rfl,_⟩ | ⟨a,len,cap,m,n,D,Pl,rfl,_,hl,hm,hmm,_,hx⟩
 ·exact⟨none,[],0,rfl,Nat.zero_le _,fun i hi=>absurd hi sP⟩
 rw[hs]at hx;have hlm:len<=m:=by rw[hmm];split<;>omega
 have cellsOf:∀i,i<len->∃cs',cs'.length=s/\(∀j,j<s->w.cell? ((a.add (i*s)).add j)=cs'[j]?)/\DataW.trod enc P w base spare held n e cs'=some (D i,Pl i):=fun i hi=>by
  obtain⟨cs',h1,h2⟩:=hx i oM;obtain⟨_,h3,h4⟩:=World.cells?_some h1;exact⟨cs',h3,h4,h2⟩
 obtain⟨b,o,spot⟩:=a;by_cases hlen:len=0
 ·subst hlen
  exact⟨some ⟨b,o,spot⟩,[],cap,rfl,Nat.zero_le _,fun i hi=>absurd hi sP⟩
 have hspot:spot=none:=by
  obtain⟨cs',h1,h2,_⟩:=cellsOf 0 oM;have h3:=h2 0 hs0;rw[List.getElem?_eq_getElem oM]at h3;simpa [Addr.add]using World.cell?_spot h3
 subst hspot;obtain⟨f,hf⟩:=choose_lt (α:=α) (n:=len) (p:=fun i x=>b<w.heap.size/\Q b (o+i*s) x) (fun i hi=>by
  obtain⟨cs',h1,h2,h3⟩:=cellsOf i hi;have h4:∀j,j<s->w.cell? ⟨b,o+i*s+j,none⟩=cs'[j]?:=fun j hj=>by
   have:=h2 j hj;rw[Addr.add_mid,Addr.add_mid]at this;exact this
  obtain⟨x,hx⟩:=hQ b (o+i*s) cs' n _ h4 h1 h3;have h5:=h4 0 hs0;rw[List.getElem?_eq_getElem oM]at h5;exact⟨x,J3 h5,hx⟩)
 refine⟨some ⟨b,o,none⟩,(List.range len).map f,cap,sP,by simp;omega,fun i hi=>?_⟩;simp only[List.length_map,List.length_range]at hi;obtain⟨h1,h2⟩:=hf i hi;exact⟨b,o,rfl,h1,by simpa using h2⟩
end Go.Proofs.YtlmgmkmomaileaaGreatDoor
namespace Go.Proofs.YtlmgmkmomaileaaGreatDoor
open Go.RowKit Go.Deep
variable {H : Type} {enc : TypeId × Value -> H} {w : World} {base : Nat} {spare : Nat -> Bool} {held : Bool}
theorem WY{cs:List Value}{k:Nat}{v:Value}(h:(cs.drop k).take 1=[v]):cs[k]?=some v:=by
 have h1:((cs.drop k).take 1)[0]?=some v:=by rw[h];rfl
 rw[List.getElem?_take_of_lt oM,List.getElem?_drop]at h1;simpa using h1
theorem Z3{P:Program}{fs:Array Field}{xs:List (DataW H × List MemPlace)}{n:Nat}{cs:List Value}
 (hf:∀(i:Nat)(f:Field),fs[i]?=some f->DataW.trod enc P w base spare held n f.type ((cs.drop f.offset).take (P.cellsOf f.type))=xs[i]?) (hlen:xs.length=fs.size) {i:Nat} {f:Field} (hi:fs[i]?=some f) :
 ∃y,DataW.trod enc P w base spare held n f.type ((cs.drop f.offset).take (P.cellsOf f.type))=some y:=by
 have h1:=hf i f hi;have h2:i<xs.length:=by rw[hlen];exact(Array.getElem?_eq_some_iff.1 hi).1
 rw[List.getElem?_eq_getElem h2]at h1;exact⟨_,h1⟩
theorem Za3:Tryz.prog.cellsOf 2=1:=vZ
theorem J8{n k:Nat}{cs:List Value}(h:∃y,DataW.trod enc Tryz.prog w base spare held n 2 ((cs.drop k).take (Tryz.prog.cellsOf 2))=some y):∃z,cs[k]?=some (.int .i64 z):=by
 obtain⟨y,h⟩:=h;rw[Za3]at h;obtain⟨z,h1,_⟩:=DataW.trod_int Tryz.underlying2 h;exact⟨z,WY h1⟩
theorem Zeo{n:Nat}{cs:List Value}{d:DataW H × List MemPlace}(h:DataW.trod enc Tryz.prog w base spare held n 184 cs=some d) :
 ∃x:XN,cs[0]?=some (.int .i64 x.op)/\cs[1]?=some (.int .i64 x.dst)/\cs[2]?=some (.int .i64 x.a)/\cs[3]?=some (.int .i64 x.b)/\cs[4]?=some (.int .i64 x.imm):=by
 obtain⟨xs,m,_,_,_,hlen,hf⟩:=DataW.trod_struct Tryz.underlying184 h;obtain⟨z0,h0⟩:=J8 (k:=0) (Z3 hf hlen (i:=0) rfl);obtain⟨z1,h1⟩:=J8 (k:=1) (Z3 hf hlen (i:=1) rfl);obtain⟨z2,h2⟩:=J8 (k:=2) (Z3 hf hlen (i:=2) rfl);obtain⟨z3,h3⟩:=J8 (k:=3) (Z3 hf hlen (i:=3) rfl);obtain⟨z4,h4⟩:=J8 (k:=4) (Z3 hf hlen (i:=4) rfl);exact⟨⟨z0,z1,z2,z3,z4⟩,h0,h1,h2,h3,h4⟩
theorem Zgc{n:Nat}{cs:List Value}{d:DataW H × List MemPlace}(h:DataW.trod enc Tryz.prog w base spare held n 71 cs=some d) :
 ∃x:Zu,cs[0]?=some (.int .i64 x.kind)/\cs[1]?=some (.int .i64 x.a)/\cs[2]?=some (.int .i64 x.to)/\cs[3]?=some (.int .i64 x.els):=by
 obtain⟨xs,m,_,_,_,hlen,hf⟩:=DataW.trod_struct Tryz.underlying71 h;obtain⟨z0,h0⟩:=J8 (k:=0) (Z3 hf hlen (i:=0) rfl);obtain⟨z1,h1⟩:=J8 (k:=1) (Z3 hf hlen (i:=1) rfl);obtain⟨z2,h2⟩:=J8 (k:=2) (Z3 hf hlen (i:=2) rfl);obtain⟨z3,h3⟩:=J8 (k:=3) (Z3 hf hlen (i:=3) rfl);exact⟨⟨z0,z1,z2,z3⟩,h0,h1,h2,h3⟩
theorem ZaA{n:Nat}{cs:List Value}{d:DataW H × List MemPlace}(h:DataW.trod enc Tryz.prog w base spare held n 25 cs=some d) :
 ∃(a:Option Addr)(xs:List Int)(c:Nat),cs=[.slice a xs.length c]/\xs.length<=maxLen/\Xf w 0 w.heap.size a xs:=by
 obtain⟨a,xs,c,h1,h2,h3⟩:=Kg (α:=Int) (s:=1) Tryz.underlying25 Za3 dC (fun b o x=>w.cell? ⟨b,o,none⟩=some (.int .i64 x)) (fun b o cs' n d hc hl hd=>by
  obtain⟨z,hz,_⟩:=DataW.trod_int Tryz.underlying2 hd;refine⟨z,?_⟩;have:=hc 0 dC;rw[hz]at this;simpa using this) h
 refine⟨a,xs,c,h1,h2,fun i hi=>?_⟩;obtain⟨b,o,e,hb,hq⟩:=h3 i hi;exact⟨b,o,e,⟨Nat.zero_le _,hb⟩,by simpa using hq⟩
theorem ZcS:Tryz.prog.cellsOf 184=5:=vZ
theorem Zdm{n:Nat}{cs:List Value}{d:DataW H × List MemPlace}(h:DataW.trod enc Tryz.prog w base spare held n 70 cs=some d) :
 ∃(a:Option Addr)(xs:List XN)(c:Nat),cs=[.slice a xs.length c]/\xs.length<=maxLen/\X0 w 0 w.heap.size a xs:=by
 haveI:Inhabited XN:=⟨⟨0,0,0,0,0⟩⟩
 obtain⟨a,xs,c,h1,h2,h3⟩:=Kg (α:=XN) (s:=5) Tryz.underlying70 ZcS dC (fun b o x=>Yd w b o x) (fun b o cs' n d hc hl hd=>by
  obtain⟨x,g0,g1,g2,g3,g4⟩:=Zeo hd;exact⟨x,(hc 0 dC).trans g0,(hc 1 dC).trans g1,(hc 2 dC).trans g2,(hc 3 dC).trans g3,(hc 4 dC).trans g4⟩) h
 refine⟨a,xs,c,h1,h2,fun i hi=>?_⟩;obtain⟨b,o,e,hb,hq⟩:=h3 i hi;exact⟨b,o,e,⟨Nat.zero_le _,hb⟩,hq⟩
theorem ZdC:Tryz.prog.cellsOf 25=1:=vZ
theorem ZfX:Tryz.prog.cellsOf 167=2:=vZ
theorem Zgg{n:Nat}{cs:List Value}{d:DataW H × List MemPlace}(h:DataW.trod enc Tryz.prog w base spare held n 69 cs=some d) :
 ∃(a:Option Addr)(xs:List Ph)(c:Nat),cs=[.slice a xs.length c]/\xs.length<=maxLen/\Yp w 0 w.heap.size a xs/\∀p∈xs,p.args.length<=maxLen:=by
 haveI:Inhabited Ph:=⟨⟨0,[]⟩⟩
 obtain⟨a,xs,c,h1,h2,h3⟩:=Kg (α:=Ph) (s:=2) Tryz.underlying69 ZfX dC (fun b o x=>Ju w 0 w.heap.size b o x/\x.args.length<=maxLen) (fun b o cs' n d hc hl hd=>by
  obtain⟨ys,m,_,_,_,hlen,hf⟩:=DataW.trod_struct Tryz.underlying167 hd;obtain⟨z0,g0⟩:=J8 (k:=0) (Z3 hf hlen (i:=0) rfl);obtain⟨y1,g1⟩:=Z3 hf hlen (i:=1) rfl;obtain⟨a',az,c',e1,e2,e3⟩:=ZaA g1;have e1':(cs'.drop 1).take (Tryz.prog.cellsOf 25)=[.slice a' az.length c']:=e1;rw[ZdC]at e1';have e4:=WY e1';exact⟨⟨z0,az⟩,⟨a',c',(hc 0 dC).trans g0,(hc 1 dC).trans e4,e3⟩,e2⟩) h
 refine⟨a,xs,c,h1,h2,fun i hi=>?_,fun p hp=>?_⟩
 ·obtain⟨b,o,e,hb,hq⟩:=h3 i hi
  exact⟨b,o,e,⟨Nat.zero_le _,hb⟩,hq.1⟩
 ·obtain⟨i,hi,rfl⟩:=List.getElem_of_mem hp
  obtain⟨b,o,e,hb,hq⟩:=h3 i hi;exact hq.2
theorem Zeb:Tryz.prog.cellsOf 69=1:=vZ
theorem ZbE:Tryz.prog.cellsOf 70=1:=vZ
theorem Zd0:Tryz.prog.cellsOf 71=4:=vZ
theorem ZcK:Tryz.prog.cellsOf 73=6:=vZ
theorem ZaQ{cs:List Value}{k m j:Nat}{v:Value}(h:((cs.drop k).take m)[j]?=some v)(hj:j<m):cs[k+j]?=some v:=by
 rw[List.getElem?_take_of_lt hj,List.getElem?_drop]at h;exact h
theorem Zcv{n:Nat}{cs:List Value}{d:DataW H × List MemPlace}(h:DataW.trod enc Tryz.prog w base spare held n 22 cs=some d) :
 ∃(a:Option Addr)(xs:List Xh)(c:Nat),cs=[.slice a xs.length c]/\xs.length<=maxLen/\Xk w 0 w.heap.size a xs/\∀x∈xs,x.phis.length<=maxLen/\x.instrs.length<=maxLen/\∀p∈x.phis,p.args.length<=maxLen:=by
 haveI:Inhabited Xh:=⟨⟨[],[],⟨0,0,0,0⟩⟩⟩
 obtain⟨a,xs,c,h1,h2,h3⟩:=Kg (α:=Xh) (s:=6) Tryz.underlying22 ZcK dC (fun b o x=>YV w 0 w.heap.size b o x/\(x.phis.length<=maxLen/\x.instrs.length<=maxLen/\∀p∈x.phis,p.args.length<=maxLen)) (fun b o cs' n d hc hl hd=>by
  obtain⟨ys,m,_,_,_,hlen,hf⟩:=DataW.trod_struct Tryz.underlying73 hd;obtain⟨y0,g0⟩:=Z3 hf hlen (i:=0) rfl;obtain⟨y1,g1⟩:=Z3 hf hlen (i:=1) rfl;obtain⟨y2,g2⟩:=Z3 hf hlen (i:=2) rfl;obtain⟨pa,ps,pc,e1,e2,e3,e3'⟩:=Zgg g0;obtain⟨ia,is,ic,f1,f2,f3⟩:=Zdm g1;obtain⟨t,t0,t1,t2,t3⟩:=Zgc g2;have e1':(cs'.drop 0).take (Tryz.prog.cellsOf 69)=[.slice pa ps.length pc]:=e1;rw[Zeb]at e1';have e4:=WY e1';have f1':(cs'.drop 1).take (Tryz.prog.cellsOf 70)=[.slice ia is.length ic]:=f1;rw[ZbE]at f1';have f4:=WY f1';have hd2:∀j v,j<4->(((cs'.drop 2).take (Tryz.prog.cellsOf 71)))[j]?=some v->cs'[2+j]?=some v:=fun j v hj hv=>by
   rw[Zd0]at hv;exact ZaQ hv hj
  exact⟨⟨ps,is,t⟩,⟨pa,pc,ia,ic,(hc 0 dC).trans e4,(hc 1 dC).trans f4,⟨(hc 2 dC).trans (hd2 0 _ dC t0),(hc 3 dC).trans (hd2 1 _ dC t1),(hc 4 dC).trans (hd2 2 _ dC t2),(hc 5 dC).trans (hd2 3 _ dC t3)⟩,e3,f3⟩,e2,f2,e3'⟩) h
 refine⟨a,xs,c,h1,h2,fun i hi=>?_,fun p hp=>?_⟩
 ·obtain⟨b,o,e,hb,hq⟩:=h3 i hi
  exact⟨b,o,e,⟨Nat.zero_le _,hb⟩,hq.1⟩
 ·obtain⟨i,hi,rfl⟩:=List.getElem_of_mem hp
  obtain⟨b,o,e,hb,hq⟩:=h3 i hi;exact hq.2
end Go.Proofs.YtlmgmkmomaileaaGreatDoor
namespace Go.Proofs.YtlmgmkmomaileaaGreatDoor
set_option maxRecDepth 100000
open Go.ChangeShapes Go.WideShapes Go.ChangeAt Go.RowKit Go.Joins
theorem own:ownKnob Tryz.prog.godebug=none:=vZ
theorem gOps : Tryz.prog.globalNamed "loop.example/s0031/impl.opForms" = some 0 := by kernel_rfl
theorem gTers : Tryz.prog.globalNamed "loop.example/s0031/impl.termForms" = some 1 := by kernel_rfl
theorem gTz : Tryz.prog.globalNamed "math/bits.deBruijn64tab" = some 2 := by kernel_rfl
theorem tTz:(Tryz.prog.globals[2]?).map (·.type)=some 228:=vZ
theorem ZcO:Tryz.prog.cellsOf 5=1:=vZ
theorem Zlw:(Tryz.prog.globals[0]?).map (·.type)=some 151:=vZ
theorem Zlj:(Tryz.prog.globals[1]?).map (·.type)=some 156:=vZ
theorem Zgp:Tryz.prog.cellsOf 150=5:=vZ
theorem Zfx:Tryz.prog.cellsOf 155=4:=vZ
theorem Zeh:Tryz.prog.cellsOf 4=1:=vZ
theorem ZfF:Tryz.prog.cellsOf 9=1:=vZ
variable {H : Type} {enc : TypeId × Value -> H} {w : World} {base : Nat} {spare : Nat -> Bool} {held : Bool}
theorem Km{n k:Nat}{cs:List Value}{y:DataW H × List MemPlace}{b:Bool}(h:DataW.trod enc Tryz.prog w base spare held n 4 ((cs.drop k).take (Tryz.prog.cellsOf 4))=some y)(e:y.1=.lit (.bool b)):cs[k]?=some (.bool b):=by
 rw[Zeh]at h;obtain⟨z,h1,h2⟩:=DataW.trod_bool Tryz.underlying4 h;rw[h2]at e;cases e;exact WY h1
theorem Zhz{n k:Nat}{cs:List Value}{y:DataW H × List MemPlace}{s:List UInt8}(h:DataW.trod enc Tryz.prog w base spare held n 9 ((cs.drop k).take (Tryz.prog.cellsOf 9))=some y)(e:y.1=.lit (.string s)):cs[k]?=some (.string (YS s)):=by
 rw[ZfF]at h;obtain⟨z,h1,h2,_⟩:=DataW.trod_string Tryz.underlying9 h;rw[h2]at e;have e1:z.data.toList=s:=by simpa using e
 have e2:YS s=z:=by rw[<-e1];cases z;rfl
 rw[e2];exact WY h1
theorem Ko{P:Program}{fs:Array Field}{xs:List (DataW H × List MemPlace)}{n:Nat}{cs:List Value}
 (hf:∀(i:Nat)(f:Field),fs[i]?=some f->DataW.trod enc P w base spare held n f.type ((cs.drop f.offset).take (P.cellsOf f.type))=xs[i]?) (hlen:xs.length=fs.size) (i:Nat) {f:Field} (hi:fs[i]?=some f) {ds:List (DataW H)} (hd:xs.map (·.1)=ds) {d:DataW H} (he:ds[i]?=some d) :
 ∃y,DataW.trod enc P w base spare held n f.type ((cs.drop f.offset).take (P.cellsOf f.type))=some y/\y.1=d:=by
 have h1:=hf i f hi;have h2:i<xs.length:=by rw[hlen];exact(Array.getElem?_eq_some_iff.1 hi).1
 rw[List.getElem?_eq_getElem h2]at h1;refine⟨_,h1,?_⟩;have h3:(xs.map (·.1))[i]?=some d:=by rw[hd];exact he
 rw[List.getElem?_map,List.getElem?_eq_getElem h2]at h3;simpa using h3
theorem dt{cs:List Value}{k m j:Nat}{v:Value}(h:((cs.drop k).take m)[j]?=some v)(hj:j<m):cs[k+j]?=some v:=ZaQ h hj
theorem Zk9{n:Nat}{cs:List Value}{rows:List (DataW H)}{p:List MemPlace}(h:DataW.trod enc Tryz.prog w base spare held n 151 cs=some (.agg rows,p))(i:Nat)(hi:i<14)(s:List UInt8)(d a b m:Bool)
 (hr:rows[i]?=some (.agg [.lit (.string s),.lit (.bool d),.lit (.bool a),.lit (.bool b),.lit (.bool m)])) :
 cs[i*5]?=some (.string (YS s))/\cs[i*5+1]?=some (.bool d)/\cs[i*5+2]?=some (.bool a)/\cs[i*5+3]?=some (.bool b)/\cs[i*5+4]?=some (.bool m):=by
 obtain⟨xs,k,_,hx,_,hlen,hel⟩:=DataW.trod_array Tryz.underlying151 h;have h1:=hel i hi;rw[List.getElem?_eq_getElem oM,Zgp]at h1;simp only[Prod.mk.injEq,DataW.agg.injEq]at hx;have h2:(xs[i]' oM).1=.agg [.lit (.string s),.lit (.bool d),.lit (.bool a),.lit (.bool b),.lit (.bool m)]:=by
  have:(xs.map (·.1))[i]?=some (.agg [.lit (.string s),.lit (.bool d),.lit (.bool a),.lit (.bool b),.lit (.bool m)]):=by rw[<-hx.1];exact hr
  rw[List.getElem?_map,List.getElem?_eq_getElem oM]at this;simpa using this
 obtain⟨ys,k2,_,hy,_,hlen2,hf⟩:=DataW.trod_struct Tryz.underlying150 h1;rw[hy]at h2;simp only[DataW.agg.injEq]at h2;obtain⟨y0,g0,e0⟩:=Ko hf hlen2 0 rfl h2 rfl;obtain⟨y1,g1,e1⟩:=Ko hf hlen2 1 rfl h2 rfl;obtain⟨y2,g2,e2⟩:=Ko hf hlen2 2 rfl h2 rfl;obtain⟨y3,g3,e3⟩:=Ko hf hlen2 3 rfl h2 rfl;obtain⟨y4,g4,e4⟩:=Ko hf hlen2 4 rfl h2 rfl;exact⟨dt (j:=0) (Zhz (k:=0) g0 e0) dC,dt (Km (k:=1) g1 e1) dC,dt (Km (k:=2) g2 e2) dC,dt (Km (k:=3) g3 e3) dC,dt (Km (k:=4) g4 e4) dC⟩
theorem Zi2{n:Nat}{cs:List Value}{rows:List (DataW H)}{p:List MemPlace}(h:DataW.trod enc Tryz.prog w base spare held n 156 cs=some (.agg rows,p))(i:Nat)(hi:i<4)(s:List UInt8)(a t o:Bool)
 (hr:rows[i]?=some (.agg [.lit (.string s),.lit (.bool a),.lit (.bool t),.lit (.bool o)])) :
 cs[i*4]?=some (.string (YS s))/\cs[i*4+1]?=some (.bool a)/\cs[i*4+2]?=some (.bool t)/\cs[i*4+3]?=some (.bool o):=by
 obtain⟨xs,k,_,hx,_,hlen,hel⟩:=DataW.trod_array Tryz.underlying156 h;have h1:=hel i hi;rw[List.getElem?_eq_getElem oM,Zfx]at h1;simp only[Prod.mk.injEq,DataW.agg.injEq]at hx;have h2:(xs[i]' oM).1=.agg [.lit (.string s),.lit (.bool a),.lit (.bool t),.lit (.bool o)]:=by
  have:(xs.map (·.1))[i]?=some (.agg [.lit (.string s),.lit (.bool a),.lit (.bool t),.lit (.bool o)]):=by rw[<-hx.1];exact hr
  rw[List.getElem?_map,List.getElem?_eq_getElem oM]at this;simpa using this
 obtain⟨ys,k2,_,hy,_,hlen2,hf⟩:=DataW.trod_struct Tryz.underlying155 h1;rw[hy]at h2;simp only[DataW.agg.injEq]at h2;obtain⟨y0,g0,e0⟩:=Ko hf hlen2 0 rfl h2 rfl;obtain⟨y1,g1,e1⟩:=Ko hf hlen2 1 rfl h2 rfl;obtain⟨y2,g2,e2⟩:=Ko hf hlen2 2 rfl h2 rfl;obtain⟨y3,g3,e3⟩:=Ko hf hlen2 3 rfl h2 rfl;exact⟨dt (j:=0) (Zhz (k:=0) g0 e0) dC,dt (Km (k:=1) g1 e1) dC,dt (Km (k:=2) g2 e2) dC,dt (Km (k:=3) g3 e3) dC⟩
theorem Zlb{n k:Nat}{cs:List Value}{y:DataW H × List MemPlace}{b:Int}(h:DataW.trod enc Tryz.prog w base spare held n 5 ((cs.drop k).take (Tryz.prog.cellsOf 5))=some y)(e:y.1=.lit (.int .u8 b)):cs[k]?=some (.int .u8 b):=by
 rw[ZcO]at h;obtain⟨z,h1,h2,_⟩:=DataW.trod_int Tryz.underlying5 h;rw[h2]at e;cases e;exact WY h1
theorem Zkx{n:Nat}{cs:List Value}{rows:List (DataW H)}{p:List MemPlace}(h:DataW.trod enc Tryz.prog w base spare held n 228 cs=some (.agg rows,p))(i:Nat)(hi:i<64)(k:Int)
 (hr:rows[i]?=some (.lit (.int .u8 k))):cs[i]?=some (.int .u8 k):=by
 obtain⟨xs,k',_,hx,_,hlen,hel⟩:=DataW.trod_array Tryz.underlying228 h;have h1:=hel i hi;rw[List.getElem?_eq_getElem oM]at h1;simp only[Prod.mk.injEq,DataW.agg.injEq]at hx;have h2:(xs[i]' oM).1=.lit (.int .u8 k):=by
  have:(xs.map (·.1))[i]?=some (.lit (.int .u8 k)):=by rw[<-hx.1];exact hr
  rw[List.getElem?_map,List.getElem?_eq_getElem oM]at this;simpa using this
 have h3:=Zlb h1 h2;rw[ZcO,Nat.mul_one]at h3;exact h3
def Zg9:List (DataW Unit):=match Rows.laid_math_bits_deBruijn64tab (H:=Unit)with
 | .agg l=>l
 | _=>[]
theorem Zky:Zg9=Lib.deBruijn64tab.map fun k:Nat=>(.lit (.int .u8 (k:Int)):DataW Unit):=rfl
theorem Zk3:Lib.deBruijn64tab.length=64:=dC
theorem Zjc:∀j,j<64->Zg9[j]?=some (.lit (.int .u8 (Lib.deBruijn64tab.getD j 0:Nat))):=fun j hj=>by
 have h:j<Lib.deBruijn64tab.length:=by rw[Zk3];exact hj
 rw[Zky,List.getElem?_map,List.getElem?_eq_getElem h,List.getD_eq_getElem?_getD,List.getElem?_eq_getElem h];rfl
theorem Zk2{W:World}(h:laidMetH Tryz.prog Rows.fnExactLowerRow.laid W):XQ W/\Ye W/\K5 W:=by
 rw[MakeChecks.laidMetH_plain _ _ _ vZ]at h;obtain⟨ps,⟨g2,t2,cs2,f2,p2,q2,hg2,ht2,hv2,hd2,⟨g0,t0,cs0,f0,p0,q0,hg0,ht0,hv0,hd0,⟨g1,t1,cs1,f1,p1,q1,hg1,ht1,hv1,hd1,_,_⟩,_⟩,_⟩,_,_⟩:=h;obtain rfl:=Option.some.inj (gTz.symm.trans hg2);obtain rfl:=Option.some.inj (tTz.symm.trans ht2);have c2:∀j v,cs2.toList[j]?=some v->W.cell? ⟨2,j,none⟩=some v:=fun j v hv=>by
  have:=World.var?_cell hg2 hv2 j;rw[this];simpa using hv
 obtain rfl:=Option.some.inj (gOps.symm.trans hg0);obtain rfl:=Option.some.inj (gTers.symm.trans hg1);obtain rfl:=Option.some.inj (Zlw.symm.trans ht0);obtain rfl:=Option.some.inj (Zlj.symm.trans ht1);have c0:∀j v,cs0.toList[j]?=some v->W.cell? ⟨0,j,none⟩=some v:=fun j v hv=>by
  have:=World.var?_cell hg0 hv0 j;rw[this];simpa using hv
 have c1:∀j v,cs1.toList[j]?=some v->W.cell? ⟨1,j,none⟩=some v:=fun j v hv=>by
  have:=World.var?_cell hg1 hv1 j;rw[this];simpa using hv
 refine⟨?_,?_,fun j hj=>c2 _ _ (Zkx hd2 j hj _ (Zjc j hj))⟩
 ·have row:∀i s d a b m,i<14->((match Rows.laid_loop_example_s0031_impl_opForms (H:=Unit)with | .agg l=>l | _=>[]):List (DataW Unit))[i]?=some (.agg [.lit (.string s),.lit (.bool d),.lit (.bool a),.lit (.bool b),.lit (.bool m)]) ->
   W.cell? ⟨0,i*5,none⟩=some (.string (YS s))/\W.cell? ⟨0,i*5+1,none⟩=some (.bool d)/\W.cell? ⟨0,i*5+2,none⟩=some (.bool a)/\W.cell? ⟨0,i*5+3,none⟩=some (.bool b)/\W.cell? ⟨0,i*5+4,none⟩=some (.bool m):=fun i s d a b m hi hr=>by
   obtain⟨e0,e1,e2,e3,e4⟩:=Zk9 hd0 i hi s d a b m hr;exact⟨c0 _ _ e0,c0 _ _ e1,c0 _ _ e2,c0 _ _ e3,c0 _ _ e4⟩
  have r1:=row 1 _ _ _ _ _ dC rfl;refine⟨J3 r1.1,fun k h1 h2=>?_⟩;have hk:k=1\/k=2\/k=3\/k=4\/k=5\/k=6\/k=7\/k=8\/k=9\/k=10\/k=11\/k=12\/k=13:=oM;rcases hk with rfl | rfl | rfl | rfl | rfl | rfl | rfl | rfl | rfl | rfl | rfl | rfl | rfl
  ·exact r1
  ·exact row 2 _ _ _ _ _ dC rfl
  ·exact row 3 _ _ _ _ _ dC rfl
  ·exact row 4 _ _ _ _ _ dC rfl
  ·exact row 5 _ _ _ _ _ dC rfl
  ·exact row 6 _ _ _ _ _ dC rfl
  ·exact row 7 _ _ _ _ _ dC rfl
  ·exact row 8 _ _ _ _ _ dC rfl
  ·exact row 9 _ _ _ _ _ dC rfl
  ·exact row 10 _ _ _ _ _ dC rfl
  ·exact row 11 _ _ _ _ _ dC rfl
  ·exact row 12 _ _ _ _ _ dC rfl
  ·exact row 13 _ _ _ _ _ dC rfl
 ·have row:∀i s a t o,i<4->((match Rows.laid_loop_example_s0031_impl_termForms (H:=Unit)with | .agg l=>l | _=>[]):List (DataW Unit))[i]?=some (.agg [.lit (.string s),.lit (.bool a),.lit (.bool t),.lit (.bool o)]) ->
   W.cell? ⟨1,i*4,none⟩=some (.string (YS s))/\W.cell? ⟨1,i*4+1,none⟩=some (.bool a)/\W.cell? ⟨1,i*4+2,none⟩=some (.bool t)/\W.cell? ⟨1,i*4+3,none⟩=some (.bool o):=fun i s a t o hi hr=>by
   obtain⟨e0,e1,e2,e3⟩:=Zi2 hd1 i hi s a t o hr;exact⟨c1 _ _ e0,c1 _ _ e1,c1 _ _ e2,c1 _ _ e3⟩
  have r1:=row 1 _ _ _ _ dC rfl;refine⟨J3 r1.1,fun k h1 h2=>?_⟩;have hk:k=1\/k=2\/k=3:=oM;rcases hk with rfl | rfl | rfl
  ·exact r1
  ·exact row 2 _ _ _ _ dC rfl
  ·exact row 3 _ _ _ _ dC rfl
theorem ZgF(H:Type)(enc:TypeId × Value->H)(W:World)(base:Nat)(args:Array Value)(ds gs:List (DataW H))(before:List MemPlace)
 (hval:∀(j:Nat) t v,Tryz.f3.params[j]?=some t->args[j]?=some v->Value.okWide Tryz.prog W .any base t v)
 (hW:DataW.Whole enc Tryz.prog Tryz.f3.params.toList Rows.fnExactLowerSpec.vars false W args.toList ds gs before) (hL:laidMetH Tryz.prog Rows.fnExactLowerRow.laid W) :
 Calls Tryz.prog 3 args W fun e W'=>∃v,e=.returned v/\Rows.fnExactLowerSpec.post enc Tryz.prog Tryz.f3 false true false false W args v W':=by
 have hW':=hW;obtain⟨p,q,hA0,hV,rfl,hfz,hnd⟩:=hW;have hA:DataW.TrodAll enc Tryz.prog W 0 (fun _=>true) true Tryz.f3.params.toList args.toList ds p:=hA0;rw[Tryz.params3]at hA hval;obtain⟨v0,vs0,d0,ds0,p0,q0,hargs,rfl,rfl,h0,r0⟩:=trodAll_cons hA;obtain⟨v1,vs1,d1,ds1,p1,q1,rfl,rfl,rfl,h1,r1⟩:=trodAll_cons r0;obtain⟨v2,vs2,d2,ds2,p2,q2,rfl,rfl,rfl,h2,r2⟩:=trodAll_cons r1;obtain⟨rfl,rfl,rfl⟩:=trodAll_nil r2;obtain rfl:args=#[v0,v1,v2]:=by cases args;simp_all
 clear hA0;have h1':=h1;have h2':=h2;have h0':=h0;obtain⟨c0,c1,y0,y1,m,rfl,rfl,rfl,hy0,hy1⟩:=open_agg2 Tryz.underlying24 vZ (show Tryz.prog.cellsOf 24=2 by kernel_rfl) (hval 0 24 v0 rfl rfl) h0;obtain⟨val,e0,_,_⟩:=DataW.trod_int Tryz.underlying2 hy0;obtain⟨a,xs,c,e1,hlen,hb,hls⟩:=Zcv hy1;simp only[List.cons.injEq,and_true]at e0 e1;subst e0;subst e1;obtain⟨a1,l1,k1,rfl⟩:=okWide_slice Tryz.underlying25 (hval 1 25 v1 rfl rfl);obtain⟨kk,rfl⟩:=okWide_int Tryz.underlying2 (hval 2 2 v2 rfl rfl);obtain⟨f1,t1⟩:=h1;obtain⟨b1,ys1,m1,e1,hlen1,hi1⟩:=ZaA t1;have q1:Value.slice a1 l1 k1=.slice b1 ys1.length m1:=by simpa [Value.cells]using e1
 injection q1 with q11 q12 q13;subst q11 q12 q13;obtain⟨hO,hT,hZ⟩:=Zk2 hL;have hmax:maxLen=9223372036854775807:=by unfold maxLen;decide
 rw[hmax]at hlen hls;refine(ZfW val a xs.length c xs a1 ys1.length k1 ys1 kk W hb rfl hlen hls hO hT hZ hi1 rfl).mono fun e W' ⟨he,hbel⟩=>?_
 subst he;obtain⟨g1,g2,rfl⟩:∃g1 g2,gs=[g1,g2]:=by
  match gs,hV with
  | [g1,g2],_=>exact⟨g1,g2,rfl⟩
  | [],hV=>exact hV.elim
  | [_],hV=>obtain⟨_,_,_,_,_,_,_,_,_,_,hV,_⟩:=hV;exact hV.elim
  | _::_::_::_,hV=>obtain⟨_,_,_,_,_,_,_,_,_,_,⟨_,_,_,_,_,_,_,_,_,_,hV,_⟩,_⟩:=hV;exact hV.elim
 have hlt:=hW'.lt;refine⟨_,rfl,_,_,_,[],(y0.2++y1.2)++(p1++(p2++[])),q,hW',trodAll_cons_mk (shut_bool Tryz.underlying4 _) trodAll_mk0,?_,?_,hbel.frame _,fun h=>by cases h⟩
 ·exact trodAll_cons_mk (Below.trod vZ vZ (of_decide_eq_true vZ) h0' hbel (fun x hx=>hlt x (List.mem_append_left _ (List.mem_append_left _ hx)))) (trodAll_cons_mk (Below.trod vZ vZ (of_decide_eq_true vZ) h1' hbel (fun x hx=>hlt x (List.mem_append_left _ (List.mem_append_right _ (List.mem_append_left _ hx))))) (trodAll_cons_mk (Below.trod vZ vZ (of_decide_eq_true vZ) h2' hbel (fun x hx=>hlt x (List.mem_append_left _ (List.mem_append_right _ (List.mem_append_right _ (List.mem_append_left _ hx)))))) trodAll_mk0))
 ·exact Below.trodVars vZ hbel vZ hV
theorem ZgZ(os:Os):laidMet Tryz.prog Rows.fnExactLowerRow.laid ((World.doorLaid Tryz.prog 64 os).forCall (fun _ _=>0) ⟨#[],#[.agg #[.int .i64 0,.slice none 0 0],.slice none 0 0,.int .i64 0],[]⟩).memory :=
 laidMet_of_run' 8 vZ vZ
theorem ZkP(os:Os){H:Type}(enc:TypeId × Value->H):∃gs places,DataW.whole enc Tryz.prog ((World.doorLaid Tryz.prog 64 os).forCall (fun _ _=>0) ⟨#[],#[.agg #[.int .i64 0,.slice none 0 0],.slice none 0 0,.int .i64 0],[]⟩).memory Tryz.f3.params.toList Rows.fnExactLowerSpec.vars false #[Value.agg #[.int .i64 0,.slice none 0 0],.slice none 0 0,.int .i64 0].toList 8=some ([.agg [.lit (.int .i64 0),.nil],.nil,.lit (.int .i64 0)],gs,places) :=
 ⟨[Rows.laid_loop_example_s0031_impl_termForms,Rows.laid_loop_example_s0031_impl_opForms],[]++(MemPlace.row ⟨1,0,none⟩ 16++[]++(MemPlace.row ⟨0,0,none⟩ 70++[]++[])),vZ⟩
theorem Zk5(os:Os)(started:os.Started)(H:Type)(enc:TypeId × Value->H)(F:Stop.Interp) :
 ReturnsInHanded {} Tryz.checked os 3 .any ((OpenSpec.ofChange Rows.fnExactLowerSpec).preRow enc Tryz.prog Tryz.f3 Rows.fnExactLowerRow.domain false Rows.fnExactLowerRow.laid) (((OpenSpec.ofChange Rows.fnExactLowerSpec).at F).post enc Tryz.prog Tryz.f3 false true false false):=by
 obtain⟨gs,places,hx⟩:=ZkP os enc;refine returnsInHanded_of_row (C:=Tryz.checked) (s:=OpenSpec.ofChange Rows.fnExactLowerSpec) own started vZ Tryz.func3
  (witness_row_at (enc:=enc) (C:=Tryz.checked) false (World.doorLaid Tryz.prog 64 os) #[.agg #[.int .i64 0,.slice none 0 0],.slice none 0 0,.int .i64 0] rfl vZ vZ vZ
   (OpenSpec.preRow_of_cond 8 hx vZ (fun k hk=>by cases hk) vZ (ZgZ os))) ?_
 intro W base args ds gs before hval hW _ _ _ hL _ _;exact ZgF H enc W base args ds gs before hval hW hL
theorem Zl2:Rows.FnExactLowerSaid :=
 OpenClaim.holds_of_cond 3 Tryz.f3 rfl rfl rfl rfl rfl rfl rfl ⟨rfl,rfl,rfl,rfl,rfl⟩ rfl rfl rfl rfl rfl vZ Tryz.func3 vZ
  (of_decide_eq_true vZ) (by unfold Func.isWrapper;first | (rw[if_pos (by decide +kernel)];kernel_rfl) | (rw[if_neg (by decide +kernel)];exact⟨rfl,rfl⟩))
  (fun os started H enc _ F=>by rw[OpenClaim.pre_eq_preRow];exact Zk5 os started H enc F)
theorem plain (f : FuncId) (fn : Func) (hf : Tryz.pinned.checked.prog.funcNamed "loop.example/s0031/laws.FnExactLower" = some f) (hfn : Tryz.pinned.checked.prog.funcs[f]? = some fn) :
 false=Tryz.pinned.checked.prog.looks []/\∀(j:Nat) t,fn.params[j]?=some t->Tryz.pinned.checked.prog.wantsStandIn t=false:=by
 obtain rfl : f = 3 := Option.some.inj ((show Tryz.prog.funcNamed "loop.example/s0031/laws.FnExactLower" = some 3 by kernel_rfl).symm.trans hf) |>.symm
 obtain rfl:fn=Tryz.f3:=(Option.some.inj (Tryz.func3.symm.trans hfn)).symm;refine⟨vZ,fun j t ht=>?_⟩;rw[Tryz.params3]at ht;have hm:=Array.mem_of_getElem? ht;simp at hm;rcases hm with rfl | rfl | rfl
 ·exact(show Tryz.prog.wantsStandIn 24=false by kernel_rfl)
 ·exact(show Tryz.prog.wantsStandIn 25=false by kernel_rfl)
 ·exact(show Tryz.prog.wantsStandIn 2=false by kernel_rfl)
theorem lower_card:Rows.FnExactLowerCardSaid :=
 Claim7.holds_tied_plain_at .later [] _ _ _ _ Zl2 (fun _ h=>by cases h) vZ (fun _ h=>by cases h) fnExactLower_row_tie rfl ⟨rfl,rfl⟩ vZ rfl plain vZ
#print axioms lower_card
end Go.Proofs.YtlmgmkmomaileaaGreatDoor
