import Derived.Test.YtkehcdfalcakmaaGreatDoorNSP
import Derived.Test.YtkehcdfalcakmaaGreatDoorSQ2
import Derived.Deep.RegionWith
import Derived.OwnWalk
import Derived.Lib.ItoaMem
import Derived.Lib.UnsafeStr
namespace Go.Proofs.YtkehcdfalcakmaaGreatDoor
set_option maxHeartbeats 1000000
open Go.RowKit
theorem Za5(op dst a b imm:Int)(w:World) :
 Calls Tryz.prog 60 #[.agg #[.int .i64 op,.int .i64 dst,.int .i64 a,.int .i64 b,.int .i64 imm]] w fun e w'=>e=.returned (.bool (KV ⟨op,dst,a,b,imm⟩))/\Below w.heap.size w w':=by
 go_enter Tryz.func60,Tryz.ntmps60
 go_wp2
 all_goals
  go_ret
  refine⟨Xg ?_,Xb (Below.refl _ _) _⟩
  first | (simp[KV, *];done) | (simp[KV, *];omega)
def Ue(w:World):Prop:=0 < w.heap.size/\∀k:Nat,1<=k->k<=13->∃s,w.cell? ⟨0,k*5,none⟩=some (.string s)/\w.cell? ⟨0,k*5+1,none⟩=some (.bool (dB k))/\w.cell? ⟨0,k*5+2,none⟩=some (.bool (aB k)) /\
 w.cell? ⟨0,k*5+3,none⟩=some (.bool (bB k))/\∃i,w.cell? ⟨0,k*5+4,none⟩=some (.bool i)
def TF(w:World):Prop:=1 < w.heap.size/\∀k:Nat,1<=k->k<=3->∃s,w.cell? ⟨1,k*4,none⟩=some (.string s)/\w.cell? ⟨1,k*4+1,none⟩=some (.bool ((k:Int) != 1))/\w.cell? ⟨1,k*4+2,none⟩=some (.bool ((k:Int) != 3)) /\
 w.cell? ⟨1,k*4+3,none⟩=some (.bool ((k:Int)==2))
theorem Ue.keep{w w':World}(h:Ue w)(k:Below w.heap.size w w'):Ue w':=by
 refine⟨Nat.lt_of_lt_of_le h.1 k.size,fun i h1 h2=>?_⟩;have e:=fun o=>Xc (o:=o) (k.block 0 h.1)
 obtain⟨s,c0,c1,c2,c3,j,c4⟩:=h.2 i h1 h2;exact⟨s,(e _).trans c0,(e _).trans c1,(e _).trans c2,(e _).trans c3,j,(e _).trans c4⟩
theorem TF.keep{w w':World}(h:TF w)(k:Below w.heap.size w w'):TF w':=by
 refine⟨Nat.lt_of_lt_of_le h.1 k.size,fun i h1 h2=>?_⟩;have e:=fun o=>Xc (o:=o) (k.block 1 h.1)
 obtain⟨s,c0,c1,c2,c3⟩:=h.2 i h1 h2;exact⟨s,(e _).trans c0,(e _).trans c1,(e _).trans c2,(e _).trans c3⟩
theorem VT(op dst a b imm n most:Int)(w:World)(hm:most<=13)(hT:Hid (Ue w)) :
 Calls Tryz.prog 42 #[.agg #[.int .i64 op,.int .i64 dst,.int .i64 a,.int .i64 b,.int .i64 imm],.int .i64 most,.int .i64 n] w fun e w'=>e=.returned (.bool (Yb n most ⟨op,dst,a,b,imm⟩))/\Below w.heap.size w w':=by
 by_cases h:1<=op/\op<=most
 ·obtain⟨h1,h2⟩:=h
  obtain⟨k,rfl⟩:=Int.eq_ofNat_of_zero_le (show 0<=op by omega);have hz:=hT.1;obtain⟨s,c0,c1,c2,c3,j,c4⟩:=hT.2 k (by omega) (by omega);have hR:Hid (Yb n most ⟨k,dst,a,b,imm⟩=(K0 (dB k) dst 0 n&&K0 (aB k) a 0 n&&K0 (bB k) b 0 n&&KV ⟨k,dst,a,b,imm⟩)):=by
   show _=_;unfold Yb;rw[decide_eq_true h1,decide_eq_true h2];simp
  generalize dB (k:Int)=uD at *;generalize aB (k:Int)=uA at *;generalize bB (k:Int)=uB at *;have hk13:(k:Int)<=13:=by omega
  go_enter Tryz.func42,Tryz.ntmps42
  go_wp2_with (first | (go_at_call 44;refine(XY _ _ _ _ _).mono ?_;rintro e w2 ⟨rfl,hw2⟩;rw[hw2];clear hw2 w2) | (go_at_call 60;refine(Za5 _ _ _ _ _ _).mono ?_;rintro e w2 ⟨rfl,hb2⟩))
  all_goals
   go_ret
   refine⟨Xg ?_,?_⟩
   ·rw[hR.out];simp[*]
   ·first | exact Xi (Xb (Xb (Below.refl _ _) _) _) hb2 | exact Xb (Xb (Below.refl _ _) _) _
 ·have hn:∃r,r=Yb n most ⟨op,dst,a,b,imm⟩/\r=false:=⟨_,rfl,by
   unfold Yb;by_cases h1:1<=op
   ·rw[decide_eq_false (p:=op<=most) (by omega)];simp
   ·rw[decide_eq_false (p:=1<=op) h1];simp⟩
  obtain⟨r,hr,rfl⟩:=hn;rw[<-hr];clear hr;have h':op<1\/(1<=op/\most<op):=by omega
  clear h;rcases h' with h' | ⟨h',h''⟩
  all_goals
   go_enter Tryz.func42,Tryz.ntmps42
   go_wp2
   all_goals
    go_ret
    exact⟨rfl,Xb (Below.refl _ _) _⟩
theorem KN(op dst a b imm n:Int)(w:World)(hT:Hid (Ue w)) :
 Calls Tryz.prog 42 #[.agg #[.int .i64 op,.int .i64 dst,.int .i64 a,.int .i64 b,.int .i64 imm],.int .i64 10,.int .i64 n] w fun e w'=>e=.returned (.bool (Yb n 10 ⟨op,dst,a,b,imm⟩))/\Below w.heap.size w w' :=
 VT op dst a b imm n 10 w (by decide) hT
theorem JO(kind ta tg els n low bl:Int)(w:World)(hT:Hid (TF w)) :
 Calls Tryz.prog 41 #[.agg #[.int .i64 kind,.int .i64 ta,.int .i64 tg,.int .i64 els],.int .i64 n,.int .i64 low,.int .i64 bl] w fun e w'=>e=.returned (.bool (Ze n low bl ⟨kind,ta,tg,els⟩))/\Below w.heap.size w w':=by
 by_cases h:1<=kind/\kind<=3
 ·obtain⟨h1,h2⟩:=h
  obtain⟨k,rfl⟩:=Int.eq_ofNat_of_zero_le (show 0<=kind by omega);have hz:=hT.1;obtain⟨s,c0,c1,c2,c3⟩:=hT.2 k (by omega) (by omega);have hR:Hid (Ze n low bl ⟨k,ta,tg,els⟩=(K0 ((k:Int) != 1) ta 0 n&&K0 ((k:Int) != 3) tg low bl&&K0 ((k:Int)==2) els low bl)):=by
   show _=_;unfold Ze;rw[decide_eq_true h1,decide_eq_true h2];simp
  generalize ((k:Int) != 1)=uA at *;generalize ((k:Int) != 3)=uT at *;generalize ((k:Int)==2)=uE at *
  go_enter Tryz.func41,Tryz.ntmps41
  go_wp2_with (go_at_call 44;refine(XY _ _ _ _ _).mono ?_;rintro e w2 ⟨rfl,hw2⟩;rw[hw2];clear hw2 w2)
  all_goals
   go_ret
   refine⟨Xg ?_,?_⟩
   ·rw[hR.out];simp[*]
   ·exact Xb (Xb (Below.refl _ _) _) _
 ·have hn:∃r,r=Ze n low bl ⟨kind,ta,tg,els⟩/\r=false:=⟨_,rfl,Zb7 h⟩
  obtain⟨r,hr,rfl⟩:=hn;rw[<-hr];clear hr;have h':kind<1\/3<kind:=by omega
  clear h
  go_enter Tryz.func41,Tryz.ntmps41
  go_wp2
  all_goals
   go_ret
   exact⟨rfl,Xb (Below.refl _ _) _⟩
theorem Za7(t:XN)(w:World) :
 Calls Tryz.prog 61 #[.agg #[.int .i64 t.kind,.int .i64 t.a,.int .i64 t.to,.int .i64 t.els]] w fun e w'=>∃a c,e=.returned (.slice a t.targets.length c)/\Below w.heap.size w w'/\Xh w' w.heap.size w'.heap.size a t.targets:=by
 obtain⟨kind,ta,tg,els⟩:=t;by_cases h1:kind=1
 ·subst h1
  go_enter Tryz.func61,Tryz.ntmps61
  go_wp2
  go_ret
  refine⟨_,_,rfl,Xb (Xb (Below.refl _ _) _) _,fun i hi=>?_⟩;simp[XN.targets]at hi;subst hi;exact⟨_,_,rfl,⟨by simp,by simp⟩,by simp[XN.targets]⟩
 ·by_cases h2:kind=2
  ·subst h2
   go_enter Tryz.func61,Tryz.ntmps61
   go_wp2
   go_ret
   refine⟨_,_,rfl,Xb (Xb (Below.refl _ _) _) _,fun i hi=>?_⟩;simp[XN.targets]at hi
   match i,hi with
   | 0,_=>exact⟨_,_,rfl,⟨by simp,by simp⟩,by simp[XN.targets]⟩
   | 1,_=>exact⟨_,_,rfl,⟨by simp,by simp⟩,by simp[XN.targets]⟩
  ·have e1:(kind==1)=false:=by simp[h1]
   have e2:(kind==2)=false:=by simp[h2]
   have hn:(XN.targets ⟨kind,ta,tg,els⟩)=[]:=by simp[XN.targets,h1,h2]
   rw[hn];clear h1 h2 hn
   go_enter Tryz.func61,Tryz.ntmps61
   go_wp2
   go_ret
   exact⟨_,_,rfl,Xb (Below.refl _ _) _,fun i hi=>absurd hi (by simp)⟩
end Go.Proofs.YtkehcdfalcakmaaGreatDoor
namespace Go.Proofs.YtkehcdfalcakmaaGreatDoor
open Go.RowKit
def U6(L:List Nat):List Value:=L.map fun (x:Nat)=>Value.int .i64 (x:Int)
theorem WP(L:List Nat)(x:Nat):U6 (L++[x])=U6 L++[.int .i64 (x:Int)]:=by simp[U6]
theorem ZhP(t:XN):t.targets.length<=2:=by
 unfold XN.targets;split
 ·simp
 ·split<;>simp
structure T0(w:World)(bS gS BL K:Nat)(ab:Option Addr)(nb cb:Nat)(W:Nat->Nat)(v:Value)(L:List Nat):Prop where
 c0:w.cell? ⟨bS,0,none⟩=some (.slice ab nb cb)
 c1:w.cell? ⟨bS,1,none⟩=some (.slice (some ⟨gS,0,none⟩) K K)
 c2:w.cell? ⟨bS,2,none⟩=some v
 thaw:∀q,w.frozen? ⟨bS,q,none⟩=false
 row:w.rowIs gS 154 K (fun i=>.int .u64 (W i))
 own:w.ownsRow BL 2 1 v L.length (U6 L)
 lb:bS<BL
 lg:gS<BL
 ne:bS≠gS
 sz:BL<=w.heap.size
structure FrV(w w':World)(bS gS:Nat)(v v':Value):Prop where
 os:w'.os=w.os
 tape:w'.tape=w.tape
 output:w'.output=w.output
 size:w.heap.size<=w'.heap.size
 block:∀k,k<w.heap.size->k≠bS->k≠gS->some k≠v.ownBlock->w'.heap[k]?=w.heap[k]?
 own:v'.ownBlock=v.ownBlock\/∀k,v'.ownBlock=some k->w.heap.size<=k
theorem FrV.refl(w:World)(bS gS:Nat)(v:Value):FrV w w bS gS v v:=⟨rfl,rfl,rfl,Nat.le_refl _,fun _ _ _ _ _=>rfl,Or.inl rfl⟩
theorem FrV.trans{w w1 w2:World}{bS gS:Nat}{v v1 v2:Value}(h:FrV w w1 bS gS v v1)(k:FrV w1 w2 bS gS v1 v2):FrV w w2 bS gS v v2:=by
 refine⟨k.os.trans h.os,k.tape.trans h.tape,k.output.trans h.output,Nat.le_trans h.size k.size,fun j h1 h2 h3 h4=>?_,?_⟩
 ·refine(k.block j (Nat.lt_of_lt_of_le h1 h.size) h2 h3 (fun e=>?_)).trans (h.block j h1 h2 h3 h4)
  rcases h.own with ho | ho
  ·exact h4 (by rw[e,ho])
  ·have:=ho j e.symm;omega
 ·rcases k.own with ko | ko
  ·rcases h.own with ho | ho
   ·exact Or.inl (ko.trans ho)
   ·exact Or.inr (fun j e=>ho j (by rw[<-ko];exact e))
  ·exact Or.inr (fun j e=>Nat.le_trans h.size (ko j e))
theorem FrV.of_below{w w':World}{bS gS:Nat}{v:Value}(h:Below w.heap.size w w'):FrV w w' bS gS v v:=⟨h.os,h.tape,h.output,h.size,fun k h1 _ _ _=>h.block k h1,Or.inl rfl⟩
theorem T0.below{w w':World}{bS gS BL K:Nat}{ab:Option Addr}{nb cb:Nat}{W:Nat->Nat}{v:Value}{L:List Nat}(h:T0 w bS gS BL K ab nb cb W v L)(k:Below w.heap.size w w'):T0 w' bS gS BL K ab nb cb W v L:=by
 have hz:=h.sz;have hb:w'.heap[bS]?=w.heap[bS]?:=k.block bS (by have:=h.lb;omega);have ce:∀q,w'.cell? ⟨bS,q,none⟩=w.cell? ⟨bS,q,none⟩:=fun q=>World.cell?_of_block hb
 refine⟨(ce 0).trans h.c0,(ce 1).trans h.c1,(ce 2).trans h.c2,fun q=>(World.frozen?_of_block hb).trans (h.thaw q),h.row.of_block (k.block gS (by have:=h.lg;omega)),?_,h.lb,h.lg,h.ne,Nat.le_trans hz k.size⟩;refine h.own.kept (row:=none) ⟨k.os,k.tape,k.output,k.size,fun j hj _=>k.block j hj⟩ ?_;cases v.ownBlock with
 | none=>exact Or.inl rfl
 | some j=>exact Or.inr (by simp)
theorem T0.seen{w w':World}{bS gS BL K:Nat}{ab:Option Addr}{nb cb:Nat}{W W':Nat->Nat}{v:Value}{L:List Nat}(h:T0 w bS gS BL K ab nb cb W v L)(k:w.grownBy w' (some gS))(hr:w'.rowIs gS 154 K (fun i=>.int .u64 (W' i))):T0 w' bS gS BL K ab nb cb W' v L:=by
 have hz:=h.sz;have hb:w'.heap[bS]?=w.heap[bS]?:=k.block bS (by have:=h.lb;omega) (fun e=>h.ne (by injection e));have ce:∀q,w'.cell? ⟨bS,q,none⟩=w.cell? ⟨bS,q,none⟩:=fun q=>World.cell?_of_block hb
 exact⟨(ce 0).trans h.c0,(ce 1).trans h.c1,(ce 2).trans h.c2,fun q=>(World.frozen?_of_block hb).trans (h.thaw q),hr,Tg h.own k h.lg,h.lb,h.lg,h.ne,Nat.le_trans hz k.size⟩
theorem T0.push{w w8:World}{bS gS BL K:Nat}{ab:Option Addr}{nb cb:Nat}{W:Nat->Nat}{v v8:Value}{L:List Nat}{b:Nat}{ob:Obj}(h:T0 w bS gS BL K ab nb cb W v L)(hg:(w.alloc ob).grownBy w8 v.ownBlock)(ho:w8.ownsRow BL 2 1 v8 (L.length+1) (U6 L++[.int .i64 (b:Int)]))(hat:v8.ownBlock=v.ownBlock\/v8.ownBlock=some (w.heap.size+1)) :
 T0 (w8.setCell ⟨bS,2,none⟩ v8) bS gS BL K ab nb cb W v8 (L++[b])/\FrV w (w8.setCell ⟨bS,2,none⟩ v8) bS gS v v8/\w8.cell? ⟨bS,2,none⟩=some v/\w8.frozen? ⟨bS,2,none⟩=false:=by
 have hz:=h.sz;have hlb:=h.lb;have hlg:=h.lg;have hsz:(w.alloc ob).heap.size=w.heap.size+1:=World.size_alloc _ _;have hgs:=hg.size;have hnv:∀k,k<BL->some k≠v.ownBlock:=fun k hk e=>by have:=(h.own.lt k e.symm).1;omega
 have ha:∀k,k<w.heap.size->(w.alloc ob).heap[k]?=w.heap[k]?:=fun k hk=>Below.heap_alloc _ _ _ hk
 have hb:w8.heap[bS]?=w.heap[bS]?:=(hg.block bS (by omega) (hnv _ hlb)).trans (ha _ (by omega));have hgr:w8.heap[gS]?=w.heap[gS]?:=(hg.block gS (by omega) (hnv _ hlg)).trans (ha _ (by omega));have ce:∀q,w8.cell? ⟨bS,q,none⟩=w.cell? ⟨bS,q,none⟩:=fun q=>World.cell?_of_block hb
 have fe:∀q,w8.frozen? ⟨bS,q,none⟩=false:=fun q=>(World.frozen?_of_block hb).trans (h.thaw q)
 refine⟨⟨(Yd _ _ (by omega) _).trans ((ce 0).trans h.c0),(Yd _ _ (by omega) _).trans ((ce 1).trans h.c1),World.cell?_setCell_same _ _ _ ((ce 2).trans h.c2),fun q=>by rw[World.frozen?_setCell];exact fe q,(h.row.of_block hgr).setOther (fun e=>h.ne e.symm) _,?_,hlb,hlg,h.ne,by rw[Xd];omega⟩,⟨?_,?_,?_,by rw[Xd];omega,fun k h1 h2 h3 h4=>?_,?_⟩,(ce 2).trans h.c2,fe 2⟩
 ·rw[WP,List.length_append]
  exact ownsRow_setCell_below ho hlb _
 ·exact hg.os
 ·exact hg.tape
 ·exact hg.output
 ·rw[Below.heap_setCell _ _ _ _ h2]
  exact(hg.block k (by omega) h4).trans (ha k h1)
 ·rcases hat with e | e
  ·exact Or.inl e
  ·exact Or.inr (fun k ek=>by rw[e]at ek;injection ek with ek;omega)
theorem FrV.blks{w w':World}{bS gS BL K:Nat}{ab:Option Addr}{nb cb:Nat}{W:Nat->Nat}{v v':Value}{L:List Nat}{xs:List Xf}{L0 B0:Nat}(f:FrV w w' bS gS v v')(h:T0 w bS gS BL K ab nb cb W v L)(hb:X8 w L0 B0 ab xs)(h1:¬(L0<=bS/\bS<B0))(h2:¬(L0<=gS/\gS<B0))(h3:B0<=BL):X8 w' L0 B0 ab xs:=by
 have hz:=h.sz;exact hb.keepS (fun k k1 k2=>f.block k (by omega) (fun e=>h1 (by omega)) (fun e=>h2 (by omega)) (fun e=>by have:=(h.own.lt k e.symm).1;omega))
inductive AvZ (tg:Nat->List Nat) (z:Int):Nat->Prop
 | root:z≠0->AvZ tg z 0
 | step {b t:Nat}:AvZ tg z b->t∈tg b->(t:Int)≠z->AvZ tg z t
theorem ZgH{tg:Nat->List Nat}{a b:Nat}:AvZ tg a b↔Av tg a b:=by
 constructor
 ·intro h
  induction h with
  | root h=>exact Av.root (fun e=>h (by omega))
  | step _ ht hne ih=>exact Av.step ih ht (fun e=>hne (by omega))
 ·intro h
  induction h with
  | root h=>exact AvZ.root (fun e=>h (by omega))
  | step _ ht hne ih=>exact AvZ.step ih ht (fun e=>hne (by omega))
theorem ZgO{tg:Nat->List Nat}{z:Int}(hz:z<0){b:Nat}:AvZ tg z b↔Re tg b:=by
 constructor
 ·intro h
  induction h with
  | root _=>exact Re.root
  | step _ ht _ ih=>exact Re.step ih ht
 ·intro h
  induction h with
  | root=>exact AvZ.root (by omega)
  | step _ ht ih=>exact AvZ.step ih ht (by omega)
structure RcI(tg:Nat->List Nat)(n:Nat)(z:Int)(F:List Nat)(i:Nat):Prop where
 nd:F.Nodup
 av:∀x∈F,AvZ tg z x
 lt:∀x∈F,x<n
 root:z≠0->0∈F
 nil:z=0->F=[]
 cl:∀k (h:k<F.length),k<i->∀t∈tg F[k],(t:Int)≠z->t=0\/t∈F
theorem Uf{F:List Nat}{n:Nat}(h:F.Nodup)(hl:∀x∈F,x<n):F.length<=n:=by
 have:=List.Nodup.length_le_of_subset h (l₂:=List.range n) (fun x hx=>List.mem_range.2 (hl x hx));simpa using this
theorem Zgx{tg:Nat->List Nat}{n:Nat}{z:Int}{F:List Nat}{i:Nat}(h:RcI tg n z F i)(hi:F.length<=i)(x:Nat):x∈F↔AvZ tg z x:=by
 refine⟨h.av x,fun hx=>?_⟩
 induction hx with
 | root hz=>exact h.root hz
 | @step b t hb ht hne ih =>
  obtain⟨k,hk,e⟩:=List.getElem_of_mem ih;rcases h.cl k hk (by omega) t (by rw[e];exact ht) hne with h0 | h1
  ·rw[h0]
   refine h.root (fun hz=>?_);rw[h.nil hz]at hk;exact absurd hk (by simp)
  ·exact h1
theorem Zdu{T:Type}{C:T->Value}{w:World}{g t n:Nat}{f:Nat->T}(h:w.rowIs g t n (fun z=>C (f z)))(r:Nat)(v:T):(w.setCell ⟨g,r,none⟩ (C v)).rowIs g t n (fun z=>C (if z=r then v else f z)) :=
 (h.set r (C v)).congr (fun z _=>by by_cases e:z=r<;>simp[e])
theorem ZhC{T:Type}{C:T->Value}{w:World}{g t n:Nat}{f f':Nat->T}(h:w.rowIs g t n (fun z=>C (f z)))(e:∀z,z<n->f z=f' z):w.rowIs g t n (fun z=>C (f' z)):=h.congr (fun z hz=>by rw[e z hz])
theorem Tryz.infoBo:(Tryz.prog.info? 4).map (fun i=>(i.zero,i.size,i.bytes))=some (some (.bool false),1,1):=by kernel_rfl
end Go.Proofs.YtkehcdfalcakmaaGreatDoor
namespace Go.Proofs.YtkehcdfalcakmaaGreatDoor
set_option maxHeartbeats 2000000
set_option maxRecDepth 100000
open Go.RowKit
theorem Zit(w:World)(o:Obj):((w.alloc o).alloc (.cells #[] 2)).ownsRow (w.heap.size+1) 2 1 (.slice (some ⟨w.heap.size+1,0,none⟩) 0 0) 0 []:=by
 have h:=World.ownsRow_lit (base:=w.heap.size+1) (e:=2) (size:=1) (w.alloc o) #[] 0 (by simp) (by simp) rfl;rw[World.size_alloc]at h;exact h
structure RcJ(tg:Nat->List Nat)(n:Nat)(z:Int)(F F':List Nat)(i q:Nat)(ts:List Int):Prop where
 pre:∃E,F'=F++E
 nd:F'.Nodup
 av:∀x∈F',AvZ tg z x
 lt:∀x∈F',x<n
 now:∀k (h:k<ts.length),k<q->ts[k]≠z->ts[k]=0\/ts[k].toNat∈F'
theorem Zey{tg:Nat->List Nat}{n:Nat}{z:Int}{F:List Nat}{i:Nat}{ts:List Int}(h:RcI tg n z F i):RcJ tg n z F F i 0 ts:=⟨⟨[],by simp⟩,h.nd,h.av,h.lt,fun k _ hk=>absurd hk (by omega)⟩
theorem ZeQ{tg:Nat->List Nat}{n:Nat}{z:Int}{F F':List Nat}{i q:Nat}{ts:List Int}(h:RcJ tg n z F F' i q ts)(hq:q<ts.length)(hs:ts[q]=z\/ts[q]=0\/ts[q].toNat∈F'):RcJ tg n z F F' i (q+1) ts:=⟨h.pre,h.nd,h.av,h.lt,fun k hk hkq hne=>by
 by_cases e:k=q
 ·subst e
  rcases hs with h1 | h1 | h1
  ·exact absurd h1 hne
  ·exact Or.inl h1
  ·exact Or.inr h1
 ·exact h.now k hk (by omega) hne⟩
theorem Zf7{tg:Nat->List Nat}{n:Nat}{z:Int}{F F':List Nat}{i q t:Nat}{ts:List Int}(h:RcJ tg n z F F' i q ts)(hq:q<ts.length)(ht:ts[q]=t)(htn:t<n)(hz:(t:Int)≠z)(hn:t ∉ F')(hi:i<F.length)(htg:t∈tg F[i]):RcJ tg n z F (F'++[t]) i (q+1) ts:=by
 obtain⟨E,e⟩:=h.pre;refine⟨⟨E++[t],by rw[e,List.append_assoc]⟩,?_,fun x hx=>?_,fun x hx=>?_,fun k hk hkq hne=>?_⟩
 ·rw[List.nodup_append]
  exact⟨h.nd,by simp,fun x hx y hy e2=>hn (by
   have:y=t:=by simpa using hy
   rw[<-this,<-e2];exact hx)⟩
 ·rcases List.mem_append.1 hx with h1 | h1
  ·exact h.av x h1
  ·have:x=t:=by simpa using h1
   rw[this];exact AvZ.step (h.av F[i] (by rw[e];exact List.mem_append_left _ (List.getElem_mem hi))) htg hz
 ·rcases List.mem_append.1 hx with h1 | h1
  ·exact h.lt x h1
  ·have:x=t:=by simpa using h1
   omega
 ·by_cases e2:k=q
  ·subst e2
   exact Or.inr (by rw[ht];simp)
  ·rcases h.now k hk (by omega) hne with h1 | h1
   ·exact Or.inl h1
   ·exact Or.inr (List.mem_append_left _ h1)
theorem ZfU{tg:Nat->List Nat}{n:Nat}{z:Int}{F F':List Nat}{i q:Nat}{ts:List Int}(h:RcJ tg n z F F' i q ts)(hI:RcI tg n z F i)(hz:z≠0)(hi:i<F.length)(hq:ts.length<=q)(htg:tg F[i]=ts.map Int.toNat)(h0:∀t∈ts,0<=t):RcI tg n z F' (i+1):=by
 obtain⟨E,e⟩:=h.pre;have hmem:∀x∈F,x∈F':=fun x hx=>by rw[e];exact List.mem_append_left _ hx
 refine⟨h.nd,h.av,h.lt,fun hz'=>hmem 0 (hI.root hz'),fun hz'=>absurd hz' hz,fun k hk hki t ht hne=>?_⟩;have hkF:k<F.length:=by omega
 have ek:F'[k]=F[k]:=by
  have h3:F'[k]?=(F++E)[k]?:=by rw[e]
  rw[List.getElem?_eq_getElem hk,List.getElem?_append_left hkF,List.getElem?_eq_getElem hkF]at h3;injection h3
 rw[ek]at ht;by_cases e2:k=i
 ·subst e2
  rw[htg]at ht;obtain⟨y,hy,rfl⟩:=List.mem_map.1 ht;obtain⟨j,hj,rfl⟩:=List.getElem_of_mem hy;have hy0:=h0 _ hy;rcases h.now j hj (by omega) (fun e3=>hne (by omega))with h1 | h1
  ·exact Or.inl (by rw[h1];rfl)
  ·exact Or.inr h1
 ·rcases hI.cl k hkF (by omega) t ht hne with h1 | h1
  ·exact Or.inl h1
  ·exact Or.inr (hmem t h1)
theorem Zea(w:World)(n:Nat)(hn:0<n):(w.alloc (.cells ((madeCells #[.bool false] n).setIfInBounds 0 (.bool true)) 4)).rowIs w.heap.size 4 n (fun x=>.bool (decide (x=0\/x∈[0]))):=by
 have h:=World.rowIs_alloc w ((madeCells #[.bool false] n).setIfInBounds 0 (.bool true)) 4 (fun x=>.bool (decide (x=0\/x∈[0]))) (fun i hi=>by
  rw[Array.size_setIfInBounds,size_madeCells]at hi;rw[Array.getElem?_setIfInBounds];by_cases e:0=i
  ·subst e;simp[hn,size_madeCells]
  ·have e':¬i=0:=fun h=>e h.symm
   have e1:i % 1=0:=Nat.mod_one i;simp[e,e',madeCells,hi,e1])
 rw[Array.size_setIfInBounds,size_madeCells]at h;exact h
theorem ZdA(vl:Int)(a:Option Addr)(n c:Nat)(z:Int)(xs:List Xf)(L B:Nat)(w:World)(ha:Hid (X8 w L B a xs))(hx:Hid (n=xs.length))(hn:n<=1000)(hn0:0<n)(hB:B<=w.heap.size)(hT:Hid (∀x∈xs,∀t∈x.term.targets,0<=t/\t<n)) :
 Calls Tryz.prog 88 #[.agg #[.int .i64 vl,.slice a n c],.int .i64 z] w fun e w'=>∃v F,e=.returned v/\Below w.heap.size w w'/\w'.ownsRow w.heap.size 2 1 v F.length (U6 F)/\F.Nodup/\∀x,x∈F↔AvZ (Ji xs) z x:=by
 obtain⟨i0,hi0,hz0,hz1,hz2⟩:=X0 Tryz.info2';have hmb:=run_make_row' (P:=Tryz.prog) 116 4 (.bool false) 1 Tryz.underlying116 Tryz.infoBo rfl .i64 .i64 n (by omega) (by omega);have hcm:∀W:World,(W.alloc (.cells (madeCells #[.bool false] n) 4)).cell? ⟨W.heap.size,0,none⟩=some (.bool false):=fun W=>(World.rowIs_made W (.bool false) n 4).cell hn0
 by_cases hz:z=0
 ·subst hz
  have hc3:=fun o1 o2=>hcm ((w.alloc o1).alloc o2)
  simp only[World.size_alloc]at hc3;clear hcm
  go_enter Tryz.func88,Tryz.ntmps88
  go_wp2_with fail
  go_loopw [5,7] (fun v u wr=>v=.slice (some ⟨w.heap.size+1,0,none⟩) 0 0/\u=.int .i64 0/\Hid (Below w.heap.size w wr)/\Hid (w.heap.size+1<wr.heap.size)/\Hid (wr.ownsRow w.heap.size 2 1 (.slice (some ⟨w.heap.size+1,0,none⟩) 0 0) 0 [])) (fun _ _ _=>0)
  case atStart=>exact⟨rfl,rfl,Xa (Xb (Xb (Xb (Below.refl _ _) _) _) _),Xa (by simp),Xa (World.ownsRow.alloc (by
   have h:=World.ownsRow_lit (base:=w.heap.size) (e:=2) (size:=1) (w.alloc (.cells #[.int .i64 vl,.slice a n c] 25)) #[] 0 (by simp) (by simp) rfl;rw[World.size_alloc]at h;exact h) _)⟩
  case round =>
   obtain⟨rfl,rfl,HB,HZ,HO⟩:=hrel
   go_wp2_with fail
   go_ret
   refine⟨_,[],rfl,HB.out,HO.out,List.nodup_nil,fun x=>⟨fun h=>(by cases h),fun h=>?_⟩⟩;exfalso;have:∀{c},AvZ (Ji xs) 0 c->False:=fun hc=>by
    induction hc with
    | root h=>exact h rfl
    | step _ _ _ ih=>exact ih
   exact this h
 ·have hzb:(z==0)=false:=by simpa using hz
  go_enter Tryz.func88,Tryz.ntmps88
  go_wp2_with (at_builtin;refine wpList_append_own_at _ rfl _ _ 44 rfl (w.heap.size+1) 2 i0 (.int .i64 0) 1 8 Tryz.underlying44 hi0 hz0 hz1 hz2 rfl (by decide) _ _ _ rfl (World.ownsRow.alloc (Zit w _) _) ⟨w.heap.size+2,0,none⟩ 1 1 [.int .i64 0] rfl rfl ?c1 ?c2 ?c3 ?c4 ?c5 ?_)
  case c1 =>
   have h:=YB ((w.alloc (.cells #[.int .i64 vl,.slice a n c] 25)).alloc (.cells #[] 2)) (.int .i64 0) 2;simpa using h
  case c2=>intro u hu;simp at hu;subst hu;rfl
  case c3=>unfold maxLen;omega
  case c4=>omega
  case c5=>simp
  intro v1 w1 hown1 hg1 hne1 hat1;have hcf:w1.cell? ⟨w.heap.size,1,none⟩=some (.slice a n c):=(Xc (hg1.block w.heap.size (by simp;omega) (by simp[Value.ownBlock]))).trans (by simp[go_sem]);have HB1:Hid (Below w.heap.size w w1):=Xa ((Xb (Xb (Xb (Below.refl _ _) _) _) _).grown hg1 (by simp;omega) (fun k e=>by simp[Value.ownBlock]at e;omega));have HZ1:Hid (w.heap.size+2<w1.heap.size):=Xa (by have:=hg1.size;simp only[World.size_alloc]at this;omega);obtain⟨g1,k1,rfl,hgb,hk1⟩:=Xj hown1 (by omega);have HO1:Hid (w1.ownsRow (w.heap.size+1) 2 1 (.slice (some ⟨g1,0,none⟩) (0+1) k1) [0].length (U6 [0])):=Xa hown1;have hg1l:g1<w1.heap.size:=hgb.2;clear hown1 hg1 hne1 hat1 hgb;have hc3:=hcm w1;clear hcm
  go_wp2_with fail
  have HSE:=Xa (Zea w1 n hn0);have HO2:=Xa (HO1.alloc (.cells ((madeCells #[.bool false] n).setIfInBounds 0 (.bool true)) 4));have HB2:Hid (Below w.heap.size w (w1.alloc (.cells ((madeCells #[.bool false] n).setIfInBounds 0 (.bool true)) 4))):=Xa (Xb HB1.out _);have HCF:Hid ((w1.alloc (.cells ((madeCells #[.bool false] n).setIfInBounds 0 (.bool true)) 4)).cell? ⟨w.heap.size,1,none⟩=some (.slice a n c)):=Xa ((World.cell?_alloc_lt _ _ _ (by have:=HZ1.out;show w.heap.size<_;omega)).trans hcf);have HG12:Hid (g1≠w1.heap.size):=Xa (by omega);have HGZ:Hid (w.heap.size+1<w1.heap.size):=Xa (by have:=HZ1.out;omega);clear hc3 hcf hg1l HO1 HB1 HZ1;generalize w1.alloc (.cells ((madeCells #[.bool false] n).setIfInBounds 0 (.bool true)) 4)=w2 at *;generalize w1.heap.size=g2 at *
  go_loopw [5,7] (fun v u wr=>∃(F:List Nat)(i:Nat),u=.int .i64 i/\i<=F.length/\Hid (RcI (Ji xs) n z F i)/\Hid (Below w.heap.size w wr)/\Hid (wr.cell? ⟨w.heap.size,1,none⟩=some (.slice a n c))/\Hid (wr.rowIs g2 4 n (fun x=>.bool (decide (x=0\/x∈F))))/\Hid (v.ownBlock≠some g2)/\Hid (wr.ownsRow (w.heap.size+1) 2 1 v F.length (U6 F))) (fun _ u _=>n+1-(intOf u).toNat)
  case atStart=>exact⟨[0],0,rfl,Nat.zero_le _,Xa ⟨by simp,fun x hx=>by
   have:x=0:=by simpa using hx
   subst this;exact AvZ.root hz,fun x hx=>by
   have:x=0:=by simpa using hx
   omega,fun _=>by simp,fun h=>absurd h hz,fun k _ hk=>absurd hk (by omega)⟩,HB2,HCF,HSE,Xa (by simp[Value.ownBlock];exact HG12.out),HO2⟩
  case round =>
   obtain⟨F,i,rfl,hi,HR,HB,HC,HS,HN,HO⟩:=hrel;have hFn:=Uf HR.nd HR.lt;by_cases hlt:i<F.length
   ·obtain⟨gv,kv,rfl,hgv,hkv⟩:=Xj HO.out (by omega)
    have hFi:=HR.lt F[i] (List.getElem_mem hlt);have hFx:F[i]<xs.length:=by have:=hx.out;omega
    have ef:=KS HO.out (j:=i) (u:=.int .i64 (F[i]:Int)) (by simp[U6,hlt]);have hBw:B<=w.heap.size:=hB;obtain⟨bb,ob,rfl,hbb,pa,pc,ia,ic,-,-,⟨t0,t1,t2,t3⟩,-,-⟩:=(ha.keep (HB.mono hB)) F[i] hFx;have ecf:=HC.out;have HTT:Hid (∀t∈xs[F[i]].term.targets,0<=t/\t<n):=Xa (hT.out _ (List.getElem_mem hFx));have HTG:Hid (Ji xs F[i]=xs[F[i]].term.targets.map Int.toNat):=Xa (Zci hFx);have hvz:=HO.lt gv rfl;generalize hFF:F[i]=fi at *;have HFF:=Xa hFF;clear hFF;generalize xs[fi].term=tm at *;have HWZ:Hid (w.heap.size+1<=wr.heap.size/\g2<wr.heap.size):=Xa ⟨by omega,HS.lt⟩
    go_wp2_with fail
    refine YZ (fun w'=>w'.cell? ⟨w.heap.size,1,none⟩=some (.slice (some ⟨bb,ob,none⟩) n c)/\w'.cell? ⟨gv,i,none⟩=some (.int .i64 (fi:Int))/\w'.cell? ⟨bb,ob+fi*6+2,none⟩=some (.int .i64 tm.kind)/\w'.cell? ⟨bb,ob+fi*6+2+1,none⟩=some (.int .i64 tm.a)/\w'.cell? ⟨bb,ob+fi*6+2+2,none⟩=some (.int .i64 tm.to)/\w'.cell? ⟨bb,ob+fi*6+2+3,none⟩=some (.int .i64 tm.els)) (fun hHeld=>?_);refine Xl 0 ?_;refine Xl 1 ?_;refine Xl 2 ?_;refine Xl 3 ?_;refine Xl 4 ?_;refine Xl 5 ?_;refine Xl 6 ?_;refine Xl 7 ?_;refine Xl 8 ?_;refine Xw 9 (fun K hK=>?_);go_simp
    go_at_call 40
    refine(Jm tm _).mono ?_;rintro e w3 ⟨at3,ct3,rfl,hb3,hi3⟩;have hb3':Below wr.heap.size wr w3:=⟨hb3.os,hb3.tape,hb3.output,hb3.size,hb3.block⟩;have hbz:bb<wr.heap.size:=by have:=HWZ.out;omega
    have kc:∀q,w3.cell? ⟨bb,q,none⟩=wr.cell? ⟨bb,q,none⟩:=fun q=>hb3'.cell (p:=⟨bb,q,none⟩) hbz
    refine hK _ _ ⟨(hb3'.cell (p:=⟨w.heap.size,1,none⟩) (by have:=HWZ.out;show w.heap.size<_;omega)).trans ecf,(hb3'.cell (p:=⟨gv,i,none⟩) hvz.2).trans ef,(kc _).trans t0,(kc _).trans t1,(kc _).trans t2,(kc _).trans t3⟩ (fun hHeld=>?_);clear hK kc hbz
    try simp only[Act.put,xA,xB,xC,xD,xE,xF]
    refine Xl 10 ?_;refine Y7 ?_;have hi3':Xh w3 wr.heap.size w3.heap.size at3 tm.targets:=hi3;have HB3:Hid (Below w.heap.size w w3):=Xa (Xi HB.out hb3');have HC3:Hid (w3.cell? ⟨w.heap.size,1,none⟩=some (.slice (some ⟨bb,ob,none⟩) n c)):=Xa ((hb3'.cell (p:=⟨w.heap.size,1,none⟩) (by have:=HWZ.out;show w.heap.size<_;omega)).trans HC.out);have HS3:=Xa (HS.of_block (hb3'.block g2 HWZ.2));have HO3:=Xa (ZgU HO.out (hb3'.block gv hvz.2));have HI3:=Xa hi3';have HZ3:=Xa hb3'.size;clear hb3 hi3 hb3' hi3' t0 t1 t2 t3 ef ecf hHeld;generalize hts:tm.targets=ts at *;have hts2:ts.length<=2:=by rw[<-hts];exact ZhP tm
    clear hts
    go_wp2_with fail
    generalize wr=wo at *
    go_loopw [5,9] (fun v u wq=>∃(F':List Nat)(q:Nat),u=.int .i64 q/\q<=ts.length/\Hid (RcJ (Ji xs) n z F F' i q ts)/\Hid (Below w.heap.size w wq)/\Hid (wq.cell? ⟨w.heap.size,1,none⟩=some (.slice (some ⟨bb,ob,none⟩) n c))/\Hid (wq.rowIs g2 4 n (fun x=>.bool (decide (x=0\/x∈F'))))/\Hid (v.ownBlock≠some g2)/\Hid (Xh wq wo.heap.size w3.heap.size at3 ts)/\Hid (∀k,v.ownBlock=some k->k<wo.heap.size\/w3.heap.size<=k)/\Hid (w3.heap.size<=wq.heap.size)/\Hid (wq.ownsRow (w.heap.size+1) 2 1 v F'.length (U6 F'))) (fun _ u _=>ts.length-(intOf u).toNat)
    case atStart=>exact⟨F,0,rfl,Nat.zero_le _,Xa (Zey HR.out),HB3,HC3,HS3,HN,HI3,Xa (fun k e=>by
     simp only[Value.ownBlock,Option.some.injEq]at e;exact Or.inl (by omega)),Xa (Nat.le_refl _),HO3⟩
    case round =>
     obtain⟨F',q,rfl,hq,HJ,HBq,HCq,HSq,HNq,HIq,HKq,HZq,HOq⟩:=hrel;have hFn':=Uf HJ.nd HJ.lt;clear HB3 HC3 HS3 HO3 HI3;by_cases hlq:q<ts.length
     ·obtain⟨bt,ot,rfl,hbt,et⟩:=HIq.out q hlq
      have htr:=HTT.out ts[q] (List.getElem_mem hlq);have HSK:=Xa (ZeQ HJ.out hlq);have HTM:Hid (∀t:Nat,ts[q]=(t:Int)->t∈Ji xs fi):=Xa (fun t e=>by rw[HTG.out];exact List.mem_map.2 ⟨ts[q],List.getElem_mem hlq,by rw[e];rfl⟩);have HTAK:Hid (∀t:Nat,ts[q]=(t:Int)->t<n->(t:Int)≠z->t ∉ F'->t∈Ji xs F[i]->RcJ (Ji xs) n z F (F'++[t]) i (q+1) ts):=Xa (fun t e1 e2 e3 e4 e5=>Zf7 HJ.out hlq e1 e2 e3 e4 hlt e5);generalize ts[q]=tq at *;obtain⟨tn,rfl⟩:=Zr htr.1;have htn:tn<n:=by omega
      have esn:=HSq.cell htn;have ezn:=HSq.frozen;by_cases hez:(tn:Int)=z
      ·have hb:((tn:Int)==z)=true:=by simpa using hez
       have hb':((tn:Int) != z)=false:=by simp[hez]
       have HJ2:=Xa (HSK.out (Or.inl hez));clear hez esn
       go_wp2_with fail
       exact⟨⟨F',q+1,by go_num,by omega,HJ2,HBq,HCq,HSq,HNq,HIq,HKq,HZq,HOq⟩,by simp[intOf];omega⟩
      ·have hb:((tn:Int)==z)=false:=by simpa using hez
       have hb':((tn:Int) != z)=true:=by simp[hez]
       by_cases hin:tn=0\/tn∈F'
       ·rw[decide_eq_true hin]at esn
        have HJ2:=Xa (HSK.out (Or.inr (by rcases hin with h | h;exact Or.inl (by omega);exact Or.inr (by simpa using h))));clear hin hez
        go_wp2_with fail
        exact⟨⟨F',q+1,by go_num,by omega,HJ2,HBq,HCq,HSq,HNq,HIq,HKq,HZq,HOq⟩,by simp[intOf];omega⟩
       ·rw[decide_eq_false hin]at esn
        have HJ2:=Xa (HTAK.out tn rfl htn hez (fun h=>hin (Or.inr h)) (by rw[HFF.out];exact HTM.out tn rfl));have HSN:Hid (∀x,x<n->(if x=tn then true else decide (x=0\/x∈F'))=decide (x=0\/x∈F'++[tn])):=Xa (fun x _=>by
         by_cases e:x=tn
         ·subst e;simp
         ·simp[e])
        clear hin hez;have hwz:=HZq.out;have nbg:bt≠g2:=by have:=HWZ.2;omega
        have nbg':g2≠bt:=fun e=>nbg e.symm
        have hbz:bt<wr.heap.size:=by omega
        have HGz:Hid (g2<wr.heap.size):=Xa HSq.lt;have hww:w.heap.size+1<=wr.heap.size:=by have:=HWZ.out;have:=HZ3.out;omega
        go_wp2_with (at_builtin;refine wpList_append_own_at _ rfl _ _ 44 rfl (w.heap.size+1) 2 i0 (.int .i64 0) 1 8 Tryz.underlying44 hi0 hz0 hz1 hz2 rfl (by decide) _ _ _ rfl ((ownsRow_setCell_other HOq.out (a:=⟨g2,tn,none⟩) HNq.out (.bool true)).alloc _) ⟨wr.heap.size,0,none⟩ 1 1 [.int .i64 (tn:Int)] rfl rfl ?c1 ?c2 ?c3 ?c4 ?c5 ?_)
        case c1 =>
         have h:=YB (wr.setCell ⟨g2,tn,none⟩ (.bool true)) (.int .i64 (tn:Int)) 2;rw[Xd]at h;exact h
        case c2=>intro u hu;simp at hu;subst hu;rfl
        case c3=>unfold maxLen;omega
        case c4=>omega
        case c5=>rw[World.size_alloc,Xd];omega
        intro v8 w8 hown8 hg8 hne8 hat8;have hs8:=hg8.size;rw[World.size_alloc,Xd]at hs8;have blk:∀k,k<wr.heap.size->k≠g2->(∀j,u5.ownBlock=some j->k≠j)->w8.heap[k]?=wr.heap[k]?:=fun k h1 h2 h3=>by
         refine(hg8.block k (by rw[World.size_alloc,Xd];omega) (fun e=>h3 k e.symm rfl)).trans ?_;rw[Below.heap_alloc _ _ _ (by rw[Xd];exact h1)];exact Below.heap_setCell _ _ _ _ h2
        have hown':∀j,u5.ownBlock=some j->w.heap.size+1<=j:=fun j e=>(HOq.lt j e).1
        have hg2w:=HGZ.out;have HB8:Hid (Below w.heap.size w w8):=Xa (((Below.alloc (HBq.setCell (by show w.heap.size<=g2;omega) _) (by rw[Xd];omega) _).grown hg8 (by rw[World.size_alloc,Xd];omega) (fun k e=>by have:=hown' k e;omega)));have HC8:Hid (w8.cell? ⟨w.heap.size,1,none⟩=some (.slice (some ⟨bb,ob,none⟩) n c)):=Xa ((Xc (blk w.heap.size (by omega) (by omega) (fun j e=>by have:=hown' j e;omega))).trans HCq.out);have HS8:Hid (w8.rowIs g2 4 n (fun x=>.bool (decide (x=0\/x∈F'++[tn])))):=Xa (ZhC (C:=Value.bool) (((Zdu (C:=Value.bool) HSq.out tn true).alloc _).of_block (hg8.block g2 (by rw[World.size_alloc,Xd];have:=HGz.out;omega) (fun e=>HNq.out e.symm))) HSN.out);have HN8:Hid (v8.ownBlock≠some g2):=Xa (fun e=>by
         rcases hat8 with h | h
         ·exact HNq.out (h.symm.trans e)
         ·rw[e]at h;injection h with h;have:=HGz.out;omega)
        have HI8:Hid (Xh w8 wo.heap.size w3.heap.size (some ⟨bt,ot,none⟩) ts):=Xa (HIq.keepS (fun k h1 h2=>blk k (by omega) (by have:=HWZ.2;omega) (fun j e=>by rcases HKq.out j e with h | h<;>omega)));have HK8:Hid (∀k,v8.ownBlock=some k->k<wo.heap.size\/w3.heap.size<=k):=Xa (fun k e=>by
         rcases hat8 with h | h
         ·exact HKq.out k (h.symm.trans e)
         ·rw[e]at h;injection h with h;exact Or.inr (by omega))
        have HZ8:Hid (w3.heap.size<=w8.heap.size):=Xa (by omega);have HO8:Hid (w8.ownsRow (w.heap.size+1) 2 1 v8 (F'++[tn]).length (U6 (F'++[tn]))):=Xa (by rw[WP,List.length_append];exact hown8);clear hown8 hg8 hne8 hat8 blk hown' HOq HSq HCq HBq HIq
        go_wp2_with fail
        exact⟨⟨F'++[tn],q+1,by go_num,by omega,HJ2,HB8,HC8,HS8,HN8,HI8,HK8,HZ8,HO8⟩,by simp[intOf];omega⟩
     ·have HRD:Hid (RcI (Ji xs) n z F' (i+1)):=Xa (ZfU HJ.out HR.out hz hlt (by omega) (by rw[HFF.out];exact HTG.out) (fun t ht=>(HTT.out t ht).1))
      have hil:i+1<=F'.length:=by obtain⟨E,e⟩:=HJ.pre;rw[e,List.length_append];omega
      go_wp2_with fail
      exact⟨⟨F',i+1,by go_num,hil,HRD,HBq,HCq,HSq,HNq,HOq⟩,by simp[intOf];omega⟩
   ·have hie:i=F.length:=by omega
    subst hie;have hF0:0<F.length:=List.length_pos_of_mem (HR.root hz);obtain⟨gv,kv,rfl,hgv,hkv⟩:=Xj HO.out hF0
    go_wp2_with fail
    go_ret
    exact⟨_,F,rfl,HB.out,Yn HO.out (by omega),HR.nd,Zgx HR.out (Nat.le_refl _)⟩
end Go.Proofs.YtkehcdfalcakmaaGreatDoor
namespace Go.Proofs.YtkehcdfalcakmaaGreatDoor
open Go.RowKit
attribute [local go_sem ↓] Go.wp_at_zero Go.wp_at_succ
def Zis(xs:List Ph):Prop:=∀p∈xs,p.args.length<=1048576
def ZhH(xs:List Xf):Prop:=∀x∈xs,x.phis.length<=1048576/\x.instrs.length<=1048576/\Zis x.phis
end Go.Proofs.YtkehcdfalcakmaaGreatDoor
namespace Go.Proofs.YtkehcdfalcakmaaGreatDoor
open Go.RowKit
theorem Tryz.info2:(Tryz.prog.info? 2).map (fun i=>(i.zero,i.size,i.bytes))=some (some (.int .i64 0),1,8):=by kernel_rfl
def YK(w:World)(L B:Nat)(a:Option Addr)(xss:List (List Int)):Prop :=
 ∀i (h:i<xss.length),∃b o,a=some ⟨b,o,none⟩/\(L<=b/\b<B)/\∃a' c',w.cell? ⟨b,o+i,none⟩=some (.slice a' xss[i].length c')/\Xh w L B a' xss[i]
theorem YK.keepS{w w':World}{L B:Nat}{a:Option Addr}{xss:List (List Int)}(h:YK w L B a xss)(k:X7 L B w w'):YK w' L B a xss:=fun i hi=>by
 obtain⟨b,o,e,hb,a',c',h1,h2⟩:=h i hi;exact⟨b,o,e,hb,a',c',(Xc (k b hb.1 hb.2)).trans h1,h2.keepS k⟩
theorem YK.keep{w w':World}{L B:Nat}{a:Option Addr}{xss:List (List Int)}(h:YK w L B a xss)(k:Below B w w'):YK w' L B a xss:=h.keepS (X7.of_below k)
theorem YK.mono{w:World}{L B L' B':Nat}{a:Option Addr}{xss:List (List Int)}(h:YK w L B a xss)(l:L'<=L)(k:B<=B'):YK w L' B' a xss:=fun i hi=>by
 obtain⟨b,o,e,hb,a',c',h1,h2⟩:=h i hi;exact⟨b,o,e,by omega,a',c',h1,h2.mono l k⟩
def Z0(w:World)(G n:Nat)(P:Nat->List Int)(U:Nat->Value):Prop :=
 w.rowIs G 44 n U/\(∀i,i<n->w.ownsRow (G+1) 2 1 (U i) (P i).length ((P i).map (Value.int .i64)))/\(∀i j,i<n->j<n->i≠j->(U i).ownBlock=none\/(U i).ownBlock≠(U j).ownBlock)
theorem Z0.alloc{w:World}{G n:Nat}{P:Nat->List Int}{U:Nat->Value}(h:Z0 w G n P U)(o:Obj):Z0 (w.alloc o) G n P U:=⟨h.1.alloc o,fun i hi=>(h.2.1 i hi).alloc o,h.2.2⟩
theorem Z0.below{w w':World}{G n:Nat}{P:Nat->List Int}{U:Nat->Value}(h:Z0 w G n P U)(k:Below w.heap.size w w'):Z0 w' G n P U:=by
 refine⟨h.1.of_block (k.block _ h.1.lt),fun i hi=>?_,h.2.2⟩;refine(h.2.1 i hi).kept (row:=none) ⟨k.os,k.tape,k.output,k.size,fun b hb _=>k.block b hb⟩ ?_;cases (U i).ownBlock<;>simp
theorem Z0.congr{w:World}{G n:Nat}{P P':Nat->List Int}{U:Nat->Value}(h:Z0 w G n P U)(e:∀i,i<n->P i=P' i):Z0 w G n P' U :=
 ⟨h.1,fun i hi=>by rw[<-e i hi];exact h.2.1 i hi,h.2.2⟩
theorem Z0.step{w w1:World}{G n:Nat}{P:Nat->List Int}{U:Nat->Value}(h:Z0 w G n P U){t:Nat}(ht:t<n)(x:Int)(v':Value)(hg:w.grownBy w1 (U t).ownBlock)
 (ho:w1.ownsRow (G+1) 2 1 v' ((P t).length+1) ((P t).map (Value.int .i64)++[.int .i64 x])) (hat:v'.ownBlock=(U t).ownBlock\/v'.ownBlock=some w.heap.size) :
 Z0 (w1.setCell ⟨G,t,none⟩ v') G n (fun i=>if i=t then P t++[x]else P i) (fun i=>if i=t then v' else U i):=by
 have hr:w1.rowIs G 44 n U:=h.1.of_block (hg.block _ h.1.lt (fun e=>by have:=((h.2.1 t ht).lt _ e.symm).1;omega));refine⟨hr.set t v',fun i hi=>?_,fun i j hi hj hij=>?_⟩
 ·refine ownsRow_setCell_below ?_ (by dsimp only;omega) _
  by_cases e:i=t
  ·subst e
   simp only[if_true,List.length_append,List.length_cons,List.length_nil,List.map_append,List.map_cons,List.map_nil];exact ho
  ·simp only[e,if_false]
   exact(h.2.1 i hi).kept hg (h.2.2 i t hi ht e)
 ·have fresh:∀m,m<n->(U m).ownBlock=none\/(U m).ownBlock≠some w.heap.size:=fun m hm=>by
   by_cases e:(U m).ownBlock=some w.heap.size
   ·have:=((h.2.1 m hm).lt _ e).2;omega
   ·exact Or.inr e
  by_cases e1:i=t
  ·subst e1
   have e2:¬j=i:=fun e=>hij e.symm
   simp only[if_true,e2,if_false];rcases hat with q | q
   ·rw[q];exact h.2.2 i j hi hj hij
   ·right
    rw[q];intro hh;rcases fresh j hj with f | f
    ·rw[f]at hh;cases hh
    ·exact f hh.symm
  ·simp only[e1,if_false]
   by_cases e2:j=t
   ·subst e2
    simp only[if_true];rcases hat with q | q
    ·rw[q];exact h.2.2 i j hi hj hij
    ·rw[q];exact fresh i hi
   ·simp only[e2,if_false]
    exact h.2.2 i j hi hj hij
theorem Z0.ints{w:World}{G n:Nat}{P:Nat->List Int}{U:Nat->Value}(h:Z0 w G n P U):YK w G w.heap.size (some ⟨G,0,none⟩) ((List.range n).map P):=fun i hi=>by
 simp only[List.length_map,List.length_range]at hi;obtain⟨a,c,hv,ha⟩:=Yv (h.2.1 i hi);refine⟨G,0,rfl,⟨Nat.le_refl _,h.1.lt⟩,a,c,?_,?_⟩
 ·simp only[List.getElem_map,List.getElem_range,Nat.zero_add]
  rw[h.1.cell hi,hv]
 ·simp only[List.getElem_map,List.getElem_range]
  exact ha.mono (by omega) (Nat.le_refl _)
theorem Tryz.info45:(Tryz.prog.info? 44).map (fun i=>(i.zero,i.size,i.bytes))=some (some (.slice none 0 0),1,24):=by kernel_rfl
theorem Z0.born(w:World)(n:Nat):Z0 (w.alloc (.cells (madeCells #[.slice none 0 0] n) 44)) w.heap.size n (fun _=>[]) (fun _=>.slice none 0 0) :=
 ⟨World.rowIs_made _ _ _ _,fun _ _=>World.ownsRow_nil _ _ _ _,fun _ _ _ _ _=>Or.inl rfl⟩
theorem Zel{P:Program}(t e:TypeId)(z:Value)(size bytes:Nat)(ht:P.underlying t=some (.slice e))(hinfo:(P.info? e).map (fun i=>(i.zero,i.size,i.bytes))=some (some z,size,bytes))
 (n:Nat) (hbytes:bytes*n<=281474976710656) (h63:n<=9223372036854775807) (w:World) :
 (Instr.makeSlice t (.int .i64 (n:Int)) (.int .i64 (n:Int))).run P w=.ok (.slice (some ⟨w.heap.size,0,none⟩) n n) (w.alloc (.cells (madeCells z.cells (n*size)) e)):=by
 obtain⟨i,hi,hq⟩:=Option.map_eq_some_iff.1 hinfo;simp only[Prod.mk.injEq]at hq;obtain⟨hz,hsz,hbt⟩:=hq;have h:=run_make (P:=P) w t e i z ht hi hz .i64 .i64 (n:Int) (n:Int) (by omega) (Int.le_refl _) (by rw[hbt,<-Int.natCast_mul];omega) (by omega);simp only[Int.toNat_natCast,hsz]at h;exact h
def Xs(l:List UInt8):ByteArray:=⟨l.toArray⟩
theorem TR(l:List UInt8):(Xs l).size=l.length:=by simp[Xs,ByteArray.size]
theorem Zar{u:Nat}(h:¬u<10):Lib.decDigits u=Lib.decDigits (u / 10)++[UInt8.ofNat (48+u % 10)]:=by
 rw[Lib.decDigits,dif_neg h]
end Go.Proofs.YtkehcdfalcakmaaGreatDoor
