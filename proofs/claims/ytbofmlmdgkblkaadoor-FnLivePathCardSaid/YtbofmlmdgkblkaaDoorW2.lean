import Derived.Deep.RegionWith
import Derived.Test.YtbofmlmdgkblkaaDoorNSb
namespace Go.Proofs.YtbofmlmdgkblkaaDoor
open Go.RowKit
attribute [local go_sem ↓] Go.wp_at_zero Go.wp_at_succ
def Zi6(xs:List Ph):Prop:=∀p∈xs,p.args.length<=1048576
def Zhw(xs:List Xg):Prop:=∀x∈xs,x.phis.length<=1048576/\x.instrs.length<=1048576/\Zi6 x.phis
end Go.Proofs.YtbofmlmdgkblkaaDoor
namespace Go.Proofs.YtbofmlmdgkblkaaDoor
open Go.RowKit
theorem Tryd.info2:(Tryd.prog.info? 2).map (fun i=>(i.zero,i.size,i.bytes))=some (some (.int .i64 0),1,8):=by kernel_rfl
def ZK(w:World)(L B:Nat)(a:Option Addr)(xss:List (List Int)):Prop :=
 ∀i (h:i<xss.length),∃b o,a=some ⟨b,o,none⟩/\(L<=b/\b<B)/\∃a' c',w.cell? ⟨b,o+i,none⟩=some (.slice a' xss[i].length c')/\Xe w L B a' xss[i]
theorem ZK.mono{w:World}{L B L' B':Nat}{a:Option Addr}{xss:List (List Int)}(h:ZK w L B a xss)(l:L'<=L)(k:B<=B'):ZK w L' B' a xss:=fun i hi=>by
 obtain⟨b,o,e,hb,a',c',h1,h2⟩:=h i hi;exact⟨b,o,e,by omega,a',c',h1,h2.mono l k⟩
def YK(w:World)(G n:Nat)(P:Nat->List Int)(U:Nat->Value):Prop :=
 w.rowIs G 40 n U/\(∀i,i<n->w.ownsRow (G+1) 2 1 (U i) (P i).length ((P i).map (Value.int .i64)))/\(∀i j,i<n->j<n->i≠j->(U i).ownBlock=none\/(U i).ownBlock≠(U j).ownBlock)
theorem YK.alloc{w:World}{G n:Nat}{P:Nat->List Int}{U:Nat->Value}(h:YK w G n P U)(o:Obj):YK (w.alloc o) G n P U:=⟨h.1.alloc o,fun i hi=>(h.2.1 i hi).alloc o,h.2.2⟩
theorem YK.below{w w':World}{G n:Nat}{P:Nat->List Int}{U:Nat->Value}(h:YK w G n P U)(k:Below w.heap.size w w'):YK w' G n P U:=by
 refine⟨h.1.of_block (k.block _ h.1.lt),fun i hi=>?_,h.2.2⟩;refine(h.2.1 i hi).kept (row:=none) ⟨k.os,k.tape,k.output,k.size,fun b hb _=>k.block b hb⟩ ?_;cases (U i).ownBlock<;>simp
theorem YK.congr{w:World}{G n:Nat}{P P':Nat->List Int}{U:Nat->Value}(h:YK w G n P U)(e:∀i,i<n->P i=P' i):YK w G n P' U :=
 ⟨h.1,fun i hi=>by rw[<-e i hi];exact h.2.1 i hi,h.2.2⟩
theorem YK.step{w w1:World}{G n:Nat}{P:Nat->List Int}{U:Nat->Value}(h:YK w G n P U){t:Nat}(ht:t<n)(x:Int)(v':Value)(hg:w.grownBy w1 (U t).ownBlock)
 (ho:w1.ownsRow (G+1) 2 1 v' ((P t).length+1) ((P t).map (Value.int .i64)++[.int .i64 x])) (hat:v'.ownBlock=(U t).ownBlock\/v'.ownBlock=some w.heap.size) :
 YK (w1.setCell ⟨G,t,none⟩ v') G n (fun i=>if i=t then P t++[x]else P i) (fun i=>if i=t then v' else U i):=by
 have hr:w1.rowIs G 40 n U:=h.1.of_block (hg.block _ h.1.lt (fun e=>by have:=((h.2.1 t ht).lt _ e.symm).1;omega));refine⟨hr.set t v',fun i hi=>?_,fun i j hi hj hij=>?_⟩
 ·refine ownsRow_setCell_below ?_ (by dsimp only;omega) _
  by_cases e:i=t
  ·subst e
   simp only[if_true,List.length_append,List.length_cons,List.length_nil,List.map_append,List.map_cons,List.map_nil];exact ho
  ·simp only[e,if_false]
   exact(h.2.1 i hi).kept hg (h.2.2 i t hi ht e)
 ·have fresh:∀m,m<n->(U m).ownBlock=none\/(U m).ownBlock≠some w.heap.size:=fun m hm=>by
   by_cases e:(U m).ownBlock=some w.heap.size
   ·have:=((h.2.1 m hm).lt _ e).2;omega
   ·exact Or.inr e
  by_cases e1:i=t
  ·subst e1
   have e2:¬j=i:=fun e=>hij e.symm
   simp only[if_true,e2,if_false];rcases hat with q | q
   ·rw[q];exact h.2.2 i j hi hj hij
   ·right
    rw[q];intro hh;rcases fresh j hj with f | f
    ·rw[f]at hh;cases hh
    ·exact f hh.symm
  ·simp only[e1,if_false]
   by_cases e2:j=t
   ·subst e2
    simp only[if_true];rcases hat with q | q
    ·rw[q];exact h.2.2 i j hi hj hij
    ·rw[q];exact fresh i hi
   ·simp only[e2,if_false]
    exact h.2.2 i j hi hj hij
theorem YK.ints{w:World}{G n:Nat}{P:Nat->List Int}{U:Nat->Value}(h:YK w G n P U):ZK w G w.heap.size (some ⟨G,0,none⟩) ((List.range n).map P):=fun i hi=>by
 simp only[List.length_map,List.length_range]at hi;obtain⟨a,c,hv,ha⟩:=Xn (h.2.1 i hi);refine⟨G,0,rfl,⟨Nat.le_refl _,h.1.lt⟩,a,c,?_,?_⟩
 ·simp only[List.getElem_map,List.getElem_range,Nat.zero_add]
  rw[h.1.cell hi,hv]
 ·simp only[List.getElem_map,List.getElem_range]
  exact ha.mono (by omega) (Nat.le_refl _)
theorem Tryd.info45:(Tryd.prog.info? 40).map (fun i=>(i.zero,i.size,i.bytes))=some (some (.slice none 0 0),1,24):=by kernel_rfl
theorem YK.born(w:World)(n:Nat):YK (w.alloc (.cells (madeCells #[.slice none 0 0] n) 40)) w.heap.size n (fun _=>[]) (fun _=>.slice none 0 0) :=
 ⟨World.rowIs_made _ _ _ _,fun _ _=>World.ownsRow_nil _ _ _ _,fun _ _ _ _ _=>Or.inl rfl⟩
theorem KG{P:Program}(t e:TypeId)(z:Value)(size bytes:Nat)(ht:P.underlying t=some (.slice e))(hinfo:(P.info? e).map (fun i=>(i.zero,i.size,i.bytes))=some (some z,size,bytes))
 (n:Nat) (hbytes:bytes*n<=281474976710656) (h63:n<=9223372036854775807) (w:World) :
 (Instr.makeSlice t (.int .i64 (n:Int)) (.int .i64 (n:Int))).run P w=.ok (.slice (some ⟨w.heap.size,0,none⟩) n n) (w.alloc (.cells (madeCells z.cells (n*size)) e)):=by
 obtain⟨i,hi,hq⟩:=Option.map_eq_some_iff.1 hinfo;simp only[Prod.mk.injEq]at hq;obtain⟨hz,hsz,hbt⟩:=hq;have h:=run_make (P:=P) w t e i z ht hi hz .i64 .i64 (n:Int) (n:Int) (by omega) (Int.le_refl _) (by rw[hbt,<-Int.natCast_mul];omega) (by omega);simp only[Int.toNat_natCast,hsz]at h;exact h
def JJ(l:List UInt8):ByteArray:=⟨l.toArray⟩
end Go.Proofs.YtbofmlmdgkblkaaDoor
