import Derived.Test.YtlmgmkmomaileaaGreatDoorDF1
import Derived.Lib.AppendZerosOnto
import Derived.Lib.Walk
import Derived.Lib.SliceRun
import Derived.Deep.LoopGhost
import Derived.WalkMore
namespace Go.Proofs.YtlmgmkmomaileaaGreatDoor
set_option maxHeartbeats 400000
open Go.RowKit
theorem Tryz.info2:(Tryz.prog.info? 2).map (fun i=>(i.zero,i.size,i.bytes))=some (some (.int .i64 0),1,8):=vZ
theorem Jg(a:Option Addr)(n c:Nat)(xs:List Int)(L B:Nat)(w:World)(ha:Hid (Xf w L B a xs))(hx:Hid (n=xs.length))(hn:n<=1048576)(hB:B<=w.heap.size) :
 Calls Tryz.prog 7 #[.slice a n c] w fun e w'=>∃c',e=.returned (.slice (some ⟨w.heap.size,0,none⟩) n c')/\Below w.heap.size w w'/\Xf w' w.heap.size w'.heap.size (some ⟨w.heap.size,0,none⟩) xs/\YU w.heap.size w':=by
 have hmk:=run_make_row' (P:=Tryz.prog) 25 2 (.int .i64 0) 8 Tryz.underlying25 Tryz.info2 rfl .i64 .i64 n oM oM
 go_enter Tryz.func7,Tryz.ntmps7
 go_wp2
 go_loopw [4] (fun i wr=>∃k:Nat,k<=n/\i=.int .i64 k/\Below w.heap.size w wr/\Hid (YU w.heap.size wr)/\Hid (∃f,wr.rowIs w.heap.size 2 n f/\∀j (h:j<xs.length),j<k->f j=.int .i64 xs[j])) (fun i _=>n-(intOf i).toNat)
 case atStart=>exact⟨0,Nat.zero_le _,rfl,Xb (Below.refl _ _) _,(YU.start _).alloc _ _,⟨_,World.rowIs_made _ _ _ _,fun j _ h=>absurd h oM⟩⟩
 case round =>
  obtain⟨k,hk,rfl,hw,hth,hf⟩:=hrel;by_cases hlt:k<n
  ·have hkx:k<xs.length:=by have:=hx.out;omega
   obtain⟨b,o,rfl,⟨_,hbB⟩,hc⟩:=ha.out k hkx;have e1:=(Xu hw oM).trans hc;obtain⟨f,hr,hff⟩:=hf.out;have e2:=hr.cell hlt;have e3:=hr.frozen k;have HF:=Xa hff;have HR:=Xa hr;clear hc hf hff hr;go_wp2;refine⟨⟨k+1,oM,gM,hw.setCell (Nat.le_refl _) _,hth.setCell _ _,⟨_,HR.set k _,fun j hj hjk=>?_⟩⟩,by simp[intOf];omega⟩;by_cases e:j=k
   ·subst e;simp
   ·simp only[e,if_false];exact HF.out j hj oM
  ·go_wp2
   go_ret
   obtain⟨f,hr,hff⟩:=hf.out;refine⟨_,rfl,hw,fun j hj=>⟨w.heap.size,0,rfl,⟨Nat.le_refl _,hr.lt⟩,?_⟩,hth.out⟩;rw[Nat.zero_add,hr.cell (by have:=hx.out;omega),hff j hj (by have:=hx.out;omega)]
theorem ZcW(a b c d f:Int)(w:World) :
 Calls Tryz.prog 97 #[.agg #[.int .i64 a,.int .i64 b,.int .i64 c,.int .i64 d,.int .i64 f]] w fun e w'=>e=.returned (.agg #[.int .i64 a,.int .i64 b,.int .i64 c,.int .i64 d,.int .i64 f])/\Below w.heap.size w w'/\YU w.heap.size w':=by
 go_enter Tryz.func97,Tryz.ntmps97
 go_wp2;exact bodyPost_ret (v:=.agg #[.int .i64 a,.int .i64 b,.int .i64 c,.int .i64 d,.int .i64 f]) (by simp[results,Tryz.results97,go_sem]) rfl ⟨rfl,Xb (Xb (Xb (Below.refl _ _) _) _) _,(((YU.start _).alloc _ _).alloc _ _).alloc _ _⟩
theorem ZdD(a b c d:Int)(w:World) :
 Calls Tryz.prog 66 #[.agg #[.int .i64 a,.int .i64 b,.int .i64 c,.int .i64 d]] w fun e w'=>e=.returned (.agg #[.int .i64 a,.int .i64 b,.int .i64 c,.int .i64 d])/\Below w.heap.size w w'/\YU w.heap.size w':=by
 go_enter Tryz.func66,Tryz.ntmps66
 go_wp2;exact bodyPost_ret (v:=.agg #[.int .i64 a,.int .i64 b,.int .i64 c,.int .i64 d]) (by simp[results,Tryz.results66,go_sem]) rfl ⟨rfl,Xb (Xb (Xb (Below.refl _ _) _) _) _,(((YU.start _).alloc _ _).alloc _ _).alloc _ _⟩
theorem J4{P:Program}(t e:TypeId)(z:Value)(size bytes:Nat)(ht:P.underlying t=some (.slice e))(hinfo:(P.info? e).map (fun i=>(i.zero,i.size,i.bytes))=some (some z,size,bytes))
 (n:Nat) (hbytes:bytes*n<=281474976710656) (h63:n<=9223372036854775807) (w:World) :
 (Instr.makeSlice t (.int .i64 (n:Int)) (.int .i64 (n:Int))).run P w=.ok (.slice (some ⟨w.heap.size,0,none⟩) n n) (w.alloc (.cells (madeCells z.cells (n*size)) e)):=by
 obtain⟨i,hi,hq⟩:=Option.map_eq_some_iff.1 hinfo;simp only[Prod.mk.injEq]at hq;obtain⟨hz,hsz,hbt⟩:=hq;have h:=run_make (P:=P) w t e i z ht hi hz .i64 .i64 (n:Int) (n:Int) oM (Int.le_refl _) (by rw[hbt,<-Int.natCast_mul];omega) oM;simp only[Int.toNat_natCast,hsz]at h;exact h
theorem TM(w:World)(z:Array Value)(n:Nat)(t:TypeId):(w.alloc (.cells (madeCells z n) t)).rowIs w.heap.size t n (fun i=>z[i % z.size]!):=by
 have h:=World.rowIs_alloc w (madeCells z n) t (fun i=>z[i % z.size]!) (fun i hi=>by
  rw[size_madeCells]at hi;simp[madeCells,hi])
 rw[size_madeCells]at h;exact h
theorem Tryz.infoInstr:(Tryz.prog.info? 54).map (fun i=>(i.zero,i.size,i.bytes))=some (some (.agg #[.int .i64 0,.int .i64 0,.int .i64 0,.int .i64 0,.int .i64 0]),5,40):=vZ
theorem Zbz(a:Option Addr)(n c:Nat)(xs:List XN)(L B:Nat)(w:World)(ha:Hid (X0 w L B a xs))(hx:Hid (n=xs.length))(hn:n<=1048576)(hB:B<=w.heap.size) :
 Calls Tryz.prog 65 #[.slice a n c] w fun e w'=>∃c',e=.returned (.slice (some ⟨w.heap.size,0,none⟩) n c')/\Below w.heap.size w w'/\X0 w' w.heap.size w'.heap.size (some ⟨w.heap.size,0,none⟩) xs/\YU w.heap.size w':=by
 have hmk:=J4 (P:=Tryz.prog) 46 54 _ 5 40 Tryz.underlying46 Tryz.infoInstr n oM oM
 go_enter Tryz.func65,Tryz.ntmps65
 go_wp2
 go_loopw [4] (fun i wr=>∃k:Nat,k<=n/\i=.int .i64 k/\Below w.heap.size w wr/\Hid (YU w.heap.size wr)/\Hid (∃f,wr.rowIs w.heap.size 54 (n*5) f)/\Hid (∀j (h:j<xs.length),j<k->Yd wr w.heap.size (j*5) xs[j])) (fun i _=>n-(intOf i).toNat)
 case atStart=>exact⟨0,Nat.zero_le _,rfl,Xb (Below.refl _ _) _,(YU.start _).alloc _ _,⟨_,TM _ _ _ _⟩,fun j _ h=>absurd h oM⟩
 case round =>
  obtain⟨k,hk,rfl,hw,hth,hf,hg⟩:=hrel;by_cases hlt:k<n
  ·have hkx:k<xs.length:=by have:=hx.out;omega
   obtain⟨b,o,rfl,⟨_,hbB⟩,hc⟩:=ha.out k hkx;obtain⟨e0,e1,e2,e3,e4⟩:=hc.keep hw oM;obtain⟨f,hr⟩:=hf.out;have HR:=Xa hr;clear hc hf hr;generalize hX:xs[k]=X at *;have HX:=Xa hX;clear hX
   go_wp2_with (go_at_call 97;refine(ZcW _ _ _ _ _ _).mono ?_;rintro e w1 ⟨rfl,hb1,ht1⟩;have HT1:=Xa ht1;clear ht1;have hr1:=HR.of_block (hb1.block _ HR.lt);have g0:=hr1.cell (i:=k*5) oM;have g1:=hr1.cell (i:=k*5+1) oM;have g2:=hr1.cell (i:=k*5+2) oM;have g3:=hr1.cell (i:=k*5+3) oM;have g4:=hr1.cell (i:=k*5+4) oM;have z0:=hr1.frozen (k*5);have z1:=hr1.frozen (k*5+1);have z2:=hr1.frozen (k*5+2);have z3:=hr1.frozen (k*5+3);have z4:=hr1.frozen (k*5+4);have HR1:=Xa hr1;clear hr1)
   rw[<-Xp HX];have h1:∀j (h:j<xs.length),j<k->Yd w1 w.heap.size (j*5) xs[j]:=fun j h hj=>(hg.out j h hj).keepS (hb1.block _ HR.lt)
   have h2:=ZhI HR1.out xs k hkx (by have:=hx.out;omega) h1;exact⟨⟨k+1,oM,gM,Z7 _ xs[k].cells (k*5) _ _ (Xd hw hb1) (Nat.le_refl _),(((((hth.trans hb1 HT1.out).setCell _ _).setCell _ _).setCell _ _).setCell _ _).setCell _ _,ZB xs[k].cells (k*5) _ _ HR1.out,h2⟩,by simp[intOf];omega⟩
  ·go_wp2
   go_ret
   obtain⟨f,hr⟩:=hf.out;refine⟨_,rfl,hw,fun j hj=>⟨w.heap.size,0,rfl,⟨Nat.le_refl _,hr.lt⟩,?_⟩,hth.out⟩;rw[Nat.zero_add];exact hg.out j hj (by have:=hx.out;omega)
end Go.Proofs.YtlmgmkmomaileaaGreatDoor
namespace Go.Proofs.YtlmgmkmomaileaaGreatDoor
open Go.RowKit
def XM(w:World)(L B:Nat)(a:Option Addr)(xss:List (List Int)):Prop :=
 ∀i (h:i<xss.length),∃b o,a=some ⟨b,o,none⟩/\(L<=b/\b<B)/\∃a' c',w.cell? ⟨b,o+i,none⟩=some (.slice a' xss[i].length c')/\Xf w L B a' xss[i]
theorem XM.keepS{w w':World}{L B:Nat}{a:Option Addr}{xss:List (List Int)}(h:XM w L B a xss)(k:Xv L B w w'):XM w' L B a xss:=fun i hi=>by
 obtain⟨b,o,e,hb,a',c',h1,h2⟩:=h i hi;exact⟨b,o,e,hb,a',c',(Xc (k b hb.1 hb.2)).trans h1,h2.keepS k⟩
theorem XM.keep{w w':World}{L B:Nat}{a:Option Addr}{xss:List (List Int)}(h:XM w L B a xss)(k:Below B w w'):XM w' L B a xss:=h.keepS (Xv.of_below k)
theorem XM.mono{w:World}{L B L' B':Nat}{a:Option Addr}{xss:List (List Int)}(h:XM w L B a xss)(l:L'<=L)(k:B<=B'):XM w L' B' a xss:=fun i hi=>by
 obtain⟨b,o,e,hb,a',c',h1,h2⟩:=h i hi;exact⟨b,o,e,oM,a',c',h1,h2.mono l k⟩
def YL(w:World)(G n:Nat)(P:Nat->List Int)(U:Nat->Value):Prop :=
 w.rowIs G 25 n U/\(∀i,i<n->w.ownsRow (G+1) 2 1 (U i) (P i).length ((P i).map (Value.int .i64)))/\(∀i j,i<n->j<n->i≠j->(U i).ownBlock=none\/(U i).ownBlock≠(U j).ownBlock)
theorem YL.alloc{w:World}{G n:Nat}{P:Nat->List Int}{U:Nat->Value}(h:YL w G n P U)(o:Obj):YL (w.alloc o) G n P U:=⟨h.1.alloc o,fun i hi=>(h.2.1 i hi).alloc o,h.2.2⟩
theorem YL.below{w w':World}{G n:Nat}{P:Nat->List Int}{U:Nat->Value}(h:YL w G n P U)(k:Below w.heap.size w w'):YL w' G n P U:=by
 refine⟨h.1.of_block (k.block _ h.1.lt),fun i hi=>?_,h.2.2⟩;refine(h.2.1 i hi).kept (row:=none) ⟨k.os,k.tape,k.output,k.size,fun b hb _=>k.block b hb⟩ ?_;cases (U i).ownBlock<;>simp
theorem YL.congr{w:World}{G n:Nat}{P P':Nat->List Int}{U:Nat->Value}(h:YL w G n P U)(e:∀i,i<n->P i=P' i):YL w G n P' U :=
 ⟨h.1,fun i hi=>by rw[<-e i hi];exact h.2.1 i hi,h.2.2⟩
theorem YL.step{w w1:World}{G n:Nat}{P:Nat->List Int}{U:Nat->Value}(h:YL w G n P U){t:Nat}(ht:t<n)(x:Int)(v':Value)(hg:w.grownBy w1 (U t).ownBlock)
 (ho:w1.ownsRow (G+1) 2 1 v' ((P t).length+1) ((P t).map (Value.int .i64)++[.int .i64 x])) (hat:v'.ownBlock=(U t).ownBlock\/v'.ownBlock=some w.heap.size) :
 YL (w1.setCell ⟨G,t,none⟩ v') G n (fun i=>if i=t then P t++[x]else P i) (fun i=>if i=t then v' else U i):=by
 have hr:w1.rowIs G 25 n U:=h.1.of_block (hg.block _ h.1.lt (fun e=>by have:=((h.2.1 t ht).lt _ e.symm).1;omega));refine⟨hr.set t v',fun i hi=>?_,fun i j hi hj hij=>?_⟩
 ·refine ownsRow_setCell_below ?_ (by dsimp only;omega) _
  by_cases e:i=t
  ·subst e
   simp only[if_true,List.length_append,List.length_cons,List.length_nil,List.map_append,List.map_cons,List.map_nil];exact ho
  ·simp only[e,if_false]
   exact(h.2.1 i hi).kept hg (h.2.2 i t hi ht e)
 ·have fresh:∀m,m<n->(U m).ownBlock=none\/(U m).ownBlock≠some w.heap.size:=fun m hm=>by
   by_cases e:(U m).ownBlock=some w.heap.size
   ·have:=((h.2.1 m hm).lt _ e).2;omega
   ·exact Or.inr e
  by_cases e1:i=t
  ·subst e1
   have e2:¬j=i:=fun e=>hij e.symm
   simp only[if_true,e2,if_false];rcases hat with q | q
   ·rw[q];exact h.2.2 i j hi hj hij
   ·right
    rw[q];intro hh;rcases fresh j hj with f | f
    ·rw[f]at hh;cases hh
    ·exact f hh.symm
  ·simp only[e1,if_false]
   by_cases e2:j=t
   ·subst e2
    simp only[if_true];rcases hat with q | q
    ·rw[q];exact h.2.2 i j hi hj hij
    ·rw[q];exact fresh i hi
   ·simp only[e2,if_false]
    exact h.2.2 i j hi hj hij
theorem YL.ints{w:World}{G n:Nat}{P:Nat->List Int}{U:Nat->Value}(h:YL w G n P U):XM w G w.heap.size (some ⟨G,0,none⟩) ((List.range n).map P):=fun i hi=>by
 simp only[List.length_map,List.length_range]at hi;obtain⟨a,c,hv,ha⟩:=Xl (h.2.1 i hi);refine⟨G,0,rfl,⟨Nat.le_refl _,h.1.lt⟩,a,c,?_,?_⟩
 ·simp only[List.getElem_map,List.getElem_range,Nat.zero_add]
  rw[h.1.cell hi,hv]
 ·simp only[List.getElem_map,List.getElem_range]
  exact ha.mono oM (Nat.le_refl _)
theorem Tryz.info45:(Tryz.prog.info? 25).map (fun i=>(i.zero,i.size,i.bytes))=some (some (.slice none 0 0),1,24):=vZ
theorem YL.born(w:World)(n:Nat):YL (w.alloc (.cells (madeCells #[.slice none 0 0] n) 25)) w.heap.size n (fun _=>[]) (fun _=>.slice none 0 0) :=
 ⟨World.rowIs_made _ _ _ _,fun _ _=>World.ownsRow_nil _ _ _ _,fun _ _ _ _ _=>Or.inl rfl⟩
theorem UX{P:Program}(t e:TypeId)(z:Value)(size bytes:Nat)(ht:P.underlying t=some (.slice e))(hinfo:(P.info? e).map (fun i=>(i.zero,i.size,i.bytes))=some (some z,size,bytes))
 (n:Nat) (hbytes:bytes*n<=281474976710656) (h63:n<=9223372036854775807) (w:World) :
 (Instr.makeSlice t (.int .i64 (n:Int)) (.int .i64 (n:Int))).run P w=.ok (.slice (some ⟨w.heap.size,0,none⟩) n n) (w.alloc (.cells (madeCells z.cells (n*size)) e)):=by
 obtain⟨i,hi,hq⟩:=Option.map_eq_some_iff.1 hinfo;simp only[Prod.mk.injEq]at hq;obtain⟨hz,hsz,hbt⟩:=hq;have h:=run_make (P:=P) w t e i z ht hi hz .i64 .i64 (n:Int) (n:Int) oM (Int.le_refl _) (by rw[hbt,<-Int.natCast_mul];omega) oM;simp only[Int.toNat_natCast,hsz]at h;exact h
end Go.Proofs.YtlmgmkmomaileaaGreatDoor
namespace Go.Proofs.YtlmgmkmomaileaaGreatDoor
set_option maxHeartbeats 1000000
set_option maxRecDepth 100000
open Go.RowKit
def ZcQ(L xs:List Int)(i:Nat):Prop:=xs.length=L.length/\∀k (h:k<L.length),xs[k]?=some (if k<i\/L.length<=k+i then L[L.length-1-k]else L[k])
theorem ZgH(L:List Int):ZcQ L L 0:=⟨rfl,fun k h=>by rw[if_neg oM,List.getElem?_eq_getElem h]⟩
theorem Zg6{L xs:List Int}{i:Nat}(h:ZcQ L xs i)(hi:L.length<=2*i+1):xs=L.reverse:=by
 refine List.ext_getElem? (fun k=>?_);by_cases hk:k<L.length
 ·rw[h.2 k hk,List.getElem?_reverse hk,List.getElem?_eq_getElem oM]
  split
  ·rfl
  ·have e:L.length-1-k=k:=oM
   simp only[e]
 ·rw[List.getElem?_eq_none (by rw[h.1];omega),List.getElem?_eq_none (by rw[List.length_reverse];omega)]
theorem Zh3{L xs:List Int}{i:Nat}(h:ZcQ L xs i)(hi:2*i+1<L.length)(h1:i<xs.length)(h2:L.length-1-i<xs.length):ZcQ L ((xs.set i xs[L.length-1-i]).set (L.length-1-i) xs[i]) (i+1):=by
 refine⟨by rw[List.length_set,List.length_set];exact h.1,fun k hk=>?_⟩;have e1:=h.2 i oM;have e2:=h.2 (L.length-1-i) oM;rw[List.getElem?_eq_getElem h1,if_neg oM]at e1;rw[List.getElem?_eq_getElem h2,if_neg oM]at e2;injection e1 with e1;injection e2 with e2;rw[List.getElem?_set,List.length_set];by_cases c1:L.length-1-i=k
 ·subst c1
  rw[if_pos rfl,if_pos h2,if_pos oM,e1];have e:L.length-1-(L.length-1-i)=i:=oM;simp only[e]
 ·rw[if_neg c1,List.getElem?_set]
  by_cases c2:i=k
  ·subst c2
   rw[if_pos rfl,if_pos h1,if_pos oM,e2]
  ·rw[if_neg c2,h.2 k hk]
   by_cases c3:k<i\/L.length<=k+i
   ·rw[if_pos c3,if_pos oM]
   ·rw[if_neg c3,if_neg oM]
theorem ZcI(g n c B:Nat)(L:List Int)(w:World)(hn:n<=1000000)(hx:Hid (n=L.length))(ho:Hid (w.ownsRow B 2 1 (.slice (some ⟨g,0,none⟩) n c) n (L.map (Value.int .i64)))) :
 Calls Tryz.prog 139 #[.slice (some ⟨g,0,none⟩) n c] w fun e w'=>e=.returned (.tuple #[])/\w.grownBy w' (some g)/\w'.ownsRow B 2 1 (.slice (some ⟨g,0,none⟩) n c) n (L.reverse.map (Value.int .i64)):=by
 go_enter Tryz.func139,Tryz.ntmps139
 go_wp2
 go_loopw [2,3] (fun u v wr=>∃(i:Nat)(xs:List Int),u=.int .i64 i/\v=.int .i64 ((n:Int)-1-i)/\2*i<=n/\Hid (ZcQ L xs i)/\Hid (w.grownBy wr (some g))/\Hid (wr.ownsRow B 2 1 (.slice (some ⟨g,0,none⟩) n c) n (xs.map (Value.int .i64)))) (fun u _ _=>n-(intOf u).toNat)
 case atStart=>exact⟨0,L,rfl,gM,oM,Xa (ZgH L),Xa ⟨rfl,rfl,rfl,Nat.le_refl _,fun _ _ _=>rfl⟩,ho⟩
 case round =>
  obtain⟨i,xs,rfl,rfl,hi,HR,HG,HO⟩:=hrel;by_cases hlt:2*i+1<n
  ·have hl:=hx.out
   have hl2:=HR.1;obtain⟨j,hj⟩:∃j:Nat,(n:Int)-1-i=j:=⟨n-1-i,oM⟩;have hjn:j=L.length-1-i:=oM;have h1:i<xs.length:=oM;have h2:L.length-1-i<xs.length:=oM;have h2':j<xs.length:=oM;have HRS:=Xa (Zh3 HR.out oM h1 h2);have e1:=XZ HO.out (j:=i) (u:=.int .i64 xs[i]) (by simp[h1]);have e2:=XZ HO.out (j:=j) (u:=.int .i64 xs[j]) (by simp[h2']);have hz:=Zg1 HO.out;have HJ:Hid (xs[L.length-1-i]=xs[j]):=Xa (by simp only[hjn]);rw[HJ.out,<-hjn]at HRS;have hij:i<j:=oM;have hjn2:j<n:=oM;have hin:i<n:=oM;have hj1:(j:Int)-1=(n:Int)-1-(i+1:Nat):=oM;have HJ1:=Xa hj1;have hc2:∀v,(wr.setCell ⟨g,i,none⟩ v).cell? ⟨g,j,none⟩=some (.int .i64 xs[j]):=fun v=>(Va _ _ oM _).trans e2
   clear hl hl2 hjn hj1 HJ;rw[hj];generalize xs[i]=vi at *;generalize xs[j]=vj at *;go_wp2
   go_region
   go_wp2;have kk:wr.grownBy ((wr.setCell ⟨g,i,none⟩ (.int .i64 vj)).setCell ⟨g,j,none⟩ (.int .i64 vi)).drew (some g):=⟨rfl,rfl,rfl,by simp[World.setCell,World.drew],fun k _ hk=>(Below.heap_setCell _ _ _ _ (fun e=>hk (by rw[e]))).trans (Below.heap_setCell _ _ _ _ (fun e=>hk (by rw[e])))⟩;refine⟨⟨i+1,_,gM,by rw[HJ1.out],oM,HRS,Xa (HG.andThen kk (fun j hj=>by cases hj;exact Or.inr rfl)),Xa ?_⟩,by simp[intOf];omega⟩;rw[List.map_set,List.map_set];exact Zbp (Zbp HO.out _) _
  ·have HE:Hid (xs=L.reverse):=Xa (Zg6 HR.out (by have:=hx.out;omega))
   go_wp2
   go_end0
   exact⟨rfl,HG.out,by rw[<-HE.out];exact HO.out⟩
theorem ZdQ(b o n c:Nat)(vs:List Int)(L B:Nat)(w:World)(hv:Hid (Xf w L B (some ⟨b,o,none⟩) vs))(hx:Hid (n=vs.length))(hn:n<=1000000000)(hB:B<=w.heap.size) :
 Calls Tryz.prog 138 #[.slice (some ⟨b,o,none⟩) n c] w fun e w'=>∃v,e=.returned v/\Below w.heap.size w w'/\v≠.slice none 0 0/\w'.ownsRow w.heap.size 2 1 v vs.length (vs.map (Value.int .i64)):=by
 obtain⟨i0,hi0,hz0,hz1,hz2⟩:=info_parts Tryz.info2';have q22:∀(w:World)(a:Option Addr)(n c n' c':Nat),(binOp .eql 25 (.slice a n c) (.slice none n' c')).run Tryz.prog w=.ok (.bool a.isNone) w:=fun w a n c n' c'=>Lib.run_eql_slice_nil w _ _ a n c n' c' Tryz.underlying25
 go_enter Tryz.func138,Tryz.ntmps138
 go_wp2_with (at_builtin;refine wpList_plain rfl fun K hK=>Jm _ _ 25 rfl w.heap.size 2 i0 Tryz.underlying25 hi0 hz0 hz1 hz2 (.slice (some ⟨w.heap.size,0,none⟩) 0 0) [] rfl (by simpa using World.ownsRow_lit (base:=w.heap.size) (e:=2) (size:=1) w #[] 0 sP sP rfl) sP (some ⟨b,o,none⟩) n c vs L B rfl hx.out (hv.keep ((Xb (Below.refl w.heap.size w) _).mono hB)) (by simp;omega) sP ?_)
 intro v1 w1 ho1 hg1 hn1;have HB:Hid (Below w.heap.size w w1):=Xa (hg1.below (by simpa using World.ownsRow_lit (base:=w.heap.size) (e:=2) (size:=1) w #[] 0 sP sP rfl:(w.alloc (.cells #[] 2)).ownsRow w.heap.size 2 1 (.slice (some ⟨w.heap.size,0,none⟩) 0 0) 0 []) (Xb (Below.refl _ _) _) sP);have HO:=Xa ho1;have HN:=Xa hn1;clear hg1 ho1 hn1;refine hK _ _ ?_;go_wp2
 go_ret
 exact⟨_,rfl,HB.out,HN.out,HO.out⟩
def Zgt(a b:World):Prop:=a=b
theorem Zcj(n:Nat)(w:World)(hn:n<=1000000) :
 Calls Tryz.prog 151 #[.slice none 0 0,.int .i64 n] w fun e w'=>∃v,e=.returned v/\Below w.heap.size w w'/\(0<n->v≠.slice none 0 0)/\w'.ownsRow w.heap.size 2 1 v 0 []:=by
 obtain⟨i0,hi0,hz0,hz1,hz2⟩:=info_parts Tryz.info2';by_cases h0:n=0
 ·subst h0
  go_enter Tryz.func151,Tryz.ntmps151
  go_wp2
  go_ret
  exact⟨_,rfl,Below.refl _ _,fun h=>absurd h oM,World.ownsRow_nil _ _ _ _⟩
 ·have hrz:∀ty,(Builtin.append_ #[25,3] ty #[.slice none 0 0,.int .i64 (n:Int)]).run Tryz.prog w =
   .ok (.slice (some ⟨w.heap.size,0,none⟩) (0+n) (grownCap w (0+n) 0 2)) (w.drew.alloc (.cells (([]:List Value).toArray++Builtin.zeroCells (Value.int .i64 0).cells n++Builtin.zeroCells (Value.int .i64 0).cells (grownCap w (0+n) 0 2 - (0+n))) 2)):=fun ty =>
   Lib.run_append_grow_zeros w 25 3 ty 2 i0 (.int .i64 0) .i64 .i64 Tryz.underlying25 Tryz.underlying3 hi0 hz0 none 0 0 [] (run_firstCells_none w.drew i0.size 0 0 0) n oM oM oM oM (by rw[hz2];omega) (by rw[hz2];exact growslice_fits oM oM)
  have hGn:0+n<=grownCap w (0+n) 0 2:=grownCap_ge w _ _ _;have hGm:=grownCap_le_maxLen w (0+n) 0 2 (by unfold maxLen;omega);rw[Nat.zero_add]at hrz hGn hGm;have HOW:Hid (∀W:World,(W.alloc (.cells (([]:List Value).toArray++Builtin.zeroCells (Value.int .i64 0).cells n++Builtin.zeroCells (Value.int .i64 0).cells (grownCap w n 0 2 - n)) 2)).ownsRow W.heap.size 2 1 (.slice (some ⟨W.heap.size,0,none⟩) 0 (grownCap w n 0 2)) 0 []):=Xa (fun W=>World.ownsRow_made W _ _ (Nat.le_refl _) hGm (by simp[size_zeroCells,Value.cells];omega));generalize ([]:List Value).toArray++Builtin.zeroCells (Value.int .i64 0).cells n++Builtin.zeroCells (Value.int .i64 0).cells (grownCap w n 0 2 - n)=cells at *;generalize grownCap w n 0 2=G at *;unfold maxLen at hGm
  go_enter Tryz.func151,Tryz.ntmps151
  go_wp2_with (at_builtin;refine Lib.wpList_append_run _ rfl _ _ _ _ rfl _ _ rfl rfl _ _ (hrz _) ?_)
  all_goals (go_ret;exact⟨_,rfl,Xb (Below.refl _ _).drew _,fun _ h=>(by cases h),HOW.out w.drew⟩)
theorem ZcL(g n1 c1 n2 c2:Nat)(a1 a2:Option Addr)(xs ys:List Int)(L1 B1 L2 B2:Nat)(w:World)(h1:Hid (Xf w L1 B1 a1 xs))(h2:Hid (Xf w L2 B2 a2 ys))(e1:Hid (n1=xs.length))(e2:Hid (n2=ys.length))(hn1:n1<=1000)(hn2:n2<=1000)(hp:0<n1+n2)(hB1:B1<=w.heap.size)(hB2:B2<=w.heap.size)(q0:w.cell? ⟨g,0,none⟩=some (.slice a1 n1 c1))(q1:w.cell? ⟨g,1,none⟩=some (.slice a2 n2 c2)) :
 Calls Tryz.prog 140 #[.slice (some ⟨g,0,none⟩) 2 2] w fun e w'=>∃v,e=.returned v/\Below w.heap.size w w'/\w'.ownsRow w.heap.size 2 1 v (xs++ys).length ((xs++ys).map (Value.int .i64)):=by
 obtain⟨i0,hi0,hz0,hz1,hz2⟩:=info_parts Tryz.info2';have HGR:=Xa (Zcj (n1+n2) w oM)
 go_enter Tryz.func140,Tryz.ntmps140
 go_wp2_with fail
 go_loopw [3,11] (fun s u wr=>Zgt wr w/\((s=.int .i64 0/\u=.int .i64 0)\/(s=.int .i64 n1/\u=.int .i64 1)\/(s=.int .i64 ((n1+n2:Nat):Int)/\u=.int .i64 2))) (fun _ u _=>2-(intOf u).toNat)
 case atStart=>exact⟨rfl,Or.inl ⟨rfl,rfl⟩⟩
 case round =>
  obtain⟨hW,hst⟩:=hrel;unfold Zgt at hW;have hW':=hW.symm;subst hW';clear hW;rcases hst with⟨rfl,rfl⟩ | ⟨rfl,rfl⟩ | ⟨rfl,rfl⟩
  ·go_wp2_with fail
   exact⟨⟨rfl,Or.inr (Or.inl ⟨rfl,rfl⟩)⟩,by simp[intOf]⟩
  ·go_wp2_with fail
   exact⟨⟨rfl,Or.inr (Or.inr ⟨gM,rfl⟩)⟩,by simp[intOf]⟩
  ·go_wp2_with fail
   refine HGR.mono ?_;rintro e w1 ⟨v,rfl,hb,hne,ho⟩;have HB:=Xa hb;have HO:=Xa ho;have HNE:=Xa (hne hp);have hgl:g<w.heap.size:=World.block_lt_of_cell? _ _ q0;clear hb ho hne
   go_wp2_with fail
   go_loopw [6,27] (fun v u wq=>Hid (Below w.heap.size w wq)/\Hid (v≠.slice none 0 0)/\((u=.int .i64 0/\Hid (wq.ownsRow w.heap.size 2 1 v ([]:List Int).length (([]:List Int).map (Value.int .i64))))\/(u=.int .i64 1/\Hid (wq.ownsRow w.heap.size 2 1 v xs.length (xs.map (Value.int .i64))))\/(u=.int .i64 2/\Hid (wq.ownsRow w.heap.size 2 1 v (xs++ys).length ((xs++ys).map (Value.int .i64)))))) (fun _ u _=>2-(intOf u).toNat)
   case atStart=>exact⟨HB,HNE,Or.inl ⟨rfl,HO⟩⟩
   case round =>
    obtain⟨HBq,HNq,hst⟩:=hrel;have qq0:=(HBq.cell (p:=⟨g,0,none⟩) hgl).trans q0;have qq1:=(HBq.cell (p:=⟨g,1,none⟩) hgl).trans q1;have hzq:=HBq.size;have hx1:xs.length<=1000:=by have:=e1.out;omega
    have hy1:ys.length<=1000:=by have:=e2.out;omega
    rcases hst with⟨rfl,HOq⟩ | ⟨rfl,HOq⟩ | ⟨rfl,HOq⟩
    ·have HI1:=Xa (h1.keep (HBq.mono hB1))
     go_wp2_with (at_builtin;refine wpList_plain rfl fun K hK=>Jm _ _ 25 rfl w.heap.size 2 i0 Tryz.underlying25 hi0 hz0 hz1 hz2 _ [] rfl HOq.out HNq.out a1 n1 c1 xs L1 B1 rfl e1.out HI1.out (by simp;omega) oM ?_)
     intro v2 w2 ho2 hg2 hn2';have HB2:=Xa (hg2.below HOq.out HBq.out oM);have HO2:=Xa ho2;have HN2:=Xa hn2';clear ho2 hg2 hn2';refine hK _ _ ?_
     go_wp2_with fail
     exact⟨⟨HB2,HN2,Or.inr (Or.inl ⟨rfl,HO2⟩)⟩,by simp[intOf]⟩
    ·have HI2:=Xa (h2.keep (HBq.mono hB2))
     go_wp2_with (at_builtin;refine wpList_plain rfl fun K hK=>Jm _ _ 25 rfl w.heap.size 2 i0 Tryz.underlying25 hi0 hz0 hz1 hz2 _ xs rfl HOq.out HNq.out a2 n2 c2 ys L2 B2 rfl e2.out HI2.out oM oM ?_)
     intro v2 w2 ho2 hg2 hn2';have HB2:=Xa (hg2.below HOq.out HBq.out oM);have HO2:=Xa ho2;have HN2:=Xa hn2';clear ho2 hg2 hn2';refine hK _ _ ?_
     go_wp2_with fail
     exact⟨⟨HB2,HN2,Or.inr (Or.inr ⟨rfl,Xa (by rw[List.length_append,List.map_append];exact HO2.out)⟩)⟩,by simp[intOf]⟩
    ·go_wp2_with fail
     go_ret
     exact⟨_,rfl,HBq.out,HOq.out⟩
end Go.Proofs.YtlmgmkmomaileaaGreatDoor
namespace Go.Proofs.YtlmgmkmomaileaaGreatDoor
open Go.RowKit
structure FrS(w w':World)(n:Nat)(gs:Nat->Nat):Prop where
 os:w'.os=w.os
 tape:w'.tape=w.tape
 output:w'.output=w.output
 size:w.heap.size<=w'.heap.size
 block:∀k,k<w.heap.size->(∀i,i<n->k≠gs i)->w'.heap[k]?=w.heap[k]?
theorem FrS.refl(w:World)(n:Nat)(gs:Nat->Nat):FrS w w n gs:=⟨rfl,rfl,rfl,Nat.le_refl _,fun _ _ _=>rfl⟩
theorem FrS.below{w w1 w2:World}{n:Nat}{gs:Nat->Nat}(h:FrS w w1 n gs)(k:Below w1.heap.size w1 w2):FrS w w2 n gs:=⟨k.os.trans h.os,k.tape.trans h.tape,k.output.trans h.output,Nat.le_trans h.size k.size,fun j h1 h2=>(k.block j (Nat.lt_of_lt_of_le h1 h.size)).trans (h.block j h1 h2)⟩
theorem FrS.grown{w w1 w2:World}{n b:Nat}{gs:Nat->Nat}(h:FrS w w1 n gs)(k:w1.grownBy w2 (some (gs b)))(hb:b<n):FrS w w2 n gs:=⟨k.os.trans h.os,k.tape.trans h.tape,k.output.trans h.output,Nat.le_trans h.size k.size,fun j h1 h2=>(k.block j (Nat.lt_of_lt_of_le h1 h.size) (fun e=>h2 b hb (by injection e))).trans (h.block j h1 h2)⟩
def Xs(l:List Nat):List Int:=l.map Int.ofNat
theorem ZiD:XA (fun _=>0):=fun _=>(by decide:0<18446744073709551616)
end Go.Proofs.YtlmgmkmomaileaaGreatDoor
