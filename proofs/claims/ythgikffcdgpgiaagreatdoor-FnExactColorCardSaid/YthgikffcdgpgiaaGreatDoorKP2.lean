import Derived.Test.YthgikffcdgpgiaaGreatDoorMQ4
import Derived.Test.YthgikffcdgpgiaaGreatDoorCH1
import Derived.Test.YthgikffcdgpgiaaGreatDoorMK2
namespace Go.Proofs.YthgikffcdgpgiaaGreatDoor
open Go.RowKit
structure FrM (M:Nat→Prop) (U U':World):Prop where
 os:U'.os=U.os
 tape:U'.tape=U.tape
 output:U'.output=U.output
 size:U.heap.size≤U'.heap.size
 fr:∀q,q<U.heap.size→¬M q→U'.heap[q]?=U.heap[q]?
theorem FrM.refl (M:Nat→Prop) (U:World):FrM M U U:=⟨rfl,rfl,rfl,Nat.le_refl _,fun _ _ _=>rfl⟩
theorem FrM.trans {M:Nat→Prop} {A B C:World} (h:FrM M A B) (k:FrM M B C):FrM M A C :=
 ⟨k.os.trans h.os,k.tape.trans h.tape,k.output.trans h.output,Nat.le_trans h.size k.size,fun q h1 h2=>(k.fr q (Nat.lt_of_lt_of_le h1 h.size) h2).trans (h.fr q h1 h2)⟩
theorem FrM.of_below {M:Nat→Prop} {A B:World} (h:Below A.heap.size A B):FrM M A B:=⟨h.os,h.tape,h.output,h.size,fun q h1 _=>h.block q h1⟩
theorem FrM.of_grown {M:Nat→Prop} {A B:World} {g:Nat} (h:A.grownBy B (some g)) (hg:M g):FrM M A B:=⟨h.os,h.tape,h.output,h.size,fun q h1 h2=>h.block q h1 (fun e=>h2 (by injection e with e;rw [e];exact hg))⟩
theorem FrM.set {M:Nat→Prop} (A:World) (p:Addr) (v:Value) (hg:M p.block):FrM M A (A.setCell p v):=⟨rfl,rfl,rfl,by simp [World.setCell],fun q _ h2=>Below.heap_setCell _ _ _ _ (fun e=>h2 (by rw [e];exact hg))⟩
theorem FrM.cell {M:Nat→Prop} {A B:World} (h:FrM M A B) {p:Addr} {v:Value} (hp:¬M p.block) (hc:A.cell? p=some v):B.cell? p=some v:=(World.cell?_of_block (h.fr _ (World.block_lt_of_cell? A _ hc) hp)).trans hc
structure CoM (V cap gp go bo bp bc bv:Nat) (C:Nat→Int) (U:World):Prop where
 row:IaAt U gp V cap C
 out:IaAt U go V V (fun u=>if C u=-1 then 0 else C u)
 box:U.rowIs bo 28 3 (trG (.int .i64 0) (.slice (some ⟨go,0,none⟩) V V) (.int .i64 (ckN C V)))
 pick:U.cell? ⟨bp,0,none⟩=some (.func (.func 57) #[] #[.pointer (some ⟨bc,0,none⟩),.pointer (some ⟨bv,0,none⟩)])
 cc:U.cell? ⟨bc,0,none⟩=some (.slice (some ⟨gp,0,none⟩) V cap)
 cv:U.cell? ⟨bv,0,none⟩=some (.int .i64 (V:Int))
 rng:∀u,u<V→C u=-1∨0≤C u∧C u<V
 n1:gp≠go
 n2:bo≠gp∧bo≠go
 n3:bp≠gp∧bp≠go∧bp≠bo
 n4:bc≠gp∧bc≠go∧bc≠bo
 n5:bv≠gp∧bv≠go∧bv≠bo
def CoS (gp go bo q:Nat):Prop:=q=gp∨q=go∨q=bo
theorem CoM.far {V cap gp go bo bp bc bv:Nat} {C:Nat→Int} {U U':World} (h:CoM V cap gp go bo bp bc bv C U) (k:Below U.heap.size U U'):CoM V cap gp go bo bp bc bv C U' :=
 ⟨h.row.of_block (k.block _ h.row.lt),h.out.of_block (k.block _ h.out.lt),h.box.of_block (k.block _ h.box.lt),(k.cell (p:=⟨bp,0,none⟩) (World.block_lt_of_cell? U _ h.pick)).trans h.pick,(k.cell (p:=⟨bc,0,none⟩) (World.block_lt_of_cell? U _ h.cc)).trans h.cc,(k.cell (p:=⟨bv,0,none⟩) (World.block_lt_of_cell? U _ h.cv)).trans h.cv,h.rng,h.n1,h.n2,h.n3,h.n4,h.n5⟩
set_option maxHeartbeats 2000000 in
set_option maxRecDepth 100000 in
theorem co_step (v V z Kw Cp cap gp go bo bp bc bv:Nat) (W:Nat→Nat) (C:Nat→Int) (w:World) (hz:Hid (WsAt w z Kw Cp W)) (hwd:Hid (WdOk W)) (hT:Hid (TzTab w)) (hK:Kw≤100) (hlt:Hid (LtV V Kw W)) (hV:V≤2000) (hC:Hid (CoM V cap gp go bo bp bc bv C w)) (hv:v<V) (hn:Hid (C v=-1)) :
  Calls Tryz.prog 28 #[.int .i64 (v:Int),.agg #[.slice (some ⟨z,0,none⟩) Kw Cp],.pointer (some ⟨bp,0,none⟩),.pointer (some ⟨bo,0,none⟩)] w fun e w'=>e=.returned (.tuple #[])∧FrM (CoS gp go bo) w w'∧CoM V cap gp go bo bp bc bv (ckS C (v,lsN W (64*Kw))) w':=by
 have HP:=hide (fun U (hb:Below w.heap.size w U)=>pick_any v V z Kw Cp cap gp bc bv W C U (hide (hz.out.of_block (hb.block z hz.out.lt))) hwd (hide (hT.out.of_block (hb.block _ (World.block_lt_of_cell? w _ (hT.out 0 (by decide)))))) hK hlt hV (hide (hC.out.far hb).row) (hide hC.out.rng) hv hn (hC.out.far hb).cc (hC.out.far hb).cv hC.out.n4.1)
 have eg:∀args w,(callFunc 57 args).run Tryz.prog w=.ok (.enter 57 args) w:=enters_of Tryz.func57 (by kernel_rfl) rfl
 have c1:=hC.out.pick
 have l1:=World.block_lt_of_cell? w _ c1
 have HSL:Hid (smN C (lsN W (64*Kw))<V):=hide (low_lt (smN_is C _).low (ls_lt hlt.out) hv hn.out)
 have HRG:Hid (∀u,u<V→ckS C (v,lsN W (64*Kw)) u=-1∨0≤ckS C (v,lsN W (64*Kw)) u∧ckS C (v,lsN W (64*Kw)) u<V):=hide (fun u hu=>by
  unfold ckS
  by_cases e:u=v
  ·rw [if_pos e]
   right
   have:=HSL.out
   show 0≤((smN C (lsN W (64*Kw)):Nat):Int)∧((smN C (lsN W (64*Kw)):Nat):Int)<V
   omega
  ·rw [if_neg e];exact hC.out.rng u hu)
 have HOU:Hid (∀u,(fun u=>if u=v then (smN C (lsN W (64*Kw)):Int) else (if C u=-1 then 0 else C u)) u=(fun u=>if ckS C (v,lsN W (64*Kw)) u=-1 then 0 else ckS C (v,lsN W (64*Kw)) u) u):=hide (fun u=>by
  unfold ckS
  by_cases e:u=v
  ·simp only [e,if_true]
   rw [if_neg (by omega)]
  ·simp only [e,if_false])
 have HNN:Hid (ckN (ckS C (v,lsN W (64*Kw))) V=max (ckN C V) ((smN C (lsN W (64*Kw)):Int)+1)):=hide (ckN_put (C:=C) (v:=v) hn.out V hv)
 generalize ckS C (v,lsN W (64*Kw))=C' at *
 generalize smN C (lsN W (64*Kw))=sm at *
 have hsm:=HSL.out
 have hwc:IntKind.i64.wrap ((sm:Int)+1)=(sm:Int)+1:=by rw [IntKind.wrap_i64];omega
 have hne:=hC.out.n2
 have hgl:=hC.out.row.lt
 have hol:=hC.out.out.lt
 have hbl:=hC.out.box.lt
 go_enter Tryz.func28,Tryz.ntmps28
 go_wp2_with fail
 have hb0:Below w.heap.size w (w.alloc (.cells #[.slice (some ⟨z,0,none⟩) Kw Cp] 75)):=balloc (Below.refl _ _) _
 have HM0:=hide (hC.out.far hb0)
 generalize w.alloc (.cells #[.slice (some ⟨z,0,none⟩) Kw Cp] 75)=w0 at *
 refine (HP.out _ hb0).mono ?_
 rintro e w1 ⟨rfl,hg1,hr1⟩
 have HF1:Hid (FrM (CoS gp go bo) w w1):=hide ((FrM.of_below hb0).trans (FrM.of_grown hg1 (Or.inl rfl)))
 have HR1:=hide hr1
 have HBX:=hide (HM0.out.box.of_block (hg1.block bo HM0.out.box.lt (fun e=>hne.1 (by injection e))))
 have HOT:=hide (HM0.out.out.of_block (hg1.block go HM0.out.out.lt (fun e=>hC.out.n1 (by injection e with e;exact e.symm))))
 clear HM0 hb0 hg1 hr1 HP c1 l1
 have q1:=HBX.out.cell (i:=1) (by decide)
 have q2:=HBX.out.cell (i:=2) (by decide)
 have qf:=HBX.out.frozen 2
 have y1:=HOT.out.cell hv
 have yf:=HOT.out.frozen v
 simp only [trG] at q1 q2
 have hvi:(v:Int)<(V:Int):=by omega
 have s2:(w1.setCell ⟨go,v,none⟩ (.int .i64 (sm:Int))).cell? ⟨bo,2,none⟩=some (.int .i64 (ckN C V)):=(World.cell?_setCell_far w1 ⟨go,v,none⟩ ⟨bo,2,none⟩ _ (by show go≠bo;exact fun e=>hne.2 e.symm)).trans q2
 have HB2:=hide (HBX.out.setOther (a:=⟨go,v,none⟩) (by show bo≠go;exact hne.2) (.int .i64 (sm:Int)))
 have HO2:=hide ((HOT.out.set v (sm:Int) hv).congr (fun u _=>HOU.out u))
 have HR2:=hide (HR1.out.setOther (a:=⟨go,v,none⟩) (by show gp≠go;exact hC.out.n1) (.int .i64 (sm:Int)))
 have HF2:Hid (FrM (CoS gp go bo) w (w1.setCell ⟨go,v,none⟩ (.int .i64 (sm:Int)))):=hide (HF1.out.trans (FrM.set _ _ _ (Or.inr (Or.inl rfl))))
 have qf2:=HB2.out.frozen 2
 generalize ckN C V=kc at *
 go_wp2_with fail
 go_end0
 refine ⟨rfl,HF2.out.trans (FrM.set _ _ _ (Or.inr (Or.inr rfl))),?_⟩
 have hF:=HF2.out.trans (FrM.set (M:=CoS gp go bo) (w1.setCell ⟨go,v,none⟩ (.int .i64 (sm:Int))) ⟨bo,2,none⟩ (.int .i64 (max kc ((sm:Int)+1))) (Or.inr (Or.inr rfl)))
 have nS:∀b,b≠gp∧b≠go∧b≠bo→¬CoS gp go bo b:=fun b h k=>by
  rcases k with k | k | k
  ·exact h.1 k
  ·exact h.2.1 k
  ·exact h.2.2 k
 refine ⟨HR2.out.setOther (by show gp≠bo;exact fun e=>hne.1 e.symm) _,HO2.out.setOther (by show go≠bo;exact fun e=>hne.2 e.symm) _,(HB2.out.set 2 _).congr (fun i hi=>?_),hF.cell (nS _ hC.out.n3) hC.out.pick,hF.cell (nS _ hC.out.n4) hC.out.cc,hF.cell (nS _ hC.out.n5) hC.out.cv,HRG.out,hC.out.n1,hC.out.n2,hC.out.n3,hC.out.n4,hC.out.n5⟩
 rw [HNN.out]
 match i,hi with
 | 0,_=>rfl
 | 1,_=>rfl
 | 2,_=>rfl
set_option maxHeartbeats 1000000 in
set_option maxRecDepth 100000 in
theorem picker_any (V:Nat) (w:World) (hV:V≤2000) :
  Calls Tryz.prog 26 #[.int .i64 (V:Int)] w fun e w'=>∃bc bv gp,e=.returned (.func (.func 57) #[] #[.pointer (some ⟨bc,0,none⟩),.pointer (some ⟨bv,0,none⟩)])∧Below w.heap.size w w'∧w.heap.size≤gp∧w.heap.size≤bc∧w.heap.size≤bv∧bc≠gp∧bv≠gp∧IaAt w' gp V V (fun _=>-1)∧w'.cell? ⟨bc,0,none⟩=some (.slice (some ⟨gp,0,none⟩) V V)∧w'.cell? ⟨bv,0,none⟩=some (.int .i64 (V:Int)):=by
 go_enter Tryz.func26,Tryz.ntmps26
 go_wp2_with fail
 have hb0:Below w.heap.size w ((w.alloc (.cells #[.int .i64 (V:Int)] 2)).alloc (.cells #[.int .i64 (-1)] 2)):=balloc (balloc (Below.refl _ _) _) _
 have hs0:((w.alloc (.cells #[.int .i64 (V:Int)] 2)).alloc (.cells #[.int .i64 (-1)] 2)).heap.size=w.heap.size+2:=by simp
 have c0:((w.alloc (.cells #[.int .i64 (V:Int)] 2)).alloc (.cells #[.int .i64 (-1)] 2)).cell? ⟨w.heap.size,0,none⟩=some (.int .i64 (V:Int)):=by simp [go_sem]
 have c1:((w.alloc (.cells #[.int .i64 (V:Int)] 2)).alloc (.cells #[.int .i64 (-1)] 2)).cell? ⟨w.heap.size+1,0,none⟩=some (.int .i64 (-1)):=by simp [go_sem]
 refine (repeat_two (w.heap.size+1) V _ hV c1 (by simp)).mono ?_
 rintro e w1 ⟨g,rfl,hg,hb1,hr1⟩
 rw [hs0] at hg
 have HB1:=hide (bnext hb0 hb1)
 have HR1:=hide hr1
 have k0:=(cTr hb1 (by omega)).trans c0
 have hs1:w.heap.size+2≤w1.heap.size:=by have:=hb1.size;omega
 have hgl:=hr1.lt
 clear hb0 hb1 c0 c1 hr1 hs0
 go_wp2_with fail
 go_ret
 exact ⟨w1.heap.size,w.heap.size,g,rfl,balloc HB1.out _,by omega,by omega,Nat.le_refl _,by omega,by omega,IaAt.of_row (HR1.out.alloc _),by simp [go_sem],(World.cell?_alloc_lt _ _ _ (by show w.heap.size<_;omega)).trans k0⟩
end Go.Proofs.YthgikffcdgpgiaaGreatDoor
