import Derived.Test.YthgikffcdgpgiaaGreatDoorCH1
import Derived.Test.YthgikffcdgpgiaaGreatDoorMQ4
import Derived.Test.YthgikffcdgpgiaaGreatDoorMQ2
import Derived.Test.YthgikffcdgpgiaaGreatDoorMB1
import Derived.Test.YthgikffcdgpgiaaGreatDoorMA1
import Derived.Deep.RegionHeld3
import Derived.Deep.MidRow
namespace Go.Proofs.YthgikffcdgpgiaaGreatDoor
open Go.RowKit
noncomputable def col14:Code:=(Tryz.f6.body.bind (findRegion 14)).getD .skip
noncomputable def col19:Code:=(Tryz.f6.body.bind (findRegion 19)).getD .skip
noncomputable def col24:Code:=(Tryz.f6.body.bind (findRegion 24)).getD .skip
set_option maxHeartbeats 4000000 in
set_option maxRecDepth 1000000 in
theorem reg14 (bf b4 o4 m cc4 k b bb oo n c np pc ni ic:Nat) (pa ia:Option Addr) (t0 t1 t2 t3:Int) (wr:World) (Q:Exit→Act→World→Prop) (c0 c2 c3 c4 c5 c7 c9 c10 c11 c12 c13 c14 c15 c16 c17 c18 c19 c20 c21 c22 c23 c24 c25 c26 c27 c28 c29 c30 c31 c32 c33 c34 c35 c36 c37 c38 c39 c40 c41 c42 c43 c44 c45 c46 c47 c48 c49 c50 c51 c52 c53 c54 c55 c56 c57 c58 c59 c60 c61 c62 c63 c64 c65 c66 c67 c68 c69 c70 c71 c72 c73 c74 c75 c76 c77 c78 c79 c80 c81 c82 c83 c84 c85 c86 c87 c88 c89 c90 c91 c92 c93 c94 c95 c96 c97 c98 c99 c100 c101 c102 c103 c104 c105 c106 c107 c108 c109 c110 c111 c112 c113 c114 c115 c116 c117 c118 c119 c120 c121 c122 c123 c124 c125 c126 c127 c128 c129:Value)
  (hQ:Hid (∀c (a:Act) t v w,Q (.panic c) (a.put (some t) v) w→Q (.panic c) a w))
  (f4:wr.cell? ⟨b4,o4+k,none⟩=some (.int .i64 (b:Int))) (h1:wr.cell? ⟨bf,1,none⟩=some (.slice (some ⟨bb,oo,none⟩) n c)) (g0:wr.cell? ⟨bb,oo+b*6,none⟩=some (.slice pa np pc)) (g1:wr.cell? ⟨bb,oo+b*6+1,none⟩=some (.slice ia ni ic)) (g2:wr.cell? ⟨bb,oo+b*6+2,none⟩=some (.int .i64 t0)) (g3:wr.cell? ⟨bb,oo+b*6+3,none⟩=some (.int .i64 t1)) (g4:wr.cell? ⟨bb,oo+b*6+4,none⟩=some (.int .i64 t2)) (g5:wr.cell? ⟨bb,oo+b*6+5,none⟩=some (.int .i64 t3))
  (hkm:k<m) (hbn:b<n)
  (hN:Hid (∀(d42 d43 d44 d45 d46 d47 d48 d49:Value) (W6:World),Below wr.heap.size wr W6→W6.rowIs wr.heap.size 57 6 (boxG (.slice pa np pc) (.slice ia ni ic) (.int .i64 t0) (.int .i64 t1) (.int .i64 t2) (.int .i64 t3))→Q .normal ⟨#[c0,.pointer (some ⟨bf,0,none⟩),c2,c3,c4,c5,.slice (some ⟨b4,o4,none⟩) m cc4,c7,.int .i64 (k:Int),.pointer (some ⟨wr.heap.size,0,none⟩),c10,c11,c12,c13,c14,c15,c16,c17,c18,c19,c20,c21,c22,c23,c24,c25,c26,c27,c28,c29,c30,c31,c32,c33,c34,c35,c36,c37,c38,c39,c40,c41,d42,d43,d44,d45,d46,d47,d48,d49,c50,c51,c52,c53,c54,c55,c56,c57,c58,c59,c60,c61,c62,c63,c64,c65,c66,c67,c68,c69,c70,c71,c72,c73,c74,c75,c76,c77,c78,c79,c80,c81,c82,c83,c84,c85,c86,c87,c88,c89,c90,c91,c92,c93,c94,c95,c96,c97,c98,c99,c100,c101,c102,c103,c104,c105,c106,c107,c108,c109,c110,c111,c112,c113,c114,c115,c116,c117,c118,c119,c120,c121,c122,c123,c124,c125,c126,c127,c128,c129],[]⟩ W6)) :
  Code.wp Tryz.prog col14 Q ⟨#[c0,.pointer (some ⟨bf,0,none⟩),c2,c3,c4,c5,.slice (some ⟨b4,o4,none⟩) m cc4,c7,.int .i64 (k:Int),c9,c10,c11,c12,c13,c14,c15,c16,c17,c18,c19,c20,c21,c22,c23,c24,c25,c26,c27,c28,c29,c30,c31,c32,c33,c34,c35,c36,c37,c38,c39,c40,c41,c42,c43,c44,c45,c46,c47,c48,c49,c50,c51,c52,c53,c54,c55,c56,c57,c58,c59,c60,c61,c62,c63,c64,c65,c66,c67,c68,c69,c70,c71,c72,c73,c74,c75,c76,c77,c78,c79,c80,c81,c82,c83,c84,c85,c86,c87,c88,c89,c90,c91,c92,c93,c94,c95,c96,c97,c98,c99,c100,c101,c102,c103,c104,c105,c106,c107,c108,c109,c110,c111,c112,c113,c114,c115,c116,c117,c118,c119,c120,c121,c122,c123,c124,c125,c126,c127,c128,c129],[]⟩ wr:=by
 conv=>arg 2;whnf
 have hki:(k:Int)<(m:Int):=by omega
 have hbi:(b:Int)<(n:Int):=by omega
 refine wp_region_held_drew (S:=(fun w'=>w'.cell? ⟨b4,o4+k,none⟩=some (.int .i64 (b:Int))∧w'.cell? ⟨bf,1,none⟩=some (.slice (some ⟨bb,oo,none⟩) n c)∧w'.cell? ⟨bb,oo+b*6,none⟩=some (.slice pa np pc)∧w'.cell? ⟨bb,oo+b*6+1,none⟩=some (.slice ia ni ic)∧w'.cell? ⟨bb,oo+b*6+2,none⟩=some (.int .i64 t0)∧w'.cell? ⟨bb,oo+b*6+3,none⟩=some (.int .i64 t1)∧w'.cell? ⟨bb,oo+b*6+4,none⟩=some (.int .i64 t2)∧w'.cell? ⟨bb,oo+b*6+5,none⟩=some (.int .i64 t3))) (by kernel_rfl) (by (try dsimp only);go_keep) (fun hHeld=>?_)
 refine tkQ 0 rfl (v:=?_) (fun _ _ _ h=>hQ.out _ _ _ _ _ h) ?_
 simp only [Act.put,xA,xB,xD,xE,xF]
 refine tkQ 1 rfl (v:=?_) (fun _ _ _ h=>hQ.out _ _ _ _ _ h) ?_
 simp only [Act.put,xA,xB,xC,xD,xE,xF]
 refine tkQ 2 rfl (v:=?_) (fun _ _ _ h=>hQ.out _ _ _ _ _ h) ?_
 simp only [Act.put,xA,xB,xC,xD,xE,xF]
 refine tkQ 3 rfl (v:=?_) (fun _ _ _ h=>hQ.out _ _ _ _ _ h) ?_
 simp only [Act.put,xA,xB,xC,xD,xE,xF]
 refine tkQ 4 rfl (v:=?_) (fun _ _ _ h=>hQ.out _ _ _ _ _ h) ?_
 simp only [Act.put,xA,xB,xC,xD,xE,xF]
 refine tkQ 5 rfl (v:=?_) (fun _ _ _ h=>hQ.out _ _ _ _ _ h) ?_
 simp only [Act.put,xA,xB,xC,xD,xE,xF]
 refine tkQ 6 rfl (v:=?_) (fun _ _ _ h=>hQ.out _ _ _ _ _ h) ?_
 simp only [Act.put,xA,xB,xC,xD,xE,xF]
 refine tkQ 7 rfl (v:=?_) (fun _ _ _ h=>hQ.out _ _ _ _ _ h) ?_
 simp only [Act.put,xA,xB,xC,xD,xE,xF]
 refine wpAnyH_ready (rs:=[8]) (by kernel_rfl) (by simp) ?_
 refine AllReadyH.cons rfl (fun K hK=>?_) AllReadyH.nil
 go_simp
 have hbA:Below wr.heap.size wr (wr.alloc (.cells #[.slice none 0 0,.slice none 0 0,.int .i64 0,.int .i64 0,.int .i64 0,.int .i64 0] 57)).drew:=(balloc (Below.refl _ _) _).drew
 have BX:Hid ((wr.alloc (.cells #[.slice none 0 0,.slice none 0 0,.int .i64 0,.int .i64 0,.int .i64 0,.int .i64 0] 57)).drew.rowIs wr.heap.size 57 6 (boxG (.slice none 0 0) (.slice none 0 0) (.int .i64 0) (.int .i64 0) (.int .i64 0) (.int .i64 0))):=hide (World.rowIs.drew (World.rowIs_alloc wr #[.slice none 0 0,.slice none 0 0,.int .i64 0,.int .i64 0,.int .i64 0,.int .i64 0] 57 _ (fun i hi=>by match i,hi with | 0,_=>rfl | 1,_=>rfl | 2,_=>rfl | 3,_=>rfl | 4,_=>rfl | 5,_=>rfl)))
 generalize (wr.alloc (.cells #[.slice none 0 0,.slice none 0 0,.int .i64 0,.int .i64 0,.int .i64 0,.int .i64 0] 57)).drew=W1 at *
 have HBA:=hide hbA
 have HSW:Hid (∀W,Below wr.heap.size wr W→W.cell? ⟨b4,o4+k,none⟩=some (.int .i64 (b:Int))∧W.cell? ⟨bf,1,none⟩=some (.slice (some ⟨bb,oo,none⟩) n c)∧W.cell? ⟨bb,oo+b*6,none⟩=some (.slice pa np pc)∧W.cell? ⟨bb,oo+b*6+1,none⟩=some (.slice ia ni ic)∧W.cell? ⟨bb,oo+b*6+2,none⟩=some (.int .i64 t0)∧W.cell? ⟨bb,oo+b*6+3,none⟩=some (.int .i64 t1)∧W.cell? ⟨bb,oo+b*6+4,none⟩=some (.int .i64 t2)∧W.cell? ⟨bb,oo+b*6+5,none⟩=some (.int .i64 t3)):=hide (fun W hW=>by
  have kk:∀(b' o':Nat) (v:Value),wr.cell? ⟨b',o',none⟩=some v→W.cell? ⟨b',o',none⟩=some v:=fun b' o' v h=>(hW.cell (p:=⟨b',o',none⟩) (World.block_lt_of_cell? wr _ h)).trans h
  exact ⟨kk _ _ _ f4,kk _ _ _ h1,kk _ _ _ g0,kk _ _ _ g1,kk _ _ _ g2,kk _ _ _ g3,kk _ _ _ g4,kk _ _ _ g5⟩)
 refine hK.out _ _ (HSW.out W1 hbA) (fun hHeld=>?_)
 clear hK hbA
 try simp only [Act.put,xA,xB,xC,xD,xE,xF]
 refine wpAnyH_ready (rs:=[9]) (by kernel_rfl) (by simp) ?_
 refine AllReadyH.cons rfl (fun K hK=>?_) AllReadyH.nil
 have lc0:=BX.out.cell (i:=0) (by decide)
 have lc1:=BX.out.cell (i:=1) (by decide)
 have lc2:=BX.out.cell (i:=2) (by decide)
 have lc3:=BX.out.cell (i:=3) (by decide)
 have lc4:=BX.out.cell (i:=4) (by decide)
 have lc5:=BX.out.cell (i:=5) (by decide)
 have lz:=BX.out.frozen
 have hsc:∀(W:World) (i j:Nat) (u:Value),i≠j→(W.setCell ⟨wr.heap.size,i,none⟩ u).cell? ⟨wr.heap.size,j,none⟩=W.cell? ⟨wr.heap.size,j,none⟩:=fun W i j u h=>World.cell?_setCell_other _ _ _ _ (fun e=>h (congrArg Addr.off e))
 go_simp
 clear lc0 lc1 lc2 lc3 lc4 lc5 lz hsc
 have hb6:Below wr.heap.size wr ((((((W1.setCell ⟨wr.heap.size,0,none⟩ (.slice pa np pc)).setCell ⟨wr.heap.size,1,none⟩ (.slice ia ni ic)).setCell ⟨wr.heap.size,2,none⟩ (.int .i64 t0)).setCell ⟨wr.heap.size,3,none⟩ (.int .i64 t1)).setCell ⟨wr.heap.size,4,none⟩ (.int .i64 t2)).setCell ⟨wr.heap.size,5,none⟩ (.int .i64 t3)):=((((((HBA.out.setCell (Nat.le_refl _) _).setCell (Nat.le_refl _) _).setCell (Nat.le_refl _) _).setCell (Nat.le_refl _) _).setCell (Nat.le_refl _) _).setCell (Nat.le_refl _) _)
 have BX6:Hid (((((((W1.setCell ⟨wr.heap.size,0,none⟩ (.slice pa np pc)).setCell ⟨wr.heap.size,1,none⟩ (.slice ia ni ic)).setCell ⟨wr.heap.size,2,none⟩ (.int .i64 t0)).setCell ⟨wr.heap.size,3,none⟩ (.int .i64 t1)).setCell ⟨wr.heap.size,4,none⟩ (.int .i64 t2)).setCell ⟨wr.heap.size,5,none⟩ (.int .i64 t3)).rowIs wr.heap.size 57 6 (boxG (.slice pa np pc) (.slice ia ni ic) (.int .i64 t0) (.int .i64 t1) (.int .i64 t2) (.int .i64 t3))):=hide (((((((BX.out.set 0 _).set 1 _).set 2 _).set 3 _).set 4 _).set 5 _).congr (fun i hi=>by match i,hi with | 0,_=>rfl | 1,_=>rfl | 2,_=>rfl | 3,_=>rfl | 4,_=>rfl | 5,_=>rfl))
 generalize ((((((W1.setCell ⟨wr.heap.size,0,none⟩ (.slice pa np pc)).setCell ⟨wr.heap.size,1,none⟩ (.slice ia ni ic)).setCell ⟨wr.heap.size,2,none⟩ (.int .i64 t0)).setCell ⟨wr.heap.size,3,none⟩ (.int .i64 t1)).setCell ⟨wr.heap.size,4,none⟩ (.int .i64 t2)).setCell ⟨wr.heap.size,5,none⟩ (.int .i64 t3))=W6 at *
 refine hK.out _ _ (HSW.out W6 hb6) (fun hHeld=>?_)
 clear hK
 try simp only [Act.put,xA,xB,xC,xD,xE,xF]
 refine wpAnyH_done (by kernel_rfl) ?_ _
 exact hN.out _ _ _ _ _ _ _ _ _ hb6 BX6.out
set_option maxHeartbeats 4000000 in
set_option maxRecDepth 1000000 in
theorem reg19 (q cap g d j ni ns bx ib io ic Gb ln cl sm:Nat) (x:Int) (al:Option Addr) (w5:World) (Q:Exit→Act→World→Prop) (c0 c1 c2 c3 c5 c6 c7 c8 c12 c13 c14 c15 c16 c17 c18 c19 c20 c21 c22 c23 c24 c25 c26 c27 c28 c29 c30 c31 c32 c33 c34 c35 c36 c37 c38 c39 c40 c41 c42 c43 c44 c45 c46 c47 c48 c49 c50 c51 c52 c53 c54 c55 c56 c57 c58 c59 c60 c61 c62 c63 c64 c65 c66 c67 c68 c69 c70 c71 c72 c73 c74 c75 c76 c77 c78 c79 c80 c81 c82 c83 c84 c85 c86 c87 c88 c89 c90 c91 c92 c93 c94 c95 c96 c97 c98 c99 c100 c101 c102 c103 c104 c105 c106 c107 c108 c109 c110 c111 c112 c113 c114 c115 c116 c117 c118 c119 c120 c121 c122 c123 c124 c125 c126 c127 c128 c129:Value)
  (hQ:Hid (∀c (a:Act) t v w,Q (.panic c) (a.put (some t) v) w→Q (.panic c) a w))
  (x1:w5.cell? ⟨bx,0,none⟩=some (.slice (some ⟨ib,io,none⟩) ni ic)) (y0:w5.cell? ⟨ib,io+j*2,none⟩=some (.int .i64 (d:Int))) (y1:w5.cell? ⟨Gb,0,none⟩=some (.slice al ln cl)) (yg:w5.cell? ⟨g,d,none⟩=some (.int .i64 x)) (yf:w5.frozen? ⟨g,d,none⟩=false)
  (hbg:bx≠g) (hig:ib≠g) (hGg:Gb≠g) (hj:j<ni) (hd:d<q)
  (HSM:Hid (Calls Tryz.prog 22 #[.slice (some ⟨g,0,none⟩) q cap,.slice al ln cl] w5.drew fun e w'=>e=.returned (.int .i64 (sm:Int))∧w'=w5.drew))
  (hN:Hid (∀(d65 d66 d67 d68 d69 d70 d71 d72 d73 d74 d75 d76 d77 d78:Value),Q .normal ⟨#[c0,c1,c2,c3,.slice (some ⟨g,0,none⟩) q cap,c5,c6,c7,c8,.pointer (some ⟨bx,0,none⟩),.slice (some ⟨Gb,0,none⟩) (ns+1) (ns+1),.int .i64 (j:Int),c12,c13,c14,c15,c16,c17,c18,c19,c20,c21,c22,c23,c24,c25,c26,c27,c28,c29,c30,c31,c32,c33,c34,c35,c36,c37,c38,c39,c40,c41,c42,c43,c44,c45,c46,c47,c48,c49,c50,c51,c52,c53,c54,c55,c56,c57,c58,c59,c60,c61,c62,c63,c64,d65,d66,d67,d68,d69,d70,d71,d72,d73,d74,d75,d76,d77,d78,c79,c80,c81,c82,c83,c84,c85,c86,c87,c88,c89,c90,c91,c92,c93,c94,c95,c96,c97,c98,c99,c100,c101,c102,c103,c104,c105,c106,c107,c108,c109,c110,c111,c112,c113,c114,c115,c116,c117,c118,c119,c120,c121,c122,c123,c124,c125,c126,c127,c128,c129],[]⟩ (w5.drew.setCell ⟨g,d,none⟩ (.int .i64 (sm:Int))))) :
  Code.wp Tryz.prog col19 Q ⟨#[c0,c1,c2,c3,.slice (some ⟨g,0,none⟩) q cap,c5,c6,c7,c8,.pointer (some ⟨bx,0,none⟩),.slice (some ⟨Gb,0,none⟩) (ns+1) (ns+1),.int .i64 (j:Int),c12,c13,c14,c15,c16,c17,c18,c19,c20,c21,c22,c23,c24,c25,c26,c27,c28,c29,c30,c31,c32,c33,c34,c35,c36,c37,c38,c39,c40,c41,c42,c43,c44,c45,c46,c47,c48,c49,c50,c51,c52,c53,c54,c55,c56,c57,c58,c59,c60,c61,c62,c63,c64,c65,c66,c67,c68,c69,c70,c71,c72,c73,c74,c75,c76,c77,c78,c79,c80,c81,c82,c83,c84,c85,c86,c87,c88,c89,c90,c91,c92,c93,c94,c95,c96,c97,c98,c99,c100,c101,c102,c103,c104,c105,c106,c107,c108,c109,c110,c111,c112,c113,c114,c115,c116,c117,c118,c119,c120,c121,c122,c123,c124,c125,c126,c127,c128,c129],[]⟩ w5:=by
 conv=>arg 2;whnf
 have hji:(j:Int)<(ni:Int):=by omega
 have hdi:(d:Int)<(q:Int):=by omega
 refine wp_region_held_drew (S:=(fun w'=>w'.cell? ⟨bx,0,none⟩=some (.slice (some ⟨ib,io,none⟩) ni ic)∧w'.cell? ⟨ib,io+j*2,none⟩=some (.int .i64 (d:Int))∧w'.cell? ⟨Gb,0,none⟩=some (.slice al ln cl))) (by kernel_rfl) (by (try dsimp only);go_keep) (fun hHeld=>?_)
 refine tkQ 0 rfl (v:=?_) (fun _ _ _ h=>hQ.out _ _ _ _ _ h) ?_
 simp only [Act.put,xA,xB,xD,xE,xF]
 refine tkQ 1 rfl (v:=?_) (fun _ _ _ h=>hQ.out _ _ _ _ _ h) ?_
 simp only [Act.put,xA,xB,xC,xD,xE,xF]
 refine tkQ 2 rfl (v:=?_) (fun _ _ _ h=>hQ.out _ _ _ _ _ h) ?_
 simp only [Act.put,xA,xB,xC,xD,xE,xF]
 refine tkQ 3 rfl (v:=?_) (fun _ _ _ h=>hQ.out _ _ _ _ _ h) ?_
 simp only [Act.put,xA,xB,xC,xD,xE,xF]
 refine tkQ 4 rfl (v:=?_) (fun _ _ _ h=>hQ.out _ _ _ _ _ h) ?_
 simp only [Act.put,xA,xB,xC,xD,xE,xF]
 refine tkQ 5 rfl (v:=?_) (fun _ _ _ h=>hQ.out _ _ _ _ _ h) ?_
 simp only [Act.put,xA,xB,xC,xD,xE,xF]
 refine tkQ 6 rfl (v:=?_) (fun _ _ _ h=>hQ.out _ _ _ _ _ h) ?_
 simp only [Act.put,xA,xB,xC,xD,xE,xF]
 refine tkQ 7 rfl (v:=?_) (fun _ _ _ h=>hQ.out _ _ _ _ _ h) ?_
 simp only [Act.put,xA,xB,xC,xD,xE,xF]
 refine tkQ 8 rfl (v:=?_) (fun _ _ _ h=>hQ.out _ _ _ _ _ h) ?_
 simp only [Act.put,xA,xB,xC,xD,xE,xF]
 refine tkQ 9 rfl (v:=?_) (fun _ _ _ h=>hQ.out _ _ _ _ _ h) ?_
 simp only [Act.put,xA,xB,xC,xD,xE,xF]
 refine tkQ 10 rfl (v:=?_) (fun _ _ _ h=>hQ.out _ _ _ _ _ h) ?_
 simp only [Act.put,xA,xB,xC,xD,xE,xF]
 refine tkQ 11 rfl (v:=?_) (fun _ _ _ h=>hQ.out _ _ _ _ _ h) ?_
 simp only [Act.put,xA,xB,xC,xD,xE,xF]
 refine wpAnyH_ready (rs:=[12]) (by kernel_rfl) (by simp) ?_
 refine AllReadyH.cons rfl (fun K hK=>?_) AllReadyH.nil
 go_simp
 refine HSM.out.mono ?_
 rintro e w6 ⟨rfl,hw6⟩
 subst hw6
 refine hK.out _ _ ⟨x1,y0,y1⟩ (fun hHeld=>?_)
 clear hK
 try simp only [Act.put,xA,xB,xC,xD,xE,xF]
 refine tkQ 13 rfl (v:=?_) (fun _ _ _ h=>hQ.out _ _ _ _ _ h) ?_
 simp only [Act.put,xA,xB,xC,xD,xE,xF]
 refine wpAnyH_ready (rs:=[14]) (by kernel_rfl) (by simp) ?_
 refine AllReadyH.cons rfl (fun K hK=>?_) AllReadyH.nil
 go_simp
 have hfa:∀(b' o':Nat) (v:Value),b'≠g→w5.cell? ⟨b',o',none⟩=some v→(w5.drew.setCell ⟨g,d,none⟩ (.int .i64 (sm:Int))).cell? ⟨b',o',none⟩=some v:=fun b' o' v h1 h2=>(World.cell?_setCell_far w5.drew ⟨g,d,none⟩ ⟨b',o',none⟩ _ (by show g≠b';exact fun e=>h1 e.symm)).trans h2
 refine hK.out _ _ ⟨hfa _ _ _ hbg x1,hfa _ _ _ hig y0,hfa _ _ _ hGg y1⟩ (fun hHeld=>?_)
 clear hK hfa
 try simp only [Act.put,xA,xB,xC,xD,xE,xF]
 refine wpAnyH_done (by kernel_rfl) ?_ _
 exact hN.out _ _ _ _ _ _ _ _ _ _ _ _ _ _
set_option maxHeartbeats 4000000 in
set_option maxRecDepth 1000000 in
theorem reg24 (q cap g d j ni ns bx ib io ic Gb ln cl sm:Nat) (x:Int) (al:Option Addr) (w5:World) (Q:Exit→Act→World→Prop) (c0 c1 c2 c3 c5 c6 c7 c8 c11 c13 c14 c15 c16 c17 c18 c19 c20 c21 c22 c23 c24 c25 c26 c27 c28 c29 c30 c31 c32 c33 c34 c35 c36 c37 c38 c39 c40 c41 c42 c43 c44 c45 c46 c47 c48 c49 c50 c51 c52 c53 c54 c55 c56 c57 c58 c59 c60 c61 c62 c63 c64 c65 c66 c67 c68 c69 c70 c71 c72 c73 c74 c75 c76 c77 c78 c79 c80 c81 c82 c83 c84 c85 c86 c87 c88 c89 c90 c91 c92 c93 c94 c95 c96 c97 c98 c99 c100 c101 c102 c103 c104 c105 c106 c107 c108 c109 c110 c111 c112 c113 c114 c115 c116 c117 c118 c119 c120 c121 c122 c123 c124 c125 c126 c127 c128 c129:Value)
  (hQ:Hid (∀c (a:Act) t v w,Q (.panic c) (a.put (some t) v) w→Q (.panic c) a w))
  (x1:w5.cell? ⟨bx,1,none⟩=some (.slice (some ⟨ib,io,none⟩) ni ic)) (y0:w5.cell? ⟨ib,io+j*5+1,none⟩=some (.int .i64 (d:Int))) (y1:w5.cell? ⟨Gb,j+1,none⟩=some (.slice al ln cl)) (yg:w5.cell? ⟨g,d,none⟩=some (.int .i64 x)) (yf:w5.frozen? ⟨g,d,none⟩=false)
  (hbg:bx≠g) (hig:ib≠g) (hGg:Gb≠g) (hj:j<ni) (hd:d<q) (hni:ns≤4000) (hjs:j<ns)
  (HSM:Hid (Calls Tryz.prog 22 #[.slice (some ⟨g,0,none⟩) q cap,.slice al ln cl] w5.drew fun e w'=>e=.returned (.int .i64 (sm:Int))∧w'=w5.drew))
  (hN:Hid (∀(d93 d94 d95 d96 d97 d98 d99 d100 d101 d102 d103 d104 d105 d106 d107 d108:Value),Q .normal ⟨#[c0,c1,c2,c3,.slice (some ⟨g,0,none⟩) q cap,c5,c6,c7,c8,.pointer (some ⟨bx,0,none⟩),.slice (some ⟨Gb,0,none⟩) (ns+1) (ns+1),c11,.int .i64 (j:Int),c13,c14,c15,c16,c17,c18,c19,c20,c21,c22,c23,c24,c25,c26,c27,c28,c29,c30,c31,c32,c33,c34,c35,c36,c37,c38,c39,c40,c41,c42,c43,c44,c45,c46,c47,c48,c49,c50,c51,c52,c53,c54,c55,c56,c57,c58,c59,c60,c61,c62,c63,c64,c65,c66,c67,c68,c69,c70,c71,c72,c73,c74,c75,c76,c77,c78,c79,c80,c81,c82,c83,c84,c85,c86,c87,c88,c89,c90,c91,c92,d93,d94,d95,d96,d97,d98,d99,d100,d101,d102,d103,d104,d105,d106,d107,d108,c109,c110,c111,c112,c113,c114,c115,c116,c117,c118,c119,c120,c121,c122,c123,c124,c125,c126,c127,c128,c129],[]⟩ (w5.drew.setCell ⟨g,d,none⟩ (.int .i64 (sm:Int))))) :
  Code.wp Tryz.prog col24 Q ⟨#[c0,c1,c2,c3,.slice (some ⟨g,0,none⟩) q cap,c5,c6,c7,c8,.pointer (some ⟨bx,0,none⟩),.slice (some ⟨Gb,0,none⟩) (ns+1) (ns+1),c11,.int .i64 (j:Int),c13,c14,c15,c16,c17,c18,c19,c20,c21,c22,c23,c24,c25,c26,c27,c28,c29,c30,c31,c32,c33,c34,c35,c36,c37,c38,c39,c40,c41,c42,c43,c44,c45,c46,c47,c48,c49,c50,c51,c52,c53,c54,c55,c56,c57,c58,c59,c60,c61,c62,c63,c64,c65,c66,c67,c68,c69,c70,c71,c72,c73,c74,c75,c76,c77,c78,c79,c80,c81,c82,c83,c84,c85,c86,c87,c88,c89,c90,c91,c92,c93,c94,c95,c96,c97,c98,c99,c100,c101,c102,c103,c104,c105,c106,c107,c108,c109,c110,c111,c112,c113,c114,c115,c116,c117,c118,c119,c120,c121,c122,c123,c124,c125,c126,c127,c128,c129],[]⟩ w5:=by
 conv=>arg 2;whnf
 have hji:(j:Int)<(ni:Int):=by omega
 have hdi:(d:Int)<(q:Int):=by omega
 have hwj:IntKind.i64.wrap ((j:Int)+1)=(j:Int)+1:=by rw [IntKind.wrap_i64];omega
 have hj0:0≤(j:Int)+1:=by omega
 have hjn1:(j:Int)+1<(ns:Int)+1:=by omega
 refine wp_region_held_drew (S:=(fun w'=>w'.cell? ⟨bx,1,none⟩=some (.slice (some ⟨ib,io,none⟩) ni ic)∧w'.cell? ⟨ib,io+j*5+1,none⟩=some (.int .i64 (d:Int))∧w'.cell? ⟨Gb,j+1,none⟩=some (.slice al ln cl))) (by kernel_rfl) (by (try dsimp only);go_keep) (fun hHeld=>?_)
 refine tkQ 0 rfl (v:=?_) (fun _ _ _ h=>hQ.out _ _ _ _ _ h) ?_
 simp only [Act.put,xA,xB,xD,xE,xF]
 refine tkQ 1 rfl (v:=?_) (fun _ _ _ h=>hQ.out _ _ _ _ _ h) ?_
 simp only [Act.put,xA,xB,xC,xD,xE,xF]
 refine tkQ 2 rfl (v:=?_) (fun _ _ _ h=>hQ.out _ _ _ _ _ h) ?_
 simp only [Act.put,xA,xB,xC,xD,xE,xF]
 refine tkQ 3 rfl (v:=?_) (fun _ _ _ h=>hQ.out _ _ _ _ _ h) ?_
 simp only [Act.put,xA,xB,xC,xD,xE,xF]
 refine tkQ 4 rfl (v:=?_) (fun _ _ _ h=>hQ.out _ _ _ _ _ h) ?_
 simp only [Act.put,xA,xB,xC,xD,xE,xF]
 refine tkQ 5 rfl (v:=?_) (fun _ _ _ h=>hQ.out _ _ _ _ _ h) ?_
 simp only [Act.put,xA,xB,xC,xD,xE,xF]
 refine tkQ 6 rfl (v:=?_) (fun _ _ _ h=>hQ.out _ _ _ _ _ h) ?_
 simp only [Act.put,xA,xB,xC,xD,xE,xF]
 refine tkQ 7 rfl (v:=?_) (fun _ _ _ h=>hQ.out _ _ _ _ _ h) ?_
 simp only [Act.put,xA,xB,xC,xD,xE,xF]
 refine tkQ 8 rfl (v:=?_) (fun _ _ _ h=>hQ.out _ _ _ _ _ h) ?_
 simp only [Act.put,xA,xB,xC,xD,xE,xF]
 refine tkQ 9 rfl (v:=?_) (fun _ _ _ h=>hQ.out _ _ _ _ _ h) ?_
 simp only [Act.put,xA,xB,xC,xD,xE,xF]
 refine tkQ 10 rfl (v:=?_) (fun _ _ _ h=>hQ.out _ _ _ _ _ h) ?_
 simp only [Act.put,xA,xB,xC,xD,xE,xF]
 refine tkQ 11 rfl (v:=?_) (fun _ _ _ h=>hQ.out _ _ _ _ _ h) ?_
 simp only [Act.put,xA,xB,xC,xD,xE,xF]
 refine tkQ 12 rfl (v:=?_) (fun _ _ _ h=>hQ.out _ _ _ _ _ h) ?_
 simp only [Act.put,xA,xB,xC,xD,xE,xF]
 refine tkQ 13 rfl (v:=?_) (fun _ _ _ h=>hQ.out _ _ _ _ _ h) ?_
 simp only [Act.put,xA,xB,xC,xD,xE,xF]
 refine wpAnyH_ready (rs:=[14]) (by kernel_rfl) (by simp) ?_
 refine AllReadyH.cons rfl (fun K hK=>?_) AllReadyH.nil
 go_simp
 refine HSM.out.mono ?_
 rintro e w6 ⟨rfl,hw6⟩
 subst hw6
 refine hK.out _ _ ⟨x1,y0,y1⟩ (fun hHeld=>?_)
 clear hK
 try simp only [Act.put,xA,xB,xC,xD,xE,xF]
 refine tkQ 15 rfl (v:=?_) (fun _ _ _ h=>hQ.out _ _ _ _ _ h) ?_
 simp only [Act.put,xA,xB,xC,xD,xE,xF]
 refine wpAnyH_ready (rs:=[16]) (by kernel_rfl) (by simp) ?_
 refine AllReadyH.cons rfl (fun K hK=>?_) AllReadyH.nil
 go_simp
 have hfa:∀(b' o':Nat) (v:Value),b'≠g→w5.cell? ⟨b',o',none⟩=some v→(w5.drew.setCell ⟨g,d,none⟩ (.int .i64 (sm:Int))).cell? ⟨b',o',none⟩=some v:=fun b' o' v h1 h2=>(World.cell?_setCell_far w5.drew ⟨g,d,none⟩ ⟨b',o',none⟩ _ (by show g≠b';exact fun e=>h1 e.symm)).trans h2
 refine hK.out _ _ ⟨hfa _ _ _ hbg x1,hfa _ _ _ hig y0,hfa _ _ _ hGg y1⟩ (fun hHeld=>?_)
 clear hK hfa
 try simp only [Act.put,xA,xB,xC,xD,xE,xF]
 refine wpAnyH_done (by kernel_rfl) ?_ _
 exact hN.out _ _ _ _ _ _ _ _ _ _ _ _ _ _ _ _
end Go.Proofs.YthgikffcdgpgiaaGreatDoor
