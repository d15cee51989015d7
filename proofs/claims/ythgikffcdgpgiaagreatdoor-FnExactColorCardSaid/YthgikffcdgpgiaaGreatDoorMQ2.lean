import Derived.Test.YthgikffcdgpgiaaGreatDoorMB1
import Derived.Test.YthgikffcdgpgiaaGreatDoorVP1
import Derived.Deep.RegionHeld3
import Derived.Deep.MidRow
namespace Go.Proofs.YthgikffcdgpgiaaGreatDoor
open Go.RowKit
def findRegion (k:Nat):Code→Option Code
 | .region i ops d=>if i=k then some (.region i ops d) else none
 | .seq x y=>match findRegion k x with
  | some c=>some c
  | none=>findRegion k y
 | .block _ c=>findRegion k c
 | .scope c=>findRegion k c
 | .loop c=>findRegion k c
 | .cond _ x y=>match findRegion k x with
  | some c=>some c
  | none=>findRegion k y
 | _=>none
noncomputable def pts27:Code:=(Tryz.f21.body.bind (findRegion 27)).getD .skip
set_option maxHeartbeats 4000000 in
set_option maxRecDepth 1000000 in
theorem app27 (V v n cO gO b k n4 gl gi:Nat) (xs:List Blk) (lv:Nat→Bool) (G m:Nat→Nat) (w3 wr:World) (Q:Exit→Act→World→Prop) (c0 c1 c2 c3 c5 c7 c9 c10 c11 c12 c14 c15 c16 c17 c18 c19 c20 c21 c22 c23 c24 c25 c26 c27 c28 c29 c30 c31 c32 c33 c34 c35 c36 c37 c38 c39 c40 c41 c42 c43 c44 c45 c46 c47 c48 c49 c50 c51 c52 c53 c54 c55 c56 c57 c58 c59 c60 c61 c62 c63 c64 c65 c66 c67 c68 c69 c70 c71 c72 c73 c74 c75 c76 c77 c78 c79 c80 c81 c82 c83 c84 c85 c86 c87 c88 c89 c90 c91 c92 c93 c94 c95 c96 c97 c98 c99 c100 c101 c102 c103 c104 c105 c106 c107 c108 c109 c110 c111 c112 c113 c114 c115 c116 c117 c118 c119 c120 c121 c122 c123 c124 c125 c126 c127 c128 c129 c130 c131 c132 c133 c134 c135 c136 c137 c138 c139 c140 c141 c142 c143 c144 c145 c146 c147 c148 c149 c150 c151 c152 c153 c154 c155 c156 c157 c158 c159 c160 c161 c162 c163 c164 c165 c166 c167 c168 c169 c170 c171 c172 c173 c174 c175 c176 c177:Value)
  (hQ:Hid (∀c (a:Act) t v w,Q (.panic c) (a.put (some t) v) w→Q (.panic c) a w)) (hv:v<V) (hV:V≤2000) (hlt:b<n) (hkl:k<n4+1) (HMb:Hid (m b=n4+1)) (HLk:Hid (LvM w3 wr n G m (pQ xs v b k))) (HGk:Hid (wr.rowIs gl 4 n (fun z=>.bool (lv z)))) (HIk:Hid (wr.rowIs gi 4 (n4+1) (fun z=>.bool (psB xs b z v)))) (HPS:Hid (psB xs b k v=true))
  (HO3:Hid (w3.cell? ⟨gO,b,none⟩=some (.slice (some ⟨G b,0,none⟩) (m b) (m b)))) (HON:Hid (∀s,s<n→gO≠G s)) (HOl:gO<w3.heap.size) (HGll:Hid (w3.heap.size≤gl)) (HGil:Hid (w3.heap.size≤gi))
  (hN:Hid (∀(d157 d158 d159 d160 d161 d162 d163 d164 d165 d166 d167 d168 d169 d170 d171 d172 d173 d174 d175 d176:Value) (w9:World),Hid (LvM w3 w9 n G m (pQ xs v b (k+1)))→Hid (w9.rowIs gl 4 n (fun z=>.bool (lv z)))→Hid (w9.rowIs gi 4 (n4+1) (fun z=>.bool (psB xs b z v)))→Q .normal ⟨#[c0,c1,c2,c3,.slice (some ⟨gO,0,none⟩) n cO,c5,.int .i64 (v:Int),c7,.int .i64 (b:Int),c9,c10,c11,c12,.int .i64 (k:Int),c14,c15,c16,c17,c18,c19,c20,c21,c22,c23,c24,c25,c26,c27,c28,c29,c30,c31,c32,c33,c34,c35,c36,c37,c38,c39,c40,c41,c42,c43,c44,c45,c46,c47,c48,c49,c50,c51,c52,c53,c54,c55,c56,c57,c58,c59,c60,c61,c62,c63,c64,c65,c66,c67,c68,c69,c70,c71,c72,c73,c74,c75,c76,c77,c78,c79,c80,c81,c82,c83,c84,c85,c86,c87,c88,c89,c90,c91,c92,c93,c94,c95,c96,c97,c98,c99,c100,c101,c102,c103,c104,c105,c106,c107,c108,c109,c110,c111,c112,c113,c114,c115,c116,c117,c118,c119,c120,c121,c122,c123,c124,c125,c126,c127,c128,c129,c130,c131,c132,c133,c134,c135,c136,c137,c138,c139,c140,c141,c142,c143,c144,c145,c146,c147,c148,c149,c150,c151,c152,c153,c154,c155,c156,d157,d158,d159,d160,d161,d162,d163,d164,d165,d166,d167,d168,d169,d170,d171,d172,d173,d174,d175,d176,c177],[]⟩ w9)) :
  Code.wp Tryz.prog pts27 Q ⟨#[c0,c1,c2,c3,.slice (some ⟨gO,0,none⟩) n cO,c5,.int .i64 (v:Int),c7,.int .i64 (b:Int),c9,c10,c11,c12,.int .i64 (k:Int),c14,c15,c16,c17,c18,c19,c20,c21,c22,c23,c24,c25,c26,c27,c28,c29,c30,c31,c32,c33,c34,c35,c36,c37,c38,c39,c40,c41,c42,c43,c44,c45,c46,c47,c48,c49,c50,c51,c52,c53,c54,c55,c56,c57,c58,c59,c60,c61,c62,c63,c64,c65,c66,c67,c68,c69,c70,c71,c72,c73,c74,c75,c76,c77,c78,c79,c80,c81,c82,c83,c84,c85,c86,c87,c88,c89,c90,c91,c92,c93,c94,c95,c96,c97,c98,c99,c100,c101,c102,c103,c104,c105,c106,c107,c108,c109,c110,c111,c112,c113,c114,c115,c116,c117,c118,c119,c120,c121,c122,c123,c124,c125,c126,c127,c128,c129,c130,c131,c132,c133,c134,c135,c136,c137,c138,c139,c140,c141,c142,c143,c144,c145,c146,c147,c148,c149,c150,c151,c152,c153,c154,c155,c156,c157,c158,c159,c160,c161,c162,c163,c164,c165,c166,c167,c168,c169,c170,c171,c172,c173,c174,c175,c176,c177],[]⟩ wr:=by
 conv=>arg 2;whnf
 have hkl1:(k:Int)≤(n4:Int):=by omega
 have hkl2:(k:Int)<(n4:Int)+1:=by omega
 have hbn:(b:Int)<(n:Int):=by omega
 have hkm:k<m b:=by rw [HMb.out];exact hkl
 obtain ⟨U,hU⟩:=HLk.out.db
 obtain ⟨ua,uc,hux,_⟩:=ints_owned (hU.own b k hlt hkm)
 have HU:=hide hU
 have HUX:=hide hux
 obtain ⟨ul,hul⟩:∃q,q=(pQ xs v b k b k).length:=⟨_,rfl⟩
 have hul2:ul≤2001:=by have:=pQ_len xs v b k b k;omega
 have HUL:=hide hul
 have HOX:Hid (wr.ownsRow w3.heap.size 2 1 (.slice ua ul uc) ul ((pQ xs v b k b k).map (Value.int .i64))):=hide (by have h:=hU.own b k hlt hkm;rw [hux,←hul] at h;exact h)
 have eG:wr.cell? ⟨G b,k,none⟩=some (.slice ua ul uc):=by rw [(hU.row b hlt).cell hkm,hux,hul]
 have eO:=HLk.out.cell (fun s hs=>HON.out s hs) HO3.out
 rw [HMb.out] at eO
 have hzk:=HLk.out.size
 have hGb:G b<w3.heap.size:=hU.lt b hlt
 have hGr:G b<wr.heap.size:=by omega
 have hgOb:gO≠G b:=HON.out b hlt
 have hgOl:gO<wr.heap.size:=World.block_lt_of_cell? wr _ eO
 have HNL:Hid ((U b k).ownBlock≠some gl):=hide (HU.out.other HGk.out (by decide) hlt hkm)
 have HNI:Hid ((U b k).ownBlock≠some gi):=hide (HU.out.other HIk.out (by decide) hlt hkm)
 have HNO:Hid ((U b k).ownBlock≠some gO):=hide (fun e=>by have:=((HU.out.own b k hlt hkm).lt _ e).1;omega)
 obtain ⟨m0,hm0,hm1,hm2,hm3⟩:=info_three Tryz.info2'
 clear hU hux hul
 refine wp_region_held_drew (S:=(fun w'=>w'.cell? ⟨gO,b,none⟩=some (.slice (some ⟨G b,0,none⟩) (n4+1) (n4+1)))) (by kernel_rfl) (by (try dsimp only);go_keep) (fun hHeld=>?_)
 refine tkQ 0 rfl (v:=?_) (fun _ _ _ h=>hQ.out _ _ _ _ _ h) ?_
 simp only [Act.put,xA,xB,xD,xE,xF]
 refine tkQ 1 rfl (v:=?_) (fun _ _ _ h=>hQ.out _ _ _ _ _ h) ?_
 simp only [Act.put,xA,xB,xC,xD,xE,xF]
 refine tkQ 2 rfl (v:=?_) (fun _ _ _ h=>hQ.out _ _ _ _ _ h) ?_
 simp only [Act.put,xA,xB,xC,xD,xE,xF]
 refine tkQ 3 rfl (v:=?_) (fun _ _ _ h=>hQ.out _ _ _ _ _ h) ?_
 simp only [Act.put,xA,xB,xC,xD,xE,xF]
 refine tkQ 4 rfl (v:=?_) (fun _ _ _ h=>hQ.out _ _ _ _ _ h) ?_
 simp only [Act.put,xA,xB,xC,xD,xE,xF]
 refine tkQ 5 rfl (v:=?_) (fun _ _ _ h=>hQ.out _ _ _ _ _ h) ?_
 simp only [Act.put,xA,xB,xC,xD,xE,xF]
 refine tkQ 6 rfl (v:=?_) (fun _ _ _ h=>hQ.out _ _ _ _ _ h) ?_
 simp only [Act.put,xA,xB,xC,xD,xE,xF]
 refine tkQ 7 rfl (v:=?_) (fun _ _ _ h=>hQ.out _ _ _ _ _ h) ?_
 simp only [Act.put,xA,xB,xC,xD,xE,xF]
 refine tkQ 8 rfl (v:=?_) (fun _ _ _ h=>hQ.out _ _ _ _ _ h) ?_
 simp only [Act.put,xA,xB,xC,xD,xE,xF]
 refine tkQ 9 rfl (v:=?_) (fun _ _ _ h=>hQ.out _ _ _ _ _ h) ?_
 simp only [Act.put,xA,xB,xC,xD,xE,xF]
 refine tkQ 10 rfl (v:=?_) (fun _ _ _ h=>hQ.out _ _ _ _ _ h) ?_
 simp only [Act.put,xA,xB,xC,xD,xE,xF]
 refine tkQ 11 rfl (v:=?_) (fun _ _ _ h=>hQ.out _ _ _ _ _ h) ?_
 simp only [Act.put,xA,xB,xC,xD,xE,xF]
 refine tkQ 12 rfl (v:=?_) (fun _ _ _ h=>hQ.out _ _ _ _ _ h) ?_
 simp only [Act.put,xA,xB,xC,xD,xE,xF]
 refine tkQ 13 rfl (v:=?_) (fun _ _ _ h=>hQ.out _ _ _ _ _ h) ?_
 simp only [Act.put,xA,xB,xC,xD,xE,xF]
 refine tkQ 15 rfl (v:=?_) (fun _ _ _ h=>hQ.out _ _ _ _ _ h) ?_
 simp only [Act.put,xA,xB,xC,xD,xE,xF]
 refine wpAnyH_ready (rs:=[14,16]) (by kernel_rfl) (by simp) ?_
 refine (AllReadyH.cons rfl (fun K hK=>?_) (AllReadyH.cons rfl (fun K hK=>?_) AllReadyH.nil))
 go_simp
 refine hK.out _ _ (by first | with_reducible exact hHeld | ((try dsimp only);go_keep)) (fun hHeld=>?_)
 clear hK
 try simp only [Act.put,xA,xB,xC,xD,xE,xF]
 refine wpAnyH_ready (rs:=[16]) (by kernel_rfl) (by simp) ?_
 refine AllReadyH.cons rfl (fun K hK=>?_) AllReadyH.nil
 go_simp
 refine hK.out _ _ (by first | with_reducible exact hHeld | ((try dsimp only);go_keep)) (fun hHeld=>?_)
 clear hK
 try simp only [Act.put,xA,xB,xC,xD,xE,xF]
 rotate_left
 go_simp
 refine hK.out _ _ (by first | with_reducible exact hHeld | ((try dsimp only);go_keep)) (fun hHeld=>?_)
 clear hK
 try simp only [Act.put,xA,xB,xC,xD,xE,xF]
 refine wpAnyH_ready (rs:=[14]) (by kernel_rfl) (by simp) ?_
 refine AllReadyH.cons rfl (fun K hK=>?_) AllReadyH.nil
 go_simp
 refine hK.out _ _ (by first | with_reducible exact hHeld | ((try dsimp only);go_keep)) (fun hHeld=>?_)
 clear hK
 try simp only [Act.put,xA,xB,xC,xD,xE,xF]
 all_goals (
  refine wpAnyH_ready (rs:=[17]) (by kernel_rfl) (by simp) ?_
  refine AllReadyH.cons rfl (fun K hK=>?_) AllReadyH.nil
  refine step_append_q rfl _ _ 26 rfl w3.heap.size 2 m0 (.int .i64 0) 1 8 Tryz.underlying26 hm0 hm1 hm2 hm3 rfl (by decide) (.slice ua ul uc) ul ((pQ xs v b k b k).map (Value.int .i64)) rfl ?s1 ⟨wr.heap.size,0,none⟩ 1 1 [.int .i64 (v:Int)] rfl rfl ?s2 ?s3 ?s4 ?s5 ?s6 ?_
  case s1=>exact (HOX.out.drew).alloc _
  case s2=>exact one_news _ _ _
  case s3=>intro u hu;simp at hu;subst hu;rfl
  case s4=>unfold maxLen;omega
  case s5=>omega
  case s6=>simp;omega
  intro v8 w8 hown8 hg8 _ hat8
  obtain ⟨g8,c8,rfl,_,_⟩:=own_some' hown8 (by omega)
  obtain ⟨hD8,ce8,fe8,hq8,hz8⟩:=HLk.out.push (x:=(v:Int)) (s:=b) (t:=k) HU.out hlt hkm (by rw [HUX.out,←HUL.out];exact hg8) (by rw [←HUL.out];exact hown8) (by rw [HUX.out,←HUL.out];simpa using hat8)
  rw [HUX.out,←HUL.out] at ce8
  have q1:=hq8 gO hgOl hgOb HNO.out
  have q2:=hq8 gl HGk.out.lt (by have:=HGll.out;omega) HNL.out
  have q3:=hq8 gi HIk.out.lt (by have:=HGil.out;omega) HNI.out
  have z6:=(cell_of (o:=b) q1.1).trans eO
  have z7:=(cell_of (o:=b) q1.2).trans eO
  have HD8:=hide (hD8.congr (fun s i _ _=>pQ_yes HPS.out s i))
  have HGL8:=hide (HGk.out.of_block q2.2)
  have HIL8:=hide (HIk.out.of_block q3.2)
  clear hown8 hg8 hat8 hD8 hq8 hz8 q1 q2 q3
  refine hK.out _ _ z6 (fun hHeld=>?_)
  clear hK
  try simp only [Act.put,xA,xB,xC,xD,xE,xF]
  refine tkQ 18 rfl (v:=?_) (fun _ _ _ h=>hQ.out _ _ _ _ _ h) ?_
  simp only [Act.put,xA,xB,xC,xD,xE,xF]
  refine tkQ 19 rfl (v:=?_) (fun _ _ _ h=>hQ.out _ _ _ _ _ h) ?_
  simp only [Act.put,xA,xB,xC,xD,xE,xF]
  refine wpAnyH_ready (rs:=[20]) (by kernel_rfl) (by simp) ?_
  refine AllReadyH.cons rfl (fun K hK=>?_) AllReadyH.nil
  go_simp
  refine hK.out _ _ z7 (fun hHeld=>?_)
  clear hK
  try simp only [Act.put,xA,xB,xC,xD,xE,xF]
  refine wpAnyH_done (by kernel_rfl) ?_ _
  exact hN.out _ _ _ _ _ _ _ _ _ _ _ _ _ _ _ _ _ _ _ _ _ HD8 HGL8 HIL8)
end Go.Proofs.YthgikffcdgpgiaaGreatDoor
