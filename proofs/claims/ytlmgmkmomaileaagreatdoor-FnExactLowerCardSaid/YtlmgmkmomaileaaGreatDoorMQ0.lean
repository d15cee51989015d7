import Derived.Test.YtlmgmkmomaileaaGreatDoorMH1
namespace Go.Proofs.YtlmgmkmomaileaaGreatDoor
open Go.RowKit
noncomputable def ptQ(xs:List Xh)(v b i:Nat):List Int:=match xs[b]? with
 | none=>[]
 | some x=>Xs (ptP xs x v b i)
open Classical in
noncomputable def psB(xs:List Xh)(b i v:Nat):Bool:=match xs[b]? with
 | none=>false
 | some x=>PsP xs x b i v (decide (Lou xs v b))
theorem Zgq(xs:List Xh)(b i:Nat):ptQ xs 0 b i=[]:=by
 unfold ptQ;cases xs[b]?<;>rfl
theorem Zdc(xs:List Xh)(v b i:Nat):ptQ xs (v+1) b i=if psB xs b i v=true then ptQ xs v b i++[(v:Int)]else ptQ xs v b i:=by
 unfold ptQ psB;cases xs[b]? with
 | none=>simp
 | some x =>
  simp only;unfold ptP;rw[List.range_succ,List.filter_append];by_cases h:PsP xs x b i v (@decide (Lou xs v b) (Classical.propDecidable _))=true
  ·rw[if_pos h]
   simp[h,Xs]
  ·rw[if_neg h]
   simp[h]
theorem Zbv(xs:List Xh)(v b i:Nat):(ptQ xs v b i).length<=v:=by
 unfold ptQ;cases xs[b]? with
 | none=>exact Nat.zero_le _
 | some x =>
  simp only[Xs,List.length_map];unfold ptP;exact Nat.le_trans (List.length_filter_le _ _) sP
noncomputable def pQ(xs:List Xh)(v b i:Nat)(s j:Nat):List Int:=if s<b\/s=b/\j<i then ptQ xs (v+1) s j else ptQ xs v s j
theorem ZiI(xs:List Xh)(v:Nat)(s j:Nat):pQ xs v 0 0 s j=ptQ xs v s j:=by
 unfold pQ;rw[if_neg oM]
theorem Zkr(xs:List Xh)(v n:Nat){s:Nat}(j:Nat)(hs:s<n):pQ xs v n 0 s j=ptQ xs (v+1) s j:=by
 unfold pQ;rw[if_pos (Or.inl hs)]
theorem ZiP{xs:List Xh}{v b m:Nat}{s j:Nat}(hj:s=b->j<m):pQ xs v b m s j=pQ xs v (b+1) 0 s j:=by
 unfold pQ;by_cases h:s<b+1
 ·rw[if_pos (by by_cases e:s=b;(· exact Or.inr ⟨e,hj e⟩);(· exact Or.inl oM)),if_pos (Or.inl h)]
 ·rw[if_neg oM,if_neg oM]
theorem ZkV{xs:List Xh}{v b i:Nat}(h:psB xs b i v=false)(s j:Nat):pQ xs v b i s j=pQ xs v b (i+1) s j:=by
 unfold pQ;by_cases e:s=b/\j=i
 ·obtain⟨rfl,rfl⟩:=e
  rw[if_neg oM,if_pos oM,Zdc,h];simp
 ·by_cases h1:s<b\/s=b/\j<i
  ·rw[if_pos h1,if_pos oM]
  ·rw[if_neg h1,if_neg oM]
theorem ZjX{xs:List Xh}{v b i:Nat}(h:psB xs b i v=true)(s j:Nat):(if (s,j)=(b,i)then pQ xs v b i b i++[(v:Int)]else pQ xs v b i s j)=pQ xs v b (i+1) s j:=by
 by_cases e:(s,j)=(b,i)
 ·rw[if_pos e]
  injection e with e1 e2;subst e1 e2;unfold pQ;rw[if_neg oM,if_pos oM,Zdc,if_pos h]
 ·rw[if_neg e]
  have e':¬(s=b/\j=i):=fun h=>e (by rw[h.1,h.2])
  unfold pQ;by_cases h1:s<b\/s=b/\j<i
  ·rw[if_pos h1,if_pos oM]
  ·rw[if_neg h1,if_neg oM]
theorem Zk6(xs:List Xh)(v b i s j:Nat):(pQ xs v b i s j).length<=v+1:=by
 unfold pQ;split
 ·exact Zbv _ _ _ _
 ·have:=Zbv xs v s j;omega
structure RwS(w2 wr:World)(u:Value)(b:Nat)(m:Nat->Nat)(G:Nat->Nat):Prop where
 low:Below w2.heap.size w2 wr
 own:wr.ownsRow w2.heap.size 120 1 u b ((List.range b).map fun s=>.slice (some ⟨G s,0,none⟩) (m s) (m s))
 row:∀s,s<b->w2.heap.size<=G s/\wr.rowIs (G s) 78 (m s) (fun _=>.slice none 0 0)
 ne:∀s s',s<b->s' < b->s≠s'->G s≠G s'
theorem RwS.start(w2:World)(m:Nat->Nat):RwS w2 (w2.alloc (.cells #[] 120)) (.slice (some ⟨w2.heap.size,0,none⟩) 0 0) 0 m (fun _=>0):=⟨Xb (Below.refl _ _) _,World.ownsRow_lit (base:=w2.heap.size) (e:=120) (size:=1) w2 #[] 0 sP sP rfl,fun s h=>absurd h oM,fun s s' h=>absurd h oM⟩
theorem RwS.push{w2 wr w8:World}{u u':Value}{b:Nat}{m:Nat->Nat}{G:Nat->Nat}{ob:Obj}(h:RwS w2 wr u b m G)(hg:((wr.alloc (.cells (madeCells #[.slice none 0 0] (m b)) 78)).alloc ob).grownBy w8 u.ownBlock)(ho:w8.ownsRow w2.heap.size 120 1 u' (b+1) ((List.range b).map (fun s=>Value.slice (some ⟨G s,0,none⟩) (m s) (m s))++[.slice (some ⟨wr.heap.size,0,none⟩) (m b) (m b)])) :
 RwS w2 w8 u' (b+1) m (fun s=>if s=b then wr.heap.size else G s):=by
 have hz:=h.low.size;have hgs:=hg.size;rw[World.size_alloc,World.size_alloc]at hgs;have hnu:∀q T k f,wr.rowIs q T k f->T≠120->u.ownBlock≠some q:=fun q T k f hr hT e=>by
  obtain⟨c,h1,_⟩:=hr;rcases h.own.2 with⟨e1,_⟩ | ⟨g,cap,cur,e1,_,h2,_⟩
  ·rw[e1]at e;cases e
  ·rw[e1]at e
   injection e with e;have e:g=q:=e;subst e;rw[show wr.heap[g]?=_ from h1]at h2;injection h2 with h2;injection h2 with _ h3;exact hT h3
 have hul:∀q,u.ownBlock=some q->q<wr.heap.size:=fun q e=>(h.own.lt q e).2
 have hold:∀q,q<wr.heap.size->u.ownBlock≠some q->w8.heap[q]?=wr.heap[q]?:=fun q h1 h2=>(hg.block q (by rw[World.size_alloc,World.size_alloc];omega) (fun e=>h2 e.symm)).trans ((Below.heap_alloc _ _ _ (by rw[World.size_alloc];omega)).trans (Below.heap_alloc _ _ _ h1))
 have hnew:w8.heap[wr.heap.size]?=(wr.alloc (.cells (madeCells #[.slice none 0 0] (m b)) 78)).heap[wr.heap.size]?:=(hg.block _ (by rw[World.size_alloc,World.size_alloc];omega) (fun e=>by have:=hul _ e.symm;omega)).trans (Below.heap_alloc _ _ _ (by rw[World.size_alloc];omega));refine⟨⟨hg.os.trans h.low.os,hg.tape.trans h.low.tape,hg.output.trans h.low.output,oM,fun q hq=>(hold q oM (fun e=>by have:=(h.own.lt q e).1;omega)).trans (h.low.block q hq)⟩,?_,fun s hs=>?_,fun s s' h1 h2 h3=>?_⟩
 ·rw[List.range_succ,List.map_append,List.map_cons,List.map_nil,if_pos rfl,List.map_congr_left (g:=fun s=>Value.slice (some ⟨G s,0,none⟩) (m s) (m s)) (fun s hs=>by rw[if_neg (by have:=List.mem_range.1 hs;omega)])]
  exact ho
 ·by_cases e:s=b
  ·subst e
   rw[if_pos rfl];exact⟨hz,(World.rowIs_made wr (.slice none 0 0) (m s) 78).of_block hnew⟩
  ·rw[if_neg e]
   have hr:=h.row s oM;exact⟨hr.1,hr.2.of_block (hold _ hr.2.lt (hnu _ _ _ _ hr.2 dC))⟩
 ·have hlt:∀s,s<b->G s<wr.heap.size:=fun s hs=>(h.row s hs).2.lt
  by_cases e1:s=b
  ·have:=hlt s' oM
   rw[if_pos e1,if_neg oM];omega
  ·by_cases e2:s'=b
   ·have:=hlt s oM
    rw[if_neg e1,if_pos e2];omega
   ·rw[if_neg e1,if_neg e2]
    exact h.ne s s' oM oM h3
end Go.Proofs.YtlmgmkmomaileaaGreatDoor
namespace Go.Proofs.YtlmgmkmomaileaaGreatDoor
open Go.RowKit
open Classical in
noncomputable def nwB(xs:List Xh)(b v k:Nat):Bool:=match xs[b]? with
 | none=>false
 | some x=>KD x v (decide (Lou xs v b)) k
section
variable {xs : List Xh} {b v : Nat}
theorem Zik:psB xs b 0 v=(nwB xs b v 0||YB xs b v):=by
 unfold psB nwB YB;cases h:xs[b]? with
 | none=>rfl
 | some x=>simp only[PsP,YB,h]
theorem ZgM{j:Nat}(hj:j<(Tt xs b).length):psB xs b (j+1) v=(nwB xs b v (j+1)||decide ((Tt xs b)[j]=(v:Int))):=by
 have hj':=hj;revert hj;unfold psB nwB Tt at *;cases h:xs[b]? with
 | none=>intro hj;exact absurd hj sP
 | some x =>
  intro hj;simp only[Zk,List.length_map]at hj;simp only[PsP,Zk,List.getElem_map];rw[List.getElem?_eq_getElem hj]
open Classical in
theorem Zjy(hb:b<xs.length){q:Bool}(hq:q=true↔Lou xs v b):nwB xs b v (Tt xs b).length=(q||hasI (rtL xs b) (v:Int)):=by
 have e:(@decide (Lou xs v b) (Classical.propDecidable _))=q:=by rw[Bool.eq_iff_iff,hq,decide_eq_true_eq]
 unfold nwB Tt rtL;rw[List.getElem?_eq_getElem hb];simp only[Zk,List.length_map];rw[ZeU _ _ _ (Nat.le_refl _),e,Bool.or_comm]
theorem Zhb{j:Nat}(hj:j<(Tt xs b).length)(hr:j<(rdL xs b).length):nwB xs b v j=(hasI (rdL xs b)[j] (v:Int)||(nwB xs b v (j+1) && !decide ((Tt xs b)[j]=(v:Int)))):=by
 revert hj hr;unfold nwB Tt rdL;cases h:xs[b]? with
 | none=>intro hj;exact absurd hj sP
 | some x =>
  intro hj hr;simp only[Zk,List.length_map]at hj;simp only[Zk,ZQ,List.getElem_map];exact Zcl _ _ _ hj
open Classical in
theorem Zjx(hb:b<xs.length):nwB xs b v 0=true↔Vl xs v b:=by
 unfold nwB;rw[List.getElem?_eq_getElem hb];exact Zjz hb (by rw[decide_eq_true_eq])
theorem Zk4:(rdL xs b).length=(Tt xs b).length:=by
 unfold rdL Tt;cases xs[b]? with
 | none=>rfl
 | some x=>simp[ZQ,Zk]
end
theorem Zg4(xs:List Xh)(b:Nat):∀l∈rdL xs b,l.length<=2:=fun l hl=>by
 unfold rdL at hl;cases h:xs[b]? with
 | none=>rw[h]at hl;exact absurd hl List.not_mem_nil
 | some x =>
  rw[h]at hl;obtain⟨y,_,hy⟩:=List.mem_map.1 hl;rw[<-hy];exact VV y
structure InX(wb wr:World)(gl n:Nat)(lv:Nat->Bool)(gi m:Nat)(f:Nat->Bool):Prop where
 low:Below wb.heap.size wb wr
 gll:gl<wb.heap.size
 lr:wr.rowIs gl 4 n (fun z=>.bool (lv z))
 ge:wb.heap.size<=gi
 ir:wr.rowIs gi 4 m (fun z=>.bool (f z))
section
variable {wb wr w' : World} {gl n gi m : Nat} {lv f f' : Nat -> Bool}
theorem InX.below(h:InX wb wr gl n lv gi m f)(k:Below wr.heap.size wr w'):InX wb w' gl n lv gi m f:=⟨Xd h.low k,h.gll,h.lr.of_block (k.block _ h.lr.lt),h.ge,h.ir.of_block (k.block _ h.ir.lt)⟩
theorem InX.congr(h:InX wb wr gl n lv gi m f)(e:∀z,z<m->f z=f' z):InX wb wr gl n lv gi m f':=⟨h.low,h.gll,h.lr,h.ge,TL (C:=Value.bool) h.ir e⟩
theorem InX.set(h:InX wb wr gl n lv gi m f)(k:Nat)(q:Bool):InX wb (wr.setCell ⟨gi,k,none⟩ (.bool q)) gl n lv gi m (fun z=>if z=k then q else f z):=by
 have:=h.ge;have:=h.gll;exact⟨h.low.setCell (by show wb.heap.size<=gi;omega) _,h.gll,h.lr.setOther (by show gl≠gi;omega) _,h.ge,VA (C:=Value.bool) h.ir k q⟩
end
noncomputable def inF(xs:List Xh)(b v k z:Nat):Bool:=decide (k<z)&&psB xs b z v
theorem ZiO{xs:List Xh}{b v k:Nat}{z:Nat}(hz:z<k+1):inF xs b v k z=false:=by unfold inF;simp;omega
theorem ZhJ{xs:List Xh}{b v j:Nat}{q:Bool}(hq:q=psB xs b (j+1) v)(z:Nat):(if z=j+1 then q else inF xs b v (j+1) z)=inF xs b v j z:=by
 unfold inF;by_cases e:z=j+1
 ·subst e
  rw[if_pos rfl,hq];simp
 ·rw[if_neg e]
  by_cases h:j<z
  ·rw[decide_eq_true h,decide_eq_true (show j+1<z by omega)]
  ·rw[decide_eq_false h,decide_eq_false (show ¬j+1<z by omega)]
theorem ZiK{xs:List Xh}{b v:Nat}{q:Bool}(hq:q=psB xs b 0 v)(z:Nat):(if z=0 then q else inF xs b v 0 z)=psB xs b z v:=by
 by_cases e:z=0
 ·subst e;rw[if_pos rfl,hq]
 ·rw[if_neg e]
  unfold inF;rw[decide_eq_true (show 0<z by omega),Bool.true_and]
def Zlv(w w':World)(n V:Nat)(xs:List Xh)(e:Ending):Prop:=∃(gO cO:Nat)(G:Nat->Nat),e=.returned (.slice (some ⟨gO,0,none⟩) n cO)/\Below w.heap.size w w'/\w.heap.size<=gO/\∀s,s<n->w'.cell? ⟨gO,s,none⟩=some (.slice (some ⟨G s,0,none⟩) ((Tt xs s).length+1) ((Tt xs s).length+1))/\w.heap.size<=G s/\XM w' w.heap.size w'.heap.size (some ⟨G s,0,none⟩) ((List.range ((Tt xs s).length+1)).map (ptQ xs V s))
end Go.Proofs.YtlmgmkmomaileaaGreatDoor
namespace Go.Proofs.YtlmgmkmomaileaaGreatDoor
set_option maxHeartbeats 4000000
set_option maxRecDepth 1000000
open Go.RowKit
def YY(k:Nat):Code->Option Code
 | .region i ops d=>if i=k then some (.region i ops d)else none
 | .seq x y=>match YY k x with
  | some c=>some c
  | none=>YY k y
 | .block _ c=>YY k c
 | .scope c=>YY k c
 | .loop c=>YY k c
 | .cond _ x y=>match YY k x with
  | some c=>some c
  | none=>YY k y
 | _=>none
noncomputable def Zll:Code:=(Tryz.f59.body.bind (YY 27)).getD .skip
theorem ZkK(V v n cO gO b k n4 gl gi:Nat)(xs:List Xh)(lv:Nat->Bool)(G m:Nat->Nat)(w3 wr:World)(Q:Exit->Act->World->Prop)(c0 c1 c2 c3 c5 c7 c9 c10 c11 c12 c14 c15 c16 c17 c18 c19 c20 c21 c22 c23 c24 c25 c26 c27 c28 c29 c30 c31 c32 c33 c34 c35 c36 c37 c38 c39 c40 c41 c42 c43 c44 c45 c46 c47 c48 c49 c50 c51 c52 c53 c54 c55 c56 c57 c58 c59 c60 c61 c62 c63 c64 c65 c66 c67 c68 c69 c70 c71 c72 c73 c74 c75 c76 c77 c78 c79 c80 c81 c82 c83 c84 c85 c86 c87 c88 c89 c90 c91 c92 c93 c94 c95 c96 c97 c98 c99 c100 c101 c102 c103 c104 c105 c106 c107 c108 c109 c110 c111 c112 c113 c114 c115 c116 c117 c118 c119 c120 c121 c122 c123 c124 c125 c126 c127 c128 c129 c130 c131 c132 c133 c134 c135 c136 c137 c138 c139 c140 c141 c142 c143 c144 c145 c146 c147 c148 c149 c150 c151 c152 c153 c154 c155 c156 c157 c158 c159 c160 c161 c162 c163 c164 c165 c166 c167 c168 c169 c170 c171 c172 c173 c174 c175 c176 c177:Value)
 (hQ:Hid (∀c (a:Act) t v w,Q (.panic c) (a.put (some t) v) w->Q (.panic c) a w)) (hv:v<V) (hV:V<=2000) (hlt:b<n) (hkl:k<n4+1) (HMb:Hid (m b=n4+1)) (HLk:Hid (LvM w3 wr n G m (pQ xs v b k))) (HGk:Hid (wr.rowIs gl 4 n (fun z=>.bool (lv z)))) (HIk:Hid (wr.rowIs gi 4 (n4+1) (fun z=>.bool (psB xs b z v)))) (HPS:Hid (psB xs b k v=true))
 (HO3:Hid (w3.cell? ⟨gO,b,none⟩=some (.slice (some ⟨G b,0,none⟩) (m b) (m b)))) (HON:Hid (∀s,s<n->gO≠G s)) (HOl:gO<w3.heap.size) (HGll:Hid (w3.heap.size<=gl)) (HGil:Hid (w3.heap.size<=gi))
 (hN:Hid (∀(d157 d158 d159 d160 d161 d162 d163 d164 d165 d166 d167 d168 d169 d170 d171 d172 d173 d174 d175 d176:Value)(w9:World),Hid (LvM w3 w9 n G m (pQ xs v b (k+1)))->Hid (w9.rowIs gl 4 n (fun z=>.bool (lv z)))->Hid (w9.rowIs gi 4 (n4+1) (fun z=>.bool (psB xs b z v)))->Q .normal ⟨#[c0,c1,c2,c3,.slice (some ⟨gO,0,none⟩) n cO,c5,.int .i64 (v:Int),c7,.int .i64 (b:Int),c9,c10,c11,c12,.int .i64 (k:Int),c14,c15,c16,c17,c18,c19,c20,c21,c22,c23,c24,c25,c26,c27,c28,c29,c30,c31,c32,c33,c34,c35,c36,c37,c38,c39,c40,c41,c42,c43,c44,c45,c46,c47,c48,c49,c50,c51,c52,c53,c54,c55,c56,c57,c58,c59,c60,c61,c62,c63,c64,c65,c66,c67,c68,c69,c70,c71,c72,c73,c74,c75,c76,c77,c78,c79,c80,c81,c82,c83,c84,c85,c86,c87,c88,c89,c90,c91,c92,c93,c94,c95,c96,c97,c98,c99,c100,c101,c102,c103,c104,c105,c106,c107,c108,c109,c110,c111,c112,c113,c114,c115,c116,c117,c118,c119,c120,c121,c122,c123,c124,c125,c126,c127,c128,c129,c130,c131,c132,c133,c134,c135,c136,c137,c138,c139,c140,c141,c142,c143,c144,c145,c146,c147,c148,c149,c150,c151,c152,c153,c154,c155,c156,d157,d158,d159,d160,d161,d162,d163,d164,d165,d166,d167,d168,d169,d170,d171,d172,d173,d174,d175,d176,c177],[]⟩ w9)) :
 Code.wp Tryz.prog Zll Q ⟨#[c0,c1,c2,c3,.slice (some ⟨gO,0,none⟩) n cO,c5,.int .i64 (v:Int),c7,.int .i64 (b:Int),c9,c10,c11,c12,.int .i64 (k:Int),c14,c15,c16,c17,c18,c19,c20,c21,c22,c23,c24,c25,c26,c27,c28,c29,c30,c31,c32,c33,c34,c35,c36,c37,c38,c39,c40,c41,c42,c43,c44,c45,c46,c47,c48,c49,c50,c51,c52,c53,c54,c55,c56,c57,c58,c59,c60,c61,c62,c63,c64,c65,c66,c67,c68,c69,c70,c71,c72,c73,c74,c75,c76,c77,c78,c79,c80,c81,c82,c83,c84,c85,c86,c87,c88,c89,c90,c91,c92,c93,c94,c95,c96,c97,c98,c99,c100,c101,c102,c103,c104,c105,c106,c107,c108,c109,c110,c111,c112,c113,c114,c115,c116,c117,c118,c119,c120,c121,c122,c123,c124,c125,c126,c127,c128,c129,c130,c131,c132,c133,c134,c135,c136,c137,c138,c139,c140,c141,c142,c143,c144,c145,c146,c147,c148,c149,c150,c151,c152,c153,c154,c155,c156,c157,c158,c159,c160,c161,c162,c163,c164,c165,c166,c167,c168,c169,c170,c171,c172,c173,c174,c175,c176,c177],[]⟩ wr:=by
 conv=>arg 2;whnf
 have hkl1:(k:Int)<=(n4:Int):=oM;have hkl2:(k:Int)<(n4:Int)+1:=oM;have hbn:(b:Int)<(n:Int):=oM;have hkm:k<m b:=by rw[HMb.out];exact hkl
 obtain⟨U,hU⟩:=HLk.db;obtain⟨ua,uc,hux,_⟩:=Xl (hU.own b k hlt hkm);have HU:=Xa hU;have HUX:=Xa hux;obtain⟨ul,hul⟩:∃q,q=(pQ xs v b k b k).length:=⟨_,rfl⟩;have hul2:ul<=2001:=by have:=Zk6 xs v b k b k;omega
 have HUL:=Xa hul;have HOX:Hid (wr.ownsRow w3.heap.size 2 1 (.slice ua ul uc) ul ((pQ xs v b k b k).map (Value.int .i64))):=Xa (by have h:=hU.own b k hlt hkm;rw[hux,<-hul]at h;exact h);have eG:wr.cell? ⟨G b,k,none⟩=some (.slice ua ul uc):=by rw[(hU.row b hlt).cell hkm,hux,hul]
 have eO:=HLk.cell (fun s hs=>HON.out s hs) HO3.out;rw[HMb.out]at eO;have hzk:=HLk.size;have hGb:G b<w3.heap.size:=hU.lt b hlt;have hGr:G b<wr.heap.size:=oM;have hgOb:gO≠G b:=HON.out b hlt;have hgOl:gO<wr.heap.size:=World.block_lt_of_cell? wr _ eO;have HNL:Hid ((U b k).ownBlock≠some gl):=Xa (HU.other HGk.out dC hlt hkm);have HNI:Hid ((U b k).ownBlock≠some gi):=Xa (HU.other HIk.out dC hlt hkm);have HNO:Hid ((U b k).ownBlock≠some gO):=Xa (fun e=>by have:=((HU.own b k hlt hkm).lt _ e).1;omega);obtain⟨m0,hm0,hm1,hm2,hm3⟩:=YG Tryz.info2';clear hU hux hul;refine Z1 (fun w'=>w'.cell? ⟨gO,b,none⟩=some (.slice (some ⟨G b,0,none⟩) (n4+1) (n4+1))) (fun hHeld=>?_);refine KC 0 ?_;refine KC 1 ?_;refine KC 2 ?_;refine KC 3 ?_;refine KC 4 ?_;refine KC 5 ?_;refine KC 6 ?_;refine KC 7 ?_;refine KC 8 ?_;refine KC 9 ?_;refine KC 10 ?_;refine KC 11 ?_;refine KC 12 ?_;refine KC 13 ?_;refine KC 15 ?_;refine wpAnyH_ready (rs:=[14,16]) vZ sP ?_;refine(AllReadyH.cons rfl (fun K hK=>?_) (AllReadyH.cons rfl (fun K hK=>?_) AllReadyH.nil));go_simp;refine hK _ _ kP (fun hHeld=>?_);clear hK
 try simp only[Act.put,xA,xB,xC,xD,xE,xF]
 refine Xt 16 (fun K hK=>?_);go_simp;refine hK _ _ kP (fun hHeld=>?_);clear hK;rotate_left;go_simp;refine hK _ _ kP (fun hHeld=>?_);clear hK
 try simp only[Act.put,xA,xB,xC,xD,xE,xF]
 refine Xt 14 (fun K hK=>?_);go_simp;refine hK _ _ kP (fun hHeld=>?_);clear hK
 all_goals (
  refine Xt 17 (fun K hK=>?_);refine Yf rfl _ _ 25 rfl w3.heap.size 2 m0 (.int .i64 0) 1 8 Tryz.underlying25 hm0 hm1 hm2 hm3 rfl dC (.slice ua ul uc) ul ((pQ xs v b k b k).map (Value.int .i64)) rfl ?s1 ⟨wr.heap.size,0,none⟩ 1 1 [.int .i64 (v:Int)] rfl rfl ?s2 ?s3 ?s4 ?s5 ?s6 ?_
  case s1=>exact(HOX.drew).alloc _
  case s2=>exact KS _ _ _
  case s3=>intro u hu;simp at hu;subst hu;rfl
  case s4=>unfold maxLen;omega
  case s5=>omega
  case s6=>simp;omega
  intro v8 w8 hown8 hg8 _ hat8;obtain⟨g8,c8,rfl,_,_⟩:=XC hown8 oM;obtain⟨hD8,ce8,fe8,hq8,hz8⟩:=HLk.push (x:=(v:Int)) (s:=b) (t:=k) HU.out hlt hkm (by rw[HUX.out,<-HUL.out];exact hg8) (by rw[<-HUL.out];exact hown8) (by rw[HUX.out,<-HUL.out];simpa using hat8);rw[HUX.out,<-HUL.out]at ce8;have q1:=hq8 gO hgOl hgOb HNO.out;have q2:=hq8 gl HGk.lt (by have:=HGll.out;omega) HNL.out;have q3:=hq8 gi HIk.lt (by have:=HGil.out;omega) HNI.out;have z6:=(Xc (o:=b) q1.1).trans eO;have z7:=(Xc (o:=b) q1.2).trans eO;have HD8:=Xa (hD8.congr (fun s i _ _=>ZjX HPS.out s i));have HGL8:=Xa (HGk.of_block q2.2);have HIL8:=Xa (HIk.of_block q3.2);clear hown8 hg8 hat8 hD8 hq8 hz8 q1 q2 q3;refine hK _ _ z6 (fun hHeld=>?_);clear hK;refine KC 18 ?_;refine KC 19 ?_;refine Xt 20 (fun K hK=>?_);go_simp;refine hK _ _ z7 (fun hHeld=>?_);clear hK;refine YA ?_;exact hN.out _ _ _ _ _ _ _ _ _ _ _ _ _ _ _ _ _ _ _ _ _ HD8 HGL8 HIL8)
end Go.Proofs.YtlmgmkmomaileaaGreatDoor
