import Derived.Test.YthgikffcdgpgiaaGreatDoorMK2
namespace Go.Proofs.YthgikffcdgpgiaaGreatDoor
set_option maxHeartbeats 4000000
set_option maxRecDepth 1000000
open Go.RowKit
structure YZ(M:Nat->Prop)(U U':World):Prop where
 os:U'.os=U.os
 tape:U'.tape=U.tape
 output:U'.output=U.output
 size:U.heap.size<=U'.heap.size
 fr:∀q,q<U.heap.size->¬M q->U'.heap[q]?=U.heap[q]?
theorem YZ.refl(M:Nat->Prop)(U:World):YZ M U U:=⟨rfl,rfl,rfl,Nat.le_refl _,fun _ _ _=>rfl⟩
theorem YZ.trans{M:Nat->Prop}{A B C:World}(h:YZ M A B)(k:YZ M B C):YZ M A C :=
 ⟨k.os.trans h.os,k.tape.trans h.tape,k.output.trans h.output,Nat.le_trans h.size k.size,fun q h1 h2=>(k.fr q (Nat.lt_of_lt_of_le h1 h.size) h2).trans (h.fr q h1 h2)⟩
theorem YZ.of_below{M:Nat->Prop}{A B:World}(h:Below A.heap.size A B):YZ M A B:=⟨h.os,h.tape,h.output,h.size,fun q h1 _=>h.block q h1⟩
theorem YZ.of_grown{M:Nat->Prop}{A B:World}{g:Nat}(h:A.grownBy B (some g))(hg:M g):YZ M A B:=⟨h.os,h.tape,h.output,h.size,fun q h1 h2=>h.block q h1 (fun e=>h2 (by injection e with e;rw[e];exact hg))⟩
theorem YZ.set{M:Nat->Prop}(A:World)(p:Addr)(v:Value)(hg:M p.block):YZ M A (A.setCell p v):=⟨rfl,rfl,rfl,by simp[World.setCell],fun q _ h2=>Below.heap_setCell _ _ _ _ (fun e=>h2 (by rw[e];exact hg))⟩
theorem YZ.cell{M:Nat->Prop}{A B:World}(h:YZ M A B){p:Addr}{v:Value}(hp:¬M p.block)(hc:A.cell? p=some v):B.cell? p=some v:=(World.cell?_of_block (h.fr _ (World.block_lt_of_cell? A _ hc) hp)).trans hc
structure CoM(V cap gp go bo bp bc bv:Nat)(C:Nat->Int)(U:World):Prop where
 row:IaAt U gp V cap C
 out:IaAt U go V V (fun u=>if C u=-1 then 0 else C u)
 box:U.rowIs bo 28 3 (trG (.int .i64 0) (.slice (some ⟨go,0,none⟩) V V) (.int .i64 (ckN C V)))
 pick:U.cell? ⟨bp,0,none⟩=some (.func (.func 57) #[] #[.pointer (some ⟨bc,0,none⟩),.pointer (some ⟨bv,0,none⟩)])
 cc:U.cell? ⟨bc,0,none⟩=some (.slice (some ⟨gp,0,none⟩) V cap)
 cv:U.cell? ⟨bv,0,none⟩=some (.int .i64 (V:Int))
 rng:∀u,u<V->C u=-1\/0<=C u/\C u<V
 n1:gp≠go
 n2:bo≠gp/\bo≠go
 n3:bp≠gp/\bp≠go/\bp≠bo
 n4:bc≠gp/\bc≠go/\bc≠bo
 n5:bv≠gp/\bv≠go/\bv≠bo
def CoS(gp go bo q:Nat):Prop:=q=gp\/q=go\/q=bo
theorem CoM.far{V cap gp go bo bp bc bv:Nat}{C:Nat->Int}{U U':World}(h:CoM V cap gp go bo bp bc bv C U)(k:Below U.heap.size U U'):CoM V cap gp go bo bp bc bv C U' :=
 ⟨h.row.of_block (k.block _ h.row.lt),h.out.of_block (k.block _ h.out.lt),h.box.of_block (k.block _ h.box.lt),(k.cell (p:=⟨bp,0,none⟩) (World.block_lt_of_cell? U _ h.pick)).trans h.pick,(k.cell (p:=⟨bc,0,none⟩) (World.block_lt_of_cell? U _ h.cc)).trans h.cc,(k.cell (p:=⟨bv,0,none⟩) (World.block_lt_of_cell? U _ h.cv)).trans h.cv,h.rng,h.n1,h.n2,h.n3,h.n4,h.n5⟩
theorem ZgF(v V z Kw Cp cap gp go bo bp bc bv:Nat)(W:Nat->Nat)(C:Nat->Int)(w:World)(hz:Hid (WsAt w z Kw Cp W))(hwd:Hid (Xw W))(hT:Hid (Zs w))(hK:Kw<=100)(hlt:Hid (WJ V Kw W))(hV:V<=2000)(hC:Hid (CoM V cap gp go bo bp bc bv C w))(hv:v<V)(hn:Hid (C v=-1)) :
 Calls Tryz.prog 28 #[.int .i64 (v:Int),.agg #[.slice (some ⟨z,0,none⟩) Kw Cp],.pointer (some ⟨bp,0,none⟩),.pointer (some ⟨bo,0,none⟩)] w fun e w'=>e=.returned (.tuple #[])/\YZ (CoS gp go bo) w w'/\CoM V cap gp go bo bp bc bv (ckS C (v,lsN W (64*Kw))) w':=by
 have HP:=Xa (fun U (hb:Below w.heap.size w U)=>ZfO v V z Kw Cp cap gp bc bv W C U (Xa (hz.of_block (hb.block z hz.lt))) hwd (Xa (hT.of_block (hb.block _ (World.block_lt_of_cell? w _ (hT.out 0 vZ))))) hK hlt hV (Xa (hC.far hb).row) (Xa hC.rng) hv hn (hC.far hb).cc (hC.far hb).cv hC.n4.1);have eg:∀args w,(callFunc 57 args).run Tryz.prog w=.ok (.enter 57 args) w:=enters_of Tryz.func57 kR rfl;have c1:=hC.pick;have l1:=World.block_lt_of_cell? w _ c1;have HSL:Hid (smN C (lsN W (64*Kw))<V):=Xa (ZfT (ZbZ C _).low (Zhu hlt.out) hv hn.out);have HRG:Hid (∀u,u<V->ckS C (v,lsN W (64*Kw)) u=-1\/0<=ckS C (v,lsN W (64*Kw)) u/\ckS C (v,lsN W (64*Kw)) u<V):=Xa (fun u hu=>by
  unfold ckS;by_cases e:u=v
  ·rw[if_pos e]
   right;have:=HSL.out;show 0<=((smN C (lsN W (64*Kw)):Nat):Int)/\((smN C (lsN W (64*Kw)):Nat):Int)<V;omega
  ·rw[if_neg e];exact hC.rng u hu)
 have HOU:Hid (∀u,(fun u=>if u=v then (smN C (lsN W (64*Kw)):Int)else (if C u=-1 then 0 else C u)) u=(fun u=>if ckS C (v,lsN W (64*Kw)) u=-1 then 0 else ckS C (v,lsN W (64*Kw)) u) u):=Xa (fun u=>by
  unfold ckS;by_cases e:u=v
  ·simp only[e,if_true]
   rw[if_neg oM]
  ·simp only[e,if_false])
 have HNN:Hid (ckN (ckS C (v,lsN W (64*Kw))) V=max (ckN C V) ((smN C (lsN W (64*Kw)):Int)+1)):=Xa (ZcV (C:=C) (v:=v) hn.out V hv);generalize ckS C (v,lsN W (64*Kw))=C' at *;generalize smN C (lsN W (64*Kw))=sm at *;have hsm:=HSL.out;have hwc:IntKind.i64.wrap ((sm:Int)+1)=(sm:Int)+1:=by rw[IntKind.wrap_i64];omega
 have hne:=hC.n2;have hgl:=hC.row.lt;have hol:=hC.out.out.lt;have hbl:=hC.box.lt
 go_enter Tryz.func28,Tryz.ntmps28
 go_wp2_with fail
 have hb0:Below w.heap.size w (w.alloc (.cells #[.slice (some ⟨z,0,none⟩) Kw Cp] 75)):=Xb (Below.refl _ _) _;have HM0:=Xa (hC.far hb0);generalize w.alloc (.cells #[.slice (some ⟨z,0,none⟩) Kw Cp] 75)=w0 at *;refine(HP.out _ hb0).mono ?_;rintro e w1 ⟨rfl,hg1,hr1⟩;have HF1:Hid (YZ (CoS gp go bo) w w1):=Xa ((YZ.of_below hb0).trans (YZ.of_grown hg1 (Or.inl rfl)));have HR1:=Xa hr1;have HBX:=Xa (HM0.box.of_block (hg1.block bo HM0.box.lt (fun e=>hne.1 (by injection e))));have HOT:=Xa (HM0.out.out.of_block (hg1.block go HM0.out.out.lt (fun e=>hC.n1 (by injection e with e;exact e.symm))));clear HM0 hb0 hg1 hr1 HP c1 l1;have q1:=HBX.cell (i:=1) vZ;have q2:=HBX.cell (i:=2) vZ;have qf:=HBX.frozen 2;have y1:=HOT.cell hv;have yf:=HOT.frozen v;simp only[trG]at q1 q2;have hvi:(v:Int)<(V:Int):=oM;have s2:(w1.setCell ⟨go,v,none⟩ (.int .i64 (sm:Int))).cell? ⟨bo,2,none⟩=some (.int .i64 (ckN C V)):=(World.cell?_setCell_far w1 ⟨go,v,none⟩ ⟨bo,2,none⟩ _ (by show go≠bo;exact fun e=>hne.2 e.symm)).trans q2;have HB2:=Xa (HBX.setOther (a:=⟨go,v,none⟩) (by show bo≠go;exact hne.2) (.int .i64 (sm:Int)));have HO2:=Xa ((HOT.set v (sm:Int) hv).congr (fun u _=>HOU.out u));have HR2:=Xa (HR1.setOther (a:=⟨go,v,none⟩) (by show gp≠go;exact hC.n1) (.int .i64 (sm:Int)));have HF2:Hid (YZ (CoS gp go bo) w (w1.setCell ⟨go,v,none⟩ (.int .i64 (sm:Int)))):=Xa (HF1.trans (YZ.set _ _ _ (Or.inr (Or.inl rfl))));have qf2:=HB2.frozen 2;generalize ckN C V=kc at *
 go_wp2_with fail
 go_end0
 refine⟨rfl,HF2.trans (YZ.set _ _ _ (Or.inr (Or.inr rfl))),?_⟩;have hF:=HF2.trans (YZ.set (M:=CoS gp go bo) (w1.setCell ⟨go,v,none⟩ (.int .i64 (sm:Int))) ⟨bo,2,none⟩ (.int .i64 (max kc ((sm:Int)+1))) (Or.inr (Or.inr rfl)));have nS:∀b,b≠gp/\b≠go/\b≠bo->¬CoS gp go bo b:=fun b h k=>by
  rcases k with k | k | k
  ·exact h.1 k
  ·exact h.2.1 k
  ·exact h.2.2 k
 refine⟨HR2.setOther (by show gp≠bo;exact fun e=>hne.1 e.symm) _,HO2.setOther (by show go≠bo;exact fun e=>hne.2 e.symm) _,(HB2.set 2 _).congr (fun i hi=>?_),hF.cell (nS _ hC.n3) hC.pick,hF.cell (nS _ hC.n4) hC.cc,hF.cell (nS _ hC.n5) hC.cv,HRG.out,hC.n1,hC.n2,hC.n3,hC.n4,hC.n5⟩;rw[HNN.out]
 match i,hi with
 | 0,_=>rfl
 | 1,_=>rfl
 | 2,_=>rfl
theorem Zc0(V:Nat)(w:World)(hV:V<=2000) :
 Calls Tryz.prog 26 #[.int .i64 (V:Int)] w fun e w'=>∃bc bv gp,e=.returned (.func (.func 57) #[] #[.pointer (some ⟨bc,0,none⟩),.pointer (some ⟨bv,0,none⟩)])/\Below w.heap.size w w'/\w.heap.size<=gp/\w.heap.size<=bc/\w.heap.size<=bv/\bc≠gp/\bv≠gp/\IaAt w' gp V V (fun _=>-1)/\w'.cell? ⟨bc,0,none⟩=some (.slice (some ⟨gp,0,none⟩) V V)/\w'.cell? ⟨bv,0,none⟩=some (.int .i64 (V:Int)):=by
 go_enter Tryz.func26,Tryz.ntmps26
 go_wp2_with fail
 have hb0:Below w.heap.size w ((w.alloc (.cells #[.int .i64 (V:Int)] 2)).alloc (.cells #[.int .i64 (-1)] 2)):=Xb (Xb (Below.refl _ _) _) _;have hs0:((w.alloc (.cells #[.int .i64 (V:Int)] 2)).alloc (.cells #[.int .i64 (-1)] 2)).heap.size=w.heap.size+2:=sP;have c0:((w.alloc (.cells #[.int .i64 (V:Int)] 2)).alloc (.cells #[.int .i64 (-1)] 2)).cell? ⟨w.heap.size,0,none⟩=some (.int .i64 (V:Int)):=by simp[go_sem]
 have c1:((w.alloc (.cells #[.int .i64 (V:Int)] 2)).alloc (.cells #[.int .i64 (-1)] 2)).cell? ⟨w.heap.size+1,0,none⟩=some (.int .i64 (-1)):=by simp[go_sem]
 refine(Vr (w.heap.size+1) V _ hV c1 sP).mono ?_;rintro e w1 ⟨g,rfl,hg,hb1,hr1⟩;rw[hs0]at hg;have HB1:=Xa (Xe hb0 hb1);have HR1:=Xa hr1;have k0:=(XD hb1 oM).trans c0;have hs1:w.heap.size+2<=w1.heap.size:=by have:=hb1.size;omega
 have hgl:=hr1.lt;clear hb0 hb1 c0 c1 hr1 hs0
 go_wp2_with fail
 go_ret
 exact⟨w1.heap.size,w.heap.size,g,rfl,Xb HB1.out _,oM,oM,Nat.le_refl _,oM,oM,IaAt.of_row (HR1.alloc _),by simp[go_sem],(World.cell?_alloc_lt _ _ _ (by show w.heap.size<_;omega)).trans k0⟩
def Z2(k:Nat):Code->Option Code
 | .seq x y=>match Z2 k x with
  | some c=>some c
  | none=>Z2 k y
 | .block i c=>if i=k then some c else Z2 k c
 | .scope c=>Z2 k c
 | .loop c=>Z2 k c
 | .cond _ x y=>match Z2 k x with
  | some c=>some c
  | none=>Z2 k y
 | _=>none
noncomputable def eaP:Code:=(Tryz.f27.body.bind (Z2 4)).getD .skip
noncomputable def eaI:Code:=(Tryz.f27.body.bind (Z2 6)).getD .skip
theorem YZ.drew{M:Nat->Prop}{A B:World}(h:YZ M A B):YZ M A B.drew:=h.trans (YZ.of_below (Below.refl _ _).drew)
theorem Zi5(bs G ns Kw z0 cz bp bo np pc:Nat)(pa:Option Addr)(ps:List Ph)(L B:Nat)(M:Nat->Prop)(Js:Nat->World->Prop)(U:World)(Q:Exit->Act->World->Prop)(ds:List Deferred)(c0 c2 c3 c4 c5 c6 c7 c9 c10 c11 c12 c13 c14 c15 c16 c17 c18 c19 c20 c21 c22 c23 c24 c25 c26 c27 c28 c29 c30 c31 c32 c33 c34 c35 c36 c37 c38 c39 c40 c41 c42 c43 c44 c45 c46 c47 c48 c49 c50 c51 c55 c56 c57 c58 c59 c60 c61 c62 c63 c64 c65 c66 c67 c68 c69 c70 c71 c72 c73 c74 c75 c76 c77 c78 c79 c80 c81 c82 c83 c84 c85 c86 c87 c88 c89 c90:Value)
 (hQ:Hid (∀c (a:Act) t v w,Q (.panic c) (a.put (some t) v) w->Q (.panic c) a w))
 (hph:Hid (XZ U L B pa ps)) (hnp:Hid (np=ps.length)) (hn4:np<=4000) (hM:Hid (∀q,L<=q->q<B->¬M q)) (hbs:Hid (¬M bs)) (hG:Hid (¬M G)) (hMl:Hid (∀q,M q->q<U.heap.size))
 (sb:U.cell? ⟨bs,0,none⟩=some (.slice (some ⟨G,0,none⟩) (ns+1) (ns+1))) (sg:U.cell? ⟨G,0,none⟩=some (.slice (some ⟨z0,0,none⟩) Kw cz))
 (hJ:Hid (∀i A A',Js i A->Below A.heap.size A A'->Js i A'))
 (hst:Hid (∀i (h:i<ps.length) A,YZ M U A->Js i A->Calls Tryz.prog 28 #[.int .i64 ps[i].dst,.agg #[.slice (some ⟨z0,0,none⟩) Kw cz],.pointer (some ⟨bp,0,none⟩),.pointer (some ⟨bo,0,none⟩)] A fun e A'=>e=.returned (.tuple #[])/\YZ M A A'/\Js (i+1) A'))
 (h0:Hid (Js 0 U))
 (hN:Hid (∀(d12 d55 d56 d57 d58 d59 d60 d61 d62 d63 d64 d65:Value)(A:World),YZ M U A->Js np A->Q (.exit 4) ⟨#[c0,.func (.func 28) #[] #[.pointer (some ⟨bp,0,none⟩),.pointer (some ⟨bo,0,none⟩)],c2,c3,c4,c5,c6,c7,.pointer (some ⟨bs,0,none⟩),c9,c10,c11,d12,c13,c14,c15,c16,c17,c18,c19,c20,c21,c22,c23,c24,c25,c26,c27,c28,c29,c30,c31,c32,c33,c34,c35,c36,c37,c38,c39,c40,c41,c42,c43,c44,c45,c46,c47,c48,c49,c50,c51,.slice pa np pc,.int .i64 (np:Int),.int .i64 (np:Int),d55,d56,d57,d58,d59,d60,d61,d62,d63,d64,d65,c66,c67,c68,c69,c70,c71,c72,c73,c74,c75,c76,c77,c78,c79,c80,c81,c82,c83,c84,c85,c86,c87,c88,c89,c90],ds⟩ A)) :
 Code.wp Tryz.prog eaP Q ⟨#[c0,.func (.func 28) #[] #[.pointer (some ⟨bp,0,none⟩),.pointer (some ⟨bo,0,none⟩)],c2,c3,c4,c5,c6,c7,.pointer (some ⟨bs,0,none⟩),c9,c10,c11,c12,c13,c14,c15,c16,c17,c18,c19,c20,c21,c22,c23,c24,c25,c26,c27,c28,c29,c30,c31,c32,c33,c34,c35,c36,c37,c38,c39,c40,c41,c42,c43,c44,c45,c46,c47,c48,c49,c50,c51,.slice pa np pc,.int .i64 (np:Int),.int .i64 0,c55,c56,c57,c58,c59,c60,c61,c62,c63,c64,c65,c66,c67,c68,c69,c70,c71,c72,c73,c74,c75,c76,c77,c78,c79,c80,c81,c82,c83,c84,c85,c86,c87,c88,c89,c90],ds⟩ U:=by
 conv=>arg 2;whnf
 dsimp only;have eg:∀args w,(callFunc 28 args).run Tryz.prog w=.ok (.enter 28 args) w:=enters_of Tryz.func28 kR rfl;have HSB:=Xa sb;have HSG:=Xa sg;clear sb sg
 go_loopw [54] (fun i wx=>∃i':Nat,i'<=np/\i=.int .i64 i'/\Hid (YZ M U wx)/\Hid (Js i' wx)) (fun i _=>np-(intOf i).toNat)
 case atStart=>exact⟨0,Nat.zero_le _,rfl,Xa (YZ.refl _ _),h0⟩
 case round =>
  obtain⟨i,hi,rfl,HF,HJ⟩:=hrel;by_cases hli:i<np
  ·have hi':i<ps.length:=by rw[<-hnp.out];exact hli
   obtain⟨pb,po,rfl,hpb,pav,pcv,d0,d1,_⟩:=hph.out i hi';have e0:=HF.cell (hM.out pb hpb.1 hpb.2) d0;have e1:=HF.cell (hM.out pb hpb.1 hpb.2) d1;have HSTi:=Xa (hst.out i hi');generalize ps[i].dst=dd at *;generalize ps[i].args.length=dl at *;have hii:(i:Int)<(np:Int):=oM;clear d0 d1;have HBA:Hid (Below wr.heap.size wr (wr.alloc (.cells #[.int .i64 dd,.slice pav dl pcv] 64))):=Xa (Xb (Below.refl _ _) _);have HFA:Hid (YZ M U (wr.alloc (.cells #[.int .i64 dd,.slice pav dl pcv] 64))):=Xa (HF.trans (YZ.of_below HBA.out));have HJA:Hid (Js i (wr.alloc (.cells #[.int .i64 dd,.slice pav dl pcv] 64))):=Xa (hJ.out _ _ _ HJ.out HBA.out);have x0:(wr.alloc (.cells #[.int .i64 dd,.slice pav dl pcv] 64)).cell? ⟨wr.heap.size,0,none⟩=some (.int .i64 dd):=by simp[go_sem]
   have HXB:Hid (¬M wr.heap.size):=Xa (fun h=>by have:=hMl.out _ h;have:=HF.size;omega)
   go_wp2_with fail
   generalize wr.alloc (.cells #[.int .i64 dd,.slice pav dl pcv] 64)=w5 at *;generalize wr.heap.size=xb at *;have sb:=HFA.cell hbs.out HSB.out;have sg:=HFA.cell hG.out HSG.out;have HSC:=Xa (HSTi.out w5.drew HFA.drew (hJ.out _ _ _ HJA.out (Below.refl _ _).drew));clear e0 e1 HSTi;refine ZB (fun w'=>w'.cell? ⟨xb,0,none⟩=some (.int .i64 dd)/\w'.cell? ⟨bs,0,none⟩=some (.slice (some ⟨G,0,none⟩) (ns+1) (ns+1))/\w'.cell? ⟨G,0,none⟩=some (.slice (some ⟨z0,0,none⟩) Kw cz)) (fun hHeld=>?_);refine Yg 0 ?_;refine Yg 1 ?_;refine Yg 2 ?_;refine Yg 3 ?_;refine Yg 4 ?_;refine Yg 5 ?_;refine Xz 6 (fun K hK=>?_);go_simp;refine HSC.mono ?_;rintro e w6 ⟨rfl,hf6,hj6⟩;have HF6:=Xa (HFA.drew.trans hf6);have HJ6:=Xa hj6;refine hK _ _ ⟨hf6.cell HXB.out x0,hf6.cell hbs.out sb,hf6.cell hG.out sg⟩ (fun hHeld=>?_);clear hK;refine Zu ?_;clear hHeld sb sg x0 HSC hf6 hj6
   go_wp2_with fail
   exact⟨⟨i+1,oM,gM,HF6,HJ6⟩,by simp[intOf];omega⟩
  ·have hin:i=np:=oM
   subst hin
   go_wp2_with fail
   exact hN.out _ _ _ _ _ _ _ _ _ _ _ _ _ HF.out HJ.out
theorem ZiR(bs G Kw bp bo ni ic:Nat)(zs cw:Nat->Nat)(ia:Option Addr)(ys:List YK)(L B:Nat)(M:Nat->Prop)(Js:Nat->World->Prop)(U:World)(Q:Exit->Act->World->Prop)(ds:List Deferred)(c0 c2 c3 c4 c5 c6 c7 c9 c10 c11 c12 c13 c14 c15 c16 c17 c18 c19 c20 c21 c22 c23 c24 c25 c26 c27 c28 c29 c30 c31 c32 c33 c34 c35 c36 c37 c38 c39 c40 c41 c42 c43 c44 c45 c46 c47 c48 c49 c50 c51 c52 c53 c54 c55 c56 c57 c58 c59 c60 c61 c62 c63 c64 c65 c66 c70 c71 c72 c73 c74 c75 c76 c77 c78 c79 c80 c81 c82 c83 c84 c85 c86 c87 c88 c89 c90:Value)
 (hin:Hid (XL U L B ia ys)) (hni:Hid (ni=ys.length)) (hn4:ni<=4000) (hM:Hid (∀q,L<=q->q<B->¬M q)) (hbs:Hid (¬M bs)) (hG:Hid (¬M G))
 (sb:U.cell? ⟨bs,0,none⟩=some (.slice (some ⟨G,0,none⟩) (ni+1) (ni+1))) (sg:Hid (∀i,i<=ni->U.cell? ⟨G,i,none⟩=some (.slice (some ⟨zs i,0,none⟩) Kw (cw i))))
 (hops:Hid (∀y∈ys,1<=y.op/\y.op<=13)) (hOT:Hid (∀A,YZ M U A->Yf A))
 (hJ:Hid (∀i A A',Js i A->Below A.heap.size A A'->Js i A'))
 (hst:Hid (∀i (h:i<ys.length),dB ys[i].op=true->∀A,YZ M U A->Js i A->Calls Tryz.prog 28 #[.int .i64 ys[i].dst,.agg #[.slice (some ⟨zs (i+1),0,none⟩) Kw (cw (i+1))],.pointer (some ⟨bp,0,none⟩),.pointer (some ⟨bo,0,none⟩)] A fun e A'=>e=.returned (.tuple #[])/\YZ M A A'/\Js (i+1) A'))
 (hno:Hid (∀i (h:i<ys.length),dB ys[i].op=false->∀A,Js i A->Js (i+1) A))
 (h0:Hid (Js 0 U))
 (hN:Hid (∀(d13 d14 d16 d70 d71 d72 d73 d74 d75 d76 d77 d78 d79 d80 d81 d82 d83 d84 d85 d86 d87 d88 d89:Value)(A:World),YZ M U A->Js ni A->Q (.exit 6) ⟨#[c0,.func (.func 28) #[] #[.pointer (some ⟨bp,0,none⟩),.pointer (some ⟨bo,0,none⟩)],c2,c3,c4,c5,c6,c7,.pointer (some ⟨bs,0,none⟩),c9,c10,c11,c12,d13,d14,c15,d16,c17,c18,c19,c20,c21,c22,c23,c24,c25,c26,c27,c28,c29,c30,c31,c32,c33,c34,c35,c36,c37,c38,c39,c40,c41,c42,c43,c44,c45,c46,c47,c48,c49,c50,c51,c52,c53,c54,c55,c56,c57,c58,c59,c60,c61,c62,c63,c64,c65,c66,.slice ia ni ic,.int .i64 (ni:Int),.int .i64 (ni:Int),d70,d71,d72,d73,d74,d75,d76,d77,d78,d79,d80,d81,d82,d83,d84,d85,d86,d87,d88,d89,c90],ds⟩ A)) :
 Code.wp Tryz.prog eaI Q ⟨#[c0,.func (.func 28) #[] #[.pointer (some ⟨bp,0,none⟩),.pointer (some ⟨bo,0,none⟩)],c2,c3,c4,c5,c6,c7,.pointer (some ⟨bs,0,none⟩),c9,c10,c11,c12,c13,c14,c15,c16,c17,c18,c19,c20,c21,c22,c23,c24,c25,c26,c27,c28,c29,c30,c31,c32,c33,c34,c35,c36,c37,c38,c39,c40,c41,c42,c43,c44,c45,c46,c47,c48,c49,c50,c51,c52,c53,c54,c55,c56,c57,c58,c59,c60,c61,c62,c63,c64,c65,c66,.slice ia ni ic,.int .i64 (ni:Int),.int .i64 0,c70,c71,c72,c73,c74,c75,c76,c77,c78,c79,c80,c81,c82,c83,c84,c85,c86,c87,c88,c89,c90],ds⟩ U:=by
 conv=>arg 2;whnf
 dsimp only;have eg:∀args w,(callFunc 28 args).run Tryz.prog w=.ok (.enter 28 args) w:=enters_of Tryz.func28 kR rfl;have HSB:=Xa sb;clear sb
 go_loopw [69] (fun i wx=>∃i':Nat,i'<=ni/\i=.int .i64 i'/\Hid (YZ M U wx)/\Hid (Js i' wx)) (fun i _=>ni-(intOf i).toNat)
 case atStart=>exact⟨0,Nat.zero_le _,rfl,Xa (YZ.refl _ _),h0⟩
 case round =>
  obtain⟨i,hi,rfl,HF,HJ⟩:=hrel;by_cases hli:i<ni
  ·have hi':i<ys.length:=by rw[<-hni.out];exact hli
   obtain⟨pb,po,rfl,hpb,d0,d1,d2,d3,d4⟩:=hin.out i hi';have hnp:=hM.out pb hpb.1 hpb.2;have e0:=HF.cell hnp d0;have e1:=HF.cell hnp d1;have e2:=HF.cell hnp d2;have e3:=HF.cell hnp d3;have e4:=HF.cell hnp d4;have hop:=hops.out _ (List.getElem_mem hi');have HSTi:=Xa (hst.out i hi');have HNOi:=Xa (hno.out i hi');generalize ys[i]=y at *;obtain⟨op,dd,da,db,di⟩:=y;simp only at e0 e1 e2 e3 e4 hop HSTi HNOi;obtain⟨kop,hkop⟩:=Int.eq_ofNat_of_zero_le (show 0<=op by omega);subst hkop;have hii:(i:Int)<(ni:Int):=oM;clear d0 d1 d2 d3 d4;have HBA:Hid (Below wr.heap.size wr (wr.alloc (.cells #[.int .i64 (kop:Int),.int .i64 dd,.int .i64 da,.int .i64 db,.int .i64 di] 67))):=Xa (Xb (Below.refl _ _) _);have HFA:Hid (YZ M U (wr.alloc (.cells #[.int .i64 (kop:Int),.int .i64 dd,.int .i64 da,.int .i64 db,.int .i64 di] 67))):=Xa (HF.trans (YZ.of_below HBA.out));have HJA:Hid (Js i (wr.alloc (.cells #[.int .i64 (kop:Int),.int .i64 dd,.int .i64 da,.int .i64 db,.int .i64 di] 67))):=Xa (hJ.out _ _ _ HJ.out HBA.out);have HIA:Hid (Y5 (wr.alloc (.cells #[.int .i64 (kop:Int),.int .i64 dd,.int .i64 da,.int .i64 db,.int .i64 di] 67)) wr.heap.size 0 ⟨kop,dd,da,db,di⟩):=Xa ⟨by simp[go_sem],by simp[go_sem],by simp[go_sem],by simp[go_sem],by simp[go_sem]⟩
   go_wp2_with fail
   generalize (wr.alloc (.cells #[.int .i64 (kop:Int),.int .i64 dd,.int .i64 da,.int .i64 db,.int .i64 di] 67))=w5 at *;generalize wr.heap.size=xb at *;have HWR:=Xa (Ve xb kop dd da db di w5 HIA oM oM (Xa (hOT.out _ HFA.out)));clear e0 e1 e2 e3 e4 HIA HBA;refine HWR.mono ?_;rintro e w6 ⟨v6,rfl,hb6,ho6⟩;have HF6:=Xa (HFA.trans (YZ.of_below hb6));have HJ6:=Xa (hJ.out _ _ _ HJA.out hb6);clear HWR;cases hu:dB (kop:Int)with
   | false =>
    obtain⟨av,cv,e6,_⟩:=Xj ho6;rw[show(writesI ⟨(kop:Int),dd,da,db,di⟩).length=0 by unfold writesI;rw[hu];rfl]at e6;subst e6;have HJN:=Xa (HNOi.out hu);clear hu hb6 ho6 HSTi HNOi
    go_wp2_with fail
    generalize wr=wv at *
    go_loopw [76] (fun j wx=>j=.int .i64 0/\Hid (YZ M U wx)/\Hid (Js i wx)) (fun _ _=>0)
    case atStart=>exact⟨rfl,HF6,HJ6⟩
    case round =>
     obtain⟨rfl,HFx,HJx⟩:=hrel
     go_wp2_with fail
     exact⟨⟨i+1,oM,gM,HFx,Xa (HJN.out _ HJx.out)⟩,by simp[intOf];omega⟩
   | true =>
    have h1:w6.ownsRow w5.heap.size 2 1 v6 1 [.int .i64 dd]:=by
     have:=ho6;unfold writesI at this;rw[hu]at this;exact this
    obtain⟨gv,cv,e6,hgv,hcv⟩:∃gv cv,v6=.slice (some ⟨gv,0,none⟩) 1 cv/\w5.heap.size<=gv/\w6.cell? ⟨gv,0,none⟩=some (.int .i64 dd):=by
     obtain⟨gv,cv,e,h2,_⟩:=Xp h1 oM;subst e;exact⟨gv,cv,rfl,h2.1,YP h1 rfl⟩
    subst e6;have HCV:=Xa hcv;have HSC:=Xa (fun A h1 h2=>HSTi.out hu A h1 h2);clear hu hb6 ho6 h1 HSTi HNOi hcv
    go_wp2_with fail
    generalize wr=wv at *
    go_loopw [76] (fun j wx=>(j=.int .i64 0/\Hid (YZ M U wx)/\Hid (Js i wx)/\Hid (wx.cell? ⟨gv,0,none⟩=some (.int .i64 dd)))\/(j=.int .i64 1/\Hid (YZ M U wx)/\Hid (Js (i+1) wx))) (fun j _=>1-(intOf j).toNat)
    case atStart=>exact Or.inl ⟨rfl,HF6,HJ6,HCV⟩
    case round =>
     rcases hrel with⟨rfl,HFx,HJx,HCx⟩ | ⟨rfl,HFx,HJx⟩
     ·have sb:=HFx.cell hbs.out HSB.out
      have sg1:=HFx.cell hG.out (sg.out (i+1) oM);have cx:=HCx.out;have hwj:IntKind.i64.wrap ((i:Int)+1)=(i:Int)+1:=by rw[IntKind.wrap_i64];omega
      have hj0:0<=(i:Int)+1:=oM;have hjn1:(i:Int)+1<(ni:Int)+1:=oM;have HCC:=Xa (HSC.out wr HFx.out HJx.out)
      go_wp2_with fail
      refine HCC.mono ?_;rintro e w7 ⟨rfl,hf7,hj7⟩;have HF7:=Xa (HFx.trans hf7);have HJ7:=Xa hj7;clear hf7 hj7 sb sg1 cx
      go_wp2_with fail
      exact⟨Or.inr ⟨gM,HF7,HJ7⟩,by simp[intOf]⟩
     ·go_wp2_with fail
      exact⟨⟨i+1,oM,gM,HFx,HJx⟩,by simp[intOf];omega⟩
  ·have hin':i=ni:=oM
   subst hin'
   go_wp2_with fail
   exact hN.out _ _ _ _ _ _ _ _ _ _ _ _ _ _ _ _ _ _ _ _ _ _ _ _ HF.out HJ.out
section
structure VE(V:Nat)(w6:World)(G m Kw z:Nat)(pre:List Sd)(U:World):Prop where
 os:U.os=w6.os
 tape:U.tape=w6.tape
 output:U.output=w6.output
 size:w6.heap.size<=U.heap.size
 fr:∀q,q<w6.heap.size->q≠G->U.heap[q]?=w6.heap[q]?
 zl:w6.heap.size<=z/\z<U.heap.size
 gl:G<w6.heap.size
 db:∃T:Nat->Value,U.rowIs G 75 m T/\∀i,i<m->(∀q∈pre,q.i≠i)\/∃q∈pre,q.i=i/\(Xw q.W/\WJ V Kw q.W)/\∃zi ci,T i=.slice (some ⟨zi,0,none⟩) Kw ci/\(w6.heap.size<=zi/\zi≠z)/\WsAt U zi Kw ci q.W
section
variable {V : Nat} {w6 U U' U5 : World} {G m Kw z : Nat} {pre : List Sd}
theorem WsAt.cells{w:World}{g K C:Nat}{W:Nat->Nat}(h:WsAt w g K C W):∃o,w.heap[g]?=some o/\o.isCells=true:=by
 obtain⟨_,T,c,h1,_⟩:=h;exact⟨_,h1,rfl⟩
theorem VE.row(h:VE V w6 G m Kw z pre U){r:Nat}(hr:w6.heap.size<=r)(k:U.grownBy U' (some r))(hn:r=z\/∃o:Obj,U.heap[r]?=some o/\o.isCells=false):VE V w6 G m Kw z pre U':=by
 obtain⟨T,h1,h3⟩:=h.db;have hgl:=h.gl;refine⟨k.os.trans h.os,k.tape.trans h.tape,k.output.trans h.output,Nat.le_trans h.size k.size,fun q q1 q2=>(k.block q (by have:=h.size;omega) (fun e=>by injection e with e;omega)).trans (h.fr q q1 q2),⟨h.zl.1,Nat.lt_of_lt_of_le h.zl.2 k.size⟩,hgl,T,h1.of_block (k.block G h1.lt (fun e=>by injection e with e;omega)),fun i hi=>?_⟩;rcases h3 i hi with e | ⟨q,q1,q2,q3,zi,ci,e1,e2,e3⟩
 ·exact Or.inl e
 ·refine Or.inr ⟨q,q1,q2,q3,zi,ci,e1,e2,e3.of_block (k.block zi e3.lt (fun e=>?_))⟩
  injection e with e;rcases hn with hn | ⟨o,o1,o2⟩
  ·exact e2.2 (by rw[e];exact hn)
  ·obtain⟨o',o3,o4⟩:=e3.cells
   rw[e,o1]at o3;injection o3 with o3;subst o3;rw[o2]at o4;cases o4
theorem VE.below(h:VE V w6 G m Kw z pre U)(k:Below U.heap.size U U'):VE V w6 G m Kw z pre U':=by
 obtain⟨T,h1,h3⟩:=h.db;refine⟨k.os.trans h.os,k.tape.trans h.tape,k.output.trans h.output,Nat.le_trans h.size k.size,fun q q1 q2=>(k.block q (by have:=h.size;omega)).trans (h.fr q q1 q2),⟨h.zl.1,Nat.lt_of_lt_of_le h.zl.2 k.size⟩,h.gl,T,h1.of_block (k.block G h1.lt),fun i hi=>?_⟩;rcases h3 i hi with e | ⟨q,q1,q2,q3,zi,ci,e1,e2,e3⟩
 ·exact Or.inl e
 ·exact Or.inr ⟨q,q1,q2,q3,zi,ci,e1,e2,e3.of_block (k.block zi e3.lt)⟩
theorem VE.turn(h:VE V w6 G m Kw z pre U)(k:U.grownBy U' (some z)):VE V w6 G m Kw z pre U':=h.row h.zl.1 k (Or.inl rfl)
theorem VE.own(V:Nat)(w6:World)(G m Kw z:Nat):OwnFrom w6.heap.size (VE V w6 G m Kw z):=fun pre U U' row h k q=>by
 cases row with
 | none=>exact h.below ⟨k.os,k.tape,k.output,k.size,fun b hb=>k.block b hb (fun e=>by cases e)⟩
 | some r =>
  obtain⟨h1,o,h2,h3⟩:=q r rfl;exact h.row h1 k (Or.inr ⟨o,h2,h3⟩)
theorem VE.push(h:VE V w6 G m Kw z pre U){s:Sd}(hs:Xw s.W/\WJ V Kw s.W)(k:Below U.heap.size U U5){zi ci:Nat}(hz:U.heap.size<=zi)(hw:WsAt U5 zi Kw ci s.W):VE V w6 G m Kw z (pre++[s]) (U5.setCell ⟨G,s.i,none⟩ (.slice (some ⟨zi,0,none⟩) Kw ci)):=by
 have h5:=h.below k;obtain⟨T,h1,h3⟩:=h5.db;have hgl:=h.gl;have hsz:=h.size;have hzl:=h.zl;refine⟨h5.os,h5.tape,h5.output,by rw[Xd];exact h5.size,fun q q1 q2=>(Below.heap_setCell _ _ _ _ q2).trans (h5.fr q q1 q2),⟨h5.zl.1,by rw[Xd];exact h5.zl.2⟩,hgl,fun i=>if i=s.i then .slice (some ⟨zi,0,none⟩) Kw ci else T i,(h1.set s.i _).congr (fun i _=>by by_cases e:i=s.i<;>simp[e]),fun i hi=>?_⟩;by_cases e:i=s.i
 ·refine Or.inr ⟨s,sP,e.symm,hs,zi,ci,by simp only[e,if_true],⟨oM,oM⟩,hw.setOther (by show zi≠G;omega) _⟩
 ·rcases h3 i hi with e1 | ⟨q,q1,q2,q3,zi',ci',e1,e2,e3⟩
  ·refine Or.inl (fun q hq=>?_)
   rcases List.mem_append.1 hq with hq | hq
   ·exact e1 q hq
   ·rw[List.mem_singleton.1 hq]
    exact fun e3=>e e3.symm
  ·exact Or.inr ⟨q,List.mem_append_left _ q1,q2,q3,zi',ci',by simp only[e,if_false];exact e1,e2,e3.setOther (by show zi'≠G;omega) _⟩
theorem VE.cell(h:VE V w6 G m Kw z pre U){b o:Nat}{v:Value}(hb:b≠G)(hc:w6.cell? ⟨b,o,none⟩=some v):U.cell? ⟨b,o,none⟩=some v:=(Xc (h.fr b (World.block_lt_of_cell? w6 _ hc) hb)).trans hc
theorem VE.done{xs:List Xi}(ho:ZZ V xs){k:Nat}(hk:k<xs.length){W0:Nat->Nat}(hV:V<=64*Kw)(hq:∀v,v<64*Kw->(Xf W0 v=true↔VP xs v k)){ss:List Sd}(hs:ss.map Sd.dat=Kh xs[k].instrs.length W0 (plL xs[k]))(h:VE V w6 G (xs[k].instrs.length+1) Kw z ss U) :
 ∃(zs cw:Nat->Nat)(Ws:Nat->Nat->Nat),∀i,i<=xs[k].instrs.length->U.cell? ⟨G,i,none⟩=some (.slice (some ⟨zs i,0,none⟩) Kw (cw i))/\w6.heap.size<=zs i/\WsAt U (zs i) Kw (cw i) (Ws i)/\Xw (Ws i)/\WJ V Kw (Ws i)/\lsN (Ws i) (64*Kw)=ptP xs xs[k] V k i:=by
 obtain⟨T,h1,h3⟩:=h.db;have key:∀i,∃zi ci Wi,i<=xs[k].instrs.length->U.cell? ⟨G,i,none⟩=some (.slice (some ⟨zi,0,none⟩) Kw ci)/\w6.heap.size<=zi/\WsAt U zi Kw ci Wi/\Xw Wi/\WJ V Kw Wi/\lsN Wi (64*Kw)=ptP xs xs[k] V k i:=fun i=>by
  by_cases hi:i<=xs[k].instrs.length
  ·rcases h3 i oM with e | ⟨q,q1,q2,q3,zi,ci,e1,e2,e3⟩
   ·obtain⟨W,hW⟩:=Zho xs[k] W0 (i:=i) oM
    rw[<-hs]at hW;obtain⟨q,q1,q2⟩:=List.mem_map.1 hW;exact absurd (congrArg Prod.fst q2) (e q q1)
   ·refine⟨zi,ci,q.W,fun _=>⟨by rw[h1.cell oM,e1],e2.1,e3,q3.1,q3.2,?_⟩⟩
    have hm:(i,q.W)∈Kh xs[k].instrs.length W0 (plL xs[k]):=by
     rw[<-hs,<-q2];exact List.mem_map.2 ⟨q,q1,rfl⟩
    rw[Zhj ho hk hV hq hm]
  ·exact⟨0,0,fun _=>0,fun h=>absurd h hi⟩
 refine⟨fun i=>Classical.choose (key i),fun i=>Classical.choose (Classical.choose_spec (key i)),fun i=>Classical.choose (Classical.choose_spec (Classical.choose_spec (key i))),fun i hi=>Classical.choose_spec (Classical.choose_spec (Classical.choose_spec (key i))) hi⟩
end
theorem ZfE{xs:List Xi}{V:Nat}{od:List Nat}{k:Nat}(hk:k<od.length)(hb:od[k]<xs.length):∃post,ZE xs V od=ZE xs V (od.take k)++(T9 xs V od[k] xs[od[k]] xs[od[k]].phis.length++Kv xs V od[k] xs[od[k]] xs[od[k]].instrs.length)++post:=by
 have e:od=od.take k++od[k]::od.drop (k+1):=by rw[List.getElem_cons_drop,List.take_append_drop]
 refine⟨ZE xs V (od.drop (k+1)),?_⟩;have h2:skB xs V od[k]=T9 xs V od[k] xs[od[k]] xs[od[k]].phis.length++Kv xs V od[k] xs[od[k]] xs[od[k]].instrs.length:=by
  unfold skB;rw[List.getElem?_eq_getElem hb]
 rw[<-h2];unfold ZE
 conv=>lhs;rw[e]
 rw[List.flatMap_append,List.flatMap_cons,List.append_assoc]
theorem Zip{xs:List Xi}{V b:Nat}{x:Xi}{i:Nat}(hi:i<x.phis.length):∃r,T9 xs V b x x.phis.length=T9 xs V b x i++(x.phis[i].dst.toNat,ptP xs x V b 0)::r:=by
 refine⟨(x.phis.drop (i+1)).map fun p=>(p.dst.toNat,ptP xs x V b 0),?_⟩;have e:x.phis=x.phis.take i++x.phis[i]::x.phis.drop (i+1):=by rw[List.getElem_cons_drop,List.take_append_drop]
 unfold T9;rw[List.take_length]
 conv=>lhs;rw[e]
 rw[List.map_append,List.map_cons]
theorem Zex{xs:List Xi}{V b:Nat}{x:Xi}:∀(m i:Nat),∃r,Kv xs V b x (i+m)=Kv xs V b x i++r
 | 0,i=>⟨[],sP⟩
 | m+1,i=>by
  obtain⟨r,hr⟩:=Zex (xs:=xs) (V:=V) (b:=b) (x:=x) m i;rw[<-Nat.add_assoc,Kv,hr];exact⟨_,List.append_assoc _ _ _⟩
theorem Zje{xs:List Xi}{V:Nat}{od:List Nat}{k:Nat}(hk:k<od.length)(hb:od[k]<xs.length){i:Nat}(hi:i<xs[od[k]].phis.length):∃post,ZE xs V od=(ZE xs V (od.take k)++T9 xs V od[k] xs[od[k]] i)++(xs[od[k]].phis[i].dst.toNat,ptP xs xs[od[k]] V od[k] 0)::post:=by
 obtain⟨p1,e1⟩:=ZfE (V:=V) hk hb;obtain⟨p2,e2⟩:=Zip (xs:=xs) (V:=V) (b:=od[k]) hi;rw[e1,e2];exact⟨p2++Kv xs V od[k] xs[od[k]] xs[od[k]].instrs.length++p1,by simp[List.append_assoc]⟩
theorem ZiH{xs:List Xi}{V:Nat}{od:List Nat}{k:Nat}(hk:k<od.length)(hb:od[k]<xs.length){i d:Nat}(hi:i<xs[od[k]].instrs.length)(hu:dB xs[od[k]].instrs[i].op=true)(hd:xs[od[k]].instrs[i].dst=(d:Int)):∃post,ZE xs V od=(ZE xs V (od.take k)++T9 xs V od[k] xs[od[k]] xs[od[k]].phis.length++Kv xs V od[k] xs[od[k]] i)++(d,ptP xs xs[od[k]] V od[k] (i+1))::post:=by
 obtain⟨p1,e1⟩:=ZfE (V:=V) hk hb;obtain⟨p2,e2⟩:=Zex (xs:=xs) (V:=V) (b:=od[k]) (x:=xs[od[k]]) (xs[od[k]].instrs.length-(i+1)) (i+1);rw[show i+1+(xs[od[k]].instrs.length-(i+1))=xs[od[k]].instrs.length by omega,Zao hi hu hd]at e2;rw[e1,e2];exact⟨p2++p1,by simp[List.append_assoc]⟩
theorem Zg3{xs:List Xi}{V:Nat}{od:List Nat}{k:Nat}(hk:k<od.length)(hb:od[k]<xs.length):ZE xs V (od.take (k+1))=ZE xs V (od.take k)++T9 xs V od[k] xs[od[k]] xs[od[k]].phis.length++Kv xs V od[k] xs[od[k]] xs[od[k]].instrs.length:=by
 rw[List.take_add_one,List.getElem?_eq_getElem hk];show ZE xs V (od.take k++[od[k]])=_;rw[UC];unfold skB;rw[List.getElem?_eq_getElem hb,List.append_assoc]
end
end Go.Proofs.YthgikffcdgpgiaaGreatDoor
