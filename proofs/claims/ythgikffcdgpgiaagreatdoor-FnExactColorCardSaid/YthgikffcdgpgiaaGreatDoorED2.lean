import Derived.Test.YthgikffcdgpgiaaGreatDoorED0
import Derived.Test.YthgikffcdgpgiaaGreatDoorAN1
namespace Go.Proofs.YthgikffcdgpgiaaGreatDoor
open Go.RowKit Go.Shelf
attribute [local go_sem] Oper.semAt_some
structure EdO (w3 wr:World) (M:Nat→Prop) (J:List (Nat × List Nat)→World→Prop) (ss:List (Nat × List Nat)) (ds:List Nat):Prop where
 fr:FrM M w3 wr
 j:J ss wr
 mks:MksAt wr w3.heap.size ds
theorem mks_far {M:Nat→Prop} {W W':World} {B:Nat} {ds:List Nat} (h:MksAt W B ds) (k:FrM M W W') (hM:∀q,M q→q<B):MksAt W' B ds :=
 ⟨h.nd,h.ge,fun D hD=>(k.fr D (Array.getElem?_eq_some_iff.1 (h.obj D hD)).1 (fun e=>by have:=hM D e;have:=h.ge D hD;omega)).trans (h.obj D hD)⟩
theorem mks_cons {W:World} {B D:Nat} {ds:List Nat} (h:MksAt W B ds) (hD:B≤D) (hn:D ∉ ds) (ho:W.heap[D]?=some (.deferred (some []))):MksAt W B (D::ds) :=
 ⟨List.nodup_cons.2 ⟨hn,h.nd⟩,fun k hk=>by
  rcases List.mem_cons.1 hk with rfl | hk
  ·exact hD
  ·exact h.ge k hk,fun k hk=>by
  rcases List.mem_cons.1 hk with rfl | hk
  ·exact ho
  ·exact h.obj k hk⟩
theorem leavesM_tm {F:Fence} {n:Nat} {P:Program} {fn:Func} {R:Ending→World→Prop} {t t':Array Value} (hr:results fn t=results fn t'):∀ds:List Deferred,LeavesInM F n P fn t R ds=LeavesInM F n P fn t' R ds
 | []=>by
  funext u w
  cases u<;>simp only [LeavesInM,LeavesIn,hr]
 | d::ds=>by
  have ih:=leavesM_tm (F:=F) (n:=n) (P:=P) (R:=R) hr ds
  funext u w
  unfold LeavesInM
  rw [ih]
theorem headL {m:Nat} (A:Act) (mkA:Nat→List Nat→(Nat→Value)→Act) (R:Nat→List Nat→Prop) (k:Nat) (ds:List Nat) (hk:k≤m) (he:A=mkA k ds (fun i=>A.tmps.getD i undef)) (hR:R k ds):∃(k:Nat) (ds:List Nat) (f:Nat→Value),k≤m∧A=mkA k ds f∧R k ds:=⟨k,ds,_,hk,he,hR⟩
set_option maxHeartbeats 8000000 in
set_option maxRecDepth 1000000 in
theorem each_any (V:Nat) (a:Option Addr) (n c:Nat) (xs:List Blk) (L B:Nat) (w:World) (P:List Int) (bp bo:Nat) (M:Nat→Prop) (J:List (Nat × List Nat)→World→Prop) (ha:Hid (BlksAt w L B a xs)) (hx:Hid (n=xs.length)) (hs:Hid (xs.length+blksTot xs≤1048576)) (hB:B≤w.heap.size) (hO:Hid (OpTabW w)) (hT:Hid (TerTabW w)) (hTz:Hid (TzTab w)) (hv:Hid (validI ⟨(V:Int),xs⟩=true)) (ho:Hid (OkL V xs)) (hP:Hid (IsIdm (tgN xs) n P))
  (hM1:Hid (∀q,M q→q<w.heap.size)) (hM2:Hid (∀q,L≤q→q<B→¬M q)) (hM3:Hid (¬M 0∧¬M 2∧¬M 1))
  (hJ:Hid (∀ss A A',J ss A→(∀q,q<w.heap.size→q<A.heap.size→A'.heap[q]?=A.heap[q]?)→J ss A'))
  (hstep:Hid (∀(pre:List (Nat × List Nat)) (v:Nat) (l:List Nat) (post:List (Nat × List Nat)) (A:World) (z Kw Cz:Nat) (W:Nat→Nat),skA xs V (preP P n 0)=pre++(v,l)::post→J pre A→WsAt A z Kw Cz W→WdOk W→LtV V Kw W→Kw≤100→lsN W (64*Kw)=l→TzTab A→Calls Tryz.prog 28 #[.int .i64 (v:Int),.agg #[.slice (some ⟨z,0,none⟩) Kw Cz],.pointer (some ⟨bp,0,none⟩),.pointer (some ⟨bo,0,none⟩)] A fun e A'=>e=.returned (.tuple #[])∧FrM M A A'∧J (pre++[(v,l)]) A'))
  (h0:Hid (J [] w)) :
  Calls Tryz.prog 27 #[.agg #[.int .i64 (V:Int),.slice a n c],.func (.func 28) #[] #[.pointer (some ⟨bp,0,none⟩),.pointer (some ⟨bo,0,none⟩)]] w fun e w'=>e=.returned (.tuple #[])∧FrM M w w'∧J (skA xs V (preP P n 0)) w':=by
 have hn:n≤1000:=by have:=hx.out;have:=ho.out.okf.n2;omega
 have HFL:=hide (fun W (hb:Below w.heap.size w W)=>findLive_any V a n c xs L B W (hide (ha.out.keep (hb.mono hB))) hx (by have:=hb.size;omega) ho (hide (hO.out.keep hb hO.out.1)) (hide (hT.out.keep hb hT.out.1)))
 have HAN:=hide (fun W (hb:Below w.heap.size w W)=>analyzeI_any (V:Int) a n c xs L B W (hide (ha.out.keep (hb.mono hB))) hx hs (by have:=hb.size;omega) (hide (hO.out.keep hb hO.out.1).old) (hide (hT.out.keep hb hT.out.1).old) hv)
 obtain ⟨Kw,hkw⟩:∃q,q=(V+63) / 64:=⟨_,rfl⟩
 simp only [←hkw] at HFL
 have hV:=ho.out.vle
 have hKW:Kw≤100:=by omega
 have hVK:V≤64*Kw:=by omega
 clear hkw
 refine (callsIn_wide (n:=9)).1 ?_
 refine callsIn_of_wp_marks Tryz.func27 rfl trivial ?_ rfl
 simp only [Tryz.ntmps27,List.size_toArray,List.length_cons,List.length_nil,Nat.reduceAdd,Nat.reduceSub,Array.replicate_succ,Array.replicate_zero,List.push_toArray,List.append_toArray,List.nil_append,List.cons_append]
 gi_wp2
 have hb0:Below w.heap.size w (w.alloc (.cells #[.int .i64 (V:Int),.slice a n c] 32)):=balloc (Below.refl _ _) _
 have hs0:w.heap.size<(w.alloc (.cells #[.int .i64 (V:Int),.slice a n c] 32)).heap.size:=by simp
 have k0:(w.alloc (.cells #[.int .i64 (V:Int),.slice a n c] 32)).cell? ⟨w.heap.size,0,none⟩=some (.int .i64 (V:Int)):=by simp [go_sem]
 have k1:(w.alloc (.cells #[.int .i64 (V:Int),.slice a n c] 32)).cell? ⟨w.heap.size,1,none⟩=some (.slice a n c):=by simp [go_sem]
 generalize w.alloc (.cells #[.int .i64 (V:Int),.slice a n c] 32)=w0 at *
 refine ⟨trivial,(callsIn_wide.2 (HFL.out _ hb0)).mono ?_⟩
 rintro e w1 ⟨Gi,Go,gi,go,ci,WI,WX,rfl,hR⟩
 have HR:=hide hR
 have hR1:=hR.low
 have hz1:=hR1.size
 have g0:=(hR1.cell (p:=⟨w.heap.size,0,none⟩) hs0).trans k0
 have g1:=(hR1.cell (p:=⟨w.heap.size,1,none⟩) hs0).trans k1
 have HB1:=hide (bnext hb0 hR1)
 have hGo:w0.heap.size≤Go∧Go<w1.heap.size:=⟨hR.b1.2,hR.so.row.lt⟩
 have hww:w.heap.size<w1.heap.size:=by omega
 clear hb0 hR hR1 HFL k0 k1
 gi_wp2
 have hb2:Below w1.heap.size w1 (w1.alloc (.cells #[.slice (some ⟨Gi,0,none⟩) n n,.slice (some ⟨Go,0,none⟩) n n] 115)):=balloc (Below.refl _ _) _
 have hz2:(w1.alloc (.cells #[.slice (some ⟨Gi,0,none⟩) n n,.slice (some ⟨Go,0,none⟩) n n] 115)).heap.size=w1.heap.size+1:=by simp
 have q1:(w1.alloc (.cells #[.slice (some ⟨Gi,0,none⟩) n n,.slice (some ⟨Go,0,none⟩) n n] 115)).cell? ⟨w1.heap.size,1,none⟩=some (.slice (some ⟨Go,0,none⟩) n n):=by simp [go_sem]
 generalize w1.alloc (.cells #[.slice (some ⟨Gi,0,none⟩) n n,.slice (some ⟨Go,0,none⟩) n n] 115)=w2 at *
 have u1:=(cTr hb2 (by omega)).trans g1
 have HB2:=hide (bnext HB1.out hb2)
 have HSO:=hide (fun b (hb:b<n)=>(HR.out.so.set b hb).of_block (hb2.block _ (HR.out.so.set b hb).lt))
 have HRO:=hide (HR.out.so.row.of_block (hb2.block _ hGo.2))
 refine ⟨trivial,(callsIn_wide.2 (HAN.out _ HB2.out)).mono ?_⟩
 rintro e w3 ⟨U3,P3,a1,c1,a2,c2,a3,a4,c4,rfl,hb3,hP3,hF3⟩
 have hPP:=isIdm_one hP3 hP.out
 subst hPP
 have hz3:=hb3.size
 have HB3:=hide (bnext HB2.out hb3)
 have HOW:=hide hF3.o4
 obtain ⟨od,hod⟩:∃od,od=preP P3 n 0:=⟨_,rfl⟩
 rw [←hod] at HOW hstep
 rw [←hod]
 have HRE:Hid (∀x∈od,x<n):=hide (by rw [hod];exact fun x hxm=>(by rw [hx.out];exact ho.out.okf.re x (pre_dom hP.out n 0 x (Re.root) hxm).rb))
 have hm1:od.length≤1000:=by
  have h1:=pre_len hP.out (fun x hx'=>by rw [hx.out];exact ho.out.okf.re x hx') n 0 Re.root
  rw [hod]
  omega
 have HODE:=hide hod
 obtain ⟨m,hm⟩:∃m,m=od.length:=⟨_,rfl⟩
 rw [←hm] at hm1
 have HM:=hide hm
 have HOC:Hid (∀k (h:k<od.length),w3.cell? ⟨a4,k,none⟩=some (.int .i64 ((od[k]:Nat):Int))∧w2.heap.size≤a4):=hide (fun k h=>⟨own_cell HOW.out (by simp [natV,h]),(HOW.out.lt a4 rfl).1⟩)
 rw [←hm]
 have v1:=(cTr hb3 (by omega)).trans u1
 have q3:=(cTr hb3 (by omega)).trans q1
 have HSO3:=hide (fun b (hb:b<n)=>(HSO.out b hb).of_block (hb3.block _ (HSO.out b hb).lt))
 have HRO3:=hide (HRO.out.of_block (hb3.block _ HRO.out.lt))
 have HA3:=hide (ha.out.keep (HB3.out.mono hB))
 have HJ3:Hid (J [] w3):=hide (hJ.out _ _ _ h0.out (fun q hq _=>HB3.out.block q hq))
 have hfd:∀(A1 A2 A3 A4:Value) (W:World),(Instr.field 48 (.agg #[A1,A2,A3,A4]) 3).run Tryz.prog W=.ok A4 W:=fun A1 A2 A3 A4 W=>by kernel_rfl
 clear hb2 hb3 hF3 hod HOW u1 q1 g0 g1 HAN HSO HRO hm hP3 HB1 HB2 h0
 gi_wp2
 refine wpIn_loop (fun a' wr=>∃(k:Nat) (ds:List Nat) (f:Nat→Value),k≤m∧a'=⟨#[.agg #[.int .i64 (V:Int),.slice a n c],.func (.func 28) #[] #[.pointer (some ⟨bp,0,none⟩),.pointer (some ⟨bo,0,none⟩)],.pointer (some ⟨w.heap.size,0,none⟩),undef,.pointer (some ⟨w1.heap.size,0,none⟩),undef,f 6,f 7,f 8,f 9,f 10,undef,f 12,f 13,f 14,undef,f 16,.agg #[.int .i64 (V:Int),.slice a n c],.agg #[.slice (some ⟨Gi,0,none⟩) n n,.slice (some ⟨Go,0,none⟩) n n],.agg #[.int .i64 (V:Int),.slice a n c],.agg #[.slice (some ⟨a1,0,none⟩) n c1,.slice (some ⟨a2,0,none⟩) n c2,.slice (some ⟨a3,0,none⟩) n n,.slice (some ⟨a4,0,none⟩) m c4],.slice (some ⟨a4,0,none⟩) m c4,.int .i64 (m:Int),.int .i64 (k:Int),f 24,f 25,f 26,f 27,f 28,f 29,f 30,f 31,f 32,f 33,f 34,f 35,f 36,f 37,f 38,f 39,f 40,f 41,f 42,f 43,f 44,f 45,f 46,f 47,f 48,f 49,f 50,f 51,f 52,f 53,f 54,f 55,f 56,f 57,f 58,f 59,f 60,f 61,f 62,f 63,f 64,f 65,f 66,f 67,f 68,f 69,f 70,f 71,f 72,f 73,f 74,f 75,f 76,f 77,f 78,f 79,f 80,f 81,f 82,f 83,f 84,f 85,f 86,f 87,f 88,f 89,f 90],mks ds⟩∧Hid (EdO w3 wr M J (skA xs V (od.take k)) ds)) (fun a' _=>m-(intOf (a'.tmps.getD 23 undef)).toNat) ?_ ?_
 ·exact ⟨0,[],fun _=>undef,Nat.zero_le _,rfl,hide ⟨FrM.refl _ _,by simpa [skA] using HJ3.out,⟨List.nodup_nil,fun _ h=>(by cases h),fun _ h=>(by cases h)⟩⟩⟩
 ·rintro a' wr ⟨k,ds,f,hk,rfl,HE⟩
  clear HJ3
  have hwr:=HE.out.fr.size
  by_cases hlt:k<m
  ·have hk':k<od.length:=by rw [←HM.out];exact hlt
   obtain ⟨e4,h4⟩:=HOC.out k hk'
   have hbx:od[k]<n:=HRE.out _ (List.getElem_mem hk')
   have hbl:od[k]<xs.length:=by rw [←hx.out];exact hbx
   have hnM:∀q,w.heap.size≤q→¬M q:=fun q hq h=>by have:=hM1.out q h;omega
   have HNM:=hide hnM
   have f4:=HE.out.fr.cell (hnM a4 (by omega)) e4
   have f1:=HE.out.fr.cell (hnM w.heap.size (Nat.le_refl _)) v1
   have fq:=HE.out.fr.cell (hnM w1.heap.size (by omega)) q3
   have HPHS:=hide (fun i hi=>sk_ph (xs:=xs) (V:=V) hk' hbl (i:=i) hi)
   have HINS:=hide (fun i d hi hu hd=>sk_in (xs:=xs) (V:=V) hk' hbl (i:=i) (d:=d) hi hu hd)
   have HNX:=hide (sk_next (xs:=xs) (V:=V) hk' hbl)
   have HDN:=hide (fun (w6 U':World) (G z:Nat) (W0:Nat→Nat) (hq:∀v,v<64*Kw→(hasN W0 v=true↔Lou xs v od[k])) (ss:List Sd) (hs:ss.map Sd.dat=sdL xs[od[k]].instrs.length W0 (plL xs[od[k]])) (h:EdS V w6 G (xs[od[k]].instrs.length+1) Kw z ss U')=>h.done ho.out hbl hVK hq hs)
   have HLO:=hide (HR.out.lou ho.out hx.out od[k] hbx)
   have HLTV:Hid (LtV V Kw (WX od[k])):=hide (fun x h1 h2=>((HLO.out x h1).1 h2).val ho.out hbl)
   have HWD:Hid (WdOk (WX od[k])):=hide (HR.out.wx od[k])
   have HXM:=hide (List.getElem_mem hbl)
   have HPD:=hide (pdV_all ho.out (List.getElem_mem hbl))
   have HOP:=hide (ho.out.ops _ (List.getElem_mem hbl))
   have HTK:=hide (ho.out.kind _ (List.getElem_mem hbl))
   have HLN:=hide (ho.out.lens _ (List.getElem_mem hbl))
   have HDS:=hide (fun i (hi:i<xs[od[k]].phis.length)=>ho.out.phd _ (List.getElem_mem hbl) _ (List.getElem_mem hi))
   have HWI:=hide (fun i (hi:i<xs[od[k]].instrs.length) (hu:dB xs[od[k]].instrs[i].op=true)=>ho.out.wri _ (List.getElem_mem hbl) _ (List.getElem_mem hi) xs[od[k]].instrs[i].dst (by unfold writesI;rw [hu];simp))
   have rgo:=HE.out.fr.cell (hnM Go (by omega)) (HRO3.out.cell hbx)
   have HWG:=hide ((HSO3.out od[k] hbx).of_block (HE.out.fr.fr _ (HSO3.out od[k] hbx).lt (hnM _ (by have:=HR.out.b2 od[k] hbx;omega))))
   have HGK:Hid (w0.heap.size≤go od[k]):=hide (HR.out.b2 od[k] hbx).2
   obtain ⟨bb,oo,eb,hbb,pa,pc,ia,ic,p0,p1,⟨t0,t1,t2,t3⟩,hph,hin⟩:=HA3.out od[k] hbl
   have hnb:=hM2.out bb hbb.1 hbb.2
   have c0:=HE.out.fr.cell hnb p0
   have c5:=HE.out.fr.cell hnb p1
   have c6:=HE.out.fr.cell hnb t0
   have c7:=HE.out.fr.cell hnb t1
   have c8:=HE.out.fr.cell hnb t2
   have c9:=HE.out.fr.cell hnb t3
   have hsm:Same L B w3 wr:=fun q q1 q2=>HE.out.fr.fr q (by have:=HB3.out.size;omega) (hM2.out q q1 q2)
   have HPH:=hide (hph.keepS hsm)
   have HIN:=hide (hin.keepS hsm)
   generalize hX:xs[od[k]]=X at *
   have HXe:=hide hX
   generalize hbe:od[k]=b at *
   clear p0 p1 t0 t1 t2 t3 hph hin hsm e4 hnM hX
   subst eb
   have hki:(k:Int)<(m:Int):=by omega
   have hbi:(b:Int)<(n:Int):=by omega
   have hwl:IntKind.i64.wrap ((X.instrs.length:Int)+1)=(X.instrs.length:Int)+1:=by have:=HLN.out.1;rw [IntKind.wrap_i64];omega
   have hmk:=run_makeS (P:=Tryz.prog) 113 75 (.agg #[.slice none 0 0]) 1 24 Tryz.underlying113 Tryz.infoSetV (X.instrs.length+1) (by have:=HLN.out.1;omega) (by have:=HLN.out.1;omega)
   rw [show ((X.instrs.length+1:Nat):Int)=(X.instrs.length:Int)+1 by omega] at hmk
   gi_wp2
   rename_i K2 HK2 K1 HK1 K0 HK0
   have hb2:Below wr.heap.size wr (((wr.alloc (.cells #[.slice pa X.phis.length pc,.slice ia X.instrs.length ic,.int .i64 X.term.kind,.int .i64 X.term.a,.int .i64 X.term.to,.int .i64 X.term.els] 57)).alloc (.cells (madeCells #[.slice none 0 0] (X.instrs.length+1)) 75)).alloc (.cells #[.slice (some ⟨wr.heap.size+1,0,none⟩) (X.instrs.length+1) (X.instrs.length+1)] 113)):=balloc (balloc (balloc (Below.refl _ _) _) _) _
   have hz2:(((wr.alloc (.cells #[.slice pa X.phis.length pc,.slice ia X.instrs.length ic,.int .i64 X.term.kind,.int .i64 X.term.a,.int .i64 X.term.to,.int .i64 X.term.els] 57)).alloc (.cells (madeCells #[.slice none 0 0] (X.instrs.length+1)) 75)).alloc (.cells #[.slice (some ⟨wr.heap.size+1,0,none⟩) (X.instrs.length+1) (X.instrs.length+1)] 113)).heap.size=wr.heap.size+3:=by simp
   have hbxc:∀q v,#[.slice pa X.phis.length pc,.slice ia X.instrs.length ic,.int .i64 X.term.kind,.int .i64 X.term.a,.int .i64 X.term.to,.int .i64 X.term.els][q]?=some v→(((wr.alloc (.cells #[.slice pa X.phis.length pc,.slice ia X.instrs.length ic,.int .i64 X.term.kind,.int .i64 X.term.a,.int .i64 X.term.to,.int .i64 X.term.els] 57)).alloc (.cells (madeCells #[.slice none 0 0] (X.instrs.length+1)) 75)).alloc (.cells #[.slice (some ⟨wr.heap.size+1,0,none⟩) (X.instrs.length+1) (X.instrs.length+1)] 113)).cell? ⟨wr.heap.size,q,none⟩=some v:=fun q v h=>by
    rw [World.cell?_alloc_lt _ _ ⟨wr.heap.size,q,none⟩ (by rw [World.size_alloc,World.size_alloc];show wr.heap.size<_;omega),World.cell?_alloc_lt _ _ ⟨wr.heap.size,q,none⟩ (by rw [World.size_alloc];show wr.heap.size<_;omega),World.cell?_alloc_new]
    exact h
   have hrw:(((wr.alloc (.cells #[.slice pa X.phis.length pc,.slice ia X.instrs.length ic,.int .i64 X.term.kind,.int .i64 X.term.a,.int .i64 X.term.to,.int .i64 X.term.els] 57)).alloc (.cells (madeCells #[.slice none 0 0] (X.instrs.length+1)) 75)).alloc (.cells #[.slice (some ⟨wr.heap.size+1,0,none⟩) (X.instrs.length+1) (X.instrs.length+1)] 113)).rowIs (wr.heap.size+1) 75 (X.instrs.length+1) (fun _=>.slice none 0 0):=by
    have h:=World.rowIs_made (wr.alloc (.cells #[.slice pa X.phis.length pc,.slice ia X.instrs.length ic,.int .i64 X.term.kind,.int .i64 X.term.a,.int .i64 X.term.to,.int .i64 X.term.els] 57)) (.slice none 0 0) (X.instrs.length+1) 75
    rw [World.size_alloc] at h
    exact h.of_block (Below.heap_alloc _ _ _ (by simp))
   have hsb:(((wr.alloc (.cells #[.slice pa X.phis.length pc,.slice ia X.instrs.length ic,.int .i64 X.term.kind,.int .i64 X.term.a,.int .i64 X.term.to,.int .i64 X.term.els] 57)).alloc (.cells (madeCells #[.slice none 0 0] (X.instrs.length+1)) 75)).alloc (.cells #[.slice (some ⟨wr.heap.size+1,0,none⟩) (X.instrs.length+1) (X.instrs.length+1)] 113)).cell? ⟨wr.heap.size+1+1,0,none⟩=some (.slice (some ⟨wr.heap.size+1,0,none⟩) (X.instrs.length+1) (X.instrs.length+1)):=by simp [go_sem]
   generalize (((wr.alloc (.cells #[.slice pa X.phis.length pc,.slice ia X.instrs.length ic,.int .i64 X.term.kind,.int .i64 X.term.a,.int .i64 X.term.to,.int .i64 X.term.els] 57)).alloc (.cells (madeCells #[.slice none 0 0] (X.instrs.length+1)) 75)).alloc (.cells #[.slice (some ⟨wr.heap.size+1,0,none⟩) (X.instrs.length+1) (X.instrs.length+1)] 113))=wa at *
   have x0:=hbxc 0 _ rfl
   have x1:=hbxc 1 _ rfl
   have x2:=hbxc 2 _ rfl
   have x3:=hbxc 3 _ rfl
   have x4:=hbxc 4 _ rfl
   have x5:=hbxc 5 _ rfl
   have sq:=(hb2.cell (p:=⟨w1.heap.size,1,none⟩) (World.block_lt_of_cell? wr _ fq)).trans fq
   have sgo:=(hb2.cell (p:=⟨Go,b,none⟩) (World.block_lt_of_cell? wr _ rgo)).trans rgo
   have hbi2:(b:Int)<(n:Int):=by omega
   clear hmk hwl hbxc fq rgo f4 f1 c0 c5 c6 c7 c8 c9
   refine wpIn_region_held_drew (S:=(fun w'=>w'.cell? ⟨wr.heap.size,0,none⟩=some (.slice pa X.phis.length pc)∧w'.cell? ⟨wr.heap.size,1,none⟩=some (.slice ia X.instrs.length ic)∧w'.cell? ⟨wr.heap.size,2,none⟩=some (.int .i64 X.term.kind)∧w'.cell? ⟨wr.heap.size,3,none⟩=some (.int .i64 X.term.a)∧w'.cell? ⟨wr.heap.size,4,none⟩=some (.int .i64 X.term.to)∧w'.cell? ⟨wr.heap.size,5,none⟩=some (.int .i64 X.term.els)∧w'.cell? ⟨w1.heap.size,1,none⟩=some (.slice (some ⟨Go,0,none⟩) n n)∧w'.cell? ⟨Go,b,none⟩=some (.slice (some ⟨go b,0,none⟩) Kw Kw))) (by kernel_rfl) (by (try dsimp only);go_keep) (fun hHeld=>?_)
   refine tkI 0 rfl (v:=?_) ?_
   simp only [Act.put,xA,xB,xD,xE,xF]
   refine tkI 1 rfl (v:=?_) ?_
   simp only [Act.put,xA,xB,xC,xD,xE,xF]
   refine tkI 2 rfl (v:=?_) ?_
   simp only [Act.put,xA,xB,xC,xD,xE,xF]
   refine tkI 3 rfl (v:=?_) ?_
   simp only [Act.put,xA,xB,xC,xD,xE,xF]
   refine tkI 4 rfl (v:=?_) ?_
   simp only [Act.put,xA,xB,xC,xD,xE,xF]
   refine tkI 5 rfl (v:=?_) ?_
   simp only [Act.put,xA,xB,xC,xD,xE,xF]
   refine wpAnyHI_ready (rs:=[6]) (by kernel_rfl) (by simp) ?_
   refine AllReadyHI.cons rfl (fun K hK=>?_) AllReadyHI.nil
   go_simp
   have hbd:Below wa.heap.size wa wa.drew:=(Below.refl _ _).drew
   have hzd:wa.drew.heap.size=wr.heap.size+3:=hz2
   generalize wa.drew=wd at *
   refine ⟨trivial,(side_in 8 _ _ _ _ _ _ (go b) Kw Kw wd).mono ?_⟩
   rintro e w4 ⟨rfl,hw4⟩
   have hb4:Below wa.heap.size wa w4:=hbd.trans ((show Below wd.heap.size wd w4 by rw [hw4];exact balloc (balloc (Below.refl _ _) _) _).mono hbd.size)
   have hz4:w4.heap.size=wr.heap.size+5:=by rw [hw4];simp [hzd]
   have hc4:∀q v,#[.slice pa X.phis.length pc,.slice ia X.instrs.length ic,.int .i64 X.term.kind,.int .i64 X.term.a,.int .i64 X.term.to,.int .i64 X.term.els][q]?=some v→w4.cell? ⟨wd.heap.size,q,none⟩=some v:=fun q v h=>by
    rw [hw4,World.cell?_alloc_lt _ _ ⟨wd.heap.size,q,none⟩ (by rw [World.size_alloc];show wd.heap.size<_;omega),World.cell?_alloc_new]
    exact h
   have hso:w4.cell? ⟨wd.heap.size+1,0,none⟩=some (.slice (some ⟨go b,0,none⟩) Kw Kw):=by rw [hw4];simp [go_sem]
   have hcl:=fun (b' q:Nat) (v:Value) (hc:wa.cell? ⟨b',q,none⟩=some v)=>(hb4.cell (p:=⟨b',q,none⟩) (World.block_lt_of_cell? wa _ hc)).trans hc
   have z0:=hcl _ _ _ x0
   have z1:=hcl _ _ _ x1
   have z2:=hcl _ _ _ x2
   have z3:=hcl _ _ _ x3
   have z4:=hcl _ _ _ x4
   have z5:=hcl _ _ _ x5
   have zq:=hcl _ _ _ sq
   have zg:=hcl _ _ _ sgo
   have hs4:=hcl _ _ _ hsb
   have HRW4:=hide (hrw.of_block (hb4.block _ hrw.lt))
   have hbr4:Below wr.heap.size wr w4:=bnext hb2 hb4
   have HBR4:=hide hbr4
   have HW4:=hide (HWG.out.of_block (hbr4.block _ HWG.out.lt))
   have hF4:FrM M w w4:=(FrM.of_below HB3.out).trans (HE.out.fr.trans (FrM.of_below hbr4))
   have HF4:=hide hF4
   have HTB:=hide (fun (A:World) (h:FrM M w A)=>(⟨hO.out.of_block (h.fr _ hO.out.1 hM3.out.1) h.size,hT.out.of_block (h.fr _ hT.out.1 hM3.out.2.1) h.size,hTz.out.of_block (h.fr _ (World.block_lt_of_cell? w _ (hTz.out 0 (by decide))) hM3.out.2.2)⟩:OpTabW A∧TerTabW A∧TzTab A))
   have hsm4:Same L B wr w4:=fun q q1 q2=>hbr4.block q (by have:=HB3.out.size;omega)
   have HPH4:=hide (HPH.out.keepS hsm4)
   have HIN4:=hide (HIN.out.keepS hsm4)
   have HST:Hid (Stc2 X L B wd.heap.size w4.heap.size w4.heap.size w4):=hide ⟨(HTB.out _ hF4).1,(HTB.out _ hF4).2.1,⟨pa,pc,ia,ic,hc4 0 _ rfl,hc4 1 _ rfl,⟨hc4 2 _ rfl,hc4 3 _ rfl,hc4 4 _ rfl,hc4 5 _ rfl⟩,HPH4.out,HIN4.out⟩,by omega,by have:=HB3.out.size;omega,(HTB.out _ hF4).1.1,(HTB.out _ hF4).2.1.1,Nat.le_refl _⟩
   have HSO4:=hide hso
   have HS4:=hide hs4
   have hsz3:=HB3.out.size
   have hzd1:wr.heap.size+3≤wd.heap.size:=by omega
   have hzd2:wd.heap.size≤wr.heap.size+3:=by omega
   have hz41:wr.heap.size+5≤w4.heap.size:=by omega
   have hz42:w4.heap.size≤wr.heap.size+5:=by omega
   clear hz2 hzd hz4
   refine hK.out _ _ ⟨z0,z1,z2,z3,z4,z5,zq,zg⟩ (fun hHeld=>?_)
   clear hK
   try simp only [Act.put,xA,xB,xC,xD,xE,xF]
   refine wpAnyHI_doneN (by kernel_rfl) ?_ _
   have HZ0:=hide z0
   have HZ1:=hide z1
   clear hHeld z0 z1 z2 z3 z4 z5 zq zg x0 x1 x2 x3 x4 x5 sq sgo hsb hs4 hso hcl hb4 hc4 hw4 hrw hb2 hbd hF4 hsm4 hbr4
   apply HK0
   clear HK0
   gi_wp2
   refine rangeS (F:=Fence.wide) (n:=9) rfl (by decide) (gf:=109) (lb:=#[.pointer (some ⟨wd.heap.size+1,0,none⟩),.pointer (some ⟨wd.heap.size,0,none⟩)]) rfl trivial (enters_of Tryz.func109 (by kernel_rfl) rfl) (side_seqS w4.heap.size (wd.heap.size+1) wd.heap.size L B (go b) Kw Kw V (fun q=>q=wr.heap.size+1) X (WX b) w4 HST HSO4.out HW4 HWD hKW hVK (hide ?m1) (hide ?m2) (hide ?m3) (hide ?m4) (hide ?m5) HOP HTK.out HLN.out.1 HLN.out.2 HPD HLTV) (fun z=>sdPy_own _ _ _ _ z) (fun h k=>h.trans k) (fun W l o o' h1 h2 h3=>KpB.putObj W l o o' (by omega) h2 h3) (Below.refl _ _) (fun _ _=>rfl)
    (fun z=>EdS V w4 (wr.heap.size+1) (X.instrs.length+1) Kw z) (fun _ _ _=>False) (fun z=>EdS.own V w4 _ _ _ z) (fun _ _ _ _ _ h _ _=>h) (fun _ z s A A' _ h g=>h.turn g) (fun h=>h.elim) ?start
    (fun z p a' U=>∃bq:Nat,a'=⟨#[.agg #[.int .i64 (V:Int),.slice (some ⟨bb,oo,none⟩) n c],.func (.func 28) #[] #[.pointer (some ⟨bp,0,none⟩),.pointer (some ⟨bo,0,none⟩)],.pointer (some ⟨w.heap.size,0,none⟩),undef,.pointer (some ⟨w1.heap.size,0,none⟩),undef,.int .i64 (b:Int),.pointer (some ⟨wr.heap.size,0,none⟩),.pointer (some ⟨wr.heap.size+1+1,0,none⟩),.int .i64 (p.i:Int),.pointer (some ⟨bq,0,none⟩),undef,f 12,f 13,f 14,undef,f 16,.agg #[.int .i64 (V:Int),.slice (some ⟨bb,oo,none⟩) n c],.agg #[.slice (some ⟨Gi,0,none⟩) n n,.slice (some ⟨Go,0,none⟩) n n],.agg #[.int .i64 (V:Int),.slice (some ⟨bb,oo,none⟩) n c],.agg #[.slice (some ⟨a1,0,none⟩) n c1,.slice (some ⟨a2,0,none⟩) n c2,.slice (some ⟨a3,0,none⟩) n n,.slice (some ⟨a4,0,none⟩) m c4],.slice (some ⟨a4,0,none⟩) m c4,.int .i64 (m:Int),.int .i64 (k:Int),.bool true,.pointer (some ⟨a4,k,none⟩),.int .i64 (b:Int),.pointer (some ⟨w.heap.size,1,none⟩),.slice (some ⟨bb,oo,none⟩) n c,.int .i64 (b:Int),.pointer (some ⟨bb,oo+b*6,none⟩),.agg #[.slice pa X.phis.length pc,.slice ia X.instrs.length ic,.int .i64 X.term.kind,.int .i64 X.term.a,.int .i64 X.term.to,.int .i64 X.term.els],.pointer (some ⟨wr.heap.size,1,none⟩),.slice ia X.instrs.length ic,.int .i64 (X.instrs.length:Int),.int .i64 ((X.instrs.length:Int)+1),.slice (some ⟨wr.heap.size+1,0,none⟩) (X.instrs.length+1) (X.instrs.length+1),.agg #[.slice pa X.phis.length pc,.slice ia X.instrs.length ic,.int .i64 X.term.kind,.int .i64 X.term.a,.int .i64 X.term.to,.int .i64 X.term.els],.pointer (some ⟨w1.heap.size,1,none⟩),.slice (some ⟨Go,0,none⟩) n n,.int .i64 (b:Int),.pointer (some ⟨Go,b,none⟩),.agg #[.slice (some ⟨go b,0,none⟩) Kw Kw],.func (.func 109) #[] #[.pointer (some ⟨wd.heap.size+1,0,none⟩),.pointer (some ⟨wd.heap.size,0,none⟩)],.int .i64 (p.i:Int),.agg #[.slice (some ⟨z,0,none⟩) Kw p.C],f 46,f 47,f 48,f 49,f 50,f 51,f 52,f 53,f 54,f 55,f 56,f 57,f 58,f 59,f 60,f 61,f 62,f 63,f 64,f 65,f 66,f 67,f 68,f 69,f 70,f 71,f 72,f 73,f 74,f 75,f 76,f 77,f 78,f 79,f 80,f 81,f 82,f 83,f 84,f 85,f 86,f 87,f 88,f 89,f 90],[]⟩∧w4.heap.size≤bq∧U.cell? ⟨bq,0,none⟩=some (.slice (some ⟨z,0,none⟩) Kw p.C)) ?ownA ?assign ?body ?done (fun _ _ _ _ _ _ h _=>h.elim)
   case m1=>intro q h1 h2 e;omega
   case m2=>intro e;omega
   case m3=>intro q h1 e;omega
   case m4=>intro e;have:=hO.out.1;omega
   case m5=>intro e;have:=hT.out.1;omega
   case start =>
    intro z U hz1 hz2 hU
    exact ⟨hU.os,hU.tape,hU.output,hU.size,fun q h1 _=>hU.block q h1,⟨hz1,hz2⟩,by omega,fun _=>.slice none 0 0,HRW4.out.of_block (hU.block _ (by omega)),fun i _=>Or.inl (fun q hq=>absurd hq List.not_mem_nil)⟩
   case ownA =>
    rintro z p a' _ A U row ⟨bq,e,h1,h2⟩ g q
    refine ⟨bq,e,h1,(cell_of (g.block bq (World.block_lt_of_cell? A _ h2) (fun e2=>?_))).trans h2⟩
    obtain ⟨ob,h3,h4⟩:=cells_of_cell h2
    obtain ⟨_,o2,h5,h6⟩:=q bq e2.symm
    rw [show A.heap[bq]?=some ob from h3] at h5
    injection h5 with h5
    subst h5
    rw [h4] at h6
    cases h6
   case assign =>
    intro l' z pre p U KK hz hI hP hKK
    have HII:=hide hI
    have HPP:=hide hP
    have HKK:=hide hKK
    clear hI hP hKK
    unfold sdEnc
    gi_wp2
    have hbA:Below U.heap.size U (U.alloc (.cells #[.slice (some ⟨z,0,none⟩) Kw p.C] 75)):=balloc (Below.refl _ _) _
    exact HKK.out _ _ ⟨hbA.size,fun k o h1 _=>(hbA.block k (Array.getElem?_eq_some_iff.1 h1).1).trans h1⟩ (KpB.of_below hbA HII.out.size) (HII.out.below hbA) (sdPy_below HPP.out hbA) ⟨U.heap.size,rfl,HII.out.size,by simp [go_sem]⟩
   case body =>
    rintro l' z pre p a' U hz hl' _ hI hP ⟨bq,rfl,hbq,hcq⟩ hlen
    have HII:=hide hI
    have HPP:=hide hP
    have sb:=hI.cell (b:=wr.heap.size+1+1) (by omega) HS4.out
    have hpi:p.i<X.instrs.length+1:=by have:=hP.1.1;omega
    have hpi':(p.i:Int)<(X.instrs.length:Int)+1:=by omega
    have hzU:=hI.size
    have HCLN:=hide (clone_valueNo z Kw p.C p.W U.drew (hide hP.2.1.drew) (by omega))
    clear hI hP
    gi_wp2
    refine wpIn_region_held_drew (S:=(fun w'=>w'.cell? ⟨wr.heap.size+1+1,0,none⟩=some (.slice (some ⟨wr.heap.size+1,0,none⟩) (X.instrs.length+1) (X.instrs.length+1))∧w'.cell? ⟨bq,0,none⟩=some (.slice (some ⟨z,0,none⟩) Kw p.C))) (by kernel_rfl) (by (try dsimp only);go_keep) (fun hHeld=>?_)
    refine tkI 0 rfl (v:=?_) ?_
    simp only [Act.put,xA,xB,xD,xE,xF]
    refine tkI 1 rfl (v:=?_) ?_
    simp only [Act.put,xA,xB,xC,xD,xE,xF]
    refine tkI 2 rfl (v:=?_) ?_
    simp only [Act.put,xA,xB,xC,xD,xE,xF]
    refine wpAnyHI_ready (rs:=[3]) (by kernel_rfl) (by simp) ?_
    refine AllReadyHI.cons rfl (fun K hK=>?_) AllReadyHI.nil
    go_simp
    refine ⟨trivial,(CallsIn.inRound l' (callsIn_wide.2 HCLN.out)).mono ?_⟩
    rintro e U5 ⟨g5,C5,rfl,hg5,hb5',hw5⟩
    have hb5:Below U.heap.size U U5:=⟨hb5'.os,hb5'.tape,hb5'.output,hb5'.size,hb5'.block⟩
    have HPU:=hide (HII.out.push (s:=p) ⟨HPP.out.2.2,HPP.out.1.2⟩ hb5 hg5 hw5)
    have HB5:=hide hb5
    have sb5:=(hb5.cell (p:=⟨wr.heap.size+1+1,0,none⟩) (World.block_lt_of_cell? U _ sb)).trans sb
    have cp5:=(hb5.cell (p:=⟨bq,0,none⟩) (World.block_lt_of_cell? U _ hcq)).trans hcq
    have HI5:=hide (HII.out.below hb5)
    obtain ⟨T5,hro5,_⟩:=HI5.out.db
    have ce5:=hro5.cell hpi
    have fe5:=hro5.frozen p.i
    clear hb5 hb5' hw5 HCLN hro5
    refine hK.out _ _ ⟨sb5,cp5⟩ (fun hHeld=>?_)
    clear hK
    try simp only [Act.put,xA,xB,xC,xD,xE,xF]
    refine tkI 4 rfl (v:=?_) ?_
    simp only [Act.put,xA,xB,xC,xD,xE,xF]
    refine wpAnyHI_ready (rs:=[5]) (by kernel_rfl) (by simp) ?_
    refine AllReadyHI.cons rfl (fun K hK=>?_) AllReadyHI.nil
    go_simp
    refine hK.out _ _ ⟨(World.cell?_setCell_far U5 ⟨wr.heap.size+1,p.i,none⟩ ⟨wr.heap.size+1+1,0,none⟩ (.slice (some ⟨g5,0,none⟩) Kw C5) (by simp)).trans sb5,(World.cell?_setCell_far U5 ⟨wr.heap.size+1,p.i,none⟩ ⟨bq,0,none⟩ (.slice (some ⟨g5,0,none⟩) Kw C5) (by show wr.heap.size+1≠bq;omega)).trans cp5⟩ (fun hHeld=>?_)
    clear hK
    try simp only [Act.put,xA,xB,xC,xD,xE,xF]
    refine wpAnyHI_doneN (by kernel_rfl) ?_ _
    clear hHeld
    gi_wp2
    have hkk:KpB w4.heap.size (fun q=>q=wr.heap.size+1) U (U5.setCell ⟨wr.heap.size+1,p.i,none⟩ (.slice (some ⟨g5,0,none⟩) Kw C5)):=(KpB.of_below HB5.out hzU).trans (kpB_grown ⟨rfl,rfl,rfl,by simp [World.setCell],fun k _ hk=>Below.heap_setCell _ _ _ _ (fun e=>hk (by rw [e]))⟩ rfl HI5.out.size)
    refine ⟨⟨hkk.size,fun q ob h1 h2 h3=>?_⟩,hkk,HPU.out⟩
    exact (Below.heap_setCell _ _ _ _ (by show q≠wr.heap.size+1;omega)).trans ((HB5.out.block q (Array.getElem?_eq_some_iff.1 h2).1).trans h2)
   case done =>
    rintro D z ss U hD hz hS' hI hKD
    obtain ⟨zs,cw,Ws,hall⟩:=HDN.out w4 U (wr.heap.size+1) z (WX b) HLO.out ss hS' hI
    have HALL:=hide hall
    have HII:=hide hI
    have HKD:=hide hKD
    have y0:=hI.cell (b:=wr.heap.size) (by omega) HZ0.out
    have y1:=hI.cell (b:=wr.heap.size) (by omega) HZ1.out
    have sb:=hI.cell (b:=wr.heap.size+1+1) (by omega) HS4.out
    have hFU:FrM M wr U:=⟨HII.out.os.trans HBR4.out.os,HII.out.tape.trans HBR4.out.tape,HII.out.output.trans HBR4.out.output,Nat.le_trans HBR4.out.size HII.out.size,fun q q1 _=>(HII.out.fr q (by omega) (by omega)).trans (HBR4.out.block q q1)⟩
    have HFU:=hide hFU
    have HFW:Hid (FrM M w U):=hide ((FrM.of_below HB3.out).trans (HE.out.fr.trans hFU))
    have HJU:Hid (J (skA xs V (od.take k)) U):=hide (hJ.out _ _ _ HE.out.j (fun q q1 q2=>(HII.out.fr q (by omega) (by omega)).trans (HBR4.out.block q q2)))
    have HPHU:=hide (HPH4.out.keepS (fun q q1 q2=>HII.out.fr q (by omega) (by omega)))
    have HINU:=hide (HIN4.out.keepS (fun q q1 q2=>HII.out.fr q (by omega) (by omega)))
    have HWS:=hide (fun (A:World) (h:FrM M U A) (i:Nat) (hi:i≤X.instrs.length)=>(HALL.out i hi).2.2.1.of_block (h.fr _ (HALL.out i hi).2.2.1.lt (HNM.out _ (by have:=(HALL.out i hi).2.1;omega))))
    have hUz:=HII.out.size
    have HLU:=hide (show ∀q,M q→q<U.heap.size from fun q h=>by have:=hM1.out q h;omega)
    have HJB:Hid (∀(g:Nat→List (Nat × List Nat)) i A A',J (g i) A→Below A.heap.size A A'→J (g i) A'):=hide (fun g i A A' h h2=>hJ.out _ _ _ h (fun q _ q2=>h2.block q q2))
    have hlp:=HLN.out.2
    have hli:=HLN.out.1
    clear hall hI hKD hS' hFU
    gi_wp2
    refine wpIn_wide.2 (ed_ph (wr.heap.size+1+1) (wr.heap.size+1) X.instrs.length Kw (zs 0) (cw 0) bp bo X.phis.length pc pa X.phis L B M (fun i A=>J (skA xs V (od.take k)++phS xs V b X i) A) U _ _ _ _ _ _ _ _ _ _ _ _ _ _ _ _ _ _ _ _ _ _ _ _ _ _ _ _ _ _ _ _ _ _ _ _ _ _ _ _ _ _ _ _ _ _ _ _ _ _ _ _ _ _ _ _ _ _ _ _ _ _ _ _ _ _ _ _ _ _ _ _ _ _ _ _ _ _ _ _ _ _ _ _ _ _ _ _ (hide ?hq) HPHU (hide rfl) hlp hM2 (hide (HNM.out _ (by omega))) (hide (HNM.out _ (by omega))) HLU sb (HALL.out 0 (Nat.zero_le _)).1 (hide (HJB.out _)) (hide ?stp) (hide ?st0) (hide ?nx))
    case hq =>
     intro c a t v w h
     have h1:LeavesInM Fence.wide 9 Tryz.prog Tryz.f27 (a.put (some t) v).tmps _ (a.put (some t) v).defers (.panicking c) w:=h
     rw [leavesM_tm (t:=(a.put (some t) v).tmps) (t':=a.tmps) (by simp [results,Tryz.results27])] at h1
     exact h1
    case stp =>
     intro i hi A hFA hJA
     obtain ⟨post,e⟩:=HPHS.out i hi
     have hd:=HDS.out i hi
     obtain ⟨_,_,_,h4,h5,h6⟩:=HALL.out 0 (Nat.zero_le _)
     have hst:=hstep.out _ _ _ post A (zs 0) Kw (cw 0) (Ws 0) e hJA (HWS.out A hFA 0 (Nat.zero_le _)) h4 h5 hKW h6 (HTB.out A (HFW.out.trans hFA)).2.2
     rw [Int.toNat_of_nonneg hd.1] at hst
     refine hst.mono ?_
     rintro e A' ⟨h1,h2,h3⟩
     refine ⟨h1,h2,?_⟩
     rw [List.append_assoc] at h3
     rw [phS_succ (d:=X.phis[i].dst.toNat) hi (Int.toNat_of_nonneg hd.1).symm]
     exact h3
    case st0 =>
     have:phS xs V b X 0=[]:=by simp [phS]
     rw [this,List.append_nil]
     exact HJU.out
    case nx =>
     intro d12 d55 d56 d57 d58 d59 d60 d61 d62 d63 d64 d65 A1 hF1 hJ1
     have HF1:=hide hF1
     have HJ1:=hide hJ1
     have y1':=hF1.cell (HNM.out wr.heap.size (by omega)) y1
     have sb1:=hF1.cell (HNM.out (wr.heap.size+1+1) (by omega)) sb
     have HINA:=hide (HINU.out.keepS (fun q q1 q2=>hF1.fr q (by omega) (hM2.out q q1 q2)))
     have hA1:=hF1.size
     clear hF1 hJ1 y0 y1 sb
     gi_wp2
     refine wpIn_wide.2 (ed_in (wr.heap.size+1+1) (wr.heap.size+1) Kw bp bo X.instrs.length ic zs cw ia X.instrs L B M (fun i A=>J (skA xs V (od.take k)++phS xs V b X X.phis.length++inS xs V b X i) A) A1 _ _ _ _ _ _ _ _ _ _ _ _ _ _ _ _ _ _ _ _ _ _ _ _ _ _ _ _ _ _ _ _ _ _ _ _ _ _ _ _ _ _ _ _ _ _ _ _ _ _ _ _ _ _ _ _ _ _ _ _ _ _ _ _ _ _ _ _ _ _ _ _ _ _ _ _ _ _ _ _ _ _ _ _ _ _ _ _ HINA (hide rfl) hli hM2 (hide (HNM.out _ (by omega))) (hide (HNM.out _ (by omega))) sb1 (hide (fun i hi=>HF1.out.cell (HNM.out (wr.heap.size+1) (by omega)) (HALL.out i hi).1)) HOP (hide (fun A h=>(HTB.out A (HFW.out.trans (HF1.out.trans h))).1)) (hide (HJB.out _)) (hide ?stp) (hide ?stn) (hide ?st0) (hide ?nx))
     case stp =>
      intro i hi hu A hFA hJA
      have hd:=HWI.out i hi hu
      obtain ⟨post,e⟩:=HINS.out i X.instrs[i].dst.toNat hi hu (Int.toNat_of_nonneg hd.1).symm
      obtain ⟨_,_,_,h4,h5,h6⟩:=HALL.out (i+1) hi
      have hst:=hstep.out _ _ _ post A (zs (i+1)) Kw (cw (i+1)) (Ws (i+1)) e hJA (HWS.out A (HF1.out.trans hFA) (i+1) hi) h4 h5 hKW h6 (HTB.out A (HFW.out.trans (HF1.out.trans hFA))).2.2
      rw [Int.toNat_of_nonneg hd.1] at hst
      refine hst.mono ?_
      rintro e A' ⟨h1,h2,h3⟩
      refine ⟨h1,h2,?_⟩
      rw [List.append_assoc] at h3
      rw [inS_yes (d:=X.instrs[i].dst.toNat) hi hu (Int.toNat_of_nonneg hd.1).symm]
      exact h3
     case stn =>
      intro i hi hu A hJA
      rw [inS_no hi hu]
      exact hJA
     case st0 =>
      have:inS xs V b X 0=[]:=by simp [inS]
      rw [this,List.append_nil]
      exact HJ1.out
     case nx =>
      intro e13 e14 e16 e70 e71 e72 e73 e74 e75 e76 e77 e78 e79 e80 e81 e82 e83 e84 e85 e86 e87 e88 e89 A2 hF2 hJ2
      have HJ2:=hide hJ2
      have HF2:Hid (FrM M wr A2):=hide (HFU.out.trans (HF1.out.trans hF2))
      have HD2:Hid (A2.heap[D]?=some (.deferred (some []))):=hide ((hF2.fr D (by have:=(Array.getElem?_eq_some_iff.1 HKD.out).1;omega) (HNM.out _ (by omega))).trans ((HF1.out.fr D (Array.getElem?_eq_some_iff.1 HKD.out).1 (HNM.out _ (by omega))).trans HKD.out))
      clear hF2 hJ2 y1' sb1
      gi_wp2
      refine ⟨headL _ _ _ (k+1) (D::ds) (by omega) rfl (hide ⟨HE.out.fr.trans HF2.out,?_,?_⟩),?_⟩
      ·rw [HNX.out]
       exact HJ2.out
      ·refine mks_cons (mks_far HE.out.mks HF2.out (fun q h=>by have:=hM1.out q h;omega)) (by omega) (fun h=>?_) HD2.out
       have:=(Array.getElem?_eq_some_iff.1 (HE.out.mks.obj D h)).1
       omega
      ·simp [intOf];omega
  ·have hkm:k=m:=by omega
   subst hkm
   gi_wp2
   refine leaves_mks ds wr HE.out.mks HE.out.fr.size (fun W' hW'=>?_)
   refine ⟨.tuple #[],by simp [results,Tryz.results27,go_sem],rfl,?_,?_⟩
   ·have hsw:=HB3.out.size
    have hF:=(FrM.of_below (M:=M) HB3.out).trans HE.out.fr
    exact ⟨hW'.os.trans hF.os,hW'.tape.trans hF.tape,hW'.output.trans hF.output,Nat.le_trans hF.size hW'.size,fun q q1 q2=>(hW'.block q (by omega)).trans (hF.fr q q1 q2)⟩
   ·have h:=HE.out.j
    rw [HM.out,List.take_length] at h
    rw [←HODE.out]
    exact hJ.out _ _ _ h (fun q q1 _=>hW'.block q (by have:=HB3.out.size;omega))
end Go.Proofs.YthgikffcdgpgiaaGreatDoor
