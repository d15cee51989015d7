import Derived.Test.YtdfdmjcngkfciaaDoorDRa
import Derived.Test.YtdfdmjcngkfciaaDoorPure
namespace Go.Proofs.YtdfdmjcngkfciaaDoor
open Go.RowKit
def mapTo {T:Type} (f:T→T) (k:Nat) (l:List T):List T:=(l.take k).map f++l.drop k
variable {T : Type} {f : T → T}
theorem mapTo_len (k:Nat) (l:List T):(mapTo f k l).length=l.length:=by simp [mapTo];omega
theorem mapTo_zero (l:List T):mapTo f 0 l=l:=by simp [mapTo]
theorem mapTo_all (l:List T):mapTo f l.length l=l.map f:=by simp [mapTo]
theorem mapTo_at {k:Nat} {l:List T} (h:k<l.length) (h':k<(mapTo f k l).length):(mapTo f k l)[k]=l[k]:=by
 have e:(mapTo f k l)[k]?=l[k]?:=by
  unfold mapTo
  rw [List.getElem?_append_right (by simp;omega)]
  simp only [List.length_map,List.length_take,List.getElem?_drop]
  congr 1
  omega
 rw [List.getElem?_eq_getElem h',List.getElem?_eq_getElem h] at e
 injection e
theorem mapTo_set {k:Nat} {l:List T} (h:k<l.length):(mapTo f k l).set k (f l[k])=mapTo f (k+1) l:=by
 refine List.ext_getElem? (fun r=>?_)
 by_cases e:k=r
 ·subst e
  rw [List.getElem?_set_self (by rw [mapTo_len];exact h)]
  unfold mapTo
  rw [List.getElem?_append_left (by simp;omega)]
  simp [h]
 ·rw [List.getElem?_set_ne e]
  unfold mapTo
  by_cases hr:r<k
  ·rw [List.getElem?_append_left (by simp;omega),List.getElem?_append_left (by simp;omega)]
   simp only [List.getElem?_map,List.getElem?_take_of_lt hr,List.getElem?_take_of_lt (show r<k+1 by omega)]
  ·rw [List.getElem?_append_right (by simp;omega),List.getElem?_append_right (by simp;omega)]
   simp only [List.length_map,List.length_take,List.getElem?_drop]
   congr 1
   omega
noncomputable def rB:Code:=(Tryd.f50.body.getD .skip)
noncomputable def rB1:Code:=(topL rB).getD 0 .skip
noncomputable def rB2:Code:=(topL rB1).getD 0 .skip
noncomputable def rB4:Code:=(topL rB1).getD 1 .skip
noncomputable def rB3:Code:=(topL rB2).getD 0 .skip
set_option maxRecDepth 100000 in
theorem spr9_list (f:Nat→Value):(List.range' 9 161).map f=(f 9::f 10::f 11::f 12::f 13::f 14::f 15::f 16::f 17::f 18::f 19::f 20::f 21::f 22::f 23::f 24::f 25::f 26::f 27::f 28::f 29::f 30::f 31::f 32::f 33::f 34::f 35::f 36::f 37::f 38::f 39::f 40::f 41::f 42::f 43::f 44::f 45::f 46::f 47::f 48::f 49::f 50::f 51::f 52::f 53::f 54::f 55::f 56::f 57::f 58::f 59::f 60::f 61::f 62::f 63::f 64::f 65::f 66::f 67::f 68::f 69::f 70::f 71::f 72::f 73::f 74::f 75::f 76::f 77::f 78::f 79::f 80::f 81::f 82::f 83::f 84::f 85::f 86::f 87::f 88::f 89::f 90::f 91::f 92::f 93::f 94::f 95::f 96::f 97::f 98::f 99::f 100::f 101::f 102::f 103::f 104::f 105::f 106::f 107::f 108::f 109::f 110::f 111::f 112::f 113::f 114::f 115::f 116::f 117::f 118::f 119::f 120::f 121::f 122::f 123::f 124::f 125::f 126::f 127::f 128::f 129::f 130::f 131::f 132::f 133::f 134::f 135::f 136::f 137::f 138::f 139::f 140::f 141::f 142::f 143::f 144::f 145::f 146::f 147::f 148::f 149::f 150::f 151::f 152::f 153::f 154::f 155::f 156::f 157::f 158::f 159::f 160::f 161::f 162::f 163::f 164::f 165::f 166::f 167::f 168::f 169::[]):=rfl
set_option maxRecDepth 100000 in
theorem spr9 (tl:List Value) (h:tl.length=161):∃f:Nat→Value,tl=(f 9::f 10::f 11::f 12::f 13::f 14::f 15::f 16::f 17::f 18::f 19::f 20::f 21::f 22::f 23::f 24::f 25::f 26::f 27::f 28::f 29::f 30::f 31::f 32::f 33::f 34::f 35::f 36::f 37::f 38::f 39::f 40::f 41::f 42::f 43::f 44::f 45::f 46::f 47::f 48::f 49::f 50::f 51::f 52::f 53::f 54::f 55::f 56::f 57::f 58::f 59::f 60::f 61::f 62::f 63::f 64::f 65::f 66::f 67::f 68::f 69::f 70::f 71::f 72::f 73::f 74::f 75::f 76::f 77::f 78::f 79::f 80::f 81::f 82::f 83::f 84::f 85::f 86::f 87::f 88::f 89::f 90::f 91::f 92::f 93::f 94::f 95::f 96::f 97::f 98::f 99::f 100::f 101::f 102::f 103::f 104::f 105::f 106::f 107::f 108::f 109::f 110::f 111::f 112::f 113::f 114::f 115::f 116::f 117::f 118::f 119::f 120::f 121::f 122::f 123::f 124::f 125::f 126::f 127::f 128::f 129::f 130::f 131::f 132::f 133::f 134::f 135::f 136::f 137::f 138::f 139::f 140::f 141::f 142::f 143::f 144::f 145::f 146::f 147::f 148::f 149::f 150::f 151::f 152::f 153::f 154::f 155::f 156::f 157::f 158::f 159::f 160::f 161::f 162::f 163::f 164::f 165::f 166::f 167::f 168::f 169::[]):=by
 have e:=range_map Value undef tl 9 (fun i=>tl.getD (i-9) undef) (fun i hi=>by simp [hi])
 rw [h] at e
 exact ⟨fun i=>tl.getD (i-9) undef,e.trans (spr9_list _)⟩
structure RnS (w wr:World) (lab:Nat→Nat × Nat × Nat) (base:Nat) (v G n c:Nat) (xs:List Blk) (pv iv:Nat→Value) (av:Nat→Nat→Value):Prop where
 fn:FnL wr lab base (.slice (some ⟨G,0,none⟩) n c) xs pv iv av
 bel:Below base w wr
 kept:∀b,b<w.heap.size→lab b=(0,0,0)→wr.heap[b]?=w.heap[b]?
 fr:∀b,w.heap.size≤b→lab b=(0,0,0)
 bs:base≤w.heap.size
 box:Bx wr w.heap.size #[.int .i64 (v:Int),.slice (some ⟨G,0,none⟩) n c] 25
 res:Bx wr (w.heap.size+1) #[.int .i64 0,.slice none 0 0] 25
variable {w wr w' : World} {lab : Nat → Nat × Nat × Nat} {base v G n c : Nat} {xs xs' : List Blk} {pv iv : Nat → Value} {av : Nat → Nat → Value}
theorem RnS.step (h:RnS w wr lab base v G n c xs pv iv av) (hf:FnL w' lab base (.slice (some ⟨G,0,none⟩) n c) xs' pv iv av) (hk:∀b,b<wr.heap.size→lab b=(0,0,0)→w'.heap[b]?=wr.heap[b]?) (hb:Below base wr w'):RnS w w' lab base v G n c xs' pv iv av :=
 ⟨hf,h.bel.trans hb,fun b h1 h2=>(hk b (Nat.lt_of_lt_of_le h1 h.bel.size) h2).trans (h.kept b h1 h2),h.fr,h.bs,h.box.keep (hk _ h.box.lt (h.fr _ (Nat.le_refl _))),h.res.keep (hk _ h.res.lt (h.fr _ (Nat.le_succ _)))⟩
theorem RnS.put {g q:Nat} {u:Value} (h:RnS w wr lab base v G n c xs pv iv av) (hf:FnL (wr.setCell ⟨g,q,none⟩ u) lab base (.slice (some ⟨G,0,none⟩) n c) xs' pv iv av) (hg:lab g≠(0,0,0)) (hb:base≤g):RnS w (wr.setCell ⟨g,q,none⟩ u) lab base v G n c xs' pv iv av :=
 h.step hf (fun b _ e=>Below.heap_setCell _ _ _ _ (fun e2=>hg (by rw [show g=b from e2.symm];exact e))) ((Below.refl base wr).setCell hb u)
theorem RnS.alloc (h:RnS w wr lab base v G n c xs pv iv av) (o:Obj):RnS w (wr.alloc o) lab base v G n c xs pv iv av:=by
 have k:SpL wr (wr.alloc o) lab lab base (fun _=>True):=SpL.box o
 exact h.step (h.fn.sp k 0 (fun _ _ _ _ _=>trivial) (Or.inl (fun _ _=>trivial))) (fun b hb _=>Below.heap_alloc _ _ _ hb) (Below.alloc (Below.refl _ _) (Nat.le_trans h.bs h.bel.size) o)
theorem RnS.drew (h:RnS w wr lab base v G n c xs pv iv av):RnS w wr.drew lab base v G n c xs pv iv av:=h.step (h.fn.sp (ok:=fun _=>True) ⟨Nat.le_refl _,fun _ _ _ _=>⟨rfl,rfl⟩,fun hf b hb=>hf b hb⟩ 0 (fun _ _ _ _ _=>trivial) (Or.inl (fun _ _=>trivial))) (fun _ _ _=>rfl) (Below.refl _ _).drew
theorem RnS.putx {g q:Nat} {u:Value} (h:RnS w wr lab base v G n c xs pv iv av) (hg:w.heap.size+2≤g):RnS w (wr.setCell ⟨g,q,none⟩ u) lab base v G n c xs pv iv av:=by
 have hbs:=h.bs
 have hl:=h.fr g (by omega)
 have k:SpL wr (wr.setCell ⟨g,q,none⟩ u) lab lab base (fun b=>b≠g):=SpL.put g q u
 have nb:∀b,(lab b).1≠0→b≠g:=fun b h1 e=>h1 (by rw [e,hl])
 refine ⟨h.fn.sp k 0 (fun b h1 _ _ _=>nb b h1) (Or.inl (fun b e=>nb b (by rcases e with e | e<;>rw [e]<;>simp))),h.bel.trans ((Below.refl base wr).setCell (p:=⟨g,q,none⟩) (by show base≤g;omega) u),fun b h1 h2=>(Below.heap_setCell _ _ _ _ (by show b≠g;omega)).trans (h.kept b h1 h2),h.fr,h.bs,h.box.other (by omega),h.res.other (by omega)⟩
end Go.Proofs.YtdfdmjcngkfciaaDoor

namespace Go.Proofs.YtdfdmjcngkfciaaDoor
open Go.RowKit
structure LsO (w w':World) (lab:Nat→Nat × Nat × Nat) (base sb B:Nat) (s:Sr) (G n c:Nat) (xs:List Blk) (pv iv:Nat→Value) (av:Nat→Nat→Value):Prop where
 fn:FnL w' lab base (.slice (some ⟨G,0,none⟩) n c) xs pv iv av
 dr:DrA w' sb B s
 os:w'.os=w.os
 tape:w'.tape=w.tape
 output:w'.output=w.output
 size:w.heap.size≤w'.heap.size
 low:∀b,b<base→b≠sb→w'.heap[b]?=w.heap[b]?
 fr:∀b,w.heap.size≤b→lab b=(0,0,0)
theorem LsS.done {w wr:World} {lab:Nat→Nat × Nat × Nat} {base sb B:Nat} {s:Sr} {v G n c:Nat} {xs:List Blk} {pv iv:Nat→Value} {av:Nat→Nat→Value} {u0 u1:Value} (h:LsS w wr lab base sb B s v G n c xs pv iv av):LsO w ((wr.setCell ⟨w.heap.size+1,0,none⟩ u0).setCell ⟨w.heap.size+1,1,none⟩ u1) lab base sb B s G n c xs pv iv av:=by
 have hl:=h.fr (w.heap.size+1) (Nat.le_succ _)
 have hbs:=h.bs
 have hbb:=h.bb
 have k1:SpL wr ((wr.setCell ⟨w.heap.size+1,0,none⟩ u0).setCell ⟨w.heap.size+1,1,none⟩ u1) lab lab base (fun b=>b≠w.heap.size+1):=((SpL.put _ _ _).trans (SpL.put _ _ _)).weak (fun _ hb=>⟨hb,hb⟩)
 have nb:∀b,(lab b).1≠0→b≠w.heap.size+1:=fun b h1 e=>h1 (by rw [e,hl])
 refine ⟨h.fn.sp k1 0 (fun b h1 _ _ _=>nb b h1) (Or.inl (fun b e=>nb b (by rcases e with e | e<;>rw [e]<;>simp))),(h.dr.put (by omega)).put (by omega),h.os,h.tape,h.output,by simpa [World.setCell] using h.size,fun b h1 h2=>?_,h.fr⟩
 have nb:b≠w.heap.size+1:=by omega
 exact ((Below.heap_setCell _ _ _ _ nb).trans (Below.heap_setCell _ _ _ _ nb)).trans (h.low b h1 h2)
set_option maxHeartbeats 8000000 in
set_option maxRecDepth 100000 in
theorem loose_any (V G n c:Nat) (xs:List Blk) (lab:Nat→Nat × Nat × Nat) (base:Nat) (pv iv:Nat→Value) (av:Nat→Nat→Value) (sb B:Nat) (s:Sr) (w:World) (hF:Hid (FnL w lab base (.slice (some ⟨G,0,none⟩) n c) xs pv iv av)) (hn:Hid (n=xs.length)) (h1:1≤n) (hn2:n≤11) (hbs:base≤w.heap.size) (hfr:Hid (∀b,w.heap.size≤b→lab b=(0,0,0))) (hdr:Hid (DrA w sb B s)) (hbb:B≤base) (hV:V≤1000) (hsm:Hid (SmlB xs)) (harg:Hid (∀x∈xs,∀p∈x.phis,0<p.args.length)) :
  Calls Tryd.prog 28 #[.agg #[.int .i64 (V:Int),.slice (some ⟨G,0,none⟩) n c],.pointer (some ⟨sb,0,none⟩)] w fun e w'=>e=.returned (.agg #[.int .i64 (V:Int),.slice (some ⟨G,0,none⟩) n c])∧LsO w w' lab base sb B (looseP V xs s).2 G n c (looseP V xs s).1 pv iv av:=by
 have HP:Hid (looseP V xs s=looseB xs (nextP s (n:Int)).1.toNat (nextP (nextP s (n:Int)).2 (V:Int)).1 (nextP (nextP s (n:Int)).2 (V:Int)).2):=hide (by rw [hn.out];rfl)
 have HS0:Hid (LsS w ((w.alloc (.cells #[.int .i64 (V:Int),.slice (some ⟨G,0,none⟩) n c] 25)).alloc (.cells #[.int .i64 0,.slice none 0 0] 25)) lab base sb B s V G n c xs pv iv av):=hide (by
  have k:SpL w ((w.alloc (.cells #[.int .i64 (V:Int),.slice (some ⟨G,0,none⟩) n c] 25)).alloc (.cells #[.int .i64 0,.slice none 0 0] 25)) lab lab base (fun _=>True):=((SpL.box _).trans (SpL.box _)).weak (fun _ _=>⟨trivial,trivial⟩)
  refine ⟨hF.out.sp k 0 (fun _ _ _ _ _=>trivial) (Or.inl (fun _ _=>trivial)),(hdr.out.box _).box _,hbb,rfl,rfl,rfl,k.size,fun b hb _=>(Below.heap_alloc _ _ _ (by simp;omega)).trans (Below.heap_alloc _ _ _ (by omega)),hfr.out,hbs,(Bx.new _ _ _).box _,?_⟩
  have:=Bx.new (w.alloc (.cells #[.int .i64 (V:Int),.slice (some ⟨G,0,none⟩) n c] 25)) #[.int .i64 0,.slice none 0 0] 25
  rwa [World.size_alloc] at this)
 clear hF hdr
 go_enter Tryd.func28,Tryd.ntmps28
 have x1:((w.alloc (.cells #[.int .i64 (V:Int),.slice (some ⟨G,0,none⟩) n c] 25)).alloc (.cells #[.int .i64 0,.slice none 0 0] 25)).cell? ⟨w.heap.size,1,none⟩=some (.slice (some ⟨G,0,none⟩) n c):=Bx.cell HS0.out.box rfl
 go_wp2_with fail
 generalize (w.alloc (.cells #[.int .i64 (V:Int),.slice (some ⟨G,0,none⟩) n c] 25)).alloc (.cells #[.int .i64 0,.slice none 0 0] 25)=w0 at *
 refine (next_a sb B s (n:Int) w0 (hide HS0.out.dr) (by omega) (by omega)).mono ?_
 rintro e w1 ⟨rfl,hd,hg⟩
 have hl1:=fun h=>next_lt s (n:=(n:Int)) h
 have HS1:=hide (HS0.out.call hg hd)
 obtain ⟨rb,s1,hrs⟩:∃r s9,nextP s (n:Int)=(r,s9):=⟨_,_,rfl⟩
 rw [hrs] at HS1 HP hl1 ⊢
 dsimp only at HS1 HP hl1 ⊢
 have hlb:=hl1 (by omega)
 obtain ⟨b,rfl⟩:=nat_of hlb.1
 rw [Int.toNat_natCast] at HP
 clear hd hg hrs HS0 x1 hl1
 have y0:w1.cell? ⟨w.heap.size,0,none⟩=some (.int .i64 (V:Int)):=Bx.cell HS1.out.box rfl
 go_wp2_with fail
 refine (next_a sb B s1 (V:Int) w1 (hide HS1.out.dr) (by omega) (by omega)).mono ?_
 rintro e w2 ⟨rfl,hd,hg⟩
 have hl2:=fun h=>next_lt s1 (n:=(V:Int)) h
 have HS2:=hide (HS1.out.call hg hd)
 obtain ⟨vv,s2,hrs⟩:∃r s9,nextP s1 (V:Int)=(r,s9):=⟨_,_,rfl⟩
 rw [hrs] at HS2 HP hl2 ⊢
 dsimp only at HS2 HP hl2 ⊢
 clear hd hg hrs HS1 y0 hl2
 have hb:b<xs.length:=by have:=hn.out;omega
 have hbn:b<n:=by omega
 have hxb:xs.getD b dBlk=xs[b]:=by simp [hb]
 have HSMB:=hide (hsm.out _ (List.getElem_mem hb))
 have HAG:=hide (harg.out _ (List.getElem_mem hb))
 have x1:w2.cell? ⟨w.heap.size,1,none⟩=some (.slice (some ⟨G,0,none⟩) n c):=Bx.cell HS2.out.box rfl
 obtain ⟨p0,p1,⟨t0,t1,t2,t3⟩⟩:=HS2.out.fn.cells hb
 obtain ⟨pa,pc,hpv⟩:=(HS2.out.fn.phis b hb).form
 obtain ⟨np,hnp⟩:∃np,np=xs[b].phis.length:=⟨_,rfl⟩
 rw [←hnp] at hpv
 obtain ⟨ia,ic,hiv⟩:=(HS2.out.fn.ins b hb).form
 obtain ⟨ni,hni⟩:∃ni,ni=xs[b].instrs.length:=⟨_,rfl⟩
 rw [←hni] at hiv
 rw [hpv] at p0
 rw [hiv] at p1
 have HNP:=hide hnp
 have HNI:=hide hni
 have hni2:ni≤1000:=by have:=HSMB.out;omega
 clear hnp hni
 go_upto_region 4 with fail
 have HSX:=hide (HS2.out.alloc (.cells #[.slice pa np pc,.slice ia ni ic,.int .i64 xs[b].term.kind,.int .i64 xs[b].term.a,.int .i64 xs[b].term.to,.int .i64 xs[b].term.els] 41))
 have HXB:Hid (Bx (w2.alloc (.cells #[.slice pa np pc,.slice ia ni ic,.int .i64 xs[b].term.kind,.int .i64 xs[b].term.a,.int .i64 xs[b].term.to,.int .i64 xs[b].term.els] 41)) w2.heap.size #[.slice pa np pc,.slice ia ni ic,.int .i64 xs[b].term.kind,.int .i64 xs[b].term.a,.int .i64 xs[b].term.to,.int .i64 xs[b].term.els] 41):=hide (Bx.new _ _ _)
 have HXL:Hid (w.heap.size+2≤w2.heap.size):=hide HS2.out.res.lt
 have HSBX:Hid (sb≠w2.heap.size):=hide (by have:=HS2.out.lt;have:=HXL.out;omega)
 clear HS2 x1 p0 p1 t0 t1 t2 t3
 generalize w2.alloc (.cells #[.slice pa np pc,.slice ia ni ic,.int .i64 xs[b].term.kind,.int .i64 xs[b].term.a,.int .i64 xs[b].term.to,.int .i64 xs[b].term.els] 41)=wx at *
 generalize w2.heap.size=xb at *
 have q0:wx.cell? ⟨xb,0,none⟩=some (.slice pa np pc):=Bx.cell HXB.out rfl
 go_cut [31] from 9 to 82 (fun c31 wz=>∃(q:Bool) (s3:Sr),c31=.bool q∧Hid (LsS w wz lab base sb B s3 V G n c xs pv iv av)∧Hid (Bx wz xb #[.slice pa np pc,.slice ia ni ic,.int .i64 xs[b].term.kind,.int .i64 xs[b].term.a,.int .i64 xs[b].term.to,.int .i64 xs[b].term.els] 41)∧Hid (q=true→0<np∧looseP V xs s=(xs.set b (xs[b].setPhi 0 ⟨(xs[b].phis.getD 0 dPh).dst,(xs[b].phis.getD 0 dPh).args.set (nextP s3 (xs[b].phis.getD 0 dPh).args.length).1.toNat vv⟩),(nextP s3 (xs[b].phis.getD 0 dPh).args.length).2))∧Hid (q=false→looseP V xs s=looseI xs b vv s3))
 case first =>
  rw [looseB,hxb,←HNP.out] at HP
  by_cases hnp:0<np
  ·have hnpI:(0:Int)<np:=by omega
   rw [if_pos hnp] at HP
   go_wp2_with fail
   refine (next_a sb B s2 3 wx (hide HSX.out.dr) (by omega) (by omega)).mono ?_
   rintro e w3 ⟨rfl,hd,hg⟩
   have hl3:=fun h=>next_lt s2 (n:=3) h
   have HS3:=hide (HSX.out.call hg hd)
   obtain ⟨r3,s3,hrs⟩:∃r s9,nextP s2 3=(r,s9):=⟨_,_,rfl⟩
   rw [hrs] at HS3 HP hl3 ⊢
   dsimp only at HS3 HP hl3 ⊢
   have HX3:Hid (Bx w3 xb #[.slice pa np pc,.slice ia ni ic,.int .i64 xs[b].term.kind,.int .i64 xs[b].term.a,.int .i64 xs[b].term.to,.int .i64 xs[b].term.els] 41):=hide (HXB.out.grown hg (fun e=>HSBX.out (by injection e with e;exact e.symm)))
   clear hd hg hrs hl3
   by_cases hr:r3=0
   ·have hrb:(r3==0)=true:=by simpa using hr
    rw [if_pos hr] at HP
    clear hr
    go_wp2_with fail
    go_meet
    exact ⟨true,s3,rfl,HS3,HX3,hide (fun _=>⟨hnp,HP.out⟩),hide (fun h=>by cases h)⟩
   ·have hrb:(r3==0)=false:=by simpa using hr
    rw [if_neg hr] at HP
    clear hr
    go_wp2_with fail
    go_meet
    exact ⟨false,s3,rfl,HS3,HX3,hide (fun h=>by cases h),hide (fun _=>HP.out)⟩
  ·have hnpI:¬(0:Int)<np:=by omega
   rw [if_neg hnp] at HP
   go_wp2_with fail
   go_meet
   exact ⟨false,s2,rfl,HSX,HXB,hide (fun h=>by cases h),hide (fun _=>HP.out)⟩
 case rest =>
  obtain ⟨q,s3,rfl,HS3,HX3,HPT,HPF⟩:=hcut
  clear HSX HXB HP q0
  generalize wc=w3 at *
  cases q with
  | true =>
   have HP0:=hide (HPT.out rfl)
   clear HPT HPF
   have hnp0:=HP0.out.1
   have HP:Hid (looseP V xs s=(xs.set b (xs[b].setPhi 0 ⟨(xs[b].phis.getD 0 dPh).dst,(xs[b].phis.getD 0 dPh).args.set (nextP s3 (xs[b].phis.getD 0 dPh).args.length).1.toNat vv⟩),(nextP s3 (xs[b].phis.getD 0 dPh).args.length).2)):=hide HP0.out.2
   clear HP0
   have hj0:0<xs[b].phis.length:=by have:=HNP.out;omega
   rw [show xs[b].phis.getD 0 dPh=xs[b].phis[0] by simp [hj0]] at HP
   have hna0:=HAG.out _ (List.getElem_mem hj0)
   have hna1:=HSMB.out.2.1 _ (List.getElem_mem hj0)
   obtain ⟨gp,c2,hpv2⟩:=(HS3.out.fn.phis b hb).got hj0
   rw [←HNP.out,hpv] at hpv2
   injection hpv2 with e1 _ e3
   subst e1 e3
   obtain ⟨ga,ac,hav⟩:=(HS3.out.fn.args b hb 0 hj0).got hna0
   obtain ⟨na,hna⟩:∃na,na=xs[b].phis[0].args.length:=⟨_,rfl⟩
   rw [←hna] at hav HP hna0 hna1
   have HNA:=hide hna
   clear hna
   have HCC:Hid (∀W sx,LsS w W lab base sb B sx V G n c xs pv iv av→W.cell? ⟨gp,1,none⟩=some (.slice (some ⟨ga,0,none⟩) na ac)):=hide (fun W sx hW=>by
    have:=(hW.fn.phiCells hb hj0 hpv).2
    rw [hav] at this
    simpa using this)
   have q0:w3.cell? ⟨xb,0,none⟩=some (.slice (some ⟨gp,0,none⟩) np pc):=Bx.cell HX3.out rfl
   have q1:=HCC.out _ _ HS3.out
   go_wp2_with fail
   refine wp_region_held_drew (S:=(fun w'=>w'.cell? ⟨xb,0,none⟩=some (.slice (some ⟨gp,0,none⟩) np pc)∧w'.cell? ⟨gp,1,none⟩=some (.slice (some ⟨ga,0,none⟩) na ac))) (by kernel_rfl) (by (try dsimp only);go_keep) (fun hHeld=>?_)
   refine tkH 0 rfl (v:=?_) ?_
   simp only [Act.put,xA,xB,xD,xE,xF]
   refine tkH 1 rfl (v:=?_) ?_
   simp only [Act.put,xA,xB,xC,xD,xE,xF]
   refine tkH 2 rfl (v:=?_) ?_
   simp only [Act.put,xA,xB,xC,xD,xE,xF]
   refine tkH 3 rfl (v:=?_) ?_
   simp only [Act.put,xA,xB,xC,xD,xE,xF]
   refine tkH 4 rfl (v:=?_) ?_
   simp only [Act.put,xA,xB,xC,xD,xE,xF]
   refine tkH 5 rfl (v:=?_) ?_
   simp only [Act.put,xA,xB,xC,xD,xE,xF]
   refine tkH 6 rfl (v:=?_) ?_
   simp only [Act.put,xA,xB,xC,xD,xE,xF]
   refine tkH 7 rfl (v:=?_) ?_
   simp only [Act.put,xA,xB,xC,xD,xE,xF]
   refine tkH 8 rfl (v:=?_) ?_
   simp only [Act.put,xA,xB,xC,xD,xE,xF]
   refine tkH 9 rfl (v:=?_) ?_
   simp only [Act.put,xA,xB,xC,xD,xE,xF]
   refine tkH 10 rfl (v:=?_) ?_
   simp only [Act.put,xA,xB,xC,xD,xE,xF]
   refine tkH 11 rfl (v:=?_) ?_
   simp only [Act.put,xA,xB,xC,xD,xE,xF]
   refine tkH 13 rfl (v:=?_) ?_
   simp only [Act.put,xA,xB,xC,xD,xE,xF]
   refine wpAnyH_ready (rs:=[12]) (by kernel_rfl) (by simp) ?_
   refine AllReadyH.cons rfl (fun K hK=>?_) AllReadyH.nil
   go_simp
   go_at_call 27
   refine (next_a sb B s3 (na:Int) _ (hide HS3.out.drew.dr) (by omega) (by omega)).mono ?_
   rintro e w4 ⟨rfl,hd,hg⟩
   have hlk:=next_lt s3 (n:=(na:Int)) (by omega)
   have HS4:=hide (HS3.out.drew.call hg hd)
   have HX4:Hid (Bx w4 xb #[.slice (some ⟨gp,0,none⟩) np pc,.slice ia ni ic,.int .i64 xs[b].term.kind,.int .i64 xs[b].term.a,.int .i64 xs[b].term.to,.int .i64 xs[b].term.els] 41):=hide (Bx.grown (w:=w3.drew) HX3.out hg (fun e=>HSBX.out (by injection e with e;exact e.symm)))
   obtain ⟨rk,s4,hrs⟩:∃r s9,nextP s3 (na:Int)=(r,s9):=⟨_,_,rfl⟩
   rw [hrs] at HS4 HP hlk ⊢
   dsimp only at HS4 HP hlk ⊢
   obtain ⟨kk,rfl⟩:=nat_of hlk.1
   rw [Int.toNat_natCast] at HP
   have hkn:kk<na:=by omega
   have hka:kk<xs[b].phis[0].args.length:=by rw [←HNA.out];exact hkn
   obtain ⟨hf9,hgl,hcell,hz9⟩:=HS4.out.fn.setArg (k:=kk) (d:=vv) hb hj0 hka hav
   have hgb:base≤ga:=((HS4.out.fn.args b hb 0 hj0).own.lt ga (by rw [hav];rfl)).1
   have HS9:=hide (HS4.out.put hf9 (by rw [hgl];simp) hgb)
   have z0:w4.cell? ⟨xb,0,none⟩=some (.slice (some ⟨gp,0,none⟩) np pc):=Bx.cell HX4.out rfl
   have z1:=HCC.out _ _ HS4.out
   have hpg:gp≠ga:=fun e=>by have:=(HS4.out.fn.phis b hb).lab gp (by rw [hpv];rfl);rw [e,hgl] at this;simp at this
   have hxg:xb≠ga:=fun e=>by have:=HS4.out.fr xb (by have:=HXL.out;omega);rw [e,hgl] at this;simp at this
   clear hd hg hrs hf9
   refine hK.out _ _ ⟨z0,z1⟩ (fun hHeld=>?_)
   clear hK
   try simp only [Act.put,xA,xB,xC,xD,xE,xF]
   refine tkH 14 rfl (v:=?_) ?_
   simp only [Act.put,xA,xB,xC,xD,xE,xF]
   refine wpAnyH_ready (rs:=[15]) (by kernel_rfl) (by simp) ?_
   refine AllReadyH.cons rfl (fun K hK=>?_) AllReadyH.nil
   go_simp
   refine hK.out _ _ ⟨(cell_of (Below.heap_setCell _ _ _ _ hxg)).trans z0,(cell_of (Below.heap_setCell _ _ _ _ hpg)).trans z1⟩ (fun hHeld=>?_)
   clear hK
   try simp only [Act.put,xA,xB,xC,xD,xE,xF]
   refine wpAnyH_done (by kernel_rfl) ?_ _
   clear hHeld z0 z1 q0 q1 hcell hz9
   have HS10:=hide HS9.out
   generalize w4.setCell ⟨ga,kk,none⟩ (.int .i64 vv)=w9 at *
   have f0:w9.cell? ⟨w.heap.size,0,none⟩=some (.int .i64 (V:Int)):=Bx.cell HS10.out.box rfl
   have f1:w9.cell? ⟨w.heap.size,1,none⟩=some (.slice (some ⟨G,0,none⟩) n c):=Bx.cell HS10.out.box rfl
   have r0:w9.cell? ⟨w.heap.size+1,0,none⟩=some (.int .i64 0):=Bx.cell HS10.out.res rfl
   have r1:w9.cell? ⟨w.heap.size+1,1,none⟩=some (.slice none 0 0):=Bx.cell HS10.out.res rfl
   have rz:=Bx.thaw HS10.out.res
   go_wp2
   rw [HP.out]
   exact bodyPost_ret (v:=.agg #[.int .i64 (V:Int),.slice (some ⟨G,0,none⟩) n c]) (by simp [results,Tryd.results28,go_sem,r0,r1]) rfl ⟨rfl,HS10.out.done⟩
  | false =>
   have HP:=hide (HPF.out rfl)
   clear HPT HPF
   rw [looseI,hxb,←HNI.out] at HP
   have q1:w3.cell? ⟨xb,1,none⟩=some (.slice ia ni ic):=Bx.cell HX3.out rfl
   have q2:w3.cell? ⟨xb,2,none⟩=some (.int .i64 xs[b].term.kind):=Bx.cell HX3.out rfl
   by_cases hni:0<ni
   ·have hniI:(0:Int)<ni:=by omega
    rw [if_pos hni] at HP
    go_wp2_with fail
    refine (next_a sb B s3 (ni:Int) w3 (hide HS3.out.dr) (by omega) (by omega)).mono ?_
    rintro e w4 ⟨rfl,hd,hg⟩
    have hl4:=fun h=>next_lt s3 (n:=(ni:Int)) h
    have HS4:=hide (HS3.out.call hg hd)
    obtain ⟨ri,s4,hrs⟩:∃r s9,nextP s3 (ni:Int)=(r,s9):=⟨_,_,rfl⟩
    rw [hrs] at HS4 HP hl4 ⊢
    dsimp only at HS4 HP hl4 ⊢
    have HX4:Hid (Bx w4 xb #[.slice pa np pc,.slice ia ni ic,.int .i64 xs[b].term.kind,.int .i64 xs[b].term.a,.int .i64 xs[b].term.to,.int .i64 xs[b].term.els] 41):=hide (HX3.out.grown hg (fun e=>HSBX.out (by injection e with e;exact e.symm)))
    have hli:=hl4 (by omega)
    obtain ⟨i,rfl⟩:=nat_of hli.1
    rw [Int.toNat_natCast] at HP
    clear hd hg hrs hl4 q1 q2 HS3 HX3
    have hil:i<xs[b].instrs.length:=by have:=HNI.out;omega
    have hin:i<ni:=by omega
    rw [show xs[b].instrs.getD i ⟨0,0,0,0,0⟩=xs[b].instrs[i] by simp [hil]] at HP
    obtain ⟨g,c2,hiv2⟩:=(HS4.out.fn.ins b hb).got (by omega)
    rw [←HNI.out,hiv] at hiv2
    injection hiv2 with e1 _ e3
    subst e1 e3
    have q1:w4.cell? ⟨xb,1,none⟩=some (.slice (some ⟨g,0,none⟩) ni ic):=Bx.cell HX4.out rfl
    have q2:w4.cell? ⟨xb,2,none⟩=some (.int .i64 xs[b].term.kind):=Bx.cell HX4.out rfl
    obtain ⟨hf9,hgl,⟨i0,i1,i2,i3,i4⟩,hz9⟩:=HS4.out.fn.setInsA (d:=vv) hb hil hiv
    have hgb:base≤g:=((HS4.out.fn.ins b hb).own.lt g (by rw [hiv];rfl)).1
    have HS9:=hide (HS4.out.put hf9 (by rw [hgl];simp) hgb)
    clear hf9
    go_wp2_with fail
    refine (usedA xs[b].instrs[i].op w4).mono ?_
    rintro e w5 ⟨rfl,hw5⟩
    subst hw5
    cases ha:aB xs[b].instrs[i].op with
    | true =>
     rw [if_pos ha] at HP
     go_upto_region 11 with fail
     generalize w5.setCell ⟨g,i*5+2,none⟩ (.int .i64 vv)=w9 at *
     have f0:w9.cell? ⟨w.heap.size,0,none⟩=some (.int .i64 (V:Int)):=Bx.cell HS9.out.box rfl
     have f1:w9.cell? ⟨w.heap.size,1,none⟩=some (.slice (some ⟨G,0,none⟩) n c):=Bx.cell HS9.out.box rfl
     have r0:w9.cell? ⟨w.heap.size+1,0,none⟩=some (.int .i64 0):=Bx.cell HS9.out.res rfl
     have r1:w9.cell? ⟨w.heap.size+1,1,none⟩=some (.slice none 0 0):=Bx.cell HS9.out.res rfl
     have rz:=Bx.thaw HS9.out.res
     go_wp2
     rw [HP.out]
     exact bodyPost_ret (v:=.agg #[.int .i64 (V:Int),.slice (some ⟨G,0,none⟩) n c]) (by simp [results,Tryd.results28,go_sem,r0,r1]) rfl ⟨rfl,HS9.out.done⟩
    | false =>
     rw [if_neg (by rw [ha];simp)] at HP
     have HSZ:=HS4
     generalize w5=wz at *
     clear HS9 i0 i1 i2 i3 i4 hz9 hgl HX4
     by_cases hk:xs[b].term.kind=1
     ·have hkb:(xs[b].term.kind != 1)=false:=by simpa using hk
      rw [looseT,hxb,if_neg (fun h=>h hk)] at HP
      clear hk
      have f0:wz.cell? ⟨w.heap.size,0,none⟩=some (.int .i64 (V:Int)):=Bx.cell HSZ.out.box rfl
      have f1:wz.cell? ⟨w.heap.size,1,none⟩=some (.slice (some ⟨G,0,none⟩) n c):=Bx.cell HSZ.out.box rfl
      have r0:wz.cell? ⟨w.heap.size+1,0,none⟩=some (.int .i64 0):=Bx.cell HSZ.out.res rfl
      have r1:wz.cell? ⟨w.heap.size+1,1,none⟩=some (.slice none 0 0):=Bx.cell HSZ.out.res rfl
      have rz:=Bx.thaw HSZ.out.res
      go_wp2
      rw [HP.out]
      exact bodyPost_ret (v:=.agg #[.int .i64 (V:Int),.slice (some ⟨G,0,none⟩) n c]) (by simp [results,Tryd.results28,go_sem,r0,r1]) rfl ⟨rfl,HSZ.out.done⟩
     ·have hkb:(xs[b].term.kind != 1)=true:=by simpa using hk
      rw [looseT,hxb,if_pos hk] at HP
      clear hk
      obtain ⟨hf9,hgl,hz9⟩:=HSZ.out.fn.setTerA (d:=vv) hb
      have hgb:base≤G:=(HSZ.out.fn.blks.own.lt G rfl).1
      have HS9:=hide (HSZ.out.put hf9 (by rw [hgl];simp) hgb)
      have x1:wz.cell? ⟨w.heap.size,1,none⟩=some (.slice (some ⟨G,0,none⟩) n c):=Bx.cell HSZ.out.box rfl
      obtain ⟨-,-,-,t1,-,-⟩:=HSZ.out.fn.cells hb
      clear hf9 hgl
      go_upto_region 14 with fail
      generalize wz.setCell ⟨G,b*6+2+1,none⟩ (.int .i64 vv)=w9 at *
      have f0:w9.cell? ⟨w.heap.size,0,none⟩=some (.int .i64 (V:Int)):=Bx.cell HS9.out.box rfl
      have f1:w9.cell? ⟨w.heap.size,1,none⟩=some (.slice (some ⟨G,0,none⟩) n c):=Bx.cell HS9.out.box rfl
      have r0:w9.cell? ⟨w.heap.size+1,0,none⟩=some (.int .i64 0):=Bx.cell HS9.out.res rfl
      have r1:w9.cell? ⟨w.heap.size+1,1,none⟩=some (.slice none 0 0):=Bx.cell HS9.out.res rfl
      have rz:=Bx.thaw HS9.out.res
      go_wp2
      rw [HP.out]
      exact bodyPost_ret (v:=.agg #[.int .i64 (V:Int),.slice (some ⟨G,0,none⟩) n c]) (by simp [results,Tryd.results28,go_sem,r0,r1]) rfl ⟨rfl,HS9.out.done⟩
   ·have hniI:¬(0:Int)<ni:=by omega
    rw [if_neg hni] at HP
    have HSZ:=HS3
    generalize w3=wz at *
    clear HX3
    by_cases hk:xs[b].term.kind=1
    ·have hkb:(xs[b].term.kind != 1)=false:=by simpa using hk
     rw [looseT,hxb,if_neg (fun h=>h hk)] at HP
     clear hk
     have f0:wz.cell? ⟨w.heap.size,0,none⟩=some (.int .i64 (V:Int)):=Bx.cell HSZ.out.box rfl
     have f1:wz.cell? ⟨w.heap.size,1,none⟩=some (.slice (some ⟨G,0,none⟩) n c):=Bx.cell HSZ.out.box rfl
     have r0:wz.cell? ⟨w.heap.size+1,0,none⟩=some (.int .i64 0):=Bx.cell HSZ.out.res rfl
     have r1:wz.cell? ⟨w.heap.size+1,1,none⟩=some (.slice none 0 0):=Bx.cell HSZ.out.res rfl
     have rz:=Bx.thaw HSZ.out.res
     go_wp2
     rw [HP.out]
     exact bodyPost_ret (v:=.agg #[.int .i64 (V:Int),.slice (some ⟨G,0,none⟩) n c]) (by simp [results,Tryd.results28,go_sem,r0,r1]) rfl ⟨rfl,HSZ.out.done⟩
    ·have hkb:(xs[b].term.kind != 1)=true:=by simpa using hk
     rw [looseT,hxb,if_pos hk] at HP
     clear hk
     obtain ⟨hf9,hgl,hz9⟩:=HSZ.out.fn.setTerA (d:=vv) hb
     have hgb:base≤G:=(HSZ.out.fn.blks.own.lt G rfl).1
     have HS9:=hide (HSZ.out.put hf9 (by rw [hgl];simp) hgb)
     have x1:wz.cell? ⟨w.heap.size,1,none⟩=some (.slice (some ⟨G,0,none⟩) n c):=Bx.cell HSZ.out.box rfl
     obtain ⟨-,-,-,t1,-,-⟩:=HSZ.out.fn.cells hb
     clear hf9 hgl
     go_upto_region 14 with fail
     generalize wz.setCell ⟨G,b*6+2+1,none⟩ (.int .i64 vv)=w9 at *
     have f0:w9.cell? ⟨w.heap.size,0,none⟩=some (.int .i64 (V:Int)):=Bx.cell HS9.out.box rfl
     have f1:w9.cell? ⟨w.heap.size,1,none⟩=some (.slice (some ⟨G,0,none⟩) n c):=Bx.cell HS9.out.box rfl
     have r0:w9.cell? ⟨w.heap.size+1,0,none⟩=some (.int .i64 0):=Bx.cell HS9.out.res rfl
     have r1:w9.cell? ⟨w.heap.size+1,1,none⟩=some (.slice none 0 0):=Bx.cell HS9.out.res rfl
     have rz:=Bx.thaw HS9.out.res
     go_wp2
     rw [HP.out]
     exact bodyPost_ret (v:=.agg #[.int .i64 (V:Int),.slice (some ⟨G,0,none⟩) n c]) (by simp [results,Tryd.results28,go_sem,r0,r1]) rfl ⟨rfl,HS9.out.done⟩
end Go.Proofs.YtdfdmjcngkfciaaDoor
