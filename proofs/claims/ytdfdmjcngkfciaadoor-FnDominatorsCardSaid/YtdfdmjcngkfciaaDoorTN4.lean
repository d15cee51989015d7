import Derived.Test.YtdfdmjcngkfciaaDoorTN0
import Derived.Test.YtdfdmjcngkfciaaDoorDT2
import Derived.Test.YtdfdmjcngkfciaaDoorSPa
import Derived.Test.YtdfdmjcngkfciaaDoorDRb
namespace Go.Proofs.YtdfdmjcngkfciaaDoor
open Go.RowKit
structure T4 where
 k:Nat
 va:Value
 c14:Value
 tl:List Value
theorem turnA_to {n:Nat} {was now args:List Int} {k:Nat} (hk:k<now.length):turnA n was (now.take (k+1)) args=turnA n was (now.take k) args++takeA n was args now[k]:=by
 unfold turnA
 rw [List.take_succ_eq_append_getElem hk,List.flatMap_append]
 simp
set_option maxHeartbeats 4000000 in
set_option maxRecDepth 100000 in
theorem tn4 {Q:Exit→Act→World→Prop} (w0:World) (L B n gb G gc gp np pc b j:Nat) (wa na aa:Option Addr) (wl wcap nl ncap al ac:Nat) (was now args:List Int) (d:Int) (c0 c1 c2 c5 c6 c10:Value) (hQ:Hid (∀c (a:Act) t v w,Q (.panic c) (a.put (some t) v) w→Q (.panic c) a w)) (hw:Hid (IntsAt w0 L B wa was)) (hwl:Hid (wl=was.length)) (hnw:Hid (IntsAt w0 L B na now)) (hnl:Hid (nl=now.length)) (hB:B≤w0.heap.size) (hg1:w0.cell? ⟨gb,1,none⟩=some (.slice (some ⟨G,0,none⟩) n gc)) (hgb:gb<w0.heap.size) (hg2:w0.cell? ⟨G,b*6,none⟩=some (.slice (some ⟨gp,0,none⟩) np pc)) (hG:G<w0.heap.size) (hg3:w0.cell? ⟨gp,j*2+1,none⟩=some (.slice aa al ac)) (hgp:gp<w0.heap.size) (har:Hid (IntsAt w0 L B aa args)) (hal:Hid (al=args.length)) (hbn:b<n) (hn:n≤11) (hjp:j<np) (hwal:wl≤al) (hwlb:wl≤1000) (hz:Hid (∀z∈now,0≤z∧z≤1000)) (hlb:nl≤11∧wl≤11)
  (hexit:∀(va c13 c14:Value) (tl:List Value) (w':World),tl.length=134→TkS w0 w' d va (turnA n was now args)→Q (.exit 6) ⟨(c0::c1::c2::.int .i64 ((n:Nat):Int)::.pointer (some ⟨gb,0,none⟩)::c5::c6::.int .i64 ((b:Nat):Int)::.slice wa wl wcap::.slice na nl ncap::c10::.int .i64 ((j:Nat):Int)::.pointer (some ⟨w0.heap.size,0,none⟩)::c13::c14::tl).toArray,[]⟩ w')
  (va c14:Value) (tl:List Value) (wr:World) (hl:tl.length=134) (h:Hid (TkS w0 wr d va [])) :
  Code.wp Tryd.prog (Code.loop tB4) Q ⟨(c0::c1::c2::.int .i64 ((n:Nat):Int)::.pointer (some ⟨gb,0,none⟩)::c5::c6::.int .i64 ((b:Nat):Int)::.slice wa wl wcap::.slice na nl ncap::c10::.int .i64 ((j:Nat):Int)::.pointer (some ⟨w0.heap.size,0,none⟩)::.int .i64 ((0:Nat):Int)::c14::tl).toArray,[]⟩ wr:=by
 have HX:=hide hexit
 clear hexit
 refine wp_loop (fun a' wr=>∃x:T4,a'=⟨(c0::c1::c2::.int .i64 ((n:Nat):Int)::.pointer (some ⟨gb,0,none⟩)::c5::c6::.int .i64 ((b:Nat):Int)::.slice wa wl wcap::.slice na nl ncap::c10::.int .i64 ((j:Nat):Int)::.pointer (some ⟨w0.heap.size,0,none⟩)::.int .i64 ((x.k:Nat):Int)::x.c14::x.tl).toArray,[]⟩∧x.tl.length=134∧x.k≤nl∧Hid (TkS w0 wr d x.va (turnA n was (now.take x.k) args))) (fun a' _=>nl-(intOf (a'.tmps.getD 13 undef)).toNat) ⟨⟨0,va,c14,tl⟩,rfl,hl,Nat.zero_le _,h⟩ ?_
 clear h hl
 rintro a' wr ⟨⟨k,va,c14,tl⟩,rfl,hl,hk,HS⟩
 dsimp only at hl hk HS ⊢
 conv=>arg 2;whnf
 obtain ⟨f,rfl⟩:=spr15 tl hl
 clear hl
 by_cases hlt:k<nl
 ·have hltI:(k:Int)<nl:=by omega
  have hkn:k<now.length:=by rw [←hnl.out];exact hlt
  have HTL:=hide (turnA_len n was (now.take k) args)
  have HTO:=hide (turnA_to (n:=n) (was:=was) (args:=args) hkn)
  have HZK:=hide (hz.out _ (List.getElem_mem hkn))
  have HAL:Hid ((turnA n was (now.take k) args).length≤100000):=hide (by
   have h1:=HTL.out
   have h2:(now.take k).length*was.length≤11*11:=Nat.mul_le_mul (by rw [List.length_take];have:=hnl.out;omega) (by have:=hwl.out;omega)
   omega)
  go_wp2_with fail
  refine tn5 w0 L B n gb G gc gp np pc b j wa na aa wl wcap nl ncap al ac was now args d _ _ _ _ _ _ k (by exact hide (fun c a t v w h=>hQ.out c a t v w h)) hw hwl hnw hnl hB hg1 hgb hg2 hG hg3 hgp har hal hbn hn hjp hwal hwlb hkn HZK (turnA n was (now.take k) args) HAL.out ?_ va _ _ (by rfl) HS
  intro va2 c14 tl w' hl hfin
  obtain ⟨f,rfl⟩:=spr15 tl hl
  clear hl
  rw [←HTO.out] at hfin
  have HF:=hide hfin
  clear hfin HS
  go_wp2_with fail
  exact ⟨⟨⟨k+1,va2,_,_⟩,rfl,rfl,(by show k+1≤nl;omega),HF⟩,by simp [intOf];omega⟩
 ·have hltI:¬(k:Int)<nl:=by omega
  have HF:Hid (TkS w0 wr d va (turnA n was now args)):=hide (by
   have:=HS.out
   rw [List.take_of_length_le (by have:=hnl.out;omega)] at this
   exact this)
  go_wp2_with fail
  exact HX.out va _ _ _ _ (by rfl) HF.out
end Go.Proofs.YtdfdmjcngkfciaaDoor

namespace Go.Proofs.YtdfdmjcngkfciaaDoor
open Go.RowKit
structure PhS (w1 wr:World) (lab:Nat→Nat × Nat × Nat) (b:Nat) (vp:Value) (ps:List Ph) (av:Nat→Value):Prop where
 low:Below w1.heap.size w1 wr
 row:RowL wr lab (2,b,0) w1.heap.size 72 2 vp ps.length (phsV av ps)
 args:∀j (h:j<ps.length),RowL wr lab (4,b,j) w1.heap.size 2 1 (av j) ps[j].args.length (intsV ps[j].args)
 fr:∀q,wr.heap.size≤q→lab q=(0,0,0)
theorem PhS.push {w1 wr w2 w3:World} {lab:Nat→Nat × Nat × Nat} {b n':Nat} {vp vp' va:Value} {ps:List Ph} {av:Nat→Value} {d:Int} {acc:List Int} {o:Obj} (h:PhS w1 wr lab b vp ps av) (ht:TkS wr w2 d va acc) (hg:(w2.alloc o).grownBy w3 vp.ownBlock) (ho:w3.ownsRow w1.heap.size 72 2 vp' n' (phsV av ps++[.int .i64 d,va])) (hn:n'=ps.length+1) (hat:vp'.ownBlock=vp.ownBlock∨vp'.ownBlock=some (w2.alloc o).heap.size) :
  ∃lab',PhS w1 w3 lab' b vp' (ps++[⟨d,acc⟩]) (fun j=>if j=ps.length then va else av j):=by
 have hws:=h.low.size
 have k0:SpL wr (w2.alloc o) lab (fun q=>if va.ownBlock=some q then (4,b,ps.length) else lab q) w1.heap.size (fun _=>True):=by
  refine ⟨Nat.le_trans ht.low.size (by simp),fun q _ h2 _=>⟨?_,if_neg (fun e=>?_)⟩,fun hf q hq=>?_⟩
  ·exact (Below.heap_alloc _ _ _ (Nat.lt_of_lt_of_le h2 ht.low.size)).trans (ht.low.block q h2)
  ·have:=(ht.own.lt q e).1
   omega
  ·have hsz:=ht.low.size
   rw [World.size_alloc] at hq
   exact (if_neg (fun e=>by have:=(ht.own.lt q e).2;omega)).trans (hf q (by omega))
 have hrow:=h.row.sp k0 (fun _ _=>trivial)
 have hva:RowL (w2.alloc o) (fun q=>if va.ownBlock=some q then (4,b,ps.length) else lab q) (4,b,ps.length) w1.heap.size 2 1 va acc.length (intsV acc):=⟨own_base (ht.own.alloc o) (by omega),fun q e=>if_pos e⟩
 obtain ⟨lab',hr,k⟩:=hrow.grow hg ho hat (k0.fresh h.fr)
 have kk:=k0.trans k
 refine ⟨lab',?_,?_,fun j hj=>?_,kk.fresh h.fr⟩
 ·refine (h.low.trans (ht.low.mono hws)).trans ((Below.alloc (Below.refl _ _) (Nat.le_trans hws ht.low.size) o).trans (hrow.below hg (Nat.le_refl _) (by simp;have:=ht.low.size;omega)))
 ·subst hn
  have e:phsV (fun j=>if j=ps.length then va else av j) (ps++[⟨d,acc⟩])=phsV av ps++[.int .i64 d,va]:=by
   unfold phsV
   rw [flatI_app,Nat.zero_add]
   dsimp only
   rw [if_pos rfl,flatI_congr (f':=fun j (p:Ph)=>[Value.int .i64 p.dst,av j]) 0 ps (fun i hi=>by rw [Nat.zero_add,if_neg (by omega)])]
  rw [e,List.length_append]
  exact hr
 ·by_cases e:j<ps.length
  ·rw [List.getElem_append_left e,if_neg (by omega)]
   refine ((h.args j e).sp k0 (fun _ _=>trivial)).sp k (fun q e2=>?_)
   rw [e2]
   simp
  ·have hje:j=ps.length:=by simp at hj;omega
   subst hje
   rw [List.getElem_append_right (Nat.le_refl _),if_pos rfl]
   simp only [Nat.sub_self,List.getElem_cons_zero]
   exact hva.sp k (fun q e2=>by rw [e2];simp)
end Go.Proofs.YtdfdmjcngkfciaaDoor

namespace Go.Proofs.YtdfdmjcngkfciaaDoor
open Go.RowKit
structure T3 where
 j:Nat
 vp:Value
 c12:Value
 c13:Value
 c14:Value
 tl:List Value
set_option maxHeartbeats 4000000 in
set_option maxRecDepth 100000 in
theorem tn3 {Q:Exit→Act→World→Prop} (w1:World) (L B n gb G gc gp np pc b:Nat) (wa na:Option Addr) (wl wcap nl ncap:Nat) (was now:List Int) (ps:List Ph) (c0 c1 c2 c5 c6:Value) (hQ:Hid (∀c (a:Act) t v w,Q (.panic c) (a.put (some t) v) w→Q (.panic c) a w)) (hw:Hid (IntsAt w1 L B wa was)) (hwl:Hid (wl=was.length)) (hnw:Hid (IntsAt w1 L B na now)) (hnl:Hid (nl=now.length)) (hB:B≤w1.heap.size) (hg1:w1.cell? ⟨gb,1,none⟩=some (.slice (some ⟨G,0,none⟩) n gc)) (hgb:gb<w1.heap.size) (hg2:w1.cell? ⟨G,b*6,none⟩=some (.slice (some ⟨gp,0,none⟩) np pc)) (hG:G<w1.heap.size) (hgp:gp<w1.heap.size) (hnp:Hid (np=ps.length)) (hps:Hid (∀j (h:j<ps.length),w1.cell? ⟨gp,j*2,none⟩=some (.int .i64 ps[j].dst)∧∃aa ac,w1.cell? ⟨gp,j*2+1,none⟩=some (.slice aa ps[j].args.length ac)∧IntsAt w1 L B aa ps[j].args∧was.length≤ps[j].args.length)) (hbn:b<n) (hn:n≤11) (hz:Hid (∀z∈now,0≤z∧z≤1000)) (hlb:nl≤11∧wl≤11) (hnp2:np≤1000)
  (hexit:∀(vp c11 c12 c13 c14:Value) (lab:Nat→Nat × Nat × Nat) (av:Nat→Value) (tl:List Value) (w':World),tl.length=134→PhS w1 w' lab b vp (turnPh n was now ps) av→Q (.exit 4) ⟨(c0::c1::c2::.int .i64 ((n:Nat):Int)::.pointer (some ⟨gb,0,none⟩)::c5::c6::.int .i64 ((b:Nat):Int)::.slice wa wl wcap::.slice na nl ncap::vp::c11::c12::c13::c14::tl).toArray,[]⟩ w')
  (vp c12 c13 c14:Value) (lab0:Nat→Nat × Nat × Nat) (av0:Nat→Value) (tl:List Value) (wr:World) (hl:tl.length=134) (h:Hid (PhS w1 wr lab0 b vp [] av0)) :
  Code.wp Tryd.prog (Code.loop tB3) Q ⟨(c0::c1::c2::.int .i64 ((n:Nat):Int)::.pointer (some ⟨gb,0,none⟩)::c5::c6::.int .i64 ((b:Nat):Int)::.slice wa wl wcap::.slice na nl ncap::vp::.int .i64 ((0:Nat):Int)::c12::c13::c14::tl).toArray,[]⟩ wr:=by
 have HX:=hide hexit
 clear hexit
 obtain ⟨i0,hi0,hz0,hz1,hz2⟩:=info_three Tryd.infoPhiD
 refine wp_loop (fun a' wr=>∃x:T3,a'=⟨(c0::c1::c2::.int .i64 ((n:Nat):Int)::.pointer (some ⟨gb,0,none⟩)::c5::c6::.int .i64 ((b:Nat):Int)::.slice wa wl wcap::.slice na nl ncap::x.vp::.int .i64 ((x.j:Nat):Int)::x.c12::x.c13::x.c14::x.tl).toArray,[]⟩∧x.tl.length=134∧x.j≤np∧Hid (∃lab av,PhS w1 wr lab b x.vp (turnPh n was now (ps.take x.j)) av)) (fun a' _=>np-(intOf (a'.tmps.getD 11 undef)).toNat) ⟨⟨0,vp,c12,c13,c14,tl⟩,rfl,hl,Nat.zero_le _,hide ⟨lab0,av0,h.out⟩⟩ ?_
 clear h hl
 rintro a' wr ⟨⟨j,vp,c12,c13,c14,tl⟩,rfl,hl,hj,HS⟩
 dsimp only at hl hj HS ⊢
 conv=>arg 2;whnf
 obtain ⟨f,rfl⟩:=spr15 tl hl
 clear hl
 obtain ⟨lab,av,hS⟩:=HS.out
 have KC:=hide (fun q o (hq:q<w1.heap.size)=>hS.low.cell (p:=⟨q,o,none⟩) hq)
 have hsw:=hS.low.size
 have x1:=(KC.out gb 1 hgb).trans hg1
 have x2:=(KC.out G (b*6) hG).trans hg2
 by_cases hlt:j<np
 ·have hltI:(j:Int)<np:=by omega
  have hjp:j<ps.length:=by rw [←hnp.out];exact hlt
  obtain ⟨p0,aa,ac,p1,p2,p3⟩:=hps.out j hjp
  have x3:=(KC.out gp (j*2) hgp).trans p0
  have x4:=(KC.out gp (j*2+1) hgp).trans p1
  have HNX:Hid (turnPh n was now (ps.take (j+1))=turnPh n was now (ps.take j)++[⟨ps[j].dst,turnA n was now ps[j].args⟩]):=hide (by
   unfold turnPh
   rw [List.take_succ_eq_append_getElem hjp,List.map_append]
   rfl)
  have HPL:Hid ((turnPh n was now (ps.take j)).length=j):=hide (by unfold turnPh;rw [List.length_map,List.length_take];omega)
  have HP2:=hide (p2.keep (B:=B) (hS.low.mono hB))
  have HW:=hide (hw.out.keep (B:=B) (hS.low.mono hB))
  have HN:=hide (hnw.out.keep (B:=B) (hS.low.mono hB))
  have HSS:=hide hS
  obtain ⟨al,hal⟩:∃al,al=ps[j].args.length:=⟨_,rfl⟩
  rw [←hal] at x4 p3
  have HAL:=hide hal
  have hwal:wl≤al:=by have:=hwl.out;omega
  clear hal hS HS p0 p1 p2
  generalize ps[j].dst=d at *
  generalize ps[j].args=args at *
  go_wp2_with fail
  have HT0:Hid (TkS wr (wr.alloc (.cells #[.int .i64 d,.slice none 0 0] 72)) d (.slice none 0 0) []):=hide ⟨balloc (Below.refl _ _) _,Bx.new _ _ _,World.ownsRow_nil _ _ _ _⟩
  refine tn4 wr L B n gb G gc gp np pc b j wa na aa wl wcap nl ncap al ac was now args d _ _ _ _ _ _ (by exact hide (fun c a t v w h=>hQ.out c a t v w h)) HW hwl HN hnl (by omega) x1 (by omega) x2 (by omega) x4 (by omega) HP2 HAL hbn hn hlt hwal (by omega) hz hlb ?_ _ _ _ _ (by rfl) HT0
  intro va2 c13 c14 tl w2 hl hfin
  obtain ⟨f,rfl⟩:=spr15 tl hl
  clear hl HT0
  have HT2:=hide hfin
  clear hfin x1 x2 x3 x4
  obtain ⟨ua,ul,uc,hva⟩:∃a l c,va2=.slice a l c:=by
   rcases HT2.out.own.2 with ⟨e,h0⟩ | ⟨_,_,_,e,_⟩
   ·exact ⟨none,0,0,e⟩
   ·exact ⟨_,_,_,e⟩
  subst hva
  obtain ⟨qa,qc,hvp⟩:∃a c,vp=.slice a j c:=by
   obtain ⟨a,c,e⟩:=HSS.out.row.form
   rw [HPL.out] at e
   exact ⟨a,c,e⟩
  subst hvp
  have q0:w2.cell? ⟨wr.heap.size,0,none⟩=some (.int .i64 d):=Bx.cell HT2.out.box rfl
  have q1:w2.cell? ⟨wr.heap.size,1,none⟩=some (.slice ua ul uc):=Bx.cell HT2.out.box rfl
  have hs2:=HT2.out.low.size
  have HOW:Hid (w2.ownsRow w1.heap.size 72 2 (.slice qa j qc) j (phsV av (turnPh n was now (ps.take j)))):=hide (by
   have:=own_same HSS.out.row.own (w':=w2) (fun q e=>HT2.out.low.block q (HSS.out.row.own.lt q e).2)
   rw [HPL.out] at this
   exact this)
  go_wp2_with (at_builtin;refine wpList_append_own_at _ rfl _ _ 36 rfl w1.heap.size 72 i0 (.agg #[.int .i64 0,.slice none 0 0]) 2 32 Tryd.underlying36 hi0 hz0 hz1 hz2 rfl (by decide) _ j (phsV av (turnPh n was now (ps.take j))) rfl (HOW.out.alloc _) ⟨w2.heap.size,0,none⟩ 1 1 [.int .i64 d,.slice ua ul uc] rfl rfl (World.news_of_block (World.alloc_heap_new _ _)) ?c2 ?c3 ?c4 ?c5 ?_)
  case c2=>intro u hu;simp at hu;rcases hu with rfl | rfl<;>rfl
  case c3=>unfold maxLen;omega
  case c4=>omega
  case c5=>simp;omega
  intro v8 w8 hown8 hg8 hne8 hat8
  obtain ⟨lab',hfin⟩:=HSS.out.push HT2.out hg8 hown8 (by rw [HPL.out]) (by rw [World.size_alloc];exact hat8)
  rw [←HNX.out] at hfin
  have HF:=hide hfin
  obtain ⟨g8,c8',rfl,hgb8,hcap⟩:=own_some' hown8 (by omega)
  clear hgb8 hcap hne8 hat8 hown8 hg8 hfin q0 q1
  go_wp2_with fail
  exact ⟨⟨⟨j+1,_,_,_,_,_⟩,rfl,rfl,(by show j+1≤np;omega),hide ⟨_,_,HF.out⟩⟩,by simp [intOf];omega⟩
 ·have hltI:¬(j:Int)<np:=by omega
  have HF:Hid (PhS w1 wr lab b vp (turnPh n was now ps) av):=hide (by
   have:=hS
   rw [List.take_of_length_le (by have:=hnp.out;omega)] at this
   exact this)
  clear hS HS
  go_wp2_with fail
  exact HX.out _ _ _ _ _ _ _ _ _ (by rfl) HF.out
end Go.Proofs.YtdfdmjcngkfciaaDoor

namespace Go.Proofs.YtdfdmjcngkfciaaDoor
open Go.RowKit
def spoilI (k:Int) (V:Nat) (s:Sr) (x:Ins):Ins :=
 if k=11 then ⟨(nextP s 13).1,x.dst,x.a,x.b,x.imm⟩ else if k=12 then ⟨x.op,(nextP s ((V:Int)+1)).1,x.a,x.b,x.imm⟩ else if k=13 then ⟨x.op,x.dst,(V:Int),x.b,x.imm⟩ else if k=14 then ⟨x.op,x.dst,x.a,-1,x.imm⟩ else ⟨x.op,x.dst,x.a,x.b,(nextP s 12).1⟩
def spoilA (k:Int) (V:Nat) (s:Sr) (zs:List Int):List Int :=
 if k=8 then zs++[0] else if k=9 then zs.set 0 ((V:Int)*(nextP s 2).1) else zs.drop 1
def spoilT (k:Int) (V n:Nat) (s:Sr) (t:Ter):Ter :=
 if k=1 then ⟨t.kind,t.a,n,t.els⟩ else if k=2 then ⟨t.kind,t.a,t.to,t.to⟩ else if k=3 then ⟨t.kind,t.a,0,t.els⟩ else if k=4 then ⟨(nextP s 5).1,t.a,t.to,t.els⟩ else if k=5 then ⟨t.kind,(V:Int),t.to,t.els⟩ else t
def spoilB (k:Int) (V n:Nat) (s:Sr) (x:Blk):Blk :=
 if k=6 then ⟨x.phis++[⟨0,[]⟩],x.instrs,x.term⟩
 else if k<6 then ⟨x.phis,x.instrs,spoilT k V n s x.term⟩
 else if k<11 then (if 0<x.phis.length then ⟨x.phis.set 0 ⟨(x.phis.getD 0 dPh).dst,spoilA k V s (x.phis.getD 0 dPh).args⟩,x.instrs,x.term⟩ else x)
 else (if 0<x.instrs.length then ⟨x.phis,x.instrs.set (nextP s x.instrs.length).1.toNat (spoilI k V (nextP s x.instrs.length).2 (x.instrs.getD (nextP s x.instrs.length).1.toNat ⟨0,0,0,0,0⟩)),x.term⟩ else x)
def spoilP (V:Nat) (xs:List Blk) (s:Sr):Fn :=
 if (nextP s 16).1=7 then ⟨V,[]⟩ else
 ⟨if (nextP s 16).1=0 then (V:Int)+(nextP (nextP (nextP s 16).2 xs.length).2 2).1*2-1 else V,xs.set (nextP (nextP s 16).2 xs.length).1.toNat (spoilB (nextP s 16).1 V xs.length (nextP (nextP s 16).2 xs.length).2 (xs.getD (nextP (nextP s 16).2 xs.length).1.toNat dBlk))⟩
def SpE (F:Fn) (w:World) (base sb:Nat) (e:Ending) (w':World):Prop:=∃a m c',e=.returned (.agg #[.int .i64 F.values,.slice a m c'])∧m=F.blocks.length∧SpO w w' base sb a F.blocks
def SmW (a b:World):Prop:=a=b
end Go.Proofs.YtdfdmjcngkfciaaDoor

namespace Go.Proofs.YtdfdmjcngkfciaaDoor
open Go.RowKit
def Tot1 (x:Blk):Prop:=x.phis.length≤4∧(∀p∈x.phis,p.args.length≤1001)∧x.instrs.length≤1000
theorem phTot_le:∀(ps:List Ph) (m:Nat),(∀p∈ps,p.args.length≤m)→phTot ps≤ps.length*m
 | [],m,_=>by simp [phTot]
 | p::ps,m,h=>by
  have h1:=h p (by simp)
  have h2:=phTot_le ps m (fun q hq=>h q (by simp [hq]))
  unfold phTot at h2 ⊢
  rw [List.map_cons,List.sum_cons,List.length_cons,Nat.add_mul,Nat.one_mul]
  omega
theorem Tot1.le {x:Blk} (h:Tot1 x):blkTot x≤6000:=by
 have h1:=phTot_le x.phis 1001 h.2.1
 have h2:=Nat.mul_le_mul_right 1001 h.1
 have h3:=h.2.2
 have h4:=h.1
 unfold blkTot
 omega
theorem blksTot_le:∀(xs:List Blk),(∀x∈xs,Tot1 x)→blksTot xs≤xs.length*6000
 | [],_=>by simp [blksTot]
 | x::xs,h=>by
  have h1:=(h x (by simp)).le
  have h2:=blksTot_le xs (fun q hq=>h q (by simp [hq]))
  unfold blksTot at h2 ⊢
  rw [List.map_cons,List.sum_cons,List.length_cons,Nat.add_mul,Nat.one_mul]
  omega
theorem tot_of {xs:List Blk} (hn:xs.length≤12) (h:∀x∈xs,Tot1 x):xs.length+blksTot xs≤1048576:=by
 have:=blksTot_le xs h
 omega
def Ph3 (xs:List Blk):Prop:=∀x∈xs,x.phis.length≤3
theorem Ph3.get {xs:List Blk} (h:Ph3 xs) (i:Nat):(xs.getD i dBlk).phis.length≤3:=by
 by_cases hi:i<xs.length
 ·rw [show xs.getD i dBlk=xs[i] by simp [hi]]
  exact h _ (List.getElem_mem hi)
 ·rw [show xs.getD i dBlk=dBlk by simp [hi]]
  simp [dBlk]
theorem Ph3.set {xs:List Blk} (h:Ph3 xs) (i:Nat) {x:Blk} (hx:x.phis.length≤3):Ph3 (xs.set i x):=fun y hy=>by
 rcases List.mem_or_eq_of_mem_set hy with hy | hy
 ·exact h y hy
 ·subst hy;exact hx
theorem blksB_ph3 (near:Bool) (ids:List Int):∀(k i:Nat) (g:GdR),Ph3 g.xs→Ph3 (blksB near ids k i g).xs
 | 0,_,_,h=>h
 | k+1,i,g,h=>by
  rw [blksB]
  refine blksB_ph3 near ids k (i+1) _ (h.set i ?_)
  show (phG (npP _ g.s).1 g.v).length≤3
  rw [phG_len]
  exact np_le _ _
theorem argB_ph3 (ends:List (List Int)):∀(k i:Nat) (xs:List Blk) (s:Sr),Ph3 xs→Ph3 (argB ends k i xs s).1
 | 0,_,_,_,h=>h
 | k+1,i,xs,s,h=>by
  rw [argB]
  refine argB_ph3 ends k (i+1) _ _ (h.set i ?_)
  show (phsB ends _ _ 0 _ s).1.length≤3
  rw [phsB_len]
  exact h.get i
theorem turn2_ph3 (xs:List Blk):∀(k b:Nat) (g:List Blk),Ph3 g→Ph3 (turn2 xs k b g)
 | 0,_,_,h=>h
 | k+1,b,g,h=>by
  rw [turn2]
  refine turn2_ph3 xs k (b+1) _ (h.set b ?_)
  show (turnPh _ _ _ _).length≤3
  unfold turnPh
  rw [List.length_map]
  exact h.get b
theorem turn_ph3 {xs:List Blk} (h:Ph3 xs):Ph3 (turnP xs):=by
 unfold turnP
 refine turn2_ph3 xs _ 0 _ (fun x hx=>?_)
 unfold turn1 at hx
 obtain ⟨b,_,rfl⟩:=List.mem_map.1 hx
 exact h.get _
theorem ren_ph3 {v:Nat} {xs:List Blk} (h:Ph3 xs):Ph3 (renP v xs):=fun x hx=>by
 unfold renP at hx
 obtain ⟨y,hy,rfl⟩:=List.mem_map.1 hx
 have:=h y hy
 unfold renB
 simpa using this
theorem good_ph3 (s:Sr) (dead:Bool):Ph3 (goodP s dead).1.blocks:=by
 have hA:Ph3 (goodA s dead).1:=by
  unfold goodA
  refine argB_ph3 _ _ _ _ _ (blksB_ph3 _ _ _ _ _ (fun x hx=>?_))
  rw [(blk0_emp _ x hx).1]
  simp
 unfold goodP
 dsimp only
 split
 ·refine ren_ph3 ?_
  split
  ·exact turn_ph3 hA
  ·exact hA
 ·split
  ·exact turn_ph3 hA
  ·exact hA
theorem tot1_of {xs:List Blk} (h3:Ph3 xs) (hs:SmlB xs):∀x∈xs,Tot1 x:=fun x hx=>⟨Nat.le_trans (h3 x hx) (by omega),fun p hp=>Nat.le_trans ((hs x hx).2.1 p hp) (by omega),(hs x hx).2.2⟩
theorem ph3_get {xs:List Blk} (h3:Ph3 xs) (hs:SmlB xs) (i:Nat):(xs.getD i dBlk).phis.length≤3∧(∀p∈(xs.getD i dBlk).phis,p.args.length≤1000)∧(xs.getD i dBlk).instrs.length≤1000:=by
 by_cases hi:i<xs.length
 ·rw [show xs.getD i dBlk=xs[i] by simp [hi]]
  exact ⟨h3 _ (List.getElem_mem hi),(hs _ (List.getElem_mem hi)).2⟩
 ·rw [show xs.getD i dBlk=dBlk by simp [hi]]
  simp [dBlk]
theorem tot1_set {xs:List Blk} (h:∀x∈xs,Tot1 x) (i:Nat) {x:Blk} (hx:Tot1 x):∀y∈xs.set i x,Tot1 y:=fun y hy=>by
 rcases List.mem_or_eq_of_mem_set hy with hy | hy
 ·exact h y hy
 ·subst hy;exact hx
theorem tot1_arg {x:Blk} (h:x.phis.length≤3∧(∀p∈x.phis,p.args.length≤1000)∧x.instrs.length≤1000) (d:Int) (zs:List Int) (hz:zs.length≤1001):Tot1 ⟨x.phis.set 0 ⟨d,zs⟩,x.instrs,x.term⟩:=by
 refine ⟨by show (x.phis.set 0 _).length≤4;rw [List.length_set];omega,fun p hp=>?_,h.2.2⟩
 rcases List.mem_or_eq_of_mem_set hp with hp | hp
 ·exact Nat.le_trans (h.2.1 p hp) (by omega)
 ·subst hp;exact hz
theorem arg0_le {x:Blk} (h:x.phis.length≤3∧(∀p∈x.phis,p.args.length≤1000)∧x.instrs.length≤1000):(x.phis.getD 0 dPh).args.length≤1000:=by
 by_cases hi:0<x.phis.length
 ·rw [show x.phis.getD 0 dPh=x.phis[0] by simp [hi]]
  exact h.2.1 _ (List.getElem_mem hi)
 ·rw [show x.phis.getD 0 dPh=dPh by simp at hi;simp [hi]]
  simp [dPh]
theorem loose_tot {V:Nat} {xs:List Blk} {s:Sr} (h3:Ph3 xs) (hs:SmlB xs):(looseP V xs s).1.length=xs.length∧∀x∈(looseP V xs s).1,Tot1 x:=by
 have h0:=tot1_of h3 hs
 have hg:=fun i=>ph3_get h3 hs i
 have up:∀{x:Blk},(x.phis.length≤3∧(∀p∈x.phis,p.args.length≤1000)∧x.instrs.length≤1000)→Tot1 x:=fun h=>⟨by omega,fun p hp=>Nat.le_trans (h.2.1 p hp) (by omega),h.2.2⟩
 have hT:∀b v s,(looseT xs b v s).1.length=xs.length∧∀x∈(looseT xs b v s).1,Tot1 x:=fun b v s=>by
  unfold looseT
  split
  ·exact ⟨by simp,tot1_set h0 b (up (hg b))⟩
  ·exact ⟨rfl,h0⟩
 have hI:∀b v s,(looseI xs b v s).1.length=xs.length∧∀x∈(looseI xs b v s).1,Tot1 x:=fun b v s=>by
  unfold looseI
  split
  ·split
   ·exact ⟨by simp,tot1_set h0 b (up ⟨(hg b).1,(hg b).2.1,by show (List.set _ _ _).length≤1000;rw [List.length_set];exact (hg b).2.2⟩)⟩
   ·exact hT b v _
  ·exact hT b v s
 unfold looseP looseB
 split
 ·split
  ·refine ⟨by simp,tot1_set h0 _ ?_⟩
   exact tot1_arg (hg _) _ _ (by rw [List.length_set];have:=arg0_le (hg (nextP s xs.length).1.toNat);omega)
  ·exact hI _ _ _
 ·exact hI _ _ _
theorem spoil_tot {V:Nat} {xs:List Blk} {s:Sr} (h3:Ph3 xs) (hs:SmlB xs):(spoilP V xs s).blocks.length≤xs.length∧∀x∈(spoilP V xs s).blocks,Tot1 x:=by
 have h0:=tot1_of h3 hs
 have hg:=fun i=>ph3_get h3 hs i
 have up:∀{x:Blk},(x.phis.length≤3∧(∀p∈x.phis,p.args.length≤1000)∧x.instrs.length≤1000)→Tot1 x:=fun h=>⟨by omega,fun p hp=>Nat.le_trans (h.2.1 p hp) (by omega),h.2.2⟩
 unfold spoilP
 split
 ·exact ⟨Nat.zero_le _,fun x hx=>absurd hx (by simp)⟩
 ·refine ⟨by simp,tot1_set h0 _ ?_⟩
  unfold spoilB
  split
  ·refine ⟨by show (_++[_]).length≤4;rw [List.length_append];have:=(hg (nextP (nextP s 16).2 xs.length).1.toNat).1;simp only [List.length_cons,List.length_nil];omega,fun p hp=>?_,(hg _).2.2⟩
   rcases List.mem_append.1 hp with hp | hp
   ·exact Nat.le_trans ((hg _).2.1 p hp) (by omega)
   ·simp only [List.mem_cons,List.not_mem_nil,or_false] at hp
    subst hp
    simp
  ·split
   ·exact up (hg _)
   ·split
    ·split
     ·refine tot1_arg (hg _) _ _ ?_
      have ha:=arg0_le (hg (nextP (nextP s 16).2 xs.length).1.toNat)
      unfold spoilA
      split
      ·rw [List.length_append];simp only [List.length_cons,List.length_nil];omega
      ·split
       ·rw [List.length_set];omega
       ·rw [List.length_drop];omega
     ·exact up (hg _)
    ·split
     ·exact up ⟨(hg _).1,(hg _).2.1,by show (List.set _ _ _).length≤1000;rw [List.length_set];exact (hg _).2.2⟩
     ·exact up (hg _)
end Go.Proofs.YtdfdmjcngkfciaaDoor
