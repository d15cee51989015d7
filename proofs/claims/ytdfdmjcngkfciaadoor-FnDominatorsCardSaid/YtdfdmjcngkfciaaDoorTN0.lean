import Derived.Test.YtdfdmjcngkfciaaDoorDRa
import Derived.Test.YtdfdmjcngkfciaaDoorDH1
namespace Go.Proofs.YtdfdmjcngkfciaaDoor
open Go.RowKit
noncomputable def tB:Code:=(Tryd.f49.body.getD .skip)
noncomputable def tB1:Code:=(topL tB).getD 0 .skip
noncomputable def tB2:Code:=(topL tB).getD 1 .skip
noncomputable def tB3:Code:=(topL tB2).getD 0 .skip
noncomputable def tB4:Code:=(topL tB3).getD 0 .skip
noncomputable def tB5:Code:=(topL tB4).getD 0 .skip
set_option maxRecDepth 100000 in
theorem spr15_list (f:Nat→Value):(List.range' 15 134).map f=(f 15::f 16::f 17::f 18::f 19::f 20::f 21::f 22::f 23::f 24::f 25::f 26::f 27::f 28::f 29::f 30::f 31::f 32::f 33::f 34::f 35::f 36::f 37::f 38::f 39::f 40::f 41::f 42::f 43::f 44::f 45::f 46::f 47::f 48::f 49::f 50::f 51::f 52::f 53::f 54::f 55::f 56::f 57::f 58::f 59::f 60::f 61::f 62::f 63::f 64::f 65::f 66::f 67::f 68::f 69::f 70::f 71::f 72::f 73::f 74::f 75::f 76::f 77::f 78::f 79::f 80::f 81::f 82::f 83::f 84::f 85::f 86::f 87::f 88::f 89::f 90::f 91::f 92::f 93::f 94::f 95::f 96::f 97::f 98::f 99::f 100::f 101::f 102::f 103::f 104::f 105::f 106::f 107::f 108::f 109::f 110::f 111::f 112::f 113::f 114::f 115::f 116::f 117::f 118::f 119::f 120::f 121::f 122::f 123::f 124::f 125::f 126::f 127::f 128::f 129::f 130::f 131::f 132::f 133::f 134::f 135::f 136::f 137::f 138::f 139::f 140::f 141::f 142::f 143::f 144::f 145::f 146::f 147::f 148::[]):=rfl
set_option maxRecDepth 100000 in
theorem spr15 (tl:List Value) (h:tl.length=134):∃f:Nat→Value,tl=(f 15::f 16::f 17::f 18::f 19::f 20::f 21::f 22::f 23::f 24::f 25::f 26::f 27::f 28::f 29::f 30::f 31::f 32::f 33::f 34::f 35::f 36::f 37::f 38::f 39::f 40::f 41::f 42::f 43::f 44::f 45::f 46::f 47::f 48::f 49::f 50::f 51::f 52::f 53::f 54::f 55::f 56::f 57::f 58::f 59::f 60::f 61::f 62::f 63::f 64::f 65::f 66::f 67::f 68::f 69::f 70::f 71::f 72::f 73::f 74::f 75::f 76::f 77::f 78::f 79::f 80::f 81::f 82::f 83::f 84::f 85::f 86::f 87::f 88::f 89::f 90::f 91::f 92::f 93::f 94::f 95::f 96::f 97::f 98::f 99::f 100::f 101::f 102::f 103::f 104::f 105::f 106::f 107::f 108::f 109::f 110::f 111::f 112::f 113::f 114::f 115::f 116::f 117::f 118::f 119::f 120::f 121::f 122::f 123::f 124::f 125::f 126::f 127::f 128::f 129::f 130::f 131::f 132::f 133::f 134::f 135::f 136::f 137::f 138::f 139::f 140::f 141::f 142::f 143::f 144::f 145::f 146::f 147::f 148::[]):=by
 have e:=range_map Value undef tl 15 (fun i=>tl.getD (i-15) undef) (fun i hi=>by simp [hi])
 rw [h] at e
 exact ⟨fun i=>tl.getD (i-15) undef,e.trans (spr15_list _)⟩
def takeT (n:Nat) (was args:List Int) (z:Int) (m:Nat):List Int:=(List.range m).filterMap fun m=>if was.getD m 0=othZ z n then some (args.getD m 0) else none
theorem takeT_all (n:Nat) (was args:List Int) (z:Int):takeT n was args z was.length=takeA n was args z:=rfl
theorem takeT_yes {n:Nat} {was args:List Int} {z:Int} {m:Nat} (h:was.getD m 0=othZ z n):takeT n was args z (m+1)=takeT n was args z m++[args.getD m 0]:=by
 unfold takeT
 rw [List.range_succ,List.filterMap_append,List.filterMap_cons,if_pos h]
 rfl
theorem takeT_no {n:Nat} {was args:List Int} {z:Int} {m:Nat} (h:¬was.getD m 0=othZ z n):takeT n was args z (m+1)=takeT n was args z m:=by
 unfold takeT
 rw [List.range_succ,List.filterMap_append,List.filterMap_cons,if_neg h]
 exact List.append_nil _
theorem takeT_len (n:Nat) (was args:List Int) (z:Int) (m:Nat):(takeT n was args z m).length≤m:=by
 unfold takeT
 exact Nat.le_trans (List.length_filterMap_le _ _) (by simp)
structure TkS (w0 wr:World) (d:Int) (va:Value) (acc:List Int):Prop where
 low:Below w0.heap.size w0 wr
 box:Bx wr w0.heap.size #[.int .i64 d,va] 72
 own:wr.ownsRow (w0.heap.size+1) 2 1 va acc.length (intsV acc)
theorem TkS.push {w0 wr w':World} {d:Int} {va va':Value} {acc:List Int} {x:Int} {n':Nat} {o:Obj} (h:TkS w0 wr d va acc) (hg:(wr.alloc o).grownBy w' va.ownBlock) (ho:w'.ownsRow (w0.heap.size+1) 2 1 va' n' (intsV acc++[.int .i64 x])) (hn:n'=acc.length+1) :
  Bx w' w0.heap.size #[.int .i64 d,va] 72∧Below w0.heap.size w0 w'∧TkS w0 (w'.setCell ⟨w0.heap.size,1,none⟩ va') d va' (acc++[x]):=by
 have hl:=h.box.lt
 have hlow:Below w0.heap.size w0 w':=(h.low.trans (Below.alloc (Below.refl _ _) (Nat.le_of_lt hl) o)).trans (grown_below (Below.refl _ _) hg (h.own.alloc o) (Nat.le_succ _) (by simp;omega))
 have hb:=(h.box.box o).grown hg (fun e=>by have:=(h.own.lt _ e.symm).1;omega)
 refine ⟨hb,hlow,hlow.setCell (Nat.le_refl _) _,?_,?_⟩
 ·have:=hb.set 1 va'
  simpa using this
 ·subst hn
  have e:intsV (acc++[x])=intsV acc++[.int .i64 x]:=by simp [intsV]
  rw [e,List.length_append]
  exact ownsRow_setCell_below ho (by show w0.heap.size<_;omega) _
theorem TkS.drew {w0 wr:World} {d:Int} {va:Value} {acc:List Int} (h:TkS w0 wr d va acc):TkS w0 wr.drew d va acc:=⟨h.low.drew,h.box,h.own⟩
end Go.Proofs.YtdfdmjcngkfciaaDoor

namespace Go.Proofs.YtdfdmjcngkfciaaDoor
open Go.RowKit
structure T5 where
 m:Nat
 va:Value
 tl:List Value
set_option maxHeartbeats 4000000 in
set_option maxRecDepth 100000 in
theorem tn5 {Q:Exit→Act→World→Prop} (w0:World) (L B n gb G gc gp np pc b j:Nat) (wa na aa:Option Addr) (wl wcap nl ncap al ac:Nat) (was now args:List Int) (d:Int) (c0 c1 c2 c5 c6 c10:Value) (k:Nat) (hQ:Hid (∀c (a:Act) t v w,Q (.panic c) (a.put (some t) v) w→Q (.panic c) a w)) (hw:Hid (IntsAt w0 L B wa was)) (hwl:Hid (wl=was.length)) (hnw:Hid (IntsAt w0 L B na now)) (hnl:Hid (nl=now.length)) (hB:B≤w0.heap.size) (hg1:w0.cell? ⟨gb,1,none⟩=some (.slice (some ⟨G,0,none⟩) n gc)) (hgb:gb<w0.heap.size) (hg2:w0.cell? ⟨G,b*6,none⟩=some (.slice (some ⟨gp,0,none⟩) np pc)) (hG:G<w0.heap.size) (hg3:w0.cell? ⟨gp,j*2+1,none⟩=some (.slice aa al ac)) (hgp:gp<w0.heap.size) (har:Hid (IntsAt w0 L B aa args)) (hal:Hid (al=args.length)) (hbn:b<n) (hn:n≤11) (hjp:j<np) (hwal:wl≤al) (hwlb:wl≤1000) (hk:k<now.length) (hz:Hid (0≤now[k]∧now[k]≤1000)) (acc0:List Int) (ha0:acc0.length≤100000)
  (hexit:∀(va c14:Value) (tl:List Value) (w':World),tl.length=134→TkS w0 w' d va (acc0++takeA n was args now[k])→Q (.exit 8) ⟨(c0::c1::c2::.int .i64 ((n:Nat):Int)::.pointer (some ⟨gb,0,none⟩)::c5::c6::.int .i64 ((b:Nat):Int)::.slice wa wl wcap::.slice na nl ncap::c10::.int .i64 ((j:Nat):Int)::.pointer (some ⟨w0.heap.size,0,none⟩)::.int .i64 ((k:Nat):Int)::c14::tl).toArray,[]⟩ w')
  (va:Value) (tl:List Value) (wr:World) (hl:tl.length=134) (h:Hid (TkS w0 wr d va acc0)) :
  Code.wp Tryd.prog (Code.loop tB5) Q ⟨(c0::c1::c2::.int .i64 ((n:Nat):Int)::.pointer (some ⟨gb,0,none⟩)::c5::c6::.int .i64 ((b:Nat):Int)::.slice wa wl wcap::.slice na nl ncap::c10::.int .i64 ((j:Nat):Int)::.pointer (some ⟨w0.heap.size,0,none⟩)::.int .i64 ((k:Nat):Int)::.int .i64 ((0:Nat):Int)::tl).toArray,[]⟩ wr:=by
 have HX:=hide hexit
 clear hexit
 obtain ⟨j0,hj0,hy0,hy1,hy2⟩:=info_three Tryd.info2'
 refine wp_loop (fun a' wr=>∃x:T5,a'=⟨(c0::c1::c2::.int .i64 ((n:Nat):Int)::.pointer (some ⟨gb,0,none⟩)::c5::c6::.int .i64 ((b:Nat):Int)::.slice wa wl wcap::.slice na nl ncap::c10::.int .i64 ((j:Nat):Int)::.pointer (some ⟨w0.heap.size,0,none⟩)::.int .i64 ((k:Nat):Int)::.int .i64 ((x.m:Nat):Int)::x.tl).toArray,[]⟩∧x.tl.length=134∧x.m≤wl∧Hid (TkS w0 wr d x.va (acc0++takeT n was args now[k] x.m))) (fun a' _=>wl-(intOf (a'.tmps.getD 14 undef)).toNat) ⟨⟨0,va,tl⟩,rfl,hl,Nat.zero_le _,hide (by simpa [takeT] using h.out)⟩ ?_
 clear h hl
 rintro a' wr ⟨⟨m,va,tl⟩,rfl,hl,hm,HS⟩
 dsimp only at hl hm HS ⊢
 conv=>arg 2;whnf
 obtain ⟨f,rfl⟩:=spr15 tl hl
 clear hl
 by_cases hlt:m<wl
 ·have hltI:(m:Int)<wl:=by omega
  have hmw:m<was.length:=by rw [←hwl.out];exact hlt
  have hma:m<args.length:=by have:=hal.out;omega
  obtain ⟨bw,ow,ewa,hbw,hcw⟩:=hw.out m hmw
  obtain ⟨bn,on_,ena,hbn2,hcn⟩:=hnw.out k hk
  obtain ⟨ba,oa,eaa,hba,hca⟩:=har.out m hma
  subst ewa ena eaa
  have kc:∀W,Below w0.heap.size w0 W→∀q o,q<w0.heap.size→W.cell? ⟨q,o,none⟩=w0.cell? ⟨q,o,none⟩:=fun W hW q o hq=>hW.cell (p:=⟨q,o,none⟩) hq
  have KC:=hide kc
  clear kc
  have x1:=(KC.out _ HS.out.low bw (ow+m) (by omega)).trans hcw
  have x2:=(KC.out _ HS.out.low bn (on_+k) (by omega)).trans hcn
  have HTY:Hid (was.getD m 0=was[m]∧args.getD m 0=args[m]):=hide ⟨by simp [hmw],by simp [hma]⟩
  have hkn:k<nl:=by have:=hnl.out;omega
  have hmal:m<al:=by omega
  have HYY:=hide (fun (h:was.getD m 0=othZ now[k] n)=>takeT_yes (n:=n) (was:=was) (args:=args) (z:=now[k]) (m:=m) h)
  have HNN:=hide (fun (h:¬was.getD m 0=othZ now[k] n)=>takeT_no (n:=n) (was:=was) (args:=args) (z:=now[k]) (m:=m) h)
  have HTL:=hide (takeT_len n was args now[k] m)
  rw [HTY.out.1,HTY.out.2] at HYY
  rw [HTY.out.1] at HNN
  have hz1:=hz.out.1
  have hz2:=hz.out.2
  generalize now[k]=z at *
  generalize was[m]=u at *
  generalize hax:args[m]=ax at *
  clear hax
  go_wp2_with fail
  refine wp_region_held_drew (S:=(fun w'=>w'.cell? ⟨bw,ow+m,none⟩=some (.int .i64 u)∧w'.cell? ⟨bn,on_+k,none⟩=some (.int .i64 z))) (by kernel_rfl) (by (try dsimp only);go_keep) (fun hHeld=>?_)
  refine tkQ 0 rfl (v:=?_) (fun _ _ _ h=>hQ.out _ _ _ _ _ h) ?_
  simp only [Act.put,xA,xB,xD,xE,xF]
  refine tkQ 1 rfl (v:=?_) (fun _ _ _ h=>hQ.out _ _ _ _ _ h) ?_
  simp only [Act.put,xA,xB,xC,xD,xE,xF]
  refine tkQ 2 rfl (v:=?_) (fun _ _ _ h=>hQ.out _ _ _ _ _ h) ?_
  simp only [Act.put,xA,xB,xC,xD,xE,xF]
  refine tkQ 3 rfl (v:=?_) (fun _ _ _ h=>hQ.out _ _ _ _ _ h) ?_
  simp only [Act.put,xA,xB,xC,xD,xE,xF]
  refine tkQ 4 rfl (v:=?_) (fun _ _ _ h=>hQ.out _ _ _ _ _ h) ?_
  simp only [Act.put,xA,xB,xC,xD,xE,xF]
  refine tkQ 5 rfl (v:=?_) (fun _ _ _ h=>hQ.out _ _ _ _ _ h) ?_
  simp only [Act.put,xA,xB,xC,xD,xE,xF]
  refine tkQ 6 rfl (v:=?_) (fun _ _ _ h=>hQ.out _ _ _ _ _ h) ?_
  simp only [Act.put,xA,xB,xC,xD,xE,xF]
  refine tkQ 7 rfl (v:=?_) (fun _ _ _ h=>hQ.out _ _ _ _ _ h) ?_
  simp only [Act.put,xA,xB,xC,xD,xE,xF]
  refine tkQ 8 rfl (v:=?_) (fun _ _ _ h=>hQ.out _ _ _ _ _ h) ?_
  simp only [Act.put,xA,xB,xC,xD,xE,xF]
  refine wpAnyH_ready (rs:=[9]) (by kernel_rfl) (by simp) ?_
  refine AllReadyH.cons rfl (fun K hK=>?_) AllReadyH.nil
  go_simp
  go_at_call 61
  refine (other_any z n _ hz1 (by omega) (by omega)).mono ?_
  rintro e w1 ⟨rfl,hw1⟩
  subst hw1
  refine hK.out _ _ ⟨x1,x2⟩ (fun hHeld=>?_)
  clear hK
  try simp only [Act.put,xA,xB,xC,xD,xE,xF]
  refine tkQ 10 rfl (v:=?_) (fun _ _ _ h=>hQ.out _ _ _ _ _ h) ?_
  simp only [Act.put,xA,xB,xC,xD,xE,xF]
  refine wpAnyH_done (by kernel_rfl) ?_ _
  clear hHeld
  have HS1:=hide HS.out.drew
  generalize hwd:wr.drew=wd at *
  have HWD:=hide hwd
  clear HS hwd
  have x1:=(KC.out _ HS1.out.low bw (ow+m) (by omega)).trans hcw
  by_cases hu:u=othZ z n
  ·have hub:(u==othZ z n)=true:=by simpa using hu
   have HTE:=hide (HYY.out hu)
   clear hu
   have y1:=(KC.out _ HS1.out.low gb 1 hgb).trans hg1
   have y2:=(KC.out _ HS1.out.low G (b*6) hG).trans hg2
   have y3:=(KC.out _ HS1.out.low gp (j*2+1) hgp).trans hg3
   have y4:=(KC.out _ HS1.out.low ba (oa+m) (by omega)).trans hca
   obtain ⟨ua,uc,ul,hva,hul⟩:∃a c l,va=.slice a l c∧l=(acc0++takeT n was args z m).length:=by
    rcases HS1.out.own.2 with ⟨e,h0⟩ | ⟨_,_,_,e,_⟩
    ·exact ⟨none,0,0,e,h0.symm⟩
    ·exact ⟨_,_,_,e,rfl⟩
   subst hva
   have HUL:=hide hul
   clear hul
   have hpx:wd.cell? ⟨w0.heap.size,1,none⟩=some (.slice ua ul uc):=Bx.cell HS1.out.box rfl
   have hszd:=HS1.out.box.lt
   have HNE:Hid (gb≠w0.heap.size∧G≠w0.heap.size∧gp≠w0.heap.size∧ba≠w0.heap.size):=hide (by omega)
   have HAL:Hid ((acc0++takeT n was args z m).length≤200000):=hide (by rw [List.length_append];have:=HTL.out;omega)
   have HD1:=hide HS1.out.drew
   have HTA:Hid ((acc0++takeT n was args z m)++[ax]=acc0++takeT n was args z (m+1)):=hide (by rw [HTE.out,List.append_assoc])
   generalize acc0++takeT n was args z m=A at *
   go_wp2_with fail
   refine wp_region_held_drew (S:=(fun w'=>w'.cell? ⟨gb,1,none⟩=some (.slice (some ⟨G,0,none⟩) n gc)∧w'.cell? ⟨G,b*6,none⟩=some (.slice (some ⟨gp,0,none⟩) np pc)∧w'.cell? ⟨gp,j*2+1,none⟩=some (.slice (some ⟨ba,oa,none⟩) al ac)∧w'.cell? ⟨ba,oa+m,none⟩=some (.int .i64 ax))) (by kernel_rfl) (by (try dsimp only);go_keep) (fun hHeld=>?_)
   refine tkQ 0 rfl (v:=?_) (fun _ _ _ h=>hQ.out _ _ _ _ _ h) ?_
   simp only [Act.put,xA,xB,xD,xE,xF]
   refine tkQ 2 rfl (v:=?_) (fun _ _ _ h=>hQ.out _ _ _ _ _ h) ?_
   simp only [Act.put,xA,xB,xC,xD,xE,xF]
   refine tkQ 3 rfl (v:=?_) (fun _ _ _ h=>hQ.out _ _ _ _ _ h) ?_
   simp only [Act.put,xA,xB,xC,xD,xE,xF]
   refine tkQ 4 rfl (v:=?_) (fun _ _ _ h=>hQ.out _ _ _ _ _ h) ?_
   simp only [Act.put,xA,xB,xC,xD,xE,xF]
   refine tkQ 5 rfl (v:=?_) (fun _ _ _ h=>hQ.out _ _ _ _ _ h) ?_
   simp only [Act.put,xA,xB,xC,xD,xE,xF]
   refine tkQ 6 rfl (v:=?_) (fun _ _ _ h=>hQ.out _ _ _ _ _ h) ?_
   simp only [Act.put,xA,xB,xC,xD,xE,xF]
   refine tkQ 7 rfl (v:=?_) (fun _ _ _ h=>hQ.out _ _ _ _ _ h) ?_
   simp only [Act.put,xA,xB,xC,xD,xE,xF]
   refine tkQ 8 rfl (v:=?_) (fun _ _ _ h=>hQ.out _ _ _ _ _ h) ?_
   simp only [Act.put,xA,xB,xC,xD,xE,xF]
   refine tkQ 9 rfl (v:=?_) (fun _ _ _ h=>hQ.out _ _ _ _ _ h) ?_
   simp only [Act.put,xA,xB,xC,xD,xE,xF]
   refine tkQ 10 rfl (v:=?_) (fun _ _ _ h=>hQ.out _ _ _ _ _ h) ?_
   simp only [Act.put,xA,xB,xC,xD,xE,xF]
   refine tkQ 11 rfl (v:=?_) (fun _ _ _ h=>hQ.out _ _ _ _ _ h) ?_
   simp only [Act.put,xA,xB,xC,xD,xE,xF]
   refine tkQ 12 rfl (v:=?_) (fun _ _ _ h=>hQ.out _ _ _ _ _ h) ?_
   simp only [Act.put,xA,xB,xC,xD,xE,xF]
   refine tkQ 13 rfl (v:=?_) (fun _ _ _ h=>hQ.out _ _ _ _ _ h) ?_
   simp only [Act.put,xA,xB,xC,xD,xE,xF]
   refine tkQ 14 rfl (v:=?_) (fun _ _ _ h=>hQ.out _ _ _ _ _ h) ?_
   simp only [Act.put,xA,xB,xC,xD,xE,xF]
   refine wpAnyH_ready (rs:=[1,15]) (by kernel_rfl) (by simp) ?_
   refine (AllReadyH.cons rfl (fun K hK=>?_) (AllReadyH.cons rfl (fun K hK=>?_) AllReadyH.nil))
   focus
    go_simp
    refine hK.out _ _ (by first | with_reducible exact hHeld | ((try dsimp only);go_keep)) (fun hHeld=>?_)
    clear hK
    try simp only [Act.put,xA,xB,xC,xD,xE,xF]
    refine wpAnyH_ready (rs:=[15]) (by kernel_rfl) (by simp) ?_
    refine AllReadyH.cons rfl (fun K hK=>?_) AllReadyH.nil
    go_simp
    refine hK.out _ _ (by first | with_reducible exact hHeld | ((try dsimp only);go_keep)) (fun hHeld=>?_)
    clear hK
    try simp only [Act.put,xA,xB,xC,xD,xE,xF]
   rotate_left
   focus
    go_simp
    refine hK.out _ _ (by first | with_reducible exact hHeld | ((try dsimp only);go_keep)) (fun hHeld=>?_)
    clear hK
    try simp only [Act.put,xA,xB,xC,xD,xE,xF]
    refine wpAnyH_ready (rs:=[1]) (by kernel_rfl) (by simp) ?_
    refine AllReadyH.cons rfl (fun K hK=>?_) AllReadyH.nil
    go_simp
    refine hK.out _ _ (by first | with_reducible exact hHeld | ((try dsimp only);go_keep)) (fun hHeld=>?_)
    clear hK
    try simp only [Act.put,xA,xB,xC,xD,xE,xF]
   all_goals (
    refine wpAnyH_ready (rs:=[16]) (by kernel_rfl) (by simp) ?_
    refine AllReadyH.cons rfl (fun K hK=>?_) AllReadyH.nil
    refine step_append_r rfl _ _ 29 rfl (w0.heap.size+1) 2 j0 (.int .i64 0) 1 8 Tryd.underlying29 hj0 hy0 hy1 hy2 rfl (by decide) (.slice ua ul uc) A.length (intsV A) rfl ?s1 ⟨wd.heap.size,0,none⟩ 1 1 [.int .i64 ax] rfl rfl ?s2 ?s3 ?s4 ?s5 ?s6 ?_
    case s1=>exact HD1.out.own.alloc _
    case s2=>exact one_news wd.drew _ _
    case s3=>intro u hu;simp at hu;subst hu;rfl
    case s4=>unfold maxLen;have:=HAL.out;omega
    case s5=>have:=HAL.out;omega
    case s6=>simp;omega
    intro v8 w8 hown8 hg8 hne8 hat8
    obtain ⟨hb8,hl8,ht9⟩:=HD1.out.push hg8 hown8 rfl
    have z1:=(KC.out _ hl8 gb 1 hgb).trans hg1
    have z2:=(KC.out _ hl8 G (b*6) hG).trans hg2
    have z3:=(KC.out _ hl8 gp (j*2+1) hgp).trans hg3
    have z4:=(KC.out _ hl8 ba (oa+m) (by omega)).trans hca
    obtain ⟨g8,c8',rfl,hgb8,hcap⟩:=own_some' hown8 (by omega)
    have k1:w8.cell? ⟨w0.heap.size,1,none⟩=some (.slice ua ul uc):=Bx.cell hb8 rfl
    have kz:=Bx.thaw hb8
    have HT9:=hide ht9
    clear hgb8 hcap hne8 hat8 hown8 hg8 ht9 hb8
    refine hK.out _ _ ⟨z1,z2,z3,z4⟩ (fun hHeld=>?_)
    clear hK
    try simp only [Act.put,xA,xB,xC,xD,xE,xF]
    refine tkQ 17 rfl (v:=?_) (fun _ _ _ h=>hQ.out _ _ _ _ _ h) ?_
    simp only [Act.put,xA,xB,xC,xD,xE,xF]
    refine wpAnyH_ready (rs:=[18]) (by kernel_rfl) (by simp) ?_
    refine AllReadyH.cons rfl (fun K hK=>?_) AllReadyH.nil
    go_simp
    refine hK.out _ _ ⟨(cell_of (Below.heap_setCell _ _ _ _ HNE.out.1)).trans z1,(cell_of (Below.heap_setCell _ _ _ _ HNE.out.2.1)).trans z2,(cell_of (Below.heap_setCell _ _ _ _ HNE.out.2.2.1)).trans z3,(cell_of (Below.heap_setCell _ _ _ _ HNE.out.2.2.2)).trans z4⟩ (fun hHeld=>?_)
    clear hK
    try simp only [Act.put,xA,xB,xC,xD,xE,xF]
    refine wpAnyH_done (by kernel_rfl) ?_ _
    clear hHeld z1 z2 z3 z4 k1 kz
    go_wp2_with fail
    have hfin:=HT9.out
    rw [HTA.out] at hfin
    exact ⟨⟨⟨m+1,_,_⟩,rfl,rfl,(by show m+1≤wl;omega),hide hfin⟩,by simp [intOf];omega⟩)
  ·have hub:(u==othZ z n)=false:=by simpa using hu
   have HTE:=hide (HNN.out hu)
   clear hu
   go_wp2_with fail
   refine ⟨⟨⟨m+1,va,_⟩,rfl,rfl,(by show m+1≤wl;omega),hide ?_⟩,by simp [intOf];omega⟩
   rw [HTE.out]
   exact HS1.out
 ·have hltI:¬(m:Int)<wl:=by omega
  have hme:m=was.length:=by rw [←hwl.out];omega
  have HF:Hid (TkS w0 wr d va (acc0++takeA n was args now[k])):=hide (by
   have:=HS.out
   rw [hme,takeT_all] at this
   exact this)
  clear hme
  go_wp2_with fail
  exact HX.out va _ _ _ (by rfl) HF.out
end Go.Proofs.YtdfdmjcngkfciaaDoor
