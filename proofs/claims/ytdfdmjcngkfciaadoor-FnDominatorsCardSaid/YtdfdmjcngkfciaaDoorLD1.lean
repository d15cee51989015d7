import Derived.Test.YtdfdmjcngkfciaaDoorDW1
namespace Go.Proofs.YtdfdmjcngkfciaaDoor
open Go.RowKit
structure D1 where
 i:Nat
 vp:Value
 c10:Value
 tl:List Value
set_option maxHeartbeats 4000000 in
set_option maxRecDepth 100000 in
theorem ld1 {Q:Exit→Act→World→Prop} (w:World) (D fb ab:Nat) (V:Int) (xs:List Blk) (a1:Option Addr) (m1 c1:Nat) (u0 u1 u3:Value) (g3 k3:Nat) (P:List Int) (ca ma:Option Addr) (n cc m mc st:Nat) (ms:List UInt8) (c2 c3 c4 c11 c12:Value) (hQ:Hid (∀c (a:Act) t v w,Q (.panic c) (a.put (some t) v) w→Q (.panic c) a w)) (hv:Hid (validI ⟨V,xs⟩=true)) (hm1:Hid (m1=xs.length)) (hma:Hid (BytesAt w 0 w.heap.size ma ms)) (hmx:Hid (m=ms.length)) (hm:m≤1048576) (hst:st≤20)
  (hexit:∀(p:List Nat) (b:Nat) (vp c9 c10:Value) (tl:List Value) (w':World),tl.length=142→p.length≤30→LdP w w' D fb ab V xs a1 m1 c1 u0 u1 u3 g3 k3 P vp p b→Q (.exit 0) ⟨(.slice ca n cc::.slice ma m mc::c2::c3::c4::.pointer (some ⟨fb,0,none⟩)::.pointer (some ⟨ab,0,none⟩)::vp::.int .i64 ((st:Nat):Int)::c9::c10::c11::c12::tl).toArray,[]⟩ w')
  (vp c10:Value) (tl:List Value) (wr:World) (hl:tl.length=142) (h:Hid (LdP w wr D fb ab V xs a1 m1 c1 u0 u1 u3 g3 k3 P vp [0] 0)) :
  Code.wp Tryd.prog (Code.loop ldB1) Q ⟨(.slice ca n cc::.slice ma m mc::c2::c3::c4::.pointer (some ⟨fb,0,none⟩)::.pointer (some ⟨ab,0,none⟩)::vp::.int .i64 ((st:Nat):Int)::.int .i64 ((1:Nat):Int)::c10::c11::c12::tl).toArray,[]⟩ wr:=by
 have HX:=hide hexit
 clear hexit
 obtain ⟨j0,hj0,hy0,hy1,hy2⟩:=info_three Tryd.info2'
 have HOK:=hide (ok_of_valid hv.out)
 refine wp_loop (fun a' wr=>∃x:D1,a'=⟨(.slice ca n cc::.slice ma m mc::c2::c3::c4::.pointer (some ⟨fb,0,none⟩)::.pointer (some ⟨ab,0,none⟩)::x.vp::.int .i64 ((st:Nat):Int)::.int .i64 ((x.i:Nat):Int)::x.c10::c11::c12::x.tl).toArray,[]⟩∧x.tl.length=142∧x.i≤21∧Hid (∃p b,p.length≤x.i∧LdP w wr D fb ab V xs a1 m1 c1 u0 u1 u3 g3 k3 P x.vp p b)) (fun a' _=>21-(intOf (a'.tmps.getD 9 undef)).toNat) ⟨⟨1,vp,c10,tl⟩,rfl,hl,(by show 1≤21;omega),hide ⟨[0],0,by simp,h.out⟩⟩ ?_
 clear h hl
 rintro a' wr ⟨⟨i,vp,c10,tl⟩,rfl,hl,hi,HS⟩
 dsimp only at hl hi HS ⊢
 conv=>arg 2;whnf
 obtain ⟨f,rfl⟩:=spr13 tl hl
 clear hl
 obtain ⟨p,b,hpl,hP⟩:=HS.out
 have HP:=hide hP
 clear hP HS
 by_cases hlt:i≤st
 ·have hltI:(i:Int)≤st:=by omega
  obtain ⟨gp,pc,rfl,hgp,x3,hp1⟩:=HP.out.last
  have hbl:b<xs.length:=HOK.out.re b HP.out.pth.re
  have hbm:b<m1:=by rw [hm1.out];exact hbl
  have x1:wr.cell? ⟨fb,1,none⟩=some (.slice a1 m1 c1):=Bx.cell HP.out.s.fbx rfl
  obtain ⟨gb,ob,ha1,hgb,hbk⟩:=HP.out.s.at_ b hbl
  obtain ⟨_,_,_,_,_,_,⟨t0,t1,t2,t3⟩,_,_⟩:=hbk
  subst ha1
  have hm1n:m1≤1000:=by have:=HOK.out.n2;have:=hm1.out;omega
  have HKD:=hide (ter_of_valid hv.out hbl)
  have HTO:=hide (fun hk=>tg_to HOK.out hbl hk)
  have HEL:=hide (fun hk=>tg_els HOK.out hbl hk)
  generalize xs[b].term=tt at *
  have hsz:=HP.out.s.sz
  have hDl:D≤wr.heap.size:=HP.out.s.sz
  have hfD:=HP.out.s.fD
  have hIl:0≤(p.length:Int)-1:=by omega
  obtain ⟨pl,hpl2⟩:∃pl,pl=p.length:=⟨_,rfl⟩
  obtain ⟨pm,hpm⟩:∃pm,pm=p.length-1:=⟨_,rfl⟩
  have hpI:(p.length:Int)-1=(pm:Int):=by omega
  rw [←hpm] at x3
  rw [←hpl2] at hpI hIl hp1 hpl ⊢
  have hpmn:pm<pl:=by omega
  have hwp:IntKind.i64.wrap (pm:Int)=(pm:Int):=by rw [IntKind.wrap_i64];omega
  have HPL:=hide hpl2
  clear hpl2 hpm
  have HBX:Hid (Below wr.heap.size wr (wr.alloc (.cells #[.int .i64 tt.kind,.int .i64 tt.a,.int .i64 tt.to,.int .i64 tt.els] 39)).drew∧Bx (wr.alloc (.cells #[.int .i64 tt.kind,.int .i64 tt.a,.int .i64 tt.to,.int .i64 tt.els] 39)).drew wr.heap.size #[.int .i64 tt.kind,.int .i64 tt.a,.int .i64 tt.to,.int .i64 tt.els] 39):=hide ⟨(balloc (Below.refl _ _) _).drew,Bx.new _ _ _⟩
  have HDC:Hid (∀q o u,q<wr.heap.size→wr.cell? ⟨q,o,none⟩=some u→(wr.alloc (.cells #[.int .i64 tt.kind,.int .i64 tt.a,.int .i64 tt.to,.int .i64 tt.els] 39)).drew.cell? ⟨q,o,none⟩=some u):=hide (fun q o u hq hu=>(HBX.out.1.cell (p:=⟨q,o,none⟩) hq).trans hu)
  go_upto_region 12 with fail
  go_cut [10] from 41 to 78 (fun c10 wx=>c10=.pointer (some ⟨wr.heap.size,0,none⟩)∧Hid (Below wr.heap.size wr wx∧Bx wx wr.heap.size #[.int .i64 tt.kind,.int .i64 tt.a,.int .i64 tt.to,.int .i64 tt.els] 39))
  case first =>
   refine wp_region_held_drew (S:=(fun w'=>w'.cell? ⟨fb,1,none⟩=some (.slice (some ⟨gb,ob,none⟩) m1 c1)∧w'.cell? ⟨gp,pm,none⟩=some (.int .i64 (b:Int))∧w'.cell? ⟨gb,ob+b*6+2,none⟩=some (.int .i64 tt.kind)∧w'.cell? ⟨gb,ob+b*6+2+1,none⟩=some (.int .i64 tt.a)∧w'.cell? ⟨gb,ob+b*6+2+2,none⟩=some (.int .i64 tt.to)∧w'.cell? ⟨gb,ob+b*6+2+3,none⟩=some (.int .i64 tt.els))) (by kernel_rfl) (by (try dsimp only);go_keep) (fun hHeld=>?_)
   refine tkQ 0 rfl (v:=?_) (fun _ _ _ h=>hQ.out _ _ _ _ _ h) ?_
   simp only [Act.put,xA,xB,xD,xE,xF]
   refine tkQ 1 rfl (v:=?_) (fun _ _ _ h=>hQ.out _ _ _ _ _ h) ?_
   simp only [Act.put,xA,xB,xC,xD,xE,xF]
   refine tkQ 2 rfl (v:=?_) (fun _ _ _ h=>hQ.out _ _ _ _ _ h) ?_
   simp only [Act.put,xA,xB,xC,xD,xE,xF]
   refine tkQ 3 rfl (v:=?_) (fun _ _ _ h=>hQ.out _ _ _ _ _ h) ?_
   simp only [Act.put,xA,xB,xC,xD,xE,xF]
   refine tkQ 4 rfl (v:=?_) (fun _ _ _ h=>hQ.out _ _ _ _ _ h) ?_
   simp only [Act.put,xA,xB,xC,xD,xE,xF]
   refine tkQ 5 rfl (v:=?_) (fun _ _ _ h=>hQ.out _ _ _ _ _ h) ?_
   simp only [Act.put,xA,xB,xC,xD,xE,xF]
   refine tkQ 6 rfl (v:=?_) (fun _ _ _ h=>hQ.out _ _ _ _ _ h) ?_
   simp only [Act.put,xA,xB,xC,xD,xE,xF]
   refine tkQ 7 rfl (v:=?_) (fun _ _ _ h=>hQ.out _ _ _ _ _ h) ?_
   simp only [Act.put,xA,xB,xC,xD,xE,xF]
   refine tkQ 8 rfl (v:=?_) (fun _ _ _ h=>hQ.out _ _ _ _ _ h) ?_
   simp only [Act.put,xA,xB,xC,xD,xE,xF]
   refine tkQ 9 rfl (v:=?_) (fun _ _ _ h=>hQ.out _ _ _ _ _ h) ?_
   simp only [Act.put,xA,xB,xC,xD,xE,xF]
   refine wpAnyH_ready (rs:=[10,11]) (by kernel_rfl) (by simp) ?_
   refine (AllReadyH.cons rfl (fun K hK=>?_) (AllReadyH.cons rfl (fun K hK=>?_) AllReadyH.nil))
   focus
    go_simp
    refine hK.out _ _ (by first | with_reducible exact hHeld | ((try dsimp only);go_keep)) (fun hHeld=>?_)
    clear hK
    try simp only [Act.put,xA,xB,xC,xD,xE,xF]
    refine wpAnyH_ready (rs:=[11]) (by kernel_rfl) (by simp) ?_
    refine AllReadyH.cons rfl (fun K hK=>?_) AllReadyH.nil
    go_simp
    refine hK.out _ _ (by first | with_reducible exact hHeld | ((try dsimp only);go_keep)) (fun hHeld=>?_)
    clear hK
    try simp only [Act.put,xA,xB,xC,xD,xE,xF]
   rotate_left
   focus
    go_simp
    refine hK.out _ _ (by first | with_reducible exact hHeld | ((try dsimp only);go_keep)) (fun hHeld=>?_)
    clear hK
    try simp only [Act.put,xA,xB,xC,xD,xE,xF]
    refine wpAnyH_ready (rs:=[10]) (by kernel_rfl) (by simp) ?_
    refine AllReadyH.cons rfl (fun K hK=>?_) AllReadyH.nil
    go_simp
    refine hK.out _ _ (by first | with_reducible exact hHeld | ((try dsimp only);go_keep)) (fun hHeld=>?_)
    clear hK
    try simp only [Act.put,xA,xB,xC,xD,xE,xF]
   all_goals (
    refine wpAnyH_ready (rs:=[12]) (by kernel_rfl) (by simp) ?_
    refine AllReadyH.cons rfl (fun K hK=>?_) AllReadyH.nil
    go_simp
    refine hK.out _ _ ⟨HDC.out _ _ _ (by omega) x1,HDC.out _ _ _ (by omega) x3,HDC.out _ _ _ (by omega) t0,HDC.out _ _ _ (by omega) t1,HDC.out _ _ _ (by omega) t2,HDC.out _ _ _ (by omega) t3⟩ (fun hHeld=>?_)
    clear hK
    try simp only [Act.put,xA,xB,xC,xD,xE,xF]
    refine wpAnyH_done (by kernel_rfl) ?_ _
    clear hHeld
    go_wp2_with fail
    go_meet
    exact ⟨rfl,HBX⟩)
  case rest =>
   obtain ⟨rfl,HX1⟩:=hcut
   have HQ:=hide (HP.out.keep HX1.out.1)
   have HTB:=hide HX1.out.2
   clear HX1 x1 x3 t0 t1 t2 t3 HBX HDC HP
   have hwl:Hid (w.heap.size≤wc.heap.size):=hide HQ.out.s.low.size
   generalize wr.heap.size=tb at *
   generalize wc=w2 at *
   have q0:w2.cell? ⟨tb,0,none⟩=some (.int .i64 tt.kind):=Bx.cell HTB.out rfl
   have q2:w2.cell? ⟨tb,2,none⟩=some (.int .i64 tt.to):=Bx.cell HTB.out rfl
   have q3:w2.cell? ⟨tb,3,none⟩=some (.int .i64 tt.els):=Bx.cell HTB.out rfl
   rw [HPL.out]
   by_cases h3:tt.kind=3
   ·have h3b:(tt.kind==3)=true:=by simpa using h3
    clear h3
    go_wp2_with fail
    exact HX.out _ _ _ _ _ _ _ (by rfl) (by have:=HPL.out;omega) HQ.out
   ·have h3b:(tt.kind==3)=false:=by simpa using h3
    by_cases h2:tt.kind=2
    ·have h2b:(tt.kind==2)=true:=by simpa using h2
     have HT1:=hide (HTO.out (Or.inr h2))
     have HT2:=hide (HEL.out h2)
     clear h3 h2
     go_wp2_with fail
     refine (lwAt_any ma m mc ms i 2 0 w.heap.size w2 (hide (hma.out.keep HQ.out.s.low)) hmx hm (by omega) (by omega)).mono ?_
     rintro e w3 ⟨r,rfl,hr,hb3⟩
     have HQ3:=hide (HQ.out.keep hb3)
     have HTB3:=hide (HTB.out.keep (hb3.block _ HTB.out.lt))
     have hr2:=hr (by omega)
     clear hb3 hr HQ HTB q0 q2 q3
     have HQ:=HQ3
     clear HQ3
     have q2:w3.cell? ⟨tb,2,none⟩=some (.int .i64 tt.to):=Bx.cell HTB3.out rfl
     have q3:w3.cell? ⟨tb,3,none⟩=some (.int .i64 tt.els):=Bx.cell HTB3.out rfl
     by_cases hr1:r=1
     ·have hrb:((r:Int)==1)=true:=by simp [hr1]
      clear hr1
      obtain ⟨t,ht,htg,-⟩:=HT2.out
      rw [ht] at q3
      clear HT1 HT2 ht
      go_wp2_with (at_builtin;refine wpList_append_own_at _ rfl _ _ 29 rfl D 2 j0 (.int .i64 0) 1 8 Tryd.underlying29 hj0 hy0 hy1 hy2 rfl (by decide) _ p.length (natV p) rfl (HQ.out.own.alloc _) ⟨w3.heap.size,0,none⟩ 1 1 [.int .i64 (t:Int)] rfl rfl ?c1a ?c2a ?c3a ?c4a ?c5a ?_)
      case c1a=>exact one_news _ _ _
      case c2a=>intro u hu;simp at hu;subst hu;rfl
      case c3a=>unfold maxLen;have:=HPL.out;omega
      case c4a=>have:=HPL.out;omega
      case c5a=>simp;have:=HQ.out.s.sz;omega
      intro v8 w8 hown8 hg8 hne8 hat8
      have HN:=hide (HQ.out.push hg8 hown8 rfl htg)
      obtain ⟨g8,c8,rfl,hgb8,hcap⟩:=own_some' hown8 (by omega)
      clear hgb8 hcap hne8 hat8 hown8 hg8
      have HL8:Hid ((p++[t]).length≤i+1):=hide (by rw [List.length_append];have:=HPL.out;simp;omega)
      go_wp2_with fail
      exact ⟨⟨⟨i+1,_,_,_⟩,rfl,rfl,(by show i+1≤21;omega),hide ⟨_,_,HL8.out,HN.out⟩⟩,by simp [intOf];omega⟩
     ·have hrb:((r:Int)==1)=false:=by simp;omega
      obtain ⟨t,ht,htg,-⟩:=HT1.out
      rw [ht] at q2
      clear HT1 HT2 ht
      go_wp2_with (at_builtin;refine wpList_append_own_at _ rfl _ _ 29 rfl D 2 j0 (.int .i64 0) 1 8 Tryd.underlying29 hj0 hy0 hy1 hy2 rfl (by decide) _ p.length (natV p) rfl (HQ.out.own.alloc _) ⟨w3.heap.size,0,none⟩ 1 1 [.int .i64 (t:Int)] rfl rfl ?c1b ?c2b ?c3b ?c4b ?c5b ?_)
      case c1b=>exact one_news _ _ _
      case c2b=>intro u hu;simp at hu;subst hu;rfl
      case c3b=>unfold maxLen;have:=HPL.out;omega
      case c4b=>have:=HPL.out;omega
      case c5b=>simp;have:=HQ.out.s.sz;omega
      intro v8 w8 hown8 hg8 hne8 hat8
      have HN:=hide (HQ.out.push hg8 hown8 rfl htg)
      obtain ⟨g8,c8,rfl,hgb8,hcap⟩:=own_some' hown8 (by omega)
      clear hgb8 hcap hne8 hat8 hown8 hg8
      have HL8:Hid ((p++[t]).length≤i+1):=hide (by rw [List.length_append];have:=HPL.out;simp;omega)
      go_wp2_with fail
      exact ⟨⟨⟨i+1,_,_,_⟩,rfl,rfl,(by show i+1≤21;omega),hide ⟨_,_,HL8.out,HN.out⟩⟩,by simp [intOf];omega⟩
    ·have h2b:(tt.kind==2)=false:=by simpa using h2
     have hk1:tt.kind=1:=by have:=HKD.out;omega
     obtain ⟨t,ht,htg,-⟩:=HTO.out (Or.inl hk1)
     rw [ht] at q2
     clear h3 h2 hk1 ht
     go_wp2_with (at_builtin;refine wpList_append_own_at _ rfl _ _ 29 rfl D 2 j0 (.int .i64 0) 1 8 Tryd.underlying29 hj0 hy0 hy1 hy2 rfl (by decide) _ p.length (natV p) rfl (HQ.out.own.alloc _) ⟨w2.heap.size,0,none⟩ 1 1 [.int .i64 (t:Int)] rfl rfl ?c1d ?c2d ?c3d ?c4d ?c5d ?_)
     case c1d=>exact one_news _ _ _
     case c2d=>intro u hu;simp at hu;subst hu;rfl
     case c3d=>unfold maxLen;have:=HPL.out;omega
     case c4d=>have:=HPL.out;omega
     case c5d=>simp;have:=HQ.out.s.sz;omega
     intro v8 w8 hown8 hg8 hne8 hat8
     have HN:=hide (HQ.out.push hg8 hown8 rfl htg)
     obtain ⟨g8,c8,rfl,hgb8,hcap⟩:=own_some' hown8 (by omega)
     clear hgb8 hcap hne8 hat8 hown8 hg8
     have HL8:Hid ((p++[t]).length≤i+1):=hide (by rw [List.length_append];have:=HPL.out;simp;omega)
     go_wp2_with fail
     exact ⟨⟨⟨i+1,_,_,_⟩,rfl,rfl,(by show i+1≤21;omega),hide ⟨_,_,HL8.out,HN.out⟩⟩,by simp [intOf];omega⟩
 ·have hltI:¬(i:Int)≤st:=by omega
  go_wp2_with fail
  exact HX.out _ _ _ _ _ _ _ (by rfl) (by omega) HP.out
end Go.Proofs.YtdfdmjcngkfciaaDoor

namespace Go.Proofs.YtdfdmjcngkfciaaDoor
open Go.RowKit
structure D2 where
 x:Nat
 tl:List Value
theorem domB_mem {V:Int} {xs:List Blk} {p:List Nat} {b x:Nat} (hp:Pth (tgN xs) p b) (h:domB V xs (x:Int) (b:Int)=true):(p.map fun q:Nat=>(q:Int)).contains (x:Int)=true:=by
 have hd:Dom (tgN xs) x b:=by
  apply Classical.byContradiction
  intro hn
  rw [domB_false (fun hh=>hn (by simpa using hh.2.2))] at h
  cases h
 rw [List.contains_iff_mem]
 exact List.mem_map.2 ⟨x,hp.dom hd,rfl⟩
set_option maxHeartbeats 4000000 in
set_option maxRecDepth 100000 in
theorem ld2 {Q:Exit→Act→World→Prop} (w:World) (D fb ab:Nat) (V:Int) (xs:List Blk) (a1:Option Addr) (m1 c1:Nat) (u0 u1 u3:Value) (g3 k3:Nat) (P:List Int) (ca ma:Option Addr) (n cc m mc:Nat) (vp:Value) (p:List Nat) (b:Nat) (c2 c3 c4 c8 c9 c10:Value) (hdr:Hid (∀W,Below w.heap.size w W→Calls Tryd.prog 4 #[.slice ca n cc] W fun e w'=>∃a' m' c',e=.returned (.agg #[.int .i64 V,.slice a' m' c'])∧DrO ⟨V,xs⟩ W w' a' m')) (hO:Hid (OpTab w)) (hT:Hid (TerTab w)) (hm1:m1≤1000) (hpl:p.length≤30)
  (hexit:∀(tl:List Value) (w':World),tl.length=142→LdP w w' D fb ab V xs a1 m1 c1 u0 u1 u3 g3 k3 P vp p b→Q (.exit 2) ⟨(.slice ca n cc::.slice ma m mc::c2::c3::c4::.pointer (some ⟨fb,0,none⟩)::.pointer (some ⟨ab,0,none⟩)::vp::c8::c9::c10::.int .i64 ((b:Nat):Int)::.int .i64 ((m1:Nat):Int)::tl).toArray,[]⟩ w')
  (tl:List Value) (wr:World) (hl:tl.length=142) (h:Hid (LdP w wr D fb ab V xs a1 m1 c1 u0 u1 u3 g3 k3 P vp p b)) :
  Code.wp Tryd.prog (Code.loop ldB2) Q ⟨(.slice ca n cc::.slice ma m mc::c2::c3::c4::.pointer (some ⟨fb,0,none⟩)::.pointer (some ⟨ab,0,none⟩)::vp::c8::c9::c10::.int .i64 ((b:Nat):Int)::.int .i64 ((0:Nat):Int)::tl).toArray,[]⟩ wr:=by
 have HX:=hide hexit
 clear hexit
 refine wp_loop (fun a' wr=>∃y:D2,a'=⟨(.slice ca n cc::.slice ma m mc::c2::c3::c4::.pointer (some ⟨fb,0,none⟩)::.pointer (some ⟨ab,0,none⟩)::vp::c8::c9::c10::.int .i64 ((b:Nat):Int)::.int .i64 ((y.x:Nat):Int)::y.tl).toArray,[]⟩∧y.tl.length=142∧y.x≤m1∧Hid (LdP w wr D fb ab V xs a1 m1 c1 u0 u1 u3 g3 k3 P vp p b)) (fun a' _=>m1-(intOf (a'.tmps.getD 12 undef)).toNat) ⟨⟨0,tl⟩,rfl,hl,Nat.zero_le _,h⟩ ?_
 clear h hl
 rintro a' wr ⟨⟨x,tl⟩,rfl,hl,hx,HP⟩
 dsimp only at hl hx HP ⊢
 conv=>arg 2;whnf
 obtain ⟨f,rfl⟩:=spr13 tl hl
 clear hl
 have x1:wr.cell? ⟨fb,1,none⟩=some (.slice a1 m1 c1):=Bx.cell HP.out.s.fbx rfl
 by_cases hlt:x<m1
 ·have hltI:(x:Int)<m1:=by omega
  go_wp2_with fail
  refine (hdr.out wr HP.out.s.low).mono ?_
  rintro e w1 ⟨a',m',c',rfl,hdo⟩
  have HDO:=hide hdo
  have HP1:=hide (HP.out.keep hdo.low)
  clear hdo HP x1
  go_wp2_with fail
  refine (dominatesI_any V a' m' c' xs wr.heap.size w1.heap.size (x:Int) (b:Int) w1 (hide HDO.out.at_) (hide HDO.out.len) (hide HDO.out.tot) (Nat.le_refl _) (hide (hO.out.keep HP1.out.s.low)) (hide (hT.out.keep HP1.out.s.low))).mono ?_
  rintro e w2 ⟨rfl,hb2⟩
  have HP2:=hide (HP1.out.keep hb2)
  clear hb2 HP1 HDO
  have HDM:=hide (fun h=>domB_mem (x:=x) (V:=V) HP2.out.pth h)
  generalize hdv:domB V xs (x:Int) (b:Int)=dv at *
  clear hdv
  cases dv with
  | false =>
   go_wp2_with fail
   exact ⟨⟨⟨x+1,_⟩,rfl,rfl,(by show x+1≤m1;omega),HP2⟩,by simp [intOf];omega⟩
  | true =>
   obtain ⟨pa,pc,rfl,hpi⟩:=HP2.out.ints
   have HPI:=hide hpi
   have HC:=hide (HDM.out rfl)
   clear hpi HDM
   go_wp2_with fail
   refine (lwHas_any pa p.length pc (p.map fun q:Nat=>(q:Int)) (x:Int) D w2.heap.size w2 HPI (hide (by simp)) (by omega)).mono ?_
   rw [HC.out]
   rintro e w3 ⟨rfl,hw3⟩
   subst hw3
   go_wp2_with fail
   exact ⟨⟨⟨x+1,_⟩,rfl,rfl,(by show x+1≤m1;omega),HP2⟩,by simp [intOf];omega⟩
 ·have hltI:¬(x:Int)<m1:=by omega
  have hxe:x=m1:=by omega
  subst hxe
  go_wp2_with fail
  exact HX.out _ _ (by rfl) HP.out
end Go.Proofs.YtdfdmjcngkfciaaDoor
