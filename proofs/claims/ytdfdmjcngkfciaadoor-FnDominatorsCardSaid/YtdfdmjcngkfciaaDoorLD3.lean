import Derived.Test.YtdfdmjcngkfciaaDoorLD1
import Derived.Test.YtdfdmjcngkfciaaDoorDO1
import Derived.Test.YtdfdmjcngkfciaaDoorPure
namespace Go.Proofs.YtdfdmjcngkfciaaDoor
open Go.RowKit
set_option maxHeartbeats 8000000 in
set_option maxRecDepth 100000 in
theorem lawDo_any (ca ma:Option Addr) (n cc m mc:Nat) (bs ms:List UInt8) (w:World) (ha:Hid (BytesAt w 0 w.heap.size ca bs)) (hx:Hid (n=bs.length)) (hn:n≤9223372036854775807) (hma:Hid (BytesAt w 0 w.heap.size ma ms)) (hmx:Hid (m=ms.length)) (hm:m≤9223372036854775807) (hO:Hid (OpTab w)) (hT:Hid (TerTab w)) :
  Calls Tryd.prog 3 #[.slice ca n cc,.slice ma m mc] w fun e w'=>e=.returned (.bool true)∧Below w.heap.size w w':=by
 by_cases hn1:n≤1048576
 ·by_cases hm1:m≤1048576
  ·have hn1I:¬(1048576:Int)<n:=by omega
   have hm1I:¬(1048576:Int)<m:=by omega
   have HDR:=hide (fun W (hb:Below w.heap.size w W)=>drawA_any ca n cc bs 0 w.heap.size W (hide (ha.out.keep hb)) hx hn1 hb.size)
   generalize drawF (srcP bs)=F at *
   obtain ⟨V,xs⟩:=F
   dsimp only at HDR
   clear ha hx
   go_enter Tryd.func3,Tryd.ntmps3
   go_wp2_with fail
   refine (HDR.out w (Below.refl _ _)).mono ?_
   rintro e w1 ⟨a1,m1,c1,rfl,hdo⟩
   have HD1:=hide hdo
   clear hdo
   go_wp2_with fail
   have HB1:Hid (Below w.heap.size w (w1.alloc (.cells #[.int .i64 V,.slice a1 m1 c1] 25))):=hide (Below.alloc HD1.out.low HD1.out.low.size _)
   have HF1:Hid (Bx (w1.alloc (.cells #[.int .i64 V,.slice a1 m1 c1] 25)) w1.heap.size #[.int .i64 V,.slice a1 m1 c1] 25):=hide (Bx.new _ _ _)
   have HA1:Hid (BlksAt (w1.alloc (.cells #[.int .i64 V,.slice a1 m1 c1] 25)) 0 w1.heap.size a1 xs):=hide ((HD1.out.at_.keep (Below.alloc (Below.refl _ _) (Nat.le_refl _) _)).mono (Nat.zero_le _) (Nat.le_refl _))
   have HL1:=hide HD1.out.len
   have HT1:=hide HD1.out.tot
   clear HD1
   generalize w1.alloc (.cells #[.int .i64 V,.slice a1 m1 c1] 25)=wf at *
   generalize w1.heap.size=fb at *
   refine (HDR.out wf HB1.out).mono ?_
   rintro e w2 ⟨a2,m2,c2,rfl,hdo⟩
   have HD2:=hide hdo
   have HB2:=hide (HB1.out.trans (hdo.low.mono HB1.out.size))
   have HF2:=hide (HF1.out.keep (hdo.low.block _ HF1.out.lt))
   have HA2:=hide ((HA1.out.keep (B:=fb) (hdo.low.mono (Nat.le_of_lt HF1.out.lt))))
   clear hdo HB1 HF1 HA1
   go_wp2_with fail
   cases hval:validI ⟨V,xs⟩ with
   | false =>
    have HV:=hide hval
    clear hval
    refine (analyzeI_bad V a2 m2 c2 xs wf.heap.size w2.heap.size w2 (hide HD2.out.at_) (hide HD2.out.len) (hide HD2.out.tot) (Nat.le_refl _) (hide (hO.out.keep HB2.out)) (hide (hT.out.keep HB2.out)) HV).mono ?_
    rintro e w3 ⟨rfl,hb3⟩
    have HB3:=hide (Below.alloc (HB2.out.trans (hb3.mono HB2.out.size)) (Nat.le_trans HB2.out.size hb3.size) (.cells #[.slice none 0 0,.slice none 0 0,.slice none 0 0,.slice none 0 0] 31))
    have HF3:=hide ((HF2.out.keep (hb3.block _ HF2.out.lt)).box (.cells #[.slice none 0 0,.slice none 0 0,.slice none 0 0,.slice none 0 0] 31))
    have HA3:=hide ((HA2.out.keep (B:=fb) (hb3.mono (Nat.le_of_lt HF2.out.lt))).keep (Below.alloc (Below.refl fb w3) (Nat.le_trans (Nat.le_of_lt HF2.out.lt) hb3.size) (.cells #[.slice none 0 0,.slice none 0 0,.slice none 0 0,.slice none 0 0] 31)))
    have HX3:Hid (Bx (w3.alloc (.cells #[.slice none 0 0,.slice none 0 0,.slice none 0 0,.slice none 0 0] 31)) w3.heap.size #[.slice none 0 0,.slice none 0 0,.slice none 0 0,.slice none 0 0] 31):=hide (Bx.new _ _ _)
    clear hb3 HB2 HF2 HA2 HD2
    have z0:(w3.alloc (.cells #[.slice none 0 0,.slice none 0 0,.slice none 0 0,.slice none 0 0] 31)).cell? ⟨fb,0,none⟩=some (.int .i64 V):=Bx.cell HF3.out rfl
    have z1:(w3.alloc (.cells #[.slice none 0 0,.slice none 0 0,.slice none 0 0,.slice none 0 0] 31)).cell? ⟨fb,1,none⟩=some (.slice a1 m1 c1):=Bx.cell HF3.out rfl
    go_wp2_with fail
    clear z0 z1
    generalize w3.alloc (.cells #[.slice none 0 0,.slice none 0 0,.slice none 0 0,.slice none 0 0] 31)=w4 at *
    generalize w3.heap.size=ab at *
    refine (validFuncS_any V a1 m1 c1 xs 0 fb w4 HA3 HL1 HT1 (Nat.le_of_lt HF3.out.lt)).mono ?_
    rw [←valid_same,HV.out]
    rintro e w5 ⟨rfl,hb5⟩
    have z0:w5.cell? ⟨fb,0,none⟩=some (.int .i64 V):=Bx.cell (HF3.out.keep (hb5.block _ HF3.out.lt)) rfl
    have z1:w5.cell? ⟨fb,1,none⟩=some (.slice a1 m1 c1):=Bx.cell (HF3.out.keep (hb5.block _ HF3.out.lt)) rfl
    have z2:w5.cell? ⟨ab,2,none⟩=some (.slice none 0 0):=Bx.cell (HX3.out.keep (hb5.block _ HX3.out.lt)) rfl
    have HB5:=hide (HB3.out.trans (hb5.mono HB3.out.size))
    have HA5:=hide (HA3.out.keep (B:=fb) (hb5.mono (Nat.le_of_lt HF3.out.lt)))
    have hfb5:fb≤w5.heap.size:=Nat.le_trans (Nat.le_of_lt HF3.out.lt) hb5.size
    clear hb5
    go_wp2_with fail
    refine (dominatesI_any V a1 m1 c1 xs 0 fb 0 0 w5 HA5 HL1 HT1 hfb5 (hide (hO.out.keep HB5.out)) (hide (hT.out.keep HB5.out))).mono ?_
    rw [domB_bad HV.out]
    rintro e w6 ⟨rfl,hb6⟩
    have HB6:=hide (HB5.out.trans (hb6.mono HB5.out.size))
    clear hb6
    go_wp2
    go_ret
    exact ⟨rfl,HB6.out⟩
   | true =>
    have HV:=hide hval
    clear hval
    have HOK:=hide (ok_of_valid HV.out)
    refine (analyzeI_any V a2 m2 c2 xs wf.heap.size w2.heap.size w2 (hide HD2.out.at_) (hide HD2.out.len) (hide HD2.out.tot) (Nat.le_refl _) (hide (hO.out.keep HB2.out)) (hide (hT.out.keep HB2.out)) HV).mono ?_
    have hm12:m2=m1:=HD2.out.len.trans HL1.out.symm
    have hm1n:m1≤1000:=by have:=HOK.out.n2;have:=HL1.out;omega
    subst hm12
    rintro e w3 ⟨U,P,g1,k1,g2,k2,g3,g4,k4,rfl,hb3,hid,hfl⟩
    have HID:=hide hid
    have hg3:g3<w3.heap.size:=(Array.getElem?_eq_some_iff.1 hfl.o3.choose_spec.1).1
    have HRW:=hide hfl.o3
    generalize (preP P m2 0).length=pl4 at *
    have HB3:=hide (Below.alloc (HB2.out.trans (hb3.mono HB2.out.size)) (Nat.le_trans HB2.out.size hb3.size) (.cells #[.slice (some ⟨g1,0,none⟩) m2 k1,.slice (some ⟨g2,0,none⟩) m2 k2,.slice (some ⟨g3,0,none⟩) m2 m2,.slice (some ⟨g4,0,none⟩) pl4 k4] 31))
    have HF3:=hide ((HF2.out.keep (hb3.block _ HF2.out.lt)).box (.cells #[.slice (some ⟨g1,0,none⟩) m2 k1,.slice (some ⟨g2,0,none⟩) m2 k2,.slice (some ⟨g3,0,none⟩) m2 m2,.slice (some ⟨g4,0,none⟩) pl4 k4] 31))
    have HA3:=hide ((HA2.out.keep (B:=fb) (hb3.mono (Nat.le_of_lt HF2.out.lt))).keep (Below.alloc (Below.refl fb w3) (Nat.le_trans (Nat.le_of_lt HF2.out.lt) hb3.size) (.cells #[.slice (some ⟨g1,0,none⟩) m2 k1,.slice (some ⟨g2,0,none⟩) m2 k2,.slice (some ⟨g3,0,none⟩) m2 m2,.slice (some ⟨g4,0,none⟩) pl4 k4] 31)))
    have HX3:Hid (Bx (w3.alloc (.cells #[.slice (some ⟨g1,0,none⟩) m2 k1,.slice (some ⟨g2,0,none⟩) m2 k2,.slice (some ⟨g3,0,none⟩) m2 m2,.slice (some ⟨g4,0,none⟩) pl4 k4] 31)) w3.heap.size #[.slice (some ⟨g1,0,none⟩) m2 k1,.slice (some ⟨g2,0,none⟩) m2 k2,.slice (some ⟨g3,0,none⟩) m2 m2,.slice (some ⟨g4,0,none⟩) pl4 k4] 31):=hide (Bx.new _ _ _)
    have HR3:=hide (HRW.out.of_block (Below.heap_alloc w3 (.cells #[.slice (some ⟨g1,0,none⟩) m2 k1,.slice (some ⟨g2,0,none⟩) m2 k2,.slice (some ⟨g3,0,none⟩) m2 m2,.slice (some ⟨g4,0,none⟩) pl4 k4] 31) g3 hg3))
    have HG3:Hid (g3<(w3.alloc (.cells #[.slice (some ⟨g1,0,none⟩) m2 k1,.slice (some ⟨g2,0,none⟩) m2 k2,.slice (some ⟨g3,0,none⟩) m2 m2,.slice (some ⟨g4,0,none⟩) pl4 k4] 31)).heap.size):=hide (by simp;omega)
    clear hb3 HB2 HF2 HA2 HD2 hfl hid HRW hg3
    have z0:(w3.alloc (.cells #[.slice (some ⟨g1,0,none⟩) m2 k1,.slice (some ⟨g2,0,none⟩) m2 k2,.slice (some ⟨g3,0,none⟩) m2 m2,.slice (some ⟨g4,0,none⟩) pl4 k4] 31)).cell? ⟨fb,0,none⟩=some (.int .i64 V):=Bx.cell HF3.out rfl
    have z1:(w3.alloc (.cells #[.slice (some ⟨g1,0,none⟩) m2 k1,.slice (some ⟨g2,0,none⟩) m2 k2,.slice (some ⟨g3,0,none⟩) m2 m2,.slice (some ⟨g4,0,none⟩) pl4 k4] 31)).cell? ⟨fb,1,none⟩=some (.slice a1 m2 c1):=Bx.cell HF3.out rfl
    go_wp2_with fail
    clear z0 z1
    generalize w3.alloc (.cells #[.slice (some ⟨g1,0,none⟩) m2 k1,.slice (some ⟨g2,0,none⟩) m2 k2,.slice (some ⟨g3,0,none⟩) m2 m2,.slice (some ⟨g4,0,none⟩) pl4 k4] 31)=w4 at *
    generalize w3.heap.size=ab at *
    obtain ⟨D,hD⟩:∃D,D=w4.heap.size:=⟨_,rfl⟩
    have HLD:Hid (LdS w w4 D fb ab V xs a1 m2 c1 (.slice (some ⟨g1,0,none⟩) m2 k1) (.slice (some ⟨g2,0,none⟩) m2 k2) (.slice (some ⟨g4,0,none⟩) pl4 k4) g3 m2 P):=hide ⟨HB3.out,by rw [hD];exact HB3.out.size,HF3.out,by rw [hD];exact HF3.out.lt,HA3.out.mono (Nat.le_refl _) (by rw [hD];exact Nat.le_of_lt HF3.out.lt),HX3.out,by rw [hD];exact HX3.out.lt,HR3.out,by rw [hD];exact HG3.out,by rw [hD];exact Nat.le_refl _⟩
    refine (validFuncS_any V a1 m2 c1 xs 0 fb w4 HA3 HL1 HT1 (Nat.le_of_lt HF3.out.lt)).mono ?_
    rw [←valid_same,HV.out]
    rintro e w5 ⟨rfl,hb5⟩
    have HL5:=hide (HLD.out.keep (hb5.mono (by rw [hD];exact Nat.le_refl _)))
    clear hb5 HLD HB3 HF3 HA3 HX3 HR3 HG3
    have HDL:Hid (D≤w5.heap.size):=hide HL5.out.sz
    clear hD
    go_wp2_with fail
    have HP6:Hid (LdP w (w5.alloc (.cells #[.int .i64 0] 2)) D fb ab V xs a1 m2 c1 (.slice (some ⟨g1,0,none⟩) m2 k1) (.slice (some ⟨g2,0,none⟩) m2 k2) (.slice (some ⟨g4,0,none⟩) pl4 k4) g3 m2 P (.slice (some ⟨w5.heap.size,0,none⟩) 1 1) [0] 0):=hide ⟨HL5.out.keep (Below.alloc (Below.refl D w5) HDL.out _),by
     have:=World.ownsRow_lit (base:=D) (e:=2) (size:=1) w5 #[.int .i64 0] 1 HDL.out (by unfold maxLen;omega) rfl
     exact this,Pth.root⟩
    generalize w5.alloc (.cells #[.int .i64 0] 2)=w6 at *
    generalize w5.heap.size=pb at *
    clear HL5
    refine (lwAt_any ma m mc ms 0 20 0 w.heap.size w6 (hide (hma.out.keep HP6.out.s.low)) hmx hm1 (by omega) (by omega)).mono ?_
    rintro e w7 ⟨st,rfl,hst,hb7⟩
    have HP7:=hide (HP6.out.keep hb7)
    have hst2:st≤20:=by have:=hst (by omega);omega
    clear hb7 HP6 hst
    go_wp2_with fail
    refine ld1 w D fb ab V xs a1 m2 c1 _ _ _ g3 m2 P ca ma n cc m mc st ms _ _ _ _ _ (by exact hide (fun c a t v w h=>h)) HV HL1 hma hmx hm1 hst2 ?_ _ _ _ _ (by rfl) HP7
    intro p b vp c9 c10 tl w8 hl hpl hP
    obtain ⟨f,rfl⟩:=spr13 tl hl
    clear hl HP7
    have HP8:=hide hP
    obtain ⟨gp,pc,rfl,hgp,x3,hp1⟩:=hP.last
    clear hP
    have HPL:Hid (p.length≤30):=hide hpl
    obtain ⟨pl,hpl2⟩:∃pl,pl=p.length:=⟨_,rfl⟩
    obtain ⟨pm,hpm⟩:∃pm,pm=p.length-1:=⟨_,rfl⟩
    have hpI:(pl:Int)-1=(pm:Int):=by omega
    have hwp:IntKind.i64.wrap (pm:Int)=(pm:Int):=by rw [IntKind.wrap_i64];omega
    have hpmn:pm<pl:=by omega
    rw [←hpm] at x3
    rw [←hpl2] at HP8 ⊢
    clear hpl2 hpm hpl hp1
    go_wp2_with fail
    refine ld2 w D fb ab V xs a1 m2 c1 _ _ _ g3 m2 P ca ma n cc m mc _ p b _ _ _ _ _ _ HDR hO hT hm1n HPL.out ?_ _ _ (by rfl) HP8
    intro tl w9 hl hP
    obtain ⟨f,rfl⟩:=spr13 tl hl
    clear hl HP8 x3
    have HP9:=hide hP
    clear hP
    have hbl:b<xs.length:=HOK.out.re b HP9.out.pth.re
    have hbm:b<m2:=by rw [HL1.out];exact hbl
    have z1:w9.cell? ⟨fb,1,none⟩=some (.slice a1 m2 c1):=Bx.cell HP9.out.s.fbx rfl
    have z0:w9.cell? ⟨fb,0,none⟩=some (.int .i64 V):=Bx.cell HP9.out.s.fbx rfl
    have z2:w9.cell? ⟨ab,2,none⟩=some (.slice (some ⟨g3,0,none⟩) m2 m2):=Bx.cell HP9.out.s.abx rfl
    have HRE:=hide HP9.out.pth.re
    go_wp2_with fail
    refine (dominatesI_any V a1 m2 c1 xs 0 D (b:Int) (b:Int) w9 (hide HP9.out.s.at_) HL1 HT1 HP9.out.s.sz (hide (hO.out.keep HP9.out.s.low)) (hide (hT.out.keep HP9.out.s.low))).mono ?_
    rw [domB_true HV.out ⟨by omega,by omega,by simpa using dom_self HRE.out⟩]
    rintro e w10 ⟨rfl,hb10⟩
    have HP10:=hide (HP9.out.keep hb10)
    clear hb10 HP9 z0 z1 z2
    have z1:w10.cell? ⟨fb,1,none⟩=some (.slice a1 m2 c1):=Bx.cell HP10.out.s.fbx rfl
    have z0:w10.cell? ⟨fb,0,none⟩=some (.int .i64 V):=Bx.cell HP10.out.s.fbx rfl
    go_wp2_with fail
    refine (dominatesI_any V a1 m2 c1 xs 0 D 0 (b:Int) w10 (hide HP10.out.s.at_) HL1 HT1 HP10.out.s.sz (hide (hO.out.keep HP10.out.s.low)) (hide (hT.out.keep HP10.out.s.low))).mono ?_
    rw [domB_true HV.out ⟨by omega,by omega,by simpa using dom_root HRE.out⟩]
    rintro e w11 ⟨rfl,hb11⟩
    have HP11:=hide (HP10.out.keep hb11)
    clear hb11 HP10 z0 z1
    have z1:w11.cell? ⟨fb,1,none⟩=some (.slice a1 m2 c1):=Bx.cell HP11.out.s.fbx rfl
    have z0:w11.cell? ⟨fb,0,none⟩=some (.int .i64 V):=Bx.cell HP11.out.s.fbx rfl
    have z2:w11.cell? ⟨ab,2,none⟩=some (.slice (some ⟨g3,0,none⟩) m2 m2):=Bx.cell HP11.out.s.abx rfl
    have z3:w11.cell? ⟨g3,b,none⟩=some (.int .i64 (P.getD b 0)):=HP11.out.s.row.cell hbm
    have HLL:Hid (Below w.heap.size w w11.drew):=hide HP11.out.s.low.drew
    rcases idom_at HID.out (fun x hx=>by rw [HL1.out];exact HOK.out.re x hx) HRE.out with ⟨rfl,hp0⟩ | ⟨hb0,d,hpd,hdn,hdb,hdom⟩
    ·rw [hp0] at z3
     have hbm0:(0:Int)<m2:=by omega
     go_wp2_with fail
     refine wp_region_held_drew (S:=(fun w'=>w'.cell? ⟨ab,2,none⟩=some (.slice (some ⟨g3,0,none⟩) m2 m2)∧w'.cell? ⟨g3,0,none⟩=some (.int .i64 (-1)))) (by kernel_rfl) (by (try dsimp only);go_keep) (fun hHeld=>?_)
     refine tkH 0 rfl (v:=?_) ?_
     simp only [Act.put,xA,xB,xD,xE,xF]
     refine tkH 1 rfl (v:=?_) ?_
     simp only [Act.put,xA,xB,xC,xD,xE,xF]
     refine tkH 2 rfl (v:=?_) ?_
     simp only [Act.put,xA,xB,xC,xD,xE,xF]
     refine tkH 3 rfl (v:=?_) ?_
     simp only [Act.put,xA,xB,xC,xD,xE,xF]
     refine tkH 4 rfl (v:=?_) ?_
     simp only [Act.put,xA,xB,xC,xD,xE,xF]
     refine tkH 5 rfl (v:=?_) ?_
     simp only [Act.put,xA,xB,xC,xD,xE,xF]
     refine tkH 6 rfl (v:=?_) ?_
     simp only [Act.put,xA,xB,xC,xD,xE,xF]
     refine tkH 7 rfl (v:=?_) ?_
     simp only [Act.put,xA,xB,xC,xD,xE,xF]
     refine tkH 8 rfl (v:=?_) ?_
     simp only [Act.put,xA,xB,xC,xD,xE,xF]
     refine tkH 9 rfl (v:=?_) ?_
     simp only [Act.put,xA,xB,xC,xD,xE,xF]
     refine wpAnyH_take (i:=10) (v:=undef) rfl (by kernel_rfl) (by kernel_rfl) (by kernel_rfl) (fun _ _ _ h=>h) (Or.inr ⟨by rfl,rfl⟩) (by assumption) ?_
     simp only [Act.put,xA,xB,xC,xD,xE,xF]
     refine wpAnyH_take (i:=11) (v:=undef) rfl (by kernel_rfl) (by kernel_rfl) (by kernel_rfl) (fun _ _ _ h=>h) (Or.inr ⟨by rfl,rfl⟩) (by assumption) ?_
     simp only [Act.put,xA,xB,xC,xD,xE,xF]
     refine wpAnyH_take (i:=12) (v:=undef) rfl (by kernel_rfl) (by kernel_rfl) (by kernel_rfl) (fun _ _ _ h=>h) (Or.inr ⟨by rfl,rfl⟩) (by assumption) ?_
     simp only [Act.put,xA,xB,xC,xD,xE,xF]
     refine wpAnyH_take (i:=13) (v:=undef) rfl (by kernel_rfl) (by kernel_rfl) (by kernel_rfl) (fun _ _ _ h=>h) (Or.inr ⟨by rfl,rfl⟩) (by assumption) ?_
     simp only [Act.put,xA,xB,xC,xD,xE,xF]
     refine wpAnyH_take (i:=14) (v:=undef) rfl (by kernel_rfl) (by kernel_rfl) (by kernel_rfl) (fun _ _ _ h=>h) (Or.inr ⟨by rfl,rfl⟩) (by assumption) ?_
     simp only [Act.put,xA,xB,xC,xD,xE,xF]
     refine wpAnyH_take (i:=15) (v:=undef) rfl (by kernel_rfl) (by kernel_rfl) (by kernel_rfl) (fun _ _ _ h=>h) (Or.inr ⟨by rfl,rfl⟩) (by assumption) ?_
     simp only [Act.put,xA,xB,xC,xD,xE,xF]
     refine wpAnyH_take (i:=16) (v:=undef) rfl (by kernel_rfl) (by kernel_rfl) (by kernel_rfl) (fun _ _ _ h=>h) (Or.inr ⟨by rfl,rfl⟩) (by assumption) ?_
     simp only [Act.put,xA,xB,xC,xD,xE,xF]
     refine wpAnyH_take (i:=17) (v:=undef) rfl (by kernel_rfl) (by kernel_rfl) (by kernel_rfl) (fun _ _ _ h=>h) (Or.inr ⟨by rfl,rfl⟩) (by assumption) ?_
     simp only [Act.put,xA,xB,xC,xD,xE,xF]
     refine wpAnyH_take (i:=18) (v:=undef) rfl (by kernel_rfl) (by kernel_rfl) (by kernel_rfl) (fun _ _ _ h=>h) (Or.inr ⟨by rfl,rfl⟩) (by assumption) ?_
     simp only [Act.put,xA,xB,xC,xD,xE,xF]
     refine wpAnyH_take (i:=19) (v:=undef) rfl (by kernel_rfl) (by kernel_rfl) (by kernel_rfl) (fun _ _ _ h=>h) (Or.inr ⟨by rfl,rfl⟩) (by assumption) ?_
     simp only [Act.put,xA,xB,xC,xD,xE,xF]
     refine wpAnyH_take (i:=20) (v:=undef) rfl (by kernel_rfl) (by kernel_rfl) (by kernel_rfl) (fun _ _ _ h=>h) (Or.inr ⟨by rfl,rfl⟩) (by assumption) ?_
     simp only [Act.put,xA,xB,xC,xD,xE,xF]
     refine wpAnyH_take (i:=21) (v:=undef) rfl (by kernel_rfl) (by kernel_rfl) (by kernel_rfl) (fun _ _ _ h=>h) (Or.inr ⟨by rfl,rfl⟩) (by assumption) ?_
     simp only [Act.put,xA,xB,xC,xD,xE,xF]
     refine wpAnyH_take (i:=22) (v:=undef) rfl (by kernel_rfl) (by kernel_rfl) (by kernel_rfl) (fun _ _ _ h=>h) (Or.inr ⟨by rfl,rfl⟩) (by assumption) ?_
     simp only [Act.put,xA,xB,xC,xD,xE,xF]
     refine wpAnyH_take (i:=23) (v:=undef) rfl (by kernel_rfl) (by kernel_rfl) (by kernel_rfl) (fun _ _ _ h=>h) (Or.inr ⟨by rfl,rfl⟩) (by assumption) ?_
     simp only [Act.put,xA,xB,xC,xD,xE,xF]
     refine wpAnyH_take (i:=24) (v:=undef) rfl (by kernel_rfl) (by kernel_rfl) (by kernel_rfl) (fun _ _ _ h=>h) (Or.inr ⟨by rfl,rfl⟩) (by assumption) ?_
     simp only [Act.put,xA,xB,xC,xD,xE,xF]
     refine wpAnyH_take (i:=25) (v:=undef) rfl (by kernel_rfl) (by kernel_rfl) (by kernel_rfl) (fun _ _ _ h=>h) (Or.inr ⟨by rfl,rfl⟩) (by assumption) ?_
     simp only [Act.put,xA,xB,xC,xD,xE,xF]
     refine wpAnyH_take (i:=26) (v:=undef) rfl (by kernel_rfl) (by kernel_rfl) (by kernel_rfl) (fun _ _ _ h=>h) (Or.inr ⟨by rfl,rfl⟩) (by assumption) ?_
     simp only [Act.put,xA,xB,xC,xD,xE,xF]
     refine wpAnyH_take (i:=27) (v:=undef) rfl (by kernel_rfl) (by kernel_rfl) (by kernel_rfl) (fun _ _ _ h=>h) (Or.inr ⟨by rfl,rfl⟩) (by assumption) ?_
     simp only [Act.put,xA,xB,xC,xD,xE,xF]
     refine wpAnyH_take (i:=28) (v:=undef) rfl (by kernel_rfl) (by kernel_rfl) (by kernel_rfl) (fun _ _ _ h=>h) (Or.inr ⟨by rfl,rfl⟩) (by assumption) ?_
     simp only [Act.put,xA,xB,xC,xD,xE,xF]
     refine wpAnyH_take (i:=29) (v:=undef) rfl (by kernel_rfl) (by kernel_rfl) (by kernel_rfl) (fun _ _ _ h=>h) (Or.inr ⟨by rfl,rfl⟩) (by assumption) ?_
     simp only [Act.put,xA,xB,xC,xD,xE,xF]
     refine wpAnyH_take (i:=30) (v:=undef) rfl (by kernel_rfl) (by kernel_rfl) (by kernel_rfl) (fun _ _ _ h=>h) (Or.inr ⟨by rfl,rfl⟩) (by assumption) ?_
     simp only [Act.put,xA,xB,xC,xD,xE,xF]
     refine tkH 31 rfl (v:=?_) ?_
     simp only [Act.put,xA,xB,xC,xD,xE,xF]
     refine tkH 32 rfl (v:=?_) ?_
     simp only [Act.put,xA,xB,xC,xD,xE,xF]
     refine wpAnyH_done (by kernel_rfl) ?_ _
     clear hHeld
     go_wp2
     go_ret
     exact ⟨rfl,HLL.out⟩
    ·rw [hpd] at z3
     have hb0b:((b:Int)==0)=false:=by simpa using hb0
     have hb0c:((b:Int) != 0)=true:=by simpa using hb0
     have hdbb:((d:Int) != (b:Int))=true:=by simp;omega
     go_wp2_with fail
     refine wp_region_held_drew (S:=(fun w'=>w'.cell? ⟨ab,2,none⟩=some (.slice (some ⟨g3,0,none⟩) m2 m2)∧w'.cell? ⟨g3,b,none⟩=some (.int .i64 (d:Int))∧w'.cell? ⟨fb,0,none⟩=some (.int .i64 V)∧w'.cell? ⟨fb,1,none⟩=some (.slice a1 m2 c1))) (by kernel_rfl) (by (try dsimp only);go_keep) (fun hHeld=>?_)
     refine tkH 0 rfl (v:=?_) ?_
     simp only [Act.put,xA,xB,xD,xE,xF]
     refine tkH 1 rfl (v:=?_) ?_
     simp only [Act.put,xA,xB,xC,xD,xE,xF]
     refine tkH 2 rfl (v:=?_) ?_
     simp only [Act.put,xA,xB,xC,xD,xE,xF]
     refine wpAnyH_take (i:=3) (v:=undef) rfl (by kernel_rfl) (by kernel_rfl) (by kernel_rfl) (fun _ _ _ h=>h) (Or.inr ⟨by rfl,rfl⟩) (by assumption) ?_
     simp only [Act.put,xA,xB,xC,xD,xE,xF]
     refine wpAnyH_take (i:=4) (v:=undef) rfl (by kernel_rfl) (by kernel_rfl) (by kernel_rfl) (fun _ _ _ h=>h) (Or.inr ⟨by rfl,rfl⟩) (by assumption) ?_
     simp only [Act.put,xA,xB,xC,xD,xE,xF]
     refine wpAnyH_take (i:=5) (v:=undef) rfl (by kernel_rfl) (by kernel_rfl) (by kernel_rfl) (fun _ _ _ h=>h) (Or.inr ⟨by rfl,rfl⟩) (by assumption) ?_
     simp only [Act.put,xA,xB,xC,xD,xE,xF]
     refine wpAnyH_take (i:=6) (v:=undef) rfl (by kernel_rfl) (by kernel_rfl) (by kernel_rfl) (fun _ _ _ h=>h) (Or.inr ⟨by rfl,rfl⟩) (by assumption) ?_
     simp only [Act.put,xA,xB,xC,xD,xE,xF]
     refine wpAnyH_take (i:=7) (v:=undef) rfl (by kernel_rfl) (by kernel_rfl) (by kernel_rfl) (fun _ _ _ h=>h) (Or.inr ⟨by rfl,rfl⟩) (by assumption) ?_
     simp only [Act.put,xA,xB,xC,xD,xE,xF]
     refine tkH 8 rfl (v:=?_) ?_
     simp only [Act.put,xA,xB,xC,xD,xE,xF]
     refine tkH 9 rfl (v:=?_) ?_
     simp only [Act.put,xA,xB,xC,xD,xE,xF]
     refine tkH 10 rfl (v:=?_) ?_
     simp only [Act.put,xA,xB,xC,xD,xE,xF]
     refine tkH 11 rfl (v:=?_) ?_
     simp only [Act.put,xA,xB,xC,xD,xE,xF]
     refine tkH 12 rfl (v:=?_) ?_
     simp only [Act.put,xA,xB,xC,xD,xE,xF]
     refine tkH 13 rfl (v:=?_) ?_
     simp only [Act.put,xA,xB,xC,xD,xE,xF]
     refine tkH 14 rfl (v:=?_) ?_
     simp only [Act.put,xA,xB,xC,xD,xE,xF]
     refine tkH 15 rfl (v:=?_) ?_
     simp only [Act.put,xA,xB,xC,xD,xE,xF]
     refine tkH 16 rfl (v:=?_) ?_
     simp only [Act.put,xA,xB,xC,xD,xE,xF]
     refine tkH 17 rfl (v:=?_) ?_
     simp only [Act.put,xA,xB,xC,xD,xE,xF]
     refine tkH 18 rfl (v:=?_) ?_
     simp only [Act.put,xA,xB,xC,xD,xE,xF]
     refine tkH 19 rfl (v:=?_) ?_
     simp only [Act.put,xA,xB,xC,xD,xE,xF]
     refine tkH 20 rfl (v:=?_) ?_
     simp only [Act.put,xA,xB,xC,xD,xE,xF]
     refine tkH 21 rfl (v:=?_) ?_
     simp only [Act.put,xA,xB,xC,xD,xE,xF]
     refine tkH 23 rfl (v:=?_) ?_
     simp only [Act.put,xA,xB,xC,xD,xE,xF]
     refine tkH 24 rfl (v:=?_) ?_
     simp only [Act.put,xA,xB,xC,xD,xE,xF]
     refine tkH 25 rfl (v:=?_) ?_
     simp only [Act.put,xA,xB,xC,xD,xE,xF]
     refine tkH 26 rfl (v:=?_) ?_
     simp only [Act.put,xA,xB,xC,xD,xE,xF]
     refine tkH 27 rfl (v:=?_) ?_
     simp only [Act.put,xA,xB,xC,xD,xE,xF]
     refine tkH 28 rfl (v:=?_) ?_
     simp only [Act.put,xA,xB,xC,xD,xE,xF]
     refine wpAnyH_ready (rs:=[22]) (by kernel_rfl) (by simp) ?_
     refine AllReadyH.cons rfl (fun K hK=>?_) AllReadyH.nil
     go_simp
     refine hK.out _ _ (by first | with_reducible exact hHeld | ((try dsimp only);go_keep)) (fun hHeld=>?_)
     clear hK
     try simp only [Act.put,xA,xB,xC,xD,xE,xF]
     refine wpAnyH_ready (rs:=[29]) (by kernel_rfl) (by simp) ?_
     refine AllReadyH.cons rfl (fun K hK=>?_) AllReadyH.nil
     go_simp
     go_at_call 7
     refine (dominatesI_any V a1 m2 c1 xs 0 D (d:Int) (b:Int) _ (hide HP11.out.drew.s.at_) HL1 HT1 HP11.out.s.sz (hide (hO.out.keep HLL.out)) (hide (hT.out.keep HLL.out))).mono ?_
     rw [domB_true HV.out ⟨by omega,by omega,by simpa using hdom⟩]
     rintro e w12 ⟨rfl,hb12⟩
     have HP12:=hide (HP11.out.drew.keep hb12)
     clear hb12
     have y1:w12.cell? ⟨fb,1,none⟩=some (.slice a1 m2 c1):=Bx.cell HP12.out.s.fbx rfl
     have y0:w12.cell? ⟨fb,0,none⟩=some (.int .i64 V):=Bx.cell HP12.out.s.fbx rfl
     have y2:w12.cell? ⟨ab,2,none⟩=some (.slice (some ⟨g3,0,none⟩) m2 m2):=Bx.cell HP12.out.s.abx rfl
     have y3:w12.cell? ⟨g3,b,none⟩=some (.int .i64 (d:Int)):=(HP12.out.s.row.cell hbm).trans (by rw [hpd])
     have HLZ:=hide HP12.out.s.low
     refine hK.out _ _ ⟨y2,y3,y0,y1⟩ (fun hHeld=>?_)
     clear hK
     try simp only [Act.put,xA,xB,xC,xD,xE,xF]
     refine tkH 30 rfl (v:=?_) ?_
     simp only [Act.put,xA,xB,xC,xD,xE,xF]
     refine tkH 31 rfl (v:=?_) ?_
     simp only [Act.put,xA,xB,xC,xD,xE,xF]
     refine tkH 32 rfl (v:=?_) ?_
     simp only [Act.put,xA,xB,xC,xD,xE,xF]
     refine wpAnyH_done (by kernel_rfl) ?_ _
     clear hHeld
     go_wp2
     go_ret
     exact ⟨rfl,HLZ.out⟩
  ·have hn1I:¬(1048576:Int)<n:=by omega
   have hm1I:(1048576:Int)<m:=by omega
   go_enter Tryd.func3,Tryd.ntmps3
   go_wp2
   go_ret
   exact ⟨rfl,Below.refl _ _⟩
 ·have hn1I:(1048576:Int)<n:=by omega
  go_enter Tryd.func3,Tryd.ntmps3
  go_wp2
  go_ret
  exact ⟨rfl,Below.refl _ _⟩
end Go.Proofs.YtdfdmjcngkfciaaDoor
