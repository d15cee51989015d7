import Derived.Test.YtdfdmjcngkfciaaDoorAN1
import Derived.Test.YtdfdmjcngkfciaaDoorPure
import Derived.Test.YtdfdmjcngkfciaaDoorW8
import Derived.Test.YtdfdmjcngkfciaaDoorW9
import Derived.Test.YtdfdmjcngkfciaaDoorW14b
import Derived.Deep.QuietTactic
import Derived.BigQuiet
import Derived.Deep.RegionWith
import Derived.Deep.DrawnRows
import Derived.Test.YtdfdmjcngkfciaaDoorRC2
namespace Go.Proofs.YtdfdmjcngkfciaaDoor
open Go.RowKit
open Classical in
noncomputable def domB (v:Int) (xs:List Blk) (a b:Int):Bool:=validI ⟨v,xs⟩ && decide (0≤a∧0≤b∧Dom (tgN xs) a.toNat b.toNat)
open Classical in
theorem domB_false {v:Int} {xs:List Blk} {a b:Int} (h:¬(0≤a∧0≤b∧Dom (tgN xs) a.toNat b.toNat)):domB v xs a b=false:=by
 unfold domB
 rw [decide_eq_false h,Bool.and_false]
theorem domB_bad {v:Int} {xs:List Blk} {a b:Int} (h:validI ⟨v,xs⟩=false):domB v xs a b=false:=by
 unfold domB
 rw [h,Bool.false_and]
open Classical in
theorem domB_true {v:Int} {xs:List Blk} {a b:Int} (h:validI ⟨v,xs⟩=true) (k:0≤a∧0≤b∧Dom (tgN xs) a.toNat b.toNat):domB v xs a b=true:=by
 unfold domB
 rw [h,decide_eq_true k,Bool.and_self]
set_option maxHeartbeats 1000000 in
set_option maxRecDepth 100000 in
theorem analyzeI_bad (v:Int) (a:Option Addr) (n c:Nat) (xs:List Blk) (L B:Nat) (w:World) (ha:Hid (BlksAt w L B a xs)) (hx:Hid (n=xs.length)) (hs:Hid (xs.length+blksTot xs≤1048576)) (hB:B≤w.heap.size) (hO:Hid (OpTab w)) (hT:Hid (TerTab w)) (hv:Hid (validI ⟨v,xs⟩=false)) :
  Calls Tryd.prog 5 #[.agg #[.int .i64 v,.slice a n c]] w fun e w'=>e=.returned (.agg #[.slice none 0 0,.slice none 0 0,.slice none 0 0,.slice none 0 0])∧Below w.heap.size w w':=by
 have HVF:=hide (fun W (hb:Below w.heap.size w W)=>validFuncI_any v a n c xs L B W (hide (ha.out.keep (hb.mono hB))) hx hs (by have:=hb.size;omega) (hide (hO.out.keep hb)) (hide (hT.out.keep hb)))
 rw [hv.out] at HVF
 go_enter Tryd.func5,Tryd.ntmps5
 go_wp2_with fail
 refine (HVF.out _ (balloc (balloc (Below.refl _ _) _) _)).mono ?_
 rintro e w1 ⟨rfl,hb1⟩
 have HB1:=hide (bnext (balloc (balloc (Below.refl w.heap.size w) _) _) hb1)
 have hR1:w1.rowIs (w.heap.size+1) 31 4 (fun _=>.slice none 0 0):=by
  have h:=World.rowIs_alloc (w.alloc (.cells #[.int .i64 v,.slice a n c] 25)) #[.slice none 0 0,.slice none 0 0,.slice none 0 0,.slice none 0 0] 31 (fun _=>.slice none 0 0) (fun i hi=>by
   match i,hi with
   | 0,_=>rfl
   | 1,_=>rfl
   | 2,_=>rfl
   | 3,_=>rfl)
  rw [World.size_alloc] at h
  exact h.of_block (hb1.block _ (by simp))
 have y0:=hR1.cell (i:=0) (by decide)
 have y1:=hR1.cell (i:=1) (by decide)
 have y2:=hR1.cell (i:=2) (by decide)
 have y3:=hR1.cell (i:=3) (by decide)
 have yf:=hR1.frozen
 have HR1:=hide hR1
 clear hb1 hR1 HVF
 go_wp2_with fail
 have h4:=(((HR1.out.set 0 (.slice none 0 0)).set 1 (.slice none 0 0)).set 2 (.slice none 0 0)).set 3 (.slice none 0 0)
 have z0:=h4.cell (i:=0) (by decide)
 have z1:=h4.cell (i:=1) (by decide)
 have z2:=h4.cell (i:=2) (by decide)
 have z3:=h4.cell (i:=3) (by decide)
 have hB4:Below w.heap.size w ((((w1.setCell ⟨w.heap.size+1,0,none⟩ (.slice none 0 0)).setCell ⟨w.heap.size+1,1,none⟩ (.slice none 0 0)).setCell ⟨w.heap.size+1,2,none⟩ (.slice none 0 0)).setCell ⟨w.heap.size+1,3,none⟩ (.slice none 0 0)):=(((HB1.out.setCell (p:=⟨w.heap.size+1,0,none⟩) (by dsimp only;omega) _).setCell (p:=⟨w.heap.size+1,1,none⟩) (by dsimp only;omega) _).setCell (p:=⟨w.heap.size+1,2,none⟩) (by dsimp only;omega) _).setCell (p:=⟨w.heap.size+1,3,none⟩) (by dsimp only;omega) _
 generalize (((w1.setCell ⟨w.heap.size+1,0,none⟩ (.slice none 0 0)).setCell ⟨w.heap.size+1,1,none⟩ (.slice none 0 0)).setCell ⟨w.heap.size+1,2,none⟩ (.slice none 0 0)).setCell ⟨w.heap.size+1,3,none⟩ (.slice none 0 0)=wE at *
 simp only [reduceIte,Nat.reduceEqDiff] at z0 z1 z2 z3
 refine bodyPost_ret (v:=.agg #[.slice none 0 0,.slice none 0 0,.slice none 0 0,.slice none 0 0]) (by simp [results,Tryd.results5,go_sem,z0,z1,z2,z3]) rfl ⟨rfl,hB4⟩
set_option maxHeartbeats 2000000 in
set_option maxRecDepth 100000 in
theorem dominatesI_any (v:Int) (a:Option Addr) (n c:Nat) (xs:List Blk) (L B:Nat) (x y:Int) (w:World) (ha:Hid (BlksAt w L B a xs)) (hx:Hid (n=xs.length)) (hs:Hid (xs.length+blksTot xs≤1048576)) (hB:B≤w.heap.size) (hO:Hid (OpTab w)) (hT:Hid (TerTab w)) :
  Calls Tryd.prog 7 #[.agg #[.int .i64 v,.slice a n c],.int .i64 x,.int .i64 y] w fun e w'=>e=.returned (.bool (domB v xs x y))∧Below w.heap.size w w':=by
 cases hv:validI ⟨v,xs⟩ with
 | false =>
  have HV:=hide hv
  have HAN:=hide (fun W (hb:Below w.heap.size w W)=>analyzeI_bad v a n c xs L B W (hide (ha.out.keep (hb.mono hB))) hx hs (by have:=hb.size;omega) (hide (hO.out.keep hb)) (hide (hT.out.keep hb)) HV)
  have HD:=hide (domB_bad (a:=x) (b:=y) hv)
  rw [HD.out]
  clear hv
  go_enter Tryd.func7,Tryd.ntmps7
  go_wp2_with fail
  refine (HAN.out _ (balloc (Below.refl _ _) _)).mono ?_
  rintro e w1 ⟨rfl,hb1⟩
  have HB1:=hide (bnext (balloc (Below.refl w.heap.size w) _) hb1)
  clear hb1 HAN
  by_cases hy0:y<0
  ·go_wp2_with fail
   go_ret
   exact ⟨rfl,balloc HB1.out _⟩
  ·have hy1:0≤y:=by omega
   go_wp2_with fail
   go_ret
   exact ⟨rfl,balloc HB1.out _⟩
 | true =>
  have HV:=hide hv
  have HOK:=hide (ok_of_valid hv)
  have HAN:=hide (fun W (hb:Below w.heap.size w W)=>analyzeI_any v a n c xs L B W (hide (ha.out.keep (hb.mono hB))) hx hs (by have:=hb.size;omega) (hide (hO.out.keep hb)) (hide (hT.out.keep hb)) HV)
  clear hv
  go_enter Tryd.func7,Tryd.ntmps7
  go_wp2_with fail
  refine (HAN.out _ (balloc (Below.refl _ _) _)).mono ?_
  rintro e w1 ⟨U,P,g1,c1,g2,c2,g3,g4,c4,rfl,hb1,hid,hfl⟩
  have HB1:=hide (bnext (balloc (Below.refl w.heap.size w) _) hb1)
  have HID:=hide hid
  have HFL:=hide hfl
  clear hb1 HAN hid hfl
  generalize (preP P n 0).length=ql
  have hn2:n≤1000:=by have:=HOK.out.n2;have:=hx.out;omega
  have HRE:Hid (∀x,Re (tgN xs) x→x<n):=hide (by rw [hx.out];exact HOK.out.re)
  by_cases hy0:y<0
  ·have HD:=hide (domB_false (v:=v) (xs:=xs) (a:=x) (b:=y) (fun h=>by omega))
   go_wp2_with fail
   go_ret
   exact ⟨ret_bool HD.out.symm,balloc HB1.out _⟩
  ·obtain ⟨z,rfl⟩:=Int.eq_ofNat_of_zero_le (show 0≤y by omega)
   by_cases hyn:n≤z
   ·have HD:=hide (domB_false (v:=v) (xs:=xs) (a:=x) (b:=(z:Int)) (fun h=>by have:=HRE.out _ h.2.2.rb;omega))
    go_wp2_with fail
    go_ret
    exact ⟨ret_bool HD.out.symm,balloc HB1.out _⟩
   ·have hzn:z<n:=by omega
    have k2:w1.cell? ⟨g2,z,none⟩=some (.bool (hasN (seaP xs).1 z)):=own_cell HFL.out.o2 (by simp [hzn])
    have hg2:=(HFL.out.o2.lt g2 rfl).2
    cases hr:hasN (seaP xs).1 z with
    | false =>
     have HD:=hide (domB_false (v:=v) (xs:=xs) (a:=x) (b:=(z:Int)) (fun h=>by
      have:=(HOK.out.top.2.1 z).2 h.2.2.rb
      rw [hr] at this;cases this))
     rw [hr] at k2
     clear hr
     go_wp2_with fail
     go_ret
     exact ⟨ret_bool HD.out.symm,balloc HB1.out _⟩
    | true =>
     have HZ:Hid (Re (tgN xs) z):=hide ((HOK.out.top.2.1 z).1 hr)
     rw [hr] at k2
     clear hr
     go_wp2_with fail
     generalize decide ((z:Int)<0)=bz
     have hg3:g3<w1.heap.size:=HFL.out.o3.lt
     have HB2:=hide (balloc HB1.out (.cells #[.slice (some ⟨g1,0,none⟩) n c1,.slice (some ⟨g2,0,none⟩) n c2,.slice (some ⟨g3,0,none⟩) n n,.slice (some ⟨g4,0,none⟩) ql c4] 31))
     have HR2:=hide (HFL.out.o3.alloc (.cells #[.slice (some ⟨g1,0,none⟩) n c1,.slice (some ⟨g2,0,none⟩) n c2,.slice (some ⟨g3,0,none⟩) n n,.slice (some ⟨g4,0,none⟩) ql c4] 31))
     have HC2:Hid ((w1.alloc (.cells #[.slice (some ⟨g1,0,none⟩) n c1,.slice (some ⟨g2,0,none⟩) n c2,.slice (some ⟨g3,0,none⟩) n n,.slice (some ⟨g4,0,none⟩) ql c4] 31)).cell? ⟨w1.heap.size,2,none⟩=some (.slice (some ⟨g3,0,none⟩) n n)):=hide (by simp [go_sem])
     generalize w1.alloc (.cells #[.slice (some ⟨g1,0,none⟩) n c1,.slice (some ⟨g2,0,none⟩) n c2,.slice (some ⟨g3,0,none⟩) n n,.slice (some ⟨g4,0,none⟩) ql c4] 31)=w2 at *
     go_loopw [2] (fun u wr=>∃d:Nat,u=.int .i64 d∧d<n∧Hid (Re (tgN xs) d)∧Hid (∀a':Nat,(a':Int)=x→(Dom (tgN xs) a' z↔Dom (tgN xs) a' d))∧Hid (Below w.heap.size w wr)∧Hid (wr.rowIs g3 2 n (fun z=>.int .i64 (P.getD z 0)))∧Hid (wr.cell? ⟨w1.heap.size,2,none⟩=some (.slice (some ⟨g3,0,none⟩) n n))) (fun u _=>(domL (tgN xs) n (intOf u).toNat).length)
     case atStart=>exact ⟨z,rfl,hzn,HZ,hide (fun _ _=>Iff.rfl),HB2,HR2,HC2⟩
     case round =>
      obtain ⟨d,rfl,hdn,HD,HI,HB,HR,HC⟩:=hrel
      clear HB2 HR2 HC2
      by_cases hdx:(d:Int)=x
      ·have HA:Hid (domB v xs x (z:Int)=true):=hide (domB_true HV.out ⟨by omega,by omega,by
        have h:=(HI.out d hdx).2 (dom_self HD.out)
        rw [←hdx];exact h⟩)
       subst hdx
       have q1:((d:Int)==(d:Int))=true:=by simp
       have q2:((d:Int) != (d:Int))=false:=by simp
       go_wp2_with fail
       go_ret
       exact ⟨ret_bool (by rw [HA.out]),HB.out⟩
      ·have q1:((d:Int)==x)=false:=by simp [hdx]
       have q2:((d:Int) != x)=true:=by simp [hdx]
       by_cases hd0:d=0
       ·have HA:Hid (domB v xs x (z:Int)=false):=hide (domB_false (fun h=>by
         have h1:=(HI.out x.toNat (by omega)).1 h.2.2
         rw [hd0] at h1
         have:=dom_zero h1
         omega))
        have q3:((d:Int)==0)=true:=by simp [hd0]
        have q4:((d:Int) != 0)=false:=by simp [hd0]
        clear hd0
        go_wp2_with fail
        go_ret
        exact ⟨ret_bool (by rw [HA.out]),HB.out⟩
       ·have q3:((d:Int)==0)=false:=by simp [hd0]
        have q4:((d:Int) != 0)=true:=by simp [hd0]
        obtain ⟨e,he,hen,here,hel,heq⟩:=up_some HID.out HRE.out HD.out hd0
        have cc:=HC.out
        have cd:=HR.out.cell hdn
        rw [he] at cd
        have HEL:=hide hel
        have HEQ:=hide heq
        have HER:=hide here
        clear he hel heq here
        go_wp2_with fail
        exact ⟨⟨e,rfl,hen,HER,hide (fun a' ha'=>(HI.out a' ha').trans (HEQ.out a' (fun h=>hdx (by rw [←h];exact ha')))),HB,HR,HC⟩,by simpa [intOf] using HEL.out⟩
end Go.Proofs.YtdfdmjcngkfciaaDoor

namespace Go.Proofs.YtdfdmjcngkfciaaDoor
open Go.RowKit
set_option maxHeartbeats 4000000 in
theorem goodInstr_any (op dst a b imm n most:Int) (w:World) :
  Calls Tryd.prog 22 #[.agg #[.int .i64 op,.int .i64 dst,.int .i64 a,.int .i64 b,.int .i64 imm],.int .i64 n,.int .i64 most] w fun e w'=>e=.returned (.bool (insOk n most ⟨op,dst,a,b,imm⟩))∧Below w.heap.size w w':=by
 by_cases h:1≤op∧op≤most
 ·obtain ⟨h1,h2⟩:=h
  go_enter Tryd.func22,Tryd.ntmps22
  go_wp2_with fail
  refine (usedD _ _).mono ?_
  rintro e w1 ⟨rfl,rfl⟩
  go_wp2_with fail
  refine (usedA _ _).mono ?_
  rintro e w1 ⟨rfl,rfl⟩
  go_wp2_with fail
  refine (usedB _ _).mono ?_
  rintro e w1 ⟨rfl,rfl⟩
  go_wp2
  all_goals
   go_ret
   refine ⟨ret_bool ?_,balloc (Below.refl _ _) _⟩
   first | (simp [insOk,fld,immOk, *];done) | (simp [insOk,fld,immOk, *];omega) | (rw [Bool.eq_iff_iff];simp [insOk,fld,immOk, *];omega)
 ·go_enter Tryd.func22,Tryd.ntmps22
  go_wp2
  all_goals
   go_ret
   refine ⟨ret_bool ?_,balloc (Below.refl _ _) _⟩
   symm
   unfold insOk
   by_cases h1:1≤op
   ·rw [decide_eq_false (p:=op≤most) (by omega)];simp
   ·rw [decide_eq_false (p:=1≤op) h1];simp
end Go.Proofs.YtdfdmjcngkfciaaDoor

namespace Go.Proofs.YtdfdmjcngkfciaaDoor
open Go.RowKit
attribute [local go_sem ↓] Go.wp_at_zero Go.wp_at_succ
def blkOkS (v:Int) (n:Nat) (x:Blk):Bool:=x.instrs.all (insOk v 10)&&terOk' v n x.term
theorem blksOkS (F:Fn):(instrsOk F&&termsOk F)=F.blocks.all (blkOkS F.values F.blocks.length):=by
 rw [show F.blocks.all (blkOkS F.values F.blocks.length)=F.blocks.all (fun x=>x.instrs.all (insOk F.values 10)&&terOk' F.values F.blocks.length x.term) from rfl,all_and]
 rfl
set_option maxRecDepth 100000 in
set_option maxHeartbeats 8000000 in
theorem validFuncS_no (v:Int) (a:Option Addr) (n c:Nat) (xs:List Blk) (L B:Nat) (w:World) (ha:Hid (BlksAt w L B a xs)) (hx:Hid (n=xs.length)) (hn:n≤1048576) (hbs:Hid (blksSize xs≤1048576)) (hB:B≤w.heap.size)
  (h:Hid (¬(0≤v∧v≤2000∧1≤n∧n≤1000∧blksSize xs≤4000))) :
  Calls Tryd.prog 6 #[.agg #[.int .i64 v,.slice a n c]] w fun e w'=>e=.returned (.bool false)∧Below w.heap.size w w':=by
 by_cases hd:0≤v∧v≤2000∧1≤n∧n≤1000
 ·obtain ⟨d0,d1,d2,d3⟩:=hd
  have hsz:4000<blksSize xs:=by have:=h.out;omega
  go_enter Tryd.func6,Tryd.ntmps6
  go_wp2_with fail
  refine (l1Size_any v a n c xs L B _ ?q1 hx hn hbs.out ?q2).mono ?_
  case q1=>exact ha.out.keep (balloc (Below.refl _ _) _ |>.mono hB)
  case q2=>simp;omega
  rintro e w1 ⟨rfl,hb1⟩
  go_wp2
  go_ret
  exact ⟨rfl,bnext (balloc (Below.refl _ _) _) hb1⟩
 ·have hd':v<0∨(0≤v∧2000<v)∨(0≤v∧v≤2000∧n<1)∨(0≤v∧v≤2000∧1≤n∧1000<n):=by omega
  clear hd
  rcases hd' with d | ⟨d,d1⟩ | ⟨d,d1,d2⟩ | ⟨d,d1,d2,d3⟩
  all_goals
   go_enter Tryd.func6,Tryd.ntmps6
   go_wp2
   go_ret
   exact ⟨rfl,balloc (Below.refl _ _) _⟩
end Go.Proofs.YtdfdmjcngkfciaaDoor

namespace Go.Proofs.YtdfdmjcngkfciaaDoor
open Go.RowKit
attribute [local go_sem ↓] Go.wp_at_zero Go.wp_at_succ
set_option maxRecDepth 100000 in
set_option maxHeartbeats 8000000 in
theorem validFuncS_yes (m:Nat) (a:Option Addr) (n c:Nat) (xs:List Blk) (L B:Nat) (w:World) (R:Bool) (ha:Hid (BlksAt w L B a xs)) (hx:Hid (n=xs.length)) (hs:Hid (xs.length+blksTot xs≤1048576)) (hB:B≤w.heap.size)
  (d1:(m:Int)≤2000) (d2:1≤n) (d3:n≤1000) (hsz:blksSize xs≤4000) (hR:Hid (R=(xs.all (blkOkS m n)&&phisOkS ⟨m,xs⟩ && coverOk ⟨m,xs⟩))) :
  Calls Tryd.prog 6 #[.agg #[.int .i64 m,.slice a n c]] w fun e w'=>e=.returned (.bool R)∧Below w.heap.size w w':=by
 have hbs:Hid (blksSize xs≤1048576):=by show _≤_;omega
 have hlen:=hide (len_of_tot hs.out)
 go_enter Tryd.func6,Tryd.ntmps6
 go_wp2_with fail
 refine (l1Size_any m a n c xs L B _ ?q1 hx (by omega) hbs.out ?q2).mono ?_
 case q1=>exact ha.out.keep (balloc (Below.refl _ _) _ |>.mono hB)
 case q2=>simp;omega
 rintro e w1 ⟨rfl,hb1⟩
 obtain ⟨hc1,hf1⟩:=bcell hb1
 have k0:w1.cell? ⟨w.heap.size,0,none⟩=some (.int .i64 m):=by rw [hc1 _ _ (by simp)];simp
 have k1:w1.cell? ⟨w.heap.size,1,none⟩=some (.slice a n c):=by rw [hc1 _ _ (by simp)];simp
 have B1:=bnext (balloc (Below.refl w.heap.size w) _) hb1
 have hz1:=hb1.size
 simp at hz1
 have HB1:=hide B1
 have HA:=hide (ha.out.keep (B1.mono hB))
 clear hc1 hf1 hb1 B1 ha
 go_wp2
 go_loopw [4] (fun i wr=>∃k:Nat,k≤n∧i=.int .i64 k∧Below w1.heap.size w1 wr∧Hid ((xs.take k).all (blkOkS m n)=true)) (fun i _=>n-(intOf i).toNat)
 case atStart=>exact ⟨0,Nat.zero_le _,rfl,Below.refl _ _,rfl⟩
 case round =>
  obtain ⟨k,hk,rfl,hw,hall⟩:=hrel
  by_cases hlt:k<n
  ·have hkx:k<xs.length:=by have:=hx.out;omega
   obtain ⟨b,o,rfl,⟨_,hbB⟩,hc⟩:=HA.out k hkx
   obtain ⟨pa',pc',ia,ic,d0,f1,⟨f2,f3,f4,f5⟩,_,hi⟩:=hc
   have e0:=(cTr hw (by omega)).trans d0
   have e1:=(cTr hw (by omega)).trans f1
   have e2:=(cTr hw (by omega)).trans f2
   have e3:=(cTr hw (by omega)).trans f3
   have e4:=(cTr hw (by omega)).trans f4
   have e5:=(cTr hw (by omega)).trans f5
   have k0':=(cTr hw (by omega)).trans k0
   have k1':=(cTr hw (by omega)).trans k1
   have hil:=(hlen.out _ (List.getElem_mem hkx)).2.1
   have hno:=hide (fun h=>all_no (p:=blkOkS m n) (xs:=xs) (k:=k) hkx h)
   have hyes:=hide (fun h=>all_take_next (p:=blkOkS m n) hkx hall.out h)
   have HI:=hide hi
   have hwz:=hw.size
   clear hi d0 f1 f2 f3 f4 f5
   generalize xs[k]=X at *
   have hBK:Hid (blkOkS m n X=(X.instrs.all (insOk m 10)&&(terOk m 1 n ⟨X.term.kind,X.term.a,X.term.to,X.term.els⟩ && !(X.term.kind==2&&X.term.to==X.term.els)))):=rfl
   go_wp2
   have hb2:=balloc hw (.cells #[.slice pa' X.phis.length pc',.slice ia X.instrs.length ic,.int .i64 X.term.kind,.int .i64 X.term.a,.int .i64 X.term.to,.int .i64 X.term.els] 41)
   have m1:(wr.alloc (.cells #[.slice pa' X.phis.length pc',.slice ia X.instrs.length ic,.int .i64 X.term.kind,.int .i64 X.term.a,.int .i64 X.term.to,.int .i64 X.term.els] 41)).cell? ⟨wr.heap.size,1,none⟩=some (.slice ia X.instrs.length ic):=by simp
   have m2:(wr.alloc (.cells #[.slice pa' X.phis.length pc',.slice ia X.instrs.length ic,.int .i64 X.term.kind,.int .i64 X.term.a,.int .i64 X.term.to,.int .i64 X.term.els] 41)).cell? ⟨wr.heap.size,2,none⟩=some (.int .i64 X.term.kind):=by simp
   have m3:(wr.alloc (.cells #[.slice pa' X.phis.length pc',.slice ia X.instrs.length ic,.int .i64 X.term.kind,.int .i64 X.term.a,.int .i64 X.term.to,.int .i64 X.term.els] 41)).cell? ⟨wr.heap.size,3,none⟩=some (.int .i64 X.term.a):=by simp
   have m4:(wr.alloc (.cells #[.slice pa' X.phis.length pc',.slice ia X.instrs.length ic,.int .i64 X.term.kind,.int .i64 X.term.a,.int .i64 X.term.to,.int .i64 X.term.els] 41)).cell? ⟨wr.heap.size,4,none⟩=some (.int .i64 X.term.to):=by simp
   have m5:(wr.alloc (.cells #[.slice pa' X.phis.length pc',.slice ia X.instrs.length ic,.int .i64 X.term.kind,.int .i64 X.term.a,.int .i64 X.term.to,.int .i64 X.term.els] 41)).cell? ⟨wr.heap.size,5,none⟩=some (.int .i64 X.term.els):=by simp
   have hz2:wr.heap.size<(wr.alloc (.cells #[.slice pa' X.phis.length pc',.slice ia X.instrs.length ic,.int .i64 X.term.kind,.int .i64 X.term.a,.int .i64 X.term.to,.int .i64 X.term.els] 41)).heap.size:=by simp
   generalize wr.alloc (.cells #[.slice pa' X.phis.length pc',.slice ia X.instrs.length ic,.int .i64 X.term.kind,.int .i64 X.term.a,.int .i64 X.term.to,.int .i64 X.term.els] 41)=W2 at *
   have HW2:=hide hb2
   have hz3:=hb2.size
   generalize wr.heap.size=M at *
   clear hb2 e0 e1 e2 e3 e4 e5 k0' k1' hw
   go_loopw [6] (fun i wi=>∃j:Nat,j≤X.instrs.length∧i=.int .i64 j∧Below W2.heap.size W2 wi∧Hid ((X.instrs.take j).all (insOk m 10)=true)) (fun i _=>X.instrs.length-(intOf i).toNat)
   case atStart=>exact ⟨0,Nat.zero_le _,rfl,Below.refl _ _,rfl⟩
   case round =>
    obtain ⟨j,hj,rfl,hwi,halli⟩:=hrel
    have hbi:=bnext HW2.out hwi
    have r0:=(cTr hbi (by omega)).trans k0
    have n1:=(cTr hwi (by omega)).trans m1
    have hwiz:=hwi.size
    by_cases hjt:j<X.instrs.length
    ·obtain ⟨b',o',rfl,⟨_,hbB'⟩,hc'⟩:=HI.out j hjt
     obtain ⟨g0,g1,g2,g3,g4⟩:=hc'.keep hbi (by omega)
     have hno2:=hide (fun h=>all_no (p:=insOk m 10) (xs:=X.instrs) (k:=j) hjt h)
     have hyes2:=hide (fun h=>all_take_next (p:=insOk m 10) hjt halli.out h)
     have hj0:(0:Int)≤(j:Int):=by omega
     have hj1:(j:Int)<(X.instrs.length:Int):=by omega
     clear hc' m1 m2 m3 m4 m5 k0 k1
     generalize X.instrs[j]=P at *
     cases hr:insOk m 10 ⟨P.op,P.dst,P.a,P.b,P.imm⟩
     ·have HRR:=hide hr
      go_wp2
      go_region_with (go_at_call 22;refine (goodInstr_any _ _ _ _ _ _ _ _).mono ?_;rintro e w2 ⟨rfl,hb2⟩;rw [unhide HRR])
      all_goals
       go_wp2
       go_ret
       exact ⟨ret_bool (by rw [hR.out,unhide hno (by rw [hBK.out,unhide hno2 HRR.out];rfl)];rfl),bnext HB1.out (bnext hbi.drew hb2)⟩
     ·have HRR:=hide hr
      go_wp2
      go_region_with (go_at_call 22;refine (goodInstr_any _ _ _ _ _ _ _ _).mono ?_;rintro e w2 ⟨rfl,hb2⟩;rw [unhide HRR])
      all_goals
       go_wp2
       exact ⟨⟨j+1,by omega,by go_num,bnext hwi.drew hb2,unhide hyes2 HRR.out⟩,by simp [intOf];omega⟩
    ·have hIA:=hide (all_whole (p:=insOk m 10) (xs:=X.instrs) (k:=j) (by omega) halli.out)
     have n2:=(cTr hwi (by omega)).trans m2
     have n3:=(cTr hwi (by omega)).trans m3
     have n4:=(cTr hwi (by omega)).trans m4
     have n5:=(cTr hwi (by omega)).trans m5
     clear m1 m2 m3 m4 m5 k0 k1
     cases hr:terOk m 1 n ⟨X.term.kind,X.term.a,X.term.to,X.term.els⟩
     ·have HRR:=hide hr
      clear hr
      go_wp2_with (go_at_call 23;refine (goodTerm_any _ _ _ _ _ _ _ _).mono ?_;rintro e w2 ⟨rfl,hb2⟩;rw [unhide HRR])
      go_ret
      exact ⟨ret_bool (by rw [hR.out,unhide hno (by rw [hBK.out,HRR.out];simp)];rfl),bnext HB1.out (bnext hbi hb2)⟩
     ·have HRR:=hide hr
      clear hr
      by_cases hq:X.term.kind=2∧X.term.to=X.term.els
      ·have q1:(X.term.kind==2)=true:=by simp [hq.1]
       have q2:(X.term.to==X.term.els)=true:=by simp [hq.2]
       clear hq
       go_wp2_with (go_at_call 23;refine (goodTerm_any _ _ _ _ _ _ _ _).mono ?_;rintro e w2 ⟨rfl,hb2⟩;rw [unhide HRR];have p2:=(hb2.cell (p:=⟨M,2,none⟩) (by show M<_;omega)).trans n2;have p4:=(hb2.cell (p:=⟨M,4,none⟩) (by show M<_;omega)).trans n4;have p5:=(cTr hb2 (by omega)).trans n5)
       go_ret
       exact ⟨ret_bool (by rw [hR.out,unhide hno (by rw [hBK.out,q1,q2];simp)];rfl),bnext HB1.out (bnext hbi hb2)⟩
      ·have hq':(X.term.kind==2)=false∨((X.term.kind==2)=true∧(X.term.to==X.term.els)=false):=by simp only [beq_eq_false_iff_ne,beq_iff_eq];omega
       clear hq
       rcases hq' with q1 | ⟨q1,q2⟩
       all_goals
        go_wp2_with (go_at_call 23;refine (goodTerm_any _ _ _ _ _ _ _ _).mono ?_;rintro e w2 ⟨rfl,hb2⟩;rw [unhide HRR];have p2:=(hb2.cell (p:=⟨M,2,none⟩) (by show M<_;omega)).trans n2;have p4:=(hb2.cell (p:=⟨M,4,none⟩) (by show M<_;omega)).trans n4;have p5:=(cTr hb2 (by omega)).trans n5)
        exact ⟨⟨k+1,by omega,by go_num,bnext hbi hb2,unhide hyes (by rw [hBK.out,HRR.out,hIA.out];first | (rw [q1];rfl) | (rw [q1,q2];rfl))⟩,by simp [intOf];omega⟩
  ·have hBL:=hide (all_whole (p:=blkOkS m n) (xs:=xs) (k:=k) (by have:=hx.out;omega) hall.out)
   clear hall
   go_wp2
   go_loopw [7] (fun i wr=>∃k:Nat,k≤n∧i=.int .i64 k∧Below w1.heap.size w1 wr∧Hid (∀j (h:j<xs.length),j<k→xs[j].phis.all (phOkS m (predsFrom xs 0 (j:Int)).length)=true)) (fun i _=>n-(intOf i).toNat)
   case atStart=>exact ⟨0,Nat.zero_le _,rfl,hw,fun j _ h=>absurd h (by omega)⟩
   case round =>
    clear hw hlt hk
    obtain ⟨k,hk,rfl,hw,hall⟩:=hrel
    have k0':=(cTr hw (by omega)).trans k0
    have k1':=(cTr hw (by omega)).trans k1
    have hwz:=hw.size
    by_cases hlt:k<n
    ·have hkx:k<xs.length:=by have:=hx.out;omega
     obtain ⟨b,o,rfl,⟨_,hbB⟩,hc⟩:=HA.out k hkx
     obtain ⟨pa',pc',ia,ic,d0,_,_,hp,_⟩:=hc
     obtain ⟨hl1,_,hl2⟩:=hlen.out _ (List.getElem_mem hkx)
     have HL2:=hide hl2
     have hno:Hid (xs[k].phis.all (phOkS m (predsFrom xs 0 (k:Int)).length)=false→phisOkS ⟨m,xs⟩=false):=fun h=>phisFrom_no phOkS ⟨m,xs⟩ (k:=k) hkx h
     have hyes:Hid (xs[k].phis.all (phOkS m (predsFrom xs 0 (k:Int)).length)=true→∀j (h:j<xs.length),j<k+1→xs[j].phis.all (phOkS m (predsFrom xs 0 (j:Int)).length)=true) :=
      fun h j hj hjk=>if e:j=k then by subst e;exact h else hall.out j hj (by omega)
     have HP:=hide hp
     have D0:=hide d0
     have hAw:=hide (HA.out.keep (hw.mono (by omega)))
     have hnl:(predsFrom xs 0 (k:Int)).length≤1048576:=by have:=predsFrom_len (k:Int) xs 0;have:=hx.out;omega
     clear hp d0 hl2
     go_wp2_with fail
     refine (l1Preds_any m _ n c k xs L B _ hAw hx (by omega) (by omega)).mono ?_
     rintro e w2 ⟨a2,c2,rfl,hb2,hi2⟩
     have hbw:=bnext hw hb2
     have hbz:=hbw.size
     clear hi2 hb2 hw k0' k1' hAw
     generalize xs[k]=X at *
     generalize predsFrom xs 0 (k:Int)=ps at *
     go_wp2
     go_loopw [9] (fun i wi=>∃j:Nat,j≤X.phis.length∧i=.int .i64 j∧Below w1.heap.size w1 wi∧Hid ((X.phis.take j).all (phOkS m ps.length)=true)) (fun i _=>X.phis.length-(intOf i).toNat)
     case atStart=>exact ⟨0,Nat.zero_le _,rfl,hbw,rfl⟩
     case round =>
      clear hbw hbz
      obtain ⟨j,hj,rfl,hwi,halli⟩:=hrel
      have x0:=(cTr hwi (by omega)).trans k0
      have x1:=(cTr hwi (by omega)).trans k1
      have x2:=(cTr hwi (by omega)).trans D0.out
      have hwiz:=hwi.size
      by_cases hjt:j<X.phis.length
      ·obtain ⟨b',o',rfl,⟨_,hbB'⟩,aa,cc,g0,g1,hi⟩:=HP.out j hjt
       have e6:=(cTr hwi (by omega)).trans g0
       have e7:=(cTr hwi (by omega)).trans g1
       have hal:=HL2.out _ (List.getElem_mem hjt)
       have hno2:=hide (fun h=>unhide hno (all_no (p:=phOkS m ps.length) (xs:=X.phis) (k:=j) hjt h))
       have hyes2:=hide (fun h=>all_take_next (p:=phOkS m ps.length) hjt halli.out h)
       have HIA:=hide hi
       have hw1z:w.heap.size<wr.heap.size:=by omega
       clear g0 g1 hi
       generalize X.phis[j]=P at *
       have hPS:Hid (phOkS m ps.length P=(decide (1≤P.args.length)&&decide (P.args.length=ps.length)&&P.args.all (inB 0 m))):=rfl
       by_cases h0:P.args.length=0
       ·have h0':(P.args.length:Int)<1:=by omega
        have H0:=hide h0
        clear h0
        go_wp2
        go_ret
        exact ⟨ret_bool (by rw [hR.out,unhide hno2 (by rw [hPS.out,H0.out];rfl)];simp),bnext HB1.out (balloc hwi _)⟩
       ·have h0':(1:Int)≤(P.args.length:Int):=by omega
        have H0:=hide h0
        clear h0
        by_cases h1:P.args.length=ps.length
        ·have h1':((P.args.length:Int) != (ps.length:Int))=false:=by simp [h1]
         have H1:=hide h1
         clear h1
         go_wp2
         have hb9:=balloc hwi (.cells #[.int .i64 P.dst,.slice aa P.args.length cc] 72)
         have z1:(wr.alloc (.cells #[.int .i64 P.dst,.slice aa P.args.length cc] 72)).cell? ⟨wr.heap.size,1,none⟩=some (.slice aa P.args.length cc):=by simp
         have z2:wr.heap.size<(wr.alloc (.cells #[.int .i64 P.dst,.slice aa P.args.length cc] 72)).heap.size:=by simp
         generalize wr.alloc (.cells #[.int .i64 P.dst,.slice aa P.args.length cc] 72)=w9 at *
         generalize wr.heap.size=M at *
         have hz9:=hb9.size
         have HB9:=hide hb9
         clear x0 x1 x2 e6 e7 h0' h1' hb9
         go_loopw [11] (fun i wi=>∃q:Nat,q≤P.args.length∧i=.int .i64 q∧Below w9.heap.size w9 wi∧Hid ((P.args.take q).all (inB 0 m)=true)) (fun i _=>P.args.length-(intOf i).toNat)
         case atStart=>exact ⟨0,Nat.zero_le _,rfl,Below.refl _ _,rfl⟩
         case round =>
          obtain ⟨q,hq,rfl,hwq,hallq⟩:=hrel
          have y1:=(cTr hwq (by omega)).trans z1
          have hbq:=bnext HB9.out hwq
          have y0:=(cTr hbq (by omega)).trans k0
          by_cases hqt:q<P.args.length
          ·obtain ⟨b2,o2,rfl,⟨_,hb2⟩,hc2⟩:=HIA.out q hqt
           have r1:=(cTr hbq (by omega)).trans hc2
           have hno3:=hide (fun h=>all_no (p:=inB 0 m) (xs:=P.args) (k:=q) hqt h)
           have hyes3:=hide (fun h=>all_take_next (p:=inB 0 m) hqt hallq.out h)
           have hq0:(0:Int)≤(q:Int):=by omega
           have hq1:(q:Int)<(P.args.length:Int):=by omega
           clear hc2 z1 k0 k1
           generalize P.args[q]=A at *
           by_cases hA0:A<0
           ·have hA1:decide (A<0)=true:=by simpa using hA0
            go_wp2
            go_quiet (fail)
            go_wp2
            go_ret
            exact ⟨ret_bool (by rw [hR.out,unhide hno2 (by rw [hPS.out,unhide hno3 (by unfold inB;rw [decide_eq_false (p:=0≤A) (by omega)];rfl)];simp)];simp),bnext HB1.out (below_drewN hbq _)⟩
           ·have hA1:decide (A<0)=false:=by simpa using hA0
            have hA2:0≤A:=by omega
            clear hA0
            by_cases hA3:(m:Int)≤A
            ·go_wp2
             go_quiet (fail)
             go_wp2
             go_ret
             exact ⟨ret_bool (by rw [hR.out,unhide hno2 (by rw [hPS.out,unhide hno3 (by unfold inB;rw [decide_eq_false (p:=A<m) (by omega)];simp)];simp)];simp),bnext HB1.out (below_drewN hbq _)⟩
            ·have hA4:A<(m:Int):=by omega
             clear hA3
             go_wp2
             go_quiet (fail)
             go_wp2
             exact ⟨⟨q+1,by omega,by go_num,below_drewN hwq _,unhide hyes3 (by unfold inB;rw [decide_eq_true hA2,decide_eq_true hA4];rfl)⟩,by simp [intOf];omega⟩
          ·go_wp2
           exact ⟨⟨j+1,by omega,by go_num,hbq,unhide hyes2 (by
            have h1:=H1.out
            have h0:=H0.out
            rw [hPS.out,decide_eq_true h1,decide_eq_true (p:=1≤P.args.length) (by omega),all_whole (xs:=P.args) (k:=q) (by omega) hallq.out];rfl)⟩,by simp [intOf];omega⟩
        ·have h1':((P.args.length:Int) != (ps.length:Int))=true:=by rw [bne_iff_ne];omega
         have H1:=hide h1
         clear h1
         go_wp2
         go_ret
         exact ⟨ret_bool (by rw [hR.out,unhide hno2 (by rw [hPS.out,decide_eq_false H1.out];simp)];simp),bnext HB1.out (balloc hwi _)⟩
      ·go_wp2
       exact ⟨⟨k+1,by omega,by go_num,hwi,unhide hyes (all_whole (xs:=X.phis) (k:=j) (by omega) halli.out)⟩,by simp [intOf];omega⟩
    ·have hPH:Hid (phisOkS ⟨m,xs⟩=true):=(phisFrom_iff phOkS ⟨m,xs⟩ xs 0).2 (fun j hj=>by rw [Nat.zero_add];exact hall.out j hj (by have:=hx.out;omega))
     have hAw:=hide (HA.out.keep (hw.mono (by omega)))
     have hCV:Hid (coverOk ⟨m,xs⟩=(decide (((blksDefs xs).length:Int)=m)&&(List.range m).all fun v=>hasI (blksDefs xs) (v:Int))):=rfl
     have hdl:(blksDefs xs).length≤1048576:=by have:=blksDefs_len xs;have:=hs.out;omega
     clear hall
     go_wp2_with fail
     refine (l1Defs_any m _ n c xs L B _ hAw hx (by omega) (show blksTot xs≤1048576 by have:=hs.out;omega) (by omega)).mono ?_
     rintro e w2 ⟨a2,c2,rfl,hb2,hi2⟩
     have hbw:=bnext hw hb2
     have y0:=(cTr hbw (by omega)).trans k0
     have HI2:=hide hi2
     have HBW:=hide hbw
     clear hi2 hb2 hw k0' k1' hAw hbw k0 k1
     generalize blksDefs xs=D at *
     by_cases hD:(D.length:Int)=m
     ·have hD':((D.length:Int) != (m:Int))=false:=by simp [hD]
      have HD:=hide hD
      clear hD
      go_wp2
      clear hD'
      go_loop [13] (fun i=>∃q:Nat,q≤m∧i=.int .i64 q∧Hid (∀p:Nat,p<q→hasI D (p:Int)=true)) (fun i=>m-(intOf i).toNat)
      case atStart=>exact ⟨0,Nat.zero_le _,rfl,fun p h=>absurd h (by omega)⟩
      case round =>
       obtain ⟨q,hq,rfl,hallq⟩:=hrel
       by_cases hqt:q<m
       ·cases hr:hasI D (q:Int)
        ·have HRR:=hide hr
         go_wp2_with (go_at_call 26;refine (l1Has_any _ _ _ _ D _ _ _ HI2 rfl hdl).mono ?_;rintro e w3 ⟨rfl,hw3⟩;rw [hw3];clear hw3 w3)
         go_ret
         exact ⟨ret_bool (by
          have hf:((List.range m).all fun v=>hasI D (v:Int))=false:=by
           rw [List.all_eq_false];exact ⟨q,by simpa using hqt,by simp [HRR.out]⟩
          rw [hR.out,hCV.out,hf];simp),bnext HB1.out HBW.out⟩
        ·have HRR:=hide hr
         go_wp2_with (go_at_call 26;refine (l1Has_any _ _ _ _ D _ _ _ HI2 rfl hdl).mono ?_;rintro e w3 ⟨rfl,hw3⟩;rw [hw3];clear hw3 w3)
         go_round
         case rel=>exact ⟨q+1,by omega,by go_num,fun p hp=>if e:p=q then by subst e;exact HRR.out else hallq.out p (by omega)⟩
         case measure=>simp [intOf];omega
       ·go_wp2
        go_ret
        exact ⟨ret_bool (by
         have hf:((List.range m).all fun v=>hasI D (v:Int))=true:=by
          rw [List.all_eq_true];intro p hp;exact hallq.out p (by simp at hp;omega)
         rw [hR.out,hCV.out,hf,hBL.out,hPH.out,decide_eq_true HD.out];rfl),bnext HB1.out HBW.out⟩
     ·have hD':((D.length:Int) != (m:Int))=true:=by rw [bne_iff_ne];exact hD
      have HD:=hide hD
      clear hD
      go_wp2
      go_ret
      exact ⟨ret_bool (by rw [hR.out,hCV.out,decide_eq_false HD.out];simp),bnext HB1.out HBW.out⟩
theorem validFuncS_any (v:Int) (a:Option Addr) (n c:Nat) (xs:List Blk) (L B:Nat) (w:World) (ha:Hid (BlksAt w L B a xs)) (hx:Hid (n=xs.length)) (hs:Hid (xs.length+blksTot xs≤1048576)) (hB:B≤w.heap.size) :
  Calls Tryd.prog 6 #[.agg #[.int .i64 v,.slice a n c]] w fun e w'=>e=.returned (.bool (validS ⟨v,xs⟩))∧Below w.heap.size w w':=by
 have hV:validS ⟨v,xs⟩=(sizeOk ⟨v,xs⟩ && xs.all (blkOkS v xs.length)&&phisOkS ⟨v,xs⟩ && coverOk ⟨v,xs⟩):=by
  unfold validS
  rw [blksOkS]
 have hn:=hx.out
 have hbs:blksSize xs≤1048576:=by rw [blksSize_tot];exact hs.out
 have hs2:=hs.out
 by_cases hd:0≤v∧v≤2000∧1≤n∧n≤1000∧blksSize xs≤4000
 ·obtain ⟨d0,d1,d2,d3,d4⟩:=hd
  have hS:sizeOk ⟨v,xs⟩=true:=sizeOk_yes d0 d1 (by show 1≤xs.length;omega) (by show xs.length≤1000;omega) d4
  obtain ⟨m,rfl⟩:=Int.eq_ofNat_of_zero_le d0
  rw [hV,hS]
  exact validFuncS_yes m a n c xs L B w _ ha hx hs hB d1 d2 d3 d4 (by show _=_;rw [←hn];rfl)
 ·have hS:sizeOk ⟨v,xs⟩=false:=by
   by_cases hb:blksSize xs≤4000
   ·exact sizeOk_head (F:=⟨v,xs⟩) (by show ¬(0≤v∧v≤2000∧1≤xs.length∧xs.length≤1000);omega)
   ·exact sizeOk_big (F:=⟨v,xs⟩) (by show 4000<blksSize xs;omega)
  rw [hV,hS]
  exact validFuncS_no v a n c xs L B w ha hx (by omega) hbs hB hd
end Go.Proofs.YtdfdmjcngkfciaaDoor

namespace Go.Proofs.YtdfdmjcngkfciaaDoor
open Go.RowKit
theorem natV_natI (F:List Nat):natV F=(natI F).map (Value.int .i64):=by simp [natV,natI]
theorem hasI_nat {F:List Nat} {x:Nat}:hasI (natI F) (x:Int)=true↔x∈F:=by
 unfold hasI
 rw [List.contains_iff_mem]
 unfold natI
 rw [List.mem_map]
 constructor
 ·rintro ⟨a,h,e⟩
  have:a=x:=Int.ofNat.inj e
  rw [←this];exact h
 ·exact fun h=>⟨x,h,rfl⟩
end Go.Proofs.YtdfdmjcngkfciaaDoor
