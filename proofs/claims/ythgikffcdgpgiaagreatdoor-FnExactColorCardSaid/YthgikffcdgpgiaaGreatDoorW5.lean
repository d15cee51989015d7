import Derived.Test.YthgikffcdgpgiaaGreatDoorMem
import Derived.BigQuiet
import Derived.Deep.OwnRows
import Derived.Deep.MidRow
namespace Go.Proofs.YthgikffcdgpgiaaGreatDoor
open Go.RowKit
def usesS (op:Int):ByteArray :=
 if op=1 then ⟨#[100,105]⟩ else if op=2 then ⟨#[100,105]⟩ else if 3≤op∧op≤7 then ⟨#[100,97,98]⟩ else if op=8 then ⟨#[100,97]⟩ else if op=11 then ⟨#[100,97]⟩
 else if op=9 then ⟨#[97,98]⟩ else if op=10 then ⟨#[97]⟩ else if op=12 then ⟨#[97]⟩ else if op=13 then ⟨#[100]⟩ else ⟨#[]⟩
theorem ret_string {a b:ByteArray} (h:a=b):Ending.returned (.string a)=.returned (.string b):=by rw [h]
set_option maxHeartbeats 1000000 in
theorem l1Uses_any (op:Int) (w:World) :
  Calls Tryz.prog 50 #[.int .i64 op] w fun e w'=>e=.returned (.string (usesS op))∧w'=w:=by
 by_cases h:1≤op∧op≤13
 ·have hc:op=1∨op=2∨op=3∨op=4∨op=5∨op=6∨op=7∨op=8∨op=9∨op=10∨op=11∨op=12∨op=13:=by omega
  rcases hc with rfl | rfl | rfl | rfl | rfl | rfl | rfl | rfl | rfl | rfl | rfl | rfl | rfl
  all_goals
   clear h
   go_enter Tryz.func50,Tryz.ntmps50
   go_wp2
   go_ret
   exact ⟨rfl,rfl⟩
 ·have h1:(op==1)=false:=by simp;omega
  have h2:(op==2)=false:=by simp;omega
  have h3:(op==3)=false:=by simp;omega
  have h4:(op==4)=false:=by simp;omega
  have h5:(op==5)=false:=by simp;omega
  have h6:(op==6)=false:=by simp;omega
  have h7:(op==7)=false:=by simp;omega
  have h8:(op==8)=false:=by simp;omega
  have h9:(op==9)=false:=by simp;omega
  have h10:(op==10)=false:=by simp;omega
  have h11:(op==11)=false:=by simp;omega
  have h12:(op==12)=false:=by simp;omega
  have h13:(op==13)=false:=by simp;omega
  have hu:Hid (usesS op=⟨#[]⟩):=by
   show _=_
   unfold usesS
   rw [if_neg (by omega),if_neg (by omega),if_neg (by omega),if_neg (by omega),if_neg (by omega),if_neg (by omega),if_neg (by omega),if_neg (by omega),if_neg (by omega)]
  clear h
  go_enter Tryz.func50,Tryz.ntmps50
  go_wp2
  go_ret
  exact ⟨ret_string hu.out.symm,rfl⟩
def hasB (s:ByteArray) (f:Int):Bool:=s.data.toList.any fun c=>(c.toNat:Int)==f
theorem hasB_yes {s:ByteArray} {f:Int} {k:Nat} (hk:k<s.size) (h:(s[k].toNat:Int)=f):hasB s f=true:=by
 unfold hasB
 rw [List.any_eq_true]
 exact ⟨s[k],by rw [Array.mem_toList_iff];exact Array.getElem_mem hk,by simp [h]⟩
theorem hasB_no {s:ByteArray} {f:Int} (h:∀j (hj:j<s.size),(s[j].toNat:Int)≠f):hasB s f=false:=by
 unfold hasB
 rw [List.any_eq_false]
 intro c hc
 obtain ⟨j,hj,rfl⟩:=Array.mem_iff_getElem.1 (Array.mem_toList_iff.1 hc)
 have:=h j hj
 rw [beq_iff_eq]
 exact this
theorem usesS_size (op:Int):(usesS op).size≤3:=by
 unfold usesS
 repeat (split<;>try decide)
set_option maxHeartbeats 400000 in
theorem l1Used_any (op f:Int) (w:World) :
  Calls Tryz.prog 23 #[.int .i64 op,.int .u8 f] w fun e w'=>e=.returned (.bool (hasB (usesS op) f))∧w'=w:=by
 go_enter Tryz.func23,Tryz.ntmps23
 go_wp2_with fail
 refine (l1Uses_any _ _).mono ?_
 rintro e w1 ⟨rfl,rfl⟩
 have hs:=usesS_size op
 generalize hS:usesS op=s at *
 have HS:=hide hS
 clear hS
 go_wp2
 go_loop [6] (fun i=>∃k:Nat,k≤s.size∧i=.int .i64 k∧Hid (∀j (hj:j<s.size),j<k→(s[j].toNat:Int)≠f)) (fun i=>s.size-(intOf i).toNat)
 case atStart=>exact ⟨0,Nat.zero_le _,rfl,fun j hj h=>absurd h (by omega)⟩
 case round =>
  obtain ⟨k,hk,rfl,hno⟩:=hrel
  by_cases hlt:k<s.size
  ·by_cases he:(s[k].toNat:Int)=f
   ·have hb:((s[k].toNat:Int)==f)=true:=by simp [he]
    have HE:=hide he
    clear he
    go_wp2
    go_ret
    exact ⟨ret_bool (by rw [unhide HS];exact (hasB_yes hlt HE.out).symm),rfl⟩
   ·have hb:((s[k].toNat:Int)==f)=false:=by simp [he]
    have HE:=hide he
    clear he
    go_wp2
    go_round
    case rel=>exact ⟨k+1,by omega,by go_num,fun j hj h=>if e:j=k then by subst e;exact HE.out else hno.out j hj (by omega)⟩
    case measure=>simp [intOf];omega
  ·go_wp2
   go_ret
   exact ⟨ret_bool (by rw [unhide HS];exact (hasB_no fun j hj=>hno.out j hj (by omega)).symm),rfl⟩
theorem hasB_d (op:Int):hasB (usesS op) 100=dB op:=by
 by_cases h:1≤op∧op≤13
 ·have hc:op=1∨op=2∨op=3∨op=4∨op=5∨op=6∨op=7∨op=8∨op=9∨op=10∨op=11∨op=12∨op=13:=by omega
  rcases hc with rfl | rfl | rfl | rfl | rfl | rfl | rfl | rfl | rfl | rfl | rfl | rfl | rfl<;>rfl
 ·unfold usesS
  rw [if_neg (by omega),if_neg (by omega),if_neg (by omega),if_neg (by omega),if_neg (by omega),if_neg (by omega),if_neg (by omega),if_neg (by omega),if_neg (by omega)]
  simp only [hasB,dB]
  rw [decide_eq_false (by omega),decide_eq_false (by omega),decide_eq_false (by omega)]
  rfl
theorem hasB_a (op:Int):hasB (usesS op) 97=aB op:=by
 by_cases h:1≤op∧op≤13
 ·have hc:op=1∨op=2∨op=3∨op=4∨op=5∨op=6∨op=7∨op=8∨op=9∨op=10∨op=11∨op=12∨op=13:=by omega
  rcases hc with rfl | rfl | rfl | rfl | rfl | rfl | rfl | rfl | rfl | rfl | rfl | rfl | rfl<;>rfl
 ·unfold usesS
  rw [if_neg (by omega),if_neg (by omega),if_neg (by omega),if_neg (by omega),if_neg (by omega),if_neg (by omega),if_neg (by omega),if_neg (by omega),if_neg (by omega)]
  simp only [hasB,aB]
  rw [decide_eq_false (by omega)]
  rfl
theorem hasB_b (op:Int):hasB (usesS op) 98=bB op:=by
 by_cases h:1≤op∧op≤13
 ·have hc:op=1∨op=2∨op=3∨op=4∨op=5∨op=6∨op=7∨op=8∨op=9∨op=10∨op=11∨op=12∨op=13:=by omega
  rcases hc with rfl | rfl | rfl | rfl | rfl | rfl | rfl | rfl | rfl | rfl | rfl | rfl | rfl<;>rfl
 ·unfold usesS
  rw [if_neg (by omega),if_neg (by omega),if_neg (by omega),if_neg (by omega),if_neg (by omega),if_neg (by omega),if_neg (by omega),if_neg (by omega),if_neg (by omega)]
  simp only [hasB,bB]
  rw [decide_eq_false (by omega),decide_eq_false (by omega)]
  rfl
theorem usedD (op:Int) (w:World):Calls Tryz.prog 23 #[.int .i64 op,.int .u8 100] w fun e w'=>e=.returned (.bool (dB op))∧w'=w:=by rw [←hasB_d];exact l1Used_any op 100 w
theorem usedA (op:Int) (w:World):Calls Tryz.prog 23 #[.int .i64 op,.int .u8 97] w fun e w'=>e=.returned (.bool (aB op))∧w'=w:=by rw [←hasB_a];exact l1Used_any op 97 w
theorem usedB (op:Int) (w:World):Calls Tryz.prog 23 #[.int .i64 op,.int .u8 98] w fun e w'=>e=.returned (.bool (bB op))∧w'=w:=by rw [←hasB_b];exact l1Used_any op 98 w
end Go.Proofs.YthgikffcdgpgiaaGreatDoor

namespace Go.Proofs.YthgikffcdgpgiaaGreatDoor
open Go.RowKit
variable {w w1 : World} {L B b t N : Nat} {f : Nat → Value}
theorem heap_setCells (b:Nat):∀(vs:List Value) (o:Nat) (w:World) (k:Nat),k≠b→(w.setCells b o vs).heap[k]?=w.heap[k]?
 | [],_,_,_,_=>rfl
 | v::r,o,w,k,h=>by rw [World.setCells,heap_setCells b r _ _ _ h,Below.heap_setCell _ _ _ _ h]
theorem size_setCells (b:Nat):∀(vs:List Value) (o:Nat) (w:World),(w.setCells b o vs).heap.size=w.heap.size
 | [],_,_=>rfl
 | v::r,o,w=>by rw [World.setCells,size_setCells b r];simp [World.setCell]
theorem below_setCells (b:Nat):∀(vs:List Value) (o:Nat) (w w1:World),Below B w w1→B≤b→Below B w (w1.setCells b o vs)
 | [],_,_,_,h,_=>h
 | v::r,o,w,w1,h,hb=>by rw [World.setCells];exact below_setCells b r _ _ _ (h.setCell hb v) hb
theorem rowIs_setCells:∀(vs:List Value) (o:Nat) (w:World) (f:Nat→Value),w.rowIs b t N f→∃g,(w.setCells b o vs).rowIs b t N g
 | [],_,_,f,h=>⟨f,h⟩
 | v::r,o,w,_,h=>by rw [World.setCells];exact rowIs_setCells r _ _ _ (h.set o v)
theorem there_of_row (hr:w.rowIs b t N f) {o m:Nat} (h:o+m≤N):w.there b o m:=fun j hj=>⟨by rw [hr.cell (by omega)];rfl,hr.frozen _⟩
theorem same_setCells (h:Same L B w w1) (vs:List Value) (o:Nat) (hb:b<L∨B≤b):Same L B w (w1.setCells b o vs):=fun k h1 h2=>by
 rw [heap_setCells _ _ _ _ _ (by omega)];exact h k h1 h2
theorem Same.refl (L B:Nat) (w:World):Same L B w w:=fun _ _ _=>rfl
theorem Same.setCell (h:Same L B w w1) {p:Addr} (hp:p.block<L∨B≤p.block) (v:Value):Same L B w (w1.setCell p v):=fun k h1 h2=>by
 rw [Below.heap_setCell _ _ _ _ (by omega)];exact h k h1 h2
theorem size_setCell (w:World) (p:Addr) (v:Value):(w.setCell p v).heap.size=w.heap.size:=by simp [World.setCell]
theorem insAt_range {o:Nat} {x:Ins}:InsAt w b o x↔w.rangeAt b o x.cells:=by
 constructor
 ·rintro ⟨h0,h1,h2,h3,h4⟩ j v hv
  match j,hv with
  | 0,hv=>simp [Ins.cells] at hv;subst hv;exact h0
  | 1,hv=>simp [Ins.cells] at hv;subst hv;exact h1
  | 2,hv=>simp [Ins.cells] at hv;subst hv;exact h2
  | 3,hv=>simp [Ins.cells] at hv;subst hv;exact h3
  | 4,hv=>simp [Ins.cells] at hv;subst hv;exact h4
  | n+5,hv=>simp [Ins.cells] at hv
 ·intro h
  exact ⟨h 0 _ rfl,h 1 _ rfl,h 2 _ rfl,h 3 _ rfl,h 4 _ rfl⟩
theorem InsAt.apart {o o':Nat} {x:Ins} (h:InsAt w b o x) (vs:List Value) (hap:o+5≤o'∨o' + vs.length≤o):InsAt (w.setCells b o' vs) b o x :=
 insAt_range.2 (World.rangeAt_setCells_apart (insAt_range.1 h) b o' vs (by simp only [Ins.cells,List.length_cons,List.length_nil];omega))
theorem out_cell {o o':Nat} {vs:List Value} (hap:o<o'∨o' + vs.length≤o):(w.setCells b o' vs).cell? ⟨b,o,none⟩=w.cell? ⟨b,o,none⟩ :=
 World.cell?_setCells_out b vs o' w ⟨b,o,none⟩ (fun _ _=>hap)
theorem PhAt.apart {o o':Nat} {x:Ph} (h:PhAt w L B b o x) (hb:b<L) (vs:List Value) (hap:o+2≤o'∨o' + vs.length≤o):PhAt (w.setCells b o' vs) L B b o x:=by
 obtain ⟨a,c,h0,h1,h2⟩:=h
 exact ⟨a,c,(out_cell (by omega)).trans h0,(out_cell (by omega)).trans h1,h2.keepS (same_setCells (Same.refl _ _ _) _ _ (Or.inl hb))⟩
theorem TerAt.apart {o o':Nat} {x:Ter} (h:TerAt w b o x) (vs:List Value) (hap:o+4≤o'∨o' + vs.length≤o):TerAt (w.setCells b o' vs) b o x:=by
 obtain ⟨h0,h1,h2,h3⟩:=h
 exact ⟨(out_cell (by omega)).trans h0,(out_cell (by omega)).trans h1,(out_cell (by omega)).trans h2,(out_cell (by omega)).trans h3⟩
theorem BlkAt.apart {o o':Nat} {x:Blk} (h:BlkAt w L B b o x) (hb:b<L) (vs:List Value) (hap:o+6≤o'∨o' + vs.length≤o):BlkAt (w.setCells b o' vs) L B b o x:=by
 obtain ⟨pa,pc,ia,ic,h0,h1,h2,h3,h4⟩:=h
 exact ⟨pa,pc,ia,ic,(out_cell (by omega)).trans h0,(out_cell (by omega)).trans h1,h2.apart _ (by omega),h3.keepS (same_setCells (Same.refl _ _ _) _ _ (Or.inl hb)),h4.keepS (same_setCells (Same.refl _ _ _) _ _ (Or.inl hb))⟩
theorem in_cell (hr:w.rowIs b t N f) {o:Nat} {vs:List Value} (h:o+vs.length≤N) (j:Nat) (v:Value) (hv:vs[j]?=some v):(w.setCells b o vs).cell? ⟨b,o+j,none⟩=some v :=
 World.rangeAt_setCells_same w b o vs (there_of_row hr h) j v hv
theorem ins_step (hr:w.rowIs b t N f) (xs:List Ins) (k:Nat) (hk:k<xs.length) (hN:xs.length*5≤N) (old:∀j (h:j<xs.length),j<k→InsAt w b (j*5) xs[j]) :
  ∀j (h:j<xs.length),j<k+1→InsAt (w.setCells b (k*5) xs[k].cells) b (j*5) xs[j]:=fun j h hj=>by
 by_cases e:j=k
 ·subst e
  exact insAt_range.2 (World.rangeAt_setCells_same w b _ _ (there_of_row hr (by simp only [Ins.cells,List.length_cons,List.length_nil];omega)))
 ·exact (old j h (by omega)).apart _ (by omega)
theorem ph_step (hr:w.rowIs b t N f) (hb:b<L) (xs:List Ph) (k:Nat) (hk:k<xs.length) (hN:xs.length*2≤N) (old:∀j (h:j<xs.length),j<k→PhAt w L B b (j*2) xs[j])
  (a:Option Addr) (c:Nat) (hi:IntsAt w L B a xs[k].args) :
  ∀j (h:j<xs.length),j<k+1→PhAt (w.setCells b (k*2) [.int .i64 xs[k].dst,.slice a xs[k].args.length c]) L B b (j*2) xs[j]:=fun j h hj=>by
 by_cases e:j=k
 ·subst e
  exact ⟨a,c,in_cell hr (by simp only [List.length_cons,List.length_nil];omega) 0 _ rfl,in_cell hr (by simp only [List.length_cons,List.length_nil];omega) 1 _ rfl,hi.keepS (same_setCells (Same.refl _ _ _) _ _ (Or.inl hb))⟩
 ·exact (old j h (by omega)).apart hb _ (by simp only [List.length_cons,List.length_nil];omega)
theorem blk_step (hr:w.rowIs b t N f) (hb:b<L) (xs:List Blk) (k:Nat) (hk:k<xs.length) (hN:xs.length*6≤N) (old:∀j (h:j<xs.length),j<k→BlkAt w L B b (j*6) xs[j])
  (pa ia:Option Addr) (pc ic:Nat) (hp:PhsAt w L B pa xs[k].phis) (hi:InssAt w L B ia xs[k].instrs) :
  ∀j (h:j<xs.length),j<k+1→BlkAt (w.setCells b (k*6) [.slice pa xs[k].phis.length pc,.slice ia xs[k].instrs.length ic,.int .i64 xs[k].term.kind,.int .i64 xs[k].term.a,.int .i64 xs[k].term.to,.int .i64 xs[k].term.els]) L B b (j*6) xs[j]:=fun j h hj=>by
 by_cases e:j=k
 ·subst e
  have hc:=in_cell (w:=w) hr (o:=j*6) (vs:=[.slice pa xs[j].phis.length pc,.slice ia xs[j].instrs.length ic,.int .i64 xs[j].term.kind,.int .i64 xs[j].term.a,.int .i64 xs[j].term.to,.int .i64 xs[j].term.els]) (by simp only [List.length_cons,List.length_nil];omega)
  exact ⟨pa,pc,ia,ic,hc 0 _ rfl,hc 1 _ rfl,⟨hc 2 _ rfl,hc 3 _ rfl,hc 4 _ rfl,hc 5 _ rfl⟩,hp.keepS (same_setCells (Same.refl _ _ _) _ _ (Or.inl hb)),hi.keepS (same_setCells (Same.refl _ _ _) _ _ (Or.inl hb))⟩
 ·exact (old j h (by omega)).apart hb _ (by simp only [List.length_cons,List.length_nil];omega)
end Go.Proofs.YthgikffcdgpgiaaGreatDoor

namespace Go.Proofs.YthgikffcdgpgiaaGreatDoor
open Go.RowKit
set_option maxHeartbeats 400000 in
theorem targetsS_any (t:Ter) (w:World) :
  Calls Tryz.prog 77 #[.agg #[.int .i64 t.kind,.int .i64 t.a,.int .i64 t.to,.int .i64 t.els]] w fun e w'=>∃a c,e=.returned (.slice a t.targets.length c)∧Below w.heap.size w w'∧IntsAt w' w.heap.size w'.heap.size a t.targets:=by
 obtain ⟨kind,ta,to,els⟩:=t
 by_cases h1:kind=1
 ·subst h1
  go_enter Tryz.func77,Tryz.ntmps77
  go_wp2
  go_ret
  refine ⟨_,_,rfl,balloc (balloc (Below.refl _ _) _) _,fun i hi=>?_⟩
  simp [Ter.targets] at hi
  subst hi
  exact ⟨_,_,rfl,⟨by simp,by simp⟩,by simp [Ter.targets]⟩
 ·by_cases h2:kind=2
  ·subst h2
   go_enter Tryz.func77,Tryz.ntmps77
   go_wp2
   go_ret
   refine ⟨_,_,rfl,balloc (balloc (Below.refl _ _) _) _,fun i hi=>?_⟩
   simp [Ter.targets] at hi
   match i,hi with
   | 0,_=>exact ⟨_,_,rfl,⟨by simp,by simp⟩,by simp [Ter.targets]⟩
   | 1,_=>exact ⟨_,_,rfl,⟨by simp,by simp⟩,by simp [Ter.targets]⟩
  ·have e1:(kind==1)=false:=by simp [h1]
   have e2:(kind==2)=false:=by simp [h2]
   have hn:(Ter.targets ⟨kind,ta,to,els⟩)=[]:=by simp [Ter.targets,h1,h2]
   rw [hn]
   clear h1 h2 hn
   go_enter Tryz.func77,Tryz.ntmps77
   go_wp2
   go_ret
   exact ⟨_,_,rfl,balloc (balloc (Below.refl _ _) _) _,fun i hi=>absurd hi (by simp)⟩
end Go.Proofs.YthgikffcdgpgiaaGreatDoor

namespace Go.Proofs.YthgikffcdgpgiaaGreatDoor
open Go.RowKit
def inB (lo hi x:Int):Bool:=decide (lo≤x)&&decide (x<hi)
theorem terOk_1 (n lo bl a to els:Int):terOk n lo bl ⟨1,a,to,els⟩=(a==0&&inB lo bl to&&els==0):=by simp [terOk,fld,inB]
theorem terOk_2 (n lo bl a to els:Int):terOk n lo bl ⟨2,a,to,els⟩=(inB 0 n a&&inB lo bl to&&inB lo bl els):=by simp [terOk,fld,inB]
theorem terOk_3 (n lo bl a to els:Int):terOk n lo bl ⟨3,a,to,els⟩=(inB 0 n a&&to==0&&els==0):=by simp [terOk,fld,inB]
theorem terOk_no {n lo bl k a to els:Int} (h:¬(1≤k∧k≤3)):terOk n lo bl ⟨k,a,to,els⟩=false:=by
 unfold terOk
 by_cases h1:1≤k
 ·rw [decide_eq_false (p:=k≤3) (by omega)];simp
 ·rw [decide_eq_false (p:=1≤k) h1];simp
theorem all_take_next {α:Type} {p:α→Bool} {xs:List α} {k:Nat} (hk:k<xs.length) (h:(xs.take k).all p=true) (hp:p xs[k]=true):(xs.take (k+1)).all p=true:=by
 rw [take_next xs k hk,List.all_append,h];simp [hp]
theorem all_no {α:Type} {p:α→Bool} {xs:List α} {k:Nat} (hk:k<xs.length) (hp:p xs[k]=false):xs.all p=false:=by
 rw [List.all_eq_false];exact ⟨_,List.getElem_mem hk,by simp [hp]⟩
theorem all_whole {α:Type} {p:α→Bool} {xs:List α} {k:Nat} (hk:xs.length≤k) (h:(xs.take k).all p=true):xs.all p=true:=by
 rwa [List.take_of_length_le hk] at h
set_option maxHeartbeats 1000000 in
theorem goodTerm_loop (kind ta to els n low bl:Int) (w:World) (ts:List Int) (R:Bool) (hts:Hid ((Ter.mk kind ta to els).targets=ts)) (hlen:ts.length≤2) (hk1:1≤kind) (hk3:kind≤3)
  (c1:Hid (kind=1→ta=0∧els=0)) (c3:Hid (kind=3→to=0∧els=0)) (c2:Hid (kind≠1→0≤ta∧ta<n)) (hR:Hid (ts.all (inB low bl)=R)) :
  Calls Tryz.prog 75 #[.agg #[.int .i64 kind,.int .i64 ta,.int .i64 to,.int .i64 els],.int .i64 n,.int .i64 low,.int .i64 bl] w fun e w'=>e=.returned (.bool R)∧Below w.heap.size w w':=by
 have hc:kind=1∨kind=2∨kind=3:=by omega
 have hb0:=hide hlen
 rcases hc with rfl | rfl | rfl
 ·obtain ⟨rfl,rfl⟩:=c1.out rfl
  clear c1 c2 c3
  go_enter Tryz.func75,Tryz.ntmps75
  go_wp2_with (go_at_call 77;refine (targetsS_any ⟨_,_,_,_⟩ _).mono ?_;rintro e w1 ⟨a,c,rfl,hb1,hi1⟩;rw [unhide hts] at hi1 ⊢;have HI:=hide hi1;clear hi1)
  go_loop [10] (fun i=>∃k:Nat,k≤ts.length∧i=.int .i64 k∧Hid ((ts.take k).all (inB low bl)=true)) (fun i=>ts.length-(intOf i).toNat)
  case atStart=>exact ⟨0,Nat.zero_le _,rfl,rfl⟩
  case round =>
   obtain ⟨k,hk,rfl,hall⟩:=hrel
   by_cases hlt:k<ts.length
   ·obtain ⟨b,o,rfl,_,hc⟩:=HI.out k hlt
    by_cases hx:low≤ts[k]∧ts[k]<bl
    ·obtain ⟨hx1,hx2⟩:=hx
     go_wp2
     go_round
     case rel=>exact ⟨k+1,by omega,by go_num,all_take_next hlt hall.out (by simp [inB,hx1,hx2])⟩
     case measure=>simp [intOf];omega
    ·go_wp2
     all_goals
      go_ret
      exact ⟨ret_bool (by rw [←hR.out];exact (all_no hlt (by unfold inB;rw [Bool.and_eq_false_iff,decide_eq_false_iff_not,decide_eq_false_iff_not];omega)).symm),bnext (balloc (Below.refl _ _) _) hb1⟩
   ·go_wp2
    go_ret
    exact ⟨ret_bool (by rw [←hR.out];exact (all_whole (by omega) hall.out).symm),bnext (balloc (Below.refl _ _) _) hb1⟩
 ·obtain ⟨d1,d2⟩:=c2.out (by decide)
  clear c1 c2 c3
  go_enter Tryz.func75,Tryz.ntmps75
  go_wp2_with (go_at_call 77;refine (targetsS_any ⟨_,_,_,_⟩ _).mono ?_;rintro e w1 ⟨a,c,rfl,hb1,hi1⟩;rw [unhide hts] at hi1 ⊢;have HI:=hide hi1;clear hi1)
  go_loop [10] (fun i=>∃k:Nat,k≤ts.length∧i=.int .i64 k∧Hid ((ts.take k).all (inB low bl)=true)) (fun i=>ts.length-(intOf i).toNat)
  case atStart=>exact ⟨0,Nat.zero_le _,rfl,rfl⟩
  case round =>
   obtain ⟨k,hk,rfl,hall⟩:=hrel
   by_cases hlt:k<ts.length
   ·obtain ⟨b,o,rfl,_,hc⟩:=HI.out k hlt
    by_cases hx:low≤ts[k]∧ts[k]<bl
    ·obtain ⟨hx1,hx2⟩:=hx
     go_wp2
     go_round
     case rel=>exact ⟨k+1,by omega,by go_num,all_take_next hlt hall.out (by simp [inB,hx1,hx2])⟩
     case measure=>simp [intOf];omega
    ·go_wp2
     all_goals
      go_ret
      exact ⟨ret_bool (by rw [←hR.out];exact (all_no hlt (by unfold inB;rw [Bool.and_eq_false_iff,decide_eq_false_iff_not,decide_eq_false_iff_not];omega)).symm),bnext (balloc (Below.refl _ _) _) hb1⟩
   ·go_wp2
    go_ret
    exact ⟨ret_bool (by rw [←hR.out];exact (all_whole (by omega) hall.out).symm),bnext (balloc (Below.refl _ _) _) hb1⟩
 ·obtain ⟨d1,d2⟩:=c2.out (by decide)
  obtain ⟨rfl,rfl⟩:=c3.out rfl
  clear c1 c2 c3
  go_enter Tryz.func75,Tryz.ntmps75
  go_wp2_with (go_at_call 77;refine (targetsS_any ⟨_,_,_,_⟩ _).mono ?_;rintro e w1 ⟨a,c,rfl,hb1,hi1⟩;rw [unhide hts] at hi1 ⊢;have HI:=hide hi1;clear hi1)
  go_loop [10] (fun i=>∃k:Nat,k≤ts.length∧i=.int .i64 k∧Hid ((ts.take k).all (inB low bl)=true)) (fun i=>ts.length-(intOf i).toNat)
  case atStart=>exact ⟨0,Nat.zero_le _,rfl,rfl⟩
  case round =>
   obtain ⟨k,hk,rfl,hall⟩:=hrel
   by_cases hlt:k<ts.length
   ·have:=hts.out
    simp [Ter.targets] at this
    subst this
    simp at hlt
   ·go_wp2
    go_ret
    exact ⟨ret_bool (by rw [←hR.out];exact (all_whole (by omega) hall.out).symm),bnext (balloc (Below.refl _ _) _) hb1⟩
set_option maxHeartbeats 1000000 in
theorem goodTerm_no (kind ta to els n low bl:Int) (w:World) (h:¬(1≤kind∧kind≤3)∨(kind=1∧¬(ta=0∧els=0))∨(kind=3∧¬(to=0∧els=0))∨(1≤kind∧kind≤3∧kind≠1∧¬(0≤ta∧ta<n))) :
  Calls Tryz.prog 75 #[.agg #[.int .i64 kind,.int .i64 ta,.int .i64 to,.int .i64 els],.int .i64 n,.int .i64 low,.int .i64 bl] w fun e w'=>e=.returned (.bool false)∧Below w.heap.size w w':=by
 by_cases hk:1≤kind∧kind≤3
 ·have hc:kind=1∨kind=2∨kind=3:=by omega
  rcases hc with rfl | rfl | rfl
  ·have h1:¬(ta=0∧els=0):=by omega
   clear h hk
   by_cases h2:ta=0
   ·subst h2
    have h3:(els != 0)=true:=by simp at h1;simp [h1]
    clear h1
    go_enter Tryz.func75,Tryz.ntmps75
    go_wp2
    go_ret
    exact ⟨rfl,balloc (Below.refl _ _) _⟩
   ·have h3:(ta != 0)=true:=by simp [h2]
    clear h1 h2
    go_enter Tryz.func75,Tryz.ntmps75
    go_wp2
    go_ret
    exact ⟨rfl,balloc (Below.refl _ _) _⟩
  ·have h1:ta<0∨n≤ta:=by omega
   clear h hk
   go_enter Tryz.func75,Tryz.ntmps75
   go_wp2
   all_goals
    go_ret
    exact ⟨rfl,balloc (Below.refl _ _) _⟩
  ·by_cases h1:to=0∧els=0
   ·obtain ⟨rfl,rfl⟩:=h1
    have h1:ta<0∨n≤ta:=by omega
    clear h hk
    go_enter Tryz.func75,Tryz.ntmps75
    go_wp2
    all_goals
     go_ret
     exact ⟨rfl,balloc (Below.refl _ _) _⟩
   ·clear h hk
    by_cases h2:to=0
    ·subst h2
     have h3:(els != 0)=true:=by simp at h1;simp [h1]
     clear h1
     go_enter Tryz.func75,Tryz.ntmps75
     go_wp2
     go_ret
     exact ⟨rfl,balloc (Below.refl _ _) _⟩
    ·have h3:(to != 0)=true:=by simp [h2]
     clear h1 h2
     go_enter Tryz.func75,Tryz.ntmps75
     go_wp2
     go_ret
     exact ⟨rfl,balloc (Below.refl _ _) _⟩
 ·have h1:kind<1∨3<kind:=by omega
  clear h hk
  go_enter Tryz.func75,Tryz.ntmps75
  go_wp2
  all_goals
   go_ret
   exact ⟨rfl,balloc (Below.refl _ _) _⟩
theorem goodTerm_any (kind ta to els n low bl:Int) (w:World) :
  Calls Tryz.prog 75 #[.agg #[.int .i64 kind,.int .i64 ta,.int .i64 to,.int .i64 els],.int .i64 n,.int .i64 low,.int .i64 bl] w fun e w'=>e=.returned (.bool (terOk n low bl ⟨kind,ta,to,els⟩))∧Below w.heap.size w w':=by
 by_cases hk:1≤kind∧kind≤3
 ·have hc:kind=1∨kind=2∨kind=3:=by omega
  rcases hc with rfl | rfl | rfl
  ·rw [terOk_1]
   by_cases h:ta=0∧els=0
   ·exact goodTerm_loop 1 ta to els n low bl w [to] _ rfl (by simp) (by decide) (by decide) (fun _=>h) (fun e=>by omega) (fun e=>absurd rfl e) (by obtain ⟨rfl,rfl⟩:=h;show _=_;simp)
   ·have e:(ta==0&&inB low bl to&&els==0)=false:=by
     by_cases h1:ta=0
     ·have:els≠0:=fun e=>h ⟨h1,e⟩
      simp [this]
     ·simp [h1]
    rw [e]
    exact goodTerm_no 1 ta to els n low bl w (Or.inr (Or.inl ⟨rfl,h⟩))
  ·rw [terOk_2]
   by_cases h:0≤ta∧ta<n
   ·exact goodTerm_loop 2 ta to els n low bl w [to,els] _ rfl (by simp) (by decide) (by decide) (fun e=>by omega) (fun e=>by omega) (fun _=>h) (by show _=_;simp [inB,h.1,h.2])
   ·have e:inB 0 n ta=false:=by unfold inB;rw [Bool.and_eq_false_iff,decide_eq_false_iff_not,decide_eq_false_iff_not];omega
    rw [e]
    exact goodTerm_no 2 ta to els n low bl w (by omega)
  ·rw [terOk_3]
   by_cases h:0≤ta∧ta<n
   ·by_cases h2:to=0∧els=0
    ·exact goodTerm_loop 3 ta to els n low bl w [] _ rfl (by simp) (by decide) (by decide) (fun e=>by omega) (fun _=>h2) (fun _=>h) (by obtain ⟨rfl,rfl⟩:=h2;show _=_;simp [inB,h.1,h.2])
    ·have e:(inB 0 n ta&&to==0&&els==0)=false:=by
      by_cases h1:to=0
      ·have:els≠0:=fun e=>h2 ⟨h1,e⟩
       simp [this]
      ·simp [h1]
     rw [e]
     exact goodTerm_no 3 ta to els n low bl w (by omega)
   ·have e:inB 0 n ta=false:=by unfold inB;rw [Bool.and_eq_false_iff,decide_eq_false_iff_not,decide_eq_false_iff_not];omega
    rw [e]
    exact goodTerm_no 3 ta to els n low bl w (by omega)
 ·rw [terOk_no hk]
  exact goodTerm_no kind ta to els n low bl w (Or.inl hk)
end Go.Proofs.YthgikffcdgpgiaaGreatDoor

namespace Go.Proofs.YthgikffcdgpgiaaGreatDoor
open Go.RowKit
def hasI (xs:List Int) (x:Int):Bool:=xs.contains x
set_option maxHeartbeats 400000 in
theorem l1Has_any (a:Option Addr) (n c:Nat) (x:Int) (xs:List Int) (L B:Nat) (w:World) (ha:Hid (IntsAt w L B a xs)) (hx:Hid (n=xs.length)) (hn:n≤1048576) :
  Calls Tryz.prog 43 #[.slice a n c,.int .i64 x] w fun e w'=>e=.returned (.bool (hasI xs x))∧w'=w:=by
 go_enter Tryz.func43,Tryz.ntmps43
 go_wp2
 go_loop [5] (fun i=>∃k:Nat,k≤n∧i=.int .i64 k∧Hid (∀j (h:j<xs.length),j<k→xs[j]≠x)) (fun i=>n-(intOf i).toNat)
 case atStart=>exact ⟨0,Nat.zero_le _,rfl,fun j hj h=>absurd h (by omega)⟩
 case round =>
  obtain ⟨k,hk,rfl,hno⟩:=hrel
  by_cases hlt:k<n
  ·have hkx:k<xs.length:=by have:=hx.out;omega
   obtain ⟨b,o,rfl,_,hc⟩:=ha.out k hkx
   by_cases he:xs[k]=x
   ·have hb:(xs[k]==x)=true:=by simp [he]
    have HE:=hide he
    clear he
    go_wp2
    go_ret
    exact ⟨ret_bool (by unfold hasI;rw [eq_comm,List.contains_iff_mem,←HE.out];exact List.getElem_mem hkx),rfl⟩
   ·have hb:(xs[k]==x)=false:=by simp [he]
    have HE:=hide he
    clear he
    go_wp2
    go_round
    case rel=>exact ⟨k+1,by omega,by go_num,fun j hj h=>if e:j=k then by subst e;exact HE.out else hno.out j hj (by omega)⟩
    case measure=>simp [intOf];omega
  ·go_wp2
   go_ret
   exact ⟨ret_bool (by
    rw [eq_comm,Bool.eq_false_iff]
    intro hc
    obtain ⟨j,hj,e⟩:=List.getElem_of_mem (List.contains_iff_mem.1 (show xs.contains x=true from hc))
    exact hno.out j hj (by have:=hx.out;omega) e),rfl⟩
theorem targets_has (t:Ter) (b:Int):t.targets.contains b=true↔(t.kind=1∧t.to=b)∨(t.kind=2∧(t.to=b∨t.els=b)):=by
 unfold Ter.targets
 by_cases h1:t.kind=1
 ·rw [if_pos h1]
  simp only [h1,true_and,List.contains_iff_mem,List.mem_singleton]
  constructor
  ·intro h;exact Or.inl h.symm
  ·rintro (h | ⟨h,_⟩)
   ·exact h.symm
   ·omega
 ·rw [if_neg h1]
  by_cases h2:t.kind=2
  ·rw [if_pos h2]
   simp only [h2,true_and,List.contains_iff_mem,List.mem_cons,List.not_mem_nil,or_false]
   constructor
   ·rintro (h | h)
    ·exact Or.inr (Or.inl h.symm)
    ·exact Or.inr (Or.inr h.symm)
   ·rintro (⟨h,_⟩ | h | h)
    ·omega
    ·exact Or.inl h.symm
    ·exact Or.inr h.symm
  ·rw [if_neg h2]
   simp [h1,h2]
theorem predsFrom_snoc (x:Blk) (b:Int):∀(xs:List Blk) (i:Nat),predsFrom (xs++[x]) i b=predsFrom xs i b++(if x.term.targets.contains b then [((i+xs.length:Nat):Int)] else [])
 | [],i=>by simp [predsFrom]
 | y::ys,i=>by
  simp only [List.cons_append,predsFrom]
  have e:i+1+ys.length=i+(ys.length+1):=by omega
  rw [predsFrom_snoc x b ys (i+1),List.append_assoc,e,List.length_cons]
theorem predsFrom_len (b:Int):∀(xs:List Blk) (i:Nat),(predsFrom xs i b).length≤xs.length
 | [],_=>Nat.le_refl _
 | y::ys,i=>by
  simp only [predsFrom,List.length_append,List.length_cons]
  have:=predsFrom_len b ys (i+1)
  split<;>simp<;>omega
theorem ints_owned {w:World} {base e:Nat} {v:Value} {n:Nat} {xs:List Int} (h:w.ownsRow base e 1 v n (xs.map (Value.int .i64))):∃a c,v=.slice a xs.length c∧IntsAt w base w.heap.size a xs:=by
 obtain ⟨hl,h | ⟨g,cap,cur,rfl,hg,hh,hc,_,hs,ht⟩⟩:=h
 ·obtain ⟨rfl,rfl⟩:=h
  have:xs=[]:=by simpa using hl
  subst this
  exact ⟨_,_,rfl,fun i hi=>absurd hi (by simp)⟩
 ·simp only [Nat.mul_one,List.length_map] at hl hs ht
  subst hl
  refine ⟨_,_,rfl,fun i hi=>⟨g,0,rfl,⟨hg,?_⟩,?_⟩⟩
  ·exact (Array.getElem?_eq_some_iff.1 hh).1
  ·have h1:(cur.toList.take xs.length)[i]?=some (Value.int .i64 xs[i]):=by rw [ht];simp [hi]
   rw [List.getElem?_take_of_lt hi] at h1
   simp only [World.cell?,hh,Nat.zero_add]
   simpa using h1
theorem Tryz.info2':(Tryz.prog.info? 2).map (fun i=>(i.zero,i.size,i.bytes))=some (some (.int .i64 0),1,8):=by kernel_rfl
theorem grown_block {W w':World} {base e s:Nat} {u:Value} {n:Nat} {xs:List Value} (hg:W.grownBy w' u.ownBlock) (ho:W.ownsRow base e s u n xs) {b:Nat} (hb:b<base) (hz:b<W.heap.size):w'.heap[b]?=W.heap[b]? :=
 hg.block b hz (fun h=>by have:=(ho.lt b h.symm).1;omega)
theorem grown_below {w W w':World} {B base e s:Nat} {u:Value} {n:Nat} {xs:List Value} (h:Below B w W) (hg:W.grownBy w' u.ownBlock) (ho:W.ownsRow base e s u n xs) (hb:B≤base) (hz:B≤W.heap.size):Below B w w' :=
 h.grown hg hz (fun k hk=>by have:=(ho.lt k hk).1;omega)
theorem own_empty (w:World) (o:Obj):((w.alloc o).alloc (.cells #[] 2)).ownsRow (w.heap.size+1) 2 1 (.slice (some ⟨w.heap.size+1,0,none⟩) 0 0) 0 []:=by
 have h:=World.ownsRow_lit (base:=w.heap.size+1) (e:=2) (size:=1) (w.alloc o) #[] 0 (by simp) (by simp) rfl
 rw [World.size_alloc] at h
 exact h
theorem ints_snoc (xs:List Int) (x:Int):(xs++[x]).map (Value.int .i64)=xs.map (Value.int .i64)++[.int .i64 x]:=by simp
set_option maxHeartbeats 1000000 in
theorem l1Preds_any (v:Int) (a:Option Addr) (n c:Nat) (q:Int) (xs:List Blk) (L B:Nat) (w:World) (ha:Hid (BlksAt w L B a xs)) (hx:Hid (n=xs.length)) (hn:n≤1048576) (hB:B≤w.heap.size) :
  Calls Tryz.prog 42 #[.agg #[.int .i64 v,.slice a n c],.int .i64 q] w fun e w'=>∃a' c',e=.returned (.slice a' (predsFrom xs 0 q).length c')∧Below w.heap.size w w'∧IntsAt w' w.heap.size w'.heap.size a' (predsFrom xs 0 q):=by
 obtain ⟨i0,hi0,hz0,hz1,hz2⟩:=info_parts Tryz.info2'
 go_enter Tryz.func42,Tryz.ntmps42
 go_wp2
 go_loopw [5,6] (fun u i wr=>∃k:Nat,k≤n∧i=.int .i64 k∧Below w.heap.size w wr∧w.heap.size<wr.heap.size∧wr.cell? ⟨w.heap.size,1,none⟩=some (.slice a n c)∧wr.ownsRow (w.heap.size+1) 2 1 u (predsFrom (xs.take k) 0 q).length ((predsFrom (xs.take k) 0 q).map (Value.int .i64))) (fun _ i _=>n-(intOf i).toNat)
 case atStart=>exact ⟨0,Nat.zero_le _,rfl,balloc (balloc (Below.refl _ _) _) _,by simp;omega,by simp,own_empty _ _⟩
 case round =>
  obtain ⟨k,hk,rfl,hw,hsz,hcell,hown⟩:=hrel
  by_cases hlt:k<n
  ·have hkx:k<xs.length:=by have:=hx.out;omega
   obtain ⟨b,o,rfl,⟨_,hbB⟩,hc⟩:=ha.out k hkx
   obtain ⟨pa,pc,ia,ic,_,_,⟨e2,e3,e4,e5⟩,_,_⟩:=hc.keep (hw.mono hB) (by omega)
   have hnx:Hid (predsFrom (xs.take (k+1)) 0 q=predsFrom (xs.take k) 0 q++(if xs[k].term.targets.contains q then [(k:Int)] else [])):=by
    show _=_
    rw [take_next _ _ hkx,predsFrom_snoc]
    simp [Nat.min_eq_left (Nat.le_of_lt hkx)]
   have hpl:(predsFrom (xs.take k) 0 q).length≤1048576:=by have:=predsFrom_len q (xs.take k) 0;simp at this;omega
   have HO:=hide hown
   clear hown hc
   have hth:=hide (targets_has xs[k].term q)
   generalize xs[k]=X at *
   by_cases hin:X.term.targets.contains q=true
   ·have HN:Hid (predsFrom (xs.take (k+1)) 0 q=predsFrom (xs.take k) 0 q++[(k:Int)]):=by have:=hnx.out;rw [if_pos hin] at this;exact this
    have hcs:=hth.out.1 hin
    clear hin hnx hth
    generalize predsFrom (xs.take k) 0 q=ps at *
    have hcs':(X.term.kind=1∧X.term.to=q)∨(X.term.kind=2∧X.term.to=q)∨(X.term.kind=2∧X.term.to≠q∧X.term.els=q):=by omega
    clear hcs
    rcases hcs' with ⟨d1,d2⟩ | ⟨d1,d2⟩ | ⟨d1,d3,d2⟩
    all_goals
     go_wp2_with (at_builtin;refine wpList_append_own _ rfl _ _ 26 rfl (w.heap.size+1) 2 i0 (.int .i64 0) 1 8 Tryz.underlying26 hi0 hz0 hz1 hz2 rfl (by decide) _ _ _ rfl ((HO.out.alloc _).alloc _) ⟨wr.heap.size+1,0,none⟩ 1 1 [.int .i64 k] rfl rfl ?c1 ?c2 ?c3 ?c4 ?c5 ?_)
     case c1 =>
      intro j u hj
      match j,hj with
      | 0,hj=>simp at hj;subst hj;simp [Addr.add]
     case c2=>intro u hu;simp at hu;subst hu;rfl
     case c3=>unfold maxLen;omega
     case c4=>omega
     case c5=>simp;omega
     intro v1 w1 hown1 hgrow1 _
     have HO1:=hide hown1
     clear hown1
     go_wp2
     have hb2:Below w.heap.size w w1:=grown_below (balloc (balloc hw _) _) hgrow1 ((HO.out.alloc _).alloc _) (by omega) (by simp;omega)
     have hbk:=grown_block hgrow1 ((HO.out.alloc _).alloc _) (b:=w.heap.size) (by omega) (by simp;omega)
     have hsz1:=hgrow1.size
     simp at hsz1
     exact ⟨⟨k+1,by omega,by go_num,hb2,by omega,(cell_of hbk).trans (((balloc (balloc (Below.refl wr.heap.size wr) _) _).cell (p:=⟨w.heap.size,1,none⟩) hsz).trans hcell),by rw [HN.out,ints_snoc];simpa using HO1.out⟩,by simp [intOf];omega⟩
   ·have HN:Hid (predsFrom (xs.take (k+1)) 0 q=predsFrom (xs.take k) 0 q):=by have:=hnx.out;rw [if_neg hin,List.append_nil] at this;exact this
    have hcs:¬((X.term.kind=1∧X.term.to=q)∨(X.term.kind=2∧(X.term.to=q∨X.term.els=q))):=fun h=>hin (hth.out.2 h)
    clear hin hnx hth
    generalize predsFrom (xs.take k) 0 q=ps at *
    have hcs':(X.term.kind=1∧(X.term.to==q)=false)∨(X.term.kind=2∧(X.term.to==q)=false∧(X.term.els==q)=false)∨((X.term.kind==1)=false∧(X.term.kind==2)=false):=by
     simp only [beq_eq_false_iff_ne];omega
    clear hcs
    rcases hcs' with ⟨d1,d2⟩ | ⟨d1,d2,d3⟩ | ⟨d1,d2⟩
    all_goals
     go_wp2
     exact ⟨⟨k+1,by omega,by go_num,balloc hw _,by simp;omega,((balloc (Below.refl wr.heap.size wr) _).cell (p:=⟨w.heap.size,1,none⟩) hsz).trans hcell,by rw [HN.out];exact HO.out.alloc _⟩,by simp [intOf];omega⟩
  ·go_wp2
   go_ret
   have e:=List.take_of_length_le (l:=xs) (i:=k) (by have:=hx.out;omega)
   rw [e] at hown
   obtain ⟨a1,c1,rfl,hi1⟩:=ints_owned hown
   exact ⟨_,_,rfl,hw,hi1.mono (by omega) (Nat.le_refl _)⟩
end Go.Proofs.YthgikffcdgpgiaaGreatDoor
