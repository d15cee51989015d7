import Derived.Test.YtdfdmjcngkfciaaDoorPure
import Derived.Maps.AppendAt
import Derived.Test.YtdfdmjcngkfciaaDoorDR2
namespace Go.Proofs.YtdfdmjcngkfciaaDoor
open Go.RowKit
def hasI (xs:List Int) (x:Int):Bool:=xs.contains x
set_option maxHeartbeats 400000 in
theorem l1Has_any (a:Option Addr) (n c:Nat) (x:Int) (xs:List Int) (L B:Nat) (w:World) (ha:Hid (IntsAt w L B a xs)) (hx:Hid (n=xs.length)) (hn:n≤1048576) :
  Calls Tryd.prog 26 #[.slice a n c,.int .i64 x] w fun e w'=>e=.returned (.bool (hasI xs x))∧w'=w:=by
 go_enter Tryd.func26,Tryd.ntmps26
 go_wp2
 go_loop [5] (fun i=>∃k:Nat,k≤n∧i=.int .i64 k∧Hid (∀j (h:j<xs.length),j<k→xs[j]≠x)) (fun i=>n-(intOf i).toNat)
 case atStart=>exact ⟨0,Nat.zero_le _,rfl,fun j hj h=>absurd h (by omega)⟩
 case round =>
  obtain ⟨k,hk,rfl,hno⟩:=hrel
  by_cases hlt:k<n
  ·have hkx:k<xs.length:=by have:=hx.out;omega
   obtain ⟨b,o,rfl,_,hc⟩:=ha.out k hkx
   by_cases he:xs[k]=x
   ·have hb:(xs[k]==x)=true:=by simp [he]
    have HE:=hide he
    clear he
    go_wp2
    go_ret
    exact ⟨ret_bool (by unfold hasI;rw [eq_comm,List.contains_iff_mem,←HE.out];exact List.getElem_mem hkx),rfl⟩
   ·have hb:(xs[k]==x)=false:=by simp [he]
    have HE:=hide he
    clear he
    go_wp2
    go_round
    case rel=>exact ⟨k+1,by omega,by go_num,fun j hj h=>if e:j=k then by subst e;exact HE.out else hno.out j hj (by omega)⟩
    case measure=>simp [intOf];omega
  ·go_wp2
   go_ret
   exact ⟨ret_bool (by
    rw [eq_comm,Bool.eq_false_iff]
    intro hc
    obtain ⟨j,hj,e⟩:=List.getElem_of_mem (List.contains_iff_mem.1 (show xs.contains x=true from hc))
    exact hno.out j hj (by have:=hx.out;omega) e),rfl⟩
theorem targets_has (t:Ter) (b:Int):t.targets.contains b=true↔(t.kind=1∧t.to=b)∨(t.kind=2∧(t.to=b∨t.els=b)):=by
 unfold Ter.targets
 by_cases h1:t.kind=1
 ·rw [if_pos h1]
  simp only [h1,true_and,List.contains_iff_mem,List.mem_singleton]
  constructor
  ·intro h;exact Or.inl h.symm
  ·rintro (h | ⟨h,_⟩)
   ·exact h.symm
   ·omega
 ·rw [if_neg h1]
  by_cases h2:t.kind=2
  ·rw [if_pos h2]
   simp only [h2,true_and,List.contains_iff_mem,List.mem_cons,List.not_mem_nil,or_false]
   constructor
   ·rintro (h | h)
    ·exact Or.inr (Or.inl h.symm)
    ·exact Or.inr (Or.inr h.symm)
   ·rintro (⟨h,_⟩ | h | h)
    ·omega
    ·exact Or.inl h.symm
    ·exact Or.inr h.symm
  ·rw [if_neg h2]
   simp [h1,h2]
theorem predsFrom_snoc (x:Blk) (b:Int):∀(xs:List Blk) (i:Nat),predsFrom (xs++[x]) i b=predsFrom xs i b++(if x.term.targets.contains b then [((i+xs.length:Nat):Int)] else [])
 | [],i=>by simp [predsFrom]
 | y::ys,i=>by
  simp only [List.cons_append,predsFrom]
  have e:i+1+ys.length=i+(ys.length+1):=by omega
  rw [predsFrom_snoc x b ys (i+1),List.append_assoc,e,List.length_cons]
theorem predsFrom_len (b:Int):∀(xs:List Blk) (i:Nat),(predsFrom xs i b).length≤xs.length
 | [],_=>Nat.le_refl _
 | y::ys,i=>by
  simp only [predsFrom,List.length_append,List.length_cons]
  have:=predsFrom_len b ys (i+1)
  split<;>simp<;>omega
theorem ints_owned {w:World} {base e:Nat} {v:Value} {n:Nat} {xs:List Int} (h:w.ownsRow base e 1 v n (xs.map (Value.int .i64))):∃a c,v=.slice a xs.length c∧IntsAt w base w.heap.size a xs:=by
 obtain ⟨hl,h | ⟨g,cap,cur,rfl,hg,hh,hc,_,hs,ht⟩⟩:=h
 ·obtain ⟨rfl,rfl⟩:=h
  have:xs=[]:=by simpa using hl
  subst this
  exact ⟨_,_,rfl,fun i hi=>absurd hi (by simp)⟩
 ·simp only [Nat.mul_one,List.length_map] at hl hs ht
  subst hl
  refine ⟨_,_,rfl,fun i hi=>⟨g,0,rfl,⟨hg,?_⟩,?_⟩⟩
  ·exact (Array.getElem?_eq_some_iff.1 hh).1
  ·have h1:(cur.toList.take xs.length)[i]?=some (Value.int .i64 xs[i]):=by rw [ht];simp [hi]
   rw [List.getElem?_take_of_lt hi] at h1
   simp only [World.cell?,hh,Nat.zero_add]
   simpa using h1
theorem Tryd.info2':(Tryd.prog.info? 2).map (fun i=>(i.zero,i.size,i.bytes))=some (some (.int .i64 0),1,8):=by kernel_rfl
theorem grown_block {W w':World} {base e s:Nat} {u:Value} {n:Nat} {xs:List Value} (hg:W.grownBy w' u.ownBlock) (ho:W.ownsRow base e s u n xs) {b:Nat} (hb:b<base) (hz:b<W.heap.size):w'.heap[b]?=W.heap[b]? :=
 hg.block b hz (fun h=>by have:=(ho.lt b h.symm).1;omega)
theorem grown_below {w W w':World} {B base e s:Nat} {u:Value} {n:Nat} {xs:List Value} (h:Below B w W) (hg:W.grownBy w' u.ownBlock) (ho:W.ownsRow base e s u n xs) (hb:B≤base) (hz:B≤W.heap.size):Below B w w' :=
 h.grown hg hz (fun k hk=>by have:=(ho.lt k hk).1;omega)
theorem own_empty (w:World) (o:Obj):((w.alloc o).alloc (.cells #[] 2)).ownsRow (w.heap.size+1) 2 1 (.slice (some ⟨w.heap.size+1,0,none⟩) 0 0) 0 []:=by
 have h:=World.ownsRow_lit (base:=w.heap.size+1) (e:=2) (size:=1) (w.alloc o) #[] 0 (by simp) (by simp) rfl
 rw [World.size_alloc] at h
 exact h
theorem ints_snoc (xs:List Int) (x:Int):(xs++[x]).map (Value.int .i64)=xs.map (Value.int .i64)++[.int .i64 x]:=by simp
set_option maxHeartbeats 1000000 in
theorem l1Preds_any (v:Int) (a:Option Addr) (n c:Nat) (q:Int) (xs:List Blk) (L B:Nat) (w:World) (ha:Hid (BlksAt w L B a xs)) (hx:Hid (n=xs.length)) (hn:n≤1048576) (hB:B≤w.heap.size) :
  Calls Tryd.prog 24 #[.agg #[.int .i64 v,.slice a n c],.int .i64 q] w fun e w'=>∃a' c',e=.returned (.slice a' (predsFrom xs 0 q).length c')∧Below w.heap.size w w'∧IntsAt w' w.heap.size w'.heap.size a' (predsFrom xs 0 q):=by
 obtain ⟨i0,hi0,hz0,hz1,hz2⟩:=info_parts Tryd.info2'
 go_enter Tryd.func24,Tryd.ntmps24
 go_wp2
 go_loopw [5,6] (fun u i wr=>∃k:Nat,k≤n∧i=.int .i64 k∧Below w.heap.size w wr∧w.heap.size<wr.heap.size∧wr.cell? ⟨w.heap.size,1,none⟩=some (.slice a n c)∧wr.ownsRow (w.heap.size+1) 2 1 u (predsFrom (xs.take k) 0 q).length ((predsFrom (xs.take k) 0 q).map (Value.int .i64))) (fun _ i _=>n-(intOf i).toNat)
 case atStart=>exact ⟨0,Nat.zero_le _,rfl,balloc (balloc (Below.refl _ _) _) _,by simp;omega,by simp,own_empty _ _⟩
 case round =>
  obtain ⟨k,hk,rfl,hw,hsz,hcell,hown⟩:=hrel
  by_cases hlt:k<n
  ·have hkx:k<xs.length:=by have:=hx.out;omega
   obtain ⟨b,o,rfl,⟨_,hbB⟩,hc⟩:=ha.out k hkx
   obtain ⟨pa,pc,ia,ic,_,_,⟨e2,e3,e4,e5⟩,_,_⟩:=hc.keep (hw.mono hB) (by omega)
   have hnx:Hid (predsFrom (xs.take (k+1)) 0 q=predsFrom (xs.take k) 0 q++(if xs[k].term.targets.contains q then [(k:Int)] else [])):=by
    show _=_
    rw [take_next _ _ hkx,predsFrom_snoc]
    simp [Nat.min_eq_left (Nat.le_of_lt hkx)]
   have hpl:(predsFrom (xs.take k) 0 q).length≤1048576:=by have:=predsFrom_len q (xs.take k) 0;simp at this;omega
   have HO:=hide hown
   clear hown hc
   have hth:=hide (targets_has xs[k].term q)
   generalize xs[k]=X at *
   by_cases hin:X.term.targets.contains q=true
   ·have HN:Hid (predsFrom (xs.take (k+1)) 0 q=predsFrom (xs.take k) 0 q++[(k:Int)]):=by have:=hnx.out;rw [if_pos hin] at this;exact this
    have hcs:=hth.out.1 hin
    clear hin hnx hth
    generalize predsFrom (xs.take k) 0 q=ps at *
    have hcs':(X.term.kind=1∧X.term.to=q)∨(X.term.kind=2∧X.term.to=q)∨(X.term.kind=2∧X.term.to≠q∧X.term.els=q):=by omega
    clear hcs
    rcases hcs' with ⟨d1,d2⟩ | ⟨d1,d2⟩ | ⟨d1,d3,d2⟩
    all_goals
     go_wp2_with (at_builtin;refine wpList_append_own _ rfl _ _ 29 rfl (w.heap.size+1) 2 i0 (.int .i64 0) 1 8 Tryd.underlying29 hi0 hz0 hz1 hz2 rfl (by decide) _ _ _ rfl ((HO.out.alloc _).alloc _) ⟨wr.heap.size+1,0,none⟩ 1 1 [.int .i64 k] rfl rfl ?c1 ?c2 ?c3 ?c4 ?c5 ?_)
     case c1 =>
      intro j u hj
      match j,hj with
      | 0,hj=>simp at hj;subst hj;simp [Addr.add]
     case c2=>intro u hu;simp at hu;subst hu;rfl
     case c3=>unfold maxLen;omega
     case c4=>omega
     case c5=>simp;omega
     intro v1 w1 hown1 hgrow1 _
     have HO1:=hide hown1
     clear hown1
     go_wp2
     have hb2:Below w.heap.size w w1:=grown_below (balloc (balloc hw _) _) hgrow1 ((HO.out.alloc _).alloc _) (by omega) (by simp;omega)
     have hbk:=grown_block hgrow1 ((HO.out.alloc _).alloc _) (b:=w.heap.size) (by omega) (by simp;omega)
     have hsz1:=hgrow1.size
     simp at hsz1
     exact ⟨⟨k+1,by omega,by go_num,hb2,by omega,(cell_of hbk).trans (((balloc (balloc (Below.refl wr.heap.size wr) _) _).cell (p:=⟨w.heap.size,1,none⟩) hsz).trans hcell),by rw [HN.out,ints_snoc];simpa using HO1.out⟩,by simp [intOf];omega⟩
   ·have HN:Hid (predsFrom (xs.take (k+1)) 0 q=predsFrom (xs.take k) 0 q):=by have:=hnx.out;rw [if_neg hin,List.append_nil] at this;exact this
    have hcs:¬((X.term.kind=1∧X.term.to=q)∨(X.term.kind=2∧(X.term.to=q∨X.term.els=q))):=fun h=>hin (hth.out.2 h)
    clear hin hnx hth
    generalize predsFrom (xs.take k) 0 q=ps at *
    have hcs':(X.term.kind=1∧(X.term.to==q)=false)∨(X.term.kind=2∧(X.term.to==q)=false∧(X.term.els==q)=false)∨((X.term.kind==1)=false∧(X.term.kind==2)=false):=by
     simp only [beq_eq_false_iff_ne];omega
    clear hcs
    rcases hcs' with ⟨d1,d2⟩ | ⟨d1,d2,d3⟩ | ⟨d1,d2⟩
    all_goals
     go_wp2
     exact ⟨⟨k+1,by omega,by go_num,balloc hw _,by simp;omega,((balloc (Below.refl wr.heap.size wr) _).cell (p:=⟨w.heap.size,1,none⟩) hsz).trans hcell,by rw [HN.out];exact HO.out.alloc _⟩,by simp [intOf];omega⟩
  ·go_wp2
   go_ret
   have e:=List.take_of_length_le (l:=xs) (i:=k) (by have:=hx.out;omega)
   rw [e] at hown
   obtain ⟨a1,c1,rfl,hi1⟩:=ints_owned hown
   exact ⟨_,_,rfl,hw,hi1.mono (by omega) (Nat.le_refl _)⟩
end Go.Proofs.YtdfdmjcngkfciaaDoor

namespace Go.Proofs.YtdfdmjcngkfciaaDoor
open Go.RowKit
theorem addrAdd0 (g j:Nat):(⟨g,0,none⟩:Addr).add j=⟨g,j,none⟩:=by unfold Addr.add;split<;>simp_all
theorem own_cell {w:World} {base e s g n c:Nat} {cs:List Value} (h:w.ownsRow base e s (.slice (some ⟨g,0,none⟩) n c) n cs) {j:Nat} {u:Value} (hj:cs[j]?=some u):w.cell? ⟨g,j,none⟩=some u:=by
 have:=h.cells (g:=g) rfl j u hj
 rw [addrAdd0] at this
 exact this
theorem own_thaw {w:World} {base e s g n c:Nat} {cs:List Value} (h:w.ownsRow base e s (.slice (some ⟨g,0,none⟩) n c) n cs) (o:Nat):w.frozen? ⟨g,o,none⟩=false:=by
 rcases h.2 with ⟨e2,_⟩ | ⟨g',cap,cur,e2,_,hh,_⟩
 ·cases e2
 ·injection e2 with e3
  injection e3 with e3
  injection e3 with e4
  subst e4
  simp [World.frozen?,hh]
theorem own_form {w:World} {base e s n:Nat} {v:Value} {cs:List Value} (h:w.ownsRow base e s v n cs):(v=.slice none 0 0∧n=0∧cs=[])∨∃g c,v=.slice (some ⟨g,0,none⟩) n c∧(base≤g∧g<w.heap.size)∧n≤c:=by
 rcases h.2 with ⟨e1,e2⟩ | ⟨g,cap,cur,e1,hb,hh,hc,_⟩
 ·refine Or.inl ⟨e1,e2,List.eq_nil_of_length_eq_zero ?_⟩
  rw [h.1,e2,Nat.zero_mul]
 ·exact Or.inr ⟨g,cap,e1,⟨hb,(Array.getElem?_eq_some_iff.1 hh).1⟩,hc⟩
end Go.Proofs.YtdfdmjcngkfciaaDoor

namespace Go.Proofs.YtdfdmjcngkfciaaDoor
open Go.RowKit
structure DrW (w wr:World) (B:Nat) (s:Sr):Prop where
 low:Below w.heap.size w wr
 src:SrAt wr w.heap.size (w.heap.size+1) B s
 ok:SrOk s
 bB:w.heap.size+1≤B
 sB:B≤wr.heap.size
theorem DrW.drew {w wr:World} {B:Nat} {s:Sr} (h:DrW w wr B s):DrW w wr.drew B s:=⟨h.low.drew,h.src.drew,h.ok,h.bB,h.sB⟩
theorem SrAt.block {w w':World} {b L B:Nat} {s:Sr} (h:SrAt w b L B s) (hb:w'.heap[b]?=w.heap[b]?) (hk:∀k,L≤k→k<B→w'.heap[k]?=w.heap[k]?):SrAt w' b L B s:=by
 obtain ⟨a,c,e0,hbb⟩:=h.c0
 have ce:∀q,w'.cell? ⟨b,q,none⟩=w.cell? ⟨b,q,none⟩:=fun q=>World.cell?_of_block hb
 exact ⟨⟨a,c,(ce 0).trans e0,hbb.keepS hk⟩,(ce 1).trans h.c1,(ce 2).trans h.c2,(ce 3).trans h.c3,fun q=>(World.frozen?_of_block hb).trans (h.thaw q),h.out⟩
theorem DrW.keep {w wr w':World} {B:Nat} {s:Sr} (h:DrW w wr B s) (hk:Below B wr w'):DrW w w' B s:=by
 have h1:=h.bB
 exact ⟨h.low.trans (hk.mono (by omega)),h.src.block (hk.block _ (by omega)) (fun k _ h2=>hk.block k h2),h.ok,h.bB,Nat.le_trans h.sB hk.size⟩
theorem own_grown {w w':World} {B t sz b n:Nat} {v:Value} {cs:List Value} (h:w.ownsRow B t sz v n cs) (hg:w.grownBy w' (some b)) (hb:b<B):w'.ownsRow B t sz v n cs :=
 h.kept hg (by
  cases e:v.ownBlock with
  | none=>exact Or.inl rfl
  | some k=>exact Or.inr (fun e2=>by cases e2;have:=(h.lt _ e).1;omega))
theorem own_blk {w w1:World} {B t s g:Nat} {n c:Nat} {xs:List Value} (h:w.ownsRow B t s (.slice (some ⟨g,0,none⟩) n c) n xs) (k:w1.heap[g]?=w.heap[g]?):w1.ownsRow B t s (.slice (some ⟨g,0,none⟩) n c) n xs:=by
 obtain ⟨hl,h | ⟨g',cap,cur,e,hg,hh,hc⟩⟩:=h
 ·exact ⟨hl,Or.inl h⟩
 ·cases e
  exact ⟨hl,Or.inr ⟨g,c,cur,rfl,hg,k.trans hh,hc⟩⟩
theorem own_set {w:World} {B t sz g n c k:Nat} {cs:List Value} (h:w.ownsRow B t sz (.slice (some ⟨g,0,none⟩) n c) n cs) (u:Value):(w.setCell ⟨g,k,none⟩ u).ownsRow B t sz (.slice (some ⟨g,0,none⟩) n c) n (cs.set k u):=by
 obtain ⟨hl,h0 | ⟨g',cap,cur,e,hg,hh,hc,hm,hs,ht⟩⟩:=h
 ·cases h0.1
 ·cases e
  refine ⟨by rw [List.length_set];exact hl,Or.inr ⟨g,c,cur.setIfInBounds k u,rfl,hg,?_,hc,hm,by rw [Array.size_setIfInBounds];exact hs,?_⟩⟩
  ·exact heap_setCell_same w g k cur t u hh
  ·rw [Array.toList_setIfInBounds,List.take_set,ht]
theorem own_some' {w:World} {base e s n:Nat} {v:Value} {cs:List Value} (h:w.ownsRow base e s v n cs) (hn:0<n):∃g c,v=.slice (some ⟨g,0,none⟩) n c∧(base≤g∧g<w.heap.size)∧n≤c:=by
 rcases own_form h with ⟨_,e,_⟩ | h
 ·omega
 ·exact h
theorem nat_of {x:Int} (h:0≤x):∃m:Nat,x=m:=⟨x.toNat,by omega⟩
end Go.Proofs.YtdfdmjcngkfciaaDoor

namespace Go.Proofs.YtdfdmjcngkfciaaDoor
open Go.RowKit
structure DrA (w:World) (sb B:Nat) (s:Sr):Prop where
 src:SrAt w sb (sb+1) B s
 ok:SrOk s
 bB:sb+1≤B
 sB:B≤w.heap.size
theorem DrA.drew {w:World} {sb B:Nat} {s:Sr} (h:DrA w sb B s):DrA w.drew sb B s:=⟨h.src.drew,h.ok,h.bB,h.sB⟩
theorem DrA.keep {w w':World} {sb B:Nat} {s:Sr} (h:DrA w sb B s) (hk:Below B w w'):DrA w' sb B s:=by
 have h1:=h.bB
 exact ⟨h.src.block (hk.block _ (by omega)) (fun k _ h2=>hk.block k h2),h.ok,h.bB,Nat.le_trans h.sB hk.size⟩
theorem next_a (sb B:Nat) (s:Sr) (n:Int) (w:World) (h:Hid (DrA w sb B s)) (hn:n≤1000000) (hn0:-1000000≤n) :
  Calls Tryd.prog 27 #[.pointer (some ⟨sb,0,none⟩),.int .i64 n] w fun e w'=>e=.returned (.int .i64 (nextP s n).1)∧DrA w' sb B (nextP s n).2∧w.grownBy w' (some sb):=by
 refine (next_any sb (sb+1) B s n w (hide h.out.src) (hide h.out.ok) hn hn0).mono ?_
 rintro e w' ⟨rfl,hs,hg⟩
 exact ⟨rfl,⟨hs,next_ok h.out.ok _,h.out.bB,Nat.le_trans h.out.sB hg.size⟩,hg⟩
theorem grown2 {w w1 w2:World} {b:Nat} (h:w.grownBy w1 (some b)) (k:w1.grownBy w2 (some b)):w.grownBy w2 (some b) :=
 ⟨k.os.trans h.os,k.tape.trans h.tape,k.output.trans h.output,Nat.le_trans h.size k.size,fun i hi hb=>(k.block i (Nat.lt_of_lt_of_le hi h.size) hb).trans (h.block i hi hb)⟩
theorem IntsAt.grown {w w':World} {L B sb:Nat} {a:Option Addr} {xs:List Int} (h:IntsAt w L B a xs) (g:w.grownBy w' (some sb)) (hs:sb<L) (hB:B≤w.heap.size):IntsAt w' L B a xs :=
 h.keepS (fun k h1 h2=>g.block k (by omega) (fun e=>by injection e;omega))
def pickP (s:Sr) (vs:List Int) (near:Bool):Int × Sr :=
 if vs.length=0 then (0,s)
 else if near=true∧3<vs.length then
  if (nextP s 4).1=0 then (vs.getD (nextP (nextP s 4).2 vs.length).1.toNat 0,(nextP (nextP s 4).2 vs.length).2)
  else (vs.getD ((vs.length:Int)-1-(nextP (nextP s 4).2 3).1).toNat 0,(nextP (nextP s 4).2 3).2)
 else (vs.getD (nextP s vs.length).1.toNat 0,(nextP s vs.length).2)
theorem pick_ok {s:Sr} (h:SrOk s) (vs:List Int) (near:Bool):SrOk (pickP s vs near).2:=by
 unfold pickP
 split
 ·exact h
 ·split
  ·split
   ·exact next_ok (next_ok h _) _
   ·exact next_ok (next_ok h _) _
  ·exact next_ok h _
set_option maxHeartbeats 1000000 in
theorem pickD_any (sb B:Nat) (s:Sr) (a:Option Addr) (n c:Nat) (vs:List Int) (L' B':Nat) (near:Bool) (w:World) (h:Hid (DrA w sb B s)) (hv:Hid (IntsAt w L' B' a vs)) (hx:Hid (n=vs.length)) (hn:n≤5000) (hL:sb<L') (hB:B'≤w.heap.size) :
  Calls Tryd.prog 48 #[.pointer (some ⟨sb,0,none⟩),.slice a n c,.bool near] w fun e w'=>e=.returned (.int .i64 (pickP s vs near).1)∧DrA w' sb B (pickP s vs near).2∧w.grownBy w' (some sb):=by
 have hx':=hx.out
 by_cases h0:n=0
 ·have HP:Hid (pickP s vs near=(0,s)):=hide (by unfold pickP;rw [if_pos (by omega)])
  subst h0
  clear hx'
  go_enter Tryd.func48,Tryd.ntmps48
  go_wp2
  go_ret
  rw [HP.out]
  exact ⟨rfl,h.out,World.grownBy.refl _ _⟩
 ·have h0b:(n==0)=false:=by simpa using h0
  have hn0:(0:Int)<n:=by omega
  have hni:((n:Int)==0)=false:=by simp;omega
  by_cases h1:near=true∧3<n
  ·obtain ⟨rfl,h3⟩:=h1
   have h3i:(3:Int)<n:=by omega
   have HP:Hid (pickP s vs true=if (nextP s 4).1=0 then (vs.getD (nextP (nextP s 4).2 n).1.toNat 0,(nextP (nextP s 4).2 n).2) else (vs.getD ((n:Int)-1-(nextP (nextP s 4).2 3).1).toNat 0,(nextP (nextP s 4).2 3).2)):=hide (by unfold pickP;rw [if_neg (by omega),if_pos ⟨rfl,by omega⟩,←hx'])
   clear hx'
   go_enter Tryd.func48,Tryd.ntmps48
   go_wp2_with fail
   refine (next_a sb B s 4 w h (by omega) (by omega)).mono ?_
   rintro e w1 ⟨rfl,hd,hg⟩
   have HG1:=hide hg
   obtain ⟨r,s1,hrs⟩:∃r s',nextP s 4=(r,s'):=⟨_,_,rfl⟩
   rw [hrs] at hd HP ⊢
   dsimp only at hd HP ⊢
   have HD1:=hide hd
   have HV1:=hide (hv.out.grown hg hL hB)
   clear hd hg hrs
   by_cases hr:r=0
   ·subst hr
    go_wp2_with fail
    refine (next_a sb B s1 n w1 HD1 (by omega) (by omega)).mono ?_
    rintro e w2 ⟨rfl,hd,hg⟩
    have hlt:=next_lt s1 (n:=(n:Int)) (by omega)
    obtain ⟨q,s2,hrs⟩:∃r s',nextP s1 n=(r,s'):=⟨_,_,rfl⟩
    rw [hrs] at hd HP hlt ⊢
    dsimp only at hd HP hlt ⊢
    rw [if_pos trivial] at HP
    obtain ⟨q,rfl⟩:=nat_of hlt.1
    have hqv:q<vs.length:=by have:=hx.out;omega
    obtain ⟨b',o',rfl,hbb,hc⟩:=(HV1.out.grown hg hL (Nat.le_trans hB HG1.out.size)) q hqv
    rw [show vs.getD ((q:Int)).toNat 0=vs[q] by simp [hqv]] at HP
    have HG2:=hide (grown2 HG1.out hg)
    have HD2:=hide hd
    clear hd hg hrs hbb HV1
    generalize vs[q]=vq at *
    go_wp2
    go_ret
    rw [HP.out]
    exact ⟨rfl,HD2.out,HG2.out⟩
   ·have hrb:(r==0)=false:=by simpa using hr
    rw [if_neg hr] at HP
    go_wp2_with fail
    refine (next_a sb B s1 3 w1 HD1 (by omega) (by omega)).mono ?_
    rintro e w2 ⟨rfl,hd,hg⟩
    have hlt:=next_lt s1 (n:=3) (by omega)
    obtain ⟨q,s2,hrs⟩:∃r s',nextP s1 3=(r,s'):=⟨_,_,rfl⟩
    rw [hrs] at hd HP hlt ⊢
    dsimp only at hd HP hlt ⊢
    obtain ⟨m,hm⟩:=nat_of (x:=(n:Int)-1-q) (by omega)
    have hqv:m<vs.length:=by have:=hx.out;omega
    obtain ⟨b',o',rfl,hbb,hc⟩:=(HV1.out.grown hg hL (Nat.le_trans hB HG1.out.size)) m hqv
    rw [hm,show vs.getD ((m:Int)).toNat 0=vs[m] by simp [hqv]] at HP
    have HG2:=hide (grown2 HG1.out hg)
    have HD2:=hide hd
    clear hd hg hrs hbb HV1
    have hmn:m<n:=by omega
    generalize vs[m]=vq at *
    go_wp2
    go_ret
    rw [HP.out]
    exact ⟨rfl,HD2.out,HG2.out⟩
  ·have HP:Hid (pickP s vs near=(vs.getD (nextP s n).1.toNat 0,(nextP s n).2)):=hide (by unfold pickP;rw [if_neg (by omega),if_neg (by rw [←hx'];exact h1),←hx'])
   clear hx'
   have KEY:∀(nr:Bool) (h3:nr=false∨¬(3:Int)<n),Calls Tryd.prog 48 #[.pointer (some ⟨sb,0,none⟩),.slice a n c,.bool nr] w fun e w'=>e=.returned (.int .i64 (vs.getD (nextP s n).1.toNat 0))∧DrA w' sb B (nextP s n).2∧w.grownBy w' (some sb):=by
    intro nr h3
    clear h1 HP
    cases nr with
    | false =>
     clear h3
     go_enter Tryd.func48,Tryd.ntmps48
     go_wp2_with fail
     refine (next_a sb B s n w h (by omega) (by omega)).mono ?_
     rintro e w2 ⟨rfl,hd,hg⟩
     have hlt:=next_lt s (n:=(n:Int)) (by omega)
     obtain ⟨q,s2,hrs⟩:∃r s',nextP s n=(r,s'):=⟨_,_,rfl⟩
     have HRS:=hide hrs
     rw [hrs] at hd hlt ⊢
     dsimp only at hd hlt ⊢
     obtain ⟨q,rfl⟩:=nat_of hlt.1
     have hqv:q<vs.length:=by have:=hx.out;omega
     obtain ⟨b',o',rfl,hbb,hc⟩:=(hv.out.grown hg hL hB) q hqv
     have HQ:Hid (vs.getD ((q:Int)).toNat 0=vs[q]):=hide (by simp [hqv])
     have HG2:=hide hg
     have HD2:=hide hd
     clear hd hg hrs hbb
     generalize vs[q]=vq at *
     go_wp2
     go_ret
     rw [HRS.out]
     dsimp only
     rw [HQ.out]
     exact ⟨rfl,HD2.out,HG2.out⟩
    | true =>
     have h3':¬(3:Int)<n:=by rcases h3 with h | h;cases h;exact h
     clear h3
     go_enter Tryd.func48,Tryd.ntmps48
     go_wp2_with fail
     refine (next_a sb B s n w h (by omega) (by omega)).mono ?_
     rintro e w2 ⟨rfl,hd,hg⟩
     have hlt:=next_lt s (n:=(n:Int)) (by omega)
     obtain ⟨q,s2,hrs⟩:∃r s',nextP s n=(r,s'):=⟨_,_,rfl⟩
     have HRS:=hide hrs
     rw [hrs] at hd hlt ⊢
     dsimp only at hd hlt ⊢
     obtain ⟨q,rfl⟩:=nat_of hlt.1
     have hqv:q<vs.length:=by have:=hx.out;omega
     obtain ⟨b',o',rfl,hbb,hc⟩:=(hv.out.grown hg hL hB) q hqv
     have HQ:Hid (vs.getD ((q:Int)).toNat 0=vs[q]):=hide (by simp [hqv])
     have HG2:=hide hg
     have HD2:=hide hd
     clear hd hg hrs hbb
     generalize vs[q]=vq at *
     go_wp2
     go_ret
     rw [HRS.out]
     dsimp only
     rw [HQ.out]
     exact ⟨rfl,HD2.out,HG2.out⟩
   rw [HP.out]
   exact KEY near (by
    cases near with
    | false=>exact Or.inl rfl
    | true=>exact Or.inr (fun h3=>h1 ⟨rfl,by omega⟩))
end Go.Proofs.YtdfdmjcngkfciaaDoor
