import Derived.Test.YtdfdmjcngkfciaaDoorMem
import Derived.Test.YtdfdmjcngkfciaaDoorProg
import Derived.WalkKit
import Derived.WalkSpells
import Derived.WalkLawsBesides
import Derived.BigQuiet
namespace Go.Proofs.YtdfdmjcngkfciaaDoor
def dB (op:Int):Bool:=decide (1≤op∧op≤8)||decide (op=11)||decide (op=13)
def aB (op:Int):Bool:=decide (3≤op∧op≤12)
def bB (op:Int):Bool:=decide (3≤op∧op≤7)||decide (op=9)
def fld (u:Bool) (x lo hi:Int):Bool:=if u then decide (lo≤x)&&decide (x<hi) else x==0
def immOk (x:Ins):Bool:=if x.op==1 then decide (-1000000000≤x.imm)&&decide (x.imm≤1000000000) else if x.op==2 then decide (0≤x.imm)&&decide (x.imm<8) else x.imm==0
def insOk (n most:Int) (x:Ins):Bool :=
 decide (1≤x.op)&&decide (x.op≤most)&&fld (dB x.op) x.dst 0 n&&fld (aB x.op) x.a 0 n&&fld (bB x.op) x.b 0 n&&immOk x
def terOk (n low blocks:Int) (t:Ter):Bool :=
 decide (1≤t.kind)&&decide (t.kind≤3)&&fld (t.kind != 1) t.a 0 n&&fld (t.kind != 3) t.to low blocks&&fld (t.kind==2) t.els low blocks
def terOk' (n blocks:Int) (t:Ter):Bool:=terOk n 1 blocks t && !(t.kind==2&&t.to==t.els)
def Ter.targets (t:Ter):List Int:=if t.kind=1 then [t.to] else if t.kind=2 then [t.to,t.els] else []
def phSize (ps:List Ph):Nat:=(ps.map fun p=>1+p.args.length).sum
def blkSize (x:Blk):Nat:=1+x.instrs.length+phSize x.phis
def blksSize (xs:List Blk):Nat:=(xs.map blkSize).sum
def predsFrom:List Blk→Nat→Int→List Int
 | [],_,_=>[]
 | x::xs,i,b=>(if x.term.targets.contains b then [(i:Int)] else [])++predsFrom xs (i+1) b
def Fn.preds (F:Fn) (b:Int):List Int:=predsFrom F.blocks 0 b
def phDefs (ps:List Ph):List Int:=ps.map (·.dst)
def insDefs (xs:List Ins):List Int:=(xs.filter fun x=>dB x.op).map (·.dst)
def blkDefs (x:Blk):List Int:=phDefs x.phis++insDefs x.instrs
def blksDefs (xs:List Blk):List Int:=xs.flatMap blkDefs
def sizeOk (F:Fn):Bool:=decide (0≤F.values)&&decide (F.values≤2000)&&decide (1≤F.blocks.length)&&decide (F.blocks.length≤1000)&&decide (blksSize F.blocks≤4000)
def termsOk (F:Fn):Bool:=F.blocks.all fun x=>terOk' F.values F.blocks.length x.term
def instrsOk (F:Fn):Bool:=F.blocks.all fun x=>x.instrs.all (insOk F.values 10)
def phOkS (n:Int) (k:Nat) (p:Ph):Bool:=decide (1≤p.args.length)&&decide (p.args.length=k)&&p.args.all (fun a=>decide (0≤a)&&decide (a<n))
def phOkI (n:Int) (k:Nat) (p:Ph):Bool:=fld true p.dst 0 n&&phOkS n k p
def phisFrom (ok:Int→Nat→Ph→Bool) (F:Fn) (xs:List Blk) (i:Nat):Bool :=
 match xs with
 | []=>true
 | x::xs=>x.phis.all (ok F.values (F.preds i).length)&&phisFrom ok F xs (i+1)
def phisOkS (F:Fn):Bool:=phisFrom phOkS F F.blocks 0
def phisOkI (F:Fn):Bool:=phisFrom phOkI F F.blocks 0
def countEq (xs:List Int) (v:Int):Nat:=(xs.filter fun x=>x==v).length
def onceOk (F:Fn):Bool:=(List.range F.values.toNat).all fun v=>countEq (blksDefs F.blocks) v==1
def coverOk (F:Fn):Bool:=decide (((blksDefs F.blocks).length:Int)=F.values)&&(List.range F.values.toNat).all fun v=>(blksDefs F.blocks).contains (v:Int)
def validI (F:Fn):Bool:=sizeOk F&&termsOk F&&instrsOk F&&phisOkI F&&onceOk F
def validS (F:Fn):Bool:=sizeOk F&&(instrsOk F&&termsOk F)&&phisOkS F&&coverOk F
def phTot (ps:List Ph):Nat:=(ps.map fun p=>p.args.length).sum
def blkTot (x:Blk):Nat:=x.phis.length+phTot x.phis+x.instrs.length
def blksTot (xs:List Blk):Nat:=(xs.map blkTot).sum
theorem blksTot_snoc (ps:List Blk) (p:Blk):blksTot (ps++[p])=blksTot ps+blkTot p:=by simp [blksTot]
theorem sum_take_le {α:Type} (f:α→Nat) (xs:List α) (k:Nat):((xs.take k).map f).sum≤(xs.map f).sum:=by
 induction xs generalizing k with
 | nil=>simp
 | cons x xs ih=>cases k with
  | zero=>simp
  | succ k=>simp only [List.take_succ_cons,List.map_cons,List.sum_cons];have:=ih k;omega
theorem blksTot_take (ps:List Blk) (k:Nat):blksTot (ps.take k)≤blksTot ps:=sum_take_le _ _ _
end Go.Proofs.YtdfdmjcngkfciaaDoor

namespace Go.Proofs.YtdfdmjcngkfciaaDoor
open Go.RowKit
theorem ret_int {k:IntKind} {a b:Int} (h:a=b):Ending.returned (.int k a)=.returned (.int k b):=by rw [h]
theorem ret_bool {a b:Bool} (h:a=b):Ending.returned (.bool a)=.returned (.bool b):=by rw [h]
set_option maxHeartbeats 400000 in
theorem validField_any (u:Bool) (x lo hi:Int) (w:World) :
  Calls Tryd.prog 53 #[.bool u,.int .i64 x,.int .i64 lo,.int .i64 hi] w fun e w'=>e=.returned (.bool (fld u x lo hi))∧w'=w:=by
 cases u
 ·go_enter Tryd.func53,Tryd.ntmps53
  go_wp2
  go_ret
  exact ⟨rfl,rfl⟩
 ·by_cases h1:lo≤x<;>by_cases h2:x<hi
  all_goals
   go_enter Tryd.func53,Tryd.ntmps53
   go_wp2
   go_ret
   exact ⟨by simp [fld,h1,h2],rfl⟩
theorem take_next {α:Type} (xs:List α) (k:Nat) (h:k<xs.length):xs.take (k+1)=xs.take k++[xs[k]]:=List.take_succ_eq_append_getElem h
end Go.Proofs.YtdfdmjcngkfciaaDoor

namespace Go.Proofs.YtdfdmjcngkfciaaDoor
open Go.RowKit
def MvsAt (w:World) (L B:Nat) (a:Option Addr) (xs:List Mv):Prop:=∀i (h:i<xs.length),∃b o,a=some ⟨b,o,none⟩∧(L≤b∧b<B)∧w.cell? ⟨b,o+i*2,none⟩=some (.int .i64 xs[i].to)∧w.cell? ⟨b,o+i*2+1,none⟩=some (.int .i64 xs[i].frm)
theorem MvsAt.keepS {w w':World} {L B:Nat} {a:Option Addr} {xs:List Mv} (h:MvsAt w L B a xs) (k:Same L B w w'):MvsAt w' L B a xs:=fun i hi=>by
 obtain ⟨b,o,e,hb,h1,h2⟩:=h i hi
 have q:=k b hb.1 hb.2
 exact ⟨b,o,e,hb,(cell_of q).trans h1,(cell_of q).trans h2⟩
theorem MvsAt.keep {w w':World} {L B:Nat} {a:Option Addr} {xs:List Mv} (h:MvsAt w L B a xs) (k:Below B w w'):MvsAt w' L B a xs:=h.keepS (Same.of_below k)
theorem MvsAt.mono {w:World} {L B L' B':Nat} {a:Option Addr} {xs:List Mv} (h:MvsAt w L B a xs) (h1:L'≤L) (h2:B≤B'):MvsAt w L' B' a xs:=fun i hi=>by
 obtain ⟨b,o,e,hb,r⟩:=h i hi
 exact ⟨b,o,e,by omega,r⟩
end Go.Proofs.YtdfdmjcngkfciaaDoor

namespace Go.Proofs.YtdfdmjcngkfciaaDoor
theorem countEq_count (l:List Int) (v:Int):countEq l v=l.count v:=by
 unfold countEq
 rw [List.count,List.countP_eq_length_filter]
theorem cover_to (n:Nat):∀l:List Int,l.length=n→(∀v:Nat,v<n→(v:Int)∈l)→(∀d∈l,0≤d∧d<n)∧∀v:Nat,v<n→l.count (v:Int)=1:=by
 induction n with
 | zero =>
  intro l hl _
  have:l=[]:=List.eq_nil_of_length_eq_zero hl
  subst this
  exact ⟨fun d hd=>(List.not_mem_nil hd).elim,fun v hv=>absurd hv (by omega)⟩
 | succ n ih =>
  intro l hl hv
  have hm:=hv n (by omega)
  have hlen:(l.erase (n:Int)).length=n:=by rw [List.length_erase_of_mem hm];omega
  have hmem:∀v:Nat,v<n→(v:Int)∈l.erase (n:Int):=fun v h=>(List.mem_erase_of_ne (by omega)).2 (hv v (by omega))
  obtain ⟨h1,h2⟩:=ih _ hlen hmem
  have hp:=List.perm_cons_erase hm
  refine ⟨fun d hd=>?_,fun v h=>?_⟩
  ·rcases List.mem_cons.1 (hp.mem_iff.1 hd) with rfl | hd
   ·omega
   ·have:=h1 d hd;omega
  ·rw [hp.count_eq,List.count_cons]
   by_cases e:v=n
   ·subst e
    have:(l.erase (v:Int)).count (v:Int)=0:=List.count_eq_zero.2 (fun hh=>by have:=h1 _ hh;omega)
    simp [this]
   ·rw [h2 v (by omega)]
    have:((n:Int)==(v:Int))=false:=by simp;omega
    simp [this]
theorem cover_from (n:Nat):∀l:List Int,(∀d∈l,0≤d∧d<n)→(∀v:Nat,v<n→l.count (v:Int)=1)→l.length=n∧∀v:Nat,v<n→(v:Int)∈l:=by
 induction n with
 | zero =>
  intro l hl _
  have:l=[]:=List.eq_nil_iff_forall_not_mem.2 (fun d hd=>by have:=hl d hd;omega)
  subst this
  exact ⟨rfl,fun v hv=>absurd hv (by omega)⟩
 | succ n ih =>
  intro l hl hc
  have hm:(n:Int)∈l:=List.count_pos_iff.1 (by rw [hc n (by omega)];omega)
  have hp:=List.perm_cons_erase hm
  have hc0:(l.erase (n:Int)).count (n:Int)=0:=by rw [List.count_erase_self,hc n (by omega)]
  have h1:∀d∈l.erase (n:Int),0≤d∧d<n:=fun d hd=>by
   have h:=hl d (List.mem_of_mem_erase hd)
   have hne:d≠n:=fun e=>by subst e;exact absurd hd (List.count_eq_zero.1 hc0)
   omega
  have h2:∀v:Nat,v<n→(l.erase (n:Int)).count (v:Int)=1:=fun v h=>by
   rw [List.count_erase_of_ne (by omega)];exact hc v (by omega)
  obtain ⟨k1,k2⟩:=ih _ h1 h2
  refine ⟨by have:=List.length_erase_of_mem hm;have:0<l.length:=List.length_pos_of_mem hm;omega,fun v h=>?_⟩
  exact List.count_pos_iff.1 (by rw [hc v h];omega)
def dstsOk (n:Int) (xs:List Blk):Bool:=xs.all fun x=>x.phis.all fun p=>fld true p.dst 0 n
theorem all_and {α:Type} (p q:α→Bool) (l:List α):l.all (fun x=>p x&&q x)=(l.all p&&l.all q):=by
 induction l with
 | nil=>rfl
 | cons x l ih=>simp only [List.all_cons,ih];cases p x<;>cases q x<;>cases l.all p<;>simp
theorem phisFrom_split (F:Fn):∀(xs:List Blk) (i:Nat),phisFrom phOkI F xs i=(dstsOk F.values xs&&phisFrom phOkS F xs i):=by
 intro xs
 induction xs with
 | nil=>intro i;rfl
 | cons x xs ih =>
  intro i
  simp only [phisFrom,dstsOk,List.all_cons,ih]
  have:x.phis.all (phOkI F.values (F.preds ↑i).length)=(x.phis.all (fun p=>fld true p.dst 0 F.values)&&x.phis.all (phOkS F.values (F.preds ↑i).length)):=all_and _ _ _
  rw [this]
  cases x.phis.all (fun p=>fld true p.dst 0 F.values)<;>cases x.phis.all (phOkS F.values (F.preds ↑i).length)<;>simp
theorem defs_range (F:Fn) (hi:instrsOk F=true):(dstsOk F.values F.blocks=true↔∀d∈blksDefs F.blocks,0≤d∧d<F.values):=by
 unfold dstsOk blksDefs
 simp only [List.all_eq_true,List.mem_flatMap,blkDefs,phDefs,insDefs,List.mem_append,List.mem_map,List.mem_filter,fld,if_true,Bool.and_eq_true,decide_eq_true_eq]
 constructor
 ·rintro h d ⟨x,hx,⟨p,hp,rfl⟩ | ⟨y,⟨hy,hd⟩,rfl⟩⟩
  ·exact h x hx p hp
  ·have:=List.all_eq_true.1 (List.all_eq_true.1 hi x hx) y hy
   simp only [insOk,hd,fld,if_true,Bool.and_eq_true,decide_eq_true_eq] at this
   omega
 ·intro h x hx p hp
  exact h _ ⟨x,hx,Or.inl ⟨p,hp,rfl⟩⟩
theorem once_cover (F:Fn) (h0:0≤F.values) (hi:instrsOk F=true):(dstsOk F.values F.blocks&&onceOk F)=coverOk F:=by
 rw [Bool.eq_iff_iff]
 obtain ⟨n,hn⟩:=Int.eq_ofNat_of_zero_le h0
 rw [Bool.and_eq_true,defs_range F hi]
 unfold onceOk coverOk
 rw [hn]
 simp only [List.all_eq_true,List.mem_range,Int.toNat_natCast,beq_iff_eq,Bool.and_eq_true,decide_eq_true_eq,List.contains_iff_mem,countEq_count]
 constructor
 ·rintro ⟨h1,h2⟩
  obtain ⟨k1,k2⟩:=cover_from n _ h1 h2
  exact ⟨by omega,k2⟩
 ·rintro ⟨h1,h2⟩
  exact cover_to n _ (by omega) h2
theorem valid_same (F:Fn):validI F=validS F:=by
 unfold validI validS phisOkI phisOkS
 rw [phisFrom_split]
 cases hs:sizeOk F
 ·simp
 cases hi:instrsOk F
 ·simp
 cases ht:termsOk F
 ·simp
 have h0:0≤F.values:=by
  simp only [sizeOk,Bool.and_eq_true,decide_eq_true_eq] at hs
  omega
 have:=once_cover F h0 hi
 rw [←this]
 cases dstsOk F.values F.blocks<;>cases phisFrom phOkS F F.blocks 0<;>simp
end Go.Proofs.YtdfdmjcngkfciaaDoor

namespace Go.Proofs.YtdfdmjcngkfciaaDoor
open Go.RowKit
def usesS (op:Int):ByteArray :=
 if op=1 then ⟨#[100,105]⟩ else if op=2 then ⟨#[100,105]⟩ else if 3≤op∧op≤7 then ⟨#[100,97,98]⟩ else if op=8 then ⟨#[100,97]⟩ else if op=11 then ⟨#[100,97]⟩
 else if op=9 then ⟨#[97,98]⟩ else if op=10 then ⟨#[97]⟩ else if op=12 then ⟨#[97]⟩ else if op=13 then ⟨#[100]⟩ else ⟨#[]⟩
theorem ret_string {a b:ByteArray} (h:a=b):Ending.returned (.string a)=.returned (.string b):=by rw [h]
set_option maxHeartbeats 1000000 in
theorem l1Uses_any (op:Int) (w:World) :
  Calls Tryd.prog 58 #[.int .i64 op] w fun e w'=>e=.returned (.string (usesS op))∧w'=w:=by
 by_cases h:1≤op∧op≤13
 ·have hc:op=1∨op=2∨op=3∨op=4∨op=5∨op=6∨op=7∨op=8∨op=9∨op=10∨op=11∨op=12∨op=13:=by omega
  rcases hc with rfl | rfl | rfl | rfl | rfl | rfl | rfl | rfl | rfl | rfl | rfl | rfl | rfl
  all_goals
   clear h
   go_enter Tryd.func58,Tryd.ntmps58
   go_wp2
   go_ret
   exact ⟨rfl,rfl⟩
 ·have h1:(op==1)=false:=by simp;omega
  have h2:(op==2)=false:=by simp;omega
  have h3:(op==3)=false:=by simp;omega
  have h4:(op==4)=false:=by simp;omega
  have h5:(op==5)=false:=by simp;omega
  have h6:(op==6)=false:=by simp;omega
  have h7:(op==7)=false:=by simp;omega
  have h8:(op==8)=false:=by simp;omega
  have h9:(op==9)=false:=by simp;omega
  have h10:(op==10)=false:=by simp;omega
  have h11:(op==11)=false:=by simp;omega
  have h12:(op==12)=false:=by simp;omega
  have h13:(op==13)=false:=by simp;omega
  have hu:Hid (usesS op=⟨#[]⟩):=by
   show _=_
   unfold usesS
   rw [if_neg (by omega),if_neg (by omega),if_neg (by omega),if_neg (by omega),if_neg (by omega),if_neg (by omega),if_neg (by omega),if_neg (by omega),if_neg (by omega)]
  clear h
  go_enter Tryd.func58,Tryd.ntmps58
  go_wp2
  go_ret
  exact ⟨ret_string hu.out.symm,rfl⟩
def hasB (s:ByteArray) (f:Int):Bool:=s.data.toList.any fun c=>(c.toNat:Int)==f
theorem hasB_yes {s:ByteArray} {f:Int} {k:Nat} (hk:k<s.size) (h:(s[k].toNat:Int)=f):hasB s f=true:=by
 unfold hasB
 rw [List.any_eq_true]
 exact ⟨s[k],by rw [Array.mem_toList_iff];exact Array.getElem_mem hk,by simp [h]⟩
theorem hasB_no {s:ByteArray} {f:Int} (h:∀j (hj:j<s.size),(s[j].toNat:Int)≠f):hasB s f=false:=by
 unfold hasB
 rw [List.any_eq_false]
 intro c hc
 obtain ⟨j,hj,rfl⟩:=Array.mem_iff_getElem.1 (Array.mem_toList_iff.1 hc)
 have:=h j hj
 rw [beq_iff_eq]
 exact this
theorem usesS_size (op:Int):(usesS op).size≤3:=by
 unfold usesS
 repeat (split<;>try decide)
set_option maxHeartbeats 400000 in
theorem l1Used_any (op f:Int) (w:World) :
  Calls Tryd.prog 42 #[.int .i64 op,.int .u8 f] w fun e w'=>e=.returned (.bool (hasB (usesS op) f))∧w'=w:=by
 go_enter Tryd.func42,Tryd.ntmps42
 go_wp2_with fail
 refine (l1Uses_any _ _).mono ?_
 rintro e w1 ⟨rfl,rfl⟩
 have hs:=usesS_size op
 generalize hS:usesS op=s at *
 have HS:=hide hS
 clear hS
 go_wp2
 go_loop [6] (fun i=>∃k:Nat,k≤s.size∧i=.int .i64 k∧Hid (∀j (hj:j<s.size),j<k→(s[j].toNat:Int)≠f)) (fun i=>s.size-(intOf i).toNat)
 case atStart=>exact ⟨0,Nat.zero_le _,rfl,fun j hj h=>absurd h (by omega)⟩
 case round =>
  obtain ⟨k,hk,rfl,hno⟩:=hrel
  by_cases hlt:k<s.size
  ·by_cases he:(s[k].toNat:Int)=f
   ·have hb:((s[k].toNat:Int)==f)=true:=by simp [he]
    have HE:=hide he
    clear he
    go_wp2
    go_ret
    exact ⟨ret_bool (by rw [unhide HS];exact (hasB_yes hlt HE.out).symm),rfl⟩
   ·have hb:((s[k].toNat:Int)==f)=false:=by simp [he]
    have HE:=hide he
    clear he
    go_wp2
    go_round
    case rel=>exact ⟨k+1,by omega,by go_num,fun j hj h=>if e:j=k then by subst e;exact HE.out else hno.out j hj (by omega)⟩
    case measure=>simp [intOf];omega
  ·go_wp2
   go_ret
   exact ⟨ret_bool (by rw [unhide HS];exact (hasB_no fun j hj=>hno.out j hj (by omega)).symm),rfl⟩
theorem hasB_d (op:Int):hasB (usesS op) 100=dB op:=by
 by_cases h:1≤op∧op≤13
 ·have hc:op=1∨op=2∨op=3∨op=4∨op=5∨op=6∨op=7∨op=8∨op=9∨op=10∨op=11∨op=12∨op=13:=by omega
  rcases hc with rfl | rfl | rfl | rfl | rfl | rfl | rfl | rfl | rfl | rfl | rfl | rfl | rfl<;>rfl
 ·unfold usesS
  rw [if_neg (by omega),if_neg (by omega),if_neg (by omega),if_neg (by omega),if_neg (by omega),if_neg (by omega),if_neg (by omega),if_neg (by omega),if_neg (by omega)]
  simp only [hasB,dB]
  rw [decide_eq_false (by omega),decide_eq_false (by omega),decide_eq_false (by omega)]
  rfl
theorem hasB_a (op:Int):hasB (usesS op) 97=aB op:=by
 by_cases h:1≤op∧op≤13
 ·have hc:op=1∨op=2∨op=3∨op=4∨op=5∨op=6∨op=7∨op=8∨op=9∨op=10∨op=11∨op=12∨op=13:=by omega
  rcases hc with rfl | rfl | rfl | rfl | rfl | rfl | rfl | rfl | rfl | rfl | rfl | rfl | rfl<;>rfl
 ·unfold usesS
  rw [if_neg (by omega),if_neg (by omega),if_neg (by omega),if_neg (by omega),if_neg (by omega),if_neg (by omega),if_neg (by omega),if_neg (by omega),if_neg (by omega)]
  simp only [hasB,aB]
  rw [decide_eq_false (by omega)]
  rfl
theorem hasB_b (op:Int):hasB (usesS op) 98=bB op:=by
 by_cases h:1≤op∧op≤13
 ·have hc:op=1∨op=2∨op=3∨op=4∨op=5∨op=6∨op=7∨op=8∨op=9∨op=10∨op=11∨op=12∨op=13:=by omega
  rcases hc with rfl | rfl | rfl | rfl | rfl | rfl | rfl | rfl | rfl | rfl | rfl | rfl | rfl<;>rfl
 ·unfold usesS
  rw [if_neg (by omega),if_neg (by omega),if_neg (by omega),if_neg (by omega),if_neg (by omega),if_neg (by omega),if_neg (by omega),if_neg (by omega),if_neg (by omega)]
  simp only [hasB,bB]
  rw [decide_eq_false (by omega),decide_eq_false (by omega)]
  rfl
theorem usedD (op:Int) (w:World):Calls Tryd.prog 42 #[.int .i64 op,.int .u8 100] w fun e w'=>e=.returned (.bool (dB op))∧w'=w:=by rw [←hasB_d];exact l1Used_any op 100 w
theorem usedA (op:Int) (w:World):Calls Tryd.prog 42 #[.int .i64 op,.int .u8 97] w fun e w'=>e=.returned (.bool (aB op))∧w'=w:=by rw [←hasB_a];exact l1Used_any op 97 w
theorem usedB (op:Int) (w:World):Calls Tryd.prog 42 #[.int .i64 op,.int .u8 98] w fun e w'=>e=.returned (.bool (bB op))∧w'=w:=by rw [←hasB_b];exact l1Used_any op 98 w
end Go.Proofs.YtdfdmjcngkfciaaDoor

namespace Go.Proofs.YtdfdmjcngkfciaaDoor
open Go.RowKit
set_option maxHeartbeats 400000 in
theorem targetsS_any (t:Ter) (w:World) :
  Calls Tryd.prog 43 #[.agg #[.int .i64 t.kind,.int .i64 t.a,.int .i64 t.to,.int .i64 t.els]] w fun e w'=>∃a c,e=.returned (.slice a t.targets.length c)∧Below w.heap.size w w'∧IntsAt w' w.heap.size w'.heap.size a t.targets:=by
 obtain ⟨kind,ta,to,els⟩:=t
 by_cases h1:kind=1
 ·subst h1
  go_enter Tryd.func43,Tryd.ntmps43
  go_wp2
  go_ret
  refine ⟨_,_,rfl,balloc (balloc (Below.refl _ _) _) _,fun i hi=>?_⟩
  simp [Ter.targets] at hi
  subst hi
  exact ⟨_,_,rfl,⟨by simp,by simp⟩,by simp [Ter.targets]⟩
 ·by_cases h2:kind=2
  ·subst h2
   go_enter Tryd.func43,Tryd.ntmps43
   go_wp2
   go_ret
   refine ⟨_,_,rfl,balloc (balloc (Below.refl _ _) _) _,fun i hi=>?_⟩
   simp [Ter.targets] at hi
   match i,hi with
   | 0,_=>exact ⟨_,_,rfl,⟨by simp,by simp⟩,by simp [Ter.targets]⟩
   | 1,_=>exact ⟨_,_,rfl,⟨by simp,by simp⟩,by simp [Ter.targets]⟩
  ·have e1:(kind==1)=false:=by simp [h1]
   have e2:(kind==2)=false:=by simp [h2]
   have hn:(Ter.targets ⟨kind,ta,to,els⟩)=[]:=by simp [Ter.targets,h1,h2]
   rw [hn]
   clear h1 h2 hn
   go_enter Tryd.func43,Tryd.ntmps43
   go_wp2
   go_ret
   exact ⟨_,_,rfl,balloc (balloc (Below.refl _ _) _) _,fun i hi=>absurd hi (by simp)⟩
end Go.Proofs.YtdfdmjcngkfciaaDoor

namespace Go.Proofs.YtdfdmjcngkfciaaDoor
open Go.RowKit
def inB (lo hi x:Int):Bool:=decide (lo≤x)&&decide (x<hi)
theorem terOk_1 (n lo bl a to els:Int):terOk n lo bl ⟨1,a,to,els⟩=(a==0&&inB lo bl to&&els==0):=by simp [terOk,fld,inB]
theorem terOk_2 (n lo bl a to els:Int):terOk n lo bl ⟨2,a,to,els⟩=(inB 0 n a&&inB lo bl to&&inB lo bl els):=by simp [terOk,fld,inB]
theorem terOk_3 (n lo bl a to els:Int):terOk n lo bl ⟨3,a,to,els⟩=(inB 0 n a&&to==0&&els==0):=by simp [terOk,fld,inB]
theorem terOk_no {n lo bl k a to els:Int} (h:¬(1≤k∧k≤3)):terOk n lo bl ⟨k,a,to,els⟩=false:=by
 unfold terOk
 by_cases h1:1≤k
 ·rw [decide_eq_false (p:=k≤3) (by omega)];simp
 ·rw [decide_eq_false (p:=1≤k) h1];simp
theorem all_take_next {α:Type} {p:α→Bool} {xs:List α} {k:Nat} (hk:k<xs.length) (h:(xs.take k).all p=true) (hp:p xs[k]=true):(xs.take (k+1)).all p=true:=by
 rw [take_next xs k hk,List.all_append,h];simp [hp]
theorem all_no {α:Type} {p:α→Bool} {xs:List α} {k:Nat} (hk:k<xs.length) (hp:p xs[k]=false):xs.all p=false:=by
 rw [List.all_eq_false];exact ⟨_,List.getElem_mem hk,by simp [hp]⟩
theorem all_whole {α:Type} {p:α→Bool} {xs:List α} {k:Nat} (hk:xs.length≤k) (h:(xs.take k).all p=true):xs.all p=true:=by
 rwa [List.take_of_length_le hk] at h
set_option maxHeartbeats 1000000 in
theorem goodTerm_loop (kind ta to els n low bl:Int) (w:World) (ts:List Int) (R:Bool) (hts:Hid ((Ter.mk kind ta to els).targets=ts)) (hlen:ts.length≤2) (hk1:1≤kind) (hk3:kind≤3)
  (c1:Hid (kind=1→ta=0∧els=0)) (c3:Hid (kind=3→to=0∧els=0)) (c2:Hid (kind≠1→0≤ta∧ta<n)) (hR:Hid (ts.all (inB low bl)=R)) :
  Calls Tryd.prog 23 #[.agg #[.int .i64 kind,.int .i64 ta,.int .i64 to,.int .i64 els],.int .i64 n,.int .i64 low,.int .i64 bl] w fun e w'=>e=.returned (.bool R)∧Below w.heap.size w w':=by
 have hc:kind=1∨kind=2∨kind=3:=by omega
 have hb0:=hide hlen
 rcases hc with rfl | rfl | rfl
 ·obtain ⟨rfl,rfl⟩:=c1.out rfl
  clear c1 c2 c3
  go_enter Tryd.func23,Tryd.ntmps23
  go_wp2_with (go_at_call 43;refine (targetsS_any ⟨_,_,_,_⟩ _).mono ?_;rintro e w1 ⟨a,c,rfl,hb1,hi1⟩;rw [unhide hts] at hi1 ⊢;have HI:=hide hi1;clear hi1)
  go_loop [10] (fun i=>∃k:Nat,k≤ts.length∧i=.int .i64 k∧Hid ((ts.take k).all (inB low bl)=true)) (fun i=>ts.length-(intOf i).toNat)
  case atStart=>exact ⟨0,Nat.zero_le _,rfl,rfl⟩
  case round =>
   obtain ⟨k,hk,rfl,hall⟩:=hrel
   by_cases hlt:k<ts.length
   ·obtain ⟨b,o,rfl,_,hc⟩:=HI.out k hlt
    by_cases hx:low≤ts[k]∧ts[k]<bl
    ·obtain ⟨hx1,hx2⟩:=hx
     go_wp2
     go_round
     case rel=>exact ⟨k+1,by omega,by go_num,all_take_next hlt hall.out (by simp [inB,hx1,hx2])⟩
     case measure=>simp [intOf];omega
    ·go_wp2
     all_goals
      go_ret
      exact ⟨ret_bool (by rw [←hR.out];exact (all_no hlt (by unfold inB;rw [Bool.and_eq_false_iff,decide_eq_false_iff_not,decide_eq_false_iff_not];omega)).symm),bnext (balloc (Below.refl _ _) _) hb1⟩
   ·go_wp2
    go_ret
    exact ⟨ret_bool (by rw [←hR.out];exact (all_whole (by omega) hall.out).symm),bnext (balloc (Below.refl _ _) _) hb1⟩
 ·obtain ⟨d1,d2⟩:=c2.out (by decide)
  clear c1 c2 c3
  go_enter Tryd.func23,Tryd.ntmps23
  go_wp2_with (go_at_call 43;refine (targetsS_any ⟨_,_,_,_⟩ _).mono ?_;rintro e w1 ⟨a,c,rfl,hb1,hi1⟩;rw [unhide hts] at hi1 ⊢;have HI:=hide hi1;clear hi1)
  go_loop [10] (fun i=>∃k:Nat,k≤ts.length∧i=.int .i64 k∧Hid ((ts.take k).all (inB low bl)=true)) (fun i=>ts.length-(intOf i).toNat)
  case atStart=>exact ⟨0,Nat.zero_le _,rfl,rfl⟩
  case round =>
   obtain ⟨k,hk,rfl,hall⟩:=hrel
   by_cases hlt:k<ts.length
   ·obtain ⟨b,o,rfl,_,hc⟩:=HI.out k hlt
    by_cases hx:low≤ts[k]∧ts[k]<bl
    ·obtain ⟨hx1,hx2⟩:=hx
     go_wp2
     go_round
     case rel=>exact ⟨k+1,by omega,by go_num,all_take_next hlt hall.out (by simp [inB,hx1,hx2])⟩
     case measure=>simp [intOf];omega
    ·go_wp2
     all_goals
      go_ret
      exact ⟨ret_bool (by rw [←hR.out];exact (all_no hlt (by unfold inB;rw [Bool.and_eq_false_iff,decide_eq_false_iff_not,decide_eq_false_iff_not];omega)).symm),bnext (balloc (Below.refl _ _) _) hb1⟩
   ·go_wp2
    go_ret
    exact ⟨ret_bool (by rw [←hR.out];exact (all_whole (by omega) hall.out).symm),bnext (balloc (Below.refl _ _) _) hb1⟩
 ·obtain ⟨d1,d2⟩:=c2.out (by decide)
  obtain ⟨rfl,rfl⟩:=c3.out rfl
  clear c1 c2 c3
  go_enter Tryd.func23,Tryd.ntmps23
  go_wp2_with (go_at_call 43;refine (targetsS_any ⟨_,_,_,_⟩ _).mono ?_;rintro e w1 ⟨a,c,rfl,hb1,hi1⟩;rw [unhide hts] at hi1 ⊢;have HI:=hide hi1;clear hi1)
  go_loop [10] (fun i=>∃k:Nat,k≤ts.length∧i=.int .i64 k∧Hid ((ts.take k).all (inB low bl)=true)) (fun i=>ts.length-(intOf i).toNat)
  case atStart=>exact ⟨0,Nat.zero_le _,rfl,rfl⟩
  case round =>
   obtain ⟨k,hk,rfl,hall⟩:=hrel
   by_cases hlt:k<ts.length
   ·have:=hts.out
    simp [Ter.targets] at this
    subst this
    simp at hlt
   ·go_wp2
    go_ret
    exact ⟨ret_bool (by rw [←hR.out];exact (all_whole (by omega) hall.out).symm),bnext (balloc (Below.refl _ _) _) hb1⟩
set_option maxHeartbeats 1000000 in
theorem goodTerm_no (kind ta to els n low bl:Int) (w:World) (h:¬(1≤kind∧kind≤3)∨(kind=1∧¬(ta=0∧els=0))∨(kind=3∧¬(to=0∧els=0))∨(1≤kind∧kind≤3∧kind≠1∧¬(0≤ta∧ta<n))) :
  Calls Tryd.prog 23 #[.agg #[.int .i64 kind,.int .i64 ta,.int .i64 to,.int .i64 els],.int .i64 n,.int .i64 low,.int .i64 bl] w fun e w'=>e=.returned (.bool false)∧Below w.heap.size w w':=by
 by_cases hk:1≤kind∧kind≤3
 ·have hc:kind=1∨kind=2∨kind=3:=by omega
  rcases hc with rfl | rfl | rfl
  ·have h1:¬(ta=0∧els=0):=by omega
   clear h hk
   by_cases h2:ta=0
   ·subst h2
    have h3:(els != 0)=true:=by simp at h1;simp [h1]
    clear h1
    go_enter Tryd.func23,Tryd.ntmps23
    go_wp2
    go_ret
    exact ⟨rfl,balloc (Below.refl _ _) _⟩
   ·have h3:(ta != 0)=true:=by simp [h2]
    clear h1 h2
    go_enter Tryd.func23,Tryd.ntmps23
    go_wp2
    go_ret
    exact ⟨rfl,balloc (Below.refl _ _) _⟩
  ·have h1:ta<0∨n≤ta:=by omega
   clear h hk
   go_enter Tryd.func23,Tryd.ntmps23
   go_wp2
   all_goals
    go_ret
    exact ⟨rfl,balloc (Below.refl _ _) _⟩
  ·by_cases h1:to=0∧els=0
   ·obtain ⟨rfl,rfl⟩:=h1
    have h1:ta<0∨n≤ta:=by omega
    clear h hk
    go_enter Tryd.func23,Tryd.ntmps23
    go_wp2
    all_goals
     go_ret
     exact ⟨rfl,balloc (Below.refl _ _) _⟩
   ·clear h hk
    by_cases h2:to=0
    ·subst h2
     have h3:(els != 0)=true:=by simp at h1;simp [h1]
     clear h1
     go_enter Tryd.func23,Tryd.ntmps23
     go_wp2
     go_ret
     exact ⟨rfl,balloc (Below.refl _ _) _⟩
    ·have h3:(to != 0)=true:=by simp [h2]
     clear h1 h2
     go_enter Tryd.func23,Tryd.ntmps23
     go_wp2
     go_ret
     exact ⟨rfl,balloc (Below.refl _ _) _⟩
 ·have h1:kind<1∨3<kind:=by omega
  clear h hk
  go_enter Tryd.func23,Tryd.ntmps23
  go_wp2
  all_goals
   go_ret
   exact ⟨rfl,balloc (Below.refl _ _) _⟩
theorem goodTerm_any (kind ta to els n low bl:Int) (w:World) :
  Calls Tryd.prog 23 #[.agg #[.int .i64 kind,.int .i64 ta,.int .i64 to,.int .i64 els],.int .i64 n,.int .i64 low,.int .i64 bl] w fun e w'=>e=.returned (.bool (terOk n low bl ⟨kind,ta,to,els⟩))∧Below w.heap.size w w':=by
 by_cases hk:1≤kind∧kind≤3
 ·have hc:kind=1∨kind=2∨kind=3:=by omega
  rcases hc with rfl | rfl | rfl
  ·rw [terOk_1]
   by_cases h:ta=0∧els=0
   ·exact goodTerm_loop 1 ta to els n low bl w [to] _ rfl (by simp) (by decide) (by decide) (fun _=>h) (fun e=>by omega) (fun e=>absurd rfl e) (by obtain ⟨rfl,rfl⟩:=h;show _=_;simp)
   ·have e:(ta==0&&inB low bl to&&els==0)=false:=by
     by_cases h1:ta=0
     ·have:els≠0:=fun e=>h ⟨h1,e⟩
      simp [this]
     ·simp [h1]
    rw [e]
    exact goodTerm_no 1 ta to els n low bl w (Or.inr (Or.inl ⟨rfl,h⟩))
  ·rw [terOk_2]
   by_cases h:0≤ta∧ta<n
   ·exact goodTerm_loop 2 ta to els n low bl w [to,els] _ rfl (by simp) (by decide) (by decide) (fun e=>by omega) (fun e=>by omega) (fun _=>h) (by show _=_;simp [inB,h.1,h.2])
   ·have e:inB 0 n ta=false:=by unfold inB;rw [Bool.and_eq_false_iff,decide_eq_false_iff_not,decide_eq_false_iff_not];omega
    rw [e]
    exact goodTerm_no 2 ta to els n low bl w (by omega)
  ·rw [terOk_3]
   by_cases h:0≤ta∧ta<n
   ·by_cases h2:to=0∧els=0
    ·exact goodTerm_loop 3 ta to els n low bl w [] _ rfl (by simp) (by decide) (by decide) (fun e=>by omega) (fun _=>h2) (fun _=>h) (by obtain ⟨rfl,rfl⟩:=h2;show _=_;simp [inB,h.1,h.2])
    ·have e:(inB 0 n ta&&to==0&&els==0)=false:=by
      by_cases h1:to=0
      ·have:els≠0:=fun e=>h2 ⟨h1,e⟩
       simp [this]
      ·simp [h1]
     rw [e]
     exact goodTerm_no 3 ta to els n low bl w (by omega)
   ·have e:inB 0 n ta=false:=by unfold inB;rw [Bool.and_eq_false_iff,decide_eq_false_iff_not,decide_eq_false_iff_not];omega
    rw [e]
    exact goodTerm_no 3 ta to els n low bl w (by omega)
 ·rw [terOk_no hk]
  exact goodTerm_no kind ta to els n low bl w (Or.inl hk)
end Go.Proofs.YtdfdmjcngkfciaaDoor
