import Derived.Test.YtkehcdfalcakmaaGreatDoorRT5
import Derived.Shelf.Bytes.Small
import Derived.Shelf.Lay
import Derived.Ground.NamesProg
import Derived.Lib.SlSplitV
import Derived.Lib.CountLaws
import Derived.Shelf.Bytes.SlSplit
import Derived.Ground.SlbSplitProg
import Derived.Lib.SplitLaws
import Derived.WalkSmall
namespace Go.Proofs.YtkehcdfalcakmaaGreatDoor
set_option maxHeartbeats 1000000
set_option maxRecDepth 100000
open Go.RowKit
def numV(bs:List UInt8)(most:Nat):Int:=if digitsOk bs most=true then (amount bs:Int)else 0
theorem Jw(a:Option Addr)(n c most:Nat)(bs:List UInt8)(L B:Nat)(w:World)(ha:Hid (XE w L B a bs))(hx:Hid (n=bs.length))(hm:most<=10)(hn:n<=1000000)(hB:B<=w.heap.size) :
 Calls Tryz.prog 83 #[.slice a n c,.int .i64 most] w fun e w'=>e=.returned (.tuple #[.int .i64 (numV bs most),.bool (digitsOk bs most)])/\Below w.heap.size w w':=by
 by_cases h0:n=0
 ·have HR:Hid (digitsOk bs most=false/\numV bs most=0):=Xa (by
   have h:digitsOk bs most=false:=by unfold digitsOk;simp[<-hx.out,h0]
   exact⟨h,by unfold numV;rw[h];rfl⟩)
  subst h0
  go_enter Tryz.func83,Tryz.ntmps83
  go_wp2;refine bodyPost_ret (v:=.tuple #[.int .i64 0,.bool false]) (by simp[results,Tryz.results83,go_sem]) rfl ⟨by rw[HR.1,HR.2],Below.refl _ _⟩
 by_cases h1:most<n
 ·have HR:Hid (digitsOk bs most=false/\numV bs most=0):=Xa (by
   have h:digitsOk bs most=false:=by unfold digitsOk;rw[<-hx.out];simp[h1]
   exact⟨h,by unfold numV;rw[h];rfl⟩)
  go_enter Tryz.func83,Tryz.ntmps83
  go_wp2
  all_goals
   refine bodyPost_ret (v:=.tuple #[.int .i64 0,.bool false]) (by simp[results,Tryz.results83,go_sem]) rfl ⟨by rw[HR.1,HR.2],Below.refl _ _⟩
 have hbl:0<bs.length:=by have:=hx.out;omega
 obtain⟨b,o,rfl,hb0,hc0⟩:=ha.out 0 hbl;have hbw:b<w.heap.size:=by omega
 have hn0:((n:Int)==0)=false:=by rw[beq_eq_false_iff_ne];omega
 have hnm:¬((most:Int)<(n:Int)):=by omega
 have HH:Hid ((bs.head? == some 48)=decide ((bs[0].toNat:Int)=48)):=Xa (by
  cases bs with
  | nil=>simp at hbl
  | cons c r =>
   by_cases hc:c=48
   ·subst hc;rfl
   ·have:¬((c.toNat:Int)=48):=fun h=>hc (UInt8.toNat_inj.1 (by show c.toNat=48;omega))
    simp[hc,this])
 have HREST:Hid (((bs[0].toNat:Int)=48/\1<n->digitsOk bs most=false)/\(¬((bs[0].toNat:Int)=48/\1<n)->digitsOk bs most=bs.all Ya)):=Xa (by
  have hxl:=hx.out;constructor
  ·rintro⟨q1,q2⟩
   unfold digitsOk;rw[HH.out];simp[q1,show 1<bs.length by omega]
  ·intro hz
   unfold digitsOk;rw[HH.out];have e1:(bs.length==0)=false:=by rw[beq_eq_false_iff_ne];omega
   have e2:decide (most<bs.length)=false:=by rw[decide_eq_false_iff_not];omega
   have e3:(decide ((bs[0].toNat:Int)=48)&&decide (1<bs.length))=false:=by
    rw[Bool.and_eq_false_iff];by_cases q:(bs[0].toNat:Int)=48
    ·exact Or.inr (by rw[decide_eq_false_iff_not];intro h;exact hz ⟨q,by omega⟩)
    ·exact Or.inl (by rw[decide_eq_false_iff_not];exact q)
   rw[e1,e2,e3];rfl)
 have c0:w.cell? ⟨b,o,none⟩=some (.int .u8 (bs[0].toNat:Int)):=hc0;generalize (bs[0].toNat:Int)=Z at *;clear hc0 HH;by_cases hz:Z=48/\1<n
 ·have HR:Hid (digitsOk bs most=false/\numV bs most=0):=Xa (by
   have h:=HREST.1 hz;exact⟨h,by unfold numV;rw[h];rfl⟩)
  obtain⟨z1,z2⟩:=hz;have z3:(1:Int)<(n:Int):=by omega
  go_enter Tryz.func83,Tryz.ntmps83
  go_wp2
  all_goals
   refine bodyPost_ret (v:=.tuple #[.int .i64 0,.bool false]) (by simp[results,Tryz.results83,go_sem]) rfl ⟨by rw[HR.1,HR.2],Below.refl _ _⟩
 have HD:=Xa (HREST.2 hz);have hz':((Z==48)=false)\/((Z==48)=true/\¬((1:Int)<(n:Int))):=by
  by_cases q:Z=48
  ·exact Or.inr ⟨by rw[beq_iff_eq];exact q,fun h=>hz ⟨q,by omega⟩⟩
  ·exact Or.inl (by rw[beq_eq_false_iff_ne];exact q)
 clear hz HREST;rcases hz' with z1 | ⟨z1,z2⟩
 ·go_enter Tryz.func83,Tryz.ntmps83
  go_wp2
  go_loopw [6,31] (fun x i wr=>∃k:Nat,k<=n/\i=.int .i64 k/\x=.int .i64 (amount (bs.take k):Nat)/\Hid (Below w.heap.size w wr)/\Hid ((bs.take k).all Ya=true)) (fun _ i _=>n-(intOf i).toNat)
  case atStart=>exact⟨0,Nat.zero_le _,rfl,rfl,Xa (Below.refl _ _),Xa rfl⟩
  case round =>
   obtain⟨k,hk,rfl,rfl,HB,HA⟩:=hrel;by_cases hlt:k<n
   ·have hkx:k<bs.length:=by have:=hx.out;omega
    obtain⟨b',o',e',_,hc'⟩:=ha.out k hkx;cases e';have ck:wr.cell? ⟨b,o+k,none⟩=some (.int .u8 (bs[k].toNat:Int)):=(HB.cell (p:=⟨b,o+k,none⟩) hbw).trans hc';have HDG:Hid (Ya bs[k]=true↔¬(bs[k].toNat:Int)<48/\¬(57:Int)<(bs[k].toNat:Int)):=Xa (by simp only[Ya,Bool.and_eq_true,decide_eq_true_eq];omega);have HT:Hid ((bs.take (k+1)).all Ya=((bs.take k).all Ya&&Ya bs[k])):=Xa (by rw[List.take_succ_eq_append_getElem hkx,List.all_append];simp);have HAM:Hid ((amount (bs.take (k+1)):Int)=amount (bs.take k)*10+((bs[k].toNat-48:Nat):Int)):=Xa (by rw[List.take_succ_eq_append_getElem hkx,Va];omega);have HF:Hid (Ya bs[k]=false->digitsOk bs most=false/\numV bs most=0):=Xa (fun h=>by
     have h2:digitsOk bs most=false:=HD.trans (by
      rw[List.all_eq_false];exact⟨bs[k],List.getElem_mem hkx,by rw[h];simp⟩)
     exact⟨h2,by unfold numV;rw[h2];rfl⟩)
    have HAB:Hid ((amount (bs.take k):Int)<10000000000):=Xa (by
     have h1:=WF (bs.take k) HA.out;have h2:10 ^ (bs.take k).length<=10 ^ 10:=Nat.pow_le_pow_right (by decide) (by simp only[List.length_take];omega);have h3:(10:Nat) ^ 10=10000000000:=by decide
     omega)
    clear hc';by_cases c1:(bs[k].toNat:Int)<48
    ·have HV:=Xa (HF.out (by cases h:Ya bs[k]with | false=>rfl | true=>exact absurd c1 (HDG.1 h).1))
     go_wp2;refine bodyPost_ret (v:=.tuple #[.int .i64 0,.bool false]) (by simp[results,Tryz.results83,go_sem]) rfl ⟨by rw[HV.1,HV.2],HB.out⟩
    ·by_cases c2:(57:Int)<(bs[k].toNat:Int)
     ·have HV:=Xa (HF.out (by cases h:Ya bs[k]with | false=>rfl | true=>exact absurd c2 (HDG.1 h).2))
      go_wp2;refine bodyPost_ret (v:=.tuple #[.int .i64 0,.bool false]) (by simp[results,Tryz.results83,go_sem]) rfl ⟨by rw[HV.1,HV.2],HB.out⟩
     ·have HA2:Hid ((bs.take (k+1)).all Ya=true):=Xa (by rw[HT.out,HA.out,HDG.2 ⟨c1,c2⟩];rfl)
      have e1:IntKind.u8.wrap ((bs[k].toNat:Int)-48)=(bs[k].toNat:Int)-48:=by simp[IntKind.wrap,IntKind.signed,IntKind.bits];omega
      have e2:IntKind.i64.wrap ((bs[k].toNat:Int)-48)=(bs[k].toNat:Int)-48:=by rw[IntKind.wrap_i64];omega
      have e3:IntKind.i64.wrap ((amount (bs.take k):Int)*10)=(amount (bs.take k):Int)*10:=by rw[IntKind.wrap_i64];have:=HAB.out;omega
      have HS:Hid (IntKind.i64.wrap ((amount (bs.take k):Int)*10+((bs[k].toNat:Int)-48))=(amount (bs.take (k+1)):Int)):=Xa (by rw[HAM.out,IntKind.wrap_i64];have:=HAB.out;omega);have hs:=HS.out;go_wp2;exact⟨⟨k+1,by omega,by go_num,rfl,HB,HA2⟩,by simp[intOf];omega⟩
   ·have HV:Hid (digitsOk bs most=true/\numV bs most=amount (bs.take k)):=Xa (by
     have e:bs.take k=bs:=List.take_of_length_le (by have:=hx.out;omega);have h2:digitsOk bs most=true:=by rw[HD.out];have:=HA.out;rwa[e]at this
     exact⟨h2,by unfold numV;rw[h2,e];rfl⟩)
    go_wp2;refine bodyPost_ret (v:=.tuple #[.int .i64 (amount (bs.take k):Nat),.bool true]) (by simp[results,Tryz.results83,go_sem]) rfl ⟨by rw[HV.1,HV.2],HB.out⟩
 ·go_enter Tryz.func83,Tryz.ntmps83
  go_wp2
  go_loopw [6,31] (fun x i wr=>∃k:Nat,k<=n/\i=.int .i64 k/\x=.int .i64 (amount (bs.take k):Nat)/\Hid (Below w.heap.size w wr)/\Hid ((bs.take k).all Ya=true)) (fun _ i _=>n-(intOf i).toNat)
  case atStart=>exact⟨0,Nat.zero_le _,rfl,rfl,Xa (Below.refl _ _),Xa rfl⟩
  case round =>
   obtain⟨k,hk,rfl,rfl,HB,HA⟩:=hrel;by_cases hlt:k<n
   ·have hkx:k<bs.length:=by have:=hx.out;omega
    obtain⟨b',o',e',_,hc'⟩:=ha.out k hkx;cases e';have ck:wr.cell? ⟨b,o+k,none⟩=some (.int .u8 (bs[k].toNat:Int)):=(HB.cell (p:=⟨b,o+k,none⟩) hbw).trans hc';have HDG:Hid (Ya bs[k]=true↔¬(bs[k].toNat:Int)<48/\¬(57:Int)<(bs[k].toNat:Int)):=Xa (by simp only[Ya,Bool.and_eq_true,decide_eq_true_eq];omega);have HT:Hid ((bs.take (k+1)).all Ya=((bs.take k).all Ya&&Ya bs[k])):=Xa (by rw[List.take_succ_eq_append_getElem hkx,List.all_append];simp);have HAM:Hid ((amount (bs.take (k+1)):Int)=amount (bs.take k)*10+((bs[k].toNat-48:Nat):Int)):=Xa (by rw[List.take_succ_eq_append_getElem hkx,Va];omega);have HF:Hid (Ya bs[k]=false->digitsOk bs most=false/\numV bs most=0):=Xa (fun h=>by
     have h2:digitsOk bs most=false:=HD.trans (by
      rw[List.all_eq_false];exact⟨bs[k],List.getElem_mem hkx,by rw[h];simp⟩)
     exact⟨h2,by unfold numV;rw[h2];rfl⟩)
    have HAB:Hid ((amount (bs.take k):Int)<10000000000):=Xa (by
     have h1:=WF (bs.take k) HA.out;have h2:10 ^ (bs.take k).length<=10 ^ 10:=Nat.pow_le_pow_right (by decide) (by simp only[List.length_take];omega);have h3:(10:Nat) ^ 10=10000000000:=by decide
     omega)
    clear hc';by_cases c1:(bs[k].toNat:Int)<48
    ·have HV:=Xa (HF.out (by cases h:Ya bs[k]with | false=>rfl | true=>exact absurd c1 (HDG.1 h).1))
     go_wp2;refine bodyPost_ret (v:=.tuple #[.int .i64 0,.bool false]) (by simp[results,Tryz.results83,go_sem]) rfl ⟨by rw[HV.1,HV.2],HB.out⟩
    ·by_cases c2:(57:Int)<(bs[k].toNat:Int)
     ·have HV:=Xa (HF.out (by cases h:Ya bs[k]with | false=>rfl | true=>exact absurd c2 (HDG.1 h).2))
      go_wp2;refine bodyPost_ret (v:=.tuple #[.int .i64 0,.bool false]) (by simp[results,Tryz.results83,go_sem]) rfl ⟨by rw[HV.1,HV.2],HB.out⟩
     ·have HA2:Hid ((bs.take (k+1)).all Ya=true):=Xa (by rw[HT.out,HA.out,HDG.2 ⟨c1,c2⟩];rfl)
      have e1:IntKind.u8.wrap ((bs[k].toNat:Int)-48)=(bs[k].toNat:Int)-48:=by simp[IntKind.wrap,IntKind.signed,IntKind.bits];omega
      have e2:IntKind.i64.wrap ((bs[k].toNat:Int)-48)=(bs[k].toNat:Int)-48:=by rw[IntKind.wrap_i64];omega
      have e3:IntKind.i64.wrap ((amount (bs.take k):Int)*10)=(amount (bs.take k):Int)*10:=by rw[IntKind.wrap_i64];have:=HAB.out;omega
      have HS:Hid (IntKind.i64.wrap ((amount (bs.take k):Int)*10+((bs[k].toNat:Int)-48))=(amount (bs.take (k+1)):Int)):=Xa (by rw[HAM.out,IntKind.wrap_i64];have:=HAB.out;omega);have hs:=HS.out;go_wp2;exact⟨⟨k+1,by omega,by go_num,rfl,HB,HA2⟩,by simp[intOf];omega⟩
   ·have HV:Hid (digitsOk bs most=true/\numV bs most=amount (bs.take k)):=Xa (by
     have e:bs.take k=bs:=List.take_of_length_le (by have:=hx.out;omega);have h2:digitsOk bs most=true:=by rw[HD.out];have:=HA.out;rwa[e]at this
     exact⟨h2,by unfold numV;rw[h2,e];rfl⟩)
    go_wp2;refine bodyPost_ret (v:=.tuple #[.int .i64 (amount (bs.take k):Nat),.bool true]) (by simp[results,Tryz.results83,go_sem]) rfl ⟨by rw[HV.1,HV.2],HB.out⟩
theorem ZQ(a:Option Addr)(n c:Nat)(bs:List UInt8)(L B:Nat)(w:World)(ha:Hid (XE w L B a bs))(hx:Hid (n=bs.length))(hn:n<=1000000)(hB:B<=w.heap.size) :
 Calls Tryz.prog 65 #[.slice a n c] w fun e w'=>e=.returned (.tuple #[.int .i64 (numV bs 4),.bool (digitsOk bs 4)])/\Below w.heap.size w w':=by
 have HC:=Xa (Jw a n c 4 bs L B w ha hx (by decide) hn hB);generalize numV bs 4=V at *;generalize digitsOk bs 4=D at *
 go_enter Tryz.func65,Tryz.ntmps65
 go_wp2_with (go_at_call 83;refine HC.mono ?_;rintro e w1 ⟨rfl,hb1⟩)
 refine bodyPost_ret (v:=.tuple #[.int .i64 V,.bool D]) (by simp[results,Tryz.results65,go_sem]) rfl ⟨rfl,hb1⟩
end Go.Proofs.YtkehcdfalcakmaaGreatDoor
namespace Go.Proofs.YtkehcdfalcakmaaGreatDoor
set_option maxHeartbeats 2000000
set_option maxRecDepth 100000
open Go.RowKit Go.Shelf
shelf_lay Lays.nb141 Nm 141 at Tryz as Tryz.laysCP
theorem Jc(bs:List UInt8):Lib.bytesOf (bs.map fun x=>(x.toNat:Int))=bs:=by
 unfold Lib.bytesOf;rw[List.map_map];have:((fun n:Int=>UInt8.ofNat n.toNat) ∘ fun x:UInt8=>(x.toNat:Int))=id:=by
  funext x;simp
 rw[this,List.map_id]
theorem Zeq(f:List UInt8):∀a:Nat,a<=f.foldl (fun a c=>a*10+(c.toNat-48)) a:=by
 induction f with
 | nil=>intro a;exact Nat.le_refl _
 | cons c r ih=>intro a;rw[List.foldl_cons];exact Nat.le_trans (by omega) (ih _)
theorem ZdU(r:List UInt8):Tx (45::r)=(digitsOk r 10&&decide (amount r<=1000000000)&&decide (amount r≠0)):=by
 cases r with
 | nil=>rfl
 | cons c s =>
  rw[Zgs];cases hd:digitsOk (c::s) 10 with
  | false =>
   by_cases h45:c=45
   ·subst h45;simp
   ·rw[ZaE (c::s) (fun d r e=>h45 (by cases e;rfl)),hd];simp
  | true =>
   have hq:=ZcC hd;have hc:Ya c=true:=by have:=hq.2.1;rw[List.all_cons,Bool.and_eq_true]at this;exact this.1
   simp only[Ya,Bool.and_eq_true,decide_eq_true_eq]at hc;have h45:c≠45:=fun e=>by subst e;simp at hc
   rw[ZaE (c::s) (fun d r e=>h45 (by cases e;rfl)),hd];have e45:(c != 45)=true:=by rw[bne_iff_ne];exact h45
   rw[e45,Bool.and_true,Bool.true_and];by_cases h48:c=48
   ·have hs:s=[]:=by
     unfold digitsOk at hd;simp only[Bool.and_eq_true,Bool.not_eq_true',Bool.or_eq_false_iff,Bool.and_eq_false_iff]at hd;have:=hd.1.2;subst h48;rcases this with q | q
     ·simp at q
     ·simp at q;exact q
    subst hs;subst h48;rfl
   ·have e48:(c != 48)=true:=by rw[bne_iff_ne];exact h48
    have hne:amount (c::s)≠0:=by
     have h1:=Zeq s (0*10+(c.toNat-48));have h2:c.toNat≠48:=fun e=>h48 (UInt8.toNat_inj.1 e)
     have h3:amount (c::s)=s.foldl (fun a c=>a*10+(c.toNat-48)) (0*10+(c.toNat-48)):=rfl;omega
    rw[e48,decide_eq_true hne,Bool.true_and,Bool.and_true]
def K7(f:List UInt8):Int:=if Tx f=true then J0 f else 0
theorem Uk(b o n c b2:Nat)(bs:List UInt8)(w:World)(hx:n=bs.length)(hnc:n<=c)(ha:∀i (h:i<bs.length),w.cell? ⟨b,o+i,none⟩=some (.int .u8 (bs[i].toNat:Int)))(h2:w.cell? ⟨b2,0,none⟩=some (.int .u8 45)) :
 Calls Tryz.prog 115 #[.slice (some ⟨b,o,none⟩) n c,.slice (some ⟨b2,0,none⟩) 1 1] w fun e w'=>e=.returned (.tuple #[if bs.head?=some 45 then .slice (if c=1 then some ⟨b,o,none⟩else some ⟨b,o+1,none⟩) (n-1) (c-1)else .slice (some ⟨b,o,none⟩) n c,.bool (decide (bs.head?=some 45))])/\w'=w:=by
 have h:=Any.bytes_CutPrefix Tryz.laysCP b o n c b2 0 1 1 (bs.map fun x=>(x.toNat:Int)) [45] w (by simp[hx]) rfl hnc (fun i hi=>by
  have hi2:i<bs.length:=by omega
  rw[ha i hi2];simp[List.getD,hi2]) (fun i hi=>by
  have:i=0:=by omega
  subst this;exact h2)
 have hp:Lib.hasPrefix (Lib.bytesOf (bs.map fun x=>(x.toNat:Int))) (Lib.bytesOf [45])=decide (bs.head?=some 45):=by
  rw[Jc];cases bs with
  | nil=>rfl
  | cons x r =>
   show(List.isPrefixOf [45] (x::r))=_;by_cases e:x=45
   ·subst e;simp
   ·have e':((45:UInt8)==x)=false:=by rw[beq_eq_false_iff_ne];exact fun q=>e q.symm
    have e2:decide ((x::r).head?=some 45)=false:=by rw[decide_eq_false_iff_not];intro q;exact e (Option.some.inj q)
    rw[e2];show((45:UInt8)==x&&List.isPrefixOf [] r)=false;rw[e'];rfl
 refine h.mono ?_;rintro e w' ⟨rfl,rfl⟩;refine⟨?_,rfl⟩;unfold Lib.bytesTrimPrefix;rw[hp];by_cases q:bs.head?=some 45
 ·rw[if_pos (by simpa using q),if_pos q];rfl
 ·rw[if_neg (by simpa using q),if_neg q]
theorem U7(b o n c:Nat)(bs:List UInt8)(L B:Nat)(w:World)(ha:Hid (XE w L B (some ⟨b,o,none⟩) bs))(hx:Hid (n=bs.length))(hnc:n<=c)(hn:n<=1000000)(hB:B<=w.heap.size) :
 Calls Tryz.prog 100 #[.slice (some ⟨b,o,none⟩) n c] w fun e w'=>e=.returned (.tuple #[.int .i64 (K7 bs),.bool (Tx bs)])/\Below w.heap.size w w':=by
 have HA1:Hid (∀x i (h:i<bs.length),(w.alloc x).cell? ⟨b,o+i,none⟩=some (.int .u8 (bs[i].toNat:Int))):=Xa (fun x i h=>by
  obtain⟨b',o',e',_,hc⟩:=(ha.keep ((Xb (Below.refl w.heap.size w) x).mono hB)) i h;cases e';exact hc)
 by_cases hm:bs.head?=some 45
 ·obtain⟨r,rfl⟩:∃r,bs=45::r:=by
   cases bs with
   | nil=>cases hm
   | cons x r=>simp at hm;exact⟨r,by rw[hm]⟩
  have HCP:=Xa (Uk b o n c w.heap.size (45::r) (w.alloc (.cells #[.int .u8 45] 5)) hx.out hnc (HA1.out _) (by simp));have hnr:n-1=r.length:=by have:=hx.out;simp at this;omega
  have hba:Below w.heap.size w (w.alloc (.cells #[.int .u8 45] 5)):=Xb (Below.refl _ _) _;have HRD:Hid (Calls Tryz.prog 83 #[.slice (if c=1 then some ⟨b,o,none⟩else some ⟨b,o+1,none⟩) (n-1) (c-1),.int .i64 10] (w.alloc (.cells #[.int .u8 45] 5)) fun e w'=>e=.returned (.tuple #[.int .i64 (numV r 10),.bool (digitsOk r 10)])/\Below (w.alloc (.cells #[.int .u8 45] 5)).heap.size (w.alloc (.cells #[.int .u8 45] 5)) w'):=Xa (by
   refine Jw _ (n-1) (c-1) 10 r L B _ (Xa (fun i hi=>?_)) (Xa hnr) (by decide) (by omega) (by simp;omega);obtain⟨b',o',e',hb',hc'⟩:=(ha.keep (hba.mono hB)) (i+1) (by simp;omega);cases e';have hc1:¬(c=1):=by omega
   rw[if_neg hc1];exact⟨b,o+1,rfl,hb',by rw[Nat.add_assoc,Nat.add_comm 1 i];exact hc'⟩)
  have HIS:=Xa (ZdU r);have HCV:Hid (J0 (45::r)=-(amount r:Int)):=Xa rfl;have HNV:Hid (digitsOk r 10=true->numV r 10=(amount r:Int)):=Xa (fun h=>by unfold numV;rw[h];rfl);have HB0:=Xa hba;clear hba hnr HA1;generalize (if c=1 then some (⟨b,o,none⟩:Addr)else some ⟨b,o+1,none⟩)=ad at *
  go_enter Tryz.func100,Tryz.ntmps100
  go_wp2_with (go_at_call 115;refine HCP.mono ?_;rintro e w1 ⟨rfl,hw1⟩;rw[hw1];clear hw1 w1)
  refine HRD.mono ?_;rintro e w1 ⟨rfl,hb1⟩;have HB1:=Xa (HB0.trans (hb1.mono (by simp)));clear hb1;cases hd:digitsOk r 10 with
  | false =>
   have HV:Hid (Tx (45::r)=false/\K7 (45::r)=0):=Xa (by
    have h:Tx (45::r)=false:=by rw[HIS.out,hd];rfl
    exact⟨h,by unfold K7;rw[h];rfl⟩)
   clear hd;go_wp2;refine bodyPost_ret (v:=.tuple #[.int .i64 0,.bool false]) (by simp[results,Tryz.results100,go_sem]) rfl ⟨by rw[HV.1,HV.2],HB1.out⟩
  | true =>
   rw[HNV.out hd];by_cases hbig:(1000000000:Int)<(amount r:Int)
   ·have HV:Hid (Tx (45::r)=false/\K7 (45::r)=0):=Xa (by
     have h:Tx (45::r)=false:=by rw[HIS.out,hd,decide_eq_false (by omega)];rfl
     exact⟨h,by unfold K7;rw[h];rfl⟩)
    clear hd;go_wp2;refine bodyPost_ret (v:=.tuple #[.int .i64 0,.bool false]) (by simp[results,Tryz.results100,go_sem]) rfl ⟨by rw[HV.1,HV.2],HB1.out⟩
   ·have HV:Hid (Tx (45::r)=((amount r:Int) != 0)/\K7 (45::r)=-(amount r:Int)):=Xa (by
     have h:Tx (45::r)=((amount r:Int) != 0):=by
      rw[HIS.out,hd,decide_eq_true (by omega),Bool.true_and,Bool.true_and];by_cases q:amount r=0
      ·rw[q];rfl
      ·rw[decide_eq_true q];symm;rw[bne_iff_ne];omega
     refine⟨h,?_⟩;unfold K7;rw[h,HCV.out];by_cases q:(amount r:Int)=0
     ·rw[q];rfl
     ·rw[if_pos (by rw[bne_iff_ne];exact q)])
    have hw:IntKind.i64.wrap (-(amount r:Int))=-(amount r:Int):=by rw[IntKind.wrap_i64];omega
    have HW:=Xa hw;clear hd;generalize (amount r:Int)=Z at *;go_wp2;refine bodyPost_ret (v:=.tuple #[.int .i64 (-Z),.bool (Z != 0)]) (by simp[results,Tryz.results100,go_sem]) rfl ⟨by rw[HV.1,HV.2],HB1.out⟩
 ·have HCP:=Xa (Uk b o n c w.heap.size bs (w.alloc (.cells #[.int .u8 45] 5)) hx.out hnc (HA1.out _) (by simp))
  have hba:Below w.heap.size w (w.alloc (.cells #[.int .u8 45] 5)):=Xb (Below.refl _ _) _;have HRD:Hid (Calls Tryz.prog 83 #[.slice (some ⟨b,o,none⟩) n c,.int .i64 10] (w.alloc (.cells #[.int .u8 45] 5)) fun e w'=>e=.returned (.tuple #[.int .i64 (numV bs 10),.bool (digitsOk bs 10)])/\Below (w.alloc (.cells #[.int .u8 45] 5)).heap.size (w.alloc (.cells #[.int .u8 45] 5)) w'):=Xa
   (Jw _ n c 10 bs L B _ (Xa (ha.keep (hba.mono hB))) hx (by decide) hn (by simp;omega))
  have HIS:=Xa (ZaE bs (fun x r e=>hm (by rw[e];rfl)));have HCV:Hid (J0 bs=(amount bs:Int)):=Xa (by unfold J0;rw[if_neg hm]);have HNV:Hid (digitsOk bs 10=true->numV bs 10=(amount bs:Int)):=Xa (fun h=>by unfold numV;rw[h];rfl);have HB0:=Xa hba;have HM:=Xa hm;clear hba HA1 hm
  go_enter Tryz.func100,Tryz.ntmps100
  go_wp2_with (go_at_call 115;refine HCP.mono ?_;rintro e w1 ⟨rfl,hw1⟩;rw[hw1,if_neg HM.out,decide_eq_false HM.out];clear hw1 w1)
  refine HRD.mono ?_;rintro e w1 ⟨rfl,hb1⟩;have HB1:=Xa (HB0.trans (hb1.mono (by simp)));clear hb1;cases hd:digitsOk bs 10 with
  | false =>
   have HV:Hid (Tx bs=false/\K7 bs=0):=Xa (by
    have h:Tx bs=false:=by rw[HIS.out,hd];rfl
    exact⟨h,by unfold K7;rw[h];rfl⟩)
   clear hd;go_wp2;refine bodyPost_ret (v:=.tuple #[.int .i64 0,.bool false]) (by simp[results,Tryz.results100,go_sem]) rfl ⟨by rw[HV.1,HV.2],HB1.out⟩
  | true =>
   rw[HNV.out hd];by_cases hbig:(1000000000:Int)<(amount bs:Int)
   ·have HV:Hid (Tx bs=false/\K7 bs=0):=Xa (by
     have h:Tx bs=false:=by rw[HIS.out,hd,decide_eq_false (by omega)];rfl
     exact⟨h,by unfold K7;rw[h];rfl⟩)
    clear hd;go_wp2;refine bodyPost_ret (v:=.tuple #[.int .i64 0,.bool false]) (by simp[results,Tryz.results100,go_sem]) rfl ⟨by rw[HV.1,HV.2],HB1.out⟩
   ·have HV:Hid (Tx bs=true/\K7 bs=(amount bs:Int)):=Xa (by
     have h:Tx bs=true:=by rw[HIS.out,hd,decide_eq_true (by omega)];rfl
     exact⟨h,by unfold K7;rw[h,HCV.out];rfl⟩)
    clear hd;generalize (amount bs:Int)=Z at *;go_wp2;refine bodyPost_ret (v:=.tuple #[.int .i64 Z,.bool true]) (by simp[results,Tryz.results100,go_sem]) rfl ⟨by rw[HV.1,HV.2],HB1.out⟩
end Go.Proofs.YtkehcdfalcakmaaGreatDoor
namespace Go.Proofs.YtkehcdfalcakmaaGreatDoor
open Go.RowKit
theorem WV(s:UInt8)(l:List UInt8):(Lib.index l [s]=-1/\s ∉ l)\/∃i:Nat,Lib.index l [s]=i/\i<l.length/\l=l.take i++s::l.drop (i+1)/\s ∉ l.take i:=by
 induction l with
 | nil=>exact Or.inl ⟨rfl,by simp⟩
 | cons b l ih =>
  by_cases hb:b=s
  ·subst hb
   exact Or.inr ⟨0,by simp[Lib.index],by simp,by simp,by simp⟩
  ·have hp:(List.isPrefixOf [s] (b::l))=false:=by
    show((s==b)&&List.isPrefixOf [] l)=false;rw[show(s==b)=false from by rw[beq_eq_false_iff_ne];exact fun q=>hb q.symm];rfl
   rcases ih with⟨h1,h2⟩ | ⟨i,h1,h2,h3,h4⟩
   ·exact Or.inl ⟨by rw[Lib.index,hp,h1];rfl,by
     intro hm;rcases List.mem_cons.1 hm with q | q
     ·exact hb q.symm
     ·exact h2 q⟩
   ·refine Or.inr ⟨i+1,?_,by simp;omega,?_,?_⟩
    ·rw[Lib.index,hp,h1]
     have:((i:Int) == -1)=false:=by rw[beq_eq_false_iff_ne];omega
     simp[this]
    ·simp only[List.take_succ_cons,List.drop_succ_cons,List.cons_append]
     rw[<-h3]
    ·rw[List.take_succ_cons]
     intro hm;rcases List.mem_cons.1 hm with q | q
     ·exact hb q.symm
     ·exact h4 q
theorem Zaa(s:UInt8):∀(l cur:List UInt8),s ∉ l->Za s cur l=[cur++l]
 | [],cur,_=>by simp[Za]
 | c::r,cur,h=>by
  rw[Za,if_neg (fun e=>h (by rw[e];exact List.mem_cons_self ..)),Zaa s r _ (fun q=>h (List.mem_cons_of_mem _ q))];simp
theorem Zbe(s:UInt8):∀(pre cur post:List UInt8),s ∉ pre->Za s cur (pre++s::post)=(cur++pre)::Za s [] post
 | [],cur,post,_=>by simp[Za]
 | c::r,cur,post,h=>by
  rw[List.cons_append,Za,if_neg (fun e=>h (by rw[e];exact List.mem_cons_self ..)),Zbe s r _ _ (fun q=>h (List.mem_cons_of_mem _ q))];simp
def Kr(w:World)(b:Nat)(v:Value)(f:List UInt8):Prop:=∃o c,v=.slice (some ⟨b,o,none⟩) f.length c/\(f.length<=c/\c<=9223372036854775807)/\∀j (h:j<f.length),w.cell? ⟨b,o+j,none⟩=some (.int .u8 (f[j].toNat:Int))
theorem Zan(w:World)(b:Nat)(s:UInt8):∀(k o cap:Nat)(l:List UInt8),Lib.count l [s]=k->(l.length<=cap/\cap<=9223372036854775807)->(∀j (h:j<l.length),w.cell? ⟨b,o+j,none⟩=some (.int .u8 (l[j].toNat:Int))) ->
 (Lib.splitV [s] 0 k ⟨b,o,none⟩ cap l).length=(cutS l s).length/\∀i (h:i<(cutS l s).length) (h':i<(Lib.splitV [s] 0 k ⟨b,o,none⟩ cap l).length),Kr w b (Lib.splitV [s] 0 k ⟨b,o,none⟩ cap l)[i] (cutS l s)[i]:=by
 intro k
 induction k with
 | zero =>
  intro o cap l hk hc hl;have hm:s ∉ l:=by
   rcases WV s l with⟨_,h⟩ | ⟨i,h1,_⟩
   ·exact h
   ·rw[Lib.count_hit (by simp) h1]at hk;omega
  have e:cutS l s=[l]:=by unfold cutS;rw[Zaa s l [] hm];rfl
  rw[e];refine⟨rfl,fun i h h'=>?_⟩;have:i=0:=by simpa using h
  subst this;exact⟨o,cap,rfl,hc,hl⟩
 | succ k ih =>
  intro o cap l hk hc hl;rcases WV s l with⟨h1,_⟩ | ⟨p,h1,h2,h3,h4⟩
  ·rw[Lib.count_miss h1]at hk;omega
  ·have hk2:Lib.count (l.drop (p+1)) [s]=k:=by
    have:=Lib.count_hit (s:=l) (sub:=[s]) (by simp) h1;simp only[List.length_singleton]at this;omega
   have e:cutS l s=l.take p::cutS (l.drop (p+1)) s:=by
    unfold cutS
    conv=>lhs;rw[h3,Zbe s _ _ _ h4]
    rfl
   have ev:Lib.splitV [s] 0 (k+1) ⟨b,o,none⟩ cap l=.slice (some ⟨b,o,none⟩) p p::Lib.splitV [s] 0 k (Lib.tailAddr ⟨b,o,none⟩ cap (p+1)) (cap-(p+1)) (l.drop (p+1)):=by
    rw[Lib.splitV,h1,if_neg (by simp)];simp
   have hpl:(l.take p).length=p:=by rw[List.length_take];omega
   obtain⟨o2,ho2,hl2⟩:∃o2,Lib.tailAddr ⟨b,o,none⟩ cap (p+1)=⟨b,o2,none⟩/\∀j (h:j<(l.drop (p+1)).length),w.cell? ⟨b,o2+j,none⟩=some (.int .u8 ((l.drop (p+1))[j].toNat:Int)):=by
    by_cases hcp:cap=p+1
    ·refine⟨o,by unfold Lib.tailAddr;rw[if_pos hcp],fun j h=>?_⟩
     rw[List.length_drop]at h;omega
    ·refine⟨o+(p+1),by unfold Lib.tailAddr;rw[if_neg hcp,Addr.add_lit],fun j h=>?_⟩
     rw[List.length_drop]at h;rw[Nat.add_assoc,hl (p+1+j) (by omega),List.getElem_drop]
   rw[ho2]at ev;obtain⟨q1,q2⟩:=ih o2 (cap-(p+1)) (l.drop (p+1)) hk2 ⟨by rw[List.length_drop];omega,by omega⟩ hl2;rw[ev,e];refine⟨by rw[List.length_cons,List.length_cons,q1],fun i h h'=>?_⟩;cases i with
   | zero =>
    refine⟨o,p,by simp[hpl],⟨by simp[hpl],by omega⟩,fun j hj=>?_⟩;rw[List.getElem_cons_zero]at hj;rw[hl j (by omega)];simp
   | succ i =>
    simp only[List.getElem_cons_succ];exact q2 i (by simpa using h) (by simpa using h')
end Go.Proofs.YtkehcdfalcakmaaGreatDoor
namespace Go.Proofs.YtkehcdfalcakmaaGreatDoor
set_option maxHeartbeats 1000000
open Go.RowKit
theorem Zbp(c:Int)(w:World) :
 Calls Tryz.prog 82 #[.int .u8 c] w fun e w'=>e=.returned (.bool (decide (c<33)||decide (126<c)))/\w'=w:=by
 by_cases h1:c<33
 ·go_enter Tryz.func82,Tryz.ntmps82
  go_wp2
  go_ret
  exact⟨Xg (by simp[h1]),rfl⟩
 ·by_cases h2:126<c
  ·go_enter Tryz.func82,Tryz.ntmps82
   go_wp2
   go_ret
   exact⟨Xg (by simp),rfl⟩
  ·go_enter Tryz.func82,Tryz.ntmps82
   go_wp2
   go_ret
   exact⟨Xg (by simp[h1,h2]),rfl⟩
theorem Wn(b o n c:Nat)(f:List UInt8)(w:World)(hx:Hid (n=f.length))(hn:n<=1000000)(ha:Hid (∀j (h:j<f.length),w.cell? ⟨b,o+j,none⟩=some (.int .u8 (f[j].toNat:Int))))(hb:b<w.heap.size) :
 Calls Tryz.prog 99 #[.slice (some ⟨b,o,none⟩) n c,.func (.func 82) #[] #[]] w fun e w'=>(∃r:Int,e=.returned (.int .i64 r)/\(decide (0<=r)=!(f.all TJ)))/\Below w.heap.size w w':=by
 go_enter Tryz.func99,Tryz.ntmps99
 go_wp2
 go_loopw [8] (fun i wr=>∃k:Nat,k<=n/\i=.int .i64 k/\Hid (Below w.heap.size w wr)/\Hid ((f.take k).all TJ=true)) (fun i _=>n-(intOf i).toNat)
 case atStart=>exact⟨0,Nat.zero_le _,rfl,Xa (Below.refl _ _),Xa rfl⟩
 case round =>
  obtain⟨k,hk,rfl,HB,HA⟩:=hrel;by_cases hlt:k<n
  ·have hkx:k<f.length:=by have:=hx.out;omega
   have ck:wr.cell? ⟨b,o+k,none⟩=some (.int .u8 (f[k].toNat:Int)):=(HB.cell (p:=⟨b,o+k,none⟩) hb).trans (ha.out k hkx);have HT:Hid ((f.take (k+1)).all TJ=((f.take k).all TJ&&TJ f[k])):=Xa (by rw[List.take_succ_eq_append_getElem hkx,List.all_append];simp);have HC:Hid ((decide ((f[k].toNat:Int)<33)||decide (126<(f[k].toNat:Int)))=!TJ f[k]):=Xa (by
    unfold TJ;by_cases q1:33<=f[k].toNat<;>by_cases q2:f[k].toNat<=126<;>simp[q1,q2]<;>omega)
   have HF:Hid (TJ f[k]=false->f.all TJ=false):=Xa (fun h=>by
    rw[List.all_eq_false];exact⟨f[k],List.getElem_mem hkx,by rw[h];simp⟩)
   have HOU:=Xa (Zbp (f[k].toNat:Int) wr);generalize (f[k].toNat:Int)=Z at *;cases hq:TJ f[k]with
   | false =>
    have HV:=Xa (HF.out hq);have HR:Hid ((decide (Z<33)||decide (126<Z))=true):=Xa (by rw[HC.out,hq];rfl);clear hq
    go_wp2_with (go_at_call 82;refine HOU.mono ?_;rintro e w1 ⟨rfl,hw1⟩;rw[hw1,HR.out];clear hw1 w1)
    go_ret
    exact⟨⟨_,rfl,by rw[HV.out];simp⟩,HB.out⟩
   | true =>
    have HA2:Hid ((f.take (k+1)).all TJ=true):=Xa (by rw[HT.out,HA.out,hq];rfl);have HR:Hid ((decide (Z<33)||decide (126<Z))=false):=Xa (by rw[HC.out,hq];rfl);clear hq
    go_wp2_with (go_at_call 82;refine HOU.mono ?_;rintro e w1 ⟨rfl,hw1⟩;rw[hw1,HR.out];clear hw1 w1)
    exact⟨⟨k+1,by omega,by go_num,HB,HA2⟩,by simp[intOf];omega⟩
  ·have HV:Hid (f.all TJ=true):=Xa (by have:=HA.out;rwa[List.take_of_length_le (by have:=hx.out;omega)]at this)
   go_wp2
   go_ret
   exact⟨⟨_,rfl,by rw[HV.out];rfl⟩,HB.out⟩
theorem Tl(b o n c:Nat)(f:List UInt8)(w:World)(hx:Hid (n=f.length))(hn:n<=1000000)(ha:Hid (∀j (h:j<f.length),w.cell? ⟨b,o+j,none⟩=some (.int .u8 (f[j].toNat:Int))))(hb:b<w.heap.size) :
 Calls Tryz.prog 81 #[.slice (some ⟨b,o,none⟩) n c,.func (.func 82) #[] #[]] w fun e w'=>e=.returned (.bool (!(f.all TJ)))/\Below w.heap.size w w':=by
 have HI:=Xa (Wn b o n c f w hx hn ha hb)
 go_enter Tryz.func81,Tryz.ntmps81
 go_wp2_with (go_at_call 99;refine HI.mono ?_;rintro e w1 ⟨⟨r,rfl,hr⟩,hb1⟩;have HR:=Xa hr;have HB1:=Xa hb1;clear hr hb1)
 go_ret
 exact⟨Xg HR.out,HB1.out⟩
end Go.Proofs.YtkehcdfalcakmaaGreatDoor
namespace Go.Proofs.YtkehcdfalcakmaaGreatDoor
open Go.RowKit Go.Shelf
shelf_lay SlLaysP.n7 Slp 7 at Tryz as Tryz.laysSP
def Ti(w:World):Prop:=4 < w.heap.size/\∃m,w.cell? ⟨4,0,none⟩=some (.int .i64 m)
def Zk(w:World)(b g:Nat)(fs:List (List UInt8)):Prop:=g<w.heap.size/\∀i (h:i<fs.length),∃v,w.cell? ⟨g,i,none⟩=some v/\Kr w b v fs[i]
theorem Zv(s:UInt8):∀(l cur:List UInt8),(Za s cur l).length=l.count s+1
 | [],cur=>by simp[Za]
 | c::r,cur=>by
  rw[Za];split
  ·rename_i h;subst h;rw[List.length_cons,Zv c r,List.count_cons_self]
  ·rename_i h;rw[Zv s r,List.count_cons_of_ne h]
theorem Kr.keep{w w':World}{b:Nat}{v:Value}{f:List UInt8}(h:Kr w b v f)(k:w'.heap[b]?=w.heap[b]?):Kr w' b v f:=by
 obtain⟨o,c,e,h1,h2⟩:=h;exact⟨o,c,e,h1,fun j hj=>(Xc k).trans (h2 j hj)⟩
theorem W4(s:UInt8)(b o n c b2:Nat)(line:List UInt8)(w:World)(hx:n=line.length)(hnc:n<=c)(hc:c<=9223372036854775807)(hn:n<=1000000)(ha:∀i (h:i<line.length),w.cell? ⟨b,o+i,none⟩=some (.int .u8 (line[i].toNat:Int)))(h2:w.cell? ⟨b2,0,none⟩=some (.int .u8 (s.toNat:Int)))(hm:Ti w)(hb:b<w.heap.size) :
 Calls Tryz.prog 63 #[.slice (some ⟨b,o,none⟩) n c,.slice (some ⟨b2,0,none⟩) 1 1] w fun e w'=>∃k,k=(cutS line s).length/\e=.returned (.slice (some ⟨w.heap.size,0,none⟩) k k)/\Below w.heap.size w w'/\Zk w' b w.heap.size (cutS line s):=by
 obtain⟨_,m,hm⟩:=hm;have hq:∀(l:List UInt8),∀x∈l.map (fun x=>(x.toNat:Int)),0<=x/\x<256:=fun l x hx=>by
  obtain⟨y,-,rfl⟩:=List.mem_map.1 hx;have:=y.toNat_lt;omega
 have h:=Any.bytes_Split Tryz.laysSP ⟨b,o,none⟩ ⟨b2,0,none⟩ n c 1 1 (line.map fun x=>(x.toNat:Int)) [(s.toNat:Int)] m w (by simp[hx]) rfl (hq line) (hq [s]) (fun i hi=>by
  have hi2:i<line.length:=by omega
  rw[Addr.add_lit,ha i hi2];simp[List.getD,hi2]) (fun i hi=>by
  have:i=0:=by omega
  subst this;exact h2) hnc (by omega) (by decide) hc (Nat.le_refl _) hm
 have e1:Lib.bytesOf [(s.toNat:Int)]=[s]:=Jc [s];rw[Jc,e1]at h;obtain⟨q1,q2⟩:=Zan w b s (Lib.count line [s]) o c line rfl ⟨by omega,by omega⟩ ha;have hcl:Lib.count line [s]+1=(cutS line s).length:=by
  unfold cutS;rw[Zv,Lib.count_one]
 refine h.mono ?_;rintro e w' ⟨rfl,q,rfl⟩;refine⟨_,hcl,rfl,?_,?_,fun i hi=>?_⟩
 ·exact below_drewN (Xb (Below.refl _ _) _) q
 ·show w.heap.size<(w.heap.push _).size
  simp
 ·have hi2:i<(Lib.splitV [s] 0 (Lib.count line [s]) ⟨b,o,none⟩ c line).length:=by rw[q1];exact hi
  refine⟨_,?_,(q2 i hi hi2).keep (Below.heap_alloc w _ b hb)⟩;show(w.alloc _).cell? ⟨w.heap.size,i,none⟩=_;rw[cell_of_row _ w.heap.size i _ _ _ (heap_alloc_new w _)];simp[hi2]
end Go.Proofs.YtkehcdfalcakmaaGreatDoor
