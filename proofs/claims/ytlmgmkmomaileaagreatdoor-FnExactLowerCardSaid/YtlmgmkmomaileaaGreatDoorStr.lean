import Derived.Test.YtlmgmkmomaileaaGreatDoorOwn
import Derived.BigQuiet
import Derived.Deep.RegionHeld3
import Derived.Maps.AppendAt
import Derived.Lib.ItoaMem
import Derived.Lib.UnsafeStr
import Derived.OwnWalk
import Derived.Laws.IdiomStrings
import Derived.Laws.Strings2
import Derived.Deep.AppendLies
namespace Go.Proofs.YtlmgmkmomaileaaGreatDoor
open Go.RowKit
def YS(l:List UInt8):ByteArray:=⟨l.toArray⟩
end Go.Proofs.YtlmgmkmomaileaaGreatDoor
namespace Go.Proofs.YtlmgmkmomaileaaGreatDoor
def ZkM(c:UInt8):Bool:=decide (48<=c.toNat)&&decide (c.toNat<=57)
def Zg3(f:List UInt8)(most:Nat):Bool:=!(f.length==0||decide (most<f.length)||(f.head? == some 48&&decide (1<f.length)))&&f.all ZkM
def amount(f:List UInt8):Nat:=f.foldl (fun a c=>a*10+(c.toNat-48)) 0
def idx(f:List UInt8):Int:=if Zg3 f 4=true then (amount f:Int)else -1
end Go.Proofs.YtlmgmkmomaileaaGreatDoor
namespace Go.Proofs.YtlmgmkmomaileaaGreatDoor
open Go.RowKit
def Yk(w:World)(L B:Nat)(a:Option Addr)(vs:List Value):Prop:=∀i (h:i<vs.length),∃b o,a=some ⟨b,o,none⟩/\(L<=b/\b<B)/\w.cell? ⟨b,o+i,none⟩=some vs[i]
theorem Yk.keepS{w w':World}{L B:Nat}{a:Option Addr}{xs:List Value}(h:Yk w L B a xs)(k:Xv L B w w'):Yk w' L B a xs:=fun i hi=>by
 obtain⟨b,o,e,hb,hc⟩:=h i hi;exact⟨b,o,e,hb,by rw[Xc (k b hb.1 hb.2)];exact hc⟩
theorem Zb{w:World}{base e:Nat}{v:Value}{n:Nat}{xs:List Value}(h:w.ownsRow base e 1 v n xs):∃a c,v=.slice a xs.length c/\Yk w base w.heap.size a xs:=by
 obtain⟨hl,h | ⟨g,cap,cur,rfl,hg,hh,hc,_,hs,ht⟩⟩:=h
 ·obtain⟨rfl,rfl⟩:=h
  have:xs=[]:=by simpa using hl
  subst this;exact⟨_,_,rfl,fun i hi=>absurd hi sP⟩
 ·simp only[Nat.mul_one]at hl hs ht
  subst hl;refine⟨_,_,rfl,fun i hi=>⟨g,0,rfl,⟨hg,?_⟩,?_⟩⟩
  ·rcases Nat.lt_or_ge g w.heap.size with h1 | h1
   ·exact h1
   ·rw[Array.getElem?_eq_none h1]at hh;cases hh
  ·rw[Nat.zero_add,cell_of_row w g i cur e (0,0) hh,<-Array.getElem?_toList]
   have:=congrArg (fun l:List Value=>l[i]?) ht;simp only[List.getElem?_take,hi,if_true]at this;rw[this,List.getElem?_eq_getElem hi]
theorem Zc9(w:World)(vs:List Value)(t:TypeId):Yk (w.alloc (.cells vs.toArray t)) w.heap.size (w.heap.size+1) (some ⟨w.heap.size,0,none⟩) vs:=fun i hi =>
 ⟨_,0,rfl,⟨Nat.le_refl _,Nat.lt_succ_self _⟩,by simp[hi]⟩
theorem X9{w:World}{B B' e s n:Nat}{v:Value}{xs:List Value}(h:w.ownsRow B e s v n xs)(hb:B'<=B):w.ownsRow B' e s v n xs:=by
 obtain⟨hl,h0 | ⟨g,cap,cur,hv,hg,r⟩⟩:=h
 ·exact⟨hl,.inl h0⟩
 ·exact⟨hl,.inr ⟨g,cap,cur,hv,Nat.le_trans hb hg,r⟩⟩
def ZN(op:Int):List UInt8 :=
 if op=1 then [99,111,110,115,116]else if op=2 then [97,114,103]else if op=3 then [97,100,100]else if op=4 then [115,117,98]else if op=5 then [109,117,108]
 else if op=6 then [100,105,118]else if op=7 then [108,101,115,115]else if op=8 then [108,111,97,100]else if op=9 then [115,116,111,114,101]else if op=11 then [109,111,118,101]else if op=12 then [112,117,116]else if op=13 then [103,101,116]else [111,117,116]
end Go.Proofs.YtlmgmkmomaileaaGreatDoor
namespace Go.Proofs.YtlmgmkmomaileaaGreatDoor
theorem Zaq(l:List Int)(v:Int):countEq l v=l.count v:=by
 unfold countEq;rw[List.count,List.countP_eq_length_filter]
theorem Zgu(n:Nat):∀l:List Int,l.length=n->(∀v:Nat,v<n->(v:Int)∈l)->(∀d∈l,0<=d/\d<n)/\∀v:Nat,v<n->l.count (v:Int)=1:=by
 induction n with
 | zero =>
  intro l hl _;have:l=[]:=List.eq_nil_of_length_eq_zero hl;subst this;exact⟨fun d hd=>(List.not_mem_nil hd).elim,fun v hv=>absurd hv oM⟩
 | succ n ih =>
  intro l hl hv;have hm:=hv n oM;have hlen:(l.erase (n:Int)).length=n:=by rw[List.length_erase_of_mem hm];omega
  have hmem:∀v:Nat,v<n->(v:Int)∈l.erase (n:Int):=fun v h=>(List.mem_erase_of_ne oM).2 (hv v oM)
  obtain⟨h1,h2⟩:=ih _ hlen hmem;have hp:=List.perm_cons_erase hm;refine⟨fun d hd=>?_,fun v h=>?_⟩
  ·rcases List.mem_cons.1 (hp.mem_iff.1 hd)with rfl | hd
   ·omega
   ·have:=h1 d hd;omega
  ·rw[hp.count_eq,List.count_cons]
   by_cases e:v=n
   ·subst e
    have:(l.erase (v:Int)).count (v:Int)=0:=List.count_eq_zero.2 (fun hh=>by have:=h1 _ hh;omega);simp[this]
   ·rw[h2 v oM]
    have:((n:Int)==(v:Int))=false:=by simp;omega
    simp[this]
theorem Zdy(n:Nat):∀l:List Int,(∀d∈l,0<=d/\d<n)->(∀v:Nat,v<n->l.count (v:Int)=1)->l.length=n/\∀v:Nat,v<n->(v:Int)∈l:=by
 induction n with
 | zero =>
  intro l hl _;have:l=[]:=List.eq_nil_iff_forall_not_mem.2 (fun d hd=>by have:=hl d hd;omega);subst this;exact⟨rfl,fun v hv=>absurd hv oM⟩
 | succ n ih =>
  intro l hl hc;have hm:(n:Int)∈l:=List.count_pos_iff.1 (by rw[hc n oM];omega);have hp:=List.perm_cons_erase hm;have hc0:(l.erase (n:Int)).count (n:Int)=0:=by rw[List.count_erase_self,hc n oM]
  have h1:∀d∈l.erase (n:Int),0<=d/\d<n:=fun d hd=>by
   have h:=hl d (List.mem_of_mem_erase hd);have hne:d≠n:=fun e=>by subst e;exact absurd hd (List.count_eq_zero.1 hc0)
   omega
  have h2:∀v:Nat,v<n->(l.erase (n:Int)).count (v:Int)=1:=fun v h=>by
   rw[List.count_erase_of_ne oM];exact hc v oM
  obtain⟨k1,k2⟩:=ih _ h1 h2;refine⟨by have:=List.length_erase_of_mem hm;have:0<l.length:=List.length_pos_of_mem hm;omega,fun v h=>?_⟩;exact List.count_pos_iff.1 (by rw[hc v h];omega)
def UP(n:Int)(xs:List Xh):Bool:=xs.all fun x=>x.phis.all fun p=>Jj true p.dst 0 n
theorem Zfd{α:Type}(p q:α->Bool)(l:List α):l.all (fun x=>p x&&q x)=(l.all p&&l.all q):=by
 induction l with
 | nil=>rfl
 | cons x l ih=>simp only[List.all_cons,ih];cases p x<;>cases q x<;>cases l.all p<;>simp
theorem WJ(F:Fn):∀(xs:List Xh)(i:Nat),Zc Zd F xs i=(UP F.values xs&&Zc Z5 F xs i):=by
 intro xs
 induction xs with
 | nil=>intro i;rfl
 | cons x xs ih =>
  intro i;simp only[Zc,UP,List.all_cons,ih];have:x.phis.all (Zd F.values (F.preds ↑i).length)=(x.phis.all (fun p=>Jj true p.dst 0 F.values)&&x.phis.all (Z5 F.values (F.preds ↑i).length)):=Zfd _ _ _;rw[this];cases x.phis.all (fun p=>Jj true p.dst 0 F.values)<;>cases x.phis.all (Z5 F.values (F.preds ↑i).length)<;>simp
theorem Zd6(F:Fn)(hi:Zn F=true):(UP F.values F.blocks=true↔∀d∈blksDefs F.blocks,0<=d/\d<F.values):=by
 unfold UP blksDefs;simp only[List.all_eq_true,List.mem_flatMap,Te,XF,XY,List.mem_append,List.mem_map,List.mem_filter,Jj,if_true,Bool.and_eq_true,decide_eq_true_eq];constructor
 ·rintro h d ⟨x,hx,⟨p,hp,rfl⟩ | ⟨y,⟨hy,hd⟩,rfl⟩⟩
  ·exact h x hx p hp
  ·have:=List.all_eq_true.1 (List.all_eq_true.1 hi x hx) y hy
   simp only[Yi,hd,Jj,if_true,Bool.and_eq_true,decide_eq_true_eq]at this;omega
 ·intro h x hx p hp
  exact h _ ⟨x,hx,Or.inl ⟨p,hp,rfl⟩⟩
theorem Zd9(F:Fn)(h0:0<=F.values)(hi:Zn F=true):(UP F.values F.blocks&&Ue F)=Tw F:=by
 rw[Bool.eq_iff_iff];obtain⟨n,hn⟩:=Int.eq_ofNat_of_zero_le h0;rw[Bool.and_eq_true,Zd6 F hi];unfold Ue Tw;rw[hn];simp only[List.all_eq_true,List.mem_range,Int.toNat_natCast,beq_iff_eq,Bool.and_eq_true,decide_eq_true_eq,List.contains_iff_mem,Zaq];constructor
 ·rintro⟨h1,h2⟩
  obtain⟨k1,k2⟩:=Zdy n _ h1 h2;exact⟨oM,k2⟩
 ·rintro⟨h1,h2⟩
  exact Zgu n _ oM h2
theorem ZdI(F:Fn):Yq F=Wo F:=by
 unfold Yq Wo Kk Ts;rw[WJ];cases hs:Yt F
 ·simp
 cases hi:Zn F
 ·simp
 cases ht:ZW F
 ·simp
 have h0:0<=F.values:=by
  simp only[Yt,Bool.and_eq_true,decide_eq_true_eq]at hs;omega
 have:=Zd9 F h0 hi;rw[<-this];cases UP F.values F.blocks<;>cases Zc Z5 F F.blocks 0<;>simp
end Go.Proofs.YtlmgmkmomaileaaGreatDoor
namespace Go.Proofs.YtlmgmkmomaileaaGreatDoor
set_option maxHeartbeats 1000000
open Go.RowKit
def JK(op:Int):ByteArray :=
 if op=1 then ⟨#[100,105]⟩else if op=2 then ⟨#[100,105]⟩else if 3<=op/\op<=7 then ⟨#[100,97,98]⟩else if op=8 then ⟨#[100,97]⟩else if op=11 then ⟨#[100,97]⟩
 else if op=9 then ⟨#[97,98]⟩else if op=10 then ⟨#[97]⟩else if op=12 then ⟨#[97]⟩else if op=13 then ⟨#[100]⟩else ⟨#[]⟩
theorem Ze1{a b:ByteArray}(h:a=b):Ending.returned (.string a)=.returned (.string b):=by rw[h]
theorem Zex(op:Int)(w:World) :
 Calls Tryz.prog 60 #[.int .i64 op] w fun e w'=>e=.returned (.string (JK op))/\w'=w:=by
 by_cases h:1<=op/\op<=13
 ·have hc:op=1\/op=2\/op=3\/op=4\/op=5\/op=6\/op=7\/op=8\/op=9\/op=10\/op=11\/op=12\/op=13:=oM
  rcases hc with rfl | rfl | rfl | rfl | rfl | rfl | rfl | rfl | rfl | rfl | rfl | rfl | rfl
  all_goals
   clear h
   go_enter Tryz.func60,Tryz.ntmps60
   go_wp2
   go_ret
   exact⟨rfl,rfl⟩
 ·have h1:(op==1)=false:=by simp;omega
  have h2:(op==2)=false:=by simp;omega
  have h3:(op==3)=false:=by simp;omega
  have h4:(op==4)=false:=by simp;omega
  have h5:(op==5)=false:=by simp;omega
  have h6:(op==6)=false:=by simp;omega
  have h7:(op==7)=false:=by simp;omega
  have h8:(op==8)=false:=by simp;omega
  have h9:(op==9)=false:=by simp;omega
  have h10:(op==10)=false:=by simp;omega
  have h11:(op==11)=false:=by simp;omega
  have h12:(op==12)=false:=by simp;omega
  have h13:(op==13)=false:=by simp;omega
  have hu:Hid (JK op=⟨#[]⟩):=by
   show _=_;unfold JK;rw[if_neg oM,if_neg oM,if_neg oM,if_neg oM,if_neg oM,if_neg oM,if_neg oM,if_neg oM,if_neg oM]
  clear h
  go_enter Tryz.func60,Tryz.ntmps60
  go_wp2
  go_ret
  exact⟨Ze1 hu.symm,rfl⟩
def WR(s:ByteArray)(f:Int):Bool:=s.data.toList.any fun c=>(c.toNat:Int)==f
theorem Zhg{s:ByteArray}{f:Int}{k:Nat}(hk:k<s.size)(h:(s[k].toNat:Int)=f):WR s f=true:=by
 unfold WR;rw[List.any_eq_true];exact⟨s[k],by rw[Array.mem_toList_iff];exact Array.getElem_mem hk,by simp[h]⟩
theorem Zjp{s:ByteArray}{f:Int}(h:∀j (hj:j<s.size),(s[j].toNat:Int)≠f):WR s f=false:=by
 unfold WR;rw[List.any_eq_false];intro c hc;obtain⟨j,hj,rfl⟩:=Array.mem_iff_getElem.1 (Array.mem_toList_iff.1 hc);have:=h j hj;rw[beq_iff_eq];exact this
theorem Zdz(op:Int):(JK op).size<=3:=by
 unfold JK
 repeat (split<;>try decide)
theorem ZH(op f:Int)(w:World) :
 Calls Tryz.prog 33 #[.int .i64 op,.int .u8 f] w fun e w'=>e=.returned (.bool (WR (JK op) f))/\w'=w:=by
 go_enter Tryz.func33,Tryz.ntmps33
 go_wp2_with fail
 refine(Zex _ _).mono ?_;rintro e w1 ⟨rfl,rfl⟩;have hs:=Zdz op;generalize hS:JK op=s at *;have HS:=Xa hS;clear hS;go_wp2
 go_loop [6] (fun i=>∃k:Nat,k<=s.size/\i=.int .i64 k/\Hid (∀j (hj:j<s.size),j<k->(s[j].toNat:Int)≠f)) (fun i=>s.size-(intOf i).toNat)
 case atStart=>exact⟨0,Nat.zero_le _,rfl,fun j hj h=>absurd h oM⟩
 case round =>
  obtain⟨k,hk,rfl,hno⟩:=hrel;by_cases hlt:k<s.size
  ·by_cases he:(s[k].toNat:Int)=f
   ·have hb:((s[k].toNat:Int)==f)=true:=by simp[he]
    have HE:=Xa he;clear he;go_wp2
    go_ret
    exact⟨Xj (by rw[Xp HS];exact(Zhg hlt HE.out).symm),rfl⟩
   ·have hb:((s[k].toNat:Int)==f)=false:=by simp[he]
    have HE:=Xa he;clear he;go_wp2
    go_round
    case rel=>exact⟨k+1,oM,gM,fun j hj h=>if e:j=k then by subst e;exact HE.out else hno.out j hj oM⟩
    case measure=>simp[intOf];omega
  ·go_wp2
   go_ret
   exact⟨Xj (by rw[Xp HS];exact(Zjp fun j hj=>hno.out j hj oM).symm),rfl⟩
theorem ZgB(op:Int):WR (JK op) 100=dB op:=by
 by_cases h:1<=op/\op<=13
 ·have hc:op=1\/op=2\/op=3\/op=4\/op=5\/op=6\/op=7\/op=8\/op=9\/op=10\/op=11\/op=12\/op=13:=oM
  rcases hc with rfl | rfl | rfl | rfl | rfl | rfl | rfl | rfl | rfl | rfl | rfl | rfl | rfl<;>rfl
 ·unfold JK
  rw[if_neg oM,if_neg oM,if_neg oM,if_neg oM,if_neg oM,if_neg oM,if_neg oM,if_neg oM,if_neg oM];simp only[WR,dB];rw[decide_eq_false oM,decide_eq_false oM,decide_eq_false oM];rfl
theorem Zhi(op:Int):WR (JK op) 97=aB op:=by
 by_cases h:1<=op/\op<=13
 ·have hc:op=1\/op=2\/op=3\/op=4\/op=5\/op=6\/op=7\/op=8\/op=9\/op=10\/op=11\/op=12\/op=13:=oM
  rcases hc with rfl | rfl | rfl | rfl | rfl | rfl | rfl | rfl | rfl | rfl | rfl | rfl | rfl<;>rfl
 ·unfold JK
  rw[if_neg oM,if_neg oM,if_neg oM,if_neg oM,if_neg oM,if_neg oM,if_neg oM,if_neg oM,if_neg oM];simp only[WR,aB];rw[decide_eq_false oM];rfl
theorem ZgY(op:Int):WR (JK op) 98=bB op:=by
 by_cases h:1<=op/\op<=13
 ·have hc:op=1\/op=2\/op=3\/op=4\/op=5\/op=6\/op=7\/op=8\/op=9\/op=10\/op=11\/op=12\/op=13:=oM
  rcases hc with rfl | rfl | rfl | rfl | rfl | rfl | rfl | rfl | rfl | rfl | rfl | rfl | rfl<;>rfl
 ·unfold JK
  rw[if_neg oM,if_neg oM,if_neg oM,if_neg oM,if_neg oM,if_neg oM,if_neg oM,if_neg oM,if_neg oM];simp only[WR,bB];rw[decide_eq_false oM,decide_eq_false oM];rfl
theorem ZeT(op:Int)(w:World):Calls Tryz.prog 33 #[.int .i64 op,.int .u8 100] w fun e w'=>e=.returned (.bool (dB op))/\w'=w:=by rw[<-ZgB];exact ZH op 100 w
theorem ZjD(op:Int)(w:World):Calls Tryz.prog 33 #[.int .i64 op,.int .u8 97] w fun e w'=>e=.returned (.bool (aB op))/\w'=w:=by rw[<-Zhi];exact ZH op 97 w
theorem ZjB(op:Int)(w:World):Calls Tryz.prog 33 #[.int .i64 op,.int .u8 98] w fun e w'=>e=.returned (.bool (bB op))/\w'=w:=by rw[<-ZgY];exact ZH op 98 w
end Go.Proofs.YtlmgmkmomaileaaGreatDoor
namespace Go.Proofs.YtlmgmkmomaileaaGreatDoor
open Go.RowKit
def Fz(w:World)(b:Nat):Prop:=∀q,w.frozen? ⟨b,q,none⟩=false
theorem Fz.keep{w w':World}{b:Nat}(h:Fz w b)(k:w'.heap[b]?=w.heap[b]?):Fz w' b:=fun q=>(World.frozen?_of_block (a:=⟨b,q,none⟩) k).trans (h q)
def Zaf(w:World)(L B:Nat)(ia:Option Addr)(is:List XN):Prop:=∀i (h:i<is.length),∃g,ia=some ⟨g,0,none⟩/\(L<=g/\g<B)/\Fz w g/\Yd w g (i*5) is[i]
theorem Zaf.keepS{w w':World}{L B:Nat}{ia:Option Addr}{is:List XN}(h:Zaf w L B ia is)(k:Xv L B w w'):Zaf w' L B ia is:=fun i hi=>by
 obtain⟨g,e,hg,hz,h1⟩:=h i hi;have q:=k g hg.1 hg.2;exact⟨g,e,hg,hz.keep q,h1.keepS q⟩
section
variable {w1 w2 : World} {B0 H G vc : Nat} {pre : List Xh} {pa : Option Addr} {pc : Nat} {ia : Option Addr} {ic : Nat} {ps : List Ph} {is : List XN}
end
end Go.Proofs.YtlmgmkmomaileaaGreatDoor
namespace Go.Proofs.YtlmgmkmomaileaaGreatDoor
set_option maxHeartbeats 1000000
open Go.RowKit
theorem IW.widen{bl bh L B:Nat}{w w':World}(h:IW bl bh w w')(hs:∀b,bl<=b->b<bh->L<=b/\b<B):IW L B w w' :=
 ⟨h.os,h.tape,h.output,h.size,fun k hk=>h.block k (fun q=>hk (hs k q.1 q.2)),h.cell,h.frozen⟩
def ZgG(k:Int):XN:=⟨k,k+1,k+2,k+3,k+4⟩
def Ym(w:World)(L B:Nat)(ia:Option Addr)(k:Int)(n:Nat):Prop:=∀i,i<n->∃g,ia=some ⟨g,0,none⟩/\(L<=g/\g<B)/\Yd w g (i*5) (ZgG (k+5*(i:Nat)))
theorem Ym.keepS{w w':World}{L B:Nat}{ia:Option Addr}{k:Int}{n:Nat}(h:Ym w L B ia k n)(s:Xv L B w w'):Ym w' L B ia k n:=fun i hi=>by
 obtain⟨g,e,hg,h1⟩:=h i hi;exact⟨g,e,hg,h1.keepS (s g hg.1 hg.2)⟩
theorem Zi9{w:World}{g o:Nat}{x:XN}(h:Yd w g o x)(v0 v1 v2 v3 v4:Int):Yd (((((w.setCell ⟨g,o,none⟩ (.int .i64 v0)).setCell ⟨g,o+1,none⟩ (.int .i64 v1)).setCell ⟨g,o+2,none⟩ (.int .i64 v2)).setCell ⟨g,o+3,none⟩ (.int .i64 v3)).setCell ⟨g,o+4,none⟩ (.int .i64 v4)) g o ⟨v0,v1,v2,v3,v4⟩:=by
 obtain⟨e0,e1,e2,e3,e4⟩:=h;refine⟨?_,?_,?_,?_,?_⟩<;>simp[e0,e1,e2,e3,e4,go_sem]
theorem ZdF{w:World}{g o o':Nat}{x:XN}(h:Yd w g o' x)(hd:o' + 4<o\/o+4<o')(v0 v1 v2 v3 v4:Int):Yd (((((w.setCell ⟨g,o,none⟩ (.int .i64 v0)).setCell ⟨g,o+1,none⟩ (.int .i64 v1)).setCell ⟨g,o+2,none⟩ (.int .i64 v2)).setCell ⟨g,o+3,none⟩ (.int .i64 v3)).setCell ⟨g,o+4,none⟩ (.int .i64 v4)) g o' x:=by
 obtain⟨e0,e1,e2,e3,e4⟩:=h;refine⟨?_,?_,?_,?_,?_⟩<;>(rw[oth _ _ oM,oth _ _ oM,oth _ _ oM,oth _ _ oM,oth _ _ oM];assumption)
theorem VJ(a:Option Addr)(n c:Nat)(k:Int)(xs:List XN)(L B:Nat)(w:World)(ha:Hid (Zaf w L B a xs))(hx:Hid (n=xs.length))(hn:n<=1048576)(h0:0<=k)(h1:k<=1000000000) :
 Calls Tryz.prog 52 #[.slice a n c,.int .i64 k] w fun e w'=>e=.returned (.int .i64 (k+5*n))/\IW L B w w'/\Ym w' L B a k n:=by
 go_enter Tryz.func52,Tryz.ntmps52
 go_wp2
 go_loopw [1,5] (fun u i wr=>∃j:Nat,j<=n/\i=.int .i64 j/\u=.int .i64 (k+5*j)/\Hid (IW L B w wr)/\Hid (Ym wr L B a k j)) (fun _ i _=>n-(intOf i).toNat)
 case atStart=>exact⟨0,Nat.zero_le _,rfl,sP,IW.refl _ _ _,fun q hq=>absurd hq oM⟩
 case round =>
  obtain⟨j,hj,rfl,rfl,hw,hq⟩:=hrel;by_cases hlt:j<n
  ·have hjx:j<xs.length:=by have:=hx.out;omega
   obtain⟨g,rfl,hbB,hz,hc⟩:=ha.out j hjx;obtain⟨⟨u0,u1,u2,u3,u4⟩,hia⟩:=hc.iw hw.out;have HIA:=Xa hia;obtain⟨e0,e1,e2,e3,e4⟩:=hia;dsimp only at e0 e1 e2 e3 e4;have fz:=fun q=>(hw.frozen ⟨g,q,none⟩).trans (hz q)
   have f0:=fz (j*5);have f1:=fz (j*5+1);have f2:=fz (j*5+2);have f3:=fz (j*5+3);have f4:=fz (j*5+4);clear hc hz fz;go_wp2;refine⟨⟨j+1,oM,gM,gM,hw.set5 hbB e0 e1 e2 e3 e4 _ _ _ _ _,fun q hqj=>⟨g,rfl,hbB,?_⟩⟩,by simp[intOf];omega⟩;by_cases e:q=j
   ·subst e
    refine cast (congrArg (Yd _ g (q*5)) ?_) (Zi9 HIA.out _ _ _ _ _);unfold ZgG;congr 1<;>omega
   ·obtain⟨g',e',_,hc'⟩:=hq.out q oM
    cases e';exact ZdF hc' oM _ _ _ _ _
  ·have hjn:j=n:=oM
   subst hjn;go_wp2
   go_ret
   exact⟨rfl,hw.out,hq.out⟩
theorem Wb(a:Option Addr)(n c:Nat)(k:Int)(L B:Nat)(w:World)(ha:Hid (Ym w L B a k n))(hn:n<=1048576)(h0:0<=k)(h1:k<=1000000000) :
 Calls Tryz.prog 53 #[.slice a n c,.int .i64 k] w fun e w'=>e=.returned (.int .i64 (k+5*n))/\w'=w:=by
 go_enter Tryz.func53,Tryz.ntmps53
 go_wp2
 go_loop [1,5] (fun u i=>∃j:Nat,j<=n/\i=.int .i64 j/\u=.int .i64 (k+5*j)) (fun _ i=>n-(intOf i).toNat)
 case atStart=>exact⟨0,Nat.zero_le _,rfl,sP⟩
 case round =>
  obtain⟨j,hj,rfl,rfl⟩:=hrel;by_cases hlt:j<n
  ·obtain⟨g,rfl,-,e0,e1,e2,e3,e4⟩:=ha.out j hlt
   dsimp only[ZgG]at e0 e1 e2 e3 e4;go_wp2
   go_round
   case rel=>exact⟨j+1,oM,gM,gM⟩
   case measure=>simp[intOf];omega
  ·have hjn:j=n:=oM
   subst hjn;go_wp2
   go_ret
   exact⟨rfl,rfl⟩
end Go.Proofs.YtlmgmkmomaileaaGreatDoor
namespace Go.Proofs.YtlmgmkmomaileaaGreatDoor
open Go.RowKit
def lens(xs:List Ph):List Nat:=xs.map fun p=>p.args.length
def Zhr(k:Int):Zu:=⟨k,k+1,k+2,k+3⟩
theorem Zit{w:World}{g o:Nat}{x:Zu}(h:YW w g o x)(v0 v1 v2 v3:Int):YW ((((w.setCell ⟨g,o,none⟩ (.int .i64 v0)).setCell ⟨g,o+1,none⟩ (.int .i64 v1)).setCell ⟨g,o+2,none⟩ (.int .i64 v2)).setCell ⟨g,o+3,none⟩ (.int .i64 v3)) g o ⟨v0,v1,v2,v3⟩:=by
 obtain⟨e0,e1,e2,e3⟩:=h;refine⟨?_,?_,?_,?_⟩<;>simp[e0,e1,e2,e3,go_sem]
theorem Tl{w:World}{g o o':Nat}(hd:o' < o\/o+3<o')(v0 v1 v2 v3:Int):((((w.setCell ⟨g,o,none⟩ (.int .i64 v0)).setCell ⟨g,o+1,none⟩ (.int .i64 v1)).setCell ⟨g,o+2,none⟩ (.int .i64 v2)).setCell ⟨g,o+3,none⟩ (.int .i64 v3)).cell? ⟨g,o',none⟩=w.cell? ⟨g,o',none⟩:=by
 rw[oth _ _ oM,oth _ _ oM,oth _ _ oM,oth _ _ oM]
theorem ZhO{w:World}{g o b:Nat}(hb:b≠g)(v0 v1 v2 v3:Int):((((w.setCell ⟨g,o,none⟩ (.int .i64 v0)).setCell ⟨g,o+1,none⟩ (.int .i64 v1)).setCell ⟨g,o+2,none⟩ (.int .i64 v2)).setCell ⟨g,o+3,none⟩ (.int .i64 v3)).heap[b]?=w.heap[b]?:=by
 rw[Below.heap_setCell _ _ _ _ hb,Below.heap_setCell _ _ _ _ hb,Below.heap_setCell _ _ _ _ hb,Below.heap_setCell _ _ _ _ hb]
end Go.Proofs.YtlmgmkmomaileaaGreatDoor
