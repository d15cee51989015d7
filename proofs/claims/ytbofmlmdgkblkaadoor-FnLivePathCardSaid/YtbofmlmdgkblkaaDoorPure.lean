import Derived.Test.YtbofmlmdgkblkaaDoorMem
import Derived.BigQuiet
namespace Go.Proofs.YtbofmlmdgkblkaaDoor
def dB(op:Int):Bool:=decide (1<=op/\op<=8)||decide (op=11)||decide (op=13)
def aB(op:Int):Bool:=decide (3<=op/\op<=12)
def bB(op:Int):Bool:=decide (3<=op/\op<=7)||decide (op=9)
def Kt(u:Bool)(x lo hi:Int):Bool:=if u then decide (lo<=x)&&decide (x<hi)else x==0
def UI(x:XS):Bool:=if x.op==1 then decide (-1000000000<=x.imm)&&decide (x.imm<=1000000000)else if x.op==2 then decide (0<=x.imm)&&decide (x.imm<8)else x.imm==0
def Yh(n most:Int)(x:XS):Bool :=
 decide (1<=x.op)&&decide (x.op<=most)&&Kt (dB x.op) x.dst 0 n&&Kt (aB x.op) x.a 0 n&&Kt (bB x.op) x.b 0 n&&UI x
def Ze(n low blocks:Int)(t:XZ):Bool :=
 decide (1<=t.kind)&&decide (t.kind<=3)&&Kt (t.kind != 1) t.a 0 n&&Kt (t.kind != 3) t.to low blocks&&Kt (t.kind==2) t.els low blocks
def ZI(n blocks:Int)(t:XZ):Bool:=Ze n 1 blocks t && !(t.kind==2&&t.to==t.els)
def XZ.targets(t:XZ):List Int:=if t.kind=1 then [t.to]else if t.kind=2 then [t.to,t.els]else []
def XP(ps:List Ph):Nat:=(ps.map fun p=>1+p.args.length).sum
def KL(x:Xg):Nat:=1+x.instrs.length+XP x.phis
def Xo(xs:List Xg):Nat:=(xs.map KL).sum
def predsFrom:List Xg->Nat->Int->List Int
 | [],_,_=>[]
 | x::xs,i,b=>(if x.term.targets.contains b then [(i:Int)]else [])++predsFrom xs (i+1) b
def Fn.preds(F:Fn)(b:Int):List Int:=predsFrom F.blocks 0 b
def Xu(ps:List Ph):List Int:=ps.map (·.dst)
def Xw(xs:List XS):List Int:=(xs.filter fun x=>dB x.op).map (·.dst)
def KF(x:Xg):List Int:=Xu x.phis++Xw x.instrs
def blksDefs(xs:List Xg):List Int:=xs.flatMap KF
def Y6(F:Fn):Bool:=decide (0<=F.values)&&decide (F.values<=2000)&&decide (1<=F.blocks.length)&&decide (F.blocks.length<=1000)&&decide (Xo F.blocks<=4000)
def ZY(F:Fn):Bool:=F.blocks.all fun x=>ZI F.values F.blocks.length x.term
def Zl(F:Fn):Bool:=F.blocks.all fun x=>x.instrs.all (Yh F.values 10)
def ZM(n:Int)(k:Nat)(p:Ph):Bool:=decide (1<=p.args.length)&&decide (p.args.length=k)&&p.args.all (fun a=>decide (0<=a)&&decide (a<n))
def ZB(n:Int)(k:Nat)(p:Ph):Bool:=Kt true p.dst 0 n&&ZM n k p
def YY(ok:Int->Nat->Ph->Bool)(F:Fn)(xs:List Xg)(i:Nat):Bool :=
 match xs with
 | []=>true
 | x::xs=>x.phis.all (ok F.values (F.preds i).length)&&YY ok F xs (i+1)
def KQ(F:Fn):Bool:=YY ZM F F.blocks 0
def Kb(F:Fn):Bool:=YY ZB F F.blocks 0
def countEq(xs:List Int)(v:Int):Nat:=(xs.filter fun x=>x==v).length
def Ts(F:Fn):Bool:=(List.range F.values.toNat).all fun v=>countEq (blksDefs F.blocks) v==1
def KR(F:Fn):Bool:=decide (((blksDefs F.blocks).length:Int)=F.values)&&(List.range F.values.toNat).all fun v=>(blksDefs F.blocks).contains (v:Int)
def Y7(F:Fn):Bool:=Y6 F&&ZY F&&Zl F&&Kb F&&Ts F
def VP(F:Fn):Bool:=Y6 F&&(Zl F&&ZY F)&&KQ F&&KR F
def Jr(ps:List Ph):Nat:=(ps.map fun p=>p.args.length).sum
def ZH(x:Xg):Nat:=x.phis.length+Jr x.phis+x.instrs.length
def X7(xs:List Xg):Nat:=(xs.map ZH).sum
theorem Uf(ps:List Xg)(p:Xg):X7 (ps++[p])=X7 ps+ZH p:=by simp[X7]
theorem K4{α:Type}(f:α->Nat)(xs:List α)(k:Nat):((xs.take k).map f).sum<=(xs.map f).sum:=by
 induction xs generalizing k with
 | nil=>simp
 | cons x xs ih=>cases k with
  | zero=>simp
  | succ k=>simp only[List.take_succ_cons,List.map_cons,List.sum_cons];have:=ih k;omega
theorem TH(ps:List Xg)(k:Nat):X7 (ps.take k)<=X7 ps:=K4 _ _ _
end Go.Proofs.YtbofmlmdgkblkaaDoor
namespace Go.Proofs.YtbofmlmdgkblkaaDoor
set_option maxHeartbeats 400000
open Go.RowKit
theorem Zg0{k:IntKind}{a b:Int}(h:a=b):Ending.returned (.int k a)=.returned (.int k b):=by rw[h]
theorem Xm{a b:Bool}(h:a=b):Ending.returned (.bool a)=.returned (.bool b):=by rw[h]
theorem Ye(u:Bool)(x lo hi:Int)(w:World) :
 Calls Tryd.prog 61 #[.bool u,.int .i64 x,.int .i64 lo,.int .i64 hi] w fun e w'=>e=.returned (.bool (Kt u x lo hi))/\w'=w:=by
 cases u
 ·go_enter Tryd.func61,Tryd.ntmps61
  go_wp2
  go_ret
  exact⟨rfl,rfl⟩
 ·by_cases h1:lo<=x<;>by_cases h2:x<hi
  all_goals
   go_enter Tryd.func61,Tryd.ntmps61
   go_wp2
   go_ret
   exact⟨by simp[Kt,h1,h2],rfl⟩
theorem XF{α:Type}(xs:List α)(k:Nat)(h:k<xs.length):xs.take (k+1)=xs.take k++[xs[k]]:=List.take_succ_eq_append_getElem h
end Go.Proofs.YtbofmlmdgkblkaaDoor
namespace Go.Proofs.YtbofmlmdgkblkaaDoor
theorem Wo(l:List Int)(v:Int):countEq l v=l.count v:=by
 unfold countEq;rw[List.count,List.countP_eq_length_filter]
theorem Zfk(n:Nat):∀l:List Int,l.length=n->(∀v:Nat,v<n->(v:Int)∈l)->(∀d∈l,0<=d/\d<n)/\∀v:Nat,v<n->l.count (v:Int)=1:=by
 induction n with
 | zero =>
  intro l hl _;have:l=[]:=List.eq_nil_of_length_eq_zero hl;subst this;exact⟨fun d hd=>(List.not_mem_nil hd).elim,fun v hv=>absurd hv (by omega)⟩
 | succ n ih =>
  intro l hl hv;have hm:=hv n (by omega);have hlen:(l.erase (n:Int)).length=n:=by rw[List.length_erase_of_mem hm];omega
  have hmem:∀v:Nat,v<n->(v:Int)∈l.erase (n:Int):=fun v h=>(List.mem_erase_of_ne (by omega)).2 (hv v (by omega))
  obtain⟨h1,h2⟩:=ih _ hlen hmem;have hp:=List.perm_cons_erase hm;refine⟨fun d hd=>?_,fun v h=>?_⟩
  ·rcases List.mem_cons.1 (hp.mem_iff.1 hd)with rfl | hd
   ·omega
   ·have:=h1 d hd;omega
  ·rw[hp.count_eq,List.count_cons]
   by_cases e:v=n
   ·subst e
    have:(l.erase (v:Int)).count (v:Int)=0:=List.count_eq_zero.2 (fun hh=>by have:=h1 _ hh;omega);simp[this]
   ·rw[h2 v (by omega)]
    have:((n:Int)==(v:Int))=false:=by simp;omega
    simp[this]
theorem Zck(n:Nat):∀l:List Int,(∀d∈l,0<=d/\d<n)->(∀v:Nat,v<n->l.count (v:Int)=1)->l.length=n/\∀v:Nat,v<n->(v:Int)∈l:=by
 induction n with
 | zero =>
  intro l hl _;have:l=[]:=List.eq_nil_iff_forall_not_mem.2 (fun d hd=>by have:=hl d hd;omega);subst this;exact⟨rfl,fun v hv=>absurd hv (by omega)⟩
 | succ n ih =>
  intro l hl hc;have hm:(n:Int)∈l:=List.count_pos_iff.1 (by rw[hc n (by omega)];omega);have hp:=List.perm_cons_erase hm;have hc0:(l.erase (n:Int)).count (n:Int)=0:=by rw[List.count_erase_self,hc n (by omega)]
  have h1:∀d∈l.erase (n:Int),0<=d/\d<n:=fun d hd=>by
   have h:=hl d (List.mem_of_mem_erase hd);have hne:d≠n:=fun e=>by subst e;exact absurd hd (List.count_eq_zero.1 hc0)
   omega
  have h2:∀v:Nat,v<n->(l.erase (n:Int)).count (v:Int)=1:=fun v h=>by
   rw[List.count_erase_of_ne (by omega)];exact hc v (by omega)
  obtain⟨k1,k2⟩:=ih _ h1 h2;refine⟨by have:=List.length_erase_of_mem hm;have:0<l.length:=List.length_pos_of_mem hm;omega,fun v h=>?_⟩;exact List.count_pos_iff.1 (by rw[hc v h];omega)
def Uk(n:Int)(xs:List Xg):Bool:=xs.all fun x=>x.phis.all fun p=>Kt true p.dst 0 n
theorem ZcG{α:Type}(p q:α->Bool)(l:List α):l.all (fun x=>p x&&q x)=(l.all p&&l.all q):=by
 induction l with
 | nil=>rfl
 | cons x l ih=>simp only[List.all_cons,ih];cases p x<;>cases q x<;>cases l.all p<;>simp
theorem V7(F:Fn):∀(xs:List Xg)(i:Nat),YY ZB F xs i=(Uk F.values xs&&YY ZM F xs i):=by
 intro xs
 induction xs with
 | nil=>intro i;rfl
 | cons x xs ih =>
  intro i;simp only[YY,Uk,List.all_cons,ih];have:x.phis.all (ZB F.values (F.preds ↑i).length)=(x.phis.all (fun p=>Kt true p.dst 0 F.values)&&x.phis.all (ZM F.values (F.preds ↑i).length)):=ZcG _ _ _;rw[this];cases x.phis.all (fun p=>Kt true p.dst 0 F.values)<;>cases x.phis.all (ZM F.values (F.preds ↑i).length)<;>simp
theorem Zcy(F:Fn)(hi:Zl F=true):(Uk F.values F.blocks=true↔∀d∈blksDefs F.blocks,0<=d/\d<F.values):=by
 unfold Uk blksDefs;simp only[List.all_eq_true,List.mem_flatMap,KF,Xu,Xw,List.mem_append,List.mem_map,List.mem_filter,Kt,if_true,Bool.and_eq_true,decide_eq_true_eq];constructor
 ·rintro h d ⟨x,hx,⟨p,hp,rfl⟩ | ⟨y,⟨hy,hd⟩,rfl⟩⟩
  ·exact h x hx p hp
  ·have:=List.all_eq_true.1 (List.all_eq_true.1 hi x hx) y hy
   simp only[Yh,hd,Kt,if_true,Bool.and_eq_true,decide_eq_true_eq]at this;omega
 ·intro h x hx p hp
  exact h _ ⟨x,hx,Or.inl ⟨p,hp,rfl⟩⟩
theorem Zcu(F:Fn)(h0:0<=F.values)(hi:Zl F=true):(Uk F.values F.blocks&&Ts F)=KR F:=by
 rw[Bool.eq_iff_iff];obtain⟨n,hn⟩:=Int.eq_ofNat_of_zero_le h0;rw[Bool.and_eq_true,Zcy F hi];unfold Ts KR;rw[hn];simp only[List.all_eq_true,List.mem_range,Int.toNat_natCast,beq_iff_eq,Bool.and_eq_true,decide_eq_true_eq,List.contains_iff_mem,Wo];constructor
 ·rintro⟨h1,h2⟩
  obtain⟨k1,k2⟩:=Zck n _ h1 h2;exact⟨by omega,k2⟩
 ·rintro⟨h1,h2⟩
  exact Zfk n _ (by omega) h2
theorem Tx(F:Fn):Y7 F=VP F:=by
 unfold Y7 VP Kb KQ;rw[V7];cases hs:Y6 F
 ·simp
 cases hi:Zl F
 ·simp
 cases ht:ZY F
 ·simp
 have h0:0<=F.values:=by
  simp only[Y6,Bool.and_eq_true,decide_eq_true_eq]at hs;omega
 have:=Zcu F h0 hi;rw[<-this];cases Uk F.values F.blocks<;>cases YY ZM F F.blocks 0<;>simp
end Go.Proofs.YtbofmlmdgkblkaaDoor
namespace Go.Proofs.YtbofmlmdgkblkaaDoor
set_option maxHeartbeats 1000000
open Go.RowKit
def JK(op:Int):ByteArray :=
 if op=1 then ⟨#[100,105]⟩else if op=2 then ⟨#[100,105]⟩else if 3<=op/\op<=7 then ⟨#[100,97,98]⟩else if op=8 then ⟨#[100,97]⟩else if op=11 then ⟨#[100,97]⟩
 else if op=9 then ⟨#[97,98]⟩else if op=10 then ⟨#[97]⟩else if op=12 then ⟨#[97]⟩else if op=13 then ⟨#[100]⟩else ⟨#[]⟩
theorem Zcs{a b:ByteArray}(h:a=b):Ending.returned (.string a)=.returned (.string b):=by rw[h]
theorem ZbQ(op:Int)(w:World) :
 Calls Tryd.prog 78 #[.int .i64 op] w fun e w'=>e=.returned (.string (JK op))/\w'=w:=by
 by_cases h:1<=op/\op<=13
 ·have hc:op=1\/op=2\/op=3\/op=4\/op=5\/op=6\/op=7\/op=8\/op=9\/op=10\/op=11\/op=12\/op=13:=by omega
  rcases hc with rfl | rfl | rfl | rfl | rfl | rfl | rfl | rfl | rfl | rfl | rfl | rfl | rfl
  all_goals
   clear h
   go_enter Tryd.func78,Tryd.ntmps78
   go_wp2
   go_ret
   exact⟨rfl,rfl⟩
 ·have h1:(op==1)=false:=by simp;omega
  have h2:(op==2)=false:=by simp;omega
  have h3:(op==3)=false:=by simp;omega
  have h4:(op==4)=false:=by simp;omega
  have h5:(op==5)=false:=by simp;omega
  have h6:(op==6)=false:=by simp;omega
  have h7:(op==7)=false:=by simp;omega
  have h8:(op==8)=false:=by simp;omega
  have h9:(op==9)=false:=by simp;omega
  have h10:(op==10)=false:=by simp;omega
  have h11:(op==11)=false:=by simp;omega
  have h12:(op==12)=false:=by simp;omega
  have h13:(op==13)=false:=by simp;omega
  have hu:Hid (JK op=⟨#[]⟩):=by
   show _=_;unfold JK;rw[if_neg (by omega),if_neg (by omega),if_neg (by omega),if_neg (by omega),if_neg (by omega),if_neg (by omega),if_neg (by omega),if_neg (by omega),if_neg (by omega)]
  clear h
  go_enter Tryd.func78,Tryd.ntmps78
  go_wp2
  go_ret
  exact⟨Zcs hu.symm,rfl⟩
def VK(s:ByteArray)(f:Int):Bool:=s.data.toList.any fun c=>(c.toNat:Int)==f
theorem Zfp{s:ByteArray}{f:Int}{k:Nat}(hk:k<s.size)(h:(s[k].toNat:Int)=f):VK s f=true:=by
 unfold VK;rw[List.any_eq_true];exact⟨s[k],by rw[Array.mem_toList_iff];exact Array.getElem_mem hk,by simp[h]⟩
theorem Zgc{s:ByteArray}{f:Int}(h:∀j (hj:j<s.size),(s[j].toNat:Int)≠f):VK s f=false:=by
 unfold VK;rw[List.any_eq_false];intro c hc;obtain⟨j,hj,rfl⟩:=Array.mem_iff_getElem.1 (Array.mem_toList_iff.1 hc);have:=h j hj;rw[beq_iff_eq];exact this
theorem Zc1(op:Int):(JK op).size<=3:=by
 unfold JK
 repeat (split<;>try decide)
theorem T7(op f:Int)(w:World) :
 Calls Tryd.prog 50 #[.int .i64 op,.int .u8 f] w fun e w'=>e=.returned (.bool (VK (JK op) f))/\w'=w:=by
 go_enter Tryd.func50,Tryd.ntmps50
 go_wp2_with fail
 refine(ZbQ _ _).mono ?_;rintro e w1 ⟨rfl,rfl⟩;have hs:=Zc1 op;generalize hS:JK op=s at *;have HS:=Xa hS;clear hS;go_wp2
 go_loop [6] (fun i=>∃k:Nat,k<=s.size/\i=.int .i64 k/\Hid (∀j (hj:j<s.size),j<k->(s[j].toNat:Int)≠f)) (fun i=>s.size-(intOf i).toNat)
 case atStart=>exact⟨0,Nat.zero_le _,rfl,fun j hj h=>absurd h (by omega)⟩
 case round =>
  obtain⟨k,hk,rfl,hno⟩:=hrel;by_cases hlt:k<s.size
  ·by_cases he:(s[k].toNat:Int)=f
   ·have hb:((s[k].toNat:Int)==f)=true:=by simp[he]
    have HE:=Xa he;clear he;go_wp2
    go_ret
    exact⟨Xm (by rw[Xv HS];exact(Zfp hlt HE.out).symm),rfl⟩
   ·have hb:((s[k].toNat:Int)==f)=false:=by simp[he]
    have HE:=Xa he;clear he;go_wp2
    go_round
    case rel=>exact⟨k+1,by omega,by go_num,fun j hj h=>if e:j=k then by subst e;exact HE.out else hno.out j hj (by omega)⟩
    case measure=>simp[intOf];omega
  ·go_wp2
   go_ret
   exact⟨Xm (by rw[Xv HS];exact(Zgc fun j hj=>hno.out j hj (by omega)).symm),rfl⟩
theorem Zie(op:Int):VK (JK op) 100=dB op:=by
 by_cases h:1<=op/\op<=13
 ·have hc:op=1\/op=2\/op=3\/op=4\/op=5\/op=6\/op=7\/op=8\/op=9\/op=10\/op=11\/op=12\/op=13:=by omega
  rcases hc with rfl | rfl | rfl | rfl | rfl | rfl | rfl | rfl | rfl | rfl | rfl | rfl | rfl<;>rfl
 ·unfold JK
  rw[if_neg (by omega),if_neg (by omega),if_neg (by omega),if_neg (by omega),if_neg (by omega),if_neg (by omega),if_neg (by omega),if_neg (by omega),if_neg (by omega)];simp only[VK,dB];rw[decide_eq_false (by omega),decide_eq_false (by omega),decide_eq_false (by omega)];rfl
theorem ZhE(op:Int):VK (JK op) 97=aB op:=by
 by_cases h:1<=op/\op<=13
 ·have hc:op=1\/op=2\/op=3\/op=4\/op=5\/op=6\/op=7\/op=8\/op=9\/op=10\/op=11\/op=12\/op=13:=by omega
  rcases hc with rfl | rfl | rfl | rfl | rfl | rfl | rfl | rfl | rfl | rfl | rfl | rfl | rfl<;>rfl
 ·unfold JK
  rw[if_neg (by omega),if_neg (by omega),if_neg (by omega),if_neg (by omega),if_neg (by omega),if_neg (by omega),if_neg (by omega),if_neg (by omega),if_neg (by omega)];simp only[VK,aB];rw[decide_eq_false (by omega)];rfl
theorem Zhv(op:Int):VK (JK op) 98=bB op:=by
 by_cases h:1<=op/\op<=13
 ·have hc:op=1\/op=2\/op=3\/op=4\/op=5\/op=6\/op=7\/op=8\/op=9\/op=10\/op=11\/op=12\/op=13:=by omega
  rcases hc with rfl | rfl | rfl | rfl | rfl | rfl | rfl | rfl | rfl | rfl | rfl | rfl | rfl<;>rfl
 ·unfold JK
  rw[if_neg (by omega),if_neg (by omega),if_neg (by omega),if_neg (by omega),if_neg (by omega),if_neg (by omega),if_neg (by omega),if_neg (by omega),if_neg (by omega)];simp only[VK,bB];rw[decide_eq_false (by omega),decide_eq_false (by omega)];rfl
theorem ZaN(op:Int)(w:World):Calls Tryd.prog 50 #[.int .i64 op,.int .u8 100] w fun e w'=>e=.returned (.bool (dB op))/\w'=w:=by rw[<-Zie];exact T7 op 100 w
theorem Zfn(op:Int)(w:World):Calls Tryd.prog 50 #[.int .i64 op,.int .u8 97] w fun e w'=>e=.returned (.bool (aB op))/\w'=w:=by rw[<-ZhE];exact T7 op 97 w
theorem Zhb(op:Int)(w:World):Calls Tryd.prog 50 #[.int .i64 op,.int .u8 98] w fun e w'=>e=.returned (.bool (bB op))/\w'=w:=by rw[<-Zhv];exact T7 op 98 w
end Go.Proofs.YtbofmlmdgkblkaaDoor
namespace Go.Proofs.YtbofmlmdgkblkaaDoor
set_option maxHeartbeats 400000
open Go.RowKit
theorem ZZ(t:XZ)(w:World) :
 Calls Tryd.prog 51 #[.agg #[.int .i64 t.kind,.int .i64 t.a,.int .i64 t.to,.int .i64 t.els]] w fun e w'=>∃a c,e=.returned (.slice a t.targets.length c)/\Below w.heap.size w w'/\Xe w' w.heap.size w'.heap.size a t.targets:=by
 obtain⟨kind,ta,to,els⟩:=t;by_cases h1:kind=1
 ·subst h1
  go_enter Tryd.func51,Tryd.ntmps51
  go_wp2
  go_ret
  refine⟨_,_,rfl,Xb (Xb (Below.refl _ _) _) _,fun i hi=>?_⟩;simp[XZ.targets]at hi;subst hi;exact⟨_,_,rfl,⟨by simp,by simp⟩,by simp[XZ.targets]⟩
 ·by_cases h2:kind=2
  ·subst h2
   go_enter Tryd.func51,Tryd.ntmps51
   go_wp2
   go_ret
   refine⟨_,_,rfl,Xb (Xb (Below.refl _ _) _) _,fun i hi=>?_⟩;simp[XZ.targets]at hi
   match i,hi with
   | 0,_=>exact⟨_,_,rfl,⟨by simp,by simp⟩,by simp[XZ.targets]⟩
   | 1,_=>exact⟨_,_,rfl,⟨by simp,by simp⟩,by simp[XZ.targets]⟩
  ·have e1:(kind==1)=false:=by simp[h1]
   have e2:(kind==2)=false:=by simp[h2]
   have hn:(XZ.targets ⟨kind,ta,to,els⟩)=[]:=by simp[XZ.targets,h1,h2]
   rw[hn];clear h1 h2 hn
   go_enter Tryd.func51,Tryd.ntmps51
   go_wp2
   go_ret
   exact⟨_,_,rfl,Xb (Xb (Below.refl _ _) _) _,fun i hi=>absurd hi (by simp)⟩
end Go.Proofs.YtbofmlmdgkblkaaDoor
