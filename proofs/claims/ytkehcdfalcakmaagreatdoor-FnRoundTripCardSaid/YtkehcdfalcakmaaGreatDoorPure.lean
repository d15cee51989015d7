import Derived.Test.YtkehcdfalcakmaaGreatDoorMem
import Derived.BigQuiet
namespace Go.Proofs.YtkehcdfalcakmaaGreatDoor
def dB(op:Int):Bool:=decide (1<=op/\op<=8)||decide (op=11)||decide (op=13)
def aB(op:Int):Bool:=decide (3<=op/\op<=12)
def bB(op:Int):Bool:=decide (3<=op/\op<=7)||decide (op=9)
def K0(u:Bool)(x lo hi:Int):Bool:=if u then decide (lo<=x)&&decide (x<hi)else x==0
def KV(x:Xz):Bool:=if x.op==1 then decide (-1000000000<=x.imm)&&decide (x.imm<=1000000000)else if x.op==2 then decide (0<=x.imm)&&decide (x.imm<8)else x.imm==0
def Yb(n most:Int)(x:Xz):Bool :=
 decide (1<=x.op)&&decide (x.op<=most)&&K0 (dB x.op) x.dst 0 n&&K0 (aB x.op) x.a 0 n&&K0 (bB x.op) x.b 0 n&&KV x
def Ze(n low blocks:Int)(t:XN):Bool :=
 decide (1<=t.kind)&&decide (t.kind<=3)&&K0 (t.kind != 1) t.a 0 n&&K0 (t.kind != 3) t.to low blocks&&K0 (t.kind==2) t.els low blocks
def Zx(n blocks:Int)(t:XN):Bool:=Ze n 1 blocks t && !(t.kind==2&&t.to==t.els)
def XN.targets(t:XN):List Int:=if t.kind=1 then [t.to]else if t.kind=2 then [t.to,t.els]else []
def XF(ps:List Ph):Nat:=(ps.map fun p=>1+p.args.length).sum
def TX(x:Xf):Nat:=1+x.instrs.length+XF x.phis
def Xk(xs:List Xf):Nat:=(xs.map TX).sum
def predsFrom:List Xf->Nat->Int->List Int
 | [],_,_=>[]
 | x::xs,i,b=>(if x.term.targets.contains b then [(i:Int)]else [])++predsFrom xs (i+1) b
def Fn.preds(F:Fn)(b:Int):List Int:=predsFrom F.blocks 0 b
def XC(ps:List Ph):List Int:=ps.map (·.dst)
def XV(xs:List Xz):List Int:=(xs.filter fun x=>dB x.op).map (·.dst)
def KW(x:Xf):List Int:=XC x.phis++XV x.instrs
def blksDefs(xs:List Xf):List Int:=xs.flatMap KW
def Yz(F:Fn):Bool:=decide (0<=F.values)&&decide (F.values<=2000)&&decide (1<=F.blocks.length)&&decide (F.blocks.length<=1000)&&decide (Xk F.blocks<=4000)
def ZR(F:Fn):Bool:=F.blocks.all fun x=>Zx F.values F.blocks.length x.term
def YV(F:Fn):Bool:=F.blocks.all fun x=>x.instrs.all (Yb F.values 10)
def ZB(n:Int)(k:Nat)(p:Ph):Bool:=decide (1<=p.args.length)&&decide (p.args.length=k)&&p.args.all (fun a=>decide (0<=a)&&decide (a<n))
def Zd(n:Int)(k:Nat)(p:Ph):Bool:=K0 true p.dst 0 n&&ZB n k p
def Yj(ok:Int->Nat->Ph->Bool)(F:Fn)(xs:List Xf)(i:Nat):Bool :=
 match xs with
 | []=>true
 | x::xs=>x.phis.all (ok F.values (F.preds i).length)&&Yj ok F xs (i+1)
def KZ(F:Fn):Bool:=Yj ZB F F.blocks 0
def Km(F:Fn):Bool:=Yj Zd F F.blocks 0
def countEq(xs:List Int)(v:Int):Nat:=(xs.filter fun x=>x==v).length
def TH(F:Fn):Bool:=(List.range F.values.toNat).all fun v=>countEq (blksDefs F.blocks) v==1
def Tb(F:Fn):Bool:=decide (((blksDefs F.blocks).length:Int)=F.values)&&(List.range F.values.toNat).all fun v=>(blksDefs F.blocks).contains (v:Int)
def Ki(F:Fn):Bool:=Yz F&&ZR F&&YV F&&Km F&&TH F
def Yx(F:Fn):Bool:=Yz F&&(YV F&&ZR F)&&KZ F&&Tb F
def YC(ps:List Ph):Nat:=(ps.map fun p=>p.args.length).sum
def YF(x:Xf):Nat:=x.phis.length+YC x.phis+x.instrs.length
def Xn(xs:List Xf):Nat:=(xs.map YF).sum
theorem ZcN(ps:List Ph)(p:Ph):YC (ps++[p])=YC ps+p.args.length:=by simp[YC]
theorem Kd(ps:List Xf)(p:Xf):Xn (ps++[p])=Xn ps+YF p:=by simp[Xn]
theorem JB{α:Type}(f:α->Nat)(xs:List α)(k:Nat):((xs.take k).map f).sum<=(xs.map f).sum:=by
 induction xs generalizing k with
 | nil=>simp
 | cons x xs ih=>cases k with
  | zero=>simp
  | succ k=>simp only[List.take_succ_cons,List.map_cons,List.sum_cons];have:=ih k;omega
theorem Ub(ps:List Xf)(k:Nat):Xn (ps.take k)<=Xn ps:=JB _ _ _
theorem Wo(l:List Int)(v:Int):countEq l v=l.count v:=by
 unfold countEq;rw[List.count,List.countP_eq_length_filter]
theorem ZfI(n:Nat):∀l:List Int,l.length=n->(∀v:Nat,v<n->(v:Int)∈l)->(∀d∈l,0<=d/\d<n)/\∀v:Nat,v<n->l.count (v:Int)=1:=by
 induction n with
 | zero =>
  intro l hl _;have:l=[]:=List.eq_nil_of_length_eq_zero hl;subst this;exact⟨fun d hd=>(List.not_mem_nil hd).elim,fun v hv=>absurd hv (by omega)⟩
 | succ n ih =>
  intro l hl hv;have hm:=hv n (by omega);have hlen:(l.erase (n:Int)).length=n:=by rw[List.length_erase_of_mem hm];omega
  have hmem:∀v:Nat,v<n->(v:Int)∈l.erase (n:Int):=fun v h=>(List.mem_erase_of_ne (by omega)).2 (hv v (by omega))
  obtain⟨h1,h2⟩:=ih _ hlen hmem;have hp:=List.perm_cons_erase hm;refine⟨fun d hd=>?_,fun v h=>?_⟩
  ·rcases List.mem_cons.1 (hp.mem_iff.1 hd)with rfl | hd
   ·omega
   ·have:=h1 d hd;omega
  ·rw[hp.count_eq,List.count_cons]
   by_cases e:v=n
   ·subst e
    have:(l.erase (v:Int)).count (v:Int)=0:=List.count_eq_zero.2 (fun hh=>by have:=h1 _ hh;omega);simp[this]
   ·rw[h2 v (by omega)]
    have:((n:Int)==(v:Int))=false:=by simp;omega
    simp[this]
theorem ZcR(n:Nat):∀l:List Int,(∀d∈l,0<=d/\d<n)->(∀v:Nat,v<n->l.count (v:Int)=1)->l.length=n/\∀v:Nat,v<n->(v:Int)∈l:=by
 induction n with
 | zero =>
  intro l hl _;have:l=[]:=List.eq_nil_iff_forall_not_mem.2 (fun d hd=>by have:=hl d hd;omega);subst this;exact⟨rfl,fun v hv=>absurd hv (by omega)⟩
 | succ n ih =>
  intro l hl hc;have hm:(n:Int)∈l:=List.count_pos_iff.1 (by rw[hc n (by omega)];omega);have hp:=List.perm_cons_erase hm;have hc0:(l.erase (n:Int)).count (n:Int)=0:=by rw[List.count_erase_self,hc n (by omega)]
  have h1:∀d∈l.erase (n:Int),0<=d/\d<n:=fun d hd=>by
   have h:=hl d (List.mem_of_mem_erase hd);have hne:d≠n:=fun e=>by subst e;exact absurd hd (List.count_eq_zero.1 hc0)
   omega
  have h2:∀v:Nat,v<n->(l.erase (n:Int)).count (v:Int)=1:=fun v h=>by
   rw[List.count_erase_of_ne (by omega)];exact hc v (by omega)
  obtain⟨k1,k2⟩:=ih _ h1 h2;refine⟨by have:=List.length_erase_of_mem hm;have:0<l.length:=List.length_pos_of_mem hm;omega,fun v h=>?_⟩;exact List.count_pos_iff.1 (by rw[hc v h];omega)
def U2(n:Int)(xs:List Xf):Bool:=xs.all fun x=>x.phis.all fun p=>K0 true p.dst 0 n
theorem Zdw{α:Type}(p q:α->Bool)(l:List α):l.all (fun x=>p x&&q x)=(l.all p&&l.all q):=by
 induction l with
 | nil=>rfl
 | cons x l ih=>simp only[List.all_cons,ih];cases p x<;>cases q x<;>cases l.all p<;>simp
theorem Vr(F:Fn):∀(xs:List Xf)(i:Nat),Yj Zd F xs i=(U2 F.values xs&&Yj ZB F xs i):=by
 intro xs
 induction xs with
 | nil=>intro i;rfl
 | cons x xs ih =>
  intro i;simp only[Yj,U2,List.all_cons,ih];have:x.phis.all (Zd F.values (F.preds ↑i).length)=(x.phis.all (fun p=>K0 true p.dst 0 F.values)&&x.phis.all (ZB F.values (F.preds ↑i).length)):=Zdw _ _ _;rw[this];cases x.phis.all (fun p=>K0 true p.dst 0 F.values)<;>cases x.phis.all (ZB F.values (F.preds ↑i).length)<;>simp
theorem ZcJ(F:Fn)(hi:YV F=true):(U2 F.values F.blocks=true↔∀d∈blksDefs F.blocks,0<=d/\d<F.values):=by
 unfold U2 blksDefs;simp only[List.all_eq_true,List.mem_flatMap,KW,XC,XV,List.mem_append,List.mem_map,List.mem_filter,K0,if_true,Bool.and_eq_true,decide_eq_true_eq];constructor
 ·rintro h d ⟨x,hx,⟨p,hp,rfl⟩ | ⟨y,⟨hy,hd⟩,rfl⟩⟩
  ·exact h x hx p hp
  ·have:=List.all_eq_true.1 (List.all_eq_true.1 hi x hx) y hy
   simp only[Yb,hd,K0,if_true,Bool.and_eq_true,decide_eq_true_eq]at this;omega
 ·intro h x hx p hp
  exact h _ ⟨x,hx,Or.inl ⟨p,hp,rfl⟩⟩
theorem Zch(F:Fn)(h0:0<=F.values)(hi:YV F=true):(U2 F.values F.blocks&&TH F)=Tb F:=by
 rw[Bool.eq_iff_iff];obtain⟨n,hn⟩:=Int.eq_ofNat_of_zero_le h0;rw[Bool.and_eq_true,ZcJ F hi];unfold TH Tb;rw[hn];simp only[List.all_eq_true,List.mem_range,Int.toNat_natCast,beq_iff_eq,Bool.and_eq_true,decide_eq_true_eq,List.contains_iff_mem,Wo];constructor
 ·rintro⟨h1,h2⟩
  obtain⟨k1,k2⟩:=ZcR n _ h1 h2;exact⟨by omega,k2⟩
 ·rintro⟨h1,h2⟩
  exact ZfI n _ (by omega) h2
theorem Zp(F:Fn):Ki F=Yx F:=by
 unfold Ki Yx Km KZ;rw[Vr];cases hs:Yz F
 ·simp
 cases hi:YV F
 ·simp
 cases ht:ZR F
 ·simp
 have h0:0<=F.values:=by
  simp only[Yz,Bool.and_eq_true,decide_eq_true_eq]at hs;omega
 have:=Zch F h0 hi;rw[<-this];cases U2 F.values F.blocks<;>cases Yj ZB F F.blocks 0<;>simp
end Go.Proofs.YtkehcdfalcakmaaGreatDoor
namespace Go.Proofs.YtkehcdfalcakmaaGreatDoor
set_option maxHeartbeats 400000
open Go.RowKit
theorem Zg7{k:IntKind}{a b:Int}(h:a=b):Ending.returned (.int k a)=.returned (.int k b):=by rw[h]
theorem Xg{a b:Bool}(h:a=b):Ending.returned (.bool a)=.returned (.bool b):=by rw[h]
theorem XY(u:Bool)(x lo hi:Int)(w:World) :
 Calls Tryz.prog 44 #[.bool u,.int .i64 x,.int .i64 lo,.int .i64 hi] w fun e w'=>e=.returned (.bool (K0 u x lo hi))/\w'=w:=by
 cases u
 ·go_enter Tryz.func44,Tryz.ntmps44
  go_wp2
  go_ret
  exact⟨rfl,rfl⟩
 ·by_cases h1:lo<=x<;>by_cases h2:x<hi
  all_goals
   go_enter Tryz.func44,Tryz.ntmps44
   go_wp2
   go_ret
   exact⟨by simp[K0,h1,h2],rfl⟩
theorem X9{α:Type}(xs:List α)(k:Nat)(h:k<xs.length):xs.take (k+1)=xs.take k++[xs[k]]:=List.take_succ_eq_append_getElem h
end Go.Proofs.YtkehcdfalcakmaaGreatDoor
namespace Go.Proofs.YtkehcdfalcakmaaGreatDoor
set_option maxHeartbeats 1000000
open Go.RowKit
def ZE(op:Int):ByteArray :=
 if op=1 then ⟨#[100,105]⟩else if op=2 then ⟨#[100,105]⟩else if 3<=op/\op<=7 then ⟨#[100,97,98]⟩else if op=8 then ⟨#[100,97]⟩else if op=11 then ⟨#[100,97]⟩
 else if op=9 then ⟨#[97,98]⟩else if op=10 then ⟨#[97]⟩else if op=12 then ⟨#[97]⟩else if op=13 then ⟨#[100]⟩else ⟨#[]⟩
theorem ZcH{a b:ByteArray}(h:a=b):Ending.returned (.string a)=.returned (.string b):=by rw[h]
theorem Zc1(op:Int)(w:World) :
 Calls Tryz.prog 59 #[.int .i64 op] w fun e w'=>e=.returned (.string (ZE op))/\w'=w:=by
 by_cases h:1<=op/\op<=13
 ·have hc:op=1\/op=2\/op=3\/op=4\/op=5\/op=6\/op=7\/op=8\/op=9\/op=10\/op=11\/op=12\/op=13:=by omega
  rcases hc with rfl | rfl | rfl | rfl | rfl | rfl | rfl | rfl | rfl | rfl | rfl | rfl | rfl
  all_goals
   clear h
   go_enter Tryz.func59,Tryz.ntmps59
   go_wp2
   go_ret
   exact⟨rfl,rfl⟩
 ·have h1:(op==1)=false:=by simp;omega
  have h2:(op==2)=false:=by simp;omega
  have h3:(op==3)=false:=by simp;omega
  have h4:(op==4)=false:=by simp;omega
  have h5:(op==5)=false:=by simp;omega
  have h6:(op==6)=false:=by simp;omega
  have h7:(op==7)=false:=by simp;omega
  have h8:(op==8)=false:=by simp;omega
  have h9:(op==9)=false:=by simp;omega
  have h10:(op==10)=false:=by simp;omega
  have h11:(op==11)=false:=by simp;omega
  have h12:(op==12)=false:=by simp;omega
  have h13:(op==13)=false:=by simp;omega
  have hu:Hid (ZE op=⟨#[]⟩):=by
   show _=_;unfold ZE;rw[if_neg (by omega),if_neg (by omega),if_neg (by omega),if_neg (by omega),if_neg (by omega),if_neg (by omega),if_neg (by omega),if_neg (by omega),if_neg (by omega)]
  clear h
  go_enter Tryz.func59,Tryz.ntmps59
  go_wp2
  go_ret
  exact⟨ZcH hu.symm,rfl⟩
def VA(s:ByteArray)(f:Int):Bool:=s.data.toList.any fun c=>(c.toNat:Int)==f
theorem Zfp{s:ByteArray}{f:Int}{k:Nat}(hk:k<s.size)(h:(s[k].toNat:Int)=f):VA s f=true:=by
 unfold VA;rw[List.any_eq_true];exact⟨s[k],by rw[Array.mem_toList_iff];exact Array.getElem_mem hk,by simp[h]⟩
theorem ZgG{s:ByteArray}{f:Int}(h:∀j (hj:j<s.size),(s[j].toNat:Int)≠f):VA s f=false:=by
 unfold VA;rw[List.any_eq_false];intro c hc;obtain⟨j,hj,rfl⟩:=Array.mem_iff_getElem.1 (Array.mem_toList_iff.1 hc);have:=h j hj;rw[beq_iff_eq];exact this
theorem T9(op:Int):(ZE op).size<=3:=by
 unfold ZE
 repeat (split<;>try decide)
theorem TC(op f:Int)(w:World) :
 Calls Tryz.prog 39 #[.int .i64 op,.int .u8 f] w fun e w'=>e=.returned (.bool (VA (ZE op) f))/\w'=w:=by
 go_enter Tryz.func39,Tryz.ntmps39
 go_wp2_with fail
 refine(Zc1 _ _).mono ?_;rintro e w1 ⟨rfl,rfl⟩;have hs:=T9 op;generalize hS:ZE op=s at *;have HS:=Xa hS;clear hS;go_wp2
 go_loop [6] (fun i=>∃k:Nat,k<=s.size/\i=.int .i64 k/\Hid (∀j (hj:j<s.size),j<k->(s[j].toNat:Int)≠f)) (fun i=>s.size-(intOf i).toNat)
 case atStart=>exact⟨0,Nat.zero_le _,rfl,fun j hj h=>absurd h (by omega)⟩
 case round =>
  obtain⟨k,hk,rfl,hno⟩:=hrel;by_cases hlt:k<s.size
  ·by_cases he:(s[k].toNat:Int)=f
   ·have hb:((s[k].toNat:Int)==f)=true:=by simp[he]
    have HE:=Xa he;clear he;go_wp2
    go_ret
    exact⟨Xg (by rw[Xr HS];exact(Zfp hlt HE.out).symm),rfl⟩
   ·have hb:((s[k].toNat:Int)==f)=false:=by simp[he]
    have HE:=Xa he;clear he;go_wp2
    go_round
    case rel=>exact⟨k+1,by omega,by go_num,fun j hj h=>if e:j=k then by subst e;exact HE.out else hno.out j hj (by omega)⟩
    case measure=>simp[intOf];omega
  ·go_wp2
   go_ret
   exact⟨Xg (by rw[Xr HS];exact(ZgG fun j hj=>hno.out j hj (by omega)).symm),rfl⟩
theorem Zh4(op:Int):VA (ZE op) 100=dB op:=by
 by_cases h:1<=op/\op<=13
 ·have hc:op=1\/op=2\/op=3\/op=4\/op=5\/op=6\/op=7\/op=8\/op=9\/op=10\/op=11\/op=12\/op=13:=by omega
  rcases hc with rfl | rfl | rfl | rfl | rfl | rfl | rfl | rfl | rfl | rfl | rfl | rfl | rfl<;>rfl
 ·unfold ZE
  rw[if_neg (by omega),if_neg (by omega),if_neg (by omega),if_neg (by omega),if_neg (by omega),if_neg (by omega),if_neg (by omega),if_neg (by omega),if_neg (by omega)];simp only[VA,dB];rw[decide_eq_false (by omega),decide_eq_false (by omega),decide_eq_false (by omega)];rfl
theorem Zh1(op:Int):VA (ZE op) 97=aB op:=by
 by_cases h:1<=op/\op<=13
 ·have hc:op=1\/op=2\/op=3\/op=4\/op=5\/op=6\/op=7\/op=8\/op=9\/op=10\/op=11\/op=12\/op=13:=by omega
  rcases hc with rfl | rfl | rfl | rfl | rfl | rfl | rfl | rfl | rfl | rfl | rfl | rfl | rfl<;>rfl
 ·unfold ZE
  rw[if_neg (by omega),if_neg (by omega),if_neg (by omega),if_neg (by omega),if_neg (by omega),if_neg (by omega),if_neg (by omega),if_neg (by omega),if_neg (by omega)];simp only[VA,aB];rw[decide_eq_false (by omega)];rfl
theorem ZhT(op:Int):VA (ZE op) 98=bB op:=by
 by_cases h:1<=op/\op<=13
 ·have hc:op=1\/op=2\/op=3\/op=4\/op=5\/op=6\/op=7\/op=8\/op=9\/op=10\/op=11\/op=12\/op=13:=by omega
  rcases hc with rfl | rfl | rfl | rfl | rfl | rfl | rfl | rfl | rfl | rfl | rfl | rfl | rfl<;>rfl
 ·unfold ZE
  rw[if_neg (by omega),if_neg (by omega),if_neg (by omega),if_neg (by omega),if_neg (by omega),if_neg (by omega),if_neg (by omega),if_neg (by omega),if_neg (by omega)];simp only[VA,bB];rw[decide_eq_false (by omega),decide_eq_false (by omega)];rfl
theorem Zbm(op:Int)(w:World):Calls Tryz.prog 39 #[.int .i64 op,.int .u8 100] w fun e w'=>e=.returned (.bool (dB op))/\w'=w:=by rw[<-Zh4];exact TC op 100 w
theorem Zfd(op:Int)(w:World):Calls Tryz.prog 39 #[.int .i64 op,.int .u8 97] w fun e w'=>e=.returned (.bool (aB op))/\w'=w:=by rw[<-Zh1];exact TC op 97 w
theorem Zhg(op:Int)(w:World):Calls Tryz.prog 39 #[.int .i64 op,.int .u8 98] w fun e w'=>e=.returned (.bool (bB op))/\w'=w:=by rw[<-ZhT];exact TC op 98 w
end Go.Proofs.YtkehcdfalcakmaaGreatDoor
namespace Go.Proofs.YtkehcdfalcakmaaGreatDoor
set_option maxHeartbeats 400000
open Go.RowKit
theorem Jm(t:XN)(w:World) :
 Calls Tryz.prog 40 #[.agg #[.int .i64 t.kind,.int .i64 t.a,.int .i64 t.to,.int .i64 t.els]] w fun e w'=>∃a c,e=.returned (.slice a t.targets.length c)/\Below w.heap.size w w'/\Xh w' w.heap.size w'.heap.size a t.targets:=by
 obtain⟨kind,ta,tg,els⟩:=t;by_cases h1:kind=1
 ·subst h1
  go_enter Tryz.func40,Tryz.ntmps40
  go_wp2
  go_ret
  refine⟨_,_,rfl,Xb (Xb (Below.refl _ _) _) _,fun i hi=>?_⟩;simp[XN.targets]at hi;subst hi;exact⟨_,_,rfl,⟨by simp,by simp⟩,by simp[XN.targets]⟩
 ·by_cases h2:kind=2
  ·subst h2
   go_enter Tryz.func40,Tryz.ntmps40
   go_wp2
   go_ret
   refine⟨_,_,rfl,Xb (Xb (Below.refl _ _) _) _,fun i hi=>?_⟩;simp[XN.targets]at hi
   match i,hi with
   | 0,_=>exact⟨_,_,rfl,⟨by simp,by simp⟩,by simp[XN.targets]⟩
   | 1,_=>exact⟨_,_,rfl,⟨by simp,by simp⟩,by simp[XN.targets]⟩
  ·have e1:(kind==1)=false:=by simp[h1]
   have e2:(kind==2)=false:=by simp[h2]
   have hn:(XN.targets ⟨kind,ta,tg,els⟩)=[]:=by simp[XN.targets,h1,h2]
   rw[hn];clear h1 h2 hn
   go_enter Tryz.func40,Tryz.ntmps40
   go_wp2
   go_ret
   exact⟨_,_,rfl,Xb (Xb (Below.refl _ _) _) _,fun i hi=>absurd hi (by simp)⟩
end Go.Proofs.YtkehcdfalcakmaaGreatDoor
