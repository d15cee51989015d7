import Derived.Test.YthgikffcdgpgiaaGreatDoorTO
import Derived.Test.YthgikffcdgpgiaaGreatDoorProg
import Derived.WalkSpells
import Derived.WalkLawsBesides
import Derived.BigQuiet
import Derived.Deep.OwnRows
import Derived.Deep.MidRow
namespace Go.Proofs.YthgikffcdgpgiaaGreatDoor
set_option maxHeartbeats 1000000
open Go.RowKit
def dB(op:Int):Bool:=decide (1<=op/\op<=8)||decide (op=11)||decide (op=13)
def aB(op:Int):Bool:=decide (3<=op/\op<=12)
def bB(op:Int):Bool:=decide (3<=op/\op<=7)||decide (op=9)
def JI(u:Bool)(x lo hi:Int):Bool:=if u then decide (lo<=x)&&decide (x<hi)else x==0
def TX(x:YK):Bool:=if x.op==1 then decide (-1000000000<=x.imm)&&decide (x.imm<=1000000000)else if x.op==2 then decide (0<=x.imm)&&decide (x.imm<8)else x.imm==0
def Ya(n most:Int)(x:YK):Bool :=
 decide (1<=x.op)&&decide (x.op<=most)&&JI (dB x.op) x.dst 0 n&&JI (aB x.op) x.a 0 n&&JI (bB x.op) x.b 0 n&&TX x
def YI(n low blocks:Int)(t:ZX):Bool :=
 decide (1<=t.kind)&&decide (t.kind<=3)&&JI (t.kind != 1) t.a 0 n&&JI (t.kind != 3) t.to low blocks&&JI (t.kind==2) t.els low blocks
def Zm(n blocks:Int)(t:ZX):Bool:=YI n 1 blocks t && !(t.kind==2&&t.to==t.els)
def ZX.targets(t:ZX):List Int:=if t.kind=1 then [t.to]else if t.kind=2 then [t.to,t.els]else []
def XK(ps:List Ph):Nat:=(ps.map fun p=>1+p.args.length).sum
def Kj(x:Xi):Nat:=1+x.instrs.length+XK x.phis
def Xo(xs:List Xi):Nat:=(xs.map Kj).sum
def predsFrom:List Xi->Nat->Int->List Int
 | [],_,_=>[]
 | x::xs,i,b=>(if x.term.targets.contains b then [(i:Int)]else [])++predsFrom xs (i+1) b
def Fn.preds(F:Fn)(b:Int):List Int:=predsFrom F.blocks 0 b
def X8(ps:List Ph):List Int:=ps.map (·.dst)
def XG(xs:List YK):List Int:=(xs.filter fun x=>dB x.op).map (·.dst)
def ZK(x:Xi):List Int:=X8 x.phis++XG x.instrs
def blksDefs(xs:List Xi):List Int:=xs.flatMap ZK
def Yb(F:Fn):Bool:=decide (0<=F.values)&&decide (F.values<=2000)&&decide (1<=F.blocks.length)&&decide (F.blocks.length<=1000)&&decide (Xo F.blocks<=4000)
def Z1(F:Fn):Bool:=F.blocks.all fun x=>Zm F.values F.blocks.length x.term
def YL(F:Fn):Bool:=F.blocks.all fun x=>x.instrs.all (Ya F.values 10)
def Zw(n:Int)(k:Nat)(p:Ph):Bool:=decide (1<=p.args.length)&&decide (p.args.length=k)&&p.args.all (fun a=>decide (0<=a)&&decide (a<n))
def Zh(n:Int)(k:Nat)(p:Ph):Bool:=JI true p.dst 0 n&&Zw n k p
def YA(ok:Int->Nat->Ph->Bool)(F:Fn)(xs:List Xi)(i:Nat):Bool :=
 match xs with
 | []=>true
 | x::xs=>x.phis.all (ok F.values (F.preds i).length)&&YA ok F xs (i+1)
def Ko(F:Fn):Bool:=YA Zw F F.blocks 0
def Jt(F:Fn):Bool:=YA Zh F F.blocks 0
def countEq(xs:List Int)(v:Int):Nat:=(xs.filter fun x=>x==v).length
def J3(F:Fn):Bool:=(List.range F.values.toNat).all fun v=>countEq (blksDefs F.blocks) v==1
def Kk(F:Fn):Bool:=decide (((blksDefs F.blocks).length:Int)=F.values)&&(List.range F.values.toNat).all fun v=>(blksDefs F.blocks).contains (v:Int)
def XQ(F:Fn):Bool:=Yb F&&Z1 F&&YL F&&Jt F&&J3 F
def U9(F:Fn):Bool:=Yb F&&(YL F&&Z1 F)&&Ko F&&Kk F
def szR(l:Int)(n:Nat):Int:=if l<n then -1 else l-n
theorem Yx{l:Int}{n:Nat}(h:l<n):szR l n=-1:=if_pos h
theorem YQ{l:Int}{n:Nat}(h:(n:Int)<=l):szR l n=l-n:=if_neg oM
def XR(ps:List Ph):Nat:=(ps.map fun p=>p.args.length).sum
def Zl(x:Xi):Nat:=x.phis.length+XR x.phis+x.instrs.length
def Xk(xs:List Xi):Nat:=(xs.map Zl).sum
theorem Zcx(ps:List Ph)(p:Ph):XR (ps++[p])=XR ps+p.args.length:=by simp[XR]
theorem Jq(ps:List Xi)(p:Xi):Xk (ps++[p])=Xk ps+Zl p:=by simp[Xk]
theorem YU{α:Type}(f:α->Nat)(xs:List α)(k:Nat):((xs.take k).map f).sum<=(xs.map f).sum:=by
 induction xs generalizing k with
 | nil=>simp
 | cons x xs ih=>cases k with
  | zero=>simp
  | succ k=>simp only[List.take_succ_cons,List.map_cons,List.sum_cons];have:=ih k;omega
theorem ZcA(ps:List Ph)(k:Nat):XR (ps.take k)<=XR ps:=YU _ _ _
theorem Jp(ps:List Xi)(k:Nat):Xk (ps.take k)<=Xk ps:=YU _ _ _
theorem V6(l:List Int)(v:Int):countEq l v=l.count v:=by
 unfold countEq;rw[List.count,List.countP_eq_length_filter]
theorem Zfa(n:Nat):∀l:List Int,l.length=n->(∀v:Nat,v<n->(v:Int)∈l)->(∀d∈l,0<=d/\d<n)/\∀v:Nat,v<n->l.count (v:Int)=1:=by
 induction n with
 | zero =>
  intro l hl _;have:l=[]:=List.eq_nil_of_length_eq_zero hl;subst this;exact⟨fun d hd=>(List.not_mem_nil hd).elim,fun v hv=>absurd hv oM⟩
 | succ n ih =>
  intro l hl hv;have hm:=hv n oM;have hlen:(l.erase (n:Int)).length=n:=by rw[List.length_erase_of_mem hm];omega
  have hmem:∀v:Nat,v<n->(v:Int)∈l.erase (n:Int):=fun v h=>(List.mem_erase_of_ne oM).2 (hv v oM)
  obtain⟨h1,h2⟩:=ih _ hlen hmem;have hp:=List.perm_cons_erase hm;refine⟨fun d hd=>?_,fun v h=>?_⟩
  ·rcases List.mem_cons.1 (hp.mem_iff.1 hd)with rfl | hd
   ·omega
   ·have:=h1 d hd;omega
  ·rw[hp.count_eq,List.count_cons]
   by_cases e:v=n
   ·subst e
    have:(l.erase (v:Int)).count (v:Int)=0:=List.count_eq_zero.2 (fun hh=>by have:=h1 _ hh;omega);simp[this]
   ·rw[h2 v oM]
    have:((n:Int)==(v:Int))=false:=by simp;omega
    simp[this]
theorem ZbW(n:Nat):∀l:List Int,(∀d∈l,0<=d/\d<n)->(∀v:Nat,v<n->l.count (v:Int)=1)->l.length=n/\∀v:Nat,v<n->(v:Int)∈l:=by
 induction n with
 | zero =>
  intro l hl _;have:l=[]:=List.eq_nil_iff_forall_not_mem.2 (fun d hd=>by have:=hl d hd;omega);subst this;exact⟨rfl,fun v hv=>absurd hv oM⟩
 | succ n ih =>
  intro l hl hc;have hm:(n:Int)∈l:=List.count_pos_iff.1 (by rw[hc n oM];omega);have hp:=List.perm_cons_erase hm;have hc0:(l.erase (n:Int)).count (n:Int)=0:=by rw[List.count_erase_self,hc n oM]
  have h1:∀d∈l.erase (n:Int),0<=d/\d<n:=fun d hd=>by
   have h:=hl d (List.mem_of_mem_erase hd);have hne:d≠n:=fun e=>by subst e;exact absurd hd (List.count_eq_zero.1 hc0)
   omega
  have h2:∀v:Nat,v<n->(l.erase (n:Int)).count (v:Int)=1:=fun v h=>by
   rw[List.count_erase_of_ne oM];exact hc v oM
  obtain⟨k1,k2⟩:=ih _ h1 h2;refine⟨by have:=List.length_erase_of_mem hm;have:0<l.length:=List.length_pos_of_mem hm;omega,fun v h=>?_⟩;exact List.count_pos_iff.1 (by rw[hc v h];omega)
def TF(n:Int)(xs:List Xi):Bool:=xs.all fun x=>x.phis.all fun p=>JI true p.dst 0 n
theorem Zdo{α:Type}(p q:α->Bool)(l:List α):l.all (fun x=>p x&&q x)=(l.all p&&l.all q):=by
 induction l with
 | nil=>rfl
 | cons x l ih=>simp only[List.all_cons,ih];cases p x<;>cases q x<;>cases l.all p<;>simp
theorem Vm(F:Fn):∀(xs:List Xi)(i:Nat),YA Zh F xs i=(TF F.values xs&&YA Zw F xs i):=by
 intro xs
 induction xs with
 | nil=>intro i;rfl
 | cons x xs ih =>
  intro i;simp only[YA,TF,List.all_cons,ih];have:x.phis.all (Zh F.values (F.preds ↑i).length)=(x.phis.all (fun p=>JI true p.dst 0 F.values)&&x.phis.all (Zw F.values (F.preds ↑i).length)):=Zdo _ _ _;rw[this];cases x.phis.all (fun p=>JI true p.dst 0 F.values)<;>cases x.phis.all (Zw F.values (F.preds ↑i).length)<;>simp
theorem Zcp(F:Fn)(hi:YL F=true):(TF F.values F.blocks=true↔∀d∈blksDefs F.blocks,0<=d/\d<F.values):=by
 unfold TF blksDefs;simp only[List.all_eq_true,List.mem_flatMap,ZK,X8,XG,List.mem_append,List.mem_map,List.mem_filter,JI,if_true,Bool.and_eq_true,decide_eq_true_eq];constructor
 ·rintro h d ⟨x,hx,⟨p,hp,rfl⟩ | ⟨y,⟨hy,hd⟩,rfl⟩⟩
  ·exact h x hx p hp
  ·have:=List.all_eq_true.1 (List.all_eq_true.1 hi x hx) y hy
   simp only[Ya,hd,JI,if_true,Bool.and_eq_true,decide_eq_true_eq]at this;omega
 ·intro h x hx p hp
  exact h _ ⟨x,hx,Or.inl ⟨p,hp,rfl⟩⟩
theorem Zc9(F:Fn)(h0:0<=F.values)(hi:YL F=true):(TF F.values F.blocks&&J3 F)=Kk F:=by
 rw[Bool.eq_iff_iff];obtain⟨n,hn⟩:=Int.eq_ofNat_of_zero_le h0;rw[Bool.and_eq_true,Zcp F hi];unfold J3 Kk;rw[hn];simp only[List.all_eq_true,List.mem_range,Int.toNat_natCast,beq_iff_eq,Bool.and_eq_true,decide_eq_true_eq,List.contains_iff_mem,V6];constructor
 ·rintro⟨h1,h2⟩
  obtain⟨k1,k2⟩:=ZbW n _ h1 h2;exact⟨oM,k2⟩
 ·rintro⟨h1,h2⟩
  exact Zfa n _ oM h2
theorem UA(F:Fn):XQ F=U9 F:=by
 unfold XQ U9 Jt Ko;rw[Vm];cases hs:Yb F
 ·simp
 cases hi:YL F
 ·simp
 cases ht:Z1 F
 ·simp
 have h0:0<=F.values:=by
  simp only[Yb,Bool.and_eq_true,decide_eq_true_eq]at hs;omega
 have:=Zc9 F h0 hi;rw[<-this];cases TF F.values F.blocks<;>cases YA Zw F F.blocks 0<;>simp
theorem XX{k:IntKind}{a b:Int}(h:a=b):Ending.returned (.int k a)=.returned (.int k b):=by rw[h]
theorem Xm{a b:Bool}(h:a=b):Ending.returned (.bool a)=.returned (.bool b):=by rw[h]
theorem XU(u:Bool)(x lo hi:Int)(w:World) :
 Calls Tryz.prog 123 #[.bool u,.int .i64 x,.int .i64 lo,.int .i64 hi] w fun e w'=>e=.returned (.bool (JI u x lo hi))/\w'=w:=by
 cases u
 ·go_enter Tryz.func123,Tryz.ntmps123
  go_wp2
  go_ret
  exact⟨rfl,rfl⟩
 ·by_cases h1:lo<=x<;>by_cases h2:x<hi
  all_goals
   go_enter Tryz.func123,Tryz.ntmps123
   go_wp2
   go_ret
   exact⟨by simp[JI,h1,h2],rfl⟩
theorem UY(a:Option Addr)(n c:Nat)(l:Int)(w:World)(hn:n<=9223372036854775807)(h0:0<=l)(h1:l<=1048576) :
 Calls Tryz.prog 137 #[.slice a n c,.int .i64 l] w fun e w'=>e=.returned (.int .i64 (szR l n))/\w'=w:=by
 by_cases h:l<n
 ·go_enter Tryz.func137,Tryz.ntmps137
  go_wp2
  go_ret
  exact⟨XX (Yx h).symm,rfl⟩
 ·go_enter Tryz.func137,Tryz.ntmps137
  go_wp2
  go_ret
  exact⟨XX (YQ oM).symm,rfl⟩
theorem Th(a:Option Addr)(n c:Nat)(l:Int)(w:World)(hn:n<=9223372036854775807)(h0:0<=l)(h1:l<=1048576) :
 Calls Tryz.prog 72 #[.slice a n c,.int .i64 l] w fun e w'=>e=.returned (.int .i64 (szR l n))/\w'=w:=by
 by_cases h:l<n
 ·go_enter Tryz.func72,Tryz.ntmps72
  go_wp2
  go_ret
  exact⟨XX (Yx h).symm,rfl⟩
 ·go_enter Tryz.func72,Tryz.ntmps72
  go_wp2
  go_ret
  exact⟨XX (YQ oM).symm,rfl⟩
theorem VO(d:Int)(a:Option Addr)(n c:Nat)(l:Int)(w:World)(hn:n<=9223372036854775807)(h0:0<=l)(h1:l<=1048576) :
 Calls Tryz.prog 118 #[.agg #[.int .i64 d,.slice a n c],.int .i64 l] w fun e w'=>e=.returned (.int .i64 (szR l n))/\Below w.heap.size w w':=by
 by_cases h:l<n
 ·have hz:=Yx h
  go_enter Tryz.func118,Tryz.ntmps118
  go_wp2_with (go_at_call 137;refine(UY _ _ _ _ _ oM oM oM).mono ?_;rintro e w' ⟨rfl,rfl⟩)
  go_ret
  exact⟨XX hz.symm,(Below.refl _ _).alloc (Nat.le_refl _) _⟩
 ·have hz:szR l n=l-n:=YQ oM
  go_enter Tryz.func118,Tryz.ntmps118
  go_wp2_with (go_at_call 137;refine(UY _ _ _ _ _ oM oM oM).mono ?_;rintro e w' ⟨rfl,rfl⟩)
  go_ret
  exact⟨XX hz.symm,(Below.refl _ _).alloc (Nat.le_refl _) _⟩
theorem Xr{α:Type}(xs:List α)(k:Nat)(h:k<xs.length):xs.take (k+1)=xs.take k++[xs[k]]:=List.take_succ_eq_append_getElem h
theorem KQ(a:Option Addr)(n c:Nat)(l:Int)(xs:List Ph)(L B:Nat)(w:World)(ha:Hid (XZ w L B a xs))(hx:Hid (n=xs.length))(hn:n<=9223372036854775807)(hs:Hid (∀p∈xs,p.args.length<=9223372036854775807))
 (h0:0<=l) (h1:l<=1048576) (hB:B<=w.heap.size) :
 Calls Tryz.prog 71 #[.slice a n c,.int .i64 l] w fun e w'=>e=.returned (.int .i64 (szR l (n+XR xs)))/\Below w.heap.size w w':=by
 by_cases h:l<n
 ·go_enter Tryz.func71,Tryz.ntmps71
  go_wp2
  go_ret
  exact⟨XX (Yx oM).symm,Below.refl _ _⟩
 ·go_enter Tryz.func71,Tryz.ntmps71
  go_wp2
  go_loopw [1,5] (fun q i wr=>∃k:Nat,k<=n/\i=.int .i64 k/\(∃r:Int,q=.int .i64 r/\0<=r/\r<=1048576/\Hid (r=l-(n+XR (xs.take k):Nat)))/\Below w.heap.size w wr) (fun _ i _=>n-(intOf i).toNat)
  case atStart=>exact⟨0,Nat.zero_le _,rfl,⟨_,rfl,oM,oM,by show _=_;simp[XR]⟩,Below.refl _ _⟩
  case round =>
   obtain⟨k,hk,rfl,⟨r,rfl,hr0,hr1,hr⟩,hw⟩:=hrel;by_cases hlt:k<n
   ·obtain⟨b,o,rfl,⟨_,hbB⟩,aa,cc,hc0,hc1,_⟩:=ha.out k (by have:=hx.out;omega)
    have hq:=hs.out _ (List.getElem_mem (by have:=hx.out;omega:k<xs.length));have e1:=(XD hw oM).trans hc0;have e2:=(XD hw oM).trans hc1;clear hc0 hc1;have HT:Hid (XR (xs.take (k+1))=XR (xs.take k)+(xs[k]'(by have:=hx.out;omega)).args.length):=by show _=_;rw[Xr _ _ (by have:=hx.out;omega),Zcx]
    have HL:Hid (XR (xs.take (k+1))<=XR xs):=ZcA _ _;generalize (xs[k]'(by have:=hx.out;omega)).args.length=m at *;generalize (xs[k]'(by have:=hx.out;omega)).dst=d at *;by_cases hm:r<m
    ·have hz:=Yx hm
     go_wp2_with (go_at_call 118;refine(VO _ _ _ _ _ _ oM oM oM).mono ?_;rintro e w' ⟨rfl,hb1⟩)
     go_ret
     exact⟨XX (Yx (by have:=hr.out;have:=HT.out;have:=HL.out;omega)).symm,Xe hw hb1⟩
    ·have hz:szR r m=r-m:=YQ oM
     go_wp2_with (go_at_call 118;refine(VO _ _ _ _ _ _ oM oM oM).mono ?_;rintro e w' ⟨rfl,hb1⟩)
     exact⟨⟨k+1,oM,gM,⟨_,rfl,oM,oM,by have:=hr.out;have:=HT.out;show _=_;omega⟩,Xe hw hb1⟩,by simp[intOf];omega⟩
   ·go_wp2
    go_ret
    have:k=n:=oM;have h2:=hr.out;rw[List.take_of_length_le (by have:=hx.out;omega)]at h2;exact⟨XX (by rw[YQ oM];exact h2),hw⟩
theorem TT(p i:Option Addr)(n pc m ic:Nat)(t0 t1 t2 t3 l:Int)(xs:List Ph)(L B:Nat)(w:World)(ha:Hid (XZ w L B p xs))(hx:Hid (n=xs.length))(hn:n<=9223372036854775807)(hm:m<=9223372036854775807)(hs:Hid (∀p∈xs,p.args.length<=9223372036854775807))
 (h0:0<=l) (h1:l<=1048576) (hB:B<=w.heap.size) :
 Calls Tryz.prog 38 #[.agg #[.slice p n pc,.slice i m ic,.int .i64 t0,.int .i64 t1,.int .i64 t2,.int .i64 t3],.int .i64 l] w fun e w'=>e=.returned (.int .i64 (szR l (n+XR xs+m)))/\Below w.heap.size w w':=by
 by_cases h:l<(n+XR xs:Nat)
 ·have hz:=Yx h
  go_enter Tryz.func38,Tryz.ntmps38
  go_wp2_with (go_at_call 71;refine(KQ _ _ _ _ xs L B _ (ha.keep ((Below.refl _ _).alloc hB _)) hx oM hs oM oM (by simp;omega)).mono ?_;rintro e w' ⟨rfl,hb1⟩)
  go_ret
  exact⟨XX (Yx oM).symm,Xe ((Below.refl _ _).alloc (Nat.le_refl _) _) hb1⟩
 ·have hz:szR l (n+XR xs)=l-(n+XR xs:Nat):=YQ oM
  generalize hN:n+XR xs=N at *;have HN:=Xa hN;clear hN;by_cases h2:l-N<m
  ·have hz2:=Yx h2
   go_enter Tryz.func38,Tryz.ntmps38
   go_wp2_with (first | (go_at_call 71;refine(KQ _ _ _ _ xs L B _ (ha.keep ((Below.refl _ _).alloc hB _)) hx oM hs oM oM (by simp;omega)).mono ?_;rintro e w1 ⟨rfl,hb1⟩;obtain⟨hc1,hf1⟩:=bcell hb1;rw[Xq HN]) | (go_at_call 72;refine(Th _ _ _ _ _ oM oM oM).mono ?_;rintro e w' ⟨rfl,rfl⟩))
   go_ret
   exact⟨XX (Yx oM).symm,Xe ((Below.refl _ _).alloc (Nat.le_refl _) _) hb1⟩
  ·have hz2:szR (l-N) m=l-N-m:=YQ oM
   go_enter Tryz.func38,Tryz.ntmps38
   go_wp2_with (first | (go_at_call 71;refine(KQ _ _ _ _ xs L B _ (ha.keep ((Below.refl _ _).alloc hB _)) hx oM hs oM oM (by simp;omega)).mono ?_;rintro e w1 ⟨rfl,hb1⟩;obtain⟨hc1,hf1⟩:=bcell hb1;rw[Xq HN]) | (go_at_call 72;refine(Th _ _ _ _ _ oM oM oM).mono ?_;rintro e w' ⟨rfl,rfl⟩))
   go_ret
   exact⟨XX (by rw[YQ oM];omega),Xe ((Below.refl _ _).alloc (Nat.le_refl _) _) hb1⟩
def ZfY(xs:List Xi):Prop:=∀x∈xs,x.phis.length<=9223372036854775807/\x.instrs.length<=9223372036854775807/\∀p∈x.phis,p.args.length<=9223372036854775807
theorem Ty(a:Option Addr)(n c:Nat)(l:Int)(xs:List Xi)(L B:Nat)(w:World)(ha:Hid (Xl w L B a xs))(hx:Hid (n=xs.length))(hn:n<=9223372036854775807)(hs:Hid (ZfY xs))
 (h0:0<=l) (h1:l<=1048576) (hB:B<=w.heap.size) :
 Calls Tryz.prog 18 #[.slice a n c,.int .i64 l] w fun e w'=>e=.returned (.int .i64 (szR l (n+Xk xs)))/\Below w.heap.size w w':=by
 by_cases h:l<n
 ·go_enter Tryz.func18,Tryz.ntmps18
  go_wp2
  go_ret
  exact⟨XX (Yx oM).symm,Below.refl _ _⟩
 ·go_enter Tryz.func18,Tryz.ntmps18
  go_wp2
  go_loopw [1,5] (fun q i wr=>∃k:Nat,k<=n/\i=.int .i64 k/\(∃r:Int,q=.int .i64 r/\0<=r/\r<=1048576/\Hid (r=l-(n+Xk (xs.take k):Nat)))/\Below w.heap.size w wr) (fun _ i _=>n-(intOf i).toNat)
  case atStart=>exact⟨0,Nat.zero_le _,rfl,⟨_,rfl,oM,oM,by show _=_;simp[Xk]⟩,Below.refl _ _⟩
  case round =>
   obtain⟨k,hk,rfl,⟨r,rfl,hr0,hr1,hr⟩,hw⟩:=hrel;by_cases hlt:k<n
   ·have hkx:k<xs.length:=by have:=hx.out;omega
    obtain⟨b,o,rfl,⟨_,hbB⟩,pa,pc,ia,ic,hc0,hc1,⟨hc2,hc3,hc4,hc5⟩,hps,_⟩:=ha.out k hkx;obtain⟨hq1,hq2,hq3⟩:=hs.out _ (List.getElem_mem hkx);have HQ3:=Xa hq3;have e0:=(XD hw oM).trans hc0;have e1:=(XD hw oM).trans hc1;have e2:=(XD hw oM).trans hc2;have e3:=(XD hw oM).trans hc3;have e4:=(XD hw oM).trans hc4;have e5:=(XD hw oM).trans hc5;have HP:=Xa (hps.keep (hw.mono hB));clear hc0 hc1 hc2 hc3 hc4 hc5 hps hq3;have HT:Hid (Xk (xs.take (k+1))=Xk (xs.take k)+(xs[k].phis.length+XR xs[k].phis+xs[k].instrs.length)):=by show _=_;rw[Xr _ _ hkx,Jq];rfl
    have HL:Hid (Xk (xs.take (k+1))<=Xk xs):=Jp _ _;have hBr:B<=wr.heap.size:=by have:=hw.size;omega
    generalize xs[k]=X at *;by_cases hm:r<(X.phis.length+XR X.phis+X.instrs.length:Nat)
    ·have hz:=Yx hm
     go_wp2_with (go_at_call 38;refine(TT _ _ _ _ _ _ _ _ _ _ _ X.phis L B _ HP rfl oM oM HQ3 oM oM oM).mono ?_;rintro e w' ⟨rfl,hb1⟩)
     go_ret
     exact⟨XX (Yx (by have:=hr.out;have:=HT.out;have:=HL.out;omega)).symm,Xe hw hb1⟩
    ·have hz:szR r (X.phis.length+XR X.phis+X.instrs.length)=r-(X.phis.length+XR X.phis+X.instrs.length:Nat):=YQ oM
     go_wp2_with (go_at_call 38;refine(TT _ _ _ _ _ _ _ _ _ _ _ X.phis L B _ HP rfl oM oM HQ3 oM oM oM).mono ?_;rintro e w' ⟨rfl,hb1⟩)
     exact⟨⟨k+1,oM,gM,⟨_,rfl,oM,oM,by have:=hr.out;have:=HT.out;show _=_;omega⟩,Xe hw hb1⟩,by simp[intOf];omega⟩
   ·go_wp2
    go_ret
    have:k=n:=oM;have h2:=hr.out;rw[List.take_of_length_le (by have:=hx.out;omega)]at h2;exact⟨XX (by rw[YQ oM];exact h2),hw⟩
theorem Uy(v:Int)(a:Option Addr)(n c:Nat)(l:Int)(xs:List Xi)(L B:Nat)(w:World)(ha:Hid (Xl w L B a xs))(hx:Hid (n=xs.length))(hn:n<=9223372036854775807)(hs:Hid (ZfY xs))
 (h0:0<=l) (h1:l<=1048576) (hB:B<=w.heap.size) :
 Calls Tryz.prog 5 #[.agg #[.int .i64 v,.slice a n c],.int .i64 l] w fun e w'=>e=.returned (.int .i64 (szR l (n+Xk xs)))/\Below w.heap.size w w':=by
 by_cases h:l<(n+Xk xs:Nat)
 ·have hz:=Yx h
  go_enter Tryz.func5,Tryz.ntmps5
  go_wp2_with (go_at_call 18;refine(Ty _ _ _ _ xs L B _ (ha.keep ((Below.refl _ _).alloc hB _)) hx oM hs oM oM (by simp;omega)).mono ?_;rintro e w' ⟨rfl,hb1⟩)
  go_ret
  exact⟨XX hz.symm,Xe ((Below.refl _ _).alloc (Nat.le_refl _) _) hb1⟩
 ·have hz:szR l (n+Xk xs)=l-(n+Xk xs:Nat):=YQ oM
  go_enter Tryz.func5,Tryz.ntmps5
  go_wp2_with (go_at_call 18;refine(Ty _ _ _ _ xs L B _ (ha.keep ((Below.refl _ _).alloc hB _)) hx oM hs oM oM (by simp;omega)).mono ?_;rintro e w' ⟨rfl,hb1⟩)
  go_ret
  exact⟨XX hz.symm,Xe ((Below.refl _ _).alloc (Nat.le_refl _) _) hb1⟩
def Ji(op:Int):ByteArray :=
 if op=1 then ⟨#[100,105]⟩else if op=2 then ⟨#[100,105]⟩else if 3<=op/\op<=7 then ⟨#[100,97,98]⟩else if op=8 then ⟨#[100,97]⟩else if op=11 then ⟨#[100,97]⟩
 else if op=9 then ⟨#[97,98]⟩else if op=10 then ⟨#[97]⟩else if op=12 then ⟨#[97]⟩else if op=13 then ⟨#[100]⟩else ⟨#[]⟩
theorem ZbT{a b:ByteArray}(h:a=b):Ending.returned (.string a)=.returned (.string b):=by rw[h]
theorem ZbP(op:Int)(w:World) :
 Calls Tryz.prog 50 #[.int .i64 op] w fun e w'=>e=.returned (.string (Ji op))/\w'=w:=by
 by_cases h:1<=op/\op<=13
 ·have hc:op=1\/op=2\/op=3\/op=4\/op=5\/op=6\/op=7\/op=8\/op=9\/op=10\/op=11\/op=12\/op=13:=oM
  rcases hc with rfl | rfl | rfl | rfl | rfl | rfl | rfl | rfl | rfl | rfl | rfl | rfl | rfl
  all_goals
   clear h
   go_enter Tryz.func50,Tryz.ntmps50
   go_wp2
   go_ret
   exact⟨rfl,rfl⟩
 ·have h1:(op==1)=false:=by simp;omega
  have h2:(op==2)=false:=by simp;omega
  have h3:(op==3)=false:=by simp;omega
  have h4:(op==4)=false:=by simp;omega
  have h5:(op==5)=false:=by simp;omega
  have h6:(op==6)=false:=by simp;omega
  have h7:(op==7)=false:=by simp;omega
  have h8:(op==8)=false:=by simp;omega
  have h9:(op==9)=false:=by simp;omega
  have h10:(op==10)=false:=by simp;omega
  have h11:(op==11)=false:=by simp;omega
  have h12:(op==12)=false:=by simp;omega
  have h13:(op==13)=false:=by simp;omega
  have hu:Hid (Ji op=⟨#[]⟩):=by
   show _=_;unfold Ji;rw[if_neg oM,if_neg oM,if_neg oM,if_neg oM,if_neg oM,if_neg oM,if_neg oM,if_neg oM,if_neg oM]
  clear h
  go_enter Tryz.func50,Tryz.ntmps50
  go_wp2
  go_ret
  exact⟨ZbT hu.symm,rfl⟩
def Vv(s:ByteArray)(f:Int):Bool:=s.data.toList.any fun c=>(c.toNat:Int)==f
theorem ZeO{s:ByteArray}{f:Int}{k:Nat}(hk:k<s.size)(h:(s[k].toNat:Int)=f):Vv s f=true:=by
 unfold Vv;rw[List.any_eq_true];exact⟨s[k],by rw[Array.mem_toList_iff];exact Array.getElem_mem hk,by simp[h]⟩
theorem Zg4{s:ByteArray}{f:Int}(h:∀j (hj:j<s.size),(s[j].toNat:Int)≠f):Vv s f=false:=by
 unfold Vv;rw[List.any_eq_false];intro c hc;obtain⟨j,hj,rfl⟩:=Array.mem_iff_getElem.1 (Array.mem_toList_iff.1 hc);have:=h j hj;rw[beq_iff_eq];exact this
theorem Zc6(op:Int):(Ji op).size<=3:=by
 unfold Ji
 repeat (split<;>try decide)
theorem KC(op f:Int)(w:World) :
 Calls Tryz.prog 23 #[.int .i64 op,.int .u8 f] w fun e w'=>e=.returned (.bool (Vv (Ji op) f))/\w'=w:=by
 go_enter Tryz.func23,Tryz.ntmps23
 go_wp2_with fail
 refine(ZbP _ _).mono ?_;rintro e w1 ⟨rfl,rfl⟩;have hs:=Zc6 op;generalize hS:Ji op=s at *;have HS:=Xa hS;clear hS;go_wp2
 go_loop [6] (fun i=>∃k:Nat,k<=s.size/\i=.int .i64 k/\Hid (∀j (hj:j<s.size),j<k->(s[j].toNat:Int)≠f)) (fun i=>s.size-(intOf i).toNat)
 case atStart=>exact⟨0,Nat.zero_le _,rfl,fun j hj h=>absurd h oM⟩
 case round =>
  obtain⟨k,hk,rfl,hno⟩:=hrel;by_cases hlt:k<s.size
  ·by_cases he:(s[k].toNat:Int)=f
   ·have hb:((s[k].toNat:Int)==f)=true:=by simp[he]
    have HE:=Xa he;clear he;go_wp2
    go_ret
    exact⟨Xm (by rw[Xq HS];exact(ZeO hlt HE.out).symm),rfl⟩
   ·have hb:((s[k].toNat:Int)==f)=false:=by simp[he]
    have HE:=Xa he;clear he;go_wp2
    go_round
    case rel=>exact⟨k+1,oM,gM,fun j hj h=>if e:j=k then by subst e;exact HE.out else hno.out j hj oM⟩
    case measure=>simp[intOf];omega
  ·go_wp2
   go_ret
   exact⟨Xm (by rw[Xq HS];exact(Zg4 fun j hj=>hno.out j hj oM).symm),rfl⟩
theorem Zik(op:Int):Vv (Ji op) 100=dB op:=by
 by_cases h:1<=op/\op<=13
 ·have hc:op=1\/op=2\/op=3\/op=4\/op=5\/op=6\/op=7\/op=8\/op=9\/op=10\/op=11\/op=12\/op=13:=oM
  rcases hc with rfl | rfl | rfl | rfl | rfl | rfl | rfl | rfl | rfl | rfl | rfl | rfl | rfl<;>rfl
 ·unfold Ji
  rw[if_neg oM,if_neg oM,if_neg oM,if_neg oM,if_neg oM,if_neg oM,if_neg oM,if_neg oM,if_neg oM];simp only[Vv,dB];rw[decide_eq_false oM,decide_eq_false oM,decide_eq_false oM];rfl
theorem Ziw(op:Int):Vv (Ji op) 97=aB op:=by
 by_cases h:1<=op/\op<=13
 ·have hc:op=1\/op=2\/op=3\/op=4\/op=5\/op=6\/op=7\/op=8\/op=9\/op=10\/op=11\/op=12\/op=13:=oM
  rcases hc with rfl | rfl | rfl | rfl | rfl | rfl | rfl | rfl | rfl | rfl | rfl | rfl | rfl<;>rfl
 ·unfold Ji
  rw[if_neg oM,if_neg oM,if_neg oM,if_neg oM,if_neg oM,if_neg oM,if_neg oM,if_neg oM,if_neg oM];simp only[Vv,aB];rw[decide_eq_false oM];rfl
theorem ZhU(op:Int):Vv (Ji op) 98=bB op:=by
 by_cases h:1<=op/\op<=13
 ·have hc:op=1\/op=2\/op=3\/op=4\/op=5\/op=6\/op=7\/op=8\/op=9\/op=10\/op=11\/op=12\/op=13:=oM
  rcases hc with rfl | rfl | rfl | rfl | rfl | rfl | rfl | rfl | rfl | rfl | rfl | rfl | rfl<;>rfl
 ·unfold Ji
  rw[if_neg oM,if_neg oM,if_neg oM,if_neg oM,if_neg oM,if_neg oM,if_neg oM,if_neg oM,if_neg oM];simp only[Vv,bB];rw[decide_eq_false oM,decide_eq_false oM];rfl
theorem Zbs(op:Int)(w:World):Calls Tryz.prog 23 #[.int .i64 op,.int .u8 100] w fun e w'=>e=.returned (.bool (dB op))/\w'=w:=by rw[<-Zik];exact KC op 100 w
theorem Zh3(op:Int)(w:World):Calls Tryz.prog 23 #[.int .i64 op,.int .u8 97] w fun e w'=>e=.returned (.bool (aB op))/\w'=w:=by rw[<-Ziw];exact KC op 97 w
theorem Zh2(op:Int)(w:World):Calls Tryz.prog 23 #[.int .i64 op,.int .u8 98] w fun e w'=>e=.returned (.bool (bB op))/\w'=w:=by rw[<-ZhU];exact KC op 98 w
section
variable {w w1 : World} {L B b t N : Nat} {f : Nat -> Value}
theorem Kx(b:Nat):∀(vs:List Value)(o:Nat)(w:World)(k:Nat),k≠b->(w.setCells b o vs).heap[k]?=w.heap[k]?
 | [],_,_,_,_=>rfl
 | v::r,o,w,k,h=>by rw[World.setCells,Kx b r _ _ _ h,Below.heap_setCell _ _ _ _ h]
theorem ZP(b:Nat):∀(vs:List Value)(o:Nat)(w:World),(w.setCells b o vs).heap.size=w.heap.size
 | [],_,_=>rfl
 | v::r,o,w=>by rw[World.setCells,ZP b r];simp[World.setCell]
theorem Zf(b:Nat):∀(vs:List Value)(o:Nat)(w w1:World),Below B w w1->B<=b->Below B w (w1.setCells b o vs)
 | [],_,_,_,h,_=>h
 | v::r,o,w,w1,h,hb=>by rw[World.setCells];exact Zf b r _ _ _ (h.setCell hb v) hb
theorem Zb:∀(vs:List Value)(o:Nat)(w:World)(f:Nat->Value),w.rowIs b t N f->∃g,(w.setCells b o vs).rowIs b t N g
 | [],_,_,f,h=>⟨f,h⟩
 | v::r,o,w,_,h=>by rw[World.setCells];exact Zb r _ _ _ (h.set o v)
theorem Ta(hr:w.rowIs b t N f){o m:Nat}(h:o+m<=N):w.there b o m:=fun j hj=>⟨by rw[hr.cell oM];rfl,hr.frozen _⟩
theorem Y6(h:Xu L B w w1)(vs:List Value)(o:Nat)(hb:b<L\/B<=b):Xu L B w (w1.setCells b o vs):=fun k h1 h2=>by
 rw[Kx _ _ _ _ _ oM];exact h k h1 h2
theorem Xu.refl(L B:Nat)(w:World):Xu L B w w:=fun _ _ _=>rfl
theorem Xu.setCell(h:Xu L B w w1){p:Addr}(hp:p.block<L\/B<=p.block)(v:Value):Xu L B w (w1.setCell p v):=fun k h1 h2=>by
 rw[Below.heap_setCell _ _ _ _ oM];exact h k h1 h2
theorem Xd(w:World)(p:Addr)(v:Value):(w.setCell p v).heap.size=w.heap.size:=by simp[World.setCell]
theorem JJ{o:Nat}{x:YK}:Y5 w b o x↔w.rangeAt b o x.cells:=by
 constructor
 ·rintro⟨h0,h1,h2,h3,h4⟩ j v hv
  match j,hv with
  | 0,hv=>simp[YK.cells]at hv;subst hv;exact h0
  | 1,hv=>simp[YK.cells]at hv;subst hv;exact h1
  | 2,hv=>simp[YK.cells]at hv;subst hv;exact h2
  | 3,hv=>simp[YK.cells]at hv;subst hv;exact h3
  | 4,hv=>simp[YK.cells]at hv;subst hv;exact h4
  | n+5,hv=>simp[YK.cells]at hv
 ·intro h
  exact⟨h 0 _ rfl,h 1 _ rfl,h 2 _ rfl,h 3 _ rfl,h 4 _ rfl⟩
theorem Y5.apart{o o':Nat}{x:YK}(h:Y5 w b o x)(vs:List Value)(hap:o+5<=o'\/o' + vs.length<=o):Y5 (w.setCells b o' vs) b o x :=
 JJ.2 (World.rangeAt_setCells_apart (JJ.1 h) b o' vs (by simp only[YK.cells,List.length_cons,List.length_nil];omega))
theorem Zr{o o':Nat}{vs:List Value}(hap:o<o'\/o' + vs.length<=o):(w.setCells b o' vs).cell? ⟨b,o,none⟩=w.cell? ⟨b,o,none⟩ :=
 World.cell?_setCells_out b vs o' w ⟨b,o,none⟩ (fun _ _=>hap)
theorem ZG.apart{o o':Nat}{x:Ph}(h:ZG w L B b o x)(hb:b<L)(vs:List Value)(hap:o+2<=o'\/o' + vs.length<=o):ZG (w.setCells b o' vs) L B b o x:=by
 obtain⟨a,c,h0,h1,h2⟩:=h;exact⟨a,c,(Zr oM).trans h0,(Zr oM).trans h1,h2.keepS (Y6 (Xu.refl _ _ _) _ _ (Or.inl hb))⟩
theorem Z0.apart{o o':Nat}{x:ZX}(h:Z0 w b o x)(vs:List Value)(hap:o+4<=o'\/o' + vs.length<=o):Z0 (w.setCells b o' vs) b o x:=by
 obtain⟨h0,h1,h2,h3⟩:=h;exact⟨(Zr oM).trans h0,(Zr oM).trans h1,(Zr oM).trans h2,(Zr oM).trans h3⟩
theorem Y8.apart{o o':Nat}{x:Xi}(h:Y8 w L B b o x)(hb:b<L)(vs:List Value)(hap:o+6<=o'\/o' + vs.length<=o):Y8 (w.setCells b o' vs) L B b o x:=by
 obtain⟨pa,pc,ia,ic,h0,h1,h2,h3,h4⟩:=h;exact⟨pa,pc,ia,ic,(Zr oM).trans h0,(Zr oM).trans h1,h2.apart _ oM,h3.keepS (Y6 (Xu.refl _ _ _) _ _ (Or.inl hb)),h4.keepS (Y6 (Xu.refl _ _ _) _ _ (Or.inl hb))⟩
theorem Zai(hr:w.rowIs b t N f){o:Nat}{vs:List Value}(h:o+vs.length<=N)(j:Nat)(v:Value)(hv:vs[j]?=some v):(w.setCells b o vs).cell? ⟨b,o+j,none⟩=some v :=
 World.rangeAt_setCells_same w b o vs (Ta hr h) j v hv
theorem Zfm(hr:w.rowIs b t N f)(xs:List YK)(k:Nat)(hk:k<xs.length)(hN:xs.length*5<=N)(old:∀j (h:j<xs.length),j<k->Y5 w b (j*5) xs[j]) :
 ∀j (h:j<xs.length),j<k+1->Y5 (w.setCells b (k*5) xs[k].cells) b (j*5) xs[j]:=fun j h hj=>by
 by_cases e:j=k
 ·subst e
  exact JJ.2 (World.rangeAt_setCells_same w b _ _ (Ta hr (by simp only[YK.cells,List.length_cons,List.length_nil];omega)))
 ·exact(old j h oM).apart _ oM
theorem ZgG(hr:w.rowIs b t N f)(hb:b<L)(xs:List Ph)(k:Nat)(hk:k<xs.length)(hN:xs.length*2<=N)(old:∀j (h:j<xs.length),j<k->ZG w L B b (j*2) xs[j])
 (a:Option Addr) (c:Nat) (hi:Xg w L B a xs[k].args) :
 ∀j (h:j<xs.length),j<k+1->ZG (w.setCells b (k*2) [.int .i64 xs[k].dst,.slice a xs[k].args.length c]) L B b (j*2) xs[j]:=fun j h hj=>by
 by_cases e:j=k
 ·subst e
  exact⟨a,c,Zai hr (by simp only[List.length_cons,List.length_nil];omega) 0 _ rfl,Zai hr (by simp only[List.length_cons,List.length_nil];omega) 1 _ rfl,hi.keepS (Y6 (Xu.refl _ _ _) _ _ (Or.inl hb))⟩
 ·exact(old j h oM).apart hb _ (by simp only[List.length_cons,List.length_nil];omega)
theorem Zfk(hr:w.rowIs b t N f)(hb:b<L)(xs:List Xi)(k:Nat)(hk:k<xs.length)(hN:xs.length*6<=N)(old:∀j (h:j<xs.length),j<k->Y8 w L B b (j*6) xs[j])
 (pa ia:Option Addr) (pc ic:Nat) (hp:XZ w L B pa xs[k].phis) (hi:XL w L B ia xs[k].instrs) :
 ∀j (h:j<xs.length),j<k+1->Y8 (w.setCells b (k*6) [.slice pa xs[k].phis.length pc,.slice ia xs[k].instrs.length ic,.int .i64 xs[k].term.kind,.int .i64 xs[k].term.a,.int .i64 xs[k].term.to,.int .i64 xs[k].term.els]) L B b (j*6) xs[j]:=fun j h hj=>by
 by_cases e:j=k
 ·subst e
  have hc:=Zai (w:=w) hr (o:=j*6) (vs:=[.slice pa xs[j].phis.length pc,.slice ia xs[j].instrs.length ic,.int .i64 xs[j].term.kind,.int .i64 xs[j].term.a,.int .i64 xs[j].term.to,.int .i64 xs[j].term.els]) (by simp only[List.length_cons,List.length_nil];omega);exact⟨pa,pc,ia,ic,hc 0 _ rfl,hc 1 _ rfl,⟨hc 2 _ rfl,hc 3 _ rfl,hc 4 _ rfl,hc 5 _ rfl⟩,hp.keepS (Y6 (Xu.refl _ _ _) _ _ (Or.inl hb)),hi.keepS (Y6 (Xu.refl _ _ _) _ _ (Or.inl hb))⟩
 ·exact(old j h oM).apart hb _ (by simp only[List.length_cons,List.length_nil];omega)
end
theorem Zd(t:ZX)(w:World) :
 Calls Tryz.prog 77 #[.agg #[.int .i64 t.kind,.int .i64 t.a,.int .i64 t.to,.int .i64 t.els]] w fun e w'=>∃a c,e=.returned (.slice a t.targets.length c)/\Below w.heap.size w w'/\Xg w' w.heap.size w'.heap.size a t.targets:=by
 obtain⟨kind,ta,tg,els⟩:=t;by_cases h1:kind=1
 ·subst h1
  go_enter Tryz.func77,Tryz.ntmps77
  go_wp2
  go_ret
  refine⟨_,_,rfl,Xb (Xb (Below.refl _ _) _) _,fun i hi=>?_⟩;simp[ZX.targets]at hi;subst hi;exact⟨_,_,rfl,⟨sP,sP⟩,by simp[ZX.targets]⟩
 ·by_cases h2:kind=2
  ·subst h2
   go_enter Tryz.func77,Tryz.ntmps77
   go_wp2
   go_ret
   refine⟨_,_,rfl,Xb (Xb (Below.refl _ _) _) _,fun i hi=>?_⟩;simp[ZX.targets]at hi
   match i,hi with
   | 0,_=>exact⟨_,_,rfl,⟨sP,sP⟩,by simp[ZX.targets]⟩
   | 1,_=>exact⟨_,_,rfl,⟨sP,sP⟩,by simp[ZX.targets]⟩
  ·have e1:(kind==1)=false:=by simp[h1]
   have e2:(kind==2)=false:=by simp[h2]
   have hn:(ZX.targets ⟨kind,ta,tg,els⟩)=[]:=by simp[ZX.targets,h1,h2]
   rw[hn];clear h1 h2 hn
   go_enter Tryz.func77,Tryz.ntmps77
   go_wp2
   go_ret
   exact⟨_,_,rfl,Xb (Xb (Below.refl _ _) _) _,fun i hi=>absurd hi sP⟩
end Go.Proofs.YthgikffcdgpgiaaGreatDoor
