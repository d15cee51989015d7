import Derived.Test.YtkehcdfalcakmaaGreatDoorQF
import Derived.Shelf.Bytes.SlSmallAll
import Derived.Test.YtkehcdfalcakmaaGreatDoorE9a
import Derived.Maps.Views
import Derived.Maps.OwnOps
namespace Go.Proofs.YtkehcdfalcakmaaGreatDoor
set_option maxHeartbeats 1000000
set_option maxRecDepth 100000
open Go.RowKit Go.Shelf
shelf_lay Lays.nb142 Nm 142 at Tryz as Tryz.laysCS
def KO(H:Nat)(w':World)(a:Option Addr)(text:List UInt8)(e:Ending):Prop :=
 (100000<text.length->e=.returned (.tuple #[.slice none 0 0,XJ 1 0])) /\
 (text.length<=100000->text.getLast?≠some 10->e=.returned (.tuple #[.slice none 0 0,XJ 2 0])) /\
 (text.length<=100000->text.getLast?=some 10->∃b o g k,a=some ⟨b,o,none⟩/\H<=g/\k=(cutS text.dropLast 10).length/\e=.returned (.tuple #[.slice (some ⟨g,0,none⟩) k k,.nilIface])/\Zk w' b g (cutS text.dropLast 10))
theorem ZcX(s:UInt8)(l:List UInt8):Lib.hasSuffix l [s]=decide (l.getLast?=some s):=by
 unfold Lib.hasSuffix List.isSuffixOf;rw[<-List.head?_reverse];cases l.reverse with
 | nil=>rfl
 | cons x r =>
  show(([s]:List UInt8).isPrefixOf (x::r))=_;by_cases e:x=s
  ·subst e;simp
  ·have e':(s==x)=false:=by rw[beq_eq_false_iff_ne];exact fun q=>e q.symm
   have e2:decide ((x::r).head?=some s)=false:=by rw[decide_eq_false_iff_not];intro q;exact e (Option.some.inj q)
   rw[e2];show(s==x&&List.isPrefixOf [] r)=false;rw[e'];rfl
theorem Zcy(a:Option Addr)(n c b2 L B:Nat)(text:List UInt8)(w:World)(hx:n=text.length)(hnc:n<=c)(hn:n<=1000000)(ha:XE w L B a text)(h2:w.cell? ⟨b2,0,none⟩=some (.int .u8 10)) :
 Calls Tryz.prog 62 #[.slice a n c,.slice (some ⟨b2,0,none⟩) 1 1] w fun e w'=>e=.returned (.tuple #[.slice a (if text.getLast?=some 10 then n-1 else n) c,.bool (decide (text.getLast?=some 10))])/\w'=w:=by
 by_cases h0:n=0
 ·have:text=[]:=List.eq_nil_of_length_eq_zero (by omega)
  subst this;subst h0;exact Any.bytes_CutSuffix_e1 Tryz.laysCS a (some ⟨b2,0,none⟩) c 1 1 (by decide) w
 ·obtain⟨b,o,rfl,_,_⟩:=ha 0 (by omega)
  have ha':∀i (h:i<text.length),w.cell? ⟨b,o+i,none⟩=some (.int .u8 (text[i].toNat:Int)):=fun i h=>by
   obtain⟨b',o',e',_,hc⟩:=ha i h;cases e';exact hc
  have h:=Any.bytes_CutSuffix Tryz.laysCS b o n c b2 0 1 1 (text.map fun x=>(x.toNat:Int)) [10] w (by simp[hx]) rfl hnc (by omega) (fun i hi=>by
   have hi2:i<text.length:=by omega
   rw[ha' i hi2];simp[List.getD,hi2]) (fun i hi=>by
   have:i=0:=by omega
   subst this;exact h2)
  have hp:Lib.hasSuffix (Lib.bytesOf (text.map fun x=>(x.toNat:Int))) (Lib.bytesOf [10])=decide (text.getLast?=some 10):=by
   rw[Jc];exact ZcX 10 text
  refine h.mono ?_;rintro e w' ⟨rfl,rfl⟩;refine⟨?_,rfl⟩;unfold Lib.bytesTrimSuffix Lib.sliceTo;rw[hp];by_cases q:text.getLast?=some 10
  ·rw[if_pos (by simpa using q),if_pos q];rfl
  ·rw[if_neg (by simpa using q),if_neg q]
theorem V7(a:Option Addr)(n c L B:Nat)(text:List UInt8)(w:World)(hx:Hid (n=text.length))(hnc:n<=c)(hc:c<=9223372036854775807)(ha:Hid (XE w L B a text))(hm:Hid (Ti w))(hB:B<=w.heap.size) :
 Calls Tryz.prog 45 #[.slice a n c] w fun e w'=>KO w.heap.size w' a text e/\Below w.heap.size w w':=by
 by_cases hbig:100000<n
 ·have HV:Hid (∀w',KO w.heap.size w' a text (.returned (.tuple #[.slice none 0 0,XJ 1 0]))):=Xa (fun w'=>⟨fun _=>rfl,fun h=>absurd h (by have:=hx.out;omega),fun h=>absurd h (by have:=hx.out;omega)⟩)
  go_enter Tryz.func45,Tryz.ntmps45
  go_wp2;refine bodyPost_ret (v:=.tuple #[.slice none 0 0,XJ 1 0]) (by simp[results,Tryz.results45,go_sem,XJ]) rfl ⟨HV.out _,Below.refl _ _⟩
 ·have hle:text.length<=100000:=by have:=hx.out;omega
  have HCE:Hid (Calls Tryz.prog 62 #[.slice a n c,.slice (some ⟨w.heap.size,0,none⟩) 1 1] (w.alloc (.cells #[.int .u8 10] 5)) fun e w'=>e=.returned (.tuple #[.slice a (if text.getLast?=some 10 then n-1 else n) c,.bool (decide (text.getLast?=some 10))])/\w'=(w.alloc (.cells #[.int .u8 10] 5))):=Xa
   (Zcy a n c w.heap.size L B text _ hx.out hnc (by omega) (ha.keep ((Xb (Below.refl w.heap.size w) _).mono hB)) (by rw[cell_of_row _ w.heap.size 0 _ _ _ (heap_alloc_new w _)];rfl))
  have HB0:Hid (Below w.heap.size w (w.alloc (.cells #[.int .u8 10] 5))):=Xa (Xb (Below.refl w.heap.size w) _);by_cases hq:text.getLast?=some 10
  ·have hn1:1<=n:=by
    have:=hx.out;cases text with
    | nil=>cases hq
    | cons x r=>simp at this;omega
   obtain⟨b,o,rfl,hbB,_⟩:=ha.out 0 (by have:=hx.out;omega);have HSP:Hid (∀(w1:World)(b2:Nat),Below w.heap.size w w1->w1.cell? ⟨b2,0,none⟩=some (.int .u8 ((10:UInt8).toNat:Int))->Calls Tryz.prog 63 #[.slice (some ⟨b,o,none⟩) (n-1) c,.slice (some ⟨b2,0,none⟩) 1 1] w1 fun e w'=>∃k,k=(cutS text.dropLast 10).length/\e=.returned (.slice (some ⟨w1.heap.size,0,none⟩) k k)/\Below w1.heap.size w1 w'/\Zk w' b w1.heap.size (cutS text.dropLast 10)):=Xa (fun w1 b2 hb1 h2 =>
    W4 10 b o (n-1) c b2 text.dropLast w1 (by have:=hx.out;simp;omega) (by omega) hc (by omega) (fun i h=>by
     have hi:i<text.length:=by simp at h;omega
     obtain⟨b',o',e',hb',hc'⟩:=ha.out i hi;cases e';rw[hb1.cell (p:=⟨b,o+i,none⟩) (by show b<_;omega),hc'];simp) h2 ⟨Nat.lt_of_lt_of_le hm.1 hb1.size,by
     obtain⟨m,h⟩:=hm.2;exact⟨m,(hb1.cell (p:=⟨4,0,none⟩) hm.1).trans h⟩⟩ (by have:=hb1.size;omega))
   have HV:Hid (∀w' g k,w.heap.size<=g->k=(cutS text.dropLast 10).length->Zk w' b g (cutS text.dropLast 10)->KO w.heap.size w' (some ⟨b,o,none⟩) text (.returned (.tuple #[.slice (some ⟨g,0,none⟩) k k,.nilIface]))):=Xa (fun w' g k h1 h2 h3=>⟨fun h=>absurd h (by omega),fun _ h=>absurd hq h,fun _ _=>⟨b,o,g,k,rfl,h1,h2,rfl,h3⟩⟩);rw[if_pos hq,decide_eq_true hq]at HCE;clear hq
   go_enter Tryz.func45,Tryz.ntmps45
   go_wp2_with (go_at_call 62;refine HCE.mono ?_;rintro e w1 ⟨rfl,hw1⟩;have HW1:Hid (Below w.heap.size w w1):=Xa (by rw[hw1];exact HB0.out);clear hw1)
   refine(HSP.out _ _ (Xb HW1.out _) (by rw[cell_of_row _ w1.heap.size 0 _ _ _ (heap_alloc_new w1 _)];rfl)).mono ?_;rintro e w2 ⟨k,hk,rfl,hb2,hp⟩;have hg:w.heap.size<=(w1.alloc (.cells #[.int .u8 10] 5)).heap.size:=(Xb HW1.out _).size;have HL:=Xa (HV.out w2 _ k hg hk hp);have HB2:Hid (Below w.heap.size w w2):=Xa ((Xb HW1.out _).trans (hb2.mono hg));clear hb2 hp hk;generalize (w1.alloc (.cells #[.int .u8 10] 5)).heap.size=g at *;go_wp2;refine bodyPost_ret (v:=.tuple #[.slice (some ⟨g,0,none⟩) k k,.nilIface]) (by simp[results,Tryz.results45,go_sem]) rfl ⟨HL.out,HB2.out⟩
  ·have HV:Hid (∀w',KO w.heap.size w' a text (.returned (.tuple #[.slice none 0 0,XJ 2 0]))):=Xa (fun w'=>⟨fun h=>absurd h (by omega),fun _ _=>rfl,fun _ h=>absurd h hq⟩)
   rw[if_neg hq,decide_eq_false hq]at HCE;clear hq
   go_enter Tryz.func45,Tryz.ntmps45
   go_wp2_with (go_at_call 62;refine HCE.mono ?_;rintro e w1 ⟨rfl,hw1⟩;have HW1:Hid (Below w.heap.size w w1):=Xa (by rw[hw1];exact HB0.out);clear hw1)
   refine bodyPost_ret (v:=.tuple #[.slice none 0 0,XJ 2 0]) (by simp[results,Tryz.results45,go_sem,XJ]) rfl ⟨HV.out _,HW1.out⟩
def cntI(k:Nat):Nat:=[dB k,aB k,bB k,iB k].count true
def cntT(k:Nat):Nat:=[(k:Int) != 1,(k:Int) != 3,(k:Int)==2].count true
theorem Vb(ks:List Bool)(ps:List Addr)(h:ks.length=ps.length):(XM ks ps).length=ks.count true:=by
 induction ks generalizing ps with
 | nil=>rfl
 | cons x r ih=>cases ps with
  | nil=>simp at h
  | cons q s=>cases x<;>simp[XM,ih s (by simpa using h)]
def UL(role code:Int):Value:=.agg #[.int .i64 role,.int .i64 code]
def Yy(role code n:Nat):Bool:=if role=0 then n==0 else if role=1 then decide (2<=n)else if role=2 then n==cntI code else n==cntT code
theorem WE{w:World}{base e n:Nat}{v:Value}{vs:List Value}(h:w.ownsRow base e 1 v n vs):∃a c,v=.slice a n c:=by
 obtain⟨a,c,rfl,_⟩:=Ko h;have:=h.1;rw[Nat.mul_one]at this;exact⟨a,c,by rw[this]⟩
theorem Zep(b:Nat)(k:Nat)(w:World)(hi:Y0 w b 0 ⟨k,0,0,0,0⟩)(h1:1<=k)(h2:k<=10)(ht:Ym w) :
 Calls Tryz.prog 37 #[.pointer (some ⟨b,0,none⟩)] w fun e w'=>(∃a c,e=.returned (.slice a (cntI k) c))/\Below w.heap.size w w':=by
 refine(UG b k 0 0 0 0 w (Xa hi) h1 (by omega) (Xa ht)).mono ?_;rintro e w' ⟨v,rfl,hb,ho⟩;obtain⟨a,c,rfl⟩:∃a c,v=.slice a (cntI k) c:=by
  rw[Vb _ _ rfl]at ho;exact WE ho
 exact⟨⟨a,c,rfl⟩,hb⟩
theorem Zez(b:Nat)(k:Nat)(w:World)(hi:Y5 w b 0 ⟨k,0,0,0⟩)(h1:1<=k)(h2:k<=3)(ht:XR w) :
 Calls Tryz.prog 38 #[.pointer (some ⟨b,0,none⟩)] w fun e w'=>(∃a c,e=.returned (.slice a (cntT k) c))/\Below w.heap.size w w':=by
 refine(U0 b k 0 0 0 w (Xa hi) h1 h2 (Xa ht)).mono ?_;rintro e w' ⟨v,rfl,hb,ho⟩;obtain⟨a,c,rfl⟩:∃a c,v=.slice a (cntT k) c:=by
  rw[Vb _ _ rfl]at ho;exact WE ho
 exact⟨⟨a,c,rfl⟩,hb⟩
theorem Zdp(W:World)(k:Nat)(b:Nat)(hb:b=W.heap.size):Y0 (W.alloc (.cells #[.int .i64 k,.int .i64 0,.int .i64 0,.int .i64 0,.int .i64 0] 53)) b 0 ⟨k,0,0,0,0⟩:=by
 subst hb;refine⟨?_,?_,?_,?_,?_⟩<;>rw[cell_of_row _ W.heap.size _ _ _ _ (heap_alloc_new W _)]<;>rfl
theorem Zdv(W:World)(k:Nat)(b:Nat)(hb:b=W.heap.size):Y5 (W.alloc (.cells #[.int .i64 k,.int .i64 0,.int .i64 0,.int .i64 0] 41)) b 0 ⟨k,0,0,0⟩:=by
 subst hb;refine⟨?_,?_,?_,?_⟩<;>rw[cell_of_row _ W.heap.size _ _ _ _ (heap_alloc_new W _)]<;>rfl
theorem ZdJ(role code n:Nat)(w:World)(hr:role<=3)(hn:n<=1000000)(hci:role=2->1<=code/\code<=10)(hct:role=3->1<=code/\code<=3)(ht:Hid (Ym w))(ht2:Hid (XR w)) :
 Calls Tryz.prog 84 #[UL role code,.int .i64 n] w fun e w'=>e=.returned (.bool (Yy role code n))/\Below w.heap.size w w':=by
 have hcase:role=0\/role=1\/role=2\/role=3:=by omega
 have HB:Hid (∀o,Below w.heap.size w (w.alloc o)):=Xa (fun o=>Xb (Below.refl _ _) o);unfold UL;rcases hcase with rfl | rfl | rfl | rfl
 ·have HV:Hid (Yy 0 code n=((n:Int)==0)):=Xa (by
   show((n==0)=_);by_cases h:n=0
   ·subst h;rfl
   ·rw[beq_eq_false_iff_ne.2 h,beq_eq_false_iff_ne.2 (by omega)])
  go_enter Tryz.func84,Tryz.ntmps84
  go_wp2
  go_ret
  exact⟨Xg HV.symm,HB.out _⟩
 ·have HV:Hid (Yy 1 code n=decide ((2:Int)<=n)):=Xa (by
   show decide _=decide _;rw[decide_eq_decide];omega)
  go_enter Tryz.func84,Tryz.ntmps84
  go_wp2
  go_ret
  exact⟨Xg HV.symm,HB.out _⟩
 ·have HV:Hid (Yy 2 code n=((n:Int)==(cntI code:Int))):=Xa (by
   show((n==cntI code)=_);by_cases h:n=cntI code
   ·rw[<-h];simp
   ·rw[beq_eq_false_iff_ne.2 h,beq_eq_false_iff_ne.2 (by omega)])
  have HU:=Xa (fun W (h:Below w.heap.size w W) b (hb:b=W.heap.size)=>Zep b code _ (Zdp W code b hb) (hci rfl).1 (hci rfl).2 ((ht.keep h ht.1).keep (Xb (Below.refl W.heap.size W) _) (Nat.lt_of_lt_of_le ht.1 h.size)));clear hci hct;generalize cntI code=cn at *
  go_enter Tryz.func84,Tryz.ntmps84
  go_wp2_with (go_at_call 37;refine(HU.out _ (HB.out _) _ (XP _ _).symm).mono ?_;rintro e w2 ⟨⟨ua,uc,rfl⟩,hb2⟩;have HB2:=Xa (((HB.out _).trans ((Xb (Below.refl _ _) _).mono (HB.out _).size)).trans (hb2.mono (Xb (HB.out _) _).size));clear hb2)
  go_ret
  exact⟨Xg HV.symm,HB2.out⟩
 ·have HV:Hid (Yy 3 code n=((n:Int)==(cntT code:Int))):=Xa (by
   show((n==cntT code)=_);by_cases h:n=cntT code
   ·rw[<-h];simp
   ·rw[beq_eq_false_iff_ne.2 h,beq_eq_false_iff_ne.2 (by omega)])
  have HU:=Xa (fun W (h:Below w.heap.size w W) b (hb:b=W.heap.size)=>Zez b code _ (Zdv W code b hb) (hct rfl).1 (hct rfl).2 ((ht2.keep h ht2.1).keep (Xb (Below.refl W.heap.size W) _) (Nat.lt_of_lt_of_le ht2.1 h.size)));clear hci hct;generalize cntT code=cn at *
  go_enter Tryz.func84,Tryz.ntmps84
  go_wp2_with (go_at_call 38;refine(HU.out _ (HB.out _) _ (XP _ _).symm).mono ?_;rintro e w2 ⟨⟨ua,uc,rfl⟩,hb2⟩;have HB2:=Xa (((HB.out _).trans ((Xb (Below.refl _ _) _).mono (HB.out _).size)).trans (hb2.mono (Xb (HB.out _) _).size));clear hb2)
  go_ret
  exact⟨Xg HV.symm,HB2.out⟩
def YG(w:World)(b:Nat):List (Nat × Int)->World
 | []=>w
 | (o,x)::r=>YG (w.setCell ⟨b,o,none⟩ (.int .i64 x)) b r
theorem Vy(b o:Nat)(x:Int):∀(l:List (Nat × Int))(w:World),YG w b (l++[(o,x)])=(YG w b l).setCell ⟨b,o,none⟩ (.int .i64 x)
 | [],_=>rfl
 | (p,y)::r,w=>by rw[List.cons_append,YG,YG,Vy b o x r]
theorem KJ(b k:Nat)(h:k≠b):∀(l:List (Nat × Int))(w:World),(YG w b l).heap[k]?=w.heap[k]?
 | [],_=>rfl
 | (p,y)::r,w=>by rw[YG,KJ b k h r,Below.heap_setCell _ _ _ _ h]
theorem TI(b:Nat):∀(l:List (Nat × Int))(w:World),(YG w b l).heap.size=w.heap.size
 | [],_=>rfl
 | (p,y)::r,w=>by rw[YG,TI b r,Xd]
theorem Ww{b t N:Nat}:∀(l:List (Nat × Int))(w:World)(f:Nat->Value),w.rowIs b t N f->∃g,(YG w b l).rowIs b t N g
 | [],_,f,h=>⟨f,h⟩
 | (p,y)::r,w,_,h=>by rw[YG];exact Ww r _ _ (h.set p _)
theorem Zfo(b t N:Nat)(f0:Nat->Value)(fa na:Option Addr)(n m fc nc L B L2 B2:Nat)(l:List (Nat × Int))(w:World)(hx:Hid (n=l.length))(hm:Hid (n<=m))(hn:n<=1000000)(hrow:Hid (w.rowIs b t N f0))(hN:Hid (∀q∈l,q.1<N))
 (hp:Hid (Yr w L B fa (l.map fun q=>ZK ⟨b,q.1,none⟩))) (hi:Hid (Xh w L2 B2 na (l.map (·.2)))) (hb1:b<L\/B<=b) (hb2:b<L2\/B2<=b) :
 Calls Tryz.prog 102 #[.slice fa n fc,.slice na m nc] w fun e w'=>e=.returned (.tuple #[])/\w'=YG w b l:=by
 go_enter Tryz.func102,Tryz.ntmps102
 go_wp2
 go_loopw [8] (fun i wr=>∃k:Nat,k<=n/\i=.int .i64 k/\Hid (wr=YG w b (l.take k))) (fun i _=>n-(intOf i).toNat)
 case atStart=>exact⟨0,Nat.zero_le _,rfl,Xa rfl⟩
 case round =>
  obtain⟨k,hk,rfl,HW⟩:=hrel;by_cases hlt:k<n
  ·have hkl:k<l.length:=by have:=hx.out;omega
   obtain⟨g,hg⟩:=Ww (l.take k) w f0 hrow.out;have HG:=Xa hg;clear hg;have hS1:X7 L B w (YG w b (l.take k)):=fun j h1 h2=>KJ b j (by omega) _ _
   have hS2:X7 L2 B2 w (YG w b (l.take k)):=fun j h1 h2=>KJ b j (by omega) _ _
   obtain⟨b3,o3,rfl,h3,hc3⟩:=(hp.keepS hS1) k (by simpa using hkl);obtain⟨b4,o4,rfl,h4,hc4⟩:=(hi.keepS hS2) k (by simpa using hkl);rw[List.getElem_map]at hc3 hc4;unfold ZK at hc3;have HT:Hid (YG w b (l.take (k+1))=(YG w b (l.take k)).setCell ⟨b,l[k].1,none⟩ (.int .i64 l[k].2)):=Xa (by rw[List.take_succ_eq_append_getElem hkl,Vy]);have hoN:=hN.out l[k] (List.getElem_mem hkl);rw[<-HW.out]at hc3 hc4 HG HT;have hth:=Xa (ZaM (m:=1) HG.out (o:=l[k].1) (by omega));have hmk:(k:Int)<(m:Int):=by have:=hm.out;omega
   clear hS1 hS2;generalize l[k].1=O at *;generalize l[k].2=X at *;have hcell:wr.cell? ⟨b,O,none⟩=some (g O):=HG.cell hoN;have hfz:=HG.frozen O;go_wp2;exact⟨⟨k+1,by omega,by go_num,Xa HT.symm⟩,by simp[intOf];omega⟩
  ·have HF:Hid (wr=YG w b l):=Xa (by rw[HW.out,List.take_of_length_le (by have:=hx.out;omega)])
   go_wp2;exact bodyPost_end (v:=.tuple #[]) (by simp[results,Tryz.results102,go_sem]) rfl ⟨rfl,HF.out⟩
end Go.Proofs.YtkehcdfalcakmaaGreatDoor
namespace Go.Proofs.YtkehcdfalcakmaaGreatDoor
set_option maxHeartbeats 1000000
open Go.RowKit Go.Shelf
structure Zef(w:World)(R:Nat)(wd:Value)(vals:Int)(ga:Option Addr)(n c:Nat)(op:Bool):Prop where
 words:w.cell? ⟨R,0,none⟩=some wd
 values:w.cell? ⟨R,1,none⟩=some (.int .i64 vals)
 blocks:w.cell? ⟨R,2,none⟩=some (.slice ga n c)
 opened:w.cell? ⟨R,3,none⟩=some (.bool op)
theorem Ur(R:Nat)(wd:Value)(vals:Int)(g n c:Nat)(op:Bool)(w:World)(hr:Zef w R wd vals (some ⟨g,0,none⟩) (n+1) c op)(hn:n<=1000000) :
 Calls Tryz.prog 101 #[.pointer (some ⟨R,0,none⟩)] w fun e w'=>e=.returned (.pointer (some ⟨g,n*6,none⟩))/\w'=w.drew:=by
 have c2:=hr.blocks
 go_enter Tryz.func101,Tryz.ntmps101
 go_wp2
 go_region
 go_wp2
 go_ret
 exact⟨rfl,rfl⟩
def Zcf(role:Nat)(op:Bool)(ni:Nat):Bool:=if role=0 then !op else if role=1 then op&&ni==0 else op
theorem UO(R:Nat)(wd:Value)(vals:Int)(va:Option Addr)(g n c:Nat)(op:Bool)(ia:Option Addr)(ni ic role code:Nat)(w:World)(hr:Hid (Zef w R wd vals va n c op))(hn:n<=1000000)(hR:R<w.heap.size)(hro:role<=3)(hop:Hid (op=true->va=some ⟨g,0,none⟩/\1<=n/\g<w.heap.size/\w.cell? ⟨g,(n-1)*6+1,none⟩=some (.slice ia ni ic))) :
 Calls Tryz.prog 86 #[.pointer (some ⟨R,0,none⟩),UL role code] w fun e w'=>e=.returned (.bool (Zcf role op ni))/\Below w.heap.size w w':=by
 have c3:=hr.opened;have hcase:role=0\/role=1\/role=2\/role=3:=by omega
 unfold UL;rcases hcase with rfl | rfl | rfl | rfl
 ·go_enter Tryz.func86,Tryz.ntmps86
  go_wp2
  go_ret
  exact⟨rfl,Xb (Below.refl _ _) _⟩
 ·cases op with
  | false =>
   go_enter Tryz.func86,Tryz.ntmps86
   go_wp2
   go_ret
   exact⟨rfl,Xb (Below.refl _ _) _⟩
  | true =>
   obtain⟨rfl,h1,hg,hci⟩:=hop.out rfl;obtain⟨m,rfl⟩:∃m,n=m+1:=⟨n-1,by omega⟩;have HV:Hid (Zcf 1 true ni=((ni:Int)==0)):=Xa (by
    show((ni==0)=_);by_cases h:ni=0
    ·subst h;rfl
    ·rw[beq_eq_false_iff_ne.2 h,beq_eq_false_iff_ne.2 (by omega)])
   rw[Nat.add_sub_cancel]at hci;have HLA:Hid (∀W,Below w.heap.size w W->Calls Tryz.prog 101 #[.pointer (some ⟨R,0,none⟩)] W fun e w'=>e=.returned (.pointer (some ⟨g,m*6,none⟩))/\w'=W.drew):=Xa (fun W hW=>Ur R wd vals g m c true W ⟨(hW.cell (p:=⟨R,0,none⟩) hR).trans hr.words,(hW.cell (p:=⟨R,1,none⟩) hR).trans hr.values,(hW.cell (p:=⟨R,2,none⟩) hR).trans hr.blocks,(hW.cell (p:=⟨R,3,none⟩) hR).trans hr.opened⟩ (by omega))
   go_enter Tryz.func86,Tryz.ntmps86
   go_wp2_with (go_at_call 101;refine(HLA.out _ (Xb (Below.refl _ _) _)).mono ?_;rintro e w1 ⟨rfl,hw1⟩;rw[hw1];clear hw1 w1)
   go_ret
   exact⟨Xg HV.symm,(Xb (Below.refl _ _) _).drew⟩
 ·go_enter Tryz.func86,Tryz.ntmps86
  go_wp2
  go_ret
  exact⟨rfl,Xb (Below.refl _ _) _⟩
 ·go_enter Tryz.func86,Tryz.ntmps86
  go_wp2
  go_ret
  exact⟨rfl,Xb (Below.refl _ _) _⟩
end Go.Proofs.YtkehcdfalcakmaaGreatDoor
namespace Go.Proofs.YtkehcdfalcakmaaGreatDoor
set_option maxHeartbeats 1000000
set_option maxRecDepth 100000
open Go.RowKit Go.Shelf Go.Maps
def ZY(v:Value):Option (DataW Unit × List MemPlace):=match v with
 | .agg a=>match a.toList with
  | [.int .i64 r,.int .i64 c]=>some (.agg [.lit (.int .i64 r),.lit (.int .i64 c)],[])
  | _=>none
 | _=>none
def UJ(r c:Int):DataW Unit:=.agg [.lit (.int .i64 r),.lit (.int .i64 c)]
theorem Ud(r c:Int):ZY (UL r c)=some (UJ r c,[]):=rfl
theorem Tryz.keyS:Keyed Tryz.prog 9:=string_keyed Tryz.underlying9
def wdI:Nat->DataW Unit
 | 0=>((DataW.map []).put (.string Yw) (UJ 0 0)).put (.string wPhi) (UJ 1 0)
 | k+1=>(wdI k).put (.string (wordS ((k:Nat)+1:Nat))) (UJ 2 ((k:Nat)+1:Nat))
def wdT:Nat->DataW Unit
 | 0=>wdI 10
 | k+1=>(wdT k).put (.string (ZV ((k:Nat)+1:Nat))) (UJ 3 ((k:Nat)+1:Nat))
theorem Wl(w:World)(ht:Hid (Ym w))(ht2:Hid (XR w)) :
 Calls Tryz.prog 47 #[] w fun e w'=>e=.returned (.map (some w.heap.size))/\Below w.heap.size w w'/\w'.ownsMap Tryz.prog 9 ZY w.heap.size 15 (wdT 3):=by
 have hmm:=@run_makeMap Tryz.prog;obtain⟨W1,hr1,ho1,hg1⟩:=(World.ownsMap_made w Tryz.prog 9 ZY).update Tryz.keyS Tryz.underlying93 (by decide) (Go.WideMaps.keyOf_string_mk Tryz.underlying9 (s:=Xs Yw) (by decide)) (Ud 0 0);obtain⟨W2,hr2,ho2,hg2⟩:=ho1.update Tryz.keyS Tryz.underlying93 (by decide) (Go.WideMaps.keyOf_string_mk Tryz.underlying9 (s:=Xs wPhi) (by decide)) (Ud 1 0);have hr1':(Instr.mapUpdate 93 (.map (some w.heap.size)) (.string ⟨#[98,108,111,99,107]⟩) (.agg #[.int .i64 0,.int .i64 0])).run Tryz.prog (w.alloc (.map #[] 0))=.ok () W1:=hr1;have hr2':(Instr.mapUpdate 93 (.map (some w.heap.size)) (.string ⟨#[112,104,105]⟩) (.agg #[.int .i64 1,.int .i64 0])).run Tryz.prog W1=.ok () W2:=hr2;have HO2:Hid (W2.ownsMap Tryz.prog 9 ZY w.heap.size 2 (wdI 0)):=Xa ho2;have HB2:Hid (Below w.heap.size w W2):=Xa (((Xb (Below.refl _ _) _).grown hg1 (Xb (Below.refl _ _) _).size (fun k hk=>by cases hk;exact Nat.le_refl _)).grown hg2 (Nat.le_trans (Xb (Below.refl _ _) _).size hg1.size) (fun k hk=>by cases hk;exact Nat.le_refl _));clear hr1 hr2 ho1 ho2 hg1 hg2
 go_enter Tryz.func47,Tryz.ntmps47
 go_wp2
 go_loopw [2] (fun i wr=>∃k:Nat,k<=10/\i=.int .i64 ((k:Int)+1)/\Hid (Below w.heap.size w wr)/\Hid (wr.ownsMap Tryz.prog 9 ZY w.heap.size (k+2) (wdI k))) (fun i _=>11-(intOf i).toNat)
 case atStart=>exact⟨0,by omega,rfl,HB2,HO2⟩
 case round =>
  clear hr1' hr2' HO2 HB2;obtain⟨k,hk,rfl,HB,HO⟩:=hrel;by_cases hlt:k<10
  ·obtain⟨q0,-⟩:=(ht.keep HB.out ht.1).2 (k+1) (by omega) (by omega)
   have HKE:Hid (keyOf Tryz.prog 9 (.string (Xs (wordS ((k+1:Nat):Int))))=some (.string (wordS ((k+1:Nat):Int)))):=Xa (Go.WideMaps.keyOf_string_mk Tryz.underlying9 (s:=Xs (wordS ((k+1:Nat):Int))) (by
    have hc:k=0\/k=1\/k=2\/k=3\/k=4\/k=5\/k=6\/k=7\/k=8\/k=9:=by omega
    rcases hc with rfl | rfl | rfl | rfl | rfl | rfl | rfl | rfl | rfl | rfl<;>decide))
   have HD:Hid (wdI (k+1)=(wdI k).put (.string (wordS ((k+1:Nat):Int))) (UJ 2 ((k+1:Nat):Int))):=Xa rfl;generalize hws:wordS ((k+1:Nat):Int)=ws at *;clear hws
   go_wp2_with (at_mapUpdate;refine wpList_mapUpdate_own _ rfl _ _ _ 93 rfl 9 128 Tryz.keyS Tryz.underlying93 ZY w.heap.size (k+2) _ rfl HO.out (by unfold maxLen;omega) _ _ _ rfl rfl HKE.out (UJ 2 ((k+1:Nat):Int)) [] (Ud 2 _) ?_;intro w1 hown1 hgrow1)
   exact⟨⟨k+1,by omega,by simp,Xa (HB.grown hgrow1 HB.size (fun k hk=>by cases hk;exact Nat.le_refl _)),Xa (by rw[HD.out];exact hown1)⟩,by simp[intOf];omega⟩
  ·have hk10:k=10:=by omega
   have hge:¬((k:Int)+1<=10):=by omega
   have HO10:Hid (wr.ownsMap Tryz.prog 9 ZY w.heap.size 12 (wdT 0)):=Xa (by have:=HO.out;rw[hk10]at this;exact this);clear hlt hk10 HO;generalize wr=wo at *;go_wp2
   go_loopw [3] (fun i wr=>∃k:Nat,k<=3/\i=.int .i64 ((k:Int)+1)/\Hid (Below w.heap.size w wr)/\Hid (wr.ownsMap Tryz.prog 9 ZY w.heap.size (k+12) (wdT k))) (fun i _=>4-(intOf i).toNat)
   case atStart=>exact⟨0,by omega,rfl,HB,HO10⟩
   case round =>
    clear HB HO10;obtain⟨k2,hk2,rfl,HB,HO⟩:=hrel;by_cases hlt:k2<3
    ·obtain⟨q0,-⟩:=(ht2.keep HB.out ht2.1).2 (k2+1) (by omega) (by omega)
     have HKE:Hid (keyOf Tryz.prog 9 (.string (Xs (ZV ((k2+1:Nat):Int))))=some (.string (ZV ((k2+1:Nat):Int)))):=Xa (Go.WideMaps.keyOf_string_mk Tryz.underlying9 (s:=Xs (ZV ((k2+1:Nat):Int))) (by
      have hc:k2=0\/k2=1\/k2=2:=by omega
      rcases hc with rfl | rfl | rfl<;>decide))
     have HD:Hid (wdT (k2+1)=(wdT k2).put (.string (ZV ((k2+1:Nat):Int))) (UJ 3 ((k2+1:Nat):Int))):=Xa rfl;generalize hws:ZV ((k2+1:Nat):Int)=ws at *;clear hws
     go_wp2_with (at_mapUpdate;refine wpList_mapUpdate_own _ rfl _ _ _ 93 rfl 9 128 Tryz.keyS Tryz.underlying93 ZY w.heap.size (k2+12) _ rfl HO.out (by unfold maxLen;omega) _ _ _ rfl rfl HKE.out (UJ 3 ((k2+1:Nat):Int)) [] (Ud 3 _) ?_;intro w1 hown1 hgrow1)
     exact⟨⟨k2+1,by omega,by simp,Xa (HB.grown hgrow1 HB.size (fun j hj=>by cases hj;exact Nat.le_refl _)),Xa (by rw[HD.out];exact hown1)⟩,by simp[intOf];omega⟩
    ·have hk3:k2=3:=by omega
     have hge2:¬((k2:Int)+1<=3):=by omega
     have HO3:Hid (wr.ownsMap Tryz.prog 9 ZY w.heap.size 15 (wdT 3)):=Xa (by have:=HO.out;rw[hk3]at this;exact this);clear hlt hk3 HO;go_wp2
     go_ret
     exact⟨rfl,HB.out,HO3.out⟩
end Go.Proofs.YtkehcdfalcakmaaGreatDoor
namespace Go.Proofs.YtkehcdfalcakmaaGreatDoor
open Go.RowKit Go.Shelf Go.Maps
def ZD(f:List UInt8):Option (Nat × Nat) :=
 if YW f≠0 then some (2,(YW f).toNat)else if f=Yw then some (0,0)else if f=wPhi then some (1,0)else if f=Jx then some (3,1)else if f=YL then some (3,2)else if f=TQ then some (3,3)else none
theorem Za9{D:DataW Unit}(h:IsMap D)(g f:List UInt8)(d z:DataW Unit):(D.put (.string g) d).atKey (.string f) z=if g=f then d else D.atKey (.string f) z:=by
 by_cases e:g=f
 ·subst e;rw[if_pos rfl,atKey_put_same h (k:=.string g) (by simp[WideAt.IsKeyLit])]
 ·rw[if_neg e,atKey_put_other (fun q=>e (by cases q;rfl))]
theorem Za4:∀k,IsMap (wdI k)
 | 0=>(isMap_empty.put _ _).put _ _
 | k+1=>(Za4 k).put _ _
theorem Zdq:∀k,IsMap (wdT k)
 | 0=>Za4 10
 | k+1=>(Zdq k).put _ _
theorem Zgr(f:List UInt8)(z:DataW Unit):(wdI 0).atKey (.string f) z=if wPhi=f then UJ 1 0 else if Yw=f then UJ 0 0 else z:=by
 show(((DataW.map []).put (.string Yw) (UJ 0 0)).put (.string wPhi) (UJ 1 0)).atKey _ _=_;rw[Za9 (isMap_empty.put _ _),Za9 isMap_empty];rfl
theorem JI(f:List UInt8)(z:DataW Unit)(k:Nat):(wdI (k+1)).atKey (.string f) z=if wordS ((k+1:Nat):Int)=f then UJ 2 ((k+1:Nat):Int)else (wdI k).atKey (.string f) z:=Za9 (Za4 k) _ _ _ _
theorem ZcL(f:List UInt8)(z:DataW Unit)(k:Nat):(wdT (k+1)).atKey (.string f) z=if ZV ((k+1:Nat):Int)=f then UJ 3 ((k+1:Nat):Int)else (wdT k).atKey (.string f) z:=Za9 (Zdq k) _ _ _ _
theorem ZhM(f:List UInt8)(z:DataW Unit):(wdI 10).atKey (.string f) z=if YW f≠0 then UJ 2 (YW f)else (wdI 0).atKey (.string f) z:=by
 have hU:(wdI 10).atKey (.string f) z=_:=(JI f z 9).trans (congrArg _ ((JI f z 8).trans (congrArg _ ((JI f z 7).trans (congrArg _ ((JI f z 6).trans (congrArg _ ((JI f z 5).trans (congrArg _ ((JI f z 4).trans (congrArg _ ((JI f z 3).trans (congrArg _ ((JI f z 2).trans (congrArg _ ((JI f z 1).trans (congrArg _ (JI f z 0))))))))))))))))));by_cases h0:YW f=0
 ·have hno:∀j:Nat,j<10->wordS ((j+1:Nat):Int)≠f:=fun j hj e=>by
   subst e;have hc:j=0\/j=1\/j=2\/j=3\/j=4\/j=5\/j=6\/j=7\/j=8\/j=9:=by omega
   rcases hc with rfl | rfl | rfl | rfl | rfl | rfl | rfl | rfl | rfl | rfl<;>exact absurd h0 (by decide)
  rw[hU,if_neg (hno 9 (by omega)),if_neg (hno 8 (by omega)),if_neg (hno 7 (by omega)),if_neg (hno 6 (by omega)),if_neg (hno 5 (by omega)),if_neg (hno 4 (by omega)),if_neg (hno 3 (by omega)),if_neg (hno 2 (by omega)),if_neg (hno 1 (by omega)),if_neg (hno 0 (by omega)),if_neg (fun q:YW f≠0=>q h0)]
 ·rw[if_pos h0,hU]
  rcases J9 f 10 1 with q | ⟨j,h1,h2,h3,rfl⟩
  ·exact absurd q h0
  ·have e:YW (wordS j)=j:=h3
   rw[e];have hc:j=1\/j=2\/j=3\/j=4\/j=5\/j=6\/j=7\/j=8\/j=9\/j=10:=by omega
   rcases hc with rfl | rfl | rfl | rfl | rfl | rfl | rfl | rfl | rfl | rfl<;>rfl
def ZhI(o:Option (Nat × Nat))(z:DataW Unit):DataW Unit:=match o with
 | some (r,c)=>UJ r c
 | none=>z
theorem Zfk(f:List UInt8)(z:DataW Unit):(wdT 3).atKey (.string f) z=ZhI (ZD f) z:=by
 rw[ZcL f z 2,ZcL f z 1,ZcL f z 0];show(if TQ=f then UJ 3 3 else if YL=f then UJ 3 2 else if Jx=f then UJ 3 1 else (wdI 10).atKey (.string f) z)=_;rw[ZhM,Zgr];unfold ZD;by_cases h0:YW f=0
 ·rw[if_neg (fun q:YW f≠0=>q h0),if_neg (fun q:YW f≠0=>q h0)]
  by_cases e1:f=TQ
  ·subst e1;rfl
  ·by_cases e2:f=YL
   ·subst e2;rfl
   ·by_cases e3:f=Jx
    ·subst e3;rfl
    ·by_cases e4:f=wPhi
     ·subst e4;rfl
     ·by_cases e5:f=Yw
      ·subst e5;rfl
      ·rw[if_neg (Ne.symm e1),if_neg (Ne.symm e2),if_neg (Ne.symm e3),if_neg (Ne.symm e4),if_neg (Ne.symm e5),if_neg e5,if_neg e4,if_neg e3,if_neg e2,if_neg e1];rfl
 ·obtain⟨⟨h1,_⟩,e5,e3,e1,e2,e4⟩:=VW h0
  rw[if_neg (Ne.symm e1),if_neg (Ne.symm e2),if_neg (Ne.symm e3),if_pos h0,if_pos h0];show UJ 2 (YW f)=UJ ((2:Nat):Int) ((YW f).toNat:Int);rw[Int.toNat_of_nonneg (by omega)];rfl
theorem Tryz.zeroOp(w:World):(zeroValue 128).run Tryz.prog w=.ok (UL 0 0) w:=by kernel_rfl
theorem ZdM{v:Value}{r c:Int}{ps:List MemPlace}(h:ZY v=some (UJ r c,ps)):v=UL r c:=by
 unfold ZY at h;split at h
 ·rename_i a
  split at h
  ·rename_i r' c' ha
   have h1:=congrArg Prod.fst (Option.some.inj h);simp only[UJ]at h1;injection h1 with h2;simp only[List.cons.injEq,DataW.lit.injEq,Lit.int.injEq,true_and,and_true]at h2;obtain⟨rfl,rfl⟩:=h2;unfold UL;congr 1;apply Array.ext';rw[ha]
  ·cases h
 ·cases h
theorem Zct(w:World)(b:Nat)(h:w.ownsMap Tryz.prog 9 ZY b 15 (wdT 3))(f:List UInt8)(hf:f.length<=1000000):(Instr.lookup 93 (.map (some b)) (.string (Xs f)) true).run Tryz.prog w=.ok (match ZD f with | some (r,c)=>.tuple #[UL r c,.bool true] | none=>.tuple #[UL 0 0,.bool false]) w:=by
 obtain⟨es,clock,hb,F,_,hD⟩:=h;have hkey:keyOf Tryz.prog 9 (.string (Xs f))=some (.string f):=Go.WideMaps.keyOf_string_mk Tryz.underlying9 (s:=Xs f) (by rw[TR];unfold maxLen;omega);have hat:=fun z=>Zfk f z
 rcases Maps.fit_look true Tryz.keyS Tryz.underlying93 (Tryz.zeroOp w) hb F hkey with⟨hrun,_,hz⟩ | ⟨e0,y,_,_,hrun,hR,hz,_⟩
 ·have hn:ZD f=none:=by
   cases hw:ZD f with
   | none=>rfl
   | some rc =>
    have q:=hat (.lit (.bool true));rw[hD,hz,hw]at q;exact absurd q (by simp[ZhI,UJ])
  rw[hrun,hn];rfl
 ·cases hw:ZD f with
  | none =>
   have q1:=hat (.lit (.bool true));have q2:=hat (.lit (.bool false));rw[hD,hz,hw]at q1 q2;exact absurd (q1.symm.trans q2) (by simp[ZhI])
  | some rc =>
   have q:=hat (.lit (.bool true));rw[hD,hz,hw]at q;obtain⟨yd,yp⟩:=y;have q':yd=UJ rc.1 rc.2:=q;subst q';rw[hrun,ZdM hR];rfl
end Go.Proofs.YtkehcdfalcakmaaGreatDoor
