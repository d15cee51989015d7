import Derived.Test.YtkehcdfalcakmaaGreatDoorE9a
import Derived.Shelf.Strconv.AppendIntPublic10
import Derived.Shelf.Lay
import Derived.Ground.NamesProg
import Derived.Lib.AppendStr
import Derived.Lib.OthersKept
import Derived.Test.YtkehcdfalcakmaaGreatDoorE7
namespace Go.Proofs.YtkehcdfalcakmaaGreatDoor
set_option maxHeartbeats 1000000
set_option maxRecDepth 100000
open Go.RowKit
theorem ZaK(fa:Option Addr)(fc:Nat)(ps:List Addr)(vs:List Int)(L B:Nat)(w:World)(hB:B<=w.heap.size)(hp:Hid (Yr w L B fa (ps.map ZK)))(hl:Hid (vs.length=ps.length))(hv:Hid (∀i (h:i<ps.length) (h':i<vs.length),ps[i].block<w.heap.size/\w.cell? ps[i]=some (.int .i64 vs[i])))(hs:ps.length<=1000) :
 Calls Tryz.prog 36 #[.slice fa ps.length fc] w fun e w'=>∃v,e=.returned v/\Below w.heap.size w w'/\w'.ownsRow w.heap.size 2 1 v vs.length (vs.map (Value.int .i64)):=by
 obtain⟨i0,hi0,hz0,hz1,hz2⟩:=info_parts Tryz.info2'
 go_enter Tryz.func36,Tryz.ntmps36
 go_wp2
 go_loopw [3,9] (fun v i wr=>∃k:Nat,k<=ps.length/\i=.int .i64 k/\Hid (Below w.heap.size w wr)/\Hid (wr.ownsRow w.heap.size 2 1 v (vs.take k).length ((vs.take k).map (Value.int .i64)))) (fun _ i _=>ps.length-(intOf i).toNat)
 case atStart=>exact⟨0,Nat.zero_le _,rfl,Xa (Xb (Below.refl _ _) _),Xa (by
  have:=World.ownsRow_lit (base:=w.heap.size) (e:=2) (size:=1) w #[] 0 (by simp) (by simp) rfl;simpa using this)⟩
 case round =>
  obtain⟨k,hk',rfl,HB,HO⟩:=hrel;have hwz:=HB.size;by_cases hlt:k<ps.length
  ·have hkk:k<vs.length:=by have:=hl.out;omega
   obtain⟨b2,o2,rfl,⟨_,hb2⟩,hc2⟩:=(hp.keepS (X7.of_below (HB.mono hB))) k (by simpa using hlt);rw[List.getElem_map]at hc2;unfold ZK at hc2;obtain⟨hq1,hq2⟩:=hv.out k hlt hkk;have hc3:=(HB.cell (p:=ps[k]) hq1).trans hq2;have HT:Hid ((vs.take (k+1))=vs.take k++[vs[k]]):=Xa (List.take_succ_eq_append_getElem hkk);have HL:Hid ((vs.take k).length+1<=2000):=Xa (by have:=hl.out;simp only[List.length_take];omega);clear hq1 hq2;generalize vs[k]=V at *;generalize ps[k]=p at *
   go_wp2_with (at_builtin;refine wpList_append_own_at _ rfl _ _ 44 rfl w.heap.size 2 i0 (.int .i64 0) 1 8 Tryz.underlying44 hi0 hz0 hz1 hz2 rfl (by decide) _ _ _ rfl (HO.alloc _) ⟨wr.heap.size,0,none⟩ 1 1 [.int .i64 V] rfl rfl ?c1 ?c2 ?c3 ?c4 ?c5 ?_)
   case c1=>exact cell_one_new _ _ _
   case c2=>intro u hu;simp at hu;subst hu;rfl
   case c3=>have:=HL.out;unfold maxLen;omega
   case c4=>have:=HL.out;omega
   case c5=>simp;omega
   intro v1 w1 hown1 hgrow1 hne1 hat1;have HO1:Hid (w1.ownsRow w.heap.size 2 1 v1 (vs.take (k+1)).length ((vs.take (k+1)).map (Value.int .i64))):=Xa (by
    rw[HT.out,Zc7,List.length_append,List.map_take,List.length_take];exact hown1)
   have HB1:Hid (Below w.heap.size w w1):=Xa (XG ((HB.out).alloc (by omega) _) hgrow1 (HO.alloc _) (Nat.le_refl _) (by simp;omega));clear hown1 hgrow1 hne1 hat1;go_wp2;exact⟨⟨k+1,by omega,by go_num,HB1,HO1⟩,by simp[intOf];omega⟩
  ·have HO2:Hid (wr.ownsRow w.heap.size 2 1 u3 vs.length (vs.map (Value.int .i64))):=Xa (by have:=HO.out;have e:=hl.out;rwa[List.take_of_length_le (by omega)]at this)
   go_wp2
   go_ret
   exact⟨_,rfl,HB.out,HO2.out⟩
end Go.Proofs.YtkehcdfalcakmaaGreatDoor
namespace Go.Proofs.YtkehcdfalcakmaaGreatDoor
set_option maxHeartbeats 1000000
set_option maxRecDepth 100000
open Go.RowKit Go.Shelf
shelf_lay LaysM.n176 Nm 176 at Tryz as Tryz.laysAI
def TabOk (B : Nat) (w : World) : Prop := Lib.TabBelow Tryz.prog B w "internal/strconv.uint64pow10" .u64 Lib.pow10Tab
theorem Wi(B n:Nat)(i:Int)(h0:-9223372036854775808<=i)(h1:i<=9223372036854775807)(sv:Value)(xs:List Value)(w:World)(hown:w.ownsRow B 5 1 sv n xs)(hBw:B<=w.heap.size)(hlim:n+21<=140737488355328)
 (htab:TabOk B w) :
 Calls Tryz.prog 33 #[sv,.int .i64 i,.int .i64 10] w fun e w'=>∃v',e=.returned v'/\w'.ownsRow B 5 1 v' (n+(Lib.itoa i).length) (xs++Lib.byteCells (Lib.itoa i))/\RowKit.Below B w w'/\Lib.OthersKept 5 none w w' :=
 Any.strconv_AppendInt_10 Tryz.laysAI B n i h0 h1 sv xs w hown hBw hlim htab
structure Kp(B:Nat)(w w':World):Prop where
 below:Below B w w'
 kept:Lib.OthersKept 5 none w w'
theorem Kp.refl(B:Nat)(w:World):Kp B w w:=⟨Below.refl _ _,Lib.OthersKept.refl _ _ _⟩
theorem Kp.trans{B:Nat}{a b c:World}(h:Kp B a b)(k:Kp B b c):Kp B a c:=⟨h.below.trans k.below,h.kept.trans k.kept⟩
theorem Kp.alloc{B:Nat}{w w':World}(h:Kp B w w')(hB:B<=w'.heap.size)(o:Obj):Kp B w (w'.alloc o):=⟨h.below.alloc hB o,h.kept.alloc o⟩
theorem Wz{w:World}{B e s n g:Nat}{v:Value}{xs:List Value}(h:w.ownsRow B e s v n xs)(hg:v.ownBlock=some g):∃c fz,w.heap[g]?=some (.cells c e fz):=by
 obtain⟨hl,h0 | ⟨g',cap,cur,rfl,hb,hh,r⟩⟩:=h
 ·rw[h0.1]at hg;cases hg
 ·cases hg;exact⟨_,_,hh⟩
theorem Kp.grown{B n:Nat}{W w w':World}{u:Value}{xs:List Value}(h:Kp B W w)(hg:w.grownBy w' u.ownBlock)(ho:w.ownsRow B 5 1 u n xs)(hB:B<=w.heap.size):Kp B W w' :=
 ⟨h.below.grown hg hB (fun k hk=>(ho.lt k hk).1),h.kept.grown hg (fun _ e=>Wz ho e)⟩
theorem Kp.calm{B:Nat}{w w':World}(h:Below w.heap.size w w')(hB:B<=w.heap.size):Kp B w w':=⟨h.mono hB,fun k _ hk _ _=>(h.block k ((Array.getElem?_eq_some_iff.1 hk).1)).trans hk⟩
theorem ZbB(s:List UInt8):Lib.strCells (Xs s)=Xp s:=by simp[Lib.strCells,Xp,Xs]
theorem YQ(B:Nat)(u:Value)(xs word:List UInt8)(a:Option Addr)(n c:Nat)(vs:List Int)(L M:Nat)(w:World)(hB:B<=w.heap.size)
 (ho:Hid (w.ownsRow B 5 1 u xs.length (Xp xs))) (hlen:Hid (xs.length+(lineS word vs).length<=1000000000000))
 (hv:Hid (∀w',Kp B w w'->Xh w' L M a vs)) (hx:Hid (n=vs.length)) (hin:Hid (∀v∈vs,UX v)) (htab:Hid (TabOk B w)) :
 Calls Tryz.prog 12 #[u,.string (Xs word),.slice a n c] w fun e w'=>∃v,e=.returned v/\Kp B w w'/\w'.ownsRow B 5 1 v (xs++lineS word vs).length (Xp (xs++lineS word vs)):=by
 obtain⟨i0,hi0,hz0,hz1,hz2⟩:=info_parts Tryz.infoB
 go_enter Tryz.func12,Tryz.ntmps12
 have hsz:(Xs word).size=word.length:=TR word;have HL0:Hid (xs.length+word.length<=1000000000000):=Xa (by have:=hlen.out;unfold lineS at this;simp only[List.length_append]at this;omega);have hnl:n<=1000000000000:=by
  have:=hlen.out;have e:=hx.out;have q:=ZeC vs;unfold lineS at this;simp only[List.length_append]at this;omega
 go_wp2_with (at_builtin;refine Lib.wpList_append_own_string _ rfl _ _ 22 9 rfl B 5 i0 Tryz.underlying22 Tryz.underlying9 hi0 hz0 hz1 hz2 _ _ _ rfl ho.out (Xs word) rfl ?c1 ?c2 hB ?_)
 case c1=>have:=HL0.out;unfold maxLen;omega
 case c2=>have:=HL0.out;omega
 intro v1 w1 hown1 hgrow1 hne1;have HK1:Hid (Kp B w w1):=Xa ((Kp.refl B w).grown hgrow1 ho.out hB);have HO1:Hid (w1.ownsRow B 5 1 v1 (xs++word).length (Xp (xs++word))):=Xa (by rw[List.length_append,VQ,<-ZbB word,<-hsz];exact hown1);clear hown1 hgrow1 hne1;go_wp2
 go_loopw [0,14] (fun x i wr=>∃k:Nat,k<=n/\i=.int .i64 k/\Hid (Kp B w wr)/\Hid (wr.ownsRow B 5 1 x (xs++(word++XT (vs.take k))).length (Xp (xs++(word++XT (vs.take k)))))) (fun _ i _=>n-(intOf i).toNat)
 case atStart=>exact⟨0,Nat.zero_le _,rfl,HK1,Xa (by simpa [XT]using HO1.out)⟩
 case round =>
  clear HK1 HO1;obtain⟨k,hk,rfl,HK,HO⟩:=hrel;have hwz:=HK.below.size;by_cases hlt:k<n
  ·have hkx:k<vs.length:=by have:=hx.out;omega
   obtain⟨b,o,rfl,hbB,hc⟩:=(hv.out wr HK.out) k hkx;have HI:=Xa (hin.out vs[k] (List.getElem_mem hkx));have HT:Hid (xs++(word++XT (vs.take (k+1)))=(xs++(word++XT (vs.take k))++[32])++Lib.itoa vs[k]):=Xa (by rw[List.take_succ_eq_append_getElem hkx,ZcQ];simp);have HL:Hid ((xs++(word++XT (vs.take k))).length+1<=1000000000000):=Xa (by
    have h1:=hlen.out;have h3:=ZcP vs k;unfold lineS at h1;simp only[List.length_append,List.length_cons]at h1 h3 |-;omega)
   generalize vs[k]=V at *;generalize xs++(word++XT (vs.take k))=T at *
   go_wp2_with (at_builtin;refine wpList_append_own_at _ rfl _ _ 22 rfl B 5 i0 (.int .u8 0) 1 1 Tryz.underlying22 hi0 hz0 hz1 hz2 rfl (by decide) _ _ _ rfl (HO.alloc _) ⟨wr.heap.size,0,none⟩ 1 1 [.int .u8 32] rfl rfl ?c1 ?c2 ?c3 ?c4 ?c5 ?_)
   case c1=>exact cell_one_new _ _ _
   case c2=>intro u hu;simp at hu;subst hu;rfl
   case c3=>have:=HL.out;unfold maxLen;omega
   case c4=>have:=HL.out;omega
   case c5=>simp;omega
   intro v1 w1 hown1 hgrow1 hne1 hat1;have HO1:Hid (w1.ownsRow B 5 1 v1 (T++[32]).length (Xp (T++[32]))):=Xa (by rw[KH,List.length_append];exact hown1);have HK1:Hid (Kp B w w1):=Xa ((HK.alloc (by omega) _).grown hgrow1 (HO.alloc _) (by simp;omega));have hz1w:w.heap.size<=w1.heap.size:=HK1.below.size;clear hown1 hgrow1 hne1 hat1;have HTB:=Xa (htab.on HK1.below);have HLL:Hid ((T++[(32:UInt8)]).length+21<=140737488355328):=Xa (by have:=HL.out;simp only[List.length_append,List.length_cons,List.length_nil];omega)
   go_wp2_with (go_at_call 33;refine(Wi B _ V (by have:=HI.out;unfold UX at this;omega) (by have:=HI.out;unfold UX at this;omega) v1 _ w1 HO1.out (by omega) HLL.out HTB.out).mono ?_;rintro e w2 ⟨x2,rfl,ho2,hb2,hk2⟩)
   have HK2:Hid (Kp B w w2):=Xa (HK1.trans ⟨hb2,hk2⟩);have HO2:Hid (w2.ownsRow B 5 1 x2 (xs++(word++XT (vs.take (k+1)))).length (Xp (xs++(word++XT (vs.take (k+1)))))):=Xa (by rw[HT.out,VQ,List.length_append (bs:=Lib.itoa V)];exact ho2);clear ho2 hb2 hk2;go_wp2;exact⟨⟨k+1,by omega,by go_num,HK2,HO2⟩,by simp[intOf];omega⟩
  ·have hkn:k=n:=by omega
   have HO2:Hid (wr.ownsRow B 5 1 u0 (xs++(word++XT vs)).length (Xp (xs++(word++XT vs)))):=Xa (by have:=HO.out;rwa[List.take_of_length_le (by have:=hx.out;omega)]at this);have HL:Hid ((xs++(word++XT vs)).length+1<=1000000000000):=Xa (by have:=hlen.out;unfold lineS at this;simp only[List.length_append,List.length_cons,List.length_nil]at this |-;omega);have HE:Hid (xs++lineS word vs=(xs++(word++XT vs))++[10]):=Xa (by simp[lineS]);generalize xs++(word++XT vs)=T at *
   go_wp2_with (at_builtin;refine wpList_append_own_at _ rfl _ _ 22 rfl B 5 i0 (.int .u8 0) 1 1 Tryz.underlying22 hi0 hz0 hz1 hz2 rfl (by decide) _ _ _ rfl (HO2.alloc _) ⟨wr.heap.size,0,none⟩ 1 1 [.int .u8 10] rfl rfl ?c1 ?c2 ?c3 ?c4 ?c5 ?_)
   case c1=>exact cell_one_new _ _ _
   case c2=>intro u hu;simp at hu;subst hu;rfl
   case c3=>have:=HL.out;unfold maxLen;omega
   case c4=>have:=HL.out;omega
   case c5=>simp;omega
   intro v1 w1 hown1 hgrow1 hne1 hat1;have HO3:Hid (w1.ownsRow B 5 1 v1 (xs++lineS word vs).length (Xp (xs++lineS word vs))):=Xa (by
    rw[HE.out,KH,List.length_append];exact hown1)
   have HK3:Hid (Kp B w w1):=Xa ((HK.alloc (by omega) _).grown hgrow1 (HO2.alloc _) (by simp;omega));clear hown1 hgrow1 hne1 hat1;go_wp2
   go_ret
   exact⟨_,rfl,HK3.out,HO3.out⟩
end Go.Proofs.YtkehcdfalcakmaaGreatDoor
namespace Go.Proofs.YtkehcdfalcakmaaGreatDoor
open Go.RowKit
theorem ZbZ(x:Xz)(h:1<=x.op/\x.op<=13)(b o:Nat):∃l:List (Addr × Int),XM [dB x.op,aB x.op,bB x.op,iB x.op] [⟨b,o+1,none⟩,⟨b,o+2,none⟩,⟨b,o+3,none⟩,⟨b,o+4,none⟩]=l.map (·.1)/\Jy x (Yl x.op)=l.map (·.2) /\
 ∀q∈l,q∈[((⟨b,o+1,none⟩:Addr),x.dst),(⟨b,o+2,none⟩,x.a),(⟨b,o+3,none⟩,x.b),(⟨b,o+4,none⟩,x.imm)]:=by
 obtain⟨op,dst,a,bb,imm⟩:=x;simp only at h |-;have hc:op=1\/op=2\/op=3\/op=4\/op=5\/op=6\/op=7\/op=8\/op=9\/op=10\/op=11\/op=12\/op=13:=by omega
 rcases hc with rfl | rfl | rfl | rfl | rfl | rfl | rfl | rfl | rfl | rfl | rfl | rfl | rfl
 ·exact⟨[(⟨b,o+1,none⟩,dst),(⟨b,o+4,none⟩,imm)],rfl,rfl,by simp⟩
 ·exact⟨[(⟨b,o+1,none⟩,dst),(⟨b,o+4,none⟩,imm)],rfl,rfl,by simp⟩
 ·exact⟨[(⟨b,o+1,none⟩,dst),(⟨b,o+2,none⟩,a),(⟨b,o+3,none⟩,bb)],rfl,rfl,by simp⟩
 ·exact⟨[(⟨b,o+1,none⟩,dst),(⟨b,o+2,none⟩,a),(⟨b,o+3,none⟩,bb)],rfl,rfl,by simp⟩
 ·exact⟨[(⟨b,o+1,none⟩,dst),(⟨b,o+2,none⟩,a),(⟨b,o+3,none⟩,bb)],rfl,rfl,by simp⟩
 ·exact⟨[(⟨b,o+1,none⟩,dst),(⟨b,o+2,none⟩,a),(⟨b,o+3,none⟩,bb)],rfl,rfl,by simp⟩
 ·exact⟨[(⟨b,o+1,none⟩,dst),(⟨b,o+2,none⟩,a),(⟨b,o+3,none⟩,bb)],rfl,rfl,by simp⟩
 ·exact⟨[(⟨b,o+1,none⟩,dst),(⟨b,o+2,none⟩,a)],rfl,rfl,by simp⟩
 ·exact⟨[(⟨b,o+2,none⟩,a),(⟨b,o+3,none⟩,bb)],rfl,rfl,by simp⟩
 ·exact⟨[(⟨b,o+2,none⟩,a)],rfl,rfl,by simp⟩
 ·exact⟨[(⟨b,o+1,none⟩,dst),(⟨b,o+2,none⟩,a)],rfl,rfl,by simp⟩
 ·exact⟨[(⟨b,o+2,none⟩,a)],rfl,rfl,by simp⟩
 ·exact⟨[(⟨b,o+1,none⟩,dst)],rfl,rfl,by simp⟩
def Zcu(t:XN):List Int:=if t.kind=1 then [t.to]else if t.kind=3 then [t.a]else [t.a,t.to,t.els]
theorem ZfQ(t:XN):ZZ t=lineS (ZV t.kind) (Zcu t):=by
 unfold ZZ ZV Zcu
 repeat' split
 all_goals rfl
theorem Zce(x:XN)(h:1<=x.kind/\x.kind<=3)(b o:Nat):∃l:List (Addr × Int),XM [x.kind != 1,x.kind != 3,x.kind==2] [⟨b,o+1,none⟩,⟨b,o+2,none⟩,⟨b,o+3,none⟩]=l.map (·.1)/\Zcu x=l.map (·.2) /\
 ∀q∈l,q∈[((⟨b,o+1,none⟩:Addr),x.a),(⟨b,o+2,none⟩,x.to),(⟨b,o+3,none⟩,x.els)]:=by
 obtain⟨kind,a,tg,els⟩:=x;simp only at h |-;have hc:kind=1\/kind=2\/kind=3:=by omega
 rcases hc with rfl | rfl | rfl
 ·exact⟨[(⟨b,o+2,none⟩,tg)],rfl,rfl,by simp⟩
 ·exact⟨[(⟨b,o+1,none⟩,a),(⟨b,o+2,none⟩,tg),(⟨b,o+3,none⟩,els)],rfl,rfl,by simp⟩
 ·exact⟨[(⟨b,o+1,none⟩,a)],rfl,rfl,by simp⟩
theorem ZeE{w:World}{base e n B:Nat}{v:Value}{vs:List Int}(ho:w.ownsRow base e 1 v n (vs.map (Value.int .i64)))(he:e≠5):∃a c,v=.slice a vs.length c/\∀w',Kp B w w'->Xh w' base w.heap.size a vs:=by
 obtain⟨a,c,rfl,hI⟩:=Yv ho;refine⟨a,c,rfl,fun w' hk i hi=>?_⟩;obtain⟨b,o,rfl,hb,hc⟩:=hI i hi;refine⟨b,o,rfl,hb,?_⟩;obtain⟨cs,fz,hh⟩:=Wz ho rfl;have:=hk.kept b _ hh (by simp) (fun c' fz' e'=>by cases e';exact he rfl);rw[Xc (this.trans hh.symm)];exact hc
theorem Tv(B:Nat)(l:List (Addr × Int))(hll:l.length<=4)(w:World)(L:Nat)(fa:Option Addr)(fc:Nat)(hv:Yr w L w.heap.size fa ((l.map (·.1)).map ZK))(hc:∀q∈l,q.1.block<w.heap.size/\w.cell? q.1=some (.int .i64 q.2)) :
 Calls Tryz.prog 36 #[.slice fa l.length fc] w (fun e w'=>∃qa qc,e=.returned (.slice qa l.length qc)/\Below w.heap.size w w'/\(∀w'',Kp B w' w''->Xh w'' w.heap.size w'.heap.size qa (l.map (·.2)))):=by
 have e1:(l.map (·.1)).length=l.length:=by simp
 have e2:(l.map (·.2)).length=l.length:=by simp
 have h:=ZaK fa fc (l.map (·.1)) (l.map (·.2)) L w.heap.size w (Nat.le_refl _) (Xa hv) (Xa (e2.trans e1.symm)) (Xa (fun i h h'=>by
  have hi:i<l.length:=by omega
  have hm:=hc l[i] (List.getElem_mem hi);rw[List.getElem_map,List.getElem_map];exact hm)) (by omega)
 rw[e1]at h;refine h.mono ?_;rintro e w' ⟨v,rfl,hb,hown⟩;obtain⟨qa,qc,rfl,hst⟩:=ZeE (B:=B) hown (by decide);rw[e2];exact⟨qa,qc,rfl,hb,hst⟩
theorem ZfH(B:Nat)(u:Value)(xs:List UInt8)(k:Nat)(dst a bb imm:Int)(W1:World)(g:Nat)(hB:B<=W1.heap.size)(h1:1<=k)(h2:k<=13)(hB2:0 < B/\1 < B)(hlt:g<W1.heap.size)
 (hI:Y0 W1 g 0 ⟨k,dst,a,bb,imm⟩) (hhp:∃c fz,W1.heap[g]?=some (.cells c 53 fz)) (ho:W1.ownsRow B 5 1 u xs.length (Xp xs)) (hlen:xs.length+(YJ ⟨k,dst,a,bb,imm⟩).length<=1000000000000)
 (hin:∀v∈[dst,a,bb,imm],UX v) (htab:TabOk B W1) (ht:Ym W1) :
 ∃l:List (Addr × Int),(∀W,Below W1.heap.size W1 W->Calls Tryz.prog 37 #[.pointer (some ⟨g,0,none⟩)] W (fun e w'=>∃fa fc,e=.returned (.slice fa l.length fc)/\Hid (Below W1.heap.size W1 w')/\Hid (Yr w' W1.heap.size w'.heap.size fa ((l.map (·.1)).map ZK))/\w'.cell? ⟨g,0,none⟩=some (.int .i64 k)/\w'.cell? ⟨0,k*5,none⟩=some (.string (Xs (wordS k))))) /\
  (∀w2 fa fc,Below W1.heap.size W1 w2->Yr w2 W1.heap.size w2.heap.size fa ((l.map (·.1)).map ZK)->Calls Tryz.prog 36 #[.slice fa l.length fc] w2 (fun e w'=>∃qa qc,e=.returned (.slice qa l.length qc)/\Hid (Below W1.heap.size W1 w')/\Hid (∀w'',Kp B w' w''->Xh w'' w2.heap.size w'.heap.size qa (l.map (·.2)))/\w'.cell? ⟨g,0,none⟩=some (.int .i64 k)/\w'.cell? ⟨0,k*5,none⟩=some (.string (Xs (wordS k))))) /\
  (∀w3 qa qc L M,Below W1.heap.size W1 w3->(∀w'',Kp B w3 w''->Xh w'' L M qa (l.map (·.2)))->Calls Tryz.prog 12 #[u,.string (Xs (wordS k)),.slice qa l.length qc] w3 (fun e w'=>∃v,e=.returned v/\Hid (Kp B W1 w')/\Hid (w'.ownsRow B 5 1 v (xs++YJ ⟨k,dst,a,bb,imm⟩).length (Xp (xs++YJ ⟨k,dst,a,bb,imm⟩)))/\w'.cell? ⟨g,0,none⟩=some (.int .i64 k)/\w'.cell? ⟨0,k*5,none⟩=some (.string (Xs (wordS k))))):=by
 have hz:=ht.1;have g0:W1.cell? ⟨g,0,none⟩=some (.int .i64 k):=hI.1;have g1:W1.cell? ⟨0,k*5,none⟩=some (.string (Xs (wordS k))):=(ht.2 k h1 h2).1;obtain⟨l,hl1,hl2,hl3⟩:=ZbZ ⟨k,dst,a,bb,imm⟩ ⟨by simp only;omega,by simp only;omega⟩ g 0;simp only[Nat.zero_add]at hl1 hl2 hl3;have HIS:YJ ⟨k,dst,a,bb,imm⟩=lineS (wordS k) (l.map (·.2)):=by unfold YJ;simp only;rw[hl2]
 have hll:l.length<=4:=by
  have:=congrArg List.length hl1;have h4:=UE [dB k,aB k,bB k,iB k] [(⟨g,1,none⟩:Addr),⟨g,2,none⟩,⟨g,3,none⟩,⟨g,4,none⟩];simp only[List.length_map,List.length_cons,List.length_nil]at this h4;omega
 have HIV:∀v∈l.map (·.2),UX v:=fun v hv=>by
  obtain⟨q,hq,rfl⟩:=List.mem_map.1 hv;have:=hl3 q hq;simp only[List.mem_cons,List.not_mem_nil,or_false]at this;exact hin _ (by rcases this with rfl | rfl | rfl | rfl<;>simp)
 have HKEEP:∀w',Below W1.heap.size W1 w'->w'.cell? ⟨g,0,none⟩=some (.int .i64 k)/\w'.cell? ⟨0,k*5,none⟩=some (.string (Xs (wordS k))):=fun w' h=>⟨(h.cell (p:=⟨g,0,none⟩) hlt).trans g0,(h.cell (p:=⟨0,k*5,none⟩) (by show 0 < _;omega)).trans g1⟩
 refine⟨l,?_,?_,?_⟩
 ·intro W hW
  have hWs:=hW.size;refine(UG g k dst a bb imm W (Xa (hI.keepS (hW.block _ hlt))) h1 h2 (Xa (ht.keep hW (by omega)))).mono ?_;rintro e w' ⟨v,rfl,hb,hown⟩;rw[hl1]at hown;obtain⟨fa,fc,rfl,hvals⟩:=Ko hown;have hvals:=Yr.lower hvals hWs;have hb:Below W1.heap.size W1 w':=hW.trans (hb.mono hWs);obtain⟨s1,s2⟩:=HKEEP _ hb;exact⟨fa,fc,by simp,Xa hb,Xa hvals,s1,s2⟩
 ·intro w2 fa fc hb2 hv2
  have hsz:=hb2.size;obtain⟨n0,n1,n2,n3,n4⟩:=hI;have hcl:∀o,w2.cell? ⟨g,o,none⟩=W1.cell? ⟨g,o,none⟩:=fun o=>hb2.cell (p:=⟨g,o,none⟩) hlt
  have m1:=(hcl 1).trans n1;have m2:=(hcl 2).trans n2;have m3:=(hcl 3).trans n3;have m4:=(hcl 4).trans n4;have hlw:g<w2.heap.size:=by omega
  refine(Tv B l hll w2 W1.heap.size fa fc hv2 (fun q hq=>?_)).mono ?_
  ·have hm:=hl3 q hq
   simp only[List.mem_cons,List.not_mem_nil,or_false]at hm;rcases hm with rfl | rfl | rfl | rfl
   ·exact⟨hlw,m1⟩
   ·exact⟨hlw,m2⟩
   ·exact⟨hlw,m3⟩
   ·exact⟨hlw,m4⟩
  ·rintro e w' ⟨qa,qc,rfl,hb,hst⟩
   have hb3:Below W1.heap.size W1 w':=hb2.trans (hb.mono hb2.size);obtain⟨s1,s2⟩:=HKEEP _ hb3;exact⟨qa,qc,rfl,Xa hb3,Xa hst,s1,s2⟩
 ·intro w3 qa qc L M hb3 hst
  have hK3:Kp B W1 w3:=Kp.calm hb3 hB;have hs3:=hb3.size;refine(YQ B u xs (wordS k) qa l.length qc (l.map (·.2)) L M w3 (by omega) (Xa (Uc ho hb3)) (Xa (by rw[<-HIS];exact hlen)) (Xa hst) (Xa (by simp)) (Xa HIV) (Xa (htab.on hK3.below))).mono ?_;rintro e w' ⟨v,rfl,hk,hown⟩;rw[<-HIS]at hown;have hk1:Kp B W1 w':=hK3.trans hk;obtain⟨cs,fz,hh⟩:=hhp;have hh2:=hk1.kept g _ hh (by simp) (fun c' fz' e'=>by cases e');exact⟨v,rfl,Xa hk1,Xa hown,(Xc (hh2.trans hh.symm)).trans g0,(hk1.below.cell (p:=⟨0,k*5,none⟩) (by show 0 < _;omega)).trans g1⟩
theorem Zfv(B:Nat)(u:Value)(xs:List UInt8)(k:Nat)(a tg els:Int)(W1:World)(g:Nat)(hB:B<=W1.heap.size)(h1:1<=k)(h2:k<=3)(hB2:0 < B/\1 < B)(hlt:g<W1.heap.size)
 (hI:Y5 W1 g 0 ⟨k,a,tg,els⟩) (hhp:∃c fz,W1.heap[g]?=some (.cells c 41 fz)) (ho:W1.ownsRow B 5 1 u xs.length (Xp xs)) (hlen:xs.length+(ZZ ⟨k,a,tg,els⟩).length<=1000000000000)
 (hin:∀v∈[a,tg,els],UX v) (htab:TabOk B W1) (ht:XR W1) :
 ∃l:List (Addr × Int),(∀W,Below W1.heap.size W1 W->Calls Tryz.prog 38 #[.pointer (some ⟨g,0,none⟩)] W (fun e w'=>∃fa fc,e=.returned (.slice fa l.length fc)/\Hid (Below W1.heap.size W1 w')/\Hid (Yr w' W1.heap.size w'.heap.size fa ((l.map (·.1)).map ZK))/\w'.cell? ⟨g,0,none⟩=some (.int .i64 k)/\w'.cell? ⟨1,k*4,none⟩=some (.string (Xs (ZV k))))) /\
  (∀w2 fa fc,Below W1.heap.size W1 w2->Yr w2 W1.heap.size w2.heap.size fa ((l.map (·.1)).map ZK)->Calls Tryz.prog 36 #[.slice fa l.length fc] w2 (fun e w'=>∃qa qc,e=.returned (.slice qa l.length qc)/\Hid (Below W1.heap.size W1 w')/\Hid (∀w'',Kp B w' w''->Xh w'' w2.heap.size w'.heap.size qa (l.map (·.2)))/\w'.cell? ⟨g,0,none⟩=some (.int .i64 k)/\w'.cell? ⟨1,k*4,none⟩=some (.string (Xs (ZV k))))) /\
  (∀w3 qa qc L M,Below W1.heap.size W1 w3->(∀w'',Kp B w3 w''->Xh w'' L M qa (l.map (·.2)))->Calls Tryz.prog 12 #[u,.string (Xs (ZV k)),.slice qa l.length qc] w3 (fun e w'=>∃v,e=.returned v/\Hid (Kp B W1 w')/\Hid (w'.ownsRow B 5 1 v (xs++ZZ ⟨k,a,tg,els⟩).length (Xp (xs++ZZ ⟨k,a,tg,els⟩)))/\w'.cell? ⟨g,0,none⟩=some (.int .i64 k)/\w'.cell? ⟨1,k*4,none⟩=some (.string (Xs (ZV k))))):=by
 have hz:=ht.1;have g0:W1.cell? ⟨g,0,none⟩=some (.int .i64 k):=hI.1;have g1:W1.cell? ⟨1,k*4,none⟩=some (.string (Xs (ZV k))):=(ht.2 k h1 h2).1;obtain⟨l,hl1,hl2,hl3⟩:=Zce ⟨k,a,tg,els⟩ ⟨by simp only;omega,by simp only;omega⟩ g 0;simp only[Nat.zero_add]at hl1 hl2 hl3;have HIS:ZZ ⟨k,a,tg,els⟩=lineS (ZV k) (l.map (·.2)):=by rw[ZfQ];simp only;rw[hl2]
 have hll:l.length<=4:=by
  have:=congrArg List.length hl1;have h4:=UE [(k:Int) != 1,(k:Int) != 3,(k:Int)==2] [(⟨g,1,none⟩:Addr),⟨g,2,none⟩,⟨g,3,none⟩];simp only[List.length_map,List.length_cons,List.length_nil]at this h4;omega
 have HIV:∀v∈l.map (·.2),UX v:=fun v hv=>by
  obtain⟨q,hq,rfl⟩:=List.mem_map.1 hv;have:=hl3 q hq;simp only[List.mem_cons,List.not_mem_nil,or_false]at this;exact hin _ (by rcases this with rfl | rfl | rfl<;>simp)
 have HKEEP:∀w',Below W1.heap.size W1 w'->w'.cell? ⟨g,0,none⟩=some (.int .i64 k)/\w'.cell? ⟨1,k*4,none⟩=some (.string (Xs (ZV k))):=fun w' h=>⟨(h.cell (p:=⟨g,0,none⟩) hlt).trans g0,(h.cell (p:=⟨1,k*4,none⟩) (by show 1 < _;omega)).trans g1⟩
 refine⟨l,?_,?_,?_⟩
 ·intro W hW
  have hWs:=hW.size;refine(U0 g k a tg els W (Xa (hI.keepS (hW.block _ hlt))) h1 h2 (Xa (ht.keep hW (by omega)))).mono ?_;rintro e w' ⟨v,rfl,hb,hown⟩;rw[hl1]at hown;obtain⟨fa,fc,rfl,hvals⟩:=Ko hown;have hvals:=Yr.lower hvals hWs;have hb:Below W1.heap.size W1 w':=hW.trans (hb.mono hWs);obtain⟨s1,s2⟩:=HKEEP _ hb;exact⟨fa,fc,by simp,Xa hb,Xa hvals,s1,s2⟩
 ·intro w2 fa fc hb2 hv2
  have hsz:=hb2.size;obtain⟨n0,n1,n2,n3⟩:=hI;have hcl:∀o,w2.cell? ⟨g,o,none⟩=W1.cell? ⟨g,o,none⟩:=fun o=>hb2.cell (p:=⟨g,o,none⟩) hlt
  have m1:=(hcl 1).trans n1;have m2:=(hcl 2).trans n2;have m3:=(hcl 3).trans n3;have hlw:g<w2.heap.size:=by omega
  refine(Tv B l hll w2 W1.heap.size fa fc hv2 (fun q hq=>?_)).mono ?_
  ·have hm:=hl3 q hq
   simp only[List.mem_cons,List.not_mem_nil,or_false]at hm;rcases hm with rfl | rfl | rfl
   ·exact⟨hlw,m1⟩
   ·exact⟨hlw,m2⟩
   ·exact⟨hlw,m3⟩
  ·rintro e w' ⟨qa,qc,rfl,hb,hst⟩
   have hb3:Below W1.heap.size W1 w':=hb2.trans (hb.mono hb2.size);obtain⟨s1,s2⟩:=HKEEP _ hb3;exact⟨qa,qc,rfl,Xa hb3,Xa hst,s1,s2⟩
 ·intro w3 qa qc L M hb3 hst
  have hK3:Kp B W1 w3:=Kp.calm hb3 hB;have hs3:=hb3.size;refine(YQ B u xs (ZV k) qa l.length qc (l.map (·.2)) L M w3 (by omega) (Xa (Uc ho hb3)) (Xa (by rw[<-HIS];exact hlen)) (Xa hst) (Xa (by simp)) (Xa HIV) (Xa (htab.on hK3.below))).mono ?_;rintro e w' ⟨v,rfl,hk,hown⟩;rw[<-HIS]at hown;have hk1:Kp B W1 w':=hK3.trans hk;obtain⟨cs,fz,hh⟩:=hhp;have hh2:=hk1.kept g _ hh (by simp) (fun c' fz' e'=>by cases e');exact⟨v,rfl,Xa hk1,Xa hown,(Xc (hh2.trans hh.symm)).trans g0,(hk1.below.cell (p:=⟨1,k*4,none⟩) (by show 1 < _;omega)).trans g1⟩
end Go.Proofs.YtkehcdfalcakmaaGreatDoor
namespace Go.Proofs.YtkehcdfalcakmaaGreatDoor
open Go.RowKit
structure Zbx where
 instrs:List Xz
 term:XN
def JJ(w:World)(L B b o:Nat)(x:Zbx):Prop :=
 ∃ia ic,w.cell? ⟨b,o,none⟩=some (.slice ia x.instrs.length ic)/\Y5 w b (o+1) x.term/\YE w L B ia x.instrs
def Jk(w:World)(L B:Nat)(a:Option Addr)(xs:List Zbx):Prop :=
 ∀i (h:i<xs.length),∃b o,a=some ⟨b,o,none⟩/\(L<=b/\b<B)/\JJ w L B b (o+i*5) xs[i]
variable {w w' : World} {L B : Nat}
theorem JJ.keepS{b o:Nat}{x:Zbx}(h:JJ w L B b o x)(k:X7 L B w w')(e:w'.heap[b]?=w.heap[b]?):JJ w' L B b o x:=by
 obtain⟨ia,ic,h0,h2,h4⟩:=h;exact⟨ia,ic,(Xc e).trans h0,h2.keepS e,h4.keepS k⟩
theorem Jk.keepS{a:Option Addr}{xs:List Zbx}(h:Jk w L B a xs)(k:X7 L B w w'):Jk w' L B a xs:=fun i hi=>by
 obtain⟨b,o,e,hb,hc⟩:=h i hi;exact⟨b,o,e,hb,hc.keepS k (k b hb.1 hb.2)⟩
theorem JJ.keep{b o:Nat}{x:Zbx}(h:JJ w L B b o x)(k:Below B w w')(hb:b<B):JJ w' L B b o x:=h.keepS (X7.of_below k) (k.block b hb)
theorem Jk.keep{a:Option Addr}{xs:List Zbx}(h:Jk w L B a xs)(k:Below B w w'):Jk w' L B a xs:=h.keepS (X7.of_below k)
theorem JJ.mono{L' B':Nat}{b o:Nat}{x:Zbx}(h:JJ w L B b o x)(l:L'<=L)(k:B<=B'):JJ w L' B' b o x:=by
 obtain⟨ia,ic,h0,h2,h4⟩:=h;exact⟨ia,ic,h0,h2,h4.mono l k⟩
theorem Jk.mono{L' B':Nat}{a:Option Addr}{xs:List Zbx}(h:Jk w L B a xs)(l:L'<=L)(k:B<=B'):Jk w L' B' a xs:=fun i hi=>by
 obtain⟨b,o,e,hb,hc⟩:=h i hi;exact⟨b,o,e,by omega,hc.mono l k⟩
end Go.Proofs.YtkehcdfalcakmaaGreatDoor
namespace Go.Proofs.YtkehcdfalcakmaaGreatDoor
open Go.RowKit
def JC(is:List Xz)(t:XN):List UInt8:=is.flatMap YJ++ZZ t
theorem ZeU{is:List Xz}{t:XN}{q:Nat}(h:q<is.length):((is.take q).flatMap YJ).length+(YJ is[q]).length<=(JC is t).length:=by
 have:=congrArg List.length (TN YJ is q h);simp only[JC,List.length_append]at this |-;omega
end Go.Proofs.YtkehcdfalcakmaaGreatDoor
namespace Go.Proofs.YtkehcdfalcakmaaGreatDoor
set_option maxHeartbeats 2000000
set_option maxRecDepth 100000
open Go.RowKit
theorem Kp.block{B g:Nat}{w w':World}{t:TypeId}(h:Kp B w w')(hh:∃c fz,w.heap[g]?=some (.cells c t fz))(ht:t≠5):w'.heap[g]?=w.heap[g]?:=by
 obtain⟨c,fz,hh⟩:=hh;exact(h.kept g _ hh (by simp) (fun c' fz' e'=>by cases e';exact ht rfl)).trans hh.symm
theorem Vv(B:Nat)(u:Value)(xs:List UInt8)(ia:Option Addr)(n ic:Nat)(is:List Xz)(kt:Nat)(ta tg els:Int)(L M:Nat)(w:World)(hB:B<=w.heap.size)(hM:M<=B)(hi:Hid (YE w L M ia is))(hx:Hid (n=is.length))(hn:n<=1048576)
 (hops:Hid (∀i∈is,1<=i.op/\i.op<=13)) (h1:1<=kt) (h2:kt<=3) (hB2:0 < B/\1 < B)
 (ho:Hid (w.ownsRow B 5 1 u xs.length (Xp xs))) (hlen:Hid (xs.length+(JC is ⟨kt,ta,tg,els⟩).length<=1000000000000))
 (hin:Hid (∀i∈is,∀v∈[i.dst,i.a,i.b,i.imm],UX v)) (hinT:Hid (∀v∈[ta,tg,els],UX v)) (htab:Hid (TabOk B w)) (ht:Hid (Ym w)) (hT:Hid (XR w)) :
 Calls Tryz.prog 15 #[u,.slice ia n ic,.agg #[.int .i64 kt,.int .i64 ta,.int .i64 tg,.int .i64 els]] w fun e w'=>∃v,e=.returned v/\Kp B w w'/\w'.ownsRow B 5 1 v (xs++JC is ⟨kt,ta,tg,els⟩).length (Xp (xs++JC is ⟨kt,ta,tg,els⟩)):=by
 go_enter Tryz.func15,Tryz.ntmps15
 go_wp2;have hhp:∃c fz,(w.alloc (.cells #[.int .i64 kt,.int .i64 ta,.int .i64 tg,.int .i64 els] 41)).heap[w.heap.size]?=some (.cells c 41 fz):=⟨_,_,heap_alloc_new w _⟩;have hin1:Y5 (w.alloc (.cells #[.int .i64 kt,.int .i64 ta,.int .i64 tg,.int .i64 els] 41)) w.heap.size 0 ⟨kt,ta,tg,els⟩:=by refine⟨?_,?_,?_,?_⟩<;>simp
 have hsz:(w.alloc (.cells #[.int .i64 kt,.int .i64 ta,.int .i64 tg,.int .i64 els] 41)).heap.size=w.heap.size+1:=by simp
 have HKW:Hid (Kp B w (w.alloc (.cells #[.int .i64 kt,.int .i64 ta,.int .i64 tg,.int .i64 els] 41))):=Xa ((Kp.refl B w).alloc hB _);have HOW:Hid ((w.alloc (.cells #[.int .i64 kt,.int .i64 ta,.int .i64 tg,.int .i64 els] 41)).ownsRow B 5 1 u xs.length (Xp xs)):=Xa (ho.alloc _);generalize (w.alloc (.cells #[.int .i64 kt,.int .i64 ta,.int .i64 tg,.int .i64 els] 41))=W0 at *;have HHP:=Xa hhp;have HIN1:=Xa hin1;have HSZ:=Xa hsz;clear hhp hin1 hsz
 go_loopw [0,11] (fun v i wr=>∃q:Nat,q<=n/\i=.int .i64 q/\Hid (Kp B W0 wr)/\Hid (wr.ownsRow B 5 1 v (xs++(is.take q).flatMap YJ).length (Xp (xs++(is.take q).flatMap YJ)))) (fun _ i _=>n-(intOf i).toNat)
 case atStart=>exact⟨0,Nat.zero_le _,rfl,Xa (Kp.refl _ _),Xa (by simpa using HOW.out)⟩
 case round =>
  clear HOW;obtain⟨q,hq,rfl,HK,HO⟩:=hrel;have hwz:w.heap.size+1<=wr.heap.size:=by have h1:=HK.below.size;have h2:=HSZ.out;omega
  have HKT:Hid (Kp B w wr):=Xa (HKW.trans HK.out);by_cases hlt:q<n
  ·have hkx:q<is.length:=by have:=hx.out;omega
   obtain⟨b,o,rfl,⟨hbL,hbB⟩,⟨d0,d1,d2,d3,d4⟩⟩:=(hi.keepS (X7.of_below (HKT.below.mono hM))) q hkx;have HLj:Hid ((xs++(is.take q).flatMap YJ).length+(YJ is[q]).length<=1000000000000):=Xa (by have h1:=hlen.out;have h2:=ZeU (t:=⟨kt,ta,tg,els⟩) hkx;rw[List.length_append];omega);have HKj:=Xa (hin.out is[q] (List.getElem_mem hkx));have HOJ:=Xa (hops.out is[q] (List.getElem_mem hkx));have HTj:=Xa (WB YJ is q hkx);generalize is[q]=I at *;have HX:Hid (xs++(is.take (q+1)).flatMap YJ=(xs++(is.take q).flatMap YJ)++YJ I):=Xa (by rw[HTj.out];simp);generalize xs++(is.take q).flatMap YJ=TT at *;obtain⟨op,dst,ia1,ib1,imm⟩:=I;obtain⟨m,hm⟩:=Int.eq_ofNat_of_zero_le (show 0<=op by have:=HOJ.out;simp only at this;omega);subst hm;simp only at d0 d1 d2 d3 d4;have hm1:1<=m:=by have:=HOJ.out;simp only at this;omega
   have hm2:m<=13:=by have:=HOJ.out;simp only at this;omega
   go_wp2_with fail
   have hsz:(wr.alloc (.cells #[.int .i64 m,.int .i64 dst,.int .i64 ia1,.int .i64 ib1,.int .i64 imm] 53)).heap.size=wr.heap.size+1:=by simp
   have hin1:Y0 (wr.alloc (.cells #[.int .i64 m,.int .i64 dst,.int .i64 ia1,.int .i64 ib1,.int .i64 imm] 53)) wr.heap.size 0 ⟨m,dst,ia1,ib1,imm⟩:=by refine⟨?_,?_,?_,?_,?_⟩<;>simp
   have hhp:∃c fz,(wr.alloc (.cells #[.int .i64 m,.int .i64 dst,.int .i64 ia1,.int .i64 ib1,.int .i64 imm] 53)).heap[wr.heap.size]?=some (.cells c 53 fz):=⟨_,_,heap_alloc_new wr _⟩;have HKA:Hid (Kp B wr (wr.alloc (.cells #[.int .i64 m,.int .i64 dst,.int .i64 ia1,.int .i64 ib1,.int .i64 imm] 53))):=Xa ((Kp.refl B wr).alloc (by omega) _);have HOA:Hid ((wr.alloc (.cells #[.int .i64 m,.int .i64 dst,.int .i64 ia1,.int .i64 ib1,.int .i64 imm] 53)).ownsRow B 5 1 u0 TT.length (Xp TT)):=Xa (HO.alloc _);generalize (wr.alloc (.cells #[.int .i64 m,.int .i64 dst,.int .i64 ia1,.int .i64 ib1,.int .i64 imm] 53))=W1 at *;have HB1:Hid (Kp B w W1):=Xa (HKT.trans HKA.out);have g0:W1.cell? ⟨wr.heap.size,0,none⟩=some (.int .i64 m):=hin1.1;have HTW:Hid (Ym W1):=Xa (ht.keep HB1.below (by omega));have g1:W1.cell? ⟨0,m*5,none⟩=some (.string (Xs (wordS m))):=(HTW.2 m hm1 hm2).1;obtain⟨l,hU,hCT,hAL⟩:=ZfH B u0 TT m dst ia1 ib1 imm W1 wr.heap.size (by omega) hm1 hm2 hB2 (by omega) hin1 hhp HOA.out HLj.out HKj.out (htab.on HB1.below) HTW.out;have HU:=Xa hU;have HCT:=Xa hCT;have HAL:=Xa hAL;have hlt2:wr.heap.size<W1.heap.size:=by omega
   have hz:0 < W1.heap.size:=HTW.1;clear hU hCT hAL hin1 hhp hsz d0 d1 d2 d3 d4;have hk0:(0:Int)<=(m:Int):=by omega
   have hk1:(m:Int)<14:=by omega
   have hk2:m<14:=by omega
   have HB00:Hid (Below W1.heap.size W1 W1):=Xa (Below.refl _ _);have HB01:Hid (Below W1.heap.size W1 W1.drew):=Xa (Below.refl _ _).drew
   go_region_held3 (fun w'=>w'.cell? ⟨wr.heap.size,0,none⟩=some (.int .i64 m)/\w'.cell? ⟨0,m*5,none⟩=some (.string (Xs (wordS m)))) (go_keep)
    (first
     | (go_at_call 37;with_reducible refine(HU.out W1 HB00.out).mono ?_;rintro e w5 ⟨fa,fc,rfl,HB5,HV5,f1,f2⟩)
     | (go_at_call 37;with_reducible refine(HU.out W1.drew HB01.out).mono ?_;rintro e w5 ⟨fa,fc,rfl,HB5,HV5,f1,f2⟩)
     | (go_at_call 36;with_reducible refine(HCT.out _ _ _ HB5.out HV5.out).mono ?_;rintro e w6 ⟨qa,qc,rfl,HB6,HS6,f3,f4⟩)
     | (go_at_call 12;with_reducible refine(HAL.out _ _ _ _ _ HB6.out HS6.out).mono ?_;rintro e w7 ⟨v7,rfl,HK7,HO7,f5,f6⟩))
   all_goals
    have HK8:Hid (Kp B W0 w7):=Xa ((HK.trans HKA.out).trans HK7.out);have HO8:Hid (w7.ownsRow B 5 1 v7 (xs++(is.take (q+1)).flatMap YJ).length (Xp (xs++(is.take (q+1)).flatMap YJ))):=Xa (by rw[HX.out];exact HO7.out);go_wp2;exact⟨⟨q+1,by omega,by go_num,HK8,HO8⟩,by simp[intOf];omega⟩
  ·have HO5:Hid (wr.ownsRow B 5 1 u0 (xs++is.flatMap YJ).length (Xp (xs++is.flatMap YJ))):=Xa (by have:=HO.out;rwa[List.take_of_length_le (by have:=hx.out;omega)]at this)
   have HX:Hid (xs++JC is ⟨kt,ta,tg,els⟩=(xs++is.flatMap YJ)++ZZ ⟨kt,ta,tg,els⟩):=Xa (by unfold JC;simp);have HL5:Hid ((xs++is.flatMap YJ).length+(ZZ ⟨kt,ta,tg,els⟩).length<=1000000000000):=Xa (by have h1:=hlen.out;unfold JC at h1;rw[List.length_append]at h1 |-;omega);generalize xs++is.flatMap YJ=TT at *;have hbk:=HK.block HHP.out (by decide);have hT1:Y5 wr w.heap.size 0 ⟨kt,ta,tg,els⟩:=HIN1.keepS hbk;have hhp:∃c fz,wr.heap[w.heap.size]?=some (.cells c 41 fz):=by rw[hbk];exact HHP.out
   have g0:wr.cell? ⟨w.heap.size,0,none⟩=some (.int .i64 kt):=hT1.1;have HTW:Hid (XR wr):=Xa (hT.keep HKT.below (by omega));have g1:wr.cell? ⟨1,kt*4,none⟩=some (.string (Xs (ZV kt))):=(HTW.2 kt h1 h2).1;obtain⟨l,hU,hCT,hAL⟩:=Zfv B u0 TT kt ta tg els wr w.heap.size (by omega) h1 h2 hB2 (by omega) hT1 hhp HO5.out HL5.out hinT.out (htab.on HKT.below) HTW.out;have HU:=Xa hU;have HCT:=Xa hCT;have HAL:=Xa hAL;have hlt2:w.heap.size<wr.heap.size:=by omega
   have hz:1 < wr.heap.size:=HTW.1;clear hU hCT hAL hT1 hhp hbk;have hk0:(0:Int)<=(kt:Int):=by omega
   have hk1:(kt:Int)<4:=by omega
   have hk2:kt<4:=by omega
   have HB00:Hid (Below wr.heap.size wr wr):=Xa (Below.refl _ _);have HB01:Hid (Below wr.heap.size wr wr.drew):=Xa (Below.refl _ _).drew
   go_wp2_with fail
   go_region_held3 (fun w'=>w'.cell? ⟨w.heap.size,0,none⟩=some (.int .i64 kt)/\w'.cell? ⟨1,kt*4,none⟩=some (.string (Xs (ZV kt)))) (go_keep)
    (first
     | (go_at_call 38;with_reducible refine(HU.out wr HB00.out).mono ?_;rintro e w5 ⟨fa,fc,rfl,HB5,HV5,f1,f2⟩)
     | (go_at_call 38;with_reducible refine(HU.out wr.drew HB01.out).mono ?_;rintro e w5 ⟨fa,fc,rfl,HB5,HV5,f1,f2⟩)
     | (go_at_call 36;with_reducible refine(HCT.out _ _ _ HB5.out HV5.out).mono ?_;rintro e w6 ⟨qa,qc,rfl,HB6,HS6,f3,f4⟩)
     | (go_at_call 12;with_reducible refine(HAL.out _ _ _ _ _ HB6.out HS6.out).mono ?_;rintro e w7 ⟨v7,rfl,HK7,HO7,f5,f6⟩))
   all_goals
    have HK8:Hid (Kp B w w7):=Xa (HKT.trans HK7.out);have HO8:Hid (w7.ownsRow B 5 1 v7 (xs++JC is ⟨kt,ta,tg,els⟩).length (Xp (xs++JC is ⟨kt,ta,tg,els⟩))):=Xa (by rw[HX.out];exact HO7.out);go_wp2
    go_ret
    exact⟨_,rfl,HK8.out,HO8.out⟩
end Go.Proofs.YtkehcdfalcakmaaGreatDoor
