import Derived.Deep.Cut
import Derived.Test.YtkehcdfalcakmaaGreatDoorQW
namespace Go.Proofs.YtkehcdfalcakmaaGreatDoor
open Go.RowKit
def RZ(w:World)(r:Nat):Prop:=(w.cell? ⟨r,0,none⟩=some (.int .i64 0)/\w.cell? ⟨r,1,none⟩=some (.int .i64 0)/\w.cell? ⟨r,2,none⟩=some (.int .i64 0)/\w.cell? ⟨r,3,none⟩=some (.slice none 0 0))/\∀o,w.frozen? ⟨r,o,none⟩=false
theorem RZ.keep{w w1:World}{r:Nat}(h:RZ w r)(k:w1.heap[r]?=w.heap[r]?):RZ w1 r :=
 ⟨⟨(Xc k).trans h.1.1,(Xc k).trans h.1.2.1,(Xc k).trans h.1.2.2.1,(Xc k).trans h.1.2.2.2⟩,fun o=>(World.frozen?_of_block k).trans (h.2 o)⟩
theorem RZ.new(w:World)(t:Nat):RZ (w.alloc (.cells #[.int .i64 0,.int .i64 0,.int .i64 0,.slice none 0 0] t)) w.heap.size:=by
 refine⟨⟨?_,?_,?_,?_⟩,fun o=>?_⟩<;>simp[go_sem]
theorem Uz(ls:List (List UInt8))(l:List UInt8):Yk (ls++[l])=Yk ls+l.length:=by simp[Yk]
structure V6(w:World)(F0:Nat)(V:Int)(ls:List (List UInt8))(la:Option Addr)(L3 B3:Nat)(OUT:ZaJ)(k:Nat)(s:K5)(va:Option Addr)(vn vc:Nat)(wr:World):Prop where
 below:Below w.heap.size w wr
 rv:RZ wr w.heap.size
 f0:wr.cell? ⟨F0,0,none⟩=some (.int .i64 V)
 f1:wr.cell? ⟨F0,1,none⟩=some (.slice va vn vc)
 fz:∀o,wr.frozen? ⟨F0,o,none⟩=false
 lines:Yr wr L3 B3 la (Zik ls)
 st:Wf wr (F0+1) va vn vc s
 lo:w.heap.size<F0/\B3<=F0/\F0<wr.heap.size
 tot:Yh s<=Yk (ls.take k)
 run:Zf5 ls.length V (YI (ls.drop k) k s)=OUT
section
variable {w : World} {F0 : Nat} {V : Int} {ls : List (List UInt8)} {la : Option Addr} {L3 B3 : Nat} {OUT : ZaJ} {k : Nat} {s s' : K5} {va va' : Option Addr} {vn vc vn' vc' : Nat} {wr wN : World}
theorem V6.next(h:V6 w F0 V ls la L3 B3 OUT k s va vn vc wr)(hb:Below F0 wr wN)(hz:F0<wN.heap.size)(f0:wN.cell? ⟨F0,0,none⟩=some (.int .i64 V))(f1:wN.cell? ⟨F0,1,none⟩=some (.slice va' vn' vc'))(fz:∀o,wN.frozen? ⟨F0,o,none⟩=false)(hst:Wf wN (F0+1) va' vn' vc' s')(hk:k<ls.length)(hs:XZ s ls[k]=.ok s') :
 V6 w F0 V ls la L3 B3 OUT (k+1) s' va' vn' vc' wN:=by
 obtain⟨l1,l2,l3⟩:=h.lo;have ht:=Zbq hs;have htt:=h.tot;refine⟨h.below.trans (hb.mono (by omega)),h.rv.keep (hb.block _ l1),f0,f1,fz,h.lines.keepS (X7.of_below (hb.mono l2)),hst,⟨l1,l2,hz⟩,?_,?_⟩
 ·have:Yk (ls.take (k+1))=Yk (ls.take k)+ls[k].length:=by rw[X9 _ _ hk,Uz]
  omega
 ·have hr:=h.run
  rw[List.drop_eq_getElem_cons hk,YI,hs]at hr;exact hr
theorem V6.bad(h:V6 w F0 V ls la L3 B3 OUT k s va vn vc wr)(hk:k<ls.length){c:Int}(hs:XZ s ls[k]=.bad c):OUT=Tm c (k+1):=by
 have hr:=h.run;rw[List.drop_eq_getElem_cons hk,YI,hs]at hr;exact hr.symm
theorem V6.drew(h:V6 w F0 V ls la L3 B3 OUT k s va vn vc wr):V6 w F0 V ls la L3 B3 OUT k s va vn vc wr.drew:=⟨h.below.drew,h.rv.keep rfl,h.f0,h.f1,h.fz,h.lines,h.st.keep (fun _ _ _=>rfl) (Nat.le_refl _),h.lo,h.tot,h.run⟩
theorem V6.calm(h:V6 w F0 V ls la L3 B3 OUT k s va vn vc wr)(hb:Below wr.heap.size wr wN):V6 w F0 V ls la L3 B3 OUT k s va vn vc wN:=by
 obtain⟨l1,l2,l3⟩:=h.lo;have hs:=hb.size;have q:=hb.block F0 l3;exact⟨h.below.trans (hb.mono (by omega)),h.rv.keep (hb.block _ (by omega)),(Xc q).trans h.f0,(Xc q).trans h.f1,fun o=>(World.frozen?_of_block q).trans (h.fz o),h.lines.keepS (X7.of_below (hb.mono (by omega))),h.st.keep (fun b _ h2=>hb.block b h2) hs,⟨l1,l2,by omega⟩,h.tot,h.run⟩
end
theorem WW(ls:List (List UInt8))(k:Nat):Yk (ls.take k)<=Yk ls:=JB _ _ _
end Go.Proofs.YtkehcdfalcakmaaGreatDoor
namespace Go.Proofs.YtkehcdfalcakmaaGreatDoor
set_option maxHeartbeats 2000000
set_option maxRecDepth 100000
open Go.RowKit Go.Shelf
structure Zdl(w:World)(R M b:Nat)(la:Option Addr)(ls:List (List UInt8)):Prop where
 map:M<R/\w.ownsMap Tryz.prog 9 ZY M 15 (wdT 3)
 op:0 < R/\Ym w
 ter:1 < R/\XR w
 max:4 < R/\Ti w
 txt:b<R
 lines:Ui w b R la ls
theorem Zdl.keep{w w':World}{R M b:Nat}{la:Option Addr}{ls:List (List UInt8)}(h:Zdl w R M b la ls)(k:Below R w w'):Zdl w' R M b la ls:=by
 refine⟨⟨h.map.1,?_⟩,⟨h.op.1,h.op.2.keep k h.op.1⟩,⟨h.ter.1,h.ter.2.keep k h.ter.1⟩,⟨h.max.1,Nat.lt_of_lt_of_le h.max.2.1 k.size,?_⟩,h.txt,h.lines.keep k h.txt⟩
 ·obtain⟨es,ck,hbk,rest⟩:=h.map.2
  exact⟨es,ck,(k.block M h.map.1).trans hbk,rest⟩
 ·obtain⟨m,hm⟩:=h.max.2.2
  exact⟨m,(k.cell (p:=⟨4,0,none⟩) h.max.1).trans hm⟩
structure ZhK(w:World)(R M b:Nat)(la:Option Addr)(ls:List (List UInt8))(V:Int)(B0:Nat)(OUT:Bd)(k:Nat)(s:K5)(va:Option Addr)(vn vc:Nat)(wr:World):Prop where
 below:Below R w wr
 env:Zdl wr R M b la ls
 st:Vd wr R (.map (some M)) V B0 s va vn vc
 tot:Yh s<=Yk (ls.take k)
 run:YI (ls.drop k) (k+1) s=OUT
def Zal(w w':World)(R M:Nat)(V:Int)(B0 n:Nat)(OUT:Bd)(e:Ending):Prop :=
 Below R w w'/\match OUT with
  | .bad c l=>e=.returned (XJ c l)
  | .ok s=>match s.cur with
   | some _=>e=.returned (XJ 8 ((n+1:Nat):Int))
   | none=>e=.returned .nilIface/\Yh s<=100000/\∃va vn vc,Vd w' R (.map (some M)) V B0 s va vn vc
theorem Zbv{w w':World}{R M:Nat}{V:Int}{B0 n:Nat}{OUT:Bd}{c li:Int}{l:Nat}(k:Below R w w')(h:OUT=.bad c l)(hl:li=l):Zal w w' R M V B0 n OUT (.returned (.iface 63 (.agg #[.int .i64 c,.int .i64 li]))):=by
 subst h hl;exact⟨k,rfl⟩
theorem Zam(R M b:Nat)(la:Option Addr)(ls:List (List UInt8))(V:Int)(B0:Nat)(va:Option Addr)(vn vc n lc:Nat)(OUT:Bd)(w:World)(hn:Hid (n=ls.length))(hnl:n<=100001)(hlen:Hid (Yk ls<=100000))(h0:Hid (ZhK w R M b la ls V B0 OUT 0 ⟨[],none⟩ va vn vc w)) :
 Calls Tryz.prog 48 #[.pointer (some ⟨R,0,none⟩),.slice la n lc] w fun e w'=>Zal w w' R M V B0 n OUT e:=by
 go_enter Tryz.func48,Tryz.ntmps48
 go_wp2
 go_loopw [10] (fun i wr=>∃(k:Nat)(s:K5)(va:Option Addr)(vn vc:Nat),k<=n/\i=.int .i64 k/\Hid (ZhK w R M b la ls V B0 OUT k s va vn vc wr)) (fun i _=>n-(intOf i).toNat)
 case atStart=>exact⟨0,_,_,_,_,Nat.zero_le _,rfl,h0⟩
 case round =>
  obtain⟨k,s,va,vn,vc,hk,rfl,HI⟩:=hrel;by_cases hlt:k<n
  ·have hkl:k<ls.length:=by have:=hn.out;omega
   obtain⟨l1,l2⟩:=HI.st.lo;have hsum:Yk (ls.take k)+ls[k].length<=Yk ls:=by
    rw[<-Uz,<-X9 _ _ hkl];exact WW ls (k+1)
   have hl0:=hlen.out;have htt:=HI.tot;obtain⟨g,o,v,rfl,hg,hc1,o2,c2,rfl,hl2,hcp⟩:=HI.env.lines k hkl;have HRL:=Xa (ZaB R M V B0 s va vn vc b o2 ls[k].length c2 ls[k] wr (Xa HI.st) (Xa ⟨by have:=HI.env.map.1;omega,HI.env.map.2⟩) (Xa HI.env.op.2) (Xa HI.env.ter.2) (Xa HI.env.max.2) (Xa (by omega)) (Xa rfl) hl2.1 hl2.2 (by omega) (Xa hcp) (by have:=HI.env.txt;omega));have HRUN:Hid (YI (ls.drop k) (k+1) s=match XZ s ls[k]with | .bad c=>.bad c (k+1+1) | .ok s'=>YI (ls.drop (k+1)) (k+1+1) s'):=Xa (by rw[List.drop_eq_getElem_cons hkl,YI];cases XZ s ls[k]<;>rfl)
   have HTOT:Hid (∀s',XZ s ls[k]=.ok s'->Yh s'<=Yk (ls.take (k+1))):=Xa (fun s' q=>by
    have:=Zbq q;rw[X9 _ _ hkl,Uz];omega)
   have hcn:ls[k].length<=100000:=by omega
   clear hl2 hcp hsum hl0 htt l1 l2;generalize ls[k]=line at *;cases hlp:XZ s line with
   | bad c =>
    have HO:Hid (OUT=.bad c (k+1+1)):=Xa (by rw[<-HI.run,HRUN.out,hlp]);generalize line.length=nl at *
    go_wp2_with (go_at_call 66;refine HRL.mono ?_;rintro e w1 ⟨hkb,hor⟩;obtain⟨rfl,hc0⟩:e=.returned (.int .i64 c)/\c≠0:=(by
     rcases hor with⟨c',q1,q2,q3⟩ | ⟨s',q1,_⟩
     ·rw[hlp]at q1;cases q1;exact⟨q3,q2⟩
     ·rw[hlp]at q1;cases q1);have HKB:=Xa hkb;have hc1:((c != 0)=true):=(bne_iff_ne.2 hc0);clear hkb hor hc0)
    go_ret
    exact Zbv (HI.below.trans (HKB.below (Nat.le_of_lt HI.st.lo.1) (Nat.le_refl _) (Nat.le_refl _))) HO.out (by push_cast;omega)
   | ok s' =>
    have HO:Hid (YI (ls.drop (k+1)) (k+1+1) s'=OUT):=Xa (by rw[<-HI.run,HRUN.out,hlp]);have HT':=Xa (HTOT.out s' hlp);generalize line.length=nl at *
    go_wp2_with (go_at_call 66;refine HRL.mono ?_;rintro e w1 ⟨hkb,hor⟩;obtain⟨rfl,hex⟩:e=.returned (.int .i64 0)/\∃va vn vc,Vd w1 R (.map (some M)) V B0 s' va vn vc:=(by
     rcases hor with⟨c',q1,q2,q3⟩ | ⟨s2,q1,q2,q3⟩
     ·rw[hlp]at q1;cases q1
     ·rw[hlp]at q1;cases q1;exact⟨q2,q3⟩);obtain⟨va1,vn1,vc1,hst⟩:=hex;have HN:Hid (ZhK w R M b (some ⟨g,o,none⟩) ls V B0 OUT (k+1) s' va1 vn1 vc1 w1):=Xa (by
      have kb:=hkb.below (Nat.le_of_lt HI.st.lo.1) (Nat.le_refl _) (Nat.le_refl _);exact⟨HI.below.trans kb,HI.env.keep kb,hst,HT'.out,HO.out⟩);clear hkb hor hst)
    exact⟨⟨k+1,_,_,_,_,by omega,by go_num,HN⟩,by simp[intOf];omega⟩
  ·have hke:k=ls.length:=by have:=hn.out;omega
   have hrun:=HI.run;rw[hke,List.drop_length,YI]at hrun;have HO:Hid (OUT=.ok s):=Xa hrun.symm;have c3:=HI.st.rd.opened;clear hrun hke;obtain⟨pre,cur⟩:=s;cases cur with
   | some pi =>
    go_wp2
    go_ret
    exact⟨HI.below,by rw[HO.out];show _=Ending.returned (XJ 8 _);unfold XJ;push_cast;rfl⟩
   | none =>
    go_wp2
    go_ret
    exact⟨HI.below,by rw[HO.out];exact⟨rfl,Nat.le_trans (Nat.le_trans HI.tot (WW _ _)) hlen.out,_,_,_,HI.st⟩⟩
end Go.Proofs.YtkehcdfalcakmaaGreatDoor
namespace Go.Proofs.YtkehcdfalcakmaaGreatDoor
set_option maxHeartbeats 4000000
set_option maxRecDepth 100000
open Go.RowKit Go.Shelf
theorem Zeu(line:List UInt8):WR line=(Zq (cutS line 32)).map (fun b=>(amount b:Int)):=by
 unfold WR Zq fieldsS;by_cases hall:(cutS line 32).all Xt=true
 ·rw[if_pos hall]
  match h:cutS line 32,hall with
  | [],_=>rfl
  | [_],_=>rfl
  | [a,b],hall =>
   dsimp only;by_cases hf:a=[102,117,110,99]
   ·cases hd:digitsOk b 4 with
    | true =>
     have hi:Jz b=amount b:=by unfold Jz;rw[if_pos hd]
     rw[if_pos ⟨rfl,hf,by show 0<=Jz b;rw[hi];omega⟩,if_pos ⟨hall,hf,rfl⟩];show some (Jz b)=_;rw[hi];rfl
    | false =>
     have hi:Jz b=-1:=by unfold Jz;rw[hd];rfl
     rw[if_neg (fun q=>absurd q.2.2 (by show ¬0<=Jz b;rw[hi];decide)),if_neg (fun q=>absurd q.2.2 (by decide))];rfl
   ·rw[if_neg (fun q=>hf q.2.1),if_neg (fun q=>hf q.2.1)]
    rfl
  | _::_::_::_,_ =>
   rw[if_neg (fun q=>by have:=q.1;simp at this)];rfl
 ·rw[if_neg hall,if_neg (fun q=>by have:=q.1;simp at this)]
  match h:cutS line 32,hall with
  | [],_=>rfl
  | [_],_=>rfl
  | [a,b],hall =>
   dsimp only;rw[if_neg (fun q=>hall q.1)];rfl
  | _::_::_::_,_=>rfl
theorem Ti.keep{w w':World}(h:Ti w)(k:Below w.heap.size w w'):Ti w':=⟨Nat.lt_of_lt_of_le h.1 k.size,by
 obtain⟨m,hm⟩:=h.2;exact⟨m,(k.cell (p:=⟨4,0,none⟩) h.1).trans hm⟩⟩
theorem Zg9{s:K5}{line:List UInt8}{c:Int}(h:XZ s line=.bad c):c≠0:=by
 unfold XZ at h;split at h
 ·cases h;decide
 ·split at h
  ·rename_i q
   cases h;exact q
  ·cases hs:Tp s (fieldsS line)with
   | none=>rw[hs]at h;cases h;decide
   | some s'=>rw[hs]at h;cases h
theorem Zds:∀(ls:List (List UInt8))(i:Nat)(s:K5){c:Int}{l:Nat},YI ls i s=.bad c l->c≠0
 | [],_,_,_,_,h=>by cases h
 | a::ls,i,s,c,l,h=>by
  rw[YI]at h;cases hl:XZ s a with
  | bad c'=>rw[hl]at h;cases h;exact Zg9 hl
  | ok s'=>rw[hl]at h;exact Zds ls (i+1) s' h
def Zij(s:ByteArray)(c l:Int):Value:=.iface 90 (.agg #[.string s,XJ c l])
def Za3(w w':World)(o:ZaJ)(e:Ending):Prop:=Below w.heap.size w w' /\
 ((o.code=0/\o.line=0/\∃va vc,e=.returned (.tuple #[.agg #[.int .i64 o.fn.values,.slice va o.fn.blocks.length vc],.nilIface])/\Zo w' w.heap.size w'.heap.size va o.fn.blocks) \/
  (o.code≠0/\o=Tm o.code o.line/\∃s,e=.returned (.tuple #[.agg #[.int .i64 0,.slice none 0 0],Zij s o.code o.line])))
theorem Z3{w w':World}{o:ZaJ}{s:ByteArray}{c:Int}{l:Nat}{li:Int}(k:Below w.heap.size w w')(h:o=Tm c l)(hc:c≠0)(hl:li=l):Za3 w w' o (.returned (.tuple #[.agg #[.int .i64 0,.slice none 0 0],.iface 90 (.agg #[.string s,.iface 63 (.agg #[.int .i64 c,.int .i64 li])])])):=by
 subst h hl;exact⟨k,Or.inr ⟨hc,rfl,s,rfl⟩⟩
theorem ZaL(a:Option Addr)(n c L B:Nat)(text:List UInt8)(w:World)(hx:Hid (n=text.length))(hnc:n<=c)(hc:c<=9223372036854775807)(ha:Hid (XE w L B a text))(hm:Hid (Ti w))(hB:B<=w.heap.size)(ht:Hid (Ym w))(ht2:Hid (XR w)) :
 Calls Tryz.prog 27 #[.slice a n c] w fun e w'=>Za3 w w' (parseP text) e:=by
 have b1:Below w.heap.size w (w.alloc (.cells #[.int .i64 0,.slice none 0 0] 25)):=Xb (Below.refl w.heap.size w) (.cells #[.int .i64 0,.slice none 0 0] 25);have hs0:(w.alloc (.cells #[.int .i64 0,.slice none 0 0] 25)).heap.size=w.heap.size+1:=World.size_alloc _ _;have HSL:Hid (Calls Tryz.prog 45 #[.slice a n c] (w.alloc (.cells #[.int .i64 0,.slice none 0 0] 25)) fun e w'=>KO (w.alloc (.cells #[.int .i64 0,.slice none 0 0] 25)).heap.size w' a text e/\Below (w.alloc (.cells #[.int .i64 0,.slice none 0 0] 25)).heap.size (w.alloc (.cells #[.int .i64 0,.slice none 0 0] 25)) w'):=Xa (V7 a n c L B text (w.alloc (.cells #[.int .i64 0,.slice none 0 0] 25)) hx hnc hc (Xa (ha.keep (b1.mono hB))) (Xa (Ti.keep hm.out b1)) (by omega));have HRV:Hid (∀W,Below (w.alloc (.cells #[.int .i64 0,.slice none 0 0] 25)).heap.size (w.alloc (.cells #[.int .i64 0,.slice none 0 0] 25)) W->Below w.heap.size w W/\w.heap.size<W.heap.size/\W.cell? ⟨w.heap.size,0,none⟩=some (.int .i64 0)/\W.cell? ⟨w.heap.size,1,none⟩=some (.slice none 0 0)/\∀o,W.frozen? ⟨w.heap.size,o,none⟩=false):=Xa (fun W k=>by
  have k2:=k.size;have kb:=k.block w.heap.size (by omega);exact⟨b1.trans (k.mono (by omega)),by omega,(Xc kb).trans (by simp),(Xc kb).trans (by simp),fun o=>(World.frozen?_of_block kb).trans (by simp)⟩)
 by_cases h1:100000<text.length
 ·skip
  have HP:Hid (parseP text=Tm 1 0):=Xa (by unfold parseP;rw[if_pos h1]);clear hx ha hm ht ht2 b1
  go_enter Tryz.func27,Tryz.ntmps27
  go_wp2_with (go_at_call 45;refine HSL.mono ?_;rintro e w1 ⟨⟨q1,_,_⟩,hb1⟩;rw[q1 h1];unfold XJ;obtain⟨hb,hsz,r0,r1,rz⟩:=HRV.out w1 hb1;have HB1:=Xa hb;clear q1 hb1 hb)
  go_wp2
  all_goals
   refine bodyPost_ret (v:=.tuple #[.agg #[.int .i64 0,.slice none 0 0],.iface 90 (.agg #[.string ⟨#[116,101,120,116]⟩,.iface 63 (.agg #[.int .i64 1,.int .i64 0])])]) (by simp[results,Tryz.results27,go_sem, *]) rfl ?_;exact Z3 ((HB1.setCell (Nat.le_refl _) _).setCell (Nat.le_refl _) _) HP.out (by decide) rfl
 ·by_cases h2:text.getLast?≠some 10
  ·skip
   have HP:Hid (parseP text=Tm 2 0):=Xa (by unfold parseP;rw[if_neg h1,if_pos h2]);clear hx ha hm ht ht2 b1
   go_enter Tryz.func27,Tryz.ntmps27
   go_wp2_with (go_at_call 45;refine HSL.mono ?_;rintro e w1 ⟨⟨_,q1,_⟩,hb1⟩;rw[q1 (by omega) h2];unfold XJ;obtain⟨hb,hsz,r0,r1,rz⟩:=HRV.out w1 hb1;have HB1:=Xa hb;clear q1 hb1 hb)
   go_wp2
   all_goals
    refine bodyPost_ret (v:=.tuple #[.agg #[.int .i64 0,.slice none 0 0],.iface 90 (.agg #[.string ⟨#[116,101,120,116]⟩,.iface 63 (.agg #[.int .i64 2,.int .i64 0])])]) (by simp[results,Tryz.results27,go_sem, *]) rfl ?_;exact Z3 ((HB1.setCell (Nat.le_refl _) _).setCell (Nat.le_refl _) _) HP.out (by decide) rfl
  ·skip
   have h2':text.getLast?=some 10:=Classical.not_not.1 h2;have hpos:0<text.length:=by cases text with | nil=>simp at h2' | cons x r=>simp
   obtain⟨b,o,rfl,⟨_,hbB⟩,-⟩:=ha.out 0 hpos;obtain⟨l0,lr,hls⟩:∃l0 lr,cutS text.dropLast 10=l0::lr:=by
    have:0<(cutS text.dropLast 10).length:=by unfold cutS;rw[Zv];omega
    match hcs:cutS text.dropLast 10,this with
    | l0::lr,_=>exact⟨l0,lr,rfl⟩
   have HLS:=Xa hls;have HLN:Hid (Yk (l0::lr)<=100000/\(l0::lr).length<=100001):=Xa (by
    rw[<-hls];have q1:=Vz 10 text.dropLast [];have q2:(cutS text.dropLast 10).length=text.dropLast.count 10+1:=by unfold cutS;rw[Zv]
    have q3:=List.count_le_length (a:=(10:UInt8)) (l:=text.dropLast);rw[List.length_dropLast]at q1 q3;simp only[List.length_nil]at q1;exact⟨by show Yk (Za 10 [] text.dropLast)<=_;omega,by omega⟩)
   have hl0:l0.length<=100000/\Yk lr<=100000/\lr.length<=100000:=by
    obtain⟨q1,q2⟩:=HLN.out;have q3:Yk (l0::lr)=l0.length+Yk lr:=by simp[Yk]
    rw[List.length_cons]at q2;omega
   obtain⟨nl,hnl⟩:∃nl,lr.length=nl:=⟨_,rfl⟩;have HNL:=Xa hnl;have hnlb:nl<=100000:=by omega
   have HPP:Hid (parseP text=Zfr (l0::lr) (WR l0)):=Xa (by unfold parseP Us;rw[if_neg h1,if_neg h2,hls];rfl);have HHR:Hid (∀w1 o1 c1,Below (w.alloc (.cells #[.int .i64 0,.slice none 0 0] 25)).heap.size (w.alloc (.cells #[.int .i64 0,.slice none 0 0] 25)) w1->l0.length<=c1->c1<=9223372036854775807->(∀i (h:i<l0.length),w1.cell? ⟨b,o1+i,none⟩=some (.int .u8 (l0[i].toNat:Int)))->Calls Tryz.prog 46 #[.slice (some ⟨b,o1,none⟩) l0.length c1] w1 fun e w'=>e=.returned (headV (Zq (cutS l0 32)))/\Below w1.heap.size w1 w'):=Xa (fun w1 o1 c1 k q1 q2 q3=>by
    have k2:=k.size;exact Wa b o1 l0.length c1 l0 w1 (Xa rfl) q1 q2 (by omega) (Xa q3) (Xa ((hm.keep b1).keep k)) (by omega))
   have hp1:(1:Int)<=(nl:Int)+1:=by omega
   have hp2:(0:Int)<(nl:Int)+1:=by omega
   rw[Zeu]at HPP;clear hls hnl h2;cases hho:Zq (cutS l0 32)with
   | none =>
    have HP:Hid (parseP text=Tm 3 1):=Xa (by rw[HPP.out,hho];rfl);rw[hho]at HHR;clear hx ha hm ht ht2 b1 HPP hho
    go_enter Tryz.func27,Tryz.ntmps27
    go_wp2_with (first | (go_at_call 45;refine HSL.mono ?_;rintro e w1 ⟨⟨_,_,q1⟩,hb1⟩;obtain⟨b',o',g,k,ea,hg,hk,rfl,hpc⟩:=q1 (by omega) h2';cases ea;have hk':k=nl+1:=(by rw[hk,HLS.out,List.length_cons,HNL.out]);subst hk';rw[HLS.out]at hpc;obtain⟨v0,hv0,o1,c1,rfl,hle,hcells⟩:=hpc.2 0 (by simp);obtain⟨hb,hsz,r0,r1,rz⟩:=HRV.out w1 hb1;have HB1:=Xa hb;have HBA1:=Xa hb1;have hgl:=hpc.1;have HPC:=Xa hpc;have HHD:=Xa (HHR.out w1 o1 c1 hb1 hle.1 hle.2 hcells);clear q1 hb1 hb hk hpc hle hcells) | (go_at_call 46;refine HHD.mono ?_;rintro e w2 ⟨rfl,hb2⟩;(try unfold headV);(try unfold XJ);have HBA2:=Xa (Xi HBA1.out hb2);obtain⟨hb,hsz2,s0,s1,sz⟩:=HRV.out w2 HBA2.out;have HB2:=Xa hb;have HBW2:=Xa hb2;clear hb2 hb))
    go_wp2
    all_goals
     refine bodyPost_ret (v:=.tuple #[.agg #[.int .i64 0,.slice none 0 0],.iface 90 (.agg #[.string ⟨#[104,101,97,100,101,114]⟩,.iface 63 (.agg #[.int .i64 3,.int .i64 1])])]) (by simp[results,Tryz.results27,go_sem, *]) rfl ?_;exact Z3 ((HB2.setCell (Nat.le_refl _) _).setCell (Nat.le_refl _) _) HP.out (by decide) rfl
   | some hf =>
    rw[hho]at HHR HPP;dsimp only[headV]at HHR;dsimp only[Option.map]at HPP;generalize (amount hf:Int)=V at *;have HPP2:Hid (parseP text=Zf5 (nl+1) V (YI lr 1 ⟨[],none⟩)):=Xa (by rw[HPP.out];show Zf5 (l0::lr).length V _=_;rw[List.length_cons,HNL.out];rfl);have HMW:Hid (∀w2,Below (w.alloc (.cells #[.int .i64 0,.slice none 0 0] 25)).heap.size (w.alloc (.cells #[.int .i64 0,.slice none 0 0] 25)) w2->Calls Tryz.prog 47 #[] w2 fun e w'=>e=.returned (.map (some w2.heap.size))/\Below w2.heap.size w2 w'/\w2.heap.size<w'.heap.size/\Hid (w'.ownsMap Tryz.prog 9 ZY w2.heap.size 15 (wdT 3))):=Xa (fun w2 k=>by
     have k2:=b1.trans (k.mono (by omega));refine(Wl w2 (Xa (ht.keep k2 ht.1)) (Xa (ht2.keep k2 ht2.1))).mono ?_;rintro e w' ⟨q1,q2,q3⟩;exact⟨q1,q2,q3.lt,Xa q3⟩)
    obtain⟨OUT,hOUT⟩:∃OUT,YI lr 1 ⟨[],none⟩=OUT:=⟨_,rfl⟩;rw[hOUT]at HPP2;have HRB:Hid (∀w1 g w3 M fa,Below (w.alloc (.cells #[.int .i64 0,.slice none 0 0] 25)).heap.size (w.alloc (.cells #[.int .i64 0,.slice none 0 0] 25)) w1->Zk w1 b g (l0::lr)->Below w1.heap.size w1 w3->M<w3.heap.size->w3.ownsMap Tryz.prog 9 ZY M 15 (wdT 3)->(nl=0\/fa=some ⟨g,1,none⟩)->Calls Tryz.prog 48 #[.pointer (some ⟨w3.heap.size,0,none⟩),.slice fa nl nl] (w3.alloc (.cells #[.map (some M),.int .i64 V,.slice none 0 0,.bool false] 96)) fun e w'=>Zal (w3.alloc (.cells #[.map (some M),.int .i64 V,.slice none 0 0,.bool false] 96)) w' w3.heap.size M V (w3.heap.size+1) nl OUT e):=Xa (fun w1 g w3 M fa k1 hp k3 hM hom hfa=>by
     have z1:=k1.size;have z3:=k3.size;have kk:=b1.trans ((k1.trans (k3.mono (by omega))).mono (by omega));have ka:=Xb (Below.refl w3.heap.size w3) (.cells #[.map (some M),.int .i64 V,.slice none 0 0,.bool false] 96);have kw:=kk.trans (ka.mono (by omega));have zz:=World.size_alloc w3 (.cells #[.map (some M),.int .i64 V,.slice none 0 0,.bool false] 96);refine Zam w3.heap.size M b fa lr V (w3.heap.size+1) none 0 0 nl nl OUT (w3.alloc (.cells #[.map (some M),.int .i64 V,.slice none 0 0,.bool false] 96)) (Xa HNL.symm) (by omega) (Xa hl0.2.1) (Xa ⟨Below.refl _ _,⟨⟨hM,hom.alloc _⟩,⟨by have:=ht.1;omega,ht.keep kw ht.1⟩,⟨by have:=ht2.1;omega,ht2.keep kw ht2.1⟩,⟨by have:=hm.1;omega,hm.keep kw⟩,by omega,fun i hi=>?_⟩,⟨⟨by simp,by simp,by simp,by simp⟩,Tw.start _ _ (by omega),fun o=>by simp,⟨by omega,by omega⟩⟩,by simp[Yh,Xn],by rw[List.drop_zero];exact hOUT⟩);have hr0:=HNL.out;have hg:=hp.1;rcases hfa with h0 | rfl
     ·omega
     ·obtain⟨v,hv,hpv⟩:=hp.2 (i+1) (by rw[List.length_cons];omega)
      rw[List.getElem_cons_succ]at hpv;have kx:=k3.trans (ka.mono z3);exact⟨g,1,v,rfl,by omega,by rw[Nat.add_comm 1 i];exact(kx.cell (p:=⟨g,i+1,none⟩) hg).trans hv,hpv.keep (kx.block b (by omega))⟩)
    clear HPP;have HCB:Hid (∀c l,OUT=.bad c l->c≠0):=Xa (fun c l e=>Zds lr 1 ⟨[],none⟩ (hOUT.trans e));clear hOUT;cases OUT with
    | bad c l =>
     have HCZ:Hid (c≠0):=Xa (HCB.out c l rfl);have HP:Hid (parseP text=Tm c l):=Xa HPP2.out;have HC:Hid (c≠0):=Xa HCZ.out;clear hx ha hm ht ht2 b1 hho HPP2
     go_enter Tryz.func27,Tryz.ntmps27
     go_wp2_with (first | (go_at_call 45;refine HSL.mono ?_;rintro e w1 ⟨⟨_,_,q1⟩,hb1⟩;obtain⟨b',o',g,k,ea,hg,hk,rfl,hpc⟩:=q1 (by omega) h2';cases ea;have hk':k=nl+1:=(by rw[hk,HLS.out,List.length_cons,HNL.out]);subst hk';rw[HLS.out]at hpc;obtain⟨v0,hv0,o1,c1,rfl,hle,hcells⟩:=hpc.2 0 (by simp);obtain⟨hb,hsz,r0,r1,rz⟩:=HRV.out w1 hb1;have HB1:=Xa hb;have HBA1:=Xa hb1;have hgl:=hpc.1;have HPC:=Xa hpc;have HHD:=Xa (HHR.out w1 o1 c1 hb1 hle.1 hle.2 hcells);clear q1 hb1 hb hk hpc hle hcells) | (go_at_call 46;refine HHD.mono ?_;rintro e w2 ⟨rfl,hb2⟩;(try unfold headV);(try unfold XJ);have HBA2:=Xa (Xi HBA1.out hb2);obtain⟨hb,hsz2,s0,s1,sz⟩:=HRV.out w2 HBA2.out;have HB2:=Xa hb;have HBW2:=Xa hb2;clear hb2 hb) | (go_at_call 47;refine(HMW.out _ HBA2.out).mono ?_;rintro e w3 ⟨rfl,hb3,hs3,HM3⟩;have HB3:=Xa (Xi HBW2.out hb3);have HBA3:=Xa (Xi HBA2.out hb3);have hs2:=hb3.size;obtain⟨hb,hsz3,u0,u1,uz⟩:=HRV.out w3 HBA3.out;have HW3:=Xa hb;have HRL:=Xa (HRV.out w3 HBA3.out);clear hb3 hb) | (go_at_call 48;refine(HRB.out w1 g w3 _ _ HBA1.out HPC.out HB3.out hs3 HM3.out (Ka _ _)).mono ?_;rintro e w5 ⟨hb5,hans⟩;dsimp only at hans;subst hans;unfold XJ;obtain⟨hb,_,t0,t1,tz⟩:=HRV.out w5 (HBA3.trans (((Xb (Below.refl w3.heap.size w3) _).trans hb5).mono (by have:=HBA3.size;omega)));have HB5:=Xa hb;clear hb5 hb))
     go_wp2
     all_goals
      refine bodyPost_ret (v:=.tuple #[.agg #[.int .i64 0,.slice none 0 0],.iface 90 (.agg #[.string ⟨#[98,111,100,121]⟩,.iface 63 (.agg #[.int .i64 c,.int .i64 l])])]) (by simp[results,Tryz.results27,go_sem, *]) rfl ?_;exact Z3 ((HB5.setCell (Nat.le_refl _) _).setCell (Nat.le_refl _) _) HP.out HC.out rfl
    | ok s =>
     obtain⟨pre,cur⟩:=s;cases cur with
     | some pi =>
      have HP:Hid (parseP text=Tm 8 (nl+1)):=Xa HPP2.out;clear hx ha hm ht ht2 b1 hho HPP2 HCB
      go_enter Tryz.func27,Tryz.ntmps27
      go_wp2_with (first | (go_at_call 45;refine HSL.mono ?_;rintro e w1 ⟨⟨_,_,q1⟩,hb1⟩;obtain⟨b',o',g,k,ea,hg,hk,rfl,hpc⟩:=q1 (by omega) h2';cases ea;have hk':k=nl+1:=(by rw[hk,HLS.out,List.length_cons,HNL.out]);subst hk';rw[HLS.out]at hpc;obtain⟨v0,hv0,o1,c1,rfl,hle,hcells⟩:=hpc.2 0 (by simp);obtain⟨hb,hsz,r0,r1,rz⟩:=HRV.out w1 hb1;have HB1:=Xa hb;have HBA1:=Xa hb1;have hgl:=hpc.1;have HPC:=Xa hpc;have HHD:=Xa (HHR.out w1 o1 c1 hb1 hle.1 hle.2 hcells);clear q1 hb1 hb hk hpc hle hcells) | (go_at_call 46;refine HHD.mono ?_;rintro e w2 ⟨rfl,hb2⟩;(try unfold headV);(try unfold XJ);have HBA2:=Xa (Xi HBA1.out hb2);obtain⟨hb,hsz2,s0,s1,sz⟩:=HRV.out w2 HBA2.out;have HB2:=Xa hb;have HBW2:=Xa hb2;clear hb2 hb) | (go_at_call 47;refine(HMW.out _ HBA2.out).mono ?_;rintro e w3 ⟨rfl,hb3,hs3,HM3⟩;have HB3:=Xa (Xi HBW2.out hb3);have HBA3:=Xa (Xi HBA2.out hb3);have hs2:=hb3.size;obtain⟨hb,hsz3,u0,u1,uz⟩:=HRV.out w3 HBA3.out;have HW3:=Xa hb;have HRL:=Xa (HRV.out w3 HBA3.out);clear hb3 hb) | (go_at_call 48;refine(HRB.out w1 g w3 _ _ HBA1.out HPC.out HB3.out hs3 HM3.out (Ka _ _)).mono ?_;rintro e w5 ⟨hb5,hans⟩;dsimp only at hans;subst hans;unfold XJ;obtain⟨hb,_,t0,t1,tz⟩:=HRV.out w5 (HBA3.trans (((Xb (Below.refl w3.heap.size w3) _).trans hb5).mono (by have:=HBA3.size;omega)));have HB5:=Xa hb;clear hb5 hb))
      go_wp2
      all_goals
       refine bodyPost_ret (v:=.tuple #[.agg #[.int .i64 0,.slice none 0 0],.iface 90 (.agg #[.string ⟨#[98,111,100,121]⟩,.iface 63 (.agg #[.int .i64 8,.int .i64 ((nl+1:Nat):Int)])])]) (by simp[results,Tryz.results27,go_sem, *]) rfl ?_;exact Z3 ((HB5.setCell (Nat.le_refl _) _).setCell (Nat.le_refl _) _) HP.out (by decide) rfl
     | none =>
      have HVF:Hid (∀w5 va vn vc R M,Below (w.alloc (.cells #[.int .i64 0,.slice none 0 0] 25)).heap.size (w.alloc (.cells #[.int .i64 0,.slice none 0 0] 25)) w5->Vd w5 R (.map (some M)) V (R+1) ⟨pre,none⟩ va vn vc->Yh ⟨pre,none⟩<=100000->Calls Tryz.prog 7 #[.agg #[.int .i64 V,.slice va vn vc]] w5 fun e w'=>e=.returned (.bool (Yx ⟨V,pre⟩))/\Below w5.heap.size w5 w'):=Xa (fun w5 va vn vc R M k hst htot=>by
       have k2:=b1.trans (k.mono (by omega));obtain⟨e1,hbc⟩:=hst.st;rw[<-Zp];simp only[Yh]at htot;exact YU V va vn vc pre (R+1) w5.heap.size w5 (Xa hbc.blks) (Xa e1) (Xa (by omega)) (Nat.le_refl _) (Xa (ht.keep k2 ht.1).old) (Xa (ht2.keep k2 ht2.1).old))
      cases hvd:Yx ⟨V,pre⟩with
      | false =>
       have HP:Hid (parseP text=Tm 9 0):=Xa (by rw[HPP2.out];show(if Yx ⟨V,pre⟩=true then _ else _)=_;rw[hvd];rfl);clear hx ha hm ht ht2 b1 hho HPP2 HCB
       go_enter Tryz.func27,Tryz.ntmps27
       go_wp2_with (first | (go_at_call 45;refine HSL.mono ?_;rintro e w1 ⟨⟨_,_,q1⟩,hb1⟩;obtain⟨b',o',g,k,ea,hg,hk,rfl,hpc⟩:=q1 (by omega) h2';cases ea;have hk':k=nl+1:=(by rw[hk,HLS.out,List.length_cons,HNL.out]);subst hk';rw[HLS.out]at hpc;obtain⟨v0,hv0,o1,c1,rfl,hle,hcells⟩:=hpc.2 0 (by simp);obtain⟨hb,hsz,r0,r1,rz⟩:=HRV.out w1 hb1;have HB1:=Xa hb;have HBA1:=Xa hb1;have hgl:=hpc.1;have HPC:=Xa hpc;have HHD:=Xa (HHR.out w1 o1 c1 hb1 hle.1 hle.2 hcells);clear q1 hb1 hb hk hpc hle hcells) | (go_at_call 46;refine HHD.mono ?_;rintro e w2 ⟨rfl,hb2⟩;(try unfold headV);(try unfold XJ);have HBA2:=Xa (Xi HBA1.out hb2);obtain⟨hb,hsz2,s0,s1,sz⟩:=HRV.out w2 HBA2.out;have HB2:=Xa hb;have HBW2:=Xa hb2;clear hb2 hb) | (go_at_call 47;refine(HMW.out _ HBA2.out).mono ?_;rintro e w3 ⟨rfl,hb3,hs3,HM3⟩;have HB3:=Xa (Xi HBW2.out hb3);have HBA3:=Xa (Xi HBA2.out hb3);have hs2:=hb3.size;obtain⟨hb,hsz3,u0,u1,uz⟩:=HRV.out w3 HBA3.out;have HW3:=Xa hb;have HRL:=Xa (HRV.out w3 HBA3.out);clear hb3 hb) | (go_at_call 48;refine(HRB.out w1 g w3 _ _ HBA1.out HPC.out HB3.out hs3 HM3.out (Ka _ _)).mono ?_;rintro e w5 ⟨hb5,hans⟩;dsimp only at hans;obtain⟨rfl,htot5,va5,vn5,vc5,hst5⟩:=hans;have HBA5:=Xa (HBA3.trans (((Xb (Below.refl w3.heap.size w3) _).trans hb5).mono (by have:=HBA3.size;omega)));have HST5:=Xa hst5;have c1v:=hst5.rd.values;have c2v:=hst5.rd.blocks;have hR5:w3.heap.size<w5.heap.size:=(by have:=hst5.lo;omega);obtain⟨hb,hsz5,t0,t1,tz⟩:=HRV.out w5 HBA5.out;clear hb5 hb hst5) | (go_at_call 7;refine(HVF.out w5 va5 vn5 vc5 _ _ HBA5.out HST5.out htot5).mono ?_;rintro e w6 ⟨rfl,hb6⟩;rw[hvd];have HBA6:=Xa (Xi HBA5.out hb6);obtain⟨hb,hs6,z0,z1,zz⟩:=HRV.out w6 HBA6.out;have HB6:=Xa hb;have HK6:=Xa hb6;have d1:=(hb6.cell (p:=⟨w3.heap.size,1,none⟩) hR5).trans c1v;have d2:=(hb6.cell (p:=⟨w3.heap.size,2,none⟩) hR5).trans c2v;clear hb6 hb))
       go_wp2
       all_goals
        refine bodyPost_ret (v:=.tuple #[.agg #[.int .i64 0,.slice none 0 0],.iface 90 (.agg #[.string ⟨#[102,117,110,99,116,105,111,110]⟩,.iface 63 (.agg #[.int .i64 9,.int .i64 0])])]) (by simp[results,Tryz.results27,go_sem, *]) rfl ?_;exact Z3 ((HB6.setCell (Nat.le_refl _) _).setCell (Nat.le_refl _) _) HP.out (by decide) rfl
      | true =>
       have HP:Hid (parseP text=⟨0,0,⟨V,pre⟩⟩):=Xa (by rw[HPP2.out];show(if Yx ⟨V,pre⟩=true then _ else _)=_;rw[hvd];rfl);clear hx ha hm ht ht2 b1 hho HPP2 HCB
       go_enter Tryz.func27,Tryz.ntmps27
       go_wp2_with (first | (go_at_call 45;refine HSL.mono ?_;rintro e w1 ⟨⟨_,_,q1⟩,hb1⟩;obtain⟨b',o',g,k,ea,hg,hk,rfl,hpc⟩:=q1 (by omega) h2';cases ea;have hk':k=nl+1:=(by rw[hk,HLS.out,List.length_cons,HNL.out]);subst hk';rw[HLS.out]at hpc;obtain⟨v0,hv0,o1,c1,rfl,hle,hcells⟩:=hpc.2 0 (by simp);obtain⟨hb,hsz,r0,r1,rz⟩:=HRV.out w1 hb1;have HB1:=Xa hb;have HBA1:=Xa hb1;have hgl:=hpc.1;have HPC:=Xa hpc;have HHD:=Xa (HHR.out w1 o1 c1 hb1 hle.1 hle.2 hcells);clear q1 hb1 hb hk hpc hle hcells) | (go_at_call 46;refine HHD.mono ?_;rintro e w2 ⟨rfl,hb2⟩;(try unfold headV);(try unfold XJ);have HBA2:=Xa (Xi HBA1.out hb2);obtain⟨hb,hsz2,s0,s1,sz⟩:=HRV.out w2 HBA2.out;have HB2:=Xa hb;have HBW2:=Xa hb2;clear hb2 hb) | (go_at_call 47;refine(HMW.out _ HBA2.out).mono ?_;rintro e w3 ⟨rfl,hb3,hs3,HM3⟩;have HB3:=Xa (Xi HBW2.out hb3);have HBA3:=Xa (Xi HBA2.out hb3);have hs2:=hb3.size;obtain⟨hb,hsz3,u0,u1,uz⟩:=HRV.out w3 HBA3.out;have HW3:=Xa hb;have HRL:=Xa (HRV.out w3 HBA3.out);clear hb3 hb) | (go_at_call 48;refine(HRB.out w1 g w3 _ _ HBA1.out HPC.out HB3.out hs3 HM3.out (Ka _ _)).mono ?_;rintro e w5 ⟨hb5,hans⟩;dsimp only at hans;obtain⟨rfl,htot5,va5,vn5,vc5,hst5⟩:=hans;have HBA5:=Xa (HBA3.trans (((Xb (Below.refl w3.heap.size w3) _).trans hb5).mono (by have:=HBA3.size;omega)));have HST5:=Xa hst5;have c1v:=hst5.rd.values;have c2v:=hst5.rd.blocks;have hR5:w3.heap.size<w5.heap.size:=(by have:=hst5.lo;omega);obtain⟨hb,hsz5,t0,t1,tz⟩:=HRV.out w5 HBA5.out;clear hb5 hb hst5) | (go_at_call 7;refine(HVF.out w5 va5 vn5 vc5 _ _ HBA5.out HST5.out htot5).mono ?_;rintro e w6 ⟨rfl,hb6⟩;rw[hvd];have HBA6:=Xa (Xi HBA5.out hb6);obtain⟨hb,hs6,z0,z1,zz⟩:=HRV.out w6 HBA6.out;have HB6:=Xa hb;have HK6:=Xa hb6;have d1:=(hb6.cell (p:=⟨w3.heap.size,1,none⟩) hR5).trans c1v;have d2:=(hb6.cell (p:=⟨w3.heap.size,2,none⟩) hR5).trans c2v;clear hb6 hb))
       all_goals
        refine bodyPost_ret (v:=.tuple #[.agg #[.int .i64 V,.slice va5 vn5 vc5],.nilIface]) (by simp[results,Tryz.results27,go_sem, *]) rfl ?_;obtain⟨e5,hbc5⟩:=HST5.st;have kf:=(HB6.setCell (p:=⟨w.heap.size,0,none⟩) (Nat.le_refl _) (.int .i64 V)).setCell (p:=⟨w.heap.size,1,none⟩) (Nat.le_refl _) (.slice va5 vn5 vc5);have s6:=HK6.size;have sf:=hsz3;refine⟨kf,Or.inl ?_⟩;rw[HP.out];refine⟨rfl,rfl,va5,vc5,by rw[show vn5=pre.length from e5],?_⟩;exact(hbc5.sep.keepS (fun b h1 h2=>((Below.heap_setCell _ _ _ _ (by dsimp only;omega)).trans (Below.heap_setCell _ _ _ _ (by dsimp only;omega))).trans (HK6.block b h2))).mono (by omega) (by rw[Xd,Xd];omega)
end Go.Proofs.YtkehcdfalcakmaaGreatDoor
