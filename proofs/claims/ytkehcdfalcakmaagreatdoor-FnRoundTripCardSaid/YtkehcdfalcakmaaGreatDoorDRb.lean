import Derived.Test.YtkehcdfalcakmaaGreatDoorDL5
namespace Go.Proofs.YtkehcdfalcakmaaGreatDoor
set_option maxRecDepth 100000
open Go.RowKit
def Xm{T:Type}(f:T->T)(k:Nat)(l:List T):List T:=(l.take k).map f++l.drop k
variable {T : Type} {f : T -> T}
theorem Yc(k:Nat)(l:List T):(Xm f k l).length=l.length:=by simp[Xm];omega
theorem Kg(l:List T):Xm f 0 l=l:=by simp[Xm]
theorem KY(l:List T):Xm f l.length l=l.map f:=by simp[Xm]
theorem Un{k:Nat}{l:List T}(h:k<l.length)(h':k<(Xm f k l).length):(Xm f k l)[k]=l[k]:=by
 have e:(Xm f k l)[k]?=l[k]?:=by
  unfold Xm;rw[List.getElem?_append_right (by simp;omega)];simp only[List.length_map,List.length_take,List.getElem?_drop];congr 1;omega
 rw[List.getElem?_eq_getElem h',List.getElem?_eq_getElem h]at e;injection e
theorem Tc{k:Nat}{l:List T}(h:k<l.length):(Xm f k l).set k (f l[k])=Xm f (k+1) l:=by
 refine List.ext_getElem? (fun r=>?_);by_cases e:k=r
 ·subst e
  rw[List.getElem?_set_self (by rw[Yc];exact h)];unfold Xm;rw[List.getElem?_append_left (by simp;omega)];simp[h]
 ·rw[List.getElem?_set_ne e]
  unfold Xm;by_cases hr:r<k
  ·rw[List.getElem?_append_left (by simp;omega),List.getElem?_append_left (by simp;omega)]
   simp only[List.getElem?_map,List.getElem?_take_of_lt hr,List.getElem?_take_of_lt (show r<k+1 by omega)]
  ·rw[List.getElem?_append_right (by simp;omega),List.getElem?_append_right (by simp;omega)]
   simp only[List.length_map,List.length_take,List.getElem?_drop];congr 1;omega
noncomputable def rB:Code:=(Tryz.f76.body.getD .skip)
noncomputable def rB1:Code:=(JN rB).getD 0 .skip
noncomputable def rB2:Code:=(JN rB1).getD 0 .skip
noncomputable def rB4:Code:=(JN rB1).getD 1 .skip
noncomputable def rB3:Code:=(JN rB2).getD 0 .skip
theorem Ze2(f:Nat->Value):(List.range' 9 161).map f=(f 9::f 10::f 11::f 12::f 13::f 14::f 15::f 16::f 17::f 18::f 19::f 20::f 21::f 22::f 23::f 24::f 25::f 26::f 27::f 28::f 29::f 30::f 31::f 32::f 33::f 34::f 35::f 36::f 37::f 38::f 39::f 40::f 41::f 42::f 43::f 44::f 45::f 46::f 47::f 48::f 49::f 50::f 51::f 52::f 53::f 54::f 55::f 56::f 57::f 58::f 59::f 60::f 61::f 62::f 63::f 64::f 65::f 66::f 67::f 68::f 69::f 70::f 71::f 72::f 73::f 74::f 75::f 76::f 77::f 78::f 79::f 80::f 81::f 82::f 83::f 84::f 85::f 86::f 87::f 88::f 89::f 90::f 91::f 92::f 93::f 94::f 95::f 96::f 97::f 98::f 99::f 100::f 101::f 102::f 103::f 104::f 105::f 106::f 107::f 108::f 109::f 110::f 111::f 112::f 113::f 114::f 115::f 116::f 117::f 118::f 119::f 120::f 121::f 122::f 123::f 124::f 125::f 126::f 127::f 128::f 129::f 130::f 131::f 132::f 133::f 134::f 135::f 136::f 137::f 138::f 139::f 140::f 141::f 142::f 143::f 144::f 145::f 146::f 147::f 148::f 149::f 150::f 151::f 152::f 153::f 154::f 155::f 156::f 157::f 158::f 159::f 160::f 161::f 162::f 163::f 164::f 165::f 166::f 167::f 168::f 169::[]):=rfl
theorem Zbr(tl:List Value)(h:tl.length=161):∃f:Nat->Value,tl=(f 9::f 10::f 11::f 12::f 13::f 14::f 15::f 16::f 17::f 18::f 19::f 20::f 21::f 22::f 23::f 24::f 25::f 26::f 27::f 28::f 29::f 30::f 31::f 32::f 33::f 34::f 35::f 36::f 37::f 38::f 39::f 40::f 41::f 42::f 43::f 44::f 45::f 46::f 47::f 48::f 49::f 50::f 51::f 52::f 53::f 54::f 55::f 56::f 57::f 58::f 59::f 60::f 61::f 62::f 63::f 64::f 65::f 66::f 67::f 68::f 69::f 70::f 71::f 72::f 73::f 74::f 75::f 76::f 77::f 78::f 79::f 80::f 81::f 82::f 83::f 84::f 85::f 86::f 87::f 88::f 89::f 90::f 91::f 92::f 93::f 94::f 95::f 96::f 97::f 98::f 99::f 100::f 101::f 102::f 103::f 104::f 105::f 106::f 107::f 108::f 109::f 110::f 111::f 112::f 113::f 114::f 115::f 116::f 117::f 118::f 119::f 120::f 121::f 122::f 123::f 124::f 125::f 126::f 127::f 128::f 129::f 130::f 131::f 132::f 133::f 134::f 135::f 136::f 137::f 138::f 139::f 140::f 141::f 142::f 143::f 144::f 145::f 146::f 147::f 148::f 149::f 150::f 151::f 152::f 153::f 154::f 155::f 156::f 157::f 158::f 159::f 160::f 161::f 162::f 163::f 164::f 165::f 166::f 167::f 168::f 169::[]):=by
 have e:=JS Value undef tl 9 (fun i=>tl.getD (i-9) undef) (fun i hi=>by simp[hi]);rw[h]at e;exact⟨fun i=>tl.getD (i-9) undef,e.trans (Ze2 _)⟩
structure JY(w wr:World)(lab:Nat->Nat × Nat × Nat)(base:Nat)(v G n c:Nat)(xs:List Xf)(pv iv:Nat->Value)(av:Nat->Nat->Value):Prop where
 fn:Z5 wr lab base (.slice (some ⟨G,0,none⟩) n c) xs pv iv av
 bel:Below base w wr
 kept:∀b,b<w.heap.size->lab b=(0,0,0)->wr.heap[b]?=w.heap[b]?
 fr:∀b,w.heap.size<=b->lab b=(0,0,0)
 bs:base<=w.heap.size
 box:Bx wr w.heap.size #[.int .i64 (v:Int),.slice (some ⟨G,0,none⟩) n c] 25
 res:Bx wr (w.heap.size+1) #[.int .i64 0,.slice none 0 0] 25
variable {w wr w' : World} {lab : Nat -> Nat × Nat × Nat} {base v G n c : Nat} {xs xs' : List Xf} {pv iv : Nat -> Value} {av : Nat -> Nat -> Value}
theorem JY.step(h:JY w wr lab base v G n c xs pv iv av)(hf:Z5 w' lab base (.slice (some ⟨G,0,none⟩) n c) xs' pv iv av)(hk:∀b,b<wr.heap.size->lab b=(0,0,0)->w'.heap[b]?=wr.heap[b]?)(hb:Below base wr w'):JY w w' lab base v G n c xs' pv iv av :=
 ⟨hf,h.bel.trans hb,fun b h1 h2=>(hk b (Nat.lt_of_lt_of_le h1 h.bel.size) h2).trans (h.kept b h1 h2),h.fr,h.bs,h.box.keep (hk _ h.box.lt (h.fr _ (Nat.le_refl _))),h.res.keep (hk _ h.res.lt (h.fr _ (Nat.le_succ _)))⟩
theorem JY.put{g q:Nat}{u:Value}(h:JY w wr lab base v G n c xs pv iv av)(hf:Z5 (wr.setCell ⟨g,q,none⟩ u) lab base (.slice (some ⟨G,0,none⟩) n c) xs' pv iv av)(hg:lab g≠(0,0,0))(hb:base<=g):JY w (wr.setCell ⟨g,q,none⟩ u) lab base v G n c xs' pv iv av :=
 h.step hf (fun b _ e=>Below.heap_setCell _ _ _ _ (fun e2=>hg (by rw[show g=b from e2.symm];exact e))) ((Below.refl base wr).setCell hb u)
theorem JY.alloc(h:JY w wr lab base v G n c xs pv iv av)(o:Obj):JY w (wr.alloc o) lab base v G n c xs pv iv av:=by
 have k:XK wr (wr.alloc o) lab lab base (fun _=>True):=XK.box o;exact h.step (h.fn.sp k 0 (fun _ _ _ _ _=>trivial) (Or.inl (fun _ _=>trivial))) (fun b hb _=>Below.heap_alloc _ _ _ hb) (Below.alloc (Below.refl _ _) (Nat.le_trans h.bs h.bel.size) o)
theorem JY.drew(h:JY w wr lab base v G n c xs pv iv av):JY w wr.drew lab base v G n c xs pv iv av:=h.step (h.fn.sp (ok:=fun _=>True) ⟨Nat.le_refl _,fun _ _ _ _=>⟨rfl,rfl⟩,fun hf b hb=>hf b hb⟩ 0 (fun _ _ _ _ _=>trivial) (Or.inl (fun _ _=>trivial))) (fun _ _ _=>rfl) (Below.refl _ _).drew
theorem JY.putx{g q:Nat}{u:Value}(h:JY w wr lab base v G n c xs pv iv av)(hg:w.heap.size+2<=g):JY w (wr.setCell ⟨g,q,none⟩ u) lab base v G n c xs pv iv av:=by
 have hbs:=h.bs;have hl:=h.fr g (by omega);have k:XK wr (wr.setCell ⟨g,q,none⟩ u) lab lab base (fun b=>b≠g):=XK.put g q u;have nb:∀b,(lab b).1≠0->b≠g:=fun b h1 e=>h1 (by rw[e,hl])
 refine⟨h.fn.sp k 0 (fun b h1 _ _ _=>nb b h1) (Or.inl (fun b e=>nb b (by rcases e with e | e<;>rw[e]<;>simp))),h.bel.trans ((Below.refl base wr).setCell (p:=⟨g,q,none⟩) (by show base<=g;omega) u),fun b h1 h2=>(Below.heap_setCell _ _ _ _ (by show b≠g;omega)).trans (h.kept b h1 h2),h.fr,h.bs,h.box.other (by omega),h.res.other (by omega)⟩
end Go.Proofs.YtkehcdfalcakmaaGreatDoor
namespace Go.Proofs.YtkehcdfalcakmaaGreatDoor
set_option maxHeartbeats 8000000
set_option maxRecDepth 100000
open Go.RowKit
structure LsO(w w':World)(lab:Nat->Nat × Nat × Nat)(base sb B:Nat)(s:Sr)(G n c:Nat)(xs:List Xf)(pv iv:Nat->Value)(av:Nat->Nat->Value):Prop where
 fn:Z5 w' lab base (.slice (some ⟨G,0,none⟩) n c) xs pv iv av
 dr:Zs w' sb B s
 os:w'.os=w.os
 tape:w'.tape=w.tape
 output:w'.output=w.output
 size:w.heap.size<=w'.heap.size
 low:∀b,b<base->b≠sb->w'.heap[b]?=w.heap[b]?
 fr:∀b,w.heap.size<=b->lab b=(0,0,0)
theorem Wc.done{w wr:World}{lab:Nat->Nat × Nat × Nat}{base sb B:Nat}{s:Sr}{v G n c:Nat}{xs:List Xf}{pv iv:Nat->Value}{av:Nat->Nat->Value}{u0 u1:Value}(h:Wc w wr lab base sb B s v G n c xs pv iv av):LsO w ((wr.setCell ⟨w.heap.size+1,0,none⟩ u0).setCell ⟨w.heap.size+1,1,none⟩ u1) lab base sb B s G n c xs pv iv av:=by
 have hl:=h.fr (w.heap.size+1) (Nat.le_succ _);have hbs:=h.bs;have hbb:=h.bb;have k1:XK wr ((wr.setCell ⟨w.heap.size+1,0,none⟩ u0).setCell ⟨w.heap.size+1,1,none⟩ u1) lab lab base (fun b=>b≠w.heap.size+1):=((XK.put _ _ _).trans (XK.put _ _ _)).weak (fun _ hb=>⟨hb,hb⟩);have nb:∀b,(lab b).1≠0->b≠w.heap.size+1:=fun b h1 e=>h1 (by rw[e,hl])
 refine⟨h.fn.sp k1 0 (fun b h1 _ _ _=>nb b h1) (Or.inl (fun b e=>nb b (by rcases e with e | e<;>rw[e]<;>simp))),(h.dr.put (by omega)).put (by omega),h.os,h.tape,h.output,by simpa [World.setCell]using h.size,fun b h1 h2=>?_,h.fr⟩;have nb:b≠w.heap.size+1:=by omega
 exact((Below.heap_setCell _ _ _ _ nb).trans (Below.heap_setCell _ _ _ _ nb)).trans (h.low b h1 h2)
theorem Ze8(V G n c:Nat)(xs:List Xf)(lab:Nat->Nat × Nat × Nat)(base:Nat)(pv iv:Nat->Value)(av:Nat->Nat->Value)(sb B:Nat)(s:Sr)(w:World)(hF:Hid (Z5 w lab base (.slice (some ⟨G,0,none⟩) n c) xs pv iv av))(hn:Hid (n=xs.length))(h1:1<=n)(hn2:n<=11)(hbs:base<=w.heap.size)(hfr:Hid (∀b,w.heap.size<=b->lab b=(0,0,0)))(hdr:Hid (Zs w sb B s))(hbb:B<=base)(hV:V<=1000)(hsm:Hid (JK xs))(harg:Hid (∀x∈xs,∀p∈x.phis,0<p.args.length)) :
 Calls Tryz.prog 53 #[.agg #[.int .i64 (V:Int),.slice (some ⟨G,0,none⟩) n c],.pointer (some ⟨sb,0,none⟩)] w fun e w'=>e=.returned (.agg #[.int .i64 (V:Int),.slice (some ⟨G,0,none⟩) n c])/\LsO w w' lab base sb B (ZC V xs s).2 G n c (ZC V xs s).1 pv iv av:=by
 have HP:Hid (ZC V xs s=ZaH xs (nextP s (n:Int)).1.toNat (nextP (nextP s (n:Int)).2 (V:Int)).1 (nextP (nextP s (n:Int)).2 (V:Int)).2):=Xa (by rw[hn.out];rfl);have HS0:Hid (Wc w ((w.alloc (.cells #[.int .i64 (V:Int),.slice (some ⟨G,0,none⟩) n c] 25)).alloc (.cells #[.int .i64 0,.slice none 0 0] 25)) lab base sb B s V G n c xs pv iv av):=Xa (by
  have k:XK w ((w.alloc (.cells #[.int .i64 (V:Int),.slice (some ⟨G,0,none⟩) n c] 25)).alloc (.cells #[.int .i64 0,.slice none 0 0] 25)) lab lab base (fun _=>True):=((XK.box _).trans (XK.box _)).weak (fun _ _=>⟨trivial,trivial⟩);refine⟨hF.sp k 0 (fun _ _ _ _ _=>trivial) (Or.inl (fun _ _=>trivial)),(hdr.box _).box _,hbb,rfl,rfl,rfl,k.size,fun b hb _=>(Below.heap_alloc _ _ _ (by simp;omega)).trans (Below.heap_alloc _ _ _ (by omega)),hfr.out,hbs,(Bx.new _ _ _).box _,?_⟩;have:=Bx.new (w.alloc (.cells #[.int .i64 (V:Int),.slice (some ⟨G,0,none⟩) n c] 25)) #[.int .i64 0,.slice none 0 0] 25;rwa[World.size_alloc]at this)
 clear hF hdr
 go_enter Tryz.func53,Tryz.ntmps53
 have x1:((w.alloc (.cells #[.int .i64 (V:Int),.slice (some ⟨G,0,none⟩) n c] 25)).alloc (.cells #[.int .i64 0,.slice none 0 0] 25)).cell? ⟨w.heap.size,1,none⟩=some (.slice (some ⟨G,0,none⟩) n c):=Bx.cell HS0.box rfl
 go_wp2_with fail
 generalize (w.alloc (.cells #[.int .i64 (V:Int),.slice (some ⟨G,0,none⟩) n c] 25)).alloc (.cells #[.int .i64 0,.slice none 0 0] 25)=w0 at *;refine(Xv sb B s (n:Int) w0 (Xa HS0.dr) (by omega) (by omega)).mono ?_;rintro e w1 ⟨rfl,hd,hg⟩;have hl1:=fun h=>Xx s (n:=(n:Int)) h
 have HS1:=Xa (HS0.call hg hd);obtain⟨rb,s1,hrs⟩:∃r s9,nextP s (n:Int)=(r,s9):=⟨_,_,rfl⟩;rw[hrs]at HS1 HP hl1 |-;dsimp only at HS1 HP hl1 |-;have hlb:=hl1 (by omega);obtain⟨b,rfl⟩:=Zr hlb.1;rw[Int.toNat_natCast]at HP;clear hd hg hrs HS0 x1 hl1;have y0:w1.cell? ⟨w.heap.size,0,none⟩=some (.int .i64 (V:Int)):=Bx.cell HS1.box rfl
 go_wp2_with fail
 refine(Xv sb B s1 (V:Int) w1 (Xa HS1.dr) (by omega) (by omega)).mono ?_;rintro e w2 ⟨rfl,hd,hg⟩;have hl2:=fun h=>Xx s1 (n:=(V:Int)) h
 have HS2:=Xa (HS1.call hg hd);obtain⟨vv,s2,hrs⟩:∃r s9,nextP s1 (V:Int)=(r,s9):=⟨_,_,rfl⟩;rw[hrs]at HS2 HP hl2 |-;dsimp only at HS2 HP hl2 |-;clear hd hg hrs HS1 y0 hl2;have hb:b<xs.length:=by have:=hn.out;omega
 have hbn:b<n:=by omega
 have hxb:xs.getD b XL=xs[b]:=by simp[hb]
 have HSMB:=Xa (hsm.out _ (List.getElem_mem hb));have HAG:=Xa (harg.out _ (List.getElem_mem hb));have x1:w2.cell? ⟨w.heap.size,1,none⟩=some (.slice (some ⟨G,0,none⟩) n c):=Bx.cell HS2.box rfl;obtain⟨p0,p1,⟨t0,t1,t2,t3⟩⟩:=HS2.fn.cells hb;obtain⟨pa,pc,hpv⟩:=(HS2.fn.phis b hb).form;obtain⟨np,hnp⟩:∃np,np=xs[b].phis.length:=⟨_,rfl⟩;rw[<-hnp]at hpv;obtain⟨ia,ic,hiv⟩:=(HS2.fn.ins b hb).form;obtain⟨ni,hni⟩:∃ni,ni=xs[b].instrs.length:=⟨_,rfl⟩;rw[<-hni]at hiv;rw[hpv]at p0;rw[hiv]at p1;have HNP:=Xa hnp;have HNI:=Xa hni;have hni2:ni<=1000:=by have:=HSMB.out;omega
 clear hnp hni
 go_upto_region 4 with fail
 have HSX:=Xa (HS2.alloc (.cells #[.slice pa np pc,.slice ia ni ic,.int .i64 xs[b].term.kind,.int .i64 xs[b].term.a,.int .i64 xs[b].term.to,.int .i64 xs[b].term.els] 43));have HXB:Hid (Bx (w2.alloc (.cells #[.slice pa np pc,.slice ia ni ic,.int .i64 xs[b].term.kind,.int .i64 xs[b].term.a,.int .i64 xs[b].term.to,.int .i64 xs[b].term.els] 43)) w2.heap.size #[.slice pa np pc,.slice ia ni ic,.int .i64 xs[b].term.kind,.int .i64 xs[b].term.a,.int .i64 xs[b].term.to,.int .i64 xs[b].term.els] 43):=Xa (Bx.new _ _ _);have HXL:Hid (w.heap.size+2<=w2.heap.size):=Xa HS2.res.lt;have HSBX:Hid (sb≠w2.heap.size):=Xa (by have:=HS2.lt;have:=HXL.out;omega);clear HS2 x1 p0 p1 t0 t1 t2 t3;generalize w2.alloc (.cells #[.slice pa np pc,.slice ia ni ic,.int .i64 xs[b].term.kind,.int .i64 xs[b].term.a,.int .i64 xs[b].term.to,.int .i64 xs[b].term.els] 43)=wx at *;generalize w2.heap.size=xb at *;have q0:wx.cell? ⟨xb,0,none⟩=some (.slice pa np pc):=Bx.cell HXB.out rfl
 go_cut [31] from 9 to 82 (fun c31 wz=>∃(q:Bool)(s3:Sr),c31=.bool q/\Hid (Wc w wz lab base sb B s3 V G n c xs pv iv av)/\Hid (Bx wz xb #[.slice pa np pc,.slice ia ni ic,.int .i64 xs[b].term.kind,.int .i64 xs[b].term.a,.int .i64 xs[b].term.to,.int .i64 xs[b].term.els] 43)/\Hid (q=true->0<np/\ZC V xs s=(xs.set b (xs[b].setPhi 0 ⟨(xs[b].phis.getD 0 UY).dst,(xs[b].phis.getD 0 UY).args.set (nextP s3 (xs[b].phis.getD 0 UY).args.length).1.toNat vv⟩),(nextP s3 (xs[b].phis.getD 0 UY).args.length).2))/\Hid (q=false->ZC V xs s=TS xs b vv s3))
 case first =>
  rw[ZaH,hxb,<-HNP.out]at HP;by_cases hnp:0<np
  ·have hnpI:(0:Int)<np:=by omega
   rw[if_pos hnp]at HP
   go_wp2_with fail
   refine(Xv sb B s2 3 wx (Xa HSX.dr) (by omega) (by omega)).mono ?_;rintro e w3 ⟨rfl,hd,hg⟩;have hl3:=fun h=>Xx s2 (n:=3) h
   have HS3:=Xa (HSX.call hg hd);obtain⟨r3,s3,hrs⟩:∃r s9,nextP s2 3=(r,s9):=⟨_,_,rfl⟩;rw[hrs]at HS3 HP hl3 |-;dsimp only at HS3 HP hl3 |-;have HX3:Hid (Bx w3 xb #[.slice pa np pc,.slice ia ni ic,.int .i64 xs[b].term.kind,.int .i64 xs[b].term.a,.int .i64 xs[b].term.to,.int .i64 xs[b].term.els] 43):=Xa (HXB.grown hg (fun e=>HSBX.out (by injection e with e;exact e.symm)));clear hd hg hrs hl3;by_cases hr:r3=0
   ·have hrb:(r3==0)=true:=by simpa using hr
    rw[if_pos hr]at HP;clear hr
    go_wp2_with fail
    go_meet;exact⟨true,s3,rfl,HS3,HX3,Xa (fun _=>⟨hnp,HP.out⟩),Xa (fun h=>by cases h)⟩
   ·have hrb:(r3==0)=false:=by simpa using hr
    rw[if_neg hr]at HP;clear hr
    go_wp2_with fail
    go_meet;exact⟨false,s3,rfl,HS3,HX3,Xa (fun h=>by cases h),Xa (fun _=>HP.out)⟩
  ·have hnpI:¬(0:Int)<np:=by omega
   rw[if_neg hnp]at HP
   go_wp2_with fail
   go_meet;exact⟨false,s2,rfl,HSX,HXB,Xa (fun h=>by cases h),Xa (fun _=>HP.out)⟩
 case rest =>
  obtain⟨q,s3,rfl,HS3,HX3,HPT,HPF⟩:=hcut;clear HSX HXB HP q0;generalize wc=w3 at *;cases q with
  | true =>
   have HP0:=Xa (HPT.out rfl);clear HPT HPF;have hnp0:=HP0.1;have HP:Hid (ZC V xs s=(xs.set b (xs[b].setPhi 0 ⟨(xs[b].phis.getD 0 UY).dst,(xs[b].phis.getD 0 UY).args.set (nextP s3 (xs[b].phis.getD 0 UY).args.length).1.toNat vv⟩),(nextP s3 (xs[b].phis.getD 0 UY).args.length).2)):=Xa HP0.2;clear HP0;have hj0:0<xs[b].phis.length:=by have:=HNP.out;omega
   rw[show xs[b].phis.getD 0 UY=xs[b].phis[0] by simp[hj0]]at HP;have hna0:=HAG.out _ (List.getElem_mem hj0);have hna1:=HSMB.2.1 _ (List.getElem_mem hj0);obtain⟨gp,c2,hpv2⟩:=(HS3.fn.phis b hb).got hj0;rw[<-HNP.out,hpv]at hpv2;injection hpv2 with e1 _ e3;subst e1 e3;obtain⟨ga,ac,hav⟩:=(HS3.fn.args b hb 0 hj0).got hna0;obtain⟨na,hna⟩:∃na,na=xs[b].phis[0].args.length:=⟨_,rfl⟩;rw[<-hna]at hav HP hna0 hna1;have HNA:=Xa hna;clear hna;have HCC:Hid (∀W sx,Wc w W lab base sb B sx V G n c xs pv iv av->W.cell? ⟨gp,1,none⟩=some (.slice (some ⟨ga,0,none⟩) na ac)):=Xa (fun W sx hW=>by
    have:=(hW.fn.phiCells hb hj0 hpv).2;rw[hav]at this;simpa using this)
   have q0:w3.cell? ⟨xb,0,none⟩=some (.slice (some ⟨gp,0,none⟩) np pc):=Bx.cell HX3.out rfl;have q1:=HCC.out _ _ HS3.out
   go_wp2_with fail
   refine YZ (fun w'=>w'.cell? ⟨xb,0,none⟩=some (.slice (some ⟨gp,0,none⟩) np pc)/\w'.cell? ⟨gp,1,none⟩=some (.slice (some ⟨ga,0,none⟩) na ac)) (fun hHeld=>?_);refine Xl 0 ?_;refine Xl 1 ?_;refine Xl 2 ?_;refine Xl 3 ?_;refine Xl 4 ?_;refine Xl 5 ?_;refine Xl 6 ?_;refine Xl 7 ?_;refine Xl 8 ?_;refine Xl 9 ?_;refine Xl 10 ?_;refine Xl 11 ?_;refine Xl 13 ?_;refine Xw 12 (fun K hK=>?_);go_simp
   go_at_call 30
   refine(Xv sb B s3 (na:Int) _ (Xa HS3.drew.dr) (by omega) (by omega)).mono ?_;rintro e w4 ⟨rfl,hd,hg⟩;have hlk:=Xx s3 (n:=(na:Int)) (by omega);have HS4:=Xa (HS3.drew.call hg hd);have HX4:Hid (Bx w4 xb #[.slice (some ⟨gp,0,none⟩) np pc,.slice ia ni ic,.int .i64 xs[b].term.kind,.int .i64 xs[b].term.a,.int .i64 xs[b].term.to,.int .i64 xs[b].term.els] 43):=Xa (Bx.grown (w:=w3.drew) HX3.out hg (fun e=>HSBX.out (by injection e with e;exact e.symm)));obtain⟨rk,s4,hrs⟩:∃r s9,nextP s3 (na:Int)=(r,s9):=⟨_,_,rfl⟩;rw[hrs]at HS4 HP hlk |-;dsimp only at HS4 HP hlk |-;obtain⟨kk,rfl⟩:=Zr hlk.1;rw[Int.toNat_natCast]at HP;have hkn:kk<na:=by omega
   have hka:kk<xs[b].phis[0].args.length:=by rw[<-HNA.out];exact hkn
   obtain⟨hf9,hgl,hcell,hz9⟩:=HS4.fn.setArg (k:=kk) (d:=vv) hb hj0 hka hav;have hgb:base<=ga:=((HS4.fn.args b hb 0 hj0).own.lt ga (by rw[hav];rfl)).1;have HS9:=Xa (HS4.put hf9 (by rw[hgl];simp) hgb);have z0:w4.cell? ⟨xb,0,none⟩=some (.slice (some ⟨gp,0,none⟩) np pc):=Bx.cell HX4.out rfl;have z1:=HCC.out _ _ HS4.out;have hpg:gp≠ga:=fun e=>by have:=(HS4.fn.phis b hb).lab gp (by rw[hpv];rfl);rw[e,hgl]at this;simp at this
   have hxg:xb≠ga:=fun e=>by have:=HS4.fr xb (by have:=HXL.out;omega);rw[e,hgl]at this;simp at this
   clear hd hg hrs hf9;refine hK _ _ ⟨z0,z1⟩ (fun hHeld=>?_);clear hK;refine Xl 14 ?_;refine Xw 15 (fun K hK=>?_);go_simp;refine hK _ _ ⟨(Xc (Below.heap_setCell _ _ _ _ hxg)).trans z0,(Xc (Below.heap_setCell _ _ _ _ hpg)).trans z1⟩ (fun hHeld=>?_);clear hK;refine Y7 ?_;clear hHeld z0 z1 q0 q1 hcell hz9;have HS10:=Xa HS9.out;generalize w4.setCell ⟨ga,kk,none⟩ (.int .i64 vv)=w9 at *;have f0:w9.cell? ⟨w.heap.size,0,none⟩=some (.int .i64 (V:Int)):=Bx.cell HS10.box rfl;have f1:w9.cell? ⟨w.heap.size,1,none⟩=some (.slice (some ⟨G,0,none⟩) n c):=Bx.cell HS10.box rfl;have r0:w9.cell? ⟨w.heap.size+1,0,none⟩=some (.int .i64 0):=Bx.cell HS10.res rfl;have r1:w9.cell? ⟨w.heap.size+1,1,none⟩=some (.slice none 0 0):=Bx.cell HS10.res rfl;have rz:=Bx.thaw HS10.res;go_wp2;rw[HP.out];exact bodyPost_ret (v:=.agg #[.int .i64 (V:Int),.slice (some ⟨G,0,none⟩) n c]) (by simp[results,Tryz.results53,go_sem,r0,r1]) rfl ⟨rfl,HS10.done⟩
  | false =>
   have HP:=Xa (HPF.out rfl);clear HPT HPF;rw[TS,hxb,<-HNI.out]at HP;have q1:w3.cell? ⟨xb,1,none⟩=some (.slice ia ni ic):=Bx.cell HX3.out rfl;have q2:w3.cell? ⟨xb,2,none⟩=some (.int .i64 xs[b].term.kind):=Bx.cell HX3.out rfl;by_cases hni:0<ni
   ·have hniI:(0:Int)<ni:=by omega
    rw[if_pos hni]at HP
    go_wp2_with fail
    refine(Xv sb B s3 (ni:Int) w3 (Xa HS3.dr) (by omega) (by omega)).mono ?_;rintro e w4 ⟨rfl,hd,hg⟩;have hl4:=fun h=>Xx s3 (n:=(ni:Int)) h
    have HS4:=Xa (HS3.call hg hd);obtain⟨ri,s4,hrs⟩:∃r s9,nextP s3 (ni:Int)=(r,s9):=⟨_,_,rfl⟩;rw[hrs]at HS4 HP hl4 |-;dsimp only at HS4 HP hl4 |-;have HX4:Hid (Bx w4 xb #[.slice pa np pc,.slice ia ni ic,.int .i64 xs[b].term.kind,.int .i64 xs[b].term.a,.int .i64 xs[b].term.to,.int .i64 xs[b].term.els] 43):=Xa (HX3.grown hg (fun e=>HSBX.out (by injection e with e;exact e.symm)));have hli:=hl4 (by omega);obtain⟨i,rfl⟩:=Zr hli.1;rw[Int.toNat_natCast]at HP;clear hd hg hrs hl4 q1 q2 HS3 HX3;have hil:i<xs[b].instrs.length:=by have:=HNI.out;omega
    have hin:i<ni:=by omega
    rw[show xs[b].instrs.getD i ⟨0,0,0,0,0⟩=xs[b].instrs[i] by simp[hil]]at HP;obtain⟨g,c2,hiv2⟩:=(HS4.fn.ins b hb).got (by omega);rw[<-HNI.out,hiv]at hiv2;injection hiv2 with e1 _ e3;subst e1 e3;have q1:w4.cell? ⟨xb,1,none⟩=some (.slice (some ⟨g,0,none⟩) ni ic):=Bx.cell HX4.out rfl;have q2:w4.cell? ⟨xb,2,none⟩=some (.int .i64 xs[b].term.kind):=Bx.cell HX4.out rfl;obtain⟨hf9,hgl,⟨i0,i1,i2,i3,i4⟩,hz9⟩:=HS4.fn.setInsA (d:=vv) hb hil hiv;have hgb:base<=g:=((HS4.fn.ins b hb).own.lt g (by rw[hiv];rfl)).1;have HS9:=Xa (HS4.put hf9 (by rw[hgl];simp) hgb);clear hf9
    go_wp2_with fail
    refine(Zfd xs[b].instrs[i].op w4).mono ?_;rintro e w5 ⟨rfl,hw5⟩;subst hw5;cases ha:aB xs[b].instrs[i].op with
    | true =>
     rw[if_pos ha]at HP
     go_upto_region 11 with fail
     generalize w5.setCell ⟨g,i*5+2,none⟩ (.int .i64 vv)=w9 at *;have f0:w9.cell? ⟨w.heap.size,0,none⟩=some (.int .i64 (V:Int)):=Bx.cell HS9.box rfl;have f1:w9.cell? ⟨w.heap.size,1,none⟩=some (.slice (some ⟨G,0,none⟩) n c):=Bx.cell HS9.box rfl;have r0:w9.cell? ⟨w.heap.size+1,0,none⟩=some (.int .i64 0):=Bx.cell HS9.res rfl;have r1:w9.cell? ⟨w.heap.size+1,1,none⟩=some (.slice none 0 0):=Bx.cell HS9.res rfl;have rz:=Bx.thaw HS9.res;go_wp2;rw[HP.out];exact bodyPost_ret (v:=.agg #[.int .i64 (V:Int),.slice (some ⟨G,0,none⟩) n c]) (by simp[results,Tryz.results53,go_sem,r0,r1]) rfl ⟨rfl,HS9.done⟩
    | false =>
     rw[if_neg (by rw[ha];simp)]at HP;have HSZ:=HS4;generalize w5=wz at *;clear HS9 i0 i1 i2 i3 i4 hz9 hgl HX4;by_cases hk:xs[b].term.kind=1
     ·have hkb:(xs[b].term.kind != 1)=false:=by simpa using hk
      rw[Kl,hxb,if_neg (fun h=>h hk)]at HP;clear hk;have f0:wz.cell? ⟨w.heap.size,0,none⟩=some (.int .i64 (V:Int)):=Bx.cell HSZ.box rfl;have f1:wz.cell? ⟨w.heap.size,1,none⟩=some (.slice (some ⟨G,0,none⟩) n c):=Bx.cell HSZ.box rfl;have r0:wz.cell? ⟨w.heap.size+1,0,none⟩=some (.int .i64 0):=Bx.cell HSZ.res rfl;have r1:wz.cell? ⟨w.heap.size+1,1,none⟩=some (.slice none 0 0):=Bx.cell HSZ.res rfl;have rz:=Bx.thaw HSZ.res;go_wp2;rw[HP.out];exact bodyPost_ret (v:=.agg #[.int .i64 (V:Int),.slice (some ⟨G,0,none⟩) n c]) (by simp[results,Tryz.results53,go_sem,r0,r1]) rfl ⟨rfl,HSZ.done⟩
     ·have hkb:(xs[b].term.kind != 1)=true:=by simpa using hk
      rw[Kl,hxb,if_pos hk]at HP;clear hk;obtain⟨hf9,hgl,hz9⟩:=HSZ.fn.setTerA (d:=vv) hb;have hgb:base<=G:=(HSZ.fn.blks.own.lt G rfl).1;have HS9:=Xa (HSZ.put hf9 (by rw[hgl];simp) hgb);have x1:wz.cell? ⟨w.heap.size,1,none⟩=some (.slice (some ⟨G,0,none⟩) n c):=Bx.cell HSZ.box rfl;obtain⟨-,-,-,t1,-,-⟩:=HSZ.fn.cells hb;clear hf9 hgl
      go_upto_region 14 with fail
      generalize wz.setCell ⟨G,b*6+2+1,none⟩ (.int .i64 vv)=w9 at *;have f0:w9.cell? ⟨w.heap.size,0,none⟩=some (.int .i64 (V:Int)):=Bx.cell HS9.box rfl;have f1:w9.cell? ⟨w.heap.size,1,none⟩=some (.slice (some ⟨G,0,none⟩) n c):=Bx.cell HS9.box rfl;have r0:w9.cell? ⟨w.heap.size+1,0,none⟩=some (.int .i64 0):=Bx.cell HS9.res rfl;have r1:w9.cell? ⟨w.heap.size+1,1,none⟩=some (.slice none 0 0):=Bx.cell HS9.res rfl;have rz:=Bx.thaw HS9.res;go_wp2;rw[HP.out];exact bodyPost_ret (v:=.agg #[.int .i64 (V:Int),.slice (some ⟨G,0,none⟩) n c]) (by simp[results,Tryz.results53,go_sem,r0,r1]) rfl ⟨rfl,HS9.done⟩
   ·have hniI:¬(0:Int)<ni:=by omega
    rw[if_neg hni]at HP;have HSZ:=HS3;generalize w3=wz at *;clear HX3;by_cases hk:xs[b].term.kind=1
    ·have hkb:(xs[b].term.kind != 1)=false:=by simpa using hk
     rw[Kl,hxb,if_neg (fun h=>h hk)]at HP;clear hk;have f0:wz.cell? ⟨w.heap.size,0,none⟩=some (.int .i64 (V:Int)):=Bx.cell HSZ.box rfl;have f1:wz.cell? ⟨w.heap.size,1,none⟩=some (.slice (some ⟨G,0,none⟩) n c):=Bx.cell HSZ.box rfl;have r0:wz.cell? ⟨w.heap.size+1,0,none⟩=some (.int .i64 0):=Bx.cell HSZ.res rfl;have r1:wz.cell? ⟨w.heap.size+1,1,none⟩=some (.slice none 0 0):=Bx.cell HSZ.res rfl;have rz:=Bx.thaw HSZ.res;go_wp2;rw[HP.out];exact bodyPost_ret (v:=.agg #[.int .i64 (V:Int),.slice (some ⟨G,0,none⟩) n c]) (by simp[results,Tryz.results53,go_sem,r0,r1]) rfl ⟨rfl,HSZ.done⟩
    ·have hkb:(xs[b].term.kind != 1)=true:=by simpa using hk
     rw[Kl,hxb,if_pos hk]at HP;clear hk;obtain⟨hf9,hgl,hz9⟩:=HSZ.fn.setTerA (d:=vv) hb;have hgb:base<=G:=(HSZ.fn.blks.own.lt G rfl).1;have HS9:=Xa (HSZ.put hf9 (by rw[hgl];simp) hgb);have x1:wz.cell? ⟨w.heap.size,1,none⟩=some (.slice (some ⟨G,0,none⟩) n c):=Bx.cell HSZ.box rfl;obtain⟨-,-,-,t1,-,-⟩:=HSZ.fn.cells hb;clear hf9 hgl
     go_upto_region 14 with fail
     generalize wz.setCell ⟨G,b*6+2+1,none⟩ (.int .i64 vv)=w9 at *;have f0:w9.cell? ⟨w.heap.size,0,none⟩=some (.int .i64 (V:Int)):=Bx.cell HS9.box rfl;have f1:w9.cell? ⟨w.heap.size,1,none⟩=some (.slice (some ⟨G,0,none⟩) n c):=Bx.cell HS9.box rfl;have r0:w9.cell? ⟨w.heap.size+1,0,none⟩=some (.int .i64 0):=Bx.cell HS9.res rfl;have r1:w9.cell? ⟨w.heap.size+1,1,none⟩=some (.slice none 0 0):=Bx.cell HS9.res rfl;have rz:=Bx.thaw HS9.res;go_wp2;rw[HP.out];exact bodyPost_ret (v:=.agg #[.int .i64 (V:Int),.slice (some ⟨G,0,none⟩) n c]) (by simp[results,Tryz.results53,go_sem,r0,r1]) rfl ⟨rfl,HS9.done⟩
end Go.Proofs.YtkehcdfalcakmaaGreatDoor
