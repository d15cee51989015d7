import Derived.Test.YtlmgmkmomaileaaGreatDoorMV1
namespace Go.Proofs.YtlmgmkmomaileaaGreatDoor
open Go.RowKit
theorem Un{w:World}{b b' t t':Nat}{cs cs':Array Value}(h:Bx w b cs t)(k:Bx w b' cs' t')(hne:t≠t'):b≠b':=fun e=>by
 subst e;unfold Bx at h k;rw[h]at k;injection k with k;injection k with _ k;exact hne k
theorem JT.below{w w':World}{lab:Nat->Nat × Nat × Nat}{base:Nat}(h:Below w.heap.size w w'):JT w w' lab lab base (fun _=>True) :=
 ⟨h.size,fun b _ h2 _=>⟨h.block b h2,rfl⟩,fun hf b hb=>hf b (Nat.le_trans h.size hb)⟩
structure LwS(w wr:World)(lab:Nat->Nat × Nat × Nat)(V:Int)(a:Option Addr)(n c:Nat)(k:Int)(mb:Nat)(mv sv:Value)(M S:List Xy)(iv jv:Nat->Value):Prop where
 low:Below w.heap.size w wr
 fb:Bx wr w.heap.size #[.int .i64 V,.slice a n c] 33
 rb:Bx wr (w.heap.size+1) #[.int .i64 0,.slice none 0 0] 29
 mbx:Bx wr mb #[.int .i64 k,mv] 29
 mw:w.heap.size+1<mb
 m:TZ wr lab w.heap.size mv 1 3 M iv
 s:TZ wr lab w.heap.size sv 2 4 S jv
 fr:∀q,wr.heap.size<=q->lab q=(0,0,0)
 l0:lab w.heap.size=(0,0,0)/\lab (w.heap.size+1)=(0,0,0)/\lab mb=(0,0,0)
variable {w wr w' : World} {lab lab' : Nat -> Nat × Nat × Nat} {V : Int} {a : Option Addr} {n c : Nat} {k : Int} {mb : Nat} {mv sv : Value} {M S : List Xy} {iv jv : Nat -> Value} {ok : Nat -> Prop}
theorem LwS.sp(h:LwS w wr lab V a n c k mb mv sv M S iv jv)(hl:Below w.heap.size wr w')(hs:JT wr w' lab lab' w.heap.size ok)(h0:∀b,b=w.heap.size\/b=w.heap.size+1\/b=mb->ok b)(h1:∀b,lab b=(1,0,0)\/lab b=(2,0,0)->ok b)(h3:∀b i,i<M.length->lab b=(3,i,0)->ok b)(h4:∀b i,lab b=(4,i,0)->ok b):LwS w w' lab' V a n c k mb mv sv M S iv jv:=by
 have hm:=h.mw;exact⟨h.low.trans hl,h.fb.sp hs (Nat.le_refl _) (h0 _ (Or.inl rfl)),h.rb.sp hs oM (h0 _ (Or.inr (Or.inl rfl))),h.mbx.sp hs oM (h0 _ (Or.inr (Or.inr rfl))),h.mw,h.m.sp hs (fun b e=>h1 b (Or.inl e)) h3,h.s.sp hs (fun b e=>h1 b (Or.inr e)) (fun b i _ e=>h4 b i e),hs.fresh h.fr,
  (hs.same _ (Nat.le_refl _) h.fb.lt (h0 _ (Or.inl rfl))).2.trans h.l0.1,(hs.same _ oM h.rb.lt (h0 _ (Or.inr (Or.inl rfl)))).2.trans h.l0.2.1,(hs.same _ oM h.mbx.lt (h0 _ (Or.inr (Or.inr rfl)))).2.trans h.l0.2.2⟩
theorem LwS.calm(h:LwS w wr lab V a n c k mb mv sv M S iv jv)(hb:Below wr.heap.size wr w'):LwS w w' lab V a n c k mb mv sv M S iv jv :=
 h.sp (hb.mono h.low.size) (JT.below hb) (fun _ _=>trivial) (fun _ _=>trivial) (fun _ _ _ _=>trivial) (fun _ _ _=>trivial)
structure LwX(w wr:World)(lab:Nat->Nat × Nat × Nat)(V:Int)(a:Option Addr)(n c:Nat)(k:Int)(mb:Nat)(mv sv:Value)(M S:List Xy)(iv jv:Nat->Value)(xb:Nat)(xv:Value)(is:List XN)(t:Zu):Prop where
 s:LwS w wr lab V a n c k mb mv sv M S iv jv
 bx:Bx wr xb #[xv,.int .i64 t.kind,.int .i64 t.a,.int .i64 t.to,.int .i64 t.els] 52
 xw:w.heap.size<=xb
 lx:lab xb=(0,0,0)
 row:XJ wr lab (3,M.length,0) w.heap.size 54 5 xv is.length (Y1 is)
variable {xb : Nat} {xv v8 : Value} {is : List XN} {t : Zu} {w8 : World}
theorem LwX.calm(h:LwX w wr lab V a n c k mb mv sv M S iv jv xb xv is t)(hb:Below wr.heap.size wr w'):LwX w w' lab V a n c k mb mv sv M S iv jv xb xv is t :=
 ⟨h.s.calm hb,h.bx.keep (hb.block _ h.bx.lt),h.xw,h.lx,h.row.sp (JT.below hb) (fun _ _=>trivial)⟩
theorem LwX.spT(h:LwX w wr lab V a n c k mb mv sv M S iv jv xb xv is t)(hb:Below wr.heap.size wr w')(hs:JT wr w' lab lab' w.heap.size (fun _=>True)):LwX w w' lab' V a n c k mb mv sv M S iv jv xb xv is t :=
 ⟨h.s.sp (hb.mono h.s.low.size) hs (fun _ _=>trivial) (fun _ _=>trivial) (fun _ _ _ _=>trivial) (fun _ _ _=>trivial),h.bx.keep (hb.block _ h.bx.lt),h.xw,(hs.same _ h.xw h.bx.lt trivial).2.trans h.lx,h.row.sp hs (fun _ _=>trivial)⟩
theorem LwX.turn(h:LwX w wr lab V a n c k mb mv sv M S iv jv xb xv is t)(q:Nat)(u:Value){xv':Value}{t':Zu}(hc:#[xv,.int .i64 t.kind,.int .i64 t.a,.int .i64 t.to,.int .i64 t.els].setIfInBounds q u=#[xv',.int .i64 t'.kind,.int .i64 t'.a,.int .i64 t'.to,.int .i64 t'.els]){is':List XN}(hr:XJ (wr.setCell ⟨xb,q,none⟩ u) lab (3,M.length,0) w.heap.size 54 5 xv' is'.length (Y1 is')) :
 LwX w (wr.setCell ⟨xb,q,none⟩ u) lab V a n c k mb mv sv M S iv jv xb xv' is' t':=by
 have hbx:=h.bx.set q u;rw[hc]at hbx;have n0:=Un h.bx h.s.fb dC;have n1:=Un h.bx h.s.rb dC;have n2:=Un h.bx h.s.mbx dC;have nl:∀b L,lab b=L->L≠(0,0,0)->b≠xb:=fun b L e hL q=>hL (by rw[<-e,q];exact h.lx)
 exact⟨h.s.sp ((Below.refl _ _).setCell h.xw _) (JT.put xb q u) (fun b e=>by rcases e with rfl | rfl | rfl<;>exact fun q=>by first | exact n0 q.symm | exact n1 q.symm | exact n2 q.symm) (fun b e=>by rcases e with e | e<;>exact nl b _ e sP) (fun b i _ e=>nl b _ e sP) (fun b i e=>nl b _ e sP),hbx,h.xw,h.lx,hr⟩
theorem LwX.term(h:LwX w wr lab V a n c k mb mv sv M S iv jv xb xv is t)(q:Nat)(z:Int){t':Zu}(hc:#[xv,.int .i64 t.kind,.int .i64 t.a,.int .i64 t.to,.int .i64 t.els].setIfInBounds q (.int .i64 z)=#[xv,.int .i64 t'.kind,.int .i64 t'.a,.int .i64 t'.to,.int .i64 t'.els]) :
 LwX w (wr.setCell ⟨xb,q,none⟩ (.int .i64 z)) lab V a n c k mb mv sv M S iv jv xb xv is t' :=
 h.turn q (.int .i64 z) hc (h.row.sp (JT.put xb q _) (fun b e q=>by rw[q,h.lx]at e;simp at e))
theorem LwX.push(h:LwX w wr lab V a n c k mb mv sv M S iv jv xb xv is t)(ys:List XN)(hg:wr.grownBy w8 xv.ownBlock)(ho:w8.ownsRow w.heap.size 54 5 v8 (is.length+ys.length) (Y1 is++Y1 ys))(hat:v8.ownBlock=xv.ownBlock\/v8.ownBlock=some wr.heap.size) :
 ∃lab',LwX w (w8.setCell ⟨xb,0,none⟩ v8) lab' V a n c k mb mv sv M S iv jv xb v8 (is++ys) t/\Bx w8 xb #[xv,.int .i64 t.kind,.int .i64 t.a,.int .i64 t.to,.int .i64 t.els] 52/\LwS w w8 lab' V a n c k mb mv sv M S iv jv:=by
 obtain⟨lab',hr,hs⟩:=h.row.grow hg ho hat h.s.fr;have hne:∀b,lab b=(0,0,0)->lab b≠(3,M.length,0):=fun b e q=>by rw[e]at q;simp at q
 have hlow:Below w.heap.size wr w8:=⟨hg.os,hg.tape,hg.output,hg.size,fun q hq=>hg.block q (Nat.lt_of_lt_of_le hq h.s.low.size) (fun e=>by have:=(h.row.own.lt q e.symm).1;omega)⟩;have hS:LwS w w8 lab' V a n c k mb mv sv M S iv jv:=h.s.sp hlow hs (fun b e=>by rcases e with rfl | rfl | rfl;exact hne _ h.s.l0.1;exact hne _ h.s.l0.2.1;exact hne _ h.s.l0.2.2) (fun b e q=>by rcases e with e | e<;>(rw[e]at q;simp at q)) (fun b i hi e q=>by rw[e]at q;simp at q;omega) (fun b i e q=>by rw[e]at q;simp at q);have hx8:Bx w8 xb #[xv,.int .i64 t.kind,.int .i64 t.a,.int .i64 t.to,.int .i64 t.els] 52:=h.bx.sp hs h.xw (hne _ h.lx);have lx8:lab' xb=(0,0,0):=(hs.same _ h.xw h.bx.lt (hne _ h.lx)).2.trans h.lx;have e1:(is++ys).length=is.length+ys.length:=List.length_append;have hr2:XJ w8 lab' (3,M.length,0) w.heap.size 54 5 v8 (is++ys).length (Y1 (is++ys)):=by rw[e1,Z9];exact hr
 refine⟨lab',?_,hx8,hS⟩;have hbx:=hx8.set 0 v8;have n0:=Un hx8 hS.fb dC;have n1:=Un hx8 hS.rb dC;have n2:=Un hx8 hS.mbx dC;have nl:∀b L,lab' b=L->L≠(0,0,0)->b≠xb:=fun b L e hL q=>hL (by rw[<-e,q];exact lx8)
 exact⟨hS.sp ((Below.refl _ _).setCell h.xw _) (JT.put xb 0 v8) (fun b e=>by rcases e with rfl | rfl | rfl<;>exact fun q=>by first | exact n0 q.symm | exact n1 q.symm | exact n2 q.symm) (fun b e=>by rcases e with e | e<;>exact nl b _ e sP) (fun b i _ e=>nl b _ e sP) (fun b i e=>nl b _ e sP),hbx,h.xw,lx8,hr2.sp (JT.put xb 0 v8) (fun b e=>nl b _ e sP)⟩
theorem LwX.side(h:LwX w wr lab V a n c k mb mv sv M S iv jv xb xv is t)(x:Xy){q:Value}{o:Obj}(hq:XJ wr lab (4,S.length,0) w.heap.size 54 5 q x.instrs.length (Y1 x.instrs))(hg:(wr.alloc o).grownBy w8 sv.ownBlock)(ho:w8.ownsRow w.heap.size 52 5 v8 (S.length+1) (Jv jv S++Ui q x.term))(hat:v8.ownBlock=sv.ownBlock\/v8.ownBlock=some (wr.alloc o).heap.size) :
 ∃lab',LwX w w8 lab' V a n c k mb mv v8 M (S++[x]) iv (fun i=>if i=S.length then q else jv i) xb xv is t:=by
 have hA:=h.calm (Xb (Below.refl wr.heap.size wr) o);have hqA:=hq.sp (JT.below (Xb (Below.refl wr.heap.size wr) o)) (fun _ _=>trivial);obtain⟨lab',hM,hs⟩:=hA.s.s.push dC x hqA hg ho hat hA.s.fr;have hne:∀b,lab b=(0,0,0)->lab b≠(2,0,0):=fun b e q=>by rw[e]at q;simp at q
 have hlow:Below w.heap.size (wr.alloc o) w8:=⟨hg.os,hg.tape,hg.output,hg.size,fun q hq=>hg.block q (Nat.lt_of_lt_of_le hq hA.s.low.size) (fun e=>by have:=(hA.s.s.blks.own.lt q e.symm).1;omega)⟩;have hm:=h.s.mw;refine⟨lab',⟨hA.s.low.trans hlow,hA.s.fb.sp hs (Nat.le_refl _) (hne _ hA.s.l0.1),hA.s.rb.sp hs oM (hne _ hA.s.l0.2.1),hA.s.mbx.sp hs oM (hne _ hA.s.l0.2.2),h.s.mw,hA.s.m.sp hs (fun b e q=>by rw[e]at q;simp at q) (fun b i _ e q=>by rw[e]at q;simp at q),hM,hs.fresh hA.s.fr,(hs.same _ (Nat.le_refl _) hA.s.fb.lt (hne _ hA.s.l0.1)).2.trans hA.s.l0.1,(hs.same _ oM hA.s.rb.lt (hne _ hA.s.l0.2.1)).2.trans hA.s.l0.2.1,(hs.same _ oM hA.s.mbx.lt (hne _ hA.s.l0.2.2)).2.trans hA.s.l0.2.2⟩,hA.bx.sp hs h.xw (hne _ hA.lx),h.xw,(hs.same _ h.xw hA.bx.lt (hne _ hA.lx)).2.trans hA.lx,hA.row.sp hs (fun b e q=>by rw[e]at q;simp at q)⟩
theorem LwX.done(h:LwX w wr lab V a n c k mb mv sv M S iv jv xb xv is t){o:Obj}(hg:(wr.alloc o).grownBy w8 mv.ownBlock)(ho:w8.ownsRow w.heap.size 52 5 v8 (M.length+1) (Jv iv M++Ui xv t))(hat:v8.ownBlock=mv.ownBlock\/v8.ownBlock=some (wr.alloc o).heap.size) :
 ∃lab',LwS w (w8.setCell ⟨mb,1,none⟩ v8) lab' V a n c k mb v8 sv (M++[⟨is,t⟩]) S (fun i=>if i=M.length then xv else iv i) jv/\Bx w8 mb #[.int .i64 k,mv] 29:=by
 have hA:=h.calm (Xb (Below.refl wr.heap.size wr) o);obtain⟨lab',hM,hs⟩:=hA.s.m.push dC ⟨is,t⟩ hA.row hg ho hat hA.s.fr;have hne:∀b,lab b=(0,0,0)->lab b≠(1,0,0):=fun b e q=>by rw[e]at q;simp at q
 have hlow:Below w.heap.size (wr.alloc o) w8:=⟨hg.os,hg.tape,hg.output,hg.size,fun q hq=>hg.block q (Nat.lt_of_lt_of_le hq hA.s.low.size) (fun e=>by have:=(hA.s.m.blks.own.lt q e.symm).1;omega)⟩;have hm:=h.s.mw;have l0:=(hs.same _ (Nat.le_refl _) hA.s.fb.lt (hne _ hA.s.l0.1)).2.trans hA.s.l0.1;have l1:=(hs.same _ oM hA.s.rb.lt (hne _ hA.s.l0.2.1)).2.trans hA.s.l0.2.1;have l2:=(hs.same _ oM hA.s.mbx.lt (hne _ hA.s.l0.2.2)).2.trans hA.s.l0.2.2;have hf8:=hA.s.fb.sp hs (Nat.le_refl _) (hne _ hA.s.l0.1);have hr8:=hA.s.rb.sp hs oM (hne _ hA.s.l0.2.1);have hm8:=hA.s.mbx.sp hs oM (hne _ hA.s.l0.2.2);have hs8:=hA.s.s.sp hs (fun b e q=>by rw[e]at q;simp at q) (fun b i _ e q=>by rw[e]at q;simp at q);have nl:∀b L,lab' b=L->L≠(0,0,0)->b≠mb:=fun b L e hL q=>hL (by rw[<-e,q];exact l2)
 have hp:=JT.put (w:=w8) (lab:=lab') (base:=w.heap.size) mb 1 v8;exact⟨lab',⟨(hA.s.low.trans hlow).setCell (p:=⟨mb,1,none⟩) (by show w.heap.size<=mb;omega) _,hf8.other (fun e=>oM),hr8.other (fun e=>oM),hm8.set 1 v8,hm,hM.sp hp (fun b e=>nl b _ e sP) (fun b i _ e=>nl b _ e sP),hs8.sp hp (fun b e=>nl b _ e sP) (fun b i _ e=>nl b _ e sP),hp.fresh (hs.fresh hA.s.fr),l0,l1,l2⟩,hm8⟩
def LwQ(w wr:World)(V:Int)(a:Option Addr)(n c:Nat)(k:Int)(mb:Nat)(mv sv:Value)(M S:List Xy)(iv jv:Nat->Value)(xb:Nat)(is:List XN)(t:Zu):Prop:=∃lab xv,LwX w wr lab V a n c k mb mv sv M S iv jv xb xv is t
def LwZ(w wr:World)(V:Int)(a:Option Addr)(n c:Nat)(k:Int)(mb:Nat)(mv sv:Value)(M:List Xy)(iv:Nat->Value)(xb:Nat)(S:List Xy)(is:List XN)(t:Zu):Prop:=∃lab xv jv,LwX w wr lab V a n c k mb mv sv M S iv jv xb xv is t
def LwH(w wr:World)(V:Int)(a:Option Addr)(n c:Nat)(k:Int)(mb:Nat)(sv:Value)(M S:List Xy):Prop:=∃lab mv iv jv,LwS w wr lab V a n c k mb mv sv M S iv jv/\sv≠.slice none 0 0
end Go.Proofs.YtlmgmkmomaileaaGreatDoor
namespace Go.Proofs.YtlmgmkmomaileaaGreatDoor
set_option maxHeartbeats 4000000
set_option maxRecDepth 100000
open Go.RowKit
theorem Tryz.infoLI:(Tryz.prog.info? 54).map (fun i=>(i.zero,i.size,i.bytes))=some (some (.agg #[.int .i64 0,.int .i64 0,.int .i64 0,.int .i64 0,.int .i64 0]),5,40):=vZ
theorem Tryz.infoLM:(Tryz.prog.info? 52).map (fun i=>(i.zero,i.size,i.bytes))=some (some (.agg #[.slice none 0 0,.int .i64 0,.int .i64 0,.int .i64 0,.int .i64 0]),5,56):=vZ
theorem Zip(V:Int)(a:Option Addr)(n c:Nat)(ac:Option Addr)(nc cc:Nat)(k:Int)(b:Bool)(w:World)(hb:Hid (1<=k->k<=64->b=false))
 (HPC:Hid (∀W,Below w.heap.size w W->Calls Tryz.prog 17 #[.agg #[.int .i64 V,.slice a n c],.slice ac nc cc,.int .i64 k] W fun e w'=>e=.returned (.bool b)/\Below W.heap.size W w')) :
 Calls Tryz.prog 5 #[.agg #[.int .i64 V,.slice a n c],.slice ac nc cc,.int .i64 k] w fun e w'=>e=.returned (.agg #[.int .i64 0,.slice none 0 0])/\Below w.heap.size w w':=by
 by_cases h1:k<1
 ·go_enter Tryz.func5,Tryz.ntmps5
  go_wp2;refine bodyPost_ret (v:=.agg #[.int .i64 0,.slice none 0 0]) (by simp[results,Tryz.results5,go_sem]) rfl ⟨rfl,?_⟩;exact Xb (Xb (Below.refl _ _) _) _
 ·by_cases h2:64<k
  ·go_enter Tryz.func5,Tryz.ntmps5
   go_wp2;refine bodyPost_ret (v:=.agg #[.int .i64 0,.slice none 0 0]) (by simp[results,Tryz.results5,go_sem]) rfl ⟨rfl,?_⟩;exact Xb (Xb (Below.refl _ _) _) _
  ·have hbf:=hb.out oM oM
   subst hbf
   go_enter Tryz.func5,Tryz.ntmps5
   go_wp2_with fail
   refine(HPC.out _ (Xb (Xb (Below.refl _ _) _) _)).mono ?_;rintro e w1 ⟨rfl,hb1⟩;have hR:Bx w1 (w.heap.size+1) #[.int .i64 0,.slice none 0 0] 29:=(by have:=Bx.new (w.alloc (.cells #[.int .i64 V,.slice a n c] 33)) #[.int .i64 0,.slice none 0 0] 29;rw[World.size_alloc]at this;exact this.keep (hb1.block _ sP));have r0:w1.cell? ⟨w.heap.size+1,0,none⟩=some (.int .i64 0):=Bx.cell hR rfl;have r1:w1.cell? ⟨w.heap.size+1,1,none⟩=some (.slice none 0 0):=Bx.cell hR rfl;have rz:=Bx.thaw hR;have HB1:=Xa (Xd (Xb (Xb (Below.refl w.heap.size w) _) _) hb1);clear hb1 hR;go_wp2;refine bodyPost_ret (v:=.agg #[.int .i64 0,.slice none 0 0]) (by simp[results,Tryz.results5,go_sem,r0,r1]) rfl ⟨rfl,?_⟩;exact(HB1.setCell (p:=⟨w.heap.size+1,0,none⟩) sP _).setCell (p:=⟨w.heap.size+1,1,none⟩) sP _
def ZcX:Code->List Code
 | .loop c=>[c]
 | .seq a b=>ZcX a++ZcX b
 | .block _ c=>ZcX c
 | .scope c=>ZcX c
 | .cond _ a b=>ZcX a++ZcX b
 | _=>[]
noncomputable def Zlc:Code:=(ZcX (Tryz.f5.body.getD .skip)).getD 0 .skip
noncomputable def Zly:Code:=(ZcX Zlc).getD 0 .skip
theorem ZeQ(T:Type):∀(tl:List T)(k:Nat)(f:Nat->T),(∀i (h:i<tl.length),f (k+i)=tl[i])->tl=(List.range' k tl.length).map f
 | [],_,_,_=>rfl
 | x::tl,k,f,h=>by
  rw[List.length_cons,List.range'_succ,List.map_cons];have h0:=h 0 sP;rw[Nat.add_zero,List.getElem_cons_zero]at h0;rw[h0];congr 1;exact ZeQ T tl (k+1) f (fun i hi=>by have:=h (i+1) (by simpa using hi);rwa[List.getElem_cons_succ,show k+(i+1)=k+1+i by omega]at this)
theorem Zfl(f:Nat->Value):(List.range' 13 155).map f=(f 13::f 14::f 15::f 16::f 17::f 18::f 19::f 20::f 21::f 22::f 23::f 24::f 25::f 26::f 27::f 28::f 29::f 30::f 31::f 32::f 33::f 34::f 35::f 36::f 37::f 38::f 39::f 40::f 41::f 42::f 43::f 44::f 45::f 46::f 47::f 48::f 49::f 50::f 51::f 52::f 53::f 54::f 55::f 56::f 57::f 58::f 59::f 60::f 61::f 62::f 63::f 64::f 65::f 66::f 67::f 68::f 69::f 70::f 71::f 72::f 73::f 74::f 75::f 76::f 77::f 78::f 79::f 80::f 81::f 82::f 83::f 84::f 85::f 86::f 87::f 88::f 89::f 90::f 91::f 92::f 93::f 94::f 95::f 96::f 97::f 98::f 99::f 100::f 101::f 102::f 103::f 104::f 105::f 106::f 107::f 108::f 109::f 110::f 111::f 112::f 113::f 114::f 115::f 116::f 117::f 118::f 119::f 120::f 121::f 122::f 123::f 124::f 125::f 126::f 127::f 128::f 129::f 130::f 131::f 132::f 133::f 134::f 135::f 136::f 137::f 138::f 139::f 140::f 141::f 142::f 143::f 144::f 145::f 146::f 147::f 148::f 149::f 150::f 151::f 152::f 153::f 154::f 155::f 156::f 157::f 158::f 159::f 160::f 161::f 162::f 163::f 164::f 165::f 166::f 167::[]):=rfl
theorem ZiB(tl:List Value)(h:tl.length=155):∃f:Nat->Value,tl=(f 13::f 14::f 15::f 16::f 17::f 18::f 19::f 20::f 21::f 22::f 23::f 24::f 25::f 26::f 27::f 28::f 29::f 30::f 31::f 32::f 33::f 34::f 35::f 36::f 37::f 38::f 39::f 40::f 41::f 42::f 43::f 44::f 45::f 46::f 47::f 48::f 49::f 50::f 51::f 52::f 53::f 54::f 55::f 56::f 57::f 58::f 59::f 60::f 61::f 62::f 63::f 64::f 65::f 66::f 67::f 68::f 69::f 70::f 71::f 72::f 73::f 74::f 75::f 76::f 77::f 78::f 79::f 80::f 81::f 82::f 83::f 84::f 85::f 86::f 87::f 88::f 89::f 90::f 91::f 92::f 93::f 94::f 95::f 96::f 97::f 98::f 99::f 100::f 101::f 102::f 103::f 104::f 105::f 106::f 107::f 108::f 109::f 110::f 111::f 112::f 113::f 114::f 115::f 116::f 117::f 118::f 119::f 120::f 121::f 122::f 123::f 124::f 125::f 126::f 127::f 128::f 129::f 130::f 131::f 132::f 133::f 134::f 135::f 136::f 137::f 138::f 139::f 140::f 141::f 142::f 143::f 144::f 145::f 146::f 147::f 148::f 149::f 150::f 151::f 152::f 153::f 154::f 155::f 156::f 157::f 158::f 159::f 160::f 161::f 162::f 163::f 164::f 165::f 166::f 167::[]):=by
 have e:=ZeQ Value tl 13 (fun i=>tl.getD (i-13) undef) (fun i hi=>by simp[hi]);rw[h]at e;exact⟨fun i=>tl.getD (i-13) undef,e.trans (Zfl _)⟩
structure XL where
 j:Nat
 tl:List Value
theorem loI{Q:Exit->Act->World->Prop}(V:Nat)(gb ob n c:Nat)(L B:Nat)(ac:Option Addr)(nc cc:Nat)(cs:List Int)(Lc Bc:Nat)(k:Int)(w:World)(b mb:Nat)(mv sv:Value)(M S:List Xy)(iv jv:Nat->Value)(xb:Nat)(ys:List XN)(tt:Zu)(ia:Option Addr)(ic:Nat)(c0 c2 c4 c5 c6 c7 c8 c9:Value)
 (hQ:Hid (∀c (a:Act) t v w,Q (.panic c) (a.put (some t) v) w->Q (.panic c) a w)) (hB:B<=w.heap.size) (hc:Hid (Xf w Lc Bc ac cs)) (hcx:Hid (nc=cs.length)) (hcV:Hid (nc=V)) (hBc:Bc<=w.heap.size) (hbn:b<n)
 (HKW:Hid (∀W,Below w.heap.size w W->W.cell? ⟨gb,ob+b*6+1,none⟩=some (.slice ia ys.length ic)/\X0 W L B ia ys))
 (HOI:Hid (∀y∈ys,(∀v∈rdI y,0<=v/\v<V)/\(∀v∈writesI y,0<=v/\v<V))) (hil:ys.length<=1048576)
 (hexit:∀(tl:List Value)(w':World),tl.length=155->Hid (LwQ w w' (V:Int) (some ⟨gb,ob,none⟩) n c k mb mv sv M S iv jv xb ((ys.map (YC cs)).take ys.length) tt)->Q (.exit 2) ⟨(c0::.slice ac nc cc::c2::.pointer (some ⟨w.heap.size,0,none⟩)::c4::c5::c6::c7::c8::c9::.int .i64 (b:Int)::.pointer (some ⟨xb,0,none⟩)::.int .i64 ((ys.length:Nat):Int)::tl).toArray,[]⟩ w')
 (tl:List Value) (wr:World) (hl:tl.length=155) (h:Hid (LwQ w wr (V:Int) (some ⟨gb,ob,none⟩) n c k mb mv sv M S iv jv xb ((ys.map (YC cs)).take 0) tt)) :
 Code.wp Tryz.prog (Code.loop Zly) Q ⟨(c0::.slice ac nc cc::c2::.pointer (some ⟨w.heap.size,0,none⟩)::c4::c5::c6::c7::c8::c9::.int .i64 (b:Int)::.pointer (some ⟨xb,0,none⟩)::.int .i64 ((0:Nat):Int)::tl).toArray,[]⟩ wr:=by
 have HX:=Xa hexit;clear hexit;obtain⟨i0,hi0,hz0,hz1,hz2⟩:=info_parts Tryz.infoLI;have hb0:(0:Int)<=(b:Int):=oM;have hltI:(b:Int)<(n:Int):=oM;refine wp_loop (fun a' wr=>∃x:XL,a'=⟨(c0::.slice ac nc cc::c2::.pointer (some ⟨w.heap.size,0,none⟩)::c4::c5::c6::c7::c8::c9::.int .i64 (b:Int)::.pointer (some ⟨xb,0,none⟩)::.int .i64 ((x.j:Nat):Int)::x.tl).toArray,[]⟩/\x.tl.length=155/\x.j<=ys.length/\Hid (LwQ w wr (V:Int) (some ⟨gb,ob,none⟩) n c k mb mv sv M S iv jv xb ((ys.map (YC cs)).take x.j) tt)) (fun a' _=>ys.length-(intOf (a'.tmps.getD 12 undef)).toNat) ⟨⟨0,tl⟩,rfl,hl,Nat.zero_le _,h⟩ ?_;clear h hl;rintro a' wr ⟨⟨j,tl⟩,rfl,hl,hj,HQ⟩;dsimp only at hl hj HQ |-
 conv=>arg 2;whnf
 obtain⟨f,rfl⟩:=ZiB tl hl;clear hl;obtain⟨lab,xv,hX⟩:=HQ.out;have HX1:=Xa hX;clear HX1;obtain⟨k1,hin⟩:=HKW.out wr hX.s.low;have f1:wr.cell? ⟨w.heap.size,1,none⟩=some (.slice (some ⟨gb,ob,none⟩) n c):=Bx.cell hX.s.fb rfl;by_cases hjl:j<ys.length
 ·have hjI:(j:Int)<(ys.length:Int):=oM
  obtain⟨pb,po,rfl,⟨_,hpB⟩,hcI⟩:=hin j hjl;have HJ:Hid ((ys.map (YC cs)).take (j+1)=(ys.map (YC cs)).take j++[YC cs ys[j]]):=Xa (by
   rw[List.take_succ_eq_append_getElem (by simpa using hjl)];simp)
  have HTL:Hid (((ys.map (YC cs)).take j).length=j):=Xa (by rw[List.length_take,List.length_map];omega);have HOJ:=Xa (HOI.out _ (List.getElem_mem hjl));generalize ys[j]=Y at *;obtain⟨g0,g1,g2,g3,g4⟩:=hcI;obtain⟨xa,xc,hxv⟩:=hX.row.form;rw[HTL.out]at hxv;subst hxv;have HLX:=Xa hX;have x0:wr.cell? ⟨xb,0,none⟩=some (.slice xa j xc):=Bx.cell hX.bx rfl;have HSC:Hid (∀W,Bx W w.heap.size #[.int .i64 (V:Int),.slice (some ⟨gb,ob,none⟩) n c] 33->Below w.heap.size w W->W.cell? ⟨w.heap.size,1,none⟩=some (.slice (some ⟨gb,ob,none⟩) n c)/\W.cell? ⟨gb,ob+b*6+1,none⟩=some (.slice (some ⟨pb,po,none⟩) ys.length ic)/\W.cell? ⟨pb,po+j*5,none⟩=some (.int .i64 Y.op)/\W.cell? ⟨pb,po+j*5+1,none⟩=some (.int .i64 Y.dst)/\W.cell? ⟨pb,po+j*5+2,none⟩=some (.int .i64 Y.a)/\W.cell? ⟨pb,po+j*5+3,none⟩=some (.int .i64 Y.b)/\W.cell? ⟨pb,po+j*5+4,none⟩=some (.int .i64 Y.imm)):=Xa (fun W hF hW=>by
   have cc:=fun o=>(hW.cell (p:=⟨pb,o,none⟩) (show pb<w.heap.size by omega)).trans (HLX.s.low.cell (p:=⟨pb,o,none⟩) (show pb<w.heap.size by omega)).symm
   exact⟨Bx.cell hF rfl,(HKW.out W hW).1,(cc _).trans g0,(cc _).trans g1,(cc _).trans g2,(cc _).trans g3,(cc _).trans g4⟩)
  have HXD:=Xa (HLX.calm (Below.refl wr.heap.size wr).drew);have HC1:=Xa (hc.keep (HXD.s.low.mono hBc));have hBw:Bc<=wr.drew.heap.size:=Nat.le_trans hBc HLX.s.low.size;have HD1:Hid (dB Y.op=true->0<=Y.dst/\Y.dst<nc):=Xa (fun h=>by have:=HOJ.2 Y.dst (by simp[writesI,h]);rw[hcV.out];exact this);have HA1:Hid (aB Y.op=true->0<=Y.a/\Y.a<nc):=Xa (fun h=>by have:=HOJ.1 Y.a (by simp[rdI,h]);rw[hcV.out];exact this);have HB1':Hid (bB Y.op=true->0<=Y.b/\Y.b<nc):=Xa (fun h=>by have:=HOJ.1 Y.b (by simp[rdI,h]);rw[hcV.out];exact this);have hwz2:w.heap.size<=wr.heap.size:=HLX.s.low.size;clear hX;go_wp2;refine Z1 (fun w'=>w'.cell? ⟨w.heap.size,1,none⟩=some (.slice (some ⟨gb,ob,none⟩) n c)/\w'.cell? ⟨gb,ob+b*6+1,none⟩=some (.slice (some ⟨pb,po,none⟩) ys.length ic)/\w'.cell? ⟨pb,po+j*5,none⟩=some (.int .i64 Y.op)/\w'.cell? ⟨pb,po+j*5+1,none⟩=some (.int .i64 Y.dst)/\w'.cell? ⟨pb,po+j*5+2,none⟩=some (.int .i64 Y.a)/\w'.cell? ⟨pb,po+j*5+3,none⟩=some (.int .i64 Y.b)/\w'.cell? ⟨pb,po+j*5+4,none⟩=some (.int .i64 Y.imm)) (fun hHeld=>?_);refine KC 0 ?_;refine KC 2 ?_;refine KC 3 ?_;refine KC 4 ?_;refine KC 5 ?_;refine KC 6 ?_;refine KC 7 ?_;refine KC 8 ?_;refine KC 9 ?_;refine KC 10 ?_;refine KC 11 ?_;refine wpAnyH_ready (rs:=[1,12]) vZ sP ?_;refine(AllReadyH.cons rfl (fun K hK=>?_) (AllReadyH.cons rfl (fun K hK=>?_) AllReadyH.nil))
  focus
   go_simp;refine hK _ _ kP (fun hHeld=>?_);clear hK
   try simp only[Act.put,xA,xB,xC,xD,xE,xF]
   refine Xt 12 (fun K hK=>?_);go_simp
   go_at_call 18
   refine(Ve Y ac nc cc cs Lc Bc _ HC1 hcx hBw HD1 HA1 HB1' ).mono ?_;rintro e w1 ⟨rfl,hb1⟩;have HX1:=Xa (HXD.calm hb1);have s1:=HSC.out w1 HX1.s.fb HX1.s.low;have x1:w1.cell? ⟨xb,0,none⟩=some (.slice xa j xc):=Bx.cell HX1.bx rfl;have x2:=fun o=>(World.cell?_alloc_lt w1 o ⟨xb,0,none⟩ HX1.bx.lt).trans x1
   clear hb1;dsimp only;refine hK _ _ s1 (fun hHeld=>?_);clear hK;refine Xt 13 (fun K hK=>?_);go_simp;refine hK _ _ kP (fun hHeld=>?_);clear hK
  rotate_left
  focus
   go_simp
   go_at_call 18
   refine(Ve Y ac nc cc cs Lc Bc _ HC1 hcx hBw HD1 HA1 HB1' ).mono ?_;rintro e w1 ⟨rfl,hb1⟩;have HX1:=Xa (HXD.calm hb1);have s1:=HSC.out w1 HX1.s.fb HX1.s.low;have x1:w1.cell? ⟨xb,0,none⟩=some (.slice xa j xc):=Bx.cell HX1.bx rfl;have x2:=fun o=>(World.cell?_alloc_lt w1 o ⟨xb,0,none⟩ HX1.bx.lt).trans x1
   clear hb1;dsimp only;refine hK _ _ s1 (fun hHeld=>?_);clear hK
   try simp only[Act.put,xA,xB,xC,xD,xE,xF]
   refine wpAnyH_ready (rs:=[1,13]) vZ sP ?_;refine(AllReadyH.cons rfl (fun K hK=>?_) (AllReadyH.cons rfl (fun K hK=>?_) AllReadyH.nil))
   focus
    go_simp;refine hK _ _ kP (fun hHeld=>?_);clear hK
    try simp only[Act.put,xA,xB,xC,xD,xE,xF]
    refine Xt 13 (fun K hK=>?_);go_simp;refine hK _ _ kP (fun hHeld=>?_);clear hK
   rotate_left
   focus
    go_simp;refine hK _ _ kP (fun hHeld=>?_);clear hK
    try simp only[Act.put,xA,xB,xC,xD,xE,xF]
    refine Xt 1 (fun K hK=>?_);go_simp;refine hK _ _ kP (fun hHeld=>?_);clear hK
  all_goals (
   have HX2:=Xa (HX1.calm (Xb (Below.refl w1.heap.size w1) (.cells #[.int .i64 (YC cs Y).op,.int .i64 (YC cs Y).dst,.int .i64 (YC cs Y).a,.int .i64 (YC cs Y).b,.int .i64 (YC cs Y).imm] 54)));refine Xt 14 (fun K hK=>?_);refine Yf rfl _ _ 46 rfl w.heap.size 54 i0 (.agg #[.int .i64 0,.int .i64 0,.int .i64 0,.int .i64 0,.int .i64 0]) 5 40 Tryz.underlying46 hi0 hz0 hz1 hz2 rfl dC (.slice xa j xc) j (Y1 ((ys.map (YC cs)).take j)) rfl ?s1 ⟨w1.heap.size,0,none⟩ 1 1 [.int .i64 (YC cs Y).op,.int .i64 (YC cs Y).dst,.int .i64 (YC cs Y).a,.int .i64 (YC cs Y).b,.int .i64 (YC cs Y).imm] rfl rfl ?s2 ?s3 ?s4 ?s5 ?s6 ?_
   case s1=>have:=HX2.row.own;rw[HTL.out]at this;exact this
   case s2=>exact World.news_of_block (World.alloc_heap_new _ _)
   case s3=>intro u hu;simp at hu;rcases hu with rfl | rfl | rfl | rfl | rfl<;>rfl
   case s4=>unfold maxLen;omega
   case s5=>omega
   case s6=>have:=HX1.s.low.size;simp;omega
   intro v8 w8 hown8 hg8 _ hat8;obtain⟨lab8,hX8,hx8,hS8⟩:=HX2.push [YC cs Y] hg8 (by rw[HTL.out];exact hown8) hat8;obtain⟨g8,c8,rfl,_,_⟩:=XC hown8 oM;have s8:=HSC.out w8 hS8.fb hS8.low;have s9:=HSC.out _ hX8.s.fb hX8.s.low;have k0:w8.cell? ⟨xb,0,none⟩=some (.slice xa j xc):=Bx.cell hx8 rfl;have kz:=Bx.thaw hx8;have HX8:Hid (LwQ w (w8.setCell ⟨xb,0,none⟩ (.slice (some ⟨g8,0,none⟩) (j+1) c8)) (V:Int) (some ⟨gb,ob,none⟩) n c k mb mv sv M S iv jv xb ((ys.map (YC cs)).take (j+1)) tt):=Xa ⟨lab8,_,by rw[HJ.out];exact hX8⟩;clear hown8 hg8 hat8 hX8 hx8 hS8 x0 x1 x2 HX1 HX2;refine hK _ _ s8 (fun hHeld=>?_);clear hK;refine KC 15 ?_;refine Xt 16 (fun K hK=>?_);go_simp;refine hK _ _ s9 (fun hHeld=>?_);clear hK;refine YA ?_;clear hHeld k0 kz s8 s9;go_wp2;refine⟨⟨⟨j+1,_⟩,rfl,rfl,(by show j+1<=ys.length;omega),HX8⟩,by simp[intOf];omega⟩)
 ·have hjI:¬(j:Int)<(ys.length:Int):=oM
  have hje:j=ys.length:=oM;subst hje
  go_wp2_with fail
  exact HX.out _ _ rfl HQ
end Go.Proofs.YtlmgmkmomaileaaGreatDoor
