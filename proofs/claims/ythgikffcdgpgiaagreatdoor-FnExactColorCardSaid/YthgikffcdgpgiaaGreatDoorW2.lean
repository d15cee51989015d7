import Derived.Deep.RegionWith
import Derived.Deep.DrawnRows
import Derived.Test.YthgikffcdgpgiaaGreatDoorW10
namespace Go.Proofs.YthgikffcdgpgiaaGreatDoor
set_option maxHeartbeats 1000000
open Go.RowKit
section
attribute [local go_sem ↓] Go.wp_at_zero Go.wp_at_succ
theorem UK(a a':Option Addr)(n c c':Nat)(xs:List Int)(L B L' B':Nat)(w:World)(ha:Hid (Xg w L B a xs))(hb:Hid (Xg w L' B' a' xs))(hx:Hid (n=xs.length))(hn:n<=1048576)(hB:B<=w.heap.size)(hB':B'<=w.heap.size) :
 Calls Tryz.prog 17 #[.slice a n c,.slice a' n c'] w fun e w'=>e=.returned (.bool true)/\Below w.heap.size w w':=by
 go_enter Tryz.func17,Tryz.ntmps17
 go_wp2
 go_loopw [5] (fun i wr=>∃k:Nat,k<=n/\i=.int .i64 k/\Below w.heap.size w wr) (fun i _=>n-(intOf i).toNat)
 case atStart=>exact⟨0,Nat.zero_le _,rfl,Below.refl _ _⟩
 case round =>
  obtain⟨k,hk,rfl,hw⟩:=hrel;by_cases hlt:k<n
  ·have hkx:k<xs.length:=by have:=hx.out;omega
   obtain⟨b,o,rfl,⟨_,hbB⟩,hc⟩:=ha.out k hkx;obtain⟨b',o',rfl,⟨_,hbB'⟩,hc'⟩:=hb.out k hkx;have hk0:(0:Int)<=(k:Int):=oM;have hk1:(k:Int)<(n:Int):=oM;have e1:=(XD hw oM).trans hc;have e2:=(XD hw oM).trans hc';clear hc hc';go_wp2
   go_region
   go_wp2;exact⟨⟨k+1,oM,gM,hw.drew⟩,by simp[intOf];omega⟩
  ·go_wp2
   go_ret
   exact⟨rfl,hw⟩
theorem ZbC(a b c d f:Int)(w:World) :
 Calls Tryz.prog 136 #[.agg #[.int .i64 a,.int .i64 b,.int .i64 c,.int .i64 d,.int .i64 f],.agg #[.int .i64 a,.int .i64 b,.int .i64 c,.int .i64 d,.int .i64 f]] w fun e w'=>e=.returned (.bool true)/\Below w.heap.size w w':=by
 go_enter Tryz.func136,Tryz.ntmps136
 go_wp2
 go_ret
 exact⟨rfl,Xb (Xb (Below.refl _ _) _) _⟩
theorem Zcm(a b c d:Int)(w:World) :
 Calls Tryz.prog 115 #[.agg #[.int .i64 a,.int .i64 b,.int .i64 c,.int .i64 d],.agg #[.int .i64 a,.int .i64 b,.int .i64 c,.int .i64 d]] w fun e w'=>e=.returned (.bool true)/\Below w.heap.size w w':=by
 go_enter Tryz.func115,Tryz.ntmps115
 go_wp2
 go_ret
 exact⟨rfl,Xb (Xb (Below.refl _ _) _) _⟩
theorem ZdR(d:Int)(a a':Option Addr)(n c c':Nat)(xs:List Int)(L B L' B':Nat)(w:World)(ha:Hid (Xg w L B a xs))(hb:Hid (Xg w L' B' a' xs))(hx:Hid (n=xs.length))(hn:n<=1048576)(hB:B<=w.heap.size)(hB':B'<=w.heap.size) :
 Calls Tryz.prog 135 #[.agg #[.int .i64 d,.slice a n c],.agg #[.int .i64 d,.slice a' n c']] w fun e w'=>e=.returned (.bool true)/\Below w.heap.size w w':=by
 go_enter Tryz.func135,Tryz.ntmps135
 go_wp2_with fail
 refine(UK _ _ _ _ _ xs L B L' B' _ ?q1 ?q2 hx hn ?q3 ?q4).mono ?_
 case q1=>exact ha.keep (((Below.refl _ _).alloc oM _).alloc (by simp;omega) _)
 case q2=>exact hb.keep (((Below.refl _ _).alloc oM _).alloc (by simp;omega) _)
 case q3=>simp;omega
 case q4=>simp;omega
 rintro e w1 ⟨rfl,hb1⟩;go_wp2
 go_ret
 exact⟨rfl,Xe (Xb (Xb (Below.refl _ _) _) _) hb1⟩
theorem Wy(a a':Option Addr)(n c c':Nat)(xs:List YK)(L B L' B':Nat)(w:World)(ha:Hid (XL w L B a xs))(hb:Hid (XL w L' B' a' xs))(hx:Hid (n=xs.length))(hn:n<=1048576)(hB:B<=w.heap.size)(hB':B'<=w.heap.size) :
 Calls Tryz.prog 114 #[.slice a n c,.slice a' n c'] w fun e w'=>e=.returned (.bool true)/\Below w.heap.size w w':=by
 go_enter Tryz.func114,Tryz.ntmps114
 go_wp2
 go_loopw [5] (fun i wr=>∃k:Nat,k<=n/\i=.int .i64 k/\Below w.heap.size w wr) (fun i _=>n-(intOf i).toNat)
 case atStart=>exact⟨0,Nat.zero_le _,rfl,Below.refl _ _⟩
 case round =>
  obtain⟨k,hk,rfl,hw⟩:=hrel;by_cases hlt:k<n
  ·have hkx:k<xs.length:=by have:=hx.out;omega
   obtain⟨b,o,rfl,⟨_,hbB⟩,hc⟩:=ha.out k hkx;obtain⟨b',o',rfl,⟨_,hbB'⟩,hc'⟩:=hb.out k hkx;have hk0:(0:Int)<=(k:Int):=oM;have hk1:(k:Int)<(n:Int):=oM;obtain⟨e0,e1,e2,e3,e4⟩:=hc.keep hw oM;obtain⟨f0,f1,f2,f3,f4⟩:=hc'.keep hw oM;clear hc hc';generalize xs[k]=X at *;go_wp2
   go_region_with (go_at_call 136;refine(ZbC _ _ _ _ _ _).mono ?_;rintro e w1 ⟨rfl,hb1⟩)
   all_goals
    go_wp2;exact⟨⟨k+1,oM,gM,Xe hw.drew hb1⟩,by simp[intOf];omega⟩
  ·go_wp2
   go_ret
   exact⟨rfl,hw⟩
def Zb6(xs:List Ph):Prop:=∀p∈xs,p.args.length<=1048576
theorem Zcw(a a':Option Addr)(n c c':Nat)(xs:List Ph)(L B L' B':Nat)(w:World)(ha:Hid (XZ w L B a xs))(hb:Hid (XZ w L' B' a' xs))(hx:Hid (n=xs.length))(hs:Hid (Zb6 xs))(hn:n<=1048576)(hB:B<=w.heap.size)(hB':B'<=w.heap.size) :
 Calls Tryz.prog 113 #[.slice a n c,.slice a' n c'] w fun e w'=>e=.returned (.bool true)/\Below w.heap.size w w':=by
 go_enter Tryz.func113,Tryz.ntmps113
 go_wp2
 go_loopw [5] (fun i wr=>∃k:Nat,k<=n/\i=.int .i64 k/\Below w.heap.size w wr) (fun i _=>n-(intOf i).toNat)
 case atStart=>exact⟨0,Nat.zero_le _,rfl,Below.refl _ _⟩
 case round =>
  obtain⟨k,hk,rfl,hw⟩:=hrel;by_cases hlt:k<n
  ·have hkx:k<xs.length:=by have:=hx.out;omega
   obtain⟨b,o,rfl,⟨_,hbB⟩,hc⟩:=ha.out k hkx;obtain⟨b',o',rfl,⟨_,hbB'⟩,hc'⟩:=hb.out k hkx;have hk0:(0:Int)<=(k:Int):=oM;have hk1:(k:Int)<(n:Int):=oM;obtain⟨aa,cc,e0,e1,hi⟩:=hc.keep (hw.mono hB) oM;obtain⟨aa',cc',f0,f1,hi'⟩:=hc'.keep (hw.mono hB') oM;have HI:=Xa (hi.keep ((Below.refl B wr).drew));have HI':=Xa (hi'.keep ((Below.refl B' wr).drew));have hq:=hs.out _ (List.getElem_mem hkx);have hBr:B<=wr.heap.size:=by have:=hw.size;omega
   have hBr':B'<=wr.heap.size:=by have:=hw.size;omega
   clear hc hc' hi hi';generalize xs[k]=X at *;go_wp2
   go_region_with (go_at_call 135;refine(ZdR _ _ _ _ _ _ X.args L B L' B' _ HI HI' rfl hq hBr hBr').mono ?_;rintro e w1 ⟨rfl,hb1⟩)
   all_goals
    go_wp2;exact⟨⟨k+1,oM,gM,Xe hw.drew hb1⟩,by simp[intOf];omega⟩
  ·go_wp2
   go_ret
   exact⟨rfl,hw⟩
theorem Zbx(p p' i i':Option Addr)(n pc pc' m ic ic':Nat)(t0 t1 t2 t3:Int)(xs:List Ph)(ys:List YK)(L B L' B':Nat)(w:World)(ha:Hid (XZ w L B p xs))(hb:Hid (XZ w L' B' p' xs))(ga:Hid (XL w L B i ys))(gb:Hid (XL w L' B' i' ys))
 (hx:Hid (n=xs.length)) (hy:Hid (m=ys.length)) (hs:Hid (Zb6 xs)) (hn:n<=1048576) (hm:m<=1048576) (hB:B<=w.heap.size) (hB':B'<=w.heap.size) :
 Calls Tryz.prog 63 #[.agg #[.slice p n pc,.slice i m ic,.int .i64 t0,.int .i64 t1,.int .i64 t2,.int .i64 t3],.agg #[.slice p' n pc',.slice i' m ic',.int .i64 t0,.int .i64 t1,.int .i64 t2,.int .i64 t3]] w fun e w'=>e=.returned (.bool true)/\Below w.heap.size w w':=by
 go_enter Tryz.func63,Tryz.ntmps63
 go_wp2_with fail
 refine(Zcw _ _ _ _ _ xs L B L' B' _ ?q1 ?q2 hx hs hn ?q3 ?q4).mono ?_
 case q1=>exact ha.keep (((Below.refl _ _).alloc oM _).alloc (by simp;omega) _)
 case q2=>exact hb.keep (((Below.refl _ _).alloc oM _).alloc (by simp;omega) _)
 case q3=>simp;omega
 case q4=>simp;omega
 rintro e w1 ⟨rfl,hb1⟩;have hz1:=hb1.size;simp at hz1;have hz2:w.heap.size<w1.heap.size:=oM;have hz3:w.heap.size+1<w1.heap.size:=oM;obtain⟨hc1,hf1⟩:=bcell hb1;have b1:=Xe (Xb (Xb (Below.refl _ _) _) _) hb1
 go_wp2_with fail
 refine(Wy _ _ _ _ _ ys L B L' B' _ ?q1 ?q2 hy hm ?q3 ?q4).mono ?_
 case q1=>exact ga.keep (b1.mono hB)
 case q2=>exact gb.keep (b1.mono hB')
 case q3=>omega
 case q4=>omega
 rintro e w2 ⟨rfl,hb2⟩;obtain⟨hc2,hf2⟩:=bcell hb2;have b2:=Xe b1 hb2
 go_wp2_with fail
 refine(Zcm _ _ _ _ _).mono ?_;rintro e w3 ⟨rfl,hb3⟩;go_wp2
 go_ret
 exact⟨rfl,Xe b2 hb3⟩
def KD(xs:List Xi):Prop:=∀x∈xs,x.phis.length<=1048576/\x.instrs.length<=1048576/\Zb6 x.phis
theorem WK(a a':Option Addr)(n c c':Nat)(xs:List Xi)(L B L' B':Nat)(w:World)(ha:Hid (Xl w L B a xs))(hb:Hid (Xl w L' B' a' xs))(hx:Hid (n=xs.length))(hs:Hid (KD xs))(hn:n<=1048576)(hB:B<=w.heap.size)(hB':B'<=w.heap.size) :
 Calls Tryz.prog 29 #[.slice a n c,.slice a' n c'] w fun e w'=>e=.returned (.bool true)/\Below w.heap.size w w':=by
 go_enter Tryz.func29,Tryz.ntmps29
 go_wp2
 go_loopw [5] (fun i wr=>∃k:Nat,k<=n/\i=.int .i64 k/\Below w.heap.size w wr) (fun i _=>n-(intOf i).toNat)
 case atStart=>exact⟨0,Nat.zero_le _,rfl,Below.refl _ _⟩
 case round =>
  obtain⟨k,hk,rfl,hw⟩:=hrel;by_cases hlt:k<n
  ·have hkx:k<xs.length:=by have:=hx.out;omega
   obtain⟨b,o,rfl,⟨_,hbB⟩,hc⟩:=ha.out k hkx;obtain⟨b',o',rfl,⟨_,hbB'⟩,hc'⟩:=hb.out k hkx;have hk0:(0:Int)<=(k:Int):=oM;have hk1:(k:Int)<(n:Int):=oM;obtain⟨pa,pc,ia,ic,e0,e1,⟨e2,e3,e4,e5⟩,hp,hi⟩:=hc.keep (hw.mono hB) oM;obtain⟨pa',pc',ia',ic',f0,f1,⟨f2,f3,f4,f5⟩,hp',hi'⟩:=hc'.keep (hw.mono hB') oM;have HP:=Xa (hp.keep ((Below.refl B wr).drew));have HP':=Xa (hp'.keep ((Below.refl B' wr).drew));have HI:=Xa (hi.keep ((Below.refl B wr).drew));have HI':=Xa (hi'.keep ((Below.refl B' wr).drew));obtain⟨hq1,hq2,hq3⟩:=hs.out _ (List.getElem_mem hkx);have HQ:=Xa hq3;have hBr:B<=wr.heap.size:=by have:=hw.size;omega
   have hBr':B'<=wr.heap.size:=by have:=hw.size;omega
   clear hc hc' hi hi' hp hp' hq3;generalize xs[k]=X at *;go_wp2
   go_region_with (go_at_call 63;refine(Zbx _ _ _ _ _ _ _ _ _ _ _ _ _ _ X.phis X.instrs L B L' B' _ HP HP' HI HI' rfl rfl HQ hq1 hq2 hBr hBr').mono ?_;rintro e w1 ⟨rfl,hb1⟩)
   all_goals
    go_wp2;exact⟨⟨k+1,oM,gM,Xe hw.drew hb1⟩,by simp[intOf];omega⟩
  ·go_wp2
   go_ret
   exact⟨rfl,hw⟩
theorem ZcC(v:Int)(a a':Option Addr)(n c c':Nat)(xs:List Xi)(L B L' B':Nat)(w:World)(ha:Hid (Xl w L B a xs))(hb:Hid (Xl w L' B' a' xs))(hx:Hid (n=xs.length))(hs:Hid (KD xs))(hn:n<=1048576)(hB:B<=w.heap.size)(hB':B'<=w.heap.size) :
 Calls Tryz.prog 10 #[.agg #[.int .i64 v,.slice a n c],.agg #[.int .i64 v,.slice a' n c']] w fun e w'=>e=.returned (.bool true)/\Below w.heap.size w w':=by
 go_enter Tryz.func10,Tryz.ntmps10
 go_wp2_with fail
 refine(WK _ _ _ _ _ xs L B L' B' _ ?q1 ?q2 hx hs hn ?q3 ?q4).mono ?_
 case q1=>exact ha.keep (((Below.refl _ _).alloc oM _).alloc (by simp;omega) _)
 case q2=>exact hb.keep (((Below.refl _ _).alloc oM _).alloc (by simp;omega) _)
 case q3=>simp;omega
 case q4=>simp;omega
 rintro e w1 ⟨rfl,hb1⟩;go_wp2
 go_ret
 exact⟨rfl,Xe (Xb (Xb (Below.refl _ _) _) _) hb1⟩
end
theorem Tryz.info2:(Tryz.prog.info? 2).map (fun i=>(i.zero,i.size,i.bytes))=some (some (.int .i64 0),1,8):=kR
theorem Zch(a:Option Addr)(n c:Nat)(xs:List Int)(L B:Nat)(w:World)(ha:Hid (Xg w L B a xs))(hx:Hid (n=xs.length))(hn:n<=1048576)(hB:B<=w.heap.size) :
 Calls Tryz.prog 15 #[.slice a n c] w fun e w'=>∃c',e=.returned (.slice (some ⟨w.heap.size,0,none⟩) n c')/\Below w.heap.size w w'/\Xg w' w.heap.size w'.heap.size (some ⟨w.heap.size,0,none⟩) xs/\Ym w.heap.size w':=by
 have hmk:=run_make_row' (P:=Tryz.prog) 26 2 (.int .i64 0) 8 Tryz.underlying26 Tryz.info2 rfl .i64 .i64 n oM oM
 go_enter Tryz.func15,Tryz.ntmps15
 go_wp2
 go_loopw [4] (fun i wr=>∃k:Nat,k<=n/\i=.int .i64 k/\Below w.heap.size w wr/\Hid (Ym w.heap.size wr)/\Hid (∃f,wr.rowIs w.heap.size 2 n f/\∀j (h:j<xs.length),j<k->f j=.int .i64 xs[j])) (fun i _=>n-(intOf i).toNat)
 case atStart=>exact⟨0,Nat.zero_le _,rfl,Xb (Below.refl _ _) _,(Ym.start _).alloc _ _,⟨_,World.rowIs_made _ _ _ _,fun j _ h=>absurd h oM⟩⟩
 case round =>
  obtain⟨k,hk,rfl,hw,hth,hf⟩:=hrel;by_cases hlt:k<n
  ·have hkx:k<xs.length:=by have:=hx.out;omega
   obtain⟨b,o,rfl,⟨_,hbB⟩,hc⟩:=ha.out k hkx;have e1:=(XD hw oM).trans hc;obtain⟨f,hr,hff⟩:=hf.out;have e2:=hr.cell hlt;have e3:=hr.frozen k;have HF:=Xa hff;have HR:=Xa hr;clear hc hf hff hr;go_wp2;refine⟨⟨k+1,oM,gM,hw.setCell (Nat.le_refl _) _,hth.setCell _ _,⟨_,HR.set k _,fun j hj hjk=>?_⟩⟩,by simp[intOf];omega⟩;by_cases e:j=k
   ·subst e;simp
   ·simp only[e,if_false];exact HF.out j hj oM
  ·go_wp2
   go_ret
   obtain⟨f,hr,hff⟩:=hf.out;refine⟨_,rfl,hw,fun j hj=>⟨w.heap.size,0,rfl,⟨Nat.le_refl _,hr.lt⟩,?_⟩,hth.out⟩;rw[Nat.zero_add,hr.cell (by have:=hx.out;omega),hff j hj (by have:=hx.out;omega)]
theorem ZaS(a b c d f:Int)(w:World) :
 Calls Tryz.prog 120 #[.agg #[.int .i64 a,.int .i64 b,.int .i64 c,.int .i64 d,.int .i64 f]] w fun e w'=>e=.returned (.agg #[.int .i64 a,.int .i64 b,.int .i64 c,.int .i64 d,.int .i64 f])/\Below w.heap.size w w'/\Ym w.heap.size w':=by
 go_enter Tryz.func120,Tryz.ntmps120
 go_wp2;exact bodyPost_ret (v:=.agg #[.int .i64 a,.int .i64 b,.int .i64 c,.int .i64 d,.int .i64 f]) (by simp[results,Tryz.results120,go_sem]) rfl ⟨rfl,Xb (Xb (Xb (Below.refl _ _) _) _) _,(((Ym.start _).alloc _ _).alloc _ _).alloc _ _⟩
theorem ZcH(a b c d:Int)(w:World) :
 Calls Tryz.prog 85 #[.agg #[.int .i64 a,.int .i64 b,.int .i64 c,.int .i64 d]] w fun e w'=>e=.returned (.agg #[.int .i64 a,.int .i64 b,.int .i64 c,.int .i64 d])/\Below w.heap.size w w'/\Ym w.heap.size w':=by
 go_enter Tryz.func85,Tryz.ntmps85
 go_wp2;exact bodyPost_ret (v:=.agg #[.int .i64 a,.int .i64 b,.int .i64 c,.int .i64 d]) (by simp[results,Tryz.results85,go_sem]) rfl ⟨rfl,Xb (Xb (Xb (Below.refl _ _) _) _) _,(((Ym.start _).alloc _ _).alloc _ _).alloc _ _⟩
theorem ZN{P:Program}(t e:TypeId)(z:Value)(size bytes:Nat)(ht:P.underlying t=some (.slice e))(hinfo:(P.info? e).map (fun i=>(i.zero,i.size,i.bytes))=some (some z,size,bytes))
 (n:Nat) (hbytes:bytes*n<=281474976710656) (h63:n<=9223372036854775807) (w:World) :
 (Instr.makeSlice t (.int .i64 (n:Int)) (.int .i64 (n:Int))).run P w=.ok (.slice (some ⟨w.heap.size,0,none⟩) n n) (w.alloc (.cells (madeCells z.cells (n*size)) e)):=by
 obtain⟨i,hi,hq⟩:=Option.map_eq_some_iff.1 hinfo;simp only[Prod.mk.injEq]at hq;obtain⟨hz,hsz,hbt⟩:=hq;have h:=run_make (P:=P) w t e i z ht hi hz .i64 .i64 (n:Int) (n:Int) oM (Int.le_refl _) (by rw[hbt,<-Int.natCast_mul];omega) oM;simp only[Int.toNat_natCast,hsz]at h;exact h
theorem KE(w:World)(z:Array Value)(n:Nat)(t:TypeId):(w.alloc (.cells (madeCells z n) t)).rowIs w.heap.size t n (fun i=>z[i % z.size]!):=by
 have h:=World.rowIs_alloc w (madeCells z n) t (fun i=>z[i % z.size]!) (fun i hi=>by
  rw[size_madeCells]at hi;simp[madeCells,hi])
 rw[size_madeCells]at h;exact h
theorem Tryz.infoInstr:(Tryz.prog.info? 67).map (fun i=>(i.zero,i.size,i.bytes))=some (some (.agg #[.int .i64 0,.int .i64 0,.int .i64 0,.int .i64 0,.int .i64 0]),5,40):=kR
theorem Zar(a:Option Addr)(n c:Nat)(xs:List YK)(L B:Nat)(w:World)(ha:Hid (XL w L B a xs))(hx:Hid (n=xs.length))(hn:n<=1048576)(hB:B<=w.heap.size) :
 Calls Tryz.prog 84 #[.slice a n c] w fun e w'=>∃c',e=.returned (.slice (some ⟨w.heap.size,0,none⟩) n c')/\Below w.heap.size w w'/\XL w' w.heap.size w'.heap.size (some ⟨w.heap.size,0,none⟩) xs/\Ym w.heap.size w':=by
 have hmk:=ZN (P:=Tryz.prog) 53 67 _ 5 40 Tryz.underlying53 Tryz.infoInstr n oM oM
 go_enter Tryz.func84,Tryz.ntmps84
 go_wp2
 go_loopw [4] (fun i wr=>∃k:Nat,k<=n/\i=.int .i64 k/\Below w.heap.size w wr/\Hid (Ym w.heap.size wr)/\Hid (∃f,wr.rowIs w.heap.size 67 (n*5) f)/\Hid (∀j (h:j<xs.length),j<k->Y5 wr w.heap.size (j*5) xs[j])) (fun i _=>n-(intOf i).toNat)
 case atStart=>exact⟨0,Nat.zero_le _,rfl,Xb (Below.refl _ _) _,(Ym.start _).alloc _ _,⟨_,KE _ _ _ _⟩,fun j _ h=>absurd h oM⟩
 case round =>
  obtain⟨k,hk,rfl,hw,hth,hf,hg⟩:=hrel;by_cases hlt:k<n
  ·have hkx:k<xs.length:=by have:=hx.out;omega
   obtain⟨b,o,rfl,⟨_,hbB⟩,hc⟩:=ha.out k hkx;obtain⟨e0,e1,e2,e3,e4⟩:=hc.keep hw oM;obtain⟨f,hr⟩:=hf.out;have HR:=Xa hr;clear hc hf hr;generalize hX:xs[k]=X at *;have HX:=Xa hX;clear hX
   go_wp2_with (go_at_call 120;refine(ZaS _ _ _ _ _ _).mono ?_;rintro e w1 ⟨rfl,hb1,ht1⟩;have HT1:=Xa ht1;clear ht1;have hr1:=HR.of_block (hb1.block _ HR.lt);have g0:=hr1.cell (i:=k*5) oM;have g1:=hr1.cell (i:=k*5+1) oM;have g2:=hr1.cell (i:=k*5+2) oM;have g3:=hr1.cell (i:=k*5+3) oM;have g4:=hr1.cell (i:=k*5+4) oM;have z0:=hr1.frozen (k*5);have z1:=hr1.frozen (k*5+1);have z2:=hr1.frozen (k*5+2);have z3:=hr1.frozen (k*5+3);have z4:=hr1.frozen (k*5+4);have HR1:=Xa hr1;clear hr1)
   rw[<-Xq HX];have h1:∀j (h:j<xs.length),j<k->Y5 w1 w.heap.size (j*5) xs[j]:=fun j h hj=>(hg.out j h hj).keepS (hb1.block _ HR.lt)
   have h2:=Zfm HR1.out xs k hkx (by have:=hx.out;omega) h1;exact⟨⟨k+1,oM,gM,Zf _ xs[k].cells (k*5) _ _ (Xe hw hb1) (Nat.le_refl _),(((((hth.trans hb1 HT1.out).setCell _ _).setCell _ _).setCell _ _).setCell _ _).setCell _ _,Zb xs[k].cells (k*5) _ _ HR1.out,h2⟩,by simp[intOf];omega⟩
  ·go_wp2
   go_ret
   obtain⟨f,hr⟩:=hf.out;refine⟨_,rfl,hw,fun j hj=>⟨w.heap.size,0,rfl,⟨Nat.le_refl _,hr.lt⟩,?_⟩,hth.out⟩;rw[Nat.zero_add];exact hg.out j hj (by have:=hx.out;omega)
def XF(w:World)(L B:Nat)(a:Option Addr)(xss:List (List Int)):Prop :=
 ∀i (h:i<xss.length),∃b o,a=some ⟨b,o,none⟩/\(L<=b/\b<B)/\∃a' c',w.cell? ⟨b,o+i,none⟩=some (.slice a' xss[i].length c')/\Xg w L B a' xss[i]
theorem XF.keepS{w w':World}{L B:Nat}{a:Option Addr}{xss:List (List Int)}(h:XF w L B a xss)(k:Xu L B w w'):XF w' L B a xss:=fun i hi=>by
 obtain⟨b,o,e,hb,a',c',h1,h2⟩:=h i hi;exact⟨b,o,e,hb,a',c',(Xc (k b hb.1 hb.2)).trans h1,h2.keepS k⟩
theorem XF.keep{w w':World}{L B:Nat}{a:Option Addr}{xss:List (List Int)}(h:XF w L B a xss)(k:Below B w w'):XF w' L B a xss:=h.keepS (Xu.of_below k)
theorem XF.mono{w:World}{L B L' B':Nat}{a:Option Addr}{xss:List (List Int)}(h:XF w L B a xss)(l:L'<=L)(k:B<=B'):XF w L' B' a xss:=fun i hi=>by
 obtain⟨b,o,e,hb,a',c',h1,h2⟩:=h i hi;exact⟨b,o,e,oM,a',c',h1,h2.mono l k⟩
def YC(w:World)(G n:Nat)(P:Nat->List Int)(U:Nat->Value):Prop :=
 w.rowIs G 26 n U/\(∀i,i<n->w.ownsRow (G+1) 2 1 (U i) (P i).length ((P i).map (Value.int .i64)))/\(∀i j,i<n->j<n->i≠j->(U i).ownBlock=none\/(U i).ownBlock≠(U j).ownBlock)
theorem YC.alloc{w:World}{G n:Nat}{P:Nat->List Int}{U:Nat->Value}(h:YC w G n P U)(o:Obj):YC (w.alloc o) G n P U:=⟨h.1.alloc o,fun i hi=>(h.2.1 i hi).alloc o,h.2.2⟩
theorem YC.below{w w':World}{G n:Nat}{P:Nat->List Int}{U:Nat->Value}(h:YC w G n P U)(k:Below w.heap.size w w'):YC w' G n P U:=by
 refine⟨h.1.of_block (k.block _ h.1.lt),fun i hi=>?_,h.2.2⟩;refine(h.2.1 i hi).kept (row:=none) ⟨k.os,k.tape,k.output,k.size,fun b hb _=>k.block b hb⟩ ?_;cases (U i).ownBlock<;>simp
theorem YC.congr{w:World}{G n:Nat}{P P':Nat->List Int}{U:Nat->Value}(h:YC w G n P U)(e:∀i,i<n->P i=P' i):YC w G n P' U :=
 ⟨h.1,fun i hi=>by rw[<-e i hi];exact h.2.1 i hi,h.2.2⟩
theorem YC.step{w w1:World}{G n:Nat}{P:Nat->List Int}{U:Nat->Value}(h:YC w G n P U){t:Nat}(ht:t<n)(x:Int)(v':Value)(hg:w.grownBy w1 (U t).ownBlock)
 (ho:w1.ownsRow (G+1) 2 1 v' ((P t).length+1) ((P t).map (Value.int .i64)++[.int .i64 x])) (hat:v'.ownBlock=(U t).ownBlock\/v'.ownBlock=some w.heap.size) :
 YC (w1.setCell ⟨G,t,none⟩ v') G n (fun i=>if i=t then P t++[x]else P i) (fun i=>if i=t then v' else U i):=by
 have hr:w1.rowIs G 26 n U:=h.1.of_block (hg.block _ h.1.lt (fun e=>by have:=((h.2.1 t ht).lt _ e.symm).1;omega));refine⟨hr.set t v',fun i hi=>?_,fun i j hi hj hij=>?_⟩
 ·refine ownsRow_setCell_below ?_ (by dsimp only;omega) _
  by_cases e:i=t
  ·subst e
   simp only[if_true,List.length_append,List.length_cons,List.length_nil,List.map_append,List.map_cons,List.map_nil];exact ho
  ·simp only[e,if_false]
   exact(h.2.1 i hi).kept hg (h.2.2 i t hi ht e)
 ·have fresh:∀m,m<n->(U m).ownBlock=none\/(U m).ownBlock≠some w.heap.size:=fun m hm=>by
   by_cases e:(U m).ownBlock=some w.heap.size
   ·have:=((h.2.1 m hm).lt _ e).2;omega
   ·exact Or.inr e
  by_cases e1:i=t
  ·subst e1
   have e2:¬j=i:=fun e=>hij e.symm
   simp only[if_true,e2,if_false];rcases hat with q | q
   ·rw[q];exact h.2.2 i j hi hj hij
   ·right
    rw[q];intro hh;rcases fresh j hj with f | f
    ·rw[f]at hh;cases hh
    ·exact f hh.symm
  ·simp only[e1,if_false]
   by_cases e2:j=t
   ·subst e2
    simp only[if_true];rcases hat with q | q
    ·rw[q];exact h.2.2 i j hi hj hij
    ·rw[q];exact fresh i hi
   ·simp only[e2,if_false]
    exact h.2.2 i j hi hj hij
theorem YC.ints{w:World}{G n:Nat}{P:Nat->List Int}{U:Nat->Value}(h:YC w G n P U):XF w G w.heap.size (some ⟨G,0,none⟩) ((List.range n).map P):=fun i hi=>by
 simp only[List.length_map,List.length_range]at hi;obtain⟨a,c,hv,ha⟩:=Xj (h.2.1 i hi);refine⟨G,0,rfl,⟨Nat.le_refl _,h.1.lt⟩,a,c,?_,?_⟩
 ·simp only[List.getElem_map,List.getElem_range,Nat.zero_add]
  rw[h.1.cell hi,hv]
 ·simp only[List.getElem_map,List.getElem_range]
  exact ha.mono oM (Nat.le_refl _)
theorem Tryz.info45:(Tryz.prog.info? 26).map (fun i=>(i.zero,i.size,i.bytes))=some (some (.slice none 0 0),1,24):=kR
theorem YC.born(w:World)(n:Nat):YC (w.alloc (.cells (madeCells #[.slice none 0 0] n) 26)) w.heap.size n (fun _=>[]) (fun _=>.slice none 0 0) :=
 ⟨World.rowIs_made _ _ _ _,fun _ _=>World.ownsRow_nil _ _ _ _,fun _ _ _ _ _=>Or.inl rfl⟩
end Go.Proofs.YthgikffcdgpgiaaGreatDoor
