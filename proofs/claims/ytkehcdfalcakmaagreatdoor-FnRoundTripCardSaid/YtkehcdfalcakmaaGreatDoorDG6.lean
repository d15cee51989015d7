import Derived.Test.YtkehcdfalcakmaaGreatDoorSQ2
namespace Go.Proofs.YtkehcdfalcakmaaGreatDoor
set_option maxHeartbeats 4000000
set_option maxRecDepth 100000
open Go.RowKit
theorem Tryz.infoBlkD:(Tryz.prog.info? 43).map (fun i=>(i.zero,i.size,i.bytes))=some (some (.agg #[.slice none 0 0,.slice none 0 0,.int .i64 0,.int .i64 0,.int .i64 0,.int .i64 0]),6,80):=by kernel_rfl
def TB(w:World)(g:Nat)(t:XN):Prop:=Bx w g #[.int .i64 t.kind,.int .i64 t.a,.int .i64 t.to,.int .i64 t.els] 41
theorem TB.put{w:World}{g:Nat}{t:XN}(h:TB w g t)(t':XN):TB ((((w.setCell ⟨g,0,none⟩ (.int .i64 t'.kind)).setCell ⟨g,1,none⟩ (.int .i64 t'.a)).setCell ⟨g,2,none⟩ (.int .i64 t'.to)).setCell ⟨g,3,none⟩ (.int .i64 t'.els)) g t':=by
 have:=(((Bx.set h 0 (.int .i64 t'.kind)).set 1 (.int .i64 t'.a)).set 2 (.int .i64 t'.to)).set 3 (.int .i64 t'.els);simpa [TB]using this
theorem TB.cells{w:World}{g:Nat}{t:XN}(h:TB w g t):w.cell? ⟨g,0,none⟩=some (.int .i64 t.kind)/\w.cell? ⟨g,1,none⟩=some (.int .i64 t.a)/\w.cell? ⟨g,2,none⟩=some (.int .i64 t.to)/\w.cell? ⟨g,3,none⟩=some (.int .i64 t.els):=⟨Bx.cell h rfl,Bx.cell h rfl,Bx.cell h rfl,Bx.cell h rfl⟩
theorem SkW.put4{w wr:World}{sb B g:Nat}{s:Sr}{v u0 u1 u2 u3:Value}{acc:List XN}(h:SkW w wr sb B s v acc)(hg:w.heap.size+2<=g)(hv:v.ownBlock≠some g):SkW w ((((wr.setCell ⟨g,0,none⟩ u0).setCell ⟨g,1,none⟩ u1).setCell ⟨g,2,none⟩ u2).setCell ⟨g,3,none⟩ u3) sb B s v acc:=(((h.put hg hv).put hg hv).put hg hv).put hg hv
theorem SkW.push{w wc w8:World}{sb B:Nat}{s:Sr}{v v8:Value}{acc:List XN}{tt:XN}(h:SkW w wc sb B s v acc)(o:Obj)(hg:(wc.alloc o).grownBy w8 v.ownBlock)(ho:w8.ownsRow (w.heap.size+2) 43 6 v8 (acc.length+1) (Xy YH YH (acc.map Yf)++[.slice none 0 0,.slice none 0 0,.int .i64 tt.kind,.int .i64 tt.a,.int .i64 tt.to,.int .i64 tt.els])) :
 SkW w (w8.setCell ⟨w.heap.size+1,1,none⟩ v8) sb B s v8 (acc++[tt])/\Bx w8 (w.heap.size+1) #[.int .i64 0,v] 25:=by
 have hs:=h.size;have ha:=World.grownBy_alloc wc o none;have kb:∀b,b<w.heap.size+2->w8.heap[b]?=wc.heap[b]?:=fun b hb=>(hg.block b (by have:=ha.size;omega) (fun e=>by have:=(h.own.lt b e.symm).1;omega)).trans (ha.block b (by omega) (by simp))
 have hz:wc.heap.size<=w8.heap.size:=Nat.le_trans ha.size hg.size;have hf:Bx w8 (w.heap.size+1) #[.int .i64 0,v] 25:=h.fun_.keep (kb _ (by omega));have hbw:=h.bw;have hbB:=h.dr.bB;refine⟨⟨?_,?_,h.bw,(h.res.keep (kb _ (by omega))).other (by omega),?_,?_,by simpa [World.setCell]using Nat.le_trans hs hz⟩,hf⟩
 ·exact(Zs.mk (h.dr.src.block (kb _ (by omega)) (fun k _ h2=>kb k (by omega))) h.dr.ok h.dr.bB (by omega)).put (by omega)
 ·exact XH ⟨hg.os.trans (ha.os.trans h.gr.os),hg.tape.trans (ha.tape.trans h.gr.tape),hg.output.trans (ha.output.trans h.gr.output),by omega,fun i hi hb=>(kb i (by omega)).trans (h.gr.block i hi hb)⟩ (by omega)
 ·have:=hf.set 1 v8
  simpa using this
 ·rw[List.length_append,List.map_append]
  unfold Xy at ho |-;rw[List.map_singleton,Y8];refine ownsRow_setCell_other ho (fun e=>?_) v8;have:=(ho.lt _ e).1;simp at this
theorem Zfx(sb B:Nat)(s:Sr)(n:Nat)(w:World)(h:Hid (Zs w sb B s))(hn1:1<=n)(hn:n<=1000) :
 Calls Tryz.prog 70 #[.pointer (some ⟨sb,0,none⟩),.int .i64 n] w fun e w'=>∃v,e=.returned (.agg #[.int .i64 0,v])/\Zs w' sb B (Jr n n 0 s []).2/\w.grownBy w' (some sb)/\w'.ownsRow (w.heap.size+2) 43 6 v n (Xy YH YH ((Jr n n 0 s []).1.map Yf)):=by
 obtain⟨i0,hi0,hz0,hz1,hz2⟩:=X0 Tryz.infoBlkD
 go_enter Tryz.func70,Tryz.ntmps70
 go_wp2_with fail
 go_loopw [6] (fun u wr=>∃(k i:Nat)(s':Sr)(acc:List XN)(v:Value),i+k=n/\u=.int .i64 i/\Hid (acc.length=i)/\Hid (Jr n k i s' acc=Jr n n 0 s [])/\Hid (SkW w wr sb B s' v acc)) (fun u _=>n-(intOf u).toNat)
 case atStart =>
  refine⟨n,0,s,[],.slice none 0 0,by omega,rfl,Xa rfl,Xa rfl,Xa ?_⟩;have k:=World.grownBy_alloc w (.cells #[.int .i64 0,.slice none 0 0] 25) (some sb);have k2:=World.grownBy_alloc (w.alloc (.cells #[.int .i64 0,.slice none 0 0] 25)) (.cells #[.int .i64 0,.slice none 0 0] 25) (some sb);refine⟨(h.box _).box _,Yi k k2,h.sB,(Bx.new _ _ _).box _,?_,World.ownsRow_nil _ _ _ _,by simp⟩;have:=Bx.new (w.alloc (.cells #[.int .i64 0,.slice none 0 0] 25)) #[.int .i64 0,.slice none 0 0] 25;rwa[World.size_alloc]at this
 case round =>
  obtain⟨k,i,s',acc,v,hik,rfl,HAL,HE,HW⟩:=hrel;cases k with
  | succ k =>
   have hin:i<n:=by omega
   have hinI:(i:Int)<n:=by omega
   have HE2:Hid (Jr n k (i+1) (terK s' n i).2 (acc++[(terK s' n i).1])=Jr n n 0 s []):=HE;clear HE
   go_upto_if 19 with fail
   have HWT:Hid (SkW w (wr.alloc (.cells #[.int .i64 3,.int .i64 0,.int .i64 0,.int .i64 0] 41)) sb B s' v acc):=Xa (HW.box _);have HT:Hid (TB (wr.alloc (.cells #[.int .i64 3,.int .i64 0,.int .i64 0,.int .i64 0] 41)) wr.heap.size ⟨3,0,0,0⟩):=Xa (Bx.new _ _ _);have hTg:Hid (w.heap.size+2<=wr.heap.size):=Xa HW.size;have hTv:Hid (v.ownBlock≠some wr.heap.size):=Xa (fun e=>by have:=(HW.own.lt _ e).2;omega);have HSB:Hid (sb≠wr.heap.size):=Xa (fun e=>by have:=HW.dr.bB;have:=HW.dr.sB;have:=HW.size;have:=HW.bw;omega);clear HW;generalize wr.alloc (.cells #[.int .i64 3,.int .i64 0,.int .i64 0,.int .i64 0] 41)=wt at *;generalize wr.heap.size=tb at *
   go_cut [8] from 10 to 73 (fun _ wx=>Hid (SkW w wx sb B (terK s' n i).2 v acc)/\Hid (TB wx tb (terK s' n i).1))
   case first =>
    obtain⟨t0,t1,t2,t3⟩:=TB.cells HT.out;have tz:=Bx.thaw HT.out;have HTK:Hid (terK s' n i=if i+1<n then brP (UA s' n).2 (UA s' n).1 ((i:Int)+1)else ZfM s' n):=Xa rfl;by_cases h1:i+1<n
    ·rw[if_pos h1]at HTK
     have h1I:(i:Int)+1<n:=by omega
     by_cases h2:2<n
     ·have h2I:(2:Int)<n:=by omega
      rw[show UA s' n=(1+(nextP s' ((n:Int)-1)).1,(nextP s' ((n:Int)-1)).2) by unfold UA;rw[if_pos h2]]at HTK;dsimp only at HTK
      go_wp2_with fail
      have HW4:=Xa (HWT.put4 (u0:=.int .i64 1) (u1:=.int .i64 0) (u2:=.int .i64 ((i:Int)+1)) (u3:=.int .i64 0) hTg.out hTv.out);have HT4:=Xa (TB.put HT.out ⟨1,0,((i:Int)+1),0⟩);refine(Xv sb B s' ((n:Int)-1) _ (Xa HW4.dr) (by omega) (by omega)).mono ?_;rintro e w5 ⟨rfl,hd,hg⟩;have hl5:=Xx s' (n:=((n:Int)-1)) (by omega);obtain⟨r,s1,hrs⟩:∃r s9,nextP s' ((n:Int)-1)=(r,s9):=⟨_,_,rfl⟩;rw[hrs]at hd HTK hl5 |-;dsimp only at hd HTK hl5 |-;have HW5:=Xa (HW4.next hg hd);have HT5:Hid (TB w5 tb _):=Xa (Bx.grown HT4.out hg (fun e=>HSB.out (by injection e with e;exact e.symm)));clear hd hg hrs;obtain⟨t50,t51,t52,t53⟩:=TB.cells HT5.out;have t5z:=Bx.thaw HT5.out;clear t0 t1 t2 t3 tz HW4 HT4;have ho0:(1+r != 0)=true:=by simp;omega
      have hoz:(1+r:Int)≠0:=by omega
      by_cases h3:1+r=(i:Int)+1
      ·have h3b:(1+r != (i:Int)+1)=false:=by simpa using h3
       rw[brP,if_neg (fun hh=>hh.2 h3)]at HTK;clear h3 hoz
       go_wp2_with fail
       go_meet;rw[HTK.out];exact⟨HW5,HT5⟩
      ·have h3b:(1+r != (i:Int)+1)=true:=by simpa using h3
       rw[brP,if_pos ⟨hoz,h3⟩]at HTK;clear h3 hoz
       go_wp2_with fail
       refine(Xv sb B s1 4 _ (Xa HW5.dr) (by omega) (by omega)).mono ?_;rintro e w6 ⟨rfl,hd,hg⟩;have hl6:=Xx s1 (n:=4) (by omega);obtain⟨r4,s4,hrs⟩:∃r s9,nextP s1 4=(r,s9):=⟨_,_,rfl⟩;rw[hrs]at hd HTK hl6 |-;dsimp only at hd HTK hl6 |-;have HW6:=Xa (HW5.next hg hd);have HT6:Hid (TB w6 tb _):=Xa (Bx.grown HT5.out hg (fun e=>HSB.out (by injection e with e;exact e.symm)));clear hd hg hrs;obtain⟨t60,t61,t62,t63⟩:=TB.cells HT6.out;have t6z:=Bx.thaw HT6.out;by_cases h4:r4=0
       ·have h4b:(r4 != 0)=false:=by simpa using h4
        rw[if_pos h4]at HTK;clear h4
        go_wp2_with fail
        go_meet;rw[HTK.out];exact⟨HW6,HT6⟩
       ·have h4b:(r4 != 0)=true:=by simpa using h4
        rw[if_neg h4]at HTK;clear h4
        go_wp2_with fail
        have HW7:=Xa (HW6.put4 (u0:=.int .i64 2) (u1:=.int .i64 0) (u2:=.int .i64 ((i:Int)+1)) (u3:=.int .i64 (1+r)) hTg.out hTv.out);have HT7:=Xa (TB.put HT6.out ⟨2,0,((i:Int)+1),(1+r)⟩);refine(Xv sb B s4 2 _ (Xa HW7.dr) (by omega) (by omega)).mono ?_;rintro e w8 ⟨rfl,hd,hg⟩;have hl8:=Xx s4 (n:=2) (by omega);obtain⟨r2,s5,hrs⟩:∃r s9,nextP s4 2=(r,s9):=⟨_,_,rfl⟩;rw[hrs]at hd HTK hl8 |-;dsimp only at hd HTK hl8 |-;have HW8:=Xa (HW7.next hg hd);have HT8:Hid (TB w8 tb _):=Xa (Bx.grown HT7.out hg (fun e=>HSB.out (by injection e with e;exact e.symm)));clear hd hg hrs;obtain⟨t80,t81,t82,t83⟩:=TB.cells HT8.out;have t8z:=Bx.thaw HT8.out;by_cases h5:r2=0
        ·have h5b:(r2==0)=true:=by simpa using h5
         rw[if_pos h5]at HTK;clear h5;have HW9:=Xa (HW8.put4 (u0:=.int .i64 2) (u1:=.int .i64 0) (u2:=.int .i64 (1+r)) (u3:=.int .i64 ((i:Int)+1)) hTg.out hTv.out);have HT9:=Xa (TB.put HT8.out ⟨2,0,(1+r),((i:Int)+1)⟩)
         go_wp2_with fail
         go_meet;rw[HTK.out];exact⟨HW9,HT9⟩
        ·have h5b:(r2==0)=false:=by simpa using h5
         rw[if_neg h5]at HTK;clear h5
         go_wp2_with fail
         go_meet;rw[HTK.out];exact⟨HW8,HT8⟩
     ·have h2I:¬(2:Int)<n:=by omega
      rw[show UA s' n=(0,s') by unfold UA;rw[if_neg h2]]at HTK;rw[brP,if_neg (fun hh=>hh.1 rfl)]at HTK;have HW4:=Xa (HWT.put4 (u0:=.int .i64 1) (u1:=.int .i64 0) (u2:=.int .i64 ((i:Int)+1)) (u3:=.int .i64 0) hTg.out hTv.out);have HT4:=Xa (TB.put HT.out ⟨1,0,((i:Int)+1),0⟩)
      go_wp2_with fail
      go_meet;rw[HTK.out];exact⟨HW4,HT4⟩
    ·rw[if_neg h1]at HTK
     have h1I:¬(i:Int)+1<n:=by omega
     by_cases h2:1<n
     ·have h2I:(1:Int)<n:=by omega
      rw[ZfM,if_pos h2]at HTK
      go_wp2_with fail
      refine(Xv sb B s' 8 _ (Xa HWT.dr) (by omega) (by omega)).mono ?_;rintro e w5 ⟨rfl,hd,hg⟩;have hl5:=Xx s' (n:=8) (by omega);obtain⟨r,s1,hrs⟩:∃r s9,nextP s' 8=(r,s9):=⟨_,_,rfl⟩;rw[hrs]at hd HTK hl5 |-;dsimp only at hd HTK hl5 |-;have HW5:=Xa (HWT.next hg hd);have HT5:Hid (TB w5 tb _):=Xa (Bx.grown HT.out hg (fun e=>HSB.out (by injection e with e;exact e.symm)));clear hd hg hrs;obtain⟨t50,t51,t52,t53⟩:=TB.cells HT5.out;have t5z:=Bx.thaw HT5.out;by_cases h4:r=0
      ·have h4b:(r==0)=true:=by simpa using h4
       rw[if_pos h4]at HTK;clear h4
       go_wp2_with fail
       refine(Xv sb B s1 ((n:Int)-1) _ (Xa HW5.dr) (by omega) (by omega)).mono ?_;rintro e w6 ⟨rfl,hd,hg⟩;have hl6:=Xx s1 (n:=((n:Int)-1)) (by omega);obtain⟨r2,s2,hrs⟩:∃r s9,nextP s1 ((n:Int)-1)=(r,s9):=⟨_,_,rfl⟩;rw[hrs]at hd HTK hl6 |-;dsimp only at hd HTK hl6 |-;have HW6:=Xa (HW5.next hg hd);have HT6:Hid (TB w6 tb _):=Xa (Bx.grown HT5.out hg (fun e=>HSB.out (by injection e with e;exact e.symm)));clear hd hg hrs;obtain⟨t60,t61,t62,t63⟩:=TB.cells HT6.out;have t6z:=Bx.thaw HT6.out;have HW7:=Xa (HW6.put4 (u0:=.int .i64 1) (u1:=.int .i64 0) (u2:=.int .i64 (1+r2)) (u3:=.int .i64 0) hTg.out hTv.out);have HT7:=Xa (TB.put HT6.out ⟨1,0,(1+r2),0⟩)
       go_wp2_with fail
       go_meet;rw[HTK.out];exact⟨HW7,HT7⟩
      ·have h4b:(r==0)=false:=by simpa using h4
       rw[if_neg h4]at HTK;clear h4
       go_wp2_with fail
       go_meet;rw[HTK.out];exact⟨HW5,HT5⟩
     ·have h2I:¬(1:Int)<n:=by omega
      rw[ZfM,if_neg h2]at HTK
      go_wp2_with fail
      go_meet;rw[HTK.out];exact⟨HWT,HT⟩
   case rest =>
    obtain⟨HWx,HTx⟩:=hcut;clear HWT HT;generalize terK s' n i=tk at *;obtain⟨tt,s2⟩:=tk;dsimp only at HWx HTx HE2;obtain⟨t0,t1,t2,t3⟩:=TB.cells HTx.out;have f1:wc.cell? ⟨w.heap.size+1,1,none⟩=some v:=Bx.cell HWx.fun_ rfl;have fz:=Bx.thaw HWx.fun_;have hwz:=HWx.size
    go_wp2_with (at_builtin;refine wpList_append_own_at _ rfl _ _ 23 rfl (w.heap.size+2) 43 i0 (.agg #[.slice none 0 0,.slice none 0 0,.int .i64 0,.int .i64 0,.int .i64 0,.int .i64 0]) 6 80 Tryz.underlying23 hi0 hz0 hz1 hz2 rfl (by decide) v acc.length (Xy YH YH (acc.map Yf)) rfl (HWx.own.alloc _) ⟨wc.heap.size,0,none⟩ 1 1 [.slice none 0 0,.slice none 0 0,.int .i64 tt.kind,.int .i64 tt.a,.int .i64 tt.to,.int .i64 tt.els] rfl rfl (World.news_of_block (World.alloc_heap_new _ _)) ?c2 ?c3 ?c4 ?c5 ?_)
    case c2=>intro u hu;simp at hu;rcases hu with rfl | rfl | rfl | rfl | rfl<;>rfl
    case c3=>unfold maxLen;have:=HAL.out;omega
    case c4=>have:=HAL.out;omega
    case c5=>simp;omega
    intro v8 w8 hown8 hg8 hne8 hat8;obtain⟨hw9,hf8⟩:=HWx.push _ hg8 hown8;have HW9:=Xa hw9;obtain⟨g,cap,rfl,hgb,hcap⟩:=Xj hown8 (by omega);clear hgb hcap hne8 hat8 hown8 hg8 hw9;have k0:w8.cell? ⟨w.heap.size+1,0,none⟩=some (.int .i64 0):=Bx.cell hf8 rfl;have k1:w8.cell? ⟨w.heap.size+1,1,none⟩=some v:=Bx.cell hf8 rfl;have kz:=Bx.thaw hf8;have HK8:=Xa hf8;clear hf8;go_wp2;exact⟨⟨k,i+1,s2,acc++[tt],_,by omega,by go_num,Xa (by rw[List.length_append,HAL.out];rfl),HE2,HW9⟩,by simp[intOf];omega⟩
  | zero =>
   have HE2:Hid ((acc,s')=Jr n n 0 s []):=HE;have hin:¬(i:Int)<n:=by omega
   have f0:wr.cell? ⟨w.heap.size+1,0,none⟩=some (.int .i64 0):=Bx.cell HW.fun_ rfl;have f1:wr.cell? ⟨w.heap.size+1,1,none⟩=some v:=Bx.cell HW.fun_ rfl;have r0:wr.cell? ⟨w.heap.size,0,none⟩=some (.int .i64 0):=Bx.cell HW.res rfl;have r1:wr.cell? ⟨w.heap.size,1,none⟩=some (.slice none 0 0):=Bx.cell HW.res rfl;have rz:=Bx.thaw HW.res;obtain⟨g,cap,rfl,hgb,hcap⟩:=Xj HW.own (by have:=HAL.out;omega);clear hcap;have HL:=Xa hgb.1;clear hgb;have HAL2:=Xa HAL.out;generalize hga:acc.length=al at *;have HGA:=Xa hga;clear hga;go_wp2;rw[<-HE2.out];refine bodyPost_ret (v:=.agg #[.int .i64 0,.slice (some ⟨g,0,none⟩) al cap]) (by simp[results,Tryz.results70,go_sem,r0,r1]) rfl ⟨_,rfl,?_,?_,?_⟩
   ·exact(HW.dr.put HW.bw).put HW.bw
   ·exact XH (XH HW.gr (Nat.le_refl _)) (Nat.le_refl _)
   ·have hal:n=al:=by have:=HAL2.out;omega
    rw[hal];have hown:=HW.own;rw[HGA.out]at hown;exact ownsRow_setCell_below (a:=⟨w.heap.size,1,none⟩) (ownsRow_setCell_below (a:=⟨w.heap.size,0,none⟩) hown (Nat.lt_add_of_pos_right (by decide)) _) (Nat.lt_add_of_pos_right (by decide)) _
end Go.Proofs.YtkehcdfalcakmaaGreatDoor
namespace Go.Proofs.YtkehcdfalcakmaaGreatDoor
open Go.RowKit
structure XK(w w':World)(lab lab':Nat->Nat × Nat × Nat)(base:Nat)(ok:Nat->Prop):Prop where
 size:w.heap.size<=w'.heap.size
 same:∀b,base<=b->b<w.heap.size->ok b->w'.heap[b]?=w.heap[b]?/\lab' b=lab b
 fresh:(∀b,w.heap.size<=b->lab b=(0,0,0))->∀b,w'.heap.size<=b->lab' b=(0,0,0)
variable {w w' : World} {lab lab' : Nat -> Nat × Nat × Nat} {base : Nat} {ok : Nat -> Prop}
theorem Xq.sp{L:Nat × Nat × Nat}{t sz:Nat}{v:Value}{n:Nat}{cs:List Value}(h:Xq w lab L base t sz v n cs)(k:XK w w' lab lab' base ok)(ho:∀b,lab b=L->ok b):Xq w' lab' L base t sz v n cs :=
 h.keep (fun b h1 h2 e=>by have:=k.same b h1 h2 (ho b e);exact⟨this.1,this.2.trans e⟩)
theorem Xq.nil{L:Nat × Nat × Nat}{t sz n:Nat}{cs:List Value}(h:Xq w lab L base t sz (.slice none 0 0) n cs):Xq w' lab' L base t sz (.slice none 0 0) n cs :=
 ⟨YA h.own (fun b e=>by cases e),fun b e=>by cases e⟩
theorem Bx.sp{b t:Nat}{cs:Array Value}(h:Bx w b cs t)(k:XK w w' lab lab' base ok)(hb:base<=b)(ho:ok b):Bx w' b cs t:=h.keep (k.same b hb h.lt ho).1
theorem XK.grown{sb:Nat}(g:w.grownBy w' (some sb))(hs:sb<base):XK w w' lab lab base (fun _=>True) :=
 ⟨g.size,fun b h1 h2 _=>⟨g.block b h2 (fun e=>by injection e;omega),rfl⟩,fun h b hb=>h b (Nat.le_trans g.size hb)⟩
theorem XK.box(o:Obj):XK w (w.alloc o) lab lab base (fun _=>True) :=
 ⟨(World.grownBy_alloc w o none).size,fun b _ h2 _=>⟨(World.grownBy_alloc w o none).block b h2 (by simp),rfl⟩,fun h b hb=>h b (Nat.le_trans (World.grownBy_alloc w o none).size hb)⟩
theorem XK.put(g q:Nat)(u:Value):XK w (w.setCell ⟨g,q,none⟩ u) lab lab base (fun b=>b≠g) :=
 ⟨by simp[World.setCell],fun b _ _ hb=>⟨Below.heap_setCell _ _ _ _ hb,rfl⟩,fun h b hb=>h b (by simpa [World.setCell]using hb)⟩
theorem Xq.grow{L:Nat × Nat × Nat}{t sz:Nat}{v v':Value}{n n':Nat}{cs cs':List Value}(h:Xq w lab L base t sz v n cs)(hg:w.grownBy w' v.ownBlock)(ho:w'.ownsRow base t sz v' n' cs')(hat:v'.ownBlock=v.ownBlock\/v'.ownBlock=some w.heap.size)(hf:∀b,w.heap.size<=b->lab b=(0,0,0)) :
 ∃lab',Xq w' lab' L base t sz v' n' cs'/\XK w w' lab lab' base (fun b=>lab b≠L):=by
 refine⟨fun b=>if v'.ownBlock=some b then L else lab b,⟨ho,fun b e=>if_pos e⟩,hg.size,fun b h1 h2 hb=>⟨hg.block b h2 (fun e=>hb (h.lab b e.symm)),if_neg (fun e=>?_)⟩,fun _ b hb=>(if_neg (fun e=>?_)).trans (hf b (Nat.le_trans hg.size hb))⟩
 ·rcases hat with f | f
  ·exact hb (h.lab b (f.symm.trans e))
  ·rw[e]at f
   injection f with f;omega
 ·have:=(ho.lt b e).2
  have:=hg.size;omega
theorem XK.trans{w2:World}{lab2:Nat->Nat × Nat × Nat}{ok2:Nat->Prop}(h:XK w w' lab lab' base ok)(k:XK w' w2 lab' lab2 base ok2):XK w w2 lab lab2 base (fun b=>ok b/\ok2 b) :=
 ⟨Nat.le_trans h.size k.size,fun b h1 h2 ho=>by
  have a1:=h.same b h1 h2 ho.1;have a2:=k.same b h1 (Nat.lt_of_lt_of_le h2 h.size) ho.2;exact⟨a2.1.trans a1.1,a2.2.trans a1.2⟩,fun hf b hb=>k.fresh (h.fresh hf) b hb⟩
theorem XK.weak{ok2:Nat->Prop}(h:XK w w' lab lab' base ok)(k:∀b,ok2 b->ok b):XK w w' lab lab' base ok2:=⟨h.size,fun b h1 h2 ho=>h.same b h1 h2 (k b ho),h.fresh⟩
theorem Z5.sp{v:Value}{xs:List Xf}{pv iv:Nat->Value}{av:Nat->Nat->Value}(h:Z5 w lab base v xs pv iv av)(k:XK w w' lab lab' base ok)(i:Nat)
 (ho:∀b,(lab b).1≠0->(lab b).1<5->lab b≠(2,i,0)->lab b≠(3,i,0)->ok b) (hi:(∀b,lab b=(2,i,0)\/lab b=(3,i,0)->ok b)\/(pv i=.slice none 0 0/\iv i=.slice none 0 0)):Z5 w' lab' base v xs pv iv av:=by
 refine⟨h.blks.sp k (fun b e=>ho b (by rw[e];simp) (by rw[e];simp) (by rw[e];simp) (by rw[e];simp)),fun j hj=>?_,fun j hj=>?_,fun j hj q hq=>(h.args j hj q hq).sp k (fun b e=>ho b (by rw[e];simp) (by rw[e];simp) (by rw[e];simp) (by rw[e];simp))⟩
 ·by_cases e:j=i
  ·subst e
   rcases hi with hi | ⟨h1,_⟩
   ·exact(h.phis j hj).sp k (fun b e=>hi b (Or.inl e))
   ·have:=h.phis j hj
    rw[h1]at this |-;exact this.nil
  ·exact(h.phis j hj).sp k (fun b e2=>ho b (by rw[e2];simp) (by rw[e2];simp) (by rw[e2];simp;exact e) (by rw[e2];simp))
 ·by_cases e:j=i
  ·subst e
   rcases hi with hi | ⟨_,h1⟩
   ·exact(h.ins j hj).sp k (fun b e=>hi b (Or.inr e))
   ·have:=h.ins j hj
    rw[h1]at this |-;exact this.nil
  ·exact(h.ins j hj).sp k (fun b e2=>ho b (by rw[e2];simp) (by rw[e2];simp) (by rw[e2];simp) (by rw[e2];simp;exact e))
theorem Z5.lay{g n c i:Nat}{xs:List Xf}{pv iv:Nat->Value}{av:Nat->Nat->Value}(h:Z5 w lab base (.slice (some ⟨g,0,none⟩) n c) xs pv iv av)(hi:i<xs.length)(x:Xf)(p q:Value)(ax:Nat->Value)
 (hp:Xq w lab (2,i,0) base 46 2 p x.phis.length (XU ax x.phis)) (hq:Xq w lab (3,i,0) base 53 5 q x.instrs.length (XD x.instrs)) (ha:∀j (hj:j<x.phis.length),Xq w lab (4,i,j) base 2 1 (ax j) x.phis[j].args.length (Xo x.phis[j].args)) :
 Z5 ((((((w.setCell ⟨g,i*6,none⟩ p).setCell ⟨g,i*6+1,none⟩ q).setCell ⟨g,i*6+2,none⟩ (.int .i64 x.term.kind)).setCell ⟨g,i*6+3,none⟩ (.int .i64 x.term.a)).setCell ⟨g,i*6+4,none⟩ (.int .i64 x.term.to)).setCell ⟨g,i*6+5,none⟩ (.int .i64 x.term.els)) lab base (.slice (some ⟨g,0,none⟩) n c) (xs.set i x) (fun j=>if j=i then p else pv j) (fun j=>if j=i then q else iv j) (fun j=>if j=i then ax else av j):=by
 have hnl:xs.length=n:=by
  rcases h.blks.own.2 with⟨e,_⟩ | ⟨_,_,_,e,_⟩
  ·cases e
  ·cases e;rfl
 subst hnl;have hgl:=h.blks.blk.2;have hs:XK w ((((((w.setCell ⟨g,i*6,none⟩ p).setCell ⟨g,i*6+1,none⟩ q).setCell ⟨g,i*6+2,none⟩ (.int .i64 x.term.kind)).setCell ⟨g,i*6+3,none⟩ (.int .i64 x.term.a)).setCell ⟨g,i*6+4,none⟩ (.int .i64 x.term.to)).setCell ⟨g,i*6+5,none⟩ (.int .i64 x.term.els)) lab lab base (fun b=>b≠g) :=
  ((((((XK.put g _ _).trans (XK.put g _ _)).trans (XK.put g _ _)).trans (XK.put g _ _)).trans (XK.put g _ _)).trans (XK.put g _ _)).weak (fun b hb=>⟨⟨⟨⟨⟨hb,hb⟩,hb⟩,hb⟩,hb⟩,hb⟩)
 have ng:∀b,lab b≠(1,0,0)->b≠g:=fun b hb e=>hb (by rw[e];exact hgl)
 refine⟨?_,fun j hj=>?_,fun j hj=>?_,fun j hj m hm=>?_⟩
 ·have hb:=(((((h.blks.set (i*6) p).set (i*6+1) q).set (i*6+2) (.int .i64 x.term.kind)).set (i*6+3) (.int .i64 x.term.a)).set (i*6+4) (.int .i64 x.term.to)).set (i*6+5) (.int .i64 x.term.els)
  have e:Xy (fun j=>if j=i then p else pv j) (fun j=>if j=i then q else iv j) (xs.set i x)=((((((Xy pv iv xs).set (i*6) p).set (i*6+1) q).set (i*6+2) (.int .i64 x.term.kind)).set (i*6+3) (.int .i64 x.term.a)).set (i*6+4) (.int .i64 x.term.to)).set (i*6+5) (.int .i64 x.term.els):=by
   refine List.ext_getElem? (fun r=>?_);have hl:(Xy pv iv xs).length=xs.length*6:=Zc (sz:=6) (fun _ _=>rfl) _ _;have hl2:(Xy (fun j=>if j=i then p else pv j) (fun j=>if j=i then q else iv j) (xs.set i x)).length=xs.length*6:=(Zc (sz:=6) (fun _ _=>rfl) 0 (xs.set i x)).trans (by simp);by_cases hr:r<xs.length*6
   ·have hj:r / 6<xs.length:=by omega
    have hjs:r / 6<(xs.set i x).length:=by simpa using hj
    have er:r=r / 6*6+r % 6:=by omega
    have hm:r % 6<6:=Nat.mod_lt _ (by decide);generalize r / 6=j at *;generalize r % 6=m at *;subst er;have k1:(Xy (fun j=>if j=i then p else pv j) (fun j=>if j=i then q else iv j) (xs.set i x))[j*6+m]?=(Tk (if j=i then p else pv j) (if j=i then q else iv j) (xs.set i x)[j].term)[m]?:=by
     unfold Xy;rw[Xu (sz:=6) (fun _ _=>rfl) 0 (xs.set i x) j (by simpa using hj) m hm,Nat.zero_add]
    rw[k1];by_cases e:j=i
    ·subst e
     rw[if_pos rfl,if_pos rfl,List.getElem_set_self];simp only[List.getElem?_set,hl]
     match m,hm with
     | 0,_=>simp[Tk];omega
     | 1,_=>simp[Tk];omega
     | 2,_=>simp[Tk];omega
     | 3,_=>simp[Tk];omega
     | 4,_=>simp[Tk];omega
     | 5,_=>simp[Tk];omega
    ·rw[if_neg e,if_neg e,List.getElem_set_ne (fun e2=>e e2.symm)]
     rw[List.getElem?_set_ne (by omega),List.getElem?_set_ne (by omega),List.getElem?_set_ne (by omega),List.getElem?_set_ne (by omega),List.getElem?_set_ne (by omega),List.getElem?_set_ne (by omega)];unfold Xy;rw[Xu (sz:=6) (fun _ _=>rfl) 0 xs j hj m hm,Nat.zero_add]
   ·rw[List.getElem?_eq_none (by omega),List.getElem?_eq_none (by simp only[List.length_set];omega)]
  rw[e,List.length_set];exact hb
 ·by_cases e:j=i
  ·subst e
   simp only[if_pos,List.getElem_set_self];exact hp.sp hs (fun b e=>ng b (by rw[e];simp))
  ·simp only[if_neg e,List.getElem_set_ne (fun e2=>e e2.symm)]
   exact(h.phis j (by simpa using hj)).sp hs (fun b e=>ng b (by rw[e];simp))
 ·by_cases e:j=i
  ·subst e
   simp only[if_pos,List.getElem_set_self];exact hq.sp hs (fun b e=>ng b (by rw[e];simp))
  ·simp only[if_neg e,List.getElem_set_ne (fun e2=>e e2.symm)]
   exact(h.ins j (by simpa using hj)).sp hs (fun b e=>ng b (by rw[e];simp))
 ·by_cases e:j=i
  ·subst e
   simp only[List.getElem_set_self]at hm |-;simp only[if_pos];exact(ha m hm).sp hs (fun b e=>ng b (by rw[e];simp))
  ·simp only[List.getElem_set_ne (fun e2=>e e2.symm)]at hm |-
   simp only[if_neg e];exact(h.args j (by simpa using hj) m hm).sp hs (fun b e=>ng b (by rw[e];simp))
end Go.Proofs.YtkehcdfalcakmaaGreatDoor
namespace Go.Proofs.YtkehcdfalcakmaaGreatDoor
open Go.RowKit
def Tz(np:Nat)(s:Sr):Nat × Sr :=
 if 1<np then ((nextP s 4).1.toNat,(nextP s 4).2)else if np=1 then (if (nextP s 6).1=0 then 1 else 0,(nextP s 6).2)else (0,s)
theorem Zdj(np:Nat)(s:Sr):(Tz np s).1<=3:=by
 unfold Tz;split
 ·have:=Xx s (n:=4) (by omega)
  show(nextP s 4).1.toNat<=3;omega
 ·split
  ·show(if (nextP s 6).1=0 then 1 else 0)<=3
   split<;>omega
  ·exact Nat.zero_le _
theorem Zhc{s:Sr}(h:ZJ s)(np:Nat):ZJ (Tz np s).2:=by
 unfold Tz;split
 ·exact Yo h _
 ·split
  ·exact Yo h _
  ·exact h
def Uw(k v:Nat):List Ph:=(List.range k).map fun j=>⟨((v+j:Nat):Int),[]⟩
def ZG(k v:Nat):List Int:=(List.range k).map fun j=>((v+j:Nat):Int)
theorem Zgh(k v:Nat):Uw (k+1) v=Uw k v++[⟨((v+k:Nat):Int),[]⟩]:=by unfold Uw;rw[List.range_succ];simp
theorem ZfZ(k v:Nat):ZG (k+1) v=ZG k v++[((v+k:Nat):Int)]:=by unfold ZG;rw[List.range_succ];simp
theorem Ke(k v:Nat):(Uw k v).length=k:=by simp[Uw]
theorem KX(k v:Nat):(ZG k v).length=k:=by simp[ZG]
def Zt(near:Bool):Nat->Sr->List Int->Nat->List Xz->List Xz × List Int × Nat × Sr
 | 0,s,vs,v,acc=>(acc,vs,v,s)
 | k+1,s,vs,v,acc =>
  if dB (instrP s vs v near).1.op=true then Zt near k (instrP s vs v near).2 (vs++[(v:Int)]) (v+1) (acc++[(instrP s vs v near).1])
  else Zt near k (instrP s vs v near).2 vs v (acc++[(instrP s vs v near).1])
structure HdR where
 cnt:Nat
 ins:List Xz
 vs:List Int
 v:Nat
 s:Sr
def hdB(i v:Nat)(vs:List Int)(s:Sr):HdR :=
 if i=0 then ⟨(nextP s (3+s.size)).1.toNat+1,[⟨2,v,0,0,(nextP (nextP s (3+s.size)).2 3).1⟩],vs++[(v:Int)],v+1,(nextP (nextP s (3+s.size)).2 3).2⟩
 else ⟨(nextP s (3+s.size)).1.toNat,[],vs,v,(nextP s (3+s.size)).2⟩
def terG(near:Bool)(t:XN)(vs:List Int)(s:Sr):XN × Sr:=if t.kind=1 then (t,s)else (⟨t.kind,(Yu s vs near).1,t.to,t.els⟩,(Yu s vs near).2)
structure BkR where
 blk:Xf
 vs:List Int
 v:Nat
 s:Sr
def U4(near:Bool)(i np:Nat)(t:XN)(vs0:List Int)(v:Nat)(s:Sr):BkR :=
 let p:=Tz np s
 let h:=hdB i (v+p.1) (vs0++ZG p.1 v) p.2
 let r:=Zt near h.cnt h.s h.vs h.v h.ins
 let e:=terG near t r.2.1 r.2.2.2
 ⟨⟨Uw p.1 v,r.1,e.1⟩,r.2.1,r.2.2.1,e.2⟩
structure GdR where
 xs:List Xf
 ends:List (List Int)
 v:Nat
 s:Sr
def XL:Xf:=⟨[],[],⟨0,0,0,0⟩⟩
def YR(near:Bool)(ids:List Int):Nat->Nat->GdR->GdR
 | 0,_,g=>g
 | k+1,i,g =>
  let r:=U4 near i (predsFrom g.xs 0 (i:Int)).length (g.xs.getD i XL).term (if i=0 then []else g.ends.getD (ids.getD i 0).toNat []) g.v g.s
  YR near ids k (i+1) ⟨g.xs.set i r.blk,g.ends++[r.vs],r.v,r.s⟩
def Z4(ends:List (List Int)):List Int->Sr->List Int->List Int × Sr
 | [],s,acc=>(acc,s)
 | p::ps,s,acc=>Z4 ends ps (Yu (nextP s 3).2 (ends.getD p.toNat []) ((nextP s 3).1 != 0)).2 (acc++[(Yu (nextP s 3).2 (ends.getD p.toNat []) ((nextP s 3).1 != 0)).1])
def UY:Ph:=⟨0,[]⟩
def J3(ends:List (List Int))(preds:List Int):Nat->Nat->List Ph->Sr->List Ph × Sr
 | 0,_,ps,s=>(ps,s)
 | k+1,j,ps,s=>J3 ends preds k (j+1) (ps.set j ⟨(ps.getD j UY).dst,(Z4 ends preds s (ps.getD j UY).args).1⟩) (Z4 ends preds s (ps.getD j UY).args).2
def Z6(ends:List (List Int)):Nat->Nat->List Xf->Sr->List Xf × Sr
 | 0,_,xs,s=>(xs,s)
 | k+1,i,xs,s =>
  let r:=J3 ends (predsFrom xs 0 (i:Int)) (xs.getD i XL).phis.length 0 (xs.getD i XL).phis s
  Z6 ends k (i+1) (xs.set i ⟨r.1,(xs.getD i XL).instrs,(xs.getD i XL).term⟩) r.2
theorem Zaw{near:Bool}:∀(k:Nat)(s:Sr)(vs:List Int)(v:Nat)(acc:List Xz),ZJ s->ZJ (Zt near k s vs v acc).2.2.2
 | 0,_,_,_,_,h=>h
 | k+1,s,vs,v,acc,h=>by
  rw[Zt];split
  ·exact Zaw k _ _ _ _ (Zbd h)
  ·exact Zaw k _ _ _ _ (Zbd h)
theorem Vm{near:Bool}:∀(k:Nat)(s:Sr)(vs:List Int)(v:Nat)(acc:List Xz),v<=(Zt near k s vs v acc).2.2.1/\(Zt near k s vs v acc).2.2.1<=v+k/\(Zt near k s vs v acc).2.1.length<=vs.length+k/\(Zt near k s vs v acc).1.length=acc.length+k
 | 0,_,_,_,_=>⟨Nat.le_refl _,Nat.le_refl _,Nat.le_refl _,rfl⟩
 | k+1,s,vs,v,acc=>by
  rw[Zt];split
  ·have:=Vm (near:=near) k (instrP s vs v near).2 (vs++[(v:Int)]) (v+1) (acc++[(instrP s vs v near).1])
   simp only[List.length_append,List.length_cons,List.length_nil]at this;omega
  ·have:=Vm (near:=near) k (instrP s vs v near).2 vs v (acc++[(instrP s vs v near).1])
   simp only[List.length_append,List.length_cons,List.length_nil]at this;omega
theorem Zhr(i v:Nat)(vs:List Int){s:Sr}(h:ZJ s):(hdB i v vs s).cnt<=10/\v<=(hdB i v vs s).v/\(hdB i v vs s).v<=v+1/\(hdB i v vs s).vs.length<=vs.length+1/\(hdB i v vs s).ins.length<=1:=by
 have h1:=h.size;have h2:=Xx s (n:=3+s.size) (by omega);unfold hdB;split
 ·refine⟨?_,Nat.le_succ v,Nat.le_refl _,?_,Nat.le_refl _⟩
  ·show(nextP s (3+s.size)).1.toNat+1<=10
   omega
  ·show(vs++[(v:Int)]).length<=vs.length+1
   simp
 ·refine⟨?_,Nat.le_refl _,Nat.le_succ v,Nat.le_succ _,Nat.zero_le _⟩
  show(nextP s (3+s.size)).1.toNat<=10;omega
theorem Ziv(i v:Nat)(vs:List Int){s:Sr}(h:ZJ s):ZJ (hdB i v vs s).s:=by
 unfold hdB;split
 ·exact Yo (Yo h _) _
 ·exact Yo h _
theorem Zg0{near:Bool}{t:XN}{vs:List Int}{s:Sr}(h:ZJ s):ZJ (terG near t vs s).2:=by
 unfold terG;split
 ·exact h
 ·exact ZaF h _ _
theorem ZhL{near:Bool}{i np:Nat}{t:XN}{vs0:List Int}{v:Nat}{s:Sr}(h:ZJ s):ZJ (U4 near i np t vs0 v s).s:=Zg0 (Zaw _ _ _ _ _ (Ziv _ _ _ (Zhc h _)))
theorem Zh5{near:Bool}{i np:Nat}{t:XN}{vs0:List Int}{v:Nat}{s:Sr}(h:ZJ s):v<=(U4 near i np t vs0 v s).v/\(U4 near i np t vs0 v s).v<=v+14/\(U4 near i np t vs0 v s).vs.length<=vs0.length+14/\(U4 near i np t vs0 v s).blk.instrs.length<=11/\(U4 near i np t vs0 v s).blk.phis.length<=3:=by
 have h1:=Zdj np s;have h2:=Zhr i (v+(Tz np s).1) (vs0++ZG (Tz np s).1 v) (Zhc h np);have h3:=Vm (near:=near) (hdB i (v+(Tz np s).1) (vs0++ZG (Tz np s).1 v) (Tz np s).2).cnt (hdB i (v+(Tz np s).1) (vs0++ZG (Tz np s).1 v) (Tz np s).2).s (hdB i (v+(Tz np s).1) (vs0++ZG (Tz np s).1 v) (Tz np s).2).vs (hdB i (v+(Tz np s).1) (vs0++ZG (Tz np s).1 v) (Tz np s).2).v (hdB i (v+(Tz np s).1) (vs0++ZG (Tz np s).1 v) (Tz np s).2).ins;rw[List.length_append,KX]at h2;refine⟨?_,?_,?_,?_,?_⟩
 ·show v<=(Zt near _ _ _ _ _).2.2.1
  omega
 ·show(Zt near _ _ _ _ _).2.2.1<=v+14
  omega
 ·show(Zt near _ _ _ _ _).2.1.length<=vs0.length+14
  omega
 ·show(Zt near _ _ _ _ _).1.length<=11
  omega
 ·show(Uw (Tz np s).1 v).length<=3
  rw[Ke];exact h1
end Go.Proofs.YtkehcdfalcakmaaGreatDoor
