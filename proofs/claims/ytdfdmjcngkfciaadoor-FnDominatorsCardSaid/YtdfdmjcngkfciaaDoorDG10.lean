import Derived.Test.YtdfdmjcngkfciaaDoorDG9
import Derived.Test.YtdfdmjcngkfciaaDoorML1
import Derived.Test.YtdfdmjcngkfciaaDoorID1
import Derived.Test.YtdfdmjcngkfciaaDoorDM4
import Derived.Test.YtdfdmjcngkfciaaDoorW14b
import Derived.Test.YtdfdmjcngkfciaaDoorDG2
namespace Go.Proofs.YtdfdmjcngkfciaaDoor
open Go.RowKit
theorem OkF.exD {xs:List Blk} (h:OkF xs):∀b,b<xs.length→(∃a,Idm (tgN xs) a b)∨∀c,Dom (tgN xs) c b→c=b:=fun b hb=>by
 classical
 have hw:∀b,b<xs.length→∀x,x<xs.length→(hasN (addsN (fun _=>0) ((List.range xs.length).filter fun x=>decide (Av (tgN xs) x b))) x=true↔Av (tgN xs) x b):=fun b _ x hx=>by
  rw [has_adds,has_none,Bool.or_false,decide_eq_true_eq,List.mem_filter,List.mem_range,decide_eq_true_eq]
  exact ⟨fun q=>q.2,fun q=>⟨hx,q⟩⟩
 have:=near_isIdm h.top.2.2.1 h.top.1 h.re h.top.2.2.2 (Ws:=fun b=>addsN (fun _=>0) ((List.range xs.length).filter fun x=>decide (Av (tgN xs) x b))) hw
 rcases this.get b hb with ⟨a,ha,_⟩ | ⟨q,_⟩
 ·exact Or.inl ⟨a,ha⟩
 ·exact Or.inr q
noncomputable def idsP (xs:List Blk):List Int:=(List.range xs.length).map (idomP ((List.range xs.length).map (domL (tgN xs) xs.length)))
theorem ter_tgt {n i:Nat} {t:Ter} (h:TerK n i t):(∀z∈t.targets,0≤z∧z<(n:Int))∧t.targets.Nodup∧(i+1<n→((i+1:Nat):Int)∈t.targets):=by
 rcases h with ⟨rfl,h⟩ | ⟨q,rfl,h1,h2,h3⟩ | ⟨q,r,rfl,h1,h2,h3,h4,h5,h6,h7⟩
 ·exact ⟨fun z hz=>by simp [Ter.targets] at hz,by simp [Ter.targets],fun k=>absurd k h⟩
 ·refine ⟨fun z hz=>?_,by simp [Ter.targets],fun k=>?_⟩
  ·simp [Ter.targets] at hz
   omega
  ·rw [h3 k]
   simp [Ter.targets]
 ·refine ⟨fun z hz=>?_,?_,fun k=>?_⟩
  ·simp [Ter.targets] at hz
   omega
  ·simp [Ter.targets]
   omega
  ·rcases h6 with e | e<;>subst e<;>simp [Ter.targets]
theorem sk_ok {n:Nat} {ts:List Ter} (hl:ts.length=n) (h1:1≤n) (hn:n≤1000) (h:∀j (h:j<ts.length),TerK n j ts[j]):OkF (ts.map blk0):=by
 have hm:∀x∈ts.map blk0,(∀z∈x.term.targets,0≤z∧z<(n:Int))∧x.term.targets.Nodup:=fun x hx=>by
  obtain ⟨t,ht,rfl⟩:=List.mem_map.1 hx
  obtain ⟨j,hj,rfl⟩:=List.getElem_of_mem ht
  have:=ter_tgt (h j hj)
  exact ⟨this.1,this.2.1⟩
 have hl2:(ts.map blk0).length=n:=by simpa using hl
 refine ⟨by omega,by omega,fun x hx t ht=>?_,fun x hx=>?_⟩
 ·rw [hl2];exact (hm x hx).1 t ht
 ·rw [hl2];exact hm x hx
theorem sk_id {n:Nat} {ts:List Ter} (hl:ts.length=n) (h1:1≤n) (hn:n≤1000) (h:∀j (h:j<ts.length),TerK n j ts[j]) {b:Nat} (h0:0<b) (hb:b<n):∃c:Nat,(idsP (ts.map blk0)).getD b 0=(c:Int)∧c<b:=by
 have hl2:(ts.map blk0).length=n:=by simpa using hl
 have ok:=sk_ok hl h1 hn h
 have hst:∀j,j+1<n→j+1∈tgN (ts.map blk0) j:=fun j hj=>by
  have hjl:j<ts.length:=by omega
  rw [tgN_at (by rw [hl2];omega),List.getElem_map]
  have:=(ter_tgt (h j hjl)).2.2 hj
  exact List.mem_map.2 ⟨_,this,by simp⟩
 have hre:∀j,j<n→Re (tgN (ts.map blk0)) j:=fun j=>by
  induction j with
  | zero=>exact fun _=>Re.root
  | succ j ih=>exact fun hj=>Re.step (ih (by omega)) (hst j hj)
 have hid:=isIdm_model ok.re ok.exD
 obtain ⟨c,e,hc,hrc,hlt,hd⟩:=up_some hid ok.re (hre b hb) (by omega)
 refine ⟨c,e,?_⟩
 have hcb:c≠b:=fun e=>by rw [e] at hlt;omega
 have hdb:=(hd c hcb).2 (dom_self hrc)
 by_cases hcl:c<b
 ·exact hcl
 ·exfalso
  have:∀j,j≤b→Av (tgN (ts.map blk0)) c j:=fun j=>by
   induction j with
   | zero=>exact fun _=>Av.root (by omega)
   | succ j ih=>exact fun hj=>Av.step (ih (by omega)) (hst j (by omega)) (by omega)
  exact hdb.no (this b (Nat.le_refl _))
theorem ids_len (xs:List Blk):(idsP xs).length=xs.length:=by simp [idsP]
theorem own_apart {w:World} {base base' t t' sz sz' n n':Nat} {v v':Value} {cs cs':List Value} (h:w.ownsRow base t sz v n cs) (h':w.ownsRow base' t' sz' v' n' cs') (ht:t≠t') {b:Nat} (e:v.ownBlock=some b):v'.ownBlock≠some b:=fun e'=>by
 obtain ⟨_,h | ⟨g,cap,cur,rfl,hg,hh,hc⟩⟩:=h
 ·rw [h.1] at e;cases e
 obtain ⟨_,h' | ⟨g',cap',cur',rfl,hg',hh',hc'⟩⟩:=h'
 ·rw [h'.1] at e';cases e'
 cases e
 cases e'
 rw [hh] at hh'
 injection hh' with hh'
 injection hh' with _ h2 _
 exact ht h2
theorem own_box {w:World} {base t t' sz n b:Nat} {v:Value} {cs:List Value} {ca:Array Value} (h:w.ownsRow base t sz v n cs) (h':Bx w b ca t') (ht:t≠t'):v.ownBlock≠some b:=fun e=>by
 obtain ⟨_,h | ⟨g,cap,cur,rfl,hg,hh,hc⟩⟩:=h
 ·rw [h.1] at e;cases e
 cases e
 unfold Bx at h'
 rw [hh] at h'
 injection h' with hh'
 injection hh' with _ h2 _
 exact ht h2
structure GoP (w wr:World) (sb B:Nat) (s:Sr) (fb:Nat) (vG:Value) (xs:List Blk) (vi:Value) (ids:List Int):Prop where
 dr:DrA wr sb B s
 gr:w.grownBy wr (some sb)
 bw:B≤w.heap.size
 res:Bx wr w.heap.size #[.int .i64 0,.slice none 0 0] 25
 fbx:Bx wr fb #[.int .i64 0,vG] 25
 fbb:w.heap.size<fb
 bl:wr.ownsRow w.heap.size 41 6 vG xs.length (blksV nilV nilV xs)
 id:wr.ownsRow w.heap.size 2 1 vi ids.length (intsV ids)
 emp:∀x∈xs,x.phis=[]∧x.instrs=[]
theorem GoP.start {w wr:World} {sb B:Nat} {s:Sr} {fb G n c:Nat} {xs:List Blk} {vi:Value} {ids:List Int} (h:GoP w wr sb B s fb (.slice (some ⟨G,0,none⟩) n c) xs vi ids) :
  ∃lab,GoF w (wr.alloc (.cells #[] 60)) lab sb B s fb 0 G c xs nilV nilV (fun _=>nilV) (.slice (some ⟨wr.heap.size,0,none⟩) 0 0) nilV [] vi ids:=by
 have hnl:xs.length=n:=by
  rcases h.bl.2 with ⟨e,_⟩ | ⟨_,_,_,e,_⟩
  ·cases e
  ·cases e;rfl
 subst hnl
 have hGi:vi.ownBlock≠some G:=own_apart h.bl h.id (by decide) rfl
 have hGR:G≠w.heap.size:=fun e=>own_box h.bl h.res (by decide) (by rw [←e];rfl)
 have hGF:G≠fb:=fun e=>own_box h.bl h.fbx (by decide) (by rw [←e];rfl)
 have hiR:=own_box h.id h.res (by decide)
 have hiF:=own_box h.id h.fbx (by decide)
 have hGl:=(h.bl.lt G rfl).2
 have hRl:=h.res.lt
 have hFl:=h.fbx.lt
 have hil:∀b,vi.ownBlock=some b→b<wr.heap.size:=fun b e=>(h.id.lt b e).2
 have hl0:∀b,b≠G→vi.ownBlock≠some b→b≠wr.heap.size→(if b=G then (1,0,0) else if vi.ownBlock=some b then (7,0,0) else if b=wr.heap.size then (6,0,0) else (0,0,0):Nat × Nat × Nat)=(0,0,0):=fun b h1 h2 h3=>by rw [if_neg h1,if_neg h2,if_neg h3]
 have k:SpL wr (wr.alloc (.cells #[] 60)) (fun _=>(0,0,0)) (fun _=>(0,0,0)) w.heap.size (fun _=>True):=SpL.box _
 refine ⟨fun b=>if b=G then (1,0,0) else if vi.ownBlock=some b then (7,0,0) else if b=wr.heap.size then (6,0,0) else (0,0,0),h.dr.box _,grown2 h.gr (World.grownBy_alloc _ _ _),h.bw,h.res.box _,hl0 _ (Ne.symm hGR) hiR (by omega),h.fbx.box _,hl0 _ (Ne.symm hGF) hiF (by omega),h.fbb,⟨⟨h.bl.alloc _,fun b e=>?_⟩,fun i hi=>?_,fun i hi=>?_,fun i hi j hj=>?_⟩,⟨?_,fun b e=>?_⟩,fun i hi=>absurd hi (by simp),⟨h.id.alloc _,fun b e=>?_⟩,fun b hb=>?_,fun j _=>⟨rfl,rfl⟩⟩
 ·cases e
  exact if_pos rfl
 ·rw [(h.emp _ (List.getElem_mem hi)).1]
  exact ⟨World.ownsRow_nil _ _ _ _,fun b e=>by cases e⟩
 ·rw [(h.emp _ (List.getElem_mem hi)).2]
  exact ⟨World.ownsRow_nil _ _ _ _,fun b e=>by cases e⟩
 ·rw [(h.emp _ (List.getElem_mem hi)).1] at hj
  exact absurd hj (by simp)
 ·have:=World.ownsRow_lit (base:=w.heap.size) (e:=60) (size:=1) wr #[] 0 h.gr.size (by simp) rfl
  simpa [flatI] using this
 ·cases e
  dsimp only
  rw [if_neg (by omega),if_neg (fun e=>by have:=hil _ e;omega),if_pos rfl]
 ·rw [if_neg (fun e2=>hGi (by rw [←e2];exact e)),if_pos e]
 ·rw [World.size_alloc] at hb
  exact hl0 b (by omega) (fun e=>by have:=hil _ e;omega) (by omega)
end Go.Proofs.YtdfdmjcngkfciaaDoor

namespace Go.Proofs.YtdfdmjcngkfciaaDoor
open Go.RowKit
set_option maxHeartbeats 4000000 in
theorem instr_any (sb B:Nat) (s:Sr) (a:Option Addr) (n c:Nat) (vs:List Int) (L' B':Nat) (dst:Int) (near:Bool) (w:World) (h:Hid (DrA w sb B s)) (hv:Hid (IntsAt w L' B' a vs)) (hx:Hid (n=vs.length)) (hn:n≤5000) (hL:sb<L') (hB:B'≤w.heap.size) :
  Calls Tryd.prog 47 #[.pointer (some ⟨sb,0,none⟩),.slice a n c,.int .i64 dst,.bool near] w fun e w'=>e=.returned (instrP s vs dst near).1.agg∧DrA w' sb B (instrP s vs dst near).2∧w.grownBy w' (some sb):=by
 have HP:Hid (instrP s vs dst near=insK (nextP s 14).1 (pickP (nextP s 14).2 vs near).1 (pickP (pickP (nextP s 14).2 vs near).2 vs near).1 n dst (pickP (pickP (nextP s 14).2 vs near).2 vs near).2):=hide (by unfold instrP;rw [←hx.out])
 have HSB:Hid (B≤w.heap.size):=hide h.out.sB
 go_enter Tryd.func47,Tryd.ntmps47
 go_wp2_with fail
 have HB0:=hide (h.out.box (.cells #[.int .i64 0,.int .i64 0,.int .i64 0,.int .i64 0,.int .i64 0] 68))
 refine (next_a sb B s 14 _ HB0 (by omega) (by omega)).mono ?_
 rintro e w1 ⟨rfl,hd,hg⟩
 have HC0:Hid ((∀q,q<5→w1.cell? ⟨w.heap.size,q,none⟩=some (.int .i64 0))∧∀q,w1.frozen? ⟨w.heap.size,q,none⟩=false):=hide (by
  have hb:=hg.block w.heap.size (by simp) (fun e=>by have:=h.out.bB;have:=h.out.sB;injection e;omega)
  refine ⟨fun q hq=>?_,fun q=>?_⟩
  ·rw [cell_of hb]
   rcases q with _ | _ | _ | _ | _ | q<;>first | (simp [go_sem];done) | omega
  ·rw [World.frozen?_of_block (a:=⟨w.heap.size,q,none⟩) hb]
   exact (Thaw.start w).alloc _ _ _ _ (Nat.le_refl _))
 have hlt:=next_lt s (n:=14) (by omega)
 obtain ⟨k,s1,hrs⟩:∃r s',nextP s 14=(r,s'):=⟨_,_,rfl⟩
 rw [hrs] at hd HP hlt ⊢
 dsimp only at hd HP hlt ⊢
 have HD1:=hide hd
 have HG1:=hide (grown_box hg)
 have HV1:=hide (hv.out.grown (grown_box hg) hL hB)
 have hsz1:Hid (w.heap.size+1≤w1.heap.size):=hide (by have:=hg.size;simpa using this)
 clear hd hg hrs HB0 hv
 go_wp2_with fail
 refine (pickD_any sb B s1 a n c vs L' B' near w1 HD1 HV1 hx hn hL (Nat.le_trans hB HG1.out.size)).mono ?_
 rintro e w2 ⟨rfl,hd,hg⟩
 obtain ⟨xa,s2,hrs⟩:∃r s',pickP s1 vs near=(r,s'):=⟨_,_,rfl⟩
 rw [hrs] at hd HP ⊢
 dsimp only at hd HP ⊢
 have HC1:Hid ((∀q,q<5→w2.cell? ⟨w.heap.size,q,none⟩=some (.int .i64 0))∧∀q,w2.frozen? ⟨w.heap.size,q,none⟩=false):=hide (by
  have hb:=hg.block w.heap.size (by have:=hsz1.out;omega) (fun e=>by have:=h.out.bB;have:=h.out.sB;injection e;omega)
  exact ⟨fun q hq=>(cell_of hb).trans (HC0.out.1 q hq),fun q=>(World.frozen?_of_block (a:=⟨w.heap.size,q,none⟩) hb).trans (HC0.out.2 q)⟩)
 have HD2:=hide hd
 have HG2:=hide (grown2 HG1.out hg)
 have HV2:=hide (HV1.out.grown hg hL (Nat.le_trans hB HG1.out.size))
 have hsz2:Hid (w.heap.size+1≤w2.heap.size):=hide (Nat.le_trans hsz1.out hg.size)
 clear hd hg hrs HD1 HG1 HV1 HC0 hsz1
 go_wp2_with fail
 refine (pickD_any sb B s2 a n c vs L' B' near w2 HD2 HV2 hx hn hL (Nat.le_trans hB HG2.out.size)).mono ?_
 rintro e w3 ⟨rfl,hd,hg⟩
 obtain ⟨xb,s3,hrs⟩:∃r s',pickP s2 vs near=(r,s'):=⟨_,_,rfl⟩
 rw [hrs] at hd HP ⊢
 dsimp only at hd HP ⊢
 have HC2:Hid ((∀q,q<5→w3.cell? ⟨w.heap.size,q,none⟩=some (.int .i64 0))∧∀q,w3.frozen? ⟨w.heap.size,q,none⟩=false):=hide (by
  have hb:=hg.block w.heap.size (by have:=hsz2.out;omega) (fun e=>by have:=h.out.bB;have:=h.out.sB;injection e;omega)
  exact ⟨fun q hq=>(cell_of hb).trans (HC1.out.1 q hq),fun q=>(World.frozen?_of_block (a:=⟨w.heap.size,q,none⟩) hb).trans (HC1.out.2 q)⟩)
 have HD3:=hide hd
 have HG3:=hide (grown2 HG2.out hg)
 have hsz3:Hid (w.heap.size+1≤w3.heap.size):=hide (Nat.le_trans hsz2.out hg.size)
 clear hd hg hrs HD2 HG2 HV2 HC1 hsz2
 have HSBR:=hide (show sb≠w.heap.size from fun e=>by have:=h.out.bB;have:=h.out.sB;omega)
 clear h hL hB
 obtain ⟨hcs,hzs⟩:=HC2.out
 have hc0:=hcs 0 (by omega)
 have hc1:=hcs 1 (by omega)
 have hc2:=hcs 2 (by omega)
 have hc3:=hcs 3 (by omega)
 have hc4:=hcs 4 (by omega)
 clear hcs
 have FIN:∀(x0 x1 x2 x3 x4:Value) (sx:Sr) (wx:World),DrA wx sb B sx→w.grownBy wx (some sb)→DrA (((((wx.setCell ⟨w.heap.size,0,none⟩ x0).setCell ⟨w.heap.size,1,none⟩ x1).setCell ⟨w.heap.size,2,none⟩ x2).setCell ⟨w.heap.size,3,none⟩ x3).setCell ⟨w.heap.size,4,none⟩ x4) sb B sx∧w.grownBy (((((wx.setCell ⟨w.heap.size,0,none⟩ x0).setCell ⟨w.heap.size,1,none⟩ x1).setCell ⟨w.heap.size,2,none⟩ x2).setCell ⟨w.heap.size,3,none⟩ x3).setCell ⟨w.heap.size,4,none⟩ x4) (some sb):=fun x0 x1 x2 x3 x4 sx wx hd hg=>by
  have hl:=Nat.le_refl w.heap.size
  have hb:=HSB.out
  exact ⟨((((hd.put hb).put hb).put hb).put hb).put hb,grown_put (grown_put (grown_put (grown_put (grown_put hg hl) hl) hl) hl) hl⟩
 have HFIN:=hide FIN
 clear FIN
 by_cases h2:k<2
 ·rw [insK,if_pos (Or.inl h2)] at HP
  go_wp2_with fail
  refine (const_any sb B s3 w3 HD3).mono ?_
  rintro e w4 ⟨rfl,hd,hg⟩
  obtain ⟨q,s4,hrs⟩:∃r s',constP s3=(r,s'):=⟨_,_,rfl⟩
  rw [hrs] at hd HP ⊢
  dsimp only at hd HP ⊢
  have HC3:Hid ((∀q,q<5→w4.cell? ⟨w.heap.size,q,none⟩=some (.int .i64 0))∧∀q,w4.frozen? ⟨w.heap.size,q,none⟩=false):=hide (by
   have hb:=hg.block w.heap.size (by have:=hsz3.out;omega) (fun e=>HSBR.out (by injection e with e;exact e.symm))
   exact ⟨fun q hq=>(cell_of hb).trans (HC2.out.1 q hq),fun q=>(World.frozen?_of_block (a:=⟨w.heap.size,q,none⟩) hb).trans (HC2.out.2 q)⟩)
  clear hc0 hc1 hc2 hc3 hc4 hzs
  obtain ⟨hcs,hzs⟩:=HC3.out
  have hc0:=hcs 0 (by omega)
  have hc1:=hcs 1 (by omega)
  have hc2:=hcs 2 (by omega)
  have hc3:=hcs 3 (by omega)
  have hc4:=hcs 4 (by omega)
  clear hcs
  have HD4:=hide hd
  have HG4:=hide (grown2 HG3.out hg)
  clear hd hg hrs
  go_wp2
  rw [HP.out]
  refine bodyPost_ret (v:=Ins.agg _) (by simp [Ins.agg,results,Tryd.results47,go_sem,hc0,hc1,hc2,hc3,hc4]) rfl ⟨rfl,?_⟩
  exact HFIN.out _ _ _ _ _ _ _ HD4.out HG4.out
 ·by_cases hn0:n=0
  ·rw [insK,if_pos (Or.inr hn0)] at HP
   have hn0b:((n:Int)==0)=true:=by simp;omega
   subst hn0
   go_wp2_with fail
   refine (const_any sb B s3 w3 HD3).mono ?_
   rintro e w4 ⟨rfl,hd,hg⟩
   obtain ⟨q,s4,hrs⟩:∃r s',constP s3=(r,s'):=⟨_,_,rfl⟩
   rw [hrs] at hd HP ⊢
   dsimp only at hd HP ⊢
   have HC3:Hid ((∀q,q<5→w4.cell? ⟨w.heap.size,q,none⟩=some (.int .i64 0))∧∀q,w4.frozen? ⟨w.heap.size,q,none⟩=false):=hide (by
    have hb:=hg.block w.heap.size (by have:=hsz3.out;omega) (fun e=>HSBR.out (by injection e with e;exact e.symm))
    exact ⟨fun q hq=>(cell_of hb).trans (HC2.out.1 q hq),fun q=>(World.frozen?_of_block (a:=⟨w.heap.size,q,none⟩) hb).trans (HC2.out.2 q)⟩)
   clear hc0 hc1 hc2 hc3 hc4 hzs
   obtain ⟨hcs,hzs⟩:=HC3.out
   have hc0:=hcs 0 (by omega)
   have hc1:=hcs 1 (by omega)
   have hc2:=hcs 2 (by omega)
   have hc3:=hcs 3 (by omega)
   have hc4:=hcs 4 (by omega)
   clear hcs
   have HD4:=hide hd
   have HG4:=hide (grown2 HG3.out hg)
   clear hd hg hrs
   go_wp2
   rw [HP.out]
   refine bodyPost_ret (v:=Ins.agg _) (by simp [Ins.agg,results,Tryd.results47,go_sem,hc0,hc1,hc2,hc3,hc4]) rfl ⟨rfl,?_⟩
   exact HFIN.out _ _ _ _ _ _ _ HD4.out HG4.out
  ·rw [insK,if_neg (fun h=>h.elim h2 hn0)] at HP
   have hn0b:((n:Int)==0)=false:=by simp;omega
   clear hn0
   by_cases e2:k=2
   ·rw [if_pos e2] at HP
    subst e2
    go_wp2_with fail
    refine (next_a sb B s3 8 w3 HD3 (by omega) (by omega)).mono ?_
    rintro e w4 ⟨rfl,hd,hg⟩
    obtain ⟨q,s4,hrs⟩:∃r s',nextP s3 8=(r,s'):=⟨_,_,rfl⟩
    rw [hrs] at hd HP ⊢
    dsimp only at hd HP ⊢
    have HC3:Hid ((∀q,q<5→w4.cell? ⟨w.heap.size,q,none⟩=some (.int .i64 0))∧∀q,w4.frozen? ⟨w.heap.size,q,none⟩=false):=hide (by
     have hb:=hg.block w.heap.size (by have:=hsz3.out;omega) (fun e=>HSBR.out (by injection e with e;exact e.symm))
     exact ⟨fun q hq=>(cell_of hb).trans (HC2.out.1 q hq),fun q=>(World.frozen?_of_block (a:=⟨w.heap.size,q,none⟩) hb).trans (HC2.out.2 q)⟩)
    clear hc0 hc1 hc2 hc3 hc4 hzs
    obtain ⟨hcs,hzs⟩:=HC3.out
    have hc0:=hcs 0 (by omega)
    have hc1:=hcs 1 (by omega)
    have hc2:=hcs 2 (by omega)
    have hc3:=hcs 3 (by omega)
    have hc4:=hcs 4 (by omega)
    clear hcs
    have HD4:=hide hd
    have HG4:=hide (grown2 HG3.out hg)
    clear hd hg hrs
    go_wp2
    rw [HP.out]
    refine bodyPost_ret (v:=Ins.agg _) (by simp [Ins.agg,results,Tryd.results47,go_sem,hc0,hc1,hc2,hc3,hc4]) rfl ⟨rfl,?_⟩
    exact HFIN.out _ _ _ _ _ _ _ HD4.out HG4.out
   ·rw [if_neg e2] at HP
    have b2:(k==2)=false:=by simpa using e2
    by_cases e9:k=9
    ·rw [if_pos e9] at HP
     subst e9
     go_wp2
     rw [HP.out]
     refine bodyPost_ret (v:=Ins.agg _) (by simp [Ins.agg,results,Tryd.results47,go_sem,hc0,hc1,hc2,hc3,hc4]) rfl ⟨rfl,?_⟩
     exact HFIN.out _ _ _ _ _ _ _ HD3.out HG3.out
    ·rw [if_neg e9] at HP
     have b9:(k==9)=false:=by simpa using e9
     by_cases e10:k=10
     ·rw [if_pos e10] at HP
      subst e10
      go_wp2
      rw [HP.out]
      refine bodyPost_ret (v:=Ins.agg _) (by simp [Ins.agg,results,Tryd.results47,go_sem,hc0,hc1,hc2,hc3,hc4]) rfl ⟨rfl,?_⟩
      exact HFIN.out _ _ _ _ _ _ _ HD3.out HG3.out
     ·rw [if_neg e10] at HP
      have b10:(k==10)=false:=by simpa using e10
      by_cases e11:k=11
      ·rw [if_pos e11] at HP
       subst e11
       go_wp2
       rw [HP.out]
       refine bodyPost_ret (v:=Ins.agg _) (by simp [Ins.agg,results,Tryd.results47,go_sem,hc0,hc1,hc2,hc3,hc4]) rfl ⟨rfl,?_⟩
       exact HFIN.out _ _ _ _ _ _ _ HD3.out HG3.out
      ·rw [if_neg e11] at HP
       have b11:(k==11)=false:=by simpa using e11
       by_cases e7:k=7
       ·rw [if_pos e7] at HP
        subst e7
        go_wp2_with fail
        refine (next_a sb B s3 2 w3 HD3 (by omega) (by omega)).mono ?_
        rintro e w4 ⟨rfl,hd,hg⟩
        obtain ⟨q,s4,hrs⟩:∃r s',nextP s3 2=(r,s'):=⟨_,_,rfl⟩
        rw [hrs] at hd HP ⊢
        dsimp only at hd HP ⊢
        have HC3:Hid ((∀q,q<5→w4.cell? ⟨w.heap.size,q,none⟩=some (.int .i64 0))∧∀q,w4.frozen? ⟨w.heap.size,q,none⟩=false):=hide (by
         have hb:=hg.block w.heap.size (by have:=hsz3.out;omega) (fun e=>HSBR.out (by injection e with e;exact e.symm))
         exact ⟨fun q hq=>(cell_of hb).trans (HC2.out.1 q hq),fun q=>(World.frozen?_of_block (a:=⟨w.heap.size,q,none⟩) hb).trans (HC2.out.2 q)⟩)
        clear hc0 hc1 hc2 hc3 hc4 hzs
        obtain ⟨hcs,hzs⟩:=HC3.out
        have hc0:=hcs 0 (by omega)
        have hc1:=hcs 1 (by omega)
        have hc2:=hcs 2 (by omega)
        have hc3:=hcs 3 (by omega)
        have hc4:=hcs 4 (by omega)
        clear hcs
        have HD4:=hide hd
        have HG4:=hide (grown2 HG3.out hg)
        clear hd hg hrs
        by_cases hq:q=0
        ·rw [if_pos hq] at HP
         have hqb:(q==0)=true:=by simpa using hq
         clear hq
         go_wp2
         rw [HP.out]
         refine bodyPost_ret (v:=Ins.agg _) (by simp [Ins.agg,results,Tryd.results47,go_sem,hc0,hc1,hc2,hc3,hc4]) rfl ⟨rfl,?_⟩
         exact HFIN.out _ _ _ _ _ _ _ HD4.out HG4.out
        ·rw [if_neg hq] at HP
         have hqb:(q==0)=false:=by simpa using hq
         clear hq
         go_wp2
         rw [HP.out]
         refine bodyPost_ret (v:=Ins.agg _) (by simp [Ins.agg,results,Tryd.results47,go_sem,hc0,hc1,hc2,hc3,hc4]) rfl ⟨rfl,?_⟩
         exact HFIN.out _ _ _ _ _ _ _ HD4.out HG4.out
       ·rw [if_neg e7] at HP
        have b7:(k==7)=false:=by simpa using e7
        by_cases e4:k=4
        ·subst e4
         skip
         go_wp2
         rw [HP.out]
         refine bodyPost_ret (v:=Ins.agg _) (by simp [Ins.agg,results,Tryd.results47,go_sem,hc0,hc1,hc2,hc3,hc4]) rfl ⟨rfl,?_⟩
         exact HFIN.out _ _ _ _ _ _ _ HD3.out HG3.out
        ·skip
         have b4:(k==4)=false:=by simpa using e4
         by_cases e5:k=5
         ·subst e5
          skip
          go_wp2
          rw [HP.out]
          refine bodyPost_ret (v:=Ins.agg _) (by simp [Ins.agg,results,Tryd.results47,go_sem,hc0,hc1,hc2,hc3,hc4]) rfl ⟨rfl,?_⟩
          exact HFIN.out _ _ _ _ _ _ _ HD3.out HG3.out
         ·skip
          have b5:(k==5)=false:=by simpa using e5
          by_cases e6:k=6
          ·subst e6
           skip
           go_wp2
           rw [HP.out]
           refine bodyPost_ret (v:=Ins.agg _) (by simp [Ins.agg,results,Tryd.results47,go_sem,hc0,hc1,hc2,hc3,hc4]) rfl ⟨rfl,?_⟩
           exact HFIN.out _ _ _ _ _ _ _ HD3.out HG3.out
          ·skip
           have b6:(k==6)=false:=by simpa using e6
           by_cases e8:k=8
           ·subst e8
            skip
            go_wp2
            rw [HP.out]
            refine bodyPost_ret (v:=Ins.agg _) (by simp [Ins.agg,results,Tryd.results47,go_sem,hc0,hc1,hc2,hc3,hc4]) rfl ⟨rfl,?_⟩
            exact HFIN.out _ _ _ _ _ _ _ HD3.out HG3.out
           ·skip
            have b8:(k==8)=false:=by simpa using e8
            rw [if_neg (fun h=>h.elim e4 e5),if_neg e6,if_neg e8] at HP
            go_wp2
            rw [HP.out]
            refine bodyPost_ret (v:=Ins.agg _) (by simp [Ins.agg,results,Tryd.results47,go_sem,hc0,hc1,hc2,hc3,hc4]) rfl ⟨rfl,?_⟩
            exact HFIN.out _ _ _ _ _ _ _ HD3.out HG3.out
end Go.Proofs.YtdfdmjcngkfciaaDoor

namespace Go.Proofs.YtdfdmjcngkfciaaDoor
open Go.RowKit
def GoA (w wr:World) (sb B:Nat) (gd:GdR) (fb G c:Nat) (ve vi:Value) (ids:List Int):Prop:=∃lab pv iv av ev,GoF w wr lab sb B gd.s fb gd.v G c gd.xs pv iv av ve ev gd.ends vi ids
def GoV (w wr:World) (sb B:Nat) (gd:GdR) (fb G c:Nat) (ve vi:Value) (ids:List Int) (vv:Value) (vs:List Int):Prop:=∃lab pv iv av ev,GoF w wr lab sb B gd.s fb gd.v G c gd.xs pv iv av ve ev gd.ends vi ids∧RowL wr lab (5,gd.ends.length,0) w.heap.size 2 1 vv vs.length (intsV vs)
def GoS (w wr:World) (sb B:Nat) (s:Sr) (v:Nat) (gd:GdR) (fb G c:Nat) (ve vi:Value) (ids:List Int) (xb:Nat) (t:Ter) (ps:List Ph) (is:List Ins) (vv:Value) (vs:List Int):Prop:=∃lab pv iv av ev p q,GoB w wr lab sb B s fb v G c gd.xs pv iv av ve ev gd.ends vi ids xb p q t ps is vv vs
variable {w wr w' : World} {sb B : Nat} {gd : GdR} {fb G c : Nat} {ve vi : Value} {ids : List Int} {vv : Value} {vs : List Int}
theorem SpL.named {base:Nat} {lab:Nat→Nat × Nat × Nat} (o:Obj) (L:Nat × Nat × Nat):SpL wr (wr.alloc o) lab (fun b=>if b=wr.heap.size then L else lab b) base (fun _=>True) :=
 ⟨(World.grownBy_alloc wr o none).size,fun b _ h2 _=>⟨(World.grownBy_alloc wr o none).block b h2 (by simp),if_neg (by omega)⟩,fun h b hb=>by
  rw [World.size_alloc] at hb
  exact (if_neg (by omega)).trans (h b (by omega))⟩
theorem GoA.fn (h:GoA w wr sb B gd fb G c ve vi ids):wr.cell? ⟨fb,1,none⟩=some (.slice (some ⟨G,0,none⟩) gd.xs.length c)∧w.heap.size≤wr.heap.size:=by
 obtain ⟨lab,pv,iv,av,ev,h⟩:=h
 exact ⟨Bx.cell h.fbx rfl,h.gr.size⟩
theorem GoA.start (h:GoA w wr sb B gd fb G c ve vi ids):GoV w (wr.alloc (.cells #[] 2)) sb B gd fb G c ve vi ids (.slice (some ⟨wr.heap.size,0,none⟩) 0 0) []:=by
 obtain ⟨lab,pv,iv,av,ev,h⟩:=h
 refine ⟨_,pv,iv,av,ev,h.sp (SpL.named (.cells #[] 2) (5,gd.ends.length,0)) trivial trivial (fun _ _ _ _ _=>trivial) (h.dr.box _) (grown2 h.gr (World.grownBy_alloc _ _ _)),?_,fun b e=>?_⟩
 ·have:=World.ownsRow_lit (base:=w.heap.size) (e:=2) (size:=1) wr #[] 0 h.gr.size (by simp) rfl
  simpa [intsV] using this
 ·cases e
  exact if_pos rfl
theorem GoV.own (h:GoV w wr sb B gd fb G c ve vi ids vv vs):wr.ownsRow w.heap.size 2 1 vv vs.length (intsV vs):=by
 obtain ⟨lab,pv,iv,av,ev,h,hr⟩:=h
 exact hr.own
theorem GoV.push {n':Nat} {vv':Value} {vs':List Int} (h:GoV w wr sb B gd fb G c ve vi ids vv vs) (hg:wr.grownBy w' vv.ownBlock) (ho:w'.ownsRow w.heap.size 2 1 vv' n' (intsV vs++intsV vs')) (hn:n'=vs.length+vs'.length) (hat:vv'.ownBlock=vv.ownBlock∨vv'.ownBlock=some wr.heap.size):GoV w w' sb B gd fb G c ve vi ids vv' (vs++vs'):=by
 obtain ⟨lab,pv,iv,av,ev,h,hr⟩:=h
 obtain ⟨lab',hr',k⟩:=hr.grow hg ho hat h.fr
 have hl:∀b,lab b=(0,0,0)→lab b≠(5,gd.ends.length,0):=fun b e=>by rw [e];simp
 have hb:=h.low (hr.below hg (Nat.le_refl _) h.gr.size)
 refine ⟨lab',pv,iv,av,ev,h.sp k (hl _ h.resl) (hl _ h.fbl) (fun b _ _ _ h5=>h5) hb.1 hb.2,?_⟩
 subst hn
 have e:intsV (vs++vs')=intsV vs++intsV vs':=by simp [intsV]
 rw [e,List.length_append]
 exact hr'
theorem GoV.dom (h:GoV w wr sb B gd fb G c ve vi ids vv vs) {i d:Nat} (hi:i<ids.length) (hd:ids.getD i 0=(d:Int)) (hdl:d<gd.ends.length) (h0:0<(gd.ends.getD d []).length) :
  ∃gi ci ge ce gx cx,vi=.slice (some ⟨gi,0,none⟩) ids.length ci∧wr.cell? ⟨gi,i,none⟩=some (.int .i64 d)∧ve=.slice (some ⟨ge,0,none⟩) gd.ends.length ce∧wr.cell? ⟨ge,d,none⟩=some (.slice (some ⟨gx,0,none⟩) (gd.ends.getD d []).length cx)∧gx<wr.heap.size∧∀j u,(intsV (gd.ends.getD d []))[j]?=some u→wr.cell? ((⟨gx,0,none⟩:Addr).add j)=some u:=by
 obtain ⟨lab,pv,iv,av,ev,h,hr⟩:=h
 have e1:gd.ends.getD d []=gd.ends[d]:=by simp [hdl]
 rw [e1] at h0 ⊢
 obtain ⟨gi,ci,ei⟩:=h.id.got (by omega)
 obtain ⟨ge,ce,ee⟩:=h.es.got (by omega)
 have hx:=h.evs d hdl
 obtain ⟨gx,cx,ex⟩:=hx.got h0
 have hid:=h.id
 have hes:=h.es
 subst ei
 subst ee
 rw [ex] at hx
 refine ⟨gi,ci,ge,ce,gx,cx,rfl,hid.cell ?_,rfl,hes.cell ?_,hx.blk.1.2,hx.own.cells rfl⟩
 ·unfold intsV
  rw [←hd]
  simp [hi]
 ·have:=flatI_at (f:=fun i (_:List Int)=>[ev i]) (sz:=1) (fun _ _=>rfl) 0 gd.ends d hdl 0 (by omega)
  rw [Nat.mul_one,Nat.add_zero,Nat.zero_add] at this
  rw [this,←ex]
  rfl
theorem GoV.cells (h:GoV w wr sb B gd fb G c ve vi ids vv vs) (hi:gd.ends.length<gd.xs.length) :
  wr.cell? ⟨G,gd.ends.length*6,none⟩=some (.slice none 0 0)∧wr.cell? ⟨G,gd.ends.length*6+1,none⟩=some (.slice none 0 0)∧wr.cell? ⟨G,gd.ends.length*6+2,none⟩=some (.int .i64 gd.xs[gd.ends.length].term.kind)∧wr.cell? ⟨G,gd.ends.length*6+3,none⟩=some (.int .i64 gd.xs[gd.ends.length].term.a)∧wr.cell? ⟨G,gd.ends.length*6+4,none⟩=some (.int .i64 gd.xs[gd.ends.length].term.to)∧wr.cell? ⟨G,gd.ends.length*6+5,none⟩=some (.int .i64 gd.xs[gd.ends.length].term.els):=by
 obtain ⟨lab,pv,iv,av,ev,h,hr⟩:=h
 have hb:=h.fn.blks
 have hn:=h.nil_ _ (Nat.le_refl _)
 have cc:∀q u,q<6→(bkC (pv gd.ends.length) (iv gd.ends.length) gd.xs[gd.ends.length].term)[q]?=some u→wr.cell? ⟨G,gd.ends.length*6+q,none⟩=some u:=fun q u hq hu=>hb.cell (by
  unfold blksV
  rw [flatI_at (fun _ _=>bkC_len _ _ _) 0 gd.xs _ hi q hq,Nat.zero_add]
  exact hu)
 refine ⟨cc 0 _ (by omega) (by rw [hn.1];rfl),cc 1 _ (by omega) (by rw [hn.2];rfl),cc 2 _ (by omega) rfl,cc 3 _ (by omega) rfl,cc 4 _ (by omega) rfl,cc 5 _ (by omega) rfl⟩
theorem GoV.cells2 {i:Nat} (h:GoV w wr sb B gd fb G c ve vi ids vv vs) (he:gd.ends.length=i) (hi:i<gd.xs.length) :
  wr.cell? ⟨G,i*6,none⟩=some (.slice none 0 0)∧wr.cell? ⟨G,i*6+1,none⟩=some (.slice none 0 0)∧wr.cell? ⟨G,i*6+2,none⟩=some (.int .i64 gd.xs[i].term.kind)∧wr.cell? ⟨G,i*6+3,none⟩=some (.int .i64 gd.xs[i].term.a)∧wr.cell? ⟨G,i*6+4,none⟩=some (.int .i64 gd.xs[i].term.to)∧wr.cell? ⟨G,i*6+5,none⟩=some (.int .i64 gd.xs[i].term.els):=by
 subst he
 exact h.cells hi
theorem GoV.fn (h:GoV w wr sb B gd fb G c ve vi ids vv vs):wr.cell? ⟨fb,1,none⟩=some (.slice (some ⟨G,0,none⟩) gd.xs.length c)∧wr.cell? ⟨fb,0,none⟩=some (.int .i64 gd.v)∧w.heap.size≤wr.heap.size:=by
 obtain ⟨lab,pv,iv,av,ev,h,hr⟩:=h
 exact ⟨Bx.cell h.fbx rfl,Bx.cell h.fbx rfl,h.gr.size⟩
theorem GoV.boxed (h:GoV w wr sb B gd fb G c ve vi ids vv vs) (t:Ter):GoS w (wr.alloc (.cells #[.slice none 0 0,.slice none 0 0,.int .i64 t.kind,.int .i64 t.a,.int .i64 t.to,.int .i64 t.els] 41)) sb B gd.s gd.v gd fb G c ve vi ids wr.heap.size t [] [] vv vs:=by
 obtain ⟨lab,pv,iv,av,ev,h,hr⟩:=h
 have k:SpL wr (wr.alloc (.cells #[.slice none 0 0,.slice none 0 0,.int .i64 t.kind,.int .i64 t.a,.int .i64 t.to,.int .i64 t.els] 41)) lab lab w.heap.size (fun _=>True):=SpL.box _
 have h1:=h.res.lt
 have h2:=h.fbx.lt
 exact ⟨lab,pv,iv,av,ev,_,_,h.box _,⟨Bx.new _ _ _,h.fr _ (Nat.le_refl _),h1,⟨World.ownsRow_nil _ _ _ _,fun b e=>by cases e⟩,⟨World.ownsRow_nil _ _ _ _,fun b e=>by cases e⟩,hr.sp k (fun _ _=>trivial)⟩,by omega⟩
variable {s s' : Sr} {v xb : Nat} {t : Ter} {ps : List Ph} {is : List Ins}
theorem GoB.drew {lab:Nat→Nat × Nat × Nat} {pv iv:Nat→Value} {av:Nat→Nat→Value} {ev:Nat→Value} {p q:Value} {xs:List Blk} {ends:List (List Int)} (h:GoB w wr lab sb B s fb v G c xs pv iv av ve ev ends vi ids xb p q t ps is vv vs):GoB w wr.drew lab sb B s fb v G c xs pv iv av ve ev ends vi ids xb p q t ps is vv vs:=h.call ⟨rfl,rfl,rfl,Nat.le_refl _,fun _ _ _=>rfl⟩ h.f.dr.drew
theorem GoS.dr (h:GoS w wr sb B s v gd fb G c ve vi ids xb t ps is vv vs):DrA wr sb B s:=by
 obtain ⟨lab,pv,iv,av,ev,p,q,h⟩:=h
 exact h.f.dr
theorem GoS.call (h:GoS w wr sb B s v gd fb G c ve vi ids xb t ps is vv vs) (g:wr.grownBy w' (some sb)) (d:DrA w' sb B s'):GoS w w' sb B s' v gd fb G c ve vi ids xb t ps is vv vs:=by
 obtain ⟨lab,pv,iv,av,ev,p,q,h⟩:=h
 exact ⟨lab,pv,iv,av,ev,p,q,h.call g d⟩
theorem GoS.box (h:GoS w wr sb B s v gd fb G c ve vi ids xb t ps is vv vs) (o:Obj):GoS w (wr.alloc o) sb B s v gd fb G c ve vi ids xb t ps is vv vs:=by
 obtain ⟨lab,pv,iv,av,ev,p,q,h⟩:=h
 exact ⟨lab,pv,iv,av,ev,p,q,h.box o⟩
theorem GoS.below (h:GoS w wr sb B s v gd fb G c ve vi ids xb t ps is vv vs) (k:Below wr.heap.size wr w'):GoS w w' sb B s v gd fb G c ve vi ids xb t ps is vv vs:=by
 obtain ⟨lab,pv,iv,av,ev,p,q,h⟩:=h
 exact ⟨lab,pv,iv,av,ev,p,q,h.call ⟨k.os,k.tape,k.output,k.size,fun b hb _=>k.block b hb⟩ (h.f.dr.keep (k.mono h.f.dr.sB))⟩
theorem GoS.drew (h:GoS w wr sb B s v gd fb G c ve vi ids xb t ps is vv vs):GoS w wr.drew sb B s v gd fb G c ve vi ids xb t ps is vv vs:=h.below (Below.refl _ _).drew
theorem GoS.blks (h:GoS w wr sb B s v gd fb G c ve vi ids xb t ps is vv vs):BlksAt wr w.heap.size wr.heap.size (some ⟨G,0,none⟩) gd.xs:=by
 obtain ⟨lab,pv,iv,av,ev,p,q,h⟩:=h
 exact h.f.fn.at_
theorem GoS.fn (h:GoS w wr sb B s v gd fb G c ve vi ids xb t ps is vv vs):(wr.cell? ⟨fb,1,none⟩=some (.slice (some ⟨G,0,none⟩) gd.xs.length c)∧wr.cell? ⟨fb,0,none⟩=some (.int .i64 v)∧∀q,wr.frozen? ⟨fb,q,none⟩=false)∧w.heap.size≤wr.heap.size∧xb<wr.heap.size∧fb<wr.heap.size∧xb≠fb:=by
 obtain ⟨lab,pv,iv,av,ev,p,q,h⟩:=h
 exact ⟨⟨Bx.cell h.f.fbx rfl,Bx.cell h.f.fbx rfl,Bx.thaw h.f.fbx⟩,h.f.gr.size,h.x.bx.lt,h.f.fbx.lt,h.ne⟩
theorem GoS.val (h:GoS w wr sb B s v gd fb G c ve vi ids xb t ps is vv vs) (v':Nat):GoS w (wr.setCell ⟨fb,0,none⟩ (.int .i64 v')) sb B s v' gd fb G c ve vi ids xb t ps is vv vs:=by
 obtain ⟨lab,pv,iv,av,ev,p,q,h⟩:=h
 exact ⟨lab,pv,iv,av,ev,p,q,h.val v'⟩
theorem GoS.vals (h:GoS w wr sb B s v gd fb G c ve vi ids xb t ps is vv vs):wr.ownsRow w.heap.size 2 1 vv vs.length (intsV vs)∧(∃a n,vv=.slice a vs.length n∧IntsAt wr w.heap.size wr.heap.size a vs):=by
 obtain ⟨lab,pv,iv,av,ev,p,q,h⟩:=h
 refine ⟨h.x.xv.own,?_⟩
 obtain ⟨a,n,e⟩:=h.x.xv.form
 subst e
 exact ⟨a,n,rfl,h.x.xv.ints⟩
theorem GoS.pushV {n':Nat} {vv':Value} {x:Int} (h:GoS w wr sb B s v gd fb G c ve vi ids xb t ps is vv vs) (hg:wr.grownBy w' vv.ownBlock) (ho:w'.ownsRow w.heap.size 2 1 vv' n' (intsV vs++[.int .i64 x])) (hn:n'=vs.length+1) (hat:vv'.ownBlock=vv.ownBlock∨vv'.ownBlock=some wr.heap.size):GoS w w' sb B s v gd fb G c ve vi ids xb t ps is vv' (vs++[x]):=by
 obtain ⟨lab,pv,iv,av,ev,p,q,h⟩:=h
 obtain ⟨lab',h'⟩:=h.pushV hg ho hn hat
 exact ⟨lab',pv,iv,av,ev,p,q,h'⟩
end Go.Proofs.YtdfdmjcngkfciaaDoor
