import Derived.Test.YtdfdmjcngkfciaaDoorDG10
namespace Go.Proofs.YtdfdmjcngkfciaaDoor
open Go.RowKit
noncomputable def deadP (dead:Bool) (n:Nat) (ts:List Ter) (s:Sr):List Ter × List Int × Sr :=
 if dead=true then
  if 1<n then (ts++[⟨1,0,1+(nextP s ((n:Int)-1)).1,0⟩],idsP (ts.map blk0)++[0],(nextP s ((n:Int)-1)).2)
  else (ts++[⟨3,0,0,0⟩],idsP (ts.map blk0)++[0],s)
 else (ts,idsP (ts.map blk0),s)
theorem dead_id {dead:Bool} {n:Nat} {ts:List Ter} {s:Sr} (hl:ts.length=n) (h1:1≤n) (hn:n≤1000) (h:∀j (h:j<ts.length),TerK n j ts[j]):(deadP dead n ts s).2.1.length=(deadP dead n ts s).1.length∧(deadP dead n ts s).1.length≤n+1∧n≤(deadP dead n ts s).1.length∧∀b,0<b→b<(deadP dead n ts s).1.length→∃c:Nat,(deadP dead n ts s).2.1.getD b 0=(c:Int)∧c<b:=by
 have hil:(idsP (ts.map blk0)).length=n:=(ids_len _).trans (by simpa using hl)
 have key:∀t:Ter,∀b,0<b→b<(ts++[t]).length→∃c:Nat,(idsP (ts.map blk0)++[0]).getD b 0=(c:Int)∧c<b:=fun t b hb hb2=>by
  by_cases e:b<n
  ·obtain ⟨c,e1,e2⟩:=sk_id hl h1 hn h hb e
   exact ⟨c,by rw [←e1];simp [List.getD,List.getElem?_append_left (by omega:b<(idsP (ts.map blk0)).length)],e2⟩
  ·refine ⟨0,?_,hb⟩
   simp at hb2
   have:b=(idsP (ts.map blk0)).length:=by omega
   subst this
   simp
 unfold deadP
 split
 ·split
  ·refine ⟨by simp [hil,hl],by simp [hl],by simp [hl],key _⟩
  ·refine ⟨by simp [hil,hl],by simp [hl],by simp [hl],key _⟩
 ·exact ⟨hil.trans hl.symm,by show ts.length≤n+1;omega,by show n≤ts.length;omega,fun b h2 h3=>sk_id hl h1 hn h h2 (by have h4:b<ts.length:=h3;omega)⟩
theorem sk_at {w:World} {base g c n:Nat} {xs:List Blk} (h:w.ownsRow base 41 6 (.slice (some ⟨g,0,none⟩) n c) xs.length (blksV nilV nilV xs)) (he:∀x∈xs,x.phis=[]∧x.instrs=[]):BlksAt w base w.heap.size (some ⟨g,0,none⟩) xs:=by
 have:FnL w (fun _=>(1,0,0)) base (.slice (some ⟨g,0,none⟩) n c) xs nilV nilV (fun _=>nilV):=by
  refine ⟨⟨h,fun _ _=>rfl⟩,fun i hi=>?_,fun i hi=>?_,fun i hi j hj=>?_⟩
  ·rw [(he _ (List.getElem_mem hi)).1]
   exact ⟨World.ownsRow_nil _ _ _ _,fun b e=>by cases e⟩
  ·rw [(he _ (List.getElem_mem hi)).2]
   exact ⟨World.ownsRow_nil _ _ _ _,fun b e=>by cases e⟩
  ·rw [(he _ (List.getElem_mem hi)).1] at hj
   exact absurd hj (by simp)
 exact this.at_
theorem blk0_emp (ts:List Ter):∀x∈ts.map blk0,x.phis=[]∧x.instrs=[]:=fun x hx=>by
 obtain ⟨t,_,rfl⟩:=List.mem_map.1 hx
 exact ⟨rfl,rfl⟩
theorem own_belowD {w w':World} {base t sz n:Nat} {v:Value} {cs:List Value} (h:w.ownsRow base t sz v n cs) (hb:Below w.heap.size w w'):w'.ownsRow base t sz v n cs:=own_same h (fun b e=>hb.block b (h.lt b e).2)
theorem GoP.call {w wr w':World} {sb B:Nat} {s s':Sr} {fb:Nat} {vG:Value} {xs:List Blk} {vi:Value} {ids:List Int} (h:GoP w wr sb B s fb vG xs vi ids) (g:wr.grownBy w' (some sb)) (d:DrA w' sb B s'):GoP w w' sb B s' fb vG xs vi ids:=by
 have hb:=h.bw
 have hs:=h.dr.bB
 have hf:=h.fbb
 exact ⟨d,grown2 h.gr g,hb,h.res.grown g (by intro e;injection e;omega),h.fbx.grown g (by intro e;injection e;omega),hf,own_grown h.bl g (by omega),own_grown h.id g (by omega),h.emp⟩
theorem GoP.box {w wr:World} {sb B:Nat} {s:Sr} {fb:Nat} {vG:Value} {xs:List Blk} {vi:Value} {ids:List Int} (h:GoP w wr sb B s fb vG xs vi ids) (o:Obj):GoP w (wr.alloc o) sb B s fb vG xs vi ids :=
 ⟨h.dr.box o,grown2 h.gr (World.grownBy_alloc _ _ _),h.bw,h.res.box o,h.fbx.box o,h.fbb,h.bl.alloc o,h.id.alloc o,h.emp⟩
theorem GoP.put {w wr:World} {sb B:Nat} {s:Sr} {fb:Nat} {vG:Value} {xs:List Blk} {vi:Value} {ids:List Int} {g q:Nat} {u:Value} (h:GoP w wr sb B s fb vG xs vi ids) (hR:w.heap.size<g) (hF:g≠fb) (hG:vG.ownBlock≠some g) (hI:vi.ownBlock≠some g):GoP w (wr.setCell ⟨g,q,none⟩ u) sb B s fb vG xs vi ids:=by
 have hb:=h.bw
 exact ⟨h.dr.put (by omega),grown_put h.gr (by omega),h.bw,h.res.other (by omega),h.fbx.other (Ne.symm hF),h.fbb,ownsRow_setCell_other h.bl hG u,ownsRow_setCell_other h.id hI u,h.emp⟩
theorem GoP.low {w wr w':World} {sb B:Nat} {s:Sr} {fb:Nat} {vG:Value} {xs:List Blk} {vi:Value} {ids:List Int} (h:GoP w wr sb B s fb vG xs vi ids) (k:Below w.heap.size wr w'):DrA w' sb B s∧w.grownBy w' (some sb) :=
 ⟨h.dr.keep (k.mono h.bw),⟨k.os.trans h.gr.os,k.tape.trans h.gr.tape,k.output.trans h.gr.output,Nat.le_trans h.gr.size k.size,fun b h1 h2=>(k.block b h1).trans (h.gr.block b h1 h2)⟩⟩
theorem GoP.pushB {w wr w':World} {sb B:Nat} {s:Sr} {fb n':Nat} {vG v':Value} {xs:List Blk} {vi:Value} {ids:List Int} {t:Ter} (h:GoP w wr sb B s fb vG xs vi ids) (hg:wr.grownBy w' vG.ownBlock) (ho:w'.ownsRow w.heap.size 41 6 v' n' (blksV nilV nilV xs++[.slice none 0 0,.slice none 0 0,.int .i64 t.kind,.int .i64 t.a,.int .i64 t.to,.int .i64 t.els])) (hn:n'=xs.length+1) :
  Bx w' fb #[.int .i64 0,vG] 25∧GoP w (w'.setCell ⟨fb,1,none⟩ v') sb B s fb v' (xs++[blk0 t]) vi ids:=by
 have hb:=h.bw
 have hl:=h.low (grown_below (Below.refl _ _) hg h.bl (Nat.le_refl _) h.gr.size)
 have hR:=h.res.grown hg (fun e=>own_box h.bl h.res (by decide) e.symm)
 have hF:=h.fbx.grown hg (fun e=>own_box h.bl h.fbx (by decide) e.symm)
 have hI:=own_same h.id (fun b e=>hg.block b (h.id.lt b e).2 (fun e2=>own_apart h.bl h.id (by decide) e2.symm e))
 refine ⟨hF,hl.1.put (by have:=h.fbb;omega),grown_put hl.2 (Nat.le_of_lt h.fbb),hb,hR.other (by have:=h.fbb;omega),?_,h.fbb,?_,ownsRow_setCell_other hI (own_box hI hF (by decide)) v',fun x hx=>?_⟩
 ·have:=hF.set 1 v'
  simpa using this
 ·subst hn
  unfold blksV at ho ⊢
  rw [List.length_append,flatI_app]
  exact ownsRow_setCell_other ho (own_box ho hF (by decide)) v'
 ·rcases List.mem_append.1 hx with hx | hx
  ·exact h.emp x hx
  ·simp only [List.mem_cons,List.not_mem_nil,or_false] at hx
   subst hx
   exact ⟨rfl,rfl⟩
theorem GoP.pushI {w wr w':World} {sb B:Nat} {s:Sr} {fb n':Nat} {vG v':Value} {xs:List Blk} {vi:Value} {ids:List Int} {x:Int} (h:GoP w wr sb B s fb vG xs vi ids) (hg:wr.grownBy w' vi.ownBlock) (ho:w'.ownsRow w.heap.size 2 1 v' n' (intsV ids++[.int .i64 x])) (hn:n'=ids.length+1) :
  GoP w w' sb B s fb vG xs v' (ids++[x]):=by
 have hl:=h.low (grown_below (Below.refl _ _) hg h.id (Nat.le_refl _) h.gr.size)
 refine ⟨hl.1,hl.2,h.bw,h.res.grown hg (fun e=>own_box h.id h.res (by decide) e.symm),h.fbx.grown hg (fun e=>own_box h.id h.fbx (by decide) e.symm),h.fbb,own_same h.bl (fun b e=>hg.block b (h.bl.lt b e).2 (fun e2=>own_apart h.bl h.id (by decide) e e2.symm)),?_,h.emp⟩
 subst hn
 rw [List.length_append]
 have e:intsV (ids++[x])=intsV ids++[.int .i64 x]:=by simp [intsV]
 rw [e]
 exact ho
end Go.Proofs.YtdfdmjcngkfciaaDoor
