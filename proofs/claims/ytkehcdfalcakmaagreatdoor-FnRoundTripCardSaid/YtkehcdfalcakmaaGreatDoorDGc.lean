import Derived.Test.YtkehcdfalcakmaaGreatDoorDG3
namespace Go.Proofs.YtkehcdfalcakmaaGreatDoor
open Go.RowKit
noncomputable def Z8(dead:Bool)(n:Nat)(ts:List XN)(s:Sr):List XN × List Int × Sr :=
 if dead=true then
  if 1<n then (ts++[⟨1,0,1+(nextP s ((n:Int)-1)).1,0⟩],JP (ts.map Yf)++[0],(nextP s ((n:Int)-1)).2)
  else (ts++[⟨3,0,0,0⟩],JP (ts.map Yf)++[0],s)
 else (ts,JP (ts.map Yf),s)
theorem Zgn{dead:Bool}{n:Nat}{ts:List XN}{s:Sr}(hl:ts.length=n)(h1:1<=n)(hn:n<=1000)(h:∀j (h:j<ts.length),Wg n j ts[j]):(Z8 dead n ts s).2.1.length=(Z8 dead n ts s).1.length/\(Z8 dead n ts s).1.length<=n+1/\n<=(Z8 dead n ts s).1.length/\∀b,0<b->b<(Z8 dead n ts s).1.length->∃c:Nat,(Z8 dead n ts s).2.1.getD b 0=(c:Int)/\c<b:=by
 have hil:(JP (ts.map Yf)).length=n:=(Za0 _).trans (by simpa using hl);have key:∀t:XN,∀b,0<b->b<(ts++[t]).length->∃c:Nat,(JP (ts.map Yf)++[0]).getD b 0=(c:Int)/\c<b:=fun t b hb hb2=>by
  by_cases e:b<n
  ·obtain⟨c,e1,e2⟩:=ZgZ hl h1 hn h hb e
   exact⟨c,by rw[<-e1];simp[List.getD,List.getElem?_append_left (by omega:b<(JP (ts.map Yf)).length)],e2⟩
  ·refine⟨0,?_,hb⟩
   simp at hb2;have:b=(JP (ts.map Yf)).length:=by omega
   subst this;simp
 unfold Z8;split
 ·split
  ·refine⟨by simp[hil,hl],by simp[hl],by simp[hl],key _⟩
  ·refine⟨by simp[hil,hl],by simp[hl],by simp[hl],key _⟩
 ·exact⟨hil.trans hl.symm,by show ts.length<=n+1;omega,by show n<=ts.length;omega,fun b h2 h3=>ZgZ hl h1 hn h h2 (by have h4:b<ts.length:=h3;omega)⟩
theorem Zib{w:World}{base g c n:Nat}{xs:List Xf}(h:w.ownsRow base 43 6 (.slice (some ⟨g,0,none⟩) n c) xs.length (Xy YH YH xs))(he:∀x∈xs,x.phis=[]/\x.instrs=[]):X8 w base w.heap.size (some ⟨g,0,none⟩) xs:=by
 have:Z5 w (fun _=>(1,0,0)) base (.slice (some ⟨g,0,none⟩) n c) xs YH YH (fun _=>YH):=by
  refine⟨⟨h,fun _ _=>rfl⟩,fun i hi=>?_,fun i hi=>?_,fun i hi j hj=>?_⟩
  ·rw[(he _ (List.getElem_mem hi)).1]
   exact⟨World.ownsRow_nil _ _ _ _,fun b e=>by cases e⟩
  ·rw[(he _ (List.getElem_mem hi)).2]
   exact⟨World.ownsRow_nil _ _ _ _,fun b e=>by cases e⟩
  ·rw[(he _ (List.getElem_mem hi)).1]at hj
   exact absurd hj (by simp)
 exact this.at_
theorem JU(ts:List XN):∀x∈ts.map Yf,x.phis=[]/\x.instrs=[]:=fun x hx=>by
 obtain⟨t,_,rfl⟩:=List.mem_map.1 hx;exact⟨rfl,rfl⟩
theorem ZcI{w w':World}{base t sz n:Nat}{v:Value}{cs:List Value}(h:w.ownsRow base t sz v n cs)(hb:Below w.heap.size w w'):w'.ownsRow base t sz v n cs:=YA h (fun b e=>hb.block b (h.lt b e).2)
theorem We.call{w wr w':World}{sb B:Nat}{s s':Sr}{fb:Nat}{vG:Value}{xs:List Xf}{vi:Value}{ids:List Int}(h:We w wr sb B s fb vG xs vi ids)(g:wr.grownBy w' (some sb))(d:Zs w' sb B s'):We w w' sb B s' fb vG xs vi ids:=by
 have hb:=h.bw;have hs:=h.dr.bB;have hf:=h.fbb;exact⟨d,Yi h.gr g,hb,h.res.grown g (by intro e;injection e;omega),h.fbx.grown g (by intro e;injection e;omega),hf,Tg h.bl g (by omega),Tg h.id g (by omega),h.emp⟩
theorem We.box{w wr:World}{sb B:Nat}{s:Sr}{fb:Nat}{vG:Value}{xs:List Xf}{vi:Value}{ids:List Int}(h:We w wr sb B s fb vG xs vi ids)(o:Obj):We w (wr.alloc o) sb B s fb vG xs vi ids :=
 ⟨h.dr.box o,Yi h.gr (World.grownBy_alloc _ _ _),h.bw,h.res.box o,h.fbx.box o,h.fbb,h.bl.alloc o,h.id.alloc o,h.emp⟩
theorem We.put{w wr:World}{sb B:Nat}{s:Sr}{fb:Nat}{vG:Value}{xs:List Xf}{vi:Value}{ids:List Int}{g q:Nat}{u:Value}(h:We w wr sb B s fb vG xs vi ids)(hR:w.heap.size<g)(hF:g≠fb)(hG:vG.ownBlock≠some g)(hI:vi.ownBlock≠some g):We w (wr.setCell ⟨g,q,none⟩ u) sb B s fb vG xs vi ids:=by
 have hb:=h.bw;exact⟨h.dr.put (by omega),XH h.gr (by omega),h.bw,h.res.other (by omega),h.fbx.other (Ne.symm hF),h.fbb,ownsRow_setCell_other h.bl hG u,ownsRow_setCell_other h.id hI u,h.emp⟩
theorem We.low{w wr w':World}{sb B:Nat}{s:Sr}{fb:Nat}{vG:Value}{xs:List Xf}{vi:Value}{ids:List Int}(h:We w wr sb B s fb vG xs vi ids)(k:Below w.heap.size wr w'):Zs w' sb B s/\w.grownBy w' (some sb) :=
 ⟨h.dr.keep (k.mono h.bw),⟨k.os.trans h.gr.os,k.tape.trans h.gr.tape,k.output.trans h.gr.output,Nat.le_trans h.gr.size k.size,fun b h1 h2=>(k.block b h1).trans (h.gr.block b h1 h2)⟩⟩
theorem We.pushB{w wr w':World}{sb B:Nat}{s:Sr}{fb n':Nat}{vG v':Value}{xs:List Xf}{vi:Value}{ids:List Int}{t:XN}(h:We w wr sb B s fb vG xs vi ids)(hg:wr.grownBy w' vG.ownBlock)(ho:w'.ownsRow w.heap.size 43 6 v' n' (Xy YH YH xs++[.slice none 0 0,.slice none 0 0,.int .i64 t.kind,.int .i64 t.a,.int .i64 t.to,.int .i64 t.els]))(hn:n'=xs.length+1) :
 Bx w' fb #[.int .i64 0,vG] 25/\We w (w'.setCell ⟨fb,1,none⟩ v') sb B s fb v' (xs++[Yf t]) vi ids:=by
 have hb:=h.bw;have hl:=h.low (XG (Below.refl _ _) hg h.bl (Nat.le_refl _) h.gr.size);have hR:=h.res.grown hg (fun e=>Zn h.bl h.res (by decide) e.symm);have hF:=h.fbx.grown hg (fun e=>Zn h.bl h.fbx (by decide) e.symm);have hI:=YA h.id (fun b e=>hg.block b (h.id.lt b e).2 (fun e2=>Ux h.bl h.id (by decide) e2.symm e));refine⟨hF,hl.1.put (by have:=h.fbb;omega),XH hl.2 (Nat.le_of_lt h.fbb),hb,hR.other (by have:=h.fbb;omega),?_,h.fbb,?_,ownsRow_setCell_other hI (Zn hI hF (by decide)) v',fun x hx=>?_⟩
 ·have:=hF.set 1 v'
  simpa using this
 ·subst hn
  unfold Xy at ho |-;rw[List.length_append,Y8];exact ownsRow_setCell_other ho (Zn ho hF (by decide)) v'
 ·rcases List.mem_append.1 hx with hx | hx
  ·exact h.emp x hx
  ·simp only[List.mem_cons,List.not_mem_nil,or_false]at hx
   subst hx;exact⟨rfl,rfl⟩
theorem We.pushI{w wr w':World}{sb B:Nat}{s:Sr}{fb n':Nat}{vG v':Value}{xs:List Xf}{vi:Value}{ids:List Int}{x:Int}(h:We w wr sb B s fb vG xs vi ids)(hg:wr.grownBy w' vi.ownBlock)(ho:w'.ownsRow w.heap.size 2 1 v' n' (Xo ids++[.int .i64 x]))(hn:n'=ids.length+1) :
 We w w' sb B s fb vG xs v' (ids++[x]):=by
 have hl:=h.low (XG (Below.refl _ _) hg h.id (Nat.le_refl _) h.gr.size);refine⟨hl.1,hl.2,h.bw,h.res.grown hg (fun e=>Zn h.id h.res (by decide) e.symm),h.fbx.grown hg (fun e=>Zn h.id h.fbx (by decide) e.symm),h.fbb,YA h.bl (fun b e=>hg.block b (h.bl.lt b e).2 (fun e2=>Ux h.bl h.id (by decide) e e2.symm)),?_,h.emp⟩;subst hn;rw[List.length_append];have e:Xo (ids++[x])=Xo ids++[.int .i64 x]:=by simp[Xo]
 rw[e];exact ho
end Go.Proofs.YtkehcdfalcakmaaGreatDoor
namespace Go.Proofs.YtkehcdfalcakmaaGreatDoor
open Go.RowKit
variable {w wr w' : World} {lab lab' : Nat -> Nat × Nat × Nat} {base : Nat}
def Xf.setPhi(x:Xf)(j:Nat)(p:Ph):Xf:=⟨x.phis.set j p,x.instrs,x.term⟩
theorem Xe{T:Type}(xs:List T)(i:Nat)(x:T)(h:i<(xs.set i x).length):(xs.set i x)[i]=x:=List.getElem_set_self h
theorem Z5.pushArg{v:Value}{xs:List Xf}{pv iv:Nat->Value}{av:Nat->Nat->Value}(h:Z5 w lab base v xs pv iv av)(hf:∀b,w.heap.size<=b->lab b=(0,0,0)){i j g n c n':Nat}(hi:i<xs.length)(hj:j<xs[i].phis.length)(hp:pv i=.slice (some ⟨g,0,none⟩) n c){a':Value}{x:Int}(hg:w.grownBy w' (av i j).ownBlock)(ho:w'.ownsRow base 2 1 a' n' (Xo xs[i].phis[j].args++[.int .i64 x]))(hn:n'=xs[i].phis[j].args.length+1)(hat:a'.ownBlock=(av i j).ownBlock\/a'.ownBlock=some w.heap.size) :
 ∃lab',Z5 (w'.setCell ⟨g,j*2+1,none⟩ a') lab' base v (xs.set i (xs[i].setPhi j ⟨xs[i].phis[j].dst,xs[i].phis[j].args++[x]⟩)) pv iv (fun a b=>if a=i/\b=j then a' else av a b)/\XK w (w'.setCell ⟨g,j*2+1,none⟩ a') lab lab' base (fun b=>lab b≠(4,i,j)/\lab b≠(2,i,0))/\w'.cell? ⟨g,j*2+1,none⟩=some (av i j)/\(∀q,w'.frozen? ⟨g,q,none⟩=false):=by
 obtain⟨lab',hr,k⟩:=(h.args i hi j hj).grow hg ho hat hf;have hph:=h.phis i hi;rw[hp]at hph;have hnl:xs[i].phis.length=n:=by
  rcases hph.own.2 with⟨e,_⟩ | ⟨_,_,_,e,_⟩
  ·cases e
  ·cases e;rfl
 subst hnl;have hgl:=hph.blk.2;have hph':=hph.sp k (fun b e=>by rw[e];simp);have hgl':=hph'.blk.2;have k1:XK w' (w'.setCell ⟨g,j*2+1,none⟩ a') lab' lab' base (fun b=>b≠g):=XK.put _ _ _;have ng:∀b,lab' b≠(2,i,0)->b≠g:=fun b hb e=>hb (by rw[e];exact hgl')
 have keep:∀{L:Nat × Nat × Nat}{t sz:Nat}{u:Value}{m:Nat}{cs:List Value},Xq w lab L base t sz u m cs->L≠(4,i,j)->L≠(2,i,0)->Xq (w'.setCell ⟨g,j*2+1,none⟩ a') lab' L base t sz u m cs:=fun hr h1 h2=>(hr.sp k (fun b e=>by rw[e];exact h1)).sp k1 (fun b e=>ng b (by rw[e];exact h2))
 refine⟨lab',⟨?_,fun a ha=>?_,fun a ha=>?_,fun a ha b hb=>?_⟩,?_,?_,fun q=>hph'.thaw q⟩
 ·have e:Xy pv iv (xs.set i (xs[i].setPhi j ⟨xs[i].phis[j].dst,xs[i].phis[j].args++[x]⟩))=Xy pv iv xs:=by
   unfold Xy;refine List.ext_getElem? (fun r=>?_);have hl:=Zc (f:=fun i (x:Xf)=>Tk (pv i) (iv i) x.term) (sz:=6) (fun _ _=>rfl) 0 xs;have hl2:=Zc (f:=fun i (x:Xf)=>Tk (pv i) (iv i) x.term) (sz:=6) (fun _ _=>rfl) 0 (xs.set i (xs[i].setPhi j ⟨xs[i].phis[j].dst,xs[i].phis[j].args++[x]⟩));rw[List.length_set]at hl2;by_cases hr:r<xs.length*6
   ·have hq:r / 6<xs.length:=by omega
    have hqs:r / 6<(xs.set i (xs[i].setPhi j ⟨xs[i].phis[j].dst,xs[i].phis[j].args++[x]⟩)).length:=by simpa using hq
    have er:r=r / 6*6+r % 6:=by omega
    have hm:r % 6<6:=Nat.mod_lt _ (by decide);rw[er,Xu (sz:=6) (fun _ _=>rfl) 0 _ _ hqs _ hm,Xu (sz:=6) (fun _ _=>rfl) 0 xs _ hq _ hm];by_cases e:i=r / 6
    ·subst e
     rw[Xe];rfl
    ·rw[List.getElem_set_ne e]
   ·rw[List.getElem?_eq_none (by omega),List.getElem?_eq_none (by omega)]
  rw[e,List.length_set];exact keep h.blks (by simp) (by simp)
 ·by_cases e:a=i
  ·subst e
   simp only[Xe];rw[hp];show Xq _ lab' (2,a,0) base 46 2 _ (xs[a].phis.set j _).length (XU _ (xs[a].phis.set j _));rw[List.length_set];have es:XU (fun b=>if True/\b=j then a' else av a b) (xs[a].phis.set j ⟨xs[a].phis[j].dst,xs[a].phis[j].args++[x]⟩)=(XU (av a) xs[a].phis).set (j*2+1) a':=by
    unfold XU;refine Ye (sz:=2) (fun _ _=>rfl) 0 xs[a].phis j hj _ 1 a' (by decide) ?_ (fun m hm hne=>?_)
    ·rw[Nat.zero_add]
     dsimp only;rw[if_pos ⟨trivial,rfl⟩];rfl
    ·rw[Nat.zero_add]
     dsimp only;rw[if_neg (fun h=>hne h.2)]
   rw[es];exact hph'.set _ _
  ·rw[List.getElem_set_ne (fun e2=>e e2.symm)]
   have ha':a<xs.length:=by simpa using ha
   have e2:XU (fun b=>if a=i/\b=j then a' else av a b) xs[a].phis=XU (av a) xs[a].phis:=by
    unfold XU;exact Z2 0 _ (fun m hm=>by dsimp only;rw[if_neg (fun h=>e h.1)])
   rw[e2];exact keep (h.phis a ha') (by simp) (by simp;exact e)
 ·by_cases e:a=i
  ·subst e
   simp only[Xe];exact keep (h.ins a hi) (by simp) (by simp)
  ·rw[List.getElem_set_ne (fun e2=>e e2.symm)]
   exact keep (h.ins a (by simpa using ha)) (by simp) (by simp)
 ·by_cases e:a=i
  ·subst e
   simp only[Xe]at hb |-;have hb':b<xs[a].phis.length:=by simpa [Xf.setPhi]using hb
   by_cases e2:b=j
   ·subst e2
    simp only[Xf.setPhi,Xe];rw[if_pos ⟨trivial,trivial⟩];subst hn;have e3:Xo (xs[a].phis[b].args++[x])=Xo xs[a].phis[b].args++[.int .i64 x]:=by simp[Xo]
    rw[e3,List.length_append];exact hr.sp k1 (fun b e=>ng b (by rw[e];simp))
   ·simp only[Xf.setPhi,List.getElem_set_ne (fun e3=>e2 e3.symm)]
    rw[if_neg (fun h=>e2 h.2)];exact keep (h.args a hi b hb') (by simp;exact e2) (by simp)
  ·simp only[List.getElem_set_ne (fun e2=>e e2.symm)]at hb |-
   rw[if_neg (fun h=>e h.1)];exact keep (h.args a (by simpa using ha) b hb) (by simp;intro h1;exact absurd h1 e) (by simp)
 ·exact(k.trans k1).weak (fun b hb=>⟨hb.1,fun e=>hb.2 (by rw[e];exact hgl)⟩)
 ·refine hph'.cell ?_
  unfold XU;rw[Xu (sz:=2) (fun _ _=>rfl) 0 _ j hj 1 (by decide),Nat.zero_add];rfl
end Go.Proofs.YtkehcdfalcakmaaGreatDoor
namespace Go.Proofs.YtkehcdfalcakmaaGreatDoor
open Go.RowKit
variable {w wr w' : World} {lab lab' : Nat -> Nat × Nat × Nat} {sb B : Nat} {s s' : Sr} {fb vals G c : Nat} {xs : List Xf} {pv iv : Nat -> Value} {av : Nat -> Nat -> Value} {ve : Value} {ev : Nat -> Value} {ends : List (List Int)} {vi : Value} {ids : List Int}
def PrL(w wr:World)(lab:Nat->Nat × Nat × Nat)(pa:Option Addr)(ps:List Int):Prop:=∀q (h:q<ps.length),∃b o,pa=some ⟨b,o,none⟩/\lab b=(0,0,0)/\(w.heap.size<=b/\b<wr.heap.size)/\wr.cell? ⟨b,o+q,none⟩=some (.int .i64 ps[q])
theorem PrL.sp{pa:Option Addr}{ps:List Int}{ok:Nat->Prop}(h:PrL w wr lab pa ps)(k:XK wr w' lab lab' w.heap.size ok)(ho:∀b,lab b=(0,0,0)->b<wr.heap.size->ok b):PrL w w' lab' pa ps:=fun q hq=>by
 obtain⟨b,o,e,hl,hb,hc⟩:=h q hq;have:=k.same b hb.1 hb.2 (ho b hl hb.2);exact⟨b,o,e,this.2.trans hl,⟨hb.1,Nat.lt_of_lt_of_le hb.2 k.size⟩,(Xc this.1).trans hc⟩
theorem J6.belowF(h:J6 w wr lab sb B s fb vals G c xs pv iv av ve ev ends vi ids)(k:Below wr.heap.size wr w'):J6 w w' lab sb B s fb vals G c xs pv iv av ve ev ends vi ids :=
 h.call ⟨k.os,k.tape,k.output,k.size,fun b hb _=>k.block b hb⟩ (h.dr.keep (k.mono h.dr.sB))
theorem PrL.start{pa:Option Addr}{ps:List Int}(h:J6 w wr lab sb B s fb vals G c xs pv iv av ve ev ends vi ids)(hp:Xh w' wr.heap.size w'.heap.size pa ps):PrL w w' lab pa ps:=fun q hq=>by
 obtain⟨b,o,e,hb,hc⟩:=hp q hq;exact⟨b,o,e,h.fr b hb.1,⟨Nat.le_trans h.gr.size hb.1,hb.2⟩,hc⟩
theorem J6.facts{i j g ge np cp ne ce d:Nat}(h:J6 w wr lab sb B s fb vals G c xs pv iv av ve ev ends vi ids)(hi:i<xs.length)(hj:j<xs[i].phis.length)(hp:pv i=.slice (some ⟨g,0,none⟩) np cp)(he:ve=.slice (some ⟨ge,0,none⟩) ne ce)(hd:d<ends.length) :
 wr.cell? ⟨fb,1,none⟩=some (.slice (some ⟨G,0,none⟩) xs.length c)/\wr.cell? ⟨G,i*6,none⟩=some (.slice (some ⟨g,0,none⟩) np cp)/\wr.cell? ⟨g,j*2+1,none⟩=some (av i j)/\wr.cell? ⟨ge,d,none⟩=some (ev d):=by
 have hph:=h.fn.phis i hi;rw[hp]at hph;have hnl:xs[i].phis.length=np:=by
  rcases hph.own.2 with⟨e,_⟩ | ⟨_,_,_,e,_⟩
  ·cases e
  ·cases e;rfl
 subst hnl;have hes:=h.es;rw[he]at hes;have hne:ends.length=ne:=by
  rcases hes.own.2 with⟨e,_⟩ | ⟨_,_,_,e,_⟩
  ·cases e
  ·cases e;rfl
 subst hne;refine⟨Bx.cell h.fbx rfl,h.fn.blks.cell ?_,hph.cell ?_,hes.cell ?_⟩
 ·unfold Xy
  have:=Xu (f:=fun i (x:Xf)=>Tk (pv i) (iv i) x.term) (sz:=6) (fun _ _=>rfl) 0 xs i hi 0 (by decide);rw[Nat.add_zero,Nat.zero_add]at this;rw[this,<-hp];rfl
 ·unfold XU
  rw[Xu (sz:=2) (fun _ _=>rfl) 0 _ j hj 1 (by decide),Nat.zero_add];rfl
 ·have:=Xu (f:=fun i (_:List Int)=>[ev i]) (sz:=1) (fun _ _=>rfl) 0 ends d hd 0 (by decide)
  rw[Nat.mul_one,Nat.add_zero,Nat.zero_add]at this;rw[this];rfl
theorem J6.pushArg{i j g n cc n':Nat}(h:J6 w wr lab sb B s fb vals G c xs pv iv av ve ev ends vi ids)(hi:i<xs.length)(hj:j<xs[i].phis.length)(hp:pv i=.slice (some ⟨g,0,none⟩) n cc){a':Value}{x:Int}(hg:wr.grownBy w' (av i j).ownBlock)(ho:w'.ownsRow w.heap.size 2 1 a' n' (Xo xs[i].phis[j].args++[.int .i64 x]))(hn:n'=xs[i].phis[j].args.length+1)(hat:a'.ownBlock=(av i j).ownBlock\/a'.ownBlock=some wr.heap.size) :
 (w'.cell? ⟨g,j*2+1,none⟩=some (av i j)/\(∀q,w'.frozen? ⟨g,q,none⟩=false))/\∃lab',J6 w (w'.setCell ⟨g,j*2+1,none⟩ a') lab' sb B s fb vals G c (xs.set i (xs[i].setPhi j ⟨xs[i].phis[j].dst,xs[i].phis[j].args++[x]⟩)) pv iv (fun a b=>if a=i/\b=j then a' else av a b) ve ev ends vi ids/\XK wr (w'.setCell ⟨g,j*2+1,none⟩ a') lab lab' w.heap.size (fun b=>lab b≠(4,i,j)/\lab b≠(2,i,0)):=by
 obtain⟨lab',hfn,k,hc,hz⟩:=h.fn.pushArg h.fr hi hj hp hg ho hn hat;have hl:∀b,lab b=(0,0,0)->lab b≠(4,i,j)/\lab b≠(2,i,0):=fun b e=>by rw[e];simp
 have hgb:w.heap.size<=g:=by
  have:=h.fn.phis i hi;rw[hp]at this;exact(this.own.lt g rfl).1
 have hlo:=h.low (((h.fn.args i hi j hj).below hg (Nat.le_refl _) h.gr.size).trans ((Below.refl w.heap.size w').setCell (p:=⟨g,j*2+1,none⟩) hgb a'));refine⟨⟨hc,hz⟩,lab',⟨hlo.1,hlo.2,h.bw,h.res.sp k (Nat.le_refl _) (hl _ h.resl),(k.same _ (Nat.le_refl _) h.res.lt (hl _ h.resl)).2.trans h.resl,?_,(k.same _ (Nat.le_of_lt h.fbb) h.fbx.lt (hl _ h.fbl)).2.trans h.fbl,h.fbb,?_,h.es.sp k (fun b e=>by rw[e];simp),fun m hm=>(h.evs m hm).sp k (fun b e=>by rw[e];simp),h.id.sp k (fun b e=>by rw[e];simp),k.fresh h.fr,h.nil_⟩,k⟩
 ·rw[List.length_set]
  exact h.fbx.sp k (Nat.le_of_lt h.fbb) (hl _ h.fbl)
 ·rw[List.length_set]
  exact hfn
end Go.Proofs.YtkehcdfalcakmaaGreatDoor
namespace Go.Proofs.YtkehcdfalcakmaaGreatDoor
open Go.RowKit
variable {w wr w' : World} {lab : Nat -> Nat × Nat × Nat} {sb B : Nat} {s : Sr} {fb vals G c : Nat} {xs : List Xf} {pv iv : Nat -> Value} {av : Nat -> Nat -> Value} {ve : Value} {ev : Nat -> Value} {ends : List (List Int)} {vi : Value} {ids : List Int}
theorem J6.held8{i j g ge np cp ne ce d bp op k:Nat}{preds:List Int}{u:Value}(h:J6 w wr lab sb B s fb vals G c xs pv iv av ve ev ends vi ids)(hi:i<xs.length)(hj:j<xs[i].phis.length)(hp:pv i=.slice (some ⟨g,0,none⟩) np cp)(he:ve=.slice (some ⟨ge,0,none⟩) ne ce)(hd:d<ends.length)(hq:PrL w wr lab (some ⟨bp,op,none⟩) preds)(hk:k<preds.length)(hu:some u=some (Value.int .i64 preds[k]))(hg:wr.grownBy w' (av i j).ownBlock) :
 (w'.cell? ⟨fb,1,none⟩=some (.slice (some ⟨G,0,none⟩) xs.length c)/\w'.cell? ⟨G,i*6,none⟩=some (.slice (some ⟨g,0,none⟩) np cp)/\w'.cell? ⟨bp,op+k,none⟩=some u/\w'.cell? ⟨ge,d,none⟩=some (ev d)) /\
 ∀a' m,((w'.setCell ⟨g,m,none⟩ a').cell? ⟨fb,1,none⟩=some (.slice (some ⟨G,0,none⟩) xs.length c)/\(w'.setCell ⟨g,m,none⟩ a').cell? ⟨G,i*6,none⟩=some (.slice (some ⟨g,0,none⟩) np cp)/\(w'.setCell ⟨g,m,none⟩ a').cell? ⟨bp,op+k,none⟩=some u/\(w'.setCell ⟨g,m,none⟩ a').cell? ⟨ge,d,none⟩=some (ev d)):=by
 obtain⟨f1,f2,_,f4⟩:=h.facts hi hj hp he hd;obtain⟨b',o',e,hbl,hbb,hbc⟩:=hq k hk;cases e;rw[<-hu]at hbc;have kb:∀b,b<wr.heap.size->lab b≠(4,i,j)->w'.heap[b]?=wr.heap[b]?:=fun b h2 hne=>hg.block b h2 (fun e=>hne ((h.fn.args i hi j hj).lab b e.symm))
 have hG:=h.fn.blks.blk;have hE:(w.heap.size<=ge/\ge<wr.heap.size)/\lab ge=(6,0,0):=by
  have hes:=h.es;rw[he]at hes;exact⟨hes.own.lt ge rfl,hes.lab ge rfl⟩
 have hgp:lab g=(2,i,0):=by
  have:=h.fn.phis i hi;rw[hp]at this;exact this.lab g rfl
 have n1:fb≠g:=fun e=>by have:=h.fbl;rw[e,hgp]at this;simp at this
 have n2:G≠g:=fun e=>by have:=hG.2;rw[e,hgp]at this;simp at this
 have n3:bp≠g:=fun e=>by rw[e,hgp]at hbl;simp at hbl
 have n4:ge≠g:=fun e=>by have:=hE.2;rw[e,hgp]at this;simp at this
 have g1:=(Xc (o:=1) (kb fb h.fbx.lt (by rw[h.fbl];simp))).trans f1;have g2:=(Xc (o:=i*6) (kb G hG.1.2 (by rw[hG.2];simp))).trans f2;have g3:=(Xc (o:=op+k) (kb bp hbb.2 (by rw[hbl];simp))).trans hbc;have g4:=(Xc (o:=d) (kb ge hE.1.2 (by rw[hE.2];simp))).trans f4;refine⟨⟨g1,g2,g3,g4⟩,fun a' m=>⟨?_,?_,?_,?_⟩⟩
 ·exact(Xc (Below.heap_setCell _ _ _ _ n1)).trans g1
 ·exact(Xc (Below.heap_setCell _ _ _ _ n2)).trans g2
 ·exact(Xc (Below.heap_setCell _ _ _ _ n3)).trans g3
 ·exact(Xc (Below.heap_setCell _ _ _ _ n4)).trans g4
end Go.Proofs.YtkehcdfalcakmaaGreatDoor
