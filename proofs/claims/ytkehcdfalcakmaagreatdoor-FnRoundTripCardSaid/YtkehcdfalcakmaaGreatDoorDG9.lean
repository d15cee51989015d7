import Derived.Test.YtkehcdfalcakmaaGreatDoorDG6
namespace Go.Proofs.YtkehcdfalcakmaaGreatDoor
open Go.RowKit
structure J6(w wr:World)(lab:Nat->Nat × Nat × Nat)(sb B:Nat)(s:Sr)(fb vals G c:Nat)(xs:List Xf)(pv iv:Nat->Value)(av:Nat->Nat->Value)(ve:Value)(ev:Nat->Value)(ends:List (List Int))(vi:Value)(ids:List Int):Prop where
 dr:Zs wr sb B s
 gr:w.grownBy wr (some sb)
 bw:B<=w.heap.size
 res:Bx wr w.heap.size #[.int .i64 0,.slice none 0 0] 25
 resl:lab w.heap.size=(0,0,0)
 fbx:Bx wr fb #[.int .i64 vals,.slice (some ⟨G,0,none⟩) xs.length c] 25
 fbl:lab fb=(0,0,0)
 fbb:w.heap.size<fb
 fn:Z5 wr lab w.heap.size (.slice (some ⟨G,0,none⟩) xs.length c) xs pv iv av
 es:Xq wr lab (6,0,0) w.heap.size 150 1 ve ends.length (XW (fun i _=>[ev i]) 0 ends)
 evs:∀i (h:i<ends.length),Xq wr lab (5,i,0) w.heap.size 2 1 (ev i) ends[i].length (Xo ends[i])
 id:Xq wr lab (7,0,0) w.heap.size 2 1 vi ids.length (Xo ids)
 fr:∀b,wr.heap.size<=b->lab b=(0,0,0)
 nil_:∀j,ends.length<=j->pv j=.slice none 0 0/\iv j=.slice none 0 0
structure GoX(wr:World)(lab:Nat->Nat × Nat × Nat)(base i xb:Nat)(p q:Value)(t:XN)(ps:List Ph)(is:List Xz)(vv:Value)(vs:List Int):Prop where
 bx:Bx wr xb #[p,q,.int .i64 t.kind,.int .i64 t.a,.int .i64 t.to,.int .i64 t.els] 43
 bl:lab xb=(0,0,0)
 bb:base<xb
 xp:Xq wr lab (2,i,0) base 46 2 p ps.length (XU YH ps)
 xi:Xq wr lab (3,i,0) base 53 5 q is.length (XD is)
 xv:Xq wr lab (5,i,0) base 2 1 vv vs.length (Xo vs)
variable {w wr w' : World} {lab lab' : Nat -> Nat × Nat × Nat} {ok : Nat -> Prop} {sb B : Nat} {s s' : Sr} {fb vals G c : Nat} {xs : List Xf} {pv iv : Nat -> Value} {av : Nat -> Nat -> Value} {ve : Value} {ev : Nat -> Value} {ends : List (List Int)} {vi : Value} {ids : List Int}
theorem J6.sp(h:J6 w wr lab sb B s fb vals G c xs pv iv av ve ev ends vi ids)(k:XK wr w' lab lab' w.heap.size ok)(hR:ok w.heap.size)(hF:ok fb)
 (ho:∀b,(lab b).1≠0->lab b≠(2,ends.length,0)->lab b≠(3,ends.length,0)->lab b≠(5,ends.length,0)->ok b) (d:Zs w' sb B s') (g:w.grownBy w' (some sb)):J6 w w' lab' sb B s' fb vals G c xs pv iv av ve ev ends vi ids:=by
 refine⟨d,g,h.bw,h.res.sp k (Nat.le_refl _) hR,?_,h.fbx.sp k (Nat.le_of_lt h.fbb) hF,?_,h.fbb,h.fn.sp k ends.length (fun b h1 h0 h3 h4=>?_) (Or.inr (h.nil_ _ (Nat.le_refl _))),h.es.sp k (fun b e=>ho b (by rw[e];simp) (by rw[e];simp) (by rw[e];simp) (by rw[e];simp)),fun i hi=>(h.evs i hi).sp k (fun b e=>ho b (by rw[e];simp) (by rw[e];simp) (by rw[e];simp) (by rw[e];simp;omega)),h.id.sp k (fun b e=>ho b (by rw[e];simp) (by rw[e];simp) (by rw[e];simp) (by rw[e];simp)),k.fresh h.fr,h.nil_⟩
 ·exact(k.same _ (Nat.le_refl _) h.res.lt hR).2.trans h.resl
 ·exact(k.same _ (Nat.le_of_lt h.fbb) h.fbx.lt hF).2.trans h.fbl
 ·by_cases e:lab b=(5,ends.length,0)
  ·rw[e]at h0
   simp at h0
  ·exact ho b h1 h3 h4 e
theorem GoX.sp{base i xb:Nat}{p q:Value}{t:XN}{ps:List Ph}{is:List Xz}{vv:Value}{vs:List Int}(h:GoX wr lab base i xb p q t ps is vv vs)(k:XK wr w' lab lab' base ok)(hX:ok xb)(ho:∀b,(lab b).1≠0->ok b):GoX w' lab' base i xb p q t ps is vv vs :=
 ⟨h.bx.sp k (Nat.le_of_lt h.bb) hX,(k.same _ (Nat.le_of_lt h.bb) h.bx.lt hX).2.trans h.bl,h.bb,h.xp.sp k (fun b e=>ho b (by rw[e];simp)),h.xi.sp k (fun b e=>ho b (by rw[e];simp)),h.xv.sp k (fun b e=>ho b (by rw[e];simp))⟩
structure Ty(w wr:World)(lab:Nat->Nat × Nat × Nat)(sb B:Nat)(s:Sr)(fb vals G c:Nat)(xs:List Xf)(pv iv:Nat->Value)(av:Nat->Nat->Value)(ve:Value)(ev:Nat->Value)(ends:List (List Int))(vi:Value)(ids:List Int)(xb:Nat)(p q:Value)(t:XN)(ps:List Ph)(is:List Xz)(vv:Value)(vs:List Int):Prop where
 f:J6 w wr lab sb B s fb vals G c xs pv iv av ve ev ends vi ids
 x:GoX wr lab w.heap.size ends.length xb p q t ps is vv vs
 ne:xb≠fb
variable {xb : Nat} {p q : Value} {t : XN} {ps : List Ph} {is : List Xz} {vv : Value} {vs : List Int}
theorem J6.lt(h:J6 w wr lab sb B s fb vals G c xs pv iv av ve ev ends vi ids):sb<w.heap.size:=by have:=h.bw;have:=h.dr.bB;omega
theorem J6.call(h:J6 w wr lab sb B s fb vals G c xs pv iv av ve ev ends vi ids)(g:wr.grownBy w' (some sb))(d:Zs w' sb B s'):J6 w w' lab sb B s' fb vals G c xs pv iv av ve ev ends vi ids :=
 h.sp (XK.grown g h.lt) trivial trivial (fun _ _ _ _ _=>trivial) d (Yi h.gr g)
theorem J6.box(h:J6 w wr lab sb B s fb vals G c xs pv iv av ve ev ends vi ids)(o:Obj):J6 w (wr.alloc o) lab sb B s fb vals G c xs pv iv av ve ev ends vi ids :=
 h.sp (XK.box o) trivial trivial (fun _ _ _ _ _=>trivial) (h.dr.box o) (Yi h.gr (World.grownBy_alloc _ _ _))
theorem Ty.call(h:Ty w wr lab sb B s fb vals G c xs pv iv av ve ev ends vi ids xb p q t ps is vv vs)(g:wr.grownBy w' (some sb))(d:Zs w' sb B s'):Ty w w' lab sb B s' fb vals G c xs pv iv av ve ev ends vi ids xb p q t ps is vv vs :=
 ⟨h.f.call g d,h.x.sp (XK.grown g h.f.lt) trivial (fun _ _=>trivial),h.ne⟩
theorem Ty.box(h:Ty w wr lab sb B s fb vals G c xs pv iv av ve ev ends vi ids xb p q t ps is vv vs)(o:Obj):Ty w (wr.alloc o) lab sb B s fb vals G c xs pv iv av ve ev ends vi ids xb p q t ps is vv vs :=
 ⟨h.f.box o,h.x.sp (XK.box o) trivial (fun _ _=>trivial),h.ne⟩
theorem J6.put{g m:Nat}{u:Value}(h:J6 w wr lab sb B s fb vals G c xs pv iv av ve ev ends vi ids)(h0:lab g=(0,0,0))(hR:w.heap.size<g)(hF:g≠fb):J6 w (wr.setCell ⟨g,m,none⟩ u) lab sb B s fb vals G c xs pv iv av ve ev ends vi ids :=
 h.sp (XK.put g m u) (by omega) (Ne.symm hF) (fun b h1 _ _ _ e=>h1 (by rw[e,h0])) (h.dr.put (by have:=h.bw;omega)) (XH h.gr (Nat.le_of_lt hR))
theorem Ty.put{g m:Nat}{u:Value}(h:Ty w wr lab sb B s fb vals G c xs pv iv av ve ev ends vi ids xb p q t ps is vv vs)(h0:lab g=(0,0,0))(hR:w.heap.size<g)(hF:g≠fb)(hX:g≠xb):Ty w (wr.setCell ⟨g,m,none⟩ u) lab sb B s fb vals G c xs pv iv av ve ev ends vi ids xb p q t ps is vv vs :=
 ⟨h.f.put h0 hR hF,h.x.sp (XK.put g m u) (Ne.symm hX) (fun b h1 e=>h1 (by rw[e,h0])),h.ne⟩
theorem Ty.val(h:Ty w wr lab sb B s fb vals G c xs pv iv av ve ev ends vi ids xb p q t ps is vv vs)(v':Nat):Ty w (wr.setCell ⟨fb,0,none⟩ (.int .i64 v')) lab sb B s fb v' G c xs pv iv av ve ev ends vi ids xb p q t ps is vv vs:=by
 have k:XK wr (wr.setCell ⟨fb,0,none⟩ (.int .i64 v')) lab lab w.heap.size (fun b=>b≠fb):=XK.put _ _ _;have nb:∀b,(lab b).1≠0->b≠fb:=fun b h1 e=>h1 (by rw[e,h.f.fbl])
 have hb:=h.f.fbb;have hw:=h.f.bw;refine⟨⟨h.f.dr.put (by omega),XH h.f.gr (by omega),h.f.bw,h.f.res.other (by omega),h.f.resl,?_,h.f.fbl,hb,h.f.fn.sp k ends.length (fun b h1 _ _ _=>nb b h1) (Or.inl (fun b e=>nb b (by rcases e with e | e<;>rw[e]<;>simp))),h.f.es.sp k (fun b e=>nb b (by rw[e];simp)),fun i hi=>(h.f.evs i hi).sp k (fun b e=>nb b (by rw[e];simp)),h.f.id.sp k (fun b e=>nb b (by rw[e];simp)),k.fresh h.f.fr,h.f.nil_⟩,h.x.sp k h.ne nb,h.ne⟩;have:=h.f.fbx.set 0 (.int .i64 v');simpa using this
theorem Ty.terA(h:Ty w wr lab sb B s fb vals G c xs pv iv av ve ev ends vi ids xb p q t ps is vv vs)(a:Int):Ty w (wr.setCell ⟨xb,3,none⟩ (.int .i64 a)) lab sb B s fb vals G c xs pv iv av ve ev ends vi ids xb p q ⟨t.kind,a,t.to,t.els⟩ ps is vv vs:=by
 have k:XK wr (wr.setCell ⟨xb,3,none⟩ (.int .i64 a)) lab lab w.heap.size (fun b=>b≠xb):=XK.put _ _ _;have nb:∀b,(lab b).1≠0->b≠xb:=fun b h1 e=>h1 (by rw[e,h.x.bl])
 refine⟨h.f.put h.x.bl h.x.bb h.ne,⟨?_,h.x.bl,h.x.bb,h.x.xp.sp k (fun b e=>nb b (by rw[e];simp)),h.x.xi.sp k (fun b e=>nb b (by rw[e];simp)),h.x.xv.sp k (fun b e=>nb b (by rw[e];simp))⟩,h.ne⟩;have:=h.x.bx.set 3 (.int .i64 a);simpa using this
theorem Xq.below{base L0 t sz n:Nat}{L:Nat × Nat × Nat}{v:Value}{cs:List Value}(h:Xq wr lab L base t sz v n cs)(hg:wr.grownBy w' v.ownBlock)(hL:L0<=base)(hz:L0<=wr.heap.size):Below L0 wr w':=XG (Below.refl _ _) hg h.own hL hz
theorem J6.low(h:J6 w wr lab sb B s fb vals G c xs pv iv av ve ev ends vi ids)(k:Below w.heap.size wr w'):Zs w' sb B s/\w.grownBy w' (some sb) :=
 ⟨h.dr.keep (k.mono h.bw),⟨k.os.trans h.gr.os,k.tape.trans h.gr.tape,k.output.trans h.gr.output,Nat.le_trans h.gr.size k.size,fun b h1 h2=>(k.block b h1).trans (h.gr.block b h1 h2)⟩⟩
theorem Ty.pushV{n':Nat}{vv':Value}{x:Int}(h:Ty w wr lab sb B s fb vals G c xs pv iv av ve ev ends vi ids xb p q t ps is vv vs)(hg:wr.grownBy w' vv.ownBlock)(ho:w'.ownsRow w.heap.size 2 1 vv' n' (Xo vs++[.int .i64 x]))(hn:n'=vs.length+1)(hat:vv'.ownBlock=vv.ownBlock\/vv'.ownBlock=some wr.heap.size) :
 ∃lab',Ty w w' lab' sb B s fb vals G c xs pv iv av ve ev ends vi ids xb p q t ps is vv' (vs++[x]):=by
 obtain⟨lab',hr,k⟩:=h.x.xv.grow hg ho hat h.f.fr;have hl:∀b,lab b=(0,0,0)->lab b≠(5,ends.length,0):=fun b e=>by rw[e];simp
 have hb:=h.f.low (h.x.xv.below hg (Nat.le_refl _) h.f.gr.size);refine⟨lab',⟨h.f.sp k (hl _ h.f.resl) (hl _ h.f.fbl) (fun b _ _ _ h5=>h5) hb.1 hb.2,⟨h.x.bx.sp k (Nat.le_of_lt h.x.bb) (hl _ h.x.bl),(k.same _ (Nat.le_of_lt h.x.bb) h.x.bx.lt (hl _ h.x.bl)).2.trans h.x.bl,h.x.bb,h.x.xp.sp k (fun b e=>by rw[e];simp),h.x.xi.sp k (fun b e=>by rw[e];simp),?_⟩,h.ne⟩⟩;subst hn;have e:Xo (vs++[x])=Xo vs++[.int .i64 x]:=by simp[Xo]
 rw[e,List.length_append];exact hr
theorem Ty.pushP{n':Nat}{p':Value}{x:Int}(h:Ty w wr lab sb B s fb vals G c xs pv iv av ve ev ends vi ids xb p q t ps is vv vs)(hg:wr.grownBy w' p.ownBlock)(ho:w'.ownsRow w.heap.size 46 2 p' n' (XU YH ps++[.int .i64 x,.slice none 0 0]))(hn:n'=ps.length+1)(hat:p'.ownBlock=p.ownBlock\/p'.ownBlock=some wr.heap.size) :
 Bx w' xb #[p,q,.int .i64 t.kind,.int .i64 t.a,.int .i64 t.to,.int .i64 t.els] 43/\∃lab',Ty w (w'.setCell ⟨xb,0,none⟩ p') lab' sb B s fb vals G c xs pv iv av ve ev ends vi ids xb p' q t (ps++[⟨x,[]⟩]) is vv vs:=by
 obtain⟨lab',hr,k0⟩:=h.x.xp.grow hg ho hat h.f.fr;have hl:∀b,lab b=(0,0,0)->lab b≠(2,ends.length,0):=fun b e=>by rw[e];simp
 have hb:=h.f.low (h.x.xp.below hg (Nat.le_refl _) h.f.gr.size);have hx:=h.x.bx.sp k0 (Nat.le_of_lt h.x.bb) (hl _ h.x.bl);have hxl:=(k0.same _ (Nat.le_of_lt h.x.bb) h.x.bx.lt (hl _ h.x.bl)).2.trans h.x.bl;have k1:XK w' (w'.setCell ⟨xb,0,none⟩ p') lab' lab' w.heap.size (fun b=>b≠xb):=XK.put _ _ _;have nb:∀b,(lab' b).1≠0->b≠xb:=fun b h1 e=>h1 (by rw[e,hxl])
 refine⟨hx,lab',⟨(h.f.sp k0 (hl _ h.f.resl) (hl _ h.f.fbl) (fun b _ h2 _ _=>h2) hb.1 hb.2).put hxl h.x.bb h.ne,⟨?_,hxl,h.x.bb,?_,(h.x.xi.sp k0 (fun b e=>by rw[e];simp)).sp k1 (fun b e=>nb b (by rw[e];simp)),(h.x.xv.sp k0 (fun b e=>by rw[e];simp)).sp k1 (fun b e=>nb b (by rw[e];simp))⟩,h.ne⟩⟩
 ·have:=hx.set 0 p'
  simpa using this
 ·subst hn
  have e:XU YH (ps++[⟨x,[]⟩])=XU YH ps++[.int .i64 x,.slice none 0 0]:=by unfold XU;rw[Y8];rfl
  rw[e,List.length_append];exact hr.sp k1 (fun b e=>nb b (by rw[e];simp))
theorem Ty.pushI{n':Nat}{q':Value}{x:Xz}(h:Ty w wr lab sb B s fb vals G c xs pv iv av ve ev ends vi ids xb p q t ps is vv vs)(hg:wr.grownBy w' q.ownBlock)(ho:w'.ownsRow w.heap.size 53 5 q' n' (XD is++[.int .i64 x.op,.int .i64 x.dst,.int .i64 x.a,.int .i64 x.b,.int .i64 x.imm]))(hn:n'=is.length+1)(hat:q'.ownBlock=q.ownBlock\/q'.ownBlock=some wr.heap.size) :
 Bx w' xb #[p,q,.int .i64 t.kind,.int .i64 t.a,.int .i64 t.to,.int .i64 t.els] 43/\∃lab',Ty w (w'.setCell ⟨xb,1,none⟩ q') lab' sb B s fb vals G c xs pv iv av ve ev ends vi ids xb p q' t ps (is++[x]) vv vs:=by
 obtain⟨lab',hr,k0⟩:=h.x.xi.grow hg ho hat h.f.fr;have hl:∀b,lab b=(0,0,0)->lab b≠(3,ends.length,0):=fun b e=>by rw[e];simp
 have hb:=h.f.low (h.x.xi.below hg (Nat.le_refl _) h.f.gr.size);have hx:=h.x.bx.sp k0 (Nat.le_of_lt h.x.bb) (hl _ h.x.bl);have hxl:=(k0.same _ (Nat.le_of_lt h.x.bb) h.x.bx.lt (hl _ h.x.bl)).2.trans h.x.bl;have k1:XK w' (w'.setCell ⟨xb,1,none⟩ q') lab' lab' w.heap.size (fun b=>b≠xb):=XK.put _ _ _;have nb:∀b,(lab' b).1≠0->b≠xb:=fun b h1 e=>h1 (by rw[e,hxl])
 refine⟨hx,lab',⟨(h.f.sp k0 (hl _ h.f.resl) (hl _ h.f.fbl) (fun b _ _ h3 _=>h3) hb.1 hb.2).put hxl h.x.bb h.ne,⟨?_,hxl,h.x.bb,(h.x.xp.sp k0 (fun b e=>by rw[e];simp)).sp k1 (fun b e=>nb b (by rw[e];simp)),?_,(h.x.xv.sp k0 (fun b e=>by rw[e];simp)).sp k1 (fun b e=>nb b (by rw[e];simp))⟩,h.ne⟩⟩
 ·have:=hx.set 1 q'
  simpa using this
 ·subst hn
  have e:XD (is++[x])=XD is++[.int .i64 x.op,.int .i64 x.dst,.int .i64 x.a,.int .i64 x.b,.int .i64 x.imm]:=by unfold XD;rw[Y8];rfl
  rw[e,List.length_append];exact hr.sp k1 (fun b e=>nb b (by rw[e];simp))
def laid6(w:World)(G k:Nat)(p q:Value)(t:XN):World:=(((((w.setCell ⟨G,k,none⟩ p).setCell ⟨G,k+1,none⟩ q).setCell ⟨G,k+2,none⟩ (.int .i64 t.kind)).setCell ⟨G,k+3,none⟩ (.int .i64 t.a)).setCell ⟨G,k+4,none⟩ (.int .i64 t.to)).setCell ⟨G,k+5,none⟩ (.int .i64 t.els)
theorem sp6(w:World)(lab:Nat->Nat × Nat × Nat)(base G k:Nat)(p q:Value)(t:XN):XK w (laid6 w G k p q t) lab lab base (fun b=>b≠G) :=
 ((((((XK.put G _ _).trans (XK.put G _ _)).trans (XK.put G _ _)).trans (XK.put G _ _)).trans (XK.put G _ _)).trans (XK.put G _ _)).weak (fun _ hb=>⟨⟨⟨⟨⟨hb,hb⟩,hb⟩,hb⟩,hb⟩,hb⟩)
theorem Ty.es9(h:Ty w wr lab sb B s fb vals G c xs pv iv av ve ev ends vi ids xb p q t ps is vv vs):Xq (laid6 wr G (ends.length*6) p q t) lab (6,0,0) w.heap.size 150 1 ve ends.length (XW (fun i _=>[ev i]) 0 ends)/\(∀b,(laid6 wr G (ends.length*6) p q t).heap.size<=b->lab b=(0,0,0))/\(laid6 wr G (ends.length*6) p q t).heap.size=wr.heap.size:=by
 have hg:=h.f.fn.blks.blk.2;have k:=sp6 wr lab w.heap.size G (ends.length*6) p q t;exact⟨h.f.es.sp k (fun _ e e2=>by rw[e2,hg]at e;simp at e),k.fresh h.f.fr,by simp[laid6,World.setCell]⟩
theorem Ty.close{o:Obj}{ve':Value}{n':Nat}(h:Ty w wr lab sb B s fb vals G c xs pv iv av ve ev ends vi ids xb p q t ps is vv vs)(hi:ends.length<xs.length)(hg:((laid6 wr G (ends.length*6) p q t).alloc o).grownBy w' ve.ownBlock)(ho:w'.ownsRow w.heap.size 150 1 ve' n' (XW (fun i _=>[ev i]) 0 ends++[vv]))(hn:n'=ends.length+1)(hat:ve'.ownBlock=ve.ownBlock\/ve'.ownBlock=some ((laid6 wr G (ends.length*6) p q t).alloc o).heap.size)(hps:∀x∈ps,x.args=[]) :
 ∃lab' pv' iv' av' ev',J6 w w' lab' sb B s fb vals G c (xs.set ends.length ⟨ps,is,t⟩) pv' iv' av' ve' ev' (ends++[vs]) vi ids:=by
 have hgl:=h.f.fn.blks.blk.2;have hgb:=h.f.fn.blks.blk.1.1;have k0:=sp6 wr lab w.heap.size G (ends.length*6) p q t;have k1:XK wr ((laid6 wr G (ends.length*6) p q t).alloc o) lab lab w.heap.size (fun b=>b≠G):=(k0.trans (XK.box o)).weak (fun b hb=>⟨hb,trivial⟩);have n1:∀b,lab b≠(1,0,0)->b≠G:=fun b hb e=>hb (by rw[e];exact hgl)
 have hes:=h.f.es.sp k1 (fun b e=>n1 b (by rw[e];simp));obtain⟨lab',hr,k2⟩:=hes.grow hg ho hat (k1.fresh h.f.fr);have kk:=k1.trans k2;have hR:w.heap.size≠G/\lab w.heap.size≠(6,0,0):=⟨n1 _ (by rw[h.f.resl];simp),by rw[h.f.resl];simp⟩;have hF:fb≠G/\lab fb≠(6,0,0):=⟨n1 _ (by rw[h.f.fbl];simp),by rw[h.f.fbl];simp⟩;have hok:∀b,lab b≠(1,0,0)->lab b≠(6,0,0)->b≠G/\lab b≠(6,0,0):=fun b e1 e2=>⟨n1 b e1,e2⟩
 have low0:Below w.heap.size wr ((laid6 wr G (ends.length*6) p q t).alloc o):=Below.alloc ((((((((Below.refl _ _).setCell hgb _).setCell hgb _).setCell hgb _).setCell hgb _).setCell hgb _).setCell hgb _)) (by have:=h.f.gr.size;simpa [laid6,World.setCell]using this) o;have low:=low0.trans (hes.below hg (Nat.le_refl _) (Nat.le_trans h.f.gr.size low0.size));have hd:=h.f.low low;have fn1:=(h.f.fn.lay hi ⟨ps,is,t⟩ p q YH h.x.xp h.x.xi (fun j hj=>by
  have:=hps ps[j] (List.getElem_mem hj);rw[this];exact⟨World.ownsRow_nil _ _ _ _,fun b e=>by cases e⟩))
 have fn2:=(fn1.sp (XK.box (lab:=lab) (base:=w.heap.size) o) 0 (fun _ _ _ _ _=>trivial) (Or.inl (fun _ _=>trivial))).sp k2 0 (fun b h1 h2 _ _ e=>by rw[e]at h2;simp at h2) (Or.inl (fun b e e2=>by rw[e2]at e;simp at e));refine⟨lab',fun j=>if j=ends.length then p else pv j,fun j=>if j=ends.length then q else iv j,fun j=>if j=ends.length then YH else av j,fun j=>if j=ends.length then vv else ev j,⟨hd.1,hd.2,h.f.bw,h.f.res.sp kk (Nat.le_refl _) hR,(kk.same _ (Nat.le_refl _) h.f.res.lt hR).2.trans h.f.resl,?_,(kk.same _ (Nat.le_of_lt h.f.fbb) h.f.fbx.lt hF).2.trans h.f.fbl,h.f.fbb,?_,?_,fun i hi2=>?_,h.f.id.sp kk (fun b e=>hok b (by rw[e];simp) (by rw[e];simp)),kk.fresh h.f.fr,fun j hj=>?_⟩⟩;rotate_left
 ·rw[List.length_set]
  exact fn2
 ·subst hn
  have e:XW (fun i (_:List Int)=>[if i=ends.length then vv else ev i]) 0 (ends++[vs])=XW (fun i _=>[ev i]) 0 ends++[vv]:=by
   rw[Y8,Nat.zero_add,if_pos rfl,Z2 (f':=fun i _=>[ev i]) 0 ends (fun i hi=>by rw[Nat.zero_add,if_neg (by omega)])]
  rw[e,List.length_append];exact hr
 ·by_cases e:i<ends.length
  ·rw[List.getElem_append_left e,if_neg (by omega)]
   exact(h.f.evs i e).sp kk (fun b e=>hok b (by rw[e];simp) (by rw[e];simp))
  ·have:i=ends.length:=by simp at hi2;omega
   subst this;rw[List.getElem_append_right (Nat.le_refl _),if_pos rfl];simp only[Nat.sub_self,List.getElem_cons_zero];exact h.x.xv.sp kk (fun b e=>hok b (by rw[e];simp) (by rw[e];simp))
 ·have hj2:j≠ends.length/\ends.length<=j:=by simp at hj;omega
  simp only[if_neg hj2.1];exact h.f.nil_ j hj2.2
 ·rw[List.length_set]
  exact h.f.fbx.sp kk (Nat.le_of_lt h.f.fbb) hF
end Go.Proofs.YtkehcdfalcakmaaGreatDoor
