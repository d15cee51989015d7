import Derived.Test.YtghnlncgiihhgaaGreatDoorDRb
namespace Go.Proofs.YtghnlncgiihhgaaGreatDoor
set_option maxHeartbeats 4000000
set_option maxRecDepth 100000
open Go.RowKit Go.Proofs.Tryz
variable{x:List Xe}{n m k B g i j:Nat}{Z:Nat->Nat × Nat × Nat}{h H G:Nat->Value}{a A:Value}{w v u:World}
structure T1S(w wr:World)(v G n c:Nat)(pv iv:Nat->Value)(xs:List Xe)(vg:Value)(b:Nat):Prop where
 low:Below w.heap.size w wr
 box:Bx wr w.heap.size #[.int .i64 (v:Int),.slice (some ⟨G,0,none⟩) n c] 25
 res:Bx wr (w.heap.size+1) #[.int .i64 0,.slice none 0 0] 25
 gbx:Bx wr (w.heap.size+2) #[.int .i64 (v:Int),vg] 25
 own:wr.ownsRow (w.heap.size+3) 90 6 vg b (XF (fun i=>pv (othN i n)) (fun i=>iv (othN i n)) ((YP xs).take b))
theorem T1S.keep{wr w':World}{b:Nat}(c:T1S w wr n m k B h H x a b)(d:Below wr.heap.size wr w'):T1S w w' n m k B h H x a b :=
 ⟨c.low.trans (d.mono c.low.size),c.box.keep (d.block _ c.box.lt),c.res.keep (d.block _ c.res.lt),c.gbx.keep (d.block _ c.gbx.lt),Zl c.own (fun q e=>d.block q (c.own.lt q e).2)⟩
theorem T1S.push{b:Nat}{o:Obj}{tt:Yj}(c:T1S w v n m k B h H x a b)(f:(v.alloc o).grownBy u a.ownBlock)(p:u.ownsRow (w.heap.size+3) 90 6 A g ((XF (fun i=>h (othN i k)) (fun i=>H (othN i k)) ((YP x).take b))++[h (othN b k),H (othN b k),.int .i64 (YB k tt).kind,.int .i64 (YB k tt).a,.int .i64 (YB k tt).to,.int .i64 (YB k tt).els]))(t:g=b+1)(l:k=x.length)(z:b<k)(y:tt=(x.getD (othN b k) XV).te) :
 Bx u (w.heap.size+2) #[.int .i64 (n:Int),a] 25/\T1S w (u.setCell ⟨w.heap.size+2,1,none⟩ A) n m k B h H x A (b+1):=by
 have D:=c.gbx.lt;have d:∀q,q<w.heap.size+3->u.heap[q]?=v.heap[q]?:=fun q hq=>(f.block q (by simp;omega) (fun e=>by have:=(c.own.lt q e.symm).1;omega)).trans (Below.heap_alloc _ _ _ oM)
 have s:=(c.low.trans (Below.alloc (Below.refl _ _) oM o)).trans (Xy (Below.refl _ _) f (c.own.alloc o) oM (by simp;omega));have j:=c.gbx.keep (d _ oM);refine⟨j,s.setCell (by show w.heap.size<=w.heap.size+2;omega) _,(c.box.keep (d _ oM)).other oM,(c.res.keep (d _ oM)).other oM,?_,?_⟩
 ·have:=j.set 1 A
  simpa using this
 ·subst t
  have C:(YP x).length=k:=by rw[l];simp[YP]
  have e:(XF (fun i=>h (othN i k)) (fun i=>H (othN i k)) ((YP x).take (b+1)))=(XF (fun i=>h (othN i k)) (fun i=>H (othN i k)) ((YP x).take b))++[h (othN b k),H (othN b k),.int .i64 (YB k tt).kind,.int .i64 (YB k tt).a,.int .i64 (YB k tt).to,.int .i64 (YB k tt).els]:=by
   have r:b<(YP x).length:=oM;rw[bN r];unfold XF;rw[Zo,aV,dH,jZ oM];have e2:(YP x)[b].te=YB k tt:=by rw[y];simp[YP,l]
   rw[e2];rfl
  rw[e];refine fS p (fun e=>?_) A;have:=(p.lt _ e).1;simp at this
structure T1 where
 b:Nat
 vg:Value
 c6:Value
 tl:List Value
theorem tn1{Y:Exit->Act->World->Prop}(w:World)(J G n h:Nat)(b6:Nat->Nat × Nat × Nat)(bo:Nat)(f:List Xe)(I F:Nat->Value)(av:Nat->Nat->Value)(c0 c7 c8 c9 aj al ap aq ar:Value)(hQ:Hid (∀h (a4:Act) t J w,Y (.panic h) (a4.put (some t) J) w->Y (.panic h) a4 w))(hF:Hid (ZU w b6 bo (.slice (some ⟨G,0,none⟩) n h) f I F av))(hn:Hid (n=f.length))(ce:n<=11)(b0:Hid (TgB f))
 (a6:∀(p A:Value)(v:List Value)(q:World),v.length=134->T1S w q J G n h I F f p n->Y (.exit 0) ⟨(c0::.pointer (some ⟨w.heap.size,0,none⟩)::.pointer (some ⟨(w.heap.size+1),0,none⟩)::.int .i64 ((n:Nat):Int)::.pointer (some ⟨(w.heap.size+2),0,none⟩)::.int .i64 ((n:Nat):Int)::A::c7::c8::c9::aj::al::ap::aq::ar::v).toArray,[]⟩ q)
 (p A:Value) (v:List Value) (wr:World) (E:v.length=134) (D:Hid (T1S w wr J G n h I F f p 0)) :
 Code.wp prog (Code.loop tB1) Y ⟨(c0::.pointer (some ⟨w.heap.size,0,none⟩)::.pointer (some ⟨(w.heap.size+1),0,none⟩)::.int .i64 ((n:Nat):Int)::.pointer (some ⟨(w.heap.size+2),0,none⟩)::.int .i64 ((0:Nat):Int)::A::c7::c8::c9::aj::al::ap::aq::ar::v).toArray,[]⟩ wr:=by
 have HX:=Xa a6;clear a6;obtain⟨i0,bv,b3,b4,b5⟩:=Xq Tryz.infoBlkD;refine iY (fun Z wr=>∃B:T1,Z=⟨(c0::.pointer (some ⟨w.heap.size,0,none⟩)::.pointer (some ⟨(w.heap.size+1),0,none⟩)::.int .i64 ((n:Nat):Int)::.pointer (some ⟨(w.heap.size+2),0,none⟩)::.int .i64 ((B.b:Nat):Int)::B.c6::c7::c8::c9::aj::al::ap::aq::ar::B.tl).toArray,[]⟩/\B.tl.length=134/\B.b<=n/\Hid (T1S w wr J G n h I F f B.vg B.b)) (fun Z _=>n-(intOf (Z.tmps.getD 5 undef)).toNat) ⟨⟨0,p,A,v⟩,rfl,E,aN _,D⟩ ?_;clear D E;rintro Z wr ⟨⟨b,p,A,v⟩,rfl,E,hb,e⟩;dsimp only at E hb e |-
 conv=>arg 2;whnf
 obtain⟨ca,rfl⟩:=Tj v E;clear E;by_cases bw:b<n
 ·have bx:(b:Int)<n:=oM
  have a8:othN b n<n:=by unfold othN;split<;>omega
  have M:othN b n<f.length:=by rw[<-hn.out];exact a8
  have ba:J1 (b:Int) n=((othN b n:Nat):Int):=by
   unfold J1 othN;split
   ·rename_i D
    have:b=0:=oM;rw[aU this];rfl
   ·rename_i D
    rw[aM oM];omega
  have af:=Xa ba;clear ba;obtain⟨p0,p1,t0,t1,t2,t3⟩:=hF.cells M;have bp:=(hF.blks.own.lt G rfl).2;have C:=Xa (fun W (hW:Below w.heap.size w W) N=>hW.cell (p:=⟨G,N,none⟩) bp);have x1:Cl wr w.heap.size 1 (.slice (some ⟨G,0,none⟩) n h):=Bx.cell e.box rfl;have S:=(C _ e.low _).trans p0;have T:=(C _ e.low _).trans p1;have y2:=(C _ e.low _).trans t0;have y3:=(C _ e.low _).trans t1;have y4:=(C _ e.low _).trans t2;have y5:=(C _ e.low _).trans t3;obtain⟨l,m,a0⟩:=(hF.ps _ M).form;obtain⟨i,j,ax⟩:=(hF.ins _ M).form;rw[a0]at S;rw[ax]at T;have bn:Hid (f[othN b n].te=(f.getD (othN b n) XV).te):=Xa (by simp[M]);have a3:=Xa (b0.out _ (aH M));rw[<-hn.out]at a3;have bf:=Xa a0;have bc:=Xa ax;clear a0 ax p0 p1 t0 t1 t2 t3;generalize f[othN b n].ps.length=o at *;generalize f[othN b n].is.length=k at *;generalize f[othN b n].te=a at *;have bb:Hid (othN b n=othN b n):=Xa rfl;generalize a9:othN b n=H at x1 S T y2 y3 y4 y5 af a8;have b8:=Xa a9;clear a9 bb;have ad:Hid (w.heap.size+3<=wr.heap.size):=Xa e.gbx.lt;have ac:Hid (Below wr.heap.size wr (wr.alloc (.cells #[.slice l o m,.slice i k j,.int .i64 a.kind,.int .i64 a.a,.int .i64 a.to,.int .i64 a.els] 90)).drew/\Bx (wr.alloc (.cells #[.slice l o m,.slice i k j,.int .i64 a.kind,.int .i64 a.a,.int .i64 a.to,.int .i64 a.els] 90)).drew wr.heap.size #[.slice l o m,.slice i k j,.int .i64 a.kind,.int .i64 a.a,.int .i64 a.to,.int .i64 a.els] 90):=Xa ⟨(Xb (Below.refl _ _) _).drew,Bx.new _ _ _⟩;have s:Hid (∀aa N ab,aa<wr.heap.size->wr.cell? ⟨aa,N,none⟩=some ab->(wr.alloc (.cells #[.slice l o m,.slice i k j,.int .i64 a.kind,.int .i64 a.a,.int .i64 a.to,.int .i64 a.els] 90)).drew.cell? ⟨aa,N,none⟩=some ab):=Xa (fun aa N ab hq hu=>oB ac.1 hu hq);have bd:Hid (p.ownBlock≠some wr.heap.size):=Xa (fun L=>by have:=(e.own.lt _ L).2;omega);have cb:G<wr.heap.size:=oN ad.out
  have ch:w.heap.size<wr.heap.size:=oN ad.out
  go_upto_region 6 with fail
  go_cut [6] from 21 to 60 (fun A wx=>A=.pointer (some ⟨wr.heap.size,0,none⟩)/\Hid (Below wr.heap.size wr wx/\Bx wx wr.heap.size #[.slice l o m,.slice i k j,.int .i64 a.kind,.int .i64 a.a,.int .i64 a.to,.int .i64 a.els] 90))
  case first =>
   refine Y7 (fun q=>q.cell? ⟨w.heap.size,1,none⟩=some (.slice (some ⟨G,0,none⟩) n h)/\q.cell? ⟨G,H*6,none⟩=some (.slice l o m)/\q.cell? ⟨G,H*6+1,none⟩=some (.slice i k j)/\q.cell? ⟨G,H*6+2,none⟩=some (.int .i64 a.kind)/\q.cell? ⟨G,H*6+2+1,none⟩=some (.int .i64 a.a)/\q.cell? ⟨G,H*6+2+2,none⟩=some (.int .i64 a.to)/\q.cell? ⟨G,H*6+2+3,none⟩=some (.int .i64 a.els)) (fun hHeld=>?_);refine X0 0 ?_;refine X0 1 ?_;refine X0 2 ?_;refine X0 3 ?_;refine eS (rs:=[4,7]) vZ sP ?_;refine(bQ rfl (fun K hK=>?_) (bQ rfl (fun K hK=>?_) dY))
   focus
    go_simp
    go_at_call 105
    refine(ZY (b:Int) n _ oM oM oM).mono ?_;rintro L Q ⟨rfl,a1⟩;subst a1;rw[af.out];refine hK _ _ ⟨x1,S,T,y2,y3,y4,y5⟩ (fun hHeld=>?_);clear hK
    try simp only[xX]
    refine X0 5 ?_;refine eS (rs:=[6,7]) vZ sP ?_;refine(bQ rfl (fun K hK=>?_) (bQ rfl (fun K hK=>?_) dY))
   focus
    go_simp;refine hK _ _ kP (fun hHeld=>?_);clear hK
    try simp only[xX]
    refine Xs 7 (fun K hK=>?_);go_simp;refine hK _ _ kP (fun hHeld=>?_);clear hK
   rotate_left
   focus
    go_simp;refine hK _ _ kP (fun hHeld=>?_);clear hK
    try simp only[xX]
    refine Xs 6 (fun K hK=>?_);go_simp;refine hK _ _ kP (fun hHeld=>?_);clear hK
   rotate_left
   focus
    go_simp;refine hK _ _ kP (fun hHeld=>?_);clear hK
    try simp only[xX]
    refine Xs 4 (fun K hK=>?_);go_simp
    go_at_call 105
    refine(ZY (b:Int) n _ oM oM oM).mono ?_;rintro L Q ⟨rfl,a1⟩;subst a1;rw[af.out];refine hK _ _ hHeld (fun hHeld=>?_);clear hK;refine X0 5 ?_;refine Xs 6 (fun K hK=>?_);go_simp;refine hK _ _ kP (fun hHeld=>?_);clear hK
   all_goals (
    refine Xs 8 (fun K hK=>?_);go_simp;refine hK _ _ ⟨s _ _ _ oM x1,s _ _ _ oM S,s _ _ _ oM T,s _ _ _ oM y2,s _ _ _ oM y3,s _ _ _ oM y4,s _ _ _ oM y5⟩ (fun hHeld=>?_);clear hK;refine Yq ?_;clear hHeld
    go_wp2
    go_meet;exact⟨rfl,ac⟩)
  case rest =>
   obtain⟨rfl,X⟩:=hcut;clear x1 S T y2 y3 y4 y5 ac s;have bl:Hid (∀W,Below wr.heap.size wr W->T1S w W J G n h I F f p b):=Xa (fun W hW=>e.keep hW);have bi:=Xa (e.keep X.1);have c:=Xa X.2;have y:=Xa X.1;have cd:=ad.out;clear e X;generalize wc=Q at *;have b7:=Xa bd.out;generalize wr.heap.size=d at *;have q2:Cl Q d 2 (.int .i64 a.kind):=Bx.cell c rfl;have O:Cl Q d 4 (.int .i64 a.to):=Bx.cell c rfl;have P:Cl Q d 5 (.int .i64 a.els):=Bx.cell c rfl;have qz:=Bx.thaw c
   go_upto_if 36 with fail
   have cf:=a3.2
   go_cut [] from 21 to 60 (fun R=>Hid (Below d wr R/\Bx R d #[.slice l o m,.slice i k j,.int .i64 a.kind,.int .i64 a.a,.int .i64 (YB n a).to,.int .i64 a.els] 90))
   case first =>
    by_cases g:a.kind=3
    ·have ay:(a.kind != 3)=false:=by simpa using g
     have x:Hid ((YB n a).to=a.to):=Xa (by unfold YB;dsimp only;rw[aM (fun D=>D g)]);clear g
     go_wp2
     go_meet;rw[x.out];exact Xa ⟨y,c⟩
    ·have ay:(a.kind != 3)=true:=by simpa using g
     have x:Hid ((YB n a).to=J1 a.to n):=Xa (by unfold YB;dsimp only;rw[aU g]);clear g
     go_wp2_with fail
     refine(ZY a.to n _ oM oM oM).mono ?_;rintro L w2 ⟨rfl,b1⟩;subst b1
     go_wp2
     go_meet;rw[x.out];refine Xa ⟨y.setCell (aA _) _,?_⟩;have:=c.set 4 (.int .i64 (J1 a.to n));simpa using this
   case rest =>
    have z:=Xa hcut.out;clear c q2 O P qz y hcut bi;have y:=Xa z.1;have c:=Xa z.2;clear z;generalize wc=w2 at *;have q2:Cl w2 d 2 (.int .i64 a.kind):=Bx.cell c rfl;have O:Cl w2 d 4 (.int .i64 (YB n a).to):=Bx.cell c rfl;have P:Cl w2 d 5 (.int .i64 a.els):=Bx.cell c rfl;have qz:=Bx.thaw c
    go_upto_if 47 with fail
    go_cut [] from 21 to 60 (fun R=>Hid (Below d wr R/\Bx R d #[.slice l o m,.slice i k j,.int .i64 (YB n a).kind,.int .i64 (YB n a).a,.int .i64 (YB n a).to,.int .i64 (YB n a).els] 90))
    case first =>
     by_cases g:a.kind=2
     ·have ay:(a.kind==2)=true:=by simpa using g
      have x:Hid ((YB n a).els=J1 a.els n):=Xa (by unfold YB;dsimp only;rw[aU g]);clear g
      go_wp2_with fail
      refine(ZY a.els n _ oM oM oM).mono ?_;rintro L r ⟨rfl,b2⟩;subst b2
      go_wp2
      go_meet;rw[x.out];refine Xa ⟨y.setCell (aA _) _,?_⟩;have:=c.set 5 (.int .i64 (J1 a.els n));simpa [YB]using this
     ·have ay:(a.kind==2)=false:=by simpa using g
      have x:Hid ((YB n a).els=a.els):=Xa (by unfold YB;dsimp only;rw[aM g]);clear g
      go_wp2
      go_meet;rw[x.out];exact Xa ⟨y,c⟩
    case rest =>
     have z:=Xa hcut.out;clear c q2 O P qz y hcut;have V:=Xa (bl.out _ z.1);have c:=Xa z.2;clear z;generalize wc=r at *;generalize a5:YB n a=u at *;have bm:=Xa a5;clear a5;have f1:Cl r (w.heap.size+2) 1 p:=Bx.cell V.gbx rfl;have q0:Cl r d 0 (.slice l o m):=Bx.cell c rfl;have q1:Cl r d 1 (.slice i k j):=Bx.cell c rfl;have q2:Cl r d 2 (.int .i64 u.kind):=Bx.cell c rfl;have q3:Cl r d 3 (.int .i64 u.a):=Bx.cell c rfl;have O:Cl r d 4 (.int .i64 u.to):=Bx.cell c rfl;have P:Cl r d 5 (.int .i64 u.els):=Bx.cell c rfl;have cc:=V.gbx.lt
     go_wp2_with (at_builtin;refine bT _ rfl _ _ 23 rfl (w.heap.size+3) 90 i0 (.agg #[.slice none 0 0,.slice none 0 0,.int .i64 0,.int .i64 0,.int .i64 0,.int .i64 0]) 6 80 underlying23 bv b3 b4 b5 rfl vY p b (XF (fun a2=>I (othN a2 n)) (fun a2=>F (othN a2 n)) ((YP f).take b)) rfl (V.own.alloc _) ⟨r.heap.size,0,none⟩ 1 1 [.slice l o m,.slice i k j,.int .i64 u.kind,.int .i64 u.a,.int .i64 u.to,.int .i64 u.els] rfl rfl (World.news_of_block (World.alloc_heap_new _ _)) ?c2 ?c3 ?c4 ?c5 ?_)
     case c2=>intro ab hu;simp at hu;rcases hu with rfl | rfl | rfl | rfl | rfl | rfl<;>rfl
     case c3=>unfold maxLen;omega
     case c4=>omega
     case c5=>simp;omega
     intro v8 w8 az a7 bz bq;have U:=Xa (V.push (tt:=a) a7 (by rw[bm.out,bf.out,bc.out];exact az) rfl hn bw bn);obtain⟨g8,b9,rfl,bt,bs⟩:=Xm az oM;clear bt bs bz bq az a7 q0 q1 q2 q3 O P f1;have k1:Cl w8 (w.heap.size+2) 1 p:=Bx.cell U.1 rfl;have kz:=Bx.thaw U.1;have HF:=Xa U.2;clear U
     go_wp2
     exact⟨⟨⟨b+1,_,_,_⟩,rfl,rfl,(by show b+1<=n;omega),HF⟩,by simp[intOf];omega⟩
 ·have bx:¬(b:Int)<n:=oM
  have br:b=n:=oM;subst br
  go_wp2_with fail
  exact HX _ _ _ _ (by rfl) e
def Wa(n:Nat)(L:Nat × Nat × Nat):Nat × Nat × Nat:=if L.1=0 then (0,0,0)else if L.1=1 then (9,0,0)else (L.1,othN L.2.1 n,L.2.2)
structure T2S(w wr:World)(lab0 lab:Nat->Nat × Nat × Nat)(base v G n c G' c':Nat)(g:List Xe)(pv iv:Nat->Value)(av:Nat->Nat->Value):Prop where
 low:Below w.heap.size w wr
 box:Bx wr w.heap.size #[.int .i64 (v:Int),.slice (some ⟨G,0,none⟩) n c] 25
 res:Bx wr (w.heap.size+1) #[.int .i64 0,.slice none 0 0] 25
 gbx:Bx wr (w.heap.size+2) #[.int .i64 (v:Int),.slice (some ⟨G',0,none⟩) n c'] 25
 gg:w.heap.size+3<=G'
 fn:ZU wr lab base (.slice (some ⟨G',0,none⟩) n c') g pv iv av
 bs:base<=w.heap.size
 fr:∀q,wr.heap.size<=q->lab q=(0,0,0)
 old:∀q,q<w.heap.size->lab0 q=(0,0,0)->lab q=(0,0,0)
 bxl:∀q,w.heap.size<=q->q<w.heap.size+3->lab q=(0,0,0)
theorem nv(a:List Xe):(YP a).length=a.length:=by simp[YP]
theorem Vp{b:Nat}(c:b<(YP x).length)(a:othN b x.length<x.length):(YP x)[b]=⟨x[othN b x.length].ps,x[othN b x.length].is,YB x.length x[othN b x.length].te⟩:=by
 simp[YP,a]
theorem T1S.turn{wr:World}{av:Nat->Nat->Value}(hF:ZU w Z n (.slice (some ⟨k,0,none⟩) B g) x h H av)(G:B=x.length)(E:n<=w.heap.size)(K:1<=B)(d:T1S w wr m k B g h H x a B) :
 ∃c l J,a=.slice (some ⟨c,0,none⟩) B l/\T2S w wr Z J n m k B g c l (YP x) (fun i=>h (othN i B)) (fun i=>H (othN i B)) (fun i=>av (othN i B)):=by
 subst G;obtain⟨c,l,e,N⟩:=Xm d.own oM;subst e;have p:=d.own.lt c rfl;have F:=nv x;have r:∀{L s:Nat × Nat × Nat}{A z:Nat}{C:Value}{y:Nat}{t:List Value},Xv w Z L n A z C y t->Wa x.length L=s->Xv wr (fun q=>if q<w.heap.size then Wa x.length (Z q)else if q=c then (1,0,0)else (0,0,0)) s n A z C y t:=fun o D=>⟨Zl o.own (fun b e=>d.low.block b (o.own.lt b e).2),fun b e=>by
  show(if b<w.heap.size then Wa x.length (Z b)else _)=_;rw[aU (o.own.lt b e).2,o.lab b e,D]⟩
 refine⟨c,l,fun q=>if q<w.heap.size then Wa x.length (Z q)else if q=c then (1,0,0)else (0,0,0),rfl,d.low,d.box,d.res,d.gbx,p.1,⟨⟨?_,fun b e=>?_⟩,fun i j=>?_,fun i j=>?_,fun i j I v=>?_⟩,E,fun q hq=>?_,fun q hq u=>?_,fun q u M=>?_⟩
 ·have:=Zk d.own (show n<=w.heap.size+3 by omega)
  rw[aW oM]at this;rw[F];exact this
 ·have e2:c=b:=by injection e
  subst e2;show(if c < w.heap.size then _ else if c=c then _ else _)=_;rw[aM oM,aU rfl]
 ·have f:=UG (show i<x.length by omega)
  rw[Vp j f];refine r (hF.ps _ f) ?_;unfold Wa;rw[aM sP,aM sP,Ka oM]
 ·have f:=UG (show i<x.length by omega)
  rw[Vp j f];refine r (hF.ins _ f) ?_;unfold Wa;rw[aM sP,aM sP,Ka oM]
 ·have f:=UG (show i<x.length by omega)
  have e:=Vp j f;simp only[e]at v |-;refine r (hF.args _ f I v) ?_;unfold Wa;rw[aM sP,aM sP,Ka oM]
 ·have:=p.2
  have:=d.low.size;show(if q<w.heap.size then _ else if q=c then _ else _)=_;rw[aM oM,aM oM]
 ·show(if q<w.heap.size then Wa x.length (Z q)else _)=_
  rw[aU hq,u];rfl
 ·have:=p.1
  show(if q<w.heap.size then _ else if q=c then _ else _)=_;rw[aM oM,aM oM]
theorem T2S.step{wr:World}{f y:Nat->Nat × Nat × Nat}{b:Nat}{av:Nat->Nat->Value}{E:List Ph}(c:T2S w wr Z f n m k B g i j x h H av)(T:b<x.length)(J:Below wr.heap.size wr v)(p:PhS v u y b a E G) :
 u.frozen? ⟨i,b*6,none⟩=false/\∃Y,T2S w (u.setCell ⟨i,b*6,none⟩ a) Z Y n m k B g i j (x.set b ⟨E,x[b].is,x[b].te⟩) (fun d=>if d=b then a else h d) H (fun d=>if d=b then G else av d):=by
 have ab:=J.size;have ac:=p.low.size;have W:=c.low.size;have P:=ZW c.fn.blks;have N:=c.fn.blks.lab i rfl;have aa:=c.fn.blks.own.lt i rfl;have t:=fun q hq=>(p.low.block q oM).trans (J.block q hq)
 have old:∀{L:Nat × Nat × Nat}{C A:Nat}{D:Value}{z:Nat}{r:List Value},Xv wr f L n C A D z r->L≠(1,0,0)->¬((L.1=2\/L.1=4)/\L.2.1=b)->Xv (u.setCell ⟨i,b*6,none⟩ a) (fun q=>if q<v.heap.size then (if ((f q).1=2\/(f q).1=4)/\(f q).2.1=b then (9,0,0)else f q)else y q) L n C A D z r:=fun l Q R=>⟨Zl l.own (fun q e=>(Below.heap_setCell _ _ _ _ (fun e2=>Q (by rw[<-l.lab q e,e2,N]))).trans (t q (l.own.lt q e).2)),fun q e=>by
  show(if q<v.heap.size then _ else _)=_;rw[aU (oN ((l.own.lt q e).2)),l.lab q e,aM R]⟩
 have new:∀{L:Nat × Nat × Nat}{C A:Nat}{D:Value}{z:Nat}{r:List Value},Xv u y L v.heap.size C A D z r->Xv (u.setCell ⟨i,b*6,none⟩ a) (fun q=>if q<v.heap.size then (if ((f q).1=2\/(f q).1=4)/\(f q).2.1=b then (9,0,0)else f q)else y q) L n C A D z r:=fun l=>⟨Zk (Zl l.own (fun q e=>Below.heap_setCell _ _ _ _ (by have:=(l.own.lt q e).1;show q≠i;omega))) (oN c.bs),fun q e=>by
  show(if q<v.heap.size then _ else _)=_;rw[aM (oN ((l.own.lt q e).1)),l.lab q e]⟩
 have O:Xv u f (1,0,0) n 90 6 (.slice (some ⟨i,0,none⟩) B j) B (XF h H x):=by
  have:=c.fn.blks;rw[P]at this;exact⟨Zl this.own (fun q e=>t q (this.own.lt q e).2),this.lab⟩
 refine⟨O.thaw _,fun q=>if q<v.heap.size then (if ((f q).1=2\/(f q).1=4)/\(f q).2.1=b then (9,0,0)else f q)else y q,?_,?_,?_,?_,c.gg,⟨⟨?_,fun q e=>?_⟩,fun d o=>?_,fun d o=>?_,fun d o K s=>?_⟩,c.bs,fun q hq=>?_,fun q hq F=>?_,fun q F S=>?_⟩
 ·have:=c.gg
  exact((c.low.trans (J.mono W)).trans (p.low.mono oM)).setCell (by show w.heap.size<=i;omega) _
 ·exact(c.box.keep (t _ c.box.lt)).other (oN c.gg)
 ·exact(c.res.keep (t _ c.res.lt)).other (oN c.gg)
 ·exact(c.gbx.keep (t _ c.gbx.lt)).other (oN c.gg)
 ·rw[bL,P]
  have X:=(O.set (b*6) a).own;have e:XF (fun d=>if d=b then a else h d) H (x.set b ⟨E,x[b].is,x[b].te⟩)=(XF h H x).set (b*6) a:=by
   unfold XF;have:=Yr (f:=fun d (M:Xe)=>UT (h d) (H d) M.te) (f':=fun d (M:Xe)=>UT (if d=b then a else h d) (H d) M.te) (sz:=6) (fun _ _=>rfl) 0 x b T ⟨E,x[b].is,x[b].te⟩ 0 a oM (by(try dsimp only);rw[aV,aU rfl];rfl) (fun K s U=>by(try dsimp only);rw[aV,aM U]);rw[fW]at this;exact this
  rw[e];exact X
 ·have e2:i=q:=by injection e
  subst e2;show(if i < v.heap.size then _ else _)=_;rw[aU oM,N,aM sP]
 ·by_cases e:d=b
  ·subst e
   simp only[cQ,aU];exact new p.row
  ·simp only[bI (fun e2=>e e2.symm),aM e]
   exact old (c.fn.ps d (by simpa using o)) sP (by simp;omega)
 ·by_cases e:d=b
  ·subst e
   simp only[cQ];exact old (c.fn.ins d (by simpa using o)) sP sP
  ·simp only[bI (fun e2=>e e2.symm)]
   exact old (c.fn.ins d (by simpa using o)) sP sP
 ·by_cases e:d=b
  ·subst e
   simp only[cQ]at s |-;simp only[aU];exact new (p.args K s)
  ·simp only[bI (fun e2=>e e2.symm)]at s |-
   simp only[aM e];exact old (c.fn.args d (by simpa using o) K s) sP (by simp;omega)
 ·have V:u.heap.size<=q:=by simpa [World.setCell]using hq
  show(if q<v.heap.size then _ else _)=_;rw[aM oM];exact p.fr q V
 ·have I:=c.old q hq F
  show(if q<v.heap.size then _ else _)=_;rw[aU oM,I,aM sP]
 ·have I:=c.bxl q F S
  have:=c.gg;show(if q<v.heap.size then _ else _)=_;rw[aU oM,I,aM sP]
theorem T2S.keep{wr w':World}{d:Nat->Nat × Nat × Nat}{av:Nat->Nat->Value}(a:T2S w wr Z d n m k B g i j x h H av)(c:Below wr.heap.size wr w'):T2S w w' Z d n m k B g i j x h H av:=⟨a.low.trans (c.mono a.low.size),a.box.keep (c.block _ a.box.lt),a.res.keep (c.block _ a.res.lt),a.gbx.keep (c.block _ a.gbx.lt),a.gg,a.fn.sp (⟨c.size,fun b _ e _=>⟨c.block b e,rfl⟩,fun f q hq=>f q (aJ c.size hq)⟩:XW wr w' d d n (fun _=>True)) 0 (fun _ _ _ _ _=>trivial) (bC (fun _ _=>trivial)),a.bs,fun q hq=>a.fr q (aJ c.size hq),a.old,a.bxl⟩
theorem T2S.drew{wr:World}{b:Nat->Nat × Nat × Nat}{av:Nat->Nat->Value}(a:T2S w wr Z b n m k B g i j x h H av):T2S w wr.drew Z b n m k B g i j x h H av:=⟨a.low.drew,a.box,a.res,a.gbx,a.gg,a.fn.sp (⟨aA _,fun _ _ _ _=>⟨rfl,rfl⟩,fun a=>a⟩:XW wr wr.drew b b n (fun _=>True)) 0 (fun _ _ _ _ _=>trivial) (bC (fun _ _=>trivial)),a.bs,a.fr,a.old,a.bxl⟩
theorem PhS.start(w:World)(b:Nat):PhS w (w.alloc (.cells #[] 96)) (fun q=>if q=w.heap.size then (2,b,0)else (0,0,0)) b (.slice (some ⟨w.heap.size,0,none⟩) 0 0) [] (fun _=>undef):=by
 refine⟨Xb (Below.refl _ _) _,⟨eI (base:=w.heap.size) (e:=96) (size:=2) w #[] 0 sP sP rfl,fun q e=>?_⟩,fun j a=>absurd a sP,fun q hq=>?_⟩
 ·have e2:w.heap.size=q:=by injection e
  show(if q=w.heap.size then _ else _)=_;rw[aU e2.symm]
 ·rw[aO]at hq
  show(if q=w.heap.size then _ else _)=_;rw[aM oM]
theorem Cx{Q:Exit->Act->World->Prop}(c:World)(n e G A H b:Nat)(q m F:Option Addr)(s r p o:Nat)(c0 c1 c2 c5 k:Value)(C:c.cell? ⟨e,1,none⟩=some (.slice (some ⟨G,0,none⟩) n A))(E:e<c.heap.size)(D:c.cell? ⟨G,b*6,none⟩=some (.slice F 0 H))(B:G<c.heap.size)(J:b<n)(_hn:n<=11)(d h i j:Value)(l:Nat->Nat × Nat × Nat)(g:Nat->Value)(a:List Value)(wr:World)
 (v:∀(z:Value)(a:List Value)(x:World),a.length=134->PhS c x l b d [] g->Q (.exit 4) ⟨(c0::c1::c2::.int .i64 ((n:Nat):Int)::.pointer (some ⟨e,0,none⟩)::c5::k::.int .i64 ((b:Nat):Int)::.slice q s r::.slice m p o::d::z::h::i::j::a).toArray,[]⟩ x)
 (w:a.length=134) (u:Hid (PhS c wr l b d [] g)) :
 Code.wp prog (Code.loop tB3) Q ⟨(c0::c1::c2::.int .i64 ((n:Nat):Int)::.pointer (some ⟨e,0,none⟩)::c5::k::.int .i64 ((b:Nat):Int)::.slice q s r::.slice m p o::d::.int .i64 ((0:Nat):Int)::h::i::j::a).toArray,[]⟩ wr:=by
 have y:=Xa v;clear v;refine iY (fun t wr=>t=⟨(c0::c1::c2::.int .i64 ((n:Nat):Int)::.pointer (some ⟨e,0,none⟩)::c5::k::.int .i64 ((b:Nat):Int)::.slice q s r::.slice m p o::d::.int .i64 ((0:Nat):Int)::h::i::j::a).toArray,[]⟩/\Hid (PhS c wr l b d [] g)) (fun _ _=>0) ⟨rfl,u⟩ ?_;clear u;rintro t wr ⟨rfl,f⟩
 conv=>arg 2;whnf
 obtain⟨I,rfl⟩:=Tj a w;clear w;have K:=oB f.low C E;have L:=oB f.low D B
 go_wp2_with fail
 exact y _ _ _ (by rfl) f
structure T2 where
 b:Nat
 g:List Xe
 lab:Nat->Nat × Nat × Nat
 pv:Nat->Value
 iv:Nat->Value
 av:Nat->Nat->Value
 c8:Value
 c9:Value
 c10:Value
 c11:Value
 c12:Value
 c13:Value
 c14:Value
 tl:List Value
theorem tn2{az:Exit->Act->World->Prop}(w:World)(v G n d h r:Nat)(a0:Nat->Nat × Nat × Nat)(A:Nat)(a:List Xe)(c0 c5 c6:Value)(hQ:Hid (∀d (z:Act) bi v w,az (.panic d) (z.put (some bi) v) w->az (.panic d) z w))(hF:Hid (Xp w A w.heap.size (some ⟨G,0,none⟩) a))(F:Hid (n=a.length))(b0:n<=11)(ha:Hid (d6 a))(cl:Hid (Kg a))
 (bz:∀(C c9 Z B P Q R:Value)(aj:Nat->Nat × Nat × Nat)(pv u:Nat->Value)(av:Nat->Nat->Value)(k:List Value)(K:World),k.length=134->T2S w K a0 aj A v G n d h r (Zh a) pv u av->az (.exit 2) ⟨(c0::.pointer (some ⟨w.heap.size,0,none⟩)::.pointer (some ⟨(w.heap.size+1),0,none⟩)::.int .i64 ((n:Nat):Int)::.pointer (some ⟨(w.heap.size+2),0,none⟩)::c5::c6::.int .i64 ((n:Nat):Int)::C::c9::Z::B::P::Q::R::k).toArray,[]⟩ K)
 (C c9 Z B P Q R:Value) (aj:Nat->Nat × Nat × Nat) (pv u:Nat->Value) (av:Nat->Nat->Value) (k:List Value) (wr:World) (i:k.length=134) (m:Hid (T2S w wr a0 aj A v G n d h r (YP a) pv u av)) :
 Code.wp prog (Code.loop tB2) az ⟨(c0::.pointer (some ⟨w.heap.size,0,none⟩)::.pointer (some ⟨(w.heap.size+1),0,none⟩)::.int .i64 ((n:Nat):Int)::.pointer (some ⟨(w.heap.size+2),0,none⟩)::c5::c6::.int .i64 ((0:Nat):Int)::C::c9::Z::B::P::Q::R::k).toArray,[]⟩ wr:=by
 have HX:=Xa bz;clear bz;refine iY (fun a' wr=>∃x:T2,a'=⟨(c0::.pointer (some ⟨w.heap.size,0,none⟩)::.pointer (some ⟨(w.heap.size+1),0,none⟩)::.int .i64 ((n:Nat):Int)::.pointer (some ⟨(w.heap.size+2),0,none⟩)::c5::c6::.int .i64 ((x.b:Nat):Int)::x.c8::x.c9::x.c10::x.c11::x.c12::x.c13::x.c14::x.tl).toArray,[]⟩/\x.tl.length=134/\x.b<=n/\Hid (Ks a (n-x.b) x.b x.g=Zh a)/\Hid (x.g.length=n)/\Hid (∀j (m:j<x.g.length) (h':othN j n<a.length),x.b<=j->x.g[j].ps=a[othN j n].ps)/\Hid (T2S w wr a0 x.lab A v G n d h r x.g x.pv x.iv x.av)) (fun a' _=>n-(intOf (a'.tmps.getD 7 undef)).toNat) ⟨⟨0,YP a,aj,pv,u,av,C,c9,Z,B,P,Q,R,k⟩,rfl,i,aN _,Xa (by rw[F.out];rfl),Xa (by rw[nv];exact F.symm),Xa (fun j E a9 _=>by have p:=F.out;subst p;rw[Vp E a9]),m⟩ ?_;clear m i;rintro a' wr ⟨⟨b,g,aj,pv,u,av,C,c9,Z,B,P,Q,R,k⟩,rfl,i,hb,HE,N,ax,l⟩;dsimp only at i hb HE N ax l |-
 conv=>arg 2;whnf
 obtain⟨bw,rfl⟩:=Tj k i;clear i;by_cases ad:b<n
 ·have ci:(b:Int)<n:=oM
  have bq:=Xa (ik ad);have cb:=Xa (UG ad);have x0:Cl wr w.heap.size 0 (.int .i64 (v:Int)):=Bx.cell l.box rfl;have x1:Cl wr w.heap.size 1 (.slice (some ⟨G,0,none⟩) n d):=Bx.cell l.box rfl;have bm:=Xa (hF.keep l.low.drew);have cd:=Xa l.drew;have bf:=l.low.size;have b7:=Xa l.box.lt;obtain⟨f,bd⟩:∃f,f=predsFrom a 0 ((othN b n:Nat):Int):=⟨_,rfl⟩;have a6:=Xa bd;have cp:f.length<=11:=by rw[bd];have:=JP a 0 ((othN b n:Nat):Int);have:=F.out;omega
  clear bd
  go_upto_region 15 with fail
  go_cut [8] from 15 to 148 (fun C wz=>∃L aq,C=.slice L f.length aq/\Hid (Below wr.heap.size wr wz/\Xf wz 0 wz.heap.size L f))
  case first =>
   refine Y7 (fun K=>K.cell? ⟨w.heap.size,0,none⟩=some (.int .i64 (v:Int))/\K.cell? ⟨w.heap.size,1,none⟩=some (.slice (some ⟨G,0,none⟩) n d)) (fun hHeld=>?_);refine X0 1 ?_;refine X0 2 ?_;refine eS (rs:=[0,3]) vZ sP ?_;refine(bQ rfl (fun ay hK=>?_) (bQ rfl (fun ay hK=>?_) dY))
   focus
    go_simp;refine hK _ _ kP (fun hHeld=>?_);clear hK
    try simp only[xX]
    refine Xs 3 (fun ay hK=>?_);go_simp
    go_at_call 105
    refine(ZY (b:Int) n _ oM oM oM).mono ?_;rintro p U ⟨rfl,bc⟩;subst bc;rw[bq.out];refine hK _ _ hHeld (fun hHeld=>?_);clear hK
   rotate_left
   focus
    go_simp
    go_at_call 105
    refine(ZY (b:Int) n _ oM oM oM).mono ?_;rintro p U ⟨rfl,bc⟩;subst bc;rw[bq.out];refine hK _ _ hHeld (fun hHeld=>?_);clear hK
    try simp only[xX]
    refine Xs 0 (fun ay hK=>?_);go_simp;refine hK _ _ kP (fun hHeld=>?_);clear hK
   all_goals (
    refine Xs 4 (fun ay hK=>?_);go_simp;refine(ZE (v:Int) (some ⟨G,0,none⟩) n d ((othN b n:Nat):Int) a A w.heap.size wr.drew bm F oM bf).mono ?_;rw[<-a6.out];rintro p c ⟨L,aq,rfl,D,ab⟩;have bs:Hid (Below wr.heap.size wr c/\Xf c 0 c.heap.size L f):=Xa ⟨((Below.refl _ _).drew).trans D,ab.mono (aN _) (aA _)⟩;have KK:∀T a1,T<=w.heap.size->c.cell? ⟨T,a1,none⟩=wr.cell? ⟨T,a1,none⟩:=fun T a1 hq=>bs.1.cell (p:=⟨T,a1,none⟩) (by have:=b7.out;show T<wr.heap.size;omega)
    refine hK _ _ ⟨(KK _ _ (aA _)).trans x0,(KK _ _ (aA _)).trans x1⟩ (fun hHeld=>?_);clear hK KK
    try simp only[xX]
    refine X0 5 ?_;refine Yq ?_;clear hHeld D ab
    go_wp2
    go_meet;exact⟨_,_,rfl,bs⟩)
  case rest =>
   obtain⟨L,aq,rfl,a5⟩:=hcut;have O:=Xa (l.keep a5.1);have bt:=Xa a5.2;clear x0 x1 bm cd l a5;generalize wc=U at *;clear bf;have bf:=O.low.size;have y0:Cl U (w.heap.size+2) 0 (.int .i64 (v:Int)):=Bx.cell O.gbx rfl;have M:Cl U (w.heap.size+2) 1 (.slice (some ⟨h,0,none⟩) n r):=Bx.cell O.gbx rfl;obtain⟨q,ba⟩:∃q,q=predsFrom g 0 (b:Int):=⟨_,rfl⟩;have a4:=Xa ba;have cj:q.length<=11:=by rw[ba];have:=JP g 0 (b:Int);have:=N.out;omega
   clear ba;have ca:Hid (∀bl∈q,0<=bl/\bl<=1000):=Xa (by
    intro bl S;rw[a4.out]at S;obtain⟨cs,hi,p,_⟩:=(TU _ _ _ _).1 S;have:=N.out;omega)
   go_wp2_with fail
   refine(ZE (v:Int) (some ⟨h,0,none⟩) n r (b:Int) g A U.heap.size U (Xa O.fn.at_) (Xa N.symm) oM (aA _)).mono ?_;rw[<-a4.out];rintro p c ⟨na,b3,rfl,D,ab⟩;have e:=Xa (O.keep D);have ce:=Xa ((bt.keep D).mono (aN _) D.size);have b8:=Xa (ab.mono (aN _) (aA _));clear D ab O bt y0 M
   go_wp2_with fail
   have t:b<g.length:=by rw[N.out];exact ad
   have ar:=Xa (PhS.start c b);have bb:othN b n<a.length:=by rw[<-F.out];exact cb
   have br:=Xa (ax.out b t bb (aA _));have M:Cl c (w.heap.size+2) 1 (.slice (some ⟨h,0,none⟩) n r):=Bx.cell e.gbx rfl;have a8:=e.gbx.lt;have a7:=(e.fn.blks.own.lt h rfl).2;obtain⟨J,-,-⟩:=e.fn.cells t;obtain⟨pa,pc,af⟩:=(e.fn.ps b t).form;have cq:=Xa af;rw[af]at J;have bp:Hid (∀al y Y W,PhS c W al b y (YD n f q g[b].ps) Y->W.frozen? ⟨h,b*6,none⟩=false/\∃s I ap X,Ks a (n-(b+1)) (b+1) s=Zh a/\s.length=n/\(∀j (m:j<s.length) (h':othN j n<a.length),b+1<=j->s[j].ps=a[othN j n].ps)/\T2S w (W.setCell ⟨h,b*6,none⟩ y) a0 I A v G n d h r s ap u X):=Xa (fun al y Y W hW=>by
    obtain⟨S,I,H⟩:=e.step t (Below.refl _ _) hW;refine⟨S,_,I,_,_,?_,?_,?_,H⟩
    ·have h0:=HE.out
     rw[show n-b=(n-(b+1))+1 by omega,Ks,show g.getD b XV=g[b] by simp[t],<-F.out,<-a4.out,<-a6.out]at h0;exact h0
    ·rw[bL];exact N
    ·intro j E a9 cr
     rw[bI oM];exact ax j (by simpa using E) a9 oM)
   have b9:Hid (∀y W,(∃al Y,PhS c W al b y (YD n f q g[b].ps) Y)->∃b4 b6 b5,y=.slice b4 b6 b5):=Xa (fun y W m=>by
    obtain⟨ct,z,m⟩:=m;obtain⟨z,d,p⟩:=m.row.form;exact⟨z,_,d,p⟩)
   have bn:=Xa (fun W (hW:Below c.heap.size c W)=>oB hW M a8);have bo:=Xa (fun W (hW:Below c.heap.size c W)=>oB hW J a7);by_cases b1:g[b].ps.length=0
   ·have cf:=iE b1
    rw[b1]at J;refine Cx c n (w.heap.size+2) h r pc b L na pa f.length aq q.length b3 _ _ _ _ _ M a8 J a7 ad b0 _ _ _ _ _ _ _ _ ?_ (by rfl) ar;intro B k K i o;have bv:Hid (YD n f q g[b].ps=[]):=Xa (by rw[cf];rfl);rw[<-bv.out]at o;clear bv;obtain⟨bw,rfl⟩:=Tj k i;clear i;have z1:=bn _ o.low;have z2:=bo _ o.low;obtain⟨S,s,I,ap,X,e1,e2,e3,H⟩:=bp _ _ _ _ o;have HT:=Xa H;have a2:=Xa e1;have V:=Xa e2;have a3:=Xa e3;clear H e1 e2 e3 o M J ar
    go_wp2
    exact⟨⟨⟨b+1,s,I,ap,u,X,_,_,_,_,_,_,_,_⟩,rfl,rfl,(by show b+1<=n;omega),a2,V,a3,HT⟩,by simp[intOf];omega⟩
   ·obtain⟨gp,c2,b2⟩:=(e.fn.ps b t).got oM
    rw[af]at b2;injection b2 with e1 _ e3;subst e1 e3;have ch:=(e.fn.ps b t).own.lt gp (by rw[af];rfl);have cc:Hid (∀j (m:j<g[b].ps.length),c.cell? ⟨gp,j*2,none⟩=some (.int .i64 g[b].ps[j].dst)/\∃aa ac,c.cell? ⟨gp,j*2+1,none⟩=some (.slice aa g[b].ps[j].args.length ac)/\Xf c 0 c.heap.size aa g[b].ps[j].args/\f.length<=g[b].ps[j].args.length):=Xa (fun j E=>by
     have h1:=e.fn.phiCells t E af;have h2:=e.fn.args b t j E;obtain⟨aa,ac,p⟩:=h2.form;rw[p]at h1 h2;refine⟨h1.1,aa,ac,h1.2,(h2.ints).mono (aN _) (aA _),?_⟩;have h3:g[b].ps[j]∈a[othN b n].ps:=by rw[<-br.out];exact aH E
     rw[ha.out _ bb _ h3,<-a6.out];exact aA _)
    have ck:g[b].ps.length<=1000:=by rw[br.out];exact(cl _ (aH bb)).1
    refine tn3 c 0 c.heap.size n (w.heap.size+2) h r gp g[b].ps.length pc b L na f.length aq q.length b3 f q g[b].ps _ _ _ _ _ (by exact Xa (fun d z bi v w m=>hQ d z bi v w m)) ce (Xa rfl) b8 (Xa rfl) (aA _) M a8 J a7 ch.2 (Xa rfl) cc ad b0 ca ⟨cj,cp⟩ ck ?_ _ _ _ _ _ _ _ _ (by rfl) ar;intro y B P Q R al Y k K i o;obtain⟨bw,rfl⟩:=Tj k i;clear i;obtain⟨b4,b6,b5,rfl⟩:=b9 _ _ ⟨_,_,o⟩;have z1:=bn _ o.low;have z2:=bo _ o.low;obtain⟨S,s,I,ap,X,e1,e2,e3,H⟩:=bp _ _ _ _ o;have HT:=Xa H;have a2:=Xa e1;have V:=Xa e2;have a3:=Xa e3;clear H e1 e2 e3 o M J ar
    go_wp2
    exact⟨⟨⟨b+1,s,I,ap,u,X,_,_,_,_,_,_,_,_⟩,⟨(by show(b:Int)+1=((b+1:Nat):Int);omega),rfl,rfl,rfl,rfl,rfl,rfl,rfl,rfl⟩,rfl,(by show b+1<=n;omega),a2,V,a3,HT⟩,by simp[intOf];omega⟩
 ·have ci:¬(b:Int)<n:=oM
  have bx:b=n:=oM;have V:Hid (g=Zh a):=Xa (by
   have:=HE.out;rw[bx,kL]at this;exact this)
  subst bx;have e:=Xa l.out;rw[V.out]at e;clear l HE ax
  go_wp2_with fail
  exact HX _ _ _ _ _ _ _ _ _ _ _ _ _ (by rfl) e
theorem yR:q8:=by
 intro v G n c s A m B z av w hF p H aa ha J K I y;have t:Hid (T1S w (((w.alloc (.cells #[.int .i64 (v:Int),.slice (some ⟨G,0,none⟩) n c] 25)).alloc (.cells #[.int .i64 0,.slice none 0 0] 25)).alloc (.cells #[.int .i64 (v:Int),.slice none 0 0] 25)) v G n c B z s (.slice none 0 0) 0):=Xa (by
  refine⟨Xb (Xb (Xb (Below.refl _ _) _) _) _,((Bx.new _ _ _).box _).box _,?_,?_,dA _ _ _ _⟩
  ·have:=(Bx.new (w.alloc (.cells #[.int .i64 (v:Int),.slice (some ⟨G,0,none⟩) n c] 25)) #[.int .i64 0,.slice none 0 0] 25).box (.cells #[.int .i64 (v:Int),.slice none 0 0] 25)
   rwa[aO]at this
  ·have:=Bx.new ((w.alloc (.cells #[.int .i64 (v:Int),.slice (some ⟨G,0,none⟩) n c] 25)).alloc (.cells #[.int .i64 0,.slice none 0 0] 25)) #[.int .i64 (v:Int),.slice none 0 0] 25
   rwa[aO,aO]at this)
 go_in
 go_wp2_with fail
 refine tn1 w v G n c A m s B z av _ _ _ _ _ _ _ _ _ (by exact Xa (fun c C Q v w o=>o)) hF p y K ?_ _ _ _ _ (by rfl) t;intro vg W r w1 i j;obtain⟨E,rfl⟩:=Tj r i;clear i t;obtain⟨f,g,ab,rfl,h⟩:=j.turn hF p H I;have u:=Xa h;clear j h
 go_wp2_with fail
 refine tn2 w v G n c f g A m s _ _ _ (by exact Xa (fun c C Q v w o=>o)) (Xa hF.at_) p y ha J ?_ _ _ _ _ _ _ _ _ _ _ _ _ _ (by rfl) u;intro X Y R S T U V l N L D r d i h;obtain⟨E,rfl⟩:=Tj r i;clear i u;have a:=Xa h;clear h;have Z:Cl d (w.heap.size+2) 0 (.int .i64 (v:Int)):=Bx.cell a.gbx rfl;have f1:Cl d (w.heap.size+2) 1 (.slice (some ⟨f,0,none⟩) n g):=Bx.cell a.gbx rfl;have O:Cl d (w.heap.size+1) 0 (.int .i64 0):=Bx.cell a.res rfl;have P:Cl d (w.heap.size+1) 1 (.slice none 0 0):=Bx.cell a.res rfl;have rz:=Bx.thaw a.res;go_wp2;have x:∀q,(l q).1≠0->q≠w.heap.size+1:=fun q F e=>F (by rw[e,a.bxl _ oM oM])
 have M:XW d ((d.setCell ⟨w.heap.size+1,0,none⟩ (.int .i64 (v:Int))).setCell ⟨w.heap.size+1,1,none⟩ (.slice (some ⟨f,0,none⟩) n g)) l l m (fun b=>b≠w.heap.size+1):=((XW.put _ _ _).trans (XW.put _ _ _)).weak (fun _ k=>⟨k,k⟩);refine cC (v:=.agg #[.int .i64 (v:Int),.slice (some ⟨f,0,none⟩) n g]) (by simp[results,results70,go_sem,O,P]) rfl ⟨l,f,g,N,L,D,rfl,?_,?_,?_,?_⟩
 ·exact(a.low.setCell (by show w.heap.size<=w.heap.size+1;omega) _).setCell (by show w.heap.size<=w.heap.size+1;omega) _
 ·exact a.fn.sp M 0 (fun b j _ _ _=>x b j) (bC (fun b e=>x b (by rcases e with e | e<;>rw[e]<;>simp)))
 ·intro b k
  exact a.fr b (by simpa [World.setCell]using k)
 ·exact a.old
end Go.Proofs.YtghnlncgiihhgaaGreatDoor
