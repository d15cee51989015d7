import Derived.Test.YtffcajcgkblkoaaGreatDoorDW0
namespace Go.Proofs.YtffcajcgkblkoaaGreatDoor
set_option maxHeartbeats 8000000
set_option maxRecDepth 100000
open Go.RowKit Go.Proofs.Tryz
variable{t:Int}{x:List Xe}{n m k B g i c:Nat}{Z:Nat->Nat×Nat×Nat}{h H G:Nat->Value}{p:Option Addr}{a A:Value}{w v u:World}
structure LF(w wr:World)(v G n c:Nat)(pv iv:Nat->Value)(xs:List Xe)(vg:Value)(b:Nat):Prop where
 low:Below w.heap.size w wr
 box:Bx wr w.heap.size #[.int .i64 (v:Int),.slice (some ⟨G,0,none⟩) n c] 25
 res:Bx wr (w.heap.size+1) #[.int .i64 0,.slice none 0 0] 25
 gbx:Bx wr (w.heap.size+2) #[.int .i64 (v:Int),vg] 25
 own:wr.ownsRow (w.heap.size+3) 46 6 vg b (XF (λi=>pv<|CP i n) (λi=>iv<|CP i n) ((YP xs).take b))
theorem LF.keep{wr w':World}{b:Nat}(d:LF w wr n m k c h H x a b)(e:Below wr.heap.size wr w'):LF w w' n m k c h H x a b :=
 ⟨d.low.trans<|e.mono d.low.size,d.box.keep<|e.block _ d.box.lt,d.res.keep<|e.block _ d.res.lt,d.gbx.keep<|e.block _ d.gbx.lt,Zl d.own λq f=>e.block q (d.own.lt q f).2⟩
theorem LF.push{b:Nat}{o:Obj}{tt:Yj}(d:LF w v n m k c h H x a b)(g:(v.alloc o).grownBy u a.ownBlock)(p:u.ownsRow (w.heap.size+3) 46 6 A B ((XF (λi=>h<|CP i k) (λi=>H<|CP i k) ((YP x).take b))++[h<|CP b k,H<|CP b k,.int .i64 (YB k tt).kind,.int .i64 (YB k tt).a,.int .i64 (YB k tt).to,.int .i64 (YB k tt).els]))(t:B=b+1)(l:k=x.length)(z:b<k)(y:tt=(x.getD (CP b k) XV).te) :
 Bx u (w.heap.size+2) #[.int .i64 (n:Int),a] 25/\LF w (u.setCell ⟨w.heap.size+2,1,none⟩ A) n m k c h H x A (b+1):=by
 have D:=d.gbx.lt;have f:∀q,q<w.heap.size+3->u.heap[q]?=v.heap[q]?:=λq hq=>(g.block q (by simp;omega) λe=>by have:=(d.own.lt q e.symm).1;omega).trans (Below.heap_alloc _ _ _ oM);have s:=(d.low.trans<|Below.alloc (Below.refl _ _) oM o).trans (Xy (Below.refl _ _) g (d.own.alloc o) oM (by simp;omega));have j:=d.gbx.keep<|f _ oM;refine⟨j,s.setCell (by show w.heap.size<=w.heap.size+2;omega) _,(d.box.keep<|f _ oM).other oM,(d.res.keep<|f _ oM).other oM,?_,?_⟩
 .have:=j.set 1 A;simpa using this
 subst t;have C:(YP x).length=k:=by rw[l];simp[YP]
 have e:(XF (λi=>h<|CP i k) (λi=>H<|CP i k) ((YP x).take (b+1)))=(XF (λi=>h<|CP i k) (λi=>H<|CP i k) ((YP x).take b))++[h<|CP b k,H<|CP b k,Hp (YB k tt).kind,Hp (YB k tt).a,Hp (YB k tt).to,Hp (YB k tt).els]:=by
  have r:b<(YP x).length:=oM;rw[bN r];unfold XF;rw[Zo,aV,dH,jZ oM];have e2:(YP x)[b].te=YB k tt:=by rw[y];simp[YP,l]
  rw[e2];rfl
 rw[e];refine fS p (λe=>?_) A;have:=(p.lt _ e).1;simp at this
structure T1 where
 b:Nat
 vg:Value
 c6:Value
 tl:List Value
theorem NQ{T:Exit->Act->World->Prop}(w:World)(F G n c:Nat)(b5:Nat->Nat×Nat×Nat)(bl:Nat)(f:List Xe)(E C:Nat->Value)(av:Nat->Nat->Value)(c0 c7 c8 c9 ad af aj al ao:Value)(hQ:Hs (∀c (a1:Act) t F w,T (.panic c) (a1.put (some t) F) w->T (.panic c) a1 w))(hF:Hs (ZU w b5 bl (Hl G n c) f E C av))(hn:Hs (n=f.length))(ce:n<=11)(bx:Hs (LZ f))
 (a3:∀(r x:Value)(q:List Value)(h:World),q.length=134->LF w h F G n c E C f r n->T (.exit 0) ⟨(c0::Hn w.heap.size::Hn (w.heap.size+1)::Hp ((n:Nat):Int)::Hn (w.heap.size+2)::Hp ((n:Nat):Int)::x::c7::c8::c9::ad::af::aj::al::ao::q).toArray,[]⟩ h)
 (r x:Value) (q:List Value) (wr:World) (B:q.length=134) (A:Hs (LF w wr F G n c E C f r 0)) :
 Code.wp prog (Code.loop NT) T ⟨(c0::Hn w.heap.size::Hn (w.heap.size+1)::Hp ((n:Nat):Int)::Hn (w.heap.size+2)::Hp ((0:Nat):Int)::x::c7::c8::c9::ad::af::aj::al::ao::q).toArray,[]⟩ wr:=by
 have HX:=Xa a3;clear a3;let⟨i0,br,b1,b3,b4⟩:=Xq Nx;refine iY (λV wr=>∃y:T1,V=⟨(c0::Hn w.heap.size::Hn (w.heap.size+1)::Hp ((n:Nat):Int)::Hn (w.heap.size+2)::Hp ((y.b:Nat):Int)::y.c6::c7::c8::c9::ad::af::aj::al::ao::y.tl).toArray,[]⟩/\y.tl.length=134/\y.b<=n/\Hs (LF w wr F G n c E C f y.vg y.b)) (λV _=>n-(intOf<|V.tmps.getD 5 undef).toNat) ⟨⟨0,r,x,q⟩,rfl,B,aN _,A⟩ ?_;clear A B;rintro V wr⟨⟨b,r,x,q⟩,rfl,B,hb,e⟩;dsimp only at B hb e |-
 conv=>arg 2;whnf
 obtain⟨ca,rfl⟩:=Tj q B;simp only[ae,Nat.reduceAdd];clear B;by_cases bt:b<n
 .have bv:(b:Int)<n:=oM;have a5:CP b n<n:=by unfold CP;split<;>omega
  have I:CP b n<f.length:=by rw[<-hn.o];exact a5
  have a7:J1 (b:Int) n=((CP b n:Nat):Int):=by
   unfold J1 CP;split
   .rename_i A;have:b=0:=oM;rw[aU this];rfl
   rename_i A;rw[aM oM];omega
  have ac:=Xa a7;clear a7;let⟨p0,p1,t0,t1,t2,t3⟩:=hF.cells I;have bm:=(hF.blks.own.lt G rfl).2;have z:=Xa λW (hW:Below w.heap.size w W) J=>hW.cell (p:=Hk G J) bm;have x1:=Bx.c e.box 1;have O:=(z _ e.low _).trans p0;have P:=(z _ e.low _).trans p1;have y2:=(z _ e.low _).trans t0;have y3:=(z _ e.low _).trans t1;have y4:=(z _ e.low _).trans t2;have y5:=(z _ e.low _).trans t3;let⟨l,m,ax⟩:=(hF.ps _ I).form;let⟨i,j,ap⟩:=(hF.ins _ I).form;rw[ax]at O;rw[ap]at P;have bi:Hs (f[CP b n].te=(f.getD (CP b n) XV).te):=Xa (by simp[I]);have a0:=Xa<|bx.o _ (aH I);rw[<-hn.o]at a0;have bb:=Xa ax;have a9:=Xa ap;clear ax ap p0 p1 t0 t1 t2 t3;generalize f[CP b n].ps.length=o at*;generalize f[CP b n].is.length=k at*;generalize f[CP b n].te=a at*;have a8:Hs (CP b n=CP b n):=Xa rfl;generalize a6:CP b n=D at x1 O P y2 y3 y4 y5 ac a5;have b7:=Xa a6;clear a6 a8;have ab:Hs (w.heap.size+3<=wr.heap.size):=Xa e.gbx.lt;have aa:Hs (Below wr.heap.size wr (wr.alloc<|.cells #[.slice l o m,.slice i k j,Hp a.kind,Hp a.a,Hp a.to,Hp a.els] 46).drew/\Bx (wr.alloc<|.cells #[.slice l o m,.slice i k j,Hp a.kind,Hp a.a,Hp a.to,Hp a.els] 46).drew wr.heap.size #[.slice l o m,.slice i k j,Hp a.kind,Hp a.a,Hp a.to,Hp a.els] 46):=Xa ⟨(Xb (Below.refl _ _) _).drew,Bx.new _ _ _⟩;have p:Hs (∀Y J Z,Y<wr.heap.size->wr.cell? (Hk Y J)=some Z->(wr.alloc<|.cells #[.slice l o m,.slice i k j,Hp a.kind,Hp a.a,Hp a.to,Hp a.els] 46).drew.cell? (Hk Y J)=some Z):=Xa λY J Z hq X=>oB aa.1 X hq;have ba:Hs (r.ownBlock≠some wr.heap.size):=Xa (λH=>by have:=(e.own.lt _ H).2;omega);have cb:G<wr.heap.size:=oN ab.o;have cg:w.heap.size<wr.heap.size:=oN ab.o
  go_upto_region 6 with fail
  go_cut [6]from 21 to 60 λx wx=>x=Hn wr.heap.size/\Hs (Below wr.heap.size wr wx/\Bx wx wr.heap.size #[.slice l o m,.slice i k j,Hp a.kind,Hp a.a,Hp a.to,Hp a.els] 46)
  case first=>
   refine Y7 (λh=>h.cell? (Hk w.heap.size 1)=some (Hl G n c)/\h.cell? (Hk G<|D*6)=some (.slice l o m)/\h.cell? (Hk G<|D*6+1)=some (.slice i k j)/\h.cell? (Hk G<|D*6+2)=some (Hp a.kind)/\h.cell? (Hk G<|D*6+2+1)=some (Hp a.a)/\h.cell? (Hk G<|D*6+2+2)=some (Hp a.to)/\h.cell? (Hk G<|D*6+2+3)=some (Hp a.els)) λhHeld=>?_;refine X0 0 ?_;refine X0 1 ?_;refine X0 2 ?_;refine X0 3 ?_;refine eS (rs:=[4,7]) kR sP ?_;refine(bQ rfl (λK hK=>?_) (bQ rfl (λK hK=>?_) dY))
   focus
    go_simp
    go_at_call 110
    refine(ZY (b:Int) n _ oM oM oM).mono ?_;rintro H w1⟨rfl,ay⟩;subst ay;rw[ac.o];refine hK _ _ ⟨x1,O,P,y2,y3,y4,y5⟩ λhHeld=>?_;clear hK
    try simp only[xX]
    refine X0 5 ?_;refine eS (rs:=[6,7]) kR sP ?_;refine(bQ rfl (λK hK=>?_) (bQ rfl (λK hK=>?_) dY))
   focus
    go_simp;refine hK _ _ kP λhHeld=>?_;clear hK
    try simp only[xX]
    refine Xs 7 λK hK=>?_;go_simp;refine hK _ _ kP λhHeld=>?_;clear hK
   rotate_left
   focus
    go_simp;refine hK _ _ kP λhHeld=>?_;clear hK
    try simp only[xX]
    refine Xs 6 λK hK=>?_;go_simp;refine hK _ _ kP λhHeld=>?_;clear hK
   rotate_left
   focus
    go_simp;refine hK _ _ kP λhHeld=>?_;clear hK
    try simp only[xX]
    refine Xs 4 λK hK=>?_;go_simp
    go_at_call 110
    refine(ZY (b:Int) n _ oM oM oM).mono ?_;rintro H w1⟨rfl,ay⟩;subst ay;rw[ac.o];refine hK _ _ hHeld λhHeld=>?_;clear hK;refine X0 5 ?_;refine Xs 6 λK hK=>?_;go_simp;refine hK _ _ kP λhHeld=>?_;clear hK
   all_goals (
    refine Xs 8 λK hK=>?_;go_simp;refine hK _ _ ⟨p _ _ _ oM x1,p _ _ _ oM O,p _ _ _ oM P,p _ _ _ oM y2,p _ _ _ oM y3,p _ _ _ oM y4,p _ _ _ oM y5⟩ λhHeld=>?_;clear hK;refine Yq ?_;clear hHeld;go_wp2
    go_meet;exact⟨rfl,aa⟩)
  obtain⟨rfl,S⟩:=hcut;clear x1 O P y2 y3 y4 y5 aa p;have bd:Hs (∀W,Below wr.heap.size wr W->LF w W F G n c E C f r b):=Xa λW hW=>e.keep hW;have bc:=Xa<|e.keep S.1;have d:=Xa S.2;have u:=Xa S.1;have cd:=ab.o;clear e S;generalize wc=w1 at*;have b6:=Xa ba.o;generalize wr.heap.size=xb at*;have q2:=Bx.c d 2;have L:=Bx.c d 4;have M:=Bx.c d 5;have qz:=Bx.thaw d
  go_upto_if 36 with fail
  have cf:=a0.2
  go_cut []from 21 to 60 λN=>Hs<|Below xb wr N/\Bx N xb #[.slice l o m,.slice i k j,Hp a.kind,Hp a.a,Hp (YB n a).to,Hp a.els] 46
  case first=>
   by_cases g:a.kind=3
   .have aq:(a.kind != 3)=false:=by simpa using g
    have s:Hs ((YB n a).to=a.to):=Xa (by unfold YB;dsimp only;rw[aM λA=>A g]);clear g;go_wp2;go_meet;rw[s.o];exact Xa ⟨u,d⟩
   have aq:(a.kind != 3)=true:=by simpa using g
   have s:Hs ((YB n a).to=J1 a.to n):=Xa (by unfold YB;dsimp only;rw[aU g]);clear g;go_wp2_with fail
   refine(ZY a.to n _ oM oM oM).mono ?_;rintro H w2⟨rfl,bz⟩;subst bz;go_wp2;go_meet;rw[s.o];refine Xa ⟨u.setCell (aA _) _,?_⟩;have:=d.set 4<|Hp (J1 a.to n);simpa using this
  have v:=Xa hcut.o;clear d q2 L M qz u hcut bc;have u:=Xa v.1;have d:=Xa v.2;clear v;generalize wc=w2 at*;have q2:=Bx.c d 2;have L:=Bx.c d 4;have M:=Bx.c d 5;have qz:=Bx.thaw d
  go_upto_if 47 with fail
  go_cut []from 21 to 60 λN=>Hs<|Below xb wr N/\Bx N xb #[.slice l o m,.slice i k j,Hp (YB n a).kind,Hp (YB n a).a,Hp (YB n a).to,Hp (YB n a).els] 46
  case first=>
   by_cases g:a.kind=2
   .have aq:(a.kind==2)=true:=by simpa using g
    have s:Hs ((YB n a).els=J1 a.els n):=Xa (by unfold YB;dsimp only;rw[aU g]);clear g;go_wp2_with fail
    refine(ZY a.els n _ oM oM oM).mono ?_;rintro H w3⟨rfl,b0⟩;subst b0;go_wp2;go_meet;rw[s.o];refine Xa ⟨u.setCell (aA _) _,?_⟩;have:=d.set 5<|Hp (J1 a.els n);simpa [YB]using this
   have aq:(a.kind==2)=false:=by simpa using g
   have s:Hs ((YB n a).els=a.els):=Xa (by unfold YB;dsimp only;rw[aM g]);clear g;go_wp2;go_meet;rw[s.o];exact Xa ⟨u,d⟩
  have v:=Xa hcut.o;clear d q2 L M qz u hcut;have R:=Xa<|bd.o _ v.1;have d:=Xa v.2;clear v;generalize wc=w3 at*;generalize a2:YB n a=U at*;have bf:=Xa a2;clear a2;have f1:=Bx.c R.gbx 1;have q0:=Bx.c d 0;have q1:=Bx.c d 1;have q2:=Bx.c d 2;have q3:=Bx.c d 3;have L:=Bx.c d 4;have M:=Bx.c d 5;have cc:=R.gbx.lt;go_wp2_with (at_builtin;refine bT _ rfl _ _ 23 rfl (w.heap.size+3) 46 i0 (.agg #[Hq,Hq,Hp 0,Hp 0,Hp 0,Hp 0]) 6 80 underlying23 br b1 b3 b4 rfl vZ r b (XF (λaz=>E<|CP az n) (λaz=>C<|CP az n) ((YP f).take b)) rfl (R.own.alloc _) (Hk w3.heap.size 0) 1 1 [.slice l o m,.slice i k j,Hp U.kind,Hp U.a,Hp U.to,Hp U.els] rfl rfl (World.news_of_block<|World.alloc_heap_new _ _) ?c2 ?c3 ?c4 ?c5 ?_)
  case c2=>intro Z X;simp at X;rcases X with rfl|rfl|rfl|rfl|rfl|rfl<;>rfl
  case c3=>unfold maxLen;omega
  case c4=>omega
  case c5=>simp;omega
  intro v8 w8 ar a4 bw bn;have Q:=Xa (R.push (tt:=a) a4 (by rw[bf.o,bb.o,a9.o];exact ar) rfl hn bt bi);obtain⟨g8,b8,rfl,bq,bp⟩:=Xm ar oM;clear bq bp bw bn ar a4 q0 q1 q2 q3 L M f1;have k1:=Bx.c Q.1 1;have kz:=Bx.thaw Q.1;have HF:=Xa Q.2;clear Q;go_wp2;exact⟨⟨⟨b+1,_,_,_⟩,rfl,rfl,(by show b+1<=n;omega),HF⟩,by simp[intOf];omega⟩
 have bv:¬(b:Int)<n:=oM;have bo:b=n:=oM;subst bo;go_wp2_with fail
 exact HX _ _ _ _ (by rfl) e
def Wa(n:Nat)(L:Nat×Nat×Nat):Nat×Nat×Nat:=if L.1=0 then (0,0,0)else if L.1=1 then (9,0,0)else (L.1,CP L.2.1 n,L.2.2)
structure LA(w wr:World)(lab0 lab:Nat->Nat×Nat×Nat)(base v G n c G' c':Nat)(g:List Xe)(pv iv:Nat->Value)(av:Nat->Nat->Value):Prop where
 low:Below w.heap.size w wr
 box:Bx wr w.heap.size #[.int .i64 (v:Int),.slice (some ⟨G,0,none⟩) n c] 25
 res:Bx wr (w.heap.size+1) #[.int .i64 0,.slice none 0 0] 25
 gbx:Bx wr (w.heap.size+2) #[.int .i64 (v:Int),.slice (some ⟨G',0,none⟩) n c'] 25
 gg:w.heap.size+3<=G'
 fn:ZU wr lab base (.slice (some ⟨G',0,none⟩) n c') g pv iv av
 bs:base<=w.heap.size
 fr:∀q,wr.heap.size<=q->lab q=(0,0,0)
 old:∀q,q<w.heap.size->lab0 q=(0,0,0)->lab q=(0,0,0)
 bxl:∀q,w.heap.size<=q->q<w.heap.size+3->lab q=(0,0,0)
theorem qy(a:List Xe):(YP a).length=a.length:=by simp[YP]
theorem Vp{b:Nat}(c:b<(YP x).length)(a:CP b x.length<x.length):(YP x)[b]=⟨x[CP b x.length].ps,x[CP b x.length].is,YB x.length x[CP b x.length].te⟩:=by
 simp[YP,a]
theorem LF.turn{wr:World}{av:Nat->Nat->Value}(hF:ZU w Z n (.slice (some ⟨k,0,none⟩) B c) x h H av)(G:B=x.length)(E:n<=w.heap.size)(K:1<=B)(f:LF w wr m k B c h H x a B) :
 ∃d l J,a=.slice (some ⟨d,0,none⟩) B l/\LA w wr Z J n m k B c d l (YP x) (λi=>h<|CP i B) (λi=>H<|CP i B) (λi=>av<|CP i B):=by
 subst G;let⟨d,l,e,N⟩:=Xm f.own oM;subst e;have p:=f.own.lt d rfl;have F:=qy x;have r:∀{L s:Nat×Nat×Nat}{A z:Nat}{C:Value}{y:Nat}{t:List Value},Xv w Z L n A z C y t->Wa x.length L=s->Xv wr (λq=>if q<w.heap.size then Wa x.length (Z q)else if q=d then (1,0,0)else (0,0,0)) s n A z C y t:=λo D=>⟨Zl o.own λb e=>f.low.block b (o.own.lt b e).2,λb e=>by
  show(if b<w.heap.size then Wa x.length (Z b)else _)=_;rw[aU (o.own.lt b e).2,o.lab b e,D]⟩
 refine⟨d,l,λq=>if q<w.heap.size then Wa x.length (Z q)else if q=d then (1,0,0)else (0,0,0),rfl,f.low,f.box,f.res,f.gbx,p.1,⟨⟨?_,λb e=>?_⟩,λi j=>?_,λi j=>?_,λi j I v=>?_⟩,E,λq hq=>?_,λq hq u=>?_,λq u M=>?_⟩
 .have:=Zk f.own (show n<=w.heap.size+3 by omega);rw[aW oM]at this;rw[F];exact this
 .have e2:d=b:=by injection e
  subst e2;show(if d < w.heap.size then _ else if d=d then _ else _)=_;rw[aM oM,aU rfl]
 .have g:=UG (show i<x.length by omega);rw[Vp j g];refine r (hF.ps _ g) ?_;unfold Wa;rw[aM sP,aM sP,Ka oM]
 .have g:=UG (show i<x.length by omega);rw[Vp j g];refine r (hF.ins _ g) ?_;unfold Wa;rw[aM sP,aM sP,Ka oM]
 .have g:=UG (show i<x.length by omega);have e:=Vp j g;simp only[e]at v |-;refine r (hF.args _ g I v) ?_;unfold Wa;rw[aM sP,aM sP,Ka oM]
 .have:=p.2;have:=f.low.size;show(if q<w.heap.size then _ else if q=d then _ else _)=_;rw[aM oM,aM oM]
 .show(if q<w.heap.size then Wa x.length (Z q)else _)=_;rw[aU hq,u];rfl
 have:=p.1;show(if q<w.heap.size then _ else if q=d then _ else _)=_;rw[aM oM,aM oM]
theorem LA.step{wr:World}{j y:Nat->Nat×Nat×Nat}{b:Nat}{av:Nat->Nat->Value}{E:List Ph}(d:LA w wr Z j n m k B c g i x h H av)(T:b<x.length)(J:Below wr.heap.size wr v)(p:It v u y b a E G) :
 u.frozen? ⟨g,b*6,none⟩=false/\∃Y,LA w (u.setCell ⟨g,b*6,none⟩ a) Z Y n m k B c g i (x.set b ⟨E,x[b].is,x[b].te⟩) (λf=>if f=b then a else h f) H (λf=>if f=b then G else av f):=by
 have ab:=J.size;have ac:=p.low.size;have W:=d.low.size;have P:=ZW d.fn.blks;have N:=d.fn.blks.lab g rfl;have aa:=d.fn.blks.own.lt g rfl;have t:=λq hq=>(p.low.block q oM).trans (J.block q hq)
 have old:∀{L:Nat×Nat×Nat}{C A:Nat}{D:Value}{z:Nat}{r:List Value},Xv wr j L n C A D z r->L≠(1,0,0)->¬((L.1=2\/L.1=4)/\L.2.1=b)->Xv (u.setCell (Hk g<|b*6) a) (λq=>if q<v.heap.size then (if ((j q).1=2\/(j q).1=4)/\(j q).2.1=b then (9,0,0)else j q)else y q) L n C A D z r:=λl Q R=>⟨Zl l.own λq e=>(Below.heap_setCell _ _ _ _ λe2=>Q<|by rw[<-l.lab q e,e2,N]).trans (t q (l.own.lt q e).2),λq e=>by
  show(if q<v.heap.size then _ else _)=_;rw[aU<|oN ((l.own.lt q e).2),l.lab q e,aM R]⟩
 have new:∀{L:Nat×Nat×Nat}{C A:Nat}{D:Value}{z:Nat}{r:List Value},Xv u y L v.heap.size C A D z r->Xv (u.setCell (Hk g<|b*6) a) (λq=>if q<v.heap.size then (if ((j q).1=2\/(j q).1=4)/\(j q).2.1=b then (9,0,0)else j q)else y q) L n C A D z r:=λl=>⟨Zk (Zl l.own λq e=>Below.heap_setCell _ _ _ _ (by have:=(l.own.lt q e).1;show q≠g;omega)) (oN d.bs),λq e=>by
  show(if q<v.heap.size then _ else _)=_;rw[aM<|oN ((l.own.lt q e).1),l.lab q e]⟩
 have O:Xv u j (1,0,0) n 46 6 (Hl g B i) B (XF h H x):=by
  have:=d.fn.blks;rw[P]at this;exact⟨Zl this.own λq e=>t q (this.own.lt q e).2,this.lab⟩
 refine⟨O.thaw _,λq=>if q<v.heap.size then (if ((j q).1=2\/(j q).1=4)/\(j q).2.1=b then (9,0,0)else j q)else y q,?_,?_,?_,?_,d.gg,⟨⟨?_,λq e=>?_⟩,λf o=>?_,λf o=>?_,λf o K s=>?_⟩,d.bs,λq hq=>?_,λq hq F=>?_,λq F S=>?_⟩
 .have:=d.gg;exact((d.low.trans<|J.mono W).trans (p.low.mono oM)).setCell (by show w.heap.size<=g;omega) _
 .exact(d.box.keep<|t _ d.box.lt).other (oN d.gg)
 .exact(d.res.keep<|t _ d.res.lt).other (oN d.gg)
 .exact(d.gbx.keep<|t _ d.gbx.lt).other (oN d.gg)
 .rw[bL,P]
  have X:=(O.set (b*6) a).own;have e:XF (λf=>if f=b then a else h f) H (x.set b ⟨E,x[b].is,x[b].te⟩)=(XF h H x).set (b*6) a:=by
   unfold XF;have:=Yr (f:=λf (M:Xe)=>UT (h f) (H f) M.te) (f':=λf (M:Xe)=>UT (if f=b then a else h f) (H f) M.te) (sz:=6) (λ_ _=>rfl) 0 x b T ⟨E,x[b].is,x[b].te⟩ 0 a oM (by(try dsimp only);rw[aV,aU rfl];rfl) (λK s U=>by(try dsimp only);rw[aV,aM U]);rw[fW]at this;exact this
  rw[e];exact X
 .have e2:g=q:=by injection e
  subst e2;show(if g < v.heap.size then _ else _)=_;rw[aU oM,N,aM sP]
 .by_cases e:f=b
  .subst e;simp only[cQ,aU];exact new p.row
  simp only[bI λe2=>e e2.symm,aM e];exact old (d.fn.ps f<|by simpa using o) sP (by simp;omega)
 .by_cases e:f=b
  .subst e;simp only[cQ];exact old (d.fn.ins f<|by simpa using o) sP sP
  simp only[bI λe2=>e e2.symm];exact old (d.fn.ins f<|by simpa using o) sP sP
 .by_cases e:f=b
  .subst e;simp only[cQ]at s |-;simp only[aU];exact new<|p.args K s
  simp only[bI λe2=>e e2.symm]at s |-;simp only[aM e];exact old (d.fn.args f (by simpa using o) K s) sP (by simp;omega)
 .have V:u.heap.size<=q:=by simpa [World.setCell]using hq
  show(if q<v.heap.size then _ else _)=_;rw[aM oM];exact p.fr q V
 .have I:=d.old q hq F;show(if q<v.heap.size then _ else _)=_;rw[aU oM,I,aM sP]
 have I:=d.bxl q F S;have:=d.gg;show(if q<v.heap.size then _ else _)=_;rw[aU oM,I,aM sP]
theorem LA.keep{wr w':World}{e:Nat->Nat×Nat×Nat}{av:Nat->Nat->Value}(a:LA w wr Z e n m k B c g i x h H av)(d:Below wr.heap.size wr w'):LA w w' Z e n m k B c g i x h H av:=⟨a.low.trans<|d.mono a.low.size,a.box.keep<|d.block _ a.box.lt,a.res.keep<|d.block _ a.res.lt,a.gbx.keep<|d.block _ a.gbx.lt,a.gg,a.fn.sp (⟨d.size,λb _ f _=>⟨d.block b f,rfl⟩,λj q hq=>j q<|aJ d.size hq⟩:XW wr w' e e n λ_=>True) 0 (λ_ _ _ _ _=>trivial) (bC λ_ _=>trivial),a.bs,λq hq=>a.fr q<|aJ d.size hq,a.old,a.bxl⟩
theorem LA.drew{wr:World}{b:Nat->Nat×Nat×Nat}{av:Nat->Nat->Value}(a:LA w wr Z b n m k B c g i x h H av):LA w wr.drew Z b n m k B c g i x h H av:=⟨a.low.drew,a.box,a.res,a.gbx,a.gg,a.fn.sp (⟨aA _,λ_ _ _ _=>⟨rfl,rfl⟩,λa=>a⟩:XW wr wr.drew b b n λ_=>True) 0 (λ_ _ _ _ _=>trivial) (bC λ_ _=>trivial),a.bs,a.fr,a.old,a.bxl⟩
theorem It.start(w:World)(b:Nat):It w (w.alloc<|.cells #[] 106) (λq=>if q=w.heap.size then (2,b,0)else (0,0,0)) b (.slice (some ⟨w.heap.size,0,none⟩) 0 0) [] (λ_=>undef):=by
 refine⟨Xb (Below.refl _ _) _,⟨eI (base:=w.heap.size) (e:=106) (size:=2) w #[] 0 sP sP rfl,λq e=>?_⟩,λj a=>absurd a sP,λq hq=>?_⟩
 .have e2:w.heap.size=q:=by injection e
  show(if q=w.heap.size then _ else _)=_;rw[aU e2.symm]
 rw[aO]at hq;show(if q=w.heap.size then _ else _)=_;rw[aM oM]
theorem Fb{Q:Exit->Act->World->Prop}(c:World)(n e G A H b:Nat)(q m F:Option Addr)(s r p o:Nat)(c0 c1 c2 c5 k:Value)(C:c.cell? (Hk e 1)=some (Hl G n A))(E:e<c.heap.size)(D:c.cell? (Hk G<|b*6)=some (.slice F 0 H))(B:G<c.heap.size)(J:b<n)(_hn:n<=11)(d h i j:Value)(l:Nat->Nat×Nat×Nat)(g:Nat->Value)(a:List Value)(wr:World)
 (v:∀(z:Value)(a:List Value)(x:World),a.length=134->It c x l b d [] g->Q (.exit 4) ⟨(c0::c1::c2::Hp ((n:Nat):Int)::Hn e::c5::k::Hp ((b:Nat):Int)::.slice q s r::.slice m p o::d::z::h::i::j::a).toArray,[]⟩ x)
 (w:a.length=134) (u:Hs (It c wr l b d [] g)) :
 Code.wp prog (Code.loop Ma) Q ⟨(c0::c1::c2::Hp ((n:Nat):Int)::Hn e::c5::k::Hp ((b:Nat):Int)::.slice q s r::.slice m p o::d::Hp ((0:Nat):Int)::h::i::j::a).toArray,[]⟩ wr:=by
 have y:=Xa v;refine iY (λt wr=>t=⟨(c0::c1::c2::Hp ((n:Nat):Int)::Hn e::c5::k::Hp ((b:Nat):Int)::.slice q s r::.slice m p o::d::Hp ((0:Nat):Int)::h::i::j::a).toArray,[]⟩/\Hs (It c wr l b d [] g)) (λ_ _=>0) ⟨rfl,u⟩ ?_;rintro t wr⟨rfl,f⟩
 conv=>arg 2;whnf
 obtain⟨I,rfl⟩:=Tj a w;simp only[ae,Nat.reduceAdd];have K:=oB f.low C E;have L:=oB f.low D B;go_wp2_with fail
 exact y _ _ _ (by rfl) f
structure T2 where
 b:Nat
 g:List Xe
 lab:Nat->Nat×Nat×Nat
 pv:Nat->Value
 iv:Nat->Value
 av:Nat->Nat->Value
 c8:Value
 c9:Value
 c10:Value
 c11:Value
 c12:Value
 c13:Value
 c14:Value
 tl:List Value
theorem NX{ay:Exit->Act->World->Prop}(w:World)(v G n c o A:Nat)(az:Nat->Nat×Nat×Nat)(z:Nat)(a:List Xe)(c0 c5 c6:Value)(hQ:Hs (∀c (y:Act) bf v w,ay (.panic c) (y.put (some bf) v) w->ay (.panic c) y w))(hF:Hs (Xp w z w.heap.size (some ⟨G,0,none⟩) a))(F:Hs (n=a.length))(b0:n<=11)(ha:Hs (iu a))(cm:Hs (Kg a))
 (bz:∀(C Z Y B P Q R:Value)(aj:Nat->Nat×Nat×Nat)(pv t:Nat->Value)(av:Nat->Nat->Value)(i:List Value)(K:World),i.length=134->LA w K az aj z v G n c o A (Zh a) pv t av->ay (.exit 2) ⟨(c0::Hn w.heap.size::Hn (w.heap.size+1)::Hp ((n:Nat):Int)::Hn (w.heap.size+2)::c5::c6::Hp ((n:Nat):Int)::C::Z::Y::B::P::Q::R::i).toArray,[]⟩ K)
 (C Z Y B P Q R:Value) (aj:Nat->Nat×Nat×Nat) (pv t:Nat->Value) (av:Nat->Nat->Value) (i:List Value) (wr:World) (h:i.length=134) (l:Hs (LA w wr az aj z v G n c o A (YP a) pv t av)) :
 Code.wp prog (Code.loop Mw) ay ⟨(c0::Hn w.heap.size::Hn (w.heap.size+1)::Hp ((n:Nat):Int)::Hn (w.heap.size+2)::c5::c6::Hp ((0:Nat):Int)::C::Z::Y::B::P::Q::R::i).toArray,[]⟩ wr:=by
 have HX:=Xa bz;clear bz;refine iY (λa' wr=>∃x:T2,a'=⟨(c0::Hn w.heap.size::Hn (w.heap.size+1)::Hp ((n:Nat):Int)::Hn (w.heap.size+2)::c5::c6::Hp ((x.b:Nat):Int)::x.c8::x.c9::x.c10::x.c11::x.c12::x.c13::x.c14::x.tl).toArray,[]⟩/\x.tl.length=134/\x.b<=n/\Hs (Ks a (n-x.b) x.b x.g=Zh a)/\Hs (x.g.length=n)/\Hs (∀j (l:j<x.g.length) (h':CP j n<a.length),x.b<=j->x.g[j].ps=a[CP j n].ps)/\Hs (LA w wr az x.lab z v G n c o A x.g x.pv x.iv x.av)) (λa' _=>n-(intOf<|a'.tmps.getD 7 undef).toNat) ⟨⟨0,YP a,aj,pv,t,av,C,Z,Y,B,P,Q,R,i⟩,rfl,h,aN _,Xa (by rw[F.o];rfl),Xa (by rw[qy];exact F.symm),Xa (λj E a8 _=>by have p:=F.o;subst p;rw[Vp E a8]),l⟩ ?_;clear l h;rintro a' wr⟨⟨b,g,aj,pv,t,av,C,Z,Y,B,P,Q,R,i⟩,rfl,h,hb,HE,N,ar,k⟩;dsimp only at h hb HE N ar k |-
 conv=>arg 2;whnf
 obtain⟨bw,rfl⟩:=Tj i h;simp only[ae,Nat.reduceAdd];clear h;by_cases ad:b<n
 .have cj:(b:Int)<n:=oM;have bp:=Xa<|mh ad;have cd:=Xa<|UG ad;have x0:=Bx.c k.box 0;have x1:=Bx.c k.box 1;have bl:=Xa<|hF.keep k.low.drew;have cf:=Xa k.drew;have bd:=k.low.size;have b8:=Xa k.box.lt;let⟨f,bc⟩:∃f,f=AQ a 0 ((CP b n:Nat):Int):=⟨_,rfl⟩;have a5:=Xa bc;have co:f.length<=11:=by rw[bc];have:=JP a 0 ((CP b n:Nat):Int);have:=F.o;omega
  clear bc
  go_upto_region 15 with fail
  go_cut [8]from 15 to 148 λC wz=>∃L ap,C=.slice L f.length ap/\Hs (Below wr.heap.size wr wz/\Xf wz 0 wz.heap.size L f)
  case first=>
   refine Y7 (λK=>K.cell? (Hk w.heap.size 0)=some (Hp v)/\K.cell? (Hk w.heap.size 1)=some (Hl G n c)) λhHeld=>?_;refine X0 1 ?_;refine X0 2 ?_;refine eS (rs:=[0,3]) kR sP ?_;refine(bQ rfl (λax hK=>?_) (bQ rfl (λax hK=>?_) dY))
   focus
    go_simp;refine hK _ _ kP λhHeld=>?_;clear hK
    try simp only[xX]
    refine Xs 3 λax hK=>?_;go_simp
    go_at_call 110
    refine(ZY (b:Int) n _ oM oM oM).mono ?_;rintro p w1⟨rfl,bb⟩;subst bb;rw[bp.o];refine hK _ _ hHeld λhHeld=>?_;clear hK
   rotate_left
   focus
    go_simp
    go_at_call 110
    refine(ZY (b:Int) n _ oM oM oM).mono ?_;rintro p w1⟨rfl,bb⟩;subst bb;rw[bp.o];refine hK _ _ hHeld λhHeld=>?_;clear hK
    try simp only[xX]
    refine Xs 0 λax hK=>?_;go_simp;refine hK _ _ kP λhHeld=>?_;clear hK
   all_goals (
    refine Xs 4 λax hK=>?_;go_simp;refine(ZE (v:Int) (some ⟨G,0,none⟩) n c ((CP b n:Nat):Int) a z w.heap.size wr.drew bl F oM bd).mono ?_;rw[<-a5.o];rintro p d⟨L,ap,rfl,D,ab⟩;have br:Hs (Below wr.heap.size wr d/\Xf d 0 d.heap.size L f):=Xa ⟨((Below.refl _ _).drew).trans D,ab.mono (aN _) (aA _)⟩;have KK:∀T a0,T<=w.heap.size->d.cell? (Hk T a0)=wr.cell? (Hk T a0):=λT a0 hq=>br.1.cell (p:=Hk T a0) (by have:=b8.o;show T<wr.heap.size;omega);refine hK _ _ ⟨(KK _ _<|aA _).trans x0,(KK _ _<|aA _).trans x1⟩ λhHeld=>?_;clear hK KK
    try simp only[xX]
    refine X0 5 ?_;refine Yq ?_;clear hHeld D ab;go_wp2
    go_meet;exact⟨_,_,rfl,br⟩)
  obtain⟨L,ap,rfl,a4⟩:=hcut;have O:=Xa<|k.keep a4.1;have bt:=Xa a4.2;clear x0 x1 bl cf k a4;generalize wc=w1 at*;clear bd;have bd:=O.low.size;have y0:=Bx.c O.gbx 0;have M:=Bx.c O.gbx 1;let⟨q,a9⟩:∃q,q=AQ g 0 (b:Int):=⟨_,rfl⟩;have a3:=Xa a9;have ck:q.length<=11:=by rw[a9];have:=JP g 0 (b:Int);have:=N.o;omega
  clear a9;have cc:Hs (∀bi∈q,0<=bi/\bi<=1000):=Xa (by
   intro bi S;rw[a3.o]at S;let⟨cr,hi,p,_⟩:=(TU _ _ _ _).1 S;have:=N.o;omega)
  go_wp2_with fail
  refine(ZE (v:Int) (some ⟨o,0,none⟩) n A (b:Int) g z w1.heap.size w1 (Xa O.fn.at_) (Xa N.symm) oM (aA _)).mono ?_;rw[<-a3.o];rintro p d⟨na,b4,rfl,D,ab⟩;have e:=Xa<|O.keep D;have cg:=Xa<|(bt.keep D).mono (aN _) D.size;have ca:=Xa<|ab.mono (aN _) (aA _);clear D ab O bt y0 M;go_wp2_with fail
  have s:b<g.length:=by rw[N.o];exact ad
  have aq:=Xa<|It.start d b;have ba:CP b n<a.length:=by rw[<-F.o];exact cd
  have bq:=Xa<|ar.o b s ba (aA _);have M:=Bx.c e.gbx 1;have a7:=e.gbx.lt;have a6:=(e.fn.blks.own.lt o rfl).2;obtain⟨J,-,-⟩:=e.fn.cells s;let⟨pa,pc,af⟩:=(e.fn.ps b s).form;have cp:=Xa af;rw[af]at J;have bo:Hs (∀al u X W,It d W al b u (YD n f q g[b].ps) X->W.frozen? (Hk o<|b*6)=false/\∃r I ao V,Ks a (n-(b+1)) (b+1) r=Zh a/\r.length=n/\(∀j (l:j<r.length) (h':CP j n<a.length),b+1<=j->r[j].ps=a[CP j n].ps)/\LA w (W.setCell (Hk o<|b*6) u) az I z v G n c o A r ao t V):=Xa (λal u X W hW=>by
   let⟨S,I,H⟩:=e.step s (Below.refl _ _) hW;refine⟨S,_,I,_,_,?_,?_,?_,H⟩
   .have h0:=HE.o;rw[show n-b=(n-(b+1))+1 by omega,Ks,show g.getD b XV=g[b] by simp[s],<-F.o,<-a3.o,<-a5.o]at h0;exact h0
   .rw[bL];exact N
   intro j E a8 cq
   rw[bI oM];exact ar j (by simpa using E) a8 oM)
  have cb:Hs (∀u W,(∃al X,It d W al b u (YD n f q g[b].ps) X)->∃b5 b7 b6,u=.slice b5 b7 b6):=Xa (λu W l=>by
   let⟨cs,y,l⟩:=l;let⟨y,c,p⟩:=l.row.form;exact⟨y,_,c,p⟩)
  have bm:=Xa λW (hW:Below d.heap.size d W)=>oB hW M a7;have bn:=Xa λW (hW:Below d.heap.size d W)=>oB hW J a6;by_cases b1:g[b].ps.length=0
  .have ch:=iE b1;rw[b1]at J;refine Fb d n (w.heap.size+2) o A pc b L na pa f.length ap q.length b4 _ _ _ _ _ M a7 J a6 ad b0 _ _ _ _ _ _ _ _ ?_ (by rfl) aq;intro B i K h m;have bv:Hs (YD n f q g[b].ps=[]):=Xa (by rw[ch];rfl);rw[<-bv.o]at m;clear bv;obtain⟨bw,rfl⟩:=Tj i h;simp only[ae,Nat.reduceAdd];clear h;have z1:=bm _ m.low;have z2:=bn _ m.low;let⟨S,r,I,ao,V,e1,e2,e3,H⟩:=bo _ _ _ _ m;have HT:=Xa H;have a1:=Xa e1;have U:=Xa e2;have a2:=Xa e3;clear H e1 e2 e3 m M J aq;go_wp2;exact⟨⟨⟨b+1,r,I,ao,t,V,_,_,_,_,_,_,_,_⟩,rfl,rfl,(by show b+1<=n;omega),a1,U,a2,HT⟩,by simp[intOf];omega⟩
  let⟨gp,c2,b3⟩:=(e.fn.ps b s).got oM
  rw[af]at b3;injection b3 with e1 _ e3;subst e1 e3;have ci:=(e.fn.ps b s).own.lt gp (by rw[af];rfl);have ce:Hs (∀j (l:j<g[b].ps.length),d.cell? (Hk gp<|j*2)=some (Hp g[b].ps[j].dst)/\∃aa ac,d.cell? (Hk gp<|j*2+1)=some (.slice aa g[b].ps[j].args.length ac)/\Xf d 0 d.heap.size aa g[b].ps[j].args/\f.length<=g[b].ps[j].args.length):=Xa (λj E=>by
   have h1:=e.fn.phiCells s E af;have h2:=e.fn.args b s j E;let⟨aa,ac,p⟩:=h2.form;rw[p]at h1 h2;refine⟨h1.1,aa,ac,h1.2,(h2.ints).mono (aN _) (aA _),?_⟩;have h3:g[b].ps[j]∈a[CP b n].ps:=by rw[<-bq.o];exact aH E
   rw[ha.o _ ba _ h3,<-a5.o];exact aA _)
  have cl:g[b].ps.length<=1000:=by rw[bq.o];exact(cm _<|aH ba).1
  refine NK d 0 d.heap.size n (w.heap.size+2) o A gp g[b].ps.length pc b L na f.length ap q.length b4 f q g[b].ps _ _ _ _ _ (by exact Xa λc y bf v w l=>hQ c y bf v w l) cg (Xa rfl) ca (Xa rfl) (aA _) M a7 J a6 ci.2 (Xa rfl) ce ad b0 cc ⟨ck,co⟩ cl ?_ _ _ _ _ _ _ _ _ (by rfl) aq;intro u B P Q R al X i K h m;obtain⟨bw,rfl⟩:=Tj i h;simp only[ae,Nat.reduceAdd];clear h;obtain⟨b5,b7,b6,rfl⟩:=cb _ _ ⟨_,_,m⟩;have z1:=bm _ m.low;have z2:=bn _ m.low;let⟨S,r,I,ao,V,e1,e2,e3,H⟩:=bo _ _ _ _ m;have HT:=Xa H;have a1:=Xa e1;have U:=Xa e2;have a2:=Xa e3;clear H e1 e2 e3 m M J aq;go_wp2;exact⟨⟨⟨b+1,r,I,ao,t,V,_,_,_,_,_,_,_,_⟩,⟨(by show(b:Int)+1=((b+1:Nat):Int);omega),rfl,rfl,rfl,rfl,rfl,rfl,rfl,rfl⟩,rfl,(by show b+1<=n;omega),a1,U,a2,HT⟩,by simp[intOf];omega⟩
 have cj:¬(b:Int)<n:=oM
 have bx:b=n:=oM;have U:Hs (g=Zh a):=Xa (by
  have:=HE.o;rw[bx,kL]at this;exact this)
 subst bx;have e:=Xa k.o;rw[U.o]at e;clear k HE ar;go_wp2_with fail
 exact HX _ _ _ _ _ _ _ _ _ _ _ _ _ (by rfl) e
theorem Ce:tY:=by
 intro v G n c r z l A y av w hF o H aa ha J K I x;have s:Hs (LF w (((w.alloc<|.cells #[Hp v,Hl G n c] 25).alloc (.cells #[Hp 0,Hq] 25)).alloc (.cells #[Hp v,Hq] 25)) v G n c A y r Hq 0):=Xa (by
  refine⟨Xb (Xb (Xb (Below.refl _ _) _) _) _,((Bx.new _ _ _).box _).box _,?_,?_,dA _ _ _ _⟩
  .have:=(Bx.new (w.alloc<|.cells #[Hp v,Hl G n c] 25) #[Hp 0,Hq] 25).box (.cells #[Hp v,Hq] 25);rwa[aO]at this
  have:=Bx.new ((w.alloc<|.cells #[Hp v,Hl G n c] 25).alloc (.cells #[Hp 0,Hq] 25)) #[Hp v,Hq] 25
  rwa[aO,aO]at this)
 go_in
 go_wp2_with fail
 refine NQ w v G n c z l r A y av _ _ _ _ _ _ _ _ _ (by exact Xa λc C Q v w m=>m) hF o x K ?_ _ _ _ _ (by rfl) s;intro vg W p w1 f i;obtain⟨E,rfl⟩:=Tj p f;simp only[ae,Nat.reduceAdd];obtain⟨g,h,ab,rfl,d⟩:=i.turn hF o H I;have t:=Xa d;go_wp2_with fail
 refine NX w v G n c g h z l r _ _ _ (by exact Xa λc C Q v w m=>m) (Xa hF.at_) o x ha J ?_ _ _ _ _ _ _ _ _ _ _ _ _ _ (by rfl) t;intro X Y R S T U V k N L D p B f d;obtain⟨E,rfl⟩:=Tj p f;simp only[ae,Nat.reduceAdd];have a:=Xa d;have Z:=Bx.c a.gbx 0;have f1:=Bx.c a.gbx 1;have O:=Bx.c a.res 0;have P:=Bx.c a.res 1;have rz:=Bx.thaw a.res;go_wp2;have u:∀q,(k q).1≠0->q≠w.heap.size+1:=λq F e=>F (by rw[e,a.bxl _ oM oM]);have M:XW B ((B.setCell (Hk (w.heap.size+1) 0) (Hp v)).setCell (Hk (w.heap.size+1) 1) (Hl g n h)) k k l (λb=>b≠w.heap.size+1):=((XW.put _ _ _).trans (XW.put _ _ _)).weak λ_ j=>⟨j,j⟩;refine cC (v:=.agg #[Hp v,Hl g n h]) (by simp[results,results70,go_sem,O,P]) rfl ⟨k,g,h,N,L,D,rfl,?_,?_,?_,?_⟩;·exact(a.low.setCell (by show w.heap.size<=w.heap.size+1;omega) _).setCell (by show w.heap.size<=w.heap.size+1;omega) _
 .exact a.fn.sp M 0 (λb i _ _ _=>u b i) (bC λb e=>u b (by rcases e with e|e<;>rw[e]<;>simp))
 .intro b j;exact a.fr b<|by simpa [World.setCell]using j
 exact a.old
structure Mc(rk:Int)(V G n c:Nat)(xs:List Xe)(lab:Nat->Nat×Nat×Nat)(base:Nat)(pv iv:Nat->Value)(av:Nat->Nat->Value)(sb B:Nat)(s s2:Sr)(w wx:World)(b xb:Nat)(hb:b<xs.length)(pa:Option Addr)(np pc:Nat)(ia:Option Addr)(ni ic:Nat):Prop where
 hn:Hs (n=xs.length)
 h1:1<=n
 hn2:n<=11
 hbs:base<=w.heap.size
 hbb:B<=base
 hV:V<=1000
 HSMB:Hs (xs[b].ps.length<=1000/\(∀p∈xs[b].ps,p.args.length<=1000)/\xs[b].is.length<=1000)
 HAG:Hs (∀p∈xs[b].ps,0<p.args.length)
 hbn:b<n
 HNP:Hs (np=xs[b].ps.length)
 HNI:Hs (ni=xs[b].is.length)
 hni2:ni<=1000
 hnp2:np<=1000
 HSX:Hs (Z4 w wx lab base sb B s2 (V:Int) G n c xs pv iv av b xb (.slice pa np pc) xs[b] (av b))
 HRW:Hs (∀j (hj:j<xs[b].ps.length),Xv wx lab (4,b,j) base 2 1 (av b j) xs[b].ps[j].args.length (Xt xs[b].ps[j].args))
 HIV:Hs (iv b=.slice ia ni ic)
 HP:Hs (XN V xs s=if rk=7 then ⟨V,[]⟩else ⟨if rk=0 then (V:Int)+(Ax s2 2).1*2-1 else V,xs.set b<|Za rk V n s2 xs[b]⟩)
theorem Mc.qs(V G n c:Nat)(e:List Xe)(v:Nat->Nat×Nat×Nat)(p:Nat)(x s:Nat->Value)(av:Nat->Nat->Value)(o B:Nat)(y s2:Sr)(w a:World)(b d:Nat)(r:b<e.length)(l:Option Addr)(k m:Nat)(g:Option Addr)(j i:Nat)(X:Mc t V G n c e v p x s av o B y s2 w a b d r l k m g j i):a.cell? (Hk d 0)=some (.slice l k m)/\a.cell? (Hk d 1)=some (.slice g j i)/\a.cell? (Hk d 2)=some (Hp e[b].te.kind)/\a.cell? (Hk d 3)=some (Hp e[b].te.a)/\a.cell? (Hk d 4)=some (Hp e[b].te.to)/\a.cell? (Hk d 5)=some (Hp e[b].te.els)/\(∀q,a.frozen? (Hk d q)=false)/\a.cell? (Hk w.heap.size 0)=some (Hp V)/\a.cell? (Hk w.heap.size 1)=some (Hl G n c)/\(∀q,a.frozen? (Hk w.heap.size q)=false)/\Hs (o≠d) :=
 have f:=X.HSX.o;have h:∀q u,#[.slice l k m,.slice g j i,Hp e[b].te.kind,Hp e[b].te.a,Hp e[b].te.to,Hp e[b].te.els][q]?=some u->a.cell? (Hk d q)=some u:=λq u hq=>Bx.cell f.xbx (by rw[X.HIV.o];exact hq)
 ⟨h 0 _ rfl,h 1 _ rfl,h 2 _ rfl,h 3 _ rfl,h 4 _ rfl,h 5 _ rfl,Bx.thaw f.xbx,Bx.cell f.box rfl,Bx.cell f.box rfl,Bx.thaw f.box,Xa<|oR f.lt f.xlt f.bs⟩
def LG(f:Int):Prop:=∀(V G n c:Nat)(d:List Xe)(q:Nat->Nat×Nat×Nat)(e:Nat)(x p:Nat->Value)(av:Nat->Nat->Value)(a B:Nat)(s s2:Sr)(w h:World)(b i:Nat)(l:b<d.length)(u:Option Addr)(t v:Nat)(m:Option Addr)(r o:Nat)(c3 j:Value)(g:List Value)(_:g.length=169)(_:Mc f V G n c d q e x p av a B s s2 w h b i l u t v m r o),Code.wp prog ux (bodyPost prog f30 λk y=>Ly (XN V d s) w e a k y) ⟨(.agg #[.int .i64 (V:Int),.slice (some ⟨G,0,none⟩) n c]::.pointer (some ⟨a,0,none⟩)::.pointer (some ⟨w.heap.size,0,none⟩)::c3::.pointer (some ⟨w.heap.size+1,0,none⟩)::.int .i64 f::.int .i64 ((b:Nat):Int)::.int .i64 ((n:Nat):Int)::.pointer (some ⟨i,0,none⟩)::j::g).toArray,[]⟩ h
theorem Bu(V G n c:Nat)(a:List Xe)(h:Nat->Nat×Nat×Nat)(f:Nat)(N M:Nat->Value)(av:Nat->Nat->Value)(l B:Nat)(s:Sr)(w:World)(hF:Hs (ZU w h f (Hl G n c) a N M av))(J:Hs (n=a.length))(h1:1<=n)(ao:n<=11)(S:f<=w.heap.size)(aj:Hs (∀b,w.heap.size<=b->h b=(0,0,0)))(T:Hs (ZQ w l B s))(R:B<=f)(hV:V<=1000)(ar:Hs (Kg a))(ad:Hs (LT a))(hK:Hs (LG (Ax s 16).1)) :
 Calls prog 30 #[.agg #[Hp V,Hl G n c],Hn l] w λp w'=>Ly (XN V a s) w f l p w':=by
 have g:Hs (XN V a s=if (Ax s 16).1=7 then ⟨V,[]⟩else ⟨if (Ax s 16).1=0 then (V:Int)+(Ax (Ax (Ax s 16).2 (n:Int)).2 2).1*2-1 else V,a.set (Ax (Ax s 16).2 (n:Int)).1.toNat (Za (Ax s 16).1 V n (Ax (Ax s 16).2 (n:Int)).2 (a.getD (Ax (Ax s 16).2 (n:Int)).1.toNat XV))⟩):=Xa (by rw[J.o];rfl);have E:Hs (IN w ((w.alloc<|.cells #[Hp V,Hl G n c] 25).alloc (.cells #[Hp 0,Hq] 25)) h f l B s V G n c a N M av):=Xa (by
  have X:XW w ((w.alloc<|.cells #[Hp V,Hl G n c] 25).alloc (.cells #[Hp 0,Hq] 25)) h h f (λ_=>True):=((XW.box _).trans (XW.box _)).weak λ_ _=>⟨trivial,trivial⟩;refine⟨hF.sp X 0 (λ_ _ _ _ _=>trivial) (bC λ_ _=>trivial),(T.box _).box _,R,rfl,rfl,rfl,X.size,λb d _=>(Below.heap_alloc _ _ _<|by simp;omega).trans (Below.heap_alloc _ _ _ oM),aj,S,(Bx.new _ _ _).box _,?_⟩;have:=Bx.new (w.alloc<|.cells #[Hp V,Hl G n c] 25) #[Hp 0,Hq] 25;rwa[aO]at this)
 clear hF T
 go_in
 go_wp2_with fail
 generalize (w.alloc _).alloc _=w0 at*;refine(XC l B s 16 w0 (Xa E.dr) oM oM).mono ?_;rintro p w1⟨rfl,r,t⟩;have I:=λq=>XE s (n:=16) q;have m:=Xa<|E.call t r;let⟨rk,s1,o⟩:∃O P,Ax s 16=(O,P):=⟨_,_,rfl⟩;rw[o]at m g I |-;dsimp only at m g I |-;rw[o]at hK;dsimp only at hK;clear r t o E I;have Y:=Bx.c m.box 1;go_wp2_with fail
 refine(XC l B s1 (n:Int) w1 (Xa m.dr) oM oM).mono ?_;rintro p x⟨rfl,r,t⟩;have y:=λq=>XE s1 (n:=(n:Int)) q;have e:=Xa<|m.call t r;let⟨rb,s2,o⟩:∃O P,Ax s1 (n:Int)=(O,P):=⟨_,_,rfl⟩;rw[o]at e g y |-;dsimp only at e g y |-;have al:=y oM;obtain⟨b,rfl⟩:=Zv al.1;rw[dM]at g;clear r t o m Y y;have d:b<a.length:=oN J.o;have af:b<n:=oM;have W:a.getD b XV=a[b]:=by simp[d]
 rw[W]at g;clear W;have F:=Xa<|ar.o _ (aH d);have Z:=Xa<|ad.o _ (aH d);have Y:=Bx.c e.box 1;let⟨p0,p1,⟨t0,t1,t2,t3⟩⟩:=e.fn.cells d;let⟨C,D,v⟩:=(e.fn.ps b d).form;let⟨k,L⟩:∃k,k=a[b].ps.length:=⟨_,rfl⟩;rw[<-L]at v;let⟨z,A,u⟩:=(e.fn.ins b d).form;let⟨i,K⟩:∃i,i=a[b].is.length:=⟨_,rfl⟩;rw[<-K]at u;rw[v]at p0;rw[u]at p1;have ac:=Xa L;have ab:=Xa K;have ap:i<=1000:=oN F.o;have aq:k<=1000:=oN F.o;clear L K;have H:=Xa<|e.hand d;rw[v,u]at H;have Q:Hs (∀j (U:j<a[b].ps.length),Xv (x.alloc<|.cells #[.slice C k D,.slice z i A,Hp a[b].te.kind,Hp a[b].te.a,Hp a[b].te.to,Hp a[b].te.els] 46) h (4,b,j) f 2 1 (av b j) a[b].ps[j].args.length (Xt a[b].ps[j].args)):=Xa λj U=>(e.fn.args b d j U).sp (XW.box _) λ_ _=>trivial;have az:Hs (w.heap.size+2<=x.heap.size):=Xa e.res.lt;have ay:=Xa v;have aa:=Xa u;clear v u
 go_upto_region 4 with fail
 go_cut [8]from 10 to 180 λax wy=>ax=Hn x.heap.size/\Hs (dy wy<|x.alloc (.cells #[.slice C k D,.slice z i A,Hp a[b].te.kind,Hp a[b].te.a,Hp a[b].te.to,Hp a[b].te.els] 46))
 case first=>
  go_wp2;go_meet;exact⟨rfl,Xa rfl⟩
 obtain⟨rfl,q⟩:=hcut;have p:wc=(x.alloc<|.cells #[.slice C k D,.slice z i A,Hp a[b].te.kind,Hp a[b].te.a,Hp a[b].te.to,Hp a[b].te.els] 46):=q.o;rw[<-p]at H Q;rename_i aK;exact aK _ _<|hK V G n c a h f N M av l B s s2 w wc b _ d C k D z i A _ _ _ rfl ⟨J,h1,ao,S,R,hV,F,Z,af,ac,ab,ap,aq,H,Q,aa,g⟩
theorem EU:LG 0:=by
 intro V G q c e P m r p av i B aa s2 w wx b t n S R T L Q M c3 c9 tl o X;obtain⟨al,rfl⟩:=JR tl o;simp only[ae,Nat.reduceAdd];clear o;let⟨U,q1,q2,W,Y,Z,qz,A,f1,C,af⟩:=X.qs;let⟨E,h1,ar,aq,ao,hV,aj,ab,ap,ad,ac,F,ax,f,x,u,l⟩:=X
 conv=>arg 2;whnf
 have e0:((0:Int)==0)=true:=vZ;have e1:((0:Int)==1)=false:=vZ;have e2:((0:Int)==2)=false:=vZ;have e3:((0:Int)==3)=false:=vZ;have e4:((0:Int)==4)=false:=vZ;have e5:((0:Int)==5)=false:=vZ;have e6:((0:Int)==6)=false:=vZ;have e7:((0:Int)==7)=false:=vZ;have v:Hs (XN V e aa=⟨((V:Int)+(Ax s2 2).1*2-1),e.set b e[b]⟩):=Xa (by rw[l.o,aM vZ];simp[Za,UL];exact fK n);clear l
 go_upto_if 26 with fail
 go_cut []from 10 to 180 λk=>Hs<|Z4 w k P m i B (Ax s2 2).2 ((V:Int)+(Ax s2 2).1*2-1) G q c e r p av b t (.slice S R T) e[b] (av b)
 case first=>
  go_wp2_with fail
  refine Y7 (λ_=>True) λhHeld=>?_;refine Xn 0 ?_;refine Xn 2 ?_;refine eS (rs:=[1,3]) kR sP ?_;refine(bQ rfl (λK hK=>?_) (bQ rfl (λK hK=>?_) dY))
  focus
   go_simp;refine hK _ _ kP λhHeld=>?_;clear hK
   try simp only[xX]
   refine Xs 3 λK hK=>?_;go_simp
   go_at_call 27
   refine(XC i B s2 2 _ (Xa f.drew.dr) oM oM).mono ?_;rintro j w5⟨rfl,g,h⟩;have d:=Xa<|f.drew.call h g;have D:=XE s2 (n:=2) oM;clear g h;have N:=Bx.c d.box 0;have O:=Bx.thaw d.box;generalize (Ax s2 2).1=a at*;have H:IntKind.i64.wrap (a*2)=a*2:=by rw[dF];omega
   have I:IntKind.i64.wrap ((V:Int)+a*2)=(V:Int)+a*2:=by rw[dF];omega
   have J:IntKind.i64.wrap ((V:Int)+a*2-1)=(V:Int)+a*2-1:=by rw[dF];omega
   refine hK _ _ trivial λhHeld=>?_;clear hK;refine Xn 4 ?_
  rotate_left
  focus
   go_simp
   go_at_call 27
   refine(XC i B s2 2 _ (Xa f.drew.dr) oM oM).mono ?_;rintro j w5⟨rfl,g,h⟩;have d:=Xa<|f.drew.call h g;have D:=XE s2 (n:=2) oM;clear g h;have N:=Bx.c d.box 0;have O:=Bx.thaw d.box;generalize (Ax s2 2).1=a at*;have H:IntKind.i64.wrap (a*2)=a*2:=by rw[dF];omega
   have I:IntKind.i64.wrap ((V:Int)+a*2)=(V:Int)+a*2:=by rw[dF];omega
   have J:IntKind.i64.wrap ((V:Int)+a*2-1)=(V:Int)+a*2-1:=by rw[dF];omega
   refine hK _ _ trivial λhHeld=>?_;clear hK
   try simp only[xX]
   refine Xn 4 ?_;refine Xs 1 λK hK=>?_;go_simp;refine hK _ _ kP λhHeld=>?_;clear hK
  all_goals (
   refine Xn 5 ?_;refine Xn 6 ?_;refine Xn 7 ?_;refine Xs 8 λK hK=>?_;go_simp;refine hK _ _ kP λhHeld=>?_;clear hK;refine Yq ?_;clear hHeld;go_wp2
   go_meet;exact Xa<|d.putV _)
 have y:=Xa hcut.o;clear hcut f x U q1 q2 W Y Z qz A f1 C;generalize wc=s at*
 go_upto_if 72 with fail
 go_cut []from 10 to 180 λk=>Hs<|dy k s
 case first=>
  go_wp2;go_meet;exact Xa rfl
 have j:wc=s:=hcut.o;subst j;rename_i z;exact z _ _<|gn V G q c e m r p av i B w _ b t L Q M _ _ _ _ _ _ _ _ _ _ _ rfl _ E n u v 0 F vZ y
theorem E7:LG 1:=by
 intro V G n c a aj m y w av H B F s2 J K b M r pa np pc u x v c3 S I g X;obtain⟨Y,rfl⟩:=JR I g;simp only[ae,Nat.reduceAdd];let⟨z,q1,q2,A,C,D,E,p,f1,q,Q⟩:=X.qs;let⟨s,Z,ad,ac,aa,hV,R,N,ab,P,O,t,af,f,j,d,e⟩:=X
 conv=>arg 2;whnf
 have T:((1:Int)==0)=false:=vZ;have e1:((1:Int)==1)=true:=vZ;have e2:((1:Int)==2)=false:=vZ;have e3:((1:Int)==3)=false:=vZ;have e4:((1:Int)==4)=false:=vZ;have e5:((1:Int)==5)=false:=vZ;have U:((1:Int)==6)=false:=vZ;have W:((1:Int)==7)=false:=vZ;have i:Hs (XN V a F=⟨(V:Int),a.set b ⟨a[b].ps,a[b].is,⟨a[b].te.kind,a[b].te.a,(n:Int),a[b].te.els⟩⟩⟩):=Xa (by rw[e.o,aM vZ];simp[Za,UL]);have k:=Xa<|f.putT ⟨a[b].te.kind,a[b].te.a,(n:Int),a[b].te.els⟩ 4 (Hp n) (by rw[d.o];rfl)
 go_upto_if 72 with fail
 generalize K.setCell _ _=h at*
 go_upto_if 72 with fail
 go_cut []from 10 to 180 λL=>Hs<|dy L h
 case first=>
  go_wp2;go_meet;exact Xa rfl
 have o:wc=h:=hcut.o;subst o;rename_i l;exact l _ _<|gn V G n c a m y w av H B J _ b M u x v _ _ _ _ _ _ _ _ _ _ _ rfl _ s r d i 1 t vZ k
theorem E8:LG 2:=by
 intro V G w c a aj m y v av H B F s2 J K b M q pa np pc t x u c3 S I g X;obtain⟨Y,rfl⟩:=JR I g;simp only[ae,Nat.reduceAdd];let⟨z,q1,q2,A,C,D,E,o,f1,p,Q⟩:=X.qs;let⟨r,Z,ad,ac,aa,hV,R,N,ab,P,O,s,af,f,j,d,e⟩:=X
 conv=>arg 2;whnf
 have T:((2:Int)==0)=false:=vZ;have e1:((2:Int)==1)=false:=vZ;have e2:((2:Int)==2)=true:=vZ;have e3:((2:Int)==3)=false:=vZ;have e4:((2:Int)==4)=false:=vZ;have e5:((2:Int)==5)=false:=vZ;have U:((2:Int)==6)=false:=vZ;have W:((2:Int)==7)=false:=vZ;have i:Hs (XN V a F=⟨(V:Int),a.set b ⟨a[b].ps,a[b].is,⟨a[b].te.kind,a[b].te.a,a[b].te.to,a[b].te.to⟩⟩⟩):=Xa (by rw[e.o,aM vZ];simp[Za,UL]);have k:=Xa<|f.putT ⟨a[b].te.kind,a[b].te.a,a[b].te.to,a[b].te.to⟩ 5 (Hp a[b].te.to) (by rw[d.o];rfl)
 go_upto_if 72 with fail
 generalize K.setCell _ _=h at*
 go_upto_if 72 with fail
 go_cut []from 10 to 180 λL=>Hs<|dy L h
 case first=>
  go_wp2;go_meet;exact Xa rfl
 have n:wc=h:=hcut.o;subst n;rename_i l;exact l _ _<|gn V G w c a m y v av H B J _ b M t x u _ _ _ _ _ _ _ _ _ _ _ rfl _ r q d i 2 s vZ k
theorem EZ:LG 3:=by
 intro V G w c a aj m y v av H B F s2 J K b M q pa np pc t x u c3 S I g X;obtain⟨Y,rfl⟩:=JR I g;simp only[ae,Nat.reduceAdd];let⟨z,q1,q2,A,C,D,E,o,f1,p,Q⟩:=X.qs;let⟨r,Z,ad,ac,aa,hV,R,N,ab,P,O,s,af,f,j,d,e⟩:=X
 conv=>arg 2;whnf
 have T:((3:Int)==0)=false:=vZ;have e1:((3:Int)==1)=false:=vZ;have e2:((3:Int)==2)=false:=vZ;have e3:((3:Int)==3)=true:=vZ;have e4:((3:Int)==4)=false:=vZ;have e5:((3:Int)==5)=false:=vZ;have U:((3:Int)==6)=false:=vZ;have W:((3:Int)==7)=false:=vZ;have i:Hs (XN V a F=⟨(V:Int),a.set b ⟨a[b].ps,a[b].is,⟨a[b].te.kind,a[b].te.a,0,a[b].te.els⟩⟩⟩):=Xa (by rw[e.o,aM vZ];simp[Za,UL]);have k:=Xa<|f.putT ⟨a[b].te.kind,a[b].te.a,0,a[b].te.els⟩ 4 (Hp 0) (by rw[d.o];rfl)
 go_upto_if 72 with fail
 generalize K.setCell _ _=h at*
 go_upto_if 72 with fail
 go_cut []from 10 to 180 λL=>Hs<|dy L h
 case first=>
  go_wp2;go_meet;exact Xa rfl
 have n:wc=h:=hcut.o;subst n;rename_i l;exact l _ _<|gn V G w c a m y v av H B J _ b M t x u _ _ _ _ _ _ _ _ _ _ _ rfl _ r q d i 3 s vZ k
theorem EY:LG 4:=by
 intro V G C c a al s E A av m B K s2 M O b Q v pa np pc y D z c3 Y L l X;obtain⟨aa,rfl⟩:=JR L l;simp only[ae,Nat.reduceAdd];let⟨F,q1,q2,H,I,J,f,t,f1,u,U⟩:=X.qs;let⟨w,h1,af,ad,ab,hV,W,R,ac,T,S,x,aj,e,p,g,h⟩:=X
 conv=>arg 2;whnf
 have Z:((4:Int)==0)=false:=vZ;have e1:((4:Int)==1)=false:=vZ;have e2:((4:Int)==2)=false:=vZ;have e3:((4:Int)==3)=false:=vZ;have e4:((4:Int)==4)=true:=vZ;have e5:((4:Int)==5)=false:=vZ;have e6:((4:Int)==6)=false:=vZ;have e7:((4:Int)==7)=false:=vZ;have o:Hs (XN V a K=⟨(V:Int),a.set b ⟨a[b].ps,a[b].is,⟨(Ax s2 5).1,a[b].te.a,a[b].te.to,a[b].te.els⟩⟩⟩):=Xa (by rw[h.o,aM vZ];simp[Za,UL]);go_wp2_with fail
 refine(XC m B s2 5 O (Xa e.dr) oM oM).mono ?_;rintro i N⟨rfl,j,k⟩;have d:=Xa<|e.call k j;have q:=Xa (d.putT ⟨(Ax s2 5).1,a[b].te.a,a[b].te.to,a[b].te.els⟩ 2 (Hp (Ax s2 5).1) (by rw[g.o];rfl));have q2:=Bx.c d.xbx 2;have f:=Bx.thaw d.xbx
 go_upto_if 72 with fail
 generalize N.setCell _ _=n at*
 go_upto_if 72 with fail
 go_cut []from 10 to 180 λP=>Hs<|dy P n
 case first=>
  go_wp2;go_meet;exact Xa rfl
 have i:wc=n:=hcut.o;subst i;rename_i r;exact r _ _<|gn V G C c a s E A av m B M _ b Q y D z _ _ _ _ _ _ _ _ _ _ _ rfl _ w v g o 4 x vZ q
theorem Fe:LG 5:=by
 intro V G w c a aj m y v av H B F s2 J K b M q pa np pc t x u c3 S I g X;obtain⟨Y,rfl⟩:=JR I g;simp only[ae,Nat.reduceAdd];let⟨z,q1,q2,A,C,D,E,o,f1,p,Q⟩:=X.qs;let⟨r,Z,ad,ac,aa,hV,R,N,ab,P,O,s,af,f,j,d,e⟩:=X
 conv=>arg 2;whnf
 have T:((5:Int)==0)=false:=vZ;have e1:((5:Int)==1)=false:=vZ;have e2:((5:Int)==2)=false:=vZ;have e3:((5:Int)==3)=false:=vZ;have e4:((5:Int)==4)=false:=vZ;have e5:((5:Int)==5)=true:=vZ;have U:((5:Int)==6)=false:=vZ;have W:((5:Int)==7)=false:=vZ;have i:Hs (XN V a F=⟨(V:Int),a.set b ⟨a[b].ps,a[b].is,⟨a[b].te.kind,(V:Int),a[b].te.to,a[b].te.els⟩⟩⟩):=Xa (by rw[e.o,aM vZ];simp[Za,UL]);have k:=Xa<|f.putT ⟨a[b].te.kind,(V:Int),a[b].te.to,a[b].te.els⟩ 3 (Hp V) (by rw[d.o];rfl)
 go_upto_if 72 with fail
 generalize K.setCell _ _=h at*
 go_upto_if 72 with fail
 go_cut []from 10 to 180 λL=>Hs<|dy L h
 case first=>
  go_wp2;go_meet;exact Xa rfl
 have n:wc=h:=hcut.o;subst n;rename_i l;exact l _ _<|gn V G w c a m y v av H B J _ b M t x u _ _ _ _ _ _ _ _ _ _ _ rfl _ r q d i 5 s vZ k
theorem Fj:LG 6:=by
 intro V G R c a ay l W Q av sb B aa s2 ab wx b xb C T r U O S P c3 c9 tl o X;obtain⟨al,rfl⟩:=JR tl o;simp only[ae,Nat.reduceAdd];let⟨h,q1,q2,Y,Z,q5,i,z,f1,A,af⟩:=X.qs;let⟨H,h1,ar,aq,ao,hV,aj,ac,ap,j,ad,J,ax,d,v,t,k⟩:=X
 conv=>arg 2;whnf
 have e0:((6:Int)==0)=false:=vZ;have e1:((6:Int)==1)=false:=vZ;have e2:((6:Int)==2)=false:=vZ;have e3:((6:Int)==3)=false:=vZ;have e4:((6:Int)==4)=false:=vZ;have e5:((6:Int)==5)=false:=vZ;have e6:((6:Int)==6)=true:=vZ;have e7:((6:Int)==7)=false:=vZ;have u:Hs (XN V a aa=⟨(V:Int),a.set b ⟨a[b].ps++[⟨0,[]⟩],a[b].is,a[b].te⟩⟩):=Xa (by rw[k.o,aM vZ];simp[Za]);let⟨N,F,K,L,M⟩:=Xq Nr;have e:=Xa d.yph.own;rw[<-j.o]at e;go_wp2_with (at_builtin;refine bT _ rfl _ _ 44 rfl l 106 N (.agg #[Hp 0,Hq]) 2 32 underlying44 F K L M rfl vZ (.slice T r U) r (Yh (av b) a[b].ps) rfl (e.alloc _) (Hk wx.heap.size 0) 1 1 [Hp 0,Hq] rfl rfl (World.news_of_block<|World.alloc_heap_new _ _) ?c2 ?c3 ?c4 ?c5 ?_)
 case c2=>intro a0 q;simp at q;rcases q with rfl|rfl<;>rfl
 case c3=>unfold maxLen;omega
 case c4=>omega
 case c5=>simp;have:=d.size;omega
 intro v8 w8 f n I m;let⟨g,az,p⟩:=d.push n f (by rw[j.o]) (by rw[aO];exact m);obtain⟨g8,c8,rfl,E,D⟩:=Xm f oM;have h:=Bx.c g 0;have i:=Bx.thaw g;have w:=Xa p
 go_upto_if 72 with fail
 generalize w8.setCell _ _=s at*
 go_upto_if 72 with fail
 go_cut []from 10 to 180 λwz=>Hs<|dy wz s
 case first=>
  go_wp2;go_meet;exact Xa rfl
 have y:wc=s:=hcut.o;subst y;rename_i x;exact x _ _<|gn V G R c a l W Q av sb B ab _ b xb O S P _ _ _ _ _ _ _ _ _ _ _ rfl _ H C t u 6 J vZ w
theorem E4:LG 7:=by
 intro V G ao c D al g pv iv av sb E B s2 w a b xb T pa np pc ia ni ic c3 N C k X;obtain⟨R,rfl⟩:=JR C k;simp only[ae,Nat.reduceAdd];let⟨t,q1,q2,u,v,x,y,i,f1,n,L⟩:=X.qs;let⟨Z,h,aa,r,U,S,M,F,Y,J,I,ab,ac,d,K,H,l⟩:=X
 conv=>arg 2;whnf
 have O:((7:Int)==0)=false:=vZ;have e1:((7:Int)==1)=false:=vZ;have e2:((7:Int)==2)=false:=vZ;have e3:((7:Int)==3)=false:=vZ;have e4:((7:Int)==4)=false:=vZ;have e5:((7:Int)==5)=false:=vZ;have P:((7:Int)==6)=false:=vZ;have Q:((7:Int)==7)=true:=vZ;have m:Hs (XN V D B=⟨(V:Int),[]⟩):=Xa (by rw[l.o,aU rfl]);have o:=Bx.thaw<|d.box.box (.cells #[] 46);have W:=d.box.lt;have af:=d.size;have ad:=d.res.lt;have e:Hs (Bx ((a.setCell (Hk w.heap.size 1) (Hl a.heap.size 0 0)).alloc (.cells #[] 46)) w.heap.size #[Hp V,Hl a.heap.size 0 0] 25/\Bx ((a.setCell (Hk w.heap.size 1) (Hl a.heap.size 0 0)).alloc (.cells #[] 46)) (w.heap.size+1) #[Hp 0,Hq] 25/\Below g a ((a.setCell (Hk w.heap.size 1) (Hl a.heap.size 0 0)).alloc (.cells #[] 46))):=Xa ⟨by
  have:=(d.box.set 1<|Hl a.heap.size 0 0).box (.cells #[] 46);simpa using this,(d.res.other oM).box _,Below.alloc ((Below.refl g a).setCell (p:=Hk w.heap.size 1) r _) (by simp[World.setCell];omega) _⟩
 go_upto_region 21 with fail
 generalize ((a.setCell _ _).alloc _)=w7 at*;have i:=Bx.c e.1 0;have f1:=Bx.c e.1 1;have z:=Bx.c e.2.1 0;have A:=Bx.c e.2.1 1;have rz:=Bx.thaw e.2.1;go_wp2;rw[m.o];refine cC (v:=.agg #[Hp V,Hl a.heap.size 0 0]) (by simp[results,results30,go_sem,z,A]) rfl ⟨_,0,0,rfl,rfl,?_⟩;have j:g<=w.heap.size+1:=oM;have f:=(e.2.2.setCell (p:=Hk (w.heap.size+1) 0) j (Hp V)).setCell (p:=Hk (w.heap.size+1) 1) j (Hl a.heap.size 0 0);exact⟨λaj s=>absurd s sP,f.os.trans d.os,f.tape.trans d.tape,f.output.trans d.output,aJ d.size f.size,λq h p=>(f.block q h).trans (d.low q h p)⟩
theorem Fc:LG 8:=by
 intro V G P c a s i R M av S B t s2 U k b u hb pa j Q ia ni ic c3 c9 tl F X;obtain⟨ba,rfl⟩:=JR tl F;simp only[ae,Nat.reduceAdd];clear F;let⟨q0,q1,q2,q3,q4,q5,qz,f0,f1,fz,a7⟩:=X.qs;let⟨hn,h1,bi,bf,bb,hV,ad,W,bd,o,a6,a0,bo,e,q,Z,p⟩:=X
 conv=>arg 2;whnf
 have e0:((8:Int)==0)=false:=vZ;have e1:((8:Int)==1)=false:=vZ;have e2:((8:Int)==2)=false:=vZ;have e3:((8:Int)==3)=false:=vZ;have e4:((8:Int)==4)=false:=vZ;have e5:((8:Int)==5)=false:=vZ;have e6:((8:Int)==6)=false:=vZ;have e7:((8:Int)==7)=false:=vZ;have e8:((8:Int)==8)=true:=vZ;have e9:((8:Int)==9)=false:=vZ;have a9:((8:Int)==10)=false:=vZ
 go_upto_if 79 with fail
 go_cut []from 10 to 180 λwz=>∃O T v z,Hs (Z4 U wz O i S B T (V:Int) G P c a R M av b u (.slice pa j Q) v z)/\Hs (XN V a t=⟨(V:Int),a.set b v⟩)
 case first=>
  by_cases H:0<j
  .have a1:(0:Int)<j:=oM;have d:0<a[b].ps.length:=by rw[<-o.o];exact H
   have h:Hs (XN V a t=⟨(V:Int),a.set b ⟨a[b].ps.set 0 ⟨a[b].ps[0].dst,(a[b].ps[0].args++[0])⟩,a[b].is,a[b].te⟩⟩):=Xa (by rw[p.o,aM vZ];simp[Za,jb,d]);clear p;let⟨gp,cp,A⟩:=(e.yph).got d;rw[<-o.o]at A;injection A with e1 _ e3;subst e1 e3;have ay:=W _<|aH d;have bm:=ad.2.1 _<|aH d;let⟨C,y,m⟩:=(q 0 d).got ay;let⟨g,f⟩:∃g,g=a[b].ps[0].args.length:=⟨_,rfl⟩;have n:=q 0 d;rw[m,<-f]at n;rw[<-f]at m;have w:=Xa f;have bl:0<g:=oM;have bn:g<=1000:=oM;rw[f]at n;have aa:Hs (Xv k s (4,b,0) i 2 1 (Hl C g y) a[b].ps[0].args.length (Xt a[b].ps[0].args)):=Xa (by rw[f];exact n);have l:=Xa m;clear n f m q;have c1:=(e.pcells d rfl).1;rw[l.o]at c1;clear q2 q3 q4 q5;let⟨aj,zg,a2,bc⟩:=e.pcells d rfl;rw[l.o]at aj;let⟨j0,ax,a3,a4,a5⟩:=Xq Nv;have Y:=Xa e.drew;have x:=Xa (aa.sp (⟨aA _,λ_ _ _ _=>⟨rfl,rfl⟩,λao=>ao⟩:XW k k.drew s s i λ_=>True) λ_ _=>trivial);have bp:=e.size;have al:=((e.alloc<|.cells #[Hp 0] 2).pcells d rfl).1;rw[l.o]at al;go_wp2_with fail
   refine Y7 (λw'=>w'.cell? (Hk u 0)=some (Hl gp j Q)) λhHeld=>?_;refine Xn 0 ?_;refine Xn 1 ?_;refine Xn 2 ?_;refine Xn 3 ?_;refine Xn 4 ?_;refine Xn 5 ?_;refine eS (rs:=[6,7]) kR sP ?_;refine(bQ rfl (λK hK=>?_) (bQ rfl (λK hK=>?_) dY))
   focus
    go_simp;refine hK _ _ kP λhHeld=>?_;clear hK
    try simp only[xX]
    refine Xs 7 λK hK=>?_;go_simp;refine hK _ _ kP λhHeld=>?_;clear hK
   rotate_left
   focus
    go_simp;refine hK _ _ kP λhHeld=>?_;clear hK
    try simp only[xX]
    refine Xs 6 λK hK=>?_;go_simp;refine hK _ _ kP λhHeld=>?_;clear hK
   all_goals (
    refine Xs 8 λK hK=>?_;refine dm rfl _ _ 27 rfl i 2 j0 (Hp 0) 1 8 underlying27 ax a3 a4 a5 rfl vZ (Hl C g y) a[b].ps[0].args.length (Xt a[b].ps[0].args) rfl ?s1 (Hk k.heap.size 0) 1 1 [Hp 0] rfl rfl ?s2 ?s3 ?s4 ?s5 ?s6 ?_
    case s1=>exact x.own.alloc _
    case s2=>exact Yf k.drew _ _
    case s3=>intro bt J;simp at J;subst J;rfl
    case s4=>unfold maxLen;have:=w.o;omega
    case s5=>have:=w.o;omega
    case s6=>simp;omega
    intro v8 w8 r E az D;let⟨⟨L,ap,bq⟩,br,I⟩:=Y.push0 rfl d x E r rfl D;obtain⟨g8,a8,rfl,ar,aq⟩:=Xm r oM;have N:=Bx.c L 0;have ab:=Xa I;rw[l.o]at ap;clear ar aq az D r E I L;refine hK _ _ N λhHeld=>?_;clear hK;refine Xn 9 ?_;refine Xn 10 ?_;refine Xs 11 λK hK=>?_;go_simp;refine hK _ _ ((Xc<|Below.heap_setCell _ _ _ _ a2).trans N) λhHeld=>?_;clear hK;refine Yq ?_;clear hHeld;go_wp2
    go_meet;exact⟨_,_,_,_,ab,h⟩)
  have a1:¬(0:Int)<j:=oM;have d:¬0<a[b].ps.length:=by rw[<-o.o];exact H
  have h:Hs (XN V a t=⟨(V:Int),a.set b a[b]⟩):=Xa (by rw[p.o,aM vZ];simp[Za,d]);go_wp2;go_meet;exact⟨_,_,_,_,e,h⟩
 let⟨O,T,v,z,af,h⟩:=hcut;rename_i aK;exact aK _ _<|ki V G P c a i R M av S B U _ b u ia ni ic _ _ _ _ _ _ _ _ _ _ _ rfl _ hn hb Z h 8 a0 vZ af
theorem Ff:LG 9:=by
 intro V K W c a E r Z T av G B F s2 w I b v hb pa n Y ia ni ic c3 c9 tl Q X;obtain⟨a2,rfl⟩:=JR tl Q;simp only[ae,Nat.reduceAdd];clear Q;let⟨q0,q1,q2,q3,q4,q5,qz,f0,f1,fz,a0⟩:=X.qs;let⟨hn,h,a7,a5,a3,hV,af,aa,a4,y,az,ax,bb,e,A,ab,z⟩:=X
 conv=>arg 2;whnf
 have e0:((9:Int)==0)=false:=vZ;have e1:((9:Int)==1)=false:=vZ;have e2:((9:Int)==2)=false:=vZ;have e3:((9:Int)==3)=false:=vZ;have e4:((9:Int)==4)=false:=vZ;have e5:((9:Int)==5)=false:=vZ;have e6:((9:Int)==6)=false:=vZ;have e7:((9:Int)==7)=false:=vZ;have e8:((9:Int)==8)=false:=vZ;have e9:((9:Int)==9)=true:=vZ;have a1:((9:Int)==10)=false:=vZ
 go_upto_if 79 with fail
 go_cut []from 10 to 180 λwz=>∃U sz J N,Hs (Z4 w wz U r G B sz (V:Int) K W c a Z T av b v (.slice pa n Y) J N)/\Hs (XN V a F=⟨(V:Int),a.set b J⟩)
 case first=>
  by_cases S:0<n
  .have ay:(0:Int)<n:=oM;have d:0<a[b].ps.length:=by rw[<-y.o];exact S
   have k:Hs (XN V a F=⟨(V:Int),a.set b ⟨a[b].ps.set 0 ⟨a[b].ps[0].dst,(a[b].ps[0].args.set 0 ((V:Int)*(Ax s2 2).1))⟩,a[b].is,a[b].te⟩⟩):=Xa (by rw[z.o,aM vZ];simp[Za,jb,d]);clear z;let⟨s,cp,f⟩:=(e.yph).got d;rw[<-y.o]at f;injection f with e1 _ e3;subst e1 e3;have R:=aa _<|aH d;have a9:=af.2.1 _<|aH d;let⟨g,M,t⟩:=(A 0 d).got R;let⟨j,i⟩:∃j,j=a[b].ps[0].args.length:=⟨_,rfl⟩;have u:=A 0 d;rw[t,<-i]at u;rw[<-i]at t;have ad:=Xa i;have a8:0<j:=oM;have ba:j<=1000:=oM;rw[i]at u;have q:Hs (Xv I E (4,b,0) r 2 1 (Hl g j M) a[b].ps[0].args.length (Xt a[b].ps[0].args)):=Xa (by rw[i];exact u);have x:=Xa t;clear u i t A;have c1:=(e.pcells d rfl).1;rw[x.o]at c1;clear q2 q3 q4 q5;have ap:g≠s:=λf=>by have h:=q.lab g rfl;have h2:=e.yph.lab s rfl;rw[f,h2]at h;simp at h
   have ar:v≠g:=λf=>by have h:=q.lab g rfl;rw[<-f,e.xbl]at h;simp at h
   have aq:w.heap.size≠g:=λf=>by have h:=q.lab g rfl;rw[<-f,e.boxl]at h;simp at h
   go_wp2_with fail
   refine Y7 (λH=>H.cell? (Hk v 0)=some (Hl s n Y)/\H.cell? (Hk s 1)=some (Hl g j M)/\H.cell? (Hk w.heap.size 0)=some (Hp V)) λhHeld=>?_;refine Xn 0 ?_;refine Xn 1 ?_;refine Xn 2 ?_;refine Xn 3 ?_;refine Xn 4 ?_;refine Xn 5 ?_;refine Xn 6 ?_;refine Xn 7 ?_;refine Xs 8 λal hK=>?_;go_simp
   go_at_call 27
   refine(XC G B s2 2 _ (Xa e.drew.dr) oM oM).mono ?_;rintro f w5⟨rfl,P,D⟩;have p:=Xa<|e.drew.call D P;have a6:=XE s2 (n:=2) oM;have L:=Xa ((q.sp (⟨aA _,λ_ _ _ _=>⟨rfl,rfl⟩,λl=>l⟩:XW I I.drew E E r λ_=>True) λ_ _=>trivial).sp (XW.grown D e.lt) λ_ _=>trivial);clear P D;have O:=Bx.c p.xbx 0;have b2:=Bx.c p.box 0;have C:=(p.pcells d rfl).1;rw[x.o]at C;have m:=L.o;rw[<-ad.o]at m;have b3:Cl w5 g 0 (Hp a[b].ps[0].args[0]):=m.cell (by unfold Xt;simp[R]);have b4:=m.thaw 0;clear m;generalize m:(Ax s2 2).1=o at*;have bc:IntKind.i64.wrap ((V:Int)*o)=(V:Int)*o:=by
    have ao:o=0\/o=1:=oM;rcases ao with l|l;·rw[l,Int.mul_zero,dF];omega
    rw[l,Int.mul_one,dF];omega
   refine hK _ _ ⟨O,C,b2⟩ λhHeld=>?_;clear hK;refine Xn 9 ?_;refine Xn 10 ?_;refine Xs 11 λal hK=>?_;go_simp;refine hK _ _ ⟨(Xc<|Below.heap_setCell _ _ _ _ ar).trans O,(Xc<|Below.heap_setCell _ _ _ _ (kA ap)).trans C,(Xc<|Below.heap_setCell _ _ _ _ aq).trans b2⟩ λhHeld=>?_;clear hK;refine Yq ?_;clear hHeld;go_wp2;go_meet;exact⟨_,_,_,_,Xa<|p.setA (m:=0) (z:=(V:Int)*o) d L x,k⟩
  have ay:¬(0:Int)<n:=oM;have d:¬0<a[b].ps.length:=by rw[<-y.o];exact S
  have k:Hs (XN V a F=⟨(V:Int),a.set b a[b]⟩):=Xa (by rw[z.o,aM vZ];simp[Za,d]);go_wp2;go_meet;exact⟨_,_,_,_,e,k⟩
 let⟨U,sz,J,N,aj,k⟩:=hcut;rename_i aK;exact aK _ _<|ki V K W c a r Z T av G B w _ b v ia ni ic _ _ _ _ _ _ _ _ _ _ _ rfl _ hn hb ab k 9 ax vZ aj
theorem EL:LG 10:=by
 intro V G M c a K m O J av P B v s2 R w b x hb pa l N ia ni ic c3 c9 tl E X;obtain⟨aq,rfl⟩:=JR tl E;simp only[ae,Nat.reduceAdd];clear E;let⟨q0,q1,q2,q3,q4,q5,qz,f0,f1,fz,ao⟩:=X.qs;let⟨hn,h1,a2,a0,ax,hV,U,S,az,s,al,ab,a7,j,u,T,t⟩:=X
 conv=>arg 2;whnf
 have e0:((10:Int)==0)=false:=vZ;have e1:((10:Int)==1)=false:=vZ;have e2:((10:Int)==2)=false:=vZ;have e3:((10:Int)==3)=false:=vZ;have e4:((10:Int)==4)=false:=vZ;have e5:((10:Int)==5)=false:=vZ;have e6:((10:Int)==6)=false:=vZ;have e7:((10:Int)==7)=false:=vZ;have e8:((10:Int)==8)=false:=vZ;have e9:((10:Int)==9)=false:=vZ;have ap:((10:Int)==10)=true:=vZ
 go_upto_if 79 with fail
 go_cut []from 10 to 180 λwz=>∃L Q y C,Hs (Z4 R wz L m P B Q (V:Int) G M c a O J av b x (.slice pa l N) y C)/\Hs (XN V a v=⟨(V:Int),a.set b y⟩)
 case first=>
  by_cases H:0<l
  .have ad:(0:Int)<l:=oM;have d:0<a[b].ps.length:=by rw[<-s.o];exact H
   have i:Hs (XN V a v=⟨(V:Int),a.set b ⟨a[b].ps.set 0 ⟨a[b].ps[0].dst,(a[b].ps[0].args.drop 1)⟩,a[b].is,a[b].te⟩⟩):=Xa (by rw[t.o,aM vZ];simp[Za,jb,d]);clear t;let⟨gp,cp,n⟩:=(j.yph).got d;rw[<-s.o]at n;injection n with e1 _ e3;subst e1 e3;have F:=S _<|aH d;have a4:=U.2.1 _<|aH d;let⟨k,g,o⟩:=(u 0 d).got F;let⟨e,h⟩:∃e,e=a[b].ps[0].args.length:=⟨_,rfl⟩;have q:=u 0 d;rw[o,<-h]at q;rw[<-h]at o;have f:=Xa h;have a3:0<e:=oM;have a6:e<=1000:=oM;rw[h]at q;have A:Hs (Xv w K (4,b,0) m 2 1 (Hl k e g) a[b].ps[0].args.length (Xt a[b].ps[0].args)):=Xa (by rw[h];exact q);have z:=Xa o;clear q h o u;have c1:=(j.pcells d rfl).1;rw[z.o]at c1;clear q2 q3 q4 q5;let⟨aa,zg,aj,ay⟩:=j.pcells d rfl;rw[z.o]at aa;have a5:(1:Int)<=e:=oM;have a1:e<=g:=by
    let⟨ar,cc,n,_,hc⟩:=Xm A.own F;injection n with _ _ e3;rw[e3,f.o];exact hc
   have r:Hs (Kb w.drew K (4,b,0) m (.slice (if g=1 then some (Hk k 0)else some (Hk k 1)) (e-1) (g-1)) (a[b].ps[0].args.drop 1)):=Xa (by
    refine⟨_,_,by rw[mF,<-f.o],λI hi=>?_⟩;rw[mF,<-f.o]at hi;rw[aM oM];have p:=A.o;rw[<-f.o]at p;refine⟨k,1,rfl,p.blk.1,p.blk.2,?_⟩;have af:w.cell? (Hk k<|1+I)=some (Hp<|a[b].ps[0].args[1+I]'(by rw[<-f.o];omega)):=p.cell (by unfold Xt;rw[dX,aC<|by rw[<-f.o];omega];rfl);rw[List.getElem_drop];exact af)
   by_cases D:g=1
   focus
    rw[aU D,show g-1=0 by omega]at r
   rotate_left
   focus
    rw[aM D]at r
   all_goals (
    go_wp2_with fail
    refine Y7 (λw'=>w'.cell? (Hk x 0)=some (Hl gp l N)) λhHeld=>?_;refine Xn 0 ?_;refine Xn 1 ?_;refine Xn 2 ?_;refine Xn 3 ?_;refine Xn 4 ?_;refine Xn 5 ?_;refine Xs 6 λY hK=>?_;go_simp;refine hK _ _ kP λhHeld=>?_;clear hK;refine Xn 7 ?_;refine Xn 8 ?_;refine Xn 9 ?_;refine Xs 10 λY hK=>?_;go_simp;refine hK _ _ ((Xc<|Below.heap_setCell _ _ _ _ aj).trans q0) λhHeld=>?_;clear hK;refine Yq ?_;clear hHeld;go_wp2
    go_meet;exact⟨_,_,_,_,Xa<|j.drew.setPh (j:=0) rfl d r,i⟩)
  have ad:¬(0:Int)<l:=oM;have d:¬0<a[b].ps.length:=by rw[<-s.o];exact H
  have i:Hs (XN V a v=⟨(V:Int),a.set b a[b]⟩):=Xa (by rw[t.o,aM vZ];simp[Za,d]);go_wp2;go_meet;exact⟨_,_,_,_,j,i⟩
 let⟨L,Q,y,C,W,i⟩:=hcut;rename_i Z;exact Z _ _<|ki V G M c a m O J av P B R _ b x ia ni ic _ _ _ _ _ _ _ _ _ _ _ rfl _ hn hb T i 10 ab vZ W
theorem Fh(d:Int)(al:11<=d)(ao:d<=15):LG d:=by
 intro V X af c e bn aa pv iv av E D R s2 S T b k hb pa J pc ia f m c3 c9 tl hl Y;obtain⟨a6,rfl⟩:=JR tl hl;simp only[ae,Nat.reduceAdd];clear hl;obtain⟨q0,q1,q2,q3,q4,q5,qz,f0,f1,fz,a3⟩:=Y.qs;obtain⟨hn,h1,bb,ba,a8,hV,a4,az,a9,a2,G,bc,bf,I,aj,g,N⟩:=Y
 conv=>arg 2;whnf
 have e0:(d==0)=false:=by simp;omega
 have e1:(d==1)=false:=by simp;omega
 have e2:(d==2)=false:=by simp;omega
 have e3:(d==3)=false:=by simp;omega
 have e4:(d==4)=false:=by simp;omega
 have e5:(d==5)=false:=by simp;omega
 have e6:(d==6)=false:=by simp;omega
 have e7:(d==7)=false:=by simp;omega
 have e8:(d==8)=false:=by simp;omega
 have e9:(d==9)=false:=by simp;omega
 have a5:(d==10)=false:=by simp;omega
 go_upto_if 79 with fail
 go_cut []from 10 to 180 λU=>Hs<|dy U T
 case first=>
  by_cases bd:0<J
  .have ax:(0:Int)<J:=oM;go_wp2;go_meet;exact Xa rfl
  have ax:¬(0:Int)<J:=oM;go_wp2;go_meet;exact Xa rfl
 have z:T=wc:=hcut.symm;subst z;clear hcut q0 q2 q3 q4 q5 qz f0 f1 fz aj
 go_upto_if 121 with fail
 go_cut []from 10 to 180 λU=>∃ad sz W Z,Hs (Z4 S U ad aa E D sz (V:Int) X af c e pv iv av b k (.slice pa J pc) W Z)/\Hs (XN V e R=⟨(V:Int),e.set b W⟩)
 case first=>
  by_cases ab:0<f
  .have ar:(0:Int)<f:=oM;have Q:0<e[b].is.length:=by rw[<-G.o];exact ab
   have r:Hs (XN V e R=⟨(V:Int),e.set b ⟨e[b].ps,e[b].is.set (Ax s2 (f:Int)).1.toNat (gw d V (Ax s2 (f:Int)).2 (e[b].is.getD (Ax s2 (f:Int)).1.toNat ⟨0,0,0,0,0⟩)),e[b].te⟩⟩):=Xa (by rw[N.o,aM oM,aM oM,G.o];simp[Za,Q,show ¬d=6 by omega,show ¬d<6 by omega,show ¬d<11 by omega]);clear N;go_wp2_with fail
   refine(XC E D s2 (f:Int) T (Xa I.dr) oM oM).mono ?_;rintro z C⟨rfl,o,p⟩;have a:=Xa<|I.call p o;have P:=XE s2 (n:=(f:Int)) oM;clear o p I q1;obtain⟨ri,s3,ac⟩:∃ay s9,Ax s2 (f:Int)=(ay,s9):=⟨_,_,rfl⟩;rw[ac]at a r P |-;dsimp only at a r P |-;clear ac;obtain⟨y,rfl⟩:=Zv P.1;rw[dM]at r;have ap:y<f:=oM;have q:y<e[b].is.length:=by rw[<-G.o];exact ap
   rw[show e[b].is.getD y ⟨0,0,0,0,0⟩=e[b].is[y] by simp[q]]at r;obtain⟨n,ci,z⟩:=(a.yin).got oM;rw[g.o,<-G.o]at z;injection z with e1 _ e3;subst e1 e3;have aq:d=11\/d=12\/d=13\/d=14\/d=15:=oM;clear al ao;rcases aq with rfl|rfl|rfl|rfl|rfl
   .skip
    have h:C.cell? ⟨k,1,none⟩=some (.slice (some ⟨n,0,none⟩) f m):=by rw[<-g.o];exact Bx.cell a.xbx rfl
    have j:=Bx.c a.box 0;go_wp2_with fail
    refine Y7 (λF=>F.cell? ⟨k,1,none⟩=some (.slice (some ⟨n,0,none⟩) f m)) λhHeld=>?_;refine Xn 0 ?_;refine Xn 1 ?_;refine Xn 2 ?_;refine Xn 3 ?_;refine Xs 4 λK hK=>?_;go_simp
    go_at_call 27
    refine(XC E D s3 13 _ (Xa a.drew.dr) oM oM).mono ?_;rintro z A⟨rfl,o,p⟩;have i:=Xa<|a.drew.call p o;clear o p;have h:A.cell? ⟨k,1,none⟩=some (.slice (some ⟨n,0,none⟩) f m):=by rw[<-g.o];exact Bx.cell i.xbx rfl
    have j:=Bx.c i.box 0;obtain⟨⟨L,s⟩,⟨v1,t⟩,⟨v2,u⟩,⟨v3,v⟩,⟨v4,w⟩,x,B,H⟩:=i.icells q g;refine hK _ _ h λhHeld=>?_;clear hK;refine Xn 5 ?_;refine Xn 6 ?_;refine Xs 7 λK hK=>?_;go_simp;refine hK _ _ ((Xc<|Below.heap_setCell _ _ _ _ B).trans h) λhHeld=>?_;clear hK;refine Yq ?_;clear hHeld;have l:=Xa<|i.setI (m:=0) (z:=(Ax s3 13).1) (x':=gw 11 V s3 e[b].is[y]) q g oM rfl;clear i a j h s t u v w x;rw[fW]at l;generalize A.setCell _ _=M at*;go_wp2;go_meet;exact⟨_,_,_,_,l,r⟩
   .skip
    have h:C.cell? ⟨k,1,none⟩=some (.slice (some ⟨n,0,none⟩) f m):=by rw[<-g.o];exact Bx.cell a.xbx rfl
    have j:=Bx.c a.box 0;go_wp2_with fail
    have a7:(V:Int)<=1000:=oM;have bi:(0:Int)<=(V:Int)+1:=oM;have bl:(V:Int)+1<=1001:=oM;have bm:IntKind.i64.wrap ((V:Int)+1)=(V:Int)+1:=by rw[dF];omega
    refine Y7 (λF=>F.cell? ⟨k,1,none⟩=some (.slice (some ⟨n,0,none⟩) f m)/\F.cell? ⟨S.heap.size,0,none⟩=some (.int .i64 (V:Int))) λhHeld=>?_;refine Xn 0 ?_;refine Xn 1 ?_;refine Xn 2 ?_;refine Xn 3 ?_;refine Xn 4 ?_;refine Xn 5 ?_;refine Xn 6 ?_;refine Xs 7 λK hK=>?_;go_simp
    go_at_call 27
    refine(XC E D s3 ((V:Int)+1) _ (Xa a.drew.dr) oM oM).mono ?_;rintro z A⟨rfl,o,p⟩;have i:=Xa<|a.drew.call p o;clear o p;have h:A.cell? ⟨k,1,none⟩=some (.slice (some ⟨n,0,none⟩) f m):=by rw[<-g.o];exact Bx.cell i.xbx rfl
    have j:=Bx.c i.box 0;obtain⟨⟨L,s⟩,⟨v1,t⟩,⟨v2,u⟩,⟨v3,v⟩,⟨v4,w⟩,x,B,H⟩:=i.icells q g;refine hK _ _ ⟨h,j⟩ λhHeld=>?_;clear hK;refine Xn 8 ?_;refine Xn 9 ?_;refine Xs 10 λK hK=>?_;go_simp;refine hK _ _ ⟨(Xc<|Below.heap_setCell _ _ _ _ B).trans h,(Xc<|Below.heap_setCell _ _ _ _ H).trans j⟩ λhHeld=>?_;clear hK;refine Yq ?_;clear hHeld;have l:=Xa<|i.setI (m:=1) (z:=(Ax s3<|(V:Int)+1).1) (x':=gw 12 V s3 e[b].is[y]) q g oM rfl;clear i a j h s t u v w x;generalize A.setCell _ _=M at*;go_wp2;go_meet;exact⟨_,_,_,_,l,r⟩
   .skip
    have h:C.cell? ⟨k,1,none⟩=some (.slice (some ⟨n,0,none⟩) f m):=by rw[<-g.o];exact Bx.cell a.xbx rfl
    have j:=Bx.c a.box 0;obtain⟨⟨L,s⟩,⟨v1,t⟩,⟨v2,u⟩,⟨v3,v⟩,⟨v4,w⟩,x,B,H⟩:=a.icells q g;go_wp2_with fail
    have l:=Xa<|a.setI (m:=2) (z:=(V:Int)) (x':=gw 13 V s3 e[b].is[y]) q g oM rfl;clear a j h s t u v w x;generalize C.setCell _ _=M at*;go_meet;exact⟨_,_,_,_,l,r⟩
   .skip
    have h:C.cell? ⟨k,1,none⟩=some (.slice (some ⟨n,0,none⟩) f m):=by rw[<-g.o];exact Bx.cell a.xbx rfl
    have j:=Bx.c a.box 0;obtain⟨⟨L,s⟩,⟨v1,t⟩,⟨v2,u⟩,⟨v3,v⟩,⟨v4,w⟩,x,B,H⟩:=a.icells q g;go_wp2_with fail
    have l:=Xa<|a.setI (m:=3) (z:=(-1)) (x':=gw 14 V s3 e[b].is[y]) q g oM rfl;clear a j h s t u v w x;generalize C.setCell _ _=M at*;go_meet;exact⟨_,_,_,_,l,r⟩
   skip
   have h:C.cell? ⟨k,1,none⟩=some (.slice (some ⟨n,0,none⟩) f m):=by rw[<-g.o];exact Bx.cell a.xbx rfl
   have j:=Bx.c a.box 0;go_wp2_with fail
   refine Y7 (λF=>F.cell? ⟨k,1,none⟩=some (.slice (some ⟨n,0,none⟩) f m)) λhHeld=>?_;refine Xn 0 ?_;refine Xn 1 ?_;refine Xn 2 ?_;refine Xn 3 ?_;refine Xs 4 λK hK=>?_;go_simp
   go_at_call 27
   refine(XC E D s3 12 _ (Xa a.drew.dr) oM oM).mono ?_;rintro z A⟨rfl,o,p⟩;have i:=Xa<|a.drew.call p o;clear o p;have h:A.cell? ⟨k,1,none⟩=some (.slice (some ⟨n,0,none⟩) f m):=by rw[<-g.o];exact Bx.cell i.xbx rfl
   have j:=Bx.c i.box 0;obtain⟨⟨L,s⟩,⟨v1,t⟩,⟨v2,u⟩,⟨v3,v⟩,⟨v4,w⟩,x,B,H⟩:=i.icells q g;refine hK _ _ h λhHeld=>?_;clear hK;refine Xn 5 ?_;refine Xn 6 ?_;refine Xs 7 λK hK=>?_;go_simp;refine hK _ _ ((Xc<|Below.heap_setCell _ _ _ _ B).trans h) λhHeld=>?_;clear hK;refine Yq ?_;clear hHeld;have l:=Xa<|i.setI (m:=4) (z:=(Ax s3 12).1) (x':=gw 15 V s3 e[b].is[y]) q g oM rfl;clear i a j h s t u v w x;generalize A.setCell _ _=M at*;go_wp2;go_meet;exact⟨_,_,_,_,l,r⟩
  have ar:¬(0:Int)<f:=oM;have Q:¬0<e[b].is.length:=by rw[<-G.o];exact ab
  have O:Hs (XN V e R=⟨(V:Int),e.set b e[b]⟩):=Xa (by rw[N.o,aM oM,aM oM];simp[Za,Q,show ¬d=6 by omega,show ¬d<6 by omega,show ¬d<11 by omega]);go_wp2;go_meet;exact⟨_,_,_,_,I,O⟩
 obtain⟨ad,sz,W,Z,l,O⟩:=hcut;rename_i aK;exact aK _ _<|t8 V X af c e aa pv iv av E D S _ b k ia f m _ _ _ _ _ _ _ _ _ _ _ rfl _ hn hb g O _ l
theorem zP(V G n c:Nat)(d:List Xe)(g:Nat->Nat×Nat×Nat)(e:Nat)(i h:Nat->Value)(av:Nat->Nat->Value)(f B:Nat)(s:Sr)(w:World)(hF:Hs (ZU w g e (Hl G n c) d i h av))(v:Hs (n=d.length))(k:1<=n)(x:n<=11)(p:e<=w.heap.size)(r:Hs (∀b,w.heap.size<=b->g b=(0,0,0)))(q:Hs (ZQ w f B s))(o:B<=e)(l:V<=1000)(y:Hs (Kg d))(m:Hs (LT d)) :
 Calls prog 30 #[.agg #[Hp V,Hl G n c],Hn f] w λj z=>Ly (XN V d s) w e f j z:=by
 have A:=XE s (n:=16) oM;refine Bu V G n c d g e i h av f B s w hF v k x p r q o l y m<|Xa ?_;generalize (Ax s 16).1=a at*;by_cases t:11<=a;·exact Fh a t oM
 have u:a=0\/a=1\/a=2\/a=3\/a=4\/a=5\/a=6\/a=7\/a=8\/a=9\/a=10:=oM;rcases u with rfl|rfl|rfl|rfl|rfl|rfl|rfl|rfl|rfl|rfl|rfl;·exact EU
 .exact E7
 .exact E8
 .exact EZ
 .exact EY
 .exact Fe
 .exact Fj
 .exact E4
 .exact Fc
 .exact Ff
 exact EL
noncomputable def IL(s:Sr):Fn :=
 if (Ax s 30).1<3 then ⟨(XM (Ax s 30).2 false).1.values,(ZM (XM (Ax s 30).2 false).1.values.toNat (XM (Ax s 30).2 false).1.blocks (XM (Ax s 30).2 false).2).1⟩
 else if (Ax s 30).1=3 then (XM (Ax s 30).2 true).1
 else if (Ax s 30).1<7 then XN (XM (Ax s 30).2 false).1.values.toNat (XM (Ax s 30).2 false).1.blocks (XM (Ax s 30).2 false).2
 else (XM (Ax s 30).2 false).1
structure Me(w w':World)(sb B:Nat)(G n c:Nat)(lab:Nat->Nat×Nat×Nat)(pv iv:Nat->Value)(av:Nat->Nat->Value)(V:Nat)(xs:List Xe)(s':Sr):Prop where
 dr:ZQ w' sb B s'
 gr:w.grownBy w' (some sb)
 fn:ZU w' lab w.heap.size (.slice (some ⟨G,0,none⟩) n c) xs pv iv av
 fr:∀b,w'.heap.size<=b->lab b=(0,0,0)
 len:n=xs.length
 n1:1<=n
 n11:n<=11
 v:V<=1000
 sml:Kg xs
 arg:LT xs
theorem wR(b B:Nat)(s:Sr)(a:Bool)(w:World)(j:Hs (ZQ w b B s)) :
 Calls prog 29 #[Hn b,.bool a] w λg i=>∃e G n c f d av,∃V:Nat,g=.returned (.agg #[Hp V,Hl G n c])/\(XM s a).1.values=(V:Int)/\Me w i b B G n c e f d av V (XM s a).1.blocks (XM s a).2:=by
 refine(Cc (Xa Ce) b B s a w j).mono ?_;rintro g i⟨e,G,n,c,f,d,av,rfl,k,o,p,q,r,t,u,⟨V,h,v⟩,l,m⟩;exact⟨e,G,n,c,f,d,av,V,by rw[h],h,k,o,p,q,r,t,u,v,l,m⟩
theorem Me.spo{av:Nat->Nat->Value}{f:Sr}(a:Me w v n m k B c Z h H av g x f):KC w v w.heap.size n (some ⟨k,0,none⟩) x :=
 ⟨a.fn.at_,a.gr.os,a.gr.tape,a.gr.output,a.gr.size,λq b d=>a.gr.block q b λe=>d<|by injection e⟩
theorem KC.after(g:w.grownBy v (some m))(c:n<=w.heap.size)(h:KC v u n m p x):KC w u n m p x :=
 ⟨h.at_,h.os.trans g.os,h.tape.trans g.tape,h.output.trans g.output,aJ g.size h.size,λq b a=>(h.low q b a).trans (g.block q oM λe=>a<|by injection e)⟩
theorem KC.fin(l:m<w.heap.size)(b:(w.alloc<|.cells #[.int .i64 0,.slice none 0 0] 25).grownBy v (some m))(g:w.heap.size<n)(h:KC v u n m p x):Bx u w.heap.size #[.int .i64 0,.slice none 0 0] 25/\KC w ((u.setCell ⟨w.heap.size,0,none⟩ a).setCell ⟨w.heap.size,1,none⟩ A) w.heap.size m p x:=by
 have j:Bx u w.heap.size #[Hp 0,Hq] 25:=((Bx.new w _ _).grown b λe=>by injection e;omega).keep (h.low _ g oM);have c:=((Below.refl w.heap.size u).setCell (p:=Hk w.heap.size 0) (aA _) a).setCell (p:=Hk w.heap.size 1) (aA _) A;have i:YA n u.heap.size u ((u.setCell (Hk w.heap.size 0) a).setCell (Hk w.heap.size 1) A):=λq d _=>by
  have hq:q≠w.heap.size:=oM;exact(Below.heap_setCell _ _ _ _ hq).trans (Below.heap_setCell _ _ _ _ hq)
 have k:w.heap.size<=v.heap.size:=aJ sP b.size;refine⟨j,(h.at_.keepS i).mono (dU g) c.size,c.os.trans<|h.os.trans b.os,c.tape.trans<|h.tape.trans b.tape,c.output.trans<|h.output.trans b.output,aJ k<|aJ h.size c.size,λq d f=>?_⟩;exact(c.block q d).trans ((h.low q oM f).trans ((b.block q (by simp;omega) λe=>f<|by injection e).trans (Below.heap_alloc _ _ _ d)))
theorem MR.spo{s:Sr}{av:Nat->Nat->Value}(a:MR w v Z n m k s B g c x h H av):KC w v n m (some ⟨B,0,none⟩) x:=⟨a.fn.at_,a.os,a.tape,a.output,a.size,a.low⟩
def Lx(F:Fn)(w:World)(a:Nat)(e:Ending)(b:World):Prop:=Ly F w w.heap.size a e b/\F.blocks.length+Xx F.blocks<=1048576
theorem Lx.fin(F:Fn)(e:Hs (n<w.heap.size))(a:Hs ((w.alloc<|.cells #[.int .i64 0,.slice none 0 0] 25).grownBy v (some n)))(b:Hs (w.heap.size<v.heap.size))(h:KC v u v.heap.size n p F.blocks)(g:F.values=t)(d:m=F.blocks.length)(f:F.blocks.length+Xx F.blocks<=1048576):Hs (∀i j,Bx u w.heap.size #[.int .i64 0,.slice none 0 0] 25/\Lx F w n (.returned (.agg #[.int .i64 t,.slice p m c])) ((u.setCell ⟨w.heap.size,0,none⟩ i).setCell ⟨w.heap.size,1,none⟩ j)) :=
 Xa λ_ _=>have H:=KC.fin e.o a.o b.o h;⟨H.1,⟨_,m,_,by rw[g],d,H.2⟩,f⟩
theorem yZ(d B:Nat)(s:Sr)(w:World)(k:Hs (ZQ w d B s)) :
 Calls prog 12 #[Hn d] w λj R=>Lx (IL s) w d j R:=by
 have b:=Xa<|IL.eq_1 s;have N:Hs (B<=w.heap.size):=Xa k.sB;have t:Hs (d<w.heap.size):=Xa<|oP k.bB k.sB;have y:=Xa<|k.box (.cells #[Hp 0,Hq] 25)
 go_in
 go_wp2_with fail
 refine(XC d B s 30 _ y oM oM).mono ?_;rintro j o⟨rfl,r,u⟩;have C:=XE s (n:=30) oM;let⟨n,s1,D⟩:∃P Q,Ax s 30=(P,Q):=⟨_,_,rfl⟩;rw[D]at r b C |-;dsimp only at r b C |-;have K:=Xa r;have p:=Xa u;have m:Hs (w.heap.size<o.heap.size):=Xa<|aX sP u.size;clear r u D k y;by_cases z:n<3;rw[aU z]at b;rotate_left;rw[aM z]at b;by_cases g:n=3;have O:(n==3)=true:=by simpa using g
 rw[aU g]at b;clear g;rotate_left;have O:(n==3)=false:=by simpa using g
 rw[aM g]at b;clear g;by_cases A:n<7;rw[aU A]at b;rotate_left;rw[aM A]at b
 all_goals
  go_wp2_with fail
  refine(wR d B s1 _ o K).mono ?_;rintro j J⟨H,G,x,c,I,F,av,V,rfl,E,v⟩;have a:=Xa v;have q:=Xa E;have f:Hs (x<=12/\B<=o.heap.size):=Xa ⟨Nat.le_succ_of_le v.n11,aJ N.o<|dU m.o⟩;clear v E
 have e:=Lx.fin (c:=c) (XM s1 false).1 t p m a.spo q.o a.len (j5 (a.len▸f.1) (WS (V0 _ _) a.sml));rotate_left;rw[q.o,dM]at b;have i:=Xa<|yO (V:=V) (s:=(XM s1 false).2) (V0 s1 false) a.sml
 focus go_wp2_with fail
 refine(zA V G x c (XM s1 false).1.blocks H o.heap.size I F av d B (XM s1 false).2 J (Xa a.fn) (Xa a.len) a.n1 a.n11 a.gr.size (Xa a.fr) (Xa a.dr) f.2 a.v (Xa a.sml) (Xa a.arg)).mono ?_;rintro j S⟨rfl,l⟩;have h:=a.len.trans i.1.symm;have e:=Lx.fin (c:=c) ⟨(V:Int),(ZM V (XM s1 false).1.blocks (XM s1 false).2).1⟩ t p m (KC.after a.gr (aA _) l.spo) rfl h (j5 (h▸f.1) i.2);clear l h;rotate_left;have e:=Lx.fin (c:=c) (XM s1 true).1 t p m a.spo q.o a.len (j5 (a.len▸f.1) (WS (V0 _ _) a.sml));rotate_left;rw[q.o,dM]at b;have i:=Xa<|zL (V:=V) (s:=(XM s1 false).2) (V0 s1 false) a.sml
 focus go_wp2_with fail
 refine(zP V G x c (XM s1 false).1.blocks H o.heap.size I F av d B (XM s1 false).2 J (Xa a.fn) (Xa a.len) a.n1 a.n11 a.gr.size (Xa a.fr) (Xa a.dr) f.2 a.v (Xa a.sml) (Xa a.arg)).mono ?_;rintro j S⟨T,W,L,rfl,h,l⟩;have e:=Lx.fin (c:=L) (XN V (XM s1 false).1.blocks (XM s1 false).2) t p m (KC.after a.gr (aA _) l) rfl h (j5 (aJ i.1 (a.len▸f.1)) i.2);clear l h
 all_goals
  have M:=(e.o undef undef).1.c 0;have f1:=(e.o undef undef).1.c 1;have U:=Bx.thaw (e.o undef undef).1;go_wp2;rw[b.o];refine cC ?_ rfl (e.o _ _).2;simp[results,results12,go_sem,M,f1]
end Go.Proofs.YtffcajcgkblkoaaGreatDoor
