import Derived.Test.YtghnlncgiihhgaaGreatDoorNSc
namespace Go.Proofs.YtghnlncgiihhgaaGreatDoor
set_option maxHeartbeats 8000000
set_option maxRecDepth 1000000
open Go.RowKit Go.Proofs.Tryz Go.Shelf
variable{s:List Nat}{n m:Nat}{d:Nat->Prop}{w v:World}
def J3(k:Nat):Code->Option Code
 | .seq x y=>match J3 k x with
  | some c=>some c
  | none=>J3 k y
 | .block i c=>if i=k then some c else J3 k c
 | .scope c=>J3 k c
 | .loop c=>J3 k c
 | .cond _ x y=>match J3 k x with
  | some c=>some c
  | none=>J3 k y
 | _=>none
noncomputable def eaP:Code:=(f17.body.bind (J3 4)).getD .skip
noncomputable def eaI:Code:=(f17.body.bind (J3 6)).getD .skip
theorem ZH.drew(h:ZH d w v):ZH d w v.drew:=h.trans (ZH.of_below (Below.refl _ _).drew)
theorem BT(g G o p B u s r a pc:Nat)(y:Option Addr)(d:List Ph)(L C:Nat)(M:Nat->Prop)(b:Nat->World->Prop)(U:World)(Q:Exit->Act->World->Prop)(ds:List Deferred)(c0 c2 c3 c4 c5 c6 c7 c9 J K cw N O P R S T V W X Y Z aa ab ac ad af aj al ap aq ar ax ay az a0 a1 a2 a3 a4 a5 a6 a7 a8 a9 ba bb bc bd bf cx c8 da db dc df di dj dk dn du bi bl bm bn bq br bt bv bw bx bz b0 b1 b2 b3 b4 b5 b6 b7 b8 b9 ca cb cc cd:Value)
 (hQ:Hid (∀c (I:Act) t v w,Q (.panic c) (I.put (some t) v) w->Q (.panic c) I w))
 (ep:Hid (Jw U L C y d)) (em:Hid (a=d.length)) (et:a<=4000) (hM:Hid (∀q,L<=q->q<C->¬M q)) (ch:Hid (¬M g)) (hG:Hid (¬M G)) (ej:Hid (∀q,M q->q<U.heap.size))
 (j:U.cell? ⟨g,0,none⟩=some (.slice (some ⟨G,0,none⟩) (o+1) (o+1))) (k:U.cell? ⟨G,0,none⟩=some (.slice (some ⟨B,0,none⟩) p u))
 (hJ:Hid (∀i A e,b i A->Below A.heap.size A e->b i e))
 (eq:Hid (∀i (cf:i<d.length) A,ZH M U A->b i A->Calls prog 18 #[.int .i64 d[i].dst,.agg #[.slice (some ⟨B,0,none⟩) p u],.pointer (some ⟨s,0,none⟩),.pointer (some ⟨r,0,none⟩)] A fun ce e=>ce=.returned (.tuple #[])/\ZH M A e/\b (i+1) e))
 (h0:Hid (b 0 U))
 (hN:Hid (∀(dw d2 d3 d4 d5 ea eb ec ed ee ef ei:Value)(A:World),ZH M U A->b a A->Q (.exit 4) ⟨#[c0,.func (.func 18) #[] #[.pointer (some ⟨s,0,none⟩),.pointer (some ⟨r,0,none⟩)],c2,c3,c4,c5,c6,c7,.pointer (some ⟨g,0,none⟩),c9,J,K,dw,N,O,P,R,S,T,V,W,X,Y,Z,aa,ab,ac,ad,af,aj,al,ap,aq,ar,ax,ay,az,a0,a1,a2,a3,a4,a5,a6,a7,a8,a9,ba,bb,bc,bd,bf,.slice y a pc,.int .i64 (a:Int),.int .i64 (a:Int),d2,d3,d4,d5,ea,eb,ec,ed,ee,ef,ei,bi,bl,bm,bn,bq,br,bt,bv,bw,bx,bz,b0,b1,b2,b3,b4,b5,b6,b7,b8,b9,ca,cb,cc,cd],ds⟩ A)) :
 Code.wp prog eaP Q ⟨#[c0,.func (.func 18) #[] #[.pointer (some ⟨s,0,none⟩),.pointer (some ⟨r,0,none⟩)],c2,c3,c4,c5,c6,c7,.pointer (some ⟨g,0,none⟩),c9,J,K,cw,N,O,P,R,S,T,V,W,X,Y,Z,aa,ab,ac,ad,af,aj,al,ap,aq,ar,ax,ay,az,a0,a1,a2,a3,a4,a5,a6,a7,a8,a9,ba,bb,bc,bd,bf,.slice y a pc,.int .i64 (a:Int),.int .i64 0,cx,c8,da,db,dc,df,di,dj,dk,dn,du,bi,bl,bm,bn,bq,br,bt,bv,bw,bx,bz,b0,b1,b2,b3,b4,b5,b6,b7,b8,b9,ca,cb,cc,cd],ds⟩ U:=by
 conv=>arg 2;whnf
 dsimp only;have eg:∀args w,(callFunc 18 args).run prog w=.ok (.enter 18 args) w:=enters_of func18 vZ rfl;have cs:=Xa j;have ct:=Xa k;clear j k
 go_loopw [54] (fun i wx=>∃x:Nat,x<=a/\i=.int .i64 x/\Hid (ZH M U wx)/\Hid (b x wx)) (fun i _=>a-(intOf i).toNat)
 case atStart=>exact⟨0,aN _,rfl,Xa (ZH.refl _ _),h0⟩
 case round =>
  obtain⟨i,hi,rfl,f,E⟩:=hrel;by_cases el:i<a
  ·have ci:i<d.length:=by rw[<-em.out];exact el
   obtain⟨pb,po,rfl,n,ck,cl,d0,d1,_⟩:=ep.out i ci;have e0:=f.cell (hM.out pb n.1 n.2) d0;have e1:=f.cell (hM.out pb n.1 n.2) d1;have H:=Xa (eq.out i ci);generalize d[i].dst=m at *;generalize d[i].args.length=dl at *;have es:(i:Int)<(a:Int):=oM;clear d0 d1;have D:Hid (Below wr.heap.size wr (wr.alloc (.cells #[.int .i64 m,.slice ck dl cl] 96))):=Xa (Xb (Below.refl _ _) _);have l:=Xa (f.trans (ZH.of_below D.out));have cr:=Xa (hJ.out _ _ _ E.out D.out);have x0:(wr.alloc (.cells #[.int .i64 m,.slice ck dl cl] 96)).cell? ⟨wr.heap.size,0,none⟩=some (.int .i64 m):=by simp[go_sem]
   have cv:Hid (¬M wr.heap.size):=Xa (fun cf=>by have:=ej.out _ cf;have:=f.size;omega)
   go_wp2_with fail
   generalize wr.alloc _=w5 at *;generalize wr.heap.size=xb at *;have j:=l.cell ch.out cs.out;have k:=l.cell hG.out ct.out;have F:=Xa (H.out w5.drew l.drew (hJ.out _ _ _ cr.out (Below.refl _ _).drew));clear e0 e1 H;refine Y7 (fun z=>z.cell? ⟨xb,0,none⟩=some (.int .i64 m)/\z.cell? ⟨g,0,none⟩=some (.slice (some ⟨G,0,none⟩) (o+1) (o+1))/\z.cell? ⟨G,0,none⟩=some (.slice (some ⟨B,0,none⟩) p u)) (fun hHeld=>?_);refine X0 0 ?_;refine X0 1 ?_;refine X0 2 ?_;refine X0 3 ?_;refine X0 4 ?_;refine X0 5 ?_;refine Xs 6 (fun er hK=>?_);go_simp;refine F.mono ?_;rintro ce w6 ⟨rfl,h,cj⟩;have cp:=Xa (l.drew.trans h);have cq:=Xa cj;refine hK _ _ ⟨h.cell cv.out x0,h.cell ch.out j,h.cell hG.out k⟩ (fun hHeld=>?_);clear hK;refine Yq ?_;clear hHeld j k x0 F h cj
   go_wp2
   exact⟨⟨i+1,oM,gM,cp,cq⟩,by simp[intOf];omega⟩
  ·have ek:i=a:=oM
   subst ek
   go_wp2_with fail
   exact hN.out _ _ _ _ _ _ _ _ _ _ _ _ _ f.out E.out
theorem BQ(w G W H F a ic:Nat)(zs cw:Nat->Nat)(K:Option Addr)(d:List Yg)(X O:Nat)(M:Nat->Prop)(b:Nat->World->Prop)(U:World)(Y:Exit->Act->World->Prop)(ds:List Deferred)(c0 c2 c3 c4 c5 c6 c7 c9 Z aa ab dc df ac dj ad af aj al ap aq ar ax ay az a0 a1 a2 a3 a4 a5 a6 a7 a8 a9 ba bb bc bd bf bi bl bm bn bq br bt bv bw bx bz b0 b1 b2 b3 b4 b5 b6 b7 b8 b9 ca cb cc cd dk dl dn du dw d5 ea eb ec ed ee ef ei ej ek el em ep eq er ce:Value)
 (ge:Hid (YY U X O K d)) (gl:Hid (a=d.length)) (g2:a<=4000) (hM:Hid (∀L,X<=L->L<O->¬M L)) (gd:Hid (¬M w)) (hG:Hid (¬M G))
 (C:U.cell? ⟨w,0,none⟩=some (.slice (some ⟨G,0,none⟩) (a+1) (a+1))) (sg:Hid (∀i,i<=a->U.cell? ⟨G,i,none⟩=some (.slice (some ⟨zs i,0,none⟩) W (cw i))))
 (gr:Hid (∀D∈d,1<=D.op/\D.op<=13)) (gc:Hid (∀A,ZH M U A->Yy A))
 (hJ:Hid (∀i A l,b i A->Below A.heap.size A l->b i l))
 (gs:Hid (∀i (gb:i<d.length),dB d[i].op=true->∀A,ZH M U A->b i A->Calls prog 18 #[.int .i64 d[i].dst,.agg #[.slice (some ⟨zs (i+1),0,none⟩) W (cw (i+1))],.pointer (some ⟨H,0,none⟩),.pointer (some ⟨F,0,none⟩)] A fun r l=>r=.returned (.tuple #[])/\ZH M A l/\b (i+1) l))
 (gp:Hid (∀i (gb:i<d.length),dB d[i].op=false->∀A,b i A->b (i+1) A))
 (h0:Hid (b 0 U))
 (hN:Hid (∀(es et eu ev ey ez e7 e8 e9 fa fb fc fe fi fl fq fr fs fx fz f0 f7 ga:Value)(A:World),ZH M U A->b a A->Y (.exit 6) ⟨#[c0,.func (.func 18) #[] #[.pointer (some ⟨H,0,none⟩),.pointer (some ⟨F,0,none⟩)],c2,c3,c4,c5,c6,c7,.pointer (some ⟨w,0,none⟩),c9,Z,aa,ab,es,et,ac,eu,ad,af,aj,al,ap,aq,ar,ax,ay,az,a0,a1,a2,a3,a4,a5,a6,a7,a8,a9,ba,bb,bc,bd,bf,bi,bl,bm,bn,bq,br,bt,bv,bw,bx,bz,b0,b1,b2,b3,b4,b5,b6,b7,b8,b9,ca,cb,cc,cd,.slice K a ic,.int .i64 (a:Int),.int .i64 (a:Int),ev,ey,ez,e7,e8,e9,fa,fb,fc,fe,fi,fl,fq,fr,fs,fx,fz,f0,f7,ga,ce],ds⟩ A)) :
 Code.wp prog eaI Y ⟨#[c0,.func (.func 18) #[] #[.pointer (some ⟨H,0,none⟩),.pointer (some ⟨F,0,none⟩)],c2,c3,c4,c5,c6,c7,.pointer (some ⟨w,0,none⟩),c9,Z,aa,ab,dc,df,ac,dj,ad,af,aj,al,ap,aq,ar,ax,ay,az,a0,a1,a2,a3,a4,a5,a6,a7,a8,a9,ba,bb,bc,bd,bf,bi,bl,bm,bn,bq,br,bt,bv,bw,bx,bz,b0,b1,b2,b3,b4,b5,b6,b7,b8,b9,ca,cb,cc,cd,.slice K a ic,.int .i64 (a:Int),.int .i64 0,dk,dl,dn,du,dw,d5,ea,eb,ec,ed,ee,ef,ei,ej,ek,el,em,ep,eq,er,ce],ds⟩ U:=by
 conv=>arg 2;whnf
 dsimp only;have eg:∀args ck,(callFunc 18 args).run prog ck=.ok (.enter 18 args) ck:=enters_of func18 vZ rfl;have cz:=Xa C;clear C
 go_loopw [69] (fun i c=>∃J:Nat,J<=a/\i=.int .i64 J/\Hid (ZH M U c)/\Hid (b J c)) (fun i _=>a-(intOf i).toNat)
 case atStart=>exact⟨0,aN _,rfl,Xa (ZH.refl _ _),h0⟩
 case round =>
  obtain⟨i,hi,rfl,g,S⟩:=hrel;by_cases gi:i<a
  ·have z:i<d.length:=by rw[<-gl.out];exact gi
   obtain⟨pb,po,rfl,cj,d0,d1,d2,d3,d4⟩:=ge.out i z;have t:=hM.out pb cj.1 cj.2;have e0:=g.cell t d0;have e1:=g.cell t d1;have e2:=g.cell t d2;have e3:=g.cell t d3;have e4:=g.cell t d4;have gq:=gr.out _ (aH z);have v:=Xa (gs.out i z);have u:=Xa (gp.out i z);generalize d[i]=D at *;obtain⟨op,f,o,p,q⟩:=D;simp only at e0 e1 e2 e3 e4 gq v u;obtain⟨k,gg⟩:=bX (show 0<=op by omega);subst gg;have gz:(i:Int)<(a:Int):=oM;clear d0 d1 d2 d3 d4;have E:Hid (Below wr.heap.size wr (wr.alloc (.cells #[.int .i64 (k:Int),.int .i64 f,.int .i64 o,.int .i64 p,.int .i64 q] 98))):=Xa (Xb (Below.refl _ _) _);have Q:=Xa (g.trans (ZH.of_below E.out));have cs:=Xa (hJ.out _ _ _ S.out E.out);have R:Hid (Jk (wr.alloc (.cells #[.int .i64 (k:Int),.int .i64 f,.int .i64 o,.int .i64 p,.int .i64 q] 98)) wr.heap.size 0 ⟨k,f,o,p,q⟩):=Xa ⟨by simp[go_sem],by simp[go_sem],by simp[go_sem],by simp[go_sem],by simp[go_sem]⟩
   go_wp2_with fail
   generalize (wr.alloc _)=N at *;generalize wr.heap.size=xb at *;have V:=Xa (UH xb k f o p q N R oM oM (Xa (gc.out _ Q.out)));clear e0 e1 e2 e3 e4 R E;refine V.mono ?_;rintro r w6 ⟨v6,rfl,y,B⟩;have P:=Xa (Q.trans (ZH.of_below y));have T:=Xa (hJ.out _ _ _ cs.out y);clear V;cases hu:dB (k:Int)with
   | false =>
    obtain⟨av,n,x,_⟩:=Xk B;rw[show(writesI ⟨(k:Int),f,o,p,q⟩).length=0 by unfold writesI;rw[hu];rfl]at x;subst x;have ct:=Xa (u.out hu);clear hu y B v u
    go_wp2_with fail
    generalize wr=wv at *
    go_loopw [76] (fun j c=>j=.int .i64 0/\Hid (ZH M U c)/\Hid (b i c)) (fun _ _=>0)
    case atStart=>exact⟨rfl,P,T⟩
    case round =>
     obtain⟨rfl,e,m⟩:=hrel
     go_wp2
     exact⟨⟨i+1,oM,gM,e,Xa (ct.out _ m.out)⟩,by simp[intOf];omega⟩
   | true =>
    have s:w6.ownsRow N.heap.size 2 1 v6 1 [.int .i64 f]:=by
     have:=B;unfold writesI at this;rw[hu]at this;exact this
    obtain⟨h,n,x,gx,cf⟩:∃h n,v6=.slice (some ⟨h,0,none⟩) 1 n/\N.heap.size<=h/\w6.cell? ⟨h,0,none⟩=some (.int .i64 f):=by
     obtain⟨h,n,r,I,_⟩:=Xm s oM;subst r;exact⟨h,n,rfl,I.1,Jj s rfl⟩
    subst x;have cp:=Xa cf;have c8:=Xa (fun A s I=>v.out hu A s I);clear hu y B s v u cf
    go_wp2_with fail
    generalize wr=wv at *
    go_loopw [76] (fun j c=>(j=.int .i64 0/\Hid (ZH M U c)/\Hid (b i c)/\Hid (c.cell? ⟨h,0,none⟩=some (.int .i64 f)))\/(j=.int .i64 1/\Hid (ZH M U c)/\Hid (b (i+1) c))) (fun j _=>1-(intOf j).toNat)
    case atStart=>exact bC ⟨rfl,P,T,cp⟩
    case round =>
     rcases hrel with⟨rfl,e,m,HCx⟩ | ⟨rfl,e,m⟩
     ·have C:=e.cell gd.out cz.out
      have gt:=e.cell hG.out (sg.out (i+1) oM);have cx:=HCx.out;have g3:IntKind.i64.wrap ((i:Int)+1)=(i:Int)+1:=by rw[dF];omega
      have g0:0<=(i:Int)+1:=oM;have g1:(i:Int)+1<(a:Int)+1:=oM;have cl:=Xa (c8.out wr e.out m.out)
      go_wp2_with fail
      refine cl.mono ?_;rintro r w7 ⟨rfl,ch,ci⟩;have cq:=Xa (e.trans ch);have cr:=Xa ci;clear ch ci C gt cx
      go_wp2_with fail
      exact⟨aZ ⟨gM,cq,cr⟩,by simp[intOf]⟩
     ·go_wp2
      exact⟨⟨i+1,oM,gM,e,m⟩,by simp[intOf];omega⟩
  ·have gf:i=a:=oM
   subst gf
   go_wp2_with fail
   exact hN.out _ _ _ _ _ _ _ _ _ _ _ _ _ _ _ _ _ _ _ _ _ _ _ _ g.out S.out
section
structure EdS(V:Nat)(w6:World)(G m Kw z:Nat)(pre:List Sd)(U:World):Prop where
 os:U.os=w6.os
 tape:U.tape=w6.tape
 output:U.output=w6.output
 size:w6.heap.size<=U.heap.size
 fr:∀q,q<w6.heap.size->q≠G->U.heap[q]?=w6.heap[q]?
 zl:w6.heap.size<=z/\z<U.heap.size
 gl:G<w6.heap.size
 db:∃T:Nat->Value,U.rowIs G 45 m T/\∀i,i<m->(∀q∈pre,q.i≠i)\/∃q∈pre,q.i=i/\(XA q.W/\LtV V Kw q.W)/\∃zi ci,T i=.slice (some ⟨zi,0,none⟩) Kw ci/\(w6.heap.size<=zi/\zi≠z)/\WsAt U zi Kw ci q.W
section
variable {V : Nat} {w6 U U' U5 : World} {G m Kw z : Nat} {pre : List Sd}
theorem WsAt.cells{w:World}{g K C:Nat}{W:Nat->Nat}(h:WsAt w g K C W):∃o,w.heap[g]?=some o/\o.isCells=true:=by
 obtain⟨_,T,c,a,_⟩:=h;exact⟨_,a,rfl⟩
theorem EdS.row(h:EdS V w6 G m Kw z pre U){r:Nat}(u:w6.heap.size<=r)(k:U.grownBy U' (some r))(b:r=z\/∃o:Obj,U.heap[r]?=some o/\o.isCells=false):EdS V w6 G m Kw z pre U':=by
 obtain⟨T,c,i⟩:=h.db;have j:=h.gl;refine⟨k.os.trans h.os,k.tape.trans h.tape,k.output.trans h.output,aJ h.size k.size,fun q q1 q2=>(k.block q (oN h.size) (fun e=>by injection e with e;omega)).trans (h.fr q q1 q2),⟨h.zl.1,aX h.zl.2 k.size⟩,j,T,c.of_block (k.block G c.lt (fun e=>by injection e with e;omega)),fun n l=>?_⟩;rcases i n l with e | ⟨q,q1,q2,t,f,g,e1,e2,e3⟩
 ·exact bC e
 ·refine aZ ⟨q,q1,q2,t,f,g,e1,e2,e3.of_block (k.block f e3.lt (fun e=>?_))⟩
  injection e with e;rcases b with b | ⟨o,p,s⟩
  ·exact e2.2 (by rw[e];exact b)
  ·obtain⟨v,a,d⟩:=e3.cells
   rw[e,p]at a;injection a with a;subst a;rw[s]at d;cases d
theorem EdS.below(h:EdS V w6 G m Kw z pre U)(k:Below U.heap.size U U'):EdS V w6 G m Kw z pre U':=by
 obtain⟨T,a,d⟩:=h.db;refine⟨k.os.trans h.os,k.tape.trans h.tape,k.output.trans h.output,aJ h.size k.size,fun q q1 q2=>(k.block q (oN h.size)).trans (h.fr q q1 q2),⟨h.zl.1,aX h.zl.2 k.size⟩,h.gl,T,a.of_block (k.block G a.lt),fun i f=>?_⟩;rcases d i f with e | ⟨q,q1,q2,g,b,c,e1,e2,e3⟩
 ·exact bC e
 ·exact aZ ⟨q,q1,q2,g,b,c,e1,e2,e3.of_block (k.block b e3.lt)⟩
theorem EdS.turn(h:EdS V w6 G m Kw z pre U)(k:U.grownBy U' (some z)):EdS V w6 G m Kw z pre U':=h.row h.zl.1 k (bC rfl)
theorem EdS.own(V:Nat)(w6:World)(G m Kw z:Nat):OwnFrom w6.heap.size (EdS V w6 G m Kw z):=fun pre U U' row h k q=>by
 cases row with
 | none=>exact h.below ⟨k.os,k.tape,k.output,k.size,fun b f=>k.block b f (fun e=>by cases e)⟩
 | some r =>
  obtain⟨a,o,c,d⟩:=q r rfl;exact h.row a k (aZ ⟨o,c,d⟩)
theorem EdS.push(h:EdS V w6 G m Kw z pre U){s:Sd}(n:XA s.W/\LtV V Kw s.W)(p:Below U.heap.size U U5){b c:Nat}(u:U.heap.size<=b)(o:WsAt U5 b Kw c s.W):EdS V w6 G m Kw z (pre++[s]) (U5.setCell ⟨G,s.i,none⟩ (.slice (some ⟨b,0,none⟩) Kw c)):=by
 have a:=h.below p;obtain⟨T,g,j⟩:=a.db;have k:=h.gl;have t:=h.size;have v:=h.zl;refine⟨a.os,a.tape,a.output,by rw[Xd];exact a.size,fun q q1 q2=>(Below.heap_setCell _ _ _ _ q2).trans (a.fr q q1 q2),⟨a.zl.1,by rw[Xd];exact a.zl.2⟩,k,fun i=>if i=s.i then .slice (some ⟨b,0,none⟩) Kw c else T i,(g.set s.i _).congr (fun i _=>by by_cases e:i=s.i<;>simp[e]),fun i l=>?_⟩;by_cases e:i=s.i
 ·refine aZ ⟨s,sP,e.symm,n,b,c,by simp only[e,gG],⟨oM,oM⟩,o.setOther (by show b≠G;omega) _⟩
 ·rcases j i l with e1 | ⟨q,q1,q2,r,d,f,e1,e2,e3⟩
  ·refine bC (fun q hq=>?_)
   rcases bU.1 hq with hq | hq
   ·exact e1 q hq
   ·rw[cS.1 hq]
    exact fun e3=>e e3.symm
  ·exact aZ ⟨q,dD _ q1,q2,r,d,f,by simp only[e,fD];exact e1,e2,e3.setOther (by show d≠G;omega) _⟩
theorem EdS.cell(h:EdS V w6 G m Kw z pre U){b o:Nat}{v:Value}(c:b≠G)(a:w6.cell? ⟨b,o,none⟩=some v):U.cell? ⟨b,o,none⟩=some v:=(Xc (h.fr b (aI w6 _ a) c)).trans a
theorem EdS.done{a:List Xe}(B:Jy V a){k:Nat}(y:k<a.length){c:Nat->Nat}(x:V<=64*Kw)(hq:∀v,v<64*Kw->(Xh c v=true↔UV a v k)){s:List Sd}(p:s.map Sd.dat=TZ a[k].is.length c (plL a[k]))(h:EdS V w6 G (a[k].is.length+1) Kw z s U) :
 ∃(l n:Nat->Nat)(e:Nat->Nat->Nat),∀i,i<=a[k].is.length->U.cell? ⟨G,i,none⟩=some (.slice (some ⟨l i,0,none⟩) Kw (n i))/\w6.heap.size<=l i/\WsAt U (l i) Kw (n i) (e i)/\XA (e i)/\LtV V Kw (e i)/\lsN (e i) (64*Kw)=Uq a a[k] V k i:=by
 obtain⟨T,u,w⟩:=h.db;have g:∀i,∃b f d,i<=a[k].is.length->U.cell? ⟨G,i,none⟩=some (.slice (some ⟨b,0,none⟩) Kw f)/\w6.heap.size<=b/\WsAt U b Kw f d/\XA d/\LtV V Kw d/\lsN d (64*Kw)=Uq a a[k] V k i:=fun i=>by
  by_cases j:i<=a[k].is.length
  ·rcases w i oM with t | ⟨q,q1,q2,r,b,f,e1,e2,e3⟩
   ·obtain⟨W,o⟩:=BI a[k] c (i:=i) oM
    rw[<-p]at o;obtain⟨q,q1,q2⟩:=aY.1 o;exact absurd (fI Prod.fst q2) (t q q1)
   ·refine⟨b,f,q.W,fun _=>⟨by rw[u.cell oM,e1],e2.1,e3,r.1,r.2,?_⟩⟩
    have A:(i,q.W)∈TZ a[k].is.length c (plL a[k]):=by
     rw[<-p,<-q2];exact aY.2 ⟨q,q1,rfl⟩
    rw[rq B y x hq A]
  ·exact⟨0,0,fun _=>0,fun h=>absurd h j⟩
 refine⟨fun i=>Classical.choose (g i),fun i=>Classical.choose (gJ (g i)),fun i=>Classical.choose (gJ (gJ (g i))),fun i j=>gJ (gJ (gJ (g i))) j⟩
end
theorem qE{b:List Xe}{V:Nat}{a:List Nat}{k:Nat}(g:k<a.length)(d:a[k]<b.length):∃f,Ko b V a=Ko b V (a.take k)++(phS b V a[k] b[a[k]] b[a[k]].ps.length++VC b V a[k] b[a[k]] b[a[k]].is.length)++f:=by
 have e:a=a.take k++a[k]::a.drop (k+1):=by rw[mO,hH]
 refine⟨Ko b V (a.drop (k+1)),?_⟩;have c:skB b V a[k]=phS b V a[k] b[a[k]] b[a[k]].ps.length++VC b V a[k] b[a[k]] b[a[k]].is.length:=by
  unfold skB;rw[aC d]
 rw[<-c];unfold Ko
 conv=>lhs;rw[e]
 rw[eZ,jF,List.append_assoc]
theorem AP{xs:List Xe}{V b:Nat}{x:Xe}{i:Nat}(a:i<x.ps.length):∃r,phS xs V b x x.ps.length=phS xs V b x i++(x.ps[i].dst.toNat,Uq xs x V b 0)::r:=by
 refine⟨(x.ps.drop (i+1)).map fun p=>(p.dst.toNat,Uq xs x V b 0),?_⟩;have e:x.ps=x.ps.take i++x.ps[i]::x.ps.drop (i+1):=by rw[mO,hH]
 unfold phS;rw[gC]
 conv=>lhs;rw[e]
 rw[bG,eH]
theorem qK{xs:List Xe}{V b:Nat}{x:Xe}:∀(m i:Nat),∃r,VC xs V b x (i+m)=VC xs V b x i++r
 | 0,i=>⟨[],sP⟩
 | m+1,i=>by
  obtain⟨r,a⟩:=qK (xs:=xs) (V:=V) (b:=b) (x:=x) m i;rw[<-Nat.add_assoc,VC,a];exact⟨_,List.append_assoc _ _ _⟩
theorem B5{xs:List Xe}{V:Nat}{a:List Nat}{k:Nat}(d:k<a.length)(b:a[k]<xs.length){i:Nat}(c:i<xs[a[k]].ps.length):∃g,Ko xs V a=(Ko xs V (a.take k)++phS xs V a[k] xs[a[k]] i)++(xs[a[k]].ps[i].dst.toNat,Uq xs xs[a[k]] V a[k] 0)::g:=by
 obtain⟨e,e1⟩:=qE (V:=V) d b;obtain⟨f,e2⟩:=AP (xs:=xs) (V:=V) (b:=a[k]) c;rw[e1,e2];exact⟨f++VC xs V a[k] xs[a[k]] xs[a[k]].is.length++e,by simp[List.append_assoc]⟩
theorem Ci{xs:List Xe}{V:Nat}{a:List Nat}{k:Nat}(f:k<a.length)(b:a[k]<xs.length){i d:Nat}(e:i<xs[a[k]].is.length)(g:dB xs[a[k]].is[i].op=true)(c:xs[a[k]].is[i].dst=(d:Int)):∃l,Ko xs V a=(Ko xs V (a.take k)++phS xs V a[k] xs[a[k]] xs[a[k]].ps.length++VC xs V a[k] xs[a[k]] i)++(d,Uq xs xs[a[k]] V a[k] (i+1))::l:=by
 obtain⟨h,e1⟩:=qE (V:=V) f b;obtain⟨j,e2⟩:=qK (xs:=xs) (V:=V) (b:=a[k]) (x:=xs[a[k]]) (xs[a[k]].is.length-(i+1)) (i+1);rw[show i+1+(xs[a[k]].is.length-(i+1))=xs[a[k]].is.length by omega,pO e g c]at e2;rw[e1,e2];exact⟨j++h,by simp[List.append_assoc]⟩
theorem z8{xs:List Xe}{V:Nat}{a:List Nat}{k:Nat}(c:k<a.length)(b:a[k]<xs.length):Ko xs V (a.take (k+1))=Ko xs V (a.take k)++phS xs V a[k] xs[a[k]] xs[a[k]].ps.length++VC xs V a[k] xs[a[k]] xs[a[k]].is.length:=by
 rw[kJ,aC c];show Ko xs V (a.take k++[a[k]])=_;rw[px];unfold skB;rw[aC b,List.append_assoc]
end
section
attribute [local go_sem] Oper.semAt_some
structure EdO(w3 wr:World)(M:Nat->Prop)(J:List (Nat × List Nat)->World->Prop)(ss:List (Nat × List Nat))(ds:List Nat):Prop where
 fr:ZH M w3 wr
 j:J ss wr
 mks:ZJ wr w3.heap.size ds
theorem Ay(h:ZJ w n s)(k:ZH d w v)(b:∀q,d q->q<n):ZJ v n s :=
 ⟨h.nd,h.ge,fun D a=>(k.fr D (aS.1 (h.obj D a)).1 (fun e=>by have:=b D e;have:=h.ge D a;omega)).trans (h.obj D a)⟩
theorem xh(h:ZJ w n s)(b:n<=m)(c:m ∉ s)(d:w.heap[m]?=some (.deferred (some []))):ZJ w n (m::s) :=
 ⟨fL.2 ⟨c,h.nd⟩,fun k a=>by
  rcases cH.1 a with rfl | a
  ·exact b
  ·exact h.ge k a,fun k a=>by
  rcases cH.1 a with rfl | a
  ·exact d
  ·exact h.obj k a⟩
theorem l6{F:Fence}{n:Nat}{P:Program}{fn:Func}{R:Ending->World->Prop}{t t':Array Value}(b:results fn t=results fn t'):∀a:List Deferred,LeavesInM F n P fn t R a=LeavesInM F n P fn t' R a
 | []=>by
  funext u w;cases u<;>simp only[LeavesInM,LeavesIn,b]
 | d::a=>by
  have c:=l6 (F:=F) (n:=n) (P:=P) (R:=R) b a;funext u w;unfold LeavesInM;rw[c]
theorem BR(A:Act)(b:Nat->List Nat->(Nat->Value)->Act)(R:Nat->List Nat->Prop)(k:Nat)(a:List Nat)(e:k<=n)(d:A=b k a (fun i=>A.tmps.getD i undef))(c:R k a):∃(k:Nat)(a:List Nat)(f:Nat->Value),k<=n/\A=b k a f/\R k a:=⟨k,a,_,e,d,c⟩
theorem yO(V:Nat)(m:Option Addr)(n o:Nat)(c:List Xe)(T O:Nat)(w:World)(b9:List Int)(bp bo:Nat)(M:Nat->Prop)(Q:List (Nat × List Nat)->World->Prop)(ha:Hid (Xp w T O m c))(hx:Hid (n=c.length))(hs:Hid (c.length+Xx c<=1048576))(hB:O<=w.heap.size)(hO:Hid (Yy w))(hT:Hid (Yb w))(ef:Hid (Jn w))(hv:Hid (XJ ⟨(V:Int),c⟩=true))(C:Hid (Jy V c))(R:Hid (YX (X8 c) n b9))
 (cd:Hid (∀q,M q->q<w.heap.size)) (bf:Hid (∀q,T<=q->q<O->¬M q)) (ce:Hid (¬M 0/\¬M 1/\¬M 2))
 (hJ:Hid (∀ss A L,Q ss A->(∀q,q<w.heap.size->q<A.heap.size->L.heap[q]?=A.heap[q]?)->Q ss L))
 (cq:Hid (∀(bx:List (Nat × List Nat))(v:Nat)(bv:List Nat)(bw:List (Nat × List Nat))(A:World)(z a Cz:Nat)(W:Nat->Nat),Ko c V (XT b9 n 0)=bx++(v,bv)::bw->Q bx A->WsAt A z a Cz W->XA W->LtV V a W->a<=100->lsN W (64*a)=bv->Jn A->Calls prog 18 #[.int .i64 (v:Int),.agg #[.slice (some ⟨z,0,none⟩) a Cz],.pointer (some ⟨bp,0,none⟩),.pointer (some ⟨bo,0,none⟩)] A fun j L=>j=.returned (.tuple #[])/\ZH M A L/\Q (bx++[(v,bv)]) L))
 (h0:Hid (Q [] w)) :
 Calls prog 17 #[.agg #[.int .i64 (V:Int),.slice m n o],.func (.func 18) #[] #[.pointer (some ⟨bp,0,none⟩),.pointer (some ⟨bo,0,none⟩)]] w fun j F=>j=.returned (.tuple #[])/\ZH M w F/\Q (Ko c V (XT b9 n 0)) F:=by
 have hn:n<=1000:=oP hx.out C.okf.n2
 have b4:=Xa (fun W (x:Below w.heap.size w W)=>KO V m n o c T O W (Xa (ha.keep (x.mono hB))) hx (oN x.size) C (Xa (hO.keep x hO.1)) (Xa (hT.keep x hT.1)));have ct:=Xa (fun W (x:Below w.heap.size w W)=>sf (V:Int) m n o c T O W (Xa (ha.keep (x.mono hB))) hx hs (oN x.size) (Xa (hO.keep x hO.1).old) (Xa (hT.keep x hT.1).old) hv);obtain⟨a,ep⟩:∃q,q=(V+63) / 64:=⟨_,rfl⟩;simp only[<-ep]at b4;have hV:=C.vle;have cc:a<=100:=oM;have eg:V<=64*a:=oM;clear ep;refine(bM (n:=9)).1 ?_;refine callsIn_of_wp_marks func17 rfl trivial ?_ rfl;simp only[ntmps17,xY,Nat.reduceAdd,Nat.reduceSub]
 gi_wp2
 have cf:Below w.heap.size w (w.alloc (.cells #[.int .i64 (V:Int),.slice m n o] 25)):=Xb (Below.refl _ _) _;have es:w.heap.size<(w.alloc (.cells #[.int .i64 (V:Int),.slice m n o] 25)).heap.size:=sP;have k0:(w.alloc (.cells #[.int .i64 (V:Int),.slice m n o] 25)).cell? ⟨w.heap.size,0,none⟩=some (.int .i64 (V:Int)):=by simp[go_sem]
 have k1:(w.alloc (.cells #[.int .i64 (V:Int),.slice m n o] 25)).cell? ⟨w.heap.size,1,none⟩=some (.slice m n o):=by simp[go_sem]
 generalize w.alloc _=w0 at *;refine⟨trivial,(bM.2 (b4 _ cf)).mono ?_⟩;rintro j y ⟨Gi,G,gi,go,ci,WI,WX,rfl,hR⟩;have HR:=Xa hR;have bi:=hR.low;have ez:=bi.size;have g0:=oB bi k0 es;have g1:=oB bi k1 es;have cv:=Xa (Xg cf bi);have hf:w0.heap.size<=G/\G<y.heap.size:=⟨hR.b1.2,hR.so.row.lt⟩;have md:w.heap.size<y.heap.size:=oM;clear cf hR bi b4 k0 k1
 gi_wp2
 have Z:Below y.heap.size y (y.alloc (.cells #[.slice (some ⟨Gi,0,none⟩) n n,.slice (some ⟨G,0,none⟩) n n] 77)):=Xb (Below.refl _ _) _;have bt:(y.alloc (.cells #[.slice (some ⟨Gi,0,none⟩) n n,.slice (some ⟨G,0,none⟩) n n] 77)).heap.size=y.heap.size+1:=sP;have q1:(y.alloc (.cells #[.slice (some ⟨Gi,0,none⟩) n n,.slice (some ⟨G,0,none⟩) n n] 77)).cell? ⟨y.heap.size,1,none⟩=some (.slice (some ⟨G,0,none⟩) n n):=by simp[go_sem]
 generalize y.alloc _=w2 at *;have u1:=(XU Z oM).trans g1;have b3:=Xa (Xg cv Z);have b8:=Xa (fun b (x:b<n)=>(HR.so.set b x).of_block (Z.block _ (HR.so.set b x).lt));have b7:=Xa (HR.so.row.of_block (Z.block _ hf.2));refine⟨trivial,(bM.2 (ct _ b3)).mono ?_⟩;rintro j w3 ⟨U3,P3,a1,c1,a2,c2,a3,a4,c4,rfl,al,ed,d3⟩;have hg:=uX ed R;subst hg;have ml:=al.size;have P:=Xa (Xg b3 al);have b0:=Xa d3.o4;obtain⟨d,ba⟩:∃d,d=XT P3 n 0:=⟨_,rfl⟩;rw[<-ba]at b0 cq;rw[<-ba];have gt:Hid (∀ab∈d,ab<n):=Xa (by rw[ba];exact fun ab h8=>(by rw[hx.out];exact C.okf.re ab (Ji R n 0 ab (Re.root) h8).rb));have ht:d.length<=1000:=by
  have l:=qr R (fun ab h7=>by rw[hx.out];exact C.okf.re ab h7) n 0 Re.root;rw[ba];omega
 have gg:=Xa ba;obtain⟨I,hm⟩:∃I,I=d.length:=⟨_,rfl⟩;rw[<-hm]at ht;have HM:=Xa hm;have gf:Hid (∀k (h:k<d.length),w3.cell? ⟨a4,k,none⟩=some (.int .i64 ((d[k]:Nat):Int))/\w2.heap.size<=a4):=Xa (fun k h=>⟨Jj b0 (by simp[Je,h]),(b0.lt a4 rfl).1⟩);rw[<-hm];have v1:=(XU al oM).trans u1;have q3:=(XU al oM).trans q1;have du:=Xa (fun b (x:b<n)=>(b8 b x).of_block (al.block _ (b8 b x).lt));have gv:=Xa (b7.of_block (al.block _ b7.lt));have fb:=Xa (ha.keep (P.mono hB));have dd:=Xa (hJ.out _ _ _ h0 (fun q hq _=>P.block q hq));have l0:∀(A1 A2 A3 A4:Value)(W:World),(Instr.field 83 (.agg #[A1,A2,A3,A4]) 3).run prog W=.ok A4 W:=fun A1 A2 A3 A4 W=>vZ
 clear Z al d3 ba b0 u1 q1 g0 g1 ct b8 b7 hm ed cv b3 h0
 gi_wp2
 refine nH (fun a' wr=>∃(k:Nat)(ds:List Nat)(f:Nat->Value),k<=I/\a'=⟨#[.agg #[.int .i64 (V:Int),.slice m n o],.func (.func 18) #[] #[.pointer (some ⟨bp,0,none⟩),.pointer (some ⟨bo,0,none⟩)],.pointer (some ⟨w.heap.size,0,none⟩),undef,.pointer (some ⟨y.heap.size,0,none⟩),undef,f 6,f 7,f 8,f 9,f 10,undef,f 12,f 13,f 14,undef,f 16,.agg #[.int .i64 (V:Int),.slice m n o],.agg #[.slice (some ⟨Gi,0,none⟩) n n,.slice (some ⟨G,0,none⟩) n n],.agg #[.int .i64 (V:Int),.slice m n o],.agg #[.slice (some ⟨a1,0,none⟩) n c1,.slice (some ⟨a2,0,none⟩) n c2,.slice (some ⟨a3,0,none⟩) n n,.slice (some ⟨a4,0,none⟩) I c4],.slice (some ⟨a4,0,none⟩) I c4,.int .i64 (I:Int),.int .i64 (k:Int),f 24,f 25,f 26,f 27,f 28,f 29,f 30,f 31,f 32,f 33,f 34,f 35,f 36,f 37,f 38,f 39,f 40,f 41,f 42,f 43,f 44,f 45,f 46,f 47,f 48,f 49,f 50,f 51,f 52,f 53,f 54,f 55,f 56,f 57,f 58,f 59,f 60,f 61,f 62,f 63,f 64,f 65,f 66,f 67,f 68,f 69,f 70,f 71,f 72,f 73,f 74,f 75,f 76,f 77,f 78,f 79,f 80,f 81,f 82,f 83,f 84,f 85,f 86,f 87,f 88,f 89,f 90],mks ds⟩/\Hid (EdO w3 wr M Q (Ko c V (d.take k)) ds)) (fun a' _=>I-(intOf (a'.tmps.getD 23 undef)).toNat) ?_ ?_
 ·exact⟨0,[],fun _=>undef,aN _,rfl,Xa ⟨ZH.refl _ _,by simpa [Ko]using dd.out,⟨iU,fun _ h=>(by cases h),fun _ h=>(by cases h)⟩⟩⟩
 ·rintro a' wr ⟨k,ds,f,hk,rfl,g⟩
  clear dd;have mc:=g.fr.size;by_cases hr:k<I
  ·have bn:k<d.length:=by rw[<-HM.out];exact hr
   obtain⟨e4,h4⟩:=gf k bn;have ap:=gt _ (aH bn);have H:d[k]<c.length:=by rw[<-hx.out];exact ap
   have ax:∀q,w.heap.size<=q->¬M q:=fun q hq h=>by have:=cd q h;omega
   have S:=Xa ax;have f4:=g.fr.cell (ax a4 oM) e4;have f1:=g.fr.cell (ax w.heap.size (aA _)) v1;have fq:=g.fr.cell (ax y.heap.size oM) q3;have gq:=Xa (fun i e=>B5 (xs:=c) (V:=V) bn H (i:=i) e);have fx:=Xa (fun i he e hu hd=>Ci (xs:=c) (V:=V) bn H (i:=i) (d:=he) e hu hd);have ge:=Xa (z8 (xs:=c) (V:=V) bn H);have fe:=Xa (fun (w6 U':World)(fa z:Nat)(W0:Nat->Nat)(hq:∀v,v<64*a->(Xh W0 v=true↔UV c v d[k]))(ss:List Sd)(hs:ss.map Sd.dat=TZ c[d[k]].is.length W0 (plL c[d[k]]))(h:EdS V w6 fa (c[d[k]].is.length+1) a z ss U')=>h.done C H eg hq hs);have dj:=Xa (HR.lou C hx d[k] ap);have gc:Hid (LtV V a (WX d[k])):=Xa (fun ab l r=>((dj ab l).1 r).val C H);have g6:=Xa (HR.wx d[k]);have i1:=Xa (aH H);have gl:=Xa (jb C (aH H));have dk:=Xa (C.ops _ (aH H));have g3:=Xa (C.kind _ (aH H));have ad:=Xa (C.lens _ (aH H));have fi:=Xa (fun i (e:i<c[d[k]].ps.length)=>C.phd _ (aH H) _ (aH e));have g7:=Xa (fun i (e:i<c[d[k]].is.length) (hu:dB c[d[k]].is[i].op=true)=>C.wri _ (aH H) _ (aH e) c[d[k]].is[i].dst (by unfold writesI;rw[hu];simp));have cr:=g.fr.cell (ax G oM) (gv.cell ap);have dw:=Xa ((du d[k] ap).of_block (g.fr.fr _ (du d[k] ap).lt (ax _ (oN (HR.b2 d[k] ap)))));have ir:=Xa (HR.b2 d[k] ap).2;obtain⟨bb,oo,eb,ej,J,K,D,E,p0,p1,⟨t0,t1,t2,t3⟩,er,el⟩:=fb d[k] H;have a9:=bf bb ej.1 ej.2;have c0:=g.fr.cell a9 p0;have c5:=g.fr.cell a9 p1;have c6:=g.fr.cell a9 t0;have c7:=g.fr.cell a9 t1;have c8:=g.fr.cell a9 t2;have c9:=g.fr.cell a9 t3;have cl:YA T O w3 wr:=fun q q1 q2=>g.fr.fr q (oN P.size) (bf q q1 q2)
   have gp:=Xa (er.keepS cl);have fr:=Xa (el.keepS cl);generalize hX:c[d[k]]=X at *;have i2:=Xa hX;generalize lu:d[k]=b at *;clear p0 p1 t0 t1 t2 t3 er el cl e4 ax hX;subst eb;have l1:(k:Int)<(I:Int):=oM;have lv:(b:Int)<(n:Int):=oM;have hy:IntKind.i64.wrap ((X.is.length:Int)+1)=(X.is.length:Int)+1:=by have:=ad.1;rw[dF];omega
   have eq:=J9 (P:=prog) 75 45 (.agg #[.slice none 0 0]) 1 24 underlying75 Tryz.infoSetV (X.is.length+1) (oN ad.1) (oN ad.1);rw[show((X.is.length+1:Nat):Int)=(X.is.length:Int)+1 by omega]at eq
   gi_wp2
   rename_i K2 i0 K1 iv K0 di;have Z:Below wr.heap.size wr (((wr.alloc (.cells #[.slice J X.ps.length K,.slice D X.is.length E,.int .i64 X.te.kind,.int .i64 X.te.a,.int .i64 X.te.to,.int .i64 X.te.els] 90)).alloc (.cells (madeCells #[.slice none 0 0] (X.is.length+1)) 45)).alloc (.cells #[.slice (some ⟨wr.heap.size+1,0,none⟩) (X.is.length+1) (X.is.length+1)] 75)):=Xb (Xb (Xb (Below.refl _ _) _) _) _;have bt:(((wr.alloc (.cells #[.slice J X.ps.length K,.slice D X.is.length E,.int .i64 X.te.kind,.int .i64 X.te.a,.int .i64 X.te.to,.int .i64 X.te.els] 90)).alloc (.cells (madeCells #[.slice none 0 0] (X.is.length+1)) 45)).alloc (.cells #[.slice (some ⟨wr.heap.size+1,0,none⟩) (X.is.length+1) (X.is.length+1)] 75)).heap.size=wr.heap.size+3:=sP;have aq:∀q v,#[.slice J X.ps.length K,.slice D X.is.length E,.int .i64 X.te.kind,.int .i64 X.te.a,.int .i64 X.te.to,.int .i64 X.te.els][q]?=some v->(((wr.alloc (.cells #[.slice J X.ps.length K,.slice D X.is.length E,.int .i64 X.te.kind,.int .i64 X.te.a,.int .i64 X.te.to,.int .i64 X.te.els] 90)).alloc (.cells (madeCells #[.slice none 0 0] (X.is.length+1)) 45)).alloc (.cells #[.slice (some ⟨wr.heap.size+1,0,none⟩) (X.is.length+1) (X.is.length+1)] 75)).cell? ⟨wr.heap.size,q,none⟩=some v:=fun q v h=>by
    rw[bP _ _ ⟨wr.heap.size,q,none⟩ (by rw[aO,aO];show wr.heap.size<_;omega),bP _ _ ⟨wr.heap.size,q,none⟩ (by rw[aO];show wr.heap.size<_;omega),eC];exact h
   have ck:(((wr.alloc (.cells #[.slice J X.ps.length K,.slice D X.is.length E,.int .i64 X.te.kind,.int .i64 X.te.a,.int .i64 X.te.to,.int .i64 X.te.els] 90)).alloc (.cells (madeCells #[.slice none 0 0] (X.is.length+1)) 45)).alloc (.cells #[.slice (some ⟨wr.heap.size+1,0,none⟩) (X.is.length+1) (X.is.length+1)] 75)).rowIs (wr.heap.size+1) 45 (X.is.length+1) (fun _=>.slice none 0 0):=by
    have h:=dG (wr.alloc (.cells #[.slice J X.ps.length K,.slice D X.is.length E,.int .i64 X.te.kind,.int .i64 X.te.a,.int .i64 X.te.to,.int .i64 X.te.els] 90)) (.slice none 0 0) (X.is.length+1) 45;rw[aO]at h;exact h.of_block (Below.heap_alloc _ _ _ sP)
   have eu:(((wr.alloc (.cells #[.slice J X.ps.length K,.slice D X.is.length E,.int .i64 X.te.kind,.int .i64 X.te.a,.int .i64 X.te.to,.int .i64 X.te.els] 90)).alloc (.cells (madeCells #[.slice none 0 0] (X.is.length+1)) 45)).alloc (.cells #[.slice (some ⟨wr.heap.size+1,0,none⟩) (X.is.length+1) (X.is.length+1)] 75)).cell? ⟨wr.heap.size+1+1,0,none⟩=some (.slice (some ⟨wr.heap.size+1,0,none⟩) (X.is.length+1) (X.is.length+1)):=by simp[go_sem]
   generalize (((wr.alloc _).alloc _).alloc _)=wa at *;have x0:=aq 0 _ rfl;have x1:=aq 1 _ rfl;have x2:=aq 2 _ rfl;have x3:=aq 3 _ rfl;have x4:=aq 4 _ rfl;have x5:=aq 5 _ rfl;have sq:=oB Z fq (aI wr _ fq);have e9:=oB Z cr (aI wr _ cr);have lx:(b:Int)<(n:Int):=oM;clear eq hy aq fq cr f4 f1 c0 c5 c6 c7 c8 c9;refine Tc (fun F=>F.cell? ⟨wr.heap.size,0,none⟩=some (.slice J X.ps.length K)/\F.cell? ⟨wr.heap.size,1,none⟩=some (.slice D X.is.length E)/\F.cell? ⟨wr.heap.size,2,none⟩=some (.int .i64 X.te.kind)/\F.cell? ⟨wr.heap.size,3,none⟩=some (.int .i64 X.te.a)/\F.cell? ⟨wr.heap.size,4,none⟩=some (.int .i64 X.te.to)/\F.cell? ⟨wr.heap.size,5,none⟩=some (.int .i64 X.te.els)/\F.cell? ⟨y.heap.size,1,none⟩=some (.slice (some ⟨G,0,none⟩) n n)/\F.cell? ⟨G,b,none⟩=some (.slice (some ⟨go b,0,none⟩) a a)) (fun hHeld=>?_);refine Yi 0 ?_;refine Yi 1 ?_;refine Yi 2 ?_;refine Yi 3 ?_;refine Yi 4 ?_;refine Yi 5 ?_;refine Yc 6 (fun d1 hK=>?_);go_simp;have ch:Below wa.heap.size wa wa.drew:=(Below.refl _ _).drew;have e0:wa.drew.heap.size=wr.heap.size+3:=bt;generalize wa.drew=u at *;refine⟨trivial,(qp 8 _ _ _ _ _ _ (go b) a a u).mono ?_⟩;rintro j s ⟨rfl,bs⟩;have b2:=ch.trans ((show Below u.heap.size u s by rw[bs];exact Xb (Xb (Below.refl _ _) _) _).mono ch.size);have h9:s.heap.size=wr.heap.size+5:=by rw[bs];simp[e0]
   have ar:∀q v,#[.slice J X.ps.length K,.slice D X.is.length E,.int .i64 X.te.kind,.int .i64 X.te.a,.int .i64 X.te.to,.int .i64 X.te.els][q]?=some v->s.cell? ⟨u.heap.size,q,none⟩=some v:=fun q v h=>by
    rw[bs,bP _ _ ⟨u.heap.size,q,none⟩ (by rw[aO];show u.heap.size<_;omega),eC];exact h
   have ev:s.cell? ⟨u.heap.size+1,0,none⟩=some (.slice (some ⟨go b,0,none⟩) a a):=by rw[bs];simp[go_sem]
   have aa:=fun (b' q:Nat)(v:Value)(hc:wa.cell? ⟨b',q,none⟩=some v)=>oB b2 hc (aI wa _ hc)
   have z0:=aa _ _ _ x0;have z1:=aa _ _ _ x1;have z2:=aa _ _ _ x2;have z3:=aa _ _ _ x3;have z4:=aa _ _ _ x4;have z5:=aa _ _ _ x5;have zq:=aa _ _ _ sq;have zg:=aa _ _ _ e9;have et:=aa _ _ _ eu;have gx:=Xa (ck.of_block (b2.block _ ck.lt));have bm:=Xg Z b2;have ay:=Xa bm;have g4:=Xa (dw.of_block (bm.block _ dw.lt));have a5:=(ZH.of_below P).trans (g.fr.trans (ZH.of_below bm));have il:=Xa a5;have af:=Xa (fun (A:World)(h:ZH M w A)=>(⟨hO.of_block (h.fr _ hO.1 ce.1) h.size,hT.of_block (h.fr _ hT.1 ce.2.1) h.size,ef.of_block (h.fr _ (aI w _ (ef 0 vY)) ce.2.2)⟩:Yy A/\Yb A/\Jn A));have cp:YA T O wr s:=fun q q1 q2=>bm.block q (oN P.size)
   have dl:=Xa (gp.keepS cp);have dc:=Xa (fr.keepS cp);have g2:Hid (UI X T O u.heap.size s.heap.size s.heap.size s):=Xa ⟨(af _ a5).1,(af _ a5).2.1,⟨J,K,D,E,ar 0 _ rfl,ar 1 _ rfl,⟨ar 2 _ rfl,ar 3 _ rfl,ar 4 _ rfl,ar 5 _ rfl⟩,dl,dc⟩,oM,oN P.size,(af _ a5).1.1,(af _ a5).2.1.1,aA _⟩;have gz:=Xa ev;have dn:=Xa et;have ma:=P.size;have mx:wr.heap.size+3<=u.heap.size:=oM;have mz:u.heap.size<=wr.heap.size+3:=oM;have mr:wr.heap.size+5<=s.heap.size:=oM;have mw:s.heap.size<=wr.heap.size+5:=oM;clear bt e0 h9;refine hK _ _ ⟨z0,z1,z2,z3,z4,z5,zq,zg⟩ (fun hHeld=>?_);clear hK;refine ZV ?_;have g8:=Xa z0;have g9:=Xa z1;clear hHeld z0 z1 z2 z3 z4 z5 zq zg x0 x1 x2 x3 x4 x5 sq e9 eu et ev aa b2 ar bs ck Z ch a5 cp bm;apply di;clear di
   gi_wp2
   refine dv (F:=Fence.wide) (n:=9) rfl vY (gf:=90) (lb:=#[.pointer (some ⟨u.heap.size+1,0,none⟩),.pointer (some ⟨u.heap.size,0,none⟩)]) rfl trivial (enters_of func90 vZ rfl) (nO s.heap.size (u.heap.size+1) u.heap.size T O (go b) a a V (fun q=>q=wr.heap.size+1) X (WX b) s g2 gz g4 g6 cc eg (Xa ?m1) (Xa ?m2) (Xa ?m3) (Xa ?m4) (Xa ?m5) dk g3 ad.1 ad.2 gl gc) (fun z=>ii _ _ _ _ z) (fun h k=>h.trans k) (fun W bv e6 o' l r Y=>Zf.putObj W bv e6 o' oM r Y) (Below.refl _ _) (fun _ _=>rfl)
    (fun z=>EdS V s (wr.heap.size+1) (X.is.length+1) a z) (fun _ _ _=>False) (fun z=>EdS.own V s _ _ _ z) (fun _ _ _ _ _ h _ _=>h) (fun _ z m0 A L _ h aj=>h.turn aj) (fun h=>h.elim) ?start
    (fun z p a' U=>∃N:Nat,a'=⟨#[.agg #[.int .i64 (V:Int),.slice (some ⟨bb,oo,none⟩) n o],.func (.func 18) #[] #[.pointer (some ⟨bp,0,none⟩),.pointer (some ⟨bo,0,none⟩)],.pointer (some ⟨w.heap.size,0,none⟩),undef,.pointer (some ⟨y.heap.size,0,none⟩),undef,.int .i64 (b:Int),.pointer (some ⟨wr.heap.size,0,none⟩),.pointer (some ⟨wr.heap.size+1+1,0,none⟩),.int .i64 (p.i:Int),.pointer (some ⟨N,0,none⟩),undef,f 12,f 13,f 14,undef,f 16,.agg #[.int .i64 (V:Int),.slice (some ⟨bb,oo,none⟩) n o],.agg #[.slice (some ⟨Gi,0,none⟩) n n,.slice (some ⟨G,0,none⟩) n n],.agg #[.int .i64 (V:Int),.slice (some ⟨bb,oo,none⟩) n o],.agg #[.slice (some ⟨a1,0,none⟩) n c1,.slice (some ⟨a2,0,none⟩) n c2,.slice (some ⟨a3,0,none⟩) n n,.slice (some ⟨a4,0,none⟩) I c4],.slice (some ⟨a4,0,none⟩) I c4,.int .i64 (I:Int),.int .i64 (k:Int),.bool true,.pointer (some ⟨a4,k,none⟩),.int .i64 (b:Int),.pointer (some ⟨w.heap.size,1,none⟩),.slice (some ⟨bb,oo,none⟩) n o,.int .i64 (b:Int),.pointer (some ⟨bb,oo+b*6,none⟩),.agg #[.slice J X.ps.length K,.slice D X.is.length E,.int .i64 X.te.kind,.int .i64 X.te.a,.int .i64 X.te.to,.int .i64 X.te.els],.pointer (some ⟨wr.heap.size,1,none⟩),.slice D X.is.length E,.int .i64 (X.is.length:Int),.int .i64 ((X.is.length:Int)+1),.slice (some ⟨wr.heap.size+1,0,none⟩) (X.is.length+1) (X.is.length+1),.agg #[.slice J X.ps.length K,.slice D X.is.length E,.int .i64 X.te.kind,.int .i64 X.te.a,.int .i64 X.te.to,.int .i64 X.te.els],.pointer (some ⟨y.heap.size,1,none⟩),.slice (some ⟨G,0,none⟩) n n,.int .i64 (b:Int),.pointer (some ⟨G,b,none⟩),.agg #[.slice (some ⟨go b,0,none⟩) a a],.func (.func 90) #[] #[.pointer (some ⟨u.heap.size+1,0,none⟩),.pointer (some ⟨u.heap.size,0,none⟩)],.int .i64 (p.i:Int),.agg #[.slice (some ⟨z,0,none⟩) a p.C],f 46,f 47,f 48,f 49,f 50,f 51,f 52,f 53,f 54,f 55,f 56,f 57,f 58,f 59,f 60,f 61,f 62,f 63,f 64,f 65,f 66,f 67,f 68,f 69,f 70,f 71,f 72,f 73,f 74,f 75,f 76,f 77,f 78,f 79,f 80,f 81,f 82,f 83,f 84,f 85,f 86,f 87,f 88,f 89,f 90],[]⟩/\s.heap.size<=N/\U.cell? ⟨N,0,none⟩=some (.slice (some ⟨z,0,none⟩) a p.C)) ?ownA ?assign ?body ?done (fun _ _ _ _ _ _ h _=>h.elim)
   case m1=>intro q l r j;omega
   case m2=>intro j;omega
   case m3=>intro q l j;omega
   case m4=>intro j;have:=hO.1;omega
   case m5=>intro j;have:=hT.1;omega
   case start =>
    intro z U ez bt hU;exact⟨hU.os,hU.tape,hU.output,hU.size,fun q l _=>hU.block q l,⟨ez,bt⟩,oM,fun _=>.slice none 0 0,gx.of_block (hU.block _ oM),fun i _=>bC (fun q hq=>absurd hq eA)⟩
   case ownA =>
    rintro z p a' _ A U row ⟨N,j,l,r⟩ aj q;refine⟨N,j,l,(Xc (aj.block N (aI A _ r) (fun e2=>?_))).trans r⟩;obtain⟨ob,Y,h4⟩:=Yn r;obtain⟨_,o2,h5,h6⟩:=q N e2.symm;rw[show A.heap[N]?=some ob from Y]at h5;injection h5 with h5;subst h5;rw[h4]at h6;cases h6
   case assign =>
    intro l' z bx p U KK hz B R ec;have t:=Xa B;have b1:=Xa R;have gb:=Xa ec;clear B R ec;unfold kg
    gi_wp2
    have bl:Below U.heap.size U (U.alloc (.cells #[.slice (some ⟨z,0,none⟩) a p.C] 45)):=Xb (Below.refl _ _) _;exact gb _ _ ⟨bl.size,fun k e6 l _=>(bl.block k (aS.1 l).1).trans l⟩ (Zf.of_below bl t.size) (t.below bl) (l9 b1 bl) ⟨U.heap.size,rfl,t.size,by simp[go_sem]⟩
   case body =>
    rintro l' z bx p a' U hz l2 _ B R ⟨N,rfl,lz,ek⟩ l3;have t:=Xa B;have b1:=Xa R;have sb:=B.cell (b:=wr.heap.size+1+1) oM dn;have hw:p.i<X.is.length+1:=oN R.1.1
    have l4:(p.i:Int)<(X.is.length:Int)+1:=oM;have ib:=B.size;have cz:=Xa (Kk z a p.C p.W U.drew (Xa R.2.1.drew) oM);clear B R
    gi_wp2
    refine Tc (fun F=>F.cell? ⟨wr.heap.size+1+1,0,none⟩=some (.slice (some ⟨wr.heap.size+1,0,none⟩) (X.is.length+1) (X.is.length+1))/\F.cell? ⟨N,0,none⟩=some (.slice (some ⟨z,0,none⟩) a p.C)) (fun hHeld=>?_);refine Yi 0 ?_;refine Yi 1 ?_;refine Yi 2 ?_;refine Yc 3 (fun d1 hK=>?_);go_simp;refine⟨trivial,(CallsIn.inRound l' (bM.2 cz)).mono ?_⟩;rintro j U5 ⟨g5,C5,rfl,hh,a8,ey⟩;have a7:Below U.heap.size U U5:=⟨a8.os,a8.tape,a8.output,a8.size,a8.block⟩;have gs:=Xa (t.push (s:=p) ⟨b1.2.2,b1.1.2⟩ a7 hh ey);have cx:=Xa a7;have e8:=oB a7 sb (aI U _ sb);have d2:=oB a7 ek (aI U _ ek);have db:=Xa (t.below a7);obtain⟨T5,cj,_⟩:=db.db;have i3:=cj.cell hw;have lk:=cj.frozen p.i;clear a7 a8 ey cz cj;refine hK _ _ ⟨e8,d2⟩ (fun hHeld=>?_);clear hK;refine Yi 4 ?_;refine Yc 5 (fun d1 hK=>?_);go_simp;refine hK _ _ ⟨(bH U5 ⟨wr.heap.size+1,p.i,none⟩ ⟨wr.heap.size+1+1,0,none⟩ (.slice (some ⟨g5,0,none⟩) a C5) sP).trans e8,(bH U5 ⟨wr.heap.size+1,p.i,none⟩ ⟨N,0,none⟩ (.slice (some ⟨g5,0,none⟩) a C5) (by show wr.heap.size+1≠N;omega)).trans d2⟩ (fun hHeld=>?_);clear hK;refine ZV ?_;clear hHeld
    gi_wp2
    have em:Zf s.heap.size (fun q=>q=wr.heap.size+1) U (U5.setCell ⟨wr.heap.size+1,p.i,none⟩ (.slice (some ⟨g5,0,none⟩) a C5)):=(Zf.of_below cx ib).trans (Zg ⟨rfl,rfl,rfl,by simp[World.setCell],fun k _ hk=>Below.heap_setCell _ _ _ _ (fun j=>hk (by rw[j]))⟩ rfl db.size);refine⟨⟨em.size,fun q ob l r Y=>?_⟩,em,gs⟩;exact(Below.heap_setCell _ _ _ _ (by show q≠wr.heap.size+1;omega)).trans ((cx.block q (aS.1 r).1).trans r)
   case done =>
    rintro bz z ss U hD hz ee B ea;obtain⟨zs,cw,Ws,ei⟩:=fe s U (wr.heap.size+1) z (WX b) dj ss ee B;have ac:=Xa ei;have t:=Xa B;have b6:=Xa ea;have y0:=B.cell (b:=wr.heap.size) oM g8;have y1:=B.cell (b:=wr.heap.size) oM g9;have sb:=B.cell (b:=wr.heap.size+1+1) oM dn;have cb:ZH M wr U:=⟨t.os.trans ay.os,t.tape.trans ay.tape,t.output.trans ay.output,aJ ay.size t.size,fun q q1 _=>(t.fr q oM oM).trans (ay.block q q1)⟩;have fl:=Xa cb;have b5:=Xa ((ZH.of_below P).trans (g.fr.trans cb));have ga:=Xa (hJ.out _ _ _ g.j (fun q q1 q2=>(t.fr q oM oM).trans (ay.block q q2)));have gr:=Xa (dl.keepS (fun q q1 q2=>t.fr q oM oM));have fz:=Xa (dc.keepS (fun q q1 q2=>t.fr q oM oM));have d0:=Xa (fun (A:World)(h:ZH M U A)(i:Nat)(e:i<=X.is.length)=>(ac i e).2.2.1.of_block (h.fr _ (ac i e).2.2.1.lt (S _ (oN ((ac i e).2.1)))));have lr:=t.size;have gd:=Xa (show ∀q,M q->q<U.heap.size from fun q h=>by have:=cd q h;omega);have df:Hid (∀(aj:Nat->List (Nat × List Nat)) i A L,Q (aj i) A->Below A.heap.size A L->Q (aj i) L):=Xa (fun aj i A L h r=>hJ _ _ _ h (fun q _ q2=>r.block q q2));have hp:=ad.2;have hl:=ad.1;clear ei B ea ee cb
    gi_wp2
    refine wpIn_wide.2 (BT (wr.heap.size+1+1) (wr.heap.size+1) X.is.length a (zs 0) (cw 0) bp bo X.ps.length K J X.ps T O M (fun i A=>Q (Ko c V (d.take k)++phS c V b X i) A) U _ _ _ _ _ _ _ _ _ _ _ _ _ _ _ _ _ _ _ _ _ _ _ _ _ _ _ _ _ _ _ _ _ _ _ _ _ _ _ _ _ _ _ _ _ _ _ _ _ _ _ _ _ _ _ _ _ _ _ _ _ _ _ _ _ _ _ _ _ _ _ _ _ _ _ _ _ _ _ _ _ _ _ _ _ _ _ _ (Xa ?hq) gr (Xa rfl) hp bf (Xa (S.out _ oM)) (Xa (S.out _ oM)) gd sb (ac 0 (aN _)).1 (Xa (df.out _)) (Xa ?stp) (Xa ?st0) (Xa ?nx))
    case hq =>
     intro o m cs v w h;have l:LeavesInM Fence.wide 9 prog f17 (m.put (some cs) v).tmps _ (m.put (some cs) v).defers (.panicking o) w:=h;rw[l6 (t:=(m.put (some cs) v).tmps) (t':=m.tmps) (by simp[results,results17])]at l;exact l
    case stp =>
     intro i e A bc bd;obtain⟨bw,j⟩:=gq i e;have hd:=fi i e;obtain⟨_,_,_,h4,h5,h6⟩:=ac 0 (aN _);have br:=cq _ _ _ bw A (zs 0) a (cw 0) (Ws 0) j bd (d0 A bc 0 (aN _)) h4 h5 cc h6 (af A (b5.trans bc)).2.2;rw[fR hd.1]at br;refine br.mono ?_;rintro j L ⟨l,r,Y⟩;refine⟨l,r,?_⟩;rw[cK]at Y;rw[wW (d:=X.ps[i].dst.toNat) e (fR hd.1).symm];exact Y
    case st0 =>
     have:phS c V b X 0=[]:=by simp[phS]
     rw[this,fF];exact ga
    case nx =>
     intro i4 i5 i6 jj js j0 j1 j2 j3 ka kb kc A1 a0 d4;have az:=Xa a0;have f0:=Xa d4;have ih:=a0.cell (S wr.heap.size oM) y1;have e7:=a0.cell (S (wr.heap.size+1+1) oM) sb;have fs:=Xa (fz.keepS (fun q q1 q2=>a0.fr q oM (bf q q1 q2)));have lo:=a0.size;clear a0 d4 y0 y1 sb
     gi_wp2
     refine wpIn_wide.2 (BQ (wr.heap.size+1+1) (wr.heap.size+1) a bp bo X.is.length E zs cw D X.is T O M (fun i A=>Q (Ko c V (d.take k)++phS c V b X X.ps.length++VC c V b X i) A) A1 _ _ _ _ _ _ _ _ _ _ _ _ _ _ _ _ _ _ _ _ _ _ _ _ _ _ _ _ _ _ _ _ _ _ _ _ _ _ _ _ _ _ _ _ _ _ _ _ _ _ _ _ _ _ _ _ _ _ _ _ _ _ _ _ _ _ _ _ _ _ _ _ _ _ _ _ _ _ _ _ _ _ _ _ _ _ _ _ fs (Xa rfl) hl bf (Xa (S.out _ oM)) (Xa (S.out _ oM)) e7 (Xa (fun i e=>az.cell (S (wr.heap.size+1) oM) (ac i e).1)) dk (Xa (fun A h=>(af A (b5.trans (az.trans h))).1)) (Xa (df.out _)) (Xa ?stp) (Xa ?stn) (Xa ?st0) (Xa ?nx))
     case stp =>
      intro i e hu A bc bd;have hd:=g7 i e hu;obtain⟨bw,j⟩:=fx i X.is[i].dst.toNat e hu (fR hd.1).symm;obtain⟨_,_,_,h4,h5,h6⟩:=ac (i+1) e;have br:=cq _ _ _ bw A (zs (i+1)) a (cw (i+1)) (Ws (i+1)) j bd (d0 A (az.trans bc) (i+1) e) h4 h5 cc h6 (af A (b5.trans (az.trans bc))).2.2;rw[fR hd.1]at br;refine br.mono ?_;rintro j L ⟨l,r,Y⟩;refine⟨l,r,?_⟩;rw[cK]at Y;rw[pO (d:=X.is[i].dst.toNat) e hu (fR hd.1).symm];exact Y
     case stn =>
      intro i e hu A bd;rw[BE e hu];exact bd
     case st0 =>
      have:VC c V b X 0=[]:=by simp[VC]
      rw[this,fF];exact f0
     case nx =>
      intro kd kf kk kl kn ko kq ks kt ku kv kx kz k2 k3 k4 k5 k6 k7 k8 la lb lg A2 ca d5;have f7:=Xa d5;have da:=Xa (fl.trans (az.trans ca));have fc:=Xa ((ca.fr bz (oN ((aS.1 b6).1)) (S _ oM)).trans ((az.fr bz (aS.1 b6).1 (S _ oM)).trans b6));clear ca d5 ih e7
      gi_wp2
      refine⟨BR _ _ _ (k+1) (bz::ds) oM rfl (Xa ⟨g.fr.trans da,?_,?_⟩),?_⟩
      ·rw[ge.out]
       exact f7
      ·refine xh (Ay g.mks da (fun q h=>by have:=cd q h;omega)) oM (fun h=>?_) fc
       have:=(aS.1 (g.mks.obj bz h)).1;omega
      ·simp[intOf];omega
  ·have hj:k=I:=oM
   subst hj
   gi_wp2
   refine U4 ds wr g.mks g.fr.size (fun W' a6=>?_);refine⟨.tuple #[],by simp[results,results17,go_sem],rfl,?_,?_⟩
   ·have l8:=P.size
    have hF:=(ZH.of_below (M:=M) P).trans g.fr;exact⟨a6.os.trans hF.os,a6.tape.trans hF.tape,a6.output.trans hF.output,aJ hF.size a6.size,fun q q1 q2=>(a6.block q oM).trans (hF.fr q q1 q2)⟩
   ·have h:=g.j
    rw[HM.out,gC]at h;rw[<-gg.out];exact hJ _ _ _ h (fun q q1 _=>a6.block q (oN P.size))
end
end Go.Proofs.YtghnlncgiihhgaaGreatDoor
