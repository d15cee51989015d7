import Derived.Test.YtghnlncgiihhgaaGreatDoorED1
namespace Go.Proofs.YtghnlncgiihhgaaGreatDoor
set_option maxHeartbeats 4000000
set_option maxRecDepth 100000
open Go.RowKit Go.Proofs.Tryz Go.Shelf
variable{n m k B g i j c:Nat}{w v:World}
theorem zV(W:Nat->Nat)(K:Nat):0<cntN W K↔∃x,x<64*K/\Xh W x=true:=by
 unfold cntN;rw[nC];constructor
 ·rintro⟨x,a,b⟩;exact⟨x,bE.1 a,b⟩
 ·rintro⟨x,a,b⟩;exact⟨x,bE.2 a,b⟩
theorem wV(x y:Value)(W:World):(Instr.field 77 (.agg #[x,y]) 0).run prog W=.ok x W:=vZ
theorem Te(v:Int)(b:Option Addr)(n c:Nat)(a:List Xe)(L B:Nat)(w:World)(ha:Hid (Xp w L B b a))(f:Hid (n=a.length))(hs:Hid (a.length+Xx a<=1048576))(K:B<=w.heap.size)(t:Hid (Yy w))(u:Hid (Yb w)) :
 Calls prog 15 #[.agg #[.int .i64 v,.slice b n c]] w fun e w'=>e=.returned (.int .i64 (verdP v a))/\Below w.heap.size w w':=by
 have k:=Xa (fun W (y:Below w.heap.size w W)=>JK v b n c a L B W (Xa (ha.keep (y.mono K))) f hs (oN y.size) (Xa (t.keep y t.1).old) (Xa (u.keep y u.1).old));cases hv:XJ ⟨v,a⟩with
 | false =>
  rw[hv]at k;rw[Uh hv];clear hv
  go_in
  go_wp2_with fail
  refine(k _ (Xb (Below.refl _ _) _)).mono ?_;rintro e w1 ⟨rfl,g⟩;have D:=Xa (Xg (Xb (Below.refl w.heap.size w) _) g);clear g k
  go_wp2
  go_ret
  exact⟨rfl,D⟩
 | true =>
  rw[hv]at k;have H:=Xa hv;have ay:0<=v:=by
   simp only[XJ,Y6,bY,bD]at hv;omega
  obtain⟨V,rfl⟩:=bX ay;have d:=Xa (XH hv);have hn:n<=1000:=oP f.out d.okf.n2
  have q:0<n:=oP f.out d.okf.n1
  have a8:n<=64*((n+63) / 64):=oM;have a9:(n+63) / 64<=100:=oM;generalize az:verdP (V:Int) a=R;have I:=Xa az;clear hv ay az
  go_in
  go_wp2_with fail
  have M:Below w.heap.size w (w.alloc (.cells #[.int .i64 (V:Int),.slice b n c] 25)):=Xb (Below.refl _ _) _;have al:(w.alloc (.cells #[.int .i64 (V:Int),.slice b n c] 25)).cell? ⟨w.heap.size,0,none⟩=some (.int .i64 (V:Int)):=sP;have ap:(w.alloc (.cells #[.int .i64 (V:Int),.slice b n c] 25)).cell? ⟨w.heap.size,1,none⟩=some (.slice b n c):=sP;have C:w.heap.size<(w.alloc (.cells #[.int .i64 (V:Int),.slice b n c] 25)).heap.size:=sP;refine(k _ M).mono ?_;rintro e w1 ⟨rfl,g⟩;have D:=Xa (Xg M g);have g0:=oB g al C;have g1:=oB g ap C;have a0:=aX C g.size;clear g M al ap C k
  go_wp2_with fail
  refine(Ki (V:Int) b n c w1 hn).mono ?_;rintro e S ⟨J,gS,rfl,bl,bo,p,ax⟩;have j:=Xa (Xg D p);have ab:=Xa ax;have k0:=oB p g0 a0;have k1:=oB p g1 a0;have bq:=p.size;have a5:Hid (∀x∈a,∀a3∈x.te.tg,0<=a3/\a3<(n:Int)):=Xa (by rw[f.out];exact d.okf.tgt);have ac:=Xa (VY J gS S.heap.size ((n+63) / 64) n c b a L B f hn a8 a9 oM oM oM a5 n 0 (fun _=>0) (.slice none 0 0) [] S ab (Xa (ha.keep (j.mono K))) q (Xa (ZA _ _)) (Xa JW) (by simpa using ZA (fun _=>0) n));clear p ax g0 g1
  go_wp2_with fail
  refine ac.mono ?_;rintro e o ⟨rfl,v',i,ar⟩;have m:Below w.heap.size w o:=⟨i.os.trans j.os,i.tape.trans j.tape,i.output.trans j.output,aJ j.size i.size,fun a2 hq=>(i.block a2 oM oM oM (fun e=>by cases e)).trans (j.block a2 hq)⟩;have N:=i.block w.heap.size oM oM oM (fun e=>by cases e);have m0:=(Xc N).trans k0;have m1:=(Xc N).trans k1;have P:YW o J gS S.heap.size ((n+63) / 64) b n c (Zp a).1 v' (Zp a).2:=by
   unfold Zp;rw[<-f.out];exact ar
  obtain⟨q1,q2,q3,q4⟩:=d.okf.top;have E:=Xa (pm d.okf (F:=Ja a) q3 q1);have aq:(Ja a).length=(Zp a).2.length:=by unfold Ja;rw[jQ]
  have O:=P.own;rw[show Je (Zp a).2=(Xi (Zp a).2).map (Value.int .i64) by simp[Je,Xi]]at O;obtain⟨aL,cL,eL,_⟩:=Xk O;have s2:o.cell? ⟨J,2,none⟩=some (.slice aL (Ja a).length cL):=by
   have l:=P.c2;rw[eL,show(Xi (Zp a).2).length=(Ja a).length by rw[aq];simp[Xi]]at l;exact l
  have F:=Xa m;obtain⟨Q,r⟩:∃bc,bc=(Ja a).length:=⟨_,rfl⟩;rw[<-r]at s2;have bf:=Xa r;have bp:Q<=n:=by rw[r,f.out];exact E.1
  have U:Hid (Q=n↔Jq a):=Xa (by rw[r,f.out];exact E.2);have aa:=Xa (KO V b n c a L B o.drew (Xa (ha.keep (m.drew.mono K))) f (oN m.drew.size) d (Xa (t.keep m.drew t.1)) (Xa (u.keep m.drew u.1)));have br:w.heap.size<o.heap.size:=aI o _ m0;clear i ar P m N O eL aq r q1 q2 q3 q4 k0 k1 ac ab E;by_cases bb:Q<n
  ·have HR:Hid (R=10):=Xa (by rw[<-I.out];exact n9 H (fun l=>by have:=U.2 l;omega))
   go_wp2_with fail
   go_region
   go_wp2
   go_ret
   exact⟨by rw[HR.out];rfl,F.drew⟩
  ·have T:=Xa (U.1 oM)
   have bn:=fun x bd W=>wV x bd W
   go_wp2_with fail
   go_region
   go_wp2_with fail
   refine aa.mono ?_;rintro e w4 ⟨Gi,Go,gi,go,ci,s,WX,rfl,h⟩;have bi:=Xa h;have x0:=h.si.row.cell q;have hV:=d.vle;have Z:=Xa (Kl (gi 0) ((V+63) / 64) (ci 0) (s 0) w4 (Xa (h.wi 0)) (Xa (h.si.set 0 q)) oM);have bm:=TB (s 0) ((V+63) / 64);have a4:=Xa (F.drew.trans (h.low.mono F.drew.size));have Y:Hid (0<cntN (s 0) ((V+63) / 64)↔∃x,Bad a x):=Xa (by
    obtain⟨a6,a7,W0,a1,h1,h2,h3,h4,h5,_⟩:=h.inn;have af:∀{x:Nat},Sp a6 a7 (·∈a1) (X8 a) 0 x↔Bad a x:=fun {x}=>Aq d h1 h2 h3 (ord:=(·∈a1)) h4 (src:=X8 a) (fun _ _=>rfl)
    rw[zV];constructor
    ·rintro⟨x,z,A⟩
     exact⟨x,af.1 ((h5 0 q x z).1 A)⟩
    ·rintro⟨x,z⟩
     have bb:=qV d z;have A:x<64*((V+63) / 64):=oM;exact⟨x,A,(h5 0 q x A).2 (af.2 z)⟩)
   clear h aa;generalize ba:cntN (s 0) ((V+63) / 64)=cc at *;clear ba;generalize (V+63) / 64=K4 at *
   go_wp2_with fail
   refine Z.mono ?_;rintro e w5 ⟨rfl,ad⟩;have X:=Xa (Xg a4 ad);clear ad Z x0;by_cases aj:0<cc
   ·have G:Hid (R=11):=Xa (by rw[<-I.out];exact gw H T (Y.1 aj))
    go_wp2
    go_ret
    exact⟨by rw[G.out];rfl,X⟩
   ·have G:Hid (R=0):=Xa (by rw[<-I.out];exact pj H T (fun l=>aj (Y.2 l)))
    go_wp2
    go_ret
    exact⟨by rw[G.out];rfl,X⟩
theorem CoM.same{go:Nat}{C:Nat->Int}(h:CoM n m k go B g i j C w)(u:k<c/\go<c/\B<c/\g<c/\i<c/\j<c)(a:∀q,q<c->q<w.heap.size->v.heap[q]?=w.heap[q]?):CoM n m k go B g i j C v:=by
 obtain⟨l,o,p,r,s,t⟩:=u;have d:∀{b:Nat}{f:Value},b<c->w.cell? ⟨b,0,none⟩=some f->v.cell? ⟨b,0,none⟩=some f:=fun x e=>(bZ (a _ x (aI w _ e))).trans e
 exact⟨h.row.of_block (a _ l h.row.lt),h.out.of_block (a _ o h.out.lt),h.box.of_block (a _ p h.box.lt),d r h.pick,d s h.cc,d t h.cv,h.rng,h.n1,h.n2,h.n3,h.n4,h.n5⟩
theorem th(V:Nat)(e:Option Addr)(n f:Nat)(c:List Xe)(M B:Nat)(w:World)(P:List Int)(ha:Hid (Xp w M B e c))(D:Hid (n=c.length))(hs:Hid (c.length+Xx c<=1048576))(hB:B<=w.heap.size)(x:Hid (Yy w))(y:Hid (Yb w))(S:Hid (Jn w))(hv:Hid (verdP (V:Int) c=0))(hP:Hid (YX (X8 c) n P)) :
 Calls prog 5 #[.agg #[.int .i64 (V:Int),.slice e n f]] w fun g w'=>∃N,g=.returned (.agg #[.int .i64 0,.slice (some ⟨N,0,none⟩) V V,.int .i64 (ckN (Kq (fun _=>-1) (Ko c V (XT P n 0))) V)])/\Below w.heap.size w w'/\w.heap.size<=N/\IaAt w' N V V (Kq (fun _=>-1) (Ko c V (XT P n 0))):=by
 obtain⟨C,ay⟩:=TX hv.out;have ho:=XH C;have K:Hid (de V (Ko c V (XT P n 0))):=Xa (by
  have O:=hP.out;rw[D.out]at O;have:=qG C ay O;rw[D.out];exact this)
 have hV:=ho.vle;have L:=Xa (fun W (A:Below w.heap.size w W)=>Te (V:Int) e n f c M B W (Xa (ha.keep (A.mono hB))) D hs (oN A.size) (Xa (x.keep A x.1)) (Xa (y.keep A y.1)));rw[hv.out]at L;have bb:=fM (P:=prog) 27 2 (.int .i64 0) 8 underlying27 Tryz.info2' rfl .i64 .i64 V oM oM;have a5:=Xa C;have a4:=Xa ho;clear C ho ay
 go_in
 go_wp2_with fail
 have T:Below w.heap.size w ((w.alloc (.cells #[.int .i64 (V:Int),.slice e n f] 25)).alloc (.cells #[.int .i64 0,.slice none 0 0,.int .i64 0] 29)):=Xb (Xb (Below.refl _ _) _) _;have cd:w.heap.size+2<=((w.alloc (.cells #[.int .i64 (V:Int),.slice e n f] 25)).alloc (.cells #[.int .i64 0,.slice none 0 0,.int .i64 0] 29)).heap.size:=sP;have c0:((w.alloc (.cells #[.int .i64 (V:Int),.slice e n f] 25)).alloc (.cells #[.int .i64 0,.slice none 0 0,.int .i64 0] 29)).cell? ⟨w.heap.size,0,none⟩=some (.int .i64 (V:Int)):=by simp[go_sem]
 have c1:((w.alloc (.cells #[.int .i64 (V:Int),.slice e n f] 25)).alloc (.cells #[.int .i64 0,.slice none 0 0,.int .i64 0] 29)).cell? ⟨w.heap.size,1,none⟩=some (.slice e n f):=by simp[go_sem]
 have ap:Hid (((w.alloc (.cells #[.int .i64 (V:Int),.slice e n f] 25)).alloc (.cells #[.int .i64 0,.slice none 0 0,.int .i64 0] 29)).heap[w.heap.size+1]?=some (.cells #[.int .i64 0,.slice none 0 0,.int .i64 0] 29)):=Xa (by
  have:=World.alloc_heap_new (w.alloc (.cells #[.int .i64 (V:Int),.slice e n f] 25)) (.cells #[.int .i64 0,.slice none 0 0,.int .i64 0] 29);rwa[aO]at this)
 generalize (w.alloc _).alloc _=w0 at *;refine(L.out _ T).mono ?_;rintro g a ⟨rfl,o⟩;have ce:=o.size;have cb:w.heap.size<a.heap.size:=oM;have k0:=(XU o oM).trans c0;have k1:=(XU o oM).trans c1;have F:=Xa (Xg T o);have aq:=Xa ((o.block _ oM).trans ap.out);clear T o c0 c1 L ap
 go_wp2_with fail
 have p:Below a.heap.size a ((a.alloc (.cells (madeCells #[.int .i64 0] V) 2)).alloc (.cells #[.int .i64 0,.slice (some ⟨a.heap.size,0,none⟩) V V,.int .i64 0] 29)):=Xb (Xb (Below.refl _ _) _) _;have bq:a.heap.size+2<=((a.alloc (.cells (madeCells #[.int .i64 0] V) 2)).alloc (.cells #[.int .i64 0,.slice (some ⟨a.heap.size,0,none⟩) V V,.int .i64 0] 29)).heap.size:=sP;have br:((a.alloc (.cells (madeCells #[.int .i64 0] V) 2)).alloc (.cells #[.int .i64 0,.slice (some ⟨a.heap.size,0,none⟩) V V,.int .i64 0] 29)).heap.size<=a.heap.size+2:=sP;have J:Hid (((a.alloc (.cells (madeCells #[.int .i64 0] V) 2)).alloc (.cells #[.int .i64 0,.slice (some ⟨a.heap.size,0,none⟩) V V,.int .i64 0] 29)).rowIs a.heap.size 2 V (fun _=>.int .i64 0)):=Xa ((dG a (.int .i64 0) V 2).alloc _);have I:Hid (((a.alloc (.cells (madeCells #[.int .i64 0] V) 2)).alloc (.cells #[.int .i64 0,.slice (some ⟨a.heap.size,0,none⟩) V V,.int .i64 0] 29)).rowIs (a.heap.size+1) 29 3 (trG (.int .i64 0) (.slice (some ⟨a.heap.size,0,none⟩) V V) (.int .i64 0))):=Xa (by
  have h:=eK (a.alloc (.cells (madeCells #[.int .i64 0] V) 2)) #[.int .i64 0,.slice (some ⟨a.heap.size,0,none⟩) V V,.int .i64 0] 29 (trG (.int .i64 0) (.slice (some ⟨a.heap.size,0,none⟩) V V) (.int .i64 0)) (fun i q=>by match i,q with | 0,_=>rfl | 1,_=>rfl | 2,_=>rfl)
  rw[aO]at h;exact h)
 generalize ((a.alloc _).alloc _)=w2 at *;have ch:=F.size;obtain⟨go,Z⟩:∃go,go=a.heap.size:=⟨_,rfl⟩;rw[<-Z]at p bq br J I;rw[<-Z];have b8:a.heap.size<=go:=oM;have b9:go<=a.heap.size:=oM;have m0:=(XU p oM).trans k0;have m1:=(XU p oM).trans k1;have ar:=Xa ((p.block _ oM).trans aq.out);have af:=Xa (F.trans (p.mono oM));clear bb p k0 k1 Z F aq;refine(tf V w2 hV).mono ?_;rintro g b ⟨k,l,z,rfl,m,ca,b6,b7,bd,bf,aa,X,Y⟩;have cf:=m.size;have aj:=Xa (Xg af.out m);have p0:=(XU m oM).trans m0;have p1:=(XU m oM).trans m1;have ax:=Xa ((m.block _ oM).trans ar.out);have l1:=aa.lt;have l2:k<b.heap.size:=aI b _ X;have l3:l<b.heap.size:=aI b _ Y;have al:Hid (CoM V V z go (go+1) b.heap.size k l (fun _=>-1) (b.alloc (.cells #[.func (.func 37) #[] #[.pointer (some ⟨k,0,none⟩),.pointer (some ⟨l,0,none⟩)]] 39))):=Xa (by
  refine⟨aa.alloc _,?_,?_,by simp[go_sem],(bP _ _ _ l2).trans X,(bP _ _ _ l3).trans Y,fun u _=>bC rfl,oM,⟨oM,oM⟩,⟨oM,oM,oM⟩,⟨bd,oM,oM⟩,⟨bf,oM,oM⟩⟩
  ·exact IaAt.of_row (((J.of_block (m.block _ oM)).alloc _).congr (fun i _=>sP))
  ·exact((I.of_block (m.block _ oM)).alloc _).congr (fun i q=>by rw[nR]))
 have U:Below b.heap.size b (b.alloc (.cells #[.func (.func 37) #[] #[.pointer (some ⟨k,0,none⟩),.pointer (some ⟨l,0,none⟩)]] 39)):=Xb (Below.refl _ _) _;have d:=Xa (Xg aj.out U);have ci:b.heap.size<(b.alloc (.cells #[.func (.func 37) #[] #[.pointer (some ⟨k,0,none⟩),.pointer (some ⟨l,0,none⟩)]] 39)).heap.size:=sP;have a7:=Xa ((U.block _ oM).trans ax.out);have cc:w.heap.size<b.heap.size:=oM;have bn:=fun (W:World)=>run_store prog W ⟨b.heap.size,0,none⟩ (.func (.func 37) #[] #[.pointer (some ⟨k,0,none⟩),.pointer (some ⟨l,0,none⟩)]) .plain rfl
 clear m aa X Y J I m0 m1 ar ax af aj U
 go_wp2_with fail
 generalize (b.alloc _)=w4 at *;have G:=Xa (yO V e n f c M B w4 P b.heap.size (go+1) (CoS z go (go+1)) (fun ss a8=>CoM V V z go (go+1) b.heap.size k l (Kq (fun _=>-1) ss) a8) (Xa (ha.keep (d.mono hB))) D hs (oN d.size) (Xa (x.keep d.out x.1)) (Xa (y.keep d.out y.1)) (Xa (S.of_block (d.block _ (aI w _ (S.out 0 vY))))) a5 a4 hP
  (Xa (fun b3 h=>by rcases h with h | h | h<;>omega)) (Xa (fun b3 O h2 h=>by rcases h with h | h | h<;>omega)) (Xa (by
   have t1:=x.1;have t2:=y.1;have t3:(2 : Nat)<w.heap.size:=aI w _ (S.out 0 vY);exact⟨fun h=>by rcases h with h | h | h<;>omega,fun h=>by rcases h with h | h | h<;>omega,fun h=>by rcases h with h | h | h<;>omega⟩))
  (Xa (fun ss ac A' h bs=>h.same ⟨oM,oM,oM,oM,oM,oM⟩ bs))
  (Xa (fun a0 ab az bz ac b5 Kw Cz W g hC hz hd hl hk ba bo=>by
   have bp:=K.lt (ab,az) (by rw[g];simp);have bi:=TE a0 (fun _=>-1) (fun b4 ht=>K.nd a0 (ab,az) bz g b4 ht);refine(y7 ab V b5 Kw Cz V z go (go+1) b.heap.size k l W _ ac (Xa hz) (Xa hd) (Xa bo) hk (Xa hl) hV (Xa hC) bp (Xa bi)).mono ?_;rintro e2 A' ⟨q1,q2,q3⟩;refine⟨q1,q2,?_⟩;rw[wu,<-ba];exact q3)) (Xa (by simpa [Kq]using al.out)))
 have ad:Hid (∀u,u<V->0<=Kq (fun _=>-1) (Ko c V (XT P n 0)) u):=Xa (fun u hu=>UP _ _ (aZ (K.all u hu)));obtain⟨j,Q⟩:∃j,j=Kq (fun _=>-1) (Ko c V (XT P n 0)):=⟨_,rfl⟩;simp only[<-Q]at G ad;have a3:=Xa Q;clear Q;clear al bn;refine G.mono ?_;rintro g r ⟨rfl,R,v⟩;have a2:=Xa v;have s:=Xa R;have b0:=v.box.cell (i:=0) vY;have b1:=v.box.cell (i:=1) vY;have b2:=v.box.cell (i:=2) vY;simp only[trG]at b0 b1 b2;have t:Hid (r.rowIs (w.heap.size+1) 29 3 (trG (.int .i64 0) (.slice none 0 0) (.int .i64 0))):=Xa ⟨_,(R.fr _ oM (fun h=>by rcases h with h | h | h<;>omega)).trans a7.out,rfl,fun i q=>by match i,q with | 0,_=>rfl | 1,_=>rfl | 2,_=>rfl⟩
 clear v R G p0 p1;have bt:=t.cell (i:=0) vY;have bw:=t.cell (i:=1) vY;have bx:=t.cell (i:=2) vY;have lz:=t.frozen;have bm:∀(W:World)(i E:Nat)(u:Value),i≠E->(W.setCell ⟨w.heap.size+1,i,none⟩ u).cell? ⟨w.heap.size+1,E,none⟩=W.cell? ⟨w.heap.size+1,E,none⟩:=fun W i E u h=>cJ _ _ _ _ (fun g=>h (fI Addr.off g))
 go_wp2_with fail
 clear bt bw bx lz bm b0 b1 b2;have H:Hid ((((r.setCell ⟨w.heap.size+1,0,none⟩ (.int .i64 0)).setCell ⟨w.heap.size+1,1,none⟩ (.slice (some ⟨go,0,none⟩) V V)).setCell ⟨w.heap.size+1,2,none⟩ (.int .i64 (ckN j V))).rowIs (w.heap.size+1) 29 3 (trG (.int .i64 0) (.slice (some ⟨go,0,none⟩) V V) (.int .i64 (ckN j V)))):=Xa ((((t.set 0 _).set 1 _).set 2 _).congr (fun i q=>by match i,q with | 0,_=>rfl | 1,_=>rfl | 2,_=>rfl))
 have a9:Below w.heap.size w r:=⟨s.os.trans d.os,s.tape.trans d.tape,s.output.trans d.output,aJ d.size s.size,fun q' bl=>(s.fr q' (oN d.size) (fun h=>by rcases h with h | h | h<;>omega)).trans (d.block q' bl)⟩;have a1:Hid (Below w.heap.size w (((r.setCell ⟨w.heap.size+1,0,none⟩ (.int .i64 0)).setCell ⟨w.heap.size+1,1,none⟩ (.slice (some ⟨go,0,none⟩) V V)).setCell ⟨w.heap.size+1,2,none⟩ (.int .i64 (ckN j V)))):=Xa (((a9.setCell (gX _) _).setCell (gX _) _).setCell (gX _) _);have a6:Hid (IaAt (((r.setCell ⟨w.heap.size+1,0,none⟩ (.int .i64 0)).setCell ⟨w.heap.size+1,1,none⟩ (.slice (some ⟨go,0,none⟩) V V)).setCell ⟨w.heap.size+1,2,none⟩ (.int .i64 (ckN j V))) go V V j):=Xa ((((a2.out.out.setOther (by show go≠w.heap.size+1;omega) _).setOther (by show go≠w.heap.size+1;omega) _).setOther (by show go≠w.heap.size+1;omega) _).congr (fun u hu=>by
  have:=ad.out u hu;rw[aM oM]))
 generalize (((r.setCell _ _).setCell _ _).setCell _ _)=w9 at *;have r0:=H.cell (i:=0) vY;have r1:=H.cell (i:=1) vY;have r2:=H.cell (i:=2) vY;simp only[trG]at r0 r1 r2;refine cC (v:=.agg #[.int .i64 0,.slice (some ⟨go,0,none⟩) V V,.int .i64 (ckN j V)]) (by simp[results,results5,go_sem,r0,r1,r2]) rfl ?_;rw[<-a3.out];exact⟨go,rfl,a1.out,oM,a6.out⟩
theorem uL(v:Int)(b:Option Addr)(n c:Nat)(a:List Xe)(L B:Nat)(w:World)(ha:Hid (Xp w L B b a))(G:Hid (n=a.length))(D:Hid (a.length+Xx a<=1048576))(C:B<=w.heap.size)(q:Hid (Yy w))(r:Hid (Yb w))(F:verdP v a≠0) :
 Calls prog 5 #[.agg #[.int .i64 v,.slice b n c]] w fun e M=>e=.returned (.agg #[.int .i64 (verdP v a),.slice none 0 0,.int .i64 0])/\Below w.heap.size w M:=by
 have p:=Xa (fun W (f:Below w.heap.size w W)=>Te v b n c a L B W (Xa (ha.keep (f.mono C))) G D (oN f.size) (Xa (q.keep f q.1)) (Xa (r.keep f r.1)));have N:(verdP v a==0)=false:=by simpa using F
 generalize verdP v a=V at *
 go_in
 go_wp2_with fail
 have k:Below w.heap.size w ((w.alloc (.cells #[.int .i64 v,.slice b n c] 25)).alloc (.cells #[.int .i64 0,.slice none 0 0,.int .i64 0] 29)):=Xb (Xb (Below.refl _ _) _) _;have O:w.heap.size+2<=((w.alloc (.cells #[.int .i64 v,.slice b n c] 25)).alloc (.cells #[.int .i64 0,.slice none 0 0,.int .i64 0] 29)).heap.size:=sP;have o:Hid (((w.alloc (.cells #[.int .i64 v,.slice b n c] 25)).alloc (.cells #[.int .i64 0,.slice none 0 0,.int .i64 0] 29)).heap[w.heap.size+1]?=some (.cells #[.int .i64 0,.slice none 0 0,.int .i64 0] 29)):=Xa (by
  have:=World.alloc_heap_new (w.alloc (.cells #[.int .i64 v,.slice b n c] 25)) (.cells #[.int .i64 0,.slice none 0 0,.int .i64 0] 29);rwa[aO]at this)
 generalize (w.alloc _).alloc _=P at *;refine(p.out _ k).mono ?_;rintro e g ⟨rfl,l⟩;have y:=Xa (Xg k l);have d:Hid (g.rowIs (w.heap.size+1) 29 3 (trG (.int .i64 0) (.slice none 0 0) (.int .i64 0))):=Xa ⟨_,(l.block _ oM).trans o.out,rfl,fun i m=>by match i,m with | 0,_=>rfl | 1,_=>rfl | 2,_=>rfl⟩
 clear k l p o;have H:=d.cell (i:=0) vY;have I:=d.cell (i:=1) vY;have J:=d.cell (i:=2) vY;have K:=d.frozen;have E:∀(W:World)(i j:Nat)(x:Value),i≠j->(W.setCell ⟨w.heap.size+1,i,none⟩ x).cell? ⟨w.heap.size+1,j,none⟩=W.cell? ⟨w.heap.size+1,j,none⟩:=fun W i j x A=>cJ _ _ _ _ (fun e=>A (fI Addr.off e))
 go_wp2_with fail
 clear H I J K E;have h:Hid ((((g.setCell ⟨w.heap.size+1,0,none⟩ (.int .i64 V)).setCell ⟨w.heap.size+1,1,none⟩ (.slice none 0 0)).setCell ⟨w.heap.size+1,2,none⟩ (.int .i64 0)).rowIs (w.heap.size+1) 29 3 (trG (.int .i64 V) (.slice none 0 0) (.int .i64 0))):=Xa ((((d.set 0 _).set 1 _).set 2 _).congr (fun i m=>by match i,m with | 0,_=>rfl | 1,_=>rfl | 2,_=>rfl))
 have z:Hid (Below w.heap.size w (((g.setCell ⟨w.heap.size+1,0,none⟩ (.int .i64 V)).setCell ⟨w.heap.size+1,1,none⟩ (.slice none 0 0)).setCell ⟨w.heap.size+1,2,none⟩ (.int .i64 0))):=Xa (((y.setCell (gX _) _).setCell (gX _) _).setCell (gX _) _);generalize (((g.setCell _ _).setCell _ _).setCell _ _)=Q at *;have s:=h.cell (i:=0) vY;have t:=h.cell (i:=1) vY;have u:=h.cell (i:=2) vY;simp only[trG]at s t u;exact cC (v:=.agg #[.int .i64 V,.slice none 0 0,.int .i64 0]) (by simp[results,results5,go_sem,s,t,u]) rfl ⟨rfl,z.out⟩
section
attribute [local go_sem] Oper.semAt_some
theorem ZC{F:Fence}{n:Nat}{P:Program}{fn:Func}{tmps:Array Value}{R:Ending->World->Prop}{W:World}(h:∃v,(results fn tmps).run P W=.ok v W/\R (.returned v) W):LeavesInM F n P fn tmps R [] .returning W:=h
theorem uw{v:Int}{a:List Xe}(h:verdP v a=0):XJ ⟨v,a⟩=true:=by
 cases hv:XJ ⟨v,a⟩with
 | true=>rfl
 | false=>rw[Uh hv]at h;exact absurd h vY
def okK(cs:List Int)(k:Int)(q:Nat):Prop:=∀i (h:i<cs.length),i<q->0<=cs[i]/\cs[i]<k
theorem yx(cs:List Int)(k:Int):okK cs k 0:=fun i _ h=>absurd h oM
theorem ye{cs:List Int}{k:Int}{q:Nat}(h:okK cs k q)(hq:q<cs.length)(a:0<=cs[q]/\cs[q]<k):okK cs k (q+1):=fun i b c=>by
 by_cases e:i=q
 ·subst e;exact a
 ·exact h i b oM
theorem Ab{cs:List Int}{k:Int}(h:okK cs k cs.length):∀c∈cs,0<=c/\c<k:=fun c b=>by
 obtain⟨i,a,rfl⟩:=bR b;exact h i a a
theorem vn{v:Int}{xs:List Xe}{cs:List Int}{k:Int}{q:Nat}(hq:q<cs.length)(h:¬(0<=cs[q]/\cs[q]<k)):¬pcQ v xs cs k:=fun a=>h (a.2.2.2.2.1 _ (aH hq))
structure PcI(w3:World)(p:Nat)(cs:List Int)(pre:List Sd)(V:World):Prop where
 low:Below w3.heap.size w3 V
 ok:∀s∈pre,((sdW p s).map (US cs)).Nodup
structure PcX(w3:World)(Br p:Nat)(cs:List Int)(pre:List Sd)(V:World):Prop where
 os:V.os=w3.os
 tape:V.tape=w3.tape
 output:V.output=w3.output
 size:w3.heap.size<=V.heap.size
 bl:Br<w3.heap.size
 fr:∀q,q<w3.heap.size->q≠Br->V.heap[q]?=w3.heap[q]?
 row:V.rowIs Br 4 1 (fun _=>.bool false)
 bad:∃s∈pre,¬((sdW p s).map (US cs)).Nodup
section
variable {w3 V V' : World} {Br p : Nat} {cs : List Int} {pre : List Sd}
theorem PcI.far(h:PcI w3 p cs pre V)(k:Below w3.heap.size V V'):PcI w3 p cs pre V':=⟨h.low.trans k,h.ok⟩
theorem PcI.own(w3:World)(p:Nat)(cs:List Int):OwnFrom w3.heap.size (PcI w3 p cs):=fun pre V V' row h k q=>by
 have:=h.low.size;exact h.far ⟨k.os,k.tape,k.output,k.size,fun b a=>k.block b oM (fun e=>by have:=(q b e.symm).1;omega)⟩
theorem PcX.far(h:PcX w3 Br p cs pre V)(k:Below w3.heap.size V V'):PcX w3 Br p cs pre V' :=
 ⟨k.os.trans h.os,k.tape.trans h.tape,k.output.trans h.output,aJ h.size k.size,h.bl,fun q q1 q2=>(k.block q q1).trans (h.fr q q1 q2),h.row.of_block (k.block _ h.bl),h.bad⟩
theorem PcX.own(w3:World)(Br p:Nat)(cs:List Int):OwnFrom w3.heap.size (PcX w3 Br p cs):=fun pre V V' row h k q=>by
 have:=h.size;exact h.far ⟨k.os,k.tape,k.output,k.size,fun b a=>k.block b oM (fun e=>by have:=(q b e.symm).1;omega)⟩
end
theorem wC{cs:List Int}{k:Int}{l:List Nat}(h:∀c∈cs,0<=c/\c<k)(d:∀u∈l,u<cs.length)(c:Nat):aw cs l c↔∃v∈l,US cs v=c:=by
 unfold aw US colI;constructor
 ·rintro⟨v,a,b⟩
  refine⟨v,a,?_⟩;rw[bF,b];rfl
 ·rintro⟨v,a,b⟩
  refine⟨v,a,?_⟩;rw[bF,aC (d v a),gR]at b;rw[aC (d v a)];have:=(h _ (aH (d v a))).1;exact fI some oM
theorem zQ{cs:List Int}{b:Nat}(h:∀c∈cs,0<=c/\c<(b:Int)){v:Nat}(a:v<cs.length):US cs v<b:=by
 unfold US colI;rw[bF,aC a,gR];have:=h _ (aH a);omega
theorem pV(v:Int)(g:Option Addr)(n c:Nat)(d:List Xe)(bm a4:Nat)(i:Option Addr)(a m:Nat)(cs:List Int)(Lc Bc:Nat)(k:Int)(w:World)(ha:Hid (Xp w bm a4 g d))(hx:Hid (n=d.length))(Q:Hid (d.length+Xx d<=1048576))(hB:a4<=w.heap.size)(hO:Hid (Yy w))(hT:Hid (Yb w))(hZ:Hid (Jn w))(hc:Hid (Xf w Lc Bc i cs))(af:Hid (a=cs.length))(dk:Bc<=w.heap.size)(et:a<=1048576) :
 Calls prog 10 #[.agg #[.int .i64 v,.slice g n c],.slice i a m,.int .i64 k] w fun e w'=>e=.returned (.bool (pcB v d cs k))/\Below w.heap.size w w':=by
 have bf:=Xa (fun W (I:Below w.heap.size w W)=>Te v g n c d bm a4 W (Xa (ha.keep (I.mono hB))) hx Q (oN I.size) (Xa (hO.keep I hO.1)) (Xa (hT.keep I hT.1)));obtain⟨vd,bv⟩:∃vd,vd=verdP v d:=⟨_,rfl⟩;rw[<-bv]at bf;have bi:=Xa bv;clear bv;refine(bM (n:=10)).1 ?_;refine callsIn_of_wp_marks func10 rfl trivial ?_ rfl;simp only[ntmps10,xY,Nat.reduceAdd,Nat.reduceSub]
 gi_wp2
 have br:Below w.heap.size w ((((w.alloc (.cells #[.int .i64 v,.slice g n c] 25)).alloc (.cells #[.slice i a m] 27)).alloc (.cells #[.int .i64 k] 2)).alloc (.cells #[.bool false] 4)):=Xb (Xb (Xb (Xb (Below.refl _ _) _) _) _) _;have ev:w.heap.size+4<=((((w.alloc (.cells #[.int .i64 v,.slice g n c] 25)).alloc (.cells #[.slice i a m] 27)).alloc (.cells #[.int .i64 k] 2)).alloc (.cells #[.bool false] 4)).heap.size:=sP;have c0:((((w.alloc (.cells #[.int .i64 v,.slice g n c] 25)).alloc (.cells #[.slice i a m] 27)).alloc (.cells #[.int .i64 k] 2)).alloc (.cells #[.bool false] 4)).cell? ⟨w.heap.size,0,none⟩=some (.int .i64 v):=by simp[go_sem]
 have c1:((((w.alloc (.cells #[.int .i64 v,.slice g n c] 25)).alloc (.cells #[.slice i a m] 27)).alloc (.cells #[.int .i64 k] 2)).alloc (.cells #[.bool false] 4)).cell? ⟨w.heap.size,1,none⟩=some (.slice g n c):=by simp[go_sem]
 have c2:((((w.alloc (.cells #[.int .i64 v,.slice g n c] 25)).alloc (.cells #[.slice i a m] 27)).alloc (.cells #[.int .i64 k] 2)).alloc (.cells #[.bool false] 4)).cell? ⟨w.heap.size+1,0,none⟩=some (.slice i a m):=by simp[go_sem]
 have c3:((((w.alloc (.cells #[.int .i64 v,.slice g n c] 25)).alloc (.cells #[.slice i a m] 27)).alloc (.cells #[.int .i64 k] 2)).alloc (.cells #[.bool false] 4)).cell? ⟨w.heap.size+2,0,none⟩=some (.int .i64 k):=by simp[go_sem]
 have b7:Hid (((((w.alloc (.cells #[.int .i64 v,.slice g n c] 25)).alloc (.cells #[.slice i a m] 27)).alloc (.cells #[.int .i64 k] 2)).alloc (.cells #[.bool false] 4)).rowIs (w.heap.size+3) 4 1 (fun _=>.bool false)):=Xa (by
  have h:=eK (((w.alloc (.cells #[.int .i64 v,.slice g n c] 25)).alloc (.cells #[.slice i a m] 27)).alloc (.cells #[.int .i64 k] 2)) #[.bool false] 4 (fun _=>.bool false) (fun S hi=>by match S,hi with | 0,_=>rfl)
  rw[aO,aO,aO]at h;exact h)
 generalize (((w.alloc _).alloc _).alloc _).alloc _=w0 at *;refine⟨trivial,(bM.2 (bf w0 br)).mono ?_⟩;rintro e y ⟨rfl,J⟩;have ey:=J.size;have k0:=(XU J oM).trans c0;have k1:=(XU J oM).trans c1;have k2:=(XU J oM).trans c2;have k3:=(XU J oM).trans c3;have al:=Xa (b7.of_block (J.block _ oM));have k4:=al.cell (i:=0) vY;have k5:=al.frozen 0;have a8:=Xa (Xg br J);have M:Hid (pcB v d cs k=false->(y.setCell ⟨w.heap.size+3,0,none⟩ (.bool false)).cell? ⟨w.heap.size+3,0,none⟩=some (.bool (pcB v d cs k))/\Below w.heap.size w (y.setCell ⟨w.heap.size+3,0,none⟩ (.bool false))):=Xa (fun h=>by
  refine⟨?_,a8.setCell (by show w.heap.size<=w.heap.size+3;omega) _⟩;rw[h];simpa using(al.set 0 (.bool false)).cell (i:=0) vY)
 clear J br c0 c1 c2 c3 bf b7;by_cases hv:vd=0
 case neg =>
  have f:=Xa (M.out (Jd (v:=v) (xs:=d) (cs:=cs) (k:=k) (fun h=>hv (bi.trans h.1))));have bt:(vd != 0)=true:=by rw[jJ];exact hv
  gi_wp2
  have r:=f.1;exact ZC ⟨.bool (pcB v d cs k),by simp[results,results10,go_sem,r],rfl,f.2⟩
 subst hv;by_cases dw:k<0
 ·have f:=Xa (M.out (Jd (v:=v) (xs:=d) (cs:=cs) (k:=k) (fun h=>by have:=h.2.1;omega)))
  gi_wp2
  have r:=f.1;exact ZC ⟨.bool (pcB v d cs k),by simp[results,results10,go_sem,r],rfl,f.2⟩
 by_cases d0:2000<k
 ·have f:=Xa (M.out (Jd (v:=v) (xs:=d) (cs:=cs) (k:=k) (fun h=>by have:=h.2.2.1;omega)))
  gi_wp2
  have r:=f.1;exact ZC ⟨.bool (pcB v d cs k),by simp[results,results10,go_sem,r],rfl,f.2⟩
 by_cases bs:(a:Int)=v
 case neg =>
  have f:=Xa (M.out (Jd (v:=v) (xs:=d) (cs:=cs) (k:=k) (fun h=>bs (by rw[af.out];exact h.2.2.2.1))));have bt:((a:Int) != v)=true:=by rw[jJ];exact bs
  gi_wp2
  have r:=f.1;exact ZC ⟨.bool (pcB v d cs k),by simp[results,results10,go_sem,r],rfl,f.2⟩
 subst bs;have bt:((a:Int) != (a:Int))=false:=sP;have bb:=Xa (XH (uw bi.symm));have ei:=bb.vle;have b0:Hid (∀(q:Nat)(h:q<a),∃b K,i=some ⟨b,K,none⟩/\y.cell? ⟨b,K+q,none⟩=some (.int .i64 (colI cs q))/\∃h:q<cs.length,colI cs q=cs[q]):=Xa (fun q hq=>by
  have aj:q<cs.length:=by rw[<-af.out];exact hq
  obtain⟨b,K,e,I,h⟩:=hc q aj;have e2:colI cs q=cs[q]:=by
   unfold colI;rw[bF,aC aj];rfl
  refine⟨b,K,e,?_,aj,e2⟩;rw[e2];exact(XU a8 oM).trans h)
 gi_wp2
 gi_loop [30] (fun S=>∃q:Nat,q<=a/\S=.int .i64 q/\Hid (okK cs k q)) (fun S=>a-(intOf S).toNat)
 case atStart=>exact⟨0,aN _,rfl,Xa (yx _ _)⟩
 case round =>
  obtain⟨q,hq,rfl,HQ⟩:=hrel;by_cases d5:q<a
  ·obtain⟨b,K,rfl,e0,aj,eq⟩:=b0 q d5
   have ba:=Xa (fun h=>M (Jd (vn (v:=(a:Int)) (xs:=d) (k:=k) aj h)));have cb:=Xa (fun h=>ye HQ aj h);rw[<-eq]at ba cb;clear eq M;generalize colI cs q=cd at *;have eu:(q:Int)<(a:Int):=oM;by_cases ec:cd<0
   ·have f:=Xa (ba.out oM)
    gi_wp2
    have r:=f.1;exact ZC ⟨.bool (pcB (a:Int) d cs k),by simp[results,results10,go_sem,r],rfl,f.2⟩
   by_cases ed:k<=cd
   ·have f:=Xa (ba.out oM)
    gi_wp2
    have r:=f.1;exact ZC ⟨.bool (pcB (a:Int) d cs k),by simp[results,results10,go_sem,r],rfl,f.2⟩
   ·gi_wp2
    exact⟨⟨q+1,oM,gM,Xa (cb.out oM)⟩,by simp[intOf];omega⟩
  ·have ea:q=a:=oM
   subst ea;have a5:=Xa (Ab (by rw[<-af.out];exact HQ));clear HQ b0 M k4 k5;obtain⟨B,rfl⟩:=bX (show 0<=k by omega)
   gi_wp2
   generalize decide ((B:Int)<0)=d1;generalize decide (2000<(B:Int))=d2;generalize (d1||d2)=d3;refine⟨trivial,(Wx 9 _ _ y).mono ?_⟩;rintro e w3 ⟨rfl,a0⟩;have aq:Below y.heap.size y w3:=by rw[a0];exact Xb (Below.refl _ _) _
   have ez:y.heap.size+1<=w3.heap.size:=by rw[a0,aO];exact aA _
   have ck:w3.cell? ⟨y.heap.size,0,none⟩=some (.int .i64 (q:Int)):=by rw[a0];simp[go_sem]
   have cl:w3.cell? ⟨y.heap.size,1,none⟩=some (.slice g n c):=by rw[a0];simp[go_sem]
   have s:=Xa (Xg a8 aq);have c8:=Xa ((XU aq oM).trans k2);have c9:=Xa ((XU aq oM).trans k3);have b8:=Xa (al.of_block (aq.block _ oM));obtain⟨j,cr⟩:∃bw,bw=(q+63) / 64:=⟨_,rfl⟩;have dd:=Xa cr;have dn:j<=100:=oM;obtain⟨A,cq⟩:∃bw,bw=(B+63) / 64:=⟨_,rfl⟩;have dc:=Xa cq;have ee:A<=100:=oM;have d4:B<=64*A:=oM;have ef:=hO.1;have eg:=hT.1;have du:(2 : Nat)<w.heap.size:=aI w _ (hZ 0 vY);have cx:=Xa (ha.keep (s.mono hB));have df:=Xa (hO.keep s hO.1);have dj:=Xa (hT.keep s hT.1);have c6:=Xa ck;have c7:=Xa cl;have hn:n<=1000:=oP hx.out bb.okf.n2
   clear aq a0 cr cq ck cl k0 k1 k2 k3 al dw d0 bt
   gi_wp2
   refine dv (F:=Fence.wide) (n:=10) rfl vY (gf:=59) (lb:=#[.pointer (some ⟨y.heap.size,0,none⟩)]) rfl trivial (enters_of func59 vZ rfl) (oS w3.heap.size y.heap.size bm a4 q n c j g (fun z=>z=w.heap.size+3) d w3 c6 c7 cx hx oM (aA _) df dj oM oM bb dd (Xa (fun z t l e=>oM)) (Xa (fun z t e=>oM)) (Xa (fun e=>oM)) (Xa (fun e=>oM))) (fun z=>oz _ _ _ z) (fun h k=>h.trans k) (fun W cw K o' t l h3=>Zf.putObj W cw K o' oM l h3) (Below.refl _ _) (fun _ _=>rfl)
    (fun _=>PcI w3 (64*j) cs) (fun c pre V=>c=.ret/\PcX w3 (w.heap.size+3) (64*j) cs pre V) (fun _=>PcI.own w3 _ _) (fun c C L V row h k q=>⟨h.1,PcX.own w3 _ _ _ C L V row h.2 k q⟩) (fun _ z C L A' R h u=>h.far ⟨u.os,u.tape,u.output,u.size,fun b I=>u.block b (oN h.low.size) (fun e=>by injection e with e;omega)⟩) (fun _=>⟨fun z z' C L A' _ h k=>h.far (k.mono oM),fun c C L A' h k=>⟨h.1,h.2.far (k.mono oM)⟩⟩) (fun z U _ _ hU=>⟨hU,fun C h=>by simp at h⟩)
    (fun z p a' U=>∃E:Nat,a'=⟨#[.agg #[.int .i64 (q:Int),.slice g n c],.slice i q m,.int .i64 (B:Int),.pointer (some ⟨w.heap.size,0,none⟩),.pointer (some ⟨w.heap.size+1,0,none⟩),.pointer (some ⟨w.heap.size+1+1,0,none⟩),.pointer (some ⟨w.heap.size+1+1+1,0,none⟩),undef,u8,.pointer (some ⟨E,0,none⟩),.agg #[.int .i64 (q:Int),.slice g n c],.int .i64 0,.bool false,.bool false,.int .i64 (B:Int),.bool d1,.bool d1,.bool d1,.int .i64 (B:Int),.bool d2,.bool d3,.bool d3,.slice i q m,.int .i64 (q:Int),.pointer (some ⟨w.heap.size,0,none⟩),.int .i64 (q:Int),.bool false,.bool d3,.slice i q m,.int .i64 (q:Int),.int .i64 (q:Int),.bool false,u32,u33,u34,u35,u36,u37,u38,u39,u40,u41,.agg #[.int .i64 (q:Int),.slice g n c],.func (.func 59) #[] #[.pointer (some ⟨y.heap.size,0,none⟩)],.agg #[.slice (some ⟨z,0,none⟩) j p.C],undef,undef,undef,undef,undef,undef,undef,undef],[]⟩/\w3.heap.size<=E/\U.cell? ⟨E,0,none⟩=some (.slice (some ⟨z,0,none⟩) j p.C)) ?ownA ?assign ?body ?done ?stop
   case ownA =>
    rintro z p a' _ L U row ⟨E,e,t,l⟩ u qq;refine⟨E,e,t,(Xc (u.block E (aI L _ l) (fun e2=>?_))).trans l⟩;obtain⟨ob,h3,h4⟩:=Yn l;obtain⟨_,o2,h5,h6⟩:=qq E e2.symm;rw[show L.heap[E]?=some ob from h3]at h5;injection h5 with h5;subst h5;rw[h4]at h6;cases h6
   case assign =>
    intro l' z pre p U KK R o x ce;have D:=Xa o;have di:=Xa x;have db:=Xa ce;clear o x ce;unfold ke
    gi_wp2
    have az:Below U.heap.size U (U.alloc (.cells #[.slice (some ⟨z,0,none⟩) j p.C] 45)):=Xb (Below.refl _ _) _;exact db _ _ ⟨az.size,fun k K t _=>(az.block k (aS.1 t).1).trans t⟩ (Zf.of_below az D.low.size) (D.far (az.mono D.low.size)) (k9 di az) ⟨U.heap.size,rfl,D.low.size,by simp[go_sem]⟩
   case body =>
    rintro l' z pre p a' U R ep _ o x ⟨E,rfl,ej,ci⟩ er;have D:=Xa o;have a7:=o.low.size;have e2:=(XU o.low oM).trans c8;have e3:=(XU o.low oM).trans c9;have X:=Xa (b8.of_block (o.low.block _ oM));have a6:=Xa (s.trans (o.low.mono s.size));have b3:=Xa (fun W (Z:Below U.heap.size U W)=>VA z j p.C p.W i q m B A cs Lc Bc W (Xa (x.2.1.of_block (Z.block z x.2.1.lt))) (Xa x.2.2) (Xa (hc.keep ((a6.trans (Z.mono a6.size)).mono dk))) af (oN Z.size) (Xa (hZ.of_block ((a6.trans (Z.mono a6.size)).block _ du))) dn (Xa x.1) oM dc (Xa (fun c hc=>aZ (a5 c hc))));have b2:=Xa (fun W u T (t:WsAt W u A A T) (l:XA T)=>rW u A A T W (Xa l) (Xa t) oM);have b4:=Xa (fun W (Z:Below U.heap.size U W)=>Kl z j p.C p.W W (Xa x.2.2) (Xa (x.2.1.of_block (Z.block z x.2.1.lt))) oM);have b5:Hid (∀T,(∀c,c<64*A->(Xh T c=true↔aw cs (lsN p.W (64*j)) c))->(cntN T A<cntN p.W j↔¬((sdW (64*j) p).map (US cs)).Nodup)):=Xa (fun T h=>by
     have hl:∀bx∈lsN p.W (64*j),bx<cs.length:=fun bx hu=>by
      have t:=WN.1 hu;rw[<-af.out];exact x.1 bx t.1 t.2
     rw[jv,jv];exact zj (fun c hc=>(h c hc).trans (wC a5 hl c)) (fun v hv=>aX (zQ a5 (hl v hv)) d4))
    clear o x
    gi_wp2
    refine Tc (fun w'=>w'.cell? ⟨E,0,none⟩=some (.slice (some ⟨z,0,none⟩) j p.C)/\w'.cell? ⟨w.heap.size+1,0,none⟩=some (.slice i q m)/\w'.cell? ⟨w.heap.size+2,0,none⟩=some (.int .i64 (B:Int))) (fun hHeld=>?_);refine Yi 0 ?_;refine Yi 1 ?_;refine Yi 2 ?_;refine Yi 5 ?_;refine Yc 3 (fun bl hK=>?_);go_simp;refine⟨trivial,(CallsIn.inRound l' (bM.2 (b3 U.drew (Below.refl U.heap.size U).drew))).mono ?_⟩;rintro e N ⟨u,T,rfl,em,aa,cv,cj,ct⟩;have ar:Below U.heap.size U N:=⟨aa.os,aa.tape,aa.output,aa.size,aa.block⟩;have cz:=Xa ar;have a1:=oB ar ci (aI U _ ci);have a2:=oB ar e2 (aI U _ e2);have a3:=oB ar e3 (aI U _ e3);have b1:=Xa (b2.out N u T cv cj);have b6:=Xa (b5.out T ct);have b9:=Xa (b4.out);have ek:=TB T A;have el:=TB p.W j;clear ar aa cv cj ct b3 b2 b5 b4;refine hK _ _ ⟨a1,a2,a3⟩ (fun hHeld=>?_);clear hK;refine Yc 4 (fun bl hK=>?_);go_simp;refine⟨trivial,(CallsIn.inRound l' (bM.2 b1)).mono ?_⟩;rintro e O ⟨rfl,ab⟩;have ax:Below N.heap.size N O:=⟨ab.os,ab.tape,ab.output,ab.size,ab.block⟩;have bz:=Xa (Xg cz ax);have bn:=oB ax a1 (aI N _ a1);have bo:=oB ax a2 (aI N _ a2);have bq:=oB ax a3 (aI N _ a3);have ca:=Xa (b9.out O bz);generalize cntN T A=nT at *;generalize cntN p.W j=nV at *;clear ax ab b1 b9;refine hK _ _ ⟨bn,bo,bq⟩ (fun hHeld=>?_);clear hK;refine Yc 6 (fun bl hK=>?_);go_simp;refine⟨trivial,(CallsIn.inRound l' (bM.2 ca)).mono ?_⟩;rintro e U7 ⟨rfl,ad⟩;have ay:Below O.heap.size O U7:=⟨ad.os,ad.tape,ad.output,ad.size,ad.block⟩;have G:=Xa (Xg bz ay);have g1:=oB ay bn (aI O _ bn);have g2:=oB ay bo (aI O _ bo);have g3:=oB ay bq (aI O _ bq);clear ay ad ca;refine hK _ _ ⟨g1,g2,g3⟩ (fun hHeld=>?_);clear hK;refine Yc 7 (fun bl hK=>?_);go_simp;refine hK _ _ kP (fun hHeld=>?_);clear hK;refine ZV ?_;clear hHeld;have bd:=Xa (X.of_block (G.block _ X.lt));have r7:=bd.cell (i:=0) vY;have f7:=bd.frozen 0;by_cases es:(nT:Int)<(nV:Int)
    ·gi_wp2
     have cp:Zf w3.heap.size (fun z=>z=w.heap.size+3) U (U7.setCell ⟨w.heap.size+3,0,none⟩ (.bool false)):=(Zf.of_below G a7).trans (Zg ⟨rfl,rfl,rfl,by simp[World.setCell],fun k _ hk=>Below.heap_setCell _ _ _ _ (fun e=>hk (by rw[e]))⟩ rfl (oN G.size));have h7:=D.low.trans (G.mono a7);refine⟨⟨cp.size,fun z ob t l h3=>?_⟩,cp,rfl,⟨h7.os,h7.tape,h7.output,by rw[Xd];exact h7.size,oM,fun z q1 q2=>(Below.heap_setCell _ _ _ _ q2).trans (h7.block z q1),?_,p,fB _ (cS.2 rfl),b6.1 oM⟩⟩
     ·exact(Below.heap_setCell _ _ _ _ (by show z≠w.heap.size+3;omega)).trans ((G.block z (aS.1 l).1).trans l)
     ·exact(bd.set 0 _).congr (fun S hi=>by rw[show S=0 by omega];simp)
    ·gi_wp2
     refine⟨⟨G.size,fun z ob t l h3=>(G.block z (aS.1 l).1).trans l⟩,Zf.of_below G a7,D.low.trans (G.mono a7),fun C Q=>?_⟩;rcases bU.1 Q with h | h
     ·exact D.ok C h
     ·rw[cS.1 h]
      exact Classical.not_not.1 (fun l=>by have:=b6.2 l;omega)
   case done =>
    rintro F z ss U hD R cf o P;have D:=Xa o;have a9:=Xa P;have X:=Xa (b8.of_block (o.low.block _ oM));have r7:=X.cell (i:=0) vY;have f7:=X.frozen 0;have dl:=(aS.1 P).1;have bc:Hid (pcB (q:Int) d cs (B:Int)=true):=Xa (i9 ⟨bi.symm,oM,oM,by rw[af.out],a5,fun cw hl=>by
     rw[show((q:Int)).toNat=q from rfl,<-hx.out,<-cf]at hl;obtain⟨C,Q,rfl⟩:=aY.1 hl;exact o.ok C Q⟩)
    clear o P cf
    gi_wp2
    have da:Hid ((U.setCell ⟨w.heap.size+3,0,none⟩ (.bool true)).heap[F]?=some (.deferred (some []))):=Xa ((Below.heap_setCell _ _ _ _ (by show F≠w.heap.size+3;omega)).trans a9);have r:((U.setCell ⟨w.heap.size+3,0,none⟩ (.bool true)).putObj F (.deferred none)).cell? ⟨w.heap.size+3,0,none⟩=some (.bool true):=by
     refine(bZ (a:=⟨w.heap.size+3,0,none⟩) (World.putObj_heap_other (show w.heap.size+3≠F by omega))).trans ?_;simpa using(X.set 0 (.bool true)).cell (i:=0) vY
    refine YK da ⟨.bool true,by simp[results,results10,go_sem,r],?_⟩;have ds:=s.trans (D.low.mono s.size);have ap:Below w.heap.size w (U.setCell ⟨w.heap.size+3,0,none⟩ (.bool true)):=ds.setCell (by show w.heap.size<=w.heap.size+3;omega) _;have H:=grownBy_putObj' (U.setCell ⟨w.heap.size+3,0,none⟩ (.bool true)) F (.deferred none);have eb:=s.size;exact⟨by rw[bc.out],H.os.trans ap.os,H.tape.trans ap.tape,H.output.trans ap.output,aJ ap.size H.size,fun z R=>(World.putObj_heap_other oM).trans (ap.block z R)⟩
   case stop =>
    rintro F c' pre U hD ch ⟨rfl,hX⟩ P;have a9:=Xa P;have dl:=(aS.1 P).1;have bc:Hid (pcB (q:Int) d cs (B:Int)=false):=Xa (Jd (fun h=>by
     obtain⟨C,Q,I⟩:=hX.bad;refine I (h.2.2.2.2.2 _ ?_);rw[show((q:Int)).toNat=q from rfl,<-hx.out];exact ch.subset (aY.2 ⟨C,Q,rfl⟩)))
    have Y:=Xa hX;clear hX P ch
    gi_wp2
    have r:(U.putObj F (.deferred none)).cell? ⟨w.heap.size+3,0,none⟩=some (.bool false):=(bZ (a:=⟨w.heap.size+3,0,none⟩) (World.putObj_heap_other (show w.heap.size+3≠F by omega))).trans (Y.row.cell (i:=0) vY);refine YK a9 ⟨.bool false,by simp[results,results10,go_sem,r],?_⟩;have H:=grownBy_putObj' U F (.deferred none);have eb:=s.size;exact⟨by rw[bc.out],H.os.trans (Y.os.trans s.os),H.tape.trans (Y.tape.trans s.tape),H.output.trans (Y.output.trans s.output),aJ s.size (aJ Y.size H.size),fun z R=>(World.putObj_heap_other oM).trans ((Y.fr z oM oM).trans (s.block z R))⟩
end
end Go.Proofs.YtghnlncgiihhgaaGreatDoor
