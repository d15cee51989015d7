import Derived.Test.YtghnlncgiihhgaaGreatDoorW7
namespace Go.Proofs.YtghnlncgiihhgaaGreatDoor
set_option maxHeartbeats 4000000
set_option maxRecDepth 100000
open Go.RowKit Go.Proofs.Tryz
variable{r:Bool}{l:List Int}{n m k g i:Nat}{a A:Value}{w v:World}
theorem Tryz.infoBlkD:(prog.info? 90).map (fun i=>(i.zero,i.size,i.bytes))=some (some (.agg #[.slice none 0 0,.slice none 0 0,.int .i64 0,.int .i64 0,.int .i64 0,.int .i64 0]),6,80):=vZ
def UK(w:World)(g:Nat)(t:Yj):Prop:=Bx w g #[.int .i64 t.kind,.int .i64 t.a,.int .i64 t.to,.int .i64 t.els] 88
theorem UK.put{t:Yj}(h:UK w n t)(a:Yj):UK ((((w.setCell ⟨n,0,none⟩ (.int .i64 a.kind)).setCell ⟨n,1,none⟩ (.int .i64 a.a)).setCell ⟨n,2,none⟩ (.int .i64 a.to)).setCell ⟨n,3,none⟩ (.int .i64 a.els)) n a:=by
 have:=(((Bx.set h 0 (.int .i64 a.kind)).set 1 (.int .i64 a.a)).set 2 (.int .i64 a.to)).set 3 (.int .i64 a.els);simpa [UK]using this
theorem UK.cells{t:Yj}(h:UK w g t):w.cell? ⟨g,0,none⟩=some (.int .i64 t.kind)/\w.cell? ⟨g,1,none⟩=some (.int .i64 t.a)/\w.cell? ⟨g,2,none⟩=some (.int .i64 t.to)/\w.cell? ⟨g,3,none⟩=some (.int .i64 t.els):=⟨Bx.cell h rfl,Bx.cell h rfl,Bx.cell h rfl,Bx.cell h rfl⟩
theorem SkW.put4{wr:World}{s:Sr}{u0 u1 u2 u3:Value}{d:List Yj}(h:SkW w wr n m s a d)(b:w.heap.size+2<=k)(c:a.ownBlock≠some k):SkW w ((((wr.setCell ⟨k,0,none⟩ u0).setCell ⟨k,1,none⟩ u1).setCell ⟨k,2,none⟩ u2).setCell ⟨k,3,none⟩ u3) n m s a d:=(((h.put b c).put b c).put b c).put b c
theorem SkW.push{wc:World}{s:Sr}{e:List Yj}{tt:Yj}(h:SkW w wc n m s a e)(o:Obj)(c:(wc.alloc o).grownBy v a.ownBlock)(g:v.ownsRow (w.heap.size+2) 90 6 A (e.length+1) (XF Zz Zz (e.map Yt)++[.slice none 0 0,.slice none 0 0,.int .i64 tt.kind,.int .i64 tt.a,.int .i64 tt.to,.int .i64 tt.els])) :
 SkW w (v.setCell ⟨w.heap.size+1,1,none⟩ A) n m s A (e++[tt])/\Bx v (w.heap.size+1) #[.int .i64 0,a] 25:=by
 have p:=h.size;have ha:=bW wc o none;have d:∀b,b<w.heap.size+2->v.heap[b]?=wc.heap[b]?:=fun b i=>(c.block b (oN ha.size) (fun f=>by have:=(h.own.lt b f.symm).1;omega)).trans (ha.block b oM sP)
 have q:=aJ ha.size c.size;have j:=h.fun_.keep (d _ oM);have x:=h.bw;have u:=h.dr.bB;refine⟨⟨?_,?_,h.bw,(h.res.keep (d _ oM)).other oM,?_,?_,by simpa [World.setCell]using Nat.le_trans p q⟩,j⟩
 ·exact(ZQ.mk (h.dr.src.block (d _ oM) (fun r _ t=>d r oM)) h.dr.ok h.dr.bB oM).put oM
 ·exact XS ⟨c.os.trans (ha.os.trans h.gr.os),c.tape.trans (ha.tape.trans h.gr.tape),c.output.trans (ha.output.trans h.gr.output),oM,fun k l i=>(d k oM).trans (h.gr.block k l i)⟩ oM
 ·have:=j.set 1 A
  simpa using this
 ·rw[aQ,bG]
  unfold XF at g |-;rw[List.map_singleton,Zo];refine fS g (fun f=>?_) A;have:=(g.lt _ f).1;simp at this
theorem xQ(g B:Nat)(t:Sr)(n:Nat)(w:World)(aq:Hid (ZQ w g B t))(bz:1<=n)(hn:n<=1000) :
 Calls prog 65 #[.pointer (some ⟨g,0,none⟩),.int .i64 n] w fun e w'=>∃v,e=.returned (.agg #[.int .i64 0,v])/\ZQ w' g B (JB n n 0 t []).2/\w.grownBy w' (some g)/\w'.ownsRow (w.heap.size+2) 90 6 v n (XF Zz Zz ((JB n n 0 t []).1.map Yt)):=by
 obtain⟨i0,a9,bc,bd,bf⟩:=Xq Tryz.infoBlkD
 go_in
 go_wp2
 go_loopw [6] (fun T wr=>∃(m i:Nat)(b:Sr)(k:List Yj)(v:Value),i+m=n/\T=.int .i64 i/\Hid (k.length=i)/\Hid (JB n m i b k=JB n n 0 t [])/\Hid (SkW w wr g B b v k)) (fun T _=>n-(intOf T).toNat)
 case atStart =>
  refine⟨n,0,t,[],.slice none 0 0,oM,rfl,Xa rfl,Xa rfl,Xa ?_⟩;have m:=bW w (.cells #[.int .i64 0,.slice none 0 0] 25) (some g);have k2:=bW (w.alloc (.cells #[.int .i64 0,.slice none 0 0] 25)) (.cells #[.int .i64 0,.slice none 0 0] 25) (some g);refine⟨(aq.box _).box _,Y5 m k2,aq.sB,(Bx.new _ _ _).box _,?_,dA _ _ _ _,sP⟩;have:=Bx.new (w.alloc (.cells #[.int .i64 0,.slice none 0 0] 25)) #[.int .i64 0,.slice none 0 0] 25;rwa[aO]at this
 case round =>
  obtain⟨m,i,b,k,v,bw,rfl,D,V,d⟩:=hrel;cases m with
  | succ m =>
   have ba:i<n:=oM;have bx:(i:Int)<n:=oM;have N:Hid (JB n m (i+1) (terK b n i).2 (k++[(terK b n i).1])=JB n n 0 t []):=V;clear V
   go_upto_if 19 with fail
   have u:Hid (SkW w (wr.alloc (.cells #[.int .i64 3,.int .i64 0,.int .i64 0,.int .i64 0] 88)) g B b v k):=Xa (d.box _);have q:Hid (UK (wr.alloc (.cells #[.int .i64 3,.int .i64 0,.int .i64 0,.int .i64 0] 88)) wr.heap.size ⟨3,0,0,0⟩):=Xa (Bx.new _ _ _);have H:=Xa d.size;have I:Hid (v.ownBlock≠some wr.heap.size):=Xa (fun e=>by have:=(d.own.lt _ e).2;omega);have E:Hid (g≠wr.heap.size):=Xa (fun e=>by have:=d.dr.bB;have:=d.dr.sB;have:=d.size;have:=d.bw;omega);clear d;generalize wr.alloc _=wt at *;generalize wr.heap.size=C at *
   go_cut [8] from 10 to 73 (fun _ wx=>Hid (SkW w wx g B (terK b n i).2 v k)/\Hid (UK wx C (terK b n i).1))
   case first =>
    obtain⟨t0,t1,t2,t3⟩:=UK.cells q;have tz:=Bx.thaw q;have a:Hid (terK b n i=if i+1<n then brP (VX b n).2 (VX b n).1 ((i:Int)+1)else eo b n):=Xa rfl;by_cases h1:i+1<n
    ·rw[aU h1]at a
     have a4:(i:Int)+1<n:=oM;by_cases G:2<n
     ·have Y:(2:Int)<n:=oM
      rw[show VX b n=(1+(nextP b ((n:Int)-1)).1,(nextP b ((n:Int)-1)).2) by unfold VX;rw[aU G]]at a;dsimp only at a
      go_wp2_with fail
      have F:=Xa (u.put4 (u0:=.int .i64 1) (u1:=.int .i64 0) (u2:=.int .i64 ((i:Int)+1)) (u3:=.int .i64 0) H I);have O:=Xa (UK.put q ⟨1,0,((i:Int)+1),0⟩);refine(XC g B b ((n:Int)-1) _ (Xa F.dr) oM oM).mono ?_;rintro e w5 ⟨rfl,c,f⟩;have K:=XE b (n:=((n:Int)-1)) oM;obtain⟨r,s1,h⟩:∃r o,nextP b ((n:Int)-1)=(r,o):=⟨_,_,rfl⟩;rw[h]at c a K |-;dsimp only at c a K |-;have s:=Xa (F.next f c);have l:Hid (UK w5 C _):=Xa (Bx.grown O f (fun e=>E (by injection e with e;exact e.symm)));clear c f h;obtain⟨bi,bl,bm,bn⟩:=UK.cells l;have bo:=Bx.thaw l;clear t0 t1 t2 t3 tz F O;have b0:(1+r != 0)=true:=by simp;omega
      have ac:(1+r:Int)≠0:=oM;by_cases y:1+r=(i:Int)+1
      ·have a5:(1+r != (i:Int)+1)=false:=by simpa using y
       rw[brP,aM (fun hh=>hh.2 y)]at a;clear y ac
       go_wp2
       go_meet;rw[a.out];exact⟨s,l⟩
      ·have a5:(1+r != (i:Int)+1)=true:=by simpa using y
       rw[brP,aU ⟨ac,y⟩]at a;clear y ac
       go_wp2_with fail
       refine(XC g B s1 4 _ (Xa s.dr) oM oM).mono ?_;rintro e w6 ⟨rfl,c,f⟩;have L:=XE s1 (n:=4) oM;obtain⟨r4,s4,h⟩:∃r o,nextP s1 4=(r,o):=⟨_,_,rfl⟩;rw[h]at c a L |-;dsimp only at c a L |-;have Q:=Xa (s.next f c);have p:Hid (UK w6 C _):=Xa (Bx.grown l f (fun e=>E (by injection e with e;exact e.symm)));clear c f h;obtain⟨bp,bq,br,bs⟩:=UK.cells p;have bt:=Bx.thaw p;by_cases j:r4=0
       ·have Z:(r4 != 0)=false:=by simpa using j
        rw[aU j]at a;clear j
        go_wp2
        go_meet;rw[a.out];exact⟨Q,p⟩
       ·have Z:(r4 != 0)=true:=by simpa using j
        rw[aM j]at a;clear j
        go_wp2_with fail
        have R:=Xa (Q.put4 (u0:=.int .i64 2) (u1:=.int .i64 0) (u2:=.int .i64 ((i:Int)+1)) (u3:=.int .i64 (1+r)) H I);have W:=Xa (UK.put p ⟨2,0,((i:Int)+1),(1+r)⟩);refine(XC g B s4 2 _ (Xa R.dr) oM oM).mono ?_;rintro e U ⟨rfl,c,f⟩;have ay:=XE s4 (n:=2) oM;obtain⟨A,s5,h⟩:∃r o,nextP s4 2=(r,o):=⟨_,_,rfl⟩;rw[h]at c a ay |-;dsimp only at c a ay |-;have af:=Xa (R.next f c);have P:Hid (UK U C _):=Xa (Bx.grown W f (fun e=>E (by injection e with e;exact e.symm)));clear c f h;obtain⟨b2,b3,b4,b5⟩:=UK.cells P;have b6:=Bx.thaw P;by_cases z:A=0
        ·have a6:(A==0)=true:=by simpa using z
         rw[aU z]at a;clear z;have X:=Xa (af.put4 (u0:=.int .i64 2) (u1:=.int .i64 0) (u2:=.int .i64 (1+r)) (u3:=.int .i64 ((i:Int)+1)) H I);have a3:=Xa (UK.put P ⟨2,0,(1+r),((i:Int)+1)⟩)
         go_wp2
         go_meet;rw[a.out];exact⟨X,a3⟩
        ·have a6:(A==0)=false:=by simpa using z
         rw[aM z]at a;clear z
         go_wp2
         go_meet;rw[a.out];exact⟨af,P⟩
     ·have Y:¬(2:Int)<n:=oM
      rw[show VX b n=(0,b) by unfold VX;rw[aM G]]at a;rw[brP,aM (fun hh=>hh.1 rfl)]at a;have F:=Xa (u.put4 (u0:=.int .i64 1) (u1:=.int .i64 0) (u2:=.int .i64 ((i:Int)+1)) (u3:=.int .i64 0) H I);have O:=Xa (UK.put q ⟨1,0,((i:Int)+1),0⟩)
      go_wp2
      go_meet;rw[a.out];exact⟨F,O⟩
    ·rw[aM h1]at a
     have a4:¬(i:Int)+1<n:=oM;by_cases G:1<n
     ·have Y:(1:Int)<n:=oM
      rw[eo,aU G]at a
      go_wp2_with fail
      refine(XC g B b 8 _ (Xa u.dr) oM oM).mono ?_;rintro e w5 ⟨rfl,c,f⟩;have K:=XE b (n:=8) oM;obtain⟨r,s1,h⟩:∃r o,nextP b 8=(r,o):=⟨_,_,rfl⟩;rw[h]at c a K |-;dsimp only at c a K |-;have s:=Xa (u.next f c);have l:Hid (UK w5 C _):=Xa (Bx.grown q f (fun e=>E (by injection e with e;exact e.symm)));clear c f h;obtain⟨bi,bl,bm,bn⟩:=UK.cells l;have bo:=Bx.thaw l;by_cases j:r=0
      ·have Z:(r==0)=true:=by simpa using j
       rw[aU j]at a;clear j
       go_wp2_with fail
       refine(XC g B s1 ((n:Int)-1) _ (Xa s.dr) oM oM).mono ?_;rintro e w6 ⟨rfl,c,f⟩;have L:=XE s1 (n:=((n:Int)-1)) oM;obtain⟨A,s2,h⟩:∃r o,nextP s1 ((n:Int)-1)=(r,o):=⟨_,_,rfl⟩;rw[h]at c a L |-;dsimp only at c a L |-;have Q:=Xa (s.next f c);have p:Hid (UK w6 C _):=Xa (Bx.grown l f (fun e=>E (by injection e with e;exact e.symm)));clear c f h;obtain⟨bp,bq,br,bs⟩:=UK.cells p;have bt:=Bx.thaw p;have R:=Xa (Q.put4 (u0:=.int .i64 1) (u1:=.int .i64 0) (u2:=.int .i64 (1+A)) (u3:=.int .i64 0) H I);have W:=Xa (UK.put p ⟨1,0,(1+A),0⟩)
       go_wp2
       go_meet;rw[a.out];exact⟨R,W⟩
      ·have Z:(r==0)=false:=by simpa using j
       rw[aM j]at a;clear j
       go_wp2
       go_meet;rw[a.out];exact⟨s,l⟩
     ·have Y:¬(1:Int)<n:=oM
      rw[eo,aM G]at a
      go_wp2
      go_meet;rw[a.out];exact⟨u,q⟩
   case rest =>
    obtain⟨x,ad⟩:=hcut;clear u q;generalize terK b n i=tk at *;obtain⟨M,s2⟩:=tk;dsimp only at x ad N;obtain⟨t0,t1,t2,t3⟩:=UK.cells ad;have f1:Cl wc (w.heap.size+1) 1 v:=Bx.cell x.fun_ rfl;have fz:=Bx.thaw x.fun_;have b1:=x.size
    go_wp2_with (at_builtin;refine bT _ rfl _ _ 23 rfl (w.heap.size+2) 90 i0 (.agg #[.slice none 0 0,.slice none 0 0,.int .i64 0,.int .i64 0,.int .i64 0,.int .i64 0]) 6 80 underlying23 a9 bc bd bf rfl vY v k.length (XF Zz Zz (k.map Yt)) rfl (x.own.alloc _) ⟨wc.heap.size,0,none⟩ 1 1 [.slice none 0 0,.slice none 0 0,.int .i64 M.kind,.int .i64 M.a,.int .i64 M.to,.int .i64 M.els] rfl rfl (World.news_of_block (World.alloc_heap_new _ _)) ?c2 ?c3 ?c4 ?c5 ?_)
    case c2=>intro T hu;simp at hu;rcases hu with rfl | rfl | rfl | rfl | rfl<;>rfl
    case c3=>unfold maxLen;have:=D.out;omega
    case c4=>have:=D.out;omega
    case c5=>simp;omega
    intro v8 U ab ar bb a8;obtain⟨a0,J⟩:=x.push _ ar ab;have X:=Xa a0;obtain⟨ap,aj,rfl,S,aa⟩:=Xm ab oM;clear S aa bb a8 ab ar a0;have k0:Cl U (w.heap.size+1) 0 (.int .i64 0):=Bx.cell J rfl;have k1:Cl U (w.heap.size+1) 1 v:=Bx.cell J rfl;have kz:=Bx.thaw J;have bv:=Xa J;clear J;go_wp2;exact⟨⟨m,i+1,s2,k++[M],_,oM,gM,Xa (by rw[aQ,D.out];rfl),N,X⟩,by simp[intOf];omega⟩
  | zero =>
   have N:Hid ((k,b)=JB n n 0 t []):=V;have ba:¬(i:Int)<n:=oM;have f0:Cl wr (w.heap.size+1) 0 (.int .i64 0):=Bx.cell d.fun_ rfl;have f1:Cl wr (w.heap.size+1) 1 v:=Bx.cell d.fun_ rfl;have r0:Cl wr w.heap.size 0 (.int .i64 0):=Bx.cell d.res rfl;have r1:Cl wr w.heap.size 1 (.slice none 0 0):=Bx.cell d.res rfl;have rz:=Bx.thaw d.res;obtain⟨ap,aj,rfl,S,aa⟩:=Xm d.own (oN D.out);clear aa;have HL:=Xa S.1;clear S;have a1:=Xa D.out;generalize ax:k.length=al at *;have a2:=Xa ax;clear ax;go_wp2;rw[<-N.out];refine cC (v:=.agg #[.int .i64 0,.slice (some ⟨ap,0,none⟩) al aj]) (by simp[results,results65,go_sem,r0,r1]) rfl ⟨_,rfl,?_,?_,?_⟩
   ·exact(d.dr.put d.bw).put d.bw
   ·exact XS (XS d.gr (aA _)) (aA _)
   ·have a7:n=al:=oN a1.out
    rw[a7];have az:=d.own;rw[a2.out]at az;exact ownsRow_setCell_below (a:=⟨w.heap.size,1,none⟩) (ownsRow_setCell_below (a:=⟨w.heap.size,0,none⟩) az (mH vY) _) (mH vY) _
section
structure XW(w w':World)(lab lab':Nat->Nat × Nat × Nat)(base:Nat)(ok:Nat->Prop):Prop where
 size:w.heap.size<=w'.heap.size
 same:∀b,base<=b->b<w.heap.size->ok b->w'.heap[b]?=w.heap[b]?/\lab' b=lab b
 fresh:(∀b,w.heap.size<=b->lab b=(0,0,0))->∀b,w'.heap.size<=b->lab' b=(0,0,0)
variable {w w' : World} {lab lab' : Nat -> Nat × Nat × Nat} {base : Nat} {ok : Nat -> Prop}
theorem Xv.sp{L:Nat × Nat × Nat}{t c:Nat}{v:Value}{n:Nat}{a:List Value}(h:Xv w lab L base t c v n a)(k:XW w w' lab lab' base ok)(g:∀b,lab b=L->ok b):Xv w' lab' L base t c v n a :=
 h.keep (fun b d f e=>by have:=k.same b d f (g b e);exact⟨this.1,this.2.trans e⟩)
theorem Xv.nil{L:Nat × Nat × Nat}{t c n:Nat}{a:List Value}(h:Xv w lab L base t c (.slice none 0 0) n a):Xv w' lab' L base t c (.slice none 0 0) n a :=
 ⟨Zl h.own (fun b e=>by cases e),fun b e=>by cases e⟩
theorem Bx.sp{b t:Nat}{a:Array Value}(h:Bx w b a t)(k:XW w w' lab lab' base ok)(c:base<=b)(d:ok b):Bx w' b a t:=h.keep (k.same b c h.lt d).1
theorem XW.grown{a:Nat}(g:w.grownBy w' (some a))(i:a<base):XW w w' lab lab base (fun _=>True) :=
 ⟨g.size,fun b f c _=>⟨g.block b c (fun e=>by injection e;omega),rfl⟩,fun h b d=>h b (aJ g.size d)⟩
theorem XW.box(o:Obj):XW w (w.alloc o) lab lab base (fun _=>True) :=
 ⟨(bW w o none).size,fun b _ a _=>⟨(bW w o none).block b a sP,rfl⟩,fun h b c=>h b (aJ (bW w o none).size c)⟩
theorem XW.put(g q:Nat)(u:Value):XW w (w.setCell ⟨g,q,none⟩ u) lab lab base (fun b=>b≠g) :=
 ⟨by simp[World.setCell],fun b _ _ a=>⟨Below.heap_setCell _ _ _ _ a,rfl⟩,fun h b a=>h b (by simpa [World.setCell]using a)⟩
theorem Xv.grow{L:Nat × Nat × Nat}{t g:Nat}{v a:Value}{p k:Nat}{l h:List Value}(i:Xv w lab L base t g v p l)(d:w.grownBy w' v.ownBlock)(j:w'.ownsRow base t g a k h)(n:a.ownBlock=v.ownBlock\/a.ownBlock=some w.heap.size)(o:∀b,w.heap.size<=b->lab b=(0,0,0)) :
 ∃lab',Xv w' lab' L base t g a k h/\XW w w' lab lab' base (fun b=>lab b≠L):=by
 refine⟨fun b=>if a.ownBlock=some b then L else lab b,⟨j,fun b e=>aU e⟩,d.size,fun b q m c=>⟨d.block b m (fun e=>c (i.lab b e.symm)),aM (fun e=>?_)⟩,fun _ b c=>(aM (fun e=>?_)).trans (o b (aJ d.size c))⟩
 ·rcases n with f | f
  ·exact c (i.lab b (f.symm.trans e))
  ·rw[e]at f
   injection f with f;omega
 ·have:=(j.lt b e).2
  have:=d.size;omega
theorem XW.trans{j:World}{g:Nat->Nat × Nat × Nat}{i:Nat->Prop}(h:XW w w' lab lab' base ok)(k:XW w' j lab' g base i):XW w j lab g base (fun b=>ok b/\i b) :=
 ⟨aJ h.size k.size,fun b d e f=>by
  have a:=h.same b d e f.1;have c:=k.same b d (aX e h.size) f.2;exact⟨c.1.trans a.1,c.2.trans a.2⟩,fun m b l=>k.fresh (h.fresh m) b l⟩
theorem XW.weak{a:Nat->Prop}(h:XW w w' lab lab' base ok)(k:∀b,a b->ok b):XW w w' lab lab' base a:=⟨h.size,fun b c d e=>h.same b c d (k b e),h.fresh⟩
theorem ZU.sp{v:Value}{m:List Xe}{l g:Nat->Value}{av:Nat->Nat->Value}(h:ZU w lab base v m l g av)(k:XW w w' lab lab' base ok)(i:Nat)
 (d:∀b,(lab b).1≠0->(lab b).1<5->lab b≠(2,i,0)->lab b≠(3,i,0)->ok b) (c:(∀b,lab b=(2,i,0)\/lab b=(3,i,0)->ok b)\/(l i=.slice none 0 0/\g i=.slice none 0 0)):ZU w' lab' base v m l g av:=by
 refine⟨h.blks.sp k (fun b e=>d b (by rw[e];simp) (by rw[e];simp) (by rw[e];simp) (by rw[e];simp)),fun j a=>?_,fun j a=>?_,fun j a q hq=>(h.args j a q hq).sp k (fun b e=>d b (by rw[e];simp) (by rw[e];simp) (by rw[e];simp) (by rw[e];simp))⟩
 ·by_cases e:j=i
  ·subst e
   rcases c with c | ⟨f,_⟩
   ·exact(h.ps j a).sp k (fun b e=>c b (bC e))
   ·have:=h.ps j a
    rw[f]at this |-;exact this.nil
  ·exact(h.ps j a).sp k (fun b e2=>d b (by rw[e2];simp) (by rw[e2];simp) (by rw[e2];simp;exact e) (by rw[e2];simp))
 ·by_cases e:j=i
  ·subst e
   rcases c with c | ⟨_,f⟩
   ·exact(h.ins j a).sp k (fun b e=>c b (aZ e))
   ·have:=h.ins j a
    rw[f]at this |-;exact this.nil
  ·exact(h.ins j a).sp k (fun b e2=>d b (by rw[e2];simp) (by rw[e2];simp) (by rw[e2];simp) (by rw[e2];simp;exact e))
theorem ZU.lay{g t u i:Nat}{a:List Xe}{k h:Nat->Value}{av:Nat->Nat->Value}(l:ZU w lab base (.slice (some ⟨g,0,none⟩) t u) a k h av)(D:i<a.length)(x:Xe)(p q:Value)(s:Nat->Value)
 (B:Xv w lab (2,i,0) base 96 2 p x.ps.length (Yh s x.ps)) (hq:Xv w lab (3,i,0) base 98 5 q x.is.length (YC x.is)) (ha:∀j (d:j<x.ps.length),Xv w lab (4,i,j) base 2 1 (s j) x.ps[j].args.length (Xt x.ps[j].args)) :
 ZU ((((((w.setCell ⟨g,i*6,none⟩ p).setCell ⟨g,i*6+1,none⟩ q).setCell ⟨g,i*6+2,none⟩ (.int .i64 x.te.kind)).setCell ⟨g,i*6+3,none⟩ (.int .i64 x.te.a)).setCell ⟨g,i*6+4,none⟩ (.int .i64 x.te.to)).setCell ⟨g,i*6+5,none⟩ (.int .i64 x.te.els)) lab base (.slice (some ⟨g,0,none⟩) t u) (a.set i x) (fun j=>if j=i then p else k j) (fun j=>if j=i then q else h j) (fun j=>if j=i then s else av j):=by
 have A:a.length=t:=by
  rcases l.blks.own.2 with⟨e,_⟩ | ⟨_,_,_,e,_⟩
  ·cases e
  ·cases e;rfl
 subst A;have y:=l.blks.blk.2;have n:XW w ((((((w.setCell ⟨g,i*6,none⟩ p).setCell ⟨g,i*6+1,none⟩ q).setCell ⟨g,i*6+2,none⟩ (.int .i64 x.te.kind)).setCell ⟨g,i*6+3,none⟩ (.int .i64 x.te.a)).setCell ⟨g,i*6+4,none⟩ (.int .i64 x.te.to)).setCell ⟨g,i*6+5,none⟩ (.int .i64 x.te.els)) lab lab base (fun b=>b≠g) :=
  ((((((XW.put g _ _).trans (XW.put g _ _)).trans (XW.put g _ _)).trans (XW.put g _ _)).trans (XW.put g _ _)).trans (XW.put g _ _)).weak (fun b c=>⟨⟨⟨⟨⟨c,c⟩,c⟩,c⟩,c⟩,c⟩)
 have o:∀b,lab b≠(1,0,0)->b≠g:=fun b c e=>c (by rw[e];exact y)
 refine⟨?_,fun j d=>?_,fun j d=>?_,fun j d m f=>?_⟩
 ·have c:=(((((l.blks.set (i*6) p).set (i*6+1) q).set (i*6+2) (.int .i64 x.te.kind)).set (i*6+3) (.int .i64 x.te.a)).set (i*6+4) (.int .i64 x.te.to)).set (i*6+5) (.int .i64 x.te.els)
  have e:XF (fun j=>if j=i then p else k j) (fun j=>if j=i then q else h j) (a.set i x)=((((((XF k h a).set (i*6) p).set (i*6+1) q).set (i*6+2) (.int .i64 x.te.kind)).set (i*6+3) (.int .i64 x.te.a)).set (i*6+4) (.int .i64 x.te.to)).set (i*6+5) (.int .i64 x.te.els):=by
   refine iG (fun r=>?_);have z:(XF k h a).length=a.length*6:=Zn (sz:=6) (fun _ _=>rfl) _ _;have F:(XF (fun j=>if j=i then p else k j) (fun j=>if j=i then q else h j) (a.set i x)).length=a.length*6:=(Zn (sz:=6) (fun _ _=>rfl) 0 (a.set i x)).trans sP;by_cases G:r<a.length*6
   ·have d:r / 6<a.length:=oM
    have E:r / 6<(a.set i x).length:=by simpa using d
    have v:r=r / 6*6+r % 6:=oM;have f:r % 6<6:=dS _ vY;generalize r / 6=j at *;generalize r % 6=m at *;subst v;have C:(XF (fun j=>if j=i then p else k j) (fun j=>if j=i then q else h j) (a.set i x))[j*6+m]?=(UT (if j=i then p else k j) (if j=i then q else h j) (a.set i x)[j].te)[m]?:=by
     unfold XF;rw[Xz (sz:=6) (fun _ _=>rfl) 0 (a.set i x) j (by simpa using d) m f,aV]
    rw[C];by_cases e:j=i
    ·subst e
     rw[aU rfl,aU rfl,cQ];simp only[kG,z]
     match m,f with
     | 0,_=>simp[UT];omega
     | 1,_=>simp[UT];omega
     | 2,_=>simp[UT];omega
     | 3,_=>simp[UT];omega
     | 4,_=>simp[UT];omega
     | 5,_=>simp[UT];omega
    ·rw[aM e,aM e,bI (fun e2=>e e2.symm)]
     rw[dZ oM,dZ oM,dZ oM,dZ oM,dZ oM,dZ oM];unfold XF;rw[Xz (sz:=6) (fun _ _=>rfl) 0 a j d m f,aV]
   ·rw[dK oM,dK (by simp only[bL];omega)]
  rw[e,bL];exact c
 ·by_cases e:j=i
  ·subst e
   simp only[aU,cQ];exact B.sp n (fun b e=>o b (by rw[e];simp))
  ·simp only[aM e,bI (fun e2=>e e2.symm)]
   exact(l.ps j (by simpa using d)).sp n (fun b e=>o b (by rw[e];simp))
 ·by_cases e:j=i
  ·subst e
   simp only[aU,cQ];exact hq.sp n (fun b e=>o b (by rw[e];simp))
  ·simp only[aM e,bI (fun e2=>e e2.symm)]
   exact(l.ins j (by simpa using d)).sp n (fun b e=>o b (by rw[e];simp))
 ·by_cases e:j=i
  ·subst e
   simp only[cQ]at f |-;simp only[aU];exact(ha m f).sp n (fun b e=>o b (by rw[e];simp))
  ·simp only[bI (fun e2=>e e2.symm)]at f |-
   simp only[aM e];exact(l.args j (by simpa using d) m f).sp n (fun b e=>o b (by rw[e];simp))
end
def Uy(a:Nat)(s:Sr):Nat × Sr :=
 if 1<a then ((nextP s 4).1.toNat,(nextP s 4).2)else if a=1 then (if (nextP s 6).1=0 then 1 else 0,(nextP s 6).2)else (0,s)
theorem f9(a:Nat)(s:Sr):(Uy a s).1<=3:=by
 unfold Uy;split
 ·have:=XE s (n:=4) oM
  show(nextP s 4).1.toNat<=3;omega
 ·split
  ·show(if (nextP s 6).1=0 then 1 else 0)<=3
   split<;>omega
  ·exact aN _
theorem q9{s:Sr}(h:Jb s)(a:Nat):Jb (Uy a s).2:=by
 unfold Uy;split
 ·exact Y8 h _
 ·split
  ·exact Y8 h _
  ·exact h
def VK(k v:Nat):List Ph:=(List.range k).map fun j=>⟨((v+j:Nat):Int),[]⟩
def ZS(k v:Nat):List Int:=(List.range k).map fun j=>((v+j:Nat):Int)
theorem wA(k v:Nat):VK (k+1) v=VK k v++[⟨((v+k:Nat):Int),[]⟩]:=by unfold VK;rw[dN];simp
theorem vX(k v:Nat):ZS (k+1) v=ZS k v++[((v+k:Nat):Int)]:=by unfold ZS;rw[dN];simp
theorem KI(k v:Nat):(VK k v).length=k:=by simp[VK]
theorem Ub(k v:Nat):(ZS k v).length=k:=by simp[ZS]
def Z9(a:Bool):Nat->Sr->List Int->Nat->List Yg->List Yg × List Int × Nat × Sr
 | 0,s,vs,v,acc=>(acc,vs,v,s)
 | k+1,s,vs,v,acc =>
  if dB (instrP s vs v a).1.op=true then Z9 a k (instrP s vs v a).2 (vs++[(v:Int)]) (v+1) (acc++[(instrP s vs v a).1])
  else Z9 a k (instrP s vs v a).2 vs v (acc++[(instrP s vs v a).1])
structure HdR where
 cnt:Nat
 ins:List Yg
 vs:List Int
 v:Nat
 s:Sr
def hdB(i v:Nat)(a:List Int)(s:Sr):HdR :=
 if i=0 then ⟨(nextP s (3+s.size)).1.toNat+1,[⟨2,v,0,0,(nextP (nextP s (3+s.size)).2 3).1⟩],a++[(v:Int)],v+1,(nextP (nextP s (3+s.size)).2 3).2⟩
 else ⟨(nextP s (3+s.size)).1.toNat,[],a,v,(nextP s (3+s.size)).2⟩
def terG(a:Bool)(t:Yj)(b:List Int)(s:Sr):Yj × Sr:=if t.kind=1 then (t,s)else (⟨t.kind,(YI s b a).1,t.to,t.els⟩,(YI s b a).2)
structure BkR where
 blk:Xe
 vs:List Int
 v:Nat
 s:Sr
def VL(a:Bool)(i b:Nat)(t:Yj)(c:List Int)(v:Nat)(s:Sr):BkR :=
 let p:=Uy b s
 let h:=hdB i (v+p.1) (c++ZS p.1 v) p.2
 let r:=Z9 a h.cnt h.s h.vs h.v h.ins
 let e:=terG a t r.2.1 r.2.2.2
 ⟨⟨VK p.1 v,r.1,e.1⟩,r.2.1,r.2.2.1,e.2⟩
structure GdR where
 xs:List Xe
 ends:List (List Int)
 v:Nat
 s:Sr
def XV:Xe:=⟨[],[],⟨0,0,0,0⟩⟩
def Zm(b:Bool)(a:List Int):Nat->Nat->GdR->GdR
 | 0,_,g=>g
 | k+1,i,g =>
  let r:=VL b i (predsFrom g.xs 0 (i:Int)).length (g.xs.getD i XV).te (if i=0 then []else g.ends.getD (a.getD i 0).toNat []) g.v g.s
  Zm b a k (i+1) ⟨g.xs.set i r.blk,g.ends++[r.vs],r.v,r.s⟩
def ZD(a:List (List Int)):List Int->Sr->List Int->List Int × Sr
 | [],s,acc=>(acc,s)
 | p::ps,s,acc=>ZD a ps (YI (nextP s 3).2 (a.getD p.toNat []) ((nextP s 3).1 != 0)).2 (acc++[(YI (nextP s 3).2 (a.getD p.toNat []) ((nextP s 3).1 != 0)).1])
def Wo:Ph:=⟨0,[]⟩
def JC(a:List (List Int))(preds:List Int):Nat->Nat->List Ph->Sr->List Ph × Sr
 | 0,_,ps,s=>(ps,s)
 | k+1,j,ps,s=>JC a preds k (j+1) (ps.set j ⟨(ps.getD j Wo).dst,(ZD a preds s (ps.getD j Wo).args).1⟩) (ZD a preds s (ps.getD j Wo).args).2
def ZL(a:List (List Int)):Nat->Nat->List Xe->Sr->List Xe × Sr
 | 0,_,xs,s=>(xs,s)
 | k+1,i,xs,s =>
  let r:=JC a (predsFrom xs 0 (i:Int)) (xs.getD i XV).ps.length 0 (xs.getD i XV).ps s
  ZL a k (i+1) (xs.set i ⟨r.1,(xs.getD i XV).is,(xs.getD i XV).te⟩) r.2
theorem iq{c:Bool}:∀(k:Nat)(s:Sr)(b:List Int)(v:Nat)(a:List Yg),Jb s->Jb (Z9 c k s b v a).2.2.2
 | 0,_,_,_,_,h=>h
 | k+1,s,b,v,a,h=>by
  rw[Z9];split
  ·exact iq k _ _ _ _ (oE h)
  ·exact iq k _ _ _ _ (oE h)
theorem WH{near:Bool}:∀(k:Nat)(s:Sr)(a:List Int)(v:Nat)(b:List Yg),v<=(Z9 near k s a v b).2.2.1/\(Z9 near k s a v b).2.2.1<=v+k/\(Z9 near k s a v b).2.1.length<=a.length+k/\(Z9 near k s a v b).1.length=b.length+k
 | 0,_,_,_,_=>⟨aA _,aA _,aA _,rfl⟩
 | k+1,s,a,v,b=>by
  rw[Z9];split
  ·have:=WH (near:=near) k (instrP s a v near).2 (a++[(v:Int)]) (v+1) (b++[(instrP s a v near).1])
   simp only[aQ,bA,bO]at this;omega
  ·have:=WH (near:=near) k (instrP s a v near).2 a v (b++[(instrP s a v near).1])
   simp only[aQ,bA,bO]at this;omega
theorem ru(i v:Nat)(a:List Int){s:Sr}(h:Jb s):(hdB i v a s).cnt<=10/\v<=(hdB i v a s).v/\(hdB i v a s).v<=v+1/\(hdB i v a s).vs.length<=a.length+1/\(hdB i v a s).ins.length<=1:=by
 have b:=h.size;have c:=XE s (n:=3+s.size) oM;unfold hdB;split
 ·refine⟨?_,gX v,aA _,?_,aA _⟩
  ·show(nextP s (3+s.size)).1.toNat+1<=10
   omega
  ·show(a++[(v:Int)]).length<=a.length+1
   simp
 ·refine⟨?_,aA _,gX v,gX _,aN _⟩
  show(nextP s (3+s.size)).1.toNat<=10;omega
theorem B7(i v:Nat)(a:List Int){s:Sr}(h:Jb s):Jb (hdB i v a s).s:=by
 unfold hdB;split
 ·exact Y8 (Y8 h _) _
 ·exact Y8 h _
theorem Ak{t:Yj}{s:Sr}(h:Jb s):Jb (terG r t l s).2:=by
 unfold terG;split
 ·exact h
 ·exact jq h _ _
theorem AU{t:Yj}{s:Sr}(h:Jb s):Jb (VL r n m t l k s).s:=Ak (iq _ _ _ _ _ (B7 _ _ _ (q9 h _)))
theorem BF{near:Bool}{np:Nat}{t:Yj}{vs0:List Int}{v:Nat}{s:Sr}(h:Jb s):v<=(VL near i np t vs0 v s).v/\(VL near i np t vs0 v s).v<=v+14/\(VL near i np t vs0 v s).vs.length<=vs0.length+14/\(VL near i np t vs0 v s).blk.is.length<=11/\(VL near i np t vs0 v s).blk.ps.length<=3:=by
 have a:=f9 np s;have b:=ru i (v+(Uy np s).1) (vs0++ZS (Uy np s).1 v) (q9 h np);have c:=WH (near:=near) (hdB i (v+(Uy np s).1) (vs0++ZS (Uy np s).1 v) (Uy np s).2).cnt (hdB i (v+(Uy np s).1) (vs0++ZS (Uy np s).1 v) (Uy np s).2).s (hdB i (v+(Uy np s).1) (vs0++ZS (Uy np s).1 v) (Uy np s).2).vs (hdB i (v+(Uy np s).1) (vs0++ZS (Uy np s).1 v) (Uy np s).2).v (hdB i (v+(Uy np s).1) (vs0++ZS (Uy np s).1 v) (Uy np s).2).ins;rw[aQ,Ub]at b;refine⟨?_,?_,?_,?_,?_⟩
 ·show v<=(Z9 near _ _ _ _ _).2.2.1
  omega
 ·show(Z9 near _ _ _ _ _).2.2.1<=v+14
  omega
 ·show(Z9 near _ _ _ _ _).2.1.length<=vs0.length+14
  omega
 ·show(Z9 near _ _ _ _ _).1.length<=11
  omega
 ·show(VK (Uy np s).1 v).length<=3
  rw[KI];exact a
section
structure JU(w wr:World)(lab:Nat->Nat × Nat × Nat)(sb B:Nat)(s:Sr)(fb vals G c:Nat)(xs:List Xe)(pv iv:Nat->Value)(av:Nat->Nat->Value)(ve:Value)(ev:Nat->Value)(ends:List (List Int))(vi:Value)(ids:List Int):Prop where
 dr:ZQ wr sb B s
 gr:w.grownBy wr (some sb)
 bw:B<=w.heap.size
 res:Bx wr w.heap.size #[.int .i64 0,.slice none 0 0] 25
 resl:lab w.heap.size=(0,0,0)
 fbx:Bx wr fb #[.int .i64 vals,.slice (some ⟨G,0,none⟩) xs.length c] 25
 fbl:lab fb=(0,0,0)
 fbb:w.heap.size<fb
 fn:ZU wr lab w.heap.size (.slice (some ⟨G,0,none⟩) xs.length c) xs pv iv av
 es:Xv wr lab (6,0,0) w.heap.size 55 1 ve ends.length (Yu (fun i _=>[ev i]) 0 ends)
 evs:∀i (h:i<ends.length),Xv wr lab (5,i,0) w.heap.size 2 1 (ev i) ends[i].length (Xt ends[i])
 id:Xv wr lab (7,0,0) w.heap.size 2 1 vi ids.length (Xt ids)
 fr:∀b,wr.heap.size<=b->lab b=(0,0,0)
 nil_:∀j,ends.length<=j->pv j=.slice none 0 0/\iv j=.slice none 0 0
structure GoX(wr:World)(lab:Nat->Nat × Nat × Nat)(base i xb:Nat)(p q:Value)(t:Yj)(ps:List Ph)(is:List Yg)(vv:Value)(vs:List Int):Prop where
 bx:Bx wr xb #[p,q,.int .i64 t.kind,.int .i64 t.a,.int .i64 t.to,.int .i64 t.els] 90
 bl:lab xb=(0,0,0)
 bb:base<xb
 xp:Xv wr lab (2,i,0) base 96 2 p ps.length (Yh Zz ps)
 xi:Xv wr lab (3,i,0) base 98 5 q is.length (YC is)
 xv:Xv wr lab (5,i,0) base 2 1 vv vs.length (Xt vs)
variable {w wr w' : World} {lab lab' : Nat -> Nat × Nat × Nat} {ok : Nat -> Prop} {sb B : Nat} {s s' : Sr} {fb vals G c : Nat} {xs : List Xe} {pv iv : Nat -> Value} {av : Nat -> Nat -> Value} {ve : Value} {ev : Nat -> Value} {ends : List (List Int)} {vi : Value} {ids : List Int}
theorem JU.sp(h:JU w wr lab sb B s fb vals G c xs pv iv av ve ev ends vi ids)(k:XW wr w' lab lab' w.heap.size ok)(f:ok w.heap.size)(hF:ok fb)
 (a:∀b,(lab b).1≠0->lab b≠(2,ends.length,0)->lab b≠(3,ends.length,0)->lab b≠(5,ends.length,0)->ok b) (g:ZQ w' sb B s') (i:w.grownBy w' (some sb)):JU w w' lab' sb B s' fb vals G c xs pv iv av ve ev ends vi ids:=by
 refine⟨g,i,h.bw,h.res.sp k (aA _) f,?_,h.fbx.sp k (dU h.fbb) hF,?_,h.fbb,h.fn.sp k ends.length (fun b j d l m=>?_) (aZ (h.nil_ _ (aA _))),h.es.sp k (fun b e=>a b (by rw[e];simp) (by rw[e];simp) (by rw[e];simp) (by rw[e];simp)),fun o n=>(h.evs o n).sp k (fun b e=>a b (by rw[e];simp) (by rw[e];simp) (by rw[e];simp) (by rw[e];simp;omega)),h.id.sp k (fun b e=>a b (by rw[e];simp) (by rw[e];simp) (by rw[e];simp) (by rw[e];simp)),k.fresh h.fr,h.nil_⟩
 ·exact(k.same _ (aA _) h.res.lt f).2.trans h.resl
 ·exact(k.same _ (dU h.fbb) h.fbx.lt hF).2.trans h.fbl
 ·by_cases e:lab b=(5,ends.length,0)
  ·rw[e]at d
   simp at d
  ·exact a b j l m e
theorem GoX.sp{a i xb:Nat}{p q:Value}{t:Yj}{ps:List Ph}{is:List Yg}{vv:Value}{vs:List Int}(h:GoX wr lab a i xb p q t ps is vv vs)(k:XW wr w' lab lab' a ok)(f:ok xb)(d:∀b,(lab b).1≠0->ok b):GoX w' lab' a i xb p q t ps is vv vs :=
 ⟨h.bx.sp k (dU h.bb) f,(k.same _ (dU h.bb) h.bx.lt f).2.trans h.bl,h.bb,h.xp.sp k (fun b e=>d b (by rw[e];simp)),h.xi.sp k (fun b e=>d b (by rw[e];simp)),h.xv.sp k (fun b e=>d b (by rw[e];simp))⟩
structure Vu(w wr:World)(lab:Nat->Nat × Nat × Nat)(sb B:Nat)(s:Sr)(fb vals G c:Nat)(xs:List Xe)(pv iv:Nat->Value)(av:Nat->Nat->Value)(ve:Value)(ev:Nat->Value)(ends:List (List Int))(vi:Value)(ids:List Int)(xb:Nat)(p q:Value)(t:Yj)(ps:List Ph)(is:List Yg)(vv:Value)(vs:List Int):Prop where
 f:JU w wr lab sb B s fb vals G c xs pv iv av ve ev ends vi ids
 x:GoX wr lab w.heap.size ends.length xb p q t ps is vv vs
 ne:xb≠fb
variable {xb : Nat} {p q : Value} {t : Yj} {ps : List Ph} {is : List Yg} {vv : Value} {vs : List Int}
theorem JU.lt(h:JU w wr lab sb B s fb vals G c xs pv iv av ve ev ends vi ids):sb<w.heap.size:=oP h.bw h.dr.bB
theorem JU.call(h:JU w wr lab sb B s fb vals G c xs pv iv av ve ev ends vi ids)(g:wr.grownBy w' (some sb))(d:ZQ w' sb B s'):JU w w' lab sb B s' fb vals G c xs pv iv av ve ev ends vi ids :=
 h.sp (XW.grown g h.lt) trivial trivial (fun _ _ _ _ _=>trivial) d (Y5 h.gr g)
theorem JU.box(h:JU w wr lab sb B s fb vals G c xs pv iv av ve ev ends vi ids)(o:Obj):JU w (wr.alloc o) lab sb B s fb vals G c xs pv iv av ve ev ends vi ids :=
 h.sp (XW.box o) trivial trivial (fun _ _ _ _ _=>trivial) (h.dr.box o) (Y5 h.gr (bW _ _ _))
theorem Vu.call(h:Vu w wr lab sb B s fb vals G c xs pv iv av ve ev ends vi ids xb p q t ps is vv vs)(g:wr.grownBy w' (some sb))(d:ZQ w' sb B s'):Vu w w' lab sb B s' fb vals G c xs pv iv av ve ev ends vi ids xb p q t ps is vv vs :=
 ⟨h.f.call g d,h.x.sp (XW.grown g h.f.lt) trivial (fun _ _=>trivial),h.ne⟩
theorem Vu.box(h:Vu w wr lab sb B s fb vals G c xs pv iv av ve ev ends vi ids xb p q t ps is vv vs)(o:Obj):Vu w (wr.alloc o) lab sb B s fb vals G c xs pv iv av ve ev ends vi ids xb p q t ps is vv vs :=
 ⟨h.f.box o,h.x.sp (XW.box o) trivial (fun _ _=>trivial),h.ne⟩
theorem JU.put{g m:Nat}{u:Value}(h:JU w wr lab sb B s fb vals G c xs pv iv av ve ev ends vi ids)(a:lab g=(0,0,0))(f:w.heap.size<g)(hF:g≠fb):JU w (wr.setCell ⟨g,m,none⟩ u) lab sb B s fb vals G c xs pv iv av ve ev ends vi ids :=
 h.sp (XW.put g m u) oM (kA hF) (fun b d _ _ _ e=>d (by rw[e,a])) (h.dr.put (oN h.bw)) (XS h.gr (dU f))
theorem Vu.val(h:Vu w wr lab sb B s fb vals G c xs pv iv av ve ev ends vi ids xb p q t ps is vv vs)(d:Nat):Vu w (wr.setCell ⟨fb,0,none⟩ (.int .i64 d)) lab sb B s fb d G c xs pv iv av ve ev ends vi ids xb p q t ps is vv vs:=by
 have k:XW wr (wr.setCell ⟨fb,0,none⟩ (.int .i64 d)) lab lab w.heap.size (fun b=>b≠fb):=XW.put _ _ _;have a:∀b,(lab b).1≠0->b≠fb:=fun b f e=>f (by rw[e,h.f.fbl])
 have g:=h.f.fbb;have l:=h.f.bw;refine⟨⟨h.f.dr.put oM,XS h.f.gr oM,h.f.bw,h.f.res.other oM,h.f.resl,?_,h.f.fbl,g,h.f.fn.sp k ends.length (fun b f _ _ _=>a b f) (bC (fun b e=>a b (by rcases e with e | e<;>rw[e]<;>simp))),h.f.es.sp k (fun b e=>a b (by rw[e];simp)),fun j i=>(h.f.evs j i).sp k (fun b e=>a b (by rw[e];simp)),h.f.id.sp k (fun b e=>a b (by rw[e];simp)),k.fresh h.f.fr,h.f.nil_⟩,h.x.sp k h.ne a,h.ne⟩;have:=h.f.fbx.set 0 (.int .i64 d);simpa using this
theorem Vu.terA(h:Vu w wr lab sb B s fb vals G c xs pv iv av ve ev ends vi ids xb p q t ps is vv vs)(a:Int):Vu w (wr.setCell ⟨xb,3,none⟩ (.int .i64 a)) lab sb B s fb vals G c xs pv iv av ve ev ends vi ids xb p q ⟨t.kind,a,t.to,t.els⟩ ps is vv vs:=by
 have k:XW wr (wr.setCell ⟨xb,3,none⟩ (.int .i64 a)) lab lab w.heap.size (fun b=>b≠xb):=XW.put _ _ _;have d:∀b,(lab b).1≠0->b≠xb:=fun b f e=>f (by rw[e,h.x.bl])
 refine⟨h.f.put h.x.bl h.x.bb h.ne,⟨?_,h.x.bl,h.x.bb,h.x.xp.sp k (fun b e=>d b (by rw[e];simp)),h.x.xi.sp k (fun b e=>d b (by rw[e];simp)),h.x.xv.sp k (fun b e=>d b (by rw[e];simp))⟩,h.ne⟩;have:=h.x.bx.set 3 (.int .i64 a);simpa using this
theorem Xv.below{b a t i n:Nat}{L:Nat × Nat × Nat}{v:Value}{d:List Value}(h:Xv wr lab L b t i v n d)(f:wr.grownBy w' v.ownBlock)(e:a<=b)(g:a<=wr.heap.size):Below a wr w':=Xy (Below.refl _ _) f h.own e g
theorem JU.low(h:JU w wr lab sb B s fb vals G c xs pv iv av ve ev ends vi ids)(k:Below w.heap.size wr w'):ZQ w' sb B s/\w.grownBy w' (some sb) :=
 ⟨h.dr.keep (k.mono h.bw),⟨k.os.trans h.gr.os,k.tape.trans h.gr.tape,k.output.trans h.gr.output,aJ h.gr.size k.size,fun b a d=>(k.block b a).trans (h.gr.block b a d)⟩⟩
theorem Vu.pushV{i:Nat}{d:Value}{x:Int}(h:Vu w wr lab sb B s fb vals G c xs pv iv av ve ev ends vi ids xb p q t ps is vv vs)(g:wr.grownBy w' vv.ownBlock)(n:w'.ownsRow w.heap.size 2 1 d i (Xt vs++[.int .i64 x]))(m:i=vs.length+1)(l:d.ownBlock=vv.ownBlock\/d.ownBlock=some wr.heap.size) :
 ∃lab',Vu w w' lab' sb B s fb vals G c xs pv iv av ve ev ends vi ids xb p q t ps is d (vs++[x]):=by
 obtain⟨lab',o,k⟩:=h.x.xv.grow g n l h.f.fr;have a:∀b,lab b=(0,0,0)->lab b≠(5,ends.length,0):=fun b e=>by rw[e];simp
 have f:=h.f.low (h.x.xv.below g (aA _) h.f.gr.size);refine⟨lab',⟨h.f.sp k (a _ h.f.resl) (a _ h.f.fbl) (fun b _ _ _ j=>j) f.1 f.2,⟨h.x.bx.sp k (dU h.x.bb) (a _ h.x.bl),(k.same _ (dU h.x.bb) h.x.bx.lt (a _ h.x.bl)).2.trans h.x.bl,h.x.bb,h.x.xp.sp k (fun b e=>by rw[e];simp),h.x.xi.sp k (fun b e=>by rw[e];simp),?_⟩,h.ne⟩⟩;subst m;have e:Xt (vs++[x])=Xt vs++[.int .i64 x]:=by simp[Xt]
 rw[e,aQ];exact o
theorem Vu.pushP{n:Nat}{a:Value}{x:Int}(h:Vu w wr lab sb B s fb vals G c xs pv iv av ve ev ends vi ids xb p q t ps is vv vs)(l:wr.grownBy w' p.ownBlock)(y:w'.ownsRow w.heap.size 96 2 a n (Yh Zz ps++[.int .i64 x,.slice none 0 0]))(v:n=ps.length+1)(u:a.ownBlock=p.ownBlock\/a.ownBlock=some wr.heap.size) :
 Bx w' xb #[p,q,.int .i64 t.kind,.int .i64 t.a,.int .i64 t.to,.int .i64 t.els] 90/\∃lab',Vu w (w'.setCell ⟨xb,0,none⟩ a) lab' sb B s fb vals G c xs pv iv av ve ev ends vi ids xb a q t (ps++[⟨x,[]⟩]) is vv vs:=by
 obtain⟨lab',z,d⟩:=h.x.xp.grow l y u h.f.fr;have f:∀b,lab b=(0,0,0)->lab b≠(2,ends.length,0):=fun b e=>by rw[e];simp
 have k:=h.f.low (h.x.xp.below l (aA _) h.f.gr.size);have m:=h.x.bx.sp d (dU h.x.bb) (f _ h.x.bl);have g:=(d.same _ (dU h.x.bb) h.x.bx.lt (f _ h.x.bl)).2.trans h.x.bl;have i:XW w' (w'.setCell ⟨xb,0,none⟩ a) lab' lab' w.heap.size (fun b=>b≠xb):=XW.put _ _ _;have j:∀b,(lab' b).1≠0->b≠xb:=fun b o e=>o (by rw[e,g])
 refine⟨m,lab',⟨(h.f.sp d (f _ h.f.resl) (f _ h.f.fbl) (fun b _ r _ _=>r) k.1 k.2).put g h.x.bb h.ne,⟨?_,g,h.x.bb,?_,(h.x.xi.sp d (fun b e=>by rw[e];simp)).sp i (fun b e=>j b (by rw[e];simp)),(h.x.xv.sp d (fun b e=>by rw[e];simp)).sp i (fun b e=>j b (by rw[e];simp))⟩,h.ne⟩⟩
 ·have:=m.set 0 a
  simpa using this
 ·subst v
  have e:Yh Zz (ps++[⟨x,[]⟩])=Yh Zz ps++[.int .i64 x,.slice none 0 0]:=by unfold Yh;rw[Zo];rfl
  rw[e,aQ];exact z.sp i (fun b e=>j b (by rw[e];simp))
theorem Vu.pushI{n:Nat}{a:Value}{x:Yg}(h:Vu w wr lab sb B s fb vals G c xs pv iv av ve ev ends vi ids xb p q t ps is vv vs)(l:wr.grownBy w' q.ownBlock)(y:w'.ownsRow w.heap.size 98 5 a n (YC is++[.int .i64 x.op,.int .i64 x.dst,.int .i64 x.a,.int .i64 x.b,.int .i64 x.imm]))(v:n=is.length+1)(u:a.ownBlock=q.ownBlock\/a.ownBlock=some wr.heap.size) :
 Bx w' xb #[p,q,.int .i64 t.kind,.int .i64 t.a,.int .i64 t.to,.int .i64 t.els] 90/\∃lab',Vu w (w'.setCell ⟨xb,1,none⟩ a) lab' sb B s fb vals G c xs pv iv av ve ev ends vi ids xb p a t ps (is++[x]) vv vs:=by
 obtain⟨lab',z,d⟩:=h.x.xi.grow l y u h.f.fr;have f:∀b,lab b=(0,0,0)->lab b≠(3,ends.length,0):=fun b e=>by rw[e];simp
 have k:=h.f.low (h.x.xi.below l (aA _) h.f.gr.size);have m:=h.x.bx.sp d (dU h.x.bb) (f _ h.x.bl);have g:=(d.same _ (dU h.x.bb) h.x.bx.lt (f _ h.x.bl)).2.trans h.x.bl;have i:XW w' (w'.setCell ⟨xb,1,none⟩ a) lab' lab' w.heap.size (fun b=>b≠xb):=XW.put _ _ _;have j:∀b,(lab' b).1≠0->b≠xb:=fun b o e=>o (by rw[e,g])
 refine⟨m,lab',⟨(h.f.sp d (f _ h.f.resl) (f _ h.f.fbl) (fun b _ _ r _=>r) k.1 k.2).put g h.x.bb h.ne,⟨?_,g,h.x.bb,(h.x.xp.sp d (fun b e=>by rw[e];simp)).sp i (fun b e=>j b (by rw[e];simp)),?_,(h.x.xv.sp d (fun b e=>by rw[e];simp)).sp i (fun b e=>j b (by rw[e];simp))⟩,h.ne⟩⟩
 ·have:=m.set 1 a
  simpa using this
 ·subst v
  have e:YC (is++[x])=YC is++[.int .i64 x.op,.int .i64 x.dst,.int .i64 x.a,.int .i64 x.b,.int .i64 x.imm]:=by unfold YC;rw[Zo];rfl
  rw[e,aQ];exact z.sp i (fun b e=>j b (by rw[e];simp))
def laid6(w:World)(G k:Nat)(p q:Value)(t:Yj):World:=(((((w.setCell ⟨G,k,none⟩ p).setCell ⟨G,k+1,none⟩ q).setCell ⟨G,k+2,none⟩ (.int .i64 t.kind)).setCell ⟨G,k+3,none⟩ (.int .i64 t.a)).setCell ⟨G,k+4,none⟩ (.int .i64 t.to)).setCell ⟨G,k+5,none⟩ (.int .i64 t.els)
theorem sp6(w:World)(lab:Nat->Nat × Nat × Nat)(d G k:Nat)(p q:Value)(t:Yj):XW w (laid6 w G k p q t) lab lab d (fun b=>b≠G) :=
 ((((((XW.put G _ _).trans (XW.put G _ _)).trans (XW.put G _ _)).trans (XW.put G _ _)).trans (XW.put G _ _)).trans (XW.put G _ _)).weak (fun _ a=>⟨⟨⟨⟨⟨a,a⟩,a⟩,a⟩,a⟩,a⟩)
theorem Vu.es9(h:Vu w wr lab sb B s fb vals G c xs pv iv av ve ev ends vi ids xb p q t ps is vv vs):Xv (laid6 wr G (ends.length*6) p q t) lab (6,0,0) w.heap.size 55 1 ve ends.length (Yu (fun i _=>[ev i]) 0 ends)/\(∀b,(laid6 wr G (ends.length*6) p q t).heap.size<=b->lab b=(0,0,0))/\(laid6 wr G (ends.length*6) p q t).heap.size=wr.heap.size:=by
 have a:=h.f.fn.blks.blk.2;have k:=sp6 wr lab w.heap.size G (ends.length*6) p q t;exact⟨h.f.es.sp k (fun _ e e2=>by rw[e2,a]at e;simp at e),k.fresh h.f.fr,by simp[laid6,World.setCell]⟩
theorem Vu.close{o:Obj}{ve':Value}{n':Nat}(h:Vu w wr lab sb B s fb vals G c xs pv iv av ve ev ends vi ids xb p q t ps is vv vs)(y:ends.length<xs.length)(x:((laid6 wr G (ends.length*6) p q t).alloc o).grownBy w' ve.ownBlock)(M:w'.ownsRow w.heap.size 55 1 ve' n' (Yu (fun i _=>[ev i]) 0 ends++[vv]))(L:n'=ends.length+1)(I:ve'.ownBlock=ve.ownBlock\/ve'.ownBlock=some ((laid6 wr G (ends.length*6) p q t).alloc o).heap.size)(N:∀S∈ps,S.args=[]) :
 ∃lab' R P D E,JU w w' lab' sb B s fb vals G c (xs.set ends.length ⟨ps,is,t⟩) R P D ve' E (ends++[vs]) vi ids:=by
 have J:=h.f.fn.blks.blk.2;have d:=h.f.fn.blks.blk.1.1;have Q:=sp6 wr lab w.heap.size G (ends.length*6) p q t;have m:=(Q.trans (XW.box o)).weak (fun b g=>⟨g,trivial⟩);have f:∀b,lab b≠(1,0,0)->b≠G:=fun b g e=>g (by rw[e];exact J)
 have v:=h.f.es.sp m (fun b e=>f b (by rw[e];simp));obtain⟨lab',O,A⟩:=v.grow x M I (m.fresh h.f.fr);have a:=m.trans A;have r:w.heap.size≠G/\lab w.heap.size≠(6,0,0):=⟨f _ (by rw[h.f.resl];simp),by rw[h.f.resl];simp⟩;have hF:fb≠G/\lab fb≠(6,0,0):=⟨f _ (by rw[h.f.fbl];simp),by rw[h.f.fbl];simp⟩;have l:∀b,lab b≠(1,0,0)->lab b≠(6,0,0)->b≠G/\lab b≠(6,0,0):=fun b e1 e2=>⟨f b e1,e2⟩
 have C:Below w.heap.size wr ((laid6 wr G (ends.length*6) p q t).alloc o):=Below.alloc ((((((((Below.refl _ _).setCell d _).setCell d _).setCell d _).setCell d _).setCell d _).setCell d _)) (by have:=h.f.gr.size;simpa [laid6,World.setCell]using this) o;have low:=C.trans (v.below x (aA _) (aJ h.f.gr.size C.size));have u:=h.f.low low;have F:=(h.f.fn.lay y ⟨ps,is,t⟩ p q Zz h.x.xp h.x.xi (fun j k=>by
  have:=N ps[j] (aH k);rw[this];exact⟨dA _ _ _ _,fun b e=>by cases e⟩))
 have H:=(F.sp (XW.box (lab:=lab) (base:=w.heap.size) o) 0 (fun _ _ _ _ _=>trivial) (bC (fun _ _=>trivial))).sp A 0 (fun b T n _ _ e=>by rw[e]at n;simp at n) (bC (fun b e e2=>by rw[e2]at e;simp at e));refine⟨lab',fun j=>if j=ends.length then p else pv j,fun j=>if j=ends.length then q else iv j,fun j=>if j=ends.length then Zz else av j,fun j=>if j=ends.length then vv else ev j,⟨u.1,u.2,h.f.bw,h.f.res.sp a (aA _) r,(a.same _ (aA _) h.f.res.lt r).2.trans h.f.resl,?_,(a.same _ (dU h.f.fbb) h.f.fbx.lt hF).2.trans h.f.fbl,h.f.fbb,?_,?_,fun i K=>?_,h.f.id.sp a (fun b e=>l b (by rw[e];simp) (by rw[e];simp)),a.fresh h.f.fr,fun j k=>?_⟩⟩;rotate_left
 ·rw[bL]
  exact H
 ·subst L
  have e:Yu (fun i (_:List Int)=>[if i=ends.length then vv else ev i]) 0 (ends++[vs])=Yu (fun i _=>[ev i]) 0 ends++[vv]:=by
   rw[Zo,aV,aU rfl,ZF (f':=fun i _=>[ev i]) 0 ends (fun i y=>by rw[aV,aM oM])]
  rw[e,aQ];exact O
 ·by_cases e:i<ends.length
  ·rw[fA e,aM oM]
   exact(h.f.evs i e).sp a (fun b e=>l b (by rw[e];simp) (by rw[e];simp))
  ·have:i=ends.length:=by simp at K;omega
   subst this;rw[fN (aA _),aU rfl];simp only[kL,eM];exact h.x.xv.sp a (fun b e=>l b (by rw[e];simp) (by rw[e];simp))
 ·have z:j≠ends.length/\ends.length<=j:=by simp at k;omega
  simp only[aM z.1];exact h.f.nil_ j z.2
 ·rw[bL]
  exact h.f.fbx.sp a (dU h.f.fbb) hF
end
end Go.Proofs.YtghnlncgiihhgaaGreatDoor
