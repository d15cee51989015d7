import Derived.Test.YtghnlncgiihhgaaGreatDoorDG3
namespace Go.Proofs.YtghnlncgiihhgaaGreatDoor
set_option maxHeartbeats 8000000
set_option maxRecDepth 100000
open Go.RowKit Go.Proofs.Tryz
structure X1 where
 k:Nat
 i:Nat
 gd:GdR
 ve:Value
 d12:Value
 d13:Value
 d14:Value
 d15:Value
 d16:Value
 d17:Value
 d18:Value
 d19:Value
 d20:Value
 d21:Value
 d22:Value
 d23:Value
 tl:List Value
theorem Tryz.infoSetD:(prog.info? 55).map (fun i=>(i.zero,i.size,i.bytes))=some (some (.agg #[.slice none 0 0]),1,24):=vZ
theorem ji{near:Bool}:∀(k:Nat)(s:Sr)(a:List Int)(v:Nat)(b:List Yg),a.length<=(Z9 near k s a v b).2.1.length
 | 0,_,_,_,_=>aA _
 | k+1,s,a,v,b=>by
  rw[Z9];split
  ·have:=ji (near:=near) k (instrP s a v near).2 (a++[(v:Int)]) (v+1) (b++[(instrP s a v near).1])
   simp only[aQ,bA,bO]at this;omega
  ·exact ji k _ _ _ _
theorem Ce(i v:Nat)(a:List Int)(s:Sr):a.length<=(hdB i v a s).vs.length/\(i=0->0<(hdB i v a s).vs.length):=by
 unfold hdB;split
 ·refine⟨?_,fun _=>?_⟩
  ·show a.length<=(a++[(v:Int)]).length
   simp
  ·show 0<(a++[(v:Int)]).length
   simp
 ·exact⟨aA _,fun h=>absurd h (by assumption)⟩
theorem lp1{cj:Exit->Act->World->Prop}(w:World)(j B:Nat)(n G h:Nat)(A N z:Nat)(f:List Int)(d:Bool)(M:GdR)(c1 c2 c3 c4 c5 c9:Value)(hQ:Hid (∀h (Z:Act) bc v w,cj (.panic h) (Z.put (some bc) v) w->cj (.panic h) Z w))(hN:N<=11)(h7:Hid (f.length=N))(e7:Hid (∀b,0<b->b<N->∃h:Nat,f.getD b 0=(h:Int)/\h<b))
 (ey:∀(a:GdR)(s bo bp bq br bs bt bv bw bx bz b0 b1:Value)(J:List Value)(T:World),J.length=251->a=Zm d f N 0 M->(a.ends.length=N/\a.xs.length=N/\a.v<=14*N/\∀e∈a.ends,0<e.length/\e.length<=14*N)->GoA w T j B a n G h s (.slice (some ⟨A,0,none⟩) N z) f->cj (.exit 0) ⟨(.pointer (some ⟨j,0,none⟩)::c1::c2::c3::c4::c5::.bool d::.pointer (some ⟨n,0,none⟩)::.slice (some ⟨A,0,none⟩) N z::c9::s::.int .i64 ((N:Nat):Int)::bo::bp::bq::br::bs::bt::bv::bw::bx::bz::b0::b1::J).toArray,[]⟩ T)
 (s bo bp bq br bs bt bv bw bx bz b0 b1:Value) (J:List Value) (wr:World) (I:J.length=251) (b6:Hid (M.ends=[]/\M.v=0/\M.xs.length=N)) (ba:Hid (GoA w wr j B M n G h s (.slice (some ⟨A,0,none⟩) N z) f)) :
 Code.wp prog (Code.loop gB1) cj ⟨(.pointer (some ⟨j,0,none⟩)::c1::c2::c3::c4::c5::.bool d::.pointer (some ⟨n,0,none⟩)::.slice (some ⟨A,0,none⟩) N z::c9::s::.int .i64 ((0:Nat):Int)::bo::bp::bq::br::bs::bt::bv::bw::bx::bz::b0::b1::J).toArray,[]⟩ wr:=by
 have HX:=Xa ey;clear ey;obtain⟨i0,h6,j2,j3,ka⟩:=Xq Tryz.infoSetD;obtain⟨j0,e8,gc,gf,gg⟩:=Xq Tryz.info2';obtain⟨m0,ic,i6,jj,js⟩:=Xq Tryz.infoInsD;refine iY (fun a' wr=>∃x:X1,a'=⟨(.pointer (some ⟨j,0,none⟩)::c1::c2::c3::c4::c5::.bool d::.pointer (some ⟨n,0,none⟩)::.slice (some ⟨A,0,none⟩) N z::c9::x.ve::.int .i64 ((x.i:Nat):Int)::x.d12::x.d13::x.d14::x.d15::x.d16::x.d17::x.d18::x.d19::x.d20::x.d21::x.d22::x.d23::x.tl).toArray,[]⟩/\x.tl.length=251/\x.i+x.k=N/\Hid (x.gd.ends.length=x.i/\x.gd.xs.length=N)/\Hid (Zm d f x.k x.i x.gd=Zm d f N 0 M)/\Hid (x.gd.v<=14*x.i/\∀e∈x.gd.ends,0<e.length/\e.length<=14*x.i)/\Hid (GoA w wr j B x.gd n G h x.ve (.slice (some ⟨A,0,none⟩) N z) f)) (fun a' _=>N-(intOf (a'.tmps.getD 11 undef)).toNat) ⟨⟨N,0,M,s,bo,bp,bq,br,bs,bt,bv,bw,bx,bz,b0,b1,J⟩,rfl,I,by show 0+N=N;omega,Xa ⟨by show M.ends.length=0;rw[b6.1];rfl,b6.2.2⟩,Xa rfl,Xa ⟨by show M.v<=14*0;rw[b6.2.1];omega,fun e he=>absurd he (by show ¬e∈M.ends;rw[b6.1];simp)⟩,ba⟩ ?_;clear ba I b6;rintro a' wr ⟨⟨b9,i,a,s,bo,bp,bq,br,bs,bt,bv,bw,bx,bz,b0,b1,J⟩,rfl,I,h9,o,HE,V,HA⟩;dsimp only at I h9 o HE V HA |-
 conv=>arg 2;whnf
 obtain⟨eq,rfl⟩:=spr J I;clear I;have af:=HA.fn.1;have cp:=HA.fn.2;rw[o.2]at af;cases b9 with
 | succ b9 =>
  have dk:i<N:=oM;have kv:(i:Int)<N:=oM
  go_upto_if 71 with fail
  have a9:Hid (GoV w (wr.alloc (.cells #[] 2)) j B a n G h s (.slice (some ⟨A,0,none⟩) N z) f (.slice (some ⟨wr.heap.size,0,none⟩) 0 0) []):=Xa HA.start;clear HA;have kk:Hid (w.heap.size<=wr.heap.size):=Xa cp;clear cp af;generalize wr.alloc _=wa at *;generalize wr.heap.size=vb at *
  go_cut [12] from 62 to 202 (fun dd wx=>Hid (GoV w wx j B a n G h s (.slice (some ⟨A,0,none⟩) N z) f dd (if i=0 then []else a.ends.getD (f.getD i 0).toNat [])))
  case first =>
   by_cases q:i=0
   ·have ho:¬(0:Int)<(i:Int):=oM
    have c6:=Xa q;clear q
    go_wp2
    go_meet;rw[aU c6.out];exact a9
   ·have ho:(0:Int)<(i:Int):=oM
    have c6:=Xa q;obtain⟨X,ed,hz⟩:=e7.out i oM dk;have b4:X<a.ends.length:=oN o.out
    have R:=V.2 (a.ends.getD X []) (oO a.ends [] b4);obtain⟨kt,ks,ge,ce,gx,cx,e1,ku,e2,hy,e6,e9⟩:=a9.dom (oN h7.out) ed b4 R.1;cases e1;have gs:Hid ((f.getD i 0).toNat=X):=Xa (by rw[ed];simp);rw[o.1]at e2;subst e2;have g1:=Xa e9;have kl:=Xa e6;clear e9 e6 ed q;have c8:=Xa R;clear R b4;obtain⟨lx,R⟩:∃lx,lx=(a.ends.getD X []).length:=⟨_,rfl⟩;rw[<-R]at hy;have bm:=Xa R;clear R;obtain⟨-,-,k8⟩:=a9.fn
    go_wp2_with (at_builtin;refine bT _ rfl _ _ 27 rfl w.heap.size 2 j0 (.int .i64 0) 1 8 underlying27 e8 gc gf gg rfl vY _ 0 [] rfl a9.own ⟨gx,0,none⟩ lx cx (Xt (a.ends.getD X [])) rfl ?c0 g1.out ?c2 ?c3 ?c4 ?c5 ?_)
    case c0=>rw[bm.out];simp[Xt]
    case c2=>intro ca O;unfold Xt at O;obtain⟨lk,_,rfl⟩:=aY.1 O;rfl
    case c3=>unfold maxLen;have:=c8.out;have:=bm.out;omega
    case c4=>have:=c8.out;have:=bm.out;omega
    intro v8 w8 aq bb dw b3;have g3:=Xa (a9.push (vs':=a.ends.getD X []) bb aq (by rw[bO,<-bm.out,aV]) b3);obtain⟨g8,hi,rfl,aj,ad⟩:=Xm aq (oP c8.out bm.out);clear aj ad dw b3 aq bb
    go_wp2
    go_meet;rw[aM c6.out,gs.out];exact g3
  case rest =>
   have ch:=hcut;clear hcut a9;have dc:Hid ((if i=0 then []else a.ends.getD (f.getD i 0).toNat []).length<=14*i/\(i≠0->0<(if i=0 then []else a.ends.getD (f.getD i 0).toNat []).length)):=Xa (by
    by_cases q:i=0
    ·rw[aU q]
     exact⟨aN _,fun ba=>absurd q ba⟩
    ·rw[aM q]
     obtain⟨X,ed,hz⟩:=e7.out i oM dk;have b4:X<a.ends.length:=oN o.out
     have R:=V.2 (a.ends.getD X []) (oO a.ends [] b4);rw[ed,dM];exact⟨R.2,fun _=>R.1⟩)
   have cz:Hid (Zm d f b9 (i+1) ⟨a.xs.set i (VL d i (predsFrom a.xs 0 (i:Int)).length (a.xs.getD i XV).te (if i=0 then []else a.ends.getD (f.getD i 0).toNat []) a.v a.s).blk,a.ends++[(VL d i (predsFrom a.xs 0 (i:Int)).length (a.xs.getD i XV).te (if i=0 then []else a.ends.getD (f.getD i 0).toNat []) a.v a.s).vs],(VL d i (predsFrom a.xs 0 (i:Int)).length (a.xs.getD i XV).te (if i=0 then []else a.ends.getD (f.getD i 0).toNat []) a.v a.s).v,(VL d i (predsFrom a.xs 0 (i:Int)).length (a.xs.getD i XV).te (if i=0 then []else a.ends.getD (f.getD i 0).toNat []) a.v a.s).s⟩=Zm d f N 0 M):=HE;clear HE;generalize (if i=0 then []else a.ends.getD (f.getD i 0).toNat [])=c at *;have dl:i<a.xs.length:=oN o.out
   have el:Hid ((a.xs.getD i XV).te=a.xs[i].te):=Xa (by simp[dl]);obtain⟨p0,p1,p2,p3,p4,p5⟩:=ch.cells2 o.1 dl;obtain⟨af,h5,cp⟩:=ch.fn;rw[o.2]at af;rw[el.out]at cz;have cc:=Xa (ch.boxed a.xs[i].te);clear ch;generalize fs:a.xs[i].te=r at *;have ko:=Xa fs;clear fs el;obtain⟨⟨f1,f0,fz⟩,i2,gb,e0,cq⟩:=cc.fn;rw[o.2]at f1
   go_wp2_with fail
   have g6:Hid (wc.heap.size=wc.heap.size):=Xa rfl;generalize wc.alloc _=wx at *;clear p0 p1 p2 p3 p4 p5 af h5 cp g6;generalize wc.heap.size=t at *;have em:Hid (N=a.xs.length):=Xa o.2.symm;refine(ZE a.v (some ⟨G,0,none⟩) N h (i:Int) a.xs w.heap.size wx.heap.size wx (Xa cc.blks) em oM (aA _)).mono ?_;rintro e w1 ⟨pa,lg,rfl,es,-⟩;have a7:=Xa (cc.below es);clear es cc f1 f0 fz i2 gb e0 cq;have bl:=cz;clear cz;generalize (predsFrom a.xs 0 (i:Int)).length=E at *
   go_upto_if 92 with fail
   go_cut [15] from 62 to 202 (fun hf wz=>hf=.int .i64 (((Uy E a.s).1:Nat):Int)/\Hid (GoS w wz j B (Uy E a.s).2 a.v a n G h s (.slice (some ⟨A,0,none⟩) N z) f t r [] [] u12 c))
   case first =>
    have y:Hid (Uy E a.s=if 1<E then ((nextP a.s 4).1.toNat,(nextP a.s 4).2)else if E=1 then (if (nextP a.s 6).1=0 then 1 else 0,(nextP a.s 6).2)else (0,a.s)):=Xa rfl;by_cases h1:1<E
    ·have ht:(1:Int)<E:=oM
     rw[aU h1]at y
     go_wp2_with fail
     refine(XC j B a.s 4 w1 (Xa a7.dr) oM oM).mono ?_;rintro e w2 ⟨rfl,k,u⟩;have dn:=XE a.s (n:=4) oM;obtain⟨F,s1,b8⟩:∃F s9,nextP a.s 4=(F,s9):=⟨_,_,rfl⟩;rw[b8]at k y dn |-;dsimp only at k y dn |-;obtain⟨F,rfl⟩:=Zv dn.1;rw[dM]at y;have L:=Xa (a7.call u k);clear k u b8
     go_wp2
     go_meet;rw[y.out];exact⟨rfl,L⟩
    ·have ht:¬(1:Int)<E:=oM
     rw[aM h1]at y;by_cases h2:E=1
     ·have hv:((E:Int)==1)=true:=by simp;omega
      rw[aU h2]at y;subst h2
      go_wp2_with fail
      refine(XC j B a.s 6 w1 (Xa a7.dr) oM oM).mono ?_;rintro e w2 ⟨rfl,k,u⟩;obtain⟨F,s1,b8⟩:∃F s9,nextP a.s 6=(F,s9):=⟨_,_,rfl⟩;rw[b8]at k y |-;dsimp only at k y |-;have L:=Xa (a7.call u k);clear k u b8;by_cases hr:F=0
      ·have ir:(F==0)=true:=by simpa using hr
       rw[aU hr]at y;clear hr
       go_wp2
       go_meet;rw[y.out];exact⟨rfl,L⟩
      ·have ir:(F==0)=false:=by simpa using hr
       rw[aM hr]at y;clear hr
       go_wp2
       go_meet;rw[y.out];exact⟨rfl,L⟩
     ·have hv:((E:Int)==1)=false:=by simp;omega
      rw[aM h2]at y
      go_wp2
      go_meet;rw[y.out];exact⟨rfl,a7⟩
   case rest =>
    obtain⟨rfl,cf⟩:=hcut;clear a7;have d0:=f9 E a.s;have ek:Hid (a.v<=5000/\c.length<=4000):=Xa (oP V.out dc.out);obtain⟨P,hP⟩:∃P,P=Uy E a.s:=⟨_,rfl⟩;have cw:Hid (∀d i bc c v,VL d i E bc c v a.s=⟨⟨VK P.1 v,(Z9 d (hdB i (v+P.1) (c++ZS P.1 v) P.2).cnt (hdB i (v+P.1) (c++ZS P.1 v) P.2).s (hdB i (v+P.1) (c++ZS P.1 v) P.2).vs (hdB i (v+P.1) (c++ZS P.1 v) P.2).v (hdB i (v+P.1) (c++ZS P.1 v) P.2).ins).1,(terG d bc (Z9 d (hdB i (v+P.1) (c++ZS P.1 v) P.2).cnt (hdB i (v+P.1) (c++ZS P.1 v) P.2).s (hdB i (v+P.1) (c++ZS P.1 v) P.2).vs (hdB i (v+P.1) (c++ZS P.1 v) P.2).v (hdB i (v+P.1) (c++ZS P.1 v) P.2).ins).2.1 (Z9 d (hdB i (v+P.1) (c++ZS P.1 v) P.2).cnt (hdB i (v+P.1) (c++ZS P.1 v) P.2).s (hdB i (v+P.1) (c++ZS P.1 v) P.2).vs (hdB i (v+P.1) (c++ZS P.1 v) P.2).v (hdB i (v+P.1) (c++ZS P.1 v) P.2).ins).2.2.2).1⟩,(Z9 d (hdB i (v+P.1) (c++ZS P.1 v) P.2).cnt (hdB i (v+P.1) (c++ZS P.1 v) P.2).s (hdB i (v+P.1) (c++ZS P.1 v) P.2).vs (hdB i (v+P.1) (c++ZS P.1 v) P.2).v (hdB i (v+P.1) (c++ZS P.1 v) P.2).ins).2.1,(Z9 d (hdB i (v+P.1) (c++ZS P.1 v) P.2).cnt (hdB i (v+P.1) (c++ZS P.1 v) P.2).s (hdB i (v+P.1) (c++ZS P.1 v) P.2).vs (hdB i (v+P.1) (c++ZS P.1 v) P.2).v (hdB i (v+P.1) (c++ZS P.1 v) P.2).ins).2.2.1,(terG d bc (Z9 d (hdB i (v+P.1) (c++ZS P.1 v) P.2).cnt (hdB i (v+P.1) (c++ZS P.1 v) P.2).s (hdB i (v+P.1) (c++ZS P.1 v) P.2).vs (hdB i (v+P.1) (c++ZS P.1 v) P.2).v (hdB i (v+P.1) (c++ZS P.1 v) P.2).ins).2.1 (Z9 d (hdB i (v+P.1) (c++ZS P.1 v) P.2).cnt (hdB i (v+P.1) (c++ZS P.1 v) P.2).s (hdB i (v+P.1) (c++ZS P.1 v) P.2).vs (hdB i (v+P.1) (c++ZS P.1 v) P.2).v (hdB i (v+P.1) (c++ZS P.1 v) P.2).ins).2.2.2).2⟩):=Xa (fun d i bc c v=>by rw[hP];rfl);rw[<-hP]at cf d0 |-;clear hP;obtain⟨l,s1⟩:=P;dsimp only at cf d0 cw |-
    go_wp2_with fail
    refine lp2 w j B s1 a.v a n G h s (.slice (some ⟨A,0,none⟩) N z) f t r d c l _ _ _ _ _ _ _ _ _ _ _ _ _ _ _ _ _ d0 ek.1 ek.2 ?_ _ _ _ rfl cf;rintro vv J w2 I fi;have L:=Xa fi;clear fi cf;obtain⟨eq,rfl⟩:=spr J I;clear I;have cd:Hid (a.v+l<=3000/\(c++ZS l a.v).length<=3000):=Xa (by have:=V.out;have:=dc.out;rw[aQ,Ub];omega);have gz:Hid (a.v+l<=14*i+3/\(c++ZS l a.v).length<=14*i+3/\(i≠0->0<(c++ZS l a.v).length)):=Xa (by
     have:=V.out;have h2:=dc.out;rw[aQ,Ub];exact⟨oM,oM,fun ba=>by have:=h2.2 ba;omega⟩)
    have ee:=Xa (cw.out d i r c a.v);clear cw;rw[ee.out]at bl;clear ee;generalize a.v+l=m at *;generalize c++ZS l a.v=Q at *;have i3:=L.dr.src.c3;have ih:=L.dr.ok.size
    go_wp2_with fail
    refine(XC j B s1 (3+s1.size) w2 (Xa L.dr) oM oM).mono ?_;rintro e w3 ⟨rfl,k,u⟩;have ds:=XE s1 (n:=3+s1.size) oM;have a8:=Xa (L.call u k);clear k u i3;have U:Hid (hdB i m Q s1=if i=0 then ⟨(nextP s1 (3+s1.size)).1.toNat+1,[⟨2,m,0,0,(nextP (nextP s1 (3+s1.size)).2 3).1⟩],Q++[(m:Int)],m+1,(nextP (nextP s1 (3+s1.size)).2 3).2⟩else ⟨(nextP s1 (3+s1.size)).1.toNat,[],Q,m,(nextP s1 (3+s1.size)).2⟩):=Xa rfl;have a0:=Xa (ru i m Q L.dr.ok);have gv:=Xa (Ce i m Q s1);clear L;generalize hdB i m Q s1=H at *;generalize nextP s1 (3+s1.size)=X3 at *;obtain⟨F,s2⟩:=X3;dsimp only at a8 U ds |-;obtain⟨F,rfl⟩:=Zv ds.1;rw[dM]at U;have k6:F<10:=oM;clear ds ih
    go_upto_if 132 with fail
    go_cut [12,17] from 62 to 202 (fun dd hh wz=>hh=.int .i64 ((H.cnt:Nat):Int)/\Hid (GoS w wz j B H.s H.v a n G h s (.slice (some ⟨A,0,none⟩) N z) f t r (VK l a.v) H.ins dd H.vs))
    case first =>
     by_cases q:i=0
     ·have hs:((i:Int)==0)=true:=by simp;omega
      rw[aU q]at U;clear q;obtain⟨⟨f1,f0,fz⟩,fq,gb,e0,cq⟩:=a8.fn;have g7:=Xa cq;obtain⟨cs,pv,iv,av,ev,p3,q3,ck⟩:=a8.out;obtain⟨qa,qc,fc⟩:=ck.x.xi.form;rw[bO]at fc;subst fc;have x1:Cl w3 t 1 (.slice qa 0 qc):=Bx.cell ck.x.bx rfl;have bf:=Xa ck;clear ck f1 fz cq a8;obtain⟨X4,er⟩:∃g9,g9=nextP s2 3:=⟨_,rfl⟩;obtain⟨r4,s4⟩:=X4;have d1:=er.symm;rw[d1]at U;dsimp only at U;clear er;have db:Hid (m<=3000/\Q.length<=3000):=cd
      go_upto_region 33 with fail
      go_cut [] from 62 to 202 (fun wz=>Hid (GoS w wz j B s4 m a n G h s (.slice (some ⟨A,0,none⟩) N z) f t r (VK l a.v) [⟨2,((m:Nat):Int),0,0,r4⟩] vv Q))
      case first =>
       go_wp2_with fail
       refine Y7 (fun T=>T.cell? ⟨n,0,none⟩=some (.int .i64 ((m:Nat):Int))) (fun hHeld=>?_);refine X0 0 ?_;refine X0 2 ?_;refine X0 3 ?_;refine X0 4 ?_;refine eS (rs:=[1,5]) vZ sP ?_;refine(bQ rfl (fun W hK=>?_) (bQ rfl (fun W hK=>?_) dY))
       focus
        go_simp;refine hK _ _ kP (fun hHeld=>?_);clear hK
        try simp only[xX]
        refine Xs 5 (fun W hK=>?_);go_simp
        go_at_call 29
        refine(XC j B s2 3 _ (Xa bf.drew.f.dr) oM oM).mono ?_;rintro e w4 ⟨rfl,k,u⟩;have p:=Xa (bf.drew.call u k);rw[d1]at p |-;dsimp only at p |-;have y0:w4.cell? ⟨n,0,none⟩=some (.int .i64 ((m:Nat):Int)):=Bx.cell p.f.fbx rfl;have y1:Cl w4 t 1 (.slice qa 0 qc):=Bx.cell p.x.bx rfl;have fq:=p.f.gr.size;have j1:=p.x.bx.lt;clear k u;refine hK _ _ y0 (fun hHeld=>?_);clear hK;refine X0 6 ?_;refine Xs 7 (fun W hK=>?_);go_simp;refine hK _ _ kP (fun hHeld=>?_);clear hK
       rotate_left
       focus
        go_simp
        go_at_call 29
        refine(XC j B s2 3 _ (Xa bf.drew.f.dr) oM oM).mono ?_;rintro e w4 ⟨rfl,k,u⟩;have p:=Xa (bf.drew.call u k);rw[d1]at p |-;dsimp only at p |-;have y0:w4.cell? ⟨n,0,none⟩=some (.int .i64 ((m:Nat):Int)):=Bx.cell p.f.fbx rfl;have y1:Cl w4 t 1 (.slice qa 0 qc):=Bx.cell p.x.bx rfl;have fq:=p.f.gr.size;have j1:=p.x.bx.lt;clear k u;refine hK _ _ y0 (fun hHeld=>?_);clear hK
        try simp only[xX]
        refine X0 6 ?_;refine eS (rs:=[1,7]) vZ sP ?_;refine(bQ rfl (fun W hK=>?_) (bQ rfl (fun W hK=>?_) dY))
       focus
        go_simp;refine hK _ _ kP (fun hHeld=>?_);clear hK
        try simp only[xX]
        refine Xs 7 (fun W hK=>?_);go_simp;refine hK _ _ kP (fun hHeld=>?_);clear hK
       rotate_left
       focus
        go_simp;refine hK _ _ kP (fun hHeld=>?_);clear hK
        try simp only[xX]
        refine Xs 1 (fun W hK=>?_);go_simp;refine hK _ _ kP (fun hHeld=>?_);clear hK
       all_goals (
        refine Xs 8 (fun W hK=>?_);refine YL rfl _ _ 86 rfl w.heap.size 98 m0 (.agg #[.int .i64 0,.int .i64 0,.int .i64 0,.int .i64 0,.int .i64 0]) 5 40 underlying86 ic i6 jj js rfl vY (.slice qa 0 qc) 0 [] rfl ?s1 ⟨w4.heap.size,0,none⟩ 1 1 [.int .i64 2,.int .i64 ((m:Nat):Int),.int .i64 0,.int .i64 0,.int .i64 r4] rfl rfl ?s2 ?s3 ?s4 ?s5 ?s6 ?_
        case s1=>exact p.x.xi.own.alloc _
        case s2=>exact World.news_of_block (World.alloc_heap_new _ _)
        case s3=>intro ca O;simp at O;rcases O with rfl | rfl | rfl | rfl<;>rfl
        case s4=>unfold maxLen;omega
        case s5=>omega
        case s6=>simp;omega
        intro v8 w8 aq bb dw b3;obtain⟨d2,d4,df⟩:=(p.box _).pushI (x:=⟨2,((m:Nat):Int),0,0,r4⟩) bb aq rfl (by rw[aO];simpa using b3);obtain⟨g8,hi,rfl,aj,ad⟩:=Xm aq oM;have z0:w8.cell? ⟨n,0,none⟩=some (.int .i64 ((m:Nat):Int)):=Bx.cell ((p.f.fbx.box _).grown bb (fun e=>Z5 p.x.xi.own p.f.fbx vY e.symm)) rfl;have z1:Cl w8 t 1 (.slice qa 0 qc):=Bx.cell d2 rfl;have zf:=Bx.thaw d2;rw[aV]at df;have gq:=Xa df;clear aj ad dw b3 aq bb df d2;refine hK _ _ z0 (fun hHeld=>?_);clear hK;refine X0 9 ?_;refine Xs 10 (fun W hK=>?_);go_simp;refine hK _ _ ((Xc (Below.heap_setCell _ _ _ _ (kA g7.out))).trans z0) (fun hHeld=>?_);clear hK;refine Yq ?_;clear hHeld z0 z1 zf y0 y1
        go_wp2
        go_meet;exact Xa ⟨_,_,_,_,_,_,_,gq.out⟩)
      case rest =>
       have da:=hcut;have k7:=db.1;clear bf x1 f0;generalize wc=w9 at *;obtain⟨⟨-,hj,hm⟩,i4,-,-,-⟩:=da.fn;obtain⟨vo,va,vc,aa,-⟩:=da.vals;have g5:=Xa vo;obtain⟨ln,al⟩:∃ln,ln=Q.length:=⟨_,rfl⟩;rw[<-al]at aa;subst aa;have c7:=Xa al;clear al vo
       go_wp2_with (at_builtin;refine bT _ rfl _ _ 27 rfl w.heap.size 2 j0 (.int .i64 0) 1 8 underlying27 e8 gc gf gg rfl vY _ Q.length (Xt Q) rfl (g5.alloc _) ⟨w9.heap.size,0,none⟩ 1 1 [.int .i64 ((m:Nat):Int)] rfl rfl ?e1 ?e2 ?e3 ?e4 ?e5 ?_)
       case e1=>exact Yf _ _ _
       case e2=>intro ca O;simp at O;subst O;rfl
       case e3=>unfold maxLen;have:=db.out;omega
       case e4=>have:=db.out;omega
       case e5=>simp;omega
       intro kb kf ap b7 du b2;have eg:=Xa ((da.box _).pushV b7 ap rfl (by rw[aO];exact b2));obtain⟨hn,hc,rfl,aj,ad⟩:=Xm ap oM;clear aj ad du b2 ap b7 hj hm;obtain⟨⟨-,f0,fz⟩,-⟩:=eg.fn
       go_wp2
       go_meet;rw[U.out];have b5:=eg.val (m+1);rw[show((m+1:Nat):Int)=(m:Int)+1 by omega]at b5;exact⟨by show _=Value.int .i64 ((F+1:Nat):Int);rw[kB];rfl,Xa b5⟩
     ·have hs:((i:Int)==0)=false:=by simp;omega
      rw[aM q]at U;clear q
      go_wp2
      go_meet;rw[U.out];exact⟨rfl,a8⟩
    case rest =>
     obtain⟨rfl,ei⟩:=hcut;clear a8 U
     go_wp2_with fail
     refine lp3 w j B a n G h s (.slice (some ⟨A,0,none⟩) N z) f t r (VK l a.v) d H.cnt H.s H.vs H.v H.ins _ _ _ _ _ _ _ _ _ _ _ _ _ _ _ _ a0.1 (oP a0.out cd.out) (oP a0.out cd.out) (oN a0.out) ?_ _ _ _ _ rfl ei;rintro s5 v5 K cr d5 kq J w5 I hR fl;have ab:=Xa fl;have cb:=Xa (WH (near:=d) H.cnt H.s H.vs H.v H.ins);have bi:=Xa (ji (near:=d) H.cnt H.s H.vs H.v H.ins);rw[<-hR]at bl cb bi;clear fl ei hR;dsimp only at bl cb bi;obtain⟨eq,rfl⟩:=spr J I;clear I;obtain⟨cs,pv,iv,av,ev,p5,q5,et⟩:=ab.out;have x2:Cl w5 t 2 (.int .i64 r.kind):=Bx.cell et.x.bx rfl;clear et
     go_upto_if 186 with fail
     have bn:Hid (terG d r K s5=if r.kind=1 then (r,s5)else (⟨r.kind,(YI s5 K d).1,r.to,r.els⟩,(YI s5 K d).2)):=Xa rfl;have eb:=bl;clear bl;generalize terG d r K s5=TT at *
     go_cut [] from 62 to 202 (fun wz=>Hid (GoS w wz j B TT.2 v5 a n G h s (.slice (some ⟨A,0,none⟩) N z) f t TT.1 (VK l a.v) cr d5 K))
     case first =>
      by_cases hk:r.kind=1
      ·have ia:(r.kind != 1)=false:=by simpa using hk
       rw[aU hk]at bn;clear hk
       go_wp2
       go_meet;rw[bn.out];exact ab
      ·have ia:(r.kind != 1)=true:=by simpa using hk
       rw[aM hk]at bn;clear hk;obtain⟨-,va,vc,aa,fx⟩:=ab.vals;obtain⟨ln,al⟩:∃ln,ln=K.length:=⟨_,rfl⟩;rw[<-al]at aa;subst aa;have c7:=Xa al;have g4:=Xa fx;clear al fx;have ib:ln<=5000:=by have:=cb.out;have:=a0.out;have:=cd.out;have:=c7.out;omega
       have i1:j<w.heap.size:=by obtain⟨cs,pv,iv,av,ev,lb,S,hb⟩:=ab.out;exact hb.f.lt
       go_wp2_with fail
       refine(JA j B s5 va ln vc K w.heap.size w5.heap.size d w5 (Xa ab.dr) g4 c7 ib i1 (aA _)).mono ?_;rintro e w6 ⟨rfl,k,u⟩;obtain⟨cs,pv,iv,av,ev,p6,q6,cl⟩:=(ab.call u k);have bi:=Xa cl;have y3:Cl w6 t 3 (.int .i64 r.a):=Bx.cell cl.x.bx rfl;have yz:=Bx.thaw cl.x.bx;clear cl k u
       go_wp2
       go_meet;rw[bn.out];exact Xa ⟨_,_,_,_,_,_,_,bi.terA _⟩
     case rest =>
      have ej:=hcut;clear ab bn x2 hcut;obtain⟨C,s7⟩:=TT;dsimp only at ej eb;obtain⟨cs,pv,iv,av,ev,p7,q7,D⟩:=ej.out;obtain⟨ar,ax,fa⟩:=D.x.xp.form;obtain⟨ay,az,fe⟩:=D.x.xi.form;rw[KI]at fa;obtain⟨Y,dj⟩:∃Y,Y=cr.length:=⟨_,rfl⟩;rw[<-dj]at fe;subst fa fe;have kn:=Xa dj;clear dj;have cv:=Xa D;have x0:Cl wc t 0 (.slice ar l ax):=Bx.cell D.x.bx rfl;have x1:Cl wc t 1 (.slice ay Y az):=Bx.cell D.x.bx rfl;have x2:Cl wc t 2 (.int .i64 C.kind):=Bx.cell D.x.bx rfl;have x3:Cl wc t 3 (.int .i64 C.a):=Bx.cell D.x.bx rfl;have x4:Cl wc t 4 (.int .i64 C.to):=Bx.cell D.x.bx rfl;have x5:Cl wc t 5 (.int .i64 C.els):=Bx.cell D.x.bx rfl;have af:wc.cell? ⟨n,1,none⟩=some (.slice (some ⟨G,0,none⟩) N h):=by rw[em.out];exact Bx.cell D.f.fbx rfl
      have ac:∀S,S<6->∃ca,wc.cell? ⟨G,i*6+S,none⟩=some ca:=fun S hq=>by
       have hw:=D.f.fn.blks;have:=Xz (fun i x=>KU (pv i) (iv i) (Xe.te x)) 0 a.xs i dl S hq;rw[aV]at this;have kx:=KU (pv i) (iv i) a.xs[i].te;refine⟨(UT (pv i) (iv i) a.xs[i].te)[S],hw.cell (this.trans ?_)⟩;exact aC oM
      obtain⟨u0,k0⟩:=ac 0 oM;obtain⟨u1,k1⟩:=ac 1 oM;obtain⟨u2,k2⟩:=ac 2 oM;obtain⟨u3,k3⟩:=ac 3 oM;obtain⟨u4,k4⟩:=ac 4 oM;obtain⟨u5,k5⟩:=ac 5 oM;rw[fW]at k0;have kz:∀S,wc.frozen? ⟨G,S,none⟩=false:=fun S=>D.f.fn.blks.thaw S
      have fr:=D.f.gr.size;clear D ac
      go_upto_region 48 with fail
      clear x0 x1 x2 x3 x4 x5 k0 k1 k2 k3 k4 k5 kz af;obtain⟨di,ez,d3⟩:=cv.es9;rw[o.1]at di ez d3;have gr:Hid (∀ct bd n' T,(((laid6 wc G (i*6) (.slice ar l ax) (.slice ay Y az) C).alloc ct).grownBy T s.ownBlock)->T.ownsRow w.heap.size 55 1 bd n' (Yu (fun i _=>[ev i]) 0 a.ends++[d5])->n'=i+1->(bd.ownBlock=s.ownBlock\/bd.ownBlock=some ((laid6 wc G (i*6) (.slice ar l ax) (.slice ay Y az) C).alloc ct).heap.size)->∃d4 gp gl ep aa,JU w T d4 j B s7 n v5 G h (a.xs.set i ⟨VK l a.v,cr,C⟩) gp gl ep bd aa (a.ends++[K]) (.slice (some ⟨A,0,none⟩) N z) f):=Xa (fun ct bd n' T h1 h2 h3 h4=>by
       have eu:=cv.close (o:=ct) (ve':=bd) (n':=n') (w':=T) (oN o.out) (by rw[o.1];exact h1) h2 (by rw[o.1];exact h3) (by rw[o.1];exact h4) (fun x hx=>by unfold VK at hx;obtain⟨la,_,rfl⟩:=aY.1 hx;rfl);rw[o.1]at eu;exact eu)
      have ef:=Xa di.own;have g2:Hid (w.heap.size<=(laid6 wc G (i*6) (.slice ar l ax) (.slice ay Y az) C).heap.size):=Xa (by rw[d3];exact fr);clear di ez d3 fr;have g0:Hid ((((((wc.setCell ⟨G,i*6,none⟩ (.slice ar l ax)).setCell ⟨G,i*6+1,none⟩ (.slice ay Y az)).setCell ⟨G,i*6+2,none⟩ (.int .i64 C.kind)).setCell ⟨G,i*6+3,none⟩ (.int .i64 C.a)).setCell ⟨G,i*6+4,none⟩ (.int .i64 C.to)).setCell ⟨G,i*6+5,none⟩ (.int .i64 C.els)=laid6 wc G (i*6) (.slice ar l ax) (.slice ay Y az) C):=Xa rfl;rw[g0.out];generalize laid6 wc G (i*6) (.slice ar l ax) (.slice ay Y az) C=w9 at *;obtain⟨ea,ec,i5⟩:∃Z h,s=.slice Z i h:=by
       rcases ef.2 with⟨e,q⟩ | ⟨g,cap,_,e,_⟩
       ·exact⟨none,0,by rw[e,q]⟩
       ·exact⟨_,_,e⟩
      subst i5;obtain⟨kc,kd,ga⟩:∃Z h,d5=.slice Z K.length h:=by
       obtain⟨Z,h,e⟩:=cv.x.xv.form;exact⟨Z,h,e⟩
      obtain⟨vl,f7⟩:∃vl,vl=K.length:=⟨_,rfl⟩;rw[<-f7]at ga;subst ga;have i4:=g2.out;clear f7
      go_wp2_with (at_builtin;refine bT _ rfl _ _ 51 rfl w.heap.size 55 i0 (.agg #[.slice none 0 0]) 1 24 underlying51 h6 j2 j3 ka rfl vY _ i (Yu (fun i _=>[ev i]) 0 a.ends) rfl (ef.alloc _) ⟨w9.heap.size,0,none⟩ 1 1 [.slice kc vl kd] rfl rfl ?f1 ?f2 ?f3 ?f4 ?f5 ?_)
      case f1=>exact Yf _ _ _
      case f2=>intro ca O;simp at O;subst O;rfl
      case f3=>unfold maxLen;omega
      case f4=>omega
      case f5=>simp;omega
      intro kb kf ap b7 du b2;obtain⟨d4,gp,gl,ep,aa,b5⟩:=gr.out _ _ _ _ b7 ap rfl (by rw[aO];exact b2);obtain⟨hn,hc,rfl,aj,ad⟩:=Xm ap oM;have gt:=Xa b5;clear aj ad du b2 ap b7 b5
      go_wp2_with fail
      refine⟨⟨⟨b9,i+1,⟨a.xs.set i ⟨VK l a.v,cr,C⟩,a.ends++[K],v5,s7⟩,_,_,_,_,_,_,_,_,_,_,_,_,_,_⟩,rfl,rfl,(by show i+1+b9=N;omega),Xa ?_,eb,Xa ?_,Xa ⟨_,_,_,_,_,gt.out⟩⟩,by simp[intOf];omega⟩
      ·have:=o.out
       exact⟨by show(a.ends++[K]).length=i+1;rw[aQ,this.1];rfl,by show(a.xs.set i _).length=N;rw[bL];exact this.2⟩
      ·have a1:=cb.out
       have a2:=a0.out;have a3:=gz.out;have a4:=gv.out;have a5:=bi.out;have a6:=V.out;refine⟨by show v5<=14*(i+1);omega,fun e he=>?_⟩;rcases bU.1 he with he | he
       ·have:=a6.2 e he
        show 0<e.length/\e.length<=14*(i+1);omega
       ·simp only[cH,eA,lL]at he
        subst he;show 0<e.length/\e.length<=14*(i+1);have hp:0<H.vs.length:=by
         by_cases q:i=0
         ·exact a4.2 q
         ·have:=a3.2.2 q
          omega
        omega
 | zero =>
  have dk:¬(i:Int)<N:=oM;have h8:i=N:=oM;subst h8
  go_wp2_with fail
  exact HX.out _ _ _ _ _ _ _ _ _ _ _ _ _ _ _ _ rfl HE.out ⟨o.1,o.2,V.1,V.2⟩ HA.out
end Go.Proofs.YtghnlncgiihhgaaGreatDoor
