import Derived.Test.YtffcajcgkblkoaaGreatDoorML0
namespace Go.Proofs.YtffcajcgkblkoaaGreatDoor
set_option maxHeartbeats 8000000
set_option maxRecDepth 100000
open Go.RowKit Go.Proofs.Tryz
structure X1 where
 k:Nat
 i:Nat
 gd:I5
 ve:Value
 d12:Value
 d13:Value
 d14:Value
 d15:Value
 d16:Value
 d17:Value
 d18:Value
 d19:Value
 d20:Value
 d21:Value
 d22:Value
 d23:Value
 tl:List Value
theorem Ni:(prog.info? 69).map (λi=>(i.zero,i.size,i.bytes))=some (some<|.agg #[Hq],1,24):=kR
theorem nW{near:Bool}:∀(k:Nat)(s:Sr)(a:List Int)(v:Nat)(b:List Yg),a.length<=(Z9 near k s a v b).2.1.length
 |0,_,_,_,_=>aA _
 |k+1,s,a,v,b=>by
  rw[Z9];split
  .have:=nW (near:=near) k (E2 s a v near).2 (a++[(v:Int)]) (v+1) (b++[(E2 s a v near).1]);simp only[aQ,bA,bO]at this;omega
  exact nW k _ _ _ _
theorem EQ(i v:Nat)(a:List Int)(s:Sr):a.length<=(Hf i v a s).vs.length/\(i=0->0<(Hf i v a s).vs.length):=by
 unfold Hf;split
 .refine⟨?_,λ_=>?_⟩
  .show a.length<=(a++[(v:Int)]).length;simp
  show 0<(a++[(v:Int)]).length;simp
 exact⟨aA _,λh=>absurd h<|by assumption⟩
theorem NS{cj:Exit->Act->World->Prop}(w:World)(j B:Nat)(o G c:Nat)(y N u:Nat)(h:List Int)(e:Bool)(J:I5)(c1 c2 c3 c4 c5 c9:Value)(hQ:Hs (∀c (W:Act) ba v w,cj (.panic c) (W.put (some ba) v) w->cj (.panic c) W w))(hN:N<=11)(hy:Hs (h.length=N))(e0:Hs (∀b,0<b->b<N->∃c:Nat,h.getD b 0=(c:Int)/\c<b))
 (et:∀(a:I5)(q bm bn bo bp bq br bt bv bw bx bz b0:Value)(E:List Value)(R:World),E.length=251->a=Zm e h N 0 J->(a.ends.length=N/\a.xs.length=N/\a.v<=14*N/\∀f∈a.ends,0<f.length/\f.length<=14*N)->LQ w R j B a o G c q (Hl y N u) h->cj (.exit 0) ⟨(Hn j::c1::c2::c3::c4::c5::.bool e::Hn o::Hl y N u::c9::q::Hp ((N:Nat):Int)::bm::bn::bo::bp::bq::br::bt::bv::bw::bx::bz::b0::E).toArray,[]⟩ R)
 (q bm bn bo bp bq br bt bv bw bx bz b0:Value) (E:List Value) (wr:World) (D:E.length=251) (b6:Hs (J.ends=[]/\J.v=0/\J.xs.length=N)) (ay:Hs (LQ w wr j B J o G c q (Hl y N u) h)) :
 Code.wp prog (Code.loop Mb) cj ⟨(Hn j::c1::c2::c3::c4::c5::.bool e::Hn o::Hl y N u::c9::q::Hp ((0:Nat):Int)::bm::bn::bo::bp::bq::br::bt::bv::bw::bx::bz::b0::E).toArray,[]⟩ wr:=by
 have HX:=Xa et;clear et;let⟨i0,hw,i5,i6,ja⟩:=Xq Ni;let⟨j0,e6,ga,gb,gc⟩:=Xq Nv;let⟨m0,h8,i1,i2,i3⟩:=Xq Nm;refine iY (λa' wr=>∃x:X1,a'=⟨(Hn j::c1::c2::c3::c4::c5::.bool e::Hn o::Hl y N u::c9::x.ve::Hp ((x.i:Nat):Int)::x.d12::x.d13::x.d14::x.d15::x.d16::x.d17::x.d18::x.d19::x.d20::x.d21::x.d22::x.d23::x.tl).toArray,[]⟩/\x.tl.length=251/\x.i+x.k=N/\Hs (x.gd.ends.length=x.i/\x.gd.xs.length=N)/\Hs (Zm e h x.k x.i x.gd=Zm e h N 0 J)/\Hs (x.gd.v<=14*x.i/\∀f∈x.gd.ends,0<f.length/\f.length<=14*x.i)/\Hs (LQ w wr j B x.gd o G c x.ve (Hl y N u) h)) (λa' _=>N-(intOf<|a'.tmps.getD 11 undef).toNat) ⟨⟨N,0,J,q,bm,bn,bo,bp,bq,br,bt,bv,bw,bx,bz,b0,E⟩,rfl,D,by show 0+N=N;omega,Xa ⟨by show J.ends.length=0;rw[b6.1];rfl,b6.2.2⟩,Xa rfl,Xa ⟨by show J.v<=14*0;rw[b6.2.1];omega,λf Y=>absurd Y<|by show ¬f∈J.ends;rw[b6.1];simp⟩,ay⟩ ?_;clear ay D b6;rintro a' wr⟨⟨ca,i,a,q,bm,bn,bo,bp,bq,br,bt,bv,bw,bx,bz,b0,E⟩,rfl,D,h5,m,HE,T,HA⟩;dsimp only at D h5 m HE T HA |-
 conv=>arg 2;whnf
 obtain⟨em,rfl⟩:=LO E D;simp only[ae,Nat.reduceAdd];clear D;have ad:=HA.fn.1;have cm:=HA.fn.2;rw[m.2]at ad;cases ca with
 |succ ca=>
  have di:i<N:=oM;have kf:(i:Int)<N:=oM
  go_upto_if 71 with fail
  have ax:Hs (Ik w (wr.alloc<|.cells #[] 2) j B a o G c q (Hl y N u) h (Hl wr.heap.size 0 0) []):=Xa HA.start;clear HA;have jv:Hs (w.heap.size<=wr.heap.size):=Xa cm;clear cm ad;generalize wr.alloc _=wa at*;generalize wr.heap.size=vb at*
  go_cut [12]from 62 to 202 λdb wx=>Hs<|Ik w wx j B a o G c q (Hl y N u) h db (if i=0 then []else a.ends.getD (h.getD i 0).toNat [])
  case first=>
   by_cases p:i=0
   .have hi:¬(0:Int)<(i:Int):=oM;have cw:=Xa p;clear p;go_wp2;go_meet;rw[aU cw.o];exact ax
   have hi:(0:Int)<(i:Int):=oM;have cw:=Xa p;let⟨V,ed,ht⟩:=e0.o i oM di;have b4:V<a.ends.length:=oN m.o;have O:=T.2 (a.ends.getD V []) (rm a.ends [] b4);let⟨kc,kb,ge,ce,gx,cx,e1,kd,e2,hs,ez,e7⟩:=ax.dom (oN hy.o) ed b4 O.1;cases e1;have gm:Hs ((h.getD i 0).toNat=V):=Xa (by rw[ed];simp);rw[m.1]at e2;subst e2;have gt:=Xa e7;have j1:=Xa ez;clear e7 ez ed p;have c6:=Xa O;clear O b4;let⟨lx,O⟩:∃lx,lx=(a.ends.getD V []).length:=⟨_,rfl⟩;rw[<-O]at hs;have bi:=Xa O;clear O;obtain⟨-,-,ko⟩:=ax.fn;go_wp2_with (at_builtin;refine bT _ rfl _ _ 27 rfl w.heap.size 2 j0 (Hp 0) 1 8 underlying27 e6 ga gb gc rfl vZ _ 0 [] rfl ax.own (Hk gx 0) lx cx (Xt<|a.ends.getD V []) rfl ?c0 gt.o ?c2 ?c3 ?c4 ?c5 ?_)
   case c0=>rw[bi.o];simp[Xt]
   case c2=>intro cb K;unfold Xt at K;obtain⟨ku,_,rfl⟩:=aY.1 K;rfl
   case c3=>unfold maxLen;have:=c6.o;have:=bi.o;omega
   case c4=>have:=c6.o;have:=bi.o;omega
   intro v8 w8 ao az ds b3;have gz:=Xa (ax.push (vs':=a.ends.getD V []) az ao (by rw[bO,<-bi.o,aV]) b3);obtain⟨g8,g9,rfl,af,ac⟩:=Xm ao<|oP c6.o bi.o;clear af ac ds b3 ao az;go_wp2;go_meet;rw[aM cw.o,gm.o];exact gz
  have ch:=hcut;clear hcut ax;have da:Hs ((if i=0 then []else a.ends.getD (h.getD i 0).toNat []).length<=14*i/\(i≠0->0<(if i=0 then []else a.ends.getD (h.getD i 0).toNat []).length)):=Xa (by
   by_cases p:i=0
   .rw[aU p];exact⟨aN _,λay=>absurd p ay⟩
   rw[aM p];let⟨V,ed,ht⟩:=e0.o i oM di;have b4:V<a.ends.length:=oN m.o
   have O:=T.2 (a.ends.getD V []) (rm a.ends [] b4);rw[ed,dM];exact⟨O.2,λ_=>O.1⟩)
  have cv:Hs (Zm e h ca (i+1) ⟨a.xs.set i (VL e i (AQ a.xs 0 (i:Int)).length (a.xs.getD i XV).te (if i=0 then []else a.ends.getD (h.getD i 0).toNat []) a.v a.s).blk,a.ends++[(VL e i (AQ a.xs 0 (i:Int)).length (a.xs.getD i XV).te (if i=0 then []else a.ends.getD (h.getD i 0).toNat []) a.v a.s).vs],(VL e i (AQ a.xs 0 (i:Int)).length (a.xs.getD i XV).te (if i=0 then []else a.ends.getD (h.getD i 0).toNat []) a.v a.s).v,(VL e i (AQ a.xs 0 (i:Int)).length (a.xs.getD i XV).te (if i=0 then []else a.ends.getD (h.getD i 0).toNat []) a.v a.s).s⟩=Zm e h N 0 J):=HE;clear HE;generalize (if i=0 then []else a.ends.getD (h.getD i 0).toNat [])=d at*;have dj:i<a.xs.length:=oN m.o;have ej:Hs ((a.xs.getD i XV).te=a.xs[i].te):=Xa (by simp[dj]);let⟨p0,p1,p2,p3,p4,p5⟩:=ch.cells2 m.1 dj;let⟨ad,hv,cm⟩:=ch.fn;rw[m.2]at ad;rw[ej.o]at cv;have cd:=Xa<|ch.boxed a.xs[i].te;clear ch;generalize fq:a.xs[i].te=s at*;have j3:=Xa fq;clear fq ej;let⟨⟨f1,f0,fz⟩,ic,f7,ey,co⟩:=cd.fn;rw[m.2]at f1;go_wp2_with fail
  have g2:Hs (wc.heap.size=wc.heap.size):=Xa rfl;generalize wc.alloc _=wx at*;clear p0 p1 p2 p3 p4 p5 ad hv cm g2;generalize wc.heap.size=xb at*;have ek:Hs (N=a.xs.length):=Xa m.2.symm;refine(ZE a.v (some ⟨G,0,none⟩) N c (i:Int) a.xs w.heap.size wx.heap.size wx (Xa cd.blks) ek oM (aA _)).mono ?_;rintro f w1⟨pa,kt,rfl,eq,-⟩;have aq:=Xa<|cd.below eq;clear eq cd f1 f0 fz ic f7 ey co;have bf:=cv;clear cv;generalize (AQ a.xs 0 (i:Int)).length=A at*
  go_upto_if 92 with fail
  go_cut [15]from 62 to 202 λg6 wz=>g6=Hp (((Uy A a.s).1:Nat):Int)/\Hs (Hz w wz j B (Uy A a.s).2 a.v a o G c q (Hl y N u) h xb s [] [] u12 d)
  case first=>
   have t:Hs (Uy A a.s=if 1<A then ((Ax a.s 4).1.toNat,(Ax a.s 4).2)else if A=1 then (if (Ax a.s 6).1=0 then 1 else 0,(Ax a.s 6).2)else (0,a.s)):=Xa rfl;by_cases h1:1<A
   .have hm:(1:Int)<A:=oM;rw[aU h1]at t;go_wp2_with fail
    refine(XC j B a.s 4 w1 (Xa aq.dr) oM oM).mono ?_;rintro f w2⟨rfl,k,r⟩;have dk:=XE a.s (n:=4) oM;let⟨C,s1,b8⟩:∃C s9,Ax a.s 4=(C,s9):=⟨_,_,rfl⟩;rw[b8]at k t dk |-;dsimp only at k t dk |-;obtain⟨C,rfl⟩:=Zv dk.1;rw[dM]at t;have I:=Xa<|aq.call r k;clear k r b8;go_wp2;go_meet;rw[t.o];exact⟨rfl,I⟩
   have hm:¬(1:Int)<A:=oM;rw[aM h1]at t;by_cases h2:A=1
   .have hn:((A:Int)==1)=true:=by simp;omega
    rw[aU h2]at t;subst h2;go_wp2_with fail
    refine(XC j B a.s 6 w1 (Xa aq.dr) oM oM).mono ?_;rintro f w2⟨rfl,k,r⟩;let⟨C,s1,b8⟩:∃C s9,Ax a.s 6=(C,s9):=⟨_,_,rfl⟩;rw[b8]at k t |-;dsimp only at k t |-;have I:=Xa<|aq.call r k;clear k r b8;by_cases hr:C=0
    .have ia:(C==0)=true:=by simpa using hr
     rw[aU hr]at t;clear hr;go_wp2;go_meet;rw[t.o];exact⟨rfl,I⟩
    have ia:(C==0)=false:=by simpa using hr
    rw[aM hr]at t;clear hr;go_wp2;go_meet;rw[t.o];exact⟨rfl,I⟩
   have hn:((A:Int)==1)=false:=by simp;omega
   rw[aM h2]at t;go_wp2;go_meet;rw[t.o];exact⟨rfl,aq⟩
  obtain⟨rfl,cg⟩:=hcut;clear aq;have du:=km A a.s;have ei:Hs (a.v<=5000/\d.length<=4000):=Xa<|oP T.o da.o;let⟨P,hP⟩:∃P,P=Uy A a.s:=⟨_,rfl⟩;have ct:Hs (∀e i ba d v,VL e i A ba d v a.s=⟨⟨VK P.1 v,(Z9 e (Hf i (v+P.1) (d++ZS P.1 v) P.2).cnt (Hf i (v+P.1) (d++ZS P.1 v) P.2).s (Hf i (v+P.1) (d++ZS P.1 v) P.2).vs (Hf i (v+P.1) (d++ZS P.1 v) P.2).v (Hf i (v+P.1) (d++ZS P.1 v) P.2).ins).1,(IJ e ba (Z9 e (Hf i (v+P.1) (d++ZS P.1 v) P.2).cnt (Hf i (v+P.1) (d++ZS P.1 v) P.2).s (Hf i (v+P.1) (d++ZS P.1 v) P.2).vs (Hf i (v+P.1) (d++ZS P.1 v) P.2).v (Hf i (v+P.1) (d++ZS P.1 v) P.2).ins).2.1 (Z9 e (Hf i (v+P.1) (d++ZS P.1 v) P.2).cnt (Hf i (v+P.1) (d++ZS P.1 v) P.2).s (Hf i (v+P.1) (d++ZS P.1 v) P.2).vs (Hf i (v+P.1) (d++ZS P.1 v) P.2).v (Hf i (v+P.1) (d++ZS P.1 v) P.2).ins).2.2.2).1⟩,(Z9 e (Hf i (v+P.1) (d++ZS P.1 v) P.2).cnt (Hf i (v+P.1) (d++ZS P.1 v) P.2).s (Hf i (v+P.1) (d++ZS P.1 v) P.2).vs (Hf i (v+P.1) (d++ZS P.1 v) P.2).v (Hf i (v+P.1) (d++ZS P.1 v) P.2).ins).2.1,(Z9 e (Hf i (v+P.1) (d++ZS P.1 v) P.2).cnt (Hf i (v+P.1) (d++ZS P.1 v) P.2).s (Hf i (v+P.1) (d++ZS P.1 v) P.2).vs (Hf i (v+P.1) (d++ZS P.1 v) P.2).v (Hf i (v+P.1) (d++ZS P.1 v) P.2).ins).2.2.1,(IJ e ba (Z9 e (Hf i (v+P.1) (d++ZS P.1 v) P.2).cnt (Hf i (v+P.1) (d++ZS P.1 v) P.2).s (Hf i (v+P.1) (d++ZS P.1 v) P.2).vs (Hf i (v+P.1) (d++ZS P.1 v) P.2).v (Hf i (v+P.1) (d++ZS P.1 v) P.2).ins).2.1 (Z9 e (Hf i (v+P.1) (d++ZS P.1 v) P.2).cnt (Hf i (v+P.1) (d++ZS P.1 v) P.2).s (Hf i (v+P.1) (d++ZS P.1 v) P.2).vs (Hf i (v+P.1) (d++ZS P.1 v) P.2).v (Hf i (v+P.1) (d++ZS P.1 v) P.2).ins).2.2.2).2⟩):=Xa (λe i ba d v=>by rw[hP];rfl);rw[<-hP]at cg du |-;clear hP;let⟨l,s1⟩:=P;dsimp only at cg du ct |-;go_wp2_with fail
  refine NJ w j B s1 a.v a o G c q (Hl y N u) h xb s e d l _ _ _ _ _ _ _ _ _ _ _ _ _ _ _ _ _ du ei.1 ei.2 ?_ _ _ _ rfl cg;rintro vv E w2 D fc;have I:=Xa fc;clear fc cg;obtain⟨em,rfl⟩:=LO E D;simp only[ae,Nat.reduceAdd];clear D;have cf:Hs (a.v+l<=3000/\(d++ZS l a.v).length<=3000):=Xa (by have:=T.o;have:=da.o;rw[aQ,Ub];omega);have gr:Hs (a.v+l<=14*i+3/\(d++ZS l a.v).length<=14*i+3/\(i≠0->0<(d++ZS l a.v).length)):=Xa (by
   have:=T.o;have h2:=da.o;rw[aQ,Ub];exact⟨oM,oM,λay=>by have:=h2.2 ay;omega⟩)
  have d5:=Xa<|ct.o e i s d a.v;clear ct;rw[d5.o]at bf;clear d5;generalize a.v+l=v1 at*;generalize d++ZS l a.v=M at*;have ih:=I.dr.src.c3;have h9:=I.dr.ok.size;go_wp2_with fail
  refine(XC j B s1 (3+s1.size) w2 (Xa I.dr) oM oM).mono ?_;rintro f w3⟨rfl,k,r⟩;have dl:=XE s1 (n:=3+s1.size) oM;have ar:=Xa<|I.call r k;clear k r ih;have S:Hs (Hf i v1 M s1=if i=0 then ⟨(Ax s1<|3+s1.size).1.toNat+1,[⟨2,v1,0,0,(Ax (Ax s1<|3+s1.size).2 3).1⟩],M++[(v1:Int)],v1+1,(Ax (Ax s1<|3+s1.size).2 3).2⟩else ⟨(Ax s1<|3+s1.size).1.toNat,[],M,v1,(Ax s1<|3+s1.size).2⟩):=Xa rfl;have ap:=Xa<|un i v1 M I.dr.ok;have gq:=Xa<|EQ i v1 M s1;clear I;generalize Hf i v1 M s1=H at*;generalize Ax s1 (3+s1.size)=X3 at*;let⟨C,s2⟩:=X3;dsimp only at ar S dl |-;obtain⟨C,rfl⟩:=Zv dl.1;rw[dM]at S;have kl:C<10:=oM;clear dl h9
  go_upto_if 132 with fail
  go_cut [12,17]from 62 to 202 λdb g7 wz=>g7=Hp ((H.cnt:Nat):Int)/\Hs (Hz w wz j B H.s H.v a o G c q (Hl y N u) h xb s (VK l a.v) H.ins db H.vs)
  case first=>
   by_cases p:i=0
   .have hj:((i:Int)==0)=true:=by simp;omega
    rw[aU p]at S;clear p;let⟨⟨f1,f0,fz⟩,fi,f7,ey,co⟩:=ar.fn;have g3:=Xa co;let⟨cq,pv,iv,av,ev,p3,q3,ck⟩:=ar.o;let⟨qa,qc,e9⟩:=ck.x.xi.form;rw[bO]at e9;subst e9;have x1:=Bx.c ck.x.bx 1;have bc:=Xa ck;clear ck f1 fz co ar;let⟨X4,ep⟩:∃g4,g4=Ax s2 3:=⟨_,rfl⟩;let⟨r4,s4⟩:=X4;have dw:=ep.symm;rw[dw]at S;dsimp only at S;clear ep;have c8:Hs (v1<=3000/\M.length<=3000):=cf
    go_upto_region 33 with fail
    go_cut []from 62 to 202 λwz=>Hs<|Hz w wz j B s4 v1 a o G c q (Hl y N u) h xb s (VK l a.v) [⟨2,((v1:Nat):Int),0,0,r4⟩] vv M
    case first=>
     go_wp2_with fail
     refine Y7 (λR=>R.cell? (Hk o 0)=some (Hp ((v1:Nat):Int))) λhHeld=>?_;refine X0 0 ?_;refine X0 2 ?_;refine X0 3 ?_;refine X0 4 ?_;refine eS (rs:=[1,5]) kR sP ?_;refine(bQ rfl (λU hK=>?_) (bQ rfl (λU hK=>?_) dY))
     focus
      go_simp;refine hK _ _ kP λhHeld=>?_;clear hK
      try simp only[xX]
      refine Xs 5 λU hK=>?_;go_simp
      go_at_call 27
      refine(XC j B s2 3 _ (Xa bc.drew.f.dr) oM oM).mono ?_;rintro f w4⟨rfl,k,r⟩;have n:=Xa<|bc.drew.call r k;rw[dw]at n |-;dsimp only at n |-;have y0:=Bx.c n.f.fbx 0;have y1:=Bx.c n.x.bx 1;have fi:=n.f.gr.size;have i4:=n.x.bx.lt;clear k r;refine hK _ _ y0 λhHeld=>?_;clear hK;refine X0 6 ?_;refine Xs 7 λU hK=>?_;go_simp;refine hK _ _ kP λhHeld=>?_;clear hK
     rotate_left
     focus
      go_simp
      go_at_call 27
      refine(XC j B s2 3 _ (Xa bc.drew.f.dr) oM oM).mono ?_;rintro f w4⟨rfl,k,r⟩;have n:=Xa<|bc.drew.call r k;rw[dw]at n |-;dsimp only at n |-;have y0:=Bx.c n.f.fbx 0;have y1:=Bx.c n.x.bx 1;have fi:=n.f.gr.size;have i4:=n.x.bx.lt;clear k r;refine hK _ _ y0 λhHeld=>?_;clear hK
      try simp only[xX]
      refine X0 6 ?_;refine eS (rs:=[1,7]) kR sP ?_;refine(bQ rfl (λU hK=>?_) (bQ rfl (λU hK=>?_) dY))
     focus
      go_simp;refine hK _ _ kP λhHeld=>?_;clear hK
      try simp only[xX]
      refine Xs 7 λU hK=>?_;go_simp;refine hK _ _ kP λhHeld=>?_;clear hK
     rotate_left
     focus
      go_simp;refine hK _ _ kP λhHeld=>?_;clear hK
      try simp only[xX]
      refine Xs 1 λU hK=>?_;go_simp;refine hK _ _ kP λhHeld=>?_;clear hK
     all_goals (
      refine Xs 8 λU hK=>?_;refine dm rfl _ _ 38 rfl w.heap.size 48 m0 (.agg #[Hp 0,Hp 0,Hp 0,Hp 0,Hp 0]) 5 40 underlying38 h8 i1 i2 i3 rfl vZ (.slice qa 0 qc) 0 [] rfl ?s1 (Hk w4.heap.size 0) 1 1 [Hp 2,Hp ((v1:Nat):Int),Hp 0,Hp 0,Hp r4] rfl rfl ?s2 ?s3 ?s4 ?s5 ?s6 ?_
      case s1=>exact n.x.xi.own.alloc _
      case s2=>exact World.news_of_block<|World.alloc_heap_new _ _
      case s3=>intro cb K;simp at K;rcases K with rfl|rfl|rfl|rfl<;>rfl
      case s4=>unfold maxLen;omega
      case s5=>omega
      case s6=>simp;omega
      intro v8 w8 ao az ds b3;let⟨d0,d2,dc⟩:=(n.box _).pushI (x:=⟨2,((v1:Nat):Int),0,0,r4⟩) az ao rfl (by rw[aO];simpa using b3);obtain⟨g8,g9,rfl,af,ac⟩:=Xm ao oM;have z0:w8.cell? (Hk o 0)=some (Hp ((v1:Nat):Int)):=Bx.cell ((n.f.fbx.box _).grown az λf=>Z5 n.x.xi.own n.f.fbx vZ f.symm) rfl;have z1:=Bx.c d0 1;have zf:=Bx.thaw d0;rw[aV]at dc;have gh:=Xa dc;clear af ac ds b3 ao az dc d0;refine hK _ _ z0 λhHeld=>?_;clear hK;refine X0 9 ?_;refine Xs 10 λU hK=>?_;go_simp;refine hK _ _ ((Xc<|Below.heap_setCell _ _ _ _ (kA g3.o)).trans z0) λhHeld=>?_;clear hK;refine Yq ?_;clear hHeld z0 z1 zf y0 y1;go_wp2
      go_meet;exact Xa ⟨_,_,_,_,_,_,_,gh.o⟩)
    have c7:=hcut;have kn:=c8.1;clear bc x1 f0;generalize wc=w9 at*;obtain⟨⟨-,hc,hf⟩,im,-,-,-⟩:=c7.fn;obtain⟨vo,va,vc,X,-⟩:=c7.vals;have g1:=Xa vo;let⟨ln,aj⟩:∃ln,ln=M.length:=⟨_,rfl⟩;rw[<-aj]at X;subst X;have cz:=Xa aj;clear aj vo;go_wp2_with (at_builtin;refine bT _ rfl _ _ 27 rfl w.heap.size 2 j0 (Hp 0) 1 8 underlying27 e6 ga gb gc rfl vZ _ M.length (Xt M) rfl (g1.alloc _) (Hk w9.heap.size 0) 1 1 [Hp ((v1:Nat):Int)] rfl rfl ?e1 ?e2 ?e3 ?e4 ?e5 ?_)
    case e1=>exact Yf _ _ _
    case e2=>intro cb K;simp at K;subst K;rfl
    case e3=>unfold maxLen;have:=c8.o;omega
    case e4=>have:=c8.o;omega
    case e5=>simp;omega
    intro jc js al b7 dn b1;have ee:=Xa ((c7.box _).pushV b7 al rfl (by rw[aO];exact b1));obtain⟨hh,g5,rfl,af,ac⟩:=Xm al oM;clear af ac dn b1 al b7 hc hf;obtain⟨⟨-,f0,fz⟩,-⟩:=ee.fn;go_wp2;go_meet;rw[S.o];have b5:=ee.val<|v1+1;rw[show((v1+1:Nat):Int)=(v1:Int)+1 by omega]at b5;exact⟨by show _=Hp ((C+1:Nat):Int);rw[kB];rfl,Xa b5⟩
   have hj:((i:Int)==0)=false:=by simp;omega
   rw[aM p]at S;clear p;go_wp2;go_meet;rw[S.o];exact⟨rfl,ar⟩
  obtain⟨rfl,ef⟩:=hcut;clear ar S;go_wp2_with fail
  refine Na w j B a o G c q (Hl y N u) h xb s (VK l a.v) e H.cnt H.s H.vs H.v H.ins _ _ _ _ _ _ _ _ _ _ _ _ _ _ _ _ ap.1 (oP ap.o cf.o) (oP ap.o cf.o) (oN ap.o) ?_ _ _ _ _ rfl ef;rintro s5 v5 F cp d3 ka E w5 D hR fe;have aa:=Xa fe;have cc:=Xa<|WH (near:=e) H.cnt H.s H.vs H.v H.ins;have bd:=Xa<|nW (near:=e) H.cnt H.s H.vs H.v H.ins;rw[<-hR]at bf cc bd;clear fe ef hR;dsimp only at bf cc bd;obtain⟨em,rfl⟩:=LO E D;simp only[ae,Nat.reduceAdd];clear D;let⟨cq,pv,iv,av,ev,p5,q5,er⟩:=aa.o;have x2:=Bx.c er.x.bx 2;clear er
  go_upto_if 186 with fail
  have bl:Hs (IJ e s F s5=if s.kind=1 then (s,s5)else (⟨s.kind,(YI s5 F e).1,s.to,s.els⟩,(YI s5 F e).2)):=Xa rfl;have d4:=bf;clear bf;generalize IJ e s F s5=TT at*
  go_cut []from 62 to 202 λwz=>Hs<|Hz w wz j B TT.2 v5 a o G c q (Hl y N u) h xb TT.1 (VK l a.v) cp d3 F
  case first=>
   by_cases hk:s.kind=1
   .have h6:(s.kind != 1)=false:=by simpa using hk
    rw[aU hk]at bl;clear hk;go_wp2;go_meet;rw[bl.o];exact aa
   have h6:(s.kind != 1)=true:=by simpa using hk
   rw[aM hk]at bl;clear hk;obtain⟨-,va,vc,X,fr⟩:=aa.vals;let⟨ln,aj⟩:∃ln,ln=F.length:=⟨_,rfl⟩;rw[<-aj]at X;subst X;have cz:=Xa aj;have g0:=Xa fr;clear aj fr;have h7:ln<=5000:=by have:=cc.o;have:=ap.o;have:=cf.o;have:=cz.o;omega
   have ib:j<w.heap.size:=by let⟨cq,pv,iv,av,ev,ks,Q,hb⟩:=aa.o;exact hb.f.lt
   go_wp2_with fail
   refine(JA j B s5 va ln vc F w.heap.size w5.heap.size e w5 (Xa aa.dr) g0 cz h7 ib (aA _)).mono ?_;rintro f w6⟨rfl,k,r⟩;let⟨cq,pv,iv,av,ev,p6,q6,cl⟩:=(aa.call r k);have bd:=Xa cl;have y3:=Bx.c cl.x.bx 3;have yz:=Bx.thaw cl.x.bx;clear cl k r;go_wp2;go_meet;rw[bl.o];exact Xa ⟨_,_,_,_,_,_,_,bd.terA _⟩
  have eg:=hcut;clear aa bl x2 hcut;let⟨L,s7⟩:=TT;dsimp only at eg d4;let⟨cq,pv,iv,av,ev,p7,q7,z⟩:=eg.o;let⟨a0,a7,e8⟩:=z.x.xp.form;let⟨a8,a9,fa⟩:=z.x.xi.form;rw[KI]at e8;let⟨Z,df⟩:∃Z,Z=cp.length:=⟨_,rfl⟩;rw[<-df]at fa;subst e8 fa;have j2:=Xa df;clear df;have cs:=Xa z;have x0:=Bx.c z.x.bx 0;have x1:=Bx.c z.x.bx 1;have x2:=Bx.c z.x.bx 2;have x3:=Bx.c z.x.bx 3;have x4:=Bx.c z.x.bx 4;have x5:=Bx.c z.x.bx 5;have ad:wc.cell? (Hk o 1)=some (Hl G N c):=by rw[ek.o];exact Bx.cell z.f.fbx rfl
  have ab:∀Q,Q<6->∃cb,wc.cell? (Hk G<|i*6+Q)=some cb:=λQ hq=>by
   have ho:=z.f.fn.blks;have:=Xz (λi x=>KU (pv i) (iv i) (Xe.te x)) 0 a.xs i dj Q hq;rw[aV]at this;have kk:=KU (pv i) (iv i) a.xs[i].te;refine⟨(UT (pv i) (iv i) a.xs[i].te)[Q],ho.cell<|this.trans ?_⟩;exact aC oM
  let⟨u0,k0⟩:=ab 0 oM;let⟨u1,k1⟩:=ab 1 oM;let⟨u2,k2⟩:=ab 2 oM;let⟨u3,k3⟩:=ab 3 oM;let⟨u4,k4⟩:=ab 4 oM;let⟨u5,k5⟩:=ab 5 oM;rw[fW]at k0;have kz:∀Q,wc.frozen? (Hk G Q)=false:=λQ=>z.f.fn.blks.thaw Q;have fl:=z.f.gr.size;clear z ab
  go_upto_region 48 with fail
  clear x0 x1 x2 x3 x4 x5 k0 k1 k2 k3 k4 k5 kz ad;let⟨dd,eu,d1⟩:=cs.es9;rw[m.1]at dd eu d1;have gl:Hs (∀cr bb n' R,(((Hi wc G (i*6) (.slice a0 l a7) (.slice a8 Z a9) L).alloc cr).grownBy R q.ownBlock)->R.ownsRow w.heap.size 69 1 bb n' (Yu (λi _=>[ev i]) 0 a.ends++[d3])->n'=i+1->(bb.ownBlock=q.ownBlock\/bb.ownBlock=some ((Hi wc G (i*6) (.slice a0 l a7) (.slice a8 Z a9) L).alloc cr).heap.size)->∃d2 gg gf el X,JU w R d2 j B s7 o v5 G c (a.xs.set i ⟨VK l a.v,cp,L⟩) gg gf el bb X (a.ends++[F]) (Hl y N u) h):=Xa (λcr bb n' R h1 h2 h3 h4=>by
   have es:=cs.close (o:=cr) (ve':=bb) (n':=n') (w':=R) (oN m.o) (by rw[m.1];exact h1) h2 (by rw[m.1];exact h3) (by rw[m.1];exact h4) (λx hx=>by unfold VK at hx;obtain⟨kq,_,rfl⟩:=aY.1 hx;rfl);rw[m.1]at es;exact es)
  have eb:=Xa dd.own;have gv:Hs (w.heap.size<=(Hi wc G (i*6) (.slice a0 l a7) (.slice a8 Z a9) L).heap.size):=Xa (by rw[d1];exact fl);clear dd eu d1 fl;have gs:Hs ((((((wc.setCell (Hk G<|i*6) (.slice a0 l a7)).setCell (Hk G<|i*6+1) (.slice a8 Z a9)).setCell (Hk G<|i*6+2) (Hp L.kind)).setCell (Hk G<|i*6+3) (Hp L.a)).setCell (Hk G<|i*6+4) (Hp L.to)).setCell (Hk G<|i*6+5) (Hp L.els)=Hi wc G (i*6) (.slice a0 l a7) (.slice a8 Z a9) L):=Xa rfl;rw[gs.o];generalize Hi wc G (i*6) (.slice a0 l a7) (.slice a8 Z a9) L=w9 at*;let⟨ea,ec,ir⟩:∃W c,q=.slice W i c:=by
   rcases eb.2 with⟨f,p⟩|⟨g,cap,_,f,_⟩;·exact⟨none,0,by rw[f,p]⟩
   exact⟨_,_,f⟩
  subst ir;let⟨jj,jl,fx⟩:∃W c,d3=.slice W F.length c:=by
   let⟨W,c,f⟩:=cs.x.xv.form;exact⟨W,c,f⟩
  let⟨vl,fs⟩:∃vl,vl=F.length:=⟨_,rfl⟩;rw[<-fs]at fx;subst fx;have im:=gv.o;clear fs;go_wp2_with (at_builtin;refine bT _ rfl _ _ 65 rfl w.heap.size 69 i0 (.agg #[Hq]) 1 24 underlying65 hw i5 i6 ja rfl vZ _ i (Yu (λi _=>[ev i]) 0 a.ends) rfl (eb.alloc _) (Hk w9.heap.size 0) 1 1 [.slice jj vl jl] rfl rfl ?f1 ?f2 ?f3 ?f4 ?f5 ?_)
  case f1=>exact Yf _ _ _
  case f2=>intro cb K;simp at K;subst K;rfl
  case f3=>unfold maxLen;omega
  case f4=>omega
  case f5=>simp;omega
  intro jc js al b7 dn b1;let⟨d2,gg,gf,el,X,b5⟩:=gl.o _ _ _ _ b7 al rfl (by rw[aO];exact b1);obtain⟨hh,g5,rfl,af,ac⟩:=Xm al oM;have gp:=Xa b5;clear af ac dn b1 al b7 b5;go_wp2_with fail
  refine⟨⟨⟨ca,i+1,⟨a.xs.set i ⟨VK l a.v,cp,L⟩,a.ends++[F],v5,s7⟩,_,_,_,_,_,_,_,_,_,_,_,_,_,_⟩,rfl,rfl,(by show i+1+ca=N;omega),Xa ?_,d4,Xa ?_,Xa ⟨_,_,_,_,_,gp.o⟩⟩,by simp[intOf];omega⟩
  .have:=m.o;exact⟨by show(a.ends++[F]).length=i+1;rw[aQ,this.1];rfl,by show(a.xs.set i _).length=N;rw[bL];exact this.2⟩
  have a1:=cc.o;have a2:=ap.o;have a3:=gr.o;have a4:=gq.o;have a5:=bd.o;have a6:=T.o;refine⟨by show v5<=14*(i+1);omega,λf Y=>?_⟩;rcases bU.1 Y with Y|Y
  .have:=a6.2 f Y;show 0<f.length/\f.length<=14*(i+1);omega
  simp only[cH,eA,lL]at Y
  subst Y;show 0<f.length/\f.length<=14*(i+1);have hp:0<H.vs.length:=by
   by_cases p:i=0;·exact a4.2 p
   have:=a3.2.2 p;omega
  omega
 |zero=>
  have di:¬(i:Int)<N:=oM;have hz:i=N:=oM;subst hz;go_wp2_with fail
  exact HX.o _ _ _ _ _ _ _ _ _ _ _ _ _ _ _ _ rfl HE.o ⟨m.1,m.2,T.1,T.2⟩ HA.o
end Go.Proofs.YtffcajcgkblkoaaGreatDoor
