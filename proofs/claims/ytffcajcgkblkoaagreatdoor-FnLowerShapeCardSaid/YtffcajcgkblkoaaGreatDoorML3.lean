import Derived.Test.YtffcajcgkblkoaaGreatDoorML3a
namespace Go.Proofs.YtffcajcgkblkoaaGreatDoor
set_option maxHeartbeats 8000000
set_option maxRecDepth 100000
open Go.RowKit Go.Proofs.Tryz
theorem qR(W:Nat)(ac:Option Addr)(s c:Nat)(g:List Xe)(b3 bc:Nat)(w:World)(ha:Hs (Xp w b3 bc ac g))(hx:Hs (s=g.length))(hB:bc<=w.heap.size)(ho:Hs (Jy W g)) :
 Calls prog 51 #[.agg #[Hp W,.slice ac s c]] w λe D=>∃a' c',e=.returned (.slice a' s c')/\Below w.heap.size w D/\WJ D w.heap.size a' g:=by
 obtain⟨i0,hf,h3,h4,h6⟩:=Xq N0;obtain⟨j0,hh,hw,hz,h0⟩:=Xq N1;obtain⟨m0,cf,cg,ch,ci⟩:=Xq Nv;have hn:s<=1000:=oP hx.o ho.okf.n2;have gh:=Xa λds h9 ay (hW:Below w.heap.size w ds) bo=>wL W ac s c h9 ay g b3 bc ds (Xa<|ha.keep (hW.mono hB)) hx (oN hW.size) ho bo
 go_in
 go_wp2
 go_loopw [3,4] (λV p wr=>∃(k:Nat)(cs:List Value),k<=s/\p=Hp k/\Hs (MA w W ac s c g wr V k cs)) λ_ p _=>s-(intOf p).toNat
 case atStart=>
  refine⟨0,[],aN _,rfl,Xa ⟨Xb (Xb (Below.refl _ _) _) _,sP,sP,sP,?_,λp _ h=>absurd h oM⟩⟩;have h:=eI (base:=w.heap.size+1) (e:=117) (size:=6) (w.alloc<|.cells #[Hp W,.slice ac s c] 25) #[] 0 sP sP rfl;rw[aO]at h;exact h
 obtain⟨k,cs,hk,rfl,Q⟩:=hrel;have ca:=Q.f1;by_cases hl:k<s
 .have bb:k<g.length:=oN hx.o;have ef:=Q.low;have hu:=Q.sz;obtain⟨b,bq,ea,⟨im,il⟩,hc⟩:=(ha.keep<|ef.mono hB) k bb;subst ea;obtain⟨pa,pc,ia,ic,e0,e1,⟨e2,e3,e4,e5⟩,eg,ed⟩:=hc;have bz:=Xa eg;have c8:=Xa ed;have bw:=Xa<|ho.lens g[k] (aH bb);have dl:Hs (∀ay∈g[k].te.tg,0<=ay/\ay<(s:Int)):=Xa (by rw[hx.o];exact ho.okf.tgt g[k] (aH bb));obtain⟨X,hX⟩:∃X,X=g[k]:=⟨_,rfl⟩;rw[<-hX]at e0 e1 e2 e3 e4 e5 bz c8 bw dl;have HX:=Xa hX;clear hX eg ed;refine En (λ_ _ _ _ _ h=>h) ?_;intro ih hN hQ;go_wp2_with fail
  rename_i Kc bv;have he:b<wr.heap.size:=aI wr _ e0;have g7:Hs (∀(a:Nat)(f0:Nat->Value)(ey ez e6 e7 e8 e9 fa fb fc fe fi fl fq fr fs fx fz f7 ga gb gc:Value)(Y:World),Md wr Y a X f0->Kc ⟨#[.agg #[Hp W,Hm b bq s c],Hn w.heap.size,Hq,u3,Hp k,Hn a,u6,u7,u8,Hl (w.heap.size+1) 0 0,Hp k,Ho w.heap.size 1,Hm b bq s c,Hp s,.bool true,u15,u16,ey,ez,e6,e7,e8,e9,fa,fb,fc,fe,fi,fl,fq,fr,fs,fx,fz,f7,ga,gb,gc,u38,u39,u40,u41,u42,u43,u44,u45,u46,u47,u48,u49,u50,u51,u52,u53,u54,u55,u56,u57,u58,u59,u60,u61,u62,u63,u64,u65,u66,u67,u68,u69,u70,u71,u72,u73,u74,u75,u76,u77,u78,u79,u80,u81,u82,u83,u84,u85,u86,u87,u88,u89,u90,u91,u92,u93,u94,u95,u96,u97,u98,u99,u100,u101,u102,u103,undef],[]⟩ Y):=Xa (by
   intro a f0 ey ez e6 e7 e8 e9 fa fb fc fe fi fl fq fr fs fx fz f7 ga gb gc Y E;apply bv;have HA:=Xa E;obtain⟨aT,cT,eT,ec⟩:=E.e0;have da:=Xa ec;have cx:=Xa eT;have i2:=E.b1;have bm:=E.box.lt;have ja:=E.low.size;have ap:=Xa<|ef.trans (E.low.mono oM);have gd:=(XU E.low oM).trans Q.f0;have ge:=(XU E.low oM).trans ca;have b0:=Xa (show _/\_ from⟨gd,ge⟩);obtain⟨N,cj⟩:∃T,T=X.te.tg.length:=⟨_,rfl⟩;have i4:N<=2:=by rw[cj];exact KJ _
   have a1:=Xa cj;have gf:=Xa<|oB E.low e1 he;have gr:=Xa (c8.keepS λq _ o=>E.low.block q oM);have gg:Hs (∀l,l<=2->((X.te.tg.take l).flatMap (HK g (k:Int))).length<=8000000):=Xa (λl hj=>by
    have i:=V8 ho (k:Int) (X.te.tg.take l);rw[dH]at i;have o:min l X.te.tg.length<=2:=oM;omega)
   have i1:w.heap.size<a:=oM;clear E ec eT cj bv e0 e1 e2 e3 e4 e5 ca gd ge bz;generalize wr=wo at*;go_wp2
   go_loopw [6] (λp wr=>∃(l:Nat)(V:Value),l<=N/\p=Hp l/\Hs (Lb Y a f0 wr V<|(X.te.tg.take l).flatMap (HK g (k:Int)))) λp _=>N-(intOf p).toNat
   case atStart=>exact⟨0,Hq,aN _,rfl,Xa<|Lb.start HA.box HA.n2⟩
   case round=>
    obtain⟨l,V,hj,rfl,m⟩:=hrel;have h7:=m.size;have c0:wr.cell? (Hk a 0)=some (.slice aT N cT):=by
     have h:=m.box.cell (i:=0) vZ;rw[aM vZ,cx.o,<-a1.o]at h;exact h
    by_cases hm:l<N
    .have ce:l<X.te.tg.length:=by rw[<-a1.o];exact hm
     obtain⟨bt,ot,rfl,⟨⟨_,d4⟩,hd⟩,d5⟩:=da l ce;have ei:=dl _<|aH ce;have c2:wr.cell? (Hk a 2)=some V:=by
      have h:=m.box.cell (i:=2) vZ;rw[aU rfl]at h;exact h
     have cz:=m.box.frozen 2;have du:=m.cell oM b0.1;have bl:=m.cell oM b0.2;have ct:=m.cell d4 d5;have c7:Hs ((X.te.tg.take<|l+1).flatMap (HK g (k:Int))=(X.te.tg.take l).flatMap (HK g (k:Int))++HK g (k:Int) X.te.tg[l]):=Xa<|z8 ce;obtain⟨tn,bo⟩:=bX ei.1;rw[bo]at c7 ct;have ht:tn<s:=oM;have cr:=Xa (gh.o wr.drew (k:Int) tn ⟨m.os.trans ap.os,m.tape.trans ap.tape,m.output.trans ap.output,aJ ap.size m.size,λq hq=>(m.fr q (oN ap.size) oM).trans (ap.block q hq)⟩ ht);have db:=Xa<|gg.o l oM;have di:=Xa<|qp ho (k:Int) (tn:Int);have ba:a<wr.heap.size:=oM;have bp:w.heap.size<wr.heap.size:=oM;generalize HK g (k:Int) (tn:Int)=eu at*;generalize (X.te.tg.take l).flatMap (HK g (k:Int))=el at*;clear d5 ei bo;go_wp2_with fail
     refine Y7 (λD=>D.cell? (Hk w.heap.size 0)=some (Hp W)/\D.cell? (Hk w.heap.size 1)=some (Hm b bq s c)/\D.cell? (Hk a 0)=some (Hm bt ot N cT)/\D.cell? (Hk bt<|ot+l)=some (Hp tn)) λhHeld=>?_;refine X0 0 ?_;refine X0 2 ?_;refine X0 3 ?_;refine X0 4 ?_;refine X0 5 ?_;refine X0 6 ?_;refine X0 7 ?_;refine X0 8 ?_;refine eS (rs:=[1,9]) kR sP ?_;refine(bQ rfl (λK hK=>?_) (bQ rfl (λK hK=>?_) dY));go_simp;refine hK _ _ kP λhHeld=>?_;clear hK
     try simp only[xX]
     refine Xs 9 λK hK=>?_;go_simp;refine cr.mono ?_;rintro e r⟨ad,c5,rfl,f,F⟩;have d:Below wr.heap.size wr r:=⟨f.os,f.tape,f.output,f.size,f.block⟩;have A:=Xa d;have a0:=Xa F;have d0:=oB d c0 ba;have d2:=oB d c2 ba;have a7:=oB d du bp;have a8:=oB d bl bp;have dt:=oB d ct<|aI wr _ ct;clear f F d;refine hK _ _ ⟨a7,a8,d0,dt⟩ λhHeld=>?_;clear hK;rotate_left;go_simp;refine cr.mono ?_;rintro e r⟨ad,c5,rfl,f,F⟩;have d:Below wr.heap.size wr r:=⟨f.os,f.tape,f.output,f.size,f.block⟩;have A:=Xa d;have a0:=Xa F;have d0:=oB d c0 ba;have d2:=oB d c2 ba;have a7:=oB d du bp;have a8:=oB d bl bp;have dt:=oB d ct<|aI wr _ ct;clear f F d;refine hK _ _ ⟨a7,a8,d0,dt⟩ λhHeld=>?_;clear hK
     try simp only[xX]
     refine Xs 1 λK hK=>?_;go_simp;refine hK _ _ kP λhHeld=>?_;clear hK
     all_goals (
      refine Xs 10 λK hK=>?_;refine dm rfl _ _ 27 rfl Y.heap.size 2 m0 (Hp 0) 1 8 underlying27 cf cg ch ci rfl vZ V el.length (el.map<|Value.int .i64) rfl ?s1 ad eu.length c5 (eu.map<|Value.int .i64) rfl sP ?s2 ?s3 ?s4 ?s5 ?s6 ?_
      case s1=>exact Zl m.own λB e=>A.block B (m.own.lt B e).2
      case s2=>exact Dn a0
      case s3=>intro x hv;obtain⟨jj,_,rfl⟩:=aY.1 hv;rfl
      case s4=>have:=db.o;have:=di.o;unfold maxLen;omega
      case s5=>have:=db.o;have:=di.o;omega
      case s6=>have:=A.size;omega
      intro u1 I cl cd _ _;obtain⟨av,cv,dw,_⟩:=Xk (xs:=el++eu) (by rw[bG];exact cl);obtain⟨ln,ee⟩:∃T,T=(el++eu).length:=⟨_,rfl⟩;rw[<-ee]at dw;subst dw;clear ee;have gm:=Xa cd;have gv:Hs (I.ownsRow Y.heap.size 2 1 (.slice av ln cv) (el++eu).length ((el++eu).map (Value.int .i64))):=Xa (by rw[aQ,bG];exact cl);have aj:∀q,q<Y.heap.size->I.heap[q]?=r.heap[q]?:=λq hq=>cd.block q (oN A.size) (λe=>by have:=(m.own.lt q e.symm).1;omega);have g0:=(Xc<|aj a bm).trans d0;have g2:=(Xc<|aj a bm).trans d2;have gz:I.frozen? (Hk a 2)=false:=by rw[bJ (a:=(Hk a 2)) (aj a bm)];exact(A.frozen (p:=Hk a 2) ba).trans cz
      have b4:=(Xc<|aj w.heap.size oM).trans a7;have b5:=(Xc<|aj w.heap.size oM).trans a8;have gt:=(Xc<|aj bt hd).trans dt;have g1:=Xa<|m.push (u':=.slice av ln cv) (qs:=eu) bm A gm gv;clear cl cd aj d0 d2 a7 a8 dt hHeld;refine hK _ _ ⟨b4,b5,g0,gt⟩ λhHeld=>?_;clear hK;refine X0 11 ?_;refine Xs 12 λK hK=>?_;go_simp;have C:∀(j U:Nat)(x:Value),(j≠a\/U≠2)->I.cell? (Hk j U)=some x->(I.setCell (Hk a 2) (.slice av ln cv)).cell? (Hk j U)=some x:=λj U x i o=>(cJ _ _ _ _ (by
       intro e;injection e with e1 e2;rcases i with i|i;·exact i e1.symm
       exact i e2.symm)).trans o
      refine hK _ _ ⟨C _ _ _ (bC oM) b4,C _ _ _ (bC oM) b5,C _ _ _ (aZ vZ) g0,C _ _ _ (bC d4) gt⟩ λhHeld=>?_;clear hK hHeld C b4 b5 g0 g2 gz gt
      try simp only[xX]
      refine Yq ?_;go_wp2
      exact⟨⟨l+1,.slice av ln cv,oM,gM,Xa<|by rw[c7.o];exact g1⟩,by simp[intOf];omega⟩)
    have gs:Hs (l=X.te.tg.length):=Xa<|oN a1.o
    have cw:Hs ((X.te.tg.take l).flatMap (HK g (k:Int))=XP g k):=Xa (by
     rw[aW<|oN gs.o];unfold XP;rw[aC bb,HX.o])
    have ao:Hs (Lb Y a f0 wr V<|XP g k):=Xa (by rw[<-cw.o];exact m);have b1:=Xa h7;have gi:=Xa<|m.cell oM b0.2;have cq:=Xa<|m.cell oM gf;have gq:=Xa (gr.keepS λq _ o=>m.fr q oM oM);have b7:a<wr.heap.size:=oM;clear m cw;go_wp2_with fail
    clear c0;generalize wr=w2 at*;obtain⟨nI,bn⟩:∃T,T=X.is.length:=⟨_,rfl⟩;rw[<-bn]at cq;have i3:nI<=4000:=by rw[bn];exact bw.1
    have dj:=Xa bn;clear bn
    go_loopw [7] (λp wr=>∃(q:Nat)(ur ud:Value)(rs:List Value),q<=nI/\p=Hp q/\Hs (Ix w2 a (λp=>if p=2 then V else f0 p) wr ur ud rs ((Jv X).take q) ((Z2 X).take q))) λp _=>nI-(intOf p).toNat
    case atStart=>exact⟨0,Hq,Hq,[],aN _,rfl,Xa<|Ix.start ao.box (by rw[aM vZ];exact HA.n3) (by rw[aM vZ];exact HA.n4)⟩
    case round=>
     obtain⟨q,ur,ud,rs,hq,rfl,HI⟩:=hrel;have h8:=HI.size;have bl:=(Xc<|HI.fr w.heap.size oM oM).trans gi;have g8:=(Xc<|HI.fr b oM oM).trans cq;by_cases hp:q<nI
     .have co:q<X.is.length:=by rw[<-dj.o];exact hp
      obtain⟨bi,oi,rfl,⟨iv,ir⟩,hg⟩:=gq q co;have ar:=HI.fr bi oM oM;obtain⟨ek,em,ep,eq,er⟩:=hg;have r0:=(Xc ar).trans ek;have r1:=(Xc ar).trans em;have r2:=(Xc ar).trans ep;have r3:=(Xc ar).trans eq;have r4:=(Xc ar).trans er;have a6:Hs ((Jv X).take (q+1)=(Jv X).take q++[Ft X.is[q]]):=Xa (by unfold Jv;rw[X7 _ _<|by simpa using co];simp);have a4:Hs ((Z2 X).take (q+1)=(Z2 X).take q++[Fa X.is[q]]):=Xa (by unfold Z2;rw[X7 _ _<|by simpa using co];simp);have dd:Hs (((Jv X).take q).length=q):=Xa (by rw[dH];unfold Jv;rw[bK];omega);have bf:Hs (((Z2 X).take q).length=q):=Xa (by rw[dH];unfold Z2;rw[bK];omega);obtain⟨cp,hy⟩:∃cp,cp=X.is[q]:=⟨_,rfl⟩;rw[<-hy]at r0 r1 r2 r3 r4 a6 a4;obtain⟨t,n,y,z,v⟩:=cp;simp only at r0 r1 r2 r3 r4;clear ek em ep eq er ar hy;generalize (Jv X).take q=zr at*;generalize (Z2 X).take q=zd at*;go_wp2_with fail
      have b6:Below wr.heap.size wr (wr.alloc<|.cells #[Hp t,Hp n,Hp y,Hp z,Hp v] 48):=Xb (Below.refl _ _) _;have M:wr.heap.size<(wr.alloc<|.cells #[Hp t,Hp n,Hp y,Hp z,Hp v] 48).heap.size:=sP;have ax:∀H x,#[Hp t,Hp n,Hp y,Hp z,Hp v][H]?=some x->(wr.alloc<|.cells #[Hp t,Hp n,Hp y,Hp z,Hp v] 48).cell? (Hk wr.heap.size H)=some x:=λH x h=>by
       rw[eC];exact h
      generalize wr.alloc _=u at*;have n0:Cl u wr.heap.size 0 (Hp t):=ax 0 _ rfl;have n1:Cl u wr.heap.size 1 (Hp n):=ax 1 _ rfl;have n2:Cl u wr.heap.size 2 (Hp y):=ax 2 _ rfl;have n3:Cl u wr.heap.size 3 (Hp z):=ax 3 _ rfl;have n4:Cl u wr.heap.size 4 (Hp v):=ax 4 _ rfl;have P:=Xa<|HI.below b6;have jc:=b6.size;have b8:a<u.heap.size:=oM;have s3:u.cell? (Hk a 3)=some ur:=by
       have h:=P.box.cell (i:=3) vZ;rw[aU rfl]at h;exact h
      have ib:=P.box.frozen 3;have dn:=Xa λB e=>(P.ownR.lt B e).2;have g5:=Xa λB e=>(HI.ownR.lt B e).2;have g4:=Xa λB e=>(P.ownD.lt B e).2;clear ax b6 r0 r1 r2 r3 r4 bl g8;refine Y7 (λD=>D.cell? (Hk wr.heap.size 0)=some (Hp t)/\D.cell? (Hk wr.heap.size 1)=some (Hp n)/\D.cell? (Hk wr.heap.size 2)=some (Hp y)/\D.cell? (Hk wr.heap.size 3)=some (Hp z)/\D.cell? (Hk wr.heap.size 4)=some (Hp v)) λhHeld=>?_;refine X0 0 ?_;refine X0 2 ?_;refine eS (rs:=[1,3]) kR sP ?_;refine(bQ rfl (λK hK=>?_) (bQ rfl (λK hK=>?_) dY))
      focus
       go_simp;refine hK _ _ kP λhHeld=>?_;clear hK
       try simp only[xX]
       refine Xs 3 λK hK=>?_;go_simp;refine(Wv ⟨t,n,y,z,v⟩ u.drew).mono ?_;rintro e r⟨a5,c5,rfl,f,F⟩;have d:Below u.heap.size u r:=⟨f.os,f.tape,f.output,f.size,f.block⟩;have A:=Xa d;have a0:Hs (Xf r u.heap.size r.heap.size a5<|Ft ⟨t,n,y,z,v⟩):=Xa F;have d3:=oB d s3 b8;have p0:=oB d n0 M;have p1:=oB d n1 M;have p2:=oB d n2 M;have p3:=oB d n3 M;have p4:=oB d n4 M;obtain⟨lr,af⟩:∃T,T=(Ft ⟨t,n,y,z,v⟩).length:=⟨_,rfl⟩;rw[<-af];have dc:=Xa af;clear f F d af;refine hK _ _ ⟨p0,p1,p2,p3,p4⟩ λhHeld=>?_;clear hK;refine X0 4 ?_;refine Xs 5 λK hK=>?_;go_simp;refine hK _ _ kP λhHeld=>?_;clear hK
      rotate_left
      focus
       go_simp;refine(Wv ⟨t,n,y,z,v⟩ u.drew).mono ?_;rintro e r⟨a5,c5,rfl,f,F⟩;have d:Below u.heap.size u r:=⟨f.os,f.tape,f.output,f.size,f.block⟩;have A:=Xa d;have a0:Hs (Xf r u.heap.size r.heap.size a5<|Ft ⟨t,n,y,z,v⟩):=Xa F;have d3:=oB d s3 b8;have p0:=oB d n0 M;have p1:=oB d n1 M;have p2:=oB d n2 M;have p3:=oB d n3 M;have p4:=oB d n4 M;obtain⟨lr,af⟩:∃T,T=(Ft ⟨t,n,y,z,v⟩).length:=⟨_,rfl⟩;rw[<-af];have dc:=Xa af;clear f F d af;refine hK _ _ ⟨p0,p1,p2,p3,p4⟩ λhHeld=>?_;clear hK
       try simp only[xX]
       refine X0 4 ?_;refine eS (rs:=[1,5]) kR sP ?_;refine(bQ rfl (λK hK=>?_) (bQ rfl (λK hK=>?_) dY))
       focus
        go_simp;refine hK _ _ kP λhHeld=>?_;clear hK
        try simp only[xX]
        refine Xs 5 λK hK=>?_;go_simp;refine hK _ _ kP λhHeld=>?_;clear hK
       rotate_left;go_simp;refine hK _ _ kP λhHeld=>?_;clear hK
       try simp only[xX]
       have hb:(r.alloc<|.cells #[.slice a5 lr c5] 69).cell? (Hk a 3)=some ur:=oB (Xb (Below.refl r.heap.size r) _) d3 (by have:=A.size;show a<_;omega);refine Xs 1 λK hK=>?_;go_simp;refine hK _ _ kP λhHeld=>?_;clear hK
      all_goals (
       refine Xs 6 λK hK=>?_;refine dm rfl _ _ 65 rfl w2.heap.size 69 j0 (.agg #[Hq]) 1 24 underlying65 hh hw hz h0 rfl vZ ur rs.length rs rfl ?s1 (Hk r.heap.size 0) 1 1 [.slice a5 lr c5] rfl rfl ?s2 ?s3 ?s4 ?s5 ?s6 ?_
       case s1=>exact(Zl P.ownR λB e=>A.block B<|dn B e).alloc _
       case s2=>exact cell_one_new _ _ _
       case s3=>intro x hv;simp at hv;subst hv;rfl
       case s4=>have i:=P.len;have o:=dd.o;unfold maxLen;omega
       case s5=>have i:=P.len;have o:=dd.o;omega
       case s6=>have:=A.size;simp;omega
       intro u6 I cm cc _ d1;obtain⟨g6,c6,rfl,_,_⟩:=Xm cm oM;have gp:=Xa<|P.below (Xg A<|Xb (Below.refl r.heap.size r) (.cells #[.slice a5 lr c5] 69));have R:=Xa (gp.pushR (c5:=c5) (ys:=Ft ⟨t,n,y,z,v⟩) b7 (B0:=u.heap.size) oM dn g4 ((a0.keep<|Xb (Below.refl r.heap.size r) _).mono (aA _) sP) cc (by rw[<-dc.o];exact cm) (by rw[aO];simpa using d1));have ck:=λH i o=>(cc.block H (by simp;omega) o).trans (Below.heap_alloc _ _ _ i);have i5:=A.size;have cb:=ck a oM (λe=>by have:=(P.ownR.lt a e.symm).1;omega);have aq:=ck wr.heap.size oM (λe=>by have:=g5 _ e.symm;omega);have g3:=(Xc cb).trans d3;have gz:I.frozen? (Hk a 3)=false:=by rw[bJ (a:=(Hk a 3)) cb];exact(A.frozen (p:=Hk a 3) b8).trans ib
       have t0:=(Xc aq).trans p0;have t1:=(Xc aq).trans p1;have t2:=(Xc aq).trans p2;have t3:=(Xc aq).trans p3;have t4:=(Xc aq).trans p4;clear cm cc d1 ck cb aq p0 p1 p2 p3 p4 d3 hHeld
       (try clear hb)
       refine hK _ _ ⟨t0,t1,t2,t3,t4⟩ λhHeld=>?_;clear hK;refine X0 7 ?_;refine Xs 8 λK hK=>?_;go_simp;have C:∀(U:Nat)(x:Value),I.cell? (Hk wr.heap.size U)=some x->(I.setCell (Hk a 3) (Hl g6 (rs.length+1) c6)).cell? (Hk wr.heap.size U)=some x:=λU x o=>(bH I (Hk a 3) (Hk wr.heap.size U) _ (by show a≠wr.heap.size;omega)).trans o;refine hK _ _ ⟨C _ _ t0,C _ _ t1,C _ _ t2,C _ _ t3,C _ _ t4⟩ λhHeld=>?_;have et:=C _ _ t0;have ev:=C _ _ t1;clear hK hHeld C t0 t1 t2 t3 t4 g3 gz
       try simp only[xX]
       refine Yq ?_;generalize I.setCell _ _=O at*;go_wp2_with fail
       refine(ix t O).mono ?_;rintro e w8⟨rfl,ej⟩;rw[ej];clear ej w8;have es:O.cell? (Hk a 4)=some ud:=by
        have h:=R.box.cell (i:=4) vZ;rw[aM vZ,aU rfl]at h;exact h
       cases hdb:dB t
       .have az:Hs (Fa ⟨t,n,y,z,v⟩=(-1)):=Xa (by unfold Fa;simp only[hdb];simp);clear hdb;go_wp2_with (at_builtin;refine bT _ rfl _ _ 27 rfl w2.heap.size 2 m0 (Hp 0) 1 8 underlying27 cf cg ch ci rfl vZ _ _ _ rfl (R.ownD.alloc _) (Hk O.heap.size 0) 1 1 [Hp (-1)] rfl rfl ?c1 ?c2 ?c3 ?c4 ?c5 ?_)
        case c1=>
         intro j' u' G
         match j',G with
         |0,G=>simp at G;subst G;simp[Addr.add]
        case c2=>intro u' aa;simp at aa;subst aa;rfl
        case c3=>have:=bf.o;unfold maxLen;omega
        case c4=>have:=bf.o;omega
        case c5=>have:=R.size;simp;omega
        intro u9 w9 L J _ Z;obtain⟨g9,c9,rfl,_,_⟩:=Xm L oM;have S:=Xa<|R.below (Xb (Below.refl O.heap.size O) (.cells #[Hp (-1)] 2));have al:w9.heap[a]?=(O.alloc<|.cells #[Hp (-1)] 2).heap[a]?:=J.block a (by have:=S.box.lt;exact this) (λe=>by have:=(R.ownD.lt a e.symm).1;omega);have k4:w9.cell? (Hk a 4)=some ud:=by
         have h:=S.box.cell (i:=4) vZ;rw[aM vZ,aU rfl]at h;exact(Xc al).trans h
        have kz:w9.frozen? (Hk a 4)=false:=by rw[bJ (a:=(Hk a 4)) al];exact S.box.frozen 4
        have a3:=Xa (S.pushD (x:=(-1)) b7 J L (by rw[aO];exact Z));clear L J Z al et ev es;go_wp2_with fail
        refine⟨?_,by simp[intOf];omega⟩
        first
         |exact⟨q+1,_,_,_,oM,gM,Xa<|by rw[a6.o,a4.o,az.o];exact a3⟩
         |((repeat apply gP);refine⟨?_,rfl⟩;exact⟨q+1,_,_,_,oM,gM,Xa<|by rw[a6.o,a4.o,az.o];exact a3⟩)
       have az:Hs (Fa ⟨t,n,y,z,v⟩=n):=Xa (by unfold Fa;simp only[hdb];simp);clear hdb;go_wp2_with (at_builtin;refine bT _ rfl _ _ 27 rfl w2.heap.size 2 m0 (Hp 0) 1 8 underlying27 cf cg ch ci rfl vZ _ _ _ rfl (R.ownD.alloc _) (Hk O.heap.size 0) 1 1 [Hp n] rfl rfl ?c1 ?c2 ?c3 ?c4 ?c5 ?_)
       case c1=>
        intro j' u' G
        match j',G with
        |0,G=>simp at G;subst G;simp[Addr.add]
       case c2=>intro u' aa;simp at aa;subst aa;rfl
       case c3=>have:=bf.o;unfold maxLen;omega
       case c4=>have:=bf.o;omega
       case c5=>have:=R.size;simp;omega
       intro u9 w9 L J _ Z;obtain⟨g9,c9,rfl,_,_⟩:=Xm L oM;have S:=Xa<|R.below (Xb (Below.refl O.heap.size O) (.cells #[Hp n] 2));have al:w9.heap[a]?=(O.alloc<|.cells #[Hp n] 2).heap[a]?:=J.block a (by have:=S.box.lt;exact this) (λe=>by have:=(R.ownD.lt a e.symm).1;omega);have k4:w9.cell? (Hk a 4)=some ud:=by
        have h:=S.box.cell (i:=4) vZ;rw[aM vZ,aU rfl]at h;exact(Xc al).trans h
       have kz:w9.frozen? (Hk a 4)=false:=by rw[bJ (a:=(Hk a 4)) al];exact S.box.frozen 4
       have a3:=Xa (S.pushD (x:=n) b7 J L (by rw[aO];exact Z));clear L J Z al et ev es;go_wp2_with fail
       refine⟨?_,by simp[intOf];omega⟩
       first
        |exact⟨q+1,_,_,_,oM,gM,Xa<|by rw[a6.o,a4.o,az.o];exact a3⟩
        |((repeat apply gP);refine⟨?_,rfl⟩;exact⟨q+1,_,_,_,oM,gM,Xa<|by rw[a6.o,a4.o,az.o];exact a3⟩))
     have dk:Hs (q=X.is.length):=Xa<|oN dj.o
     have ab:Hs (Ix w2 a (λp=>if p=2 then V else f0 p) wr ur ud rs (Jv X) (Z2 X)):=Xa (by
      have h:=HI.o;rw[aW (by unfold Jv;rw[bK];have:=dk.o;omega),aW (by unfold Z2;rw[bK];have:=dk.o;omega)]at h;exact h)
     obtain⟨⟨aR,cR,eR,hR⟩,⟨aD,cD,eD,hD⟩⟩:=ab.fin;obtain⟨aP,cP,eP,hP⟩:=HA.e1;obtain⟨aE,cE,eE,hE⟩:=HA.e5;obtain⟨a2,c2,e2,eb⟩:=Xk ao.own;have bd:=Xa HA.low;have a9:=λH i o=>(ab.fr H (oN b1.o) o).trans (ao.fr H i o)
     have br:Hs (Below wo.heap.size wo wr):=Xa ⟨ab.os.trans<|ao.os.trans bd.os,ab.tape.trans<|ao.tape.trans bd.tape,ab.output.trans<|ao.output.trans bd.output,oN b1.o,λH hr=>(a9 H oM oM).trans (bd.block H hr)⟩;have gx:=Xa (Zl Q.own λB e=>br.block B (Q.own.lt B e).2);have gl:Hs (VO wr (λb=>wo.heap.size<=b) (uv (.slice aT N cT) (.slice aP X.ps.length cP) (.slice a2 (XP g k).length c2) (.slice aR (Jv X).length cR) (.slice aD (Z2 X).length cD) (.slice aE (G2 X.te).length cE)) g[k] (XP g k)):=Xa (by
      rw[<-HX.o];have i6:=b1.o;refine⟨⟨aT,cT,by rw[<-a1.o];rfl,?_⟩,⟨aP,cP,by rw[bK];rfl,?_⟩,⟨a2,c2,rfl,?_⟩,⟨aR,cR,rfl,?_⟩,⟨aD,cD,rfl,?_⟩,⟨aE,cE,rfl,?_⟩⟩;·exact(da.keep (w':=wr) (λj i o=>a9 j i o.2) oM).mono λ_ _ h=>h.1
      .exact(hP.keep (w':=wr) (λj i o=>a9 j i o.2) oM).mono λ_ _ h=>h.1
      .have h5:=Yv.of_at eb (aA _) (P:=λj=>Y.heap.size<=j) λj i _=>i;exact(h5.keep (w':=wr) (λj i o=>ab.fr j i oM) h8).mono λj _ h=>by show wo.heap.size<=j;have h':=h;omega
      .exact hR.mono λj _ h=>by show wo.heap.size<=j;have h':=h;omega
      .exact hD.mono λj _ h=>by show wo.heap.size<=j;have h':=h;omega
      exact(hE.keep (w':=wr) (λj i o=>a9 j i o.2) oM).mono λ_ _ h=>h.1)
     have Hg:=λ(p:Nat)(h:p<6)=>ab.box.cell h
     have x0:wr.cell? (Hk a 0)=some (.slice aT N cT):=by
      have h:=Hg 0 vZ;simp only[Nat.reduceEqDiff,fD]at h;rw[cx.o,<-a1.o]at h;exact h
     have x1:wr.cell? (Hk a 1)=some (.slice aP X.ps.length cP):=by
      have h:=Hg 1 vZ;simp only[Nat.reduceEqDiff,fD]at h;rw[eP]at h;exact h
     have x2:wr.cell? (Hk a 2)=some (.slice a2 (XP g k).length c2):=by
      have h:=Hg 2 vZ;simp only[Nat.reduceEqDiff,fD,gG]at h;rw[e2]at h;exact h
     have x3:wr.cell? (Hk a 3)=some (.slice aR (Jv X).length cR):=by
      have h:=Hg 3 vZ;simp only[Nat.reduceEqDiff,fD,gG]at h;rw[eR]at h;exact h
     have x4:wr.cell? (Hk a 4)=some (.slice aD (Z2 X).length cD):=by
      have h:=Hg 4 vZ;simp only[Nat.reduceEqDiff,fD,gG]at h;rw[eD]at h;exact h
     have x5:wr.cell? (Hk a 5)=some (.slice aE (G2 X.te).length cE):=by
      have h:=Hg 5 vZ;simp only[Nat.reduceEqDiff,fD]at h;rw[eE]at h;exact h
     generalize X.ps.length=nP at*;generalize (XP g k).length=l2 at*;generalize (Jv X).length=lR at*;generalize (Z2 X).length=lD at*;generalize (G2 X.te).length=lE at*;clear hR hD hP hE eb eR eD eP eE e2 Hg a9;go_wp2_with (at_builtin;refine bT _ rfl _ _ 114 rfl (w.heap.size+1) 117 i0 (.agg #[Hq,Hq,Hq,Hq,Hq,Hq]) 6 144 underlying114 hf h3 h4 h6 rfl vZ _ _ _ rfl (gx.alloc _) (Hk wr.heap.size 0) 1 1 [.slice aT N cT,.slice aP nP cP,.slice a2 l2 c2,.slice aR lR cR,.slice aD lD cD,.slice aE lE cE] rfl rfl ?c1 ?c2 ?c3 ?c4 ?c5 ?_)
     case c1=>
      intro j' u' G;rw[jn,eC];simpa using G
     case c2=>
      intro u' aa;simp at aa;rcases aa with rfl|rfl|rfl|rfl|rfl|rfl<;>rfl
     case c3=>unfold maxLen;omega
     case c4=>omega
     case c5=>have:=br.size;simp;omega
     intro u9 w9 L J _ Z;have df:=Xa (Q.next (f:=uv (.slice aT N cT) (.slice aP nP cP) (.slice a2 l2 c2) (.slice aR lR cR) (.slice aD lD cD) (.slice aE lE cE)) bb (Xg br<|Xb (Below.refl wr.heap.size wr) _) (gl.keep (λj i _=>Below.heap_alloc _ _ _ i) sP) J L (by rw[aO];exact Z));clear L J Z x0 x1 x2 x3 x4 x5;go_wp2_with fail
     refine hN _ _ ?_;refine⟨?_,by simp[intOf];omega⟩
     first
      |exact⟨k+1,_,oM,gM,df⟩
      |((repeat apply gP);refine⟨?_,rfl⟩;exact⟨k+1,_,oM,gM,df⟩))
  clear bv;exact EC W s c b bq k b3 bc pa ia pc ic X w wr _ _ _ _ _ _ _ _ _ _ _ _ _ _ _ _ _ _ _ _ _ _ _ _ _ _ _ _ _ _ _ _ _ _ _ _ _ _ _ _ _ _ _ _ _ _ _ _ _ _ _ _ _ _ _ _ _ _ _ _ _ _ _ _ _ _ _ _ _ _ _ _ _ _ _ _ _ _ _ _ _ _ _ _ _ _ _ _ _ _ _ _ _ _ _ (Xa λc ac ay x w h=>hQ c ac ay x w h) hB hu hl ca e0 e1 e2 e3 e4 e5 bz bw g7
 go_wp2;go_ret;have hi:k=g.length:=oN hx.o;have h:=Q.o;rw[hi]at h;obtain⟨a',c',rfl,hF⟩:=h.fin;exact⟨a',c',by rw[hx.o];rfl,Q.low,hF⟩
end Go.Proofs.YtffcajcgkblkoaaGreatDoor
