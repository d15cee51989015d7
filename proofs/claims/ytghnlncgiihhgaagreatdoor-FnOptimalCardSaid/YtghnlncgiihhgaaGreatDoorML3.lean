import Derived.Test.YtghnlncgiihhgaaGreatDoorML3a
namespace Go.Proofs.YtghnlncgiihhgaaGreatDoor
set_option maxHeartbeats 8000000
set_option maxRecDepth 100000
open Go.RowKit Go.Proofs.Tryz
theorem og(W:Nat)(ac:Option Addr)(r I:Nat)(f:List Xe)(b2 bd:Nat)(w:World)(ha:Hid (Xp w b2 bd ac f))(hx:Hid (r=f.length))(hB:bd<=w.heap.size)(ho:Hid (Jy W f)) :
 Calls prog 50 #[.agg #[.int .i64 (W:Int),.slice ac r I]] w fun e C=>∃a' c',e=.returned (.slice a' r c')/\Below w.heap.size w C/\WJ C w.heap.size a' f:=by
 obtain⟨i0,hi,h7,h8,h9⟩:=Xq Tryz.infoFa;obtain⟨j0,hm,h3,h4,h6⟩:=Xq Tryz.infoSetI';obtain⟨m0,cd,ce,cf,ch⟩:=Xq Tryz.info2';have hn:r<=1000:=oP hx.out ho.okf.n2
 have gl:=Xa (fun du il az (hW:Below w.heap.size w du) bp=>sd W ac r I il az f b2 bd du (Xa (ha.keep (hW.mono hB))) hx (oN hW.size) ho bp)
 go_in
 go_wp2
 go_loopw [3,4] (fun V o wr=>∃(k:Nat)(cs:List Value),k<=r/\o=.int .i64 k/\Hid (LsI w W ac r I f wr V k cs)) (fun _ o _=>r-(intOf o).toNat)
 case atStart =>
  refine⟨0,[],aN _,rfl,Xa ⟨Xb (Xb (Below.refl _ _) _) _,sP,sP,sP,?_,fun o _ h=>absurd h oM⟩⟩;have h:=eI (base:=w.heap.size+1) (e:=109) (size:=6) (w.alloc (.cells #[.int .i64 (W:Int),.slice ac r I] 25)) #[] 0 sP sP rfl;rw[aO]at h;exact h
 case round =>
  obtain⟨k,cs,hk,rfl,Q⟩:=hrel;have b8:=Q.f1;by_cases hr:k<r
  ·have bc:k<f.length:=oN hx.out
   have eg:=Q.low;have h0:=Q.sz;obtain⟨b,br,ea,⟨i2,i1⟩,hc⟩:=(ha.keep (eg.mono hB)) k bc;subst ea;obtain⟨pa,pc,ia,ic,e0,e1,⟨e2,e3,e4,e5⟩,ei,ee⟩:=hc;have bz:=Xa ei;have da:=Xa ee;have bw:=Xa (ho.lens f[k] (aH bc));have dn:Hid (∀az∈f[k].te.tg,0<=az/\az<(r:Int)):=Xa (by rw[hx.out];exact ho.okf.tgt f[k] (aH bc));obtain⟨X,hX⟩:∃X,X=f[k]:=⟨_,rfl⟩;rw[<-hX]at e0 e1 e2 e3 e4 e5 bz da bw dn;have HX:=Xa hX;clear hX ei ee;refine BG (fun _ _ _ _ _ h=>h) ?_;intro iv hN hQ
   go_wp2_with fail
   rename_i Kc bv;have hh:b<wr.heap.size:=aI wr _ e0;have hd:Hid (∀(a:Nat)(f0:Nat->Value)(ez e6 e7 e8 e9 fa fb fc fe fi fl fq fr fs fx fz f7 ga gb gc gd:Value)(Y:World),FcA wr Y a X f0->Kc ⟨#[.agg #[.int .i64 (W:Int),.slice (some ⟨b,br,none⟩) r I],.pointer (some ⟨w.heap.size,0,none⟩),.slice none 0 0,u3,.int .i64 (k:Int),.pointer (some ⟨a,0,none⟩),u6,u7,u8,.slice (some ⟨w.heap.size+1,0,none⟩) 0 0,.int .i64 (k:Int),.pointer (some ⟨w.heap.size,1,none⟩),.slice (some ⟨b,br,none⟩) r I,.int .i64 (r:Int),.bool true,u15,u16,ez,e6,e7,e8,e9,fa,fb,fc,fe,fi,fl,fq,fr,fs,fx,fz,f7,ga,gb,gc,gd,u38,u39,u40,u41,u42,u43,u44,u45,u46,u47,u48,u49,u50,u51,u52,u53,u54,u55,u56,u57,u58,u59,u60,u61,u62,u63,u64,u65,u66,u67,u68,u69,u70,u71,u72,u73,u74,u75,u76,u77,u78,u79,u80,u81,u82,u83,u84,u85,u86,u87,u88,u89,u90,u91,u92,u93,u94,u95,u96,u97,u98,u99,u100,u101,u102,u103,undef],[]⟩ Y):=Xa (by
    intro a f0 ez e6 e7 e8 e9 fa fb fc fe fi fl fq fr fs fx fz f7 ga gb gc gd Y D;apply bv;have HA:=Xa D;obtain⟨aT,cT,eT,ed⟩:=D.e0;have db:=Xa ed;have c7:=Xa eT;have i6:=D.b1;have bn:=D.box.lt;have j3:=D.low.size;have aq:=Xa (eg.trans (D.low.mono oM));have ge:=(XU D.low oM).trans Q.f0;have gf:=(XU D.low oM).trans b8;have b0:=Xa (show _/\_ from⟨ge,gf⟩);obtain⟨N,ci⟩:∃T,T=X.te.tg.length:=⟨_,rfl⟩;have js:N<=2:=by rw[ci];exact KJ _
    have a3:=Xa ci;have gg:=Xa (oB D.low e1 hh);have gx:=Xa (da.keepS (fun q _ n=>D.low.block q oM));have gi:Hid (∀j,j<=2->((X.te.tg.take j).flatMap (edgeU f (k:Int))).length<=8000000):=Xa (fun j hj=>by
     have g:=V8 ho (k:Int) (X.te.tg.take j);rw[dH]at g;have n:min j X.te.tg.length<=2:=oM;omega)
    have i5:w.heap.size<a:=oM;clear D ed eT ci bv e0 e1 e2 e3 e4 e5 b8 ge gf bz;generalize wr=wo at *
    go_wp2
    go_loopw [6] (fun o wr=>∃(j:Nat)(V:Value),j<=N/\o=.int .i64 j/\Hid (EdL Y a f0 wr V ((X.te.tg.take j).flatMap (edgeU f (k:Int))))) (fun o _=>N-(intOf o).toNat)
    case atStart=>exact⟨0,.slice none 0 0,aN _,rfl,Xa (EdL.start HA.box HA.n2)⟩
    case round =>
     obtain⟨j,V,hj,rfl,l⟩:=hrel;have ib:=l.size;have c0:wr.cell? ⟨a,0,none⟩=some (.slice aT N cT):=by
      have h:=l.box.cell (i:=0) vY;rw[aM vY,c7.out,<-a3.out]at h;exact h
     by_cases ht:j<N
     ·have cc:j<X.te.tg.length:=by rw[<-a3.out];exact ht
      obtain⟨bt,ot,rfl,⟨⟨_,d5⟩,hg⟩,eb⟩:=db j cc;have ej:=dn _ (aH cc);have c2:wr.cell? ⟨a,2,none⟩=some V:=by
       have h:=l.box.cell (i:=2) vY;rw[aU rfl]at h;exact h
      have cz:=l.box.frozen 2;have dw:=l.cell oM b0.1;have bm:=l.cell oM b0.2;have ct:=l.cell d5 eb;have c8:Hid ((X.te.tg.take (j+1)).flatMap (edgeU f (k:Int))=(X.te.tg.take j).flatMap (edgeU f (k:Int))++edgeU f (k:Int) X.te.tg[j]):=Xa (vA cc);obtain⟨tn,bp⟩:=bX ej.1;rw[bp]at c8 ct;have hz:tn<r:=oM;have cw:=Xa (gl.out wr.drew (k:Int) tn ⟨l.os.trans aq.os,l.tape.trans aq.tape,l.output.trans aq.output,aJ aq.size l.size,fun q hq=>(l.fr q (oN aq.size) oM).trans (aq.block q hq)⟩ hz);have dc:=Xa (gi.out j oM);have dj:=Xa (m8 ho (k:Int) (tn:Int));have bb:a<wr.heap.size:=oM;have bq:w.heap.size<wr.heap.size:=oM;generalize edgeU f (k:Int) (tn:Int)=eu at *;generalize (X.te.tg.take j).flatMap (edgeU f (k:Int))=el at *;clear eb ej bp
      go_wp2_with fail
      refine Y7 (fun C=>C.cell? ⟨w.heap.size,0,none⟩=some (.int .i64 (W:Int))/\C.cell? ⟨w.heap.size,1,none⟩=some (.slice (some ⟨b,br,none⟩) r I)/\C.cell? ⟨a,0,none⟩=some (.slice (some ⟨bt,ot,none⟩) N cT)/\C.cell? ⟨bt,ot+j,none⟩=some (.int .i64 (tn:Int))) (fun hHeld=>?_);refine X0 0 ?_;refine X0 2 ?_;refine X0 3 ?_;refine X0 4 ?_;refine X0 5 ?_;refine X0 6 ?_;refine X0 7 ?_;refine X0 8 ?_;refine eS (rs:=[1,9]) vZ sP ?_;refine(bQ rfl (fun K hK=>?_) (bQ rfl (fun K hK=>?_) dY));go_simp;refine hK _ _ kP (fun hHeld=>?_);clear hK
      try simp only[xX]
      refine Xs 9 (fun K hK=>?_);go_simp;refine cw.mono ?_;rintro e p ⟨ad,c5,rfl,d,E⟩;have c:Below wr.heap.size wr p:=⟨d.os,d.tape,d.output,d.size,d.block⟩;have z:=Xa c;have a1:=Xa E;have d0:=oB c c0 bb;have d2:=oB c c2 bb;have a8:=oB c dw bq;have a9:=oB c bm bq;have dt:=oB c ct (aI wr _ ct);clear d E c;refine hK _ _ ⟨a8,a9,d0,dt⟩ (fun hHeld=>?_);clear hK;rotate_left;go_simp;refine cw.mono ?_;rintro e p ⟨ad,c5,rfl,d,E⟩;have c:Below wr.heap.size wr p:=⟨d.os,d.tape,d.output,d.size,d.block⟩;have z:=Xa c;have a1:=Xa E;have d0:=oB c c0 bb;have d2:=oB c c2 bb;have a8:=oB c dw bq;have a9:=oB c bm bq;have dt:=oB c ct (aI wr _ ct);clear d E c;refine hK _ _ ⟨a8,a9,d0,dt⟩ (fun hHeld=>?_);clear hK
      try simp only[xX]
      refine Xs 1 (fun K hK=>?_);go_simp;refine hK _ _ kP (fun hHeld=>?_);clear hK
      all_goals (
       refine Xs 10 (fun K hK=>?_);refine Z7 rfl _ _ 27 rfl Y.heap.size 2 m0 (.int .i64 0) 1 8 underlying27 cd ce cf ch rfl vY V el.length (el.map (Value.int .i64)) rfl ?s1 ad eu.length c5 (eu.map (Value.int .i64)) rfl sP ?s2 ?s3 ?s4 ?s5 ?s6 ?_
       case s1=>exact YU l.own (fun A e=>z.block A (l.own.lt A e).2)
       case s2=>exact At a1
       case s3=>intro v hv;obtain⟨kb,_,rfl⟩:=aY.1 hv;rfl
       case s4=>have:=dc.out;have:=dj.out;unfold maxLen;omega
       case s5=>have:=dc.out;have:=dj.out;omega
       case s6=>have:=z.size;omega
       intro u1 H ck cb _ _;obtain⟨av,cv,d1,_⟩:=Xk (xs:=el++eu) (by rw[bG];exact ck);obtain⟨ln,ef⟩:∃T,T=(el++eu).length:=⟨_,rfl⟩;rw[<-ef]at d1;subst d1;clear ef;have gr:=Xa cb;have g4:Hid (H.ownsRow Y.heap.size 2 1 (.slice av ln cv) (el++eu).length ((el++eu).map (Value.int .i64))):=Xa (by rw[aQ,bG];exact ck);have aj:∀q,q<Y.heap.size->H.heap[q]?=p.heap[q]?:=fun q hq=>cb.block q (oN z.size) (fun e=>by have:=(l.own.lt q e.symm).1;omega)
       have g0:=(Xc (aj a bn)).trans d0;have g2:=(Xc (aj a bn)).trans d2;have gz:H.frozen? ⟨a,2,none⟩=false:=by rw[bJ (a:=⟨a,2,none⟩) (aj a bn)];exact(z.frozen (p:=⟨a,2,none⟩) bb).trans cz
       have b3:=(Xc (aj w.heap.size oM)).trans a8;have b4:=(Xc (aj w.heap.size oM)).trans a9;have gt:=(Xc (aj bt hg)).trans dt;have g7:=Xa (l.push (u':=.slice av ln cv) (qs:=eu) bn z gr g4);clear ck cb aj d0 d2 a8 a9 dt hHeld;refine hK _ _ ⟨b3,b4,g0,gt⟩ (fun hHeld=>?_);clear hK;refine X0 11 ?_;refine Xs 12 (fun K hK=>?_);go_simp;have B:∀(i U:Nat)(v:Value),(i≠a\/U≠2)->H.cell? ⟨i,U,none⟩=some v->(H.setCell ⟨a,2,none⟩ (.slice av ln cv)).cell? ⟨i,U,none⟩=some v:=fun i U v g n=>(cJ _ _ _ _ (by
        intro e;injection e with e1 e2;rcases g with g | g
        ·exact g e1.symm
        ·exact g e2.symm)).trans n
       refine hK _ _ ⟨B _ _ _ (bC oM) b3,B _ _ _ (bC oM) b4,B _ _ _ (aZ vY) g0,B _ _ _ (bC d5) gt⟩ (fun hHeld=>?_);clear hK hHeld B b3 b4 g0 g2 gz gt
       try simp only[xX]
       refine Yq ?_
       go_wp2
       exact⟨⟨j+1,.slice av ln cv,oM,gM,Xa (by rw[c8.out];exact g7)⟩,by simp[intOf];omega⟩)
     ·have g1:Hid (j=X.te.tg.length):=Xa (oN a3.out)
      have cx:Hid ((X.te.tg.take j).flatMap (edgeU f (k:Int))=XP f k):=Xa (by
       rw[aW (oN g1.out)];unfold XP;rw[aC bc,HX.out])
      have ap:Hid (EdL Y a f0 wr V (XP f k)):=Xa (by rw[<-cx.out];exact l);have b1:=Xa ib;have gp:=Xa (l.cell oM b0.2);have cr:=Xa (l.cell oM gg);have gv:=Xa (gx.keepS (fun q _ n=>l.fr q oM oM));have b6:a<wr.heap.size:=oM;clear l cx
      go_wp2_with fail
      clear c0;generalize wr=w2 at *;obtain⟨nI,bo⟩:∃T,T=X.is.length:=⟨_,rfl⟩;rw[<-bo]at cr;have jj:nI<=4000:=by rw[bo];exact bw.1
      have dk:=Xa bo;clear bo
      go_loopw [7] (fun o wr=>∃(q:Nat)(ur ud:Value)(rs:List Value),q<=nI/\o=.int .i64 q/\Hid (InL w2 a (fun o=>if o=2 then V else f0 o) wr ur ud rs ((Jv X).take q) ((Z2 X).take q))) (fun o _=>nI-(intOf o).toNat)
      case atStart=>exact⟨0,.slice none 0 0,.slice none 0 0,[],aN _,rfl,Xa (InL.start ap.box (by rw[aM vY];exact HA.n3) (by rw[aM vY];exact HA.n4))⟩
      case round =>
       obtain⟨q,ur,ud,rs,hq,rfl,HI⟩:=hrel;have ih:=HI.size;have bm:=(Xc (HI.fr w.heap.size oM oM)).trans gp;have he:=(Xc (HI.fr b oM oM)).trans cr;by_cases hu:q<nI
       ·have cp:q<X.is.length:=by rw[<-dk.out];exact hu
        obtain⟨bi,oi,rfl,⟨i4,i3⟩,hl⟩:=gv q cp;have ax:=HI.fr bi oM oM;obtain⟨em,ep,eq,er,es⟩:=hl;have r0:=(Xc ax).trans em;have r1:=(Xc ax).trans ep;have r2:=(Xc ax).trans eq;have r3:=(Xc ax).trans er;have r4:=(Xc ax).trans es;have a7:Hid ((Jv X).take (q+1)=(Jv X).take q++[rdI X.is[q]]):=Xa (by unfold Jv;rw[X7 _ _ (by simpa using cp)];simp);have a6:Hid ((Z2 X).take (q+1)=(Z2 X).take q++[defI X.is[q]]):=Xa (by unfold Z2;rw[X7 _ _ (by simpa using cp)];simp);have df:Hid (((Jv X).take q).length=q):=Xa (by rw[dH];unfold Jv;rw[bK];omega);have bl:Hid (((Z2 X).take q).length=q):=Xa (by rw[dH];unfold Z2;rw[bK];omega);obtain⟨cq,hy⟩:∃cq,cq=X.is[q]:=⟨_,rfl⟩;rw[<-hy]at r0 r1 r2 r3 r4 a7 a6;obtain⟨s,m,x,y,u⟩:=cq;simp only at r0 r1 r2 r3 r4;clear em ep eq er es ax hy;generalize (Jv X).take q=zr at *;generalize (Z2 X).take q=zd at *
        go_wp2_with fail
        have b5:Below wr.heap.size wr (wr.alloc (.cells #[.int .i64 s,.int .i64 m,.int .i64 x,.int .i64 y,.int .i64 u] 98)):=Xb (Below.refl _ _) _;have M:wr.heap.size<(wr.alloc (.cells #[.int .i64 s,.int .i64 m,.int .i64 x,.int .i64 y,.int .i64 u] 98)).heap.size:=sP;have ay:∀G v,#[Value.int .i64 s,.int .i64 m,.int .i64 x,.int .i64 y,.int .i64 u][G]?=some v->(wr.alloc (.cells #[.int .i64 s,.int .i64 m,.int .i64 x,.int .i64 y,.int .i64 u] 98)).cell? ⟨wr.heap.size,G,none⟩=some v:=fun G v h=>by
         rw[eC];exact h
        generalize wr.alloc _=t at *;have n0:Cl t wr.heap.size 0 (.int .i64 s):=ay 0 _ rfl;have n1:Cl t wr.heap.size 1 (.int .i64 m):=ay 1 _ rfl;have n2:Cl t wr.heap.size 2 (.int .i64 x):=ay 2 _ rfl;have n3:Cl t wr.heap.size 3 (.int .i64 y):=ay 3 _ rfl;have n4:Cl t wr.heap.size 4 (.int .i64 u):=ay 4 _ rfl;have P:=Xa (HI.below b5);have ka:=b5.size;have b7:a<t.heap.size:=oM;have s3:t.cell? ⟨a,3,none⟩=some ur:=by
         have h:=P.box.cell (i:=3) vY;rw[aU rfl]at h;exact h
        have ir:=P.box.frozen 3;have ds:=Xa (fun A e=>(P.ownR.lt A e).2);have hb:=Xa (fun A e=>(HI.ownR.lt A e).2);have g8:=Xa (fun A e=>(P.ownD.lt A e).2);clear ay b5 r0 r1 r2 r3 r4 bm he;refine Y7 (fun C=>C.cell? ⟨wr.heap.size,0,none⟩=some (.int .i64 s)/\C.cell? ⟨wr.heap.size,1,none⟩=some (.int .i64 m)/\C.cell? ⟨wr.heap.size,2,none⟩=some (.int .i64 x)/\C.cell? ⟨wr.heap.size,3,none⟩=some (.int .i64 y)/\C.cell? ⟨wr.heap.size,4,none⟩=some (.int .i64 u)) (fun hHeld=>?_);refine X0 0 ?_;refine X0 2 ?_;refine eS (rs:=[1,3]) vZ sP ?_;refine(bQ rfl (fun K hK=>?_) (bQ rfl (fun K hK=>?_) dY))
        focus
         go_simp;refine hK _ _ kP (fun hHeld=>?_);clear hK
         try simp only[xX]
         refine Xs 3 (fun K hK=>?_);go_simp;refine(Wv ⟨s,m,x,y,u⟩ t.drew).mono ?_;rintro e p ⟨a5,c5,rfl,d,E⟩;have c:Below t.heap.size t p:=⟨d.os,d.tape,d.output,d.size,d.block⟩;have z:=Xa c;have a1:Hid (Xf p t.heap.size p.heap.size a5 (rdI ⟨s,m,x,y,u⟩)):=Xa E;have d3:=oB c s3 b7;have p0:=oB c n0 M;have p1:=oB c n1 M;have p2:=oB c n2 M;have p3:=oB c n3 M;have p4:=oB c n4 M;obtain⟨lr,af⟩:∃T,T=(rdI ⟨s,m,x,y,u⟩).length:=⟨_,rfl⟩;rw[<-af];have dd:=Xa af;clear d E c af;refine hK _ _ ⟨p0,p1,p2,p3,p4⟩ (fun hHeld=>?_);clear hK;refine X0 4 ?_;refine Xs 5 (fun K hK=>?_);go_simp;refine hK _ _ kP (fun hHeld=>?_);clear hK
        rotate_left
        focus
         go_simp;refine(Wv ⟨s,m,x,y,u⟩ t.drew).mono ?_;rintro e p ⟨a5,c5,rfl,d,E⟩;have c:Below t.heap.size t p:=⟨d.os,d.tape,d.output,d.size,d.block⟩;have z:=Xa c;have a1:Hid (Xf p t.heap.size p.heap.size a5 (rdI ⟨s,m,x,y,u⟩)):=Xa E;have d3:=oB c s3 b7;have p0:=oB c n0 M;have p1:=oB c n1 M;have p2:=oB c n2 M;have p3:=oB c n3 M;have p4:=oB c n4 M;obtain⟨lr,af⟩:∃T,T=(rdI ⟨s,m,x,y,u⟩).length:=⟨_,rfl⟩;rw[<-af];have dd:=Xa af;clear d E c af;refine hK _ _ ⟨p0,p1,p2,p3,p4⟩ (fun hHeld=>?_);clear hK
         try simp only[xX]
         refine X0 4 ?_;refine eS (rs:=[1,5]) vZ sP ?_;refine(bQ rfl (fun K hK=>?_) (bQ rfl (fun K hK=>?_) dY))
         focus
          go_simp;refine hK _ _ kP (fun hHeld=>?_);clear hK
          try simp only[xX]
          refine Xs 5 (fun K hK=>?_);go_simp;refine hK _ _ kP (fun hHeld=>?_);clear hK
         rotate_left;go_simp;refine hK _ _ kP (fun hHeld=>?_);clear hK
         try simp only[xX]
         have hf:(p.alloc (.cells #[.slice a5 lr c5] 55)).cell? ⟨a,3,none⟩=some ur:=oB (Xb (Below.refl p.heap.size p) _) d3 (by have:=z.size;show a<_;omega);refine Xs 1 (fun K hK=>?_);go_simp;refine hK _ _ kP (fun hHeld=>?_);clear hK
        all_goals (
         refine Xs 6 (fun K hK=>?_);refine Z7 rfl _ _ 51 rfl w2.heap.size 55 j0 (.agg #[.slice none 0 0]) 1 24 underlying51 hm h3 h4 h6 rfl vY ur rs.length rs rfl ?s1 ⟨p.heap.size,0,none⟩ 1 1 [.slice a5 lr c5] rfl rfl ?s2 ?s3 ?s4 ?s5 ?s6 ?_
         case s1=>exact(YU P.ownR (fun A e=>z.block A (ds A e))).alloc _
         case s2=>exact cell_one_new _ _ _
         case s3=>intro v hv;simp at hv;subst hv;rfl
         case s4=>have g:=P.len;have n:=df.out;unfold maxLen;omega
         case s5=>have g:=P.len;have n:=df.out;omega
         case s6=>have:=z.size;simp;omega
         intro u6 H cl ca _ d4;obtain⟨g6,c6,rfl,_,_⟩:=Xm cl oM;have gs:=Xa (P.below (Xg z (Xb (Below.refl p.heap.size p) (.cells #[.slice a5 lr c5] 55))));have R:=Xa (gs.pushR (c5:=c5) (ys:=rdI ⟨s,m,x,y,u⟩) b6 (B0:=t.heap.size) oM ds g8 ((a1.keep (Xb (Below.refl p.heap.size p) _)).mono (aA _) sP) ca (by rw[<-dd.out];exact cl) (by rw[aO];simpa using d4));have cj:=fun G g n=>(ca.block G (by simp;omega) n).trans (Below.heap_alloc _ _ _ g)
         have j1:=z.size;have b9:=cj a oM (fun e=>by have:=(P.ownR.lt a e.symm).1;omega);have ar:=cj wr.heap.size oM (fun e=>by have:=hb _ e.symm;omega);have g3:=(Xc b9).trans d3;have gz:H.frozen? ⟨a,3,none⟩=false:=by rw[bJ (a:=⟨a,3,none⟩) b9];exact(z.frozen (p:=⟨a,3,none⟩) b7).trans ir
         have t0:=(Xc ar).trans p0;have t1:=(Xc ar).trans p1;have t2:=(Xc ar).trans p2;have t3:=(Xc ar).trans p3;have t4:=(Xc ar).trans p4;clear cl ca d4 cj b9 ar p0 p1 p2 p3 p4 d3 hHeld
         (try clear hf)
         refine hK _ _ ⟨t0,t1,t2,t3,t4⟩ (fun hHeld=>?_);clear hK;refine X0 7 ?_;refine Xs 8 (fun K hK=>?_);go_simp;have B:∀(U:Nat)(v:Value),H.cell? ⟨wr.heap.size,U,none⟩=some v->(H.setCell ⟨a,3,none⟩ (.slice (some ⟨g6,0,none⟩) (rs.length+1) c6)).cell? ⟨wr.heap.size,U,none⟩=some v:=fun U v n=>(bH H ⟨a,3,none⟩ ⟨wr.heap.size,U,none⟩ _ (by show a≠wr.heap.size;omega)).trans n
         refine hK _ _ ⟨B _ _ t0,B _ _ t1,B _ _ t2,B _ _ t3,B _ _ t4⟩ (fun hHeld=>?_);have ev:=B _ _ t0;have ey:=B _ _ t1;clear hK hHeld B t0 t1 t2 t3 t4 g3 gz
         try simp only[xX]
         refine Yq ?_;generalize H.setCell _ _=O at *
         go_wp2_with fail
         refine(dg s O).mono ?_;rintro e w8 ⟨rfl,ek⟩;rw[ek];clear ek w8;have et:O.cell? ⟨a,4,none⟩=some ud:=by
          have h:=R.box.cell (i:=4) vY;rw[aM vY,aU rfl]at h;exact h
         cases hdb:dB s
         ·have a0:Hid (defI ⟨s,m,x,y,u⟩=(-1)):=Xa (by unfold defI;simp only[hdb];simp)
          clear hdb
          go_wp2_with (at_builtin;refine bT _ rfl _ _ 27 rfl w2.heap.size 2 m0 (.int .i64 0) 1 8 underlying27 cd ce cf ch rfl vY _ _ _ rfl (R.ownD.alloc _) ⟨O.heap.size,0,none⟩ 1 1 [.int .i64 (-1)] rfl rfl ?c1 ?c2 ?c3 ?c4 ?c5 ?_)
          case c1 =>
           intro j' u' F
           match j',F with
           | 0,F=>simp at F;subst F;simp[Addr.add]
          case c2=>intro u' aa;simp at aa;subst aa;rfl
          case c3=>have:=bl.out;unfold maxLen;omega
          case c4=>have:=bl.out;omega
          case c5=>have:=R.size;simp;omega
          intro u9 w9 L J _ Z;obtain⟨g9,c9,rfl,_,_⟩:=Xm L oM;have S:=Xa (R.below (Xb (Below.refl O.heap.size O) (.cells #[.int .i64 (-1)] 2)));have al:w9.heap[a]?=(O.alloc (.cells #[.int .i64 (-1)] 2)).heap[a]?:=J.block a (by have:=S.box.lt;exact this) (fun e=>by have:=(R.ownD.lt a e.symm).1;omega);have k4:w9.cell? ⟨a,4,none⟩=some ud:=by
           have h:=S.box.cell (i:=4) vY;rw[aM vY,aU rfl]at h;exact(Xc al).trans h
          have kz:w9.frozen? ⟨a,4,none⟩=false:=by rw[bJ (a:=⟨a,4,none⟩) al];exact S.box.frozen 4
          have a4:=Xa (S.pushD (x:=(-1)) b6 J L (by rw[aO];exact Z));clear L J Z al ev ey et
          go_wp2_with fail
          refine⟨?_,by simp[intOf];omega⟩
          first
           | exact⟨q+1,_,_,_,oM,gM,Xa (by rw[a7.out,a6.out,a0.out];exact a4)⟩
           | ((repeat apply gP);refine⟨?_,rfl⟩;exact⟨q+1,_,_,_,oM,gM,Xa (by rw[a7.out,a6.out,a0.out];exact a4)⟩)
         ·have a0:Hid (defI ⟨s,m,x,y,u⟩=m):=Xa (by unfold defI;simp only[hdb];simp)
          clear hdb
          go_wp2_with (at_builtin;refine bT _ rfl _ _ 27 rfl w2.heap.size 2 m0 (.int .i64 0) 1 8 underlying27 cd ce cf ch rfl vY _ _ _ rfl (R.ownD.alloc _) ⟨O.heap.size,0,none⟩ 1 1 [.int .i64 m] rfl rfl ?c1 ?c2 ?c3 ?c4 ?c5 ?_)
          case c1 =>
           intro j' u' F
           match j',F with
           | 0,F=>simp at F;subst F;simp[Addr.add]
          case c2=>intro u' aa;simp at aa;subst aa;rfl
          case c3=>have:=bl.out;unfold maxLen;omega
          case c4=>have:=bl.out;omega
          case c5=>have:=R.size;simp;omega
          intro u9 w9 L J _ Z;obtain⟨g9,c9,rfl,_,_⟩:=Xm L oM;have S:=Xa (R.below (Xb (Below.refl O.heap.size O) (.cells #[.int .i64 m] 2)));have al:w9.heap[a]?=(O.alloc (.cells #[.int .i64 m] 2)).heap[a]?:=J.block a (by have:=S.box.lt;exact this) (fun e=>by have:=(R.ownD.lt a e.symm).1;omega);have k4:w9.cell? ⟨a,4,none⟩=some ud:=by
           have h:=S.box.cell (i:=4) vY;rw[aM vY,aU rfl]at h;exact(Xc al).trans h
          have kz:w9.frozen? ⟨a,4,none⟩=false:=by rw[bJ (a:=⟨a,4,none⟩) al];exact S.box.frozen 4
          have a4:=Xa (S.pushD (x:=m) b6 J L (by rw[aO];exact Z));clear L J Z al ev ey et
          go_wp2_with fail
          refine⟨?_,by simp[intOf];omega⟩
          first
           | exact⟨q+1,_,_,_,oM,gM,Xa (by rw[a7.out,a6.out,a0.out];exact a4)⟩
           | ((repeat apply gP);refine⟨?_,rfl⟩;exact⟨q+1,_,_,_,oM,gM,Xa (by rw[a7.out,a6.out,a0.out];exact a4)⟩))
       ·have dl:Hid (q=X.is.length):=Xa (oN dk.out)
        have ab:Hid (InL w2 a (fun o=>if o=2 then V else f0 o) wr ur ud rs (Jv X) (Z2 X)):=Xa (by
         have h:=HI.out;rw[aW (by unfold Jv;rw[bK];have:=dl.out;omega),aW (by unfold Z2;rw[bK];have:=dl.out;omega)]at h;exact h)
        obtain⟨⟨aR,cR,eR,hR⟩,⟨aD,cD,eD,hD⟩⟩:=ab.fin;obtain⟨aP,cP,eP,hP⟩:=HA.e1;obtain⟨aE,cE,eE,hE⟩:=HA.e5;obtain⟨a2,c2,e2,ec⟩:=Xk ap.own;have bf:=Xa HA.low;have ba:=fun G g n=>(ab.fr G (oN b1.out) n).trans (ap.fr G g n)
        have bs:Hid (Below wo.heap.size wo wr):=Xa ⟨ab.os.trans (ap.os.trans bf.os),ab.tape.trans (ap.tape.trans bf.tape),ab.output.trans (ap.output.trans bf.output),oN b1.out,fun G hw=>(ba G oM oM).trans (bf.block G hw)⟩;have g5:=Xa (YU Q.own (fun A e=>bs.block A (Q.own.lt A e).2));have gq:Hid (VO wr (fun b=>wo.heap.size<=b) (rC (.slice aT N cT) (.slice aP X.ps.length cP) (.slice a2 (XP f k).length c2) (.slice aR (Jv X).length cR) (.slice aD (Z2 X).length cD) (.slice aE (rdT X.te).length cE)) f[k] (XP f k)):=Xa (by
         rw[<-HX.out];have j2:=b1.out;refine⟨⟨aT,cT,by rw[<-a3.out];rfl,?_⟩,⟨aP,cP,by rw[bK];rfl,?_⟩,⟨a2,c2,rfl,?_⟩,⟨aR,cR,rfl,?_⟩,⟨aD,cD,rfl,?_⟩,⟨aE,cE,rfl,?_⟩⟩
         ·exact(db.keep (w':=wr) (fun i g n=>ba i g n.2) oM).mono (fun _ _ h=>h.1)
         ·exact(hP.keep (w':=wr) (fun i g n=>ba i g n.2) oM).mono (fun _ _ h=>h.1)
         ·have h5:=Yv.of_at ec (aA _) (P:=fun i=>Y.heap.size<=i) (fun i g _=>g)
          exact(h5.keep (w':=wr) (fun i g n=>ab.fr i g oM) ih).mono (fun i _ h=>by show wo.heap.size<=i;have h':=h;omega)
         ·exact hR.mono (fun i _ h=>by show wo.heap.size<=i;have h':=h;omega)
         ·exact hD.mono (fun i _ h=>by show wo.heap.size<=i;have h':=h;omega)
         ·exact(hE.keep (w':=wr) (fun i g n=>ba i g n.2) oM).mono (fun _ _ h=>h.1))
        have bcell:=fun (o:Nat)(h:o<6)=>ab.box.cell h
        have x0:wr.cell? ⟨a,0,none⟩=some (.slice aT N cT):=by
         have h:=bcell 0 vY;simp only[Nat.reduceEqDiff,fD]at h;rw[c7.out,<-a3.out]at h;exact h
        have x1:wr.cell? ⟨a,1,none⟩=some (.slice aP X.ps.length cP):=by
         have h:=bcell 1 vY;simp only[Nat.reduceEqDiff,fD]at h;rw[eP]at h;exact h
        have x2:wr.cell? ⟨a,2,none⟩=some (.slice a2 (XP f k).length c2):=by
         have h:=bcell 2 vY;simp only[Nat.reduceEqDiff,fD,gG]at h;rw[e2]at h;exact h
        have x3:wr.cell? ⟨a,3,none⟩=some (.slice aR (Jv X).length cR):=by
         have h:=bcell 3 vY;simp only[Nat.reduceEqDiff,fD,gG]at h;rw[eR]at h;exact h
        have x4:wr.cell? ⟨a,4,none⟩=some (.slice aD (Z2 X).length cD):=by
         have h:=bcell 4 vY;simp only[Nat.reduceEqDiff,fD,gG]at h;rw[eD]at h;exact h
        have x5:wr.cell? ⟨a,5,none⟩=some (.slice aE (rdT X.te).length cE):=by
         have h:=bcell 5 vY;simp only[Nat.reduceEqDiff,fD]at h;rw[eE]at h;exact h
        generalize X.ps.length=nP at *;generalize (XP f k).length=l2 at *;generalize (Jv X).length=lR at *;generalize (Z2 X).length=lD at *;generalize (rdT X.te).length=lE at *;clear hR hD hP hE ec eR eD eP eE e2 bcell ba
        go_wp2_with (at_builtin;refine bT _ rfl _ _ 106 rfl (w.heap.size+1) 109 i0 (.agg #[.slice none 0 0,.slice none 0 0,.slice none 0 0,.slice none 0 0,.slice none 0 0,.slice none 0 0]) 6 144 underlying106 hi h7 h8 h9 rfl vY _ _ _ rfl (g5.alloc _) ⟨wr.heap.size,0,none⟩ 1 1 [.slice aT N cT,.slice aP nP cP,.slice a2 l2 c2,.slice aR lR cR,.slice aD lD cD,.slice aE lE cE] rfl rfl ?c1 ?c2 ?c3 ?c4 ?c5 ?_)
        case c1 =>
         intro j' u' F;rw[pp,eC];simpa using F
        case c2 =>
         intro u' aa;simp at aa;rcases aa with rfl | rfl | rfl | rfl | rfl | rfl<;>rfl
        case c3=>unfold maxLen;omega
        case c4=>omega
        case c5=>have:=bs.size;simp;omega
        intro u9 w9 L J _ Z;have di:=Xa (Q.next (f:=rC (.slice aT N cT) (.slice aP nP cP) (.slice a2 l2 c2) (.slice aR lR cR) (.slice aD lD cD) (.slice aE lE cE)) bc (Xg bs (Xb (Below.refl wr.heap.size wr) _)) (gq.keep (fun i g _=>Below.heap_alloc _ _ _ g) sP) J L (by rw[aO];exact Z));clear L J Z x0 x1 x2 x3 x4 x5
        go_wp2_with fail
        refine hN _ _ ?_;refine⟨?_,by simp[intOf];omega⟩
        first
         | exact⟨k+1,_,oM,gM,di⟩
         | ((repeat apply gP);refine⟨?_,rfl⟩;exact⟨k+1,_,oM,gM,di⟩))
   clear bv;exact BV W r I b br k b2 bd pa ia pc ic X w wr _ _ _ _ _ _ _ _ _ _ _ _ _ _ _ _ _ _ _ _ _ _ _ _ _ _ _ _ _ _ _ _ _ _ _ _ _ _ _ _ _ _ _ _ _ _ _ _ _ _ _ _ _ _ _ _ _ _ _ _ _ _ _ _ _ _ _ _ _ _ _ _ _ _ _ _ _ _ _ _ _ _ _ _ _ _ _ _ _ _ _ _ _ _ _ (Xa (fun I ac az v w h=>hQ I ac az v w h)) hB h0 hr b8 e0 e1 e2 e3 e4 e5 bz bw hd
  ·go_wp2
   go_ret
   have hp:k=f.length:=oN hx.out
   have h:=Q.out;rw[hp]at h;obtain⟨a',c',rfl,hF⟩:=h.fin;exact⟨a',c',by rw[hx.out];rfl,Q.low,hF⟩
end Go.Proofs.YtghnlncgiihhgaaGreatDoor
