import Derived.Test.YtghnlncgiihhgaaGreatDoorMH2
import Derived.Test.YtghnlncgiihhgaaGreatDoorML3
namespace Go.Proofs.YtghnlncgiihhgaaGreatDoor
set_option maxHeartbeats 4000000
set_option maxRecDepth 100000
open Go.RowKit Go.Proofs.Tryz
variable{x:List Xe}{n:Nat}
theorem Tryz.infoL2S:(prog.info? 53).map (fun i=>(i.zero,i.size,i.bytes))=some (some (.agg #[.slice none 0 0]),1,24):=vZ
theorem fj(a:Jy n x)(b:Nat):(Tu x b).length<=4000:=by
 unfold Tu;cases h:x[b]? with
 | none=>exact aN _
 | some c=>simp only[Z2,bK];exact(a.lens c (eN h)).1
theorem lw(V:Nat)(X:Option Addr)(n ba:Nat)(a:List Xe)(ch bi:Nat)(w:World)(ha:Hid (Xp w ch bi X a))(H:Hid (n=a.length))(hB:bi<=w.heap.size)(C:Hid (Jy V a)) :
 Calls prog 22 #[.agg #[.int .i64 (V:Int),.slice X n ba]] w fun h w'=>CE w w' n V a h:=by
 have hn:n<=1000:=oP H.out C.okf.n2
 have hV:=C.vle;have bb:Below w.heap.size w (w.alloc (.cells #[.int .i64 (V:Int),.slice X n ba] 25)):=Xb (Below.refl _ _) _;have b4:=Xa (og V X n ba a ch bi _ (Xa (ha.keep (bb.mono hB))) H (oN bb.size) C);have cv:(w.alloc (.cells #[.int .i64 (V:Int),.slice X n ba] 25)).cell? ⟨w.heap.size,0,none⟩=some (.int .i64 (V:Int)):=by simp[go_sem]
 obtain⟨i0,ea,el,em,ep⟩:=Xq Tryz.infoL2S
 go_in
 go_wp2_with fail
 refine b4.mono ?_;rintro h I ⟨af,cf,rfl,bq,cq⟩;have dw:=Xa (Xg bb bq);have g0:=oB bq cv sP;have bm:=Xa cq;have es:w.heap.size<I.heap.size:=aI I _ g0;clear bq bb cv b4 cq;obtain⟨y,of,d0⟩:∃y of,af=some ⟨y,of,none⟩:=by
  obtain⟨b,et,_,h,_⟩:=bm 0 (oP H.out C.okf.n1);exact⟨b,et,h⟩
 subst d0;have aj:=Xa bm.at_;clear bm
 go_wp2_with fail
 obtain⟨m,hm⟩:∃m:Nat->Nat,m=fun s=>(Tu a s).length+1:=⟨_,rfl⟩
 have bo:Hid (∀s,m s=(Tu a s).length+1):=Xa (fun s=>by rw[hm]);have ev:Hid (∀s,m s<=4001):=Xa (fun s=>by rw[hm];have:=fj C s;show(Tu a s).length+1<=4001;omega);clear hm;have ce:=Xa (RwS.start I m);generalize I.alloc _=w2 at *
 go_loopw [4,5] (fun c9 i wr=>∃(b:Nat)(G:Nat->Nat),b<=n/\i=.int .i64 b/\Hid (RwS I wr c9 b m G)) (fun _ i _=>n-(intOf i).toNat)
 case atStart=>exact⟨0,fun _=>0,aN _,rfl,ce⟩
 case round =>
  obtain⟨b,G,hb,rfl,l⟩:=hrel;clear ce;by_cases L:b<n
  ·have ab:b<a.length:=oN H.out
   obtain⟨a0,n0,a1,n1,a2,n2,a3,n3,a4,c,a5,n5,c0,c1,c2,c3,c4,c5,d2,_,_,_,_,x4,_,_,_,_,ef,_,K⟩:=YQ.row C aj l.low ab;have dn:Hid (c+1=m b):=Xa (by rw[bo.out,K.d.1]);have bc:=J9 (P:=prog) 51 55 (.agg #[.slice none 0 0]) 1 24 underlying51 Tryz.infoSetI' (c+1) oM oM;rw[show((c+1:Nat):Int)=(c:Int)+1 by omega]at bc;have ek:IntKind.i64.wrap ((c:Int)+1)=(c:Int)+1:=by rw[dF];omega
   have HO:=Xa l.own;have aa:y<wr.heap.size:=aI wr _ x4;clear K
   go_wp2_with (at_builtin;refine bT _ rfl _ _ 49 rfl I.heap.size 53 i0 (.agg #[.slice none 0 0]) 1 24 underlying49 ea el em ep rfl vY _ _ _ rfl ((HO.alloc _).alloc _) ⟨wr.heap.size+1,0,none⟩ 1 1 [.slice (some ⟨wr.heap.size,0,none⟩) (c+1) (c+1)] rfl rfl ?c1 ?c2 ?c3 ?c4 ?c5 ?_)
   case c1 =>
    have A:=Yf (wr.alloc (.cells (madeCells #[.slice none 0 0] (c+1)) 55)) (.slice (some ⟨wr.heap.size,0,none⟩) (c+1) (c+1)) 53;rw[aO]at A;exact A
   case c2=>intro c9 hu;simp at hu;subst hu;rfl
   case c3=>unfold maxLen;omega
   case c4=>omega
   case c5=>simp;have:=l.low.size;omega
   intro v8 N bv bs _ d1;rw[dn.out]at bv bs;have ds:=Xa (l.push bs bv);clear bv bs d1
   go_wp2
   exact⟨⟨b+1,_,oM,gM,ds⟩,by simp[intOf];omega⟩
  ·have d3:n=b:=oM
   subst d3;have ee:0<n:=oP H.out C.okf.n1
   obtain⟨P,cO,rfl,_,_⟩:=Xm l.own ee;have b9:Hid (∀s,s<n->wr.cell? ⟨P,s,none⟩=some (.slice (some ⟨G s,0,none⟩) (m s) (m s))):=Xa (fun s d=>by
    exact Jj l.own (j:=s) (by simp[d]))
   have cb:=Xa (l.own.lt P rfl);have ca:Hid (∀s,s<n->P≠G s):=Xa (fun s d h=>by
    obtain⟨cc,B,_⟩:=(l.row s d).2;rcases l.own.2 with⟨e1,_⟩ | ⟨g,cap,cur,e1,_,t,_⟩
    ·cases e1
    ·injection e1 with e1
     injection e1 with e1;injection e1 with e1;subst e1;rw[h,show wr.heap[G s]?=_ from B]at t;injection t with t;injection t with _ h3;exact absurd h3 vY)
   have b2:Hid (LvM wr wr n G m (fun s i=>UU a 0 s i)):=Xa ⟨rfl,rfl,rfl,aA _,fun _ _ _=>rfl,fun _ _=>.slice none 0 0,⟨fun s d=>(l.row s d).2.lt,l.ne,fun s d=>(l.row s d).2,fun s i _ _=>by rw[wD];exact dA _ _ _ _,fun s i s' j _ _ _ _ _=>bC rfl⟩⟩;have bn:=Xa (fun s d=>(l.row s d).1);have ad:=Xa l.low;have g6:=l.low.size;clear l hb L
   go_wp2_with fail
   generalize wr=R at *;have al:Hid (∀wr cj,LvM R wr n G m cj->Below I.heap.size I wr):=Xa (fun wr cj A=>⟨A.os.trans ad.os,A.tape.trans ad.tape,A.output.trans ad.output,oN A.size,fun q hq=>(A.fr q oM (fun s d=>by have:=bn s d;omega)).trans (ad.block q hq)⟩)
   go_loopw [6] (fun i wr=>∃v:Nat,v<=V/\i=.int .i64 v/\Hid (LvM R wr n G m (fun s i=>UU a v s i))) (fun i _=>V-(intOf i).toNat)
   case atStart=>exact⟨0,aN _,rfl,b2⟩
   case round =>
    clear b2;obtain⟨v,g3,rfl,F⟩:=hrel;have k0:=oB (al _ _ F) g0 es;by_cases ec:v<V
    ·have bw:=Xa (tR V v n cf y of a wr (Xa (aj.keep (al _ _ F))) H C)
     go_wp2_with fail
     refine bw.mono ?_;rintro h w4 ⟨D,rfl,cs,cx,u,c7,c6⟩;have b3:=Xa ((F.below cs).congr (fun s i _ _=>(Aw a v s i).symm));have S:=Xa c7;have b5:=Xa c6;have dc:=Xa (aJ F.size cx);clear cs cx c7 c6 F bw k0
     go_wp2_with fail
     generalize wr=wo at *
     go_loopw [8] (fun i wr=>∃b:Nat,b<=n/\i=.int .i64 b/\Hid (LvM R wr n G m (pQ a v b 0))/\Hid (wr.rowIs D 4 n (fun z=>.bool (u z)))) (fun i _=>n-(intOf i).toNat)
     case atStart=>exact⟨0,aN _,rfl,b3,S⟩
     case round =>
      clear b3 S;obtain⟨b,hb,rfl,ay,S⟩:=hrel;by_cases L:b<n
      ·have ab:b<a.length:=oN H.out
       have O:=Xa (al.out _ _ ay);obtain⟨a0,n0,a1,n1,a2,n2,a3,n3,a4,c,a5,n5,c0,c1,c2,c3,c4,c5,d2,_,x1,_,x3,x4,x5,_,g1,_,ef,g2,K⟩:=YQ.row C aj O ab;have J:=Xa K;have bx:=Xa K.d.1;have b8:Hid (m b=c+1):=Xa (by rw[bo.out,<-K.d.1]);have bc:=fM (P:=prog) 81 4 (.bool false) 1 underlying81 Tryz.infoBo rfl .i64 .i64 (c+1) oM oM;rw[show((c+1:Nat):Int)=(c:Int)+1 by omega]at bc;have ek:IntKind.i64.wrap ((c:Int)+1)=(c:Int)+1:=by rw[dF];omega
       have aa:y<wr.heap.size:=aI wr _ x4;clear K
       go_upto_region 16 with fail
       have T:Hid (InX wr (wr.alloc (.cells (madeCells #[.bool false] (c+1)) 4)) D n u wr.heap.size (c+1) (inF a b v c)):=Xa ⟨Xb (Below.refl _ _) _,S.lt,S.alloc _,aA _,UC (C:=Value.bool) (dG wr (.bool false) (c+1) 4) (fun z hz=>(AE hz).symm)⟩;generalize ei:wr.alloc (.cells (madeCells #[.bool false] (c+1)) 4)=w5 at *;clear ei
       go_cut [11] from 44 to 176 (fun cc E=>cc=.bool (nwB a b v c)/\Hid (InX wr E D n u wr.heap.size (c+1) (inF a b v c)))
       case first =>
        have b6:=Xa (sK V v n cf y of D b a u w5 (Xa (aj.keep (Xg O T.low))) H C L (Xa T.lr) b5)
        go_wp2_with fail
        refine b6.mono ?_;rintro h w6 ⟨s,rfl,c8,ct⟩;have U:=Xa (T.below ct);have a8:=Xa (Az ab c8);rw[<-bx.out]at a8;have y5:=oB U.low x5 aa;have dd:=Xa (YF a5 n5 c5 (v:Int) (rtL a b) 0 w6.heap.size w6 (Xa ((J.u.2.keepS (fun q _ t=>U.low.block q (oN O.size))).mono (aA _) (oP U.low.size O.size))) (Xa J.u.1) oM);clear ct c8 T b6;cases s with
        | true =>
         go_wp2
         go_meet;exact⟨by rw[a8.out,Bool.true_or],U⟩
        | false =>
         rw[jV]at a8
         go_wp2_with fail
         refine dd.mono ?_;rintro h N ⟨rfl,p⟩;have Y:=p.symm;subst Y;rw[<-a8.out]
         go_wp2
         go_meet;exact⟨rfl,U⟩
       case rest =>
        obtain⟨rfl,f⟩:=hcut;clear T x5 bc;have eu:=O;have g7:=O.size;generalize wr=e at *
        go_wp2
        go_loopw [11,12] (fun nw i E=>∃k:Nat,k<=c/\i=.int .i64 k/\nw=.bool (nwB a b v k)/\Hid (InX e E D n u e.heap.size (c+1) (inF a b v k))) (fun _ i _=>(intOf i).toNat)
        case atStart=>exact⟨c,aA _,rfl,rfl,f⟩
        case round =>
         clear f;obtain⟨k,hk,rfl,rfl,f⟩:=hrel;cases k with
         | succ j =>
          have hj:j<(Tu a b).length:=oN bx.out
          have bt:j<(rdL a b).length:=by rw[Be];exact hj
          have o:=Xa (xf (xs:=a) (b:=b) (v:=v) hj);have x:=Xa (wT (xs:=a) (b:=b) (v:=v) hj bt);obtain⟨bd,od,ed,ge,cd⟩:=J.d.2 j hj;obtain⟨br,or,er,gi,ar,cr,cl,cp⟩:=J.r.2 j bt;have du:Hid (((rdL a b)[j]).length<=1048576):=Xa (aJ (yB a b _ (aH bt)) vY);subst ed er;generalize (Tu a b)[j]=bp at *;generalize (rdL a b)[j]=Q at *;have z4:=oB f.low x4 aa;have z3:=oB f.low x3 aa;have zd:=(XU f.low oM).trans cd;have zr:=(XU f.low oM).trans cl;have aq:=Xa (fun W (Z:Below e.heap.size e W)=>YF ar Q.length cr (v:Int) Q 0 W.heap.size W (Xa ((cp.keep (fun q B t=>Z.block q B) Z.size).at_)) (Xa rfl) du);have ci:=f.ir.cell (i:=j+1) oM;have fi:=f.ir.frozen (j+1);have g4:IntKind.i64.wrap ((j:Int)+1-1)=(j:Int):=by rw[dF];omega
          have g5:IntKind.i64.wrap (j:Int)=(j:Int):=by rw[dF];omega
          have gt:(j:Int)<(c:Int):=oM;have gv:(j:Int)<(n3:Int):=oN J.r.1
          have gs:(j:Int)+1<(c:Int)+1:=oM;have gf:bd<wr.heap.size:=aI wr _ zd;have gp:br<wr.heap.size:=aI wr _ zr;have gg:y<wr.heap.size:=aI wr _ z4;have ac:y≠e.heap.size/\bd≠e.heap.size/\br≠e.heap.size:=oM;have cw:=ac.1;have d4:=ac.2.1;have d5:=ac.2.2;clear cd cl cp ac;have g8:=fun q=>(bH wr ⟨e.heap.size,j+1,none⟩ ⟨y,of+b*6+3,none⟩ q (kA cw)).trans z3
          have g9:=fun q=>(bH wr ⟨e.heap.size,j+1,none⟩ ⟨y,of+b*6+4,none⟩ q (kA cw)).trans z4
          have hc:=fun q=>(bH wr ⟨e.heap.size,j+1,none⟩ ⟨bd,od+j,none⟩ q (kA d4)).trans zd
          have he:=fun q=>(bH wr ⟨e.heap.size,j+1,none⟩ ⟨br,or+j,none⟩ q (kA d5)).trans zr
          generalize nwB a b v (j+1)=nw at *;have r:Hid (∀(q q':Bool),q=psB a b (j+1) v->q'=nwB a b v j->(.bool q':Value)=.bool (nwB a b v j)/\InX e (wr.setCell ⟨e.heap.size,j+1,none⟩ (.bool q)) D n u e.heap.size (c+1) (inF a b v j)):=Xa (fun q q' B t=>⟨by rw[t],(f.set (j+1) q).congr (fun z _=>xk B z)⟩);have a7:=Xa (fun q=>(f.set (j+1) q).low);by_cases hd:bp=(v:Int)
          ·subst hd
           rw[eB rfl]at o x;cases nw with
           | true =>
            go_wp2_with fail
            refine(aq _ (a7 true)).mono ?_;rintro h N ⟨rfl,p⟩;subst p;generalize hasI Q (v:Int)=M at *;cases M with
            | true =>
             go_wp2_with fail
             obtain⟨e1,e2⟩:=r true true (by rw[o.out];rfl) (by rw[x.out];rfl);exact⟨⟨j,oM,gM,e1,Xa e2⟩,by simp[intOf]⟩
            | false =>
             go_wp2_with fail
             obtain⟨e1,e2⟩:=r true false (by rw[o.out];rfl) (by rw[x.out];rfl);exact⟨⟨j,oM,gM,e1,Xa e2⟩,by simp[intOf]⟩
           | false =>
            go_wp2_with fail
            refine(aq _ (a7 true)).mono ?_;rintro h N ⟨rfl,p⟩;subst p;generalize hasI Q (v:Int)=M at *;cases M with
            | true =>
             go_wp2_with fail
             obtain⟨e1,e2⟩:=r true true (by rw[o.out];rfl) (by rw[x.out];rfl);exact⟨⟨j,oM,gM,e1,Xa e2⟩,by simp[intOf]⟩
            | false =>
             go_wp2_with fail
             obtain⟨e1,e2⟩:=r true false (by rw[o.out];rfl) (by rw[x.out];rfl);exact⟨⟨j,oM,gM,e1,Xa e2⟩,by simp[intOf]⟩
          ·rw[dJ hd]at o x
           have gq:(bp==(v:Int))=false:=by simpa using hd
           have gr:(bp != (v:Int))=true:=by simpa using hd
           cases nw with
           | true =>
            go_wp2_with fail
            refine(aq _ (a7 true)).mono ?_;rintro h N ⟨rfl,p⟩;subst p;generalize hasI Q (v:Int)=M at *;cases M with
            | true =>
             go_wp2_with fail
             obtain⟨e1,e2⟩:=r true true (by rw[o.out];rfl) (by rw[x.out];rfl);exact⟨⟨j,oM,gM,e1,Xa e2⟩,by simp[intOf]⟩
            | false =>
             go_wp2_with fail
             obtain⟨e1,e2⟩:=r true true (by rw[o.out];rfl) (by rw[x.out];rfl);exact⟨⟨j,oM,gM,e1,Xa e2⟩,by simp[intOf]⟩
           | false =>
            go_wp2_with fail
            refine(aq _ (a7 false)).mono ?_;rintro h N ⟨rfl,p⟩;subst p;generalize hasI Q (v:Int)=M at *;cases M with
            | true =>
             go_wp2_with fail
             obtain⟨e1,e2⟩:=r false true (by rw[o.out];rfl) (by rw[x.out];rfl);exact⟨⟨j,oM,gM,e1,Xa e2⟩,by simp[intOf]⟩
            | false =>
             go_wp2_with fail
             obtain⟨e1,e2⟩:=r false false (by rw[o.out];rfl) (by rw[x.out];rfl);exact⟨⟨j,oM,gM,e1,Xa e2⟩,by simp[intOf]⟩
         | zero =>
          clear x3 x4
          go_upto_region 22 with fail
          have b0:=Xa (fun W (Z:Below e.heap.size e W)=>YF a1 n1 c1 (v:Int) (phL a b) 0 W.heap.size W (Xa ((J.p.2.keepS (fun q _ t=>Z.block q oM)).mono (aA _) (oN Z.size))) (Xa J.p.1) oM);have a6:Hid (psB a b 0 v=(u b||hasI (phL a b) (v:Int))):=Xa (by
           rw[wg,jc];congr 1;rw[eQ,Am ab,b5.out b L])
          go_cut [] from 44 to 176 (fun E=>Hid (InX e E D n u e.heap.size (c+1) (fun z=>psB a b z v)))
          case first =>
           have kl:=f.lr.cell L;have ci:=f.ir.cell (i:=0) oM;have fi:=f.ir.frozen 0;have z1:=oB f.low x1 aa;have r:=Xa (fun q B=>(f.set 0 q).congr (fun z _=>y9 B z));have bl:=Xa (b0.out _ f.low);generalize hasI (phL a b) (v:Int)=ph at *;generalize u b=lb at *;cases lb with
           | false =>
            go_wp2_with fail
            refine bl.mono ?_;rintro h N ⟨rfl,p⟩;have Y:=p.symm;subst Y
            go_wp2
            go_meet;exact Xa (r.out _ (by rw[a6.out];rfl))
           | true =>
            go_wp2_with fail
            refine bl.mono ?_;rintro h N ⟨rfl,p⟩;have Y:=p.symm;subst Y;cases ph with
            | false =>
             go_wp2
             go_meet;exact Xa (r.out _ (by rw[a6.out];rfl))
            | true =>
             go_wp2_with fail
             refine bl.mono ?_;rintro h w9 ⟨rfl,ej⟩;have e9:=ej.symm;subst e9
             go_wp2
             go_meet;exact Xa (r.out _ (by rw[a6.out];rfl))
          case rest =>
           have a9:=hcut;have b7:=Xa (ay.below a9.low);have bz:=Xa a9.lr;have b1:=Xa a9.ir;have ac:=a9.ir.lt;clear hcut f b0 a6 x1;have eq:=ay.size
           go_wp2_with fail
           generalize wr=wp at *
           go_loopw [13] (fun i E=>∃k:Nat,k<=c+1/\i=.int .i64 k/\Hid (LvM R E n G m (pQ a v b k))/\Hid (E.rowIs D 4 n (fun z=>.bool (u z)))/\Hid (E.rowIs e.heap.size 4 (c+1) (fun z=>.bool (psB a b z v)))) (fun i _=>c+1-(intOf i).toNat)
           case atStart=>exact⟨0,aN _,rfl,b7,bz,b1⟩
           case round =>
            clear b7 bz b1;obtain⟨k,hk,rfl,az,ap,ax⟩:=hrel;by_cases cz:k<c+1
            ·have ck:=ax.cell cz
             have gx:(k:Int)<=(c:Int):=oM;have gz:(k:Int)<(c:Int)+1:=oM;cases hps:psB a b k v with
             | false =>
              rw[hps]at ck;have o:=Xa hps;clear hps
              go_wp2
              exact⟨⟨k+1,oM,gM,Xa (az.congr (fun s i _ _=>B6 o s i)),ap,ax⟩,by simp[intOf];omega⟩
             | true =>
              rw[hps]at ck;have o:=Xa hps;clear hps
              go_wp2_with fail
              refine BP V v n cO P b k c D e.heap.size a u G m R wr _ _ _ _ _ _ _ _ _ _ _ _ _ _ _ _ _ _ _ _ _ _ _ _ _ _ _ _ _ _ _ _ _ _ _ _ _ _ _ _ _ _ _ _ _ _ _ _ _ _ _ _ _ _ _ _ _ _ _ _ _ _ _ _ _ _ _ _ _ _ _ _ _ _ _ _ _ _ _ _ _ _ _ _ _ _ _ _ _ _ _ _ _ _ _ _ _ _ _ _ _ _ _ _ _ _ _ _ _ _ _ _ _ _ _ _ _ _ _ _ _ _ _ _ _ _ _ _ _ _ _ _ _ _ _ _ _ _ _ _ _ _ _ _ _ _ _ _ _ _ _ _ _ _ _ _ _ _ _ _ _ _ _ _ _ _ _ _ _ _ _ _ _ _ _ (Xa (fun _ _ _ _ _ A=>A)) ec hV L cz b8 az ap ax o (Xa (b9.out b L)) ca cb.2 dc (Xa eq) (Xa ?_);intro ez e0 e6 e7 fa fb fc fe fl fq fr fs fx fz f0 f7 ga gb gc gd w9 da db df;clear az ap ax ck
              go_wp2
              exact⟨⟨k+1,oM,gM,da,db,df⟩,by simp[intOf];omega⟩
            ·have eb:k=c+1:=oM
             subst eb;have dl:=Xa (az.congr (fun s i _ hi=>zo (m:=c+1) (fun h=>by subst h;rw[<-b8.out];exact hi)))
             go_wp2
             exact⟨⟨b+1,oM,gM,dl,ap⟩,by simp[intOf];omega⟩
      ·have di:Hid (LvM R wr n G m (fun s i=>UU a (v+1) s i)):=Xa (ay.congr (fun s i d _=>by rw[show b=n by omega];exact Ba a v n i d))
       go_wp2
       exact⟨⟨v+1,oM,gM,di⟩,by simp[intOf];omega⟩
    ·have eg:v=V:=oM
     subst eg;have dk:Hid (∀s,s<n->wr.cell? ⟨P,s,none⟩=some (.slice (some ⟨G s,0,none⟩) ((Tu a s).length+1) ((Tu a s).length+1))/\w.heap.size<=G s/\XR wr w.heap.size wr.heap.size (some ⟨G s,0,none⟩) ((List.range ((Tu a s).length+1)).map (UU a v s))):=Xa (fun s d=>by
      obtain⟨ey,hU⟩:=F.db;have B:=F.cell (fun s d=>ca s d) (b9 s d);have t:=hU.ints d (L:=w.heap.size) (oN (bn s d));rw[bo.out]at B t;exact⟨B,oN (bn s d),t⟩)
     have dj:=Xa (al.out _ _ F)
     go_wp2
     go_ret
     exact⟨P,cO,G,rfl,dw.trans (dj.mono oM),oN cb.1,dk⟩
end Go.Proofs.YtghnlncgiihhgaaGreatDoor
