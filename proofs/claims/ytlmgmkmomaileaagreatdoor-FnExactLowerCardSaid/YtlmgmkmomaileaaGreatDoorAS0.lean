import Derived.Test.YtlmgmkmomaileaaGreatDoorSS3
namespace Go.Proofs.YtlmgmkmomaileaaGreatDoor
open Go.RowKit
noncomputable def Za5(xs:List Xh)(V b:Nat):List (List Nat):=match xs[b]? with
 | none=>[]
 | some x=>((TT x.instrs.length 0).map fun j:Fin x.instrs.length=>ptP xs x V b ((j:Nat)+1))++[ptP xs x V b 0]
noncomputable def UW(xs:List Xh)(V k:Nat):List (List Nat):=(List.range k).flatMap (Za5 xs V)
theorem UH(xs:List Xh)(V k:Nat):UW xs V (k+1)=UW xs V k++Za5 xs V k:=by
 unfold UW;rw[List.range_succ,List.flatMap_append];simp
theorem ZcD(xs:List Xh)(V:Nat){k n:Nat}(h:k<=n):UW xs V k <+: UW xs V n:=by
 induction n with
 | zero=>rw[show k=0 by omega];exact List.prefix_refl _
 | succ n ih =>
  by_cases e:k=n+1
  ·rw[e];exact List.prefix_refl _
  ·rw[UH]
   exact(ih oM).trans (List.prefix_append _ _)
theorem ZhK{V:Nat}{xs:List Xh}(ho:Jd V xs){b:Nat}(hb:b<xs.length){W0:Nat->Nat}{p:Nat}(hV:V<=p)(hq:∀v,v<p->(Xg W0 v=true↔Lou xs v b)):(Uh xs[b].instrs.length W0 (plL xs[b])).map (fun q=>JD q.2 p)=Za5 xs V b:=by
 rw[List.map_congr_left (g:=fun q=>ptP xs xs[b] V b q.1) (fun q h=>ZkQ ho hb hV hq (i:=q.1) (W:=q.2) h),ZeL];unfold Za5;rw[List.getElem?_eq_getElem hb];simp
def sdW(p:Nat)(s:Sd):List Nat:=JD s.W p
theorem ZeO(p:Nat)(ss:List Sd):ss.map (sdW p)=(ss.map Sd.dat).map (fun q=>JD q.2 p):=by
 rw[List.map_map];rfl
def Zi4(V Kw z:Nat)(p:Sd)(U:World):Prop:=LtV V Kw p.W/\Zla Kw z p U
def ZjO(Kw z:Nat)(s:Sd):Array Value:=#[.agg #[.slice (some ⟨z,0,none⟩) Kw s.C]]
theorem Zi.far{n₀:Nat}{Ms:Nat->Prop}{u A V:World}(h:Zi n₀ Ms u A)(hn:n₀<=u.heap.size)(k:∀q,q<u.heap.size->V.heap[q]?=A.heap[q]?)(hs:A.heap.size<=V.heap.size):Zi n₀ Ms u V :=
 ⟨Nat.le_trans h.size hs,fun q h1 h2=>(k q oM).trans (h.low q h1 h2),fun q o h1 h2 h3=>(k q (Array.getElem?_eq_some_iff.1 h2).1).trans (h.cells q o h1 h2 h3)⟩
theorem J9{B:Nat}{u A V:World}(h:KeepsFrom B u A)(k:∀q,q<u.heap.size->V.heap[q]?=A.heap[q]?)(hs:A.heap.size<=V.heap.size):KeepsFrom B u V :=
 ⟨Nat.le_trans h.size hs,fun q o h1 h2 h3=>(k q (Array.getElem?_eq_some_iff.1 h2).1).trans (h.same q o h1 h2 h3)⟩
structure AsI(W u:World)(n₀:Nat)(Ms:Nat->Prop)(J:Nat->List Sd->World->Prop)(s0:List Sd)(z:Nat)(ss:List Sd)(V:World):Prop where
 j:J z (s0++ss) V
 kp:Zi n₀ Ms u V
 kf:KeepsFrom W.heap.size u V
structure AsX(W u:World)(Jx:List Sd->World->Prop)(s0 ss:List Sd)(V:World):Prop where
 j:Jx (s0++ss) V
 kf:KeepsFrom W.heap.size u V
section
variable {W u : World} {n₀ : Nat} {Ms : Nat -> Prop} {J : Nat -> List Sd -> World -> Prop} {Jx : List Sd -> World -> Prop} {s0 : List Sd}
theorem AsI.own(hJ:∀z,OwnFrom W.heap.size (J z))(hW:W.heap.size<=u.heap.size)(hn:n₀<=u.heap.size)(z:Nat):OwnFrom u.heap.size (AsI W u n₀ Ms J s0 z):=fun ss A V row h k q=>by
 have hu:=h.kp.size;have hb:∀i,i<u.heap.size->V.heap[i]?=A.heap[i]?:=fun i hi=>k.block i oM (fun e=>by have:=(q i e.symm).1;omega)
 exact⟨hJ z _ A V row h.j k (fun r e=>⟨by have:=(q r e).1;omega,(q r e).2⟩),h.kp.far hn hb k.size,J9 h.kf hb k.size⟩
theorem AsX.own(hJ:OwnFrom W.heap.size Jx)(hW:W.heap.size<=u.heap.size):OwnFrom u.heap.size (AsX W u Jx s0):=fun ss A V row h k q=>by
 have hu:=h.kf.size;have hb:∀i,i<u.heap.size->V.heap[i]?=A.heap[i]?:=fun i hi=>k.block i oM (fun e=>by have:=(q i e.symm).1;omega)
 exact⟨hJ _ A V row h.j k (fun r e=>⟨by have:=(q r e).1;omega,(q r e).2⟩),J9 h.kf hb k.size⟩
theorem AsI.turn(hJz:∀z s V V',W.heap.size<=z->J z s V->V.grownBy V' (some z)->J z s V')(hW:W.heap.size<=u.heap.size)(hn:n₀<=u.heap.size){z:Nat}(hz:u.heap.size<=z){ss:List Sd}{A V:World}(h:AsI W u n₀ Ms J s0 z ss A)(k:A.grownBy V (some z)):AsI W u n₀ Ms J s0 z ss V:=by
 have hu:=h.kp.size;have hb:∀i,i<u.heap.size->V.heap[i]?=A.heap[i]?:=fun i hi=>k.block i oM (fun e=>by injection e with e;omega)
 exact⟨hJz z _ A V oM h.j k,h.kp.far hn hb k.size,J9 h.kf hb k.size⟩
end
end Go.Proofs.YtlmgmkmomaileaaGreatDoor
namespace Go.Proofs.YtlmgmkmomaileaaGreatDoor
set_option maxHeartbeats 4000000
set_option maxRecDepth 100000
open Go.RowKit Go.Shelf
attribute [local go_sem] Oper.semAt_some
theorem ZgT(n₀ Bf L B V n c Kw:Nat)(a:Option Addr)(Ms:Nat->Prop)(xs:List Xh)(w:World)(hf0:w.cell? ⟨Bf,0,none⟩=some (.int .i64 (V:Int)))(hf1:w.cell? ⟨Bf,1,none⟩=some (.slice a n c))(ha:Hid (Xk w L B a xs))(hx:Hid (n=xs.length))(hB:B<=n₀)(hnn:n₀<=w.heap.size)(hO:Hid (XQ w))(hT:Hid (Ye w))(hg1:(0 : Nat)<n₀)(hg2:(1 : Nat)<n₀)(ho:Hid (Jd V xs))(hkw:Hid (Kw=(V+63) / 64))(hM:Hid (∀k,L<=k->k<B->¬Ms k))(hMn:Hid (∀k,w.heap.size<=k->¬Ms k))(hM1:Hid (¬Ms 0))(hM2:Hid (¬Ms 1)) :
 ZiL Fence.wide 9 Tryz.prog 71 #[.pointer (some ⟨Bf,0,none⟩)] (ZjO Kw) (Zi4 V Kw) (Zi n₀ Ms) (fun ss=>ss.map (sdW (64*Kw))=UW xs V n) (fun ss=>ss.map (sdW (64*Kw)) <+: UW xs V n) (n*4002) True True w:=by
 intro l J Jx W hW hl hJ hJx hJz hJv hY h0;have HY:=Xa hY;have HJ:=Xa hJ;have HJX:=Xa hJx;have HJZ:=Xa (hJz trivial);have HJV:=Xa (hJv trivial);have H0:=Xa h0;clear hY hJ hJz h0 hJx hJv;have hzW:=hW.size;have hn:n<=1000:=by have:=hx.out;have:=ho.okf.n2;omega
 have hV:=ho.vle;have hKW:Kw<=100:=by have:=hkw.out;omega
 have hVK:V<=64*Kw:=by have:=hkw.out;omega
 have hBfw:Bf<w.heap.size:=World.block_lt_of_cell? w _ hf0;have k0:=(hW.cell (p:=⟨Bf,0,none⟩) hBfw).trans hf0;have k1:=(hW.cell (p:=⟨Bf,1,none⟩) hBfw).trans hf1;refine callsIn_of_wp_marks Tryz.func71 rfl trivial ?_ rfl;simp only[Tryz.ntmps71,List.size_toArray,List.length_cons,List.length_nil,Nat.reduceAdd,Nat.reduceSub,Array.replicate_succ,Array.replicate_zero,List.push_toArray,List.append_toArray,List.nil_append,List.cons_append];have k0a:∀ob,(W.alloc ob).cell? ⟨Bf,0,none⟩=some (.int .i64 (V:Int)):=fun ob=>(World.cell?_alloc_lt W ob ⟨Bf,0,none⟩ (by show Bf<_;omega)).trans k0
 have k1a:∀ob,(W.alloc ob).cell? ⟨Bf,1,none⟩=some (.slice a n c):=fun ob=>(World.cell?_alloc_lt W ob ⟨Bf,1,none⟩ (by show Bf<_;omega)).trans k1
 gi_wp2
 have HBa:Hid (Below W.heap.size W (W.alloc (.cells #[.func (.yield l) #[] #[]] 136))):=Xa (Xb (Below.refl _ _) _);have hya:(W.alloc (.cells #[.func (.yield l) #[] #[]] 136)).cell? ⟨W.heap.size,0,none⟩=some (.func (.yield l) #[] #[]):=by simp[go_sem]
 have hza:(W.alloc (.cells #[.func (.yield l) #[] #[]] 136)).heap.size=W.heap.size+1:=sP;have a0:=k0a (.cells #[.func (.yield l) #[] #[]] 136);have a1:=k1a (.cells #[.func (.yield l) #[] #[]] 136);generalize W.alloc (.cells #[.func (.yield l) #[] #[]] 136)=wa at *;clear k0a k1a k0 k1;have HBwa:Hid (Below w.heap.size w wa):=Xa (hW.trans (HBa.mono hzW));have HFL:=Xa (Um V a n c xs L B wa (Xa (ha.keep (HBwa.mono oM))) hx oM ho (Xa (hO.keep HBwa.out hO.1)) (Xa (hT.keep HBwa.out hT.1)));rw[<-hkw.out]at HFL;refine⟨trivial,(callsIn_wide.2 HFL.out).mono ?_⟩;rintro e w1 ⟨Gi,Go,gi,go,ci,WI,WX,rfl,hR⟩;have HLO:=Xa (hR.lou ho.out hx.out);have HB1:=Xa hR.low;have hz1:=hR.low.size;have hGo:wa.heap.size<=Go/\Go<w1.heap.size:=⟨hR.b1.2,hR.so.row.lt⟩;have HSO:=Xa hR.so;have HGO:Hid (∀i,i<n->wa.heap.size<=go i):=Xa (fun i hi=>(hR.b2 i hi).2);have HWD:Hid (∀b,XA (WX b)):=Xa hR.wx;have b0:=(Xu hR.low oM).trans a0;have b1:=(Xu hR.low oM).trans a1;have y1:=(Xu hR.low oM).trans hya;have b1a:∀ob,(w1.alloc ob).cell? ⟨Bf,1,none⟩=some (.slice a n c):=fun ob=>(World.cell?_alloc_lt w1 ob ⟨Bf,1,none⟩ (by show Bf<_;omega)).trans b1
 clear hR HFL a0 a1 hya
 gi_wp2
 have HB2:Hid (Below w1.heap.size w1 (w1.alloc (.cells #[.slice (some ⟨Gi,0,none⟩) n n,.slice (some ⟨Go,0,none⟩) n n] 134))):=Xa (Xb (Below.refl _ _) _);have hlv:(w1.alloc (.cells #[.slice (some ⟨Gi,0,none⟩) n n,.slice (some ⟨Go,0,none⟩) n n] 134)).cell? ⟨w1.heap.size,1,none⟩=some (.slice (some ⟨Go,0,none⟩) n n):=by simp[go_sem]
 have hz2:(w1.alloc (.cells #[.slice (some ⟨Gi,0,none⟩) n n,.slice (some ⟨Go,0,none⟩) n n] 134)).heap.size=w1.heap.size+1:=sP;generalize w1.alloc (.cells #[.slice (some ⟨Gi,0,none⟩) n n,.slice (some ⟨Go,0,none⟩) n n] 134)=w2 at *;have HWw2:Hid (Below W.heap.size W w2):=Xa (Xd (Xd HBa.out HB1.out) HB2.out);have Hw2:Hid (Below w.heap.size w w2):=Xa (hW.trans (HWw2.mono hzW));have HY2:Hid (w2.cell? ⟨W.heap.size,0,none⟩=some (.func (.yield l) #[] #[])):=Xa ((Xu HB2.out oM).trans y1);have HLV:=Xa hlv;have HS2:Hid (XB w2 Go n Kw go (fun _=>Kw) WX):=Xa (HSO.keep HB2.out);have HJ2:Hid (J W.heap.size [] w2):=Xa (H0.out W.heap.size w2 (Nat.le_refl _) oM HWw2.out);clear hlv y1 b0 b1 b1a HB2 HB1 HSO HBa;refine wpIn_loop (fun aa wr=>∃(k z:Nat)(ds:List Nat)(ss:List Sd)(u4 u5 u14 u15 u16 u17 u18 u19 u20 u21 u22 u23 u24 u31:Value),k<=n/\aa=⟨#[.func (.yield l) #[] #[],.pointer (some ⟨Bf,0,none⟩),.pointer (some ⟨W.heap.size,0,none⟩),.pointer (some ⟨w1.heap.size,0,none⟩),u4,u5,undef,undef,.agg #[.int .i64 (V:Int),.slice a n c],.agg #[.slice (some ⟨Gi,0,none⟩) n n,.slice (some ⟨Go,0,none⟩) n n],.pointer (some ⟨Bf,1,none⟩),.slice a n c,.int .i64 (n:Int),.int .i64 (k:Int),u14,u15,u16,u17,u18,u19,u20,u21,u22,u23,u24,undef,undef,undef,undef,undef,undef,u31],mks ds⟩/\Hid (Zi n₀ Ms w2 wr)/\Hid (KeepsFrom W.heap.size w2 wr)/\Hid (T2 wr w2.heap.size ds)/\W.heap.size<=z/\Hid (J z ss wr)/\Hid (ss.map (sdW (64*Kw))=UW xs V k)/\Hid (ss.length<=k*4002)) (fun aa _=>n-(intOf (aa.tmps.getD 13 undef)).toNat) ?_ ?_
 ·exact⟨0,W.heap.size,[],[],_,_,_,_,_,_,_,_,_,_,_,_,_,_,Nat.zero_le _,rfl,Xa (Zi.refl _),Xa (KeepsFrom.refl _ _),Xa ⟨List.nodup_nil,fun _ h=>absurd h List.not_mem_nil,fun _ h=>absurd h List.not_mem_nil⟩,Nat.le_refl _,HJ2,Xa rfl,Xa (Nat.zero_le _)⟩
 ·rintro aa wr ⟨k,z,ds,ss,u4,u5,u14,u15,u16,u17,u18,u19,u20,u21,u22,u23,u24,u31,hk,rfl,HKP,HKF,HM,hz,HJs,HSS,HLEN⟩
  clear HJ2;have hzr:w2.heap.size<=wr.heap.size:=HKP.size;by_cases hlt:k<n
  ·have hkx:k<xs.length:=by have:=hx.out;omega
   obtain⟨b,o,ea,hbB,hc⟩:=ha.out k hkx;subst ea;obtain⟨pa,pc,ia,ic,e0,e1,⟨e2,e3,e4,e5⟩,hph,hin⟩:=hc;have hbw:b<w.heap.size:=oM;have hcw:∀(q:Nat)(v:Value),w.cell? ⟨b,q,none⟩=some v->wr.cell? ⟨b,q,none⟩=some v:=fun q v h=>HKP.cell ((Hw2.cell (p:=⟨b,q,none⟩) hbw).trans h) (hM.out b hbB.1 hbB.2)
   have f0:=hcw _ _ e0;have f1:=hcw _ _ e1;have f2:=hcw _ _ e2;have f3:=hcw _ _ e3;have f4:=hcw _ _ e4;have f5:=hcw _ _ e5;have HPH:=Xa hph;have HIN:=Xa hin;have HLN:=Xa (ho.lens xs[k] (List.getElem_mem hkx));have HPD:=Xa (ZeY ho.out (List.getElem_mem hkx));have HOP:=Xa (ho.ops xs[k] (List.getElem_mem hkx));have HTK:=Xa (ho.kind xs[k] (List.getElem_mem hkx));have HSD:=Xa (ZhK ho.out hkx hVK (HLO.out k hlt));obtain⟨X,hX⟩:∃X,X=xs[k]:=⟨_,rfl⟩;rw[<-hX]at f0 f1 f2 f3 f4 f5 HPH HIN HLN HPD HOP HTK HSD;clear hX hph hin e0 e1 e2 e3 e4 e5 hcw
   gi_wp2
   have hbq:Below wr.heap.size wr (wr.alloc (.cells #[.slice pa X.phis.length pc,.slice ia X.instrs.length ic,.int .i64 X.term.kind,.int .i64 X.term.a,.int .i64 X.term.to,.int .i64 X.term.els] 50)):=Xb (Below.refl _ _) _;have hzq:wr.heap.size+1<=(wr.alloc (.cells #[.slice pa X.phis.length pc,.slice ia X.instrs.length ic,.int .i64 X.term.kind,.int .i64 X.term.a,.int .i64 X.term.to,.int .i64 X.term.els] 50)).heap.size:=sP;have hqx:∀q v,#[Value.slice pa X.phis.length pc,.slice ia X.instrs.length ic,.int .i64 X.term.kind,.int .i64 X.term.a,.int .i64 X.term.to,.int .i64 X.term.els][q]?=some v->(wr.alloc (.cells #[.slice pa X.phis.length pc,.slice ia X.instrs.length ic,.int .i64 X.term.kind,.int .i64 X.term.a,.int .i64 X.term.to,.int .i64 X.term.els] 50)).cell? ⟨wr.heap.size,q,none⟩=some v:=fun q v h=>by
    rw[World.cell?_alloc_new];exact h
   generalize wr.alloc (.cells #[.slice pa X.phis.length pc,.slice ia X.instrs.length ic,.int .i64 X.term.kind,.int .i64 X.term.a,.int .i64 X.term.to,.int .i64 X.term.els] 50)=wq at *;have x0:=hqx 0 _ rfl;have x1:=hqx 1 _ rfl;have x2:=hqx 2 _ rfl;have x3:=hqx 3 _ rfl;have x4:=hqx 4 _ rfl;have x5:=hqx 5 _ rfl;have s1:wq.cell? ⟨w1.heap.size,1,none⟩=some (.slice (some ⟨Go,0,none⟩) n n):=(hbq.cell (p:=⟨w1.heap.size,1,none⟩) (by show w1.heap.size<_;omega)).trans (HKP.cell HLV.out (hMn.out _ (by show w.heap.size<=w1.heap.size;omega)));have s2:wq.cell? ⟨Go,k,none⟩=some (.slice (some ⟨go k,0,none⟩) Kw Kw):=(hbq.cell (p:=⟨Go,k,none⟩) (by show Go<_;omega)).trans (HKP.cell (HS2.row.cell hlt) (hMn.out _ (by show w.heap.size<=Go;omega)));have HBQ:=Xa hbq;clear hbq hqx f0 f1 f2 f3 f4 f5;refine TI (fun w'=>w'.cell? ⟨wr.heap.size,0,none⟩=some (.slice pa X.phis.length pc)/\w'.cell? ⟨wr.heap.size,1,none⟩=some (.slice ia X.instrs.length ic)/\w'.cell? ⟨wr.heap.size,2,none⟩=some (.int .i64 X.term.kind)/\w'.cell? ⟨wr.heap.size,3,none⟩=some (.int .i64 X.term.a)/\w'.cell? ⟨wr.heap.size,4,none⟩=some (.int .i64 X.term.to)/\w'.cell? ⟨wr.heap.size,5,none⟩=some (.int .i64 X.term.els)/\w'.cell? ⟨w1.heap.size,1,none⟩=some (.slice (some ⟨Go,0,none⟩) n n)/\w'.cell? ⟨Go,k,none⟩=some (.slice (some ⟨go k,0,none⟩) Kw Kw)) (fun hHeld=>?_);refine Yh 0 ?_;refine Yh 1 ?_;refine Yh 2 ?_;refine Yh 3 ?_;refine Yh 4 ?_;refine Yh 5 ?_;refine Yx 6 (fun K hK=>?_);go_simp;refine⟨trivial,(Zjb 8 _ _ _ _ _ _ (go k) Kw Kw wq.drew).mono ?_⟩;rintro e w4 ⟨rfl,hw4⟩;have hb4:Below wq.heap.size wq w4:=by rw[hw4];exact Xb (Xb (Below.refl wq.heap.size wq).drew _) _
   have hz4:wq.heap.size+2<=w4.heap.size:=by rw[hw4,World.size_alloc,World.size_alloc];exact Nat.le_refl _
   have hc4:∀q v,#[Value.slice pa X.phis.length pc,.slice ia X.instrs.length ic,.int .i64 X.term.kind,.int .i64 X.term.a,.int .i64 X.term.to,.int .i64 X.term.els][q]?=some v->w4.cell? ⟨wq.heap.size,q,none⟩=some v:=fun q v h=>by
    rw[hw4,World.cell?_alloc_lt _ _ ⟨wq.heap.size,q,none⟩ (by rw[World.size_alloc];show wq.heap.size<wq.heap.size+1;omega)];exact(World.cell?_alloc_new wq.drew _ _ q).trans h
   have hso:w4.cell? ⟨wq.heap.size+1,0,none⟩=some (.slice (some ⟨go k,0,none⟩) Kw Kw):=by
    rw[hw4];have:=World.cell?_alloc_new (wq.drew.alloc (.cells #[.slice pa X.phis.length pc,.slice ia X.instrs.length ic,.int .i64 X.term.kind,.int .i64 X.term.a,.int .i64 X.term.to,.int .i64 X.term.els] 50)) #[.slice (some ⟨go k,0,none⟩) Kw Kw] 93 0;rw[World.size_alloc]at this;exact this
   have hcl:=fun (bb q:Nat)(hb:bb<wq.heap.size)=>hb4.cell (p:=⟨bb,q,none⟩) hb
   have z0:=(hcl wr.heap.size 0 oM).trans x0;have z1:=(hcl wr.heap.size 1 oM).trans x1;have z2:=(hcl wr.heap.size 2 oM).trans x2;have z3:=(hcl wr.heap.size 3 oM).trans x3;have z4:=(hcl wr.heap.size 4 oM).trans x4;have z5:=(hcl wr.heap.size 5 oM).trans x5;have t1:=(hcl w1.heap.size 1 oM).trans s1;have t2:=(hcl Go k oM).trans s2;have HBr:Hid (Below wr.heap.size wr w4):=Xa (Xd HBQ.out hb4);have HK4:Hid (Zi n₀ Ms w2 w4):=Xa (HKP.trans (Zi.of_below HBr.out oM));have HF4:Hid (KeepsFrom W.heap.size w2 w4):=Xa (HKF.trans ⟨HBr.size,fun q ob _ h2 _=>(HBr.block q (Array.getElem?_eq_some_iff.1 h2).1).trans h2⟩);have hlow:∀q,q<n₀->¬Ms q->w4.heap[q]?=w.heap[q]?:=fun q h1 h2=>(HK4.low q h1 h2).trans (Hw2.block q oM)
   have HST:Hid (Uk X L B wq.heap.size n₀ w4.heap.size w4):=Xa ⟨hO.of_block (hlow _ hg1 hM1.out) oM,hT.of_block (hlow _ hg2 hM2.out) oM,⟨pa,pc,ia,ic,hc4 0 _ rfl,hc4 1 _ rfl,⟨hc4 2 _ rfl,hc4 3 _ rfl,hc4 4 _ rfl,hc4 5 _ rfl⟩,HPH.keepS (fun q h1 h2=>hlow q oM (hM.out q h1 h2)),HIN.keepS (fun q h1 h2=>hlow q oM (hM.out q h1 h2))⟩,oM,oM,hg1,hg2,oM⟩;have hgk:wa.heap.size<=go k:=HGO.out k hlt;have HW4:Hid (WsAt w4 (go k) Kw Kw (WX k)):=Xa ((HS2.set k hlt).of_block (by
    obtain⟨ob,h1,h2⟩:=(HS2.set k hlt).obj;rw[h1];exact HK4.cells _ ob (hMn.out _ oM) h1 h2))
   have HSOc:=Xa hso;have HJ4:Hid (∀z' V',w4.heap.size<=z'->Below w4.heap.size w4 V'->J z' ss V'):=Xa (fun z' V' h1 h2=>HJV.1 z z' ss wr V' oM HJs.out ((HBr.mono oM).trans (h2.mono oM)));refine hK _ _ ⟨z0,z1,z2,z3,z4,z5,t1,t2⟩ (fun hHeld=>?_);clear hK;refine Jt ?_;have HMK:Hid (∀(D:Nat)(U:World),w4.heap.size<=D->KeepsFrom W.heap.size w4 U->U.heap[D]?=some (.deferred (some []))->T2 U w2.heap.size (D::ds)):=Xa (fun D U h1 h2 h3=>by
    have hl:∀q∈ds,q<wr.heap.size:=fun q hq=>(Array.getElem?_eq_some_iff.1 (HM.obj q hq)).1
    refine⟨List.nodup_cons.2 ⟨fun hq=>by have:=hl D hq;omega,HM.nd⟩,fun q hq=>?_,fun q hq=>?_⟩
    ·rcases List.mem_cons.1 hq with rfl | hq
     ·omega
     ·exact HM.ge q hq
    ·rcases List.mem_cons.1 hq with rfl | hq
     ·exact h3
     ·have h5:=HM.ge q hq
      exact h2.same q _ oM ((HBr.block q (hl q hq)).trans (HM.obj q hq)) rfl)
   clear hHeld z0 z1 z2 z3 z4 z5 t1 t2 x0 x1 x2 x3 x4 x5 s1 s2 hso hcl hb4 hc4 hw4 hlow
   gi_wp2
   refine Zeu (F:=Fence.wide) (n:=9) rfl dC (gf:=115) (lb:=#[.pointer (some ⟨wq.heap.size+1,0,none⟩),.pointer (some ⟨wq.heap.size,0,none⟩)]) rfl trivial (enters_of Tryz.func115 vZ rfl) (Zfy n₀ (wq.heap.size+1) wq.heap.size L B (go k) Kw Kw V Ms X (WX k) w4 HST HSOc.out HW4 (Xa (HWD.out k)) hKW hVK hM (Xa (hMn.out _ oM)) (Xa (fun q hq=>hMn.out q oM)) hM1 hM2 HOP HTK.out HLN.1 HLN.2 HPD (Xa (fun x h1 h2=>((HLO.out k hlt x h1).1 h2).val ho.out hkx))) (fun z=>Zc5 _ _ _ _ z) (fun h k=>h.trans k) (fun W l o o' h1 h2 h3=>Zi.putObj W l o o' oM h2 h3) (Below.refl _ _) (fun _ _=>rfl)
    (fun z'=>AsI W w4 n₀ Ms J ss z') (fun cc pre U=>cc=.ret/\AsX W w4 Jx ss pre U) (fun z'=>AsI.own HJ.out oM oM z') ?ownX (fun _ z' s A A' hz' h g=>h.turn HJZ.out oM oM hz' g) (fun h=>h.elim) ?start
    (fun z' p a' U=>∃bp:Nat,a'=⟨#[.func (.yield l) #[] #[],.pointer (some ⟨Bf,0,none⟩),.pointer (some ⟨W.heap.size,0,none⟩),.pointer (some ⟨w1.heap.size,0,none⟩),.int .i64 (k:Int),.pointer (some ⟨wr.heap.size,0,none⟩),undef,.pointer (some ⟨bp,0,none⟩),.agg #[.int .i64 (V:Int),.slice (some ⟨b,o,none⟩) n c],.agg #[.slice (some ⟨Gi,0,none⟩) n n,.slice (some ⟨Go,0,none⟩) n n],.pointer (some ⟨Bf,1,none⟩),.slice (some ⟨b,o,none⟩) n c,.int .i64 (n:Int),.int .i64 (k:Int),.bool true,.int .i64 (k:Int),.pointer (some ⟨b,o+k*6,none⟩),.agg #[.slice pa X.phis.length pc,.slice ia X.instrs.length ic,.int .i64 X.term.kind,.int .i64 X.term.a,.int .i64 X.term.to,.int .i64 X.term.els],.agg #[.slice pa X.phis.length pc,.slice ia X.instrs.length ic,.int .i64 X.term.kind,.int .i64 X.term.a,.int .i64 X.term.to,.int .i64 X.term.els],.pointer (some ⟨w1.heap.size,1,none⟩),.slice (some ⟨Go,0,none⟩) n n,.int .i64 (k:Int),.pointer (some ⟨Go,k,none⟩),.agg #[.slice (some ⟨go k,0,none⟩) Kw Kw],.func (.func 115) #[] #[.pointer (some ⟨wq.drew.heap.size+1,0,none⟩),.pointer (some ⟨wq.drew.heap.size,0,none⟩)],.int .i64 (p.i:Int),.agg #[.slice (some ⟨z',0,none⟩) Kw p.C],undef,undef,undef,undef,u31],[]⟩/\w4.heap.size<=bp/\U.cell? ⟨bp,0,none⟩=some (.slice (some ⟨z',0,none⟩) Kw p.C)) ?ownA ?assign ?body ?done ?stop
   case ownX =>
    rintro cc pre A U row ⟨rfl,h⟩ g q;exact⟨rfl,AsX.own HJX.out oM pre A U row h g q⟩
   case start =>
    intro z' U h1 h2 h3;exact⟨by rw[List.append_nil];exact HJ4.out z' U h1 h3,Zi.of_below h3 oM,⟨h3.size,fun q ob _ q2 _=>(h3.block q (Array.getElem?_eq_some_iff.1 q2).1).trans q2⟩⟩
   case ownA =>
    rintro z' p a' _ A U row ⟨bp,e,h1,h2⟩ g q;refine⟨bp,e,h1,(Xc (g.block bp (World.block_lt_of_cell? A _ h2) (fun e2=>?_))).trans h2⟩;obtain⟨ob,h3,h4⟩:=Yz h2;obtain⟨_,o2,h5,h6⟩:=q bp e2.symm;rw[show A.heap[bp]?=some ob from h3]at h5;injection h5 with h5;subst h5;rw[h4]at h6;cases h6
   case assign =>
    intro l' z' pre p U KK hz' hI hP hKK;have HII:=Xa hI;have HPP:=Xa hP;have HKK:=Xa hKK;clear hI hP hKK;unfold Zj9
    gi_wp2
    have hbA:Below U.heap.size U (U.alloc (.cells #[.slice (some ⟨z',0,none⟩) Kw p.C] 93)):=Xb (Below.refl _ _) _;exact HKK.out _ _ ⟨hbA.size,fun k o h1 _=>(hbA.block k (Array.getElem?_eq_some_iff.1 h1).1).trans h1⟩ (Zi.of_below hbA (by have:=HII.kp.size;omega)) (XE (AsI.own HJ.out oM oM z') HII.out hbA) (Zef HPP.out hbA) ⟨U.heap.size,rfl,HII.kp.size,by simp[go_sem]⟩
   case body =>
    rintro l' z' pre p a' U hz' hl' _ hI hP ⟨bp,rfl,hbp,hcp⟩ hlen;have HII:=Xa hI;have HPP:=Xa hP;have HL:Hid ((ss++pre).length<n*4002):=Xa (by
     have h1:=HLEN.out;have h2:=HLN.1;rw[List.length_append];have h3:(k+1)*4002<=n*4002:=Nat.mul_le_mul_right _ hlt;omega)
    have yb:U.cell? ⟨W.heap.size,0,none⟩=some (.func (.yield l) #[] #[]):=hI.kp.cell (HK4.cell HY2.out (hMn.out _ (by show w.heap.size<=W.heap.size;omega))) (hMn.out _ (by show w.heap.size<=W.heap.size;omega));clear hI hP;obtain⟨fn,tmps,asg,bo,hy,hR⟩:=Ks (l':=l') (m':=6) (HY.out z' (ss++pre) p U oM HII.j ⟨HPP.1.2,HPP.2⟩ HL.out);have hy':(Instr.yield l #[.agg #[.slice (some ⟨z',0,none⟩) Kw p.C]]).run Tryz.prog U=_:=hy;clear hy
    gi_wp2
    refine hR.mono ?_;rintro e U2 (⟨rfl,hJ2,hk2,hf2⟩ | ⟨rfl,hJ2,hk2,hf2⟩)
    ·have HJ2:=Xa hJ2
     have HK2:=Xa hk2;have HF2:=Xa hf2;clear hJ2 hk2 hf2 hR hy'
     gi_wp2
     exact⟨Jl HF2.out oM,HK2.out,by rw[<-List.append_assoc];exact HJ2.out,HII.kp.trans HK2.out,HII.kf.trans HF2.out⟩
    ·have HJ2:=Xa hJ2
     have HK2:=Xa hk2;have HF2:=Xa hf2;clear hJ2 hk2 hf2 hR hy'
     gi_wp2
     exact⟨Jl HF2.out oM,HK2.out,rfl,by rw[<-List.append_assoc];exact HJ2.out,HII.kf.trans HF2.out⟩
   case done =>
    rintro D z' s' U hD hz' hS' hI hKD;have HII:=Xa hI;have HKD:=Xa hKD;have HS':=Xa hS';clear hI hKD hS'
    gi_wp2
    refine⟨⟨k+1,z',D::ds,ss++s',_,_,_,_,_,_,_,_,_,_,_,_,_,_,oM,rfl,Xa (HK4.trans HII.kp),Xa (HF4.trans HII.kf),Xa ?mk,oM,Xa HII.j,Xa ?ls,Xa ?ln⟩,?ms⟩
    case mk=>exact HMK.out D U hD HII.kf HKD.out
    case ls =>
     rw[List.map_append,HSS.out,UH,<-HSD.out,<-HS'.out,<-ZeO]
    case ln =>
     have h1:=congrArg List.length HS'.out;rw[List.length_map]at h1;have h2:=Zbq X.instrs.length (plL X) (WX k);have h3:(plL X).length=X.instrs.length+2:=by simp[plL,UB]
     have h4:=HLEN.out;have h5:=HLN.1;rw[List.length_append];omega
    case ms=>simp[intOf];omega
   case stop =>
    rintro D cc pre U hD hSp ⟨rfl,hI⟩ hKD;have HII:=Xa hI;have HKD:=Xa hKD;have HSp:=Xa hSp;clear hI hKD hSp
    gi_wp2
    have hmk:=HMK.out D U hD HII.kf HKD.out;refine Jy (D::ds) U hmk (fun W' q1 q2 q3 q4 q5=>⟨.tuple #[],results_none rfl _ _ _,⟨_,rfl⟩,.inr ⟨ss++pre,?_,HJV.2 _ U W' HII.j ⟨q1,q2,q3,q4,fun q hq=>q5 q (fun hm=>by have:=hmk.ge q hm;omega)⟩⟩⟩);rw[List.map_append,HSS.out,ZeO];refine List.IsPrefix.trans ?_ (ZcD xs V (show k+1<=n from hlt));rw[UH,<-HSD.out];exact(List.prefix_append_right_inj _).2 (HSp.map _)
  ·have hkn:k=n:=oM
   subst hkn
   gi_wp2
   refine Jy ds wr HM.out (fun W' q1 q2 q3 q4 q5=>⟨.tuple #[],results_none rfl _ _ _,⟨_,rfl⟩,.inl ⟨z,ss,hz,HSS.out,HJV.1 z z ss wr W' hz HJs.out ⟨q1,q2,q3,q4,fun q hq=>q5 q (fun hm=>by have:=HM.ge q hm;omega)⟩⟩⟩)
end Go.Proofs.YtlmgmkmomaileaaGreatDoor
