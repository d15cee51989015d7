import Derived.Test.YtbofmlmdgkblkaaDoorFV1
import Derived.Test.YtbofmlmdgkblkaaDoorAL1
import Derived.Test.YtbofmlmdgkblkaaDoorOB0
namespace Go.Proofs.YtbofmlmdgkblkaaDoor
set_option maxHeartbeats 4000000
set_option maxRecDepth 100000
open Go.RowKit
theorem Tryd.infoSetL:(Tryd.prog.info? 47).map (fun i=>(i.zero,i.size,i.bytes))=some (some (.agg #[.slice none 0 0]),1,24):=by kernel_rfl
def LiE(w0 wr:World)(Fo:Nat)(b:Bool->Nat)(P:Bool->Nat->List Int):Prop:=∃U X,LiG w0 wr Fo b U P X
theorem Zez(W:Nat->Nat)(p:Nat):(Jn W p).length<=p:=by
 unfold Jn;exact Nat.le_trans (List.length_filter_le _ _) (by simp)
def LiA(w w':World)(n:Nat)(P:Bool->Nat->List Int)(e:Ending):Prop:=∃(w0:World)(Fo:Nat)(U:Bool->Nat->Value)(X:Bool->Value)(wr:World),e=.returned (.agg #[X false,X true])/\w.heap.size<=w0.heap.size/\LiG w0 wr Fo (fun _=>n) U P X/\Below w.heap.size w w'/\w'.heap.size=wr.heap.size/\∀q,w0.heap.size<=q->w'.heap[q]?=wr.heap[q]?
theorem Zd8(V:Nat)(a:Option Addr)(n c:Nat)(xs:List Xg)(L B:Nat)(w:World)(ha:Hid (Xy w L B a xs))(hx:Hid (n=xs.length))(hs:Hid (xs.length+X7 xs<=1048576))(hB:B<=w.heap.size)(hO:Hid (YG w))(hT:Hid (Ym w))(hTz:Hid (Jz w))(hv:Hid (Y7 ⟨(V:Int),xs⟩=true))(ho:Hid (UF V xs)) :
 Calls Tryd.prog 5 #[.agg #[.int .i64 (V:Int),.slice a n c]] w fun e w'=>LiA w w' n (fun s b=>TG xs V s b) e:=by
 have HVF:=Xa (fun W (hb:Below w.heap.size w W)=>Z2 (V:Int) a n c xs L B W (Xa (ha.keep (hb.mono hB))) hx hs (by have:=hb.size;omega) (Xa (hO.keep hb hO.1).old) (Xa (hT.keep hb hT.1).old));rw[hv.out]at HVF;have hn:n<=1000:=by have:=hx.out;have:=ho.okf.n2;omega
 have hV:=ho.vle;have hW0:Below w.heap.size w ((w.alloc (.cells #[.int .i64 (V:Int),.slice a n c] 25)).alloc (.cells #[.slice none 0 0,.slice none 0 0] 29)):=Xb (Xb (Below.refl _ _) _) _;have hz0:((w.alloc (.cells #[.int .i64 (V:Int),.slice a n c] 25)).alloc (.cells #[.slice none 0 0,.slice none 0 0] 29)).heap.size=w.heap.size+2:=by simp
 have hf0:((w.alloc (.cells #[.int .i64 (V:Int),.slice a n c] 25)).alloc (.cells #[.slice none 0 0,.slice none 0 0] 29)).cell? ⟨w.heap.size,0,none⟩=some (.int .i64 (V:Int)):=by simp[go_sem]
 have hf1:((w.alloc (.cells #[.int .i64 (V:Int),.slice a n c] 25)).alloc (.cells #[.slice none 0 0,.slice none 0 0] 29)).cell? ⟨w.heap.size,1,none⟩=some (.slice a n c):=by simp[go_sem]
 have hr1:((w.alloc (.cells #[.int .i64 (V:Int),.slice a n c] 25)).alloc (.cells #[.slice none 0 0,.slice none 0 0] 29)).rowIs (w.heap.size+1) 29 2 (fun _=>.slice none 0 0):=by
  have h:=World.rowIs_alloc (w.alloc (.cells #[.int .i64 (V:Int),.slice a n c] 25)) #[.slice none 0 0,.slice none 0 0] 29 (fun _=>.slice none 0 0) (fun i hi=>by match i,hi with | 0,_=>rfl | 1,_=>rfl)
  rw[World.size_alloc]at h;exact h
 go_enter Tryd.func5,Tryd.ntmps5
 go_wp2_with fail
 generalize (w.alloc (.cells #[.int .i64 (V:Int),.slice a n c] 25)).alloc (.cells #[.slice none 0 0,.slice none 0 0] 29)=w0 at *;refine(HVF.out _ hW0).mono ?_;rintro e w1 ⟨rfl,hb1⟩;have HB1:=Xa (Xj hW0 hb1);have g0:=(Yn hb1 (by omega)).trans hf0;have g1:=(Yn hb1 (by omega)).trans hf1;have HR1:=Xa (hr1.of_block (hb1.block _ hr1.lt));have hz1:w.heap.size+2<=w1.heap.size:=by have:=hb1.size;omega
 clear hb1 hW0 hf0 hf1 hr1 hz0 HVF;have HFL:=Xa (TJ V a n c xs L B w1 (Xa (ha.keep (HB1.mono hB))) hx (by have:=HB1.size;omega) ho (Xa (hO.keep HB1.out hO.1)) (Xa (hT.keep HB1.out hT.1)))
 go_wp2_with fail
 refine HFL.mono ?_;rintro e w2 ⟨Gi,Go,gi,go,ci,WI,WX,rfl,hR⟩;have HR2:=Xa hR;have k0:=(Yn hR.low (by omega)).trans g0;have k1:=(Yn hR.low (by omega)).trans g1;have HR3:=Xa (HR1.of_block (hR.low.block _ HR1.lt));have hz2:w1.heap.size<=w2.heap.size:=hR.low.size;have k1':∀X Y,((w2.alloc X).alloc Y).cell? ⟨w.heap.size,1,none⟩=some (.slice a n c):=fun X Y=>(World.cell?_alloc_lt _ Y ⟨w.heap.size,1,none⟩ (by simp;omega)).trans ((World.cell?_alloc_lt _ X ⟨w.heap.size,1,none⟩ (by show w.heap.size<_;omega)).trans k1)
 clear hR HFL g0 g1
 go_wp2_with fail
 obtain⟨i0,hi0,hz0,hz1',hz2'⟩:=Xp Tryd.infoSetL;have hb3:Below w2.heap.size w2 ((w2.alloc (.cells #[.slice (some ⟨Gi,0,none⟩) n n,.slice (some ⟨Go,0,none⟩) n n] 58)).alloc (.cells #[.slice none 0 0,.slice none 0 0] 29)):=Xb (Xb (Below.refl _ _) _) _;have hz3:((w2.alloc (.cells #[.slice (some ⟨Gi,0,none⟩) n n,.slice (some ⟨Go,0,none⟩) n n] 58)).alloc (.cells #[.slice none 0 0,.slice none 0 0] 29)).heap.size=w2.heap.size+2:=by simp
 have hB0:((w2.alloc (.cells #[.slice (some ⟨Gi,0,none⟩) n n,.slice (some ⟨Go,0,none⟩) n n] 58)).alloc (.cells #[.slice none 0 0,.slice none 0 0] 29)).cell? ⟨w2.heap.size,0,none⟩=some (.slice (some ⟨Gi,0,none⟩) n n):=by simp[go_sem]
 have hB1:((w2.alloc (.cells #[.slice (some ⟨Gi,0,none⟩) n n,.slice (some ⟨Go,0,none⟩) n n] 58)).alloc (.cells #[.slice none 0 0,.slice none 0 0] 29)).cell? ⟨w2.heap.size,1,none⟩=some (.slice (some ⟨Go,0,none⟩) n n):=by simp[go_sem]
 have hBx:((w2.alloc (.cells #[.slice (some ⟨Gi,0,none⟩) n n,.slice (some ⟨Go,0,none⟩) n n] 58)).alloc (.cells #[.slice none 0 0,.slice none 0 0] 29)).rowIs (w2.heap.size+1) 29 2 (fun _=>.slice none 0 0):=by
  have h:=World.rowIs_alloc (w2.alloc (.cells #[.slice (some ⟨Gi,0,none⟩) n n,.slice (some ⟨Go,0,none⟩) n n] 58)) #[.slice none 0 0,.slice none 0 0] 29 (fun _=>.slice none 0 0) (fun i hi=>by match i,hi with | 0,_=>rfl | 1,_=>rfl)
  rw[World.size_alloc]at h;exact h
 generalize (w2.alloc (.cells #[.slice (some ⟨Gi,0,none⟩) n n,.slice (some ⟨Go,0,none⟩) n n] 58)).alloc (.cells #[.slice none 0 0,.slice none 0 0] 29)=w3 at *;obtain⟨Kw,hkw⟩:∃q,q=(V+63) / 64:=⟨_,rfl⟩;rw[<-hkw]at HR2;have HKW:Hid (Kw<=100):=Xa (by omega);have HVK:Hid (V<=64*Kw):=Xa (by omega);clear hkw;obtain⟨P,hP⟩:∃P:Bool->Nat->List Int,P=fun s b=>TG xs V s b:=⟨_,rfl⟩
 obtain⟨I,T,W0,ord,q1,q2,q3,q4,q5,q6⟩:=HR2.inn;have hLI:∀b,b<n->∀x,x<64*Kw->(Xf (WI b) x=true↔Lin xs x b):=fun b hb x hx'=>(q5 b hb x hx').trans (ZeY ho.out q1 q2 q3 (ord:=(·∈ord)) q4 (by have:=hx.out;omega))
 have hLO:∀b,b<n->∀x,x<64*Kw->(Xf (WX b) x=true↔Lou xs x b):=fun b hb x hx'=>by
  have hbx:b<xs.length:=by have:=hx.out;omega
  rw[q6 b hb x,q3 b hbx,<-KS ho.out hbx];constructor
  ·rintro(h | ⟨t,ht,h⟩)
   ·exact Or.inl h
   ·exact Or.inr ⟨t,ht,(hLI t (by have:=ho.okf.tg _ hbx _ ht;have:=hx.out;omega) x hx').1 h⟩
  ·rintro(h | ⟨t,ht,h⟩)
   ·exact Or.inl h
   ·exact Or.inr ⟨t,ht,(hLI t (by have:=ho.okf.tg _ hbx _ ht;have:=hx.out;omega) x hx').2 h⟩
 have HP0:Hid (∀b,b<n->Xk (Jn (WI b) (64*Kw))=P false b):=Xa (fun b hb=>by rw[hP];exact congrArg Xk (ZgV HVK.out (hLI b hb) (fun x h=>h.2.val ho.out)));have HP1:Hid (∀b,b<n->Xk (Jn (WX b) (64*Kw))=P true b):=Xa (fun b hb=>by rw[hP];exact congrArg Xk (ZgV HVK.out (hLO b hb) (fun x h=>h.val ho.out (by have:=hx.out;omega))));have HB0:=Xa hB0;have HBl1:=Xa hB1;have HS0:Hid (∀b,b<n->w3.cell? ⟨Gi,b,none⟩=some (.slice (some ⟨gi b,0,none⟩) Kw (ci b))):=Xa (fun b hb=>(hb3.cell (p:=⟨Gi,b,none⟩) HR2.si.row.lt).trans (HR2.si.row.cell hb));have HS1:Hid (∀b,b<n->w3.cell? ⟨Go,b,none⟩=some (.slice (some ⟨go b,0,none⟩) Kw Kw)):=Xa (fun b hb=>(hb3.cell (p:=⟨Go,b,none⟩) HR2.so.row.lt).trans (HR2.so.row.cell hb));have HQ0:Hid (∀b,b<n->gi b<w2.heap.size):=Xa (fun b hb=>(HR2.si.set b hb).lt);have HQ1:Hid (∀b,b<n->go b<w2.heap.size):=Xa (fun b hb=>(HR2.so.set b hb).lt);have HA0:Hid (∀b,b<n->WsAt w3 (gi b) Kw (ci b) (WI b)):=Xa (fun b hb=>(HR2.si.set b hb).of_block (hb3.block _ (HQ0.out b hb)));have HA1:Hid (∀b,b<n->WsAt w3 (go b) Kw Kw (WX b)):=Xa (fun b hb=>(HR2.so.set b hb).of_block (hb3.block _ (HQ1.out b hb)));have HW0:Hid (XV WI):=Xa HR2.wi;have HW1:Hid (XV WX):=Xa HR2.wx;have HGl:Hid (Gi<w2.heap.size/\Go<w2.heap.size/\w3.heap.size=w2.heap.size+2):=Xa ⟨HR2.si.row.lt,HR2.so.row.lt,hz3⟩;have hgt:(2 : Nat)<w.heap.size:=World.block_lt_of_cell? w _ (hTz.out 0 (by decide));have HL2:Hid (Below w.heap.size w w3):=Xa (HB1.trans ((HR2.low.trans (hb3.mono hz2)).mono (by omega)));have HTZ:Hid (Jz w3):=Xa (hTz.of_block (HL2.block _ hgt));have HGT:Hid ((2 : Nat)<w2.heap.size):=Xa (by omega);have HLE:Hid (LiE w3 w3 (w2.heap.size+1) (fun _=>0) P):=Xa ⟨fun _ _=>.slice none 0 0,fun _=>.slice none 0 0,rfl,rfl,rfl,Nat.le_refl _,by omega,fun _ _ _=>rfl,hBx,fun _=>World.ownsRow_nil _ _ _ _,fun g e=>(by cases e),fun s i hi=>absurd hi (by simp),fun s i s' j hi=>absurd hi (by simp)⟩;have HR33:Hid (w3.rowIs (w.heap.size+1) 29 2 (fun _=>.slice none 0 0)):=Xa (HR3.of_block (hb3.block _ HR3.lt));have hzz:w2.heap.size+2<=w3.heap.size:=by omega
 have HPP:=Xa hP;have HB1':=HB1;clear HB1;have HB1:=HBl1;clear hb3 hz3 hB0 hB1 hBx q1 q2 q3 q4 q5 q6 hLI hLO hP k0 k1 k1' HR2 HR3 HR1
 go_loopw [16] (fun i wr=>∃b:Nat,b<=n/\i=.int .i64 b/\Hid (LiE w3 wr (w2.heap.size+1) (fun _=>b) P)) (fun i _=>n-(intOf i).toNat)
 case atStart=>exact⟨0,Nat.zero_le _,rfl,HLE⟩
 case round =>
  clear HLE;obtain⟨b,hb,rfl,HE⟩:=hrel;by_cases hlt:b<n
  ·go_upto_region 8 with fail
   go_cut [] from 17 to 43 (fun wx=>Hid (LiE w3 wx (w2.heap.size+1) (fun s'=>if s'=false then b+1 else b) P))
   case first =>
    obtain⟨U,X,hG⟩:=HE.out;have HG:=Xa hG;obtain⟨ax,cx,hX⟩:∃ax cx,X false=.slice ax b cx:=by
     rcases TY (hG.oo false)with⟨e1,e2,_⟩ | ⟨g,c',e1,_⟩
     ·exact⟨none,0,by rw[e1];have e3:b=0:=e2;rw[e3]⟩
     ·exact⟨_,c',e1⟩
    have HX:=Xa hX;have eF:wr.cell? ⟨w2.heap.size+1,0,none⟩=some (.slice ax b cx):=(hG.xcell false).trans (by rw[hX]);have eB:=hG.cell (by omega) HB0.out;have eS:=hG.cell (by have:=HGl.out;omega) (HS0.out b hlt);have hzr:=hG.size;have HLS:Hid (∀W,Below wr.heap.size wr W->_):=Xa (fun W (hW:Below wr.heap.size wr W)=>JQ (gi b) Kw (ci b) (WI b) W (Xa (HW0.out b)) (Xa ((HA0.out b hlt).of_block ((hW.block _ (by have:=HGl.out;have:=HQ0.out b hlt;omega)).trans (HG.fr _ (by have:=HGl.out;have:=HQ0.out b hlt;omega) (by have:=HQ0.out b hlt;omega))))) (Xa (HTZ.of_block ((hW.block _ (by have:=HGT.out;omega)).trans (HG.fr _ (by have:=HGT.out;omega) (by have:=HGT.out;omega))))) HKW.out);have hlen:=Zez (WI b) (64*Kw);have HPb:Hid (Xk (Jn (WI b) (64*Kw))=P false b):=Xa (HP0.out b hlt);have hpl:(P false b).length<=6400:=by rw[<-HPb.out];have:=HKW.out;simp[Xk];omega
    have hFl:w2.heap.size+1<wr.heap.size:=by omega
    clear hG hX;refine YS (fun w'=>w'.cell? ⟨w2.heap.size,0,none⟩=some (.slice (some ⟨Gi,0,none⟩) n n)/\w'.cell? ⟨Gi,b,none⟩=some (.slice (some ⟨gi b,0,none⟩) Kw (ci b))) (fun hHeld=>?_);refine Xr 0 ?_;refine Xr 2 ?_;refine Xr 3 ?_;refine Xr 4 ?_;refine Xr 5 ?_;refine Xr 6 ?_;refine wpAnyH_ready (rs:=[1,7]) (by kernel_rfl) (by simp) ?_;refine(AllReadyH.cons rfl (fun K hK=>?_) (AllReadyH.cons rfl (fun K hK=>?_) AllReadyH.nil))
    ·go_simp
     refine hK _ _ (by first | with_reducible exact hHeld | ((try dsimp only);go_keep)) (fun hHeld=>?_);clear hK
     try simp only[Act.put,xA,xB,xC,xD,xE,xF]
     refine Xs 7 (fun K hK=>?_);go_simp;refine(HLS.out wr.drew (Below.refl wr.heap.size wr).drew).mono ?_;rintro e w5 ⟨u,rfl,hb5',hu⟩;have hb5:Below wr.heap.size wr w5:=⟨hb5'.os,hb5'.tape,hb5'.output,hb5'.size,hb5'.block⟩;rw[show(Jn (WI b) (64*Kw)).length=(P false b).length by rw[<-HPb.out];simp[Xk],HPb.out]at hu;obtain⟨au,cu,eu,_⟩:=Xn hu;obtain⟨lu,hlu⟩:∃m,m=(P false b).length:=⟨_,rfl⟩;rw[<-hlu]at eu;have HU5:=Xa hu;have HE5:=Xa eu;have HB5:=Xa hb5;have hz5:=hb5.size;have y0:=(hb5.cell (p:=⟨w2.heap.size,0,none⟩) (World.block_lt_of_cell? wr _ eB)).trans eB;have y1:=(hb5.cell (p:=⟨Gi,b,none⟩) (World.block_lt_of_cell? wr _ eS)).trans eS;have y2:=(hb5.cell (p:=⟨w2.heap.size+1,0,none⟩) hFl).trans eF;have hFl5:w2.heap.size+1<w5.heap.size:=by omega
     rw[eu];clear hb5 hb5' hu hlu eu;refine hK _ _ ⟨y0,y1⟩ (fun hHeld=>?_);clear hK;refine Xr 8 ?_;refine Xs 9 (fun K hK=>?_);go_simp;refine hK _ _ (by first | with_reducible exact hHeld | ((try dsimp only);go_keep)) (fun hHeld=>?_);clear hK;refine Xs 10 (fun K hK=>?_);refine YN rfl _ _ 27 rfl w3.heap.size 47 i0 (.agg #[.slice none 0 0]) 1 24 Tryd.underlying27 hi0 hz0 hz1' hz2' rfl (by decide) (.slice ax b cx) b ((List.range b).map (U false)) rfl ?s1 ⟨w5.heap.size,0,none⟩ 1 1 [.slice au lu cu] rfl rfl ?s2 ?s3 ?s4 ?s5 ?s6 ?_
     case s1=>exact(by have h:=Zd (HG.oo false) HB5.out;rw[HX.out]at h;exact h.alloc _)
     case s2=>exact Xz _ _ _
     case s3=>intro u hu;simp at hu;subst hu;rfl
     case s4=>unfold maxLen;omega
     case s5=>omega
     case s6=>simp;omega
     intro x8 w8 hown8 hg8 _ hat8;obtain⟨g8,c8,rfl,_,_⟩:=Xh hown8 (by omega);obtain⟨hD8,ce8,fe8,hq8⟩:=HG.push (s:=false) HB5.out HU5.out (by rw[HX.out];exact hg8) (by rw[HE5.out];exact hown8) (by rw[HX.out];simpa using hat8);rw[HX.out]at ce8;have z0:=(Xc (o:=0) (hq8 w2.heap.size (by omega) (by omega)).1).trans eB;have z1:=(Xc (o:=b) (hq8 Gi (by have:=HGl.out;omega) (by have:=HGl.out;omega)).1).trans eS;have z0':=(Xc (o:=0) (hq8 w2.heap.size (by omega) (by omega)).2).trans eB;have z1':=(Xc (o:=b) (hq8 Gi (by have:=HGl.out;omega) (by have:=HGl.out;omega)).2).trans eS;have HD8:Hid (LiE w3 _ (w2.heap.size+1) _ P):=Xa ⟨_,_,hD8⟩;have ce8':w8.cell? ⟨w2.heap.size+1,0,none⟩=some (.slice ax b cx):=ce8;have fe8':w8.frozen? ⟨w2.heap.size+1,0,none⟩=false:=fe8;clear hown8 hg8 hat8 hD8 hq8 ce8 fe8;refine hK _ _ ⟨z0,z1⟩ (fun hHeld=>?_);clear hK;refine Xr 11 ?_;refine Xs 12 (fun K hK=>?_);go_simp;refine hK _ _ ⟨z0',z1'⟩ (fun hHeld=>?_);clear hK;refine Y5 ?_;clear hHeld z0 z1 z0' z1' ce8' fe8'
     go_wp2_with fail
     go_meet;exact Xa HD8.out
    ·go_simp
     refine(HLS.out wr.drew (Below.refl wr.heap.size wr).drew).mono ?_;rintro e w5 ⟨u,rfl,hb5',hu⟩;have hb5:Below wr.heap.size wr w5:=⟨hb5'.os,hb5'.tape,hb5'.output,hb5'.size,hb5'.block⟩;rw[show(Jn (WI b) (64*Kw)).length=(P false b).length by rw[<-HPb.out];simp[Xk],HPb.out]at hu;obtain⟨au,cu,eu,_⟩:=Xn hu;obtain⟨lu,hlu⟩:∃m,m=(P false b).length:=⟨_,rfl⟩;rw[<-hlu]at eu;have HU5:=Xa hu;have HE5:=Xa eu;have HB5:=Xa hb5;have hz5:=hb5.size;have y0:=(hb5.cell (p:=⟨w2.heap.size,0,none⟩) (World.block_lt_of_cell? wr _ eB)).trans eB;have y1:=(hb5.cell (p:=⟨Gi,b,none⟩) (World.block_lt_of_cell? wr _ eS)).trans eS;have y2:=(hb5.cell (p:=⟨w2.heap.size+1,0,none⟩) hFl).trans eF;have hFl5:w2.heap.size+1<w5.heap.size:=by omega
     rw[eu];clear hb5 hb5' hu hlu eu;refine hK _ _ ⟨y0,y1⟩ (fun hHeld=>?_);clear hK
     try simp only[Act.put,xA,xB,xC,xD,xE,xF]
     refine Xr 8 ?_;refine wpAnyH_ready (rs:=[1,9]) (by kernel_rfl) (by simp) ?_;refine(AllReadyH.cons rfl (fun K hK=>?_) (AllReadyH.cons rfl (fun K hK=>?_) AllReadyH.nil))
     ·go_simp
      refine hK _ _ (by first | with_reducible exact hHeld | ((try dsimp only);go_keep)) (fun hHeld=>?_);clear hK
      try simp only[Act.put,xA,xB,xC,xD,xE,xF]
      refine Xs 9 (fun K hK=>?_);go_simp;refine hK _ _ (by first | with_reducible exact hHeld | ((try dsimp only);go_keep)) (fun hHeld=>?_);clear hK;refine Xs 10 (fun K hK=>?_);refine YN rfl _ _ 27 rfl w3.heap.size 47 i0 (.agg #[.slice none 0 0]) 1 24 Tryd.underlying27 hi0 hz0 hz1' hz2' rfl (by decide) (.slice ax b cx) b ((List.range b).map (U false)) rfl ?s1 ⟨w5.heap.size,0,none⟩ 1 1 [.slice au lu cu] rfl rfl ?s2 ?s3 ?s4 ?s5 ?s6 ?_
      case s1=>exact(by have h:=Zd (HG.oo false) HB5.out;rw[HX.out]at h;exact h.alloc _)
      case s2=>exact Xz _ _ _
      case s3=>intro u hu;simp at hu;subst hu;rfl
      case s4=>unfold maxLen;omega
      case s5=>omega
      case s6=>simp;omega
      intro x8 w8 hown8 hg8 _ hat8;obtain⟨g8,c8,rfl,_,_⟩:=Xh hown8 (by omega);obtain⟨hD8,ce8,fe8,hq8⟩:=HG.push (s:=false) HB5.out HU5.out (by rw[HX.out];exact hg8) (by rw[HE5.out];exact hown8) (by rw[HX.out];simpa using hat8);rw[HX.out]at ce8;have z0:=(Xc (o:=0) (hq8 w2.heap.size (by omega) (by omega)).1).trans eB;have z1:=(Xc (o:=b) (hq8 Gi (by have:=HGl.out;omega) (by have:=HGl.out;omega)).1).trans eS;have z0':=(Xc (o:=0) (hq8 w2.heap.size (by omega) (by omega)).2).trans eB;have z1':=(Xc (o:=b) (hq8 Gi (by have:=HGl.out;omega) (by have:=HGl.out;omega)).2).trans eS;have HD8:Hid (LiE w3 _ (w2.heap.size+1) _ P):=Xa ⟨_,_,hD8⟩;have ce8':w8.cell? ⟨w2.heap.size+1,0,none⟩=some (.slice ax b cx):=ce8;have fe8':w8.frozen? ⟨w2.heap.size+1,0,none⟩=false:=fe8;clear hown8 hg8 hat8 hD8 hq8 ce8 fe8;refine hK _ _ ⟨z0,z1⟩ (fun hHeld=>?_);clear hK;refine Xr 11 ?_;refine Xs 12 (fun K hK=>?_);go_simp;refine hK _ _ ⟨z0',z1'⟩ (fun hHeld=>?_);clear hK;refine Y5 ?_;clear hHeld z0 z1 z0' z1' ce8' fe8'
      go_wp2_with fail
      go_meet;exact Xa HD8.out
     ·go_simp
      refine hK _ _ (by first | with_reducible exact hHeld | ((try dsimp only);go_keep)) (fun hHeld=>?_);clear hK
      try simp only[Act.put,xA,xB,xC,xD,xE,xF]
      refine Xs 1 (fun K hK=>?_);go_simp;refine hK _ _ (by first | with_reducible exact hHeld | ((try dsimp only);go_keep)) (fun hHeld=>?_);clear hK;refine Xs 10 (fun K hK=>?_);refine YN rfl _ _ 27 rfl w3.heap.size 47 i0 (.agg #[.slice none 0 0]) 1 24 Tryd.underlying27 hi0 hz0 hz1' hz2' rfl (by decide) (.slice ax b cx) b ((List.range b).map (U false)) rfl ?s1 ⟨w5.heap.size,0,none⟩ 1 1 [.slice au lu cu] rfl rfl ?s2 ?s3 ?s4 ?s5 ?s6 ?_
      case s1=>exact(by have h:=Zd (HG.oo false) HB5.out;rw[HX.out]at h;exact h.alloc _)
      case s2=>exact Xz _ _ _
      case s3=>intro u hu;simp at hu;subst hu;rfl
      case s4=>unfold maxLen;omega
      case s5=>omega
      case s6=>simp;omega
      intro x8 w8 hown8 hg8 _ hat8;obtain⟨g8,c8,rfl,_,_⟩:=Xh hown8 (by omega);obtain⟨hD8,ce8,fe8,hq8⟩:=HG.push (s:=false) HB5.out HU5.out (by rw[HX.out];exact hg8) (by rw[HE5.out];exact hown8) (by rw[HX.out];simpa using hat8);rw[HX.out]at ce8;have z0:=(Xc (o:=0) (hq8 w2.heap.size (by omega) (by omega)).1).trans eB;have z1:=(Xc (o:=b) (hq8 Gi (by have:=HGl.out;omega) (by have:=HGl.out;omega)).1).trans eS;have z0':=(Xc (o:=0) (hq8 w2.heap.size (by omega) (by omega)).2).trans eB;have z1':=(Xc (o:=b) (hq8 Gi (by have:=HGl.out;omega) (by have:=HGl.out;omega)).2).trans eS;have HD8:Hid (LiE w3 _ (w2.heap.size+1) _ P):=Xa ⟨_,_,hD8⟩;have ce8':w8.cell? ⟨w2.heap.size+1,0,none⟩=some (.slice ax b cx):=ce8;have fe8':w8.frozen? ⟨w2.heap.size+1,0,none⟩=false:=fe8;clear hown8 hg8 hat8 hD8 hq8 ce8 fe8;refine hK _ _ ⟨z0,z1⟩ (fun hHeld=>?_);clear hK;refine Xr 11 ?_;refine Xs 12 (fun K hK=>?_);go_simp;refine hK _ _ ⟨z0',z1'⟩ (fun hHeld=>?_);clear hK;refine Y5 ?_;clear hHeld z0 z1 z0' z1' ce8' fe8'
      go_wp2_with fail
      go_meet;exact Xa HD8.out
   case rest =>
    have HE2:=hcut;clear HE hcut;generalize wr=wq at *;generalize wc=wr at *;have HE:=HE2;clear HE2
    go_upto_region 9 with fail
    obtain⟨U,X,hG⟩:=HE.out;have HG:=Xa hG;obtain⟨ax,cx,hX⟩:∃ax cx,X true=.slice ax b cx:=by
     rcases TY (hG.oo true)with⟨e1,e2,_⟩ | ⟨g,c',e1,_⟩
     ·exact⟨none,0,by rw[e1];have e3:b=0:=(by simpa using e2);rw[e3]⟩
     ·exact⟨_,c',(by simpa using e1)⟩
    have HX:=Xa hX;have eF:wr.cell? ⟨w2.heap.size+1,1,none⟩=some (.slice ax b cx):=(hG.xcell true).trans (by rw[hX]);have eB:=hG.cell (by omega) HB1.out;have eS:=hG.cell (by have:=HGl.out;omega) (HS1.out b hlt);have hzr:=hG.size;have HLS:Hid (∀W,Below wr.heap.size wr W->_):=Xa (fun W (hW:Below wr.heap.size wr W)=>JQ (go b) Kw (Kw) (WX b) W (Xa (HW1.out b)) (Xa ((HA1.out b hlt).of_block ((hW.block _ (by have:=HGl.out;have:=HQ1.out b hlt;omega)).trans (HG.fr _ (by have:=HGl.out;have:=HQ1.out b hlt;omega) (by have:=HQ1.out b hlt;omega))))) (Xa (HTZ.of_block ((hW.block _ (by have:=HGT.out;omega)).trans (HG.fr _ (by have:=HGT.out;omega) (by have:=HGT.out;omega))))) HKW.out);have hlen:=Zez (WX b) (64*Kw);have HPb:Hid (Xk (Jn (WX b) (64*Kw))=P true b):=Xa (HP1.out b hlt);have hpl:(P true b).length<=6400:=by rw[<-HPb.out];have:=HKW.out;simp[Xk];omega
    have hFl:w2.heap.size+1<wr.heap.size:=by omega
    clear hG hX;refine YS (fun w'=>w'.cell? ⟨w2.heap.size,1,none⟩=some (.slice (some ⟨Go,0,none⟩) n n)/\w'.cell? ⟨Go,b,none⟩=some (.slice (some ⟨go b,0,none⟩) Kw (Kw))) (fun hHeld=>?_);refine Xr 0 ?_;refine Xr 2 ?_;refine Xr 3 ?_;refine Xr 4 ?_;refine Xr 5 ?_;refine Xr 6 ?_;refine wpAnyH_ready (rs:=[1,7]) (by kernel_rfl) (by simp) ?_;refine(AllReadyH.cons rfl (fun K hK=>?_) (AllReadyH.cons rfl (fun K hK=>?_) AllReadyH.nil))
    ·go_simp
     refine hK _ _ (by first | with_reducible exact hHeld | ((try dsimp only);go_keep)) (fun hHeld=>?_);clear hK
     try simp only[Act.put,xA,xB,xC,xD,xE,xF]
     refine Xs 7 (fun K hK=>?_);go_simp;refine(HLS.out wr.drew (Below.refl wr.heap.size wr).drew).mono ?_;rintro e w5 ⟨u,rfl,hb5',hu⟩;have hb5:Below wr.heap.size wr w5:=⟨hb5'.os,hb5'.tape,hb5'.output,hb5'.size,hb5'.block⟩;rw[show(Jn (WX b) (64*Kw)).length=(P true b).length by rw[<-HPb.out];simp[Xk],HPb.out]at hu;obtain⟨au,cu,eu,_⟩:=Xn hu;obtain⟨lu,hlu⟩:∃m,m=(P true b).length:=⟨_,rfl⟩;rw[<-hlu]at eu;have HU5:=Xa hu;have HE5:=Xa eu;have HB5:=Xa hb5;have hz5:=hb5.size;have y0:=(hb5.cell (p:=⟨w2.heap.size,1,none⟩) (World.block_lt_of_cell? wr _ eB)).trans eB;have y1:=(hb5.cell (p:=⟨Go,b,none⟩) (World.block_lt_of_cell? wr _ eS)).trans eS;have y2:=(hb5.cell (p:=⟨w2.heap.size+1,1,none⟩) hFl).trans eF;have hFl5:w2.heap.size+1<w5.heap.size:=by omega
     rw[eu];clear hb5 hb5' hu hlu eu;refine hK _ _ ⟨y0,y1⟩ (fun hHeld=>?_);clear hK;refine Xr 8 ?_;refine Xs 9 (fun K hK=>?_);go_simp;refine hK _ _ (by first | with_reducible exact hHeld | ((try dsimp only);go_keep)) (fun hHeld=>?_);clear hK;refine Xs 10 (fun K hK=>?_);refine YN rfl _ _ 27 rfl w3.heap.size 47 i0 (.agg #[.slice none 0 0]) 1 24 Tryd.underlying27 hi0 hz0 hz1' hz2' rfl (by decide) (.slice ax b cx) b ((List.range b).map (U true)) rfl ?s1 ⟨w5.heap.size,0,none⟩ 1 1 [.slice au lu cu] rfl rfl ?s2 ?s3 ?s4 ?s5 ?s6 ?_
     case s1=>exact(by have h:=Zd (HG.oo true) HB5.out;rw[HX.out]at h;have h:=h.alloc (.cells #[.slice au lu cu] 47);simpa using h)
     case s2=>exact Xz _ _ _
     case s3=>intro u hu;simp at hu;subst hu;rfl
     case s4=>unfold maxLen;omega
     case s5=>omega
     case s6=>simp;omega
     intro x8 w8 hown8 hg8 _ hat8;obtain⟨g8,c8,rfl,_,_⟩:=Xh hown8 (by omega);obtain⟨hD8,ce8,fe8,hq8⟩:=HG.push (s:=true) HB5.out HU5.out (by rw[HX.out];exact hg8) (by rw[HE5.out];simpa using hown8) (by rw[HX.out];simpa using hat8);rw[HX.out]at ce8;have z0:=(Xc (o:=1) (hq8 w2.heap.size (by omega) (by omega)).1).trans eB;have z1:=(Xc (o:=b) (hq8 Go (by have:=HGl.out;omega) (by have:=HGl.out;omega)).1).trans eS;have z0':=(Xc (o:=1) (hq8 w2.heap.size (by omega) (by omega)).2).trans eB;have z1':=(Xc (o:=b) (hq8 Go (by have:=HGl.out;omega) (by have:=HGl.out;omega)).2).trans eS;have HD8:Hid (LiE w3 _ (w2.heap.size+1) _ P):=Xa ⟨_,_,hD8⟩;have ce8':w8.cell? ⟨w2.heap.size+1,1,none⟩=some (.slice ax b cx):=ce8;have fe8':w8.frozen? ⟨w2.heap.size+1,1,none⟩=false:=fe8;clear hown8 hg8 hat8 hD8 hq8 ce8 fe8;refine hK _ _ ⟨z0,z1⟩ (fun hHeld=>?_);clear hK;refine Xr 11 ?_;refine Xs 12 (fun K hK=>?_);go_simp;refine hK _ _ ⟨z0',z1'⟩ (fun hHeld=>?_);clear hK;refine Y5 ?_;clear hHeld z0 z1 z0' z1' ce8' fe8'
     go_wp2_with fail
     refine⟨⟨b+1,by omega,by go_num,Xa ?_⟩,by simp[intOf];omega⟩;exact(by
      obtain⟨U,X,h⟩:=HD8.out;refine⟨U,X,?_⟩;have e:(fun s':Bool=>if s'=true then (if true=false then b+1 else b)+1 else if s'=false then b+1 else b)=fun _=>b+1:=by funext s;cases s<;>rfl
      rw[e]at h;exact h)
    ·go_simp
     refine(HLS.out wr.drew (Below.refl wr.heap.size wr).drew).mono ?_;rintro e w5 ⟨u,rfl,hb5',hu⟩;have hb5:Below wr.heap.size wr w5:=⟨hb5'.os,hb5'.tape,hb5'.output,hb5'.size,hb5'.block⟩;rw[show(Jn (WX b) (64*Kw)).length=(P true b).length by rw[<-HPb.out];simp[Xk],HPb.out]at hu;obtain⟨au,cu,eu,_⟩:=Xn hu;obtain⟨lu,hlu⟩:∃m,m=(P true b).length:=⟨_,rfl⟩;rw[<-hlu]at eu;have HU5:=Xa hu;have HE5:=Xa eu;have HB5:=Xa hb5;have hz5:=hb5.size;have y0:=(hb5.cell (p:=⟨w2.heap.size,1,none⟩) (World.block_lt_of_cell? wr _ eB)).trans eB;have y1:=(hb5.cell (p:=⟨Go,b,none⟩) (World.block_lt_of_cell? wr _ eS)).trans eS;have y2:=(hb5.cell (p:=⟨w2.heap.size+1,1,none⟩) hFl).trans eF;have hFl5:w2.heap.size+1<w5.heap.size:=by omega
     rw[eu];clear hb5 hb5' hu hlu eu;refine hK _ _ ⟨y0,y1⟩ (fun hHeld=>?_);clear hK
     try simp only[Act.put,xA,xB,xC,xD,xE,xF]
     refine Xr 8 ?_;refine wpAnyH_ready (rs:=[1,9]) (by kernel_rfl) (by simp) ?_;refine(AllReadyH.cons rfl (fun K hK=>?_) (AllReadyH.cons rfl (fun K hK=>?_) AllReadyH.nil))
     ·go_simp
      refine hK _ _ (by first | with_reducible exact hHeld | ((try dsimp only);go_keep)) (fun hHeld=>?_);clear hK
      try simp only[Act.put,xA,xB,xC,xD,xE,xF]
      refine Xs 9 (fun K hK=>?_);go_simp;refine hK _ _ (by first | with_reducible exact hHeld | ((try dsimp only);go_keep)) (fun hHeld=>?_);clear hK;refine Xs 10 (fun K hK=>?_);refine YN rfl _ _ 27 rfl w3.heap.size 47 i0 (.agg #[.slice none 0 0]) 1 24 Tryd.underlying27 hi0 hz0 hz1' hz2' rfl (by decide) (.slice ax b cx) b ((List.range b).map (U true)) rfl ?s1 ⟨w5.heap.size,0,none⟩ 1 1 [.slice au lu cu] rfl rfl ?s2 ?s3 ?s4 ?s5 ?s6 ?_
      case s1=>exact(by have h:=Zd (HG.oo true) HB5.out;rw[HX.out]at h;have h:=h.alloc (.cells #[.slice au lu cu] 47);simpa using h)
      case s2=>exact Xz _ _ _
      case s3=>intro u hu;simp at hu;subst hu;rfl
      case s4=>unfold maxLen;omega
      case s5=>omega
      case s6=>simp;omega
      intro x8 w8 hown8 hg8 _ hat8;obtain⟨g8,c8,rfl,_,_⟩:=Xh hown8 (by omega);obtain⟨hD8,ce8,fe8,hq8⟩:=HG.push (s:=true) HB5.out HU5.out (by rw[HX.out];exact hg8) (by rw[HE5.out];simpa using hown8) (by rw[HX.out];simpa using hat8);rw[HX.out]at ce8;have z0:=(Xc (o:=1) (hq8 w2.heap.size (by omega) (by omega)).1).trans eB;have z1:=(Xc (o:=b) (hq8 Go (by have:=HGl.out;omega) (by have:=HGl.out;omega)).1).trans eS;have z0':=(Xc (o:=1) (hq8 w2.heap.size (by omega) (by omega)).2).trans eB;have z1':=(Xc (o:=b) (hq8 Go (by have:=HGl.out;omega) (by have:=HGl.out;omega)).2).trans eS;have HD8:Hid (LiE w3 _ (w2.heap.size+1) _ P):=Xa ⟨_,_,hD8⟩;have ce8':w8.cell? ⟨w2.heap.size+1,1,none⟩=some (.slice ax b cx):=ce8;have fe8':w8.frozen? ⟨w2.heap.size+1,1,none⟩=false:=fe8;clear hown8 hg8 hat8 hD8 hq8 ce8 fe8;refine hK _ _ ⟨z0,z1⟩ (fun hHeld=>?_);clear hK;refine Xr 11 ?_;refine Xs 12 (fun K hK=>?_);go_simp;refine hK _ _ ⟨z0',z1'⟩ (fun hHeld=>?_);clear hK;refine Y5 ?_;clear hHeld z0 z1 z0' z1' ce8' fe8'
      go_wp2_with fail
      refine⟨⟨b+1,by omega,by go_num,Xa ?_⟩,by simp[intOf];omega⟩;exact(by
       obtain⟨U,X,h⟩:=HD8.out;refine⟨U,X,?_⟩;have e:(fun s':Bool=>if s'=true then (if true=false then b+1 else b)+1 else if s'=false then b+1 else b)=fun _=>b+1:=by funext s;cases s<;>rfl
       rw[e]at h;exact h)
     ·go_simp
      refine hK _ _ (by first | with_reducible exact hHeld | ((try dsimp only);go_keep)) (fun hHeld=>?_);clear hK
      try simp only[Act.put,xA,xB,xC,xD,xE,xF]
      refine Xs 1 (fun K hK=>?_);go_simp;refine hK _ _ (by first | with_reducible exact hHeld | ((try dsimp only);go_keep)) (fun hHeld=>?_);clear hK;refine Xs 10 (fun K hK=>?_);refine YN rfl _ _ 27 rfl w3.heap.size 47 i0 (.agg #[.slice none 0 0]) 1 24 Tryd.underlying27 hi0 hz0 hz1' hz2' rfl (by decide) (.slice ax b cx) b ((List.range b).map (U true)) rfl ?s1 ⟨w5.heap.size,0,none⟩ 1 1 [.slice au lu cu] rfl rfl ?s2 ?s3 ?s4 ?s5 ?s6 ?_
      case s1=>exact(by have h:=Zd (HG.oo true) HB5.out;rw[HX.out]at h;have h:=h.alloc (.cells #[.slice au lu cu] 47);simpa using h)
      case s2=>exact Xz _ _ _
      case s3=>intro u hu;simp at hu;subst hu;rfl
      case s4=>unfold maxLen;omega
      case s5=>omega
      case s6=>simp;omega
      intro x8 w8 hown8 hg8 _ hat8;obtain⟨g8,c8,rfl,_,_⟩:=Xh hown8 (by omega);obtain⟨hD8,ce8,fe8,hq8⟩:=HG.push (s:=true) HB5.out HU5.out (by rw[HX.out];exact hg8) (by rw[HE5.out];simpa using hown8) (by rw[HX.out];simpa using hat8);rw[HX.out]at ce8;have z0:=(Xc (o:=1) (hq8 w2.heap.size (by omega) (by omega)).1).trans eB;have z1:=(Xc (o:=b) (hq8 Go (by have:=HGl.out;omega) (by have:=HGl.out;omega)).1).trans eS;have z0':=(Xc (o:=1) (hq8 w2.heap.size (by omega) (by omega)).2).trans eB;have z1':=(Xc (o:=b) (hq8 Go (by have:=HGl.out;omega) (by have:=HGl.out;omega)).2).trans eS;have HD8:Hid (LiE w3 _ (w2.heap.size+1) _ P):=Xa ⟨_,_,hD8⟩;have ce8':w8.cell? ⟨w2.heap.size+1,1,none⟩=some (.slice ax b cx):=ce8;have fe8':w8.frozen? ⟨w2.heap.size+1,1,none⟩=false:=fe8;clear hown8 hg8 hat8 hD8 hq8 ce8 fe8;refine hK _ _ ⟨z0,z1⟩ (fun hHeld=>?_);clear hK;refine Xr 11 ?_;refine Xs 12 (fun K hK=>?_);go_simp;refine hK _ _ ⟨z0',z1'⟩ (fun hHeld=>?_);clear hK;refine Y5 ?_;clear hHeld z0 z1 z0' z1' ce8' fe8'
      go_wp2_with fail
      refine⟨⟨b+1,by omega,by go_num,Xa ?_⟩,by simp[intOf];omega⟩;exact(by
       obtain⟨U,X,h⟩:=HD8.out;refine⟨U,X,?_⟩;have e:(fun s':Bool=>if s'=true then (if true=false then b+1 else b)+1 else if s'=false then b+1 else b)=fun _=>b+1:=by funext s;cases s<;>rfl
       rw[e]at h;exact h)
  ·have hbe:n=b:=by omega
   subst hbe;obtain⟨U,X,hG⟩:=HE.out;have HG:=Xa hG;have hform:∀s,∃ax cx,X s=.slice ax n cx:=fun s=>by
    rcases TY (hG.oo s)with⟨e1,e2,_⟩ | ⟨g,c',e1,_⟩
    ·exact⟨none,0,by rw[e1];have e3:n=0:=e2;rw[e3]⟩
    ·exact⟨_,c',e1⟩
   obtain⟨ax,cx,hX0⟩:=hform false;obtain⟨ay,cy,hX1⟩:=hform true;have HX0:=Xa hX0;have HX1:=Xa hX1;have eO0:wr.cell? ⟨w2.heap.size+1,0,none⟩=some (.slice ax n cx):=(hG.xcell false).trans (by rw[hX0]);have eO1:wr.cell? ⟨w2.heap.size+1,1,none⟩=some (.slice ay n cy):=(hG.xcell true).trans (by rw[hX1]);have HRR:=Xa (HR33.of_block (hG.fr (w.heap.size+1) (by omega) (by omega)));have r0:=HRR.cell (i:=0) (by decide);have r1:=HRR.cell (i:=1) (by decide);have rz:=HRR.frozen;have r1':∀u,(wr.setCell ⟨w.heap.size+1,0,none⟩ u).cell? ⟨w.heap.size+1,1,none⟩=some (.slice none 0 0):=fun u=>(HRR.set 0 u).cell (i:=1) (by decide)
   have hLow:Below w.heap.size w wr:=⟨hG.os.trans HL2.os,hG.tape.trans HL2.tape,hG.output.trans HL2.output,by have:=HL2.size;have:=hG.size;omega,fun q hq=>(hG.fr q (by omega) (by omega)).trans (HL2.block q hq)⟩;have HLW:=Xa hLow;clear hG hX0 hX1 hform hLow
   go_wp2_with fail
   have hRE:=((HRR.set 0 (.slice ax n cx)).set 1 (.slice ay n cy));have z0:=hRE.cell (i:=0) (by decide);have z1:=hRE.cell (i:=1) (by decide);simp only[if_true,if_false,Nat.zero_ne_one,Nat.one_ne_zero]at z0 z1;refine bodyPost_ret (v:=.agg #[.slice ax n cx,.slice ay n cy]) (by simp[results,Tryd.results5,go_sem,z0,z1]) rfl ?_;rw[<-HPP.out];exact⟨w3,w2.heap.size+1,U,X,wr,by rw[HX0.out,HX1.out],HL2.size,HG.out,(HLW.setCell (by show w.heap.size<=w.heap.size+1;omega) _).setCell (by show w.heap.size<=w.heap.size+1;omega) _,by rw[Xd,Xd],fun q hq=>(Below.heap_setCell _ _ _ _ (by show q≠w.heap.size+1;omega)).trans (Below.heap_setCell _ _ _ _ (by show q≠w.heap.size+1;omega))⟩
end Go.Proofs.YtbofmlmdgkblkaaDoor
