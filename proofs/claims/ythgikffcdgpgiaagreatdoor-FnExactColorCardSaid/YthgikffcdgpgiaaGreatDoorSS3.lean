import Derived.Test.YthgikffcdgpgiaaGreatDoorAL2
namespace Go.Proofs.YthgikffcdgpgiaaGreatDoor
set_option maxHeartbeats 4000000
set_option maxRecDepth 100000
open Go.RowKit Go.Shelf
section
attribute [local go_sem] Oper.semAt_some
def WJ(V Kw:Nat)(W:Nat->Nat):Prop:=∀x,x<64*Kw->Xf W x=true->x<V
theorem UZ{V Kw:Nat}{W:Nat->Nat}(h:WJ V Kw W){ts:List Nat}(ht:∀t∈ts,t<V):WJ V Kw (addsN W ts):=fun x hx e=>by
 rw[Y4]at e;rcases Bool.or_eq_true _ _ ▸ e with e | e
 ·exact ht x (of_decide_eq_true e)
 ·exact h x hx e
theorem ZfR{V Kw:Nat}{W:Nat->Nat}(h:WJ V Kw W)(ts:List Nat):WJ V Kw (delsN W ts):=fun x hx e=>by
 rw[Jh]at e;exact h x hx (Bool.and_eq_true _ _ ▸ e).2
def Zgq(n m Kw z:Nat)(p:Sd)(V:World):Prop:=(p.i<=m/\WJ n Kw p.W)/\Zjw Kw z p V
theorem Ze6(n m Kw B z:Nat):OwnFrom B (Zgq n m Kw z):=fun p A V row h k q=>by
 obtain⟨h1,h2,h3⟩:=h;refine⟨h1,h2.of_block (k.block z h2.lt (fun e=>?_)),h3⟩;obtain⟨o,h4,h5⟩:=h2.obj;obtain⟨_,o2,h6,h7⟩:=q z e.symm;rw[h4]at h6;injection h6 with h6;subst h6;rw[h5]at h7;cases h7
theorem ZcE{n m Kw z:Nat}{p:Sd}{V V':World}(h:Zgq n m Kw z p V)(k:Below V.heap.size V V'):Zgq n m Kw z p V':=⟨h.1,h.2.1.of_block (k.block z h.2.1.lt),h.2.2⟩
theorem Zdt(m:Nat):∀(l l':List (Nat × List Int × List Int))(W:Nat->Nat),Kh m W (l++l')=Kh m W l++Kh m (l.foldl TD W) l'
 | [],l',W=>by simp[Kh]
 | p::l,l',W=>by
  show Wx m W p++Kh m (TD W p) (l++l')=(Wx m W p++Kh m (TD W p) l)++Kh m (l.foldl TD (TD W p)) l';rw[Zdt m l,List.append_assoc]
theorem ZbU(m:Nat){l l':List (Nat × List Int × List Int)}(W:Nat->Nat)(h:l <+: l'):Kh m W l <+: Kh m W l':=by
 obtain⟨t,rfl⟩:=h;rw[Zdt];exact⟨_,rfl⟩
theorem ZdH(n₀ Bo Bx L B go Kw Cg V:Nat)(Ms:Nat->Prop)(x:Xi)(W0:Nat->Nat)(w:World)(hS:Hid (Tv x L B Bx n₀ w.heap.size w))(hs:w.cell? ⟨Bo,0,none⟩=some (.slice (some ⟨go,0,none⟩) Kw Cg))(hg:Hid (WsAt w go Kw Cg W0))(hwd:Hid (Xw W0))(hK:Kw<=100)(hVK:V<=64*Kw)(hM:Hid (∀k,L<=k->k<B->¬Ms k))(hMx:Hid (¬Ms Bx))(hMn:Hid (∀k,w.heap.size<=k->¬Ms k))(hM1:Hid (¬Ms 0))(hM2:Hid (¬Ms 2))(hops:Hid (∀y∈x.instrs,1<=y.op/\y.op<=13))(htk:1<=x.term.kind/\x.term.kind<=3)(hln:x.instrs.length<=4000)(hlp:x.phis.length<=4000)(hPd:Hid (∀q∈plL x,PdV V q))(hLt:Hid (WJ V Kw W0)) :
 Zdz Fence.wide 8 Tryz.prog 109 #[.pointer (some ⟨Bo,0,none⟩),.pointer (some ⟨Bx,0,none⟩)] (Zhx Kw) (Zgq V x.instrs.length Kw) (Zy n₀ Ms) (fun xs=>xs.map Sd.dat=Kh x.instrs.length W0 (plL x)) (fun xs=>xs.map Sd.dat <+: Kh x.instrs.length W0 (plL x)) (x.instrs.length+2) True False w:=by
 intro l J Jx W hW hl hJ hJx hJz _ hY h0;have HY:=Xa hY;have HJ:=Xa hJ;have HJX:=Xa hJx;have HJZ:=Xa (hJz trivial);have H0:=Xa h0;have hnn:=hS.nn;clear hY hJ hJz h0 hJx;have hzW:=hW.size;have HSW:=Xa (hS.below hW (Nat.le_refl _));refine callsIn_of_wp_marks Tryz.func109 rfl trivial ?_ rfl;simp only[Tryz.ntmps109,List.size_toArray,List.length_cons,List.length_nil,Nat.reduceAdd,Nat.reduceSub,Array.replicate_succ,Array.replicate_zero,List.push_toArray,List.append_toArray,List.nil_append,List.cons_append];have s0:=(hW.cell (p:=⟨Bo,0,none⟩) (World.block_lt_of_cell? w _ hs)).trans hs;have hBoW:Bo<W.heap.size:=World.block_lt_of_cell? W _ s0;have s0':∀o,(W.alloc o).cell? ⟨Bo,0,none⟩=some (.slice (some ⟨go,0,none⟩) Kw Cg):=fun o=>(World.cell?_alloc_lt W o ⟨Bo,0,none⟩ hBoW).trans s0
 gi_wp2
 have HBa:Hid (Below W.heap.size W (W.alloc (.cells #[.func (.yield l) #[] #[]] 174))):=Xa (Xb (Below.refl _ _) _);have hya:(W.alloc (.cells #[.func (.yield l) #[] #[]] 174)).cell? ⟨W.heap.size,0,none⟩=some (.func (.yield l) #[] #[]):=by simp[go_sem]
 have hza:(W.alloc (.cells #[.func (.yield l) #[] #[]] 174)).heap.size=W.heap.size+1:=sP;generalize W.alloc (.cells #[.func (.yield l) #[] #[]] 174)=wa at *;have hzW1:W.heap.size<wa.heap.size:=oM;have HGa:Hid (WsAt wa go Kw Cg W0):=Xa ((hg.of_block (hW.block go hg.lt)).of_block (HBa.block go (Nat.lt_of_lt_of_le hg.lt hzW)));have HCL:=Xa (ZQ go Kw Cg W0 wa HGa oM);refine⟨trivial,(callsIn_wide.2 HCL.out).mono ?_⟩;rintro e w1 ⟨gl,C1,rfl,hgl,hb1,hg1⟩;have HG1:=Xa hg1;have HB1:=Xa (Xe HBa.out hb1);have hz1:=hb1.size;have y1:=(hb1.cell (p:=⟨W.heap.size,0,none⟩) hzW1).trans hya;have hgl1:gl<w1.heap.size:=hg1.lt;clear hb1 hg1 hya HCL HGa;have HB2:Hid (Below w1.heap.size w1 (w1.alloc (.cells #[.slice (some ⟨gl,0,none⟩) Kw C1] 75))):=Xa (Xb (Below.refl _ _) _);have hl2:(w1.alloc (.cells #[.slice (some ⟨gl,0,none⟩) Kw C1] 75)).cell? ⟨w1.heap.size,0,none⟩=some (.slice (some ⟨gl,0,none⟩) Kw C1):=by simp[go_sem]
 have hz2:(w1.alloc (.cells #[.slice (some ⟨gl,0,none⟩) Kw C1] 75)).heap.size=w1.heap.size+1:=sP;have HS2:=Xa (HSW.below (Xe HB1.out HB2.out) hzW);obtain⟨pa,pc,ia,ic,x0,x1,⟨x2,x3,x4,x5⟩,hph,hin⟩:=HS2.blk;simp only[Nat.zero_add]at x1 x2 x3 x4 x5;have HPH:=Xa hph;have HIN:=Xa hin;clear hph hin
 gi_wp2
 generalize w1.alloc (.cells #[.slice (some ⟨gl,0,none⟩) Kw C1] 75)=w2 at *;have hl2':w1.heap.size<w2.heap.size:=oM;clear hz2;refine⟨trivial,(Wj Fence.wide 7 trivial rfl _ _ _ _ _ _ w2).mono ?_⟩;rintro e w4 ⟨rfl,hw4⟩;have hb4:Below w2.heap.size w2 w4:=by rw[hw4];exact Xb (Below.refl _ _) _
 have hz4:w4.heap.size=w2.heap.size+1:=by rw[hw4];simp
 have hc4:∀q v,#[Value.slice pa x.phis.length pc,.slice ia x.instrs.length ic,.int .i64 x.term.kind,.int .i64 x.term.a,.int .i64 x.term.to,.int .i64 x.term.els][q]?=some v->w4.cell? ⟨w2.heap.size,q,none⟩=some v:=fun q v h=>by
  rw[hw4,World.cell?_alloc_new];exact h
 have HBW4:Hid (Below W.heap.size W w4):=Xa (Xe (Xe HB1.out HB2.out) hb4);have HST4:Hid (Tv x L B w2.heap.size n₀ w4.heap.size w4):=Xa ⟨HS2.op.of_block (hb4.block _ (by have:=hS.g1;omega)) hb4.size,HS2.ter.of_block (hb4.block _ (by have:=hS.g2;omega)) hb4.size,⟨pa,pc,ia,ic,hc4 0 _ rfl,hc4 1 _ rfl,⟨hc4 2 _ rfl,hc4 3 _ rfl,hc4 4 _ rfl,hc4 5 _ rfl⟩,HPH.keepS (fun q _ h2=>hb4.block q (by have:=hS.le;omega)),HIN.keepS (fun q _ h2=>hb4.block q (by have:=hS.le;omega))⟩,oM,hS.le,hS.g1,hS.g2,oM⟩;have HI0:Hid (SdI W w4.heap.size l w1.heap.size Bx gl Kw C1 x.instrs.length ia ic W0 J [] w4):=Xa ⟨⟨[],rfl,H0.out gl w4 oM oM HBW4.out⟩,(hb4.cell (p:=⟨W.heap.size,0,none⟩) (by show W.heap.size<_;omega)).trans ((XD HB2.out oM).trans y1),(hb4.cell (p:=⟨w1.heap.size,0,none⟩) hl2').trans hl2,(HG1.of_block (HB2.block _ hgl1)).of_block (hb4.block _ oM),(hb4.cell (p:=⟨Bx,1,none⟩) (by have:=hS.lt;show Bx<_;omega)).trans x1,Nat.le_refl _⟩;have hl4:w2.heap.size<w4.heap.size:=oM;clear hw4 hc4 hz4;have hgm:∀q,q≠gl->w.heap.size<=q->¬(Ms q\/q=gl):=fun q h1 h2 h3=>h3.elim (fun h=>hMn.out q h2 h) h1
 have hzz:w.heap.size<=gl:=oM
 gi_wp2
 refine Zfe (F:=Fence.wide) (n:=8) rfl vZ (gf:=124) (lb:=#[.pointer (some ⟨w2.heap.size,0,none⟩)]) rfl trivial (enters_of Tryz.func124 kR rfl) (TS n₀ w2.heap.size L B (fun q=>Ms q\/q=gl) (PdV V) x w4 HST4 (Xa ?m1) (Xa ?m2) (Xa ?m3) (Xa ?m4) (Xa ?m5) hops htk hln hlp hPd) (fun _=>Uz _ _ _) (fun h k=>h.trans k) (fun W l o o' h1 h2 h3=>Zy.putObj W l o o' oM h2 h3) (Below.refl _ _) (fun _ _=>rfl)
  (fun _ pre U=>SdI W w4.heap.size l w1.heap.size Bx gl Kw C1 x.instrs.length ia ic W0 J pre U/\WJ V Kw ((pre.map Pl.dat).foldl TD W0)) (fun c pre V=>c=.ret/\∃ss:List Sd,ss.map Sd.dat=Kh x.instrs.length W0 (pre.map Pl.dat)/\Jx ss V) (fun _ s A U row h k q=>⟨SdI.own HJ.out oM oM (by have:=hS.lt;omega) oM s A U row h.1 k q,h.2⟩) ?ownX (fun h=>h.elim) (fun h=>h.elim) (fun _ V _ _ hV=>⟨Yk (SdI.own HJ.out oM oM (by have:=hS.lt;omega) oM) HI0.out hV,hLt.out⟩)
  (fun _ p a' U=>∃bp:Nat,a'=⟨#[.func (.yield l) #[] #[],.pointer (some ⟨Bo,0,none⟩),.pointer (some ⟨Bx,0,none⟩),.pointer (some ⟨W.heap.size,0,none⟩),.pointer (some ⟨w1.heap.size,0,none⟩),.int .i64 (p.i:Int),.pointer (some ⟨bp,0,none⟩),.agg #[.slice (some ⟨go,0,none⟩) Kw Cg],.agg #[.slice (some ⟨gl,0,none⟩) Kw C1],.agg #[.slice pa x.phis.length pc,.slice ia x.instrs.length ic,.int .i64 x.term.kind,.int .i64 x.term.a,.int .i64 x.term.to,.int .i64 x.term.els],.func (.func 124) #[] #[.pointer (some ⟨w2.heap.size,0,none⟩)],.int .i64 (p.i:Int),.agg #[.slice p.ua p.us.length p.uc,.slice p.da p.ds.length p.dc],undef,undef,undef,undef,undef,undef,undef,undef,undef,undef,undef,undef,undef,undef,undef,undef,undef,undef,undef,undef,undef,undef,undef,undef],[]⟩/\PBx w4.heap.size bp p U) ?ownA ?assign ?body ?done ?stop
 case m1=>intro q h1 h2;exact fun h3=>h3.elim (fun h=>hM.out q h1 h2 h) (fun h=>by have:=hS.le;omega)
 case m2=>exact hgm _ oM oM
 case m3=>intro q h1;exact hgm _ oM oM
 case m4=>exact fun h3=>h3.elim (fun h=>hM1.out h) (fun h=>by have:=hS.g1;omega)
 case m5=>exact fun h3=>h3.elim (fun h=>hM2.out h) (fun h=>by have:=hS.g2;omega)
 case ownX =>
  rintro c pre A V row ⟨rfl,ss,s1,s2⟩ k q;exact⟨rfl,ss,s1,HJX.out ss A V row s2 k (fun r e=>⟨by have:=(q r e).1;omega,(q r e).2⟩)⟩
 case ownA =>
  rintro _ p a' _ A U row ⟨bp,e,hp⟩ g q;exact⟨bp,e,PBx.own (n:=w4.heap.size) () A U row hp g q⟩
 case assign =>
  intro l' _ pre p U K _ hI0 hP hKK;obtain⟨hI,hLt1⟩:=hI0;have HLT:=Xa hLt1;clear hLt1;have HII:=Xa hI;have HPP:=Xa hP;have HKK:=Xa hKK;clear hI hP hKK;unfold ZcS
  gi_wp2
  have hbA:Below U.heap.size U (U.alloc (.cells #[.slice p.ua p.us.length p.uc,.slice p.da p.ds.length p.dc] 161)):=Xb (Below.refl _ _) _;refine HKK.out _ _ ⟨hbA.size,fun k o h1 _=>(hbA.block k (Array.getElem?_eq_some_iff.1 h1).1).trans h1⟩ (Zy.of_below hbA (by have:=HII.sz;omega)) ⟨Yk (SdI.own HJ.out oM oM (by have:=hS.lt;omega) oM) HII.out hbA,HLT.out⟩ (Ur HPP.out hbA) ⟨U.heap.size,rfl,HII.sz,?_,?_⟩
  ·simp[go_sem]
  ·simp[go_sem]
 case body =>
  rintro l' _ pre p a' U _ _ _ ⟨hI,hLt1⟩ hP ⟨bp,rfl,hpb⟩ hlen;have HLT:=Xa hLt1;clear hLt1;have HII:=Xa hI;have HPP:=Xa hP;have zl:=hI.lv;have zy:=hI.y;have zx:=hI.bx;have p0:=hpb.c0;have p1:=hpb.c1;have hbp:=hpb.ge;have hbpU:bp<U.heap.size:=World.block_lt_of_cell? U _ p0;have hzU:=hI.sz;have HPd:Hid (PdV V p.dat):=Xa HPP.1;have HNd:Hid ((Xt p.ds).map Int.ofNat=p.ds):=Xa (Jf (fun v hv=>(HPd.2.1 v hv).1));have HNu:Hid ((Xt p.us).map Int.ofNat=p.us):=Xa (Jf (fun v hv=>(HPd.1 v hv).1));have HLdV:Hid (∀t∈Xt p.ds,t<V):=Xa (fun t ht=>by
   obtain⟨z,hz,rfl⟩:=List.mem_map.1 ht;have:=HPd.2.1 z hz;omega)
  have HLuV:Hid (∀t∈Xt p.us,t<V):=Xa (fun t ht=>by
   obtain⟨z,hz,rfl⟩:=List.mem_map.1 ht;have:=HPd.1 z hz;omega)
  have HLd:Hid (∀t∈Xt p.ds,t<64*Kw):=Xa (fun t ht=>by
   obtain⟨z,hz,rfl⟩:=List.mem_map.1 ht;have:=HPd.2.1 z hz;omega)
  have HLu:Hid (∀t∈Xt p.us,t<64*Kw):=Xa (fun t ht=>by
   obtain⟨z,hz,rfl⟩:=List.mem_map.1 ht;have:=HPd.1 z hz;omega)
  have hld:p.ds.length<=4000:=HPd.2.2.2;have hlu:p.us.length<=4000:=HPd.2.2.1;obtain⟨Wc,hWc⟩:∃F,F=(pre.map Pl.dat).foldl TD W0:=⟨_,rfl⟩;have HLTc:Hid (WJ V Kw Wc):=Xa (by rw[hWc];exact HLT.out);have HLTn:Hid (WJ V Kw (((pre++[p]).map Pl.dat).foldl TD W0)):=Xa (by
   rw[List.map_append,List.foldl_append,<-hWc];exact UZ (ZfR (UZ HLTc.out HLdV.out) _) HLuV.out)
  have HWd:Hid (Xw Wc):=Xa (by rw[hWc];exact ZfA _ hwd.out);have HWS:Hid (WsAt U gl Kw C1 Wc):=Xa (by rw[hWc];exact HII.ws);have HWC:=Xa hWc;clear hI hP hpb hWc;have HC1:=Xa (YW gl Kw C1 p.ds.length p.dc Wc p.da (Xt p.ds) w4.heap.size U.heap.size U (Xa (by rw[HNd.out];exact HPP.2.2)) (Xa (by simp[Xt])) hld HLd oM HWd HWS (Nat.le_refl _) oM)
  gi_wp2
  refine⟨trivial,(CallsIn.inRound l' (callsIn_wide.2 HC1.out)).mono ?_⟩;rintro e V1 ⟨rfl,k1,hw1⟩;have q1:∀(b' o':Nat)(v:Value),b'≠gl->U.cell? ⟨b',o',none⟩=some v->V1.cell? ⟨b',o',none⟩=some v:=fun b' o' v h1 h2=>(Xc (k1.block b' (World.block_lt_of_cell? U _ h2) (fun e=>h1 (by injection e)))).trans h2
  have zl1:=q1 _ _ _ oM zl;have zy1:=q1 _ _ _ oM zy;have zx1:=q1 _ _ _ (by have:=hS.lt;omega) zx;have p01:=q1 _ _ _ oM p0;have p11:=q1 _ _ _ oM p1;have hzV1:=k1.size;have HK1:=Xa k1;have HWS1:Hid (WsAt V1 gl Kw C1 (addsN Wc (Xt p.ds))):=Xa hw1;have HWd1:Hid (Xw (addsN Wc (Xt p.ds))):=Xa (YE _ HWd.out);have HId1:Hid (Xg V1 w4.heap.size V1.heap.size p.da p.ds):=Xa (Yv HPP.2.2 k1 oM);have HIu1:Hid (Xg V1 w4.heap.size V1.heap.size p.ua p.us):=Xa (Yv HPP.2.1 k1 oM);clear k1 hw1 q1 HC1 zl zy zx p0 p1;obtain⟨ss,hss,hJs⟩:=HII.js;have HSS:=Xa hss;have HJ1:Hid (J gl ss V1):=Xa (HJZ.out gl ss U V1 oM hJs HK1.out);clear hss hJs;have hlen':ss.length<=pre.length:=by
   have h1:=congrArg List.length HSS.out;rw[List.length_map]at h1;have h2:=Zdi x.instrs.length (pre.map Pl.dat) W0;rw[List.length_map]at h2;omega
  have HDAT:Hid (p.dat=(p.i,p.us,p.ds)):=Xa rfl;by_cases hle:p.i<=x.instrs.length
  ·have HY1:=Xa (HY.out gl ss ⟨p.i,C1,addsN Wc (Xt p.ds)⟩ V1 oM HJ1.out ⟨⟨hle,UZ HLTc.out HLdV.out⟩,HWS1.out,HWd1.out⟩ oM)
   obtain⟨fn,tmps,asg,bo,hy,hR⟩:=U2 (l':=l') (m':=5) HY1.out;have hy':(Instr.yield l #[.int .i64 (p.i:Int),.agg #[.slice (some ⟨gl,0,none⟩) Kw C1]]).run Tryz.prog V1=_:=hy;have hle':(p.i:Int)<=(x.instrs.length:Int):=oM;clear hy HY1
   gi_wp2
   refine hR.mono ?_;rintro e V2 (⟨rfl,hJ2,hk2,hf2⟩ | ⟨rfl,hJ2,hk2,hf2⟩);rotate_left
   ·have HJ2:=Xa hJ2
    have HK2:=Xa hk2;have HF2:=Xa hf2;clear hJ2 hk2 hf2 hR hy'
    gi_wp2
    refine⟨((Zp HK1.out HWS.obj).from _).trans ⟨HF2.size,fun k o h1 h2 h3=>HF2.same k o oM h2 h3⟩,(YX HK1.out (Or.inr rfl) oM).trans ⟨HK2.size,fun k h1 h2=>HK2.low k h1 (fun h=>h2 (Or.inl h)),fun k o h1 h2 h3=>HK2.cells k o (fun h=>h1 (Or.inl h)) h2 h3⟩,rfl,_,?_,HJ2.out⟩;rw[List.map_append,List.map_append,HSS.out];show _=Kh x.instrs.length W0 (pre.map Pl.dat++[p.dat]);rw[Jg,<-HWC.out];unfold Wx;rw[if_pos (show p.dat.1<=x.instrs.length from hle)];rfl
   have HJ2:=Xa hJ2;have HK2:=Xa hk2;have HF2:=Xa hf2;have hzV2:=hk2.size;have zl2:=hk2.cell zl1 (hMn.out _ (by show w.heap.size<=w1.heap.size;omega));have zy2:=hk2.cell zy1 (hMn.out _ (by show w.heap.size<=W.heap.size;omega));have zx2:=hk2.cell zx1 hMx.out;have p02:=hk2.cell p01 (hMn.out _ (by show w.heap.size<=bp;omega));have p12:=hk2.cell p11 (hMn.out _ (by show w.heap.size<=bp;omega));have HWS2:Hid (WsAt V2 gl Kw C1 (addsN Wc (Xt p.ds))):=Xa (HWS1.of_block (by
    obtain⟨o,h1,h2⟩:=HWS1.obj;rw[h1];exact hk2.cells gl o (hMn.out _ hzz) h1 h2))
   have HId2:Hid (Xg V2 w4.heap.size V2.heap.size p.da p.ds):=Xa (fun i hi=>by
    obtain⟨b,o,e,hb,hc⟩:=HId1.out i hi;exact⟨b,o,e,⟨hb.1,oM⟩,hk2.cell hc (hMn.out _ (by show w.heap.size<=b;omega))⟩)
   have HIu2:Hid (Xg V2 w4.heap.size V2.heap.size p.ua p.us):=Xa (fun i hi=>by
    obtain⟨b,o,e,hb,hc⟩:=HIu1.out i hi;exact⟨b,o,e,⟨hb.1,oM⟩,hk2.cell hc (hMn.out _ (by show w.heap.size<=b;omega))⟩)
   clear hJ2 hk2 hf2 hR hy' zl1 zy1 zx1 p01 p11;have HC2:=Xa (Z7 gl Kw C1 p.ds.length p.dc (addsN Wc (Xt p.ds)) p.da (Xt p.ds) w4.heap.size V2.heap.size V2 (Xa (by rw[HNd.out];exact HId2.out)) (Xa (by simp[Xt])) hld HLd oM HWd1 HWS2 (Nat.le_refl _) oM)
   gi_wp2
   refine⟨trivial,(CallsIn.inRound l' (callsIn_wide.2 HC2.out)).mono ?_⟩;rintro e V3 ⟨rfl,k3,hw3⟩;have q3:∀(b' o':Nat)(v:Value),b'≠gl->V2.cell? ⟨b',o',none⟩=some v->V3.cell? ⟨b',o',none⟩=some v:=fun b' o' v h1 h2=>(Xc (k3.block b' (World.block_lt_of_cell? V2 _ h2) (fun e=>h1 (by injection e)))).trans h2
   have zl3:=q3 _ _ _ oM zl2;have zy3:=q3 _ _ _ oM zy2;have zx3:=q3 _ _ _ (by have:=hS.lt;omega) zx2;have p03:=q3 _ _ _ oM p02;have p13:=q3 _ _ _ oM p12;have hzV3:=k3.size;have HK3:=Xa k3;have HWS3:Hid (WsAt V3 gl Kw C1 (delsN (addsN Wc (Xt p.ds)) (Xt p.ds))):=Xa hw3;have HIu3:Hid (Xg V3 w4.heap.size V3.heap.size p.ua p.us):=Xa (Yv HIu2.out k3 oM);clear k3 hw3 q3 HC2 zl2 zy2 zx2 p02 p12;have HC4:=Xa (YW gl Kw C1 p.us.length p.uc (delsN (addsN Wc (Xt p.ds)) (Xt p.ds)) p.ua (Xt p.us) w4.heap.size V3.heap.size V3 (Xa (by rw[HNu.out];exact HIu3.out)) (Xa (by simp[Xt])) hlu HLu oM (Xa (ZJ _ HWd1.out)) HWS3 (Nat.le_refl _) oM)
   gi_wp2
   refine⟨trivial,(CallsIn.inRound l' (callsIn_wide.2 HC4.out)).mono ?_⟩;rintro e V4 ⟨rfl,k4,hw4'⟩;have q4:∀(b' o':Nat)(v:Value),b'≠gl->V3.cell? ⟨b',o',none⟩=some v->V4.cell? ⟨b',o',none⟩=some v:=fun b' o' v h1 h2=>(Xc (k4.block b' (World.block_lt_of_cell? V3 _ h2) (fun e=>h1 (by injection e)))).trans h2
   have zl4:=q4 _ _ _ oM zl3;have zy4:=q4 _ _ _ oM zy3;have zx4:=q4 _ _ _ (by have:=hS.lt;omega) zx3;have hzV4:=k4.size;have HK4:=Xa k4;have HWS4:=Xa hw4';clear k4 hw4' q4 HC4 zl3 zy3 zx3 p03 p13
   gi_wp2
   have hkk:∀{A A':World},A.grownBy A' (some gl)->n₀<=A.heap.size->Zy n₀ (fun q=>Ms q\/q=gl) A A':=fun h h1=>YX h (Or.inr rfl) h1
   have hko:∀{A A':World},A.grownBy A' (some gl)->(∃o:Obj,A.heap[gl]?=some o/\o.isCells=true)->KeepsFrom w4.heap.size A A':=fun h h1=>(Zp h h1).from _
   have hws:addsN (delsN (addsN Wc (Xt p.ds)) (Xt p.ds)) (Xt p.us)=TD Wc p.dat:=rfl;have hsa:addsN Wc (Xt p.ds)=sdA Wc p.dat:=rfl;have HJ4:J gl (ss++[⟨p.i,C1,addsN Wc (Xt p.ds)⟩]) V4:=HJZ.out gl _ V3 V4 oM (HJZ.out gl _ V2 V3 oM HJ2.out HK3.out) HK4.out;refine⟨(((hko HK1.out HWS.obj).trans ⟨HF2.size,fun k o h1 h2 h3=>HF2.same k o oM h2 h3⟩).trans (hko HK3.out HWS2.obj)).trans (hko HK4.out HWS3.obj),(((hkk HK1.out oM).trans ⟨HK2.size,fun k h1 h2=>HK2.low k h1 (fun h=>h2 (Or.inl h)),fun k o h1 h2 h3=>HK2.cells k o (fun h=>h1 (Or.inl h)) h2 h3⟩).trans (hkk HK3.out oM)).trans (hkk HK4.out oM),⟨⟨⟨_,?_,HJ4⟩,zy4,zl4,?_,zx4,oM⟩,HLTn.out⟩⟩
   ·rw[List.map_append,List.map_append,HSS.out]
    show _=Kh x.instrs.length W0 (pre.map Pl.dat++[p.dat]);rw[Jg,<-HWC.out];unfold Wx;rw[if_pos (show p.dat.1<=x.instrs.length from hle)];rfl
   ·rw[List.map_append,List.foldl_append,<-HWC.out]
    exact HWS4.out
  ·have hle2:(x.instrs.length:Int)<(p.i:Int):=oM
   have hle':decide ((p.i:Int)<=(x.instrs.length:Int))=false:=by simp;omega
   have zl2:=zl1;have zy2:=zy1;have zx2:=zx1;have p02:=p01;have p12:=p11;have HIu2:=HIu1;clear zl1 zy1 zx1 p01 p11;have HC2:=Xa (Z7 gl Kw C1 p.ds.length p.dc (addsN Wc (Xt p.ds)) p.da (Xt p.ds) w4.heap.size V1.heap.size V1 (Xa (by rw[HNd.out];exact HId1.out)) (Xa (by simp[Xt])) hld HLd oM HWd1 HWS1 (Nat.le_refl _) oM)
   gi_wp2
   repeat (refine⟨fun f hf=>(by cases hf),?_⟩;gi_wp2)
   refine⟨trivial,(CallsIn.inRound l' (callsIn_wide.2 HC2.out)).mono ?_⟩;rintro e V3 ⟨rfl,k3,hw3⟩;have q3:∀(b' o':Nat)(v:Value),b'≠gl->V1.cell? ⟨b',o',none⟩=some v->V3.cell? ⟨b',o',none⟩=some v:=fun b' o' v h1 h2=>(Xc (k3.block b' (World.block_lt_of_cell? V1 _ h2) (fun e=>h1 (by injection e)))).trans h2
   have zl3:=q3 _ _ _ oM zl2;have zy3:=q3 _ _ _ oM zy2;have zx3:=q3 _ _ _ (by have:=hS.lt;omega) zx2;have p03:=q3 _ _ _ oM p02;have p13:=q3 _ _ _ oM p12;have hzV3:=k3.size;have HK3:=Xa k3;have HWS3:Hid (WsAt V3 gl Kw C1 (delsN (addsN Wc (Xt p.ds)) (Xt p.ds))):=Xa hw3;have HIu3:Hid (Xg V3 w4.heap.size V3.heap.size p.ua p.us):=Xa (Yv HIu2.out k3 oM);clear k3 hw3 q3 HC2 zl2 zy2 zx2 p02 p12;have HC4:=Xa (YW gl Kw C1 p.us.length p.uc (delsN (addsN Wc (Xt p.ds)) (Xt p.ds)) p.ua (Xt p.us) w4.heap.size V3.heap.size V3 (Xa (by rw[HNu.out];exact HIu3.out)) (Xa (by simp[Xt])) hlu HLu oM (Xa (ZJ _ HWd1.out)) HWS3 (Nat.le_refl _) oM)
   gi_wp2
   refine⟨trivial,(CallsIn.inRound l' (callsIn_wide.2 HC4.out)).mono ?_⟩;rintro e V4 ⟨rfl,k4,hw4'⟩;have q4:∀(b' o':Nat)(v:Value),b'≠gl->V3.cell? ⟨b',o',none⟩=some v->V4.cell? ⟨b',o',none⟩=some v:=fun b' o' v h1 h2=>(Xc (k4.block b' (World.block_lt_of_cell? V3 _ h2) (fun e=>h1 (by injection e)))).trans h2
   have zl4:=q4 _ _ _ oM zl3;have zy4:=q4 _ _ _ oM zy3;have zx4:=q4 _ _ _ (by have:=hS.lt;omega) zx3;have hzV4:=k4.size;have HK4:=Xa k4;have HWS4:=Xa hw4';clear k4 hw4' q4 HC4 zl3 zy3 zx3 p03 p13
   gi_wp2
   have hkk:∀{A A':World},A.grownBy A' (some gl)->n₀<=A.heap.size->Zy n₀ (fun q=>Ms q\/q=gl) A A':=fun h h1=>YX h (Or.inr rfl) h1
   have hko:∀{A A':World},A.grownBy A' (some gl)->(∃o:Obj,A.heap[gl]?=some o/\o.isCells=true)->KeepsFrom w4.heap.size A A':=fun h h1=>(Zp h h1).from _
   have HJ4:J gl ss V4:=HJZ.out gl _ V3 V4 oM (HJZ.out gl _ V1 V3 oM HJ1.out HK3.out) HK4.out;refine⟨((hko HK1.out HWS.obj).trans (hko HK3.out HWS1.obj)).trans (hko HK4.out HWS3.obj),((hkk HK1.out oM).trans (hkk HK3.out oM)).trans (hkk HK4.out oM),⟨⟨⟨_,?_,HJ4⟩,zy4,zl4,?_,zx4,oM⟩,HLTn.out⟩⟩
   ·rw[List.map_append,HSS.out]
    show _=Kh x.instrs.length W0 (pre.map Pl.dat++[p.dat]);rw[Jg,<-HWC.out];unfold Wx;rw[if_neg (show ¬p.dat.1<=x.instrs.length from hle),List.append_nil]
   ·rw[List.map_append,List.foldl_append,<-HWC.out]
    exact HWS4.out
 case done =>
  rintro D _ xs U hD _ hS' ⟨hI,_⟩ hKD;have HII:=Xa hI;have HKD:=Xa hKD;have HS':=Xa hS';clear hI hKD hS'
  gi_wp2
  obtain⟨ss,hss,hJs⟩:=HII.js;refine Zj HKD.out ⟨.tuple #[],results_none rfl _ _ _,⟨_,rfl⟩,.inl ⟨gl,ss,oM,by rw[hss,HS'.out],(HJ.out gl).putObj _ hJs oM HKD.out rfl⟩⟩
 case stop =>
  rintro D c pre U hD hSp ⟨rfl,ss,s1,s2⟩ hKD;have HS1:=Xa s1;have HS2':=Xa s2;have HKD:=Xa hKD;have HSp:=Xa hSp;clear s1 s2 hKD hSp
  gi_wp2
  exact Zj HKD.out ⟨.tuple #[],results_none rfl _ _ _,⟨_,rfl⟩,.inr ⟨ss,by rw[HS1.out];exact ZbU _ _ HSp.out,HJX.putObj _ HS2'.out oM HKD.out rfl⟩⟩
end
end Go.Proofs.YthgikffcdgpgiaaGreatDoor
