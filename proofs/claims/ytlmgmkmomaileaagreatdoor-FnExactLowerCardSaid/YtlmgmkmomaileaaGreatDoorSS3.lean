import Derived.Test.YtlmgmkmomaileaaGreatDoorPL3
namespace Go.Proofs.YtlmgmkmomaileaaGreatDoor
set_option maxHeartbeats 4000000
set_option maxRecDepth 100000
open Go.RowKit Go.Shelf
attribute [local go_sem] Oper.semAt_some
def LtV(V Kw:Nat)(W:Nat->Nat):Prop:=∀x,x<64*Kw->Xg W x=true->x<V
theorem VZ{V Kw:Nat}{W:Nat->Nat}(h:LtV V Kw W){ts:List Nat}(ht:∀t∈ts,t<V):LtV V Kw (addsN W ts):=fun x hx e=>by
 rw[Zl]at e;rcases Bool.or_eq_true _ _ ▸ e with e | e
 ·exact ht x (of_decide_eq_true e)
 ·exact h x hx e
theorem Zhq{V Kw:Nat}{W:Nat->Nat}(h:LtV V Kw W)(ts:List Nat):LtV V Kw (delsN W ts):=fun x hx e=>by
 rw[JJ]at e;exact h x hx (Bool.and_eq_true _ _ ▸ e).2
def Zjf(n m Kw z:Nat)(p:Sd)(V:World):Prop:=(p.i<=m/\LtV n Kw p.W)/\Zla Kw z p V
theorem Zc5(n m Kw B z:Nat):OwnFrom B (Zjf n m Kw z):=fun p A V row h k q=>by
 obtain⟨h1,h2,h3⟩:=h;refine⟨h1,h2.of_block (k.block z h2.lt (fun e=>?_)),h3⟩;obtain⟨o,h4,h5⟩:=h2.obj;obtain⟨_,o2,h6,h7⟩:=q z e.symm;rw[h4]at h6;injection h6 with h6;subst h6;rw[h5]at h7;cases h7
theorem Zef{n m Kw z:Nat}{p:Sd}{V V':World}(h:Zjf n m Kw z p V)(k:Below V.heap.size V V'):Zjf n m Kw z p V':=⟨h.1,h.2.1.of_block (k.block z h.2.1.lt),h.2.2⟩
theorem ZeR(m:Nat):∀(l l':List (Nat × List Int × List Int))(W:Nat->Nat),Uh m W (l++l')=Uh m W l++Uh m (l.foldl Vd W) l'
 | [],l',W=>by simp[Uh]
 | p::l,l',W=>by
  show sdE m W p++Uh m (Vd W p) (l++l')=(sdE m W p++Uh m (Vd W p) l)++Uh m (l.foldl Vd (Vd W p)) l';rw[ZeR m l,List.append_assoc]
theorem Zd4(m:Nat){l l':List (Nat × List Int × List Int)}(W:Nat->Nat)(h:l <+: l'):Uh m W l <+: Uh m W l':=by
 obtain⟨t,rfl⟩:=h;rw[ZeR];exact⟨_,rfl⟩
theorem Zfy(n₀ Bo Bx L B go Kw Cg V:Nat)(Ms:Nat->Prop)(x:Xh)(W0:Nat->Nat)(w:World)(hS:Hid (Uk x L B Bx n₀ w.heap.size w))(hs:w.cell? ⟨Bo,0,none⟩=some (.slice (some ⟨go,0,none⟩) Kw Cg))(hg:Hid (WsAt w go Kw Cg W0))(hwd:Hid (XA W0))(hK:Kw<=100)(hVK:V<=64*Kw)(hM:Hid (∀k,L<=k->k<B->¬Ms k))(hMx:Hid (¬Ms Bx))(hMn:Hid (∀k,w.heap.size<=k->¬Ms k))(hM1:Hid (¬Ms 0))(hM2:Hid (¬Ms 1))(hops:Hid (∀y∈x.instrs,1<=y.op/\y.op<=13))(htk:1<=x.term.kind/\x.term.kind<=3)(hln:x.instrs.length<=4000)(hlp:x.phis.length<=4000)(hPd:Hid (∀q∈plL x,PdV V q))(hLt:Hid (LtV V Kw W0)) :
 ZiL Fence.wide 8 Tryz.prog 115 #[.pointer (some ⟨Bo,0,none⟩),.pointer (some ⟨Bx,0,none⟩)] (Zj9 Kw) (Zjf V x.instrs.length Kw) (Zi n₀ Ms) (fun xs=>xs.map Sd.dat=Uh x.instrs.length W0 (plL x)) (fun xs=>xs.map Sd.dat <+: Uh x.instrs.length W0 (plL x)) (x.instrs.length+2) True False w:=by
 intro l J Jx W hW hl hJ hJx hJz _ hY h0;have HY:=Xa hY;have HJ:=Xa hJ;have HJX:=Xa hJx;have HJZ:=Xa (hJz trivial);have H0:=Xa h0;have hnn:=hS.nn;clear hY hJ hJz h0 hJx;have hzW:=hW.size;have HSW:=Xa (hS.below hW (Nat.le_refl _));refine callsIn_of_wp_marks Tryz.func115 rfl trivial ?_ rfl;simp only[Tryz.ntmps115,List.size_toArray,List.length_cons,List.length_nil,Nat.reduceAdd,Nat.reduceSub,Array.replicate_succ,Array.replicate_zero,List.push_toArray,List.append_toArray,List.nil_append,List.cons_append];have s0:=(hW.cell (p:=⟨Bo,0,none⟩) (World.block_lt_of_cell? w _ hs)).trans hs;have hBoW:Bo<W.heap.size:=World.block_lt_of_cell? W _ s0;have s0':∀o,(W.alloc o).cell? ⟨Bo,0,none⟩=some (.slice (some ⟨go,0,none⟩) Kw Cg):=fun o=>(World.cell?_alloc_lt W o ⟨Bo,0,none⟩ hBoW).trans s0
 gi_wp2
 have HBa:Hid (Below W.heap.size W (W.alloc (.cells #[.func (.yield l) #[] #[]] 202))):=Xa (Xb (Below.refl _ _) _);have hya:(W.alloc (.cells #[.func (.yield l) #[] #[]] 202)).cell? ⟨W.heap.size,0,none⟩=some (.func (.yield l) #[] #[]):=by simp[go_sem]
 have hza:(W.alloc (.cells #[.func (.yield l) #[] #[]] 202)).heap.size=W.heap.size+1:=sP;generalize W.alloc (.cells #[.func (.yield l) #[] #[]] 202)=wa at *;have hzW1:W.heap.size<wa.heap.size:=oM;have HGa:Hid (WsAt wa go Kw Cg W0):=Xa ((hg.of_block (hW.block go hg.lt)).of_block (HBa.block go (Nat.lt_of_lt_of_le hg.lt hzW)));have HCL:=Xa (T4 go Kw Cg W0 wa HGa oM);refine⟨trivial,(callsIn_wide.2 HCL.out).mono ?_⟩;rintro e w1 ⟨gl,C1,rfl,hgl,hb1,hg1⟩;have HG1:=Xa hg1;have HB1:=Xa (Xd HBa.out hb1);have hz1:=hb1.size;have y1:=(hb1.cell (p:=⟨W.heap.size,0,none⟩) hzW1).trans hya;have hgl1:gl<w1.heap.size:=hg1.lt;clear hb1 hg1 hya HCL HGa;have HB2:Hid (Below w1.heap.size w1 (w1.alloc (.cells #[.slice (some ⟨gl,0,none⟩) Kw C1] 93))):=Xa (Xb (Below.refl _ _) _);have hl2:(w1.alloc (.cells #[.slice (some ⟨gl,0,none⟩) Kw C1] 93)).cell? ⟨w1.heap.size,0,none⟩=some (.slice (some ⟨gl,0,none⟩) Kw C1):=by simp[go_sem]
 have hz2:(w1.alloc (.cells #[.slice (some ⟨gl,0,none⟩) Kw C1] 93)).heap.size=w1.heap.size+1:=sP;have HS2:=Xa (HSW.below (Xd HB1.out HB2.out) hzW);obtain⟨pa,pc,ia,ic,x0,x1,⟨x2,x3,x4,x5⟩,hph,hin⟩:=HS2.blk;simp only[Nat.zero_add]at x1 x2 x3 x4 x5;have HPH:=Xa hph;have HIN:=Xa hin;clear hph hin
 gi_wp2
 generalize w1.alloc (.cells #[.slice (some ⟨gl,0,none⟩) Kw C1] 93)=w2 at *;have hl2':w1.heap.size<w2.heap.size:=oM;clear hz2;refine⟨trivial,(ZaU Fence.wide 7 trivial rfl _ _ _ _ _ _ w2).mono ?_⟩;rintro e w4 ⟨rfl,hw4⟩;have hb4:Below w2.heap.size w2 w4:=by rw[hw4];exact Xb (Below.refl _ _) _
 have hz4:w4.heap.size=w2.heap.size+1:=by rw[hw4];simp
 have hc4:∀q v,#[Value.slice pa x.phis.length pc,.slice ia x.instrs.length ic,.int .i64 x.term.kind,.int .i64 x.term.a,.int .i64 x.term.to,.int .i64 x.term.els][q]?=some v->w4.cell? ⟨w2.heap.size,q,none⟩=some v:=fun q v h=>by
  rw[hw4,World.cell?_alloc_new];exact h
 have HBW4:Hid (Below W.heap.size W w4):=Xa (Xd (Xd HB1.out HB2.out) hb4);have HST4:Hid (Uk x L B w2.heap.size n₀ w4.heap.size w4):=Xa ⟨HS2.op.of_block (hb4.block _ (by have:=hS.g1;omega)) hb4.size,HS2.ter.of_block (hb4.block _ (by have:=hS.g2;omega)) hb4.size,⟨pa,pc,ia,ic,hc4 0 _ rfl,hc4 1 _ rfl,⟨hc4 2 _ rfl,hc4 3 _ rfl,hc4 4 _ rfl,hc4 5 _ rfl⟩,HPH.keepS (fun q _ h2=>hb4.block q (by have:=hS.le;omega)),HIN.keepS (fun q _ h2=>hb4.block q (by have:=hS.le;omega))⟩,oM,hS.le,hS.g1,hS.g2,oM⟩;have HI0:Hid (SdI W w4.heap.size l w1.heap.size Bx gl Kw C1 x.instrs.length ia ic W0 J [] w4):=Xa ⟨⟨[],rfl,H0.out gl w4 oM oM HBW4.out⟩,(hb4.cell (p:=⟨W.heap.size,0,none⟩) (by show W.heap.size<_;omega)).trans ((Xu HB2.out oM).trans y1),(hb4.cell (p:=⟨w1.heap.size,0,none⟩) hl2').trans hl2,(HG1.of_block (HB2.block _ hgl1)).of_block (hb4.block _ oM),(hb4.cell (p:=⟨Bx,1,none⟩) (by have:=hS.lt;show Bx<_;omega)).trans x1,Nat.le_refl _⟩;have hl4:w2.heap.size<w4.heap.size:=oM;clear hw4 hc4 hz4;have hgm:∀q,q≠gl->w.heap.size<=q->¬(Ms q\/q=gl):=fun q h1 h2 h3=>h3.elim (fun h=>hMn.out q h2 h) h1
 have hzz:w.heap.size<=gl:=oM
 gi_wp2
 refine Zeu (F:=Fence.wide) (n:=8) rfl dC (gf:=132) (lb:=#[.pointer (some ⟨w2.heap.size,0,none⟩)]) rfl trivial (enters_of Tryz.func132 vZ rfl) (Zci n₀ w2.heap.size L B (fun q=>Ms q\/q=gl) (PdV V) x w4 HST4 (Xa ?m1) (Xa ?m2) (Xa ?m3) (Xa ?m4) (Xa ?m5) hops htk hln hlp hPd) (fun _=>VX _ _ _) (fun h k=>h.trans k) (fun W l o o' h1 h2 h3=>Zi.putObj W l o o' oM h2 h3) (Below.refl _ _) (fun _ _=>rfl)
  (fun _ pre U=>SdI W w4.heap.size l w1.heap.size Bx gl Kw C1 x.instrs.length ia ic W0 J pre U/\LtV V Kw ((pre.map Pl.dat).foldl Vd W0)) (fun c pre V=>c=.ret/\∃ss:List Sd,ss.map Sd.dat=Uh x.instrs.length W0 (pre.map Pl.dat)/\Jx ss V) (fun _ s A U row h k q=>⟨SdI.own HJ.out oM oM (by have:=hS.lt;omega) oM s A U row h.1 k q,h.2⟩) ?ownX (fun h=>h.elim) (fun h=>h.elim) (fun _ V _ _ hV=>⟨XE (SdI.own HJ.out oM oM (by have:=hS.lt;omega) oM) HI0.out hV,hLt.out⟩)
  (fun _ p a' U=>∃bp:Nat,a'=⟨#[.func (.yield l) #[] #[],.pointer (some ⟨Bo,0,none⟩),.pointer (some ⟨Bx,0,none⟩),.pointer (some ⟨W.heap.size,0,none⟩),.pointer (some ⟨w1.heap.size,0,none⟩),.int .i64 (p.i:Int),.pointer (some ⟨bp,0,none⟩),.agg #[.slice (some ⟨go,0,none⟩) Kw Cg],.agg #[.slice (some ⟨gl,0,none⟩) Kw C1],.agg #[.slice pa x.phis.length pc,.slice ia x.instrs.length ic,.int .i64 x.term.kind,.int .i64 x.term.a,.int .i64 x.term.to,.int .i64 x.term.els],.func (.func 132) #[] #[.pointer (some ⟨w2.heap.size,0,none⟩)],.int .i64 (p.i:Int),.agg #[.slice p.ua p.us.length p.uc,.slice p.da p.ds.length p.dc],undef,undef,undef,undef,undef,undef,undef,undef,undef,undef,undef,undef,undef,undef,undef,undef,undef,undef,undef,undef,undef,undef,undef,undef],[]⟩/\PBx w4.heap.size bp p U) ?ownA ?assign ?body ?done ?stop
 case m1=>intro q h1 h2;exact fun h3=>h3.elim (fun h=>hM.out q h1 h2 h) (fun h=>by have:=hS.le;omega)
 case m2=>exact hgm _ oM oM
 case m3=>intro q h1;exact hgm _ oM oM
 case m4=>exact fun h3=>h3.elim (fun h=>hM1.out h) (fun h=>by have:=hS.g1;omega)
 case m5=>exact fun h3=>h3.elim (fun h=>hM2.out h) (fun h=>by have:=hS.g2;omega)
 case ownX =>
  rintro c pre A V row ⟨rfl,ss,s1,s2⟩ k q;exact⟨rfl,ss,s1,HJX.out ss A V row s2 k (fun r e=>⟨by have:=(q r e).1;omega,(q r e).2⟩)⟩
 case ownA =>
  rintro _ p a' _ A U row ⟨bp,e,hp⟩ g q;exact⟨bp,e,PBx.own (n:=w4.heap.size) () A U row hp g q⟩
 case assign =>
  intro l' _ pre p U K _ hI0 hP hKK;obtain⟨hI,hLt1⟩:=hI0;have HLT:=Xa hLt1;clear hLt1;have HII:=Xa hI;have HPP:=Xa hP;have HKK:=Xa hKK;clear hI hP hKK;unfold ZeM
  gi_wp2
  have hbA:Below U.heap.size U (U.alloc (.cells #[.slice p.ua p.us.length p.uc,.slice p.da p.ds.length p.dc] 197)):=Xb (Below.refl _ _) _;refine HKK.out _ _ ⟨hbA.size,fun k o h1 _=>(hbA.block k (Array.getElem?_eq_some_iff.1 h1).1).trans h1⟩ (Zi.of_below hbA (by have:=HII.sz;omega)) ⟨XE (SdI.own HJ.out oM oM (by have:=hS.lt;omega) oM) HII.out hbA,HLT.out⟩ (VM HPP.out hbA) ⟨U.heap.size,rfl,HII.sz,?_,?_⟩
  ·simp[go_sem]
  ·simp[go_sem]
 case body =>
  rintro l' _ pre p a' U _ _ _ ⟨hI,hLt1⟩ hP ⟨bp,rfl,hpb⟩ hlen;have HLT:=Xa hLt1;clear hLt1;have HII:=Xa hI;have HPP:=Xa hP;have zl:=hI.lv;have zy:=hI.y;have zx:=hI.bx;have p0:=hpb.c0;have p1:=hpb.c1;have hbp:=hpb.ge;have hbpU:bp<U.heap.size:=World.block_lt_of_cell? U _ p0;have hzU:=hI.sz;have HPd:Hid (PdV V p.dat):=Xa HPP.1;have HNd:Hid ((Xw p.ds).map Int.ofNat=p.ds):=Xa (JG (fun v hv=>(HPd.2.1 v hv).1));have HNu:Hid ((Xw p.us).map Int.ofNat=p.us):=Xa (JG (fun v hv=>(HPd.1 v hv).1));have HLdV:Hid (∀t∈Xw p.ds,t<V):=Xa (fun t ht=>by
   obtain⟨z,hz,rfl⟩:=List.mem_map.1 ht;have:=HPd.2.1 z hz;omega)
  have HLuV:Hid (∀t∈Xw p.us,t<V):=Xa (fun t ht=>by
   obtain⟨z,hz,rfl⟩:=List.mem_map.1 ht;have:=HPd.1 z hz;omega)
  have HLd:Hid (∀t∈Xw p.ds,t<64*Kw):=Xa (fun t ht=>by
   obtain⟨z,hz,rfl⟩:=List.mem_map.1 ht;have:=HPd.2.1 z hz;omega)
  have HLu:Hid (∀t∈Xw p.us,t<64*Kw):=Xa (fun t ht=>by
   obtain⟨z,hz,rfl⟩:=List.mem_map.1 ht;have:=HPd.1 z hz;omega)
  have hld:p.ds.length<=4000:=HPd.2.2.2;have hlu:p.us.length<=4000:=HPd.2.2.1;obtain⟨Wc,hWc⟩:∃F,F=(pre.map Pl.dat).foldl Vd W0:=⟨_,rfl⟩;have HLTc:Hid (LtV V Kw Wc):=Xa (by rw[hWc];exact HLT.out);have HLTn:Hid (LtV V Kw (((pre++[p]).map Pl.dat).foldl Vd W0)):=Xa (by
   rw[List.map_append,List.foldl_append,<-hWc];exact VZ (Zhq (VZ HLTc.out HLdV.out) _) HLuV.out)
  have HWd:Hid (XA Wc):=Xa (by rw[hWc];exact Zic _ hwd.out);have HWS:Hid (WsAt U gl Kw C1 Wc):=Xa (by rw[hWc];exact HII.ws);have HWC:=Xa hWc;clear hI hP hpb hWc;have HC1:=Xa (Zw gl Kw C1 p.ds.length p.dc Wc p.da (Xw p.ds) w4.heap.size U.heap.size U (Xa (by rw[HNd.out];exact HPP.2.2)) (Xa (by simp[Xw])) hld HLd oM HWd HWS (Nat.le_refl _) oM)
  gi_wp2
  refine⟨trivial,(CallsIn.inRound l' (callsIn_wide.2 HC1.out)).mono ?_⟩;rintro e V1 ⟨rfl,k1,hw1⟩;have q1:∀(b' o':Nat)(v:Value),b'≠gl->U.cell? ⟨b',o',none⟩=some v->V1.cell? ⟨b',o',none⟩=some v:=fun b' o' v h1 h2=>(Xc (k1.block b' (World.block_lt_of_cell? U _ h2) (fun e=>h1 (by injection e)))).trans h2
  have zl1:=q1 _ _ _ oM zl;have zy1:=q1 _ _ _ oM zy;have zx1:=q1 _ _ _ (by have:=hS.lt;omega) zx;have p01:=q1 _ _ _ oM p0;have p11:=q1 _ _ _ oM p1;have hzV1:=k1.size;have HK1:=Xa k1;have HWS1:Hid (WsAt V1 gl Kw C1 (addsN Wc (Xw p.ds))):=Xa hw1;have HWd1:Hid (XA (addsN Wc (Xw p.ds))):=Xa (Zs _ HWd.out);have HId1:Hid (Xf V1 w4.heap.size V1.heap.size p.da p.ds):=Xa (YF HPP.2.2 k1 oM);have HIu1:Hid (Xf V1 w4.heap.size V1.heap.size p.ua p.us):=Xa (YF HPP.2.1 k1 oM);clear k1 hw1 q1 HC1 zl zy zx p0 p1;obtain⟨ss,hss,hJs⟩:=HII.js;have HSS:=Xa hss;have HJ1:Hid (J gl ss V1):=Xa (HJZ.out gl ss U V1 oM hJs HK1.out);clear hss hJs;have hlen':ss.length<=pre.length:=by
   have h1:=congrArg List.length HSS.out;rw[List.length_map]at h1;have h2:=Zbq x.instrs.length (pre.map Pl.dat) W0;rw[List.length_map]at h2;omega
  have HDAT:Hid (p.dat=(p.i,p.us,p.ds)):=Xa rfl;by_cases hle:p.i<=x.instrs.length
  ·have HY1:=Xa (HY.out gl ss ⟨p.i,C1,addsN Wc (Xw p.ds)⟩ V1 oM HJ1.out ⟨⟨hle,VZ HLTc.out HLdV.out⟩,HWS1.out,HWd1.out⟩ oM)
   obtain⟨fn,tmps,asg,bo,hy,hR⟩:=Ks (l':=l') (m':=5) HY1.out;have hy':(Instr.yield l #[.int .i64 (p.i:Int),.agg #[.slice (some ⟨gl,0,none⟩) Kw C1]]).run Tryz.prog V1=_:=hy;have hle':(p.i:Int)<=(x.instrs.length:Int):=oM;clear hy HY1
   gi_wp2
   refine hR.mono ?_;rintro e V2 (⟨rfl,hJ2,hk2,hf2⟩ | ⟨rfl,hJ2,hk2,hf2⟩);rotate_left
   ·have HJ2:=Xa hJ2
    have HK2:=Xa hk2;have HF2:=Xa hf2;clear hJ2 hk2 hf2 hR hy'
    gi_wp2
    refine⟨((ZG HK1.out HWS.obj).from _).trans ⟨HF2.size,fun k o h1 h2 h3=>HF2.same k o oM h2 h3⟩,(Zz HK1.out (Or.inr rfl) oM).trans ⟨HK2.size,fun k h1 h2=>HK2.low k h1 (fun h=>h2 (Or.inl h)),fun k o h1 h2 h3=>HK2.cells k o (fun h=>h1 (Or.inl h)) h2 h3⟩,rfl,_,?_,HJ2.out⟩;rw[List.map_append,List.map_append,HSS.out];show _=Uh x.instrs.length W0 (pre.map Pl.dat++[p.dat]);rw[JQ,<-HWC.out];unfold sdE;rw[if_pos (show p.dat.1<=x.instrs.length from hle)];rfl
   have HJ2:=Xa hJ2;have HK2:=Xa hk2;have HF2:=Xa hf2;have hzV2:=hk2.size;have zl2:=hk2.cell zl1 (hMn.out _ (by show w.heap.size<=w1.heap.size;omega));have zy2:=hk2.cell zy1 (hMn.out _ (by show w.heap.size<=W.heap.size;omega));have zx2:=hk2.cell zx1 hMx.out;have p02:=hk2.cell p01 (hMn.out _ (by show w.heap.size<=bp;omega));have p12:=hk2.cell p11 (hMn.out _ (by show w.heap.size<=bp;omega));have HWS2:Hid (WsAt V2 gl Kw C1 (addsN Wc (Xw p.ds))):=Xa (HWS1.of_block (by
    obtain⟨o,h1,h2⟩:=HWS1.obj;rw[h1];exact hk2.cells gl o (hMn.out _ hzz) h1 h2))
   have HId2:Hid (Xf V2 w4.heap.size V2.heap.size p.da p.ds):=Xa (fun i hi=>by
    obtain⟨b,o,e,hb,hc⟩:=HId1.out i hi;exact⟨b,o,e,⟨hb.1,oM⟩,hk2.cell hc (hMn.out _ (by show w.heap.size<=b;omega))⟩)
   have HIu2:Hid (Xf V2 w4.heap.size V2.heap.size p.ua p.us):=Xa (fun i hi=>by
    obtain⟨b,o,e,hb,hc⟩:=HIu1.out i hi;exact⟨b,o,e,⟨hb.1,oM⟩,hk2.cell hc (hMn.out _ (by show w.heap.size<=b;omega))⟩)
   clear hJ2 hk2 hf2 hR hy' zl1 zy1 zx1 p01 p11;have HC2:=Xa (Ji gl Kw C1 p.ds.length p.dc (addsN Wc (Xw p.ds)) p.da (Xw p.ds) w4.heap.size V2.heap.size V2 (Xa (by rw[HNd.out];exact HId2.out)) (Xa (by simp[Xw])) hld HLd oM HWd1 HWS2 (Nat.le_refl _) oM)
   gi_wp2
   refine⟨trivial,(CallsIn.inRound l' (callsIn_wide.2 HC2.out)).mono ?_⟩;rintro e V3 ⟨rfl,k3,hw3⟩;have q3:∀(b' o':Nat)(v:Value),b'≠gl->V2.cell? ⟨b',o',none⟩=some v->V3.cell? ⟨b',o',none⟩=some v:=fun b' o' v h1 h2=>(Xc (k3.block b' (World.block_lt_of_cell? V2 _ h2) (fun e=>h1 (by injection e)))).trans h2
   have zl3:=q3 _ _ _ oM zl2;have zy3:=q3 _ _ _ oM zy2;have zx3:=q3 _ _ _ (by have:=hS.lt;omega) zx2;have p03:=q3 _ _ _ oM p02;have p13:=q3 _ _ _ oM p12;have hzV3:=k3.size;have HK3:=Xa k3;have HWS3:Hid (WsAt V3 gl Kw C1 (delsN (addsN Wc (Xw p.ds)) (Xw p.ds))):=Xa hw3;have HIu3:Hid (Xf V3 w4.heap.size V3.heap.size p.ua p.us):=Xa (YF HIu2.out k3 oM);clear k3 hw3 q3 HC2 zl2 zy2 zx2 p02 p12;have HC4:=Xa (Zw gl Kw C1 p.us.length p.uc (delsN (addsN Wc (Xw p.ds)) (Xw p.ds)) p.ua (Xw p.us) w4.heap.size V3.heap.size V3 (Xa (by rw[HNu.out];exact HIu3.out)) (Xa (by simp[Xw])) hlu HLu oM (Xa (J2 _ HWd1.out)) HWS3 (Nat.le_refl _) oM)
   gi_wp2
   refine⟨trivial,(CallsIn.inRound l' (callsIn_wide.2 HC4.out)).mono ?_⟩;rintro e V4 ⟨rfl,k4,hw4'⟩;have q4:∀(b' o':Nat)(v:Value),b'≠gl->V3.cell? ⟨b',o',none⟩=some v->V4.cell? ⟨b',o',none⟩=some v:=fun b' o' v h1 h2=>(Xc (k4.block b' (World.block_lt_of_cell? V3 _ h2) (fun e=>h1 (by injection e)))).trans h2
   have zl4:=q4 _ _ _ oM zl3;have zy4:=q4 _ _ _ oM zy3;have zx4:=q4 _ _ _ (by have:=hS.lt;omega) zx3;have hzV4:=k4.size;have HK4:=Xa k4;have HWS4:=Xa hw4';clear k4 hw4' q4 HC4 zl3 zy3 zx3 p03 p13
   gi_wp2
   have hkk:∀{A A':World},A.grownBy A' (some gl)->n₀<=A.heap.size->Zi n₀ (fun q=>Ms q\/q=gl) A A':=fun h h1=>Zz h (Or.inr rfl) h1
   have hko:∀{A A':World},A.grownBy A' (some gl)->(∃o:Obj,A.heap[gl]?=some o/\o.isCells=true)->KeepsFrom w4.heap.size A A':=fun h h1=>(ZG h h1).from _
   have hws:addsN (delsN (addsN Wc (Xw p.ds)) (Xw p.ds)) (Xw p.us)=Vd Wc p.dat:=rfl;have hsa:addsN Wc (Xw p.ds)=sdA Wc p.dat:=rfl;have HJ4:J gl (ss++[⟨p.i,C1,addsN Wc (Xw p.ds)⟩]) V4:=HJZ.out gl _ V3 V4 oM (HJZ.out gl _ V2 V3 oM HJ2.out HK3.out) HK4.out;refine⟨(((hko HK1.out HWS.obj).trans ⟨HF2.size,fun k o h1 h2 h3=>HF2.same k o oM h2 h3⟩).trans (hko HK3.out HWS2.obj)).trans (hko HK4.out HWS3.obj),(((hkk HK1.out oM).trans ⟨HK2.size,fun k h1 h2=>HK2.low k h1 (fun h=>h2 (Or.inl h)),fun k o h1 h2 h3=>HK2.cells k o (fun h=>h1 (Or.inl h)) h2 h3⟩).trans (hkk HK3.out oM)).trans (hkk HK4.out oM),⟨⟨⟨_,?_,HJ4⟩,zy4,zl4,?_,zx4,oM⟩,HLTn.out⟩⟩
   ·rw[List.map_append,List.map_append,HSS.out]
    show _=Uh x.instrs.length W0 (pre.map Pl.dat++[p.dat]);rw[JQ,<-HWC.out];unfold sdE;rw[if_pos (show p.dat.1<=x.instrs.length from hle)];rfl
   ·rw[List.map_append,List.foldl_append,<-HWC.out]
    exact HWS4.out
  ·have hle2:(x.instrs.length:Int)<(p.i:Int):=oM
   have hle':decide ((p.i:Int)<=(x.instrs.length:Int))=false:=by simp;omega
   have zl2:=zl1;have zy2:=zy1;have zx2:=zx1;have p02:=p01;have p12:=p11;have HIu2:=HIu1;clear zl1 zy1 zx1 p01 p11;have HC2:=Xa (Ji gl Kw C1 p.ds.length p.dc (addsN Wc (Xw p.ds)) p.da (Xw p.ds) w4.heap.size V1.heap.size V1 (Xa (by rw[HNd.out];exact HId1.out)) (Xa (by simp[Xw])) hld HLd oM HWd1 HWS1 (Nat.le_refl _) oM)
   gi_wp2
   repeat (refine⟨fun f hf=>(by cases hf),?_⟩;gi_wp2)
   refine⟨trivial,(CallsIn.inRound l' (callsIn_wide.2 HC2.out)).mono ?_⟩;rintro e V3 ⟨rfl,k3,hw3⟩;have q3:∀(b' o':Nat)(v:Value),b'≠gl->V1.cell? ⟨b',o',none⟩=some v->V3.cell? ⟨b',o',none⟩=some v:=fun b' o' v h1 h2=>(Xc (k3.block b' (World.block_lt_of_cell? V1 _ h2) (fun e=>h1 (by injection e)))).trans h2
   have zl3:=q3 _ _ _ oM zl2;have zy3:=q3 _ _ _ oM zy2;have zx3:=q3 _ _ _ (by have:=hS.lt;omega) zx2;have p03:=q3 _ _ _ oM p02;have p13:=q3 _ _ _ oM p12;have hzV3:=k3.size;have HK3:=Xa k3;have HWS3:Hid (WsAt V3 gl Kw C1 (delsN (addsN Wc (Xw p.ds)) (Xw p.ds))):=Xa hw3;have HIu3:Hid (Xf V3 w4.heap.size V3.heap.size p.ua p.us):=Xa (YF HIu2.out k3 oM);clear k3 hw3 q3 HC2 zl2 zy2 zx2 p02 p12;have HC4:=Xa (Zw gl Kw C1 p.us.length p.uc (delsN (addsN Wc (Xw p.ds)) (Xw p.ds)) p.ua (Xw p.us) w4.heap.size V3.heap.size V3 (Xa (by rw[HNu.out];exact HIu3.out)) (Xa (by simp[Xw])) hlu HLu oM (Xa (J2 _ HWd1.out)) HWS3 (Nat.le_refl _) oM)
   gi_wp2
   refine⟨trivial,(CallsIn.inRound l' (callsIn_wide.2 HC4.out)).mono ?_⟩;rintro e V4 ⟨rfl,k4,hw4'⟩;have q4:∀(b' o':Nat)(v:Value),b'≠gl->V3.cell? ⟨b',o',none⟩=some v->V4.cell? ⟨b',o',none⟩=some v:=fun b' o' v h1 h2=>(Xc (k4.block b' (World.block_lt_of_cell? V3 _ h2) (fun e=>h1 (by injection e)))).trans h2
   have zl4:=q4 _ _ _ oM zl3;have zy4:=q4 _ _ _ oM zy3;have zx4:=q4 _ _ _ (by have:=hS.lt;omega) zx3;have hzV4:=k4.size;have HK4:=Xa k4;have HWS4:=Xa hw4';clear k4 hw4' q4 HC4 zl3 zy3 zx3 p03 p13
   gi_wp2
   have hkk:∀{A A':World},A.grownBy A' (some gl)->n₀<=A.heap.size->Zi n₀ (fun q=>Ms q\/q=gl) A A':=fun h h1=>Zz h (Or.inr rfl) h1
   have hko:∀{A A':World},A.grownBy A' (some gl)->(∃o:Obj,A.heap[gl]?=some o/\o.isCells=true)->KeepsFrom w4.heap.size A A':=fun h h1=>(ZG h h1).from _
   have HJ4:J gl ss V4:=HJZ.out gl _ V3 V4 oM (HJZ.out gl _ V1 V3 oM HJ1.out HK3.out) HK4.out;refine⟨((hko HK1.out HWS.obj).trans (hko HK3.out HWS1.obj)).trans (hko HK4.out HWS3.obj),((hkk HK1.out oM).trans (hkk HK3.out oM)).trans (hkk HK4.out oM),⟨⟨⟨_,?_,HJ4⟩,zy4,zl4,?_,zx4,oM⟩,HLTn.out⟩⟩
   ·rw[List.map_append,HSS.out]
    show _=Uh x.instrs.length W0 (pre.map Pl.dat++[p.dat]);rw[JQ,<-HWC.out];unfold sdE;rw[if_neg (show ¬p.dat.1<=x.instrs.length from hle),List.append_nil]
   ·rw[List.map_append,List.foldl_append,<-HWC.out]
    exact HWS4.out
 case done =>
  rintro D _ xs U hD _ hS' ⟨hI,_⟩ hKD;have HII:=Xa hI;have HKD:=Xa hKD;have HS':=Xa hS';clear hI hKD hS'
  gi_wp2
  obtain⟨ss,hss,hJs⟩:=HII.js;refine YK HKD.out ⟨.tuple #[],results_none rfl _ _ _,⟨_,rfl⟩,.inl ⟨gl,ss,oM,by rw[hss,HS'.out],(HJ.out gl).putObj _ hJs oM HKD.out rfl⟩⟩
 case stop =>
  rintro D c pre U hD hSp ⟨rfl,ss,s1,s2⟩ hKD;have HS1:=Xa s1;have HS2':=Xa s2;have HKD:=Xa hKD;have HSp:=Xa hSp;clear s1 s2 hKD hSp
  gi_wp2
  exact YK HKD.out ⟨.tuple #[],results_none rfl _ _ _,⟨_,rfl⟩,.inr ⟨ss,by rw[HS1.out];exact Zd4 _ _ HSp.out,HJX.putObj _ HS2'.out oM HKD.out rfl⟩⟩
end Go.Proofs.YtlmgmkmomaileaaGreatDoor
namespace Go.Proofs.YtlmgmkmomaileaaGreatDoor
open Go.RowKit Go.Shelf
attribute [local go_sem] Oper.semAt_some
theorem FlR.lou{V:Nat}{w w':World}{n Kw:Nat}{xs:List Xh}{Gi Go:Nat}{gi go ci:Nat->Nat}{WI WX:Nat->Nat->Nat}(h:FlR w w' n Kw xs Gi Go gi go ci WI WX)(ho:Jd V xs)(hx:n=xs.length):∀b,b<n->∀x,x<64*Kw->(Xg (WX b) x=true↔Lou xs x b):=fun b hb x hx'=>by
 obtain⟨I,T,W0,ord,q1,q2,q3,q4,q5,q6⟩:=h.inn;have hLI:∀b,b<n->∀x,x<64*Kw->(Xg (WI b) x=true↔Lin xs x b):=fun b hb x hx'=>(q5 b hb x hx').trans (Zkg ho q1 q2 q3 (ord:=(·∈ord)) q4 oM)
 have hbx:b<xs.length:=oM;rw[q6 b hb x,q3 b hbx,<-JH ho hbx];constructor
 ·rintro(h | ⟨t,ht,h⟩)
  ·exact Or.inl h
  ·exact Or.inr ⟨t,ht,(hLI t (by have:=ho.okf.tg _ hbx _ ht;omega) x hx').1 h⟩
 ·rintro(h | ⟨t,ht,h⟩)
  ·exact Or.inl h
  ·exact Or.inr ⟨t,ht,(hLI t (by have:=ho.okf.tg _ hbx _ ht;omega) x hx').2 h⟩
end Go.Proofs.YtlmgmkmomaileaaGreatDoor
namespace Go.Proofs.YtlmgmkmomaileaaGreatDoor
set_option maxHeartbeats 4000000
set_option maxRecDepth 100000
open Go.RowKit Go.Shelf
attribute [local go_sem] Oper.semAt_some
structure CoI(w6:World)(gT Kr:Nat)(R:Nat->Prop)(U:World):Prop where
 os:U.os=w6.os
 tape:U.tape=w6.tape
 output:U.output=w6.output
 size:w6.heap.size<=U.heap.size
 gl:gT<w6.heap.size
 fr:∀q,q<w6.heap.size->q≠gT->U.heap[q]?=w6.heap[q]?
 st:∃T:Nat->Nat,WsAt U gT Kr Kr T/\XA T/\∀c,c<64*Kr->(Xg T c=true↔R c)
section
variable {w6 U U' : World} {gT Kr : Nat} {R R' : Nat -> Prop}
theorem CoI.far(h:CoI w6 gT Kr R U)(k:Below w6.heap.size U U'):CoI w6 gT Kr R U':=by
 obtain⟨T,h1,h2⟩:=h.st;exact⟨k.os.trans h.os,k.tape.trans h.tape,k.output.trans h.output,Nat.le_trans h.size k.size,h.gl,fun q q1 q2=>(k.block q q1).trans (h.fr q q1 q2),T,h1.of_block (k.block _ h.gl),h2⟩
theorem CoI.congr(h:CoI w6 gT Kr R U)(e:∀c,c<64*Kr->(R c↔R' c)):CoI w6 gT Kr R' U:=by
 obtain⟨T,h1,h2,h3⟩:=h.st;exact⟨h.os,h.tape,h.output,h.size,h.gl,h.fr,T,h1,h2,fun c hc=>(h3 c hc).trans (e c hc)⟩
theorem CoI.own(w6:World)(gT Kr:Nat){α:Type}(R:α->Nat->Prop):OwnFrom w6.heap.size (fun s U=>CoI w6 gT Kr (R s) U):=fun s A U row h k q=>by
 have:=h.size;exact h.far ⟨k.os,k.tape,k.output,k.size,fun b hb=>k.block b oM (fun e=>by have:=(q b e.symm).1;omega)⟩
theorem CoI.cell(h:CoI w6 gT Kr R U){b o:Nat}{v:Value}(hb:b≠gT)(hc:w6.cell? ⟨b,o,none⟩=some v):U.cell? ⟨b,o,none⟩=some v:=(Xc (h.fr b (World.block_lt_of_cell? w6 _ hc) hb)).trans hc
theorem CoI.turn(h:CoI w6 gT Kr R U){X:Nat->Nat}(k:U.grownBy U' (some gT))(hX:WsAt U' gT Kr Kr X)(hd:XA X)(hR:∀c,c<64*Kr->(Xg X c=true↔R' c)):CoI w6 gT Kr R' U':=by
 have hs:=h.size;exact⟨k.os.trans h.os,k.tape.trans h.tape,k.output.trans h.output,Nat.le_trans h.size k.size,h.gl,fun q q1 q2=>(k.block q oM (fun e=>q2 (by injection e))).trans (h.fr q q1 q2),X,hX,hd,hR⟩
end
def ZdB(cs:List Int)(l:List Nat)(c:Nat):Prop:=∃v∈l,cs[v]?=some (c:Int)
theorem ZbN(z Kw C:Nat)(W:Nat->Nat)(a:Option Addr)(nc cc room Kr:Nat)(cs:List Int)(L B:Nat)(w:World)(hz:Hid (WsAt w z Kw C W))(hwd:Hid (XA W))(ha:Hid (Xf w L B a cs))(hx:Hid (nc=cs.length))(hB:B<=w.heap.size)(hT:Hid (K5 w))(hK:Kw<=100)(hlt:Hid (LtV nc Kw W))(hr:room<=2000)(hkr:Hid (Kr=(room+63) / 64))(hc:Hid (∀c∈cs,c=-1\/0<=c/\c<room)) :
 Calls Tryz.prog 39 #[.agg #[.slice (some ⟨z,0,none⟩) Kw C],.slice a nc cc,.int .i64 (room:Int)] w fun e w'=>∃g T,e=.returned (.agg #[.slice (some ⟨g,0,none⟩) Kr Kr])/\w.heap.size<=g/\Below w.heap.size w w'/\WsAt w' g Kr Kr T/\XA T/\∀c,c<64*Kr->(Xg T c=true↔ZdB cs (JD W (64*Kw)) c):=by
 have HN:=Xa (fun W=>WC room W oM);simp only[<-hkr.out]at HN;have hKr:Kr<=100:=by have:=hkr.out;omega
 have hrK:room<=64*Kr:=by have:=hkr.out;omega
 refine(callsIn_wide (n:=8)).1 ?_;refine callsIn_of_wp_marks Tryz.func39 rfl trivial ?_ rfl;simp only[Tryz.ntmps39,List.size_toArray,List.length_cons,List.length_nil,Nat.reduceAdd,Nat.reduceSub,Array.replicate_succ,Array.replicate_zero,List.push_toArray,List.append_toArray,List.nil_append,List.cons_append]
 gi_wp2
 have hzl:=hz.lt;have HB0:Hid (Below w.heap.size w (((w.alloc (.cells #[.slice (some ⟨z,0,none⟩) Kw C] 93)).alloc (.cells #[.slice a nc cc] 25)).alloc (.cells #[.slice none 0 0] 94))):=Xa (Xb (Xb (Xb (Below.refl _ _) _) _) _);have hs0:w.heap.size+3<=(((w.alloc (.cells #[.slice (some ⟨z,0,none⟩) Kw C] 93)).alloc (.cells #[.slice a nc cc] 25)).alloc (.cells #[.slice none 0 0] 94)).heap.size:=sP;have c3:(((w.alloc (.cells #[.slice (some ⟨z,0,none⟩) Kw C] 93)).alloc (.cells #[.slice a nc cc] 25)).alloc (.cells #[.slice none 0 0] 94)).cell? ⟨w.heap.size,0,none⟩=some (.slice (some ⟨z,0,none⟩) Kw C):=by simp[go_sem]
 have c4:(((w.alloc (.cells #[.slice (some ⟨z,0,none⟩) Kw C] 93)).alloc (.cells #[.slice a nc cc] 25)).alloc (.cells #[.slice none 0 0] 94)).cell? ⟨w.heap.size+1,0,none⟩=some (.slice a nc cc):=by simp[go_sem]
 have HR6:Hid ((((w.alloc (.cells #[.slice (some ⟨z,0,none⟩) Kw C] 93)).alloc (.cells #[.slice a nc cc] 25)).alloc (.cells #[.slice none 0 0] 94)).rowIs (w.heap.size+2) 94 1 (fun _=>.slice none 0 0)):=Xa (by
  have h:=World.rowIs_alloc ((w.alloc (.cells #[.slice (some ⟨z,0,none⟩) Kw C] 93)).alloc (.cells #[.slice a nc cc] 25)) #[.slice none 0 0] 94 (fun _=>.slice none 0 0) (fun i hi=>by match i,hi with | 0,_=>rfl)
  rw[World.size_alloc,World.size_alloc]at h;exact h)
 generalize ((w.alloc (.cells #[.slice (some ⟨z,0,none⟩) Kw C] 93)).alloc (.cells #[.slice a nc cc] 25)).alloc (.cells #[.slice none 0 0] 94)=w0 at *;refine⟨trivial,(callsIn_wide.2 (HN.out w0)).mono ?_⟩;rintro e w1 ⟨gT,rfl,hgT,hb1,hr1⟩;have hs1:=hb1.size;have d3:=(Xu hb1 oM).trans c3;have d4:=(Xu hb1 oM).trans c4;have HB1:=Xa (Xd HB0.out hb1);have HR61:=Xa (HR6.of_block (hb1.block _ oM));have HT1:=Xa hr1;have hgl1:=hr1.lt;have e3:∀ob,(w1.alloc ob).cell? ⟨w.heap.size,0,none⟩=some (.slice (some ⟨z,0,none⟩) Kw C):=fun ob=>(World.cell?_alloc_lt w1 ob ⟨w.heap.size,0,none⟩ (by show w.heap.size<_;omega)).trans d3
 clear hb1 hr1 c3 c4 HN HR6 HB0
 gi_wp2
 have hbA:Below w1.heap.size w1 (w1.alloc (.cells #[.slice (some ⟨gT,0,none⟩) Kr Kr] 94)):=Xb (Below.refl _ _) _;have hsA:w1.heap.size+1<=(w1.alloc (.cells #[.slice (some ⟨gT,0,none⟩) Kr Kr] 94)).heap.size:=sP;have c7:(w1.alloc (.cells #[.slice (some ⟨gT,0,none⟩) Kr Kr] 94)).cell? ⟨w1.heap.size,0,none⟩=some (.slice (some ⟨gT,0,none⟩) Kr Kr):=by simp[go_sem]
 generalize w1.alloc (.cells #[.slice (some ⟨gT,0,none⟩) Kr Kr] 94)=w2 at *;clear e3;refine⟨trivial,(Zkq 7 (some ⟨z,0,none⟩) Kw C w2).mono ?_⟩;rintro e w3 ⟨rfl,hw3⟩;have hb3:Below w2.heap.size w2 w3:=by rw[hw3];exact Xb (Below.refl _ _) _
 have hs3:w2.heap.size+1<=w3.heap.size:=by rw[hw3,World.size_alloc];exact Nat.le_refl _
 have cs3:w3.cell? ⟨w2.heap.size,0,none⟩=some (.slice (some ⟨z,0,none⟩) Kw C):=by rw[hw3];simp[go_sem]
 have HW13:Hid (Below w1.heap.size w1 w3):=Xa (Xd hbA hb3);have HW3:Hid (Below w.heap.size w w3):=Xa (Xd HB1.out HW13.out);have f4:=(Xu HW13.out oM).trans d4;have f7:=(Xu hb3 oM).trans c7;have HR63:=Xa (HR61.of_block (HW13.block _ oM));have HT3:=Xa (HT1.of_block (HW13.block _ oM));have hgt:(2 : Nat)<w.heap.size:=World.block_lt_of_cell? w _ (hT.out 0 dC);have HZ3:Hid (WsAt w3 z Kw C W):=Xa (hz.of_block (HW3.block z hzl));have HTz3:Hid (K5 w3):=Xa (hT.of_block (HW3.block _ hgt));have HF4:=Xa f4;have HF7:=Xa f7;have HCS3:=Xa cs3;clear hbA hb3 hw3 c7 d3 d4 f4 f7 cs3 HB1 HR61 HT1
 gi_wp2
 have HI3:Hid (CoI w3 gT Kr (ZdB cs []) w3):=Xa ⟨rfl,rfl,rfl,Nat.le_refl _,by have:=HW13.size;omega,fun _ _ _=>rfl,fun _=>0,⟨Nat.le_refl _,fun _=>.slice none 0 0,HT3.congr (fun i hi=>by rw[if_pos hi])⟩,ZiD,fun c _=>⟨fun h=>by simp[Xg]at h,fun h=>by obtain⟨v,h1,_⟩:=h;simp at h1⟩⟩;have hz13:=HW13.size;refine Zhh (F:=Fence.wide) (n:=8) rfl dC (gf:=116) (lb:=#[.pointer (some ⟨w2.heap.size,0,none⟩)]) rfl trivial (enters_of Tryz.func116 vZ rfl) (Zh0 w2.heap.size z Kw C W (fun q=>q=gT) w3 HCS3.out HZ3 hwd HTz3 hK (Xa oM) (Xa oM)) (fun _ _ _ _ h _ _=>h) (fun h k=>h.trans k) (fun W l o o' h1 h2 h3=>Zi.putObj W l o o' h1 h2 h3) (Below.refl _ _) (fun _=>rfl)
  (fun pre U=>CoI w3 gT Kr (ZdB cs pre) U) (CoI.own w3 gT Kr (ZdB cs)) HI3.out
  (fun x a' U=>a'=⟨#[.agg #[.slice (some ⟨z,0,none⟩) Kw C],.slice a nc cc,.int .i64 (room:Int),.pointer (some ⟨w.heap.size,0,none⟩),.pointer (some ⟨w.heap.size+1,0,none⟩),undef,.pointer (some ⟨w.heap.size+1+1,0,none⟩),.pointer (some ⟨w1.heap.size,0,none⟩),.int .i64 (x:Int),.int .i64 (room:Int),.agg #[.slice (some ⟨gT,0,none⟩) Kr Kr],.agg #[.slice (some ⟨z,0,none⟩) Kw C],.func (.func 116) #[] #[.pointer (some ⟨w2.heap.size,0,none⟩)],.int .i64 (x:Int),undef,undef,undef,undef,undef,undef,undef,undef,undef,undef,undef,undef,undef],[]⟩) (fun _ _ _ _ _ _ h _ _=>h) ?assign ?body ?done
 case assign =>
  intro l pre x U K hI hP hKK;have HII:=Xa hI;have HKK:=Xa hKK;clear hI hKK
  gi_wp2
  exact HKK.out _ _ (KeepsOthers.refl _) (Zi.refl _) HII.out hP rfl
 case body =>
  rintro l pre x a' U hI hP rfl hlen;have HII:=Xa hI;have hx2:=V8.1 hP;have hxV:x<nc:=hlt.out x hx2.1 hx2.2;have hxl:x<cs.length:=by rw[<-hx.out];exact hxV
  obtain⟨b,o,rfl,hb,e0w⟩:=ha.out x hxl;have e0:U.cell? ⟨b,o+x,none⟩=some (.int .i64 cs[x]):=hI.cell oM ((Xu HW3.out oM).trans e0w);have e4:=hI.cell oM HF4.out;have e7:=hI.cell oM HF7.out;have hcx:=hc.out _ (List.getElem_mem hxl);have HG:Hid (cs[x]?=some cs[x]):=Xa (List.getElem?_eq_getElem hxl);have hsU:=hI.size;generalize cs[x]=y at *;have hxi:(x:Int)<(nc:Int):=oM;clear hI e0w hlen;by_cases hy:y=-1
  ·subst hy
   have hy1:((-1:Int) != -1)=false:=dC
   gi_wp2
   refine⟨KeepsOthers.refl _,Zi.refl _,HII.congr (fun c _=>?_)⟩;constructor
   ·rintro⟨v,h1,h2⟩;exact⟨v,List.mem_append_left _ h1,h2⟩
   ·rintro⟨v,h1,h2⟩
    rcases List.mem_append.1 h1 with h3 | h3
    ·exact⟨v,h3,h2⟩
    ·rw[List.mem_singleton.1 h3,HG.out]at h2
     injection h2 with h2;omega
  ·have hy1:(y != -1)=true:=by rw[bne_iff_ne];exact hy
   obtain⟨t,rfl⟩:=Int.eq_ofNat_of_zero_le (show 0<=y by omega);have htK:t<64*Kr:=oM;obtain⟨X,hX,hXd,hXR⟩:=HII.st;have HX:=Xa hX;have HXd:=Xa hXd;have HXR:=Xa hXR;have HAD:Hid (∀W1,Below U.heap.size U W1->U.heap.size+1<=W1.heap.size->W1.cell? ⟨U.heap.size,0,none⟩=some (.int .i64 (t:Int))->Calls Tryz.prog 75 #[.agg #[.slice (some ⟨gT,0,none⟩) Kr Kr],.slice (some ⟨U.heap.size,0,none⟩) 1 1] W1 fun e w'=>e=.returned (.tuple #[])/\W1.grownBy w' (some gT)/\WsAt w' gT Kr Kr (addsN X [t])):=Xa (fun W1 h1 h2 h3=>by
    refine Zc4 gT Kr Kr 1 1 X (some ⟨U.heap.size,0,none⟩) [t] U.heap.size (U.heap.size+1) W1 (Xa (fun i hi=>?_)) (Xa rfl) dC (Xa (fun z hz=>by rw[List.mem_singleton.1 hz];exact htK)) oM (Xa hXd) (Xa (hX.of_block (h1.block _ hX.lt))) h2 (by have:=HII.gl;omega);have hi0:i=0:=by simp at hi;exact hi
    subst hi0;exact⟨U.heap.size,0,rfl,⟨Nat.le_refl _,oM⟩,h3⟩)
   clear hX hXd hXR
   gi_wp2
   refine TI (fun w'=>w'.cell? ⟨w1.heap.size,0,none⟩=some (.slice (some ⟨gT,0,none⟩) Kr Kr)/\w'.cell? ⟨w.heap.size+1,0,none⟩=some (.slice (some ⟨b,o,none⟩) nc cc)/\w'.cell? ⟨b,o+x,none⟩=some (.int .i64 (t:Int))) (fun hHeld=>?_);refine Yh 0 ?_;refine Yh 1 ?_;refine Yh 2 ?_;refine Yh 3 ?_;refine Yh 4 ?_;refine Yx 5 (fun K hK=>?_);go_simp;have hbA:Below U.heap.size U (U.alloc (.cells #[.int .i64 (t:Int)] 97)).drew:=(Xb (Below.refl _ _) _).drew;have hzA:U.heap.size+1<=(U.alloc (.cells #[.int .i64 (t:Int)] 97)).drew.heap.size:=by simp[World.drew]
   have hcA:(U.alloc (.cells #[.int .i64 (t:Int)] 97)).drew.cell? ⟨U.heap.size,0,none⟩=some (.int .i64 (t:Int)):=by simp[go_sem]
   generalize (U.alloc (.cells #[.int .i64 (t:Int)] 97)).drew=W1 at *;have HBA:=Xa hbA;have g0:=(hbA.cell (p:=⟨b,o+x,none⟩) (World.block_lt_of_cell? U _ e0)).trans e0;have g4:=(hbA.cell (p:=⟨w.heap.size+1,0,none⟩) (World.block_lt_of_cell? U _ e4)).trans e4;have g7:=(hbA.cell (p:=⟨w1.heap.size,0,none⟩) (World.block_lt_of_cell? U _ e7)).trans e7;have HCA:=Xa (HAD.out W1 hbA hzA hcA);clear HAD hbA hcA e0 e4 e7;refine hK _ _ ⟨g7,g4,g0⟩ (fun hHeld=>?_);clear hK;refine Yx 6 (fun K hK=>?_);go_simp;refine⟨trivial,(CallsIn.inRound l (callsIn_wide.2 HCA.out)).mono ?_⟩;rintro e U3 ⟨rfl,k3,hw3⟩;have q3:∀(b' o':Nat)(v:Value),b'≠gT->W1.cell? ⟨b',o',none⟩=some v->U3.cell? ⟨b',o',none⟩=some v:=fun b' o' v h1 h2=>(Xc (k3.block b' (World.block_lt_of_cell? W1 _ h2) (fun e=>h1 (by injection e)))).trans h2
   have HK3:Hid (U.grownBy U3 (some gT)):=Xa ⟨k3.os.trans HBA.os,k3.tape.trans HBA.tape,k3.output.trans HBA.output,Nat.le_trans HBA.size k3.size,fun q q1 q2=>(k3.block q (Nat.lt_of_lt_of_le q1 HBA.size) q2).trans (HBA.block q q1)⟩;have HW3':=Xa hw3;refine hK _ _ ⟨q3 _ _ _ oM g7,q3 _ _ _ oM g4,q3 _ _ _ oM g0⟩ (fun hHeld=>?_);clear hK k3 hw3 q3 g0 g4 g7 HCA
   try simp only[Act.put,xA,xB,xC,xD,xE,xF]
   refine Jt ?_;clear hHeld
   gi_wp2
   refine⟨ZG HK3.out HX.obj,Zz HK3.out rfl hsU,HII.turn HK3.out HW3'.out (Zs [t] HXd.out) (fun c hc'=>?_)⟩;rw[Zl,Bool.or_eq_true,HXR.out c hc',decide_eq_true_eq,List.mem_singleton];constructor
   ·rintro(h | ⟨v,h1,h2⟩)
    ·exact⟨x,List.mem_append_right _ (List.mem_singleton.2 rfl),by rw[HG.out,h]⟩
    ·exact⟨v,List.mem_append_left _ h1,h2⟩
   ·rintro⟨v,h1,h2⟩
    rcases List.mem_append.1 h1 with h3 | h3
    ·exact Or.inr ⟨v,h3,h2⟩
    ·rw[List.mem_singleton.1 h3,HG.out]at h2
     injection h2 with h2;exact Or.inl (by have h4:(t:Int)=(c:Int):=h2;omega)
 case done =>
  rintro D xs U hD rfl hI hKD;have HII:=Xa hI;have HKD:=Xa hKD;have h7:=hI.cell oM HF7.out;have h6r:=HR63.of_block (hI.fr (w.heap.size+2) oM oM);have h6:=h6r.cell (i:=0) dC;have h6f:=h6r.frozen 0;have hzI:=hI.size;clear hI hKD;have hDl:D<U.heap.size:=(Array.getElem?_eq_some_iff.1 HKD.out).1
  gi_wp2
  have HKD2:Hid ((U.setCell ⟨w.heap.size+2,0,none⟩ (.slice (some ⟨gT,0,none⟩) Kr Kr)).heap[D]?=some (.deferred (some []))):=Xa ((Below.heap_setCell _ _ _ _ (by show D≠w.heap.size+2;omega)).trans HKD.out);have hres:((U.setCell ⟨w.heap.size+2,0,none⟩ (.slice (some ⟨gT,0,none⟩) Kr Kr)).putObj D (.deferred none)).cell? ⟨w.heap.size+2,0,none⟩=some (.slice (some ⟨gT,0,none⟩) Kr Kr):=by
   refine(World.cell?_of_block (a:=⟨w.heap.size+2,0,none⟩) (World.putObj_heap_other (show w.heap.size+2≠D by omega))).trans ?_;have:=(h6r.set 0 (.slice (some ⟨gT,0,none⟩) Kr Kr)).cell (i:=0) dC;simpa using this
  refine YK HKD2.out ⟨.agg #[.slice (some ⟨gT,0,none⟩) Kr Kr],by simp[results,Tryz.results39,go_sem,hres],?_⟩;have hg1:∀q,q≠w.heap.size+2->q≠D->((U.setCell ⟨w.heap.size+2,0,none⟩ (.slice (some ⟨gT,0,none⟩) Kr Kr)).putObj D (.deferred none)).heap[q]?=U.heap[q]?:=fun q q1 q2=>(World.putObj_heap_other q2).trans (Below.heap_setCell _ _ _ _ q1)
  obtain⟨X,hX,hXd,hXR⟩:=HII.st;have hgl:=HII.gl;refine⟨gT,X,rfl,oM,⟨HII.os.trans HW3.os,HII.tape.trans HW3.tape,HII.output.trans HW3.output,?_,fun q hq=>(hg1 q oM oM).trans ((HII.fr q oM oM).trans (HW3.block q hq))⟩,hX.of_block (hg1 gT oM oM),hXd,hXR⟩;have hsz:=HW3.size;have hpz:=(grownBy_putObj' (U.setCell ⟨w.heap.size+2,0,none⟩ (.slice (some ⟨gT,0,none⟩) Kr Kr)) D (.deferred none)).size;rw[Xe]at hpz;exact Nat.le_trans hsz (Nat.le_trans hzI hpz)
end Go.Proofs.YtlmgmkmomaileaaGreatDoor
