import Derived.Test.YthgikffcdgpgiaaGreatDoorW5b
namespace Go.Proofs.YthgikffcdgpgiaaGreatDoor
set_option maxHeartbeats 4000000
set_option maxRecDepth 100000
open Go.RowKit
theorem JD.start1{W1:World}{G:Nat}{u:Value}{l:List Int}(h:W1.ownsRow G 2 1 u l.length (l.map (Value.int .i64)))(hu:∀g,u.ownBlock=some g->g=G):JD W1 G W1 u l:=⟨rfl,rfl,rfl,Nat.le_refl _,fun _ _ _=>rfl,h,fun g e=>Or.inl (hu g e)⟩
theorem JD.low{w W1 wr:World}{G:Nat}{u:Value}{l:List Int}(h:JD W1 G wr u l)(k:Below G w W1)(hG:G<=W1.heap.size):Below G w wr :=
 ⟨h.os.trans k.os,h.tape.trans k.tape,h.output.trans k.output,Nat.le_trans k.size h.size,fun q hq=>(h.fr q oM oM).trans (k.block q hq)⟩
theorem ZdM{w:World}{base e s g n c m:Nat}{xs:List Value}(h:w.ownsRow base e s (.slice (some ⟨g,0,none⟩) n c) m xs):w.ownsRow g e s (.slice (some ⟨g,0,none⟩) n c) m xs:=by
 obtain⟨hl,h | ⟨g2,cap,cur,e1,hg,h3⟩⟩:=h
 ·exact absurd h.1 sP
 ·have e2:g=g2:=by
   injection e1 with e1;injection e1 with e1;injection e1
  subst e2;exact⟨hl,Or.inr ⟨g,cap,cur,e1,Nat.le_refl _,h3⟩⟩
theorem JD.rebase{W1 wr wx:World}{G g n c:Nat}{l:List Int}(h:JD W1 G wr (.slice (some ⟨g,0,none⟩) n c) l)(k:Below wr.heap.size wr wx):JD wx g wx (.slice (some ⟨g,0,none⟩) n c) l :=
 JD.start1 (ZdM (Yr h.own (fun q e=>k.block q (h.own.lt q e).2))) (fun q e=>by
  have e':g=q:=by simpa [Value.ownBlock]using e
  exact e'.symm)
theorem JD.join{W1 wr wx w2:World}{G g:Nat}{u u2:Value}{l l2:List Int}(h:JD W1 G wr u l)(k:Below wr.heap.size wr wx)(hg:u.ownBlock=some g)(h2:JD wx g w2 u2 l2):JD W1 G w2 u2 l2:=by
 have z1:=h.size;have z2:=k.size;have hgl:=h.own.lt g hg;refine⟨h2.os.trans (k.os.trans h.os),h2.tape.trans (k.tape.trans h.tape),h2.output.trans (k.output.trans h.output),by have:=h2.size;omega,fun q q1 q2=>(h2.fr q oM (fun e=>?_)).trans ((k.block q oM).trans (h.fr q q1 q2)),Je h2.own hgl.1,fun q e=>?_⟩
 ·rcases h.here g hg with e2 | e2
  ·exact q2 (e.trans e2)
  ·omega
 ·rcases h2.here q e with e2 | e2
  ·rw[e2];exact h.here g hg
  ·exact Or.inr oM
def SmT(a b:World):Prop:=a=b
def Zjo(w:World)(V:Nat)(xs:List Xi)(e:Ending)(w':World):Prop:=∃s:Bool,e=.returned (.bool s)/\(s=true↔∀v,v<V->¬Bad xs v)/\Below w.heap.size w w'
theorem Zco(V:Nat)(a:Option Addr)(n c:Nat)(xs:List Xi)(L B:Nat)(w:World)(ha:Hid (Xl w L B a xs))(hx:Hid (n=xs.length))(hB:B<=w.heap.size)(ho:Hid (ZZ V xs)) :
 Calls Tryz.prog 41 #[.agg #[.int .i64 (V:Int),.slice a n c]] w fun e w'=>Zjo w V xs e w':=by
 obtain⟨m0,hm0,hm1,hm2,hm3⟩:=X7 Tryz.info2';have hn:n<=1000:=by have:=hx.out;have:=ho.okf.n2;omega
 have hn0:0<n:=by have:=hx.out;have:=ho.okf.n1;omega
 have hV:=ho.vle;have hW0:Below w.heap.size w (w.alloc (.cells #[.int .i64 (V:Int),.slice a n c] 32)):=Xb (Below.refl _ _) _;have hf0:(w.alloc (.cells #[.int .i64 (V:Int),.slice a n c] 32)).cell? ⟨w.heap.size,0,none⟩=some (.int .i64 (V:Int)):=sP;have hz0:w.heap.size<(w.alloc (.cells #[.int .i64 (V:Int),.slice a n c] 32)).heap.size:=sP;have HLA:=Xa (Zb5 V a n c xs L B (w.alloc (.cells #[.int .i64 (V:Int),.slice a n c] 32)) (Xa (ha.keep (hW0.mono hB))) hx oM ho)
 go_enter Tryz.func41,Tryz.ntmps41
 go_wp2_with fail
 refine HLA.mono ?_;rintro e w1 ⟨af,cf,rfl,hb1,hF⟩;have HF1:=Xa hF.at_;have HB1:=Xa (Xe hW0 hb1);have g0:=(hb1.cell (p:=⟨w.heap.size,0,none⟩) hz0).trans hf0;have hz1:w.heap.size<w1.heap.size:=Nat.lt_of_lt_of_le hz0 hb1.size;have HG0:=Xa g0;clear hF hb1 hW0 hf0 hz0 HLA g0
 go_wp2_with fail
 go_loopw [4] (fun i wr=>∃v:Nat,v<=V/\i=.int .i64 v/\Hid (Below w1.heap.size w1 wr)/\Hid (∀v',v' < v->¬Bad xs v')) (fun i _=>V-(intOf i).toNat)
 case atStart=>exact⟨0,Nat.zero_le _,rfl,Xa (Below.refl _ _),Xa (fun v' h=>absurd h oM)⟩
 case round =>
  obtain⟨v,hv,rfl,HB,HNB⟩:=hrel;have k0:=(HB.cell (p:=⟨w.heap.size,0,none⟩) hz1).trans HG0.out;have hzr:=HB.size;by_cases hlt:v<V
  ·go_wp2_with fail
   have hbt:Below wr.heap.size wr (wr.alloc (.cells #[.int .i64 0] 2)):=Xb (Below.refl _ _) _;have HGT:Hid (JD (wr.alloc (.cells #[.int .i64 0] 2)) wr.heap.size (wr.alloc (.cells #[.int .i64 0] 2)) (.slice (some ⟨wr.heap.size,0,none⟩) 1 1) (Xh [0])):=Xa (JD.start1 (by
    have h:=World.ownsRow_lit (base:=wr.heap.size) (e:=2) (size:=1) wr #[.int .i64 0] 1 (Nat.le_refl _) (by unfold maxLen;omega) rfl;exact h) (fun g e=>by
    have e':wr.heap.size=g:=by simpa [Value.ownBlock]using e
    exact e'.symm))
   have HBT:=Xa hbt;have hzt:wr.heap.size<(wr.alloc (.cells #[.int .i64 0] 2)).heap.size:=sP;clear hbt k0;generalize wr.alloc (.cells #[.int .i64 0] 2)=wt at *;generalize wr=wo at *
   go_loopw [5,6] (fun u i wr=>∃(q:Nat)(F:List Nat),q<=F.length/\i=.int .i64 q/\Hid (StI xs v F q)/\Hid (JD wt wo.heap.size wr u (Xh F))) (fun _ i _=>n-(intOf i).toNat)
   case atStart=>exact⟨0,[0],sP,rfl,Xa ZdP,HGT⟩
   case round =>
    clear HGT;obtain⟨q,F,hq,rfl,HST,HGR⟩:=hrel;have HLF:Hid (∀x∈F,x<n):=Xa (by rw[hx.out];exact HST.lt ho.okf);have hFl:F.length<=n:=YB HST.nd HLF.out;obtain⟨aF,cF,eF,hiF⟩:=Xj HGR.own;have hnF:(Xh F).length=F.length:=by simp[Xh]
    obtain⟨gF,cF',eF',hgF,_⟩:=Xp HGR.own (by rw[hnF];exact List.length_pos_of_mem HST.z);rw[hnF]at eF eF';have eaF:aF=some ⟨gF,0,none⟩:=by
     rw[eF]at eF';injection eF'
    subst eaF;clear eF';subst eF;have HIF:=Xa hiF;have hgF1:wo.heap.size<=gF:=hgF.1;have hgF2:gF<wr.heap.size:=hgF.2;clear hgF;have HLOW:Hid (Below wo.heap.size wo wr):=Xa (HGR.low HBT.out oM);obtain⟨lF,hlF⟩:∃m,m=F.length:=⟨_,rfl⟩;rw[<-hlF]at hq hFl;rw[<-hlF];rw[<-hlF]at HGR;have HLL:=Xa hlF;clear hiF hnF hlF;by_cases hltq:q<lF
    ·have hqF:q<F.length:=by rw[<-HLL.out];exact hltq
     have hqN:q<(Xh F).length:=by simp[Xh];exact hqF
     obtain⟨bq,oq,eb,hbq,hcq⟩:=HIF.out q hqN;injection eb with eb;injection eb with eb1 eb2;subst eb1 eb2;rw[Nat.zero_add]at hcq;have eq:(Xh F)[q]=((F[q]:Nat):Int):=by simp[Xh]
     rw[eq]at hcq;have htn:F[q]<n:=HLF.out _ (List.getElem_mem hqF);have htx:F[q]<xs.length:=by have:=hx.out;omega
     have HB1R:Hid (Below w1.heap.size w1 wr):=Xa (HB.trans (HLOW.mono hzr));obtain⟨bf,of,us,rfl,hbf,hus',hfa⟩:=HF1.out F[q] htx;have hus:∀j',j' < 6->wr.cell? ⟨bf,of+F[q]*6+j',none⟩=some (us j'):=fun j' hj'=>(HB1R.cell (p:=⟨bf,of+F[q]*6+j',none⟩) hbf).trans (hus' j' hj')
     have HFA:=Xa (hfa.keep (fun b' h1 _=>HB1R.block b' h1) HB1R.size);clear hus';obtain⟨a0,c0,e0,i0⟩:=hfa.e0;obtain⟨a1,c1,e1,i1⟩:=hfa.e1;obtain⟨a2,c2,e2,_⟩:=hfa.e2;obtain⟨a3,c3,e3,_⟩:=hfa.e3;obtain⟨a4,c4,e4,_⟩:=hfa.e4;obtain⟨a5,c5,e5,_⟩:=hfa.e5;have u0:=hus 0 vZ;have u1:=hus 1 vZ;have u2:=hus 2 vZ;have u3:=hus 3 vZ;have u4:=hus 4 vZ;have u5:=hus 5 vZ;simp only[Nat.add_zero]at u0;rw[e0]at u0;rw[e1]at u1;rw[e2]at u2;rw[e3]at u3;rw[e4]at u4;rw[e5]at u5;have HE2:=Xa e2;have HE3:=Xa e3;have HE4:=Xa e4;have HE5:=Xa e5;have HI0:=Xa i0;have HI1:=Xa i1;have HLX:=Xa (ho.lens xs[F[q]] (List.getElem_mem htx));have HPB:Hid (Yt xs F[q] v=hasI (xs[F[q]].phis.map Ph.dst) (v:Int)):=Xa (by unfold Yt;rw[List.getElem?_eq_getElem htx]);have HBB:Hid (barB xs F[q] v=bareM xs[F[q]] (XB xs F[q]) (v:Int)):=Xa (by unfold barB;rw[List.getElem?_eq_getElem htx]);have HTG:Hid (xs[F[q]].term.targets=Xh (Xx xs F[q])):=Xa (by rw[Uk ho.okf htx,TI htx]);have HTLT:Hid (∀z∈Xx xs F[q],z<n):=Xa (by rw[hx.out];exact ho.okf.tg _ htx);have HEL:Hid ((XB xs F[q]).length<=8000000):=Xa (by
      unfold XB;rw[List.getElem?_eq_getElem htx];have h1:=Tc ho.out ((F[q]:Nat):Int) xs[F[q]].term.targets;have h2:=Jr xs[F[q]].term;simp only;omega)
     obtain⟨t,ht⟩:∃t,t=F[q]:=⟨_,rfl⟩;obtain⟨X,hX⟩:∃X,X=xs[F[q]]:=⟨_,rfl⟩;obtain⟨E,hE⟩:∃E,E=XB xs F[q]:=⟨_,rfl⟩;rw[<-hX,<-hE]at HFA HBB;rw[<-hX]at u0 u1 u3 u4 u5 HE3 HE4 HE5 HI0 HI1 HLX HPB HTG;rw[<-hE]at u2 HE2 HEL;rw[<-ht]at hcq htn u0 u1 u2 u3 u4 u5 HPB HBB HTG HTLT;have HTT:=Xa ht;clear hus hfa eq ht hX hE e0 e1 e2 e3 e4 e5 i0 i1;obtain⟨n0,hn0'⟩:∃m,m=X.term.targets.length:=⟨_,rfl⟩;obtain⟨n1,hn1'⟩:∃m,m=(X.phis.map Ph.dst).length:=⟨_,rfl⟩;rw[<-hn0']at u0;rw[<-hn1']at u1;have hn02:n0<=2:=by rw[hn0'];exact Jr _
     have hn14:n1<=4000:=by rw[hn1',List.length_map];exact HLX.2
     have HN0:=Xa hn0';have HN1:=Xa hn1';clear hn0' hn1';have HEL2:Hid (E.length<=8000000):=HEL;clear HEL;generalize hn2':E.length=n2 at u2 HE2;clear hn2';generalize hn3':(Zz X).length=n3 at u3 HE3;generalize hn4':(YN X).length=n4 at u4 HE4;generalize hn5':(rdT X.term).length=n5 at u5 HE5;clear hn3' hn4' hn5';have hbX:Below wr.heap.size wr (wr.alloc (.cells #[.slice a0 n0 c0,.slice a1 n1 c1,.slice a2 n2 c2,.slice a3 n3 c3,.slice a4 n4 c4,.slice a5 n5 c5] 102)):=Xb (Below.refl _ _) _;have hcX:∀q' v',#[Value.slice a0 n0 c0,.slice a1 n1 c1,.slice a2 n2 c2,.slice a3 n3 c3,.slice a4 n4 c4,.slice a5 n5 c5][q']?=some v'->(wr.alloc (.cells #[.slice a0 n0 c0,.slice a1 n1 c1,.slice a2 n2 c2,.slice a3 n3 c3,.slice a4 n4 c4,.slice a5 n5 c5] 102)).cell? ⟨wr.heap.size,q',none⟩=some v':=fun q' v' h=>by
      rw[World.cell?_alloc_new];exact h
     have hzX:wr.heap.size<(wr.alloc (.cells #[.slice a0 n0 c0,.slice a1 n1 c1,.slice a2 n2 c2,.slice a3 n3 c3,.slice a4 n4 c4,.slice a5 n5 c5] 102)).heap.size:=sP
     go_wp2_with fail
     clear u0 u1 u2 u3 u4 u5 hcq;generalize wr.alloc (.cells #[.slice a0 n0 c0,.slice a1 n1 c1,.slice a2 n2 c2,.slice a3 n3 c3,.slice a4 n4 c4,.slice a5 n5 c5] 102)=wx at *;have x0:wx.cell? ⟨wr.heap.size,0,none⟩=some (.slice a0 n0 c0):=hcX 0 _ rfl;have x1:wx.cell? ⟨wr.heap.size,1,none⟩=some (.slice a1 n1 c1):=hcX 1 _ rfl;have x2:wx.cell? ⟨wr.heap.size,2,none⟩=some (.slice a2 n2 c2):=hcX 2 _ rfl;have x3:wx.cell? ⟨wr.heap.size,3,none⟩=some (.slice a3 n3 c3):=hcX 3 _ rfl;have x4:wx.cell? ⟨wr.heap.size,4,none⟩=some (.slice a4 n4 c4):=hcX 4 _ rfl;have x5:wx.cell? ⟨wr.heap.size,5,none⟩=some (.slice a5 n5 c5):=hcX 5 _ rfl;have HBX:=Xa hbX;have HGX:=Xa (HGR.below hbX);have HI1X:Hid (Xg wx 0 w1.heap.size a1 (X.phis.map Ph.dst)):=Xa ((HI1.at_.keep HB1R.out).keep (hbX.mono oM));have HI0X:Hid (Xg wx 0 w1.heap.size a0 X.term.targets):=Xa ((HI0.at_.keep HB1R.out).keep (hbX.mono oM));have HFX:Hid (TQ wx (fun _=>True) us X E):=Xa (HFA.keep (fun b' h1 _=>hbX.block b' h1) hbX.size);have HHP:=Xa (XS a1 n1 c1 (v:Int) (X.phis.map Ph.dst) 0 w1.heap.size wx HI1X HN1 oM);have HBR:=Xa (Zbb X E us (v:Int) wx HFX (Xa HLX.1) HEL2 (.slice a0 n0 c0) (.slice a1 n1 c1) (.slice a2 n2 c2) (.slice a3 n3 c3) (.slice a4 n4 c4) (.slice a5 n5 c5) HE2.out HE3.out HE4.out HE5.out);clear hbX hcX;refine HHP.mono ?_;rintro e w3 ⟨rfl,hw3⟩;rw[hw3];clear hw3 HHP;cases hph:hasI (X.phis.map Ph.dst) (v:Int)with
     | true =>
      have HS2:Hid (StI xs v F (q+1)):=Xa (HST.go hqF (Or.inl (by rw[<-HTT.out,HPB.out];exact hph)));clear hph
      go_wp2_with fail
      refine⟨?_,by simp[intOf];omega⟩
      first
       | exact⟨q+1,F,oM,gM,HS2,HGX⟩
       | ((repeat apply Exists.intro);refine⟨?_,rfl⟩;exact⟨q+1,F,oM,gM,HS2,HGX⟩)
     | false =>
      have HPF:Hid (Yt xs t v=false):=Xa (by rw[HPB.out];exact hph);clear hph
      go_wp2_with fail
      refine HBR.mono ?_;rintro e w4 ⟨rfl,hb4⟩;have HB4:Hid (Below wr.heap.size wr w4):=Xa (Xe HBX.out hb4);have y0:=(hb4.cell (p:=⟨wr.heap.size,0,none⟩) hzX).trans x0;have HI04:Hid (Xg w4 0 w1.heap.size a0 X.term.targets):=Xa (HI0X.keep (hb4.mono oM));have hz4:=hb4.size;have hmt:=To (v:=(v:Int)) (fin:=hasI (rdT X.term) (v:Int)||hasI E (v:Int)) X.instrs;have hmt2:bareM X E (v:Int)<=2:=hmt;generalize hmm:bareM X E (v:Int)=mt at *;have HMT:Hid (barB xs t v=mt):=Xa HBB.out;clear hmm HBB hmt hb4 x0 x1 x2 x3 x4 x5 HBR HFX;have hcs:mt=0\/mt=1\/mt=2:=oM;rcases hcs with rfl | rfl | rfl
      ·have hxb:wr.heap.size≠gF:=oM
       have HG4:Hid (JD w4 gF w4 (.slice (some ⟨gF,0,none⟩) lF cF) (Xh F)):=Xa (HGR.rebase HB4.out);have HY0:=Xa y0;have HTE:Hid (F[q]?=some t):=Xa (by rw[List.getElem?_eq_getElem hqF,HTT.out]);have HWO:Hid (w1.heap.size<=gF):=Xa oM;have HNTg:Hid ((Xx xs t).length=n0):=Xa (by rw[HN0.out,HTG.out];simp[Xh]);have HOB:Hid ((Value.slice (some ⟨gF,0,none⟩) lF cF).ownBlock=some gF):=Xa rfl
       go_wp2_with fail
       clear y0;generalize wr=wp at *
       go_loopw [5,9] (fun u j wr=>∃(m:Nat)(F2:List Nat),m<=n0/\j=.int .i64 m/\Hid (StI xs v F2 q)/\Hid (F2[q]?=some t)/\Hid (∀r (h:r<(Xx xs t).length),r<m->(Xx xs t)[r]∈F2)/\Hid (JD w4 gF wr u (Xh F2))) (fun _ j _=>n0-(intOf j).toNat)
       case atStart=>exact⟨0,F,Nat.zero_le _,rfl,HST,HTE,Xa (fun r _ h=>absurd h oM),HG4⟩
       case round =>
        clear HG4;obtain⟨m,F2,hm,rfl,HS2,HTE2,HAL,HG2⟩:=hrel;have z0:=HG2.cell hxb HY0.out;have hqF2:q<F2.length:=(List.getElem?_eq_some_iff.1 HTE2.out).1;have HF2q:Hid (F2[q]=t):=Xa (List.getElem?_eq_some_iff.1 HTE2.out).2;by_cases hltm:m<n0
        ·have hmx:m<X.term.targets.length:=by rw[<-HN0.out];exact hltm
         have hmt':m<(Xx xs t).length:=by rw[HNTg.out];exact hltm
         obtain⟨bt,ot,rfl,⟨_,hbt⟩,hct⟩:=HI04.out m hmx;have ht1:X.term.targets[m]=(((Xx xs t)[m]:Nat):Int):=by simp only[HTG.out,Xh,List.getElem_map];rfl
         rw[ht1]at hct;have zt:=HG2.cell (by have:=HWO.out;omega) hct;obtain⟨aG,cG,eG,hiG⟩:=Xj HG2.own;have hnG:(Xh F2).length=F2.length:=by simp[Xh]
         have HLF2:Hid (F2.length<=1000):=Xa (Nat.le_trans (YB HS2.nd (fun z hz=>by have:=HS2.lt ho.okf z hz;have:=hx.out;show z<n;omega)) hn);obtain⟨tt,htt⟩:∃z,z=(Xx xs t)[m]:=⟨_,rfl⟩;rw[<-htt]at zt;have HTT2:=Xa htt;obtain⟨l2,hl2⟩:∃z,z=(Xh F2).length:=⟨_,rfl⟩;rw[<-hl2]at eG;subst eG;have hl2':l2<=1000:=by rw[hl2,hnG];exact HLF2.out
         have HHT:=Xa (XS aG l2 cG (tt:Int) (Xh F2) gF wr.heap.size wr (Xa hiG) (Xa hl2) oM);have HL2:=Xa hl2;clear hct ht1 hiG hnG htt hl2
         go_wp2_with fail
         refine HHT.mono ?_;rintro e w5 ⟨rfl,hw5⟩;rw[hw5];clear hw5 HHT;cases hh:hasI (Xh F2) (tt:Int)with
         | true =>
          have HM2:Hid (∀r (h:r<(Xx xs t).length),r<m+1->(Xx xs t)[r]∈F2):=Xa (fun r hr hrm=>by
           by_cases e:r=m
           ·subst e
            rw[<-HTT2.out];have h1:=Xy.1 hh;obtain⟨z,hz,e2⟩:=List.mem_map.1 h1;have:z=tt:=by have e3:(z:Int)=(tt:Int):=e2;omega
            rw[<-this];exact hz
           ·exact HAL.out r hr oM)
          clear hh
          go_wp2_with fail
          refine⟨?_,by simp[intOf];omega⟩
          first
           | exact⟨m+1,F2,oM,gM,HS2,HTE2,HM2,HG2⟩
           | ((repeat apply Exists.intro);refine⟨?_,rfl⟩;exact⟨m+1,F2,oM,gM,HS2,HTE2,HM2,HG2⟩)
         | false =>
          have HNI:Hid (tt ∉ F2):=Xa (fun h=>by
           have h1:hasI (Xh F2) (tt:Int)=true:=Xy.2 (List.mem_map.2 ⟨tt,h,rfl⟩);rw[hh]at h1;cases h1)
          have HS4:Hid (StI xs v (F2++[tt]) q):=Xa (HS2.push hqF2 (by rw[HF2q.out];exact HPF.out) (by rw[HF2q.out];exact HMT.out) (by rw[HF2q.out,HTT2.out];exact List.getElem_mem hmt') HNI.out);have HTE4:Hid ((F2++[tt])[q]?=some t):=Xa (by rw[List.getElem?_append_left hqF2];exact HTE2.out);have HM4:Hid (∀r (h:r<(Xx xs t).length),r<m+1->(Xx xs t)[r]∈F2++[tt]):=Xa (fun r hr hrm=>by
           by_cases e:r=m
           ·subst e
            rw[<-HTT2.out];simp
           ·exact List.mem_append_left _ (HAL.out r hr oM))
          clear hh
          go_wp2_with (at_builtin;refine wpList_append_own_at _ rfl _ _ 26 rfl gF 2 m0 (.int .i64 0) 1 8 Tryz.underlying26 hm0 hm1 hm2 hm3 rfl vZ _ _ _ rfl (HG2.own.alloc _) ⟨wr.heap.size,0,none⟩ 1 1 [.int .i64 (tt:Int)] rfl rfl ?c1 ?c2 ?c3 ?c4 ?c5 ?_)
          case c1 =>
           intro j' u' hj'
           match j',hj' with
           | 0,hj'=>simp at hj';subst hj';simp[Addr.add]
          case c2=>intro u' hu';simp at hu';subst hu';rfl
          case c3=>have:=HL2.out;unfold maxLen;omega
          case c4=>have:=HL2.out;omega
          case c5=>have:=HG2.size;simp;omega
          intro u9 w9 hown9 hg9 _ hat9;have HG5:=Xa ((HG2.alloc _).push (x:=(tt:Int)) hg9 hown9 (by rw[World.size_alloc];exact hat9));have HG6:Hid (JD w4 gF w9 u9 (Xh (F2++[tt]))):=Xa (by have h:=HG5.out;rw[show Xh F2++[(tt:Int)]=Xh (F2++[tt]) by simp[Xh]]at h;exact h);clear hown9 hg9 hat9 z0 zt
          go_wp2_with fail
          refine⟨?_,by simp[intOf];omega⟩
          first
           | exact⟨m+1,F2++[tt],oM,gM,HS4,HTE4,HM4,HG6⟩
           | ((repeat apply Exists.intro);refine⟨?_,rfl⟩;exact⟨m+1,F2++[tt],oM,gM,HS4,HTE4,HM4,HG6⟩)
        ·have HS3:Hid (StI xs v F2 (q+1)):=Xa (HS2.go hqF2 (Or.inr ⟨by rw[HF2q.out,HMT.out];decide,fun _ z hz=>by
          rw[HF2q.out]at hz;obtain⟨r,hr,rfl⟩:=List.getElem_of_mem hz;exact HAL.out r hr (by have:=HNTg.out;omega)⟩))
         have HJ:=Xa (HGR.join HB4.out HOB.out HG2.out)
         go_wp2_with fail
         refine⟨?_,by simp[intOf];omega⟩
         first
          | exact⟨q+1,F2,oM,gM,HS3,HJ⟩
          | ((repeat apply Exists.intro);refine⟨?_,rfl⟩;exact⟨q+1,F2,oM,gM,HS3,HJ⟩)
      ·have HBD:Hid (Bad xs v):=Xa (HST.hit hqF (by rw[<-HTT.out];exact HPF.out) (by rw[<-HTT.out];exact HMT.out))
       go_wp2_with fail
       go_ret
       exact⟨false,rfl,⟨fun h=>(by cases h),fun h=>absurd HBD.out (h v hlt)⟩,HB1.trans ((HB1R.trans (HB4.mono (by have:=HB1R.size;omega))).mono oM)⟩
      ·have HS3:Hid (StI xs v F (q+1)):=Xa (HST.go hqF (Or.inr ⟨by rw[<-HTT.out,HMT.out];decide,fun h=>by rw[<-HTT.out,HMT.out]at h;cases h⟩))
       have HG4:=Xa (HGR.below HB4.out)
       go_wp2_with fail
       generalize wr=wp at *
       go_loopw [5,9] (fun u j wr=>u=.slice (some ⟨gF,0,none⟩) lF cF/\j=.int .i64 0/\Hid (SmT wr w4)) (fun _ _ _=>0)
       case atStart=>exact⟨rfl,rfl,Xa rfl⟩
       case round =>
        obtain⟨rfl,rfl,HSW⟩:=hrel;have esw:wr=w4:=HSW.out;clear HSW;subst esw;by_cases h0:0<n0
        ·go_wp2_with fail
         refine⟨?_,by simp[intOf];omega⟩
         first
          | exact⟨q+1,F,oM,gM,HS3,HG4⟩
          | ((repeat apply Exists.intro);refine⟨?_,rfl⟩;exact⟨q+1,F,oM,gM,HS3,HG4⟩)
        ·go_wp2_with fail
         refine⟨?_,by simp[intOf];omega⟩
         first
          | exact⟨q+1,F,oM,gM,HS3,HG4⟩
          | ((repeat apply Exists.intro);refine⟨?_,rfl⟩;exact⟨q+1,F,oM,gM,HS3,HG4⟩)
    ·have HNV:Hid (∀v',v' < v+1->¬Bad xs v'):=Xa (fun v' hv'=>by
      by_cases e:v'=v
      ·subst e
       exact HST.none (by have:=HLL.out;omega)
      ·exact HNB.out v' oM)
     have HBW:Hid (Below w1.heap.size w1 wr):=Xa (HB.trans (HLOW.mono hzr))
     go_wp2_with fail
     refine⟨?_,by simp[intOf];omega⟩
     first
      | exact⟨v+1,oM,gM,HBW,HNV⟩
      | ((repeat apply Exists.intro);refine⟨?_,rfl⟩;exact⟨v+1,oM,gM,HBW,HNV⟩)
  ·have HS:Hid (∀v',v' < V->¬Bad xs v'):=Xa (fun v' h=>HNB.out v' oM)
   go_wp2_with fail
   go_ret
   exact⟨true,rfl,⟨fun _=>HS.out,fun _=>rfl⟩,HB1.trans (HB.mono oM)⟩
theorem KZ(v:Int)(a:Option Addr)(n c:Nat)(xs:List Xi)(L B:Nat)(w:World)(ha:Hid (Xl w L B a xs))(hx:Hid (n=xs.length))(hs:Hid (xs.length+Xk xs<=1048576))(hB:B<=w.heap.size) :
 Calls Tryz.prog 19 #[.agg #[.int .i64 v,.slice a n c]] w fun e w'=>e=.returned (.int .i64 (verdP v xs))/\Below w.heap.size w w':=by
 have HVF:=Xa (fun W (hb:Below w.heap.size w W)=>JQ v a n c xs L B W (Xa (ha.keep (hb.mono hB))) hx hs (by have:=hb.size;omega));have HVS:=Xa (UA ⟨v,xs⟩);rw[<-HVS.out]at HVF;have hW0:Below w.heap.size w (w.alloc (.cells #[.int .i64 v,.slice a n c] 32)):=Xb (Below.refl _ _) _;have hf0:(w.alloc (.cells #[.int .i64 v,.slice a n c] 32)).cell? ⟨w.heap.size,0,none⟩=some (.int .i64 v):=sP;have hf1:(w.alloc (.cells #[.int .i64 v,.slice a n c] 32)).cell? ⟨w.heap.size,1,none⟩=some (.slice a n c):=sP;have hz0:w.heap.size<(w.alloc (.cells #[.int .i64 v,.slice a n c] 32)).heap.size:=sP;cases hv:XQ ⟨v,xs⟩with
 | false =>
  rw[hv]at HVF;rw[Wf hv];clear hv
  go_enter Tryz.func19,Tryz.ntmps19
  go_wp2_with fail
  refine(HVF.out _ hW0).mono ?_;rintro e w1 ⟨rfl,hb1⟩;have HB1:=Xa (Xe hW0 hb1);clear hb1 HVF hW0 hf0 hf1 hz0
  go_wp2_with fail
  go_ret
  exact⟨rfl,HB1.out⟩
 | true =>
  rw[hv]at HVF;have HV:=Xa hv;have hv0:0<=v:=by
   simp only[XQ,Yb,Bool.and_eq_true,decide_eq_true_eq]at hv;omega
  obtain⟨V,rfl⟩:=Int.eq_ofNat_of_zero_le hv0;have HOK:Hid (ZZ V xs):=Xa (Yy hv);have hn:n<=1000:=by have:=hx.out;have:=HOK.okf.n2;omega
  have hn0:0<n:=by have:=hx.out;have:=HOK.okf.n1;omega
  generalize hvr:verdP (V:Int) xs=vr;have HVR:=Xa hvr;clear hv hv0 hvr;have HRC:=Xa (fun W (hb:Below w.heap.size w W)=>T6 (V:Int) a n c (-1) xs L B W (Xa (ha.keep (hb.mono hB))) hx oM oM (by have:=hb.size;omega) (Xa (by rw[hx.out];exact HOK.okf.tgt)));have HSR:=Xa (fun W (hb:Below w.heap.size w W)=>Zco V a n c xs L B W (Xa (ha.keep (hb.mono hB))) hx (by have:=hb.size;omega) HOK)
  go_enter Tryz.func19,Tryz.ntmps19
  go_wp2_with fail
  refine(HVF.out _ hW0).mono ?_;rintro e w1 ⟨rfl,hb1⟩;have HB1:=Xa (Xe hW0 hb1);have g0:=(hb1.cell (p:=⟨w.heap.size,0,none⟩) hz0).trans hf0;have g1:=(hb1.cell (p:=⟨w.heap.size,1,none⟩) hz0).trans hf1;have hz1:w.heap.size<w1.heap.size:=Nat.lt_of_lt_of_le hz0 hb1.size;clear hb1 hW0 hf0 hf1 hz0 HVF
  go_wp2_with fail
  refine ZB (fun w'=>w'.cell? ⟨w.heap.size,0,none⟩=some (.int .i64 (V:Int))/\w'.cell? ⟨w.heap.size,1,none⟩=some (.slice a n c)) (fun hHeld=>?_);refine XE 0 ?_;refine XE 3 ?_;refine XE 4 ?_;refine XE 5 ?_;refine Xz 1 (fun K hK=>?_);go_simp;refine(HRC.out w1.drew HB1.drew).mono ?_;rintro e w2 ⟨v2,F,rfl,hb2',ho2,hnd2,hm2⟩;have hb2:Below w1.heap.size w1 w2:=⟨hb2'.os,hb2'.tape,hb2'.output,hb2'.size,hb2'.block⟩;rw[show Yo F=(Xh F).map (Value.int .i64) by simp[Yo,Xh]]at ho2;obtain⟨aF,cF,e2,_⟩:=Xj ho2;have hnF:(Xh F).length=F.length:=by simp[Xh]
  have HFU:=Xa (ZaU HOK.okf hnd2 (fun x=>(hm2 x).trans (WW vZ)));rw[hnF]at e2;subst e2;obtain⟨lF,hlF⟩:∃m,m=F.length:=⟨_,rfl⟩;rw[<-hlF];have HAR:Hid (lF=n↔ZI xs):=Xa (by rw[hlF,hx.out];exact HFU.2);have hl1:lF<=n:=by rw[hlF,hx.out];exact HFU.1
  have HB2:=Xa (Xe HB1.out hb2);have k0:=(hb2.cell (p:=⟨w.heap.size,0,none⟩) hz1).trans g0;have k1:=(hb2.cell (p:=⟨w.heap.size,1,none⟩) hz1).trans g1;clear hb2 hb2' ho2 hnd2 hm2 hnF hlF HFU g0 g1;refine hK _ _ ⟨k0,k1⟩ (fun hHeld=>?_);clear hK;refine XE 2 ?_;by_cases hle:lF=n
  ·have HAL:Hid (ZI xs):=Xa (HAR.1 hle)
   have hne:((lF:Int) != (n:Int))=false:=by simp[hle]
   clear hle;refine XE 6 ?_;refine Zu ?_;clear hHeld
   go_wp2_with fail
   refine(HSR.out w2 HB2.out).mono ?_;rintro e w3 ⟨s,rfl,hsi,hb3⟩;have HB3:=Xa (Xe HB2.out hb3);have HSI:=Xa hsi;clear hsi hb3;cases s with
   | true =>
    have HR:Hid (vr=0):=Xa (by rw[<-HVR.out];exact Za1 HV.out HAL.out (fun h=>by
     obtain⟨x,h1⟩:=h;exact HSI.1 rfl x (ZfH HOK.out h1) h1))
    go_wp2_with fail
    go_ret
    exact⟨by rw[HR.out];rfl,HB3.out⟩
   | false =>
    have HR:Hid (vr=11):=Xa (by rw[<-HVR.out];exact ZaH HV.out HAL.out (Classical.byContradiction fun h=>by
     have:=HSI.2 (fun x _ h1=>h ⟨x,h1⟩);cases this))
    go_wp2_with fail
    go_ret
    exact⟨by rw[HR.out];rfl,HB3.out⟩
  ·have HR:Hid (vr=10):=Xa (by rw[<-HVR.out];exact ZaQ HV.out (fun h=>hle (HAR.2 h)))
   have hne:((lF:Int) != (n:Int))=true:=by simp;omega
   clear hle;refine XE 6 ?_;refine Zu ?_;clear hHeld
   go_wp2_with fail
   go_ret
   exact⟨by rw[HR.out];rfl,HB2.out⟩
end Go.Proofs.YthgikffcdgpgiaaGreatDoor
