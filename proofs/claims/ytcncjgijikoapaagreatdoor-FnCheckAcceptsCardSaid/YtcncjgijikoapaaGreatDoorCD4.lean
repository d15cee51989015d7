import Derived.Test.YtcncjgijikoapaaGreatDoorCS2
namespace Go.Proofs.YtcncjgijikoapaaGreatDoor
set_option maxHeartbeats 8000000
set_option maxRecDepth 100000
open _root_ renaming Array.size->Z,List.length->J,Nat->N,Int->I,rfl->R,Option.some->S,Option.none->U,Bool.true->So,Bool.false->Sn,Decidable.decide->Jd,absurd->Sz
open Go renaming World.cell?->E,World.alloc->D,World.setCell->Se,IntKind.i64->S6,Obj.cells->Sc,Ending.returned->Rt,Calls->Sk,RowKit.intOf->JB,RowKit.Below->Sw,World.ownsRow->Sx
open Value renaming slice->X,int->Si,agg->Sa,tuple->St,pointer->Sj
open Go.RowKit Go.Proofs.Tryz
variable{t T z:I}{n m k B g i j c:N}{w v u:Ub}{a:Uj}{p P:Uy}{h:Vu}{l L:Wc}{x:Wi}{E_:Zh}
section
open Go.Maps
theorem Xr(C:je)(a:N->ju j9)(d:CC){b n m kt:N}{xi cp:List Yg}{ta kh tl ua ut ul:I}{pa ia ja:Option Addr}{pn pc ic jc:N}{w:World}(hG:Q (kW C))(hT:Q (jg C w a d))(hb:b<C.n)(hbm:b<C.mn)(hS:Q (a b=Ri))(hP:Q (G5 C b xi cp ⟨kt,ta,kh,tl⟩ ⟨kt,ua,ut,ul⟩))(hn:Q (n=J xi))(hm:Q (m=J xi+J cp))(hI:Q (YY C.w 0 C.3 ia xi))(hJ:Q (YY C.w 0 C.3 ja (xi.map (ZR C.cs)++cp)))(hic:n<=ic)(hO:Q (∀W,C.fr W->Yy W/\Yb W)) :
 Sk prog 60 #[Sj (S ⟨C.4,0,U⟩),Si S6 b,Sa #[X pa pn pc,X ia n ic,Si S6 kt,Si S6 ta,Si S6 kh,Si S6 tl],Sa #[X ja m jc,Si S6 kt,Si S6 ua,Si S6 ut,Si S6 ul]] w fun e w'=>e=Rt (St #[])/\∃X',jg C w' (Rr a b (SY C.cs C.xs C.M b)) X'/\i7 C d w X' w':=by
 go_in
 go_wp2;have hB0:=Xb (Xb (dC (Z w.1) w) (Sc #[X pa pn pc,X ia n ic,Si S6 kt,Si S6 ta,Si S6 kh,Si S6 tl] 52)) (Sc #[X ja m jc,Si S6 kt,Si S6 ua,Si S6 ut,Si S6 ul] 54);have HX0:=Y (Bx.new w #[X pa pn pc,X ia n ic,Si S6 kt,Si S6 ta,Si S6 kh,Si S6 tl] 52);have hx1:=Bx.new (D w (Sc #[X pa pn pc,X ia n ic,Si S6 kt,Si S6 ta,Si S6 kh,Si S6 tl] 52)) #[X ja m jc,Si S6 kt,Si S6 ua,Si S6 ut,Si S6 ul] 54;rw[aO]at hx1;have HX1:=Y hx1;have HX0:=Y (HX0.box (Sc #[X ja m jc,Si S6 kt,Si S6 ua,Si S6 ut,Si S6 ul] 54));have HT0:=Y (hT.calm hB0);have HF0:=Y (i7.below (K:=C) (X_:=d) hB0);have HN0:Q (¬d.own C (Z w.1)/\¬d.own C (Z w.1+1)):=Y ⟨fun h=>by have:=hT.lim h hG.o;omega,fun h=>by have:=hT.lim h hG.o;omega⟩;clear hB0 hx1 hT;generalize D (D w _) _=w0 at *;generalize Z w.1=q0 at *;have hmb:m<=24000:=oP hP.9 hm.o
 go_loopw [8,18] (fun u i wr=>∃(j:N)(c:CC)(la:Option Addr)(ln lc:N),j<=m/\i=Si S6 j/\u=X la ln lc/\Q (ln=n-j)/\ln<=lc/\Q (YY C.w 0 C.3 la (xi.drop j))/\Q (jg C wr (Rr a b (nN C.cs xi cp j)) c)/\Q (i7 C d w0 c wr)) (fun _ i _=>m-(JB i).toNat)
 case atStart=>exact⟨0,d,ia,n,ic,aN,R,R,Y R,hic,hI,Y (by rw[Fm (by rw[zv aN];exact hS.o)];exact HT0.o),Y i7.refl⟩
 case round =>
  obtain⟨j,c,la,ln,lc,hj,rfl,rfl,HLN,hlc,HLI,HT,HF⟩:=hrel;by_cases hlt:j<m
  ·have hjy:j<J (xi.map (ZR C.cs)++cp):=by rw[aQ,bK,<-hm.o];exact hlt
   obtain⟨gj,oj,hja,⟨_,hgB⟩,hIn⟩:=hJ.o j hjy;have hold:∀g,g<C.3->C.old g:=fun g hg=>⟨oP hG.b0 hG.9,oN hG.b0,oN hG.b0,oN hG.b0⟩
   have hIn':=hIn.keepS (HT.1.2 gj (hold gj hgB));have HOLD:=Y hold;clear hold hIn;subst hja;by_cases hjn:j<n
   ·have hjx:j<J xi:=by rw[<-hn.o];exact hjn
    have hyj:(xi.map (ZR C.cs)++cp)[j]=ZR C.cs xi[j]:=by rw[fA (by simpa using hjx),cM]
    rw[hyj]at hIn';have hli:=HLI.o;rw[gZ hjx]at hli;obtain⟨g,o,hla,⟨_,hgB2⟩,hIx⟩:=hli 0 (Nat.succ_pos _);subst hla;have hIx':=hIx.keepS (HT.1.2 g (HOLD.o g hgB2));simp only[lC,fW,eM]at hIx';have hA:=hP.6 j hjx;have hW:=hP.8 _ (aH hjx);obtain⟨ho1,ho2⟩:=hP.1 _ (aH hjx);obtain⟨s',HE⟩:∃s',Q (s'=nN C.cs xi cp (j+1)):=⟨_,Y R⟩;have HK1:=Y (G HE (Mh (cs:=C.cs) (zs:=cp) hjx));have HLA:Q (YY C.w 0 C.3 (if lc=1 then S ⟨g,o,U⟩else S ⟨g,o+5,U⟩) (xi.drop (j+1))):=Y (by
     by_cases e:lc=1
     ·intro i hi
      rw[mF]at hi;have:=HLN.o;have:=hn.o;omega
     ·rw[aM e];exact Q1 hli)
    rw[<-zv (zs:=cp) (dU hjx)]at hA;have HRD:=Y (L6 (cs:=C.cs) xi[j]);have HWD:=Y (S0 (cs:=C.cs) xi[j]);have hop:(ZR C.cs xi[j]).1=xi[j].1:=R;clear hIx hli hyj HLI hjy;generalize nN C.cs xi cp j=s at *;generalize ZR C.cs xi[j]=y at *;generalize xi[j]=x at *;obtain⟨yo,yd,mh,yb,yi⟩:=y;obtain⟨xo,xd,xa,xb,xim⟩:=x;dsimp only at hop ho1 ho2;subst hop;obtain⟨k,rfl⟩:=bX (show 0<=yo by omega);have HA:=Y hA;have HWW:=Y hW;have HIX:=Y hIx';have HIN:=Y hIn';obtain⟨e0,e1,e2,e3,e4⟩:=hIn';clear hA hW hIx';have hlnb:0<ln:=oN HLN.o
    have hjI:(j:I)<(m:I):=O;dsimp only at e0 e1 e2 e3 e4
    go_wp2_with fail
    refine(zu ⟨(k:I),yd,mh,yb,yi⟩ _).mono ?_;rintro e w1 ⟨rfl,hb1⟩;have hB1:=Xb (dC (Z wr.1) wr) (Sc #[Si S6 (k:I),Si S6 yd,Si S6 mh,Si S6 yb,Si S6 yi] 64);have hx2:=(Bx.new wr #[Si S6 (k:I),Si S6 yd,Si S6 mh,Si S6 yb,Si S6 yi] 64).keep (hb1.5 _ sP);have hB2:=Xg hB1 hb1;have hdc:Jd ((11:I)<=(k:I))=Sn:=by simp;omega
    have HT1:=Y (HT.calm hB2);have HF1:=Y (HF.trans (i7.below hB2));have hnq:¬c.own C (Z wr.1):=fun h=>by have:=HT.lim h hG.o;omega
    have HI1:Q (Jk w1 (Z wr.1) 0 ⟨(k:I),yd,mh,yb,yi⟩):=Y ⟨Bx.c hx2 0,Bx.c hx2 1,Bx.c hx2 2,Bx.c hx2 3,Bx.c hx2 4⟩;have HX1:=Y (HIX.keepS (hB2.5 g (aI wr _ HIX.1)));have HNQ:=Y hnq;have hqw:=hx2.lt;clear hB1 hb1 hx2 hB2 hnq e0 e1 e2 e3 e4 HIX HIN HT HF;generalize Z wr.1=qb at *;have hk13:k<=13:=O;have hk1:1<=k:=O;dsimp only
    go_wp2_with fail
    refine(IZ HX1 hk1 hk13 (Y (hO.o _ HT1.1).1)).mono ?_;rintro e w2 ⟨v1,rfl,hb2,ho2⟩;obtain⟨a1,c1,rfl,hv1⟩:=v7 ho2;have HV1:=Y hv1;have HB2:=Y hb2;have hz2:=hb2.4;clear hb2 ho2 hv1
    go_wp2_with fail
    have HT2:=Y (HT1.calm HB2.o);refine(IZ (Y (HI1.keepS (HB2.5 qb hqw))) hk1 hk13 (Y (hO.o _ HT2.1).1)).mono ?_;rintro e w3 ⟨v2,rfl,hb3,ho3⟩;obtain⟨a2,c2,rfl,hv2⟩:=v7 ho3;have HV2:=Y hv2;have HB3:=Y hb3;have hz3:=hb3.4;have HT3:=Y (HT2.calm HB3.o);have HV1:=Y (HV1.keep HB3.o);clear hb3 ho3 hv2 HT2;have HLE:Q (J (Iw ⟨(k:I),yd,mh,yb,yi⟩)=J (Iw ⟨(k:I),xd,xa,xb,xim⟩)):=Y (by rw[HRD.o,bK])
    go_wp2_with fail
    refine(Bk HV1 HV2 (Y R) HLE HLE (aJ (oU _) vY) hz3 aA).mono ?_;rintro e w4 ⟨v4,rfl,hb4,ho4⟩;obtain⟨a4,c4,rfl,hq4⟩:=sr.own hG.o HT3.o HLE.symm ho4;have HT4:=Y (HT3.calm hb4);have HB4:=Y (Xg (Xg HB2.o HB3.o) hb4);have HQ4:=Y hq4;clear hb4 ho4 hq4 HV1 HV2 HT3
    go_wp2_with fail
    refine(Bw C (Rr a b s) c (Iw ⟨(k:I),xd,xa,xb,xim⟩) (Iw ⟨(k:I),yd,mh,yb,yi⟩) hG HT4 hb HQ4 (Y R) (Y HLE.symm) (aJ (oU _) vY) (Y (fun i h1 h2=>by
     rw[yG];have h3:=HA.o i h1 (by rw[bK];exact h1);have h4:(Iw ⟨(k:I),yd,mh,yb,yi⟩)[i]=((Iw ⟨(k:I),xd,xa,xb,xim⟩).map (Kp C.cs))[i]'(by rw[bK];exact h1):=by congr 1
     rw[h4];exact h3))).mono ?_
    rintro e w5 ⟨rfl,sf,hT5,_,hF5⟩;have HF5:=Y ((i7.below (K:=C) (X_:=c) HB4.o).trans hF5);have HT5:=Y hT5;clear hT5 hF5 HB2 HB3 HB4 HT4 HQ4 HLE hz2 hz3;have hq5:=HF5.3 qb hqw HNQ.o;have HX5:=Y (HX1.keepS (G (HT5.1.2 g (HOLD.o g hgB2)) (HT1.1.2 g (HOLD.o g hgB2)).symm));have HI5:=Y (HI1.keepS hq5.1);have hqw5:qb<Z w5.1:=aX hqw HF5.2;have HF6:=Y (HF1.trans HF5.o);clear HX1 HI1 hqw HNQ HT1 HF5 HF1 HRD HA hq5;dsimp only
    go_wp2_with fail
    refine(zN HX5 hk1 hk13 (Y (hO.o _ HT5.1).1)).mono ?_;rintro e w6 ⟨v1,rfl,hb6,ho6⟩;obtain⟨b1,d1,rfl,hv1⟩:=v7 ho6;have HV1:=Y hv1;have HB6:=Y hb6;have hz6:=hb6.4;clear hb6 ho6 hv1
    go_wp2_with fail
    have HT6:=Y (HT5.calm HB6.o);refine(zN (Y (HI5.keepS (HB6.5 qb hqw5))) hk1 hk13 (Y (hO.o _ HT6.1).1)).mono ?_;rintro e w7 ⟨v2,rfl,hb7,ho7⟩;obtain⟨b2,d2,rfl,hv2⟩:=v7 ho7;have HV2:=Y hv2;have HB7:=Y hb7;have hz7:=hb7.4;have HT7:=Y (HT6.calm HB7.o);have HV1:=Y (HV1.keep HB7.o);clear hb7 ho7 hv2 HT6 HX5 HI5;have HLE:Q (J (BW ⟨(k:I),yd,mh,yb,yi⟩)=J (BW ⟨(k:I),xd,xa,xb,xim⟩)):=Y (by rw[HWD.o,bK])
    go_wp2_with fail
    refine(Bk HV1 HV2 (Y R) HLE HLE (aJ (z9) vY) hz7 aA).mono ?_;rintro e w8 ⟨v8,rfl,hb8,ho8⟩;obtain⟨a8,c8,rfl,hq8⟩:=sr.own hG.o HT7.o HLE.symm ho8;have HT8:=Y (HT7.calm hb8);have HF8:=Y (HF6.trans (i7.below (Xg (Xg HB6.o HB7.o) hb8)));have HQ8:=Y hq8;clear hb8 ho8 hq8 HV1 HV2 HT7 HB6 HB7 HF6;go_wp2;clear hz6 hz7 hdc hqw5;obtain⟨wl,HWL⟩:∃wl,Q (wl=J (BW ⟨(k:I),xd,xa,xb,xim⟩)):=⟨_,Y R⟩;have hwl1:wl<=1:=by rw[HWL.o];exact z9
    simp only[<-HWL.o];generalize wr=wo at *
    go_loopw [46] (fun u wr=>∃i:N,i<=wl/\u=Si S6 i/\Q (jg C wr (Rr a b (if i=0 then s else s')) sf)/\Q (i7 C d w0 sf wr)/\Q (i7 C sf w8 sf wr)) (fun u _=>wl-(JB u).toNat)
    case atStart=>exact⟨0,aN,R,HT8,HF8,Y i7.refl⟩
    case round =>
     obtain⟨i,hi,rfl,HTq,HFq,HFz⟩:=hrel;by_cases hli:i<wl
     ·obtain rfl:i=0:=O
      have hdb:dB (k:I)=So:=by
       have:=HWL.o;unfold BW at this;dsimp only at this;split at this
       ·assumption
       ·simp at this;omega
      have hw1:BW ⟨(k:I),xd,xa,xb,xim⟩=[xd]:=by unfold BW;dsimp only;rw[aU hdb]
      have hw2:BW ⟨(k:I),yd,mh,yb,yi⟩=[yd]:=by unfold BW;dsimp only;rw[aU hdb]
      have hyd:yd=Kp C.cs xd:=by
       have:=HWD.o;rw[hw1,hw2]at this;simpa using this
      have hww:=HWW.o xd (by rw[hw1];exact cS.2 R);obtain⟨q,hq⟩:=bX (show 0<=yd by omega);have hs':s'=⟨Sl s.1 (q:I) (xd,0),s.2⟩:=by
       rw[HK1.o];unfold wN;dsimp only;rw[aU hdb,<-hyd,hq]
      have hq8:=HQ8.frk HFz.o;rw[hw1,hw2]at hq8;obtain⟨g8,rfl,hg8,ho8,e0,e1⟩:=hq8 0 (Nat.succ_pos _) (Nat.succ_pos _);simp only[eM,lC,aV]at e0 e1;subst hq;have hq64:q<64:=O;have hTq:jg C wr (Rr a b s) sf:=HTq.o;have c6:E wr ⟨C.4,6,U⟩=S (X (S ⟨C.5,0,U⟩) C.mn C.sc):=Bx.c hTq.2 6;have hcb:=Bx.lt hTq.2;have hsg:=World.rowIs.lt hTq.3;obtain⟨s0,s1⟩:=hTq.3.cell (b:=b) hbm (r:=q) O;have hfz:∀r,wr.frozen? ⟨C.5,r,U⟩=Sn:=fun r=>World.rowIs.frozen hTq.3 r
      have hbI:(b:I)<(C.mn:I):=O;have hqI:(q:I)<65:=O;have HW1:=Y hw1;have HWN:=Y hww;have HS2:=Y hs';have HG2:=Y (fun o'=>Cs wr C.5 (b*130+q*2) (b*130+q*2+1) (Si S6 xd) (Si S6 0) o');have HSP:Q (∀o',SS (D (Se (Se wr ⟨C.5,b*130+q*2,U⟩ (Si S6 xd)) ⟨C.5,b*130+q*2+1,U⟩ (Si S6 0)) o').drew C.5 C.mn (Rr a b s')):=Y (fun o'=>by
       have h:=hTq.3.put b (r:=q) O (xd,0);rw[yG,Al,show sV s q (xd,0)=s' by rw[hs'];unfold sV;rw[aU hq64]]at h;exact h.of_block (gF _ _ _ (by simpa using hsg)))
      have HTQ:=Y hTq;clear hw1 hw2 hww hs' hyd hq8 hTq hdb;go_wp2
      go_region
      go_wp2;exact⟨⟨1,O,R,Y (HTQ.sour hG.o (HG2.o _) (HSP.o _)),Y (HFq.trans (i7.sour (HG2.o _))),Y (HFz.trans (i7.sour (HG2.o _)))⟩,by simp[JB];omega⟩
     ·have hwl:s'=if i=0 then s else s':=by
       by_cases e:i=0
       ·rw[aU e]
        have h0:wl=0:=O;rw[h0]at HWL;have hdb:¬dB (k:I)=So:=fun hd=>by
         have:=HWL.o;unfold BW at this;dsimp only at this;rw[aU hd]at this;simp at this
        rw[HK1.o];unfold wN;dsimp only;rw[aM hdb]
       ·rw[aM e]
      rw[<-hwl]at HTq;clear hwl;go_wp2;exact⟨⟨j+1,sf,_,ln-1,lc-1,O,gM,R,Y (oN HLN.o),O,HLA,Y (by rw[<-HE.o];exact HTq.o),HFq⟩,by simp[JB];omega⟩
   ·have hjx:J xi<=j:=by rw[<-hn.o];omega
    have hjc:j-J xi<J cp:=oN hm.o
    have hyj:(xi.map (ZR C.cs)++cp)[j]=cp[j-J xi]:=by
     rw[fN (by simpa using hjx)];simp only[bK]
    rw[hyj]at hIn';have hco:=hP.2 _ (aH hjc);obtain⟨s',HE⟩:∃s',Q (s'=nN C.cs xi cp (j+1)):=⟨_,Y R⟩;have HK1:=Y (G HE (Qu (cs:=C.cs) hjx hjc));have HLA:Q (YY C.w 0 C.3 la (xi.drop (j+1))):=Y (fun i hi=>by rw[mF]at hi;omega);clear hyj HLI hjy;generalize nN C.cs xi cp j=s at *;generalize cp[j-J xi]=y at *;obtain⟨yo,yd,mh,yb,yi⟩:=y;have HCO:=Y hco;obtain⟨e0,e1,e2,e3,e4⟩:=hIn';have hjI:(j:I)<(m:I):=O;have hdc:Jd ((11:I)<=yo)=So:=by
     rw[bD];rcases hco with⟨h,_⟩ | ⟨h,_⟩ | ⟨h,_⟩<;>(dsimp only at h;omega)
    clear hco;dsimp only at e0 e1 e2 e3 e4
    go_wp2_with fail
    refine(zu ⟨yo,yd,mh,yb,yi⟩ _).mono ?_;rintro e w1 ⟨rfl,hb1⟩;have hB1:=Xb (dC (Z wr.1) wr) (Sc #[Si S6 yo,Si S6 yd,Si S6 mh,Si S6 yb,Si S6 yi] 64);have hx2:=(Bx.new wr #[Si S6 yo,Si S6 yd,Si S6 mh,Si S6 yb,Si S6 yi] 64).keep (hb1.5 _ sP);have hB2:=Xg hB1 hb1;have HT1:=Y (HT.calm hB2);have HF1:=Y (HF.trans (i7.below hB2));have hnq:Z wr.1≠C.5:=oP HT.1.1 hG.9
    have HX2:=Y hx2;clear hB1 hb1 hx2 hB2 e0 e1 e2 e3 e4 HT HF;generalize Z wr.1=qb at *;dsimp only;rw[hdc]
    go_wp2_with fail
    have c6:E w1 ⟨C.4,6,U⟩=S (X (S ⟨C.5,0,U⟩) C.mn C.sc):=Bx.c HT1.2 6;have t0:E w1 ⟨qb,0,U⟩=S (Si S6 yo):=Bx.c HX2.o 0;have t1:E w1 ⟨qb,1,U⟩=S (Si S6 yd):=Bx.c HX2.o 1;have t2:E w1 ⟨qb,2,U⟩=S (Si S6 mh):=Bx.c HX2.o 2;have t3:E w1 ⟨qb,3,U⟩=S (Si S6 yb):=Bx.c HX2.o 3;have t4:E w1 ⟨qb,4,U⟩=S (Si S6 yi):=Bx.c HX2.o 4;have hbI:(b:I)<(C.mn:I):=O;have HPC:=Y (Dt (b*130) (Rr a b s) w1.drew (Y (HT1.3.of_block R)) hbm (Y R) HCO);refine Y7 (fun w'=>E w' ⟨C.4,6,U⟩=S (X (S ⟨C.5,0,U⟩) C.mn C.sc)/\E w' ⟨qb,0,U⟩=S (Si S6 yo)/\E w' ⟨qb,1,U⟩=S (Si S6 yd)/\E w' ⟨qb,2,U⟩=S (Si S6 mh)/\E w' ⟨qb,3,U⟩=S (Si S6 yb)/\E w' ⟨qb,4,U⟩=S (Si S6 yi)) (fun ig=>?_);refine Xn 0 ?_;refine Xn 1 ?_;refine Xn 2 ?_;refine Xn 3 ?_;refine Xn 4 ?_;refine Xn 5 ?_;refine Xn 6 ?_;refine Xs 7 (fun K hK=>?_);go_simp
    go_at_call 61
    with_reducible refine HPC.o.mono ?_
    rintro e w2 ⟨rfl,hg2,hs2⟩;rw[yG,Al]at hs2;dsimp only;have hgb:∀g,g<Z w1.1->g≠C.5->w2.1[g]?=w1.1[g]?:=fun g h1 h2=>hg2.5 g h1 (fun e=>h2 (gQ e))
    have hcb:=hgb C.4 (Bx.lt HT1.2) hG.8.1;have hxb:=hgb qb (Bx.lt HX2.o) hnq;refine hK _ _ ⟨G (Xc hcb) c6,G (Xc hxb) t0,G (Xc hxb) t1,G (Xc hxb) t2,G (Xc hxb) t3,G (Xc hxb) t4⟩ (fun ig=>?_);have HG2:Q (w1.grownBy w2 (S C.sg)):=Y ⟨hg2.os,hg2.tape,hg2.output,hg2.size,hg2.block⟩;have HS2:=Y hs2;clear hK hg2 hs2 hgb hcb hxb
    try simp only[xX]
    refine Yq ?_;clear ig;go_wp2;exact⟨⟨j+1,c,la,ln,lc,O,gM,R,Y (oN HLN.o),O,HLA,Y (by rw[<-HE.o,HK1.o];exact HT1.sour hG.o HG2.o HS2.o),Y (HF1.trans (i7.sour HG2.o))⟩,by simp[JB];omega⟩
  ·have HKE:=Y (T4 (cs:=C.cs) (ys:=xi) (zs:=cp) (i:=j) (oN hm.o))
   have HSF:Q (nN C.cs xi cp j=SY C.cs C.xs C.M b):=Y (G HKE hP.5.symm);have hq0:=HF.3 q0 HX0.lt HN0.1;have hq1:=HF.3 (q0+1) HX1.lt HN0.2;have x0:=HX0.keep hq0.1;have x1:=HX1.keep hq1.1;have HA0:Q (Va wr q0 2 ⟨(kt:I),ta,kh,tl⟩):=Y ⟨Bx.c x0 2,Bx.c x0 3,Bx.c x0 4,Bx.c x0 5⟩;have HA1:Q (Va wr (q0+1) 1 ⟨(kt:I),ua,ut,ul⟩):=Y ⟨Bx.c x1 1,Bx.c x1 2,Bx.c x1 3,Bx.c x1 4⟩;have hl1:=x1.lt;have HKT:=Y hP.4;have HRT:=Y hP.3;have HAT:=Y hP.7;have hk1:1<=kt:=by have:=HKT.2.1;dsimp only at this;omega
   have hk3:kt<=3:=by have:=HKT.2.2;dsimp only at this;omega
   have HF2:=Y (HF0.trans HF.o);rw[<-HKE.o]at HAT;clear hq0 hq1 x0 x1 HF HF0 HX0 HX1 HN0 HKE HKT HLI;generalize nN C.cs xi cp j=s at *
   go_wp2_with fail
   refine(BY wr HA0 hk1 hk3 (Y (hO.o _ HT.1).2)).mono ?_;rintro e w2 ⟨v1,rfl,hb2,ho2⟩;obtain⟨a1,c1,rfl,hv1⟩:=v7 ho2;have HV1:=Y hv1;have HB2:=Y hb2;have hz2:=hb2.4;clear hb2 ho2 hv1
   go_wp2_with fail
   have HT2:=Y (HT.calm HB2.o);refine(BY w2 (Y (HA1.keepS (HB2.5 (q0+1) hl1))) hk1 hk3 (Y (hO.o _ HT2.1).2)).mono ?_;rintro e w3 ⟨v2,rfl,hb3,ho3⟩;obtain⟨a2,c2,rfl,hv2⟩:=v7 ho3;have HV2:=Y hv2;have HB3:=Y hb3;have hz3:=hb3.4;have HT3:=Y (HT2.calm HB3.o);have HV1:=Y (HV1.keep HB3.o);clear hb3 ho3 hv2 HT2;have HLE:Q (J (Id ⟨(kt:I),ua,ut,ul⟩)=J (Id ⟨(kt:I),ta,kh,tl⟩)):=Y (by rw[HRT.o,bK])
   go_wp2_with fail
   refine(Bk HV1 HV2 (Y R) HLE HLE (aJ (D2) vY) hz3 aA).mono ?_;rintro e w4 ⟨v4,rfl,hb4,ho4⟩;obtain⟨a4,c4,rfl,hq4⟩:=sr.own hG.o HT3.o HLE.symm ho4;have HT4:=Y (HT3.calm hb4);have HB4:=Y (Xg (Xg HB2.o HB3.o) hb4);have HQ4:=Y hq4;clear hb4 ho4 hq4 HV1 HV2 HT3
   go_wp2_with fail
   refine(Bw C (Rr a b s) c (Id ⟨(kt:I),ta,kh,tl⟩) (Id ⟨(kt:I),ua,ut,ul⟩) hG HT4 hb HQ4 (Y R) (Y HLE.symm) (aJ (D2) vY) (Y (fun i h1 h2=>by
    rw[yG];have h3:=HAT.o i h1 (by rw[bK];exact h1);have h4:(Id ⟨(kt:I),ua,ut,ul⟩)[i]=((Id ⟨(kt:I),ta,kh,tl⟩).map (Kp C.cs))[i]'(by rw[bK];exact h1):=by congr 1
    rw[h4];exact h3))).mono ?_
   rintro e w5 ⟨rfl,sf,hT5,_,hF5⟩;have HF5:=Y (HF2.trans ((i7.below (K:=C) (X_:=c) HB4.o).trans hF5));have HT5:=Y hT5;clear hT5 hF5 HB2 HB3 HB4 HT4 HQ4 HLE hz2 hz3;dsimp only;go_wp2
   go_end0
   exact⟨R,sf,by rw[<-HSF.o];exact HT5.o,HF5.o⟩
end
section
open Go.Maps
def mU(C:je)(j:N):N->ju j9:=λq=>if q<j then SY C.cs C.xs C.M q else Ri
theorem I6(C:je)(j:N):mU C j j=Ri:=aM<|Nat.lt_irrefl j
theorem I4(C:je)(j:N):Rr (mU C j) j (SY C.cs C.xs C.M j)=mU C (j+1):=funext λq=>by
 unfold Rr mU;by_cases e:q=j;·subst e;rw[aU R,aU iJ]
 rw[aM e];by_cases h:q<j;·rw[aU h,aU O]
 rw[aM h,aM O]
theorem PD(C:je):mU C 0=λ_=>Ri:=funext λ_=>aM<|wA _
theorem Qw(C:je)(h:n<J C.M)(a:J C.xs<=n):SY C.cs C.xs C.M n=RU Ri C.M[n].1:=by unfold SY;rw[aC h,dK a]
theorem LS(s:ju j9){a:Vr}(h:n<J a):RU s (a.take<|n+1)=r6 (RU s<|a.take n) a[n]:=by unfold RU;rw[bN h,dT];rfl
theorem Qq{C:je}(f:kW C)(a:nK C.k C.M=So)(h:n<J C.M)(e:J C.xs<=n):(∀y∈C.M[n].1,yL y)/\J C.M[n].1<=20000:=by unfold nK sj at a;simp only[bY,bD]at a;obtain⟨⟨⟨⟨⟨_,g⟩,_⟩,_⟩,j⟩,i⟩:=a;have c:=aH h;have b:=dV.1 i _ c;unfold Vdf at b;rw[bY]at b;have:=zI c;have:=wI C.M;exact⟨λy d=>KU g (dV.1 b.1 y d) ((f.3.2 n h e).1 y d).1,O⟩
theorem MF(C:je)(L:CC)(a:Q (kW C))(hT:Q (jg C w (mU C 0) L))(b7:Q (∀cb∈C.xs,∀a3∈cb.2,a3.1<=10))(hV:Q (nK C.k C.M=So))(bv:Q (sK C.w C.a C.xs))(hO:Q (∀W,C.fr W->Yy W/\Yb W)):
 Sk prog 26 #[Sj (S ⟨C.4,0,U⟩)] w λq b=>q=Rt (St #[])/\∃J_,jg C b (mU C C.mn) J_/\i7 C L w J_ b:=by
 have v:Q (∀g,g<C.3->C.old g):=Y λg hg=>⟨oP a.b0 a.9,oN a.b0,oN a.b0,oN a.b0⟩;obtain⟨U_,al⟩:∃U_,Q (C.a=U_):=⟨_,Y R⟩;obtain⟨cm,M⟩:∃cm,Q (C.ma=cm):=⟨_,Y R⟩;have c1:E w ⟨C.4,1,U⟩=S (X U_ C.n C.c):=by rw[<-al.o];exact Bx.c hT.2 1
 have b6:C.n<=C.mn:=by have:=a.3.1;have:=a.4;have:=a.5;omega
 have ci:=a.6;have cg:=a.7
 go_in
 go_wp2;clear c1
 go_loopw [13] (λu wr=>∃(j:N)(o:CC),j<=C.n/\u=Si S6 j/\Q (jg C wr (mU C j) o)/\Q (i7 C L w o wr)) λu _=>C.n-(JB u).toNat
 case atStart=>exact⟨0,L,aN,R,hT,Y i7.refl⟩
 obtain⟨j,o,hj,rfl,k,HF⟩:=hrel;by_cases b5:j<C.n
 .have t:j<J C.xs:=oN a.4;have s:j<J C.M:=oN a.3.1;obtain⟨g,o_,am,⟨_,ap⟩,pa,pc,N_,O_,d0,d1,dT,_,hI⟩:=a.bl j t;have au:=bv.o j t g o_ N_ _ O_ am d1;obtain⟨c,om,K_,⟨_,M_⟩,ja,jc,z,fT,B⟩:=a.ml j s;obtain rfl:=G al.symm am;obtain rfl:=G M.symm K_;have hP:=MN a.o b7.o hV.o t s;have az:=(a.3.3 j t s).1;have eg:=k.1.2 g<|v.o g ap;have e:=k.1.2 c<|v.o c M_;have ar:=(aI C.w _ d0);have ch:=(aI C.w _ z);rw[az]at B;have bb:J C.M[j].1=J C.xs[j].2+J (SX C.cs C.xs j C.xs[j]):=by rw[az,aQ,bK]
  have V_:=G (Xc eg) d0;have e1:=G (Xc eg) d1;have eT:=dT.keepS eg;have P:=G (Xc e) z;have eM:=fT.keepS e;have HI:=Y hI;have S_:=Y B;have HP:=Y hP;have a6:=Y bb;have bi:Q (J C.xs[j].2=J C.xs[j].2):=Y R;clear d0 d1 dT z fT hI B hP az bb am K_;generalize C.xs[j].3=bp at*;generalize C.M[j].2=T' at*;generalize J C.xs[j].1=pn at*;generalize SX C.cs C.xs j C.xs[j]=cp at*;generalize J C.M[j].1=l at*;generalize C.xs[j].2=xi at*;obtain⟨T,aj⟩:∃T,Q (T=J xi):=⟨_,Y R⟩;rw[<-aj.o]at e1 au;obtain⟨kt,ta,kh,tl⟩:=bp;obtain⟨b8,ua,ut,ul⟩:=T';obtain⟨hk,a9,ba⟩:=HP.4;dsimp only at hk a9 ba;subst hk;obtain⟨F,rfl⟩:=bX (show 0<=b8 by omega);have bt:j<C.mn:=O;have bc:Q (∀W,jg C W (mU C j) o->Sk prog 60 #[Sj (S ⟨C.4,0,U⟩),Si S6 j,Sa #[X pa pn pc,X N_ T O_,Si S6 F,Si S6 ta,Si S6 kh,Si S6 tl],Sa #[X ja l jc,Si S6 F,Si S6 ua,Si S6 ut,Si S6 ul]] W λq b=>q=Rt (St #[])/\∃J_,jg C b (mU C<|j+1) J_/\i7 C o W J_ b):=Y (λW hW=>by
   rw[<-I4];exact Xr C (mU C j) o a (Y hW) b5 bt (Y<|I6 C j) HP aj a6 HI S_ au hO)
  obtain⟨e2,e3,e4,e5⟩:=eT;obtain⟨f1,f2,f3,f4⟩:=eM;dsimp only at e2 e3 e4 e5 f1 f2 f3 f4;have c3:E wr ⟨C.4,3,U⟩=S (X (S ⟨c,om,U⟩) C.mn C.mc):=by rw[<-M.o];exact Bx.c k.2 3
  have b0:(j:I)<(C.n:I):=O;have cf:(j:I)<(C.mn:I):=O;have aa:=Bx.lt k.2;have ar:c<Z wr.1:=aI wr _ P;clear HI S_ HP a6 bi aj au eg e a9 ba;go_wp2;have p:=Xb (dC (Z wr.1) wr) (Sc #[X pa pn pc,X N_ T O_,Si S6 (F:I),Si S6 ta,Si S6 kh,Si S6 tl] 52);have hx:=Bx.new wr #[X pa pn pc,X N_ T O_,Si S6 (F:I),Si S6 ta,Si S6 kh,Si S6 tl] 52;have ab:¬o.own C (Z wr.1):=λbq=>by have:=k.lim bq a.o;omega
  have e:=p.5 c ar;have m:=Y<|k.calm p;have ac:=Y<|HF.trans (i7.below p);have bk:=Y ab;have n:=Y hx;have r0:=G (Xc e) P;have r1:=G (Xc e) f1;have r2:=G (Xc e) f2;have r3:=G (Xc e) f3;have r4:=G (Xc e) f4;clear hx ab e p P f1 f2 f3 f4 V_ e1 e2 e3 e4 e5 k HF c3 ar aa;generalize D wr _=R_ at*;generalize Z wr.1=d at*;have c3:E R_ ⟨C.4,3,U⟩=S (X (S ⟨c,om,U⟩) C.mn C.mc):=by rw[<-M.o];exact Bx.c m.2 3
  have t0:=Bx.c n.o 0;have t1:=Bx.c n.o 1;have t2:=Bx.c n.o 2;have t3:=Bx.c n.o 3;have t4:=Bx.c n.o 4;have t5:=Bx.c n.o 5;have bd:=Y<|bc.o R_.drew (m.calm (Rf).drew);refine Y7 (λb=>E b ⟨C.4,3,U⟩=S (X (S ⟨c,om,U⟩) C.mn C.mc)/\E b ⟨d,0,U⟩=S (X pa pn pc)/\E b ⟨d,1,U⟩=S (X N_ T O_)/\E b ⟨d,2,U⟩=S (Si S6 (F:I))/\E b ⟨d,3,U⟩=S (Si S6 ta)/\E b ⟨d,4,U⟩=S (Si S6 kh)/\E b ⟨d,5,U⟩=S (Si S6 tl)/\E b ⟨c,om+j*5,U⟩=S (X ja l jc)/\E b ⟨c,om+j*5+1,U⟩=S (Si S6 (F:I))/\E b ⟨c,om+j*5+1+1,U⟩=S (Si S6 ua)/\E b ⟨c,om+j*5+1+2,U⟩=S (Si S6 ut)/\E b ⟨c,om+j*5+1+3,U⟩=S (Si S6 ul)) λP_=>?_;refine Xn 0 ?_;refine Xn 1 ?_;refine Xn 2 ?_;refine Xn 3 ?_;refine Xn 4 ?_;refine Xn 5 ?_;refine Xn 6 ?_;refine Xn 7 ?_;refine Xn 8 ?_;refine Xn 9 ?_;refine Xn 10 ?_;refine Xs 11 λbo hK=>?_;go_simp
  go_at_call 60
  with_reducible refine bd.o.mono ?_
  rintro q Q_⟨rfl,K,hZ,hf⟩;have ao:=(i7.below (K:=C) (X_:=o) (dC (Z R_.1) R_).drew).trans hf;have f:=n.keep (ao.3 d n.lt bk.o).1;have y:Q_.1[c]?=R_.1[c]?:=G (hZ.1.2 c<|v.o c M_) (m.1.2 c<|v.o c M_).symm;have a7:E Q_ ⟨C.4,3,U⟩=S (X (S ⟨c,om,U⟩) C.mn C.mc):=by rw[<-M.o];exact Bx.c hZ.2 3
  dsimp only;refine hK _ _ ⟨a7,Bx.c f 0,Bx.c f 1,Bx.c f 2,Bx.c f 3,Bx.c f 4,Bx.c f 5,G (Xc y) r0,G (Xc y) r1,G (Xc y) r2,G (Xc y) r3,G (Xc y) r4⟩ λP_=>?_;have HZ:=Y hZ;have bf:=Y<|ac.trans ao;clear hK hZ hf ao f y a7
  try simp only[xX]
  refine Yq ?_;clear P_;go_wp2;exact⟨⟨j+1,K,O,gM,HZ,bf⟩,by simp[JB];omega⟩
 have a1:j=C.n:=O;subst a1;have c1:E wr ⟨C.4,1,U⟩=S (X U_ C.n C.c):=by rw[<-al.o];exact Bx.c k.2 1
 go_wp2;clear c1;generalize wr=wo at*
 go_loopw [4] (λu wr=>∃(j:N)(K:CC),C.n<=j/\j<=C.mn/\u=Si S6 j/\Q (jg C wr (mU C j) K)/\Q (i7 C L w K wr)) λu _=>C.mn-(JB u).toNat
 case atStart=>exact⟨C.n,o,aA,b6,R,k,HF⟩
 obtain⟨j,K,cd,ce,rfl,T_,a4⟩:=hrel;have c3:E wr ⟨C.4,3,U⟩=S (X cm C.mn C.mc):=by rw[<-M.o];exact Bx.c T_.2 3
 by_cases b4:j<C.mn
 .have s:j<J C.M:=oN a.5;have t:J C.xs<=j:=oN a.4;obtain⟨c,om,K_,⟨_,M_⟩,ja,jc,z,_,B⟩:=a.ml j s;obtain rfl:=G M.symm K_;have P:=G (Xc<|T_.1.2 c (v.o c M_)) z;obtain⟨L_,bx⟩:=Qq a.o hV.o s t;have S_:=Y B;have be:=Y L_;have bg:=Y<|Qw C s t;have bn:=Y<|I4 C j;clear z B L_ K_;generalize C.M[j].1=V at*;obtain⟨l,af⟩:∃l,Q (l=J V):=⟨_,Y R⟩;rw[<-af.o]at P bx;have b0:(j:I)<(C.mn:I):=O;go_wp2;clear c3 P;generalize wr=cj at*
  go_loopw [57] (λu wr=>∃i:N,i<=l/\u=Si S6 i/\Q (jg C wr (Rr (mU C j) j (RU Ri<|V.take i)) K)/\Q (i7 C L w K wr)) λu _=>l-(JB u).toNat
  case atStart=>exact⟨0,aN,R,Y (by rw[Fm<|by rw[I6];rfl];exact T_.o),a4⟩
  obtain⟨i,hi,rfl,I_,ad⟩:=hrel;by_cases b3:i<l
  .have a0:i<J V:=by rw[<-af.o];exact b3
   obtain⟨gj,oj,b1,⟨_,ap⟩,a8⟩:=S_.o i a0;subst b1;have br:=a8.keepS<|I_.1.2 gj (v.o gj ap);have L_:=be.o _<|aH a0;have bh:=Y<|LS Ri a0;clear a8;generalize V[i]=a3 at*;obtain⟨yo,yd,mh,yb,yi⟩:=a3;have HC:=Y L_;obtain⟨V_,e1,e2,e3,e4⟩:=br;have cc:(i:I)<(l:I):=O;clear L_;dsimp only at V_ e1 e2 e3 e4;go_wp2;have p:=Xb (dC (Z wr.1) wr) (Sc #[Si S6 yo,Si S6 yd,Si S6 mh,Si S6 yb,Si S6 yi] 64);have f:=Bx.new wr #[Si S6 yo,Si S6 yd,Si S6 mh,Si S6 yb,Si S6 yi] 64;have m:=Y<|I_.calm p;have ac:=Y<|ad.trans (i7.below p);have ab:Z wr.1≠C.5:=oP I_.1.1 a.9;have x:=Y f;clear p f V_ e1 e2 e3 e4 I_ ad;generalize D wr _=h at*;generalize Z wr.1=d at*;have c6:E h ⟨C.4,6,U⟩=S (X (S ⟨C.5,0,U⟩) C.mn C.sc):=Bx.c m.2 6;have t0:E h ⟨d,0,U⟩=S (Si S6 yo):=Bx.c x.o 0;have t1:E h ⟨d,1,U⟩=S (Si S6 yd):=Bx.c x.o 1;have t2:E h ⟨d,2,U⟩=S (Si S6 mh):=Bx.c x.o 2;have t3:E h ⟨d,3,U⟩=S (Si S6 yb):=Bx.c x.o 3;have t4:E h ⟨d,4,U⟩=S (Si S6 yi):=Bx.c x.o 4;have bl:=Y<|Dt (j*130) (Rr (mU C j) j (RU Ri<|V.take i)) h.drew (Y<|m.3.of_block R) b4 (Y R) HC;refine Y7 (λb=>E b ⟨C.4,6,U⟩=S (X (S ⟨C.5,0,U⟩) C.mn C.sc)/\E b ⟨d,0,U⟩=S (Si S6 yo)/\E b ⟨d,1,U⟩=S (Si S6 yd)/\E b ⟨d,2,U⟩=S (Si S6 mh)/\E b ⟨d,3,U⟩=S (Si S6 yb)/\E b ⟨d,4,U⟩=S (Si S6 yi)) λP_=>?_;refine Xn 0 ?_;refine Xn 1 ?_;refine Xn 2 ?_;refine Xn 3 ?_;refine Xn 4 ?_;refine Xn 5 ?_;refine Xn 6 ?_;refine Xs 7 λbo hK=>?_;go_simp
   go_at_call 61
   with_reducible refine bl.o.mono ?_
   rintro q Q_⟨rfl,r,a2⟩;rw[yG,Al,<-bh.o]at a2;dsimp only;have aq:∀g,g<Z h.1->g≠C.5->Q_.1[g]?=h.1[g]?:=λg h1 h2=>r.5 g h1 λq=>h2<|gQ q;have aa:=aq C.4 (Bx.lt m.2) a.8.1;have E_:=aq d (Bx.lt x.o) ab;refine hK _ _ ⟨G (Xc aa) c6,G (Xc E_) t0,G (Xc E_) t1,G (Xc E_) t2,G (Xc E_) t3,G (Xc E_) t4⟩ λP_=>?_;have a5:Q (h.grownBy Q_<|S C.sg):=Y ⟨r.os,r.tape,r.output,r.size,r.block⟩;have bm:=Y a2;clear hK r a2 aq aa E_
   try simp only[xX]
   refine Yq ?_;clear P_;go_wp2;exact⟨⟨i+1,O,gM,Y<|m.sour a.o a5.o bm.o,Y<|ac.trans (i7.sour a5.o)⟩,by simp[JB];omega⟩
  have HE:Q (Rr (mU C j) j (RU Ri<|V.take i)=mU C (j+1)):=Y (by rw[aW<|oN af.o,<-bg.o];exact bn.o);go_wp2;exact⟨⟨j+1,K,O,O,gM,Y (by rw[<-HE.o];exact I_.o),ad⟩,by simp[JB];omega⟩
 have a1:j=C.mn:=O;subst a1;go_wp2
 go_end0
 exact⟨R,K,T_.o,a4.o⟩
end
section
open Go.Maps
theorem Tg{V:N}{xs:Wi}(h:XJ ⟨(V:I),xs⟩=So){b:N}(c:b<J xs):∀p∈xs[b].1,p.2≠[]:=λp d e=>by simp only[XJ,bY]at h;have a:=(Zr ZX ⟨(V:I),xs⟩ xs 0).1 h.1.2;have:=dV.1 (a b c) p d;simp only[ZX,Jt,bY,bD]at this;rw[e]at this;have:=this.2.1.1;simp at this
theorem IY{V:N}{xs:Wi}(h:XJ ⟨(V:I),xs⟩=So):∀x∈xs,∀y∈x.2,y.1<=10:=λx a y b=>by simp only[XJ,bY]at h;have:=dV.1 (dV.1 h.1.1.2 x a) y b;simp only[Yw,bY,bD]at this;omega
theorem Vn{V:N}{xs:Wi}(h:XJ ⟨(V:I),xs⟩=So){b v:N}(a:b<J xs){q:Ph}(c:q∈xs[b].1)(e:q.1=(v:I)):sN xs v b q.2 :=
 aZ ⟨Tg h a q c,xs[b],q,aC a,c,e,R⟩
theorem Qb{xs:Wi}{b v i:N}(a:b<J xs)(c:i<J xs[b].2)(e:(v:I)∈BW xs[b].2[i]):sN xs v b [] :=
 bC ⟨R,i,xs[b],_,aC a,aC c,e⟩
def wG(w:Ub)(B0 V:N)(xs:Wi)(l:Wc)(f:Vu):Prop:=∀v:N,v<V->(v:I)∈l->∃d a b c,sN xs v d a/\d<J xs/\f (v*2)=Si S6 (d:I)/\f (v*2+1)=X b (J a) c/\Xf w 0 B0 b a
structure mi(w wr:Ub)(g B0 V:N)(xs:Wi)(l:Wc):Prop where
 low:Sw (Z w.1) w wr
 hg:Z w.1<=g
 row:∃f,wr.rowIs g 218 (V*2) f/\wG w B0 V xs l f
variable {w wr w': Ub} {g B0 V: N} {xs: Wi} {l l': Wc}
theorem mi.keep(h:mi w wr g B0 V xs l)(k:Sw (Z wr.1) wr w'):mi w w' g B0 V xs l:=by obtain⟨f,a,b⟩:=h.3;exact⟨Xg h.1 k,h.2,f,a.of_block<|k.5 g a.lt,b⟩
theorem mi.more(h:mi w wr g B0 V xs l)(k:∀x∈l',x∈l):mi w wr g B0 V xs l':=by obtain⟨f,a,b⟩:=h.3;exact⟨h.1,h.2,f,a,λv d c=>b v d<|k _ c⟩
theorem mi.put(h:mi w wr g B0 V xs l){v d pc:N}{a:Wc}{pa:Uy}(s:sN xs v d a)(p:d<J xs)(ha:Xf w 0 B0 pa a):mi w (Se (Se wr ⟨g,v*2,U⟩ (Si S6 (d:I))) ⟨g,v*2+1,U⟩ (X pa (J a) pc)) g B0 V xs (l++[(v:I)]):=by
 obtain⟨z,n,o⟩:=h.3;refine⟨(h.1.setCell h.2 _).setCell h.2 _,h.2,_,(n.set _ _).set _ _,λu t q=>?_⟩;by_cases e:u=v
 .subst e;exact⟨d,a,pa,pc,s,p,by rw[aM O,aU R],by rw[aU R],ha⟩
 have r:(u:I)∈l:=by
  obtain h|h:=bU.1 q;·exact h
  have:=cS.1 h;omega
 obtain⟨c,b,x,y,f,i,j,k,m⟩:=o u t r;exact⟨c,b,x,y,f,i,by rw[aM O,aM O];exact j,by rw[aM O,aM O];exact k,m⟩
theorem TU(w:Ub)(a b:Uj)(n:N)(t:TypeId):(D w<|Sc (madeCells #[a,b] (n*2)) t).rowIs (Z w.1) t (n*2) (λq=>if q%2=0 then a else b) :=
 ⟨_,World.alloc_heap_new _ _,nA _ _,λi c=>by have:i%2=0\/i%2=1:=O;obtain e|e:=this<;>simp[madeCells,c,e]⟩
theorem X5{b:N}(a:b<J xs):BX (xs.take<|b+1)=BX (xs.take b)++(XG xs[b].1++XI xs[b].2):=by unfold BX;rw[bN a,eZ];simp[Z6]
theorem X2{a:Za}{j:N}(h:j<J a):XG (a.take<|j+1)=XG (a.take j)++[a[j].1]:=by unfold XG;rw[bN h,bG];rfl
theorem Y1{a:Vr}{i:N}(h:i<J a):XI (a.take<|i+1)=XI (a.take i)++BW a[i]:=by rw[Vs,Vs,bN h,eZ];simp
end
section
open Go.Maps
theorem MA:(prog.info? 218).map (λi=>(i.8,i.3,i.4))=S (S<|Sa #[H 0,Hq],2,32):=vZ
theorem Tn(c_:N)(ha:Q (Xp w 0 k p x))(hB:k<=Z w.1)(f:Q (m=J x))(hv:Q (XJ ⟨(n:I),x⟩=So))(hO:Q (Yy w)):
 Sk prog 57 #[Sa #[H n,X p m c_]] w λz w'=>∃P_,z=Rt (Hl P_ n n)/\mi w w' P_ k n x (BX x):=by
 have S_:=XH hv.o;have hV:=S_.2;have hn:m<=1000:=oP f.o S_.1.2;have N_:=Y S_;clear S_;have a0:=J9 (P:=prog) 127 218 (Sa #[H 0,Hq]) 2 32 underlying127 MA n O O;rw[show(Sa #[H 0,Hq]).cells=#[H 0,Hq]from R]at a0
 go_in
 go_wp2;have aj:Q (mi w (D (D w (Sc #[H n,X p m c_] 25)) (Sc (madeCells #[H 0,Hq] (n*2)) 218)) (Z w.1+1) k n x []):=Y (by have aq:=TU (D w (Sc #[H n,X p m c_] 25)) (H 0) Hq n 218;rw[aO]at aq;exact⟨Xb (Xb Rf _) _,O,_,aq,λv _ hl=>by cases hl⟩)
 clear a0;generalize D (D w _) _=w0 at*;generalize Z w.1+1=og at*
 go_loopw [18] (λu wr=>∃b:N,b<=m/\u=H b/\Q (mi w wr og k n x<|BX (x.take b))) λu _=>m-(JB u).toNat
 .exact⟨0,aN,R,aj⟩
 clear aj;obtain⟨b,hb,rfl,a⟩:=hrel;by_cases cb:b<m
 .have g:b<J x:=oN f.o
  obtain⟨P_,o_,rfl,⟨_,b5⟩,pa,pc,ia,ic,d0,d1,dT,hP,hI⟩:=ha.o b g;have O_:=a.1.5 P_ O;have W:=G (Xc O_) d0;have e1:=G (Xc O_) d1;obtain⟨e2,e3,e4,e5⟩:=dT.keepS O_;have HP:=Y hP;have HI:=Y hI;have az:=N_.10 _<|aH g;have a6:=Y<|X5 g;have ba:=Y λ(v:N)(q:Ph)(hq:q∈x[b].1) z=>Vn (v:=v) hv.o g hq z;have a9:=Y λ(v i:N)(Q_:i<J x[b].2) z=>Qb (v:=v) g Q_ z;have bc:=Y<|N_.8 _ (aH g);have bf:=Y<|N_.6 _ (aH g);have bb:=Y<|N_.3 _ (aH g);clear O_ d0 d1 dT hP hI;generalize x[b].3=bh at*;obtain⟨kt,ta,kh,tl⟩:=bh;dsimp only at e2 e3 e4 e5;generalize x[b].1=e at*;generalize x[b].2=h at*;obtain⟨s,ab⟩:∃s,Q (s=J e):=⟨_,Y R⟩;obtain⟨y,ad⟩:∃y,Q (y=J h):=⟨_,Y R⟩;rw[<-ab.o]at W az;rw[<-ad.o]at e1 az;have b3:(b:I)<(m:I):=O;go_wp2;have B:=Y (Bx.new wr #[X pa s pc,X ia y ic,H kt,H ta,H kh,H tl] 52);have c:=Y<|a.keep (Xb (dC (Z wr.1) wr) (Sc #[X pa s pc,X ia y ic,H kt,H ta,H kh,H tl] 52));have a3:Z wr.1≠og:=by obtain⟨l,d,_⟩:=a.3;have:=d.lt;omega
  clear a W e1 e2 e3 e4 e5;generalize D wr _=w1 at*;generalize Z wr.1=qb at*;generalize wr=wo at*
  go_loopw [26] (λu wr=>∃j:N,j<=s/\u=H j/\Q (mi w wr og k n x<|BX (x.take b)++XG (e.take j))/\Q (Bx wr qb #[X pa s pc,X ia y ic,H kt,H ta,H kh,H tl] 52)) λu _=>s-(JB u).toNat
  .exact⟨0,aN,R,Y (by simpa [XG]using c.o),B⟩
  clear c B;obtain⟨j,hj,rfl,a,B⟩:=hrel;by_cases bo:j<s
  .have R_:j<J e:=by rw[<-ab.o];exact bo
   obtain⟨gp,op,rfl,⟨_,b7⟩,aa,ac,f0,f1,hA⟩:=HP.o j R_;have Y_:=a.1.5 gp O;have bi:=G (Xc Y_) f0;have b1:=G (Xc Y_) f1;obtain⟨K,L⟩:=bc.o _<|aH R_;obtain⟨v,r⟩:=bX K;have V_:=Y<|ba.o v _ (aH R_) r;have W_:=Y<|X2 R_;have a5:=Y hA;clear Y_ f0 f1 hA K;rw[r]at bi L;have W_:Q (XG (e.take<|j+1)=XG (e.take j)++[(v:I)]):=Y (by rw[W_.o,r]);clear r;generalize e[j].2=al at*;have bv:v<n:=O;obtain⟨l,d,Z_⟩:=a.3;have s0:=d.cell (i:=v*2) O;have s1:=d.cell (i:=v*2+1) O;have bm:∀q,wr.frozen? (A og q)=Sn:=λq=>d.frozen q;have bt:=d.lt;have X_:=Y<|a.put V_.o g a5.o (pc:=ac);have ca:(j:I)<(s:I):=O;clear d Z_;generalize l (v*2)=u0 at*;generalize l (v*2+1)=u1 at*;clear l;generalize J al=an at*;go_wp2;exact⟨⟨j+1,O,gM,Y (by rw[W_.o,<-cK];exact X_.keep<|Xb Rf _),Y<|B.keep (G (gF _ _ _<|by simpa using B.lt) (G (cY a3) (cY a3)))⟩,SA⟩
  have a:=Y (a.more (l':=BX (x.take b)++XG e++XI (h.take 0)) (λaf f=>by rw[show e.take j=e from aW (oN ab.o)];simpa [XI]using f))
  have x1:=Bx.c B.o 1;go_wp2;clear x1 B;generalize wr=wo at*
  go_loopw [42] (λu wr=>∃i:N,i<=y/\u=H i/\Q (mi w wr og k n x<|BX (x.take b)++XG e++XI (h.take i))) λu _=>y-(JB u).toNat
  .exact⟨0,aN,R,a⟩
  clear a;obtain⟨i,Q_,rfl,a⟩:=hrel;by_cases bn:i<y
  .have M_:i<J h:=by rw[<-ad.o];exact bn
   obtain⟨gi,oi,rfl,⟨_,b6⟩,ar⟩:=HI.o i M_;have bk:=ar.keepS<|a.1.5 gi O;have a7:=Y<|Y1 M_;have V_:=Y λ(v:N) z=>a9.o v i M_ z;have bg:=Y<|bf.o _ (aH M_);obtain⟨bq,br⟩:=bb.o _<|aH M_;clear ar;generalize h[i]=b0 at*;obtain⟨yo,M,P,T,yi⟩:=b0;dsimp only at bq br;obtain⟨F,rfl⟩:=bX (show 0<=yo by omega);obtain⟨W,e1,e2,e3,e4⟩:=bk;dsimp only at W e1 e2 e3 e4;have b8:(i:I)<(y:I):=O;go_wp2_with fail
   have V:=Bx.new wr #[H F,H M,H P,H T,H yi] 64;have c:=Y<|a.keep (Xb (dC (Z wr.1) wr) (Sc #[H F,H M,H P,H T,H yi] 64));have ap:Q (Jk (D wr (Sc #[H F,H M,H P,H T,H yi] 64)) (Z wr.1) 0 ⟨(F:I),M,P,T,yi⟩):=Y ⟨Bx.c V 0,Bx.c V 1,Bx.c V 2,Bx.c V 3,Bx.c V 4⟩;clear a V W e1 e2 e3 e4;generalize D wr _=w2 at*;refine(zN ap O O<|Y (hO.keep c.1 hO.1)).mono ?_;rintro z w3⟨v1,rfl,au,a2⟩;obtain⟨a1,c1,rfl,a4⟩:=v7 a2;have am:=Y<|c.keep au;have bt:og<Z w2.1:=by obtain⟨l,d,_⟩:=c.3;exact d.lt
   have bd:=Y a4;clear a2 a4 c ap au;generalize Z w2.1=z2 at*;generalize Z wr.1=q9 at*;obtain⟨o,U_⟩:∃o,Q (o=J (BW ⟨(F:I),M,P,T,yi⟩)):=⟨_,Y R⟩;simp only[<-U_.o];have cd:o<=1:=by rw[U_.o];exact z9
   generalize BW ⟨(F:I),M,P,T,yi⟩=C at*;go_wp2;generalize wr=ce at*
   go_loopw [48] (λu wr=>∃t:N,t<=o/\u=H t/\Q (mi w wr og k n x<|BX (x.take b)++XG e++XI (h.take i)++C.take t)/\Q (YA z2 (Z w3.1) w3 wr)) λu _=>o-(JB u).toNat
   .exact⟨0,aN,R,Y (by simpa using am.o),Y λ_ _ _=>R⟩
   clear am;obtain⟨t,ht,rfl,a,ao⟩:=hrel;by_cases bp:t<o
   .have T_:t<J C:=by rw[<-U_.o];exact bp
    obtain⟨g1,o1,rfl,b4,bl⟩:=bd.keepS ao.o t T_;obtain⟨K,L⟩:=bg.o _<|aH T_;obtain⟨v,r⟩:=bX K;have a8:=Y (V_.o v<|by rw[<-r];exact aH T_);have be:Q (C.take (t+1)=C.take t++[(v:I)]):=Y (by rw[bN T_,r]);rw[r]at bl L;clear r K;have bv:v<n:=O;obtain⟨l,d,Z_⟩:=a.3;have s0:=d.cell (i:=v*2) O;have s1:=d.cell (i:=v*2+1) O;have bm:∀q,wr.frozen? (A og q)=Sn:=λq=>d.frozen q;have X_:Q (mi w (Se (Se wr (A og (v*2)) (H b)) (A og (v*2+1)) Hq) og k n x (BX (x.take b)++XG e++XI (h.take i)++C.take t++[(v:I)])):=Y (a.put a8.o g (pa:=U) (pc:=0) λi Q_=>Sz Q_<|wA _);have cc:(t:I)<(o:I):=O;clear d Z_;generalize l (v*2)=u0 at*;generalize l (v*2+1)=u1 at*;clear l;go_wp2;exact⟨⟨t+1,O,gM,Y (by rw[be.o,<-cK];exact X_.o),Y λq L h2=>G (cY<|show q≠og by omega) (G (cY<|show q≠og by omega) (ao.o q L h2))⟩,SA⟩
   have a:=Y (a.more (l':=BX (x.take b)++XG e++XI (h.take<|i+1)) (λaf f=>by rw[show C.take t=C from aW (oN U_.o)];rw[a7.o,<-cK]at f;exact f))
   go_wp2;exact⟨⟨i+1,O,gM,a⟩,SA⟩
  have a:=Y (a.more (l':=BX<|x.take (b+1)) (λaf f=>by rw[show h.take i=h from aW (oN ad.o)];rw[a6.o,<-cK]at f;exact f))
  go_wp2;exact⟨⟨b+1,O,gM,a⟩,SA⟩
 have a:=Y (a.more (l':=BX x) (λaf bx=>by rw[show x.take b=x from aW (oN f.o)];exact bx))
 go_wp2;go_ret;exact⟨og,R,a.o⟩
end
section
open Go.Maps
def sR(a:List (N×I)):Wo:=a.flatMap λp=>[H (p.1:I),H p.2]
theorem Nm{a:List (N×I)}(p:N×I):sR (a++[p])=sR a++[H (p.1:I),H p.2]:=by simp[sR]
theorem KC:∀(a:List (N×I))(i:N)(h:i<J a),(sR a)[i*2]?=S (H (a[i].1:I))/\(sR a)[i*2+1]?=S (H a[i].2)
 |p::a,0,_=>⟨R,R⟩
 |p::a,i+1,h=>by have:=KC a i (by simpa using h);rw[show(i+1)*2=i*2+1+1 by omega];exact this
structure tc(w:Ub)(z0 G_ n m0 m1:N)(P:N->List (N×I))(U_:Vu):Prop where
 row:w.rowIs G_ 141 n U_
 own:∀i,i<n->Sx w z0 143 2 (U_ i) (J (P i)) (sR<|P i)
 sep:∀i j,i<n->j<n->i≠j->(U_ i).ownBlock=U\/(U_ i).ownBlock≠(U_ j).ownBlock
 lt:G_<z0
 av:∀i g,i<n->(U_ i).ownBlock=S g->g<m0\/m1<=g
variable {w wr w1 w': Ub} {z0 G_ n m0 m1: N} {P: N -> List (N×I)} {U_: N -> Uj}
theorem tc.keep(h:tc w z0 G_ n m0 m1 P U_)(k:Sw (Z w.1) w w'):tc w' z0 G_ n m0 m1 P U_ :=
 ⟨h.1.of_block<|k.5 _ h.1.lt,λi a=>Zl (h.2 i a) λb e=>k.5 b ((h.2 i a).lt b e).2,h.3,h.4,h.5⟩
theorem tc.push(h:tc w z0 G_ n m0 m1 P U_){t:N}(r:t<n)(x:N×I){c:Uj}(u:w.grownBy w1 (U_ t).ownBlock)(g:Sx w1 z0 143 2 c (J (P t)+1) (sR (P t)++[Si S6 (x.1:I),Si S6 x.2]))(o:c.ownBlock=(U_ t).ownBlock\/c.ownBlock=S (Z w.1))(v:m1<=Z w.1):tc (Se w1 ⟨G_,t,U⟩ c) z0 G_ n m0 m1 (λi=>if i=t then P t++[x]else P i) (λi=>if i=t then c else U_ i):=by
 have lt:=h.4;have B:w1.rowIs G_ 141 n U_:=h.1.of_block (u.5 _ h.1.lt λe=>by have:=((h.2 t r).lt _ e.symm).1;omega);refine⟨B.set t c,λi a=>?_,λi j a f d=>?_,lt,λi s a e=>?_⟩
 .have y:∀{z:Uj}{m:N}{cs:Wo},Sx w1 z0 143 2 z m cs->Sx (Se w1 (A G_ t) c) z0 143 2 z m cs:=λg=>Zl g λb e=>cY (show b≠G_ by have:=(g.lt b e).1;omega)
  try dsimp only
  by_cases e:i=t
  .subst e;rw[aU R,aU R,aQ,Nm];exact y g
  rw[aM e,aM e];exact y<|(h.2 i a).kept u (h.3 i t a r e)
 .have fresh:∀m,m<n->(U_ m).ownBlock=U\/(U_ m).ownBlock≠S (Z w.1):=λm v=>by
   by_cases e:(U_ m).ownBlock=S (Z w.1);·have:=((h.2 m v).lt _ e).2;omega
   exact aZ e
  by_cases e1:i=t
  .subst e1;have e2:¬j=i:=λe=>d e.symm;simp only[gG,e2,fD];obtain q|q:=o;·rw[q];exact h.3 i j a f d
   right
   rw[q];intro p;obtain l|l:=fresh j f;·rw[l]at p;cases p
   exact l p.symm
  simp only[e1,fD];by_cases e2:j=t
  .subst e2;simp only[gG];obtain q|q:=o;·rw[q];exact h.3 i j a f d
   rw[q];exact fresh i a
  simp only[e2,fD];exact h.3 i j a f d
 try dsimp only at e
 by_cases e1:i=t
 .rw[aU e1]at e;obtain q|q:=o;·exact h.5 t s r<|by rw[<-q];exact e
  rw[q]at e;have:=gQ e;omega
 rw[aM e1]at e;exact h.5 i s a e
def yD(xs:Wi)(cs:Wc)(M:List ag)(n k:N)(ts:Wc)(P:N->List (N×I)):Prop:=∀t,t<n->(P t).map (λq=>(q.1:I))=Yk xs k ts t/\∀q∈P t,∃a:q.1<J xs,rn cs xs M q.1 xs[q.1] (t:I) q.2
theorem yD.push{xs:Wi}{cs:Wc}{M:List ag}{k:N}{ts:Wc}(h:yD xs cs M n k ts P){t:N}(l:(t:I)∉ts){c:I}(f:k<J xs)(m:rn cs xs M k xs[k] (t:I) c):yD xs cs M n k (ts++[(t:I)]) (λi=>if i=t then P t++[(k,c)]else P i):=λi d=>by
 obtain⟨a,b⟩:=h i d;rw[Uu xs k i l]
 try dsimp only
 by_cases e:i=t
 .subst e;rw[aU R,aU R,bG,a];refine⟨R,λq j=>?_⟩;obtain g|g:=bU.1 j;·exact b q g
  rw[cS.1 g];exact⟨f,m⟩
 rw[aM e,aM e];exact⟨a,b⟩
structure RL(w wr:Ub)(z0 cb og wg sg mb B0 V n mn:N)(bc:Zh)(xs:Wi)(cs:Wc)(M:List ag)(m0 m1 k:N)(ts:Wc):Prop where
 low:Sw (Z w.1) w wr
 pos:(Z w.1<=cb/\cb<z0)/\(Z w.1<=og/\og<z0)/\(Z w.1<=wg/\wg<z0)/\(Z w.1<=sg/\sg<z0)/\(Z w.1<=mb/\mb<z0)
 ne:(cb≠og/\cb≠wg/\cb≠sg/\cb≠mb)/\(og≠wg/\og≠sg/\og≠mb)/\(wg≠sg/\wg≠mb)/\sg≠mb
 z:z0<=Z wr.1
 bx:Bx wr cb bc 134
 og:∃f,wr.rowIs og 218 (V*2) f/\wG w B0 V xs (BX xs) f
 sg:SS wr sg mn λ_=>Ri
 mp:wr.ownsMap prog 146 pT mb 0 (.map [])
 wy:∃P U_,tc wr z0 wg n m0 m1 P U_/\yD xs cs M n k ts P
variable {cb og wg sg mb B0 V mn k: N} {bc: Zh} {xs: Wi} {cs: Wc} {M: List ag} {ts: Wc}
theorem RL.keep(h:RL w wr z0 cb og wg sg mb B0 V n mn bc xs cs M m0 m1 k ts)(b:Sw (Z wr.1) wr w'):RL w w' z0 cb og wg sg mb B0 V n mn bc xs cs M m0 m1 k ts:=by obtain⟨f,a,e⟩:=h.6;obtain⟨P,U_,d,c⟩:=h.9;exact⟨Xg h.1 b,h.2,h.3,oP h.z b.4,h.5.keep<|b.5 _ h.5.lt,⟨f,a.of_block<|b.5 _ a.lt,e⟩,h.7.of_block<|b.5 _ (World.rowIs.lt h.7),h.8.kept (C5 b) sP,⟨P,U_,d.keep b,c⟩⟩
theorem RL.avoid{m0' m1':N}(h:RL w wr z0 cb og wg sg mb B0 V n mn bc xs cs M m0 m1 k ts)(d:Z wr.1<=m0'):RL w wr z0 cb og wg sg mb B0 V n mn bc xs cs M m0' m1' k ts:=by obtain⟨P,U_,a,b⟩:=h.9;exact⟨h.1,h.2,h.3,h.z,h.5,h.6,h.7,h.8,P,U_,⟨a.1,a.2,a.3,a.4,λi g c e=>bC<|oN (((a.2 i c).lt g e).2)⟩,b⟩
theorem RL.same{k':N}{ts':Wc}(h:RL w wr z0 cb og wg sg mb B0 V n mn bc xs cs M m0 m1 k ts)(e:∀t,t<n->Yk xs k ts t=Yk xs k' ts' t):RL w wr z0 cb og wg sg mb B0 V n mn bc xs cs M m0 m1 k' ts':=by obtain⟨P,U_,c,b⟩:=h.9;exact⟨h.1,h.2,h.3,h.z,h.5,h.6,h.7,h.8,P,U_,c,λt a=>by rw[<-e t a];exact b t a⟩
end
section
open Go.Maps
theorem Mz:(prog.info? 141).map (λi=>(i.8,i.3,i.4))=S (S<|Hq,1,24):=vZ
theorem wG.keepS(b:wG w n m x l h)(o:YA 0 n w v):wG v n m x l h:=λr k j=>by obtain⟨d,a,p,q,c,e,f,g,i⟩:=b r k j;exact⟨d,a,p,q,c,e,f,g,i.keepS o⟩
structure vI(w wx:Ub)(cb og wg B0 V n:N)(bc:Zh)(xs:Wi):Prop where
 low:Sw (Z w.1) w wx
 pos:(Z w.1<=cb/\cb<Z wx.1)/\(Z w.1<=og/\og<Z wx.1)/\(Z w.1<=wg/\wg<Z wx.1)
 ne:cb≠og/\cb≠wg/\og≠wg
 bx:Bx wx cb bc 134
 og:∃f,wx.rowIs og 218 (V*2) f/\wG w B0 V xs (BX xs) f
 wg:wx.rowIs wg 141 n λ_=>X U 0 0
theorem vI.keep{w':Ub}{og wg:N}(h:vI w v n og wg m k B E_ x)(b:Sw (Z v.1) v w'):vI w w' n og wg m k B E_ x:=by obtain⟨f,a,c⟩:=h.5;have:=b.4;have:=h.2;exact⟨Xg h.1 b,O,h.3,h.4.keep<|b.5 _ h.4.lt,⟨f,a.of_block<|b.5 _ a.lt,c⟩,h.6.of_block<|b.5 _ h.6.lt⟩
theorem Td{og:N}(a:Zh)(p:m<=Z w.1)(b:Sw (Z w.1) w v)(h:mi v u og m k x (BX x)):vI w (D (D u (Sc (madeCells #[X U 0 0] n) 141)) (Sc a 134)) (Z u.1+1) og (Z u.1) m k n a x:=by obtain⟨g,e,i⟩:=h.3;have d:=Xg b h.1;have s:=b.4;have r:=h.2;have j:=e.lt;have c:=Xb (Xb (dC (Z u.1) u) (Sc (madeCells #[Hq] n) 141)) (Sc a 134);have o:=d.4;have f:=Bx.new (D u (Sc (madeCells #[Hq] n) 141)) a 134;rw[aO]at f;refine⟨Xg d c,?_,O,f,⟨g,e.of_block<|c.5 _ j,i.keepS λq _ l=>(b.5 q O).symm⟩,(dG u _ n _).of_block (gF _ _ _ sP)⟩;simp only[aO];omega
theorem Mb{og:N}(a:Zh)(r:m<=Z w.1)(c:Sw (Z w.1) w v)(h:mi (D v (Sc (madeCells #[X U 0 0] n) 141)) u og m k x (BX x)):vI w (D u (Sc a 134)) (Z u.1) og (Z v.1) m k n a x:=by obtain⟨f,e,i⟩:=h.3;have d:=Xb c (Sc (madeCells #[Hq] n) 141);have g:=Xg d h.1;have s:=c.4;have j:=h.2;have o:=h.1.4;rw[aO]at j o;have l:=e.lt;have b:=Xb (dC (Z u.1) u) (Sc a 134);refine⟨Xg g b,?_,O,Bx.new u a _,⟨f,e.of_block<|b.5 _ l,i.keepS λq _ p=>(d.5 q O).symm⟩,(dG v _ n _).of_block (G (b.5 _ O) (h.1.5 _ sP))⟩;simp only[aO];omega
theorem RL.push{wr:Ub}{og wg mn f e:N}{M:List ag}{P:N->List (N×I)}(d:RL w wr n m og wg k B g i j mn E_ x l M c f e L)(z:tc wr n wg j c f P h)(J_:yD x l M j e L P){b:N}(K:b<j)(Q_:f<=Z wr.1)(p:wr.grownBy v (h b).ownBlock)(S_:Sx v n 143 2 a (J (P b)+1) (sR (P b)++[Si S6 (e:I),Si S6 t]))(K_:a.ownBlock=(h b).ownBlock\/a.ownBlock=S (Z wr.1))(R_:(b:I)∉L)(O_:e<J x)(U_:rn l x M e x[e] (b:I) t):
 RL w (Se v ⟨wg,b,U⟩ a) n m og wg k B g i j mn E_ x l M c f e (L++[(b:I)])/\(∀q,q<Z wr.1->q≠wg->(q<n\/c<=q/\q<f)->(Se v ⟨wg,b,U⟩ a).1[q]?=wr.1[q]?/\v.1[q]?=wr.1[q]?)/\v.1[wg]?=wr.1[wg]?:=by
 have T_:=d.2;have F:=d.3;have X_:=d.z;have V_:=p.4;have T:∀q,(q<n\/c<=q/\q<f)->S q≠(h b).ownBlock:=λq V u=>by have o:=((z.2 b K).lt q u.symm).1;have r:=z.5 b q K u.symm;omega
 have C:∀q,q<Z wr.1->(q<n\/c<=q/\q<f)->v.1[q]?=wr.1[q]?:=λq o r=>p.5 q o<|T q r;have s:∀q,q<Z wr.1->q≠wg->(q<n\/c<=q/\q<f)->(Se v (A wg b) a).1[q]?=wr.1[q]?:=λq o r y=>G (cY r) (C q o y);obtain⟨I_,W,N_⟩:=d.6;have W_:=d.1.4;refine⟨⟨⟨G p.1 d.1.1,G p.2 d.1.2,G p.3 d.1.3,SF,λq V=>G (s q O O<|bC O) (d.1.5 q V)⟩,T_,F,SF,d.5.keep<|s m d.5.lt O (bC O),⟨I_,W.of_block<|s og W.lt O (bC O),N_⟩,d.7.of_block<|s k (World.rowIs.lt d.7) O (bC O),(d.8.kept p<|T B (bC O)).setCell (a:=(A wg b)) (λu=>F.2.2.1.2 u.symm) _,_,_,z.push K (e,t) p S_ K_ Q_,J_.push R_ O_ U_⟩,λq o r y=>⟨s q o r y,C q o y⟩,C wg z.1.lt<|bC O⟩
theorem RL.zero{wr:Ub}{og wg mn e b:N}{M:List ag}(h:RL w wr n m og wg k B g i j mn E_ x l M c e b L):RL w wr n m og wg k B g i j mn E_ x l M 0 0 b L:=by obtain⟨P,f,a,d⟩:=h.9;exact⟨h.1,h.2,h.3,h.z,h.5,h.6,h.7,h.8,P,f,⟨a.1,a.2,a.3,a.4,λ_ _ _ _=>aZ aN⟩,d⟩
end
end Go.Proofs.YtcncjgijikoapaaGreatDoor
