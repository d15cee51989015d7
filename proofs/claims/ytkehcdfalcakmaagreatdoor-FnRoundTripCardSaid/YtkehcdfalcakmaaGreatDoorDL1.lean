import Derived.Test.YtkehcdfalcakmaaGreatDoorDG3
namespace Go.Proofs.YtkehcdfalcakmaaGreatDoor
set_option maxHeartbeats 8000000
set_option maxRecDepth 100000
open Go.RowKit
structure X1 where
 k:Nat
 i:Nat
 gd:GdR
 ve:Value
 d12:Value
 d13:Value
 d14:Value
 d15:Value
 d16:Value
 d17:Value
 d18:Value
 d19:Value
 d20:Value
 d21:Value
 d22:Value
 d23:Value
 tl:List Value
theorem Tryz.infoSetD:(Tryz.prog.info? 150).map (fun i=>(i.zero,i.size,i.bytes))=some (some (.agg #[.slice none 0 0]),1,24):=by kernel_rfl
theorem Zao{near:Bool}:∀(k:Nat)(s:Sr)(vs:List Int)(v:Nat)(acc:List Xz),vs.length<=(Zt near k s vs v acc).2.1.length
 | 0,_,_,_,_=>Nat.le_refl _
 | k+1,s,vs,v,acc=>by
  rw[Zt];split
  ·have:=Zao (near:=near) k (instrP s vs v near).2 (vs++[(v:Int)]) (v+1) (acc++[(instrP s vs v near).1])
   simp only[List.length_append,List.length_cons,List.length_nil]at this;omega
  ·exact Zao k _ _ _ _
theorem Zia(i v:Nat)(vs:List Int)(s:Sr):vs.length<=(hdB i v vs s).vs.length/\(i=0->0<(hdB i v vs s).vs.length):=by
 unfold hdB;split
 ·refine⟨?_,fun _=>?_⟩
  ·show vs.length<=(vs++[(v:Int)]).length
   simp
  ·show 0<(vs++[(v:Int)]).length
   simp
 ·exact⟨Nat.le_refl _,fun h=>absurd h (by assumption)⟩
theorem lp1{Q:Exit->Act->World->Prop}(w:World)(sb B:Nat)(fb G c:Nat)(gi N ci:Nat)(ids:List Int)(near:Bool)(gd0:GdR)(c1 c2 c3 c4 c5 c9:Value)(hQ:Hid (∀c (a:Act) t v w,Q (.panic c) (a.put (some t) v) w->Q (.panic c) a w))(hN:N<=11)(hids:Hid (ids.length=N))(hid:Hid (∀b,0<b->b<N->∃c:Nat,ids.getD b 0=(c:Int)/\c<b))
 (hexit:∀(gd:GdR)(ve d12 d13 d14 d15 d16 d17 d18 d19 d20 d21 d22 d23:Value)(tl:List Value)(w':World),tl.length=251->gd=YR near ids N 0 gd0->(gd.ends.length=N/\gd.xs.length=N/\gd.v<=14*N/\∀e∈gd.ends,0<e.length/\e.length<=14*N)->GoA w w' sb B gd fb G c ve (.slice (some ⟨gi,0,none⟩) N ci) ids->Q (.exit 0) ⟨(.pointer (some ⟨sb,0,none⟩)::c1::c2::c3::c4::c5::.bool near::.pointer (some ⟨fb,0,none⟩)::.slice (some ⟨gi,0,none⟩) N ci::c9::ve::.int .i64 ((N:Nat):Int)::d12::d13::d14::d15::d16::d17::d18::d19::d20::d21::d22::d23::tl).toArray,[]⟩ w')
 (ve d12 d13 d14 d15 d16 d17 d18 d19 d20 d21 d22 d23:Value) (tl:List Value) (wr:World) (hl:tl.length=251) (hg0:Hid (gd0.ends=[]/\gd0.v=0/\gd0.xs.length=N)) (h:Hid (GoA w wr sb B gd0 fb G c ve (.slice (some ⟨gi,0,none⟩) N ci) ids)) :
 Code.wp Tryz.prog (Code.loop gB1) Q ⟨(.pointer (some ⟨sb,0,none⟩)::c1::c2::c3::c4::c5::.bool near::.pointer (some ⟨fb,0,none⟩)::.slice (some ⟨gi,0,none⟩) N ci::c9::ve::.int .i64 ((0:Nat):Int)::d12::d13::d14::d15::d16::d17::d18::d19::d20::d21::d22::d23::tl).toArray,[]⟩ wr:=by
 have HX:=Xa hexit;clear hexit;obtain⟨i0,hi0,hz0,hz1,hz2⟩:=X0 Tryz.infoSetD;obtain⟨j0,hj0,hy0,hy1,hy2⟩:=X0 Tryz.info2';obtain⟨m0,hm0,hx0,hx1,hx2⟩:=X0 Tryz.infoInsD;refine wp_loop (fun a' wr=>∃x:X1,a'=⟨(.pointer (some ⟨sb,0,none⟩)::c1::c2::c3::c4::c5::.bool near::.pointer (some ⟨fb,0,none⟩)::.slice (some ⟨gi,0,none⟩) N ci::c9::x.ve::.int .i64 ((x.i:Nat):Int)::x.d12::x.d13::x.d14::x.d15::x.d16::x.d17::x.d18::x.d19::x.d20::x.d21::x.d22::x.d23::x.tl).toArray,[]⟩/\x.tl.length=251/\x.i+x.k=N/\Hid (x.gd.ends.length=x.i/\x.gd.xs.length=N)/\Hid (YR near ids x.k x.i x.gd=YR near ids N 0 gd0)/\Hid (x.gd.v<=14*x.i/\∀e∈x.gd.ends,0<e.length/\e.length<=14*x.i)/\Hid (GoA w wr sb B x.gd fb G c x.ve (.slice (some ⟨gi,0,none⟩) N ci) ids)) (fun a' _=>N-(intOf (a'.tmps.getD 11 undef)).toNat) ⟨⟨N,0,gd0,ve,d12,d13,d14,d15,d16,d17,d18,d19,d20,d21,d22,d23,tl⟩,rfl,hl,by show 0+N=N;omega,Xa ⟨by show gd0.ends.length=0;rw[hg0.1];rfl,hg0.2.2⟩,Xa rfl,Xa ⟨by show gd0.v<=14*0;rw[hg0.2.1];omega,fun e he=>absurd he (by show ¬e∈gd0.ends;rw[hg0.1];simp)⟩,h⟩ ?_;clear h hl hg0;rintro a' wr ⟨⟨k,i,gd,ve,d12,d13,d14,d15,d16,d17,d18,d19,d20,d21,d22,d23,tl⟩,rfl,hl,hik,HL,HE,HV,HA⟩;dsimp only at hl hik HL HE HV HA |-
 conv=>arg 2;whnf
 obtain⟨f,rfl⟩:=spr tl hl;clear hl;have hfn:=HA.fn.1;have hsz:=HA.fn.2;rw[HL.2]at hfn;cases k with
 | succ k =>
  have hin:i<N:=by omega
  have hinI:(i:Int)<N:=by omega
  go_upto_if 71 with fail
  have HV0:Hid (GoV w (wr.alloc (.cells #[] 2)) sb B gd fb G c ve (.slice (some ⟨gi,0,none⟩) N ci) ids (.slice (some ⟨wr.heap.size,0,none⟩) 0 0) []):=Xa HA.start;clear HA;have HGR:Hid (w.heap.size<=wr.heap.size):=Xa hsz;clear hsz hfn;generalize wr.alloc (.cells #[] 2)=wa at *;generalize wr.heap.size=vb at *
  go_cut [12] from 62 to 202 (fun c12 wx=>Hid (GoV w wx sb B gd fb G c ve (.slice (some ⟨gi,0,none⟩) N ci) ids c12 (if i=0 then []else gd.ends.getD (ids.getD i 0).toNat [])))
  case first =>
   by_cases h0:i=0
   ·have h0I:¬(0:Int)<(i:Int):=by omega
    have HI0:=Xa h0;clear h0
    go_wp2_with fail
    go_meet;rw[if_pos HI0.out];exact HV0
   ·have h0I:(0:Int)<(i:Int):=by omega
    have HI0:=Xa h0;obtain⟨d,ed,hdi⟩:=hid.out i (by omega) hin;have hdl:d<gd.ends.length:=by have:=HL.out;omega
    have hlx:=HV.2 (gd.ends.getD d []) (ZaR gd.ends [] hdl);obtain⟨gi2,ci2,ge,ce,gx,cx,e1,hcd,e2,hcx,hgx,hnx⟩:=HV0.dom (by have:=hids.out;omega) ed hdl hlx.1;cases e1;have HDV:Hid ((ids.getD i 0).toNat=d):=Xa (by rw[ed];simp);rw[HL.1]at e2;subst e2;have HNX:=Xa hnx;have HGX:=Xa hgx;clear hnx hgx ed h0;have HLX:=Xa hlx;clear hlx hdl;obtain⟨lx,hlx⟩:∃lx,lx=(gd.ends.getD d []).length:=⟨_,rfl⟩;rw[<-hlx]at hcx;have HLE:=Xa hlx;clear hlx;obtain⟨-,-,hwz⟩:=HV0.fn
    go_wp2_with (at_builtin;refine wpList_append_own_at _ rfl _ _ 44 rfl w.heap.size 2 j0 (.int .i64 0) 1 8 Tryz.underlying44 hj0 hy0 hy1 hy2 rfl (by decide) _ 0 [] rfl HV0.own ⟨gx,0,none⟩ lx cx (Xo (gd.ends.getD d [])) rfl ?c0 HNX.out ?c2 ?c3 ?c4 ?c5 ?_)
    case c0=>rw[HLE.out];simp[Xo]
    case c2=>intro u hu;unfold Xo at hu;obtain⟨z,_,rfl⟩:=List.mem_map.1 hu;rfl
    case c3=>unfold maxLen;have:=HLX.out;have:=HLE.out;omega
    case c4=>have:=HLX.out;have:=HLE.out;omega
    intro v8 w8 hown8 hg8 hne8 hat8;have HV8:=Xa (HV0.push (vs':=gd.ends.getD d []) hg8 hown8 (by rw[List.length_nil,<-HLE.out,Nat.zero_add]) hat8);obtain⟨g8,c8',rfl,hgb,hcap⟩:=Xj hown8 (by have:=HLX.out;have:=HLE.out;omega);clear hgb hcap hne8 hat8 hown8 hg8
    go_wp2_with fail
    go_meet;rw[if_neg HI0.out,HDV.out];exact HV8
  case rest =>
   have HVx:=hcut;clear hcut HV0;have HVS:Hid ((if i=0 then []else gd.ends.getD (ids.getD i 0).toNat []).length<=14*i/\(i≠0->0<(if i=0 then []else gd.ends.getD (ids.getD i 0).toNat []).length)):=Xa (by
    by_cases h0:i=0
    ·rw[if_pos h0]
     exact⟨Nat.zero_le _,fun h=>absurd h0 h⟩
    ·rw[if_neg h0]
     obtain⟨d,ed,hdi⟩:=hid.out i (by omega) hin;have hdl:d<gd.ends.length:=by have:=HL.out;omega
     have hlx:=HV.2 (gd.ends.getD d []) (ZaR gd.ends [] hdl);rw[ed,Int.toNat_natCast];exact⟨hlx.2,fun _=>hlx.1⟩)
   have HE1:Hid (YR near ids k (i+1) ⟨gd.xs.set i (U4 near i (predsFrom gd.xs 0 (i:Int)).length (gd.xs.getD i XL).term (if i=0 then []else gd.ends.getD (ids.getD i 0).toNat []) gd.v gd.s).blk,gd.ends++[(U4 near i (predsFrom gd.xs 0 (i:Int)).length (gd.xs.getD i XL).term (if i=0 then []else gd.ends.getD (ids.getD i 0).toNat []) gd.v gd.s).vs],(U4 near i (predsFrom gd.xs 0 (i:Int)).length (gd.xs.getD i XL).term (if i=0 then []else gd.ends.getD (ids.getD i 0).toNat []) gd.v gd.s).v,(U4 near i (predsFrom gd.xs 0 (i:Int)).length (gd.xs.getD i XL).term (if i=0 then []else gd.ends.getD (ids.getD i 0).toNat []) gd.v gd.s).s⟩=YR near ids N 0 gd0):=HE;clear HE;generalize (if i=0 then []else gd.ends.getD (ids.getD i 0).toNat [])=vs0 at *;have hixs:i<gd.xs.length:=by have:=HL.out;omega
   have HTI:Hid ((gd.xs.getD i XL).term=gd.xs[i].term):=Xa (by simp[hixs]);obtain⟨p0,p1,p2,p3,p4,p5⟩:=HVx.cells2 HL.1 hixs;obtain⟨hfn,hfv,hsz⟩:=HVx.fn;rw[HL.2]at hfn;rw[HTI.out]at HE1;have HBX:=Xa (HVx.boxed gd.xs[i].term);clear HVx;generalize htt:gd.xs[i].term=tt at *;have HTT:=Xa htt;clear htt HTI;obtain⟨⟨f1,f0,fz⟩,hsz1,hxl,hfl,hxf⟩:=HBX.fn;rw[HL.2]at f1
   go_wp2_with fail
   have HXB:Hid (wc.heap.size=wc.heap.size):=Xa rfl;generalize wc.alloc (.cells #[.slice none 0 0,.slice none 0 0,.int .i64 tt.kind,.int .i64 tt.a,.int .i64 tt.to,.int .i64 tt.els] 43)=wx at *;clear p0 p1 p2 p3 p4 p5 hfn hfv hsz HXB;generalize wc.heap.size=xb at *;have HXL:Hid (N=gd.xs.length):=Xa HL.2.symm;refine(ZX gd.v (some ⟨G,0,none⟩) N c (i:Int) gd.xs w.heap.size wx.heap.size wx (Xa HBX.blks) HXL (by omega) (Nat.le_refl _)).mono ?_;rintro e w1 ⟨pa,pcap,rfl,hb1,-⟩;have HS1:=Xa (HBX.below hb1);clear hb1 HBX f1 f0 fz hsz1 hxl hfl hxf;have HE2:=HE1;clear HE1;generalize (predsFrom gd.xs 0 (i:Int)).length=np at *
   go_upto_if 92 with fail
   go_cut [15] from 62 to 202 (fun c15 wz=>c15=.int .i64 (((Tz np gd.s).1:Nat):Int)/\Hid (K2 w wz sb B (Tz np gd.s).2 gd.v gd fb G c ve (.slice (some ⟨gi,0,none⟩) N ci) ids xb tt [] [] u12 vs0))
   case first =>
    have HNP:Hid (Tz np gd.s=if 1<np then ((nextP gd.s 4).1.toNat,(nextP gd.s 4).2)else if np=1 then (if (nextP gd.s 6).1=0 then 1 else 0,(nextP gd.s 6).2)else (0,gd.s)):=Xa rfl;by_cases h1:1<np
    ·have h1I:(1:Int)<np:=by omega
     rw[if_pos h1]at HNP
     go_wp2_with fail
     refine(Xv sb B gd.s 4 w1 (Xa HS1.dr) (by omega) (by omega)).mono ?_;rintro e w2 ⟨rfl,hd,hg⟩;have hlt:=Xx gd.s (n:=4) (by omega);obtain⟨r,s1,hrs⟩:∃r s9,nextP gd.s 4=(r,s9):=⟨_,_,rfl⟩;rw[hrs]at hd HNP hlt |-;dsimp only at hd HNP hlt |-;obtain⟨r,rfl⟩:=Zr hlt.1;rw[Int.toNat_natCast]at HNP;have HS2:=Xa (HS1.call hg hd);clear hd hg hrs
     go_wp2_with fail
     go_meet;rw[HNP.out];exact⟨rfl,HS2⟩
    ·have h1I:¬(1:Int)<np:=by omega
     rw[if_neg h1]at HNP;by_cases h2:np=1
     ·have h2b:((np:Int)==1)=true:=by simp;omega
      rw[if_pos h2]at HNP;subst h2
      go_wp2_with fail
      refine(Xv sb B gd.s 6 w1 (Xa HS1.dr) (by omega) (by omega)).mono ?_;rintro e w2 ⟨rfl,hd,hg⟩;obtain⟨r,s1,hrs⟩:∃r s9,nextP gd.s 6=(r,s9):=⟨_,_,rfl⟩;rw[hrs]at hd HNP |-;dsimp only at hd HNP |-;have HS2:=Xa (HS1.call hg hd);clear hd hg hrs;by_cases hr:r=0
      ·have hrb:(r==0)=true:=by simpa using hr
       rw[if_pos hr]at HNP;clear hr
       go_wp2_with fail
       go_meet;rw[HNP.out];exact⟨rfl,HS2⟩
      ·have hrb:(r==0)=false:=by simpa using hr
       rw[if_neg hr]at HNP;clear hr
       go_wp2_with fail
       go_meet;rw[HNP.out];exact⟨rfl,HS2⟩
     ·have h2b:((np:Int)==1)=false:=by simp;omega
      rw[if_neg h2]at HNP
      go_wp2_with fail
      go_meet;rw[HNP.out];exact⟨rfl,HS1⟩
   case rest =>
    obtain⟨rfl,HSx⟩:=hcut;clear HS1;have hpc:=Zdj np gd.s;have HSV:Hid (gd.v<=5000/\vs0.length<=4000):=Xa (by have:=HV.out;have:=HVS.out;omega);obtain⟨P,hP⟩:∃P,P=Tz np gd.s:=⟨_,rfl⟩;have HBK:Hid (∀near i t vs0 v,U4 near i np t vs0 v gd.s=⟨⟨Uw P.1 v,(Zt near (hdB i (v+P.1) (vs0++ZG P.1 v) P.2).cnt (hdB i (v+P.1) (vs0++ZG P.1 v) P.2).s (hdB i (v+P.1) (vs0++ZG P.1 v) P.2).vs (hdB i (v+P.1) (vs0++ZG P.1 v) P.2).v (hdB i (v+P.1) (vs0++ZG P.1 v) P.2).ins).1,(terG near t (Zt near (hdB i (v+P.1) (vs0++ZG P.1 v) P.2).cnt (hdB i (v+P.1) (vs0++ZG P.1 v) P.2).s (hdB i (v+P.1) (vs0++ZG P.1 v) P.2).vs (hdB i (v+P.1) (vs0++ZG P.1 v) P.2).v (hdB i (v+P.1) (vs0++ZG P.1 v) P.2).ins).2.1 (Zt near (hdB i (v+P.1) (vs0++ZG P.1 v) P.2).cnt (hdB i (v+P.1) (vs0++ZG P.1 v) P.2).s (hdB i (v+P.1) (vs0++ZG P.1 v) P.2).vs (hdB i (v+P.1) (vs0++ZG P.1 v) P.2).v (hdB i (v+P.1) (vs0++ZG P.1 v) P.2).ins).2.2.2).1⟩,(Zt near (hdB i (v+P.1) (vs0++ZG P.1 v) P.2).cnt (hdB i (v+P.1) (vs0++ZG P.1 v) P.2).s (hdB i (v+P.1) (vs0++ZG P.1 v) P.2).vs (hdB i (v+P.1) (vs0++ZG P.1 v) P.2).v (hdB i (v+P.1) (vs0++ZG P.1 v) P.2).ins).2.1,(Zt near (hdB i (v+P.1) (vs0++ZG P.1 v) P.2).cnt (hdB i (v+P.1) (vs0++ZG P.1 v) P.2).s (hdB i (v+P.1) (vs0++ZG P.1 v) P.2).vs (hdB i (v+P.1) (vs0++ZG P.1 v) P.2).v (hdB i (v+P.1) (vs0++ZG P.1 v) P.2).ins).2.2.1,(terG near t (Zt near (hdB i (v+P.1) (vs0++ZG P.1 v) P.2).cnt (hdB i (v+P.1) (vs0++ZG P.1 v) P.2).s (hdB i (v+P.1) (vs0++ZG P.1 v) P.2).vs (hdB i (v+P.1) (vs0++ZG P.1 v) P.2).v (hdB i (v+P.1) (vs0++ZG P.1 v) P.2).ins).2.1 (Zt near (hdB i (v+P.1) (vs0++ZG P.1 v) P.2).cnt (hdB i (v+P.1) (vs0++ZG P.1 v) P.2).s (hdB i (v+P.1) (vs0++ZG P.1 v) P.2).vs (hdB i (v+P.1) (vs0++ZG P.1 v) P.2).v (hdB i (v+P.1) (vs0++ZG P.1 v) P.2).ins).2.2.2).2⟩):=Xa (fun near i t vs0 v=>by rw[hP];rfl);rw[<-hP]at HSx hpc |-;clear hP;obtain⟨pc,s1⟩:=P;dsimp only at HSx hpc HBK |-
    go_wp2_with fail
    refine lp2 w sb B s1 gd.v gd fb G c ve (.slice (some ⟨gi,0,none⟩) N ci) ids xb tt near vs0 pc _ _ _ _ _ _ _ _ _ _ _ _ _ _ _ _ _ hpc HSV.1 HSV.2 ?_ _ _ _ rfl HSx;rintro vv tl w2 hl hs2;have HS2:=Xa hs2;clear hs2 HSx;obtain⟨f,rfl⟩:=spr tl hl;clear hl;have HHV:Hid (gd.v+pc<=3000/\(vs0++ZG pc gd.v).length<=3000):=Xa (by have:=HV.out;have:=HVS.out;rw[List.length_append,KX];omega);have HHR:Hid (gd.v+pc<=14*i+3/\(vs0++ZG pc gd.v).length<=14*i+3/\(i≠0->0<(vs0++ZG pc gd.v).length)):=Xa (by
     have:=HV.out;have h2:=HVS.out;rw[List.length_append,KX];exact⟨by omega,by omega,fun h=>by have:=h2.2 h;omega⟩)
    have HBK2:=Xa (HBK.out near i tt vs0 gd.v);clear HBK;rw[HBK2.out]at HE2;clear HBK2;generalize gd.v+pc=v1 at *;generalize vs0++ZG pc gd.v=vs1 at *;have hsz3:=HS2.dr.src.c3;have hok3:=HS2.dr.ok.size
    go_wp2_with fail
    refine(Xv sb B s1 (3+s1.size) w2 (Xa HS2.dr) (by omega) (by omega)).mono ?_;rintro e w3 ⟨rfl,hd,hg⟩;have hlt3:=Xx s1 (n:=3+s1.size) (by omega);have HS3:=Xa (HS2.call hg hd);clear hd hg hsz3;have HHD:Hid (hdB i v1 vs1 s1=if i=0 then ⟨(nextP s1 (3+s1.size)).1.toNat+1,[⟨2,v1,0,0,(nextP (nextP s1 (3+s1.size)).2 3).1⟩],vs1++[(v1:Int)],v1+1,(nextP (nextP s1 (3+s1.size)).2 3).2⟩else ⟨(nextP s1 (3+s1.size)).1.toNat,[],vs1,v1,(nextP s1 (3+s1.size)).2⟩):=Xa rfl;have HHL:=Xa (Zhr i v1 vs1 HS2.dr.ok);have HHG:=Xa (Zia i v1 vs1 s1);clear HS2;generalize hdB i v1 vs1 s1=H at *;generalize nextP s1 (3+s1.size)=X3 at *;obtain⟨r,s2⟩:=X3;dsimp only at HS3 HHD hlt3 |-;obtain⟨r,rfl⟩:=Zr hlt3.1;rw[Int.toNat_natCast]at HHD;have hr10:r<10:=by omega
    clear hlt3 hok3
    go_upto_if 132 with fail
    go_cut [12,17] from 62 to 202 (fun c12 c17 wz=>c17=.int .i64 ((H.cnt:Nat):Int)/\Hid (K2 w wz sb B H.s H.v gd fb G c ve (.slice (some ⟨gi,0,none⟩) N ci) ids xb tt (Uw pc gd.v) H.ins c12 H.vs))
    case first =>
     by_cases h0:i=0
     ·have h0b:((i:Int)==0)=true:=by simp;omega
      rw[if_pos h0]at HHD;clear h0;obtain⟨⟨f1,f0,fz⟩,hsz4,hxl,hfl,hxf⟩:=HS3.fn;have HXF:=Xa hxf;obtain⟨lab,pv,iv,av,ev,p3,q3,hb3⟩:=HS3.out;obtain⟨qa,qc,hq3⟩:=hb3.x.xi.form;rw[List.length_nil]at hq3;subst hq3;have x1:w3.cell? ⟨xb,1,none⟩=some (.slice qa 0 qc):=Bx.cell hb3.x.bx rfl;have HB3:=Xa hb3;clear hb3 f1 fz hxf HS3;obtain⟨X4,hX4⟩:∃X,X=nextP s2 3:=⟨_,rfl⟩;obtain⟨r4,s4⟩:=X4;have hrs4:=hX4.symm;rw[hrs4]at HHD;dsimp only at HHD;clear hX4;have HV1:Hid (v1<=3000/\vs1.length<=3000):=HHV
      go_upto_region 33 with fail
      go_cut [] from 62 to 202 (fun wz=>Hid (K2 w wz sb B s4 v1 gd fb G c ve (.slice (some ⟨gi,0,none⟩) N ci) ids xb tt (Uw pc gd.v) [⟨2,((v1:Nat):Int),0,0,r4⟩] vv vs1))
      case first =>
       go_wp2_with fail
       refine YZ (fun w'=>w'.cell? ⟨fb,0,none⟩=some (.int .i64 ((v1:Nat):Int))) (fun hHeld=>?_);refine XI 0 ?_;refine XI 2 ?_;refine XI 3 ?_;refine XI 4 ?_;refine wpAnyH_ready (rs:=[1,5]) (by kernel_rfl) (by simp) ?_;refine(AllReadyH.cons rfl (fun K hK=>?_) (AllReadyH.cons rfl (fun K hK=>?_) AllReadyH.nil))
       focus
        go_simp;refine hK _ _ (by first | with_reducible exact hHeld | ((try dsimp only);go_keep)) (fun hHeld=>?_);clear hK
        try simp only[Act.put,xA,xB,xC,xD,xE,xF]
        refine Xw 5 (fun K hK=>?_);go_simp
        go_at_call 30
        refine(Xv sb B s2 3 _ (Xa HB3.drew.f.dr) (by omega) (by omega)).mono ?_;rintro e w4 ⟨rfl,hd,hg⟩;have HB4:=Xa (HB3.drew.call hg hd);rw[hrs4]at HB4 |-;dsimp only at HB4 |-;have y0:w4.cell? ⟨fb,0,none⟩=some (.int .i64 ((v1:Nat):Int)):=Bx.cell HB4.f.fbx rfl;have y1:w4.cell? ⟨xb,1,none⟩=some (.slice qa 0 qc):=Bx.cell HB4.x.bx rfl;have hsz4:=HB4.f.gr.size;have hxl4:=HB4.x.bx.lt;clear hd hg;refine hK _ _ y0 (fun hHeld=>?_);clear hK;refine XI 6 ?_;refine Xw 7 (fun K hK=>?_);go_simp;refine hK _ _ (by first | with_reducible exact hHeld | ((try dsimp only);go_keep)) (fun hHeld=>?_);clear hK
       rotate_left
       focus
        go_simp
        go_at_call 30
        refine(Xv sb B s2 3 _ (Xa HB3.drew.f.dr) (by omega) (by omega)).mono ?_;rintro e w4 ⟨rfl,hd,hg⟩;have HB4:=Xa (HB3.drew.call hg hd);rw[hrs4]at HB4 |-;dsimp only at HB4 |-;have y0:w4.cell? ⟨fb,0,none⟩=some (.int .i64 ((v1:Nat):Int)):=Bx.cell HB4.f.fbx rfl;have y1:w4.cell? ⟨xb,1,none⟩=some (.slice qa 0 qc):=Bx.cell HB4.x.bx rfl;have hsz4:=HB4.f.gr.size;have hxl4:=HB4.x.bx.lt;clear hd hg;refine hK _ _ y0 (fun hHeld=>?_);clear hK
        try simp only[Act.put,xA,xB,xC,xD,xE,xF]
        refine XI 6 ?_;refine wpAnyH_ready (rs:=[1,7]) (by kernel_rfl) (by simp) ?_;refine(AllReadyH.cons rfl (fun K hK=>?_) (AllReadyH.cons rfl (fun K hK=>?_) AllReadyH.nil))
       focus
        go_simp;refine hK _ _ (by first | with_reducible exact hHeld | ((try dsimp only);go_keep)) (fun hHeld=>?_);clear hK
        try simp only[Act.put,xA,xB,xC,xD,xE,xF]
        refine Xw 7 (fun K hK=>?_);go_simp;refine hK _ _ (by first | with_reducible exact hHeld | ((try dsimp only);go_keep)) (fun hHeld=>?_);clear hK
       rotate_left
       focus
        go_simp;refine hK _ _ (by first | with_reducible exact hHeld | ((try dsimp only);go_keep)) (fun hHeld=>?_);clear hK
        try simp only[Act.put,xA,xB,xC,xD,xE,xF]
        refine Xw 1 (fun K hK=>?_);go_simp;refine hK _ _ (by first | with_reducible exact hHeld | ((try dsimp only);go_keep)) (fun hHeld=>?_);clear hK
       all_goals (
        refine Xw 8 (fun K hK=>?_);refine Zh rfl _ _ 39 rfl w.heap.size 53 m0 (.agg #[.int .i64 0,.int .i64 0,.int .i64 0,.int .i64 0,.int .i64 0]) 5 40 Tryz.underlying39 hm0 hx0 hx1 hx2 rfl (by decide) (.slice qa 0 qc) 0 [] rfl ?s1 ⟨w4.heap.size,0,none⟩ 1 1 [.int .i64 2,.int .i64 ((v1:Nat):Int),.int .i64 0,.int .i64 0,.int .i64 r4] rfl rfl ?s2 ?s3 ?s4 ?s5 ?s6 ?_
        case s1=>exact HB4.x.xi.own.alloc _
        case s2=>exact World.news_of_block (World.alloc_heap_new _ _)
        case s3=>intro u hu;simp at hu;rcases hu with rfl | rfl | rfl | rfl<;>rfl
        case s4=>unfold maxLen;omega
        case s5=>omega
        case s6=>simp;omega
        intro v8 w8 hown8 hg8 hne8 hat8;obtain⟨hx8,lab',hb9⟩:=(HB4.box _).pushI (x:=⟨2,((v1:Nat):Int),0,0,r4⟩) hg8 hown8 rfl (by rw[World.size_alloc];simpa using hat8);obtain⟨g8,c8',rfl,hgb,hcap⟩:=Xj hown8 (by omega);have z0:w8.cell? ⟨fb,0,none⟩=some (.int .i64 ((v1:Nat):Int)):=Bx.cell ((HB4.f.fbx.box _).grown hg8 (fun e=>Zn HB4.x.xi.own HB4.f.fbx (by decide) e.symm)) rfl;have z1:w8.cell? ⟨xb,1,none⟩=some (.slice qa 0 qc):=Bx.cell hx8 rfl;have zf:=Bx.thaw hx8;rw[Nat.zero_add]at hb9;have HB9:=Xa hb9;clear hgb hcap hne8 hat8 hown8 hg8 hb9 hx8;refine hK _ _ z0 (fun hHeld=>?_);clear hK;refine XI 9 ?_;refine Xw 10 (fun K hK=>?_);go_simp;refine hK _ _ ((Xc (Below.heap_setCell _ _ _ _ (Ne.symm HXF.out))).trans z0) (fun hHeld=>?_);clear hK;refine Y7 ?_;clear hHeld z0 z1 zf y0 y1
        go_wp2_with fail
        go_meet;exact Xa ⟨_,_,_,_,_,_,_,HB9.out⟩)
      case rest =>
       have HS9:=hcut;have hv1b:=HV1.1;clear HB3 x1 f0;generalize wc=w9 at *;obtain⟨⟨-,f0',fz'⟩,hsz9,-,-,-⟩:=HS9.fn;obtain⟨vo,va,vc,ev',-⟩:=HS9.vals;have HVO:=Xa vo;obtain⟨ln,hln⟩:∃ln,ln=vs1.length:=⟨_,rfl⟩;rw[<-hln]at ev';subst ev';have HLN:=Xa hln;clear hln vo
       go_wp2_with (at_builtin;refine wpList_append_own_at _ rfl _ _ 44 rfl w.heap.size 2 j0 (.int .i64 0) 1 8 Tryz.underlying44 hj0 hy0 hy1 hy2 rfl (by decide) _ vs1.length (Xo vs1) rfl (HVO.alloc _) ⟨w9.heap.size,0,none⟩ 1 1 [.int .i64 ((v1:Nat):Int)] rfl rfl ?e1 ?e2 ?e3 ?e4 ?e5 ?_)
       case e1=>exact YB _ _ _
       case e2=>intro u hu;simp at hu;subst hu;rfl
       case e3=>unfold maxLen;have:=HV1.out;omega
       case e4=>have:=HV1.out;omega
       case e5=>simp;omega
       intro v10 w10 hown10 hg10 hne10 hat10;have HS10:=Xa ((HS9.box _).pushV hg10 hown10 rfl (by rw[World.size_alloc];exact hat10));obtain⟨g10,c10',rfl,hgb,hcap⟩:=Xj hown10 (by omega);clear hgb hcap hne10 hat10 hown10 hg10 f0' fz';obtain⟨⟨-,f0,fz⟩,-⟩:=HS10.fn
       go_wp2_with fail
       go_meet;rw[HHD.out];have hfin:=HS10.val (v1+1);rw[show((v1+1:Nat):Int)=(v1:Int)+1 by omega]at hfin;exact⟨by show _=Value.int .i64 ((r+1:Nat):Int);rw[Int.natCast_add];rfl,Xa hfin⟩
     ·have h0b:((i:Int)==0)=false:=by simp;omega
      rw[if_neg h0]at HHD;clear h0
      go_wp2_with fail
      go_meet;rw[HHD.out];exact⟨rfl,HS3⟩
    case rest =>
     obtain⟨rfl,HS4⟩:=hcut;clear HS3 HHD
     go_wp2_with fail
     refine lp3 w sb B gd fb G c ve (.slice (some ⟨gi,0,none⟩) N ci) ids xb tt (Uw pc gd.v) near H.cnt H.s H.vs H.v H.ins _ _ _ _ _ _ _ _ _ _ _ _ _ _ _ _ HHL.1 (by have:=HHL.out;have:=HHV.out;omega) (by have:=HHL.out;have:=HHV.out;omega) (by have:=HHL.out;omega) ?_ _ _ _ _ rfl HS4;rintro s5 v5 vs5 is5 vv5 c19 tl w5 hl hR hs5;have HS5:=Xa hs5;have HB5:=Xa (Vm (near:=near) H.cnt H.s H.vs H.v H.ins);have HB6:=Xa (Zao (near:=near) H.cnt H.s H.vs H.v H.ins);rw[<-hR]at HE2 HB5 HB6;clear hs5 HS4 hR;dsimp only at HE2 HB5 HB6;obtain⟨f,rfl⟩:=spr tl hl;clear hl;obtain⟨lab,pv,iv,av,ev,p5,q5,hb5⟩:=HS5.out;have x2:w5.cell? ⟨xb,2,none⟩=some (.int .i64 tt.kind):=Bx.cell hb5.x.bx rfl;clear hb5
     go_upto_if 186 with fail
     have HTG:Hid (terG near tt vs5 s5=if tt.kind=1 then (tt,s5)else (⟨tt.kind,(Yu s5 vs5 near).1,tt.to,tt.els⟩,(Yu s5 vs5 near).2)):=Xa rfl;have HB7:=HE2;clear HE2;generalize terG near tt vs5 s5=TT at *
     go_cut [] from 62 to 202 (fun wz=>Hid (K2 w wz sb B TT.2 v5 gd fb G c ve (.slice (some ⟨gi,0,none⟩) N ci) ids xb TT.1 (Uw pc gd.v) is5 vv5 vs5))
     case first =>
      by_cases hk:tt.kind=1
      ·have hkb:(tt.kind != 1)=false:=by simpa using hk
       rw[if_pos hk]at HTG;clear hk
       go_wp2_with fail
       go_meet;rw[HTG.out];exact HS5
      ·have hkb:(tt.kind != 1)=true:=by simpa using hk
       rw[if_neg hk]at HTG;clear hk;obtain⟨-,va,vc,ev',hva⟩:=HS5.vals;obtain⟨ln,hln⟩:∃ln,ln=vs5.length:=⟨_,rfl⟩;rw[<-hln]at ev';subst ev';have HLN:=Xa hln;have HVA:=Xa hva;clear hln hva;have hln5:ln<=5000:=by have:=HB5.out;have:=HHL.out;have:=HHV.out;have:=HLN.out;omega
       have hsbw:sb<w.heap.size:=by obtain⟨lab,pv,iv,av,ev,p,q,hb⟩:=HS5.out;exact hb.f.lt
       go_wp2_with fail
       refine(Jp sb B s5 va ln vc vs5 w.heap.size w5.heap.size near w5 (Xa HS5.dr) HVA HLN hln5 hsbw (Nat.le_refl _)).mono ?_;rintro e w6 ⟨rfl,hd,hg⟩;obtain⟨lab,pv,iv,av,ev,p6,q6,hb6⟩:=(HS5.call hg hd);have HB6:=Xa hb6;have y3:w6.cell? ⟨xb,3,none⟩=some (.int .i64 tt.a):=Bx.cell hb6.x.bx rfl;have yz:=Bx.thaw hb6.x.bx;clear hb6 hd hg
       go_wp2_with fail
       go_meet;rw[HTG.out];exact Xa ⟨_,_,_,_,_,_,_,HB6.terA _⟩
     case rest =>
      have HS7:=hcut;clear HS5 HTG x2 hcut;obtain⟨tz,s7⟩:=TT;dsimp only at HS7 HB7;obtain⟨lab,pv,iv,av,ev,p7,q7,hb7⟩:=HS7.out;obtain⟨pa7,pc7,hp7⟩:=hb7.x.xp.form;obtain⟨qa7,qc7,hq7⟩:=hb7.x.xi.form;rw[Ke]at hp7;obtain⟨il,hil⟩:∃il,il=is5.length:=⟨_,rfl⟩;rw[<-hil]at hq7;subst hp7 hq7;have HIL:=Xa hil;clear hil;have HB8:=Xa hb7;have x0:wc.cell? ⟨xb,0,none⟩=some (.slice pa7 pc pc7):=Bx.cell hb7.x.bx rfl;have x1:wc.cell? ⟨xb,1,none⟩=some (.slice qa7 il qc7):=Bx.cell hb7.x.bx rfl;have x2:wc.cell? ⟨xb,2,none⟩=some (.int .i64 tz.kind):=Bx.cell hb7.x.bx rfl;have x3:wc.cell? ⟨xb,3,none⟩=some (.int .i64 tz.a):=Bx.cell hb7.x.bx rfl;have x4:wc.cell? ⟨xb,4,none⟩=some (.int .i64 tz.to):=Bx.cell hb7.x.bx rfl;have x5:wc.cell? ⟨xb,5,none⟩=some (.int .i64 tz.els):=Bx.cell hb7.x.bx rfl;have hfn:wc.cell? ⟨fb,1,none⟩=some (.slice (some ⟨G,0,none⟩) N c):=by rw[HXL.out];exact Bx.cell hb7.f.fbx rfl
      have hGc:∀q,q<6->∃u,wc.cell? ⟨G,i*6+q,none⟩=some u:=fun q hq=>by
       have hbk:=hb7.f.fn.blks;have:=Xu (fun i x=>JZ (pv i) (iv i) (Xf.term x)) 0 gd.xs i hixs q hq;rw[Nat.zero_add]at this;have hlen:=JZ (pv i) (iv i) gd.xs[i].term;refine⟨(Tk (pv i) (iv i) gd.xs[i].term)[q],hbk.cell (this.trans ?_)⟩;exact List.getElem?_eq_getElem (by omega)
      obtain⟨u0,k0⟩:=hGc 0 (by omega);obtain⟨u1,k1⟩:=hGc 1 (by omega);obtain⟨u2,k2⟩:=hGc 2 (by omega);obtain⟨u3,k3⟩:=hGc 3 (by omega);obtain⟨u4,k4⟩:=hGc 4 (by omega);obtain⟨u5,k5⟩:=hGc 5 (by omega);rw[Nat.add_zero]at k0;have kz:∀q,wc.frozen? ⟨G,q,none⟩=false:=fun q=>hb7.f.fn.blks.thaw q
      have hsz8:=hb7.f.gr.size;clear hb7 hGc
      go_upto_region 48 with fail
      clear x0 x1 x2 x3 x4 x5 k0 k1 k2 k3 k4 k5 kz hfn;obtain⟨he9,hf9,hz9⟩:=HB8.es9;rw[HL.1]at he9 hf9 hz9;have HC9:Hid (∀o ve' n' w',(((laid6 wc G (i*6) (.slice pa7 pc pc7) (.slice qa7 il qc7) tz).alloc o).grownBy w' ve.ownBlock)->w'.ownsRow w.heap.size 150 1 ve' n' (XW (fun i _=>[ev i]) 0 gd.ends++[vv5])->n'=i+1->(ve'.ownBlock=ve.ownBlock\/ve'.ownBlock=some ((laid6 wc G (i*6) (.slice pa7 pc pc7) (.slice qa7 il qc7) tz).alloc o).heap.size)->∃lab' pv' iv' av' ev',J6 w w' lab' sb B s7 fb v5 G c (gd.xs.set i ⟨Uw pc gd.v,is5,tz⟩) pv' iv' av' ve' ev' (gd.ends++[vs5]) (.slice (some ⟨gi,0,none⟩) N ci) ids):=Xa (fun o ve' n' w' h1 h2 h3 h4=>by
       have hcl:=HB8.close (o:=o) (ve':=ve') (n':=n') (w':=w') (by have:=HL.out;omega) (by rw[HL.1];exact h1) h2 (by rw[HL.1];exact h3) (by rw[HL.1];exact h4) (fun x hx=>by unfold Uw at hx;obtain⟨j,_,rfl⟩:=List.mem_map.1 hx;rfl);rw[HL.1]at hcl;exact hcl)
      have HES:=Xa he9.own;have HSZ:Hid (w.heap.size<=(laid6 wc G (i*6) (.slice pa7 pc pc7) (.slice qa7 il qc7) tz).heap.size):=Xa (by rw[hz9];exact hsz8);clear he9 hf9 hz9 hsz8;have HLW:Hid ((((((wc.setCell ⟨G,i*6,none⟩ (.slice pa7 pc pc7)).setCell ⟨G,i*6+1,none⟩ (.slice qa7 il qc7)).setCell ⟨G,i*6+2,none⟩ (.int .i64 tz.kind)).setCell ⟨G,i*6+3,none⟩ (.int .i64 tz.a)).setCell ⟨G,i*6+4,none⟩ (.int .i64 tz.to)).setCell ⟨G,i*6+5,none⟩ (.int .i64 tz.els)=laid6 wc G (i*6) (.slice pa7 pc pc7) (.slice qa7 il qc7) tz):=Xa rfl;rw[HLW.out];generalize laid6 wc G (i*6) (.slice pa7 pc pc7) (.slice qa7 il qc7) tz=w9 at *;obtain⟨ea,ec,hve⟩:∃a c,ve=.slice a i c:=by
       rcases HES.2 with⟨e,h0⟩ | ⟨g,cap,_,e,_⟩
       ·exact⟨none,0,by rw[e,h0]⟩
       ·exact⟨_,_,e⟩
      subst hve;obtain⟨va5,vc5,hvv⟩:∃a c,vv5=.slice a vs5.length c:=by
       obtain⟨a,c,e⟩:=HB8.x.xv.form;exact⟨a,c,e⟩
      obtain⟨vl,hvl⟩:∃vl,vl=vs5.length:=⟨_,rfl⟩;rw[<-hvl]at hvv;subst hvv;have hsz9:=HSZ.out;clear hvl
      go_wp2_with (at_builtin;refine wpList_append_own_at _ rfl _ _ 147 rfl w.heap.size 150 i0 (.agg #[.slice none 0 0]) 1 24 Tryz.underlying147 hi0 hz0 hz1 hz2 rfl (by decide) _ i (XW (fun i _=>[ev i]) 0 gd.ends) rfl (HES.alloc _) ⟨w9.heap.size,0,none⟩ 1 1 [.slice va5 vl vc5] rfl rfl ?f1 ?f2 ?f3 ?f4 ?f5 ?_)
      case f1=>exact YB _ _ _
      case f2=>intro u hu;simp at hu;subst hu;rfl
      case f3=>unfold maxLen;omega
      case f4=>omega
      case f5=>simp;omega
      intro v10 w10 hown10 hg10 hne10 hat10;obtain⟨lab',pv',iv',av',ev',hfin⟩:=HC9.out _ _ _ _ hg10 hown10 rfl (by rw[World.size_alloc];exact hat10);obtain⟨g10,c10',rfl,hgb,hcap⟩:=Xj hown10 (by omega);have HFN:=Xa hfin;clear hgb hcap hne10 hat10 hown10 hg10 hfin
      go_wp2_with fail
      refine⟨⟨⟨k,i+1,⟨gd.xs.set i ⟨Uw pc gd.v,is5,tz⟩,gd.ends++[vs5],v5,s7⟩,_,_,_,_,_,_,_,_,_,_,_,_,_,_⟩,rfl,rfl,(by show i+1+k=N;omega),Xa ?_,HB7,Xa ?_,Xa ⟨_,_,_,_,_,HFN.out⟩⟩,by simp[intOf];omega⟩
      ·have:=HL.out
       exact⟨by show(gd.ends++[vs5]).length=i+1;rw[List.length_append,this.1];rfl,by show(gd.xs.set i _).length=N;rw[List.length_set];exact this.2⟩
      ·have a1:=HB5.out
       have a2:=HHL.out;have a3:=HHR.out;have a4:=HHG.out;have a5:=HB6.out;have a6:=HV.out;refine⟨by show v5<=14*(i+1);omega,fun e he=>?_⟩;rcases List.mem_append.1 he with he | he
       ·have:=a6.2 e he
        show 0<e.length/\e.length<=14*(i+1);omega
       ·simp only[List.mem_cons,List.not_mem_nil,or_false]at he
        subst he;show 0<e.length/\e.length<=14*(i+1);have hp:0<H.vs.length:=by
         by_cases h0:i=0
         ·exact a4.2 h0
         ·have:=a3.2.2 h0
          omega
        omega
 | zero =>
  have hin:¬(i:Int)<N:=by omega
  have hie:i=N:=by omega
  subst hie
  go_wp2_with fail
  exact HX.out _ _ _ _ _ _ _ _ _ _ _ _ _ _ _ _ rfl HE.out ⟨HL.1,HL.2,HV.1,HV.2⟩ HA.out
end Go.Proofs.YtkehcdfalcakmaaGreatDoor
