import Derived.Test.YtbofmlmdgkblkaaDoorLU3
import Derived.Test.YtbofmlmdgkblkaaDoorMA1
namespace Go.Proofs.YtbofmlmdgkblkaaDoor
set_option maxHeartbeats 8000000
set_option maxRecDepth 100000
open Go.RowKit
theorem Zhz{xs:List Xg}(hok:WY xs){b:Nat}(hb:b<xs.length)(hk:xs[b].term.kind=1\/xs[b].term.kind=2):∃t:Nat,xs[b].term.to=(t:Int)/\(t:Int)∈xs[b].term.targets/\t<xs.length:=by
 have hm:xs[b].term.to∈xs[b].term.targets:=by
  unfold XZ.targets;rcases hk with hk | hk
  ·rw[if_pos hk];simp
  ·rw[if_neg (by omega),if_pos hk];simp
 have h1:=hok.tgt _ (List.getElem_mem hb) _ hm;have e:xs[b].term.to=((xs[b].term.to.toNat:Nat):Int):=by omega
 exact⟨xs[b].term.to.toNat,e,by rw[<-e];exact hm,by omega⟩
theorem Zgn{xs:List Xg}(hok:WY xs){b:Nat}(hb:b<xs.length)(hk:xs[b].term.kind=2):∃t:Nat,xs[b].term.els=(t:Int)/\(t:Int)∈xs[b].term.targets/\t<xs.length:=by
 have hm:xs[b].term.els∈xs[b].term.targets:=by
  unfold XZ.targets;rw[if_neg (by omega),if_pos hk];simp
 have h1:=hok.tgt _ (List.getElem_mem hb) _ hm;have e:xs[b].term.els=((xs[b].term.els.toNat:Nat):Int):=by omega
 exact⟨xs[b].term.els.toNat,e,by rw[<-e];exact hm,by omega⟩
theorem Wj{v:Int}{xs:List Xg}(h:Y7 ⟨v,xs⟩=true){c:Nat}(hc:c<xs.length):∀y∈xs[c].instrs,1<=y.op/\y.op<=10:=by
 simp only[Y7,Bool.and_eq_true]at h;obtain⟨⟨⟨⟨_,_⟩,h3⟩,_⟩,_⟩:=h;intro y hy;have h4:=List.all_eq_true.1 h3 _ (List.getElem_mem hc);have h5:=List.all_eq_true.1 h4 y hy;simp only[Yh,Bool.and_eq_true,decide_eq_true_eq]at h5;exact⟨h5.1.1.1.1.1,h5.1.1.1.1.2⟩
structure U6 where
 ct:Nat
 st:Nat
 vu:Value
 vg:Value
 c13:Value
 c14:Value
 c15:Value
 c16:Value
 c17:Value
 c18:Value
 c19:Value
 c20:Value
 c21:Value
 c22:Value
 tl:List Value
theorem lu6{Q:Exit->Act->World->Prop}(w:World)(D fb lb V:Nat)(xs:List Xg)(a1:Option Addr)(m1 c1 b g0 k0:Nat)(X1:Value)(ia:Option Addr)(ic sg:Nat)(sa:Option Addr)(sc:Nat)(il sl:List Int)(ca ma:Option Addr)(n cc m mc sm:Nat)(ms:List UInt8)(c2 c3 c4 c23:Value)(hv:Hid (Y7 ⟨(V:Int),xs⟩=true))(hb:b<xs.length)(hm1:Hid (m1=xs.length))(htot:Hid (xs.length+X7 xs<=1048576))(hma:Hid (Yg w 0 w.heap.size ma ms))(hmx:Hid (m=ms.length))(hm:m<=1048576)
 (hexit:∀(lab:Nat->Nat × Nat × Nat)(pa qa:Option Addr)(ps:List Ph)(is:List XS)(U G:List Int)(vu vg c11 c12 c13 c14 c15 c16 c17 c18 c19 c20 c21 c22:Value)(tl:List Value)(w':World),tl.length=286->ZS w w' lab D fb lb V xs a1 m1 c1 b g0 k0 X1 ia ic sg sa sc il sl pa qa ps is vu vg U G []->(∀z∈U,∃v:Nat,z=(v:Int)/\v<V/\Lin xs v b)->U.length<=60000000->Q (.exit 0) ⟨(.slice ca n cc::.slice ma m mc::c2::c3::c4::.pointer (some ⟨fb,0,none⟩)::.pointer (some ⟨lb,0,none⟩)::.int .i64 ((b:Nat):Int)::.slice (some ⟨sg,0,none⟩) sm sm::vu::vg::c11::c12::c13::c14::c15::c16::c17::c18::c19::c20::c21::c22::c23::tl).toArray,[]⟩ w')
 (lab:Nat->Nat × Nat × Nat) (vu vg c13 c14 c15 c16 c17 c18 c19 c20 c21 c22:Value) (tl:List Value) (wr:World) (hl:tl.length=286) (h:Hid (ZS w wr lab D fb lb V xs a1 m1 c1 b g0 k0 X1 ia ic sg sa sc il sl none none [] [] vu vg [] [] [])) :
 Code.wp Tryd.prog (Code.loop ZiB) Q ⟨(.slice ca n cc::.slice ma m mc::c2::c3::c4::.pointer (some ⟨fb,0,none⟩)::.pointer (some ⟨lb,0,none⟩)::.int .i64 ((b:Nat):Int)::.slice (some ⟨sg,0,none⟩) sm sm::vu::vg::.int .i64 ((b:Nat):Int)::.int .i64 ((1:Nat):Int)::c13::c14::c15::c16::c17::c18::c19::c20::c21::c22::c23::tl).toArray,[]⟩ wr:=by
 have HX:=Xa hexit;clear hexit;have HOL:=Xa (Ue hv.out);have HOP:Hid (∀c (hc:c<xs.length),∀y∈xs[c].instrs,1<=y.op/\y.op<=10):=Xa (fun c hc y hy=>Wj hv.out hc y hy);obtain⟨j0,hj0,hy0,hy1,hy2⟩:=Xp Tryd.info2';refine wp_loop (fun a' wr=>∃x:U6,a'=⟨(.slice ca n cc::.slice ma m mc::c2::c3::c4::.pointer (some ⟨fb,0,none⟩)::.pointer (some ⟨lb,0,none⟩)::.int .i64 ((b:Nat):Int)::.slice (some ⟨sg,0,none⟩) sm sm::x.vu::x.vg::.int .i64 ((x.ct:Nat):Int)::.int .i64 ((x.st:Nat):Int)::x.c13::x.c14::x.c15::x.c16::x.c17::x.c18::x.c19::x.c20::x.c21::x.c22::c23::x.tl).toArray,[]⟩/\x.tl.length=286/\x.ct<xs.length/\1<=x.st/\x.st<=13/\Hid (∃lab pa qa ps is U G,ZS w wr lab D fb lb V xs a1 m1 c1 b g0 k0 X1 ia ic sg sa sc il sl pa qa ps is x.vu x.vg U G []/\Tl xs V b x.ct U G/\U.length<=(x.st-1)*4100000/\G.length<=(x.st-1)*8000)) (fun a' _=>13-(intOf (a'.tmps.getD 12 undef)).toNat) ⟨⟨b,1,vu,vg,c13,c14,c15,c16,c17,c18,c19,c20,c21,c22,tl⟩,rfl,hl,hb,(by show 1<=1;omega),(by show 1<=13;omega),Xa ⟨lab,none,none,[],[],[],[],h.out,Tl.start xs V b,by simp,by simp⟩⟩ ?_;clear h hl;rintro a' wr ⟨⟨ct,st,vu,vg,c13,c14,c15,c16,c17,c18,c19,c20,c21,c22,tl⟩,rfl,hl,hct,hst1,hst,HS⟩;dsimp only at hl hct hst1 hst HS |-
 conv=>arg 2;whnf
 obtain⟨f,rfl⟩:=Km tl hl;clear hl;obtain⟨lab,pa,qa,ps,is,U,G,hR,hI,hU,hGl⟩:=HS.out;have HR:=Xa hR;have HI:=Xa hI;clear hR HS hI;by_cases hlt:st<=12
 ·have hltI:(st:Int)<=12:=by omega
  have hcm:ct<m1:=by rw[hm1.out];exact hct
  have hm1n:m1<=1000:=by have:=HOL.okf.n2;have:=hm1.out;omega
  have x1:wr.cell? ⟨fb,1,none⟩=some (.slice a1 m1 c1):=Bx.cell HR.s.fbx rfl;obtain⟨gb,ob,ha1,hgb,pa2,pc,qa2,qc,b0,b1,⟨t0,t1,t2,t3⟩,hps,his⟩:=HR.s.at_ ct hct;have HA1:=Xa ha1;rw[ha1]at x1;have HLN:=Xa (HOL.lens _ (List.getElem_mem hct));obtain⟨np,hnp⟩:∃np,np=xs[ct].phis.length:=⟨_,rfl⟩;obtain⟨ni,hni⟩:∃ni,ni=xs[ct].instrs.length:=⟨_,rfl⟩;rw[<-hnp]at b0;rw[<-hni]at b1;have HNP:=Xa hnp;have HNI:=Xa hni;have hnp4:np<=4000:=by have:=HLN.out;omega
  have hni4:ni<=4000:=by have:=HLN.out;omega
  have HR0:=Xa (HR.take hps his);clear hnp hni hps his ha1 HR
  go_upto_region 20 with fail
  have HR1:=Xa (HR0.box #[.slice pa2 np pc,.slice qa2 ni qc,.int .i64 xs[ct].term.kind,.int .i64 xs[ct].term.a,.int .i64 xs[ct].term.to,.int .i64 xs[ct].term.els] 39);clear HR0 x1 b0 b1 t0 t1 t2 t3;generalize wr.alloc (.cells #[.slice pa2 np pc,.slice qa2 ni qc,.int .i64 xs[ct].term.kind,.int .i64 xs[ct].term.a,.int .i64 xs[ct].term.to,.int .i64 xs[ct].term.els] 39)=w1 at *;generalize wr.heap.size=xb at *
  go_wp2_with fail
  refine lu1 w D fb lb V xs a1 m1 c1 b g0 k0 X1 ia ic sg sa sc il sl pa2 qa2 xs[ct].phis xs[ct].instrs ca ma n cc m mc sm xb np pc ni qc xs[ct].term vu U G _ _ _ _ _ _ _ _ _ _ _ _ _ _ HNP hnp4 (Xa (by omega)) ?_ lab _ _ _ (by rfl) HR1;intro lab2 vg2 tl w2 hl hR2;obtain⟨f,rfl⟩:=Km tl hl;clear hl HR1;have HR2:Hid (ZS w w2 lab2 D fb lb V xs a1 m1 c1 b g0 k0 X1 ia ic sg sa sc il sl pa2 qa2 xs[ct].phis xs[ct].instrs vu vg2 U (YI G xs[ct] 0) [(xb,#[.slice pa2 np pc,.slice qa2 ni qc,.int .i64 xs[ct].term.kind,.int .i64 xs[ct].term.a,.int .i64 xs[ct].term.to,.int .i64 xs[ct].term.els],39)]):=Xa (by
   have e:YI G xs[ct] 0=G++Xu xs[ct].phis:=by simp[YI,Xw]
   rw[e];exact hR2)
  clear hR2
  go_wp2_with fail
  refine lu2 w D fb lb V xs a1 m1 c1 b g0 k0 X1 ia ic sg sa sc il sl pa2 qa2 xs[ct].phis xs[ct].instrs ca ma n cc m mc sm xb np pc ni qc ct xs[ct].term ((st-1)*4100000) G _ _ _ _ _ _ _ _ _ _ _ _ hct (Xa rfl) HNI hni4 (Xa (HOP.out ct hct)) HOL (Xa (by have:=HLN.out;omega)) (by omega) ?_ lab2 _ _ _ _ U _ _ (by rfl) HR2 HI hU;intro lab3 vu3 vg3 c16 c17 U3 tl w3 hl hR3 hI3 hU3;obtain⟨f,rfl⟩:=Km tl hl;clear hl HR2 HI hU;have HR3:=Xa hR3;have HI3:=Xa hI3;clear hR3 hI3;obtain⟨ga,gc,hvg,-⟩:=HR3.gAt;subst hvg;have HKD:=Xa (HOL.kind _ (List.getElem_mem hct));have HGL:Hid ((YI G xs[ct] xs[ct].instrs.length).length<=200000):=Xa (by have:=@Zaq G xs[ct] xs[ct].instrs.length;have:=HLN.out;omega);have HFT:Hid (∀U',Tl xs V b ct U' G->xs[ct].term.a ∉ YI G xs[ct] xs[ct].instrs.length->xs[ct].term.kind≠1->Tl xs V b ct (U'++[xs[ct].term.a]) G):=Xa (fun U' h1 h2 h3=>by
   have hm:xs[ct].term.a∈rdT xs[ct].term:=by unfold rdT;rw[if_pos (by simpa using h3)];simp
   exact h1.fin hct h2 (HOL.rdt _ (List.getElem_mem hct) _ hm) (Or.inl hm))
  have HTO:=Xa (fun hk=>Zhz HOL.okf hct hk);have HEL:=Xa (fun hk=>Zgn HOL.okf hct hk);have HNX:Hid (∀U',∀tt:Nat,Tl xs V b ct U' G->(tt:Int)∈xs[ct].term.targets->Tl xs V b tt U' (YI G xs[ct] xs[ct].instrs.length)):=Xa (fun U' tt h1 h2=>h1.next hct (by rw[Jt hct];exact List.mem_map.2 ⟨_,h2,by simp⟩));have HTG:Hid (xs[ct].term=xs[ct].term):=Xa rfl;have HG3:Hid (YI G xs[ct] xs[ct].instrs.length=YI G xs[ct] xs[ct].instrs.length):=Xa rfl;generalize hG3:YI G xs[ct] xs[ct].instrs.length=G3 at HR3 HGL HFT HNX |-;have HGE:=Xa hG3;clear hG3 HG3 HTG;generalize htm:xs[ct].term=t at HR3 HKD HFT HTO HEL HNX;have HTM:=Xa htm;clear htm;have HBX:=Xa (fun W lab vu U (h:ZS w W lab D fb lb V xs a1 m1 c1 b g0 k0 X1 ia ic sg sa sc il sl pa2 qa2 xs[ct].phis xs[ct].instrs vu (.slice ga G3.length gc) U G3 [(xb,#[.slice pa2 np pc,.slice qa2 ni qc,.int .i64 t.kind,.int .i64 t.a,.int .i64 t.to,.int .i64 t.els],39)])=>(h.bx _ List.mem_cons_self).1);have q2:w3.cell? ⟨xb,2,none⟩=some (.int .i64 t.kind):=Bx.cell (HBX.out _ _ _ _ HR3.out) rfl;have q3:w3.cell? ⟨xb,3,none⟩=some (.int .i64 t.a):=Bx.cell (HBX.out _ _ _ _ HR3.out) rfl
  go_upto_region 35 with fail
  go_cut [199] from 188 to 199 (fun u wz=>∃q:Bool,u=.bool q/\Hid (q=true->t.a ∉ G3/\t.kind≠1)/\Hid (SmW wz w3))
  case first =>
   by_cases hk:t.kind=1
   ·have hkb:(t.kind != 1)=false:=by simpa using hk
    clear hk
    go_wp2_with fail
    go_meet;exact⟨false,rfl,Xa (fun h=>by cases h),Xa rfl⟩
   ·have hkb:(t.kind != 1)=true:=by simpa using hk
    have HK1:=Xa hk;clear hk
    go_wp2_with fail
    refine(Zt ga G3.length gc G3 t.a D w3.heap.size w3 (Xa HR3.g.ints) (Xa rfl) (by have:=HGL.out;omega)).mono ?_;rintro e w9 ⟨rfl,hw9⟩;subst hw9;by_cases hz:t.a∈G3
    ·rw[show G3.contains t.a=true from List.contains_iff_mem.2 hz]
     clear hz
     go_wp2_with fail
     go_meet;exact⟨false,rfl,Xa (fun h=>by cases h),Xa rfl⟩
    ·rw[show G3.contains t.a=false by rw[<-Bool.not_eq_true,List.contains_iff_mem];exact hz]
     have HZ:=Xa hz;clear hz
     go_wp2_with fail
     go_meet;exact⟨true,rfl,Xa (fun _=>⟨HZ.out,HK1.out⟩),Xa rfl⟩
  case rest =>
   obtain⟨q,rfl,HQ1,hsm⟩:=hcut;have e:wc=w3:=hsm.out;subst e;clear hsm;generalize wc=w3 at *
   go_upto_if 199 with fail
   go_cut [9] from 188 to 205 (fun vu wz=>∃lab U',Hid (ZS w wz lab D fb lb V xs a1 m1 c1 b g0 k0 X1 ia ic sg sa sc il sl pa2 qa2 xs[ct].phis xs[ct].instrs vu (.slice ga G3.length gc) U' G3 [(xb,#[.slice pa2 np pc,.slice qa2 ni qc,.int .i64 t.kind,.int .i64 t.a,.int .i64 t.to,.int .i64 t.els],39)])/\Hid (Tl xs V b ct U' G)/\U'.length<=U3.length+1)
   case first =>
    cases q with
    | false =>
     go_wp2_with fail
     go_meet;exact⟨_,U3,HR3,HI3,by omega⟩
    | true =>
     have HZ:=Xa (HQ1.out rfl);have HI4:=Xa (HFT.out _ HI3.out HZ.1 HZ.2);obtain⟨ua,uc,hvu,-⟩:=HR3.uAt;subst hvu;clear HZ HQ1
     go_wp2_with (at_builtin;refine wpList_append_own_at _ rfl _ _ 40 rfl D 2 j0 (.int .i64 0) 1 8 Tryd.underlying40 hj0 hy0 hy1 hy2 rfl (by decide) _ U3.length (Xl U3) rfl (HR3.u.own.alloc _) ⟨w3.heap.size,0,none⟩ 1 1 [.int .i64 t.a] rfl rfl (Xz _ _ _) ?c2a ?c3a ?c4a ?c5a ?_)
     case c2a=>first | rfl | (intro u hu;simp at hu;subst hu;rfl)
     case c3a=>unfold maxLen;have:=hU3;omega
     case c4a=>have:=hU3;omega
     case c5a=>(try simp);have:=HR3.s.sz;omega
     intro v8 w8 hown8 hg8 hne8 hat8;obtain⟨lab',hN,-⟩:=HR3.pushU hg8 hown8 rfl (by rw[World.size_alloc];exact hat8);have HN:=Xa hN;obtain⟨g8,c8,rfl,hgb8,hcap⟩:=Xh hown8 (by omega);clear hgb8 hcap hne8 hat8 hown8 hg8 hN
     go_wp2_with fail
     go_meet;exact⟨_,_,HN,HI4,by rw[List.length_append];simp⟩
   case rest =>
    obtain⟨lab4,U4,HR4,HI4,hU4⟩:=hcut;clear HR3 HI3 HQ1 HFT q2 q3;generalize wc=w4 at *;generalize u9=vu4 at *;have q2:w4.cell? ⟨xb,2,none⟩=some (.int .i64 t.kind):=Bx.cell (HBX.out _ _ _ _ HR4.out) rfl;have q4:w4.cell? ⟨xb,4,none⟩=some (.int .i64 t.to):=Bx.cell (HBX.out _ _ _ _ HR4.out) rfl;by_cases h3:t.kind=3
    ·have h3b:(t.kind==3)=true:=by simpa using h3
     clear h3;have HF:=Xa (HR4.sub (bs':=[]) (fun e he=>absurd he (by simp)))
     go_wp2_with fail
     exact HX.out _ _ _ _ _ _ _ _ _ _ _ _ _ _ _ _ _ _ _ _ _ _ _ (by rfl) HF.out HI4.used (by omega)
    ·have h3b:(t.kind==3)=false:=by simpa using h3
     have hk12:t.kind=1\/t.kind=2:=by have:=HKD.out;omega
     have HT1:=Xa (HTO.out hk12);have HK12:=Xa hk12;clear h3 hk12 HTO;obtain⟨z1,hz1,hz1t,hz1l⟩:=HT1.out;rw[hz1]at q4;have HZ1:=Xa hz1t;clear hz1 hz1t HT1
     go_upto_region 39 with fail
     go_cut [222] from 206 to 222 (fun u wz=>∃q:Bool,u=.bool q/\Hid (q=true->t.kind=2)/\Hid (Below w4.heap.size w4 wz))
     case first =>
      by_cases hk:t.kind=2
      ·have hkb:(t.kind==2)=true:=by simpa using hk
       have HK2:=Xa hk;clear hk
       go_wp2_with fail
       refine(Zbr ma m mc ms st 2 0 w.heap.size w4 (Xa (hma.keep HR4.s.low)) hmx hm (by omega) (by omega)).mono ?_;rintro e w9 ⟨r,rfl,hr,hb9⟩;have HB9:=Xa hb9;clear hb9 hr;generalize hqr:((r:Int)==1)=qr;clear hqr
       go_wp2_with fail
       go_meet;exact⟨_,rfl,Xa (fun _=>HK2.out),HB9⟩
      ·have hkb:(t.kind==2)=false:=by simpa using hk
       clear hk
       go_wp2_with fail
       go_meet;exact⟨false,rfl,Xa (fun h=>by cases h),Xa (Below.refl _ _)⟩
     case rest =>
      obtain⟨q,rfl,HQ2,HB5⟩:=hcut;have HR5:=Xa (HR4.keep HB5.out);clear HR4 HB5 q2 q4;generalize wc=w5 at *;have q5:w5.cell? ⟨xb,5,none⟩=some (.int .i64 t.els):=Bx.cell (HBX.out _ _ _ _ HR5.out) rfl
      go_upto_if 222 with fail
      go_cut [18] from 206 to 225 (fun u wz=>∃tt:Nat,u=.int .i64 (tt:Int)/\Hid ((tt:Int)∈t.targets/\tt<xs.length)/\Hid (SmW wz w5))
      case first =>
       cases q with
       | false =>
        go_wp2_with fail
        go_meet;exact⟨z1,rfl,Xa ⟨HZ1.out,hz1l⟩,Xa rfl⟩
       | true =>
        obtain⟨z2,hz2,hz2t,hz2l⟩:=HEL.out (HQ2.out rfl);rw[hz2]at q5;have HZ2:=Xa hz2t;clear hz2 hz2t
        go_wp2_with fail
        go_meet;exact⟨z2,rfl,Xa ⟨HZ2.out,hz2l⟩,Xa rfl⟩
      case rest =>
       obtain⟨tt,rfl,HTT,hsm⟩:=hcut;have e:wc=w5:=hsm.out;subst e;clear hsm q5 HZ1 HEL HQ2;generalize wc=w5 at *;have htl:=HTT.2;have htm1:tt<m1:=by rw[hm1.out];exact htl
       have z0:w5.cell? ⟨fb,0,none⟩=some (.int .i64 (V:Int)):=Bx.cell HR5.s.fbx rfl;have z1:w5.cell? ⟨fb,1,none⟩=some (.slice a1 m1 c1):=Bx.cell HR5.s.fbx rfl
       go_wp2_with fail
       refine(Zam (V:Int) a1 m1 c1 xs 0 D w5 (Xa HR5.s.at_) hm1 htot HR5.s.sz hv).mono ?_;rintro e w6 ⟨P,f1,e1,f2,e2,f3,e3,f4,e4,rfl,hb6,-,hfl⟩;have HR6:=Xa ((HR5.keep hb6).sub (bs':=[]) (fun e he=>absurd he (by simp)));obtain⟨sb6,so6,hf1,hsb,a6,c6,s6,hi6⟩:=hfl.p tt (by simp[prL];exact htl);have HPL:Hid ((prL xs)[tt]'(by simp[prL];exact htl)=predsFrom xs 0 (tt:Int)):=Xa (by simp[prL]);rw[HPL.out]at s6 hi6;have HPR:Hid ((ct:Int)∈predsFrom xs 0 (tt:Int)):=Xa ((JC _ _ _ _).2 ⟨ct,hct,by simp,by rw[HTM.out];exact List.contains_iff_mem.2 HTT.1⟩);obtain⟨prl,hprl⟩:∃prl,prl=(predsFrom xs 0 (tt:Int)).length:=⟨_,rfl⟩;obtain⟨pb,po,ha6,hpb,-⟩:=hi6 0 (List.length_pos_of_mem HPR.out);have HPS:Hid (PrS w6 lab4 D pb po (predsFrom xs 0 (tt:Int))):=Xa ⟨by have:=HR5.s.sz;omega,hpb.2,HR5.fr _ hpb.1,fun k hk=>by
        obtain⟨b9,o9,e9,_,h9⟩:=hi6 k hk;rw[ha6]at e9;cases e9;exact h9⟩
       rw[<-hprl,ha6]at s6;subst hf1;have hprn:prl<=1000:=by rw[hprl];have:=ZQ xs 0 (tt:Int);have:=HOL.okf.n2;omega
       have HPRL:=Xa hprl;clear hb6 hfl hi6 hprl ha6 hpb HPL z0 z1 HR5;generalize (Y0 P m1 0).length=pl4 at *;have hfd:Sem.run Tryd.prog (Instr.field 50 (.agg #[.slice (some ⟨sb6,so6,none⟩) m1 e1,.slice f2 m1 e2,.slice f3 m1 e3,.slice f4 pl4 e4]) 0) w6=.ok (.slice (some ⟨sb6,so6,none⟩) m1 e1) w6:=by kernel_rfl
       go_wp2_with fail
       refine lu5 w D fb lb V xs a1 m1 c1 b g0 k0 X1 ia ic sg sa sc il sl pa2 qa2 xs[ct].phis xs[ct].instrs ca ma n cc m mc sm ct tt ga G3.length gc pb po prl c6 (predsFrom xs 0 (tt:Int)) G3 G ((st-1)*4100000+8002) _ _ _ _ _ _ _ _ _ _ hct htl (Xa (by rw[HTM.out];exact HTT.1)) (Xa rfl) HPRL (Xa rfl) (Xa HGE.symm) (by have:=HGL.out;omega) HOL hm1 hprn (by omega) ?_ lab4 _ _ _ U4 _ _ (by rfl) HR6 HPS HI4 (by omega);intro lab7 vu7 c21 c22 U7 tl w7 hl hR7 hI7 hU7;obtain⟨f,rfl⟩:=Km tl hl;clear hl HR6 HPS;have HR7:=Xa hR7;have HI8:=Xa (HNX.out _ tt hI7 HTT.1);have hU8:U7.length<=(st+1-1)*4100000:=by
        have e:(st+1-1)*4100000=(st-1)*4100000+4100000:=by rw[show st+1-1=(st-1)+1 by omega,Nat.add_mul,Nat.one_mul]
        rw[e];have h5:=Nat.mul_le_mul_right 4000 hprn;refine Nat.le_trans hU7 (by rw[Nat.add_assoc];exact Nat.add_le_add_left (by omega) _)
       have hG8:G3.length<=(st+1-1)*8000:=by
        rw[<-HGE.out];have:=@Zaq G xs[ct] xs[ct].instrs.length;have:=HLN.out;omega
       clear hR7 hI7
       go_wp2_with fail
       first | exact⟨⟨⟨tt,st+1,vu7,.slice ga G3.length gc,_,_,_,_,_,_,_,_,_,_,_⟩,rfl,rfl,htl,(by show 1<=st+1;omega),(by show st+1<=13;omega),Xa ⟨_,_,_,_,_,_,_,HR7.out,HI8.out,hU8,hG8⟩⟩,by simp[intOf];omega⟩ | exact⟨⟨⟨tt,st+1,vu7,.slice ga G3.length gc,_,_,_,_,_,_,_,_,_,_,_⟩,⟨rfl,rfl,rfl,by show(st:Int)+1=((st+1:Nat):Int);omega,rfl,rfl,rfl,rfl,rfl,rfl,rfl,rfl,rfl,rfl,rfl⟩,rfl,htl,(by show 1<=st+1;omega),(by show st+1<=13;omega),Xa ⟨_,_,_,_,_,_,_,HR7.out,HI8.out,hU8,hG8⟩⟩,by simp[intOf];omega⟩
 ·have hltI:¬(st:Int)<=12:=by omega
  go_wp2_with fail
  exact HX.out _ _ _ _ _ _ _ _ _ _ _ _ _ _ _ _ _ _ _ _ _ _ _ (by rfl) HR.out HI.used (by omega)
structure U7 where
 i:Nat
 tl:List Value
theorem lu7{Q:Exit->Act->World->Prop}(w:World)(D fb lb V:Nat)(xs:List Xg)(a1:Option Addr)(m1 c1 b g0 k0:Nat)(X1:Value)(ia:Option Addr)(ic sg:Nat)(sa:Option Addr)(sc:Nat)(il sl:List Int)(pa qa:Option Addr)(ps:List Ph)(is:List XS)(ca ma:Option Addr)(n cc m mc sm:Nat)(lab:Nat->Nat × Nat × Nat)(ua:Option Addr)(ul uc:Nat)(vg:Value)(U G:List Int)(c2 c3 c4 c11 c12 c13 c14 c15 c16 c17 c18 c19 c20 c21 c22:Value)(hQ:Hid (∀c (a:Act) t v w,Q (.panic c) (a.put (some t) v) w->Q (.panic c) a w))(hul:Hid (ul=U.length))(hul2:ul<=100000000)(hbm:b<m1)(hsm:1<=sm)(hil:il.length<=100000)(hsl:sl.length<=100000)(hin:Hid (∀z∈U,z∈il/\z∈sl))
 (hexit:∀(tl:List Value)(w':World),tl.length=286->ZS w w' lab D fb lb V xs a1 m1 c1 b g0 k0 X1 ia ic sg sa sc il sl pa qa ps is (.slice ua ul uc) vg U G []->Q (.exit 10) ⟨(.slice ca n cc::.slice ma m mc::c2::c3::c4::.pointer (some ⟨fb,0,none⟩)::.pointer (some ⟨lb,0,none⟩)::.int .i64 ((b:Nat):Int)::.slice (some ⟨sg,0,none⟩) sm sm::.slice ua ul uc::vg::c11::c12::c13::c14::c15::c16::c17::c18::c19::c20::c21::c22::.int .i64 ((ul:Nat):Int)::tl).toArray,[]⟩ w')
 (tl:List Value) (wr:World) (hl:tl.length=286) (h:Hid (ZS w wr lab D fb lb V xs a1 m1 c1 b g0 k0 X1 ia ic sg sa sc il sl pa qa ps is (.slice ua ul uc) vg U G [])) :
 Code.wp Tryd.prog (Code.loop Zji) Q ⟨(.slice ca n cc::.slice ma m mc::c2::c3::c4::.pointer (some ⟨fb,0,none⟩)::.pointer (some ⟨lb,0,none⟩)::.int .i64 ((b:Nat):Int)::.slice (some ⟨sg,0,none⟩) sm sm::.slice ua ul uc::vg::c11::c12::c13::c14::c15::c16::c17::c18::c19::c20::c21::c22::.int .i64 ((0:Nat):Int)::tl).toArray,[]⟩ wr:=by
 have HX:=Xa hexit;clear hexit;refine wp_loop (fun a' wr=>∃x:U7,a'=⟨(.slice ca n cc::.slice ma m mc::c2::c3::c4::.pointer (some ⟨fb,0,none⟩)::.pointer (some ⟨lb,0,none⟩)::.int .i64 ((b:Nat):Int)::.slice (some ⟨sg,0,none⟩) sm sm::.slice ua ul uc::vg::c11::c12::c13::c14::c15::c16::c17::c18::c19::c20::c21::c22::.int .i64 ((x.i:Nat):Int)::x.tl).toArray,[]⟩/\x.tl.length=286/\x.i<=ul/\Hid (ZS w wr lab D fb lb V xs a1 m1 c1 b g0 k0 X1 ia ic sg sa sc il sl pa qa ps is (.slice ua ul uc) vg U G [])) (fun a' _=>ul-(intOf (a'.tmps.getD 23 undef)).toNat) ⟨⟨0,tl⟩,rfl,hl,Nat.zero_le _,h⟩ ?_;clear h hl;rintro a' wr ⟨⟨i,tl⟩,rfl,hl,hi,HR⟩;dsimp only at hl hi HR |-
 conv=>arg 2;whnf
 obtain⟨f,rfl⟩:=Km tl hl;clear hl;by_cases hlt:i<ul
 ·have hltI:(i:Int)<ul:=by omega
  have hiu:i<U.length:=by rw[<-hul.out];exact hlt
  obtain⟨ub,uo,hua,hub,u0⟩:=(HR.u.ints) i hiu;subst hua;have HIN:=Xa (hin.out _ (List.getElem_mem hiu));generalize U[i]=z at *;have x0:wr.cell? ⟨lb,0,none⟩=some (.slice (some ⟨g0,0,none⟩) m1 k0):=Bx.cell HR.s.lbx rfl;have x1:=HR.s.inc;have x2:=HR.s.sec;have hbI:(b:Int)<m1:=by omega
  have hsI:0<sm:=by omega
  have HRD:=Xa HR.drew;obtain⟨ill,hill⟩:∃ill,ill=il.length:=⟨_,rfl⟩;obtain⟨sll,hsll⟩:∃sll,sll=sl.length:=⟨_,rfl⟩;rw[<-hill]at x1 hil;rw[<-hsll]at x2 hsl;have HILL:=Xa hill;have HSLL:=Xa hsll;clear hill hsll
  go_wp2_with fail
  refine YS (fun w'=>w'.cell? ⟨lb,0,none⟩=some (.slice (some ⟨g0,0,none⟩) m1 k0)/\w'.cell? ⟨g0,b,none⟩=some (.slice ia ill ic)/\w'.cell? ⟨ub,uo+i,none⟩=some (.int .i64 z)/\w'.cell? ⟨sg,0,none⟩=some (.slice sa sll sc)) (fun hHeld=>?_);refine XE 0 ?_;refine XE 1 ?_;refine XE 2 ?_;refine XE 3 ?_;refine XE 4 ?_;refine XE 5 ?_;refine XE 6 ?_;refine XE 7 ?_;refine XE 8 ?_;refine XE 9 ?_;refine Xs 10 (fun K hK=>?_);go_simp
  go_at_call 9
  refine(Zt ia ill ic il z 0 D _ (Xa HRD.s.ina) HILL (by omega)).mono ?_;rw[show il.contains z=true from List.contains_iff_mem.2 HIN.1];rintro e w9 ⟨rfl,hw9⟩;rw[hw9];clear hw9;refine hK _ _ hHeld (fun hHeld=>?_);clear hK;refine XE 11 ?_;refine XE 12 ?_;refine XE 13 ?_;refine XE 14 ?_;refine XE 15 ?_;refine XE 16 ?_;refine XE 17 ?_;refine XE 18 ?_;refine XE 19 ?_;refine XE 20 ?_;refine Xs 21 (fun K hK=>?_);go_simp
  go_at_call 9
  refine(Zt sa sll sc sl z 0 D _ (Xa HRD.s.sea) HSLL (by omega)).mono ?_;rw[show sl.contains z=true from List.contains_iff_mem.2 HIN.2];rintro e w8 ⟨rfl,hw8⟩;rw[hw8];clear hw8;refine hK _ _ hHeld (fun hHeld=>?_);clear hK;refine XE 22 ?_;refine XE 23 ?_;refine Y5 ?_;clear hHeld
  go_wp2_with fail
  first | exact⟨⟨⟨i+1,_⟩,rfl,rfl,(by show i+1<=ul;omega),HRD⟩,by simp[intOf];omega⟩ | exact⟨⟨⟨i+1,_⟩,⟨by show(i:Int)+1=((i+1:Nat):Int);omega,rfl⟩,rfl,(by show i+1<=ul;omega),HRD⟩,by simp[intOf];omega⟩
 ·have hltI:¬(i:Int)<ul:=by omega
  have hie:i=ul:=by omega
  subst hie
  go_wp2_with fail
  exact HX.out _ _ (by rfl) HR.out
end Go.Proofs.YtbofmlmdgkblkaaDoor
