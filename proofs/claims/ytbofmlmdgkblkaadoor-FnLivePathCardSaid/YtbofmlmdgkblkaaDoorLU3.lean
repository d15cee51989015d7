import Derived.Test.YtbofmlmdgkblkaaDoorSA0
namespace Go.Proofs.YtbofmlmdgkblkaaDoor
set_option maxHeartbeats 8000000
set_option maxRecDepth 100000
open Go.RowKit
structure U2 where
 i:Nat
 vu:Value
 vg:Value
 c16:Value
 c17:Value
 tl:List Value
theorem Zi1{op:Int}(h:bB op=true):aB op=true:=by
 unfold bB at h;unfold aB;simp only[Bool.or_eq_true,decide_eq_true_eq]at h |-;omega
theorem Zio{op:Int}(h:1<=op/\op<=10)(hb:bB op=false):op=1\/op=2\/op=8\/op=10:=by
 unfold bB at hb;simp only[Bool.or_eq_false_iff,decide_eq_false_iff_not]at hb;omega
theorem Ze2{op:Int}(h:1<=op/\op<=10):op=9\/op=10\/((op != 9)=true/\(op != 10)=true/\dB op=true):=by
 by_cases h9:op=9
 ·exact Or.inl h9
 ·by_cases h10:op=10
  ·exact Or.inr (Or.inl h10)
  ·refine Or.inr (Or.inr ⟨by simpa using h9,by simpa using h10,?_⟩)
   unfold dB;simp only[Bool.or_eq_true,decide_eq_true_eq];omega
theorem ZiZ{op:Int}(h:1<=op/\op<=10):op=1\/op=2\/op=3\/op=4\/op=5\/op=6\/op=7\/op=8\/op=9\/op=10:=by omega
theorem lu2{Q:Exit->Act->World->Prop}(w:World)(D fb lb V:Nat)(xs:List Xg)(a1:Option Addr)(m1 c1 b g0 k0:Nat)(X1:Value)(ia:Option Addr)(ic sg:Nat)(sa:Option Addr)(sc:Nat)(il sl:List Int)(pa qa:Option Addr)(ps:List Ph)(is:List XS)(ca ma:Option Addr)(n cc m mc sm:Nat)(xb np pc ni qc ct:Nat)(t:XZ)(K:Nat)(G0:List Int)(c2 c3 c4 c11 c12 c14 c18 c19 c20 c21 c22 c23:Value)(hct:ct<xs.length)(his:Hid (is=xs[ct].instrs))(hni:Hid (ni=is.length))(hnl:ni<=4000)(hop:Hid (∀y∈is,1<=y.op/\y.op<=10))(hok:Hid (UF V xs))(hGl:Hid (G0.length+xs[ct].phis.length+xs[ct].instrs.length<=210000))(hK:K<=1000000000)
 (hexit:∀(lab:Nat->Nat × Nat × Nat)(vu vg c16 c17:Value)(U:List Int)(tl:List Value)(w':World),tl.length=286->ZS w w' lab D fb lb V xs a1 m1 c1 b g0 k0 X1 ia ic sg sa sc il sl pa qa ps is vu vg U (YI G0 xs[ct] xs[ct].instrs.length) [(xb,#[.slice pa np pc,.slice qa ni qc,.int .i64 t.kind,.int .i64 t.a,.int .i64 t.to,.int .i64 t.els],39)]->Tl xs V b ct U G0->U.length<=K+2*ni->Q (.exit 4) ⟨(.slice ca n cc::.slice ma m mc::c2::c3::c4::.pointer (some ⟨fb,0,none⟩)::.pointer (some ⟨lb,0,none⟩)::.int .i64 ((b:Nat):Int)::.slice (some ⟨sg,0,none⟩) sm sm::vu::vg::c11::c12::.pointer (some ⟨xb,0,none⟩)::c14::.int .i64 ((ni:Nat):Int)::c16::c17::c18::c19::c20::c21::c22::c23::tl).toArray,[]⟩ w')
 (lab:Nat->Nat × Nat × Nat) (vu vg c16 c17:Value) (U:List Int) (tl:List Value) (wr:World) (hl:tl.length=286) (h:Hid (ZS w wr lab D fb lb V xs a1 m1 c1 b g0 k0 X1 ia ic sg sa sc il sl pa qa ps is vu vg U (YI G0 xs[ct] 0) [(xb,#[.slice pa np pc,.slice qa ni qc,.int .i64 t.kind,.int .i64 t.a,.int .i64 t.to,.int .i64 t.els],39)])) (hI:Hid (Tl xs V b ct U G0)) (hU:U.length<=K) :
 Code.wp Tryd.prog (Code.loop Zja) Q ⟨(.slice ca n cc::.slice ma m mc::c2::c3::c4::.pointer (some ⟨fb,0,none⟩)::.pointer (some ⟨lb,0,none⟩)::.int .i64 ((b:Nat):Int)::.slice (some ⟨sg,0,none⟩) sm sm::vu::vg::c11::c12::.pointer (some ⟨xb,0,none⟩)::c14::.int .i64 ((0:Nat):Int)::c16::c17::c18::c19::c20::c21::c22::c23::tl).toArray,[]⟩ wr:=by
 have HX:=Xa hexit;clear hexit;obtain⟨j0,hj0,hy0,hy1,hy2⟩:=Xp Tryd.info2';refine wp_loop (fun a' wr=>∃x:U2,a'=⟨(.slice ca n cc::.slice ma m mc::c2::c3::c4::.pointer (some ⟨fb,0,none⟩)::.pointer (some ⟨lb,0,none⟩)::.int .i64 ((b:Nat):Int)::.slice (some ⟨sg,0,none⟩) sm sm::x.vu::x.vg::c11::c12::.pointer (some ⟨xb,0,none⟩)::c14::.int .i64 ((x.i:Nat):Int)::x.c16::x.c17::c18::c19::c20::c21::c22::c23::x.tl).toArray,[]⟩/\x.tl.length=286/\x.i<=ni/\Hid (∃lab U,ZS w wr lab D fb lb V xs a1 m1 c1 b g0 k0 X1 ia ic sg sa sc il sl pa qa ps is x.vu x.vg U (YI G0 xs[ct] x.i) [(xb,#[.slice pa np pc,.slice qa ni qc,.int .i64 t.kind,.int .i64 t.a,.int .i64 t.to,.int .i64 t.els],39)]/\Tl xs V b ct U G0/\U.length<=K+2*x.i)) (fun a' _=>ni-(intOf (a'.tmps.getD 15 undef)).toNat) ⟨⟨0,vu,vg,c16,c17,tl⟩,rfl,hl,Nat.zero_le _,Xa ⟨lab,U,h.out,hI.out,hU⟩⟩ ?_;clear h hl hI hU;rintro a' wr ⟨⟨i,vu,vg,c16,c17,tl⟩,rfl,hl,hi,HS⟩;dsimp only at hl hi HS |-
 conv=>arg 2;whnf
 obtain⟨f,rfl⟩:=Km tl hl;clear hl;obtain⟨lab,U,hR,hI,hU⟩:=HS.out;have HR:=Xa hR;have HI:=Xa hI;clear hR HS hI;have x1:wr.cell? ⟨xb,1,none⟩=some (.slice qa ni qc):=Bx.cell (HR.bx _ List.mem_cons_self).1 rfl;by_cases hlt:i<ni
 ·have hltI:(i:Int)<ni:=by omega
  have hii:i<is.length:=by rw[<-hni.out];exact hlt
  have hix:i<xs[ct].instrs.length:=by rw[<-his.out];exact hii
  obtain⟨ib,io,hqa,hib,i0,i1,i2,i3,i4⟩:=HR.s.iAt i hii;rw[hqa]at x1;clear hqa;have HOP:=Xa (hop.out _ (List.getElem_mem hii));have HYE:Hid (is[i]=xs[ct].instrs[i]):=Xa (by simp only[his.out]);have HGL:Hid ((YI G0 xs[ct] i).length<=210000):=Xa (Nat.le_trans Zaq hGl.out);have HRD:Hid (∀U' z,Tl xs V b ct U' G0->z ∉ (YI G0 xs[ct] i)->z∈rdI is[i]->Tl xs V b ct (U'++[z]) G0):=Xa (fun U' z h1 h2 h3=>h1.read hok.out hct hix h2 (by rw[<-HYE.out];exact h3));have HGY:Hid (dB is[i].op=true->(YI G0 xs[ct] (i+1))=(YI G0 xs[ct] i)++[is[i].dst]):=Xa (fun hd=>by rw[HYE.out]at hd |-;exact Zga hix hd);have HGN:Hid (dB is[i].op=false->(YI G0 xs[ct] (i+1))=(YI G0 xs[ct] i)):=Xa (fun hd=>by rw[HYE.out]at hd;exact ZhL hix hd);clear HYE;generalize is[i]=y at *;generalize hGe:(YI G0 xs[ct] i)=G at *;clear hGe
  go_upto_region 28 with fail
  have HR1:=Xa (HR.box #[.int .i64 y.op,.int .i64 y.dst,.int .i64 y.a,.int .i64 y.b,.int .i64 y.imm] 44);clear HR x1 i0 i1 i2 i3 i4;generalize wr.alloc (.cells #[.int .i64 y.op,.int .i64 y.dst,.int .i64 y.a,.int .i64 y.b,.int .i64 y.imm] 44)=w1 at *;generalize wr.heap.size=nb at *;have HBN:=Xa (fun W lab vu U (h:ZS w W lab D fb lb V xs a1 m1 c1 b g0 k0 X1 ia ic sg sa sc il sl pa qa ps is vu vg U G ((nb,#[.int .i64 y.op,.int .i64 y.dst,.int .i64 y.a,.int .i64 y.b,.int .i64 y.imm],44)::[(xb,#[.slice pa np pc,.slice qa ni qc,.int .i64 t.kind,.int .i64 t.a,.int .i64 t.to,.int .i64 t.els],39)]))=>(h.bx _ List.mem_cons_self).1);have q0:w1.cell? ⟨nb,0,none⟩=some (.int .i64 y.op):=Bx.cell (HBN.out _ _ _ _ HR1.out) rfl;have q2:w1.cell? ⟨nb,2,none⟩=some (.int .i64 y.a):=Bx.cell (HBN.out _ _ _ _ HR1.out) rfl;obtain⟨ga,gc,hvg,hgi⟩:=HR1.gAt;have HGI:=Xa hgi;subst hvg;clear hgi
  go_cut [17] from 119 to 187 (fun u wz=>u=.bool (bB y.op)/\Hid (SmW wz w1))
  case first =>
   generalize y.op=op at *;rcases ZiZ HOP.out with rfl | rfl | rfl | rfl | rfl | rfl | rfl | rfl | rfl | rfl
   all_goals (
    go_wp2_with fail
    go_meet;exact⟨rfl,Xa rfl⟩)
  case rest =>
   obtain⟨rfl,hsm⟩:=hcut;have e:wc=w1:=hsm.out;subst e;clear hsm;generalize wc=w1 at *
   go_upto_region 29 with fail
   go_cut [17,156] from 119 to 187 (fun u0 u wz=>(u0=.bool (bB y.op)/\u=.bool (aB y.op && !decide (y.a∈G)))/\Hid (SmW wz w1))
   case first =>
    by_cases hb2:bB y.op=true
    ·have ha2:aB y.op=true:=Zi1 hb2
     go_wp2_with fail
     refine(Zt ga G.length gc G y.a D w1.heap.size w1 HGI (Xa rfl) (by have:=HGL.out;omega)).mono ?_;rintro e w9 ⟨rfl,hw9⟩;subst hw9
     go_wp2_with fail
     go_meet;exact⟨⟨by rw[hb2],by rw[ha2];rfl⟩,Xa rfl⟩
    ·have hb3:bB y.op=false:=by simpa using hb2
     have h4:=Zio HOP.out hb3;clear hb2;generalize y.op=op at *;rcases h4 with rfl | rfl | rfl | rfl
     ·go_wp2_with fail
      go_meet;exact⟨⟨rfl,rfl⟩,Xa rfl⟩
     ·go_wp2_with fail
      go_meet;exact⟨⟨rfl,rfl⟩,Xa rfl⟩
     ·go_wp2_with fail
      refine(Zt ga G.length gc G y.a D w1.heap.size w1 HGI (Xa rfl) (by have:=HGL.out;omega)).mono ?_;rintro e w9 ⟨rfl,hw9⟩;subst hw9
      go_wp2_with fail
      go_meet;exact⟨⟨rfl,rfl⟩,Xa rfl⟩
     ·go_wp2_with fail
      refine(Zt ga G.length gc G y.a D w1.heap.size w1 HGI (Xa rfl) (by have:=HGL.out;omega)).mono ?_;rintro e w9 ⟨rfl,hw9⟩;subst hw9
      go_wp2_with fail
      go_meet;exact⟨⟨rfl,rfl⟩,Xa rfl⟩
   case rest =>
    obtain⟨⟨rfl,rfl⟩,hsm⟩:=hcut;have e:wc=w1:=hsm.out;subst e;clear hsm;generalize wc=w1 at *;generalize hqe:(aB y.op && !decide (y.a∈G))=qq at *;have HQE:=Xa hqe;clear hqe
    go_upto_if 156 with fail
    go_cut [9] from 119 to 187 (fun vu wz=>∃lab U',Hid (ZS w wz lab D fb lb V xs a1 m1 c1 b g0 k0 X1 ia ic sg sa sc il sl pa qa ps is vu (.slice ga G.length gc) U' G ((nb,#[.int .i64 y.op,.int .i64 y.dst,.int .i64 y.a,.int .i64 y.b,.int .i64 y.imm],44)::[(xb,#[.slice pa np pc,.slice qa ni qc,.int .i64 t.kind,.int .i64 t.a,.int .i64 t.to,.int .i64 t.els],39)]))/\Hid (Tl xs V b ct U' G0)/\U'.length<=U.length+1)
    case first =>
     cases qq with
     | false =>
      go_wp2_with fail
      go_meet;exact⟨_,U,HR1,HI,by omega⟩
     | true =>
      have HZ:Hid (y.a ∉ G/\y.a∈rdI y):=Xa (by
       have h:=HQE.out;rw[Bool.and_eq_true,Bool.not_eq_true']at h;refine⟨fun hm=>?_,?_⟩
       ·rw[decide_eq_true hm]at h
        exact absurd h.2 (by simp)
       ·unfold rdI
        rw[if_pos h.1];simp)
      obtain⟨ua,uc,hvu,-⟩:=HR1.uAt;subst hvu;have q2:w1.cell? ⟨nb,2,none⟩=some (.int .i64 y.a):=Bx.cell (HBN.out _ _ _ _ HR1.out) rfl
      go_wp2_with (at_builtin;refine wpList_append_own_at _ rfl _ _ 40 rfl D 2 j0 (.int .i64 0) 1 8 Tryd.underlying40 hj0 hy0 hy1 hy2 rfl (by decide) _ U.length (Xl U) rfl (HR1.u.own.alloc _) ⟨w1.heap.size,0,none⟩ 1 1 [.int .i64 y.a] rfl rfl (Xz _ _ _) ?c2a ?c3a ?c4a ?c5a ?_)
      case c2a=>first | rfl | (intro u hu;simp at hu;subst hu;rfl)
      case c3a=>unfold maxLen;have:=hU;omega
      case c4a=>have:=hU;omega
      case c5a=>(try simp);have:=HR1.s.sz;omega
      intro v8 w8 hown8 hg8 hne8 hat8;obtain⟨lab',hN,-⟩:=HR1.pushU hg8 hown8 rfl (by rw[World.size_alloc];exact hat8);have HN:=Xa hN;have HI2:=Xa (HRD.out _ _ HI.out HZ.1 HZ.2);obtain⟨g8,c8,rfl,hgb8,hcap⟩:=Xh hown8 (by omega);clear hgb8 hcap hne8 hat8 hown8 hg8 hN
      go_wp2_with fail
      go_meet;exact⟨_,_,HN,HI2,by rw[List.length_append];simp⟩
    case rest =>
     obtain⟨labx,Ux,HRx,HIx,hUx⟩:=hcut;have hUy:Ux.length<=K+2*i+1:=by omega
     clear HR1 HI HQE hU hUx q0 q2 HGI;have HR1:=HRx;have HI:=HIx;have hU:=hUy;clear HRx HIx hUy;generalize Ux=U at *;generalize labx=lab at *;generalize wc=w2 at *;generalize u9=vu at *;have q3:w2.cell? ⟨nb,3,none⟩=some (.int .i64 y.b):=Bx.cell (HBN.out _ _ _ _ HR1.out) rfl;have q0:w2.cell? ⟨nb,0,none⟩=some (.int .i64 y.op):=Bx.cell (HBN.out _ _ _ _ HR1.out) rfl;have HGI:=Xa (HR1.g.ints)
     go_upto_region 31 with fail
     go_cut [17,169] from 119 to 187 (fun u0 u wz=>(u0=.bool (bB y.op)/\u=.bool (bB y.op && !decide (y.b∈G)))/\Hid (SmW wz w2))
     case first =>
      cases hb2:bB y.op with
      | false =>
       go_wp2_with fail
       go_meet;exact⟨⟨by rw[hb2],by rw[hb2];rfl⟩,Xa rfl⟩
      | true =>
       go_wp2_with fail
       refine(Zt ga G.length gc G y.b D w2.heap.size w2 HGI (Xa rfl) (by have:=HGL.out;omega)).mono ?_;rintro e w9 ⟨rfl,hw9⟩;subst hw9
       go_wp2_with fail
       go_meet;exact⟨⟨by rw[hb2],by rw[hb2];rfl⟩,Xa rfl⟩
     case rest =>
      have q2:=q0;obtain⟨⟨rfl,rfl⟩,hsm⟩:=hcut;have e:wc=w2:=hsm.out;subst e;clear hsm;generalize wc=w2 at *;generalize hqe:(bB y.op && !decide (y.b∈G))=qq at *;have HQE:=Xa hqe;clear hqe
      go_upto_if 169 with fail
      go_cut [9] from 119 to 187 (fun vu wz=>∃lab U',Hid (ZS w wz lab D fb lb V xs a1 m1 c1 b g0 k0 X1 ia ic sg sa sc il sl pa qa ps is vu (.slice ga G.length gc) U' G ((nb,#[.int .i64 y.op,.int .i64 y.dst,.int .i64 y.a,.int .i64 y.b,.int .i64 y.imm],44)::[(xb,#[.slice pa np pc,.slice qa ni qc,.int .i64 t.kind,.int .i64 t.a,.int .i64 t.to,.int .i64 t.els],39)]))/\Hid (Tl xs V b ct U' G0)/\U'.length<=U.length+1)
      case first =>
       cases qq with
       | false =>
        go_wp2_with fail
        go_meet;exact⟨_,U,HR1,HI,by omega⟩
       | true =>
        have HZ:Hid (y.b ∉ G/\y.b∈rdI y):=Xa (by
         have h:=HQE.out;rw[Bool.and_eq_true,Bool.not_eq_true']at h;refine⟨fun hm=>?_,?_⟩
         ·rw[decide_eq_true hm]at h
          exact absurd h.2 (by simp)
         ·unfold rdI
          rw[if_pos h.1];simp)
        obtain⟨ua,uc,hvu,-⟩:=HR1.uAt;subst hvu;have q3:w2.cell? ⟨nb,3,none⟩=some (.int .i64 y.b):=Bx.cell (HBN.out _ _ _ _ HR1.out) rfl
        go_wp2_with (at_builtin;refine wpList_append_own_at _ rfl _ _ 40 rfl D 2 j0 (.int .i64 0) 1 8 Tryd.underlying40 hj0 hy0 hy1 hy2 rfl (by decide) _ U.length (Xl U) rfl (HR1.u.own.alloc _) ⟨w2.heap.size,0,none⟩ 1 1 [.int .i64 y.b] rfl rfl (Xz _ _ _) ?c2b ?c3b ?c4b ?c5b ?_)
        case c2b=>first | rfl | (intro u hu;simp at hu;subst hu;rfl)
        case c3b=>unfold maxLen;have:=hU;omega
        case c4b=>have:=hU;omega
        case c5b=>(try simp);have:=HR1.s.sz;omega
        intro v8 w8 hown8 hg8 hne8 hat8;obtain⟨lab',hN,-⟩:=HR1.pushU hg8 hown8 rfl (by rw[World.size_alloc];exact hat8);have HN:=Xa hN;have HI2:=Xa (HRD.out _ _ HI.out HZ.1 HZ.2);obtain⟨g8,c8,rfl,hgb8,hcap⟩:=Xh hown8 (by omega);clear hgb8 hcap hne8 hat8 hown8 hg8 hN
        go_wp2_with fail
        go_meet;exact⟨_,_,HN,HI2,by rw[List.length_append];simp⟩
      case rest =>
       obtain⟨labx,Ux,HRx,HIx,hUx⟩:=hcut;have hUy:Ux.length<=K+2*i+2:=by omega
       clear HR1 HI HQE hU hUx q0 q2 HGI;have HR1:=HRx;have HI:=HIx;have hU:=hUy;clear HRx HIx hUy;generalize Ux=U at *;generalize labx=lab at *;generalize wc=w3 at *;generalize u9=vu at *;clear q3;have q0:w3.cell? ⟨nb,0,none⟩=some (.int .i64 y.op):=Bx.cell (HBN.out _ _ _ _ HR1.out) rfl;have q1:w3.cell? ⟨nb,1,none⟩=some (.int .i64 y.dst):=Bx.cell (HBN.out _ _ _ _ HR1.out) rfl
       go_upto_region 33 with fail
       go_cut [182] from 119 to 187 (fun u wz=>u=.bool (dB y.op)/\Hid (SmW wz w3))
       case first =>
        generalize y.op=op at *;have h9:op=9\/op=10\/((op != 9)=true/\(op != 10)=true/\dB op=true):=Ze2 HOP.out;rcases h9 with rfl | rfl | ⟨h91,h92,h93⟩
        ·go_wp2_with fail
         go_meet;exact⟨rfl,Xa rfl⟩
        ·go_wp2_with fail
         go_meet;exact⟨rfl,Xa rfl⟩
        ·go_wp2_with fail
         go_meet;exact⟨by rw[h93],Xa rfl⟩
       case rest =>
        obtain⟨rfl,hsm⟩:=hcut;have e:wc=w3:=hsm.out;subst e;clear hsm;generalize wc=w3 at *;clear q0;cases hdb:dB y.op with
        | false =>
         have HG2:=Xa (HGN.out hdb);have HF:=Xa (HR1.sub (bs':=[(xb,#[.slice pa np pc,.slice qa ni qc,.int .i64 t.kind,.int .i64 t.a,.int .i64 t.to,.int .i64 t.els],39)]) (fun e he=>List.mem_cons_of_mem _ he));have HF2:Hid (ZS w w3 lab D fb lb V xs a1 m1 c1 b g0 k0 X1 ia ic sg sa sc il sl pa qa ps is vu (.slice ga G.length gc) U (YI G0 xs[ct] (i+1)) [(xb,#[.slice pa np pc,.slice qa ni qc,.int .i64 t.kind,.int .i64 t.a,.int .i64 t.to,.int .i64 t.els],39)]):=Xa (by rw[HG2.out];exact HF.out);clear HR1 HGY HGN HG2 HF
         go_wp2_with fail
         first | exact⟨⟨⟨i+1,vu,.slice ga G.length gc,.pointer (some ⟨nb,0,none⟩),.bool (bB y.op),_⟩,⟨rfl,rfl,by show(i:Int)+1=((i+1:Nat):Int);omega,rfl,rfl,rfl⟩,rfl,(by show i+1<=ni;omega),Xa ⟨_,_,HF2.out,HI.out,(by show U.length<=K+2*(i+1);omega)⟩⟩,by simp[intOf];omega⟩ | exact⟨⟨⟨i+1,vu,.slice ga G.length gc,.pointer (some ⟨nb,0,none⟩),.bool (bB y.op),_⟩,rfl,rfl,(by show i+1<=ni;omega),Xa ⟨_,_,HF2.out,HI.out,(by show U.length<=K+2*(i+1);omega)⟩⟩,by simp[intOf];omega⟩
        | true =>
         have HG2:=Xa (HGY.out hdb)
         go_wp2_with (at_builtin;refine wpList_append_own_at _ rfl _ _ 40 rfl D 2 j0 (.int .i64 0) 1 8 Tryd.underlying40 hj0 hy0 hy1 hy2 rfl (by decide) _ G.length (Xl G) rfl (HR1.g.own.alloc _) ⟨w3.heap.size,0,none⟩ 1 1 [.int .i64 y.dst] rfl rfl (Xz _ _ _) ?c2g ?c3g ?c4g ?c5g ?_)
         case c2g=>first | rfl | (intro u hu;simp at hu;subst hu;rfl)
         case c3g=>unfold maxLen;have:=HGL.out;omega
         case c4g=>have:=HGL.out;omega
         case c5g=>(try simp);have:=HR1.s.sz;omega
         intro v8 w8 hown8 hg8 hne8 hat8;obtain⟨lab',hN⟩:=HR1.pushG hg8 hown8 rfl (by rw[World.size_alloc];exact hat8);have HF:=Xa (hN.sub (bs':=[(xb,#[.slice pa np pc,.slice qa ni qc,.int .i64 t.kind,.int .i64 t.a,.int .i64 t.to,.int .i64 t.els],39)]) (fun e he=>List.mem_cons_of_mem _ he));obtain⟨g8,c8,rfl,hgb8,hcap⟩:=Xh hown8 (by omega);have HF2:Hid (ZS w w8 lab' D fb lb V xs a1 m1 c1 b g0 k0 X1 ia ic sg sa sc il sl pa qa ps is vu (.slice (some ⟨g8,0,none⟩) (G.length+1) c8) U (YI G0 xs[ct] (i+1)) [(xb,#[.slice pa np pc,.slice qa ni qc,.int .i64 t.kind,.int .i64 t.a,.int .i64 t.to,.int .i64 t.els],39)]):=Xa (by rw[HG2.out];exact HF.out);clear hgb8 hcap hne8 hat8 hown8 hg8 hN HR1 HGY HGN HG2 HF
         go_wp2_with fail
         first | exact⟨⟨⟨i+1,vu,_,.pointer (some ⟨nb,0,none⟩),.bool (bB y.op),_⟩,⟨rfl,rfl,by show(i:Int)+1=((i+1:Nat):Int);omega,rfl,rfl,rfl⟩,rfl,(by show i+1<=ni;omega),Xa ⟨_,_,HF2.out,HI.out,(by show U.length<=K+2*(i+1);omega)⟩⟩,by simp[intOf];omega⟩ | exact⟨⟨⟨i+1,vu,_,.pointer (some ⟨nb,0,none⟩),.bool (bB y.op),_⟩,rfl,rfl,(by show i+1<=ni;omega),Xa ⟨_,_,HF2.out,HI.out,(by show U.length<=K+2*(i+1);omega)⟩⟩,by simp[intOf];omega⟩
 ·have hltI:¬(i:Int)<ni:=by omega
  have hie:i=ni:=by omega
  subst hie;have HF:=Xa HR.out;rw[show YI G0 xs[ct] i=YI G0 xs[ct] xs[ct].instrs.length by rw[show i=xs[ct].instrs.length by rw[hni.out,his.out]]]at HF;clear HR
  go_wp2_with fail
  exact HX.out _ _ _ _ _ _ _ _ (by rfl) HF.out HI.out hU
structure PrS(w:World)(lab:Nat->Nat × Nat × Nat)(D pb po:Nat)(pr:List Int):Prop where
 lo:D<=pb
 lt:pb<w.heap.size
 lab:lab pb=(0,0,0)
 at_:∀k (h:k<pr.length),w.cell? ⟨pb,po+k,none⟩=some (.int .i64 pr[k])
theorem PrS.sp{w w':World}{lab lab':Nat->Nat × Nat × Nat}{D pb po:Nat}{pr:List Int}{ok:Nat->Prop}(h:PrS w lab D pb po pr)(k:XL w w' lab lab' D ok)(hk:ok pb):PrS w' lab' D pb po pr:=by
 have:=k.same pb h.lo h.lt hk;exact⟨h.lo,Nat.lt_of_lt_of_le h.lt k.size,this.2.trans h.lab,fun i hi=>(Xc this.1).trans (h.at_ i hi)⟩
structure U4 where
 j:Nat
 vu:Value
 c22:Value
 tl:List Value
theorem lu4{Q:Exit->Act->World->Prop}(w:World)(D fb lb V:Nat)(xs:List Xg)(a1:Option Addr)(m1 c1 b g0 k0:Nat)(X1:Value)(ia:Option Addr)(ic sg:Nat)(sa:Option Addr)(sc:Nat)(il sl:List Int)(pa qa:Option Addr)(ps:List Ph)(is:List XS)(ca ma:Option Addr)(n cc m mc sm:Nat)(ct tt:Nat)(ga:Option Addr)(gl gc pb po prl prc:Nat)(pr G G0:List Int)(i K:Nat)(c2 c3 c4 c12 c13 c14 c15 c16 c17 c23:Value)(hct:ct<xs.length)(htt:tt<xs.length)(htg:Hid ((tt:Int)∈xs[ct].term.targets))(hpr:Hid (pr=predsFrom xs 0 (tt:Int)))(hprl:Hid (prl=pr.length))(hgl:Hid (gl=G.length))(hG:Hid (G=YI G0 xs[ct] xs[ct].instrs.length))(hGl:gl<=210000)(hok:Hid (UF V xs))(hm1:Hid (m1=xs.length))(hi:i<prl)(hK:K<=1000000000)
 (hexit:∀(lab:Nat->Nat × Nat × Nat)(vu c21 c22:Value)(U:List Int)(tl:List Value)(w':World),tl.length=286->ZS w w' lab D fb lb V xs a1 m1 c1 b g0 k0 X1 ia ic sg sa sc il sl pa qa ps is vu (.slice ga gl gc) U G []->PrS w' lab D pb po pr->Tl xs V b ct U G0->U.length<=K+4000->Q (.exit 8) ⟨(.slice ca n cc::.slice ma m mc::c2::c3::c4::.pointer (some ⟨fb,0,none⟩)::.pointer (some ⟨lb,0,none⟩)::.int .i64 ((b:Nat):Int)::.slice (some ⟨sg,0,none⟩) sm sm::vu::.slice ga gl gc::.int .i64 ((ct:Nat):Int)::c12::c13::c14::c15::c16::c17::.int .i64 ((tt:Nat):Int)::.slice (some ⟨pb,po,none⟩) prl prc::.int .i64 ((i:Nat):Int)::c21::c22::c23::tl).toArray,[]⟩ w')
 (lab:Nat->Nat × Nat × Nat) (vu c22:Value) (U:List Int) (tl:List Value) (wr:World) (hl:tl.length=286) (h:Hid (ZS w wr lab D fb lb V xs a1 m1 c1 b g0 k0 X1 ia ic sg sa sc il sl pa qa ps is vu (.slice ga gl gc) U G [])) (hp:Hid (PrS wr lab D pb po pr)) (hI:Hid (Tl xs V b ct U G0)) (hU:U.length<=K) :
 Code.wp Tryd.prog (Code.loop Zjd) Q ⟨(.slice ca n cc::.slice ma m mc::c2::c3::c4::.pointer (some ⟨fb,0,none⟩)::.pointer (some ⟨lb,0,none⟩)::.int .i64 ((b:Nat):Int)::.slice (some ⟨sg,0,none⟩) sm sm::vu::.slice ga gl gc::.int .i64 ((ct:Nat):Int)::c12::c13::c14::c15::c16::c17::.int .i64 ((tt:Nat):Int)::.slice (some ⟨pb,po,none⟩) prl prc::.int .i64 ((i:Nat):Int)::.int .i64 ((0:Nat):Int)::c22::c23::tl).toArray,[]⟩ wr:=by
 have HX:=Xa hexit;clear hexit;obtain⟨j0,hj0,hy0,hy1,hy2⟩:=Xp Tryd.info2';refine wp_loop (fun a' wr=>∃x:U4,a'=⟨(.slice ca n cc::.slice ma m mc::c2::c3::c4::.pointer (some ⟨fb,0,none⟩)::.pointer (some ⟨lb,0,none⟩)::.int .i64 ((b:Nat):Int)::.slice (some ⟨sg,0,none⟩) sm sm::x.vu::.slice ga gl gc::.int .i64 ((ct:Nat):Int)::c12::c13::c14::c15::c16::c17::.int .i64 ((tt:Nat):Int)::.slice (some ⟨pb,po,none⟩) prl prc::.int .i64 ((i:Nat):Int)::.int .i64 ((x.j:Nat):Int)::x.c22::c23::x.tl).toArray,[]⟩/\x.tl.length=286/\x.j<=xs[tt].phis.length/\Hid (∃lab U,ZS w wr lab D fb lb V xs a1 m1 c1 b g0 k0 X1 ia ic sg sa sc il sl pa qa ps is x.vu (.slice ga gl gc) U G []/\PrS wr lab D pb po pr/\Tl xs V b ct U G0/\U.length<=K+x.j)) (fun a' _=>xs[tt].phis.length-(intOf (a'.tmps.getD 21 undef)).toNat) ⟨⟨0,vu,c22,tl⟩,rfl,hl,Nat.zero_le _,Xa ⟨lab,U,h.out,hp.out,hI.out,hU⟩⟩ ?_;clear h hl hI hU hp;rintro a' wr ⟨⟨j,vu,c22,tl⟩,rfl,hl,hj,HS⟩;dsimp only at hl hj HS |-
 conv=>arg 2;whnf
 obtain⟨f,rfl⟩:=Km tl hl;clear hl;obtain⟨lab,U,hR,hP,hI,hU⟩:=HS.out;have HR:=Xa hR;have HP:=Xa hP;have HI:=Xa hI;clear hR HS hI hP;have hjl:=(hok.lens _ (List.getElem_mem htt)).2;have hip:i<pr.length:=by rw[<-hprl.out];exact hi
 have p0:=HP.at_ i hip;obtain⟨gb,ob,ha1,hgb,qa2,qc2,ib2,ic2,b0,-,-,hps2,-⟩:=HR.s.at_ tt htt;subst ha1;have x1:wr.cell? ⟨fb,1,none⟩=some (.slice (some ⟨gb,ob,none⟩) m1 c1):=Bx.cell HR.s.fbx rfl;have htm:tt<m1:=by rw[hm1.out];exact htt
 have HPE:Hid (pr[i]=pr.getD i 0):=Xa (by simp[hip]);generalize pr[i]=pi at *;by_cases heq:pi=(ct:Int)
 ·have heb:(pi==(ct:Int))=true:=by simpa using heq
  have HEQ:Hid (pr.getD i 0=(ct:Int)):=Xa (by rw[<-HPE.out];exact heq);clear heq;obtain⟨pn,hpn⟩:∃pn,pn=xs[tt].phis.length:=⟨_,rfl⟩;rw[<-hpn]at b0 hjl hj;have HPN:=Xa hpn;rw[<-hpn];clear hpn;by_cases hlt:j<pn
  ·have hltI:(j:Int)<pn:=by omega
   have hjp:j<xs[tt].phis.length:=by rw[<-HPN.out];exact hlt
   obtain⟨fb2,fo2,hqa2,-,aa,ac,-,d1,hargs⟩:=hps2 j hjp;subst hqa2;have HAL:=Xa ((hok.pha tt htt _ (List.getElem_mem hjp)).1);have hia:i<xs[tt].phis[j].args.length:=by rw[HAL.out,<-hpr.out];exact hip
   obtain⟨ab,ao,haa,-,d2⟩:=hargs i hia;subst haa;have HZB:=Xa ((hok.pha tt htt _ (List.getElem_mem hjp)).2 _ (List.getElem_mem hia));have HED:Hid (xs[tt].phis[j].args[i]∈Zz xs ct):=Xa (by
    have:=ZeZ (i:=i) (j:=j) hct htt htg.out (by rw[<-hpr.out];exact hip) (by rw[<-hpr.out];exact HEQ.out) hjp;rw[show xs[tt].phis[j].args.getD i 0=xs[tt].phis[j].args[i] by simp[hia]]at this;exact this)
   have HFN:Hid (xs[tt].phis[j].args[i] ∉ G->Tl xs V b ct (U++[xs[tt].phis[j].args[i]]) G0):=Xa (fun hz=>HI.fin hct (by rw[<-hG.out];exact hz) HZB.out (Or.inr HED.out));obtain⟨al,hal⟩:∃al,al=xs[tt].phis[j].args.length:=⟨_,rfl⟩;rw[<-hal]at d1 hia;clear HED HZB HAL hal hargs hps2;generalize xs[tt].phis[j].args[i]=z at *
   go_wp2_with fail
   refine(Zt ga gl gc G z D wr.heap.size wr (Xa HR.g.ints) hgl (by omega)).mono ?_;rintro e w9 ⟨rfl,hw9⟩;subst hw9;by_cases hz:z∈G
   ·rw[show G.contains z=true from List.contains_iff_mem.2 hz]
    clear hz
    go_wp2_with fail
    first | exact⟨⟨⟨j+1,vu,_,_⟩,rfl,rfl,(by show j+1<=pn;omega),Xa ⟨_,_,HR.out,HP.out,HI.out,(by show U.length<=K+(j+1);omega)⟩⟩,by simp[intOf];omega⟩ | exact⟨⟨⟨j+1,vu,_,_⟩,⟨rfl,by show(j:Int)+1=((j+1:Nat):Int);omega,rfl,rfl⟩,rfl,(by show j+1<=pn;omega),Xa ⟨_,_,HR.out,HP.out,HI.out,(by show U.length<=K+(j+1);omega)⟩⟩,by simp[intOf];omega⟩
   ·have HI2:=Xa (HFN.out hz)
    rw[show G.contains z=false by rw[<-Bool.not_eq_true,List.contains_iff_mem];exact hz];clear hz HFN;obtain⟨ua,uc,hvu,-⟩:=HR.uAt;subst hvu
    go_wp2_with (at_builtin;refine wpList_append_own_at _ rfl _ _ 40 rfl D 2 j0 (.int .i64 0) 1 8 Tryd.underlying40 hj0 hy0 hy1 hy2 rfl (by decide) _ U.length (Xl U) rfl (HR.u.own.alloc _) ⟨w9.heap.size,0,none⟩ 1 1 [.int .i64 z] rfl rfl (Xz _ _ _) ?c2a ?c3a ?c4a ?c5a ?_)
    case c2a=>first | rfl | (intro u hu;simp at hu;subst hu;rfl)
    case c3a=>unfold maxLen;have:=hU;omega
    case c4a=>have:=hU;omega
    case c5a=>(try simp);have:=HR.s.sz;omega
    intro v8 w8 hown8 hg8 hne8 hat8;obtain⟨lab',hN,kN⟩:=HR.pushU hg8 hown8 rfl (by rw[World.size_alloc];exact hat8);have HN:=Xa hN;have HP2:=Xa (HP.sp kN (by rw[HP.lab];simp));obtain⟨g8,c8,rfl,hgb8,hcap⟩:=Xh hown8 (by omega);have HUL:Hid ((U++[z]).length<=K+(j+1)):=Xa (by rw[List.length_append];simp;omega);clear hgb8 hcap hne8 hat8 hown8 hg8 hN kN HR HP
    go_wp2_with fail
    first | exact⟨⟨⟨j+1,_,_,_⟩,rfl,rfl,(by show j+1<=pn;omega),Xa ⟨_,_,HN.out,HP2.out,HI2.out,HUL.out⟩⟩,by simp[intOf];omega⟩ | exact⟨⟨⟨j+1,_,_,_⟩,⟨rfl,by show(j:Int)+1=((j+1:Nat):Int);omega,rfl,rfl⟩,rfl,(by show j+1<=pn;omega),Xa ⟨_,_,HN.out,HP2.out,HI2.out,HUL.out⟩⟩,by simp[intOf];omega⟩
  ·have hltI:¬(j:Int)<pn:=by omega
   go_wp2_with fail
   exact HX.out _ _ _ _ _ _ _ (by rfl) HR.out HP.out HI.out (by omega)
 ·have heb:(pi==(ct:Int))=false:=by simpa using heq
  clear heq
  go_wp2_with fail
  exact HX.out _ _ _ _ _ _ _ (by rfl) HR.out HP.out HI.out (by omega)
structure U5 where
 i:Nat
 vu:Value
 c21:Value
 c22:Value
 tl:List Value
theorem lu5{Q:Exit->Act->World->Prop}(w:World)(D fb lb V:Nat)(xs:List Xg)(a1:Option Addr)(m1 c1 b g0 k0:Nat)(X1:Value)(ia:Option Addr)(ic sg:Nat)(sa:Option Addr)(sc:Nat)(il sl:List Int)(pa qa:Option Addr)(ps:List Ph)(is:List XS)(ca ma:Option Addr)(n cc m mc sm:Nat)(ct tt:Nat)(ga:Option Addr)(gl gc pb po prl prc:Nat)(pr G G0:List Int)(K:Nat)(c2 c3 c4 c12 c13 c14 c15 c16 c17 c23:Value)(hct:ct<xs.length)(htt:tt<xs.length)(htg:Hid ((tt:Int)∈xs[ct].term.targets))(hpr:Hid (pr=predsFrom xs 0 (tt:Int)))(hprl:Hid (prl=pr.length))(hgl:Hid (gl=G.length))(hG:Hid (G=YI G0 xs[ct] xs[ct].instrs.length))(hGl:gl<=210000)(hok:Hid (UF V xs))(hm1:Hid (m1=xs.length))(hpl:prl<=1000)(hK:K<=900000000)
 (hexit:∀(lab:Nat->Nat × Nat × Nat)(vu c21 c22:Value)(U:List Int)(tl:List Value)(w':World),tl.length=286->ZS w w' lab D fb lb V xs a1 m1 c1 b g0 k0 X1 ia ic sg sa sc il sl pa qa ps is vu (.slice ga gl gc) U G []->Tl xs V b ct U G0->U.length<=K+prl*4000->Q (.exit 6) ⟨(.slice ca n cc::.slice ma m mc::c2::c3::c4::.pointer (some ⟨fb,0,none⟩)::.pointer (some ⟨lb,0,none⟩)::.int .i64 ((b:Nat):Int)::.slice (some ⟨sg,0,none⟩) sm sm::vu::.slice ga gl gc::.int .i64 ((ct:Nat):Int)::c12::c13::c14::c15::c16::c17::.int .i64 ((tt:Nat):Int)::.slice (some ⟨pb,po,none⟩) prl prc::.int .i64 ((prl:Nat):Int)::c21::c22::c23::tl).toArray,[]⟩ w')
 (lab:Nat->Nat × Nat × Nat) (vu c21 c22:Value) (U:List Int) (tl:List Value) (wr:World) (hl:tl.length=286) (h:Hid (ZS w wr lab D fb lb V xs a1 m1 c1 b g0 k0 X1 ia ic sg sa sc il sl pa qa ps is vu (.slice ga gl gc) U G [])) (hp:Hid (PrS wr lab D pb po pr)) (hI:Hid (Tl xs V b ct U G0)) (hU:U.length<=K) :
 Code.wp Tryd.prog (Code.loop Zi5) Q ⟨(.slice ca n cc::.slice ma m mc::c2::c3::c4::.pointer (some ⟨fb,0,none⟩)::.pointer (some ⟨lb,0,none⟩)::.int .i64 ((b:Nat):Int)::.slice (some ⟨sg,0,none⟩) sm sm::vu::.slice ga gl gc::.int .i64 ((ct:Nat):Int)::c12::c13::c14::c15::c16::c17::.int .i64 ((tt:Nat):Int)::.slice (some ⟨pb,po,none⟩) prl prc::.int .i64 ((0:Nat):Int)::c21::c22::c23::tl).toArray,[]⟩ wr:=by
 have HX:=Xa hexit;clear hexit;refine wp_loop (fun a' wr=>∃x:U5,a'=⟨(.slice ca n cc::.slice ma m mc::c2::c3::c4::.pointer (some ⟨fb,0,none⟩)::.pointer (some ⟨lb,0,none⟩)::.int .i64 ((b:Nat):Int)::.slice (some ⟨sg,0,none⟩) sm sm::x.vu::.slice ga gl gc::.int .i64 ((ct:Nat):Int)::c12::c13::c14::c15::c16::c17::.int .i64 ((tt:Nat):Int)::.slice (some ⟨pb,po,none⟩) prl prc::.int .i64 ((x.i:Nat):Int)::x.c21::x.c22::c23::x.tl).toArray,[]⟩/\x.tl.length=286/\x.i<=prl/\Hid (∃lab U,ZS w wr lab D fb lb V xs a1 m1 c1 b g0 k0 X1 ia ic sg sa sc il sl pa qa ps is x.vu (.slice ga gl gc) U G []/\PrS wr lab D pb po pr/\Tl xs V b ct U G0/\U.length<=K+x.i*4000)) (fun a' _=>prl-(intOf (a'.tmps.getD 20 undef)).toNat) ⟨⟨0,vu,c21,c22,tl⟩,rfl,hl,Nat.zero_le _,Xa ⟨lab,U,h.out,hp.out,hI.out,by simpa using hU⟩⟩ ?_;clear h hl hI hU hp;rintro a' wr ⟨⟨i,vu,c21,c22,tl⟩,rfl,hl,hi,HS⟩;dsimp only at hl hi HS |-
 conv=>arg 2;whnf
 obtain⟨f,rfl⟩:=Km tl hl;clear hl;obtain⟨lab,U,hR,hP,hI,hU⟩:=HS.out;have HR:=Xa hR;have HP:=Xa hP;have HI:=Xa hI;clear hR HS hI hP;by_cases hlt:i<prl
 ·have hltI:(i:Int)<prl:=by omega
  go_wp2_with fail
  refine lu4 w D fb lb V xs a1 m1 c1 b g0 k0 X1 ia ic sg sa sc il sl pa qa ps is ca ma n cc m mc sm ct tt ga gl gc pb po prl prc pr G G0 i (K+i*4000) _ _ _ _ _ _ _ _ _ _ hct htt htg hpr hprl hgl hG hGl hok hm1 hlt (by omega) ?_ lab _ _ U _ _ (by rfl) HR HP HI hU;intro lab2 vu2 c21 c22 U2 tl w2 hl hR2 hP2 hI2 hU2;obtain⟨f,rfl⟩:=Km tl hl;clear hl HR HP HI;have HR2:=Xa hR2;have HP2:=Xa hP2;have HI2:=Xa hI2;clear hR2 hP2 hI2;have hU3:U2.length<=K+(i+1)*4000:=by omega
  go_wp2_with fail
  first | exact⟨⟨⟨i+1,vu2,c21,c22,_⟩,rfl,rfl,(by show i+1<=prl;omega),Xa ⟨_,_,HR2.out,HP2.out,HI2.out,hU3⟩⟩,by simp[intOf];omega⟩ | exact⟨⟨⟨i+1,vu2,c21,c22,_⟩,⟨rfl,by show(i:Int)+1=((i+1:Nat):Int);omega,rfl,rfl,rfl⟩,rfl,(by show i+1<=prl;omega),Xa ⟨_,_,HR2.out,HP2.out,HI2.out,hU3⟩⟩,by simp[intOf];omega⟩
 ·have hltI:¬(i:Int)<prl:=by omega
  have hie:i=prl:=by omega
  subst hie
  go_wp2_with fail
  exact HX.out _ _ _ _ _ _ _ (by rfl) HR.out HI.out hU
end Go.Proofs.YtbofmlmdgkblkaaDoor
