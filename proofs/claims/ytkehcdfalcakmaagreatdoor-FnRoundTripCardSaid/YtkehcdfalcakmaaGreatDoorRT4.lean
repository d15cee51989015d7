import Derived.Test.YtkehcdfalcakmaaGreatDoorDW1
namespace Go.Proofs.YtkehcdfalcakmaaGreatDoor
set_option maxHeartbeats 4000000
set_option maxRecDepth 100000
open Go.RowKit
theorem ZdB(sb B:Nat)(s:Sr)(w:World)(h:Hid (Zs w sb B s)) :
 Calls Tryz.prog 31 #[.pointer (some ⟨sb,0,none⟩)] w fun e w'=>DrE (limitP s) w sb e w':=by
 have hbw:Hid (B<=w.heap.size):=Xa h.sB;have hsb:Hid (sb<w.heap.size):=Xa (by have:=h.bB;have:=h.sB;omega);have HB0:=Xa (h.box (.cells #[.int .i64 0,.slice none 0 0] 25));obtain⟨i0,hi0,hz0,hz1,hz2⟩:=X0 Tryz.infoInsD;obtain⟨j0,hj0,hy0,hy1,hy2⟩:=X0 Tryz.infoBlkD;have HP:Hid (limitP s=Wt (nextP s 2).1 (nextP (nextP s 2).2 5).1 (nextP (nextP s 2).2 5).2):=Xa rfl
 go_enter Tryz.func31,Tryz.ntmps31
 go_wp2_with fail
 refine(Xv sb B s 2 _ HB0 (by omega) (by omega)).mono ?_;rintro e w1 ⟨rfl,hd,hg⟩;have hl:=Xx s (n:=2) (by omega);obtain⟨ov,s1,hrs⟩:∃r s9,nextP s 2=(r,s9):=⟨_,_,rfl⟩;rw[hrs]at hd HP hl |-;dsimp only at hd HP hl |-;have HD:=Xa hd;have HG:=Xa hg;clear hd hg hrs h HB0
 go_wp2_with fail
 refine(Xv sb B s1 5 w1 HD (by omega) (by omega)).mono ?_;rintro e w2 ⟨rfl,hd,hg⟩;have hl5:=Xx s1 (n:=5) (by omega);obtain⟨k,s2,hrs⟩:∃r s9,nextP s1 5=(r,s9):=⟨_,_,rfl⟩;rw[hrs]at hd HP hl5 |-;dsimp only at hd HP hl5 |-;have HD2:=Xa hd;have HG2:=Xa (Yi HG.out hg);have hw2:w.heap.size<w2.heap.size:=Nat.lt_of_lt_of_le (by simp) HG2.size;clear hd hg hrs HD HG
 go_wp2_with (at_builtin;refine wpList_append_own_at _ rfl _ _ 39 rfl w.heap.size 53 i0 (.agg #[.int .i64 0,.int .i64 0,.int .i64 0,.int .i64 0,.int .i64 0]) 5 40 Tryz.underlying39 hi0 hz0 hz1 hz2 rfl (by decide) _ 0 [] rfl (World.ownsRow_nil _ _ _ _) ⟨w2.heap.size+1,0,none⟩ 1 1 [.int .i64 1,.int .i64 0,.int .i64 0,.int .i64 0,.int .i64 7] rfl rfl ?c1 ?c2 ?c3 ?c4 ?c5 ?_)
 case c1=>exact World.news_of_block (by rw[<-World.size_alloc w2 (.cells #[.slice none 0 0,.slice none 0 0,.int .i64 3,.int .i64 0,.int .i64 0,.int .i64 0] 43)];exact World.alloc_heap_new _ _)
 case c2=>intro u hu;simp at hu;rcases hu with rfl | rfl | rfl | rfl | rfl<;>rfl
 case c3=>unfold maxLen;omega
 case c4=>omega
 case c5=>simp;omega
 intro v8 w8 hown8 hg8 hne8 hat8;obtain⟨hA,hx8⟩:=TV.begin HG2.out HD2.out hsb.out hbw.out hg8 hown8;obtain⟨g8,c8,rfl,_,_⟩:=Xj hown8 (by omega);have k1:w8.cell? ⟨w2.heap.size,1,none⟩=some (.slice none 0 0):=Bx.cell hx8 rfl;have kz:=Bx.thaw hx8;have HA:=Xa hA;clear hA hx8 hown8 hg8 hne8 hat8 HD2 HG2
 go_upto_if 24 with fail
 have HA2:Hid (TV w ((w8.setCell ⟨w2.heap.size,1,none⟩ (.slice (some ⟨g8,0,none⟩) 1 c8)).alloc (.cells #[.int .i64 1,.slice none 0 0] 25)) sb B s2 w2.heap.size w8.heap.size 1 (.slice (some ⟨g8,0,none⟩) 1 c8) [cst7]):=HA;clear HA k1 kz;generalize (w8.setCell ⟨w2.heap.size,1,none⟩ (.slice (some ⟨g8,0,none⟩) 1 c8)).alloc (.cells #[.int .i64 1,.slice none 0 0] 25)=wa at *;clear hw2;generalize w2.heap.size=xb at *;generalize w8.heap.size=fb at *
 go_cut [] from 24 to 99 (fun wx=>Hid (LmX 1 w wx sb B xb fb ov k s2))
 case first =>
  by_cases h0:k=0
  ·have hk:(k==0)=true:=by simpa using h0
   have H0:=Xa h0;clear h0;have x1:wa.cell? ⟨xb,1,none⟩=some (.slice (some ⟨g8,0,none⟩) 1 c8):=Bx.cell HA2.bx rfl;have e1:IntKind.i64.wrap (1000000000+ov)=1000000000+ov:=by rw[IntKind.wrap_i64];omega
   have hxw:xb<wa.heap.size:=HA2.bx.lt;have hxs:xb≠sb:=by have:=HA2.xw;have:=hsb.out;omega
   go_wp2;refine YZ (fun w'=>w'.cell? ⟨xb,1,none⟩=some (.slice (some ⟨g8,0,none⟩) 1 c8)) (fun hHeld=>?_);refine Xl 0 ?_;refine Xl 1 ?_;refine Xl 2 ?_;refine Xl 3 ?_;refine Xl 4 ?_;refine Xw 5 (fun K hK=>?_);go_simp
   go_at_call 30
   refine(Xv sb B s2 2 _ (Xa HA2.dr.drew) (by omega) (by omega)).mono ?_;rintro e w3 ⟨rfl,hd,hg⟩;have HA3:=Xa (HA2.drew.next hd hg hsb.out);have x3:w3.cell? ⟨xb,1,none⟩=some (.slice (some ⟨g8,0,none⟩) 1 c8):=Bx.cell HA3.bx rfl;have hlr:=Xx s2 (n:=2) (by omega);have HR:Hid (Wt ov k s2=⟨1,[⟨[],[⟨1,0,0,0,(1000000000+ov)*(1-2*(nextP s2 2).1)⟩],ZO⟩]⟩):=Xa (by unfold Wt;rw[if_pos H0.out]);generalize (nextP s2 2).1=r at *;have e2:IntKind.i64.wrap (2*r)=2*r:=by rw[IntKind.wrap_i64];omega
   have e3:IntKind.i64.wrap (1-2*r)=1-2*r:=by rw[IntKind.wrap_i64];omega
   have e4:IntKind.i64.wrap ((1000000000+ov)*(1-2*r))=(1000000000+ov)*(1-2*r):=by
    rw[IntKind.wrap_i64];have:r=0\/r=1:=by omega
    rcases this with rfl | rfl<;>omega
   have z3:=HA3.own.frozenAt;have z4:w3.cell? ⟨g8,4,none⟩=some (.int .i64 7):=KS HA3.own (show(XD [cst7])[4]?=some (.int .i64 7) from rfl);dsimp only;refine hK _ _ x3 (fun hHeld=>?_);clear hK hd hg
   try simp only[Act.put,xA,xB,xC,xD,xE,xF]
   refine Xl 6 ?_;refine Xl 7 ?_;refine Xl 8 ?_;refine Xl 9 ?_;refine Xl 10 ?_;refine Xw 11 (fun K hK=>?_);go_simp;refine hK _ _ ?q1 (fun hHeld=>?_)
   case q1=>exact(World.cell?_setCell_far w3 ⟨g8,4,none⟩ ⟨xb,1,none⟩ _ (fun e=>Zu HA3.bx HA3.own (by decide) (by rw[show xb=g8 from e.symm];rfl))).trans x3
   clear hK;refine Y7 ?_;clear hHeld
   go_wp2_with fail
   go_meet;exact Xa ⟨1,_,_,_,HA3.one 4 _ ⟨1,0,0,0,(1000000000+ov)*(1-2*r)⟩ rfl,⟨fun _=>by rw[HR.out];unfold T8;rw[if_neg (by rw[H0.out];decide)],fun q=>absurd (show k<1 by rw[H0.out];decide) q⟩,by simp,by simp⟩
  ·have hk:(k==0)=false:=by simpa using h0
   go_wp2;go_meet;exact Xa ⟨1,_,_,_,HA2.out,⟨fun q=>absurd (show k=0 by omega) h0,fun _=>⟨rfl,rfl,rfl⟩⟩,by simp,by simp⟩
 case rest =>
  have HX:=hcut;clear hcut HA2;generalize wc=wa at *
  go_upto_if 37 with fail
  go_cut [] from 24 to 99 (fun wx=>Hid (LmX 2 w wx sb B xb fb ov k s2))
  case first =>
   by_cases h0:k=1
   ·have hk:(k==1)=true:=by simpa using h0
    have H0:=Xa h0;clear h0;obtain⟨V,iv,is,s9,hA,⟨_,hq⟩,_⟩:=HX.out;obtain⟨rfl,rfl,rfl⟩:=hq (by rw[H0.out];decide);obtain⟨g,c,rfl,_,_⟩:=Xj hA.own (by decide);have HA:=Xa hA;have x1:wa.cell? ⟨xb,1,none⟩=some (.slice (some ⟨g,0,none⟩) [cst7].length c):=Bx.cell hA.bx rfl;rw[List.length_singleton]at x1;have e1:IntKind.i64.wrap (7+ov)=7+ov:=by rw[IntKind.wrap_i64];omega
    have z3:=hA.own.frozenAt;have cc:∀q u,cst7.cells[q]?=some u->wa.cell? ⟨g,q,none⟩=some u:=fun q u h=>KS hA.own (by rw[show XD [cst7]=cst7.cells by simp[XD,XW]];exact h)
    have y0:=cc 0 _ rfl;have y1:=cc 1 _ rfl;have y2:=cc 2 _ rfl;have y3:=cc 3 _ rfl;have y4:=cc 4 _ rfl;clear hA hq cc;go_wp2;go_meet;exact Xa ⟨1,_,_,_,((((HA.one 0 _ ⟨2,0,0,0,7⟩ rfl).one 1 _ ⟨2,0,0,0,7⟩ rfl).one 2 _ ⟨2,0,0,0,7⟩ rfl).one 3 _ ⟨2,0,0,0,7⟩ rfl).one 4 _ ⟨2,0,0,0,7+ov⟩ rfl,⟨fun _=>by unfold Wt T8;rw[if_neg (by rw[H0.out];decide),if_pos H0.out,if_neg (by rw[H0.out];decide)],fun q=>absurd (show k<2 by rw[H0.out];decide) q⟩,by simp,by simp⟩
   ·have hk:(k==1)=false:=by simpa using h0
    go_wp2;go_meet;obtain⟨V,iv,is,s9,hA,⟨h1,hq⟩,hz⟩:=HX.out;exact Xa ⟨V,iv,is,s9,hA,⟨fun q=>h1 (by omega),fun q=>hq (by omega)⟩,hz⟩
  case rest =>
   have HX:=hcut;clear hcut;generalize wc=wa at *
   go_upto_if 45 with fail
   go_cut [] from 24 to 99 (fun wx=>Hid (LmX 3 w wx sb B xb fb ov k s2))
   case first =>
    by_cases h0:k=2
    ·have hk:(k==2)=true:=by simpa using h0
     simp only[hk];have H0:=Xa h0;clear h0;obtain⟨V,iv,is,s9,hA,⟨_,hq⟩,_⟩:=HX.out;obtain⟨rfl,rfl,rfl⟩:=hq (by rw[H0.out];decide);have HA:Hid (TV w wa sb B s9 xb fb ((1:Nat):Int) iv (cst7::(List.range' 1 (1-1)).map Zb9)):=Xa hA;clear hA hq HX;obtain⟨N,hN⟩:∃N:Nat,(N:Int)=2000+ov:=⟨(2000+ov).toNat,by omega⟩;have HN:=Xa hN;have hN1:N<=2001:=by omega
     have hN2:2000<=N:=by omega
     have e1:IntKind.i64.wrap (2000+ov)=(N:Int):=by rw[IntKind.wrap_i64];omega
     clear hN;go_wp2
     go_loopw [7] (fun i wr=>∃(j:Nat)(iv:Value),1<=j/\j<=N/\i=.int .i64 j/\Hid (TV w wr sb B s9 xb fb (j:Int) iv (cst7::(List.range' 1 (j-1)).map Zb9))) (fun i _=>N-(intOf i).toNat)
     case atStart=>exact⟨1,_,Nat.le_refl _,by omega,rfl,HA⟩
     case round =>
      obtain⟨j,iv,hj1,hjN,rfl,HA⟩:=hrel;by_cases hlt:j<N
      ·have hltI:(j:Int)<(N:Int):=by omega
       obtain⟨is,his⟩:∃is,is=cst7::(List.range' 1 (j-1)).map Zb9:=⟨_,rfl⟩;rw[<-his]at HA;have HIS:=Xa his;have HLN:Hid (is.length=j):=Xa (by rw[his];simp;omega);clear his;obtain⟨g,c,hiv,_,_⟩:=Xj HA.own (by rw[HLN.out];omega);rw[HLN.out]at hiv;subst hiv;have x1:wr.cell? ⟨xb,1,none⟩=some (.slice (some ⟨g,0,none⟩) j c):=Bx.cell HA.bx rfl;have hws:=HA.size
       go_wp2_with (at_builtin;refine wpList_append_own_at _ rfl _ _ 39 rfl w.heap.size 53 i0 (.agg #[.int .i64 0,.int .i64 0,.int .i64 0,.int .i64 0,.int .i64 0]) 5 40 Tryz.underlying39 hi0 hz0 hz1 hz2 rfl (by decide) _ is.length (XD is) rfl (HA.own.alloc _) ⟨wr.heap.size,0,none⟩ 1 1 [.int .i64 1,.int .i64 (j:Int),.int .i64 0,.int .i64 0,.int .i64 (j:Int)] rfl rfl (World.news_of_block (World.alloc_heap_new _ _)) ?d2 ?d3 ?d4 ?d5 ?_)
       case d2=>intro u hu;simp at hu;rcases hu with rfl | rfl | rfl | rfl | rfl<;>rfl
       case d3=>unfold maxLen;rw[HLN.out];omega
       case d4=>rw[HLN.out];omega
       case d5=>simp;omega
       intro v8 w8 hown8 hg8 hne8 hat8;obtain⟨hA8,hx8⟩:=HA.push (Zb9 j) _ hg8 hown8;obtain⟨g',c',rfl,_,_⟩:=Xj hown8 (by omega);rw[HLN.out]at hA8 |-;have k0:w8.cell? ⟨xb,1,none⟩=some (.slice (some ⟨g,0,none⟩) j c):=Bx.cell hx8 rfl;have kz:=Bx.thaw hx8;have f0:(w8.setCell ⟨xb,1,none⟩ (.slice (some ⟨g',0,none⟩) (j+1) c')).cell? ⟨fb,0,none⟩=some (.int .i64 (j:Int)):=Bx.cell hA8.bf rfl;have fz:=Bx.thaw hA8.bf;have e2:IntKind.i64.wrap ((j:Int)+1)=(j:Int)+1:=by rw[IntKind.wrap_i64];omega
       have HA9:Hid (TV w ((w8.setCell ⟨xb,1,none⟩ (.slice (some ⟨g',0,none⟩) (j+1) c')).setCell ⟨fb,0,none⟩ (.int .i64 ((j:Int)+1))) sb B s9 xb fb ((j+1:Nat):Int) (.slice (some ⟨g',0,none⟩) (j+1) c') (cst7::(List.range' 1 (j+1-1)).map Zb9)):=Xa (by
        have e:cst7::(List.range' 1 (j+1-1)).map Zb9=is++[Zb9 j]:=by
         obtain⟨m,rfl⟩:∃m,j=m+1:=⟨j-1,by omega⟩;rw[HIS.out,Nat.add_sub_cancel,Nat.add_sub_cancel,List.range'_concat];simp[Nat.add_comm]
        rw[e];exact hA8.vals _)
       clear x1 hA8 hx8 hown8 hg8 hne8 hat8 HA
       go_wp2_with fail
       exact⟨⟨j+1,_,by omega,by omega,by go_num,HA9⟩,by simp[intOf];omega⟩
      ·have hltI:¬(j:Int)<(N:Int):=by omega
       have hje:j=N:=by omega
       have HJ:=Xa hje;clear hje;go_wp2;go_meet;refine Xa ⟨_,_,_,_,HA.out,⟨fun _=>?_,fun q=>absurd (show k<3 by rw[H0.out];decide) q⟩,by simp,by simp;omega⟩;unfold Wt T8;rw[if_neg (by rw[H0.out];decide),if_neg (by rw[H0.out];decide),if_pos H0.out,if_neg (by rw[H0.out];decide),HJ.out,HN.out,show N-1=1999+ov.toNat by have:=HN.out;omega]
    ·have hk:(k==2)=false:=by simpa using h0
     go_wp2;go_meet;obtain⟨V,iv,is,s9,hA,⟨h1,hq⟩,hz⟩:=HX.out;exact Xa ⟨V,iv,is,s9,hA,⟨fun q=>h1 (by omega),fun q=>hq (by omega)⟩,hz⟩
   case rest =>
    have HX:=hcut;clear hcut;generalize wc=wa at *
    go_upto_if 65 with fail
    go_cut [] from 24 to 99 (fun wx=>Hid (LmX 4 w wx sb B xb fb ov k s2))
    case first =>
     by_cases h0:k=3
     ·have hk:(k==3)=true:=by simpa using h0
      simp only[hk];have H0:=Xa h0;clear h0;obtain⟨V,iv,is,s9,hA,⟨_,hq⟩,_⟩:=HX.out;obtain⟨rfl,rfl,rfl⟩:=hq (by rw[H0.out];decide);have HA:Hid (TV w wa sb B s9 xb fb 1 iv (cst7::List.replicate (2-2) Zb8)):=Xa hA;clear hA hq HX;obtain⟨N,hN⟩:∃N:Nat,(N:Int)=4000+ov:=⟨(4000+ov).toNat,by omega⟩;have HN:=Xa hN;have hN1:N<=4001:=by omega
      have hN2:4000<=N:=by omega
      have e1:IntKind.i64.wrap (4000+ov)=(N:Int):=by rw[IntKind.wrap_i64];omega
      clear hN;go_wp2
      go_loopw [8] (fun i wr=>∃(j:Nat)(iv:Value),2<=j/\j<=N/\i=.int .i64 j/\Hid (TV w wr sb B s9 xb fb 1 iv (cst7::List.replicate (j-2) Zb8))) (fun i _=>N-(intOf i).toNat)
      case atStart=>exact⟨2,_,Nat.le_refl _,by omega,rfl,HA⟩
      case round =>
       obtain⟨j,iv,hj1,hjN,rfl,HA⟩:=hrel;by_cases hlt:j<N
       ·have hltI:(j:Int)<(N:Int):=by omega
        obtain⟨is,his⟩:∃is,is=cst7::List.replicate (j-2) Zb8:=⟨_,rfl⟩;rw[<-his]at HA;have HIS:=Xa his;obtain⟨n,hn⟩:∃n,n=is.length:=⟨_,rfl⟩;have hn1:n+1<=j:=by rw[hn,his];simp;omega
        have hn2:j<=n+1:=by rw[hn,his];simp;omega
        have HLN:=Xa hn.symm;clear his hn;obtain⟨g,c,hiv,_,_⟩:=Xj HA.own (by rw[HLN.out];omega);rw[HLN.out]at hiv;subst hiv;have x1:wr.cell? ⟨xb,1,none⟩=some (.slice (some ⟨g,0,none⟩) n c):=Bx.cell HA.bx rfl;have hws:=HA.size
        go_wp2_with (at_builtin;refine wpList_append_own_at _ rfl _ _ 39 rfl w.heap.size 53 i0 (.agg #[.int .i64 0,.int .i64 0,.int .i64 0,.int .i64 0,.int .i64 0]) 5 40 Tryz.underlying39 hi0 hz0 hz1 hz2 rfl (by decide) _ is.length (XD is) rfl (HA.own.alloc _) ⟨wr.heap.size,0,none⟩ 1 1 [.int .i64 10,.int .i64 0,.int .i64 0,.int .i64 0,.int .i64 0] rfl rfl (World.news_of_block (World.alloc_heap_new _ _)) ?f2 ?f3 ?f4 ?f5 ?_)
        case f2=>intro u hu;simp at hu;rcases hu with rfl | rfl<;>rfl
        case f3=>unfold maxLen;rw[HLN.out];omega
        case f4=>rw[HLN.out];omega
        case f5=>simp;omega
        intro v8 w8 hown8 hg8 hne8 hat8;obtain⟨hA8,hx8⟩:=HA.push Zb8 _ hg8 hown8;obtain⟨g',c',rfl,_,_⟩:=Xj hown8 (by omega);rw[HLN.out]at hA8 |-;have k0:w8.cell? ⟨xb,1,none⟩=some (.slice (some ⟨g,0,none⟩) n c):=Bx.cell hx8 rfl;have kz:=Bx.thaw hx8;have HA9:Hid (TV w (w8.setCell ⟨xb,1,none⟩ (.slice (some ⟨g',0,none⟩) (n+1) c')) sb B s9 xb fb 1 (.slice (some ⟨g',0,none⟩) (n+1) c') (cst7::List.replicate (j+1-2) Zb8)):=Xa (by
         have e:cst7::List.replicate (j+1-2) Zb8=is++[Zb8]:=by
          rw[HIS.out,show j+1-2=(j-2)+1 by omega,List.replicate_succ'];simp
         rw[e];exact hA8)
        clear x1 hA8 hx8 hown8 hg8 hne8 hat8 HA
        go_wp2_with fail
        exact⟨⟨j+1,_,by omega,by omega,by go_num,HA9⟩,by simp[intOf];omega⟩
       ·have hltI:¬(j:Int)<(N:Int):=by omega
        have hje:j=N:=by omega
        have HJ:=Xa hje;clear hje;go_wp2;go_meet;refine Xa ⟨_,_,_,_,HA.out,⟨fun _=>?_,fun q=>absurd (show k<4 by rw[H0.out];decide) q⟩,by simp,by simp;omega⟩;unfold Wt T8;rw[if_neg (by rw[H0.out];decide),if_neg (by rw[H0.out];decide),if_neg (by rw[H0.out];decide),if_pos H0.out,if_neg (by rw[H0.out];decide),HJ.out,show N-2=3998+ov.toNat by have:=HN.out;omega]
     ·have hk:(k==3)=false:=by simpa using h0
      go_wp2;go_meet;obtain⟨V,iv,is,s9,hA,⟨h1,hq⟩,hz⟩:=HX.out;exact Xa ⟨V,iv,is,s9,hA,⟨fun q=>h1 (by omega),fun q=>hq (by omega)⟩,hz⟩
    case rest =>
     have HX:=hcut;clear hcut;generalize wc=wa at *;obtain⟨V,iv,is,s9,hA,⟨h1,hq⟩,hz⟩:=HX.out;have HF:Hid (Wt ov k s2=T8 ov k V is):=Xa (by
      by_cases h4:k<4
      ·exact h1 h4
      ·obtain⟨rfl,rfl,rfl⟩:=hq h4
       have:k=4:=by omega
       subst this;unfold Wt T8;rw[if_neg (by decide),if_neg (by decide),if_neg (by decide),if_neg (by decide),if_pos rfl];rfl)
     obtain⟨g,c,hiv,_,_⟩:=Xj hA.own hz.1;obtain⟨n,hn⟩:∃n,n=is.length:=⟨_,rfl⟩;rw[<-hn]at hiv;subst hiv;have HZ:=Xa hz;have HNL:=Xa hn;have f1:wa.cell? ⟨fb,1,none⟩=some (.slice none 0 0):=Bx.cell hA.bf rfl;have x0:wa.cell? ⟨xb,0,none⟩=some (.slice none 0 0):=Bx.cell hA.bx rfl;have x1:wa.cell? ⟨xb,1,none⟩=some (.slice (some ⟨g,0,none⟩) n c):=Bx.cell hA.bx rfl;have x2:wa.cell? ⟨xb,2,none⟩=some (.int .i64 3):=Bx.cell hA.bx rfl;have x3:wa.cell? ⟨xb,3,none⟩=some (.int .i64 0):=Bx.cell hA.bx rfl;have x4:wa.cell? ⟨xb,4,none⟩=some (.int .i64 0):=Bx.cell hA.bx rfl;have x5:wa.cell? ⟨xb,5,none⟩=some (.int .i64 0):=Bx.cell hA.bx rfl;have hws:=hA.size;have HA:=Xa hA;clear hA h1 hq HX hz hn
     go_wp2_with (at_builtin;refine wpList_append_own_at _ rfl _ _ 23 rfl w.heap.size 43 j0 (.agg #[.slice none 0 0,.slice none 0 0,.int .i64 0,.int .i64 0,.int .i64 0,.int .i64 0]) 6 80 Tryz.underlying23 hj0 hy0 hy1 hy2 rfl (by decide) _ 0 [] rfl (World.ownsRow_nil _ _ _ _) ⟨wa.heap.size,0,none⟩ 1 1 [.slice none 0 0,.slice (some ⟨g,0,none⟩) n c,.int .i64 3,.int .i64 0,.int .i64 0,.int .i64 0] rfl rfl (World.news_of_block (World.alloc_heap_new _ _)) ?m2 ?m3 ?m4 ?m5 ?_)
     case m2=>intro u hu;simp at hu;rcases hu with rfl | rfl | rfl | rfl<;>rfl
     case m3=>unfold maxLen;omega
     case m4=>omega
     case m5=>simp;omega
     intro v8 w8 hown8 hg8 hne8 hat8;obtain⟨hB8,hf8⟩:=(TV.start HA.out).push _ ⟨[],is,ZO⟩ hg8 hown8;obtain⟨g',c',rfl,_,_⟩:=Xj hown8 (by omega);have k0:w8.cell? ⟨fb,1,none⟩=some (.slice none 0 0):=Bx.cell hf8 rfl;have kz:=Bx.thaw hf8;have HB:Hid (LmB w (w8.setCell ⟨fb,1,none⟩ (.slice (some ⟨g',0,none⟩) 1 c')) sb fb V (.slice (some ⟨g,0,none⟩) n c) (.slice (some ⟨g',0,none⟩) 1 c') (⟨[],is,ZO⟩ :: List.replicate (1-1) Ve) is):=Xa hB8;clear hB8 hf8 hown8 hg8 hne8 hat8 HA f1 x0 x1 x2 x3 x4 x5
     go_upto_if 85 with fail
     clear k0 kz;generalize w8.setCell ⟨fb,1,none⟩ (.slice (some ⟨g',0,none⟩) 1 c')=wb at *
     go_cut [] from 24 to 99 (fun wx=>Hid (LmY w wx sb fb V (.slice (some ⟨g,0,none⟩) n c) (T8 ov k V is).blocks is))
     case first =>
      by_cases h0:k=4
      ·have hk:(k==4)=true:=by simpa using h0
       simp only[hk];have H0:=Xa h0;clear h0;obtain⟨N,hN⟩:∃N:Nat,(N:Int)=1000+ov:=⟨(1000+ov).toNat,by omega⟩;have HN:=Xa hN;have hN1:N<=1001:=by omega
       have hN2:1000<=N:=by omega
       have e1:IntKind.i64.wrap (1000+ov)=(N:Int):=by rw[IntKind.wrap_i64];omega
       clear hN;go_wp2
       go_loopw [9] (fun i wr=>∃(j:Nat)(bv:Value),1<=j/\j<=N/\i=.int .i64 j/\Hid (LmB w wr sb fb V (.slice (some ⟨g,0,none⟩) n c) bv (⟨[],is,ZO⟩ :: List.replicate (j-1) Ve) is)) (fun i _=>N-(intOf i).toNat)
       case atStart=>exact⟨1,_,Nat.le_refl _,by omega,rfl,HB⟩
       case round =>
        obtain⟨j,bv,hj1,hjN,rfl,HB⟩:=hrel;by_cases hlt:j<N
        ·have hltI:(j:Int)<(N:Int):=by omega
         obtain⟨xs,hxs⟩:∃xs,xs=(⟨[],is,ZO⟩:Xf)::List.replicate (j-1) Ve:=⟨_,rfl⟩;rw[<-hxs]at HB;have HXS:=Xa hxs;have HLN:Hid (xs.length=j):=Xa (by rw[hxs];simp;omega);clear hxs;obtain⟨g',c',hiv,_,_⟩:=Xj HB.bown (by rw[HLN.out];omega);rw[HLN.out]at hiv;subst hiv;have f1:wr.cell? ⟨fb,1,none⟩=some (.slice (some ⟨g',0,none⟩) j c'):=Bx.cell HB.bf rfl;have hws:=HB.size
         go_wp2_with (at_builtin;refine wpList_append_own_at _ rfl _ _ 23 rfl w.heap.size 43 j0 (.agg #[.slice none 0 0,.slice none 0 0,.int .i64 0,.int .i64 0,.int .i64 0,.int .i64 0]) 6 80 Tryz.underlying23 hj0 hy0 hy1 hy2 rfl (by decide) _ xs.length (Xy YH (iv1 (.slice (some ⟨g,0,none⟩) n c)) xs) rfl (HB.bown.alloc _) ⟨wr.heap.size,0,none⟩ 1 1 [.slice none 0 0,.slice none 0 0,.int .i64 3,.int .i64 0,.int .i64 0,.int .i64 0] rfl rfl (World.news_of_block (World.alloc_heap_new _ _)) ?n2 ?n3 ?n4 ?n5 ?_)
         case n2=>intro u hu;simp at hu;rcases hu with rfl | rfl | rfl<;>rfl
         case n3=>unfold maxLen;rw[HLN.out];omega
         case n4=>rw[HLN.out];omega
         case n5=>simp;omega
         intro v8 w8 hown8 hg8 hne8 hat8;have hown9:w8.ownsRow w.heap.size 43 6 v8 (xs.length+1) (Xy YH (iv1 (.slice (some ⟨g,0,none⟩) n c)) xs++Tk (.slice none 0 0) (iv1 (.slice (some ⟨g,0,none⟩) n c) xs.length) Ve.term):=by
          rw[show iv1 (.slice (some ⟨g,0,none⟩) n c) xs.length=.slice none 0 0 from if_neg (by rw[HLN.out];omega)];exact hown8
         obtain⟨hB8,hf8⟩:=HB.push _ Ve hg8 hown9;obtain⟨g2,c2,rfl,_,_⟩:=Xj hown8 (by omega);rw[HLN.out]at hB8 |-;have k0:w8.cell? ⟨fb,1,none⟩=some (.slice (some ⟨g',0,none⟩) j c'):=Bx.cell hf8 rfl;have kz:=Bx.thaw hf8;have HB9:Hid (LmB w (w8.setCell ⟨fb,1,none⟩ (.slice (some ⟨g2,0,none⟩) (j+1) c2)) sb fb V (.slice (some ⟨g,0,none⟩) n c) (.slice (some ⟨g2,0,none⟩) (j+1) c2) (⟨[],is,ZO⟩ :: List.replicate (j+1-1) Ve) is):=Xa (by
          have e:(⟨[],is,ZO⟩:Xf)::List.replicate (j+1-1) Ve=xs++[Ve]:=by
           rw[HXS.out,show j+1-1=(j-1)+1 by omega,List.replicate_succ'];simp
          rw[e];exact hB8)
         clear f1 hB8 hf8 hown8 hown9 hg8 hne8 hat8 HB
         go_wp2_with fail
         exact⟨⟨j+1,_,by omega,by omega,by go_num,HB9⟩,by simp[intOf];omega⟩
        ·have hltI:¬(j:Int)<(N:Int):=by omega
         have hje:j=N:=by omega
         have HJ:=Xa hje;clear hje;go_wp2;go_meet;refine Xa ⟨bv,?_⟩;have e:(T8 ov k V is).blocks=⟨[],is,ZO⟩ :: List.replicate (j-1) Ve:=by
          unfold T8;rw[if_pos H0.out,HJ.out,show N-1=999+ov.toNat by have:=HN.out;omega]
         rw[e];exact HB.out
      ·have hk:(k==4)=false:=by simpa using h0
       go_wp2;go_meet;refine Xa ⟨.slice (some ⟨g',0,none⟩) 1 c',?_⟩;have e:(T8 ov k V is).blocks=[⟨[],is,ZO⟩]:=by
        unfold T8;rw[if_neg h0]
       rw[e];exact HB.out
     case rest =>
      obtain⟨bv,hB⟩:=hcut.out;obtain⟨r,hr⟩:∃r,(T8 ov k V is).blocks=⟨[],is,ZO⟩ :: r:=⟨_,rfl⟩;have hr9:∀x∈r,x=Ve:=by
       intro x hx;unfold T8 at hr;dsimp only at hr;injection hr with _ hr;rw[<-hr]at hx;split at hx
       ·exact List.eq_of_mem_replicate hx
       ·cases hx
      have hrl:r.length<=1000:=by
       unfold T8 at hr;dsimp only at hr;injection hr with _ hr;rw[<-hr];split
       ·rw[List.length_replicate];omega
       ·exact Nat.zero_le _
      rw[hr]at hB;obtain⟨g2,c2,hbv,_,_⟩:=Xj hB.bown (by simp);obtain⟨m,hm⟩:∃m,m=((⟨[],is,ZO⟩:Xf)::r).length:=⟨_,rfl⟩;rw[<-hm]at hbv;subst hbv;have f0:wc.cell? ⟨fb,0,none⟩=some (.int .i64 V):=Bx.cell hB.bf rfl;have f1:wc.cell? ⟨fb,1,none⟩=some (.slice (some ⟨g2,0,none⟩) m c2):=Bx.cell hB.bf rfl;have r0:wc.cell? ⟨w.heap.size,0,none⟩=some (.int .i64 0):=Bx.cell hB.res rfl;have r1:wc.cell? ⟨w.heap.size,1,none⟩=some (.slice none 0 0):=Bx.cell hB.res rfl;have rz:=Bx.thaw hB.res;have HBF:=Xa hB;have HR9:=Xa hr9;have HRL:=Xa hrl;have HM:=Xa hm;have HRE:=Xa hr;clear hcut hB hr9 hrl hm hr HB;go_wp2;have HFN:Hid (limitP s=⟨V,⟨[],is,ZO⟩ :: r⟩):=Xa (by rw[HP.out,HF.out,<-HRE.out];rfl);refine bodyPost_ret (v:=.agg #[.int .i64 V,.slice (some ⟨g2,0,none⟩) m c2]) (by simp[results,Tryz.results31,go_sem,r0,r1]) rfl ?_;rw[HFN.out];refine⟨⟨_,_,_,rfl,HM.out,HBF.fin (fun x hx=>by rw[HR9.out x hx];exact⟨rfl,rfl⟩)⟩,?_⟩;have e9:∀l:List Xf,(∀x∈l,x=Ve)->Xn l=0:=fun l=>by
       induction l with
       | nil=>intro _;rfl
       | cons y l ih =>
        intro h;have h1:=ih (fun x hx=>h x (List.mem_cons_of_mem _ hx));have h2:=h y (List.mem_cons_self ..);subst h2;unfold Xn at h1 |-;rw[List.map_cons,List.sum_cons,h1];rfl
      have h1:=e9 r HR9.out;have h2:=HRL.out;have h3:=HZ.2;show(r.length+1)+Xn (⟨[],is,ZO⟩ :: r)<=1048576;unfold Xn at h1 |-;rw[List.map_cons,List.sum_cons,h1];show r.length+1+((0+0+is.length)+0)<=_;omega
end Go.Proofs.YtkehcdfalcakmaaGreatDoor
