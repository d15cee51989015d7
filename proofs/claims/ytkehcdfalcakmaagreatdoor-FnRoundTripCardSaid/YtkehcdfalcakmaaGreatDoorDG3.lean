import Derived.Test.YtkehcdfalcakmaaGreatDoorDO2
namespace Go.Proofs.YtkehcdfalcakmaaGreatDoor
set_option maxHeartbeats 4000000
open Go.RowKit
theorem ZdW(sb B:Nat)(s:Sr)(a:Option Addr)(n c:Nat)(vs:List Int)(L' B':Nat)(dst:Int)(near:Bool)(w:World)(h:Hid (Zs w sb B s))(hv:Hid (Xh w L' B' a vs))(hx:Hid (n=vs.length))(hn:n<=5000)(hL:sb<L')(hB:B'<=w.heap.size) :
 Calls Tryz.prog 73 #[.pointer (some ⟨sb,0,none⟩),.slice a n c,.int .i64 dst,.bool near] w fun e w'=>e=.returned (instrP s vs dst near).1.agg/\Zs w' sb B (instrP s vs dst near).2/\w.grownBy w' (some sb):=by
 have HP:Hid (instrP s vs dst near=ZbW (nextP s 14).1 (Yu (nextP s 14).2 vs near).1 (Yu (Yu (nextP s 14).2 vs near).2 vs near).1 n dst (Yu (Yu (nextP s 14).2 vs near).2 vs near).2):=Xa (by unfold instrP;rw[<-hx.out]);have HSB:Hid (B<=w.heap.size):=Xa h.sB
 go_enter Tryz.func73,Tryz.ntmps73
 go_wp2_with fail
 have HB0:=Xa (h.box (.cells #[.int .i64 0,.int .i64 0,.int .i64 0,.int .i64 0,.int .i64 0] 53));refine(Xv sb B s 14 _ HB0 (by omega) (by omega)).mono ?_;rintro e w1 ⟨rfl,hd,hg⟩;have HC0:Hid ((∀q,q<5->w1.cell? ⟨w.heap.size,q,none⟩=some (.int .i64 0))/\∀q,w1.frozen? ⟨w.heap.size,q,none⟩=false):=Xa (by
  have hb:=hg.block w.heap.size (by simp) (fun e=>by have:=h.bB;have:=h.sB;injection e;omega);refine⟨fun q hq=>?_,fun q=>?_⟩
  ·rw[Xc hb]
   rcases q with _ | _ | _ | _ | _ | q<;>first | (simp[go_sem];done) | omega
  ·rw[World.frozen?_of_block (a:=⟨w.heap.size,q,none⟩) hb]
   exact(J7.start w).alloc _ _ _ _ (Nat.le_refl _))
 have hlt:=Xx s (n:=14) (by omega);obtain⟨k,s1,hrs⟩:∃r s',nextP s 14=(r,s'):=⟨_,_,rfl⟩;rw[hrs]at hd HP hlt |-;dsimp only at hd HP hlt |-;have HD1:=Xa hd;have HG1:=Xa (WO hg);have HV1:=Xa (hv.grown (WO hg) hL hB);have hsz1:Hid (w.heap.size+1<=w1.heap.size):=Xa (by have:=hg.size;simpa using this);clear hd hg hrs HB0 hv
 go_wp2_with fail
 refine(Jp sb B s1 a n c vs L' B' near w1 HD1 HV1 hx hn hL (Nat.le_trans hB HG1.size)).mono ?_;rintro e w2 ⟨rfl,hd,hg⟩;obtain⟨xa,s2,hrs⟩:∃r s',Yu s1 vs near=(r,s'):=⟨_,_,rfl⟩;rw[hrs]at hd HP |-;dsimp only at hd HP |-;have HC1:Hid ((∀q,q<5->w2.cell? ⟨w.heap.size,q,none⟩=some (.int .i64 0))/\∀q,w2.frozen? ⟨w.heap.size,q,none⟩=false):=Xa (by
  have hb:=hg.block w.heap.size (by have:=hsz1.out;omega) (fun e=>by have:=h.bB;have:=h.sB;injection e;omega);exact⟨fun q hq=>(Xc hb).trans (HC0.1 q hq),fun q=>(World.frozen?_of_block (a:=⟨w.heap.size,q,none⟩) hb).trans (HC0.2 q)⟩)
 have HD2:=Xa hd;have HG2:=Xa (Yi HG1.out hg);have HV2:=Xa (HV1.grown hg hL (Nat.le_trans hB HG1.size));have hsz2:Hid (w.heap.size+1<=w2.heap.size):=Xa (Nat.le_trans hsz1.out hg.size);clear hd hg hrs HD1 HG1 HV1 HC0 hsz1
 go_wp2_with fail
 refine(Jp sb B s2 a n c vs L' B' near w2 HD2 HV2 hx hn hL (Nat.le_trans hB HG2.size)).mono ?_;rintro e w3 ⟨rfl,hd,hg⟩;obtain⟨xb,s3,hrs⟩:∃r s',Yu s2 vs near=(r,s'):=⟨_,_,rfl⟩;rw[hrs]at hd HP |-;dsimp only at hd HP |-;have HC2:Hid ((∀q,q<5->w3.cell? ⟨w.heap.size,q,none⟩=some (.int .i64 0))/\∀q,w3.frozen? ⟨w.heap.size,q,none⟩=false):=Xa (by
  have hb:=hg.block w.heap.size (by have:=hsz2.out;omega) (fun e=>by have:=h.bB;have:=h.sB;injection e;omega);exact⟨fun q hq=>(Xc hb).trans (HC1.1 q hq),fun q=>(World.frozen?_of_block (a:=⟨w.heap.size,q,none⟩) hb).trans (HC1.2 q)⟩)
 have HD3:=Xa hd;have HG3:=Xa (Yi HG2.out hg);have hsz3:Hid (w.heap.size+1<=w3.heap.size):=Xa (Nat.le_trans hsz2.out hg.size);clear hd hg hrs HD2 HG2 HV2 HC1 hsz2;have HSBR:=Xa (show sb≠w.heap.size from fun e=>by have:=h.bB;have:=h.sB;omega);clear h hL hB;obtain⟨hcs,hzs⟩:=HC2.out;have hc0:=hcs 0 (by omega);have hc1:=hcs 1 (by omega);have hc2:=hcs 2 (by omega);have hc3:=hcs 3 (by omega);have hc4:=hcs 4 (by omega);clear hcs;have FIN:∀(x0 x1 x2 x3 x4:Value)(sx:Sr)(wx:World),Zs wx sb B sx->w.grownBy wx (some sb)->Zs (((((wx.setCell ⟨w.heap.size,0,none⟩ x0).setCell ⟨w.heap.size,1,none⟩ x1).setCell ⟨w.heap.size,2,none⟩ x2).setCell ⟨w.heap.size,3,none⟩ x3).setCell ⟨w.heap.size,4,none⟩ x4) sb B sx/\w.grownBy (((((wx.setCell ⟨w.heap.size,0,none⟩ x0).setCell ⟨w.heap.size,1,none⟩ x1).setCell ⟨w.heap.size,2,none⟩ x2).setCell ⟨w.heap.size,3,none⟩ x3).setCell ⟨w.heap.size,4,none⟩ x4) (some sb):=fun x0 x1 x2 x3 x4 sx wx hd hg=>by
  have hl:=Nat.le_refl w.heap.size;have hb:=HSB.out;exact⟨((((hd.put hb).put hb).put hb).put hb).put hb,XH (XH (XH (XH (XH hg hl) hl) hl) hl) hl⟩
 have HFIN:=Xa FIN;clear FIN;by_cases h2:k<2
 ·rw[ZbW,if_pos (Or.inl h2)]at HP
  go_wp2_with fail
  refine(WZ sb B s3 w3 HD3).mono ?_;rintro e w4 ⟨rfl,hd,hg⟩;obtain⟨q,s4,hrs⟩:∃r s',Kk s3=(r,s'):=⟨_,_,rfl⟩;rw[hrs]at hd HP |-;dsimp only at hd HP |-;have HC3:Hid ((∀q,q<5->w4.cell? ⟨w.heap.size,q,none⟩=some (.int .i64 0))/\∀q,w4.frozen? ⟨w.heap.size,q,none⟩=false):=Xa (by
   have hb:=hg.block w.heap.size (by have:=hsz3.out;omega) (fun e=>HSBR.out (by injection e with e;exact e.symm));exact⟨fun q hq=>(Xc hb).trans (HC2.1 q hq),fun q=>(World.frozen?_of_block (a:=⟨w.heap.size,q,none⟩) hb).trans (HC2.2 q)⟩)
  clear hc0 hc1 hc2 hc3 hc4 hzs;obtain⟨hcs,hzs⟩:=HC3.out;have hc0:=hcs 0 (by omega);have hc1:=hcs 1 (by omega);have hc2:=hcs 2 (by omega);have hc3:=hcs 3 (by omega);have hc4:=hcs 4 (by omega);clear hcs;have HD4:=Xa hd;have HG4:=Xa (Yi HG3.out hg);clear hd hg hrs;go_wp2;rw[HP.out];refine bodyPost_ret (v:=Xz.agg _) (by simp[Xz.agg,results,Tryz.results73,go_sem,hc0,hc1,hc2,hc3,hc4]) rfl ⟨rfl,?_⟩;exact HFIN.out _ _ _ _ _ _ _ HD4.out HG4.out
 ·by_cases hn0:n=0
  ·rw[ZbW,if_pos (Or.inr hn0)]at HP
   have hn0b:((n:Int)==0)=true:=by simp;omega
   subst hn0
   go_wp2_with fail
   refine(WZ sb B s3 w3 HD3).mono ?_;rintro e w4 ⟨rfl,hd,hg⟩;obtain⟨q,s4,hrs⟩:∃r s',Kk s3=(r,s'):=⟨_,_,rfl⟩;rw[hrs]at hd HP |-;dsimp only at hd HP |-;have HC3:Hid ((∀q,q<5->w4.cell? ⟨w.heap.size,q,none⟩=some (.int .i64 0))/\∀q,w4.frozen? ⟨w.heap.size,q,none⟩=false):=Xa (by
    have hb:=hg.block w.heap.size (by have:=hsz3.out;omega) (fun e=>HSBR.out (by injection e with e;exact e.symm));exact⟨fun q hq=>(Xc hb).trans (HC2.1 q hq),fun q=>(World.frozen?_of_block (a:=⟨w.heap.size,q,none⟩) hb).trans (HC2.2 q)⟩)
   clear hc0 hc1 hc2 hc3 hc4 hzs;obtain⟨hcs,hzs⟩:=HC3.out;have hc0:=hcs 0 (by omega);have hc1:=hcs 1 (by omega);have hc2:=hcs 2 (by omega);have hc3:=hcs 3 (by omega);have hc4:=hcs 4 (by omega);clear hcs;have HD4:=Xa hd;have HG4:=Xa (Yi HG3.out hg);clear hd hg hrs;go_wp2;rw[HP.out];refine bodyPost_ret (v:=Xz.agg _) (by simp[Xz.agg,results,Tryz.results73,go_sem,hc0,hc1,hc2,hc3,hc4]) rfl ⟨rfl,?_⟩;exact HFIN.out _ _ _ _ _ _ _ HD4.out HG4.out
  ·rw[ZbW,if_neg (fun h=>h.elim h2 hn0)]at HP
   have hn0b:((n:Int)==0)=false:=by simp;omega
   clear hn0;by_cases e2:k=2
   ·rw[if_pos e2]at HP
    subst e2
    go_wp2_with fail
    refine(Xv sb B s3 8 w3 HD3 (by omega) (by omega)).mono ?_;rintro e w4 ⟨rfl,hd,hg⟩;obtain⟨q,s4,hrs⟩:∃r s',nextP s3 8=(r,s'):=⟨_,_,rfl⟩;rw[hrs]at hd HP |-;dsimp only at hd HP |-;have HC3:Hid ((∀q,q<5->w4.cell? ⟨w.heap.size,q,none⟩=some (.int .i64 0))/\∀q,w4.frozen? ⟨w.heap.size,q,none⟩=false):=Xa (by
     have hb:=hg.block w.heap.size (by have:=hsz3.out;omega) (fun e=>HSBR.out (by injection e with e;exact e.symm));exact⟨fun q hq=>(Xc hb).trans (HC2.1 q hq),fun q=>(World.frozen?_of_block (a:=⟨w.heap.size,q,none⟩) hb).trans (HC2.2 q)⟩)
    clear hc0 hc1 hc2 hc3 hc4 hzs;obtain⟨hcs,hzs⟩:=HC3.out;have hc0:=hcs 0 (by omega);have hc1:=hcs 1 (by omega);have hc2:=hcs 2 (by omega);have hc3:=hcs 3 (by omega);have hc4:=hcs 4 (by omega);clear hcs;have HD4:=Xa hd;have HG4:=Xa (Yi HG3.out hg);clear hd hg hrs;go_wp2;rw[HP.out];refine bodyPost_ret (v:=Xz.agg _) (by simp[Xz.agg,results,Tryz.results73,go_sem,hc0,hc1,hc2,hc3,hc4]) rfl ⟨rfl,?_⟩;exact HFIN.out _ _ _ _ _ _ _ HD4.out HG4.out
   ·rw[if_neg e2]at HP
    have b2:(k==2)=false:=by simpa using e2
    by_cases e9:k=9
    ·rw[if_pos e9]at HP
     subst e9;go_wp2;rw[HP.out];refine bodyPost_ret (v:=Xz.agg _) (by simp[Xz.agg,results,Tryz.results73,go_sem,hc0,hc1,hc2,hc3,hc4]) rfl ⟨rfl,?_⟩;exact HFIN.out _ _ _ _ _ _ _ HD3.out HG3.out
    ·rw[if_neg e9]at HP
     have b9:(k==9)=false:=by simpa using e9
     by_cases e10:k=10
     ·rw[if_pos e10]at HP
      subst e10;go_wp2;rw[HP.out];refine bodyPost_ret (v:=Xz.agg _) (by simp[Xz.agg,results,Tryz.results73,go_sem,hc0,hc1,hc2,hc3,hc4]) rfl ⟨rfl,?_⟩;exact HFIN.out _ _ _ _ _ _ _ HD3.out HG3.out
     ·rw[if_neg e10]at HP
      have b10:(k==10)=false:=by simpa using e10
      by_cases e11:k=11
      ·rw[if_pos e11]at HP
       subst e11;go_wp2;rw[HP.out];refine bodyPost_ret (v:=Xz.agg _) (by simp[Xz.agg,results,Tryz.results73,go_sem,hc0,hc1,hc2,hc3,hc4]) rfl ⟨rfl,?_⟩;exact HFIN.out _ _ _ _ _ _ _ HD3.out HG3.out
      ·rw[if_neg e11]at HP
       have b11:(k==11)=false:=by simpa using e11
       by_cases e7:k=7
       ·rw[if_pos e7]at HP
        subst e7
        go_wp2_with fail
        refine(Xv sb B s3 2 w3 HD3 (by omega) (by omega)).mono ?_;rintro e w4 ⟨rfl,hd,hg⟩;obtain⟨q,s4,hrs⟩:∃r s',nextP s3 2=(r,s'):=⟨_,_,rfl⟩;rw[hrs]at hd HP |-;dsimp only at hd HP |-;have HC3:Hid ((∀q,q<5->w4.cell? ⟨w.heap.size,q,none⟩=some (.int .i64 0))/\∀q,w4.frozen? ⟨w.heap.size,q,none⟩=false):=Xa (by
         have hb:=hg.block w.heap.size (by have:=hsz3.out;omega) (fun e=>HSBR.out (by injection e with e;exact e.symm));exact⟨fun q hq=>(Xc hb).trans (HC2.1 q hq),fun q=>(World.frozen?_of_block (a:=⟨w.heap.size,q,none⟩) hb).trans (HC2.2 q)⟩)
        clear hc0 hc1 hc2 hc3 hc4 hzs;obtain⟨hcs,hzs⟩:=HC3.out;have hc0:=hcs 0 (by omega);have hc1:=hcs 1 (by omega);have hc2:=hcs 2 (by omega);have hc3:=hcs 3 (by omega);have hc4:=hcs 4 (by omega);clear hcs;have HD4:=Xa hd;have HG4:=Xa (Yi HG3.out hg);clear hd hg hrs;by_cases hq:q=0
        ·rw[if_pos hq]at HP
         have hqb:(q==0)=true:=by simpa using hq
         clear hq;go_wp2;rw[HP.out];refine bodyPost_ret (v:=Xz.agg _) (by simp[Xz.agg,results,Tryz.results73,go_sem,hc0,hc1,hc2,hc3,hc4]) rfl ⟨rfl,?_⟩;exact HFIN.out _ _ _ _ _ _ _ HD4.out HG4.out
        ·rw[if_neg hq]at HP
         have hqb:(q==0)=false:=by simpa using hq
         clear hq;go_wp2;rw[HP.out];refine bodyPost_ret (v:=Xz.agg _) (by simp[Xz.agg,results,Tryz.results73,go_sem,hc0,hc1,hc2,hc3,hc4]) rfl ⟨rfl,?_⟩;exact HFIN.out _ _ _ _ _ _ _ HD4.out HG4.out
       ·rw[if_neg e7]at HP
        have b7:(k==7)=false:=by simpa using e7
        by_cases e4:k=4
        ·subst e4
         skip;go_wp2;rw[HP.out];refine bodyPost_ret (v:=Xz.agg _) (by simp[Xz.agg,results,Tryz.results73,go_sem,hc0,hc1,hc2,hc3,hc4]) rfl ⟨rfl,?_⟩;exact HFIN.out _ _ _ _ _ _ _ HD3.out HG3.out
        ·skip
         have b4:(k==4)=false:=by simpa using e4
         by_cases e5:k=5
         ·subst e5
          skip;go_wp2;rw[HP.out];refine bodyPost_ret (v:=Xz.agg _) (by simp[Xz.agg,results,Tryz.results73,go_sem,hc0,hc1,hc2,hc3,hc4]) rfl ⟨rfl,?_⟩;exact HFIN.out _ _ _ _ _ _ _ HD3.out HG3.out
         ·skip
          have b5:(k==5)=false:=by simpa using e5
          by_cases e6:k=6
          ·subst e6
           skip;go_wp2;rw[HP.out];refine bodyPost_ret (v:=Xz.agg _) (by simp[Xz.agg,results,Tryz.results73,go_sem,hc0,hc1,hc2,hc3,hc4]) rfl ⟨rfl,?_⟩;exact HFIN.out _ _ _ _ _ _ _ HD3.out HG3.out
          ·skip
           have b6:(k==6)=false:=by simpa using e6
           by_cases e8:k=8
           ·subst e8
            skip;go_wp2;rw[HP.out];refine bodyPost_ret (v:=Xz.agg _) (by simp[Xz.agg,results,Tryz.results73,go_sem,hc0,hc1,hc2,hc3,hc4]) rfl ⟨rfl,?_⟩;exact HFIN.out _ _ _ _ _ _ _ HD3.out HG3.out
           ·skip
            have b8:(k==8)=false:=by simpa using e8
            rw[if_neg (fun h=>h.elim e4 e5),if_neg e6,if_neg e8]at HP;go_wp2;rw[HP.out];refine bodyPost_ret (v:=Xz.agg _) (by simp[Xz.agg,results,Tryz.results73,go_sem,hc0,hc1,hc2,hc3,hc4]) rfl ⟨rfl,?_⟩;exact HFIN.out _ _ _ _ _ _ _ HD3.out HG3.out
end Go.Proofs.YtkehcdfalcakmaaGreatDoor
namespace Go.Proofs.YtkehcdfalcakmaaGreatDoor
open Go.RowKit
def GoA(w wr:World)(sb B:Nat)(gd:GdR)(fb G c:Nat)(ve vi:Value)(ids:List Int):Prop:=∃lab pv iv av ev,J6 w wr lab sb B gd.s fb gd.v G c gd.xs pv iv av ve ev gd.ends vi ids
def GoV(w wr:World)(sb B:Nat)(gd:GdR)(fb G c:Nat)(ve vi:Value)(ids:List Int)(vv:Value)(vs:List Int):Prop:=∃lab pv iv av ev,J6 w wr lab sb B gd.s fb gd.v G c gd.xs pv iv av ve ev gd.ends vi ids/\Xq wr lab (5,gd.ends.length,0) w.heap.size 2 1 vv vs.length (Xo vs)
def K2(w wr:World)(sb B:Nat)(s:Sr)(v:Nat)(gd:GdR)(fb G c:Nat)(ve vi:Value)(ids:List Int)(xb:Nat)(t:XN)(ps:List Ph)(is:List Xz)(vv:Value)(vs:List Int):Prop:=∃lab pv iv av ev p q,Ty w wr lab sb B s fb v G c gd.xs pv iv av ve ev gd.ends vi ids xb p q t ps is vv vs
variable {w wr w' : World} {sb B : Nat} {gd : GdR} {fb G c : Nat} {ve vi : Value} {ids : List Int} {vv : Value} {vs : List Int}
theorem XK.named{base:Nat}{lab:Nat->Nat × Nat × Nat}(o:Obj)(L:Nat × Nat × Nat):XK wr (wr.alloc o) lab (fun b=>if b=wr.heap.size then L else lab b) base (fun _=>True) :=
 ⟨(World.grownBy_alloc wr o none).size,fun b _ h2 _=>⟨(World.grownBy_alloc wr o none).block b h2 (by simp),if_neg (by omega)⟩,fun h b hb=>by
  rw[World.size_alloc]at hb;exact(if_neg (by omega)).trans (h b (by omega))⟩
theorem GoA.fn(h:GoA w wr sb B gd fb G c ve vi ids):wr.cell? ⟨fb,1,none⟩=some (.slice (some ⟨G,0,none⟩) gd.xs.length c)/\w.heap.size<=wr.heap.size:=by
 obtain⟨lab,pv,iv,av,ev,h⟩:=h;exact⟨Bx.cell h.fbx rfl,h.gr.size⟩
theorem GoA.start(h:GoA w wr sb B gd fb G c ve vi ids):GoV w (wr.alloc (.cells #[] 2)) sb B gd fb G c ve vi ids (.slice (some ⟨wr.heap.size,0,none⟩) 0 0) []:=by
 obtain⟨lab,pv,iv,av,ev,h⟩:=h;refine⟨_,pv,iv,av,ev,h.sp (XK.named (.cells #[] 2) (5,gd.ends.length,0)) trivial trivial (fun _ _ _ _ _=>trivial) (h.dr.box _) (Yi h.gr (World.grownBy_alloc _ _ _)),?_,fun b e=>?_⟩
 ·have:=World.ownsRow_lit (base:=w.heap.size) (e:=2) (size:=1) wr #[] 0 h.gr.size (by simp) rfl
  simpa [Xo]using this
 ·cases e
  exact if_pos rfl
theorem GoV.own(h:GoV w wr sb B gd fb G c ve vi ids vv vs):wr.ownsRow w.heap.size 2 1 vv vs.length (Xo vs):=by
 obtain⟨lab,pv,iv,av,ev,h,hr⟩:=h;exact hr.own
theorem GoV.push{n':Nat}{vv':Value}{vs':List Int}(h:GoV w wr sb B gd fb G c ve vi ids vv vs)(hg:wr.grownBy w' vv.ownBlock)(ho:w'.ownsRow w.heap.size 2 1 vv' n' (Xo vs++Xo vs'))(hn:n'=vs.length+vs'.length)(hat:vv'.ownBlock=vv.ownBlock\/vv'.ownBlock=some wr.heap.size):GoV w w' sb B gd fb G c ve vi ids vv' (vs++vs'):=by
 obtain⟨lab,pv,iv,av,ev,h,hr⟩:=h;obtain⟨lab',hr',k⟩:=hr.grow hg ho hat h.fr;have hl:∀b,lab b=(0,0,0)->lab b≠(5,gd.ends.length,0):=fun b e=>by rw[e];simp
 have hb:=h.low (hr.below hg (Nat.le_refl _) h.gr.size);refine⟨lab',pv,iv,av,ev,h.sp k (hl _ h.resl) (hl _ h.fbl) (fun b _ _ _ h5=>h5) hb.1 hb.2,?_⟩;subst hn;have e:Xo (vs++vs')=Xo vs++Xo vs':=by simp[Xo]
 rw[e,List.length_append];exact hr'
theorem GoV.dom(h:GoV w wr sb B gd fb G c ve vi ids vv vs){i d:Nat}(hi:i<ids.length)(hd:ids.getD i 0=(d:Int))(hdl:d<gd.ends.length)(h0:0<(gd.ends.getD d []).length) :
 ∃gi ci ge ce gx cx,vi=.slice (some ⟨gi,0,none⟩) ids.length ci/\wr.cell? ⟨gi,i,none⟩=some (.int .i64 d)/\ve=.slice (some ⟨ge,0,none⟩) gd.ends.length ce/\wr.cell? ⟨ge,d,none⟩=some (.slice (some ⟨gx,0,none⟩) (gd.ends.getD d []).length cx)/\gx<wr.heap.size/\∀j u,(Xo (gd.ends.getD d []))[j]?=some u->wr.cell? ((⟨gx,0,none⟩:Addr).add j)=some u:=by
 obtain⟨lab,pv,iv,av,ev,h,hr⟩:=h;have e1:gd.ends.getD d []=gd.ends[d]:=by simp[hdl]
 rw[e1]at h0 |-;obtain⟨gi,ci,ei⟩:=h.id.got (by omega);obtain⟨ge,ce,ee⟩:=h.es.got (by omega);have hx:=h.evs d hdl;obtain⟨gx,cx,ex⟩:=hx.got h0;have hid:=h.id;have hes:=h.es;subst ei;subst ee;rw[ex]at hx;refine⟨gi,ci,ge,ce,gx,cx,rfl,hid.cell ?_,rfl,hes.cell ?_,hx.blk.1.2,hx.own.cells rfl⟩
 ·unfold Xo
  rw[<-hd];simp[hi]
 ·have:=Xu (f:=fun i (_:List Int)=>[ev i]) (sz:=1) (fun _ _=>rfl) 0 gd.ends d hdl 0 (by omega)
  rw[Nat.mul_one,Nat.add_zero,Nat.zero_add]at this;rw[this,<-ex];rfl
theorem GoV.cells(h:GoV w wr sb B gd fb G c ve vi ids vv vs)(hi:gd.ends.length<gd.xs.length) :
 wr.cell? ⟨G,gd.ends.length*6,none⟩=some (.slice none 0 0)/\wr.cell? ⟨G,gd.ends.length*6+1,none⟩=some (.slice none 0 0)/\wr.cell? ⟨G,gd.ends.length*6+2,none⟩=some (.int .i64 gd.xs[gd.ends.length].term.kind)/\wr.cell? ⟨G,gd.ends.length*6+3,none⟩=some (.int .i64 gd.xs[gd.ends.length].term.a)/\wr.cell? ⟨G,gd.ends.length*6+4,none⟩=some (.int .i64 gd.xs[gd.ends.length].term.to)/\wr.cell? ⟨G,gd.ends.length*6+5,none⟩=some (.int .i64 gd.xs[gd.ends.length].term.els):=by
 obtain⟨lab,pv,iv,av,ev,h,hr⟩:=h;have hb:=h.fn.blks;have hn:=h.nil_ _ (Nat.le_refl _);have cc:∀q u,q<6->(Tk (pv gd.ends.length) (iv gd.ends.length) gd.xs[gd.ends.length].term)[q]?=some u->wr.cell? ⟨G,gd.ends.length*6+q,none⟩=some u:=fun q u hq hu=>hb.cell (by
  unfold Xy;rw[Xu (fun _ _=>JZ _ _ _) 0 gd.xs _ hi q hq,Nat.zero_add];exact hu)
 refine⟨cc 0 _ (by omega) (by rw[hn.1];rfl),cc 1 _ (by omega) (by rw[hn.2];rfl),cc 2 _ (by omega) rfl,cc 3 _ (by omega) rfl,cc 4 _ (by omega) rfl,cc 5 _ (by omega) rfl⟩
theorem GoV.cells2{i:Nat}(h:GoV w wr sb B gd fb G c ve vi ids vv vs)(he:gd.ends.length=i)(hi:i<gd.xs.length) :
 wr.cell? ⟨G,i*6,none⟩=some (.slice none 0 0)/\wr.cell? ⟨G,i*6+1,none⟩=some (.slice none 0 0)/\wr.cell? ⟨G,i*6+2,none⟩=some (.int .i64 gd.xs[i].term.kind)/\wr.cell? ⟨G,i*6+3,none⟩=some (.int .i64 gd.xs[i].term.a)/\wr.cell? ⟨G,i*6+4,none⟩=some (.int .i64 gd.xs[i].term.to)/\wr.cell? ⟨G,i*6+5,none⟩=some (.int .i64 gd.xs[i].term.els):=by
 subst he;exact h.cells hi
theorem GoV.fn(h:GoV w wr sb B gd fb G c ve vi ids vv vs):wr.cell? ⟨fb,1,none⟩=some (.slice (some ⟨G,0,none⟩) gd.xs.length c)/\wr.cell? ⟨fb,0,none⟩=some (.int .i64 gd.v)/\w.heap.size<=wr.heap.size:=by
 obtain⟨lab,pv,iv,av,ev,h,hr⟩:=h;exact⟨Bx.cell h.fbx rfl,Bx.cell h.fbx rfl,h.gr.size⟩
theorem GoV.boxed(h:GoV w wr sb B gd fb G c ve vi ids vv vs)(t:XN):K2 w (wr.alloc (.cells #[.slice none 0 0,.slice none 0 0,.int .i64 t.kind,.int .i64 t.a,.int .i64 t.to,.int .i64 t.els] 43)) sb B gd.s gd.v gd fb G c ve vi ids wr.heap.size t [] [] vv vs:=by
 obtain⟨lab,pv,iv,av,ev,h,hr⟩:=h;have k:XK wr (wr.alloc (.cells #[.slice none 0 0,.slice none 0 0,.int .i64 t.kind,.int .i64 t.a,.int .i64 t.to,.int .i64 t.els] 43)) lab lab w.heap.size (fun _=>True):=XK.box _;have h1:=h.res.lt;have h2:=h.fbx.lt;exact⟨lab,pv,iv,av,ev,_,_,h.box _,⟨Bx.new _ _ _,h.fr _ (Nat.le_refl _),h1,⟨World.ownsRow_nil _ _ _ _,fun b e=>by cases e⟩,⟨World.ownsRow_nil _ _ _ _,fun b e=>by cases e⟩,hr.sp k (fun _ _=>trivial)⟩,by omega⟩
variable {s s' : Sr} {v xb : Nat} {t : XN} {ps : List Ph} {is : List Xz}
theorem Ty.drew{lab:Nat->Nat × Nat × Nat}{pv iv:Nat->Value}{av:Nat->Nat->Value}{ev:Nat->Value}{p q:Value}{xs:List Xf}{ends:List (List Int)}(h:Ty w wr lab sb B s fb v G c xs pv iv av ve ev ends vi ids xb p q t ps is vv vs):Ty w wr.drew lab sb B s fb v G c xs pv iv av ve ev ends vi ids xb p q t ps is vv vs:=h.call ⟨rfl,rfl,rfl,Nat.le_refl _,fun _ _ _=>rfl⟩ h.f.dr.drew
theorem K2.dr(h:K2 w wr sb B s v gd fb G c ve vi ids xb t ps is vv vs):Zs wr sb B s:=by
 obtain⟨lab,pv,iv,av,ev,p,q,h⟩:=h;exact h.f.dr
theorem K2.call(h:K2 w wr sb B s v gd fb G c ve vi ids xb t ps is vv vs)(g:wr.grownBy w' (some sb))(d:Zs w' sb B s'):K2 w w' sb B s' v gd fb G c ve vi ids xb t ps is vv vs:=by
 obtain⟨lab,pv,iv,av,ev,p,q,h⟩:=h;exact⟨lab,pv,iv,av,ev,p,q,h.call g d⟩
theorem K2.box(h:K2 w wr sb B s v gd fb G c ve vi ids xb t ps is vv vs)(o:Obj):K2 w (wr.alloc o) sb B s v gd fb G c ve vi ids xb t ps is vv vs:=by
 obtain⟨lab,pv,iv,av,ev,p,q,h⟩:=h;exact⟨lab,pv,iv,av,ev,p,q,h.box o⟩
theorem K2.below(h:K2 w wr sb B s v gd fb G c ve vi ids xb t ps is vv vs)(k:Below wr.heap.size wr w'):K2 w w' sb B s v gd fb G c ve vi ids xb t ps is vv vs:=by
 obtain⟨lab,pv,iv,av,ev,p,q,h⟩:=h;exact⟨lab,pv,iv,av,ev,p,q,h.call ⟨k.os,k.tape,k.output,k.size,fun b hb _=>k.block b hb⟩ (h.f.dr.keep (k.mono h.f.dr.sB))⟩
theorem K2.drew(h:K2 w wr sb B s v gd fb G c ve vi ids xb t ps is vv vs):K2 w wr.drew sb B s v gd fb G c ve vi ids xb t ps is vv vs:=h.below (Below.refl _ _).drew
theorem K2.blks(h:K2 w wr sb B s v gd fb G c ve vi ids xb t ps is vv vs):X8 wr w.heap.size wr.heap.size (some ⟨G,0,none⟩) gd.xs:=by
 obtain⟨lab,pv,iv,av,ev,p,q,h⟩:=h;exact h.f.fn.at_
theorem K2.fn(h:K2 w wr sb B s v gd fb G c ve vi ids xb t ps is vv vs):(wr.cell? ⟨fb,1,none⟩=some (.slice (some ⟨G,0,none⟩) gd.xs.length c)/\wr.cell? ⟨fb,0,none⟩=some (.int .i64 v)/\∀q,wr.frozen? ⟨fb,q,none⟩=false)/\w.heap.size<=wr.heap.size/\xb<wr.heap.size/\fb<wr.heap.size/\xb≠fb:=by
 obtain⟨lab,pv,iv,av,ev,p,q,h⟩:=h;exact⟨⟨Bx.cell h.f.fbx rfl,Bx.cell h.f.fbx rfl,Bx.thaw h.f.fbx⟩,h.f.gr.size,h.x.bx.lt,h.f.fbx.lt,h.ne⟩
theorem K2.val(h:K2 w wr sb B s v gd fb G c ve vi ids xb t ps is vv vs)(v':Nat):K2 w (wr.setCell ⟨fb,0,none⟩ (.int .i64 v')) sb B s v' gd fb G c ve vi ids xb t ps is vv vs:=by
 obtain⟨lab,pv,iv,av,ev,p,q,h⟩:=h;exact⟨lab,pv,iv,av,ev,p,q,h.val v'⟩
theorem K2.vals(h:K2 w wr sb B s v gd fb G c ve vi ids xb t ps is vv vs):wr.ownsRow w.heap.size 2 1 vv vs.length (Xo vs)/\(∃a n,vv=.slice a vs.length n/\Xh wr w.heap.size wr.heap.size a vs):=by
 obtain⟨lab,pv,iv,av,ev,p,q,h⟩:=h;refine⟨h.x.xv.own,?_⟩;obtain⟨a,n,e⟩:=h.x.xv.form;subst e;exact⟨a,n,rfl,h.x.xv.ints⟩
theorem K2.pushV{n':Nat}{vv':Value}{x:Int}(h:K2 w wr sb B s v gd fb G c ve vi ids xb t ps is vv vs)(hg:wr.grownBy w' vv.ownBlock)(ho:w'.ownsRow w.heap.size 2 1 vv' n' (Xo vs++[.int .i64 x]))(hn:n'=vs.length+1)(hat:vv'.ownBlock=vv.ownBlock\/vv'.ownBlock=some wr.heap.size):K2 w w' sb B s v gd fb G c ve vi ids xb t ps is vv' (vs++[x]):=by
 obtain⟨lab,pv,iv,av,ev,p,q,h⟩:=h;obtain⟨lab',h'⟩:=h.pushV hg ho hn hat;exact⟨lab',pv,iv,av,ev,p,q,h'⟩
end Go.Proofs.YtkehcdfalcakmaaGreatDoor
namespace Go.Proofs.YtkehcdfalcakmaaGreatDoor
set_option maxRecDepth 100000
open Go.RowKit
def JN:Code->List Code
 | .loop c=>[c]
 | .seq a b=>JN a++JN b
 | .block _ c=>JN c
 | .scope c=>JN c
 | .cond _ a b=>JN a++JN b
 | _=>[]
noncomputable def gB:Code:=(Tryz.f54.body.getD .skip)
noncomputable def gB1:Code:=(JN gB).getD 0 .skip
noncomputable def gB4:Code:=(JN gB).getD 1 .skip
noncomputable def gB2:Code:=(JN gB1).getD 0 .skip
noncomputable def gB3:Code:=(JN gB1).getD 1 .skip
noncomputable def gB5:Code:=(JN gB4).getD 0 .skip
noncomputable def gB6:Code:=(JN gB5).getD 0 .skip
theorem JS(T:Type)(d:T):∀(tl:List T)(k:Nat)(f:Nat->T),(∀i (h:i<tl.length),f (k+i)=tl[i])->tl=(List.range' k tl.length).map f
 | [],_,_,_=>rfl
 | x::tl,k,f,h=>by
  rw[List.length_cons,List.range'_succ,List.map_cons];have h0:=h 0 (by simp);rw[Nat.add_zero,List.getElem_cons_zero]at h0;rw[h0];congr 1;exact JS T d tl (k+1) f (fun i hi=>by have:=h (i+1) (by simpa using hi);rwa[List.getElem_cons_succ,show k+(i+1)=k+1+i by omega]at this)
theorem Zf1(f:Nat->Value):(List.range' 24 251).map f=(f 24::f 25::f 26::f 27::f 28::f 29::f 30::f 31::f 32::f 33::f 34::f 35::f 36::f 37::f 38::f 39::f 40::f 41::f 42::f 43::f 44::f 45::f 46::f 47::f 48::f 49::f 50::f 51::f 52::f 53::f 54::f 55::f 56::f 57::f 58::f 59::f 60::f 61::f 62::f 63::f 64::f 65::f 66::f 67::f 68::f 69::f 70::f 71::f 72::f 73::f 74::f 75::f 76::f 77::f 78::f 79::f 80::f 81::f 82::f 83::f 84::f 85::f 86::f 87::f 88::f 89::f 90::f 91::f 92::f 93::f 94::f 95::f 96::f 97::f 98::f 99::f 100::f 101::f 102::f 103::f 104::f 105::f 106::f 107::f 108::f 109::f 110::f 111::f 112::f 113::f 114::f 115::f 116::f 117::f 118::f 119::f 120::f 121::f 122::f 123::f 124::f 125::f 126::f 127::f 128::f 129::f 130::f 131::f 132::f 133::f 134::f 135::f 136::f 137::f 138::f 139::f 140::f 141::f 142::f 143::f 144::f 145::f 146::f 147::f 148::f 149::f 150::f 151::f 152::f 153::f 154::f 155::f 156::f 157::f 158::f 159::f 160::f 161::f 162::f 163::f 164::f 165::f 166::f 167::f 168::f 169::f 170::f 171::f 172::f 173::f 174::f 175::f 176::f 177::f 178::f 179::f 180::f 181::f 182::f 183::f 184::f 185::f 186::f 187::f 188::f 189::f 190::f 191::f 192::f 193::f 194::f 195::f 196::f 197::f 198::f 199::f 200::f 201::f 202::f 203::f 204::f 205::f 206::f 207::f 208::f 209::f 210::f 211::f 212::f 213::f 214::f 215::f 216::f 217::f 218::f 219::f 220::f 221::f 222::f 223::f 224::f 225::f 226::f 227::f 228::f 229::f 230::f 231::f 232::f 233::f 234::f 235::f 236::f 237::f 238::f 239::f 240::f 241::f 242::f 243::f 244::f 245::f 246::f 247::f 248::f 249::f 250::f 251::f 252::f 253::f 254::f 255::f 256::f 257::f 258::f 259::f 260::f 261::f 262::f 263::f 264::f 265::f 266::f 267::f 268::f 269::f 270::f 271::f 272::f 273::f 274::[]):=rfl
theorem spr(tl:List Value)(h:tl.length=251):∃f:Nat->Value,tl=(f 24::f 25::f 26::f 27::f 28::f 29::f 30::f 31::f 32::f 33::f 34::f 35::f 36::f 37::f 38::f 39::f 40::f 41::f 42::f 43::f 44::f 45::f 46::f 47::f 48::f 49::f 50::f 51::f 52::f 53::f 54::f 55::f 56::f 57::f 58::f 59::f 60::f 61::f 62::f 63::f 64::f 65::f 66::f 67::f 68::f 69::f 70::f 71::f 72::f 73::f 74::f 75::f 76::f 77::f 78::f 79::f 80::f 81::f 82::f 83::f 84::f 85::f 86::f 87::f 88::f 89::f 90::f 91::f 92::f 93::f 94::f 95::f 96::f 97::f 98::f 99::f 100::f 101::f 102::f 103::f 104::f 105::f 106::f 107::f 108::f 109::f 110::f 111::f 112::f 113::f 114::f 115::f 116::f 117::f 118::f 119::f 120::f 121::f 122::f 123::f 124::f 125::f 126::f 127::f 128::f 129::f 130::f 131::f 132::f 133::f 134::f 135::f 136::f 137::f 138::f 139::f 140::f 141::f 142::f 143::f 144::f 145::f 146::f 147::f 148::f 149::f 150::f 151::f 152::f 153::f 154::f 155::f 156::f 157::f 158::f 159::f 160::f 161::f 162::f 163::f 164::f 165::f 166::f 167::f 168::f 169::f 170::f 171::f 172::f 173::f 174::f 175::f 176::f 177::f 178::f 179::f 180::f 181::f 182::f 183::f 184::f 185::f 186::f 187::f 188::f 189::f 190::f 191::f 192::f 193::f 194::f 195::f 196::f 197::f 198::f 199::f 200::f 201::f 202::f 203::f 204::f 205::f 206::f 207::f 208::f 209::f 210::f 211::f 212::f 213::f 214::f 215::f 216::f 217::f 218::f 219::f 220::f 221::f 222::f 223::f 224::f 225::f 226::f 227::f 228::f 229::f 230::f 231::f 232::f 233::f 234::f 235::f 236::f 237::f 238::f 239::f 240::f 241::f 242::f 243::f 244::f 245::f 246::f 247::f 248::f 249::f 250::f 251::f 252::f 253::f 254::f 255::f 256::f 257::f 258::f 259::f 260::f 261::f 262::f 263::f 264::f 265::f 266::f 267::f 268::f 269::f 270::f 271::f 272::f 273::f 274::[]):=by
 have e:=JS Value undef tl 24 (fun i=>tl.getD (i-24) undef) (fun i hi=>by simp[hi]);rw[h]at e;exact⟨fun i=>tl.getD (i-24) undef,e.trans (Zf1 _)⟩
end Go.Proofs.YtkehcdfalcakmaaGreatDoor
namespace Go.Proofs.YtkehcdfalcakmaaGreatDoor
set_option maxHeartbeats 4000000
set_option maxRecDepth 100000
open Go.RowKit
theorem Tryz.infoPhiD:(Tryz.prog.info? 46).map (fun i=>(i.zero,i.size,i.bytes))=some (some (.agg #[.int .i64 0,.slice none 0 0]),2,32):=by kernel_rfl
structure X2 where
 j:Nat
 vv:Value
 tl:List Value
theorem lp2{Q:Exit->Act->World->Prop}(w:World)(sb B:Nat)(s:Sr)(v:Nat)(gd:GdR)(fb G c:Nat)(ve vi:Value)(ids:List Int)(xb:Nat)(t:XN)(near:Bool)(vs0:List Int)(pc:Nat)(c1 c2 c3 c4 c5 c8 c9 c10 c11 c14 c17 c18 c19 c20 c21 c22 c23:Value)(hpc:pc<=3)(hv:v<=5000)(hvs:vs0.length<=4000)
 (hexit:∀(vv:Value)(tl:List Value)(w':World),tl.length=251->K2 w w' sb B s (v+pc) gd fb G c ve vi ids xb t (Uw pc v) [] vv (vs0++ZG pc v)->Q (.exit 2) ⟨(.pointer (some ⟨sb,0,none⟩)::c1::c2::c3::c4::c5::.bool near::.pointer (some ⟨fb,0,none⟩)::c8::c9::c10::c11::vv::.pointer (some ⟨xb,0,none⟩)::c14::.int .i64 ((pc:Nat):Int)::.int .i64 ((pc:Nat):Int)::c17::c18::c19::c20::c21::c22::c23::tl).toArray,[]⟩ w')
 (vv:Value) (tl:List Value) (wr:World) (hl:tl.length=251) (h:Hid (K2 w wr sb B s v gd fb G c ve vi ids xb t [] [] vv vs0)) :
 Code.wp Tryz.prog (Code.loop gB2) Q ⟨(.pointer (some ⟨sb,0,none⟩)::c1::c2::c3::c4::c5::.bool near::.pointer (some ⟨fb,0,none⟩)::c8::c9::c10::c11::vv::.pointer (some ⟨xb,0,none⟩)::c14::.int .i64 ((pc:Nat):Int)::.int .i64 ((0:Nat):Int)::c17::c18::c19::c20::c21::c22::c23::tl).toArray,[]⟩ wr:=by
 have HX:=Xa hexit;clear hexit;obtain⟨i0,hi0,hz0,hz1,hz2⟩:=X0 Tryz.infoPhiD;obtain⟨j0,hj0,hy0,hy1,hy2⟩:=X0 Tryz.info2';refine wp_loop (fun a' wr=>∃x:X2,a'=⟨(.pointer (some ⟨sb,0,none⟩)::c1::c2::c3::c4::c5::.bool near::.pointer (some ⟨fb,0,none⟩)::c8::c9::c10::c11::x.vv::.pointer (some ⟨xb,0,none⟩)::c14::.int .i64 ((pc:Nat):Int)::.int .i64 ((x.j:Nat):Int)::c17::c18::c19::c20::c21::c22::c23::x.tl).toArray,[]⟩/\x.tl.length=251/\x.j<=pc/\Hid (K2 w wr sb B s (v+x.j) gd fb G c ve vi ids xb t (Uw x.j v) [] x.vv (vs0++ZG x.j v))) (fun a' _=>pc-(intOf (a'.tmps.getD 16 undef)).toNat) ⟨⟨0,vv,tl⟩,rfl,hl,Nat.zero_le _,Xa (by
  have:=h.out;simpa [Uw,ZG]using this)⟩ ?_
 clear h hl;rintro a' wr ⟨⟨j,vv,tl⟩,rfl,hl,hj,HS⟩;dsimp only at hl hj HS |-
 conv=>arg 2;whnf
 obtain⟨f,rfl⟩:=spr tl hl;clear hl;obtain⟨lab,pv,iv,av,ev,p,q,hb⟩:=HS.out;obtain⟨pa,pcap,rfl⟩:=hb.x.xp.form;have HB:=Xa hb;clear hb;rw[Ke]at HB;have x0:wr.cell? ⟨xb,0,none⟩=some (.slice pa j pcap):=Bx.cell HB.x.bx rfl;obtain⟨⟨f1,f0,fz⟩,hsz,hxl,hfl,hxf⟩:=HS.fn;by_cases hlt:j<pc
 ·have hltI:(j:Int)<pc:=by omega
  have HV:Hid (∃a ln n,vv=.slice a ln n/\ln=(vs0++ZG j v).length):=Xa (by obtain⟨_,a,n,e,_⟩:=HS.vals;exact⟨a,_,n,e,rfl⟩);have HPL:Hid ((Uw j v).length=j/\(vs0++ZG j v).length=vs0.length+j):=Xa ⟨Ke _ _,by rw[List.length_append,KX]⟩
  go_wp2_with (at_builtin;refine wpList_append_own_at _ rfl _ _ 38 rfl w.heap.size 46 i0 (.agg #[.int .i64 0,.slice none 0 0]) 2 32 Tryz.underlying38 hi0 hz0 hz1 hz2 rfl (by decide) _ (Uw j v).length (XU YH (Uw j v)) rfl (HB.x.xp.own.alloc _) ⟨wr.heap.size,0,none⟩ 1 1 [.int .i64 ((v:Int)+(j:Int)),.slice none 0 0] rfl rfl (World.news_of_block (World.alloc_heap_new _ _)) ?c2 ?c3 ?c4 ?c5 ?_)
  case c2=>intro u hu;simp at hu;rcases hu with rfl | rfl<;>rfl
  case c3=>unfold maxLen;have:=HPL.out;omega
  case c4=>have:=HPL.out;omega
  case c5=>simp;omega
  intro v8 w8 hown8 hg8 hne8 hat8;obtain⟨hx8,lab',hb9⟩:=(HB.box _).pushP hg8 hown8 rfl (by rw[World.size_alloc];exact hat8);obtain⟨g8,c8',rfl,hgb,hcap⟩:=Xj hown8 (by omega);have HB9:=Xa hb9;clear hgb hcap hne8 hat8 hown8 hg8 hb9 x0 f1 f0 fz HS;have k0:w8.cell? ⟨xb,0,none⟩=some (.slice pa j pcap):=Bx.cell hx8 rfl;have kz:=Bx.thaw hx8;have HX8:=Xa hx8;clear hx8;have f0':(w8.setCell ⟨xb,0,none⟩ (.slice (some ⟨g8,0,none⟩) ((Uw j v).length+1) c8')).cell? ⟨fb,0,none⟩=some (.int .i64 ((v:Int)+(j:Int))):=by
   have:=Bx.cell (q:=0) HB9.f.fbx rfl;simpa using this
  have hfz':=Bx.thaw HB9.f.fbx;have hs9:=HB9.f.gr.size;rw[Xd]at hs9;obtain⟨va,ln,vc,rfl,hln⟩:=HV.out;have HLN:=Xa hln;clear hln HV;rw[HPL.1]at *
  go_wp2_with (at_builtin;refine wpList_append_own_at _ rfl _ _ 44 rfl w.heap.size 2 j0 (.int .i64 0) 1 8 Tryz.underlying44 hj0 hy0 hy1 hy2 rfl (by decide) _ (vs0++ZG j v).length (Xo (vs0++ZG j v)) rfl (HB9.x.xv.own.alloc _) ⟨w8.heap.size,0,none⟩ 1 1 [.int .i64 ((v:Int)+(j:Int))] rfl rfl ?c1 ?c2 ?c3 ?c4 ?c5 ?_)
  case c2=>rfl
  case c3=>unfold maxLen;have:=KX j v;omega
  case c4=>have:=KX j v;omega
  case c5=>omega
  intro v9 w9 hown9 hg9 hne9 hat9;obtain⟨lab2,hb10⟩:=(HB9.box _).pushV hg9 hown9 (by simp) (by rw[World.size_alloc,Xd];exact hat9);obtain⟨g9,c9',rfl,hgb,hcap⟩:=Xj hown9 (by omega);have HB10:=Xa hb10;clear hgb hcap hne9 hat9 hown9 hg9 hb10 f0' hfz' k0 kz;have f0'':w9.cell? ⟨fb,0,none⟩=some (.int .i64 ((v:Int)+(j:Int))):=by
   have:=Bx.cell (q:=0) HB10.f.fbx rfl;simpa using this
  have hfz'':=Bx.thaw HB10.f.fbx
  go_wp2_with fail
  refine⟨⟨⟨j+1,_,_⟩,rfl,rfl,(by show j+1<=pc;omega),Xa ?_⟩,by simp[intOf];omega⟩;have hfin:=HB10.val (v+(j+1));rw[Zgh,ZfZ,<-List.append_assoc];rw[show((v+(j+1):Nat):Int)=(v:Int)+(j:Int)+1 by omega]at hfin;exact⟨_,_,_,_,_,_,_,hfin⟩
 ·have hltI:¬(j:Int)<pc:=by omega
  have hje:j=pc:=by omega
  subst hje
  go_wp2_with fail
  exact HX.out _ _ _ rfl HS.out
theorem Tryz.infoInsD:(Tryz.prog.info? 53).map (fun i=>(i.zero,i.size,i.bytes))=some (some (.agg #[.int .i64 0,.int .i64 0,.int .i64 0,.int .i64 0,.int .i64 0]),5,40):=by kernel_rfl
structure X3 where
 j:Nat
 k:Nat
 s:Sr
 vs:List Int
 v:Nat
 is:List Xz
 vv:Value
 c19:Value
 tl:List Value
theorem lp3{Q:Exit->Act->World->Prop}(w:World)(sb B:Nat)(gd:GdR)(fb G c:Nat)(ve vi:Value)(ids:List Int)(xb:Nat)(t:XN)(ps:List Ph)(near:Bool)(cnt:Nat)(s0:Sr)(vs0:List Int)(v0:Nat)(is0:List Xz)(c1 c2 c3 c4 c5 c8 c9 c10 c11 c14 c15 c16 c20 c21 c22 c23:Value)(hpc:cnt<=10)(hv:v0<=4000)(hvs:vs0.length<=4000)(his:is0.length<=1000)
 (hexit:∀(s:Sr)(v:Nat)(vs:List Int)(is:List Xz)(vv c19:Value)(tl:List Value)(w':World),tl.length=251->(is,vs,v,s)=Zt near cnt s0 vs0 v0 is0->K2 w w' sb B s v gd fb G c ve vi ids xb t ps is vv vs->Q (.exit 4) ⟨(.pointer (some ⟨sb,0,none⟩)::c1::c2::c3::c4::c5::.bool near::.pointer (some ⟨fb,0,none⟩)::c8::c9::c10::c11::vv::.pointer (some ⟨xb,0,none⟩)::c14::c15::c16::.int .i64 ((cnt:Nat):Int)::.int .i64 ((cnt:Nat):Int)::c19::c20::c21::c22::c23::tl).toArray,[]⟩ w')
 (vv c19:Value) (tl:List Value) (wr:World) (hl:tl.length=251) (h:Hid (K2 w wr sb B s0 v0 gd fb G c ve vi ids xb t ps is0 vv vs0)) :
 Code.wp Tryz.prog (Code.loop gB3) Q ⟨(.pointer (some ⟨sb,0,none⟩)::c1::c2::c3::c4::c5::.bool near::.pointer (some ⟨fb,0,none⟩)::c8::c9::c10::c11::vv::.pointer (some ⟨xb,0,none⟩)::c14::c15::c16::.int .i64 ((cnt:Nat):Int)::.int .i64 ((0:Nat):Int)::c19::c20::c21::c22::c23::tl).toArray,[]⟩ wr:=by
 have HX:=Xa hexit;clear hexit;obtain⟨i0,hi0,hz0,hz1,hz2⟩:=X0 Tryz.infoInsD;obtain⟨j0,hj0,hy0,hy1,hy2⟩:=X0 Tryz.info2';refine wp_loop (fun a' wr=>∃x:X3,a'=⟨(.pointer (some ⟨sb,0,none⟩)::c1::c2::c3::c4::c5::.bool near::.pointer (some ⟨fb,0,none⟩)::c8::c9::c10::c11::x.vv::.pointer (some ⟨xb,0,none⟩)::c14::c15::c16::.int .i64 ((cnt:Nat):Int)::.int .i64 ((x.j:Nat):Int)::x.c19::c20::c21::c22::c23::x.tl).toArray,[]⟩/\x.tl.length=251/\x.j+x.k=cnt/\Hid (Zt near x.k x.s x.vs x.v x.is=Zt near cnt s0 vs0 v0 is0)/\Hid (x.v<=v0+x.j/\x.vs.length<=vs0.length+x.j/\x.is.length<=is0.length+x.j)/\Hid (K2 w wr sb B x.s x.v gd fb G c ve vi ids xb t ps x.is x.vv x.vs)) (fun a' _=>cnt-(intOf (a'.tmps.getD 18 undef)).toNat) ⟨⟨0,cnt,s0,vs0,v0,is0,vv,c19,tl⟩,rfl,hl,by show 0+cnt=cnt;omega,Xa rfl,Xa ⟨Nat.le_refl _,Nat.le_refl _,Nat.le_refl _⟩,h⟩ ?_;clear h hl;rintro a' wr ⟨⟨j,k,s,vs,v,is,vv,c19,tl⟩,rfl,hl,hjk,HE,HV,HS⟩;dsimp only at hl hjk HE HV HS |-
 conv=>arg 2;whnf
 obtain⟨f,rfl⟩:=spr tl hl;clear hl;cases k with
 | succ k =>
  have hltI:(j:Int)<cnt:=by omega
  obtain⟨⟨f1,f0,fz⟩,hsz,hxl,hfl,hxf⟩:=HS.fn;obtain⟨_,va,vc,ev,hva⟩:=HS.vals;obtain⟨ln,hln⟩:∃ln,ln=vs.length:=⟨_,rfl⟩;rw[<-hln]at ev;subst ev;have HLN:=Xa hln;clear hln;have HVA:=Xa hva;clear hva;have hv5:v<=5000:=by have:=HV.out;omega
  have hln5:ln<=5000:=by have:=HV.out;have:=HLN.out;omega
  go_wp2_with fail
  have hsbw:sb<w.heap.size:=by obtain⟨lab,pv,iv,av,ev,p,q,hb⟩:=HS.out;exact hb.f.lt
  refine(ZdW sb B s va ln vc vs w.heap.size wr.heap.size v near wr (Xa HS.dr) HVA HLN hln5 hsbw (Nat.le_refl _)).mono ?_;rintro e w1 ⟨rfl,hd,hg⟩;have HE2:Hid ((if dB (instrP s vs v near).1.op=true then Zt near k (instrP s vs v near).2 (vs++[(v:Int)]) (v+1) (is++[(instrP s vs v near).1])else Zt near k (instrP s vs v near).2 vs v (is++[(instrP s vs v near).1]))=Zt near cnt s0 vs0 v0 is0):=HE;generalize instrP s vs v near=X at *;obtain⟨x,s'⟩:=X;unfold Xz.agg;dsimp only at hd HE2 |-;have HS1:=Xa (HS.call hg hd);clear hd hg HE HS HVA f1 f0 fz
  go_wp2_with fail
  have HS2:=Xa (HS1.box (.cells #[.int .i64 x.op,.int .i64 x.dst,.int .i64 x.a,.int .i64 x.b,.int .i64 x.imm] 53));have HI:Hid (Bx (w1.alloc (.cells #[.int .i64 x.op,.int .i64 x.dst,.int .i64 x.a,.int .i64 x.b,.int .i64 x.imm] 53)) w1.heap.size #[.int .i64 x.op,.int .i64 x.dst,.int .i64 x.a,.int .i64 x.b,.int .i64 x.imm] 53):=Xa (Bx.new _ _ _);have HIN:Hid (w1.heap.size≠fb/\w1.heap.size≠xb):=Xa (by have:=HS1.fn;omega);clear HS1;generalize w1.alloc (.cells #[.int .i64 x.op,.int .i64 x.dst,.int .i64 x.a,.int .i64 x.b,.int .i64 x.imm] 53)=w2 at *;generalize w1.heap.size=ib at *;refine(Zbm x.op w2).mono ?_;rintro e w3 ⟨rfl,hw3⟩;subst hw3
  go_upto_if 167 with fail
  go_cut [12] from 154 to 182 (fun c12 wx=>Hid (Bx wx ib #[.int .i64 x.op,.int .i64 x.dst,.int .i64 x.a,.int .i64 x.b,.int .i64 x.imm] 53)/\Hid (K2 w wx sb B s' (if dB x.op=true then v+1 else v) gd fb G c ve vi ids xb t ps is c12 (if dB x.op=true then vs++[(v:Int)]else vs)))
  case first =>
   cases hd:dB x.op with
   | false =>
    go_wp2_with fail
    go_meet;rw[if_neg (by rw[hd];simp),if_neg (by rw[hd];simp)];exact⟨HI,HS2⟩
   | true =>
    obtain⟨⟨f1,f0,fz⟩,hsz2,-⟩:=HS2.fn
    go_wp2_with (at_builtin;refine wpList_append_own_at _ rfl _ _ 44 rfl w.heap.size 2 j0 (.int .i64 0) 1 8 Tryz.underlying44 hj0 hy0 hy1 hy2 rfl (by decide) _ vs.length (Xo vs) rfl (HS2.vals.1.alloc _) ⟨w3.heap.size,0,none⟩ 1 1 [.int .i64 (v:Int)] rfl rfl ?c1 ?c2 ?c3 ?c4 ?c5 ?_)
    case c1=>exact YB _ _ _
    case c2=>intro u hu;simp at hu;subst hu;rfl
    case c3=>unfold maxLen;have:=HV.out;omega
    case c4=>have:=HV.out;omega
    case c5=>simp;omega
    intro v9 w9 hown9 hg9 hne9 hat9;have HS9:=Xa ((HS2.box _).pushV hg9 hown9 rfl (by rw[World.size_alloc];exact hat9));have HI9:=Xa ((HI.box _).grown hg9 (fun e=>Zn HS2.vals.1 HI.out (by decide) e.symm));obtain⟨g9,c9',rfl,hgb,hcap⟩:=Xj hown9 (by omega);clear hgb hcap hne9 hat9 hown9 hg9 f0 fz f1;obtain⟨⟨f1,f0,fz⟩,-⟩:=HS9.fn
    go_wp2_with fail
    go_meet;have hfin:=HS9.val (v+1);rw[show((v+1:Nat):Int)=(v:Int)+1 by omega]at hfin;rw[if_pos hd,if_pos hd];exact⟨Xa (HI9.other HIN.1),Xa hfin⟩
  case rest =>
   obtain⟨HIx,HSx⟩:=hcut;clear HS2 HI;have HVX:Hid ((if dB x.op=true then v+1 else v)<=v0+(j+1)/\(if dB x.op=true then vs++[(v:Int)]else vs).length<=vs0.length+(j+1)):=Xa (by
    have:=HV.out;split
    ·simp;omega
    ·omega)
   have HEX:Hid (Zt near k s' (if dB x.op=true then vs++[(v:Int)]else vs) (if dB x.op=true then v+1 else v) (is++[x])=Zt near cnt s0 vs0 v0 is0):=Xa (by
    rw[<-HE2.out];split<;>rfl)
   generalize (if dB x.op=true then v+1 else v)=v1 at *;generalize (if dB x.op=true then vs++[(v:Int)]else vs)=vs1 at *;clear HE2;obtain⟨lab,pv,iv,av,ev,p,q,hb⟩:=HSx.out;obtain⟨qa,qcap,hq⟩:=hb.x.xi.form;obtain⟨il,hil⟩:∃il,il=is.length:=⟨_,rfl⟩;rw[<-hil]at hq;subst hq;have HIL:=Xa hil;clear hil;have x1:wc.cell? ⟨xb,1,none⟩=some (.slice qa il qcap):=Bx.cell hb.x.bx rfl;have b0:wc.cell? ⟨ib,0,none⟩=some (.int .i64 x.op):=Bx.cell HIx.out rfl;have b1:wc.cell? ⟨ib,1,none⟩=some (.int .i64 x.dst):=Bx.cell HIx.out rfl;have b2:wc.cell? ⟨ib,2,none⟩=some (.int .i64 x.a):=Bx.cell HIx.out rfl;have b3:wc.cell? ⟨ib,3,none⟩=some (.int .i64 x.b):=Bx.cell HIx.out rfl;have b4:wc.cell? ⟨ib,4,none⟩=some (.int .i64 x.imm):=Bx.cell HIx.out rfl;have HB:=Xa hb;have hwz:=hb.f.gr.size;clear hb
   go_wp2_with (at_builtin;refine wpList_append_own_at _ rfl _ _ 39 rfl w.heap.size 53 i0 (.agg #[.int .i64 0,.int .i64 0,.int .i64 0,.int .i64 0,.int .i64 0]) 5 40 Tryz.underlying39 hi0 hz0 hz1 hz2 rfl (by decide) _ is.length (XD is) rfl (HB.x.xi.own.alloc _) ⟨wc.heap.size,0,none⟩ 1 1 [.int .i64 x.op,.int .i64 x.dst,.int .i64 x.a,.int .i64 x.b,.int .i64 x.imm] rfl rfl (World.news_of_block (World.alloc_heap_new _ _)) ?c2 ?c3 ?c4 ?c5 ?_)
   case c2=>intro u hu;simp at hu;rcases hu with rfl | rfl | rfl | rfl | rfl<;>rfl
   case c3=>unfold maxLen;have:=HV.out;omega
   case c4=>have:=HV.out;omega
   case c5=>simp;omega
   intro v8 w8 hown8 hg8 hne8 hat8;obtain⟨hx8,lab',hb9⟩:=(HB.box _).pushI hg8 hown8 rfl (by rw[World.size_alloc];exact hat8);obtain⟨g8,c8',rfl,hgb,hcap⟩:=Xj hown8 (by omega);have HB9:=Xa hb9;clear hgb hcap hne8 hat8 hown8 hg8 hb9 x1 b0 b1 b2 b3 b4;have k0:w8.cell? ⟨xb,1,none⟩=some (.slice qa il qcap):=Bx.cell hx8 rfl;have kz:=Bx.thaw hx8;have HX8:=Xa hx8;clear hx8
   go_wp2_with fail
   refine⟨⟨⟨j+1,k,s',vs1,v1,is++[x],_,_,_⟩,rfl,rfl,(by show j+1+k=cnt;omega),HEX,Xa ⟨HVX.1,HVX.2,?_⟩,Xa ⟨_,_,_,_,_,_,_,HB9.out⟩⟩,by simp[intOf];omega⟩;have:=HV.out;show(is++[x]).length<=is0.length+(j+1);simp;omega
 | zero =>
  have hltI:¬(j:Int)<cnt:=by omega
  have hje:j=cnt:=by omega
  subst hje
  go_wp2_with fail
  exact HX.out _ _ _ _ _ _ _ _ rfl HE.out HS.out
end Go.Proofs.YtkehcdfalcakmaaGreatDoor
