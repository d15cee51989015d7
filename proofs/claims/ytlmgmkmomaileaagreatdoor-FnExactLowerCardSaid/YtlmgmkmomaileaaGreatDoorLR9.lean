import Derived.Test.YtlmgmkmomaileaaGreatDoorLR7
import Derived.Test.YtlmgmkmomaileaaGreatDoorLR1
namespace Go.Proofs.YtlmgmkmomaileaaGreatDoor
set_option maxHeartbeats 4000000
set_option maxRecDepth 100000
open Go.RowKit
structure LpZ(w1 wx:World)(W:LpW)(lb:Nat)(V:Nat)(a:Option Addr)(n c:Nat)(xs:List Xh)(L B:Nat)(ac:Option Addr)(nc cc:Nat)(cs:List Int)(Lc Bc:Nat)(pa:Option Addr)(pc:Nat)(k:Int)(M:List Xy):Prop where
 g:LpG W V a n xs L B ac nc cs Lc Bc pa
 h:LpH W wx lb (V:Int) a n c ac nc cc pa pc k M
 bs:W.base=w1.heap.size
 ww:Below w1.heap.size w1 W.w
theorem LpZ.low{w1 wx:World}{W:LpW}{lb V:Nat}{a:Option Addr}{n c:Nat}{xs:List Xh}{L B:Nat}{ac:Option Addr}{nc cc:Nat}{cs:List Int}{Lc Bc:Nat}{pa:Option Addr}{pc:Nat}{k:Int}{M:List Xy}(h:LpZ w1 wx W lb V a n c xs L B ac nc cc cs Lc Bc pa pc k M):Below w1.heap.size w1 wx:=by
 obtain⟨_,_,_,hS⟩:=h.h;have:=hS.low;rw[h.bs]at this;exact h.ww.trans this
theorem LpG.new{w1 w5:World}{V:Nat}{a:Option Addr}{n:Nat}{xs:List Xh}{L B:Nat}{ac:Option Addr}{nc:Nat}{cs:List Int}{Lc Bc:Nat}{pa:Option Addr}(L2:Nat)(hb:Below w1.heap.size w1 w5)(ha:Xk w1 L B a xs)(hx:n=xs.length)(hB:B<=w1.heap.size)(ho:Jd V xs)(hc:Xf w1 Lc Bc ac cs)(hcx:nc=cs.length)(hcV:nc=V)(hBc:Bc<=w1.heap.size)(hO:XQ w1)(hcr:∀z∈cs,-9223372036854775808<=z/\z<=9223372036854775807)(hp:XM w5 L2 w5.heap.size pa ((List.range n).map fun i:Nat=>predsFrom xs 0 (i:Int))):LpG ⟨w5,w1.heap.size,L2,w5.heap.size⟩ V a n xs L B ac nc cs Lc Bc pa :=
 ⟨ha.keep (hb.mono hB),hx,hB,ho,hc.keep (hb.mono hBc),hcx,hcV,hBc,hp,hO.keep hb hO.1,hO.1,hcr⟩
def mkM(cs:List Int)(xs:List Xh):List Xy:=xs.map fun x=>⟨x.instrs.map (YC cs),Ka cs x.term⟩
def J7(cs:List Int)(xs:List Xh)(j:Nat):List Xy:=(Xm cs xs j).1++mkM cs (xs.drop j)++(Xm cs xs j).2
theorem Zdf(cs:List Int)(xs:List Xh){j:Nat}(h:j<=xs.length):(J7 cs xs j).length=xs.length+(Xm cs xs j).2.length:=by
 unfold J7 mkM;rw[List.length_append,List.length_append,Jk cs xs j h,List.length_map,List.length_drop];omega
theorem ZaP(cs:List Int)(xs:List Xh){j:Nat}(h:j<xs.length):J7 cs xs j=(Xm cs xs j).1++(⟨xs[j].instrs.map (YC cs),Ka cs xs[j].term⟩ :: (mkM cs (xs.drop (j+1))++(Xm cs xs j).2)):=by
 unfold J7 mkM;rw[List.drop_eq_getElem_cons h,List.map_cons,List.append_assoc,List.cons_append]
theorem Zju(cs:List Int)(xs:List Xh){j:Nat}(h:j<xs.length)(h2:j<(J7 cs xs j).length):(J7 cs xs j)[j]=⟨xs[j].instrs.map (YC cs),Ka cs xs[j].term⟩:=by
 have hl:=Jk cs xs j (Nat.le_of_lt h);have:(J7 cs xs j)[j]?=some ⟨xs[j].instrs.map (YC cs),Ka cs xs[j].term⟩:=by
  rw[ZaP cs xs h,List.getElem?_append_right oM,hl,Nat.sub_self];rfl
 rw[List.getElem?_eq_getElem h2]at this;injection this
theorem ZfB(cs:List Int)(xs:List Xh){j:Nat}(h:j<xs.length):(J7 cs xs j).set j (UM cs xs j xs[j] (J7 cs xs j).length).1++(UM cs xs j xs[j] (J7 cs xs j).length).2=J7 cs xs (j+1):=by
 have hl:=Jk cs xs j (Nat.le_of_lt h);rw[Zdf cs xs (Nat.le_of_lt h),ZaP cs xs h,List.set_append_right _ _ oM,hl,Nat.sub_self,List.set_cons_zero];unfold J7;rw[JU cs xs j h];simp only[List.append_assoc,List.cons_append,List.nil_append]
theorem ZfZ(cs:List Int)(xs:List Xh):J7 cs xs 0=mkM cs xs:=by
 unfold J7;simp[Xm]
theorem ZhX(cs:List Int)(xs:List Xh):J7 cs xs xs.length=KB cs xs:=by
 unfold J7 KB mkM;rw[List.drop_length,List.map_nil,List.append_nil]
theorem JT.deep{w:World}{lab:Nat->Nat × Nat × Nat}{base:Nat}(p:Addr)(hp:p.block<base)(u:Value):JT w (w.setCell p u) lab lab base (fun _=>True) :=
 ⟨by simp[World.setCell],fun b hb _ _=>⟨Below.heap_setCell _ _ _ _ oM,rfl⟩,fun h b hb=>h b (by simpa [World.setCell]using hb)⟩
theorem TZ.down{w:World}{lab:Nat->Nat × Nat × Nat}{base b':Nat}{v:Value}{K J:Nat}{xs:List Xy}{iv:Nat->Value}(h:TZ w lab base v K J xs iv)(hb:b'<=base):TZ w lab b' v K J xs iv :=
 ⟨⟨X9 h.blks.own hb,h.blks.lab⟩,fun i hi=>⟨X9 (h.ins i hi).own hb,(h.ins i hi).lab⟩⟩
def ZfG(w:World)(base:Nat)(a:Option Addr)(n c:Nat)(xs:List Xy):Prop:=∃lab iv,TZ w lab base (.slice a n c) 1 3 xs iv
theorem ZfG.of{w:World}{lab:Nat->Nat × Nat × Nat}{base:Nat}{a:Option Addr}{n c:Nat}{xs:List Xy}{iv:Nat->Value}(h:TZ w lab base (.slice a n c) 1 3 xs iv):ZfG w base a n c xs:=⟨lab,iv,h⟩
theorem ZhB(V:Nat)(a:Option Addr)(n c:Nat)(xs:List Xh)(L B:Nat)(ac:Option Addr)(nc cc:Nat)(cs:List Int)(Lc Bc:Nat)(k:Int)(w:World)(ha:Hid (Xk w L B a xs))(hx:Hid (n=xs.length))(hB:B<=w.heap.size)(ho:Hid (Jd V xs))(hc:Hid (Xf w Lc Bc ac cs))(hcx:Hid (nc=cs.length))(hcV:Hid (nc=V))(hBc:Bc<=w.heap.size)(hk:1<=k/\k<=64)(hO:Hid (XQ w))(hT:Hid (Ye w))(hcr:Hid (∀z∈cs,-9223372036854775808<=z/\z<=9223372036854775807))(hg:Hid (ZaI xs n))
 (HPC:Hid (∀W,Below w.heap.size w W->Calls Tryz.prog 21 #[.agg #[.int .i64 (V:Int),.slice a n c],.slice ac nc cc,.int .i64 k] W fun e w'=>e=.returned (.bool true)/\Below W.heap.size W w')) :
 Calls Tryz.prog 8 #[.agg #[.int .i64 (V:Int),.slice a n c],.slice ac nc cc,.int .i64 k] w fun e w'=>∃va vc,e=.returned (.agg #[.int .i64 k,.slice va (KB cs xs).length vc])/\Below w.heap.size w w'/\ZfG w' w.heap.size va (KB cs xs).length vc (KB cs xs):=by
 obtain⟨j0,hj0,hy0,hy1,hy2⟩:=info_parts Tryz.infoLM;have h1:¬k<1:=oM;have h2:¬64<k:=oM;have hn1:n<=1000:=by have:=hx.out;have:=ho.okf.n2;omega
 go_enter Tryz.func8,Tryz.ntmps8
 go_wp2_with fail
 refine(HPC.out _ (Xb (Xb (Below.refl _ _) _) _)).mono ?_;rintro e w1 ⟨rfl,hb1⟩;have hF:Bx w1 w.heap.size #[.int .i64 (V:Int),.slice a n c] 33:=((Bx.new w #[.int .i64 (V:Int),.slice a n c] 33).box _).keep (hb1.block _ (by simp;omega));have hR:Bx w1 (w.heap.size+1) #[.int .i64 0,.slice none 0 0] 29:=(by have:=Bx.new (w.alloc (.cells #[.int .i64 (V:Int),.slice a n c] 33)) #[.int .i64 0,.slice none 0 0] 29;rw[World.size_alloc]at this;exact this.keep (hb1.block _ sP));have hz:w.heap.size+1<w1.heap.size:=hR.lt;have hz0w:w.heap.size<w1.heap.size:=oM;have HB1:=Xa (Xd (Xb (Xb (Below.refl w.heap.size w) _) _) hb1);have f0:w1.cell? ⟨w.heap.size,0,none⟩=some (.int .i64 (V:Int)):=Bx.cell hF rfl;have f1:w1.cell? ⟨w.heap.size,1,none⟩=some (.slice a n c):=Bx.cell hF rfl;have HF:=Xa hF;have HR:=Xa hR;have HG:=Xa (fun (w5:World)(pa:Option Addr)(L2:Nat)(hb:Below w1.heap.size w1 w5)(hp:XM w5 L2 w5.heap.size pa ((List.range n).map fun i:Nat=>predsFrom xs 0 (i:Int)))=>LpG.new (w1:=w1) L2 hb (ha.keep (HB1.mono hB)) hx.out oM ho.out (hc.keep (HB1.mono hBc)) hcx.out hcV.out oM (hO.keep HB1.out hO.1) hcr.out hp);have HPD:=Xa (fun (W:World)(hW:Below w.heap.size w W)=>JS (V:Int) a n c xs L B W (Xa (ha.keep (hW.mono hB))) hx oM (by have:=hW.size;omega) hg);clear hb1 hF hR HPC
 go_wp2_with fail
 go_cut [7] from 11 to 59 (fun c7 wx=>∃(lb:Nat)(W:LpW)(pa:Option Addr)(pc:Nat),c7=.pointer (some ⟨lb,0,none⟩)/\Hid (LpZ w1 wx W lb V a n c xs L B ac nc cc cs Lc Bc pa pc k []))
 case first =>
  have KEY:Hid (∀W,Below w1.heap.size w1 W->Calls Tryz.prog 22 #[.agg #[.int .i64 (V:Int),.slice a n c]] W fun e w'=>∃pa pc,e=.returned (.slice pa n pc)/\w'.cell? ⟨w.heap.size,0,none⟩=some (.int .i64 (V:Int))/\w'.cell? ⟨w.heap.size,1,none⟩=some (.slice a n c)/\w.heap.size<w'.heap.size/\Hid (Below W.heap.size W w')/\Hid (XM w' W.heap.size w'.heap.size pa ((List.range n).map fun i:Nat=>predsFrom xs 0 (i:Int)))):=Xa (fun W hW=>by
   refine(HPD.out W (HB1.trans (hW.mono oM))).mono ?_;rintro e w5 ⟨pa,pc,rfl,hb5,hp5⟩;have k5:Below w1.heap.size w1 w5:=Xd hW hb5;exact⟨pa,pc,rfl,(k5.cell (p:=⟨w.heap.size,0,none⟩) hz0w).trans f0,(k5.cell (p:=⟨w.heap.size,1,none⟩) hz0w).trans f1,by have:=k5.size;omega,Xa hb5,Xa hp5⟩)
  have HA:=Xa (KEY.out w1.drew (Below.refl w1.heap.size w1).drew);have hn0:Bx (w1.alloc (.cells #[.int .i64 0,.slice none 0 0,.slice none 0 0,.slice none 0 0,.int .i64 0,.slice none 0 0] 61)).drew w1.heap.size #[.int .i64 0,.slice none 0 0,.slice none 0 0,.slice none 0 0,.int .i64 0,.slice none 0 0] 61:=Bx.new w1 _ _;have HC:=Xa ((KEY.out (w1.alloc (.cells #[.int .i64 0,.slice none 0 0,.slice none 0 0,.slice none 0 0,.int .i64 0,.slice none 0 0] 61)).drew ((Below.refl w1.heap.size w1).alloc (Nat.le_refl _) _).drew).mono (R':=fun e w'=>∃pa pc,e=.returned (.slice pa n pc)/\w'.cell? ⟨w.heap.size,0,none⟩=some (.int .i64 (V:Int))/\w'.cell? ⟨w.heap.size,1,none⟩=some (.slice a n c)/\w.heap.size<w'.heap.size/\(w'.cell? ⟨w1.heap.size,0,none⟩=some (.int .i64 0)/\w'.cell? ⟨w1.heap.size,1,none⟩=some (.slice none 0 0)/\w'.cell? ⟨w1.heap.size,2,none⟩=some (.slice none 0 0)/\w'.cell? ⟨w1.heap.size,3,none⟩=some (.slice none 0 0)/\w'.cell? ⟨w1.heap.size,4,none⟩=some (.int .i64 0)/\w'.cell? ⟨w1.heap.size,5,none⟩=some (.slice none 0 0)/\∀q,w'.frozen? ⟨w1.heap.size,q,none⟩=false)/\Hid (Bx w' w1.heap.size #[.int .i64 0,.slice none 0 0,.slice none 0 0,.slice none 0 0,.int .i64 0,.slice none 0 0] 61)/\Hid (Below w1.heap.size w1 w'/\w1.heap.size+1<=w'.heap.size)/\Hid (XM w' (w1.heap.size+1) w'.heap.size pa ((List.range n).map fun i:Nat=>predsFrom xs 0 (i:Int)))) (by
   rintro e w5 ⟨pa,pc,rfl,f0,f1,hsz5,HB5,HO5⟩;have h5:=hn0.keep (HB5.block _ hn0.lt);have hs1:(w1.alloc (.cells #[.int .i64 0,.slice none 0 0,.slice none 0 0,.slice none 0 0,.int .i64 0,.slice none 0 0] 61)).drew.heap.size=w1.heap.size+1:=by show(w1.alloc _).heap.size=_;simp
   have hb:=HB5.out;have hp:=HO5.out;have hbz:=hb.size;rw[hs1]at hb hp hbz;exact⟨pa,pc,rfl,f0,f1,hsz5,⟨Bx.cell h5 rfl,Bx.cell h5 rfl,Bx.cell h5 rfl,Bx.cell h5 rfl,Bx.cell h5 rfl,Bx.cell h5 rfl,Bx.thaw h5⟩,Xa h5,Xa ⟨((Below.refl w1.heap.size w1).alloc (Nat.le_refl _) _).drew.trans (hb.mono (Nat.le_succ _)),hbz⟩,Xa hp⟩))
  have hne1:w1.heap.size≠w.heap.size:=oM;have hne2:w.heap.size≠w1.heap.size:=oM;clear KEY hn0
  go_region_held3 (fun w'=>w'.cell? ⟨w.heap.size,0,none⟩=some (.int .i64 (V:Int))/\w'.cell? ⟨w.heap.size,1,none⟩=some (.slice a n c)) (go_keep)
   (first
    | (go_at_call 22;with_reducible refine HA.out.mono ?_;rintro e w5 ⟨pa,pc,rfl,f2,f3,hsz5,HB5,HO5⟩)
    | (go_at_call 22;with_reducible refine HC.out.mono ?_;rintro e w5 ⟨pa,pc,rfl,f2,f3,hsz5,⟨z0,z1,z2,z3,z4,z5,zz⟩,HX5,HB5,HO5⟩))
  ·go_wp2_with fail
   go_meet;have k5:Below w1.heap.size w1 w5:=Xd (Below.refl w1.heap.size w1).drew HB5.out;have hp5:XM w5 w1.heap.size w5.heap.size pa ((List.range n).map fun i:Nat=>predsFrom xs 0 (i:Int)):=HO5.out;exact⟨w5.heap.size,⟨w5,w1.heap.size,w1.heap.size,w5.heap.size⟩,pa,pc,rfl,Xa ⟨HG.out w5 pa _ k5 hp5,⟨fun _=>(0,0,0),_,fun _=>.slice none 0 0,⟨(Below.refl _ _).alloc k5.size _,Bx.new _ _ _,k5.size,TZ.nil,fun _ _=>rfl,rfl,Xv.of_below (Xb (Below.refl w5.heap.size w5) _),fun _ _ _=>rfl,Nat.le_refl _,Nat.le_refl _,k5.size,fun h=>Nat.lt_irrefl _ h.2⟩⟩,rfl,k5⟩⟩
  ·go_wp2_with fail
   go_meet;have k5:=HB5.1;have hz5:=HB5.2;exact⟨w1.heap.size,⟨w5,w1.heap.size,w1.heap.size+1,w5.heap.size⟩,pa,pc,rfl,Xa ⟨HG.out w5 pa _ k5 HO5.out,⟨fun _=>(0,0,0),_,fun _=>.slice none 0 0,⟨(((((((Below.refl w1.heap.size w5).setCell (p:=⟨w1.heap.size,0,none⟩) (Nat.le_refl _) _).setCell (p:=⟨w1.heap.size,1,none⟩) (Nat.le_refl _) _).setCell (p:=⟨w1.heap.size,2,none⟩) (Nat.le_refl _) _).setCell (p:=⟨w1.heap.size,3,none⟩) (Nat.le_refl _) _).setCell (p:=⟨w1.heap.size,4,none⟩) (Nat.le_refl _) _).setCell (p:=⟨w1.heap.size,5,none⟩) (Nat.le_refl _) _),(((((HX5.set 0 (.int .i64 (V:Int))).set 1 (.slice a n c)).set 2 (.slice ac nc cc)).set 3 (.slice pa n pc)).set 4 (.int .i64 k)).set 5 (.slice none 0 0),Nat.le_refl _,TZ.nil,fun _ _=>rfl,rfl,((((((Xv.refl (w1.heap.size+1) w5.heap.size w5).setCell (p:=⟨w1.heap.size,0,none⟩) (Or.inl (Nat.lt_succ_self _)) _).setCell (p:=⟨w1.heap.size,1,none⟩) (Or.inl (Nat.lt_succ_self _)) _).setCell (p:=⟨w1.heap.size,2,none⟩) (Or.inl (Nat.lt_succ_self _)) _).setCell (p:=⟨w1.heap.size,3,none⟩) (Or.inl (Nat.lt_succ_self _)) _).setCell (p:=⟨w1.heap.size,4,none⟩) (Or.inl (Nat.lt_succ_self _)) _).setCell (p:=⟨w1.heap.size,5,none⟩) (Or.inl (Nat.lt_succ_self _)) _,fun _ _ _=>rfl,Nat.le_succ _,Nat.le_refl _,k5.size,fun h=>Nat.not_succ_le_self _ h.1⟩⟩,rfl,k5⟩⟩
 case rest =>
  obtain⟨lb,W,pa,pc,rfl,HZ⟩:=hcut;have f1c:wc.cell? ⟨w.heap.size,1,none⟩=some (.slice a n c):=(HZ.low.cell (p:=⟨w.heap.size,1,none⟩) hz0w).trans f1;clear HG HPD f0 f1;go_wp2;clear f1c
  go_loopw [35] (fun i wr=>∃j:Nat,j<=n/\i=.int .i64 j/\Hid (LpZ w1 wr W lb V a n c xs L B ac nc cc cs Lc Bc pa pc k (mkM cs (xs.take j)))) (fun i _=>n-(intOf i).toNat)
  case atStart=>exact⟨0,Nat.zero_le _,rfl,HZ⟩
  case round =>
   obtain⟨j,hj,rfl,HZJ⟩:=hrel;clear HZ;have HLW:Hid (Below w1.heap.size w1 wr):=Xa HZJ.low;have hwr:w1.heap.size<=wr.heap.size:=HLW.size;by_cases hlt:j<n
   ·have hjx:j<xs.length:=by have:=hx.out;omega
    have hltI:(j:Int)<(n:Int):=oM;obtain⟨lab,mv,iv,hS⟩:=HZJ.h;obtain⟨gb,ob,rfl,⟨_,hgB⟩,hcb⟩:=(ha.keep ((HB1.trans (HLW.mono oM)).mono hB)) j hjx;obtain⟨qa,qc,ia,ic,e0,e1,⟨e2,e3,e4,e5⟩,_,hin⟩:=hcb;have HIN:=Xa hin;have HOP:=Xa (ho.ops _ (List.getElem_mem hjx));have HRD:=Xa (fun y hy=>And.intro (ho.rdi _ (List.getElem_mem hjx) y hy) (ho.wri _ (List.getElem_mem hjx) y hy));have HKD:=Xa (ho.kind _ (List.getElem_mem hjx));have HRT:=Xa (ho.rdt _ (List.getElem_mem hjx));have HLN:=Xa (ho.lens _ (List.getElem_mem hjx));have HMS:Hid (mkM cs (xs.take (j+1))=mkM cs (xs.take j)++[⟨xs[j].instrs.map (YC cs),Ka cs xs[j].term⟩]):=Xa (by unfold mkM;rw[List.take_succ_eq_append_getElem hjx,List.map_append];rfl);have HML:Hid ((mkM cs (xs.take j)).length=j):=Xa (by unfold mkM;rw[List.length_map,List.length_take];omega);generalize xs[j]=X at *;obtain⟨kd,hkd⟩:∃kd:Nat,X.term.kind=(kd:Int):=⟨X.term.kind.toNat,by have:=HKD.out;omega⟩;rw[hkd]at e2;have hkd1:1<=kd/\kd<=3:=by have:=HKD.out;rw[hkd]at this;omega
    have HKE:=Xa hkd;have HS:=Xa hS;have hgr:gb<wr.heap.size:=oM;clear hS hin hkd HKD;obtain⟨ma,mc,hmv⟩:=HS.m.blks.form;rw[HML.out]at hmv;subst hmv;go_wp2;have hbt:=Xb (Below.refl wr.heap.size wr) (.cells #[.slice qa X.phis.length qc,.slice ia X.instrs.length ic,.int .i64 (kd:Int),.int .i64 X.term.a,.int .i64 X.term.to,.int .i64 X.term.els] 50);have HBB:=Xa (Bx.new wr #[.slice qa X.phis.length qc,.slice ia X.instrs.length ic,.int .i64 (kd:Int),.int .i64 X.term.a,.int .i64 X.term.to,.int .i64 X.term.els] 50);have HST:=Xa (HS.calm hbt);have HBW:=Xa (Xd HLW.out hbt);have HSZ:Hid ((wr.alloc (.cells #[.slice qa X.phis.length qc,.slice ia X.instrs.length ic,.int .i64 (kd:Int),.int .i64 X.term.a,.int .i64 X.term.to,.int .i64 X.term.els] 50)).heap.size=wr.heap.size+1):=Xa sP;have HL0:Hid (lab wr.heap.size=(0,0,0)):=Xa (HS.fr _ (Nat.le_refl _));have HCW:Hid (Calls Tryz.prog 23 #[.pointer (some ⟨lb,0,none⟩),.agg #[.slice qa X.phis.length qc,.slice ia X.instrs.length ic,.int .i64 (kd:Int),.int .i64 X.term.a,.int .i64 X.term.to,.int .i64 X.term.els]] (wr.alloc (.cells #[.slice qa X.phis.length qc,.slice ia X.instrs.length ic,.int .i64 (kd:Int),.int .i64 X.term.a,.int .i64 X.term.to,.int .i64 X.term.els] 50)).drew fun e w'=>∃va vc,e=.returned (.agg #[.slice va X.instrs.length vc,.int .i64 (kd:Int),.int .i64 (Ka cs X.term).a,.int .i64 X.term.to,.int .i64 X.term.els])/\Hid (Below (wr.alloc (.cells #[.slice qa X.phis.length qc,.slice ia X.instrs.length ic,.int .i64 (kd:Int),.int .i64 X.term.a,.int .i64 X.term.to,.int .i64 X.term.els] 50)).heap.size (wr.alloc (.cells #[.slice qa X.phis.length qc,.slice ia X.instrs.length ic,.int .i64 (kd:Int),.int .i64 X.term.a,.int .i64 X.term.to,.int .i64 X.term.els] 50)) w')/\Hid (w'.ownsRow (wr.alloc (.cells #[.slice qa X.phis.length qc,.slice ia X.instrs.length ic,.int .i64 (kd:Int),.int .i64 X.term.a,.int .i64 X.term.to,.int .i64 X.term.els] 50)).heap.size 54 5 (.slice va X.instrs.length vc) X.instrs.length (Y1 (X.instrs.map (YC cs))))):=Xa (by
     have hw:Below w.heap.size w (wr.alloc (.cells #[.slice qa X.phis.length qc,.slice ia X.instrs.length ic,.int .i64 (kd:Int),.int .i64 X.term.a,.int .i64 X.term.to,.int .i64 X.term.els] 50)).drew:=(HB1.trans (HBW.mono oM)).drew;have hsz:wr.heap.size+1=(wr.alloc (.cells #[.slice qa X.phis.length qc,.slice ia X.instrs.length ic,.int .i64 (kd:Int),.int .i64 X.term.a,.int .i64 X.term.to,.int .i64 X.term.els] 50)).drew.heap.size:=HSZ.symm;refine(Zdq lb V _ _ _ _ _ ac nc cc cs Lc Bc (.slice qa X.phis.length qc) ia X.instrs.length ic X.instrs kd X.term.a X.term.to X.term.els L B (wr.alloc (.cells #[.slice qa X.phis.length qc,.slice ia X.instrs.length ic,.int .i64 (kd:Int),.int .i64 X.term.a,.int .i64 X.term.to,.int .i64 X.term.els] 50)).drew (Xa (HST.bx.keep rfl)) (Xa (hc.keep (hw.mono hBc))) hcx (Xa (by have:=hcV.out;have:=hcx.out;omega)) oM oM (Xa (HIN.keep ((hbt.drew.mono oM)))) (Xa rfl) HLN.1 (Xa (hO.keep hw hO.1)) (Xa (hT.keep hw hT.1)) HOP HRD hkd1.1 hkd1.2 (Xa (by have:=HRT.out;rw[show X.term=⟨X.term.kind,X.term.a,X.term.to,X.term.els⟩ from rfl,HKE.out]at this;exact this))).mono ?_;rintro e w5 ⟨v5,rfl,hb5,ho5⟩;obtain⟨va,vc,rfl⟩:∃va vc,v5=.slice va X.instrs.length vc:=XJ.form (lab:=fun _=>(0,0,0)) (L:=(0,0,0)) ⟨ho5,fun _ _=>rfl⟩;refine⟨va,vc,?_,Xa (Xd (Below.refl _ _).drew hb5),Xa ho5⟩;rw[show(Ka cs ⟨(kd:Int),X.term.a,X.term.to,X.term.els⟩).a=(Ka cs X.term).a by rw[<-HKE.out]])
    have HLK:Hid (Ka cs X.term=⟨(kd:Int),(Ka cs X.term).a,X.term.to,X.term.els⟩):=Xa (by rw[<-HKE.out];rfl);clear e0 e1 e2 e3 e4 e5 hbt HIN HOP HRD HRT HS;generalize wr.alloc (.cells #[.slice qa X.phis.length qc,.slice ia X.instrs.length ic,.int .i64 (kd:Int),.int .i64 X.term.a,.int .i64 X.term.to,.int .i64 X.term.els] 50)=wt at *;have hbz:wr.heap.size<wt.heap.size:=by have:=HSZ.out;omega
    generalize wr.heap.size=bb at *;have t0:wt.cell? ⟨bb,0,none⟩=some (.slice qa X.phis.length qc):=Bx.cell HBB.out rfl;have t1:wt.cell? ⟨bb,1,none⟩=some (.slice ia X.instrs.length ic):=Bx.cell HBB.out rfl;have t2:wt.cell? ⟨bb,2,none⟩=some (.int .i64 (kd:Int)):=Bx.cell HBB.out rfl;have t3:wt.cell? ⟨bb,3,none⟩=some (.int .i64 X.term.a):=Bx.cell HBB.out rfl;have t4:wt.cell? ⟨bb,4,none⟩=some (.int .i64 X.term.to):=Bx.cell HBB.out rfl;have t5:wt.cell? ⟨bb,5,none⟩=some (.int .i64 X.term.els):=Bx.cell HBB.out rfl;have l5:wt.cell? ⟨lb,5,none⟩=some (.slice ma j mc):=Bx.cell HST.bx rfl;refine Z1 (fun w'=>w'.cell? ⟨bb,0,none⟩=some (.slice qa X.phis.length qc)/\w'.cell? ⟨bb,1,none⟩=some (.slice ia X.instrs.length ic)/\w'.cell? ⟨bb,2,none⟩=some (.int .i64 (kd:Int))/\w'.cell? ⟨bb,3,none⟩=some (.int .i64 X.term.a)/\w'.cell? ⟨bb,4,none⟩=some (.int .i64 X.term.to)/\w'.cell? ⟨bb,5,none⟩=some (.int .i64 X.term.els)) (fun hHeld=>?_);refine Xi 0 ?_;refine Xi 1 ?_;refine Xi 3 ?_;refine wpAnyH_ready (rs:=[2,4]) vZ sP ?_;refine(AllReadyH.cons rfl (fun K hK=>?_) (AllReadyH.cons rfl (fun K hK=>?_) AllReadyH.nil))
    focus
     go_simp;refine hK _ _ kP (fun hHeld=>?_);clear hK
     try simp only[Act.put,xA,xB,xC,xD,xE,xF]
     refine Xt 4 (fun K hK=>?_);go_simp
     go_at_call 23
     with_reducible refine HCW.out.mono ?_
     rintro e w5 ⟨va,vc,rfl,HB5,HO5⟩;have HX5:Hid (VI W w5 lab lb (V:Int) (some ⟨gb,ob,none⟩) n c ac nc cc pa pc k (.slice ma j mc) (mkM cs (xs.take j)) iv):=Xa (HST.calm HB5.out);have hb9:=HBB.keep (HB5.block _ HBB.lt);have s5:w5.cell? ⟨bb,0,none⟩=some (.slice qa X.phis.length qc)/\w5.cell? ⟨bb,1,none⟩=some (.slice ia X.instrs.length ic)/\w5.cell? ⟨bb,2,none⟩=some (.int .i64 (kd:Int))/\w5.cell? ⟨bb,3,none⟩=some (.int .i64 X.term.a)/\w5.cell? ⟨bb,4,none⟩=some (.int .i64 X.term.to)/\w5.cell? ⟨bb,5,none⟩=some (.int .i64 X.term.els):=⟨Bx.cell hb9 rfl,Bx.cell hb9 rfl,Bx.cell hb9 rfl,Bx.cell hb9 rfl,Bx.cell hb9 rfl,Bx.cell hb9 rfl⟩;have HBB5:=Xa hb9;have x5:w5.cell? ⟨lb,5,none⟩=some (.slice ma j mc):=Bx.cell HX5.bx rfl;have hl5:lb<w5.heap.size:=HX5.bx.lt;clear hb9;dsimp only;refine hK _ _ s5 (fun hHeld=>?_);clear hK;refine Xt 5 (fun K hK=>?_);go_simp;refine hK _ _ kP (fun hHeld=>?_);clear hK
    rotate_left
    focus
     go_simp
     go_at_call 23
     with_reducible refine HCW.out.mono ?_
     rintro e w5 ⟨va,vc,rfl,HB5,HO5⟩;have HX5:Hid (VI W w5 lab lb (V:Int) (some ⟨gb,ob,none⟩) n c ac nc cc pa pc k (.slice ma j mc) (mkM cs (xs.take j)) iv):=Xa (HST.calm HB5.out);have hb9:=HBB.keep (HB5.block _ HBB.lt);have s5:w5.cell? ⟨bb,0,none⟩=some (.slice qa X.phis.length qc)/\w5.cell? ⟨bb,1,none⟩=some (.slice ia X.instrs.length ic)/\w5.cell? ⟨bb,2,none⟩=some (.int .i64 (kd:Int))/\w5.cell? ⟨bb,3,none⟩=some (.int .i64 X.term.a)/\w5.cell? ⟨bb,4,none⟩=some (.int .i64 X.term.to)/\w5.cell? ⟨bb,5,none⟩=some (.int .i64 X.term.els):=⟨Bx.cell hb9 rfl,Bx.cell hb9 rfl,Bx.cell hb9 rfl,Bx.cell hb9 rfl,Bx.cell hb9 rfl,Bx.cell hb9 rfl⟩;have HBB5:=Xa hb9;have x5:w5.cell? ⟨lb,5,none⟩=some (.slice ma j mc):=Bx.cell HX5.bx rfl;have hl5:lb<w5.heap.size:=HX5.bx.lt;clear hb9;dsimp only;refine hK _ _ s5 (fun hHeld=>?_);clear hK
     try simp only[Act.put,xA,xB,xC,xD,xE,xF]
     refine wpAnyH_ready (rs:=[2,5]) vZ sP ?_;refine(AllReadyH.cons rfl (fun K hK=>?_) (AllReadyH.cons rfl (fun K hK=>?_) AllReadyH.nil))
     focus
      go_simp;refine hK _ _ kP (fun hHeld=>?_);clear hK
      try simp only[Act.put,xA,xB,xC,xD,xE,xF]
      refine Xt 5 (fun K hK=>?_);go_simp;refine hK _ _ kP (fun hHeld=>?_);clear hK
     rotate_left
     focus
      go_simp;refine hK _ _ kP (fun hHeld=>?_);clear hK
      try simp only[Act.put,xA,xB,xC,xD,xE,xF]
      refine Xt 2 (fun K hK=>?_);go_simp;refine hK _ _ kP (fun hHeld=>?_);clear hK
    all_goals (
     refine Xt 6 (fun K hK=>?_);obtain⟨lab5,hr5,hs5⟩:=XJ.fresh (L:=(3,(mkM cs (xs.take j)).length,0)) (lab:=lab) (base:=W.base) HB5.out HO5.out HST.bs HST.fr;have hS5:=HST.spT HB5.out hs5;have hA:=hS5.calm (Xb (Below.refl w5.heap.size w5) (.cells #[.slice va X.instrs.length vc,.int .i64 (kd:Int),.int .i64 (Ka cs X.term).a,.int .i64 X.term.to,.int .i64 X.term.els] 52));have hRA:=hr5.sp (JT.below (Xb (Below.refl w5.heap.size w5) (.cells #[.slice va X.instrs.length vc,.int .i64 (kd:Int),.int .i64 (Ka cs X.term).a,.int .i64 X.term.to,.int .i64 X.term.els] 52))) (fun _ _=>trivial);have hOW:=hA.m.blks.own;rw[HML.out]at hOW;refine Yf rfl _ _ 27 rfl W.base 52 j0 (.agg #[.slice none 0 0,.int .i64 0,.int .i64 0,.int .i64 0,.int .i64 0]) 5 56 Tryz.underlying27 hj0 hy0 hy1 hy2 rfl dC (.slice ma j mc) j (Jv iv (mkM cs (xs.take j))) rfl hOW ⟨w5.heap.size,0,none⟩ 1 1 [.slice va X.instrs.length vc,.int .i64 (kd:Int),.int .i64 (Ka cs X.term).a,.int .i64 X.term.to,.int .i64 X.term.els] rfl rfl (World.news_of_block (World.alloc_heap_new _ _)) ?s3 ?s4 ?s5 ?s6 ?_
     case s3=>intro u hu;simp at hu;rcases hu with rfl | rfl | rfl | rfl | rfl<;>rfl
     case s4=>unfold maxLen;omega
     case s5=>omega
     case s6=>exact hA.bs
     intro v8 w8 hown8 hg8 hne8 hat8;obtain⟨⟨lab8,hS8⟩,hl8⟩:=hA.push ⟨X.instrs.map (YC cs),Ka cs X.term⟩ (by show XJ _ _ _ _ _ _ _ (X.instrs.map (YC cs)).length _;rw[List.length_map];exact hRA) hg8 (by rw[HML.out,HLK.out];exact hown8) hat8;obtain⟨g8,c8,rfl,_,_⟩:=XC hown8 oM;have hb8:Bx w8 bb _ _:=(HBB5.box _).grown hg8 (WW (HBB5.box _) hOW dC);have k5:w8.cell? ⟨lb,5,none⟩=some (.slice ma j mc):=Bx.cell hl8 rfl;have kz:=Bx.thaw hl8;have nbl:bb≠lb:=Un hb8 hl8 dC;have nlb:lb≠bb:=fun e=>nbl e.symm
     have HZ8:Hid (LpZ w1 (w8.setCell ⟨lb,5,none⟩ (.slice (some ⟨g8,0,none⟩) (j+1) c8)) W lb V (some ⟨gb,ob,none⟩) n c xs L B ac nc cc cs Lc Bc pa pc k (mkM cs (xs.take (j+1)))):=Xa ⟨HZJ.g,by rw[HMS.out];exact⟨_,_,_,hS8⟩,HZJ.bs,HZJ.ww⟩;refine hK _ _ ⟨Bx.cell hb8 rfl,Bx.cell hb8 rfl,Bx.cell hb8 rfl,Bx.cell hb8 rfl,Bx.cell hb8 rfl,Bx.cell hb8 rfl⟩ (fun hHeld=>?_);clear hK hown8 hg8 hne8 hat8 hA hRA hS8 hl8 hb8 hOW hS5 hr5 hs5 t0 t1 t2 t3 t4 t5 l5 x5 s5
     try simp only[Act.put,xA,xB,xC,xD,xE,xF]
     refine Xi 7 ?_;refine Xi 8 ?_;refine Xt 9 (fun K hK=>?_);go_simp;refine hK _ _ kP (fun hHeld=>?_);clear hK;refine YA ?_;clear hHeld;go_wp2;exact⟨⟨j+1,oM,gM,HZ8⟩,by simp[intOf];omega⟩)
   ·have hjn:j=n:=oM
    have hjI:¬(j:Int)<(n:Int):=oM;have HZ0:Hid (LpZ w1 wr W lb V a n c xs L B ac nc cc cs Lc Bc pa pc k (J7 cs xs 0)):=Xa (by rw[ZfZ];have:=HZJ.out;rw[hjn,hx.out,List.take_length]at this;rw[hx.out];exact this);have f1r:wr.cell? ⟨w.heap.size,1,none⟩=some (.slice a n c):=(HLW.cell (p:=⟨w.heap.size,1,none⟩) hz0w).trans (Bx.cell HF.out rfl);clear HZJ;go_wp2;clear f1r
    go_loopw [52] (fun i wr=>∃j:Nat,j<=n/\i=.int .i64 j/\Hid (LpZ w1 wr W lb V a n c xs L B ac nc cc cs Lc Bc pa pc k (J7 cs xs j))) (fun i _=>n-(intOf i).toNat)
    case atStart=>exact⟨0,Nat.zero_le _,rfl,HZ0⟩
    case round =>
     obtain⟨p,hp,rfl,HZP⟩:=hrel;clear HZ0;by_cases hlt2:p<n
     ·have hpx:p<xs.length:=by have:=hx.out;omega
      have hltI2:(p:Int)<(n:Int):=oM;have HSL:=Xa (JR cs xs p (Nat.le_of_lt hpx));have HLM:=Xa (Zdf cs xs (Nat.le_of_lt hpx));have hpM:p<(J7 cs xs p).length:=by rw[HLM.out];omega
      have HPU:=Xa (Zay W V a n c xs L B ac nc cc cs Lc Bc pa pc lb k (J7 cs xs p) p wr (Xa HZP.g) (Xa HZP.h) (by rw[HLM.out];have:=HSL.out;have:=hx.out;omega) hpx hpM (Xa (Zju cs xs hpx hpM)))
      go_wp2_with fail
      refine HPU.mono ?_;rintro e w5 ⟨rfl,hH5⟩;rw[ZfB cs xs hpx]at hH5;have HZ5:Hid (LpZ w1 w5 W lb V a n c xs L B ac nc cc cs Lc Bc pa pc k (J7 cs xs (p+1))):=Xa ⟨HZP.g,hH5,HZP.bs,HZP.ww⟩;clear hH5 HPU;go_wp2;exact⟨⟨p+1,oM,gM,HZ5⟩,by simp[intOf];omega⟩
     ·have hpn:p=n:=oM
      have hpI:¬(p:Int)<(n:Int):=oM;have HLE:Hid (LpZ w1 wr W lb V a n c xs L B ac nc cc cs Lc Bc pa pc k (KB cs xs)):=Xa (by have:=HZP.out;rw[hpn,hx.out,ZhX]at this;rw[hx.out];exact this);clear HZP;obtain⟨lab,mv,iv,hS⟩:=HLE.h;obtain⟨ma,mc,hmv⟩:=hS.m.blks.form;subst hmv;have l4:wr.cell? ⟨lb,4,none⟩=some (.int .i64 k):=Bx.cell hS.bx rfl;have l5:wr.cell? ⟨lb,5,none⟩=some (.slice ma (KB cs xs).length mc):=Bx.cell hS.bx rfl;have hr7:=HR.keep (HLE.low.block _ HR.lt);have r0:wr.cell? ⟨w.heap.size+1,0,none⟩=some (.int .i64 0):=Bx.cell hr7 rfl;have r1:wr.cell? ⟨w.heap.size+1,1,none⟩=some (.slice none 0 0):=Bx.cell hr7 rfl;have rz:=Bx.thaw hr7;have hlt9:w.heap.size+1<W.base:=by rw[HLE.bs];exact hz
      have hle9:w.heap.size<=w.heap.size+1:=Nat.le_succ _;have HFB:=Xa (((HB1.trans (HLE.low.mono oM)).setCell (p:=⟨w.heap.size+1,0,none⟩) hle9 (.int .i64 k)).setCell (p:=⟨w.heap.size+1,1,none⟩) hle9 (.slice ma (KB cs xs).length mc));have HFM:=Xa (ZfG.of (((hS.m.sp (JT.deep ⟨w.heap.size+1,0,none⟩ hlt9 (.int .i64 k)) (fun _ _=>trivial) (fun _ _ _ _=>trivial)).sp (JT.deep ⟨w.heap.size+1,1,none⟩ hlt9 (.slice ma (KB cs xs).length mc)) (fun _ _=>trivial) (fun _ _ _ _=>trivial)).down (by omega:w.heap.size<=W.base)));clear hS hr7 HLE
      go_wp2_with fail
      refine bodyPost_ret (v:=.agg #[.int .i64 k,.slice ma (KB cs xs).length mc]) (by simp[results,Tryz.results8,go_sem,r0,r1]) rfl ?_
      first
       | exact⟨_,_,rfl,HFB.out,HFM.out⟩
       | exact⟨ma,⟨mc,rfl⟩,HFB.out,HFM.out⟩
       | exact⟨ma,sP,HFB.out,HFM.out⟩
theorem Zjn(V:Int)(a:Option Addr)(n c:Nat)(ac:Option Addr)(nc cc:Nat)(k:Int)(b:Bool)(w:World)(hb:Hid (1<=k->k<=64->b=false))
 (HPC:Hid (∀W,Below w.heap.size w W->Calls Tryz.prog 21 #[.agg #[.int .i64 V,.slice a n c],.slice ac nc cc,.int .i64 k] W fun e w'=>e=.returned (.bool b)/\Below W.heap.size W w')) :
 Calls Tryz.prog 8 #[.agg #[.int .i64 V,.slice a n c],.slice ac nc cc,.int .i64 k] w fun e w'=>e=.returned (.agg #[.int .i64 0,.slice none 0 0])/\Below w.heap.size w w':=by
 by_cases h1:k<1
 ·go_enter Tryz.func8,Tryz.ntmps8
  go_wp2;refine bodyPost_ret (v:=.agg #[.int .i64 0,.slice none 0 0]) (by simp[results,Tryz.results8,go_sem]) rfl ⟨rfl,?_⟩;exact Xb (Xb (Below.refl _ _) _) _
 ·by_cases h2:64<k
  ·go_enter Tryz.func8,Tryz.ntmps8
   go_wp2;refine bodyPost_ret (v:=.agg #[.int .i64 0,.slice none 0 0]) (by simp[results,Tryz.results8,go_sem]) rfl ⟨rfl,?_⟩;exact Xb (Xb (Below.refl _ _) _) _
  ·have hbf:=hb.out oM oM
   subst hbf
   go_enter Tryz.func8,Tryz.ntmps8
   go_wp2_with fail
   refine(HPC.out _ (Xb (Xb (Below.refl _ _) _) _)).mono ?_;rintro e w1 ⟨rfl,hb1⟩;have hR:Bx w1 (w.heap.size+1) #[.int .i64 0,.slice none 0 0] 29:=(by have:=Bx.new (w.alloc (.cells #[.int .i64 V,.slice a n c] 33)) #[.int .i64 0,.slice none 0 0] 29;rw[World.size_alloc]at this;exact this.keep (hb1.block _ sP));have r0:w1.cell? ⟨w.heap.size+1,0,none⟩=some (.int .i64 0):=Bx.cell hR rfl;have r1:w1.cell? ⟨w.heap.size+1,1,none⟩=some (.slice none 0 0):=Bx.cell hR rfl;have rz:=Bx.thaw hR;have HB1:=Xa (Xd (Xb (Xb (Below.refl w.heap.size w) _) _) hb1);clear hb1 hR;go_wp2;refine bodyPost_ret (v:=.agg #[.int .i64 0,.slice none 0 0]) (by simp[results,Tryz.results8,go_sem,r0,r1]) rfl ⟨rfl,?_⟩;exact(HB1.setCell (p:=⟨w.heap.size+1,0,none⟩) sP _).setCell (p:=⟨w.heap.size+1,1,none⟩) sP _
end Go.Proofs.YtlmgmkmomaileaaGreatDoor
