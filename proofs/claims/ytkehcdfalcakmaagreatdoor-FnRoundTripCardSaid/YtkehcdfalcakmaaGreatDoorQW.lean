import Derived.Test.YtkehcdfalcakmaaGreatDoorQR
namespace Go.Proofs.YtkehcdfalcakmaaGreatDoor
set_option maxHeartbeats 4000000
set_option maxRecDepth 100000
open Go.RowKit Go.Shelf
def Zdo(w w':World)(R:Nat)(wd:Value)(V:Int)(B0:Nat)(s:K5)(line:List UInt8)(e:Ending):Prop :=
 Kb B0 R R w w'/\((∃c,XZ s line=.bad c/\c≠0/\e=.returned (.int .i64 c))\/(∃s',XZ s line=.ok s'/\e=.returned (.int .i64 0)/\∃va vn vc,Vd w' R wd V B0 s' va vn vc))
theorem Jd{w w':World}{R:Nat}{wd:Value}{V:Int}{B0:Nat}{s:K5}{line:List UInt8}{c:Int}(k:Below w.heap.size w w')(hB:B0<=w.heap.size)(h:XZ s line=.bad c)(hc:c≠0):Zdo w w' R wd V B0 s line (.returned (.int .i64 c)):=⟨Kb.of_below (k.mono hB),Or.inl ⟨c,h,hc,rfl⟩⟩
theorem Zcx(R:Nat)(wd:Value)(V:Int)(B0:Nat)(s:K5)(va:Option Addr)(vn vc ro co:Nat)(w:World)(h:Vd w R wd V B0 s va vn vc)(hro:ro<=3)(htot:Yh s<=100000)(nums:List Int) :
 Calls Tryz.prog 86 #[.pointer (some ⟨R,0,none⟩),UL ro co] w fun e w'=>e=.returned (.bool (Zz ro co nums s).isSome)/\Below w.heap.size w w':=by
 have hvb:vn<=100000:=Nat.le_trans h.st.len htot;obtain⟨l1,l2⟩:=h.lo;rw[Zc3 ro co nums s hro];obtain⟨pre,cur⟩:=s;cases cur with
 | none=>exact UO R wd V va 0 vn vc false none 0 0 ro co w (Xa h.rd) (by omega) (by omega) hro (Xa (fun q=>absurd q (by decide)))
 | some pi =>
  obtain⟨ps,is⟩:=pi;obtain⟨H,G,pa,pc,ia,ic,e1,e2,hbo⟩:=h.st;obtain⟨⟨_,lG⟩,_,lH⟩:=hbo.lo;dsimp only at e2;exact UO R wd V va G vn vc true ia is.length ic ro co w (Xa h.rd) (by omega) (by omega) hro (Xa (fun _=>⟨e1,by omega,by omega,by rw[e2,Nat.add_sub_cancel];exact hbo.c1⟩))
theorem Ka(nr g:Nat):nr=0\/(if nr=0 then some (⟨g,0,none⟩:Addr)else some ⟨g,1,none⟩)=some ⟨g,1,none⟩:=by
 by_cases h:nr=0
 ·exact Or.inl h
 ·exact Or.inr (if_neg h)
theorem Zg3(line:List UInt8):0<(cutS line 32).length:=by unfold cutS;rw[Zv];omega
theorem ZaB(R M:Nat)(V:Int)(B0:Nat)(s:K5)(va:Option Addr)(vn vc b o n c:Nat)(line:List UInt8)(w:World)(h:Hid (Vd w R (.map (some M)) V B0 s va vn vc))(hM:Hid (M<w.heap.size/\w.ownsMap Tryz.prog 9 ZY M 15 (wdT 3)))(ht:Hid (Ym w))(ht2:Hid (XR w))(hm:Hid (Ti w))(htot:Hid (Yh s<=100000))
 (hx:Hid (n=line.length)) (hnc:n<=c) (hc:c<=9223372036854775807) (hn:n<=100000) (ha:Hid (∀i (h:i<line.length),w.cell? ⟨b,o+i,none⟩=some (.int .u8 (line[i].toNat:Int)))) (hb:b<w.heap.size) :
 Calls Tryz.prog 66 #[.pointer (some ⟨R,0,none⟩),.slice (some ⟨b,o,none⟩) n c] w fun e w'=>Zdo w w' R (.map (some M)) V B0 s line e:=by
 obtain⟨lo1,lo2⟩:=h.lo;have HSF:=Xa (K1 b o n c line w hx hnc hc (by omega) ha hm hb);have HFS:Hid (∀f∈cutS line 32,f.length<=1000000):=Xa (fun f hf=>by have:=KD 32 line [] f hf;simp only[List.length_nil]at this;have:=hx.out;omega);have HLEN:Hid ((cutS line 32).length<=100001):=Xa (by unfold cutS;rw[Zv];have:=List.count_le_length (a:=(32:UInt8)) (l:=line);have:=hx.out;omega);cases hall:(cutS line 32).all Xt with
 | false =>
  have HP:Hid (XZ s line=.bad 4):=Xa (by unfold XZ fieldsS;rw[hall];rfl);clear h hM ht ht2 hm htot hx ha HFS HLEN
  go_enter Tryz.func66,Tryz.ntmps66
  go_wp2_with (go_at_call 64;refine HSF.mono ?_;rintro e w3 ⟨hb3,_,hno⟩;rw[hno hall];have HB3:=Xa hb3;clear hno hb3)
  go_ret
  exact Jd HB3.out lo2 HP.out (by decide)
 | true =>
  have HFF:Hid (fieldsS line=cutS line 32):=Xa (by unfold fieldsS;rw[if_pos hall]);obtain⟨F,r,hFr⟩:∃F r,cutS line 32=F::r:=by
   have:=Zg3 line
   match hcs:cutS line 32,this with
   | F::r,_=>exact⟨F,r,rfl⟩
  rw[hFr]at HSF HFS HLEN HFF hall;have HFL:Hid (F.length<=1000000):=Xa (HFS.out F (List.mem_cons_self ..));obtain⟨nr,hnr⟩:∃nr,r.length=nr:=⟨_,rfl⟩;have HNR:=Xa hnr;have hnrl:nr<=100000:=by have:=HLEN.out;rw[List.length_cons]at this;omega
  have HLC:=Xa (ZdE F r);have HST:=Xa (fun ro co=>ZdG s F r ro co);have HWL:=Xa (Wy F nr);rw[hnr]at HLC HST;have HLP0:Hid (XQ (F::r)≠0->XZ s line=.bad (XQ (F::r))):=Xa (fun q=>by unfold XZ;rw[HFF.out,if_neg (by simp),if_pos q]);have HLP1:Hid (∀o,XQ (F::r)=0->Tp s (F::r)=o->XZ s line=(match o with | none=>.bad 8 | some s'=>.ok s')):=Xa (fun o q e=>by unfold XZ;rw[HFF.out,if_neg (by simp),if_neg (fun h=>h q),e];cases o<;>rfl)
  have hRl:R<w.heap.size:=by omega
  clear hnr hFr HLEN;have HLK:Hid (∀w3 g v,Below w.heap.size w w3->w3.cell? ⟨g,0,none⟩=some v->Kr w3 b v F->g<w3.heap.size->∃o1 c1,v=.slice (some ⟨b,o1,none⟩) F.length c1/\∀W,Below w3.heap.size w3 W->W.cell? ⟨R,0,none⟩=some (.map (some M))/\W.cell? ⟨g,0,none⟩=some (.slice (some ⟨b,o1,none⟩) F.length c1)/\(convert 22 9 (.slice (some ⟨b,o1,none⟩) F.length c1)).run Tryz.prog W=.ok (.string (Xs F)) W/\(Instr.lookup 93 (.map (some M)) (.string (Xs F)) true).run Tryz.prog W=.ok (match ZD F with | some (r,c)=>.tuple #[UL r c,.bool true] | none=>.tuple #[UL 0 0,.bool false]) W):=Xa (fun w3 g v k3 hcv hpv hg=>by
   have hs3:=k3.size;obtain⟨o1,c1,rfl,hle,hcells⟩:=hpv;refine⟨o1,c1,rfl,fun W hW=>⟨?_,(hW.cell (p:=⟨g,0,none⟩) hg).trans hcv,JX W b o1 c1 F (fun j hj=>(hW.cell (p:=⟨b,o1+j,none⟩) (by show b<_;omega)).trans (hcells j hj)),Zct W M ?_ F HFL.out⟩⟩
   ·exact(hW.cell (p:=⟨R,0,none⟩) (by show R<_;omega)).trans ((k3.cell (p:=⟨R,0,none⟩) hRl).trans h.rd.words)
   ·obtain⟨es,ck,hbk,rest⟩:=hM.2
    exact⟨es,ck,((hW.block M (by have:=hM.1;omega)).trans (k3.block M hM.1)).trans hbk,rest⟩)
  have hp1:(1:Int)<=(nr:Int)+1:=by omega
  have hp2:(0:Int)<(nr:Int)+1:=by omega
  cases hwo:ZD F with
  | none =>
   have e5:XQ (F::r)=5:=by have:=HLC.out;rw[hwo]at this;exact this
   have HP:Hid (XZ s line=.bad 5):=Xa (by rw[HLP0.out (by rw[e5];decide),e5]);rw[hwo]at HLK;dsimp only at HLK;unfold UL at HLK;clear h hM ht ht2 hm htot hx ha HFS HLC HST HWL HLP0 HLP1 e5 hwo
   go_enter Tryz.func66,Tryz.ntmps66
   go_wp2_with (go_at_call 64;refine HSF.mono ?_;rintro e w3 ⟨hb3,hyes,_⟩;obtain⟨g,k,hg,hk,rfl,hpc⟩:=hyes hall;have hk':k=nr+1:=(by rw[hk,List.length_cons,HNR.out]);subst hk';obtain⟨v0,hv0,hp0⟩:=hpc.2 0 (by simp);obtain⟨o1,c1,rfl,hlw⟩:=HLK.out w3 g v0 hb3 hv0 hp0 hpc.1;have HLW:=Xa hlw;have HB3:=Xa hb3;have HPC:=Xa hpc;have hs3:=hb3.size;have hgl:=hpc.1;clear hyes hb3 hpc hv0 hp0 hlw hk)
   refine wp_region_held_drew (S:=(fun w'=>Hid (Below w3.heap.size w3 w'))) (by kernel_rfl) (Xa (by first | exact(Below.refl _ _).drew | exact Below.refl _ _)) (fun hHeld=>?_);refine wpAnyH_take (i:=0) (v:=?_) rfl (by kernel_rfl) (by kernel_rfl) (by kernel_rfl) (fun _ _ _ h=>h) (Or.inl ⟨by rfl,?_⟩) (by assumption) ?_;rotate_left
   ·intro w hSw;(try dsimp only at hSw);obtain⟨c0,cg,hcv,hlk⟩:=HLW.out w hSw.out;go_simp;try with_reducible rfl
   simp only[Act.put,xA,xB,xD,xE,xF];refine wpAnyH_take (i:=1) (v:=?_) rfl (by kernel_rfl) (by kernel_rfl) (by kernel_rfl) (fun _ _ _ h=>h) (Or.inl ⟨by rfl,?_⟩) (by assumption) ?_;rotate_left
   ·intro w hSw;(try dsimp only at hSw);obtain⟨c0,cg,hcv,hlk⟩:=HLW.out w hSw.out;go_simp;try with_reducible rfl
   simp only[Act.put,xA,xB,xC,xD,xE,xF];refine wpAnyH_take (i:=2) (v:=?_) rfl (by kernel_rfl) (by kernel_rfl) (by kernel_rfl) (fun _ _ _ h=>h) (Or.inl ⟨by rfl,?_⟩) (by assumption) ?_;rotate_left
   ·intro w hSw;(try dsimp only at hSw);obtain⟨c0,cg,hcv,hlk⟩:=HLW.out w hSw.out;go_simp;try with_reducible rfl
   simp only[Act.put,xA,xB,xC,xD,xE,xF];refine wpAnyH_take (i:=3) (v:=?_) rfl (by kernel_rfl) (by kernel_rfl) (by kernel_rfl) (fun _ _ _ h=>h) (Or.inl ⟨by rfl,?_⟩) (by assumption) ?_;rotate_left
   ·intro w hSw;(try dsimp only at hSw);obtain⟨c0,cg,hcv,hlk⟩:=HLW.out w hSw.out;go_simp;try with_reducible rfl
   simp only[Act.put,xA,xB,xC,xD,xE,xF];refine wpAnyH_take (i:=4) (v:=?_) rfl (by kernel_rfl) (by kernel_rfl) (by kernel_rfl) (fun _ _ _ h=>h) (Or.inl ⟨by rfl,?_⟩) (by assumption) ?_;rotate_left
   ·intro w hSw;(try dsimp only at hSw);obtain⟨c0,cg,hcv,hlk⟩:=HLW.out w hSw.out;go_simp;try with_reducible rfl
   simp only[Act.put,xA,xB,xC,xD,xE,xF];refine wpAnyH_take (i:=5) (v:=?_) rfl (by kernel_rfl) (by kernel_rfl) (by kernel_rfl) (fun _ _ _ h=>h) (Or.inl ⟨by rfl,?_⟩) (by assumption) ?_;rotate_left
   ·intro w hSw;(try dsimp only at hSw);obtain⟨c0,cg,hcv,hlk⟩:=HLW.out w hSw.out;go_simp;try with_reducible rfl
   simp only[Act.put,xA,xB,xC,xD,xE,xF];refine wpAnyH_take (i:=6) (v:=?_) rfl (by kernel_rfl) (by kernel_rfl) (by kernel_rfl) (fun _ _ _ h=>h) (Or.inl ⟨by rfl,?_⟩) (by assumption) ?_;rotate_left
   ·intro w hSw;(try dsimp only at hSw);obtain⟨c0,cg,hcv,hlk⟩:=HLW.out w hSw.out;go_simp;try with_reducible rfl
   simp only[Act.put,xA,xB,xC,xD,xE,xF];refine wpAnyH_take (i:=7) (v:=?_) rfl (by kernel_rfl) (by kernel_rfl) (by kernel_rfl) (fun _ _ _ h=>h) (Or.inl ⟨by rfl,?_⟩) (by assumption) ?_;rotate_left
   ·intro w hSw;(try dsimp only at hSw);obtain⟨c0,cg,hcv,hlk⟩:=HLW.out w hSw.out;go_simp;try with_reducible rfl
   simp only[Act.put,xA,xB,xC,xD,xE,xF];refine wpAnyH_take (i:=8) (v:=?_) rfl (by kernel_rfl) (by kernel_rfl) (by kernel_rfl) (fun _ _ _ h=>h) (Or.inl ⟨by rfl,?_⟩) (by assumption) ?_;rotate_left
   ·intro w hSw;(try dsimp only at hSw);obtain⟨c0,cg,hcv,hlk⟩:=HLW.out w hSw.out;go_simp;try with_reducible rfl
   simp only[Act.put,xA,xB,xC,xD,xE,xF];refine wpAnyH_take (i:=9) (v:=?_) rfl (by kernel_rfl) (by kernel_rfl) (by kernel_rfl) (fun _ _ _ h=>h) (Or.inl ⟨by rfl,?_⟩) (by assumption) ?_;rotate_left
   ·intro w hSw;(try dsimp only at hSw);obtain⟨c0,cg,hcv,hlk⟩:=HLW.out w hSw.out;go_simp;try with_reducible rfl
   simp only[Act.put,xA,xB,xC,xD,xE,xF];refine wpAnyH_take (i:=10) (v:=?_) rfl (by kernel_rfl) (by kernel_rfl) (by kernel_rfl) (fun _ _ _ h=>h) (Or.inl ⟨by rfl,?_⟩) (by assumption) ?_;rotate_left
   ·intro w hSw;(try dsimp only at hSw);obtain⟨c0,cg,hcv,hlk⟩:=HLW.out w hSw.out;go_simp;try with_reducible rfl
   simp only[Act.put,xA,xB,xC,xD,xE,xF];refine wpAnyH_take (i:=11) (v:=?_) rfl (by kernel_rfl) (by kernel_rfl) (by kernel_rfl) (fun _ _ _ h=>h) (Or.inl ⟨by rfl,?_⟩) (by assumption) ?_;rotate_left
   ·intro w hSw;(try dsimp only at hSw);obtain⟨c0,cg,hcv,hlk⟩:=HLW.out w hSw.out;go_simp;try with_reducible rfl
   simp only[Act.put,xA,xB,xC,xD,xE,xF];refine Xw 12 (fun K hK=>?_);go_simp;refine hK _ _ (by first | exact Xa (Xb (Below.refl _ _) _).drew | exact Xa ((Xb (Below.refl _ _) _).setCell (Nat.le_refl _) _).drew | exact Xa (Xb (Below.refl _ _) _)) (fun hHeld=>?_);clear hK;refine Xw 13 (fun K hK=>?_);go_simp;refine hK _ _ (by first | exact Xa (Xb (Below.refl _ _) _).drew | exact Xa ((Xb (Below.refl _ _) _).setCell (Nat.le_refl _) _).drew | exact Xa (Xb (Below.refl _ _) _)) (fun hHeld=>?_);clear hK;refine wpAnyH_take (i:=14) (v:=?_) rfl (by kernel_rfl) (by kernel_rfl) (by kernel_rfl) (fun _ _ _ h=>h) (Or.inl ⟨by rfl,?_⟩) (by assumption) ?_;rotate_left
   ·intro w hSw;(try dsimp only at hSw);obtain⟨c0,cg,hcv,hlk⟩:=HLW.out w hSw.out;go_simp;try with_reducible rfl
   simp only[Act.put,xA,xB,xC,xD,xE,xF];refine Y7 ?_;go_wp2
   go_ret
   exact Jd (HB3.trans ((Xb (Below.refl _ _) _).drew.mono hs3)) lo2 HP.out (by decide)
  | some rc =>
   obtain⟨ro,co⟩:=rc;have hwl:=HWL.out;have hlc:=HLC.out;rw[hwo]at hwl hlc;dsimp only at hwl hlc;obtain⟨_,_,_,hro,hci,hct⟩:=hwl;have HLC2:=Xa hlc;have HST2:=Xa (HST.out ro co hwo);have HCI:=Xa hci;have HCT:=Xa hct;clear hlc hci hct HWL HLC HST;rw[hwo]at HLK;dsimp only at HLK;unfold UL at HLK;have HTK:Hid (∀W,Below w.heap.size w W->Calls Tryz.prog 84 #[.agg #[.int .i64 ro,.int .i64 co],.int .i64 nr] W fun e w'=>e=.returned (.bool (Yy ro co nr))/\Below W.heap.size W w'):=Xa (fun W hW=>ZdJ ro co nr W hro (by omega) HCI.out HCT.out (Xa (ht.keep hW ht.1)) (Xa (ht2.keep hW ht2.1)));cases htk:Yy ro co nr with
   | false =>
    have e6:XQ (F::r)=6:=by have:=HLC2.out;rw[htk]at this;exact this
    have HP:Hid (XZ s line=.bad 6):=Xa (by rw[HLP0.out (by rw[e6];decide),e6]);rw[htk]at HTK;clear h hM ht ht2 hm htot hx ha HFS HLP0 HLP1 e6 hwo HLC2 HST2 HCI HCT
    go_enter Tryz.func66,Tryz.ntmps66
    go_wp2_with (go_at_call 64;refine HSF.mono ?_;rintro e w3 ⟨hb3,hyes,_⟩;obtain⟨g,k,hg,hk,rfl,hpc⟩:=hyes hall;have hk':k=nr+1:=(by rw[hk,List.length_cons,HNR.out]);subst hk';obtain⟨v0,hv0,hp0⟩:=hpc.2 0 (by simp);obtain⟨o1,c1,rfl,hlw⟩:=HLK.out w3 g v0 hb3 hv0 hp0 hpc.1;have HLW:=Xa hlw;have HB3:=Xa hb3;have HPC:=Xa hpc;have hs3:=hb3.size;have hgl:=hpc.1;clear hyes hb3 hpc hv0 hp0 hlw hk)
    refine wp_region_held_drew (S:=(fun w'=>Hid (Below w3.heap.size w3 w'))) (by kernel_rfl) (Xa (by first | exact(Below.refl _ _).drew | exact Below.refl _ _)) (fun hHeld=>?_);refine wpAnyH_take (i:=0) (v:=?_) rfl (by kernel_rfl) (by kernel_rfl) (by kernel_rfl) (fun _ _ _ h=>h) (Or.inl ⟨by rfl,?_⟩) (by assumption) ?_;rotate_left
    ·intro w hSw;(try dsimp only at hSw);obtain⟨c0,cg,hcv,hlk⟩:=HLW.out w hSw.out;go_simp;try with_reducible rfl
    simp only[Act.put,xA,xB,xD,xE,xF];refine wpAnyH_take (i:=1) (v:=?_) rfl (by kernel_rfl) (by kernel_rfl) (by kernel_rfl) (fun _ _ _ h=>h) (Or.inl ⟨by rfl,?_⟩) (by assumption) ?_;rotate_left
    ·intro w hSw;(try dsimp only at hSw);obtain⟨c0,cg,hcv,hlk⟩:=HLW.out w hSw.out;go_simp;try with_reducible rfl
    simp only[Act.put,xA,xB,xC,xD,xE,xF];refine wpAnyH_take (i:=2) (v:=?_) rfl (by kernel_rfl) (by kernel_rfl) (by kernel_rfl) (fun _ _ _ h=>h) (Or.inl ⟨by rfl,?_⟩) (by assumption) ?_;rotate_left
    ·intro w hSw;(try dsimp only at hSw);obtain⟨c0,cg,hcv,hlk⟩:=HLW.out w hSw.out;go_simp;try with_reducible rfl
    simp only[Act.put,xA,xB,xC,xD,xE,xF];refine wpAnyH_take (i:=3) (v:=?_) rfl (by kernel_rfl) (by kernel_rfl) (by kernel_rfl) (fun _ _ _ h=>h) (Or.inl ⟨by rfl,?_⟩) (by assumption) ?_;rotate_left
    ·intro w hSw;(try dsimp only at hSw);obtain⟨c0,cg,hcv,hlk⟩:=HLW.out w hSw.out;go_simp;try with_reducible rfl
    simp only[Act.put,xA,xB,xC,xD,xE,xF];refine wpAnyH_take (i:=4) (v:=?_) rfl (by kernel_rfl) (by kernel_rfl) (by kernel_rfl) (fun _ _ _ h=>h) (Or.inl ⟨by rfl,?_⟩) (by assumption) ?_;rotate_left
    ·intro w hSw;(try dsimp only at hSw);obtain⟨c0,cg,hcv,hlk⟩:=HLW.out w hSw.out;go_simp;try with_reducible rfl
    simp only[Act.put,xA,xB,xC,xD,xE,xF];refine wpAnyH_take (i:=5) (v:=?_) rfl (by kernel_rfl) (by kernel_rfl) (by kernel_rfl) (fun _ _ _ h=>h) (Or.inl ⟨by rfl,?_⟩) (by assumption) ?_;rotate_left
    ·intro w hSw;(try dsimp only at hSw);obtain⟨c0,cg,hcv,hlk⟩:=HLW.out w hSw.out;go_simp;try with_reducible rfl
    simp only[Act.put,xA,xB,xC,xD,xE,xF];refine wpAnyH_take (i:=6) (v:=?_) rfl (by kernel_rfl) (by kernel_rfl) (by kernel_rfl) (fun _ _ _ h=>h) (Or.inl ⟨by rfl,?_⟩) (by assumption) ?_;rotate_left
    ·intro w hSw;(try dsimp only at hSw);obtain⟨c0,cg,hcv,hlk⟩:=HLW.out w hSw.out;go_simp;try with_reducible rfl
    simp only[Act.put,xA,xB,xC,xD,xE,xF];refine wpAnyH_take (i:=7) (v:=?_) rfl (by kernel_rfl) (by kernel_rfl) (by kernel_rfl) (fun _ _ _ h=>h) (Or.inl ⟨by rfl,?_⟩) (by assumption) ?_;rotate_left
    ·intro w hSw;(try dsimp only at hSw);obtain⟨c0,cg,hcv,hlk⟩:=HLW.out w hSw.out;go_simp;try with_reducible rfl
    simp only[Act.put,xA,xB,xC,xD,xE,xF];refine wpAnyH_take (i:=8) (v:=?_) rfl (by kernel_rfl) (by kernel_rfl) (by kernel_rfl) (fun _ _ _ h=>h) (Or.inl ⟨by rfl,?_⟩) (by assumption) ?_;rotate_left
    ·intro w hSw;(try dsimp only at hSw);obtain⟨c0,cg,hcv,hlk⟩:=HLW.out w hSw.out;go_simp;try with_reducible rfl
    simp only[Act.put,xA,xB,xC,xD,xE,xF];refine wpAnyH_take (i:=9) (v:=?_) rfl (by kernel_rfl) (by kernel_rfl) (by kernel_rfl) (fun _ _ _ h=>h) (Or.inl ⟨by rfl,?_⟩) (by assumption) ?_;rotate_left
    ·intro w hSw;(try dsimp only at hSw);obtain⟨c0,cg,hcv,hlk⟩:=HLW.out w hSw.out;go_simp;try with_reducible rfl
    simp only[Act.put,xA,xB,xC,xD,xE,xF];refine wpAnyH_take (i:=10) (v:=?_) rfl (by kernel_rfl) (by kernel_rfl) (by kernel_rfl) (fun _ _ _ h=>h) (Or.inl ⟨by rfl,?_⟩) (by assumption) ?_;rotate_left
    ·intro w hSw;(try dsimp only at hSw);obtain⟨c0,cg,hcv,hlk⟩:=HLW.out w hSw.out;go_simp;try with_reducible rfl
    simp only[Act.put,xA,xB,xC,xD,xE,xF];refine wpAnyH_take (i:=11) (v:=?_) rfl (by kernel_rfl) (by kernel_rfl) (by kernel_rfl) (fun _ _ _ h=>h) (Or.inl ⟨by rfl,?_⟩) (by assumption) ?_;rotate_left
    ·intro w hSw;(try dsimp only at hSw);obtain⟨c0,cg,hcv,hlk⟩:=HLW.out w hSw.out;go_simp;try with_reducible rfl
    simp only[Act.put,xA,xB,xC,xD,xE,xF];refine Xw 12 (fun K hK=>?_);go_simp;refine hK _ _ (by first | exact Xa (Xb (Below.refl _ _) _).drew | exact Xa ((Xb (Below.refl _ _) _).setCell (Nat.le_refl _) _).drew | exact Xa (Xb (Below.refl _ _) _)) (fun hHeld=>?_);clear hK;refine Xw 13 (fun K hK=>?_);go_simp;refine hK _ _ (by first | exact Xa (Xb (Below.refl _ _) _).drew | exact Xa ((Xb (Below.refl _ _) _).setCell (Nat.le_refl _) _).drew | exact Xa (Xb (Below.refl _ _) _)) (fun hHeld=>?_);clear hK;refine wpAnyH_take (i:=14) (v:=?_) rfl (by kernel_rfl) (by kernel_rfl) (by kernel_rfl) (fun _ _ _ h=>h) (Or.inl ⟨by rfl,?_⟩) (by assumption) ?_;rotate_left
    ·intro w hSw;(try dsimp only at hSw);obtain⟨c0,cg,hcv,hlk⟩:=HLW.out w hSw.out;go_simp;try with_reducible rfl
    simp only[Act.put,xA,xB,xC,xD,xE,xF];refine Y7 ?_
    go_wp2_with (go_at_call 84;refine(HTK.out _ (HB3.trans ((Xb (Below.refl _ _) _).drew.mono hs3))).mono ?_;rintro e w5 ⟨rfl,hb5⟩;have HB5:=Xa hb5;clear hb5)
    go_ret
    exact Jd (Xi (HB3.trans ((Xb (Below.refl _ _) _).drew.mono hs3)) HB5.out) lo2 HP.out (by decide)
   | true =>
    have HRN:Hid (∀w3 g W fa,Below w.heap.size w w3->Zk w3 b g (F::r)->Below w3.heap.size w3 W->(nr=0\/fa=some ⟨g,1,none⟩)->Calls Tryz.prog 85 #[.agg #[.int .i64 ro,.int .i64 co],.slice fa nr nr] W fun e w'=>Below W.heap.size W w'/\Zas W.heap.size w' (conAt ro co nr) r e):=Xa (fun w3 g W fa k3 hp kW hfa=>Vi ro co nr nr b W.heap.size fa r W (Xa HNR.symm) (by omega) (by have:=k3.size;have:=kW.size;omega) (Nat.le_refl _) (Xa (fun i hi=>by
     have:=k3.size;have:=kW.size;have hg:=hp.1;have hr0:=HNR.out;rcases hfa with h0 | rfl
     ·omega
     ·obtain⟨v,hv,hpv⟩:=hp.2 (i+1) (by rw[List.length_cons];omega)
      rw[List.getElem_cons_succ]at hpv;exact⟨g,1,v,rfl,by omega,by rw[Nat.add_comm 1 i];exact(kW.cell (p:=⟨g,i+1,none⟩) hg).trans hv,hpv.keep (kW.block b (by omega))⟩)) (Xa (fun f hf=>HFS.out f (List.mem_cons_of_mem _ hf))))
    have HQ:Hid (∀w3 W,Below (w3.alloc (.cells #[.int .i64 ro,.int .i64 co] 128)).drew.heap.size (w3.alloc (.cells #[.int .i64 ro,.int .i64 co] 128)).drew W->Below w3.heap.size w3 W/\W.cell? ⟨w3.heap.size,0,none⟩=some (.int .i64 ro)/\W.cell? ⟨w3.heap.size,1,none⟩=some (.int .i64 co)):=Xa (fun w3 W k=>by
     have hs:w3.heap.size<(w3.alloc (.cells #[.int .i64 ro,.int .i64 co] 128)).drew.heap.size:=by show _<(w3.alloc _).heap.size;rw[World.size_alloc];omega
     exact⟨Xi (Xb (Below.refl _ _) _).drew k,(k.cell (p:=⟨w3.heap.size,0,none⟩) hs).trans (by simp),(k.cell (p:=⟨w3.heap.size,1,none⟩) hs).trans (by simp)⟩)
    rw[htk]at HTK;cases hok:YO (conAt ro co nr) 0 r with
    | false =>
     have e7:XQ (F::r)=7:=by have:=HLC2.out;rw[htk,hok]at this;exact this
     have HP:Hid (XZ s line=.bad 7):=Xa (by rw[HLP0.out (by rw[e7];decide),e7]);clear h hM ht ht2 hm htot hx ha HFS HLP0 HLP1 e7 hwo HLC2 HST2 HCI HCT
     go_enter Tryz.func66,Tryz.ntmps66
     go_wp2_with (go_at_call 64;refine HSF.mono ?_;rintro e w3 ⟨hb3,hyes,_⟩;obtain⟨g,k,hg,hk,rfl,hpc⟩:=hyes hall;have hk':k=nr+1:=(by rw[hk,List.length_cons,HNR.out]);subst hk';obtain⟨v0,hv0,hp0⟩:=hpc.2 0 (by simp);obtain⟨o1,c1,rfl,hlw⟩:=HLK.out w3 g v0 hb3 hv0 hp0 hpc.1;have HLW:=Xa hlw;have HB3:=Xa hb3;have HPC:=Xa hpc;have hs3:=hb3.size;have hgl:=hpc.1;clear hyes hb3 hpc hv0 hp0 hlw hk)
     refine wp_region_held_drew (S:=(fun w'=>Hid (Below w3.heap.size w3 w'))) (by kernel_rfl) (Xa (by first | exact(Below.refl _ _).drew | exact Below.refl _ _)) (fun hHeld=>?_);refine wpAnyH_take (i:=0) (v:=?_) rfl (by kernel_rfl) (by kernel_rfl) (by kernel_rfl) (fun _ _ _ h=>h) (Or.inl ⟨by rfl,?_⟩) (by assumption) ?_;rotate_left
     ·intro w hSw;(try dsimp only at hSw);obtain⟨c0,cg,hcv,hlk⟩:=HLW.out w hSw.out;go_simp;try with_reducible rfl
     simp only[Act.put,xA,xB,xD,xE,xF];refine wpAnyH_take (i:=1) (v:=?_) rfl (by kernel_rfl) (by kernel_rfl) (by kernel_rfl) (fun _ _ _ h=>h) (Or.inl ⟨by rfl,?_⟩) (by assumption) ?_;rotate_left
     ·intro w hSw;(try dsimp only at hSw);obtain⟨c0,cg,hcv,hlk⟩:=HLW.out w hSw.out;go_simp;try with_reducible rfl
     simp only[Act.put,xA,xB,xC,xD,xE,xF];refine wpAnyH_take (i:=2) (v:=?_) rfl (by kernel_rfl) (by kernel_rfl) (by kernel_rfl) (fun _ _ _ h=>h) (Or.inl ⟨by rfl,?_⟩) (by assumption) ?_;rotate_left
     ·intro w hSw;(try dsimp only at hSw);obtain⟨c0,cg,hcv,hlk⟩:=HLW.out w hSw.out;go_simp;try with_reducible rfl
     simp only[Act.put,xA,xB,xC,xD,xE,xF];refine wpAnyH_take (i:=3) (v:=?_) rfl (by kernel_rfl) (by kernel_rfl) (by kernel_rfl) (fun _ _ _ h=>h) (Or.inl ⟨by rfl,?_⟩) (by assumption) ?_;rotate_left
     ·intro w hSw;(try dsimp only at hSw);obtain⟨c0,cg,hcv,hlk⟩:=HLW.out w hSw.out;go_simp;try with_reducible rfl
     simp only[Act.put,xA,xB,xC,xD,xE,xF];refine wpAnyH_take (i:=4) (v:=?_) rfl (by kernel_rfl) (by kernel_rfl) (by kernel_rfl) (fun _ _ _ h=>h) (Or.inl ⟨by rfl,?_⟩) (by assumption) ?_;rotate_left
     ·intro w hSw;(try dsimp only at hSw);obtain⟨c0,cg,hcv,hlk⟩:=HLW.out w hSw.out;go_simp;try with_reducible rfl
     simp only[Act.put,xA,xB,xC,xD,xE,xF];refine wpAnyH_take (i:=5) (v:=?_) rfl (by kernel_rfl) (by kernel_rfl) (by kernel_rfl) (fun _ _ _ h=>h) (Or.inl ⟨by rfl,?_⟩) (by assumption) ?_;rotate_left
     ·intro w hSw;(try dsimp only at hSw);obtain⟨c0,cg,hcv,hlk⟩:=HLW.out w hSw.out;go_simp;try with_reducible rfl
     simp only[Act.put,xA,xB,xC,xD,xE,xF];refine wpAnyH_take (i:=6) (v:=?_) rfl (by kernel_rfl) (by kernel_rfl) (by kernel_rfl) (fun _ _ _ h=>h) (Or.inl ⟨by rfl,?_⟩) (by assumption) ?_;rotate_left
     ·intro w hSw;(try dsimp only at hSw);obtain⟨c0,cg,hcv,hlk⟩:=HLW.out w hSw.out;go_simp;try with_reducible rfl
     simp only[Act.put,xA,xB,xC,xD,xE,xF];refine wpAnyH_take (i:=7) (v:=?_) rfl (by kernel_rfl) (by kernel_rfl) (by kernel_rfl) (fun _ _ _ h=>h) (Or.inl ⟨by rfl,?_⟩) (by assumption) ?_;rotate_left
     ·intro w hSw;(try dsimp only at hSw);obtain⟨c0,cg,hcv,hlk⟩:=HLW.out w hSw.out;go_simp;try with_reducible rfl
     simp only[Act.put,xA,xB,xC,xD,xE,xF];refine wpAnyH_take (i:=8) (v:=?_) rfl (by kernel_rfl) (by kernel_rfl) (by kernel_rfl) (fun _ _ _ h=>h) (Or.inl ⟨by rfl,?_⟩) (by assumption) ?_;rotate_left
     ·intro w hSw;(try dsimp only at hSw);obtain⟨c0,cg,hcv,hlk⟩:=HLW.out w hSw.out;go_simp;try with_reducible rfl
     simp only[Act.put,xA,xB,xC,xD,xE,xF];refine wpAnyH_take (i:=9) (v:=?_) rfl (by kernel_rfl) (by kernel_rfl) (by kernel_rfl) (fun _ _ _ h=>h) (Or.inl ⟨by rfl,?_⟩) (by assumption) ?_;rotate_left
     ·intro w hSw;(try dsimp only at hSw);obtain⟨c0,cg,hcv,hlk⟩:=HLW.out w hSw.out;go_simp;try with_reducible rfl
     simp only[Act.put,xA,xB,xC,xD,xE,xF];refine wpAnyH_take (i:=10) (v:=?_) rfl (by kernel_rfl) (by kernel_rfl) (by kernel_rfl) (fun _ _ _ h=>h) (Or.inl ⟨by rfl,?_⟩) (by assumption) ?_;rotate_left
     ·intro w hSw;(try dsimp only at hSw);obtain⟨c0,cg,hcv,hlk⟩:=HLW.out w hSw.out;go_simp;try with_reducible rfl
     simp only[Act.put,xA,xB,xC,xD,xE,xF];refine wpAnyH_take (i:=11) (v:=?_) rfl (by kernel_rfl) (by kernel_rfl) (by kernel_rfl) (fun _ _ _ h=>h) (Or.inl ⟨by rfl,?_⟩) (by assumption) ?_;rotate_left
     ·intro w hSw;(try dsimp only at hSw);obtain⟨c0,cg,hcv,hlk⟩:=HLW.out w hSw.out;go_simp;try with_reducible rfl
     simp only[Act.put,xA,xB,xC,xD,xE,xF];refine Xw 12 (fun K hK=>?_);go_simp;refine hK _ _ (by first | exact Xa (Xb (Below.refl _ _) _).drew | exact Xa ((Xb (Below.refl _ _) _).setCell (Nat.le_refl _) _).drew | exact Xa (Xb (Below.refl _ _) _)) (fun hHeld=>?_);clear hK;refine Xw 13 (fun K hK=>?_);go_simp;refine hK _ _ (by first | exact Xa (Xb (Below.refl _ _) _).drew | exact Xa ((Xb (Below.refl _ _) _).setCell (Nat.le_refl _) _).drew | exact Xa (Xb (Below.refl _ _) _)) (fun hHeld=>?_);clear hK;refine wpAnyH_take (i:=14) (v:=?_) rfl (by kernel_rfl) (by kernel_rfl) (by kernel_rfl) (fun _ _ _ h=>h) (Or.inl ⟨by rfl,?_⟩) (by assumption) ?_;rotate_left
     ·intro w hSw;(try dsimp only at hSw);obtain⟨c0,cg,hcv,hlk⟩:=HLW.out w hSw.out;go_simp;try with_reducible rfl
     simp only[Act.put,xA,xB,xC,xD,xE,xF];refine Y7 ?_
     go_wp2_with (go_at_call 84;refine(HTK.out _ (HB3.trans ((Xb (Below.refl _ _) _).drew.mono hs3))).mono ?_;rintro e w5 ⟨rfl,hb5⟩;have HB5:=Xa hb5;obtain⟨hc5,q0,q1⟩:=HQ.out w3 w5 hb5;have HC5:=Xa hc5;have hs5:=hc5.size;clear hb5 hc5)
     refine YZ (fun w'=>w'.cell? ⟨w3.heap.size,0,none⟩=some (.int .i64 ro)/\w'.cell? ⟨w3.heap.size,1,none⟩=some (.int .i64 co)) (fun hHeld=>?_);refine Xl 0 ?_;refine Xl 1 ?_;refine Xl 2 ?_;refine Xw 3 (fun K hK=>?_);go_simp;refine(HRN.out w3 g _ _ HB3.out HPC.out HC5.drew (Ka _ _)).mono ?_;rintro e w6 ⟨hb6,hans⟩;have HB6:=Xa (Xi HB5.drew hb6);obtain⟨hc6,p0,p1⟩:=HQ.out w3 w6 HB6.out;have HC6:=Xa hc6;have hs6:=hc6.size;have hle6:=hb6.size;rw[hans.2 hok];clear hb6 hc6 hans;refine hK _ _ (by first | with_reducible exact hHeld | ((try dsimp only);go_keep)) (fun hHeld=>?_);clear hK;refine Xl 4 ?_;refine Xl 5 ?_;refine Xl 6 ?_;refine Xl 7 ?_;refine Xl 8 ?_;refine Y7 ?_;go_wp2
     all_goals
      go_ret
      exact Jd (Xi HB3.out HC6.out) lo2 HP.out (by decide)
    | true =>
     have e0:XQ (F::r)=0:=by have:=HLC2.out;rw[htk,hok]at this;exact this
     have HVL:Hid ((Y9 (conAt ro co nr) 0 r).length=nr):=Xa (by rw[WT,HNR.out]);have hst:=HST2.out htk hok;generalize hnums:Y9 (conAt ro co nr) 0 r=nums at *;have HNU:=Xa hnums;have HIP:Hid (∀W,Below w.heap.size w W->Calls Tryz.prog 86 #[.pointer (some ⟨R,0,none⟩),.agg #[.int .i64 ro,.int .i64 co]] W fun e w'=>e=.returned (.bool (Zz ro co nums s).isSome)/\Below W.heap.size W w'):=Xa (fun W hW=>Zcx R _ V B0 s va vn vc ro co W (h.keep hW) hro htot.out nums);have hp':=HLP1.out _ e0 hst;cases hso:Zz ro co nums s with
     | none =>
      rw[hso]at hp';have HP:Hid (XZ s line=.bad 8):=Xa hp';rw[hso]at HIP;dsimp only[Option.isSome]at HIP;clear h hM ht ht2 hm htot hx ha HFS HLP0 HLP1 e0 hwo HLC2 HST2 HCI HCT hst hp' hso hnums
      go_enter Tryz.func66,Tryz.ntmps66
      go_wp2_with (go_at_call 64;refine HSF.mono ?_;rintro e w3 ⟨hb3,hyes,_⟩;obtain⟨g,k,hg,hk,rfl,hpc⟩:=hyes hall;have hk':k=nr+1:=(by rw[hk,List.length_cons,HNR.out]);subst hk';obtain⟨v0,hv0,hp0⟩:=hpc.2 0 (by simp);obtain⟨o1,c1,rfl,hlw⟩:=HLK.out w3 g v0 hb3 hv0 hp0 hpc.1;have HLW:=Xa hlw;have HB3:=Xa hb3;have HPC:=Xa hpc;have hs3:=hb3.size;have hgl:=hpc.1;clear hyes hb3 hpc hv0 hp0 hlw hk)
      refine wp_region_held_drew (S:=(fun w'=>Hid (Below w3.heap.size w3 w'))) (by kernel_rfl) (Xa (by first | exact(Below.refl _ _).drew | exact Below.refl _ _)) (fun hHeld=>?_);refine wpAnyH_take (i:=0) (v:=?_) rfl (by kernel_rfl) (by kernel_rfl) (by kernel_rfl) (fun _ _ _ h=>h) (Or.inl ⟨by rfl,?_⟩) (by assumption) ?_;rotate_left
      ·intro w hSw;(try dsimp only at hSw);obtain⟨c0,cg,hcv,hlk⟩:=HLW.out w hSw.out;go_simp;try with_reducible rfl
      simp only[Act.put,xA,xB,xD,xE,xF];refine wpAnyH_take (i:=1) (v:=?_) rfl (by kernel_rfl) (by kernel_rfl) (by kernel_rfl) (fun _ _ _ h=>h) (Or.inl ⟨by rfl,?_⟩) (by assumption) ?_;rotate_left
      ·intro w hSw;(try dsimp only at hSw);obtain⟨c0,cg,hcv,hlk⟩:=HLW.out w hSw.out;go_simp;try with_reducible rfl
      simp only[Act.put,xA,xB,xC,xD,xE,xF];refine wpAnyH_take (i:=2) (v:=?_) rfl (by kernel_rfl) (by kernel_rfl) (by kernel_rfl) (fun _ _ _ h=>h) (Or.inl ⟨by rfl,?_⟩) (by assumption) ?_;rotate_left
      ·intro w hSw;(try dsimp only at hSw);obtain⟨c0,cg,hcv,hlk⟩:=HLW.out w hSw.out;go_simp;try with_reducible rfl
      simp only[Act.put,xA,xB,xC,xD,xE,xF];refine wpAnyH_take (i:=3) (v:=?_) rfl (by kernel_rfl) (by kernel_rfl) (by kernel_rfl) (fun _ _ _ h=>h) (Or.inl ⟨by rfl,?_⟩) (by assumption) ?_;rotate_left
      ·intro w hSw;(try dsimp only at hSw);obtain⟨c0,cg,hcv,hlk⟩:=HLW.out w hSw.out;go_simp;try with_reducible rfl
      simp only[Act.put,xA,xB,xC,xD,xE,xF];refine wpAnyH_take (i:=4) (v:=?_) rfl (by kernel_rfl) (by kernel_rfl) (by kernel_rfl) (fun _ _ _ h=>h) (Or.inl ⟨by rfl,?_⟩) (by assumption) ?_;rotate_left
      ·intro w hSw;(try dsimp only at hSw);obtain⟨c0,cg,hcv,hlk⟩:=HLW.out w hSw.out;go_simp;try with_reducible rfl
      simp only[Act.put,xA,xB,xC,xD,xE,xF];refine wpAnyH_take (i:=5) (v:=?_) rfl (by kernel_rfl) (by kernel_rfl) (by kernel_rfl) (fun _ _ _ h=>h) (Or.inl ⟨by rfl,?_⟩) (by assumption) ?_;rotate_left
      ·intro w hSw;(try dsimp only at hSw);obtain⟨c0,cg,hcv,hlk⟩:=HLW.out w hSw.out;go_simp;try with_reducible rfl
      simp only[Act.put,xA,xB,xC,xD,xE,xF];refine wpAnyH_take (i:=6) (v:=?_) rfl (by kernel_rfl) (by kernel_rfl) (by kernel_rfl) (fun _ _ _ h=>h) (Or.inl ⟨by rfl,?_⟩) (by assumption) ?_;rotate_left
      ·intro w hSw;(try dsimp only at hSw);obtain⟨c0,cg,hcv,hlk⟩:=HLW.out w hSw.out;go_simp;try with_reducible rfl
      simp only[Act.put,xA,xB,xC,xD,xE,xF];refine wpAnyH_take (i:=7) (v:=?_) rfl (by kernel_rfl) (by kernel_rfl) (by kernel_rfl) (fun _ _ _ h=>h) (Or.inl ⟨by rfl,?_⟩) (by assumption) ?_;rotate_left
      ·intro w hSw;(try dsimp only at hSw);obtain⟨c0,cg,hcv,hlk⟩:=HLW.out w hSw.out;go_simp;try with_reducible rfl
      simp only[Act.put,xA,xB,xC,xD,xE,xF];refine wpAnyH_take (i:=8) (v:=?_) rfl (by kernel_rfl) (by kernel_rfl) (by kernel_rfl) (fun _ _ _ h=>h) (Or.inl ⟨by rfl,?_⟩) (by assumption) ?_;rotate_left
      ·intro w hSw;(try dsimp only at hSw);obtain⟨c0,cg,hcv,hlk⟩:=HLW.out w hSw.out;go_simp;try with_reducible rfl
      simp only[Act.put,xA,xB,xC,xD,xE,xF];refine wpAnyH_take (i:=9) (v:=?_) rfl (by kernel_rfl) (by kernel_rfl) (by kernel_rfl) (fun _ _ _ h=>h) (Or.inl ⟨by rfl,?_⟩) (by assumption) ?_;rotate_left
      ·intro w hSw;(try dsimp only at hSw);obtain⟨c0,cg,hcv,hlk⟩:=HLW.out w hSw.out;go_simp;try with_reducible rfl
      simp only[Act.put,xA,xB,xC,xD,xE,xF];refine wpAnyH_take (i:=10) (v:=?_) rfl (by kernel_rfl) (by kernel_rfl) (by kernel_rfl) (fun _ _ _ h=>h) (Or.inl ⟨by rfl,?_⟩) (by assumption) ?_;rotate_left
      ·intro w hSw;(try dsimp only at hSw);obtain⟨c0,cg,hcv,hlk⟩:=HLW.out w hSw.out;go_simp;try with_reducible rfl
      simp only[Act.put,xA,xB,xC,xD,xE,xF];refine wpAnyH_take (i:=11) (v:=?_) rfl (by kernel_rfl) (by kernel_rfl) (by kernel_rfl) (fun _ _ _ h=>h) (Or.inl ⟨by rfl,?_⟩) (by assumption) ?_;rotate_left
      ·intro w hSw;(try dsimp only at hSw);obtain⟨c0,cg,hcv,hlk⟩:=HLW.out w hSw.out;go_simp;try with_reducible rfl
      simp only[Act.put,xA,xB,xC,xD,xE,xF];refine Xw 12 (fun K hK=>?_);go_simp;refine hK _ _ (by first | exact Xa (Xb (Below.refl _ _) _).drew | exact Xa ((Xb (Below.refl _ _) _).setCell (Nat.le_refl _) _).drew | exact Xa (Xb (Below.refl _ _) _)) (fun hHeld=>?_);clear hK;refine Xw 13 (fun K hK=>?_);go_simp;refine hK _ _ (by first | exact Xa (Xb (Below.refl _ _) _).drew | exact Xa ((Xb (Below.refl _ _) _).setCell (Nat.le_refl _) _).drew | exact Xa (Xb (Below.refl _ _) _)) (fun hHeld=>?_);clear hK;refine wpAnyH_take (i:=14) (v:=?_) rfl (by kernel_rfl) (by kernel_rfl) (by kernel_rfl) (fun _ _ _ h=>h) (Or.inl ⟨by rfl,?_⟩) (by assumption) ?_;rotate_left
      ·intro w hSw;(try dsimp only at hSw);obtain⟨c0,cg,hcv,hlk⟩:=HLW.out w hSw.out;go_simp;try with_reducible rfl
      simp only[Act.put,xA,xB,xC,xD,xE,xF];refine Y7 ?_
      go_wp2_with (go_at_call 84;refine(HTK.out _ (HB3.trans ((Xb (Below.refl _ _) _).drew.mono hs3))).mono ?_;rintro e w5 ⟨rfl,hb5⟩;have HB5:=Xa hb5;obtain⟨hc5,q0,q1⟩:=HQ.out w3 w5 hb5;have HC5:=Xa hc5;have hs5:=hc5.size;clear hb5 hc5)
      refine YZ (fun w'=>w'.cell? ⟨w3.heap.size,0,none⟩=some (.int .i64 ro)/\w'.cell? ⟨w3.heap.size,1,none⟩=some (.int .i64 co)) (fun hHeld=>?_);refine Xl 0 ?_;refine Xl 1 ?_;refine Xl 2 ?_;refine Xw 3 (fun K hK=>?_);go_simp;refine(HRN.out w3 g _ _ HB3.out HPC.out HC5.drew (Ka _ _)).mono ?_;rintro e w6 ⟨hb6,hans⟩;have HB6:=Xa (Xi HB5.drew hb6);obtain⟨hc6,p0,p1⟩:=HQ.out w3 w6 HB6.out;have HC6:=Xa hc6;have hs6:=hc6.size;have hle6:=hb6.size;obtain⟨v6,rfl,_⟩:=hans.1 hok;clear hb6 hc6 hans;refine hK _ _ (by first | with_reducible exact hHeld | ((try dsimp only);go_keep)) (fun hHeld=>?_);clear hK;refine Xl 4 ?_;refine Xl 5 ?_;refine Xl 6 ?_;refine Xl 7 ?_;refine Xl 8 ?_;refine Y7 ?_
      go_wp2_with (go_at_call 86;refine(HIP.out _ (Xi HB3.out HC6.out)).mono ?_;rintro e w7 ⟨rfl,hb7⟩;have HB7:=Xa (Xi (Xi HB3.out HC6.out) hb7);clear hb7)
      all_goals
       go_ret
       exact Jd HB7.out lo2 HP.out (by decide)
     | some s' =>
      rw[hso]at hp';have HP:Hid (XZ s line=.ok s'):=Xa hp';have HPU:Hid (∀W v,Below w.heap.size w W->W.ownsRow w.heap.size 2 1 v nr (nums.map (Value.int .i64))->Calls Tryz.prog 87 #[.pointer (some ⟨R,0,none⟩),.agg #[.int .i64 ro,.int .i64 co],v] W fun e w'=>e=.returned (.tuple #[])/\Hid (∃va' vn' vc',Vd w' R (.map (some M)) V B0 s' va' vn' vc'/\Kb B0 R R W w')):=Xa (fun W v hW hv=>(Zg4 R _ V B0 s s' va vn vc ro co nr v nums w W h.out hW htot.out (ht.keep hW ht.1) (ht2.keep hW ht2.1) hro HCI.out HCT.out hv HVL.symm (by omega) htk hso).mono (fun e w' q=>⟨q.1,Xa q.2⟩));rw[hso]at HIP;dsimp only[Option.isSome]at HIP;clear h hM ht ht2 hm htot hx ha HFS HLP0 HLP1 e0 hwo HLC2 HST2 HCI HCT hst hp' hso hnums
      go_enter Tryz.func66,Tryz.ntmps66
      go_wp2_with (go_at_call 64;refine HSF.mono ?_;rintro e w3 ⟨hb3,hyes,_⟩;obtain⟨g,k,hg,hk,rfl,hpc⟩:=hyes hall;have hk':k=nr+1:=(by rw[hk,List.length_cons,HNR.out]);subst hk';obtain⟨v0,hv0,hp0⟩:=hpc.2 0 (by simp);obtain⟨o1,c1,rfl,hlw⟩:=HLK.out w3 g v0 hb3 hv0 hp0 hpc.1;have HLW:=Xa hlw;have HB3:=Xa hb3;have HPC:=Xa hpc;have hs3:=hb3.size;have hgl:=hpc.1;clear hyes hb3 hpc hv0 hp0 hlw hk)
      refine wp_region_held_drew (S:=(fun w'=>Hid (Below w3.heap.size w3 w'))) (by kernel_rfl) (Xa (by first | exact(Below.refl _ _).drew | exact Below.refl _ _)) (fun hHeld=>?_);refine wpAnyH_take (i:=0) (v:=?_) rfl (by kernel_rfl) (by kernel_rfl) (by kernel_rfl) (fun _ _ _ h=>h) (Or.inl ⟨by rfl,?_⟩) (by assumption) ?_;rotate_left
      ·intro w hSw;(try dsimp only at hSw);obtain⟨c0,cg,hcv,hlk⟩:=HLW.out w hSw.out;go_simp;try with_reducible rfl
      simp only[Act.put,xA,xB,xD,xE,xF];refine wpAnyH_take (i:=1) (v:=?_) rfl (by kernel_rfl) (by kernel_rfl) (by kernel_rfl) (fun _ _ _ h=>h) (Or.inl ⟨by rfl,?_⟩) (by assumption) ?_;rotate_left
      ·intro w hSw;(try dsimp only at hSw);obtain⟨c0,cg,hcv,hlk⟩:=HLW.out w hSw.out;go_simp;try with_reducible rfl
      simp only[Act.put,xA,xB,xC,xD,xE,xF];refine wpAnyH_take (i:=2) (v:=?_) rfl (by kernel_rfl) (by kernel_rfl) (by kernel_rfl) (fun _ _ _ h=>h) (Or.inl ⟨by rfl,?_⟩) (by assumption) ?_;rotate_left
      ·intro w hSw;(try dsimp only at hSw);obtain⟨c0,cg,hcv,hlk⟩:=HLW.out w hSw.out;go_simp;try with_reducible rfl
      simp only[Act.put,xA,xB,xC,xD,xE,xF];refine wpAnyH_take (i:=3) (v:=?_) rfl (by kernel_rfl) (by kernel_rfl) (by kernel_rfl) (fun _ _ _ h=>h) (Or.inl ⟨by rfl,?_⟩) (by assumption) ?_;rotate_left
      ·intro w hSw;(try dsimp only at hSw);obtain⟨c0,cg,hcv,hlk⟩:=HLW.out w hSw.out;go_simp;try with_reducible rfl
      simp only[Act.put,xA,xB,xC,xD,xE,xF];refine wpAnyH_take (i:=4) (v:=?_) rfl (by kernel_rfl) (by kernel_rfl) (by kernel_rfl) (fun _ _ _ h=>h) (Or.inl ⟨by rfl,?_⟩) (by assumption) ?_;rotate_left
      ·intro w hSw;(try dsimp only at hSw);obtain⟨c0,cg,hcv,hlk⟩:=HLW.out w hSw.out;go_simp;try with_reducible rfl
      simp only[Act.put,xA,xB,xC,xD,xE,xF];refine wpAnyH_take (i:=5) (v:=?_) rfl (by kernel_rfl) (by kernel_rfl) (by kernel_rfl) (fun _ _ _ h=>h) (Or.inl ⟨by rfl,?_⟩) (by assumption) ?_;rotate_left
      ·intro w hSw;(try dsimp only at hSw);obtain⟨c0,cg,hcv,hlk⟩:=HLW.out w hSw.out;go_simp;try with_reducible rfl
      simp only[Act.put,xA,xB,xC,xD,xE,xF];refine wpAnyH_take (i:=6) (v:=?_) rfl (by kernel_rfl) (by kernel_rfl) (by kernel_rfl) (fun _ _ _ h=>h) (Or.inl ⟨by rfl,?_⟩) (by assumption) ?_;rotate_left
      ·intro w hSw;(try dsimp only at hSw);obtain⟨c0,cg,hcv,hlk⟩:=HLW.out w hSw.out;go_simp;try with_reducible rfl
      simp only[Act.put,xA,xB,xC,xD,xE,xF];refine wpAnyH_take (i:=7) (v:=?_) rfl (by kernel_rfl) (by kernel_rfl) (by kernel_rfl) (fun _ _ _ h=>h) (Or.inl ⟨by rfl,?_⟩) (by assumption) ?_;rotate_left
      ·intro w hSw;(try dsimp only at hSw);obtain⟨c0,cg,hcv,hlk⟩:=HLW.out w hSw.out;go_simp;try with_reducible rfl
      simp only[Act.put,xA,xB,xC,xD,xE,xF];refine wpAnyH_take (i:=8) (v:=?_) rfl (by kernel_rfl) (by kernel_rfl) (by kernel_rfl) (fun _ _ _ h=>h) (Or.inl ⟨by rfl,?_⟩) (by assumption) ?_;rotate_left
      ·intro w hSw;(try dsimp only at hSw);obtain⟨c0,cg,hcv,hlk⟩:=HLW.out w hSw.out;go_simp;try with_reducible rfl
      simp only[Act.put,xA,xB,xC,xD,xE,xF];refine wpAnyH_take (i:=9) (v:=?_) rfl (by kernel_rfl) (by kernel_rfl) (by kernel_rfl) (fun _ _ _ h=>h) (Or.inl ⟨by rfl,?_⟩) (by assumption) ?_;rotate_left
      ·intro w hSw;(try dsimp only at hSw);obtain⟨c0,cg,hcv,hlk⟩:=HLW.out w hSw.out;go_simp;try with_reducible rfl
      simp only[Act.put,xA,xB,xC,xD,xE,xF];refine wpAnyH_take (i:=10) (v:=?_) rfl (by kernel_rfl) (by kernel_rfl) (by kernel_rfl) (fun _ _ _ h=>h) (Or.inl ⟨by rfl,?_⟩) (by assumption) ?_;rotate_left
      ·intro w hSw;(try dsimp only at hSw);obtain⟨c0,cg,hcv,hlk⟩:=HLW.out w hSw.out;go_simp;try with_reducible rfl
      simp only[Act.put,xA,xB,xC,xD,xE,xF];refine wpAnyH_take (i:=11) (v:=?_) rfl (by kernel_rfl) (by kernel_rfl) (by kernel_rfl) (fun _ _ _ h=>h) (Or.inl ⟨by rfl,?_⟩) (by assumption) ?_;rotate_left
      ·intro w hSw;(try dsimp only at hSw);obtain⟨c0,cg,hcv,hlk⟩:=HLW.out w hSw.out;go_simp;try with_reducible rfl
      simp only[Act.put,xA,xB,xC,xD,xE,xF];refine Xw 12 (fun K hK=>?_);go_simp;refine hK _ _ (by first | exact Xa (Xb (Below.refl _ _) _).drew | exact Xa ((Xb (Below.refl _ _) _).setCell (Nat.le_refl _) _).drew | exact Xa (Xb (Below.refl _ _) _)) (fun hHeld=>?_);clear hK;refine Xw 13 (fun K hK=>?_);go_simp;refine hK _ _ (by first | exact Xa (Xb (Below.refl _ _) _).drew | exact Xa ((Xb (Below.refl _ _) _).setCell (Nat.le_refl _) _).drew | exact Xa (Xb (Below.refl _ _) _)) (fun hHeld=>?_);clear hK;refine wpAnyH_take (i:=14) (v:=?_) rfl (by kernel_rfl) (by kernel_rfl) (by kernel_rfl) (fun _ _ _ h=>h) (Or.inl ⟨by rfl,?_⟩) (by assumption) ?_;rotate_left
      ·intro w hSw;(try dsimp only at hSw);obtain⟨c0,cg,hcv,hlk⟩:=HLW.out w hSw.out;go_simp;try with_reducible rfl
      simp only[Act.put,xA,xB,xC,xD,xE,xF];refine Y7 ?_
      go_wp2_with (go_at_call 84;refine(HTK.out _ (HB3.trans ((Xb (Below.refl _ _) _).drew.mono hs3))).mono ?_;rintro e w5 ⟨rfl,hb5⟩;have HB5:=Xa hb5;obtain⟨hc5,q0,q1⟩:=HQ.out w3 w5 hb5;have HC5:=Xa hc5;have hs5:=hc5.size;clear hb5 hc5)
      refine YZ (fun w'=>w'.cell? ⟨w3.heap.size,0,none⟩=some (.int .i64 ro)/\w'.cell? ⟨w3.heap.size,1,none⟩=some (.int .i64 co)) (fun hHeld=>?_);refine Xl 0 ?_;refine Xl 1 ?_;refine Xl 2 ?_;refine Xw 3 (fun K hK=>?_);go_simp;refine(HRN.out w3 g _ _ HB3.out HPC.out HC5.drew (Ka _ _)).mono ?_;rintro e w6 ⟨hb6,hans⟩;have HB6:=Xa (Xi HB5.drew hb6);obtain⟨hc6,p0,p1⟩:=HQ.out w3 w6 HB6.out;have HC6:=Xa hc6;have hs6:=hc6.size;have hle6:=hb6.size;obtain⟨v6,rfl,ho6⟩:=hans.1 hok;have HO6:Hid (w6.ownsRow w.heap.size 2 1 v6 nr (nums.map (Value.int .i64))):=Xa (by rw[HNU.out,HNR.out]at ho6;exact Yn ho6 (by show _<=w5.heap.size;omega));clear ho6;clear hb6 hc6 hans;refine hK _ _ (by first | with_reducible exact hHeld | ((try dsimp only);go_keep)) (fun hHeld=>?_);clear hK;refine Xl 4 ?_;refine Xl 5 ?_;refine Xl 6 ?_;refine Xl 7 ?_;refine Xl 8 ?_;refine Y7 ?_
      go_wp2_with (first
       | (go_at_call 86;refine(HIP.out _ (Xi HB3.out HC6.out)).mono ?_;rintro e w7 ⟨rfl,hb7⟩;have HB7:=Xa (Xi (Xi HB3.out HC6.out) hb7);have HO7:=Xa (YY HO6.out (fun b e=>hb7.block b (HO6.lt b e).2));obtain⟨_,r0,r1⟩:=HQ.out w3 w7 (Xi HB6.out hb7);clear hb7)
       | (go_at_call 87;refine(HPU.out _ _ HB7.out HO7.out).mono ?_;rintro e w8 ⟨rfl,HB8⟩))
      all_goals
       go_ret
       obtain⟨va',vn',vc',h8,k8⟩:=HB8.out;exact⟨(Kb.of_below (HB7.mono lo2)).trans k8,Or.inr ⟨s',HP.out,rfl,va',vn',vc',h8⟩⟩
end Go.Proofs.YtkehcdfalcakmaaGreatDoor
