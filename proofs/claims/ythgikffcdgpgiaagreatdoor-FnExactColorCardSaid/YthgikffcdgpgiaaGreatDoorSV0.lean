import Derived.Test.YthgikffcdgpgiaaGreatDoorW15
namespace Go.Proofs.YthgikffcdgpgiaaGreatDoor
set_option maxHeartbeats 4000000
set_option maxRecDepth 100000
open Go.RowKit
structure X0(w:World)(G n K:Nat)(gs cp:Nat->Nat)(Ws:Nat->Nat->Nat):Prop where
 row:w.rowIs G 75 n (fun i=>.slice (some ⟨gs i,0,none⟩) K (cp i))
 set:∀i,i<n->WsAt w (gs i) K (cp i) (Ws i)
 inj:∀i j,i<n->j<n->gs i=gs j->i=j
 out:∀i,i<n->gs i≠G
theorem Tryz.infoSetV:(Tryz.prog.info? 75).map (fun i=>(i.zero,i.size,i.bytes))=some (some (.agg #[.slice none 0 0]),1,24):=kR
structure WZ(w wr:World)(G n K q:Nat)(gs:Nat->Nat):Prop where
 low:Below w.heap.size w wr
 base:w.heap.size<=G
 row:wr.rowIs G 75 n (fun i=>if i<q then .slice (some ⟨gs i,0,none⟩) K K else .slice none 0 0)
 set:∀i,i<q->wr.rowIs (gs i) 133 K (fun _=>.int .u64 ((0:Nat):Int))
 inj:∀i j,i<q->j<q->gs i=gs j->i=j
 up:∀i,i<q->G<gs i
theorem WZ.next{w wr w1:World}{G n K q g:Nat}{gs:Nat->Nat}(h:WZ w wr G n K q gs)(hq:q<n)(hb:Below wr.heap.size wr w1)(hg:wr.heap.size<=g)(hr:w1.rowIs g 133 K (fun _=>.int .u64 ((0:Nat):Int))) :
 WZ w (w1.setCell ⟨G,q,none⟩ (.slice (some ⟨g,0,none⟩) K K)) G n K (q+1) (fun i=>if i=q then g else gs i)/\w1.cell? ⟨G,q,none⟩=some (.slice none 0 0)/\w1.frozen? ⟨G,q,none⟩=false:=by
 have hGl:G<wr.heap.size:=h.row.lt;have hrow:w1.rowIs G 75 n (fun i=>if i<q then .slice (some ⟨gs i,0,none⟩) K K else .slice none 0 0):=h.row.of_block (hb.block G hGl);have hgl:∀i,i<q->gs i<wr.heap.size:=fun i hi=>(h.set i hi).lt
 refine⟨⟨(h.low.trans (hb.mono h.low.size)).setCell h.base _,h.base,(hrow.set q _).congr (fun i _=>?_),fun i hi=>?_,fun i j hi hj e=>?_,fun i hi=>?_⟩,(hrow.cell hq).trans sP,hrow.frozen q⟩
 ·by_cases e:i=q
  ·subst e;simp
  ·rw[if_neg e]
   by_cases e2:i<q
   ·rw[if_pos e2,if_pos oM];simp[e]
   ·rw[if_neg e2,if_neg oM]
 ·by_cases e:i=q
  ·rw[if_pos e];exact hr.setOther (by show g≠G;omega) _
  ·rw[if_neg e]
   have:=h.up i oM;exact((h.set i oM).of_block (hb.block _ (hgl i oM))).setOther (by show gs i≠G;omega) _
 ·by_cases e1:i=q
  ·by_cases e2:j=q
   ·rw[e1,e2]
   ·rw[if_pos e1,if_neg e2]at e
    have:=hgl j oM;omega
  ·by_cases e2:j=q
   ·rw[if_neg e1,if_pos e2]at e
    have:=hgl i oM;omega
   ·rw[if_neg e1,if_neg e2]at e
    exact h.inj i j oM oM e
 ·by_cases e:i=q
  ·show G<if i=q then g else gs i
   rw[if_pos e];omega
  ·show G<if i=q then g else gs i
   rw[if_neg e];exact h.up i oM
theorem JC(n room:Nat)(w:World)(hn:n<=1000)(hr:room<=60000) :
 Calls Tryz.prog 96 #[.int .i64 n,.int .i64 room] w fun e w'=>∃G gs,e=.returned (.slice (some ⟨G,0,none⟩) n n)/\w.heap.size<=G/\Below w.heap.size w w'/\X0 w' G n ((room+63) / 64) gs (fun _=>(room+63) / 64) (fun _ _=>0)/\(∀i,i<n->w.heap.size<=gs i):=by
 have hmk:=Z5 (P:=Tryz.prog) 113 75 (.agg #[.slice none 0 0]) 1 24 Tryz.underlying113 Tryz.infoSetV n oM oM;have HNS:=Xa (fun W=>JS room W hr);generalize (room+63) / 64=K at *
 go_enter Tryz.func96,Tryz.ntmps96
 go_wp2_with fail
 go_loopw [11] (fun u wr=>∃q:Nat,q<=n/\u=.int .i64 q/\∃gs,Hid (WZ w wr w.heap.size n K q gs)) (fun u _=>n-(intOf u).toNat)
 case atStart=>exact⟨0,Nat.zero_le _,rfl,fun _=>0,Xa ⟨Xb (Below.refl _ _) _,Nat.le_refl _,by
  have h:=World.rowIs_made w (.slice none 0 0) n 75;simpa [Value.cells]using h,fun i hi=>absurd hi oM,fun i j hi=>absurd hi oM,fun i hi=>absurd hi oM⟩⟩
 case round =>
  obtain⟨q,hq,rfl,gs,HS⟩:=hrel;by_cases hlt:q<n
  ·go_wp2_with fail
   refine(HNS.out wr).mono ?_;rintro e w1 ⟨g,rfl,hg,hb1,hr1⟩;have hS1:=HS.next hlt hb1 hg hr1;obtain⟨hS2,hc1,hz1⟩:=hS1;have HS2:=Xa hS2;clear hS2 hb1 hr1
   go_wp2_with fail
   exact⟨⟨q+1,oM,gM,_,HS2⟩,by simp[intOf];omega⟩
  ·have hqn:q=n:=oM
   subst hqn
   go_wp2_with fail
   go_ret
   refine⟨_,gs,rfl,Nat.le_refl _,HS.low,⟨HS.row.congr (fun i hi=>by rw[if_pos hi]),fun i hi=>WsAt.of_row (HS.set i hi),HS.inj,fun i hi e=>by have:=HS.up i hi;omega⟩,fun i hi=>by have:=HS.up i hi;omega⟩
def XW(w:World)(P:Nat->Prop)(a:Option Addr)(xs:List Int):Prop :=
 ∀i (h:i<xs.length),∃b o,a=some ⟨b,o,none⟩/\(P b/\b<w.heap.size)/\w.cell? ⟨b,o+i,none⟩=some (.int .i64 xs[i])
def JO(w:World)(P:Nat->Prop)(a:Option Addr)(xss:List (List Int)):Prop :=
 ∀i (h:i<xss.length),∃b o,a=some ⟨b,o,none⟩/\(P b/\b<w.heap.size)/\∃a' c',w.cell? ⟨b,o+i,none⟩=some (.slice a' xss[i].length c')/\XW w P a' xss[i]
theorem X0.keep{w w':World}{G n K:Nat}{gs cp:Nat->Nat}{Ws:Nat->Nat->Nat}(h:X0 w G n K gs cp Ws)(k:Below w.heap.size w w'):X0 w' G n K gs cp Ws :=
 ⟨h.row.of_block (k.block _ h.row.lt),fun i hi=>(h.set i hi).of_block (k.block _ (h.set i hi).lt),h.inj,h.out⟩
theorem X0.wrote{w w':World}{G n K b:Nat}{gs cp:Nat->Nat}{Ws:Nat->Nat->Nat}{W':Nat->Nat}(h:X0 w G n K gs cp Ws)(hb:b<n)(k:w.grownBy w' (some (gs b)))(hr:WsAt w' (gs b) K (cp b) W'):X0 w' G n K gs cp (fun i=>if i=b then W' else Ws i):=by
 refine⟨h.row.of_block (k.block _ h.row.lt (fun e=>h.out b hb (by injection e with e;exact e.symm))),fun i hi=>?_,h.inj,h.out⟩;by_cases e:i=b
 ·subst e
  simpa using hr
 ·simp only[if_neg e]
  exact(h.set i hi).of_block (k.block _ (h.set i hi).lt (fun e2=>e (by injection e2 with e2;exact h.inj i b hi hb e2)))
theorem X0.apart{w w':World}{G2 n K:Nat}{gs gs2 cp2:Nat->Nat}{T:Nat->Nat->Nat}(h:X0 w G2 n K gs2 cp2 T)(f:KT w w' n gs)(h1:∀i,i<n->G2≠gs i)(h2:∀i j,i<n->j<n->gs2 i≠gs j):X0 w' G2 n K gs2 cp2 T :=
 ⟨h.row.of_block (f.block _ h.row.lt h1),fun i hi=>(h.set i hi).of_block (f.block _ (h.set i hi).lt (fun j hj=>h2 i j hi hj)),h.inj,h.out⟩
theorem Us(b0 o0 n0 c0:Nat)(ord:List Nat)(L1 B1:Nat)(sa:Option Addr)(ns cs:Nat)(src:List (List Nat))(G G2 n K:Nat)(gs gs2 cp cp2:Nat->Nat)(I T:Nat->Nat->Nat)(w:World)
 (hord:Hid (Xg w L1 B1 (some ⟨b0,o0,none⟩) (Xh ord))) (h0:Hid (n0=ord.length)) (hn0:n0<=1000) (hn0':0<n0) (hsrc:Hid (JO w (fun k=>∀i,i<n->k≠gs i) sa (src.map Xh))) (hs:Hid (ns=src.length)) (hns:Hid (src.length=n)) (hK:K<=100)
 (hB1:B1<=w.heap.size) (HI:Hid (X0 w G n K gs cp I)) (HT:Hid (X0 w G2 n K gs2 cp2 T)) (hwI:Hid (XA I)) (hwT:Hid (XA T))
 (d3:Hid (∀i,i<n->G2≠gs i)) (d4:Hid (∀i j,i<n->j<n->gs2 i≠gs j))
 (ho:Hid (∀b∈ord,b<n)) (hsr:Hid (∀l∈src,l.length<=2000/\∀t∈l,t<n)) :
 Calls Tryz.prog 100 #[.slice (some ⟨b0,o0,none⟩) n0 c0,.slice sa ns cs,.slice (some ⟨G,0,none⟩) n n,.slice (some ⟨G2,0,none⟩) n n] w fun e w'=>e=.returned (.tuple #[])/\KT w w' n gs/\∃Ws,XA Ws/\X0 w' G n K gs cp Ws/\∀b,b<n->∀x,x<64*K->(Xf (Ws b) x=true↔Sp I T (·∈ord) (fun b=>src.getD b []) b x):=by
 go_enter Tryz.func100,Tryz.ntmps100
 go_wp2_with fail
 go_step3
 go_wp2_with fail
 refine(Vs b0 o0 n0 c0 (Xh ord) L1 B1 w hord (Xa (by have:=h0.out;simp[Xh];omega)) oM hB1).mono ?_;rintro e w1 ⟨v1,rfl,hb1,hne1,ho1⟩;obtain⟨g1,k1,rfl,hg1,hk1⟩:=Xp ho1 (by have:=h0.out;simp[Xh];omega);have HB1:=Xa hb1;have HO1:=Xa ho1;have hln:(Xh ord).length=n0:=by have:=h0.out;simp[Xh];omega
 rw[hln]at HO1;clear hb1 ho1 hne1
 go_wp2_with fail
 have hg1z:g1<w1.heap.size:=hg1.2;have hg1b:w.heap.size<=g1:=hg1.1;refine(JX g1 n0 k1 w.heap.size (Xh ord) w1 oM (Xa hln.symm) HO1).mono ?_;rintro e w2 ⟨rfl,hgr2,ho2⟩;have HB2:Hid (Below w.heap.size w w2):=Xa (HB1.grown hgr2 HB1.size (fun k e=>by cases e;omega));have HO2:=Xa ho2;clear hgr2 ho2 HO1 HB1
 go_wp2_with fail
 have HWA:Hid (Below w2.heap.size w2 (w2.alloc (.cells #[.slice (some ⟨b0,o0,none⟩) n0 c0,.slice (some ⟨g1,0,none⟩) n0 k1] 26))):=Xa (Xb (Below.refl _ _) _);have hq0:(w2.alloc (.cells #[.slice (some ⟨b0,o0,none⟩) n0 c0,.slice (some ⟨g1,0,none⟩) n0 k1] 26)).cell? ⟨w2.heap.size,0,none⟩=some (.slice (some ⟨b0,o0,none⟩) n0 c0):=sP;have hq1:(w2.alloc (.cells #[.slice (some ⟨b0,o0,none⟩) n0 c0,.slice (some ⟨g1,0,none⟩) n0 k1] 26)).cell? ⟨w2.heap.size,1,none⟩=some (.slice (some ⟨g1,0,none⟩) n0 k1):=sP;generalize w2.alloc (.cells #[.slice (some ⟨b0,o0,none⟩) n0 c0,.slice (some ⟨g1,0,none⟩) n0 k1] 26)=wa at *;have HBA:Hid (Below w.heap.size w wa):=Xa (Xe HB2.out HWA.out);have hlr:(Xh ord).reverse.length=n0:=by rw[List.length_reverse];exact hln
 have HIR:Hid (Xg wa w.heap.size w2.heap.size (some ⟨g1,0,none⟩) (Xh ord).reverse):=Xa (by
  have h:=HO2.out;rw[<-hlr]at h;obtain⟨a',c',e',hi'⟩:=Xj h;injection e' with e1;subst e1;exact hi'.keep HWA.out)
 refine(Ud w2.heap.size n0 c0 n0 k1 _ _ (Xh ord) (Xh ord).reverse L1 B1 w.heap.size w2.heap.size wa (Xa (hord.keep (HBA.mono hB1))) HIR (Xa hln.symm) (Xa hlr.symm) hn0 hn0 oM (by have:=HBA.size;omega) HWA.size hq0 hq1).mono ?_;rintro e w3 ⟨v3,rfl,hb3,ho3⟩;have HB3:Hid (Below w.heap.size w w3):=Xa (Xe HBA.out hb3);have eR:Xh ord++(Xh ord).reverse=Xh (ord++ord.reverse):=by simp[Xh]
 rw[eR]at ho3;have hRl:(ord++ord.reverse).length=2*n0:=by have:=h0.out;simp;omega
 have hRo:Hid (∀b,b∈ord++ord.reverse↔b∈ord):=Xa (fun b=>sP);generalize ord++ord.reverse=R at *;have hnl:(Xh R).length=R.length:=by simp[Xh]
 obtain⟨a3,c3,e3,hi3⟩:=Xj ho3;rw[hnl]at e3;subst e3;have HI3:=Xa hi3;have HZ3:Hid (wa.heap.size<=w3.heap.size/\w.heap.size<=wa.heap.size):=Xa ⟨hb3.size,HBA.size⟩;clear hb3 ho3 eR hq0 hq1 HIR HWA HO2 HB2 hi3;have HS3:=Xa (HI.keep (HB3.out));have HT3:=Xa (HT.keep (HB3.out));have hR0:0<R.length:=oM;have hR1:R.length<=2000:=oM;clear hRl hln hlr hnl;have HGS:Hid (∀i,i<n->gs i<w.heap.size):=Xa (fun i hi=>(HI.set i hi).lt)
 go_wp2_with fail
 go_step3
 go_wp2_with fail
 go_loopg [10] (ZD I K n) (fun k qv wr=>∃(q:Nat)(W:Nat->Nat->Nat),qv=.int .i64 q/\q<R.length/\Hid (KT w3 wr n gs)/\Hid (X0 wr G n K gs cp W)/\Hid (XA W)/\Hid (ZD W K n<=k)/\Hid (∀b x,Xf (I b) x=true->Xf (W b) x=true)/\Hid (∀b x,Xf (W b) x=true->Sp I T (·∈ord) (fun b=>src.getD b []) b x)/\Hid (ClQ T K (fun b=>src.getD b []) W R q 0))
 case atStart=>exact⟨0,I,rfl,hR0,Xa (KT.refl _ _ _),HS3,hwI,Xa (Nat.le_refl _),Xa (fun _ _ h=>h),Xa (fun _ _ h=>Sp.init h),Xa Te⟩
 case round =>
  obtain⟨q0,W0,rfl,hq0,HF0,HS0,HW0,HM0,HI0,HSo0,HC0⟩:=hrel
  go_wp2_with fail
  generalize wr=wo at *
  go_loopw [10,26] (fun qv u wr=>∃(q p:Nat)(W:Nat->Nat->Nat),qv=.int .i64 q/\q<R.length/\u=.int .i64 p/\p<=R.length/\Hid (KT w3 wr n gs)/\Hid (X0 wr G n K gs cp W)/\Hid (XA W)/\Hid (ZD W K n<gk\/(ZD W K n<=gk/\q=q0+p))/\Hid (∀b x,Xf (I b) x=true->Xf (W b) x=true)/\Hid (∀b x,Xf (W b) x=true->Sp I T (·∈ord) (fun b=>src.getD b []) b x)/\Hid (ClQ T K (fun b=>src.getD b []) W R q p)) (fun _ u _=>R.length-(intOf u).toNat)
  case atStart=>exact⟨q0,0,W0,rfl,hq0,rfl,Nat.zero_le _,HF0,HS0,HW0,Xa (Or.inr ⟨HM0.out,oM⟩),HI0,HSo0,HC0⟩
  case round =>
   obtain⟨q,p,W,rfl,hq,rfl,hp,HF,HS,HW,HM,HIm,HSo,HC⟩:=hrel;by_cases hlt:p<R.length
   ·obtain⟨br,or_,rfl,hbr,er3⟩:=HI3.out p (by simpa [Xh]using hlt)
    have HFW:Hid (KT w wr n gs):=Xa ⟨HF.os.trans HB3.os,HF.tape.trans HB3.tape,HF.output.trans HB3.output,Nat.le_trans HB3.size HF.size,fun k h1 h2=>(HF.block k (Nat.lt_of_lt_of_le h1 HB3.size) h2).trans (HB3.block k h1)⟩;have er:=(Xc (HF.block br hbr.2 (fun i hi e=>by have:=HGS.out i hi;have:=HZ3.out;omega))).trans er3;have hRp:(Xh R)[p]'(by simpa [Xh]using hlt)=((R[p]:Nat):Int):=by simp[Xh]
    rw[hRp]at er;have hbn:R[p]<n:=ho.out _ ((hRo.out _).1 (List.getElem_mem hlt));have hbo:Hid (R[p]∈ord):=Xa ((hRo.out _).1 (List.getElem_mem hlt));have hbs:R[p]<src.length:=by have:=hns.out;omega
    obtain⟨bs,os,hsa,hbs2,as',cs',es,his⟩:=hsrc.out R[p] (by simpa using hbs);subst hsa;have esr:=(Xc (HFW.block bs hbs2.2 hbs2.1)).trans es;have hsl:((src.map Xh)[R[p]]'(by simpa using hbs)).length=src[R[p]].length:=by simp[Xh]
    rw[hsl]at esr;have HSL:=Xa (hsr.out src[R[p]] (List.getElem_mem hbs));have hls:=HSL.1;have HGD:Hid (src.getD R[p] []=src[R[p]]):=Xa (by simp[hbs]);have HCN:Hid (∀W',(∀i x,x<64*K->Xf (W' i) x=Xf (W i) x)->ClB T K (fun b=>src.getD b []) W R[p]->ClQ T K (fun b=>src.getD b []) W' R (q+1) (p+1)):=Xa (fun W' e hb=>Zb9 HC.out e hlt hb);have hbsn:R[p]<ns:=by have:=hs.out;omega
    have HISw:Hid (XW w (fun k=>∀i,i<n->k≠gs i) as' (Xh src[R[p]])):=Xa (by simpa using his);clear er3 es his hRp hsl;generalize hbb:R[p]=b at *;clear hbb;generalize src[b]=sl at *
    go_wp2_with fail
    generalize wr=wo2 at *
    go_loopw [13,35] (fun gv u wq=>∃r:Nat,r<=sl.length/\u=.int .i64 r/\gv=.bool (takesN T K b (sl.take r) (W,false)).2/\Hid (KT w3 wq n gs)/\Hid (X0 wq G n K gs cp (takesN T K b (sl.take r) (W,false)).1)) (fun _ u _=>sl.length-(intOf u).toNat)
    case atStart=>exact⟨0,Nat.zero_le _,rfl,rfl,HF,HS⟩
    case round =>
     obtain⟨r,hr,rfl,rfl,HFq,HSq⟩:=hrel;by_cases hlr:r<sl.length
     ·have HFW2:Hid (KT w wr n gs):=Xa ⟨HFq.os.trans HB3.os,HFq.tape.trans HB3.tape,HFq.output.trans HB3.output,Nat.le_trans HB3.size HFq.size,fun k h1 h2=>(HFq.block k (Nat.lt_of_lt_of_le h1 HB3.size) h2).trans (HB3.block k h1)⟩
      obtain⟨b5,o5,rfl,hb5,e5w⟩:=HISw.out r (by simpa [Xh]using hlr);have e5:=(Xc (HFW2.block b5 hb5.2 hb5.1)).trans e5w;have hsr5:(Xh sl)[r]'(by simpa [Xh]using hlr)=((sl[r]:Nat):Int):=by simp[Xh]
      rw[hsr5]at e5;have hsn:sl[r]<n:=HSL.2 _ (List.getElem_mem hlr);have HTQ:=Xa (HT3.apart HFq.out d3.out d4.out);have HTK:=Xa (Uw (T:=T) (K:=K) (b:=b) hlr (W,false));have HWq:=Xa (JV (T:=T) (K:=K) (b:=b) (sl.take r) (W,false) HW.out);clear e5w hsr5;generalize sl[r]=s at *;generalize takesN T K b (sl.take r) (W,false)=sq at *;obtain⟨Wq,gq⟩:=sq;dsimp only at *;have k1:=HSq.row.cell hbn;have k2:=HSq.row.cell hsn;have k3:=HTQ.row.cell hbn;have HAB:=Xa (JN (gs b) (gs s) (gs2 b) K (cp b) (cp s) (cp2 b) (Wq b) (Wq s) (T b) wr.drew (Xa (HWq.out b)) (Xa (HWq.out s)) (Xa (hwT.out b)) oM (Xa ((HSq.set b hbn).drew)) (Xa ((HSq.set s hsn).drew)) (Xa ((HTQ.set b hbn).drew)) (d4.out b b hbn hbn) (Xa (fun e=>by rw[HSq.inj s b hsn hbn e])));have HSD:Hid (X0 wr.drew G n K gs cp Wq):=Xa ⟨HSq.row,fun i hi=>(HSq.set i hi).drew,HSq.inj,HSq.out.out⟩;have HFD:Hid (KT w3 wr.drew n gs):=Xa ⟨HFq.os,HFq.tape,HFq.output,HFq.size,HFq.block⟩;have HLL:Hid (G<wr.heap.size/\G2<wr.heap.size):=Xa ⟨HSq.row.lt,HTQ.row.lt⟩;generalize grewN (Wq b) (Wq s) (T b) K=g5 at *
      go_wp2_with fail
      refine ZB (fun w'=>w'.cell? ⟨G,b,none⟩=some (.slice (some ⟨gs b,0,none⟩) K (cp b))/\w'.cell? ⟨G,s,none⟩=some (.slice (some ⟨gs s,0,none⟩) K (cp s))/\w'.cell? ⟨G2,b,none⟩=some (.slice (some ⟨gs2 b,0,none⟩) K (cp2 b))) (fun hHeld=>?_);refine XE 0 ?_;refine XE 1 ?_;refine XE 2 ?_;refine XE 3 ?_;refine XE 4 ?_;refine XE 5 ?_;refine XE 6 ?_;refine XE 7 ?_;refine XE 8 ?_;refine XE 9 ?_;refine XE 10 ?_;refine XE 11 ?_;refine Xz 12 (fun K hK=>?_);go_simp
      go_at_call 102
      refine HAB.mono ?_;rintro e w5 ⟨rfl,hg5,hr5⟩;have HS5:=Xa (HSD.wrote hbn hg5 hr5);have HF5:=Xa (HFD.grown hg5 hbn);have j1:=(Xc (hg5.block G HLL.1 (fun e=>HSq.out.out b hbn (by injection e with e;exact e.symm)))).trans k1;have j2:=(Xc (hg5.block G HLL.1 (fun e=>HSq.out.out b hbn (by injection e with e;exact e.symm)))).trans k2;have j3:=(Xc (hg5.block G2 HLL.2 (fun e=>d3.out b hbn (by injection e)))).trans k3;clear hg5 hr5 HAB;refine hK _ _ ⟨j1,j2,j3⟩ (fun hHeld=>?_);clear hK;refine XE 13 ?_;cases g5
      focus
       refine wpAnyH_take (i:=14) (v:=?_) rfl kR kR kR (fun _ _ _ h=>h) (Or.inl ⟨by rfl,?_⟩) (by assumption) ?_;rotate_left
       ·intro w hSw;(try dsimp only at hSw);go_simp;try with_reducible rfl
      rotate_left
      focus
       refine wpAnyH_take (i:=14) (v:=undef) rfl kR kR kR (fun _ _ _ h=>h) (Or.inr ⟨by rfl,rfl⟩) (by assumption) ?_
      all_goals (
       simp only[Act.put,xA,xB,xC,xD,xE,xF];refine XE 15 ?_;refine XE 16 ?_;refine Zu ?_
       go_wp2_with fail
       exact⟨⟨r+1,oM,gM,by rw[HTK.out];rfl,Xa HF5.out,Xa (by rw[HTK.out];exact HS5.out)⟩,by simp[intOf];omega⟩)
     ·have hre:r=sl.length:=oM
      have HTE:Hid (sl.take r=sl):=Xa (List.take_of_length_le oM);rw[HTE.out]at HSq |-;clear hre;have HW2:=Xa (JV (T:=T) (K:=K) (b:=b) sl (W,false) HW.out);have HMo:=Xa (Z6 (T:=T) (K:=K) (b:=b) hwT.out sl (W,false) HW.out);have HSd:=Xa (JK (I:=I) (T:=T) (K:=K) (b:=b) (ord:=(·∈ord)) (src:=fun b=>src.getD b []) hwT.out hbo.out sl (W,false) HW.out (fun t ht=>by show t∈src.getD b [];rw[HGD.out];exact ht) HSo.out);have HQu:=Xa (Kb (T:=T) (K:=K) (b:=b) hwT.out sl (W,false) HW.out);have HGw:=Xa (KS (T:=T) (K:=K) (b:=b) hwT.out sl (W,false) HW.out rfl);have HOt:=Xa (fun i (hi:i≠b)=>Kf (T:=T) (K:=K) hi sl (W,false));generalize takesN T K b sl (W,false)=sq at *;obtain⟨W2,g2'⟩:=sq;dsimp only at *;have HIm2:Hid (∀b x,Xf (I b) x=true->Xf (W2 b) x=true):=Xa (fun b x h=>HMo.out b x (HIm.out b x h));cases g2' with
      | true =>
       have HML:=Xa (UQ (K:=K) HOt.out (HGw.out rfl) n hbn)
       go_wp2_with fail
       exact⟨⟨0,p+1,W2,rfl,hR0,gM,oM,HFq,HSq,HW2,Xa (Or.inl (by have:=HML.out;rcases HM.out with h | h<;>omega)),HIm2,HSd,Xa Te⟩,by simp[intOf];omega⟩
      | false =>
       obtain⟨hsame,hcl⟩:=HQu.out rfl;have HCQ:Hid (ClQ T K (fun b=>src.getD b []) W2 R (q+1) (p+1)):=Xa (HCN.out W2 hsame (fun t ht x hx=>by have ht':t∈src.getD b []:=ht;rw[HGD.out]at ht';exact hcl t ht' x hx));have HMS:Hid (ZD W2 K n=ZD W K n):=Xa (Tb n (fun i _=>Tn _ (fun x hx=>hsame i x hx)));clear hsame hcl;by_cases hqe:q+1=R.length
       ·have hqb:(((q:Int)+1)==(R.length:Int))=true:=by simp;omega
        have HCA:Hid (ClQ T K (fun b=>src.getD b []) W2 R R.length (p+1)):=Xa (by rw[<-hqe];exact HCQ.out);clear hqe
        go_wp2_with fail
        go_end0
        refine⟨rfl,⟨HFq.os.trans HB3.os,HFq.tape.trans HB3.tape,HFq.output.trans HB3.output,Nat.le_trans HB3.size HFq.size,fun k h1 h2=>(HFq.block k (Nat.lt_of_lt_of_le h1 HB3.size) h2).trans (HB3.block k h1)⟩,W2,HW2.out,HSq.out,fun b _ x hx=>?_⟩;exact TY HIm2.out HSd.out (fun b hb t ht x hx h1 h2=>Zdp HCA.out oM ((hRo.out b).2 hb) t ht x hx h1 h2) b x hx
       ·have hqb:(((q:Int)+1)==(R.length:Int))=false:=by simp;omega
        go_wp2_with fail
        exact⟨⟨q+1,p+1,W2,gM,oM,gM,oM,HFq,HSq,HW2,Xa (by rw[HMS.out];rcases HM.out with h | ⟨h,h'⟩;exact Or.inl h;exact Or.inr ⟨h,oM⟩),HIm2,HSd,HCQ⟩,by simp[intOf];omega⟩
   ·have hpe:p=R.length:=oM
    subst hpe
    go_wp2_with fail
    go_roundg (ZD W K n)
    case measure=>rcases HM.out with h | ⟨_,h⟩;exact h;omega
    case rel=>exact⟨q,W,rfl,hq,HF,HS,HW,Xa (Nat.le_refl _),HIm,HSo,Xa (ZbF HC.out hq)⟩
structure PuI(w2 wr:World)(G n K:Nat)(gs:Nat->Nat)(Ws:Nat->Nat->Nat)(E:List (Nat × Nat)):Prop where
 sets:X0 wr G n K gs (fun _=>K) Ws
 wd:XA Ws
 fr:KT w2 wr n gs
 has:∀b,b<n->∀v,Xf (Ws b) v=true↔(b,v)∈E
def PuE(w2 wr:World)(G n K:Nat)(gs:Nat->Nat)(E:List (Nat × Nat)):Prop:=∃Ws,PuI w2 wr G n K gs Ws E
theorem PuI.below{w2 wr wr':World}{G n K:Nat}{gs:Nat->Nat}{Ws:Nat->Nat->Nat}{E:List (Nat × Nat)}(h:PuI w2 wr G n K gs Ws E)(k:Below wr.heap.size wr wr'):PuI w2 wr' G n K gs Ws E:=⟨h.sets.keep k,h.wd,h.fr.below k,h.has⟩
theorem PuE.below{w2 wr wr':World}{G n K:Nat}{gs:Nat->Nat}{E:List (Nat × Nat)}(h:PuE w2 wr G n K gs E)(k:Below wr.heap.size wr wr'):PuE w2 wr' G n K gs E:=by
 obtain⟨Ws,h⟩:=h;exact⟨Ws,h.below k⟩
theorem PuI.add{w2 wr wr':World}{G n K p v:Nat}{gs:Nat->Nat}{Ws:Nat->Nat->Nat}{E:List (Nat × Nat)}(h:PuI w2 wr G n K gs Ws E)(hp:p<n)(k:wr.grownBy wr' (some (gs p)))(hr:WsAt wr' (gs p) K K (addsN (Ws p) [v])):PuI w2 wr' G n K gs (fun i=>if i=p then addsN (Ws p) [v]else Ws i) (E++[(p,v)]):=by
 refine⟨h.sets.wrote hp k hr,fun i=>?_,h.fr.grown k hp,fun b hb x=>?_⟩
 ·by_cases e:i=p
  ·simp only[if_pos e];exact YE _ (h.wd p)
  ·simp only[if_neg e];exact h.wd i
 ·by_cases e:b=p
  ·subst e
   simp only[if_true,List.mem_append,List.mem_singleton,Prod.mk.injEq,true_and];rw[Y4,Bool.or_eq_true,decide_eq_true_eq,List.mem_singleton,h.has b hb x];exact or_comm
  ·simp only[if_neg e,List.mem_append,List.mem_singleton,Prod.mk.injEq]
   rw[h.has b hb x];exact⟨Or.inl,fun h=>h.elim id (fun h=>absurd h.1 e)⟩
theorem Zfs{xs:List Xi}{k:Nat}(h:k<xs.length):Uj xs (k+1)=Uj xs k++phT xs k xs[k].phis:=by
 unfold Uj;rw[List.range_succ,List.flatMap_append];simp[phB,h]
theorem Zez{xs:List Xi}{t j:Nat}{ps:List Ph}(h:j<ps.length):phT xs t (ps.take (j+1))=phT xs t (ps.take j)++(XH xs xs.length t).zip (Xt ps[j].args):=by
 unfold phT;rw[Xr _ _ h,List.flatMap_append];simp
theorem ZaZ(V:Nat)(a:Option Addr)(n c:Nat)(xs:List Xi)(L B:Nat)(w:World)(ha:Hid (Xl w L B a xs))(hx:Hid (n=xs.length))(hB:B<=w.heap.size)(ho:Hid (ZZ V xs)) :
 Calls Tryz.prog 95 #[.agg #[.int .i64 (V:Int),.slice a n c]] w fun e w'=>∃G gs Ws,e=.returned (.slice (some ⟨G,0,none⟩) n n)/\w.heap.size<=G/\Below w.heap.size w w'/\X0 w' G n ((V+63) / 64) gs (fun _=>(V+63) / 64) Ws/\(∀i,i<n->w.heap.size<=gs i)/\XA Ws/\∀b,b<n->∀v,Xf (Ws b) v=true↔(b,v)∈Uj xs n:=by
 have hn:n<=1000:=by have:=hx.out;have:=ho.okf.n2;omega
 have hV:=ho.vle;have HNS:=Xa (fun W=>JC n V W hn oM);have HPR:Hid (∀W,Below w.heap.size w W->_):=Xa (fun W (hW:Below w.heap.size w W)=>Zi (V:Int) a n c xs L B W (Xa (ha.keep (hW.mono hB))) hx oM (by have:=hW.size;omega) (Xa (by rw[hx.out];exact ho.okf.ok)));have hK:(V+63) / 64<=32:=oM;have hVK:V<=64*((V+63) / 64):=oM;generalize (V+63) / 64=K at *
 go_enter Tryz.func95,Tryz.ntmps95
 go_wp2_with fail
 refine(HNS.out _).mono ?_;rintro e w1 ⟨G,gs,rfl,hG,hb1,hs1,hgs⟩;have HBA:Hid (Below w.heap.size w (w.alloc (.cells #[.int .i64 (V:Int),.slice a n c] 32))):=Xa (Xb (Below.refl _ _) _);have q0:=(hb1.cell (p:=⟨w.heap.size,0,none⟩) (by show w.heap.size<_;simp)).trans (by simp[go_sem]:(w.alloc (.cells #[.int .i64 (V:Int),.slice a n c] 32)).cell? ⟨w.heap.size,0,none⟩=some (.int .i64 (V:Int)));have q1:=(hb1.cell (p:=⟨w.heap.size,1,none⟩) (by show w.heap.size<_;simp)).trans (by simp[go_sem]:(w.alloc (.cells #[.int .i64 (V:Int),.slice a n c] 32)).cell? ⟨w.heap.size,1,none⟩=some (.slice a n c));have HB1:Hid (Below w.heap.size w w1):=Xa (Xe HBA.out hb1);have HS1:=Xa hs1;have hG1:w.heap.size<G:=by simp at hG;omega
 have HGS:Hid (∀i,i<n->w.heap.size<gs i/\gs i<w1.heap.size):=Xa (fun i hi=>⟨by have:=hgs i hi;simp at this;omega,(hs1.set i hi).lt⟩);have hGl:G<w1.heap.size:=hs1.row.lt;have hz1:=HB1.size;have hzw:w.heap.size<w1.heap.size:=oM;have HP1:=Xa (HPR.out w1 HB1.out);clear hb1 hs1 hgs hG HNS HPR HBA
 go_wp2_with fail
 refine HP1.mono ?_;rintro e w2 ⟨U,rfl,hb2,hr2⟩;have HB2:Hid (Below w.heap.size w w2):=Xa (Xe HB1.out hb2);have HPS:Hid (XF w2 (w1.heap.size+1) w2.heap.size (some ⟨w1.heap.size+1,0,none⟩) ((List.range n).map fun i:Nat=>predsFrom xs 0 (i:Int))):=Xa hr2.ints;have HI2:Hid (PuE w2 w2 G n K gs []):=Xa ⟨_,HS1.keep hb2,fun _=>fun _=>vZ,KT.refl _ _ _,fun b _ v=>by simp[Ze]⟩;have q1':=(hb2.cell (p:=⟨w.heap.size,1,none⟩) hzw).trans q1;have hz2:=hb2.size;clear hb2 hr2 HP1 HS1 q0 q1 HB1;have HA2:Hid (Xl w2 L B a xs):=Xa (ha.keep (HB2.mono hB))
 go_wp2_with fail
 go_loopw [22] (fun i wr=>∃k:Nat,k<=n/\i=.int .i64 k/\Hid (PuE w2 wr G n K gs (Uj xs k))) (fun i _=>n-(intOf i).toNat)
 case atStart=>exact⟨0,Nat.zero_le _,rfl,HI2⟩
 case round =>
  obtain⟨k,hk,rfl,HI⟩:=hrel;by_cases hlt:k<n
  ·have hkx:k<xs.length:=by have:=hx.out;omega
   obtain⟨b,o,rfl,hbB,hc⟩:=HA2.out k hkx;have hfr:KT w2 wr n gs:=HI.elim (fun _ h=>h.fr);have HSm:Hid (Xu L B w2 wr):=Xa (fun i h1 h2=>hfr.block i oM (fun j hj e=>by have:=HGS.out j hj;omega));obtain⟨pa,pc,ia,ic,e0,e1,⟨e2,e3,e4,e5⟩,hph,_⟩:=hc.keepS HSm.out (HSm.out b hbB.1 hbB.2);have HPH:=Xa hph;have HNX:=Xa (Zfs (xs:=xs) hkx);have HPA:=Xa (ho.pha k hkx);have HPD:Hid (predsFrom xs 0 (k:Int)=Xh (XH xs xs.length k)):=Xa (Jm (fun x hx t ht=>(ho.okf.tgt x hx t ht).1) k);have hpl:=(ho.lens xs[k] (List.getElem_mem hkx)).2;clear hc hph hfr;generalize xs[k]=X at *
   go_wp2_with fail
   have HIa:Hid (PuE w2 (wr.alloc (.cells #[.slice pa X.phis.length pc,.slice ia X.instrs.length ic,.int .i64 X.term.kind,.int .i64 X.term.a,.int .i64 X.term.to,.int .i64 X.term.els] 57)) G n K gs (Uj xs k)):=Xa (HI.below (Xb (Below.refl _ _) _));have HPHw:Hid (XZ w2 L B pa X.phis):=Xa (HPH.keepS (fun i h1 h2=>(HSm.out i h1 h2).symm));clear HPH HSm e0 e1 e2 e3 e4 e5 HI;generalize wr=wo at *
   go_loopw [30] (fun i wr=>∃j:Nat,j<=X.phis.length/\i=.int .i64 j/\Hid (PuE w2 wr G n K gs (Uj xs k++phT xs k (X.phis.take j)))) (fun i _=>X.phis.length-(intOf i).toNat)
   case atStart=>exact⟨0,Nat.zero_le _,rfl,Xa (by rw[show Uj xs k++phT xs k (X.phis.take 0)=Uj xs k by simp[phT]];exact HIa.out)⟩
   case round =>
    obtain⟨j,hj,rfl,HI⟩:=hrel;by_cases hlj:j<X.phis.length
    ·have hfr:KT w2 wr n gs:=HI.elim (fun _ h=>h.fr)
     have HSm:Hid (Xu L B w2 wr):=Xa (fun i h1 h2=>hfr.block i oM (fun j hj e=>by have:=HGS.out j hj;omega));obtain⟨b2,o2,rfl,hb2B,ap,cp,f0,f1,hargs⟩:=(HPHw.keepS HSm.out) j hlj;have HAR:Hid (Xg w2 L B ap X.phis[j].args):=Xa (hargs.keepS (fun i h1 h2=>(HSm.out i h1 h2).symm));have HTX:=Xa (Zez (xs:=xs) (t:=k) hlj);obtain⟨hal,hav⟩:=HPA.out X.phis[j] (List.getElem_mem hlj);have HAV:=Xa hav;clear hfr hargs hav;generalize X.phis[j]=ph at *;have hpn:(XH xs xs.length k).length<=n:=by have:=VL (xs:=xs) (n:=xs.length) (b:=k);have:=hx.out;omega
     have hal2:ph.args.length=(XH xs xs.length k).length:=by rw[hal,HPD.out];simp[Xh]
     have HAL:=Xa hal2;have halb:ph.args.length<=1000:=oM;clear hal hal2
     go_wp2_with fail
     have HIb:Hid (PuE w2 (wr.alloc (.cells #[.int .i64 ph.dst,.slice ap ph.args.length cp] 64)) G n K gs (Uj xs k++phT xs k (X.phis.take j))):=Xa (HI.below (Xb (Below.refl _ _) _));clear HI f0 f1 HSm;generalize wr=wo2 at *
     go_loopw [37] (fun i wr=>∃q:Nat,q<=ph.args.length/\i=.int .i64 q/\Hid (PuE w2 wr G n K gs (Uj xs k++phT xs k (X.phis.take j)++((XH xs xs.length k).zip (Xt ph.args)).take q))) (fun i _=>ph.args.length-(intOf i).toNat)
     case atStart=>exact⟨0,Nat.zero_le _,rfl,Xa (by rw[List.take_zero,List.append_nil];exact HIb.out)⟩
     case round =>
      obtain⟨q,hq,rfl,HI⟩:=hrel;by_cases hlq:q<ph.args.length
      ·obtain⟨Ws,hW⟩:=HI.out
       have hfr:=hW.fr;obtain⟨b3,o3,rfl,hb3,r0⟩:=HAR.out q hlq;have r0':=(Xc (hfr.block b3 oM (fun i hi e=>by have:=HGS.out i hi;omega))).trans r0;obtain⟨b4,o4,e4,hb4,a4,c4,r1,hi4⟩:=HPS.out k (by simpa using hlt);injection e4 with e4;injection e4 with e5 e6;subst e5;subst e6;have r1':=(Xc (hfr.block (w1.heap.size+1) hb4.2 (fun i hi e=>by have:=HGS.out i hi;omega))).trans r1;simp only[List.getElem_map,List.getElem_range,HPD.out]at r1' hi4;have hqp:q<(XH xs xs.length k).length:=by have:=HAL.out;omega
       obtain⟨b5,o5,e7,hb5,r2⟩:=hi4 q (by simpa [Xh]using hqp);subst e7;have r2':=(Xc (hfr.block b5 hb5.2 (fun i hi e=>by have:=HGS.out i hi;omega))).trans r2;have hpq:(Xh (XH xs xs.length k))[q]'(by simpa [Xh]using hqp)=(((XH xs xs.length k)[q]:Nat):Int):=by simp[Xh]
       rw[hpq]at r2';have hpl:(XH xs xs.length k)[q]<n:=by have:=(Kn.1 (List.getElem_mem hqp)).1;have:=hx.out;omega
       have hvq:=HAV.out ph.args[q] (List.getElem_mem hlq);have HZ:Hid (((XH xs xs.length k).zip (Xt ph.args)).take (q+1)=((XH xs xs.length k).zip (Xt ph.args)).take q++[((XH xs xs.length k)[q],ph.args[q].toNat)]):=Xa (by
        rw[Xr _ _ (by simp[Xt];omega)];simp[Xt])
       obtain⟨vv,hvv⟩:=Int.eq_ofNat_of_zero_le hvq.1;rw[hvv]at r0' hvq HZ;simp only[Int.toNat_natCast]at HZ;have hln4:(Xh (XH xs xs.length k)).length=(XH xs xs.length k).length:=by simp[Xh]
       rw[hln4,Nat.zero_add]at r1';have hpe:=HAL.out;rw[<-hpe]at r1';have HW:=Xa hW;clear hW hfr r0 r1 r2 hi4 hpq hvv HI hpe hln4;generalize (XH xs xs.length k)[q]=p at *;have hG0:=HW.sets.row.cell hpl;have hvl:vv<V:=oM;clear hvq
       go_wp2_with fail
       have HWa:=Xa (HW.below (Xb (Below.refl _ _) (.cells #[.int .i64 (vv:Int)] 72)));have hgl:gs p<wr.heap.size:=(HW.sets.set p hpl).lt;have hza:wr.heap.size+1<=(wr.alloc (.cells #[.int .i64 (vv:Int)] 72)).heap.size:=sP;have HIO:Hid (Xg (wr.alloc (.cells #[.int .i64 (vv:Int)] 72)) wr.heap.size (wr.heap.size+1) (some ⟨wr.heap.size,0,none⟩) ([vv].map Int.ofNat)):=Xa (Tg wr vv _);have HTV:∀t∈[vv],t<64*K:=fun t ht=>by
        have e:t=vv:=by simpa using ht
        omega
       refine(YW (gs p) K K 1 1 (Ws p) _ [vv] wr.heap.size (wr.heap.size+1) _ HIO (Xa rfl) oM (Xa HTV) oM (Xa (HW.wd p)) (Xa (HWa.sets.set p hpl)) hza oM).mono ?_;rintro e w5 ⟨rfl,hg5,hr5⟩;have HW5:=Xa (HWa.add hpl hg5 hr5);clear hg5 hr5 HWa HIO hG0 r0' r1' r2'
       go_wp2_with fail
       exact⟨⟨q+1,oM,gM,Xa ⟨_,by rw[HZ.out,<-List.append_assoc];exact HW5.out⟩⟩,by simp[intOf];omega⟩
      ·have hqe:q=ph.args.length:=oM
       have HZ:Hid (((XH xs xs.length k).zip (Xt ph.args)).take q=(XH xs xs.length k).zip (Xt ph.args)):=Xa (List.take_of_length_le (by simp[Xt];omega));rw[HZ.out]at HI;clear hqe
       go_wp2_with fail
       exact⟨⟨j+1,oM,gM,Xa (by rw[HTX.out,<-List.append_assoc];exact HI.out)⟩,by simp[intOf];omega⟩
    ·have hje:j=X.phis.length:=oM
     have HZ:Hid (X.phis.take j=X.phis):=Xa (List.take_of_length_le oM);rw[HZ.out]at HI;clear hje
     go_wp2_with fail
     exact⟨⟨k+1,oM,gM,Xa (by rw[HNX.out];exact HI.out)⟩,by simp[intOf];omega⟩
  ·have hke:k=n:=oM
   subst hke;go_wp2
   go_ret
   obtain⟨Ws,hW⟩:=HI.out;refine⟨G,gs,Ws,rfl,oM,⟨hW.fr.os.trans HB2.os,hW.fr.tape.trans HB2.tape,hW.fr.output.trans HB2.output,Nat.le_trans HB2.size hW.fr.size,fun i hi=>(hW.fr.block i (by have:=HB2.size;omega) (fun j hj e=>by have:=HGS.out j hj;omega)).trans (HB2.block i hi)⟩,hW.sets,fun i hi=>by have:=HGS.out i hi;omega,hW.wd,hW.has⟩
end Go.Proofs.YthgikffcdgpgiaaGreatDoor
