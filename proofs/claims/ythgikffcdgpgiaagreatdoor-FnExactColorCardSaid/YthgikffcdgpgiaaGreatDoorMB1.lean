import Derived.Test.YthgikffcdgpgiaaGreatDoorVP1
namespace Go.Proofs.YthgikffcdgpgiaaGreatDoor
set_option maxHeartbeats 4000000
set_option maxRecDepth 100000
open Go.RowKit
theorem Zbb(x:Xi)(E:List Int)(us:Nat->Value)(v:Int)(w:World)(h:Hid (TQ w (fun _=>True) us x E))(hln:Hid (x.instrs.length<=4000))(hE:Hid (E.length<=8000000))(u0 u1 u2 u3 u4 u5:Value)(h2:us 2=u2)(h3:us 3=u3)(h4:us 4=u4)(h5:us 5=u5) :
 Calls Tryz.prog 78 #[.agg #[u0,u1,u2,u3,u4,u5],.int .i64 v] w fun e w'=>e=.returned (.int .i64 (bareM x E v:Nat))/\Below w.heap.size w w':=by
 obtain⟨a2,c2,e2,i2⟩:=h.e2;obtain⟨a3,c3,e3,i3⟩:=h.e3;obtain⟨a4,c4,e4,i4⟩:=h.e4;obtain⟨a5,c5,e5,i5⟩:=h.e5;rw[e2]at h2;rw[e3]at h3;rw[e4]at h4;rw[e5]at h5;subst h2 h3 h4 h5;have H2:=Xa i2;have H3:=Xa i3;have H4:=Xa i4;have H5:=Xa i5;have HL3:Hid ((Zz x).length=x.instrs.length):=Xa (by unfold Zz;simp);have HL4:Hid ((YN x).length=x.instrs.length):=Xa (by unfold YN;simp);obtain⟨n3,hn3⟩:∃m,m=(Zz x).length:=⟨_,rfl⟩;obtain⟨n4,hn4⟩:∃m,m=(YN x).length:=⟨_,rfl⟩;obtain⟨n5,hn5⟩:∃m,m=(rdT x.term).length:=⟨_,rfl⟩;obtain⟨n2,hn2⟩:∃m,m=E.length:=⟨_,rfl⟩;rw[<-hn3,<-hn4,<-hn5,<-hn2];have h34:n3=n4:=by rw[hn3,hn4,HL3.out,HL4.out]
 subst h34;have h4000:n3<=4000:=by rw[hn3,HL3.out];exact hln.out
 have hn5':n5<=1:=by rw[hn5];unfold rdT;split<;>simp
 have hn2':n2<=8000000:=by rw[hn2];exact hE.out
 have HN3:=Xa hn3;have HN4:=Xa hn4;have HN5:=Xa hn5;have HN2:=Xa hn2;clear hn3 hn4 hn5 hn2 e2 e3 e4 e5 i2 i3 i4 i5;have HBB:Hid (bareM x E v=XN v (hasI (rdT x.term) v||hasI E v) x.instrs):=Xa rfl;generalize bareM x E v=bm at *;have hb0:Below w.heap.size w (w.alloc (.cells #[u0,u1,.slice a2 n2 c2,.slice a3 n3 c3,.slice a4 n3 c4,.slice a5 n5 c5] 102)):=Xb (Below.refl _ _) _;have hc:∀q' v',#[u0,u1,Value.slice a2 n2 c2,.slice a3 n3 c3,.slice a4 n3 c4,.slice a5 n5 c5][q']?=some v'->(w.alloc (.cells #[u0,u1,.slice a2 n2 c2,.slice a3 n3 c3,.slice a4 n3 c4,.slice a5 n5 c5] 102)).cell? ⟨w.heap.size,q',none⟩=some v':=fun q' v' h=>by
  rw[World.cell?_alloc_new];exact h
 go_enter Tryz.func78,Tryz.ntmps78
 go_wp2_with fail
 have HB0:=Xa hb0;have HC:=Xa hc;generalize w.alloc (.cells #[u0,u1,.slice a2 n2 c2,.slice a3 n3 c3,.slice a4 n3 c4,.slice a5 n5 c5] 102)=W at *;have k2:W.cell? ⟨w.heap.size,2,none⟩=some (.slice a2 n2 c2):=HC.out 2 _ rfl;have k3:W.cell? ⟨w.heap.size,3,none⟩=some (.slice a3 n3 c3):=HC.out 3 _ rfl;have k4:W.cell? ⟨w.heap.size,4,none⟩=some (.slice a4 n3 c4):=HC.out 4 _ rfl;have k5:W.cell? ⟨w.heap.size,5,none⟩=some (.slice a5 n5 c5):=HC.out 5 _ rfl;have hzW:=hb0.size;have H2W:Hid (Xg W 0 w.heap.size a2 E):=Xa (H2.at_.keep hb0);have H5W:Hid (Xg W 0 w.heap.size a5 (rdT x.term)):=Xa (H5.at_.keep hb0);have HHE:=Xa (T2 a2 n2 c2 v E 0 w.heap.size W H2W HN2 oM);have HHT:=Xa (XS a5 n5 c5 v (rdT x.term) 0 w.heap.size W H5W HN5 oM);clear hb0 hc HC
 go_loop [5] (fun i=>∃k:Nat,k<=n3/\i=.int .i64 k/\Hid (bm=XN v (hasI (rdT x.term) v||hasI E v) (x.instrs.drop k))) (fun i=>n3-(intOf i).toNat)
 case atStart=>exact⟨0,Nat.zero_le _,rfl,Xa (by rw[HBB.out];rfl)⟩
 case round =>
  obtain⟨k,hk,rfl,HF⟩:=hrel;by_cases hlt:k<n3
  ·have hkx:k<x.instrs.length:=by rw[<-HL3.out,<-HN3.out];exact hlt
   have hk3:k<(Zz x).length:=by rw[<-HN3.out];exact hlt
   have hk4:k<(YN x).length:=by rw[<-HN4.out];exact hlt
   obtain⟨b3,o3,rfl,⟨_,hb3⟩,ar,cr,hcr,hir⟩:=H3.out k hk3;obtain⟨b4,o4,rfl,⟨_,hb4⟩,hcd⟩:=H4.out k hk4;have er:(Zz x)[k]=rdI x.instrs[k]:=by simp[Zz]
   have ed:(YN x)[k]=defI x.instrs[k]:=by simp[YN]
   rw[er]at hcr hir;rw[ed]at hcd;have l3:=(HB0.cell (p:=⟨b3,o3+k,none⟩) hb3).trans hcr;have l4:=(HB0.cell (p:=⟨b4,o4+k,none⟩) hb4).trans hcd;have HFD:Hid (XN v (hasI (rdT x.term) v||hasI E v) (x.instrs.drop k)=if hasI (rdI x.instrs[k]) v then 1 else if defI x.instrs[k]=v then 2 else XN v (hasI (rdT x.term) v||hasI E v) (x.instrs.drop (k+1))):=Xa (by rw[List.drop_eq_getElem_cons hkx];rfl);have HIR:Hid (Xg W 0 w.heap.size ar (rdI x.instrs[k])):=Xa (hir.at_.keep HB0.out);obtain⟨nr,hnr⟩:∃m,m=(rdI x.instrs[k]).length:=⟨_,rfl⟩;rw[<-hnr]at l3;have hnr2:nr<=2:=by rw[hnr];exact Zat _
   have HHR:=Xa (XS ar nr cr v (rdI x.instrs[k]) 0 w.heap.size W HIR (Xa hnr) oM);clear hcr hcd hir er ed hnr;generalize rdI x.instrs[k]=ri at *;generalize defI x.instrs[k]=df at *
   go_wp2_with fail
   refine HHR.mono ?_;rintro e w3 ⟨rfl,hw3⟩;rw[hw3];clear hw3;cases hh:hasI ri v with
   | true =>
    have HBM:Hid (bm=1):=Xa (by rw[HF.out,HFD.out,hh];rfl);clear hh
    go_wp2_with fail
    go_ret
    exact⟨by rw[HBM.out];rfl,HB0.out⟩
   | false =>
    have HF2:Hid (bm=if df=v then 2 else XN v (hasI (rdT x.term) v||hasI E v) (x.instrs.drop (k+1))):=Xa (by rw[HF.out,HFD.out,hh];rfl);clear hh;by_cases hd:df=v
    ·have HBM:Hid (bm=2):=Xa (by rw[HF2.out,if_pos hd])
     have hdb:(df==v)=true:=by simp[hd]
     clear hd
     go_wp2_with fail
     go_ret
     exact⟨by rw[HBM.out];rfl,HB0.out⟩
    ·have HF3:Hid (bm=XN v (hasI (rdT x.term) v||hasI E v) (x.instrs.drop (k+1))):=Xa (by rw[HF2.out,if_neg hd])
     have hdb:(df==v)=false:=by simp[hd]
     clear hd
     go_wp2_with fail
     go_round
     case rel=>exact⟨k+1,oM,gM,HF3⟩
     case measure=>simp[intOf];omega
  ·have HBM:Hid (bm=if (hasI (rdT x.term) v||hasI E v)then 1 else 0):=Xa (by rw[HF.out,List.drop_eq_nil_of_le (by rw[<-HL3.out,<-HN3.out];omega)];rfl)
   go_wp2_with fail
   refine HHT.mono ?_;rintro e w3 ⟨rfl,hw3⟩;rw[hw3];clear hw3;cases ht:hasI (rdT x.term) v with
   | true =>
    have HB2:Hid (bm=1):=Xa (by rw[HBM.out,ht];rfl);clear ht
    go_wp2_with fail
    go_ret
    exact⟨by rw[HB2.out];rfl,HB0.out⟩
   | false =>
    have HB2:Hid (bm=if hasI E v then 1 else 0):=Xa (by rw[HBM.out,ht];rfl);clear ht
    go_wp2_with fail
    refine HHE.mono ?_;rintro e w4 ⟨rfl,hw4⟩;rw[hw4];clear hw4;cases ht:hasI E v with
    | true =>
     have HB3:Hid (bm=1):=Xa (by rw[HB2.out,ht];rfl);clear ht
     go_wp2_with fail
     go_ret
     exact⟨by rw[HB3.out];rfl,HB0.out⟩
    | false =>
     have HB3:Hid (bm=0):=Xa (by rw[HB2.out,ht];rfl);clear ht
     go_wp2_with fail
     go_ret
     exact⟨by rw[HB3.out];rfl,HB0.out⟩
def phL(xs:List Xi)(b:Nat):List Int:=match xs[b]? with
 | none=>[]
 | some x=>x.phis.map Ph.dst
def rtL(xs:List Xi)(b:Nat):List Int:=match xs[b]? with
 | none=>[]
 | some x=>rdT x.term
def KJ(xs:List Xi)(b:Nat):List Int:=match xs[b]? with
 | none=>[]
 | some x=>YN x
def rdL(xs:List Xi)(b:Nat):List (List Int):=match xs[b]? with
 | none=>[]
 | some x=>Zz x
theorem Zah(xs:List Xi)(b v:Nat):Yt xs b v=hasI (phL xs b) (v:Int):=by
 unfold Yt phL;cases xs[b]?<;>rfl
structure FcB(W:World)(base:Nat)(xs:List Xi)(b:Nat)(a0:Option Addr)(n0:Nat)(a1:Option Addr)(n1:Nat)(a2:Option Addr)(n2:Nat)(a3:Option Addr)(n3:Nat)(a4:Option Addr)(n4:Nat)(a5:Option Addr)(n5:Nat)(c0 c1 c2 c3 c4 c5:Nat):Prop where
 t:n0=(Xx xs b).length/\Xg W 0 base a0 (Xh (Xx xs b))
 p:n1=(phL xs b).length/\Xg W 0 base a1 (phL xs b)
 e:n2=(XB xs b).length/\Xg W 0 base a2 (XB xs b)
 r:n3=(rdL xs b).length/\JO W (fun q=>q<base) a3 (rdL xs b)
 d:n4=(KJ xs b).length/\Xg W 0 base a4 (KJ xs b)
 u:n5=(rtL xs b).length/\Xg W 0 base a5 (rtL xs b)
 bare:∀v:Nat,Calls Tryz.prog 78 #[.agg #[.slice a0 n0 c0,.slice a1 n1 c1,.slice a2 n2 c2,.slice a3 n3 c3,.slice a4 n4 c4,.slice a5 n5 c5],.int .i64 (v:Int)] W fun e w'=>e=.returned (.int .i64 (barB xs b v:Nat))/\Below W.heap.size W w'
theorem Yp.row{V:Nat}{xs:List Xi}(ho:ZZ V xs){w W:World}{bf of:Nat}(h:Yp w (some ⟨bf,of,none⟩) xs)(k:Below w.heap.size w W){b:Nat}(hb:b<xs.length) :
 ∃a0 n0 a1 n1 a2 n2 a3 n3 a4 n4 a5 n5 c0 c1 c2 c3 c4 c5,bf<w.heap.size/\W.cell? ⟨bf,of+b*6,none⟩=some (.slice a0 n0 c0)/\W.cell? ⟨bf,of+b*6+1,none⟩=some (.slice a1 n1 c1)/\W.cell? ⟨bf,of+b*6+2,none⟩=some (.slice a2 n2 c2)/\W.cell? ⟨bf,of+b*6+3,none⟩=some (.slice a3 n3 c3)/\W.cell? ⟨bf,of+b*6+4,none⟩=some (.slice a4 n4 c4)/\W.cell? ⟨bf,of+b*6+5,none⟩=some (.slice a5 n5 c5)/\n0<=2/\n1<=4000/\n2<=8000000/\n4<=4000/\n5<=1/\FcB W w.heap.size xs b a0 n0 a1 n1 a2 n2 a3 n3 a4 n4 a5 n5 c0 c1 c2 c3 c4 c5:=by
 obtain⟨bf',of',us,e,hbf,hus,hfa⟩:=h b hb;injection e with e;injection e with e1 e2;subst e1 e2;have hc:∀j,j<6->W.cell? ⟨bf,of+b*6+j,none⟩=some (us j):=fun j hj=>(k.cell (p:=⟨bf,of+b*6+j,none⟩) hbf).trans (hus j hj)
 have hfW:=hfa.keep (fun q hq _=>k.block q hq) k.size;obtain⟨a0,c0,e0,i0⟩:=hfa.e0;obtain⟨a1,c1,e1,i1⟩:=hfa.e1;obtain⟨a2,c2,e2,i2⟩:=hfa.e2;obtain⟨a3,c3,e3,i3⟩:=hfa.e3;obtain⟨a4,c4,e4,i4⟩:=hfa.e4;obtain⟨a5,c5,e5,i5⟩:=hfa.e5;have x0:=hc 0 vZ;have x1:=hc 1 vZ;have x2:=hc 2 vZ;have x3:=hc 3 vZ;have x4:=hc 4 vZ;have x5:=hc 5 vZ;rw[e0]at x0;rw[e1]at x1;rw[e2]at x2;rw[e3]at x3;rw[e4]at x4;rw[e5]at x5;have hlx:=ho.lens xs[b] (List.getElem_mem hb);have htg:xs[b].term.targets=Xh (Xx xs b):=by rw[Uk ho.okf hb,TI hb]
 have hel:(XB xs b).length<=8000000:=by
  unfold XB;rw[List.getElem?_eq_getElem hb];have h1:=Tc ho ((b:Nat):Int) xs[b].term.targets;have h2:=Jr xs[b].term;simp only;omega
 have hT:(rdT xs[b].term).length<=1:=by unfold rdT;split<;>simp
 have hph:phL xs b=xs[b].phis.map Ph.dst:=by unfold phL;rw[List.getElem?_eq_getElem hb]
 have hrt:rtL xs b=rdT xs[b].term:=by unfold rtL;rw[List.getElem?_eq_getElem hb]
 have hdf:KJ xs b=YN xs[b]:=by unfold KJ;rw[List.getElem?_eq_getElem hb]
 have hrd:rdL xs b=Zz xs[b]:=by unfold rdL;rw[List.getElem?_eq_getElem hb]
 have hbb:∀v:Nat,barB xs b v=bareM xs[b] (XB xs b) (v:Int):=fun v=>by unfold barB;rw[List.getElem?_eq_getElem hb]
 refine⟨a0,_,a1,_,a2,_,a3,_,a4,_,a5,_,c0,c1,c2,c3,c4,c5,hbf,x0,x1,x2,x3,x4,x5,Jr _,by rw[List.length_map];exact hlx.2,hel,by unfold YN;rw[List.length_map];exact hlx.1,hT,⟨⟨by rw[htg];simp[Xh],?_⟩,⟨by rw[hph],?_⟩,⟨rfl,i2.at_.keep k⟩,⟨by rw[hrd],?_⟩,⟨by rw[hdf],?_⟩,⟨by rw[hrt],?_⟩,fun v=>?_⟩⟩
 ·rw[<-htg];exact i0.at_.keep k
 ·rw[hph];exact i1.at_.keep k
 ·rw[hrd]
  intro i hi;obtain⟨b',o',e',hb',a',c',hc',h2'⟩:=i3 i hi;exact⟨b',o',e',⟨hb'.2,Nat.lt_of_lt_of_le hb'.2 k.size⟩,a',c',(k.cell (p:=⟨b',o' + i,none⟩) hb'.2).trans hc',fun j hj=>by
   obtain⟨b2,o2,e2,hb2,hc2⟩:=h2' j hj;exact⟨b2,o2,e2,⟨hb2.2,Nat.lt_of_lt_of_le hb2.2 k.size⟩,(k.cell (p:=⟨b2,o2+j,none⟩) hb2.2).trans hc2⟩⟩
 ·rw[hdf];exact i4.at_.keep k
 ·rw[hrt];exact i5.at_.keep k
 ·rw[hbb]
  exact Zbb xs[b] (XB xs b) us (v:Int) W (Xa hfW) (Xa hlx.1) (Xa hel) _ _ _ _ _ _ e2 e3 e4 e5
def Ku(lv:Nat->Bool)(n:Nat):Nat:=(List.range n).countP lv
theorem Zdb(lv:Nat->Bool)(n:Nat):Ku lv n<=n:=Nat.le_trans List.countP_le_length sP
theorem VN(lv:Nat->Bool)(n:Nat):Ku lv (n+1)=Ku lv n+(if lv n then 1 else 0):=by
 unfold Ku;rw[List.range_succ,List.countP_append];simp[List.countP_cons]
theorem Vh{lv lv':Nat->Bool}{n:Nat}(h:∀b,b<n->lv b=lv' b):Ku lv n=Ku lv' n:=by
 unfold Ku;exact List.countP_congr (fun x hx=>by rw[h x (List.mem_range.1 hx)])
theorem Za5{lv:Nat->Bool}{b:Nat}(hl:lv b=false):∀n,b<n->Ku (fun z=>if z=b then true else lv z) n=Ku lv n+1
 | 0,h=>absurd h oM
 | n+1,h=>by
  rw[VN,VN];by_cases e:b=n
  ·subst e
   rw[Vh (lv':=lv) (fun z hz=>by simp[show z≠b by omega])];simp[hl]
  ·rw[Za5 hl n oM]
   have:n≠b:=oM;simp only[this,if_false];omega
theorem ZfP{lv:Nat->Bool}{b n:Nat}(hb:b<n)(h:lv b=true):0<Ku lv n:=by
 unfold Ku;exact List.countP_pos_iff.2 ⟨b,List.mem_range.2 hb,h⟩
structure BhI(xs:List Xi)(v n:Nat)(lv0 lv:Nat->Bool)(b:Nat)(gr:Bool):Prop where
 snd:∀z,z<n->lv z=true->TR xs v z
 here:∀z,z<n->barB xs z v=1->lv z=true
 no:gr=false->(∀z,z<n->lv z=lv0 z)/\∀z,z<b->barB xs z v=0->∀t∈Xx xs z,lv t=true->Yt xs t v=false->lv z=true
 yes:gr=true->Ku lv0 n<Ku lv n/\0<Ku lv0 n
theorem BhI.start{xs:List Xi}{v n:Nat}{lv:Nat->Bool}(h1:∀z,z<n->lv z=true->TR xs v z)(h2:∀z,z<n->barB xs z v=1->lv z=true):BhI xs v n lv lv 0 false :=
 ⟨h1,h2,fun _=>⟨fun _ _=>rfl,fun z hz=>absurd hz oM⟩,fun h=>by cases h⟩
theorem BhI.set{xs:List Xi}{v n b t:Nat}{lv0 lv:Nat->Bool}{gr:Bool}(h:BhI xs v n lv0 lv b gr)(hn:n=xs.length)(hb:b<n)(ht:t∈Xx xs b)(htn:t<n)(h0:barB xs b v=0)(hl:lv b=false)(h1:lv t=true)(h2:Yt xs t v=false):BhI xs v n lv0 (fun z=>if z=b then true else lv z) b true:=by
 refine⟨fun z hz he=>?_,fun z hz he=>?_,fun e=>(by cases e),fun _=>?_⟩
 ·by_cases e:z=b
  ·subst e
   exact TR.step oM h0 ht h2 (h.snd t htn h1)
  ·simp only[e,if_false]at he
   exact h.snd z hz he
 ·by_cases e:z=b
  ·simp[e]
  ·simp only[e,if_false]
   exact h.here z hz he
 ·rw[Za5 hl n hb]
  cases hg:gr with
  | false =>
   have e:=Vh (h.no hg).1;rw[e];refine⟨oM,?_⟩;rw[<-e];exact ZfP htn h1
  | true =>
   have:=h.yes hg;omega
theorem BhI.next{xs:List Xi}{v n b:Nat}{lv0 lv:Nat->Bool}{gr:Bool}(h:BhI xs v n lv0 lv b gr)(hc:gr=false->barB xs b v=0->∀t∈Xx xs b,lv t=true->Yt xs t v=false->lv b=true):BhI xs v n lv0 lv (b+1) gr :=
 ⟨h.snd,h.here,fun e=>⟨(h.no e).1,fun z hz=>by
  by_cases e2:z=b
  ·subst e2;exact hc e
  ·exact(h.no e).2 z oM⟩,h.yes⟩
theorem BhI.done{xs:List Xi}{v n:Nat}{lv0 lv:Nat->Bool}(h:BhI xs v n lv0 lv n false)(hn:n=xs.length):∀b,b<n->(lv b=true↔TR xs v b):=by
 subst hn;exact fun b hb=>Zd0 h.snd h.here (h.no rfl).2 hb
section
structure BhW(w wr:World)(n:Nat)(lv op:Nat->Bool):Prop where
 low:Below w.heap.size w wr
 r1:wr.rowIs w.heap.size 4 n (fun b=>.bool (lv b))
 r2:wr.rowIs (w.heap.size+1) 4 n (fun b=>.bool (op b))
 sz:w.heap.size+2<=wr.heap.size
section
variable {w wr wr' : World} {n : Nat} {lv op : Nat -> Bool}
theorem BhW.below(h:BhW w wr n lv op)(k:Below wr.heap.size wr wr'):BhW w wr' n lv op :=
 ⟨Xe h.low k,h.r1.of_block (k.block _ h.r1.lt),h.r2.of_block (k.block _ h.r2.lt),Nat.le_trans h.sz k.size⟩
theorem BhW.congr{lv' op':Nat->Bool}(h:BhW w wr n lv op)(e1:∀z,z<n->lv z=lv' z)(e2:∀z,z<n->op z=op' z):BhW w wr n lv' op':=⟨h.low,KR (C:=Value.bool) h.r1 e1,KR (C:=Value.bool) h.r2 e2,h.sz⟩
theorem BhW.set1(h:BhW w wr n lv op)(b:Nat)(q:Bool):BhW w (wr.setCell ⟨w.heap.size,b,none⟩ (.bool q)) n (fun z=>if z=b then q else lv z) op :=
 ⟨h.low.setCell (Nat.le_refl _) _,Kl (C:=Value.bool) h.r1 b q,h.r2.setOther (by show w.heap.size+1≠w.heap.size;omega) _,by rw[Xd];exact h.sz⟩
theorem BhW.set2(h:BhW w wr n lv op)(b:Nat)(q:Bool):BhW w (wr.setCell ⟨w.heap.size+1,b,none⟩ (.bool q)) n lv (fun z=>if z=b then q else op z) :=
 ⟨h.low.setCell (by show w.heap.size<=w.heap.size+1;omega) _,h.r1.setOther (by show w.heap.size≠w.heap.size+1;omega) _,Kl (C:=Value.bool) h.r2 b q,by rw[Xd];exact h.sz⟩
end
def RnI(xs:List Xi)(v n k:Nat)(lv:Nat->Bool):Prop:=(∀z,z<n->lv z=true->TR xs v z)/\(∀z,z<n->barB xs z v=1->lv z=true)/\(n<k+Ku lv n\/(k=n/\Ku lv n=0))
def BhR(w wr:World)(xs:List Xi)(v n:Nat)(lv op:Nat->Bool)(gr:Value)(b:Nat):Prop:=∃(g:Bool)(lv':Nat->Bool),gr=.bool g/\BhW w wr n lv' op/\BhI xs v n lv lv' b g
def BhJ(w wr:World)(xs:List Xi)(v n:Nat)(lv op:Nat->Bool)(gr:Value)(b j:Nat):Prop:=∃(g:Bool)(lv':Nat->Bool),gr=.bool g/\BhW w wr n lv' op/\BhI xs v n lv lv' b g/\(lv' b=false->∀r,r<j->∀t,(Xx xs b)[r]?=some t->¬(lv' t=true/\Yt xs t v=false))
theorem ZcN(V v n c bf of:Nat)(xs:List Xi)(w:World)(hF:Hid (Yp w (some ⟨bf,of,none⟩) xs))(hx:Hid (n=xs.length))(ho:Hid (ZZ V xs)) :
 Calls Tryz.prog 48 #[.slice (some ⟨bf,of,none⟩) n c,.int .i64 (v:Int)] w fun e w'=>∃g,e=.returned (.slice (some ⟨g,0,none⟩) n n)/\Below w.heap.size w w'/\w.heap.size<=g/\∃lv:Nat->Bool,w'.rowIs g 4 n (fun b=>.bool (lv b))/\∀b,b<n->(lv b=true↔TR xs v b):=by
 have hn:n<=1000:=by have:=hx.out;have:=ho.okf.n2;omega
 have hn0:0<n:=by have:=hx.out;have:=ho.okf.n1;omega
 have hmk:=run_make_row' (P:=Tryz.prog) 46 4 (.bool false) 1 Tryz.underlying46 Tryz.infoBo rfl .i64 .i64 n oM oM;have HR1:=Xa (World.rowIs_made w (.bool false) n 4);have HR2:=Xa (World.rowIs_made (w.alloc (.cells (madeCells #[.bool false] n) 4)) (.bool false) n 4)
 go_enter Tryz.func48,Tryz.ntmps48
 go_wp2_with fail
 have HW0:Hid (BhW w ((w.alloc (.cells (madeCells #[.bool false] n) 4)).alloc (.cells (madeCells #[.bool false] n) 4)) n (fun z=>decide (z<0)&&decide (barB xs z v=1)) (fun z=>decide (z<0)&&decide (barB xs z v=0))):=Xa ⟨Xb (Xb (Below.refl _ _) _) _,KR (C:=Value.bool) (HR1.alloc _) (fun z _=>sP),KR (C:=Value.bool) (by have:=HR2.out;rwa[World.size_alloc]at this) (fun z _=>sP),sP⟩;clear HR1 HR2 hmk;generalize (w.alloc (.cells (madeCells #[.bool false] n) 4)).alloc (.cells (madeCells #[.bool false] n) 4)=w2 at *
 go_loopw [7] (fun i wr=>∃b:Nat,b<=n/\i=.int .i64 b/\Hid (BhW w wr n (fun z=>decide (z<b)&&decide (barB xs z v=1)) (fun z=>decide (z<b)&&decide (barB xs z v=0)))) (fun i _=>n-(intOf i).toNat)
 case atStart=>exact⟨0,Nat.zero_le _,rfl,HW0⟩
 case round =>
  clear HW0;obtain⟨b,hb,rfl,HW⟩:=hrel;by_cases hlt:b<n
  ·obtain⟨a0,n0,a1,n1,a2,n2,a3,n3,a4,n4,a5,n5,c0,c1,c2,c3,c4,c5,hbf,x0,x1,x2,x3,x4,x5,_,_,_,_,_,hfc⟩:=Yp.row ho.out hF.out HW.low (show b<xs.length by have:=hx.out;omega)
   have HBR:=Xa (hfc.bare v);clear hfc
   go_wp2_with fail
   refine HBR.mono ?_;rintro e w3 ⟨rfl,hb3⟩;have HW3:=Xa (HW.below hb3);have k1:=HW3.r1.cell hlt;have k2:=HW3.r2.cell hlt;have z1:=HW3.r1.frozen b;have z2:=HW3.r2.frozen b;clear hb3 HBR x0 x1 x2 x3 x4 x5;obtain⟨q1,hq1⟩:∃q:Bool,(((barB xs b v:Nat):Int)==1)=q:=⟨_,rfl⟩;obtain⟨q2,hq2⟩:∃q:Bool,(((barB xs b v:Nat):Int)==0)=q:=⟨_,rfl⟩;have HQ:Hid (q1=decide (barB xs b v=1)/\q2=decide (barB xs b v=0)):=Xa (by
    rw[<-hq1,<-hq2];constructor
    ·rw[Bool.eq_iff_iff,beq_iff_eq,decide_eq_true_eq];omega
    ·rw[Bool.eq_iff_iff,beq_iff_eq,decide_eq_true_eq];omega)
   have k2':∀u,(w3.setCell ⟨w.heap.size,b,none⟩ u).cell? ⟨w.heap.size+1,b,none⟩=w3.cell? ⟨w.heap.size+1,b,none⟩:=fun u=>World.cell?_of_block (Below.heap_setCell _ _ _ _ (by show w.heap.size+1≠w.heap.size;omega))
   go_wp2_with fail
   exact⟨⟨b+1,oM,gM,Xa (((HW3.set1 b q1).set2 b q2).congr (fun z hz=>by
    by_cases e:z=b
    ·subst e;simp[HQ.1]
    ·have:z<b+1↔z<b:=oM
     simp[e,this]) (fun z hz=>by
    by_cases e:z=b
    ·subst e;simp[HQ.2]
    ·have:z<b+1↔z<b:=oM
     simp[e,this]))⟩,by simp[intOf];omega⟩
  ·have hbe:n=b:=oM
   have HW1:Hid (BhW w wr n (fun z=>decide (barB xs z v=1)) (fun z=>decide (barB xs z v=0))):=Xa (HW.congr (fun z hz=>by simp[<-hbe,hz]) (fun z hz=>by simp[<-hbe,hz]));subst hbe;clear HW;have HRN:Hid (RnI xs v n n (fun z=>decide (barB xs z v=1))):=Xa ⟨fun z hz h=>TR.here (by have:=hx.out;omega) (of_decide_eq_true h),fun z _ h=>decide_eq_true h,oM⟩
   go_wp2_with fail
   generalize (fun z=>decide (barB xs z v=1))=lv0 at *;generalize hop:(fun z=>decide (barB xs z v=0))=op0 at *;have HOP:Hid (∀z,op0 z=decide (barB xs z v=0)):=Xa (fun z=>by rw[<-hop]);clear hop;generalize wr=w5 at *
   go_loopw [9] (fun r wr=>∃(k:Nat)(lv:Nat->Bool),k<=n/\r=.int .i64 k/\Hid (BhW w wr n lv op0)/\Hid (RnI xs v n k lv)) (fun r _=>(intOf r).toNat)
   case atStart=>exact⟨n,lv0,Nat.le_refl _,rfl,HW1,HRN⟩
   case round =>
    clear HW1 HRN;obtain⟨k,lv,hk,rfl,HW1,HRN⟩:=hrel;have hk0:0<k:=by
     have h1:=HRN.2.2;have h2:=Zdb lv n;omega
    have HBI:Hid (BhR w wr xs v n lv op0 (.bool false) 0):=Xa ⟨false,lv,rfl,HW1.out,BhI.start HRN.1 HRN.2.1⟩;clear HW1
    go_wp2_with fail
    generalize wr=w6 at *
    go_loopw [10,11] (fun gr bb wr=>∃b:Nat,b<=n/\bb=.int .i64 b/\Hid (BhR w wr xs v n lv op0 gr b)) (fun _ bb _=>n-(intOf bb).toNat)
    case atStart=>exact⟨0,Nat.zero_le _,rfl,HBI⟩
    case round =>
     clear HBI;obtain⟨b,hb,rfl,HBI⟩:=hrel;by_cases hlt:b<n
     ·have hbx:b<xs.length:=by have:=hx.out;omega
      obtain⟨a0,n0,a1,n1,a2,n2,a3,n3,a4,n4,a5,n5,c0,c1,c2,c3,c4,c5,hbf,y0,_,_,_,_,_,hn0',_,_,_,_,hfc⟩:=Yp.row ho.out hF.out (Below.refl w.heap.size w) hbx;have HT:=Xa hfc.t;clear hfc;have HBJ:Hid (BhJ w wr xs v n lv op0 u10 b 0):=Xa (by
       obtain⟨g,lv',e,h1,h2⟩:=HBI.out;exact⟨g,lv',e,h1,h2,fun _ r hr=>absurd hr oM⟩)
      clear HBI
      go_wp2_with fail
      generalize wr=w7 at *
      go_loopw [10,12] (fun gr jj wr=>∃j:Nat,j<=n0/\jj=.int .i64 j/\Hid (BhJ w wr xs v n lv op0 gr b j)) (fun _ jj _=>n0-(intOf jj).toNat)
      case atStart=>exact⟨0,Nat.zero_le _,rfl,HBJ⟩
      case round =>
       clear HBJ;obtain⟨j,hj,rfl,HBJ⟩:=hrel;obtain⟨g,lv',rfl,hW,hI,hJ⟩:=HBJ.out;have HW:=Xa hW;have HI:=Xa hI;have HJ:=Xa hJ;have k0:=(hW.low.cell (p:=⟨bf,of+b*6,none⟩) hbf).trans y0;have k1:=hW.r1.cell hlt;have k2:=hW.r2.cell hlt;clear HBJ hW hI hJ;by_cases hop:barB xs b v=0
       ·have ho1:op0 b=true:=by rw[HOP.out];exact decide_eq_true hop
        rw[ho1]at k2;cases hlb:lv' b with
        | true =>
         rw[hlb]at k1;have HNX:Hid (BhR w wr xs v n lv op0 (.bool g) (b+1)):=Xa ⟨g,lv',rfl,HW.out,HI.next (fun _ _ _ _ _ _=>hlb)⟩;clear hlb ho1
         go_wp2_with fail
         exact⟨⟨b+1,oM,gM,HNX⟩,by simp[intOf];omega⟩
        | false =>
         rw[hlb]at k1;by_cases hjn:j<n0
         ·have hjt:j<(Xx xs b).length:=by rw[<-HT.1];exact hjn
          have hjI:j<(Xh (Xx xs b)).length:=by simp[Xh];exact hjt
          obtain⟨bt,ot,rfl,⟨_,hbt⟩,hct⟩:=HT.2 j hjI;have ect:(Xh (Xx xs b))[j]=(((Xx xs b)[j]:Nat):Int):=by simp[Xh]
          rw[ect]at hct;have htg:=List.getElem_mem hjt;have htx:=ho.okf.tg _ hbx _ htg;have HGE:Hid ((Xx xs b)[j]?=some (Xx xs b)[j]):=Xa (List.getElem?_eq_getElem hjt);obtain⟨t,ht⟩:∃t,t=(Xx xs b)[j]:=⟨_,rfl⟩;rw[<-ht]at hct htg htx HGE;have HTG:=Xa htg;have htn:t<n:=by have:=hx.out;omega
          have kt:=(HW.low.cell (p:=⟨bt,ot+j,none⟩) hbt).trans hct;have kl:=HW.r1.cell htn;obtain⟨d0,m0,d1,m1,d2,m2,d3,m3,d4,m4,d5,m5,f0,f1,f2,f3,f4,f5,_,_,t1,_,_,_,_,_,hm1,_,_,_,hft⟩:=Yp.row ho.out hF.out HW.low htx;have HHP:=Xa (XS d1 m1 f1 (v:Int) (phL xs t) 0 w.heap.size wr (Xa hft.p.2) (Xa hft.p.1) oM);have HPB:Hid (Yt xs t v=hasI (phL xs t) (v:Int)):=Xa (Zah xs t v);clear hct htg ht ect hft;cases hlt':lv' t with
          | false =>
           rw[hlt']at kl;have HNX:Hid (BhJ w wr xs v n lv op0 (.bool g) b (j+1)):=Xa ⟨g,lv',rfl,HW.out,HI.out,fun h r hr z hz=>by
            by_cases e:r=j
            ·subst e
             rw[HGE.out]at hz;injection hz with hz;subst hz;rw[hlt'];exact fun h=>by cases h.1
            ·exact HJ.out h r oM z hz⟩
           clear hlt' hlb ho1
           go_wp2_with fail
           exact⟨⟨j+1,oM,gM,HNX⟩,by simp[intOf];omega⟩
          | true =>
           rw[hlt']at kl;have HLT:=Xa hlt';have HLB:=Xa hlb;have HP0:=Xa hop;have z1:=HW.r1.frozen b;clear hlt' hlb ho1 hop
           go_wp2_with fail
           refine HHP.mono ?_;rintro e w8 ⟨rfl,hw8⟩;subst hw8;cases hph:hasI (phL xs t) (v:Int)with
           | true =>
            have HNX:Hid (BhJ w w8 xs v n lv op0 (.bool g) b (j+1)):=Xa ⟨g,lv',rfl,HW.out,HI.out,fun h r hr z hz=>by
             by_cases e:r=j
             ·subst e
              rw[HGE.out]at hz;injection hz with hz;subst hz;rw[HPB.out,hph];exact fun h=>by cases h.2
             ·exact HJ.out h r oM z hz⟩
            clear hph
            go_wp2_with fail
            refine⟨?_,by simp[intOf];omega⟩
            first
             | exact⟨j+1,oM,gM,HNX⟩
             | ((repeat apply Exists.intro);refine⟨?_,rfl⟩;exact⟨j+1,oM,gM,HNX⟩)
           | false =>
            have HNX:Hid (BhJ w (w8.setCell ⟨w.heap.size,b,none⟩ (.bool true)) xs v n lv op0 (.bool true) b (j+1)):=Xa ⟨true,_,rfl,HW.set1 b true,HI.set hx.out hlt HTG.out htn HP0.out HLB.out HLT.out (by rw[HPB.out];exact hph),fun h=>by simp at h⟩;clear hph
            go_wp2_with fail
            refine⟨?_,by simp[intOf];omega⟩
            first
             | exact⟨j+1,oM,gM,HNX⟩
             | ((repeat apply Exists.intro);refine⟨?_,rfl⟩;exact⟨j+1,oM,gM,HNX⟩)
         ·have HNX:Hid (BhR w wr xs v n lv op0 (.bool g) (b+1)):=Xa ⟨g,lv',rfl,HW.out,HI.next (fun _ _ t ht h1 h2=>by
           obtain⟨r,hr,e⟩:=List.getElem_of_mem ht;exact absurd ⟨h1,h2⟩ (HJ.out hlb r (by have:=HT.1;omega) t (by rw[List.getElem?_eq_getElem hr,e])))⟩
          clear hlb ho1
          go_wp2_with fail
          exact⟨⟨b+1,oM,gM,HNX⟩,by simp[intOf];omega⟩
       ·have ho1:op0 b=false:=by rw[HOP.out];exact decide_eq_false hop
        rw[ho1]at k2;have HNX:Hid (BhR w wr xs v n lv op0 (.bool g) (b+1)):=Xa ⟨g,lv',rfl,HW.out,HI.next (fun _ h=>absurd h hop)⟩;clear ho1 hop
        go_wp2_with fail
        exact⟨⟨b+1,oM,gM,HNX⟩,by simp[intOf];omega⟩
     ·have hbe:b=n:=oM
      subst hbe;obtain⟨g,lv',rfl,hW,hI⟩:=HBI.out;have HW:=Xa hW;have HI:=Xa hI;clear HBI hW hI;cases g with
      | true =>
       have HRN2:Hid (RnI xs v b (k-1) lv'):=Xa ⟨HI.snd,HI.here,by
        have h1:=HI.yes rfl;have h2:=HRN.2.2;have h3:=Zdb lv' b;omega⟩
       go_wp2_with fail
       exact⟨⟨k-1,lv',oM,gM,HW,HRN2⟩,by simp[intOf];omega⟩
      | false =>
       go_wp2_with fail
       go_ret
       exact⟨w.heap.size,rfl,HW.low,Nat.le_refl _,lv',HW.r1,HI.done hx.out⟩
end
end Go.Proofs.YthgikffcdgpgiaaGreatDoor
