import Derived.Test.YtlmgmkmomaileaaGreatDoorMT1
import Derived.Test.YtlmgmkmomaileaaGreatDoorOB0
import Derived.Test.YtlmgmkmomaileaaGreatDoorLR9
namespace Go.Proofs.YtlmgmkmomaileaaGreatDoor
set_option maxHeartbeats 2000000
set_option maxRecDepth 100000
open Go.RowKit
theorem Zbd(v:Int)(a:Option Addr)(n c:Nat)(xs:List Xh)(L B:Nat)(w:World)(ha:Hid (Xk w L B a xs))(hx:Hid (n=xs.length))(hs:Hid (xs.length+Xn xs<=1048576))(hB:B<=w.heap.size) :
 Calls Tryz.prog 31 #[.agg #[.int .i64 v,.slice a n c]] w fun e w'=>e=.returned (.int .i64 (Z2 v xs))/\Below w.heap.size w w':=by
 have HVF:=Xa (fun W (hb:Below w.heap.size w W)=>Wg v a n c xs L B W (Xa (ha.keep (hb.mono hB))) hx hs (by have:=hb.size;omega));have HVS:=Xa (ZdI ⟨v,xs⟩);rw[<-HVS.out]at HVF;have hW0:Below w.heap.size w (w.alloc (.cells #[.int .i64 v,.slice a n c] 33)):=Xb (Below.refl _ _) _;have hf0:(w.alloc (.cells #[.int .i64 v,.slice a n c] 33)).cell? ⟨w.heap.size,0,none⟩=some (.int .i64 v):=sP;have hf1:(w.alloc (.cells #[.int .i64 v,.slice a n c] 33)).cell? ⟨w.heap.size,1,none⟩=some (.slice a n c):=sP;have hz0:w.heap.size<(w.alloc (.cells #[.int .i64 v,.slice a n c] 33)).heap.size:=sP;cases hv:Yq ⟨v,xs⟩with
 | false =>
  rw[hv]at HVF;rw[Tk hv];clear hv
  go_enter Tryz.func31,Tryz.ntmps31
  go_wp2_with fail
  refine(HVF.out _ hW0).mono ?_;rintro e w1 ⟨rfl,hb1⟩;have HB1:=Xa (Xd hW0 hb1);clear hb1 HVF hW0 hf0 hf1 hz0
  go_wp2_with fail
  go_ret
  exact⟨rfl,HB1.out⟩
 | true =>
  rw[hv]at HVF;have HV:=Xa hv;have hv0:0<=v:=by
   simp only[Yq,Yt,Bool.and_eq_true,decide_eq_true_eq]at hv;omega
  obtain⟨V,rfl⟩:=Int.eq_ofNat_of_zero_le hv0;have HOK:Hid (Jd V xs):=Xa (YI hv);have hn:n<=1000:=by have:=hx.out;have:=HOK.okf.n2;omega
  have hn0:0<n:=by have:=hx.out;have:=HOK.okf.n1;omega
  generalize hvr:Z2 (V:Int) xs=vr;have HVR:=Xa hvr;clear hv hv0 hvr;have HRC:=Xa (fun W (hb:Below w.heap.size w W)=>Zfo (V:Int) a n c (-1) xs L B W (Xa (ha.keep (hb.mono hB))) hx oM oM (by have:=hb.size;omega) (Xa (by rw[hx.out];exact HOK.okf.tgt)));have HSR:=Xa (fun W (hb:Below w.heap.size w W)=>Zel V a n c xs L B W (Xa (ha.keep (hb.mono hB))) hx (by have:=hb.size;omega) HOK)
  go_enter Tryz.func31,Tryz.ntmps31
  go_wp2_with fail
  refine(HVF.out _ hW0).mono ?_;rintro e w1 ⟨rfl,hb1⟩;have HB1:=Xa (Xd hW0 hb1);have g0:=(hb1.cell (p:=⟨w.heap.size,0,none⟩) hz0).trans hf0;have g1:=(hb1.cell (p:=⟨w.heap.size,1,none⟩) hz0).trans hf1;have hz1:w.heap.size<w1.heap.size:=Nat.lt_of_lt_of_le hz0 hb1.size;clear hb1 hW0 hf0 hf1 hz0 HVF
  go_wp2_with fail
  refine Z1 (fun w'=>w'.cell? ⟨w.heap.size,0,none⟩=some (.int .i64 (V:Int))/\w'.cell? ⟨w.heap.size,1,none⟩=some (.slice a n c)) (fun hHeld=>?_);refine Xi 0 ?_;refine Xi 3 ?_;refine Xi 4 ?_;refine Xi 5 ?_;refine Xt 1 (fun K hK=>?_);go_simp;refine(HRC.out w1.drew HB1.drew).mono ?_;rintro e w2 ⟨v2,F,rfl,hb2',ho2,hnd2,hm2⟩;have hb2:Below w1.heap.size w1 w2:=⟨hb2'.os,hb2'.tape,hb2'.output,hb2'.size,hb2'.block⟩;rw[show KN F=(Xs F).map (Value.int .i64) by simp[KN,Xs]]at ho2;obtain⟨aF,cF,e2,_⟩:=Xl ho2;have hnF:(Xs F).length=F.length:=by simp[Xs]
  have HFU:=Xa (Zca HOK.okf hnd2 (fun x=>(hm2 x).trans (Zjv dC)));rw[hnF]at e2;subst e2;obtain⟨lF,hlF⟩:∃m,m=F.length:=⟨_,rfl⟩;rw[<-hlF];have HAR:Hid (lF=n↔Ut xs):=Xa (by rw[hlF,hx.out];exact HFU.2);have hl1:lF<=n:=by rw[hlF,hx.out];exact HFU.1
  have HB2:=Xa (Xd HB1.out hb2);have k0:=(hb2.cell (p:=⟨w.heap.size,0,none⟩) hz1).trans g0;have k1:=(hb2.cell (p:=⟨w.heap.size,1,none⟩) hz1).trans g1;clear hb2 hb2' ho2 hnd2 hm2 hnF hlF HFU g0 g1;refine hK _ _ ⟨k0,k1⟩ (fun hHeld=>?_);clear hK;refine Xi 2 ?_;by_cases hle:lF=n
  ·have HAL:Hid (Ut xs):=Xa (HAR.1 hle)
   have hne:((lF:Int) != (n:Int))=false:=by simp[hle]
   clear hle;refine Xi 6 ?_;refine YA ?_;clear hHeld
   go_wp2_with fail
   refine(HSR.out w2 HB2.out).mono ?_;rintro e w3 ⟨s,rfl,hsi,hb3⟩;have HB3:=Xa (Xd HB2.out hb3);have HSI:=Xa hsi;clear hsi hb3;cases s with
   | true =>
    have HR:Hid (vr=0):=Xa (by rw[<-HVR.out];exact ZcM HV.out HAL.out (fun h=>by
     obtain⟨x,h1⟩:=h;exact HSI.1 rfl x (ZhR HOK.out h1) h1))
    go_wp2_with fail
    go_ret
    exact⟨by rw[HR.out];rfl,HB3.out⟩
   | false =>
    have HR:Hid (vr=11):=Xa (by rw[<-HVR.out];exact ZcB HV.out HAL.out (Classical.byContradiction fun h=>by
     have:=HSI.2 (fun x _ h1=>h ⟨x,h1⟩);cases this))
    go_wp2_with fail
    go_ret
    exact⟨by rw[HR.out];rfl,HB3.out⟩
  ·have HR:Hid (vr=10):=Xa (by rw[<-HVR.out];exact ZcF HV.out (fun h=>hle (HAR.2 h)))
   have hne:((lF:Int) != (n:Int))=true:=by simp;omega
   clear hle;refine Xi 6 ?_;refine YA ?_;clear hHeld
   go_wp2_with fail
   go_ret
   exact⟨by rw[HR.out];rfl,HB2.out⟩
end Go.Proofs.YtlmgmkmomaileaaGreatDoor
namespace Go.Proofs.YtlmgmkmomaileaaGreatDoor
set_option maxHeartbeats 4000000
set_option maxRecDepth 100000
open Go.RowKit
theorem Zau{v:Int}{xs:List Xh}(h:Z2 v xs=0):Yq ⟨v,xs⟩=true:=by
 cases hv:Yq ⟨v,xs⟩with
 | true=>rfl
 | false=>rw[Tk hv]at h;exact absurd h dC
def okC(cs:List Int)(k:Int)(q:Nat):Prop:=∀i (h:i<cs.length),i<q->0<=cs[i]/\cs[i]<k
theorem Zg0(cs:List Int)(k:Int):okC cs k 0:=fun i _ h=>absurd h oM
theorem Zh9{cs:List Int}{k:Int}{q:Nat}(h:okC cs k q)(hq:q<cs.length)(h2:0<=cs[q]/\cs[q]<k):okC cs k (q+1):=fun i hi hq'=>by
 by_cases e:i=q
 ·subst e;exact h2
 ·exact h i hi oM
theorem Zix{cs:List Int}{k:Int}(h:okC cs k cs.length):∀c∈cs,0<=c/\c<k:=fun c hc=>by
 obtain⟨i,hi,rfl⟩:=List.getElem_of_mem hc;exact h i hi hi
theorem Zhc{v:Int}{xs:List Xh}{cs:List Int}{k:Int}{q:Nat}(hq:q<cs.length)(h:¬(0<=cs[q]/\cs[q]<k)):¬pcQ v xs cs k:=fun h2=>h (h2.2.2.2.2.1 _ (List.getElem_mem hq))
theorem ZcY{cs:List Int}{u:Nat}(h:u<cs.length):colI cs u=cs[u]:=by
 unfold colI;rw[List.getD_eq_getElem?_getD,List.getElem?_eq_getElem h];rfl
theorem Zh7{cs l:List Int}{a u:Nat}(ha:a<l.length)(e:l[a]=(u:Int)):TU cs l a=colI cs u:=by
 unfold TU;rw[List.getD_eq_getElem?_getD,List.getElem?_eq_getElem ha,Option.getD_some,e];rfl
theorem ZiJ(v:Int)(a:Option Addr)(n c:Nat)(xs:List Xh)(L B:Nat)(ac:Option Addr)(nc cc:Nat)(cs:List Int)(Lc Bc:Nat)(k:Int)(w:World)(ha:Hid (Xk w L B a xs))(hx:Hid (n=xs.length))(hs:Hid (xs.length+Xn xs<=1048576))(hB:B<=w.heap.size)(hc:Hid (Xf w Lc Bc ac cs))(hcx:Hid (nc=cs.length))(hBc:Bc<=w.heap.size)(hnc:nc<=1048576) :
 Calls Tryz.prog 17 #[.agg #[.int .i64 v,.slice a n c],.slice ac nc cc,.int .i64 k] w fun e w'=>e=.returned (.bool (TN v xs cs k))/\Below w.heap.size w w':=by
 have HVD:=Xa (fun W (hb:Below w.heap.size w W)=>Zbd v a n c xs L B W (Xa (ha.keep (hb.mono hB))) hx hs (by have:=hb.size;omega));obtain⟨vd,hvd⟩:∃vd,vd=Z2 v xs:=⟨_,rfl⟩;rw[<-hvd]at HVD;have HVd:=Xa hvd;clear hvd
 go_enter Tryz.func17,Tryz.ntmps17
 go_wp2_with fail
 refine(HVD.out _ (Xb (Below.refl _ _) _)).mono ?_;rintro e w1 ⟨rfl,hb1⟩;obtain⟨hc1,hf1⟩:=bcell hb1;have k0:w1.cell? ⟨w.heap.size,0,none⟩=some (.int .i64 v):=by rw[hc1 _ _ sP];simp
 have k1:w1.cell? ⟨w.heap.size,1,none⟩=some (.slice a n c):=by rw[hc1 _ _ sP];simp
 have HB1:=Xa (Xd (Xb (Below.refl w.heap.size w) _) hb1);have hz1:w.heap.size+1<=w1.heap.size:=by have:=hb1.size;simp at this;omega
 clear hc1 hf1 hb1 HVD;by_cases hv:vd=0
 case neg =>
  have HN:=Xa (ZS (v:=v) (xs:=xs) (cs:=cs) (k:=k) (fun h=>hv (HVd.trans h.1)));have hv1:(vd != 0)=true:=by rw[bne_iff_ne];exact hv
  go_wp2_with fail
  go_ret
  exact⟨Xj HN.symm,HB1.out⟩
 subst hv;by_cases hk0:k<0
 ·have HN:=Xa (ZS (v:=v) (xs:=xs) (cs:=cs) (k:=k) (fun h=>by have:=h.2.1;omega))
  go_wp2_with fail
  go_ret
  exact⟨Xj HN.symm,HB1.out⟩
 by_cases hk1:2000<k
 ·have HN:=Xa (ZS (v:=v) (xs:=xs) (cs:=cs) (k:=k) (fun h=>by have:=h.2.2.1;omega))
  go_wp2_with fail
  go_ret
  exact⟨Xj HN.symm,HB1.out⟩
 by_cases hlv:(nc:Int)=v
 case neg =>
  have HN:=Xa (ZS (v:=v) (xs:=xs) (cs:=cs) (k:=k) (fun h=>hlv (by rw[hcx.out];exact h.2.2.2.1)));have hv1:((nc:Int) != v)=true:=by rw[bne_iff_ne];exact hlv
  go_wp2_with fail
  go_ret
  exact⟨Xj HN.symm,HB1.out⟩
 subst hlv;have hv1:((nc:Int) != (nc:Int))=false:=sP;have HOK:Hid (Jd nc xs):=Xa (YI (Zau HVd.symm));have hVl:=HOK.vle;have HC1:Hid (∀W,Below w1.heap.size w1 W->∀(q:Nat)(h:q<nc),∃b o,ac=some ⟨b,o,none⟩/\W.cell? ⟨b,o+q,none⟩=some (.int .i64 (colI cs q))):=Xa (fun W hW q hq=>by
  have hq':q<cs.length:=by rw[<-hcx.out];exact hq
  obtain⟨b,o,e,hb,h⟩:=hc.out q hq';refine⟨b,o,e,?_⟩;rw[ZcY hq'];exact(hW.cell (p:=⟨b,o+q,none⟩) (by show b<_;omega)).trans ((Xu HB1.out oM).trans h))
 have HAS:=Xa (Zch nc a n c xs L B w1 (Xa (ha.keep (HB1.mono hB))) hx (by have:=HB1.size;omega) HOK)
 go_wp2_with fail
 go_loop [7] (fun i=>∃q:Nat,q<=nc/\i=.int .i64 q/\Hid (okC cs k q)) (fun i=>nc-(intOf i).toNat)
 case atStart=>exact⟨0,Nat.zero_le _,rfl,Xa (Zg0 _ _)⟩
 case round =>
  obtain⟨q,hq,rfl,HQ⟩:=hrel;by_cases hlt:q<nc
  ·obtain⟨b,o,rfl,e0⟩:=HC1.out w1 (Below.refl _ _) q hlt
   have hq':q<cs.length:=by rw[<-hcx.out];exact hlt
   have HNO:=Xa (fun h=>ZS (Zhc (v:=(nc:Int)) (xs:=xs) (k:=k) hq' h));have HYS:=Xa (fun h=>Zh9 HQ.out hq' h);have HCG:=Xa (ZcY hq');rw[<-HCG.out]at HNO HYS;clear HCG;generalize colI cs q=C at *;have hqi:(q:Int)<(nc:Int):=oM;by_cases hC0:C<0
   ·go_wp2_with fail
    go_ret
    exact⟨Xj (HNO.out oM).symm,HB1.out⟩
   by_cases hC1:k<=C
   ·go_wp2_with fail
    go_ret
    exact⟨Xj (HNO.out oM).symm,HB1.out⟩
   ·go_wp2_with fail
    exact⟨⟨q+1,oM,gM,Xa (HYS.out oM)⟩,by simp[intOf];omega⟩
  ·have hqn:q=nc:=oM
   subst hqn;have HCA:Hid (∀c∈cs,0<=c/\c<k):=Xa (Zix (by rw[<-hcx.out];exact HQ.out))
   go_wp2_with fail
   refine HAS.mono ?_;rintro e w2 ⟨gA,cA,rfl,hb2,hI2⟩;have HB2:=Xa (Xd HB1.out hb2);have HC2:Hid (∀W,Below w2.heap.size w2 W->∀(u:Nat)(h:u<q),∃b o,ac=some ⟨b,o,none⟩/\W.cell? ⟨b,o+u,none⟩=some (.int .i64 (colI cs u))):=Xa (fun W hW=>HC1.out W (hb2.trans (hW.mono hb2.size)));obtain⟨fl,hfl⟩:∃fl,fl=flQ xs q n:=⟨_,rfl⟩;have HFL:=Xa hfl;rw[<-hfl]at hI2;rw[<-hfl];obtain⟨N,hN⟩:∃N,N=fl.length:=⟨_,rfl⟩;have HNe:=Xa hN;rw[<-hN];have hNb:N<=4001000:=by
    have h1:=ZeD HOK.out n;have h2:=HOK.okf.n2;have h3:=hx.out;have h4:n*4001<=1000*4001:=Nat.mul_le_mul_right _ oM;rw[<-hfl]at h1;omega
   have HSC:Hid (∀wx,Below w2.heap.size w2 wx->∀i,i<N->∃a' c',wx.cell? ⟨gA,i,none⟩=some (.slice a' (fl.getD i []).length c')/\∀j,j<(fl.getD i []).length->∃b3 o3 u,a'=some ⟨b3,o3,none⟩/\u<q/\wx.cell? ⟨b3,o3+j,none⟩=some (.int .i64 ((u:Nat):Int))/\TU cs (fl.getD i []) j=colI cs u):=Xa (fun wx hwx i hi=>by
    have hi':i<fl.length:=by rw[<-hN];exact hi
    obtain⟨b',o',e',hb',a',c',hc',hi2⟩:=hI2 i hi';injection e' with e';injection e' with e1 e2;subst e1 e2;rw[Nat.zero_add]at hc';have hgd:fl.getD i []=fl[i]:=by rw[List.getD_eq_getElem?_getD,List.getElem?_eq_getElem hi'];rfl
    rw[hgd];have hsm:=Wj (xs:=xs) (V:=q) (l:=fl[i]) (by rw[<-hx.out,<-hfl];exact List.getElem_mem hi');refine⟨a',c',(hwx.cell (p:=⟨gA,i,none⟩) hb'.2).trans hc',fun j hj=>?_⟩;obtain⟨b3,o3,e3,hb3,hc3⟩:=hi2 j hj;obtain⟨u,hu,eu⟩:=hsm.2 _ (List.getElem_mem hj);rw[eu]at hc3;exact⟨b3,o3,u,e3,hu,(hwx.cell (p:=⟨b3,o3+j,none⟩) hb3.2).trans hc3,Zh7 hj eu⟩)
   have HSL:Hid (∀i,i<N->(fl.getD i []).length<=q):=Xa (fun i hi=>by
    have hi':i<fl.length:=by rw[<-hN];exact hi
    have hgd:fl.getD i []=fl[i]:=by rw[List.getD_eq_getElem?_getD,List.getElem?_eq_getElem hi'];rfl
    rw[hgd];exact(Wj (xs:=xs) (V:=q) (l:=fl[i]) (by rw[<-hx.out,<-hfl];exact List.getElem_mem hi')).1)
   have HCL:Hid (∀i j b,i<N->j<(fl.getD i []).length->b<j->TU cs (fl.getD i []) j=TU cs (fl.getD i []) b->TN (q:Int) xs cs k=false):=Xa (fun i j b h1 h2 h3 h4=>ZS (ZhP (i:=i) (a:=j) (b:=b) (l:=fl.getD i []) (by rw[hfl,hx.out];rfl) (by rw[show((q:Int)).toNat=q from rfl,<-hx.out,<-hfl,<-hN];exact h1) h2 h3 h4));have HEND:Hid (okU cs fl N->TN (q:Int) xs cs k=true):=Xa (fun h=>ZeF ⟨HVd.symm,oM,oM,by rw[hcx.out],HCA.out,(Ze5 HCA.out).1 (by rw[show((q:Int)).toNat=q from rfl,<-hx.out,<-hfl,<-hN];exact h)⟩);clear hb2 hI2 HAS hfl hN HQ HFL
   go_wp2_with fail
   go_loopw [9] (fun i wr=>∃i':Nat,i'<=N/\i=.int .i64 i'/\Hid (Below w2.heap.size w2 wr)/\Hid (okU cs fl i')) (fun i _=>N-(intOf i).toNat)
   case atStart=>exact⟨0,Nat.zero_le _,rfl,Xa (Below.refl _ _),Xa (Zij _ _)⟩
   case round =>
    obtain⟨i,hi,rfl,HBi,HU⟩:=hrel;by_cases hlt2:i<N
    ·have HSi:=Xa (fun wx hwx=>HSC.out wx hwx i hlt2)
     have HCi:=Xa (fun j b=>HCL.out i j b hlt2);have hsl:=HSL.out i hlt2;have HUi:=Xa (fun h=>Zhe (i:=i) HU.out h);obtain⟨lst,hlst⟩:∃l,l=fl.getD i []:=⟨_,rfl⟩;rw[<-hlst]at HCi HUi hsl;simp only[<-hlst]at HSi;obtain⟨ln,hln⟩:∃l,l=lst.length:=⟨_,rfl⟩;rw[<-hln]at HCi HUi hsl;simp only[<-hln]at HSi;clear hlst hln;have hii:(i:Int)<(N:Int):=oM
     go_wp2_with fail
     go_loopw [10] (fun j wr=>∃j':Nat,j'<=ln/\j=.int .i64 j'/\Hid (Below w2.heap.size w2 wr)/\Hid (okA cs lst j')) (fun j _=>ln-(intOf j).toNat)
     case atStart=>exact⟨0,Nat.zero_le _,rfl,HBi,Xa (ZhQ _ _)⟩
     case round =>
      clear HBi;obtain⟨j,hj,rfl,HBj,HA⟩:=hrel;obtain⟨a',c',x1,x2⟩:=HSi.out wr HBj.out;by_cases hlt3:j<ln
      ·have hji:(j:Int)<(ln:Int):=oM
       clear x2
       go_wp2_with fail
       clear x1
       go_loopw [11] (fun b wr=>∃b':Nat,b'<=j/\b=.int .i64 b'/\Hid (Below w2.heap.size w2 wr)/\Hid (okB cs lst j b')) (fun b _=>j-(intOf b).toNat)
       case atStart=>exact⟨0,Nat.zero_le _,rfl,HBj,Xa (Zgr _ _ _)⟩
       case round =>
        clear HBj;obtain⟨b,hb,rfl,HBb,HBk⟩:=hrel;by_cases hlt4:b<j
        ·obtain⟨a',c',x1,x2⟩:=HSi.out wr HBb.out
         obtain⟨b3,o3,u1,rfl,hu1,y1,q1⟩:=x2 j hlt3;obtain⟨b4,o4,u2,e4,hu2,y2,q2⟩:=x2 b oM;injection e4 with e4;injection e4 with e5 e6;subst e5 e6;obtain⟨bc,oc,rfl,z1⟩:=HC2.out wr HBb.out u1 hu1;obtain⟨bc2,oc2,e7,z2⟩:=HC2.out wr HBb.out u2 hu2;injection e7 with e7;injection e7 with e8 e9;subst e8 e9;have HCj:=Xa (HCi.out j b hlt3 hlt4);have HOj:=Xa (fun h=>Zgz (b:=b) HBk.out h);rw[q1,q2]at HCj HOj;clear q1 q2 x2;generalize colI cs u1=c1 at *;generalize colI cs u2=c2 at *;have i1:(b:Int)<(ln:Int):=oM;have i2:(u1:Int)<(q:Int):=oM;have i3:(u2:Int)<(q:Int):=oM;have i4:(b:Int)<(j:Int):=oM;by_cases he:c1=c2
         ·subst he
          go_wp2_with fail
          go_quiet (fail)
          go_wp2_with fail
          go_ret
          exact⟨Xj (HCj.out (by trivial)).symm,Xd HB2.out (below_drewN HBb.out _)⟩
         ·have he1:(c1==c2)=false:=by rw[beq_eq_false_iff_ne];exact he
          go_wp2_with fail
          go_quiet (fail)
          go_wp2_with fail
          exact⟨⟨b+1,oM,gM,Xa (below_drewN HBb.out _),Xa (HOj.out he)⟩,by simp[intOf];omega⟩
        ·have hbj:b=j:=oM
         subst hbj
         go_wp2_with fail
         exact⟨⟨b+1,oM,gM,HBb,Xa (Zil HA.out HBk.out)⟩,by simp[intOf];omega⟩
      ·have hjn:j=ln:=oM
       subst hjn;clear x2
       go_wp2_with fail
       exact⟨⟨i+1,oM,gM,HBj,Xa (HUi.out HA.out)⟩,by simp[intOf];omega⟩
    ·have hin:i=N:=oM
     subst hin
     go_wp2_with fail
     go_ret
     exact⟨Xj (HEND.out HU.out).symm,Xd HB2.out HBi.out⟩
end Go.Proofs.YtlmgmkmomaileaaGreatDoor
namespace Go.Proofs.YtlmgmkmomaileaaGreatDoor
set_option maxHeartbeats 1000000
set_option maxRecDepth 100000
open Go.RowKit
theorem Zge.keepS{w W:World}{L B G:Nat}{xs:List Xy}{Ls Bs:Nat->Nat}(h:Zge w L B G xs Ls Bs)(hG:L<=G/\G<B)(k:Xv L B w W):Zge W L B G xs Ls Bs:=by
 refine⟨fun i hi=>?_,h.ne⟩;obtain⟨h1,h2,ia,ic,c0,t,s⟩:=h.at_ i hi;have kG:=k G hG.1 hG.2;exact⟨h1,h2,ia,ic,(Xc kG).trans c0,t.keepS kG,s.keepS (k.mono h1.1 h1.2)⟩
theorem JL.keepS{w W:World}{L B:Nat}{a:Option Addr}{xs:List Xy}(h:JL w L B a xs)(k:Xv L B w W):JL W L B a xs:=by
 rcases h with h | ⟨G,Ls,Bs,e,hG,hz,hs⟩
 ·exact Or.inl h
 ·exact Or.inr ⟨G,Ls,Bs,e,hG,hz.keep (k G hG.1 hG.2),hs.keepS hG k⟩
theorem Ym.keepB{w w':World}{L B:Nat}{ia:Option Addr}{k:Int}{n:Nat}(h:Ym w L B ia k n)(s:Below w.heap.size w w'):Ym w' L B ia k n:=fun i hi=>by
 obtain⟨g,e,hg,h1⟩:=h i hi;exact⟨g,e,hg,h1.keepS (s.block g (World.block_lt_of_cell? w _ h1.1))⟩
theorem Za.keep{w w':World}{va:Option Addr}{k:Int}{xs:List Xy}(h:Za w va k xs)(s:Below w.heap.size w w'):Za w' va k xs:=fun i hi=>by
 obtain⟨G,L,B,ia,ic,e,c,m,t⟩:=h i hi;have kG:=s.block G (World.block_lt_of_cell? w _ c);exact⟨G,L,B,ia,ic,e,(Xc kG).trans c,m.keepB s,t.keepS kG⟩
def K9(w:World)(L B:Nat)(k:Int)(l:List Xy)(G:Value):Prop:=∃a n c,G=.agg #[.int .i64 k,.slice a n c]/\Y4 w L B a l/\n=l.length/\n<=3000/\ZbL l
theorem K9.keepS{w w':World}{L B:Nat}{k:Int}{l:List Xy}{G:Value}(h:K9 w L B k l G)(s:Xv L B w w'):K9 w' L B k l G:=by
 obtain⟨a,n,c,e,h1,h2⟩:=h;exact⟨a,n,c,e,h1.keepS s,h2⟩
theorem K9.form{w:World}{L B:Nat}{k:Int}{l:List Xy}{G:Value}(h:K9 w L B k l G):∃a n c,G=.agg #[.int .i64 k,.slice a n c]:=by
 obtain⟨a,n,c,e,_⟩:=h;exact⟨a,n,c,e⟩
theorem KZ(k:Int)(l:List Xy)(G G':Value)(L B L' B':Nat)(w:World)(ha:K9 w L B k l G)(hb:K9 w L' B' k l G')(hB:B<=w.heap.size)(hB':B'<=w.heap.size) :
 Calls Tryz.prog 9 #[G,G'] w fun e w'=>e=.returned (.bool true)/\Below w.heap.size w w':=by
 obtain⟨a,n,c,rfl,h1,h2,h3,h4⟩:=ha;obtain⟨a',n',c',rfl,k1,k2,_⟩:=hb;obtain rfl:n=n':=oM;exact ZdT k a a' n c c' l L B L' B' w (Xa h1) (Xa k1) (Xa h2) (Xa h4) oM hB hB'
def Zim(w:World)(B:Nat)(G:Value):Prop:=∀W,Xv B w.heap.size w W->w.heap.size<=W.heap.size->Calls Tryz.prog 14 #[G,.int .i64 1] W fun e w'=>∃m:Nat,e=.returned (.int .i64 m)/\m<=1000000000/\Mod B w.heap.size W w'/\W.heap.size<=w'.heap.size/\(Calls Tryz.prog 15 #[G,.int .i64 1] w' fun e w''=>e=.returned (.int .i64 m)/\Below w'.heap.size w' w'')
theorem Zbs(k:Int)(a:Option Addr)(n c L B:Nat)(xs:List Xy)(w:World)(ha:JL w L B a xs)(hx:n=xs.length)(hl:ZbL xs)(hn:n<=3000)(h2:mCnt xs<=900000000)(hB:B<=w.heap.size) :
 Calls Tryz.prog 14 #[.agg #[.int .i64 k,.slice a n c],.int .i64 1] w fun e w'=>e=.returned (.int .i64 ((1+mCnt xs:Nat):Int))/\Mod L B w w'/\Za w' a 1 xs:=by
 have HMK:=Xa (fun W (hW:Below w.heap.size w W)=>Vv a n c 1 xs L B W (Xa (ha.keepS (fun q _ q2=>hW.block q oM))) (Xa hx) (Xa hl) oM oM oM h2);clear ha hx
 go_enter Tryz.func14,Tryz.ntmps14
 go_wp2_with fail
 refine(HMK.out _ (Xb (Below.refl _ _) _)).mono ?_;rintro e w1 ⟨rfl,hw1,hm1⟩;have HM1:=Xa hm1;have HB1:Hid (Mod L B w w1):=Xa (Mod.trans (Mod.of_below (Xb (Below.refl _ _) _)) (Mod.of_iw hw1));clear hw1 hm1 HMK
 go_wp2_with fail
 go_ret
 exact⟨sP,HB1.out,HM1.out⟩
theorem ZaW(k:Int)(a:Option Addr)(n c:Nat)(xs:List Xy)(w:World)(ha:Za w a 1 xs)(hx:n=xs.length)(hl:ZbL xs)(hn:n<=3000)(h2:mCnt xs<=900000000) :
 Calls Tryz.prog 15 #[.agg #[.int .i64 k,.slice a n c],.int .i64 1] w fun e w'=>e=.returned (.int .i64 ((1+mCnt xs:Nat):Int))/\Below w.heap.size w w':=by
 have HMK:=Xa (fun W (hW:Below w.heap.size w W)=>V6 a n c 1 xs W (Xa (ha.keep hW)) (Xa hx) (Xa hl) oM oM oM h2);clear ha hx;generalize mCnt xs=M at *;have hnn:¬(1+(M:Int)<0):=oM
 go_enter Tryz.func15,Tryz.ntmps15
 go_wp2_with fail
 refine(HMK.out _ (Xb (Below.refl _ _) _)).mono ?_;rintro e w1 ⟨rfl,hw1⟩;subst hw1;clear HMK
 go_wp2_with fail
 go_ret
 exact⟨sP,Xb (Below.refl _ _) _⟩
theorem Zhk{w:World}{Bm:Nat}{a:Option Addr}{n c:Nat}{l:List Xy}(k:Int)(h:ZfG w Bm a n c l)(hx:n=l.length)(hl:ZbL l)(hn:n<=3000)(h2:mCnt l<=900000000):Zim w Bm (.agg #[.int .i64 k,.slice a n c]):=fun W hW hz=>by
 obtain⟨lab,iv,hm⟩:=h;refine(Zbs k a n c Bm w.heap.size l W ((hm.sep dC).keepS hW) hx hl hn h2 hz).mono ?_;rintro e w' ⟨rfl,hm,hmk⟩;exact⟨1+mCnt l,rfl,oM,hm,hm.size,ZaW k a n c l w' hmk hx hl hn h2⟩
theorem Zdd(cs:List Int)(xs:List Xh)(p:Nat)(t:Int)(m:Nat):∀y∈(XK cs xs p t m).2,y.instrs.length<=4128:=by
 unfold XK;split
 ·simp
 ·intro y hy
  simp only[List.mem_singleton]at hy;subst hy;have:=UN (KA cs xs p t);show(Kb cs xs p t).length<=4128;unfold Kb;omega
theorem Zjh(cs:List Int)(xs:List Xh)(b:Nat)(x:Xh)(m:Nat)(hx:x.instrs.length<=4000):(UM cs xs b x m).1.instrs.length<=4128/\∀y∈(UM cs xs b x m).2,y.instrs.length<=4128:=by
 unfold UM;split
 ·refine⟨?_,sP⟩
  have:=UN (KA cs xs b x.term.to);show(x.instrs.map (YC cs)++Kb cs xs b x.term.to).length<=4128;rw[List.length_append,List.length_map];unfold Kb;omega
 ·split
  ·refine⟨by show(x.instrs.map (YC cs)).length<=4128;rw[List.length_map];omega,fun y hy=>?_⟩
   rcases List.mem_append.1 hy with h | h
   ·exact Zdd _ _ _ _ _ y h
   ·exact Zdd _ _ _ _ _ y h
  ·exact⟨by show(x.instrs.map (YC cs)).length<=4128;rw[List.length_map];omega,sP⟩
theorem Zce(cs:List Int)(xs:List Xh)(hx:∀x∈xs,x.instrs.length<=4000):∀b,b<=xs.length->(∀y∈(Xm cs xs b).1,y.instrs.length<=4128)/\∀y∈(Xm cs xs b).2,y.instrs.length<=4128
 | 0,_=>by simp[Xm]
 | b+1,h=>by
  obtain⟨h1,h2⟩:=Zce cs xs hx b oM;obtain⟨h3,h4⟩:=Zjh cs xs b xs[b] (xs.length+(Xm cs xs b).2.length) (hx _ (List.getElem_mem _));rw[JU cs xs b oM];refine⟨fun y hy=>?_,fun y hy=>?_⟩
  ·rcases List.mem_append.1 hy with h | h
   ·exact h1 y h
   ·rw[List.mem_singleton.1 h];exact h3
  ·rcases List.mem_append.1 hy with h | h
   ·exact h2 y h
   ·exact h4 y h
theorem ZgC(cs:List Int)(xs:List Xh)(hn:xs.length<=1000)(hx:∀x∈xs,x.instrs.length<=4000):(KB cs xs).length<=3000/\∀y∈KB cs xs,y.instrs.length<=4128:=by
 unfold KB;have h1:=Jk cs xs xs.length (Nat.le_refl _);have h2:=JR cs xs xs.length (Nat.le_refl _);obtain⟨h3,h4⟩:=Zce cs xs hx xs.length (Nat.le_refl _);refine⟨by rw[List.length_append];omega,fun y hy=>?_⟩;rcases List.mem_append.1 hy with h | h
 ·exact h3 y h
 ·exact h4 y h
theorem Zff:∀(l:List Xy),(∀y∈l,y.instrs.length<=4128)->mCnt l<=l.length*20644
 | [],_=>by simp[mCnt]
 | x::l,h=>by
  have h1:=Zff l (fun y hy=>h y (List.mem_cons_of_mem _ hy));have h2:=h x (List.mem_cons_self ..);have h3:mCnt (x::l)=(5*x.instrs.length+4)+mCnt l:=by simp[mCnt]
  rw[h3,List.length_cons];omega
theorem Ua{v:Int}{xs:List Xh}(h:Z2 v xs=0):Yq ⟨v,xs⟩=true:=by
 unfold Z2 at h;by_cases h1:Yq ⟨v,xs⟩=false
 ·rw[if_pos h1]at h;omega
 ·simpa using h1
open Classical in
noncomputable def lwK(v:Int)(xs:List Xh)(cs:List Int)(k:Int):Int:=if (1<=k/\k<=64)/\TN v xs cs k=true then k else 0
open Classical in
noncomputable def lwM(v:Int)(xs:List Xh)(cs:List Int)(k:Int):List Xy:=if (1<=k/\k<=64)/\TN v xs cs k=true then KB cs xs else []
theorem Zg2{v:Int}{xs:List Xh}{cs:List Int}{k:Int}(h:TN v xs cs k=true):pcQ v xs cs k:=by
 unfold TN at h;exact @of_decide_eq_true _ (Classical.propDecidable _) h
theorem Ze6{v:Int}{xs:List Xh}{cs:List Int}{k:Int}:(lwM v xs cs k).length<=3000/\ZbL (lwM v xs cs k)/\mCnt (lwM v xs cs k)<=900000000:=by
 unfold lwM;by_cases hk:(1<=k/\k<=64)/\TN v xs cs k=true
 ·rw[if_pos hk]
  obtain⟨h1,h2,h3,h4,h5,_⟩:=Zg2 hk.2;have hval:=Ua h1;obtain⟨V,rfl⟩:∃V:Nat,v=(V:Int):=⟨cs.length,h4.symm⟩;have hok:=YI hval;obtain⟨b1,b2⟩:=ZgC cs xs hok.okf.n2 (fun x hx=>(hok.lens x hx).1);have b3:=Zff _ b2;exact⟨b1,fun y hy=>by have:=b2 y hy;omega,oM⟩
 ·rw[if_neg hk]
  exact⟨sP,fun y (hy:y∈([]:List Xy))=>absurd hy sP,by simp[mCnt]⟩
theorem ZgX(v:Int)(a:Option Addr)(n c:Nat)(xs:List Xh)(L B:Nat)(ac:Option Addr)(nc cc:Nat)(cs:List Int)(Lc Bc:Nat)(k:Int)(w:World)(ha:Xk w L B a xs)(hx:n=xs.length)(hs:xs.length+Xn xs<=1048576)(hB:B<=w.heap.size)(hO:XQ w)(hT:Ye w)(hZ:K5 w)(hc:Xf w Lc Bc ac cs)(hcx:nc=cs.length)(hBc:Bc<=w.heap.size)(hnc:nc<=1048576) :
 Calls Tryz.prog 8 #[.agg #[.int .i64 v,.slice a n c],.slice ac nc cc,.int .i64 k] w fun e w'=>∃G,e=.returned G/\Below w.heap.size w w'/\K9 w' w.heap.size w'.heap.size (lwK v xs cs k) (lwM v xs cs k) G/\Zim w' w.heap.size G:=by
 have HPC:∀W,Below w.heap.size w W->Calls Tryz.prog 21 #[.agg #[.int .i64 v,.slice a n c],.slice ac nc cc,.int .i64 k] W fun e w'=>e=.returned (.bool (TN v xs cs k))/\Below W.heap.size W w':=fun W hW=>Ziq v a n c xs L B ac nc cc cs Lc Bc k W (Xa (ha.keep (hW.mono hB))) (Xa hx) (Xa hs) (by have:=hW.size;omega) (Xa (hO.keep hW hO.1)) (Xa (hT.keep hW hT.1)) (Xa (hZ.of_block (hW.block _ (World.block_lt_of_cell? w _ (hZ 0 dC))))) (Xa (hc.keep (hW.mono hBc))) (Xa hcx) (by have:=hW.size;omega) hnc
 obtain⟨b1,b2,b3⟩:=@Ze6 v xs cs k;have key:Calls Tryz.prog 8 #[.agg #[.int .i64 v,.slice a n c],.slice ac nc cc,.int .i64 k] w fun e w'=>∃va vc,e=.returned (.agg #[.int .i64 (lwK v xs cs k),.slice va (lwM v xs cs k).length vc])/\Below w.heap.size w w'/\ZfG w' w.heap.size va (lwM v xs cs k).length vc (lwM v xs cs k):=by
  unfold lwK lwM;by_cases hk:(1<=k/\k<=64)/\TN v xs cs k=true
  ·rw[if_pos hk,if_pos hk]
   obtain⟨h1,h2,h3,h4,h5,_⟩:=Zg2 hk.2;have hval:=Ua h1;obtain⟨V,rfl⟩:∃V:Nat,v=(V:Int):=⟨cs.length,h4.symm⟩;have hok:=YI hval;rw[hk.2]at HPC;exact ZhB V a n c xs L B ac nc cc cs Lc Bc k w (Xa ha) (Xa hx) hB (Xa hok) (Xa hc) (Xa hcx) (Xa oM) hBc hk.1 (Xa hO) (Xa hT) (Xa (fun z hz=>by have:=h5 z hz;omega)) (Xa (by rw[hx];exact hok.okf.ok)) (Xa HPC)
  ·rw[if_neg hk,if_neg hk]
   refine(Zjn v a n c ac nc cc k (TN v xs cs k) w (Xa (fun h1 h2=>by
    cases hb:TN v xs cs k with
    | false=>rfl
    | true=>exact absurd ⟨⟨h1,h2⟩,hb⟩ hk)) (Xa HPC)).mono ?_
   rintro e w' ⟨rfl,hb⟩;exact⟨none,0,rfl,hb,fun _=>(0,0,0),fun _=>.slice none 0 0,TZ.nil⟩
 refine key.mono ?_;rintro e w' ⟨va,vc,rfl,hb,hm⟩;have hm2:=hm;obtain⟨lab,iv,hq⟩:=hm2;exact⟨_,rfl,hb,⟨va,_,vc,rfl,hq.at_,rfl,b1,b2⟩,Zhk _ hm rfl b2 b1 b3⟩
theorem ZgW(v:Int)(a:Option Addr)(n c:Nat)(xs:List Xh)(L B:Nat)(ac:Option Addr)(nc cc:Nat)(cs:List Int)(Lc Bc:Nat)(k:Int)(w:World)(ha:Xk w L B a xs)(hx:n=xs.length)(hs:xs.length+Xn xs<=1048576)(hB:B<=w.heap.size)(hc:Xf w Lc Bc ac cs)(hcx:nc=cs.length)(hBc:Bc<=w.heap.size)(hnc:nc<=1048576) :
 Calls Tryz.prog 5 #[.agg #[.int .i64 v,.slice a n c],.slice ac nc cc,.int .i64 k] w fun e w'=>∃G,e=.returned G/\Below w.heap.size w w'/\K9 w' w.heap.size w'.heap.size (lwK v xs cs k) (lwM v xs cs k) G:=by
 have HPC:∀W,Below w.heap.size w W->Calls Tryz.prog 17 #[.agg #[.int .i64 v,.slice a n c],.slice ac nc cc,.int .i64 k] W fun e w'=>e=.returned (.bool (TN v xs cs k))/\Below W.heap.size W w':=fun W hW=>ZiJ v a n c xs L B ac nc cc cs Lc Bc k W (Xa (ha.keep (hW.mono hB))) (Xa hx) (Xa hs) (by have:=hW.size;omega) (Xa (hc.keep (hW.mono hBc))) (Xa hcx) (by have:=hW.size;omega) hnc
 obtain⟨b1,b2,b3⟩:=@Ze6 v xs cs k;have key:Calls Tryz.prog 5 #[.agg #[.int .i64 v,.slice a n c],.slice ac nc cc,.int .i64 k] w fun e w'=>∃va vc,e=.returned (.agg #[.int .i64 (lwK v xs cs k),.slice va (lwM v xs cs k).length vc])/\Below w.heap.size w w'/\Y4 w' w.heap.size w'.heap.size va (lwM v xs cs k):=by
  unfold lwK lwM;by_cases hk:(1<=k/\k<=64)/\TN v xs cs k=true
  ·rw[if_pos hk,if_pos hk]
   obtain⟨h1,h2,h3,h4,h5,_⟩:=Zg2 hk.2;have hval:=Ua h1;obtain⟨V,rfl⟩:∃V:Nat,v=(V:Int):=⟨cs.length,h4.symm⟩;have hok:=YI hval;rw[hk.2]at HPC;exact ZgR V a n c xs L B ac nc cc cs Lc Bc k w (Xa ha) (Xa hx) hB (Xa hok) (Xa (fun x hx=>by have:=hok.lens x hx;omega)) (Xa hc) (Xa hcx) (Xa oM) hBc hk.1 (Xa HPC)
  ·rw[if_neg hk,if_neg hk]
   refine(Zip v a n c ac nc cc k (TN v xs cs k) w (Xa (fun h1 h2=>by
    cases hb:TN v xs cs k with
    | false=>rfl
    | true=>exact absurd ⟨⟨h1,h2⟩,hb⟩ hk)) (Xa HPC)).mono ?_
   rintro e w' ⟨rfl,hb⟩;exact⟨none,0,rfl,hb,fun i h=>absurd h (Nat.not_lt_zero _)⟩
 refine key.mono ?_;rintro e w' ⟨va,vc,rfl,hb,hm⟩;exact⟨_,rfl,hb,⟨va,_,vc,rfl,hm,rfl,b1,b2⟩⟩
end Go.Proofs.YtlmgmkmomaileaaGreatDoor
