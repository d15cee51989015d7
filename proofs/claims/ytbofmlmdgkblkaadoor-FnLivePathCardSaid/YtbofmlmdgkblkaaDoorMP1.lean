import Derived.Test.YtbofmlmdgkblkaaDoorW14c
namespace Go.Proofs.YtbofmlmdgkblkaaDoor
set_option maxHeartbeats 2000000
set_option maxRecDepth 100000
open Go.RowKit
theorem Zbs{P:List Int}{c b:Nat}(g:Nat->List Nat):(KZ P (c+1) b).flatMap g=(KZ P c b).flatMap g++(if P.getD c 0=(b:Int)then g c else []):=by
 unfold KZ;rw[List.range_succ,List.filter_append,List.filter_cons,List.filter_nil,List.flatMap_append];by_cases e:P.getD c 0=(b:Int)
 ·rw[if_pos (by rw[beq_iff_eq];exact e),if_pos e];simp
 ·rw[if_neg (by rw[beq_iff_eq];exact e),if_neg e];simp
theorem ZbD{P:List Int}{b:Nat}(g:Nat->List Nat):∀(m c:Nat),c+m=P.length->∃r,(chP P b).flatMap g=(KZ P c b).flatMap g++r
 | 0,c,h=>⟨[],by rw[show c=P.length by omega,Ze0];simp⟩
 | m+1,c,h=>by
  obtain⟨r,hr⟩:=ZbD (P:=P) (b:=b) g m (c+1) (by omega);exact⟨_,by rw[hr,Zbs,List.append_assoc]⟩
theorem Zdj(w:World)(b:Nat):(w.alloc (.cells #[.int .i64 (b:Int)] 2)).ownsRow w.heap.size 2 1 (.slice (some ⟨w.heap.size,0,none⟩) 1 1) [b].length (Zv [b]):=by
 have:=World.ownsRow_lit (base:=w.heap.size) (e:=2) (size:=1) w #[.int .i64 (b:Int)] 1 (by simp) (by decide) rfl;simpa [Zv]using this
theorem ZfD(ia:Option Addr)(n ic:Nat)(P:List Int)(L B:Nat)(hx:Hid (n=P.length))(hn:n<=1000)(G:Nat->Prop)(hG:Hid (∀b c,G b->c∈chP P b->G c))(hL:Hid (∀m b,G b->(Y0 P m b).length<=1000)) :
 ∀(m b:Nat)(w:World),Hid (Xe w L B ia P)->B<=w.heap.size->Hid (G b)->m<=1000 ->
 Calls Tryd.prog 26 #[.slice ia n ic,.int .i64 b,.int .i64 m] w fun e w'=>∃v,e=.returned v/\Below w.heap.size w w'/\w'.ownsRow w.heap.size 2 1 v (Y0 P m b).length (Zv (Y0 P m b)):=by
 obtain⟨i0,hi0,hz0,hz1,hz2⟩:=Xp Tryd.info2';intro m
 induction m with
 | zero =>
  intro b w HI hB HG hm;have hm0:((0:Nat):Int)=0:=rfl
  go_enter Tryd.func26,Tryd.ntmps26
  go_wp2_with fail
  go_ret
  exact⟨_,rfl,Xb (Below.refl _ _) _,Zdj w b⟩
 | succ m ih =>
  intro b w HI hB HG hm;have IH:=Xa ih;clear ih;have HW1:Hid (Below w.heap.size w (w.alloc (.cells #[.int .i64 (b:Int)] 2))):=Xa (Xb (Below.refl _ _) _);have HO1:Hid ((w.alloc (.cells #[.int .i64 (b:Int)] 2)).ownsRow w.heap.size 2 1 (.slice (some ⟨w.heap.size,0,none⟩) 1 1) [b].length (Zv [b])):=Xa (Zdj w b);have HPE:Hid (Y0 P (m+1) b=b::(chP P b).flatMap (Y0 P m)):=Xa rfl;have HLP:Hid ((b::(chP P b).flatMap (Y0 P m)).length<=1000):=Xa (by rw[<-HPE.out];exact hL.out _ _ HG.out);rw[HPE.out];obtain⟨D,hD⟩:∃D:Int,D=((m+1:Nat):Int):=⟨_,rfl⟩;rw[<-hD];have hsub:D-1=(m:Int):=by omega
  have hdz:(D==0)=false:=by simp;omega
  have hD1:1<=D:=by omega
  have hD2:D<=1000:=by omega
  clear hD
  go_enter Tryd.func26,Tryd.ntmps26
  go_wp2_with fail
  go_loopw [7,8] (fun vo u wr=>∃(c:Nat)(ao:Option Addr)(no co:Nat),c<=n/\u=.int .i64 c/\vo=.slice ao no co/\Hid (no=(b::(KZ P c b).flatMap (Y0 P m)).length)/\Hid (Below w.heap.size w wr)/\Hid (wr.ownsRow w.heap.size 2 1 (.slice ao no co) no (Zv (b::(KZ P c b).flatMap (Y0 P m))))) (fun _ u _=>n-(intOf u).toNat)
  case atStart=>exact⟨0,_,_,_,Nat.zero_le _,rfl,rfl,Xa (by simp[KZ]),HW1,Xa (by simpa [KZ]using HO1.out)⟩
  case round =>
   obtain⟨c,ao,no,co,hc,rfl,rfl,HNO,HBw,HOw⟩:=hrel;clear HW1 HO1;by_cases hlt:c<n
   ·have hcx:c<P.length:=by have:=hx.out;omega
    obtain⟨b5,o5,rfl,hb5,e5⟩:=HI.out c hcx;have e5w:=(Yn HBw.out (by omega)).trans e5;have hgd:P.getD c 0=P[c]:=by simp[hcx]
    have HPT:=Xa (Zbs (P:=P) (c:=c) (b:=b) (Y0 P m));rw[hgd]at HPT;obtain⟨r,hr⟩:=ZbD (P:=P) (b:=b) (Y0 P m) (n-(c+1)) (c+1) (by have:=hx.out;omega);have HCM:Hid (P[c]=(b:Int)->c∈chP P b):=Xa (fun e=>ZcH.2 ⟨hcx,by rw[hgd];exact e⟩);have HLC:Hid ((b::(KZ P (c+1) b).flatMap (Y0 P m)).length<=1000):=Xa (by
     have:=HLP.out;rw[hr]at this;simp only[List.length_cons,List.length_append]at this |-;omega)
    clear e5 hgd hr;generalize P[c]=pc at *;by_cases hpc:pc=(b:Int)
    ·subst hpc
     rw[if_pos rfl]at HPT;rw[HPT.out]at HLC;have q1:((b:Int)==(b:Int))=true:=by simp
     have HCC:=Xa (IH.out c wr (Xa (HI.keep (HBw.mono hB))) (by have:=HBw.size;omega) (Xa (hG.out b c HG.out (HCM.out rfl))) (by omega));have hpp:0<(Y0 P m c).length:=by cases m<;>simp[Y0]
     have HLN:Hid (no+(Y0 P m c).length=(b::((KZ P c b).flatMap (Y0 P m)++Y0 P m c)).length):=Xa (by rw[HNO.out];simp;omega);have hnl:no+(Y0 P m c).length<=1000:=by rw[HLN.out];exact HLC.out
     have HAP:Hid (Zv (b::(KZ P c b).flatMap (Y0 P m))++Zv (Y0 P m c)=Zv (b::(KZ P (c+1) b).flatMap (Y0 P m))):=Xa (by rw[HPT.out];simp[Zv]);have HLT:Hid (no+(Y0 P m c).length=(b::(KZ P (c+1) b).flatMap (Y0 P m)).length):=Xa (by rw[HLN.out,HPT.out])
     go_wp2_with fail
     refine HCC.mono ?_;rintro e w5 ⟨v5,rfl,hb5',ho5⟩;obtain⟨g5,c5,rfl,hg5,_⟩:=Xh ho5 hpp;have HO5:Hid (w5.ownsRow w.heap.size 2 1 (.slice ao no co) no (Zv (b::(KZ P c b).flatMap (Y0 P m)))):=Xa (ZhP HOw.out (Nat.le_refl _) (fun k e=>hb5'.block k (HOw.lt k e).2));have HB5:=Xa (Xj HBw.out hb5');have HC5:Hid (∀j u,(Zv (Y0 P m c))[j]?=some u->w5.cell? ((⟨g5,0,none⟩:Addr).add j)=some u):=Xa (fun j u hu=>by rw[Addr.add_lit,Nat.zero_add];exact Zx ho5 hu);have hz5:=hb5'.size;have hz6:=HBw.size;have HNV:Hid ((Zv (Y0 P m c)).length=(Y0 P m c).length*1):=Xa (by simp[Zv]);clear hb5' ho5 HCC;generalize (Y0 P m c).length=lp at *
     go_wp2_with (at_builtin;refine wpList_append_own_at _ rfl _ _ 40 rfl w.heap.size 2 i0 (.int .i64 0) 1 8 Tryd.underlying40 hi0 hz0 hz1 hz2 rfl (by decide) _ _ _ rfl HO5.out ⟨g5,0,none⟩ lp c5 (Zv (Y0 P m c)) rfl HNV.out ?c1 ?c2 ?c3 ?c4 ?c5 ?_)
     case c1=>exact HC5.out
     case c2=>intro u hu;obtain⟨z,_,rfl⟩:=List.mem_map.1 hu;rfl
     case c3=>unfold maxLen;omega
     case c4=>omega
     case c5=>omega
     intro v8 w8 hown8 hg8 _ hat8;obtain⟨g8,c8,rfl,hg8r,_⟩:=Xh hown8 (by omega);have HB8:Hid (Below w.heap.size w w8):=Xa (HB5.grown hg8 (by omega) (fun k e=>(HO5.lt k e).1));have HO8:=Xa hown8;rw[HAP.out]at HO8;clear hown8 hg8 hat8
     go_wp2_with fail
     exact⟨⟨c+1,_,_,_,by omega,by go_num,rfl,HLT,HB8,HO8⟩,by simp[intOf];omega⟩
    ·rw[if_neg hpc,List.append_nil]at HPT
     have q1:(pc==(b:Int))=false:=by simp[hpc]
     go_wp2_with fail
     exact⟨⟨c+1,ao,no,co,by omega,by go_num,rfl,Xa (by rw[HPT.out];exact HNO.out),HBw,Xa (by rw[HPT.out];exact HOw.out)⟩,by simp[intOf];omega⟩
   ·have hce:c=n:=by omega
    have HTE:Hid (KZ P c b=chP P b):=Xa (by rw[hce,hx.out];rfl);rw[HTE.out]at HOw HNO;have h1:=HNO.out
    go_wp2_with fail
    go_ret
    refine⟨_,rfl,HBw.out,?_⟩;have:=HOw.out;rw[HNO.out]at this |-;exact this
end Go.Proofs.YtbofmlmdgkblkaaDoor
namespace Go.Proofs.YtbofmlmdgkblkaaDoor
open Go.RowKit
def Ak(v1 v2:Value)(k:Nat):Prop:=v1.ownBlock=some k\/v2.ownBlock=some k
def PrI(wr:World)(b F:Nat)(U:Nat->Value)(Pr:Nat->List Int)(A:Nat->Prop):Prop:=∀i,i<b->∃lo hi a' c',U i=.slice a' (Pr i).length c'/\F<lo/\hi<=wr.heap.size/\Xe wr lo hi a' (Pr i)/\∀k,A k->¬(lo<=k/\k<hi)
theorem PrI.keep{wr wr':World}{b F:Nat}{U:Nat->Value}{Pr:Nat->List Int}{A A':Nat->Prop}(h:PrI wr b F U Pr A)(hz:wr.heap.size<=wr'.heap.size)(hb:∀k,k<wr.heap.size->F<k->¬A k->wr'.heap[k]?=wr.heap[k]?)(hA:∀k,A' k->A k\/wr.heap.size<=k):PrI wr' b F U Pr A':=fun i hi=>by
 obtain⟨lo,hi',a',c',e,h1,h2,h3,h4⟩:=h i hi;refine⟨lo,hi',a',c',e,h1,Nat.le_trans h2 hz,h3.keepS (fun k k1 k2=>hb k (by omega) (by omega) (fun q=>h4 k q ⟨k1,k2⟩)),fun k hk q=>?_⟩;rcases hA k hk with r | r
 ·exact h4 k r q
 ·omega
structure MaI(w1 w2 wr:World)(U V:Nat->Value)(Pr:Nat->List Int)(bp b1:Nat)(p1:Option Addr)(c1 b2:Nat)(p2:Option Addr)(c2:Nat):Prop where
 fl:FwI w1 wr w1.heap.size (.slice none 0 0) (.slice none 0 0) U V b1 p1 c1 b2 p2 c2
 pr:PrI wr bp w1.heap.size U Pr (Ak (.slice p1 b1 c1) (.slice p2 b2 c2))
 sa:Yp (w1.heap.size+1) w2.heap.size w2 wr
 hk:∀k,Ak (.slice p1 b1 c1) (.slice p2 b2 c2) k->w2.heap.size<=k
 sz:w2.heap.size<=wr.heap.size
section
variable {w1 w2 wr wr' : World} {U V : Nat -> Value} {Pr : Nat -> List Int} {bp b1 : Nat} {p1 : Option Addr} {c1 b2 : Nat} {p2 : Option Addr} {c2 : Nat}
theorem FwI.ak{x2 x3:Value}{F:Nat}(h:FwI w1 wr F x2 x3 U V b1 p1 c1 b2 p2 c2){k:Nat}(hk:Ak (.slice p1 b1 c1) (.slice p2 b2 c2) k):F<k/\k<wr.heap.size:=by
 rcases hk with e | e
 ·have:=h.o1.lt k e;omega
 ·have:=h.o2.lt k e;omega
theorem MaI.below(h:MaI w1 w2 wr U V Pr bp b1 p1 c1 b2 p2 c2)(k:Below wr.heap.size wr wr'):MaI w1 w2 wr' U V Pr bp b1 p1 c1 b2 p2 c2:=by
 have:=h.sz;exact⟨h.fl.below k,h.pr.keep k.size (fun q h1 _ _=>k.block q h1) (fun _ hk=>Or.inl hk),fun q q1 q2=>(k.block q (by omega)).trans (h.sa q q1 q2),h.hk,Nat.le_trans h.sz k.size⟩
theorem FwI.congrU{w6:World}{x2 x3:Value}{F:Nat}{U':Nat->Value}(h:FwI w6 wr F x2 x3 U V b1 p1 c1 b2 p2 c2)(e:∀i,i<b1->U' i=U i):FwI w6 wr F x2 x3 U' V b1 p1 c1 b2 p2 c2:=by
 refine⟨h.e0,h.e1,h.e2,h.e3,h.thaw,h.bel,h.lt,h.le,?_,h.o2,h.dj⟩;have:(List.range b1).map U'=(List.range b1).map U:=List.map_congr_left (fun i hi=>e i (List.mem_range.1 hi));rw[this];exact h.o1
theorem MaI.newU{u:Value}{ua:Option Addr}{uc:Nat}(h:MaI w1 w2 wr U V Pr b1 b1 p1 c1 b2 p2 c2)(k:Below wr.heap.size wr wr')(hu:u=.slice ua (Pr b1).length uc)(hi:Xe wr' wr.heap.size wr'.heap.size ua (Pr b1)):MaI w1 w2 wr' (fun i=>if i=b1 then u else U i) V Pr (b1+1) b1 p1 c1 b2 p2 c2:=by
 have hb:=h.below k;have hlt:=h.fl.lt;refine⟨hb.fl.congrU (fun i hi=>if_neg (by omega)),fun i hi'=>?_,hb.sa,hb.hk,hb.sz⟩;by_cases e:i=b1
 ·subst e
  refine⟨wr.heap.size,wr'.heap.size,ua,uc,by rw[if_pos rfl];exact hu,hlt,Nat.le_refl _,hi,fun k hk q=>?_⟩;have:=(h.fl.ak hk).2;omega
 ·obtain⟨lo,hi2,a',c',q1,q2⟩:=hb.pr i (by omega)
  exact⟨lo,hi2,a',c',by rw[if_neg e];exact q1,q2⟩
theorem MaI.app1{w8:World}{ob:Obj}{p1':Option Addr}{c1':Nat}(h:MaI w1 w2 wr U V Pr bp b1 p1 c1 b2 p2 c2)(hg:(wr.alloc ob).grownBy w8 (Value.slice p1 b1 c1).ownBlock)(ho:w8.ownsRow (w1.heap.size+1) 47 1 (.slice p1' (b1+1) c1') (b1+1) ((List.range b1).map U++[U b1]))(hat:(Value.slice p1' (b1+1) c1').ownBlock=(Value.slice p1 b1 c1).ownBlock\/(Value.slice p1' (b1+1) c1').ownBlock=some (wr.heap.size+1)) :
 MaI w1 w2 (w8.setCell ⟨w1.heap.size,0,none⟩ (.slice p1' (b1+1) c1')) U V Pr bp (b1+1) p1' c1' b2 p2 c2/\(∀q,w8.cell? ⟨w1.heap.size,q,none⟩=wr.cell? ⟨w1.heap.size,q,none⟩)/\(∀q,w8.frozen? ⟨w1.heap.size,q,none⟩=false)/\Below w1.heap.size wr w8:=by
 obtain⟨h1,h2,h3,h4⟩:=h.fl.app1 hg ho hat;have hsz:=h.sz;have hgs:=hg.size;have has:(wr.alloc ob).heap.size=wr.heap.size+1:=World.size_alloc _ _;have hbk:∀k,k<wr.heap.size->w1.heap.size<k->¬Ak (.slice p1 b1 c1) (.slice p2 b2 c2) k->(w8.setCell ⟨w1.heap.size,0,none⟩ (.slice p1' (b1+1) c1')).heap[k]?=wr.heap[k]?:=fun k q1 q2 q3=>(Below.heap_setCell _ _ _ _ (by dsimp only;omega)).trans ((hg.block k (by omega) (fun e=>q3 (Or.inl e.symm))).trans (Below.heap_alloc _ _ _ q1))
 have hA:∀k,Ak (.slice p1' (b1+1) c1') (.slice p2 b2 c2) k->Ak (.slice p1 b1 c1) (.slice p2 b2 c2) k\/wr.heap.size<=k:=fun k hk=>by
  rcases hk with e | e
  ·rcases hat with q | q
   ·exact Or.inl (Or.inl (q ▸ e))
   ·rw[q]at e;have:=Option.some.inj e;omega
  ·exact Or.inl (Or.inr e)
 refine⟨⟨h1,h.pr.keep (by rw[Xd];omega) hbk hA,fun q q1 q2=>(hbk q (by omega) (by omega) (fun e=>by have:=h.hk q e;omega)).trans (h.sa q q1 q2),fun k hk=>?_,by rw[Xd];omega⟩,h2,h3,h4⟩;rcases hA k hk with e | e
 ·exact h.hk k e
 ·omega
theorem MaI.app2{w8:World}{ob:Obj}{p2':Option Addr}{c2':Nat}(h:MaI w1 w2 wr U V Pr bp b1 p1 c1 b2 p2 c2)(hg:(wr.alloc ob).grownBy w8 (Value.slice p2 b2 c2).ownBlock)(ho:w8.ownsRow (w1.heap.size+1) 4 1 (.slice p2' (b2+1) c2') (b2+1) ((List.range b2).map V++[V b2]))(hat:(Value.slice p2' (b2+1) c2').ownBlock=(Value.slice p2 b2 c2).ownBlock\/(Value.slice p2' (b2+1) c2').ownBlock=some (wr.heap.size+1)) :
 MaI w1 w2 (w8.setCell ⟨w1.heap.size,1,none⟩ (.slice p2' (b2+1) c2')) U V Pr bp b1 p1 c1 (b2+1) p2' c2'/\(∀q,w8.cell? ⟨w1.heap.size,q,none⟩=wr.cell? ⟨w1.heap.size,q,none⟩)/\(∀q,w8.frozen? ⟨w1.heap.size,q,none⟩=false)/\Below w1.heap.size wr w8:=by
 obtain⟨h1,h2,h3,h4⟩:=h.fl.app2 hg ho hat;have hsz:=h.sz;have hgs:=hg.size;have has:(wr.alloc ob).heap.size=wr.heap.size+1:=World.size_alloc _ _;have hbk:∀k,k<wr.heap.size->w1.heap.size<k->¬Ak (.slice p1 b1 c1) (.slice p2 b2 c2) k->(w8.setCell ⟨w1.heap.size,1,none⟩ (.slice p2' (b2+1) c2')).heap[k]?=wr.heap[k]?:=fun k q1 q2 q3=>(Below.heap_setCell _ _ _ _ (by dsimp only;omega)).trans ((hg.block k (by omega) (fun e=>q3 (Or.inr e.symm))).trans (Below.heap_alloc _ _ _ q1))
 have hA:∀k,Ak (.slice p1 b1 c1) (.slice p2' (b2+1) c2') k->Ak (.slice p1 b1 c1) (.slice p2 b2 c2) k\/wr.heap.size<=k:=fun k hk=>by
  rcases hk with e | e
  ·exact Or.inl (Or.inl e)
  ·rcases hat with q | q
   ·exact Or.inl (Or.inr (q ▸ e))
   ·rw[q]at e;have:=Option.some.inj e;omega
 refine⟨⟨h1,h.pr.keep (by rw[Xd];omega) hbk hA,fun q q1 q2=>(hbk q (by omega) (by omega) (fun e=>by have:=h.hk q e;omega)).trans (h.sa q q1 q2),fun k hk=>?_,by rw[Xd];omega⟩,h2,h3,h4⟩;rcases hA k hk with e | e
 ·exact h.hk k e
 ·omega
end
def Zgf(w:World)(L B:Nat)(a:Option Addr)(xs:List Bool):Prop :=
 ∀i (h:i<xs.length),∃b o,a=some ⟨b,o,none⟩/\(L<=b/\b<B)/\w.cell? ⟨b,o+i,none⟩=some (.bool xs[i])
structure ZhD(w:World)(L B:Nat)(Pr:List (List Int))(Rc:List Bool)(P Od:List Int)(a1 a2 a3 a4:Option Addr):Prop where
 p:ZK w L B a1 Pr
 r:Zgf w L B a2 Rc
 i:Xe w L B a3 P
 o:Xe w L B a4 Od
def prL(xs:List Xg):List (List Int):=(List.range xs.length).map fun i:Nat=>predsFrom xs 0 (i:Int)
def rcL(xs:List Xg):List Bool:=(List.range xs.length).map fun z=>Xf (Zcr xs).1 z
theorem WY.ex{xs:List Xg}(h:WY xs):∀b,b<xs.length->(∃a,Idm (XW xs) a b)\/∀c,Kk (XW xs) c b->c=b:=fun b hb=>by
 classical
 have hw:∀b,b<xs.length->∀x,x<xs.length->(Xf (addsN (fun _=>0) ((List.range xs.length).filter fun x=>decide (Av (XW xs) x b))) x=true↔Av (XW xs) x b):=fun b _ x hx=>by
  rw[YV,Jj,Bool.or_false,decide_eq_true_eq,List.mem_filter,List.mem_range,decide_eq_true_eq];exact⟨fun q=>q.2,fun q=>⟨hx,q⟩⟩
 have:=VU h.top.2.2.1 h.top.1 h.re h.top.2.2.2 (Ws:=fun b=>addsN (fun _=>0) ((List.range xs.length).filter fun x=>decide (Av (XW xs) x b))) hw;rcases this.get b hb with⟨a,ha,_⟩ | ⟨q,_⟩
 ·exact Or.inl ⟨a,ha⟩
 ·exact Or.inr q
theorem WY.model{xs:List Xg}(h:WY xs):Th (XW xs) xs.length ((List.range xs.length).map (idomP ((List.range xs.length).map (Z1 (XW xs) xs.length)))):=US h.re h.ex
end Go.Proofs.YtbofmlmdgkblkaaDoor
