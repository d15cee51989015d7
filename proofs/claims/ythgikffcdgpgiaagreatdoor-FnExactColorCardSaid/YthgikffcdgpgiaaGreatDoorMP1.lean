import Derived.Test.YthgikffcdgpgiaaGreatDoorDO2
namespace Go.Proofs.YthgikffcdgpgiaaGreatDoor
set_option maxHeartbeats 4000000
set_option maxRecDepth 100000
open Go.RowKit
theorem Zbz{P:List Int}{c b:Nat}(g:Nat->List Nat):(Zk P (c+1) b).flatMap g=(Zk P c b).flatMap g++(if P.getD c 0=(b:Int)then g c else []):=by
 unfold Zk;rw[List.range_succ,List.filter_append,List.filter_cons,List.filter_nil,List.flatMap_append];by_cases e:P.getD c 0=(b:Int)
 ·rw[if_pos (by rw[beq_iff_eq];exact e),if_pos e];simp
 ·rw[if_neg (by rw[beq_iff_eq];exact e),if_neg e];simp
theorem ZbG{P:List Int}{b:Nat}(g:Nat->List Nat):∀(m c:Nat),c+m=P.length->∃r,(chP P b).flatMap g=(Zk P c b).flatMap g++r
 | 0,c,h=>⟨[],by rw[show c=P.length by omega,ZaM];simp⟩
 | m+1,c,h=>by
  obtain⟨r,hr⟩:=ZbG (P:=P) (b:=b) g m (c+1) oM;exact⟨_,by rw[hr,Zbz,List.append_assoc]⟩
theorem ZcR(w:World)(b:Nat):(w.alloc (.cells #[.int .i64 (b:Int)] 2)).ownsRow w.heap.size 2 1 (.slice (some ⟨w.heap.size,0,none⟩) 1 1) [b].length (Yo [b]):=by
 have:=World.ownsRow_lit (base:=w.heap.size) (e:=2) (size:=1) w #[.int .i64 (b:Int)] 1 sP vZ rfl;simpa [Yo]using this
theorem ZfG(ia:Option Addr)(n ic:Nat)(P:List Int)(L B:Nat)(hx:Hid (n=P.length))(hn:n<=1000)(G:Nat->Prop)(hG:Hid (∀b c,G b->c∈chP P b->G c))(hL:Hid (∀m b,G b->(Xs P m b).length<=1000)) :
 ∀(m b:Nat)(w:World),Hid (Xg w L B ia P)->B<=w.heap.size->Hid (G b)->m<=1000 ->
 Calls Tryz.prog 46 #[.slice ia n ic,.int .i64 b,.int .i64 m] w fun e w'=>∃v,e=.returned v/\Below w.heap.size w w'/\w'.ownsRow w.heap.size 2 1 v (Xs P m b).length (Yo (Xs P m b)):=by
 obtain⟨i0,hi0,hz0,hz1,hz2⟩:=X7 Tryz.info2';intro m
 induction m with
 | zero =>
  intro b w HI hB HG hm;have hm0:((0:Nat):Int)=0:=rfl
  go_enter Tryz.func46,Tryz.ntmps46
  go_wp2_with fail
  go_ret
  exact⟨_,rfl,Xb (Below.refl _ _) _,ZcR w b⟩
 | succ m ih =>
  intro b w HI hB HG hm;have IH:=Xa ih;clear ih;have HW1:Hid (Below w.heap.size w (w.alloc (.cells #[.int .i64 (b:Int)] 2))):=Xa (Xb (Below.refl _ _) _);have HO1:Hid ((w.alloc (.cells #[.int .i64 (b:Int)] 2)).ownsRow w.heap.size 2 1 (.slice (some ⟨w.heap.size,0,none⟩) 1 1) [b].length (Yo [b])):=Xa (ZcR w b);have HPE:Hid (Xs P (m+1) b=b::(chP P b).flatMap (Xs P m)):=Xa rfl;have HLP:Hid ((b::(chP P b).flatMap (Xs P m)).length<=1000):=Xa (by rw[<-HPE.out];exact hL.out _ _ HG.out);rw[HPE.out];obtain⟨D,hD⟩:∃D:Int,D=((m+1:Nat):Int):=⟨_,rfl⟩;rw[<-hD];have hsub:D-1=(m:Int):=oM;have hdz:(D==0)=false:=by simp;omega
  have hD1:1<=D:=oM;have hD2:D<=1000:=oM;clear hD
  go_enter Tryz.func46,Tryz.ntmps46
  go_wp2_with fail
  go_loopw [7,8] (fun vo u wr=>∃(c:Nat)(ao:Option Addr)(no co:Nat),c<=n/\u=.int .i64 c/\vo=.slice ao no co/\Hid (no=(b::(Zk P c b).flatMap (Xs P m)).length)/\Hid (Below w.heap.size w wr)/\Hid (wr.ownsRow w.heap.size 2 1 (.slice ao no co) no (Yo (b::(Zk P c b).flatMap (Xs P m))))) (fun _ u _=>n-(intOf u).toNat)
  case atStart=>exact⟨0,_,_,_,Nat.zero_le _,rfl,rfl,Xa (by simp[Zk]),HW1,Xa (by simpa [Zk]using HO1.out)⟩
  case round =>
   obtain⟨c,ao,no,co,hc,rfl,rfl,HNO,HBw,HOw⟩:=hrel;clear HW1 HO1;by_cases hlt:c<n
   ·have hcx:c<P.length:=by have:=hx.out;omega
    obtain⟨b5,o5,rfl,hb5,e5⟩:=HI.out c hcx;have e5w:=(XD HBw.out oM).trans e5;have hgd:P.getD c 0=P[c]:=by simp[hcx]
    have HPT:=Xa (Zbz (P:=P) (c:=c) (b:=b) (Xs P m));rw[hgd]at HPT;obtain⟨r,hr⟩:=ZbG (P:=P) (b:=b) (Xs P m) (n-(c+1)) (c+1) (by have:=hx.out;omega);have HCM:Hid (P[c]=(b:Int)->c∈chP P b):=Xa (fun e=>Um.2 ⟨hcx,by rw[hgd];exact e⟩);have HLC:Hid ((b::(Zk P (c+1) b).flatMap (Xs P m)).length<=1000):=Xa (by
     have:=HLP.out;rw[hr]at this;simp only[List.length_cons,List.length_append]at this |-;omega)
    clear e5 hgd hr;generalize P[c]=pc at *;by_cases hpc:pc=(b:Int)
    ·subst hpc
     rw[if_pos rfl]at HPT;rw[HPT.out]at HLC;have q1:((b:Int)==(b:Int))=true:=sP;have HCC:=Xa (IH.out c wr (Xa (HI.keep (HBw.mono hB))) (by have:=HBw.size;omega) (Xa (hG.out b c HG.out (HCM.out rfl))) oM);have hpp:0<(Xs P m c).length:=by cases m<;>simp[Xs]
     have HLN:Hid (no+(Xs P m c).length=(b::((Zk P c b).flatMap (Xs P m)++Xs P m c)).length):=Xa (by rw[HNO.out];simp;omega);have hnl:no+(Xs P m c).length<=1000:=by rw[HLN.out];exact HLC.out
     have HAP:Hid (Yo (b::(Zk P c b).flatMap (Xs P m))++Yo (Xs P m c)=Yo (b::(Zk P (c+1) b).flatMap (Xs P m))):=Xa (by rw[HPT.out];simp[Yo]);have HLT:Hid (no+(Xs P m c).length=(b::(Zk P (c+1) b).flatMap (Xs P m)).length):=Xa (by rw[HLN.out,HPT.out])
     go_wp2_with fail
     refine HCC.mono ?_;rintro e w5 ⟨v5,rfl,hb5',ho5⟩;obtain⟨g5,c5,rfl,hg5,_⟩:=Xp ho5 hpp;have HO5:Hid (w5.ownsRow w.heap.size 2 1 (.slice ao no co) no (Yo (b::(Zk P c b).flatMap (Xs P m)))):=Xa (UD HOw.out (Nat.le_refl _) (fun k e=>hb5'.block k (HOw.lt k e).2));have HB5:=Xa (Xe HBw.out hb5');have HC5:Hid (∀j u,(Yo (Xs P m c))[j]?=some u->w5.cell? ((⟨g5,0,none⟩:Addr).add j)=some u):=Xa (fun j u hu=>by rw[Addr.add_lit,Nat.zero_add];exact YP ho5 hu);have hz5:=hb5'.size;have hz6:=HBw.size;have HNV:Hid ((Yo (Xs P m c)).length=(Xs P m c).length*1):=Xa (by simp[Yo]);clear hb5' ho5 HCC;generalize (Xs P m c).length=lp at *
     go_wp2_with (at_builtin;refine wpList_append_own_at _ rfl _ _ 26 rfl w.heap.size 2 i0 (.int .i64 0) 1 8 Tryz.underlying26 hi0 hz0 hz1 hz2 rfl vZ _ _ _ rfl HO5.out ⟨g5,0,none⟩ lp c5 (Yo (Xs P m c)) rfl HNV.out ?c1 ?c2 ?c3 ?c4 ?c5 ?_)
     case c1=>exact HC5.out
     case c2=>intro u hu;obtain⟨z,_,rfl⟩:=List.mem_map.1 hu;rfl
     case c3=>unfold maxLen;omega
     case c4=>omega
     case c5=>omega
     intro v8 w8 hown8 hg8 _ hat8;obtain⟨g8,c8,rfl,hg8r,_⟩:=Xp hown8 oM;have HB8:Hid (Below w.heap.size w w8):=Xa (HB5.grown hg8 oM (fun k e=>(HO5.lt k e).1));have HO8:=Xa hown8;rw[HAP.out]at HO8;clear hown8 hg8 hat8
     go_wp2_with fail
     exact⟨⟨c+1,_,_,_,oM,gM,rfl,HLT,HB8,HO8⟩,by simp[intOf];omega⟩
    ·rw[if_neg hpc,List.append_nil]at HPT
     have q1:(pc==(b:Int))=false:=by simp[hpc]
     go_wp2_with fail
     exact⟨⟨c+1,ao,no,co,oM,gM,rfl,Xa (by rw[HPT.out];exact HNO.out),HBw,Xa (by rw[HPT.out];exact HOw.out)⟩,by simp[intOf];omega⟩
   ·have hce:c=n:=oM
    have HTE:Hid (Zk P c b=chP P b):=Xa (by rw[hce,hx.out];rfl);rw[HTE.out]at HOw HNO;have h1:=HNO.out
    go_wp2_with fail
    go_ret
    refine⟨_,rfl,HBw.out,?_⟩;have:=HOw.out;rw[HNO.out]at this |-;exact this
section
def Ak(v1 v2:Value)(k:Nat):Prop:=v1.ownBlock=some k\/v2.ownBlock=some k
def PrI(wr:World)(b F:Nat)(U:Nat->Value)(Pr:Nat->List Int)(A:Nat->Prop):Prop:=∀i,i<b->∃lo hi a' c',U i=.slice a' (Pr i).length c'/\F<lo/\hi<=wr.heap.size/\Xg wr lo hi a' (Pr i)/\∀k,A k->¬(lo<=k/\k<hi)
theorem PrI.keep{wr wr':World}{b F:Nat}{U:Nat->Value}{Pr:Nat->List Int}{A A':Nat->Prop}(h:PrI wr b F U Pr A)(hz:wr.heap.size<=wr'.heap.size)(hb:∀k,k<wr.heap.size->F<k->¬A k->wr'.heap[k]?=wr.heap[k]?)(hA:∀k,A' k->A k\/wr.heap.size<=k):PrI wr' b F U Pr A':=fun i hi=>by
 obtain⟨lo,hi',a',c',e,h1,h2,h3,h4⟩:=h i hi;refine⟨lo,hi',a',c',e,h1,Nat.le_trans h2 hz,h3.keepS (fun k k1 k2=>hb k oM oM (fun q=>h4 k q ⟨k1,k2⟩)),fun k hk q=>?_⟩;rcases hA k hk with r | r
 ·exact h4 k r q
 ·omega
structure MaI(w1 w2 wr:World)(U V:Nat->Value)(Pr:Nat->List Int)(bp b1:Nat)(p1:Option Addr)(c1 b2:Nat)(p2:Option Addr)(c2:Nat):Prop where
 fl:FwI w1 wr w1.heap.size (.slice none 0 0) (.slice none 0 0) U V b1 p1 c1 b2 p2 c2
 pr:PrI wr bp w1.heap.size U Pr (Ak (.slice p1 b1 c1) (.slice p2 b2 c2))
 sa:Xu (w1.heap.size+1) w2.heap.size w2 wr
 hk:∀k,Ak (.slice p1 b1 c1) (.slice p2 b2 c2) k->w2.heap.size<=k
 sz:w2.heap.size<=wr.heap.size
section
variable {w1 w2 wr wr' : World} {U V : Nat -> Value} {Pr : Nat -> List Int} {bp b1 : Nat} {p1 : Option Addr} {c1 b2 : Nat} {p2 : Option Addr} {c2 : Nat}
theorem FwI.ak{x2 x3:Value}{F:Nat}(h:FwI w1 wr F x2 x3 U V b1 p1 c1 b2 p2 c2){k:Nat}(hk:Ak (.slice p1 b1 c1) (.slice p2 b2 c2) k):F<k/\k<wr.heap.size:=by
 rcases hk with e | e
 ·have:=h.o1.lt k e;omega
 ·have:=h.o2.lt k e;omega
theorem MaI.below(h:MaI w1 w2 wr U V Pr bp b1 p1 c1 b2 p2 c2)(k:Below wr.heap.size wr wr'):MaI w1 w2 wr' U V Pr bp b1 p1 c1 b2 p2 c2:=by
 have:=h.sz;exact⟨h.fl.below k,h.pr.keep k.size (fun q h1 _ _=>k.block q h1) (fun _ hk=>Or.inl hk),fun q q1 q2=>(k.block q oM).trans (h.sa q q1 q2),h.hk,Nat.le_trans h.sz k.size⟩
theorem FwI.congrU{w6:World}{x2 x3:Value}{F:Nat}{U':Nat->Value}(h:FwI w6 wr F x2 x3 U V b1 p1 c1 b2 p2 c2)(e:∀i,i<b1->U' i=U i):FwI w6 wr F x2 x3 U' V b1 p1 c1 b2 p2 c2:=by
 refine⟨h.e0,h.e1,h.e2,h.e3,h.thaw,h.bel,h.lt,h.le,?_,h.o2,h.dj⟩;have:(List.range b1).map U'=(List.range b1).map U:=List.map_congr_left (fun i hi=>e i (List.mem_range.1 hi));rw[this];exact h.o1
theorem MaI.newU{u:Value}{ua:Option Addr}{uc:Nat}(h:MaI w1 w2 wr U V Pr b1 b1 p1 c1 b2 p2 c2)(k:Below wr.heap.size wr wr')(hu:u=.slice ua (Pr b1).length uc)(hi:Xg wr' wr.heap.size wr'.heap.size ua (Pr b1)):MaI w1 w2 wr' (fun i=>if i=b1 then u else U i) V Pr (b1+1) b1 p1 c1 b2 p2 c2:=by
 have hb:=h.below k;have hlt:=h.fl.lt;refine⟨hb.fl.congrU (fun i hi=>if_neg oM),fun i hi'=>?_,hb.sa,hb.hk,hb.sz⟩;by_cases e:i=b1
 ·subst e
  refine⟨wr.heap.size,wr'.heap.size,ua,uc,by rw[if_pos rfl];exact hu,hlt,Nat.le_refl _,hi,fun k hk q=>?_⟩;have:=(h.fl.ak hk).2;omega
 ·obtain⟨lo,hi2,a',c',q1,q2⟩:=hb.pr i oM
  exact⟨lo,hi2,a',c',by rw[if_neg e];exact q1,q2⟩
theorem MaI.app1{w8:World}{ob:Obj}{p1':Option Addr}{c1':Nat}(h:MaI w1 w2 wr U V Pr bp b1 p1 c1 b2 p2 c2)(hg:(wr.alloc ob).grownBy w8 (Value.slice p1 b1 c1).ownBlock)(ho:w8.ownsRow (w1.heap.size+1) 62 1 (.slice p1' (b1+1) c1') (b1+1) ((List.range b1).map U++[U b1]))(hat:(Value.slice p1' (b1+1) c1').ownBlock=(Value.slice p1 b1 c1).ownBlock\/(Value.slice p1' (b1+1) c1').ownBlock=some (wr.heap.size+1)) :
 MaI w1 w2 (w8.setCell ⟨w1.heap.size,0,none⟩ (.slice p1' (b1+1) c1')) U V Pr bp (b1+1) p1' c1' b2 p2 c2/\(∀q,w8.cell? ⟨w1.heap.size,q,none⟩=wr.cell? ⟨w1.heap.size,q,none⟩)/\(∀q,w8.frozen? ⟨w1.heap.size,q,none⟩=false)/\Below w1.heap.size wr w8:=by
 obtain⟨h1,h2,h3,h4⟩:=h.fl.app1 hg ho hat;have hsz:=h.sz;have hgs:=hg.size;have has:(wr.alloc ob).heap.size=wr.heap.size+1:=World.size_alloc _ _;have hbk:∀k,k<wr.heap.size->w1.heap.size<k->¬Ak (.slice p1 b1 c1) (.slice p2 b2 c2) k->(w8.setCell ⟨w1.heap.size,0,none⟩ (.slice p1' (b1+1) c1')).heap[k]?=wr.heap[k]?:=fun k q1 q2 q3=>(Below.heap_setCell _ _ _ _ (by dsimp only;omega)).trans ((hg.block k oM (fun e=>q3 (Or.inl e.symm))).trans (Below.heap_alloc _ _ _ q1))
 have hA:∀k,Ak (.slice p1' (b1+1) c1') (.slice p2 b2 c2) k->Ak (.slice p1 b1 c1) (.slice p2 b2 c2) k\/wr.heap.size<=k:=fun k hk=>by
  rcases hk with e | e
  ·rcases hat with q | q
   ·exact Or.inl (Or.inl (q ▸ e))
   ·rw[q]at e;have:=Option.some.inj e;omega
  ·exact Or.inl (Or.inr e)
 refine⟨⟨h1,h.pr.keep (by rw[Xd];omega) hbk hA,fun q q1 q2=>(hbk q oM oM (fun e=>by have:=h.hk q e;omega)).trans (h.sa q q1 q2),fun k hk=>?_,by rw[Xd];omega⟩,h2,h3,h4⟩;rcases hA k hk with e | e
 ·exact h.hk k e
 ·omega
theorem MaI.app2{w8:World}{ob:Obj}{p2':Option Addr}{c2':Nat}(h:MaI w1 w2 wr U V Pr bp b1 p1 c1 b2 p2 c2)(hg:(wr.alloc ob).grownBy w8 (Value.slice p2 b2 c2).ownBlock)(ho:w8.ownsRow (w1.heap.size+1) 4 1 (.slice p2' (b2+1) c2') (b2+1) ((List.range b2).map V++[V b2]))(hat:(Value.slice p2' (b2+1) c2').ownBlock=(Value.slice p2 b2 c2).ownBlock\/(Value.slice p2' (b2+1) c2').ownBlock=some (wr.heap.size+1)) :
 MaI w1 w2 (w8.setCell ⟨w1.heap.size,1,none⟩ (.slice p2' (b2+1) c2')) U V Pr bp b1 p1 c1 (b2+1) p2' c2'/\(∀q,w8.cell? ⟨w1.heap.size,q,none⟩=wr.cell? ⟨w1.heap.size,q,none⟩)/\(∀q,w8.frozen? ⟨w1.heap.size,q,none⟩=false)/\Below w1.heap.size wr w8:=by
 obtain⟨h1,h2,h3,h4⟩:=h.fl.app2 hg ho hat;have hsz:=h.sz;have hgs:=hg.size;have has:(wr.alloc ob).heap.size=wr.heap.size+1:=World.size_alloc _ _;have hbk:∀k,k<wr.heap.size->w1.heap.size<k->¬Ak (.slice p1 b1 c1) (.slice p2 b2 c2) k->(w8.setCell ⟨w1.heap.size,1,none⟩ (.slice p2' (b2+1) c2')).heap[k]?=wr.heap[k]?:=fun k q1 q2 q3=>(Below.heap_setCell _ _ _ _ (by dsimp only;omega)).trans ((hg.block k oM (fun e=>q3 (Or.inr e.symm))).trans (Below.heap_alloc _ _ _ q1))
 have hA:∀k,Ak (.slice p1 b1 c1) (.slice p2' (b2+1) c2') k->Ak (.slice p1 b1 c1) (.slice p2 b2 c2) k\/wr.heap.size<=k:=fun k hk=>by
  rcases hk with e | e
  ·exact Or.inl (Or.inl e)
  ·rcases hat with q | q
   ·exact Or.inl (Or.inr (q ▸ e))
   ·rw[q]at e;have:=Option.some.inj e;omega
 refine⟨⟨h1,h.pr.keep (by rw[Xd];omega) hbk hA,fun q q1 q2=>(hbk q oM oM (fun e=>by have:=h.hk q e;omega)).trans (h.sa q q1 q2),fun k hk=>?_,by rw[Xd];omega⟩,h2,h3,h4⟩;rcases hA k hk with e | e
 ·exact h.hk k e
 ·omega
end
def J2(w:World)(L B:Nat)(a:Option Addr)(xs:List Bool):Prop :=
 ∀i (h:i<xs.length),∃b o,a=some ⟨b,o,none⟩/\(L<=b/\b<B)/\w.cell? ⟨b,o+i,none⟩=some (.bool xs[i])
theorem J2.keepS{w w':World}{L B:Nat}{a:Option Addr}{xs:List Bool}(h:J2 w L B a xs)(k:Xu L B w w'):J2 w' L B a xs:=fun i hi=>by
 obtain⟨b,o,e,hb,h1⟩:=h i hi;exact⟨b,o,e,hb,(Xc (k b hb.1 hb.2)).trans h1⟩
theorem J2.keep{w w':World}{L B:Nat}{a:Option Addr}{xs:List Bool}(h:J2 w L B a xs)(k:Below B w w'):J2 w' L B a xs:=h.keepS (Xu.of_below k)
structure KG(w:World)(L B:Nat)(Pr:List (List Int))(Rc:List Bool)(P Od:List Int)(a1 a2 a3 a4:Option Addr):Prop where
 p:XF w L B a1 Pr
 r:J2 w L B a2 Rc
 i:Xg w L B a3 P
 o:Xg w L B a4 Od
theorem KG.keepS{w w':World}{L B:Nat}{Pr:List (List Int)}{Rc:List Bool}{P Od:List Int}{a1 a2 a3 a4:Option Addr}(h:KG w L B Pr Rc P Od a1 a2 a3 a4)(k:Xu L B w w'):KG w' L B Pr Rc P Od a1 a2 a3 a4:=⟨h.p.keepS k,h.r.keepS k,h.i.keepS k,h.o.keepS k⟩
theorem KG.keep{w w':World}{L B:Nat}{Pr:List (List Int)}{Rc:List Bool}{P Od:List Int}{a1 a2 a3 a4:Option Addr}(h:KG w L B Pr Rc P Od a1 a2 a3 a4)(k:Below B w w'):KG w' L B Pr Rc P Od a1 a2 a3 a4:=h.keepS (Xu.of_below k)
def prL(xs:List Xi):List (List Int):=(List.range xs.length).map fun i:Nat=>predsFrom xs 0 (i:Int)
def rcL(xs:List Xi):List Bool:=(List.range xs.length).map fun z=>Xf (Y7 xs).1 z
theorem Up.ex{xs:List Xi}(h:Up xs):∀b,b<xs.length->(∃a,Idm (Xx xs) a b)\/∀c,JF (Xx xs) c b->c=b:=fun b hb=>by
 classical
 have hw:∀b,b<xs.length->∀x,x<xs.length->(Xf (addsN (fun _=>0) ((List.range xs.length).filter fun x=>decide (Av (Xx xs) x b))) x=true↔Av (Xx xs) x b):=fun b _ x hx=>by
  rw[Y4,Ze,Bool.or_false,decide_eq_true_eq,List.mem_filter,List.mem_range,decide_eq_true_eq];exact⟨fun q=>q.2,fun q=>⟨hx,q⟩⟩
 have:=U4 h.top.2.2.1 h.top.1 h.re h.top.2.2.2 (Ws:=fun b=>addsN (fun _=>0) ((List.range xs.length).filter fun x=>decide (Av (Xx xs) x b))) hw;rcases this.get b hb with⟨a,ha,_⟩ | ⟨q,_⟩
 ·exact Or.inl ⟨a,ha⟩
 ·exact Or.inr q
theorem Up.model{xs:List Xi}(h:Up xs):Y1 (Xx xs) xs.length ((List.range xs.length).map (idomP ((List.range xs.length).map (YH (Xx xs) xs.length)))):=ZaF h.re h.ex
end
theorem Zaj(v:Int)(a:Option Addr)(n c:Nat)(xs:List Xi)(L B:Nat)(w:World)(ha:Hid (Xl w L B a xs))(hx:Hid (n=xs.length))(hs:Hid (xs.length+Xk xs<=1048576))(hB:B<=w.heap.size)(hv:Hid (XQ ⟨v,xs⟩=true)) :
 Calls Tryz.prog 20 #[.agg #[.int .i64 v,.slice a n c]] w fun e w'=>∃P a1 c1 a2 c2 a3 c3 a4 c4,e=.returned (.agg #[.slice a1 n c1,.slice a2 n c2,.slice a3 n c3,.slice a4 (Xs P n 0).length c4])/\Below w.heap.size w w'/\Y1 (Xx xs) n P/\KG w' w.heap.size w'.heap.size (prL xs) (rcL xs) P (Xh (Xs P n 0)) a1 a2 a3 a4:=by
 have HOK:=Xa (Ke hv.out);have hn2:n<=1000:=by have:=HOK.n2;have:=hx.out;omega
 have hn1:0<n:=by have:=HOK.n1;have:=hx.out;omega
 have HRE:Hid (∀x,Re (Xx xs) x->x<n):=Xa (by rw[hx.out];exact HOK.re);have HVF:=Xa (fun W (hb:Below w.heap.size w W)=>JQ v a n c xs L B W (Xa (ha.keep (hb.mono hB))) hx hs (by have:=hb.size;omega));rw[<-UA,hv.out]at HVF;have HRC:=Xa (fun W (hb:Below w.heap.size w W) z=>T6 v a n c z xs L B W (Xa (ha.keep (hb.mono hB))) hx hn2 hn1 (by have:=hb.size;omega) (Xa (by rw[hx.out];exact HOK.tgt)));have HPR:=Xa (fun W (hb:Below w.heap.size w W) q=>JW v a n c q xs L B W (Xa (ha.keep (hb.mono hB))) hx oM (by have:=hb.size;omega));have HDO:=Xa (fun W (hb:Below w.heap.size w W)=>ZeF v a n c xs L B W (Xa (ha.keep (hb.mono hB))) hx (by have:=hb.size;omega) HOK)
 go_enter Tryz.func20,Tryz.ntmps20
 go_wp2_with fail
 refine(HVF.out _ (by first | exact Below.refl _ _ | exact Xb (Below.refl _ _) _ | exact Xb (Xb (Below.refl _ _) _) _)).mono ?_;rintro e w1 ⟨rfl,hb1⟩;obtain⟨hc1,hf1⟩:=bcell hb1;have k0:w1.cell? ⟨w.heap.size,0,none⟩=some (.int .i64 v):=by rw[hc1 _ _ (by simp;omega)];simp[go_sem]
 have k1:w1.cell? ⟨w.heap.size,1,none⟩=some (.slice a n c):=by rw[hc1 _ _ (by simp;omega)];simp[go_sem]
 have HB1:=Xa (Xe (Xb (Xb (Below.refl w.heap.size w) _) _) hb1);have hz1:w.heap.size+2<=w1.heap.size:=by have:=hb1.size;simp at this;omega
 have HR1:Hid (w1.rowIs (w.heap.size+1) 48 4 (fun _=>.slice none 0 0)):=Xa (by
  have h:=World.rowIs_alloc (w.alloc (.cells #[.int .i64 v,.slice a n c] 32)) #[.slice none 0 0,.slice none 0 0,.slice none 0 0,.slice none 0 0] 48 (fun _=>.slice none 0 0) (fun i hi=>by
   match i,hi with
   | 0,_=>rfl
   | 1,_=>rfl
   | 2,_=>rfl
   | 3,_=>rfl)
  rw[World.size_alloc]at h;exact h.of_block (hb1.block _ sP))
 clear hc1 hf1 hb1 HVF;have hlw:w.heap.size<w1.heap.size:=oM
 go_wp2_with fail
 refine(HRC.out _ (Xb HB1.out _) (-1)).mono ?_;rintro e w2 ⟨v2,F,rfl,hb2,ho2,hnd2,hm2⟩;obtain⟨a2,c2',rfl,hi2⟩:=Xj (xs:=Xh F) (by rw[<-TM];exact ho2);have HM2:Hid (∀x,x∈F↔Re (Xx xs) x):=Xa (fun x=>(hm2 x).trans (WW vZ));have hlF:(Xh F).length<=1000:=by rw[XV];exact Nat.le_trans (YB hnd2 (fun x hx=>HRE.out x ((HM2.out x).1 hx))) hn2
 have hz2:w1.heap.size+1<=w2.heap.size:=by have:=hb2.size;simp at this;omega
 have HI2:Hid (Xg w2 (w1.heap.size+1) w2.heap.size a2 (Xh F)):=Xa (by simpa using hi2);have HB2:=Xa (Xe (Xb HB1.out (.cells #[.slice none 0 0,.slice none 0 0,.slice none 0 0,.slice none 0 0] 48)) hb2);have HF0:Hid (MaI w1 w2 w2 (fun _=>.slice none 0 0) (fun z=>.bool (hasI (Xh F) (z:Int))) (fun i:Nat=>predsFrom xs 0 (i:Int)) 0 0 none 0 0 none 0):=Xa (by
  have h0:FwI w1 (w1.alloc (.cells #[.slice none 0 0,.slice none 0 0,.slice none 0 0,.slice none 0 0] 48)) w1.heap.size (.slice none 0 0) (.slice none 0 0) (fun _=>.slice none 0 0) (fun z=>.bool (hasI (Xh F) (z:Int))) 0 none 0 0 none 0 :=
   ⟨by simp[go_sem],by simp[go_sem],by simp[go_sem],by simp[go_sem],fun q=>(World.rowIs_alloc w1 #[.slice none 0 0,.slice none 0 0,.slice none 0 0,.slice none 0 0] 48 (fun i=>#[.slice none 0 0,.slice none 0 0,.slice none 0 0,.slice none 0 0].getD i undef) (fun i hi=>by simp[Array.getElem?_eq_getElem hi])).frozen q,Xb (Below.refl _ _) _,sP,rfl,World.ownsRow_nil _ _ _ _,World.ownsRow_nil _ _ _ _,Or.inl rfl⟩
  exact⟨h0.below hb2,fun i hi=>absurd hi (Nat.not_lt_zero _),Xu.refl _ _ _,fun k hk=>(by rcases hk with e | e<;>cases e),Nat.le_refl _⟩)
 have HC2:Hid (w2.cell? ⟨w.heap.size,0,none⟩=some (.int .i64 v)/\w2.cell? ⟨w.heap.size,1,none⟩=some (.slice a n c)):=Xa ⟨(hb2.cell (p:=⟨w.heap.size,0,none⟩) (by show w.heap.size<_;simp;omega)).trans ((World.cell?_alloc_lt w1 _ ⟨w.heap.size,0,none⟩ hlw).trans k0),(hb2.cell (p:=⟨w.heap.size,1,none⟩) (by show w.heap.size<_;simp;omega)).trans ((World.cell?_alloc_lt w1 _ ⟨w.heap.size,1,none⟩ hlw).trans k1)⟩;clear hb2 ho2 hi2 hm2 hnd2;obtain⟨lF,hlF2⟩:∃lF,lF=(Xh F).length:=⟨_,rfl⟩;rw[<-hlF2]at hlF |-;have HLF:=Xa hlF2;have K01:Hid (w1.cell? ⟨w.heap.size,0,none⟩=some (.int .i64 v)/\w1.cell? ⟨w.heap.size,1,none⟩=some (.slice a n c)):=Xa ⟨k0,k1⟩;clear hlF2 k0 k1
 go_wp2_with fail
 go_loopw [5] (fun u wr=>∃(b:Nat)(p1:Option Addr)(c1:Nat)(p2:Option Addr)(c2:Nat)(U:Nat->Value),b<=n/\u=.int .i64 b/\Hid (MaI w1 w2 wr U (fun z=>.bool (hasI (Xh F) (z:Int))) (fun i:Nat=>predsFrom xs 0 (i:Int)) b b p1 c1 b p2 c2)) (fun u _=>n-(intOf u).toNat)
 case atStart=>exact⟨0,none,0,none,0,_,Nat.zero_le _,rfl,HF0⟩
 case round =>
  clear HF0;obtain⟨b,p1,c1,p2,c2,U,hbn,rfl,HMb⟩:=hrel;have hwl:=HMb.fl.lt;have hlr:w.heap.size<wr.heap.size:=oM;have HBw:Hid (Below w.heap.size w wr):=Xa (HB1.trans (HMb.fl.bel.mono oM));have g0:=(HMb.fl.bel.cell (p:=⟨w.heap.size,0,none⟩) hlw).trans K01.1;have g1:=(HMb.fl.bel.cell (p:=⟨w.heap.size,1,none⟩) hlw).trans K01.2;by_cases hlt:b<n
  ·have m0:=HMb.fl.e0
   obtain⟨i1,hi1,hy0,hy1,hy2⟩:=X7 Tryz.infoSetI;have HMd:=Xa (HMb.below (Below.refl wr.heap.size wr).drew);have HBd:=Xa HBw.drew;have hpl:(predsFrom xs 0 (b:Int)).length<=1000:=Nat.le_trans (Yc _ _ _) (by have:=hx.out;omega);have hn0:w.heap.size≠w1.heap.size:=oM
   go_wp2_with fail
   refine ZB (fun w'=>w'.cell? ⟨w.heap.size,0,none⟩=some (.int .i64 v)/\w'.cell? ⟨w.heap.size,1,none⟩=some (.slice a n c)) (fun hHeld=>?_);refine XE 0 ?_;refine XE 2 ?_;refine XE 3 ?_;refine wpAnyH_ready (rs:=[1,4]) kR sP ?_;refine(AllReadyH.cons rfl (fun K hK=>?_) (AllReadyH.cons rfl (fun K hK=>?_) AllReadyH.nil))
   ·skip
    go_simp;refine hK _ _ kP (fun hHeld=>?_);clear hK
    try simp only[Act.put,xA,xB,xC,xD,xE,xF]
    refine Xz 4 (fun K hK=>?_);go_simp
    go_at_call 42
    refine(HPR.out _ HBd.out (b:Int)).mono ?_;rintro e w5 ⟨ua,uc,rfl,hb5,hi5⟩;have HM5:=Xa (HMd.newU (u:=.slice ua (predsFrom xs 0 (b:Int)).length uc) (uc:=uc) hb5 rfl hi5);have y0:=HM5.fl.e0;have yl:=HM5.fl.lt;have yf0:=(hb5.cell (p:=⟨w.heap.size,0,none⟩) hlr).trans g0;have yf1:=(hb5.cell (p:=⟨w.heap.size,1,none⟩) hlr).trans g1;have hz5:wr.heap.size<=w5.heap.size:=hb5.size;clear hb5 hi5;generalize (predsFrom xs 0 (b:Int)).length=ul at *;refine hK _ _ ⟨yf0,yf1⟩ (fun hHeld=>?_);clear hK;refine XE 5 ?_;refine Xz 6 (fun K hK=>?_);go_simp;refine hK _ _ kP (fun hHeld=>?_);clear hK;refine Xz 7 (fun K hK=>?_);refine XC rfl _ _ 45 rfl (w1.heap.size+1) 62 i1 (.agg #[.slice none 0 0]) 1 24 Tryz.underlying45 hi1 hy0 hy1 hy2 rfl vZ (.slice p1 b c1) b ((List.range b).map (fun i=>if i=b then Value.slice ua ul uc else U i)) rfl ?s1 ⟨w5.heap.size,0,none⟩ 1 1 [.slice ua ul uc] rfl rfl ?s2 ?s3 ?s4 ?s5 ?s6 ?_
    case s1=>exact HM5.fl.o1.alloc _
    case s2=>exact XY _ _ _
    case s3=>intro u hu;simp at hu;subst hu;rfl
    case s4=>unfold maxLen;omega
    case s5=>omega
    case s6=>simp;omega
    intro v8 w8 hown8 hg8 _ hat8;obtain⟨g8,c8,rfl,hg8r,_⟩:=Xp hown8 oM;obtain⟨hM8,ce8,fe8,hbl8⟩:=HM5.app1 hg8 (by rw[if_pos rfl];exact hown8) (by simpa using hat8);have z0:w8.cell? ⟨w1.heap.size,0,none⟩=some (.slice p1 b c1):=(ce8 0).trans HM5.fl.e0;have zf:=fe8 0;have za:w8.cell? ⟨w.heap.size,0,none⟩=some (.int .i64 v):=(hbl8.cell (p:=⟨w.heap.size,0,none⟩) hlw).trans yf0;have zb:w8.cell? ⟨w.heap.size,1,none⟩=some (.slice a n c):=(hbl8.cell (p:=⟨w.heap.size,1,none⟩) hlw).trans yf1;have HM8:=Xa hM8;clear hown8 hg8 hat8 hM8 ce8 fe8 hbl8;refine hK _ _ ⟨za,zb⟩ (fun hHeld=>?_);clear hK;refine XE 8 ?_;refine Xz 9 (fun K hK=>?_);go_simp;refine hK _ _ ⟨(Xc (Below.heap_setCell _ _ _ _ hn0)).trans za,(Xc (Below.heap_setCell _ _ _ _ hn0)).trans zb⟩ (fun hHeld=>?_);clear hK;refine Zu ?_;clear hHeld z0 zf za zb y0 yl yf0 yf1 m0;generalize w8.setCell ⟨w1.heap.size,0,none⟩ (.slice (some ⟨g8,0,none⟩) (b+1) c8)=w9 at *;have HM9d:=Xa (HM8.below (Below.refl w9.heap.size w9).drew);have x1:=HM8.fl.e1;have xl:=HM8.fl.lt;obtain⟨i2,hi2,hv0,hv1,hv2⟩:=X7 Tryz.infoBo;have HHA:=Xa (fun W (h:Xu (w1.heap.size+1) w2.heap.size w2 W)=>XS a2 lF c2' b (Xh F) (w1.heap.size+1) w2.heap.size W (Xa (HI2.keepS h)) HLF oM)
    go_wp2_with fail
    refine ZB (fun _=>True) (fun hHeld=>?_);refine XE 0 ?_;refine XE 2 ?_;refine XE 3 ?_;refine wpAnyH_ready (rs:=[1,4]) kR sP ?_;refine(AllReadyH.cons rfl (fun K hK=>?_) (AllReadyH.cons rfl (fun K hK=>?_) AllReadyH.nil));go_simp;refine hK _ _ kP (fun hHeld=>?_);clear hK
    try simp only[Act.put,xA,xB,xC,xD,xE,xF]
    refine Xz 4 (fun K hK=>?_);go_simp
    go_at_call 43
    refine(HHA.out _ HM9d.sa).mono ?_;rintro e w10 ⟨rfl,hw10⟩;subst hw10;refine hK _ _ trivial (fun hHeld=>?_);clear hK;refine Xz 5 (fun K hK=>?_);go_simp;refine hK _ _ kP (fun hHeld=>?_);clear hK;rotate_left;go_simp
    go_at_call 43
    refine(HHA.out _ HM9d.sa).mono ?_;rintro e w10 ⟨rfl,hw10⟩;subst hw10;refine hK _ _ trivial (fun hHeld=>?_);clear hK
    try simp only[Act.put,xA,xB,xC,xD,xE,xF]
    refine wpAnyH_ready (rs:=[1,5]) kR sP ?_;refine(AllReadyH.cons rfl (fun K hK=>?_) (AllReadyH.cons rfl (fun K hK=>?_) AllReadyH.nil));go_simp;refine hK _ _ kP (fun hHeld=>?_);clear hK
    try simp only[Act.put,xA,xB,xC,xD,xE,xF]
    refine Xz 5 (fun K hK=>?_);go_simp;refine hK _ _ kP (fun hHeld=>?_);clear hK;rotate_left;go_simp;refine hK _ _ kP (fun hHeld=>?_);clear hK
    try simp only[Act.put,xA,xB,xC,xD,xE,xF]
    refine Xz 1 (fun K hK=>?_);go_simp;refine hK _ _ kP (fun hHeld=>?_);clear hK
    all_goals (
     refine Xz 6 (fun K hK=>?_);refine XC rfl _ _ 46 rfl (w1.heap.size+1) 4 i2 (.bool false) 1 1 Tryz.underlying46 hi2 hv0 hv1 hv2 rfl vZ (.slice p2 b c2) b ((List.range b).map fun z:Nat=>.bool (hasI (Xh F) (z:Int))) rfl ?s1 ⟨w9.heap.size,0,none⟩ 1 1 [.bool (hasI (Xh F) (b:Int))] rfl rfl ?s2 ?s3 ?s4 ?s5 ?s6 ?_
     case s1=>exact HM9d.fl.o2.alloc _
     case s2=>exact XY _ _ _
     case s3=>intro u hu;simp at hu;subst hu;rfl
     case s4=>unfold maxLen;omega
     case s5=>omega
     case s6=>simp;omega
     intro v11 w11 hown11 hg11 _ hat11;obtain⟨g11,c11,rfl,hg11r,_⟩:=Xp hown11 oM;obtain⟨hM11,ce11,fe11,hbl11⟩:=HM9d.app2 hg11 hown11 (by simpa using hat11);have z0:w11.cell? ⟨w1.heap.size,1,none⟩=some (.slice p2 b c2):=(ce11 1).trans HM9d.fl.e1;have zf:=fe11 1;have HM11:=Xa hM11;clear hown11 hg11 hat11 hM11 ce11 fe11 hbl11;refine hK _ _ trivial (fun hHeld=>?_);clear hK;refine XE 7 ?_;refine Xz 8 (fun K hK=>?_);go_simp;refine hK _ _ trivial (fun hHeld=>?_);clear hK;refine Zu ?_;clear hHeld z0 zf;generalize w11.setCell ⟨w1.heap.size,1,none⟩ (.slice (some ⟨g11,0,none⟩) (b+1) c11)=w12 at *
     go_wp2_with fail
     exact⟨⟨b+1,_,c8,_,c11,_,oM,gM,HM11⟩,by simp[intOf];omega⟩)
   ·skip
    go_simp
    go_at_call 42
    refine(HPR.out _ HBd.out (b:Int)).mono ?_;rintro e w5 ⟨ua,uc,rfl,hb5,hi5⟩;have HM5:=Xa (HMd.newU (u:=.slice ua (predsFrom xs 0 (b:Int)).length uc) (uc:=uc) hb5 rfl hi5);have y0:=HM5.fl.e0;have yl:=HM5.fl.lt;have yf0:=(hb5.cell (p:=⟨w.heap.size,0,none⟩) hlr).trans g0;have yf1:=(hb5.cell (p:=⟨w.heap.size,1,none⟩) hlr).trans g1;have hz5:wr.heap.size<=w5.heap.size:=hb5.size;clear hb5 hi5;generalize (predsFrom xs 0 (b:Int)).length=ul at *;refine hK _ _ ⟨yf0,yf1⟩ (fun hHeld=>?_);clear hK
    try simp only[Act.put,xA,xB,xC,xD,xE,xF]
    refine XE 5 ?_;refine wpAnyH_ready (rs:=[1,6]) kR sP ?_;refine(AllReadyH.cons rfl (fun K hK=>?_) (AllReadyH.cons rfl (fun K hK=>?_) AllReadyH.nil))
    ·skip
     go_simp;refine hK _ _ kP (fun hHeld=>?_);clear hK
     try simp only[Act.put,xA,xB,xC,xD,xE,xF]
     refine Xz 6 (fun K hK=>?_);go_simp;refine hK _ _ kP (fun hHeld=>?_);clear hK;refine Xz 7 (fun K hK=>?_);refine XC rfl _ _ 45 rfl (w1.heap.size+1) 62 i1 (.agg #[.slice none 0 0]) 1 24 Tryz.underlying45 hi1 hy0 hy1 hy2 rfl vZ (.slice p1 b c1) b ((List.range b).map (fun i=>if i=b then Value.slice ua ul uc else U i)) rfl ?s1 ⟨w5.heap.size,0,none⟩ 1 1 [.slice ua ul uc] rfl rfl ?s2 ?s3 ?s4 ?s5 ?s6 ?_
     case s1=>exact HM5.fl.o1.alloc _
     case s2=>exact XY _ _ _
     case s3=>intro u hu;simp at hu;subst hu;rfl
     case s4=>unfold maxLen;omega
     case s5=>omega
     case s6=>simp;omega
     intro v8 w8 hown8 hg8 _ hat8;obtain⟨g8,c8,rfl,hg8r,_⟩:=Xp hown8 oM;obtain⟨hM8,ce8,fe8,hbl8⟩:=HM5.app1 hg8 (by rw[if_pos rfl];exact hown8) (by simpa using hat8);have z0:w8.cell? ⟨w1.heap.size,0,none⟩=some (.slice p1 b c1):=(ce8 0).trans HM5.fl.e0;have zf:=fe8 0;have za:w8.cell? ⟨w.heap.size,0,none⟩=some (.int .i64 v):=(hbl8.cell (p:=⟨w.heap.size,0,none⟩) hlw).trans yf0;have zb:w8.cell? ⟨w.heap.size,1,none⟩=some (.slice a n c):=(hbl8.cell (p:=⟨w.heap.size,1,none⟩) hlw).trans yf1;have HM8:=Xa hM8;clear hown8 hg8 hat8 hM8 ce8 fe8 hbl8;refine hK _ _ ⟨za,zb⟩ (fun hHeld=>?_);clear hK;refine XE 8 ?_;refine Xz 9 (fun K hK=>?_);go_simp;refine hK _ _ ⟨(Xc (Below.heap_setCell _ _ _ _ hn0)).trans za,(Xc (Below.heap_setCell _ _ _ _ hn0)).trans zb⟩ (fun hHeld=>?_);clear hK;refine Zu ?_;clear hHeld z0 zf za zb y0 yl yf0 yf1 m0;generalize w8.setCell ⟨w1.heap.size,0,none⟩ (.slice (some ⟨g8,0,none⟩) (b+1) c8)=w9 at *;have HM9d:=Xa (HM8.below (Below.refl w9.heap.size w9).drew);have x1:=HM8.fl.e1;have xl:=HM8.fl.lt;obtain⟨i2,hi2,hv0,hv1,hv2⟩:=X7 Tryz.infoBo;have HHA:=Xa (fun W (h:Xu (w1.heap.size+1) w2.heap.size w2 W)=>XS a2 lF c2' b (Xh F) (w1.heap.size+1) w2.heap.size W (Xa (HI2.keepS h)) HLF oM)
     go_wp2_with fail
     refine ZB (fun _=>True) (fun hHeld=>?_);refine XE 0 ?_;refine XE 2 ?_;refine XE 3 ?_;refine wpAnyH_ready (rs:=[1,4]) kR sP ?_;refine(AllReadyH.cons rfl (fun K hK=>?_) (AllReadyH.cons rfl (fun K hK=>?_) AllReadyH.nil));go_simp;refine hK _ _ kP (fun hHeld=>?_);clear hK
     try simp only[Act.put,xA,xB,xC,xD,xE,xF]
     refine Xz 4 (fun K hK=>?_);go_simp
     go_at_call 43
     refine(HHA.out _ HM9d.sa).mono ?_;rintro e w10 ⟨rfl,hw10⟩;subst hw10;refine hK _ _ trivial (fun hHeld=>?_);clear hK;refine Xz 5 (fun K hK=>?_);go_simp;refine hK _ _ kP (fun hHeld=>?_);clear hK;rotate_left;go_simp
     go_at_call 43
     refine(HHA.out _ HM9d.sa).mono ?_;rintro e w10 ⟨rfl,hw10⟩;subst hw10;refine hK _ _ trivial (fun hHeld=>?_);clear hK
     try simp only[Act.put,xA,xB,xC,xD,xE,xF]
     refine wpAnyH_ready (rs:=[1,5]) kR sP ?_;refine(AllReadyH.cons rfl (fun K hK=>?_) (AllReadyH.cons rfl (fun K hK=>?_) AllReadyH.nil));go_simp;refine hK _ _ kP (fun hHeld=>?_);clear hK
     try simp only[Act.put,xA,xB,xC,xD,xE,xF]
     refine Xz 5 (fun K hK=>?_);go_simp;refine hK _ _ kP (fun hHeld=>?_);clear hK;rotate_left;go_simp;refine hK _ _ kP (fun hHeld=>?_);clear hK
     try simp only[Act.put,xA,xB,xC,xD,xE,xF]
     refine Xz 1 (fun K hK=>?_);go_simp;refine hK _ _ kP (fun hHeld=>?_);clear hK
     all_goals (
      refine Xz 6 (fun K hK=>?_);refine XC rfl _ _ 46 rfl (w1.heap.size+1) 4 i2 (.bool false) 1 1 Tryz.underlying46 hi2 hv0 hv1 hv2 rfl vZ (.slice p2 b c2) b ((List.range b).map fun z:Nat=>.bool (hasI (Xh F) (z:Int))) rfl ?s1 ⟨w9.heap.size,0,none⟩ 1 1 [.bool (hasI (Xh F) (b:Int))] rfl rfl ?s2 ?s3 ?s4 ?s5 ?s6 ?_
      case s1=>exact HM9d.fl.o2.alloc _
      case s2=>exact XY _ _ _
      case s3=>intro u hu;simp at hu;subst hu;rfl
      case s4=>unfold maxLen;omega
      case s5=>omega
      case s6=>simp;omega
      intro v11 w11 hown11 hg11 _ hat11;obtain⟨g11,c11,rfl,hg11r,_⟩:=Xp hown11 oM;obtain⟨hM11,ce11,fe11,hbl11⟩:=HM9d.app2 hg11 hown11 (by simpa using hat11);have z0:w11.cell? ⟨w1.heap.size,1,none⟩=some (.slice p2 b c2):=(ce11 1).trans HM9d.fl.e1;have zf:=fe11 1;have HM11:=Xa hM11;clear hown11 hg11 hat11 hM11 ce11 fe11 hbl11;refine hK _ _ trivial (fun hHeld=>?_);clear hK;refine XE 7 ?_;refine Xz 8 (fun K hK=>?_);go_simp;refine hK _ _ trivial (fun hHeld=>?_);clear hK;refine Zu ?_;clear hHeld z0 zf;generalize w11.setCell ⟨w1.heap.size,1,none⟩ (.slice (some ⟨g11,0,none⟩) (b+1) c11)=w12 at *
      go_wp2_with fail
      exact⟨⟨b+1,_,c8,_,c11,_,oM,gM,HM11⟩,by simp[intOf];omega⟩)
    ·skip
     go_simp;refine hK _ _ kP (fun hHeld=>?_);clear hK
     try simp only[Act.put,xA,xB,xC,xD,xE,xF]
     refine Xz 1 (fun K hK=>?_);go_simp;refine hK _ _ kP (fun hHeld=>?_);clear hK;refine Xz 7 (fun K hK=>?_);refine XC rfl _ _ 45 rfl (w1.heap.size+1) 62 i1 (.agg #[.slice none 0 0]) 1 24 Tryz.underlying45 hi1 hy0 hy1 hy2 rfl vZ (.slice p1 b c1) b ((List.range b).map (fun i=>if i=b then Value.slice ua ul uc else U i)) rfl ?s1 ⟨w5.heap.size,0,none⟩ 1 1 [.slice ua ul uc] rfl rfl ?s2 ?s3 ?s4 ?s5 ?s6 ?_
     case s1=>exact HM5.fl.o1.alloc _
     case s2=>exact XY _ _ _
     case s3=>intro u hu;simp at hu;subst hu;rfl
     case s4=>unfold maxLen;omega
     case s5=>omega
     case s6=>simp;omega
     intro v8 w8 hown8 hg8 _ hat8;obtain⟨g8,c8,rfl,hg8r,_⟩:=Xp hown8 oM;obtain⟨hM8,ce8,fe8,hbl8⟩:=HM5.app1 hg8 (by rw[if_pos rfl];exact hown8) (by simpa using hat8);have z0:w8.cell? ⟨w1.heap.size,0,none⟩=some (.slice p1 b c1):=(ce8 0).trans HM5.fl.e0;have zf:=fe8 0;have za:w8.cell? ⟨w.heap.size,0,none⟩=some (.int .i64 v):=(hbl8.cell (p:=⟨w.heap.size,0,none⟩) hlw).trans yf0;have zb:w8.cell? ⟨w.heap.size,1,none⟩=some (.slice a n c):=(hbl8.cell (p:=⟨w.heap.size,1,none⟩) hlw).trans yf1;have HM8:=Xa hM8;clear hown8 hg8 hat8 hM8 ce8 fe8 hbl8;refine hK _ _ ⟨za,zb⟩ (fun hHeld=>?_);clear hK;refine XE 8 ?_;refine Xz 9 (fun K hK=>?_);go_simp;refine hK _ _ ⟨(Xc (Below.heap_setCell _ _ _ _ hn0)).trans za,(Xc (Below.heap_setCell _ _ _ _ hn0)).trans zb⟩ (fun hHeld=>?_);clear hK;refine Zu ?_;clear hHeld z0 zf za zb y0 yl yf0 yf1 m0;generalize w8.setCell ⟨w1.heap.size,0,none⟩ (.slice (some ⟨g8,0,none⟩) (b+1) c8)=w9 at *;have HM9d:=Xa (HM8.below (Below.refl w9.heap.size w9).drew);have x1:=HM8.fl.e1;have xl:=HM8.fl.lt;obtain⟨i2,hi2,hv0,hv1,hv2⟩:=X7 Tryz.infoBo;have HHA:=Xa (fun W (h:Xu (w1.heap.size+1) w2.heap.size w2 W)=>XS a2 lF c2' b (Xh F) (w1.heap.size+1) w2.heap.size W (Xa (HI2.keepS h)) HLF oM)
     go_wp2_with fail
     refine ZB (fun _=>True) (fun hHeld=>?_);refine XE 0 ?_;refine XE 2 ?_;refine XE 3 ?_;refine wpAnyH_ready (rs:=[1,4]) kR sP ?_;refine(AllReadyH.cons rfl (fun K hK=>?_) (AllReadyH.cons rfl (fun K hK=>?_) AllReadyH.nil));go_simp;refine hK _ _ kP (fun hHeld=>?_);clear hK
     try simp only[Act.put,xA,xB,xC,xD,xE,xF]
     refine Xz 4 (fun K hK=>?_);go_simp
     go_at_call 43
     refine(HHA.out _ HM9d.sa).mono ?_;rintro e w10 ⟨rfl,hw10⟩;subst hw10;refine hK _ _ trivial (fun hHeld=>?_);clear hK;refine Xz 5 (fun K hK=>?_);go_simp;refine hK _ _ kP (fun hHeld=>?_);clear hK;rotate_left;go_simp
     go_at_call 43
     refine(HHA.out _ HM9d.sa).mono ?_;rintro e w10 ⟨rfl,hw10⟩;subst hw10;refine hK _ _ trivial (fun hHeld=>?_);clear hK
     try simp only[Act.put,xA,xB,xC,xD,xE,xF]
     refine wpAnyH_ready (rs:=[1,5]) kR sP ?_;refine(AllReadyH.cons rfl (fun K hK=>?_) (AllReadyH.cons rfl (fun K hK=>?_) AllReadyH.nil));go_simp;refine hK _ _ kP (fun hHeld=>?_);clear hK
     try simp only[Act.put,xA,xB,xC,xD,xE,xF]
     refine Xz 5 (fun K hK=>?_);go_simp;refine hK _ _ kP (fun hHeld=>?_);clear hK;rotate_left;go_simp;refine hK _ _ kP (fun hHeld=>?_);clear hK
     try simp only[Act.put,xA,xB,xC,xD,xE,xF]
     refine Xz 1 (fun K hK=>?_);go_simp;refine hK _ _ kP (fun hHeld=>?_);clear hK
     all_goals (
      refine Xz 6 (fun K hK=>?_);refine XC rfl _ _ 46 rfl (w1.heap.size+1) 4 i2 (.bool false) 1 1 Tryz.underlying46 hi2 hv0 hv1 hv2 rfl vZ (.slice p2 b c2) b ((List.range b).map fun z:Nat=>.bool (hasI (Xh F) (z:Int))) rfl ?s1 ⟨w9.heap.size,0,none⟩ 1 1 [.bool (hasI (Xh F) (b:Int))] rfl rfl ?s2 ?s3 ?s4 ?s5 ?s6 ?_
      case s1=>exact HM9d.fl.o2.alloc _
      case s2=>exact XY _ _ _
      case s3=>intro u hu;simp at hu;subst hu;rfl
      case s4=>unfold maxLen;omega
      case s5=>omega
      case s6=>simp;omega
      intro v11 w11 hown11 hg11 _ hat11;obtain⟨g11,c11,rfl,hg11r,_⟩:=Xp hown11 oM;obtain⟨hM11,ce11,fe11,hbl11⟩:=HM9d.app2 hg11 hown11 (by simpa using hat11);have z0:w11.cell? ⟨w1.heap.size,1,none⟩=some (.slice p2 b c2):=(ce11 1).trans HM9d.fl.e1;have zf:=fe11 1;have HM11:=Xa hM11;clear hown11 hg11 hat11 hM11 ce11 fe11 hbl11;refine hK _ _ trivial (fun hHeld=>?_);clear hK;refine XE 7 ?_;refine Xz 8 (fun K hK=>?_);go_simp;refine hK _ _ trivial (fun hHeld=>?_);clear hK;refine Zu ?_;clear hHeld z0 zf;generalize w11.setCell ⟨w1.heap.size,1,none⟩ (.slice (some ⟨g11,0,none⟩) (b+1) c11)=w12 at *
      go_wp2_with fail
      exact⟨⟨b+1,_,c8,_,c11,_,oM,gM,HM11⟩,by simp[intOf];omega⟩)
  ·have hbe:n=b:=oM
   subst hbe;have HDO1:=Xa (HDO.out wr HBw.out)
   go_wp2_with fail
   refine HDO1.mono ?_;rintro e w3 ⟨da,dc,rfl,hb3,hd3⟩;have HMI:Hid (Y1 (Xx xs) n ((List.range n).map (idomP ((List.range n).map (YH (Xx xs) n))))):=Xa (by rw[hx.out];exact HOK.model);have HID:=Xa (ZdV da n dc ((List.range n).map (YH (Xx xs) n)) wr.heap.size w3.heap.size w3 (Xa (by rw[List.map_map];exact hd3)) (Xa sP) hn2 (Nat.le_refl _) (Xa (fun l hl=>by
    obtain⟨b,_,rfl⟩:=List.mem_map.1 hl;exact⟨Nat.le_trans (Zfh n b) hn2,fun a ha=>(Zt.1 ha).1⟩)))
   have HM3:=Xa (HMb.below hb3);have hz3:=hb3.size;clear hb3 hd3 HDO1
   go_wp2_with fail
   refine HID.mono ?_;rintro e w4 ⟨v4,rfl,hb4,ho4⟩;obtain⟨P,hP⟩:∃P,P=(List.range n).map (idomP ((List.range n).map (YH (Xx xs) n))):=⟨_,rfl⟩;rw[<-hP]at HMI ho4;obtain⟨g3,c3,rfl,hg3,_⟩:=Xp ho4 hn1;have HM4:=Xa (HM3.below hb4);have HO4:=Xa ho4;have hz4:=hb4.size;have t2:=HM4.fl.e2;have t3:=HM4.fl.e3;have tz:=HM4.fl.thaw;have h0':=(HM4.fl.bel.cell (p:=⟨w.heap.size,0,none⟩) hlw).trans K01.1;have h1':=(HM4.fl.bel.cell (p:=⟨w.heap.size,1,none⟩) hlw).trans K01.2;have hnf:w.heap.size≠w1.heap.size:=oM;have hnf2:w1.heap.size≠w.heap.size:=oM;clear hb4 ho4 HID hP g0 g1;have t0:=HM4.fl.e0;have t1:=HM4.fl.e1;have hpz:Hid ((P.map (Value.int .i64)).length=n*1):=Xa (by simp[HMI.len]);have HI4:Hid (Xg w4 w3.heap.size w4.heap.size (some ⟨g3,0,none⟩) P):=Xa (by
    obtain⟨a',c',hv',hi'⟩:=Xj HO4.out;injection hv' with e1;rw[e1];exact hi')
   have hl4:=HM4.fl.lt;have hl3:w1.heap.size<w3.heap.size:=oM;have hR4:Hid (w4.rowIs (w.heap.size+1) 48 4 (fun _=>.slice none 0 0)):=Xa (HR1.of_block (HM4.fl.bel.block _ HR1.lt));have HPS:=Xa (fun W (hW:W=w4.setCell ⟨w1.heap.size,2,none⟩ (.slice (some ⟨g3,0,none⟩) n c3))=>ZfG (some ⟨g3,0,none⟩) n c3 P w3.heap.size w4.heap.size (Xa HMI.len.symm) hn2 (Re (Xx xs)) (Xa (fun b c _ hc=>(KH HMI.out hc).dom.rb)) (Xa (fun m b hb=>Nat.le_trans (Uq HMI.out HRE.out m b hb) hn2)) n 0 W (Xa (HI4.keepS (fun k h1 h2=>by rw[hW];exact Below.heap_setCell _ _ _ _ (by dsimp only;omega)))) (by rw[hW,Xd];exact Nat.le_refl _) (Xa Re.root) hn2)
   go_wp2_with fail
   obtain⟨w5,hw5⟩:∃w5,w5=w4.setCell ⟨w1.heap.size,2,none⟩ (.slice (some ⟨g3,0,none⟩) n c3):=⟨_,rfl⟩;rw[<-hw5];have hb5:∀k,k≠w1.heap.size->w5.heap[k]?=w4.heap[k]?:=fun k hk=>by rw[hw5];exact Below.heap_setCell _ _ _ _ hk
   have hz5:w5.heap.size=w4.heap.size:=by rw[hw5,Xd]
   have s2:w5.cell? ⟨w1.heap.size,2,none⟩=some (.slice (some ⟨g3,0,none⟩) n c3):=by rw[hw5];exact World.cell?_setCell_same _ _ _ t2
   have s0:w5.cell? ⟨w1.heap.size,0,none⟩=some (.slice p1 n c1):=by rw[hw5];exact(X9 _ _ oM _).trans t0
   have s1:w5.cell? ⟨w1.heap.size,1,none⟩=some (.slice p2 n c2):=by rw[hw5];exact(X9 _ _ oM _).trans t1
   have s3:w5.cell? ⟨w1.heap.size,3,none⟩=some (.slice none 0 0):=by rw[hw5];exact(X9 _ _ oM _).trans t3
   have sz:∀q,w5.frozen? ⟨w1.heap.size,q,none⟩=false:=fun q=>by rw[hw5,World.frozen?_setCell];exact tz q
   have hos5:w5.os=w4.os/\w5.tape=w4.tape/\w5.output=w4.output:=by rw[hw5];exact⟨rfl,rfl,rfl⟩
   have hpp:0<(Xs P n 0).length:=by cases n<;>simp[Xs]
   refine(HPS.out w5 hw5).mono ?_;rintro e w6 ⟨v6,rfl,hb6,ho6⟩;obtain⟨g4,c4,rfl,hg4,_⟩:=Xp ho6 hpp;have HO6:=Xa ho6;have hw6l:w1.heap.size<w5.heap.size:=oM;have r0:=(hb6.cell (p:=⟨w1.heap.size,0,none⟩) hw6l).trans s0;have r1:=(hb6.cell (p:=⟨w1.heap.size,1,none⟩) hw6l).trans s1;have r2:=(hb6.cell (p:=⟨w1.heap.size,2,none⟩) hw6l).trans s2;have r3:=(hb6.cell (p:=⟨w1.heap.size,3,none⟩) hw6l).trans s3;have rz:∀q,w6.frozen? ⟨w1.heap.size,q,none⟩=false:=fun q=>(World.frozen?_of_block (hb6.block _ hw6l)).trans (sz q)
   have HB46:Hid (∀k,k<w4.heap.size->k≠w1.heap.size->w6.heap[k]?=w4.heap[k]?):=Xa (fun k h1 h2=>(hb6.block k oM).trans (hb5 k h2));have HOS:Hid (w6.os=w4.os/\w6.tape=w4.tape/\w6.output=w4.output):=Xa ⟨hb6.os.trans hos5.1,hb6.tape.trans hos5.2.1,hb6.output.trans hos5.2.2⟩;have hz6:=hb6.size;have hR6:w6.rowIs (w.heap.size+1) 48 4 (fun _=>.slice none 0 0):=hR4.of_block (HB46.out _ oM oM);have y0:=hR6.cell (i:=0) vZ;have y1:=hR6.cell (i:=1) vZ;have y2:=hR6.cell (i:=2) vZ;have y3:=hR6.cell (i:=3) vZ;have yf:=hR6.frozen;have hne6:w1.heap.size≠w.heap.size+1:=oM;have hne7:w.heap.size+1≠w1.heap.size:=oM;have HR6:=Xa hR6;have HG4:=Xa hg4;have HZ5:=Xa hz5;generalize hQ:(Xs P n 0).length=ql at *;have HQ:=Xa hQ;clear hw5 hb5 s0 s1 s2 s3 sz hos5 hb6 ho6 HPS t0 t1 t2 t3 tz hR6 hz5 hQ
   go_wp2_with fail
   obtain⟨wE,hE⟩:∃wE,wE=((((w6.setCell ⟨w1.heap.size,3,none⟩ (.slice (some ⟨g4,0,none⟩) ql c4)).setCell ⟨w.heap.size+1,0,none⟩ (.slice p1 n c1)).setCell ⟨w.heap.size+1,1,none⟩ (.slice p2 n c2)).setCell ⟨w.heap.size+1,2,none⟩ (.slice (some ⟨g3,0,none⟩) n c3)).setCell ⟨w.heap.size+1,3,none⟩ (.slice (some ⟨g4,0,none⟩) ql c4):=⟨_,rfl⟩;rw[<-hE];obtain⟨z0,z1,z2,z3,hbk,hsz,hos,htp,hou⟩:=ZiW HR6.out hne7 _ _ _ _ _ wE hE;clear hE;refine bodyPost_ret (v:=.agg #[.slice p1 n c1,.slice p2 n c2,.slice (some ⟨g3,0,none⟩) n c3,.slice (some ⟨g4,0,none⟩) ql c4]) (by simp[results,Tryz.results20,go_sem,z0,z1,z2,z3]) rfl ?_;have hz5:=HZ5.out;have hg4:=HG4.out;have hb4E:∀k,k<w4.heap.size->k≠w1.heap.size->k≠w.heap.size+1->wE.heap[k]?=w4.heap[k]?:=fun k h1 h2 h3=>(hbk k h2 h3).trans (HB46.out k h1 h2)
   obtain⟨g1,q1,e1,hg1,_⟩:=Xp HM4.fl.o1 hn1;obtain⟨g2,q2,e2,hg2,_⟩:=Xp HM4.fl.o2 hn1;injection e1 with e1a e1b e1c;injection e2 with e2a e2b e2c;subst e1a;subst e2a;refine⟨P,some ⟨g1,0,none⟩,c1,some ⟨g2,0,none⟩,c2,some ⟨g3,0,none⟩,c3,some ⟨g4,0,none⟩,c4,by rw[HQ.out],?_,HMI.out,?_,?_,?_,?_⟩
   ·have hB4:=HB1.trans (HM4.fl.bel.mono (Nat.le_of_lt hlw))
    exact⟨hos.trans (HOS.1.trans hB4.os),htp.trans (HOS.2.1.trans hB4.tape),hou.trans (HOS.2.2.trans hB4.output),by have:=hB4.size;omega,fun k hk=>(hb4E k oM oM oM).trans (hB4.block k hk)⟩
   ·intro i hi
    have hin:i<n:=by have:=hx.out;simp only[prL,List.length_map,List.length_range]at hi;omega
    obtain⟨lo,hi',a',c',q1,q2,q3,q4,q5⟩:=HM4.pr i hin;have hci:wE.cell? ⟨g1,i,none⟩=some (U i):=(World.cell?_of_block (hb4E g1 oM oM oM)).trans (YP HM4.fl.o1 (by simp[hin]));have epr:(prL xs)[i]=predsFrom xs 0 (i:Int):=by simp[prL]
    refine⟨g1,0,rfl,⟨oM,oM⟩,a',c',?_,?_⟩
    ·rw[Nat.zero_add,hci,q1,epr]
    ·rw[epr]
     exact(q4.keepS (fun k h1 h2=>hb4E k oM oM oM)).mono oM oM
   ·intro i hi
    have hin:i<n:=by have:=hx.out;simp only[rcL,List.length_map,List.length_range]at hi;omega
    have erc:(rcL xs)[i]=Xf (Y7 xs).1 i:=by simp[rcL]
    refine⟨g2,0,rfl,⟨oM,oM⟩,?_⟩;rw[Nat.zero_add,erc];have hb:hasI (Xh F) (i:Int)=Xf (Y7 xs).1 i:=Bool.eq_iff_iff.2 (UT.trans ((HM2.out i).trans (HOK.top.2.1 i).symm));rw[<-hb];exact(World.cell?_of_block (hb4E g2 oM oM oM)).trans (YP HM4.fl.o2 (by simp[hin]))
   ·exact(HI4.keepS (fun k h1 h2=>hb4E k h2 oM oM)).mono oM oM
   ·intro i hi
    refine⟨g4,0,rfl,⟨oM,oM⟩,?_⟩;rw[Nat.zero_add];have hil:i<(Xs P n 0).length:=by rw[XV]at hi;exact hi
    exact(World.cell?_of_block (hbk g4 oM oM)).trans (YP HO6.out (by simp[Yo,Xh,hil]))
end Go.Proofs.YthgikffcdgpgiaaGreatDoor
