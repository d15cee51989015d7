import Derived.Test.YthgikffcdgpgiaaGreatDoorFV1
namespace Go.Proofs.YthgikffcdgpgiaaGreatDoor
set_option maxHeartbeats 1000000
open Go.RowKit Go.Shelf
section
attribute [local go_sem] Oper.semAt_some
structure LiI(w:World)(n₀ Bo Bs:Nat)(sv:Value)(pre:List Nat)(V:World):Prop where
 low:Below w.heap.size w V
 ge:w.heap.size<=Bo/\Bo≠Bs
 sz:n₀<=V.heap.size
 bs:V.heap[Bs]?=some (.cells #[sv] 75)
 own:∃v,V.heap[Bo]?=some (.cells #[v] 26)/\V.ownsRow w.heap.size 2 1 v pre.length ((Xh pre).map (Value.int .i64))
theorem Zgx{V:World}{Bo T:Nat}{v v':Value}(h:V.heap[Bo]?=some (.cells #[v] T)):(V.setCell ⟨Bo,0,none⟩ v').heap[Bo]?=some (.cells #[v'] T):=by
 simp[World.setCell,Array.getElem?_modify,h]
theorem Wo{V:World}{Bo T base e n:Nat}{u v:Value}{xs:List Value}(h:V.heap[Bo]?=some (.cells #[u] T))(ho:V.ownsRow base e 1 v n xs)(hT:T≠e):v.ownBlock≠some Bo:=fun hb=>by
 rcases ho.2 with⟨rfl,_⟩ | ⟨g,cap,cur,rfl,_,h1,_⟩
 ·cases hb
 ·injection hb with hb
  subst hb;rw[show V.heap[g]?=some (.cells #[u] T) from h]at h1;injection h1 with h1;injection h1 with _ h2;exact hT h2
theorem LiI.next{w U u1:World}{n₀ Bo Bs x:Nat}{sv v v1:Value}{pre:List Nat}{ob:Obj}(h:LiI w n₀ Bo Bs sv pre U)(hbx:U.heap[Bo]?=some (.cells #[v] 26))(hown:U.ownsRow w.heap.size 2 1 v pre.length ((Xh pre).map (Value.int .i64)))(hg:(U.alloc ob).grownBy u1 v.ownBlock)(ho:u1.ownsRow w.heap.size 2 1 v1 (pre++[x]).length ((Xh (pre++[x])).map (Value.int .i64))) :
 KeepsOthers U (u1.setCell ⟨Bo,0,none⟩ v1)/\Zy n₀ (fun q=>w.heap.size<=q/\q≠Bs) U (u1.setCell ⟨Bo,0,none⟩ v1)/\LiI w n₀ Bo Bs sv (pre++[x]) (u1.setCell ⟨Bo,0,none⟩ v1):=by
 have hz:U.heap.size<=u1.heap.size:=Nat.le_trans sP hg.size;have hzs:(u1.setCell ⟨Bo,0,none⟩ v1).heap.size=u1.heap.size:=by simp[World.setCell]
 have hbl:∀b,b<U.heap.size->b≠Bo->v.ownBlock≠some b->(u1.setCell ⟨Bo,0,none⟩ v1).heap[b]?=U.heap[b]?:=fun b h1 h2 h3=>(Below.heap_setCell _ _ _ _ (fun e=>h2 e)).trans ((hg.block b (by simp;omega) (fun e=>h3 e.symm)).trans (Below.heap_alloc _ _ _ h1))
 have hn1:∀b,b<w.heap.size->v.ownBlock≠some b:=fun b hb e=>by have:=(hown.lt b e).1;omega
 have hn2:v.ownBlock≠some Bs:=Wo h.bs hown vZ;have hge:=h.ge;have hlw:=h.low.size;have hkk:∀b,b<U.heap.size->¬(w.heap.size<=b/\b≠Bs)->(u1.setCell ⟨Bo,0,none⟩ v1).heap[b]?=U.heap[b]?:=fun b h1 h2=>by
  by_cases e:b=Bs
  ·exact hbl b h1 oM (by rw[e];exact hn2)
  ·have:b<w.heap.size:=Nat.lt_of_not_le (fun h3=>h2 ⟨h3,e⟩)
   exact hbl b h1 oM (hn1 b this)
 have hb1:u1.heap[Bo]?=some (.cells #[v] 26):=(hg.block Bo (by have:=(Array.getElem?_eq_some_iff.1 hbx).1;simp;omega) (fun e=>Wo hbx hown vZ e.symm)).trans ((Below.heap_alloc _ _ _ (Array.getElem?_eq_some_iff.1 hbx).1).trans hbx);refine⟨⟨oM,fun k o h1 h2=>?_⟩,⟨oM,fun k h1 h2=>hkk k (Nat.lt_of_lt_of_le h1 h.sz) h2,fun k o h1 h2 _=>(hkk k (Array.getElem?_eq_some_iff.1 h2).1 h1).trans h2⟩,⟨⟨hg.os.trans h.low.os,hg.tape.trans h.low.tape,hg.output.trans h.low.output,oM,fun b hb=>(hbl b oM oM (hn1 b hb)).trans (h.low.block b hb)⟩,h.ge,by have:=h.sz;omega,(hbl Bs (Array.getElem?_eq_some_iff.1 h.bs).1 (fun e=>hge.2 e.symm) hn2).trans h.bs,v1,Zgx hb1,?_⟩⟩
 ·refine(hbl k (Array.getElem?_eq_some_iff.1 h1).1 (fun e=>?_) (fun e=>?_)).trans h1
  ·subst e
   rw[hbx]at h1;injection h1 with h1;subst h1;cases h2
  ·rcases hown.2 with⟨rfl,_⟩ | ⟨g,cap,cur,rfl,_,h3,_⟩
   ·cases e
   ·injection e with e
    have e:g=k:=e;subst e;rw[h3]at h1;injection h1 with h1;subst h1;cases h2
 ·exact ho.kept (row:=some Bo) ⟨rfl,rfl,rfl,oM,fun k _ hk=>Below.heap_setCell _ _ _ _ (fun e=>hk (by rw[e]))⟩ (Or.inr (Wo hb1 ho vZ))
end
def defI(y:YK):Int:=if dB y.op then y.dst else -1
def XN(v:Int)(fin:Bool):List YK->Nat
 | []=>if fin then 1 else 0
 | y::ys=>if hasI (rdI y) v then 1 else if defI y=v then 2 else XN v fin ys
def bareM(x:Xi)(E:List Int)(v:Int):Nat:=XN v (hasI (rdT x.term) v||hasI E v) x.instrs
def ZcX(W:Nat->Nat)(y:YK):Nat->Nat:=addsN (delsN W (Xt (writesI y))) (Xt (rdI y))
theorem Xy{l:List Int}{v:Int}:hasI l v=true↔v∈l:=by unfold hasI;exact List.contains_iff_mem
theorem Zd7{W:Nat->Nat}{y:YK}(h1:∀v∈rdI y,0<=v)(h2:∀v∈writesI y,0<=v)(v:Nat):Xf (ZcX W y) v=true↔(v:Int)∈rdI y\/((v:Int) ∉ writesI y/\Xf W v=true):=by
 unfold ZcX;rw[Y4,Jh,Bool.or_eq_true,decide_eq_true_eq,Yq h1,Bool.and_eq_true,decide_eq_true_eq,Yq h2]
theorem YS{y:YK}{v:Nat}:defI y=(v:Int)↔(v:Int)∈writesI y:=by
 unfold defI writesI;by_cases e:dB y.op=true
 ·rw[if_pos e,if_pos e];simp[eq_comm]
 ·rw[if_neg e,if_neg e];simp
theorem Zhk{v:Nat}{W:Nat->Nat}:∀(ys:List YK),(∀y∈ys,(∀v∈rdI y,0<=v)/\∀v∈writesI y,0<=v)->(Xf (ys.foldr (fun y acc=>ZcX acc y) W) v=true↔XN (v:Int) (Xf W v) ys=1)
 | [],_=>by
  unfold XN;cases h:Xf W v<;>simp[h]
 | y::ys,hy=>by
  have ih:=Zhk (v:=v) (W:=W) ys (fun z hz=>hy z (List.mem_cons_of_mem _ hz));have h0:=hy y List.mem_cons_self;rw[List.foldr_cons,Zd7 h0.1 h0.2,ih];show _↔(if hasI (rdI y) (v:Int)then 1 else if defI y=(v:Int)then 2 else XN (v:Int) (Xf W v) ys)=1;by_cases e1:(v:Int)∈rdI y
  ·rw[if_pos (Xy.2 e1)];simp[e1]
  ·rw[if_neg (fun h=>e1 (Xy.1 h))]
   by_cases e2:(v:Int)∈writesI y
   ·rw[if_pos (YS.2 e2)];simp[e1,e2]
   ·rw[if_neg (fun h=>e2 (YS.1 h))];simp[e1,e2]
theorem Zgr{α β:Type}(l:List α)(g:Fin l.length->β):(T4 l.length 0).map g=((List.finRange l.length).map g).reverse:=by
 unfold T4;rw[List.take_of_length_le sP,List.map_reverse]
theorem Zgz{α:Type}(l:List α):(List.finRange l.length).map (fun j=>l[j])=l:=by
 apply List.ext_getElem
 ·simp
 ·intro i h1 h2
  simp
theorem ZgM(x:Xi)(W:Nat->Nat):((T4 x.instrs.length 0).map (Vw x)).foldl Kz W=x.instrs.foldr (fun y acc=>ZcX acc y) W:=by
 rw[Zgr,List.foldl_reverse]
 conv=>rhs;rw[<-Zgz x.instrs]
 rw[List.foldr_map,List.foldr_map];rfl
theorem Zdd{x:Xi}{W:Nat->Nat}{v:Nat}(hy:∀y∈x.instrs,(∀v∈rdI y,0<=v)/\∀v∈writesI y,0<=v)(ht:∀v∈rdT x.term,0<=v)(hp:∀p∈x.phis,0<=p.dst) :
 Xf (inW x W) v=true↔(v:Int) ∉ x.phis.map Ph.dst/\XN (v:Int) (hasI (rdT x.term) (v:Int)||Xf W v) x.instrs=1:=by
 unfold inW plL;rw[List.foldl_cons,List.foldl_append,List.foldl_cons,List.foldl_nil,ZgM];have hd:∀v∈x.phis.map Ph.dst,0<=v:=fun v hv=>by obtain⟨p,h1,rfl⟩:=List.mem_map.1 hv;exact hp p h1
 show Xf (addsN (delsN _ (Xt (x.phis.map Ph.dst))) (Xt [])) v=true↔_;rw[Y4,Jh,Bool.or_eq_true,decide_eq_true_eq,Bool.and_eq_true,decide_eq_true_eq,Yq hd];rw[Zhk x.instrs hy];have e:Xf (Kz W (x.instrs.length+1,rdT x.term,[])) v=(hasI (rdT x.term) (v:Int)||Xf W v):=by
  show Xf (addsN (delsN W (Xt [])) (Xt (rdT x.term))) v=_;rw[Y4,Jh,Bool.eq_iff_iff,Bool.or_eq_true,Bool.or_eq_true,decide_eq_true_eq,Yq ht,Xy];simp[Xt]
 rw[e];simp[Xt]
theorem Un{x:Xi}{v:Nat}(hy:∀y∈x.instrs,∀v∈writesI y,0<=v)(hp:∀p∈x.phis,0<=p.dst):Xf (dfW x) v=true↔(v:Int)∈x.phis.map Ph.dst\/∃y∈x.instrs,(v:Int)∈writesI y:=by
 have hf:∀(l:List (Nat × List Int × List Int))(W:Nat->Nat),Xf (l.foldl KA W) v=true↔Xf W v=true\/∃q∈l,v∈Xt q.2.2:=by
  intro l
  induction l with
  | nil=>intro W;simp
  | cons q l ih =>
   intro W;rw[List.foldl_cons,ih];unfold KA;rw[Y4,Bool.or_eq_true,decide_eq_true_eq];simp only[List.mem_cons,exists_eq_or_imp];constructor
   ·rintro((h | h) | h)
    ·exact Or.inr (Or.inl h)
    ·exact Or.inl h
    ·exact Or.inr (Or.inr h)
   ·rintro(h | h | h)
    ·exact Or.inl (Or.inr h)
    ·exact Or.inl (Or.inl h)
    ·exact Or.inr h
 have hd:∀v∈x.phis.map Ph.dst,0<=v:=fun v hv=>by obtain⟨p,h1,rfl⟩:=List.mem_map.1 hv;exact hp p h1
 unfold dfW;rw[hf,Ze];unfold plL;constructor
 ·rintro(h | ⟨q,hq,hv⟩)
  ·cases h
  ·rcases List.mem_cons.1 hq with rfl | hq
   ·simp[Xt]at hv
   ·rcases List.mem_append.1 hq with hq | hq
    ·obtain⟨j,_,rfl⟩:=List.mem_map.1 hq
     exact Or.inr ⟨x.instrs[j],List.getElem_mem _,(Yq (hy _ (List.getElem_mem _))).1 hv⟩
    ·rw[List.mem_singleton.1 hq]at hv
     exact Or.inl ((Yq hd).1 hv)
 ·rintro(h | ⟨y,hy',hv⟩)
  ·exact Or.inr ⟨_,Zb4 x,(Yq hd).2 h⟩
  ·obtain⟨j,hj,rfl⟩:=List.getElem_of_mem hy'
   exact Or.inr ⟨_,Zdh x ⟨j,hj⟩,(Yq (hy _ (List.getElem_mem _))).2 hv⟩
theorem KF{v:Nat}{fin:Bool}:∀(ys:List YK),XN (v:Int) fin ys=0->∀y∈ys,(v:Int) ∉ writesI y
 | [],_,_,h=>by cases h
 | z::zs,h,y,hy=>by
  have h':(if hasI (rdI z) (v:Int)then 1 else if defI z=(v:Int)then 2 else XN (v:Int) fin zs)=0:=h;by_cases e1:hasI (rdI z) (v:Int)=true
  ·rw[if_pos e1]at h';cases h'
  ·rw[if_neg e1]at h'
   by_cases e2:defI z=(v:Int)
   ·rw[if_pos e2]at h';cases h'
   ·rw[if_neg e2]at h'
    rcases List.mem_cons.1 hy with rfl | hy
    ·exact fun h3=>e2 (YS.2 h3)
    ·exact KF zs h' y hy
theorem TG{v:Nat}{fin:Bool}:∀(ys:List YK),(∀y∈ys,(v:Int) ∉ writesI y)->XN (v:Int) fin ys≠2
 | [],_=>by unfold XN;split<;>simp
 | z::zs,h=>by
  show(if hasI (rdI z) (v:Int)then 1 else if defI z=(v:Int)then 2 else XN (v:Int) fin zs)≠2;by_cases e1:hasI (rdI z) (v:Int)=true
  ·rw[if_pos e1];simp
  ·rw[if_neg e1,if_neg (fun e2=>h z List.mem_cons_self (YS.1 e2))]
   exact TG zs (fun y hy=>h y (List.mem_cons_of_mem _ hy))
theorem To{v:Int}{fin:Bool}:∀(ys:List YK),XN v fin ys<=2
 | []=>by unfold XN;split<;>simp
 | z::zs=>by
  show(if hasI (rdI z) v then 1 else if defI z=v then 2 else XN v fin zs)<=2;split
  ·decide
  ·split
   ·decide
   ·exact To zs
theorem Ks{v:Int}{fin:Bool}:∀(ys:List YK),XN v fin ys=1->fin=true\/∃y∈ys,v∈rdI y
 | [],h=>by
  have h':(if fin then 1 else 0)=1:=h;cases fin<;>simp_all
 | z::zs,h=>by
  have h':(if hasI (rdI z) v then 1 else if defI z=v then 2 else XN v fin zs)=1:=h;by_cases e1:hasI (rdI z) v=true
  ·exact Or.inr ⟨z,List.mem_cons_self,Xy.1 e1⟩
  ·rw[if_neg e1]at h'
   by_cases e2:defI z=v
   ·rw[if_pos e2]at h';cases h'
   ·rw[if_neg e2]at h'
    rcases Ks zs h' with h3 | ⟨y,hy,h3⟩
    ·exact Or.inl h3
    ·exact Or.inr ⟨y,List.mem_cons_of_mem _ hy,h3⟩
def edgeU(xs:List Xi)(p t:Int):List Int:=match xs[t.toNat]? with
 | none=>[]
 | some x=>if x.phis=[]then []else (List.range (predsFrom xs 0 t).length).flatMap fun i=>if (predsFrom xs 0 t).getD i 0=p then x.phis.map (fun h=>h.args.getD i 0)else []
def XB(xs:List Xi)(b:Nat):List Int:=match xs[b]? with
 | none=>[]
 | some x=>x.term.targets.flatMap (edgeU xs (b:Int))
theorem Jl{V:Nat}{xs:List Xi}(ho:ZZ V xs){b:Nat}(hb:b<xs.length){v:Nat}:(v:Int)∈XB xs b↔(b,v)∈Uj xs xs.length:=by
 have hT0:∀x∈xs,∀t∈x.term.targets,0<=t:=fun x hx t ht=>(ho.okf.tgt x hx t ht).1
 have hE:(v:Int)∈XB xs b↔∃t:Nat,∃ht:t<xs.length,∃i,i<(XH xs xs.length t).length/\(XH xs xs.length t).getD i 0=b/\∃p∈xs[t].phis,p.args.getD i 0=(v:Int):=by
  unfold XB;rw[List.getElem?_eq_getElem hb];simp only[List.mem_flatMap];constructor
  ·rintro⟨t,ht,hv⟩
   have h0:=ho.okf.tgt _ (List.getElem_mem hb) t ht;obtain⟨k,rfl⟩:=Int.eq_ofNat_of_zero_le h0.1;have hk:k<xs.length:=by have:=h0.2;omega
   refine⟨k,hk,?_⟩;unfold edgeU at hv;rw[Int.toNat_natCast,List.getElem?_eq_getElem hk]at hv;simp only at hv;by_cases e:xs[k].phis=[]
   ·rw[if_pos e]at hv;cases hv
   ·rw[if_neg e]at hv
    obtain⟨i,hi,h2⟩:=List.mem_flatMap.1 hv;rw[Jm hT0]at hi h2;have hi':i<(XH xs xs.length k).length:=by simpa [Xh]using hi
    by_cases e2:(Xh (XH xs xs.length k)).getD i 0=(b:Int)
    ·rw[if_pos e2]at h2
     obtain⟨p,h3,h4⟩:=List.mem_map.1 h2;refine⟨i,hi',?_,p,h3,h4⟩;simp only[Xh,List.getD_eq_getElem?_getD,List.getElem?_map,List.getElem?_eq_getElem hi',Option.map_some,Option.getD_some]at e2 |-;have:((XH xs xs.length k)[i]:Int)=(b:Int):=e2;omega
    ·rw[if_neg e2]at h2;cases h2
  ·rintro⟨t,ht,i,hi,h1,p,h2,h3⟩
   have hm:b∈XH xs xs.length t:=by
    rw[<-h1,List.getD_eq_getElem?_getD,List.getElem?_eq_getElem hi];exact List.getElem_mem hi
   have htg:(t:Int)∈xs[b].term.targets:=by
    have:=(Kn.1 hm).2;rw[Jo hb]at this;obtain⟨z,hz,e⟩:=List.mem_map.1 this;have:=hT0 _ (List.getElem_mem hb) z hz;rw[show(t:Int)=z by omega];exact hz
   refine⟨(t:Int),htg,?_⟩;unfold edgeU;rw[Int.toNat_natCast,List.getElem?_eq_getElem ht];simp only;rw[if_neg (fun e=>by rw[e]at h2;cases h2),Jm hT0];refine List.mem_flatMap.2 ⟨i,by simpa [Xh]using hi,?_⟩;rw[if_pos (by
    simp only[Xh,List.getD_eq_getElem?_getD,List.getElem?_map,List.getElem?_eq_getElem hi,Option.map_some,Option.getD_some]at h1 |-;show((XH xs xs.length t)[i]:Int)=(b:Int);rw[h1])]
   exact List.mem_map.2 ⟨p,h2,h3⟩
 rw[hE];unfold Uj phB phT;rw[List.mem_flatMap];constructor
 ·rintro⟨t,ht,i,hi,h1,p,h2,h3⟩
  refine⟨t,List.mem_range.2 ht,?_⟩;rw[List.getElem?_eq_getElem ht];refine List.mem_flatMap.2 ⟨p,h2,?_⟩;have hl:=(ho.pha t ht p h2).1;rw[Jm hT0]at hl;have hl':p.args.length=(XH xs xs.length t).length:=by simpa [Xh]using hl
  have hi2:i<p.args.length:=oM;rw[List.getD_eq_getElem?_getD,List.getElem?_eq_getElem hi2]at h3;rw[List.getD_eq_getElem?_getD,List.getElem?_eq_getElem hi]at h1;have hz:i<((XH xs xs.length t).zip (Xt p.args)).length:=by simp[Xt];omega
  have e:((XH xs xs.length t).zip (Xt p.args))[i]=(b,v):=by
   rw[List.getElem_zip];simp only[Xt,List.getElem_map];have h1':(XH xs xs.length t)[i]=b:=h1;have h3':p.args[i]=(v:Int):=h3;rw[h1',h3'];rfl
  rw[<-e];exact List.getElem_mem hz
 ·rintro⟨t,ht,hv⟩
  have ht:=List.mem_range.1 ht;rw[List.getElem?_eq_getElem ht]at hv;obtain⟨p,h2,h3⟩:=List.mem_flatMap.1 (show _∈List.flatMap _ xs[t].phis from hv);obtain⟨i,hi,e⟩:=List.getElem_of_mem h3;rw[List.getElem_zip]at e;have hi1:i<(XH xs xs.length t).length:=by simp at hi;omega
  have hi2:i<p.args.length:=by simp[Xt]at hi;omega
  refine⟨t,ht,i,hi1,?_,p,h2,?_⟩
  ·rw[List.getD_eq_getElem?_getD,List.getElem?_eq_getElem hi1]
   exact congrArg Prod.fst e
  ·rw[List.getD_eq_getElem?_getD,List.getElem?_eq_getElem hi2]
   have h4:(Xt p.args)[i]'(by simp[Xt];omega)=v:=congrArg Prod.snd e;simp only[Xt,List.getElem_map]at h4;have:=(ho.pha t ht p h2).2 p.args[i] (List.getElem_mem hi2);show p.args[i]=(v:Int);omega
def barB(xs:List Xi)(b v:Nat):Nat:=match xs[b]? with
 | none=>0
 | some x=>bareM x (XB xs b) (v:Int)
def Yt(xs:List Xi)(b v:Nat):Bool:=match xs[b]? with
 | none=>false
 | some x=>hasI (x.phis.map Ph.dst) (v:Int)
inductive Opn (xs:List Xi) (v:Nat):Nat->Prop
 | root:Opn xs v 0
 | step {b t:Nat}:Opn xs v b->Yt xs b v=false->barB xs b v=0->t∈Xx xs b->Opn xs v t
def Bad(xs:List Xi)(v:Nat):Prop:=∃b,Opn xs v b/\Yt xs b v=false/\barB xs b v=1
theorem Opn.lt{xs:List Xi}(h:Up xs){v b:Nat}(ho:Opn xs v b):b<xs.length:=by
 induction ho with
 | root=>exact h.n1
 | step _ _ _ ht ih=>exact h.tg _ ih _ ht
theorem Zg8{V:Nat}{xs:List Xi}(ho:ZZ V xs){I T:Nat->Nat->Nat}{WO:Nat->Nat->Nat}(hI:∀i (h:i<xs.length),I i=inW xs[i] (WO i))(hT:∀i (h:i<xs.length),T i=dfW xs[i])(hO:∀b,b<xs.length->∀v,Xf (WO b) v=true↔(b,v)∈Uj xs xs.length){ord:Nat->Prop}(hord:∀b,b<xs.length->ord b){src:Nat->List Nat}(hsrc:∀b,b<xs.length->src b=Xx xs b){v:Nat} :
 Sp I T ord src 0 v↔Bad xs v:=by
 have hI':∀b,b<xs.length->(Xf (I b) v=true↔Yt xs b v=false/\barB xs b v=1):=fun b hb=>by
  have hm:=List.getElem_mem hb;rw[hI b hb,Zdd (fun y hy=>⟨fun z hz=>(ho.rdi _ hm y hy z hz).1,fun z hz=>(ho.wri _ hm y hy z hz).1⟩) (fun z hz=>(ho.rdt _ hm z hz).1) (fun p hp=>(ho.phd _ hm p hp).1)];unfold Yt barB bareM;rw[List.getElem?_eq_getElem hb];simp only;have e:Xf (WO b) v=hasI (XB xs b) (v:Int):=by rw[Bool.eq_iff_iff,hO b hb,Xy,Jl ho hb]
  rw[e,<-Bool.not_eq_true,Xy]
 have hT':∀b,b<xs.length->Yt xs b v=false->barB xs b v=0->Xf (T b) v=false:=fun b hb h1 h2=>by
  have hm:=List.getElem_mem hb;rw[hT b hb,<-Bool.not_eq_true,Un (fun y hy z hz=>(ho.wri _ hm y hy z hz).1) (fun p hp=>(ho.phd _ hm p hp).1)];unfold Yt at h1;unfold barB bareM at h2;rw[List.getElem?_eq_getElem hb]at h1 h2;simp only at h1 h2;rintro(h | ⟨y,hy,h⟩)
  ·rw[Xy.2 h]at h1;cases h1
  ·exact KF _ h2 y hy h
 have hTb:∀b,b<xs.length->Xf (T b) v=false->Yt xs b v=false/\barB xs b v≠2:=fun b hb h=>by
  have hm:=List.getElem_mem hb;rw[hT b hb,<-Bool.not_eq_true,Un (fun y hy z hz=>(ho.wri _ hm y hy z hz).1) (fun p hp=>(ho.phd _ hm p hp).1)]at h;unfold Yt barB bareM;rw[List.getElem?_eq_getElem hb];simp only;refine⟨?_,TG _ (fun y hy h2=>h (Or.inr ⟨y,hy,h2⟩))⟩;rw[<-Bool.not_eq_true,Xy];exact fun h2=>h (Or.inl h2)
 constructor
 ·intro h
  have main:∀b x,Sp I T ord src b x->x=v->Opn xs v b->Bad xs v:=by
   intro b x hs
   induction hs with
   | init h1=>rintro rfl hop;exact⟨_,hop,(hI' _ (hop.lt ho.okf)).1 h1⟩
   | @take b s x h1 h2 h3 h4 ih =>
    rintro rfl hop;have hb:=hop.lt ho.okf;have h5:=hTb b hb h4;have h6:barB xs b x<=2:=by
     unfold barB;split
     ·exact Nat.zero_le _
     ·exact To _
    by_cases e:barB xs b x=1
    ·exact⟨b,hop,h5.1,e⟩
    ·exact ih rfl (Opn.step hop h5.1 (by have:=h5.2;omega) (by rw[<-hsrc b hb];exact h2))
  exact main 0 v h rfl Opn.root
 ·rintro⟨b,hop,h1,h2⟩
  have main:∀b,Opn xs v b->Sp I T ord src b v->Sp I T ord src 0 v:=by
   intro b hop
   induction hop with
   | root=>exact fun h=>h
   | @step b t h1 h2 h3 h4 ih =>
    intro hs;have hb:=h1.lt ho.okf;exact ih (Sp.take (hord b hb) (by rw[hsrc b hb];exact h4) hs (hT' b hb h2 h3))
  exact main b hop (Sp.init ((hI' b (hop.lt ho.okf)).2 ⟨h1,h2⟩))
theorem ZfH{V:Nat}{xs:List Xi}(ho:ZZ V xs){v:Nat}(h:Bad xs v):v<V:=by
 obtain⟨b,hop,_,h2⟩:=h;have hb:=hop.lt ho.okf;have hm:=List.getElem_mem hb;unfold barB bareM at h2;rw[List.getElem?_eq_getElem hb]at h2;simp only at h2;rcases Ks _ h2 with h3 | ⟨y,hy,h3⟩
 ·rcases Bool.or_eq_true _ _ ▸ h3 with h4 | h4
  ·have:=(ho.rdt _ hm _ (Xy.1 h4)).2;omega
  ·have h5:=(Jl ho hb).1 (Xy.1 h4)
   unfold Uj phB phT at h5;obtain⟨t,ht,hv⟩:=List.mem_flatMap.1 h5;have ht:=List.mem_range.1 ht;rw[List.getElem?_eq_getElem ht]at hv;obtain⟨p,hp,h6⟩:=List.mem_flatMap.1 (show _∈List.flatMap _ xs[t].phis from hv);have h7:=List.of_mem_zip h6;obtain⟨z,hz,e⟩:=List.mem_map.1 h7.2;have:=(ho.pha t ht p hp).2 z hz;omega
 ·have:=(ho.rdi _ hm y hy _ h3).2;omega
inductive TR (xs:List Xi) (v:Nat):Nat->Prop
 | here {b:Nat}:b<xs.length->barB xs b v=1->TR xs v b
 | step {b t:Nat}:b<xs.length->barB xs b v=0->t∈Xx xs b->Yt xs t v=false->TR xs v t->TR xs v b
def Lin(xs:List Xi)(v b:Nat):Prop:=Yt xs b v=false/\TR xs v b
def VP(xs:List Xi)(v b:Nat):Prop:=(v:Int)∈XB xs b\/∃t∈Xx xs b,Lin xs v t
theorem ZcY(xs:List Xi)(b v:Nat):barB xs b v<=2:=by
 unfold barB;split
 ·exact Nat.zero_le _
 ·exact To _
theorem TR.lt{xs:List Xi}{v b:Nat}(h:TR xs v b):b<xs.length:=by
 cases h with
 | here h _=>exact h
 | step h _ _ _ _=>exact h
theorem ZfV{V:Nat}{xs:List Xi}(ho:ZZ V xs){I WO:Nat->Nat->Nat}(hI:∀i (h:i<xs.length),I i=inW xs[i] (WO i))(hO:∀b,b<xs.length->∀v,Xf (WO b) v=true↔(b,v)∈Uj xs xs.length){v b:Nat}(hb:b<xs.length):Xf (I b) v=true↔Yt xs b v=false/\barB xs b v=1:=by
 have hm:=List.getElem_mem hb;rw[hI b hb,Zdd (fun y hy=>⟨fun z hz=>(ho.rdi _ hm y hy z hz).1,fun z hz=>(ho.wri _ hm y hy z hz).1⟩) (fun z hz=>(ho.rdt _ hm z hz).1) (fun p hp=>(ho.phd _ hm p hp).1)];unfold Yt barB bareM;rw[List.getElem?_eq_getElem hb];simp only;have e:Xf (WO b) v=hasI (XB xs b) (v:Int):=by rw[Bool.eq_iff_iff,hO b hb,Xy,Jl ho hb]
 rw[e,<-Bool.not_eq_true,Xy]
theorem Zgk{V:Nat}{xs:List Xi}(ho:ZZ V xs){T:Nat->Nat->Nat}(hT:∀i (h:i<xs.length),T i=dfW xs[i]){v b:Nat}(hb:b<xs.length)(h1:Yt xs b v=false)(h2:barB xs b v=0):Xf (T b) v=false:=by
 have hm:=List.getElem_mem hb;rw[hT b hb,<-Bool.not_eq_true,Un (fun y hy z hz=>(ho.wri _ hm y hy z hz).1) (fun p hp=>(ho.phd _ hm p hp).1)];unfold Yt at h1;unfold barB bareM at h2;rw[List.getElem?_eq_getElem hb]at h1 h2;simp only at h1 h2;rintro(h | ⟨y,hy,h⟩)
 ·rw[Xy.2 h]at h1;cases h1
 ·exact KF _ h2 y hy h
theorem ZhH{V:Nat}{xs:List Xi}(ho:ZZ V xs){T:Nat->Nat->Nat}(hT:∀i (h:i<xs.length),T i=dfW xs[i]){v b:Nat}(hb:b<xs.length)(h:Xf (T b) v=false):Yt xs b v=false/\barB xs b v≠2:=by
 have hm:=List.getElem_mem hb;rw[hT b hb,<-Bool.not_eq_true,Un (fun y hy z hz=>(ho.wri _ hm y hy z hz).1) (fun p hp=>(ho.phd _ hm p hp).1)]at h;unfold Yt barB bareM;rw[List.getElem?_eq_getElem hb];simp only;refine⟨?_,TG _ (fun y hy h2=>h (Or.inr ⟨y,hy,h2⟩))⟩;rw[<-Bool.not_eq_true,Xy];exact fun h2=>h (Or.inl h2)
theorem Zie{V:Nat}{xs:List Xi}(ho:ZZ V xs){I T WO:Nat->Nat->Nat}(hI:∀i (h:i<xs.length),I i=inW xs[i] (WO i))(hT:∀i (h:i<xs.length),T i=dfW xs[i])(hO:∀b,b<xs.length->∀v,Xf (WO b) v=true↔(b,v)∈Uj xs xs.length){ord:Nat->Prop}(hord:∀b,b<xs.length->ord b){v b:Nat}(hb:b<xs.length) :
 Sp I T ord (Xx xs) b v↔Lin xs v b:=by
 constructor
 ·intro h
  induction h with
  | init h1 =>
   have h2:=(ZfV ho hI hO hb).1 h1;exact⟨h2.1,TR.here hb h2.2⟩
  | @take b s x h1 h2 h3 h4 ih =>
   have h5:=ZhH ho hT hb h4;have h6:=ZcY xs b x;have hs:=ho.okf.tg _ hb _ h2;by_cases e:barB xs b x=1
   ·exact⟨h5.1,TR.here hb e⟩
   ·have hl:=ih hs
    exact⟨h5.1,TR.step hb (by have:=h5.2;omega) h2 hl.1 hl.2⟩
 ·rintro⟨h1,h2⟩
  induction h2 with
  | here h3 h4=>exact Sp.init ((ZfV ho hI hO h3).2 ⟨h1,h4⟩)
  | @step b t h3 h4 h5 h6 h7 ih=>exact Sp.take (hord _ h3) h5 (ih (ho.okf.tg _ h3 _ h5) h6) (Zgk ho hT h3 h1 h4)
theorem ZaK{V:Nat}{xs:List Xi}(ho:ZZ V xs){b v:Nat}(hb:b<xs.length)(h:(v:Int)∈XB xs b):v<V:=by
 have h5:=(Jl ho hb).1 h;unfold Uj phB phT at h5;obtain⟨t,ht,hv⟩:=List.mem_flatMap.1 h5;have ht:=List.mem_range.1 ht;rw[List.getElem?_eq_getElem ht]at hv;obtain⟨p,hp,h6⟩:=List.mem_flatMap.1 (show _∈List.flatMap _ xs[t].phis from hv);have h7:=List.of_mem_zip h6;obtain⟨z,hz,e⟩:=List.mem_map.1 h7.2;have:=(ho.pha t ht p hp).2 z hz;omega
theorem Zih{V:Nat}{xs:List Xi}(ho:ZZ V xs){b v:Nat}(hb:b<xs.length)(h2:barB xs b v=1):v<V:=by
 have hm:=List.getElem_mem hb;unfold barB bareM at h2;rw[List.getElem?_eq_getElem hb]at h2;simp only at h2;rcases Ks _ h2 with h3 | ⟨y,hy,h3⟩
 ·rcases Bool.or_eq_true _ _ ▸ h3 with h4 | h4
  ·have:=(ho.rdt _ hm _ (Xy.1 h4)).2;omega
  ·exact ZaK ho hb (Xy.1 h4)
 ·have:=(ho.rdi _ hm y hy _ h3).2;omega
theorem TR.val{V:Nat}{xs:List Xi}(ho:ZZ V xs){v b:Nat}(h:TR xs v b):v<V:=by
 induction h with
 | here h1 h2=>exact Zih ho h1 h2
 | step _ _ _ _ _ ih=>exact ih
theorem VP.val{V:Nat}{xs:List Xi}(ho:ZZ V xs){v b:Nat}(hb:b<xs.length)(h:VP xs v b):v<V:=by
 rcases h with h | ⟨t,_,h⟩
 ·exact ZaK ho hb h
 ·exact h.2.val ho
theorem Zd0{xs:List Xi}{v:Nat}{lv:Nat->Bool}(h1:∀b,b<xs.length->lv b=true->TR xs v b)(h2:∀b,b<xs.length->barB xs b v=1->lv b=true)(h3:∀b,b<xs.length->barB xs b v=0->∀t∈Xx xs b,lv t=true->Yt xs t v=false->lv b=true){b:Nat}(hb:b<xs.length):lv b=true↔TR xs v b:=by
 refine⟨h1 b hb,fun h=>?_⟩
 induction h with
 | here h4 h5=>exact h2 _ h4 h5
 | @step b t h4 h5 h6 h7 h8 ih=>exact h3 b h4 h5 t h6 (ih h8.lt) h7
def JG(x:Xi)(v:Nat)(q:Bool)(j:Nat):Bool:=decide (XN (v:Int) (hasI (rdT x.term) (v:Int)||q) (x.instrs.drop j)=1)
theorem Zdc(x:Xi)(v:Nat)(q:Bool){j:Nat}(hj:x.instrs.length<=j):JG x v q j=(hasI (rdT x.term) (v:Int)||q):=by
 unfold JG;rw[List.drop_eq_nil_of_le hj];unfold XN;cases (hasI (rdT x.term) (v:Int)||q)<;>simp
theorem Zb1(x:Xi)(v:Nat)(q:Bool){j:Nat}(hj:j<x.instrs.length):JG x v q j=(hasI (rdI x.instrs[j]) (v:Int)||(JG x v q (j+1) && !decide (defI x.instrs[j]=(v:Int)))):=by
 unfold JG;rw[List.drop_eq_getElem_cons hj];generalize x.instrs.drop (j+1)=ys;show decide ((if hasI (rdI x.instrs[j]) (v:Int)then 1 else if defI x.instrs[j]=(v:Int)then 2 else XN (v:Int) _ ys)=1)=_;by_cases e1:hasI (rdI x.instrs[j]) (v:Int)=true
 ·rw[if_pos e1,e1];simp
 ·rw[if_neg e1]
  have e1':hasI (rdI x.instrs[j]) (v:Int)=false:=by simpa using e1
  rw[e1'];by_cases e2:defI x.instrs[j]=(v:Int)
  ·rw[if_pos e2];simp[e2]
  ·rw[if_neg e2];simp[e2]
def PsP(xs:List Xi)(x:Xi)(b i v:Nat)(q:Bool):Bool:=match i with
 | 0=>JG x v q 0||Yt xs b v
 | j+1=>JG x v q (j+1)||(match x.instrs[j]? with
  | none=>false
  | some y=>decide (defI y=(v:Int)))
theorem UI{v:Int}{f f':Bool}(h:f=true->f'=true):∀(ys:List YK),XN v f ys=1->XN v f' ys=1
 | [],h1=>by
  unfold XN at h1 |-;cases hf:f with
  | true=>rw[h hf];rfl
  | false=>rw[hf]at h1;cases h1
 | y::ys,h1=>by
  show(if hasI (rdI y) v then 1 else if defI y=v then 2 else XN v f' ys)=1;have h2:(if hasI (rdI y) v then 1 else if defI y=v then 2 else XN v f ys)=1:=h1;by_cases e1:hasI (rdI y) v=true
  ·rw[if_pos e1]
  ·rw[if_neg e1]at h2 |-
   by_cases e2:defI y=v
   ·rw[if_pos e2]at h2;cases h2
   ·rw[if_neg e2]at h2 |-
    exact UI h ys h2
theorem Ux{v:Int}{f f':Bool}:∀(ys:List YK),XN v f ys=2->XN v f' ys=2
 | [],h1=>by
  unfold XN at h1;cases f<;>cases h1
 | y::ys,h1=>by
  show(if hasI (rdI y) v then 1 else if defI y=v then 2 else XN v f' ys)=2;have h2:(if hasI (rdI y) v then 1 else if defI y=v then 2 else XN v f ys)=2:=h1;by_cases e1:hasI (rdI y) v=true
  ·rw[if_pos e1]at h2;cases h2
  ·rw[if_neg e1]at h2 |-
   by_cases e2:defI y=v
   ·rw[if_pos e2]
   ·rw[if_neg e2]at h2 |-
    exact Ux ys h2
theorem VW{v:Int}{f f':Bool}:∀(ys:List YK),XN v f ys=0->f=false/\(XN v f' ys=1↔f'=true)
 | [],h1=>by
  unfold XN at h1 |-;cases f
  ·exact⟨rfl,by cases f'<;>simp⟩
  ·cases h1
 | y::ys,h1=>by
  have h2:(if hasI (rdI y) v then 1 else if defI y=v then 2 else XN v f ys)=0:=h1;by_cases e1:hasI (rdI y) v=true
  ·rw[if_pos e1]at h2;cases h2
  ·rw[if_neg e1]at h2
   by_cases e2:defI y=v
   ·rw[if_pos e2]at h2;cases h2
   ·rw[if_neg e2]at h2
    have ih:=VW (f':=f') ys h2;refine⟨ih.1,?_⟩;show(if hasI (rdI y) v then 1 else if defI y=v then 2 else XN v f' ys)=1↔_;rw[if_neg e1,if_neg e2];exact ih.2
theorem Zgn{xs:List Xi}{b v:Nat}(hb:b<xs.length){q:Bool}(hq:q=true↔VP xs v b):JG xs[b] v q 0=true↔TR xs v b:=by
 unfold JG;rw[List.drop_zero,decide_eq_true_eq];have hbb:barB xs b v=XN (v:Int) (hasI (rdT xs[b].term) (v:Int)||hasI (XB xs b) (v:Int)) xs[b].instrs:=by unfold barB bareM;rw[List.getElem?_eq_getElem hb]
 have hle:=ZcY xs b v;have hE:hasI (XB xs b) (v:Int)=true->q=true:=fun h=>hq.2 (Or.inl (Xy.1 h))
 have hcs:barB xs b v=0\/barB xs b v=1\/barB xs b v=2:=oM;rcases hcs with h0 | h1 | h2
 ·have h0':=h0
  rw[hbb]at h0';have hf:=VW (f':=hasI (rdT xs[b].term) (v:Int)||q) xs[b].instrs h0';rw[hf.2];have hr:hasI (rdT xs[b].term) (v:Int)=false/\hasI (XB xs b) (v:Int)=false:=by simpa using hf.1
  rw[hr.1,Bool.false_or,hq];constructor
  ·rintro(h | ⟨t,ht,h⟩)
   ·rw[Xy.2 h]at hr;cases hr.2
   ·exact TR.step hb h0 ht h.1 h.2
  ·intro h
   cases h with
   | here _ h3=>rw[h0]at h3;cases h3
   | @step _ t _ _ h3 h4 h5=>exact Or.inr ⟨t,h3,h4,h5⟩
 ·have h1':=h1
  rw[hbb]at h1';refine⟨fun _=>TR.here hb h1,fun _=>UI (fun h=>?_) _ h1'⟩;rcases Bool.or_eq_true _ _ ▸ h with h3 | h3
  ·rw[h3];rfl
  ·rw[hE h3];simp
 ·have h2':=h2
  rw[hbb]at h2';rw[Ux (f':=hasI (rdT xs[b].term) (v:Int)||q) _ h2'];constructor
  ·intro h;cases h
  ·intro h
   cases h with
   | here _ h3=>rw[h2]at h3;cases h3
   | step _ h3 _ _ _=>rw[h2]at h3;cases h3
def sdA(W:Nat->Nat)(q:Nat × List Int × List Int):Nat->Nat:=addsN W (Xt q.2.2)
def TD(W:Nat->Nat)(q:Nat × List Int × List Int):Nat->Nat:=addsN (delsN (sdA W q) (Xt q.2.2)) (Xt q.2.1)
def Wx(m:Nat)(W:Nat->Nat)(q:Nat × List Int × List Int):List (Nat × (Nat->Nat)):=if q.1<=m then [(q.1,sdA W q)]else []
def Kh(m:Nat):(Nat->Nat)->List (Nat × List Int × List Int)->List (Nat × (Nat->Nat))
 | _,[]=>[]
 | W,q::l=>Wx m W q++Kh m (TD W q) l
theorem Jg(m:Nat)(q:Nat × List Int × List Int):∀(l:List (Nat × List Int × List Int))(W:Nat->Nat),Kh m W (l++[q])=Kh m W l++Wx m (l.foldl TD W) q
 | [],W=>by simp[Kh]
 | p::l,W=>by
  show Wx m W p++Kh m (TD W p) (l++[q])=(Wx m W p++Kh m (TD W p) l)++Wx m (l.foldl TD (TD W p)) q;rw[Jg m q l,List.append_assoc]
theorem ZhE{W:Nat->Nat}(h:Xw W)(q:Nat × List Int × List Int):Xw (sdA W q)/\Xw (TD W q):=by
 have h1:Xw (sdA W q):=YE _ h;exact⟨h1,YE _ (ZJ _ h1)⟩
theorem ZfA(l:List (Nat × List Int × List Int)){W:Nat->Nat}(h:Xw W):Xw (l.foldl TD W):=by
 induction l generalizing W with
 | nil=>exact h
 | cons q l ih=>exact ih (ZhE h q).2
theorem Zdi(m:Nat):∀(l:List (Nat × List Int × List Int))(W:Nat->Nat),(Kh m W l).length<=l.length
 | [],_=>Nat.le_refl _
 | q::l,W=>by
  have:=Zdi m l (TD W q);have h:(Wx m W q).length<=1:=by unfold Wx;split<;>simp
  show(Wx m W q++Kh m (TD W q) l).length<=l.length+1;rw[List.length_append];omega
structure Sd where
 i:Nat
 C:Nat
 W:Nat->Nat
def Sd.dat(p:Sd):Nat × (Nat->Nat):=(p.i,p.W)
def Zhx(Kw z:Nat)(p:Sd):Array Value:=#[.int .i64 (p.i:Int),.agg #[.slice (some ⟨z,0,none⟩) Kw p.C]]
def Zjw(Kw z:Nat)(p:Sd)(V:World):Prop:=WsAt V z Kw p.C p.W/\Xw p.W
structure SdI(W:World)(n₁ l Bl Bx gl Kw C1 m:Nat)(ia:Option Addr)(ic:Nat)(W0:Nat->Nat)(J:Nat->List Sd->World->Prop)(pre:List Pl)(V:World):Prop where
 js:∃ss:List Sd,ss.map Sd.dat=Kh m W0 (pre.map Pl.dat)/\J gl ss V
 y:V.cell? ⟨W.heap.size,0,none⟩=some (.func (.yield l) #[] #[])
 lv:V.cell? ⟨Bl,0,none⟩=some (.slice (some ⟨gl,0,none⟩) Kw C1)
 ws:WsAt V gl Kw C1 ((pre.map Pl.dat).foldl TD W0)
 bx:V.cell? ⟨Bx,1,none⟩=some (.slice ia m ic)
 sz:n₁<=V.heap.size
theorem SdI.own{W:World}{n₁ l Bl Bx gl Kw C1 m:Nat}{ia:Option Addr}{ic:Nat}{W0:Nat->Nat}{J:Nat->List Sd->World->Prop}(hJ:∀z,OwnFrom W.heap.size (J z))(hW:W.heap.size<n₁)(hl:Bl<n₁)(hx:Bx<n₁)(hg:gl<n₁):OwnFrom n₁ (SdI W n₁ l Bl Bx gl Kw C1 m ia ic W0 J):=fun pre A V row h k q=>by
 have hz:=h.sz;have hbl:∀b,b<n₁->V.heap[b]?=A.heap[b]?:=fun b hb=>k.block b oM (fun e=>by have:=(q b e.symm).1;omega)
 obtain⟨ss,h1,h2⟩:=h.js;exact⟨⟨ss,h1,hJ gl ss A V row h2 k (fun r e=>⟨by have:=(q r e).1;omega,(q r e).2⟩)⟩,(Xc (hbl _ hW)).trans h.y,(Xc (hbl _ hl)).trans h.lv,h.ws.of_block (hbl _ hg),(Xc (hbl _ hx)).trans h.bx,Nat.le_trans hz k.size⟩
def stF(x:Xi)(W0:Nat->Nat):Nat->Nat:=TD W0 (x.instrs.length+1,rdT x.term,[])
def stB(x:Xi)(W0:Nat->Nat)(k:Nat):Nat->Nat:=((T4 x.instrs.length k).map (Vw x)).foldl TD (stF x W0)
theorem Zaf(W:Nat->Nat)(q:Nat × List Int × List Int)(v:Nat):Xf (sdA W q) v=(decide (v∈Xt q.2.2)||Xf W v):=by
 unfold sdA;rw[Y4]
theorem Zdq(W:Nat->Nat)(q:Nat × List Int × List Int)(v:Nat):Xf (TD W q) v=(decide (v∈Xt q.2.1)||(decide (v ∉ Xt q.2.2)&&Xf W v)):=by
 unfold TD;rw[Y4,Jh,Zaf];by_cases h:v∈Xt q.2.2<;>simp[h]
theorem Ze1(x:Xi)(W0:Nat->Nat){k:Nat}(hk:k<x.instrs.length):stB x W0 k=TD (stB x W0 (k+1)) (Vw x ⟨k,hk⟩):=by
 unfold stB;rw[Tf hk,List.map_append,List.foldl_append];rfl
theorem WV{x:Xi}{W0:Nat->Nat}{v:Nat}{q:Bool}(hq:Xf W0 v=q)(hy:∀y∈x.instrs,(∀v∈rdI y,0<=v)/\∀v∈writesI y,0<=v)(ht:∀v∈rdT x.term,0<=v):∀d k,k+d=x.instrs.length->Xf (stB x W0 k) v=JG x v q k
 | 0,k,hk=>by
  have hk:k=x.instrs.length:=oM;subst hk;rw[Zdc x v q (Nat.le_refl _)];unfold stB;rw[TJ];show Xf (TD W0 (x.instrs.length+1,rdT x.term,[])) v=_;rw[Zdq,hq,Bool.eq_iff_iff,Bool.or_eq_true,Bool.or_eq_true,decide_eq_true_eq,Yq ht,Xy];simp[Xt]
 | d+1,k,hk=>by
  have hlt:k<x.instrs.length:=oM;have ih:=WV hq hy ht d (k+1) oM;have h0:=hy x.instrs[k] (List.getElem_mem hlt);rw[Ze1 x W0 hlt,Zdq,ih,Zb1 x v q hlt];show(decide (v∈Xt (rdI x.instrs[k]))||(decide (v ∉ Xt (writesI x.instrs[k]))&&JG x v q (k+1)))=_;have e1:decide (v∈Xt (rdI x.instrs[k]))=hasI (rdI x.instrs[k]) (v:Int):=by rw[Bool.eq_iff_iff,decide_eq_true_eq,Yq h0.1,Xy]
  have e2:decide (v ∉ Xt (writesI x.instrs[k]))=!decide (defI x.instrs[k]=(v:Int)):=by
   rw[Bool.eq_iff_iff];simp only[decide_eq_true_eq,Bool.not_eq_true',decide_eq_false_iff_not,Yq h0.2,YS]
  rw[e1,e2,Bool.and_comm]
theorem Zdw(x:Xi)(W0:Nat->Nat):∀d k,k+d=x.instrs.length->Kh x.instrs.length (stF x W0) ((T4 x.instrs.length k).map (Vw x))=(T4 x.instrs.length k).map fun j:Fin x.instrs.length=>((j:Nat)+1,sdA (stB x W0 ((j:Nat)+1)) (Vw x j))
 | 0,k,hk=>by
  have hk:k=x.instrs.length:=oM;subst hk;rw[TJ];rfl
 | d+1,k,hk=>by
  have hlt:k<x.instrs.length:=oM;have ih:=Zdw x W0 d (k+1) oM;rw[Tf hlt,List.map_append,List.map_append,List.map_cons,List.map_nil,Jg,ih];congr 1;unfold Wx;rw[if_pos (show(Vw x ⟨k,hlt⟩).1<=x.instrs.length from hlt)];rfl
theorem Zdv(x:Xi)(W0:Nat->Nat):Kh x.instrs.length W0 (plL x)=((T4 x.instrs.length 0).map fun j:Fin x.instrs.length=>((j:Nat)+1,sdA (stB x W0 ((j:Nat)+1)) (Vw x j)))++[(0,sdA (stB x W0 0) (0,[],x.phis.map Ph.dst))]:=by
 unfold plL;show Wx x.instrs.length W0 (x.instrs.length+1,rdT x.term,[])++Kh x.instrs.length (stF x W0) ((T4 x.instrs.length 0).map (Vw x)++[(0,[],x.phis.map Ph.dst)])=_;rw[Jg,Zdw x W0 x.instrs.length 0 oM];have e1:Wx x.instrs.length W0 (x.instrs.length+1,rdT x.term,[])=[]:=by
  unfold Wx;rw[if_neg sP]
 have e2:Wx x.instrs.length (((T4 x.instrs.length 0).map (Vw x)).foldl TD (stF x W0)) (0,[],x.phis.map Ph.dst)=[(0,sdA (stB x W0 0) (0,[],x.phis.map Ph.dst))]:=by
  unfold Wx;rw[if_pos (Nat.zero_le _)];rfl
 rw[e1,e2];rfl
theorem Ziv{V:Nat}{xs:List Xi}(ho:ZZ V xs){b v:Nat}(hb:b<xs.length){W0:Nat->Nat}{q:Bool}(hq:Xf W0 v=q){i:Nat}{W:Nat->Nat}(h:(i,W)∈Kh xs[b].instrs.length W0 (plL xs[b])):i<=xs[b].instrs.length/\Xf W v=PsP xs xs[b] b i v q:=by
 have hm:=List.getElem_mem hb;have hy:∀y∈xs[b].instrs,(∀v∈rdI y,0<=v)/\∀v∈writesI y,0<=v:=fun y hy=>⟨fun z hz=>(ho.rdi _ hm y hy z hz).1,fun z hz=>(ho.wri _ hm y hy z hz).1⟩
 have ht:∀v∈rdT xs[b].term,0<=v:=fun z hz=>(ho.rdt _ hm z hz).1
 rw[Zdv]at h;rcases List.mem_append.1 h with h | h
 ·obtain⟨j,_,e⟩:=List.mem_map.1 h
  have e1:(j:Nat)+1=i:=congrArg Prod.fst e;have e2:sdA (stB xs[b] W0 ((j:Nat)+1)) (Vw xs[b] j)=W:=congrArg Prod.snd e;subst e1 e2;have hj:=j.isLt;refine⟨hj,?_⟩;rw[Zaf,WV hq hy ht (xs[b].instrs.length-(j+1)) (j+1) oM];show _=(JG xs[b] v q ((j:Nat)+1)||(match xs[b].instrs[(j:Nat)]? with
   | none=>false
   | some y=>decide (defI y=(v:Int))))
  rw[List.getElem?_eq_getElem hj,Bool.or_comm];congr 1;rw[Bool.eq_iff_iff,decide_eq_true_eq,decide_eq_true_eq,YS];exact Yq (hy _ (List.getElem_mem hj)).2
 ·have e:=List.mem_singleton.1 h
  have e1:i=0:=congrArg Prod.fst e;have e2:W=sdA (stB xs[b] W0 0) (0,[],xs[b].phis.map Ph.dst):=congrArg Prod.snd e;subst e1 e2;refine⟨Nat.zero_le _,?_⟩;rw[Zaf,WV hq hy ht xs[b].instrs.length 0 oM];show _=(JG xs[b] v q 0||Yt xs b v);rw[Bool.or_comm];congr 1;unfold Yt;rw[List.getElem?_eq_getElem hb,Bool.eq_iff_iff,decide_eq_true_eq];show v∈Xt (xs[b].phis.map Ph.dst)↔hasI (xs[b].phis.map Ph.dst) (v:Int)=true;rw[Xy];exact Yq (fun z hz=>by obtain⟨p,hp,rfl⟩:=List.mem_map.1 hz;exact(ho.phd _ hm p hp).1)
theorem Ze5{V:Nat}{xs:List Xi}(ho:ZZ V xs){b v:Nat}(hb:b<xs.length){q:Bool}(hq:q=true->v<V){j:Nat}(h:JG xs[b] v q j=true):v<V:=by
 have hm:=List.getElem_mem hb;unfold JG at h;rcases Ks _ (of_decide_eq_true h)with h3 | ⟨y,hy,h3⟩
 ·rcases Bool.or_eq_true _ _ ▸ h3 with h4 | h4
  ·have:=(ho.rdt _ hm _ (Xy.1 h4)).2;omega
  ·exact hq h4
 ·have:=(ho.rdi _ hm y (List.mem_of_mem_drop hy) _ h3).2;omega
theorem ZiO{V:Nat}{xs:List Xi}(ho:ZZ V xs){b v:Nat}(hb:b<xs.length){q:Bool}(hq:q=true->v<V){i:Nat}(h:PsP xs xs[b] b i v q=true):v<V:=by
 have hm:=List.getElem_mem hb;cases i with
 | zero =>
  rcases Bool.or_eq_true _ _ ▸ (show(JG xs[b] v q 0||Yt xs b v)=true from h)with h1 | h1
  ·exact Ze5 ho hb hq h1
  ·unfold Yt at h1
   rw[List.getElem?_eq_getElem hb]at h1;obtain⟨p,hp,e⟩:=List.mem_map.1 (Xy.1 h1);have:=(ho.phd _ hm p hp).2;omega
 | succ j =>
  have h':(JG xs[b] v q (j+1)||(match xs[b].instrs[j]? with
   | none=>false
   | some y=>decide (defI y=(v:Int))))=true:=h
  rcases Bool.or_eq_true _ _ ▸ h' with h1 | h1
  ·exact Ze5 ho hb hq h1
  ·cases hj:xs[b].instrs[j]? with
   | none=>rw[hj]at h1;cases h1
   | some y =>
    rw[hj]at h1;have h2:=YS.1 (of_decide_eq_true h1);have:=(ho.wri _ hm y (List.mem_of_getElem? hj) _ h2).2;omega
open Classical in
noncomputable def ptP(xs:List Xi)(x:Xi)(V b i:Nat):List Nat:=(List.range V).filter fun v=>PsP xs x b i v (decide (VP xs v b))
open Classical in
theorem Zhj{V:Nat}{xs:List Xi}(ho:ZZ V xs){b:Nat}(hb:b<xs.length){W0:Nat->Nat}{p:Nat}(hV:V<=p)(hq:∀v,v<p->(Xf W0 v=true↔VP xs v b)){i:Nat}{W:Nat->Nat}(h:(i,W)∈Kh xs[b].instrs.length W0 (plL xs[b])):lsN W p=ptP xs xs[b] V b i:=by
 have hs:∀v,v<p->Xf W v=PsP xs xs[b] b i v (decide (VP xs v b)):=fun v hv=>(Ziv ho hb (by rw[Bool.eq_iff_iff,hq v hv,decide_eq_true_eq]) h).2
 rw[Zab hV (fun v h1 h2=>by
  rw[<-Bool.not_eq_true,hs v h2];intro h3;have:=ZiO ho hb (fun h4=>(of_decide_eq_true h4:VP xs v b).val ho hb) h3;omega)]
 unfold lsN ptP;apply List.filter_congr;intro v hv;have:=List.mem_range.1 hv;exact hs v oM
section
attribute [local go_sem] Oper.semAt_some
theorem ZgL(n:Nat)(v0 v1 v2 v3 v4 v5:Value)(g Kw C:Nat)(w:World) :
 CallsIn Fence.wide n Tryz.prog 60 #[.agg #[v0,v1,v2,v3,v4,v5],.agg #[.slice (some ⟨g,0,none⟩) Kw C]] w fun e w'=>e=.returned (.func (.func 109) #[] #[.pointer (some ⟨w.heap.size+1,0,none⟩),.pointer (some ⟨w.heap.size,0,none⟩)])/\w'=(w.alloc (.cells #[v0,v1,v2,v3,v4,v5] 57)).alloc (.cells #[.slice (some ⟨g,0,none⟩) Kw C] 75):=by
 refine callsIn_of_wp Tryz.func60 rfl trivial ?_ rfl;simp only[Tryz.ntmps60,List.size_toArray,List.length_cons,List.length_nil,Nat.reduceAdd,Nat.reduceSub,Array.replicate_succ,Array.replicate_zero,List.push_toArray,List.append_toArray,List.nil_append,List.cons_append]
 gi_wp2
 go_ret
 exact⟨rfl,rfl⟩
end
end Go.Proofs.YthgikffcdgpgiaaGreatDoor
