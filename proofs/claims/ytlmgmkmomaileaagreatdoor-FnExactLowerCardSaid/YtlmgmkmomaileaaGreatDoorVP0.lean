import Derived.Test.YtlmgmkmomaileaaGreatDoorNV1
import Derived.RangeFuncRecord
import Derived.Deep.CutRange
namespace Go.Proofs.YtlmgmkmomaileaaGreatDoor
def defI(y:XN):Int:=if dB y.op then y.dst else -1
def XT(v:Int)(fin:Bool):List XN->Nat
 | []=>if fin then 1 else 0
 | y::ys=>if hasI (rdI y) v then 1 else if defI y=v then 2 else XT v fin ys
def bareM(x:Xh)(E:List Int)(v:Int):Nat:=XT v (hasI (rdT x.term) v||hasI E v) x.instrs
def Ze9(W:Nat->Nat)(y:XN):Nat->Nat:=addsN (delsN W (Xw (writesI y))) (Xw (rdI y))
theorem X8{l:List Int}{v:Int}:hasI l v=true↔v∈l:=by unfold hasI;exact List.contains_iff_mem
theorem Zf7{W:Nat->Nat}{y:XN}(h1:∀v∈rdI y,0<=v)(h2:∀v∈writesI y,0<=v)(v:Nat):Xg (Ze9 W y) v=true↔(v:Int)∈rdI y\/((v:Int) ∉ writesI y/\Xg W v=true):=by
 unfold Ze9;rw[Zl,JJ,Bool.or_eq_true,decide_eq_true_eq,Y8 h1,Bool.and_eq_true,decide_eq_true_eq,Y8 h2]
theorem Zt{y:XN}{v:Nat}:defI y=(v:Int)↔(v:Int)∈writesI y:=by
 unfold defI writesI;by_cases e:dB y.op=true
 ·rw[if_pos e,if_pos e];simp[eq_comm]
 ·rw[if_neg e,if_neg e];simp
theorem ZjK{v:Nat}{W:Nat->Nat}:∀(ys:List XN),(∀y∈ys,(∀v∈rdI y,0<=v)/\∀v∈writesI y,0<=v)->(Xg (ys.foldr (fun y acc=>Ze9 acc y) W) v=true↔XT (v:Int) (Xg W v) ys=1)
 | [],_=>by
  unfold XT;cases h:Xg W v<;>simp[h]
 | y::ys,hy=>by
  have ih:=ZjK (v:=v) (W:=W) ys (fun z hz=>hy z (List.mem_cons_of_mem _ hz));have h0:=hy y List.mem_cons_self;rw[List.foldr_cons,Zf7 h0.1 h0.2,ih];show _↔(if hasI (rdI y) (v:Int)then 1 else if defI y=(v:Int)then 2 else XT (v:Int) (Xg W v) ys)=1;by_cases e1:(v:Int)∈rdI y
  ·rw[if_pos (X8.2 e1)];simp[e1]
  ·rw[if_neg (fun h=>e1 (X8.1 h))]
   by_cases e2:(v:Int)∈writesI y
   ·rw[if_pos (Zt.2 e2)];simp[e1,e2]
   ·rw[if_neg (fun h=>e2 (Zt.1 h))];simp[e1,e2]
theorem ZiH{α β:Type}(l:List α)(g:Fin l.length->β):(TT l.length 0).map g=((List.finRange l.length).map g).reverse:=by
 unfold TT;rw[List.take_of_length_le sP,List.map_reverse]
theorem Zjg{α:Type}(l:List α):(List.finRange l.length).map (fun j=>l[j])=l:=by
 apply List.ext_getElem
 ·simp
 ·intro i h1 h2
  simp
theorem Zi6(x:Xh)(W:Nat->Nat):((TT x.instrs.length 0).map (UV x)).foldl T6 W=x.instrs.foldr (fun y acc=>Ze9 acc y) W:=by
 rw[ZiH,List.foldl_reverse]
 conv=>rhs;rw[<-Zjg x.instrs]
 rw[List.foldr_map,List.foldr_map];rfl
theorem Zfa{x:Xh}{W:Nat->Nat}{v:Nat}(hy:∀y∈x.instrs,(∀v∈rdI y,0<=v)/\∀v∈writesI y,0<=v)(ht:∀v∈rdT x.term,0<=v)(hp:∀p∈x.phis,0<=p.dst) :
 Xg (inW x W) v=true↔(v:Int) ∉ x.phis.map Ph.dst/\XT (v:Int) (hasI (rdT x.term) (v:Int)||Xg W v) x.instrs=1:=by
 unfold inW plL;rw[List.foldl_cons,List.foldl_append,List.foldl_cons,List.foldl_nil,Zi6];have hd:∀v∈x.phis.map Ph.dst,0<=v:=fun v hv=>by obtain⟨p,h1,rfl⟩:=List.mem_map.1 hv;exact hp p h1
 show Xg (addsN (delsN _ (Xw (x.phis.map Ph.dst))) (Xw [])) v=true↔_;rw[Zl,JJ,Bool.or_eq_true,decide_eq_true_eq,Bool.and_eq_true,decide_eq_true_eq,Y8 hd];rw[ZjK x.instrs hy];have e:Xg (T6 W (x.instrs.length+1,rdT x.term,[])) v=(hasI (rdT x.term) (v:Int)||Xg W v):=by
  show Xg (addsN (delsN W (Xw [])) (Xw (rdT x.term))) v=_;rw[Zl,JJ,Bool.eq_iff_iff,Bool.or_eq_true,Bool.or_eq_true,decide_eq_true_eq,Y8 ht,X8];simp[Xw]
 rw[e];simp[Xw]
theorem VF{x:Xh}{v:Nat}(hy:∀y∈x.instrs,∀v∈writesI y,0<=v)(hp:∀p∈x.phis,0<=p.dst):Xg (dfW x) v=true↔(v:Int)∈x.phis.map Ph.dst\/∃y∈x.instrs,(v:Int)∈writesI y:=by
 have hf:∀(l:List (Nat × List Int × List Int))(W:Nat->Nat),Xg (l.foldl TB W) v=true↔Xg W v=true\/∃q∈l,v∈Xw q.2.2:=by
  intro l
  induction l with
  | nil=>intro W;simp
  | cons q l ih =>
   intro W;rw[List.foldl_cons,ih];unfold TB;rw[Zl,Bool.or_eq_true,decide_eq_true_eq];simp only[List.mem_cons,exists_eq_or_imp];constructor
   ·rintro((h | h) | h)
    ·exact Or.inr (Or.inl h)
    ·exact Or.inl h
    ·exact Or.inr (Or.inr h)
   ·rintro(h | h | h)
    ·exact Or.inl (Or.inr h)
    ·exact Or.inl (Or.inl h)
    ·exact Or.inr h
 have hd:∀v∈x.phis.map Ph.dst,0<=v:=fun v hv=>by obtain⟨p,h1,rfl⟩:=List.mem_map.1 hv;exact hp p h1
 unfold dfW;rw[hf,KW];unfold plL;constructor
 ·rintro(h | ⟨q,hq,hv⟩)
  ·cases h
  ·rcases List.mem_cons.1 hq with rfl | hq
   ·simp[Xw]at hv
   ·rcases List.mem_append.1 hq with hq | hq
    ·obtain⟨j,_,rfl⟩:=List.mem_map.1 hq
     exact Or.inr ⟨x.instrs[j],List.getElem_mem _,(Y8 (hy _ (List.getElem_mem _))).1 hv⟩
    ·rw[List.mem_singleton.1 hq]at hv
     exact Or.inl ((Y8 hd).1 hv)
 ·rintro(h | ⟨y,hy',hv⟩)
  ·exact Or.inr ⟨_,VK x,(Y8 hd).2 h⟩
  ·obtain⟨j,hj,rfl⟩:=List.getElem_of_mem hy'
   exact Or.inr ⟨_,Zb7 x ⟨j,hj⟩,(Y8 (hy _ (List.getElem_mem _))).2 hv⟩
theorem TW{v:Nat}{fin:Bool}:∀(ys:List XN),XT (v:Int) fin ys=0->∀y∈ys,(v:Int) ∉ writesI y
 | [],_,_,h=>by cases h
 | z::zs,h,y,hy=>by
  have h':(if hasI (rdI z) (v:Int)then 1 else if defI z=(v:Int)then 2 else XT (v:Int) fin zs)=0:=h;by_cases e1:hasI (rdI z) (v:Int)=true
  ·rw[if_pos e1]at h';cases h'
  ·rw[if_neg e1]at h'
   by_cases e2:defI z=(v:Int)
   ·rw[if_pos e2]at h';cases h'
   ·rw[if_neg e2]at h'
    rcases List.mem_cons.1 hy with rfl | hy
    ·exact fun h3=>e2 (Zt.2 h3)
    ·exact TW zs h' y hy
theorem UK{v:Nat}{fin:Bool}:∀(ys:List XN),(∀y∈ys,(v:Int) ∉ writesI y)->XT (v:Int) fin ys≠2
 | [],_=>by unfold XT;split<;>simp
 | z::zs,h=>by
  show(if hasI (rdI z) (v:Int)then 1 else if defI z=(v:Int)then 2 else XT (v:Int) fin zs)≠2;by_cases e1:hasI (rdI z) (v:Int)=true
  ·rw[if_pos e1];simp
  ·rw[if_neg e1,if_neg (fun e2=>h z List.mem_cons_self (Zt.1 e2))]
   exact UK zs (fun y hy=>h y (List.mem_cons_of_mem _ hy))
theorem U9{v:Int}{fin:Bool}:∀(ys:List XN),XT v fin ys<=2
 | []=>by unfold XT;split<;>simp
 | z::zs=>by
  show(if hasI (rdI z) v then 1 else if defI z=v then 2 else XT v fin zs)<=2;split
  ·decide
  ·split
   ·decide
   ·exact U9 zs
theorem Tm{v:Int}{fin:Bool}:∀(ys:List XN),XT v fin ys=1->fin=true\/∃y∈ys,v∈rdI y
 | [],h=>by
  have h':(if fin then 1 else 0)=1:=h;cases fin<;>simp_all
 | z::zs,h=>by
  have h':(if hasI (rdI z) v then 1 else if defI z=v then 2 else XT v fin zs)=1:=h;by_cases e1:hasI (rdI z) v=true
  ·exact Or.inr ⟨z,List.mem_cons_self,X8.1 e1⟩
  ·rw[if_neg e1]at h'
   by_cases e2:defI z=v
   ·rw[if_pos e2]at h';cases h'
   ·rw[if_neg e2]at h'
    rcases Tm zs h' with h3 | ⟨y,hy,h3⟩
    ·exact Or.inl h3
    ·exact Or.inr ⟨y,List.mem_cons_of_mem _ hy,h3⟩
def edgeU(xs:List Xh)(p t:Int):List Int:=match xs[t.toNat]? with
 | none=>[]
 | some x=>if x.phis=[]then []else (List.range (predsFrom xs 0 t).length).flatMap fun i=>if (predsFrom xs 0 t).getD i 0=p then x.phis.map (fun h=>h.args.getD i 0)else []
def XG(xs:List Xh)(b:Nat):List Int:=match xs[b]? with
 | none=>[]
 | some x=>x.term.targets.flatMap (edgeU xs (b:Int))
theorem JH{V:Nat}{xs:List Xh}(ho:Jd V xs){b:Nat}(hb:b<xs.length){v:Nat}:(v:Int)∈XG xs b↔(b,v)∈VP xs xs.length:=by
 have hT0:∀x∈xs,∀t∈x.term.targets,0<=t:=fun x hx t ht=>(ho.okf.tgt x hx t ht).1
 have hE:(v:Int)∈XG xs b↔∃t:Nat,∃ht:t<xs.length,∃i,i<(Ya xs xs.length t).length/\(Ya xs xs.length t).getD i 0=b/\∃p∈xs[t].phis,p.args.getD i 0=(v:Int):=by
  unfold XG;rw[List.getElem?_eq_getElem hb];simp only[List.mem_flatMap];constructor
  ·rintro⟨t,ht,hv⟩
   have h0:=ho.okf.tgt _ (List.getElem_mem hb) t ht;obtain⟨k,rfl⟩:=Int.eq_ofNat_of_zero_le h0.1;have hk:k<xs.length:=by have:=h0.2;omega
   refine⟨k,hk,?_⟩;unfold edgeU at hv;rw[Int.toNat_natCast,List.getElem?_eq_getElem hk]at hv;simp only at hv;by_cases e:xs[k].phis=[]
   ·rw[if_pos e]at hv;cases hv
   ·rw[if_neg e]at hv
    obtain⟨i,hi,h2⟩:=List.mem_flatMap.1 hv;rw[Ti hT0]at hi h2;have hi':i<(Ya xs xs.length k).length:=by simpa [Xs]using hi
    by_cases e2:(Xs (Ya xs xs.length k)).getD i 0=(b:Int)
    ·rw[if_pos e2]at h2
     obtain⟨p,h3,h4⟩:=List.mem_map.1 h2;refine⟨i,hi',?_,p,h3,h4⟩;simp only[Xs,List.getD_eq_getElem?_getD,List.getElem?_map,List.getElem?_eq_getElem hi',Option.map_some,Option.getD_some]at e2 |-;have:((Ya xs xs.length k)[i]:Int)=(b:Int):=e2;omega
    ·rw[if_neg e2]at h2;cases h2
  ·rintro⟨t,ht,i,hi,h1,p,h2,h3⟩
   have hm:b∈Ya xs xs.length t:=by
    rw[<-h1,List.getD_eq_getElem?_getD,List.getElem?_eq_getElem hi];exact List.getElem_mem hi
   have htg:(t:Int)∈xs[b].term.targets:=by
    have:=(Za2.1 hm).2;rw[Kq hb]at this;obtain⟨z,hz,e⟩:=List.mem_map.1 this;have:=hT0 _ (List.getElem_mem hb) z hz;rw[show(t:Int)=z by omega];exact hz
   refine⟨(t:Int),htg,?_⟩;unfold edgeU;rw[Int.toNat_natCast,List.getElem?_eq_getElem ht];simp only;rw[if_neg (fun e=>by rw[e]at h2;cases h2),Ti hT0];refine List.mem_flatMap.2 ⟨i,by simpa [Xs]using hi,?_⟩;rw[if_pos (by
    simp only[Xs,List.getD_eq_getElem?_getD,List.getElem?_map,List.getElem?_eq_getElem hi,Option.map_some,Option.getD_some]at h1 |-;show((Ya xs xs.length t)[i]:Int)=(b:Int);rw[h1])]
   exact List.mem_map.2 ⟨p,h2,h3⟩
 rw[hE];unfold VP phB phT;rw[List.mem_flatMap];constructor
 ·rintro⟨t,ht,i,hi,h1,p,h2,h3⟩
  refine⟨t,List.mem_range.2 ht,?_⟩;rw[List.getElem?_eq_getElem ht];refine List.mem_flatMap.2 ⟨p,h2,?_⟩;have hl:=(ho.pha t ht p h2).1;rw[Ti hT0]at hl;have hl':p.args.length=(Ya xs xs.length t).length:=by simpa [Xs]using hl
  have hi2:i<p.args.length:=oM;rw[List.getD_eq_getElem?_getD,List.getElem?_eq_getElem hi2]at h3;rw[List.getD_eq_getElem?_getD,List.getElem?_eq_getElem hi]at h1;have hz:i<((Ya xs xs.length t).zip (Xw p.args)).length:=by simp[Xw];omega
  have e:((Ya xs xs.length t).zip (Xw p.args))[i]=(b,v):=by
   rw[List.getElem_zip];simp only[Xw,List.getElem_map];have h1':(Ya xs xs.length t)[i]=b:=h1;have h3':p.args[i]=(v:Int):=h3;rw[h1',h3'];rfl
  rw[<-e];exact List.getElem_mem hz
 ·rintro⟨t,ht,hv⟩
  have ht:=List.mem_range.1 ht;rw[List.getElem?_eq_getElem ht]at hv;obtain⟨p,h2,h3⟩:=List.mem_flatMap.1 (show _∈List.flatMap _ xs[t].phis from hv);obtain⟨i,hi,e⟩:=List.getElem_of_mem h3;rw[List.getElem_zip]at e;have hi1:i<(Ya xs xs.length t).length:=by simp at hi;omega
  have hi2:i<p.args.length:=by simp[Xw]at hi;omega
  refine⟨t,ht,i,hi1,?_,p,h2,?_⟩
  ·rw[List.getD_eq_getElem?_getD,List.getElem?_eq_getElem hi1]
   exact congrArg Prod.fst e
  ·rw[List.getD_eq_getElem?_getD,List.getElem?_eq_getElem hi2]
   have h4:(Xw p.args)[i]'(by simp[Xw];omega)=v:=congrArg Prod.snd e;simp only[Xw,List.getElem_map]at h4;have:=(ho.pha t ht p h2).2 p.args[i] (List.getElem_mem hi2);show p.args[i]=(v:Int);omega
def barB(xs:List Xh)(b v:Nat):Nat:=match xs[b]? with
 | none=>0
 | some x=>bareM x (XG xs b) (v:Int)
def YB(xs:List Xh)(b v:Nat):Bool:=match xs[b]? with
 | none=>false
 | some x=>hasI (x.phis.map Ph.dst) (v:Int)
inductive Opn (xs:List Xh) (v:Nat):Nat->Prop
 | root:Opn xs v 0
 | step {b t:Nat}:Opn xs v b->YB xs b v=false->barB xs b v=0->t∈XV xs b->Opn xs v t
def Bad(xs:List Xh)(v:Nat):Prop:=∃b,Opn xs v b/\YB xs b v=false/\barB xs b v=1
theorem Opn.lt{xs:List Xh}(h:OkF xs){v b:Nat}(ho:Opn xs v b):b<xs.length:=by
 induction ho with
 | root=>exact h.n1
 | step _ _ _ ht ih=>exact h.tg _ ih _ ht
theorem ZiV{V:Nat}{xs:List Xh}(ho:Jd V xs){I T:Nat->Nat->Nat}{WO:Nat->Nat->Nat}(hI:∀i (h:i<xs.length),I i=inW xs[i] (WO i))(hT:∀i (h:i<xs.length),T i=dfW xs[i])(hO:∀b,b<xs.length->∀v,Xg (WO b) v=true↔(b,v)∈VP xs xs.length){ord:Nat->Prop}(hord:∀b,b<xs.length->ord b){src:Nat->List Nat}(hsrc:∀b,b<xs.length->src b=XV xs b){v:Nat} :
 Sp I T ord src 0 v↔Bad xs v:=by
 have hI':∀b,b<xs.length->(Xg (I b) v=true↔YB xs b v=false/\barB xs b v=1):=fun b hb=>by
  have hm:=List.getElem_mem hb;rw[hI b hb,Zfa (fun y hy=>⟨fun z hz=>(ho.rdi _ hm y hy z hz).1,fun z hz=>(ho.wri _ hm y hy z hz).1⟩) (fun z hz=>(ho.rdt _ hm z hz).1) (fun p hp=>(ho.phd _ hm p hp).1)];unfold YB barB bareM;rw[List.getElem?_eq_getElem hb];simp only;have e:Xg (WO b) v=hasI (XG xs b) (v:Int):=by rw[Bool.eq_iff_iff,hO b hb,X8,JH ho hb]
  rw[e,<-Bool.not_eq_true,X8]
 have hT':∀b,b<xs.length->YB xs b v=false->barB xs b v=0->Xg (T b) v=false:=fun b hb h1 h2=>by
  have hm:=List.getElem_mem hb;rw[hT b hb,<-Bool.not_eq_true,VF (fun y hy z hz=>(ho.wri _ hm y hy z hz).1) (fun p hp=>(ho.phd _ hm p hp).1)];unfold YB at h1;unfold barB bareM at h2;rw[List.getElem?_eq_getElem hb]at h1 h2;simp only at h1 h2;rintro(h | ⟨y,hy,h⟩)
  ·rw[X8.2 h]at h1;cases h1
  ·exact TW _ h2 y hy h
 have hTb:∀b,b<xs.length->Xg (T b) v=false->YB xs b v=false/\barB xs b v≠2:=fun b hb h=>by
  have hm:=List.getElem_mem hb;rw[hT b hb,<-Bool.not_eq_true,VF (fun y hy z hz=>(ho.wri _ hm y hy z hz).1) (fun p hp=>(ho.phd _ hm p hp).1)]at h;unfold YB barB bareM;rw[List.getElem?_eq_getElem hb];simp only;refine⟨?_,UK _ (fun y hy h2=>h (Or.inr ⟨y,hy,h2⟩))⟩;rw[<-Bool.not_eq_true,X8];exact fun h2=>h (Or.inl h2)
 constructor
 ·intro h
  have main:∀b x,Sp I T ord src b x->x=v->Opn xs v b->Bad xs v:=by
   intro b x hs
   induction hs with
   | init h1=>rintro rfl hop;exact⟨_,hop,(hI' _ (hop.lt ho.okf)).1 h1⟩
   | @take b s x h1 h2 h3 h4 ih =>
    rintro rfl hop;have hb:=hop.lt ho.okf;have h5:=hTb b hb h4;have h6:barB xs b x<=2:=by
     unfold barB;split
     ·exact Nat.zero_le _
     ·exact U9 _
    by_cases e:barB xs b x=1
    ·exact⟨b,hop,h5.1,e⟩
    ·exact ih rfl (Opn.step hop h5.1 (by have:=h5.2;omega) (by rw[<-hsrc b hb];exact h2))
  exact main 0 v h rfl Opn.root
 ·rintro⟨b,hop,h1,h2⟩
  have main:∀b,Opn xs v b->Sp I T ord src b v->Sp I T ord src 0 v:=by
   intro b hop
   induction hop with
   | root=>exact fun h=>h
   | @step b t h1 h2 h3 h4 ih =>
    intro hs;have hb:=h1.lt ho.okf;exact ih (Sp.take (hord b hb) (by rw[hsrc b hb];exact h4) hs (hT' b hb h2 h3))
  exact main b hop (Sp.init ((hI' b (hop.lt ho.okf)).2 ⟨h1,h2⟩))
theorem ZhR{V:Nat}{xs:List Xh}(ho:Jd V xs){v:Nat}(h:Bad xs v):v<V:=by
 obtain⟨b,hop,_,h2⟩:=h;have hb:=hop.lt ho.okf;have hm:=List.getElem_mem hb;unfold barB bareM at h2;rw[List.getElem?_eq_getElem hb]at h2;simp only at h2;rcases Tm _ h2 with h3 | ⟨y,hy,h3⟩
 ·rcases Bool.or_eq_true _ _ ▸ h3 with h4 | h4
  ·have:=(ho.rdt _ hm _ (X8.1 h4)).2;omega
  ·have h5:=(JH ho hb).1 (X8.1 h4)
   unfold VP phB phT at h5;obtain⟨t,ht,hv⟩:=List.mem_flatMap.1 h5;have ht:=List.mem_range.1 ht;rw[List.getElem?_eq_getElem ht]at hv;obtain⟨p,hp,h6⟩:=List.mem_flatMap.1 (show _∈List.flatMap _ xs[t].phis from hv);have h7:=List.of_mem_zip h6;obtain⟨z,hz,e⟩:=List.mem_map.1 h7.2;have:=(ho.pha t ht p hp).2 z hz;omega
 ·have:=(ho.rdi _ hm y hy _ h3).2;omega
end Go.Proofs.YtlmgmkmomaileaaGreatDoor
namespace Go.Proofs.YtlmgmkmomaileaaGreatDoor
open Go.RowKit
def lcN(cs:List Int)(v:Int):Int:=cs.getD v.toNat 0
def YC(cs:List Int)(x:XN):XN:=⟨x.op,if dB x.op=true then lcN cs x.dst else x.dst,if aB x.op=true then lcN cs x.a else x.a,if bB x.op=true then lcN cs x.b else x.b,x.imm⟩
def Ka(cs:List Int)(t:Zu):Zu:=⟨t.kind,if t.kind=1 then t.a else lcN cs t.a,t.to,t.els⟩
def KH(xs:List Xh)(t:Int):List Ph:=match xs[t.toNat]? with | some x=>x.phis | none=>[]
def KA(cs:List Int)(xs:List Xh)(p:Nat)(t:Int):List Mv:=(takesR (ZX (predsFrom xs 0 t) (p:Int)) (KH xs t)).map fun q=>⟨lcN cs q.1,lcN cs q.2⟩
def Kb(cs:List Int)(xs:List Xh)(p:Nat)(t:Int):List XN:=JA (KA cs xs p t)
def XK(cs:List Int)(xs:List Xh)(p:Nat)(t:Int)(m:Nat):Int × List Xy:=if Kb cs xs p t=[]then (t,[])else ((m:Int),[⟨Kb cs xs p t,⟨1,0,t,0⟩⟩])
def UM(cs:List Int)(xs:List Xh)(b:Nat)(x:Xh)(m:Nat):Xy × List Xy :=
 if x.term.kind=1 then (⟨x.instrs.map (YC cs)++Kb cs xs b x.term.to,Ka cs x.term⟩,[])
 else if x.term.kind=2 then (⟨x.instrs.map (YC cs),⟨x.term.kind,lcN cs x.term.a,(XK cs xs b x.term.to m).1,(XK cs xs b x.term.els (m+(XK cs xs b x.term.to m).2.length)).1⟩⟩,(XK cs xs b x.term.to m).2++(XK cs xs b x.term.els (m+(XK cs xs b x.term.to m).2.length)).2)
 else (⟨x.instrs.map (YC cs),Ka cs x.term⟩,[])
def Xm(cs:List Int)(xs:List Xh):Nat->List Xy × List Xy
 | 0=>([],[])
 | b+1=>match xs[b]? with
  | none=>Xm cs xs b
  | some x=>((Xm cs xs b).1++[(UM cs xs b x (xs.length+(Xm cs xs b).2.length)).1],(Xm cs xs b).2++(UM cs xs b x (xs.length+(Xm cs xs b).2.length)).2)
def KB(cs:List Int)(xs:List Xh):List Xy:=(Xm cs xs xs.length).1++(Xm cs xs xs.length).2
theorem JU(cs:List Int)(xs:List Xh)(b:Nat)(h:b<xs.length):Xm cs xs (b+1)=((Xm cs xs b).1++[(UM cs xs b xs[b] (xs.length+(Xm cs xs b).2.length)).1],(Xm cs xs b).2++(UM cs xs b xs[b] (xs.length+(Xm cs xs b).2.length)).2):=by
 rw[Xm,List.getElem?_eq_getElem h]
theorem Jk(cs:List Int)(xs:List Xh):∀b,b<=xs.length->(Xm cs xs b).1.length=b
 | 0,_=>rfl
 | b+1,h=>by rw[JU cs xs b oM,List.length_append,Jk cs xs b oM];rfl
theorem JX(cs:List Int)(xs:List Xh)(p:Nat)(t:Int)(m:Nat):(XK cs xs p t m).2.length<=1:=by
 unfold XK;split<;>simp
theorem Zjd(cs:List Int)(xs:List Xh)(b:Nat)(x:Xh)(m:Nat):(UM cs xs b x m).2.length<=2:=by
 unfold UM;split
 ·simp
 ·split
  ·have h1:=JX cs xs b x.term.to m
   have h2:=JX cs xs b x.term.els (m+(XK cs xs b x.term.to m).2.length);rw[List.length_append];omega
  ·simp
theorem JR(cs:List Int)(xs:List Xh):∀b,b<=xs.length->(Xm cs xs b).2.length<=2*b
 | 0,_=>by simp[Xm]
 | b+1,h=>by
  have h1:=JR cs xs b oM;have h2:=Zjd cs xs b xs[b] (xs.length+(Xm cs xs b).2.length);rw[JU cs xs b oM,List.length_append];omega
theorem Uo(xs:List Xh){t:Nat}(h:t<xs.length):KH xs (t:Int)=xs[t].phis:=by
 unfold KH;rw[Int.toNat_natCast,List.getElem?_eq_getElem h]
theorem ZcJ{α:Type}(f:Nat->List α):∀(n i:Nat),i<n->(∀j,j<n->j≠i->f j=[])->(List.range n).flatMap f=f i
 | 0,i,h,_=>absurd h (Nat.not_lt_zero _)
 | n+1,i,h,hf=>by
  rw[List.range_succ,List.flatMap_append];by_cases e:i=n
  ·subst e
   have:(List.range i).flatMap f=[]:=List.flatMap_eq_nil_iff.2 (fun j hj=>hf j (by have:=List.mem_range.1 hj;omega) (by have:=List.mem_range.1 hj;omega));rw[this];simp
  ·rw[ZcJ f n i oM (fun j h1 h2=>hf j oM h2)]
   have:f n=[]:=hf n oM (fun q=>e q.symm);simp[this]
theorem ZcG(xs:List Xh){p t:Nat}(ht:t<xs.length)(hp:(p:Int)∈predsFrom xs 0 (t:Int)):edgeU xs (p:Int) (t:Int)=(takesR (ZX (predsFrom xs 0 (t:Int)) (p:Int)) (KH xs (t:Int))).map (fun q=>q.2):=by
 have hi:=VE hp;have hat:=ZeX hi;have hnd:=ZV (t:Int) xs 0;rw[Uo xs ht];unfold edgeU;rw[Int.toNat_natCast,List.getElem?_eq_getElem ht];dsimp only;by_cases he:xs[t].phis=[]
 ·rw[if_pos he,he];rfl
 ·rw[if_neg he]
  generalize predsFrom xs 0 (t:Int)=ps at *;rw[ZcJ _ ps.length (ZX ps (p:Int)) hi (fun j hj hne=>?_)]
  ·rw[if_pos (by rw[List.getD_eq_getElem?_getD,List.getElem?_eq_getElem hi,hat];rfl)]
   simp[takesR]
  ·rw[if_neg (fun q=>hne ?_)]
   rw[List.getD_eq_getElem?_getD,List.getElem?_eq_getElem hj]at q;exact(List.getElem_inj hnd).1 (show ps[j]=ps[ZX ps (p:Int)] by rw[hat];exact q)
end Go.Proofs.YtlmgmkmomaileaaGreatDoor
namespace Go.Proofs.YtlmgmkmomaileaaGreatDoor
open Go.RowKit
def Ys{T:Type}(f:Nat->T->List Value):Nat->List T->List Value
 | _,[]=>[]
 | k,x::xs=>f k x++Ys f (k+1) xs
variable {T : Type} {f f' : Nat -> T -> List Value} {sz : Nat}
theorem ZaG(hf:∀k x,(f k x).length=sz):∀(k:Nat)(xs:List T),(Ys f k xs).length=xs.length*sz
 | _,[]=>by simp[Ys]
 | k,x::xs=>by rw[Ys,List.length_append,hf,ZaG hf,List.length_cons,Nat.add_mul,Nat.one_mul,Nat.add_comm]
theorem Td(hf:∀k x,(f k x).length=sz):∀(k:Nat)(xs:List T)(i:Nat)(h:i<xs.length)(q:Nat),q<sz->(Ys f k xs)[i*sz+q]?=(f (k+i) xs[i])[q]?
 | _,[],_,h,_,_=>absurd h sP
 | k,x::xs,0,_,q,hq=>by
  rw[Ys,Nat.zero_mul,Nat.zero_add,List.getElem?_append_left (by rw[hf];exact hq)];rfl
 | k,x::xs,i+1,h,q,hq=>by
  rw[Ys,List.getElem?_append_right (by rw[hf,Nat.add_mul,Nat.one_mul];omega),hf,show(i+1)*sz+q-sz=i*sz+q by rw[Nat.add_mul,Nat.one_mul];omega,Td hf (k+1) xs i (by simpa using h) q hq,List.getElem_cons_succ,show k+1+i=k+(i+1) by omega]
theorem ZaS:∀(k:Nat)(xs:List T)(x:T),Ys f k (xs++[x])=Ys f k xs++f (k+xs.length) x
 | k,[],x=>by simp[Ys]
 | k,y::xs,x=>by rw[List.cons_append,Ys,Ys,ZaS (k+1) xs x,List.append_assoc,List.length_cons,show k+1+xs.length=k+(xs.length+1) by omega]
structure XJ(w:World)(lab:Nat->Nat × Nat × Nat)(L:Nat × Nat × Nat)(base t sz:Nat)(v:Value)(n:Nat)(cs:List Value):Prop where
 own:w.ownsRow base t sz v n cs
 lab:∀b,v.ownBlock=some b->lab b=L
theorem Zhj{w w':World}{base t sz:Nat}{v:Value}{n:Nat}{cs:List Value}(h:w.ownsRow base t sz v n cs)(k:∀b,v.ownBlock=some b->w'.heap[b]?=w.heap[b]?):w'.ownsRow base t sz v n cs:=by
 obtain⟨hl,h | ⟨g,cap,cur,e,hg,hh,hc⟩⟩:=h
 ·exact⟨hl,Or.inl h⟩
 ·subst e
  exact⟨hl,Or.inr ⟨g,cap,cur,rfl,hg,(k g rfl).trans hh,hc⟩⟩
theorem XJ.keep{w w':World}{lab lab':Nat->Nat × Nat × Nat}{L:Nat × Nat × Nat}{base t sz:Nat}{v:Value}{n:Nat}{cs:List Value}(h:XJ w lab L base t sz v n cs)(k:∀b,base<=b->b<w.heap.size->lab b=L->w'.heap[b]?=w.heap[b]?/\lab' b=L):XJ w' lab' L base t sz v n cs :=
 ⟨Zhj h.own (fun b e=>(k b (h.own.lt b e).1 (h.own.lt b e).2 (h.lab b e)).1),fun b e=>(k b (h.own.lt b e).1 (h.own.lt b e).2 (h.lab b e)).2⟩
theorem XJ.set{w:World}{lab:Nat->Nat × Nat × Nat}{L:Nat × Nat × Nat}{base t sz g n c:Nat}{cs:List Value}(h:XJ w lab L base t sz (.slice (some ⟨g,0,none⟩) n c) n cs)(q:Nat)(u:Value):XJ (w.setCell ⟨g,q,none⟩ u) lab L base t sz (.slice (some ⟨g,0,none⟩) n c) n (cs.set q u):=⟨Zbp h.own u,h.lab⟩
theorem XJ.thaw{w:World}{lab:Nat->Nat × Nat × Nat}{L:Nat × Nat × Nat}{base t sz g n c:Nat}{cs:List Value}(h:XJ w lab L base t sz (.slice (some ⟨g,0,none⟩) n c) n cs)(q:Nat):w.frozen? ⟨g,q,none⟩=false:=h.own.frozenAt q
theorem XJ.cell{w:World}{lab:Nat->Nat × Nat × Nat}{L:Nat × Nat × Nat}{base t sz g n c:Nat}{cs:List Value}(h:XJ w lab L base t sz (.slice (some ⟨g,0,none⟩) n c) n cs){q:Nat}{u:Value}(hu:cs[q]?=some u):w.cell? ⟨g,q,none⟩=some u:=XZ h.own hu
theorem XJ.blk{w:World}{lab:Nat->Nat × Nat × Nat}{L:Nat × Nat × Nat}{base t sz g n c:Nat}{cs:List Value}(h:XJ w lab L base t sz (.slice (some ⟨g,0,none⟩) n c) n cs):(base<=g/\g<w.heap.size)/\lab g=L:=⟨h.own.lt g rfl,h.lab g rfl⟩
theorem XJ.got{w:World}{lab:Nat->Nat × Nat × Nat}{L:Nat × Nat × Nat}{base t sz n:Nat}{v:Value}{cs:List Value}(h:XJ w lab L base t sz v n cs)(hn:0<n):∃g c,v=.slice (some ⟨g,0,none⟩) n c:=by
 obtain⟨g,c,e,_⟩:=XC h.own hn;exact⟨g,c,e⟩
theorem XJ.form{w:World}{lab:Nat->Nat × Nat × Nat}{L:Nat × Nat × Nat}{base t sz n:Nat}{v:Value}{cs:List Value}(h:XJ w lab L base t sz v n cs):∃a c,v=.slice a n c:=by
 rcases h.own.2 with⟨e,h0⟩ | ⟨g,cap,_,e,_⟩
 ·exact⟨none,0,by rw[e,h0]⟩
 ·exact⟨_,_,e⟩
end Go.Proofs.YtlmgmkmomaileaaGreatDoor
namespace Go.Proofs.YtlmgmkmomaileaaGreatDoor
open Go.RowKit
def Bx(w:World)(b:Nat)(cs:Array Value)(t:Nat):Prop:=w.heap[b]?=some (.cells cs t)
theorem Bx.lt{w:World}{b t:Nat}{cs:Array Value}(h:Bx w b cs t):b<w.heap.size:=by
 by_cases e:b<w.heap.size
 ·exact e
 ·unfold Bx at h
  rw[Array.getElem?_eq_none oM]at h;cases h
theorem Bx.cell{w:World}{b t q:Nat}{cs:Array Value}{u:Value}(h:Bx w b cs t)(hq:cs[q]?=some u):w.cell? ⟨b,q,none⟩=some u:=(cell_of_row w b q cs t _ h).trans hq
theorem Bx.thaw{w:World}{b t:Nat}{cs:Array Value}(h:Bx w b cs t)(q:Nat):w.frozen? ⟨b,q,none⟩=false:=by
 unfold World.frozen?;unfold Bx at h;show(match w.heap[b]? with | some (.cells _ _ (lo,hi))=>decide (lo<=q)&&decide (q<hi) | _=>false)=false
 rw[h];simp
theorem Bx.set{w:World}{b t:Nat}{cs:Array Value}(h:Bx w b cs t)(q:Nat)(u:Value):Bx (w.setCell ⟨b,q,none⟩ u) b (cs.setIfInBounds q u) t:=heap_setCell_same w b q cs t u h
theorem Bx.keep{w w':World}{b t:Nat}{cs:Array Value}(h:Bx w b cs t)(k:w'.heap[b]?=w.heap[b]?):Bx w' b cs t:=k.trans h
theorem Bx.new(w:World)(cs:Array Value)(t:Nat):Bx (w.alloc (.cells cs t)) w.heap.size cs t:=World.alloc_heap_new _ _
theorem Bx.box{w:World}{b t:Nat}{cs:Array Value}(h:Bx w b cs t)(o:Obj):Bx (w.alloc o) b cs t:=h.keep (Below.heap_alloc _ _ _ h.lt)
theorem Bx.other{w:World}{b t g q:Nat}{cs:Array Value}{u:Value}(h:Bx w b cs t)(hg:b≠g):Bx (w.setCell ⟨g,q,none⟩ u) b cs t:=h.keep (Below.heap_setCell _ _ _ _ hg)
theorem Bx.grown{w w':World}{b t:Nat}{cs:Array Value}{r:Option Nat}(h:Bx w b cs t)(g:w.grownBy w' r)(hr:some b≠r):Bx w' b cs t:=h.keep (g.block b h.lt hr)
end Go.Proofs.YtlmgmkmomaileaaGreatDoor
namespace Go.Proofs.YtlmgmkmomaileaaGreatDoor
set_option maxHeartbeats 4000000
open Go.RowKit
def LiS(w wx:World)(op d a b i:Int):Prop:=Below w.heap.size w wx/\Bx wx w.heap.size #[.int .i64 op,.int .i64 d,.int .i64 a,.int .i64 b,.int .i64 i] 54/\Bx wx (w.heap.size+1) #[.int .i64 0,.int .i64 0,.int .i64 0,.int .i64 0,.int .i64 0] 54
theorem Ja{w:World}{L B:Nat}{ac:Option Addr}{cs:List Int}(h:Xf w L B ac cs){v:Int}(h0:0<=v)(h1:v<cs.length):∃b o k,v=((k:Nat):Int)/\k<cs.length/\ac=some ⟨b,o,none⟩/\(L<=b/\b<B)/\w.cell? ⟨b,o+k,none⟩=some (.int .i64 (lcN cs v)):=by
 obtain⟨k,rfl⟩:∃k:Nat,v=(k:Int):=⟨v.toNat,oM⟩;have hk:k<cs.length:=oM;obtain⟨b,o,e,hb,hc⟩:=h k hk;refine⟨b,o,k,rfl,hk,e,hb,?_⟩;unfold lcN;rw[Int.toNat_natCast,List.getD_eq_getElem?_getD,List.getElem?_eq_getElem hk];exact hc
theorem Ve(x:XN)(ac:Option Addr)(nc cc:Nat)(cs:List Int)(Lc Bc:Nat)(w:World)(hc:Hid (Xf w Lc Bc ac cs))(hcx:Hid (nc=cs.length))(hBc:Bc<=w.heap.size)(hd:Hid (dB x.op=true->0<=x.dst/\x.dst<nc))(ha:Hid (aB x.op=true->0<=x.a/\x.a<nc))(hb:Hid (bB x.op=true->0<=x.b/\x.b<nc)) :
 Calls Tryz.prog 18 #[.agg #[.int .i64 x.op,.int .i64 x.dst,.int .i64 x.a,.int .i64 x.b,.int .i64 x.imm],.slice ac nc cc] w fun e w'=>e=.returned (.agg #[.int .i64 (YC cs x).op,.int .i64 (YC cs x).dst,.int .i64 (YC cs x).a,.int .i64 (YC cs x).b,.int .i64 (YC cs x).imm])/\Below w.heap.size w w':=by
 obtain⟨op,dst,a,b,imm⟩:=x;dsimp only at *
 go_enter Tryz.func18,Tryz.ntmps18
 go_wp2_with fail
 have HS:Hid (LiS w ((w.alloc (.cells #[.int .i64 op,.int .i64 dst,.int .i64 a,.int .i64 b,.int .i64 imm] 54)).alloc (.cells #[.int .i64 0,.int .i64 0,.int .i64 0,.int .i64 0,.int .i64 0] 54)) op dst a b imm):=Xa ⟨Xb (Xb (Below.refl _ _) _) _,(Bx.new _ _ _).box _,by have:=Bx.new (w.alloc (.cells #[.int .i64 op,.int .i64 dst,.int .i64 a,.int .i64 b,.int .i64 imm] 54)) #[.int .i64 0,.int .i64 0,.int .i64 0,.int .i64 0,.int .i64 0] 54;rw[World.size_alloc]at this;exact this⟩;generalize (w.alloc (.cells #[.int .i64 op,.int .i64 dst,.int .i64 a,.int .i64 b,.int .i64 imm] 54)).alloc (.cells #[.int .i64 0,.int .i64 0,.int .i64 0,.int .i64 0,.int .i64 0] 54)=wa at *;refine(ZH op 100 wa).mono ?_;rintro e w1 ⟨rfl,hw⟩;subst hw;rw[ZgB]
 go_upto_if 7 with fail
 go_cut [] from 5 to 32 (fun wx=>Hid (LiS w wx op (if dB op=true then lcN cs dst else dst) a b imm))
 case first =>
  cases hB0:dB op with
  | true =>
   obtain⟨bb,o,k,hv,hk,rfl,hbb,hcc⟩:=Ja (hc.keep (HS.1.mono hBc)) (hd.out hB0).1 (by have:=(hd.out hB0).2;have:=hcx.out;omega);have hkI:(k:Int)<(nc:Int):=by have:=hcx.out;omega
   have hk0:(0:Int)<=(k:Int):=oM;have y1:w1.cell? ⟨w.heap.size,1,none⟩=some (.int .i64 (k:Int)):=by rw[<-hv];exact Bx.cell HS.2.1 rfl
   have yz:=Bx.thaw HS.2.1;have HH:=Xa hB0;clear hB0;have HV:=Xa hv;clear hv;go_wp2;go_meet;rw[show(if dB op=true then lcN cs dst else dst)=lcN cs dst from if_pos HH.out];exact Xa ⟨HS.1.setCell (p:=⟨w.heap.size,1,none⟩) (Nat.le_refl _) _,HS.2.1.set 1 _,HS.2.2.other oM⟩
  | false =>
   have HH:=Xa hB0;clear hB0;go_wp2;go_meet;rw[show(if dB op=true then lcN cs dst else dst)=dst from if_neg (by rw[HH.out];simp)];exact HS
 case rest =>
  have HS:=hcut;clear hcut;generalize wc=w5 at *;have z0:w5.cell? ⟨w.heap.size,0,none⟩=some (.int .i64 op):=Bx.cell HS.2.1 rfl
  go_wp2_with fail
  refine(ZH op 97 w5).mono ?_;rintro e w1 ⟨rfl,hw⟩;subst hw;rw[Zhi]
  go_upto_if 16 with fail
  go_cut [] from 5 to 32 (fun wx=>Hid (LiS w wx op (if dB op=true then lcN cs dst else dst) (if aB op=true then lcN cs a else a) b imm))
  case first =>
   cases hB1:aB op with
   | true =>
    obtain⟨bb,o,k,hv,hk,rfl,hbb,hcc⟩:=Ja (hc.keep (HS.1.mono hBc)) (ha.out hB1).1 (by have:=(ha.out hB1).2;have:=hcx.out;omega);have hkI:(k:Int)<(nc:Int):=by have:=hcx.out;omega
    have hk0:(0:Int)<=(k:Int):=oM;have y1:w1.cell? ⟨w.heap.size,2,none⟩=some (.int .i64 (k:Int)):=by rw[<-hv];exact Bx.cell HS.2.1 rfl
    have yz:=Bx.thaw HS.2.1;have HH:=Xa hB1;clear hB1;have HV:=Xa hv;clear hv;go_wp2;go_meet;rw[show(if aB op=true then lcN cs a else a)=lcN cs a from if_pos HH.out];exact Xa ⟨HS.1.setCell (p:=⟨w.heap.size,2,none⟩) (Nat.le_refl _) _,HS.2.1.set 2 _,HS.2.2.other oM⟩
   | false =>
    have HH:=Xa hB1;clear hB1;go_wp2;go_meet;rw[show(if aB op=true then lcN cs a else a)=a from if_neg (by rw[HH.out];simp)];exact HS
  case rest =>
   have HS:=hcut;clear hcut;generalize wc=w6 at *;have z0:w6.cell? ⟨w.heap.size,0,none⟩=some (.int .i64 op):=Bx.cell HS.2.1 rfl
   go_wp2_with fail
   refine(ZH op 98 w6).mono ?_;rintro e w1 ⟨rfl,hw⟩;subst hw;rw[ZgY]
   go_upto_if 25 with fail
   go_cut [] from 5 to 32 (fun wx=>Hid (LiS w wx op (if dB op=true then lcN cs dst else dst) (if aB op=true then lcN cs a else a) (if bB op=true then lcN cs b else b) imm))
   case first =>
    cases hB2:bB op with
    | true =>
     obtain⟨bb,o,k,hv,hk,rfl,hbb,hcc⟩:=Ja (hc.keep (HS.1.mono hBc)) (hb.out hB2).1 (by have:=(hb.out hB2).2;have:=hcx.out;omega);have hkI:(k:Int)<(nc:Int):=by have:=hcx.out;omega
     have hk0:(0:Int)<=(k:Int):=oM;have y1:w1.cell? ⟨w.heap.size,3,none⟩=some (.int .i64 (k:Int)):=by rw[<-hv];exact Bx.cell HS.2.1 rfl
     have yz:=Bx.thaw HS.2.1;have HH:=Xa hB2;clear hB2;have HV:=Xa hv;clear hv;go_wp2;go_meet;rw[show(if bB op=true then lcN cs b else b)=lcN cs b from if_pos HH.out];exact Xa ⟨HS.1.setCell (p:=⟨w.heap.size,3,none⟩) (Nat.le_refl _) _,HS.2.1.set 3 _,HS.2.2.other oM⟩
    | false =>
     have HH:=Xa hB2;clear hB2;go_wp2;go_meet;rw[show(if bB op=true then lcN cs b else b)=b from if_neg (by rw[HH.out];simp)];exact HS
   case rest =>
    have HS:=hcut;clear hcut;generalize wc=w7 at *;have z0:w7.cell? ⟨w.heap.size,0,none⟩=some (.int .i64 op):=Bx.cell HS.2.1 rfl;have z1:w7.cell? ⟨w.heap.size,1,none⟩=some (.int .i64 (if dB op=true then lcN cs dst else dst)):=Bx.cell HS.2.1 rfl;have z2:w7.cell? ⟨w.heap.size,2,none⟩=some (.int .i64 (if aB op=true then lcN cs a else a)):=Bx.cell HS.2.1 rfl;have z3:w7.cell? ⟨w.heap.size,3,none⟩=some (.int .i64 (if bB op=true then lcN cs b else b)):=Bx.cell HS.2.1 rfl;have z4:w7.cell? ⟨w.heap.size,4,none⟩=some (.int .i64 imm):=Bx.cell HS.2.1 rfl;have r0:w7.cell? ⟨w.heap.size+1,0,none⟩=some (.int .i64 0):=Bx.cell HS.2.2 rfl;have r1:w7.cell? ⟨w.heap.size+1,1,none⟩=some (.int .i64 0):=Bx.cell HS.2.2 rfl;have r2:w7.cell? ⟨w.heap.size+1,2,none⟩=some (.int .i64 0):=Bx.cell HS.2.2 rfl;have r3:w7.cell? ⟨w.heap.size+1,3,none⟩=some (.int .i64 0):=Bx.cell HS.2.2 rfl;have r4:w7.cell? ⟨w.heap.size+1,4,none⟩=some (.int .i64 0):=Bx.cell HS.2.2 rfl;have rz:=Bx.thaw HS.2.2;have HE:Hid (YC cs ⟨op,dst,a,b,imm⟩=⟨op,(if dB op=true then lcN cs dst else dst),(if aB op=true then lcN cs a else a),(if bB op=true then lcN cs b else b),imm⟩):=Xa rfl;generalize (if dB op=true then lcN cs dst else dst)=d1 at *;generalize (if aB op=true then lcN cs a else a)=a1 at *;generalize (if bB op=true then lcN cs b else b)=b1 at *;go_wp2;rw[HE.out];refine bodyPost_ret (v:=.agg #[.int .i64 op,.int .i64 d1,.int .i64 a1,.int .i64 b1,.int .i64 imm]) (by simp[results,Tryz.results18,go_sem,r0,r1,r2,r3,r4]) rfl ⟨rfl,?_⟩;exact((((HS.1.setCell (p:=⟨w.heap.size+1,0,none⟩) sP _).setCell (p:=⟨w.heap.size+1,1,none⟩) sP _).setCell (p:=⟨w.heap.size+1,2,none⟩) sP _).setCell (p:=⟨w.heap.size+1,3,none⟩) sP _).setCell (p:=⟨w.heap.size+1,4,none⟩) sP _
end Go.Proofs.YtlmgmkmomaileaaGreatDoor
namespace Go.Proofs.YtlmgmkmomaileaaGreatDoor
open Go.RowKit
theorem WW{w:World}{b t e base sz n:Nat}{cs:Array Value}{v:Value}{xs:List Value}(h:Bx w b cs t)(k:w.ownsRow base e sz v n xs)(hte:t≠e):some b≠v.ownBlock:=by
 intro hv;obtain⟨hl,⟨h0,_⟩ | ⟨g,cap,cur,e1,hg,hh,hc⟩⟩:=k
 ·subst h0;cases hv
 ·subst e1
  have:b=g:=by injection hv
  subst this;unfold Bx at h;rw[hh]at h;injection h with h;injection h with _ h2;exact hte h2.symm
end Go.Proofs.YtlmgmkmomaileaaGreatDoor
namespace Go.Proofs.YtlmgmkmomaileaaGreatDoor
open Go.RowKit
structure JT(w w':World)(lab lab':Nat->Nat × Nat × Nat)(base:Nat)(ok:Nat->Prop):Prop where
 size:w.heap.size<=w'.heap.size
 same:∀b,base<=b->b<w.heap.size->ok b->w'.heap[b]?=w.heap[b]?/\lab' b=lab b
 fresh:(∀b,w.heap.size<=b->lab b=(0,0,0))->∀b,w'.heap.size<=b->lab' b=(0,0,0)
variable {w w' : World} {lab lab' : Nat -> Nat × Nat × Nat} {base : Nat} {ok : Nat -> Prop}
theorem XJ.sp{L:Nat × Nat × Nat}{t sz:Nat}{v:Value}{n:Nat}{cs:List Value}(h:XJ w lab L base t sz v n cs)(k:JT w w' lab lab' base ok)(ho:∀b,lab b=L->ok b):XJ w' lab' L base t sz v n cs :=
 h.keep (fun b h1 h2 e=>by have:=k.same b h1 h2 (ho b e);exact⟨this.1,this.2.trans e⟩)
theorem Bx.sp{b t:Nat}{cs:Array Value}(h:Bx w b cs t)(k:JT w w' lab lab' base ok)(hb:base<=b)(ho:ok b):Bx w' b cs t:=h.keep (k.same b hb h.lt ho).1
theorem JT.put(g q:Nat)(u:Value):JT w (w.setCell ⟨g,q,none⟩ u) lab lab base (fun b=>b≠g) :=
 ⟨by simp[World.setCell],fun b _ _ hb=>⟨Below.heap_setCell _ _ _ _ hb,rfl⟩,fun h b hb=>h b (by simpa [World.setCell]using hb)⟩
theorem XJ.grow{L:Nat × Nat × Nat}{t sz:Nat}{v v':Value}{n n':Nat}{cs cs':List Value}(h:XJ w lab L base t sz v n cs)(hg:w.grownBy w' v.ownBlock)(ho:w'.ownsRow base t sz v' n' cs')(hat:v'.ownBlock=v.ownBlock\/v'.ownBlock=some w.heap.size)(hf:∀b,w.heap.size<=b->lab b=(0,0,0)) :
 ∃lab',XJ w' lab' L base t sz v' n' cs'/\JT w w' lab lab' base (fun b=>lab b≠L):=by
 refine⟨fun b=>if v'.ownBlock=some b then L else lab b,⟨ho,fun b e=>if_pos e⟩,hg.size,fun b h1 h2 hb=>⟨hg.block b h2 (fun e=>hb (h.lab b e.symm)),if_neg (fun e=>?_)⟩,fun _ b hb=>(if_neg (fun e=>?_)).trans (hf b (Nat.le_trans hg.size hb))⟩
 ·rcases hat with f | f
  ·exact hb (h.lab b (f.symm.trans e))
  ·rw[e]at f
   injection f with f;omega
 ·have:=(ho.lt b e).2
  have:=hg.size;omega
end Go.Proofs.YtlmgmkmomaileaaGreatDoor
