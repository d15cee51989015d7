import Derived.Test.YtlmgmkmomaileaaGreatDoorTZ1
import Derived.Test.YtlmgmkmomaileaaGreatDoorOC0
import Derived.Test.YtlmgmkmomaileaaGreatDoorFV1
namespace Go.Proofs.YtlmgmkmomaileaaGreatDoor
open Go.RowKit Go.Shelf
attribute [local go_sem] Oper.semAt_some
theorem Zhp(W:Nat->Nat)(K:Nat):cntN W K=(JD W (64*K)).length:=by
 unfold cntN JD;rw[List.countP_eq_length_filter]
end Go.Proofs.YtlmgmkmomaileaaGreatDoor
namespace Go.Proofs.YtlmgmkmomaileaaGreatDoor
open Go.RowKit Go.Shelf
attribute [local go_sem] Oper.semAt_some
structure Uk(x:Xh)(L B Bx n₀ n₁:Nat)(V:World):Prop where
 op:XQ V
 ter:Ye V
 blk:YV V L B Bx 0 x
 lt:Bx<n₁
 le:B<=n₀
 g1:0 < n₀
 g2:1 < n₀
 nn:n₀<=n₁
theorem Uk.same{x:Xh}{L B Bx n₀ n₁:Nat}{V V':World}(h:Uk x L B Bx n₀ n₁ V)(e:∀k,k<n₁->V'.heap[k]?=V.heap[k]?)(hs:V.heap.size<=V'.heap.size):Uk x L B Bx n₀ n₁ V' :=
 ⟨h.op.of_block (e _ (Nat.lt_of_lt_of_le h.g1 h.nn)) hs,h.ter.of_block (e _ (Nat.lt_of_lt_of_le h.g2 h.nn)) hs,h.blk.keepS (fun k _ h2=>e k (Nat.lt_of_lt_of_le (Nat.lt_of_lt_of_le h2 h.le) h.nn)) (e _ h.lt),h.lt,h.le,h.g1,h.g2,h.nn⟩
theorem Uk.below{x:Xh}{L B Bx n₀ n₁:Nat}{V V':World}(h:Uk x L B Bx n₀ n₁ V)(k:Below V.heap.size V V')(hn:n₁<=V.heap.size):Uk x L B Bx n₀ n₁ V':=h.same (fun i hi=>k.block i oM) k.size
theorem Uk.kp{x:Xh}{L B Bx n₀ n₁:Nat}{Ms:Nat->Prop}{V V':World}(h:Uk x L B Bx n₀ n₁ V)(k:Zi n₀ Ms V V')(hM:∀k,L<=k->k<B->¬Ms k)(hMx:¬Ms Bx)(hM1:¬Ms 0)(hM2:¬Ms 1):Uk x L B Bx n₀ n₁ V':=by
 have hb:V'.heap[Bx]?=V.heap[Bx]?:=by
  obtain⟨pa,pc,ia,ic,e0,_⟩:=h.blk;exact k.block e0 hMx
 exact⟨h.op.of_block (k.low _ h.g1 hM1) k.size,h.ter.of_block (k.low _ h.g2 hM2) k.size,h.blk.keepS (fun i h1 h2=>k.low i (Nat.lt_of_lt_of_le h2 h.le) (hM i h1 h2)) hb,h.lt,h.le,h.g1,h.g2,h.nn⟩
end Go.Proofs.YtlmgmkmomaileaaGreatDoor
namespace Go.Proofs.YtlmgmkmomaileaaGreatDoor
inductive Vl (xs:List Xh) (v:Nat):Nat->Prop
 | here {b:Nat}:b<xs.length->barB xs b v=1->Vl xs v b
 | step {b t:Nat}:b<xs.length->barB xs b v=0->t∈XV xs b->YB xs t v=false->Vl xs v t->Vl xs v b
def Lin(xs:List Xh)(v b:Nat):Prop:=YB xs b v=false/\Vl xs v b
def Lou(xs:List Xh)(v b:Nat):Prop:=(v:Int)∈XG xs b\/∃t∈XV xs b,Lin xs v t
theorem ZeK(xs:List Xh)(b v:Nat):barB xs b v<=2:=by
 unfold barB;split
 ·exact Nat.zero_le _
 ·exact U9 _
theorem Vl.lt{xs:List Xh}{v b:Nat}(h:Vl xs v b):b<xs.length:=by
 cases h with
 | here h _=>exact h
 | step h _ _ _ _=>exact h
theorem Zgs{V:Nat}{xs:List Xh}(ho:Jd V xs){I WO:Nat->Nat->Nat}(hI:∀i (h:i<xs.length),I i=inW xs[i] (WO i))(hO:∀b,b<xs.length->∀v,Xg (WO b) v=true↔(b,v)∈VP xs xs.length){v b:Nat}(hb:b<xs.length):Xg (I b) v=true↔YB xs b v=false/\barB xs b v=1:=by
 have hm:=List.getElem_mem hb;rw[hI b hb,Zfa (fun y hy=>⟨fun z hz=>(ho.rdi _ hm y hy z hz).1,fun z hz=>(ho.wri _ hm y hy z hz).1⟩) (fun z hz=>(ho.rdt _ hm z hz).1) (fun p hp=>(ho.phd _ hm p hp).1)];unfold YB barB bareM;rw[List.getElem?_eq_getElem hb];simp only;have e:Xg (WO b) v=hasI (XG xs b) (v:Int):=by rw[Bool.eq_iff_iff,hO b hb,X8,JH ho hb]
 rw[e,<-Bool.not_eq_true,X8]
theorem ZiU{V:Nat}{xs:List Xh}(ho:Jd V xs){T:Nat->Nat->Nat}(hT:∀i (h:i<xs.length),T i=dfW xs[i]){v b:Nat}(hb:b<xs.length)(h1:YB xs b v=false)(h2:barB xs b v=0):Xg (T b) v=false:=by
 have hm:=List.getElem_mem hb;rw[hT b hb,<-Bool.not_eq_true,VF (fun y hy z hz=>(ho.wri _ hm y hy z hz).1) (fun p hp=>(ho.phd _ hm p hp).1)];unfold YB at h1;unfold barB bareM at h2;rw[List.getElem?_eq_getElem hb]at h1 h2;simp only at h1 h2;rintro(h | ⟨y,hy,h⟩)
 ·rw[X8.2 h]at h1;cases h1
 ·exact TW _ h2 y hy h
theorem Zki{V:Nat}{xs:List Xh}(ho:Jd V xs){T:Nat->Nat->Nat}(hT:∀i (h:i<xs.length),T i=dfW xs[i]){v b:Nat}(hb:b<xs.length)(h:Xg (T b) v=false):YB xs b v=false/\barB xs b v≠2:=by
 have hm:=List.getElem_mem hb;rw[hT b hb,<-Bool.not_eq_true,VF (fun y hy z hz=>(ho.wri _ hm y hy z hz).1) (fun p hp=>(ho.phd _ hm p hp).1)]at h;unfold YB barB bareM;rw[List.getElem?_eq_getElem hb];simp only;refine⟨?_,UK _ (fun y hy h2=>h (Or.inr ⟨y,hy,h2⟩))⟩;rw[<-Bool.not_eq_true,X8];exact fun h2=>h (Or.inl h2)
theorem Zkg{V:Nat}{xs:List Xh}(ho:Jd V xs){I T WO:Nat->Nat->Nat}(hI:∀i (h:i<xs.length),I i=inW xs[i] (WO i))(hT:∀i (h:i<xs.length),T i=dfW xs[i])(hO:∀b,b<xs.length->∀v,Xg (WO b) v=true↔(b,v)∈VP xs xs.length){ord:Nat->Prop}(hord:∀b,b<xs.length->ord b){v b:Nat}(hb:b<xs.length) :
 Sp I T ord (XV xs) b v↔Lin xs v b:=by
 constructor
 ·intro h
  induction h with
  | init h1 =>
   have h2:=(Zgs ho hI hO hb).1 h1;exact⟨h2.1,Vl.here hb h2.2⟩
  | @take b s x h1 h2 h3 h4 ih =>
   have h5:=Zki ho hT hb h4;have h6:=ZeK xs b x;have hs:=ho.okf.tg _ hb _ h2;by_cases e:barB xs b x=1
   ·exact⟨h5.1,Vl.here hb e⟩
   ·have hl:=ih hs
    exact⟨h5.1,Vl.step hb (by have:=h5.2;omega) h2 hl.1 hl.2⟩
 ·rintro⟨h1,h2⟩
  induction h2 with
  | here h3 h4=>exact Sp.init ((Zgs ho hI hO h3).2 ⟨h1,h4⟩)
  | @step b t h3 h4 h5 h6 h7 ih=>exact Sp.take (hord _ h3) h5 (ih (ho.okf.tg _ h3 _ h5) h6) (ZiU ho hT h3 h1 h4)
theorem Zcs{V:Nat}{xs:List Xh}(ho:Jd V xs){b v:Nat}(hb:b<xs.length)(h:(v:Int)∈XG xs b):v<V:=by
 have h5:=(JH ho hb).1 h;unfold VP phB phT at h5;obtain⟨t,ht,hv⟩:=List.mem_flatMap.1 h5;have ht:=List.mem_range.1 ht;rw[List.getElem?_eq_getElem ht]at hv;obtain⟨p,hp,h6⟩:=List.mem_flatMap.1 (show _∈List.flatMap _ xs[t].phis from hv);have h7:=List.of_mem_zip h6;obtain⟨z,hz,e⟩:=List.mem_map.1 h7.2;have:=(ho.pha t ht p hp).2 z hz;omega
theorem ZkA{V:Nat}{xs:List Xh}(ho:Jd V xs){b v:Nat}(hb:b<xs.length)(h2:barB xs b v=1):v<V:=by
 have hm:=List.getElem_mem hb;unfold barB bareM at h2;rw[List.getElem?_eq_getElem hb]at h2;simp only at h2;rcases Tm _ h2 with h3 | ⟨y,hy,h3⟩
 ·rcases Bool.or_eq_true _ _ ▸ h3 with h4 | h4
  ·have:=(ho.rdt _ hm _ (X8.1 h4)).2;omega
  ·exact Zcs ho hb (X8.1 h4)
 ·have:=(ho.rdi _ hm y hy _ h3).2;omega
theorem Vl.val{V:Nat}{xs:List Xh}(ho:Jd V xs){v b:Nat}(h:Vl xs v b):v<V:=by
 induction h with
 | here h1 h2=>exact ZkA ho h1 h2
 | step _ _ _ _ _ ih=>exact ih
theorem Lou.val{V:Nat}{xs:List Xh}(ho:Jd V xs){v b:Nat}(hb:b<xs.length)(h:Lou xs v b):v<V:=by
 rcases h with h | ⟨t,_,h⟩
 ·exact Zcs ho hb h
 ·exact h.2.val ho
theorem Zf5{xs:List Xh}{v:Nat}{lv:Nat->Bool}(h1:∀b,b<xs.length->lv b=true->Vl xs v b)(h2:∀b,b<xs.length->barB xs b v=1->lv b=true)(h3:∀b,b<xs.length->barB xs b v=0->∀t∈XV xs b,lv t=true->YB xs t v=false->lv b=true){b:Nat}(hb:b<xs.length):lv b=true↔Vl xs v b:=by
 refine⟨h1 b hb,fun h=>?_⟩
 induction h with
 | here h4 h5=>exact h2 _ h4 h5
 | @step b t h4 h5 h6 h7 h8 ih=>exact h3 b h4 h5 t h6 (ih h8.lt) h7
def KD(x:Xh)(v:Nat)(q:Bool)(j:Nat):Bool:=decide (XT (v:Int) (hasI (rdT x.term) (v:Int)||q) (x.instrs.drop j)=1)
theorem ZeU(x:Xh)(v:Nat)(q:Bool){j:Nat}(hj:x.instrs.length<=j):KD x v q j=(hasI (rdT x.term) (v:Int)||q):=by
 unfold KD;rw[List.drop_eq_nil_of_le hj];unfold XT;cases (hasI (rdT x.term) (v:Int)||q)<;>simp
theorem Zcl(x:Xh)(v:Nat)(q:Bool){j:Nat}(hj:j<x.instrs.length):KD x v q j=(hasI (rdI x.instrs[j]) (v:Int)||(KD x v q (j+1) && !decide (defI x.instrs[j]=(v:Int)))):=by
 unfold KD;rw[List.drop_eq_getElem_cons hj];generalize x.instrs.drop (j+1)=ys;show decide ((if hasI (rdI x.instrs[j]) (v:Int)then 1 else if defI x.instrs[j]=(v:Int)then 2 else XT (v:Int) _ ys)=1)=_;by_cases e1:hasI (rdI x.instrs[j]) (v:Int)=true
 ·rw[if_pos e1,e1];simp
 ·rw[if_neg e1]
  have e1':hasI (rdI x.instrs[j]) (v:Int)=false:=by simpa using e1
  rw[e1'];by_cases e2:defI x.instrs[j]=(v:Int)
  ·rw[if_pos e2];simp[e2]
  ·rw[if_neg e2];simp[e2]
def PsP(xs:List Xh)(x:Xh)(b i v:Nat)(q:Bool):Bool:=match i with
 | 0=>KD x v q 0||YB xs b v
 | j+1=>KD x v q (j+1)||(match x.instrs[j]? with
  | none=>false
  | some y=>decide (defI y=(v:Int)))
theorem WN{v:Int}{f f':Bool}(h:f=true->f'=true):∀(ys:List XN),XT v f ys=1->XT v f' ys=1
 | [],h1=>by
  unfold XT at h1 |-;cases hf:f with
  | true=>rw[h hf];rfl
  | false=>rw[hf]at h1;cases h1
 | y::ys,h1=>by
  show(if hasI (rdI y) v then 1 else if defI y=v then 2 else XT v f' ys)=1;have h2:(if hasI (rdI y) v then 1 else if defI y=v then 2 else XT v f ys)=1:=h1;by_cases e1:hasI (rdI y) v=true
  ·rw[if_pos e1]
  ·rw[if_neg e1]at h2 |-
   by_cases e2:defI y=v
   ·rw[if_pos e2]at h2;cases h2
   ·rw[if_neg e2]at h2 |-
    exact WN h ys h2
theorem Wp{v:Int}{f f':Bool}:∀(ys:List XN),XT v f ys=2->XT v f' ys=2
 | [],h1=>by
  unfold XT at h1;cases f<;>cases h1
 | y::ys,h1=>by
  show(if hasI (rdI y) v then 1 else if defI y=v then 2 else XT v f' ys)=2;have h2:(if hasI (rdI y) v then 1 else if defI y=v then 2 else XT v f ys)=2:=h1;by_cases e1:hasI (rdI y) v=true
  ·rw[if_pos e1]at h2;cases h2
  ·rw[if_neg e1]at h2 |-
   by_cases e2:defI y=v
   ·rw[if_pos e2]
   ·rw[if_neg e2]at h2 |-
    exact Wp ys h2
theorem ZaB{v:Int}{f f':Bool}:∀(ys:List XN),XT v f ys=0->f=false/\(XT v f' ys=1↔f'=true)
 | [],h1=>by
  unfold XT at h1 |-;cases f
  ·exact⟨rfl,by cases f'<;>simp⟩
  ·cases h1
 | y::ys,h1=>by
  have h2:(if hasI (rdI y) v then 1 else if defI y=v then 2 else XT v f ys)=0:=h1;by_cases e1:hasI (rdI y) v=true
  ·rw[if_pos e1]at h2;cases h2
  ·rw[if_neg e1]at h2
   by_cases e2:defI y=v
   ·rw[if_pos e2]at h2;cases h2
   ·rw[if_neg e2]at h2
    have ih:=ZaB (f':=f') ys h2;refine⟨ih.1,?_⟩;show(if hasI (rdI y) v then 1 else if defI y=v then 2 else XT v f' ys)=1↔_;rw[if_neg e1,if_neg e2];exact ih.2
theorem Zjz{xs:List Xh}{b v:Nat}(hb:b<xs.length){q:Bool}(hq:q=true↔Lou xs v b):KD xs[b] v q 0=true↔Vl xs v b:=by
 unfold KD;rw[List.drop_zero,decide_eq_true_eq];have hbb:barB xs b v=XT (v:Int) (hasI (rdT xs[b].term) (v:Int)||hasI (XG xs b) (v:Int)) xs[b].instrs:=by unfold barB bareM;rw[List.getElem?_eq_getElem hb]
 have hle:=ZeK xs b v;have hE:hasI (XG xs b) (v:Int)=true->q=true:=fun h=>hq.2 (Or.inl (X8.1 h))
 have hcs:barB xs b v=0\/barB xs b v=1\/barB xs b v=2:=oM;rcases hcs with h0 | h1 | h2
 ·have h0':=h0
  rw[hbb]at h0';have hf:=ZaB (f':=hasI (rdT xs[b].term) (v:Int)||q) xs[b].instrs h0';rw[hf.2];have hr:hasI (rdT xs[b].term) (v:Int)=false/\hasI (XG xs b) (v:Int)=false:=by simpa using hf.1
  rw[hr.1,Bool.false_or,hq];constructor
  ·rintro(h | ⟨t,ht,h⟩)
   ·rw[X8.2 h]at hr;cases hr.2
   ·exact Vl.step hb h0 ht h.1 h.2
  ·intro h
   cases h with
   | here _ h3=>rw[h0]at h3;cases h3
   | @step _ t _ _ h3 h4 h5=>exact Or.inr ⟨t,h3,h4,h5⟩
 ·have h1':=h1
  rw[hbb]at h1';refine⟨fun _=>Vl.here hb h1,fun _=>WN (fun h=>?_) _ h1'⟩;rcases Bool.or_eq_true _ _ ▸ h with h3 | h3
  ·rw[h3];rfl
  ·rw[hE h3];simp
 ·have h2':=h2
  rw[hbb]at h2';rw[Wp (f':=hasI (rdT xs[b].term) (v:Int)||q) _ h2'];constructor
  ·intro h;cases h
  ·intro h
   cases h with
   | here _ h3=>rw[h2]at h3;cases h3
   | step _ h3 _ _ _=>rw[h2]at h3;cases h3
end Go.Proofs.YtlmgmkmomaileaaGreatDoor
namespace Go.Proofs.YtlmgmkmomaileaaGreatDoor
open Go.RowKit Go.Shelf
def sdA(W:Nat->Nat)(q:Nat × List Int × List Int):Nat->Nat:=addsN W (Xw q.2.2)
def Vd(W:Nat->Nat)(q:Nat × List Int × List Int):Nat->Nat:=addsN (delsN (sdA W q) (Xw q.2.2)) (Xw q.2.1)
def sdE(m:Nat)(W:Nat->Nat)(q:Nat × List Int × List Int):List (Nat × (Nat->Nat)):=if q.1<=m then [(q.1,sdA W q)]else []
def Uh(m:Nat):(Nat->Nat)->List (Nat × List Int × List Int)->List (Nat × (Nat->Nat))
 | _,[]=>[]
 | W,q::l=>sdE m W q++Uh m (Vd W q) l
theorem JQ(m:Nat)(q:Nat × List Int × List Int):∀(l:List (Nat × List Int × List Int))(W:Nat->Nat),Uh m W (l++[q])=Uh m W l++sdE m (l.foldl Vd W) q
 | [],W=>by simp[Uh]
 | p::l,W=>by
  show sdE m W p++Uh m (Vd W p) (l++[q])=(sdE m W p++Uh m (Vd W p) l)++sdE m (l.foldl Vd (Vd W p)) q;rw[JQ m q l,List.append_assoc]
theorem Zk7{W:Nat->Nat}(h:XA W)(q:Nat × List Int × List Int):XA (sdA W q)/\XA (Vd W q):=by
 have h1:XA (sdA W q):=Zs _ h;exact⟨h1,Zs _ (J2 _ h1)⟩
theorem Zic(l:List (Nat × List Int × List Int)){W:Nat->Nat}(h:XA W):XA (l.foldl Vd W):=by
 induction l generalizing W with
 | nil=>exact h
 | cons q l ih=>exact ih (Zk7 h q).2
theorem Zbq(m:Nat):∀(l:List (Nat × List Int × List Int))(W:Nat->Nat),(Uh m W l).length<=l.length
 | [],_=>Nat.le_refl _
 | q::l,W=>by
  have:=Zbq m l (Vd W q);have h:(sdE m W q).length<=1:=by unfold sdE;split<;>simp
  show(sdE m W q++Uh m (Vd W q) l).length<=l.length+1;rw[List.length_append];omega
structure Sd where
 i:Nat
 C:Nat
 W:Nat->Nat
def Sd.dat(p:Sd):Nat × (Nat->Nat):=(p.i,p.W)
def Zj9(Kw z:Nat)(p:Sd):Array Value:=#[.int .i64 (p.i:Int),.agg #[.slice (some ⟨z,0,none⟩) Kw p.C]]
def Zla(Kw z:Nat)(p:Sd)(V:World):Prop:=WsAt V z Kw p.C p.W/\XA p.W
structure SdI(W:World)(n₁ l Bl Bx gl Kw C1 m:Nat)(ia:Option Addr)(ic:Nat)(W0:Nat->Nat)(J:Nat->List Sd->World->Prop)(pre:List Pl)(V:World):Prop where
 js:∃ss:List Sd,ss.map Sd.dat=Uh m W0 (pre.map Pl.dat)/\J gl ss V
 y:V.cell? ⟨W.heap.size,0,none⟩=some (.func (.yield l) #[] #[])
 lv:V.cell? ⟨Bl,0,none⟩=some (.slice (some ⟨gl,0,none⟩) Kw C1)
 ws:WsAt V gl Kw C1 ((pre.map Pl.dat).foldl Vd W0)
 bx:V.cell? ⟨Bx,1,none⟩=some (.slice ia m ic)
 sz:n₁<=V.heap.size
theorem SdI.own{W:World}{n₁ l Bl Bx gl Kw C1 m:Nat}{ia:Option Addr}{ic:Nat}{W0:Nat->Nat}{J:Nat->List Sd->World->Prop}(hJ:∀z,OwnFrom W.heap.size (J z))(hW:W.heap.size<n₁)(hl:Bl<n₁)(hx:Bx<n₁)(hg:gl<n₁):OwnFrom n₁ (SdI W n₁ l Bl Bx gl Kw C1 m ia ic W0 J):=fun pre A V row h k q=>by
 have hz:=h.sz;have hbl:∀b,b<n₁->V.heap[b]?=A.heap[b]?:=fun b hb=>k.block b oM (fun e=>by have:=(q b e.symm).1;omega)
 obtain⟨ss,h1,h2⟩:=h.js;exact⟨⟨ss,h1,hJ gl ss A V row h2 k (fun r e=>⟨by have:=(q r e).1;omega,(q r e).2⟩)⟩,(Xc (hbl _ hW)).trans h.y,(Xc (hbl _ hl)).trans h.lv,h.ws.of_block (hbl _ hg),(Xc (hbl _ hx)).trans h.bx,Nat.le_trans hz k.size⟩
end Go.Proofs.YtlmgmkmomaileaaGreatDoor
namespace Go.Proofs.YtlmgmkmomaileaaGreatDoor
open Go.RowKit
variable {F : Fence} {n : Nat} {P : Program} {α : Type}
theorem YO.keepsF{W V:World}{D:Nat}{r:Loop}(h:YO W D r)(k:KeepsFrom D W V):YO V D r:=⟨k.same _ _ oM h.1 rfl,k.same _ _ (Nat.le_refl _) h.2 rfl⟩
theorem Jl{A V:World}{B B':Nat}(h:KeepsFrom B A V)(hB:B<=B'):KeepsFrom B' A V:=⟨h.size,fun k o h1 h2 h3=>h.same k o oM h2 h3⟩
end Go.Proofs.YtlmgmkmomaileaaGreatDoor
namespace Go.Proofs.YtlmgmkmomaileaaGreatDoor
open Go.RowKit
def stF(x:Xh)(W0:Nat->Nat):Nat->Nat:=Vd W0 (x.instrs.length+1,rdT x.term,[])
def stB(x:Xh)(W0:Nat->Nat)(k:Nat):Nat->Nat:=((TT x.instrs.length k).map (UV x)).foldl Vd (stF x W0)
theorem Zb1(W:Nat->Nat)(q:Nat × List Int × List Int)(v:Nat):Xg (sdA W q) v=(decide (v∈Xw q.2.2)||Xg W v):=by
 unfold sdA;rw[Zl]
theorem Ze4(W:Nat->Nat)(q:Nat × List Int × List Int)(v:Nat):Xg (Vd W q) v=(decide (v∈Xw q.2.1)||(decide (v ∉ Xw q.2.2)&&Xg W v)):=by
 unfold Vd;rw[Zl,JJ,Zb1];by_cases h:v∈Xw q.2.2<;>simp[h]
theorem ZgS(x:Xh)(W0:Nat->Nat){k:Nat}(hk:k<x.instrs.length):stB x W0 k=Vd (stB x W0 (k+1)) (UV x ⟨k,hk⟩):=by
 unfold stB;rw[KP hk,List.map_append,List.foldl_append];rfl
theorem Zbu{x:Xh}{W0:Nat->Nat}{v:Nat}{q:Bool}(hq:Xg W0 v=q)(hy:∀y∈x.instrs,(∀v∈rdI y,0<=v)/\∀v∈writesI y,0<=v)(ht:∀v∈rdT x.term,0<=v):∀d k,k+d=x.instrs.length->Xg (stB x W0 k) v=KD x v q k
 | 0,k,hk=>by
  have hk:k=x.instrs.length:=oM;subst hk;rw[ZeU x v q (Nat.le_refl _)];unfold stB;rw[Tu];show Xg (Vd W0 (x.instrs.length+1,rdT x.term,[])) v=_;rw[Ze4,hq,Bool.eq_iff_iff,Bool.or_eq_true,Bool.or_eq_true,decide_eq_true_eq,Y8 ht,X8];simp[Xw]
 | d+1,k,hk=>by
  have hlt:k<x.instrs.length:=oM;have ih:=Zbu hq hy ht d (k+1) oM;have h0:=hy x.instrs[k] (List.getElem_mem hlt);rw[ZgS x W0 hlt,Ze4,ih,Zcl x v q hlt];show(decide (v∈Xw (rdI x.instrs[k]))||(decide (v ∉ Xw (writesI x.instrs[k]))&&KD x v q (k+1)))=_;have e1:decide (v∈Xw (rdI x.instrs[k]))=hasI (rdI x.instrs[k]) (v:Int):=by rw[Bool.eq_iff_iff,decide_eq_true_eq,Y8 h0.1,X8]
  have e2:decide (v ∉ Xw (writesI x.instrs[k]))=!decide (defI x.instrs[k]=(v:Int)):=by
   rw[Bool.eq_iff_iff];simp only[decide_eq_true_eq,Bool.not_eq_true',decide_eq_false_iff_not,Y8 h0.2,Zt]
  rw[e1,e2,Bool.and_comm]
theorem ZeC(x:Xh)(W0:Nat->Nat):∀d k,k+d=x.instrs.length->Uh x.instrs.length (stF x W0) ((TT x.instrs.length k).map (UV x))=(TT x.instrs.length k).map fun j:Fin x.instrs.length=>((j:Nat)+1,sdA (stB x W0 ((j:Nat)+1)) (UV x j))
 | 0,k,hk=>by
  have hk:k=x.instrs.length:=oM;subst hk;rw[Tu];rfl
 | d+1,k,hk=>by
  have hlt:k<x.instrs.length:=oM;have ih:=ZeC x W0 d (k+1) oM;rw[KP hlt,List.map_append,List.map_append,List.map_cons,List.map_nil,JQ,ih];congr 1;unfold sdE;rw[if_pos (show(UV x ⟨k,hlt⟩).1<=x.instrs.length from hlt)];rfl
theorem ZeL(x:Xh)(W0:Nat->Nat):Uh x.instrs.length W0 (plL x)=((TT x.instrs.length 0).map fun j:Fin x.instrs.length=>((j:Nat)+1,sdA (stB x W0 ((j:Nat)+1)) (UV x j)))++[(0,sdA (stB x W0 0) (0,[],x.phis.map Ph.dst))]:=by
 unfold plL;show sdE x.instrs.length W0 (x.instrs.length+1,rdT x.term,[])++Uh x.instrs.length (stF x W0) ((TT x.instrs.length 0).map (UV x)++[(0,[],x.phis.map Ph.dst)])=_;rw[JQ,ZeC x W0 x.instrs.length 0 oM];have e1:sdE x.instrs.length W0 (x.instrs.length+1,rdT x.term,[])=[]:=by
  unfold sdE;rw[if_neg sP]
 have e2:sdE x.instrs.length (((TT x.instrs.length 0).map (UV x)).foldl Vd (stF x W0)) (0,[],x.phis.map Ph.dst)=[(0,sdA (stB x W0 0) (0,[],x.phis.map Ph.dst))]:=by
  unfold sdE;rw[if_pos (Nat.zero_le _)];rfl
 rw[e1,e2];rfl
theorem Zks{V:Nat}{xs:List Xh}(ho:Jd V xs){b v:Nat}(hb:b<xs.length){W0:Nat->Nat}{q:Bool}(hq:Xg W0 v=q){i:Nat}{W:Nat->Nat}(h:(i,W)∈Uh xs[b].instrs.length W0 (plL xs[b])):i<=xs[b].instrs.length/\Xg W v=PsP xs xs[b] b i v q:=by
 have hm:=List.getElem_mem hb;have hy:∀y∈xs[b].instrs,(∀v∈rdI y,0<=v)/\∀v∈writesI y,0<=v:=fun y hy=>⟨fun z hz=>(ho.rdi _ hm y hy z hz).1,fun z hz=>(ho.wri _ hm y hy z hz).1⟩
 have ht:∀v∈rdT xs[b].term,0<=v:=fun z hz=>(ho.rdt _ hm z hz).1
 rw[ZeL]at h;rcases List.mem_append.1 h with h | h
 ·obtain⟨j,_,e⟩:=List.mem_map.1 h
  have e1:(j:Nat)+1=i:=congrArg Prod.fst e;have e2:sdA (stB xs[b] W0 ((j:Nat)+1)) (UV xs[b] j)=W:=congrArg Prod.snd e;subst e1 e2;have hj:=j.isLt;refine⟨hj,?_⟩;rw[Zb1,Zbu hq hy ht (xs[b].instrs.length-(j+1)) (j+1) oM];show _=(KD xs[b] v q ((j:Nat)+1)||(match xs[b].instrs[(j:Nat)]? with
   | none=>false
   | some y=>decide (defI y=(v:Int))))
  rw[List.getElem?_eq_getElem hj,Bool.or_comm];congr 1;rw[Bool.eq_iff_iff,decide_eq_true_eq,decide_eq_true_eq,Zt];exact Y8 (hy _ (List.getElem_mem hj)).2
 ·have e:=List.mem_singleton.1 h
  have e1:i=0:=congrArg Prod.fst e;have e2:W=sdA (stB xs[b] W0 0) (0,[],xs[b].phis.map Ph.dst):=congrArg Prod.snd e;subst e1 e2;refine⟨Nat.zero_le _,?_⟩;rw[Zb1,Zbu hq hy ht xs[b].instrs.length 0 oM];show _=(KD xs[b] v q 0||YB xs b v);rw[Bool.or_comm];congr 1;unfold YB;rw[List.getElem?_eq_getElem hb,Bool.eq_iff_iff,decide_eq_true_eq];show v∈Xw (xs[b].phis.map Ph.dst)↔hasI (xs[b].phis.map Ph.dst) (v:Int)=true;rw[X8];exact Y8 (fun z hz=>by obtain⟨p,hp,rfl⟩:=List.mem_map.1 hz;exact(ho.phd _ hm p hp).1)
theorem ZhL{V:Nat}{xs:List Xh}(ho:Jd V xs){b v:Nat}(hb:b<xs.length){q:Bool}(hq:q=true->v<V){j:Nat}(h:KD xs[b] v q j=true):v<V:=by
 have hm:=List.getElem_mem hb;unfold KD at h;rcases Tm _ (of_decide_eq_true h)with h3 | ⟨y,hy,h3⟩
 ·rcases Bool.or_eq_true _ _ ▸ h3 with h4 | h4
  ·have:=(ho.rdt _ hm _ (X8.1 h4)).2;omega
  ·exact hq h4
 ·have:=(ho.rdi _ hm y (List.mem_of_mem_drop hy) _ h3).2;omega
theorem ZkL{V:Nat}{xs:List Xh}(ho:Jd V xs){b v:Nat}(hb:b<xs.length){q:Bool}(hq:q=true->v<V){i:Nat}(h:PsP xs xs[b] b i v q=true):v<V:=by
 have hm:=List.getElem_mem hb;cases i with
 | zero =>
  rcases Bool.or_eq_true _ _ ▸ (show(KD xs[b] v q 0||YB xs b v)=true from h)with h1 | h1
  ·exact ZhL ho hb hq h1
  ·unfold YB at h1
   rw[List.getElem?_eq_getElem hb]at h1;obtain⟨p,hp,e⟩:=List.mem_map.1 (X8.1 h1);have:=(ho.phd _ hm p hp).2;omega
 | succ j =>
  have h':(KD xs[b] v q (j+1)||(match xs[b].instrs[j]? with
   | none=>false
   | some y=>decide (defI y=(v:Int))))=true:=h
  rcases Bool.or_eq_true _ _ ▸ h' with h1 | h1
  ·exact ZhL ho hb hq h1
  ·cases hj:xs[b].instrs[j]? with
   | none=>rw[hj]at h1;cases h1
   | some y =>
    rw[hj]at h1;have h2:=Zt.1 (of_decide_eq_true h1);have:=(ho.wri _ hm y (List.mem_of_getElem? hj) _ h2).2;omega
open Classical in
noncomputable def ptP(xs:List Xh)(x:Xh)(V b i:Nat):List Nat:=(List.range V).filter fun v=>PsP xs x b i v (decide (Lou xs v b))
open Classical in
theorem ZkQ{V:Nat}{xs:List Xh}(ho:Jd V xs){b:Nat}(hb:b<xs.length){W0:Nat->Nat}{p:Nat}(hV:V<=p)(hq:∀v,v<p->(Xg W0 v=true↔Lou xs v b)){i:Nat}{W:Nat->Nat}(h:(i,W)∈Uh xs[b].instrs.length W0 (plL xs[b])):JD W p=ptP xs xs[b] V b i:=by
 have hs:∀v,v<p->Xg W v=PsP xs xs[b] b i v (decide (Lou xs v b)):=fun v hv=>(Zks ho hb (by rw[Bool.eq_iff_iff,hq v hv,decide_eq_true_eq]) h).2
 rw[ZaY hV (fun v h1 h2=>by
  rw[<-Bool.not_eq_true,hs v h2];intro h3;have:=ZkL ho hb (fun h4=>(of_decide_eq_true h4:Lou xs v b).val ho hb) h3;omega)]
 unfold JD ptP;apply List.filter_congr;intro v hv;have:=List.mem_range.1 hv;exact hs v oM
end Go.Proofs.YtlmgmkmomaileaaGreatDoor
namespace Go.Proofs.YtlmgmkmomaileaaGreatDoor
set_option maxHeartbeats 1000000
open Go.RowKit Go.Shelf
attribute [local go_sem] Oper.semAt_some
theorem Zjb(n:Nat)(v0 v1 v2 v3 v4 v5:Value)(g Kw C:Nat)(w:World) :
 CallsIn Fence.wide n Tryz.prog 72 #[.agg #[v0,v1,v2,v3,v4,v5],.agg #[.slice (some ⟨g,0,none⟩) Kw C]] w fun e w'=>e=.returned (.func (.func 115) #[] #[.pointer (some ⟨w.heap.size+1,0,none⟩),.pointer (some ⟨w.heap.size,0,none⟩)])/\w'=(w.alloc (.cells #[v0,v1,v2,v3,v4,v5] 50)).alloc (.cells #[.slice (some ⟨g,0,none⟩) Kw C] 93):=by
 refine callsIn_of_wp Tryz.func72 rfl trivial ?_ rfl;simp only[Tryz.ntmps72,List.size_toArray,List.length_cons,List.length_nil,Nat.reduceAdd,Nat.reduceSub,Array.replicate_succ,Array.replicate_zero,List.push_toArray,List.append_toArray,List.nil_append,List.cons_append]
 gi_wp2
 go_ret
 exact⟨rfl,rfl⟩
end Go.Proofs.YtlmgmkmomaileaaGreatDoor
namespace Go.Proofs.YtlmgmkmomaileaaGreatDoor
open Go.RowKit
variable {F : Fence} {n : Nat} {P : Program} {α : Type}
def ZiL(F:Fence)(n:Nat)(P:Program)(g:Nat)(lb:Array Value)(encs:Nat->α->Array Value)(Px:Nat->α->World->Prop)(Kp:World->World->Prop)(S Sp:List α->Prop)(N:Nat)(turn vary:Prop)(w:World):Prop :=
 ∀(l:Nat)(J:Nat->List α->World->Prop)(Jx:List α->World->Prop)(W:World),Below w.heap.size w W->l<W.heap.size->(∀z,OwnFrom W.heap.size (J z))->OwnFrom W.heap.size Jx->(turn->∀z s V V',W.heap.size<=z->J z s V->V.grownBy V' (some z)->J z s V') ->
  (vary->(∀z z' s V V',W.heap.size<=z'->J z s V->Below W.heap.size V V'->J z' s V')/\∀s V V',Jx s V->Below W.heap.size V V'->Jx s V') ->
  (∀z pre x V,W.heap.size<=z->J z pre V->Px z x V->pre.length<N->YieldAt F (n-1) P l (encs z x) V fun e V'=>(e=.returned (.bool true)/\J z (pre++[x]) V'/\Kp V V'/\KeepsFrom W.heap.size V V')\/(e=.returned (.bool false)/\Jx (pre++[x]) V'/\Kp V V'/\KeepsFrom W.heap.size V V')) ->
  (∀z V,W.heap.size<=z->z<V.heap.size->Below W.heap.size W V->J z [] V)->CallsIn F n P g (#[.func (.yield l) #[] #[]]++lb) W fun e V=>(∃v,e=.returned v)/\((∃z xs,W.heap.size<=z/\S xs/\J z xs V)\/∃pre,Sp pre/\Jx pre V)
def Zh8{α:Type}(B:Nat)(Kp:World->World->Prop)(I:List α->World->Prop)(Ix:Code->List α->World->Prop)(xs:List α)(W:World):Exit->Act->World->Prop
 | .normal,_,W'=>KeepsFrom B W W'/\Kp W W'/\I xs W'
 | .ret,_,W'=>KeepsFrom B W W'/\Kp W W'/\Ix .ret xs W'
 | .exit id,_,W'=>KeepsFrom B W W'/\Kp W W'/\Ix (.exit id) xs W'
 | .goto t,_,W'=>KeepsFrom B W W'/\Kp W W'/\Ix (.goto t) xs W'
 | .panic _,_,_=>False
 | .outgrown,_,_=>False
theorem Zeu{g:Operand}{ps:Array Tmp}{asg bo:Code}{Q:Exit->Act->World->Prop}{a:Act}{w:World}(hro:F.round=none)(h1:1<=n){gf:Nat}{lb:Array Value}(hg:a.eval g=.func (.func gf) #[] lb)(hFg:F.fn gf)(eg:∀args w,(callFunc gf args).run P w=.ok (.enter gf args) w)
 {encs:Nat->α->Array Value} {Px:Nat->α->World->Prop} {Kp:World->World->Prop} {S Sp:List α->Prop} {N:Nat} {turn vary:Prop} {w0:World} (hseq:ZiL F (n-1) P gf lb encs Px Kp S Sp N turn vary w0) (hPx:∀z,OwnFrom w.heap.size (Px z)) (hKt:∀{A B C:World},Kp A B->Kp B C->Kp A C) (hKb:∀(W:World)(l:Nat)(o o':Obj),w.heap.size<=l->W.heap[l]?=some o->o.isCells=false->Kp W (W.putObj l o')) (hb0:Below w0.heap.size w0 w) (hps:∀z x,(encs z x).size=ps.size)
 (I:Nat->List α->World->Prop) (Ix:Code->List α->World->Prop) (hI:∀z,OwnFrom w.heap.size (I z)) (hIx:∀c,OwnFrom w.heap.size (Ix c)) (hIz:turn->∀z s V V',w.heap.size<=z->I z s V->V.grownBy V' (some z)->I z s V') (hvar:vary->(∀z z' s V V',w.heap.size<=z'->I z s V->Below (w.heap.size+2) V V'->I z' s V')/\∀c s V V',Ix c s V->Below (w.heap.size+2) V V'->Ix c s V') (h0:∀z V,w.heap.size<=z->z<V.heap.size->Below w.heap.size w V->I z [] V) (Ax:Nat->α->Act->World->Prop) (hAx:∀z x a',OwnFrom w.heap.size (fun (_:Unit) W=>Ax z x a' W))
 (hassign:∀(l z:Nat)(pre:List α)(x:α)(W:World)(K:Act->World->Prop),w.heap.size<=z->I z pre W->Px z x W->(∀a' W',KeepsOthers W W'->Kp W W'->I z pre W'->Px z x W'->Ax z x a' W'->K a' W')->asg.wpIn (F.inRound l) (n-1-1) P (Exit.then K (fun _ _ _=>False)) { tmps:=(ps.zip (encs z x)).foldl (fun t (p,v)=>t.setIfInBounds p v) a.tmps,defers:=[] } W)
 (hbody:∀(l z:Nat)(pre:List α)(x:α)(a':Act)(W:World),w.heap.size<=z->w.heap.size<=l->(∃r,W.heap[l]?=some (.loop r))->I z pre W->Px z x W->Ax z x a' W->pre.length<N->bo.wpIn (F.inRound l) (n-1-1) P (Zh8 w.heap.size Kp (I z) Ix (pre++[x]) W) a' W)
 (hdone:∀(D z:Nat)(xs:List α)(W:World),w.heap.size<=D->w.heap.size<=z->S xs->I z xs W->W.heap[D]?=some (.deferred (some []))->Q .normal { a with defers:={ target:=.collected D,args:=#[] } :: a.defers } W)
 (hstop:∀(D:Nat)(c:Code)(pre:List α)(W:World),w.heap.size<=D->Sp pre->Ix c pre W->W.heap[D]?=some (.deferred (some []))->c.wpIn F n P Q { a with defers:={ target:=.collected D,args:=#[] } :: a.defers } W) :
 (Code.rangeFunc g ps asg bo).wpIn F n P Q a w:=by
 refine wpIn_rangeFunc (fun fn hfn=>?_);rw[hro];have hrun:=run_enterLoop_outer (P:=P) (w:=w) fn a.tmps ps asg bo;generalize hW:(w.alloc (.deferred (some []))).alloc (.loop { state:=.ready,pending:=none,fn,tmps:=a.tmps,params:=ps,assign:=asg,body:=bo,defers:=w.heap.size })=W1 at hrun;have hR1:YO W1 w.heap.size (Kd fn a.tmps ps asg bo w.heap.size .ready none):=by
  subst hW;refine⟨?_,?_⟩
  ·have:=World.alloc_heap_new (w.alloc (.deferred (some []))) (.loop (Kd fn a.tmps ps asg bo w.heap.size .ready none))
   rwa[World.size_alloc]at this
  ·exact(Below.heap_alloc _ _ _ sP).trans (World.alloc_heap_new w _)
 have hz1:W1.heap.size=w.heap.size+2:=by subst hW;simp
 have hBw:Below w.heap.size w W1:=by subst hW;exact Xb (Xb (Below.refl w.heap.size w) _) _
 have hB1:Below w0.heap.size w0 W1:=hb0.trans (hBw.mono hb0.size);clear hW;refine⟨_,_,W1,{ target:=.fn (.func gf) lb,args:=#[.func (.yield (w.heap.size+1)) #[] #[]] },W1,gf,#[.func (.yield (w.heap.size+1)) #[] #[]]++lb,W1,hrun,?_,?_,?_,fun _=>h1,?_⟩
 ·simp only[resolve,hg]
  simp[go_sem]
 ·intro f' hf'
  simp[Target.leads]at hf';subst hf';exact hFg
 ·simp[invoke,go_sem,eg]
 ·have ow:∀{r:Loop}{A V:World}{row:Option Nat},YO A w.heap.size r->A.grownBy V row->(∀k,row=some k->W1.heap.size<=k/\∃o:Obj,A.heap[k]?=some o/\o.isCells=false)->YO V w.heap.size r:=fun h k q=>h.own k (fun z e=>by have:=(q z e).1;omega)
  have fr:∀{A:World}{row:Option Nat},(∀k,row=some k->W1.heap.size<=k/\∃o:Obj,A.heap[k]?=some o/\o.isCells=false)->∀k,row=some k->w.heap.size<=k/\∃o:Obj,A.heap[k]?=some o/\o.isCells=false:=fun q k e=>⟨by have:=(q k e).1;omega,(q k e).2⟩
  refine(hseq (w.heap.size+1) (fun z pre W=>I z pre W/\YO W w.heap.size (Kd fn a.tmps ps asg bo w.heap.size .ready none)) (fun pre W=>∃c,Ix c pre W/\YO W w.heap.size (Kd fn a.tmps ps asg bo w.heap.size .done (some c))) W1 hB1 oM
   (fun z s A V row hs k q=>⟨hI z s A V row hs.1 k (fr q),ow hs.2 k q⟩) (fun s A V row hs k q=>by obtain⟨c,hc,hr⟩:=hs;exact⟨c,hIx c s A V row hc k (fr q),ow hr k q⟩) (fun ht z s V V' hz hs k=>⟨hIz ht z s V V' oM hs.1 k,hs.2.own k (fun q e=>by injection e with e;omega)⟩)
   (fun hv=>⟨fun z z' s V V' hz hs k=>⟨(hvar hv).1 z z' s V V' oM hs.1 (k.mono oM),⟨(k.block _ oM).trans hs.2.1,(k.block _ oM).trans hs.2.2⟩⟩,fun s V V' hs k=>by obtain⟨c,hc,hr⟩:=hs;exact⟨c,(hvar hv).2 c s V V' hc (k.mono oM),⟨(k.block _ oM).trans hr.1,(k.block _ oM).trans hr.2⟩⟩⟩) ?_ (fun z V hz hzV hV=>⟨h0 z V oM hzV (hBw.trans (hV.mono oM)),⟨(hV.block _ oM).trans hR1.1,(hV.block _ oM).trans hR1.2⟩⟩)).mono ?_
  ·rintro z pre x W hz ⟨hi,hr⟩ hpx hlen
   have hy:(Instr.yield (w.heap.size+1) (encs z x)).run P W=_:=run_yield (P:=P) hr.1 (hps z x);refine⟨_,_,_,_,hy,roundIn_of_wpIn hfn (hassign _ z pre x W _ oM hi hpx (fun a' W' hko hkp hi' hpx' hax=>?_))⟩;have hr':=hr.keeps hko;refine⟨_,run_beginRound hr'.1 rfl,?_⟩;have hrb:YO (W'.putObj (w.heap.size+1) (.loop (Kd fn a.tmps ps asg bo w.heap.size .busy none))) w.heap.size (Kd fn a.tmps ps asg bo w.heap.size .busy none):=hr'.put _;have hkb:Kp W (W'.putObj (w.heap.size+1) (.loop (Kd fn a.tmps ps asg bo w.heap.size .busy none))):=hKt hkp (hKb _ _ _ _ oM hr'.1 rfl);refine wpIn_mono (hbody _ z pre x a' _ oM oM ⟨_,hrb.1⟩ ((hI z).putObj _ hi' oM hr'.1 rfl) ((hPx z).putObj _ hpx' oM hr'.1 rfl) ((hAx z x a').putObj (s:=()) _ hax oM hr'.1 rfl) hlen) ?_;have kf:∀{V:World}(o:Obj),KeepsFrom w.heap.size (W'.putObj (w.heap.size+1) (.loop (Kd fn a.tmps ps asg bo w.heap.size .busy none))) V->KeepsFrom W1.heap.size W (V.putObj (w.heap.size+1) o):=fun {V} o h=>(((hko.from _).trans (KeepsFrom.of_grownBy (grownBy_putObj' W' _ _) (fun j e=>by cases e;omega))).trans (Jl h oM)).trans (KeepsFrom.of_grownBy (grownBy_putObj' V _ _) (fun j e=>by cases e;omega))
   rintro e a3 V hp;cases e with
   | normal =>
    have hv:=hrb.keepsF hp.1;exact⟨_,_,hv.fin none,.inl ⟨rfl,⟨(hI z).putObj _ hp.2.2 oM hv.1 rfl,hv.put _⟩,hKt (hKt hkb hp.2.1) (hKb _ _ _ _ oM hv.1 rfl),kf _ hp.1⟩⟩
   | ret =>
    have hv:=hrb.keepsF hp.1;exact⟨_,_,hv.fin (some .ret),.inr ⟨rfl,⟨.ret,(hIx _).putObj _ hp.2.2 oM hv.1 rfl,hv.put _⟩,hKt (hKt hkb hp.2.1) (hKb _ _ _ _ oM hv.1 rfl),kf _ hp.1⟩⟩
   | exit id =>
    have hv:=hrb.keepsF hp.1;exact⟨_,_,hv.fin (some (.exit id)),.inr ⟨rfl,⟨.exit id,(hIx _).putObj _ hp.2.2 oM hv.1 rfl,hv.put _⟩,hKt (hKt hkb hp.2.1) (hKb _ _ _ _ oM hv.1 rfl),kf _ hp.1⟩⟩
   | goto t =>
    have hv:=hrb.keepsF hp.1;exact⟨_,_,hv.fin (some (.goto t)),.inr ⟨rfl,⟨.goto t,(hIx _).putObj _ hp.2.2 oM hv.1 rfl,hv.put _⟩,hKt (hKt hkb hp.2.1) (hKb _ _ _ _ oM hv.1 rfl),kf _ hp.1⟩⟩
   | panic ch=>exact hp.elim
   | outgrown=>exact hp.elim
  ·rintro e V ⟨⟨v,rfl⟩,(⟨z,xs,hz,hS,hi,hr⟩ | ⟨pre,hSp,c,hi,hr⟩)⟩
   ·exact⟨none,_,run_endLoop hr.1 (by simp[Kd]),hdone _ z xs _ (Nat.le_refl _) oM hS ((hI z).putObj _ hi oM hr.1 rfl) (hr.put _).2⟩
   ·exact⟨some c,_,run_endLoop hr.1 (by simp[Kd]),hstop _ c pre _ (Nat.le_refl _) hSp ((hIx c).putObj _ hi oM hr.1 rfl) (hr.put _).2⟩
end Go.Proofs.YtlmgmkmomaileaaGreatDoor
namespace Go.Proofs.YtlmgmkmomaileaaGreatDoor
set_option maxRecDepth 100000
set_option maxHeartbeats 2000000
open Go.RowKit
theorem Zes(n k:Nat):TT n k <+: TT n 0:=by
 unfold TT;rw[show n-0=n by omega,List.take_of_length_le (by simp:(List.finRange n).reverse.length<=n)];exact List.take_prefix _ _
theorem ZiM(F:Fence)(n:Nat)(h8:F.fn 150)(hro:F.round=none)(hn:1<=n)(l Bs n₀ cap:Nat)(Ms:Nat->Prop)(a:Option Addr)(xs:List XN)(L B:Nat)(hreach:xs.length<=1000000)(hM:∀k,L<=k->k<B->¬Ms k)(hMs:¬Ms Bs)(J Jx:List (Fin xs.length)->World->Prop)
 (hY:∀(pre:List (Fin xs.length))(x:Fin xs.length)(W:World),J pre W->pre.length<xs.length->YieldAt F (n-1) Tryz.prog l #[.int .i64 ((x:Nat):Int),Zax xs[x]] W fun e W' =>
  (e=.returned (.bool true)/\J (pre++[x]) W'/\Zi n₀ Ms W W')\/(e=.returned (.bool false)/\Jx (pre++[x]) W'))
 (W:World) (hBs:W.cell? ⟨Bs,0,none⟩=some (.slice a xs.length cap)) (hc:Hid (X0 W L B a xs)) (h0:J [] W) :
 CallsIn F n Tryz.prog 150 #[.func (.yield l) #[] #[],.pointer (some ⟨Bs,0,none⟩)] W fun e W'=>(∃v,e=.returned v) /\
  ((∃ys,ys=TT xs.length 0/\J ys W')\/(∃pre,(∃q,pre=TT xs.length q)/\Jx pre W')):=by
 refine callsIn_of_wp Tryz.func150 rfl h8 ?_ hro;simp only[Tryz.ntmps150,List.size_toArray,List.length_cons,List.length_nil,Nat.reduceAdd,Nat.reduceSub,Array.replicate_succ,Array.replicate_zero,List.push_toArray,List.append_toArray,List.nil_append,List.cons_append]
 gi_wp2
 gi_loopw [3] (fun i wr=>∃(k:Nat)(z:Int),k<=xs.length/\i=.int .i64 z/\z+1=(k:Int)/\J (TT xs.length k) wr/\Zi n₀ Ms W wr)
  (fun i _=>(intOf i+1).toNat)
 case atStart=>exact⟨xs.length,_,Nat.le_refl _,rfl,oM,by rw[Tu];exact h0,Zi.refl _⟩
 case round =>
  obtain⟨k,z,hk,rfl,hzk,hJs,hnx⟩:=hrel;have hBs':=hnx.cell hBs hMs;cases k with
  | zero =>
   have hz1:z=-1:=oM;subst hz1
   gi_wp2
   go_end0
   exact⟨⟨_,rfl⟩,.inl ⟨_,rfl,hJs⟩⟩
  | succ q =>
   have hz1:z=(q:Int):=oM;subst hz1;have hq:q<xs.length:=hk;obtain⟨b,o,ea,hbB,hcx⟩:=hc.out q hq;subst ea;have hMb:=hM b hbB.1 hbB.2;obtain⟨q0,q1,q2,q3,q4⟩:=hcx;have r0:=hnx.cell q0 hMb;have r1:=hnx.cell q1 hMb;have r2:=hnx.cell q2 hMb;have r3:=hnx.cell q3 hMb;have r4:=hnx.cell q4 hMb;clear q0 q1 q2 q3 q4;obtain⟨fn,tmps,assign,body,hy,hR⟩:=hY _ ⟨q,hq⟩ wr hJs (by rw[UB];omega);have hyy:(Instr.yield l #[.int .i64 ((q:Nat):Int),.agg #[.int .i64 xs[q].op,.int .i64 xs[q].dst,.int .i64 xs[q].a,.int .i64 xs[q].b,.int .i64 xs[q].imm]]).run Tryz.prog wr=_:=hy;clear hy
   gi_wp2
   refine hR.mono ?_;rintro e W3 (⟨rfl,hJ3,hk3⟩ | ⟨rfl,hJx3⟩)
   ·gi_wp2
    go_roundw
    case rel=>exact⟨q,_,oM,rfl,oM,by rw[KP hq];exact hJ3,hnx.trans hk3⟩
    case measure=>simp[intOf]
   ·gi_wp2
    refine bodyPost_ret (results_none rfl _ _ _) rfl ?_;exact⟨⟨_,rfl⟩,.inr ⟨_,⟨q,(KP hq).symm⟩,hJx3⟩⟩
theorem Vb(F:Fence)(n:Nat)(h8:F.fn 150)(hro:F.round=none)(hn:1<=n)(Bs n₀ cap:Nat)(Ms:Nat->Prop)(a:Option Addr)(xs:List XN)(L B:Nat)(hreach:xs.length<=1000000)(hB:B<=n₀)(hM:∀k,L<=k->k<B->¬Ms k)(hMs:¬Ms Bs)(w:World)(hn0:n₀<=w.heap.size)(hBs:Bs<w.heap.size)
 (hc:w.cell? ⟨Bs,0,none⟩=some (.slice a xs.length cap)) (hI:Hid (X0 w L B a xs)) :
 SeqStopsK F n Tryz.prog 150 #[.pointer (some ⟨Bs,0,none⟩)] (fun x:Fin xs.length=>#[Value.int .i64 ((x:Nat):Int),Zax xs[x]]) (Zi n₀ Ms) (fun ys=>ys=TT xs.length 0) (fun pre=>∃q,pre=TT xs.length q) xs.length w:=fun l J Jx W hW _ _ hY h0 =>
 ZiM F n h8 hro hn l Bs n₀ cap Ms a xs L B hreach hM hMs J Jx hY W ((hW.cell (p:=⟨Bs,0,none⟩) hBs).trans hc) (Xa (hI.keepS (fun k _ h2=>hW.block k oM))) h0
end Go.Proofs.YtlmgmkmomaileaaGreatDoor
