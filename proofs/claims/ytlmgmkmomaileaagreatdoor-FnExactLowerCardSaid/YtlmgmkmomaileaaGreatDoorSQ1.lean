import Derived.Test.YtlmgmkmomaileaaGreatDoorTO
namespace Go.Proofs.YtlmgmkmomaileaaGreatDoor
structure Mv where
 to:Int
 frm:Int
def X7(L:List Mv)(r:Int):Bool:=L.any fun m=>m.frm==r
theorem WK{L:List Mv}{r:Int}:X7 L r=true↔∃m∈L,m.frm=r:=by simp[X7]
def Zm:List Int->Option Int
 | []=>none
 | x::xs=>match Zm xs with
  | none=>some x
  | some y=>some (if x<y then x else y)
theorem ZI{xs:List Int}:Zm xs=none↔xs=[]:=by
 cases xs with
 | nil=>simp[Zm]
 | cons x xs =>
  simp only[Zm];cases Zm xs<;>simp
theorem Je:∀{xs:List Int}{y:Int},Zm xs=some y->y∈xs/\∀x∈xs,y<=x
 | [],y,h=>by cases h
 | x::xs,y,h=>by
  simp only[Zm]at h;cases hl:Zm xs with
  | none =>
   rw[hl]at h;have e:xs=[]:=ZI.1 hl;subst e;cases h;simp
  | some z =>
   rw[hl]at h;obtain⟨h1,h2⟩:=Je hl;simp only[Option.some.injEq]at h;split at h
   ·subst h
    rename_i hlt;exact⟨List.mem_cons_self,fun u hu=>by
     rcases List.mem_cons.1 hu with rfl | hu
     ·exact Int.le_refl _
     ·have:=h2 u hu;omega⟩
   ·subst h
    rename_i hlt;exact⟨List.mem_cons_of_mem _ h1,fun u hu=>by
     rcases List.mem_cons.1 hu with rfl | hu
     ·omega
     ·exact h2 u hu⟩
theorem VB{xs:List Int}{y:Int}(h1:y∈xs)(h2:∀x∈xs,y<=x):Zm xs=some y:=by
 cases h:Zm xs with
 | none=>rw[ZI.1 h]at h1;cases h1
 | some z =>
  obtain⟨g1,g2⟩:=Je h;have a:=h2 z g1;have b:=g2 y h1;rw[show z=y by omega]
def Yg(L:List Mv):List Int:=L.map (·.to)
def ZL(L:List Mv):List Int:=(Yg L).filter fun t=>!X7 L t
def cpI(m:Mv):XN:=if m.frm<0 then ⟨13,m.to,0,0,0⟩else ⟨11,m.to,m.frm,0,0⟩
def Zbe(L:List Mv)(t:Int):Int:=((L.find? fun m=>m.to==t).map (·.frm)).getD 0
def without(L:List Mv)(t:Int):List Mv:=L.filter fun m=>m.to != t
def scratch(L:List Mv)(r:Int):List Mv:=L.map fun m=>if m.frm=r then ⟨m.to,-1⟩else m
def YE(L:List Mv):XN × List Mv:=match Zm (ZL L)with
 | some t=>(cpI ⟨t,Zbe L t⟩,without L t)
 | none=>match Zm (Yg L)with
  | some r=>(⟨12,0,r,0,0⟩,scratch L r)
  | none=>(⟨0,0,0,0,0⟩,[])
def XI:Nat->List Mv->List XN
 | 0,_=>[]
 | _+1,[]=>[]
 | k+1,m::L=>(YE (m::L)).1::XI k (YE (m::L)).2
theorem Th(k:Nat):XI k []=[]:=by cases k<;>rfl
theorem Kj(k:Nat){L:List Mv}(h:L≠[]):XI (k+1) L=(YE L).1::XI k (YE L).2:=by
 cases L with
 | nil=>exact absurd rfl h
 | cons m L=>rfl
theorem JF:∀(k:Nat)(L:List Mv),(XI k L).length<=k
 | 0,_=>Nat.le_refl _
 | _+1,[]=>Nat.zero_le _
 | k+1,m::L=>by have:=JF k (YE (m::L)).2;simp only[XI,List.length_cons];omega
structure ZC(L:List Mv):Prop where
 nd:(Yg L).Nodup
 to:∀m∈L,0<=m.to/\m.to<64
 frm:∀m∈L,m.frm=-1\/(0<=m.frm/\m.frm<64)
 ne:∀m∈L,m.frm≠m.to
def Js(L:List Mv):Nat:=L.length+(L.filter fun m=>decide (0<=m.frm)).length
theorem ZC.nil:ZC []:=⟨by simp[Yg],sP,sP,sP⟩
theorem ZC.without{L:List Mv}(h:ZC L)(t:Int):ZC (without L t):=by
 refine⟨?_,fun m hm=>h.to m (List.mem_filter.1 hm).1,fun m hm=>h.frm m (List.mem_filter.1 hm).1,fun m hm=>h.ne m (List.mem_filter.1 hm).1⟩;exact h.nd.sublist (List.filter_sublist.map _)
theorem Zc2(L:List Mv)(r:Int):Yg (scratch L r)=Yg L:=by
 unfold Yg scratch;rw[List.map_map];refine List.map_congr_left (fun m _=>?_);show(if m.frm=r then (⟨m.to,-1⟩:Mv)else m).to=m.to;split<;>rfl
theorem ZC.scratch{L:List Mv}(h:ZC L)(r:Int):ZC (scratch L r):=by
 have key:∀m∈Go.Proofs.YtlmgmkmomaileaaGreatDoor.scratch L r,∃q∈L,m=(if q.frm=r then ⟨q.to,-1⟩else q):=fun m hm=>by
  obtain⟨q,hq,e⟩:=List.mem_map.1 hm;exact⟨q,hq,e.symm⟩
 refine⟨by rw[Zc2];exact h.nd,fun m hm=>?_,fun m hm=>?_,fun m hm=>?_⟩<;>obtain⟨q,hq,rfl⟩:=key m hm
 ·have:=h.to q hq;split<;>exact this
 ·split
  ·exact Or.inl rfl
  ·exact h.frm q hq
 ·have h1:=h.to q hq
  have h2:=h.ne q hq;split
  ·show(-1:Int)≠q.to;omega
  ·exact h2
theorem ZC.step{L:List Mv}(h:ZC L):ZC (YE L).2:=by
 unfold YE;split
 ·exact h.without _
 ·split
  ·exact h.scratch _
  ·exact ZC.nil
theorem ZbH{L:List Mv}{t:Int}(ht:t∈Yg L):Js (without L t)<Js L:=by
 unfold Js without;have h1:(L.filter fun m=>m.to != t).length<L.length:=by
  refine List.length_filter_lt_length_iff_exists.2 ?_;obtain⟨m,hm,e⟩:=List.mem_map.1 ht;exact⟨m,hm,by simp[e]⟩
 have h2:((L.filter fun m=>m.to != t).filter fun m=>decide (0<=m.frm)).length<=(L.filter fun m=>decide (0<=m.frm)).length:=(List.filter_sublist.filter _).length_le;omega
theorem Zba{r:Int}(hr:0<=r):∀{L:List Mv},X7 L r=true->Js (scratch L r)<Js L:=by
 have key:∀L:List Mv,((scratch L r).filter fun m=>decide (0<=m.frm)).length<=(L.filter fun m=>decide (0<=m.frm)).length/\(X7 L r=true->((scratch L r).filter fun m=>decide (0<=m.frm)).length<(L.filter fun m=>decide (0<=m.frm)).length):=fun L=>by
  induction L with
  | nil=>simp[scratch,X7]
  | cons m L ih =>
   obtain⟨i1,i2⟩:=ih;have e:scratch (m::L) r=(if m.frm=r then ⟨m.to,-1⟩else m)::scratch L r:=rfl;have er:X7 (m::L) r=(m.frm==r||X7 L r):=rfl;rw[e,er];by_cases hm:m.frm=r
   ·rw[if_pos hm]
    have:(decide (0<=m.frm))=true:=by simp;omega
    rw[List.filter_cons_of_neg (p:=fun m:Mv=>decide (0<=m.frm)) sP,List.filter_cons_of_pos (p:=fun m:Mv=>decide (0<=m.frm)) this];simp only[List.length_cons];exact⟨oM,fun _=>oM⟩
   ·rw[if_neg hm]
    have eb:(m.frm==r)=false:=by simpa using hm
    rw[eb,Bool.false_or];by_cases h0:decide (0<=m.frm)=true
    ·rw[List.filter_cons_of_pos (p:=fun m:Mv=>decide (0<=m.frm)) h0,List.filter_cons_of_pos (p:=fun m:Mv=>decide (0<=m.frm)) h0]
     simp only[List.length_cons];exact⟨oM,fun hi=>by have:=i2 hi;omega⟩
    ·rw[List.filter_cons_of_neg (p:=fun m:Mv=>decide (0<=m.frm)) h0,List.filter_cons_of_neg (p:=fun m:Mv=>decide (0<=m.frm)) h0]
     exact⟨i1,i2⟩
 intro L hi;have h1:=(key L).2 hi;unfold Js;have h2:(scratch L r).length=L.length:=by simp[scratch]
 omega
theorem KO{L:List Mv}{t:Int}:t∈ZL L↔t∈Yg L/\X7 L t=false:=by simp[ZL]
theorem ZaF{L:List Mv}(h:ZC L)(hne:L≠[]):Js (YE L).2<Js L:=by
 unfold YE;split
 ·rename_i t ht
  exact ZbH (KO.1 (Je ht).1).1
 ·rename_i hf
  split
  ·rename_i r hr
   obtain⟨g1,_⟩:=Je hr;have hrd:X7 L r=true:=by
    cases hb:X7 L r with
    | true=>rfl
    | false =>
     have:r∈ZL L:=KO.2 ⟨g1,hb⟩;rw[ZI.1 hf]at this;cases this
   obtain⟨m,hm,e⟩:=List.mem_map.1 g1;exact Zba (by have:=(h.to m hm).1;omega) hrd
  ·rename_i hr
   have:=ZI.1 hr;exact absurd (List.map_eq_nil_iff.1 this) hne
theorem Tn:∀(k:Nat){L:List Mv},ZC L->Js L<=k->XI k L=XI (Js L) L
 | 0,L,_,hk=>by rw[show Js L=0 by omega]
 | k+1,L,h,hk=>by
  by_cases hne:L=[]
  ·subst hne;rw[Th,Th]
  ·have h1:=ZaF h hne
   obtain⟨j,hj⟩:∃j,Js L=j+1:=⟨Js L-1,oM⟩;rw[hj,Kj k hne,Kj j hne,Tn k h.step oM];by_cases hk2:Js (YE L).2<=j
   ·by_cases hjk:j<=k
    ·have:=Tn j h.step hk2
     rw[this]
    ·have e:j=k:=oM
     rw[e,Tn k h.step oM]
   ·omega
theorem Zhf{L:List Mv}(h:ZC L)(hne:L≠[]):XI (Js L) L=(YE L).1::XI (Js (YE L).2) (YE L).2:=by
 have h1:=ZaF h hne;obtain⟨j,hj⟩:∃j,Js L=j+1:=⟨Js L-1,oM⟩;rw[hj,Kj j hne,Tn j h.step oM]
def Uc(pre:List Mv)(m:Mv):Bool:=decide (0<=m.to/\m.to<64/\0<=m.frm/\m.frm<64) && !pre.any (fun q=>q.to==m.to)
def JY:List Mv->List Mv->Bool
 | _,[]=>true
 | pre,m::r=>Uc pre m&&JY (pre++[m]) r
def Yy(L:List Mv):Bool:=decide (L.length<=64)&&JY [] L
def startM(L:List Mv):List Mv:=L.filter fun m=>m.to != m.frm
def JA(L:List Mv):List XN:=if Yy L=true then XI (2*(startM L).length) (startM L)else []
structure KY(L:List Mv):Prop where
 nd:(Yg L).Nodup
 rng:∀m∈L,0<=m.to/\m.to<64/\0<=m.frm/\m.frm<64
theorem KY.snoc{L:List Mv}(h:KY L){m:Mv}(hm:Uc L m=true):KY (L++[m]):=by
 simp only[Uc,Bool.and_eq_true,decide_eq_true_eq,Bool.not_eq_true']at hm;obtain⟨h1,h2⟩:=hm;refine⟨?_,fun q hq=>?_⟩
 ·unfold Yg
  rw[List.map_append,List.nodup_append];refine⟨h.nd,sP,fun a ha b hb=>?_⟩;simp only[List.map_cons,List.map_nil,List.mem_singleton]at hb;subst hb;intro e;subst e;obtain⟨q,hq,e⟩:=List.mem_map.1 ha;have:=List.any_eq_false.1 h2 q hq;simp[e]at this
 ·rcases List.mem_append.1 hq with hq | hq
  ·exact h.rng q hq
  ·rw[List.mem_singleton.1 hq];exact h1
theorem Zcc:∀(r pre:List Mv),KY pre->JY pre r=true->KY (pre++r)
 | [],pre,h,_=>by rw[List.append_nil];exact h
 | m::r,pre,h,hg=>by
  simp only[JY,Bool.and_eq_true]at hg;have:=Zcc r (pre++[m]) (h.snoc hg.1) hg.2;simpa using this
theorem KY.start{L:List Mv}(h:KY L):ZC (startM L)/\Js (startM L)=2*(startM L).length:=by
 have sub:∀m∈startM L,m∈L/\m.to≠m.frm:=fun m hm=>by simpa [startM]using hm
 refine⟨⟨h.nd.sublist (List.filter_sublist.map _),fun m hm=>?_,fun m hm=>?_,fun m hm=>?_⟩,?_⟩
 ·have:=h.rng m (sub m hm).1;omega
 ·have:=h.rng m (sub m hm).1;omega
 ·exact fun e=>(sub m hm).2 e.symm
 ·unfold Js
  rw[List.filter_eq_self.2 (fun m hm=>by have:=h.rng m (sub m hm).1;simp;omega)];omega
theorem TQ{L:List Mv}(h:Yy L=true):L.length<=64/\KY L:=by
 simp only[Yy,Bool.and_eq_true,decide_eq_true_eq]at h;exact⟨h.1,by simpa using Zcc L [] ⟨by simp[Yg],sP⟩ h.2⟩
end Go.Proofs.YtlmgmkmomaileaaGreatDoor
