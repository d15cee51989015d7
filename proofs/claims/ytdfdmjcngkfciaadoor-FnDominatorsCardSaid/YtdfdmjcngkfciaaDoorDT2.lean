import Derived.Test.YtdfdmjcngkfciaaDoorDL5
namespace Go.Proofs.YtdfdmjcngkfciaaDoor
open Go.RowKit
theorem preds_congr:∀(xs ys:List Blk) (k:Nat) (b:Int),xs.length=ys.length→(∀i (h:i<xs.length) (h':i<ys.length),xs[i].term.targets=ys[i].term.targets)→predsFrom xs k b=predsFrom ys k b
 | [],[],_,_,_,_=>rfl
 | [],_::_,_,_,h,_=>by simp at h
 | _::_,[],_,_,h,_=>by simp at h
 | x::xs,y::ys,k,b,h,ht=>by
  have h0:=ht 0 (by simp) (by simp)
  rw [List.getElem_cons_zero,List.getElem_cons_zero] at h0
  rw [predsFrom,predsFrom,h0,preds_congr xs ys (k+1) b (by simpa using h) (fun i hi hi'=>by have:=ht (i+1) (by simpa using hi) (by simpa using hi');rwa [List.getElem_cons_succ,List.getElem_cons_succ] at this)]
theorem preds_set {xs:List Blk} {i:Nat} {x:Blk} (hi:i<xs.length) (h:x.term=xs[i].term) (k:Nat) (b:Int):predsFrom (xs.set i x) k b=predsFrom xs k b :=
 preds_congr _ _ _ _ (by simp) (fun j hj hj'=>by
  by_cases e:i=j
  ·subst e
   rw [List.getElem_set_self,h]
  ·rw [List.getElem_set_ne e])
theorem argsB_len (ends:List (List Int)):∀(ps:List Int) (s:Sr) (acc:List Int),(argsB ends ps s acc).1.length=acc.length+ps.length
 | [],_,_=>rfl
 | p::ps,s,acc=>by
  rw [argsB,argsB_len]
  simp only [List.length_append,List.length_cons,List.length_nil]
  omega
theorem phsB_len (ends:List (List Int)) (preds:List Int):∀(k j:Nat) (ps:List Ph) (s:Sr),(phsB ends preds k j ps s).1.length=ps.length
 | 0,_,_,_=>rfl
 | k+1,j,ps,s=>by rw [phsB,phsB_len];simp
theorem phsB_args (ends:List (List Int)) (preds:List Int):∀(k j:Nat) (ps:List Ph) (s:Sr),j+k=ps.length→(∀m (h:m<ps.length),m<j→ps[m].args.length=preds.length)→(∀m (h:m<ps.length),j≤m→ps[m].args=[])→∀p∈(phsB ends preds k j ps s).1,p.args.length=preds.length
 | 0,j,ps,s,hj,h1,_,p,hp=>by
  obtain ⟨m,hm,rfl⟩:=List.getElem_of_mem hp
  exact h1 m hm (by have:m<ps.length:=hm;omega)
 | k+1,j,ps,s,hj,h1,h2,p,hp=>by
  rw [phsB] at hp
  have hjl:j<ps.length:=by omega
  refine phsB_args ends preds k (j+1) _ _ (by simp;omega) (fun m hm hmj=>?_) (fun m hm hmj=>?_) p hp
  ·by_cases e:j=m
   ·subst e
    rw [List.getElem_set_self]
    show (argsB ends preds s (ps.getD j dPh).args).1.length=preds.length
    rw [argsB_len,show ps.getD j dPh=ps[j] by simp [hjl],h2 j hjl (Nat.le_refl _)]
    simp
   ·rw [List.getElem_set_ne e]
    exact h1 m (by simpa using hm) (by omega)
  ·rw [List.getElem_set_ne (by omega)]
   exact h2 m (by simpa using hm) (by omega)
theorem argB_len (ends:List (List Int)):∀(k i:Nat) (xs:List Blk) (s:Sr),(argB ends k i xs s).1.length=xs.length
 | 0,_,_,_=>rfl
 | k+1,i,xs,s=>by rw [argB,argB_len];simp
theorem argB_ok (ends:List (List Int)):∀(k i:Nat) (xs:List Blk) (s:Sr),i+k=xs.length→(∀m (h:m<xs.length),m<i→∀p∈xs[m].phis,p.args.length=(predsFrom xs 0 (m:Int)).length)→(∀m (h:m<xs.length),i≤m→∀p∈xs[m].phis,p.args=[])→ArgOk (argB ends k i xs s).1
 | 0,i,xs,s,hi,h1,_=>fun m hm=>h1 m hm (by have:m<xs.length:=hm;omega)
 | k+1,i,xs,s,hi,h1,h2=>by
  rw [argB]
  have hil:i<xs.length:=by omega
  have e0:xs.getD i dBlk=xs[i]:=by simp [hil]
  rw [e0]
  refine argB_ok ends k (i+1) _ _ (by simp;omega) (fun m hm hmi p hp=>?_) (fun m hm hmi p hp=>?_)
  ·rw [preds_set (x:=⟨(phsB ends (predsFrom xs 0 (i:Int)) xs[i].phis.length 0 xs[i].phis s).1,xs[i].instrs,xs[i].term⟩) hil rfl]
   by_cases e:i=m
   ·subst e
    rw [List.getElem_set_self] at hp
    exact phsB_args ends _ _ 0 _ _ (Nat.zero_add _) (fun _ _ h=>absurd h (by omega)) (fun q hq _=>h2 i hil (Nat.le_refl _) _ (List.getElem_mem hq)) p hp
   ·rw [List.getElem_set_ne e] at hp
    exact h1 m (by simpa using hm) (by omega) p hp
  ·rw [List.getElem_set_ne (by omega)] at hp
   exact h2 m (by simpa using hm) (by omega) p hp
theorem blksB_phis (near:Bool) (ids:List Int):∀(k i:Nat) (g:GdR),(∀x∈g.xs,x.phis.length≤1000∧∀p∈x.phis,p.args=[])→∀x∈(blksB near ids k i g).xs,x.phis.length≤1000∧∀p∈x.phis,p.args=[]
 | 0,_,_,h=>h
 | k+1,i,g,h=>by
  rw [blksB]
  refine blksB_phis near ids k (i+1) _ (fun x hx=>?_)
  rcases List.mem_or_eq_of_mem_set hx with hx | hx
  ·exact h x hx
  ·subst hx
   refine ⟨?_,fun p hp=>?_⟩
   ·show (phG (npP _ g.s).1 g.v).length≤1000
    rw [phG_len]
    have:=np_le (predsFrom g.xs 0 (i:Int)).length g.s
    omega
   ·have hp':p∈phG (npP (predsFrom g.xs 0 (i:Int)).length g.s).1 g.v:=hp
    unfold phG at hp'
    obtain ⟨j,_,rfl⟩:=List.mem_map.1 hp'
    rfl
theorem blksB_ins (near:Bool) (ids:List Int):∀(k i:Nat) (g:GdR),SrOk g.s→(∀x∈g.xs,x.instrs.length≤1000)→∀x∈(blksB near ids k i g).xs,x.instrs.length≤1000
 | 0,_,_,_,h=>h
 | k+1,i,g,hs,h=>by
  rw [blksB]
  refine blksB_ins near ids k (i+1) _ (blk_ok hs) (fun x hx=>?_)
  rcases List.mem_or_eq_of_mem_set hx with hx | hx
  ·exact h x hx
  ·subst hx
   have:=(blk_le (near:=near) (i:=i) (np:=(predsFrom g.xs 0 (i:Int)).length) (t:=(g.xs.getD i dBlk).term) (vs0:=if i=0 then [] else g.ends.getD (ids.getD i 0).toNat []) (v:=g.v) hs).2.2.2.1
   exact Nat.le_trans this (by omega)
theorem argB_mem (ends:List (List Int)):∀(k i:Nat) (xs:List Blk) (s:Sr) (m:Nat),i+k=xs.length→(∀x∈xs,x.phis.length≤m∧x.instrs.length≤m)→∀x∈(argB ends k i xs s).1,x.phis.length≤m∧x.instrs.length≤m
 | 0,_,_,_,_,_,h=>h
 | k+1,i,xs,s,m,hi,h=>by
  rw [argB]
  have hil:i<xs.length:=by omega
  rw [show xs.getD i dBlk=xs[i] by simp [hil]]
  refine argB_mem ends k (i+1) _ _ m (by simp;omega) (fun x hx=>?_)
  rcases List.mem_or_eq_of_mem_set hx with hx | hx
  ·exact h x hx
  ·subst hx
   have:=h _ (List.getElem_mem hil)
   refine ⟨?_,this.2⟩
   show (phsB ends _ _ 0 _ s).1.length≤m
   rw [phsB_len]
   exact this.1
theorem sml_of {xs:List Blk} (ha:ArgOk xs) (hn:xs.length≤1000) (h:∀x∈xs,x.phis.length≤1000∧x.instrs.length≤1000):SmlB xs:=fun x hx=>by
 refine ⟨(h x hx).1,fun p hp=>?_,(h x hx).2⟩
 obtain ⟨i,hi,rfl⟩:=List.getElem_of_mem hx
 rw [ha i hi p hp]
 exact Nat.le_trans (preds_le _ _ _) hn
theorem takeA_len (n:Nat) (was args:List Int) (z:Int):(takeA n was args z).length≤was.length:=by
 unfold takeA
 exact Nat.le_trans (List.length_filterMap_le _ _) (by simp)
theorem turnA_len (n:Nat) (was now args:List Int):(turnA n was now args).length≤now.length*was.length:=by
 unfold turnA
 induction now with
 | nil=>simp
 | cons z now ih =>
  rw [List.flatMap_cons,List.length_append,List.length_cons,Nat.add_mul,Nat.one_mul]
  have:=takeA_len n was args z
  omega
theorem turn2_sml (xs:List Blk) (hn:xs.length≤11):∀(k b:Nat) (g:List Blk),g.length=xs.length→b+k=g.length→(∀x∈g,x.phis.length≤1000∧(∀p∈x.phis,p.args.length≤1000)∧x.instrs.length≤1000)→SmlB (turn2 xs k b g)
 | 0,_,_,_,_,h=>h
 | k+1,b,g,hg,hb,h=>by
  rw [turn2]
  have hbl:b<g.length:=by omega
  rw [show g.getD b dBlk=g[b] by simp [hbl]]
  refine turn2_sml xs hn k (b+1) _ (by simpa using hg) (by simp;omega) (fun x hx=>?_)
  rcases List.mem_or_eq_of_mem_set hx with hx | hx
  ·exact h x hx
  ·subst hx
   have h0:=h _ (List.getElem_mem hbl)
   refine ⟨by show (turnPh _ _ _ _).length≤1000;unfold turnPh;rw [List.length_map];exact h0.1,fun p hp=>?_,h0.2.2⟩
   have hp':p∈turnPh xs.length (predsFrom xs 0 (othN b xs.length:Nat)) (predsFrom g 0 (b:Int)) g[b].phis:=hp
   unfold turnPh at hp'
   obtain ⟨q,_,rfl⟩:=List.mem_map.1 hp'
   have h1:=turnA_len xs.length (predsFrom xs 0 (othN b xs.length:Nat)) (predsFrom g 0 (b:Int)) q.args
   have h2:=preds_le xs 0 ((othN b xs.length:Nat):Int)
   have h3:=preds_le g 0 (b:Int)
   show (turnA _ _ _ q.args).length≤1000
   have h4:(predsFrom g 0 (b:Int)).length*(predsFrom xs 0 ((othN b xs.length:Nat):Int)).length≤11*11:=Nat.mul_le_mul (by omega) (by omega)
   omega
theorem turn_sml {xs:List Blk} (hn:xs.length≤11) (h1:1≤xs.length) (h:SmlB xs):SmlB (turnP xs):=by
 unfold turnP
 refine turn2_sml xs hn _ 0 _ (by simp [turn1]) (by simp [turn1]) (fun x hx=>?_)
 unfold turn1 at hx
 obtain ⟨b,hb,rfl⟩:=List.mem_map.1 hx
 have hbl:b<xs.length:=List.mem_range.1 hb
 have ho:othN b xs.length<xs.length:=by unfold othN;split<;>omega
 rw [show xs.getD (othN b xs.length) dBlk=xs[othN b xs.length] by simp [ho]]
 have:=h _ (List.getElem_mem ho)
 exact this
end Go.Proofs.YtdfdmjcngkfciaaDoor

namespace Go.Proofs.YtdfdmjcngkfciaaDoor
open Go.RowKit
def PhA (xs:List Blk):Prop:=∀x∈xs,∀p∈x.phis,0<p.args.length
def PrB (xs:List Blk):Prop:=∀i (h:i<xs.length),0<xs[i].phis.length→0<(predsFrom xs 0 (i:Int)).length
theorem phA_of {xs:List Blk} (ha:ArgOk xs) (hp:PrB xs):PhA xs:=fun x hx p hpp=>by
 obtain ⟨i,hi,rfl⟩:=List.getElem_of_mem hx
 rw [ha i hi p hpp]
 exact hp i hi (List.length_pos_of_mem hpp)
theorem TerK.b {n m i:Nat} {t:Ter} (h:TerK n i t) (hn:1≤n) (hm:n≤m):TerB m t:=by
 rcases h with ⟨rfl,_⟩ | ⟨q,rfl,h1,h2,_⟩ | ⟨q,r,rfl,h1,h2,h3,h4,_⟩
 ·exact ⟨Or.inr (Or.inr rfl),by dsimp only;omega⟩
 ·exact ⟨Or.inl rfl,by dsimp only;omega⟩
 ·exact ⟨Or.inr (Or.inl rfl),by dsimp only;omega⟩
theorem dead_tgb {dead:Bool} {n:Nat} {ts:List Ter} {s:Sr} (hl:ts.length=n) (h1:1≤n) (h:∀j (h:j<ts.length),TerK n j ts[j]):∀t∈(deadP dead n ts s).1,TerB (deadP dead n ts s).1.length t:=by
 have key:∀m,n≤m→∀t∈ts,TerB m t:=fun m hm t ht=>by
  obtain ⟨j,hj,rfl⟩:=List.getElem_of_mem ht
  exact (h j hj).b h1 hm
 unfold deadP
 split
 ·split
  ·intro t ht
   have hn:=next_lt s (n:=(n:Int)-1) (by omega)
   rcases List.mem_append.1 ht with ht | ht
   ·exact key _ (by simp;omega) t ht
   ·simp only [List.mem_cons,List.not_mem_nil,or_false] at ht
    subst ht
    refine ⟨Or.inl rfl,?_⟩
    dsimp only
    simp only [List.length_append,List.length_cons,List.length_nil]
    omega
  ·intro t ht
   rcases List.mem_append.1 ht with ht | ht
   ·exact key _ (by simp;omega) t ht
   ·simp only [List.mem_cons,List.not_mem_nil,or_false] at ht
    subst ht
    refine ⟨Or.inr (Or.inr rfl),?_⟩
    dsimp only
    simp only [List.length_append,List.length_cons,List.length_nil]
    omega
 ·exact key _ (by show n≤ts.length;omega)
theorem blk0_tgb {ts:List Ter} (h:∀t∈ts,TerB ts.length t):TgB (ts.map blk0)∧PrB (ts.map blk0):=by
 refine ⟨fun x hx=>?_,fun i hi hp=>?_⟩
 ·obtain ⟨t,ht,rfl⟩:=List.mem_map.1 hx
  rw [List.length_map]
  exact h t ht
 ·rw [(blk0_emp ts _ (List.getElem_mem hi)).1] at hp
  exact absurd hp (by simp)
theorem terG_same (near:Bool) (t:Ter) (vs:List Int) (s:Sr):(terG near t vs s).1.kind=t.kind∧(terG near t vs s).1.to=t.to∧(terG near t vs s).1.els=t.els:=by
 unfold terG
 split
 ·exact ⟨rfl,rfl,rfl⟩
 ·exact ⟨rfl,rfl,rfl⟩
theorem tgt_same {t u:Ter} (h:t.kind=u.kind∧t.to=u.to∧t.els=u.els):t.targets=u.targets:=by
 unfold Ter.targets
 rw [h.1,h.2.1,h.2.2]
theorem terB_same {n:Nat} {t u:Ter} (h:t.kind=u.kind∧t.to=u.to∧t.els=u.els) (hu:TerB n u):TerB n t:=by
 unfold TerB
 rw [h.1,h.2.1,h.2.2]
 exact hu
theorem put_tgb {xs:List Blk} {i:Nat} {x:Blk} (ht:TgB xs) (hp:PrB xs) (hi:i<xs.length) (h:x.term.kind=xs[i].term.kind∧x.term.to=xs[i].term.to∧x.term.els=xs[i].term.els) (hx:0<x.phis.length→0<(predsFrom xs 0 (i:Int)).length):TgB (xs.set i x)∧PrB (xs.set i x):=by
 have hpr:∀b:Int,predsFrom (xs.set i x) 0 b=predsFrom xs 0 b:=fun b=>preds_congr _ _ _ _ (by simp) (fun j hj hj'=>by
  by_cases e:i=j
  ·subst e
   rw [List.getElem_set_self]
   exact tgt_same h
  ·rw [List.getElem_set_ne e])
 refine ⟨fun y hy=>?_,fun j hj hpj=>?_⟩
 ·rw [List.length_set]
  rcases List.mem_or_eq_of_mem_set hy with hy | hy
  ·exact ht y hy
  ·subst hy
   exact terB_same h (ht _ (List.getElem_mem hi))
 ·rw [hpr]
  by_cases e:i=j
  ·subst e
   rw [List.getElem_set_self] at hpj
   exact hx hpj
  ·rw [List.getElem_set_ne e] at hpj
   exact hp j (by simpa using hj) hpj
theorem blksB_tgb (near:Bool) (ids:List Int):∀(k i:Nat) (g:GdR),i+k=g.xs.length→TgB g.xs→PrB g.xs→TgB (blksB near ids k i g).xs∧PrB (blksB near ids k i g).xs
 | 0,_,_,_,h1,h2=>⟨h1,h2⟩
 | k+1,i,g,hi,h1,h2=>by
  rw [blksB]
  have hil:i<g.xs.length:=by omega
  have e0:g.xs.getD i dBlk=g.xs[i]:=by simp [hil]
  have key:=put_tgb (x:=(blkB near i (predsFrom g.xs 0 (i:Int)).length (g.xs.getD i dBlk).term (if i=0 then [] else g.ends.getD (ids.getD i 0).toNat []) g.v g.s).blk) h1 h2 hil (by rw [e0];exact terG_same _ _ _ _) (fun hx=>by
   have hx':0<(phG (npP (predsFrom g.xs 0 (i:Int)).length g.s).1 g.v).length:=hx
   rw [phG_len] at hx'
   unfold npP at hx'
   split at hx'
   ·omega
   ·split at hx'
    ·omega
    ·exact absurd hx' (by simp))
  exact blksB_tgb near ids k (i+1) _ (by simp;omega) key.1 key.2
theorem argB_tgb (ends:List (List Int)):∀(k i:Nat) (xs:List Blk) (s:Sr),i+k=xs.length→TgB xs→PrB xs→TgB (argB ends k i xs s).1∧PrB (argB ends k i xs s).1
 | 0,_,_,_,_,h1,h2=>⟨h1,h2⟩
 | k+1,i,xs,s,hi,h1,h2=>by
  rw [argB]
  have hil:i<xs.length:=by omega
  rw [show xs.getD i dBlk=xs[i] by simp [hil]]
  have key:=put_tgb (x:=⟨(phsB ends (predsFrom xs 0 (i:Int)) xs[i].phis.length 0 xs[i].phis s).1,xs[i].instrs,xs[i].term⟩) h1 h2 hil ⟨rfl,rfl,rfl⟩ (fun hx=>by
   have hx':0<(phsB ends (predsFrom xs 0 (i:Int)) xs[i].phis.length 0 xs[i].phis s).1.length:=hx
   rw [phsB_len] at hx'
   exact h2 i hil hx')
  exact argB_tgb ends k (i+1) _ _ (by simp;omega) key.1 key.2
theorem mem_preds:∀(xs:List Blk) (k:Nat) (b z:Int),z∈predsFrom xs k b↔∃i,∃h:i<xs.length,z=((k+i:Nat):Int)∧xs[i].term.targets.contains b=true
 | [],_,_,_=>by simp [predsFrom]
 | x::xs,k,b,z=>by
  rw [predsFrom,List.mem_append,mem_preds xs (k+1) b z]
  constructor
  ·rintro (h | ⟨i,hi,h1,h2⟩)
   ·split at h
    ·rename_i hc
     simp only [List.mem_cons,List.not_mem_nil,or_false] at h
     exact ⟨0,by simp,by rw [h];simp,by simpa using hc⟩
    ·simp at h
   ·exact ⟨i+1,by simpa using hi,by rw [h1];congr 1;omega,by simpa using h2⟩
  ·rintro ⟨i,hi,h1,h2⟩
   cases i with
   | zero =>
    left
    rw [List.getElem_cons_zero] at h2
    rw [if_pos h2,h1]
    simp
   | succ i =>
    right
    exact ⟨i,by simpa using hi,by rw [h1];congr 1;omega,by simpa using h2⟩
theorem oth_lt {b n:Nat} (h:b<n):othN b n<n:=by unfold othN;split<;>omega
theorem oth_oth {b n:Nat} (h:b<n):othN (othN b n) n=b:=by unfold othN;split<;>split<;>omega
theorem othZ_nat {b n:Nat} (h:b<n):othZ (b:Int) n=((othN b n:Nat):Int):=by
 unfold othZ othN
 split
 ·rename_i h0
  rw [if_pos (by omega)]
  rfl
 ·rename_i h0
  rw [if_neg (by omega)]
  omega
theorem turnA_pos {n:Nat} {was now args:List Int} {u z:Int} (hu:u∈was) (hz:z∈now) (h:u=othZ z n):0<(turnA n was now args).length:=by
 obtain ⟨m,hm,hmu⟩:=List.getElem_of_mem hu
 refine List.length_pos_of_mem (a:=args.getD m 0) ?_
 unfold turnA
 refine List.mem_flatMap.2 ⟨z,hz,?_⟩
 unfold takeA
 refine List.mem_filterMap.2 ⟨m,List.mem_range.2 hm,?_⟩
 rw [if_pos]
 rw [←h,←hmu]
 simp [hm]
theorem turnT_tgt {n:Nat} {t:Ter} {b:Nat} (hb:b<n) (h:t.targets.contains ((othN b n:Nat):Int)=true):(turnT n t).targets.contains (b:Int)=true:=by
 have hz:othZ ((othN b n:Nat):Int) n=(b:Int):=by rw [othZ_nat (oth_lt hb),oth_oth hb]
 unfold Ter.targets at h ⊢
 unfold turnT
 dsimp only
 split at h
 ·rename_i h1
  rw [if_pos h1,if_pos (by omega)]
  simp only [List.contains_cons,List.contains_nil,Bool.or_false,beq_iff_eq] at h
  rw [←h,hz]
  simp
 ·rename_i h1
  split at h
  ·rename_i h2
   rw [if_neg h1,if_pos h2,if_pos (by omega),if_pos h2]
   simp only [List.contains_cons,List.contains_nil,Bool.or_false,Bool.or_eq_true,beq_iff_eq] at h
   rcases h with h | h
   ·rw [←h,hz];simp
   ·rw [←h,hz];simp
  ·simp at h
theorem turn2_phA (xs:List Blk) (hp:PrB xs):∀(k b:Nat) (g:List Blk),g.length=xs.length→b+k=g.length→(∀j (h:j<g.length) (h':othN j xs.length<xs.length),g[j].term=turnT xs.length xs[othN j xs.length].term)→(∀j (h:j<g.length),j<b→∀p∈g[j].phis,0<p.args.length)→(∀j (h:j<g.length) (h':othN j xs.length<xs.length),b≤j→g[j].phis=xs[othN j xs.length].phis)→PhA (turn2 xs k b g)
 | 0,b,g,hg,hb,_,h1,_=>fun x hx=>by
  obtain ⟨j,hj,rfl⟩:=List.getElem_of_mem hx
  exact h1 j hj (by have:j<g.length:=hj;omega)
 | k+1,b,g,hg,hb,ht,h1,h2=>by
  rw [turn2]
  have hbl:b<g.length:=by omega
  rw [show g.getD b dBlk=g[b] by simp [hbl]]
  refine turn2_phA xs hp k (b+1) _ (by simpa using hg) (by simp;omega) (fun j hj hj'=>?_) (fun j hj hjb p hpp=>?_) (fun j hj hj' hjb=>?_)
  ·by_cases e:b=j
   ·subst e
    rw [List.getElem_set_self]
    exact ht b hbl hj'
   ·rw [List.getElem_set_ne e]
    exact ht j (by simpa using hj) hj'
  ·by_cases e:b=j
   ·subst e
    rw [List.getElem_set_self] at hpp
    have hpp':p∈turnPh xs.length (predsFrom xs 0 (othN b xs.length:Nat)) (predsFrom g 0 (b:Int)) g[b].phis:=hpp
    unfold turnPh at hpp'
    obtain ⟨q,hq,rfl⟩:=List.mem_map.1 hpp'
    have hbx:b<xs.length:=by omega
    have ho:=oth_lt hbx
    rw [h2 b hbl ho (Nat.le_refl _)] at hq
    have hpos:=hp _ ho (List.length_pos_of_mem hq)
    obtain ⟨u,hu⟩:=List.exists_mem_of_length_pos hpos
    obtain ⟨i,hi,e1,e2⟩:=(mem_preds _ _ _ _).1 hu
    rw [Nat.zero_add] at e1
    have hoi:=oth_lt hi
    refine turnA_pos hu (z:=((othN i xs.length:Nat):Int)) ((mem_preds _ _ _ _).2 ⟨othN i xs.length,by omega,by simp,?_⟩) (by rw [othZ_nat hoi,oth_oth hi];exact e1)
    have hgt:=ht (othN i xs.length) (by omega) (by rw [oth_oth hi];exact hi)
    rw [hgt]
    refine turnT_tgt hbx ?_
    have e3:xs[othN (othN i xs.length) xs.length]'(by rw [oth_oth hi];exact hi)=xs[i]:=by congr 1;exact oth_oth hi
    rw [e3]
    exact e2
   ·rw [List.getElem_set_ne e] at hpp
    exact h1 j (by simpa using hj) (by omega) p hpp
  ·rw [List.getElem_set_ne (by omega)]
   exact h2 j (by simpa using hj) hj' (by omega)
theorem turn_phA {xs:List Blk} (hp:PrB xs):PhA (turnP xs):=by
 unfold turnP
 have hl:(turn1 xs).length=xs.length:=by simp [turn1]
 refine turn2_phA xs hp _ 0 _ hl (by omega) (fun j hj hj'=>?_) (fun j hj h=>absurd h (by omega)) (fun j hj hj' _=>?_)
 ·simp [turn1,hj']
 ·simp [turn1,hj']
theorem ren_phA {v:Nat} {xs:List Blk} (h:PhA xs):PhA (renP v xs):=fun x hx p hp=>by
 unfold renP at hx
 obtain ⟨y,hy,rfl⟩:=List.mem_map.1 hx
 unfold renB at hp
 obtain ⟨q,hq,rfl⟩:=List.mem_map.1 hp
 have:=h y hy q hq
 simpa using this
theorem ren_sml {v:Nat} {xs:List Blk} (h:SmlB xs):SmlB (renP v xs):=fun x hx=>by
 unfold renP at hx
 obtain ⟨y,hy,rfl⟩:=List.mem_map.1 hx
 have:=h y hy
 refine ⟨by unfold renB;simpa using this.1,fun p hp=>?_,by unfold renB;simpa using this.2.2⟩
 unfold renB at hp
 obtain ⟨q,hq,rfl⟩:=List.mem_map.1 hp
 have:=this.2.1 q hq
 simpa using this
end Go.Proofs.YtdfdmjcngkfciaaDoor
