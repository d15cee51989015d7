import Derived.Test.YthgikffcdgpgiaaGreatDoorCL1
import Derived.Test.YthgikffcdgpgiaaGreatDoorSV0
namespace Go.Proofs.YthgikffcdgpgiaaGreatDoor
open Go.RowKit
theorem left_of (tg:Nat→List Nat):∀(m b:Nat) (s:(Nat→Nat) × List Nat) (P:List Nat),(∀x,hasN s.1 x=true→x∈s.2∨x∈P)→∀x,hasN (dfsV tg m b s).1 x=true→x∈(dfsV tg m b s).2∨x∈P
 | 0,_,_,_,h=>h
 | m+1,b,s,P,h=>by
  by_cases hs:hasN s.1 b=true
  ·rw [dfs_stop hs];exact h
  ·have hs':hasN s.1 b=false:=by simpa using hs
   have hf:∀(l:List Nat) (s':(Nat→Nat) × List Nat),(∀x,hasN s'.1 x=true→x∈s'.2∨x∈b::P)→∀x,hasN (l.foldl (fun s t=>dfsV tg m t s) s').1 x=true→x∈(l.foldl (fun s t=>dfsV tg m t s) s').2∨x∈b::P:=by
    intro l
    induction l with
    | nil=>exact fun _ h=>h
    | cons t l ih=>exact fun s' h'=>ih _ (left_of tg m t s' (b::P) h')
   rw [dfs_go hs']
   intro x hx
   rcases hf (tg b) (addN s.1 b,s.2) (fun y hy=>by
    rw [has_add,Bool.or_eq_true,decide_eq_true_eq] at hy
    rcases hy with rfl | hy
    ·exact Or.inr (by simp)
    ·rcases h y hy with h1 | h1
     ·exact Or.inl h1
     ·exact Or.inr (by simp [h1])) x hx with h1 | h1
   ·exact Or.inl (by simp [h1])
   ·rcases List.mem_cons.1 h1 with rfl | h1
    ·exact Or.inl (by simp)
    ·exact Or.inr h1
theorem left_lt (tg:Nat→List Nat) {n:Nat} (ht:∀b,b<n→∀t∈tg b,t<n):∀(m b:Nat) (s:(Nat→Nat) × List Nat),b<n→(∀x∈s.2,x<n)→∀x∈(dfsV tg m b s).2,x<n
 | 0,_,_,_,h=>h
 | m+1,b,s,hb,h=>by
  by_cases hs:hasN s.1 b=true
  ·rw [dfs_stop hs];exact h
  ·have hs':hasN s.1 b=false:=by simpa using hs
   have hf:∀(l:List Nat) (s':(Nat→Nat) × List Nat),(∀t∈l,t<n)→(∀x∈s'.2,x<n)→∀x∈(l.foldl (fun s t=>dfsV tg m t s) s').2,x<n:=by
    intro l
    induction l with
    | nil=>exact fun _ _ h=>h
    | cons t l ih=>exact fun s' hl h'=>ih _ (fun q hq=>hl q (by simp [hq])) (left_lt tg ht m t s' (hl t (by simp)) h')
   rw [dfs_go hs']
   intro x hx
   rcases List.mem_append.1 hx with hx | hx
   ·exact hf (tg b) (addN s.1 b,s.2) (ht b hb) h x hx
   ·have:x=b:=by simpa using hx
    omega
theorem seen_after (tg:Nat→List Nat) {n m b:Nat} {s:(Nat→Nat) × List Nat} (hb:b<n) (hm:unseen s.1 n≤m):hasN (dfsV tg m b s).1 b=true:=by
 cases m with
 | zero=>exact dfs_mono tg 0 b s b (unseen_zero (by omega) hb)
 | succ m =>
  by_cases hs:hasN s.1 b=true
  ·exact dfs_mono tg _ b s b hs
  ·have hs':hasN s.1 b=false:=by simpa using hs
   rw [dfs_go hs']
   exact fold_mono tg m _ _ b (by rw [has_add];simp)
def stepI (W:Nat→Nat) (q:Nat × List Int × List Int):Nat→Nat:=addsN (delsN W (natL q.2.2)) (natL q.2.1)
def stepD (W:Nat→Nat) (q:Nat × List Int × List Int):Nat→Nat:=addsN W (natL q.2.2)
def inW (x:Blk) (W:Nat→Nat):Nat→Nat:=(plL x).foldl stepI W
def dfW (x:Blk):Nat→Nat:=(plL x).foldl stepD (fun _=>0)
theorem inW_wd (x:Blk) {W:Nat→Nat} (h:WdOk W):WdOk (inW x W):=by
 unfold inW
 generalize plL x=l
 induction l generalizing W with
 | nil=>exact h
 | cons q l ih=>exact ih (adds_wd _ (dels_wd _ h))
theorem wd_zero:WdOk (fun _=>0):=fun _=>by show 0<_;decide
theorem foldD_wd (l:List (Nat × List Int × List Int)) {W:Nat→Nat} (h:WdOk W):WdOk (l.foldl stepD W):=by
 induction l generalizing W with
 | nil=>exact h
 | cons q l ih=>exact ih (adds_wd _ h)
theorem dfW_wd (x:Blk):WdOk (dfW x):=foldD_wd _ wd_zero
structure FlQ (p:FlP) (k:Nat) (d:FlD):Prop where
 wi:∀i (h:i<p.xs.length),i<k→d.WI i=inW p.xs[i] (p.WO i)
 wd:∀i (h:i<p.xs.length),d.WD i=if i<k then dfW p.xs[i] else fun _=>0
 mem:∀x,hasN d.Ws x=true→x∈d.Lf
 sn:∀i,i<k→hasN d.Ws i=true
 lt:∀x∈d.Lf,x<p.n
 wok:WdOk d.Ws
 len:d.Lf.length+unseen d.Ws p.n≤p.n
theorem flQ_start (p:FlP):FlQ p 0 ⟨fun _=>0,fun _=>0,fun _ _=>0,fun _ _=>0,fun _=>.slice none 0 0,fun _=>0,.slice none 0 0,[]⟩ :=
 ⟨fun i _ h=>absurd h (by omega),fun i _=>by simp,fun x h=>by simp [has_none] at h,fun i h=>absurd h (by omega),fun x h=>absurd h List.not_mem_nil,wd_zero,by simpa using unseen_le (fun _=>0) p.n⟩
theorem FlQ.next {p:FlP} {k:Nat} {d:FlD} (h:FlQ p k d) (hk:k<p.n) (ht:∀b,b<p.n→∀t∈tgN p.xs b,t<p.n) (gi ci:Nat→Nat) (nx:Nat→Value) (v:Value) {I' D':Nat→Nat} (hkx:k<p.xs.length) (hI:I'=inW p.xs[k] (p.WO k)) (hD:D'=dfW p.xs[k]) :
  FlQ p (k+1) ⟨gi,ci,updN d.WI k I',updN d.WD k D',nx,(dfsV (tgN p.xs) p.n k (d.Ws,d.Lf)).1,v,(dfsV (tgN p.xs) p.n k (d.Ws,d.Lf)).2⟩:=by
 refine ⟨fun i hi hik=>?_,fun i hi=>?_,fun x hx=>?_,fun i hi=>?_,?_,dfs_wd _ _ _ _ h.wok,Nat.le_trans (dfs_len _ _ ht _ _ _ hk) h.len⟩
 ·by_cases e:i=k
  ·subst e;simp only [updN_at];exact hI
  ·simp only [updN_ne _ _ _ e];exact h.wi i hi (by omega)
 ·by_cases e:i=k
  ·subst e;simp only [updN_at];rw [if_pos (by omega)];exact hD
  ·simp only [updN_ne _ _ _ e]
   rw [h.wd i hi]
   by_cases e2:i<k
   ·rw [if_pos e2,if_pos (by omega)]
   ·rw [if_neg e2,if_neg (by omega)]
 ·rcases left_of (tgN p.xs) p.n k (d.Ws,d.Lf) [] (fun y hy=>Or.inl (h.mem y hy)) x hx with h1 | h1
  ·exact h1
  ·cases h1
 ·by_cases e:i=k
  ·subst e;exact seen_after _ hk (unseen_le _ _)
  ·exact dfs_mono _ _ _ _ _ (h.sn i (by omega))
 ·exact left_lt _ ht _ _ _ hk h.lt
end Go.Proofs.YthgikffcdgpgiaaGreatDoor

namespace Go.Proofs.YthgikffcdgpgiaaGreatDoor
open Go.RowKit Go.Shelf
structure FlI (w4:World) (gB gD Kw CB:Nat) (W0:Nat→Nat) (pre:List Pl) (V:World):Prop where
 os:V.os=w4.os
 tape:V.tape=w4.tape
 output:V.output=w4.output
 size:w4.heap.size≤V.heap.size
 fr:∀q,q<w4.heap.size→q≠gB→q≠gD→V.heap[q]?=w4.heap[q]?
 ws:WsAt V gB Kw CB ((pre.map Pl.dat).foldl stepI W0)
 wd:WsAt V gD Kw Kw ((pre.map Pl.dat).foldl stepD (fun _=>0))
theorem FlI.own {w4:World} {gB gD Kw CB:Nat} {W0:Nat→Nat} (hB:gB<w4.heap.size) (hD:gD<w4.heap.size):OwnFrom w4.heap.size (FlI w4 gB gD Kw CB W0):=fun pre A V row h k q=>by
 have hz:=h.size
 have hbl:∀b,b<w4.heap.size→V.heap[b]?=A.heap[b]?:=fun b hb=>k.block b (by omega) (fun e=>by have:=(q b e.symm).1;omega)
 exact ⟨k.os.trans h.os,k.tape.trans h.tape,k.output.trans h.output,Nat.le_trans hz k.size,fun b h1 h2 h3=>(hbl b h1).trans (h.fr b h1 h2 h3),h.ws.of_block (hbl gB hB),h.wd.of_block (hbl gD hD)⟩
theorem FlI.below {w4:World} {gB gD Kw CB:Nat} {W0:Nat→Nat} (hB:gB<w4.heap.size) (hD:gD<w4.heap.size) {pre:List Pl} {V V':World} (h:FlI w4 gB gD Kw CB W0 pre V) (k:Below V.heap.size V V'):FlI w4 gB gD Kw CB W0 pre V':=ownFrom_none (FlI.own hB hD) h k
theorem foldI_wd (l:List (Nat × List Int × List Int)) {W:Nat→Nat} (h:WdOk W):WdOk (l.foldl stepI W):=by
 induction l generalizing W with
 | nil=>exact h
 | cons q l ih=>exact ih (adds_wd _ (dels_wd _ h))
theorem FlI.next {w4:World} {gB gD Kw CB:Nat} {W0:Nat→Nat} {pre:List Pl} {V V1 V2 V3:World} (h:FlI w4 gB gD Kw CB W0 pre V) (hB:gB<w4.heap.size) (hne:gB≠gD) {p:Pl}
  (k1:V.grownBy V1 (some gB)) (k2:V1.grownBy V2 (some gB)) (k3:V2.grownBy V3 (some gD)) (hw:WsAt V2 gB Kw CB (stepI ((pre.map Pl.dat).foldl stepI W0) p.dat)) (hd:WsAt V3 gD Kw Kw (stepD ((pre.map Pl.dat).foldl stepD (fun _=>0)) p.dat)):FlI w4 gB gD Kw CB W0 (pre++[p]) V3:=by
 have hz:=h.size
 have z1:=k1.size
 have z2:=k2.size
 have z3:=k3.size
 refine ⟨k3.os.trans (k2.os.trans (k1.os.trans h.os)),k3.tape.trans (k2.tape.trans (k1.tape.trans h.tape)),k3.output.trans (k2.output.trans (k1.output.trans h.output)),by omega,fun q q1 q2 q3=>?_,?_,?_⟩
 ·exact (k3.block q (by omega) (fun e=>q3 (by injection e))).trans ((k2.block q (by omega) (fun e=>q2 (by injection e))).trans ((k1.block q (by omega) (fun e=>q2 (by injection e))).trans (h.fr q q1 q2 q3)))
 ·rw [List.map_append,List.foldl_append]
  exact hw.of_block (k3.block gB (by omega) (fun e=>hne (by injection e)))
 ·rw [List.map_append,List.foldl_append]
  exact hd
theorem intsAt_own {A V:World} {row:Option Nat} {n₀ B:Nat} {a:Option Addr} {xs:List Int} (h:IntsAt A n₀ A.heap.size a xs) (k:A.grownBy V row) (q:∀r,row=some r→B≤r∧∃o:Obj,A.heap[r]?=some o∧o.isCells=false):IntsAt V n₀ V.heap.size a xs:=fun i hi=>by
 obtain ⟨b,o,e,hb,hc⟩:=h i hi
 refine ⟨b,o,e,⟨hb.1,Nat.lt_of_lt_of_le hb.2 k.size⟩,(cell_of (k.block b hb.2 (fun e2=>?_))).trans hc⟩
 obtain ⟨ob,h1,h2⟩:=cells_of_cell hc
 obtain ⟨_,o2,h3,h4⟩:=q b e2.symm
 rw [show A.heap[b]?=some ob from h1] at h3
 injection h3 with h3
 subst h3
 rw [h2] at h4
 cases h4
theorem plPx_own (n n₀:Nat) (Pd:Nat × List Int × List Int→Prop):OwnFrom n (plPx n₀ Pd):=fun _ _ _ _ h k q=>⟨h.1,intsAt_own h.2.1 k q,intsAt_own h.2.2 k q⟩
theorem plPx_below {n₀:Nat} {Pd:Nat × List Int × List Int→Prop} {p:Pl} {V V':World} (h:plPx n₀ Pd p V) (k:Below V.heap.size V V'):plPx n₀ Pd p V':=ownFrom_none (plPx_own 0 n₀ Pd) h k
theorem intsAt_grown {A V:World} {g n₀:Nat} {a:Option Addr} {xs:List Int} (h:IntsAt A n₀ A.heap.size a xs) (k:A.grownBy V (some g)) (hg:g<n₀):IntsAt V n₀ V.heap.size a xs:=fun i hi=>by
 obtain ⟨b,o,e,hb,hc⟩:=h i hi
 exact ⟨b,o,e,⟨hb.1,Nat.lt_of_lt_of_le hb.2 k.size⟩,(cell_of (k.block b hb.2 (fun e2=>by injection e2 with e2;omega))).trans hc⟩
structure PBx (n₀ bp:Nat) (p:Pl) (V:World):Prop where
 ge:n₀≤bp
 c0:V.cell? ⟨bp,0,none⟩=some (.slice p.ua p.us.length p.uc)
 c1:V.cell? ⟨bp,1,none⟩=some (.slice p.da p.ds.length p.dc)
theorem PBx.own {n n₀ bp:Nat} {p:Pl}:OwnFrom n (fun (_:Unit) V=>PBx n₀ bp p V):=fun _ A V row h k q=>by
 have hbl:V.heap[bp]?=A.heap[bp]?:=by
  obtain ⟨o,h1,h2⟩:=cells_of_cell h.c0
  refine k.block bp (Array.getElem?_eq_some_iff.1 h1).1 (fun e=>?_)
  obtain ⟨_,o2,h3,h4⟩:=q bp e.symm
  rw [show A.heap[bp]?=some o from h1] at h3
  injection h3 with h3
  subst h3
  rw [h2] at h4
  cases h4
 exact ⟨h.ge,(cell_of hbl).trans h.c0,(cell_of hbl).trans h.c1⟩
theorem kpB_grown {n₀:Nat} {Ms:Nat→Prop} {V V':World} {g:Nat} (k:V.grownBy V' (some g)) (hg:Ms g) (hn:n₀≤V.heap.size):KpB n₀ Ms V V' :=
 ⟨k.size,fun i hi hm=>k.block i (by omega) (fun e=>hm (by injection e with e;rw [e];exact hg)),fun i o hm h1 _=>(k.block i (Array.getElem?_eq_some_iff.1 h1).1 (fun e=>hm (by injection e with e;rw [e];exact hg))).trans h1⟩
theorem keeps_row {V V':World} {g:Nat} (k:V.grownBy V' (some g)) (hg:∃o:Obj,V.heap[g]?=some o∧o.isCells=true):KeepsOthers V V' :=
 KeepsOthers.of_grownBy k (fun j o e h=>by
  obtain ⟨o2,h1,h2⟩:=hg
  injection e with e
  subst e
  rw [h1] at h
  injection h with h
  rw [←h];exact h2)
theorem WsAt.obj {w:World} {g K C:Nat} {W:Nat→Nat} (h:WsAt w g K C W):∃o:Obj,w.heap[g]?=some o∧o.isCells=true:=by
 obtain ⟨_,T,c,h1,_⟩:=h
 exact ⟨_,h1,rfl⟩
theorem mks_next' {wr W:World} {B D:Nat} {ds:List Nat} (h:MksAt wr B ds) (hB:B≤wr.heap.size) (hD:wr.heap.size≤D) (hK:W.heap[D]?=some (.deferred (some []))) (hb:∀k,B≤k→wr.heap[k]?=some (.deferred (some []))→W.heap[k]?=wr.heap[k]?):MksAt W B (D::ds):=by
 have hl:∀k∈ds,k<wr.heap.size:=fun k hk=>(Array.getElem?_eq_some_iff.1 (h.obj k hk)).1
 refine ⟨List.nodup_cons.2 ⟨fun k=>by have:=hl D k;omega,h.nd⟩,fun k hk=>?_,fun k hk=>?_⟩
 ·rcases List.mem_cons.1 hk with rfl | hk
  ·omega
  ·exact h.ge k hk
 ·rcases List.mem_cons.1 hk with rfl | hk
  ·exact hK
  ·exact (hb k (h.ge k hk) (h.obj k hk)).trans (h.obj k hk)
def PdV (V:Nat) (q:Nat × List Int × List Int):Prop:=(∀v∈q.2.1,0≤v∧v<V)∧(∀v∈q.2.2,0≤v∧v<V)∧q.2.1.length≤4000∧q.2.2.length≤4000
theorem pdV_all {V:Nat} {xs:List Blk} (ho:OkL V xs) {x:Blk} (hx:x∈xs):∀q∈plL x,PdV V q:=fun q hq=>by
 unfold plL at hq
 have hT:(rdT x.term).length≤1:=by unfold rdT;split<;>simp
 rcases List.mem_cons.1 hq with rfl | hq
 ·exact ⟨ho.rdt x hx,fun v hv=>absurd hv List.not_mem_nil,by show (rdT x.term).length≤_;omega,by simp⟩
 ·rcases List.mem_append.1 hq with hq | hq
  ·obtain ⟨j,_,rfl⟩:=List.mem_map.1 hq
   have h1:=rdI_le x.instrs[j]
   have h2:(writesI x.instrs[j]).length≤1:=by unfold writesI;split<;>simp
   exact ⟨ho.rdi x hx _ (List.getElem_mem _),ho.wri x hx _ (List.getElem_mem _),by show (rdI x.instrs[j]).length≤_;omega,by show (writesI x.instrs[j]).length≤_;omega⟩
  ·rw [List.mem_singleton.1 hq]
   refine ⟨fun v hv=>absurd hv List.not_mem_nil,fun v hv=>?_,by simp,?_⟩
   ·obtain ⟨p,hp,rfl⟩:=List.mem_map.1 hv
    exact ho.phd x hx p hp
   ·show (x.phis.map Ph.dst).length≤_
    rw [List.length_map]
    exact (ho.lens x hx).2
structure FlR (w w':World) (n Kw:Nat) (xs:List Blk) (Gi Go:Nat) (gi go ci:Nat→Nat) (WI WX:Nat→Nat→Nat):Prop where
 low:Below w.heap.size w w'
 si:SetsAv w' Gi n Kw gi ci WI
 so:SetsAv w' Go n Kw go (fun _=>Kw) WX
 wi:AllWd WI
 wx:AllWd WX
 b1:w.heap.size≤Gi∧w.heap.size≤Go
 b2:∀i,i<n→w.heap.size≤gi i∧w.heap.size≤go i
 inn:∃(I T W0:Nat→Nat→Nat) (ord:List Nat),(∀i (h:i<xs.length),I i=inW xs[i] (W0 i))∧(∀i (h:i<xs.length),T i=dfW xs[i])∧(∀b,b<xs.length→∀v,hasN (W0 b) v=true↔(b,v)∈phE xs xs.length)∧(∀b,b<xs.length→b∈ord)∧(∀b,b<n→∀x,x<64*Kw→(hasN (WI b) x=true↔Sp I T (·∈ord) (tgN xs) b x))∧∀b,b<n→∀x,(hasN (WX b) x=true↔hasN (W0 b) x=true∨∃t∈tgN xs b,hasN (WI t) x=true)
end Go.Proofs.YthgikffcdgpgiaaGreatDoor

namespace Go.Proofs.YthgikffcdgpgiaaGreatDoor
open Go.RowKit Go.Shelf
theorem own_block {w w':World} {base e s:Nat} {v:Value} {n:Nat} {xs:List Value} (h:w.ownsRow base e s v n xs) (hb:∀g,v.ownBlock=some g→w'.heap[g]?=w.heap[g]?):w'.ownsRow base e s v n xs:=by
 obtain ⟨hl,h | ⟨g,cap,cur,rfl,hg,hh,hc,h1,hs,ht⟩⟩:=h
 ·exact ⟨hl,Or.inl h⟩
 ·exact ⟨hl,Or.inr ⟨g,cap,cur,rfl,hg,(hb g rfl).trans hh,hc,h1,hs,ht⟩⟩
theorem own_cells {w:World} {base e s:Nat} {v:Value} {n:Nat} {xs:List Value} (h:w.ownsRow base e s v n xs) {g:Nat} (hv:v.ownBlock=some g):∃o:Obj,w.heap[g]?=some o∧o.isCells=true:=by
 obtain ⟨_,h | ⟨g2,cap,cur,rfl,_,hh,_⟩⟩:=h
 ·rw [h.1] at hv;cases hv
 ·have e:g2=g:=by simpa [Value.ownBlock] using hv
  subst e
  exact ⟨_,hh,rfl⟩
theorem SeaAt.same {w w':World} {bS gS BL K:Nat} {ab:Option Addr} {nb cb:Nat} {W:Nat→Nat} {v:Value} {L:List Nat} (h:SeaAt w bS gS BL K ab nb cb W v L) (hb:w'.heap[bS]?=w.heap[bS]?) (hg:w'.heap[gS]?=w.heap[gS]?) (ho:∀g,v.ownBlock=some g→w'.heap[g]?=w.heap[g]?) (hz:w.heap.size≤w'.heap.size):SeaAt w' bS gS BL K ab nb cb W v L:=by
 have ce:∀q,w'.cell? ⟨bS,q,none⟩=w.cell? ⟨bS,q,none⟩:=fun q=>World.cell?_of_block hb
 exact ⟨(ce 0).trans h.c0,(ce 1).trans h.c1,(ce 2).trans h.c2,fun q=>(World.frozen?_of_block hb).trans (h.thaw q),h.row.of_block hg,own_block h.own ho,h.lb,h.lg,h.ne,Nat.le_trans h.sz hz⟩
section
variable {p : FlP} {wr w4 W w5 : World} {k : Nat} {d : FlD} {gB CB : Nat} {ps : List Pl} {u5 : Value}
theorem round_fr (hF4:∀q,q<wr.heap.size→q≠p.Gi→w4.heap[q]?=wr.heap[q]?) (hz4:wr.heap.size≤w4.heap.size) (hgB:wr.heap.size≤gB) (hI:FlI w4 gB (p.gd k) p.Kw CB (p.WO k) ps W) (hb5:Below W.heap.size W w5) :
  ∀q,q<wr.heap.size→q≠p.Gi→q≠p.gd k→q≠p.Gn→(w5.setCell ⟨p.Gn,k,none⟩ u5).heap[q]?=wr.heap[q]?:=fun q h1 h2 h3 h4=>by
 have:=hI.size
 exact (Below.heap_setCell _ _ _ _ h4).trans ((hb5.block q (by omega)).trans ((hI.fr q (by omega) (by omega) h3).trans (hF4 q h1 h2)))
theorem round_sea (h:FlK p wr k d) (s:FlS p) (hk:k<p.n) (hF4:∀q,q<wr.heap.size→q≠p.Gi→w4.heap[q]?=wr.heap[q]?) (hz4:wr.heap.size≤w4.heap.size) (hgB:wr.heap.size≤gB) (hI:FlI w4 gB (p.gd k) p.Kw CB (p.WO k) ps W) (hb5:Below W.heap.size W w5) :
  SeaAt (w5.setCell ⟨p.Gn,k,none⟩ u5) p.bS p.gS p.M p.K2 p.a p.n p.c d.Ws d.vS d.Lf:=by
 have hz:=h.sz
 have fr:=round_fr (u5:=u5) hF4 hz4 hgB hI hb5
 have a1:=s.a1
 have a5:=s.a5
 have a6:=s.a6 k hk
 have a8:=s.a8
 have a9:=s.a9
 have a10:=s.a10
 have hz1:=hI.size
 have hz5:=hb5.size
 refine h.sea.same (fr _ (by omega) (by omega) (by omega) (by omega)) (fr _ (by omega) (by omega) (by omega) (by omega)) (fun g e=>?_) (by rw [size_setCell];omega)
 have:=h.sea.own.lt g e
 exact fr g (by omega) (by omega) (by omega) (by omega)
theorem FlK.round {w7:World} {X:Blk} {D:Nat} {ds:List Nat} {a5:Option Addr} {c5:Nat} {v':Value} (h:FlK p wr k d) (s:FlS p) (hq:FlQ p k d) (hm:MksAt wr p.M ds) (hk:k<p.n) (hkx:k<p.xs.length) (ht:∀b,b<p.n→∀t∈tgN p.xs b,t<p.n)
  (hF4:∀q,q<wr.heap.size→q≠p.Gi→w4.heap[q]?=wr.heap[q]?) (hE4:w4.os=wr.os∧w4.tape=wr.tape∧w4.output=wr.output) (hz4:wr.heap.size≤w4.heap.size) (hgB:wr.heap.size≤gB) (hgB4:gB<w4.heap.size)
  (hGi:w4.rowIs p.Gi 75 p.n (fun i=>if i=k then .slice (some ⟨gB,0,none⟩) p.Kw CB else if i<k then .slice (some ⟨d.gi i,0,none⟩) p.Kw (d.ci i) else .slice none 0 0))
  (hI:FlI w4 gB (p.gd k) p.Kw CB (p.WO k) ps W) (hS:ps.map Pl.dat=plL X) (hX:X=p.xs[k]) (hD:w4.heap.size≤D) (hKD:W.heap[D]?=some (.deferred (some [])))
  (hb5:Below W.heap.size W w5) (hi5:IntsAt w5 W.heap.size w5.heap.size a5 X.term.targets)
  (hf:FrV (w5.setCell ⟨p.Gn,k,none⟩ (.slice a5 X.term.targets.length c5)) w7 p.bS p.gS d.vS v') (hs:SeaAt w7 p.bS p.gS p.M p.K2 p.a p.n p.c (dfsV (tgN p.xs) p.n k (d.Ws,d.Lf)).1 v' (dfsV (tgN p.xs) p.n k (d.Ws,d.Lf)).2) :
  ∃d',FlK p w7 (k+1) d'∧FlQ p (k+1) d'∧MksAt w7 p.M (D::ds):=by
 have hz:=h.sz
 have fr:=round_fr (u5:=.slice a5 X.term.targets.length c5) hF4 hz4 hgB hI hb5
 have a1:=s.a1
 have a5':=s.a5
 have a6:=s.a6 k hk
 have a8:=s.a8
 have a9:=s.a9
 have a10:=s.a10
 have hz1:=hI.size
 have hz5:=hb5.size
 have hz6:=hf.size
 rw [size_setCell] at hz6
 have hvl:∀g,d.vS.ownBlock=some g→p.M≤g∧g<wr.heap.size:=fun g e=>h.sea.own.lt g e
 have hvo:∀g,v'.ownBlock=some g→d.vS.ownBlock=some g∨w5.heap.size≤g:=fun g e=>by
  rcases hf.own with q | q
  ·exact Or.inl (by rw [←q];exact e)
  ·have:=q g e;rw [size_setCell] at this;exact Or.inr this
 have hDl:D<W.heap.size:=(Array.getElem?_eq_some_iff.1 hKD).1
 -- blocks that are new,or were there and were not touched
 have up:∀q,wr.heap.size≤q→q<w5.heap.size→w7.heap[q]?=w5.heap[q]?:=fun q h1 h2=>(hf.block q (by rw [size_setCell];exact h2) (by omega) (by omega) (fun e=>by have:=hvl q e.symm;omega)).trans (Below.heap_setCell _ _ _ _ (by show q≠p.Gn;omega))
 have lo:∀q,q<wr.heap.size→q≠p.Gn→q≠p.bS→q≠p.gS→some q≠d.vS.ownBlock→w7.heap[q]?=W.heap[q]?:=fun q h1 h2 h3 h4 h5=>(hf.block q (by rw [size_setCell];omega) h3 h4 h5).trans ((Below.heap_setCell _ _ _ _ h2).trans (hb5.block q (by omega)))
 have hown:∀q,q<p.M→some q≠d.vS.ownBlock:=fun q hq e=>by have:=hvl q e.symm;omega
 have hfr:∀q,q<wr.heap.size→q≠p.Gi→q≠p.gd k→q≠p.Gn→q≠p.bS→q≠p.gS→some q≠d.vS.ownBlock→w7.heap[q]?=wr.heap[q]?:=fun q h1 h2 h3 h4 h5 h6 h7=>(hf.block q (by rw [size_setCell];omega) h5 h6 h7).trans (fr q h1 h2 h3 h4)
 have hwI:(ps.map Pl.dat).foldl stepI (p.WO k)=inW p.xs[k] (p.WO k):=by rw [hS,←hX];rfl
 have hwD:(ps.map Pl.dat).foldl stepD (fun _=>0)=dfW p.xs[k]:=by rw [hS,←hX];rfl
 have hIw:WsAt w7 gB p.Kw CB (inW p.xs[k] (p.WO k)):=by
  rw [←hwI]
  exact hI.ws.of_block ((up gB hgB (by omega)).trans (hb5.block gB (by omega)))
 have hDw:WsAt w7 (p.gd k) p.Kw p.Kw (dfW p.xs[k]):=by
  rw [←hwD]
  exact hI.wd.of_block (lo _ (by omega) (by omega) (by omega) (by omega) (hown _ (by omega)))
 have hGi7:=(hGi.of_block (hI.fr p.Gi (by omega) (by omega) (by omega))).of_block (lo p.Gi (by omega) (by omega) (by omega) (by omega) (hown _ (by omega)))
 have hGn5:w5.rowIs p.Gn 26 p.n (fun i=>if i<k then d.nx i else .slice none 0 0):=by
  refine ((h.nxr.of_block (hF4 p.Gn (by omega) (by omega))).of_block (hI.fr p.Gn (by omega) (by omega) (by omega))).of_block (hb5.block p.Gn (by omega))
 have hGn7:=(hGn5.set k (.slice a5 X.term.targets.length c5)).of_block (hf.block p.Gn (by rw [size_setCell];omega) (by omega) (by omega) (hown _ (by omega)))
 have htg:tgI p.xs k=X.term.targets:=by rw [tgI_at hkx,hX]
 refine ⟨_,h.next s hk (gB:=gB) (CB:=CB) (I':=inW p.xs[k] (p.WO k)) (D':=dfW p.xs[k]) (nk:=.slice a5 X.term.targets.length c5) (v':=v') (Ws':=(dfsV (tgN p.xs) p.n k (d.Ws,d.Lf)).1) (Lf':=(dfsV (tgN p.xs) p.n k (d.Ws,d.Lf)).2) (hf.os.trans (hb5.os.trans (hI.os.trans hE4.1))) (hf.tape.trans (hb5.tape.trans (hI.tape.trans hE4.2.1))) (hf.output.trans (hb5.output.trans (hI.output.trans hE4.2.2))) (by omega) hfr hgB hIw hGi7 hDw hGn7 ⟨a5,c5,by rw [htg],?_⟩ hs ?_ ?_,hq.next hk ht _ _ _ _ hkx rfl rfl,mks_next' hm hz (by omega) ?_ ?_⟩
 ·rw [htg]
  intro i hi
  obtain ⟨b,o,e,hb,hc⟩:=hi5 i hi
  refine ⟨b,o,e,⟨⟨by omega,by omega,fun e2=>?_⟩,by omega⟩,(cell_of (up b (by omega) hb.2)).trans hc⟩
  rcases hvo b e2.symm with q | q
  ·have:=hvl b q;omega
  ·omega
 ·rcases hf.own with q | q
  ·exact Or.inl q
  ·exact Or.inr (fun g e=>by have:=q g e;rw [size_setCell] at this;omega)
 ·intro e
  rcases hvo gB e.symm with q | q
  ·have:=hvl gB q;omega
  ·omega
 ·exact (up D (by omega) (by omega)).trans ((hb5.block D hDl).trans hKD)
 ·intro q h1 h2
  have hql:q<wr.heap.size:=(Array.getElem?_eq_some_iff.1 h2).1
  refine hfr q hql (by omega) (by omega) (by omega) (by omega) (by omega) (fun e=>?_)
  obtain ⟨o,h3,h4⟩:=own_cells h.sea.own e.symm
  rw [h2] at h3
  injection h3 with h3
  rw [←h3] at h4
  cases h4
end
end Go.Proofs.YthgikffcdgpgiaaGreatDoor

namespace Go.Proofs.YthgikffcdgpgiaaGreatDoor
open Go.RowKit Go.Shelf
def I0 (xs:List Blk) (WO:Nat→Nat→Nat) (i:Nat):Nat→Nat:=(xs[i]?).elim (fun _=>0) fun x=>inW x (WO i)
def T0 (xs:List Blk) (i:Nat):Nat→Nat:=(xs[i]?).elim (fun _=>0) dfW
theorem I0_at {xs:List Blk} {WO:Nat→Nat→Nat} {i:Nat} (h:i<xs.length):I0 xs WO i=inW xs[i] (WO i):=by simp [I0,h]
theorem T0_at {xs:List Blk} {i:Nat} (h:i<xs.length):T0 xs i=dfW xs[i]:=by simp [T0,h]
theorem I0_wd {xs:List Blk} {WO:Nat→Nat→Nat} (h:AllWd WO):AllWd (I0 xs WO):=fun i=>by
 unfold I0
 cases xs[i]? with
 | none=>exact wd_zero
 | some x=>exact inW_wd x (h i)
theorem T0_wd {xs:List Blk}:AllWd (T0 xs):=fun i=>by
 unfold T0
 cases xs[i]? with
 | none=>exact wd_zero
 | some x=>exact dfW_wd x
theorem SetsAv.congr {w:World} {G n K:Nat} {gs cp:Nat→Nat} {Ws Ws':Nat→Nat→Nat} (h:SetsAv w G n K gs cp Ws) (e:∀i,i<n→Ws i=Ws' i):SetsAv w G n K gs cp Ws' :=
 ⟨h.row,fun i hi=>by rw [←e i hi];exact h.set i hi,h.inj,h.out⟩
def srcT (xs:List Blk):List (List Nat):=(List.range xs.length).map (tgN xs)
theorem srcT_get (xs:List Blk):(fun b=>(srcT xs).getD b [])=tgN xs:=by
 funext b
 unfold srcT
 by_cases h:b<xs.length
 ·simp [h]
 ·simp only [List.getD_eq_getElem?_getD,List.getElem?_map]
  rw [List.getElem?_eq_none (by simp;omega)]
  unfold tgN
  rw [List.getElem?_eq_none (by omega)]
  rfl
theorem natI_tg {xs:List Blk} (ho:OkF xs) {i:Nat} (h:i<xs.length):natI (tgN xs i)=tgI xs i:=by
 rw [tgN_at h,tgI_at h]
 exact natI_natL (fun v hv=>(ho.tgt _ (List.getElem_mem h) v hv).1)
structure Fl2 (p:FlP) (gi ci:Nat→Nat) (nx:Nat→Value) (ds:List Nat) (W:World) (WI:Nat→Nat→Nat):Prop where
 low:Below p.w.heap.size p.w W
 sz:p.M≤W.heap.size
 f0:W.cell? ⟨p.w.heap.size,0,none⟩=some (.int .i64 (p.V:Int))
 r0:W.cell? ⟨p.w.heap.size+1,0,none⟩=some (.slice none 0 0)
 r1:W.cell? ⟨p.w.heap.size+1,1,none⟩=some (.slice none 0 0)
 rz:∀q,W.frozen? ⟨p.w.heap.size+1,q,none⟩=false
 l0:W.cell? ⟨p.LB,0,none⟩=some (.slice (some ⟨p.Gi,0,none⟩) p.n p.n)
 l1:W.cell? ⟨p.LB,1,none⟩=some (.slice (some ⟨p.Go,0,none⟩) p.n p.n)
 out:SetsAv W p.Go p.n p.Kw p.go (fun _=>p.Kw) p.WO
 inn:SetsAv W p.Gi p.n p.Kw gi ci WI
 igM:∀i,i<p.n→p.M≤gi i
 nxr:W.rowIs p.Gn 26 p.n nx
 nxs:∀i,i<p.n→∃a' c',nx i=.slice a' (tgI p.xs i).length c'∧IntsP W (fun b=>p.M≤b) a' (tgI p.xs i)
 mks:MksAt W p.M ds
 wi:AllWd WI
 ord:∃ord:List Nat,(∀b,b<p.n→b∈ord)∧∀b,b<p.n→∀x,x<64*p.Kw→(hasN (WI b) x=true↔Sp (I0 p.xs p.WO) (T0 p.xs) (·∈ord) (tgN p.xs) b x)
theorem FlK.spread {p:FlP} {W:World} {d:FlD} {ds:List Nat} (h:FlK p W p.n d) (s:FlS p) (q:FlQ p p.n d) (hm:MksAt W p.M ds) (ho:OkL p.V p.xs) (hn:p.n=p.xs.length) (hwo:AllWd p.WO) (hKw:p.Kw≤100) :
  ∃g C,d.vS=.slice (some ⟨g,0,none⟩) d.Lf.length C∧Calls Tryz.prog 100 #[.slice (some ⟨g,0,none⟩) d.Lf.length C,.slice (some ⟨p.Gn,0,none⟩) p.n p.n,.slice (some ⟨p.Gi,0,none⟩) p.n p.n,.slice (some ⟨p.Gd,0,none⟩) p.n p.n] W.drew fun e w'=>e=.returned (.tuple #[])∧(∃WI,Fl2 p d.gi d.ci d.nx ds w' WI)∧(∀b,b<W.heap.size→b<p.M→w'.heap[b]?=W.heap[b]?):=by
 have hz:=h.sz
 have hn1:1≤p.n:=by have:=ho.okf.n1;omega
 have hn2:p.n≤1000:=by have:=ho.okf.n2;omega
 have hL0:0<d.Lf.length:=List.length_pos_of_mem (q.mem 0 (q.sn 0 (by omega)))
 have hLn:d.Lf.length≤1000:=by have:=q.len;omega
 obtain ⟨g,C,hv,hg,_⟩:=own_some' h.sea.own hL0
 refine ⟨g,C,hv,?_⟩
 have hown:=h.sea.own
 rw [hv,show natV d.Lf=(natI d.Lf).map (Value.int .i64) by simp [natV,natI]] at hown
 obtain ⟨a1,c1,e1,hi1⟩:=ints_owned hown
 injection e1 with e1 e2 e3
 subst e1
 have a1':=s.a1
 have a5':=s.a5
 have a8':=s.a8
 have a9':=s.a9
 have HI:SetsAv W p.Gi p.n p.Kw d.gi d.ci (I0 p.xs p.WO):=⟨h.inr.congr (fun i hi=>by rw [if_pos hi]),fun i hi=>by rw [I0_at (by omega),←q.wi i (by omega) hi];exact h.ins i hi,h.inj,fun i hi e=>by have:=h.igM i hi;omega⟩
 have HT:SetsAv W p.Gd p.n p.Kw p.gd (fun _=>p.Kw) (T0 p.xs):=h.defs.congr (fun i hi=>by rw [T0_at (by omega),q.wd i (by omega),if_pos hi])
 have hrow:∀i,i<p.n→W.cell? ⟨p.Gn,0+i,none⟩=some (d.nx i):=fun i hi=>by
  rw [Nat.zero_add]
  exact (h.nxr.cell hi).trans (by rw [if_pos hi])
 have hsrc:RowsP W (fun k=>∀i,i<p.n→k≠d.gi i) (some ⟨p.Gn,0,none⟩) ((srcT p.xs).map natI):=fun i hi=>by
  have hi':i<p.xs.length:=by simpa [srcT] using hi
  have hin:i<p.n:=by omega
  obtain ⟨a',c',e,hp⟩:=h.nxs i hin
  have eg:((srcT p.xs).map natI)[i]=tgI p.xs i:=by
   simp only [List.getElem_map,srcT,List.getElem_range]
   exact natI_tg ho.okf hi'
  refine ⟨p.Gn,0,rfl,⟨fun j hj e=>by have:=h.igM j hj;omega,h.nxr.lt⟩,a',c',?_,?_⟩
  ·rw [eg,hrow i hin,e]
  ·rw [eg]
   intro j hj
   obtain ⟨b,o,e2,hb,hc⟩:=hp j hj
   exact ⟨b,o,e2,⟨hb.1.2.1,hb.2⟩,hc⟩
 refine (spread_valueNo g 0 d.Lf.length C d.Lf p.M W.heap.size (some ⟨p.Gn,0,none⟩) p.n p.n (srcT p.xs) p.Gi p.Gd p.n p.Kw d.gi p.gd d.ci (fun _=>p.Kw) (I0 p.xs p.WO) (T0 p.xs) W.drew (hide hi1) (hide rfl) hLn hL0 (hide hsrc) (hide (by simp [srcT];exact hn)) (hide (by simp [srcT];exact hn.symm)) hKw (Nat.le_refl _) (hide ⟨HI.row,fun i hi=>(HI.set i hi).drew,HI.inj,HI.out⟩) (hide ⟨HT.row,fun i hi=>(HT.set i hi).drew,HT.inj,HT.out⟩) (hide (I0_wd hwo)) (hide T0_wd) (hide (fun i hi=>by have:=h.igM i hi;omega)) (hide (fun i j hi hj=>by have:=h.igM j hj;have:=s.a6 i hi;omega)) (hide q.lt) (hide (fun l hl=>?_))).mono ?_
 ·obtain ⟨i,hi,rfl⟩:=List.mem_map.1 hl
  have hi':=List.mem_range.1 hi
  refine ⟨?_,fun t ht=>by have:=ho.okf.tg i hi' t ht;omega⟩
  rw [tgN_at hi',List.length_map]
  have:=tg_two p.xs[i].term
  omega
 ·rintro e w' ⟨rfl,hf,Ws,hwd,hset,hiff⟩
  have hf':FrS W w' p.n d.gi:=⟨hf.os,hf.tape,hf.output,hf.size,hf.block⟩
  have lo:∀b,b<p.M→w'.heap[b]?=W.heap[b]?:=fun b hb=>hf'.block b (by omega) (fun i hi e=>by have:=h.igM i hi;omega)
  have hw:=h.low.size
  have a2':=s.a2
  have a3':=s.a3
  refine ⟨rfl,⟨Ws,⟨⟨hf'.os.trans h.low.os,hf'.tape.trans h.low.tape,hf'.output.trans h.low.output,Nat.le_trans hw hf'.size,fun b hb=>(lo b (by omega)).trans (h.low.block b hb)⟩,Nat.le_trans hz hf'.size,(cell_of (lo _ (by omega))).trans h.f0,(cell_of (lo _ (by omega))).trans h.r0,(cell_of (lo _ (by omega))).trans h.r1,fun o=>by rw [World.frozen?_of_block (a:=⟨p.w.heap.size+1,o,none⟩) (lo (p.w.heap.size+1) (by omega))];exact h.rz o,(cell_of (lo _ (by omega))).trans h.l0,(cell_of (lo _ (by omega))).trans h.l1,⟨h.out.row.of_block (lo _ (by omega)),fun i hi=>(h.out.set i hi).of_block (lo _ (by have:=s.a4 i hi;omega)),h.out.inj,h.out.out⟩,hset,h.igM,(h.nxr.of_block (lo _ (by omega))).congr (fun i hi=>by rw [if_pos hi]),fun i hi=>?_,⟨hm.nd,hm.ge,fun D hD=>?_⟩,hwd,d.Lf,fun b hb=>q.mem b (q.sn b hb),fun b hb x hx=>?_⟩⟩,fun b h1 h2=>lo b h2⟩
  ·obtain ⟨a',c',e,hp⟩:=h.nxs i hi
   refine ⟨a',c',e,fun j hj=>?_⟩
   obtain ⟨b,o,e2,hb,hc⟩:=hp j hj
   exact ⟨b,o,e2,⟨hb.1.1,Nat.lt_of_lt_of_le hb.2 hf'.size⟩,(cell_of (hf'.block b hb.2 hb.1.2.1)).trans hc⟩
  ·have hD':=hm.obj D hD
   refine (hf'.block D (Array.getElem?_eq_some_iff.1 hD').1 (fun i hi e=>?_)).trans hD'
   obtain ⟨o,h3,h4⟩:=(h.ins i hi).obj
   rw [←e,hD'] at h3
   injection h3 with h3
   rw [←h3] at h4
   cases h4
  ·rw [←srcT_get]
   exact hiff b hb x hx
def outW (WI:Nat→Nat→Nat) (l:List Nat) (W:Nat→Nat):Nat→Nat:=l.foldl (fun W t=>butN W (WI t) (fun _=>0)) W
theorem outW_wd {WI:Nat→Nat→Nat} (h:AllWd WI):∀(l:List Nat) {W:Nat→Nat},WdOk W→WdOk (outW WI l W)
 | [],_,hW=>hW
 | t::l,_,hW=>outW_wd h l (but_wd hW (h t))
theorem outW_has {WI:Nat→Nat→Nat} (h:AllWd WI) (x:Nat):∀(l:List Nat) {W:Nat→Nat},WdOk W→(hasN (outW WI l W) x=true↔hasN W x=true∨∃t∈l,hasN (WI t) x=true)
 | [],W,_=>by simp [outW]
 | t::l,W,hW=>by
  show hasN (outW WI l (butN W (WI t) (fun _=>0))) x=true↔_
  rw [outW_has h x l (but_wd hW (h t)),has_but hW wd_zero,has_none]
  simp only [Bool.not_false,Bool.and_true,Bool.or_eq_true,List.mem_cons,exists_eq_or_imp,or_assoc]
theorem outW_take {WI:Nat→Nat→Nat} {l:List Nat} {j:Nat} (h:j<l.length) (W:Nat→Nat):outW WI (l.take (j+1)) W=butN (outW WI (l.take j) W) (WI l[j]) (fun _=>0):=by
 unfold outW
 rw [List.take_succ_eq_append_getElem h,List.foldl_append]
 rfl
def outX (xs:List Blk) (WI WO:Nat→Nat→Nat) (b j:Nat):Nat→Nat→Nat:=fun i=>if i<b then outW WI (tgN xs i) (WO i) else if i=b then outW WI ((tgN xs i).take j) (WO i) else WO i
theorem outX_wd {xs:List Blk} {WI WO:Nat→Nat→Nat} (h:AllWd WI) (hO:AllWd WO) (b j:Nat):AllWd (outX xs WI WO b j):=fun i=>by
 unfold outX
 split
 ·exact outW_wd h _ (hO i)
 ·split
  ·exact outW_wd h _ (hO i)
  ·exact hO i
structure Fl3 (p:FlP) (gi ci:Nat→Nat) (ds:List Nat) (WI:Nat→Nat→Nat) (W2:World) (gN:Nat) (wr:World) (b j:Nat):Prop where
 os:wr.os=W2.os
 tape:wr.tape=W2.tape
 output:wr.output=W2.output
 size:W2.heap.size≤wr.heap.size
 fr:∀q,q<W2.heap.size→(∀i,i<p.n→q≠p.go i)→wr.heap[q]?=W2.heap[q]?
 out:SetsAv wr p.Go p.n p.Kw p.go (fun _=>p.Kw) (outX p.xs WI p.WO b j)
theorem Fl3.start {p:FlP} {gi ci:Nat→Nat} {nx:Nat→Value} {ds:List Nat} {WI:Nat→Nat→Nat} {W W2:World} {gN:Nat} (h:Fl2 p gi ci nx ds W WI) (k:Below W.heap.size W W2):Fl3 p gi ci ds WI W2 gN W2 0 0 :=
 ⟨rfl,rfl,rfl,Nat.le_refl _,fun _ _ _=>rfl,(h.out.keep k).congr (fun i _=>by unfold outX;by_cases e:i=0<;>simp [e,outW])⟩
theorem Fl3.row {p:FlP} {gi ci:Nat→Nat} {ds:List Nat} {WI:Nat→Nat→Nat} {W2 wr:World} {gN b j:Nat} (h:Fl3 p gi ci ds WI W2 gN wr b j) (hj:(tgN p.xs b).length≤j):Fl3 p gi ci ds WI W2 gN wr (b+1) 0 :=
 ⟨h.os,h.tape,h.output,h.size,h.fr,h.out.congr (fun i _=>by
  unfold outX
  by_cases e1:i<b
  ·rw [if_pos e1,if_pos (by omega)]
  ·by_cases e2:i=b
   ·rw [if_neg e1,if_pos e2,if_pos (by omega),e2,List.take_of_length_le hj]
   ·rw [if_neg e1,if_neg e2,if_neg (by omega)]
    by_cases e3:i=b+1
    ·rw [if_pos e3];simp [outW]
    ·rw [if_neg e3])⟩
theorem Fl3.next {p:FlP} {gi ci:Nat→Nat} {ds:List Nat} {WI:Nat→Nat→Nat} {W2 wr w1:World} {gN b j:Nat} (h:Fl3 p gi ci ds WI W2 gN wr b j) (hb:b<p.n) (hj:j<(tgN p.xs b).length) (k:wr.grownBy w1 (some (p.go b))) (hw:WsAt w1 (p.go b) p.Kw p.Kw (butN (outX p.xs WI p.WO b j b) (WI (tgN p.xs b)[j]) (fun _=>0))):Fl3 p gi ci ds WI W2 gN w1 b (j+1):=by
 refine ⟨k.os.trans h.os,k.tape.trans h.tape,k.output.trans h.output,Nat.le_trans h.size k.size,fun q h1 h2=>(k.block q (Nat.lt_of_lt_of_le h1 h.size) (fun e=>h2 b hb (by injection e))).trans (h.fr q h1 h2),(h.out.wrote hb k hw).congr (fun i _=>?_)⟩
 by_cases e:i=b
 ·subst e
  simp only [outX,Nat.lt_irrefl,if_false,if_true]
  rw [outW_take hj]
 ·unfold outX
  rw [if_neg e]
  by_cases e1:i<b
  ·rw [if_pos e1,if_pos e1]
  ·rw [if_neg e1,if_neg e1,if_neg e,if_neg e]
theorem Fl3.res {p:FlP} {gi ci:Nat→Nat} {nx:Nat→Value} {ds:List Nat} {WI:Nat→Nat→Nat} {W W2 wr w':World} {gN:Nat} (h:Fl3 p gi ci ds WI W2 gN wr p.n 0) (h2:Fl2 p gi ci nx ds W WI) (s:FlS p) (k2:Below W.heap.size W W2) (hn:p.n=p.xs.length) (hwo:AllWd p.WO) (hhas:∀b,b<p.n→∀v,hasN (p.WO b) v=true↔(b,v)∈phE p.xs p.n)
  (hk:∀q,q<wr.heap.size→q≠p.w.heap.size+1→q<p.M∨(∃i,i<p.n∧q=gi i)→w'.heap[q]?=wr.heap[q]?) (ho:w'.os=wr.os) (htp:w'.tape=wr.tape) (hou:w'.output=wr.output) (hz:wr.heap.size≤w'.heap.size):FlR p.w w' p.n p.Kw p.xs p.Gi p.Go gi p.go ci WI (outX p.xs WI p.WO p.n 0):=by
 have hzw:=h2.low.size
 have a1:=s.a1
 have a3:=s.a3
 have a5:=s.a5
 have a9:=s.a9
 have hM:=h2.sz
 have hz2:=k2.size
 have hz3:=h.size
 have lo:∀q,q<p.M→q≠p.w.heap.size+1→(∀i,i<p.n→q≠p.go i)→w'.heap[q]?=W.heap[q]?:=fun q h1 h3 h4=>(hk q (by omega) h3 (Or.inl h1)).trans ((h.fr q (by omega) h4).trans (k2.block q (by omega)))
 refine ⟨⟨ho.trans (h.os.trans (k2.os.trans h2.low.os)),htp.trans (h.tape.trans (k2.tape.trans h2.low.tape)),hou.trans (h.output.trans (k2.output.trans h2.low.output)),by omega,fun q hq=>(lo q (by omega) (by omega) (fun i hi e=>by have:=s.a4 i hi;omega)).trans (h2.low.block q hq)⟩,⟨h2.inn.row.of_block (lo p.Gi (by omega) (by omega) (fun i hi e=>(s.d4 i hi).1 e.symm)),fun i hi=>?_,h2.inn.inj,h2.inn.out⟩,⟨h.out.row.of_block (hk p.Go (by omega) (by omega) (Or.inl (by omega))),fun i hi=>(h.out.set i hi).of_block (hk _ (by have:=s.a4 i hi;omega) (by have:=s.a4 i hi;omega) (Or.inl (by have:=s.a4 i hi;omega))),h.out.inj,h.out.out⟩,h2.wi,outX_wd h2.wi hwo _ _,⟨by omega,by omega⟩,fun i hi=>⟨by have:=h2.igM i hi;omega,by have:=s.a4 i hi;omega⟩,?_⟩
 ·have hg:=h2.igM i hi
  have hl:=(h2.inn.set i hi).lt
  refine (h2.inn.set i hi).of_block ((hk (gi i) (by omega) (by omega) (Or.inr ⟨i,hi,rfl⟩)).trans ((h.fr (gi i) (by omega) (fun j hj e=>by have:=s.a4 j hj;omega)).trans (k2.block _ hl)))
 ·obtain ⟨ord,h3,h4⟩:=h2.ord
  refine ⟨I0 p.xs p.WO,T0 p.xs,p.WO,ord,fun i hi=>I0_at hi,fun i hi=>T0_at hi,fun b hb v=>by rw [←hn];exact hhas b (by omega) v,fun b hb=>h3 b (by omega),h4,fun b hb x=>?_⟩
  unfold outX
  rw [if_pos hb]
  exact outW_has h2.wi x _ (hwo b)
theorem leaves_mks' {F:Fence} {n:Nat} {P:Program} {fn:Func} {tmps:Array Value} {R:Ending→World→Prop} {B:Nat}:∀(ds:List Nat) (W:World),MksAt W B ds→(∀W':World,W'.os=W.os→W'.tape=W.tape→W'.output=W.output→W.heap.size≤W'.heap.size→(∀k,k ∉ ds→W'.heap[k]?=W.heap[k]?)→∃v,(results fn tmps).run P W'=.ok v W'∧R (.returned v) W')→LeavesInM F n P fn tmps R (mks ds) .returning W
 | [],W,_,h=>h W rfl rfl rfl (Nat.le_refl _) (fun _ _=>rfl)
 | D::ds,W,hm,h=>by
  refine ⟨by simp,Or.inl ⟨D,_,rfl,run_takeDeferred (hm.obj D List.mem_cons_self),?_⟩⟩
  have hg:=grownBy_putObj' W D (.deferred none)
  refine leaves_mks' (B:=B) ds _ ⟨(List.nodup_cons.1 hm.nd).2,fun k hk=>hm.ge k (List.mem_cons_of_mem _ hk),fun k hk=>?_⟩ (fun W' k1 k2 k3 k4 k5=>h W' (k1.trans hg.os) (k2.trans hg.tape) (k3.trans hg.output) (Nat.le_trans hg.size k4) (fun q hq=>?_))
  ·exact (World.putObj_heap_other (fun e=>(List.nodup_cons.1 hm.nd).1 (by rw [←e];exact hk))).trans (hm.obj k (List.mem_cons_of_mem _ hk))
  ·have h1:q≠D∧q ∉ ds:=by simpa using hq
   exact (k5 q h1.2).trans (World.putObj_heap_other h1.1)
end Go.Proofs.YthgikffcdgpgiaaGreatDoor
