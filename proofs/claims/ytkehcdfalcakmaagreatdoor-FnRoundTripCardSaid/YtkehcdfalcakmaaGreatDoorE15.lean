import Derived.Test.YtkehcdfalcakmaaGreatDoorE9
import Derived.Shelf.Spec.SlicesInsertGrow
namespace Go.Proofs.YtkehcdfalcakmaaGreatDoor
set_option maxHeartbeats 4000000
set_option maxRecDepth 100000
open Go.RowKit Go.Lib
theorem Zem(b o n c:Nat)(vs:List Int)(L B:Nat)(w:World)(hv:Hid (Xh w L B (some ⟨b,o,none⟩) vs))(hx:Hid (n=vs.length))(hn:n<=1000000000)(hB:B<=w.heap.size) :
 Calls Tryz.prog 14 #[.slice (some ⟨b,o,none⟩) n c] w fun e w'=>∃v,e=.returned v/\Below w.heap.size w w'/\v≠.slice none 0 0/\w'.ownsRow w.heap.size 2 1 v vs.length (vs.map (Value.int .i64)):=by
 obtain⟨i0,hi0,hz0,hz1,hz2⟩:=info_parts Tryz.info2';have q22:∀(w:World)(a:Option Addr)(n c n' c':Nat),(binOp .eql 44 (.slice a n c) (.slice none n' c')).run Tryz.prog w=.ok (.bool a.isNone) w:=fun w a n c n' c'=>Lib.run_eql_slice_nil w _ _ a n c n' c' Tryz.underlying44
 go_enter Tryz.func14,Tryz.ntmps14
 go_wp2_with (at_builtin;refine wpList_plain rfl fun K hK=>VN _ _ 44 rfl w.heap.size 2 i0 Tryz.underlying44 hi0 hz0 hz1 hz2 (.slice (some ⟨w.heap.size,0,none⟩) 0 0) [] rfl (by simpa using World.ownsRow_lit (base:=w.heap.size) (e:=2) (size:=1) w #[] 0 (by simp) (by simp) rfl) (by simp) (some ⟨b,o,none⟩) n c vs L B rfl hx.out (hv.keep ((Xb (Below.refl w.heap.size w) _).mono hB)) (by simp;omega) (by simp) ?_)
 intro v1 w1 ho1 hg1 hn1;have HB:Hid (Below w.heap.size w w1):=Xa (hg1.below (by simpa using World.ownsRow_lit (base:=w.heap.size) (e:=2) (size:=1) w #[] 0 (by simp) (by simp) rfl:(w.alloc (.cells #[] 2)).ownsRow w.heap.size 2 1 (.slice (some ⟨w.heap.size,0,none⟩) 0 0) 0 []) (Xb (Below.refl _ _) _) (by simp));have HO:=Xa ho1;have HN:=Xa hn1;clear hg1 ho1 hn1;refine hK _ _ ?_;go_wp2
 go_ret
 exact⟨_,rfl,HB.out,HN.out,HO.out⟩
theorem ZaV(g n c vb:Nat)(d:Value)(cs:List Value)(w:World)(hn:0<n)(hroom:n+1<=c)(hc63:c<=9223372036854775807)(hvb:vb≠g)(hcl:cs.length=n)
 (hcs:∀j v,cs[j]?=some v->w.cell? ⟨g,0+j,none⟩=some v) (hsp:∀j,j<n+1->(w.cell? ⟨g,0+j,none⟩).isSome=true) (hfz:∀j,j<n+1->w.frozen? ⟨g,0+j,none⟩=false)
 (hvs:w.cell? ⟨vb,0,none⟩=some d) (h1c:∀v∈cs,v.oneCell'=true) (h1d:d.oneCell'=true)
 (tA tB:TypeId) (kA kB:Nat) (hsa:w.shape? vb=some (tA,kA)) (hsb:w.shape? g=some (tB,kB)) (hkB:kB≠0) (hfa:w.frozen? ⟨vb,0,none⟩=false) (hfe:w.frozen? ⟨vb,kA,none⟩=false) :
 Calls Tryz.prog 13 #[.slice (some ⟨g,0,none⟩) n c,.int .i64 0,.slice (some ⟨vb,0,none⟩) 1 1] w fun e w' =>
  e=.returned (.slice (some ⟨g,0,none⟩) (n+1) c)/\w'=(w.drew.setCells g 1 cs).setCells g 0 [d]:=by
 have u38:=run_underlying Tryz.underlying44;have mixed:Tryz.prog.follows Departure.mixedOrders=true:=by kernel_rfl
 have hz2:¬((0:Int)=(n:Int)):=by omega
 obtain⟨i0,hi0,hz0,hzs,hzb⟩:=info_parts Tryz.info2';have hsz:(Tryz.prog.info? 2).map (·.size)=some 1:=by rw[hi0];simp[hzs]
 have hov:∀lb cb,(callFunc 34 #[.slice (some ⟨vb,0,none⟩) 1 1,.slice (some ⟨g,1,none⟩) lb cb]).run Tryz.prog w=.ok (.value (.bool false)) w:=fun lb cb=>by
  rw[run_callFunc_extern Tryz.func34 (by kernel_rfl) (by kernel_rfl) (by kernel_rfl) (e:=Extern.SlicesOverlaps.overlaps #[44,44] #[4]) (by kernel_rfl),
   Lib.run_overlaps_apart w 44 4 2 Tryz.underlying44 1 Tryz.sizeOf2 ⟨vb,0,none⟩ ⟨g,1,none⟩ 1 1 lb cb hvb tA tB kA kB hsa hsb hkB hfa hfe]
  rfl
 have hcp1:∀ty dc sc,(Builtin.copy_ #[44,44] ty #[.slice (some ⟨g,1,none⟩) n dc,.slice (some ⟨g,0,none⟩) (n+1) sc]).run Tryz.prog w.drew=.ok (goInt cs.length) (w.drew.setCells g 1 cs):=fun ty dc sc =>
  run_copy_cells w.drew _ _ ty 2 g 1 n dc ⟨g,0,none⟩ (n+1) sc cs Tryz.underlying44 hsz (by rw[hcl];simp only[Nat.min_def];split<;>omega)
   (fun j v hj=>by rw[Addr.add_lit];exact hcs j v hj)
   (fun j hj=>by have:=hsp (1+j) (by omega);rwa[Nat.zero_add]at this) (fun j hj=>by have:=hfz (1+j) (by omega);rwa[Nat.zero_add]at this) h1c
 obtain⟨W1,hW1⟩:∃W1,W1=w.drew.setCells g 1 cs:=⟨_,rfl⟩;have hsp1:(W1.cell? ⟨g,0,none⟩).isSome=true:=by
  rw[hW1];exact isSome_setCells g _ _ _ (fun j hj=>by have:=hsp (1+j) (by omega);rwa[Nat.zero_add]at this) _ (hsp 0 (by omega))
 have hcp2:∀(W:World),(∀x,W.cell? x=W1.cell? x)->(∀x,W.frozen? x=W1.frozen? x)->∀ty dc,(Builtin.copy_ #[44,44] ty #[.slice (some ⟨g,0,none⟩) (n+1) dc,.slice (some ⟨vb,0,none⟩) 1 1]).run Tryz.prog W=.ok (goInt [d].length) (W.setCells g 0 [d]):=fun W hWc hWf ty dc =>
  run_copy_cells W _ _ ty 2 g 0 (n+1) dc ⟨vb,0,none⟩ 1 1 [d] Tryz.underlying44 hsz (by show 1=_;simp only[Nat.min_def];split<;>omega)
   (fun j v hj=>by
    have hj0:j=0:=by
     rcases Nat.eq_zero_or_pos j with h | h
     ·exact h
     ·rw[List.getElem?_eq_none (by simp;omega)]at hj;cases hj
    subst hj0;cases hj;rw[Addr.add_lit,hWc,hW1,World.cell?_setCells_out g _ _ _ _ (fun h _=>absurd h hvb)];exact hvs)
   (fun j hj=>by
    have hj0:j=0:=by simpa using hj
    subst hj0;rw[hWc];exact hsp1)
   (fun j hj=>by
    have hj0:j=0:=by simpa using hj
    subst hj0;rw[hWf,hW1,World.frozen?_setCells];exact hfz 0 (by omega)) (by intro v hv;simp at hv;subst hv;exact h1d)
 rw[<-hW1]at hcp1;have hn1:(0:Int)<=(n:Int)+1:=by omega
 have hw1:IntKind.i64.wrap ((n:Int)+1)=(n:Int)+1:=by rw[IntKind.wrap_i64];omega
 have hw2:IntKind.i64.wrap 1=1:=by rw[IntKind.wrap_i64];rfl
 have hb1:(1:Int)<=(n:Int)+1:=by omega
 have hb2:¬(c=1):=by omega
 have hb4:¬(c=0):=by omega
 have hnc:¬((c:Int)<(n:Int)+1):=by omega
 go_enter Tryz.func13,Tryz.ntmps13
 go_wp2_with (simp only[hov])
 go_region_law_o (refine step_copy_runI rfl _ _ 44 44 rfl _ _ (by simp[Act.eval,Act.put];rfl) (by simp[Act.eval,Act.put];rfl) (hcp1 _ _ _) ?_)
 go_wp2_with (at_builtin;refine wpList_copy_runI _ rfl _ _ 44 44 rfl _ _ rfl rfl (hcp2 _ (fun _=>rfl) (fun _=>rfl) _ _) ?_)
 go_ret
 first | exact⟨rfl,rfl⟩ | exact⟨rfl,by rw[hW1]⟩
theorem ZaX(g n c vb:Nat)(d:Value)(cs:List Value)(w:World)(hn:0<n)(hnc:n<=c)(hroom:c<n+1)(hbig:(n+1)*8<=140737488355328)(hcl:cs.length=n)
 (hcs:∀j v,cs[j]?=some v->w.cell? ⟨g,0+j,none⟩=some v)
 (hvs:w.cell? ⟨vb,0,none⟩=some d) (h1c:∀v∈cs,v.oneCell'=true) (h1d:d.oneCell'=true) :
 Calls Tryz.prog 13 #[.slice (some ⟨g,0,none⟩) n c,.int .i64 0,.slice (some ⟨vb,0,none⟩) 1 1] w fun e w' =>
  ∃(G:Nat)(ROW:Array Value),n+1<=ROW.size/\e=.returned (.slice (some ⟨w.heap.size,0,none⟩) (n+1) G)/\w'=(((w.alloc (.cells ROW 2)).drew.setCells w.heap.size 0 [d]).drew).setCells w.heap.size 1 cs:=by
 have u38:=run_underlying Tryz.underlying44;have mixed:Tryz.prog.follows Departure.mixedOrders=true:=by kernel_rfl
 obtain⟨i0,hi0,hz0,hzs,hzb⟩:=info_parts Tryz.info2';have hz2:¬((0:Int)=(n:Int)):=by omega
 have hz3:(c:Int)<(n:Int)+1:=by omega
 have hsz:(Tryz.prog.info? 2).map (·.size)=some 1:=by rw[hi0];simp[hzs]
 have hbw:g<w.heap.size:=block_lt_of_cell (hcs 0 _ (List.getElem?_eq_getElem (by omega)));have hvw:vb<w.heap.size:=block_lt_of_cell hvs;have hold:(Builtin.firstCells i0.size 0 (.slice (some ⟨g,0,none⟩) 0 c)).run Tryz.prog w.drew=.ok ([]:List Value).toArray w.drew:=by
  rw[hzs];exact run_firstCells_some w.drew 1 0 ⟨g,0,none⟩ 0 c [] rfl (fun j v hj=>by simp at hj)
 have hrz:∀ty,(Builtin.append_ #[44,3] ty #[.slice (some ⟨g,0,none⟩) 0 c,.int .i64 ((n:Int)+1)]).run Tryz.prog w =
  .ok (.slice (some ⟨w.heap.size,0,none⟩) (n+1) (grownCap w (n+1) c 2)) (w.drew.alloc (.cells (([]:List Value).toArray++Builtin.zeroCells (Value.int .i64 0).cells (n+1)++Builtin.zeroCells (Value.int .i64 0).cells (grownCap w (n+1) c 2 - (n+1))) 2)):=fun ty=>by
  have h:=Lib.run_append_grow_zeros w 44 3 ty 2 i0 _ .i64 .i64 Tryz.underlying44 Tryz.underlying3 hi0 hz0 (some ⟨g,0,none⟩) 0 c [] hold (n+1) (by omega) (by omega) (by omega) (by omega) (by rw[hzb];omega) (by rw[hzb,Nat.zero_add];exact growslice_fits hroom hbig);rw[Nat.zero_add]at h;exact h
 obtain⟨G,hG⟩:∃G,G=grownCap w (n+1) c 2:=⟨_,rfl⟩;obtain⟨ROW,hROW⟩:∃ROW:Array Value,ROW=([]:List Value).toArray++Builtin.zeroCells (Value.int .i64 0).cells (n+1)++Builtin.zeroCells (Value.int .i64 0).cells (G-(n+1)):=⟨_,rfl⟩;rw[<-hG]at hrz;rw[<-hROW]at hrz;have hRl:n+1<=ROW.size:=by
  rw[hROW];simp[Builtin.zeroCells,Value.cells]
 obtain⟨W1,hW1⟩:∃W1,W1=w.drew.alloc (.cells ROW 2):=⟨_,rfl⟩;rw[<-hW1]at hrz;have hN:∀j,j<n+1->(W1.cell? ⟨w.heap.size,j,none⟩).isSome=true:=fun j hj=>by
  rw[hW1,World.cell?_alloc_at (w:=w.drew) ROW _ w.heap.size j rfl,Array.getElem?_eq_getElem (by omega)];rfl
 have hNf:∀j,W1.frozen? ⟨w.heap.size,j,none⟩=false:=fun j=>by rw[hW1];exact World.frozen?_alloc_at (w:=w.drew) ROW _ w.heap.size j rfl
 have hOb:∀j v,w.cell? ⟨g,j,none⟩=some v->W1.cell? ⟨g,j,none⟩=some v:=fun j v h=>by rw[hW1,World.cell?_alloc_past (w:=w.drew) _ g j hbw];exact h
 have hOv:W1.cell? ⟨vb,0,none⟩=some d:=by rw[hW1,World.cell?_alloc_past (w:=w.drew) _ vb 0 hvw];exact hvs
 have hcpA:∀(W:World),(∀x,W.cell? x=W1.cell? x)->(∀x,W.frozen? x=W1.frozen? x)->∀ty dc,(Builtin.copy_ #[44,44] ty #[.slice (some ⟨w.heap.size,0,none⟩) (n+1) dc,.slice (some ⟨vb,0,none⟩) 1 1]).run Tryz.prog W=.ok (goInt [d].length) (W.setCells w.heap.size 0 [d]):=fun W hWc hWf ty dc =>
  run_copy_cells W _ _ ty 2 w.heap.size 0 (n+1) dc ⟨vb,0,none⟩ 1 1 [d] Tryz.underlying44 hsz (by show 1=_;simp only[Nat.min_def];split<;>omega)
   (fun j v hj=>by
    have hj0:j=0:=by
     rcases Nat.eq_zero_or_pos j with h | h
     ·exact h
     ·rw[List.getElem?_eq_none (by simp;omega)]at hj;cases hj
    subst hj0;cases hj;rw[Addr.add_lit,hWc];exact hOv)
   (fun j hj=>by
    have hj0:j=0:=by simpa using hj
    subst hj0;rw[hWc];exact hN 0 (by omega)) (fun j hj=>by rw[hWf];exact hNf _) (by intro v hv;simp at hv;subst hv;exact h1d)
 have hGn:n+1<=G:=by rw[hG];exact grownCap_ge w _ _ _
 have hG63:G<=9223372036854775807:=by
  have:=grownCap_le_maxLen w (n+1) c 2 (by unfold maxLen;omega);rw[<-hG]at this;unfold maxLen at this;omega
 have hbN:g≠w.heap.size:=by omega
 have hcpB:∀(W:World),(∀x,W.cell? x=(W1.setCells w.heap.size 0 [d]).cell? x)->(∀x,W.frozen? x=(W1.setCells w.heap.size 0 [d]).frozen? x)->∀ty dc sc,(Builtin.copy_ #[44,44] ty #[.slice (some ⟨w.heap.size,1,none⟩) n dc,.slice (some ⟨g,0,none⟩) n sc]).run Tryz.prog W=.ok (goInt cs.length) (W.setCells w.heap.size 1 cs):=fun W hWc hWf ty dc sc =>
  run_copy_cells W _ _ ty 2 w.heap.size 1 n dc ⟨g,0,none⟩ n sc cs Tryz.underlying44 hsz (by rw[hcl];simp only[Nat.min_def];split<;>omega)
   (fun j v hj=>by
    rw[Addr.add_lit,hWc,World.cell?_setCells_out _ _ _ _ _ (fun h _=>absurd h hbN)];exact hOb _ v (hcs j v hj))
   (fun j hj=>by rw[hWc];exact isSome_setCells _ _ _ _ (fun t ht=>by
    have ht0:t=0:=by simpa using ht
    subst ht0;exact hN 0 (by omega)) _ (hN _ (by omega)))
   (fun j hj=>by rw[hWf,World.frozen?_setCells];exact hNf _) h1c
 subst hW1;have hE1:∀x,((w.alloc (.cells ROW 2)).drew).cell? x=(w.drew.alloc (.cells ROW 2)).cell? x:=fun x=>rfl
 have hE2:∀x,((w.alloc (.cells ROW 2)).drew).frozen? x=(w.drew.alloc (.cells ROW 2)).frozen? x:=fun x=>rfl
 have hF1:∀x,(((w.alloc (.cells ROW 2)).drew.setCells w.heap.size 0 [d]).drew).cell? x=((w.drew.alloc (.cells ROW 2)).setCells w.heap.size 0 [d]).cell? x:=fun x=>rfl
 have hF2:∀x,(((w.alloc (.cells ROW 2)).drew.setCells w.heap.size 0 [d]).drew).frozen? x=((w.drew.alloc (.cells ROW 2)).setCells w.heap.size 0 [d]).frozen? x:=fun x=>rfl
 have hw1:IntKind.i64.wrap ((n:Int)+1)=(n:Int)+1:=by rw[IntKind.wrap_i64];omega
 have hw2:IntKind.i64.wrap 1=1:=by rw[IntKind.wrap_i64];rfl
 have hn1:(0:Int)<=(n:Int)+1:=by omega
 have hb1:(1:Int)<=(n:Int)+1:=by omega
 have hci:¬(c=0):=by omega
 have hGi:¬(G=0):=by omega
 have hGim:¬(G=1):=by omega
 clear hold hROW hG
 go_enter Tryz.func13,Tryz.ntmps13
 go_wp2_with (first
  | (at_builtin;refine Lib.wpList_append_run _ rfl _ _ _ _ rfl _ _ rfl rfl _ _ (hrz _) ?_)
  | (at_builtin;refine wpList_copy_runI _ rfl _ _ 44 44 rfl _ _ rfl rfl (hcpA _ hE1 hE2 _ _) ?_)
  | (at_builtin;refine wpList_copy_runI _ rfl _ _ 44 44 rfl _ _ rfl rfl (hcpB _ (fun _=>rfl) (fun _=>rfl) _ _ _) ?_))
 go_region_law_o (refine step_copy_runI rfl _ _ 44 44 rfl (.slice (some ⟨w.heap.size,1,none⟩) n (G-1)) (.slice (some ⟨g,0,none⟩) n c) (by simp[Act.eval,Act.put]) (by simp[Act.eval,Act.put]) (hcpB _ hF1 hF2 3 (G-1) c) ?_)
 go_wp2
 go_ret
 exact⟨G,ROW,hRl,rfl,rfl⟩
end Go.Proofs.YtkehcdfalcakmaaGreatDoor
namespace Go.Proofs.YtkehcdfalcakmaaGreatDoor
open Go.RowKit
theorem Yg(b:Nat):∀(vs:List Value)(o:Nat)(w:World)(t:TypeId),(∃c fz,w.heap[b]?=some (.cells c t fz))->∃c fz,(w.setCells b o vs).heap[b]?=some (.cells c t fz)
 | [],_,_,_,h=>h
 | v::r,o,w,t,h=>by
  rw[World.setCells];refine Yg b r _ _ t ?_;obtain⟨c,fz,hc⟩:=h;exact⟨c.setIfInBounds o v,fz,by simp[World.setCell,Array.getElem?_modify,hc]⟩
theorem V5{w':World}{B B0 g:Nat}{qs:List Int}(hh:∃c fz,w'.heap[g]?=some (.cells c 2 fz))(hg:B0<=g)(hc:∀i (h:i<qs.length),w'.cell? ⟨g,0+i,none⟩=some (.int .i64 qs[i])) :
 ∀w'',Kp B w' w''->Xh w'' B0 w'.heap.size (some ⟨g,0,none⟩) qs:=by
 intro w'' hk i hi;obtain⟨c,fz,hh⟩:=hh;have hlt:g<w'.heap.size:=(Array.getElem?_eq_some_iff.1 hh).1;refine⟨g,0,rfl,⟨hg,hlt⟩,?_⟩;have:=hk.kept g _ hh (by simp) (fun c' fz' e'=>by cases e');rw[Xc (this.trans hh.symm)];exact hc i hi
theorem ZaW(w:World)(g:Nat)(d:Value)(cs:List Value)(h:∀j,j<cs.length+1->(w.cell? ⟨g,j,none⟩).isSome=true) :
 (∀j v,(d::cs)[j]?=some v->((w.setCells g 1 cs).setCells g 0 [d]).cell? ⟨g,j,none⟩=some v)/\(∀j v,(d::cs)[j]?=some v->((w.setCells g 0 [d]).setCells g 1 cs).cell? ⟨g,j,none⟩=some v):=by
 have h1:∀j,j<cs.length+1->((w.setCells g 1 cs).cell? ⟨g,j,none⟩).isSome=true:=fun j hj=>isSome_setCells g _ _ _ (fun t ht=>h _ (by omega)) _ (h j hj)
 have h2:∀j,j<cs.length+1->((w.setCells g 0 [d]).cell? ⟨g,j,none⟩).isSome=true:=fun j hj=>isSome_setCells g _ _ _ (fun t ht=>by
  have:t=0:=by simpa using ht
  subst this;exact h 0 (by omega)) _ (h j hj)
 constructor
 ·intro j v hj
  cases j with
  | zero =>
   have:=World.cell?_setCells_in g [d] 0 (w.setCells g 1 cs) (fun t ht=>by
    have:t=0:=by simpa using ht
    subst this;exact h1 0 (by omega)) 0 (by simp)
   rw[this];simpa using hj
  | succ j =>
   rw[World.cell?_setCells_out g _ _ _ _ (fun _ _=>Or.inr (by show 0+1<=j+1;omega))];have hjl:j<cs.length:=by
    rcases Nat.lt_or_ge j cs.length with q | q
    ·exact q
    ·rw[List.getElem?_eq_none (by simp;omega)]at hj;cases hj
   have:=World.cell?_setCells_in g cs 1 w (fun t ht=>h _ (by omega)) j hjl;rw[Nat.add_comm 1 j]at this;have e:cs[j]?=some v:=by simpa using hj
   rw[this,<-e,List.getElem?_eq_getElem hjl]
 ·intro j v hj
  cases j with
  | zero =>
   rw[World.cell?_setCells_out g _ _ _ _ (fun _ _=>Or.inl (by show 0<1;omega))];have:=World.cell?_setCells_in g [d] 0 w (fun t ht=>by
    have:t=0:=by simpa using ht
    subst this;exact h 0 (by omega)) 0 (by simp)
   rw[this];simpa using hj
  | succ j =>
   have hjl:j<cs.length:=by
    rcases Nat.lt_or_ge j cs.length with q | q
    ·exact q
    ·rw[List.getElem?_eq_none (by simp;omega)]at hj;cases hj
   have:=World.cell?_setCells_in g cs 1 (w.setCells g 0 [d]) (fun t ht=>h2 _ (by omega)) j hjl;rw[Nat.add_comm 1 j]at this;have e:cs[j]?=some v:=by simpa using hj
   rw[this,<-e,List.getElem?_eq_getElem hjl]
theorem Zcl(B g n c vb B0:Nat)(d:Int)(vs:List Int)(w:World)(hn:0<n)(hx:n=vs.length)(hn9:n<=1000000000)(ho:w.ownsRow B0 2 1 (.slice (some ⟨g,0,none⟩) n c) n (vs.map (Value.int .i64)))
 (hvb:vb≠g) (hvh:w.heap[vb]?=some (.cells #[.int .i64 d] 2 (0,0))) :
 Calls Tryz.prog 13 #[.slice (some ⟨g,0,none⟩) n c,.int .i64 0,.slice (some ⟨vb,0,none⟩) 1 1] w fun e w' =>
  ∃qa qc,e=.returned (.slice qa (n+1) qc)/\Below B0 w w'/\(∀w'',Kp B w' w''->Xh w'' B0 w'.heap.size qa (d::vs)):=by
 have hho:=ho;obtain⟨hl,h0 | ⟨g',cap,cur,e,hb,hh,hnc,hcm,hcs,htake⟩⟩:=ho
 ·exact absurd h0.1 (by simp)
 cases e;have hB0:B0<=w.heap.size:=Nat.le_trans hb (Nat.le_of_lt (Array.getElem?_eq_some_iff.1 hh).1);have hcc:∀j v,(vs.map (Value.int .i64))[j]?=some v->w.cell? ⟨g,0+j,none⟩=some v:=fun j v hj=>by
  have:=hho.cells (g:=g) rfl j v hj;rwa[Addr.add_lit]at this
 have h1c:∀v∈vs.map (Value.int .i64),v.oneCell'=true:=by intro u hu;obtain⟨z,-,rfl⟩:=List.mem_map.1 hu;rfl
 have hcl:(vs.map (Value.int .i64)).length=n:=by simp[hx]
 have hvc:w.cell? ⟨vb,0,none⟩=some (.int .i64 d):=by rw[cell_of_row w vb 0 _ _ _ hvh];rfl
 have hget:∀i (h:i<(d::vs).length),((Value.int .i64 d)::vs.map (Value.int .i64))[i]?=some (.int .i64 (d::vs)[i]):=fun i h=>by
  rw[show(Value.int .i64 d)::vs.map (Value.int .i64)=(d::vs).map (Value.int .i64) from rfl,List.getElem?_map,List.getElem?_eq_getElem h];rfl
 by_cases hroom:n+1<=c
 ·have hsp:∀j,j<n+1->(w.cell? ⟨g,0+j,none⟩).isSome=true:=fun j hj=>by
   rw[Nat.zero_add,cell_of_row w g j _ _ _ hh,Array.getElem?_eq_getElem (by omega)];rfl
  refine(ZaV g n c vb (.int .i64 d) (vs.map (Value.int .i64)) w hn hroom (by unfold maxLen at hcm;omega) hvb hcl hcc hsp (fun j _=>by unfold World.frozen?;rw[hh];simp) hvc h1c rfl 2 2 1 cur.size (by unfold World.shape?;rw[hvh];rfl) (by unfold World.shape?;rw[hh]) (by omega) (by unfold World.frozen?;rw[hvh];simp) (by unfold World.frozen?;rw[hvh];simp)).mono ?_;rintro e w' ⟨rfl,rfl⟩;refine⟨_,_,rfl,YS g _ _ _ _ (YS g _ _ _ _ (Below.refl _ _).drew hb) hb,V5 ?_ hb ?_⟩
  ·exact Yg g _ _ _ _ (Yg g _ _ _ _ ⟨_,_,hh⟩)
  ·intro i hi
   rw[Nat.zero_add];exact(ZaW w.drew g (.int .i64 d) _ (fun j hj=>by have:=hsp j (by simpa [hx]using hj);rwa[Nat.zero_add]at this)).1 i _ (hget i hi)
 ·refine(ZaX g n c vb (.int .i64 d) (vs.map (Value.int .i64)) w hn hnc (by omega) (by omega) hcl hcc hvc h1c rfl).mono ?_
  rintro e w' ⟨G,ROW,hR,rfl,rfl⟩;have hnew:∃c fz,((w.alloc (.cells ROW 2)).drew).heap[w.heap.size]?=some (.cells c 2 fz):=⟨_,_,heap_alloc_new w _⟩;refine⟨_,_,rfl,YS _ _ _ _ _ (YS _ _ _ _ _ ((Below.refl _ _).alloc hB0 _).drew hB0).drew hB0,V5 ?_ hB0 ?_⟩
  ·exact Yg w.heap.size _ _ _ _ (Yg w.heap.size _ _ _ _ hnew)
  ·intro i hi
   rw[Nat.zero_add,<-drew_setCells];exact(ZaW ((w.alloc (.cells ROW 2)).drew) w.heap.size (.int .i64 d) _ (fun j hj=>by
    show((w.alloc (.cells ROW 2)).cell? _).isSome=true;rw[World.cell?_alloc_at (w:=w) ROW _ w.heap.size j rfl,Array.getElem?_eq_getElem (by have:j<n+1:=(by simpa [hx]using hj);omega)];rfl)).2 i _ (hget i hi)
end Go.Proofs.YtkehcdfalcakmaaGreatDoor
