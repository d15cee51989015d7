import Derived.Test.YtbofmlmdgkblkaaDoorW15
namespace Go.Proofs.YtbofmlmdgkblkaaDoor
set_option maxHeartbeats 2000000
open Go.RowKit
theorem Ul(v:Int)(a:Option Addr)(n c:Nat)(xs:List Xg)(L B:Nat)(w:World)(ha:Hid (Xy w L B a xs))(hx:Hid (n=xs.length))(hn:n<=1048576)(hB:B<=w.heap.size)(hg:Hid (Zb1 xs n)) :
 Calls Tryd.prog 60 #[.agg #[.int .i64 v,.slice a n c]] w fun e w'=>∃U,e=.returned (.slice (some ⟨w.heap.size+1,0,none⟩) n n)/\Below w.heap.size w w'/\YK w' (w.heap.size+1) n (fun i:Nat=>predsFrom xs 0 (i:Int)) U:=by
 obtain⟨i0,hi0,hz0,hz1,hz2⟩:=info_parts Tryd.info2';have hmk:=run_make_row' (P:=Tryd.prog) 83 40 (.slice none 0 0) 24 Tryd.underlying83 Tryd.info45 rfl .i64 .i64 n (by omega) (by omega)
 go_enter Tryd.func60,Tryd.ntmps60
 go_wp2
 go_loopw [15] (fun i wr=>∃k:Nat,k<=n/\i=.int .i64 k/\Below w.heap.size w wr/\Hid (∃U,YK wr (w.heap.size+1) n (Yc xs k []) U)) (fun i _=>n-(intOf i).toNat)
 case atStart=>exact⟨0,Nat.zero_le _,rfl,Xb (Xb (Below.refl _ _) _) _,⟨_,by have:=YK.born (w.alloc (.cells #[.int .i64 v,.slice a n c] 25)) n;rw[World.size_alloc]at this;exact this⟩⟩
 case round =>
  obtain⟨k,hk,rfl,hw,hrw⟩:=hrel;by_cases hlt:k<n
  ·have hkx:k<xs.length:=by have:=hx.out;omega
   obtain⟨b,o,rfl,⟨_,hbB⟩,hc⟩:=ha.out k hkx;obtain⟨pa,pc,ia,ic,e0,e1,⟨e2,e3,e4,e5⟩,_,_⟩:=hc.keep (hw.mono hB) (by omega);have hwh:=Xa (fun i=>Ky xs k i hkx);obtain⟨hg1,hg2⟩:=hg.out _ (List.getElem_mem hkx);have HG1:=Xa hg1;have HG2:=Xa hg2;clear hc hg1 hg2;generalize xs[k]=X at *
   go_wp2_with fail
   refine(ZW X.term _).mono ?_;rintro e w2 ⟨a1,c1,rfl,hb2,hi2⟩;have hb3:=Xj (Xb (Below.refl wr.heap.size wr) _) hb2;have hz3:=hb2.size;simp at hz3;have hz4:wr.heap.size<w2.heap.size:=by omega
   have HI:=Xa hi2;have hGlt:w.heap.size+1<wr.heap.size:=by obtain⟨U,hU⟩:=hrw.out;exact hU.1.lt
   have HR:Hid (∃U,YK w2 (w.heap.size+1) n (Yc xs k []) U/\∀i g,i<n->(U i).ownBlock=some g->g<=wr.heap.size\/w2.heap.size<=g):=by
    obtain⟨U,hU⟩:=hrw.out;exact⟨U,hU.below hb3,fun i g hi hg=>by have:=((hU.2.1 i hi).lt g hg).2;omega⟩
   have HW:=Xa (Xj hw hb3);have htl:X.term.targets.length<=2:=by unfold XZ.targets;split<;>(try split)<;>simp
   generalize hT:X.term.targets=ts at *;clear hT hi2 hrw e0 e1 e2 e3 e4 e5 hw;simp only[World.size_alloc]at HI;generalize hM:wr.heap.size=M at *;clear hM;go_wp2
   go_loopw [24] (fun i wi=>∃j:Nat,j<=ts.length/\i=.int .i64 j/\Below w.heap.size w wi/\w2.heap.size<=wi.heap.size/\Hid (Xe wi (M+1) w2.heap.size a1 ts)/\Hid (∃U,YK wi (w.heap.size+1) n (Yc xs k (ts.take j)) U/\∀i g,i<n->(U i).ownBlock=some g->g<=M\/w2.heap.size<=g)) (fun i _=>ts.length-(intOf i).toNat)
   case atStart=>exact⟨0,Nat.zero_le _,rfl,HW.out,Nat.le_refl _,HI.out,HR.out⟩
   case round =>
    obtain⟨j,hj,rfl,hwi,hszi,hii,hri⟩:=hrel;by_cases hjt:j<ts.length
    ·obtain⟨b',o',rfl,_,hcj⟩:=hii.out j hjt
     obtain⟨ht0,ht1⟩:=HG1.out _ (List.getElem_mem hjt);have hnd:Hid (ts[j] ∉ ts.take j):=by
      intro hm;obtain⟨m,hm1,hm2⟩:=List.getElem_of_mem hm;simp only[List.length_take]at hm1;rw[List.getElem_take]at hm2;have:=(List.getElem_inj HG2.out).1 hm2;omega
     have hts:Hid (ts.take (j+1)=ts.take j++[ts[j]]):=XF _ _ hjt;obtain⟨U,hU,hav⟩:=hri.out;have HAV:=Xa hav;clear hav;obtain⟨t,htt⟩:=Int.eq_ofNat_of_zero_le ht0;generalize ts[j]=T at *;subst htt;have htn:t<n:=by omega
     have hcU:=hU.1.cell htn;have hfU:=hU.1.frozen t;have hpl:=TO xs k t (ts.take j) (by have:=hx.out;omega);have HU:=Xa hU;clear hU hri
     go_wp2_with (at_builtin;refine wpList_append_own_at _ rfl _ _ 40 rfl (w.heap.size+1+1) 2 i0 (.int .i64 0) 1 8 Tryd.underlying40 hi0 hz0 hz1 hz2 rfl (by decide) _ _ _ rfl ((HU.alloc _).2.1 t htn) ⟨wr.heap.size,0,none⟩ 1 1 [.int .i64 k] rfl rfl ?c1 ?c2 ?c3 ?c4 ?c5 ?_)
     case c1 =>
      intro j u hj
      match j,hj with
      | 0,hj=>simp at hj;subst hj;simp[Addr.add]
     case c2=>intro u hu;simp at hu;subst hu;rfl
     case c3=>unfold maxLen;omega
     case c4=>omega
     case c5=>have:=HU.1.lt;simp;omega
     intro v1 w1 hown1 hgrow1 _ hat1;obtain⟨av,cv,hv,_⟩:=Xn (xs:=Yc xs k (ts.take j) t++[(k:Int)]) (by rw[YO];exact hown1);have hst:=Xa ((HU.alloc (.cells #[.int .i64 k] 2)).step htn k v1 hgrow1 hown1 (by rw[World.size_alloc];exact hat1));have hbG:w1.heap[w.heap.size+1]?=(wr.alloc (.cells #[.int .i64 k] 2)).heap[w.heap.size+1]?:=Zq hgrow1 ((HU.alloc (.cells #[.int .i64 k] 2)).2.1 t htn) (by omega) (by have:=HU.1.lt;simp;omega);have hbel:=Xa (XG (Xb hwi (.cells #[.int .i64 k] 2)) hgrow1 ((HU.alloc (.cells #[.int .i64 k] 2)).2.1 t htn) (by omega) (by have:=hwi.size;simp;omega));have hcG:w1.cell? ⟨w.heap.size+1,t,none⟩=some (U t):=by rw[Xc hbG];exact((HU.alloc (.cells #[.int .i64 k] 2)).1).cell htn
     have hfG:w1.frozen? ⟨w.heap.size+1,t,none⟩=false:=by rw[World.frozen?_of_block (w:=wr.alloc (.cells #[.int .i64 k] 2)) (a:=⟨w.heap.size+1,t,none⟩) hbG];exact((HU.alloc (.cells #[.int .i64 k] 2)).1).frozen t
     have hgz:=hgrow1.size;simp at hgz;have hsm:Yp (M+1) w2.heap.size wr w1:=fun q q1 q2=>(hgrow1.block q (by simp;omega) (fun e=>by have:=HAV.out t q htn e.symm;omega)).trans (Below.heap_alloc _ _ _ (by omega))
     have HSM:=Xa hsm;have hii2:=Xa (hii.keepS hsm);have HAT:=Xa hat1;have HV:=Xa hv;clear hsm;clear hown1 hgrow1 hat1 hbG hcU hfU;rw[hv];clear hv;go_wp2;have hv2:=HV.out;rw[List.length_append,List.length_cons,List.length_nil,Nat.zero_add]at hv2;rw[<-hv2];refine⟨⟨j+1,by omega,by go_num,hbel.setCell (by dsimp only;omega) _,by rw[Xd];omega,hii2.keepS ((Yp.refl _ _ _).setCell (Or.inl (by dsimp only;omega)) _),⟨_,(hst.out).congr (fun i _=>?_),fun i g hi hg=>?_⟩⟩,by simp[intOf];omega⟩
     ·rw[hts.out,Tb xs k i (ts.take j) t hnd.out]
     ·by_cases e:i=t
      ·subst e
       simp only[if_true]at hg;rcases HAT.out with q | q
       ·exact HAV.out i g hi (by rw[<-q];exact hg)
       ·rw[q]at hg
        have:=Option.some.inj hg;omega
      ·simp only[e,if_false]at hg
       exact HAV.out i g hi hg
    ·have E:=Xa (List.take_of_length_le (l:=ts) (i:=j) (by omega))
     go_wp2;refine⟨⟨k+1,by omega,by go_num,hwi,?_⟩,by simp[intOf];omega⟩;obtain⟨U,hU,_⟩:=hri.out;exact⟨U,hU.congr (fun i _=>by rw[E.out,hwh.out,ZX])⟩
  ·go_wp2
   go_ret
   obtain⟨U,hU⟩:=hrw.out;have e:=List.take_of_length_le (l:=xs) (i:=k) (by have:=hx.out;omega);exact⟨U,rfl,hw,hU.congr (P':=fun i:Nat=>predsFrom xs 0 (i:Int)) (fun i _=>by rw[ZX,e])⟩
end Go.Proofs.YtbofmlmdgkblkaaDoor
namespace Go.Proofs.YtbofmlmdgkblkaaDoor
set_option maxHeartbeats 1000000
set_option maxRecDepth 100000
open Go.RowKit
theorem Wg(vl:Int)(a:Option Addr)(n c:Nat)(w:World)(hn:n<=1000) :
 Calls Tryd.prog 38 #[.agg #[.int .i64 vl,.slice a n c]] w fun e w'=>∃bS gS,e=.returned (.pointer (some ⟨bS,0,none⟩))/\w.heap.size<=bS/\w.heap.size<=gS/\Below w.heap.size w w'/\YQ w' bS gS w'.heap.size ((n+63) / 64) a n c (fun _=>0) (.slice none 0 0) []:=by
 have HNS:=Xa (fun W=>VQ n W (by omega))
 go_enter Tryd.func38,Tryd.ntmps38
 go_wp2_with fail
 refine YS (fun w'=>w'.cell? ⟨w.heap.size,1,none⟩=some (.slice a n c)) (fun hHeld=>?_);refine Xr 0 ?_;refine Xr 1 ?_;refine Xr 2 ?_;refine Xr 3 ?_;refine Xr 4 ?_;refine Xs 5 (fun K hK=>?_);go_simp
 go_at_call 62
 refine(HNS.out _).mono ?_;rintro e w3 ⟨gS,rfl,hgS,hb3,hr3⟩;have hz3:w.heap.size+1<=w3.heap.size:=by have:=hb3.size;simp at this;omega
 have hc3:w3.cell? ⟨w.heap.size,1,none⟩=some (.slice a n c):=(hb3.cell (p:=⟨w.heap.size,1,none⟩) (by show w.heap.size<_;simp)).trans (by simp[go_sem]);have hgl:=hr3.lt;have HB3:Hid (Below w.heap.size w w3):=Xa (Xj (w1:=(w.alloc (.cells #[.int .i64 vl,.slice a n c] 25)).drew) (Xb (Below.refl _ _) _).drew hb3);have HR3:=Xa hr3;have hgb:w.heap.size<=gS:=by simp at hgS;omega
 clear hb3 hr3 hgS;refine hK _ _ hc3 (fun hHeld=>?_);clear hK;refine Xr 6 ?_;refine Xs 7 (fun K hK=>?_);go_simp;refine hK _ _ ((World.cell?_alloc_lt _ _ _ (by show w.heap.size<_;omega)).trans hc3) (fun hHeld=>?_);clear hK;refine Xr 8 ?_;refine Y5 ?_
 go_wp2_with fail
 go_ret
 refine⟨w3.heap.size,gS,rfl,by omega,hgb,Xb HB3.out _,⟨by simp,by simp,by simp,fun q=>by simp,HR3.alloc _,World.ownsRow_nil _ _ _ _,by simp,by simp;omega,by omega,Nat.le_refl _⟩⟩
end Go.Proofs.YtbofmlmdgkblkaaDoor
namespace Go.Proofs.YtbofmlmdgkblkaaDoor
open Go.RowKit
theorem XQ{P:Program}{ops:Array Oper}{w:World}{o:Oper}{a:Act}{K:Act->World->Prop}{Q:Exit->Act->World->Prop}{E:Prop}(hgd:o.guard=none)(s x:Operand)(t:TypeId)
 (ho:o.op=.call { callee:=.builtin .append,args:=#[s,x],argTypes:=#[t,t] })
 (base:Nat) (e:TypeId) (i:TypeInfo) (z:Value) (size bytes:Nat) (ht:P.underlying t=some (.slice e)) (hi:P.info? e=some i) (hz:i.zero=some z)
 (hsize:i.size=size) (hby:i.bytes=bytes) (hzs:z.cells.size=size) (hsz:0<size)
 (v:Value) (n:Nat) (xs:List Value) (hs:a.eval s=v) (hown:w.ownsRow base e size v n xs)
 (ad:Addr) (m c:Nat) (news:List Value) (hx:a.eval x=.slice (some ad) m c) (hl:news.length=m*size) (hnews:∀j u,news[j]?=some u->w.cell? (ad.add j)=some u) (h1:∀u∈news,u.oneCell'=true)
 (h63:n+m<=maxLen) (hbytes:(n+m)*bytes<=140737488355328) (hbase:base<=w.heap.size)
 (h:∀v' w',w'.ownsRow base e size v' (n+m) (xs++news)->w.grownBy w' v.ownBlock->(v'=.slice none 0 0↔v=.slice none 0 0/\m=0)->(v'.ownBlock=v.ownBlock\/v'.ownBlock=some w.heap.size)->K (a.put o.dst v') w') :
 if Region.wanted o (yielded ops a.tmps)=true then Oper.wp P o a w K Q else E:=by
 have hw:Region.wanted o (yielded ops a.tmps)=true:=by simp[Region.wanted,hgd]
 rw[if_pos hw];obtain⟨v',w',hr,h2,h3,h4,h5⟩:=run_append_own_at (P:=P) w base t o.type e i z size bytes ht hi hz hsize hby hzs hsz v n xs hown ad m c news hl hnews h1 h63 hbytes hbase;unfold Oper.wp execOp;simp only[ho,resolve,invoke,builtin,Sem.run_bind,Sem.run_pure,Result.andThen_ok,List.map_toArray,List.map_cons,List.map_nil,hs,hx,hr];exact h v' w' h2 h3 h4 h5
theorem Tryd.infoSetI:(Tryd.prog.info? 47).map (fun i=>(i.zero,i.size,i.bytes))=some (some (.agg #[.slice none 0 0]),1,24):=by kernel_rfl
structure FwI(w6 wr:World)(F:Nat)(x2 x3:Value)(U V:Nat->Value)(b1:Nat)(p1:Option Addr)(c1 b2:Nat)(p2:Option Addr)(c2:Nat):Prop where
 e0:wr.cell? ⟨F,0,none⟩=some (.slice p1 b1 c1)
 e1:wr.cell? ⟨F,1,none⟩=some (.slice p2 b2 c2)
 e2:wr.cell? ⟨F,2,none⟩=some x2
 e3:wr.cell? ⟨F,3,none⟩=some x3
 thaw:∀q,wr.frozen? ⟨F,q,none⟩=false
 bel:Below F w6 wr
 lt:F<wr.heap.size
 le:F=w6.heap.size
 o1:wr.ownsRow (F+1) 47 1 (.slice p1 b1 c1) b1 ((List.range b1).map U)
 o2:wr.ownsRow (F+1) 4 1 (.slice p2 b2 c2) b2 ((List.range b2).map V)
 dj:(Value.slice p1 b1 c1).ownBlock=none\/(Value.slice p1 b1 c1).ownBlock≠(Value.slice p2 b2 c2).ownBlock
theorem ZhP{w w':World}{B B' t s n:Nat}{v:Value}{cs:List Value}(h:w.ownsRow B t s v n cs)(hB:B'<=B)(hk:∀k,v.ownBlock=some k->w'.heap[k]?=w.heap[k]?):w'.ownsRow B' t s v n cs:=by
 obtain⟨h1,h2 | ⟨g,cap,cur,e,hg,hh,hr⟩⟩:=h
 ·exact⟨h1,Or.inl h2⟩
 ·exact⟨h1,Or.inr ⟨g,cap,cur,e,Nat.le_trans hB hg,(hk g (by rw[e];rfl)).trans hh,hr⟩⟩
theorem ZiM{w:World}{R F t:Nat}{f:Nat->Value}(hR:w.rowIs R t 4 f)(hne:R≠F)(x z0 z1 z2 z3:Value)(wE:World)(e:wE=((((w.setCell ⟨F,3,none⟩ x).setCell ⟨R,0,none⟩ z0).setCell ⟨R,1,none⟩ z1).setCell ⟨R,2,none⟩ z2).setCell ⟨R,3,none⟩ z3) :
 wE.cell? ⟨R,0,none⟩=some z0/\wE.cell? ⟨R,1,none⟩=some z1/\wE.cell? ⟨R,2,none⟩=some z2/\wE.cell? ⟨R,3,none⟩=some z3/\(∀k,k≠F->k≠R->wE.heap[k]?=w.heap[k]?)/\wE.heap.size=w.heap.size/\wE.os=w.os/\wE.tape=w.tape/\wE.output=w.output:=by
 have h:=((((hR.setOther (a:=⟨F,3,none⟩) hne x).set 0 z0).set 1 z1).set 2 z2).set 3 z3;rw[<-e]at h;refine⟨?_,?_,?_,?_,fun k h1 h2=>?_,?_,?_,?_,?_⟩
 ·rw[h.cell (by decide)];simp
 ·rw[h.cell (by decide)];simp
 ·rw[h.cell (by decide)];simp
 ·rw[h.cell (by decide)];simp
 ·rw[e,Below.heap_setCell _ _ _ _ h2,Below.heap_setCell _ _ _ _ h2,Below.heap_setCell _ _ _ _ h2,Below.heap_setCell _ _ _ _ h2,Below.heap_setCell _ _ _ _ h1]
 ·rw[e];simp[World.setCell]
 ·rw[e];simp[World.setCell]
 ·rw[e];simp[World.setCell]
 ·rw[e];simp[World.setCell]
section
variable {w6 wr wr' : World} {F : Nat} {x2 x3 : Value} {U V : Nat -> Value} {b1 : Nat} {p1 : Option Addr} {c1 b2 : Nat} {p2 : Option Addr} {c2 : Nat}
theorem FwI.below(h:FwI w6 wr F x2 x3 U V b1 p1 c1 b2 p2 c2)(k:Below wr.heap.size wr wr'):FwI w6 wr' F x2 x3 U V b1 p1 c1 b2 p2 c2:=by
 have hb:=k.block F h.lt;have ce:∀q,wr'.cell? ⟨F,q,none⟩=wr.cell? ⟨F,q,none⟩:=fun q=>World.cell?_of_block hb
 have own:∀{t v n cs},wr.ownsRow (F+1) t 1 v n cs->wr'.ownsRow (F+1) t 1 v n cs:=fun {t v n cs} ho=>by
  refine ho.kept (row:=none) ⟨k.os,k.tape,k.output,k.size,fun j hj _=>k.block j hj⟩ ?_;cases v.ownBlock with
  | none=>exact Or.inl rfl
  | some j=>exact Or.inr (by simp)
 exact⟨(ce 0).trans h.e0,(ce 1).trans h.e1,(ce 2).trans h.e2,(ce 3).trans h.e3,fun q=>(World.frozen?_of_block hb).trans (h.thaw q),h.bel.trans (k.mono (Nat.le_of_lt h.lt)),Nat.lt_of_lt_of_le h.lt k.size,h.le,own h.o1,own h.o2,h.dj⟩
theorem Wu{w:World}{B t s n:Nat}{v:Value}{cs:List Value}(h:w.ownsRow B t s v n cs){k:Nat}(hk:w.heap.size<=k):v.ownBlock=none\/v.ownBlock≠some k:=by
 by_cases e:v.ownBlock=some k
 ·have:=(h.lt k e).2;omega
 ·exact Or.inr e
theorem ZgI{a b:Option Nat}(h:a=none\/a≠b):b=none\/b≠a:=by
 rcases h with h | h
 ·subst h
  cases b with
  | none=>exact Or.inl rfl
  | some k=>exact Or.inr (by simp)
 ·exact Or.inr (fun e=>h e.symm)
theorem ZeV{w:World}{B t s n:Nat}{v:Value}{cs:List Value}(h:w.ownsRow B t s v n cs):w.drew.ownsRow B t s v n cs:=h
theorem Vv{α:Type}(f:Nat->α)(b:Nat):(List.range (b+1)).map f=(List.range b).map f++[f b]:=by rw[List.range_succ,List.map_append];rfl
theorem FwI.app1{w8:World}{ob:Obj}{p1':Option Addr}{c1':Nat}(h:FwI w6 wr F x2 x3 U V b1 p1 c1 b2 p2 c2)(hg:(wr.alloc ob).grownBy w8 (Value.slice p1 b1 c1).ownBlock)(ho:w8.ownsRow (F+1) 47 1 (.slice p1' (b1+1) c1') (b1+1) ((List.range b1).map U++[U b1]))(hat:(Value.slice p1' (b1+1) c1').ownBlock=(Value.slice p1 b1 c1).ownBlock\/(Value.slice p1' (b1+1) c1').ownBlock=some (wr.heap.size+1)) :
 FwI w6 (w8.setCell ⟨F,0,none⟩ (.slice p1' (b1+1) c1')) F x2 x3 U V (b1+1) p1' c1' b2 p2 c2/\(∀q,w8.cell? ⟨F,q,none⟩=wr.cell? ⟨F,q,none⟩)/\(∀q,w8.frozen? ⟨F,q,none⟩=false)/\Below F wr w8:=by
 have hlt:=h.lt;have ha:∀k,k<wr.heap.size->(wr.alloc ob).heap[k]?=wr.heap[k]?:=fun k hk=>Below.heap_alloc _ _ _ hk
 have hsz:(wr.alloc ob).heap.size=wr.heap.size+1:=World.size_alloc _ _;have hgs:=hg.size;have hnv:∀k,k<=F->some k≠(Value.slice p1 b1 c1).ownBlock:=fun k hk e=>by have:=(h.o1.lt k e.symm).1;omega
 have hb:w8.heap[F]?=wr.heap[F]?:=(hg.block F (by omega) (hnv _ (Nat.le_refl _))).trans (ha _ hlt);have ce:∀q,w8.cell? ⟨F,q,none⟩=wr.cell? ⟨F,q,none⟩:=fun q=>World.cell?_of_block hb
 have fe:∀q,w8.frozen? ⟨F,q,none⟩=false:=fun q=>(World.frozen?_of_block hb).trans (h.thaw q)
 have hbl:Below F wr w8:=⟨hg.os,hg.tape,hg.output,by omega,fun k hk=>(hg.block k (by omega) (hnv k (by omega))).trans (ha k (by omega))⟩;refine⟨⟨World.cell?_setCell_same _ _ _ ((ce 0).trans h.e0),(XC _ _ (by omega) _).trans ((ce 1).trans h.e1),(XC _ _ (by omega) _).trans ((ce 2).trans h.e2),(XC _ _ (by omega) _).trans ((ce 3).trans h.e3),fun q=>by rw[World.frozen?_setCell];exact fe q,(h.bel.trans hbl).setCell (p:=⟨F,0,none⟩) (Nat.le_refl _) _,by rw[Xd];omega,h.le,?_,?_,?_⟩,ce,fe,hbl⟩
 ·rw[Vv]
  exact ownsRow_setCell_below ho (by show F<F+1;omega) _
 ·exact ownsRow_setCell_below ((h.o2.alloc ob).kept hg (ZgI h.dj)) (by show F<F+1;omega) _
 ·rcases hat with e | e
  ·rw[e];exact h.dj
  ·rcases Wu h.o2 (k:=wr.heap.size+1) (by omega)with f | f
   ·exact Or.inr (by rw[e,f];simp)
   ·exact Or.inr (by rw[e];exact fun k=>f k.symm)
theorem FwI.app2{w8:World}{ob:Obj}{p2':Option Addr}{c2':Nat}(h:FwI w6 wr F x2 x3 U V b1 p1 c1 b2 p2 c2)(hg:(wr.alloc ob).grownBy w8 (Value.slice p2 b2 c2).ownBlock)(ho:w8.ownsRow (F+1) 4 1 (.slice p2' (b2+1) c2') (b2+1) ((List.range b2).map V++[V b2]))(hat:(Value.slice p2' (b2+1) c2').ownBlock=(Value.slice p2 b2 c2).ownBlock\/(Value.slice p2' (b2+1) c2').ownBlock=some (wr.heap.size+1)) :
 FwI w6 (w8.setCell ⟨F,1,none⟩ (.slice p2' (b2+1) c2')) F x2 x3 U V b1 p1 c1 (b2+1) p2' c2'/\(∀q,w8.cell? ⟨F,q,none⟩=wr.cell? ⟨F,q,none⟩)/\(∀q,w8.frozen? ⟨F,q,none⟩=false)/\Below F wr w8:=by
 have hlt:=h.lt;have ha:∀k,k<wr.heap.size->(wr.alloc ob).heap[k]?=wr.heap[k]?:=fun k hk=>Below.heap_alloc _ _ _ hk
 have hsz:(wr.alloc ob).heap.size=wr.heap.size+1:=World.size_alloc _ _;have hgs:=hg.size;have hnv:∀k,k<=F->some k≠(Value.slice p2 b2 c2).ownBlock:=fun k hk e=>by have:=(h.o2.lt k e.symm).1;omega
 have hb:w8.heap[F]?=wr.heap[F]?:=(hg.block F (by omega) (hnv _ (Nat.le_refl _))).trans (ha _ hlt);have ce:∀q,w8.cell? ⟨F,q,none⟩=wr.cell? ⟨F,q,none⟩:=fun q=>World.cell?_of_block hb
 have fe:∀q,w8.frozen? ⟨F,q,none⟩=false:=fun q=>(World.frozen?_of_block hb).trans (h.thaw q)
 have hbl:Below F wr w8:=⟨hg.os,hg.tape,hg.output,by omega,fun k hk=>(hg.block k (by omega) (hnv k (by omega))).trans (ha k (by omega))⟩;refine⟨⟨(XC _ _ (by omega) _).trans ((ce 0).trans h.e0),World.cell?_setCell_same _ _ _ ((ce 1).trans h.e1),(XC _ _ (by omega) _).trans ((ce 2).trans h.e2),(XC _ _ (by omega) _).trans ((ce 3).trans h.e3),fun q=>by rw[World.frozen?_setCell];exact fe q,(h.bel.trans hbl).setCell (p:=⟨F,1,none⟩) (Nat.le_refl _) _,by rw[Xd];omega,h.le,?_,?_,?_⟩,ce,fe,hbl⟩
 ·exact ownsRow_setCell_below ((h.o1.alloc ob).kept hg h.dj) (by show F<F+1;omega) _
 ·rw[Vv]
  exact ownsRow_setCell_below ho (by show F<F+1;omega) _
 ·rcases hat with e | e
  ·rw[e];exact h.dj
  ·rcases Wu h.o1 (k:=wr.heap.size+1) (by omega)with f | f
   ·exact Or.inl f
   ·exact Or.inr (by rw[e];exact f)
end
end Go.Proofs.YtbofmlmdgkblkaaDoor
namespace Go.Proofs.YtbofmlmdgkblkaaDoor
set_option maxHeartbeats 4000000
open Go.RowKit
theorem Te(op dst a b imm n most:Int)(w:World) :
 Calls Tryd.prog 17 #[.agg #[.int .i64 op,.int .i64 dst,.int .i64 a,.int .i64 b,.int .i64 imm],.int .i64 n,.int .i64 most] w fun e w'=>e=.returned (.bool (Yh n most ⟨op,dst,a,b,imm⟩))/\Below w.heap.size w w':=by
 by_cases h:1<=op/\op<=most
 ·obtain⟨h1,h2⟩:=h
  go_enter Tryd.func17,Tryd.ntmps17
  go_wp2_with fail
  refine(ZaN _ _).mono ?_;rintro e w1 ⟨rfl,rfl⟩
  go_wp2_with fail
  refine(Zfn _ _).mono ?_;rintro e w1 ⟨rfl,rfl⟩
  go_wp2_with fail
  refine(Zhb _ _).mono ?_;rintro e w1 ⟨rfl,rfl⟩;go_wp2
  all_goals
   go_ret
   refine⟨Xm ?_,Xb (Below.refl _ _) _⟩
   first | (simp[Yh,Kt,UI, *];done) | (simp[Yh,Kt,UI, *];omega) | (rw[Bool.eq_iff_iff];simp[Yh,Kt,UI, *];omega)
 ·go_enter Tryd.func17,Tryd.ntmps17
  go_wp2
  all_goals
   go_ret
   refine⟨Xm ?_,Xb (Below.refl _ _) _⟩;symm;unfold Yh;by_cases h1:1<=op
   ·rw[decide_eq_false (p:=op<=most) (by omega)];simp
   ·rw[decide_eq_false (p:=1<=op) h1];simp
end Go.Proofs.YtbofmlmdgkblkaaDoor
namespace Go.Proofs.YtbofmlmdgkblkaaDoor
set_option maxRecDepth 100000
set_option maxHeartbeats 8000000
open Go.RowKit
attribute [local go_sem ↓] Go.wp_at_zero Go.wp_at_succ
def JX(v:Int)(n:Nat)(x:Xg):Bool:=x.instrs.all (Yh v 10)&&ZI v n x.term
theorem Zgl(F:Fn):(Zl F&&ZY F)=F.blocks.all (JX F.values F.blocks.length):=by
 rw[show F.blocks.all (JX F.values F.blocks.length)=F.blocks.all (fun x=>x.instrs.all (Yh F.values 10)&&ZI F.values F.blocks.length x.term) from rfl,ZcG];rfl
theorem Wm(v:Int)(a:Option Addr)(n c:Nat)(xs:List Xg)(L B:Nat)(w:World)(ha:Hid (Xy w L B a xs))(hx:Hid (n=xs.length))(hn:n<=1048576)(hbs:Hid (Xo xs<=1048576))(hB:B<=w.heap.size)
 (h:Hid (¬(0<=v/\v<=2000/\1<=n/\n<=1000/\Xo xs<=4000))) :
 Calls Tryd.prog 6 #[.agg #[.int .i64 v,.slice a n c]] w fun e w'=>e=.returned (.bool false)/\Below w.heap.size w w':=by
 by_cases hd:0<=v/\v<=2000/\1<=n/\n<=1000
 ·obtain⟨d0,d1,d2,d3⟩:=hd
  have hsz:4000<Xo xs:=by have:=h.out;omega
  go_enter Tryd.func6,Tryd.ntmps6
  go_wp2_with fail
  refine(VC v a n c xs L B _ ?q1 hx hn hbs.out ?q2).mono ?_
  case q1=>exact ha.keep (Xb (Below.refl _ _) _ |>.mono hB)
  case q2=>simp;omega
  rintro e w1 ⟨rfl,hb1⟩;go_wp2
  go_ret
  exact⟨rfl,Xj (Xb (Below.refl _ _) _) hb1⟩
 ·have hd':v<0\/(0<=v/\2000<v)\/(0<=v/\v<=2000/\n<1)\/(0<=v/\v<=2000/\1<=n/\1000<n):=by omega
  clear hd;rcases hd' with d | ⟨d,d1⟩ | ⟨d,d1,d2⟩ | ⟨d,d1,d2,d3⟩
  all_goals
   go_enter Tryd.func6,Tryd.ntmps6
   go_wp2
   go_ret
   exact⟨rfl,Xb (Below.refl _ _) _⟩
end Go.Proofs.YtbofmlmdgkblkaaDoor
