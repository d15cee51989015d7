import Derived.Test.YtlmgmkmomaileaaGreatDoorSQ5
import Derived.Maps.Views
import Derived.Maps.OwnOps
import Derived.Maps.RangeWalk
import Derived.Lib.SlKeysI
import Derived.Laws.IdiomRangeMap
import Derived.Shelf.Lay
namespace Go.Proofs.YtlmgmkmomaileaaGreatDoor
open Go.RowKit Go.Maps
def YX(v:Value):Option (DataW Unit × List MemPlace):=match v with
 | .agg a=>match a.toList with
  | [.int .i64 o,.int .i64 d,.int .i64 x,.int .i64 y,.int .i64 i]=>some (.agg [.lit (.int .i64 o),.lit (.int .i64 d),.lit (.int .i64 x),.lit (.int .i64 y),.lit (.int .i64 i)],[])
  | _=>none
 | _=>none
def TX(x:XN):DataW Unit:=.agg [.lit (.int .i64 x.op),.lit (.int .i64 x.dst),.lit (.int .i64 x.a),.lit (.int .i64 x.b),.lit (.int .i64 x.imm)]
def KE(x:XN):Value:=.agg #[.int .i64 x.op,.int .i64 x.dst,.int .i64 x.a,.int .i64 x.b,.int .i64 x.imm]
theorem ZiE(x:XN):YX (KE x)=some (TX x,[]):=rfl
theorem JN{v:Value}{y:DataW Unit × List MemPlace}(h:YX v=some y):∃x,v=KE x/\y=(TX x,[]):=by
 unfold YX at h;split at h
 ·rename_i a
  split at h
  ·rename_i o d p q i he
   cases h;refine⟨⟨o,d,p,q,i⟩,?_,rfl⟩;cases a;simp only at he;subst he;rfl
  ·cases h
 ·cases h
theorem Zae{x y:XN}(h:TX x=TX y):x=y:=by
 obtain⟨a,b,c,d,e⟩:=x;obtain⟨a',b',c',d',e'⟩:=y;simp only[TX,DataW.agg.injEq,List.cons.injEq,DataW.lit.injEq,Lit.int.injEq,true_and,and_true]at h;obtain⟨rfl,rfl,rfl,rfl,rfl⟩:=h;rfl
theorem Tryz.keyI:Keyed Tryz.prog 2:=int_keyed Tryz.underlying2
theorem Wu(t:Int)(h:-9223372036854775808<=t/\t<=9223372036854775807):keyOf Tryz.prog 2 (.int .i64 t)=some (.int .i64 t):=keyOf_int_mk Tryz.underlying2 (WalkArith.wf_i64 h)
theorem TV(t:Int):WideAt.IsKeyLit (.int .i64 t):=by simp[WideAt.IsKeyLit]
structure Ze(D:DataW Unit)(L:List Mv):Prop where
 tidy:Tidy D
 keys:∀k,has D k=true↔∃m∈L,k=.int .i64 m.to
 at_:∀m∈L,∀z,D.atKey (.int .i64 m.to) z=TX (cpI m)
 size:size D=L.length
theorem Ze.nil:Ze (.map []) []:=⟨tidy_empty,fun k=>by simp[has],(fun m hm=>by cases hm),rfl⟩
theorem Ze.has_iff{D:DataW Unit}{L:List Mv}(h:Ze D L)(t:Int):has D (.int .i64 t)=L.any (fun m=>m.to==t):=by
 cases hb:L.any (fun m=>m.to==t)with
 | true =>
  obtain⟨m,hm,e⟩:=List.any_eq_true.1 hb;exact(h.keys _).2 ⟨m,hm,by rw[show m.to=t by simpa using e]⟩
 | false =>
  cases hh:has D (.int .i64 t)with
  | false=>rfl
  | true =>
   obtain⟨m,hm,e⟩:=(h.keys _).1 hh;have:=List.any_eq_false.1 hb m hm;simp only[Lit.int.injEq,true_and]at e;simp[e]at this
theorem Ze.put_new{D:DataW Unit}{L:List Mv}(h:Ze D L){m:Mv}(hn:L.any (fun q=>q.to==m.to)=false):Ze (D.put (.int .i64 m.to) (TX (cpI m))) (L++[m]):=by
 have hne:∀q∈L,q.to≠m.to:=fun q hq e=>by have:=List.any_eq_false.1 hn q hq;simp[e]at this
 refine⟨h.tidy.put (TV _) _,fun k=>?_,fun q hq z=>?_,?_⟩
 ·by_cases e:k=.int .i64 m.to
  ·subst e
   exact⟨fun _=>⟨m,sP,rfl⟩,fun _=>has_put_same h.tidy.isMap (TV _) _⟩
  ·rw[has_put_other e,h.keys k]
   constructor
   ·rintro⟨q,hq,e2⟩;exact⟨q,List.mem_append_left _ hq,e2⟩
   ·rintro⟨q,hq,e2⟩
    rcases List.mem_append.1 hq with hq | hq
    ·exact⟨q,hq,e2⟩
    ·rw[List.mem_singleton.1 hq]at e2;exact absurd e2 e
 ·rcases List.mem_append.1 hq with hq | hq
  ·rw[atKey_put_other (fun e=>hne q hq (by simpa using e))]
   exact h.at_ q hq z
  ·rw[List.mem_singleton.1 hq]
   exact atKey_put_same h.tidy.isMap (TV _) _ _
 ·rw[size_put h.tidy,h.has_iff,hn,h.size]
  simp
theorem Ze.del{D:DataW Unit}{L:List Mv}(h:Ze D L)(hnd:(Yg L).Nodup)(t:Int):Ze (D.del (.int .i64 t)) (without L t):=by
 have hmem:∀q,q∈without L t↔q∈L/\q.to≠t:=fun q=>by simp[without]
 refine⟨h.tidy.del _,fun k=>?_,fun q hq z=>?_,?_⟩
 ·by_cases e:k=.int .i64 t
  ·subst e
   rw[has_del_same];constructor
   ·intro h;cases h
   ·rintro⟨q,hq,e2⟩;exact absurd (by simpa using e2.symm) ((hmem q).1 hq).2
  ·rw[has_del_other e,h.keys k]
   constructor
   ·rintro⟨q,hq,e2⟩;exact⟨q,(hmem q).2 ⟨hq,fun e3=>e (by rw[e2,e3])⟩,e2⟩
   ·rintro⟨q,hq,e2⟩;exact⟨q,((hmem q).1 hq).1,e2⟩
 ·obtain⟨h1,h2⟩:=(hmem q).1 hq
  rw[atKey_del_other (fun e=>h2 (by simpa using e))];exact h.at_ q h1 z
 ·have hs:=size_del (k:=.int .i64 t) h.tidy
  rw[h.has_iff,h.size]at hs;have key:∀(ys:List Mv),(Yg ys).Nodup->(without ys t).length+(if ys.any (fun m=>m.to==t)then 1 else 0)=ys.length:=by
   intro ys
   induction ys with
   | nil=>intro _;rfl
   | cons m ys ih =>
    intro hn;obtain⟨h1,h2⟩:=List.nodup_cons.1 hn;have:=ih h2;unfold without at *;by_cases e:m.to=t
    ·have hno:ys.any (fun m=>m.to==t)=false:=List.any_eq_false.2 (fun q hq=>by
      have:q.to≠t:=fun e2=>h1 (by show m.to∈Yg ys;rw[e,<-e2];exact List.mem_map.2 ⟨q,hq,rfl⟩)
      simpa using this)
     rw[List.filter_cons_of_neg (by simp[e]),List.any_cons,show(m.to==t)=true by simpa using e,Bool.true_or,if_pos rfl,List.length_cons];rw[hno]at this;simpa using this
    ·rw[List.filter_cons_of_pos (by simpa using e),List.any_cons,show(m.to==t)=false by simpa using e,Bool.false_or,List.length_cons,List.length_cons]
     omega
  have:=key L hnd;omega
def JP(L:List Mv)(t:Int):List Mv:=L.map fun m=>if m.to=t then ⟨m.to,-1⟩else m
theorem Ze.put_old{D:DataW Unit}{L:List Mv}(h:Ze D L){t:Int}(hin:L.any (fun m=>m.to==t)=true):Ze (D.put (.int .i64 t) (TX ⟨13,t,0,0,0⟩)) (JP L t):=by
 have hto:∀m:Mv,(if m.to=t then (⟨m.to,-1⟩:Mv)else m).to=m.to:=fun m=>by split<;>rfl
 refine⟨h.tidy.put (TV _) _,fun k=>?_,fun q hq z=>?_,?_⟩
 ·have hk:(∃m∈JP L t,k=.int .i64 m.to)↔∃m∈L,k=.int .i64 m.to:=by
   constructor
   ·rintro⟨m,hm,e⟩
    obtain⟨q,hq,rfl⟩:=List.mem_map.1 hm;exact⟨q,hq,by rw[e,hto]⟩
   ·rintro⟨m,hm,e⟩
    exact⟨_,List.mem_map.2 ⟨m,hm,rfl⟩,by rw[hto];exact e⟩
  rw[hk];by_cases e:k=.int .i64 t
  ·subst e
   rw[has_put_same h.tidy.isMap (TV _),<-h.keys,h.has_iff,hin]
  ·rw[has_put_other e,h.keys]
 ·obtain⟨m,hm,rfl⟩:=List.mem_map.1 hq
  by_cases e:m.to=t
  ·rw[if_pos e]
   show(D.put (.int .i64 t) _).atKey (.int .i64 m.to) z=_;rw[e,atKey_put_same h.tidy.isMap (TV _)];rfl
  ·rw[if_neg e,atKey_put_other (fun e2=>e (by simpa using e2))]
   exact h.at_ m hm z
 ·rw[size_put h.tidy,h.has_iff,hin,if_pos rfl,h.size]
  simp[JP]
theorem Ze.perm{D:DataW Unit}{L:List Mv}(h:Ze D L)(hnd:(Yg L).Nodup)(hkl:∀es,D=.map es->∀p∈es,WideAt.IsKeyLit p.1):(intKeys D).Perm (Yg L):=by
 obtain⟨es,rfl,hp⟩:=h.tidy;have hk:∀p∈es,∃m∈L,p.1=.int .i64 m.to:=fun p hp'=>(h.keys p.1).1 (by
  rw[has_eq];exact List.any_eq_true.2 ⟨p,hp',WideAt.sameKey_self (hkl es rfl p hp')⟩)
 have hnd2:(es.map fun p=>intOf p.1).Nodup:=by
  unfold List.Nodup;rw[List.pairwise_map];refine hp.imp_of_mem (fun {a b} ha hb hne e=>?_);obtain⟨m1,_,e1⟩:=hk a ha;obtain⟨m2,_,e2⟩:=hk b hb;rw[e1,e2]at e;exact hne (by rw[e1,e2];exact congrArg (Lit.int .i64) e)
 refine(List.perm_ext_iff_of_nodup hnd2 hnd).2 (fun t=>?_);constructor
 ·intro ht
  obtain⟨p,hp',rfl⟩:=List.mem_map.1 ht;obtain⟨m,hm,e⟩:=hk p hp';rw[e];exact List.mem_map.2 ⟨m,hm,rfl⟩
 ·intro ht
  obtain⟨m,hm,rfl⟩:=List.mem_map.1 ht;have:=(h.keys (.int .i64 m.to)).2 ⟨m,hm,rfl⟩;rw[has_eq]at this;obtain⟨p,hp',e⟩:=List.any_eq_true.1 this;refine List.mem_map.2 ⟨p,hp',?_⟩;rw[WideAt.sameKey_eq e];rfl
end Go.Proofs.YtlmgmkmomaileaaGreatDoor
namespace Go.Proofs.YtlmgmkmomaileaaGreatDoor
set_option maxHeartbeats 2000000
set_option maxRecDepth 100000
open Go.RowKit Go.Maps Go.Shelf
theorem Tryz.zeroIns(w:World):(zeroValue 54).run Tryz.prog w=.ok (KE ⟨0,0,0,0,0⟩) w:=vZ
theorem Zjk{w:World}{b n:Nat}{D:DataW Unit}{L:List Mv}(h:w.ownsMap Tryz.prog 2 YX b n D)(hm:Ze D L)(t:Int)(ht:-9223372036854775808<=t/\t<=9223372036854775807) :
 ∃x,(Instr.lookup 207 (.map (some b)) (.int .i64 t) true).run Tryz.prog w=.ok (.tuple #[KE x,.bool (L.any fun m=>m.to==t)]) w:=by
 obtain⟨es,clock,hb,F,_,hD⟩:=h;rcases Maps.fit_look true Tryz.keyI Tryz.underlying207 (Tryz.zeroIns w) hb F (Wu t ht)with⟨hrun,_,hz⟩ | ⟨e0,y,_,_,hrun,hR,hz,_⟩
 ·refine⟨⟨0,0,0,0,0⟩,?_⟩
  have:has D (.int .i64 t)=false:=has_false_of_atKey (by rw[hD];exact hz);rw[hm.has_iff]at this;rw[this];exact hrun
 ·obtain⟨x,hx,rfl⟩:=JN hR
  refine⟨x,?_⟩;have:has D (.int .i64 t)=true:=has_true_of_atKey (y:=TX x) (by rw[hD];exact hz);rw[hm.has_iff]at this;rw[this,<-hx];exact hrun
theorem ZbX{w:World}{b n:Nat}{D:DataW Unit}{L:List Mv}(h:w.ownsMap Tryz.prog 2 YX b n D)(hm:Ze D L){m:Mv}(hin:m∈L)(ht:-9223372036854775808<=m.to/\m.to<=9223372036854775807) :
 (Instr.lookup 207 (.map (some b)) (.int .i64 m.to) false).run Tryz.prog w=.ok (KE (cpI m)) w:=by
 obtain⟨v,ps,hrun,hv⟩:=h.lookup Tryz.keyI Tryz.underlying207 (Tryz.zeroIns w) (ZiE _) (Wu m.to ht);rw[hm.at_ m hin]at hv;obtain⟨x,rfl,hx⟩:=JN hv;simp only[Prod.mk.injEq]at hx;rw[hrun,Zae hx.1]
theorem ZcE(t:Int)(x:XN)(W:World):Calls Tryz.prog 142 (#[.int .i64 t,KE x]++#[]) W fun e w'=>e=.returned (.bool (x.a==t))/\W.grownBy w' none:=by
 unfold KE
 go_enter Tryz.func142,Tryz.ntmps142
 go_wp2
 go_ret
 exact⟨rfl,World.grownBy_alloc _ _ _⟩
def Z6(L:List Mv)(left:Lit->Bool):List Mv:=L.filter fun m=>left (.int .i64 m.to)||(m.to != m.frm)
theorem Zb6{L:List Mv}{left:Lit->Bool}(h:∀m∈L,left (.int .i64 m.to)=true):Z6 L left=L:=List.filter_eq_self.2 (fun m hm=>by rw[h m hm];rfl)
theorem Zep{L:List Mv}{left:Lit->Bool}(h:∀k,left k=false):Z6 L left=startM L:=by
 unfold Z6 startM;congr 1;funext m;rw[h];rfl
theorem Jb{t t':Int}{left:Lit->Bool}(h:t'≠t):(left (.int .i64 t') && !(Lit.int .i64 t').sameKey (.int .i64 t))=left (.int .i64 t'):=by
 rw[sameKey_ne (fun e=>h (by simpa using e))];simp
theorem KT{t:Int}{left:Lit->Bool}:(left (.int .i64 t) && !(Lit.int .i64 t).sameKey (.int .i64 t))=false:=by
 rw[WideAt.sameKey_self (TV t)];simp
theorem Zco{L:List Mv}(hn:(Yg L).Nodup){left:Lit->Bool}{m:Mv}(hm:m∈L)(hne:m.to≠m.frm):Z6 L (fun z=>left z && !z.sameKey (.int .i64 m.to))=Z6 L left:=by
 unfold Z6;refine List.filter_congr (fun q hq=>?_);by_cases e:q.to=m.to
 ·have hqm:q=m:=by
   obtain⟨i,hi,rfl⟩:=List.getElem_of_mem hq;obtain⟨j,hj,rfl⟩:=List.getElem_of_mem hm;have key:=List.pairwise_iff_getElem.1 (show(L.map (·.to)).Pairwise (·≠·) from hn);rcases Nat.lt_trichotomy i j with hl | hl | hl
   ·exact(key i j (by simpa using hi) (by simpa using hj) hl (by simp[e])).elim
   ·subst hl;rfl
   ·exact(key j i (by simpa using hj) (by simpa using hi) hl (by simp[e])).elim
  subst hqm;have:(q.to != q.frm)=true:=by simpa using hne
  rw[this,Bool.or_true,Bool.or_true]
 ·dsimp only
  rw[Jb e]
theorem Zc6{L:List Mv}(hn:(Yg L).Nodup){left:Lit->Bool}{m:Mv}(hm:m∈L)(he:m.to=m.frm):Z6 L (fun z=>left z && !z.sameKey (.int .i64 m.to))=without (Z6 L left) m.to:=by
 unfold Z6 without;rw[List.filter_filter];refine List.filter_congr (fun q hq=>?_);by_cases e:q.to=m.to
 ·have hqm:q=m:=by
   obtain⟨i,hi,rfl⟩:=List.getElem_of_mem hq;obtain⟨j,hj,rfl⟩:=List.getElem_of_mem hm;have key:=List.pairwise_iff_getElem.1 (show(L.map (·.to)).Pairwise (·≠·) from hn);rcases Nat.lt_trichotomy i j with hl | hl | hl
   ·exact(key i j (by simpa using hi) (by simpa using hj) hl (by simp[e])).elim
   ·subst hl;rfl
   ·exact(key j i (by simpa using hj) (by simpa using hi) hl (by simp[e])).elim
  subst hqm;dsimp only;rw[KT,show(q.to != q.frm)=false by simpa using he];simp
 ·dsimp only
  rw[Jb e,show(q.to != m.to)=true by simpa using e];simp
theorem ZbR{L:List Mv}(hn:(Yg L).Nodup)(left:Lit->Bool):(Yg (Z6 L left)).Nodup:=hn.sublist (List.filter_sublist.map _)
theorem Zfc{m:Mv}(h:0<=m.frm):cpI m=⟨11,m.to,m.frm,0,0⟩:=if_neg oM
theorem WU(b n:Nat)(D:DataW Unit)(L:List Mv)(w:World)(hown:w.ownsMap Tryz.prog 2 YX b n D)(hm:Hid (Ze D L))(hg:Hid (KY L)) :
 Calls Tryz.prog 141 #[.map (some b),.func (.func 142) #[] #[]] w fun e w'=>e=.returned (.tuple #[])/\w.grownBy w' (some b)/\∃D',w'.ownsMap Tryz.prog 2 YX b n D'/\Ze D' (startM L):=by
 have eg:∀args w,(callFunc 142 args).run Tryz.prog w=.ok (.enter 142 args) w:=enters_of Tryz.func142 vZ rfl
 go_enter Tryz.func141,Tryz.ntmps141
 go_wp2_with (first
  | (at_range;refine wpList_range_own _ rfl _ 207 rfl 2 54 Tryz.keyI Tryz.underlying207 YX b n D rfl hown ?_;intro w0 hrg0 hg0 hs0)
  | go_in)
 go_frame
 go_loopw [8] (fun _ wr=>∃(left:Lit->Bool)(cnt:Nat)(D1:DataW Unit),wr.ranges Tryz.prog 2 YX b w.heap.size n D1 left cnt/\w.grownBy wr (some b)/\Hid (Ze D1 (Z6 L left)))
  (fun _ wr=>wr.rangeLeft b w.heap.size)
 case atStart=>exact⟨_,_,_,hrg0,hg0.but _,Xa (by rw[Zb6 (fun m hm'=>(hm.keys _).2 ⟨m,hm',rfl⟩)];exact hm.out)⟩
 case round =>
  clear hrg0 hg0 hs0;obtain⟨left,cnt,D1,hrg,hgw,HM⟩:=hrel
  go_wp2_with (first
   | (at_next;refine wpList_next_ranges _ rfl _ rfl 2 Tryz.keyI YX (Value.int .i64) KE (fun key kl hkey=>by obtain⟨x,rfl,_⟩:=Maps.keyOf_int_inv Tryz.underlying2 hkey;exact⟨x,rfl⟩) (fun v y hv=>by obtain⟨x,rfl,_⟩:=JN hv;exact⟨x,rfl⟩) b w.heap.size n _ _ _ rfl hrg ?_ ?_)
   | go_in)
  ·intro _ hl0
   go_wp2
   go_end0
   exact⟨rfl,hgw,D1,hrg.owns,by rw[<-Zep hl0];exact HM.out⟩
  ·intro x c kl yd yp w1 cnt1 hkey hlx hv hat hrg1 hlt hg1 hs1 hen
   have hgw1:=hgw.andThen hg1 (fun j hj=>by cases hj;exact Or.inl (Nat.le_refl _));obtain⟨x',ex,rfl,hwx⟩:=Maps.keyOf_int_inv Tryz.underlying2 hkey;cases ex;obtain⟨c',ec,ey⟩:=JN hv;obtain⟨rfl,rfl⟩:=Prod.mk.inj ey;have hcc:c'=c:=by
    obtain⟨a1,a2,a3,a4,a5⟩:=c;obtain⟨b1,b2,b3,b4,b5⟩:=c';simp only[KE,Value.agg.injEq]at ec;have:=congrArg Array.toList ec;simp at this;obtain⟨rfl,rfl,rfl,rfl,rfl⟩:=this;rfl
   subst hcc;obtain⟨m,hmS,hmx⟩:=(HM.keys (.int .i64 x)).1 (has_true_of_atKey (y:=TX c') hat);have hmx':x=m.to:=by simpa using hmx
   have hcp:c'=cpI m:=Zae (by rw[<-HM.at_ m hmS (.lit (.bool true)),<-hmx];exact(hat _).symm);have hmL:m∈L:=(List.mem_filter.1 hmS).1;have hfr:=hg.rng m hmL;rw[Zfc oM]at hcp;subst hmx' hcp;unfold KE at *;clear hmx ey ec hv hat;dsimp only at *;have hbl:=hrg1.owns.lt;have hrl:=hrg1.lt;have hc:=fun W=>ZcE m.to ⟨11,m.to,m.frm,0,0⟩ W
   unfold KE at hc;dsimp only at hc;by_cases he:m.frm=m.to
   ·have HD:=Xa (Zc6 hg.nd (left:=left) hmL he.symm)
    have heb:(m.frm==m.to)=true:=by simpa using he
    rw[heb]at hc;clear heb he
    go_wp2_with (first
     | (go_at_fn 142;refine(hc _).mono ?_;rintro e w2 ⟨rfl,hg2⟩;have hrg2:=(hrg1.alloc (.cells #[.int .i64 11,.int .i64 m.to,.int .i64 m.frm,.int .i64 0,.int .i64 0] 54)).kept hg2 sP sP)
     | (at_delete;refine wpList_delete_ranges _ rfl _ _ 207 2 rfl 54 Tryz.keyI Tryz.underlying207 YX b w.heap.size n _ _ _ rfl hrg2 _ _ rfl hkey ?_;intro w3 cnt3 hrg3 hle hturn;go_frame)
     | go_in)
    rw[strike_twice]at hrg3;have HM3:=Xa (HM.del (ZbR hg.nd left) m.to)
    go_roundw
    case rel=>exact⟨_,cnt3,_,hrg3,((hgw1.andThen (World.grownBy_alloc w1 _ none) (fun j hj=>by cases hj)).andThen hg2 (fun j hj=>by cases hj)).andThen hturn.grown (fun j hj=>by cases hj;exact Or.inr rfl),Xa (by rw[HD.out];exact HM3.out)⟩
    case measure=>rw[hrg3.left_eq,hrg.left_eq];omega
   ·have HD:=Xa (Zco hg.nd (left:=left) hmL (fun e=>he e.symm))
    have heb:(m.frm==m.to)=false:=by simpa using he
    rw[heb]at hc;clear heb he
    go_wp2_with (first
     | (go_at_fn 142;refine(hc _).mono ?_;rintro e w2 ⟨rfl,hg2⟩)
     | go_in)
    have hrg2:=(hrg1.alloc (.cells #[.int .i64 11,.int .i64 m.to,.int .i64 m.frm,.int .i64 0,.int .i64 0] 54)).kept hg2 sP sP
    go_roundw
    case rel=>exact⟨_,cnt1,_,hrg2,(hgw1.andThen (World.grownBy_alloc w1 _ none) (fun j hj=>by cases hj)).andThen hg2 (fun j hj=>by cases hj),Xa (by rw[HD.out];exact HM.out)⟩
    case measure=>rw[hrg2.left_eq,hrg.left_eq];exact hlt
end Go.Proofs.YtlmgmkmomaileaaGreatDoor
