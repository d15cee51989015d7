import Derived.Test.YtlmgmkmomaileaaGreatDoorNSb
import Derived.Laws.AppendOwnNone
namespace Go.Proofs.YtlmgmkmomaileaaGreatDoor
set_option maxHeartbeats 4000000
set_option maxRecDepth 100000
open Go.RowKit
attribute [local go_sem ↓] Go.wp_at_zero Go.wp_at_succ
def Y1(xs:List XN):List Value:=xs.flatMap fun x=>[.int .i64 x.op,.int .i64 x.dst,.int .i64 x.a,.int .i64 x.b,.int .i64 x.imm]
theorem Wh(x:XN)(xs:List XN):Y1 (x::xs)=[.int .i64 x.op,.int .i64 x.dst,.int .i64 x.a,.int .i64 x.b,.int .i64 x.imm]++Y1 xs:=rfl
theorem Z9(xs ys:List XN):Y1 (xs++ys)=Y1 xs++Y1 ys:=by simp[Y1]
theorem YT:∀xs:List XN,(Y1 xs).length=xs.length*5
 | []=>rfl
 | x::xs=>by rw[Wh,List.length_append,YT xs];simp;omega
theorem ZJ:∀(xs:List XN),∀u∈Y1 xs,u.oneCell'=true:=fun xs u hu=>by
 obtain⟨x,_,hx⟩:=List.mem_flatMap.1 hu;simp at hx;rcases hx with rfl | rfl | rfl | rfl | rfl<;>rfl
theorem Tryz.infoIn:(Tryz.prog.info? 54).map (fun i=>(i.zero,i.size,i.bytes))=some (some (.agg #[.int .i64 0,.int .i64 0,.int .i64 0,.int .i64 0,.int .i64 0]),5,40):=vZ
theorem Tv(w:World):(w.alloc (.cells #[] 54)).ownsRow w.heap.size 54 5 (.slice (some ⟨w.heap.size,0,none⟩) 0 0) 0 (Y1 []):=by
 have:=World.ownsRow_lit (base:=w.heap.size) (e:=54) (size:=5) w #[] 0 sP sP rfl;simpa [Y1]using this
theorem Zb5{xs:List Mv}{i:Nat}(h:i<xs.length):xs[i].to∈Yg xs:=List.mem_map.2 ⟨xs[i],List.getElem_mem h,rfl⟩
theorem ZbD{xs:List Mv}{t:Int}(h:t∈Yg xs):∃i,∃h:i<xs.length,xs[i].to=t:=by
 obtain⟨m,hm,e⟩:=List.mem_map.1 h;obtain⟨i,hi,rfl⟩:=List.getElem_of_mem hm;exact⟨i,hi,e⟩
theorem Zjr{xs:List Mv}(h:ZC xs){i j:Nat}(hi:i<xs.length)(hj:j<xs.length)(e:xs[i].to=xs[j].to):i=j:=by
 have hn:(xs.map (·.to)).Pairwise (·≠·):=h.nd;have key:=List.pairwise_iff_getElem.1 hn;rcases Nat.lt_trichotomy i j with hl | hl | hl
 ·exact(key i j (by simpa using hi) (by simpa using hj) hl (by simp[e])).elim
 ·exact hl
 ·exact(key j i (by simpa using hj) (by simpa using hi) hl (by simp[e])).elim
theorem ZeJ{xs:List Mv}(h:ZC xs){i:Nat}(hi:i<xs.length):Zbe xs xs[i].to=xs[i].frm:=by
 unfold Zbe;have:xs.find? (fun m=>m.to==xs[i].to)=some xs[i]:=by
  rw[List.find?_eq_some_iff_getElem];refine⟨sP,i,hi,rfl,fun j hj=>?_⟩;have:xs[j].to≠xs[i].to:=fun e=>by have:=Zjr h oM hi e;omega
  simpa using this
 rw[this];rfl
theorem Zao{xs:List Mv}(h:ZC xs){i:Nat}(hi:i<xs.length):xs.eraseIdx i=without xs xs[i].to:=by
 have key:∀(ys:List Mv)(t:Int),(Yg ys).Nodup->∀i (h:i<ys.length),ys[i].to=t->ys.eraseIdx i=without ys t:=by
  intro ys t
  induction ys with
  | nil=>intro _ i h;exact absurd h sP
  | cons m ys ih =>
   intro hn i hi e;have hn':(Yg ys).Nodup:=(List.nodup_cons.1 hn).2;have hm:m.to ∉ Yg ys:=(List.nodup_cons.1 hn).1;cases i with
   | zero =>
    have em:m.to=t:=e;unfold without;rw[List.eraseIdx_cons_zero,List.filter_cons_of_neg (by simp[em])];refine(List.filter_eq_self.2 (fun q hq=>?_)).symm;have:q.to≠t:=fun e2=>hm (by rw[em,<-e2];exact List.mem_map.2 ⟨q,hq,rfl⟩)
    simpa using this
   | succ i =>
    have hi':i<ys.length:=by simpa using hi
    have e':ys[i].to=t:=e;have hne:m.to≠t:=fun e2=>hm (by rw[e2,<-e'];exact Zb5 hi')
    unfold without;rw[List.eraseIdx_cons_succ,List.filter_cons_of_pos (by simpa using hne),ih hn' i hi' e'];rfl
 exact key xs _ h.nd i hi rfl
theorem Zgi{xs:List Mv}(h:ZC xs){i:Nat}(hi:i<xs.length)(hf:X7 xs xs[i].to=false)(hm:∀q (_:q<xs.length),X7 xs xs[q].to=false->xs[i].to<=xs[q].to):YE xs=(cpI xs[i],xs.eraseIdx i):=by
 have hl:Zm (ZL xs)=some xs[i].to:=VB (KO.2 ⟨Zb5 hi,hf⟩) (fun t ht=>by
  obtain⟨h1,h2⟩:=KO.1 ht;obtain⟨q,hq,rfl⟩:=ZbD h1;exact hm q hq h2)
 unfold YE;rw[hl];dsimp only;rw[ZeJ h hi,Zao h hi]
theorem Zfg{xs:List Mv}{i:Nat}(hi:i<xs.length)(hf:∀q (_:q<xs.length),X7 xs xs[q].to=true)(hm:∀q (_:q<xs.length),xs[i].to<=xs[q].to):YE xs=(⟨12,0,xs[i].to,0,0⟩,scratch xs xs[i].to):=by
 have hl:Zm (ZL xs)=none:=ZI.2 (List.eq_nil_iff_forall_not_mem.2 (fun t ht=>by
  obtain⟨h1,h2⟩:=KO.1 ht;obtain⟨q,hq,rfl⟩:=ZbD h1;rw[hf q hq]at h2;cases h2))
 have hl2:Zm (Yg xs)=some xs[i].to:=VB (Zb5 hi) (fun t ht=>by
  obtain⟨q,hq,rfl⟩:=ZbD ht;exact hm q hq)
 unfold YE;rw[hl,hl2]
theorem Yu{P:Program}{ops:Array Oper}{w:World}{o:Oper}{a:Act}{K:Act->World->Prop}{Q:Exit->Act->World->Prop}{E:Prop}(hgd:o.guard=none)(s x:Operand)(t:TypeId)
 (ho:o.op=.call { callee:=.builtin .append,args:=#[s,x],argTypes:=#[t,t] })
 (base:Nat) (e:TypeId) (i:TypeInfo) (z:Value) (size bytes:Nat) (ht:P.underlying t=some (.slice e)) (hi:P.info? e=some i) (hz:i.zero=some z)
 (hsize:i.size=size) (hby:i.bytes=bytes) (hzs:z.cells.size=size) (hsz:0<size)
 (v:Value) (n:Nat) (xs:List Value) (hs:a.eval s=v) (hown:w.ownsRow base e size v n xs)
 (ad:Addr) (m c:Nat) (news:List Value) (hx:a.eval x=.slice (some ad) m c) (hl:news.length=m*size) (hnews:∀j u,news[j]?=some u->w.cell? (ad.add j)=some u) (h1:∀u∈news,u.oneCell'=true)
 (h63:n+m<=maxLen) (hbytes:(n+m)*bytes<=140737488355328) (hbase:base<=w.heap.size)
 (h:∀v' w',w'.ownsRow base e size v' (n+m) (xs++news)->w.grownBy w' v.ownBlock->(v'=.slice none 0 0↔v=.slice none 0 0/\m=0)->(v'.ownBlock=v.ownBlock\/v'.ownBlock=some w.heap.size)->K (a.put o.dst v') w') :
 if Region.wanted o (yielded ops a.tmps)=true then Oper.wp P o a w K Q else E:=by
 have hw:Region.wanted o (yielded ops a.tmps)=true:=by simp[Region.wanted,hgd]
 rw[if_pos hw];obtain⟨v',w',hr,h2,h3,h4,h5⟩:=run_append_own_at (P:=P) w base t o.type e i z size bytes ht hi hz hsize hby hzs hsz v n xs hown ad m c news hl hnews h1 h63 hbytes hbase;unfold Oper.wp execOp;simp only[ho,resolve,invoke,builtin,Sem.run_bind,Sem.run_pure,Result.andThen_ok,List.map_toArray,List.map_cons,List.map_nil,hs,hx,hr];exact h v' w' h2 h3 h4 h5
theorem Jn(w:World)(x0 x1 x2 x3 x4:Int):(w.alloc (.cells #[.int .i64 x0,.int .i64 x1,.int .i64 x2,.int .i64 x3,.int .i64 x4] 54)).ownsRow w.heap.size 54 5 (.slice (some ⟨w.heap.size,0,none⟩) 1 1) 1 (Y1 [⟨x0,x1,x2,x3,x4⟩]):=by
 have:=World.ownsRow_lit (base:=w.heap.size) (e:=54) (size:=5) w #[.int .i64 x0,.int .i64 x1,.int .i64 x2,.int .i64 x3,.int .i64 x4] 1 sP dC rfl;simpa [Y1]using this
theorem JO{w w1:World}{B t s g:Nat}{n c:Nat}{xs:List Value}(h:w.ownsRow B t s (.slice (some ⟨g,0,none⟩) n c) n xs)(k:w1.heap[g]?=w.heap[g]?):w1.ownsRow B t s (.slice (some ⟨g,0,none⟩) n c) n xs:=by
 obtain⟨hl,h | ⟨g',cap,cur,e,hg,hh,hc⟩⟩:=h
 ·exact⟨hl,Or.inl h⟩
 ·cases e
  exact⟨hl,Or.inr ⟨g,c,cur,rfl,hg,k.trans hh,hc⟩⟩
theorem Jr{w:World}{base e s n:Nat}{v:Value}{cs:List Value}(h:w.ownsRow base e s v n cs)(hn:v≠.slice none 0 0):∃g c,v=.slice (some ⟨g,0,none⟩) n c/\(base<=g/\g<w.heap.size)/\n<=c:=by
 rcases XU h with⟨e,_⟩ | h
 ·exact absurd e hn
 ·exact h
structure Zga(xs:List Mv)(j:Nat)(be:Int)(lo:Nat):Prop where
 lo:lo<xs.length/\∀q (h:q<xs.length) (h2:lo<xs.length),q<j->xs[lo].to<=xs[q].to
 be:(be=-1/\∀q (h:q<xs.length),q<j->X7 xs xs[q].to=true)\/∃b:Nat,be=b/\b<j/\∃h:b<xs.length,X7 xs xs[b].to=false/\∀q (_:q<xs.length),q<j->X7 xs xs[q].to=false->xs[b].to<=xs[q].to
theorem Zga.next{xs:List Mv}{j:Nat}{be:Int}{lo:Nat}(h:Zga xs j be lo)(hj:j<xs.length){be':Int}{lo':Nat}
 (h1:∀hl:lo<xs.length,(xs[j].to<xs[lo].to/\lo'=j)\/(¬xs[j].to<xs[lo].to/\lo'=lo))
 (h2:(X7 xs xs[j].to=true/\be'=be)\/(X7 xs xs[j].to=false/\((be=-1/\be'=j)\/∃b:Nat,be=b/\∀hb:b<xs.length,(xs[j].to<xs[b].to/\be'=j)\/(¬xs[j].to<xs[b].to/\be'=b)))):Zga xs (j+1) be' lo':=by
 obtain⟨⟨l1,l2⟩,hb⟩:=h;constructor
 ·rcases h1 l1 with⟨q1,rfl⟩ | ⟨q1,rfl⟩
  ·refine⟨hj,fun q hq _ hlt=>?_⟩
   by_cases e:q=lo'
   ·subst e;exact Int.le_refl _
   ·have:=l2 q hq l1 oM;omega
  ·refine⟨l1,fun q hq _ hlt=>?_⟩
   by_cases e:q=j
   ·subst e;omega
   ·exact l2 q hq l1 oM
 ·rcases h2 with⟨r,rfl⟩ | ⟨r,⟨rfl,rfl⟩ | ⟨b,rfl,hb2⟩⟩
  ·rcases hb with⟨e,hb⟩ | ⟨b,e,hbj,hbl,hbf,hbm⟩
   ·refine Or.inl ⟨e,fun q hq hlt=>?_⟩
    by_cases e2:q=j
    ·subst e2;exact r
    ·exact hb q hq oM
   ·refine Or.inr ⟨b,e,oM,hbl,hbf,fun q hq hlt hf=>?_⟩
    by_cases e2:q=j
    ·subst e2;rw[r]at hf;cases hf
    ·exact hbm q hq oM hf
  ·rcases hb with⟨_,hb⟩ | ⟨b,e,_⟩
   ·refine Or.inr ⟨j,rfl,oM,hj,r,fun q hq hlt hf=>?_⟩
    by_cases e2:q=j
    ·subst e2;exact Int.le_refl _
    ·rw[hb q hq oM]at hf;cases hf
   ·omega
  ·rcases hb with⟨e,_⟩ | ⟨b',e,hbj,hbl,hbf,hbm⟩
   ·omega
   ·have eb:b'=b:=oM
    subst eb;rcases hb2 hbl with⟨q1,rfl⟩ | ⟨q1,rfl⟩
    ·refine Or.inr ⟨j,rfl,oM,hj,r,fun q hq hlt hf=>?_⟩
     by_cases e2:q=j
     ·subst e2;exact Int.le_refl _
     ·have:=hbm q hq oM hf;omega
    ·refine Or.inr ⟨b',rfl,oM,hbl,hbf,fun q hq hlt hf=>?_⟩
     by_cases e2:q=j
     ·subst e2;omega
     ·exact hbm q hq oM hf
theorem Zev:∀(k:Nat)(a:Option Addr)(n c:Nat)(xs:List Mv)(L B:Nat)(w:World)(_:Hid (Jw w L B a xs))(_:Hid (n=xs.length))(_:Hid (ZC xs))(_:n<=64)(_:k<=128)(_:B<=w.heap.size),
 Calls Tryz.prog 63 #[.slice a n c,.int .i64 k] w fun e w'=>∃v,e=.returned v/\v≠.slice none 0 0/\Below w.heap.size w w'/\w'.ownsRow w.heap.size 54 5 v (XI k xs).length (Y1 (XI k xs)):=by
 obtain⟨i0,hi0,hz0,hz1,hz2⟩:=info_parts Tryz.infoIn;intro k
 induction k with
 | zero =>
  intro a n c xs L B w ha hx hok hn hk hB;by_cases hn0:n=0
  ·subst hn0
   go_enter Tryz.func63,Tryz.ntmps63
   go_wp2
   go_ret
   exact⟨_,rfl,sP,Xb (Below.refl _ _) _,Tv w⟩
  ·have hnn:¬((n:Int)=0):=oM
   go_enter Tryz.func63,Tryz.ntmps63
   go_wp2
   go_ret
   exact⟨_,rfl,sP,Xb (Below.refl _ _) _,Tv w⟩
 | succ k ih =>
  intro a n c xs L B w ha hx hok hn hk hB;by_cases hn0:n=0
  ·have hxe:xs=[]:=List.eq_nil_of_length_eq_zero (by have:=hx.out;omega)
   subst hxe hn0
   go_enter Tryz.func63,Tryz.ntmps63
   go_wp2
   go_ret
   exact⟨_,rfl,sP,Xb (Below.refl _ _) _,by rw[Th];exact Tv w⟩
  have hnn:¬((n:Int)=0):=oM;have hnb:((n:Int)==0)=false:=by simpa using hnn
  have hkb:((k:Int)+1==0)=false:=by simp;omega
  have hne:xs≠[]:=fun e=>by subst e;exact hn0 hx.out
  have HEM:Hid (XI (k+1) xs=(YE xs).1::XI k (YE xs).2):=Xa (Kj k hne);have HST:Hid (ZC (YE xs).2):=Xa hok.step;have IH:=Xa ih;clear ih hne
  go_enter Tryz.func63,Tryz.ntmps63
  go_wp2
  go_loopw [5,6,7] (fun ub ul ui wr=>∃(j:Nat)(be:Int)(lo:Nat),j<=n/\ui=.int .i64 j/\ub=.int .i64 be/\ul=.int .i64 lo/\Hid (Below w.heap.size w wr)/\Hid (Zga xs j be lo)) (fun _ _ ui _=>n-(intOf ui).toNat)
  case atStart=>exact⟨0,-1,0,Nat.zero_le _,rfl,rfl,rfl,Xa (Below.refl _ _),Xa ⟨⟨by have:=hx.out;omega,fun q _ _ hq=>absurd hq oM⟩,Or.inl ⟨rfl,fun q _ hq=>absurd hq oM⟩⟩⟩
  case round =>
   obtain⟨j,be,lo,hj,rfl,rfl,rfl,HB,HBE⟩:=hrel;by_cases hlt:j<n
   ·have hjx:j<xs.length:=by have:=hx.out;omega
    obtain⟨hlo,-⟩:=HBE.lo;have hlon:lo<n:=by have:=hx.out;omega
    obtain⟨b,o,rfl,hbB,e0w,-⟩:=ha.out j hjx;have hcl:∀q,q<n->∃hq:q<xs.length,∀W,Below w.heap.size w W->W.cell? ⟨b,o+q*2,none⟩=some (.int .i64 xs[q].to):=fun q hq=>by
     have hq':q<xs.length:=by have:=hx.out;omega
     obtain⟨b',o',e,_,h1,_⟩:=ha.out q hq';cases e;exact⟨hq',fun W k=>(k.cell (p:=⟨b,o+q*2,none⟩) (by show b<_;omega)).trans h1⟩
    obtain⟨_,ej⟩:=hcl j hlt;obtain⟨_,el⟩:=hcl lo hlon;have e0:=ej wr HB.out;have e1:=el wr HB.out;have HRD:Hid (∀W,Below w.heap.size w W->Calls Tryz.prog 94 #[.slice (some ⟨b,o,none⟩) n c,.int .i64 j,.int .i64 xs[j].to] W fun e w'=>e=.returned (.bool (X7 xs xs[j].to))/\w'=W):=Xa (fun W k=>ZbM _ n c j xs[j].to xs L B W (Xa (ha.keep (k.mono hB))) hx oM hlt (Xa (fun q hq e=>by subst e;exact hok.ne _ (List.getElem_mem hq))));clear e0w;rcases HBE.be with⟨rfl,-⟩ | ⟨bb,rfl,hbbj,hbbl,-⟩
    ·have HN2:Hid (∀(be':Int)(lo':Nat),((xs[j].to<xs[lo].to/\lo'=j)\/(¬xs[j].to<xs[lo].to/\lo'=lo))->((X7 xs xs[j].to=true/\be'=-1)\/(X7 xs xs[j].to=false/\be'=j))->Zga xs (j+1) be' lo'):=Xa (fun be' lo' h1 h2=>HBE.next hjx (fun _=>h1) (by
      rcases h2 with h | ⟨h,h'⟩
      ·exact Or.inl h
      ·exact Or.inr ⟨h,Or.inl ⟨rfl,h'⟩⟩))
     clear hcl ej el HBE;generalize xs[j].to=tj at *;generalize xs[lo].to=tl at *;by_cases hl:tj<tl
     ·cases hr:X7 xs tj with
      | true =>
       have HR:=Xa hr;have HB5:=Xa (HN2.out (-1) j (Or.inl ⟨hl,rfl⟩) (Or.inl ⟨hr,rfl⟩));clear hr;go_wp2
       go_region
       go_wp2;refine Z1 (fun w'=>w'.cell? ⟨b,o+j*2,none⟩=some (.int .i64 tj)) (fun hHeld=>?_);refine Xi 0 ?_;refine Xi 1 ?_;refine Xi 2 ?_;refine Xi 3 ?_;refine Xi 4 ?_;refine Xi 5 ?_;refine Xi 6 ?_;refine Xt 7 (fun K hK=>?_);go_simp
       go_at_call 94
       refine(HRD.out _ HB.drew.drew).mono ?_;rintro e w2 ⟨rfl,rfl⟩;rw[HR.out];refine hK _ _ kP (fun hHeld=>?_);clear hK;refine Xi 8 ?_;refine Xi 9 ?_;refine Y9 10 ?_;refine Y9 11 ?_;refine Y9 12 ?_;refine Y9 13 ?_;refine Y9 14 ?_;refine Y9 15 ?_;refine Y9 16 ?_;refine Y9 17 ?_;refine Y9 18 ?_;refine Y9 19 ?_;refine Y9 20 ?_;refine Y9 21 ?_;refine Y9 22 ?_;refine Y9 23 ?_;refine Y9 24 ?_;refine Xi 25 ?_;refine YA ?_;go_wp2;refine⟨?_,?measure⟩
       (repeat apply Exists.intro)
       refine⟨?rel,rfl⟩
       case rel=>exact⟨j+1,(-1),j,oM,gM,rfl,rfl,Xa HB.drew.drew,HB5⟩
       case measure=>simp[intOf];omega
      | false =>
       have HR:=Xa hr;have HB5:=Xa (HN2.out j j (Or.inl ⟨hl,rfl⟩) (Or.inr ⟨hr,rfl⟩));clear hr;go_wp2
       go_region
       go_wp2;refine Z1 (fun w'=>w'.cell? ⟨b,o+j*2,none⟩=some (.int .i64 tj)) (fun hHeld=>?_);refine Xi 0 ?_;refine Xi 1 ?_;refine Xi 2 ?_;refine Xi 3 ?_;refine Xi 4 ?_;refine Xi 5 ?_;refine Xi 6 ?_;refine Xt 7 (fun K hK=>?_);go_simp
       go_at_call 94
       refine(HRD.out _ HB.drew.drew).mono ?_;rintro e w2 ⟨rfl,rfl⟩;rw[HR.out];refine hK _ _ kP (fun hHeld=>?_);clear hK;refine Xi 8 ?_;refine Xi 9 ?_;refine Xi 10 ?_;refine Xi 11 ?_;refine Xi 12 ?_;refine Y9 13 ?_;refine Y9 14 ?_;refine Y9 15 ?_;refine Y9 16 ?_;refine Y9 17 ?_;refine Y9 18 ?_;refine Y9 19 ?_;refine Y9 20 ?_;refine Y9 21 ?_;refine Y9 22 ?_;refine Y9 23 ?_;refine Xi 24 ?_;refine Xi 25 ?_;refine YA ?_;go_wp2;refine⟨?_,?measure⟩
       (repeat apply Exists.intro)
       refine⟨?rel,rfl⟩
       case rel=>exact⟨j+1,j,j,oM,gM,rfl,rfl,Xa HB.drew.drew,HB5⟩
       case measure=>simp[intOf];omega
     ·cases hr:X7 xs tj with
      | true =>
       have HR:=Xa hr;have HB5:=Xa (HN2.out (-1) lo (Or.inr ⟨hl,rfl⟩) (Or.inl ⟨hr,rfl⟩));clear hr;go_wp2
       go_region
       go_wp2;refine Z1 (fun w'=>w'.cell? ⟨b,o+j*2,none⟩=some (.int .i64 tj)) (fun hHeld=>?_);refine Xi 0 ?_;refine Xi 1 ?_;refine Xi 2 ?_;refine Xi 3 ?_;refine Xi 4 ?_;refine Xi 5 ?_;refine Xi 6 ?_;refine Xt 7 (fun K hK=>?_);go_simp
       go_at_call 94
       refine(HRD.out _ HB.drew.drew).mono ?_;rintro e w2 ⟨rfl,rfl⟩;rw[HR.out];refine hK _ _ kP (fun hHeld=>?_);clear hK;refine Xi 8 ?_;refine Xi 9 ?_;refine Y9 10 ?_;refine Y9 11 ?_;refine Y9 12 ?_;refine Y9 13 ?_;refine Y9 14 ?_;refine Y9 15 ?_;refine Y9 16 ?_;refine Y9 17 ?_;refine Y9 18 ?_;refine Y9 19 ?_;refine Y9 20 ?_;refine Y9 21 ?_;refine Y9 22 ?_;refine Y9 23 ?_;refine Y9 24 ?_;refine Xi 25 ?_;refine YA ?_;go_wp2;refine⟨?_,?measure⟩
       (repeat apply Exists.intro)
       refine⟨?rel,rfl⟩
       case rel=>exact⟨j+1,(-1),lo,oM,gM,rfl,rfl,Xa HB.drew.drew,HB5⟩
       case measure=>simp[intOf];omega
      | false =>
       have HR:=Xa hr;have HB5:=Xa (HN2.out j lo (Or.inr ⟨hl,rfl⟩) (Or.inr ⟨hr,rfl⟩));clear hr;go_wp2
       go_region
       go_wp2;refine Z1 (fun w'=>w'.cell? ⟨b,o+j*2,none⟩=some (.int .i64 tj)) (fun hHeld=>?_);refine Xi 0 ?_;refine Xi 1 ?_;refine Xi 2 ?_;refine Xi 3 ?_;refine Xi 4 ?_;refine Xi 5 ?_;refine Xi 6 ?_;refine Xt 7 (fun K hK=>?_);go_simp
       go_at_call 94
       refine(HRD.out _ HB.drew.drew).mono ?_;rintro e w2 ⟨rfl,rfl⟩;rw[HR.out];refine hK _ _ kP (fun hHeld=>?_);clear hK;refine Xi 8 ?_;refine Xi 9 ?_;refine Xi 10 ?_;refine Xi 11 ?_;refine Xi 12 ?_;refine Y9 13 ?_;refine Y9 14 ?_;refine Y9 15 ?_;refine Y9 16 ?_;refine Y9 17 ?_;refine Y9 18 ?_;refine Y9 19 ?_;refine Y9 20 ?_;refine Y9 21 ?_;refine Y9 22 ?_;refine Y9 23 ?_;refine Xi 24 ?_;refine Xi 25 ?_;refine YA ?_;go_wp2;refine⟨?_,?measure⟩
       (repeat apply Exists.intro)
       refine⟨?rel,rfl⟩
       case rel=>exact⟨j+1,j,lo,oM,gM,rfl,rfl,Xa HB.drew.drew,HB5⟩
       case measure=>simp[intOf];omega
    ·have HN2:Hid (∀(be':Int)(lo':Nat),((xs[j].to<xs[lo].to/\lo'=j)\/(¬xs[j].to<xs[lo].to/\lo'=lo))->((X7 xs xs[j].to=true/\be'=bb)\/(X7 xs xs[j].to=false/\((xs[j].to<xs[bb].to/\be'=j)\/(¬xs[j].to<xs[bb].to/\be'=bb))))->Zga xs (j+1) be' lo'):=Xa (fun be' lo' h1 h2=>HBE.next hjx (fun _=>h1) (by
      rcases h2 with h | ⟨h,h'⟩
      ·exact Or.inl h
      ·exact Or.inr ⟨h,Or.inr ⟨bb,rfl,fun _=>h'⟩⟩))
     obtain⟨_,eb⟩:=hcl bb oM;have e2:=eb wr HB.out;have hbn:bb<n:=oM;clear hcl ej el eb HBE;generalize xs[j].to=tj at *;generalize xs[lo].to=tl at *;generalize xs[bb].to=tb at *;by_cases hl:tj<tl
     ·cases hr:X7 xs tj with
      | true =>
       have HR:=Xa hr;have HB5:=Xa (HN2.out bb j (Or.inl ⟨hl,rfl⟩) (Or.inl ⟨hr,rfl⟩));clear hr;go_wp2
       go_region
       go_wp2;refine Z1 (fun w'=>w'.cell? ⟨b,o+j*2,none⟩=some (.int .i64 tj)/\w'.cell? ⟨b,o+bb*2,none⟩=some (.int .i64 tb)) (fun hHeld=>?_);refine Xi 0 ?_;refine Xi 1 ?_;refine Xi 2 ?_;refine Xi 3 ?_;refine Xi 4 ?_;refine Xi 5 ?_;refine Xi 6 ?_;refine Xt 7 (fun K hK=>?_);go_simp
       go_at_call 94
       refine(HRD.out _ HB.drew.drew).mono ?_;rintro e w2 ⟨rfl,rfl⟩;rw[HR.out];refine hK _ _ kP (fun hHeld=>?_);clear hK;refine Xi 8 ?_;refine Xi 9 ?_;refine Y9 10 ?_;refine Y9 11 ?_;refine Y9 12 ?_;refine Y9 13 ?_;refine Y9 14 ?_;refine Y9 15 ?_;refine Y9 16 ?_;refine Y9 17 ?_;refine Y9 18 ?_;refine Y9 19 ?_;refine Y9 20 ?_;refine Y9 21 ?_;refine Y9 22 ?_;refine Y9 23 ?_;refine Y9 24 ?_;refine Xi 25 ?_;refine YA ?_;go_wp2;refine⟨?_,?measure⟩
       (repeat apply Exists.intro)
       refine⟨?rel,rfl⟩
       case rel=>exact⟨j+1,bb,j,oM,gM,rfl,rfl,Xa HB.drew.drew,HB5⟩
       case measure=>simp[intOf];omega
      | false =>
       by_cases hs:tj<tb
       ·skip
        have HR:=Xa hr;have HB5:=Xa (HN2.out j j (Or.inl ⟨hl,rfl⟩) (Or.inr ⟨hr,Or.inl ⟨hs,rfl⟩⟩));clear hr;go_wp2
        go_region
        go_wp2;refine Z1 (fun w'=>w'.cell? ⟨b,o+j*2,none⟩=some (.int .i64 tj)/\w'.cell? ⟨b,o+bb*2,none⟩=some (.int .i64 tb)) (fun hHeld=>?_);refine Xi 0 ?_;refine Xi 1 ?_;refine Xi 2 ?_;refine Xi 3 ?_;refine Xi 4 ?_;refine Xi 5 ?_;refine Xi 6 ?_;refine Xt 7 (fun K hK=>?_);go_simp
        go_at_call 94
        refine(HRD.out _ HB.drew.drew).mono ?_;rintro e w2 ⟨rfl,rfl⟩;rw[HR.out];refine hK _ _ kP (fun hHeld=>?_);clear hK;refine Xi 8 ?_;refine Xi 9 ?_;refine Xi 10 ?_;refine Xi 11 ?_;refine Xi 12 ?_;refine Xi 13 ?_;refine Xi 14 ?_;refine Xi 15 ?_;refine Xi 16 ?_;refine Xi 17 ?_;refine Xi 18 ?_;refine Xi 19 ?_;refine Xi 20 ?_;refine Xi 21 ?_;refine Xi 22 ?_;refine Xi 23 ?_;refine Xi 24 ?_;refine Xi 25 ?_;refine YA ?_;go_wp2;refine⟨?_,?measure⟩
        (repeat apply Exists.intro)
        refine⟨?rel,rfl⟩
        case rel=>exact⟨j+1,j,j,oM,gM,rfl,rfl,Xa HB.drew.drew,HB5⟩
        case measure=>simp[intOf];omega
       ·skip
        have HR:=Xa hr;have HB5:=Xa (HN2.out bb j (Or.inl ⟨hl,rfl⟩) (Or.inr ⟨hr,Or.inr ⟨hs,rfl⟩⟩));clear hr;go_wp2
        go_region
        go_wp2;refine Z1 (fun w'=>w'.cell? ⟨b,o+j*2,none⟩=some (.int .i64 tj)/\w'.cell? ⟨b,o+bb*2,none⟩=some (.int .i64 tb)) (fun hHeld=>?_);refine Xi 0 ?_;refine Xi 1 ?_;refine Xi 2 ?_;refine Xi 3 ?_;refine Xi 4 ?_;refine Xi 5 ?_;refine Xi 6 ?_;refine Xt 7 (fun K hK=>?_);go_simp
        go_at_call 94
        refine(HRD.out _ HB.drew.drew).mono ?_;rintro e w2 ⟨rfl,rfl⟩;rw[HR.out];refine hK _ _ kP (fun hHeld=>?_);clear hK;refine Xi 8 ?_;refine Xi 9 ?_;refine Xi 10 ?_;refine Xi 11 ?_;refine Xi 12 ?_;refine Xi 13 ?_;refine Xi 14 ?_;refine Xi 15 ?_;refine Xi 16 ?_;refine Xi 17 ?_;refine Xi 18 ?_;refine Xi 19 ?_;refine Xi 20 ?_;refine Xi 21 ?_;refine Xi 22 ?_;refine Xi 23 ?_;refine Xi 24 ?_;refine Xi 25 ?_;refine YA ?_;go_wp2;refine⟨?_,?measure⟩
        (repeat apply Exists.intro)
        refine⟨?rel,rfl⟩
        case rel=>exact⟨j+1,bb,j,oM,gM,rfl,rfl,Xa HB.drew.drew,HB5⟩
        case measure=>simp[intOf];omega
     ·cases hr:X7 xs tj with
      | true =>
       have HR:=Xa hr;have HB5:=Xa (HN2.out bb lo (Or.inr ⟨hl,rfl⟩) (Or.inl ⟨hr,rfl⟩));clear hr;go_wp2
       go_region
       go_wp2;refine Z1 (fun w'=>w'.cell? ⟨b,o+j*2,none⟩=some (.int .i64 tj)/\w'.cell? ⟨b,o+bb*2,none⟩=some (.int .i64 tb)) (fun hHeld=>?_);refine Xi 0 ?_;refine Xi 1 ?_;refine Xi 2 ?_;refine Xi 3 ?_;refine Xi 4 ?_;refine Xi 5 ?_;refine Xi 6 ?_;refine Xt 7 (fun K hK=>?_);go_simp
       go_at_call 94
       refine(HRD.out _ HB.drew.drew).mono ?_;rintro e w2 ⟨rfl,rfl⟩;rw[HR.out];refine hK _ _ kP (fun hHeld=>?_);clear hK;refine Xi 8 ?_;refine Xi 9 ?_;refine Y9 10 ?_;refine Y9 11 ?_;refine Y9 12 ?_;refine Y9 13 ?_;refine Y9 14 ?_;refine Y9 15 ?_;refine Y9 16 ?_;refine Y9 17 ?_;refine Y9 18 ?_;refine Y9 19 ?_;refine Y9 20 ?_;refine Y9 21 ?_;refine Y9 22 ?_;refine Y9 23 ?_;refine Y9 24 ?_;refine Xi 25 ?_;refine YA ?_;go_wp2;refine⟨?_,?measure⟩
       (repeat apply Exists.intro)
       refine⟨?rel,rfl⟩
       case rel=>exact⟨j+1,bb,lo,oM,gM,rfl,rfl,Xa HB.drew.drew,HB5⟩
       case measure=>simp[intOf];omega
      | false =>
       by_cases hs:tj<tb
       ·skip
        have HR:=Xa hr;have HB5:=Xa (HN2.out j lo (Or.inr ⟨hl,rfl⟩) (Or.inr ⟨hr,Or.inl ⟨hs,rfl⟩⟩));clear hr;go_wp2
        go_region
        go_wp2;refine Z1 (fun w'=>w'.cell? ⟨b,o+j*2,none⟩=some (.int .i64 tj)/\w'.cell? ⟨b,o+bb*2,none⟩=some (.int .i64 tb)) (fun hHeld=>?_);refine Xi 0 ?_;refine Xi 1 ?_;refine Xi 2 ?_;refine Xi 3 ?_;refine Xi 4 ?_;refine Xi 5 ?_;refine Xi 6 ?_;refine Xt 7 (fun K hK=>?_);go_simp
        go_at_call 94
        refine(HRD.out _ HB.drew.drew).mono ?_;rintro e w2 ⟨rfl,rfl⟩;rw[HR.out];refine hK _ _ kP (fun hHeld=>?_);clear hK;refine Xi 8 ?_;refine Xi 9 ?_;refine Xi 10 ?_;refine Xi 11 ?_;refine Xi 12 ?_;refine Xi 13 ?_;refine Xi 14 ?_;refine Xi 15 ?_;refine Xi 16 ?_;refine Xi 17 ?_;refine Xi 18 ?_;refine Xi 19 ?_;refine Xi 20 ?_;refine Xi 21 ?_;refine Xi 22 ?_;refine Xi 23 ?_;refine Xi 24 ?_;refine Xi 25 ?_;refine YA ?_;go_wp2;refine⟨?_,?measure⟩
        (repeat apply Exists.intro)
        refine⟨?rel,rfl⟩
        case rel=>exact⟨j+1,j,lo,oM,gM,rfl,rfl,Xa HB.drew.drew,HB5⟩
        case measure=>simp[intOf];omega
       ·skip
        have HR:=Xa hr;have HB5:=Xa (HN2.out bb lo (Or.inr ⟨hl,rfl⟩) (Or.inr ⟨hr,Or.inr ⟨hs,rfl⟩⟩));clear hr;go_wp2
        go_region
        go_wp2;refine Z1 (fun w'=>w'.cell? ⟨b,o+j*2,none⟩=some (.int .i64 tj)/\w'.cell? ⟨b,o+bb*2,none⟩=some (.int .i64 tb)) (fun hHeld=>?_);refine Xi 0 ?_;refine Xi 1 ?_;refine Xi 2 ?_;refine Xi 3 ?_;refine Xi 4 ?_;refine Xi 5 ?_;refine Xi 6 ?_;refine Xt 7 (fun K hK=>?_);go_simp
        go_at_call 94
        refine(HRD.out _ HB.drew.drew).mono ?_;rintro e w2 ⟨rfl,rfl⟩;rw[HR.out];refine hK _ _ kP (fun hHeld=>?_);clear hK;refine Xi 8 ?_;refine Xi 9 ?_;refine Xi 10 ?_;refine Xi 11 ?_;refine Xi 12 ?_;refine Xi 13 ?_;refine Xi 14 ?_;refine Xi 15 ?_;refine Xi 16 ?_;refine Xi 17 ?_;refine Xi 18 ?_;refine Xi 19 ?_;refine Xi 20 ?_;refine Xi 21 ?_;refine Xi 22 ?_;refine Xi 23 ?_;refine Xi 24 ?_;refine Xi 25 ?_;refine YA ?_;go_wp2;refine⟨?_,?measure⟩
        (repeat apply Exists.intro)
        refine⟨?rel,rfl⟩
        case rel=>exact⟨j+1,bb,lo,oM,gM,rfl,rfl,Xa HB.drew.drew,HB5⟩
        case measure=>simp[intOf];omega
   ·have hjn:j=n:=oM
    have hjx:j=xs.length:=by have:=hx.out;omega
    have hBs:=HB.size;rcases HBE.be with⟨rfl,hall⟩ | ⟨bb,rfl,hbbj,hbbl,hbf,hbm⟩
    ·have hlo:=HBE.lo.1
     have hlon:lo<n:=oM;have HSP:Hid (YE xs=(⟨12,0,xs[lo].to,0,0⟩,scratch xs xs[lo].to)):=Xa (Zfg hlo (fun q hq=>hall q hq oM) (fun q hq=>HBE.lo.2 q hq hlo oM));obtain⟨b,o,rfl,hbB,e0w,-⟩:=ha.out lo hlo;have e0:=(Xu HB.out oM).trans e0w;rw[HSP.out]at HEM HST;clear hall HBE e0w HSP;generalize xs[lo].to=r at *;have hkk:(k:Int)+1-1=k:=oM;have HWR:Hid (IntKind.i64.wrap (k:Int)=(k:Int)):=Xa (by simp[IntKind.wrap,IntKind.signed,IntKind.bits];omega);have hcl:Hid (∀q,q<n->∃hq:q<xs.length,∀W,Below wr.heap.size wr W->W.cell? ⟨b,o+q*2,none⟩=some (.int .i64 xs[q].to)/\W.cell? ⟨b,o+q*2+1,none⟩=some (.int .i64 xs[q].frm)):=Xa (fun q hq=>by
      have hq':q<xs.length:=oM;obtain⟨b',o',e,_,h1,h2⟩:=ha.out q hq';cases e;exact⟨hq',fun W k=>⟨(k.cell (p:=⟨b,o+q*2,none⟩) (by show b<_;omega)).trans ((Xu HB.out oM).trans h1),(k.cell (p:=⟨b,o+q*2+1,none⟩) (by show b<_;omega)).trans ((Xu HB.out oM).trans h2)⟩⟩)
     obtain⟨j0,hj0,hjz0,hjz1,hjz2⟩:=info_parts Tryz.infoMv;generalize wr=wo at *;go_wp2;clear e0
     go_loopw [9,10] (fun v u wr=>∃q:Nat,q<=n/\u=.int .i64 q/\Hid (Below wo.heap.size wo wr)/\Hid (wr.ownsRow wo.heap.size 85 2 v (scratch (xs.take q) r).length (Tz (scratch (xs.take q) r)))) (fun _ u _=>n-(intOf u).toNat)
     case atStart=>exact⟨0,Nat.zero_le _,rfl,Xa (Xb (Below.refl _ _) _),Xa (by rw[List.take_zero];exact Zbc wo)⟩
     case round =>
      obtain⟨q,hq,rfl,HB2,HO⟩:=hrel;have hwz:=HB2.size;by_cases hlt:q<n
      ·obtain⟨hqx,hc⟩:=hcl.out q hlt
       obtain⟨e0,e1⟩:=hc wr HB2.out;have HT:Hid (scratch (xs.take (q+1)) r=scratch (xs.take q) r++[if xs[q].frm=r then ⟨xs[q].to,-1⟩else xs[q]]):=Xa (by
        rw[List.take_succ_eq_append_getElem hqx];exact List.map_append)
       have HL:Hid ((scratch (xs.take q) r).length<=64):=Xa (by simp[scratch];omega);clear hc;generalize hm:xs[q]=m at *;obtain⟨t,f⟩:=m;dsimp only at *;clear hm;generalize scratch (xs.take q) r=ys at *;by_cases hf:f=r
       ·rw[if_pos hf]at HT
        subst hf
        go_wp2_with (at_builtin;refine wpList_append_own_at _ rfl _ _ 81 rfl wo.heap.size 85 j0 (.agg #[.int .i64 0,.int .i64 0]) 2 16 Tryz.underlying81 hj0 hjz0 hjz1 hjz2 rfl dC _ _ _ rfl (HO.alloc _) ⟨wr.heap.size,0,none⟩ 1 1 [.int .i64 t,.int .i64 (-1)] rfl rfl ?c1 ?c2 ?c3 ?c4 ?c5 ?_)
        case c1=>exact Tg _ _ _ _
        case c2=>intro u hu;simp at hu;rcases hu with rfl | rfl<;>rfl
        case c3=>have:=HL.out;unfold maxLen;omega
        case c4=>have:=HL.out;omega
        case c5=>simp;omega
        intro v1 w1 hown1 hgrow1 hne1 hat1;have HO1:Hid (w1.ownsRow wo.heap.size 85 2 v1 (scratch (xs.take (q+1)) f).length (Tz (scratch (xs.take (q+1)) f))):=Xa (by
         rw[HT.out,Tj,List.length_append];exact hown1)
        have HB1:Hid (Below wo.heap.size wo w1):=Xa (Xr ((HB2.out).alloc oM _) hgrow1 (HO.alloc _) (Nat.le_refl _) (by simp;omega));clear hown1 hgrow1 hne1 hat1 HO HB2 HT;go_wp2;exact⟨⟨q+1,oM,gM,HB1,HO1⟩,by simp[intOf];omega⟩
       ·rw[if_neg hf]at HT
        have hfb:(f==r)=false:=by simpa using hf
        clear hf
        go_wp2_with (at_builtin;refine wpList_append_own_at _ rfl _ _ 81 rfl wo.heap.size 85 j0 (.agg #[.int .i64 0,.int .i64 0]) 2 16 Tryz.underlying81 hj0 hjz0 hjz1 hjz2 rfl dC _ _ _ rfl (HO.alloc _) ⟨wr.heap.size,0,none⟩ 1 1 [.int .i64 t,.int .i64 f] rfl rfl ?c1 ?c2 ?c3 ?c4 ?c5 ?_)
        case c1=>exact Tg _ _ _ _
        case c2=>intro u hu;simp at hu;rcases hu with rfl | rfl<;>rfl
        case c3=>have:=HL.out;unfold maxLen;omega
        case c4=>have:=HL.out;omega
        case c5=>simp;omega
        intro v1 w1 hown1 hgrow1 hne1 hat1;have HO1:Hid (w1.ownsRow wo.heap.size 85 2 v1 (scratch (xs.take (q+1)) r).length (Tz (scratch (xs.take (q+1)) r))):=Xa (by
         rw[HT.out,Tj,List.length_append];exact hown1)
        have HB1:Hid (Below wo.heap.size wo w1):=Xa (Xr ((HB2.out).alloc oM _) hgrow1 (HO.alloc _) (Nat.le_refl _) (by simp;omega));clear hown1 hgrow1 hne1 hat1 HO HB2 HT;go_wp2;exact⟨⟨q+1,oM,gM,HB1,HO1⟩,by simp[intOf];omega⟩
      ·have hqn:q=n:=oM
       have HO2:Hid (wr.ownsRow wo.heap.size 85 2 u9 (scratch xs r).length (Tz (scratch xs r))):=Xa (by have:=HO.out;rwa[List.take_of_length_le oM]at this);have hyl:(scratch xs r).length<=64:=by simp[scratch];omega
       clear HO;generalize scratch xs r=ys at *;obtain⟨a4,k4,hu9,-,hk4,hm4⟩:=Z0 HO2.out;have HM4:=Xa hm4;subst hu9;clear hm4 HO2;have hel:=JF k ys
       go_wp2_with fail
       have C7:=IH.out a4 ys.length k4 ys _ _ (wr.alloc (.cells #[.int .i64 12,.int .i64 0,.int .i64 r,.int .i64 0,.int .i64 0] 54)) (Xa (HM4.keepS (fun q _ q2=>Below.heap_alloc _ _ _ q2))) (Xa rfl) HST hyl oM sP
       with_reducible refine C7.mono ?_
       clear C7;rintro e w7 ⟨v7,rfl,hn7,hb7,ho7⟩;obtain⟨g7,k7,rfl,hg7,hk7⟩:=Jr ho7 hn7;have s7:=hb7.size;simp at s7;have HO7:=Xa ho7;have HROW:Hid (w7.ownsRow w.heap.size 54 5 (.slice (some ⟨wr.heap.size,0,none⟩) 1 1) 1 (Y1 [⟨12,0,r,0,0⟩])):=Xa (X9 (JO (Jn wr 12 0 r 0 0) (hb7.block _ sP)) oM);have HK7:Hid (Below w.heap.size w w7):=Xa (Xd (Xd HB.out HB2.out |>.alloc oM _) hb7);clear ho7 hb7
       go_wp2_with (at_builtin;refine wpList_append_own_at _ rfl _ _ 46 rfl w.heap.size 54 i0 (.agg #[.int .i64 0,.int .i64 0,.int .i64 0,.int .i64 0,.int .i64 0]) 5 40 Tryz.underlying46 hi0 hz0 hz1 hz2 rfl dC _ _ _ rfl HROW.out ⟨g7,0,none⟩ (XI k ys).length k7 (Y1 (XI k ys)) rfl (YT _) ?c1 ?c2 ?c3 ?c4 ?c5 ?_)
       case c1=>exact fun j u hj=>by rw[Zo];exact XZ HO7.out hj
       case c2=>exact ZJ _
       case c3=>unfold maxLen;omega
       case c4=>omega
       case c5=>omega
       intro v8 w8 hown8 hg8 hn8 _;have HO8:=Xa hown8;have HK8:Hid (Below w.heap.size w w8):=Xa (Xr HK7.out hg8 HROW.out (Nat.le_refl _) oM);have HN8:Hid (v8≠.slice none 0 0):=Xa hn8;clear hown8 hg8 hn8;go_wp2
       go_ret
       refine⟨_,rfl,HN8.out,HK8.out,?_⟩;rw[HEM.out,show(⟨12,0,r,0,0⟩:XN)::XI k ys=[⟨12,0,r,0,0⟩]++XI k ys from rfl,Z9,List.length_append];exact HO8.out
    ·have hbn:bb<n:=oM
     have HSP:Hid (YE xs=(cpI xs[bb],xs.eraseIdx bb)):=Xa (Zgi hok.out hbbl hbf (fun q hq h=>hbm q hq oM h));rw[HSP.out]at HEM HST;obtain⟨b,o,rfl,hbB,e0w,e1w⟩:=ha.out bb hbbl;have e0:=(Xu HB.out oM).trans e0w;have e1:=(Xu HB.out oM).trans e1w;have hge:¬((bb:Int)<0):=oM;clear hbf hbm HBE e0w e1w HSP;generalize hm:xs[bb]=m at *;obtain⟨t,f⟩:=m;dsimp only at *;clear hm;have HWO:Hid (∀W,Below w.heap.size w W->Calls Tryz.prog 95 #[.slice (some ⟨b,o,none⟩) n c,.int .i64 bb] W fun e w'=>∃v,e=.returned v/\Below W.heap.size W w'/\w'.ownsRow W.heap.size 85 2 v (xs.eraseIdx bb).length (Tz (xs.eraseIdx bb))):=Xa (fun W k=>Zaw _ n c bb xs L B W (Xa (ha.keep (k.mono hB))) hx hn hbn (by have:=k.size;omega));have hyl:(xs.eraseIdx bb).length<=64:=Nat.le_trans (List.length_eraseIdx_le _ _) oM;generalize xs.eraseIdx bb=ys at *;have hel:=JF k ys;have HWR:Hid (IntKind.i64.wrap (k:Int)=(k:Int)):=Xa (by simp[IntKind.wrap,IntKind.signed,IntKind.bits];omega);have hkk:(k:Int)+1-1=k:=oM;by_cases hf:f<0
     ·have HX:Hid (cpI ⟨t,f⟩=⟨13,t,0,0,0⟩):=Xa (if_pos hf)
      rw[HX.out]at HEM;go_wp2
      go_region_held3 (fun w'=>w'.cell? ⟨b,o+bb*2,none⟩=some (.int .i64 t)/\w'.cell? ⟨b,o+bb*2+1,none⟩=some (.int .i64 f)) (go_keep) (fail)
      go_wp2;clear e0 e1;have W0b:Below w.heap.size w (wr.alloc (.cells #[.int .i64 13,.int .i64 t,.int .i64 0,.int .i64 0,.int .i64 0] 54)).drew:=(HB.alloc oM _).drew;have z0:(wr.alloc (.cells #[.int .i64 13,.int .i64 t,.int .i64 0,.int .i64 0,.int .i64 0] 54)).drew.heap.size=wr.heap.size+1:=World.size_alloc _ _;have c0:(wr.alloc (.cells #[.int .i64 13,.int .i64 t,.int .i64 0,.int .i64 0,.int .i64 0] 54)).drew.cell? ⟨wr.heap.size,0,none⟩=some (.int .i64 13):=by simp[go_sem]
      have c1:(wr.alloc (.cells #[.int .i64 13,.int .i64 t,.int .i64 0,.int .i64 0,.int .i64 0] 54)).drew.cell? ⟨wr.heap.size,1,none⟩=some (.int .i64 t):=by simp[go_sem]
      have c2:(wr.alloc (.cells #[.int .i64 13,.int .i64 t,.int .i64 0,.int .i64 0,.int .i64 0] 54)).drew.cell? ⟨wr.heap.size,2,none⟩=some (.int .i64 0):=by simp[go_sem]
      have c3:(wr.alloc (.cells #[.int .i64 13,.int .i64 t,.int .i64 0,.int .i64 0,.int .i64 0] 54)).drew.cell? ⟨wr.heap.size,3,none⟩=some (.int .i64 0):=by simp[go_sem]
      have c4:(wr.alloc (.cells #[.int .i64 13,.int .i64 t,.int .i64 0,.int .i64 0,.int .i64 0] 54)).drew.cell? ⟨wr.heap.size,4,none⟩=some (.int .i64 0):=by simp[go_sem]
      generalize (wr.alloc (.cells #[.int .i64 13,.int .i64 t,.int .i64 0,.int .i64 0,.int .i64 0] 54)).drew=W0 at *;have HW0:=Xa W0b;clear W0b;refine Z1 (fun w'=>w'.cell? ⟨wr.heap.size,0,none⟩=some (.int .i64 13)/\w'.cell? ⟨wr.heap.size,1,none⟩=some (.int .i64 t)/\w'.cell? ⟨wr.heap.size,2,none⟩=some (.int .i64 0)/\w'.cell? ⟨wr.heap.size,3,none⟩=some (.int .i64 0)/\w'.cell? ⟨wr.heap.size,4,none⟩=some (.int .i64 0)) (fun hHeld=>?_);refine Xi 0 ?_;refine Xi 2 ?_;refine Xi 3 ?_;refine Xi 5 ?_;refine Xi 6 ?_;refine wpAnyH_ready (rs:=[1,4]) vZ sP ?_;refine(AllReadyH.cons rfl (fun K hK=>?_) (AllReadyH.cons rfl (fun K hK=>?_) AllReadyH.nil))
      ·skip
       go_simp;refine hK _ _ kP (fun hHeld=>?_);clear hK
       try simp only[Act.put,xA,xB,xC,xD,xE,xF]
       refine Xt 4 (fun K hK=>?_);go_simp;have K0:=(((Below.refl W0.heap.size W0).drew).alloc (Nat.le_refl _) (.cells #[.int .i64 13,.int .i64 t,.int .i64 0,.int .i64 0,.int .i64 0] 54));refine(HWO.out _ (Xd HW0.out K0)).mono ?_;rintro e w4 ⟨v4,rfl,hb4,ho4⟩;obtain⟨a4,k4,rfl,-,hk4,hm4⟩:=Z0 ho4;have s4:=hb4.size;have K4:=Xd K0 hb4;have d0:=(Xu K4 oM).trans c0;have d1:=(Xu K4 oM).trans c1;have d2:=(Xu K4 oM).trans c2;have d3:=(Xu K4 oM).trans c3;have d4:=(Xu K4 oM).trans c4;have HM4:=Xa hm4;have HK4:=Xa K4;have HB4:=Xa hb4;clear hm4 ho4 hb4 K0 K4;refine hK _ _ kP (fun hHeld=>?_);clear hK;refine Xt 7 (fun K hK=>?_);go_simp;have K1:=HK4.out;have C7:=IH.out a4 ys.length k4 ys _ _ _ (Xa (HM4.out)) (Xa rfl) HST hyl oM (Nat.le_refl _);rw[HWR.out]
       with_reducible refine C7.mono ?_
       clear C7;rintro e w7 ⟨v7,rfl,hn7,hb7,ho7⟩;obtain⟨g7,k7,rfl,hg7,hk7⟩:=Jr ho7 hn7;have s7:=hb7.size;have K7:=Xd K1 hb7;have f0:=(Xu K7 oM).trans c0;have f1:=(Xu K7 oM).trans c1;have f2:=(Xu K7 oM).trans c2;have f3:=(Xu K7 oM).trans c3;have f4:=(Xu K7 oM).trans c4;have HO7:=Xa ho7;have HK7:=Xa K7;have HB7:=Xa hb7;clear ho7 hb7 K1 K7;refine hK _ _ kP (fun hHeld=>?_);clear hK;refine Xt 8 (fun K hK=>?_);refine Yu rfl (.tmp 134) (.tmp 140) 46 rfl w.heap.size 54 i0 (.agg #[.int .i64 0,.int .i64 0,.int .i64 0,.int .i64 0,.int .i64 0]) 5 40 Tryz.underlying46 hi0 hz0 hz1 hz2 rfl dC (.slice (some ⟨W0.heap.size,0,none⟩) 1 1) 1 (Y1 [⟨13,t,0,0,0⟩]) (by simp[Act.eval]) (X9 (JO (Jn W0.drew 13 t 0 0 0) (HB7.block _ (by have:=HB4.size;simp at this;show W0.heap.size<_;omega) |>.trans (HB4.block _ sP))) (by have:=HW0.size;show w.heap.size<=W0.heap.size;omega)) ⟨g7,0,none⟩ (XI k ys).length k7 (Y1 (XI k ys)) (by simp[Act.eval]) (YT _) (fun j u hj=>by rw[Zo];exact XZ HO7.out hj) (ZJ _) (by unfold maxLen;omega) oM (by have:=HW0.size;have:=HK4.size;have:=HK7.size;(try simp);omega) ?_;rintro v8 w8 hown8 hg8 hn8 -;have K8:Below w.heap.size w w8:=(Xd HW0.out (HK7.out)).grown hg8 (by have:=HW0.size;have:=HK4.size;have:=HK7.size;(try simp);omega) (fun q hq=>by cases hq;have:=HW0.size;have:=HK4.size;have:=HK7.size;(try dsimp only);omega);have h9:=(hg8.block wr.heap.size (by(try simp);have:=HK7.size;omega) (fun e=>by injection e with e;have:=HK4.size;have:=HK7.size;simp at e;omega));have p0:=(Xc h9).trans (((HK7.out).cell (p:=⟨wr.heap.size,0,none⟩) (by show wr.heap.size<_;omega)).trans c0);have p1:=(Xc h9).trans (((HK7.out).cell (p:=⟨wr.heap.size,1,none⟩) (by show wr.heap.size<_;omega)).trans c1);have p2:=(Xc h9).trans (((HK7.out).cell (p:=⟨wr.heap.size,2,none⟩) (by show wr.heap.size<_;omega)).trans c2);have p3:=(Xc h9).trans (((HK7.out).cell (p:=⟨wr.heap.size,3,none⟩) (by show wr.heap.size<_;omega)).trans c3);have p4:=(Xc h9).trans (((HK7.out).cell (p:=⟨wr.heap.size,4,none⟩) (by show wr.heap.size<_;omega)).trans c4);have HK8:=Xa K8;have HO8:=Xa hown8;have HN8:Hid (v8≠.slice none 0 0):=Xa (fun e=>by have:=(hn8.1 e).1;cases this);clear hown8 hg8 hn8 K8 h9;refine hK _ _ kP (fun hHeld=>?_);clear hK;refine Xt 9 (fun K hK=>?_);go_simp;refine hK _ _ kP (fun hHeld=>?_);clear hK;refine YA ?_;go_wp2
       go_ret
       refine⟨_,rfl,HN8.out,HK8.out,?_⟩;rw[HEM.out,show(⟨13,t,0,0,0⟩:XN)::XI k ys=[⟨13,t,0,0,0⟩]++XI k ys from rfl,Z9,List.length_append];exact HO8.out
      ·skip
       go_simp;have K0:=((Below.refl W0.heap.size W0).drew);refine(HWO.out _ (Xd HW0.out K0)).mono ?_;rintro e w4 ⟨v4,rfl,hb4,ho4⟩;obtain⟨a4,k4,rfl,-,hk4,hm4⟩:=Z0 ho4;have s4:=hb4.size;have K4:=Xd K0 hb4;have d0:=(Xu K4 oM).trans c0;have d1:=(Xu K4 oM).trans c1;have d2:=(Xu K4 oM).trans c2;have d3:=(Xu K4 oM).trans c3;have d4:=(Xu K4 oM).trans c4;have HM4:=Xa hm4;have HK4:=Xa K4;have HB4:=Xa hb4;clear hm4 ho4 hb4 K0 K4;refine hK _ _ kP (fun hHeld=>?_);clear hK
       try simp only[Act.put,xA,xB,xC,xD,xE,xF]
       refine wpAnyH_ready (rs:=[1,7]) vZ sP ?_;refine(AllReadyH.cons rfl (fun K hK=>?_) (AllReadyH.cons rfl (fun K hK=>?_) AllReadyH.nil))
       ·skip
        go_simp;refine hK _ _ kP (fun hHeld=>?_);clear hK
        try simp only[Act.put,xA,xB,xC,xD,xE,xF]
        refine Xt 7 (fun K hK=>?_);go_simp;have K1:=(HK4.alloc HK4.size (.cells #[.int .i64 13,.int .i64 t,.int .i64 0,.int .i64 0,.int .i64 0] 54));have C7:=IH.out a4 ys.length k4 ys _ _ _ (Xa (HM4.keepS (w':=w4.alloc (.cells #[.int .i64 13,.int .i64 t,.int .i64 0,.int .i64 0,.int .i64 0] 54)) (fun q _ q2=>Below.heap_alloc _ _ _ q2))) (Xa rfl) HST hyl oM sP;rw[HWR.out]
        with_reducible refine C7.mono ?_
        clear C7;rintro e w7 ⟨v7,rfl,hn7,hb7,ho7⟩;obtain⟨g7,k7,rfl,hg7,hk7⟩:=Jr ho7 hn7;have s7:=hb7.size;have K7:=Xd K1 hb7;have f0:=(Xu K7 oM).trans c0;have f1:=(Xu K7 oM).trans c1;have f2:=(Xu K7 oM).trans c2;have f3:=(Xu K7 oM).trans c3;have f4:=(Xu K7 oM).trans c4;have HO7:=Xa ho7;have HK7:=Xa K7;have HB7:=Xa hb7;clear ho7 hb7 K1 K7;refine hK _ _ kP (fun hHeld=>?_);clear hK;refine Xt 8 (fun K hK=>?_);refine Yu rfl (.tmp 134) (.tmp 140) 46 rfl w.heap.size 54 i0 (.agg #[.int .i64 0,.int .i64 0,.int .i64 0,.int .i64 0,.int .i64 0]) 5 40 Tryz.underlying46 hi0 hz0 hz1 hz2 rfl dC (.slice (some ⟨w4.heap.size,0,none⟩) 1 1) 1 (Y1 [⟨13,t,0,0,0⟩]) (by simp[Act.eval]) (X9 (JO (Jn w4 13 t 0 0 0) (HB7.block _ sP)) (by have:=HW0.size;have:=HK4.size;omega)) ⟨g7,0,none⟩ (XI k ys).length k7 (Y1 (XI k ys)) (by simp[Act.eval]) (YT _) (fun j u hj=>by rw[Zo];exact XZ HO7.out hj) (ZJ _) (by unfold maxLen;omega) oM (by have:=HW0.size;have:=HK4.size;have:=HK7.size;(try simp);omega) ?_;rintro v8 w8 hown8 hg8 hn8 -;have K8:Below w.heap.size w w8:=(Xd HW0.out (HK7.out)).grown hg8 (by have:=HW0.size;have:=HK4.size;have:=HK7.size;(try simp);omega) (fun q hq=>by cases hq;have:=HW0.size;have:=HK4.size;have:=HK7.size;(try dsimp only);omega);have h9:=(hg8.block wr.heap.size (by(try simp);have:=HK7.size;omega) (fun e=>by injection e with e;have:=HK4.size;have:=HK7.size;simp at e;omega));have p0:=(Xc h9).trans (((HK7.out).cell (p:=⟨wr.heap.size,0,none⟩) (by show wr.heap.size<_;omega)).trans c0);have p1:=(Xc h9).trans (((HK7.out).cell (p:=⟨wr.heap.size,1,none⟩) (by show wr.heap.size<_;omega)).trans c1);have p2:=(Xc h9).trans (((HK7.out).cell (p:=⟨wr.heap.size,2,none⟩) (by show wr.heap.size<_;omega)).trans c2);have p3:=(Xc h9).trans (((HK7.out).cell (p:=⟨wr.heap.size,3,none⟩) (by show wr.heap.size<_;omega)).trans c3);have p4:=(Xc h9).trans (((HK7.out).cell (p:=⟨wr.heap.size,4,none⟩) (by show wr.heap.size<_;omega)).trans c4);have HK8:=Xa K8;have HO8:=Xa hown8;have HN8:Hid (v8≠.slice none 0 0):=Xa (fun e=>by have:=(hn8.1 e).1;cases this);clear hown8 hg8 hn8 K8 h9;refine hK _ _ kP (fun hHeld=>?_);clear hK;refine Xt 9 (fun K hK=>?_);go_simp;refine hK _ _ kP (fun hHeld=>?_);clear hK;refine YA ?_;go_wp2
        go_ret
        refine⟨_,rfl,HN8.out,HK8.out,?_⟩;rw[HEM.out,show(⟨13,t,0,0,0⟩:XN)::XI k ys=[⟨13,t,0,0,0⟩]++XI k ys from rfl,Z9,List.length_append];exact HO8.out
       ·skip
        go_simp;have K1:=HK4.out;have C7:=IH.out a4 ys.length k4 ys _ _ _ (Xa (HM4.out)) (Xa rfl) HST hyl oM (Nat.le_refl _);rw[HWR.out]
        with_reducible refine C7.mono ?_
        clear C7;rintro e w7 ⟨v7,rfl,hn7,hb7,ho7⟩;obtain⟨g7,k7,rfl,hg7,hk7⟩:=Jr ho7 hn7;have s7:=hb7.size;have K7:=Xd K1 hb7;have f0:=(Xu K7 oM).trans c0;have f1:=(Xu K7 oM).trans c1;have f2:=(Xu K7 oM).trans c2;have f3:=(Xu K7 oM).trans c3;have f4:=(Xu K7 oM).trans c4;have HO7:=Xa ho7;have HK7:=Xa K7;have HB7:=Xa hb7;clear ho7 hb7 K1 K7;refine hK _ _ kP (fun hHeld=>?_);clear hK
        try simp only[Act.put,xA,xB,xC,xD,xE,xF]
        refine Xt 1 (fun K hK=>?_);go_simp;refine hK _ _ kP (fun hHeld=>?_);clear hK;refine Xt 8 (fun K hK=>?_);refine Yu rfl (.tmp 134) (.tmp 140) 46 rfl w.heap.size 54 i0 (.agg #[.int .i64 0,.int .i64 0,.int .i64 0,.int .i64 0,.int .i64 0]) 5 40 Tryz.underlying46 hi0 hz0 hz1 hz2 rfl dC (.slice (some ⟨w7.heap.size,0,none⟩) 1 1) 1 (Y1 [⟨13,t,0,0,0⟩]) (by simp[Act.eval]) (X9 (Jn w7 13 t 0 0 0) (by have:=HW0.size;have:=HK7.size;omega)) ⟨g7,0,none⟩ (XI k ys).length k7 (Y1 (XI k ys)) (by simp[Act.eval]) (YT _) (fun j u hj=>by rw[Zo,World.cell?_alloc_lt _ _ _ (by show g7<_;exact hg7.2)];exact XZ HO7.out hj) (ZJ _) (by unfold maxLen;omega) oM (by have:=HW0.size;have:=HK4.size;have:=HK7.size;(try simp);omega) ?_;rintro v8 w8 hown8 hg8 hn8 -;have K8:Below w.heap.size w w8:=(Xd HW0.out (HK7.alloc HK7.size (.cells #[.int .i64 13,.int .i64 t,.int .i64 0,.int .i64 0,.int .i64 0] 54))).grown hg8 (by have:=HW0.size;have:=HK4.size;have:=HK7.size;(try simp);omega) (fun q hq=>by cases hq;have:=HW0.size;have:=HK4.size;have:=HK7.size;(try dsimp only);omega);have h9:=(hg8.block wr.heap.size (by(try simp);have:=HK7.size;omega) (fun e=>by injection e with e;have:=HK4.size;have:=HK7.size;simp at e;omega));have p0:=(Xc h9).trans (((HK7.alloc HK7.size (.cells #[.int .i64 13,.int .i64 t,.int .i64 0,.int .i64 0,.int .i64 0] 54)).cell (p:=⟨wr.heap.size,0,none⟩) (by show wr.heap.size<_;omega)).trans c0);have p1:=(Xc h9).trans (((HK7.alloc HK7.size (.cells #[.int .i64 13,.int .i64 t,.int .i64 0,.int .i64 0,.int .i64 0] 54)).cell (p:=⟨wr.heap.size,1,none⟩) (by show wr.heap.size<_;omega)).trans c1);have p2:=(Xc h9).trans (((HK7.alloc HK7.size (.cells #[.int .i64 13,.int .i64 t,.int .i64 0,.int .i64 0,.int .i64 0] 54)).cell (p:=⟨wr.heap.size,2,none⟩) (by show wr.heap.size<_;omega)).trans c2);have p3:=(Xc h9).trans (((HK7.alloc HK7.size (.cells #[.int .i64 13,.int .i64 t,.int .i64 0,.int .i64 0,.int .i64 0] 54)).cell (p:=⟨wr.heap.size,3,none⟩) (by show wr.heap.size<_;omega)).trans c3);have p4:=(Xc h9).trans (((HK7.alloc HK7.size (.cells #[.int .i64 13,.int .i64 t,.int .i64 0,.int .i64 0,.int .i64 0] 54)).cell (p:=⟨wr.heap.size,4,none⟩) (by show wr.heap.size<_;omega)).trans c4);have HK8:=Xa K8;have HO8:=Xa hown8;have HN8:Hid (v8≠.slice none 0 0):=Xa (fun e=>by have:=(hn8.1 e).1;cases this);clear hown8 hg8 hn8 K8 h9;refine hK _ _ kP (fun hHeld=>?_);clear hK;refine Xt 9 (fun K hK=>?_);go_simp;refine hK _ _ kP (fun hHeld=>?_);clear hK;refine YA ?_;go_wp2
        go_ret
        refine⟨_,rfl,HN8.out,HK8.out,?_⟩;rw[HEM.out,show(⟨13,t,0,0,0⟩:XN)::XI k ys=[⟨13,t,0,0,0⟩]++XI k ys from rfl,Z9,List.length_append];exact HO8.out
     ·have HX:Hid (cpI ⟨t,f⟩=⟨11,t,f,0,0⟩):=Xa (if_neg hf)
      rw[HX.out]at HEM;go_wp2
      go_region_held3 (fun w'=>w'.cell? ⟨b,o+bb*2,none⟩=some (.int .i64 t)/\w'.cell? ⟨b,o+bb*2+1,none⟩=some (.int .i64 f)) (go_keep) (fail)
      go_wp2;clear e0 e1;have W0b:Below w.heap.size w (wr.alloc (.cells #[.int .i64 11,.int .i64 t,.int .i64 f,.int .i64 0,.int .i64 0] 54)).drew:=(HB.alloc oM _).drew;have z0:(wr.alloc (.cells #[.int .i64 11,.int .i64 t,.int .i64 f,.int .i64 0,.int .i64 0] 54)).drew.heap.size=wr.heap.size+1:=World.size_alloc _ _;have c0:(wr.alloc (.cells #[.int .i64 11,.int .i64 t,.int .i64 f,.int .i64 0,.int .i64 0] 54)).drew.cell? ⟨wr.heap.size,0,none⟩=some (.int .i64 11):=by simp[go_sem]
      have c1:(wr.alloc (.cells #[.int .i64 11,.int .i64 t,.int .i64 f,.int .i64 0,.int .i64 0] 54)).drew.cell? ⟨wr.heap.size,1,none⟩=some (.int .i64 t):=by simp[go_sem]
      have c2:(wr.alloc (.cells #[.int .i64 11,.int .i64 t,.int .i64 f,.int .i64 0,.int .i64 0] 54)).drew.cell? ⟨wr.heap.size,2,none⟩=some (.int .i64 f):=by simp[go_sem]
      have c3:(wr.alloc (.cells #[.int .i64 11,.int .i64 t,.int .i64 f,.int .i64 0,.int .i64 0] 54)).drew.cell? ⟨wr.heap.size,3,none⟩=some (.int .i64 0):=by simp[go_sem]
      have c4:(wr.alloc (.cells #[.int .i64 11,.int .i64 t,.int .i64 f,.int .i64 0,.int .i64 0] 54)).drew.cell? ⟨wr.heap.size,4,none⟩=some (.int .i64 0):=by simp[go_sem]
      generalize (wr.alloc (.cells #[.int .i64 11,.int .i64 t,.int .i64 f,.int .i64 0,.int .i64 0] 54)).drew=W0 at *;have HW0:=Xa W0b;clear W0b;refine Z1 (fun w'=>w'.cell? ⟨wr.heap.size,0,none⟩=some (.int .i64 11)/\w'.cell? ⟨wr.heap.size,1,none⟩=some (.int .i64 t)/\w'.cell? ⟨wr.heap.size,2,none⟩=some (.int .i64 f)/\w'.cell? ⟨wr.heap.size,3,none⟩=some (.int .i64 0)/\w'.cell? ⟨wr.heap.size,4,none⟩=some (.int .i64 0)) (fun hHeld=>?_);refine Xi 0 ?_;refine Xi 2 ?_;refine Xi 3 ?_;refine Xi 5 ?_;refine Xi 6 ?_;refine wpAnyH_ready (rs:=[1,4]) vZ sP ?_;refine(AllReadyH.cons rfl (fun K hK=>?_) (AllReadyH.cons rfl (fun K hK=>?_) AllReadyH.nil))
      ·skip
       go_simp;refine hK _ _ kP (fun hHeld=>?_);clear hK
       try simp only[Act.put,xA,xB,xC,xD,xE,xF]
       refine Xt 4 (fun K hK=>?_);go_simp;have K0:=(((Below.refl W0.heap.size W0).drew).alloc (Nat.le_refl _) (.cells #[.int .i64 11,.int .i64 t,.int .i64 f,.int .i64 0,.int .i64 0] 54));refine(HWO.out _ (Xd HW0.out K0)).mono ?_;rintro e w4 ⟨v4,rfl,hb4,ho4⟩;obtain⟨a4,k4,rfl,-,hk4,hm4⟩:=Z0 ho4;have s4:=hb4.size;have K4:=Xd K0 hb4;have d0:=(Xu K4 oM).trans c0;have d1:=(Xu K4 oM).trans c1;have d2:=(Xu K4 oM).trans c2;have d3:=(Xu K4 oM).trans c3;have d4:=(Xu K4 oM).trans c4;have HM4:=Xa hm4;have HK4:=Xa K4;have HB4:=Xa hb4;clear hm4 ho4 hb4 K0 K4;refine hK _ _ kP (fun hHeld=>?_);clear hK;refine Xt 7 (fun K hK=>?_);go_simp;have K1:=HK4.out;have C7:=IH.out a4 ys.length k4 ys _ _ _ (Xa (HM4.out)) (Xa rfl) HST hyl oM (Nat.le_refl _);rw[HWR.out]
       with_reducible refine C7.mono ?_
       clear C7;rintro e w7 ⟨v7,rfl,hn7,hb7,ho7⟩;obtain⟨g7,k7,rfl,hg7,hk7⟩:=Jr ho7 hn7;have s7:=hb7.size;have K7:=Xd K1 hb7;have f0:=(Xu K7 oM).trans c0;have f1:=(Xu K7 oM).trans c1;have f2:=(Xu K7 oM).trans c2;have f3:=(Xu K7 oM).trans c3;have f4:=(Xu K7 oM).trans c4;have HO7:=Xa ho7;have HK7:=Xa K7;have HB7:=Xa hb7;clear ho7 hb7 K1 K7;refine hK _ _ kP (fun hHeld=>?_);clear hK;refine Xt 8 (fun K hK=>?_);refine Yu rfl (.tmp 134) (.tmp 140) 46 rfl w.heap.size 54 i0 (.agg #[.int .i64 0,.int .i64 0,.int .i64 0,.int .i64 0,.int .i64 0]) 5 40 Tryz.underlying46 hi0 hz0 hz1 hz2 rfl dC (.slice (some ⟨W0.heap.size,0,none⟩) 1 1) 1 (Y1 [⟨11,t,f,0,0⟩]) (by simp[Act.eval]) (X9 (JO (Jn W0.drew 11 t f 0 0) (HB7.block _ (by have:=HB4.size;simp at this;show W0.heap.size<_;omega) |>.trans (HB4.block _ sP))) (by have:=HW0.size;show w.heap.size<=W0.heap.size;omega)) ⟨g7,0,none⟩ (XI k ys).length k7 (Y1 (XI k ys)) (by simp[Act.eval]) (YT _) (fun j u hj=>by rw[Zo];exact XZ HO7.out hj) (ZJ _) (by unfold maxLen;omega) oM (by have:=HW0.size;have:=HK4.size;have:=HK7.size;(try simp);omega) ?_;rintro v8 w8 hown8 hg8 hn8 -;have K8:Below w.heap.size w w8:=(Xd HW0.out (HK7.out)).grown hg8 (by have:=HW0.size;have:=HK4.size;have:=HK7.size;(try simp);omega) (fun q hq=>by cases hq;have:=HW0.size;have:=HK4.size;have:=HK7.size;(try dsimp only);omega);have h9:=(hg8.block wr.heap.size (by(try simp);have:=HK7.size;omega) (fun e=>by injection e with e;have:=HK4.size;have:=HK7.size;simp at e;omega));have p0:=(Xc h9).trans (((HK7.out).cell (p:=⟨wr.heap.size,0,none⟩) (by show wr.heap.size<_;omega)).trans c0);have p1:=(Xc h9).trans (((HK7.out).cell (p:=⟨wr.heap.size,1,none⟩) (by show wr.heap.size<_;omega)).trans c1);have p2:=(Xc h9).trans (((HK7.out).cell (p:=⟨wr.heap.size,2,none⟩) (by show wr.heap.size<_;omega)).trans c2);have p3:=(Xc h9).trans (((HK7.out).cell (p:=⟨wr.heap.size,3,none⟩) (by show wr.heap.size<_;omega)).trans c3);have p4:=(Xc h9).trans (((HK7.out).cell (p:=⟨wr.heap.size,4,none⟩) (by show wr.heap.size<_;omega)).trans c4);have HK8:=Xa K8;have HO8:=Xa hown8;have HN8:Hid (v8≠.slice none 0 0):=Xa (fun e=>by have:=(hn8.1 e).1;cases this);clear hown8 hg8 hn8 K8 h9;refine hK _ _ kP (fun hHeld=>?_);clear hK;refine Xt 9 (fun K hK=>?_);go_simp;refine hK _ _ kP (fun hHeld=>?_);clear hK;refine YA ?_;go_wp2
       go_ret
       refine⟨_,rfl,HN8.out,HK8.out,?_⟩;rw[HEM.out,show(⟨11,t,f,0,0⟩:XN)::XI k ys=[⟨11,t,f,0,0⟩]++XI k ys from rfl,Z9,List.length_append];exact HO8.out
      ·skip
       go_simp;have K0:=((Below.refl W0.heap.size W0).drew);refine(HWO.out _ (Xd HW0.out K0)).mono ?_;rintro e w4 ⟨v4,rfl,hb4,ho4⟩;obtain⟨a4,k4,rfl,-,hk4,hm4⟩:=Z0 ho4;have s4:=hb4.size;have K4:=Xd K0 hb4;have d0:=(Xu K4 oM).trans c0;have d1:=(Xu K4 oM).trans c1;have d2:=(Xu K4 oM).trans c2;have d3:=(Xu K4 oM).trans c3;have d4:=(Xu K4 oM).trans c4;have HM4:=Xa hm4;have HK4:=Xa K4;have HB4:=Xa hb4;clear hm4 ho4 hb4 K0 K4;refine hK _ _ kP (fun hHeld=>?_);clear hK
       try simp only[Act.put,xA,xB,xC,xD,xE,xF]
       refine wpAnyH_ready (rs:=[1,7]) vZ sP ?_;refine(AllReadyH.cons rfl (fun K hK=>?_) (AllReadyH.cons rfl (fun K hK=>?_) AllReadyH.nil))
       ·skip
        go_simp;refine hK _ _ kP (fun hHeld=>?_);clear hK
        try simp only[Act.put,xA,xB,xC,xD,xE,xF]
        refine Xt 7 (fun K hK=>?_);go_simp;have K1:=(HK4.alloc HK4.size (.cells #[.int .i64 11,.int .i64 t,.int .i64 f,.int .i64 0,.int .i64 0] 54));have C7:=IH.out a4 ys.length k4 ys _ _ _ (Xa (HM4.keepS (w':=w4.alloc (.cells #[.int .i64 11,.int .i64 t,.int .i64 f,.int .i64 0,.int .i64 0] 54)) (fun q _ q2=>Below.heap_alloc _ _ _ q2))) (Xa rfl) HST hyl oM sP;rw[HWR.out]
        with_reducible refine C7.mono ?_
        clear C7;rintro e w7 ⟨v7,rfl,hn7,hb7,ho7⟩;obtain⟨g7,k7,rfl,hg7,hk7⟩:=Jr ho7 hn7;have s7:=hb7.size;have K7:=Xd K1 hb7;have f0:=(Xu K7 oM).trans c0;have f1:=(Xu K7 oM).trans c1;have f2:=(Xu K7 oM).trans c2;have f3:=(Xu K7 oM).trans c3;have f4:=(Xu K7 oM).trans c4;have HO7:=Xa ho7;have HK7:=Xa K7;have HB7:=Xa hb7;clear ho7 hb7 K1 K7;refine hK _ _ kP (fun hHeld=>?_);clear hK;refine Xt 8 (fun K hK=>?_);refine Yu rfl (.tmp 134) (.tmp 140) 46 rfl w.heap.size 54 i0 (.agg #[.int .i64 0,.int .i64 0,.int .i64 0,.int .i64 0,.int .i64 0]) 5 40 Tryz.underlying46 hi0 hz0 hz1 hz2 rfl dC (.slice (some ⟨w4.heap.size,0,none⟩) 1 1) 1 (Y1 [⟨11,t,f,0,0⟩]) (by simp[Act.eval]) (X9 (JO (Jn w4 11 t f 0 0) (HB7.block _ sP)) (by have:=HW0.size;have:=HK4.size;omega)) ⟨g7,0,none⟩ (XI k ys).length k7 (Y1 (XI k ys)) (by simp[Act.eval]) (YT _) (fun j u hj=>by rw[Zo];exact XZ HO7.out hj) (ZJ _) (by unfold maxLen;omega) oM (by have:=HW0.size;have:=HK4.size;have:=HK7.size;(try simp);omega) ?_;rintro v8 w8 hown8 hg8 hn8 -;have K8:Below w.heap.size w w8:=(Xd HW0.out (HK7.out)).grown hg8 (by have:=HW0.size;have:=HK4.size;have:=HK7.size;(try simp);omega) (fun q hq=>by cases hq;have:=HW0.size;have:=HK4.size;have:=HK7.size;(try dsimp only);omega);have h9:=(hg8.block wr.heap.size (by(try simp);have:=HK7.size;omega) (fun e=>by injection e with e;have:=HK4.size;have:=HK7.size;simp at e;omega));have p0:=(Xc h9).trans (((HK7.out).cell (p:=⟨wr.heap.size,0,none⟩) (by show wr.heap.size<_;omega)).trans c0);have p1:=(Xc h9).trans (((HK7.out).cell (p:=⟨wr.heap.size,1,none⟩) (by show wr.heap.size<_;omega)).trans c1);have p2:=(Xc h9).trans (((HK7.out).cell (p:=⟨wr.heap.size,2,none⟩) (by show wr.heap.size<_;omega)).trans c2);have p3:=(Xc h9).trans (((HK7.out).cell (p:=⟨wr.heap.size,3,none⟩) (by show wr.heap.size<_;omega)).trans c3);have p4:=(Xc h9).trans (((HK7.out).cell (p:=⟨wr.heap.size,4,none⟩) (by show wr.heap.size<_;omega)).trans c4);have HK8:=Xa K8;have HO8:=Xa hown8;have HN8:Hid (v8≠.slice none 0 0):=Xa (fun e=>by have:=(hn8.1 e).1;cases this);clear hown8 hg8 hn8 K8 h9;refine hK _ _ kP (fun hHeld=>?_);clear hK;refine Xt 9 (fun K hK=>?_);go_simp;refine hK _ _ kP (fun hHeld=>?_);clear hK;refine YA ?_;go_wp2
        go_ret
        refine⟨_,rfl,HN8.out,HK8.out,?_⟩;rw[HEM.out,show(⟨11,t,f,0,0⟩:XN)::XI k ys=[⟨11,t,f,0,0⟩]++XI k ys from rfl,Z9,List.length_append];exact HO8.out
       ·skip
        go_simp;have K1:=HK4.out;have C7:=IH.out a4 ys.length k4 ys _ _ _ (Xa (HM4.out)) (Xa rfl) HST hyl oM (Nat.le_refl _);rw[HWR.out]
        with_reducible refine C7.mono ?_
        clear C7;rintro e w7 ⟨v7,rfl,hn7,hb7,ho7⟩;obtain⟨g7,k7,rfl,hg7,hk7⟩:=Jr ho7 hn7;have s7:=hb7.size;have K7:=Xd K1 hb7;have f0:=(Xu K7 oM).trans c0;have f1:=(Xu K7 oM).trans c1;have f2:=(Xu K7 oM).trans c2;have f3:=(Xu K7 oM).trans c3;have f4:=(Xu K7 oM).trans c4;have HO7:=Xa ho7;have HK7:=Xa K7;have HB7:=Xa hb7;clear ho7 hb7 K1 K7;refine hK _ _ kP (fun hHeld=>?_);clear hK
        try simp only[Act.put,xA,xB,xC,xD,xE,xF]
        refine Xt 1 (fun K hK=>?_);go_simp;refine hK _ _ kP (fun hHeld=>?_);clear hK;refine Xt 8 (fun K hK=>?_);refine Yu rfl (.tmp 134) (.tmp 140) 46 rfl w.heap.size 54 i0 (.agg #[.int .i64 0,.int .i64 0,.int .i64 0,.int .i64 0,.int .i64 0]) 5 40 Tryz.underlying46 hi0 hz0 hz1 hz2 rfl dC (.slice (some ⟨w7.heap.size,0,none⟩) 1 1) 1 (Y1 [⟨11,t,f,0,0⟩]) (by simp[Act.eval]) (X9 (Jn w7 11 t f 0 0) (by have:=HW0.size;have:=HK7.size;omega)) ⟨g7,0,none⟩ (XI k ys).length k7 (Y1 (XI k ys)) (by simp[Act.eval]) (YT _) (fun j u hj=>by rw[Zo,World.cell?_alloc_lt _ _ _ (by show g7<_;exact hg7.2)];exact XZ HO7.out hj) (ZJ _) (by unfold maxLen;omega) oM (by have:=HW0.size;have:=HK4.size;have:=HK7.size;(try simp);omega) ?_;rintro v8 w8 hown8 hg8 hn8 -;have K8:Below w.heap.size w w8:=(Xd HW0.out (HK7.alloc HK7.size (.cells #[.int .i64 11,.int .i64 t,.int .i64 f,.int .i64 0,.int .i64 0] 54))).grown hg8 (by have:=HW0.size;have:=HK4.size;have:=HK7.size;(try simp);omega) (fun q hq=>by cases hq;have:=HW0.size;have:=HK4.size;have:=HK7.size;(try dsimp only);omega);have h9:=(hg8.block wr.heap.size (by(try simp);have:=HK7.size;omega) (fun e=>by injection e with e;have:=HK4.size;have:=HK7.size;simp at e;omega));have p0:=(Xc h9).trans (((HK7.alloc HK7.size (.cells #[.int .i64 11,.int .i64 t,.int .i64 f,.int .i64 0,.int .i64 0] 54)).cell (p:=⟨wr.heap.size,0,none⟩) (by show wr.heap.size<_;omega)).trans c0);have p1:=(Xc h9).trans (((HK7.alloc HK7.size (.cells #[.int .i64 11,.int .i64 t,.int .i64 f,.int .i64 0,.int .i64 0] 54)).cell (p:=⟨wr.heap.size,1,none⟩) (by show wr.heap.size<_;omega)).trans c1);have p2:=(Xc h9).trans (((HK7.alloc HK7.size (.cells #[.int .i64 11,.int .i64 t,.int .i64 f,.int .i64 0,.int .i64 0] 54)).cell (p:=⟨wr.heap.size,2,none⟩) (by show wr.heap.size<_;omega)).trans c2);have p3:=(Xc h9).trans (((HK7.alloc HK7.size (.cells #[.int .i64 11,.int .i64 t,.int .i64 f,.int .i64 0,.int .i64 0] 54)).cell (p:=⟨wr.heap.size,3,none⟩) (by show wr.heap.size<_;omega)).trans c3);have p4:=(Xc h9).trans (((HK7.alloc HK7.size (.cells #[.int .i64 11,.int .i64 t,.int .i64 f,.int .i64 0,.int .i64 0] 54)).cell (p:=⟨wr.heap.size,4,none⟩) (by show wr.heap.size<_;omega)).trans c4);have HK8:=Xa K8;have HO8:=Xa hown8;have HN8:Hid (v8≠.slice none 0 0):=Xa (fun e=>by have:=(hn8.1 e).1;cases this);clear hown8 hg8 hn8 K8 h9;refine hK _ _ kP (fun hHeld=>?_);clear hK;refine Xt 9 (fun K hK=>?_);go_simp;refine hK _ _ kP (fun hHeld=>?_);clear hK;refine YA ?_;go_wp2
        go_ret
        refine⟨_,rfl,HN8.out,HK8.out,?_⟩;rw[HEM.out,show(⟨11,t,f,0,0⟩:XN)::XI k ys=[⟨11,t,f,0,0⟩]++XI k ys from rfl,Z9,List.length_append];exact HO8.out
end Go.Proofs.YtlmgmkmomaileaaGreatDoor
