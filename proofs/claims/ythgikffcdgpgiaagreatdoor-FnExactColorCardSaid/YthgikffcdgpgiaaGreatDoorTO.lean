import Derived.WalkKit
import Derived.Deep.RegionHeld
import Derived.Laws.BitsAllLaws
namespace Go.Proofs.YthgikffcdgpgiaaGreatDoor
open Go.RowKit
theorem oM {p : Prop} (h : p := by omega) : p := h
theorem kR {p : Prop} (h : p := by kernel_rfl) : p := h
theorem vZ {p : Prop} (h : p := by decide) : p := h
theorem sP {p : Prop} (h : p := by simp) : p := h
theorem gM {p : Prop} (h : p := by go_num) : p := h
section
structure YK where
 op:Int
 dst:Int
 a:Int
 b:Int
 imm:Int
structure ZX where
 kind:Int
 a:Int
 to:Int
 els:Int
structure Ph where
 dst:Int
 args:List Int
structure Xi where
 phis:List Ph
 instrs:List YK
 term:ZX
structure Fn where
 values:Int
 blocks:List Xi
def YK.cells(x:YK):List Value:=[.int .i64 x.op,.int .i64 x.dst,.int .i64 x.a,.int .i64 x.b,.int .i64 x.imm]
def ZX.cells(x:ZX):List Value:=[.int .i64 x.kind,.int .i64 x.a,.int .i64 x.to,.int .i64 x.els]
def Xg(w:World)(L B:Nat)(a:Option Addr)(xs:List Int):Prop :=
 ∀i (h:i<xs.length),∃b o,a=some ⟨b,o,none⟩/\(L<=b/\b<B)/\w.cell? ⟨b,o+i,none⟩=some (.int .i64 xs[i])
def Y5(w:World)(b o:Nat)(x:YK):Prop :=
 w.cell? ⟨b,o,none⟩=some (.int .i64 x.op)/\w.cell? ⟨b,o+1,none⟩=some (.int .i64 x.dst)/\w.cell? ⟨b,o+2,none⟩=some (.int .i64 x.a) /\
 w.cell? ⟨b,o+3,none⟩=some (.int .i64 x.b)/\w.cell? ⟨b,o+4,none⟩=some (.int .i64 x.imm)
def XL(w:World)(L B:Nat)(a:Option Addr)(xs:List YK):Prop :=
 ∀i (h:i<xs.length),∃b o,a=some ⟨b,o,none⟩/\(L<=b/\b<B)/\Y5 w b (o+i*5) xs[i]
def Z0(w:World)(b o:Nat)(x:ZX):Prop :=
 w.cell? ⟨b,o,none⟩=some (.int .i64 x.kind)/\w.cell? ⟨b,o+1,none⟩=some (.int .i64 x.a)/\w.cell? ⟨b,o+2,none⟩=some (.int .i64 x.to) /\
 w.cell? ⟨b,o+3,none⟩=some (.int .i64 x.els)
def ZG(w:World)(L B b o:Nat)(x:Ph):Prop :=
 ∃a c,w.cell? ⟨b,o,none⟩=some (.int .i64 x.dst)/\w.cell? ⟨b,o+1,none⟩=some (.slice a x.args.length c)/\Xg w L B a x.args
def XZ(w:World)(L B:Nat)(a:Option Addr)(xs:List Ph):Prop :=
 ∀i (h:i<xs.length),∃b o,a=some ⟨b,o,none⟩/\(L<=b/\b<B)/\ZG w L B b (o+i*2) xs[i]
def Y8(w:World)(L B b o:Nat)(x:Xi):Prop :=
 ∃pa pc ia ic,w.cell? ⟨b,o,none⟩=some (.slice pa x.phis.length pc)/\w.cell? ⟨b,o+1,none⟩=some (.slice ia x.instrs.length ic) /\
  Z0 w b (o+2) x.term/\XZ w L B pa x.phis/\XL w L B ia x.instrs
def Xl(w:World)(L B:Nat)(a:Option Addr)(xs:List Xi):Prop :=
 ∀i (h:i<xs.length),∃b o,a=some ⟨b,o,none⟩/\(L<=b/\b<B)/\Y8 w L B b (o+i*6) xs[i]
theorem Xa{p:Prop}(h:p):Hid p:=h
theorem Xq{p:Prop}(h:Hid p):p:=h
theorem Xe{w w1 w2:World}(h:Below w.heap.size w w1)(k:Below w1.heap.size w1 w2):Below w.heap.size w w2:=h.trans (k.mono h.size)
theorem bcell{W w1:World}(hb:Below W.heap.size W w1):(∀b o,b<W.heap.size->w1.cell? ⟨b,o,none⟩=W.cell? ⟨b,o,none⟩)/\(∀b o,b<W.heap.size->w1.frozen? ⟨b,o,none⟩=W.frozen? ⟨b,o,none⟩) :=
 ⟨fun b o h=>hb.cell (p:=⟨b,o,none⟩) h,fun b o h=>hb.frozen (p:=⟨b,o,none⟩) h⟩
theorem Xb{w w1:World}(h:Below w.heap.size w w1)(o:Obj):Below w.heap.size w (w1.alloc o):=h.alloc h.size o
def Ym(L:Nat)(w:World):Prop:=∀b o,L<=b->w.frozen? ⟨b,o,none⟩=false
theorem Ym.start(w:World):Ym w.heap.size w:=fun b o h=>by
 unfold World.frozen?;rw[Array.getElem?_eq_none (by exact h)]
theorem Ym.alloc{L:Nat}{w:World}(h:Ym L w)(c:Array Value)(t:TypeId):Ym L (w.alloc (.cells c t)):=fun b o hb=>by
 by_cases e:b<w.heap.size
 ·rw[World.frozen?_of_block (w:=w) (a:=⟨b,o,none⟩) (Below.heap_alloc _ _ _ e)];exact h b o hb
 ·unfold World.frozen?
  show(match (w.heap.push (.cells c t))[b]? with | some (.cells _ _ (lo,hi))=>decide (lo<=o)&&decide (o<hi) | _=>false)=false
  rw[Array.getElem?_push];split
  ·rename_i _ _ _ hh
   split at hh
   ·cases hh;simp
   ·rw[Array.getElem?_eq_none oM]at hh;cases hh
  ·rfl
theorem Ym.setCell{L:Nat}{w:World}(h:Ym L w)(p:Addr)(v:Value):Ym L (w.setCell p v):=fun b o hb=>by rw[World.frozen?_setCell];exact h b o hb
theorem Ym.drew{L:Nat}{w:World}(h:Ym L w):Ym L w.drew:=h
theorem Ym.trans{L:Nat}{w w1:World}(h:Ym L w)(k:Below w.heap.size w w1)(t:Ym w.heap.size w1):Ym L w1:=fun b o hb=>by
 by_cases e:b<w.heap.size
 ·rw[k.frozen (p:=⟨b,o,none⟩) e];exact h b o hb
 ·exact t b o oM
theorem Ym.mono{L L':Nat}{w:World}(h:Ym L w)(l:L<=L'):Ym L' w:=fun b o hb=>h b o oM
variable {w w' : World} {L B : Nat}
def Xu(L B:Nat)(w w':World):Prop:=∀k,L<=k->k<B->w'.heap[k]?=w.heap[k]?
theorem Xu.of_below(k:Below B w w'):Xu L B w w':=fun i _ h=>k.block i h
theorem Xu.mono{L' B':Nat}(h:Xu L B w w')(l:L<=L')(k:B'<=B):Xu L' B' w w':=fun i hi hj=>h i oM oM
theorem Xu.trans{w2:World}(h:Xu L B w w')(k:Xu L B w' w2):Xu L B w w2:=fun i hi hj=>(k i hi hj).trans (h i hi hj)
theorem Xc{b o:Nat}(h:w'.heap[b]?=w.heap[b]?):w'.cell? ⟨b,o,none⟩=w.cell? ⟨b,o,none⟩:=World.cell?_of_block (w:=w) h
theorem Xg.keepS{a:Option Addr}{xs:List Int}(h:Xg w L B a xs)(k:Xu L B w w'):Xg w' L B a xs:=fun i hi=>by
 obtain⟨b,o,e,hb,hc⟩:=h i hi;exact⟨b,o,e,hb,by rw[Xc (k b hb.1 hb.2)];exact hc⟩
theorem Y5.keepS{b o:Nat}{x:YK}(h:Y5 w b o x)(k:w'.heap[b]?=w.heap[b]?):Y5 w' b o x:=by
 obtain⟨h0,h1,h2,h3,h4⟩:=h;exact⟨(Xc k).trans h0,(Xc k).trans h1,(Xc k).trans h2,(Xc k).trans h3,(Xc k).trans h4⟩
theorem Z0.keepS{b o:Nat}{x:ZX}(h:Z0 w b o x)(k:w'.heap[b]?=w.heap[b]?):Z0 w' b o x:=by
 obtain⟨h0,h1,h2,h3⟩:=h;exact⟨(Xc k).trans h0,(Xc k).trans h1,(Xc k).trans h2,(Xc k).trans h3⟩
theorem XL.keepS{a:Option Addr}{xs:List YK}(h:XL w L B a xs)(k:Xu L B w w'):XL w' L B a xs:=fun i hi=>by
 obtain⟨b,o,e,hb,hc⟩:=h i hi;exact⟨b,o,e,hb,hc.keepS (k b hb.1 hb.2)⟩
theorem ZG.keepS{b o:Nat}{x:Ph}(h:ZG w L B b o x)(k:Xu L B w w')(e:w'.heap[b]?=w.heap[b]?):ZG w' L B b o x:=by
 obtain⟨a,c,h0,h1,h2⟩:=h;exact⟨a,c,(Xc e).trans h0,(Xc e).trans h1,h2.keepS k⟩
theorem XZ.keepS{a:Option Addr}{xs:List Ph}(h:XZ w L B a xs)(k:Xu L B w w'):XZ w' L B a xs:=fun i hi=>by
 obtain⟨b,o,e,hb,hc⟩:=h i hi;exact⟨b,o,e,hb,hc.keepS k (k b hb.1 hb.2)⟩
theorem Y8.keepS{b o:Nat}{x:Xi}(h:Y8 w L B b o x)(k:Xu L B w w')(e:w'.heap[b]?=w.heap[b]?):Y8 w' L B b o x:=by
 obtain⟨pa,pc,ia,ic,h0,h1,h2,h3,h4⟩:=h;exact⟨pa,pc,ia,ic,(Xc e).trans h0,(Xc e).trans h1,h2.keepS e,h3.keepS k,h4.keepS k⟩
theorem Xl.keepS{a:Option Addr}{xs:List Xi}(h:Xl w L B a xs)(k:Xu L B w w'):Xl w' L B a xs:=fun i hi=>by
 obtain⟨b,o,e,hb,hc⟩:=h i hi;exact⟨b,o,e,hb,hc.keepS k (k b hb.1 hb.2)⟩
theorem Xg.keep{a:Option Addr}{xs:List Int}(h:Xg w L B a xs)(k:Below B w w'):Xg w' L B a xs:=h.keepS (Xu.of_below k)
theorem Y5.keep{b o:Nat}{x:YK}(h:Y5 w b o x)(k:Below B w w')(hb:b<B):Y5 w' b o x:=h.keepS (k.block b hb)
theorem Z0.keep{b o:Nat}{x:ZX}(h:Z0 w b o x)(k:Below B w w')(hb:b<B):Z0 w' b o x:=h.keepS (k.block b hb)
theorem XL.keep{a:Option Addr}{xs:List YK}(h:XL w L B a xs)(k:Below B w w'):XL w' L B a xs:=h.keepS (Xu.of_below k)
theorem ZG.keep{b o:Nat}{x:Ph}(h:ZG w L B b o x)(k:Below B w w')(hb:b<B):ZG w' L B b o x:=h.keepS (Xu.of_below k) (k.block b hb)
theorem XZ.keep{a:Option Addr}{xs:List Ph}(h:XZ w L B a xs)(k:Below B w w'):XZ w' L B a xs:=h.keepS (Xu.of_below k)
theorem Y8.keep{b o:Nat}{x:Xi}(h:Y8 w L B b o x)(k:Below B w w')(hb:b<B):Y8 w' L B b o x:=h.keepS (Xu.of_below k) (k.block b hb)
theorem Xl.keep{a:Option Addr}{xs:List Xi}(h:Xl w L B a xs)(k:Below B w w'):Xl w' L B a xs:=h.keepS (Xu.of_below k)
theorem Xg.mono{L' B':Nat}{a:Option Addr}{xs:List Int}(h:Xg w L B a xs)(l:L'<=L)(k:B<=B'):Xg w L' B' a xs:=fun i hi=>by
 obtain⟨b,o,e,hb,hc⟩:=h i hi;exact⟨b,o,e,oM,hc⟩
theorem XL.mono{L' B':Nat}{a:Option Addr}{xs:List YK}(h:XL w L B a xs)(l:L'<=L)(k:B<=B'):XL w L' B' a xs:=fun i hi=>by
 obtain⟨b,o,e,hb,hc⟩:=h i hi;exact⟨b,o,e,oM,hc⟩
theorem ZG.mono{L' B':Nat}{b o:Nat}{x:Ph}(h:ZG w L B b o x)(l:L'<=L)(k:B<=B'):ZG w L' B' b o x:=by
 obtain⟨a,c,h0,h1,h2⟩:=h;exact⟨a,c,h0,h1,h2.mono l k⟩
theorem XZ.mono{L' B':Nat}{a:Option Addr}{xs:List Ph}(h:XZ w L B a xs)(l:L'<=L)(k:B<=B'):XZ w L' B' a xs:=fun i hi=>by
 obtain⟨b,o,e,hb,hc⟩:=h i hi;exact⟨b,o,e,oM,hc.mono l k⟩
theorem Y8.mono{L' B':Nat}{b o:Nat}{x:Xi}(h:Y8 w L B b o x)(l:L'<=L)(k:B<=B'):Y8 w L' B' b o x:=by
 obtain⟨pa,pc,ia,ic,h0,h1,h2,h3,h4⟩:=h;exact⟨pa,pc,ia,ic,h0,h1,h2,h3.mono l k,h4.mono l k⟩
theorem Xl.mono{L' B':Nat}{a:Option Addr}{xs:List Xi}(h:Xl w L B a xs)(l:L'<=L)(k:B<=B'):Xl w L' B' a xs:=fun i hi=>by
 obtain⟨b,o,e,hb,hc⟩:=h i hi;exact⟨b,o,e,oM,hc.mono l k⟩
end
theorem xA{α:Type}{xs:List α}{i:Nat}(h:i<xs.toArray.size):xs.toArray[i]=xs[i]'(by simpa using h):=rfl
theorem xB{α:Type}{a:α}{ys:List α}{h:0<(a::ys).length}:(a::ys)[0]=a:=rfl
theorem xC{α:Type}{a:α}{ys:List α}{i:Nat}{h:i+1<(a::ys).length}:(a::ys)[i+1]=ys[i]'(Nat.lt_of_succ_lt_succ h):=rfl
theorem xD{α:Type}{l:List α}{i:Nat}{a:α}:l.toArray.setIfInBounds i a=(l.set i a).toArray:=List.setIfInBounds_toArray ..
theorem xE{α:Type}{x:α}{xs:List α}{a:α}:(x::xs).set 0 a=a::xs:=rfl
theorem xF{α:Type}{x:α}{xs:List α}{i:Nat}{a:α}:(x::xs).set (i+1) a=x::xs.set i a:=rfl
theorem Yg{P:Program}{md:Region.Mode}{ops:Array Oper}{Q:Exit->Act->World->Prop}{S:World->Prop}(i:Nat){oi:Oper}{v:Value}{fuel:Nat}{listed:Array Bool}{a b:Act}{w:World}(h:wpAnyH P md ops Q S fuel (listed.setIfInBounds i true) b w)(hi:ops[i]?=some oi:=by exact rfl)(hw:Region.wanted oi (yielded ops a.tmps)=true:=by rfl)(hy:∀(w:World),S w->Sem.run P (execOp a.eval oi) w=Result.ok (Next.value v) w:=by intro w hSw;(try dsimp only at hSw);go_simp;try with_reducible rfl)(hp:a.put oi.dst v=b:=by(simp only[Act.put,xA,xB,xC,xD,xE,xF]);exact rfl)(hq:∀c a w,Q (.panic c) (a.put oi.dst v) w->Q (.panic c) a w:=by exact(fun _ _ _ h=>hQ.out _ _ _ _ _ h))(hs:Region.noSelect ops=true:=by kernel_rfl)(hf:Region.free md ops listed i=true:=by kernel_rfl)(hr:(Region.ready md ops listed).contains i=true:=by kernel_rfl)(hS:S w:=by assumption):wpAnyH P md ops Q S (fuel+1) listed a w:=wpAnyH_take hi hs hf hr hq (Or.inl ⟨hw,hy⟩) hS (hp ▸ h)
theorem XE{P:Program}{md:Region.Mode}{ops:Array Oper}{Q:Exit->Act->World->Prop}{S:World->Prop}(i:Nat){oi:Oper}{v:Value}{fuel:Nat}{listed:Array Bool}{a b:Act}{w:World}(h:wpAnyH P md ops Q S fuel (listed.setIfInBounds i true) b w)(hi:ops[i]?=some oi:=by exact rfl)(hw:Region.wanted oi (yielded ops a.tmps)=true:=by rfl)(hy:∀(w:World),S w->Sem.run P (execOp a.eval oi) w=Result.ok (Next.value v) w:=by intro w hSw;(try dsimp only at hSw);go_simp;try with_reducible rfl)(hp:a.put oi.dst v=b:=by(simp only[Act.put,xA,xB,xC,xD,xE,xF]);exact rfl)(hq:∀c a w,Q (.panic c) (a.put oi.dst v) w->Q (.panic c) a w:=by exact fun _ _ _ h=>h)(hs:Region.noSelect ops=true:=by kernel_rfl)(hf:Region.free md ops listed i=true:=by kernel_rfl)(hr:(Region.ready md ops listed).contains i=true:=by kernel_rfl)(hS:S w:=by assumption):wpAnyH P md ops Q S (fuel+1) listed a w:=wpAnyH_take hi hs hf hr hq (Or.inl ⟨hw,hy⟩) hS (hp ▸ h)
theorem KV{P:Program}{md:Region.Mode}{ops:Array Oper}{Q:Exit->Act->World->Prop}{S:World->Prop}(i:Nat){oi:Oper}{fuel:Nat}{listed:Array Bool}{a b:Act}{w:World}(h:wpAnyH P md ops Q S fuel (listed.setIfInBounds i true) b w)(hi:ops[i]?=some oi:=by exact rfl)(hw:Region.wanted oi (yielded ops a.tmps)=false:=by rfl)(hp:a.put oi.dst undef=b:=by(simp only[Act.put,xA,xB,xC,xD,xE,xF]);exact rfl)(hq:∀c a w,Q (.panic c) (a.put oi.dst undef) w->Q (.panic c) a w:=by exact fun _ _ _ h=>h)(hs:Region.noSelect ops=true:=by kernel_rfl)(hf:Region.free md ops listed i=true:=by kernel_rfl)(hr:(Region.ready md ops listed).contains i=true:=by kernel_rfl)(hS:S w:=by assumption):wpAnyH P md ops Q S (fuel+1) listed a w:=wpAnyH_take hi hs hf hr hq (Or.inr ⟨hw,rfl⟩) hS (hp ▸ h)
theorem tX{P:Program}{md:Region.Mode}{ops:Array Oper}{Q:Exit->Act->World->Prop}{S:World->Prop}(i:Nat){oi:Oper}{fuel:Nat}{listed:Array Bool}{a b:Act}{w:World}(h:wpAnyH P md ops Q S fuel (listed.setIfInBounds i true) b w)(hi:ops[i]?=some oi:=by exact rfl)(hw:Region.wanted oi (yielded ops a.tmps)=false:=by rfl)(hp:a.put oi.dst undef=b:=by(simp only[Act.put,xA,xB,xC,xD,xE,xF]);exact rfl)(hq:∀c a w,Q (.panic c) (a.put oi.dst undef) w->Q (.panic c) a w:=by exact(fun _ _ _ h=>hQ.out _ _ _ _ _ h))(hs:Region.noSelect ops=true:=by kernel_rfl)(hf:Region.free md ops listed i=true:=by kernel_rfl)(hr:(Region.ready md ops listed).contains i=true:=by kernel_rfl)(hS:S w:=by assumption):wpAnyH P md ops Q S (fuel+1) listed a w:=wpAnyH_take hi hs hf hr hq (Or.inr ⟨hw,rfl⟩) hS (hp ▸ h)
theorem Xz{P:Program}{md:Region.Mode}{ops:Array Oper}{Q:Exit->Act->World->Prop}{S:World->Prop}(i:Nat){oi:Oper}{fuel:Nat}{listed:Array Bool}{a:Act}{w:World}(h:∀K':Act->World->Prop,Shut (∀a w,S w->∀{b:Act},(S w->wpAnyH P md ops Q S fuel (listed.setIfInBounds i true) b w)->(hp:a=b:=by(try simp only[Act.put,xA,xB,xC,xD,xE,xF]);exact rfl)->K' a w)->if Region.wanted oi (yielded ops a.tmps)=true then Oper.wp P oi a w K' Q else K' (a.put oi.dst undef) w)(hi:ops[i]?=some oi:=by exact rfl)(hr:Region.ready md ops listed=[i]:=by kernel_rfl):wpAnyH P md ops Q S (fuel+1) listed a w:=wpAnyH_ready (rs:=[i]) hr (by simp) (AllReadyH.cons hi (fun K hK=>h K (fun a w hs b k hp=>hK a w hs (hp ▸ k))) AllReadyH.nil)
theorem ZB{P:Program}{ops:Array Oper}{Q:Exit->Act->World->Prop}(S:World->Prop){id:Nat}{a:Act}{w:World}(h:S w.drew->wpAnyH P .any ops Q S ops.size (Array.replicate ops.size false) a w.drew)(hS:S w.drew:=by first | with_reducible exact True.intro | ((try dsimp only);go_keep))(hm:P.follows .mixedOrders=true:=by kernel_rfl):(Code.region id ops true).wp P Q a w:=wp_region_held_drew hm hS h
theorem Zu{P:Program}{md:Region.Mode}{ops:Array Oper}{Q:Exit->Act->World->Prop}{S:World->Prop}{listed:Array Bool}{a:Act}{w:World}{fuel:Nat}(h:Q .normal a w)(hr:Region.ready md ops listed=[]:=by kernel_rfl):wpAnyH P md ops Q S fuel listed a w:=wpAnyH_done hr h fuel
theorem kP{S:Prop}(h:S:=by first | with_reducible exact hHeld | ((try dsimp only);go_keep)):S:=h
theorem XD{n:Nat}{w w':World}(k:Below n w w'){b o:Nat}(hb:b<n):w'.cell? ⟨b,o,none⟩=w.cell? ⟨b,o,none⟩:=k.cell (p:=⟨b,o,none⟩) hb
def Xf(W:Nat->Nat)(x:Nat):Bool:=(W (x / 64)).testBit (x % 64)
def Yn(W:Nat->Nat)(x:Nat):Nat->Nat:=fun i=>if i=x / 64 then W i ||| 2 ^ (x % 64)else W i
def Xw(W:Nat->Nat):Prop:=∀i,W i<18446744073709551616
theorem Ze(x:Nat):Xf (fun _=>0) x=false:=by simp[Xf]
theorem YR(W:Nat->Nat)(x y:Nat):Xf (Yn W x) y=(decide (y=x)||Xf W y):=by
 unfold Xf Yn;by_cases h:y / 64=x / 64
 ·rw[if_pos h,Nat.testBit_or,Nat.testBit_two_pow]
  by_cases e:x % 64=y % 64
  ·have:y=x:=oM
   simp[this]
  ·have:¬y=x:=fun h2=>e (by rw[h2])
   simp[this,e]
 ·rw[if_neg h]
  have:¬y=x:=fun h2=>h (by rw[h2])
  simp[this]
theorem Zav{W:Nat->Nat}(h:Xw W)(x:Nat):Xw (Yn W x):=fun i=>by
 unfold Yn;split
 ·exact Nat.or_lt_two_pow (n:=64) (h i) (Nat.pow_lt_pow_right vZ (Nat.mod_lt _ vZ))
 ·exact h i
def moreN(S O T:Nat->Nat)(i:Nat):Nat:=(O i &&& (18446744073709551615-T i)) &&& (18446744073709551615-S i)
def butN(S O T:Nat->Nat)(i:Nat):Nat:=S i ||| moreN S O T i
theorem WS{a t:Nat}(ha:a<18446744073709551616)(ht:t<64):(18446744073709551615-a).testBit t=!a.testBit t:=by
 have:=Nat.testBit_two_pow_sub_succ (n:=64) (x:=a) ha t;rw[show 18446744073709551615-a=2 ^ 64-(a+1) by omega,this];simp[ht]
theorem UH{S O T:Nat->Nat}(hS:Xw S)(hT:Xw T)(i:Nat){t:Nat}(ht:t<64):(moreN S O T i).testBit t=((O i).testBit t && !(T i).testBit t && !(S i).testBit t):=by
 unfold moreN;rw[Nat.testBit_and,Nat.testBit_and,WS (hT i) ht,WS (hS i) ht]
theorem Ul{S O T:Nat->Nat}(hO:Xw O)(i:Nat):moreN S O T i<18446744073709551616:=Nat.lt_of_le_of_lt (Nat.le_trans Nat.and_le_left Nat.and_le_left) (hO i)
theorem Zc1{S O T:Nat->Nat}(hS:Xw S)(hO:Xw O):Xw (butN S O T):=fun i=>Nat.or_lt_two_pow (n:=64) (hS i) (Ul hO i)
theorem Zde{S O T:Nat->Nat}(hS:Xw S)(hT:Xw T)(x:Nat):Xf (butN S O T) x=(Xf S x||(Xf O x && !Xf T x)):=by
 unfold Xf butN;rw[Nat.testBit_or,UH hS hT _ (Nat.mod_lt _ vZ)];cases (S (x / 64)).testBit (x % 64)<;>simp
theorem Zet{S O T:Nat->Nat}(hS:Xw S)(hO:Xw O)(hT:Xw T)(i:Nat)(h:moreN S O T i≠0):∃x,x / 64=i/\Xf O x=true/\Xf T x=false/\Xf S x=false:=by
 obtain⟨t,ht⟩:=Nat.exists_testBit_of_ne_zero h;have h64:t<64:=by
  rcases Nat.lt_or_ge t 64 with h1 | h1
  ·exact h1
  ·have:=Nat.testBit_lt_two_pow (Nat.lt_of_lt_of_le (Ul (S:=S) (T:=T) hO i) (Nat.pow_le_pow_right vZ h1:2 ^ 64<=2 ^ t))
   rw[this]at ht;cases ht
 rw[UH hS hT _ h64]at ht;simp only[Bool.and_eq_true,Bool.not_eq_true']at ht;refine⟨64*i+t,oM,?_,?_,?_⟩
 ·unfold Xf;rw[show(64*i+t) / 64=i by omega,show(64*i+t) % 64=t by omega];exact ht.1.1
 ·unfold Xf;rw[show(64*i+t) / 64=i by omega,show(64*i+t) % 64=t by omega];exact ht.1.2
 ·unfold Xf;rw[show(64*i+t) / 64=i by omega,show(64*i+t) % 64=t by omega];exact ht.2
theorem ZdT{S O T:Nat->Nat}(hS:Xw S)(hT:Xw T){x:Nat}(h:moreN S O T (x / 64)=0)(h1:Xf O x=true)(h2:Xf T x=false):Xf S x=true:=by
 have:=UH (O:=O) hS hT (x / 64) (Nat.mod_lt x (show 0<64 by decide));rw[h,Nat.zero_testBit]at this;unfold Xf at *;rw[h1,h2]at this;cases hs:(S (x / 64)).testBit (x % 64)with
 | true=>rfl
 | false=>rw[hs]at this;cases this
def grewN(S O T:Nat->Nat)(K:Nat):Bool:=(List.range K).any fun i=>moreN S O T i != 0
theorem VK(S O T:Nat->Nat):grewN S O T 0=false:=rfl
theorem Wh(S O T:Nat->Nat)(K:Nat):grewN S O T (K+1)=(grewN S O T K||(moreN S O T K != 0)):=by
 unfold grewN;rw[List.range_succ,List.any_append];simp
theorem ZfM{S O T:Nat->Nat}{K:Nat}(hS:Xw S)(hO:Xw O)(hT:Xw T)(h:grewN S O T K=true):∃x,x<64*K/\Xf O x=true/\Xf T x=false/\Xf S x=false:=by
 obtain⟨i,hi,hm⟩:=List.any_eq_true.1 h;obtain⟨x,h1,h2⟩:=Zet hS hO hT i (by simpa using hm);have:=List.mem_range.1 hi;exact⟨x,oM,h2⟩
theorem Zhe{S O T:Nat->Nat}{K:Nat}(hS:Xw S)(hT:Xw T)(h:grewN S O T K=false){x:Nat}(hx:x<64*K)(h1:Xf O x=true)(h2:Xf T x=false):Xf S x=true:=by
 refine ZdT hS hT ?_ h1 h2;have:=List.any_eq_false.1 h (x / 64) (List.mem_range.2 oM);simpa using this
def addsN(W:Nat->Nat)(ts:List Nat):Nat->Nat:=ts.foldl Yn W
theorem TH{W:Nat->Nat}{ts:List Nat}{q:Nat}(h:q<ts.length):addsN W (ts.take (q+1))=Yn (addsN W (ts.take q)) ts[q]:=by
 unfold addsN;rw[List.take_succ_eq_append_getElem h,List.foldl_append];rfl
theorem YE:∀(ts:List Nat){W:Nat->Nat},Xw W->Xw (addsN W ts)
 | [],_,h=>h
 | t::ts,_,h=>YE ts (Zav h t)
theorem Y4:∀(ts:List Nat)(W:Nat->Nat)(y:Nat),Xf (addsN W ts) y=(decide (y∈ts)||Xf W y)
 | [],W,y=>by simp[addsN]
 | t::ts,W,y=>by
  show Xf (addsN (Yn W t) ts) y=_;rw[Y4 ts,YR];by_cases h1:y=t
  ·simp[h1]
  ·by_cases h2:y∈ts<;>simp[h1,h2]
theorem VV{a b:Bool}(h:a=b):Ending.returned (.bool a)=Ending.returned (.bool b):=by rw[h]
theorem ZdX(x:Nat):(x:Int).tdiv 64=((x / 64:Nat):Int):=by rw[Int.tdiv_eq_ediv_of_nonneg oM];omega
theorem Zd5(x:Nat):(x:Int).tmod 64=((x % 64:Nat):Int):=by rw[Int.tmod_eq_emod_of_nonneg oM];omega
theorem ZbE{W t:Nat}(hW:W<18446744073709551616):(bits .and .u64 ((W:Int) / 2 ^ t) 1==1)=W.testBit t:=by
 have hq:W / 2 ^ t<18446744073709551616:=Nat.lt_of_le_of_lt (Nat.div_le_self _ _) hW;have e:((W:Int) / 2 ^ t)=((W / 2 ^ t:Nat):Int):=sP;rw[e,show(1:Int)=((1:Nat):Int) from rfl,u64_and_nat _ _ hq vZ,Nat.and_one_is_mod,Nat.testBit_eq_decide_div_mod_eq];by_cases h:W / 2 ^ t % 2=1
 ·simp[h]
 ·have h0:W / 2 ^ t % 2=0:=oM
  simp[h0]
theorem Zan{W t:Nat}(ht:t<64)(hW:W<18446744073709551616):bits .or .u64 (W:Int) (IntKind.u64.wrap (2 ^ t))=((W ||| 2 ^ t:Nat):Int):=by
 have h2:2 ^ t<18446744073709551616:=Nat.lt_of_lt_of_le (Nat.pow_lt_pow_right vZ ht) vZ;have e:IntKind.u64.wrap (2 ^ t)=((2 ^ t:Nat):Int):=by
  rw[IntKind.wrap_u64];have:((2 ^ t:Nat):Int)=(2:Int) ^ t:=sP;rw[<-this];exact Int.emod_eq_of_lt (Int.natCast_nonneg _) (Int.ofNat_lt.2 h2)
 rw[e,u64_or_nat _ _ hW h2]
end Go.Proofs.YthgikffcdgpgiaaGreatDoor
