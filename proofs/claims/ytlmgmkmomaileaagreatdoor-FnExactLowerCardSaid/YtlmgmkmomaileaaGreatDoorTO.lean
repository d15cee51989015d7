import Derived.WalkKit
import Derived.Deep.RegionHeld
import Derived.Test.YtlmgmkmomaileaaGreatDoorProg
import Derived.WalkSpells
import Derived.WalkLawsBesides
namespace Go.Proofs.YtlmgmkmomaileaaGreatDoor
theorem oM {p : Prop} (h : p := by omega) : p := h
theorem vZ {p : Prop} (h : p := by kernel_rfl) : p := h
theorem dC {p : Prop} (h : p := by decide) : p := h
theorem sP {p : Prop} (h : p := by simp) : p := h
theorem gM {p : Prop} (h : p := by go_num) : p := h
end Go.Proofs.YtlmgmkmomaileaaGreatDoor
namespace Go.Proofs.YtlmgmkmomaileaaGreatDoor
open Go.RowKit
structure XN where
 op:Int
 dst:Int
 a:Int
 b:Int
 imm:Int
structure Zu where
 kind:Int
 a:Int
 to:Int
 els:Int
structure Ph where
 dst:Int
 args:List Int
structure Xh where
 phis:List Ph
 instrs:List XN
 term:Zu
structure Fn where
 values:Int
 blocks:List Xh
def XN.cells(x:XN):List Value:=[.int .i64 x.op,.int .i64 x.dst,.int .i64 x.a,.int .i64 x.b,.int .i64 x.imm]
def Xf(w:World)(L B:Nat)(a:Option Addr)(xs:List Int):Prop :=
 ∀i (h:i<xs.length),∃b o,a=some ⟨b,o,none⟩/\(L<=b/\b<B)/\w.cell? ⟨b,o+i,none⟩=some (.int .i64 xs[i])
def Yd(w:World)(b o:Nat)(x:XN):Prop :=
 w.cell? ⟨b,o,none⟩=some (.int .i64 x.op)/\w.cell? ⟨b,o+1,none⟩=some (.int .i64 x.dst)/\w.cell? ⟨b,o+2,none⟩=some (.int .i64 x.a) /\
 w.cell? ⟨b,o+3,none⟩=some (.int .i64 x.b)/\w.cell? ⟨b,o+4,none⟩=some (.int .i64 x.imm)
def X0(w:World)(L B:Nat)(a:Option Addr)(xs:List XN):Prop :=
 ∀i (h:i<xs.length),∃b o,a=some ⟨b,o,none⟩/\(L<=b/\b<B)/\Yd w b (o+i*5) xs[i]
def YW(w:World)(b o:Nat)(x:Zu):Prop :=
 w.cell? ⟨b,o,none⟩=some (.int .i64 x.kind)/\w.cell? ⟨b,o+1,none⟩=some (.int .i64 x.a)/\w.cell? ⟨b,o+2,none⟩=some (.int .i64 x.to) /\
 w.cell? ⟨b,o+3,none⟩=some (.int .i64 x.els)
def Ju(w:World)(L B b o:Nat)(x:Ph):Prop :=
 ∃a c,w.cell? ⟨b,o,none⟩=some (.int .i64 x.dst)/\w.cell? ⟨b,o+1,none⟩=some (.slice a x.args.length c)/\Xf w L B a x.args
def Yp(w:World)(L B:Nat)(a:Option Addr)(xs:List Ph):Prop :=
 ∀i (h:i<xs.length),∃b o,a=some ⟨b,o,none⟩/\(L<=b/\b<B)/\Ju w L B b (o+i*2) xs[i]
def YV(w:World)(L B b o:Nat)(x:Xh):Prop :=
 ∃pa pc ia ic,w.cell? ⟨b,o,none⟩=some (.slice pa x.phis.length pc)/\w.cell? ⟨b,o+1,none⟩=some (.slice ia x.instrs.length ic) /\
  YW w b (o+2) x.term/\Yp w L B pa x.phis/\X0 w L B ia x.instrs
def Xk(w:World)(L B:Nat)(a:Option Addr)(xs:List Xh):Prop :=
 ∀i (h:i<xs.length),∃b o,a=some ⟨b,o,none⟩/\(L<=b/\b<B)/\YV w L B b (o+i*6) xs[i]
theorem Xa{p:Prop}(h:p):Hid p:=h
theorem Xp{p:Prop}(h:Hid p):p:=h
theorem Xd{w w1 w2:World}(h:Below w.heap.size w w1)(k:Below w1.heap.size w1 w2):Below w.heap.size w w2:=h.trans (k.mono h.size)
theorem bcell{W w1:World}(hb:Below W.heap.size W w1):(∀b o,b<W.heap.size->w1.cell? ⟨b,o,none⟩=W.cell? ⟨b,o,none⟩)/\(∀b o,b<W.heap.size->w1.frozen? ⟨b,o,none⟩=W.frozen? ⟨b,o,none⟩) :=
 ⟨fun b o h=>hb.cell (p:=⟨b,o,none⟩) h,fun b o h=>hb.frozen (p:=⟨b,o,none⟩) h⟩
theorem Xb{w w1:World}(h:Below w.heap.size w w1)(o:Obj):Below w.heap.size w (w1.alloc o):=h.alloc h.size o
def YU(L:Nat)(w:World):Prop:=∀b o,L<=b->w.frozen? ⟨b,o,none⟩=false
theorem YU.start(w:World):YU w.heap.size w:=fun b o h=>by
 unfold World.frozen?;rw[Array.getElem?_eq_none (by exact h)]
theorem YU.alloc{L:Nat}{w:World}(h:YU L w)(c:Array Value)(t:TypeId):YU L (w.alloc (.cells c t)):=fun b o hb=>by
 by_cases e:b<w.heap.size
 ·rw[World.frozen?_of_block (w:=w) (a:=⟨b,o,none⟩) (Below.heap_alloc _ _ _ e)];exact h b o hb
 ·unfold World.frozen?
  show(match (w.heap.push (.cells c t))[b]? with | some (.cells _ _ (lo,hi))=>decide (lo<=o)&&decide (o<hi) | _=>false)=false
  rw[Array.getElem?_push];split
  ·rename_i _ _ _ hh
   split at hh
   ·cases hh;simp
   ·rw[Array.getElem?_eq_none oM]at hh;cases hh
  ·rfl
theorem YU.setCell{L:Nat}{w:World}(h:YU L w)(p:Addr)(v:Value):YU L (w.setCell p v):=fun b o hb=>by rw[World.frozen?_setCell];exact h b o hb
theorem YU.trans{L:Nat}{w w1:World}(h:YU L w)(k:Below w.heap.size w w1)(t:YU w.heap.size w1):YU L w1:=fun b o hb=>by
 by_cases e:b<w.heap.size
 ·rw[k.frozen (p:=⟨b,o,none⟩) e];exact h b o hb
 ·exact t b o oM
variable {w w' : World} {L B : Nat}
def Xv(L B:Nat)(w w':World):Prop:=∀k,L<=k->k<B->w'.heap[k]?=w.heap[k]?
theorem Xv.of_below(k:Below B w w'):Xv L B w w':=fun i _ h=>k.block i h
theorem Xv.mono{L' B':Nat}(h:Xv L B w w')(l:L<=L')(k:B'<=B):Xv L' B' w w':=fun i hi hj=>h i oM oM
theorem Xv.trans{w2:World}(h:Xv L B w w')(k:Xv L B w' w2):Xv L B w w2:=fun i hi hj=>(k i hi hj).trans (h i hi hj)
theorem Xc{b o:Nat}(h:w'.heap[b]?=w.heap[b]?):w'.cell? ⟨b,o,none⟩=w.cell? ⟨b,o,none⟩:=World.cell?_of_block (w:=w) h
theorem Xf.keepS{a:Option Addr}{xs:List Int}(h:Xf w L B a xs)(k:Xv L B w w'):Xf w' L B a xs:=fun i hi=>by
 obtain⟨b,o,e,hb,hc⟩:=h i hi;exact⟨b,o,e,hb,by rw[Xc (k b hb.1 hb.2)];exact hc⟩
theorem Yd.keepS{b o:Nat}{x:XN}(h:Yd w b o x)(k:w'.heap[b]?=w.heap[b]?):Yd w' b o x:=by
 obtain⟨h0,h1,h2,h3,h4⟩:=h;exact⟨(Xc k).trans h0,(Xc k).trans h1,(Xc k).trans h2,(Xc k).trans h3,(Xc k).trans h4⟩
theorem YW.keepS{b o:Nat}{x:Zu}(h:YW w b o x)(k:w'.heap[b]?=w.heap[b]?):YW w' b o x:=by
 obtain⟨h0,h1,h2,h3⟩:=h;exact⟨(Xc k).trans h0,(Xc k).trans h1,(Xc k).trans h2,(Xc k).trans h3⟩
theorem X0.keepS{a:Option Addr}{xs:List XN}(h:X0 w L B a xs)(k:Xv L B w w'):X0 w' L B a xs:=fun i hi=>by
 obtain⟨b,o,e,hb,hc⟩:=h i hi;exact⟨b,o,e,hb,hc.keepS (k b hb.1 hb.2)⟩
theorem Ju.keepS{b o:Nat}{x:Ph}(h:Ju w L B b o x)(k:Xv L B w w')(e:w'.heap[b]?=w.heap[b]?):Ju w' L B b o x:=by
 obtain⟨a,c,h0,h1,h2⟩:=h;exact⟨a,c,(Xc e).trans h0,(Xc e).trans h1,h2.keepS k⟩
theorem Yp.keepS{a:Option Addr}{xs:List Ph}(h:Yp w L B a xs)(k:Xv L B w w'):Yp w' L B a xs:=fun i hi=>by
 obtain⟨b,o,e,hb,hc⟩:=h i hi;exact⟨b,o,e,hb,hc.keepS k (k b hb.1 hb.2)⟩
theorem YV.keepS{b o:Nat}{x:Xh}(h:YV w L B b o x)(k:Xv L B w w')(e:w'.heap[b]?=w.heap[b]?):YV w' L B b o x:=by
 obtain⟨pa,pc,ia,ic,h0,h1,h2,h3,h4⟩:=h;exact⟨pa,pc,ia,ic,(Xc e).trans h0,(Xc e).trans h1,h2.keepS e,h3.keepS k,h4.keepS k⟩
theorem Xk.keepS{a:Option Addr}{xs:List Xh}(h:Xk w L B a xs)(k:Xv L B w w'):Xk w' L B a xs:=fun i hi=>by
 obtain⟨b,o,e,hb,hc⟩:=h i hi;exact⟨b,o,e,hb,hc.keepS k (k b hb.1 hb.2)⟩
theorem Xf.keep{a:Option Addr}{xs:List Int}(h:Xf w L B a xs)(k:Below B w w'):Xf w' L B a xs:=h.keepS (Xv.of_below k)
theorem Yd.keep{b o:Nat}{x:XN}(h:Yd w b o x)(k:Below B w w')(hb:b<B):Yd w' b o x:=h.keepS (k.block b hb)
theorem X0.keep{a:Option Addr}{xs:List XN}(h:X0 w L B a xs)(k:Below B w w'):X0 w' L B a xs:=h.keepS (Xv.of_below k)
theorem Ju.keep{b o:Nat}{x:Ph}(h:Ju w L B b o x)(k:Below B w w')(hb:b<B):Ju w' L B b o x:=h.keepS (Xv.of_below k) (k.block b hb)
theorem Yp.keep{a:Option Addr}{xs:List Ph}(h:Yp w L B a xs)(k:Below B w w'):Yp w' L B a xs:=h.keepS (Xv.of_below k)
theorem YV.keep{b o:Nat}{x:Xh}(h:YV w L B b o x)(k:Below B w w')(hb:b<B):YV w' L B b o x:=h.keepS (Xv.of_below k) (k.block b hb)
theorem Xk.keep{a:Option Addr}{xs:List Xh}(h:Xk w L B a xs)(k:Below B w w'):Xk w' L B a xs:=h.keepS (Xv.of_below k)
theorem Xf.mono{L' B':Nat}{a:Option Addr}{xs:List Int}(h:Xf w L B a xs)(l:L'<=L)(k:B<=B'):Xf w L' B' a xs:=fun i hi=>by
 obtain⟨b,o,e,hb,hc⟩:=h i hi;exact⟨b,o,e,oM,hc⟩
theorem X0.mono{L' B':Nat}{a:Option Addr}{xs:List XN}(h:X0 w L B a xs)(l:L'<=L)(k:B<=B'):X0 w L' B' a xs:=fun i hi=>by
 obtain⟨b,o,e,hb,hc⟩:=h i hi;exact⟨b,o,e,oM,hc⟩
theorem Ju.mono{L' B':Nat}{b o:Nat}{x:Ph}(h:Ju w L B b o x)(l:L'<=L)(k:B<=B'):Ju w L' B' b o x:=by
 obtain⟨a,c,h0,h1,h2⟩:=h;exact⟨a,c,h0,h1,h2.mono l k⟩
theorem Yp.mono{L' B':Nat}{a:Option Addr}{xs:List Ph}(h:Yp w L B a xs)(l:L'<=L)(k:B<=B'):Yp w L' B' a xs:=fun i hi=>by
 obtain⟨b,o,e,hb,hc⟩:=h i hi;exact⟨b,o,e,oM,hc.mono l k⟩
theorem YV.mono{L' B':Nat}{b o:Nat}{x:Xh}(h:YV w L B b o x)(l:L'<=L)(k:B<=B'):YV w L' B' b o x:=by
 obtain⟨pa,pc,ia,ic,h0,h1,h2,h3,h4⟩:=h;exact⟨pa,pc,ia,ic,h0,h1,h2,h3.mono l k,h4.mono l k⟩
theorem Xk.mono{L' B':Nat}{a:Option Addr}{xs:List Xh}(h:Xk w L B a xs)(l:L'<=L)(k:B<=B'):Xk w L' B' a xs:=fun i hi=>by
 obtain⟨b,o,e,hb,hc⟩:=h i hi;exact⟨b,o,e,oM,hc.mono l k⟩
end Go.Proofs.YtlmgmkmomaileaaGreatDoor
namespace Go.Proofs.YtlmgmkmomaileaaGreatDoor
open Go.RowKit
theorem xA{α:Type}{xs:List α}{i:Nat}(h:i<xs.toArray.size):xs.toArray[i]=xs[i]'(by simpa using h):=rfl
theorem xB{α:Type}{a:α}{ys:List α}{h:0<(a::ys).length}:(a::ys)[0]=a:=rfl
theorem xC{α:Type}{a:α}{ys:List α}{i:Nat}{h:i+1<(a::ys).length}:(a::ys)[i+1]=ys[i]'(Nat.lt_of_succ_lt_succ h):=rfl
theorem xD{α:Type}{l:List α}{i:Nat}{a:α}:l.toArray.setIfInBounds i a=(l.set i a).toArray:=List.setIfInBounds_toArray ..
theorem xE{α:Type}{x:α}{xs:List α}{a:α}:(x::xs).set 0 a=a::xs:=rfl
theorem xF{α:Type}{x:α}{xs:List α}{i:Nat}{a:α}:(x::xs).set (i+1) a=x::xs.set i a:=rfl
theorem KC{P:Program}{md:Region.Mode}{ops:Array Oper}{Q:Exit->Act->World->Prop}{S:World->Prop}(i:Nat){oi:Oper}{v:Value}{fuel:Nat}{listed:Array Bool}{a b:Act}{w:World}(h:wpAnyH P md ops Q S fuel (listed.setIfInBounds i true) b w)(hi:ops[i]?=some oi:=by exact rfl)(hw:Region.wanted oi (yielded ops a.tmps)=true:=by rfl)(hy:∀(w:World),S w->Sem.run P (execOp a.eval oi) w=Result.ok (Next.value v) w:=by intro w hSw;(try dsimp only at hSw);go_simp;try with_reducible rfl)(hp:a.put oi.dst v=b:=by(simp only[Act.put,xA,xB,xC,xD,xE,xF]);exact rfl)(hq:∀c a w,Q (.panic c) (a.put oi.dst v) w->Q (.panic c) a w:=by exact(fun _ _ _ h=>hQ.out _ _ _ _ _ h))(hs:Region.noSelect ops=true:=by kernel_rfl)(hf:Region.free md ops listed i=true:=by kernel_rfl)(hr:(Region.ready md ops listed).contains i=true:=by kernel_rfl)(hS:S w:=by assumption):wpAnyH P md ops Q S (fuel+1) listed a w:=wpAnyH_take hi hs hf hr hq (Or.inl ⟨hw,hy⟩) hS (hp ▸ h)
theorem Xi{P:Program}{md:Region.Mode}{ops:Array Oper}{Q:Exit->Act->World->Prop}{S:World->Prop}(i:Nat){oi:Oper}{v:Value}{fuel:Nat}{listed:Array Bool}{a b:Act}{w:World}(h:wpAnyH P md ops Q S fuel (listed.setIfInBounds i true) b w)(hi:ops[i]?=some oi:=by exact rfl)(hw:Region.wanted oi (yielded ops a.tmps)=true:=by rfl)(hy:∀(w:World),S w->Sem.run P (execOp a.eval oi) w=Result.ok (Next.value v) w:=by intro w hSw;(try dsimp only at hSw);go_simp;try with_reducible rfl)(hp:a.put oi.dst v=b:=by(simp only[Act.put,xA,xB,xC,xD,xE,xF]);exact rfl)(hq:∀c a w,Q (.panic c) (a.put oi.dst v) w->Q (.panic c) a w:=by exact fun _ _ _ h=>h)(hs:Region.noSelect ops=true:=by kernel_rfl)(hf:Region.free md ops listed i=true:=by kernel_rfl)(hr:(Region.ready md ops listed).contains i=true:=by kernel_rfl)(hS:S w:=by assumption):wpAnyH P md ops Q S (fuel+1) listed a w:=wpAnyH_take hi hs hf hr hq (Or.inl ⟨hw,hy⟩) hS (hp ▸ h)
theorem Y9{P:Program}{md:Region.Mode}{ops:Array Oper}{Q:Exit->Act->World->Prop}{S:World->Prop}(i:Nat){oi:Oper}{fuel:Nat}{listed:Array Bool}{a b:Act}{w:World}(h:wpAnyH P md ops Q S fuel (listed.setIfInBounds i true) b w)(hi:ops[i]?=some oi:=by exact rfl)(hw:Region.wanted oi (yielded ops a.tmps)=false:=by rfl)(hp:a.put oi.dst undef=b:=by(simp only[Act.put,xA,xB,xC,xD,xE,xF]);exact rfl)(hq:∀c a w,Q (.panic c) (a.put oi.dst undef) w->Q (.panic c) a w:=by exact fun _ _ _ h=>h)(hs:Region.noSelect ops=true:=by kernel_rfl)(hf:Region.free md ops listed i=true:=by kernel_rfl)(hr:(Region.ready md ops listed).contains i=true:=by kernel_rfl)(hS:S w:=by assumption):wpAnyH P md ops Q S (fuel+1) listed a w:=wpAnyH_take hi hs hf hr hq (Or.inr ⟨hw,rfl⟩) hS (hp ▸ h)
theorem Xt{P:Program}{md:Region.Mode}{ops:Array Oper}{Q:Exit->Act->World->Prop}{S:World->Prop}(i:Nat){oi:Oper}{fuel:Nat}{listed:Array Bool}{a:Act}{w:World}(h:∀K':Act->World->Prop,Shut (∀a w,S w->∀{b:Act},(S w->wpAnyH P md ops Q S fuel (listed.setIfInBounds i true) b w)->(hp:a=b:=by(try simp only[Act.put,xA,xB,xC,xD,xE,xF]);exact rfl)->K' a w)->if Region.wanted oi (yielded ops a.tmps)=true then Oper.wp P oi a w K' Q else K' (a.put oi.dst undef) w)(hi:ops[i]?=some oi:=by exact rfl)(hr:Region.ready md ops listed=[i]:=by kernel_rfl):wpAnyH P md ops Q S (fuel+1) listed a w:=wpAnyH_ready (rs:=[i]) hr (by simp) (AllReadyH.cons hi (fun K hK=>h K (fun a w hs b k hp=>hK a w hs (hp ▸ k))) AllReadyH.nil)
theorem Z1{P:Program}{ops:Array Oper}{Q:Exit->Act->World->Prop}(S:World->Prop){id:Nat}{a:Act}{w:World}(h:S w.drew->wpAnyH P .any ops Q S ops.size (Array.replicate ops.size false) a w.drew)(hS:S w.drew:=by first | with_reducible exact True.intro | ((try dsimp only);go_keep))(hm:P.follows .mixedOrders=true:=by kernel_rfl):(Code.region id ops true).wp P Q a w:=wp_region_held_drew hm hS h
theorem YA{P:Program}{md:Region.Mode}{ops:Array Oper}{Q:Exit->Act->World->Prop}{S:World->Prop}{listed:Array Bool}{a:Act}{w:World}{fuel:Nat}(h:Q .normal a w)(hr:Region.ready md ops listed=[]:=by kernel_rfl):wpAnyH P md ops Q S fuel listed a w:=wpAnyH_done hr h fuel
theorem kP{S:Prop}(h:S:=by first | with_reducible exact hHeld | ((try dsimp only);go_keep)):S:=h
theorem Xu{n:Nat}{w w':World}(k:Below n w w'){b o:Nat}(hb:b<n):w'.cell? ⟨b,o,none⟩=w.cell? ⟨b,o,none⟩:=k.cell (p:=⟨b,o,none⟩) hb
end Go.Proofs.YtlmgmkmomaileaaGreatDoor
namespace Go.Proofs.YtlmgmkmomaileaaGreatDoor
def dB(op:Int):Bool:=decide (1<=op/\op<=8)||decide (op=11)||decide (op=13)
def aB(op:Int):Bool:=decide (3<=op/\op<=12)
def bB(op:Int):Bool:=decide (3<=op/\op<=7)||decide (op=9)
def Jj(u:Bool)(x lo hi:Int):Bool:=if u then decide (lo<=x)&&decide (x<hi)else x==0
def Vo(x:XN):Bool:=if x.op==1 then decide (-1000000000<=x.imm)&&decide (x.imm<=1000000000)else if x.op==2 then decide (0<=x.imm)&&decide (x.imm<8)else x.imm==0
def Yi(n most:Int)(x:XN):Bool :=
 decide (1<=x.op)&&decide (x.op<=most)&&Jj (dB x.op) x.dst 0 n&&Jj (aB x.op) x.a 0 n&&Jj (bB x.op) x.b 0 n&&Vo x
def Zh(n low blocks:Int)(t:Zu):Bool :=
 decide (1<=t.kind)&&decide (t.kind<=3)&&Jj (t.kind != 1) t.a 0 n&&Jj (t.kind != 3) t.to low blocks&&Jj (t.kind==2) t.els low blocks
def ZE(n blocks:Int)(t:Zu):Bool:=Zh n 1 blocks t && !(t.kind==2&&t.to==t.els)
def Zu.targets(t:Zu):List Int:=if t.kind=1 then [t.to]else if t.kind=2 then [t.to,t.els]else []
def XR(ps:List Ph):Nat:=(ps.map fun p=>1+p.args.length).sum
def Tf(x:Xh):Nat:=1+x.instrs.length+XR x.phis
def Xo(xs:List Xh):Nat:=(xs.map Tf).sum
def predsFrom:List Xh->Nat->Int->List Int
 | [],_,_=>[]
 | x::xs,i,b=>(if x.term.targets.contains b then [(i:Int)]else [])++predsFrom xs (i+1) b
def Fn.preds(F:Fn)(b:Int):List Int:=predsFrom F.blocks 0 b
def XF(ps:List Ph):List Int:=ps.map (·.dst)
def XY(xs:List XN):List Int:=(xs.filter fun x=>dB x.op).map (·.dst)
def Te(x:Xh):List Int:=XF x.phis++XY x.instrs
def blksDefs(xs:List Xh):List Int:=xs.flatMap Te
def Yt(F:Fn):Bool:=decide (0<=F.values)&&decide (F.values<=2000)&&decide (1<=F.blocks.length)&&decide (F.blocks.length<=1000)&&decide (Xo F.blocks<=4000)
def ZW(F:Fn):Bool:=F.blocks.all fun x=>ZE F.values F.blocks.length x.term
def Zn(F:Fn):Bool:=F.blocks.all fun x=>x.instrs.all (Yi F.values 10)
def Z5(n:Int)(k:Nat)(p:Ph):Bool:=decide (1<=p.args.length)&&decide (p.args.length=k)&&p.args.all (fun a=>decide (0<=a)&&decide (a<n))
def Zd(n:Int)(k:Nat)(p:Ph):Bool:=Jj true p.dst 0 n&&Z5 n k p
def Zc(ok:Int->Nat->Ph->Bool)(F:Fn)(xs:List Xh)(i:Nat):Bool :=
 match xs with
 | []=>true
 | x::xs=>x.phis.all (ok F.values (F.preds i).length)&&Zc ok F xs (i+1)
def Ts(F:Fn):Bool:=Zc Z5 F F.blocks 0
def Kk(F:Fn):Bool:=Zc Zd F F.blocks 0
def countEq(xs:List Int)(v:Int):Nat:=(xs.filter fun x=>x==v).length
def Ue(F:Fn):Bool:=(List.range F.values.toNat).all fun v=>countEq (blksDefs F.blocks) v==1
def Tw(F:Fn):Bool:=decide (((blksDefs F.blocks).length:Int)=F.values)&&(List.range F.values.toNat).all fun v=>(blksDefs F.blocks).contains (v:Int)
def Yq(F:Fn):Bool:=Yt F&&ZW F&&Zn F&&Kk F&&Ue F
def Wo(F:Fn):Bool:=Yt F&&(Zn F&&ZW F)&&Ts F&&Tw F
def szR(l:Int)(n:Nat):Int:=if l<n then -1 else l-n
theorem YJ{l:Int}{n:Nat}(h:l<n):szR l n=-1:=if_pos h
theorem Zr{l:Int}{n:Nat}(h:(n:Int)<=l):szR l n=l-n:=if_neg oM
def Yb(ps:List Ph):Nat:=(ps.map fun p=>p.args.length).sum
def ZF(x:Xh):Nat:=x.phis.length+Yb x.phis+x.instrs.length
def Xn(xs:List Xh):Nat:=(xs.map ZF).sum
theorem ZdR(ps:List Ph)(p:Ph):Yb (ps++[p])=Yb ps+p.args.length:=by simp[Yb]
theorem Kx(ps:List Xh)(p:Xh):Xn (ps++[p])=Xn ps+ZF p:=by simp[Xn]
theorem YZ{α:Type}(f:α->Nat)(xs:List α)(k:Nat):((xs.take k).map f).sum<=(xs.map f).sum:=by
 induction xs generalizing k with
 | nil=>simp
 | cons x xs ih=>cases k with
  | zero=>simp
  | succ k=>simp only[List.take_succ_cons,List.map_cons,List.sum_cons];have:=ih k;omega
theorem Zek(ps:List Ph)(k:Nat):Yb (ps.take k)<=Yb ps:=YZ _ _ _
theorem Kz(ps:List Xh)(k:Nat):Xn (ps.take k)<=Xn ps:=YZ _ _ _
end Go.Proofs.YtlmgmkmomaileaaGreatDoor
namespace Go.Proofs.YtlmgmkmomaileaaGreatDoor
set_option maxHeartbeats 400000
open Go.RowKit
theorem XW{k:IntKind}{a b:Int}(h:a=b):Ending.returned (.int k a)=.returned (.int k b):=by rw[h]
theorem Xj{a b:Bool}(h:a=b):Ending.returned (.bool a)=.returned (.bool b):=by rw[h]
theorem XH(u:Bool)(x lo hi:Int)(w:World) :
 Calls Tryz.prog 130 #[.bool u,.int .i64 x,.int .i64 lo,.int .i64 hi] w fun e w'=>e=.returned (.bool (Jj u x lo hi))/\w'=w:=by
 cases u
 ·go_enter Tryz.func130,Tryz.ntmps130
  go_wp2
  go_ret
  exact⟨rfl,rfl⟩
 ·by_cases h1:lo<=x<;>by_cases h2:x<hi
  all_goals
   go_enter Tryz.func130,Tryz.ntmps130
   go_wp2
   go_ret
   exact⟨by simp[Jj,h1,h2],rfl⟩
theorem Wm(a:Option Addr)(n c:Nat)(l:Int)(w:World)(hn:n<=9223372036854775807)(h0:0<=l)(h1:l<=1048576) :
 Calls Tryz.prog 124 #[.slice a n c,.int .i64 l] w fun e w'=>e=.returned (.int .i64 (szR l n))/\w'=w:=by
 by_cases h:l<n
 ·go_enter Tryz.func124,Tryz.ntmps124
  go_wp2
  go_ret
  exact⟨XW (YJ h).symm,rfl⟩
 ·go_enter Tryz.func124,Tryz.ntmps124
  go_wp2
  go_ret
  exact⟨XW (Zr oM).symm,rfl⟩
theorem U8(a:Option Addr)(n c:Nat)(l:Int)(w:World)(hn:n<=9223372036854775807)(h0:0<=l)(h1:l<=1048576) :
 Calls Tryz.prog 55 #[.slice a n c,.int .i64 l] w fun e w'=>e=.returned (.int .i64 (szR l n))/\w'=w:=by
 by_cases h:l<n
 ·go_enter Tryz.func55,Tryz.ntmps55
  go_wp2
  go_ret
  exact⟨XW (YJ h).symm,rfl⟩
 ·go_enter Tryz.func55,Tryz.ntmps55
  go_wp2
  go_ret
  exact⟨XW (Zr oM).symm,rfl⟩
theorem Za4(d:Int)(a:Option Addr)(n c:Nat)(l:Int)(w:World)(hn:n<=9223372036854775807)(h0:0<=l)(h1:l<=1048576) :
 Calls Tryz.prog 83 #[.agg #[.int .i64 d,.slice a n c],.int .i64 l] w fun e w'=>e=.returned (.int .i64 (szR l n))/\Below w.heap.size w w':=by
 by_cases h:l<n
 ·have hz:=YJ h
  go_enter Tryz.func83,Tryz.ntmps83
  go_wp2_with (go_at_call 124;refine(Wm _ _ _ _ _ oM oM oM).mono ?_;rintro e w' ⟨rfl,rfl⟩)
  go_ret
  exact⟨XW hz.symm,(Below.refl _ _).alloc (Nat.le_refl _) _⟩
 ·have hz:szR l n=l-n:=Zr oM
  go_enter Tryz.func83,Tryz.ntmps83
  go_wp2_with (go_at_call 124;refine(Wm _ _ _ _ _ oM oM oM).mono ?_;rintro e w' ⟨rfl,rfl⟩)
  go_ret
  exact⟨XW hz.symm,(Below.refl _ _).alloc (Nat.le_refl _) _⟩
theorem Xq{α:Type}(xs:List α)(k:Nat)(h:k<xs.length):xs.take (k+1)=xs.take k++[xs[k]]:=List.take_succ_eq_append_getElem h
theorem TY(a:Option Addr)(n c:Nat)(l:Int)(xs:List Ph)(L B:Nat)(w:World)(ha:Hid (Yp w L B a xs))(hx:Hid (n=xs.length))(hn:n<=9223372036854775807)(hs:Hid (∀p∈xs,p.args.length<=9223372036854775807))
 (h0:0<=l) (h1:l<=1048576) (hB:B<=w.heap.size) :
 Calls Tryz.prog 54 #[.slice a n c,.int .i64 l] w fun e w'=>e=.returned (.int .i64 (szR l (n+Yb xs)))/\Below w.heap.size w w':=by
 by_cases h:l<n
 ·go_enter Tryz.func54,Tryz.ntmps54
  go_wp2
  go_ret
  exact⟨XW (YJ oM).symm,Below.refl _ _⟩
 ·go_enter Tryz.func54,Tryz.ntmps54
  go_wp2
  go_loopw [1,5] (fun q i wr=>∃k:Nat,k<=n/\i=.int .i64 k/\(∃r:Int,q=.int .i64 r/\0<=r/\r<=1048576/\Hid (r=l-(n+Yb (xs.take k):Nat)))/\Below w.heap.size w wr) (fun _ i _=>n-(intOf i).toNat)
  case atStart=>exact⟨0,Nat.zero_le _,rfl,⟨_,rfl,oM,oM,by show _=_;simp[Yb]⟩,Below.refl _ _⟩
  case round =>
   obtain⟨k,hk,rfl,⟨r,rfl,hr0,hr1,hr⟩,hw⟩:=hrel;by_cases hlt:k<n
   ·obtain⟨b,o,rfl,⟨_,hbB⟩,aa,cc,hc0,hc1,_⟩:=ha.out k (by have:=hx.out;omega)
    have hq:=hs.out _ (List.getElem_mem (by have:=hx.out;omega:k<xs.length));have e1:=(Xu hw oM).trans hc0;have e2:=(Xu hw oM).trans hc1;clear hc0 hc1;have HT:Hid (Yb (xs.take (k+1))=Yb (xs.take k)+(xs[k]'(by have:=hx.out;omega)).args.length):=by show _=_;rw[Xq _ _ (by have:=hx.out;omega),ZdR]
    have HL:Hid (Yb (xs.take (k+1))<=Yb xs):=Zek _ _;generalize (xs[k]'(by have:=hx.out;omega)).args.length=m at *;generalize (xs[k]'(by have:=hx.out;omega)).dst=d at *;by_cases hm:r<m
    ·have hz:=YJ hm
     go_wp2_with (go_at_call 83;refine(Za4 _ _ _ _ _ _ oM oM oM).mono ?_;rintro e w' ⟨rfl,hb1⟩)
     go_ret
     exact⟨XW (YJ (by have:=hr.out;have:=HT.out;have:=HL.out;omega)).symm,Xd hw hb1⟩
    ·have hz:szR r m=r-m:=Zr oM
     go_wp2_with (go_at_call 83;refine(Za4 _ _ _ _ _ _ oM oM oM).mono ?_;rintro e w' ⟨rfl,hb1⟩)
     exact⟨⟨k+1,oM,gM,⟨_,rfl,oM,oM,by have:=hr.out;have:=HT.out;show _=_;omega⟩,Xd hw hb1⟩,by simp[intOf];omega⟩
   ·go_wp2
    go_ret
    have:k=n:=oM;have h2:=hr.out;rw[List.take_of_length_le (by have:=hx.out;omega)]at h2;exact⟨XW (by rw[Zr oM];exact h2),hw⟩
theorem Vf(p i:Option Addr)(n pc m ic:Nat)(t0 t1 t2 t3 l:Int)(xs:List Ph)(L B:Nat)(w:World)(ha:Hid (Yp w L B p xs))(hx:Hid (n=xs.length))(hn:n<=9223372036854775807)(hm:m<=9223372036854775807)(hs:Hid (∀p∈xs,p.args.length<=9223372036854775807))
 (h0:0<=l) (h1:l<=1048576) (hB:B<=w.heap.size) :
 Calls Tryz.prog 30 #[.agg #[.slice p n pc,.slice i m ic,.int .i64 t0,.int .i64 t1,.int .i64 t2,.int .i64 t3],.int .i64 l] w fun e w'=>e=.returned (.int .i64 (szR l (n+Yb xs+m)))/\Below w.heap.size w w':=by
 by_cases h:l<(n+Yb xs:Nat)
 ·have hz:=YJ h
  go_enter Tryz.func30,Tryz.ntmps30
  go_wp2_with (go_at_call 54;refine(TY _ _ _ _ xs L B _ (ha.keep ((Below.refl _ _).alloc hB _)) hx oM hs oM oM (by simp;omega)).mono ?_;rintro e w' ⟨rfl,hb1⟩)
  go_ret
  exact⟨XW (YJ oM).symm,Xd ((Below.refl _ _).alloc (Nat.le_refl _) _) hb1⟩
 ·have hz:szR l (n+Yb xs)=l-(n+Yb xs:Nat):=Zr oM
  generalize hN:n+Yb xs=N at *;have HN:=Xa hN;clear hN;by_cases h2:l-N<m
  ·have hz2:=YJ h2
   go_enter Tryz.func30,Tryz.ntmps30
   go_wp2_with (first | (go_at_call 54;refine(TY _ _ _ _ xs L B _ (ha.keep ((Below.refl _ _).alloc hB _)) hx oM hs oM oM (by simp;omega)).mono ?_;rintro e w1 ⟨rfl,hb1⟩;obtain⟨hc1,hf1⟩:=bcell hb1;rw[Xp HN]) | (go_at_call 55;refine(U8 _ _ _ _ _ oM oM oM).mono ?_;rintro e w' ⟨rfl,rfl⟩))
   go_ret
   exact⟨XW (YJ oM).symm,Xd ((Below.refl _ _).alloc (Nat.le_refl _) _) hb1⟩
  ·have hz2:szR (l-N) m=l-N-m:=Zr oM
   go_enter Tryz.func30,Tryz.ntmps30
   go_wp2_with (first | (go_at_call 54;refine(TY _ _ _ _ xs L B _ (ha.keep ((Below.refl _ _).alloc hB _)) hx oM hs oM oM (by simp;omega)).mono ?_;rintro e w1 ⟨rfl,hb1⟩;obtain⟨hc1,hf1⟩:=bcell hb1;rw[Xp HN]) | (go_at_call 55;refine(U8 _ _ _ _ _ oM oM oM).mono ?_;rintro e w' ⟨rfl,rfl⟩))
   go_ret
   exact⟨XW (by rw[Zr oM];omega),Xd ((Below.refl _ _).alloc (Nat.le_refl _) _) hb1⟩
def ZgV(xs:List Xh):Prop:=∀x∈xs,x.phis.length<=9223372036854775807/\x.instrs.length<=9223372036854775807/\∀p∈x.phis,p.args.length<=9223372036854775807
theorem U0(a:Option Addr)(n c:Nat)(l:Int)(xs:List Xh)(L B:Nat)(w:World)(ha:Hid (Xk w L B a xs))(hx:Hid (n=xs.length))(hn:n<=9223372036854775807)(hs:Hid (ZgV xs))
 (h0:0<=l) (h1:l<=1048576) (hB:B<=w.heap.size) :
 Calls Tryz.prog 16 #[.slice a n c,.int .i64 l] w fun e w'=>e=.returned (.int .i64 (szR l (n+Xn xs)))/\Below w.heap.size w w':=by
 by_cases h:l<n
 ·go_enter Tryz.func16,Tryz.ntmps16
  go_wp2
  go_ret
  exact⟨XW (YJ oM).symm,Below.refl _ _⟩
 ·go_enter Tryz.func16,Tryz.ntmps16
  go_wp2
  go_loopw [1,5] (fun q i wr=>∃k:Nat,k<=n/\i=.int .i64 k/\(∃r:Int,q=.int .i64 r/\0<=r/\r<=1048576/\Hid (r=l-(n+Xn (xs.take k):Nat)))/\Below w.heap.size w wr) (fun _ i _=>n-(intOf i).toNat)
  case atStart=>exact⟨0,Nat.zero_le _,rfl,⟨_,rfl,oM,oM,by show _=_;simp[Xn]⟩,Below.refl _ _⟩
  case round =>
   obtain⟨k,hk,rfl,⟨r,rfl,hr0,hr1,hr⟩,hw⟩:=hrel;by_cases hlt:k<n
   ·have hkx:k<xs.length:=by have:=hx.out;omega
    obtain⟨b,o,rfl,⟨_,hbB⟩,pa,pc,ia,ic,hc0,hc1,⟨hc2,hc3,hc4,hc5⟩,hps,_⟩:=ha.out k hkx;obtain⟨hq1,hq2,hq3⟩:=hs.out _ (List.getElem_mem hkx);have HQ3:=Xa hq3;have e0:=(Xu hw oM).trans hc0;have e1:=(Xu hw oM).trans hc1;have e2:=(Xu hw oM).trans hc2;have e3:=(Xu hw oM).trans hc3;have e4:=(Xu hw oM).trans hc4;have e5:=(Xu hw oM).trans hc5;have HP:=Xa (hps.keep (hw.mono hB));clear hc0 hc1 hc2 hc3 hc4 hc5 hps hq3;have HT:Hid (Xn (xs.take (k+1))=Xn (xs.take k)+(xs[k].phis.length+Yb xs[k].phis+xs[k].instrs.length)):=by show _=_;rw[Xq _ _ hkx,Kx];rfl
    have HL:Hid (Xn (xs.take (k+1))<=Xn xs):=Kz _ _;have hBr:B<=wr.heap.size:=by have:=hw.size;omega
    generalize xs[k]=X at *;by_cases hm:r<(X.phis.length+Yb X.phis+X.instrs.length:Nat)
    ·have hz:=YJ hm
     go_wp2_with (go_at_call 30;refine(Vf _ _ _ _ _ _ _ _ _ _ _ X.phis L B _ HP rfl oM oM HQ3 oM oM oM).mono ?_;rintro e w' ⟨rfl,hb1⟩)
     go_ret
     exact⟨XW (YJ (by have:=hr.out;have:=HT.out;have:=HL.out;omega)).symm,Xd hw hb1⟩
    ·have hz:szR r (X.phis.length+Yb X.phis+X.instrs.length)=r-(X.phis.length+Yb X.phis+X.instrs.length:Nat):=Zr oM
     go_wp2_with (go_at_call 30;refine(Vf _ _ _ _ _ _ _ _ _ _ _ X.phis L B _ HP rfl oM oM HQ3 oM oM oM).mono ?_;rintro e w' ⟨rfl,hb1⟩)
     exact⟨⟨k+1,oM,gM,⟨_,rfl,oM,oM,by have:=hr.out;have:=HT.out;show _=_;omega⟩,Xd hw hb1⟩,by simp[intOf];omega⟩
   ·go_wp2
    go_ret
    have:k=n:=oM;have h2:=hr.out;rw[List.take_of_length_le (by have:=hx.out;omega)]at h2;exact⟨XW (by rw[Zr oM];exact h2),hw⟩
theorem Wt(v:Int)(a:Option Addr)(n c:Nat)(l:Int)(xs:List Xh)(L B:Nat)(w:World)(ha:Hid (Xk w L B a xs))(hx:Hid (n=xs.length))(hn:n<=9223372036854775807)(hs:Hid (ZgV xs))
 (h0:0<=l) (h1:l<=1048576) (hB:B<=w.heap.size) :
 Calls Tryz.prog 4 #[.agg #[.int .i64 v,.slice a n c],.int .i64 l] w fun e w'=>e=.returned (.int .i64 (szR l (n+Xn xs)))/\Below w.heap.size w w':=by
 by_cases h:l<(n+Xn xs:Nat)
 ·have hz:=YJ h
  go_enter Tryz.func4,Tryz.ntmps4
  go_wp2_with (go_at_call 16;refine(U0 _ _ _ _ xs L B _ (ha.keep ((Below.refl _ _).alloc hB _)) hx oM hs oM oM (by simp;omega)).mono ?_;rintro e w' ⟨rfl,hb1⟩)
  go_ret
  exact⟨XW hz.symm,Xd ((Below.refl _ _).alloc (Nat.le_refl _) _) hb1⟩
 ·have hz:szR l (n+Xn xs)=l-(n+Xn xs:Nat):=Zr oM
  go_enter Tryz.func4,Tryz.ntmps4
  go_wp2_with (go_at_call 16;refine(U0 _ _ _ _ xs L B _ (ha.keep ((Below.refl _ _).alloc hB _)) hx oM hs oM oM (by simp;omega)).mono ?_;rintro e w' ⟨rfl,hb1⟩)
  go_ret
  exact⟨XW hz.symm,Xd ((Below.refl _ _).alloc (Nat.le_refl _) _) hb1⟩
end Go.Proofs.YtlmgmkmomaileaaGreatDoor
