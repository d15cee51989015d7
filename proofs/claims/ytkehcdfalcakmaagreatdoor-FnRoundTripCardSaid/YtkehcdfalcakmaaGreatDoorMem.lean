import Derived.WalkKit
import Derived.Deep.RegionHeld
import Derived.Deep.OwnRows
import Derived.Deep.MidRow
import Derived.Deep.Slices
import Derived.Test.YtkehcdfalcakmaaGreatDoorProg
import Derived.WalkSpells
import Derived.WalkLawsBesides
import Derived.Deep.RegionHeld3
namespace Go.Proofs.YtkehcdfalcakmaaGreatDoor
open Go.RowKit
structure Xz where
 op:Int
 dst:Int
 a:Int
 b:Int
 imm:Int
structure XN where
 kind:Int
 a:Int
 to:Int
 els:Int
structure Ph where
 dst:Int
 args:List Int
structure Xf where
 phis:List Ph
 instrs:List Xz
 term:XN
structure Fn where
 values:Int
 blocks:List Xf
def Xz.cells(x:Xz):List Value:=[.int .i64 x.op,.int .i64 x.dst,.int .i64 x.a,.int .i64 x.b,.int .i64 x.imm]
def XN.cells(x:XN):List Value:=[.int .i64 x.kind,.int .i64 x.a,.int .i64 x.to,.int .i64 x.els]
def Xh(w:World)(L B:Nat)(a:Option Addr)(xs:List Int):Prop :=
 ∀i (h:i<xs.length),∃b o,a=some ⟨b,o,none⟩/\(L<=b/\b<B)/\w.cell? ⟨b,o+i,none⟩=some (.int .i64 xs[i])
def Y0(w:World)(b o:Nat)(x:Xz):Prop :=
 w.cell? ⟨b,o,none⟩=some (.int .i64 x.op)/\w.cell? ⟨b,o+1,none⟩=some (.int .i64 x.dst)/\w.cell? ⟨b,o+2,none⟩=some (.int .i64 x.a) /\
 w.cell? ⟨b,o+3,none⟩=some (.int .i64 x.b)/\w.cell? ⟨b,o+4,none⟩=some (.int .i64 x.imm)
def YE(w:World)(L B:Nat)(a:Option Addr)(xs:List Xz):Prop :=
 ∀i (h:i<xs.length),∃b o,a=some ⟨b,o,none⟩/\(L<=b/\b<B)/\Y0 w b (o+i*5) xs[i]
def Y5(w:World)(b o:Nat)(x:XN):Prop :=
 w.cell? ⟨b,o,none⟩=some (.int .i64 x.kind)/\w.cell? ⟨b,o+1,none⟩=some (.int .i64 x.a)/\w.cell? ⟨b,o+2,none⟩=some (.int .i64 x.to) /\
 w.cell? ⟨b,o+3,none⟩=some (.int .i64 x.els)
def UD(w:World)(L B b o:Nat)(x:Ph):Prop :=
 ∃a c,w.cell? ⟨b,o,none⟩=some (.int .i64 x.dst)/\w.cell? ⟨b,o+1,none⟩=some (.slice a x.args.length c)/\Xh w L B a x.args
def ZN(w:World)(L B:Nat)(a:Option Addr)(xs:List Ph):Prop :=
 ∀i (h:i<xs.length),∃b o,a=some ⟨b,o,none⟩/\(L<=b/\b<B)/\UD w L B b (o+i*2) xs[i]
def Js(w:World)(L B b o:Nat)(x:Xf):Prop :=
 ∃pa pc ia ic,w.cell? ⟨b,o,none⟩=some (.slice pa x.phis.length pc)/\w.cell? ⟨b,o+1,none⟩=some (.slice ia x.instrs.length ic) /\
  Y5 w b (o+2) x.term/\ZN w L B pa x.phis/\YE w L B ia x.instrs
def X8(w:World)(L B:Nat)(a:Option Addr)(xs:List Xf):Prop :=
 ∀i (h:i<xs.length),∃b o,a=some ⟨b,o,none⟩/\(L<=b/\b<B)/\Js w L B b (o+i*6) xs[i]
theorem Xa{p:Prop}(h:p):Hid p:=h
theorem Xr{p:Prop}(h:Hid p):p:=h
theorem Xi{w w1 w2:World}(h:Below w.heap.size w w1)(k:Below w1.heap.size w1 w2):Below w.heap.size w w2:=h.trans (k.mono h.size)
theorem ZbL{W w1:World}(hb:Below W.heap.size W w1):(∀b o,b<W.heap.size->w1.cell? ⟨b,o,none⟩=W.cell? ⟨b,o,none⟩)/\(∀b o,b<W.heap.size->w1.frozen? ⟨b,o,none⟩=W.frozen? ⟨b,o,none⟩) :=
 ⟨fun b o h=>hb.cell (p:=⟨b,o,none⟩) h,fun b o h=>hb.frozen (p:=⟨b,o,none⟩) h⟩
theorem Xb{w w1:World}(h:Below w.heap.size w w1)(o:Obj):Below w.heap.size w (w1.alloc o):=h.alloc h.size o
def J7(L:Nat)(w:World):Prop:=∀b o,L<=b->w.frozen? ⟨b,o,none⟩=false
theorem J7.start(w:World):J7 w.heap.size w:=fun b o h=>by
 unfold World.frozen?;rw[Array.getElem?_eq_none (by exact h)]
theorem J7.alloc{L:Nat}{w:World}(h:J7 L w)(c:Array Value)(t:TypeId):J7 L (w.alloc (.cells c t)):=fun b o hb=>by
 by_cases e:b<w.heap.size
 ·rw[World.frozen?_of_block (w:=w) (a:=⟨b,o,none⟩) (Below.heap_alloc _ _ _ e)];exact h b o hb
 ·unfold World.frozen?
  show(match (w.heap.push (.cells c t))[b]? with | some (.cells _ _ (lo,hi))=>decide (lo<=o)&&decide (o<hi) | _=>false)=false
  rw[Array.getElem?_push];split
  ·rename_i _ _ _ hh
   split at hh
   ·cases hh;simp
   ·rw[Array.getElem?_eq_none (by omega)]at hh;cases hh
  ·rfl
theorem J7.setCell{L:Nat}{w:World}(h:J7 L w)(p:Addr)(v:Value):J7 L (w.setCell p v):=fun b o hb=>by rw[World.frozen?_setCell];exact h b o hb
theorem J7.drew{L:Nat}{w:World}(h:J7 L w):J7 L w.drew:=h
theorem J7.trans{L:Nat}{w w1:World}(h:J7 L w)(k:Below w.heap.size w w1)(t:J7 w.heap.size w1):J7 L w1:=fun b o hb=>by
 by_cases e:b<w.heap.size
 ·rw[k.frozen (p:=⟨b,o,none⟩) e];exact h b o hb
 ·exact t b o (by omega)
theorem J7.mono{L L':Nat}{w:World}(h:J7 L w)(l:L<=L'):J7 L' w:=fun b o hb=>h b o (by omega)
variable {w w' : World} {L B : Nat}
def X7(L B:Nat)(w w':World):Prop:=∀k,L<=k->k<B->w'.heap[k]?=w.heap[k]?
theorem X7.of_below(k:Below B w w'):X7 L B w w':=fun i _ h=>k.block i h
theorem X7.mono{L' B':Nat}(h:X7 L B w w')(l:L<=L')(k:B'<=B):X7 L' B' w w':=fun i hi hj=>h i (by omega) (by omega)
theorem X7.trans{w2:World}(h:X7 L B w w')(k:X7 L B w' w2):X7 L B w w2:=fun i hi hj=>(k i hi hj).trans (h i hi hj)
theorem Xc{b o:Nat}(h:w'.heap[b]?=w.heap[b]?):w'.cell? ⟨b,o,none⟩=w.cell? ⟨b,o,none⟩:=World.cell?_of_block (w:=w) h
theorem Xh.keepS{a:Option Addr}{xs:List Int}(h:Xh w L B a xs)(k:X7 L B w w'):Xh w' L B a xs:=fun i hi=>by
 obtain⟨b,o,e,hb,hc⟩:=h i hi;exact⟨b,o,e,hb,by rw[Xc (k b hb.1 hb.2)];exact hc⟩
theorem Y0.keepS{b o:Nat}{x:Xz}(h:Y0 w b o x)(k:w'.heap[b]?=w.heap[b]?):Y0 w' b o x:=by
 obtain⟨h0,h1,h2,h3,h4⟩:=h;exact⟨(Xc k).trans h0,(Xc k).trans h1,(Xc k).trans h2,(Xc k).trans h3,(Xc k).trans h4⟩
theorem Y5.keepS{b o:Nat}{x:XN}(h:Y5 w b o x)(k:w'.heap[b]?=w.heap[b]?):Y5 w' b o x:=by
 obtain⟨h0,h1,h2,h3⟩:=h;exact⟨(Xc k).trans h0,(Xc k).trans h1,(Xc k).trans h2,(Xc k).trans h3⟩
theorem YE.keepS{a:Option Addr}{xs:List Xz}(h:YE w L B a xs)(k:X7 L B w w'):YE w' L B a xs:=fun i hi=>by
 obtain⟨b,o,e,hb,hc⟩:=h i hi;exact⟨b,o,e,hb,hc.keepS (k b hb.1 hb.2)⟩
theorem UD.keepS{b o:Nat}{x:Ph}(h:UD w L B b o x)(k:X7 L B w w')(e:w'.heap[b]?=w.heap[b]?):UD w' L B b o x:=by
 obtain⟨a,c,h0,h1,h2⟩:=h;exact⟨a,c,(Xc e).trans h0,(Xc e).trans h1,h2.keepS k⟩
theorem ZN.keepS{a:Option Addr}{xs:List Ph}(h:ZN w L B a xs)(k:X7 L B w w'):ZN w' L B a xs:=fun i hi=>by
 obtain⟨b,o,e,hb,hc⟩:=h i hi;exact⟨b,o,e,hb,hc.keepS k (k b hb.1 hb.2)⟩
theorem Js.keepS{b o:Nat}{x:Xf}(h:Js w L B b o x)(k:X7 L B w w')(e:w'.heap[b]?=w.heap[b]?):Js w' L B b o x:=by
 obtain⟨pa,pc,ia,ic,h0,h1,h2,h3,h4⟩:=h;exact⟨pa,pc,ia,ic,(Xc e).trans h0,(Xc e).trans h1,h2.keepS e,h3.keepS k,h4.keepS k⟩
theorem X8.keepS{a:Option Addr}{xs:List Xf}(h:X8 w L B a xs)(k:X7 L B w w'):X8 w' L B a xs:=fun i hi=>by
 obtain⟨b,o,e,hb,hc⟩:=h i hi;exact⟨b,o,e,hb,hc.keepS k (k b hb.1 hb.2)⟩
theorem Xh.keep{a:Option Addr}{xs:List Int}(h:Xh w L B a xs)(k:Below B w w'):Xh w' L B a xs:=h.keepS (X7.of_below k)
theorem Y0.keep{b o:Nat}{x:Xz}(h:Y0 w b o x)(k:Below B w w')(hb:b<B):Y0 w' b o x:=h.keepS (k.block b hb)
theorem Y5.keep{b o:Nat}{x:XN}(h:Y5 w b o x)(k:Below B w w')(hb:b<B):Y5 w' b o x:=h.keepS (k.block b hb)
theorem YE.keep{a:Option Addr}{xs:List Xz}(h:YE w L B a xs)(k:Below B w w'):YE w' L B a xs:=h.keepS (X7.of_below k)
theorem UD.keep{b o:Nat}{x:Ph}(h:UD w L B b o x)(k:Below B w w')(hb:b<B):UD w' L B b o x:=h.keepS (X7.of_below k) (k.block b hb)
theorem ZN.keep{a:Option Addr}{xs:List Ph}(h:ZN w L B a xs)(k:Below B w w'):ZN w' L B a xs:=h.keepS (X7.of_below k)
theorem Js.keep{b o:Nat}{x:Xf}(h:Js w L B b o x)(k:Below B w w')(hb:b<B):Js w' L B b o x:=h.keepS (X7.of_below k) (k.block b hb)
theorem X8.keep{a:Option Addr}{xs:List Xf}(h:X8 w L B a xs)(k:Below B w w'):X8 w' L B a xs:=h.keepS (X7.of_below k)
theorem Xh.mono{L' B':Nat}{a:Option Addr}{xs:List Int}(h:Xh w L B a xs)(l:L'<=L)(k:B<=B'):Xh w L' B' a xs:=fun i hi=>by
 obtain⟨b,o,e,hb,hc⟩:=h i hi;exact⟨b,o,e,by omega,hc⟩
theorem YE.mono{L' B':Nat}{a:Option Addr}{xs:List Xz}(h:YE w L B a xs)(l:L'<=L)(k:B<=B'):YE w L' B' a xs:=fun i hi=>by
 obtain⟨b,o,e,hb,hc⟩:=h i hi;exact⟨b,o,e,by omega,hc⟩
theorem UD.mono{L' B':Nat}{b o:Nat}{x:Ph}(h:UD w L B b o x)(l:L'<=L)(k:B<=B'):UD w L' B' b o x:=by
 obtain⟨a,c,h0,h1,h2⟩:=h;exact⟨a,c,h0,h1,h2.mono l k⟩
theorem ZN.mono{L' B':Nat}{a:Option Addr}{xs:List Ph}(h:ZN w L B a xs)(l:L'<=L)(k:B<=B'):ZN w L' B' a xs:=fun i hi=>by
 obtain⟨b,o,e,hb,hc⟩:=h i hi;exact⟨b,o,e,by omega,hc.mono l k⟩
theorem Js.mono{L' B':Nat}{b o:Nat}{x:Xf}(h:Js w L B b o x)(l:L'<=L)(k:B<=B'):Js w L' B' b o x:=by
 obtain⟨pa,pc,ia,ic,h0,h1,h2,h3,h4⟩:=h;exact⟨pa,pc,ia,ic,h0,h1,h2,h3.mono l k,h4.mono l k⟩
theorem X8.mono{L' B':Nat}{a:Option Addr}{xs:List Xf}(h:X8 w L B a xs)(l:L'<=L)(k:B<=B'):X8 w L' B' a xs:=fun i hi=>by
 obtain⟨b,o,e,hb,hc⟩:=h i hi;exact⟨b,o,e,by omega,hc.mono l k⟩
end Go.Proofs.YtkehcdfalcakmaaGreatDoor
namespace Go.Proofs.YtkehcdfalcakmaaGreatDoor
open Go.RowKit
theorem xA{α:Type}{xs:List α}{i:Nat}(h:i<xs.toArray.size):xs.toArray[i]=xs[i]'(by simpa using h):=rfl
theorem xB{α:Type}{a:α}{ys:List α}{h:0<(a::ys).length}:(a::ys)[0]=a:=rfl
theorem xC{α:Type}{a:α}{ys:List α}{i:Nat}{h:i+1<(a::ys).length}:(a::ys)[i+1]=ys[i]'(Nat.lt_of_succ_lt_succ h):=rfl
theorem xD{α:Type}{l:List α}{i:Nat}{a:α}:l.toArray.setIfInBounds i a=(l.set i a).toArray:=List.setIfInBounds_toArray ..
theorem xE{α:Type}{x:α}{xs:List α}{a:α}:(x::xs).set 0 a=a::xs:=rfl
theorem xF{α:Type}{x:α}{xs:List α}{i:Nat}{a:α}:(x::xs).set (i+1) a=x::xs.set i a:=rfl
theorem XI{P:Program}{md:Region.Mode}{ops:Array Oper}{Q:Exit->Act->World->Prop}{S:World->Prop}(i:Nat){oi:Oper}{v:Value}{fuel:Nat}{listed:Array Bool}{a b:Act}{w:World}(h:wpAnyH P md ops Q S fuel (listed.setIfInBounds i true) b w)(hi:ops[i]?=some oi:=by exact rfl)(hw:Region.wanted oi (yielded ops a.tmps)=true:=by rfl)(hy:∀(w:World),S w->Sem.run P (execOp a.eval oi) w=Result.ok (Next.value v) w:=by intro w hSw;(try dsimp only at hSw);go_simp;try with_reducible rfl)(hp:a.put oi.dst v=b:=by(simp only[Act.put,xA,xB,xC,xD,xE,xF]);exact rfl)(hq:∀c a w,Q (.panic c) (a.put oi.dst v) w->Q (.panic c) a w:=by exact(fun _ _ _ h=>hQ.out _ _ _ _ _ h))(hs:Region.noSelect ops=true:=by kernel_rfl)(hf:Region.free md ops listed i=true:=by kernel_rfl)(hr:(Region.ready md ops listed).contains i=true:=by kernel_rfl)(hS:S w:=by assumption):wpAnyH P md ops Q S (fuel+1) listed a w:=wpAnyH_take hi hs hf hr hq (Or.inl ⟨hw,hy⟩) hS (hp ▸ h)
theorem Xl{P:Program}{md:Region.Mode}{ops:Array Oper}{Q:Exit->Act->World->Prop}{S:World->Prop}(i:Nat){oi:Oper}{v:Value}{fuel:Nat}{listed:Array Bool}{a b:Act}{w:World}(h:wpAnyH P md ops Q S fuel (listed.setIfInBounds i true) b w)(hi:ops[i]?=some oi:=by exact rfl)(hw:Region.wanted oi (yielded ops a.tmps)=true:=by rfl)(hy:∀(w:World),S w->Sem.run P (execOp a.eval oi) w=Result.ok (Next.value v) w:=by intro w hSw;(try dsimp only at hSw);go_simp;try with_reducible rfl)(hp:a.put oi.dst v=b:=by(simp only[Act.put,xA,xB,xC,xD,xE,xF]);exact rfl)(hq:∀c a w,Q (.panic c) (a.put oi.dst v) w->Q (.panic c) a w:=by exact fun _ _ _ h=>h)(hs:Region.noSelect ops=true:=by kernel_rfl)(hf:Region.free md ops listed i=true:=by kernel_rfl)(hr:(Region.ready md ops listed).contains i=true:=by kernel_rfl)(hS:S w:=by assumption):wpAnyH P md ops Q S (fuel+1) listed a w:=wpAnyH_take hi hs hf hr hq (Or.inl ⟨hw,hy⟩) hS (hp ▸ h)
theorem Xw{P:Program}{md:Region.Mode}{ops:Array Oper}{Q:Exit->Act->World->Prop}{S:World->Prop}(i:Nat){oi:Oper}{fuel:Nat}{listed:Array Bool}{a:Act}{w:World}(h:∀K':Act->World->Prop,Shut (∀a w,S w->∀{b:Act},(S w->wpAnyH P md ops Q S fuel (listed.setIfInBounds i true) b w)->(hp:a=b:=by(try simp only[Act.put,xA,xB,xC,xD,xE,xF]);exact rfl)->K' a w)->if Region.wanted oi (yielded ops a.tmps)=true then Oper.wp P oi a w K' Q else K' (a.put oi.dst undef) w)(hi:ops[i]?=some oi:=by exact rfl)(hr:Region.ready md ops listed=[i]:=by kernel_rfl):wpAnyH P md ops Q S (fuel+1) listed a w:=wpAnyH_ready (rs:=[i]) hr (by simp) (AllReadyH.cons hi (fun K hK=>h K (fun a w hs b k hp=>hK a w hs (hp ▸ k))) AllReadyH.nil)
theorem YZ{P:Program}{ops:Array Oper}{Q:Exit->Act->World->Prop}(S:World->Prop){id:Nat}{a:Act}{w:World}(h:S w.drew->wpAnyH P .any ops Q S ops.size (Array.replicate ops.size false) a w.drew)(hS:S w.drew:=by first | with_reducible exact True.intro | ((try dsimp only);go_keep))(hm:P.follows .mixedOrders=true:=by kernel_rfl):(Code.region id ops true).wp P Q a w:=wp_region_held_drew hm hS h
theorem Y7{P:Program}{md:Region.Mode}{ops:Array Oper}{Q:Exit->Act->World->Prop}{S:World->Prop}{listed:Array Bool}{a:Act}{w:World}{fuel:Nat}(h:Q .normal a w)(hr:Region.ready md ops listed=[]:=by kernel_rfl):wpAnyH P md ops Q S fuel listed a w:=wpAnyH_done hr h fuel
theorem Zg{n:Nat}{w w':World}(k:Below n w w'){b o:Nat}(hb:b<n):w'.cell? ⟨b,o,none⟩=w.cell? ⟨b,o,none⟩:=k.cell (p:=⟨b,o,none⟩) hb
end Go.Proofs.YtkehcdfalcakmaaGreatDoor
namespace Go.Proofs.YtkehcdfalcakmaaGreatDoor
open Go.RowKit
variable {w w1 : World} {L B b t N : Nat} {f : Nat -> Value}
theorem Tq(b:Nat):∀(vs:List Value)(o:Nat)(w:World)(k:Nat),k≠b->(w.setCells b o vs).heap[k]?=w.heap[k]?
 | [],_,_,_,_=>rfl
 | v::r,o,w,k,h=>by rw[World.setCells,Tq b r _ _ _ h,Below.heap_setCell _ _ _ _ h]
theorem YS(b:Nat):∀(vs:List Value)(o:Nat)(w w1:World),Below B w w1->B<=b->Below B w (w1.setCells b o vs)
 | [],_,_,_,h,_=>h
 | v::r,o,w,w1,h,hb=>by rw[World.setCells];exact YS b r _ _ _ (h.setCell hb v) hb
theorem ZaM(hr:w.rowIs b t N f){o m:Nat}(h:o+m<=N):w.there b o m:=fun j hj=>⟨by rw[hr.cell (by omega)];rfl,hr.frozen _⟩
theorem JL(h:X7 L B w w1)(vs:List Value)(o:Nat)(hb:b<L\/B<=b):X7 L B w (w1.setCells b o vs):=fun k h1 h2=>by
 rw[Tq _ _ _ _ _ (by omega)];exact h k h1 h2
theorem X7.refl(L B:Nat)(w:World):X7 L B w w:=fun _ _ _=>rfl
theorem X7.setCell(h:X7 L B w w1){p:Addr}(hp:p.block<L\/B<=p.block)(v:Value):X7 L B w (w1.setCell p v):=fun k h1 h2=>by
 rw[Below.heap_setCell _ _ _ _ (by omega)];exact h k h1 h2
theorem Xd(w:World)(p:Addr)(v:Value):(w.setCell p v).heap.size=w.heap.size:=by simp[World.setCell]
theorem UP{o:Nat}{x:Xz}:Y0 w b o x↔w.rangeAt b o x.cells:=by
 constructor
 ·rintro⟨h0,h1,h2,h3,h4⟩ j v hv
  match j,hv with
  | 0,hv=>simp[Xz.cells]at hv;subst hv;exact h0
  | 1,hv=>simp[Xz.cells]at hv;subst hv;exact h1
  | 2,hv=>simp[Xz.cells]at hv;subst hv;exact h2
  | 3,hv=>simp[Xz.cells]at hv;subst hv;exact h3
  | 4,hv=>simp[Xz.cells]at hv;subst hv;exact h4
  | n+5,hv=>simp[Xz.cells]at hv
 ·intro h
  exact⟨h 0 _ rfl,h 1 _ rfl,h 2 _ rfl,h 3 _ rfl,h 4 _ rfl⟩
theorem Y0.apart{o o':Nat}{x:Xz}(h:Y0 w b o x)(vs:List Value)(hap:o+5<=o'\/o' + vs.length<=o):Y0 (w.setCells b o' vs) b o x :=
 UP.2 (World.rangeAt_setCells_apart (UP.1 h) b o' vs (by simp only[Xz.cells,List.length_cons,List.length_nil];omega))
theorem Ja{o o':Nat}{vs:List Value}(hap:o<o'\/o' + vs.length<=o):(w.setCells b o' vs).cell? ⟨b,o,none⟩=w.cell? ⟨b,o,none⟩ :=
 World.cell?_setCells_out b vs o' w ⟨b,o,none⟩ (fun _ _=>hap)
theorem UD.apart{o o':Nat}{x:Ph}(h:UD w L B b o x)(hb:b<L)(vs:List Value)(hap:o+2<=o'\/o' + vs.length<=o):UD (w.setCells b o' vs) L B b o x:=by
 obtain⟨a,c,h0,h1,h2⟩:=h;exact⟨a,c,(Ja (by omega)).trans h0,(Ja (by omega)).trans h1,h2.keepS (JL (X7.refl _ _ _) _ _ (Or.inl hb))⟩
theorem Y5.apart{o o':Nat}{x:XN}(h:Y5 w b o x)(vs:List Value)(hap:o+4<=o'\/o' + vs.length<=o):Y5 (w.setCells b o' vs) b o x:=by
 obtain⟨h0,h1,h2,h3⟩:=h;exact⟨(Ja (by omega)).trans h0,(Ja (by omega)).trans h1,(Ja (by omega)).trans h2,(Ja (by omega)).trans h3⟩
theorem Js.apart{o o':Nat}{x:Xf}(h:Js w L B b o x)(hb:b<L)(vs:List Value)(hap:o+6<=o'\/o' + vs.length<=o):Js (w.setCells b o' vs) L B b o x:=by
 obtain⟨pa,pc,ia,ic,h0,h1,h2,h3,h4⟩:=h;exact⟨pa,pc,ia,ic,(Ja (by omega)).trans h0,(Ja (by omega)).trans h1,h2.apart _ (by omega),h3.keepS (JL (X7.refl _ _ _) _ _ (Or.inl hb)),h4.keepS (JL (X7.refl _ _ _) _ _ (Or.inl hb))⟩
end Go.Proofs.YtkehcdfalcakmaaGreatDoor
namespace Go.Proofs.YtkehcdfalcakmaaGreatDoor
open Go.RowKit Go.Deep
structure IW(L B:Nat)(w w':World):Prop where
 os:w'.os=w.os
 tape:w'.tape=w.tape
 output:w'.output=w.output
 size:w'.heap.size=w.heap.size
 block:∀k,¬(L<=k/\k<B)->w'.heap[k]?=w.heap[k]?
 cell:∀p,w'.cell? p=w.cell? p\/∃u v,w.cell? p=some (.int .i64 u)/\w'.cell? p=some (.int .i64 v)
 frozen:∀p,w'.frozen? p=w.frozen? p
variable {w w' w1 : World} {L B : Nat}
theorem IW.refl(L B:Nat)(w:World):IW L B w w:=⟨rfl,rfl,rfl,rfl,fun _ _=>rfl,fun _=>Or.inl rfl,fun _=>rfl⟩
theorem IW.trans{w2:World}(h:IW L B w w1)(k:IW L B w1 w2):IW L B w w2:=by
 refine⟨k.os.trans h.os,k.tape.trans h.tape,k.output.trans h.output,k.size.trans h.size,fun i hi=>(k.block i hi).trans (h.block i hi),fun p=>?_,fun p=>(k.frozen p).trans (h.frozen p)⟩;rcases k.cell p with e | ⟨u,v,e1,e2⟩
 ·rcases h.cell p with f | ⟨u,v,f1,f2⟩
  ·exact Or.inl (e.trans f)
  ·exact Or.inr ⟨u,v,f1,e.trans f2⟩
 ·rcases h.cell p with f | ⟨u',v',f1,f2⟩
  ·exact Or.inr ⟨u,v,f.symm.trans e1,e2⟩
  ·exact Or.inr ⟨u',v,f1,e2⟩
theorem IW.set(h:IW L B w w1){b o:Nat}(hp:L<=b/\b<B){u:Int}(hc:w1.cell? ⟨b,o,none⟩=some (.int .i64 u))(v:Int):IW L B w (w1.setCell ⟨b,o,none⟩ (.int .i64 v)):=by
 refine h.trans ⟨rfl,rfl,rfl,by simp[World.setCell],fun k hk=>Below.heap_setCell _ _ _ _ (by dsimp only;omega),fun p=>?_,fun p=>World.frozen?_setCell _ _ _ _⟩;by_cases e:p=⟨b,o,none⟩
 ·subst e
  exact Or.inr ⟨u,v,hc,World.cell?_setCell_same _ _ _ hc⟩
 ·exact Or.inl (World.cell?_setCell_other _ _ _ _ (fun h=>e h.symm))
theorem IW.int(h:IW L B w w'){p:Addr}{u:Int}(hc:w.cell? p=some (.int .i64 u)):∃v,w'.cell? p=some (.int .i64 v):=by
 rcases h.cell p with e | ⟨_,v,_,e⟩
 ·exact⟨u,e.trans hc⟩
 ·exact⟨v,e⟩
theorem IW.slice(h:IW L B w w'){p:Addr}{a:Option Addr}{n c:Nat}(hc:w.cell? p=some (.slice a n c)):w'.cell? p=some (.slice a n c):=by
 rcases h.cell p with e | ⟨u,_,e,_⟩
 ·exact e.trans hc
 ·rw[hc]at e;cases e
def KQ(L B:Nat)(w:World):Prop:=∀b o,L<=b/\b<B->w.frozen? ⟨b,o,none⟩=false
theorem KQ.of{L B:Nat}{w:World}(h:J7 L w):KQ L B w:=fun b o hb=>h b o hb.1
theorem KQ.keepS{L B:Nat}{w w':World}(h:KQ L B w)(k:X7 L B w w'):KQ L B w':=fun b o hb=>(World.frozen?_of_block (k b hb.1 hb.2)).trans (h b o hb)
theorem KQ.setCell{L B:Nat}{w:World}(h:KQ L B w)(p:Addr)(v:Value):KQ L B (w.setCell p v):=fun b o hb=>by rw[World.frozen?_setCell];exact h b o hb
theorem IW.thaw(h:IW L B w w'){M:Nat}(t:J7 M w):J7 M w':=fun b o hb=>(h.frozen _).trans (t b o hb)
variable {L' B' : Nat} {a : Option Addr}
end Go.Proofs.YtkehcdfalcakmaaGreatDoor
namespace Go.Proofs.YtkehcdfalcakmaaGreatDoor
open Go.RowKit
def Xp(l:List UInt8):List Value:=l.map fun b=>Value.int .u8 (b.toNat:Int)
theorem KH(l:List UInt8)(b:UInt8):Xp (l++[b])=Xp l++[Value.int .u8 (b.toNat:Int)]:=by simp[Xp]
theorem VQ(a b:List UInt8):Xp (a++b)=Xp a++Xp b:=by simp[Xp]
def Yr(w:World)(L B:Nat)(a:Option Addr)(vs:List Value):Prop:=∀i (h:i<vs.length),∃b o,a=some ⟨b,o,none⟩/\(L<=b/\b<B)/\w.cell? ⟨b,o+i,none⟩=some vs[i]
theorem Yr.keepS{w w':World}{L B:Nat}{a:Option Addr}{xs:List Value}(h:Yr w L B a xs)(k:X7 L B w w'):Yr w' L B a xs:=fun i hi=>by
 obtain⟨b,o,e,hb,hc⟩:=h i hi;exact⟨b,o,e,hb,by rw[Xc (k b hb.1 hb.2)];exact hc⟩
theorem Ko{w:World}{base e:Nat}{v:Value}{n:Nat}{xs:List Value}(h:w.ownsRow base e 1 v n xs):∃a c,v=.slice a xs.length c/\Yr w base w.heap.size a xs:=by
 obtain⟨hl,h | ⟨g,cap,cur,rfl,hg,hh,hc,_,hs,ht⟩⟩:=h
 ·obtain⟨rfl,rfl⟩:=h
  have:xs=[]:=by simpa using hl
  subst this;exact⟨_,_,rfl,fun i hi=>absurd hi (by simp)⟩
 ·simp only[Nat.mul_one]at hl hs ht
  subst hl;refine⟨_,_,rfl,fun i hi=>⟨g,0,rfl,⟨hg,?_⟩,?_⟩⟩
  ·rcases Nat.lt_or_ge g w.heap.size with h1 | h1
   ·exact h1
   ·rw[Array.getElem?_eq_none h1]at hh;cases hh
  ·rw[Nat.zero_add,cell_of_row w g i cur e (0,0) hh,<-Array.getElem?_toList]
   have:=congrArg (fun l:List Value=>l[i]?) ht;simp only[List.getElem?_take,hi,if_true]at this;rw[this,List.getElem?_eq_getElem hi]
theorem Yr.lower{w:World}{L L' B:Nat}{a:Option Addr}{vs:List Value}(h:Yr w L B a vs)(hl:L'<=L):Yr w L' B a vs:=fun i hi=>by
 obtain⟨b,o,e,hb,hc⟩:=h i hi;exact⟨b,o,e,by omega,hc⟩
theorem ZbR(w:World)(vs:List Value)(t:TypeId):Yr (w.alloc (.cells vs.toArray t)) w.heap.size (w.heap.size+1) (some ⟨w.heap.size,0,none⟩) vs:=fun i hi =>
 ⟨_,0,rfl,⟨Nat.le_refl _,Nat.lt_succ_self _⟩,by simp[hi]⟩
def XE(w:World)(L B:Nat)(a:Option Addr)(bs:List UInt8):Prop:=∀i (h:i<bs.length),∃b o,a=some ⟨b,o,none⟩/\(L<=b/\b<B)/\w.cell? ⟨b,o+i,none⟩=some (.int .u8 (bs[i].toNat:Int))
theorem XE.keepS{w w':World}{L B:Nat}{a:Option Addr}{xs:List UInt8}(h:XE w L B a xs)(k:X7 L B w w'):XE w' L B a xs:=fun i hi=>by
 obtain⟨b,o,e,hb,hc⟩:=h i hi;exact⟨b,o,e,hb,by rw[Xc (k b hb.1 hb.2)];exact hc⟩
theorem XE.keep{w w':World}{L B:Nat}{a:Option Addr}{xs:List UInt8}(h:XE w L B a xs)(k:Below B w w'):XE w' L B a xs:=h.keepS (X7.of_below k)
theorem ZbK{w:World}{base e n:Nat}{v:Value}{bs:List UInt8}(h:w.ownsRow base e 1 v n (Xp bs)):∃a c L B,v=.slice a bs.length c/\XE w L B a bs/\KQ L B w/\((L=0/\B=0)\/(B=L+1/\base<=L/\L<w.heap.size)):=by
 obtain⟨hl,h0 | ⟨g,cap,cur,rfl,hg,hh,hc,_,hs,ht⟩⟩:=h
 ·have:bs=[]:=by
   have h2:=h0.2;subst h2;simpa [Xp]using hl
  subst this;exact⟨none,0,0,0,h0.1,fun i hi=>absurd hi (by simp),fun b o hb=>absurd hb (by omega),Or.inl ⟨rfl,rfl⟩⟩
 ·have hgl:g<w.heap.size:=(Array.getElem?_eq_some_iff.1 hh).1
  have hn:n=bs.length:=by simpa [Xp]using hl.symm
  subst hn;refine⟨_,_,g,g+1,rfl,fun i hi=>⟨g,0,rfl,⟨Nat.le_refl _,Nat.lt_succ_self _⟩,?_⟩,fun b o hb=>?_,Or.inr ⟨rfl,hg,hgl⟩⟩
  ·rw[Nat.zero_add,cell_of_row w g i cur e (0,0) hh,<-Array.getElem?_toList]
   have h3:=congrArg (fun l:List Value=>l[i]?) ht;simp only[List.getElem?_take,Nat.mul_one,hi,if_true]at h3;rw[h3];simp[Xp,hi]
  ·have:b=g:=by omega
   subst this;unfold World.frozen?;rw[hh];simp
theorem Yn{w:World}{B B' e s n:Nat}{v:Value}{xs:List Value}(h:w.ownsRow B e s v n xs)(hb:B'<=B):w.ownsRow B' e s v n xs:=by
 obtain⟨hl,h0 | ⟨g,cap,cur,hv,hg,r⟩⟩:=h
 ·exact⟨hl,.inl h0⟩
 ·exact⟨hl,.inr ⟨g,cap,cur,hv,Nat.le_trans hb hg,r⟩⟩
end Go.Proofs.YtkehcdfalcakmaaGreatDoor
namespace Go.Proofs.YtkehcdfalcakmaaGreatDoor
set_option maxHeartbeats 1000000
set_option maxRecDepth 100000
open Go.RowKit
structure Sr where
 code:List UInt8
 pos:Nat
 mix:Int
 size:Int
def nextP(s:Sr)(n:Int):Int × Sr :=
 if n<=1 then (0,s)
 else if s.pos<s.code.length/\n<=256 then (((s.code.getD s.pos 0).toNat:Int) % n,{ s with pos:=s.pos+1 })
 else ((s.mix*1103+12347) % 1000003 / 3 % n,{ s with mix:=(s.mix*1103+12347) % 1000003 })
structure ZJ(s:Sr):Prop where
 len:s.code.length<=4000
 pos:s.pos<=s.code.length
 mix:0<=s.mix/\s.mix<1000003
 size:1<=s.size/\s.size<=7
theorem Yo{s:Sr}(h:ZJ s)(n:Int):ZJ (nextP s n).2:=by
 unfold nextP;split
 ·exact h
 ·split
  ·rename_i h1
   exact⟨h.len,h1.1,h.mix,h.size⟩
  ·refine⟨h.len,h.pos,?_,h.size⟩
   show 0<=(s.mix*1103+12347) % 1000003/\(s.mix*1103+12347) % 1000003<1000003;omega
theorem Xx(s:Sr){n:Int}(h:1<=n):0<=(nextP s n).1/\(nextP s n).1<n:=by
 unfold nextP;split
 ·exact⟨Int.le_refl _,by show(0:Int)<n;omega⟩
 ·split
  ·exact⟨Int.emod_nonneg _ (by omega),Int.emod_lt_of_pos _ (by omega)⟩
  ·exact⟨Int.emod_nonneg _ (by omega),Int.emod_lt_of_pos _ (by omega)⟩
structure ZL(w:World)(b L B:Nat)(s:Sr):Prop where
 c0:∃a c,w.cell? ⟨b,0,none⟩=some (.slice a s.code.length c)/\XE w L B a s.code
 c1:w.cell? ⟨b,1,none⟩=some (.int .i64 s.pos)
 c2:w.cell? ⟨b,2,none⟩=some (.int .i64 s.mix)
 c3:w.cell? ⟨b,3,none⟩=some (.int .i64 s.size)
 thaw:∀q,w.frozen? ⟨b,q,none⟩=false
 out:¬(L<=b/\b<B)
theorem UB{w:World}{b q L B:Nat}{a:Option Addr}{bs:List UInt8}(v:Value)(hb:XE w L B a bs)(ho:¬(L<=b/\b<B)):XE (w.setCell ⟨b,q,none⟩ v) L B a bs:=hb.keepS (fun k h1 h2=>Below.heap_setCell _ _ _ _ (by show k≠b;intro e;exact ho (by omega)))
theorem Yd(w:World)(b:Nat){o o':Nat}(h:o≠o')(v:Value):(w.setCell ⟨b,o,none⟩ v).cell? ⟨b,o',none⟩=w.cell? ⟨b,o',none⟩:=World.cell?_setCell_other _ _ _ _ (by intro e;injection e with _ e2;exact h e2)
theorem ZL.mix{w:World}{b L B:Nat}{s:Sr}(h:ZL w b L B s)(m:Int):ZL (w.setCell ⟨b,2,none⟩ (.int .i64 m)).drew b L B { s with mix:=m }:=by
 obtain⟨a,c,e0,hb⟩:=h.c0;exact⟨⟨a,c,(Yd w b (by omega) _).trans e0,UB _ hb h.out⟩,(Yd w b (by omega) _).trans h.c1,World.cell?_setCell_same w _ _ h.c2,(Yd w b (by omega) _).trans h.c3,fun q=>by show(w.setCell _ _).frozen? _=false;rw[World.frozen?_setCell];exact h.thaw q,h.out⟩
theorem ZL.pos{w:World}{b L B:Nat}{s:Sr}(h:ZL w b L B s)(m:Nat):ZL (w.setCell ⟨b,1,none⟩ (.int .i64 m)).drew b L B { s with pos:=m }:=by
 obtain⟨a,c,e0,hb⟩:=h.c0;exact⟨⟨a,c,(Yd w b (by omega) _).trans e0,UB _ hb h.out⟩,World.cell?_setCell_same w _ _ h.c1,(Yd w b (by omega) _).trans h.c2,(Yd w b (by omega) _).trans h.c3,fun q=>by show(w.setCell _ _).frozen? _=false;rw[World.frozen?_setCell];exact h.thaw q,h.out⟩
theorem ZL.drew{w:World}{b L B:Nat}{s:Sr}(h:ZL w b L B s):ZL w.drew b L B s:=⟨h.c0,h.c1,h.c2,h.c3,h.thaw,h.out⟩
theorem UI(w:World)(b q:Nat)(v:Value):w.grownBy (w.setCell ⟨b,q,none⟩ v).drew (some b):=⟨rfl,rfl,rfl,by simp[World.setCell,World.drew],fun k _ hk=>Below.heap_setCell _ _ _ _ (fun e=>hk (by rw[e]))⟩
theorem ZfG(b L B:Nat)(s:Sr)(n:Int)(w:World)(hs:Hid (ZL w b L B s))(hk:Hid (ZJ s))(hn:n<=1000000)(hn0:-1000000<=n) :
 Calls Tryz.prog 30 #[.pointer (some ⟨b,0,none⟩),.int .i64 n] w fun e w'=>e=.returned (.int .i64 (nextP s n).1)/\ZL w' b L B (nextP s n).2/\w.grownBy w' (some b):=by
 obtain⟨a,c,e0,hb⟩:=hs.c0;have e1:=hs.c1;have e2:=hs.c2;have z1:=hs.thaw 1;have z2:=hs.thaw 2;have HB:=Xa hb;clear hb;have hp:=hk.pos;have hl:=hk.len;have hm:=hk.mix;have HN:Hid (nextP s n=if n<=1 then (0,s)else if s.pos<s.code.length/\n<=256 then (((s.code.getD s.pos 0).toNat:Int) % n,{ s with pos:=s.pos+1 })else ((s.mix*1103+12347) % 1000003 / 3 % n,{ s with mix:=(s.mix*1103+12347) % 1000003 })):=Xa rfl;by_cases h1:n<=1
 ·have HR:Hid (nextP s n=(0,s)):=Xa (by rw[HN.out,if_pos h1])
  clear HN
  go_enter Tryz.func30,Tryz.ntmps30
  go_wp2
  go_ret
  rw[HR.out];exact⟨rfl,hs.out,⟨rfl,rfl,rfl,Nat.le_refl _,fun _ _ _=>rfl⟩⟩
 ·by_cases h2:s.pos<s.code.length/\n<=256
  ·have HR:Hid (nextP s n=(((s.code.getD s.pos 0).toNat:Int) % n,{ s with pos:=s.pos+1 })):=Xa (by rw[HN.out,if_neg h1,if_pos h2])
   obtain⟨h3,h4⟩:=h2;obtain⟨b',o',rfl,hbb,hc⟩:=HB.out s.pos h3;have HG:Hid (s.code.getD s.pos 0=s.code[s.pos]):=Xa (by simp[h3]);have hby:s.code[s.pos].toNat<256:=UInt8.toNat_lt _;have HC0:=Xa hs.out;generalize s.code[s.pos]=by0 at *;generalize hbn:by0.toNat=bn at *;have hrem:((bn:Nat):Int).tmod n=(bn:Int) % n:=Int.tmod_eq_emod_of_nonneg (by omega);clear HN hbb;have hlt:(s.pos:Int)<(s.code.length:Int):=by omega
   generalize hcl:s.code.length=cl at *
   go_enter Tryz.func30,Tryz.ntmps30
   go_wp2
   go_region
   go_wp2
   go_region
   go_wp2
   go_ret
   rw[HR.out];have hsp:=(hs.pos (s.pos+1)).drew;have hgs:=(UI w b 1 (.int .i64 ((s.pos+1:Nat):Int)));rw[Int.natCast_add]at hsp hgs;refine⟨?_,hsp,⟨hgs.os,hgs.tape,hgs.output,hgs.size,hgs.block⟩⟩;rw[HG.out,hbn];rfl
  ·have HR:Hid (nextP s n=((s.mix*1103+12347) % 1000003 / 3 % n,{ s with mix:=(s.mix*1103+12347) % 1000003 })):=Xa (by rw[HN.out,if_neg h1,if_neg h2])
   have hrem:(s.mix*1103+12347).tmod 1000003=(s.mix*1103+12347) % 1000003:=Int.tmod_eq_emod_of_nonneg (by omega);have hq:((s.mix*1103+12347) % 1000003).tdiv 3=(s.mix*1103+12347) % 1000003 / 3:=Int.tdiv_eq_ediv_of_nonneg (by omega);have hr2:((s.mix*1103+12347) % 1000003 / 3).tmod n=(s.mix*1103+12347) % 1000003 / 3 % n:=Int.tmod_eq_emod_of_nonneg (by omega);clear HN;by_cases h3:s.pos<s.code.length
   ·have h4:¬n<=256:=fun h4=>h2 ⟨h3,h4⟩
    clear h2;have hlt:(s.pos:Int)<(s.code.length:Int):=by omega
    generalize hcl:s.code.length=cl at *
    go_enter Tryz.func30,Tryz.ntmps30
    go_wp2
    go_region
    go_wp2
    go_ret
    rw[HR.out];exact⟨rfl,hs.mix _,UI _ _ _ _⟩
   ·clear h2
    have hlt:¬(s.pos:Int)<(s.code.length:Int):=by omega
    generalize hcl:s.code.length=cl at *
    go_enter Tryz.func30,Tryz.ntmps30
    go_wp2
    go_region
    go_wp2
    go_ret
    rw[HR.out];exact⟨rfl,hs.mix _,UI _ _ _ _⟩
end Go.Proofs.YtkehcdfalcakmaaGreatDoor
namespace Go.Proofs.YtkehcdfalcakmaaGreatDoor
structure Mv where
 to:Int
 frm:Int
def Zh7(L:List Mv)(r:Int):Bool:=L.any fun m=>m.frm==r
def Zhw:List Int->Option Int
 | []=>none
 | x::xs=>match Zhw xs with
  | none=>some x
  | some y=>some (if x<y then x else y)
def Zbn(L:List Mv):List Int:=L.map (·.to)
def Zir(L:List Mv):List Int:=(Zbn L).filter fun t=>!Zh7 L t
def cpI(m:Mv):Xz:=if m.frm<0 then ⟨13,m.to,0,0,0⟩else ⟨11,m.to,m.frm,0,0⟩
def Zhx(L:List Mv)(t:Int):Int:=((L.find? fun m=>m.to==t).map (·.frm)).getD 0
def without(L:List Mv)(t:Int):List Mv:=L.filter fun m=>m.to != t
def scratch(L:List Mv)(r:Int):List Mv:=L.map fun m=>if m.frm=r then ⟨m.to,-1⟩else m
def Zhj(L:List Mv):Xz × List Mv:=match Zhw (Zir L)with
 | some t=>(cpI ⟨t,Zhx L t⟩,without L t)
 | none=>match Zhw (Zbn L)with
  | some r=>(⟨12,0,r,0,0⟩,scratch L r)
  | none=>(⟨0,0,0,0,0⟩,[])
structure UF(L:List Mv):Prop where
 nd:(Zbn L).Nodup
 to:∀m∈L,0<=m.to/\m.to<64
 frm:∀m∈L,m.frm=-1\/(0<=m.frm/\m.frm<64)
 ne:∀m∈L,m.frm≠m.to
def Zih(L:List Mv):Nat:=L.length+(L.filter fun m=>decide (0<=m.frm)).length
theorem UF.nil:UF []:=⟨by simp[Zbn],by simp,by simp,by simp⟩
theorem UF.without{L:List Mv}(h:UF L)(t:Int):UF (without L t):=by
 refine⟨?_,fun m hm=>h.to m (List.mem_filter.1 hm).1,fun m hm=>h.frm m (List.mem_filter.1 hm).1,fun m hm=>h.ne m (List.mem_filter.1 hm).1⟩;exact h.nd.sublist (List.filter_sublist.map _)
theorem ZbA(L:List Mv)(r:Int):Zbn (scratch L r)=Zbn L:=by
 unfold Zbn scratch;rw[List.map_map];refine List.map_congr_left (fun m _=>?_);show(if m.frm=r then (⟨m.to,-1⟩:Mv)else m).to=m.to;split<;>rfl
theorem UF.scratch{L:List Mv}(h:UF L)(r:Int):UF (scratch L r):=by
 have key:∀m∈Go.Proofs.YtkehcdfalcakmaaGreatDoor.scratch L r,∃q∈L,m=(if q.frm=r then ⟨q.to,-1⟩else q):=fun m hm=>by
  obtain⟨q,hq,e⟩:=List.mem_map.1 hm;exact⟨q,hq,e.symm⟩
 refine⟨by rw[ZbA];exact h.nd,fun m hm=>?_,fun m hm=>?_,fun m hm=>?_⟩<;>obtain⟨q,hq,rfl⟩:=key m hm
 ·have:=h.to q hq;split<;>exact this
 ·split
  ·exact Or.inl rfl
  ·exact h.frm q hq
 ·have h1:=h.to q hq
  have h2:=h.ne q hq;split
  ·show(-1:Int)≠q.to;omega
  ·exact h2
theorem UF.step{L:List Mv}(h:UF L):UF (Zhj L).2:=by
 unfold Zhj;split
 ·exact h.without _
 ·split
  ·exact h.scratch _
  ·exact UF.nil
def VM(L:List Mv):List Mv:=L.filter fun m=>m.to != m.frm
structure Zhi(L:List Mv):Prop where
 nd:(Zbn L).Nodup
 rng:∀m∈L,0<=m.to/\m.to<64/\0<=m.frm/\m.frm<64
theorem Zhi.start{L:List Mv}(h:Zhi L):UF (VM L)/\Zih (VM L)=2*(VM L).length:=by
 have sub:∀m∈VM L,m∈L/\m.to≠m.frm:=fun m hm=>by simpa [VM]using hm
 refine⟨⟨h.nd.sublist (List.filter_sublist.map _),fun m hm=>?_,fun m hm=>?_,fun m hm=>?_⟩,?_⟩
 ·have:=h.rng m (sub m hm).1;omega
 ·have:=h.rng m (sub m hm).1;omega
 ·exact fun e=>(sub m hm).2 e.symm
 ·unfold Zih
  rw[List.filter_eq_self.2 (fun m hm=>by have:=h.rng m (sub m hm).1;simp;omega)];omega
def J8(c:List UInt8)(m:Int):Int:=c.foldl (fun m b=>(m*257+(b.toNat:Int)+1) % 1000003) m
def Vf(bs:List UInt8):Sr:=⟨bs.take 4000,0,J8 (bs.take 4000) (((bs.length % 1000:Nat):Int)+29),if 1+(((bs.take 4000).length:Nat):Int) / 50 > 7 then 7 else 1+(((bs.take 4000).length:Nat):Int) / 50⟩
theorem Vl:∀(c:List UInt8)(m:Int),0<=m->m<1000003->0<=J8 c m/\J8 c m<1000003
 | [],m,h0,h1=>⟨h0,h1⟩
 | b::c,m,h0,h1=>Vl c _ (Int.emod_nonneg _ (by decide)) (Int.emod_lt_of_pos _ (by decide))
theorem Zb3(c:List UInt8)(m:Int)(j:Nat)(h:j<c.length):J8 (c.take (j+1)) m=(J8 (c.take j) m*257+(c[j].toNat:Int)+1) % 1000003:=by
 unfold J8;rw[List.take_succ_eq_append_getElem h,List.foldl_append];rfl
theorem ZgV(bs:List UInt8):ZJ (Vf bs):=by
 refine⟨?_,Nat.zero_le _,Vl _ _ (by omega) (by have:=Nat.mod_lt bs.length (show 0<1000 by decide);omega),?_⟩
 ·show(bs.take 4000).length<=4000
  rw[List.length_take];omega
 ·unfold Vf
  dsimp only;split<;>omega
theorem ZaR{T:Type}(xs:List T)(d:T){i:Nat}(h:i<xs.length):xs.getD i d∈xs:=by
 rw[show xs.getD i d=xs[i] by simp[h]];exact List.getElem_mem h
end Go.Proofs.YtkehcdfalcakmaaGreatDoor
