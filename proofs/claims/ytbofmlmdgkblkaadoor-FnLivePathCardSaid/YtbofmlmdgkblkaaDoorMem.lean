import Derived.WalkKit
import Derived.Deep.RegionHeld
import Derived.Deep.OwnRows
import Derived.Deep.MidRow
import Derived.Deep.Slices
import Derived.Test.YtbofmlmdgkblkaaDoorProg
import Derived.WalkSpells
import Derived.WalkLawsBesides
import Derived.Deep.RegionHeld3
import Derived.Deep.DrawnRows
import Derived.Maps.AppendAt
namespace Go.Proofs.YtbofmlmdgkblkaaDoor
open Go.RowKit
structure XS where
 op:Int
 dst:Int
 a:Int
 b:Int
 imm:Int
structure XZ where
 kind:Int
 a:Int
 to:Int
 els:Int
structure Ph where
 dst:Int
 args:List Int
structure Xg where
 phis:List Ph
 instrs:List XS
 term:XZ
structure Fn where
 values:Int
 blocks:List Xg
def XS.cells(x:XS):List Value:=[.int .i64 x.op,.int .i64 x.dst,.int .i64 x.a,.int .i64 x.b,.int .i64 x.imm]
def Xe(w:World)(L B:Nat)(a:Option Addr)(xs:List Int):Prop :=
 ∀i (h:i<xs.length),∃b o,a=some ⟨b,o,none⟩/\(L<=b/\b<B)/\w.cell? ⟨b,o+i,none⟩=some (.int .i64 xs[i])
def ZU(w:World)(b o:Nat)(x:XS):Prop :=
 w.cell? ⟨b,o,none⟩=some (.int .i64 x.op)/\w.cell? ⟨b,o+1,none⟩=some (.int .i64 x.dst)/\w.cell? ⟨b,o+2,none⟩=some (.int .i64 x.a) /\
 w.cell? ⟨b,o+3,none⟩=some (.int .i64 x.b)/\w.cell? ⟨b,o+4,none⟩=some (.int .i64 x.imm)
def YF(w:World)(L B:Nat)(a:Option Addr)(xs:List XS):Prop :=
 ∀i (h:i<xs.length),∃b o,a=some ⟨b,o,none⟩/\(L<=b/\b<B)/\ZU w b (o+i*5) xs[i]
def TX(w:World)(b o:Nat)(x:XZ):Prop :=
 w.cell? ⟨b,o,none⟩=some (.int .i64 x.kind)/\w.cell? ⟨b,o+1,none⟩=some (.int .i64 x.a)/\w.cell? ⟨b,o+2,none⟩=some (.int .i64 x.to) /\
 w.cell? ⟨b,o+3,none⟩=some (.int .i64 x.els)
def ZcA(w:World)(L B b o:Nat)(x:Ph):Prop :=
 ∃a c,w.cell? ⟨b,o,none⟩=some (.int .i64 x.dst)/\w.cell? ⟨b,o+1,none⟩=some (.slice a x.args.length c)/\Xe w L B a x.args
def Ji(w:World)(L B:Nat)(a:Option Addr)(xs:List Ph):Prop :=
 ∀i (h:i<xs.length),∃b o,a=some ⟨b,o,none⟩/\(L<=b/\b<B)/\ZcA w L B b (o+i*2) xs[i]
def Kj(w:World)(L B b o:Nat)(x:Xg):Prop :=
 ∃pa pc ia ic,w.cell? ⟨b,o,none⟩=some (.slice pa x.phis.length pc)/\w.cell? ⟨b,o+1,none⟩=some (.slice ia x.instrs.length ic) /\
  TX w b (o+2) x.term/\Ji w L B pa x.phis/\YF w L B ia x.instrs
def Xy(w:World)(L B:Nat)(a:Option Addr)(xs:List Xg):Prop :=
 ∀i (h:i<xs.length),∃b o,a=some ⟨b,o,none⟩/\(L<=b/\b<B)/\Kj w L B b (o+i*6) xs[i]
theorem Xa{p:Prop}(h:p):Hid p:=h
theorem Xv{p:Prop}(h:Hid p):p:=h
theorem Xj{w w1 w2:World}(h:Below w.heap.size w w1)(k:Below w1.heap.size w1 w2):Below w.heap.size w w2:=h.trans (k.mono h.size)
theorem WC{W w1:World}(hb:Below W.heap.size W w1):(∀b o,b<W.heap.size->w1.cell? ⟨b,o,none⟩=W.cell? ⟨b,o,none⟩)/\(∀b o,b<W.heap.size->w1.frozen? ⟨b,o,none⟩=W.frozen? ⟨b,o,none⟩) :=
 ⟨fun b o h=>hb.cell (p:=⟨b,o,none⟩) h,fun b o h=>hb.frozen (p:=⟨b,o,none⟩) h⟩
theorem Xb{w w1:World}(h:Below w.heap.size w w1)(o:Obj):Below w.heap.size w (w1.alloc o):=h.alloc h.size o
def ZdG(L:Nat)(w:World):Prop:=∀b o,L<=b->w.frozen? ⟨b,o,none⟩=false
theorem ZdG.start(w:World):ZdG w.heap.size w:=fun b o h=>by
 unfold World.frozen?;rw[Array.getElem?_eq_none (by exact h)]
theorem ZdG.alloc{L:Nat}{w:World}(h:ZdG L w)(c:Array Value)(t:TypeId):ZdG L (w.alloc (.cells c t)):=fun b o hb=>by
 by_cases e:b<w.heap.size
 ·rw[World.frozen?_of_block (w:=w) (a:=⟨b,o,none⟩) (Below.heap_alloc _ _ _ e)];exact h b o hb
 ·unfold World.frozen?
  show(match (w.heap.push (.cells c t))[b]? with | some (.cells _ _ (lo,hi))=>decide (lo<=o)&&decide (o<hi) | _=>false)=false
  rw[Array.getElem?_push];split
  ·rename_i _ _ _ hh
   split at hh
   ·cases hh;simp
   ·rw[Array.getElem?_eq_none (by omega)]at hh;cases hh
  ·rfl
variable {w w' : World} {L B : Nat}
def Yp(L B:Nat)(w w':World):Prop:=∀k,L<=k->k<B->w'.heap[k]?=w.heap[k]?
theorem Yp.of_below(k:Below B w w'):Yp L B w w':=fun i _ h=>k.block i h
theorem Xc{b o:Nat}(h:w'.heap[b]?=w.heap[b]?):w'.cell? ⟨b,o,none⟩=w.cell? ⟨b,o,none⟩:=World.cell?_of_block (w:=w) h
theorem Xe.keepS{a:Option Addr}{xs:List Int}(h:Xe w L B a xs)(k:Yp L B w w'):Xe w' L B a xs:=fun i hi=>by
 obtain⟨b,o,e,hb,hc⟩:=h i hi;exact⟨b,o,e,hb,by rw[Xc (k b hb.1 hb.2)];exact hc⟩
theorem ZU.keepS{b o:Nat}{x:XS}(h:ZU w b o x)(k:w'.heap[b]?=w.heap[b]?):ZU w' b o x:=by
 obtain⟨h0,h1,h2,h3,h4⟩:=h;exact⟨(Xc k).trans h0,(Xc k).trans h1,(Xc k).trans h2,(Xc k).trans h3,(Xc k).trans h4⟩
theorem TX.keepS{b o:Nat}{x:XZ}(h:TX w b o x)(k:w'.heap[b]?=w.heap[b]?):TX w' b o x:=by
 obtain⟨h0,h1,h2,h3⟩:=h;exact⟨(Xc k).trans h0,(Xc k).trans h1,(Xc k).trans h2,(Xc k).trans h3⟩
theorem YF.keepS{a:Option Addr}{xs:List XS}(h:YF w L B a xs)(k:Yp L B w w'):YF w' L B a xs:=fun i hi=>by
 obtain⟨b,o,e,hb,hc⟩:=h i hi;exact⟨b,o,e,hb,hc.keepS (k b hb.1 hb.2)⟩
theorem ZcA.keepS{b o:Nat}{x:Ph}(h:ZcA w L B b o x)(k:Yp L B w w')(e:w'.heap[b]?=w.heap[b]?):ZcA w' L B b o x:=by
 obtain⟨a,c,h0,h1,h2⟩:=h;exact⟨a,c,(Xc e).trans h0,(Xc e).trans h1,h2.keepS k⟩
theorem Ji.keepS{a:Option Addr}{xs:List Ph}(h:Ji w L B a xs)(k:Yp L B w w'):Ji w' L B a xs:=fun i hi=>by
 obtain⟨b,o,e,hb,hc⟩:=h i hi;exact⟨b,o,e,hb,hc.keepS k (k b hb.1 hb.2)⟩
theorem Kj.keepS{b o:Nat}{x:Xg}(h:Kj w L B b o x)(k:Yp L B w w')(e:w'.heap[b]?=w.heap[b]?):Kj w' L B b o x:=by
 obtain⟨pa,pc,ia,ic,h0,h1,h2,h3,h4⟩:=h;exact⟨pa,pc,ia,ic,(Xc e).trans h0,(Xc e).trans h1,h2.keepS e,h3.keepS k,h4.keepS k⟩
theorem Xy.keepS{a:Option Addr}{xs:List Xg}(h:Xy w L B a xs)(k:Yp L B w w'):Xy w' L B a xs:=fun i hi=>by
 obtain⟨b,o,e,hb,hc⟩:=h i hi;exact⟨b,o,e,hb,hc.keepS k (k b hb.1 hb.2)⟩
theorem Xe.keep{a:Option Addr}{xs:List Int}(h:Xe w L B a xs)(k:Below B w w'):Xe w' L B a xs:=h.keepS (Yp.of_below k)
theorem ZU.keep{b o:Nat}{x:XS}(h:ZU w b o x)(k:Below B w w')(hb:b<B):ZU w' b o x:=h.keepS (k.block b hb)
theorem YF.keep{a:Option Addr}{xs:List XS}(h:YF w L B a xs)(k:Below B w w'):YF w' L B a xs:=h.keepS (Yp.of_below k)
theorem Ji.keep{a:Option Addr}{xs:List Ph}(h:Ji w L B a xs)(k:Below B w w'):Ji w' L B a xs:=h.keepS (Yp.of_below k)
theorem Kj.keep{b o:Nat}{x:Xg}(h:Kj w L B b o x)(k:Below B w w')(hb:b<B):Kj w' L B b o x:=h.keepS (Yp.of_below k) (k.block b hb)
theorem Xy.keep{a:Option Addr}{xs:List Xg}(h:Xy w L B a xs)(k:Below B w w'):Xy w' L B a xs:=h.keepS (Yp.of_below k)
theorem Xe.mono{L' B':Nat}{a:Option Addr}{xs:List Int}(h:Xe w L B a xs)(l:L'<=L)(k:B<=B'):Xe w L' B' a xs:=fun i hi=>by
 obtain⟨b,o,e,hb,hc⟩:=h i hi;exact⟨b,o,e,by omega,hc⟩
theorem YF.mono{L' B':Nat}{a:Option Addr}{xs:List XS}(h:YF w L B a xs)(l:L'<=L)(k:B<=B'):YF w L' B' a xs:=fun i hi=>by
 obtain⟨b,o,e,hb,hc⟩:=h i hi;exact⟨b,o,e,by omega,hc⟩
theorem ZcA.mono{L' B':Nat}{b o:Nat}{x:Ph}(h:ZcA w L B b o x)(l:L'<=L)(k:B<=B'):ZcA w L' B' b o x:=by
 obtain⟨a,c,h0,h1,h2⟩:=h;exact⟨a,c,h0,h1,h2.mono l k⟩
theorem Ji.mono{L' B':Nat}{a:Option Addr}{xs:List Ph}(h:Ji w L B a xs)(l:L'<=L)(k:B<=B'):Ji w L' B' a xs:=fun i hi=>by
 obtain⟨b,o,e,hb,hc⟩:=h i hi;exact⟨b,o,e,by omega,hc.mono l k⟩
theorem Kj.mono{L' B':Nat}{b o:Nat}{x:Xg}(h:Kj w L B b o x)(l:L'<=L)(k:B<=B'):Kj w L' B' b o x:=by
 obtain⟨pa,pc,ia,ic,h0,h1,h2,h3,h4⟩:=h;exact⟨pa,pc,ia,ic,h0,h1,h2,h3.mono l k,h4.mono l k⟩
theorem Xy.mono{L' B':Nat}{a:Option Addr}{xs:List Xg}(h:Xy w L B a xs)(l:L'<=L)(k:B<=B'):Xy w L' B' a xs:=fun i hi=>by
 obtain⟨b,o,e,hb,hc⟩:=h i hi;exact⟨b,o,e,by omega,hc.mono l k⟩
end Go.Proofs.YtbofmlmdgkblkaaDoor
namespace Go.Proofs.YtbofmlmdgkblkaaDoor
open Go.RowKit
theorem xA{α:Type}{xs:List α}{i:Nat}(h:i<xs.toArray.size):xs.toArray[i]=xs[i]'(by simpa using h):=rfl
theorem xB{α:Type}{a:α}{ys:List α}{h:0<(a::ys).length}:(a::ys)[0]=a:=rfl
theorem xC{α:Type}{a:α}{ys:List α}{i:Nat}{h:i+1<(a::ys).length}:(a::ys)[i+1]=ys[i]'(Nat.lt_of_succ_lt_succ h):=rfl
theorem xD{α:Type}{l:List α}{i:Nat}{a:α}:l.toArray.setIfInBounds i a=(l.set i a).toArray:=List.setIfInBounds_toArray ..
theorem xE{α:Type}{x:α}{xs:List α}{a:α}:(x::xs).set 0 a=a::xs:=rfl
theorem xF{α:Type}{x:α}{xs:List α}{i:Nat}{a:α}:(x::xs).set (i+1) a=x::xs.set i a:=rfl
theorem XE{P:Program}{md:Region.Mode}{ops:Array Oper}{Q:Exit->Act->World->Prop}{S:World->Prop}(i:Nat){oi:Oper}{v:Value}{fuel:Nat}{listed:Array Bool}{a b:Act}{w:World}(h:wpAnyH P md ops Q S fuel (listed.setIfInBounds i true) b w)(hi:ops[i]?=some oi:=by exact rfl)(hw:Region.wanted oi (yielded ops a.tmps)=true:=by rfl)(hy:∀(w:World),S w->Sem.run P (execOp a.eval oi) w=Result.ok (Next.value v) w:=by intro w hSw;(try dsimp only at hSw);go_simp;try with_reducible rfl)(hp:a.put oi.dst v=b:=by(simp only[Act.put,xA,xB,xC,xD,xE,xF]);exact rfl)(hq:∀c a w,Q (.panic c) (a.put oi.dst v) w->Q (.panic c) a w:=by exact(fun _ _ _ h=>hQ.out _ _ _ _ _ h))(hs:Region.noSelect ops=true:=by kernel_rfl)(hf:Region.free md ops listed i=true:=by kernel_rfl)(hr:(Region.ready md ops listed).contains i=true:=by kernel_rfl)(hS:S w:=by assumption):wpAnyH P md ops Q S (fuel+1) listed a w:=wpAnyH_take hi hs hf hr hq (Or.inl ⟨hw,hy⟩) hS (hp ▸ h)
theorem Xr{P:Program}{md:Region.Mode}{ops:Array Oper}{Q:Exit->Act->World->Prop}{S:World->Prop}(i:Nat){oi:Oper}{v:Value}{fuel:Nat}{listed:Array Bool}{a b:Act}{w:World}(h:wpAnyH P md ops Q S fuel (listed.setIfInBounds i true) b w)(hi:ops[i]?=some oi:=by exact rfl)(hw:Region.wanted oi (yielded ops a.tmps)=true:=by rfl)(hy:∀(w:World),S w->Sem.run P (execOp a.eval oi) w=Result.ok (Next.value v) w:=by intro w hSw;(try dsimp only at hSw);go_simp;try with_reducible rfl)(hp:a.put oi.dst v=b:=by(simp only[Act.put,xA,xB,xC,xD,xE,xF]);exact rfl)(hq:∀c a w,Q (.panic c) (a.put oi.dst v) w->Q (.panic c) a w:=by exact fun _ _ _ h=>h)(hs:Region.noSelect ops=true:=by kernel_rfl)(hf:Region.free md ops listed i=true:=by kernel_rfl)(hr:(Region.ready md ops listed).contains i=true:=by kernel_rfl)(hS:S w:=by assumption):wpAnyH P md ops Q S (fuel+1) listed a w:=wpAnyH_take hi hs hf hr hq (Or.inl ⟨hw,hy⟩) hS (hp ▸ h)
theorem Xs{P:Program}{md:Region.Mode}{ops:Array Oper}{Q:Exit->Act->World->Prop}{S:World->Prop}(i:Nat){oi:Oper}{fuel:Nat}{listed:Array Bool}{a:Act}{w:World}(h:∀K':Act->World->Prop,Shut (∀a w,S w->∀{b:Act},(S w->wpAnyH P md ops Q S fuel (listed.setIfInBounds i true) b w)->(hp:a=b:=by(try simp only[Act.put,xA,xB,xC,xD,xE,xF]);exact rfl)->K' a w)->if Region.wanted oi (yielded ops a.tmps)=true then Oper.wp P oi a w K' Q else K' (a.put oi.dst undef) w)(hi:ops[i]?=some oi:=by exact rfl)(hr:Region.ready md ops listed=[i]:=by kernel_rfl):wpAnyH P md ops Q S (fuel+1) listed a w:=wpAnyH_ready (rs:=[i]) hr (by simp) (AllReadyH.cons hi (fun K hK=>h K (fun a w hs b k hp=>hK a w hs (hp ▸ k))) AllReadyH.nil)
theorem YS{P:Program}{ops:Array Oper}{Q:Exit->Act->World->Prop}(S:World->Prop){id:Nat}{a:Act}{w:World}(h:S w.drew->wpAnyH P .any ops Q S ops.size (Array.replicate ops.size false) a w.drew)(hS:S w.drew:=by first | with_reducible exact True.intro | ((try dsimp only);go_keep))(hm:P.follows .mixedOrders=true:=by kernel_rfl):(Code.region id ops true).wp P Q a w:=wp_region_held_drew hm hS h
theorem Y5{P:Program}{md:Region.Mode}{ops:Array Oper}{Q:Exit->Act->World->Prop}{S:World->Prop}{listed:Array Bool}{a:Act}{w:World}{fuel:Nat}(h:Q .normal a w)(hr:Region.ready md ops listed=[]:=by kernel_rfl):wpAnyH P md ops Q S fuel listed a w:=wpAnyH_done hr h fuel
theorem Yn{n:Nat}{w w':World}(k:Below n w w'){b o:Nat}(hb:b<n):w'.cell? ⟨b,o,none⟩=w.cell? ⟨b,o,none⟩:=k.cell (p:=⟨b,o,none⟩) hb
end Go.Proofs.YtbofmlmdgkblkaaDoor
namespace Go.Proofs.YtbofmlmdgkblkaaDoor
open Go.RowKit
variable {w w1 : World} {L B b t N : Nat} {f : Nat -> Value}
theorem Yp.refl(L B:Nat)(w:World):Yp L B w w:=fun _ _ _=>rfl
theorem Yp.setCell(h:Yp L B w w1){p:Addr}(hp:p.block<L\/B<=p.block)(v:Value):Yp L B w (w1.setCell p v):=fun k h1 h2=>by
 rw[Below.heap_setCell _ _ _ _ (by omega)];exact h k h1 h2
theorem Xd(w:World)(p:Addr)(v:Value):(w.setCell p v).heap.size=w.heap.size:=by simp[World.setCell]
end Go.Proofs.YtbofmlmdgkblkaaDoor
namespace Go.Proofs.YtbofmlmdgkblkaaDoor
open Go.RowKit Go.Deep
variable {w w' w1 : World} {L B : Nat}
def Ziw(L B:Nat)(w:World):Prop:=∀b o,L<=b/\b<B->w.frozen? ⟨b,o,none⟩=false
variable {L' B' : Nat} {a : Option Addr}
end Go.Proofs.YtbofmlmdgkblkaaDoor
namespace Go.Proofs.YtbofmlmdgkblkaaDoor
open Go.RowKit
def Jp(l:List UInt8):List Value:=l.map fun b=>Value.int .u8 (b.toNat:Int)
theorem Zbo(l:List UInt8)(b:UInt8):Jp (l++[b])=Jp l++[Value.int .u8 (b.toNat:Int)]:=by simp[Jp]
def Zf(w:World)(L B:Nat)(a:Option Addr)(vs:List Value):Prop:=∀i (h:i<vs.length),∃b o,a=some ⟨b,o,none⟩/\(L<=b/\b<B)/\w.cell? ⟨b,o+i,none⟩=some vs[i]
theorem Zf.keepS{w w':World}{L B:Nat}{a:Option Addr}{xs:List Value}(h:Zf w L B a xs)(k:Yp L B w w'):Zf w' L B a xs:=fun i hi=>by
 obtain⟨b,o,e,hb,hc⟩:=h i hi;exact⟨b,o,e,hb,by rw[Xc (k b hb.1 hb.2)];exact hc⟩
theorem Tr{w:World}{base e:Nat}{v:Value}{n:Nat}{xs:List Value}(h:w.ownsRow base e 1 v n xs):∃a c,v=.slice a xs.length c/\Zf w base w.heap.size a xs:=by
 obtain⟨hl,h | ⟨g,cap,cur,rfl,hg,hh,hc,_,hs,ht⟩⟩:=h
 ·obtain⟨rfl,rfl⟩:=h
  have:xs=[]:=by simpa using hl
  subst this;exact⟨_,_,rfl,fun i hi=>absurd hi (by simp)⟩
 ·simp only[Nat.mul_one]at hl hs ht
  subst hl;refine⟨_,_,rfl,fun i hi=>⟨g,0,rfl,⟨hg,?_⟩,?_⟩⟩
  ·rcases Nat.lt_or_ge g w.heap.size with h1 | h1
   ·exact h1
   ·rw[Array.getElem?_eq_none h1]at hh;cases hh
  ·rw[Nat.zero_add,cell_of_row w g i cur e (0,0) hh,<-Array.getElem?_toList]
   have:=congrArg (fun l:List Value=>l[i]?) ht;simp only[List.getElem?_take,hi,if_true]at this;rw[this,List.getElem?_eq_getElem hi]
theorem ZbC(w:World)(vs:List Value)(t:TypeId):Zf (w.alloc (.cells vs.toArray t)) w.heap.size (w.heap.size+1) (some ⟨w.heap.size,0,none⟩) vs:=fun i hi =>
 ⟨_,0,rfl,⟨Nat.le_refl _,Nat.lt_succ_self _⟩,by simp[hi]⟩
def Yg(w:World)(L B:Nat)(a:Option Addr)(bs:List UInt8):Prop:=∀i (h:i<bs.length),∃b o,a=some ⟨b,o,none⟩/\(L<=b/\b<B)/\w.cell? ⟨b,o+i,none⟩=some (.int .u8 (bs[i].toNat:Int))
theorem Yg.keepS{w w':World}{L B:Nat}{a:Option Addr}{xs:List UInt8}(h:Yg w L B a xs)(k:Yp L B w w'):Yg w' L B a xs:=fun i hi=>by
 obtain⟨b,o,e,hb,hc⟩:=h i hi;exact⟨b,o,e,hb,by rw[Xc (k b hb.1 hb.2)];exact hc⟩
theorem Yg.keep{w w':World}{L B:Nat}{a:Option Addr}{xs:List UInt8}(h:Yg w L B a xs)(k:Below B w w'):Yg w' L B a xs:=h.keepS (Yp.of_below k)
theorem Zbt{w:World}{base e n:Nat}{v:Value}{bs:List UInt8}(h:w.ownsRow base e 1 v n (Jp bs)):∃a c L B,v=.slice a bs.length c/\Yg w L B a bs/\Ziw L B w/\((L=0/\B=0)\/(B=L+1/\base<=L/\L<w.heap.size)):=by
 obtain⟨hl,h0 | ⟨g,cap,cur,rfl,hg,hh,hc,_,hs,ht⟩⟩:=h
 ·have:bs=[]:=by
   have h2:=h0.2;subst h2;simpa [Jp]using hl
  subst this;exact⟨none,0,0,0,h0.1,fun i hi=>absurd hi (by simp),fun b o hb=>absurd hb (by omega),Or.inl ⟨rfl,rfl⟩⟩
 ·have hgl:g<w.heap.size:=(Array.getElem?_eq_some_iff.1 hh).1
  have hn:n=bs.length:=by simpa [Jp]using hl.symm
  subst hn;refine⟨_,_,g,g+1,rfl,fun i hi=>⟨g,0,rfl,⟨Nat.le_refl _,Nat.lt_succ_self _⟩,?_⟩,fun b o hb=>?_,Or.inr ⟨rfl,hg,hgl⟩⟩
  ·rw[Nat.zero_add,cell_of_row w g i cur e (0,0) hh,<-Array.getElem?_toList]
   have h3:=congrArg (fun l:List Value=>l[i]?) ht;simp only[List.getElem?_take,Nat.mul_one,hi,if_true]at h3;rw[h3];simp[Jp,hi]
  ·have:b=g:=by omega
   subst this;unfold World.frozen?;rw[hh];simp
theorem YW{w:World}{B B' e s n:Nat}{v:Value}{xs:List Value}(h:w.ownsRow B e s v n xs)(hb:B'<=B):w.ownsRow B' e s v n xs:=by
 obtain⟨hl,h0 | ⟨g,cap,cur,hv,hg,r⟩⟩:=h
 ·exact⟨hl,.inl h0⟩
 ·exact⟨hl,.inr ⟨g,cap,cur,hv,Nat.le_trans hb hg,r⟩⟩
end Go.Proofs.YtbofmlmdgkblkaaDoor
namespace Go.Proofs.YtbofmlmdgkblkaaDoor
set_option maxHeartbeats 1000000
set_option maxRecDepth 100000
open Go.RowKit
structure Sr where
 code:List UInt8
 pos:Nat
 mix:Int
 size:Int
def nextP(s:Sr)(n:Int):Int × Sr :=
 if n<=1 then (0,s)
 else if s.pos<s.code.length/\n<=256 then (((s.code.getD s.pos 0).toNat:Int) % n,{ s with pos:=s.pos+1 })
 else ((s.mix*1103+12347) % 1000003 / 3 % n,{ s with mix:=(s.mix*1103+12347) % 1000003 })
structure ZF(s:Sr):Prop where
 len:s.code.length<=4000
 pos:s.pos<=s.code.length
 mix:0<=s.mix/\s.mix<1000003
 size:1<=s.size/\s.size<=7
theorem Yr{s:Sr}(h:ZF s)(n:Int):ZF (nextP s n).2:=by
 unfold nextP;split
 ·exact h
 ·split
  ·rename_i h1
   exact⟨h.len,h1.1,h.mix,h.size⟩
  ·refine⟨h.len,h.pos,?_,h.size⟩
   show 0<=(s.mix*1103+12347) % 1000003/\(s.mix*1103+12347) % 1000003<1000003;omega
theorem XB(s:Sr){n:Int}(h:1<=n):0<=(nextP s n).1/\(nextP s n).1<n:=by
 unfold nextP;split
 ·exact⟨Int.le_refl _,by show(0:Int)<n;omega⟩
 ·split
  ·exact⟨Int.emod_nonneg _ (by omega),Int.emod_lt_of_pos _ (by omega)⟩
  ·exact⟨Int.emod_nonneg _ (by omega),Int.emod_lt_of_pos _ (by omega)⟩
structure ZC(w:World)(b L B:Nat)(s:Sr):Prop where
 c0:∃a c,w.cell? ⟨b,0,none⟩=some (.slice a s.code.length c)/\Yg w L B a s.code
 c1:w.cell? ⟨b,1,none⟩=some (.int .i64 s.pos)
 c2:w.cell? ⟨b,2,none⟩=some (.int .i64 s.mix)
 c3:w.cell? ⟨b,3,none⟩=some (.int .i64 s.size)
 thaw:∀q,w.frozen? ⟨b,q,none⟩=false
 out:¬(L<=b/\b<B)
theorem Un{w:World}{b q L B:Nat}{a:Option Addr}{bs:List UInt8}(v:Value)(hb:Yg w L B a bs)(ho:¬(L<=b/\b<B)):Yg (w.setCell ⟨b,q,none⟩ v) L B a bs:=hb.keepS (fun k h1 h2=>Below.heap_setCell _ _ _ _ (by show k≠b;intro e;exact ho (by omega)))
theorem XC(w:World)(b:Nat){o o':Nat}(h:o≠o')(v:Value):(w.setCell ⟨b,o,none⟩ v).cell? ⟨b,o',none⟩=w.cell? ⟨b,o',none⟩:=World.cell?_setCell_other _ _ _ _ (by intro e;injection e with _ e2;exact h e2)
theorem ZC.mix{w:World}{b L B:Nat}{s:Sr}(h:ZC w b L B s)(m:Int):ZC (w.setCell ⟨b,2,none⟩ (.int .i64 m)).drew b L B { s with mix:=m }:=by
 obtain⟨a,c,e0,hb⟩:=h.c0;exact⟨⟨a,c,(XC w b (by omega) _).trans e0,Un _ hb h.out⟩,(XC w b (by omega) _).trans h.c1,World.cell?_setCell_same w _ _ h.c2,(XC w b (by omega) _).trans h.c3,fun q=>by show(w.setCell _ _).frozen? _=false;rw[World.frozen?_setCell];exact h.thaw q,h.out⟩
theorem ZC.pos{w:World}{b L B:Nat}{s:Sr}(h:ZC w b L B s)(m:Nat):ZC (w.setCell ⟨b,1,none⟩ (.int .i64 m)).drew b L B { s with pos:=m }:=by
 obtain⟨a,c,e0,hb⟩:=h.c0;exact⟨⟨a,c,(XC w b (by omega) _).trans e0,Un _ hb h.out⟩,World.cell?_setCell_same w _ _ h.c1,(XC w b (by omega) _).trans h.c2,(XC w b (by omega) _).trans h.c3,fun q=>by show(w.setCell _ _).frozen? _=false;rw[World.frozen?_setCell];exact h.thaw q,h.out⟩
theorem ZC.drew{w:World}{b L B:Nat}{s:Sr}(h:ZC w b L B s):ZC w.drew b L B s:=⟨h.c0,h.c1,h.c2,h.c3,h.thaw,h.out⟩
theorem Uq(w:World)(b q:Nat)(v:Value):w.grownBy (w.setCell ⟨b,q,none⟩ v).drew (some b):=⟨rfl,rfl,rfl,by simp[World.setCell,World.drew],fun k _ hk=>Below.heap_setCell _ _ _ _ (fun e=>hk (by rw[e]))⟩
theorem Ze4(b L B:Nat)(s:Sr)(n:Int)(w:World)(hs:Hid (ZC w b L B s))(hk:Hid (ZF s))(hn:n<=1000000)(hn0:-1000000<=n) :
 Calls Tryd.prog 27 #[.pointer (some ⟨b,0,none⟩),.int .i64 n] w fun e w'=>e=.returned (.int .i64 (nextP s n).1)/\ZC w' b L B (nextP s n).2/\w.grownBy w' (some b):=by
 obtain⟨a,c,e0,hb⟩:=hs.c0;have e1:=hs.c1;have e2:=hs.c2;have z1:=hs.thaw 1;have z2:=hs.thaw 2;have HB:=Xa hb;clear hb;have hp:=hk.pos;have hl:=hk.len;have hm:=hk.mix;have HN:Hid (nextP s n=if n<=1 then (0,s)else if s.pos<s.code.length/\n<=256 then (((s.code.getD s.pos 0).toNat:Int) % n,{ s with pos:=s.pos+1 })else ((s.mix*1103+12347) % 1000003 / 3 % n,{ s with mix:=(s.mix*1103+12347) % 1000003 })):=Xa rfl;by_cases h1:n<=1
 ·have HR:Hid (nextP s n=(0,s)):=Xa (by rw[HN.out,if_pos h1])
  clear HN
  go_enter Tryd.func27,Tryd.ntmps27
  go_wp2
  go_ret
  rw[HR.out];exact⟨rfl,hs.out,⟨rfl,rfl,rfl,Nat.le_refl _,fun _ _ _=>rfl⟩⟩
 ·by_cases h2:s.pos<s.code.length/\n<=256
  ·have HR:Hid (nextP s n=(((s.code.getD s.pos 0).toNat:Int) % n,{ s with pos:=s.pos+1 })):=Xa (by rw[HN.out,if_neg h1,if_pos h2])
   obtain⟨h3,h4⟩:=h2;obtain⟨b',o',rfl,hbb,hc⟩:=HB.out s.pos h3;have HG:Hid (s.code.getD s.pos 0=s.code[s.pos]):=Xa (by simp[h3]);have hby:s.code[s.pos].toNat<256:=UInt8.toNat_lt _;have HC0:=Xa hs.out;generalize s.code[s.pos]=by0 at *;generalize hbn:by0.toNat=bn at *;have hrem:((bn:Nat):Int).tmod n=(bn:Int) % n:=Int.tmod_eq_emod_of_nonneg (by omega);clear HN hbb;have hlt:(s.pos:Int)<(s.code.length:Int):=by omega
   generalize hcl:s.code.length=cl at *
   go_enter Tryd.func27,Tryd.ntmps27
   go_wp2
   go_region
   go_wp2
   go_region
   go_wp2
   go_ret
   rw[HR.out];have hsp:=(hs.pos (s.pos+1)).drew;have hgs:=(Uq w b 1 (.int .i64 ((s.pos+1:Nat):Int)));rw[Int.natCast_add]at hsp hgs;refine⟨?_,hsp,⟨hgs.os,hgs.tape,hgs.output,hgs.size,hgs.block⟩⟩;rw[HG.out,hbn];rfl
  ·have HR:Hid (nextP s n=((s.mix*1103+12347) % 1000003 / 3 % n,{ s with mix:=(s.mix*1103+12347) % 1000003 })):=Xa (by rw[HN.out,if_neg h1,if_neg h2])
   have hrem:(s.mix*1103+12347).tmod 1000003=(s.mix*1103+12347) % 1000003:=Int.tmod_eq_emod_of_nonneg (by omega);have hq:((s.mix*1103+12347) % 1000003).tdiv 3=(s.mix*1103+12347) % 1000003 / 3:=Int.tdiv_eq_ediv_of_nonneg (by omega);have hr2:((s.mix*1103+12347) % 1000003 / 3).tmod n=(s.mix*1103+12347) % 1000003 / 3 % n:=Int.tmod_eq_emod_of_nonneg (by omega);clear HN;by_cases h3:s.pos<s.code.length
   ·have h4:¬n<=256:=fun h4=>h2 ⟨h3,h4⟩
    clear h2;have hlt:(s.pos:Int)<(s.code.length:Int):=by omega
    generalize hcl:s.code.length=cl at *
    go_enter Tryd.func27,Tryd.ntmps27
    go_wp2
    go_region
    go_wp2
    go_ret
    rw[HR.out];exact⟨rfl,hs.mix _,Uq _ _ _ _⟩
   ·clear h2
    have hlt:¬(s.pos:Int)<(s.code.length:Int):=by omega
    generalize hcl:s.code.length=cl at *
    go_enter Tryd.func27,Tryd.ntmps27
    go_wp2
    go_region
    go_wp2
    go_ret
    rw[HR.out];exact⟨rfl,hs.mix _,Uq _ _ _ _⟩
end Go.Proofs.YtbofmlmdgkblkaaDoor
namespace Go.Proofs.YtbofmlmdgkblkaaDoor
structure Mv where
 to:Int
 frm:Int
def ZiH(L:List Mv)(t:Int):List Mv:=L.filter fun m=>m.to != t
def Jv(c:List UInt8)(m:Int):Int:=c.foldl (fun m b=>(m*257+(b.toNat:Int)+1) % 1000003) m
def UW(bs:List UInt8):Sr:=⟨bs.take 4000,0,Jv (bs.take 4000) (((bs.length % 1000:Nat):Int)+29),if 1+(((bs.take 4000).length:Nat):Int) / 50 > 7 then 7 else 1+(((bs.take 4000).length:Nat):Int) / 50⟩
theorem UZ:∀(c:List UInt8)(m:Int),0<=m->m<1000003->0<=Jv c m/\Jv c m<1000003
 | [],m,h0,h1=>⟨h0,h1⟩
 | b::c,m,h0,h1=>UZ c _ (Int.emod_nonneg _ (by decide)) (Int.emod_lt_of_pos _ (by decide))
theorem ZbB(c:List UInt8)(m:Int)(j:Nat)(h:j<c.length):Jv (c.take (j+1)) m=(Jv (c.take j) m*257+(c[j].toNat:Int)+1) % 1000003:=by
 unfold Jv;rw[List.take_succ_eq_append_getElem h,List.foldl_append];rfl
theorem Zg2(bs:List UInt8):ZF (UW bs):=by
 refine⟨?_,Nat.zero_le _,UZ _ _ (by omega) (by have:=Nat.mod_lt bs.length (show 0<1000 by decide);omega),?_⟩
 ·show(bs.take 4000).length<=4000
  rw[List.length_take];omega
 ·unfold UW
  dsimp only;split<;>omega
theorem Zbn{T:Type}(xs:List T)(d:T){i:Nat}(h:i<xs.length):xs.getD i d∈xs:=by
 rw[show xs.getD i d=xs[i] by simp[h]];exact List.getElem_mem h
end Go.Proofs.YtbofmlmdgkblkaaDoor
namespace Go.Proofs.YtbofmlmdgkblkaaDoor
set_option maxHeartbeats 2000000
set_option maxRecDepth 100000
open Go.RowKit
theorem Tryd.infoBy:(Tryd.prog.info? 5).map (fun i=>(i.zero,i.size,i.bytes))=some (some (.int .u8 0),1,1):=by kernel_rfl
theorem Xp{P:Program}{t:Nat}{z:Value}{s b:Nat}(h:(P.info? t).map (fun i=>(i.zero,i.size,i.bytes))=some (some z,s,b)):∃i,P.info? t=some i/\i.zero=some z/\i.size=s/\i.bytes=b:=by
 cases hi:P.info? t with
 | none=>rw[hi]at h;cases h
 | some i =>
  rw[hi]at h;simp only[Option.map_some,Option.some.injEq,Prod.mk.injEq]at h;exact⟨i,rfl,h.1,h.2.1,h.2.2⟩
theorem Kl{P:Program}{ops:Array Oper}{w:World}{o:Oper}{a:Act}{K:Act->World->Prop}{Q:Exit->Act->World->Prop}{E:Prop}(hgd:o.guard=none)(s x:Operand)(t:TypeId)
 (ho:o.op=.call { callee:=.builtin .append,args:=#[s,x],argTypes:=#[t,t] })
 (base:Nat) (e:TypeId) (i:TypeInfo) (z:Value) (size bytes:Nat) (ht:P.underlying t=some (.slice e)) (hi:P.info? e=some i) (hz:i.zero=some z)
 (hsize:i.size=size) (hby:i.bytes=bytes) (hzs:z.cells.size=size) (hsz:0<size)
 (v:Value) (n:Nat) (xs:List Value) (hs:a.eval s=v) (hown:w.ownsRow base e size v n xs)
 (ad:Addr) (m c:Nat) (news:List Value) (hx:a.eval x=.slice (some ad) m c) (hl:news.length=m*size) (hnews:∀j u,news[j]?=some u->w.cell? (ad.add j)=some u) (h1:∀u∈news,u.oneCell'=true)
 (h63:n+m<=maxLen) (hbytes:(n+m)*bytes<=140737488355328) (hbase:base<=w.heap.size)
 (h:∀v' w',w'.ownsRow base e size v' (n+m) (xs++news)->w.grownBy w' v.ownBlock->(v'=.slice none 0 0↔v=.slice none 0 0/\m=0)->(v'.ownBlock=v.ownBlock\/v'.ownBlock=some w.heap.size)->K (a.put o.dst v') w') :
 if Region.wanted o (yielded ops a.tmps)=true then Oper.wp P o a w K Q else E:=by
 have hw:Region.wanted o (yielded ops a.tmps)=true:=by simp[Region.wanted,hgd]
 rw[if_pos hw];obtain⟨v',w',hr,h2,h3,h4,h5⟩:=run_append_own_at (P:=P) w base t o.type e i z size bytes ht hi hz hsize hby hzs hsz v n xs hown ad m c news hl hnews h1 h63 hbytes hbase;unfold Oper.wp execOp;simp only[ho,resolve,invoke,builtin,Sem.run_bind,Sem.run_pure,Result.andThen_ok,List.map_toArray,List.map_cons,List.map_nil,hs,hx,hr];exact h v' w' h2 h3 h4 h5
structure Zay(w wr:World)(bs:List UInt8)(j:Nat)(v:Value):Prop where
 low:Below w.heap.size w wr
 size:w.heap.size+1<=wr.heap.size
 c0:wr.cell? ⟨w.heap.size,0,none⟩=some v
 c1:wr.cell? ⟨w.heap.size,1,none⟩=some (.int .i64 0)
 c2:wr.cell? ⟨w.heap.size,2,none⟩=some (.int .i64 0)
 c3:wr.cell? ⟨w.heap.size,3,none⟩=some (.int .i64 0)
 thaw:∀q,wr.frozen? ⟨w.heap.size,q,none⟩=false
 own:wr.ownsRow (w.heap.size+1) 5 1 v j (Jp (bs.take j))
theorem Zay.drew{w wr:World}{bs:List UInt8}{j:Nat}{v:Value}(h:Zay w wr bs j v):Zay w wr.drew bs j v:=⟨h.low.drew,h.size,h.c0,h.c1,h.c2,h.c3,h.thaw,h.own⟩
theorem Zay.step{w wr W w8:World}{bs:List UInt8}{j:Nat}{v v8:Value}(h:Zay w wr bs j v)(hj:j<bs.length)(hg:wr.grownBy W none)(hg8:W.grownBy w8 v.ownBlock)
 (ho:w8.ownsRow (w.heap.size+1) 5 1 v8 (j+1) (Jp (bs.take j)++[.int .u8 (bs[j].toNat:Int)])):Zay w (w8.setCell ⟨w.heap.size,0,none⟩ v8) bs (j+1) v8/\Below w.heap.size w w8/\(∀q,w8.frozen? ⟨w.heap.size,q,none⟩=false)/\w8.cell? ⟨w.heap.size,0,none⟩=some v/\∃g c,v8=.slice (some ⟨g,0,none⟩) (j+1) c:=by
 have hn:some w.heap.size≠v.ownBlock:=fun e=>by have:=(h.own.lt _ e.symm).1;omega
 have hs:=h.size;have hb:w8.heap[w.heap.size]?=wr.heap[w.heap.size]?:=(hg8.block _ (by have:=hg.size;omega) hn).trans (hg.block _ (by omega) (by simp));have l8:Below w.heap.size w w8:=((h.low.grown hg (by omega) (fun k e=>by cases e)).grown hg8 (by have:=hg.size;omega) (fun k e=>by have:=(h.own.lt _ e).1;omega));have ce:∀q,w8.cell? ⟨w.heap.size,q,none⟩=wr.cell? ⟨w.heap.size,q,none⟩:=fun q=>World.cell?_of_block hb
 have fe:∀q,w8.frozen? ⟨w.heap.size,q,none⟩=false:=fun q=>(World.frozen?_of_block hb).trans (h.thaw q)
 refine⟨⟨l8.setCell (Nat.le_refl _) _,?_,World.cell?_setCell_same _ _ _ ((ce 0).trans h.c0),(XC _ _ (by omega) _).trans ((ce 1).trans h.c1),(XC _ _ (by omega) _).trans ((ce 2).trans h.c2),(XC _ _ (by omega) _).trans ((ce 3).trans h.c3),fun q=>by rw[World.frozen?_setCell];exact fe q,?_⟩,l8,fe,(ce 0).trans h.c0,?_⟩
 ·rw[Xd];have:=hg.size;have:=hg8.size;omega
 ·refine ownsRow_setCell_below ?_ (by show w.heap.size<_;omega) _
  rw[List.take_succ_eq_append_getElem hj,Zbo];exact ho
 ·rcases ho.2 with⟨_,h0⟩ | ⟨g,cap,_,e,_⟩
  ·omega
  ·exact⟨g,cap,e⟩
theorem Yg.wide{w:World}{L B L' B':Nat}{a:Option Addr}{bs:List UInt8}(h:Yg w L B a bs)(h1:L'<=L)(h2:B<=B'):Yg w L' B' a bs:=fun i hi=>by
 obtain⟨b,o,e,hb,hc⟩:=h i hi;exact⟨b,o,e,by omega,hc⟩
theorem Zay.done{w wr:World}{bs:List UInt8}{j:Nat}{v:Value}(h:Zay w wr bs j v)(hj:bs.take j=bs.take 4000):∃a c,v=.slice a (bs.take 4000).length c/\ZC wr w.heap.size (w.heap.size+1) wr.heap.size ⟨bs.take 4000,0,0,0⟩:=by
 have ho:=h.own;rw[hj]at ho;obtain⟨a,c,L,B,e,hb,-,hL⟩:=Zbt ho;subst e;refine⟨a,c,rfl,⟨⟨a,c,h.c0,?_⟩,h.c1,h.c2,h.c3,h.thaw,by omega⟩⟩;rcases hL with⟨rfl,rfl⟩ | ⟨rfl,h1,h2⟩
 ·exact fun i hi=>by obtain⟨b,o,_,h2,_⟩:=hb i hi;omega
 ·exact hb.wide h1 h2
theorem ZC.undrew{w:World}{b L B:Nat}{s:Sr}(h:ZC w.drew b L B s):ZC w b L B s:=⟨h.c0,h.c1,h.c2,h.c3,h.thaw,h.out⟩
theorem ZC.siz{w:World}{b L B:Nat}{s:Sr}(h:ZC w b L B s)(m:Int):ZC (w.setCell ⟨b,3,none⟩ (.int .i64 m)) b L B { s with size:=m }:=by
 obtain⟨a,c,e0,hb⟩:=h.c0;exact⟨⟨a,c,(XC w b (by omega) _).trans e0,Un _ hb h.out⟩,(XC w b (by omega) _).trans h.c1,(XC w b (by omega) _).trans h.c2,World.cell?_setCell_same w _ _ h.c3,fun q=>by show(w.setCell _ _).frozen? _=false;rw[World.frozen?_setCell];exact h.thaw q,h.out⟩
theorem Zb5(w:World)(o:Obj):w.grownBy (w.alloc o).drew none:=⟨rfl,rfl,rfl,(World.grownBy_alloc w o none).size,fun k h1 h2=>(World.grownBy_alloc w o none).block k h1 h2⟩
theorem Xz(w:World)(u:Value)(ty:Nat):∀j x,([u]:List Value)[j]?=some x->(w.alloc (.cells #[u] ty)).cell? ((⟨w.heap.size,0,none⟩:Addr).add j)=some x:=fun j x hj=>by
 have ha:(⟨w.heap.size,0,none⟩:Addr).add j=⟨w.heap.size,j,none⟩:=by unfold Addr.add;split<;>simp_all
 rw[ha]
 match j,hj with
 | 0,hj=>simpa using hj
 | j+1,hj=>cases hj
theorem Zcp(a:Option Addr)(n c:Nat)(bs:List UInt8)(L B:Nat)(w:World)(ha:Hid (Yg w L B a bs))(hx:Hid (n=bs.length))(hn:n<=1048576)(hB:B<=w.heap.size) :
 Calls Tryd.prog 12 #[.slice a n c] w fun e w'=>e=.returned (.pointer (some ⟨w.heap.size,0,none⟩))/\Below w.heap.size w w'/\w.heap.size+1<=w'.heap.size/\ZC w' w.heap.size (w.heap.size+1) w'.heap.size (UW bs):=by
 obtain⟨i0,hi0,hz0,hz1,hz2⟩:=Xp Tryd.infoBy
 go_enter Tryd.func12,Tryd.ntmps12
 go_wp2
 go_loopw [4] (fun u wr=>∃j:Nat,j<=n/\j<=4000/\u=.int .i64 j/\∃v,Hid (Zay w wr bs j v)) (fun u _=>n-(intOf u).toNat)
 case atStart=>exact⟨0,Nat.zero_le _,Nat.zero_le _,rfl,.slice none 0 0,Xa (by
  refine⟨Xb (Below.refl _ _) _,by simp,by simp[go_sem],by simp[go_sem],by simp[go_sem],by simp[go_sem],fun q=>by simp[go_sem],?_⟩;rw[List.take_zero];exact World.ownsRow_nil _ _ _ _)⟩
 case round =>
  obtain⟨j,hj,hj4,rfl,v,HS⟩:=hrel;by_cases hlt:j<n/\j<4000
  ·obtain⟨hlt,hlt4⟩:=hlt
   have hjx:j<bs.length:=by have:=hx.out;omega
   obtain⟨b,o,rfl,hbB,ejw⟩:=ha.out j hjx;have ej:=(Yn HS.low (by omega)).trans ejw;have hsz:=HS.size;have e0:=HS.c0;have e0a:∀ob,(wr.alloc ob).cell? ⟨w.heap.size,0,none⟩=some v:=fun ob=>(World.cell?_alloc_lt _ _ _ (by show w.heap.size<_;omega)).trans e0
   have hbn:b≠w.heap.size:=by omega
   have HGr:Hid (∀w8,Below w.heap.size w w8->w8.cell? ⟨b,o+j,none⟩=some (.int .u8 (bs[j].toNat:Int))):=Xa (fun w8 h8=>(Yn h8 (by omega)).trans ejw);clear ejw;go_wp2;refine YS (fun w'=>w'.cell? ⟨b,o+j,none⟩=some (.int .u8 (bs[j].toNat:Int))) (fun hHeld=>?_);refine Xr 0 ?_;refine Xr 2 ?_;refine Xr 3 ?_;refine Xr 4 ?_;refine Xr 5 ?_;refine wpAnyH_ready (rs:=[1,6]) (by kernel_rfl) (by simp) ?_;refine(AllReadyH.cons rfl (fun K hK=>?_) (AllReadyH.cons rfl (fun K hK=>?_) AllReadyH.nil))
   ·skip
    go_simp;refine hK _ _ (by first | with_reducible exact hHeld | ((try dsimp only);go_keep)) (fun hHeld=>?_);clear hK
    try simp only[Act.put,xA,xB,xC,xD,xE,xF]
    refine Xs 6 (fun K hK=>?_);go_simp;refine hK _ _ (by first | with_reducible exact hHeld | ((try dsimp only);go_keep)) (fun hHeld=>?_);clear hK;refine Xs 7 (fun K hK=>?_);refine Kl rfl (.tmp 18) (.tmp 23) 22 rfl (w.heap.size+1) 5 i0 (.int .u8 0) 1 1 Tryd.underlying22 hi0 hz0 hz1 hz2 rfl (by decide) v j (Jp (bs.take j)) (by simp[Act.eval]) (HS.drew.own.alloc _) ⟨wr.heap.size,0,none⟩ 1 1 [.int .u8 (bs[j].toNat:Int)] (by simp[Act.eval]) rfl (Xz _ _ _) (by intro u hu;simp at hu;subst hu;rfl) (by unfold maxLen;omega) (by omega) (by(try simp);omega) ?_;rintro v8 w8 hown8 hg8 - -;have HS8:=HS.step hjx (Zb5 wr _) hg8 hown8;obtain⟨hs8,hl8,hf8,hc8,g8,c8,rfl⟩:=HS8;have HS9:=Xa hs8;have ej8:=HGr.out _ hl8;have hf80:=hf8 0;clear hown8 hg8 hs8 hl8 hf8;refine hK _ _ (by first | with_reducible exact hHeld | ((try dsimp only);go_keep)) (fun hHeld=>?_);clear hK;refine Xr 8 ?_;refine Xs 9 (fun K hK=>?_);go_simp;refine hK _ _ ((World.cell?_setCell_far _ _ _ _ (Ne.symm hbn)).trans ej8) (fun hHeld=>?_);clear hK;refine Y5 ?_;go_wp2;exact⟨⟨j+1,by omega,by omega,by go_num,_,Xa HS9.out⟩,by simp[intOf];omega⟩
   ·skip
    go_simp;refine hK _ _ (by first | with_reducible exact hHeld | ((try dsimp only);go_keep)) (fun hHeld=>?_);clear hK
    try simp only[Act.put,xA,xB,xC,xD,xE,xF]
    refine Xs 1 (fun K hK=>?_);go_simp;refine hK _ _ (by first | with_reducible exact hHeld | ((try dsimp only);go_keep)) (fun hHeld=>?_);clear hK;refine Xs 7 (fun K hK=>?_);refine Kl rfl (.tmp 18) (.tmp 23) 22 rfl (w.heap.size+1) 5 i0 (.int .u8 0) 1 1 Tryd.underlying22 hi0 hz0 hz1 hz2 rfl (by decide) v j (Jp (bs.take j)) (by simp[Act.eval]) (HS.drew.own.alloc _) ⟨wr.heap.size,0,none⟩ 1 1 [.int .u8 (bs[j].toNat:Int)] (by simp[Act.eval]) rfl (Xz _ _ _) (by intro u hu;simp at hu;subst hu;rfl) (by unfold maxLen;omega) (by omega) (by(try simp);omega) ?_;rintro v8 w8 hown8 hg8 - -;have HS8:=HS.step hjx (Zb5 wr _) hg8 hown8;obtain⟨hs8,hl8,hf8,hc8,g8,c8,rfl⟩:=HS8;have HS9:=Xa hs8;have ej8:=HGr.out _ hl8;have hf80:=hf8 0;clear hown8 hg8 hs8 hl8 hf8;refine hK _ _ (by first | with_reducible exact hHeld | ((try dsimp only);go_keep)) (fun hHeld=>?_);clear hK;refine Xr 8 ?_;refine Xs 9 (fun K hK=>?_);go_simp;refine hK _ _ ((World.cell?_setCell_far _ _ _ _ (Ne.symm hbn)).trans ej8) (fun hHeld=>?_);clear hK;refine Y5 ?_;go_wp2;exact⟨⟨j+1,by omega,by omega,by go_num,_,Xa HS9.out⟩,by simp[intOf];omega⟩
  ·have HE:Hid (bs.take j=bs.take 4000):=Xa (by
    have:=hx.out;by_cases h4:j=4000
    ·rw[h4]
    ·rw[List.take_of_length_le (by omega),List.take_of_length_le (by omega)])
   obtain⟨av,cv,rfl,hat⟩:=HS.done HE.out;have HA:=Xa hat;have HLO:=Xa HS.low;have HSZ:=Xa HS.size;have HX:=Xa (show(((n:Int) % 1000)+29)=(((bs.length % 1000:Nat):Int)+29) by have:=hx.out;omega);clear hat HE HS;have e0:=HA.c2;have e2:=HA.c2;have z2:=HA.thaw 2;dsimp only at e2;by_cases hlt1:j<n
   ·have hlt4:¬j<4000:=fun h=>hlt ⟨hlt1,h⟩
    go_wp2;clear e2 z2 e0;generalize wr=wo at *
    go_loopw [5] (fun u wq=>∃i:Nat,i<=(bs.take 4000).length/\u=.int .i64 i/\Hid (Below w.heap.size w wq)/\Hid (wq.heap.size=wo.heap.size)/\Hid (ZC wq w.heap.size (w.heap.size+1) wo.heap.size ⟨bs.take 4000,0,Jv ((bs.take 4000).take i) (((bs.length % 1000:Nat):Int)+29),0⟩)) (fun u _=>(bs.take 4000).length-(intOf u).toNat)
    case atStart=>exact⟨0,Nat.zero_le _,rfl,Xa (HLO.setCell (Nat.le_refl _) _),Xa (Xd _ _ _),Xa (by
     rw[List.take_zero,HX.out];exact(HA.mix (((bs.length % 1000:Nat):Int)+29)).undrew)⟩
    case round =>
     obtain⟨i,hi,rfl,HBq,HZ,HQ⟩:=hrel;obtain⟨aq,cq,e0,hbq⟩:=HQ.c0;have e2:=HQ.c2;have e3:=HQ.c3;have z2:=HQ.thaw 2;have z3:=HQ.thaw 3;dsimp only at e0 e2 e3 hbq;have hmr:=UZ ((bs.take 4000).take i) (((bs.length % 1000:Nat):Int)+29) (by omega) (by have:=Nat.mod_lt bs.length (show 0<1000 by decide);omega);have HM1:Hid (∀h:i<(bs.take 4000).length,Jv ((bs.take 4000).take (i+1)) (((bs.length % 1000:Nat):Int)+29)=(Jv ((bs.take 4000).take i) (((bs.length % 1000:Nat):Int)+29)*257+((bs.take 4000)[i].toNat:Int)+1) % 1000003):=Xa (fun h=>ZbB _ _ i h);have HE2:Hid (i=(bs.take 4000).length->Jv ((bs.take 4000).take i) (((bs.length % 1000:Nat):Int)+29)=Jv (bs.take 4000) (((bs.length % 1000:Nat):Int)+29)):=Xa (fun h=>by rw[h,List.take_length]);have HSR:Hid (UW bs=⟨bs.take 4000,0,Jv (bs.take 4000) (((bs.length % 1000:Nat):Int)+29),if 1+(((bs.take 4000).length:Nat):Int) / 50 > 7 then 7 else 1+(((bs.take 4000).length:Nat):Int) / 50⟩):=Xa rfl;have hlen:(bs.take 4000).length<=4000:=by rw[List.length_take];omega
     generalize (((bs.length % 1000:Nat):Int)+29)=m0 at *;generalize hmx:Jv ((bs.take 4000).take i) m0=mx at *;generalize bs.take 4000=cd at *;have HBB:=Xa hbq;clear hbq hmx;by_cases hlt2:i<cd.length
     ·obtain⟨bq,oq,rfl,hbB,ec⟩:=HBB.out i hlt2
      have HM:=Xa (HM1.out hlt2);have hby:cd[i].toNat<256:=UInt8.toNat_lt _;generalize cd[i]=by0 at *;generalize by0.toNat=bn at *;have hrem:(mx*257+(bn:Int)+1).tmod 1000003=(mx*257+(bn:Int)+1) % 1000003:=Int.tmod_eq_emod_of_nonneg (by omega);have hlt2':(i:Int)<(cd.length:Int):=by omega
      clear HM1 HE2 HSR;generalize hcl:cd.length=cl at *;go_wp2
      go_region
      go_wp2;exact⟨⟨i+1,by omega,by go_num,Xa (HBq.setCell (Nat.le_refl _) _).drew,Xa ((Xd _ _ _).trans HZ.out),Xa (by rw[HM.out];exact HQ.mix _)⟩,by simp[intOf];omega⟩
     ·have hie:i=cd.length:=by omega
      have HF:Hid (ZC wr w.heap.size (w.heap.size+1) wo.heap.size ⟨cd,0,Jv cd m0,0⟩):=Xa (by rw[<-HE2.out hie];exact HQ.out);have HSR2:=HSR;clear HE2 HM1 HQ HBB HSR;have HSR:=HSR2;clear HSR2;generalize hcl:cd.length=cl at *;have hsz:=HLO.size;by_cases h7:1+(cl:Int) / 50 > 7
      ·have HR:=Xa (HSR.trans (by rw[if_pos h7]))
       go_wp2
       go_ret
       refine⟨rfl,(HBq.setCell (Nat.le_refl _) _).setCell (Nat.le_refl _) _,?_,?_⟩
       ·rw[Xd,Xd,HZ.out];exact HSZ.out
       ·rw[Xd,Xd,HZ.out,HR.out]
        exact(HF.siz _).siz _
      ·have HR:=Xa (HSR.trans (by rw[if_neg h7]))
       go_wp2
       go_ret
       refine⟨rfl,HBq.setCell (Nat.le_refl _) _,?_,?_⟩
       ·rw[Xd,HZ.out];exact HSZ.out
       ·rw[Xd,HZ.out,HR.out]
        exact HF.siz _
   ·skip
    go_wp2;clear e2 z2 e0;generalize wr=wo at *
    go_loopw [5] (fun u wq=>∃i:Nat,i<=(bs.take 4000).length/\u=.int .i64 i/\Hid (Below w.heap.size w wq)/\Hid (wq.heap.size=wo.heap.size)/\Hid (ZC wq w.heap.size (w.heap.size+1) wo.heap.size ⟨bs.take 4000,0,Jv ((bs.take 4000).take i) (((bs.length % 1000:Nat):Int)+29),0⟩)) (fun u _=>(bs.take 4000).length-(intOf u).toNat)
    case atStart=>exact⟨0,Nat.zero_le _,rfl,Xa (HLO.setCell (Nat.le_refl _) _),Xa (Xd _ _ _),Xa (by
     rw[List.take_zero,HX.out];exact(HA.mix (((bs.length % 1000:Nat):Int)+29)).undrew)⟩
    case round =>
     obtain⟨i,hi,rfl,HBq,HZ,HQ⟩:=hrel;obtain⟨aq,cq,e0,hbq⟩:=HQ.c0;have e2:=HQ.c2;have e3:=HQ.c3;have z2:=HQ.thaw 2;have z3:=HQ.thaw 3;dsimp only at e0 e2 e3 hbq;have hmr:=UZ ((bs.take 4000).take i) (((bs.length % 1000:Nat):Int)+29) (by omega) (by have:=Nat.mod_lt bs.length (show 0<1000 by decide);omega);have HM1:Hid (∀h:i<(bs.take 4000).length,Jv ((bs.take 4000).take (i+1)) (((bs.length % 1000:Nat):Int)+29)=(Jv ((bs.take 4000).take i) (((bs.length % 1000:Nat):Int)+29)*257+((bs.take 4000)[i].toNat:Int)+1) % 1000003):=Xa (fun h=>ZbB _ _ i h);have HE2:Hid (i=(bs.take 4000).length->Jv ((bs.take 4000).take i) (((bs.length % 1000:Nat):Int)+29)=Jv (bs.take 4000) (((bs.length % 1000:Nat):Int)+29)):=Xa (fun h=>by rw[h,List.take_length]);have HSR:Hid (UW bs=⟨bs.take 4000,0,Jv (bs.take 4000) (((bs.length % 1000:Nat):Int)+29),if 1+(((bs.take 4000).length:Nat):Int) / 50 > 7 then 7 else 1+(((bs.take 4000).length:Nat):Int) / 50⟩):=Xa rfl;have hlen:(bs.take 4000).length<=4000:=by rw[List.length_take];omega
     generalize (((bs.length % 1000:Nat):Int)+29)=m0 at *;generalize hmx:Jv ((bs.take 4000).take i) m0=mx at *;generalize bs.take 4000=cd at *;have HBB:=Xa hbq;clear hbq hmx;by_cases hlt2:i<cd.length
     ·obtain⟨bq,oq,rfl,hbB,ec⟩:=HBB.out i hlt2
      have HM:=Xa (HM1.out hlt2);have hby:cd[i].toNat<256:=UInt8.toNat_lt _;generalize cd[i]=by0 at *;generalize by0.toNat=bn at *;have hrem:(mx*257+(bn:Int)+1).tmod 1000003=(mx*257+(bn:Int)+1) % 1000003:=Int.tmod_eq_emod_of_nonneg (by omega);have hlt2':(i:Int)<(cd.length:Int):=by omega
      clear HM1 HE2 HSR;generalize hcl:cd.length=cl at *;go_wp2
      go_region
      go_wp2;exact⟨⟨i+1,by omega,by go_num,Xa (HBq.setCell (Nat.le_refl _) _).drew,Xa ((Xd _ _ _).trans HZ.out),Xa (by rw[HM.out];exact HQ.mix _)⟩,by simp[intOf];omega⟩
     ·have hie:i=cd.length:=by omega
      have HF:Hid (ZC wr w.heap.size (w.heap.size+1) wo.heap.size ⟨cd,0,Jv cd m0,0⟩):=Xa (by rw[<-HE2.out hie];exact HQ.out);have HSR2:=HSR;clear HE2 HM1 HQ HBB HSR;have HSR:=HSR2;clear HSR2;generalize hcl:cd.length=cl at *;have hsz:=HLO.size;by_cases h7:1+(cl:Int) / 50 > 7
      ·have HR:=Xa (HSR.trans (by rw[if_pos h7]))
       go_wp2
       go_ret
       refine⟨rfl,(HBq.setCell (Nat.le_refl _) _).setCell (Nat.le_refl _) _,?_,?_⟩
       ·rw[Xd,Xd,HZ.out];exact HSZ.out
       ·rw[Xd,Xd,HZ.out,HR.out]
        exact(HF.siz _).siz _
      ·have HR:=Xa (HSR.trans (by rw[if_neg h7]))
       go_wp2
       go_ret
       refine⟨rfl,HBq.setCell (Nat.le_refl _) _,?_,?_⟩
       ·rw[Xd,HZ.out];exact HSZ.out
       ·rw[Xd,HZ.out,HR.out]
        exact HF.siz _
end Go.Proofs.YtbofmlmdgkblkaaDoor
