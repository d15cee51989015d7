import Derived.Test.YtffcajcgkblkoaaGreatDoorTA
import Derived.Deep.Slices
import Derived.Laws.AppendOwnNone
import Derived.OwnWalk
import Derived.Lib.ItoaMem
import Derived.Lib.UnsafeStr
import Derived.Laws.OwnMore
import Derived.Deep.AppendLies
import Derived.RangeFuncNested
import Derived.RangeFuncBound
import Derived.RangeFuncCalls
import Derived.RangeFuncLeaves
import Derived.Shelf.Abstract
import Derived.Shelf.RegionOpen
import Derived.OwnWalkIn
import Derived.TacticsInMore
import Derived.LoopNIn
import Derived.LoopIn
import Derived.OrdersIn
import Derived.OrdersHeld
namespace Go.Proofs.YtffcajcgkblkoaaGreatDoor
set_option maxHeartbeats 2000000
set_option maxRecDepth 100000
open Go.RowKit Go.Proofs.Tryz Go.Shelf
variable{t:Int}{l:List Int}{y:List Value}{n m k B g j c:Nat}{d:Nat->Prop}{p:Option Addr}{R:Program}{a A:Value}{w v u:World}
structure Mv where
 to:Int
 frm:Int
def bu(L:List Mv)(r:Int):Bool:=L.any λm=>m.frm==r
def aw:List Int->Option Int
 |[]=>none
 |x::xs=>match aw xs with
  |none=>some x
  |some y=>some<|if x<y then x else y
theorem ie:aw l=none↔l=[]:=by
 cases l with
 |nil=>simp[aw]
 |cons x l=>
  simp only[aw];cases aw l<;>simp
theorem iP:∀{b:List Int}{y:Int},aw b=some y->y∈b/\∀x∈b,y<=x
 |[],y,h=>by cases h
 |x::b,y,h=>by
  simp only[aw]at h;cases hl:aw b with
  |none=>
   rw[hl]at h;have e:=ie.1 hl;subst e;cases h;simp
  |some z=>
   rw[hl]at h;let⟨d,c⟩:=iP hl;simp only[Option.some.injEq]at h;split at h
   .subst h
    rename_i f;exact⟨cI,λu a=>by
     rcases cH.1 a with rfl|a;·exact Int.le_refl _
     have:=c u a;omega⟩
   subst h
   rename_i f;exact⟨cN _ d,λu a=>by
    rcases cH.1 a with rfl|a;·omega
    exact c u a⟩
theorem vB(a:t∈l)(e:∀x∈l,t<=x):aw l=some t:=by
 cases h:aw l with
 |none=>rw[ie.1 h]at a;cases a
 |some z=>
  let⟨c,d⟩:=iP h;have f:=e z c;have b:=d t a;rw[show z=t by omega]
def ah(L:List Mv):List Int:=L.map (·.to)
def dq(L:List Mv):List Int:=(ah L).filter λt=>!bu L t
def Io(m:Mv):Yg:=if m.frm<0 then ⟨13,m.to,0,0,0⟩else ⟨11,m.to,m.frm,0,0⟩
def lm(L:List Mv)(t:Int):Int:=((L.find? λm=>m.to==t).map (·.frm)).getD 0
def d6(L:List Mv)(t:Int):List Mv:=L.filter λm=>m.to != t
def scratch(L:List Mv)(r:Int):List Mv:=L.map λm=>if m.frm=r then ⟨m.to,-1⟩else m
def b9(L:List Mv):Yg×List Mv:=match aw (dq L)with
 |some t=>(Io ⟨t,lm L t⟩,d6 L t)
 |none=>match aw (ah L)with
  |some r=>(⟨12,0,r,0,0⟩,scratch L r)
  |none=>(⟨0,0,0,0,0⟩,[])
def dh:Nat->List Mv->List Yg
 |0,_=>[]
 |_+1,[]=>[]
 |k+1,m::L=>(b9 (m::L)).1::dh k (b9 (m::L)).2
theorem oZ(k:Nat):dh k []=[]:=by cases k<;>rfl
theorem oW(k:Nat){L:List Mv}(h:L≠[]):dh (k+1) L=(b9 L).1::dh k (b9 L).2:=by
 cases L with
 |nil=>exact absurd rfl h
 |cons m L=>rfl
theorem oY:∀(k:Nat)(L:List Mv),(dh k L).length<=k
 |0,_=>aA _
 |_+1,[]=>aN _
 |k+1,m::L=>by have:=oY k (b9 (m::L)).2;simp only[dh,bA];omega
structure bh(L:List Mv):Prop where
 nd:(ah L).Nodup
 to:∀m∈L,0<=m.to/\m.to<64
 frm:∀m∈L,m.frm=-1\/(0<=m.frm/\m.frm<64)
 ne:∀m∈L,m.frm≠m.to
def bj(L:List Mv):Nat:=L.length+(L.filter λm=>decide (0<=m.frm)).length
theorem bh.nil:bh []:=⟨by simp[ah],sP,sP,sP⟩
theorem bh.without{L:List Mv}(h:bh L)(t:Int):bh (d6 L t):=by
 refine⟨?_,λm a=>h.to m (fG.1 a).1,λm a=>h.frm m (fG.1 a).1,λm a=>h.ne m (fG.1 a).1⟩;exact h.nd.sublist<|List.filter_sublist.map _
theorem Fz(L:List Mv)(r:Int):ah (scratch L r)=ah L:=by
 unfold ah scratch;rw[jO];refine gH λm _=>?_;show(if m.frm=r then (⟨m.to,-1⟩:Mv)else m).to=m.to;split<;>rfl
theorem bh.scratch{L:List Mv}(h:bh L)(r:Int):bh (scratch L r):=by
 have c:∀m∈Go.Proofs.YtffcajcgkblkoaaGreatDoor.scratch L r,∃q∈L,m=(if q.frm=r then ⟨q.to,-1⟩else q):=λm a=>by
  obtain⟨q,hq,e⟩:=aY.1 a;exact⟨q,hq,e.symm⟩
 refine⟨by rw[Fz];exact h.nd,λm a=>?_,λm a=>?_,λm a=>?_⟩<;>obtain⟨q,hq,rfl⟩:=c m a;·have:=h.to q hq;split<;>exact this
 .split;·exact bC rfl
  exact h.frm q hq
 have d:=h.to q hq;have b:=h.ne q hq;split;·show(-1:Int)≠q.to;omega
 exact b
theorem bh.step{L:List Mv}(h:bh L):bh (b9 L).2:=by
 unfold b9;split;·exact h.without _
 split;·exact h.scratch _
 exact bh.nil
theorem Fs{L:List Mv}(b:t∈ah L):bj (d6 L t)<bj L:=by
 unfold bj d6;have c:(L.filter λm=>m.to != t).length<L.length:=by
  refine List.length_filter_lt_length_iff_exists.2 ?_;let⟨m,a,e⟩:=aY.1 b;exact⟨m,a,by simp[e]⟩
 have d:((L.filter λm=>m.to != t).filter λm=>decide (0<=m.frm)).length<=(L.filter λm=>decide (0<=m.frm)).length:=(List.filter_sublist.filter _).length_le;omega
theorem Fr(n:0<=t):∀{L:List Mv},bu L t=true->bj (scratch L t)<bj L:=by
 have j:∀L:List Mv,((scratch L t).filter λm=>decide (0<=m.frm)).length<=(L.filter λm=>decide (0<=m.frm)).length/\(bu L t=true->((scratch L t).filter λm=>decide (0<=m.frm)).length<(L.filter λm=>decide (0<=m.frm)).length):=λL=>by
  induction L with
  |nil=>simp[scratch,bu]
  |cons m L i=>
   let⟨h,d⟩:=i;have e:scratch (m::L) t=(if m.frm=t then ⟨m.to,-1⟩else m)::scratch L t:=rfl;have g:bu (m::L) t=(m.frm==t||bu L t):=rfl;rw[e,g];by_cases c:m.frm=t
   .rw[aU c];have:(decide (0<=m.frm))=true:=by simp;omega
    rw[List.filter_cons_of_neg (p:=λm:Mv=>decide (0<=m.frm)) sP,List.filter_cons_of_pos (p:=λm:Mv=>decide (0<=m.frm)) this];simp only[bA];exact⟨oM,λ_=>oM⟩
   rw[aM c];have f:(m.frm==t)=false:=by simpa using c
   rw[f,jV];by_cases a:decide (0<=m.frm)=true
   .rw[List.filter_cons_of_pos (p:=λm:Mv=>decide (0<=m.frm)) a,List.filter_cons_of_pos (p:=λm:Mv=>decide (0<=m.frm)) a];simp only[bA];exact⟨oM,λb=>by have:=d b;omega⟩
   rw[List.filter_cons_of_neg (p:=λm:Mv=>decide (0<=m.frm)) a,List.filter_cons_of_neg (p:=λm:Mv=>decide (0<=m.frm)) a];exact⟨h,d⟩
 intro L b;have k:=(j L).2 b;unfold bj;have l:(scratch L t).length=L.length:=by simp[scratch]
 omega
theorem vf{L:List Mv}:t∈dq L↔t∈ah L/\bu L t=false:=by simp[dq]
theorem uQ{L:List Mv}(h:bh L)(e:L≠[]):bj (b9 L).2<bj L:=by
 unfold b9;split
 .rename_i t g;exact Fs (vf.1 (iP g).1).1
 rename_i c;split
 .rename_i r a
  let⟨b,_⟩:=iP a;have f:bu L r=true:=by
   cases hb:bu L r with
   |true=>rfl
   |false=>
    have:r∈dq L:=vf.2 ⟨b,hb⟩;rw[ie.1 c]at this;cases this
  let⟨m,d,i⟩:=aY.1 b;exact Fr (oN<|(h.to m d).1) f
 rename_i a;have:=ie.1 a;exact absurd (List.map_eq_nil_iff.1 this) e
theorem li:∀(k:Nat){L:List Mv},bh L->bj L<=k->dh k L=dh (bj L) L
 |0,L,_,hk=>by rw[show bj L=0 by omega]
 |k+1,L,h,hk=>by
  by_cases a:L=[];·subst a;rw[oZ,oZ]
  have d:=uQ h a;let⟨j,b⟩:∃j,bj L=j+1:=⟨bj L-1,oM⟩;rw[b,oW k a,oW j a,li k h.step oM];by_cases c:bj (b9 L).2<=j
  .by_cases f:j<=k
   .have:=li j h.step c;rw[this]
   have e:j=k:=oM;rw[e,li k h.step oM]
  omega
theorem Gq{L:List Mv}(h:bh L)(a:L≠[]):dh (bj L) L=(b9 L).1::dh (bj (b9 L).2) (b9 L).2:=by
 have c:=uQ h a;let⟨j,b⟩:∃j,bj L=j+1:=⟨bj L-1,oM⟩;rw[b,oW j a,li j h.step oM]
def i9(a:List Mv)(m:Mv):Bool:=decide (0<=m.to/\m.to<64/\0<=m.frm/\m.frm<64)&&!a.any λq=>q.to==m.to
def fh:List Mv->List Mv->Bool
 |_,[]=>true
 |pre,m::r=>i9 pre m&&fh (pre++[m]) r
def cy(L:List Mv):Bool:=decide (L.length<=64)&&fh [] L
def dg(L:List Mv):List Mv:=L.filter λm=>m.to != m.frm
def dv(L:List Mv):List Yg:=if cy L=true then dh (2*(dg L).length) (dg L)else []
structure ew(L:List Mv):Prop where
 nd:(ah L).Nodup
 rng:∀m∈L,0<=m.to/\m.to<64/\0<=m.frm/\m.frm<64
theorem ew.snoc{L:List Mv}(h:ew L){m:Mv}(c:i9 L m=true):ew (L++[m]):=by
 simp only[i9,bY,bD,lV]at c;let⟨d,f⟩:=c;refine⟨?_,λq hq=>?_⟩
 .unfold ah;rw[bG,gW];refine⟨h.nd,sP,λg ha b a=>?_⟩;simp only[eH,fZ,cS]at a;subst a;intro e;subst e;let⟨q,hq,e⟩:=aY.1 ha;have:=List.any_eq_false.1 f q hq;simp[e]at this
 rcases bU.1 hq with hq|hq;·exact h.rng q hq
 rw[cS.1 hq];exact d
theorem uW:∀(r a:List Mv),ew a->fh a r=true->ew (a++r)
 |[],a,h,_=>by rw[fF];exact h
 |m::r,a,h,hg=>by
  simp only[fh,bY]at hg;have:=uW r (a++[m]) (h.snoc hg.1) hg.2;simpa using this
theorem ew.start{L:List Mv}(h:ew L):bh (dg L)/\bj (dg L)=2*(dg L).length:=by
 have b:∀m∈dg L,m∈L/\m.to≠m.frm:=λm a=>by simpa [dg]using a
 refine⟨⟨h.nd.sublist<|List.filter_sublist.map _,λm a=>?_,λm a=>?_,λm a=>?_⟩,?_⟩;·have:=h.rng m (b m a).1;omega
 .have:=h.rng m (b m a).1;omega
 .exact λe=>(b m a).2 e.symm
 unfold bj;rw[List.filter_eq_self.2 λm a=>by have:=h.rng m (b m a).1;simp;omega];omega
theorem uG{L:List Mv}(h:cy L=true):L.length<=64/\ew L:=by
 simp only[cy,bY,bD]at h;exact⟨h.1,by simpa using uW L [] ⟨by simp[ah],sP⟩ h.2⟩
def pF(w:World)(L B:Nat)(c:Option Addr)(a:List Mv):Prop:=∀i (h:i<a.length),∃b o,c=some ⟨b,o,none⟩/\(L<=b/\b<B)/\w.cell? ⟨b,o+i*2,none⟩=some (.int .i64 a[i].to)/\w.cell? ⟨b,o+i*2+1,none⟩=some (.int .i64 a[i].frm)
theorem FO{a:List Mv}(h:n<a.length):fh (a.take n) (a.drop n)=(i9 (a.take n) a[n]&&fh (a.take<|n+1) (a.drop<|n+1)):=by
 rw[gZ h,fh,kJ,aC h];rfl
def I1(a:List Mv):List Value:=a.flatMap λm=>[.int .i64 m.to,.int .i64 m.frm]
theorem uX(m:Mv)(a:List Mv):I1 (m::a)=[Hp m.to,Hp m.frm]++I1 a:=rfl
theorem GM(a b:List Mv):I1 (a++b)=I1 a++I1 b:=by simp[I1]
theorem vy:∀a:List Mv,(I1 a).length=a.length*2
 |[]=>rfl
 |m::a=>by rw[uX,aQ,vy a];simp;omega
theorem px:∀(a:List Mv)(i:Nat)(h:i<a.length),(I1 a)[i*2]?=some (Hp a[i].to)/\(I1 a)[i*2+1]?=some (Hp a[i].frm)
 |[],i,h=>absurd h sP
 |m::a,0,_=>⟨rfl,rfl⟩
 |m::a,i+1,h=>by
  have:=px a i (by simpa using h);rw[uX];rw[show(i+1)*2=i*2+1+1 by omega];simpa using this
theorem jn(g j:Nat):((Hk g 0):Addr).add j=(Hk g j):=by unfold Addr.add;split<;>simp_all
theorem Jj(h:w.ownsRow n m k (Hl B g c) g y){u:Value}(a:y[j]?=some u):w.cell? (Hk B j)=some u:=by
 have:=h.cells (g:=B) rfl j u a;rw[jn]at this;exact this
theorem BJ(h:w.ownsRow n m k (Hl B g c) g y)(o:Nat):w.frozen? (Hk B o)=false:=by
 rcases h.2 with⟨e2,_⟩|⟨g',cap,cur,e2,_,hh,_⟩;·cases e2
 injection e2 with e3;injection e3 with e3;injection e3 with e4;subst e4;simp[World.frozen?,hh]
theorem Vc(h:w.ownsRow n m k a B y):(a=.slice none 0 0/\B=0/\y=[])\/∃g c,a=.slice (some ⟨g,0,none⟩) B c/\(n<=g/\g<w.heap.size)/\B<=c:=by
 rcases h.2 with⟨e1,e2⟩|⟨g,cap,cur,e1,hb,hh,hc,_⟩
 .refine bC ⟨e1,e2,iE ?_⟩;rw[h.1,e2,lC]
 exact aZ ⟨g,cap,e1,⟨hb,(aS.1 hh).1⟩,hc⟩
theorem FU{b:List Mv}(h:w.ownsRow n m 2 a k (I1 b)):∃e c,a=.slice e b.length c/\k=b.length/\b.length<=c/\pF w n w.heap.size e b:=by
 have f:=h.1;rw[vy]at f;have j:k=b.length:=oM;subst j;rcases Vc h with⟨rfl,h0,_⟩|⟨g,c,rfl,hg,hc⟩
 .have:b=[]:=iE h0;subst this;exact⟨none,0,rfl,rfl,aA _,λi d=>absurd d sP⟩
 refine⟨_,c,rfl,rfl,hc,λi d=>⟨g,0,rfl,hg,?_,?_⟩⟩;·rw[aV];exact Jj h (px b i d).1
 rw[aV];exact Jj h (px b i d).2
theorem Nf:(prog.info? 192).map (λi=>(i.zero,i.size,i.bytes))=some (some<|.agg #[Hp 0,Hp 0],2,16):=kR
theorem GP(w:World)(t f:Int)(b:Nat):∀j u,([.int .i64 t,.int .i64 f]:List Value)[j]?=some u->(w.alloc<|.cells #[.int .i64 t,.int .i64 f] b).cell? ((⟨w.heap.size,0,none⟩:Addr).add j)=some u:=λj u a=>by
 rw[jn]
 match j,a with
 |0,a=>simpa using a
 |1,a=>simpa using a
 |j+2,a=>cases a
theorem dm{l:Array Oper}{o:Oper}{b:Act}{K:Act->World->Prop}{Q:Exit->Act->World->Prop}{E:Prop}(H:o.guard=none)(s x:Operand)(t:TypeId)
 (M:o.op=.call { callee:=.builtin .append,args:=#[s,x],argTypes:=#[t,t] })
 (g:Nat) (e:TypeId) (i:TypeInfo) (z:Value) (size bytes:Nat) (U:R.underlying t=some (.slice e)) (I:R.info? e=some i) (X:i.zero=some z)
 (S:i.size=size) (F:i.bytes=bytes) (Y:z.cells.size=size) (T:0<size)
 (v:Value) (n:Nat) (j:List Value) (P:b.eval s=v) (N:w.ownsRow g e size v n j)
 (h:Addr) (m c:Nat) (d:List Value) (W:b.eval x=.slice (some h) m c) (J:d.length=m*size) (L:∀k u,d[k]?=some u->w.cell? (h.add k)=some u) (q:∀u∈d,u.oneCell'=true)
 (C:n+m<=maxLen) (G:(n+m)*bytes<=140737488355328) (D:g<=w.heap.size)
 (p:∀a f,f.ownsRow g e size a (n+m) (j++d)->w.grownBy f v.ownBlock->(a=.slice none 0 0↔v=.slice none 0 0/\m=0)->(a.ownBlock=v.ownBlock\/a.ownBlock=some w.heap.size)->K (b.put o.dst a) f) :
 if Region.wanted o (yielded l b.tmps)=true then Oper.wp R o b w K Q else E:=by
 have V:Region.wanted o (yielded l b.tmps)=true:=by simp[Region.wanted,H]
 rw[aU V];let⟨a,f,O,r,y,A,B⟩:=kI (P:=R) w g t o.type e i z size bytes U I X S F Y T v n j N h m c d J L q C G D;unfold Oper.wp execOp;simp only[M,resolve,invoke,builtin,lG,lH,jE,jN,eH,fZ,P,W,O];exact p a f r y A B
section
open Go.Deep
variable {w w' w1: World} {L B: Nat}
def Ev(L B:Nat)(w:World):Prop:=∀b o,L<=b/\b<B->w.frozen? ⟨b,o,none⟩=false
variable {L' B': Nat} {a: Option Addr}
end
def JS(l:List UInt8):List Value:=l.map λb=>Value.int .u8 (b.toNat:Int)
theorem wX(l:List UInt8)(b:UInt8):JS (l++[b])=JS l++[Value.int .u8 (b.toNat:Int)]:=by simp[JS]
def Zx(w:World)(L B:Nat)(c:Option Addr)(a:List Value):Prop:=∀i (h:i<a.length),∃b o,c=some ⟨b,o,none⟩/\(L<=b/\b<B)/\w.cell? ⟨b,o+i,none⟩=some a[i]
theorem Zx.keepS(h:Zx w n m p y)(k:YA n m w v):Zx v n m p y:=λi d=>by
 let⟨b,o,e,a,c⟩:=h i d;exact⟨b,o,e,a,by rw[Xc<|k b a.1 a.2];exact c⟩
theorem UO(h:w.ownsRow n m 1 a k y):∃j c,a=.slice j y.length c/\Zx w n w.heap.size j y:=by
 obtain⟨f,h|⟨g,s,o,rfl,p,e,t,_,q,l⟩⟩:=h
 .obtain⟨rfl,rfl⟩:=h;have:y=[]:=by simpa using f
  subst this;exact⟨_,_,rfl,λi b=>absurd b sP⟩
 simp only[iN]at f q l;subst f;refine⟨_,_,rfl,λi b=>⟨g,0,rfl,⟨p,?_⟩,?_⟩⟩
 .rcases mL g w.heap.size with d|d;·exact d
  rw[iI d]at e;cases e
 rw[aV,cell_of_row w g i o m (0,0) e,<-mX];have:=fI (λr:List Value=>r[i]?) l;simp only[List.getElem?_take,b,gG]at this;rw[this,aC b]
theorem qV(w:World)(a:List Value)(t:TypeId):Zx (w.alloc<|.cells a.toArray t) w.heap.size (w.heap.size+1) (some ⟨w.heap.size,0,none⟩) a:=λi b=>
 ⟨_,0,rfl,⟨aA _,iJ _⟩,by simp[b]⟩
def Yx(w:World)(L B:Nat)(a:Option Addr)(bs:List UInt8):Prop:=∀i (h:i<bs.length),∃b o,a=some ⟨b,o,none⟩/\(L<=b/\b<B)/\w.cell? ⟨b,o+i,none⟩=some (.int .u8 (bs[i].toNat:Int))
theorem Yx.keepS{c:List UInt8}(h:Yx w n m p c)(k:YA n m w v):Yx v n m p c:=λi f=>by
 let⟨b,o,e,a,d⟩:=h i f;exact⟨b,o,e,a,by rw[Xc<|k b a.1 a.2];exact d⟩
theorem Yx.keep{w':World}{a:List UInt8}(h:Yx w n B p a)(k:Below B w w'):Yx w' n B p a:=h.keepS<|YA.of_below k
theorem xo{bs:List UInt8}(q:w.ownsRow n m 1 a k (JS bs)):∃f c L B,a=.slice f bs.length c/\Yx w L B f bs/\Ev L B w/\((L=0/\B=0)\/(B=L+1/\n<=L/\L<w.heap.size)):=by
 obtain⟨o,h|⟨g,z,p,rfl,s,e,A,_,C,v⟩⟩:=q
 .have:bs=[]:=by
   have r:=h.2;subst r;simpa [JS]using o
  subst this;exact⟨none,0,0,0,h.1,λi d=>absurd d sP,λb y l=>absurd l oM,bC ⟨rfl,rfl⟩⟩
 have t:=(aS.1 e).1;have u:k=bs.length:=by simpa [JS]using o.symm
 subst u;refine⟨_,_,g,g+1,rfl,λi d=>⟨g,0,rfl,⟨aA _,iJ _⟩,?_⟩,λb y l=>?_,aZ ⟨rfl,s,t⟩⟩
 .rw[aV,cell_of_row w g i p m (0,0) e,<-mX];have j:=fI (λx:List Value=>x[i]?) v;simp only[List.getElem?_take,iN,d,gG]at j;rw[j];simp[JS,d]
 have:b=g:=oM;subst this;unfold World.frozen?;rw[e];simp
theorem Zk(h:w.ownsRow n k B a g y)(i:m<=n):w.ownsRow m k B a g y:=by
 obtain⟨b,f|⟨e,c,d,l,j,r⟩⟩:=h;·exact⟨b,.inl f⟩
 exact⟨b,.inr ⟨e,c,d,l,aJ i j,r⟩⟩
section
attribute [local go_sem ↓] Go.wp_at_zero Go.wp_at_succ
def ZP(a:List Yg):List Value:=a.flatMap λx=>[.int .i64 x.op,.int .i64 x.dst,.int .i64 x.a,.int .i64 x.b,.int .i64 x.imm]
theorem pi(x:Yg)(a:List Yg):ZP (x::a)=[Hp x.op,Hp x.dst,Hp x.a,Hp x.b,Hp x.imm]++ZP a:=rfl
theorem ll(a b:List Yg):ZP (a++b)=ZP a++ZP b:=by simp[ZP]
theorem i8:∀a:List Yg,(ZP a).length=a.length*5
 |[]=>rfl
 |x::a=>by rw[pi,aQ,i8 a];simp;omega
theorem vA:∀(b:List Yg),∀u∈ZP b,u.oneCell'=true:=λb u c=>by
 let⟨x,_,a⟩:=bV.1 c;simp at a;rcases a with rfl|rfl|rfl|rfl|rfl<;>rfl
theorem Nm:(prog.info? 48).map (λi=>(i.zero,i.size,i.bytes))=some (some<|.agg #[Hp 0,Hp 0,Hp 0,Hp 0,Hp 0],5,40):=kR
theorem pp(w:World):(w.alloc<|.cells #[] 48).ownsRow w.heap.size 48 5 (.slice (some ⟨w.heap.size,0,none⟩) 0 0) 0 (ZP []):=by
 have:=eI (base:=w.heap.size) (e:=48) (size:=5) w #[] 0 sP sP rfl;simpa [ZP]using this
theorem GD{a:List Mv}(h:bh a)(c:n<a.length)(d:m<a.length)(e:a[n].to=a[m].to):n=m:=by
 have g:(a.map (·.to)).Pairwise (·≠·):=h.nd;have f:=gY.1 g;rcases mA n m with b|b|b;·exact(f n m (by simpa using c) (by simpa using d) b (by simp[e])).elim
 .exact b
 exact(f m n (by simpa using d) (by simpa using c) b (by simp[e])).elim
theorem GL{a:List Mv}(h:bh a)(b:n<a.length):lm a a[n].to=a[n].frm:=by
 unfold lm;have:a.find? (λm=>m.to==a[n].to)=some a[n]:=by
  rw[List.find?_eq_some_iff_getElem];refine⟨sP,n,b,rfl,λj c=>?_⟩;have:a[j].to≠a[n].to:=λe=>by have:=GD h oM b e;omega
  simpa using this
 rw[this];rfl
end
def Tx(p:Addr):Value:=.pointer (some p)
def Yd:List Bool->List Addr->List Addr
 |k::ks,p::ps=>if k then p::Yd ks ps else Yd ks ps
 |_,_=>[]
theorem xW(b:List Bool)(a:List Addr)(k:Bool)(p:Addr)(h:b.length=a.length):Yd (b++[k]) (a++[p])=Yd b a++(if k then [p]else []):=by
 induction b generalizing a with
 |nil=>cases a with
  |nil=>cases k<;>rfl
  |cons q r=>simp at h
 |cons x r c=>cases a with
  |nil=>simp at h
  |cons q s=>cases x<;>simp[Yd,c s<|by simpa using h]
theorem Af(b:List Bool)(a:List Addr):(Yd b a).length<=a.length:=by
 induction b generalizing a with
 |nil=>simp[Yd]
 |cons x r c=>cases a with
  |nil=>simp[Yd]
  |cons q s=>have:=c s;cases x<;>simp[Yd]<;>omega
theorem Nh:(prog.info? 176).map (λi=>(i.zero,i.size,i.bytes))=some (some<|.pointer none,1,8):=kR
theorem zu(l:List Addr)(v:Addr):(l++[v]).map Tx=l.map Tx++[Tx v]:=sP
theorem yj(w:World):(w.alloc<|.cells #[] 176).ownsRow w.heap.size 176 1 (.slice (some ⟨w.heap.size,0,none⟩) 0 0) 0 []:=by
 have:=eI (base:=w.heap.size) (e:=176) (size:=1) w #[] 0 sP sP rfl;simpa using this
theorem UA(t j:Option Addr)(P C:Nat)(b:List Bool)(a:List Addr)(L B:Nat)(w:World)(l:B<=w.heap.size)(G:Hs (Zx w L B t<|b.map Value.bool))(I:Hs (Zx w L B j<|a.map Tx))(p:Hs (b.length=a.length))(V:a.length<=1000) :
 Calls prog 100 #[.slice t b.length P,.slice j a.length C] w λh x=>∃v,h=.returned v/\Below w.heap.size w x/\x.ownsRow w.heap.size 176 1 v (Yd b a).length ((Yd b a).map Tx):=by
 let⟨O,F,J,M,N⟩:=fX Nh
 go_in
 go_wp2
 go_loopw [5,11] (λv i wr=>∃k:Nat,k<=a.length/\i=Hp k/\Hs (Below w.heap.size w wr)/\Hs (wr.ownsRow w.heap.size 176 1 v (Yd (b.take k) (a.take k)).length ((Yd (b.take k) (a.take k)).map Tx))) λ_ i _=>a.length-(intOf i).toNat
 case atStart=>exact⟨0,aN _,rfl,Xa<|Xb (Below.refl _ _) _,Xa<|by simpa [Yd]using yj w⟩
 obtain⟨k,U,rfl,c,d⟩:=hrel;have W:=c.size;by_cases q:k<a.length
 .have o:k<b.length:=oN p.o;obtain⟨R,X,rfl,⟨_,S⟩,E⟩:=(G.keepS<|YA.of_below (c.mono l)) k (by simpa using o);obtain⟨b2,Y,rfl,⟨_,T⟩,m⟩:=(I.keepS<|YA.of_below (c.mono l)) k (by simpa using q);rw[cM]at E m;unfold Tx at m;have g:Hs (Yd (b.take<|k+1) (a.take<|k+1)=Yd (b.take k) (a.take k)++(if b[k]then [a[k]]else [])):=Xa (by rw[bN o,bN q,xW _ _ _ _<|by simp only[dH];omega]);have f:Hs ((Yd (b.take k) (a.take k)).length+1<=2000):=Xa (by have:=Af (b.take k) (a.take k);simp only[dH]at this;omega);generalize b[k]=K at*;generalize a[k]=u at*;cases K with
  |false=>
   have e:Hs (wr.ownsRow w.heap.size 176 1 u5 (Yd (b.take<|k+1) (a.take<|k+1)).length ((Yd (b.take<|k+1) (a.take<|k+1)).map Tx)):=Xa (by rw[g.o];simpa using d.o);go_wp2;exact⟨⟨k+1,oM,gM,c,e⟩,by simp[intOf];omega⟩
  |true=>
   have A:Hs (Yd (b.take<|k+1) (a.take<|k+1)=Yd (b.take k) (a.take k)++[u]):=Xa (by have:=g.o;simpa using this);go_wp2_with (at_builtin;refine bT _ rfl _ _ 126 rfl w.heap.size 176 O (.pointer none) 1 8 underlying126 F J M N rfl vZ _ _ _ rfl (d.alloc _) (Hk wr.heap.size 0) 1 1 [.pointer (some u)] rfl rfl ?c1 ?c2 ?c3 ?c4 ?c5 ?_)
   case c2=>first|rfl|simp|(intro Z s;simp at s;subst s;rfl)
   case c3=>have:=f.o;unfold maxLen;omega
   case c4=>have:=f.o;omega
   case c5=>first|omega|(simp;omega)
   intro v1 Q r n H D;have e:Hs (Q.ownsRow w.heap.size 176 1 v1 (Yd (b.take<|k+1) (a.take<|k+1)).length ((Yd (b.take<|k+1) (a.take<|k+1)).map Tx)):=Xa (by rw[A.o,zu,aQ];exact r);have y:=Xa (Xy ((c).alloc oM _) n (d.alloc _) (aA _) (by simp;omega));go_wp2;exact⟨⟨k+1,oM,gM,y,e⟩,by simp[intOf];omega⟩
 have z:Hs (wr.ownsRow w.heap.size 176 1 u5 (Yd b a).length ((Yd b a).map Tx)):=Xa (by have:=d.o;have h:=p.o;rwa[aW oM,aW oM]at this);go_wp2;go_ret;exact⟨_,rfl,c,z⟩
def K8(l:List UInt8):ByteArray:=⟨l.toArray⟩
structure Gr(w w':World)(u v:Value):Prop where
 grown:w.grownBy w' u.ownBlock
 own:∀g,v.ownBlock=some g->w.heap.size<=g\/u.ownBlock=some g
theorem Gr.refl(w:World)(u:Value):Gr w w u u:=⟨⟨rfl,rfl,rfl,aA _,λ_ _ _=>rfl⟩,λ_ h=>aZ h⟩
theorem Gr.below(h:Gr w v a A)(e:w.ownsRow n m k a B y)(c:Below n u w)(b:n<=w.heap.size):Below n u v :=
 c.grown h.grown b λf d=>(e.lt f d).1
def mp(a:Int):List UInt8 :=
 if a=1 then [99,111,110,115,116]else if a=2 then [97,114,103]else if a=3 then [97,100,100]else if a=4 then [115,117,98]else if a=5 then [109,117,108]
 else if a=6 then [100,105,118]else if a=7 then [108,101,115,115]else if a=8 then [108,111,97,100]else if a=9 then [115,116,111,114,101]else if a=11 then [109,111,118,101]else if a=12 then [112,117,116]else if a=13 then [103,101,116]else [111,117,116]
def pick(x:Yg)(c:UInt8):List Int:=if c=100 then [x.dst]else if c=97 then [x.a]else if c=98 then [x.b]else if c=105 then [x.imm]else []
theorem x7(l:List Int)(v:Int):(l++[v]).map (Value.int .i64)=l.map (Value.int .i64)++[Hp v]:=sP
theorem Wj(a:List Ph)(p:Ph):XG (a++[p])=XG a++[p.dst]:=by simp[XG]
theorem Vx(a:List Yg)(p:Yg):XI (a++[p])=XI a++(if dB p.op then [p.dst]else []):=by
 simp only[XI,eU,bG];congr 1;cases h:dB p.op<;>simp[h]
theorem U0(a:List Xe)(p:Xe):BX (a++[p])=BX a++Z6 p:=by simp[BX]
theorem TP(a:List Yg):(XI a).length<=a.length:=by simp only[XI,bK];exact fJ _ _
theorem KP(a:List Xe):(BX a).length<=Xx a:=by
 induction a with
 |nil=>simp[BX]
 |cons x a e=>
  have b:BX (x::a)=Z6 x++BX a:=by simp[BX]
  have c:Xx (x::a)=ZZ x+Xx a:=by simp[Xx]
  have d:(Z6 x).length<=ZZ x:=by
   simp only[Z6,XG,aQ,bK,ZZ];have:=TP x.is;omega
  rw[b,c,aQ];omega
theorem rQ{wr:World}(g:Below w.heap.size w wr)(f:w.heap.size<wr.heap.size)(e:wr.cell? ⟨w.heap.size,1,none⟩=some (.slice p m c))
 (o:Obj) (d:wr.ownsRow (w.heap.size+1) 2 1 a n y) (b:(wr.alloc o).grownBy v a.ownBlock) :
 Below w.heap.size w v/\w.heap.size<v.heap.size/\v.cell? ⟨w.heap.size,1,none⟩=some (.slice p m c)/\wr.heap.size<=v.heap.size:=by
 have h:=b.size;simp at h;refine⟨Xy (Xb g _) b (d.alloc _) oM (by simp;omega),oM,?_,oM⟩;exact(Xc<|YJ b (d.alloc _) (b:=w.heap.size) oM (by simp;omega)).trans (oB (Xb (Below.refl wr.heap.size wr) _) e f)
theorem yF(ap:Int)(C:Option Addr)(n c:Nat)(a:List Xe)(ac J:Nat)(w:World)(ha:Hs (Xp w ac J C a))(U:Hs (n=a.length))(hn:n<=1048576)(hs:Hs (Xx a<=1048576))(hB:J<=w.heap.size) :
 Calls prog 48 #[.agg #[Hp ap,.slice C n c]] w λo H=>∃M c',o=.returned (.slice M (BX a).length c')/\Below w.heap.size w H/\Xf H w.heap.size H.heap.size M (BX a):=by
 let⟨Z,R,V,W,Y⟩:=fX Nv
 go_in
 go_wp2
 go_loopw [3,4] (λu i wr=>∃k:Nat,k<=n/\i=Hp k/\Below w.heap.size w wr/\w.heap.size<wr.heap.size/\wr.cell? (Hk w.heap.size 1)=some (.slice C n c)/\wr.ownsRow (w.heap.size+1) 2 1 u (BX<|a.take k).length ((BX<|a.take k).map (Value.int .i64))) λ_ i _=>n-(intOf i).toNat
 case atStart=>exact⟨0,aN _,rfl,Xb (Xb (Below.refl _ _) _) _,by simp;omega,sP,K5 _ _⟩
 obtain⟨k,hk,rfl,T,ao,af,z⟩:=hrel;by_cases ay:k<n
 .have F:k<a.length:=oN U.o
  obtain⟨b,ab,rfl,⟨_,aq⟩,O⟩:=ha k F;have L:=Xa O;have al:Hs (BX (a.take<|k+1)=BX (a.take k)++(XG a[k].ps++XI a[k].is)):=by
   show _=_;rw[X7 _ _ F,U0];rfl
  have ar:(BX<|a.take k).length+(a[k].ps.length+JG a[k].ps+a[k].is.length)<=1048576:=by
   have h1:=UX a<|k+1;rw[X7 _ _ F,Vm]at h1;have h2:=KP<|a.take k;have q:=hs.o;have h4:ZZ a[k]=a[k].ps.length+JG a[k].ps+a[k].is.length:=rfl;omega
  have az:a[k].ps.length<=1048576:=oM;have ax:a[k].is.length<=1048576:=oM;have HO:=Xa z;generalize hX:a[k]=X at*;generalize BX (a.take k)=D at*;let⟨pa,pc,ia,ic,N,e1,_,S,Q⟩:=L.o;have HP:=Xa S;have HI:=Xa Q;have E0:=Xa N;have K:=Xa e1;go_wp2
  go_loopw [3,5] (λu i h=>∃j:Nat,j<=X.ps.length/\i=Hp j/\Below w.heap.size w h/\w.heap.size<h.heap.size/\h.cell? (Hk w.heap.size 1)=some (Hm b ab n c)/\h.ownsRow (w.heap.size+1) 2 1 u (D++XG (X.ps.take j)).length ((D++XG (X.ps.take j)).map (Value.int .i64))) λ_ i _=>X.ps.length-(intOf i).toNat
  case atStart=>exact⟨0,aN _,rfl,T,ao,af,by simpa [XG]using HO.o⟩
  obtain⟨j,f,rfl,d,m,l,g⟩:=hrel;have f0:=(XU d oM).trans E0;have f1:=(XU d oM).trans K;by_cases r:j<X.ps.length
  .obtain⟨b',o',rfl,⟨_,ad⟩,aa,cc,p,x,_⟩:=HP j r;have e2:=(XU d oM).trans p;have q:Hs (D++XG (X.ps.take<|j+1)=(D++XG (X.ps.take j))++[X.ps[j].dst]):=by show _=_;rw[X7 _ _ r,Wj,cK]
   have hl:(D++XG (X.ps.take j)).length<=1048576:=by simp[XG];omega
   generalize X.ps[j]=P at*;generalize D++XG (X.ps.take j)=D1 at*;have e:=Xa g;go_wp2_with (at_builtin;refine fT _ rfl _ _ 27 rfl (w.heap.size+1) 2 Z (Hp 0) 1 8 underlying27 R V W Y rfl vZ _ _ _ rfl (e.alloc _) (Hk wr.heap.size 0) 1 1 [Hp P.dst] rfl rfl ?c1 ?c2 ?c3 ?c4 ?c5 ?_)
   case c1=>
    intro j u f
    match j,f with
    |0,f=>simp at f;subst f;simp[Addr.add]
   case c2=>intro u t;simp at t;subst t;rfl
   case c3=>unfold maxLen;omega
   case c4=>omega
   case c5=>simp;omega
   intro v1 w1 s E _;have B:=Xa s;go_wp2;let⟨q1,q2,G,_⟩:=rQ d m l _ e E;exact⟨⟨j+1,oM,gM,q1,q2,G,by rw[q.o,Yl];simpa using B.o⟩,by simp[intOf];omega⟩
  have y:=Xa<|aW (l:=X.ps) (i:=j) oM;have e:=Xa g;go_wp2
  go_loopw [3,6] (λu i h=>∃j:Nat,j<=X.is.length/\i=Hp j/\Below w.heap.size w h/\w.heap.size<h.heap.size/\h.cell? (Hk w.heap.size 1)=some (Hm b ab n c)/\h.ownsRow (w.heap.size+1) 2 1 u (D++XG X.ps++XI (X.is.take j)).length ((D++XG X.ps++XI (X.is.take j)).map (Value.int .i64))) λ_ i _=>X.is.length-(intOf i).toNat
  case atStart=>exact⟨0,aN _,rfl,d,m,l,by have:=e.o;rw[y.o]at this;simpa [XI]using this⟩
  obtain⟨j,f,rfl,d,m,l,g⟩:=hrel;have f1:=(XU d oM).trans K;by_cases r:j<X.is.length
  .obtain⟨b',o',rfl,⟨_,ad⟩,p,x,_,_,_⟩:=HI j r;have e2:=(XU d oM).trans p;have e3:=(XU d oM).trans x;have q:Hs (D++XG X.ps++XI (X.is.take<|j+1)=(D++XG X.ps++XI (X.is.take j))++(if dB X.is[j].op then [X.is[j].dst]else [])):=by show _=_;rw[X7 _ _ r,Vx,<-cK]
   have hl:(D++XG X.ps++XI (X.is.take j)).length<=1048576:=by have:=TP<|X.is.take j;simp[XG]at this |-;omega
   generalize X.is[j]=P at*;generalize D++XG X.ps++XI (X.is.take j)=D1 at*;have e:=Xa g;cases hd:dB P.op
   .have A:=Xa hd;go_wp2_with (go_at_call 64;refine(ix _ _).mono ?_;rintro o I⟨rfl,v⟩;rw[v];clear v I)
    exact⟨⟨j+1,oM,gM,d,m,l,by rw[q.o,A.o];simpa using e.o⟩,by simp[intOf];omega⟩
   have A:=Xa hd;go_wp2_with (first|(go_at_call 64;refine(ix _ _).mono ?_;rintro o I⟨rfl,v⟩;rw[v];clear v I)|(at_builtin;refine fT _ rfl _ _ 27 rfl (w.heap.size+1) 2 Z (Hp 0) 1 8 underlying27 R V W Y rfl vZ _ _ _ rfl (e.alloc _) (Hk wr.heap.size 0) 1 1 [Hp P.dst] rfl rfl ?c1 ?c2 ?c3 ?c4 ?c5 ?_))
   case c1=>
    intro j u f
    match j,f with
    |0,f=>simp at f;subst f;simp[Addr.add]
   case c2=>intro u t;simp at t;subst t;rfl
   case c3=>unfold maxLen;omega
   case c4=>omega
   case c5=>simp;omega
   intro v1 w1 s E _;have B:=Xa s;go_wp2;let⟨q1,q2,G,_⟩:=rQ d m l _ e E;exact⟨⟨j+1,oM,gM,q1,q2,G,by rw[q.o,A.o,aU rfl,Yl];simpa using B.o⟩,by simp[intOf];omega⟩
  have y:=Xa<|aW (l:=X.is) (i:=j) oM;have e:=Xa g;go_wp2;exact⟨⟨k+1,oM,gM,d,m,l,by have:=e.o;rw[y.o]at this;rw[al.o,<-cK];exact this⟩,by simp[intOf];omega⟩
 go_wp2;go_ret;have o:=aW (l:=a) (i:=k) (oN U.o);rw[o]at z;obtain⟨a1,c1,rfl,aj⟩:=Xk z;exact⟨_,_,rfl,T,aj.mono oM<|aA _⟩
theorem Um{P:Program}(d:Nat)(t h e:TypeId)(i:TypeInfo)(size:Nat)(b:P.underlying t=some (.slice e))(a:P.info? e=some i)
 (v:Value) (n c:Nat) (j:List Value) (f:w.ownsRow d e size v n j) :
 (Builtin.append_ #[t,t] h #[v,.slice none 0 c]).run P w=.ok v w:=by
 rcases f.2 with⟨rfl,rfl⟩|⟨g,cap,cur,rfl,_,_,hnc,_⟩;·simp[Builtin.append_,run_underlying b,sizeOf,typeInfo,a,Builtin.lenOf,Builtin.firstCells]
 simp[Builtin.append_,run_underlying b,sizeOf,typeInfo,a,Builtin.lenOf,Builtin.firstCells,hnc,storeCells]
theorem yY{c:Addr}{qs:List Int}(g:Xf w n m (some c) qs):∀j u,(qs.map<|Value.int .i64)[j]?=some u->w.cell? (c.add j)=some u:=by
 intro j u a;have d:j<qs.length:=by
  rcases mL j qs.length with h|h;·exact h
  rw[dK<|by simpa using h]at a;cases a
 obtain⟨b,o,e,-,f⟩:=g j d;cases e;rw[dX,aC d]at a;cases a;rw[mK];exact f
theorem JD{o:Oper}{j:Act}{K:Act->World->Prop}{Q:Exit->Act->World->Prop}(B x:Operand)(t:TypeId)
 (s:o.op=.call { callee:=.builtin .append,args:=#[B,x],argTypes:=#[t,t] })
 (f:Nat) (e:TypeId) (i:TypeInfo) (y:R.underlying t=some (.slice e)) (q:R.info? e=some i) (P:i.zero=some (Hp 0))
 (N:i.size=1) (I:i.bytes=8)
 (v:Value) (a:List Int) (u:j.eval B=v) (n:w.ownsRow f e 1 v a.length (a.map<|Value.int .i64)) (r:v≠Hq)
 (d:Option Addr) (m c:Nat) (qs:List Int) (L C:Nat) (A:j.eval x=.slice d m c) (l:m=qs.length) (z:Xf w L C d qs)
 (T:a.length+m<=1000000000000) (H:f<=w.heap.size)
 (p:∀b h,h.ownsRow f e 1 b (a++qs).length ((a++qs).map (Value.int .i64))->Gr w h v b->b≠Hq->K (j.put o.dst b) h) :
 o.wp R j w K Q:=by
 cases d with
 |none=>
  have G:qs=[]:=by
   cases qs with
   |nil=>rfl
   |cons x U=>let⟨_,_,e,_⟩:=z 0 sP;cases e
  subst G;subst l;have M:=Um (P:=R) (w:=w) f t o.type e i 1 y q v a.length c _ n;unfold Oper.wp execOp;simp only[s,resolve,invoke,builtin,lG,lH,jE,jN,eH,fZ,u,A,bO,M];exact p v w (by simpa using n) (Gr.refl _ _) r
 |some d=>
  let⟨b,h,J,D,E,F,g⟩:=kI (P:=R) w f t o.type e i (Hp 0) 1 8 y q P N I rfl vZ v a.length _ n d m c (qs.map<|Value.int .i64) (by simp[l]) (yY z) (by intro V O;obtain⟨W,-,rfl⟩:=aY.1 O;rfl) (by unfold maxLen;omega) oM H;unfold Oper.wp execOp;simp only[s,resolve,invoke,builtin,lG,lH,jE,jN,eH,fZ,u,A,J];refine p b h (by rw[aQ,bG,<-l];exact D) ⟨E,λS k=>?_⟩ λe=>r (F.1 e).1;rcases g with g|g;·exact aZ (g▸k)
  rw[g]at k;cases k;exact bC<|aA _
theorem KZ(h:Option Addr)(z:Nat)(b:List Addr)(a:List Int)(L B:Nat)(w:World)(A:B<=w.heap.size)(F:Hs (Zx w L B h<|b.map Tx))(e:Hs (a.length=b.length))(G:Hs (∀i (N:i<b.length) (O:i<a.length),b[i].block<w.heap.size/\w.cell? b[i]=some (Hp a[i])))(S:b.length<=1000) :
 Calls prog 99 #[.slice h b.length z] w λg s=>∃v,g=.returned v/\Below w.heap.size w s/\s.ownsRow w.heap.size 2 1 v a.length (a.map<|Value.int .i64):=by
 let⟨K,D,H,I,J⟩:=fX Nv
 go_in
 go_wp2
 go_loopw [3,9] (λv i wr=>∃k:Nat,k<=b.length/\i=Hp k/\Hs (Below w.heap.size w wr)/\Hs (wr.ownsRow w.heap.size 2 1 v (a.take k).length ((a.take k).map (Value.int .i64)))) λ_ i _=>b.length-(intOf i).toNat
 case atStart=>exact⟨0,aN _,rfl,Xa<|Xb (Below.refl _ _) _,Xa (by
  have:=eI (base:=w.heap.size) (e:=2) (size:=1) w #[] 0 sP sP rfl;simpa using this)⟩
 obtain⟨k,R,rfl,c,d⟩:=hrel;have T:=c.size;by_cases n:k<b.length
 .have m:k<a.length:=oN e.o;obtain⟨b2,U,rfl,⟨_,P⟩,j⟩:=(F.keepS<|YA.of_below (c.mono A)) k (by simpa using n);rw[cM]at j;unfold Tx at j;let⟨p,q⟩:=G k n m;have Q:=(c.cell (p:=b[k]) p).trans q;have y:=Xa<|bN m;have f:Hs ((a.take k).length+1<=2000):=Xa (by have:=e.o;simp only[dH];omega);generalize a[k]=V at*;generalize b[k]=W at*;go_wp2_with (at_builtin;refine bT _ rfl _ _ 27 rfl w.heap.size 2 K (Hp 0) 1 8 underlying27 D H I J rfl vZ _ _ _ rfl (d.alloc _) (Hk wr.heap.size 0) 1 1 [Hp V] rfl rfl ?c1 ?c2 ?c3 ?c4 ?c5 ?_)
  case c1=>exact cell_one_new _ _ _
  case c2=>intro X r;simp at r;subst r;rfl
  case c3=>have:=f.o;unfold maxLen;omega
  case c4=>have:=f.o;omega
  case c5=>simp;omega
  intro v1 M o l E C;have u:Hs (M.ownsRow w.heap.size 2 1 v1 (a.take<|k+1).length ((a.take<|k+1).map (Value.int .i64))):=Xa (by
   rw[y.o,x7,aQ,List.map_take,dH];exact o)
  have t:=Xa (Xy ((c).alloc oM _) l (d.alloc _) (aA _) (by simp;omega));go_wp2;exact⟨⟨k+1,oM,gM,t,u⟩,by simp[intOf];omega⟩
 have x:Hs (wr.ownsRow w.heap.size 2 1 u3 a.length<|a.map (Value.int .i64)):=Xa (by have:=d.o;have g:=e.o;rwa[aW oM]at this);go_wp2;go_ret;exact⟨_,rfl,c,x⟩
theorem wS(e c a b d:Int)(w:World) :
 Calls prog 131 #[.agg #[Hp e,Hp c,Hp a,Hp b,Hp d]] w λf g=>f=.returned (.bool (Wu ⟨e,c,a,b,d⟩))/\Below w.heap.size w g:=by
 go_in
 go_wp2
 all_goals
  go_ret;refine⟨Xl ?_,Xb (Below.refl _ _) _⟩
  first|(simp[Wu, *];done)|(simp[Wu, *];omega)
def Uw(w:World):Prop:=0 < w.heap.size/\∀k:Nat,1<=k->k<=13->∃s,w.cell? ⟨0,k*5,none⟩=some (.string s)/\w.cell? ⟨0,k*5+1,none⟩=some (.bool (dB k))/\w.cell? ⟨0,k*5+2,none⟩=some (.bool (aB k)) /\
 w.cell? ⟨0,k*5+3,none⟩=some (.bool (bB k))/\∃i,w.cell? ⟨0,k*5+4,none⟩=some (.bool i)
def T7(w:World):Prop:=1 < w.heap.size/\∀k:Nat,1<=k->k<=3->∃s,w.cell? ⟨1,k*4,none⟩=some (.string s)/\w.cell? ⟨1,k*4+1,none⟩=some (.bool ((k:Int) != 1))/\w.cell? ⟨1,k*4+2,none⟩=some (.bool ((k:Int) != 3)) /\
 w.cell? ⟨1,k*4+3,none⟩=some (.bool ((k:Int)==2))
theorem Uw.keep{w':World}(h:Uw w)(k:Below w.heap.size w w'):Uw w':=by
 refine⟨aX h.1 k.size,λi a b=>?_⟩;have e:=λo=>Xc (o:=o) (k.block 0 h.1);let⟨s,c0,c1,c2,c3,j,c4⟩:=h.2 i a b;exact⟨s,(e _).trans c0,(e _).trans c1,(e _).trans c2,(e _).trans c3,j,(e _).trans c4⟩
theorem T7.keep{w':World}(h:T7 w)(k:Below w.heap.size w w'):T7 w':=by
 refine⟨aX h.1 k.size,λi a b=>?_⟩;have e:=λo=>Xc (o:=o) (k.block 1 h.1);let⟨s,c0,c1,c2,c3⟩:=h.2 i a b;exact⟨s,(e _).trans c0,(e _).trans c1,(e _).trans c2,(e _).trans c3⟩
theorem wj(a e d b f n c:Int)(w:World)(z:c<=13)(l:Hs (Uw w)) :
 Calls prog 112 #[.agg #[Hp a,Hp e,Hp d,Hp b,Hp f],Hp c,Hp n] w λg v=>g=.returned (.bool (Yw n c ⟨a,e,d,b,f⟩))/\Below w.heap.size w v:=by
 by_cases j:1<=a/\a<=c
 .let⟨i,q⟩:=j
  obtain⟨k,rfl⟩:=bX (show 0<=a by omega);have A:=l.1;let⟨C,c0,c1,c2,c3,B,c4⟩:=l.2 k oM oM;have s:Hs (Yw n c ⟨k,e,d,b,f⟩=(Tp (dB k) e 0 n&&Tp (aB k) d 0 n&&Tp (bB k) b 0 n&&Wu ⟨k,e,d,b,f⟩)):=by
   show _=_;unfold Yw;rw[eB i,eB q];simp
  generalize dB (k:Int)=F at*;generalize aB (k:Int)=D at*;generalize bB (k:Int)=E at*;have y:(k:Int)<=13:=oM
  go_in
  go_wp2_with (first|(go_at_call 113;refine(Yp _ _ _ _ _).mono ?_;rintro g p⟨rfl,o⟩;rw[o];clear o p)|(go_at_call 131;refine(wS _ _ _ _ _ _).mono ?_;rintro g p⟨rfl,t⟩))
  all_goals
   go_ret;refine⟨Xl ?_,?_⟩;·rw[s.o];simp[*]
   first|exact Xg (Xb (Xb (Below.refl _ _) _) _) t|exact Xb (Xb (Below.refl _ _) _) _
 have u:∃r,r=Yw n c ⟨a,e,d,b,f⟩/\r=false:=⟨_,rfl,by
  unfold Yw;by_cases i:1<=a;·rw[dJ (p:=a<=c) oM];simp
  rw[dJ (p:=1<=a) i];simp⟩
 obtain⟨r,m,rfl⟩:=u;rw[<-m];clear m;have h:a<1\/(1<=a/\c<a):=oM;clear j;rcases h with h|⟨h,x⟩
 all_goals
  go_in
  go_wp2
  all_goals
   go_ret;exact⟨rfl,Xb (Below.refl _ _) _⟩
theorem TI(e c a b d n:Int)(w:World)(g:Hs (Uw w)) :
 Calls prog 112 #[.agg #[Hp e,Hp c,Hp a,Hp b,Hp d],Hp 10,Hp n] w λf h=>f=.returned (.bool (Yw n 10 ⟨e,c,a,b,d⟩))/\Below w.heap.size w h :=
 wj e c a b d n 10 w vZ g
theorem Kn(a d tg c n low b:Int)(w:World)(f:Hs (T7 w)) :
 Calls prog 111 #[.agg #[Hp a,Hp d,Hp tg,Hp c],Hp n,Hp low,Hp b] w λe p=>e=.returned (.bool (Zu n low b ⟨a,d,tg,c⟩))/\Below w.heap.size w p:=by
 by_cases h:1<=a/\a<=3
 .let⟨j,l⟩:=h
  obtain⟨k,rfl⟩:=bX (show 0<=a by omega);have t:=f.1;let⟨u,c0,c1,c2,c3⟩:=f.2 k oM oM;have m:Hs (Zu n low b ⟨k,d,tg,c⟩=(Tp ((k:Int) != 1) d 0 n&&Tp ((k:Int) != 3) tg low b&&Tp ((k:Int)==2) c low b)):=by
   show _=_;unfold Zu;rw[eB j,eB l];simp
  generalize ((k:Int) != 1)=v at*;generalize ((k:Int) != 3)=y at*;generalize ((k:Int)==2)=x at*
  go_in
  go_wp2_with (go_at_call 113;refine(Yp _ _ _ _ _).mono ?_;rintro e q⟨rfl,i⟩;rw[i];clear i q)
  all_goals
   go_ret;refine⟨Xl ?_,?_⟩;·rw[m.o];simp[*]
   exact Xb (Xb (Below.refl _ _) _) _
 have o:∃r,r=Zu n low b ⟨a,d,tg,c⟩/\r=false:=⟨_,rfl,qS h⟩;obtain⟨r,g,rfl⟩:=o;rw[<-g];clear g;have s:a<1\/3<a:=oM;clear h
 go_in
 go_wp2
 all_goals
  go_ret;exact⟨rfl,Xb (Below.refl _ _) _⟩
theorem J4(t:Yj)(w:World) :
 Calls prog 57 #[.agg #[Hp t.kind,Hp t.a,Hp t.to,Hp t.els]] w λj f=>∃g c,j=.returned (.slice g t.tg.length c)/\Below w.heap.size w f/\Xf f w.heap.size f.heap.size g t.tg:=by
 let⟨b,l,tg,k⟩:=t;by_cases d:b=1
 .subst d
  go_in
  go_wp2;go_ret;refine⟨_,_,rfl,Xb (Xb (Below.refl _ _) _) _,λi a=>?_⟩;simp[Yj.tg]at a;subst a;exact⟨_,_,rfl,⟨sP,sP⟩,by simp[Yj.tg]⟩
 by_cases e:b=2
 .subst e
  go_in
  go_wp2;go_ret;refine⟨_,_,rfl,Xb (Xb (Below.refl _ _) _) _,λi a=>?_⟩;simp[Yj.tg]at a
  match i,a with
  |0,_=>exact⟨_,_,rfl,⟨sP,sP⟩,by simp[Yj.tg]⟩
  |1,_=>exact⟨_,_,rfl,⟨sP,sP⟩,by simp[Yj.tg]⟩
 have e1:(b==1)=false:=by simp[d]
 have e2:(b==2)=false:=by simp[e]
 have h:(Yj.tg ⟨b,l,tg,k⟩)=[]:=by simp[Yj.tg,d,e]
 rw[h]
 go_in
 go_wp2;go_ret;exact⟨_,_,rfl,Xb (Below.refl _ _) _,λi a=>absurd a sP⟩
def iB(a:Int):Bool:=decide (a<=2)
def E6(k:Int):List UInt8:=if k=1 then [106,117,109,112]else if k=3 then [114,101,116]else [98,114,97,110,99,104]
def Yy(w:World):Prop:=0 < w.heap.size/\∀k:Nat,1<=k->k<=13->w.cell? ⟨0,k*5,none⟩=some (.string (K8<|mp k))/\w.cell? ⟨0,k*5+1,none⟩=some (.bool (dB k))/\w.cell? ⟨0,k*5+2,none⟩=some (.bool (aB k)) /\
 w.cell? ⟨0,k*5+3,none⟩=some (.bool (bB k))/\w.cell? ⟨0,k*5+4,none⟩=some (.bool (iB k))
def Yb(w:World):Prop:=1 < w.heap.size/\∀k:Nat,1<=k->k<=3->w.cell? ⟨1,k*4,none⟩=some (.string (K8<|E6 k))/\w.cell? ⟨1,k*4+1,none⟩=some (.bool ((k:Int) != 1))/\w.cell? ⟨1,k*4+2,none⟩=some (.bool ((k:Int) != 3)) /\
 w.cell? ⟨1,k*4+3,none⟩=some (.bool ((k:Int)==2))
theorem Yy.keep{w':World}(h:Yy w)(k:Below B w w')(c:0 < B):Yy w':=by
 refine⟨aX h.1 k.size,λi a b=>?_⟩;have e:=λo=>Xc (o:=o) (k.block 0 c);let⟨c0,c1,c2,c3,c4⟩:=h.2 i a b;exact⟨(e _).trans c0,(e _).trans c1,(e _).trans c2,(e _).trans c3,(e _).trans c4⟩
theorem Yb.keep{w':World}(h:Yb w)(k:Below B w w')(c:1 < B):Yb w':=by
 refine⟨aX h.1 k.size,λi a b=>?_⟩;have e:=λo=>Xc (o:=o) (k.block 1 c);let⟨c0,c1,c2,c3⟩:=h.2 i a b;exact⟨(e _).trans c0,(e _).trans c1,(e _).trans c2,(e _).trans c3⟩
theorem Yy.old(h:Yy w):Uw w:=⟨h.1,λk a b=>by
 let⟨c0,c1,c2,c3,c4⟩:=h.2 k a b;exact⟨_,c0,c1,c2,c3,_,c4⟩⟩
theorem Yb.old(h:Yb w):T7 w:=⟨h.1,λk a b=>by
 let⟨c0,c1,c2,c3⟩:=h.2 k a b;exact⟨_,c0,c1,c2,c3⟩⟩
theorem J7(w:World)(a:List Value)(t:TypeId)(f:List Value)(d:TypeId):Zx ((w.alloc<|.cells a.toArray t).alloc (.cells f.toArray d)).drew w.heap.size (w.heap.size+2) (some ⟨w.heap.size,0,none⟩) a:=λi c=>
 ⟨_,0,rfl,⟨aA _,oM⟩,by
  let⟨b,o,e,_,h⟩:=qV w a t i c;cases e;exact(Xc<|Below.heap_alloc _ _ _ sP).trans h⟩
theorem J6(w:World)(d:List Value)(t:TypeId)(c:List Value)(a:TypeId):Zx ((w.alloc<|.cells c.toArray a).alloc (.cells d.toArray t)).drew w.heap.size (w.heap.size+2) (some ⟨w.heap.size+1,0,none⟩) d:=λi f=>
 ⟨_,0,rfl,⟨oM,oM⟩,by
  let⟨b,o,e,_,h⟩:=qV (w.alloc<|.cells c.toArray a) d t i f;have e1:(w.alloc<|.cells c.toArray a).heap.size=w.heap.size+1:=sP;rw[e1]at e;cases e;exact h⟩
def Ft(x:Yg):List Int:=(if aB x.op then [x.a]else [])++(if bB x.op then [x.b]else [])
theorem r6(b k:Nat)(l i j m:Int)(w:World)(hi:Hs (Jk w b 0 ⟨k,l,i,j,m⟩))(Y:1<=k)(I:k<=13)(N:Hs (Yy w)) :
 Calls prog 118 #[Hn b] w λe f=>∃v,e=.returned v/\Below w.heap.size w f/\f.ownsRow w.heap.size 2 1 v (Ft ⟨k,l,i,j,m⟩).length ((Ft ⟨k,l,i,j,m⟩).map (Value.int .i64)):=by
 obtain⟨O,q1,q2,B,P⟩:=hi.o;simp only at O q1 q2 B P;obtain⟨c0,c1,c2,c3,c4⟩:=N.2 k Y I;have hz:=N.1;have L:b<w.heap.size:=aI w _ q2;have x:Hs (Ft ⟨k,l,i,j,m⟩=(if aB (k:Int)then [i]else [])++(if bB (k:Int)then [j]else [])):=Xa rfl;generalize Ft ⟨k,l,i,j,m⟩=C at*;generalize dB (k:Int)=uD at*;generalize aB (k:Int)=c at*;generalize bB (k:Int)=d at*;generalize iB (k:Int)=uI at*;have E:=Xa q2;have F:=Xa B
 go_in
 go_wp2_with fail
 have Z:(λt:World=>t.heap.size=w.heap.size+1/\t.cell? (Hk w.heap.size 2)=some (.bool c)/\t.cell? (Hk w.heap.size 3)=some (.bool d)/\Hs (Below w.heap.size w t)) (w.alloc<|.cells #[.string (K8<|mp k),.bool uD,.bool c,.bool d,.bool uI] 174):=⟨sP,sP,sP,Xa<|Xb (Below.refl _ _) _⟩;generalize w.alloc _=a at*;obtain⟨e1,G,H,u⟩:=Z;clear O q1 q2 B P c0 c1 c2 c3 c4;have aj:=Xa e1;have q:w.heap.size<a.heap.size:=oM;clear e1;have y:Hs (∀(s n:Option Addr)(W:World),Below a.heap.size a W->Zx W a.heap.size W.heap.size s ([c,d].map Value.bool)->Zx W a.heap.size W.heap.size n ([(Hk b 2),(Hk b 3)].map Tx)->Calls prog 100 #[.slice s 2 2,.slice n 2 2] W λe g=>∃h c5 m5,e=.returned (.slice h m5 c5)/\g.cell? (Hk w.heap.size 2)=some (.bool c)/\g.cell? (Hk w.heap.size 3)=some (.bool d) /\
  Hs (Calls prog 99 #[.slice h m5 c5] g λe f=>∃v,e=.returned v/\f.cell? (Hk w.heap.size 2)=some (.bool c)/\f.cell? (Hk w.heap.size 3)=some (.bool d)/\Hs (Below w.heap.size w f)/\Hs (f.ownsRow w.heap.size 2 1 v C.length<|C.map (Value.int .i64)))):=Xa (λs n W J hk hp=>by
  have al:=J.size;refine(UA s n 2 2 [c,d] [(Hk b 2),(Hk b 3)] a.heap.size W.heap.size W (aA _) (Xa hk) (Xa hp) (Xa rfl) sP).mono ?_;rintro e g⟨v5,rfl,K,ab⟩;have s5:=K.size;have r:=Xg J K;obtain⟨h,c5,rfl,ad⟩:=UO ab;rw[bK];have M:=u.trans<|r.mono oM;refine⟨h,c5,_,rfl,oB r G q,oB r H q,Xa ?_⟩;have Q:=oB M E L;have R:=oB M F L;have p:b<g.heap.size:=oM;refine(KZ h c5 (Yd [c,d] [(Hk b 2),(Hk b 3)]) C W.heap.size g.heap.size g (aA _) (Xa ad) (Xa ?_) (Xa ?_) ?_).mono ?_;·rw[x.o];cases c<;>cases d<;>rfl
  .intro z o h';have af:=x.o;subst af;cases c<;>cases d;·exact absurd o<|by simp[Yd]
   .match z,o with
    |0,_=>exact⟨p,R⟩
   .match z,o with
    |0,_=>exact⟨p,Q⟩
   match z,o with
   |0,_=>exact⟨p,Q⟩
   |1,_=>exact⟨p,R⟩
  .cases c<;>cases d<;>simp[Yd]
  rintro e w7⟨S,rfl,aa,ac⟩
  have A:=Xg r aa;exact⟨S,rfl,oB A G q,oB A H q,Xa<|u.trans (A.mono oM),Xa<|Zk ac oM⟩)
 have U:=Xa (y.o (some ⟨a.heap.size,0,none⟩) (some ⟨a.heap.size+1,0,none⟩) ((a.alloc<|.cells #[.bool c,.bool d] 4).alloc (.cells #[Ho b 2,Ho b 3] 176)).drew (Xb (Xb (Below.refl a.heap.size a) _) _).drew (by rw[show((a.alloc<|.cells #[.bool c,.bool d] 4).alloc (.cells #[Ho b 2,Ho b 3] 176)).drew.heap.size=a.heap.size+2 from by show((a.alloc<|.cells #[.bool c,.bool d] 4).alloc (.cells #[Ho b 2,Ho b 3] 176)).heap.size=_;simp];exact J7 a [.bool c,.bool d] 4 [Ho b 2,Ho b 3] 176) (by rw[show((a.alloc<|.cells #[.bool c,.bool d] 4).alloc (.cells #[Ho b 2,Ho b 3] 176)).drew.heap.size=a.heap.size+2 from by show((a.alloc<|.cells #[.bool c,.bool d] 4).alloc (.cells #[Ho b 2,Ho b 3] 176)).heap.size=_;simp];exact J6 a [Ho b 2,Ho b 3] 176 [.bool c,.bool d] 4));have V:=Xa (y.o (some ⟨a.heap.size+1,0,none⟩) (some ⟨a.heap.size,0,none⟩) ((a.alloc<|.cells #[Ho b 2,Ho b 3] 176).alloc (.cells #[.bool c,.bool d] 4)).drew (Xb (Xb (Below.refl a.heap.size a) _) _).drew (by rw[show((a.alloc<|.cells #[Ho b 2,Ho b 3] 176).alloc (.cells #[.bool c,.bool d] 4)).drew.heap.size=a.heap.size+2 from by show((a.alloc<|.cells #[Ho b 2,Ho b 3] 176).alloc (.cells #[.bool c,.bool d] 4)).heap.size=_;simp];exact J6 a [.bool c,.bool d] 4 [Ho b 2,Ho b 3] 176) (by rw[show((a.alloc<|.cells #[Ho b 2,Ho b 3] 176).alloc (.cells #[.bool c,.bool d] 4)).drew.heap.size=a.heap.size+2 from by show((a.alloc<|.cells #[Ho b 2,Ho b 3] 176).alloc (.cells #[.bool c,.bool d] 4)).heap.size=_;simp];exact J7 a [Ho b 2,Ho b 3] 176 [.bool c,.bool d] 4));clear y u E F x
 go_region_held3 (λf=>f.cell? (Hk w.heap.size 2)=some (.bool c)/\f.cell? (Hk w.heap.size 3)=some (.bool d)) (go_keep)
  (first
   |(go_at_call 100;with_reducible refine U.o.mono ?_;rintro e g⟨h,c5,m5,rfl,f2,f3,D⟩)
   |(go_at_call 100;with_reducible refine V.o.mono ?_;rintro e g⟨h,c5,m5,rfl,f2,f3,D⟩)
   |(go_at_call 99;with_reducible refine D.o.mono ?_;rintro e w7⟨S,rfl,I,h3,T,X⟩))
 all_goals
  go_wp2;go_ret;exact⟨_,rfl,T,X⟩
section
variable {w w' w1 w2: World} {B gv gh: Nat}
variable {t: Nat} {tv: Value} {vals hp tr: List Int}
variable {r: Nat} {W: World}
theorem Gf{u:Bool}{x b a:Int}(h:Tp u x b a=true)(c:u=true):b<=x/\x<a:=by
 subst c;simpa [Tp]using h
theorem FL{n:Int}{k:Nat}{p:Ph}(h:ZX n k p=true):(0<=p.dst/\p.dst<n)/\p.args.length=k/\∀a∈p.args,0<=a/\a<n:=by
 simp only[ZX,Jt,bY,bD,dV]at h;let⟨b,⟨e,c⟩,d⟩:=h;exact⟨Gf b rfl,c,d⟩
end
structure Nd where
 code:Int
 value:Int
 steps:Nat
 tr:List Int
 hp:List Int
def de(a:List Int)(p:Int):Nat:=a.findIdx λy=>p==y
theorem pq(h:t∈l):de l t<l.length:=by
 unfold de;rw[List.findIdx_lt_length];exact⟨t,h,sP⟩
theorem Gv(h:de l t<l.length):l[de l t]=t:=by
 have:=List.findIdx_getElem (p:=λy=>t==y) (xs:=l) (w:=h);simp only[iA]at this;exact this.symm
theorem GH(h:n<de l t)(a:n<l.length):(t==l[n])=false:=by
 have:=List.not_of_lt_findIdx (p:=λy=>t==y) (xs:=l) (i:=n) h;simpa using this
def Ha(q:Nat)(b:List Ph):List (Int×Int):=b.map λa=>(a.dst,a.args.getD q 0)
section
structure ag where
 is:List Yg
 te:Yj
def ii(w:World)(L B b o:Nat)(x:ag):Prop :=
 ∃a c,w.cell? ⟨b,o,none⟩=some (.slice a x.is.length c)/\Va w b (o+1) x.te/\YY w L B a x.is
def dp(w:World)(L B:Nat)(c:Option Addr)(a:List ag):Prop :=
 ∀i (h:i<a.length),∃b o,c=some ⟨b,o,none⟩/\(L<=b/\b<B)/\ii w L B b (o+i*5) a[i]
variable {w w': World} {L B: Nat}
theorem ii.keepS{b o:Nat}{x:ag}(h:ii w L B b o x)(k:YA L B w w')(e:w'.heap[b]?=w.heap[b]?):ii w' L B b o x:=by
 let⟨f,g,a,c,d⟩:=h;exact⟨f,g,(Xc e).trans a,c.keepS e,d.keepS k⟩
theorem dp.keepS{c:Option Addr}{d:List ag}(h:dp w L B c d)(k:YA L B w w'):dp w' L B c d:=λi g=>by
 let⟨b,o,e,a,f⟩:=h i g;exact⟨b,o,e,a,f.keepS k<|k b a.1 a.2⟩
theorem dp.keep{a:Option Addr}{b:List ag}(h:dp w L B a b)(k:Below B w w'):dp w' L B a b:=h.keepS<|YA.of_below k
theorem ii.mono{c a:Nat}{b o:Nat}{x:ag}(h:ii w L B b o x)(l:c<=L)(k:B<=a):ii w c a b o x:=by
 let⟨g,i,d,e,f⟩:=h;exact⟨g,i,d,e,f.mono l k⟩
theorem dp.mono{c a:Nat}{d:Option Addr}{e:List ag}(h:dp w L B d e)(l:c<=L)(k:B<=a):dp w c a d e:=λj i=>by
 let⟨b,o,f,m,g⟩:=h j i;exact⟨b,o,f,oM,g.mono l k⟩
end
section
variable {F: Fence} {n: Nat} {P: Program} {α: Type}
def ld(F:Fence)(n:Nat)(P:Program)(h:Nat)(i:Array Value)(g:α->Array Value)(f:α->World->Prop)(d:World->World->Prop)(S:List α->Prop)(N:Nat)(w:World):Prop :=
 ∀(l:Nat)(J:List α->World->Prop)(W:World),Below w.heap.size w W->l<W.heap.size->OwnFrom W.heap.size J ->
  (∀b x V,J b V->f x V->b.length<N->YieldAt F (n-1) P l (g x) V λe a=>e=.returned (.bool true)/\J (b++[x]) a/\d V a/\KeepsFrom W.heap.size V a) ->
  J [] W->CallsIn F n P h (#[.func (.yield l) #[] #[]]++i) W λe V=>(∃v,e=.returned v)/\∃c,S c/\J c V
def KR(fn:FuncId)(f:Array Value)(d:Array Tmp)(a b:Code)(D:Nat)(e:LoopState)(c:Option Code):Loop:={ state:=e,pending:=c,fn,tmps:=f,params:=d,assign:=a,body:=b,defers:=D }
def Ze(W:World)(D:Nat)(r:Loop):Prop:=W.heap[D+1]?=some (.loop r)/\W.heap[D]?=some (.deferred (some []))
theorem Ze.put{W:World}{D:Nat}{r:Loop}(h:Ze W D r)(a:Loop):Ze (W.putObj (D+1) (.loop a)) D a :=
 ⟨World.putObj_heap_same (aS.1 h.1).1,(World.putObj_heap_other oM).trans h.2⟩
theorem Ze.own{W V:World}{D:Nat}{r:Loop}{row:Option Nat}(h:Ze W D r)(g:W.grownBy V row)(a:∀k,row=some k->D+2<=k):Ze V D r :=
 ⟨(g.block _ (aS.1 h.1).1 λe=>by have:=a _ e.symm;omega).trans h.1,(g.block _ (aS.1 h.2).1 λe=>by have:=a _ e.symm;omega).trans h.2⟩
theorem Ze.keeps{W V:World}{D:Nat}{r:Loop}(h:Ze W D r)(k:KeepsOthers W V):Ze V D r:=⟨k.same _ _ h.1 rfl,k.same _ _ h.2 rfl⟩
theorem Ze.fin{W:World}{D:Nat}{fn:FuncId}{d:Array Value}{c:Array Tmp}{a b:Code}(h:Ze W D (KR fn d c a b D .busy none))(j:Option Code):(Instr.endRound (D+1) j).run P W=.ok (.bool j.isNone) (W.putObj (D+1) (.loop (KR fn d c a b D (if j.isNone then .ready else .done) j))):=run_endRound j h.1
theorem tH{M:Operand}{c:Array Tmp}{h i:Code}{Q:Exit->Act->World->Prop}{a:Act}{w:World}(a9:F.round=none)(h1:1<=n){gf:Nat}{lb:Array Value}(hg:a.eval M=.func (.func gf) #[] lb)(aj:F.fn gf)(eg:∀args w,(callFunc gf args).run P w=.ok (.enter gf args) w)
 {E:α->Array Value} {u:α->World->Prop} {l:World->World->Prop} {S:List α->Prop} {N:Nat} {y:World} (ba:ld F (n-1) P gf lb E u l S N y) (ao:OwnFrom w.heap.size u) (G:∀{A J K:World},l A J->l J K->l A K) (O:∀(W:World)(m:Nat)(o o':Obj),w.heap.size<=m->W.heap[m]?=some o->o.isCells=false->l W (W.putObj m o')) (R:Below y.heap.size y w) (a5:∀x,(E x).size=c.size)
 (I:List α->World->Prop) (r:OwnFrom w.heap.size I) (h0:I [] w) (C:α->Act->World->Prop) (ad:∀x g,OwnFrom w.heap.size λ(_:Unit) W=>C x g W)
 (aq:∀(m:Nat)(b:List α)(x:α)(W:World)(L:Act->World->Prop),I b W->u x W->(∀g d,KeepsOthers W d->l W d->I b d->u x d->C x g d->L g d)->h.wpIn (F.inRound m) (n-1-1) P (Exit.then L λ_ _ _=>False) { tmps:=(c.zip<|E x).foldl (λaa (p,ab)=>aa.setIfInBounds p ab) a.tmps,defers:=[] } W)
 (ax:∀(m:Nat)(b:List α)(x:α)(g:Act)(W:World),I b W->u x W->C x g W->b.length<N->i.wpIn (F.inRound m) (n-1-1) P (ownPostK l I (λ_ _ _=>False) (b++[x]) W) g W)
 (ay:∀(D:Nat)(B:List α)(W:World),w.heap.size<=D->S B->I B W->W.heap[D]?=some (.deferred (some []))->Q .normal { a with defers:={ target:=.collected D,args:=#[] }:: a.defers } W) :
 (Code.rangeFunc M c h i).wpIn F n P Q a w:=by
 refine wpIn_rangeFunc λfn az=>?_;rw[a9];have X:=run_enterLoop_outer (P:=P) (w:=w) fn a.tmps c h i;generalize v:(w.alloc<|.deferred (some [])).alloc (.loop { state:=.ready,pending:=none,fn,tmps:=a.tmps,params:=c,assign:=h,body:=i,defers:=w.heap.size })=f at X;have ap:Ze f w.heap.size (KR fn a.tmps c h i w.heap.size .ready none):=by
  subst v;refine⟨?_,?_⟩
  .have:=World.alloc_heap_new (w.alloc<|.deferred (some [])) (.loop (KR fn a.tmps c h i w.heap.size .ready none));rwa[aO]at this
  exact(Below.heap_alloc _ _ _ sP).trans (World.alloc_heap_new w _)
 have bf:f.heap.size=w.heap.size+2:=by subst v;simp
 have al:I [] f:=by subst v;exact r.alloc _<|r.alloc _ h0
 have af:Below y.heap.size y f:=by
  subst v;exact R.trans<|(Xb (Xb (Below.refl w.heap.size w) _) _).mono R.size
 refine⟨_,_,f,{ target:=.fn (.func gf) lb,args:=#[.func (.yield (w.heap.size+1)) #[] #[]] },f,gf,#[.func (.yield (w.heap.size+1)) #[] #[]]++lb,f,X,?_,?_,?_,λ_=>h1,?_⟩
 .simp only[resolve,hg];simp[go_sem]
 .intro f' T;simp[Target.leads]at T;subst T;exact aj
 .simp[invoke,go_sem,eg]
 have ow:∀{Z:Loop}{A V:World}{row:Option Nat},Ze A w.heap.size Z->A.grownBy V row->(∀k,row=some k->f.heap.size<=k/\∃o:Obj,A.heap[k]?=some o/\o.isCells=false)->Ze V w.heap.size Z:=λac k q=>ac.own k (λbd e=>by have:=(q bd e).1;omega);have fr:∀{A:World}{row:Option Nat},(∀k,row=some k->f.heap.size<=k/\∃o:Obj,A.heap[k]?=some o/\o.isCells=false)->∀k,row=some k->w.heap.size<=k/\∃o:Obj,A.heap[k]?=some o/\o.isCells=false:=λq k e=>⟨oN<|(q k e).1,(q k e).2⟩
 refine(ba (w.heap.size+1) (λb W=>I b W/\Ze W w.heap.size (KR fn a.tmps c h i w.heap.size .ready none)) f af oM
  (λbc A V row Y k q=>⟨r bc A V row Y.1 k<|fr q,ow Y.2 k q⟩) ?_ ⟨al,ap⟩).mono ?_
 .rintro b x W⟨H,s⟩ a6 a4;have hy:=run_yield (P:=P) s.1 (a5 x);refine⟨_,_,_,_,hy,roundIn_of_wpIn az<|aq _ b x W _ H a6 λg d U a2 a0 a7 ar=>?_⟩;have t:=s.keeps U;refine⟨_,run_beginRound t.1 rfl,?_⟩;have a8:Ze (d.putObj (w.heap.size+1) (.loop (KR fn a.tmps c h i w.heap.size .busy none))) w.heap.size (KR fn a.tmps c h i w.heap.size .busy none):=t.put _;have a1:l W (d.putObj (w.heap.size+1) (.loop (KR fn a.tmps c h i w.heap.size .busy none))):=G a2<|O _ _ _ _ oM t.1 rfl;refine wpIn_mono (ax _ b x g _ (r.putObj _ a0 oM t.1 rfl) (ao.putObj _ a7 oM t.1 rfl) ((ad x g).putObj (s:=()) _ ar oM t.1 rfl) a4) ?_;rintro e a3 V j;cases e with
  |normal=>
   have z:=a8.keeps j.1;exact⟨_,_,z.fin none,⟨rfl,⟨r.putObj _ j.2.2 oM z.1 rfl,z.put _⟩,G (G a1 j.2.1) (O _ _ _ _ oM z.1 rfl),(((U.from _).trans (KeepsFrom.of_grownBy (grownBy_putObj' d _ _) λbb e=>by cases e;omega)).trans (j.1.from _)).trans (KeepsFrom.of_grownBy (grownBy_putObj' V _ _) λbb e=>by cases e;omega)⟩⟩
  |ret=>exact j.2.elim
  |exit id=>exact j.2.elim
  |goto aa=>exact j.2.elim
  |panic ch=>exact j.elim
  |outgrown=>exact j.elim
 rintro e V⟨⟨ab,rfl⟩,B,hS,H,s⟩;exact⟨none,_,run_endLoop s.1 (by simp[KR]),ay _ B _ (aA _) hS (r.putObj _ H oM s.1 rfl) (s.put _).2⟩
end
section
attribute [local go_sem] Oper.semAt_some
structure Zf(n₀:Nat)(Ms:Nat->Prop)(V V':World):Prop where
 size:V.heap.size<=V'.heap.size
 low:∀k,k<n₀->¬Ms k->V'.heap[k]?=V.heap[k]?
 cells:∀(k:Nat)(o:Obj),¬Ms k->V.heap[k]?=some o->o.isCells=true->V'.heap[k]?=some o
theorem Zf.refl(V:World):Zf n d V V:=⟨aA _,λ_ _ _=>rfl,λ_ _ _ h _=>h⟩
theorem Zf.trans(h:Zf n d w v)(k:Zf n d v u):Zf n d w u :=
 ⟨aJ h.size k.size,λi c a=>(k.low i c a).trans (h.low i c a),λi o a e b=>k.cells i o a (h.cells i o a e b) b⟩
theorem Zf.putObj(W:World)(l:Nat)(o c:Obj)(j:n<=l)(h:W.heap[l]?=some o)(g:o.isCells=false):Zf n d W (W.putObj l c):=by
 have f:=grownBy_putObj' W l c;refine⟨f.size,λk i _=>?_,λk m _ a b=>?_⟩;·exact World.putObj_heap_other oM
 exact(World.putObj_heap_other λe=>by subst e;rw[h]at a;injection a with a;subst a;rw[g]at b;cases b).trans a
theorem Zf.of_below(h:Below w.heap.size w v)(c:n<=w.heap.size):Zf n d w v :=
 ⟨h.size,λk b _=>h.block k oM,λk o _ a _=>(h.block k (aS.1 a).1).trans a⟩
theorem Yn{p:Addr}(h:w.cell? p=some a):∃o:Obj,w.heap[p.block]?=some o/\o.isCells=true:=by
 unfold World.cell? at h;cases ho:w.heap[p.block]? with
 |none=>simp[ho]at h
 |some o=>exact⟨o,rfl,by cases o<;>simp_all[Obj.isCells]⟩
theorem Zf.block(h:Zf n d w v){p:Addr}(e:w.cell? p=some a)(f:¬d p.block):v.heap[p.block]?=w.heap[p.block]?:=by
 let⟨o,b,c⟩:=Yn e;rw[b];exact h.cells _ _ f b c
theorem Zf.cell(h:Zf n d w v){p:Addr}(b:w.cell? p=some a)(c:¬d p.block):v.cell? p=some a :=
 (bZ<|h.block b c).trans b
def iq(x:Yg):Value:=.agg #[.int .i64 x.op,.int .i64 x.dst,.int .i64 x.a,.int .i64 x.b,.int .i64 x.imm]
def Us(n:Nat)(k:Nat):List (Fin n):=((List.finRange n).reverse).take (n-k)
theorem Ua(n:Nat):Us n n=[]:=by simp[Us]
theorem Vf(n k:Nat):(Us n k).length=n-k:=by simp[Us]
theorem TJ(h:m<n):Us n m=Us n (m+1)++[⟨m,h⟩]:=by
 unfold Us;have e:n-m=(n-(m+1))+1:=oM;rw[e,bN<|by simp;omega];congr 1;simp;omega
theorem V6(F:Fence)(n:Nat)(d:F.fn 117)(f:F.round=none)(a:Option Addr)(c b:Nat)(w:World) :
 CallsIn F n prog 117 #[.slice a c b] w λe g=>e=.returned (.func (.func 132) #[] #[.pointer (some ⟨w.heap.size,0,none⟩)])/\g=w.alloc (.cells #[.slice a c b] 38):=by
 refine iD func117 rfl d ?_ f;simp only[ntmps117,xY,Nat.reduceAdd,Nat.reduceSub];gi_wp2;go_ret;exact⟨rfl,rfl⟩
end
section
section
variable {F: Fence} {n: Nat} {P: Program} {ops: Array Oper} {Q: Exit -> Act -> World -> Prop} {md: Region.Mode} {S: World -> Prop}
def WQ(ops:Array Oper):Bool:=ops.toList.all λo=>match o.op with|.defer _=>false|_=>true
theorem KN(h:WQ ops=true){j:Nat}{o:Oper}(hj:ops[j]?=some o):∀c,o.op≠.defer c:=λc e=>by
 have hm:o∈ops.toList:=by
  obtain⟨hlt,rfl⟩:=aS.1 hj;simp
 have:=dV.1 h o hm;rw[e]at this;cases this
def YG(P:Program)(ops:Array Oper)(S:World->Prop)(o:Oper)(v:Value)(a:Act):Prop:=YieldsIf P ops S o v a/\∀w,o.about P w a.eval=none
theorem YG.wpOpIn{i:Nat}{o:Oper}{v:Value}{a:Act}(hd:∀c,o.op≠.defer c)(hi:ops[i]?=some o)(hy:YG P ops S o v a)
 {K:Act->World->Prop} {w:World} (hS:S w) (h:K (a.put o.dst v) w):wpOpIn F n P ops Q i K a w:=by
 unfold Go.wpOpIn;simp only[hi];have hab:∀f,o.about P w a.eval=some f->F.fn f:=λf hf=>by rw[hy.2 w]at hf;cases hf
 rcases hy.1 with⟨hw,hv⟩|⟨hw,rfl⟩;·simp only[hw,gG,Oper.wpIn,Oper.semAt_plain F a.eval o hd,hv w hS,Oper.uponIn];exact⟨hab,h⟩
 simp only[hw,Bool.false_eq_true,fD];exact⟨hab,h⟩
theorem YG.of_same{o:Oper}{v:Value}{a a':Act}(hy:YG P ops S o v a)(he:execOp a'.eval o=execOp a.eval o)
 (hw:Region.wanted o (yielded ops a'.tmps)=Region.wanted o (yielded ops a.tmps)) (hb:∀w,o.about P w a'.eval=o.about P w a.eval):YG P ops S o v a' :=
 ⟨hy.1.of_same he hw,λw=>by rw[hb w];exact hy.2 w⟩
theorem wP{j:Nat}{oi oj:Oper}{v:Value}(hdj:∀c,oj.op≠.defer c)(hj:ops[j]?=some oj)(hap:oi.apart ops oj=true)
 (hsi:∀cs b,oi.op≠.select cs b) (hsj:∀cs b,oj.op≠.select cs b)
 (hQ:∀c a w,Q (.panic c) (a.put oi.dst v) w->Q (.panic c) a w) {K:Act->World->Prop} {a:Act} {w:World}
 (hy:YG P ops S oi v a) (h:wpOpIn F n P ops Q j K (a.put oi.dst v) w) :
 wpOpIn F n P ops Q j (λa' w'=>YG P ops S oi v a'/\K (a'.put oi.dst v) w') a w:=by
 let⟨h1,h2,h3⟩:=Oper.apart_spec hap;have keep:∀(a:Act),YG P ops S oi v a->∀u,YG P ops S oi v (a.put oj.dst u):=λa hy u=>
  hy.of_same (execOp_put oi hsi a oj.dst u h3) (wanted_put oi a oj.dst u h3) λw=>about_put oi w a oj.dst u h3
 have keepD:∀d,YG P ops S oi v { a with defers:=d::a.defers }:=λd=>hy.of_same rfl rfl λ_=>rfl;unfold wpOpIn at*;simp only[hj]at*;rw[wanted_put oj a oi.dst v h1,about_put oj w a oi.dst v h1]at h;split
 .rename_i hw;simp only[hw,gG]at h;unfold Oper.wpIn at*;rw[about_put oj w a oi.dst v h1]at h;refine⟨h.1,?_⟩;have h:=h.2;rw[Oper.semAt_plain F _ oj hdj,execOp_put oj hsj a oi.dst v h1]at h;rw[Oper.semAt_plain F _ oj hdj];generalize (execOp a.eval oj).run P w=r at*;cases r with
  |ok x w'=>
   cases x<;>simp only[Oper.uponIn]at h |-
   case value u=>exact⟨keep a hy u,by rw[<-jP a v u h2];exact h⟩
   case skip=>exact⟨keep a hy _,by rw[<-jP a v undef h2];exact h⟩
   case defer d=>
    refine⟨keep _ (keepD d) _,?_⟩;rw[<-jP _ v undef h2,<-Act.put_defers];exact h
   case enter f args=>
    refine⟨h.1,CallsIn.mono h.2 λe w'' he=>?_⟩;cases e with
    |returned u=>exact⟨keep a hy u,by rw[<-jP a v u h2];exact he⟩
    |panicked c=>exact hQ _ _ _ he
    |outgrown=>exact he
   case row row args=>exact⟨h.1,RowsIn.mono h.2 λu w'' he=>⟨keep a hy u,by rw[<-jP a v u h2];exact he⟩⟩
   case round l f tmps assign body=>
    refine⟨h.1,RoundIn.mono h.2 λe w'' he=>?_⟩;cases e with
    |returned u=>exact⟨keep a hy u,by rw[<-jP a v u h2];exact he⟩
    |panicked c=>exact hQ _ _ _ he
    |outgrown=>exact he
  |halt x w'=>
   cases x<;>simp only[Oper.uponIn]at h |-
   case panic u=>exact hQ _ _ _ h
 rename_i hw;simp only[hw]at h;exact⟨h.1,keep a hy _,by rw[<-jP a v undef h2];exact h.2⟩
def Y9(F:Fence)(n:Nat)(P:Program)(md:Region.Mode)(ops:Array Oper)(Q:Exit->Act->World->Prop)(S:World->Prop):Nat->Array Bool->Act->World->Prop
 |0,listed,a,w=>Region.ready md ops listed=[]/\Q .normal a w
 |fuel+1,listed,a,w=>
  (Region.ready md ops listed=[]->Q .normal a w) /\
  ∀i∈Region.ready md ops listed,wpOpIn F n P ops Q i (λa' w'=>S w'/\Y9 F n P md ops Q S fuel (listed.setIfInBounds i true) a' w') a w
theorem K6:∀(fuel:Nat)(listed:Array Bool)(a:Act)(w:World),Y9 F n P md ops Q S fuel listed a w->wpAnyIn F n P md ops Q fuel listed a w
 |0,_,_,_,h=>h
 |fuel+1,_,_,_,h=>⟨h.1,λi hi=>wpOpIn_mono (λa' w' h'=>K6 fuel _ a' w' h'.2) (h.2 i hi)⟩
theorem wu{i:Nat}{oi:Oper}{v:Value}(hnd:WQ ops=true)(hi:ops[i]?=some oi)(hsel:∀(j:Nat)(o:Oper) cs b,ops[j]?=some o->o.op≠.select cs b)
 (hQ:∀c a w,Q (.panic c) (a.put oi.dst v) w->Q (.panic c) a w) :
 ∀(fuel:Nat)(listed:Array Bool)(a:Act)(w:World),
  (∀j oj,ops[j]?=some oj->j≠i->listed.getD j true=false->(∀e∈oj.after,Region.binds md e=true->e.on≠i)->oi.apart ops oj=true) ->
  i∈Region.ready md ops listed->YG P ops S oi v a->S w ->
  Y9 F n P md ops Q S fuel (listed.setIfInBounds i true) (a.put oi.dst v) w->Y9 F n P md ops Q S (fuel+1) listed a w:=by
 intro fuel
 induction fuel with
 |zero=>
  intro listed a w _ hr hy hS H;refine⟨λh=>(by rw[h]at hr;cases hr),λj hj=>?_⟩;by_cases hji:j=i;·subst hji;exact hy.wpOpIn (KN hnd hi) hi hS ⟨hS,H⟩
  have:=ready_mono hj hji;rw[H.1]at this;cases this
 |succ fuel ih=>
  intro listed a w hfree hr hy hS H;refine⟨λh=>(by rw[h]at hr;cases hr),λj hj=>?_⟩;by_cases hji:j=i;·subst hji;exact hy.wpOpIn (KN hnd hi) hi hS ⟨hS,H⟩
  have h1:=H.2 j<|ready_mono hj hji
  let⟨hjun,oj,hoj,hall⟩:=mem_ready.1 hj;have hnot:∀e∈oj.after,Region.binds md e=true->e.on≠i:=λe he hb heq=>by
   have h1:=hall e he hb;have h0:=(mem_ready.1 hr).1;rw[heq]at h1;rcases mL i listed.size with h'|h';·simp[h']at h0 h1;rw[h0]at h1;cases h1
   simp[iI h']at h1
  have h2:=wP (KN hnd hoj) hoj (hfree j oj hoj hji hjun hnot) (λcs b=>hsel i oi cs b hi) (λcs b=>hsel j oj cs b hoj) hQ hy h1;have hfree':∀k ok,ops[k]?=some ok->k≠i->(listed.setIfInBounds j true).getD k true=false ->
   (∀e∈ok.after,Region.binds md e=true->e.on≠i)->oi.apart ops ok=true:=λk ok hk hki hun hno=>by
   refine hfree k ok hk hki ?_ hno;by_cases hjk:j=k;·subst hjk;exact hjun
   rw[getD_set_ne true hjk]at hun;exact hun
  refine wpOpIn_mono (λa' w' h3=>⟨h3.2.1,ih (listed.setIfInBounds j true) a' w' hfree' (ready_mono hr<|kA hji) h3.1 h3.2.1 ?_⟩) h2;rw[Array.setIfInBounds_comm _ _ hji];exact h3.2.2
theorem wV{i:Nat}{oi:Oper}{v:Value}{fuel:Nat}{listed:Array Bool}{a:Act}{w:World}(hi:ops[i]?=some oi)(hnd:WQ ops=true)
 (hs:Region.noSelect ops=true) (hf:Region.free md ops listed i=true) (hr:(Region.ready md ops listed).contains i=true)
 (hQ:∀c a w,Q (.panic c) (a.put oi.dst v) w->Q (.panic c) a w) (hy:YG P ops S oi v a) (hS:S w)
 (h:Y9 F n P md ops Q S fuel (listed.setIfInBounds i true) (a.put oi.dst v) w):Y9 F n P md ops Q S (fuel+1) listed a w :=
 wu hnd hi (Region.noSelect_spec hs) hQ fuel listed a w (Region.free_spec hi hf) (by simpa using hr) hy hS h
theorem wQ{listed:Array Bool}{a:Act}{w:World}(hr:Region.ready md ops listed=[])(h:Q .normal a w) :
 ∀fuel,Y9 F n P md ops Q S fuel listed a w
 |0=>⟨hr,h⟩
 |_+1=>⟨λ_=>h,by rw[hr];simp⟩
def Xu(F:Fence)(n:Nat)(P:Program)(md:Region.Mode)(ops:Array Oper)(Q:Exit->Act->World->Prop)(S:World->Prop)(fuel:Nat)(listed:Array Bool)(a:Act)(w:World)(rs:List Nat):Prop :=
 ∀i∈rs,wpOpIn F n P ops Q i (λa' w'=>S w'/\Y9 F n P md ops Q S fuel (listed.setIfInBounds i true) a' w') a w
theorem Xu.nil{fuel:Nat}{listed:Array Bool}{a:Act}{w:World}:Xu F n P md ops Q S fuel listed a w []:=λ_ h=>by cases h
theorem Xu.cons{fuel:Nat}{listed:Array Bool}{a:Act}{w:World}{i:Nat}{o:Oper}{rs:List Nat}(ho:ops[i]?=some o)
 (h:∀K':Act->World->Prop,Shut (∀a w,S w->(S w->Y9 F n P md ops Q S fuel (listed.setIfInBounds i true) a w)->K' a w)->if Region.wanted o (yielded ops a.tmps)=true then Oper.wpIn F n P o a w K' Q else (∀f,o.about P w a.eval=some f->F.fn f)/\K' (a.put o.dst undef) w)
 (hs:Xu F n P md ops Q S fuel listed a w rs):Xu F n P md ops Q S fuel listed a w (i::rs):=λj hj=>by
 rcases cH.1 hj with rfl|hj;·exact wpOpIn_step ho λK' hK=>h K' λa w hS hW=>hK a w ⟨hS,hW hS⟩
 exact hs j hj
theorem YM{rs:List Nat}{fuel:Nat}{listed:Array Bool}{a:Act}{w:World}(hr:Region.ready md ops listed=rs)(hne:rs≠[])
 (h:Xu F n P md ops Q S fuel listed a w rs):Y9 F n P md ops Q S (fuel+1) listed a w:=⟨λh0=>absurd (hr▸h0) hne,hr▸h⟩
def gj(Q:Exit->Act->World->Prop):Exit->Act->World->Prop
 |.normal,a,w=>Q .normal a w
 |_,_,_=>False
theorem Tl{id:Nat}{a:Act}{w:World}(hm:P.follows .mixedOrders=true)(hS:S w.drew)
 (h:S w.drew->Y9 F n P .any ops (gj Q) S ops.size (Array.replicate ops.size false) a w.drew):(Code.region id ops true).wpIn F n P Q a w :=
 wpIn_mono (wpIn_region_any (Q:=gj Q) hm (K6 _ _ _ _<|h hS)) λe _ _ h=>by cases e<;>first|exact h|exact h.elim
theorem wC{listed:Array Bool}{a:Act}{w:World}(hr:Region.ready md ops listed=[])(h:Q .normal a w)(fuel:Nat):Y9 F n P md ops (gj Q) S fuel listed a w:=wQ (Q:=gj Q) hr (show gj Q .normal a w from h) fuel
end
theorem Yi{F:Fence}{n:Nat}{P:Program}{md:Region.Mode}{ops:Array Oper}{Q:Exit->Act->World->Prop}{S:World->Prop}(i:Nat){oi:Oper}{v:Value}{fuel:Nat}{listed:Array Bool}{a b:Act}{w:World}(h:Y9 F n P md ops Q S fuel (listed.setIfInBounds i true) b w)(hi:ops[i]?=some oi:=by exact rfl)(hw:Region.wanted oi (yielded ops a.tmps)=true:=by rfl)(hy:∀(w:World),S w->Sem.run P (execOp a.eval oi) w=Result.ok (Next.value v) w:=by intro w hSw;(try dsimp only at hSw);go_simp;try with_reducible rfl)(hp:a.put oi.dst v=b:=by(simp only[xX]);exact rfl)(hq:∀c a w,Q (.panic c) (a.put oi.dst v) w->Q (.panic c) a w:=by exact λ_ _ _ h=>h)(hz:∀w,oi.about P w a.eval=none:=by exact λ_=>rfl)(hnd:WQ ops=true:=by kernel_rfl)(hs:Region.noSelect ops=true:=by kernel_rfl)(hf:Region.free md ops listed i=true:=by kernel_rfl)(hr:(Region.ready md ops listed).contains i=true:=by kernel_rfl)(hS:S w:=by assumption):Y9 F n P md ops Q S (fuel+1) listed a w:=wV hi hnd hs hf hr hq ⟨bC ⟨hw,hy⟩,hz⟩ hS (hp▸h)
theorem Yc{F:Fence}{n:Nat}{P:Program}{md:Region.Mode}{ops:Array Oper}{Q:Exit->Act->World->Prop}{S:World->Prop}(i:Nat){oi:Oper}{fuel:Nat}{listed:Array Bool}{a:Act}{w:World}(h:∀K':Act->World->Prop,Shut (∀a w,S w->∀{b:Act},(S w->Y9 F n P md ops Q S fuel (listed.setIfInBounds i true) b w)->(hp:a=b:=by(try simp only[xX]);exact rfl)->K' a w)->if Region.wanted oi (yielded ops a.tmps)=true then Oper.wpIn F n P oi a w K' Q else (∀f,oi.about P w a.eval=some f->F.fn f)/\K' (a.put oi.dst undef) w)(hi:ops[i]?=some oi:=by exact rfl)(hr:Region.ready md ops listed=[i]:=by kernel_rfl):Y9 F n P md ops Q S (fuel+1) listed a w:=YM (rs:=[i]) hr (by simp) (Xu.cons hi (λK hK=>h K λa w hs b k hp=>hK a w hs (hp▸k)) Xu.nil)
theorem Tc{F:Fence}{n:Nat}{P:Program}{ops:Array Oper}{Q:Exit->Act->World->Prop}(S:World->Prop){id:Nat}{a:Act}{w:World}(h:S w.drew->Y9 F n P .any ops (gj Q) S ops.size (Array.replicate ops.size false) a w.drew)(hS:S w.drew:=by first|with_reducible exact True.intro|((try dsimp only);go_keep))(hm:P.follows .mixedOrders=true:=by kernel_rfl):(Code.region id ops true).wpIn F n P Q a w:=Tl hm hS h
theorem ZV{F:Fence}{n:Nat}{P:Program}{md:Region.Mode}{ops:Array Oper}{Q:Exit->Act->World->Prop}{S:World->Prop}{listed:Array Bool}{a:Act}{w:World}{fuel:Nat}(h:Q .normal a w)(hr:Region.ready md ops listed=[]:=by kernel_rfl):Y9 F n P md ops (gj Q) S fuel listed a w:=wC hr h fuel
end
def G2(x:Yj):List Int:=if x.kind != 1 then [x.a]else []
theorem qd(b o k:Nat)(z H G:Int)(w:World)(C:Hs (Va w b o ⟨k,z,H,G⟩))(A:1<=k)(B:k<=3)(q:Hs (Yb w)) :
 Calls prog 61 #[Ho b o] w λe d=>∃v,e=.returned v/\Below w.heap.size w d/\d.ownsRow w.heap.size 176 1 v (Yd [(k:Int) != 1] [(Hk b<|o+1)]).length ((Yd [(k:Int) != 1] [(Hk b<|o+1)]).map Tx):=by
 let⟨i,q1,q2,s⟩:=C.o;simp only at i q1 q2 s;let⟨c0,c1,c2,c3⟩:=q.2 k A B;have r:=q.1;have p:b<w.heap.size:=aI w _ i;generalize ((k:Int) != 1)=c at*;have j:Hs (∀(h g:Option Addr)(W:World),Below w.heap.size w W->Zx W w.heap.size W.heap.size h ([c].map Value.bool)->Zx W w.heap.size W.heap.size g ([(Hk b<|o+1)].map Tx)->Calls prog 100 #[.slice h 1 1,.slice g 1 1] W λe f=>∃v,e=.returned v/\Below w.heap.size w f/\Hs (f.ownsRow w.heap.size 176 1 v (Yd [c] [(Hk b<|o+1)]).length ((Yd [c] [(Hk b<|o+1)]).map Tx))):=Xa (λh g W n D F=>by
  have M:=n.size;refine(UA h g 1 1 [c] [(Hk b<|o+1)] w.heap.size W.heap.size W (aA _) (Xa D) (Xa F) (Xa rfl) sP).mono ?_;rintro e f⟨v5,rfl,a,E⟩;exact⟨v5,rfl,Xg n a,Xa<|Zk E oM⟩)
 have e2:∀x y,((w.alloc x).alloc y).drew.heap.size=w.heap.size+2:=λx y=>by show((w.alloc x).alloc y).heap.size=_;simp
 have t:=Xa (j.o (some ⟨w.heap.size,0,none⟩) (some ⟨w.heap.size+1,0,none⟩) ((w.alloc<|.cells #[.bool c] 4).alloc (.cells #[Ho b<|o+1] 176)).drew (Xb (Xb (Below.refl w.heap.size w) _) _).drew (by rw[e2];exact J7 w [.bool c] 4 [Ho b<|o+1] 176) (by rw[e2];exact J6 w [Ho b<|o+1] 176 [.bool c] 4));have u:=Xa (j.o (some ⟨w.heap.size+1,0,none⟩) (some ⟨w.heap.size,0,none⟩) ((w.alloc<|.cells #[Ho b<|o+1] 176).alloc (.cells #[.bool c] 4)).drew (Xb (Xb (Below.refl w.heap.size w) _) _).drew (by rw[e2];exact J6 w [.bool c] 4 [Ho b<|o+1] 176) (by rw[e2];exact J7 w [Ho b<|o+1] 176 [.bool c] 4));have J:(k:Int)<=3:=oM;have I:(0:Int)<=(k:Int):=oM;have K:(k:Int)<4:=oM;have L:k<4:=oM
 go_in
 go_wp2_with fail
 go_region_held3 (λd=>d.cell? (Hk b o)=some (Hp k)/\d.cell? (Hk 1<|k*4+1)=some (.bool c)) (go_keep)
  (first
   |(go_at_call 100;with_reducible refine t.o.mono ?_;rintro e f⟨v5,rfl,a,m⟩;have f2:=oB a i p;have f3:=oB a c1 r;have l:=Xa a;clear a)
   |(go_at_call 100;with_reducible refine u.o.mono ?_;rintro e f⟨v5,rfl,a,m⟩;have f2:=oB a i p;have f3:=oB a c1 r;have l:=Xa a;clear a))
 all_goals
  go_wp2;go_ret;exact⟨v5,rfl,l,m⟩
theorem yH(b o k:Nat)(a t l:Int)(w:World)(n:Hs (Va w b o ⟨k,a,t,l⟩))(E:1<=k)(F:k<=3)(I:Hs (Yb w)) :
 Calls prog 116 #[Ho b o] w λe x=>∃v,e=.returned v/\Below w.heap.size w x/\x.ownsRow w.heap.size 2 1 v (G2 ⟨k,a,t,l⟩).length ((G2 ⟨k,a,t,l⟩).map (Value.int .i64)):=by
 have z:=Xa<|qd b o k a t l w n E F I;let⟨f,q1,q2,s⟩:=n.o;simp only at f q1 q2 s;have C:=Xa q1;have i:Hs (G2 ⟨k,a,t,l⟩=if ((k:Int) != 1)then [a]else []):=Xa rfl;generalize G2 ⟨k,a,t,l⟩=M at*;generalize ((k:Int) != 1)=c at*;have H:b<w.heap.size:=aI w _ f
 go_in
 go_wp2_with fail
 refine z.mono ?_;rintro e g⟨v5,rfl,d,p⟩;obtain⟨D,c5,rfl,r⟩:=UO p;rw[bK];have u:=oB d C H;have G:b<g.heap.size:=oN d.size
 have A:=Xa (KZ D c5 (Yd [c] [(Hk b<|o+1)]) M w.heap.size g.heap.size g (aA _) (Xa r) (Xa<|by rw[i.o];cases c<;>rfl) (Xa (by
  intro K j N;have J:=i.o;subst J;cases c;·exact absurd j<|by simp[Yd]
  match K,j with
  |0,_=>exact⟨G,u⟩)) (by cases c<;>simp[Yd]))
 have h:=Xa d;generalize (Yd [c] [(Hk b<|o+1)]).length=O at*;go_wp2_with fail
 refine A.mono ?_;rintro e P⟨L,rfl,m,q⟩;have y:=Xa<|Xg h m;have B:=Xa<|Zk q h.size;go_wp2;go_ret;exact⟨L,rfl,y,B⟩
def BW(x:Yg):List Int:=if dB x.op then [x.dst]else []
theorem UH(b k:Nat)(h j l m:Int)(w:World)(P:Hs (Jk w b 0 ⟨k,h,j,l,m⟩))(M:1<=k)(N:k<=13)(F:Hs (Yy w)) :
 Calls prog 43 #[Hn b] w λe d=>∃v,e=.returned v/\Below w.heap.size w d/\d.ownsRow w.heap.size 2 1 v (BW ⟨k,h,j,l,m⟩).length ((BW ⟨k,h,j,l,m⟩).map (Value.int .i64)):=by
 let⟨q,q1,q2,G,H⟩:=P.o;simp only at q q1 q2 G H;let⟨c0,c1,c2,c3,c4⟩:=F.2 k M N;have t:=F.1;have o:b<w.heap.size:=aI w _ q2;have r:Hs (BW ⟨k,h,j,l,m⟩=if dB (k:Int)then [h]else []):=Xa rfl;generalize BW ⟨k,h,j,l,m⟩=y at*;generalize dB (k:Int)=a at*;have C:=Xa q1;have s:Hs (∀(p n:Option Addr)(W:World),Below w.heap.size w W->Zx W w.heap.size W.heap.size p ([a].map Value.bool)->Zx W w.heap.size W.heap.size n ([(Hk b 1)].map Tx)->Calls prog 100 #[.slice p 1 1,.slice n 1 1] W λe f=>∃g c5 m5,e=.returned (.slice g m5 c5)/\Below w.heap.size w f /\
  Hs (Calls prog 99 #[.slice g m5 c5] f λe d=>∃v,e=.returned v/\Below w.heap.size w d/\Hs (d.ownsRow w.heap.size 2 1 v y.length<|y.map (Value.int .i64)))):=Xa (λp n W E Q T=>by
  have af:=E.size;refine(UA p n 1 1 [a] [(Hk b 1)] w.heap.size W.heap.size W (aA _) (Xa Q) (Xa T) (Xa rfl) sP).mono ?_;rintro e f⟨v5,rfl,c,R⟩;have s5:=c.size;have u:=Xg E c;obtain⟨g,c5,rfl,U⟩:=UO R;rw[bK];refine⟨g,c5,_,rfl,u,Xa ?_⟩;have Y:=oB u C o;have O:b<f.heap.size:=oM;refine(KZ g c5 (Yd [a] [(Hk b 1)]) y W.heap.size f.heap.size f (aA _) (Xa U) (Xa ?_) (Xa ?_) ?_).mono ?_;·rw[r.o];cases a<;>rfl
  .intro X D h';have V:=r.o;subst V;cases a;·exact absurd D<|by simp[Yd]
   match X,D with
   |0,_=>exact⟨O,Y⟩
  .cases a<;>simp[Yd]
  rintro e Z⟨x,rfl,i,S⟩
  exact⟨x,rfl,Xg u i,Xa<|Zk S oM⟩)
 have e2:∀z A,((w.alloc z).alloc A).drew.heap.size=w.heap.size+2:=λz A=>by show((w.alloc z).alloc A).heap.size=_;simp
 have J:=Xa (s.o (some ⟨w.heap.size,0,none⟩) (some ⟨w.heap.size+1,0,none⟩) ((w.alloc<|.cells #[.bool a] 4).alloc (.cells #[Ho b 1] 176)).drew (Xb (Xb (Below.refl w.heap.size w) _) _).drew (by rw[e2];exact J7 w [.bool a] 4 [Ho b 1] 176) (by rw[e2];exact J6 w [Ho b 1] 176 [.bool a] 4));have K:=Xa (s.o (some ⟨w.heap.size+1,0,none⟩) (some ⟨w.heap.size,0,none⟩) ((w.alloc<|.cells #[Ho b 1] 176).alloc (.cells #[.bool a] 4)).drew (Xb (Xb (Below.refl w.heap.size w) _) _).drew (by rw[e2];exact J6 w [.bool a] 4 [Ho b 1] 176) (by rw[e2];exact J7 w [Ho b 1] 176 [.bool a] 4));have ac:(0:Int)<=(k:Int):=oM;have ad:(k:Int)<14:=oM
 go_in
 go_wp2_with fail
 go_region_held3 (λd=>d.cell? (Hk b 0)=some (Hp k)/\d.cell? (Hk 0<|k*5+1)=some (.bool a)) (go_keep)
  (first
   |(go_at_call 100;with_reducible refine J.o.mono ?_;rintro e f⟨g,c5,m5,rfl,c,B⟩;have f2:=oB c q o;have f3:=oB c c1 t;clear c)
   |(go_at_call 100;with_reducible refine K.o.mono ?_;rintro e f⟨g,c5,m5,rfl,c,B⟩;have f2:=oB c q o;have f3:=oB c c1 t;clear c)
   |(go_at_call 99;with_reducible refine B.o.mono ?_;rintro e Z⟨x,rfl,i,L⟩;have aa:=oB i q o;have ab:=oB i c1 t;have I:=Xa i;clear i))
 all_goals
  go_wp2;go_ret;exact⟨x,rfl,I,L⟩
theorem Nt:(prog.info? 56).map (λi=>(i.zero,i.size,i.bytes))=some (some<|Hp 0,1,8):=kR
theorem Yz(h:Option Addr)(n c:Nat)(a:List Int)(L B:Nat)(w:World)(ha:Hs (Xf w L B h a))(s:Hs (n=a.length))(R:n<=100000)(M:B<=w.heap.size) :
 Calls prog 115 #[.slice h n c] w λA g=>∃j z,A=.returned (.slice j a.length z)/\Below w.heap.size w g/\Xf g w.heap.size g.heap.size j a:=by
 let⟨H,C,E,F,G⟩:=fX Nt;have x:Hs ((w.alloc<|.cells #[] 56).ownsRow w.heap.size 56 1 (Hl w.heap.size 0 0) 0 []):=Xa<|eI (base:=w.heap.size) (e:=56) (size:=1) w #[] 0 sP sP rfl
 go_in
 go_wp2
 go_loopw [3,9] (λu i wr=>∃k:Nat,k<=n/\i=Hp k/\Below w.heap.size w wr/\Hs (wr.ownsRow w.heap.size 56 1 u k<|(a.take k).map (Value.int .i64))) λ_ i _=>n-(intOf i).toNat
 case atStart=>exact⟨0,aN _,rfl,Xb (Below.refl _ _) _,x⟩
 obtain⟨k,P,rfl,e,f⟩:=hrel;by_cases Q:k<n
 .have o:k<a.length:=oN s.o;obtain⟨b,T,rfl,⟨_,N⟩,l⟩:=ha k o;have O:=(XU e oM).trans l;have v:=Xa<|X7 _ _ o;generalize a[k]=J at*;have S:=e.size;go_wp2_with (at_builtin;refine fT _ rfl _ _ 147 rfl w.heap.size 56 H (Hp 0) 1 8 underlying147 C E F G rfl vZ _ _ _ rfl (f.alloc _) (Hk wr.heap.size 0) 1 1 [Hp J] rfl rfl ?c1 ?c2 ?c3 ?c4 ?c5 ?_)
  case c1=>
   intro I u d
   match I,d with
   |0,d=>simp at d;subst d;simp[Addr.add]
  case c2=>intro u r;simp at r;subst r;rfl
  case c3=>unfold maxLen;omega
  case c4=>omega
  case c5=>simp;omega
  intro v1 U q m _;have y:=Xa q;have t:=Xa (Xy (Xb e _) m (f.alloc _) (aA _) (by simp;omega));go_wp2;exact⟨⟨k+1,oM,gM,t,Xa<|by rw[v.o,Yl,List.map_take];exact y⟩,by simp[intOf];omega⟩
 go_wp2;go_ret;have p:=f.o;rw[aW (l:=a) (i:=k) (oN s.o)]at p;obtain⟨K,c1,rfl,D⟩:=Xk p;exact⟨_,_,rfl,e,D⟩
theorem KY{m' l':Nat}{args:Array Value}{a:Ending->World->Prop}(h:YieldAt Fence.wide n R m args w a):YieldAt (Fence.wide.inRound l') m' R m args w a:=by
 let⟨fn,tmps,d,e,g,b⟩:=h;exact⟨fn,tmps,d,e,g,b.1,λc f _=>b.2 c f<|room_wide _⟩
structure Pl where
 i:Nat
 ua:Option Addr
 uc:Nat
 us:List Int
 da:Option Addr
 dc:Nat
 ds:List Int
def Pl.dat(p:Pl):Nat×List Int×List Int:=(p.i,p.us,p.ds)
def kr(p:Pl):Array Value:=#[.int .i64 (p.i:Int),.agg #[.slice p.ua p.us.length p.uc,.slice p.da p.ds.length p.dc]]
def ji(a:Nat)(b:Nat×List Int×List Int->Prop)(p:Pl)(V:World):Prop:=b p.dat/\Xf V a V.heap.size p.ua p.us/\Xf V a V.heap.size p.da p.ds
def VH(x:Xe)(j:Fin x.is.length):Nat×List Int×List Int:=((j:Nat)+1,Ft<|x.is[j],BW<|x.is[j])
def Hw(x:Xe):List (Nat×List Int×List Int):=(x.is.length+1,G2 x.te,[])::((Us x.is.length 0).map (VH x)++[(0,[],x.ps.map Ph.dst)])
theorem qJ(x:Xe)(j:Fin x.is.length):VH x j∈Hw x:=by
 refine cN _<|dD _ (List.mem_map_of_mem ?_);unfold Us;rw[aW sP];exact kU.2<|lX j
theorem pU(x:Xe):((0:Nat),([]:List Int),x.ps.map Ph.dst)∈Hw x:=cN _<|fB _ (cS.2 rfl)
theorem Yy.of_block(h:Yy w)(e:v.heap[(0: Nat)]?=w.heap[(0: Nat)]?)(c:w.heap.size<=v.heap.size):Yy v:=by
 refine⟨aX h.1 c,λi a b=>?_⟩;have e:=λo=>Xc (o:=o) e;simp only[e];exact h.2 i a b
theorem Yb.of_block(h:Yb w)(e:v.heap[(1: Nat)]?=w.heap[(1: Nat)]?)(c:w.heap.size<=v.heap.size):Yb v:=by
 refine⟨aX h.1 c,λi a b=>?_⟩;have e:=λo=>Xc (o:=o) e;simp only[e];exact h.2 i a b
structure Mr(x:Xe)(L B Bx n₀:Nat)(V:World):Prop where
 op:Yy V
 ter:Yb V
 blk:Tk V L B Bx 0 x
 lt:Bx<n₀
 le:B<=n₀
 g1:0 < n₀
 g2:1 < n₀
theorem XO{a:Type}{J:a->World->Prop}(b:OwnFrom n J){s:a}(h:J s w)(k:Below w.heap.size w v):J s v :=
 b s w v none h ⟨k.os,k.tape,k.output,k.size,λi c _=>k.block i c⟩ λr e=>by cases e
theorem YK{F:Fence}{fn:Func}{tmps:Array Value}{a:Ending->World->Prop}(b:w.heap[m]?=some (.deferred (some [])))(h:∃v,(results fn tmps).run R (w.putObj m<|.deferred none)=.ok v (w.putObj m<|.deferred none)/\a (.returned v) (w.putObj m<|.deferred none)):LeavesInM F n R fn tmps a [{ target:=.collected m,args:=#[] }] .returning w :=
 ⟨sP,bC ⟨m,_,rfl,run_takeDeferred b,h⟩⟩
theorem jx(y:Yg):(Ft y).length<=2:=by unfold Ft;split<;>split<;>simp
end Go.Proofs.YtffcajcgkblkoaaGreatDoor
