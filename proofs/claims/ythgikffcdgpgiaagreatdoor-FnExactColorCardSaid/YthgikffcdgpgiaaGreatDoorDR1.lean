import Derived.Deep.DrawnRows
import Derived.Test.YthgikffcdgpgiaaGreatDoorDFP
import Derived.Test.YthgikffcdgpgiaaGreatDoorW10
namespace Go.Proofs.YthgikffcdgpgiaaGreatDoor
set_option maxHeartbeats 2000000
set_option maxRecDepth 100000
open Go.RowKit
structure Sr where
 code:List UInt8
 pos:Nat
 mix:Int
 size:Int
structure Zjr(s:Sr):Prop where
 len:s.code.length<=4000
 pos:s.pos<=s.code.length
 mix:0<=s.mix/\s.mix<1000003
 size:1<=s.size/\s.size<=7
structure Tx(w:World)(b L B:Nat)(s:Sr):Prop where
 c0:∃a c,w.cell? ⟨b,0,none⟩=some (.slice a s.code.length c)/\YD w L B a s.code
 c1:w.cell? ⟨b,1,none⟩=some (.int .i64 s.pos)
 c2:w.cell? ⟨b,2,none⟩=some (.int .i64 s.mix)
 c3:w.cell? ⟨b,3,none⟩=some (.int .i64 s.size)
 thaw:∀q,w.frozen? ⟨b,q,none⟩=false
 out:¬(L<=b/\b<B)
theorem Wb{w:World}{b q L B:Nat}{a:Option Addr}{bs:List UInt8}(v:Value)(hb:YD w L B a bs)(ho:¬(L<=b/\b<B)):YD (w.setCell ⟨b,q,none⟩ v) L B a bs:=hb.keepS (fun k h1 h2=>Below.heap_setCell _ _ _ _ (by show k≠b;intro e;exact ho oM))
theorem X9(w:World)(b:Nat){o o':Nat}(h:o≠o')(v:Value):(w.setCell ⟨b,o,none⟩ v).cell? ⟨b,o',none⟩=w.cell? ⟨b,o',none⟩:=World.cell?_setCell_other _ _ _ _ (by intro e;injection e with _ e2;exact h e2)
theorem Tx.mix{w:World}{b L B:Nat}{s:Sr}(h:Tx w b L B s)(m:Int):Tx (w.setCell ⟨b,2,none⟩ (.int .i64 m)).drew b L B { s with mix:=m }:=by
 obtain⟨a,c,e0,hb⟩:=h.c0;exact⟨⟨a,c,(X9 w b oM _).trans e0,Wb _ hb h.out⟩,(X9 w b oM _).trans h.c1,World.cell?_setCell_same w _ _ h.c2,(X9 w b oM _).trans h.c3,fun q=>by show(w.setCell _ _).frozen? _=false;rw[World.frozen?_setCell];exact h.thaw q,h.out⟩
theorem Tx.pos{w:World}{b L B:Nat}{s:Sr}(h:Tx w b L B s)(m:Nat):Tx (w.setCell ⟨b,1,none⟩ (.int .i64 m)).drew b L B { s with pos:=m }:=by
 obtain⟨a,c,e0,hb⟩:=h.c0;exact⟨⟨a,c,(X9 w b oM _).trans e0,Wb _ hb h.out⟩,World.cell?_setCell_same w _ _ h.c1,(X9 w b oM _).trans h.c2,(X9 w b oM _).trans h.c3,fun q=>by show(w.setCell _ _).frozen? _=false;rw[World.frozen?_setCell];exact h.thaw q,h.out⟩
theorem Tx.drew{w:World}{b L B:Nat}{s:Sr}(h:Tx w b L B s):Tx w.drew b L B s:=⟨h.c0,h.c1,h.c2,h.c3,h.thaw,h.out⟩
theorem XC{P:Program}{ops:Array Oper}{w:World}{o:Oper}{a:Act}{K:Act->World->Prop}{Q:Exit->Act->World->Prop}{E:Prop}(hgd:o.guard=none)(s x:Operand)(t:TypeId)
 (ho:o.op=.call { callee:=.builtin .append,args:=#[s,x],argTypes:=#[t,t] })
 (base:Nat) (e:TypeId) (i:TypeInfo) (z:Value) (size bytes:Nat) (ht:P.underlying t=some (.slice e)) (hi:P.info? e=some i) (hz:i.zero=some z)
 (hsize:i.size=size) (hby:i.bytes=bytes) (hzs:z.cells.size=size) (hsz:0<size)
 (v:Value) (n:Nat) (xs:List Value) (hs:a.eval s=v) (hown:w.ownsRow base e size v n xs)
 (ad:Addr) (m c:Nat) (news:List Value) (hx:a.eval x=.slice (some ad) m c) (hl:news.length=m*size) (hnews:∀j u,news[j]?=some u->w.cell? (ad.add j)=some u) (h1:∀u∈news,u.oneCell'=true)
 (h63:n+m<=maxLen) (hbytes:(n+m)*bytes<=140737488355328) (hbase:base<=w.heap.size)
 (h:∀v' w',w'.ownsRow base e size v' (n+m) (xs++news)->w.grownBy w' v.ownBlock->(v'=.slice none 0 0↔v=.slice none 0 0/\m=0)->(v'.ownBlock=v.ownBlock\/v'.ownBlock=some w.heap.size)->K (a.put o.dst v') w') :
 if Region.wanted o (yielded ops a.tmps)=true then Oper.wp P o a w K Q else E:=by
 have hw:Region.wanted o (yielded ops a.tmps)=true:=by simp[Region.wanted,hgd]
 rw[if_pos hw];obtain⟨v',w',hr,h2,h3,h4,h5⟩:=run_append_own_at (P:=P) w base t o.type e i z size bytes ht hi hz hsize hby hzs hsz v n xs hown ad m c news hl hnews h1 h63 hbytes hbase;unfold Oper.wp execOp;simp only[ho,resolve,invoke,builtin,Sem.run_bind,Sem.run_pure,Result.andThen_ok,List.map_toArray,List.map_cons,List.map_nil,hs,hx,hr];exact h v' w' h2 h3 h4 h5
structure Mv where
 to:Int
 frm:Int
def ZhM(L:List Mv)(r:Int):Bool:=L.any fun m=>m.frm==r
def Ziq:List Int->Option Int
 | []=>none
 | x::xs=>match Ziq xs with
  | none=>some x
  | some y=>some (if x<y then x else y)
def ZaE(L:List Mv):List Int:=L.map (·.to)
def ZiN(L:List Mv):List Int:=(ZaE L).filter fun t=>!ZhM L t
def cpI(m:Mv):YK:=if m.frm<0 then ⟨13,m.to,0,0,0⟩else ⟨11,m.to,m.frm,0,0⟩
def ZhN(L:List Mv)(t:Int):Int:=((L.find? fun m=>m.to==t).map (·.frm)).getD 0
def without(L:List Mv)(t:Int):List Mv:=L.filter fun m=>m.to != t
def scratch(L:List Mv)(r:Int):List Mv:=L.map fun m=>if m.frm=r then ⟨m.to,-1⟩else m
def Zhl(L:List Mv):YK × List Mv:=match Ziq (ZiN L)with
 | some t=>(cpI ⟨t,ZhN L t⟩,without L t)
 | none=>match Ziq (ZaE L)with
  | some r=>(⟨12,0,r,0,0⟩,scratch L r)
  | none=>(⟨0,0,0,0,0⟩,[])
structure TC(L:List Mv):Prop where
 nd:(ZaE L).Nodup
 to:∀m∈L,0<=m.to/\m.to<64
 frm:∀m∈L,m.frm=-1\/(0<=m.frm/\m.frm<64)
 ne:∀m∈L,m.frm≠m.to
def ZiL(L:List Mv):Nat:=L.length+(L.filter fun m=>decide (0<=m.frm)).length
theorem TC.nil:TC []:=⟨by simp[ZaE],sP,sP,sP⟩
theorem TC.without{L:List Mv}(h:TC L)(t:Int):TC (without L t):=by
 refine⟨?_,fun m hm=>h.to m (List.mem_filter.1 hm).1,fun m hm=>h.frm m (List.mem_filter.1 hm).1,fun m hm=>h.ne m (List.mem_filter.1 hm).1⟩;exact h.nd.sublist (List.filter_sublist.map _)
theorem Zbf(L:List Mv)(r:Int):ZaE (scratch L r)=ZaE L:=by
 unfold ZaE scratch;rw[List.map_map];refine List.map_congr_left (fun m _=>?_);show(if m.frm=r then (⟨m.to,-1⟩:Mv)else m).to=m.to;split<;>rfl
theorem TC.scratch{L:List Mv}(h:TC L)(r:Int):TC (scratch L r):=by
 have key:∀m∈Go.Proofs.YthgikffcdgpgiaaGreatDoor.scratch L r,∃q∈L,m=(if q.frm=r then ⟨q.to,-1⟩else q):=fun m hm=>by
  obtain⟨q,hq,e⟩:=List.mem_map.1 hm;exact⟨q,hq,e.symm⟩
 refine⟨by rw[Zbf];exact h.nd,fun m hm=>?_,fun m hm=>?_,fun m hm=>?_⟩<;>obtain⟨q,hq,rfl⟩:=key m hm
 ·have:=h.to q hq;split<;>exact this
 ·split
  ·exact Or.inl rfl
  ·exact h.frm q hq
 ·have h1:=h.to q hq
  have h2:=h.ne q hq;split
  ·show(-1:Int)≠q.to;omega
  ·exact h2
theorem TC.step{L:List Mv}(h:TC L):TC (Zhl L).2:=by
 unfold Zhl;split
 ·exact h.without _
 ·split
  ·exact h.scratch _
  ·exact TC.nil
def UU(L:List Mv):List Mv:=L.filter fun m=>m.to != m.frm
structure Zhz(L:List Mv):Prop where
 nd:(ZaE L).Nodup
 rng:∀m∈L,0<=m.to/\m.to<64/\0<=m.frm/\m.frm<64
theorem Zhz.start{L:List Mv}(h:Zhz L):TC (UU L)/\ZiL (UU L)=2*(UU L).length:=by
 have sub:∀m∈UU L,m∈L/\m.to≠m.frm:=fun m hm=>by simpa [UU]using hm
 refine⟨⟨h.nd.sublist (List.filter_sublist.map _),fun m hm=>?_,fun m hm=>?_,fun m hm=>?_⟩,?_⟩
 ·have:=h.rng m (sub m hm).1;omega
 ·have:=h.rng m (sub m hm).1;omega
 ·exact fun e=>(sub m hm).2 e.symm
 ·unfold ZiL
  rw[List.filter_eq_self.2 (fun m hm=>by have:=h.rng m (sub m hm).1;simp;omega)];omega
theorem X7{P:Program}{t:Nat}{z:Value}{s b:Nat}(h:(P.info? t).map (fun i=>(i.zero,i.size,i.bytes))=some (some z,s,b)):∃i,P.info? t=some i/\i.zero=some z/\i.size=s/\i.bytes=b:=by
 cases hi:P.info? t with
 | none=>rw[hi]at h;cases h
 | some i =>
  rw[hi]at h;simp only[Option.map_some,Option.some.injEq,Prod.mk.injEq]at h;exact⟨i,rfl,h.1,h.2.1,h.2.2⟩
structure ZaB(w wr:World)(bs:List UInt8)(j:Nat)(v:Value):Prop where
 low:Below w.heap.size w wr
 size:w.heap.size+1<=wr.heap.size
 c0:wr.cell? ⟨w.heap.size,0,none⟩=some v
 c1:wr.cell? ⟨w.heap.size,1,none⟩=some (.int .i64 0)
 c2:wr.cell? ⟨w.heap.size,2,none⟩=some (.int .i64 0)
 c3:wr.cell? ⟨w.heap.size,3,none⟩=some (.int .i64 0)
 thaw:∀q,wr.frozen? ⟨w.heap.size,q,none⟩=false
 own:wr.ownsRow (w.heap.size+1) 5 1 v j (JA (bs.take j))
theorem ZaB.drew{w wr:World}{bs:List UInt8}{j:Nat}{v:Value}(h:ZaB w wr bs j v):ZaB w wr.drew bs j v:=⟨h.low.drew,h.size,h.c0,h.c1,h.c2,h.c3,h.thaw,h.own⟩
theorem ZaB.step{w wr W w8:World}{bs:List UInt8}{j:Nat}{v v8:Value}(h:ZaB w wr bs j v)(hj:j<bs.length)(hg:wr.grownBy W none)(hg8:W.grownBy w8 v.ownBlock)
 (ho:w8.ownsRow (w.heap.size+1) 5 1 v8 (j+1) (JA (bs.take j)++[.int .u8 (bs[j].toNat:Int)])):ZaB w (w8.setCell ⟨w.heap.size,0,none⟩ v8) bs (j+1) v8/\Below w.heap.size w w8/\(∀q,w8.frozen? ⟨w.heap.size,q,none⟩=false)/\w8.cell? ⟨w.heap.size,0,none⟩=some v/\∃g c,v8=.slice (some ⟨g,0,none⟩) (j+1) c:=by
 have hn:some w.heap.size≠v.ownBlock:=fun e=>by have:=(h.own.lt _ e.symm).1;omega
 have hs:=h.size;have hb:w8.heap[w.heap.size]?=wr.heap[w.heap.size]?:=(hg8.block _ (by have:=hg.size;omega) hn).trans (hg.block _ oM sP);have l8:Below w.heap.size w w8:=((h.low.grown hg oM (fun k e=>by cases e)).grown hg8 (by have:=hg.size;omega) (fun k e=>by have:=(h.own.lt _ e).1;omega));have ce:∀q,w8.cell? ⟨w.heap.size,q,none⟩=wr.cell? ⟨w.heap.size,q,none⟩:=fun q=>World.cell?_of_block hb
 have fe:∀q,w8.frozen? ⟨w.heap.size,q,none⟩=false:=fun q=>(World.frozen?_of_block hb).trans (h.thaw q)
 refine⟨⟨l8.setCell (Nat.le_refl _) _,?_,World.cell?_setCell_same _ _ _ ((ce 0).trans h.c0),(X9 _ _ oM _).trans ((ce 1).trans h.c1),(X9 _ _ oM _).trans ((ce 2).trans h.c2),(X9 _ _ oM _).trans ((ce 3).trans h.c3),fun q=>by rw[World.frozen?_setCell];exact fe q,?_⟩,l8,fe,(ce 0).trans h.c0,?_⟩
 ·rw[Xd];have:=hg.size;have:=hg8.size;omega
 ·refine ownsRow_setCell_below ?_ (by show w.heap.size<_;omega) _
  rw[List.take_succ_eq_append_getElem hj,Zbe];exact ho
 ·rcases ho.2 with⟨_,h0⟩ | ⟨g,cap,_,e,_⟩
  ·omega
  ·exact⟨g,cap,e⟩
theorem YD.wide{w:World}{L B L' B':Nat}{a:Option Addr}{bs:List UInt8}(h:YD w L B a bs)(h1:L'<=L)(h2:B<=B'):YD w L' B' a bs:=fun i hi=>by
 obtain⟨b,o,e,hb,hc⟩:=h i hi;exact⟨b,o,e,oM,hc⟩
theorem ZaB.done{w wr:World}{bs:List UInt8}{j:Nat}{v:Value}(h:ZaB w wr bs j v)(hj:bs.take j=bs.take 4000):∃a c,v=.slice a (bs.take 4000).length c/\Tx wr w.heap.size (w.heap.size+1) wr.heap.size ⟨bs.take 4000,0,0,0⟩:=by
 have ho:=h.own;rw[hj]at ho;obtain⟨a,c,L,B,e,hb,-,hL⟩:=Za3 ho;subst e;refine⟨a,c,rfl,⟨⟨a,c,h.c0,?_⟩,h.c1,h.c2,h.c3,h.thaw,oM⟩⟩;rcases hL with⟨rfl,rfl⟩ | ⟨rfl,h1,h2⟩
 ·exact fun i hi=>by obtain⟨b,o,_,h2,_⟩:=hb i hi;omega
 ·exact hb.wide h1 h2
theorem XY(w:World)(u:Value)(ty:Nat):∀j x,([u]:List Value)[j]?=some x->(w.alloc (.cells #[u] ty)).cell? ((⟨w.heap.size,0,none⟩:Addr).add j)=some x:=fun j x hj=>by
 have ha:(⟨w.heap.size,0,none⟩:Addr).add j=⟨w.heap.size,j,none⟩:=by unfold Addr.add;split<;>simp_all
 rw[ha]
 match j,hj with
 | 0,hj=>simpa using hj
 | j+1,hj=>cases hj
def Ti(w:World)(L B:Nat)(a:Option Addr)(xs:List Mv):Prop:=∀i (h:i<xs.length),∃b o,a=some ⟨b,o,none⟩/\(L<=b/\b<B)/\w.cell? ⟨b,o+i*2,none⟩=some (.int .i64 xs[i].to)/\w.cell? ⟨b,o+i*2+1,none⟩=some (.int .i64 xs[i].frm)
theorem Ti.keepS{w w':World}{L B:Nat}{a:Option Addr}{xs:List Mv}(h:Ti w L B a xs)(k:Xu L B w w'):Ti w' L B a xs:=fun i hi=>by
 obtain⟨b,o,e,hb,h1,h2⟩:=h i hi;have q:=k b hb.1 hb.2;exact⟨b,o,e,hb,(Xc q).trans h1,(Xc q).trans h2⟩
theorem Ti.keep{w w':World}{L B:Nat}{a:Option Addr}{xs:List Mv}(h:Ti w L B a xs)(k:Below B w w'):Ti w' L B a xs:=h.keepS (Xu.of_below k)
theorem Ti.mono{w:World}{L B L' B':Nat}{a:Option Addr}{xs:List Mv}(h:Ti w L B a xs)(h1:L'<=L)(h2:B<=B'):Ti w L' B' a xs:=fun i hi=>by
 obtain⟨b,o,e,hb,r⟩:=h i hi;exact⟨b,o,e,oM,r⟩
theorem Zfc(g j:Nat):(⟨g,0,none⟩:Addr).add j=⟨g,j,none⟩:=by unfold Addr.add;split<;>simp_all
theorem YP{w:World}{base e s g n c:Nat}{cs:List Value}(h:w.ownsRow base e s (.slice (some ⟨g,0,none⟩) n c) n cs){j:Nat}{u:Value}(hj:cs[j]?=some u):w.cell? ⟨g,j,none⟩=some u:=by
 have:=h.cells (g:=g) rfl j u hj;rw[Zfc]at this;exact this
theorem ZeR{w:World}{base e s g n c:Nat}{cs:List Value}(h:w.ownsRow base e s (.slice (some ⟨g,0,none⟩) n c) n cs)(o:Nat):w.frozen? ⟨g,o,none⟩=false:=by
 rcases h.2 with⟨e2,_⟩ | ⟨g',cap,cur,e2,_,hh,_⟩
 ·cases e2
 ·injection e2 with e3
  injection e3 with e3;injection e3 with e4;subst e4;simp[World.frozen?,hh]
theorem Tr{w:World}{base e s n:Nat}{v:Value}{cs:List Value}(h:w.ownsRow base e s v n cs):(v=.slice none 0 0/\n=0/\cs=[])\/∃g c,v=.slice (some ⟨g,0,none⟩) n c/\(base<=g/\g<w.heap.size)/\n<=c:=by
 rcases h.2 with⟨e1,e2⟩ | ⟨g,cap,cur,e1,hb,hh,hc,_⟩
 ·refine Or.inl ⟨e1,e2,List.eq_nil_of_length_eq_zero ?_⟩
  rw[h.1,e2,Nat.zero_mul]
 ·exact Or.inr ⟨g,cap,e1,⟨hb,(Array.getElem?_eq_some_iff.1 hh).1⟩,hc⟩
structure DrW(w wr:World)(B:Nat)(s:Sr):Prop where
 low:Below w.heap.size w wr
 src:Tx wr w.heap.size (w.heap.size+1) B s
 ok:Zjr s
 bB:w.heap.size+1<=B
 sB:B<=wr.heap.size
theorem DrW.drew{w wr:World}{B:Nat}{s:Sr}(h:DrW w wr B s):DrW w wr.drew B s:=⟨h.low.drew,h.src.drew,h.ok,h.bB,h.sB⟩
theorem Tx.block{w w':World}{b L B:Nat}{s:Sr}(h:Tx w b L B s)(hb:w'.heap[b]?=w.heap[b]?)(hk:∀k,L<=k->k<B->w'.heap[k]?=w.heap[k]?):Tx w' b L B s:=by
 obtain⟨a,c,e0,hbb⟩:=h.c0;have ce:∀q,w'.cell? ⟨b,q,none⟩=w.cell? ⟨b,q,none⟩:=fun q=>World.cell?_of_block hb
 exact⟨⟨a,c,(ce 0).trans e0,hbb.keepS hk⟩,(ce 1).trans h.c1,(ce 2).trans h.c2,(ce 3).trans h.c3,fun q=>(World.frozen?_of_block hb).trans (h.thaw q),h.out⟩
theorem DrW.keep{w wr w':World}{B:Nat}{s:Sr}(h:DrW w wr B s)(hk:Below B wr w'):DrW w w' B s:=by
 have h1:=h.bB;exact⟨h.low.trans (hk.mono oM),h.src.block (hk.block _ oM) (fun k _ h2=>hk.block k h2),h.ok,h.bB,Nat.le_trans h.sB hk.size⟩
theorem Zel{w w':World}{B t sz b n:Nat}{v:Value}{cs:List Value}(h:w.ownsRow B t sz v n cs)(hg:w.grownBy w' (some b))(hb:b<B):w'.ownsRow B t sz v n cs :=
 h.kept hg (by
  cases e:v.ownBlock with
  | none=>exact Or.inl rfl
  | some k=>exact Or.inr (fun e2=>by cases e2;have:=(h.lt _ e).1;omega))
theorem ZgV{w w1:World}{B t s g:Nat}{n c:Nat}{xs:List Value}(h:w.ownsRow B t s (.slice (some ⟨g,0,none⟩) n c) n xs)(k:w1.heap[g]?=w.heap[g]?):w1.ownsRow B t s (.slice (some ⟨g,0,none⟩) n c) n xs:=by
 obtain⟨hl,h | ⟨g',cap,cur,e,hg,hh,hc⟩⟩:=h
 ·exact⟨hl,Or.inl h⟩
 ·cases e
  exact⟨hl,Or.inr ⟨g,c,cur,rfl,hg,k.trans hh,hc⟩⟩
theorem Zds{w:World}{B t sz g n c k:Nat}{cs:List Value}(h:w.ownsRow B t sz (.slice (some ⟨g,0,none⟩) n c) n cs)(u:Value):(w.setCell ⟨g,k,none⟩ u).ownsRow B t sz (.slice (some ⟨g,0,none⟩) n c) n (cs.set k u):=by
 obtain⟨hl,h0 | ⟨g',cap,cur,e,hg,hh,hc,hm,hs,ht⟩⟩:=h
 ·cases h0.1
 ·cases e
  refine⟨by rw[List.length_set];exact hl,Or.inr ⟨g,c,cur.setIfInBounds k u,rfl,hg,?_,hc,hm,by rw[Array.size_setIfInBounds];exact hs,?_⟩⟩
  ·exact heap_setCell_same w g k cur t u hh
  ·rw[Array.toList_setIfInBounds,List.take_set,ht]
theorem Xp{w:World}{base e s n:Nat}{v:Value}{cs:List Value}(h:w.ownsRow base e s v n cs)(hn:0<n):∃g c,v=.slice (some ⟨g,0,none⟩) n c/\(base<=g/\g<w.heap.size)/\n<=c:=by
 rcases Tr h with⟨_,e,_⟩ | h
 ·omega
 ·exact h
theorem ZfB{x:Int}(h:0<=x):∃m:Nat,x=m:=⟨x.toNat,oM⟩
def Yo(L:List Nat):List Value:=L.map fun (x:Nat)=>Value.int .i64 (x:Int)
theorem T7(L:List Nat)(x:Nat):Yo (L++[x])=Yo L++[.int .i64 (x:Int)]:=by simp[Yo]
theorem Tg(w:World)(b ty:Nat):Xg (w.alloc (.cells #[.int .i64 (b:Int)] ty)) w.heap.size (w.heap.size+1) (some ⟨w.heap.size,0,none⟩) ([b].map Int.ofNat):=fun i hi=>by
 have:i=0:=by simpa using hi
 subst this;exact⟨_,0,rfl,⟨Nat.le_refl _,Nat.lt_succ_self _⟩,sP⟩
theorem Jr(t:ZX):t.targets.length<=2:=by
 unfold ZX.targets;split
 ·simp
 ·split<;>simp
structure Yu(w:World)(bS gS BL K:Nat)(ab:Option Addr)(nb cb:Nat)(W:Nat->Nat)(v:Value)(L:List Nat):Prop where
 c0:w.cell? ⟨bS,0,none⟩=some (.slice ab nb cb)
 c1:w.cell? ⟨bS,1,none⟩=some (.slice (some ⟨gS,0,none⟩) K K)
 c2:w.cell? ⟨bS,2,none⟩=some v
 thaw:∀q,w.frozen? ⟨bS,q,none⟩=false
 row:w.rowIs gS 133 K (fun i=>.int .u64 (W i))
 own:w.ownsRow BL 2 1 v L.length (Yo L)
 lb:bS<BL
 lg:gS<BL
 ne:bS≠gS
 sz:BL<=w.heap.size
structure Tt(w w':World)(bS gS:Nat)(v v':Value):Prop where
 os:w'.os=w.os
 tape:w'.tape=w.tape
 output:w'.output=w.output
 size:w.heap.size<=w'.heap.size
 block:∀k,k<w.heap.size->k≠bS->k≠gS->some k≠v.ownBlock->w'.heap[k]?=w.heap[k]?
 own:v'.ownBlock=v.ownBlock\/∀k,v'.ownBlock=some k->w.heap.size<=k
theorem Tt.refl(w:World)(bS gS:Nat)(v:Value):Tt w w bS gS v v:=⟨rfl,rfl,rfl,Nat.le_refl _,fun _ _ _ _ _=>rfl,Or.inl rfl⟩
theorem Tt.trans{w w1 w2:World}{bS gS:Nat}{v v1 v2:Value}(h:Tt w w1 bS gS v v1)(k:Tt w1 w2 bS gS v1 v2):Tt w w2 bS gS v v2:=by
 refine⟨k.os.trans h.os,k.tape.trans h.tape,k.output.trans h.output,Nat.le_trans h.size k.size,fun j h1 h2 h3 h4=>?_,?_⟩
 ·refine(k.block j (Nat.lt_of_lt_of_le h1 h.size) h2 h3 (fun e=>?_)).trans (h.block j h1 h2 h3 h4)
  rcases h.own with ho | ho
  ·exact h4 (by rw[e,ho])
  ·have:=ho j e.symm;omega
 ·rcases k.own with ko | ko
  ·rcases h.own with ho | ho
   ·exact Or.inl (ko.trans ho)
   ·exact Or.inr (fun j e=>ho j (by rw[<-ko];exact e))
  ·exact Or.inr (fun j e=>Nat.le_trans h.size (ko j e))
theorem Tt.of_below{w w':World}{bS gS:Nat}{v:Value}(h:Below w.heap.size w w'):Tt w w' bS gS v v:=⟨h.os,h.tape,h.output,h.size,fun k h1 _ _ _=>h.block k h1,Or.inl rfl⟩
theorem Tt.of_grown{w w':World}{bS gS:Nat}{v:Value}(h:w.grownBy w' (some gS)):Tt w w' bS gS v v:=⟨h.os,h.tape,h.output,h.size,fun k h1 _ h3 _=>h.block k h1 (fun e=>h3 (by injection e)),Or.inl rfl⟩
theorem Yu.below{w w':World}{bS gS BL K:Nat}{ab:Option Addr}{nb cb:Nat}{W:Nat->Nat}{v:Value}{L:List Nat}(h:Yu w bS gS BL K ab nb cb W v L)(k:Below w.heap.size w w'):Yu w' bS gS BL K ab nb cb W v L:=by
 have hz:=h.sz;have hb:w'.heap[bS]?=w.heap[bS]?:=k.block bS (by have:=h.lb;omega);have ce:∀q,w'.cell? ⟨bS,q,none⟩=w.cell? ⟨bS,q,none⟩:=fun q=>World.cell?_of_block hb
 refine⟨(ce 0).trans h.c0,(ce 1).trans h.c1,(ce 2).trans h.c2,fun q=>(World.frozen?_of_block hb).trans (h.thaw q),h.row.of_block (k.block gS (by have:=h.lg;omega)),?_,h.lb,h.lg,h.ne,Nat.le_trans hz k.size⟩;refine h.own.kept (row:=none) ⟨k.os,k.tape,k.output,k.size,fun j hj _=>k.block j hj⟩ ?_;cases v.ownBlock with
 | none=>exact Or.inl rfl
 | some j=>exact Or.inr sP
theorem Yu.seen{w w':World}{bS gS BL K:Nat}{ab:Option Addr}{nb cb:Nat}{W W':Nat->Nat}{v:Value}{L:List Nat}(h:Yu w bS gS BL K ab nb cb W v L)(k:w.grownBy w' (some gS))(hr:w'.rowIs gS 133 K (fun i=>.int .u64 (W' i))):Yu w' bS gS BL K ab nb cb W' v L:=by
 have hz:=h.sz;have hb:w'.heap[bS]?=w.heap[bS]?:=k.block bS (by have:=h.lb;omega) (fun e=>h.ne (by injection e));have ce:∀q,w'.cell? ⟨bS,q,none⟩=w.cell? ⟨bS,q,none⟩:=fun q=>World.cell?_of_block hb
 exact⟨(ce 0).trans h.c0,(ce 1).trans h.c1,(ce 2).trans h.c2,fun q=>(World.frozen?_of_block hb).trans (h.thaw q),hr,Zel h.own k h.lg,h.lb,h.lg,h.ne,Nat.le_trans hz k.size⟩
theorem Yu.push{w w8:World}{bS gS BL K:Nat}{ab:Option Addr}{nb cb:Nat}{W:Nat->Nat}{v v8:Value}{L:List Nat}{b:Nat}{ob:Obj}(h:Yu w bS gS BL K ab nb cb W v L)(hg:(w.alloc ob).grownBy w8 v.ownBlock)(ho:w8.ownsRow BL 2 1 v8 (L.length+1) (Yo L++[.int .i64 (b:Int)]))(hat:v8.ownBlock=v.ownBlock\/v8.ownBlock=some (w.heap.size+1)) :
 Yu (w8.setCell ⟨bS,2,none⟩ v8) bS gS BL K ab nb cb W v8 (L++[b])/\Tt w (w8.setCell ⟨bS,2,none⟩ v8) bS gS v v8/\w8.cell? ⟨bS,2,none⟩=some v/\w8.frozen? ⟨bS,2,none⟩=false:=by
 have hz:=h.sz;have hlb:=h.lb;have hlg:=h.lg;have hsz:(w.alloc ob).heap.size=w.heap.size+1:=World.size_alloc _ _;have hgs:=hg.size;have hnv:∀k,k<BL->some k≠v.ownBlock:=fun k hk e=>by have:=(h.own.lt k e.symm).1;omega
 have ha:∀k,k<w.heap.size->(w.alloc ob).heap[k]?=w.heap[k]?:=fun k hk=>Below.heap_alloc _ _ _ hk
 have hb:w8.heap[bS]?=w.heap[bS]?:=(hg.block bS oM (hnv _ hlb)).trans (ha _ oM);have hgr:w8.heap[gS]?=w.heap[gS]?:=(hg.block gS oM (hnv _ hlg)).trans (ha _ oM);have ce:∀q,w8.cell? ⟨bS,q,none⟩=w.cell? ⟨bS,q,none⟩:=fun q=>World.cell?_of_block hb
 have fe:∀q,w8.frozen? ⟨bS,q,none⟩=false:=fun q=>(World.frozen?_of_block hb).trans (h.thaw q)
 refine⟨⟨(X9 _ _ oM _).trans ((ce 0).trans h.c0),(X9 _ _ oM _).trans ((ce 1).trans h.c1),World.cell?_setCell_same _ _ _ ((ce 2).trans h.c2),fun q=>by rw[World.frozen?_setCell];exact fe q,(h.row.of_block hgr).setOther (fun e=>h.ne e.symm) _,?_,hlb,hlg,h.ne,by rw[Xd];omega⟩,⟨?_,?_,?_,by rw[Xd];omega,fun k h1 h2 h3 h4=>?_,?_⟩,(ce 2).trans h.c2,fe 2⟩
 ·rw[T7,List.length_append]
  exact ownsRow_setCell_below ho hlb _
 ·exact hg.os
 ·exact hg.tape
 ·exact hg.output
 ·rw[Below.heap_setCell _ _ _ _ h2]
  exact(hg.block k oM h4).trans (ha k h1)
 ·rcases hat with e | e
  ·exact Or.inl e
  ·exact Or.inr (fun k ek=>by rw[e]at ek;injection ek with ek;omega)
theorem Tt.blks{w w':World}{bS gS BL K:Nat}{ab:Option Addr}{nb cb:Nat}{W:Nat->Nat}{v v':Value}{L:List Nat}{xs:List Xi}{L0 B0:Nat}(f:Tt w w' bS gS v v')(h:Yu w bS gS BL K ab nb cb W v L)(hb:Xl w L0 B0 ab xs)(h1:¬(L0<=bS/\bS<B0))(h2:¬(L0<=gS/\gS<B0))(h3:B0<=BL):Xl w' L0 B0 ab xs:=by
 have hz:=h.sz;exact hb.keepS (fun k k1 k2=>f.block k oM (fun e=>h1 oM) (fun e=>h2 oM) (fun e=>by have:=(h.own.lt k e.symm).1;omega))
theorem TL(bS gS BL K nb cb:Nat)(ab:Option Addr)(xs:List Xi)(L0 B0:Nat)(hxb:Hid (nb=xs.length))(hn:nb<=1000)(hK:nb<=64*K)(hK2:K<=100)(h1:¬(L0<=bS/\bS<B0))(h2:¬(L0<=gS/\gS<B0))(h3:B0<=BL)(hT:Hid (∀x∈xs,∀t∈x.term.targets,0<=t/\t<nb)) :
 ∀(m b:Nat)(W:Nat->Nat)(v:Value)(L:List Nat)(w:World),Hid (Yu w bS gS BL K ab nb cb W v L)->Hid (Xl w L0 B0 ab xs)->b<nb->Hid (Xv W nb<=m)->Hid (Xw W)->L.length+Xv W nb<=nb ->
 Calls Tryz.prog 54 #[.pointer (some ⟨bS,0,none⟩),.int .i64 b] w fun e w'=>e=.returned (.tuple #[])/\∃v',Tt w w' bS gS v v'/\Yu w' bS gS BL K ab nb cb (dfsV (Xx xs) m b (W,L)).1 v' (dfsV (Xx xs) m b (W,L)).2:=by
 obtain⟨i0,hi0,hz0,hz1,hz2⟩:=X7 Tryz.info2';intro m
 induction m with
 | zero =>
  intro b W v L w HS HB hb HU HW hL;have HH:Hid (Xf W b=true):=Xa (JZ (by have:=HU.out;omega) hb);have HAS:=Xa (Zx gS K b W w HW (Xa HS.row) oM oM);rw[HH.out]at HAS;have c1:=HS.c1
  go_enter Tryz.func54,Tryz.ntmps54
  go_wp2_with fail
  refine HAS.mono ?_;rintro e w1 ⟨rfl,hb1⟩;have HS1:=Xa (HS.below hb1);have HF1:Hid (Tt w w1 bS gS v v):=Xa (Tt.of_below hb1);clear hb1 HAS c1
  go_wp2_with fail
  refine bodyPost_ret (v:=.tuple #[]) (by simp[results,Tryz.results54,go_sem]) rfl ?_;exact⟨rfl,v,HF1.out,HS1.out⟩
 | succ m ih =>
  intro b W v L w HS HB hb HU HW hL;have IH:=Xa ih;clear ih;cases hh:Xf W b with
  | true =>
   have HHT:=Xa hh;clear hh;have HAS:=Xa (Zx gS K b W w HW (Xa HS.row) oM oM);rw[HHT.out]at HAS;have c1:=HS.c1
   go_enter Tryz.func54,Tryz.ntmps54
   go_wp2_with fail
   refine HAS.mono ?_;rintro e w1 ⟨rfl,hb1⟩;have HS1:=Xa (HS.below hb1);have HF1:Hid (Tt w w1 bS gS v v):=Xa (Tt.of_below hb1);clear hb1 HAS c1
   go_wp2_with fail
   refine bodyPost_ret (v:=.tuple #[]) (by simp[results,Tryz.results54,go_sem]) rfl ?_;rw[Tl (s:=(W,L)) HHT.out];exact⟨rfl,v,HF1.out,HS1.out⟩
  | false =>
   have HHF:=Xa hh;clear hh;have c0:=HS.c0;have c1:=HS.c1;have c2:=HS.c2;have HAS:=Xa (Zx gS K b W w HW (Xa HS.row) oM oM);rw[HHF.out]at HAS
   go_enter Tryz.func54,Tryz.ntmps54
   go_wp2_with fail
   refine HAS.mono ?_;rintro e w1 ⟨rfl,hb1⟩;have HS1:=Xa (HS.below hb1);have HF1:Hid (Tt w w1 bS gS v v):=Xa (Tt.of_below hb1);clear hb1 HAS c0 c1 c2;have c0:=HS1.c0;have c1:=HS1.c1
   go_wp2_with fail
   have HSA:=Xa (HS1.below (Xb (Below.refl _ _) (.cells #[.int .i64 (b:Int)] 150)));have HFA:Hid (Tt w1 (w1.alloc (.cells #[.int .i64 (b:Int)] 150)) bS gS v v):=Xa (Tt.of_below (Xb (Below.refl _ _) _));have HIA:Hid (Xg (w1.alloc (.cells #[.int .i64 (b:Int)] 150)) w1.heap.size (w1.heap.size+1) (some ⟨w1.heap.size,0,none⟩) ([b].map Int.ofNat)):=Xa (Tg w1 b _);have hza:w1.heap.size+1<=(w1.alloc (.cells #[.int .i64 (b:Int)] 150)).heap.size:=sP;have hgz:gS<w1.heap.size:=by have:=HS1.lg;have:=HS1.sz;omega
   generalize w1.alloc (.cells #[.int .i64 (b:Int)] 150)=wa at *;have HRB:Hid (∀t∈[b],t<64*K):=Xa (fun t ht=>by
    have:t=b:=by simpa using ht
    omega)
   refine(JR gS K 1 1 W _ [b] w1.heap.size (w1.heap.size+1) wa HIA (Xa rfl) oM HRB oM HW (Xa HSA.row) hza oM).mono ?_;rintro e w2 ⟨rfl,hg2,hr2⟩;have HS2:Hid (Yu w2 bS gS BL K ab nb cb (Yn W b) v L):=Xa (HSA.seen hg2 hr2);have HF2:Hid (Tt w w2 bS gS v v):=Xa ((HF1.trans HFA.out).trans (Tt.of_grown hg2));have HB2:Hid (Xl w2 L0 B0 ab xs):=Xa (HF2.blks HS.out HB.out h1 h2 h3);have HU2:=Xa (J4 (W:=W) (n:=nb) hb HHF.out);have HD:Hid (dfsV (Xx xs) (m+1) b (W,L)=_):=Xa (Vo (tg:=Xx xs) (m:=m) (s:=(W,L)) HHF.out);clear hg2 hr2 HSA HFA HIA HF1 HS1 hza hgz c0 c1;have hbx:b<xs.length:=by have:=hxb.out;omega
   obtain⟨bb,o,rfl,hbb,pa,pc,ia,ic,-,-,⟨t0,t1,t2,t3⟩,-,-⟩:=HB2.out b hbx;have c0:=HS2.c0;have HTT:Hid (∀t∈xs[b].term.targets,0<=t/\t<nb):=Xa (hT.out _ (List.getElem_mem hbx));rw[Jo hbx]at HD;dsimp only at HD;generalize xs[b].term=tm at *
   go_wp2_with fail
   refine(Jz tm w2).mono ?_;rintro e w3 ⟨at3,ct3,rfl,hb3,hi3⟩;have HS3:=Xa (HS2.below hb3);have HF3:Hid (Tt w w3 bS gS v v):=Xa (HF2.trans (Tt.of_below hb3));have HI3:=Xa hi3;have HB3:Hid (Xl w3 L0 B0 (some ⟨bb,o,none⟩) xs):=Xa (HF3.blks HS.out HB.out h1 h2 h3);have HZ3:=Xa hb3.size;have HOW:Hid (∀k,v.ownBlock=some k->k<w2.heap.size):=Xa (fun k e=>(HS2.own.lt k e).2);have HG2:Hid (gS<w2.heap.size/\bS<w2.heap.size):=Xa ⟨by have:=HS2.lg;have:=HS2.sz;omega,by have:=HS2.lb;have:=HS2.sz;omega⟩;clear hb3 hi3 t0 t1 t2 t3 c0 HB2 HS2 HF2;have hts2:tm.targets.length<=2:=Jr tm;generalize hts:tm.targets=ts at *;clear hts;have HTL:Hid (∀t∈ts.map Int.toNat,t<nb):=Xa (fun t ht=>by
    obtain⟨z,hz,rfl⟩:=List.mem_map.1 ht;have:=HTT.out z hz;omega)
   have HTG:Hid (∀b,b<nb->∀t∈Xx xs b,t<nb):=Xa (fun b hb t ht=>by
    have hbx:b<xs.length:=by have:=hxb.out;omega
    rw[Jo hbx]at ht;obtain⟨z,hz,rfl⟩:=List.mem_map.1 ht;have:=hT.out _ (List.getElem_mem hbx) z hz;omega)
   have HWA:=Xa (Zav HW.out b);have hU3:Xv (Yn W b) nb<=m:=by have:=HU.out;have:=HU2.out;omega
   have hL3:L.length+Xv (Yn W b) nb+1<=nb:=by have:=HU2.out;omega
   go_wp2_with fail
   go_loopw [29] (fun u wr=>∃q:Nat,q<=ts.length/\u=.int .i64 q/\∃v',Hid (Tt w3 wr bS gS v v')/\Hid (Yu wr bS gS BL K (some ⟨bb,o,none⟩) nb cb (((ts.map Int.toNat).take q).foldl (fun s t=>dfsV (Xx xs) m t s) (Yn W b,L)).1 v' (((ts.map Int.toNat).take q).foldl (fun s t=>dfsV (Xx xs) m t s) (Yn W b,L)).2)) (fun u _=>ts.length-(intOf u).toNat)
   case atStart=>exact⟨0,Nat.zero_le _,rfl,v,Xa (Tt.refl _ _ _ _),HS3⟩
   case round =>
    obtain⟨q,hq,rfl,v',HFq,HSq⟩:=hrel;have HFL:Hid ((((ts.map Int.toNat).take q).foldl (fun s t=>dfsV (Xx xs) m t s) (Yn W b,L)).2.length+Xv (((ts.map Int.toNat).take q).foldl (fun s t=>dfsV (Xx xs) m t s) (Yn W b,L)).1 nb<=L.length+Xv (Yn W b) nb):=Xa (ZfW (Xx xs) nb HTG.out m _ _ (fun t ht=>HTL.out t (List.mem_of_mem_take ht)));by_cases hlt:q<ts.length
    ·obtain⟨bt,ot,rfl,hbt,et3⟩:=HI3.out q hlt
     have et:=(Xc (HFq.block bt hbt.2 (by have:=HG2.out;omega) (by have:=HG2.out;omega) (fun e=>by have:=HOW.out bt e.symm;omega))).trans et3;have htr:=HTT.out ts[q] (List.getElem_mem hlt);have HTK:Hid ((ts.map Int.toNat).take (q+1)=(ts.map Int.toNat).take q++[ts[q].toNat]):=Xa (by rw[List.take_succ_eq_append_getElem (by simpa using hlt),List.getElem_map]);have HWQ:=Xa (ZgS (Xx xs) m ((ts.map Int.toNat).take q) (Yn W b,L) HWA.out);have HBq:=Xa (HFq.blks HS3.out HB3.out h1 h2 h3);have HUQ:Hid (Xv (((ts.map Int.toNat).take q).foldl (fun s t=>dfsV (Xx xs) m t s) (Yn W b,L)).1 nb<=m):=Xa (Nat.le_trans (ZL nb (fun x hx=>Km (Xx xs) m _ (Yn W b,L) x hx)) hU3);have HFO:Hid (((ts.map Int.toNat).take (q+1)).foldl (fun s t=>dfsV (Xx xs) m t s) (Yn W b,L)=dfsV (Xx xs) m ts[q].toNat (((ts.map Int.toNat).take q).foldl (fun s t=>dfsV (Xx xs) m t s) (Yn W b,L))):=Xa (by rw[HTK.out,List.foldl_append];rfl);clear et3 HTK;generalize ts[q]=tq at *;obtain⟨tn,rfl⟩:=ZfB htr.1;rw[Int.toNat_natCast]at HFO;have HC:=Xa (IH.out tn _ v' _ wr HSq HBq oM HUQ HWQ (by have:=HFL.out;omega));generalize ((ts.map Int.toNat).take q).foldl (fun s t=>dfsV (Xx xs) m t s) (Yn W b,L)=sq at *;obtain⟨Wq,Lq⟩:=sq;dsimp only at *
     go_wp2_with fail
     refine HC.mono ?_;rintro e w5 ⟨rfl,v5,hf5,hs5⟩;have HF5:=Xa (HFq.trans hf5);have HS5:=Xa hs5;clear hf5 hs5 HC
     go_wp2_with fail
     exact⟨⟨q+1,oM,gM,v5,HF5,Xa (by rw[HFO.out];exact HS5.out)⟩,by simp[intOf];omega⟩
    ·have hqe:q=ts.length:=oM
     have HTE:Hid ((ts.map Int.toNat).take q=ts.map Int.toNat):=Xa (List.take_of_length_le (by simp;omega));rw[HTE.out]at HSq HFL;generalize (ts.map Int.toNat).foldl (fun s t=>dfsV (Xx xs) m t s) (Yn W b,L)=sq at *;obtain⟨Wq,Lq⟩:=sq;dsimp only at *;clear HTE;have c2:=HSq.c2;have zz:=HSq.thaw 2;have hlq:Lq.length<=1000:=by have:=HFL.out;omega
     have hwz:=HSq.sz
     go_wp2_with (at_builtin;refine wpList_append_own_at _ rfl _ _ 26 rfl BL 2 i0 (.int .i64 0) 1 8 Tryz.underlying26 hi0 hz0 hz1 hz2 rfl vZ _ _ _ rfl (HSq.own.alloc _) ⟨wr.heap.size,0,none⟩ 1 1 [.int .i64 (b:Int)] rfl rfl ?c1 ?c2 ?c3 ?c4 ?c5 ?_)
     case c1=>exact XY _ _ _
     case c2=>intro u hu;simp at hu;subst hu;rfl
     case c3=>unfold maxLen;omega
     case c4=>omega
     case c5=>simp;omega
     intro v8 w8 hown8 hg8 hne8 hat8;obtain⟨hp1,hp2,hp3,hp4⟩:=HSq.push hg8 hown8 hat8;obtain⟨g8,k8,rfl,-,-⟩:=Xp hown8 oM;have HP1:=Xa hp1;have HP2:=Xa hp2;clear hp1 hp2 hown8 hg8 hne8 hat8
     go_wp2_with fail
     go_end0
     exact⟨rfl,_,(HF3.trans HFq.out).trans HP2.out,by rw[HD.out];exact HP1.out⟩
inductive AvZ (tg:Nat->List Nat) (z:Int):Nat->Prop
 | root:z≠0->AvZ tg z 0
 | step {b t:Nat}:AvZ tg z b->t∈tg b->(t:Int)≠z->AvZ tg z t
theorem ZgJ{tg:Nat->List Nat}{a b:Nat}:AvZ tg a b↔Av tg a b:=by
 constructor
 ·intro h
  induction h with
  | root h=>exact Av.root (fun e=>h oM)
  | step _ ht hne ih=>exact Av.step ih ht (fun e=>hne oM)
 ·intro h
  induction h with
  | root h=>exact AvZ.root (fun e=>h oM)
  | step _ ht hne ih=>exact AvZ.step ih ht (fun e=>hne oM)
theorem WW{tg:Nat->List Nat}{z:Int}(hz:z<0){b:Nat}:AvZ tg z b↔Re tg b:=by
 constructor
 ·intro h
  induction h with
  | root _=>exact Re.root
  | step _ ht _ ih=>exact Re.step ih ht
 ·intro h
  induction h with
  | root=>exact AvZ.root oM
  | step _ ht ih=>exact AvZ.step ih ht oM
structure RcI(tg:Nat->List Nat)(n:Nat)(z:Int)(F:List Nat)(i:Nat):Prop where
 nd:F.Nodup
 av:∀x∈F,AvZ tg z x
 lt:∀x∈F,x<n
 root:z≠0->0∈F
 nil:z=0->F=[]
 cl:∀k (h:k<F.length),k<i->∀t∈tg F[k],(t:Int)≠z->t=0\/t∈F
theorem YB{F:List Nat}{n:Nat}(h:F.Nodup)(hl:∀x∈F,x<n):F.length<=n:=by
 have:=List.Nodup.length_le_of_subset h (l₂:=List.range n) (fun x hx=>List.mem_range.2 (hl x hx));simpa using this
theorem Zgo{tg:Nat->List Nat}{n:Nat}{z:Int}{F:List Nat}{i:Nat}(h:RcI tg n z F i)(hi:F.length<=i)(x:Nat):x∈F↔AvZ tg z x:=by
 refine⟨h.av x,fun hx=>?_⟩
 induction hx with
 | root hz=>exact h.root hz
 | @step b t hb ht hne ih =>
  obtain⟨k,hk,e⟩:=List.getElem_of_mem ih;rcases h.cl k hk oM t (by rw[e];exact ht) hne with h0 | h1
  ·rw[h0]
   refine h.root (fun hz=>?_);rw[h.nil hz]at hk;exact absurd hk sP
  ·exact h1
theorem Kl{T:Type}{C:T->Value}{w:World}{g t n:Nat}{f:Nat->T}(h:w.rowIs g t n (fun z=>C (f z)))(r:Nat)(v:T):(w.setCell ⟨g,r,none⟩ (C v)).rowIs g t n (fun z=>C (if z=r then v else f z)) :=
 (h.set r (C v)).congr (fun z _=>by by_cases e:z=r<;>simp[e])
theorem KR{T:Type}{C:T->Value}{w:World}{g t n:Nat}{f f':Nat->T}(h:w.rowIs g t n (fun z=>C (f z)))(e:∀z,z<n->f z=f' z):w.rowIs g t n (fun z=>C (f' z)):=h.congr (fun z hz=>by rw[e z hz])
theorem Tryz.infoBo:(Tryz.prog.info? 4).map (fun i=>(i.zero,i.size,i.bytes))=some (some (.bool false),1,1):=kR
end Go.Proofs.YthgikffcdgpgiaaGreatDoor
