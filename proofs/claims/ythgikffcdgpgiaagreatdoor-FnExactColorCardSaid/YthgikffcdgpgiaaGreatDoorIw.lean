import Derived.Deep.Slices
import Derived.Test.YthgikffcdgpgiaaGreatDoorW6b
import Derived.Maps.AppendAt
import Derived.OwnWalk
import Derived.Lib.ItoaMem
import Derived.Lib.UnsafeStr
import Derived.Laws.OwnMore
namespace Go.Proofs.YthgikffcdgpgiaaGreatDoor
set_option maxHeartbeats 2000000
set_option maxRecDepth 100000
open Go.RowKit Go.Deep
section
structure IW(L B:Nat)(w w':World):Prop where
 os:w'.os=w.os
 tape:w'.tape=w.tape
 output:w'.output=w.output
 size:w'.heap.size=w.heap.size
 block:∀k,¬(L<=k/\k<B)->w'.heap[k]?=w.heap[k]?
 cell:∀p,w'.cell? p=w.cell? p\/∃u v,w.cell? p=some (.int .i64 u)/\w'.cell? p=some (.int .i64 v)
 frozen:∀p,w'.frozen? p=w.frozen? p
variable {w w' w1 : World} {L B : Nat}
theorem IW.refl(L B:Nat)(w:World):IW L B w w:=⟨rfl,rfl,rfl,rfl,fun _ _=>rfl,fun _=>Or.inl rfl,fun _=>rfl⟩
theorem IW.trans{w2:World}(h:IW L B w w1)(k:IW L B w1 w2):IW L B w w2:=by
 refine⟨k.os.trans h.os,k.tape.trans h.tape,k.output.trans h.output,k.size.trans h.size,fun i hi=>(k.block i hi).trans (h.block i hi),fun p=>?_,fun p=>(k.frozen p).trans (h.frozen p)⟩;rcases k.cell p with e | ⟨u,v,e1,e2⟩
 ·rcases h.cell p with f | ⟨u,v,f1,f2⟩
  ·exact Or.inl (e.trans f)
  ·exact Or.inr ⟨u,v,f1,e.trans f2⟩
 ·rcases h.cell p with f | ⟨u',v',f1,f2⟩
  ·exact Or.inr ⟨u,v,f.symm.trans e1,e2⟩
  ·exact Or.inr ⟨u',v,f1,e2⟩
theorem IW.set(h:IW L B w w1){b o:Nat}(hp:L<=b/\b<B){u:Int}(hc:w1.cell? ⟨b,o,none⟩=some (.int .i64 u))(v:Int):IW L B w (w1.setCell ⟨b,o,none⟩ (.int .i64 v)):=by
 refine h.trans ⟨rfl,rfl,rfl,by simp[World.setCell],fun k hk=>Below.heap_setCell _ _ _ _ (by dsimp only;omega),fun p=>?_,fun p=>World.frozen?_setCell _ _ _ _⟩;by_cases e:p=⟨b,o,none⟩
 ·subst e
  exact Or.inr ⟨u,v,hc,World.cell?_setCell_same _ _ _ hc⟩
 ·exact Or.inl (World.cell?_setCell_other _ _ _ _ (fun h=>e h.symm))
theorem IW.int(h:IW L B w w'){p:Addr}{u:Int}(hc:w.cell? p=some (.int .i64 u)):∃v,w'.cell? p=some (.int .i64 v):=by
 rcases h.cell p with e | ⟨_,v,_,e⟩
 ·exact⟨u,e.trans hc⟩
 ·exact⟨v,e⟩
theorem IW.slice(h:IW L B w w'){p:Addr}{a:Option Addr}{n c:Nat}(hc:w.cell? p=some (.slice a n c)):w'.cell? p=some (.slice a n c):=by
 rcases h.cell p with e | ⟨u,_,e,_⟩
 ·exact e.trans hc
 ·rw[hc]at e;cases e
def YY(L B:Nat)(w:World):Prop:=∀b o,L<=b/\b<B->w.frozen? ⟨b,o,none⟩=false
theorem YY.of{L B:Nat}{w:World}(h:Ym L w):YY L B w:=fun b o hb=>h b o hb.1
theorem YY.keepS{L B:Nat}{w w':World}(h:YY L B w)(k:Xu L B w w'):YY L B w':=fun b o hb=>(World.frozen?_of_block (k b hb.1 hb.2)).trans (h b o hb)
theorem YY.setCell{L B:Nat}{w:World}(h:YY L B w)(p:Addr)(v:Value):YY L B (w.setCell p v):=fun b o hb=>by rw[World.frozen?_setCell];exact h b o hb
theorem IW.thawB(h:IW L B w w'){M N:Nat}(t:YY M N w):YY M N w':=fun b o hb=>(h.frozen _).trans (t b o hb)
theorem IW.thaw(h:IW L B w w'){M:Nat}(t:Ym M w):Ym M w':=fun b o hb=>(h.frozen _).trans (t b o hb)
variable {L' B' : Nat} {a : Option Addr}
theorem Xg.iw{xs:List Int}(h:Xg w L B a xs)(k:IW L' B' w w'):∃ys:List Int,ys.length=xs.length/\Xg w' L B a ys:=by
 obtain⟨f,hf⟩:=choose_lt (α:=Int) (n:=xs.length) (p:=fun i y=>∃b o,a=some ⟨b,o,none⟩/\(L<=b/\b<B)/\w'.cell? ⟨b,o+i,none⟩=some (.int .i64 y)) (fun i hi=>by
  obtain⟨b,o,e,hb,hc⟩:=h i hi;obtain⟨v,hv⟩:=k.int hc;exact⟨v,b,o,e,hb,hv⟩)
 refine⟨(List.range xs.length).map f,sP,fun i hi=>?_⟩;simp only[List.length_map,List.length_range]at hi;obtain⟨b,o,e,hb,hc⟩:=hf i hi;exact⟨b,o,e,hb,by simpa using hc⟩
theorem Y5.iw{b o:Nat}{x:YK}(h:Y5 w b o x)(k:IW L' B' w w'):∃y:YK,Y5 w' b o y:=by
 obtain⟨h0,h1,h2,h3,h4⟩:=h;obtain⟨v0,e0⟩:=k.int h0;obtain⟨v1,e1⟩:=k.int h1;obtain⟨v2,e2⟩:=k.int h2;obtain⟨v3,e3⟩:=k.int h3;obtain⟨v4,e4⟩:=k.int h4;exact⟨⟨v0,v1,v2,v3,v4⟩,e0,e1,e2,e3,e4⟩
theorem Z0.iw{b o:Nat}{x:ZX}(h:Z0 w b o x)(k:IW L' B' w w'):∃y:ZX,Z0 w' b o y:=by
 obtain⟨h0,h1,h2,h3⟩:=h;obtain⟨v0,e0⟩:=k.int h0;obtain⟨v1,e1⟩:=k.int h1;obtain⟨v2,e2⟩:=k.int h2;obtain⟨v3,e3⟩:=k.int h3;exact⟨⟨v0,v1,v2,v3⟩,e0,e1,e2,e3⟩
theorem XL.iw{xs:List YK}(h:XL w L B a xs)(k:IW L' B' w w'):∃ys:List YK,ys.length=xs.length/\XL w' L B a ys:=by
 haveI:Inhabited YK:=⟨⟨0,0,0,0,0⟩⟩
 obtain⟨f,hf⟩:=choose_lt (α:=YK) (n:=xs.length) (p:=fun i y=>∃b o,a=some ⟨b,o,none⟩/\(L<=b/\b<B)/\Y5 w' b (o+i*5) y) (fun i hi=>by
  obtain⟨b,o,e,hb,hc⟩:=h i hi;obtain⟨v,hv⟩:=hc.iw k;exact⟨v,b,o,e,hb,hv⟩)
 refine⟨(List.range xs.length).map f,sP,fun i hi=>?_⟩;simp only[List.length_map,List.length_range]at hi;obtain⟨b,o,e,hb,hc⟩:=hf i hi;exact⟨b,o,e,hb,by simpa using hc⟩
theorem ZG.iw{b o:Nat}{x:Ph}(h:ZG w L B b o x)(k:IW L' B' w w'):∃y:Ph,y.args.length=x.args.length/\ZG w' L B b o y:=by
 obtain⟨a,c,h0,h1,h2⟩:=h;obtain⟨v0,e0⟩:=k.int h0;obtain⟨ys,hl,h3⟩:=h2.iw k;exact⟨⟨v0,ys⟩,hl,a,c,e0,by rw[hl];exact k.slice h1,h3⟩
theorem XZ.iw{xs:List Ph}(h:XZ w L B a xs)(k:IW L' B' w w'):∃ys:List Ph,ys.map (fun p=>p.args.length)=xs.map (fun p=>p.args.length)/\XZ w' L B a ys:=by
 haveI:Inhabited Ph:=⟨⟨0,[]⟩⟩
 obtain⟨f,hf⟩:=choose_lt (α:=Ph) (n:=xs.length) (p:=fun i y=>(∀hi:i<xs.length,y.args.length=xs[i].args.length)/\∃b o,a=some ⟨b,o,none⟩/\(L<=b/\b<B)/\ZG w' L B b (o+i*2) y) (fun i hi=>by
  obtain⟨b,o,e,hb,hc⟩:=h i hi;obtain⟨v,hl,hv⟩:=hc.iw k;exact⟨v,fun _=>hl,b,o,e,hb,hv⟩)
 refine⟨(List.range xs.length).map f,?_,fun i hi=>?_⟩
 ·refine List.ext_getElem sP (fun i h1 h2=>?_)
  simp only[List.length_map,List.length_range]at h1;simp only[List.getElem_map,List.getElem_range];exact(hf i h1).1 h1
 ·simp only[List.length_map,List.length_range]at hi
  obtain⟨_,b,o,e,hb,hc⟩:=hf i hi;exact⟨b,o,e,hb,by simpa using hc⟩
def Xi.sh(x:Xi):List Nat × Nat:=(x.phis.map (fun p=>p.args.length),x.instrs.length)
theorem Y8.iw{b o:Nat}{x:Xi}(h:Y8 w L B b o x)(k:IW L' B' w w'):∃y:Xi,y.sh=x.sh/\Y8 w' L B b o y:=by
 obtain⟨pa,pc,ia,ic,h0,h1,h2,h3,h4⟩:=h;obtain⟨t,ht⟩:=h2.iw k;obtain⟨ps,hp1,hp2⟩:=h3.iw k;obtain⟨is,hi1,hi2⟩:=h4.iw k;have hpl:ps.length=x.phis.length:=by have:=congrArg List.length hp1;simpa using this
 exact⟨⟨ps,is,t⟩,by simp only[Xi.sh,hp1,hi1],pa,pc,ia,ic,by rw[hpl];exact k.slice h0,by rw[hi1];exact k.slice h1,ht,hp2,hi2⟩
theorem Xl.iw{xs:List Xi}(h:Xl w L B a xs)(k:IW L' B' w w'):∃ys:List Xi,ys.map Xi.sh=xs.map Xi.sh/\Xl w' L B a ys:=by
 haveI:Inhabited Xi:=⟨⟨[],[],⟨0,0,0,0⟩⟩⟩
 obtain⟨f,hf⟩:=choose_lt (α:=Xi) (n:=xs.length) (p:=fun i y=>(∀hi:i<xs.length,y.sh=xs[i].sh)/\∃b o,a=some ⟨b,o,none⟩/\(L<=b/\b<B)/\Y8 w' L B b (o+i*6) y) (fun i hi=>by
  obtain⟨b,o,e,hb,hc⟩:=h i hi;obtain⟨v,hl,hv⟩:=hc.iw k;exact⟨v,fun _=>hl,b,o,e,hb,hv⟩)
 refine⟨(List.range xs.length).map f,?_,fun i hi=>?_⟩
 ·refine List.ext_getElem sP (fun i h1 h2=>?_)
  simp only[List.length_map,List.length_range]at h1;simp only[List.getElem_map,List.getElem_range];exact(hf i h1).1 h1
 ·simp only[List.length_map,List.length_range]at hi
  obtain⟨_,b,o,e,hb,hc⟩:=hf i hi;exact⟨b,o,e,hb,by simpa using hc⟩
end
def JA(l:List UInt8):List Value:=l.map fun b=>Value.int .u8 (b.toNat:Int)
theorem Zbe(l:List UInt8)(b:UInt8):JA (l++[b])=JA l++[Value.int .u8 (b.toNat:Int)]:=by simp[JA]
def YJ(w:World)(L B:Nat)(a:Option Addr)(vs:List Value):Prop:=∀i (h:i<vs.length),∃b o,a=some ⟨b,o,none⟩/\(L<=b/\b<B)/\w.cell? ⟨b,o+i,none⟩=some vs[i]
theorem YJ.keepS{w w':World}{L B:Nat}{a:Option Addr}{xs:List Value}(h:YJ w L B a xs)(k:Xu L B w w'):YJ w' L B a xs:=fun i hi=>by
 obtain⟨b,o,e,hb,hc⟩:=h i hi;exact⟨b,o,e,hb,by rw[Xc (k b hb.1 hb.2)];exact hc⟩
theorem KO{w:World}{base e:Nat}{v:Value}{n:Nat}{xs:List Value}(h:w.ownsRow base e 1 v n xs):∃a c,v=.slice a xs.length c/\YJ w base w.heap.size a xs:=by
 obtain⟨hl,h | ⟨g,cap,cur,rfl,hg,hh,hc,_,hs,ht⟩⟩:=h
 ·obtain⟨rfl,rfl⟩:=h
  have:xs=[]:=by simpa using hl
  subst this;exact⟨_,_,rfl,fun i hi=>absurd hi sP⟩
 ·simp only[Nat.mul_one]at hl hs ht
  subst hl;refine⟨_,_,rfl,fun i hi=>⟨g,0,rfl,⟨hg,?_⟩,?_⟩⟩
  ·rcases Nat.lt_or_ge g w.heap.size with h1 | h1
   ·exact h1
   ·rw[Array.getElem?_eq_none h1]at hh;cases hh
  ·rw[Nat.zero_add,cell_of_row w g i cur e (0,0) hh,<-Array.getElem?_toList]
   have:=congrArg (fun l:List Value=>l[i]?) ht;simp only[List.getElem?_take,hi,if_true]at this;rw[this,List.getElem?_eq_getElem hi]
theorem Zbj(w:World)(vs:List Value)(t:TypeId):YJ (w.alloc (.cells vs.toArray t)) w.heap.size (w.heap.size+1) (some ⟨w.heap.size,0,none⟩) vs:=fun i hi =>
 ⟨_,0,rfl,⟨Nat.le_refl _,Nat.lt_succ_self _⟩,by simp[hi]⟩
def YD(w:World)(L B:Nat)(a:Option Addr)(bs:List UInt8):Prop:=∀i (h:i<bs.length),∃b o,a=some ⟨b,o,none⟩/\(L<=b/\b<B)/\w.cell? ⟨b,o+i,none⟩=some (.int .u8 (bs[i].toNat:Int))
theorem YD.keepS{w w':World}{L B:Nat}{a:Option Addr}{xs:List UInt8}(h:YD w L B a xs)(k:Xu L B w w'):YD w' L B a xs:=fun i hi=>by
 obtain⟨b,o,e,hb,hc⟩:=h i hi;exact⟨b,o,e,hb,by rw[Xc (k b hb.1 hb.2)];exact hc⟩
theorem YD.keep{w w':World}{L B:Nat}{a:Option Addr}{xs:List UInt8}(h:YD w L B a xs)(k:Below B w w'):YD w' L B a xs:=h.keepS (Xu.of_below k)
theorem Za3{w:World}{base e n:Nat}{v:Value}{bs:List UInt8}(h:w.ownsRow base e 1 v n (JA bs)):∃a c L B,v=.slice a bs.length c/\YD w L B a bs/\YY L B w/\((L=0/\B=0)\/(B=L+1/\base<=L/\L<w.heap.size)):=by
 obtain⟨hl,h0 | ⟨g,cap,cur,rfl,hg,hh,hc,_,hs,ht⟩⟩:=h
 ·have:bs=[]:=by
   have h2:=h0.2;subst h2;simpa [JA]using hl
  subst this;exact⟨none,0,0,0,h0.1,fun i hi=>absurd hi sP,fun b o hb=>absurd hb oM,Or.inl ⟨rfl,rfl⟩⟩
 ·have hgl:g<w.heap.size:=(Array.getElem?_eq_some_iff.1 hh).1
  have hn:n=bs.length:=by simpa [JA]using hl.symm
  subst hn;refine⟨_,_,g,g+1,rfl,fun i hi=>⟨g,0,rfl,⟨Nat.le_refl _,Nat.lt_succ_self _⟩,?_⟩,fun b o hb=>?_,Or.inr ⟨rfl,hg,hgl⟩⟩
  ·rw[Nat.zero_add,cell_of_row w g i cur e (0,0) hh,<-Array.getElem?_toList]
   have h3:=congrArg (fun l:List Value=>l[i]?) ht;simp only[List.getElem?_take,Nat.mul_one,hi,if_true]at h3;rw[h3];simp[JA,hi]
  ·have:b=g:=oM
   subst this;unfold World.frozen?;rw[hh];simp
theorem Je{w:World}{B B' e s n:Nat}{v:Value}{xs:List Value}(h:w.ownsRow B e s v n xs)(hb:B'<=B):w.ownsRow B' e s v n xs:=by
 obtain⟨hl,h0 | ⟨g,cap,cur,hv,hg,r⟩⟩:=h
 ·exact⟨hl,.inl h0⟩
 ·exact⟨hl,.inr ⟨g,cap,cur,hv,Nat.le_trans hb hg,r⟩⟩
def Ka(p:Addr):Value:=.pointer (some p)
def XP:List Bool->List Addr->List Addr
 | k::ks,p::ps=>if k then p::XP ks ps else XP ks ps
 | _,_=>[]
theorem Zc4(ks:List Bool)(ps:List Addr)(k:Bool)(p:Addr)(h:ks.length=ps.length):XP (ks++[k]) (ps++[p])=XP ks ps++(if k then [p]else []):=by
 induction ks generalizing ps with
 | nil=>cases ps with
  | nil=>cases k<;>rfl
  | cons q r=>simp at h
 | cons x r ih=>cases ps with
  | nil=>simp at h
  | cons q s=>cases x<;>simp[XP,ih s (by simpa using h)]
theorem Zd1(ks:List Bool)(ps:List Addr):(XP ks ps).length<=ps.length:=by
 induction ks generalizing ps with
 | nil=>simp[XP]
 | cons x r ih=>cases ps with
  | nil=>simp[XP]
  | cons q s=>have:=ih s;cases x<;>simp[XP]<;>omega
theorem Tryz.infoPtr:(Tryz.prog.info? 183).map (fun i=>(i.zero,i.size,i.bytes))=some (some (.pointer none),1,8):=kR
theorem ZdF(l:List Addr)(v:Addr):(l++[v]).map Ka=l.map Ka++[Ka v]:=sP
theorem Zcq(w:World):(w.alloc (.cells #[] 183)).ownsRow w.heap.size 183 1 (.slice (some ⟨w.heap.size,0,none⟩) 0 0) 0 []:=by
 have:=World.ownsRow_lit (base:=w.heap.size) (e:=183) (size:=1) w #[] 0 sP sP rfl;simpa using this
theorem KM(ka fa:Option Addr)(kc fc:Nat)(ks:List Bool)(ps:List Addr)(L B:Nat)(w:World)(hB:B<=w.heap.size)(hk:Hid (YJ w L B ka (ks.map Value.bool)))(hp:Hid (YJ w L B fa (ps.map Ka)))(hl:Hid (ks.length=ps.length))(hs:ps.length<=1000) :
 Calls Tryz.prog 112 #[.slice ka ks.length kc,.slice fa ps.length fc] w fun e w'=>∃v,e=.returned v/\Below w.heap.size w w'/\w'.ownsRow w.heap.size 183 1 v (XP ks ps).length ((XP ks ps).map Ka):=by
 obtain⟨i0,hi0,hz0,hz1,hz2⟩:=info_parts Tryz.infoPtr
 go_enter Tryz.func112,Tryz.ntmps112
 go_wp2
 go_loopw [5,11] (fun v i wr=>∃k:Nat,k<=ps.length/\i=.int .i64 k/\Hid (Below w.heap.size w wr)/\Hid (wr.ownsRow w.heap.size 183 1 v (XP (ks.take k) (ps.take k)).length ((XP (ks.take k) (ps.take k)).map Ka))) (fun _ i _=>ps.length-(intOf i).toNat)
 case atStart=>exact⟨0,Nat.zero_le _,rfl,Xa (Xb (Below.refl _ _) _),Xa (by simpa [XP]using Zcq w)⟩
 case round =>
  obtain⟨k,hk',rfl,HB,HO⟩:=hrel;have hwz:=HB.size;by_cases hlt:k<ps.length
  ·have hkk:k<ks.length:=by have:=hl.out;omega
   obtain⟨b1,o1,rfl,⟨_,hb1⟩,hc1⟩:=(hk.keepS (Xu.of_below (HB.mono hB))) k (by simpa using hkk);obtain⟨b2,o2,rfl,⟨_,hb2⟩,hc2⟩:=(hp.keepS (Xu.of_below (HB.mono hB))) k (by simpa using hlt);rw[List.getElem_map]at hc1 hc2;unfold Ka at hc2;have HT:Hid (XP (ks.take (k+1)) (ps.take (k+1))=XP (ks.take k) (ps.take k)++(if ks[k]then [ps[k]]else [])):=Xa (by rw[List.take_succ_eq_append_getElem hkk,List.take_succ_eq_append_getElem hlt,Zc4 _ _ _ _ (by simp only[List.length_take];omega)]);have HL:Hid ((XP (ks.take k) (ps.take k)).length+1<=2000):=Xa (by have:=Zd1 (ks.take k) (ps.take k);simp only[List.length_take]at this;omega);generalize ks[k]=K at *;generalize ps[k]=p at *;cases K with
   | false =>
    have HO1:Hid (wr.ownsRow w.heap.size 183 1 u5 (XP (ks.take (k+1)) (ps.take (k+1))).length ((XP (ks.take (k+1)) (ps.take (k+1))).map Ka)):=Xa (by rw[HT.out];simpa using HO.out);go_wp2;exact⟨⟨k+1,oM,gM,HB,HO1⟩,by simp[intOf];omega⟩
   | true =>
    have HT':Hid (XP (ks.take (k+1)) (ps.take (k+1))=XP (ks.take k) (ps.take k)++[p]):=Xa (by have:=HT.out;simpa using this)
    go_wp2_with (at_builtin;refine wpList_append_own_at _ rfl _ _ 178 rfl w.heap.size 183 i0 (.pointer none) 1 8 Tryz.underlying178 hi0 hz0 hz1 hz2 rfl vZ _ _ _ rfl (HO.alloc _) ⟨wr.heap.size,0,none⟩ 1 1 [.pointer (some p)] rfl rfl ?c1 ?c2 ?c3 ?c4 ?c5 ?_)
    case c2=>first | rfl | simp | (intro u hu;simp at hu;subst hu;rfl)
    case c3=>have:=HL.out;unfold maxLen;omega
    case c4=>have:=HL.out;omega
    case c5=>first | omega | (simp;omega)
    intro v1 w1 hown1 hgrow1 hne1 hat1;have HO1:Hid (w1.ownsRow w.heap.size 183 1 v1 (XP (ks.take (k+1)) (ps.take (k+1))).length ((XP (ks.take (k+1)) (ps.take (k+1))).map Ka)):=Xa (by rw[HT'.out,ZdF,List.length_append];exact hown1);have HB1:Hid (Below w.heap.size w w1):=Xa (XI ((HB.out).alloc oM _) hgrow1 (HO.alloc _) (Nat.le_refl _) (by simp;omega));clear hown1 hgrow1 hne1 hat1;go_wp2;exact⟨⟨k+1,oM,gM,HB1,HO1⟩,by simp[intOf];omega⟩
  ·have HO2:Hid (wr.ownsRow w.heap.size 183 1 u5 (XP ks ps).length ((XP ks ps).map Ka)):=Xa (by have:=HO.out;have e:=hl.out;rwa[List.take_of_length_le oM,List.take_of_length_le oM]at this)
   go_wp2
   go_ret
   exact⟨_,rfl,HB.out,HO2.out⟩
def Jj(l:List UInt8):ByteArray:=⟨l.toArray⟩
structure Gr(w w':World)(u v:Value):Prop where
 grown:w.grownBy w' u.ownBlock
 own:∀g,v.ownBlock=some g->w.heap.size<=g\/u.ownBlock=some g
theorem Gr.refl(w:World)(u:Value):Gr w w u u:=⟨⟨rfl,rfl,rfl,Nat.le_refl _,fun _ _ _=>rfl⟩,fun _ h=>Or.inr h⟩
theorem Gr.trans{a b c:World}{u v x:Value}(h:Gr a b u v)(k:Gr b c v x):Gr a c u x :=
 ⟨⟨k.grown.os.trans h.grown.os,k.grown.tape.trans h.grown.tape,k.grown.output.trans h.grown.output,Nat.le_trans h.grown.size k.grown.size,
  fun i hi hne=>(k.grown.block i (Nat.lt_of_lt_of_le hi h.grown.size) (fun e=>by
   rcases h.own i e.symm with h1 | h1
   ·omega
   ·exact hne h1.symm)).trans (h.grown.block i hi hne)⟩,
  fun g hg=>by
   rcases k.own g hg with h1 | h1
   ·exact Or.inl (Nat.le_trans h.grown.size h1)
   ·exact h.own g h1⟩
theorem Gr.below{w w' W:World}{u v:Value}{B e s n:Nat}{xs:List Value}(h:Gr w w' u v)(ho:w.ownsRow B e s u n xs)(hb:Below B W w)(hB:B<=w.heap.size):Below B W w' :=
 hb.grown h.grown hB (fun k hk=>(ho.lt k hk).1)
theorem Gr.alloc{w w':World}{u v:Value}(h:Gr w w' u v)(o:Obj):Gr w (w'.alloc o) u v :=
 ⟨⟨h.grown.os,h.grown.tape,h.grown.output,by have:=h.grown.size;simp;omega,fun i hi hne=>(Below.heap_alloc _ _ _ (Nat.lt_of_lt_of_le hi h.grown.size)).trans (h.grown.block i hi hne)⟩,h.own⟩
theorem Gr.same{w w':World}{u v:Value}{L B:Nat}(h:Gr w w' u v)(hu:∀g,u.ownBlock=some g->g<L\/B<=g)(hB:B<=w.heap.size):Xu L B w w':=fun k h1 h2 =>
 h.grown.block k oM (fun e=>by have:=hu k e.symm;omega)
def VH(op:Int):List UInt8 :=
 if op=1 then [99,111,110,115,116]else if op=2 then [97,114,103]else if op=3 then [97,100,100]else if op=4 then [115,117,98]else if op=5 then [109,117,108]
 else if op=6 then [100,105,118]else if op=7 then [108,101,115,115]else if op=8 then [108,111,97,100]else if op=9 then [115,116,111,114,101]else if op=11 then [109,111,118,101]else if op=12 then [112,117,116]else if op=13 then [103,101,116]else [111,117,116]
def pick(x:YK)(c:UInt8):List Int:=if c=100 then [x.dst]else if c=97 then [x.a]else if c=98 then [x.b]else if c=105 then [x.imm]else []
theorem Zci(l:List Int)(v:Int):(l++[v]).map (Value.int .i64)=l.map (Value.int .i64)++[Value.int .i64 v]:=sP
theorem Ua(ps:List Ph)(p:Ph):X8 (ps++[p])=X8 ps++[p.dst]:=by simp[X8]
theorem Tz(ps:List YK)(p:YK):XG (ps++[p])=XG ps++(if dB p.op then [p.dst]else []):=by
 simp only[XG,List.filter_append,List.map_append];congr 1;cases h:dB p.op<;>simp[h]
theorem K3(ps:List Xi)(p:Xi):blksDefs (ps++[p])=blksDefs ps++ZK p:=by simp[blksDefs]
theorem JM(xs:List YK):(XG xs).length<=xs.length:=by simp only[XG,List.length_map];exact List.length_filter_le _ _
theorem Jn(xs:List Xi):(blksDefs xs).length<=Xk xs:=by
 induction xs with
 | nil=>simp[blksDefs]
 | cons x xs ih =>
  have h1:blksDefs (x::xs)=ZK x++blksDefs xs:=by simp[blksDefs]
  have h2:Xk (x::xs)=Zl x+Xk xs:=by simp[Xk]
  have h3:(ZK x).length<=Zl x:=by
   simp only[ZK,X8,List.length_append,List.length_map,Zl];have:=JM x.instrs;omega
  rw[h1,h2,List.length_append];omega
theorem ZaO{w wr w1:World}{u:Value}{n:Nat}{xs:List Value}{a:Option Addr}{N c:Nat}(hw:Below w.heap.size w wr)(hsz:w.heap.size<wr.heap.size)(hcell:wr.cell? ⟨w.heap.size,1,none⟩=some (.slice a N c))
 (o:Obj) (hown:wr.ownsRow (w.heap.size+1) 2 1 u n xs) (hg:(wr.alloc o).grownBy w1 u.ownBlock) :
 Below w.heap.size w w1/\w.heap.size<w1.heap.size/\w1.cell? ⟨w.heap.size,1,none⟩=some (.slice a N c)/\wr.heap.size<=w1.heap.size:=by
 have hz:=hg.size;simp at hz;refine⟨XI (Xb hw _) hg (hown.alloc _) oM (by simp;omega),oM,?_,oM⟩;exact(Xc (Y9 hg (hown.alloc _) (b:=w.heap.size) oM (by simp;omega))).trans (((Xb (Below.refl wr.heap.size wr) _).cell (p:=⟨w.heap.size,1,none⟩) hsz).trans hcell)
theorem Zcv(v:Int)(a:Option Addr)(n c:Nat)(xs:List Xi)(L B:Nat)(w:World)(ha:Hid (Xl w L B a xs))(hx:Hid (n=xs.length))(hn:n<=1048576)(hs:Hid (Xk xs<=1048576))(hB:B<=w.heap.size) :
 Calls Tryz.prog 76 #[.agg #[.int .i64 v,.slice a n c]] w fun e w'=>∃a' c',e=.returned (.slice a' (blksDefs xs).length c')/\Below w.heap.size w w'/\Xg w' w.heap.size w'.heap.size a' (blksDefs xs):=by
 obtain⟨i0,hi0,hz0,hz1,hz2⟩:=info_parts Tryz.info2'
 go_enter Tryz.func76,Tryz.ntmps76
 go_wp2
 go_loopw [3,4] (fun u i wr=>∃k:Nat,k<=n/\i=.int .i64 k/\Below w.heap.size w wr/\w.heap.size<wr.heap.size/\wr.cell? ⟨w.heap.size,1,none⟩=some (.slice a n c)/\wr.ownsRow (w.heap.size+1) 2 1 u (blksDefs (xs.take k)).length ((blksDefs (xs.take k)).map (Value.int .i64))) (fun _ i _=>n-(intOf i).toNat)
 case atStart=>exact⟨0,Nat.zero_le _,rfl,Xb (Xb (Below.refl _ _) _) _,by simp;omega,sP,Jd _ _⟩
 case round =>
  obtain⟨k,hk,rfl,hw,hsz,hcell,hown⟩:=hrel;by_cases hlt:k<n
  ·have hkx:k<xs.length:=by have:=hx.out;omega
   obtain⟨b,o,rfl,⟨_,hbB⟩,hc⟩:=ha.out k hkx;have HC:=Xa hc;have hnx:Hid (blksDefs (xs.take (k+1))=blksDefs (xs.take k)++(X8 xs[k].phis++XG xs[k].instrs)):=by
    show _=_;rw[Xr _ _ hkx,K3];rfl
   have hbd:(blksDefs (xs.take k)).length+(xs[k].phis.length+XR xs[k].phis+xs[k].instrs.length)<=1048576:=by
    have h1:=Jp xs (k+1);rw[Xr _ _ hkx,Jq]at h1;have h2:=Jn (xs.take k);have h3:=hs.out;have h4:Zl xs[k]=xs[k].phis.length+XR xs[k].phis+xs[k].instrs.length:=rfl;omega
   have hpl:xs[k].phis.length<=1048576:=oM;have hil:xs[k].instrs.length<=1048576:=oM;have HO:=Xa hown;clear hown hc;generalize hX:xs[k]=X at *;clear hX;generalize blksDefs (xs.take k)=D at *;obtain⟨pa,pc,ia,ic,e0,e1,_,hp,hi⟩:=HC.out;have HP:=Xa hp;have HI:=Xa hi;have E0:=Xa e0;have E1:=Xa e1;clear e0 e1 hp hi HC;go_wp2
   go_loopw [3,5] (fun u i wi=>∃j:Nat,j<=X.phis.length/\i=.int .i64 j/\Below w.heap.size w wi/\w.heap.size<wi.heap.size/\wi.cell? ⟨w.heap.size,1,none⟩=some (.slice (some ⟨b,o,none⟩) n c)/\wi.ownsRow (w.heap.size+1) 2 1 u (D++X8 (X.phis.take j)).length ((D++X8 (X.phis.take j)).map (Value.int .i64))) (fun _ i _=>X.phis.length-(intOf i).toNat)
   case atStart=>exact⟨0,Nat.zero_le _,rfl,hw,hsz,hcell,by simpa [X8]using HO.out⟩
   case round =>
    obtain⟨j,hj,rfl,hwi,hszi,hcelli,howni⟩:=hrel;have f0:=(XD hwi oM).trans E0.out;have f1:=(XD hwi oM).trans E1.out;by_cases hjt:j<X.phis.length
    ·obtain⟨b',o',rfl,⟨_,hbB'⟩,aa,cc,g0,g1,_⟩:=HP.out j hjt
     have e2:=(XD hwi oM).trans g0;have h3:Hid (D++X8 (X.phis.take (j+1))=(D++X8 (X.phis.take j))++[X.phis[j].dst]):=by show _=_;rw[Xr _ _ hjt,Ua,List.append_assoc]
     have hl:(D++X8 (X.phis.take j)).length<=1048576:=by simp[X8];omega
     clear g0 g1;generalize X.phis[j]=P at *;generalize D++X8 (X.phis.take j)=D1 at *;have HOi:=Xa howni;clear howni f1
     go_wp2_with (at_builtin;refine wpList_append_own _ rfl _ _ 26 rfl (w.heap.size+1) 2 i0 (.int .i64 0) 1 8 Tryz.underlying26 hi0 hz0 hz1 hz2 rfl vZ _ _ _ rfl (HOi.alloc _) ⟨wr.heap.size,0,none⟩ 1 1 [.int .i64 P.dst] rfl rfl ?c1 ?c2 ?c3 ?c4 ?c5 ?_)
     case c1 =>
      intro j u hj
      match j,hj with
      | 0,hj=>simp at hj;subst hj;simp[Addr.add]
     case c2=>intro u hu;simp at hu;subst hu;rfl
     case c3=>unfold maxLen;omega
     case c4=>omega
     case c5=>simp;omega
     intro v1 w1 hown1 hgrow1 _;have HO1:=Xa hown1;clear hown1;go_wp2;obtain⟨q1,q2,q3,_⟩:=ZaO hwi hszi hcelli _ HOi.out hgrow1;exact⟨⟨j+1,oM,gM,q1,q2,q3,by rw[h3.out,Ys];simpa using HO1.out⟩,by simp[intOf];omega⟩
    ·have hE:=Xa (List.take_of_length_le (l:=X.phis) (i:=j) oM)
     have HOi:=Xa howni;clear howni;go_wp2
     go_loopw [3,6] (fun u i wi=>∃j:Nat,j<=X.instrs.length/\i=.int .i64 j/\Below w.heap.size w wi/\w.heap.size<wi.heap.size/\wi.cell? ⟨w.heap.size,1,none⟩=some (.slice (some ⟨b,o,none⟩) n c)/\wi.ownsRow (w.heap.size+1) 2 1 u (D++X8 X.phis++XG (X.instrs.take j)).length ((D++X8 X.phis++XG (X.instrs.take j)).map (Value.int .i64))) (fun _ i _=>X.instrs.length-(intOf i).toNat)
     case atStart=>exact⟨0,Nat.zero_le _,rfl,hwi,hszi,hcelli,by have:=HOi.out;rw[hE.out]at this;simpa [XG]using this⟩
     case round =>
      clear hwi hszi hcelli f0 f1 HOi hE;obtain⟨j,hj,rfl,hwi,hszi,hcelli,howni⟩:=hrel;have f1:=(XD hwi oM).trans E1.out;by_cases hjt:j<X.instrs.length
      ·obtain⟨b',o',rfl,⟨_,hbB'⟩,g0,g1,_,_,_⟩:=HI.out j hjt
       have e2:=(XD hwi oM).trans g0;have e3:=(XD hwi oM).trans g1;have h3:Hid (D++X8 X.phis++XG (X.instrs.take (j+1))=(D++X8 X.phis++XG (X.instrs.take j))++(if dB X.instrs[j].op then [X.instrs[j].dst]else [])):=by show _=_;rw[Xr _ _ hjt,Tz,<-List.append_assoc]
       have hl:(D++X8 X.phis++XG (X.instrs.take j)).length<=1048576:=by have:=JM (X.instrs.take j);simp[X8]at this |-;omega
       clear g0 g1;generalize X.instrs[j]=P at *;generalize D++X8 X.phis++XG (X.instrs.take j)=D1 at *;have HOi:=Xa howni;clear howni;cases hd:dB P.op
       ·have HD:=Xa hd
        go_wp2_with (go_at_call 23;refine(Zbs _ _).mono ?_;rintro e w2 ⟨rfl,hw2⟩;rw[hw2];clear hw2 w2)
        exact⟨⟨j+1,oM,gM,hwi,hszi,hcelli,by rw[h3.out,HD.out];simpa using HOi.out⟩,by simp[intOf];omega⟩
       ·have HD:=Xa hd
        go_wp2_with (first | (go_at_call 23;refine(Zbs _ _).mono ?_;rintro e w2 ⟨rfl,hw2⟩;rw[hw2];clear hw2 w2) | (at_builtin;refine wpList_append_own _ rfl _ _ 26 rfl (w.heap.size+1) 2 i0 (.int .i64 0) 1 8 Tryz.underlying26 hi0 hz0 hz1 hz2 rfl vZ _ _ _ rfl (HOi.alloc _) ⟨wr.heap.size,0,none⟩ 1 1 [.int .i64 P.dst] rfl rfl ?c1 ?c2 ?c3 ?c4 ?c5 ?_))
        case c1 =>
         intro j u hj
         match j,hj with
         | 0,hj=>simp at hj;subst hj;simp[Addr.add]
        case c2=>intro u hu;simp at hu;subst hu;rfl
        case c3=>unfold maxLen;omega
        case c4=>omega
        case c5=>simp;omega
        intro v1 w1 hown1 hgrow1 _;have HO1:=Xa hown1;clear hown1;go_wp2;obtain⟨q1,q2,q3,_⟩:=ZaO hwi hszi hcelli _ HOi.out hgrow1;exact⟨⟨j+1,oM,gM,q1,q2,q3,by rw[h3.out,HD.out,if_pos rfl,Ys];simpa using HO1.out⟩,by simp[intOf];omega⟩
      ·have hE:=Xa (List.take_of_length_le (l:=X.instrs) (i:=j) oM)
       have HOi:=Xa howni;clear howni;go_wp2;exact⟨⟨k+1,oM,gM,hwi,hszi,hcelli,by have:=HOi.out;rw[hE.out]at this;rw[hnx.out,<-List.append_assoc];exact this⟩,by simp[intOf];omega⟩
  ·go_wp2
   go_ret
   have e:=List.take_of_length_le (l:=xs) (i:=k) (by have:=hx.out;omega);rw[e]at hown;obtain⟨a1,c1,rfl,hi1⟩:=Xj hown;exact⟨_,_,rfl,hw,hi1.mono oM (Nat.le_refl _)⟩
theorem Kt{P:Program}{w:World}(base:Nat)(t ty e:TypeId)(i:TypeInfo)(size:Nat)(ht:P.underlying t=some (.slice e))(hi:P.info? e=some i)
 (v:Value) (n c:Nat) (xs:List Value) (hown:w.ownsRow base e size v n xs) :
 (Builtin.append_ #[t,t] ty #[v,.slice none 0 c]).run P w=.ok v w:=by
 rcases hown.2 with⟨rfl,rfl⟩ | ⟨g,cap,cur,rfl,_,_,hnc,_⟩
 ·simp[Builtin.append_,run_underlying ht,sizeOf,typeInfo,hi,Builtin.lenOf,Builtin.firstCells]
 ·simp[Builtin.append_,run_underlying ht,sizeOf,typeInfo,hi,Builtin.lenOf,Builtin.firstCells,hnc,storeCells]
theorem Zei{w:World}{L B:Nat}{ad:Addr}{qs:List Int}(hv:Xg w L B (some ad) qs):∀j u,(qs.map (Value.int .i64))[j]?=some u->w.cell? (ad.add j)=some u:=by
 intro j u hj;have hl:j<qs.length:=by
  rcases Nat.lt_or_ge j qs.length with h | h
  ·exact h
  ·rw[List.getElem?_eq_none (by simpa using h)]at hj;cases hj
 obtain⟨b,o,e,-,hc⟩:=hv j hl;cases e;rw[List.getElem?_map,List.getElem?_eq_getElem hl]at hj;cases hj;rw[Addr.add_lit];exact hc
theorem ZC{P:Program}{w:World}{o:Oper}{a:Act}{K:Act->World->Prop}{Q:Exit->Act->World->Prop}(s x:Operand)(t:TypeId)
 (ho:o.op=.call { callee:=.builtin .append,args:=#[s,x],argTypes:=#[t,t] })
 (base:Nat) (e:TypeId) (i:TypeInfo) (ht:P.underlying t=some (.slice e)) (hi:P.info? e=some i) (hz:i.zero=some (.int .i64 0))
 (hsize:i.size=1) (hby:i.bytes=8)
 (v:Value) (xs:List Int) (hs:a.eval s=v) (hown:w.ownsRow base e 1 v xs.length (xs.map (Value.int .i64))) (hn:v≠.slice none 0 0)
 (ad:Option Addr) (m c:Nat) (qs:List Int) (L B:Nat) (hx:a.eval x=.slice ad m c) (hm:m=qs.length) (hv:Xg w L B ad qs)
 (hbytes:xs.length+m<=1000000000000) (hbase:base<=w.heap.size)
 (h:∀v' w',w'.ownsRow base e 1 v' (xs++qs).length ((xs++qs).map (Value.int .i64))->Gr w w' v v'->v'≠.slice none 0 0->K (a.put o.dst v') w') :
 o.wp P a w K Q:=by
 cases ad with
 | none =>
  have has:qs=[]:=by
   cases qs with
   | nil=>rfl
   | cons x r=>obtain⟨_,_,e,_⟩:=hv 0 sP;cases e
  subst has;subst hm;have hrun:=Kt (P:=P) (w:=w) base t o.type e i 1 ht hi v xs.length c _ hown;unfold Oper.wp execOp;simp only[ho,resolve,invoke,builtin,Sem.run_bind,Sem.run_pure,Result.andThen_ok,List.map_toArray,List.map_cons,List.map_nil,hs,hx,List.length_nil,hrun];exact h v w (by simpa using hown) (Gr.refl _ _) hn
 | some ad =>
  obtain⟨v',w',hr,h1,h2,h3,h4⟩:=run_append_own_at (P:=P) w base t o.type e i (.int .i64 0) 1 8 ht hi hz hsize hby rfl vZ v xs.length _ hown ad m c (qs.map (Value.int .i64)) (by simp[hm]) (Zei hv) (by intro u hu;obtain⟨z,-,rfl⟩:=List.mem_map.1 hu;rfl) (by unfold maxLen;omega) oM hbase;unfold Oper.wp execOp;simp only[ho,resolve,invoke,builtin,Sem.run_bind,Sem.run_pure,Result.andThen_ok,List.map_toArray,List.map_cons,List.map_nil,hs,hx,hr];refine h v' w' (by rw[List.length_append,List.map_append,<-hm];exact h1) ⟨h2,fun g hg=>?_⟩ (fun e=>hn (h3.1 e).1);rcases h4 with h4 | h4
  ·exact Or.inr (h4 ▸ hg)
  ·rw[h4]at hg;cases hg;exact Or.inl (Nat.le_refl _)
theorem J8(fa:Option Addr)(fc:Nat)(ps:List Addr)(vs:List Int)(L B:Nat)(w:World)(hB:B<=w.heap.size)(hp:Hid (YJ w L B fa (ps.map Ka)))(hl:Hid (vs.length=ps.length))(hv:Hid (∀i (h:i<ps.length) (h':i<vs.length),ps[i].block<w.heap.size/\w.cell? ps[i]=some (.int .i64 vs[i])))(hs:ps.length<=1000) :
 Calls Tryz.prog 111 #[.slice fa ps.length fc] w fun e w'=>∃v,e=.returned v/\Below w.heap.size w w'/\w'.ownsRow w.heap.size 2 1 v vs.length (vs.map (Value.int .i64)):=by
 obtain⟨i0,hi0,hz0,hz1,hz2⟩:=info_parts Tryz.info2'
 go_enter Tryz.func111,Tryz.ntmps111
 go_wp2
 go_loopw [3,9] (fun v i wr=>∃k:Nat,k<=ps.length/\i=.int .i64 k/\Hid (Below w.heap.size w wr)/\Hid (wr.ownsRow w.heap.size 2 1 v (vs.take k).length ((vs.take k).map (Value.int .i64)))) (fun _ i _=>ps.length-(intOf i).toNat)
 case atStart=>exact⟨0,Nat.zero_le _,rfl,Xa (Xb (Below.refl _ _) _),Xa (by
  have:=World.ownsRow_lit (base:=w.heap.size) (e:=2) (size:=1) w #[] 0 sP sP rfl;simpa using this)⟩
 case round =>
  obtain⟨k,hk',rfl,HB,HO⟩:=hrel;have hwz:=HB.size;by_cases hlt:k<ps.length
  ·have hkk:k<vs.length:=by have:=hl.out;omega
   obtain⟨b2,o2,rfl,⟨_,hb2⟩,hc2⟩:=(hp.keepS (Xu.of_below (HB.mono hB))) k (by simpa using hlt);rw[List.getElem_map]at hc2;unfold Ka at hc2;obtain⟨hq1,hq2⟩:=hv.out k hlt hkk;have hc3:=(HB.cell (p:=ps[k]) hq1).trans hq2;have HT:Hid ((vs.take (k+1))=vs.take k++[vs[k]]):=Xa (List.take_succ_eq_append_getElem hkk);have HL:Hid ((vs.take k).length+1<=2000):=Xa (by have:=hl.out;simp only[List.length_take];omega);clear hq1 hq2;generalize vs[k]=V at *;generalize ps[k]=p at *
   go_wp2_with (at_builtin;refine wpList_append_own_at _ rfl _ _ 26 rfl w.heap.size 2 i0 (.int .i64 0) 1 8 Tryz.underlying26 hi0 hz0 hz1 hz2 rfl vZ _ _ _ rfl (HO.alloc _) ⟨wr.heap.size,0,none⟩ 1 1 [.int .i64 V] rfl rfl ?c1 ?c2 ?c3 ?c4 ?c5 ?_)
   case c1=>exact cell_one_new _ _ _
   case c2=>intro u hu;simp at hu;subst hu;rfl
   case c3=>have:=HL.out;unfold maxLen;omega
   case c4=>have:=HL.out;omega
   case c5=>simp;omega
   intro v1 w1 hown1 hgrow1 hne1 hat1;have HO1:Hid (w1.ownsRow w.heap.size 2 1 v1 (vs.take (k+1)).length ((vs.take (k+1)).map (Value.int .i64))):=Xa (by
    rw[HT.out,Zci,List.length_append,List.map_take,List.length_take];exact hown1)
   have HB1:Hid (Below w.heap.size w w1):=Xa (XI ((HB.out).alloc oM _) hgrow1 (HO.alloc _) (Nat.le_refl _) (by simp;omega));clear hown1 hgrow1 hne1 hat1;go_wp2;exact⟨⟨k+1,oM,gM,HB1,HO1⟩,by simp[intOf];omega⟩
  ·have HO2:Hid (wr.ownsRow w.heap.size 2 1 u3 vs.length (vs.map (Value.int .i64))):=Xa (by have:=HO.out;have e:=hl.out;rwa[List.take_of_length_le oM]at this)
   go_wp2
   go_ret
   exact⟨_,rfl,HB.out,HO2.out⟩
end Go.Proofs.YthgikffcdgpgiaaGreatDoor
