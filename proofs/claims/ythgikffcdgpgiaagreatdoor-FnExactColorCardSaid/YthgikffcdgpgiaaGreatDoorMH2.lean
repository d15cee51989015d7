import Derived.Test.YthgikffcdgpgiaaGreatDoorMB1
namespace Go.Proofs.YthgikffcdgpgiaaGreatDoor
set_option maxHeartbeats 4000000
set_option maxRecDepth 1000000
open Go.RowKit
def SmX(a b:World):Prop:=a=b
def LoS(xs:List Xi)(v b:Nat)(w:World)(e:Ending)(w':World):Prop:=∃s:Bool,e=.returned (.bool s)/\(s=true↔VP xs v b)/\Below w.heap.size w w'
theorem ZaX(V v n c bf of g b:Nat)(xs:List Xi)(lv:Nat->Bool)(w:World)(hF:Hid (Yp w (some ⟨bf,of,none⟩) xs))(hx:Hid (n=xs.length))(ho:Hid (ZZ V xs))(hb:b<n)(hr:Hid (w.rowIs g 4 n (fun z=>.bool (lv z))))(hlv:Hid (∀z,z<n->(lv z=true↔TR xs v z))) :
 Calls Tryz.prog 49 #[.slice (some ⟨bf,of,none⟩) n c,.slice (some ⟨g,0,none⟩) n n,.int .i64 (v:Int),.int .i64 (b:Int)] w fun e w'=>LoS xs v b w e w':=by
 have hn:n<=1000:=by have:=hx.out;have:=ho.okf.n2;omega
 have hbx:b<xs.length:=by have:=hx.out;omega
 obtain⟨a0,n0,a1,n1,a2,n2,a3,n3,a4,n4,a5,n5,c0,c1,c2,c3,c4,c5,hbf,x0,_,x2,_,_,_,hn0',_,hn2',_,_,hfc⟩:=Yp.row ho.out hF.out (Below.refl w.heap.size w) hbx;have HT:=Xa hfc.t;have HE:=Xa (T2 a2 n2 c2 (v:Int) (XB xs b) 0 w.heap.size w (Xa hfc.e.2) (Xa hfc.e.1) oM);clear hfc;cases hed:hasI (XB xs b) (v:Int)with
 | true =>
  have HLO:Hid (VP xs v b):=Xa (Or.inl (Xy.1 hed));rw[hed]at HE;clear hed
  go_enter Tryz.func49,Tryz.ntmps49
  go_wp2_with fail
  refine HE.mono ?_;rintro e w3 ⟨rfl,hw3⟩;have e3:=hw3.symm;subst e3
  go_wp2_with fail
  go_ret
  exact⟨true,rfl,⟨fun _=>HLO.out,fun _=>rfl⟩,Below.refl _ _⟩
 | false =>
  have HNE:Hid (¬(v:Int)∈XB xs b):=Xa (fun h=>by rw[Xy.2 h]at hed;cases hed);rw[hed]at HE;clear hed
  go_enter Tryz.func49,Tryz.ntmps49
  go_wp2_with fail
  refine HE.mono ?_;rintro e w3 ⟨rfl,hw3⟩;have e3:=hw3.symm;subst e3;clear HE
  go_wp2_with fail
  go_loopw [9] (fun i wr=>∃j:Nat,j<=n0/\i=.int .i64 j/\Hid (SmX wr w)/\Hid (∀r,r<j->∀t,(Xx xs b)[r]?=some t->¬Lin xs v t)) (fun i _=>n0-(intOf i).toNat)
  case atStart=>exact⟨0,Nat.zero_le _,rfl,Xa rfl,Xa (fun r hr=>absurd hr oM)⟩
  case round =>
   obtain⟨j,hj,rfl,HSW,HNO⟩:=hrel;have esw:w=wr:=Eq.symm HSW.out;clear HSW;subst esw;by_cases hjn:j<n0
   ·have hjt:j<(Xx xs b).length:=by rw[<-HT.1];exact hjn
    have hjI:j<(Xh (Xx xs b)).length:=by simp[Xh];exact hjt
    obtain⟨bt,ot,rfl,⟨_,hbt⟩,hct⟩:=HT.2 j hjI;have ect:(Xh (Xx xs b))[j]=(((Xx xs b)[j]:Nat):Int):=by simp[Xh]
    rw[ect]at hct;have htg:=List.getElem_mem hjt;have htx:=ho.okf.tg _ hbx _ htg;have HGE:Hid ((Xx xs b)[j]?=some (Xx xs b)[j]):=Xa (List.getElem?_eq_getElem hjt);obtain⟨t,ht⟩:∃t,t=(Xx xs b)[j]:=⟨_,rfl⟩;rw[<-ht]at hct htg htx HGE;have HTG:=Xa htg;have htn:t<n:=by have:=hx.out;omega
    have kl:=hr.cell htn;have HLV:=Xa (hlv.out t htn);obtain⟨d0,m0,d1,m1,d2,m2,d3,m3,d4,m4,d5,m5,f0,f1,f2,f3,f4,f5,_,_,t1,_,_,_,_,_,hm1,_,_,_,hft⟩:=Yp.row ho.out hF.out (Below.refl w.heap.size w) htx;have HHP:=Xa (XS d1 m1 f1 (v:Int) (phL xs t) 0 w.heap.size w (Xa hft.p.2) (Xa hft.p.1) oM);have HPB:Hid (Yt xs t v=hasI (phL xs t) (v:Int)):=Xa (Zah xs t v);clear htg ht ect hft;have HNN:Hid (¬Lin xs v t->∀r,r<j+1->∀t,(Xx xs b)[r]?=some t->¬Lin xs v t):=Xa (fun h r hr z hz=>by
     by_cases e:r=j
     ·subst e
      rw[HGE.out]at hz;injection hz with hz;subst hz;exact h
     ·exact HNO.out r oM z hz)
    cases hlt':lv t with
    | false =>
     rw[hlt']at kl;have HNX:Hid (∀r,r<j+1->∀t,(Xx xs b)[r]?=some t->¬Lin xs v t):=Xa (HNN.out (fun h=>by rw[HLV.2 h.2]at hlt';cases hlt'));clear hlt'
     go_wp2_with fail
     exact⟨⟨j+1,oM,gM,Xa rfl,HNX⟩,by simp[intOf];omega⟩
    | true =>
     rw[hlt']at kl;have HLB:Hid (TR xs v t):=Xa (HLV.1 hlt');clear hlt'
     go_wp2_with fail
     refine HHP.mono ?_;rintro e w8 ⟨rfl,hw8⟩;have e8:=hw8.symm;subst e8;cases hph:hasI (phL xs t) (v:Int)with
     | true =>
      have HNX:Hid (∀r,r<j+1->∀t,(Xx xs b)[r]?=some t->¬Lin xs v t):=Xa (HNN.out (fun h=>by have:=h.1;rw[HPB.out,hph]at this;cases this));clear hph
      go_wp2_with fail
      refine⟨?_,by simp[intOf];omega⟩
      first
       | exact⟨j+1,oM,gM,Xa rfl,HNX⟩
       | ((repeat apply Exists.intro);refine⟨?_,rfl⟩;exact⟨j+1,oM,gM,Xa rfl,HNX⟩)
     | false =>
      have HLO:Hid (VP xs v b):=Xa (Or.inr ⟨t,HTG.out,by rw[HPB.out];exact hph,HLB.out⟩);clear hph
      go_wp2_with fail
      go_ret
      exact⟨true,rfl,⟨fun _=>HLO.out,fun _=>rfl⟩,Below.refl _ _⟩
   ·have HNX:Hid (¬VP xs v b):=Xa (by
     rintro(h | ⟨t,ht,h⟩)
     ·exact HNE.out h
     ·obtain⟨r,hr,e⟩:=List.getElem_of_mem ht
      exact HNO.out r (by have:=HT.1;omega) t (by rw[List.getElem?_eq_getElem hr,e]) h)
    go_wp2_with fail
    go_ret
    exact⟨false,rfl,⟨fun h=>(by cases h),fun h=>absurd h HNX.out⟩,Below.refl _ _⟩
section
structure DbS(w:World)(base:Nat)(G:Bool->Nat)(n:Nat)(P:Bool->Nat->List Int)(U:Bool->Nat->Value):Prop where
 g:G false<base/\G true<base/\G false≠G true
 row:∀s,w.rowIs (G s) 62 n (U s)
 own:∀s i,i<n->w.ownsRow base 2 1 (U s i) (P s i).length ((P s i).map (Value.int .i64))
 dj:∀s i s' j,i<n->j<n->(s,i)≠(s',j)->(U s i).ownBlock=none\/(U s i).ownBlock≠(U s' j).ownBlock
section
variable {w w' w1 : World} {base n : Nat} {G : Bool -> Nat} {P P' : Bool -> Nat -> List Int} {U : Bool -> Nat -> Value}
theorem DbS.lt(h:DbS w base G n P U)(s:Bool):G s<base:=by
 cases s
 ·exact h.g.1
 ·exact h.g.2.1
theorem DbS.below(h:DbS w base G n P U)(k:Below w.heap.size w w'):DbS w' base G n P U:=by
 refine⟨h.g,fun s=>(h.row s).of_block (k.block _ (h.row s).lt),fun s i hi=>?_,h.dj⟩;refine(h.own s i hi).kept (row:=none) ⟨k.os,k.tape,k.output,k.size,fun b hb _=>k.block b hb⟩ ?_;cases (U s i).ownBlock<;>simp
theorem DbS.congr(h:DbS w base G n P U)(e:∀s i,i<n->P s i=P' s i):DbS w base G n P' U :=
 ⟨h.g,h.row,fun s i hi=>by rw[<-e s i hi];exact h.own s i hi,h.dj⟩
theorem DbS.step(h:DbS w base G n P U){s:Bool}{t:Nat}(ht:t<n)(x:Int)(v':Value)(hg:w.grownBy w1 (U s t).ownBlock)
 (ho:w1.ownsRow base 2 1 v' ((P s t).length+1) ((P s t).map (Value.int .i64)++[.int .i64 x])) (hat:v'.ownBlock=(U s t).ownBlock\/v'.ownBlock=some w.heap.size) :
 DbS (w1.setCell ⟨G s,t,none⟩ v') base G n (fun s' i=>if (s',i)=(s,t)then P s t++[x]else P s' i) (fun s' i=>if (s',i)=(s,t)then v' else U s' i):=by
 have hr:∀s',w1.rowIs (G s') 62 n (U s'):=fun s'=>(h.row s').of_block (hg.block _ (h.row s').lt (fun e=>by have:=((h.own s t ht).lt _ e.symm).1;have:=h.lt s';omega))
 have fresh:∀s' m,m<n->(U s' m).ownBlock=none\/(U s' m).ownBlock≠some w.heap.size:=fun s' m hm=>by
  by_cases e:(U s' m).ownBlock=some w.heap.size
  ·have:=((h.own s' m hm).lt _ e).2;omega
  ·exact Or.inr e
 refine⟨h.g,fun s'=>?_,fun s' i hi=>?_,fun s1 i s2 j hi hj hij=>?_⟩
 ·by_cases e:s'=s
  ·subst e
   exact((hr s').set t v').congr (fun i _=>by by_cases e2:i=t<;>simp[e2])
  ·refine((hr s').setOther (a:=⟨G s,t,none⟩) (fun e2=>?_) v').congr (fun i _=>by simp[e])
   have e2:G s'=G s:=e2;cases s'<;>cases s<;>first | exact e rfl | exact h.g.2.2 e2 | exact h.g.2.2 e2.symm
 ·refine ownsRow_setCell_below ?_ (h.lt s) _
  by_cases e:(s',i)=(s,t)
  ·simp only[e,if_true,List.length_append,List.length_cons,List.length_nil,List.map_append,List.map_cons,List.map_nil]
   exact ho
  ·simp only[e,if_false]
   exact(h.own s' i hi).kept hg (h.dj s' i s t hi ht e)
 ·by_cases e1:(s1,i)=(s,t)
  ·have e2:¬(s2,j)=(s,t):=fun e=>hij (e1.trans e.symm)
   simp only[e1,if_true,e2,if_false];rcases hat with q | q
   ·rw[q]
    exact h.dj s t s2 j ht hj (fun e=>e2 e.symm)
   ·right
    rw[q];intro hh;rcases fresh s2 j hj with f | f
    ·rw[f]at hh;cases hh
    ·exact f hh.symm
  ·simp only[e1,if_false]
   by_cases e2:(s2,j)=(s,t)
   ·simp only[e2,if_true]
    rcases hat with q | q
    ·rw[q];exact h.dj s1 i s t hi ht e1
    ·rw[q];exact fresh s1 i hi
   ·simp only[e2,if_false]
    exact h.dj s1 i s2 j hi hj hij
theorem DbS.other(h:DbS w base G n P U){b T m:Nat}{f:Nat->Value}(hb:w.rowIs b T m f)(hT:T≠2){s:Bool}{i:Nat}(hi:i<n):(U s i).ownBlock≠some b:=fun e=>by
 obtain⟨c,h1,_⟩:=hb;rcases(h.own s i hi).2 with⟨e1,_⟩ | ⟨g,cap,cur,e1,_,h2,_⟩
 ·rw[e1]at e;cases e
 ·rw[e1]at e
  injection e with e;have e:g=b:=e;subst e;rw[show w.heap[g]?=_ from h1]at h2;injection h2 with h2;injection h2 with _ h3;exact hT h3
theorem DbS.ints(h:DbS w base G n P U)(s:Bool){L:Nat}(hL:L<=G s):XF w L w.heap.size (some ⟨G s,0,none⟩) ((List.range n).map (P s)):=fun i hi=>by
 simp only[List.length_map,List.length_range]at hi;obtain⟨a,c,hv,ha⟩:=Xj (h.own s i hi);refine⟨G s,0,rfl,⟨hL,(h.row s).lt⟩,a,c,?_,?_⟩
 ·simp only[List.getElem_map,List.getElem_range,Nat.zero_add]
  rw[(h.row s).cell hi,hv]
 ·simp only[List.getElem_map,List.getElem_range]
  exact ha.mono (by have:=h.lt s;omega) (Nat.le_refl _)
end
end
section
structure MbS(w:World)(base ns:Nat)(G m:Nat->Nat)(P:Nat->Nat->List Int)(U:Nat->Nat->Value):Prop where
 lt:∀s,s<ns->G s<base
 ne:∀s s',s<ns->s' < ns->s≠s'->G s≠G s'
 row:∀s,s<ns->w.rowIs (G s) 62 (m s) (U s)
 own:∀s i,s<ns->i<m s->w.ownsRow base 2 1 (U s i) (P s i).length ((P s i).map (Value.int .i64))
 dj:∀s i s' j,s<ns->s' < ns->i<m s->j<m s'->(s,i)≠(s',j)->(U s i).ownBlock=none\/(U s i).ownBlock≠(U s' j).ownBlock
section
variable {w w' w1 : World} {base ns : Nat} {G m : Nat -> Nat} {P P' : Nat -> Nat -> List Int} {U : Nat -> Nat -> Value}
theorem MbS.below(h:MbS w base ns G m P U)(k:Below w.heap.size w w'):MbS w' base ns G m P U:=by
 refine⟨h.lt,h.ne,fun s hs=>(h.row s hs).of_block (k.block _ (h.row s hs).lt),fun s i hs hi=>?_,h.dj⟩;refine(h.own s i hs hi).kept (row:=none) ⟨k.os,k.tape,k.output,k.size,fun b hb _=>k.block b hb⟩ ?_;cases (U s i).ownBlock<;>simp
theorem MbS.congr(h:MbS w base ns G m P U)(e:∀s i,s<ns->i<m s->P s i=P' s i):MbS w base ns G m P' U :=
 ⟨h.lt,h.ne,h.row,fun s i hs hi=>by rw[<-e s i hs hi];exact h.own s i hs hi,h.dj⟩
theorem MbS.step(h:MbS w base ns G m P U){s t:Nat}(hs:s<ns)(ht:t<m s)(x:Int)(v':Value)(hg:w.grownBy w1 (U s t).ownBlock)
 (ho:w1.ownsRow base 2 1 v' ((P s t).length+1) ((P s t).map (Value.int .i64)++[.int .i64 x])) (hat:v'.ownBlock=(U s t).ownBlock\/v'.ownBlock=some w.heap.size) :
 MbS (w1.setCell ⟨G s,t,none⟩ v') base ns G m (fun s' i=>if (s',i)=(s,t)then P s t++[x]else P s' i) (fun s' i=>if (s',i)=(s,t)then v' else U s' i):=by
 have hr:∀s',s' < ns->w1.rowIs (G s') 62 (m s') (U s'):=fun s' hs'=>(h.row s' hs').of_block (hg.block _ (h.row s' hs').lt (fun e=>by have:=((h.own s t hs ht).lt _ e.symm).1;have:=h.lt s' hs';omega))
 have fresh:∀s' q,s' < ns->q<m s'->(U s' q).ownBlock=none\/(U s' q).ownBlock≠some w.heap.size:=fun s' q hs' hq=>by
  by_cases e:(U s' q).ownBlock=some w.heap.size
  ·have:=((h.own s' q hs' hq).lt _ e).2;omega
  ·exact Or.inr e
 refine⟨h.lt,h.ne,fun s' hs'=>?_,fun s' i hs' hi=>?_,fun s1 i s2 j h1 h2 hi hj hij=>?_⟩
 ·by_cases e:s'=s
  ·subst e
   exact((hr s' hs').set t v').congr (fun i _=>by by_cases e2:i=t<;>simp[e2])
  ·exact((hr s' hs').setOther (a:=⟨G s,t,none⟩) (fun e2=>h.ne s' s hs' hs e e2) v').congr (fun i _=>by simp[e])
 ·refine ownsRow_setCell_below ?_ (h.lt s hs) _
  by_cases e:(s',i)=(s,t)
  ·simp only[e,if_true,List.length_append,List.length_cons,List.length_nil,List.map_append,List.map_cons,List.map_nil]
   exact ho
  ·simp only[e,if_false]
   exact(h.own s' i hs' hi).kept hg (h.dj s' i s t hs' hs hi ht e)
 ·by_cases e1:(s1,i)=(s,t)
  ·have e2:¬(s2,j)=(s,t):=fun e=>hij (e1.trans e.symm)
   simp only[e1,if_true,e2,if_false];rcases hat with q | q
   ·rw[q]
    exact h.dj s t s2 j hs h2 ht hj (fun e=>e2 e.symm)
   ·right
    rw[q];intro hh;rcases fresh s2 j h2 hj with f | f
    ·rw[f]at hh;cases hh
    ·exact f hh.symm
  ·simp only[e1,if_false]
   by_cases e2:(s2,j)=(s,t)
   ·simp only[e2,if_true]
    rcases hat with q | q
    ·rw[q];exact h.dj s1 i s t h1 hs hi ht e1
    ·rw[q];exact fresh s1 i h1 hi
   ·simp only[e2,if_false]
    exact h.dj s1 i s2 j h1 h2 hi hj hij
theorem MbS.other(h:MbS w base ns G m P U){b T q:Nat}{f:Nat->Value}(hb:w.rowIs b T q f)(hT:T≠2){s i:Nat}(hs:s<ns)(hi:i<m s):(U s i).ownBlock≠some b:=fun e=>by
 obtain⟨c,h1,_⟩:=hb;rcases(h.own s i hs hi).2 with⟨e1,_⟩ | ⟨g,cap,cur,e1,_,h2,_⟩
 ·rw[e1]at e;cases e
 ·rw[e1]at e
  injection e with e;have e:g=b:=e;subst e;rw[show w.heap[g]?=_ from h1]at h2;injection h2 with h2;injection h2 with _ h3;exact hT h3
theorem MbS.ints(h:MbS w base ns G m P U){s:Nat}(hs:s<ns){L:Nat}(hL:L<=G s):XF w L w.heap.size (some ⟨G s,0,none⟩) ((List.range (m s)).map (P s)):=fun i hi=>by
 simp only[List.length_map,List.length_range]at hi;obtain⟨a,c,hv,ha⟩:=Xj (h.own s i hs hi);refine⟨G s,0,rfl,⟨hL,(h.row s hs).lt⟩,a,c,?_,?_⟩
 ·simp only[List.getElem_map,List.getElem_range,Nat.zero_add]
  rw[(h.row s hs).cell hi,hv]
 ·simp only[List.getElem_map,List.getElem_range]
  exact ha.mono (by have:=h.lt s hs;omega) (Nat.le_refl _)
end
structure VG(w3 wr:World)(ns:Nat)(G m:Nat->Nat)(P:Nat->Nat->List Int):Prop where
 os:wr.os=w3.os
 tape:wr.tape=w3.tape
 output:wr.output=w3.output
 size:w3.heap.size<=wr.heap.size
 fr:∀q,q<w3.heap.size->(∀s,s<ns->q≠G s)->wr.heap[q]?=w3.heap[q]?
 db:∃U,MbS wr w3.heap.size ns G m P U
section
variable {w3 wr wr' w8 : World} {ns : Nat} {G m : Nat -> Nat} {P P' : Nat -> Nat -> List Int}
theorem VG.below(h:VG w3 wr ns G m P)(k:Below wr.heap.size wr wr'):VG w3 wr' ns G m P:=by
 obtain⟨U,hU⟩:=h.db;have:=h.size;exact⟨k.os.trans h.os,k.tape.trans h.tape,k.output.trans h.output,Nat.le_trans h.size k.size,fun q h1 h2=>(k.block q oM).trans (h.fr q h1 h2),U,hU.below k⟩
theorem VG.congr(h:VG w3 wr ns G m P)(e:∀s i,s<ns->i<m s->P s i=P' s i):VG w3 wr ns G m P':=by
 obtain⟨U,hU⟩:=h.db;exact⟨h.os,h.tape,h.output,h.size,h.fr,U,hU.congr e⟩
theorem VG.cell(h:VG w3 wr ns G m P){b o:Nat}{v:Value}(h1:∀s,s<ns->b≠G s)(hc:w3.cell? ⟨b,o,none⟩=some v):wr.cell? ⟨b,o,none⟩=some v:=(Xc (h.fr b (World.block_lt_of_cell? w3 _ hc) h1)).trans hc
theorem VG.push{U:Nat->Nat->Value}{s t:Nat}{ob:Obj}{x:Int}{v':Value}(h:VG w3 wr ns G m P)(hU:MbS wr w3.heap.size ns G m P U)(hs:s<ns)(ht:t<m s)(hg:(wr.drew.alloc ob).grownBy w8 (U s t).ownBlock)(ho:w8.ownsRow w3.heap.size 2 1 v' ((P s t).length+1) ((P s t).map (Value.int .i64)++[.int .i64 x]))(hat:v'.ownBlock=(U s t).ownBlock\/v'.ownBlock=some (wr.heap.size+1)) :
 VG w3 (w8.setCell ⟨G s,t,none⟩ v') ns G m (fun s' i=>if (s',i)=(s,t)then P s t++[x]else P s' i)/\w8.cell? ⟨G s,t,none⟩=some (U s t)/\w8.frozen? ⟨G s,t,none⟩=false/\(∀q,q<wr.heap.size->q≠G s->(U s t).ownBlock≠some q->w8.heap[q]?=wr.heap[q]?/\(w8.setCell ⟨G s,t,none⟩ v').heap[q]?=wr.heap[q]?)/\wr.heap.size<=(w8.setCell ⟨G s,t,none⟩ v').heap.size:=by
 have hsz:=h.size;have hgs:=hg.size;have has:(wr.drew.alloc ob).heap.size=wr.heap.size+1:=World.size_alloc _ _;have hal:∀k,k<wr.heap.size->(wr.drew.alloc ob).heap[k]?=wr.heap[k]?:=fun k hk=>Below.heap_alloc wr.drew _ _ hk
 have hU':MbS (wr.drew.alloc ob) w3.heap.size ns G m P U:=hU.below ⟨rfl,rfl,rfl,oM,hal⟩;have hst:=hU'.step hs ht x v' hg ho (by rw[has];exact hat);have hnu:∀k,k<w3.heap.size->(U s t).ownBlock≠some k:=fun k hk e=>by have:=((hU.own s t hs ht).lt k e).1;omega
 have hbk:∀k,k<wr.heap.size->(U s t).ownBlock≠some k->w8.heap[k]?=wr.heap[k]?:=fun k h1 h3=>(hg.block k oM (fun e=>h3 e.symm)).trans (hal k h1)
 have hG:=hU.lt s hs;have hGb:=hbk (G s) oM (hnu _ hG);refine⟨⟨hg.os.trans h.os,hg.tape.trans h.tape,hg.output.trans h.output,by rw[Xd];omega,fun q h1 h2=>?_,_,hst⟩,(Xc hGb).trans ((hU.row s hs).cell ht),(World.frozen?_of_block hGb).trans ((hU.row s hs).frozen t),fun q h1 h2 h3=>⟨hbk q h1 h3,(Below.heap_setCell _ _ _ _ h2).trans (hbk q h1 h3)⟩,by rw[Xd];omega⟩;exact(Below.heap_setCell _ _ _ _ (h2 s hs)).trans ((hbk q oM (hnu q h1)).trans (h.fr q h1 h2))
end
end
noncomputable def VA(xs:List Xi)(v b i:Nat):List Int:=match xs[b]? with
 | none=>[]
 | some x=>Xh (ptP xs x v b i)
open Classical in
noncomputable def Vx(xs:List Xi)(b i v:Nat):Bool:=match xs[b]? with
 | none=>false
 | some x=>PsP xs x b i v (decide (VP xs v b))
theorem ZeU(xs:List Xi)(b i:Nat):VA xs 0 b i=[]:=by
 unfold VA;cases xs[b]?<;>rfl
theorem ZaL(xs:List Xi)(v b i:Nat):VA xs (v+1) b i=if Vx xs b i v=true then VA xs v b i++[(v:Int)]else VA xs v b i:=by
 unfold VA Vx;cases xs[b]? with
 | none=>simp
 | some x =>
  simp only;unfold ptP;rw[List.range_succ,List.filter_append];by_cases h:PsP xs x b i v (@decide (VP xs v b) (Classical.propDecidable _))=true
  ·rw[if_pos h]
   simp[h,Xh]
  ·rw[if_neg h]
   simp[h]
theorem ZcQ(xs:List Xi)(v b i:Nat):(VA xs v b i).length<=v:=by
 unfold VA;cases xs[b]? with
 | none=>exact Nat.zero_le _
 | some x =>
  simp only[Xh,List.length_map];unfold ptP;exact Nat.le_trans (List.length_filter_le _ _) sP
noncomputable def pQ(xs:List Xi)(v b i:Nat)(s j:Nat):List Int:=if s<b\/s=b/\j<i then VA xs (v+1) s j else VA xs v s j
theorem ZgW(xs:List Xi)(v:Nat)(s j:Nat):pQ xs v 0 0 s j=VA xs v s j:=by
 unfold pQ;rw[if_neg oM]
theorem ZhV(xs:List Xi)(v n:Nat){s:Nat}(j:Nat)(hs:s<n):pQ xs v n 0 s j=VA xs (v+1) s j:=by
 unfold pQ;rw[if_pos (Or.inl hs)]
theorem ZgO{xs:List Xi}{v b m:Nat}{s j:Nat}(hj:s=b->j<m):pQ xs v b m s j=pQ xs v (b+1) 0 s j:=by
 unfold pQ;by_cases h:s<b+1
 ·rw[if_pos (by by_cases e:s=b;(· exact Or.inr ⟨e,hj e⟩);(· exact Or.inl oM)),if_pos (Or.inl h)]
 ·rw[if_neg oM,if_neg oM]
theorem ZiD{xs:List Xi}{v b i:Nat}(h:Vx xs b i v=false)(s j:Nat):pQ xs v b i s j=pQ xs v b (i+1) s j:=by
 unfold pQ;by_cases e:s=b/\j=i
 ·obtain⟨rfl,rfl⟩:=e
  rw[if_neg oM,if_pos oM,ZaL,h];simp
 ·by_cases h1:s<b\/s=b/\j<i
  ·rw[if_pos h1,if_pos oM]
  ·rw[if_neg h1,if_neg oM]
theorem Zil{xs:List Xi}{v b i:Nat}(h:Vx xs b i v=true)(s j:Nat):(if (s,j)=(b,i)then pQ xs v b i b i++[(v:Int)]else pQ xs v b i s j)=pQ xs v b (i+1) s j:=by
 by_cases e:(s,j)=(b,i)
 ·rw[if_pos e]
  injection e with e1 e2;subst e1 e2;unfold pQ;rw[if_neg oM,if_pos oM,ZaL,if_pos h]
 ·rw[if_neg e]
  have e':¬(s=b/\j=i):=fun h=>e (by rw[h.1,h.2])
  unfold pQ;by_cases h1:s<b\/s=b/\j<i
  ·rw[if_pos h1,if_pos oM]
  ·rw[if_neg h1,if_neg oM]
theorem Zii(xs:List Xi)(v b i s j:Nat):(pQ xs v b i s j).length<=v+1:=by
 unfold pQ;split
 ·exact ZcQ _ _ _ _
 ·have:=ZcQ xs v s j;omega
structure RwS(w2 wr:World)(u:Value)(b:Nat)(m:Nat->Nat)(G:Nat->Nat):Prop where
 low:Below w2.heap.size w2 wr
 own:wr.ownsRow w2.heap.size 59 1 u b ((List.range b).map fun s=>.slice (some ⟨G s,0,none⟩) (m s) (m s))
 row:∀s,s<b->w2.heap.size<=G s/\wr.rowIs (G s) 62 (m s) (fun _=>.slice none 0 0)
 ne:∀s s',s<b->s' < b->s≠s'->G s≠G s'
theorem RwS.start(w2:World)(m:Nat->Nat):RwS w2 (w2.alloc (.cells #[] 59)) (.slice (some ⟨w2.heap.size,0,none⟩) 0 0) 0 m (fun _=>0):=⟨Xb (Below.refl _ _) _,World.ownsRow_lit (base:=w2.heap.size) (e:=59) (size:=1) w2 #[] 0 sP sP rfl,fun s h=>absurd h oM,fun s s' h=>absurd h oM⟩
theorem RwS.push{w2 wr w8:World}{u u':Value}{b:Nat}{m:Nat->Nat}{G:Nat->Nat}{ob:Obj}(h:RwS w2 wr u b m G)(hg:((wr.alloc (.cells (madeCells #[.slice none 0 0] (m b)) 62)).alloc ob).grownBy w8 u.ownBlock)(ho:w8.ownsRow w2.heap.size 59 1 u' (b+1) ((List.range b).map (fun s=>Value.slice (some ⟨G s,0,none⟩) (m s) (m s))++[.slice (some ⟨wr.heap.size,0,none⟩) (m b) (m b)])) :
 RwS w2 w8 u' (b+1) m (fun s=>if s=b then wr.heap.size else G s):=by
 have hz:=h.low.size;have hgs:=hg.size;rw[World.size_alloc,World.size_alloc]at hgs;have hnu:∀q T k f,wr.rowIs q T k f->T≠59->u.ownBlock≠some q:=fun q T k f hr hT e=>by
  obtain⟨c,h1,_⟩:=hr;rcases h.own.2 with⟨e1,_⟩ | ⟨g,cap,cur,e1,_,h2,_⟩
  ·rw[e1]at e;cases e
  ·rw[e1]at e
   injection e with e;have e:g=q:=e;subst e;rw[show wr.heap[g]?=_ from h1]at h2;injection h2 with h2;injection h2 with _ h3;exact hT h3
 have hul:∀q,u.ownBlock=some q->q<wr.heap.size:=fun q e=>(h.own.lt q e).2
 have hold:∀q,q<wr.heap.size->u.ownBlock≠some q->w8.heap[q]?=wr.heap[q]?:=fun q h1 h2=>(hg.block q (by rw[World.size_alloc,World.size_alloc];omega) (fun e=>h2 e.symm)).trans ((Below.heap_alloc _ _ _ (by rw[World.size_alloc];omega)).trans (Below.heap_alloc _ _ _ h1))
 have hnew:w8.heap[wr.heap.size]?=(wr.alloc (.cells (madeCells #[.slice none 0 0] (m b)) 62)).heap[wr.heap.size]?:=(hg.block _ (by rw[World.size_alloc,World.size_alloc];omega) (fun e=>by have:=hul _ e.symm;omega)).trans (Below.heap_alloc _ _ _ (by rw[World.size_alloc];omega));refine⟨⟨hg.os.trans h.low.os,hg.tape.trans h.low.tape,hg.output.trans h.low.output,oM,fun q hq=>(hold q oM (fun e=>by have:=(h.own.lt q e).1;omega)).trans (h.low.block q hq)⟩,?_,fun s hs=>?_,fun s s' h1 h2 h3=>?_⟩
 ·rw[List.range_succ,List.map_append,List.map_cons,List.map_nil,if_pos rfl,List.map_congr_left (g:=fun s=>Value.slice (some ⟨G s,0,none⟩) (m s) (m s)) (fun s hs=>by rw[if_neg (by have:=List.mem_range.1 hs;omega)])]
  exact ho
 ·by_cases e:s=b
  ·subst e
   rw[if_pos rfl];exact⟨hz,(World.rowIs_made wr (.slice none 0 0) (m s) 62).of_block hnew⟩
  ·rw[if_neg e]
   have hr:=h.row s oM;exact⟨hr.1,hr.2.of_block (hold _ hr.2.lt (hnu _ _ _ _ hr.2 vZ))⟩
 ·have hlt:∀s,s<b->G s<wr.heap.size:=fun s hs=>(h.row s hs).2.lt
  by_cases e1:s=b
  ·have:=hlt s' oM
   rw[if_pos e1,if_neg oM];omega
  ·by_cases e2:s'=b
   ·have:=hlt s oM
    rw[if_neg e1,if_pos e2];omega
   ·rw[if_neg e1,if_neg e2]
    exact h.ne s s' oM oM h3
section
open Classical in
noncomputable def nwB(xs:List Xi)(b v k:Nat):Bool:=match xs[b]? with
 | none=>false
 | some x=>JG x v (decide (VP xs v b)) k
section
variable {xs : List Xi} {b v : Nat}
theorem Zgc:Vx xs b 0 v=(nwB xs b v 0||Yt xs b v):=by
 unfold Vx nwB Yt;cases h:xs[b]? with
 | none=>rfl
 | some x=>simp only[PsP,Yt,h]
theorem Zfp{j:Nat}(hj:j<(KJ xs b).length):Vx xs b (j+1) v=(nwB xs b v (j+1)||decide ((KJ xs b)[j]=(v:Int))):=by
 have hj':=hj;revert hj;unfold Vx nwB KJ at *;cases h:xs[b]? with
 | none=>intro hj;exact absurd hj sP
 | some x =>
  intro hj;simp only[YN,List.length_map]at hj;simp only[PsP,YN,List.getElem_map];rw[List.getElem?_eq_getElem hj]
open Classical in
theorem ZgP(hb:b<xs.length){q:Bool}(hq:q=true↔VP xs v b):nwB xs b v (KJ xs b).length=(q||hasI (rtL xs b) (v:Int)):=by
 have e:(@decide (VP xs v b) (Classical.propDecidable _))=q:=by rw[Bool.eq_iff_iff,hq,decide_eq_true_eq]
 unfold nwB KJ rtL;rw[List.getElem?_eq_getElem hb];simp only[YN,List.length_map];rw[Zdc _ _ _ (Nat.le_refl _),e,Bool.or_comm]
theorem Zf7{j:Nat}(hj:j<(KJ xs b).length)(hr:j<(rdL xs b).length):nwB xs b v j=(hasI (rdL xs b)[j] (v:Int)||(nwB xs b v (j+1) && !decide ((KJ xs b)[j]=(v:Int)))):=by
 revert hj hr;unfold nwB KJ rdL;cases h:xs[b]? with
 | none=>intro hj;exact absurd hj sP
 | some x =>
  intro hj hr;simp only[YN,List.length_map]at hj;simp only[YN,Zz,List.getElem_map];exact Zb1 _ _ _ hj
open Classical in
theorem Zhd(hb:b<xs.length):nwB xs b v 0=true↔TR xs v b:=by
 unfold nwB;rw[List.getElem?_eq_getElem hb];exact Zgn hb (by rw[decide_eq_true_eq])
theorem Ziy:(rdL xs b).length=(KJ xs b).length:=by
 unfold rdL KJ;cases xs[b]? with
 | none=>rfl
 | some x=>simp[Zz,YN]
end
theorem Zfi(xs:List Xi)(b:Nat):∀l∈rdL xs b,l.length<=2:=fun l hl=>by
 unfold rdL at hl;cases h:xs[b]? with
 | none=>rw[h]at hl;exact absurd hl List.not_mem_nil
 | some x =>
  rw[h]at hl;obtain⟨y,_,hy⟩:=List.mem_map.1 hl;rw[<-hy];exact Zat y
structure InX(wb wr:World)(gl n:Nat)(lv:Nat->Bool)(gi m:Nat)(f:Nat->Bool):Prop where
 low:Below wb.heap.size wb wr
 gll:gl<wb.heap.size
 lr:wr.rowIs gl 4 n (fun z=>.bool (lv z))
 ge:wb.heap.size<=gi
 ir:wr.rowIs gi 4 m (fun z=>.bool (f z))
section
variable {wb wr w' : World} {gl n gi m : Nat} {lv f f' : Nat -> Bool}
theorem InX.below(h:InX wb wr gl n lv gi m f)(k:Below wr.heap.size wr w'):InX wb w' gl n lv gi m f:=⟨Xe h.low k,h.gll,h.lr.of_block (k.block _ h.lr.lt),h.ge,h.ir.of_block (k.block _ h.ir.lt)⟩
theorem InX.congr(h:InX wb wr gl n lv gi m f)(e:∀z,z<m->f z=f' z):InX wb wr gl n lv gi m f':=⟨h.low,h.gll,h.lr,h.ge,KR (C:=Value.bool) h.ir e⟩
theorem InX.set(h:InX wb wr gl n lv gi m f)(k:Nat)(q:Bool):InX wb (wr.setCell ⟨gi,k,none⟩ (.bool q)) gl n lv gi m (fun z=>if z=k then q else f z):=by
 have:=h.ge;have:=h.gll;exact⟨h.low.setCell (by show wb.heap.size<=gi;omega) _,h.gll,h.lr.setOther (by show gl≠gi;omega) _,h.ge,Kl (C:=Value.bool) h.ir k q⟩
end
noncomputable def inF(xs:List Xi)(b v k z:Nat):Bool:=decide (k<z)&&Vx xs b z v
theorem ZgZ{xs:List Xi}{b v k:Nat}{z:Nat}(hz:z<k+1):inF xs b v k z=false:=by unfold inF;simp;omega
theorem ZeN{xs:List Xi}{b v j:Nat}{q:Bool}(hq:q=Vx xs b (j+1) v)(z:Nat):(if z=j+1 then q else inF xs b v (j+1) z)=inF xs b v j z:=by
 unfold inF;by_cases e:z=j+1
 ·subst e
  rw[if_pos rfl,hq];simp
 ·rw[if_neg e]
  by_cases h:j<z
  ·rw[decide_eq_true h,decide_eq_true (show j+1<z by omega)]
  ·rw[decide_eq_false h,decide_eq_false (show ¬j+1<z by omega)]
theorem ZgU{xs:List Xi}{b v:Nat}{q:Bool}(hq:q=Vx xs b 0 v)(z:Nat):(if z=0 then q else inF xs b v 0 z)=Vx xs b z v:=by
 by_cases e:z=0
 ·subst e;rw[if_pos rfl,hq]
 ·rw[if_neg e]
  unfold inF;rw[decide_eq_true (show 0<z by omega),Bool.true_and]
def Zjq(w w':World)(n V:Nat)(xs:List Xi)(e:Ending):Prop:=∃(gO cO:Nat)(G:Nat->Nat),e=.returned (.slice (some ⟨gO,0,none⟩) n cO)/\Below w.heap.size w w'/\w.heap.size<=gO/\∀s,s<n->w'.cell? ⟨gO,s,none⟩=some (.slice (some ⟨G s,0,none⟩) ((KJ xs s).length+1) ((KJ xs s).length+1))/\w.heap.size<=G s/\XF w' w.heap.size w'.heap.size (some ⟨G s,0,none⟩) ((List.range ((KJ xs s).length+1)).map (VA xs V s))
end
def Yd(k:Nat):Code->Option Code
 | .region i ops d=>if i=k then some (.region i ops d)else none
 | .seq x y=>match Yd k x with
  | some c=>some c
  | none=>Yd k y
 | .block _ c=>Yd k c
 | .scope c=>Yd k c
 | .loop c=>Yd k c
 | .cond _ x y=>match Yd k x with
  | some c=>some c
  | none=>Yd k y
 | _=>none
noncomputable def ZiB:Code:=(Tryz.f21.body.bind (Yd 27)).getD .skip
theorem ZiJ(V v n cO gO b k n4 gl gi:Nat)(xs:List Xi)(lv:Nat->Bool)(G m:Nat->Nat)(w3 wr:World)(Q:Exit->Act->World->Prop)(c0 c1 c2 c3 c5 c7 c9 c10 c11 c12 c14 c15 c16 c17 c18 c19 c20 c21 c22 c23 c24 c25 c26 c27 c28 c29 c30 c31 c32 c33 c34 c35 c36 c37 c38 c39 c40 c41 c42 c43 c44 c45 c46 c47 c48 c49 c50 c51 c52 c53 c54 c55 c56 c57 c58 c59 c60 c61 c62 c63 c64 c65 c66 c67 c68 c69 c70 c71 c72 c73 c74 c75 c76 c77 c78 c79 c80 c81 c82 c83 c84 c85 c86 c87 c88 c89 c90 c91 c92 c93 c94 c95 c96 c97 c98 c99 c100 c101 c102 c103 c104 c105 c106 c107 c108 c109 c110 c111 c112 c113 c114 c115 c116 c117 c118 c119 c120 c121 c122 c123 c124 c125 c126 c127 c128 c129 c130 c131 c132 c133 c134 c135 c136 c137 c138 c139 c140 c141 c142 c143 c144 c145 c146 c147 c148 c149 c150 c151 c152 c153 c154 c155 c156 c157 c158 c159 c160 c161 c162 c163 c164 c165 c166 c167 c168 c169 c170 c171 c172 c173 c174 c175 c176 c177:Value)
 (hQ:Hid (∀c (a:Act) t v w,Q (.panic c) (a.put (some t) v) w->Q (.panic c) a w)) (hv:v<V) (hV:V<=2000) (hlt:b<n) (hkl:k<n4+1) (HMb:Hid (m b=n4+1)) (HLk:Hid (VG w3 wr n G m (pQ xs v b k))) (HGk:Hid (wr.rowIs gl 4 n (fun z=>.bool (lv z)))) (HIk:Hid (wr.rowIs gi 4 (n4+1) (fun z=>.bool (Vx xs b z v)))) (HPS:Hid (Vx xs b k v=true))
 (HO3:Hid (w3.cell? ⟨gO,b,none⟩=some (.slice (some ⟨G b,0,none⟩) (m b) (m b)))) (HON:Hid (∀s,s<n->gO≠G s)) (HOl:gO<w3.heap.size) (HGll:Hid (w3.heap.size<=gl)) (HGil:Hid (w3.heap.size<=gi))
 (hN:Hid (∀(d157 d158 d159 d160 d161 d162 d163 d164 d165 d166 d167 d168 d169 d170 d171 d172 d173 d174 d175 d176:Value)(w9:World),Hid (VG w3 w9 n G m (pQ xs v b (k+1)))->Hid (w9.rowIs gl 4 n (fun z=>.bool (lv z)))->Hid (w9.rowIs gi 4 (n4+1) (fun z=>.bool (Vx xs b z v)))->Q .normal ⟨#[c0,c1,c2,c3,.slice (some ⟨gO,0,none⟩) n cO,c5,.int .i64 (v:Int),c7,.int .i64 (b:Int),c9,c10,c11,c12,.int .i64 (k:Int),c14,c15,c16,c17,c18,c19,c20,c21,c22,c23,c24,c25,c26,c27,c28,c29,c30,c31,c32,c33,c34,c35,c36,c37,c38,c39,c40,c41,c42,c43,c44,c45,c46,c47,c48,c49,c50,c51,c52,c53,c54,c55,c56,c57,c58,c59,c60,c61,c62,c63,c64,c65,c66,c67,c68,c69,c70,c71,c72,c73,c74,c75,c76,c77,c78,c79,c80,c81,c82,c83,c84,c85,c86,c87,c88,c89,c90,c91,c92,c93,c94,c95,c96,c97,c98,c99,c100,c101,c102,c103,c104,c105,c106,c107,c108,c109,c110,c111,c112,c113,c114,c115,c116,c117,c118,c119,c120,c121,c122,c123,c124,c125,c126,c127,c128,c129,c130,c131,c132,c133,c134,c135,c136,c137,c138,c139,c140,c141,c142,c143,c144,c145,c146,c147,c148,c149,c150,c151,c152,c153,c154,c155,c156,d157,d158,d159,d160,d161,d162,d163,d164,d165,d166,d167,d168,d169,d170,d171,d172,d173,d174,d175,d176,c177],[]⟩ w9)) :
 Code.wp Tryz.prog ZiB Q ⟨#[c0,c1,c2,c3,.slice (some ⟨gO,0,none⟩) n cO,c5,.int .i64 (v:Int),c7,.int .i64 (b:Int),c9,c10,c11,c12,.int .i64 (k:Int),c14,c15,c16,c17,c18,c19,c20,c21,c22,c23,c24,c25,c26,c27,c28,c29,c30,c31,c32,c33,c34,c35,c36,c37,c38,c39,c40,c41,c42,c43,c44,c45,c46,c47,c48,c49,c50,c51,c52,c53,c54,c55,c56,c57,c58,c59,c60,c61,c62,c63,c64,c65,c66,c67,c68,c69,c70,c71,c72,c73,c74,c75,c76,c77,c78,c79,c80,c81,c82,c83,c84,c85,c86,c87,c88,c89,c90,c91,c92,c93,c94,c95,c96,c97,c98,c99,c100,c101,c102,c103,c104,c105,c106,c107,c108,c109,c110,c111,c112,c113,c114,c115,c116,c117,c118,c119,c120,c121,c122,c123,c124,c125,c126,c127,c128,c129,c130,c131,c132,c133,c134,c135,c136,c137,c138,c139,c140,c141,c142,c143,c144,c145,c146,c147,c148,c149,c150,c151,c152,c153,c154,c155,c156,c157,c158,c159,c160,c161,c162,c163,c164,c165,c166,c167,c168,c169,c170,c171,c172,c173,c174,c175,c176,c177],[]⟩ wr:=by
 conv=>arg 2;whnf
 have hkl1:(k:Int)<=(n4:Int):=oM;have hkl2:(k:Int)<(n4:Int)+1:=oM;have hbn:(b:Int)<(n:Int):=oM;have hkm:k<m b:=by rw[HMb.out];exact hkl
 obtain⟨U,hU⟩:=HLk.db;obtain⟨ua,uc,hux,_⟩:=Xj (hU.own b k hlt hkm);have HU:=Xa hU;have HUX:=Xa hux;obtain⟨ul,hul⟩:∃q,q=(pQ xs v b k b k).length:=⟨_,rfl⟩;have hul2:ul<=2001:=by have:=Zii xs v b k b k;omega
 have HUL:=Xa hul;have HOX:Hid (wr.ownsRow w3.heap.size 2 1 (.slice ua ul uc) ul ((pQ xs v b k b k).map (Value.int .i64))):=Xa (by have h:=hU.own b k hlt hkm;rw[hux,<-hul]at h;exact h);have eG:wr.cell? ⟨G b,k,none⟩=some (.slice ua ul uc):=by rw[(hU.row b hlt).cell hkm,hux,hul]
 have eO:=HLk.cell (fun s hs=>HON.out s hs) HO3.out;rw[HMb.out]at eO;have hzk:=HLk.size;have hGb:G b<w3.heap.size:=hU.lt b hlt;have hGr:G b<wr.heap.size:=oM;have hgOb:gO≠G b:=HON.out b hlt;have hgOl:gO<wr.heap.size:=World.block_lt_of_cell? wr _ eO;have HNL:Hid ((U b k).ownBlock≠some gl):=Xa (HU.other HGk.out vZ hlt hkm);have HNI:Hid ((U b k).ownBlock≠some gi):=Xa (HU.other HIk.out vZ hlt hkm);have HNO:Hid ((U b k).ownBlock≠some gO):=Xa (fun e=>by have:=((HU.own b k hlt hkm).lt _ e).1;omega);obtain⟨m0,hm0,hm1,hm2,hm3⟩:=X7 Tryz.info2';clear hU hux hul;refine ZB (fun w'=>w'.cell? ⟨gO,b,none⟩=some (.slice (some ⟨G b,0,none⟩) (n4+1) (n4+1))) (fun hHeld=>?_);refine Yg 0 ?_;refine Yg 1 ?_;refine Yg 2 ?_;refine Yg 3 ?_;refine Yg 4 ?_;refine Yg 5 ?_;refine Yg 6 ?_;refine Yg 7 ?_;refine Yg 8 ?_;refine Yg 9 ?_;refine Yg 10 ?_;refine Yg 11 ?_;refine Yg 12 ?_;refine Yg 13 ?_;refine Yg 15 ?_;refine wpAnyH_ready (rs:=[14,16]) kR sP ?_;refine(AllReadyH.cons rfl (fun K hK=>?_) (AllReadyH.cons rfl (fun K hK=>?_) AllReadyH.nil));go_simp;refine hK _ _ kP (fun hHeld=>?_);clear hK
 try simp only[Act.put,xA,xB,xC,xD,xE,xF]
 refine Xz 16 (fun K hK=>?_);go_simp;refine hK _ _ kP (fun hHeld=>?_);clear hK;rotate_left;go_simp;refine hK _ _ kP (fun hHeld=>?_);clear hK
 try simp only[Act.put,xA,xB,xC,xD,xE,xF]
 refine Xz 14 (fun K hK=>?_);go_simp;refine hK _ _ kP (fun hHeld=>?_);clear hK
 all_goals (
  refine Xz 17 (fun K hK=>?_);refine XC rfl _ _ 26 rfl w3.heap.size 2 m0 (.int .i64 0) 1 8 Tryz.underlying26 hm0 hm1 hm2 hm3 rfl vZ (.slice ua ul uc) ul ((pQ xs v b k b k).map (Value.int .i64)) rfl ?s1 ⟨wr.heap.size,0,none⟩ 1 1 [.int .i64 (v:Int)] rfl rfl ?s2 ?s3 ?s4 ?s5 ?s6 ?_
  case s1=>exact(HOX.drew).alloc _
  case s2=>exact XY _ _ _
  case s3=>intro u hu;simp at hu;subst hu;rfl
  case s4=>unfold maxLen;omega
  case s5=>omega
  case s6=>simp;omega
  intro v8 w8 hown8 hg8 _ hat8;obtain⟨g8,c8,rfl,_,_⟩:=Xp hown8 oM;obtain⟨hD8,ce8,fe8,hq8,hz8⟩:=HLk.push (x:=(v:Int)) (s:=b) (t:=k) HU.out hlt hkm (by rw[HUX.out,<-HUL.out];exact hg8) (by rw[<-HUL.out];exact hown8) (by rw[HUX.out,<-HUL.out];simpa using hat8);rw[HUX.out,<-HUL.out]at ce8;have q1:=hq8 gO hgOl hgOb HNO.out;have q2:=hq8 gl HGk.lt (by have:=HGll.out;omega) HNL.out;have q3:=hq8 gi HIk.lt (by have:=HGil.out;omega) HNI.out;have z6:=(Xc (o:=b) q1.1).trans eO;have z7:=(Xc (o:=b) q1.2).trans eO;have HD8:=Xa (hD8.congr (fun s i _ _=>Zil HPS.out s i));have HGL8:=Xa (HGk.of_block q2.2);have HIL8:=Xa (HIk.of_block q3.2);clear hown8 hg8 hat8 hD8 hq8 hz8 q1 q2 q3;refine hK _ _ z6 (fun hHeld=>?_);clear hK;refine Yg 18 ?_;refine Yg 19 ?_;refine Xz 20 (fun K hK=>?_);go_simp;refine hK _ _ z7 (fun hHeld=>?_);clear hK;refine Zu ?_;exact hN.out _ _ _ _ _ _ _ _ _ _ _ _ _ _ _ _ _ _ _ _ _ HD8 HGL8 HIL8)
end Go.Proofs.YthgikffcdgpgiaaGreatDoor
