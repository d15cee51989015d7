import Derived.Test.YtkehcdfalcakmaaGreatDoorDL5
namespace Go.Proofs.YtkehcdfalcakmaaGreatDoor
open Go.RowKit
theorem KU:∀(xs ys:List Xf)(k:Nat)(b:Int),xs.length=ys.length->(∀i (h:i<xs.length) (h':i<ys.length),xs[i].term.targets=ys[i].term.targets)->predsFrom xs k b=predsFrom ys k b
 | [],[],_,_,_,_=>rfl
 | [],_::_,_,_,h,_=>by simp at h
 | _::_,[],_,_,h,_=>by simp at h
 | x::xs,y::ys,k,b,h,ht=>by
  have h0:=ht 0 (by simp) (by simp);rw[List.getElem_cons_zero,List.getElem_cons_zero]at h0;rw[predsFrom,predsFrom,h0,KU xs ys (k+1) b (by simpa using h) (fun i hi hi'=>by have:=ht (i+1) (by simpa using hi) (by simpa using hi');rwa[List.getElem_cons_succ,List.getElem_cons_succ]at this)]
theorem ZdD{xs:List Xf}{i:Nat}{x:Xf}(hi:i<xs.length)(h:x.term=xs[i].term)(k:Nat)(b:Int):predsFrom (xs.set i x) k b=predsFrom xs k b :=
 KU _ _ _ _ (by simp) (fun j hj hj'=>by
  by_cases e:i=j
  ·subst e
   rw[List.getElem_set_self,h]
  ·rw[List.getElem_set_ne e])
theorem Wu(ends:List (List Int)):∀(ps:List Int)(s:Sr)(acc:List Int),(Z4 ends ps s acc).1.length=acc.length+ps.length
 | [],_,_=>rfl
 | p::ps,s,acc=>by
  rw[Z4,Wu];simp only[List.length_append,List.length_cons,List.length_nil];omega
theorem Ua(ends:List (List Int))(preds:List Int):∀(k j:Nat)(ps:List Ph)(s:Sr),(J3 ends preds k j ps s).1.length=ps.length
 | 0,_,_,_=>rfl
 | k+1,j,ps,s=>by rw[J3,Ua];simp
theorem WI(ends:List (List Int))(preds:List Int):∀(k j:Nat)(ps:List Ph)(s:Sr),j+k=ps.length->(∀m (h:m<ps.length),m<j->ps[m].args.length=preds.length)->(∀m (h:m<ps.length),j<=m->ps[m].args=[])->∀p∈(J3 ends preds k j ps s).1,p.args.length=preds.length
 | 0,j,ps,s,hj,h1,_,p,hp=>by
  obtain⟨m,hm,rfl⟩:=List.getElem_of_mem hp;exact h1 m hm (by have:m<ps.length:=hm;omega)
 | k+1,j,ps,s,hj,h1,h2,p,hp=>by
  rw[J3]at hp;have hjl:j<ps.length:=by omega
  refine WI ends preds k (j+1) _ _ (by simp;omega) (fun m hm hmj=>?_) (fun m hm hmj=>?_) p hp
  ·by_cases e:j=m
   ·subst e
    rw[List.getElem_set_self];show(Z4 ends preds s (ps.getD j UY).args).1.length=preds.length;rw[Wu,show ps.getD j UY=ps[j] by simp[hjl],h2 j hjl (Nat.le_refl _)];simp
   ·rw[List.getElem_set_ne e]
    exact h1 m (by simpa using hm) (by omega)
  ·rw[List.getElem_set_ne (by omega)]
   exact h2 m (by simpa using hm) (by omega)
theorem ZbJ(ends:List (List Int)):∀(k i:Nat)(xs:List Xf)(s:Sr),(Z6 ends k i xs s).1.length=xs.length
 | 0,_,_,_=>rfl
 | k+1,i,xs,s=>by rw[Z6,ZbJ];simp
theorem Zdc(ends:List (List Int)):∀(k i:Nat)(xs:List Xf)(s:Sr),i+k=xs.length->(∀m (h:m<xs.length),m<i->∀p∈xs[m].phis,p.args.length=(predsFrom xs 0 (m:Int)).length)->(∀m (h:m<xs.length),i<=m->∀p∈xs[m].phis,p.args=[])->WJ (Z6 ends k i xs s).1
 | 0,i,xs,s,hi,h1,_=>fun m hm=>h1 m hm (by have:m<xs.length:=hm;omega)
 | k+1,i,xs,s,hi,h1,h2=>by
  rw[Z6];have hil:i<xs.length:=by omega
  have e0:xs.getD i XL=xs[i]:=by simp[hil]
  rw[e0];refine Zdc ends k (i+1) _ _ (by simp;omega) (fun m hm hmi p hp=>?_) (fun m hm hmi p hp=>?_)
  ·rw[ZdD (x:=⟨(J3 ends (predsFrom xs 0 (i:Int)) xs[i].phis.length 0 xs[i].phis s).1,xs[i].instrs,xs[i].term⟩) hil rfl]
   by_cases e:i=m
   ·subst e
    rw[List.getElem_set_self]at hp;exact WI ends _ _ 0 _ _ (Nat.zero_add _) (fun _ _ h=>absurd h (by omega)) (fun q hq _=>h2 i hil (Nat.le_refl _) _ (List.getElem_mem hq)) p hp
   ·rw[List.getElem_set_ne e]at hp
    exact h1 m (by simpa using hm) (by omega) p hp
  ·rw[List.getElem_set_ne (by omega)]at hp
   exact h2 m (by simpa using hm) (by omega) p hp
theorem Vx(near:Bool)(ids:List Int):∀(k i:Nat)(g:GdR),(∀x∈g.xs,x.phis.length<=1000/\∀p∈x.phis,p.args=[])->∀x∈(YR near ids k i g).xs,x.phis.length<=1000/\∀p∈x.phis,p.args=[]
 | 0,_,_,h=>h
 | k+1,i,g,h=>by
  rw[YR];refine Vx near ids k (i+1) _ (fun x hx=>?_);rcases List.mem_or_eq_of_mem_set hx with hx | hx
  ·exact h x hx
  ·subst hx
   refine⟨?_,fun p hp=>?_⟩
   ·show(Uw (Tz _ g.s).1 g.v).length<=1000
    rw[Ke];have:=Zdj (predsFrom g.xs 0 (i:Int)).length g.s;omega
   ·have hp':p∈Uw (Tz (predsFrom g.xs 0 (i:Int)).length g.s).1 g.v:=hp
    unfold Uw at hp';obtain⟨j,_,rfl⟩:=List.mem_map.1 hp';rfl
theorem Zag(near:Bool)(ids:List Int):∀(k i:Nat)(g:GdR),ZJ g.s->(∀x∈g.xs,x.instrs.length<=1000)->∀x∈(YR near ids k i g).xs,x.instrs.length<=1000
 | 0,_,_,_,h=>h
 | k+1,i,g,hs,h=>by
  rw[YR];refine Zag near ids k (i+1) _ (ZhL hs) (fun x hx=>?_);rcases List.mem_or_eq_of_mem_set hx with hx | hx
  ·exact h x hx
  ·subst hx
   have:=(Zh5 (near:=near) (i:=i) (np:=(predsFrom g.xs 0 (i:Int)).length) (t:=(g.xs.getD i XL).term) (vs0:=if i=0 then []else g.ends.getD (ids.getD i 0).toNat []) (v:=g.v) hs).2.2.2.1;exact Nat.le_trans this (by omega)
theorem ZbD(ends:List (List Int)):∀(k i:Nat)(xs:List Xf)(s:Sr)(m:Nat),i+k=xs.length->(∀x∈xs,x.phis.length<=m/\x.instrs.length<=m)->∀x∈(Z6 ends k i xs s).1,x.phis.length<=m/\x.instrs.length<=m
 | 0,_,_,_,_,_,h=>h
 | k+1,i,xs,s,m,hi,h=>by
  rw[Z6];have hil:i<xs.length:=by omega
  rw[show xs.getD i XL=xs[i] by simp[hil]];refine ZbD ends k (i+1) _ _ m (by simp;omega) (fun x hx=>?_);rcases List.mem_or_eq_of_mem_set hx with hx | hx
  ·exact h x hx
  ·subst hx
   have:=h _ (List.getElem_mem hil);refine⟨?_,this.2⟩;show(J3 ends _ _ 0 _ s).1.length<=m;rw[Ua];exact this.1
theorem ZhJ{xs:List Xf}(ha:WJ xs)(hn:xs.length<=1000)(h:∀x∈xs,x.phis.length<=1000/\x.instrs.length<=1000):JK xs:=fun x hx=>by
 refine⟨(h x hx).1,fun p hp=>?_,(h x hx).2⟩;obtain⟨i,hi,rfl⟩:=List.getElem_of_mem hx;rw[ha i hi p hp];exact Nat.le_trans (Jv _ _ _) hn
theorem ZdV(n:Nat)(was args:List Int)(z:Int):(UV n was args z).length<=was.length:=by
 unfold UV;exact Nat.le_trans (List.length_filterMap_le _ _) (by simp)
theorem WY(n:Nat)(was now args:List Int):(J4 n was now args).length<=now.length*was.length:=by
 unfold J4
 induction now with
 | nil=>simp
 | cons z now ih =>
  rw[List.flatMap_cons,List.length_append,List.length_cons,Nat.add_mul,Nat.one_mul];have:=ZdV n was args z;omega
theorem WH(xs:List Xf)(hn:xs.length<=11):∀(k b:Nat)(g:List Xf),g.length=xs.length->b+k=g.length->(∀x∈g,x.phis.length<=1000/\(∀p∈x.phis,p.args.length<=1000)/\x.instrs.length<=1000)->JK (JT xs k b g)
 | 0,_,_,_,_,h=>h
 | k+1,b,g,hg,hb,h=>by
  rw[JT];have hbl:b<g.length:=by omega
  rw[show g.getD b XL=g[b] by simp[hbl]];refine WH xs hn k (b+1) _ (by simpa using hg) (by simp;omega) (fun x hx=>?_);rcases List.mem_or_eq_of_mem_set hx with hx | hx
  ·exact h x hx
  ·subst hx
   have h0:=h _ (List.getElem_mem hbl);refine⟨by show(Yq _ _ _ _).length<=1000;unfold Yq;rw[List.length_map];exact h0.1,fun p hp=>?_,h0.2.2⟩;have hp':p∈Yq xs.length (predsFrom xs 0 (othN b xs.length:Nat)) (predsFrom g 0 (b:Int)) g[b].phis:=hp;unfold Yq at hp';obtain⟨q,_,rfl⟩:=List.mem_map.1 hp';have h1:=WY xs.length (predsFrom xs 0 (othN b xs.length:Nat)) (predsFrom g 0 (b:Int)) q.args;have h2:=Jv xs 0 ((othN b xs.length:Nat):Int);have h3:=Jv g 0 (b:Int);show(J4 _ _ _ q.args).length<=1000;have h4:(predsFrom g 0 (b:Int)).length*(predsFrom xs 0 ((othN b xs.length:Nat):Int)).length<=11*11:=Nat.mul_le_mul (by omega) (by omega);omega
theorem ZeS{xs:List Xf}(hn:xs.length<=11)(h1:1<=xs.length)(h:JK xs):JK (YM xs):=by
 unfold YM;refine WH xs hn _ 0 _ (by simp[Y6]) (by simp[Y6]) (fun x hx=>?_);unfold Y6 at hx;obtain⟨b,hb,rfl⟩:=List.mem_map.1 hx;have hbl:b<xs.length:=List.mem_range.1 hb;have ho:othN b xs.length<xs.length:=by unfold othN;split<;>omega
 rw[show xs.getD (othN b xs.length) XL=xs[othN b xs.length] by simp[ho]];have:=h _ (List.getElem_mem ho);exact this
def PhA(xs:List Xf):Prop:=∀x∈xs,∀p∈x.phis,0<p.args.length
def PrB(xs:List Xf):Prop:=∀i (h:i<xs.length),0<xs[i].phis.length->0<(predsFrom xs 0 (i:Int)).length
theorem ZhG{xs:List Xf}(ha:WJ xs)(hp:PrB xs):PhA xs:=fun x hx p hpp=>by
 obtain⟨i,hi,rfl⟩:=List.getElem_of_mem hx;rw[ha i hi p hpp];exact hp i hi (List.length_pos_of_mem hpp)
theorem Wg.b{n m i:Nat}{t:XN}(h:Wg n i t)(hn:1<=n)(hm:n<=m):Zby m t:=by
 rcases h with⟨rfl,_⟩ | ⟨q,rfl,h1,h2,_⟩ | ⟨q,r,rfl,h1,h2,h3,h4,_⟩
 ·exact⟨Or.inr (Or.inr rfl),by dsimp only;omega⟩
 ·exact⟨Or.inl rfl,by dsimp only;omega⟩
 ·exact⟨Or.inr (Or.inl rfl),by dsimp only;omega⟩
theorem Zgc{dead:Bool}{n:Nat}{ts:List XN}{s:Sr}(hl:ts.length=n)(h1:1<=n)(h:∀j (h:j<ts.length),Wg n j ts[j]):∀t∈(Z8 dead n ts s).1,Zby (Z8 dead n ts s).1.length t:=by
 have key:∀m,n<=m->∀t∈ts,Zby m t:=fun m hm t ht=>by
  obtain⟨j,hj,rfl⟩:=List.getElem_of_mem ht;exact(h j hj).b h1 hm
 unfold Z8;split
 ·split
  ·intro t ht
   have hn:=Xx s (n:=(n:Int)-1) (by omega);rcases List.mem_append.1 ht with ht | ht
   ·exact key _ (by simp;omega) t ht
   ·simp only[List.mem_cons,List.not_mem_nil,or_false]at ht
    subst ht;refine⟨Or.inl rfl,?_⟩;dsimp only;simp only[List.length_append,List.length_cons,List.length_nil];omega
  ·intro t ht
   rcases List.mem_append.1 ht with ht | ht
   ·exact key _ (by simp;omega) t ht
   ·simp only[List.mem_cons,List.not_mem_nil,or_false]at ht
    subst ht;refine⟨Or.inr (Or.inr rfl),?_⟩;dsimp only;simp only[List.length_append,List.length_cons,List.length_nil];omega
 ·exact key _ (by show n<=ts.length;omega)
theorem Zfh{ts:List XN}(h:∀t∈ts,Zby ts.length t):TgB (ts.map Yf)/\PrB (ts.map Yf):=by
 refine⟨fun x hx=>?_,fun i hi hp=>?_⟩
 ·obtain⟨t,ht,rfl⟩:=List.mem_map.1 hx
  rw[List.length_map];exact h t ht
 ·rw[(JU ts _ (List.getElem_mem hi)).1]at hp
  exact absurd hp (by simp)
theorem ZdI(near:Bool)(t:XN)(vs:List Int)(s:Sr):(terG near t vs s).1.kind=t.kind/\(terG near t vs s).1.to=t.to/\(terG near t vs s).1.els=t.els:=by
 unfold terG;split
 ·exact⟨rfl,rfl,rfl⟩
 ·exact⟨rfl,rfl,rfl⟩
theorem Zf2{t u:XN}(h:t.kind=u.kind/\t.to=u.to/\t.els=u.els):t.targets=u.targets:=by
 unfold XN.targets;rw[h.1,h.2.1,h.2.2]
theorem ZdO{n:Nat}{t u:XN}(h:t.kind=u.kind/\t.to=u.to/\t.els=u.els)(hu:Zby n u):Zby n t:=by
 unfold Zby
 rw[h.1,h.2.1,h.2.2];exact hu
theorem ZcY{xs:List Xf}{i:Nat}{x:Xf}(ht:TgB xs)(hp:PrB xs)(hi:i<xs.length)(h:x.term.kind=xs[i].term.kind/\x.term.to=xs[i].term.to/\x.term.els=xs[i].term.els)(hx:0<x.phis.length->0<(predsFrom xs 0 (i:Int)).length):TgB (xs.set i x)/\PrB (xs.set i x):=by
 have hpr:∀b:Int,predsFrom (xs.set i x) 0 b=predsFrom xs 0 b:=fun b=>KU _ _ _ _ (by simp) (fun j hj hj'=>by
  by_cases e:i=j
  ·subst e
   rw[List.getElem_set_self];exact Zf2 h
  ·rw[List.getElem_set_ne e])
 refine⟨fun y hy=>?_,fun j hj hpj=>?_⟩
 ·rw[List.length_set]
  rcases List.mem_or_eq_of_mem_set hy with hy | hy
  ·exact ht y hy
  ·subst hy
   exact ZdO h (ht _ (List.getElem_mem hi))
 ·rw[hpr]
  by_cases e:i=j
  ·subst e
   rw[List.getElem_set_self]at hpj;exact hx hpj
  ·rw[List.getElem_set_ne e]at hpj
   exact hp j (by simpa using hj) hpj
theorem Zab(near:Bool)(ids:List Int):∀(k i:Nat)(g:GdR),i+k=g.xs.length->TgB g.xs->PrB g.xs->TgB (YR near ids k i g).xs/\PrB (YR near ids k i g).xs
 | 0,_,_,_,h1,h2=>⟨h1,h2⟩
 | k+1,i,g,hi,h1,h2=>by
  rw[YR];have hil:i<g.xs.length:=by omega
  have e0:g.xs.getD i XL=g.xs[i]:=by simp[hil]
  have key:=ZcY (x:=(U4 near i (predsFrom g.xs 0 (i:Int)).length (g.xs.getD i XL).term (if i=0 then []else g.ends.getD (ids.getD i 0).toNat []) g.v g.s).blk) h1 h2 hil (by rw[e0];exact ZdI _ _ _ _) (fun hx=>by
   have hx':0<(Uw (Tz (predsFrom g.xs 0 (i:Int)).length g.s).1 g.v).length:=hx;rw[Ke]at hx';unfold Tz at hx';split at hx'
   ·omega
   ·split at hx'
    ·omega
    ·exact absurd hx' (by simp))
  exact Zab near ids k (i+1) _ (by simp;omega) key.1 key.2
theorem Zb6(ends:List (List Int)):∀(k i:Nat)(xs:List Xf)(s:Sr),i+k=xs.length->TgB xs->PrB xs->TgB (Z6 ends k i xs s).1/\PrB (Z6 ends k i xs s).1
 | 0,_,_,_,_,h1,h2=>⟨h1,h2⟩
 | k+1,i,xs,s,hi,h1,h2=>by
  rw[Z6];have hil:i<xs.length:=by omega
  rw[show xs.getD i XL=xs[i] by simp[hil]];have key:=ZcY (x:=⟨(J3 ends (predsFrom xs 0 (i:Int)) xs[i].phis.length 0 xs[i].phis s).1,xs[i].instrs,xs[i].term⟩) h1 h2 hil ⟨rfl,rfl,rfl⟩ (fun hx=>by
   have hx':0<(J3 ends (predsFrom xs 0 (i:Int)) xs[i].phis.length 0 xs[i].phis s).1.length:=hx;rw[Ua]at hx';exact h2 i hil hx')
  exact Zb6 ends k (i+1) _ _ (by simp;omega) key.1 key.2
theorem Ta:∀(xs:List Xf)(k:Nat)(b z:Int),z∈predsFrom xs k b↔∃i,∃h:i<xs.length,z=((k+i:Nat):Int)/\xs[i].term.targets.contains b=true
 | [],_,_,_=>by simp[predsFrom]
 | x::xs,k,b,z=>by
  rw[predsFrom,List.mem_append,Ta xs (k+1) b z];constructor
  ·rintro(h | ⟨i,hi,h1,h2⟩)
   ·split at h
    ·rename_i hc
     simp only[List.mem_cons,List.not_mem_nil,or_false]at h;exact⟨0,by simp,by rw[h];simp,by simpa using hc⟩
    ·simp at h
   ·exact⟨i+1,by simpa using hi,by rw[h1];congr 1;omega,by simpa using h2⟩
  ·rintro⟨i,hi,h1,h2⟩
   cases i with
   | zero =>
    left;rw[List.getElem_cons_zero]at h2;rw[if_pos h2,h1];simp
   | succ i =>
    right;exact⟨i,by simpa using hi,by rw[h1];congr 1;omega,by simpa using h2⟩
theorem TD{b n:Nat}(h:b<n):othN b n<n:=by unfold othN;split<;>omega
theorem JD{b n:Nat}(h:b<n):othN (othN b n) n=b:=by unfold othN;split<;>split<;>omega
theorem V8{b n:Nat}(h:b<n):Jo (b:Int) n=((othN b n:Nat):Int):=by
 unfold Jo othN;split
 ·rename_i h0
  rw[if_pos (by omega)];rfl
 ·rename_i h0
  rw[if_neg (by omega)];omega
theorem Zd5{n:Nat}{was now args:List Int}{u z:Int}(hu:u∈was)(hz:z∈now)(h:u=Jo z n):0<(J4 n was now args).length:=by
 obtain⟨m,hm,hmu⟩:=List.getElem_of_mem hu;refine List.length_pos_of_mem (a:=args.getD m 0) ?_;unfold J4;refine List.mem_flatMap.2 ⟨z,hz,?_⟩;unfold UV;refine List.mem_filterMap.2 ⟨m,List.mem_range.2 hm,?_⟩;rw[if_pos];rw[<-h,<-hmu];simp[hm]
theorem Zet{n:Nat}{t:XN}{b:Nat}(hb:b<n)(h:t.targets.contains ((othN b n:Nat):Int)=true):(Yp n t).targets.contains (b:Int)=true:=by
 have hz:Jo ((othN b n:Nat):Int) n=(b:Int):=by rw[V8 (TD hb),JD hb]
 unfold XN.targets at h |-;unfold Yp;dsimp only;split at h
 ·rename_i h1
  rw[if_pos h1,if_pos (by omega)];simp only[List.contains_cons,List.contains_nil,Bool.or_false,beq_iff_eq]at h;rw[<-h,hz];simp
 ·rename_i h1
  split at h
  ·rename_i h2
   rw[if_neg h1,if_pos h2,if_pos (by omega),if_pos h2];simp only[List.contains_cons,List.contains_nil,Bool.or_false,Bool.or_eq_true,beq_iff_eq]at h;rcases h with h | h
   ·rw[<-h,hz];simp
   ·rw[<-h,hz];simp
  ·simp at h
theorem Zai(xs:List Xf)(hp:PrB xs):∀(k b:Nat)(g:List Xf),g.length=xs.length->b+k=g.length->(∀j (h:j<g.length) (h':othN j xs.length<xs.length),g[j].term=Yp xs.length xs[othN j xs.length].term)->(∀j (h:j<g.length),j<b->∀p∈g[j].phis,0<p.args.length)->(∀j (h:j<g.length) (h':othN j xs.length<xs.length),b<=j->g[j].phis=xs[othN j xs.length].phis)->PhA (JT xs k b g)
 | 0,b,g,hg,hb,_,h1,_=>fun x hx=>by
  obtain⟨j,hj,rfl⟩:=List.getElem_of_mem hx;exact h1 j hj (by have:j<g.length:=hj;omega)
 | k+1,b,g,hg,hb,ht,h1,h2=>by
  rw[JT];have hbl:b<g.length:=by omega
  rw[show g.getD b XL=g[b] by simp[hbl]];refine Zai xs hp k (b+1) _ (by simpa using hg) (by simp;omega) (fun j hj hj'=>?_) (fun j hj hjb p hpp=>?_) (fun j hj hj' hjb=>?_)
  ·by_cases e:b=j
   ·subst e
    rw[List.getElem_set_self];exact ht b hbl hj'
   ·rw[List.getElem_set_ne e]
    exact ht j (by simpa using hj) hj'
  ·by_cases e:b=j
   ·subst e
    rw[List.getElem_set_self]at hpp;have hpp':p∈Yq xs.length (predsFrom xs 0 (othN b xs.length:Nat)) (predsFrom g 0 (b:Int)) g[b].phis:=hpp;unfold Yq at hpp';obtain⟨q,hq,rfl⟩:=List.mem_map.1 hpp';have hbx:b<xs.length:=by omega
    have ho:=TD hbx;rw[h2 b hbl ho (Nat.le_refl _)]at hq;have hpos:=hp _ ho (List.length_pos_of_mem hq);obtain⟨u,hu⟩:=List.exists_mem_of_length_pos hpos;obtain⟨i,hi,e1,e2⟩:=(Ta _ _ _ _).1 hu;rw[Nat.zero_add]at e1;have hoi:=TD hi;refine Zd5 hu (z:=((othN i xs.length:Nat):Int)) ((Ta _ _ _ _).2 ⟨othN i xs.length,by omega,by simp,?_⟩) (by rw[V8 hoi,JD hi];exact e1);have hgt:=ht (othN i xs.length) (by omega) (by rw[JD hi];exact hi);rw[hgt];refine Zet hbx ?_;have e3:xs[othN (othN i xs.length) xs.length]'(by rw[JD hi];exact hi)=xs[i]:=by congr 1;exact JD hi
    rw[e3];exact e2
   ·rw[List.getElem_set_ne e]at hpp
    exact h1 j (by simpa using hj) (by omega) p hpp
  ·rw[List.getElem_set_ne (by omega)]
   exact h2 j (by simpa using hj) hj' (by omega)
theorem Zgb{xs:List Xf}(hp:PrB xs):PhA (YM xs):=by
 unfold YM;have hl:(Y6 xs).length=xs.length:=by simp[Y6]
 refine Zai xs hp _ 0 _ hl (by omega) (fun j hj hj'=>?_) (fun j hj h=>absurd h (by omega)) (fun j hj hj' _=>?_)
 ·simp[Y6,hj']
 ·simp[Y6,hj']
theorem ZgQ{v:Nat}{xs:List Xf}(h:PhA xs):PhA (K6 v xs):=fun x hx p hp=>by
 unfold K6 at hx;obtain⟨y,hy,rfl⟩:=List.mem_map.1 hx;unfold ZU at hp;obtain⟨q,hq,rfl⟩:=List.mem_map.1 hp;have:=h y hy q hq;simpa using this
theorem ZgW{v:Nat}{xs:List Xf}(h:JK xs):JK (K6 v xs):=fun x hx=>by
 unfold K6 at hx;obtain⟨y,hy,rfl⟩:=List.mem_map.1 hx;have:=h y hy;refine⟨by unfold ZU;simpa using this.1,fun p hp=>?_,by unfold ZU;simpa using this.2.2⟩;unfold ZU at hp;obtain⟨q,hq,rfl⟩:=List.mem_map.1 hp;have:=this.2.1 q hq;simpa using this
end Go.Proofs.YtkehcdfalcakmaaGreatDoor
