import Derived.Test.YtbofmlmdgkblkaaDoorDL5
namespace Go.Proofs.YtbofmlmdgkblkaaDoor
open Go.RowKit
theorem Kx:∀(xs ys:List Xg)(k:Nat)(b:Int),xs.length=ys.length->(∀i (h:i<xs.length) (h':i<ys.length),xs[i].term.targets=ys[i].term.targets)->predsFrom xs k b=predsFrom ys k b
 | [],[],_,_,_,_=>rfl
 | [],_::_,_,_,h,_=>by simp at h
 | _::_,[],_,_,h,_=>by simp at h
 | x::xs,y::ys,k,b,h,ht=>by
  have h0:=ht 0 (by simp) (by simp);rw[List.getElem_cons_zero,List.getElem_cons_zero]at h0;rw[predsFrom,predsFrom,h0,Kx xs ys (k+1) b (by simpa using h) (fun i hi hi'=>by have:=ht (i+1) (by simpa using hi) (by simpa using hi');rwa[List.getElem_cons_succ,List.getElem_cons_succ]at this)]
theorem Zea{xs:List Xg}{i:Nat}{x:Xg}(hi:i<xs.length)(h:x.term=xs[i].term)(k:Nat)(b:Int):predsFrom (xs.set i x) k b=predsFrom xs k b :=
 Kx _ _ _ _ (by simp) (fun j hj hj'=>by
  by_cases e:i=j
  ·subst e
   rw[List.getElem_set_self,h]
  ·rw[List.getElem_set_ne e])
theorem Ww(ends:List (List Int)):∀(ps:List Int)(s:Sr)(acc:List Int),(Zu ends ps s acc).1.length=acc.length+ps.length
 | [],_,_=>rfl
 | p::ps,s,acc=>by
  rw[Zu,Ww];simp only[List.length_append,List.length_cons,List.length_nil];omega
theorem TM(ends:List (List Int))(preds:List Int):∀(k j:Nat)(ps:List Ph)(s:Sr),(Jl ends preds k j ps s).1.length=ps.length
 | 0,_,_,_=>rfl
 | k+1,j,ps,s=>by rw[Jl,TM];simp
theorem Zaf(ends:List (List Int))(preds:List Int):∀(k j:Nat)(ps:List Ph)(s:Sr),j+k=ps.length->(∀m (h:m<ps.length),m<j->ps[m].args.length=preds.length)->(∀m (h:m<ps.length),j<=m->ps[m].args=[])->∀p∈(Jl ends preds k j ps s).1,p.args.length=preds.length
 | 0,j,ps,s,hj,h1,_,p,hp=>by
  obtain⟨m,hm,rfl⟩:=List.getElem_of_mem hp;exact h1 m hm (by have:m<ps.length:=hm;omega)
 | k+1,j,ps,s,hj,h1,h2,p,hp=>by
  rw[Jl]at hp;have hjl:j<ps.length:=by omega
  refine Zaf ends preds k (j+1) _ _ (by simp;omega) (fun m hm hmj=>?_) (fun m hm hmj=>?_) p hp
  ·by_cases e:j=m
   ·subst e
    rw[List.getElem_set_self];show(Zu ends preds s (ps.getD j UD).args).1.length=preds.length;rw[Ww,show ps.getD j UD=ps[j] by simp[hjl],h2 j hjl (Nat.le_refl _)];simp
   ·rw[List.getElem_set_ne e]
    exact h1 m (by simpa using hm) (by omega)
  ·rw[List.getElem_set_ne (by omega)]
   exact h2 m (by simpa using hm) (by omega)
theorem ZaT(ends:List (List Int)):∀(k i:Nat)(xs:List Xg)(s:Sr),(Zw ends k i xs s).1.length=xs.length
 | 0,_,_,_=>rfl
 | k+1,i,xs,s=>by rw[Zw,ZaT];simp
theorem ZcI(ends:List (List Int)):∀(k i:Nat)(xs:List Xg)(s:Sr),i+k=xs.length->(∀m (h:m<xs.length),m<i->∀p∈xs[m].phis,p.args.length=(predsFrom xs 0 (m:Int)).length)->(∀m (h:m<xs.length),i<=m->∀p∈xs[m].phis,p.args=[])->WE (Zw ends k i xs s).1
 | 0,i,xs,s,hi,h1,_=>fun m hm=>h1 m hm (by have:m<xs.length:=hm;omega)
 | k+1,i,xs,s,hi,h1,h2=>by
  rw[Zw];have hil:i<xs.length:=by omega
  have e0:xs.getD i XO=xs[i]:=by simp[hil]
  rw[e0];refine ZcI ends k (i+1) _ _ (by simp;omega) (fun m hm hmi p hp=>?_) (fun m hm hmi p hp=>?_)
  ·rw[Zea (x:=⟨(Jl ends (predsFrom xs 0 (i:Int)) xs[i].phis.length 0 xs[i].phis s).1,xs[i].instrs,xs[i].term⟩) hil rfl]
   by_cases e:i=m
   ·subst e
    rw[List.getElem_set_self]at hp;exact Zaf ends _ _ 0 _ _ (Nat.zero_add _) (fun _ _ h=>absurd h (by omega)) (fun q hq _=>h2 i hil (Nat.le_refl _) _ (List.getElem_mem hq)) p hp
   ·rw[List.getElem_set_ne e]at hp
    exact h1 m (by simpa using hm) (by omega) p hp
  ·rw[List.getElem_set_ne (by omega)]at hp
   exact h2 m (by simpa using hm) (by omega) p hp
theorem VN(near:Bool)(ids:List Int):∀(k i:Nat)(g:GdR),(∀x∈g.xs,x.phis.length<=1000/\∀p∈x.phis,p.args=[])->∀x∈(YU near ids k i g).xs,x.phis.length<=1000/\∀p∈x.phis,p.args=[]
 | 0,_,_,h=>h
 | k+1,i,g,h=>by
  rw[YU];refine VN near ids k (i+1) _ (fun x hx=>?_);rcases List.mem_or_eq_of_mem_set hx with hx | hx
  ·exact h x hx
  ·subst hx
   refine⟨?_,fun p hp=>?_⟩
   ·show(Uw (Ti _ g.s).1 g.v).length<=1000
    rw[Ka];have:=ZcU (predsFrom g.xs 0 (i:Int)).length g.s;omega
   ·have hp':p∈Uw (Ti (predsFrom g.xs 0 (i:Int)).length g.s).1 g.v:=hp
    unfold Uw at hp';obtain⟨j,_,rfl⟩:=List.mem_map.1 hp';rfl
theorem WN(near:Bool)(ids:List Int):∀(k i:Nat)(g:GdR),ZF g.s->(∀x∈g.xs,x.instrs.length<=1000)->∀x∈(YU near ids k i g).xs,x.instrs.length<=1000
 | 0,_,_,_,h=>h
 | k+1,i,g,hs,h=>by
  rw[YU];refine WN near ids k (i+1) _ (ZhY hs) (fun x hx=>?_);rcases List.mem_or_eq_of_mem_set hx with hx | hx
  ·exact h x hx
  ·subst hx
   have:=(ZhM (near:=near) (i:=i) (np:=(predsFrom g.xs 0 (i:Int)).length) (t:=(g.xs.getD i XO).term) (vs0:=if i=0 then []else g.ends.getD (ids.getD i 0).toNat []) (v:=g.v) hs).2.2.2.1;exact Nat.le_trans this (by omega)
theorem ZbH(ends:List (List Int)):∀(k i:Nat)(xs:List Xg)(s:Sr)(m:Nat),i+k=xs.length->(∀x∈xs,x.phis.length<=m/\x.instrs.length<=m)->∀x∈(Zw ends k i xs s).1,x.phis.length<=m/\x.instrs.length<=m
 | 0,_,_,_,_,_,h=>h
 | k+1,i,xs,s,m,hi,h=>by
  rw[Zw];have hil:i<xs.length:=by omega
  rw[show xs.getD i XO=xs[i] by simp[hil]];refine ZbH ends k (i+1) _ _ m (by simp;omega) (fun x hx=>?_);rcases List.mem_or_eq_of_mem_set hx with hx | hx
  ·exact h x hx
  ·subst hx
   have:=h _ (List.getElem_mem hil);refine⟨?_,this.2⟩;show(Jl ends _ _ 0 _ s).1.length<=m;rw[TM];exact this.1
theorem Zh4{xs:List Xg}(ha:WE xs)(hn:xs.length<=1000)(h:∀x∈xs,x.phis.length<=1000/\x.instrs.length<=1000):J9 xs:=fun x hx=>by
 refine⟨(h x hx).1,fun p hp=>?_,(h x hx).2⟩;obtain⟨i,hi,rfl⟩:=List.getElem_of_mem hx;rw[ha i hi p hp];exact Nat.le_trans (ZQ _ _ _) hn
theorem Zdx(n:Nat)(was args:List Int)(z:Int):(UP n was args z).length<=was.length:=by
 unfold UP;exact Nat.le_trans (List.length_filterMap_le _ _) (by simp)
theorem WP(n:Nat)(was now args:List Int):(Js n was now args).length<=now.length*was.length:=by
 unfold Js
 induction now with
 | nil=>simp
 | cons z now ih =>
  rw[List.flatMap_cons,List.length_append,List.length_cons,Nat.add_mul,Nat.one_mul];have:=Zdx n was args z;omega
theorem WH(xs:List Xg)(hn:xs.length<=11):∀(k b:Nat)(g:List Xg),g.length=xs.length->b+k=g.length->(∀x∈g,x.phis.length<=1000/\(∀p∈x.phis,p.args.length<=1000)/\x.instrs.length<=1000)->J9 (JF xs k b g)
 | 0,_,_,_,_,h=>h
 | k+1,b,g,hg,hb,h=>by
  rw[JF];have hbl:b<g.length:=by omega
  rw[show g.getD b XO=g[b] by simp[hbl]];refine WH xs hn k (b+1) _ (by simpa using hg) (by simp;omega) (fun x hx=>?_);rcases List.mem_or_eq_of_mem_set hx with hx | hx
  ·exact h x hx
  ·subst hx
   have h0:=h _ (List.getElem_mem hbl);refine⟨by show(Yv _ _ _ _).length<=1000;unfold Yv;rw[List.length_map];exact h0.1,fun p hp=>?_,h0.2.2⟩;have hp':p∈Yv xs.length (predsFrom xs 0 (othN b xs.length:Nat)) (predsFrom g 0 (b:Int)) g[b].phis:=hp;unfold Yv at hp';obtain⟨q,_,rfl⟩:=List.mem_map.1 hp';have h1:=WP xs.length (predsFrom xs 0 (othN b xs.length:Nat)) (predsFrom g 0 (b:Int)) q.args;have h2:=ZQ xs 0 ((othN b xs.length:Nat):Int);have h3:=ZQ g 0 (b:Int);show(Js _ _ _ q.args).length<=1000;have h4:(predsFrom g 0 (b:Int)).length*(predsFrom xs 0 ((othN b xs.length:Nat):Int)).length<=11*11:=Nat.mul_le_mul (by omega) (by omega);omega
theorem ZeT{xs:List Xg}(hn:xs.length<=11)(h1:1<=xs.length)(h:J9 xs):J9 (YR xs):=by
 unfold YR;refine WH xs hn _ 0 _ (by simp[Y8]) (by simp[Y8]) (fun x hx=>?_);unfold Y8 at hx;obtain⟨b,hb,rfl⟩:=List.mem_map.1 hx;have hbl:b<xs.length:=List.mem_range.1 hb;have ho:othN b xs.length<xs.length:=by unfold othN;split<;>omega
 rw[show xs.getD (othN b xs.length) XO=xs[othN b xs.length] by simp[ho]];have:=h _ (List.getElem_mem ho);exact this
def PhA(xs:List Xg):Prop:=∀x∈xs,∀p∈x.phis,0<p.args.length
def PrB(xs:List Xg):Prop:=∀i (h:i<xs.length),0<xs[i].phis.length->0<(predsFrom xs 0 (i:Int)).length
theorem ZhN{xs:List Xg}(ha:WE xs)(hp:PrB xs):PhA xs:=fun x hx p hpp=>by
 obtain⟨i,hi,rfl⟩:=List.getElem_of_mem hx;rw[ha i hi p hpp];exact hp i hi (List.length_pos_of_mem hpp)
theorem Wi.b{n m i:Nat}{t:XZ}(h:Wi n i t)(hn:1<=n)(hm:n<=m):Zbf m t:=by
 rcases h with⟨rfl,_⟩ | ⟨q,rfl,h1,h2,_⟩ | ⟨q,r,rfl,h1,h2,h3,h4,_⟩
 ·exact⟨Or.inr (Or.inr rfl),by dsimp only;omega⟩
 ·exact⟨Or.inl rfl,by dsimp only;omega⟩
 ·exact⟨Or.inr (Or.inl rfl),by dsimp only;omega⟩
theorem Zf6{dead:Bool}{n:Nat}{ts:List XZ}{s:Sr}(hl:ts.length=n)(h1:1<=n)(h:∀j (h:j<ts.length),Wi n j ts[j]):∀t∈(Zy dead n ts s).1,Zbf (Zy dead n ts s).1.length t:=by
 have key:∀m,n<=m->∀t∈ts,Zbf m t:=fun m hm t ht=>by
  obtain⟨j,hj,rfl⟩:=List.getElem_of_mem ht;exact(h j hj).b h1 hm
 unfold Zy;split
 ·split
  ·intro t ht
   have hn:=XB s (n:=(n:Int)-1) (by omega);rcases List.mem_append.1 ht with ht | ht
   ·exact key _ (by simp;omega) t ht
   ·simp only[List.mem_cons,List.not_mem_nil,or_false]at ht
    subst ht;refine⟨Or.inl rfl,?_⟩;dsimp only;simp only[List.length_append,List.length_cons,List.length_nil];omega
  ·intro t ht
   rcases List.mem_append.1 ht with ht | ht
   ·exact key _ (by simp;omega) t ht
   ·simp only[List.mem_cons,List.not_mem_nil,or_false]at ht
    subst ht;refine⟨Or.inr (Or.inr rfl),?_⟩;dsimp only;simp only[List.length_append,List.length_cons,List.length_nil];omega
 ·exact key _ (by show n<=ts.length;omega)
theorem ZfJ{ts:List XZ}(h:∀t∈ts,Zbf ts.length t):TgB (ts.map Yj)/\PrB (ts.map Yj):=by
 refine⟨fun x hx=>?_,fun i hi hp=>?_⟩
 ·obtain⟨t,ht,rfl⟩:=List.mem_map.1 hx
  rw[List.length_map];exact h t ht
 ·rw[(JM ts _ (List.getElem_mem hi)).1]at hp
  exact absurd hp (by simp)
theorem Zed(near:Bool)(t:XZ)(vs:List Int)(s:Sr):(terG near t vs s).1.kind=t.kind/\(terG near t vs s).1.to=t.to/\(terG near t vs s).1.els=t.els:=by
 unfold terG;split
 ·exact⟨rfl,rfl,rfl⟩
 ·exact⟨rfl,rfl,rfl⟩
theorem ZeF{t u:XZ}(h:t.kind=u.kind/\t.to=u.to/\t.els=u.els):t.targets=u.targets:=by
 unfold XZ.targets;rw[h.1,h.2.1,h.2.2]
theorem ZdU{n:Nat}{t u:XZ}(h:t.kind=u.kind/\t.to=u.to/\t.els=u.els)(hu:Zbf n u):Zbf n t:=by
 unfold Zbf;rw[h.1,h.2.1,h.2.2];exact hu
theorem Zdd{xs:List Xg}{i:Nat}{x:Xg}(ht:TgB xs)(hp:PrB xs)(hi:i<xs.length)(h:x.term.kind=xs[i].term.kind/\x.term.to=xs[i].term.to/\x.term.els=xs[i].term.els)(hx:0<x.phis.length->0<(predsFrom xs 0 (i:Int)).length):TgB (xs.set i x)/\PrB (xs.set i x):=by
 have hpr:∀b:Int,predsFrom (xs.set i x) 0 b=predsFrom xs 0 b:=fun b=>Kx _ _ _ _ (by simp) (fun j hj hj'=>by
  by_cases e:i=j
  ·subst e
   rw[List.getElem_set_self];exact ZeF h
  ·rw[List.getElem_set_ne e])
 refine⟨fun y hy=>?_,fun j hj hpj=>?_⟩
 ·rw[List.length_set]
  rcases List.mem_or_eq_of_mem_set hy with hy | hy
  ·exact ht y hy
  ·subst hy
   exact ZdU h (ht _ (List.getElem_mem hi))
 ·rw[hpr]
  by_cases e:i=j
  ·subst e
   rw[List.getElem_set_self]at hpj;exact hx hpj
  ·rw[List.getElem_set_ne e]at hpj
   exact hp j (by simpa using hj) hpj
theorem Zad(near:Bool)(ids:List Int):∀(k i:Nat)(g:GdR),i+k=g.xs.length->TgB g.xs->PrB g.xs->TgB (YU near ids k i g).xs/\PrB (YU near ids k i g).xs
 | 0,_,_,_,h1,h2=>⟨h1,h2⟩
 | k+1,i,g,hi,h1,h2=>by
  rw[YU];have hil:i<g.xs.length:=by omega
  have e0:g.xs.getD i XO=g.xs[i]:=by simp[hil]
  have key:=Zdd (x:=(Ui near i (predsFrom g.xs 0 (i:Int)).length (g.xs.getD i XO).term (if i=0 then []else g.ends.getD (ids.getD i 0).toNat []) g.v g.s).blk) h1 h2 hil (by rw[e0];exact Zed _ _ _ _) (fun hx=>by
   have hx':0<(Uw (Ti (predsFrom g.xs 0 (i:Int)).length g.s).1 g.v).length:=hx;rw[Ka]at hx';unfold Ti at hx';split at hx'
   ·omega
   ·split at hx'
    ·omega
    ·exact absurd hx' (by simp))
  exact Zad near ids k (i+1) _ (by simp;omega) key.1 key.2
theorem ZaX(ends:List (List Int)):∀(k i:Nat)(xs:List Xg)(s:Sr),i+k=xs.length->TgB xs->PrB xs->TgB (Zw ends k i xs s).1/\PrB (Zw ends k i xs s).1
 | 0,_,_,_,_,h1,h2=>⟨h1,h2⟩
 | k+1,i,xs,s,hi,h1,h2=>by
  rw[Zw];have hil:i<xs.length:=by omega
  rw[show xs.getD i XO=xs[i] by simp[hil]];have key:=Zdd (x:=⟨(Jl ends (predsFrom xs 0 (i:Int)) xs[i].phis.length 0 xs[i].phis s).1,xs[i].instrs,xs[i].term⟩) h1 h2 hil ⟨rfl,rfl,rfl⟩ (fun hx=>by
   have hx':0<(Jl ends (predsFrom xs 0 (i:Int)) xs[i].phis.length 0 xs[i].phis s).1.length:=hx;rw[TM]at hx';exact h2 i hil hx')
  exact ZaX ends k (i+1) _ _ (by simp;omega) key.1 key.2
theorem JC:∀(xs:List Xg)(k:Nat)(b z:Int),z∈predsFrom xs k b↔∃i,∃h:i<xs.length,z=((k+i:Nat):Int)/\xs[i].term.targets.contains b=true
 | [],_,_,_=>by simp[predsFrom]
 | x::xs,k,b,z=>by
  rw[predsFrom,List.mem_append,JC xs (k+1) b z];constructor
  ·rintro(h | ⟨i,hi,h1,h2⟩)
   ·split at h
    ·rename_i hc
     simp only[List.mem_cons,List.not_mem_nil,or_false]at h;exact⟨0,by simp,by rw[h];simp,by simpa using hc⟩
    ·simp at h
   ·exact⟨i+1,by simpa using hi,by rw[h1];congr 1;omega,by simpa using h2⟩
  ·rintro⟨i,hi,h1,h2⟩
   cases i with
   | zero =>
    left;rw[List.getElem_cons_zero]at h2;rw[if_pos h2,h1];simp
   | succ i =>
    right;exact⟨i,by simpa using hi,by rw[h1];congr 1;omega,by simpa using h2⟩
theorem Tz{b n:Nat}(h:b<n):othN b n<n:=by unfold othN;split<;>omega
theorem Jy{b n:Nat}(h:b<n):othN (othN b n) n=b:=by unfold othN;split<;>split<;>omega
theorem Vq{b n:Nat}(h:b<n):ZV (b:Int) n=((othN b n:Nat):Int):=by
 unfold ZV othN;split
 ·rename_i h0
  rw[if_pos (by omega)];rfl
 ·rename_i h0
  rw[if_neg (by omega)];omega
theorem Zeg{n:Nat}{was now args:List Int}{u z:Int}(hu:u∈was)(hz:z∈now)(h:u=ZV z n):0<(Js n was now args).length:=by
 obtain⟨m,hm,hmu⟩:=List.getElem_of_mem hu;refine List.length_pos_of_mem (a:=args.getD m 0) ?_;unfold Js;refine List.mem_flatMap.2 ⟨z,hz,?_⟩;unfold UP;refine List.mem_filterMap.2 ⟨m,List.mem_range.2 hm,?_⟩;rw[if_pos];rw[<-h,<-hmu];simp[hm]
theorem Zd9{n:Nat}{t:XZ}{b:Nat}(hb:b<n)(h:t.targets.contains ((othN b n:Nat):Int)=true):(Yt n t).targets.contains (b:Int)=true:=by
 have hz:ZV ((othN b n:Nat):Int) n=(b:Int):=by rw[Vq (Tz hb),Jy hb]
 unfold XZ.targets at h |-;unfold Yt;dsimp only;split at h
 ·rename_i h1
  rw[if_pos h1,if_pos (by omega)];simp only[List.contains_cons,List.contains_nil,Bool.or_false,beq_iff_eq]at h;rw[<-h,hz];simp
 ·rename_i h1
  split at h
  ·rename_i h2
   rw[if_neg h1,if_pos h2,if_pos (by omega),if_pos h2];simp only[List.contains_cons,List.contains_nil,Bool.or_false,Bool.or_eq_true,beq_iff_eq]at h;rcases h with h | h
   ·rw[<-h,hz];simp
   ·rw[<-h,hz];simp
  ·simp at h
theorem WW(xs:List Xg)(hp:PrB xs):∀(k b:Nat)(g:List Xg),g.length=xs.length->b+k=g.length->(∀j (h:j<g.length) (h':othN j xs.length<xs.length),g[j].term=Yt xs.length xs[othN j xs.length].term)->(∀j (h:j<g.length),j<b->∀p∈g[j].phis,0<p.args.length)->(∀j (h:j<g.length) (h':othN j xs.length<xs.length),b<=j->g[j].phis=xs[othN j xs.length].phis)->PhA (JF xs k b g)
 | 0,b,g,hg,hb,_,h1,_=>fun x hx=>by
  obtain⟨j,hj,rfl⟩:=List.getElem_of_mem hx;exact h1 j hj (by have:j<g.length:=hj;omega)
 | k+1,b,g,hg,hb,ht,h1,h2=>by
  rw[JF];have hbl:b<g.length:=by omega
  rw[show g.getD b XO=g[b] by simp[hbl]];refine WW xs hp k (b+1) _ (by simpa using hg) (by simp;omega) (fun j hj hj'=>?_) (fun j hj hjb p hpp=>?_) (fun j hj hj' hjb=>?_)
  ·by_cases e:b=j
   ·subst e
    rw[List.getElem_set_self];exact ht b hbl hj'
   ·rw[List.getElem_set_ne e]
    exact ht j (by simpa using hj) hj'
  ·by_cases e:b=j
   ·subst e
    rw[List.getElem_set_self]at hpp;have hpp':p∈Yv xs.length (predsFrom xs 0 (othN b xs.length:Nat)) (predsFrom g 0 (b:Int)) g[b].phis:=hpp;unfold Yv at hpp';obtain⟨q,hq,rfl⟩:=List.mem_map.1 hpp';have hbx:b<xs.length:=by omega
    have ho:=Tz hbx;rw[h2 b hbl ho (Nat.le_refl _)]at hq;have hpos:=hp _ ho (List.length_pos_of_mem hq);obtain⟨u,hu⟩:=List.exists_mem_of_length_pos hpos;obtain⟨i,hi,e1,e2⟩:=(JC _ _ _ _).1 hu;rw[Nat.zero_add]at e1;have hoi:=Tz hi;refine Zeg hu (z:=((othN i xs.length:Nat):Int)) ((JC _ _ _ _).2 ⟨othN i xs.length,by omega,by simp,?_⟩) (by rw[Vq hoi,Jy hi];exact e1);have hgt:=ht (othN i xs.length) (by omega) (by rw[Jy hi];exact hi);rw[hgt];refine Zd9 hbx ?_;have e3:xs[othN (othN i xs.length) xs.length]'(by rw[Jy hi];exact hi)=xs[i]:=by congr 1;exact Jy hi
    rw[e3];exact e2
   ·rw[List.getElem_set_ne e]at hpp
    exact h1 j (by simpa using hj) (by omega) p hpp
  ·rw[List.getElem_set_ne (by omega)]
   exact h2 j (by simpa using hj) hj' (by omega)
theorem Zfw{xs:List Xg}(hp:PrB xs):PhA (YR xs):=by
 unfold YR;have hl:(Y8 xs).length=xs.length:=by simp[Y8]
 refine WW xs hp _ 0 _ hl (by omega) (fun j hj hj'=>?_) (fun j hj h=>absurd h (by omega)) (fun j hj hj' _=>?_)
 ·simp[Y8,hj']
 ·simp[Y8,hj']
theorem Zgj{v:Nat}{xs:List Xg}(h:PhA xs):PhA (Kr v xs):=fun x hx p hp=>by
 unfold Kr at hx;obtain⟨y,hy,rfl⟩:=List.mem_map.1 hx;unfold ZR at hp;obtain⟨q,hq,rfl⟩:=List.mem_map.1 hp;have:=h y hy q hq;simpa using this
theorem Zgo{v:Nat}{xs:List Xg}(h:J9 xs):J9 (Kr v xs):=fun x hx=>by
 unfold Kr at hx;obtain⟨y,hy,rfl⟩:=List.mem_map.1 hx;have:=h y hy;refine⟨by unfold ZR;simpa using this.1,fun p hp=>?_,by unfold ZR;simpa using this.2.2⟩;unfold ZR at hp;obtain⟨q,hq,rfl⟩:=List.mem_map.1 hp;have:=this.2.1 q hq;simpa using this
end Go.Proofs.YtbofmlmdgkblkaaDoor
