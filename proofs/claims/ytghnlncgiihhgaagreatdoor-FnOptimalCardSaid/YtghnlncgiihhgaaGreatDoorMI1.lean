import Derived.Test.YtghnlncgiihhgaaGreatDoorVI1
import Derived.ProofKit
import Derived.Lib.SmallJoins
import Derived.Test.YtghnlncgiihhgaaGreatDoorCards
import Derived.Test.YtghnlncgiihhgaaGreatDoorTie
import Derived.OpenVars
import Derived.LaidMore
import Derived.Deep.DeepHandedRow
import Derived.Lib.LaidTab
namespace Go.Proofs.YtghnlncgiihhgaaGreatDoor
set_option maxHeartbeats 8000000
set_option maxRecDepth 100000
open Go.RowKit Go.Proofs.Tryz Go.Deep Go.ChangeShapes Go.WideShapes Go.ChangeAt Go.Joins
variable{t:Int}{l L:List Int}{y Y:List Value}{x:List Xe}{n m k B:Nat}{a:Value}{w v:World}
structure TF(w:World)(L:Nat)(vals:List Value)(fl:List (List Int)):Prop where
 len:vals.length=fl.length
 at_:∀(j:Nat)(h:j<fl.length),∃a c,vals[j]?=some (.slice a fl[j].length c)/\Xf w L w.heap.size a fl[j]
theorem TF.nil(w:World)(L:Nat):TF w L [] []:=⟨rfl,fun j h=>absurd h sP⟩
theorem TF.app{f1 f2:List (List Int)}(a:TF w n y f1)(d:TF w n Y f2):TF w n (y++Y) (f1++f2):=by
 refine⟨by rw[aQ,aQ,a.len,d.len],fun j f=>?_⟩;rw[aQ]at f;by_cases e:j<f1.length
 ·obtain⟨b,c,e1,e2⟩:=a.at_ j e
  refine⟨b,c,?_,?_⟩
  ·rw[dL (by rw[a.len];exact e),fA e]
   exact e1
  ·rw[fA e];exact e2
 ·obtain⟨b,c,e1,e2⟩:=d.at_ (j-f1.length) oM
  refine⟨b,c,?_,?_⟩
  ·rw[eV (by rw[a.len];omega),a.len,fN oM]
   exact e1
  ·rw[fN oM];exact e2
theorem t7{f:Nat->List Int}(q:XR w n m (some ⟨k,0,none⟩) ((List.range B).map f))(s:m<=w.heap.size):∃vals:List Value,TF w n vals ((List.range B).map f)/\(∀j u,vals[j]?=some u->w.cell? ⟨k,j,none⟩=some u)/\∀u∈vals,∃c t d,u=.slice c t d:=by
 have g:∀j,j<B->∃v:Value,w.cell? ⟨k,j,none⟩=some v/\∃c d,v=.slice c (f j).length d/\Xf w n w.heap.size c (f j):=fun j a=>by
  obtain⟨b,z,h,y,c,d,l,p⟩:=q j (by simpa using a);simp only[cM,dW]at l p;injection h with h;injection h with e1 e2;subst e1 e2;rw[aV]at l;exact⟨_,l,c,d,rfl,p.mono (aA _) s⟩
 refine⟨(List.range B).map fun j=>if a:j<B then (g j a).choose else .slice none 0 0,⟨sP,fun j a=>?_⟩,fun j u e=>?_,fun u e=>?_⟩
 ·have o:j<B:=by simpa using a
  obtain⟨x,c,d,i,r⟩:=(g j o).choose_spec;refine⟨c,d,?_,?_⟩
  ·rw[dX,iQ o]
   simp only[jY,o,dif_pos,cM,dW];rw[i]
  ·simp only[cM,dW];exact r
 ·by_cases a:j<B
  ·rw[dX,iQ a]at e
   simp only[jY,a,dif_pos]at e;injection e with e;rw[<-e];exact(g j a).choose_spec.1
  ·rw[dK (by simp;omega)]at e
   cases e
 ·obtain⟨j,a,rfl⟩:=aY.1 e
  have a:=bE.1 a;simp only[a,dif_pos];obtain⟨_,c,d,i,_⟩:=(g j a).choose_spec;exact⟨c,_,d,i⟩
structure AsE(w2 wr:World)(b0 L:Nat)(u:Value)(fl:List (List Int)):Prop where
 os:wr.os=w2.os
 tape:wr.tape=w2.tape
 output:wr.output=w2.output
 size:w2.heap.size<=wr.heap.size
 fr:∀q,q<w2.heap.size->q≠b0->wr.heap[q]?=w2.heap[q]?
 ob:∀q,u.ownBlock=some q->q=b0\/w2.heap.size<=q
 own:∃vals:List Value,TF w2 L vals fl/\wr.ownsRow b0 55 1 u fl.length vals
theorem AsE.push{wr:World}{u':Value}{c f2:List (List Int)}{vals:List Value}(h:AsE w wr n m a c)(k:TF w m vals c)(f:TF w m y f2)(b:wr.grownBy v a.ownBlock)(j:v.ownsRow n 55 1 u' (c.length+f2.length) (vals++y))(i:u'.ownBlock=a.ownBlock\/u'.ownBlock=some wr.heap.size):AsE w v n m u' (c++f2):=by
 have l:=h.size;refine⟨b.os.trans h.os,b.tape.trans h.tape,b.output.trans h.output,aJ h.size b.size,fun q d g=>(b.block q oM (fun e=>by rcases h.ob q e.symm with e | e<;>omega)).trans (h.fr q d g),fun q e=>?_,_,k.app f,by rw[aQ];exact j⟩;rcases i with e1 | e1
 ·exact h.ob q (e1.symm.trans e)
 ·rw[e1]at e
  injection e with e;exact aZ oM
theorem pN(a:Jy n x)(b:Nat):(flQ x n b).length<=b*4001:=by
 induction b with
 | zero=>simp[flQ]
 | succ b c =>
  rw[Ve,aQ];have:=fj a b;simp;omega
theorem sM(V:Nat)(d:Option Addr)(n e:Nat)(a:List Xe)(M B:Nat)(w:World)(ha:Hid (Xp w M B d a))(C:Hid (n=a.length))(hB:B<=w.heap.size)(o:Hid (Jy V a)) :
 Calls prog 26 #[.agg #[.int .i64 (V:Int),.slice d n e]] w fun g F=>∃O cc,g=.returned (.slice (some ⟨O,0,none⟩) (flQ a V n).length cc)/\Below w.heap.size w F/\XR F w.heap.size F.heap.size (some ⟨O,0,none⟩) (flQ a V n):=by
 have hn:n<=1000:=oP C.out o.okf.n2
 have a8:0<n:=oP C.out o.okf.n1
 obtain⟨i0,ay,a1,a2,a3⟩:=Xq Tryz.infoSetI';have t:Below w.heap.size w ((w.alloc (.cells #[.int .i64 (V:Int),.slice d n e] 25)).alloc (.cells #[] 55)):=Xb (Xb (Below.refl _ _) _) _;have ar:((w.alloc (.cells #[.int .i64 (V:Int),.slice d n e] 25)).alloc (.cells #[] 55)).cell? ⟨w.heap.size,0,none⟩=some (.int .i64 (V:Int)):=by simp[go_sem]
 have ax:((w.alloc (.cells #[.int .i64 (V:Int),.slice d n e] 25)).alloc (.cells #[] 55)).cell? ⟨w.heap.size,1,none⟩=some (.slice d n e):=by simp[go_sem]
 have z:((w.alloc (.cells #[.int .i64 (V:Int),.slice d n e] 25)).alloc (.cells #[] 55)).ownsRow (w.heap.size+1) 55 1 (.slice (some ⟨w.heap.size+1,0,none⟩) 0 0) 0 []:=by
  have h:=eI (base:=w.heap.size+1) (e:=55) (size:=1) (w.alloc (.cells #[.int .i64 (V:Int),.slice d n e] 25)) #[] 0 sP sP rfl;rw[aO]at h;exact h
 go_in
 go_wp2_with fail
 generalize (w.alloc _).alloc _=s at *;have ba:w.heap.size+1<s.heap.size:=(z.lt _ rfl).2;have J:=Xa (lw V d n e a M B s (Xa (ha.keep (t.mono hB))) C (oN t.size) o);refine J.mono ?_;rintro g k ⟨gO,cO,G,rfl,v,a6,Q⟩;have HG:=Xa Q;have bb:=v.size;have l:=Xa (Xg t v);have H:Hid (AsE k k (w.heap.size+1) s.heap.size (.slice (some ⟨w.heap.size+1,0,none⟩) 0 0) (flQ a V 0)):=Xa ⟨rfl,rfl,rfl,aA _,fun _ _ _=>rfl,fun q g=>bC (by injection g with g;exact g.symm),[],by
  have h:=TF.nil k s.heap.size;exact h,by
  have h:=uS z v;exact h⟩
 have aa:Hid (∀b,b<=n->(flQ a V b).length<=4001000):=Xa (fun b S=>by have:=pN o b;have:b*4001<=1000*4001:=jI _ oM;omega);clear v Q J z t ar ax
 go_wp2
 go_loopw [3,5] (fun u r wr=>∃b:Nat,b<=n/\r=.int .i64 b/\Hid (AsE k wr (w.heap.size+1) s.heap.size u (flQ a V b))) (fun _ r _=>n-(intOf r).toNat)
 case atStart=>exact⟨0,aN _,rfl,H⟩
 case round =>
  clear H;obtain⟨b,S,rfl,c⟩:=hrel;by_cases az:b<n
  ·obtain⟨y,h2,P⟩:=HG b az
   obtain⟨Y,D,E,X⟩:=t7 P (aA _);have L:=Xa D;obtain⟨vals,p,f⟩:=c.own;have HV:=Xa p;have ad:=Xa f;have K:=Xa (Ve a V b);have a4:=aa b S;have a5:=fj o b;have U:Y.length=(Tu a b).length+1:=by rw[D.len];simp
   have eO:=(Xc (c.fr gO (aI k _ y) oM)).trans y;have Z:=Xa (fun j u i=>(Xc (c.fr (G b) (aI k _ (E j u i)) oM)).trans (E j u i));have af:=Xa X;have a9:=c.size;obtain⟨m,A⟩:∃m,m=(Tu a b).length+1:=⟨_,rfl⟩;rw[<-A]at eO U K;have a7:m<=4001:=oM;have ab:Hid (((List.range m).map (UU a V b)).length=m):=Xa sP;rw[<-A]at L;clear p f D E X y h2 P A
   go_wp2_with (at_builtin;refine bT _ rfl _ _ 51 rfl (w.heap.size+1) 55 i0 (.agg #[.slice none 0 0]) 1 24 underlying51 ay a1 a2 a3 rfl vY _ _ _ rfl ad ⟨G b,0,none⟩ m m Y rfl (by rw[U,iN]) ?c1 ?c2 ?c3 ?c4 ?c5 ?_)
   case c1 =>
    intro j u i;have e2:(⟨G b,0,none⟩:Addr).add j=⟨G b,j,none⟩:=by rw[mK];simp
    rw[e2];exact Z j u i
   case c2 =>
    intro u hu;obtain⟨_,_,_,rfl⟩:=af u hu;rfl
   case c3=>unfold maxLen;omega
   case c4=>omega
   case c5=>omega
   intro v8 w8 W T _ R;have I:=Xa (c.push HV L T (by rw[ab.out];exact W) R);rw[<-K.out]at I;clear W T R
   go_wp2
   exact⟨⟨b+1,oM,gM,I⟩,by simp[intOf];omega⟩
  ·have ap:n=b:=oM
   subst ap;obtain⟨vals,p,f⟩:=c.own;have a0:0<(flQ a V n).length:=by
    obtain⟨q,rfl⟩:∃q,n=q+1:=⟨n-1,oM⟩;rw[Ve];simp;omega
   obtain⟨x,c8,rfl,_,_⟩:=Xm f a0;have HH:Hid (XR wr w.heap.size wr.heap.size (some ⟨x,0,none⟩) (flQ a V n)):=Xa (fun j i=>by
    obtain⟨aj,cj,e1,e2⟩:=p.at_ j i;refine⟨x,0,rfl,⟨oN ((f.lt _ rfl).1),(f.lt _ rfl).2⟩,aj,cj,by rw[aV];exact Jj f e1,fun r hi=>?_⟩;obtain⟨N,o',e3,al,aq⟩:=e2 r hi;exact⟨N,o',e3,⟨oM,oN c.size⟩,(Xc (c.fr N al.2 oM)).trans aq⟩)
   have ac:=Xa (show Below w.heap.size w wr from⟨c.os.trans l.os,c.tape.trans l.tape,c.output.trans l.output,oP l.size c.size,fun q hq=>(c.fr q oM oM).trans (l.block q hq)⟩);clear p f
   go_wp2
   go_ret
   exact⟨x,c8,rfl,ac,HH⟩
theorem rZ(h:verdP t x=0):XJ ⟨t,x⟩=true:=by
 cases hv:XJ ⟨t,x⟩with
 | true=>rfl
 | false=>rw[Uh hv]at h;exact absurd h vY
def okC(a:List Int)(k:Int)(q:Nat):Prop:=∀i (h:i<a.length),i<q->0<=a[i]/\a[i]<k
theorem x8(a:List Int)(k:Int):okC a k 0:=fun i _ h=>absurd h oM
theorem wK(h:okC l t n)(hq:n<l.length)(a:0<=l[n]/\l[n]<t):okC l t (n+1):=fun i b c=>by
 by_cases e:i=n
 ·subst e;exact a
 ·exact h i b oM
theorem Ac(h:okC l t l.length):∀c∈l,0<=c/\c<t:=fun c b=>by
 obtain⟨i,a,rfl⟩:=bR b;exact h i a a
theorem xu{v:Int}{xs:List Xe}{k:Int}(hq:n<l.length)(h:¬(0<=l[n]/\l[n]<k)):¬pcQ v xs l k:=fun a=>h (a.2.2.2.2.1 _ (aH hq))
theorem oG(h:n<l.length):colI l n=l[n]:=by
 unfold colI;rw[bF,aC h];rfl
theorem xy(ha:n<L.length)(e:L[n]=(m:Int)):UM l L n=colI l m:=by
 unfold UM;rw[bF,aC ha,gR,e];rfl
theorem zc(v:Int)(C:Option Addr)(n P:Nat)(d:List Xe)(aj I:Nat)(M:Option Addr)(e cc:Nat)(a:List Int)(Lc Bc:Nat)(k:Int)(w:World)(ha:Hid (Xp w aj I C d))(m:Hid (n=d.length))(hs:Hid (d.length+Xx d<=1048576))(hB:I<=w.heap.size)(hc:Hid (Xf w Lc Bc M a))(G:Hid (e=a.length))(ce:Bc<=w.heap.size)(ct:e<=1048576) :
 Calls prog 9 #[.agg #[.int .i64 v,.slice C n P],.slice M e cc,.int .i64 k] w fun F w'=>F=.returned (.bool (pcB v d a k))/\Below w.heap.size w w':=by
 have ad:=Xa (fun W (Q:Below w.heap.size w W)=>KT v C n P d aj I W (Xa (ha.keep (Q.mono hB))) m hs (oN Q.size));obtain⟨X,a0⟩:∃X,X=verdP v d:=⟨_,rfl⟩;rw[<-a0]at ad;have af:=Xa a0;clear a0
 go_in
 go_wp2_with fail
 refine(ad _ (Xb (Below.refl _ _) _)).mono ?_;rintro F s ⟨rfl,R⟩;obtain⟨ap,b0⟩:=bcell R;have k0:s.cell? ⟨w.heap.size,0,none⟩=some (.int .i64 v):=by rw[ap _ _ sP];simp
 have k1:s.cell? ⟨w.heap.size,1,none⟩=some (.slice C n P):=by rw[ap _ _ sP];simp
 have f:=Xa (Xg (Xb (Below.refl w.heap.size w) _) R);have cw:w.heap.size+1<=s.heap.size:=by have:=R.size;simp at this;omega
 clear ap b0 R ad;by_cases hv:X=0
 case neg =>
  have p:=Xa (Jd (v:=v) (xs:=d) (cs:=a) (k:=k) (fun h=>hv (af.trans h.1)));have bp:(X != 0)=true:=by rw[jJ];exact hv
  go_wp2
  go_ret
  exact⟨Xl p.symm,f⟩
 subst hv;by_cases cq:k<0
 ·have p:=Xa (Jd (v:=v) (xs:=d) (cs:=a) (k:=k) (fun h=>by have:=h.2.1;omega))
  go_wp2
  go_ret
  exact⟨Xl p.symm,f⟩
 by_cases cr:2000<k
 ·have p:=Xa (Jd (v:=v) (xs:=d) (cs:=a) (k:=k) (fun h=>by have:=h.2.2.1;omega))
  go_wp2
  go_ret
  exact⟨Xl p.symm,f⟩
 by_cases az:(e:Int)=v
 case neg =>
  have p:=Xa (Jd (v:=v) (xs:=d) (cs:=a) (k:=k) (fun h=>az (by rw[G.out];exact h.2.2.2.1)));have bp:((e:Int) != v)=true:=by rw[jJ];exact az
  go_wp2
  go_ret
  exact⟨Xl p.symm,f⟩
 subst az;have bp:((e:Int) != (e:Int))=false:=sP;have K:=Xa (XH (rZ af.symm));have cj:=K.vle;have a7:Hid (∀W,Below s.heap.size s W->∀(q:Nat)(h:q<e),∃b o,M=some ⟨b,o,none⟩/\W.cell? ⟨b,o+q,none⟩=some (.int .i64 (colI a q))):=Xa (fun W hW q hq=>by
  have z:q<a.length:=by rw[<-G.out];exact hq
  obtain⟨b,o,F,Q,h⟩:=hc q z;refine⟨b,o,F,?_⟩;rw[oG z];exact oB hW ((XU f oM).trans h) oM)
 have a4:=Xa (sM e C n P d aj I s (Xa (ha.keep (f.mono hB))) m (oN f.size) K)
 go_wp2
 go_loop [7] (fun i=>∃q:Nat,q<=e/\i=.int .i64 q/\Hid (okC a k q)) (fun i=>e-(intOf i).toNat)
 case atStart=>exact⟨0,aN _,rfl,Xa (x8 _ _)⟩
 case round =>
  obtain⟨q,hq,rfl,HQ⟩:=hrel;by_cases bm:q<e
  ·obtain⟨b,o,rfl,e0⟩:=a7 s (Below.refl _ _) q bm
   have z:q<a.length:=by rw[<-G.out];exact bm
   have aa:=Xa (fun h=>Jd (xu (v:=(e:Int)) (xs:=d) (k:=k) z h));have bf:=Xa (fun h=>wK HQ z h);have ba:=Xa (oG z);rw[<-ba.out]at aa bf;clear ba;generalize colI a q=a3 at *;have cv:(q:Int)<(e:Int):=oM;by_cases cf:a3<0
   ·go_wp2
    go_ret
    exact⟨Xl (aa oM).symm,f⟩
   by_cases ch:k<=a3
   ·go_wp2
    go_ret
    exact⟨Xl (aa oM).symm,f⟩
   ·go_wp2
    exact⟨⟨q+1,oM,gM,Xa (bf.out oM)⟩,by simp[intOf];omega⟩
  ·have b7:q=e:=oM
   subst b7;have a9:=Xa (Ac (by rw[<-G.out];exact HQ))
   go_wp2_with fail
   refine a4.mono ?_;rintro F l ⟨gA,cA,rfl,S,al⟩;have a5:=Xa (Xg f S);have a8:Hid (∀W,Below l.heap.size l W->∀(u:Nat)(h:u<q),∃b o,M=some ⟨b,o,none⟩/\W.cell? ⟨b,o+u,none⟩=some (.int .i64 (colI a u))):=Xa (fun W hW=>a7 W (S.trans (hW.mono S.size)));obtain⟨c,g⟩:∃c,c=flQ d q n:=⟨_,rfl⟩;have bs:=Xa g;rw[<-g]at al;rw[<-g];obtain⟨N,r⟩:∃N,N=c.length:=⟨_,rfl⟩;have cb:=Xa r;rw[<-r];have ci:N<=4001000:=by
    have h1:=pN K n;have h2:=K.okf.n2;have h3:=m.out;have h4:n*4001<=1000*4001:=jI _ oM;rw[<-g]at h1;omega
   have bt:Hid (∀A,Below l.heap.size l A->∀i,i<N->∃x E,A.cell? ⟨gA,i,none⟩=some (.slice x (c.getD i []).length E)/\∀j,j<(c.getD i []).length->∃D H u,x=some ⟨D,H,none⟩/\u<q/\A.cell? ⟨D,H+j,none⟩=some (.int .i64 ((u:Nat):Int))/\UM a (c.getD i []) j=colI a u):=Xa (fun A V i T=>by
    have y:i<c.length:=by rw[<-r];exact T
    obtain⟨O,o',e',bw,x,E,bi,b1⟩:=al i y;injection e' with e';injection e' with e1 e2;subst e1 e2;rw[aV]at bi;have aq:c.getD i []=c[i]:=by rw[bF,aC y];rfl
    rw[aq];have b8:=ly (xs:=d) (V:=q) (l:=c[i]) (by rw[<-m.out,<-g];exact aH y);refine⟨x,E,oB V bi bw.2,fun j U=>?_⟩;obtain⟨D,H,e3,bx,bl⟩:=b1 j U;obtain⟨u,hu,eu⟩:=b8.2 _ (aH U);rw[eu]at bl;exact⟨D,H,u,e3,hu,oB V bl bx.2,xy U eu⟩)
   have bv:Hid (∀i,i<N->(c.getD i []).length<=q):=Xa (fun i T=>by
    have y:i<c.length:=by rw[<-r];exact T
    have aq:c.getD i []=c[i]:=by rw[bF,aC y];rfl
    rw[aq];exact(ly (xs:=d) (V:=q) (l:=c[i]) (by rw[<-m.out,<-g];exact aH y)).1)
   have bq:Hid (∀i j b,i<N->j<(c.getD i []).length->b<j->UM a (c.getD i []) j=UM a (c.getD i []) b->pcB (q:Int) d a k=false):=Xa (fun i j b h1 h2 h3 h4=>Jd (wR (i:=i) (a:=j) (b:=b) (l:=c.getD i []) (by rw[g,m.out];rfl) (by rw[show((q:Int)).toNat=q from rfl,<-m.out,<-g,<-r];exact h1) h2 h3 h4));have br:Hid (okU a c N->pcB (q:Int) d a k=true):=Xa (fun h=>i9 ⟨af.symm,oM,oM,by rw[G.out],a9,(qh a9).1 (by rw[show((q:Int)).toNat=q from rfl,<-m.out,<-g,<-r];exact h)⟩);clear S al a4 g r HQ bs
   go_wp2
   go_loopw [9] (fun i wr=>∃i':Nat,i'<=N/\i=.int .i64 i'/\Hid (Below l.heap.size l wr)/\Hid (okU a c i')) (fun i _=>N-(intOf i).toNat)
   case atStart=>exact⟨0,aN _,rfl,Xa (Below.refl _ _),Xa (wO _ _)⟩
   case round =>
    obtain⟨i,T,rfl,Y,HU⟩:=hrel;by_cases ay:i<N
    ·have L:=Xa (fun A V=>bt A V i ay)
     have Z:=Xa (fun j b=>bq i j b ay);have bo:=bv i ay;have ab:=Xa (fun h=>yj (i:=i) HU h);obtain⟨a2,ax⟩:∃a1,a1=c.getD i []:=⟨_,rfl⟩;rw[<-ax]at Z ab bo;simp only[<-ax]at L;obtain⟨ln,ar⟩:∃a1,a1=a2.length:=⟨_,rfl⟩;rw[<-ar]at Z ab bo;simp only[<-ar]at L;clear ax ar;have cl:(i:Int)<(N:Int):=oM
     go_wp2
     go_loopw [10] (fun j wr=>∃j':Nat,j'<=ln/\j=.int .i64 j'/\Hid (Below l.heap.size l wr)/\Hid (okA a a2 j')) (fun j _=>ln-(intOf j).toNat)
     case atStart=>exact⟨0,aN _,rfl,Y,Xa (xe _ _)⟩
     case round =>
      clear Y;obtain⟨j,U,rfl,J,HA⟩:=hrel;obtain⟨x,E,x1,B⟩:=L wr J;by_cases bn:j<ln
      ·have cp:(j:Int)<(ln:Int):=oM
       clear B
       go_wp2_with fail
       clear x1
       go_loopw [11] (fun b wr=>∃O:Nat,O<=j/\b=.int .i64 O/\Hid (Below l.heap.size l wr)/\Hid (okB a a2 j O)) (fun b _=>j-(intOf b).toNat)
       case atStart=>exact⟨0,aN _,rfl,J,Xa (xL _ _ _)⟩
       case round =>
        clear J;obtain⟨b,Q,rfl,t,a6⟩:=hrel;by_cases b6:b<j
        ·obtain⟨x,E,x1,B⟩:=L wr t
         obtain⟨D,H,u1,rfl,b9,y1,q1⟩:=B j bn;obtain⟨b4,o4,u2,e4,ca,y2,q2⟩:=B b oM;injection e4 with e4;injection e4 with e5 e6;subst e5 e6;obtain⟨bc,oc,rfl,z1⟩:=a8 wr t u1 b9;obtain⟨cd,cx,e7,z2⟩:=a8 wr t u2 ca;injection e7 with e7;injection e7 with e8 e9;subst e8 e9;have bb:=Xa (Z.out j b bn b6);have bd:=Xa (fun h=>wm (b:=b) a6 h);rw[q1,q2]at bb bd;clear q1 q2 B;generalize colI a u1=c1 at *;generalize colI a u2=c2 at *;have i1:(b:Int)<(ln:Int):=oM;have i2:(u1:Int)<(q:Int):=oM;have i3:(u2:Int)<(q:Int):=oM;have i4:(b:Int)<(j:Int):=oM;by_cases he:c1=c2
         ·subst he
          go_wp2_with fail
          go_quiet (fail)
          go_wp2
          go_ret
          exact⟨Xl (bb (by trivial)).symm,Xg a5 (iX t _)⟩
         ·have ck:(c1==c2)=false:=by rw[iS];exact he
          go_wp2_with fail
          go_quiet (fail)
          go_wp2
          exact⟨⟨b+1,oM,gM,Xa (iX t _),Xa (bd.out he)⟩,by simp[intOf];omega⟩
        ·have bz:b=j:=oM
         subst bz
         go_wp2
         exact⟨⟨b+1,oM,gM,t,Xa (wN HA a6)⟩,by simp[intOf];omega⟩
      ·have b5:j=ln:=oM
       subst b5;clear B
       go_wp2
       exact⟨⟨i+1,oM,gM,J,Xa (ab.out HA)⟩,by simp[intOf];omega⟩
    ·have b2:i=N:=oM
     subst b2
     go_wp2
     go_ret
     exact⟨Xl (br HU).symm,Xg a5 Y⟩
theorem vu(ca ma:Option Addr)(x cc t mc:Nat)(bs ms:List UInt8)(w:World)(ha:Hid (Yx w 0 w.heap.size ca bs))(hx:Hid (x=bs.length))(hn:x<=9223372036854775807)(cz:Hid (Yx w 0 w.heap.size ma ms))(ep:Hid (t=ms.length))(hm:t<=9223372036854775807)(hO:Hid (Yy w))(hT:Hid (Yb w))(cj:Hid (Jn w))(ci:Hid (2 < w.heap.size)) :
 Calls prog 3 #[.slice ca x cc,.slice ma t mc] w fun h f=>h=.returned (.bool true)/\Below w.heap.size w f:=by
 by_cases eq:x<=1048576
 ·by_cases el:t<=1048576
  ·have c6:¬(1048576:Int)<x:=oM
   have em:¬(1048576:Int)<t:=oM;have J:=Xa (fun W (o:Below w.heap.size w W)=>vx ca x cc bs 0 w.heap.size W (Xa (ha.keep o)) hx eq o.size);have af:=Xa (fun W (o:Below w.heap.size w W)=>hO.keep o hO.1);have aj:=Xa (fun W (o:Below w.heap.size w W)=>hT.keep o hT.1);have bf:=Xa (fun W (o:Below w.heap.size w W)=>cj.of_block (o.block _ ci.out));have dl:=Xa (fun W (o:Below w.heap.size w W)=>cz.keep o);generalize drawF (WB bs)=dc at *;obtain⟨V,c⟩:=dc;dsimp only at J;clear ha hx hO hT cj ci cz
   go_in
   go_wp2_with fail
   refine(J.out w (Below.refl _ _)).mono ?_;rintro h F ⟨k,m1,c1,rfl,i⟩;have I:=Xa i
   clear i
   go_wp2_with fail
   have ay:Hid (Below w.heap.size w (F.alloc (.cells #[.int .i64 V,.slice k m1 c1] 25))):=Xa (Below.alloc I.low I.low.size _);have a3:Hid (Bx (F.alloc (.cells #[.int .i64 V,.slice k m1 c1] 25)) F.heap.size #[.int .i64 V,.slice k m1 c1] 25):=Xa (Bx.new _ _ _);have bx:Hid (Xp (F.alloc (.cells #[.int .i64 V,.slice k m1 c1] 25)) 0 F.heap.size k c):=Xa ((I.at_.keep (Below.alloc (Below.refl _ _) (aA _) _)).mono (aN _) (aA _));have Y:=Xa I.len;have a8:=Xa I.tot;clear I;generalize F.alloc _=wf at *;generalize F.heap.size=j at *;refine(J.out wf ay.out).mono ?_;rintro h S ⟨a2,m2,c2,rfl,i⟩;have s:=Xa i
   have n:=Xa (ay.trans (i.low.mono ay.size));have u:=Xa (a3.keep (i.low.block _ a3.lt));have ax:=Xa ((bx.keep (B:=j) (i.low.mono (dU a3.lt))));clear i ay a3 bx
   go_wp2_with fail
   by_cases Q:verdP V c=0
   ·obtain⟨a,ed⟩:=y8 (TX Q).1
    subst ed;have HV:=Xa Q;have bi:=Xa (TX HV.out).1;have Z:=Xa (XH bi.out);have ee:a<=2000:=Z.vle;obtain⟨bo,bq⟩:=zv HV.out;have b8:Hid (YX (X8 c) m2 ((List.range c.length).map (idomP ((List.range c.length).map (Zq (X8 c) c.length))))):=Xa (by rw[s.len];exact Z.okf.model);have bb:=Xa (th a a2 m2 c2 c wf.heap.size S.heap.size S _ (Xa s.at_) (Xa s.len) (Xa s.tot) (aA _) (Xa (af.out _ n.out)) (Xa (aj.out _ n.out)) (Xa (bf.out _ n.out)) HV b8);have e9:Kq (fun _=>-1) (Ko c a (XT ((List.range c.length).map (idomP ((List.range c.length).map (Zq (X8 c) c.length)))) m2 0))=ocC a c:=by unfold ocC;rw[s.len]
    rw[e9,bo]at bb;rw[bo]at bq;have dk:Hid (∀cs br,pcQ (a:Int) c cs br->(mxL (Zw c a c.length):Int)<=br):=Xa (fun cs br O=>by have:=xO O;rwa[dM]at this);have e6:mxL (Zw c a c.length)<=2000:=aJ qt ee;have ds:=Xa (fun al U W B C=>wj a k m1 c1 c al U W B Y a8 C bi Z);have dn:=Xa (fun d1 t d4 al U W B C h3 h4 h5 h6=>x6 a d1 t d4 c al U W B C h3 h4 h5 h6 bi Z);generalize mxL (Zw c a c.length)=b at *;generalize ocC a c=D at *;have b9:=Xa bq;clear bq bo e9 Q b8;refine bb.mono ?_;rintro h m ⟨p,rfl,q,ej,bp⟩;have HS:Hid (OlS w (m.alloc (.cells #[.int .i64 0,.slice (some ⟨p,0,none⟩) a a,.int .i64 (b:Int)] 29)) (m.alloc (.cells #[.int .i64 0,.slice (some ⟨p,0,none⟩) a a,.int .i64 (b:Int)] 29)).heap.size j m.heap.size (a:Int) c k m1 c1 p a (b:Int) D):=Xa (by
     have k1:Below S.heap.size S (m.alloc (.cells #[.int .i64 0,.slice (some ⟨p,0,none⟩) a a,.int .i64 (b:Int)] 29)):=Below.alloc q q.size _;have fi:(m.alloc (.cells #[.int .i64 0,.slice (some ⟨p,0,none⟩) a a,.int .i64 (b:Int)] 29)).heap.size=m.heap.size+1:=sP;have ef:=u.lt;have fs:=q.size;have es:=n.size;have fc:=bp.lt;refine⟨n.trans (k1.mono es),oM,aA _,oM,oM,oM,u.keep (k1.block _ ef),Bx.new _ _ _,?_,bp.alloc _⟩;exact(ax.keep (k1.mono oM)).mono (aA _) oM)
    clear q ej bp n u ax s bb
    go_wp2_with fail
    generalize (m.alloc (.cells #[.int .i64 0,.slice (some ⟨p,0,none⟩) a a,.int .i64 (b:Int)] 29)).heap.size=G at *;generalize m.alloc _=y at *;generalize m.heap.size=l at *;obtain⟨g,q1,q2,d,e⟩:=HS.cells;have fe:m1<=1000:=oP Z.okf.n2 Y.out
    refine Y7 (fun f=>f.cell? ⟨l,0,none⟩=some (.int .i64 0)/\f.cell? ⟨j,0,none⟩=some (.int .i64 (a:Int))/\f.cell? ⟨j,1,none⟩=some (.slice k m1 c1)) (fun hHeld=>?_);refine Xn 0 ?_;refine Xn 1 ?_;refine Xs 2 (fun K hK=>?_);go_simp;refine hK _ _ kP (fun hHeld=>?_);clear hK;refine Xs 3 (fun K hK=>?_);go_simp
    go_at_call 6
    refine(KT (a:Int) k m1 c1 c 0 G _ (Xa HS.drew.at_) Y a8 HS.drew.bd).mono ?_;rw[HV.out];rintro h T ⟨rfl,E⟩;have ac:=Xa (HS.drew.next E);clear E HS g q1 q2 d e;obtain⟨g,q1,q2,d,e⟩:=ac.cells;refine hK _ _ ⟨g,d,e⟩ (fun hHeld=>?_);clear hK;refine Xn 4 ?_;refine Yq ?_;go_wp2;have e0:((b:Int) != (b:Int))=false:=sP;refine Y7 (fun f=>f.cell? ⟨l,2,none⟩=some (.int .i64 (b:Int))/\f.cell? ⟨j,0,none⟩=some (.int .i64 (a:Int))/\f.cell? ⟨j,1,none⟩=some (.slice k m1 c1)) (fun hHeld=>?_);refine Xn 0 ?_;refine Xn 1 ?_;refine Xs 2 (fun K hK=>?_);go_simp;refine hK _ _ kP (fun hHeld=>?_);clear hK;refine Xs 3 (fun K hK=>?_);go_simp
    go_at_call 7
    refine(ds.out 0 G _ (Xa ac.drew.at_) ac.drew.bd).mono ?_;rintro h w6 ⟨rfl,cq⟩;have a5:=Xa (ac.drew.next cq);clear cq ac g q1 q2 d e;obtain⟨g,q1,q2,d,e⟩:=a5.cells;refine hK _ _ ⟨q2,d,e⟩ (fun hHeld=>?_);clear hK;refine Xn 4 ?_;refine Xn 5 ?_;refine Xn 6 ?_;refine Xn 9 ?_;refine Xn 10 ?_;refine Xs 7 (fun K hK=>?_);go_simp
    go_at_call 4
    refine(J.out _ a5.low).mono ?_;rintro h w7 ⟨a7,m7,c7,rfl,i⟩;have a0:=Xa i
    have ad:=Xa (a5.next i.low);clear i a5 g q1 q2 d e;obtain⟨g,q1,q2,d,e⟩:=ad.cells;refine hK _ _ ⟨q2,d,e⟩ (fun hHeld=>?_);clear hK;refine Xs 8 (fun K hK=>?_);go_simp
    go_at_call 8
    refine(dn.out a7 m7 c7 w6.heap.size w7.heap.size w7 (Xa a0.at_) (Xa a0.len) (Xa a0.tot) (aA _) (Xa (af.out _ ad.low)) (Xa (aj.out _ ad.low))).mono ?_;rintro h w8 ⟨rfl,cr⟩;have M:=Xa (ad.next cr);clear cr ad a0 g q1 q2 d e;obtain⟨g,q1,q2,d,e⟩:=M.cells;refine hK _ _ ⟨q2,d,e⟩ (fun hHeld=>?_);clear hK;refine Xn 11 ?_;refine Xn 12 ?_;refine Yq ?_;go_wp2;have b7:Hid (pcB (a:Int) c ((List.range a).map D) (b:Int)=true):=Xa (i9 b9.out);refine Y7 (fun f=>f.cell? ⟨l,1,none⟩=some (.slice (some ⟨p,0,none⟩) a a)/\f.cell? ⟨l,2,none⟩=some (.int .i64 (b:Int))/\f.cell? ⟨j,0,none⟩=some (.int .i64 (a:Int))/\f.cell? ⟨j,1,none⟩=some (.slice k m1 c1)) (fun hHeld=>?_);refine Xn 1 ?_;refine Xn 2 ?_;refine Xn 3 ?_;refine Xn 4 ?_;refine Xs 0 (fun K hK=>?_);go_simp;refine hK _ _ kP (fun hHeld=>?_);clear hK;refine Xs 5 (fun K hK=>?_);go_simp
    go_at_call 9
    refine(zc (a:Int) k m1 c1 c 0 G (some ⟨p,0,none⟩) a a ((List.range a).map D) 0 w8.heap.size (b:Int) _ (Xa M.drew.at_) Y a8 M.drew.bd (Xa M.drew.ia.ints) (Xa sP) (aA _) oM).mono ?_;rw[b7.out];rintro h w9 ⟨rfl,ct⟩;have a6:=Xa (M.drew.next ct);clear ct M g q1 q2 d e;obtain⟨g,q1,q2,d,e⟩:=a6.cells;refine hK _ _ ⟨q1,q2,d,e⟩ (fun hHeld=>?_);clear hK;refine Xn 6 ?_;refine Xn 7 ?_;refine Xn 8 ?_;refine Xn 10 ?_;refine Xn 11 ?_;refine Xn 13 ?_;refine Xn 14 ?_;refine Xs 9 (fun K hK=>?_);go_simp
    go_at_call 4
    refine(J.out _ a6.low).mono ?_;rintro h bt ⟨d2,eu,d5,rfl,i⟩;have az:=Xa i
    have a4:=Xa (a6.next i.low);clear i a6 g q1 q2 d e;obtain⟨g,q1,q2,d,e⟩:=a4.cells;refine hK _ _ ⟨q1,q2,d,e⟩ (fun hHeld=>?_);clear hK;refine Xs 12 (fun K hK=>?_);go_simp
    go_at_call 11
    refine(lf (some ⟨p,0,none⟩) a a ((List.range a).map D) 0 bt.heap.size bt (Xa a4.ia.ints) (Xa sP) oM (aA _)).mono ?_;rintro h c9 ⟨eb,db,rfl,a9,eg,cw⟩;have b4:=Xa (cw.ints);have b2:Hid ((List.range a).map (fun ap=>((List.range a).map D).getD ap 0)=(List.range a).map D):=Xa (by
     apply gH;intro fx hu;have hu:=bE.1 hu;rw[bF,dX,iQ hu];rfl)
    have bz:=Xa (az.at_.keep a9);have b6:=Xa az.len;have cf:=Xa az.tot;have c8:=a9.size;have L:=Xa (a4.next a9);clear a9 cw eg az a4 g q1 q2 d e;obtain⟨g,q1,q2,d,e⟩:=L.cells;refine hK _ _ ⟨q1,q2,d,e⟩ (fun hHeld=>?_);clear hK;refine Xs 15 (fun K hK=>?_);go_simp
    go_at_call 10
    refine(pV (a:Int) d2 eu d5 c w9.heap.size bt.heap.size (some ⟨eb,0,none⟩) a db ((List.range a).map D) 0 c9.heap.size (b:Int) c9 bz b6 cf c8 (Xa (af.out _ L.low)) (Xa (aj.out _ L.low)) (Xa (bf.out _ L.low)) (Xa (by rw[<-b2.out];exact b4.out)) (Xa sP) (aA _) oM).mono ?_;rw[b7.out];rintro h da ⟨rfl,ck⟩;have aa:=Xa (L.next ck);clear ck L bz b6 cf b4 b2 g q1 q2 d e c8;obtain⟨g,q1,q2,d,e⟩:=aa.cells;refine hK _ _ ⟨q1,q2,d,e⟩ (fun hHeld=>?_);clear hK;refine Xn 16 ?_;refine Xn 17 ?_;refine Yq ?_
    go_wp2_with fail
    refine(lf (some ⟨p,0,none⟩) a a ((List.range a).map D) 0 da.heap.size da (Xa aa.ia.ints) (Xa sP) oM (aA _)).mono ?_;rintro h f0 ⟨N,bw,rfl,cl,cv,cx⟩;have b5:=Xa cx;have cd:=Xa (aa.next cl);have ei:G<=N:=aJ aa.bd cv;clear cl cx cv aa g q1 q2 d e;go_wp2
    go_loopw [8] (fun ap wr=>∃(v:Nat)(H:Nat->Int),v<=a/\ap=.int .i64 v/\Hid (OlS w wr G j l (a:Int) c k m1 c1 p a (b:Int) D)/\Hid (IaAt wr N a bw H)) (fun ap _=>a-(intOf ap).toNat)
    case atStart=>exact⟨0,_,aN _,rfl,cd,b5⟩
    case round =>
     obtain⟨v,H,fr,rfl,A,z⟩:=hrel;clear cd b5;obtain⟨g,q1,q2,d,e⟩:=A.cells;by_cases ba:v<a
     ·have ek:(v:Int)<(a:Int):=oM
      have e8:1<=b:=by
       have:=b9.2.2.2.2.1 (D v) (aY.2 ⟨v,bE.2 ba,rfl⟩);omega
      have qv:=z.cell ba;have fz:=z.frozen v;have er:IntKind.i64.wrap ((b:Int)-1)=(b:Int)-1:=by rw[dF];omega
      have df:Hid (∀W,Below w.heap.size w W->Calls prog 12 #[.slice ma t mc,.int .i64 (v:Int),.int .i64 ((b:Int)-1)] W fun h f=>∃aq:Nat,h=.returned (.int .i64 (aq:Int))/\Below W.heap.size W f):=Xa (fun W o=>by
       have O:=xx ma t mc ms v (b-1) 0 w.heap.size W (Xa (dl.out W o)) ep el oM oM;rw[show((b-1:Nat):Int)=(b:Int)-1 by omega]at O;refine O.mono ?_;rintro h f ⟨aq,B,_,C⟩;exact⟨aq,B,C⟩)
      have fa:0<=(b:Int)-1:=oM;generalize ch:H v=ar at *;have ez:=Xa ch;clear ch;go_wp2;by_cases R:ar=(b:Int)-1
      ·have et:(ar==(b:Int)-1)=true:=by simpa using R
       have HZ:=Xa R;clear R;refine Y7 (fun f=>f.cell? ⟨l,2,none⟩=some (.int .i64 (b:Int))/\f.cell? ⟨N,v,none⟩=some (.int .i64 ar)) (fun hHeld=>?_);refine Xn 0 ?_;refine Xn 1 ?_;refine Xn 2 ?_;refine Xn 3 ?_;refine Xn 4 ?_;refine Xn 5 ?_;refine Xn 6 ?_;refine Xn 7 ?_;refine Yq ?_
       go_wp2_with fail
       refine(df.out _ A.drew.low).mono ?_;rintro h ey ⟨aq,rfl,bn⟩;have dw:=Xa (A.drew.next bn);have bd:=Xa (z.drew.of_block (bn.block _ z.drew.lt));clear bn fz qv;have fz:=bd.frozen v;have qv:=bd.cell ba;go_wp2;exact⟨⟨v+1,_,oM,gM,Xa (dw.keep ((Below.refl G ey).setCell (p:=⟨N,v,none⟩) ei _)),Xa (bd.set v (aq:Int) ba)⟩,by simp[intOf];omega⟩
      ·have et:(ar==(b:Int)-1)=false:=by simpa using R
       have HZ:=Xa R;clear R;refine Y7 (fun f=>f.cell? ⟨l,2,none⟩=some (.int .i64 (b:Int))/\f.cell? ⟨N,v,none⟩=some (.int .i64 ar)) (fun hHeld=>?_);refine Xn 0 ?_;refine Xn 1 ?_;refine Xn 2 ?_;refine Xn 3 ?_;refine Xn 4 ?_;refine Xn 5 ?_;refine Xn 6 ?_;refine Xn 7 ?_;refine Yq ?_;go_wp2;exact⟨⟨v+1,H,oM,gM,Xa A.drew,Xa z.drew⟩,by simp[intOf];omega⟩
     ·have ek:¬(v:Int)<(a:Int):=oM
      by_cases P:b=0
      ·have ec:((b:Int)==0)=true:=by subst P;rfl
       have H0:=Xa P;clear P;go_wp2;refine Y7 (fun f=>f.cell? ⟨l,2,none⟩=some (.int .i64 (b:Int))) (fun hHeld=>?_);refine Xn 0 ?_;refine Xn 1 ?_;refine Xn 2 ?_;refine Xn 3 ?_;refine KH 4 ?_;refine KH 5 ?_;refine KH 6 ?_;refine KH 7 ?_;refine KH 8 ?_;refine KH 9 ?_;refine KH 10 ?_;refine KH 11 ?_;refine Xn 12 ?_;refine Xn 13 ?_;refine Yq ?_;go_wp2
       go_ret
       exact⟨rfl,A.drew.low⟩
      ·have ec:((b:Int)==0)=false:=by simpa using P
       have du:Hid (pcB (a:Int) c ((List.range a).map H) ((b:Int)-1)=false):=Xa (Jd (fun O=>by have:=dk.out _ _ O;omega));have H0:=Xa P;have e7:0<=(b:Int)-1:=oM;have er:IntKind.i64.wrap ((b:Int)-1)=(b:Int)-1:=by rw[dF];omega
       clear P;go_wp2;refine Y7 (fun f=>f.cell? ⟨l,2,none⟩=some (.int .i64 (b:Int))) (fun hHeld=>?_);refine Xn 0 ?_;refine Xn 1 ?_;refine Xn 2 ?_;refine Xn 3 ?_;refine Xn 4 ?_;refine Xn 6 ?_;refine Xn 7 ?_;refine Xn 8 ?_;refine Xn 9 ?_;refine Xs 5 (fun K hK=>?_);go_simp
       go_at_call 4
       refine(J.out _ A.drew.low).mono ?_;rintro h bv ⟨d3,ev,ea,rfl,i⟩;have bc:=Xa i
       have ab:=Xa (A.drew.next i.low);have dj:=Xa (z.drew.of_block (i.low.block _ z.drew.lt));clear i g q1 q2 d e;obtain⟨g,q1,q2,d,e⟩:=ab.cells;refine hK _ _ q2 (fun hHeld=>?_);clear hK;refine Xs 10 (fun K hK=>?_);go_simp
       go_at_call 10
       refine(pV (a:Int) d3 ev ea c wr.heap.size bv.heap.size (some ⟨N,0,none⟩) a bw ((List.range a).map H) 0 bv.heap.size ((b:Int)-1) bv (Xa bc.at_) (Xa bc.len) (Xa bc.tot) (aA _) (Xa (af.out _ ab.low)) (Xa (aj.out _ ab.low)) (Xa (bf.out _ ab.low)) (Xa dj.ints) (Xa sP) (aA _) oM).mono ?_;rw[du.out];rintro h f7 ⟨rfl,cp⟩;have ce:=Xa (ab.next cp);clear cp g q1 q2 d e;obtain⟨g,q1,q2,d,e⟩:=ce.cells;refine hK _ _ q2 (fun hHeld=>?_);clear hK;refine Xn 11 ?_;refine Xn 12 ?_;refine Xn 13 ?_;refine Yq ?_;go_wp2
       go_ret
       exact⟨rfl,ce.low⟩
   ·have b1:=Xa (uL V a2 m2 c2 c wf.heap.size S.heap.size S (Xa s.at_) (Xa s.len) (Xa s.tot) (aA _) (Xa (af.out _ n.out)) (Xa (aj.out _ n.out)) Q)
    have d0:=Xa (fun al U W B C=>KT V k m1 c1 c al U W B Y a8 C);generalize verdP V c=r at *;have fl:(r != 0)=true:=by simpa using Q
    have fq:(r != r)=false:=sP;refine b1.mono ?_;rintro h m ⟨rfl,q⟩;have b0:=Xa (Below.alloc (n.trans (q.mono n.size)) (aJ n.size q.size) (.cells #[.int .i64 r,.slice none 0 0,.int .i64 0] 29));have X:=Xa ((u.keep (q.block _ u.lt)).box (.cells #[.int .i64 r,.slice none 0 0,.int .i64 0] 29));have dd:=Xa ((ax.keep (B:=j) (q.mono (dU u.lt))).keep (Below.alloc (Below.refl j m) (aJ (dU u.lt) q.size) (.cells #[.int .i64 r,.slice none 0 0,.int .i64 0] 29)));have bl:Hid (Bx (m.alloc (.cells #[.int .i64 r,.slice none 0 0,.int .i64 0] 29)) m.heap.size #[.int .i64 r,.slice none 0 0,.int .i64 0] 29):=Xa (Bx.new _ _ _);clear q n u ax s b1 Q
    go_wp2_with fail
    generalize m.alloc _=y at *;generalize m.heap.size=l at *;have g:Cl y l 0 (.int .i64 r):=Bx.cell bl.out rfl;have d:Cl y j 0 (.int .i64 V):=Bx.cell X.out rfl;have e:Cl y j 1 (.slice k m1 c1):=Bx.cell X.out rfl;refine Y7 (fun f=>f.cell? ⟨l,0,none⟩=some (.int .i64 r)/\f.cell? ⟨j,0,none⟩=some (.int .i64 V)/\f.cell? ⟨j,1,none⟩=some (.slice k m1 c1)) (fun hHeld=>?_);refine Xn 0 ?_;refine Xn 1 ?_;refine Xs 2 (fun K hK=>?_);go_simp;refine hK _ _ kP (fun hHeld=>?_);clear hK;refine Xs 3 (fun K hK=>?_);go_simp
    go_at_call 6
    refine(d0.out 0 j _ (Xa (dd.keep (Below.refl _ _).drew)) (dU X.lt)).mono ?_;rintro h T ⟨rfl,E⟩;have di:=Xa (b0.trans ((Below.refl y.heap.size y).drew.trans E |>.mono b0.size));have bm:=Xa ((bl.keep (w':=y.drew) rfl).keep (E.block _ bl.lt));have b3:=Xa ((X.keep (w':=y.drew) rfl).keep (E.block _ X.lt));clear E g d e;have g:Cl T l 0 (.int .i64 r):=Bx.cell bm.out rfl;have q1:Cl T l 1 (.slice none 0 0):=Bx.cell bm.out rfl;have q2:Cl T l 2 (.int .i64 0):=Bx.cell bm.out rfl;have d:Cl T j 0 (.int .i64 V):=Bx.cell b3.out rfl;have e:Cl T j 1 (.slice k m1 c1):=Bx.cell b3.out rfl;refine hK _ _ ⟨g,d,e⟩ (fun hHeld=>?_);clear hK;refine Xn 4 ?_;refine Yq ?_;go_wp2
    go_ret
    exact⟨rfl,di.out⟩
  ·have c6:¬(1048576:Int)<x:=oM
   have em:(1048576:Int)<t:=oM
   go_in
   go_wp2
   go_ret
   exact⟨rfl,Below.refl _ _⟩
 ·have c6:(1048576:Int)<x:=oM
  go_in
  go_wp2
  go_ret
  exact⟨rfl,Below.refl _ _⟩
section
variable {H : Type} {enc : TypeId × Value -> H} {P : Program} {w : World} {base : Nat} {spare : Nat -> Bool} {held : Bool}
theorem Jh{a:Addr}{v:Value}(h:w.cell? a=some v):a.block<w.heap.size:=by
 unfold World.cell? at h;split at h
 ·rename_i c _ _ b
  exact(aS.1 b).1
 ·cases h
theorem tT{α:Type}[Inhabited α]{y h:TypeId}{C s:Nat}{r:List Value}{x:DataW H × List MemPlace}(L:P.underlying y=some (.slice h))(J:P.cellsOf h=s)(u:0<s)(Q:Nat->Nat->α->Prop)
 (hQ:∀b o a n A,(∀j,j<s->w.cell? ⟨b,o+j,none⟩=a[j]?)->a.length=s->DataW.trod enc P w base spare held n h a=some A->∃x,Q b o x)
 (E:DataW.trod enc P w base spare held C y r=some x) :
 ∃(g:Option Addr)(p:List α)(z:Nat),r=[.slice g p.length z]/\p.length<=maxLen/\∀i (c:i<p.length),∃b o,g=some ⟨b,o,none⟩/\b<w.heap.size/\Q b (o+i*s) p[i]:=by
 rcases open_slice L E with⟨rfl,_⟩ | ⟨g,len,cap,m,n,D,Pl,rfl,_,hl,hm,hmm,_,l⟩
 ·exact⟨none,[],0,rfl,aN _,fun i c=>absurd c sP⟩
 rw[J]at l;have M:len<=m:=by rw[hmm];split<;>omega
 have q:∀i,i<len->∃a,a.length=s/\(∀j,j<s->w.cell? ((g.add (i*s)).add j)=a[j]?)/\DataW.trod enc P w base spare held n h a=some (D i,Pl i):=fun i c=>by
  obtain⟨a,e,d⟩:=l i oM;obtain⟨_,f,k⟩:=World.cells?_some e;exact⟨a,f,k,d⟩
 obtain⟨b,o,v⟩:=g;by_cases I:len=0
 ·subst I
  exact⟨some ⟨b,o,v⟩,[],cap,rfl,aN _,fun i c=>absurd c sP⟩
 have K:v=none:=by
  obtain⟨a,e,d,_⟩:=q 0 oM;have f:=d 0 u;rw[aC oM]at f;simpa [Addr.add]using World.cell?_spot f
 subst K;obtain⟨B,F⟩:=choose_lt (α:=α) (n:=len) (p:=fun i x=>b<w.heap.size/\Q b (o+i*s) x) (fun i c=>by
  obtain⟨a,e,d,f⟩:=q i c;have k:=fun j G=>by
   have:=d j G;rw[Addr.add_mid,Addr.add_mid]at this;exact this
  obtain⟨x,l⟩:=hQ b (o+i*s) a n _ k e f;have t:=k 0 u;rw[aC oM]at t;exact⟨x,Jh t,l⟩)
 refine⟨some ⟨b,o,none⟩,(List.range len).map B,cap,sP,by simp;omega,fun i c=>?_⟩;simp only[bK,gI]at c;obtain⟨e,d⟩:=F i c;exact⟨b,o,rfl,e,by simpa using d⟩
end
section
variable {H : Type} {enc : TypeId × Value -> H} {w : World} {base : Nat} {spare : Nat -> Bool} {held : Bool}
theorem j6{a:List Value}{k:Nat}{v:Value}(h:(a.drop k).take 1=[v]):a[k]?=some v:=by
 have b:((a.drop k).take 1)[0]?=some v:=by rw[h];rfl
 rw[fH oM,jA]at b;simpa using b
theorem uN{a:List Value}{k m j:Nat}{v:Value}(h:((a.drop k).take m)[j]?=some v)(b:j<m):a[k+j]?=some v:=by
 rw[fH b,jA]at h;exact h
end
section
theorem own:ownKnob Tryz.prog.godebug=none:=vZ
theorem gOps : Tryz.prog.globalNamed "loop.example/s0031/impl.opForms" = some 0 := by kernel_rfl
theorem gTers : Tryz.prog.globalNamed "loop.example/s0031/impl.termForms" = some 1 := by kernel_rfl
theorem gTz : Tryz.prog.globalNamed "math/bits.deBruijn64tab" = some 2 := by kernel_rfl
theorem tTz:(Tryz.prog.globals[2]?).map (·.type)=some 192:=vZ
theorem n7:Tryz.prog.cellsOf 5=1:=vZ
theorem Cs:(Tryz.prog.globals[0]?).map (·.type)=some 160:=vZ
theorem BU:(Tryz.prog.globals[1]?).map (·.type)=some 190:=vZ
theorem xT:Tryz.prog.cellsOf 159=5:=vZ
theorem uZ:Tryz.prog.cellsOf 189=4:=vZ
theorem tE:Tryz.prog.cellsOf 4=1:=vZ
theorem uG:Tryz.prog.cellsOf 9=1:=vZ
variable {H : Type} {enc : TypeId × Value -> H} {w : World} {base : Nat} {spare : Nat -> Bool} {held : Bool}
theorem Ta{n k:Nat}{a:List Value}{y:DataW H × List MemPlace}{b:Bool}(h:DataW.trod enc Tryz.prog w base spare held n 4 ((a.drop k).take (Tryz.prog.cellsOf 4))=some y)(e:y.1=.lit (.bool b)):a[k]?=some (.bool b):=by
 rw[tE]at h;obtain⟨z,c,d⟩:=DataW.trod_bool Tryz.underlying4 h;rw[d]at e;cases e;exact j6 c
theorem qF{n k:Nat}{a:List Value}{y:DataW H × List MemPlace}{s:List UInt8}(h:DataW.trod enc Tryz.prog w base spare held n 9 ((a.drop k).take (Tryz.prog.cellsOf 9))=some y)(e:y.1=.lit (.string s)):a[k]?=some (.string (K8 s)):=by
 rw[uG]at h;obtain⟨z,b,c,_⟩:=DataW.trod_string Tryz.underlying9 h;rw[c]at e;have e1:z.data.toList=s:=by simpa using e
 have e2:K8 s=z:=by rw[<-e1];cases z;rfl
 rw[e2];exact j6 b
theorem Td{P:Program}{b:Array Field}{a:List (DataW H × List MemPlace)}{n:Nat}{c:List Value}
 (o:∀(i:Nat)(f:Field),b[i]?=some f->DataW.trod enc P w base spare held n f.type ((c.drop f.offset).take (P.cellsOf f.type))=a[i]?) (p:a.length=b.size) (i:Nat) {f:Field} (k:b[i]?=some f) {e:List (DataW H)} (l:a.map (·.1)=e) {d:DataW H} (m:e[i]?=some d) :
 ∃y,DataW.trod enc P w base spare held n f.type ((c.drop f.offset).take (P.cellsOf f.type))=some y/\y.1=d:=by
 have g:=o i f k;have h:i<a.length:=by rw[p];exact(aS.1 k).1
 rw[aC h]at g;refine⟨_,g,?_⟩;have j:(a.map (·.1))[i]?=some d:=by rw[l];exact m
 rw[dX,aC h]at j;simpa using j
theorem dt{a:List Value}{k m j:Nat}{v:Value}(h:((a.drop k).take m)[j]?=some v)(b:j<m):a[k+j]?=some v:=uN h b
theorem Bk{A:Nat}{c:List Value}{k:List (DataW H)}{B:List MemPlace}(u:DataW.trod enc Tryz.prog w base spare held A 160 c=some (.agg k,B))(i:Nat)(x:i<14)(s:List UInt8)(g f b m:Bool)
 (y:k[i]?=some (.agg [.lit (.string s),.lit (.bool g),.lit (.bool f),.lit (.bool b),.lit (.bool m)])) :
 c[i*5]?=some (.string (K8 s))/\c[i*5+1]?=some (.bool g)/\c[i*5+2]?=some (.bool f)/\c[i*5+3]?=some (.bool b)/\c[i*5+4]?=some (.bool m):=by
 obtain⟨l,D,_,j,_,C,v⟩:=mE Tryz.underlying160 u;have h:=v i x;rw[aC oM,xT]at h;simp only[jC,kC]at j;have a:(l[i]' oM).1=.agg [.lit (.string s),.lit (.bool g),.lit (.bool f),.lit (.bool b),.lit (.bool m)]:=by
  have:(l.map (·.1))[i]?=some (.agg [.lit (.string s),.lit (.bool g),.lit (.bool f),.lit (.bool b),.lit (.bool m)]):=by rw[<-j.1];exact y
  rw[dX,aC oM]at this;simpa using this
 obtain⟨L,E,_,z,_,e,d⟩:=DataW.trod_struct Tryz.underlying159 h;rw[z]at a;simp only[kC]at a;obtain⟨F,o,n⟩:=Td d e 0 rfl a rfl;obtain⟨G,p,e1⟩:=Td d e 1 rfl a rfl;obtain⟨I,q,e2⟩:=Td d e 2 rfl a rfl;obtain⟨J,r,e3⟩:=Td d e 3 rfl a rfl;obtain⟨K,t,e4⟩:=Td d e 4 rfl a rfl;exact⟨dt (j:=0) (qF (k:=0) o n) vY,dt (Ta (k:=1) p e1) vY,dt (Ta (k:=2) q e2) vY,dt (Ta (k:=3) r e3) vY,dt (Ta (k:=4) t e4) vY⟩
theorem zH{y:Nat}{b:List Value}{h:List (DataW H)}{z:List MemPlace}(q:DataW.trod enc Tryz.prog w base spare held y 190 b=some (.agg h,z))(i:Nat)(u:i<4)(s:List UInt8)(c t o:Bool)
 (v:h[i]?=some (.agg [.lit (.string s),.lit (.bool c),.lit (.bool t),.lit (.bool o)])) :
 b[i*4]?=some (.string (K8 s))/\b[i*4+1]?=some (.bool c)/\b[i*4+2]?=some (.bool t)/\b[i*4+3]?=some (.bool o):=by
 obtain⟨j,B,_,g,_,A,r⟩:=mE Tryz.underlying190 q;have f:=r i u;rw[aC oM,uZ]at f;simp only[jC,kC]at g;have a:(j[i]' oM).1=.agg [.lit (.string s),.lit (.bool c),.lit (.bool t),.lit (.bool o)]:=by
  have:(j.map (·.1))[i]?=some (.agg [.lit (.string s),.lit (.bool c),.lit (.bool t),.lit (.bool o)]):=by rw[<-g.1];exact v
  rw[dX,aC oM]at this;simpa using this
 obtain⟨I,C,_,x,_,e,d⟩:=DataW.trod_struct Tryz.underlying189 f;rw[x]at a;simp only[kC]at a;obtain⟨D,l,k⟩:=Td d e 0 rfl a rfl;obtain⟨E,m,e1⟩:=Td d e 1 rfl a rfl;obtain⟨F,n,e2⟩:=Td d e 2 rfl a rfl;obtain⟨G,p,e3⟩:=Td d e 3 rfl a rfl;exact⟨dt (j:=0) (qF (k:=0) l k) vY,dt (Ta (k:=1) m e1) vY,dt (Ta (k:=2) n e2) vY,dt (Ta (k:=3) p e3) vY⟩
theorem B3{n k:Nat}{a:List Value}{y:DataW H × List MemPlace}{b:Int}(h:DataW.trod enc Tryz.prog w base spare held n 5 ((a.drop k).take (Tryz.prog.cellsOf 5))=some y)(e:y.1=.lit (.int .u8 b)):a[k]?=some (.int .u8 b):=by
 rw[n7]at h;obtain⟨z,c,d,_⟩:=DataW.trod_int Tryz.underlying5 h;rw[d]at e;cases e;exact j6 c
theorem AJ{n:Nat}{a:List Value}{e:List (DataW H)}{p:List MemPlace}(h:DataW.trod enc Tryz.prog w base spare held n 192 a=some (.agg e,p))(i:Nat)(l:i<64)(k:Int)
 (m:e[i]?=some (.lit (.int .u8 k))):a[i]?=some (.int .u8 k):=by
 obtain⟨f,q,_,d,_,o,j⟩:=mE Tryz.underlying192 h;have b:=j i l;rw[aC oM]at b;simp only[jC,kC]at d;have g:(f[i]' oM).1=.lit (.int .u8 k):=by
  have:(f.map (·.1))[i]?=some (.lit (.int .u8 k)):=by rw[<-d.1];exact m
  rw[dX,aC oM]at this;simpa using this
 have c:=B3 b g;rw[n7,iN]at c;exact c
def qQ:List (DataW Unit):=match Rows.laid_math_bits_deBruijn64tab (H:=Unit)with
 | .agg l=>l
 | _=>[]
theorem AW:qQ=Lib.deBruijn64tab.map fun k:Nat=>(.lit (.int .u8 (k:Int)):DataW Unit):=rfl
theorem A9:Lib.deBruijn64tab.length=64:=vY
theorem Au:∀j,j<64->qQ[j]?=some (.lit (.int .u8 (Lib.deBruijn64tab.getD j 0:Nat))):=fun j a=>by
 have h:j<Lib.deBruijn64tab.length:=by rw[A9];exact a
 rw[AW,dX,aC h,bF,aC h];rfl
theorem tO:Tryz.prog.cellsOf 5=1:=vZ
theorem ky{n:Nat}{e:List Value}{f:DataW H × List MemPlace}(h:DataW.trod enc Tryz.prog w base spare held n 22 e=some f) :
 ∃(c:Option Addr)(a:List UInt8)(d:Nat),e=[.slice c a.length d]/\a.length<=maxLen/\Yx w 0 w.heap.size c a:=by
 obtain⟨c,a,d,i,j,k⟩:=tT (α:=UInt8) (s:=1) Tryz.underlying22 tO vY (fun b o x=>w.cell? ⟨b,o,none⟩=some (.int .u8 (x.toNat:Int))) (fun b o u n f m v p=>by
  obtain⟨z,s,_,r⟩:=DataW.trod_int Tryz.underlying5 p;have y:0<=z/\z<256:=by
   simp[Lit.wf,IntKind.min,IntKind.max,IntKind.signed,IntKind.bits]at r;omega
  refine⟨UInt8.ofNat z.toNat,?_⟩;have:=m 0 vY;rw[s]at this;have e2:((UInt8.ofNat z.toNat).toNat:Int)=z:=by
   rw[UInt8.toNat_ofNat'];omega
  rw[e2];simpa using this) h
 refine⟨c,a,d,i,j,fun t q=>?_⟩;obtain⟨b,o,g,l,hq⟩:=k t q;exact⟨b,o,g,⟨aN _,l⟩,by simpa using hq⟩
theorem A8{W:World}(p:laidMetH Tryz.prog Rows.fnOptimalRow.laid W):Yy W/\Yb W/\Jn W:=by
 rw[MakeChecks.laidMetH_plain _ _ _ vZ]at p;obtain⟨U,⟨Q,Z,A,f2,T,q2,u,J,M,F,⟨O,X,y,N,R,V,q,G,K,D,⟨P,Y,z,f1,S,q1,r,I,L,E,_,_⟩,_⟩,_⟩,_,_⟩:=p;obtain rfl:=gQ (gTz.symm.trans u);obtain rfl:=gQ (tTz.symm.trans J);have c2:∀j v,A.toList[j]?=some v->W.cell? ⟨2,j,none⟩=some v:=fun j v c=>by
  have:=mS u M j;rw[this];simpa using c
 obtain rfl:=gQ (gOps.symm.trans q);obtain rfl:=gQ (gTers.symm.trans r);obtain rfl:=gQ (Cs.symm.trans G);obtain rfl:=gQ (BU.symm.trans I);have c0:∀j v,y.toList[j]?=some v->W.cell? ⟨0,j,none⟩=some v:=fun j v c=>by
  have:=mS q K j;rw[this];simpa using c
 have c1:∀j v,z.toList[j]?=some v->W.cell? ⟨1,j,none⟩=some v:=fun j v c=>by
  have:=mS r L j;rw[this];simpa using c
 refine⟨?_,?_,fun j x=>c2 _ _ (AJ F j x _ (Au j x))⟩
 ·have row:∀i s e a b m,i<14->((match Rows.laid_loop_example_s0031_impl_opForms (H:=Unit)with | .agg l=>l | _=>[]):List (DataW Unit))[i]?=some (.agg [.lit (.string s),.lit (.bool e),.lit (.bool a),.lit (.bool b),.lit (.bool m)]) ->
   W.cell? ⟨0,i*5,none⟩=some (.string (K8 s))/\W.cell? ⟨0,i*5+1,none⟩=some (.bool e)/\W.cell? ⟨0,i*5+2,none⟩=some (.bool a)/\W.cell? ⟨0,i*5+3,none⟩=some (.bool b)/\W.cell? ⟨0,i*5+4,none⟩=some (.bool m):=fun i s e a b m g n=>by
   obtain⟨f,e1,e2,e3,e4⟩:=Bk D i g s e a b m n;exact⟨c0 _ _ f,c0 _ _ e1,c0 _ _ e2,c0 _ _ e3,c0 _ _ e4⟩
  have d:=row 1 _ _ _ _ _ vY rfl;refine⟨Jh d.1,fun k B C=>?_⟩;have h:k=1\/k=2\/k=3\/k=4\/k=5\/k=6\/k=7\/k=8\/k=9\/k=10\/k=11\/k=12\/k=13:=oM;rcases h with rfl | rfl | rfl | rfl | rfl | rfl | rfl | rfl | rfl | rfl | rfl | rfl | rfl
  ·exact d
  ·exact row 2 _ _ _ _ _ vY rfl
  ·exact row 3 _ _ _ _ _ vY rfl
  ·exact row 4 _ _ _ _ _ vY rfl
  ·exact row 5 _ _ _ _ _ vY rfl
  ·exact row 6 _ _ _ _ _ vY rfl
  ·exact row 7 _ _ _ _ _ vY rfl
  ·exact row 8 _ _ _ _ _ vY rfl
  ·exact row 9 _ _ _ _ _ vY rfl
  ·exact row 10 _ _ _ _ _ vY rfl
  ·exact row 11 _ _ _ _ _ vY rfl
  ·exact row 12 _ _ _ _ _ vY rfl
  ·exact row 13 _ _ _ _ _ vY rfl
 ·have row:∀i s a t o,i<4->((match Rows.laid_loop_example_s0031_impl_termForms (H:=Unit)with | .agg l=>l | _=>[]):List (DataW Unit))[i]?=some (.agg [.lit (.string s),.lit (.bool a),.lit (.bool t),.lit (.bool o)]) ->
   W.cell? ⟨1,i*4,none⟩=some (.string (K8 s))/\W.cell? ⟨1,i*4+1,none⟩=some (.bool a)/\W.cell? ⟨1,i*4+2,none⟩=some (.bool t)/\W.cell? ⟨1,i*4+3,none⟩=some (.bool o):=fun i s a t o g n=>by
   obtain⟨f,e1,e2,e3⟩:=zH E i g s a t o n;exact⟨c1 _ _ f,c1 _ _ e1,c1 _ _ e2,c1 _ _ e3⟩
  have d:=row 1 _ _ _ _ vY rfl;refine⟨Jh d.1,fun k B C=>?_⟩;have h:k=1\/k=2\/k=3:=oM;rcases h with rfl | rfl | rfl
  ·exact d
  ·exact row 2 _ _ _ _ vY rfl
  ·exact row 3 _ _ _ _ vY rfl
theorem wF(H:Type)(enc:TypeId × Value->H)(W:World)(base:Nat)(args:Array Value)(m e:List (DataW H))(K:List MemPlace)
 (f:∀(C:Nat) t v,Tryz.f3.params[C]?=some t->args[C]?=some v->Value.okWide Tryz.prog W .any base t v)
 (s:DataW.Whole enc Tryz.prog Tryz.f3.params.toList Rows.fnOptimalSpec.vars false W args.toList m e K) (O:laidMetH Tryz.prog Rows.fnOptimalRow.laid W) :
 Calls Tryz.prog 3 args W fun n j=>∃v,n=.returned v/\Rows.fnOptimalSpec.post enc Tryz.prog Tryz.f3 false true false false W args v j:=by
 have u:=s;obtain⟨Y,aa,r,a,rfl,ax,ay⟩:=s;have q:DataW.TrodAll enc Tryz.prog W 0 (fun _=>true) true Tryz.f3.params.toList args.toList m Y:=r;rw[Tryz.params3]at q f;obtain⟨F,az,d0,ap,Z,q0,ar,rfl,rfl,o,r0⟩:=trodAll_cons q;obtain⟨G,a0,d1,aq,p1,q1,rfl,rfl,rfl,p,r1⟩:=trodAll_cons r0;obtain⟨rfl,rfl,rfl⟩:=trodAll_nil r1;obtain rfl:args=#[F,G]:=by cases args;simp_all
 clear r;have M:=o;have N:=p;obtain⟨k,V,D,rfl⟩:=okWide_slice Tryz.underlying22 (f 0 22 F rfl rfl);obtain⟨l,X,E,rfl⟩:=okWide_slice Tryz.underlying22 (f 1 22 G rfl rfl);obtain⟨f1,t1⟩:=o;obtain⟨f2,t2⟩:=p;obtain⟨I,h,m1,e1,z,S⟩:=ky t1;obtain⟨J,i,m2,e2,A,T⟩:=ky t2;have q1:Value.slice k V D=.slice I h.length m1:=by simpa [Value.cells]using e1
 have q2:Value.slice l X E=.slice J i.length m2:=by simpa [Value.cells]using e2
 injection q1 with ab ac ad;subst ab ac ad;injection q2 with af aj al;subst af aj al;obtain⟨P,Q,y⟩:=A8 O;have U:maxLen=9223372036854775807:=by unfold maxLen;decide
 rw[U]at z A;refine(vu k l h.length D i.length E h i W S rfl z T rfl A P Q y (Jh (y 0 vY))).mono fun n j ⟨R,d⟩=>?_
 subst R;obtain⟨b,c,rfl⟩:∃b c,e=[b,c]:=by
  match e,a with
  | [b,c],_=>exact⟨b,c,rfl⟩
  | [],a=>exact a.elim
  | [_],a=>obtain⟨_,_,_,_,_,_,_,_,_,_,a,_⟩:=a;exact a.elim
  | _::_::_::_,a=>obtain⟨_,_,_,_,_,_,_,_,_,_,⟨_,_,_,_,_,_,_,_,_,_,a,_⟩,_⟩:=a;exact a.elim
 have B:=u.lt;refine⟨_,rfl,_,_,_,[],Z++(p1++[]),aa,u,mT (shut_bool Tryz.underlying4 _) trodAll_mk0,?_,?_,d.frame _,fun L=>by cases L⟩
 ·exact mT (Below.trod vZ vZ (fV vZ) M d (fun x g=>B x (dD _ (dD _ g)))) (mT (Below.trod vZ vZ (fV vZ) N d (fun x g=>B x (dD _ (fB _ (dD _ g))))) trodAll_mk0)
 ·exact Below.trodVars vZ d vZ a
theorem xo(a:Os):laidMet Tryz.prog Rows.fnOptimalRow.laid ((World.doorLaid Tryz.prog 64 a).forCall (fun _ _=>0) ⟨#[],#[.slice none 0 0,.slice none 0 0],[]⟩).memory :=
 laidMet_of_run' 8 vZ vZ
theorem BS(b:Os){H:Type}(enc:TypeId × Value->H):∃a c,DataW.whole enc Tryz.prog ((World.doorLaid Tryz.prog 64 b).forCall (fun _ _=>0) ⟨#[],#[.slice none 0 0,.slice none 0 0],[]⟩).memory Tryz.f3.params.toList Rows.fnOptimalSpec.vars false #[Value.slice none 0 0,.slice none 0 0].toList 8=some ([.nil,.nil],a,c) :=
 ⟨[Rows.laid_loop_example_s0031_impl_termForms,Rows.laid_loop_example_s0031_impl_opForms],[]++(MemPlace.row ⟨1,0,none⟩ 16++[]++(MemPlace.row ⟨0,0,none⟩ 70++[]++[])),vZ⟩
theorem A5(a:Os)(j:a.Started)(H:Type)(enc:TypeId × Value->H)(F:Stop.Interp) :
 ReturnsInHanded {} Tryz.checked a 3 .any ((OpenSpec.ofChange Rows.fnOptimalSpec).preRow enc Tryz.prog Tryz.f3 Rows.fnOptimalRow.domain false Rows.fnOptimalRow.laid) (((OpenSpec.ofChange Rows.fnOptimalSpec).at F).post enc Tryz.prog Tryz.f3 false true false false):=by
 obtain⟨b,l,i⟩:=BS a enc;refine returnsInHanded_of_row (C:=Tryz.checked) (s:=OpenSpec.ofChange Rows.fnOptimalSpec) own j vZ Tryz.func3
  (witness_row_at (enc:=enc) (C:=Tryz.checked) false (World.doorLaid Tryz.prog 64 a) #[.slice none 0 0,.slice none 0 0] rfl vZ vZ vZ
   (OpenSpec.preRow_of_cond 8 i vZ (fun k g=>by cases g) vZ (xo a))) ?_
 intro W base args d b c h f _ _ _ e _ _;exact wF H enc W base args d b c h f e
theorem CA:Rows.FnOptimalSaid :=
 OpenClaim.holds_of_cond 3 Tryz.f3 rfl rfl rfl rfl rfl rfl rfl ⟨rfl,rfl,rfl,rfl,rfl⟩ rfl rfl rfl rfl rfl vZ Tryz.func3 vZ
  (fV vZ) (by unfold Func.isWrapper;first | (rw[aU (by decide +kernel)];kernel_rfl) | (rw[aM (by decide +kernel)];exact⟨rfl,rfl⟩))
  (fun a b H enc _ F=>by rw[OpenClaim.pre_eq_preRow];exact A5 a b H enc F)
theorem plain (f : FuncId) (fn : Func) (hf : Tryz.pinned.checked.prog.funcNamed "loop.example/s0031/laws.FnOptimal" = some f) (hfn : Tryz.pinned.checked.prog.funcs[f]? = some fn) :
 false=Tryz.pinned.checked.prog.looks []/\∀(j:Nat) t,fn.params[j]?=some t->Tryz.pinned.checked.prog.wantsStandIn t=false:=by
 obtain rfl : f = 3 := Option.some.inj ((show Tryz.prog.funcNamed "loop.example/s0031/laws.FnOptimal" = some 3 by kernel_rfl).symm.trans hf) |>.symm
 obtain rfl:fn=Tryz.f3:=(gQ (Tryz.func3.symm.trans hfn)).symm;refine⟨vZ,fun j t ht=>?_⟩;rw[Tryz.params3]at ht;obtain rfl:t=22:=by simpa using Array.mem_of_getElem? ht
 exact(show Tryz.prog.wantsStandIn 22=false by kernel_rfl)
theorem fnOptimal_card:Rows.FnOptimalCardSaid :=
 Claim7.holds_tied_plain_at .later [] _ _ _ _ CA (fun _ h=>by cases h) vZ (fun _ h=>by cases h) fnOptimal_row_tie rfl ⟨rfl,rfl⟩ vZ rfl plain vZ
#print axioms fnOptimal_card
end
end Go.Proofs.YtghnlncgiihhgaaGreatDoor
