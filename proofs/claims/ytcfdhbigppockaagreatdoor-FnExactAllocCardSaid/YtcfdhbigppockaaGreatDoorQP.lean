import Derived.Test.YtcfdhbigppockaaGreatDoorQD
import Derived.Test.YtcfdhbigppockaaGreatDoorPK
import Derived.LaidEql
import Derived.Stop.Asserts
namespace Go.Proofs.YtcfdhbigppockaaGreatDoor
set_option maxHeartbeats 4000000
set_option maxRecDepth 100000
open Go.RowKit Go.Shelf Go.Proofs.Tryz
variable{r:Bool}{t T:Int}{n m k B g i j c:Nat}{w v:Ub}{a A:Uj}{p P:Uy}{h:Vu}{l:Wc}{x:Wi}{y:Wo}
structure Nq(w:Ub)(R:Nat)(wd:Uj)(V:Int)(B0:Nat)(s:NX)(va:Uy)(vn vc:Nat):Prop where
 rd:nW w R wd V va vn vc s.2.isSome
 st:gw w B0 va vn vc s
 fz:∀o,w.frozen? ⟨R,o,none⟩=false
 lo:R<B0/\B0<=w.1.size
theorem tc(w:Ub)(o:Obj):(w.alloc o).1[w.1.size]?=some o:=by show(w.1.push o)[w.1.size]?=some o;simp
theorem Qm:(prog.info? 60).map (λi=>(i.8,i.3,i.4))=some (some<|.agg #[Hq,Hq,Hp 0,Hp 0,Hp 0,Hp 0],6,80):=vZ
theorem Qn:(prog.info? 62).map (λi=>(i.8,i.3,i.4))=some (some<|.agg #[Hp 0,Hq],2,32):=vZ
theorem nW.keep{w':Ub}(h:nW w n a t p m c r)(k:w'.1[n]?=w.1[n]?):nW w' n a t p m c r:=⟨(Xc k).trans h.1,(Xc k).trans h.2,(Xc k).trans h.3,(Xc k).trans h.4⟩
theorem Nq.keep{w':Ub}{s:NX}(h:Nq w n a t m s p k B)(b:Below w.1.size w w'):Nq w' n a t m s p k B:=by
 let⟨f,g⟩:=h.4;have e:=b.4;have q:=b.5 n oM;exact⟨h.1.keep q,h.2.keep (λc _ d=>b.5 c d) e,λo=>(bJ q).trans (h.3 o),⟨f,oM⟩⟩
theorem Kb.low'(d:v.4=w.4)(g:v.2=w.2)(e:v.5=w.5)(f:w.1.size<=v.1.size)(h:∀b,b<n->b≠m->v.1[b]?=w.1[b]?):Kb n m m w v:=⟨d,g,e,f,λb a c _=>h b a c⟩
theorem LV(I:Int)(na:Uy)(nn nc:Nat)(h:Hs (Nq w n a t m ⟨x,none⟩ p k B))(a2:k<=100000):
 Calls prog 179 #[Hn n,Nv 0 I,.slice na nn nc] w λe W=>e=.returned (.tuple #[])/\∃az a1 a0,Nq W n a t m ⟨x,some ([],[])⟩ az a1 a0/\Kb m n n w W:=by
 let⟨q,u⟩:=h.2;dsimp only at q u;let⟨A,v⟩:=u.1;let⟨Q,a3⟩:=h.4;have aa:n<w.1.size:=oM;have z:=λc=>Xb (Below.refl w.1.size w) c;have c2:=λc=>oB (z c) h.1.3 aa
 have H:Hs (∀c F,((w.alloc c).alloc F).ownsRow m 60 6 (.slice p k B) k A):=Xa (λc F=>by rw[q];exact Zl v λb e=>(Xb (z c) F).5 b (v.lt b e).2);have X:Hs (∀c j f g d,d.ownsRow m 60 6 (Hl f (k+1) g) (k+1) (A++[Hq,Hq,Hp 0,Hp 0,Hp 0,Hp 0])->((w.alloc c).alloc (.cells #[Hq,Hq,Hp 0,Hp 0,Hp 0,Hp 0] j)).grownBy d (Value.slice p k B).ownBlock->((Value.slice p k B).ownBlock=some f\/f=w.1.size+1+1)->d.cell? (Hk n 2)=some (.slice p k B)/\d.cell? (Hk n 3)=some (.bool false)/\(∀o,d.frozen? (Hk n o)=false)/\Nq ((d.setCell (Hk n 2) (Hl f (k+1) g)).setCell (Hk n 3) (.bool true)) n a t m ⟨x,some ([],[])⟩ (some ⟨f,0,none⟩) (k+1) g/\Kb m n n w ((d.setCell (Hk n 2) (Hl f (k+1) g)).setCell (Hk n 3) (.bool true))):=Xa (λc j f g d M i l=>by
  have b2:=Xb (z c) (.cells #[Hq,Hq,Hp 0,Hp 0,Hp 0,Hp 0] j);have e2:((w.alloc c).alloc (.cells #[Hq,Hq,Hp 0,Hp 0,Hp 0,Hp 0] j)).1.size=w.1.size+1+1:=sP;have ad:=i.4;rw[e2]at ad;have ac:=u.keep (w':=(w.alloc c).alloc (.cells #[Hq,Hq,Hp 0,Hp 0,Hp 0,Hp 0] j)) (λb _ s=>b2.5 b s) oM;have D:=H c<|.cells #[Hq,Hq,Hp 0,Hp 0,Hp 0,Hp 0] j;rw[q]at D M i l |-;have ab:=ac.open_ D M i (by rw[e2];exact l);have low:∀b,b<m->d.1[b]?=w.1[b]?:=λb C=>(i.5 b oM λe=>by have:=(D.lt b e.symm).1;omega).trans (b2.5 b oM);have r:=low n Q;have q2:=(Xc (o:=2) r).trans h.1.3;rw[q]at q2;have q3:=(Xc (o:=3) r).trans h.1.4;have S:=λo=>(bJ (a:=(Hk n o)) r).trans (h.3 o);have T:∀b,b≠n->((d.setCell (Hk n 2) (Hl f (x.length+1) g)).setCell (Hk n 3) (.bool true)).1[b]?=d.1[b]?:=λb C=>(Below.heap_setCell _ _ _ _ C).trans (Below.heap_setCell _ _ _ _ C);have XL:∀(U:Ub)(E y:Nat)(V:Uj),E≠y->(U.setCell (Hk n E) V).cell? (Hk n y)=U.cell? (Hk n y):=λU E y V aj=>cJ (by intro e;injection e with _ e;exact aj e);refine⟨q2,q3,S,⟨⟨?_,?_,?_,?_⟩,?_,λo=>?_,⟨Q,by simp;omega⟩⟩,Kb.low' i.1 i.2 i.3 (by simp;omega) λb J s=>(T b s).trans (low b J)⟩;·rw[XL _ _ _ _ vY,XL _ _ _ _ vY];exact(Xc r).trans h.1.1
  .rw[XL _ _ _ _ vY,XL _ _ _ _ vY];exact(Xc r).trans h.1.2
  .rw[XL _ _ _ _ vY];exact fQ _ _ _ q2
  .exact fQ _ _ _<|(XL _ _ _ _ vY).trans q3
  .exact⟨_,f,_,_,_,_,rfl,rfl,ab.keep (λb J s=>T b oM) sP⟩
  rw[eX,eX];exact S o)
 let⟨i0,af,ap,aq,ar⟩:=fX Qm;have ao:(k=0/\True)\/∃G,p=some (Hk G 0):=by
  obtain⟨e,h0⟩|⟨G,_,_,e,_⟩:=v.2;·exact bC ⟨oM,trivial⟩
  right;injection e with e;exact⟨G,e⟩
 clear h u v q ao;unfold Nv
 go_in
 go_wp2_with (at_builtin;refine wpList_append_lies _ rfl _ _ 35 rfl m 60 i0 (.agg #[Hq,Hq,Hp 0,Hp 0,Hp 0,Hp 0]) 6 80 underlying35 af ap aq ar rfl vY (.slice p k B) k A (by simp[Act.eval]) (H _ _) (Hk (w.1.size+1) 0) 1 1 [Hq,Hq,Hp 0,Hp 0,Hp 0,Hp 0] (by simp[Act.eval]) rfl (World.news_of_block (by have R:=tc (w.alloc<|.cells #[Hp 0,Hp I] 225) (.cells #[Hq,Hq,Hp 0,Hp 0,Hp 0,Hp 0] 60);rw[aO]at R;exact R)) (by intro a4 P;simp at P;obtain rfl|rfl:=P<;>rfl) vY (by unfold maxLen;omega) oM (by simp;omega) (w.1.size+1+1) sP ?_;intro f g d N K l al;let⟨d2,d3,dz,O,L⟩:=X _ _ _ _ _ N K l;have Z:=Xa O;have Y:=Xa L;clear N K l al O L)
 exact bodyPost_end (v:=.tuple #[]) (by simp[results,results179,go_sem]) rfl ⟨rfl,_,_,_,Z,Y⟩
theorem MH{d:Za}(af:Int)(s:Hs (Nq w n a t m ⟨x,some (d,[])⟩ p k B))(y:Hs (Below w.1.size w v))(b7:k<=100000)(b6:d.length<=100000)(Q:Hs (j=l.length))(b4:2<=j)(b5:j<=1000000)(b0:j<=c)(U:Hs (Xf v w.1.size v.1.size (some ⟨g,i,none⟩) l)):
 Calls prog 179 #[Hn n,Nv 1 af,Hm g i j c] v λe I=>e=.returned (.tuple #[])/\∃bn bp bo,Nq I n a t m ⟨x,some (d++[⟨l.getD 0 0,l.tail⟩],[])⟩ bn bp bo/\Kb m n n v I:=by
 let⟨J,G,F,H,ia,ic,V,a2,M⟩:=s.2;dsimp only at a2 M;let⟨bm,cd⟩:=s.4;have bb:=y.4;let⟨⟨b8,ca⟩,cb,cc⟩:=M.3;have R:=s.keep y;have K:=Xa (M.keep (w':=v) (λb _ O=>y.5 b O) bb);have ad:=Xa (by obtain⟨_,_,_,s⟩|⟨s,_⟩:=M.7;exact s;exact absurd rfl s);let⟨S,E⟩:=ad.1;let⟨p0,p1⟩:v.cell? (Hk g i)=some (Hp<|l.getD 0 0)/\w.1.size<=g/\g<v.1.size:=by
  let⟨b',o',e,u,T⟩:=U 0<|oN Q.o;cases e;exact⟨T.trans (by have:=Q.o;simp[show 0<l.length by omega]),u⟩
 have al:n<v.1.size:=oM;have aj:G<v.1.size:=oM;have C:=λh=>Xb (Below.refl v.1.size v) h
 have HM:Hs (x.length=k-1):=Xa oM;let⟨o,N⟩:∃o,x.length=o:=⟨_,rfl⟩;have X:k=o+1:=oM;have a7:Hs (∀h,Calls prog 202 #[Hn n] (v.alloc h) λe I=>e=.returned (Ho G<|o*6)/\I=(v.alloc h).drew):=Xa (λh=>pP n a t G o B true (v.alloc h) (by
  have u:=(R.1.keep<|(C h).5 n al);rw[V,X]at u;exact u) oM)
 have aa:Hs (∀W,Below v.1.size v W->W.ownsRow J 62 2 (.slice F d.length H) d.length S):=Xa λW f=>Zl E λb e=>(f.5 b<|oN ((E.lt b e).2)).trans (y.5 b (E.lt b e).2);have ac:Hs (∀W,Below v.1.size v W->W.cell? (Hk G<|o*6)=some (.slice F d.length H)):=Xa (λW f=>(f.cell (p:=Hk G<|o*6) aj).trans (by rw[<-N];exact K.4));have a5:Hs (∀W r D q,Below v.1.size v W->q.ownsRow J 62 2 (Hl r (d.length+1) D) (d.length+1) (S++[Hp<|l.getD 0 0,Hm g (i+1) (j-1) (c-1)])->W.grownBy q (Value.slice F d.length H).ownBlock->((Value.slice F d.length H).ownBlock=some r\/r=W.1.size)->q.cell? (Hk G<|o*6)=some (.slice F d.length H)/\(∀A,q.frozen? (Hk G A)=false)/\q.cell? (Hk g i)=some (Hp<|l.getD 0 0)/\Nq (q.setCell (Hk G<|o*6) (Hl r (d.length+1) D)) n a t m ⟨x,some (d++[⟨l.getD 0 0,l.tail⟩],[])⟩ (some ⟨G,0,none⟩) (o+1) B/\Kb m n n v (q.setCell (Hk G<|o*6) (Hl r (d.length+1) D))):=Xa (λW r D q f ho z P=>by
  have a9:=f.4;have b3:=z.4;have ao:=aa W f;have ba:=K.keep (w':=W) (λb _ O=>f.5 b O) a9;have bf:l.tail.length=j-1:=by rw[List.length_tail,<-Q.o]
  have aq:=ba.phi ao ⟨l.getD 0 0,l.tail⟩ (a:=some<|Hk g (i+1)) (c:=c-1) (λY hj=>by
   let⟨b',o',e,u,T⟩:=(U.keep<|f.mono aA) (Y+1) (by rw[List.length_tail]at hj;omega);cases e;refine⟨g,i+1,rfl,oM,λe2=>by have:=(E.lt g e2.symm).2;omega,?_⟩;rw[show i+1+Y=i+(Y+1) by omega,T];simp) (by dsimp only;rw[bf];exact ho) z P
  rw[N]at aq;have low:∀b,b<J->q.1[b]?=W.1[b]?:=λb h1=>z.5 b oM (λe=>by have:=(ao.lt b e.symm).1;omega);have kG:=(low G oM).trans (f.5 G aj);have far:∀b,b≠G->(q.setCell (Hk G<|o*6) (Hl r (d.length+1) D)).1[b]?=q.1[b]?:=λb y=>Below.heap_setCell _ _ _ _ y;have kR:=(low n oM).trans (f.5 n al);have a4:=(far n oM).trans kR;have kn:=(z.5 g oM λe=>by have:=(E.lt g e.symm).2;omega).trans (f.5 g p1.2);have a0:=R.1.keep a4;rw[V,X]at a0;have be:=λA=>ol K.1.choose_spec A
  refine⟨(Xc kG).trans (by rw[<-N];exact K.4),λA=>(bJ kG).trans (be A),(Xc kn).trans p0,⟨a0,⟨_,_,_,_,_,_,rfl,by show o+1=x.length+1;rw[N],aq⟩,λA=>(bJ a4).trans (R.3 A),⟨bm,by rw[Xd];omega⟩⟩,Kb.low' (z.1.trans f.1) (z.2.trans f.2) (z.3.trans f.3) (by rw[Xd];omega) λb h1 O=>(far b oM).trans ((low b oM).trans (f.5 b oM))⟩)
 let⟨i0,bc,bh,bi,bl⟩:=fX Qn;have ab:=λh=>Xa<|C h;have bx:J<=v.1.size:=oM;have cg:=λh=>oB (C h) p0 oM;have bt:=λh=>ac _<|C h;have bv:=λh bq=>ac _<|Xb (C h) bq;have ex:0<j:=oM;have ey:(1:Int)<=(j:Int):=oM;have ez:¬c=1:=oM;have ce:G≠g:=oM;have cf:g≠G:=oM;clear s y M R K ad E U Q N HM C X V a2;unfold Nv;generalize l.getD 0 0=Z at*;generalize d.length=pl at*
 go_in
 go_wp2_with (go_at_call 202;refine(a7 _).mono ?_;rintro e w1⟨rfl,a3⟩;rw[a3];clear a3 w1)
 refine Y7 (λI=>I.cell? (Hk g i)=some (Hp Z)) λhHeld=>?_;refine Xn 0 ?_;refine Xn 1 ?_;refine Xn 2 ?_;refine Xn 3 ?_;refine Xn 5 ?_;refine Xn 6 ?_;refine Xn 7 ?_;refine Xn 8 ?_;refine Xn 9 ?_;refine Xn 10 ?_;refine eS (rs:=[4,11]) vZ sP ?_;refine(bQ rfl (λL hK=>?_) (bQ rfl (λL hK=>?_) dY))
 focus
  go_simp;refine hK _ _ kP λhHeld=>?_;clear hK
  try simp only[xX]
 rotate_left
 all_goals
  try (refine eS (rs:=[11]) vZ sP ?_;refine bQ rfl (λL hK=>?_) dY)
  go_simp;refine hK _ _ kP λhHeld=>?_;clear hK
  try simp only[xX]
 rotate_left
 rotate_right
 focus
  refine Xs 4 λL hK=>?_;go_simp;refine hK _ _ kP λhHeld=>?_;clear hK
 all_goals
  refine Xs 12 λL hK=>?_;refine step_append_lies _ rfl (.tmp 37) (.tmp 44) 57 rfl J 62 i0 (.agg #[Hp 0,Hq]) 2 32 underlying57 bc bh bi bl rfl vY (.slice F pl H) pl S (by simp[Act.eval]) (aa _ (Xb (ab _).o _).drew.drew) (Hk (v.1.size+1) 0) 1 1 [Hp Z,Hm g (i+1) (j-1) (c-1)] (by simp[Act.eval]) rfl (World.news_of_block (by have u:=tc (v.alloc<|.cells #[Hp 1,Hp af] 225) (.cells #[Hp Z,Hm g (i+1) (j-1) (c-1)] 62);rw[aO]at u;exact u)) (by intro ch hu;simp at hu;obtain rfl|rfl:=hu<;>rfl) vY (by unfold maxLen;omega) oM (by simp;omega) (v.1.size+1+1) sP ?_;intro r D q az ap P bd;let⟨d2,dz,dn,a1,ar⟩:=a5 _ _ _ _ (Xb (ab _).o _).drew.drew az ap (by simpa using P);have a8:=Xa a1;have a6:=Xa ar;have br:=dz<|o*6;clear az ap P bd a1 ar dz;refine hK _ _ kP λhHeld=>?_;clear hK;refine Xn 13 ?_;refine Xn 14 ?_;refine Xs 15 λL hK=>?_;go_simp;refine hK _ _ kP λhHeld=>?_;clear hK;refine Yq ?_;go_wp2;exact bodyPost_end (v:=.tuple #[]) (by simp[results,results179,go_sem]) rfl ⟨rfl,_,_,_,a8,a6⟩
def dv:List Bool->List Nat->List Nat
 |k::ks,p::ps=>if k then p::dv ks ps else dv ks ps
 |_,_=>[]
theorem sE(c:Nat):∀(a:List Bool)(b:Wa),Yd a (b.map λo=>(⟨c,o,none⟩:Addr))=(dv a b).map λo=>(⟨c,o,none⟩:Addr)
 |[],[]=>rfl
 |[],_::_=>rfl
 |_::_,[]=>rfl
 |k::a,o::b=>by cases k<;>simp[Yd,dv,sE c a b]
def ik:List Bool->List Int->List Int
 |[],_=>[]
 |true::ks,x::xs=>x::ik ks xs
 |true::ks,[]=>0::ik ks []
 |false::ks,xs=>0::ik ks xs
def sX(k:Int)(d a b i:Bool)(c:Wc):Yg:=⟨k,(ik [d,a,b,i] c).getD 0 0,(ik [d,a,b,i] c).getD 1 0,(ik [d,a,b,i] c).getD 2 0,(ik [d,a,b,i] c).getD 3 0⟩
def OH(k:Int)(a:Wc):Yg:=sX k (dB k) (aB k) (bB k) (iB k) a
def sV(k:Int)(a t e:Bool)(b:Wc):Yj:=⟨k,(ik [a,t,e] b).getD 0 0,(ik [a,t,e] b).getD 1 0,(ik [a,t,e] b).getD 2 0⟩
def OK(k:Int)(a:Wc):Yj:=sV k (k != 1) (k != 3) (k==2) a
theorem sd{H b:Nat}(h:H<=b):∀(l:List (Nat×Int))(a w:Ub),Below H a w->Below H a (cu w b l)
 |[],_,_,k=>k
 |(o,x)::r,a,w,k=>by rw[cu];exact sd h r a _<|k.setCell h _
theorem Mr{a b i:Bool}(c:l.length=[r,a,b,i].count true)(h:Jk w n 0 ⟨t,0,0,0,0⟩):Jk (cu w n<|(dv [r,a,b,i] [1,2,3,4]).zip l) n 0 (sX t r a b i l):=by
 let⟨c0,c1,c2,c3,c4⟩:=h;simp only[aV]at c0 c1 c2 c3 c4;obtain _|⟨x,_|⟨y,_|⟨z,_|⟨u,_|⟨v,d⟩⟩⟩⟩⟩:=l<;>cases r<;>cases a<;>cases b<;>cases i<;>first
  |(exfalso;simp at c;done)
  |(exfalso;simp at c;omega)
  |(refine⟨?_,?_,?_,?_,?_⟩<;>simp[cu,dv,sX,ik,c0,c1,c2,c3,c4,go_sem])
theorem Mb{a e:Bool}(b:l.length=[r,a,e].count true)(h:Va w n 0 ⟨t,0,0,0⟩):Va (cu w n<|(dv [r,a,e] [1,2,3]).zip l) n 0 (sV t r a e l):=by
 let⟨c0,c1,c2,c3⟩:=h;simp only[aV]at c0 c1 c2 c3;obtain _|⟨x,_|⟨y,_|⟨z,_|⟨u,c⟩⟩⟩⟩:=l<;>cases r<;>cases a<;>cases e<;>first
  |(exfalso;simp at b;done)
  |(exfalso;simp at b;omega)
  |(refine⟨?_,?_,?_,?_⟩<;>simp[cu,dv,sV,ik,c0,c1,c2,c3,go_sem])
theorem Af{c d:Type}:∀(l:List c)(r:List d),l.length=r.length->(l.zip r).map (·.1)=l
 |[],_,_=>sP
 |_::_,[],h=>by simp at h
 |a::l,b::r,h=>by simp[Af l r<|by simpa using h]
theorem Ae{c d:Type}:∀(l:List c)(r:List d),l.length=r.length->(l.zip r).map (·.2)=r
 |[],[],_=>rfl
 |[],_::_,h=>by simp at h
 |_::_,[],h=>by simp at h
 |a::l,b::r,h=>by simp[Ae l r<|by simpa using h]
theorem Ka(a:List Bool)(b:Wa)(h:a.length=b.length):(dv a b).length=a.count true:=by
 induction a generalizing b with
 |nil=>rfl
 |cons x r c=>cases b with
  |nil=>simp at h
  |cons q s=>cases x<;>simp[dv,c s<|by simpa using h]
theorem zw{N:Nat}:∀(b:List Bool)(a:Wa),(∀o∈a,o<N)->∀o∈dv b a,o<N
 |[],[],_,o,h=>by simp[dv]at h
 |[],_::_,_,o,h=>by simp[dv]at h
 |_::_,[],_,o,h=>by simp[dv]at h
 |k::b,p::a,hN,o,h=>by
  have c:=zw b a (λo d=>hN o<|cN _ d) o;cases k with
  |false=>simp only[dv]at h;exact c<|by simpa using h
  |true=>
   simp only[dv,gG,cH]at h;obtain rfl|h:=h;·exact hN _<|cI ..
   exact c h
theorem zK(c D N:Nat)(r:Vu)(a:List Bool)(b:Wa)(d:Wc)(v:Uj)(k C p j:Nat)(n:Uy)(e:Nat)(w:Ub)(A:w.ownsRow k 266 1 v (Yd a<|b.map λo=>((Hk c o):Addr)).length ((Yd a<|b.map λo=>((Hk c o):Addr)).map Tx))(y:a.length=b.length)(F:d.length=a.count true)(l:e=d.length)(z:e<=1000000)(B:w.rowIs c D N r)(s:∀o∈b,o<N)(x:Xf w p j n d)(t:c<k)(u:j<=c):
 ∃f g,v=.slice f e g/\Calls prog 203 #[.slice f e g,.slice n e C] w λi E=>i=.returned (.tuple #[])/\E=cu w c ((dv a b).zip d):=by
 have G:=Ka a b y;obtain⟨f,g,rfl,m⟩:=UO A;rw[sE,jO]at m;have h:(dv a b).length=d.length:=oM;refine⟨f,g,by rw[sE,bK,bK,h,l],?_⟩;exact Mf (Xa<|by simp[h,l]) (Xa<|aA) z (Xa B) (Xa λq hq=>zw a b s q.1 (List.of_mem_zip hq).1) (Xa (by
  have i:((dv a b).zip d).map (λq=>Tx<|Hk c q.1)=(dv a b).map (Tx ∘ λo=>((Hk c o):Addr)):=by
   conv=>rhs;rw[<-Af _ _ h]
   rw[jO];rfl
  rw[i];exact m)) (Xa ((Ae _ _ h)▸x)) (bC t) (aZ u)
theorem Le(o:Below w.1.size w v)(z:w.1.size<=m)(f:m<v.1.size)(r:Jk v m 0 ⟨n,0,0,0,0⟩){t:TypeId}(G:v.rowIs m t 5 h)(u:1<=n)(x:n<=13)(H:Yy v)(s:k=l.length)(C:k=NP n)(D:k<=1000000)(E:Xf v g i p l)(y:i<=m):
 Calls prog 199 #[Hn m] v λe j=>∃b c,e=.returned (.slice b k c)/\Hs (Calls prog 203 #[.slice b k c,.slice p k B] j λe d=>e=.returned (.tuple #[])/\Hs (Below w.1.size w d)/\m<d.1.size/\Hs (Jk d m 0<|OH n l)):=by
 refine(zE m n 0 0 0 0 v (Xa r) u x (Xa H)).mono ?_;rintro e j⟨I,rfl,a,F⟩;have J:=a.4;have q:l.length=[dB n,aB n,bB n,iB n].count true:=s▸C;obtain⟨b,c,rfl,A⟩:=zK m t 5 h [dB n,aB n,bB n,iB n] [1,2,3,4] l I v.1.size B g i p k j F rfl q s D (G.of_block<|a.5 m f) sP (E.keep<|a.mono oM) f y;refine⟨b,c,rfl,Xa<|A.mono ?_⟩;rintro e d⟨rfl,rfl⟩;exact⟨rfl,Xa<|sd z _ _ _ (o.trans<|a.mono o.4),by rw[se];omega,Xa<|Mr q (r.keepS<|a.5 m f)⟩
theorem Lm(o:Below w.1.size w v)(z:w.1.size<=m)(f:m<v.1.size)(r:Va v m 0 ⟨n,0,0,0⟩){t:TypeId}(G:v.rowIs m t 4 h)(u:1<=n)(x:n<=3)(H:Yb v)(s:k=l.length)(C:k=NQ n)(D:k<=1000000)(E:Xf v g i p l)(y:i<=m):
 Calls prog 200 #[Hn m] v λe j=>∃b c,e=.returned (.slice b k c)/\Hs (Calls prog 203 #[.slice b k c,.slice p k B] j λe d=>e=.returned (.tuple #[])/\Hs (Below w.1.size w d)/\m<d.1.size/\Hs (Va d m 0<|OK n l)):=by
 refine(zD (Xa r) u x (Xa H)).mono ?_;rintro e j⟨I,rfl,a,F⟩;have J:=a.4;have q:l.length=[(n:Int) != 1,(n:Int) != 3,(n:Int)==2].count true:=s▸C;obtain⟨b,c,rfl,A⟩:=zK m t 4 h [(n:Int) != 1,(n:Int) != 3,(n:Int)==2] [1,2,3] l I v.1.size B g i p k j F rfl q s D (G.of_block<|a.5 m f) sP (E.keep<|a.mono oM) f y;refine⟨b,c,rfl,Xa<|A.mono ?_⟩;rintro e d⟨rfl,rfl⟩;exact⟨rfl,Xa<|sd z _ _ _ (o.trans<|a.mono o.4),by rw[se];omega,Xa<|Mb q (r.keepS<|a.5 m f)⟩
theorem Ac(W:Ub)(c:Zh)(t:TypeId):(W.alloc<|.cells c t).rowIs W.1.size t c.size (λi=>c[i]!):=eK W c t _ λi a=>by simp[a]
theorem MA{ps:Za}{d:Vr}(L:Hs (Nq w n a t m ⟨x,some (ps,d)⟩ p k B))(E:Hs (Below w.1.size w v))(cf:k<=100000)(cd:d.length<=100000)(aq:1<=g)(ar:g<=13)(X:Hs (Yy v))(a1:Hs (i=l.length))(af:Hs (i=NP g))(bp:i<=1000000)(a0:Hs (Xf v w.1.size v.1.size P l)):
 Calls prog 179 #[Hn n,Nv 2 g,.slice P i j] v λe h=>e=.returned (.tuple #[])/\∃b0 b4 b3,Nq h n a t m ⟨x,some (ps,d++[OH g l])⟩ b0 b4 b3/\Kb m n n v h:=by
 let⟨b6,G,pa,pc,I,J,Y,a6,M⟩:=L.2;dsimp only at a6 M;let⟨bx,ck⟩:=L.4;have bm:=E.4;let⟨⟨cg,ch⟩,ci,cj⟩:=M.3;have O:=L.keep E;have z:=Xa (M.keep (w':=v) (λb _ s=>E.5 b s) bm);let⟨F,S,⟨bf,ca⟩,a3,ap,N⟩:=z.insRow;have ad:n<v.1.size:=oM;have ac:G<v.1.size:=oM;have b1:=λr=>Xb (Below.refl v.1.size v) r
 let⟨f,H⟩:∃f,x.length=f:=⟨_,rfl⟩;have Z:k=f+1:=oM;have bc:Hs (∀W,Below v.1.size v W->Calls prog 202 #[Hn n] W λe h=>e=.returned (Ho G<|f*6)/\h=W.drew):=Xa (λW c=>pP n a t G f B true W (by
  have Q:=(O.1.keep<|c.5 n ad);rw[Y,Z]at Q;exact Q) oM)
 have be:Hs (∀r,Calls prog 199 #[Hn<|v.1.size+1] ((v.alloc r).alloc (.cells #[Hp g,Hp 0,Hp 0,Hp 0,Hp 0] 66)) λe w5=>∃T U,e=.returned (.slice T i U)/\Hs (Calls prog 203 #[.slice T i U,.slice P i j] w5 λe h=>e=.returned (.tuple #[])/\Hs (Below v.1.size v h)/\v.1.size+1<h.1.size/\Hs (Jk h (v.1.size+1) 0 (OH g l)))):=Xa (λr=>by
  have es:v.1.size+1=(v.alloc r).1.size:=(aO _ _).symm;have V:=Xb (b1 r) (.cells #[Hp g,Hp 0,Hp 0,Hp 0,Hp 0] 66);have hr:=Ac (v.alloc r) #[Hp g,Hp 0,Hp 0,Hp 0,Hp 0] 66;rw[<-es]at hr;exact Le V oM sP (Ad g es) hr aq ar (X.keep V X.1) a1 af bp (a0.keep V) oM)
 have aa:Hs (∀W,Below v.1.size v W->W.ownsRow F 66 5 (.slice I d.length J) d.length S):=Xa λW c=>Zl N λb e=>c.5 b (N.lt b e).2;have ab:Hs (∀W,Below v.1.size v W->W.cell? (Hk G<|f*6+1)=some (.slice I d.length J)):=Xa (λW c=>(c.cell (p:=Hk G<|f*6+1) ac).trans (by rw[<-H];exact z.5));generalize OH g l=r at*;have a9:Hs (∀W D A q,Below v.1.size v W->q.ownsRow F 66 5 (Hl D (d.length+1) A) (d.length+1) (S++r.cells)->W.grownBy q (Value.slice I d.length J).ownBlock->q.cell? (Hk G<|f*6+1)=some (.slice I d.length J)/\(∀o,q.frozen? (Hk G o)=false)/\(∀b o,v.1.size<=b->b<W.1.size->q.cell? (Hk b o)=W.cell? (Hk b o))/\Nq (q.setCell (Hk G<|f*6+1) (Hl D (d.length+1) A)) n a t m ⟨x,some (ps,d++[r])⟩ (some ⟨G,0,none⟩) (f+1) B/\Kb m n n v (q.setCell (Hk G<|f*6+1) (Hl D (d.length+1) A))):=Xa (λW D A q c ho u=>by
  have bh:=c.4;have cc:=u.4;have aj:=aa W c;have bl:=z.keep (w':=W) (λb _ s=>c.5 b s) bh;have ao:=bl.ins (H2:=F) ⟨bf,oM⟩ (a3.keepS λb _ s=>c.5 b oM) (ap.keep λb _ s=>c.5 b s) aj r ho u;rw[H]at ao;have low:∀b,b<F->q.1[b]?=W.1[b]?:=λb h1=>u.5 b oM (λe=>by have:=(aj.lt b e.symm).1;omega);have kG:=(low G oM).trans (c.5 G ac);have far:∀b,b≠G->(q.setCell (Hk G<|f*6+1) (Hl D (d.length+1) A)).1[b]?=q.1[b]?:=λb E=>Below.heap_setCell _ _ _ _ E;have kR:=(low n oM).trans (c.5 n ad);have a8:=(far n oM).trans kR;have a4:=O.1.keep a8;rw[Y,Z]at a4;have bq:=λo=>ol z.1.choose_spec o
  refine⟨(Xc kG).trans (by rw[<-H];exact z.5),λo=>(bJ kG).trans (bq o),λb o h1 s=>Xc (u.5 b s λe=>by have:=(N.lt b e.symm).2;omega),⟨a4,⟨_,_,_,_,_,_,rfl,by show f+1=x.length+1;rw[H],ao⟩,λo=>(bJ a8).trans (O.3 o),⟨bx,by rw[Xd];omega⟩⟩,Kb.low' (u.1.trans c.1) (u.2.trans c.2) (u.3.trans c.3) (by rw[Xd];omega) λb h1 s=>(far b oM).trans ((low b oM).trans (c.5 b oM))⟩)
 let⟨i0,bn,br,bt,bv⟩:=fX RB;have cl:G≠v.1.size+1:=oM;have cm:v.1.size+1≠G:=oM;clear L E M O z N a0 a1 af H Z Y a6 a3 ap X b1 aq ar;unfold Nv;let⟨xo,xd,xa,xb,xi⟩:=r;generalize d.length=il at*
 go_in
 go_wp2_with (first
  |(go_at_call 199;refine(be _).mono ?_;rintro e w5⟨T,U,rfl,HF⟩)
  |(go_at_call 203;refine HF.mono ?_;rintro e R⟨rfl,y,cb,ba⟩;have ce:=y.4;let⟨q0,q1,q2,q3,q4⟩:=ba.o;simp only[aV]at q0 q1 q2 q3 q4;have g6:=ab _ y;have b8:=λb5=>ab _<|Xb y b5)
  |(go_at_call 202;refine(bc _ y).mono ?_;rintro e w1⟨rfl,a7⟩;rw[a7];clear a7 w1))
 refine Y7 (λh=>h.cell? (Hk (v.1.size+1) 0)=some (Hp xo)/\h.cell? (Hk (v.1.size+1) 1)=some (Hp xd)/\h.cell? (Hk (v.1.size+1) 2)=some (Hp xa)/\h.cell? (Hk (v.1.size+1) 3)=some (Hp xb)/\h.cell? (Hk (v.1.size+1) 4)=some (Hp xi)) λhHeld=>?_;refine Xn 0 ?_;refine Xn 1 ?_;refine Xn 2 ?_;refine Xn 3 ?_;refine Xn 5 ?_;refine eS (rs:=[4,6]) vZ sP ?_;refine(bQ rfl (λK hK=>?_) (bQ rfl (λK hK=>?_) dY))
 focus
  go_simp;refine hK _ _ kP λhHeld=>?_;clear hK
  try simp only[xX]
 rotate_left
 all_goals
  try (refine eS (rs:=[6]) vZ sP ?_;refine bQ rfl (λK hK=>?_) dY)
  go_simp;refine hK _ _ kP λhHeld=>?_;clear hK
  try simp only[xX]
 rotate_left
 rotate_right
 focus
  refine Xs 4 λK hK=>?_;go_simp;refine hK _ _ kP λhHeld=>?_;clear hK
 all_goals
  refine Xs 7 λK hK=>?_;refine step_append_lies _ rfl (.tmp 62) (.tmp 64) 58 rfl F 66 i0 (.agg #[Hp 0,Hp 0,Hp 0,Hp 0,Hp 0]) 5 40 underlying58 bn br bt bv rfl vY (.slice I il J) il S (by simp[Act.eval]) (aa _ (Xb y _).drew.drew) (Hk R.1.size 0) 1 1 [Hp xo,Hp xd,Hp xa,Hp xb,Hp xi] (by simp[Act.eval]) rfl (World.news_of_block (by have Q:=tc R<|.cells #[Hp xo,Hp xd,Hp xa,Hp xb,Hp xi] 66;exact Q)) (by intro cn hu;simp at hu;obtain rfl|rfl|rfl|rfl|rfl:=hu<;>rfl) vY (by unfold maxLen;omega) oM (by simp;omega) (R.1.size+1) sP ?_;intro D A q a2 al bi bo;let⟨d2,dz,dn,a5,az⟩:=a9 _ _ _ _ (Xb y _).drew.drew a2 al;have bd:=Xa a5;have bb:=Xa az;have b7:=dz<|f*6+1;let⟨s0,s1,s2,s3,s4⟩:=hHeld;have C:=λo=>dn (v.1.size+1) o oM (by show _<(R.alloc _).1.size;rw[aO];omega);have r0:=(C 0).trans s0;have r1:=(C 1).trans s1;have r2:=(C 2).trans s2;have r3:=(C 3).trans s3;have r4:=(C 4).trans s4;clear a2 al bi bo a5 az dz dn C s0 s1 s2 s3 s4;refine hK _ _ (by first|exact⟨r0,r1,r2,r3,r4⟩|((try dsimp only);go_keep)) λhHeld=>?_;clear hK;refine Xn 8 ?_;refine Xn 9 ?_;refine Xs 10 λK hK=>?_;go_simp;refine hK _ _ kP λhHeld=>?_;clear hK;refine Yq ?_;go_wp2;exact bodyPost_end (v:=.tuple #[]) (by simp[results,results179,go_sem]) rfl ⟨rfl,_,_,_,bd,bb⟩
theorem MM{S:Za}{Q:Vr}(C:Hs (Nq w n a t m ⟨x,some (S,Q)⟩ p k B))(h:Hs (Below w.1.size w v))(bp:k<=100000)(ac:1<=g)(ad:g<=3)(M:Hs (Yb v))(al:Hs (i=l.length))(ab:Hs (i=NQ g))(bc:i<=1000000)(aj:Hs (Xf v w.1.size v.1.size P l)):
 Calls prog 179 #[Hn n,Nv 3 g,.slice P i j] v λe f=>e=.returned (.tuple #[])/\∃bf bi bh,Nq f n a t m ⟨x++[⟨S,Q,OK g l⟩],none⟩ bf bi bh/\Kb m n n v f:=by
 obtain⟨bl,G,pa,pc,ia,ic,N,aq,D⟩:=C.2;dsimp only at aq D;obtain⟨be,bx⟩:=C.4;have ba:=h.4;obtain⟨⟨bq,br⟩,bt,bv⟩:=D.3;have y:=C.keep h;have A:=Xa (D.keep (w':=v) (λc _ s=>h.5 c s) ba);have Z:n<v.1.size:=oM;have a7:G<v.1.size:=oM;have V:=λr=>Xb (Below.refl v.1.size v) r
 obtain⟨b,K⟩:∃b,x.length=b:=⟨_,rfl⟩;have O:k=b+1:=oM;have a4:Hs (∀W,Below v.1.size v W->Calls prog 202 #[Hn n] W λe f=>e=.returned (Ho G<|b*6)/\f=W.drew):=Xa (λW q=>pP n a t G b B true W (by
  have az:=(y.1.keep<|q.5 n Z);rw[N,O]at az;exact az) oM)
 have a6:Hs (∀r,Calls prog 200 #[Hn<|v.1.size+1] ((v.alloc r).alloc (.cells #[Hp g,Hp 0,Hp 0,Hp 0] 56)) λe w5=>∃H I,e=.returned (.slice H i I)/\Hs (Calls prog 203 #[.slice H i I,.slice P i j] w5 λe f=>e=.returned (.tuple #[])/\Hs (Below v.1.size v f)/\v.1.size+1<f.1.size/\Hs (Va f (v.1.size+1) 0 (OK g l)))):=Xa (λr=>by
  have X:v.1.size+1=(v.alloc r).1.size:=(aO _ _).symm;have J:=Xb (V r) (.cells #[Hp g,Hp 0,Hp 0,Hp 0] 56);have hr:=Ac (v.alloc r) #[Hp g,Hp 0,Hp 0,Hp 0] 56;rw[<-X]at hr;exact Lm J oM sP (z9 g X) hr ac ad (M.keep J M.1) al ab bc (aj.keep J) oM)
 have T:Hs ((OK g l).1≠0):=Xa (by show(g:Int)≠0;omega);generalize OK g l=d at*;have a1:Hs (∀W,Below v.1.size v W->(W.cell? (Hk G<|b*6+2)=some (Hp 0)/\W.cell? (Hk G<|b*6+2+1)=some (Hp 0)/\W.cell? (Hk G<|b*6+2+2)=some (Hp 0)/\W.cell? (Hk G<|b*6+2+3)=some (Hp 0))/\(∀o,W.frozen? (Hk G o)=false)/\W.cell? (Hk n 3)=some (.bool true)/\(∀o,W.frozen? (Hk n o)=false)/\Nq (((((W.setCell (Hk G<|b*6+2) (Hp d.1)).setCell (Hk G<|b*6+2+1) (Hp d.a)).setCell (Hk G<|b*6+2+2) (Hp d.3)).setCell (Hk G<|b*6+2+3) (Hp d.4)).setCell (Hk n 3) (.bool false)) n a t m ⟨x++[⟨S,Q,d⟩],none⟩ (some ⟨G,0,none⟩) (b+1) B/\Kb m n n v (((((W.setCell (Hk G<|b*6+2) (Hp d.1)).setCell (Hk G<|b*6+2+1) (Hp d.a)).setCell (Hk G<|b*6+2+2) (Hp d.3)).setCell (Hk G<|b*6+2+3) (Hp d.4)).setCell (Hk n 3) (.bool false))):=Xa (λW q=>by
  have a9:=q.4;have kG:=q.5 G a7;have R:=q.5 n Z;have aa:=(A.keep (w':=W) (λc _ s=>q.5 c s) a9).close d T;obtain⟨t0,t1,t2,t3⟩:=A.6;rw[K]at aa t0 t1 t2 t3;have a8:(λz:Ub=>(∀c,c≠G->z.1[c]?=W.1[c]?)/\z.1.size=W.1.size/\(z.4=W.4/\z.2=W.2/\z.5=W.5)) ((((W.setCell (Hk G<|b*6+2) (Hp d.1)).setCell (Hk G<|b*6+2+1) (Hp d.a)).setCell (Hk G<|b*6+2+2) (Hp d.3)).setCell (Hk G<|b*6+2+3) (Hp d.4)):=⟨(λc h=>by rw[Below.heap_setCell _ _ _ _ h,Below.heap_setCell _ _ _ _ h,Below.heap_setCell _ _ _ _ h,Below.heap_setCell _ _ _ _ h]),sP,⟨rfl,rfl,rfl⟩⟩;generalize ((((W.setCell _ _).setCell _ _).setCell _ _).setCell _ _)=U at*;obtain⟨Y,bo,L⟩:=a8;have kU:=(Y n oM).trans R;have far:∀c,c≠n->(U.setCell (Hk n 3) (.bool false)).1[c]?=U.1[c]?:=λc h=>Below.heap_setCell _ _ _ _ h;have u:=y.1;have ao:=u.3;rw[N,O]at ao;have XL:∀(E:Nat)(a0:Uj),3≠E->(U.setCell (Hk n 3) a0).cell? (Hk n E)=U.cell? (Hk n E):=λE a0 bb=>cJ (by intro e;injection e with _ e;exact bb e);have bd:=λo=>ol A.1.choose_spec o;refine⟨⟨(Xc kG).trans t0,(Xc kG).trans t1,(Xc kG).trans t2,(Xc kG).trans t3⟩,λo=>(bJ kG).trans (bd o),(Xc R).trans u.4,λo=>(bJ R).trans (y.3 o),⟨⟨?_,?_,?_,?_⟩,⟨by simp[K],aa.keep (λc h1 s=>far c oM) sP⟩,λo=>?_,⟨be,by rw[Xd];omega⟩⟩,Kb.low' (L.1.trans q.1) (L.2.1.trans q.2) (L.2.2.trans q.3) (by rw[Xd];omega) λc h1 s=>(far c s).trans ((Y c oM).trans (q.5 c oM))⟩;·rw[XL _ _ vY];exact(Xc kU).trans u.1
  .rw[XL _ _ vY];exact(Xc kU).trans u.2
  .rw[XL _ _ vY];exact(Xc kU).trans ao
  .exact fQ _ _ _<|(Xc kU).trans u.4
  rw[eX];exact(bJ kU).trans (y.3 o))
 have b3:G≠v.1.size+1:=oM;have b5:v.1.size+1≠G:=oM;have b0:G≠n:=oM;have b4:n≠G:=oM;clear C h D y A aj al ab K O N aq M V ac ad T;unfold Nv;obtain⟨xo,xa,xb,xi⟩:=d
 go_in
 go_wp2_with (first
  |(go_at_call 200;refine(a6 _).mono ?_;rintro e w5⟨H,I,rfl,HF⟩)
  |(go_at_call 203;refine HF.mono ?_;rintro e w6⟨rfl,F,bm,a2⟩;have bn:=F.4;obtain⟨q0,q1,q2,q3⟩:=a2.o;simp only[aV]at q0 q1 q2 q3;obtain⟨⟨x0,x1,x2,x3⟩,xz,y3,yz,ap,af⟩:=a1 _ F;have a5:=Xa ap;have a3:=Xa af;clear ap af))
 go_region_held3 (λf=>f.cell? (Hk (v.1.size+1) 0)=some (Hp xo)/\f.cell? (Hk (v.1.size+1) 1)=some (Hp xa)/\f.cell? (Hk (v.1.size+1) 2)=some (Hp xb)/\f.cell? (Hk (v.1.size+1) 3)=some (Hp xi)) (go_keep) ((go_at_call 202;refine(a4 _ F.drew).mono ?_;rintro e w1⟨rfl,ar⟩;rw[ar];clear ar w1))
 all_goals
  go_wp2;exact bodyPost_end (v:=.tuple #[]) (by simp[results,results179,go_sem]) rfl ⟨rfl,_,_,_,a5.keep (Below.refl _ _).drew.drew,a3.drew.drew⟩
theorem Aa{f:Wn}(h:Np false f=true):NY false f=Gb f:=by
 have h:Ax f 4=true:=h;show NF f 4=Gb f;unfold NF Gb;rw[aU h,aU h]
theorem MQ{f:Wn}(h:Np true f=true):NY true f=i9 f:=by
 have h:NM f=true:=h;show fp f=i9 f;unfold fp;rw[aU h]
theorem pS{q:Ys}(hq:∀i,q i=false):∀(r:Vw)(i:Nat),bg q i r=true->GI q i r=r.map Gb
 |[],_,_=>rfl
 |f::r,i,h=>by
  rw[bg,hq i,bY]at h;rw[GI,hq i,Aa h.1,pS hq r (i+1) h.2];rfl
def dx(b:Nat)(c:Nat)(a:List Int)(s:NX):Option NX :=
 if b=0 then (match s.2 with|some _=>none|none=>some ⟨s.1,some ([],[])⟩)
 else match s.2 with
  |none=>none
  |some (ps,is)=>
   if b=1 then (if is=[]then some ⟨s.1,some (ps++[⟨a.getD 0 0,a.tail⟩],is)⟩else none)
   else if b=3 then some ⟨s.1++[⟨ps,is,OK c a⟩],none⟩
   else some ⟨s.1,some (ps,is++[OH c a])⟩
theorem L8{F:Wn}{r:Vw}(d:D2 F=n)(j:1<=n)(k:n<=10)(c:r.length=NP n)(a:bg (FZ 2 n r.length) 0 r=true):T1 (F::r)=OH n (GI (FZ 2 n r.length) 0 r):=by
 have e:T1 (F::r)=ND (F::r) n (fv n).length:=by unfold T1;rw[List.headD_cons,d]
 rw[e];have f:n=1\/n=2\/n=3\/n=4\/n=5\/n=6\/n=7\/n=8\/n=9\/n=10:=oM;by_cases b:n=1
 .subst b
  obtain⟨x,y,rfl⟩:∃x y,r=[x,y]:=by
   rw[show NP 1=2 by decide]at c
   match r,c with
   |[x,y],_=>exact⟨x,y,rfl⟩
  simp only[bg,FZ,bA,bO,Bool.and_true,bY]at a;simp only[GI,FZ,bA,bO];let⟨g,h⟩:=a;have v1:=Aa (f:=x) g;have v2:=MQ (f:=y) h;show ND (F::[x,y]) 1 2=OH 1 [NY false x,NY true y];rw[v1,v2];rfl
 have hq:∀i,FZ 2 n r.length i=false:=λi=>by simp[FZ,b]
 rw[pS hq r 0 a];obtain rfl|rfl|rfl|rfl|rfl|rfl|rfl|rfl|rfl|rfl:=f;·exact absurd rfl b
 all_goals
  obtain _|⟨x,_|⟨y,_|⟨z,_|⟨u,t⟩⟩⟩⟩:=r
  all_goals first
   |(exfalso;revert c;simp[NP,dB,aB,bB,iB];done)
   |rfl
theorem Ma{F:Wn}{r:Vw}(hF:(F=fg/\n=1)\/(F=Vn/\n=2)\/(F=ew/\n=3))(b:r.length=NQ n)(a:bg (FZ 3 n r.length) 0 r=true):Y4 (F::r)=OK n (GI (FZ 3 n r.length) 0 r):=by
 have hq:∀i,FZ 3 n r.length i=false:=λi=>by simp[FZ]
 rw[pS hq r 0 a];obtain⟨rfl,rfl⟩|⟨rfl,rfl⟩|⟨rfl,rfl⟩:=hF
 all_goals
  obtain _|⟨x,_|⟨y,_|⟨z,_|⟨u,t⟩⟩⟩⟩:=r
  all_goals first
   |(exfalso;revert b;simp[NQ];done)
   |rfl
theorem Mg(F:Wn){r:Vw}(a:2<=r.length)(b:bg (FZ 1 n r.length) 0 r=true):jt (F::r)=⟨(GI (FZ 1 n r.length) 0 r).getD 0 0,(GI (FZ 1 n r.length) 0 r).tail⟩:=by
 have hq:∀i,FZ 1 n r.length i=false:=λi=>by simp[FZ]
 rw[pS hq r 0 b]
 match r,a with
 |x::y::t,_=>rfl
theorem LO(s:NX)(F:Wn)(r:Vw)(c b:Nat)(a:fy F=some (c,b))(j:dr c b r.length=true)(i:bg (FZ c b r.length) 0 r=true):je s (F::r)=dx c b (GI (FZ c b r.length) 0 r) s:=by
 unfold je;rw[List.headD_cons];unfold fy at a;let⟨n,d⟩:=s;by_cases f:D2 F≠0
 .rw[aU f]at a;cases a;let⟨⟨D,E⟩,x,y,z,A,B⟩:=oL f;have v:D2 F=((D2 F).toNat:Int):=oM;have h:r.length=NP (D2 F).toNat:=by simpa [dr]using j
  have g:=L8 v oM oM h i;unfold dh dx;rw[aM x,aM vY];cases d with
  |none=>rfl
  |some e=>
   let⟨o,m⟩:=e;dsimp only;have C:jx F=false:=by
    unfold jx;have p:F≠[106,117,109,112]:=y;have q:F≠[114,101,116]:=z;have t:F≠[98,114,97,110,99,104]:=A;simp[p,q,t]
   rw[aM B,aM (by rw[C];decide),aM vY,aM vY,g]
 rw[aM f]at a;by_cases e1:F=eh
 .rw[aU e1]at a;cases a;unfold dh dx;rw[aU e1,aU rfl];cases d<;>rfl
 rw[aM e1]at a;by_cases e2:F=fm
 .rw[aU e2]at a;cases a;unfold dh dx;rw[aM e1,aM vY];cases d with
  |none=>rfl
  |some e=>
   let⟨o,m⟩:=e;dsimp only;rw[aU e2,aU rfl,Mg F (by simpa [dr]using j) i]
 rw[aM e2]at a
 have fin:∀k:Nat,(F=fg/\k=1)\/(F=Vn/\k=2)\/(F=ew/\k=3)->some (3,k)=some (c,b)->dh ⟨n,d⟩ F (F::r)=dx c b (GI (FZ c b r.length) 0 r) ⟨n,d⟩:=λk l u=>by
  cases u;have h:r.length=NQ b:=by simpa [dr]using j
  have g:=Ma l h i;have w:jx F=true:=by obtain⟨rfl,_⟩|⟨rfl,_⟩|⟨rfl,_⟩:=l<;>rfl
  unfold dh dx;rw[aM e1,aM vY];cases d with
  |none=>rfl
  |some e=>
   let⟨o,m⟩:=e;dsimp only;rw[aM e2,aU w,aM vY,aU rfl,g]
 by_cases e3:F=fg;·rw[aU e3]at a;exact fin 1 (bC ⟨e3,rfl⟩) a
 rw[aM e3]at a;by_cases e4:F=Vn;·rw[aU e4]at a;exact fin 2 (aZ<|bC ⟨e4,rfl⟩) a
 rw[aM e4]at a;by_cases e5:F=ew;·rw[aU e5]at a;exact fin 3 (aZ<|aZ ⟨e5,rfl⟩) a
 rw[aM e5]at a;cases a
theorem Lv(c:Nat)(e:Wc)(s:NX)(g:n<=3):(dx n c e s).isSome=sR n s.2.isSome (match s.2 with|none=>0|some (_,a)=>a.length):=by
 let⟨h,d⟩:=s;have b:n=0\/n=1\/n=2\/n=3:=oM;cases d with
 |none=>obtain rfl|rfl|rfl|rfl:=b<;>rfl
 |some f=>
  let⟨i,a⟩:=f;obtain rfl|rfl|rfl|rfl:=b;·rfl
  .cases a with
   |nil=>rfl
   |cons x r=>rfl
  .rfl
  rfl
theorem MB(h:w.ownsRow n m 1 a k y)(f:0<k):∃g c,a=.slice (some ⟨g,0,none⟩) k c/\k<=c:=by
 obtain⟨_,h|⟨g,b,e,rfl,_,_,d,_⟩⟩:=h;·omega
 exact⟨g,b,rfl,d⟩
theorem MC{C f:NX}(h:Nq w n a t m C p k B)(s:Below w.1.size w v)(H:TT C<=100000)(Q:Yy v)(R:Yb v)(X:g<=3)(N:g=2->1<=i/\i<=10)(O:g=3->1<=i/\i<=3)(I:v.ownsRow w.1.size 2 1 A j (l.map<|Value.int .i64))(x:j=l.length)(F:j<=1000000)(G:dr g i j=true)(b:dx g i l C=some f):
 Calls prog 179 #[Hn n,Nv g i,A] v λe D=>e=.returned (.tuple #[])/\∃S U T,Nq D n a t m f S U T/\Kb m n n v D:=by
 have y:=aJ h.2.len H;let⟨z,r⟩:=C;have L:g=0\/g=1\/g=2\/g=3:=oM;obtain⟨J,c,rfl,E⟩:=Xk I;rw[<-x]at I |-;obtain rfl|rfl|rfl|rfl:=L
 .cases r with
  |some d=>exact absurd b<|by simp[dx]
  |none=>
   have e:f=⟨z,some ([],[])⟩:=by simpa [dx]using b.symm
   subst e;exact(LV i J j c (Xa<|h.keep s) y).mono λe D h=>h
 .cases r with
  |none=>exact absurd b<|by simp[dx]
  |some d=>
   let⟨q,o⟩:=d;cases o with
   |cons Z Y=>exact absurd b<|by simp[dx]
   |nil=>
    have e:f=⟨z,some (q++[⟨l.getD 0 0,l.tail⟩],[])⟩:=by simpa [dx]using b.symm
    subst e;have P:2<=j:=by simpa [dr]using G
    let⟨W,V,K,M⟩:=MB I oM;obtain⟨rfl,-,rfl⟩:=Value.slice.inj K;exact(MH i (Xa h) (Xa s) y (by simp only[TT]at H;omega) (Xa x) P F M (Xa E)).mono λe D h=>h
 .cases r with
  |none=>exact absurd b<|by simp[dx]
  |some d=>
   let⟨q,o⟩:=d;have e:f=⟨z,some (q,o++[OH i l])⟩:=by simpa [dx]using b.symm
   subst e;have u:=N rfl;exact MA (Xa h) (Xa s) y (by simp only[TT]at H;omega) u.1 oM (Xa Q) (Xa x) (Xa<|by simpa [dr]using G) F (Xa E)
 cases r with
 |none=>exact absurd b<|by simp[dx]
 |some d=>
  let⟨q,o⟩:=d;have e:f=⟨z++[⟨q,o,OK i l⟩],none⟩:=by simpa [dx]using b.symm
  subst e;have u:=O rfl;exact MM (Xa h) (Xa s) y u.1 u.2 (Xa R) (Xa x) (Xa<|by simpa [dr]using G) F (Xa E)
def sx(w f:Ub)(R:Nat)(j:Uj)(V:Int)(a:Nat)(s:NX)(b:Wn)(e:Ending):Prop :=
 Kb a R R w f/\((∃c,bk s b=.bad c/\c≠0/\e=.returned (.int .i64 c))\/(∃d,bk s b=.ok d/\e=.returned (.int .i64 0)/\∃g i h,Nq f R j V a d g i h))
theorem r9{s:NX}{b:Wn}{c:Int}(k:Below w.1.size w v)(d:m<=w.1.size)(h:bk s b=.bad c)(e:c≠0):sx w v n a t m s b (.returned (Hp c)):=⟨Kb.of_below<|k.mono d,bC ⟨c,h,e,rfl⟩⟩
theorem La(R:Nat)(g:Uj)(V:Int)(k:Nat)(s:NX)(d:Uy)(f e b a:Nat)(w:Ub)(h:Nq w R g V k s d f e)(c:b<=3)(n:TT s<=100000)(j:Wc):
 Calls prog 178 #[Hn R,Nv b a] w λm u=>m=.returned (.bool (dx b a j s).isSome)/\Below w.1.size w u:=by
 have v:=aJ h.2.len n;let⟨x,y⟩:=h.4;rw[Lv a j s c];let⟨B,l⟩:=s;cases l with
 |none=>exact yM R g V d 0 f e false none 0 0 b a w (Xa h.1) oM oM c (Xa λt=>absurd t vY)
 |some r=>
  let⟨C,q⟩:=r;let⟨H,G,z,A,o,p,e1,e2,i⟩:=h.2;let⟨⟨_,lG⟩,_,lH⟩:=i.3;dsimp only at e2;exact yM R g V d G f e true o q.length p b a w (Xa h.1) oM oM c (Xa λ_=>⟨e1,oM,oM,by rw[e2,Nat.add_sub_cancel];exact i.5⟩)
theorem MG:n=0\/(if n=0 then some ((Hk m 0):Addr)else some (Hk m 1))=some (Hk m 1):=by
 by_cases h:n=0;·exact bC h
 exact aZ<|aM h
theorem MO(a:Wn):0<(C3 a 32).length:=by unfold C3;rw[l8];omega
theorem Mu{F:Wn}(e:F.length<=1000000):∃(g d:Nat)(c:Bool),(c=false/\fy F=none\/c=true/\fy F=some (g,d))/\∀(w:Ub)(b:Nat),w.ownsMap prog 9 fh b 15 (OQ 3)->(Instr.lookup 153 (.map (some b)) (.string (K8 F)) true).run prog w=.ok (.tuple #[.agg #[Hp g,Hp d],.bool c]) w:=by
 cases h:fy F with
 |none=>exact⟨0,0,false,bC ⟨rfl,rfl⟩,λw b a=>(yX a e).trans (by rw[h];rfl)⟩
 |some f=>exact⟨f.1,f.2,true,aZ ⟨rfl,rfl⟩,λw b a=>(yX a e).trans (by rw[h];rfl)⟩
theorem Mm{q:Ys}{a:Vw}{e:Ending}(h:sy n w q a e):∃v b,e=.returned (.tuple #[v,.bool b])/\(bg q 0 a=false/\b=false\/bg q 0 a=true/\b=true/\w.ownsRow n 2 1 v a.length ((GI q 0 a).map (Value.int .i64))):=by
 cases hok:bg q 0 a with
 |false=>exact⟨_,_,h.2 hok,bC ⟨rfl,rfl⟩⟩
 |true=>let⟨v,e1,e2⟩:=h.1 hok;exact⟨v,_,e1,aZ ⟨rfl,rfl,e2⟩⟩
theorem I7{u:NX}{ab:Nat}{b:Wn}(y:Hs (Nq w n (.map (some m)) t k u p B g))(L:Hs (m<w.1.size/\w.ownsMap prog 9 fh m 15 (OQ 3)))(O:Hs (Yy w))(P:Hs (Yb w))(hm:Hs (ft w))(a3:Hs (TT u<=100000))(Q:Hs (ab=b.length))(ci:ab<=c)(X:c<=9223372036854775807)(hn:ab<=100000)(ha:Hs (∀E (y:E<b.length),w.cell? (Hk i<|j+E)=some (.int .u8 (b[E].toNat:Int))))(hb:i<w.1.size):
 Calls prog 139 #[Hn n,Hm i j ab c] w λe d=>sx w d n (.map (some m)) t k u b e:=by
 let⟨cz,aa⟩:=y.4;have ao:=Xa<|yA Q ci X oM ha hm hb;have R:Hs (∀K∈C3 b 32,K.length<=1000000):=Xa (λK hf=>by have:=kh 32 b [] K hf;simp only[bO]at this;have:=Q.o;omega);have T:Hs ((C3 b 32).length<=100001):=Xa (by unfold C3;rw[l8];have:=List.count_le_length (a:=(32:UInt8)) (l:=b);have:=Q.o;omega);cases hall:(C3 b 32).all Y3 with
 |false=>
  have HP:Hs (bk u b=.bad 4):=Xa (by unfold bk Bf;rw[hall];rfl);clear y L O P hm a3 Q ha R T
  go_in
  go_wp2_with (go_at_call 137;refine ao.mono ?_;rintro e a⟨D,_,br⟩;rw[br hall];have o:=Xa D;clear br D)
  go_ret;exact r9 o aa HP vY
 |true=>
  have aj:Hs (Bf b=C3 b 32):=Xa (by unfold Bf;rw[aU hall]);let⟨F,r,bi⟩:∃F r,C3 b 32=F::r:=by
   have:=MO b
   match hcs:C3 b 32,this with
   |F::r,_=>exact⟨F,r,rfl⟩
  rw[bi]at ao R T aj hall;have b4:=Xa<|R.o F (cI ..);let⟨q,a1⟩:∃q,r.length=q:=⟨_,rfl⟩;have J:=Xa a1;have cr:q<=100000:=by have:=T.o;rw[bA]at this;omega
  have S:=Xa<|LU F r;have ap:=Xa λl f=>LO u F r l f;have bf:=Xa<|zF F q;rw[a1]at S ap;have b7:Hs (C0 (F::r)≠0->bk u b=.bad (C0 (F::r))):=Xa (λa5=>by unfold bk;rw[aj.o,aM sP,aU a5]);have b8:Hs (∀j,C0 (F::r)=0->je u (F::r)=j->bk u b=(match j with|none=>.bad 8|some s'=>.ok s')):=Xa λj a5 e=>by unfold bk;rw[aj.o,aM sP,aM λy=>y a5,e];cases j<;>rfl
  have cd:n<w.1.size:=oM;clear a1 bi T;let⟨l,f,kn,bo,bp⟩:=Mu b4;have b5:=Xa bo;have b6:Hs (∀a h H,Below w.1.size w a->a.cell? (Hk h 0)=some H->mf a i H F->h<a.1.size->∃v c1,H=Hm i v F.length c1/\∀W,Below a.1.size a W->W.cell? (Hk n 0)=some (.map (some m))/\W.cell? (Hk h 0)=some (Hm i v F.length c1)/\(convert 22 9<|Hm i v F.length c1).run prog W=.ok (.string (K8 F)) W/\(Instr.lookup 153 (.map (some m)) (.string (K8 F)) true).run prog W=.ok (.tuple #[.agg #[Hp l,Hp f],.bool kn]) W):=Xa (λa h H k3 cg Z Y=>by
   have N:=k3.4;obtain⟨v,c1,rfl,cp,cf⟩:=Z;refine⟨v,c1,rfl,λW U=>⟨?_,(U.cell (p:=Hk h 0) Y).trans cg,pN W i v c1 F (λb0 hj=>(U.cell (p:=Hk i<|v+b0) (by show i<_;omega)).trans (cf b0 hj)),bp W m ?_⟩⟩;·exact(U.cell (p:=Hk n 0) (by show n<_;omega)).trans ((k3.cell (p:=Hk n 0) cd).trans y.1.1)
   let⟨es,ck,ce,rest⟩:=L.2
   exact⟨es,ck,((U.5 m<|oN L.1).trans (k3.5 m L.1)).trans ce,rest⟩)
  clear bo bp;have ad:Hs (∀c d,c≠0->C0 (F::r)=c->Below w.1.size w d->sx w d n (.map (some m)) t k u b (.returned (Hp c))):=Xa (λc d X e x=>r9 x aa (by rw[b7.o (by rw[e];exact X),e]) X);have cs:(1:Int)<=(q:Int)+1:=oM;have ct:(0:Int)<(q:Int)+1:=oM;clear L hm Q ha
  go_in
  go_wp2_with (go_at_call 137;refine ao.mono ?_;rintro e a⟨D,bx,_⟩;obtain⟨h,x,Y,hk,rfl,M⟩:=bx hall;have ch:x=q+1:=(by rw[hk,bA,J.o]);subst ch;let⟨v0,bv,bt⟩:=M.2 0 sP;obtain⟨v,c1,rfl,bq⟩:=b6 a h v0 D bv bt M.1;have C:=Xa bq;have o:=Xa D;have bb:=Xa M;have N:=D.4;have cn:=M.1;clear bx D M bv bt bq hk)
  refine wp_region_held_drew (S:=(λd=>d.cell? (Hk n 0)=some (.map (some m))/\d.cell? (Hk h 0)=some (Hm i v F.length c1)/\(convert 22 9<|Hm i v F.length c1).run prog d=.ok (.string (K8 F)) d/\(Instr.lookup 153 (.map (some m)) (.string (K8 F)) true).run prog d=.ok (.tuple #[.agg #[Hp l,Hp f],.bool kn]) d)) vZ (C _ (Below.refl _ _).drew) λhHeld=>?_;refine Xn 0 ?_;refine Xn 1 ?_;refine Xn 2 ?_;refine Xn 3 ?_;refine Xn 4 ?_;refine Xn 5 ?_;refine Xn 6 ?_;refine Xn 7 ?_;refine Xn 8 ?_;refine Xn 9 ?_;refine Xn 10 ?_;refine Xn 11 ?_;refine Xs 12 λbh hK=>?_;go_simp;refine hK _ _ (by first|exact C _ (Xb (Below.refl _ _) _).drew|exact C _ ((Xb (Below.refl _ _) _).setCell aA _).drew|exact C _<|Xb (Below.refl _ _) _) λhHeld=>?_;clear hK;refine Xs 13 λbh hK=>?_;go_simp;refine hK _ _ (by first|exact C _ (Xb (Below.refl _ _) _).drew|exact C _ ((Xb (Below.refl _ _) _).setCell aA _).drew|exact C _<|Xb (Below.refl _ _) _) λhHeld=>?_;clear hK;refine Xn 14 ?_;refine Yq ?_;clear hHeld;rcases b5.o with⟨rfl,hwo⟩|⟨rfl,hwo⟩
  .go_wp2;go_ret;exact ad 5 _ vY (by have:=S.o;rw[hwo]at this;exact this) (o.trans<|(Xb (Below.refl _ _) _).drew.mono N)
  have a4:=bf.o;have s:=S.o;rw[hwo]at a4 s;dsimp only at a4 s;let⟨_,_,_,a2,bm,bn⟩:=a4;have al:=Xa s;have bd:=Xa<|ap.o l f hwo;have a7:=Xa bm;have a8:=Xa bn;clear s bm bn bf S ap hwo;go_wp2_with fail
  go_at_call 176
  refine(LP a2 oM a7 a8 (Xa<|O.keep (o.trans<|(Xb (Below.refl _ _) _).drew.mono N) O.1) (Xa<|P.keep (o.trans<|(Xb (Below.refl _ _) _).drew.mono N) P.1)).mono ?_;rintro e A⟨rfl,ar⟩;cases htk:dr l f q with
  |false=>
   go_wp2;go_ret;exact ad 6 _ vY (by have:=al.o;rw[htk]at this;exact this) (Xg (o.trans<|(Xb (Below.refl _ _) _).drew.mono N) ar)
  |true=>
   have aq:=Xa htk;have HQ:Hs (∀W,Below A.1.size A W->Below a.1.size a W/\W.cell? (Hk a.1.size 0)=some (Hp l)/\W.cell? (Hk a.1.size 1)=some (Hp f)):=Xa (λW x=>by
    have x:=Xg ar x;have hs:a.1.size<(a.alloc<|.cells #[Hp l,Hp f] 225).drew.1.size:=by show _<(a.alloc _).1.size;rw[aO];omega
    exact⟨Xg (Xb (Below.refl _ _) _).drew x,(x.cell (p:=Hk a.1.size 0) hs).trans sP,(x.cell (p:=Hk a.1.size 1) hs).trans sP⟩)
   let⟨az,q0,q1⟩:=HQ A<|Below.refl _ _;have a6:=Xa az;have cw:=az.4;clear ar az htk;go_wp2;refine Y7 (λd=>d.cell? (Hk a.1.size 0)=some (Hp l)/\d.cell? (Hk a.1.size 1)=some (Hp f)) λhHeld=>?_;refine Xn 0 ?_;refine Xn 1 ?_;refine Xn 2 ?_;refine Xs 3 λbh hK=>?_;go_simp;refine(IK i (Xa J.symm) oM (by show i<A.1.size;have:=o.4;omega) aA (Xa λE hi=>?_) (Xa λK hf=>R K<|cN _ hf)).mono ?_
   .have Y:=bb.1;have cv:=J.o;let⟨H,hv,Z⟩:=bb.2 (E+1) (by rw[bA];omega);rw[fO]at Z;exact⟨h,1,H,aM oM,by show h<A.1.size;omega,by rw[Nat.add_comm 1 E];exact(a6.cell (p:=Hk h<|E+1) Y).trans hv,Z.keep<|a6.5 i (oN o.4)⟩
   generalize (if q=0 then some ((Hk h 0):Addr)else some (Hk h 1))=fa;rintro e w6⟨G,bl⟩;have G:=Xg (Below.refl A.1.size A).drew G;obtain⟨v6,ok,rfl,z⟩:=Mm bl;have cb:=Xa z;have b3:=Xa G;let⟨a0,p0,p1⟩:=HQ w6 G;have af:=Xa a0;have cx:=a0.4;have cq:=G.4;clear G a0 bl z;refine hK _ _ kP λhHeld=>?_;clear hK;refine Xn 4 ?_;refine Xn 5 ?_;refine Xn 6 ?_;refine Xn 7 ?_;refine Xn 8 ?_;refine Yq ?_;have s:=al.o;rw[aq.o]at s;obtain⟨z,rfl⟩|⟨z,rfl,ho6⟩:=cb.o
   .go_wp2;go_ret;exact ad 7 _ vY (by rw[z]at s;exact s) (Xg o af)
   have e0:C0 (F::r)=0:=by rw[z]at s;exact s
   have be:=Xa<|bd.o aq z;have cc:Hs ((GI (FZ l f q) 0 r).length=q):=Xa (by rw[zj,J.o]);rw[J.o]at ho6;generalize GI (FZ l f q) 0 r=b1 at*;have ba:=Xa (Zk ho6 (by show w.1.size<=A.1.size;have:=o.4;omega));have a9:=Xa λj=>b8 j e0;clear ho6 z s e0 bd al;go_wp2_with fail
   go_at_call 178
   refine(La n _ t k u p B g l f _ (y.keep<|Xg o af) a2 a3 b1).mono ?_;rintro e w7⟨rfl,V⟩;have I:=Xa<|Xg (Xg o af) V;cases hso:dx l f b1 u with
   |none=>
    go_wp2;go_ret;exact r9 I aa (a9 _<|be.trans hso) vY
   |some s'=>
    let⟨_,r0,r1⟩:=HQ w7<|Xg b3 V;have ca:=Xa (Zl ba λi e=>V.5 i (ba.lt i e).2);have bc:=Xa hso;clear V hso;go_wp2_with (go_at_call 179;refine(MC y I a3 (O.keep I O.1) (P.keep I P.1) a2 a7 a8 ca cc.symm oM aq bc).mono ?_;rintro e w8⟨rfl,ac⟩;have ac:=Xa ac)
    go_ret;let⟨cj,cm,cl,h8,k8⟩:=ac.o;exact⟨(Kb.of_below<|I.mono aa).trans k8,aZ ⟨s',a9 _<|be.trans bc,rfl,cj,cm,cl,h8⟩⟩
structure p9(w:Ub)(R M b:Nat)(la:Uy)(ls:Vw):Prop where
 map:M<R/\w.ownsMap prog 9 fh M 15 (OQ 3)
 op:1 < R/\Yy w
 ter:2 < R/\Yb w
 max:4 < R/\ft w
 txt:b<R
 lines:oO w b R la ls
theorem p9.keep{w':Ub}{ls:Vw}(h:p9 w n m k p ls)(a:Below n w w'):p9 w' n m k p ls:=by
 refine⟨⟨h.1.1,?_⟩,⟨h.2.1,h.2.2.keep a h.2.1⟩,⟨h.3.1,h.3.2.keep a h.3.1⟩,⟨h.4.1,aX h.4.2.1 a.4,?_⟩,h.5,h.6.keep a h.5⟩
 .let⟨c,b,d,rest⟩:=h.1.2;exact⟨c,b,(a.5 m h.1.1).trans d,rest⟩
 let⟨f,e⟩:=h.4.2.2;exact⟨f,oB a e h.4.1⟩
structure sW(w:Ub)(R M b:Nat)(la:Uy)(ls:Vw)(V:Int)(B0:Nat)(OUT:Bd)(k:Nat)(s:NX)(va:Uy)(vn vc:Nat)(wr:Ub):Prop where
 below:Below R w wr
 env:p9 wr R M b la ls
 st:Nq wr R (.map (some M)) V B0 s va vn vc
 tot:TT s<=Tn (ls.take k)
 run:dy (ls.drop k) (k+1) s=OUT
def sM(w a:World)(R M:Nat)(V:Int)(b n:Nat)(d:Bd)(e:Ending):Prop :=
 Below R w a/\match d with
  |.bad c l=>e=.returned (T2 c l)
  |.ok s=>match s.2 with
   |some _=>e=.returned (T2 8 ((n+1:Nat):Int))
   |none=>e=.returned .nilIface/\TT s<=100000/\∃f h g,Nq a R (.map (some M)) V b s f h g
theorem KD{a:Bd}{c:Int}(d:Below n w v)(h:a=.bad c g)(b:T=g):sM w v n m t k B a (.returned (.iface 92 (.agg #[Hp c,Hp T]))):=by
 subst h b;exact⟨d,rfl⟩
theorem JA(R M p:Nat)(u:Uy){ls:Vw}(V:Int)(i:Nat)(f:Uy)(h g:Nat)(Y:Nat)(e:Bd)(w:Ub)(E:Hs (n=ls.length))(ao:n<=100001)(D:Hs (Tn ls<=100000))(O:Hs (sW w R M p u ls V i e 0 ⟨[],none⟩ f h g w)):
 Calls prog 85 #[Hn R,.slice u n Y] w λj w'=>sM w w' R M V i n e j:=by
 go_in
 go_wp2
 go_loopw [10] (λt wr=>∃(k:Nat)(s:NX)(f:Uy)(h g:Nat),k<=n/\t=Hp k/\Hs (sW w R M p u ls V i e k s f h g wr)) λt _=>n-(intOf t).toNat
 case atStart=>exact⟨0,_,_,_,_,aN,rfl,O⟩
 obtain⟨k,s,f,h,g,hk,rfl,a⟩:=hrel;by_cases al:k<n
 .have o:k<ls.length:=oN E.o
  let⟨W,X⟩:=a.3.4;have T:Tn (ls.take k)+ls[k].length<=Tn ls:=by
   rw[<-sr,<-X7 o];exact oJ ls<|k+1
  have S:=D.o;have U:=a.4;obtain⟨N,aa,aq,rfl,hg,P,o2,c2,rfl,q,B⟩:=a.2.6 k o;have y:=Xa<|I7 (Xa a.3) (Xa ⟨oN a.2.1.1,a.2.1.2⟩) (Xa a.2.2.2) (Xa a.2.3.2) (Xa a.2.4.2) (Xa oM) (Xa rfl) q.1 q.2 oM (Xa B) (oN a.2.5);have z:Hs (dy (ls.drop k) (k+1) s=match bk s ls[k]with|.bad c=>.bad c (k+1+1)|.ok b=>dy (ls.drop<|k+1) (k+1+1) b):=Xa<|by rw[gZ o,dy];cases bk s ls[k]<;>rfl
  have K:Hs (∀b,bk s ls[k]=.ok b->TT b<=Tn (ls.take<|k+1)):=Xa (λb ab=>by
   have:=sw ab;rw[X7 o,sr];omega)
  have aj:ls[k].length<=100000:=oM;clear q B T S U W X;generalize ls[k]=v at*;cases hlp:bk s v with
  |bad c=>
   have d:Hs (e=.bad c (k+1+1)):=Xa (by rw[<-a.5,z.o,hlp]);generalize v.length=Z at*
   go_wp2_with (go_at_call 139;refine y.mono ?_;rintro j x⟨l,m⟩;obtain⟨rfl,A⟩:j=.returned (Hp c)/\c≠0:=(by
    obtain⟨c',q1,q2,q3⟩|⟨b,q1,_⟩:=m;·rw[hlp]at q1;cases q1;exact⟨q3,q2⟩
    rw[hlp]at q1;cases q1);have H:=Xa l;have P:=(jJ.2 A);clear l m A)
   go_ret;exact KD (a.1.trans<|H.below (dU a.3.4.1) aA aA) d (by push_cast;omega)
  |ok b=>
   have d:Hs (dy (ls.drop<|k+1) (k+1+1) b=e):=Xa (by rw[<-a.5,z.o,hlp]);have J:=Xa<|K.o b hlp;generalize v.length=Z at*
   go_wp2_with (go_at_call 139;refine y.mono ?_;rintro j x⟨l,m⟩;obtain⟨rfl,Q⟩:j=.returned (Hp 0)/\∃f h g,Nq x R (.map (some M)) V i b f h g:=(by
    obtain⟨c',q1,q2,q3⟩|⟨s2,q1,q2,q3⟩:=m;·rw[hlp]at q1;cases q1
    rw[hlp]at q1;cases q1;exact⟨q2,q3⟩);let⟨ac,af,ad,F⟩:=Q;have I:Hs (sW w R M p (some ⟨N,aa,none⟩) ls V i e (k+1) b ac af ad x):=Xa (by
    have G:=l.below (dU a.3.4.1) aA aA;exact⟨a.1.trans G,a.2.keep G,F,J,d⟩);clear l m F)
   exact⟨⟨k+1,_,_,_,_,oM,gM,I⟩,by simp[intOf];omega⟩
 have C:k=ls.length:=oN E.o;have r:=a.5;rw[C,List.drop_length,dy]at r;have d:=Xa r.symm;have c3:=a.3.1.4;clear r C;let⟨ap,L⟩:=s;cases L with
 |some pi=>
  go_wp2;go_ret;exact⟨a.1,by rw[d.o];show _=Ending.returned (T2 8 _);unfold T2;push_cast;rfl⟩
 |none=>
  go_wp2;go_ret;exact⟨a.1,by rw[d.o];exact⟨rfl,aJ (aJ a.4<|oJ _ _) D,_,_,_,a.3⟩⟩
theorem LG{d:Wn}:nQ d=(gn<|C3 d 32).map (λb=>(Bo b:Int)):=by
 unfold nQ gn Bf;by_cases c:(C3 d 32).all Y3=true
 .rw[aU c]
  match h:C3 d 32,c with
  |[],_=>rfl
  |[_],_=>rfl
  |[a,b],c=>
   dsimp only;by_cases e:a=[102,117,110,99]
   .cases hd:Ax b 4 with
    |true=>
     have f:Gb b=Bo b:=by unfold Gb;rw[aU hd]
     rw[aU ⟨rfl,e,by show 0<=Gb b;rw[f];omega⟩,aU ⟨c,e,rfl⟩];show some (Gb b)=_;rw[f];rfl
    |false=>
     have f:Gb b=-1:=by unfold Gb;rw[hd];rfl
     rw[aM (λq=>absurd q.2.2<|by show ¬0<=Gb b;rw[f];decide),aM λq=>absurd q.2.2 vY];rfl
   rw[aM λq=>e q.2.1,aM λq=>e q.2.1];rfl
  |_::_::_::_,_=>
   rw[aM λq=>by have:=q.1;simp at this];rfl
 rw[aM c,aM λq=>by have:=q.1;simp at this]
 match h:C3 d 32,c with
 |[],_=>rfl
 |[_],_=>rfl
 |[a,b],c=>
  dsimp only;rw[aM λq=>c q.1];rfl
 |_::_::_::_,_=>rfl
theorem ft.keep{w':Ub}(h:ft w)(k:Below w.1.size w w'):ft w':=⟨aX h.1 k.4,by
 let⟨m,a⟩:=h.2;exact⟨m,oB k a h.1⟩⟩
theorem MN{s:NX}{a:Wn}{c:Int}(h:bk s a=.bad c):c≠0:=by
 unfold bk at h;split at h;·cases h;decide
 split at h
 .rename_i q;cases h;exact q
 cases hs:je s (Bf a)with
 |none=>rw[hs]at h;cases h;decide
 |some b=>rw[hs]at h;cases h
theorem Ab:∀(ls:Vw)(i:Nat)(s:NX){c:Int}{l:Nat},dy ls i s=.bad c l->c≠0
 |[],_,_,_,_,h=>by cases h
 |a::ls,i,s,c,l,h=>by
  rw[dy]at h;cases hl:bk s a with
  |bad d=>rw[hl]at h;cases h;exact MN hl
  |ok b=>rw[hl]at h;exact Ab ls (i+1) b h
def M9(s:ByteArray)(c l:Int):Uj:=.iface 150 (.agg #[.string s,T2 c l])
def zI(w a:Ub)(o:jg)(e:Ending):Prop:=Below w.1.size w a /\
 ((o.1=0/\o.2=0/\∃b c,e=.returned (.tuple #[.agg #[.int .i64 o.3.1,.slice b o.3.2.length c],.nilIface])/\Xp a w.1.size a.1.size b o.3.2) \/
  (o.1≠0/\o=au o.1 o.2/\∃s,e=.returned (.tuple #[.agg #[.int .i64 0,.slice none 0 0],M9 s o.1 o.2])))
theorem nu{o:jg}{s:ByteArray}{c:Int}(k:Below w.1.size w v)(h:o=au c n)(a:c≠0)(b:t=n):zI w v o (.returned (.tuple #[.agg #[Hp 0,Hq],.iface 150 (.agg #[.string s,.iface 92 (.agg #[Hp c,Hp t])])])):=by
 subst h b;exact⟨k,aZ ⟨a,rfl,s,rfl⟩⟩
theorem Mn{b:Bd}{g:Ending}(h:sM w v n m t k B b g):∃d,g=.returned d/\Below n w v/\((∃c l,b=.bad c l/\d=T2 c l)\/(∃a f,b=.ok ⟨a,some f⟩/\d=T2 8 ((B+1:Nat):Int))\/∃a,b=.ok ⟨a,none⟩/\d=.nilIface/\TT ⟨a,none⟩<=100000/\∃i o j,Nq v n (.map (some m)) t k ⟨a,none⟩ i o j):=by
 let⟨e,h⟩:=h
 match b,h with
 |.bad c l,h=>exact⟨_,h,e,bC ⟨c,l,rfl,rfl⟩⟩
 |.ok ⟨a,some f⟩,h=>exact⟨_,h,e,aZ<|bC ⟨a,f,rfl,rfl⟩⟩
 |.ok ⟨a,none⟩,⟨h,h1,h2⟩=>exact⟨_,h,e,aZ<|aZ ⟨a,rfl,rfl,h1,h2⟩⟩
def ip(s:ByteArray)(c l:Int):Uj:=.tuple #[.agg #[.int .i64 0,.slice none 0 0],.iface 150 (.agg #[.string s,.iface 92 (.agg #[.int .i64 c,.int .i64 l])])]
theorem Jl(a2:Uy)(ac c bl ad:Nat)(a:Wn)(w:Ub)(hx:Hs (ac=a.length))(br:ac<=c)(hc:c<=9223372036854775807)(ha:Hs (Yx w bl ad a2 a))(J:Hs (ft w))(hB:ad<=w.1.size)(l:Hs (Yy w))(m:Hs (Yb w)):
 Calls prog 41 #[.slice a2 ac c] w λi w'=>zI w w' (C2 a) i:=by
 let⟨s,q⟩:∃s,w.alloc (.cells #[Hp 0,Hq] 37)=s:=⟨_,rfl⟩;have C:Hs (Below w.1.size w s):=Xa (by rw[<-q];exact Xb (Below.refl w.1.size w) _);have bv:w.1.size<s.1.size:=by rw[<-q,aO];omega
 have t:Hs (∀W,Below s.1.size s W->Below w.1.size w W/\w.1.size<W.1.size/\W.cell? (Hk w.1.size 0)=some (Hp 0)/\W.cell? (Hk w.1.size 1)=some Hq/\∀L,W.frozen? (Hk w.1.size L)=false):=Xa (λW K=>by
  have k2:=K.4;have kb:=K.5 w.1.size bv;exact⟨C.trans<|K.mono oM,oM,(Xc kb).trans (by rw[<-q];simp),(Xc kb).trans (by rw[<-q];simp),λL=>(bJ kb).trans (by rw[<-q];simp)⟩)
 have a1:=Xa<|IR hx br hc (Xa<|ha.keep (C.mono hB)) (Xa<|ft.keep J C) oM
 go_in
 go_wp2_with fail
 clear q
 go_at_call 82
 refine a1.mono ?_;rintro i B⟨hq,Y⟩;let⟨e,ca,r0,r1,rz⟩:=t B Y;have O:=Xa e;have aj:=Xa Y;have F:=Xa hq;clear e Y hq a1;by_cases v:100000<a.length
 .have d:Hs (C2 a=au 1 0):=Xa (by unfold C2;rw[aU v]);rw[F.1 v];unfold T2;go_wp2
  all_goals
   refine cC (v:=ip ⟨#[116,101,120,116]⟩ 1 0) (by simp[ip,results,results41,go_sem, *]) rfl ?_;exact nu ((O.setCell aA _).setCell aA _) d vY rfl
 by_cases j:a.getLast?≠some 10
 .have d:Hs (C2 a=au 2 0):=Xa (by unfold C2;rw[aM v,aU j]);rw[F.2.1 oM j];unfold T2;clear j;go_wp2
  all_goals
   refine cC (v:=ip ⟨#[116,101,120,116]⟩ 2 0) (by simp[ip,results,results41,go_sem, *]) rfl ?_;exact nu ((O.setCell aA _).setCell aA _) d vY rfl
 have U:=Classical.not_not.1 j;have a8:0<a.length:=by cases a with|nil=>simp at U|cons cg cf=>simp
 obtain⟨p,L,rfl,⟨_,b1⟩,-⟩:=ha 0 a8;let⟨f,g,z⟩:∃f g,C3 a.dropLast 10=f::g:=by
  have:0<(C3 a.dropLast 10).length:=by unfold C3;rw[l8];omega
  match hcs:C3 a.dropLast 10,this with
  |f::g,_=>exact⟨f,g,rfl⟩
 have a7:f.length<=100000/\Tn g<=100000/\g.length<=100000:=by
  have q1:Tn (C3 a.dropLast 10)<=_:=pT 10 a.dropLast [];have q2:(C3 a.dropLast 10).length=a.dropLast.count 10+1:=by unfold C3;rw[l8]
  have q3:=List.count_le_length (a:=(10:UInt8)) (l:=a.dropLast);have q4:Tn (f::g)=f.length+Tn g:=by simp[Tn]
  rw[z]at q1 q2;rw[List.length_dropLast]at q1 q3;simp only[bO]at q1;rw[bA]at q2;omega
 let⟨h,ab⟩:∃h,g.length=h:=⟨_,rfl⟩;have R:=Xa ab;have k:Hs (C2 a=p8 (f::g) (nQ f)):=Xa (by unfold C2 Fa;rw[aM v,aM j,z];rfl);rw[LG]at k;obtain⟨b',o',G,K,ea,hg,hk,rfl,A⟩:=F.2.2 oM U;cases ea;rw[z,bA,ab]at hk;subst hk;rw[z]at A;obtain⟨v0,ce,o1,c1,rfl,aa,a6⟩:=A.2 0 sP;have bq:=A.1;have bi:=Xa A;have b4:(1:Int)<=(h:Int)+1:=oM;have b5:(0:Int)<(h:Int)+1:=oM;have bf:=Xa a7;have b3:h<=100000:=oM;have a5:p<B.1.size:=oM;have ap:=Xa<|IN p o1 f.length c1 f B (Xa rfl) aa.1 aa.2 oM (Xa a6) (Xa<|(J.keep C).keep aj) a5;clear z ab j A aa a6 F a7 a8 U ha hx;go_wp2_with fail
 go_at_call 83
 refine ap.mono ?_;rintro i w2⟨rfl,Z⟩;have al:=Xa<|Xg aj Z;let⟨e,cb,s0,s1,sz⟩:=t w2 al;have P:=Xa e;have be:=Xa Z;clear Z e ap;cases hho:gn (C3 f 32)with
 |none=>
  have d:Hs (C2 a=au 3 1):=Xa (by rw[k.o,hho];rfl);unfold NV T2;clear k hho;go_wp2
  all_goals
   refine cC (v:=ip ⟨#[104,101,97,100,101,114]⟩ 3 1) (by simp[ip,results,results41,go_sem, *]) rfl ?_;exact nu ((P.setCell aA _).setCell aA _) d vY rfl
 |some hf=>
  rw[hho]at k;dsimp only[Option.map]at k;dsimp only[NV];generalize (Bo hf:Int)=V at*;let⟨u,H⟩:∃u,dy g 1 ⟨[],none⟩=u:=⟨_,rfl⟩;have o:Hs (C2 a=mi (h+1) V u):=Xa (by rw[k.o,<-H];show mi (f::g).length V _=_;rw[bA,R.o];rfl);have E:Hs (∀c r,u=.bad c r->c≠0):=Xa λc r i=>Ab g 1 ⟨[],none⟩ (H.trans i);have ar:=Xa H;clear H hho k;have a0:=Xa (λ(b:Ub)(M:Nat)(T:Uy)(k3:Below B.1.size B b)(hM:M<b.1.size)(bt:b.ownsMap prog 9 fh M 15 (OQ 3))(bp:h=0\/T=some (Hk G 1))=>
   have z3:=k3.4;have ka:=Xb (Below.refl b.1.size b) (.cells #[.map (some M),Hp V,Hq,.bool false] 156);have kx:=k3.trans<|ka.mono z3;have kw:=Xg O kx;have zz:=aO b<|.cells #[.map (some M),Hp V,Hq,.bool false] 156;have b6:=R.o
   JA b.1.size M p T V (b.1.size+1) none 0 0 h u (b.alloc<|.cells #[.map (some M),Hp V,Hq,.bool false] 156) (Xa R.symm) oM (Xa bf.2.1) (Xa ⟨Below.refl _ _,⟨⟨hM,bt.alloc _⟩,⟨oN l.1,l.keep kw l.1⟩,⟨oN m.1,m.keep kw m.1⟩,⟨oN J.1,J.keep kw⟩,oM,λbb hi=>by
    obtain h0|rfl:=bp;·omega
    let⟨b0,hv,a9⟩:=bi.2 (bb+1) (by rw[bA];omega);rw[fO]at a9;exact⟨G,1,b0,rfl,oM,by rw[Nat.add_comm 1 bb];exact oB kx hv bq,a9.keep<|kx.5 p a5⟩⟩,⟨⟨sP,sP,sP,sP⟩,gw.start _ _ oM,λL=>sP,⟨oM,oM⟩⟩,by simp[TT,Xx],by rw[List.drop_zero];exact ar⟩))
  go_wp2_with (first|(go_at_call 84;refine(I1 (Xa<|l.keep P l.1) (Xa<|m.keep P m.1)).mono ?_;rintro i b⟨rfl,I,X⟩;have bh:=Xa X;have bx:=X.lt;have bc:=Xa<|Xg be I;have Q:=Xa<|Xg al I;have b7:=I.4;let⟨e,cc,u0,u1,uz⟩:=t b Q;clear I e X)|(go_at_call 85;refine(a0 b _ _ bc bx bh<|MG).mono ?_;generalize (if h=0 then some ((Hk G 0):Addr)else some (Hk G 1))=T;intro i N hq;obtain⟨v5,rfl,x,a4⟩:=Mn hq;have D:=Xa a4;have n:=Xa x;clear x a4 hq))
  have x:=(Xb (Below.refl b.1.size b) _).trans n;have ao:=Xa<|Q.trans (x.mono Q.4);let⟨e,cd,t0,t1,tz⟩:=t N ao;have n:=Xa e;clear e x ar a0;obtain⟨c,r,rfl,rfl⟩|⟨pre,pi,rfl,rfl⟩|⟨pre,rfl,rfl,ba,va5,vn5,vc5,hst5⟩:=D.o
  .have d:Hs (C2 a=au c r):=o;have HC:=Xa<|E.o c r rfl;unfold T2;clear D o E;go_simp;go_wp2
   all_goals
    refine cC (v:=ip ⟨#[98,111,100,121]⟩ c r) (by simp[ip,results,results41,go_sem, *]) rfl ?_;exact nu ((n.setCell aA _).setCell aA _) d HC rfl
  .have d:Hs (C2 a=au 8 (h+1)):=o;unfold T2;clear D o E;go_simp;go_wp2
   all_goals
    refine cC (v:=ip ⟨#[98,111,100,121]⟩ 8 ((h+1:Nat):Int)) (by simp[ip,results,results41,go_sem, *]) rfl ?_;exact nu ((n.setCell aA _).setCell aA _) d vY rfl
  clear D;have S:=Xa hst5;have bm:=hst5.1.2;have bn:=hst5.1.3;have a3:b.1.size<N.1.size:=oN hst5.4;have ba:pre.length+Xx pre<=100000:=ba;clear hst5 E;go_simp;go_wp2_with fail
  go_at_call 43
  refine(JK V va5 vn5 vc5 pre (b.1.size+1) N.1.size N (Xa S.2.2.blks) (Xa S.2.1) (Xa oM) aA (Xa (l.keep n l.1).old) (Xa (m.keep n m.1).old)).mono ?_;rw[WY];rintro i w6⟨rfl,y⟩;have bd:=Xa<|Xg ao y;let⟨e,b8,z0,z1,zz⟩:=t w6 bd;have af:=Xa e;have aq:=Xa y;have d1:=oB y bm a3;have d2:=oB y bn a3;clear y e;have az:Hs (C2 a=if iu ⟨V,pre⟩=true then ⟨0,0,⟨V,pre⟩⟩else au 9 0):=Xa o.o;clear o;cases hvd:iu ⟨V,pre⟩with
  |false=>
   have d:Hs (C2 a=au 9 0):=Xa (by rw[az.o,hvd];rfl);go_wp2
   all_goals
    refine cC (v:=ip ⟨#[102,117,110,99,116,105,111,110]⟩ 9 0) (by simp[ip,results,results41,go_sem, *]) rfl ?_;exact nu ((af.setCell aA _).setCell aA _) d vY rfl
  |true=>
   have d:Hs (C2 a=⟨0,0,⟨V,pre⟩⟩):=Xa (by rw[az.o,hvd];rfl);go_wp2;refine cC (v:=.tuple #[.agg #[Hp V,.slice va5 vn5 vc5],.nilIface]) (by simp[results,results41,go_sem, *]) rfl ?_;let⟨e5,bo⟩:=S.2;have s6:=aq.4;refine⟨(af.setCell (p:=Hk w.1.size 0) aA (Hp V)).setCell (p:=Hk w.1.size 1) aA (.slice va5 vn5 vc5),bC ?_⟩;rw[d.o];refine⟨rfl,rfl,va5,vc5,by rw[show vn5=pre.length from e5],?_⟩;exact(bo.blks.keepS λp v j=>((Below.heap_setCell _ _ _ _<|by dsimp only;omega).trans (Below.heap_setCell _ _ _ _<|by dsimp only;omega)).trans (aq.5 p j)).mono oM (by rw[Xd,Xd];omega)
section
open Go.Extern.Stop Go.Stop Go.Extern
theorem MU:
 Calls prog 42 #[.nilIface,a] w λe b=>e=.returned (.bool false)/\b=w:=by
 go_in
 go_wp2;go_ret;exact⟨rfl,rfl⟩
theorem Qo(t:Addr)(w:Ub):(ReflectliteValue.unpack<|.iface 94 (.pointer (some t))).run prog w
 = .ok (.agg #[.pointer (some ⟨7,94,none⟩),.pointer (some ⟨w.1.size,0,none⟩),.int .u64 150]) (w.alloc<|.cells #[.pointer (some t)] 94):=vZ
theorem Tryz.typeP(a : Addr)(w : Ub): (ReflectliteValue.methodAny (ReflectliteValue.valueError "reflectlite.Value.Type" 0) (λt _ _ _ => ReflectliteType.toType t) #[.agg #[.pointer (some ⟨7, 94, none⟩), .pointer (some a), .int .u64 150]]).run prog w
 = .ok (.iface 235 (.agg #[Ho 7 94])) w:=vZ
theorem Qp(w:Ub):((ReflectliteType.abiMethod λt=>(λa:Nat=>Value.int IntKind.u8 (a:Int)) <$> Rtype.kind t) #[Ho 7 94]).run prog w=.ok (.int .u8 22) w:=vZ
theorem Qq(w:Ub):((ReflectliteType.abiMethod λt=>(λa:Nat=>Value.int IntKind.u8 (a:Int)) <$> Rtype.kind t) #[Ho 7 92]).run prog w=.ok (.int .u8 25) w:=vZ
theorem ze(z:Sem Uj)(f:TypeId->Addr->Nat->Nat->Sem Uj):ReflectliteValue.method z f #[A]=(ReflectliteValue.parts A >>= λq=>match q with|none=>z|some (t,a,fl)=>f t a fl<|fl%32):=rfl
theorem Qr(a:Addr)(w:Ub):(ReflectliteValue.parts<|.agg #[Ho 7 94,.pointer (some a),.int .u64 150]).run prog w=.ok (some (94,a,150)) w:=vZ
theorem Qs(a p:Addr)(W:Ub)(ha:W.cell? a=some (.pointer (some p))):
 (ReflectliteValue.method (ReflectliteValue.valueError "reflectlite.Value.IsNil" 0) ReflectliteValue.isNil #[.agg #[.pointer (some ⟨7, 94, none⟩), .pointer (some a), .int .u64 150]]).run Tryz.prog W = .ok (.bool false) W := by
 rw[ze];simp only[lG,Qr,Result.andThen];simp[ReflectliteValue.isNil,loadVar,isAgg,underlying,underlying94,ha,Result.andThen]
theorem Qt(w:Ub):(ReflectliteType.method ReflectliteType.elem #[.agg #[Ho 7 94]]).run prog w=.ok (.iface 235 (.agg #[Ho 7 92])) w:=vZ
theorem Tryz.implementsL(w : Ub): (ReflectliteType.relation "Implements" ReflectliteType.implements_ #[.agg #[.pointer (some ⟨7, 92, none⟩)], .iface 235 (.agg #[.pointer (some ⟨7, 88, none⟩)])]).run prog w = .ok (.bool true) w := by kernel_rfl
theorem Qu(v:Uj)(w:Ub):(ReflectliteType.typeOf #[.iface 92 v]).run prog w=.ok (.iface 235 (.agg #[Ho 7 92])) w:=vZ
theorem Qv(v:Uj)(w:Ub):(ReflectliteType.typeOf #[.iface 150 v]).run prog w=.ok (.iface 235 (.agg #[Ho 7 150])) w:=vZ
theorem Tryz.assignL(w : Ub): (ReflectliteType.relation "AssignableTo" ReflectliteType.assignableTo #[.agg #[.pointer (some ⟨7, 92, none⟩)], .iface 235 (.agg #[.pointer (some ⟨7, 92, none⟩)])]).run prog w = .ok (.bool true) w := by kernel_rfl
theorem Tryz.assignF(w : Ub): (ReflectliteType.relation "AssignableTo" ReflectliteType.assignableTo #[.agg #[.pointer (some ⟨7, 150, none⟩)], .iface 235 (.agg #[.pointer (some ⟨7, 92, none⟩)])]).run prog w = .ok (.bool false) w := by kernel_rfl
theorem Qw(c l:Uj)(w:Ub):(ReflectliteValue.unpack<|.iface 92 (.agg #[c,l])).run prog w
 = .ok (.agg #[.pointer (some ⟨7,92,none⟩),.pointer (some ⟨w.1.size,0,none⟩),.int .u64 153]) (w.alloc<|.cells #[c,l] 92):=vZ
theorem Qx(w:Ub):(Rtype.elem? 94).run prog w=.ok (some 92) w:=vZ
theorem Qy(p:Addr)(w:Ub):(ReflectliteValue.mk 92 p ReflectliteValue.flagAddr).run prog w=.ok (.agg #[Ho 7 92,.pointer (some p),.int .u64 409]) w:=vZ
theorem Qz(a p:Addr)(W:Ub)(ha:W.cell? a=some (.pointer (some p))):
 (ReflectliteValue.method (ReflectliteValue.valueError "reflectlite.Value.Elem" 0) ReflectliteValue.elem #[.agg #[.pointer (some ⟨7, 94, none⟩), .pointer (some a), .int .u64 150]]).run Tryz.prog W
  = .ok (.agg #[Ho 7 92,.pointer (some p),.int .u64 409]) W:=by
 rw[ze];simp only[lG,Qr,Result.andThen];simp[ReflectliteValue.elem,loadVar,isAgg,underlying,underlying94,ha,Result.andThen,Qx,Qy]
end
section
open Go.Extern.Stop Go.Stop Go.Extern
theorem Tryz.methodKind(h : Uj)(w : Ub): (Go.method 511 235 (.agg #[h]) "Elem").run prog w = .ok (287, .agg #[h]) w := by kernel_rfl
theorem Tryz.methodImplements(h : Uj)(w : Ub): (Go.method 511 235 (.agg #[h]) "Implements").run prog w = .ok (288, .agg #[h]) w := by kernel_rfl
theorem Tryz.methodAssignableTo(h : Uj)(w : Ub): (Go.method 511 235 (.agg #[h]) "AssignableTo").run prog w = .ok (285, .agg #[h]) w := by kernel_rfl
theorem Tryz.methodUnwrap(s c : Uj)(w : Ub): (Go.method 511 150 (.agg #[s, c]) "Unwrap").run prog w = .ok (276, .agg #[s, c]) w := by kernel_rfl
theorem Q1(s c:Uj)(w:Ub):(Instr.typeAssert (.iface 150 (.agg #[s,c])) 88 240 true).run prog w=.ok (.tuple #[.nilIface,.bool false]) w:=run_typeAssert_lacksB underlying240 vZ vZ ..
theorem Q2(s c:Uj)(w:Ub):(Instr.typeAssert (.iface 150 (.agg #[s,c])) 88 243 true).run prog w=.ok (.tuple #[.iface 150 (.agg #[s,c]),.bool true]) w:=vZ
theorem Q3(a:Addr)(w:Ub):(ReflectliteValue.parts<|.agg #[Ho 7 92,.pointer (some a),.int .u64 409]).run prog w=.ok (some (92,a,409)) w:=vZ
theorem Q4(a:Addr)(w:Ub):(ReflectliteValue.parts<|.agg #[Ho 7 92,.pointer (some a),.int .u64 153]).run prog w=.ok (some (92,a,153)) w:=vZ
theorem Q5(w:Ub):(Rtype.directlyAssignable 92 92).run prog w=.ok true w:=vZ
end
section
open Go.Extern.Stop Go.Stop Go.Extern
theorem Q6(T b:Nat)(c l:Int)(k d:Uj)(W:Ub)(g:W.cell? ⟨b,0,none⟩=some (.int .i64 c))(h:W.cell? ⟨b,1,none⟩=some (.int .i64 l))(i:W.cell? ⟨T,0,none⟩=some k)(j:W.cell? ⟨T,1,none⟩=some d)(a:∀o,W.frozen? ⟨T,o,none⟩=false):
 (ReflectliteValue.set #[.agg #[.pointer (some ⟨7,92,none⟩),.pointer (some ⟨T,0,none⟩),.int .u64 409],.agg #[.pointer (some ⟨7,92,none⟩),.pointer (some ⟨b,0,none⟩),.int .u64 153]]).run prog W
  = .ok (.tuple #[]) ((W.setCell ⟨T,0,none⟩ (.int .i64 c)).setCell ⟨T,1,none⟩ (.int .i64 l)):=by
 have e:(W.setCell (Hk T 0) (Hp c)).cell? (Hk T 1)=some d:=by
  exact(cJ sP).trans j
 have f:(W.setCell (Hk T 0) (Hp c)).frozen? (Hk T 1)=false:=by
  simp[a]
 delta ReflectliteValue.set
 delta ReflectliteValue.set.match_3
 rw[dif_pos<|by rfl];simp only[Array.getLit,List.getElem_toArray,eM,fO];simp only[lG,Q3,Q4,Result.andThen];simp[ReflectliteValue.flagAddr,loadVar,loadCells,loadCellsFrom,g,h,Result.andThen,Q5,storeVar,Value.cells,storeCells,Addr.add];rw[run_store prog W (Hk T 0) _ _ (by rfl)];simp[i,a];rw[run_store prog _ (Hk T 1) _ _ (by rfl)];simp[e,f]
theorem Tryz.methodKindP(h : Uj)(w : Ub): (Go.method 511 235 (.agg #[h]) "Kind").run prog w = .ok (266, h) w := by kernel_rfl
theorem I8(s c:Uj)(w:Ub):Calls prog 276 #[.agg #[s,c]] w λe a=>e=.returned c/\a=w.alloc (.cells #[s,c] 150):=by
 go_in
 go_wp2;go_ret;exact⟨rfl,rfl⟩
def PT(w:Ub)(T:Nat)(s:Uj)(c l:Int):Ub :=
 ((((((w.alloc<|.cells #[.pointer (some ⟨T,0,none⟩)] 94).alloc (.cells #[.pointer (some ⟨7,94,none⟩),.pointer (some ⟨w.1.size,0,none⟩),.int .u64 150] 161)).alloc (.cells #[.pointer (some ⟨7,94,none⟩),.pointer (some ⟨w.1.size,0,none⟩),.int .u64 150] 161)).alloc (.cells #[s,.iface 92 (.agg #[.int .i64 c,.int .i64 l])] 150)).alloc (.cells #[.int .i64 c,.int .i64 l] 92)).setCell ⟨T,0,none⟩ (.int .i64 c)).setCell ⟨T,1,none⟩ (.int .i64 l)
theorem MT{T:Nat}(s:Uj)(c l:Int){o1 o2:Uj}{w:Ub}(hg:w.cell? (Hk 0 0)=some (.iface 235 (.agg #[Ho 7 88])))(ht0:w.cell? (Hk T 0)=some o1)(ht1:w.cell? (Hk T 1)=some o2)(hf0:∀o,w.frozen? (Hk T o)=false):
 Calls prog 42 #[.iface 150 (.agg #[s,.iface 92 (.agg #[Hp c,Hp l])]),.iface 94 (Hn T)] w λev w'=>ev=.returned (.bool true)/\w'=PT w T s c l:=by
 have x0:=@run_callFunc_extern prog 86 _ (λargs=>ReflectliteValue.unpack<|args.getD 0 (.tuple #[])) func86 vZ vZ vZ vZ;have x1 := @run_callFunc_extern Tryz.prog 87 _ (ReflectliteValue.methodAny (ReflectliteValue.valueError "reflectlite.Value.Type" 0) λt _ _ _ => ReflectliteType.toType t) Tryz.func87 (by kernel_rfl) (by kernel_rfl) (by kernel_rfl) (by kernel_rfl);have x2 := @run_callFunc_extern Tryz.prog 88 _ (ReflectliteValue.method (ReflectliteValue.valueError "reflectlite.Value.IsNil" 0) ReflectliteValue.isNil) Tryz.func88 (by kernel_rfl) (by kernel_rfl) (by kernel_rfl) (by kernel_rfl);have x3:=@run_callFunc_extern prog 266 _ (ReflectliteType.abiMethod λt=>do pure (.int .u8 (<-Rtype.kind t))) func266 vZ vZ vZ vZ;have x4:=@run_callFunc_extern prog 287 _ (ReflectliteType.method ReflectliteType.elem) func287 vZ vZ vZ vZ;have x5 := @run_callFunc_extern Tryz.prog 288 _ (ReflectliteType.relation "Implements" ReflectliteType.implements_) Tryz.func288 (by kernel_rfl) (by kernel_rfl) (by kernel_rfl) (by kernel_rfl);have x6:=@run_callFunc_extern prog 140 _ ReflectliteType.typeOf func140 vZ vZ vZ vZ;have x7 := @run_callFunc_extern Tryz.prog 285 _ (ReflectliteType.relation "AssignableTo" ReflectliteType.assignableTo) Tryz.func285 (by kernel_rfl) (by kernel_rfl) (by kernel_rfl) (by kernel_rfl);have x8 := @run_callFunc_extern Tryz.prog 141 _ (ReflectliteValue.method (ReflectliteValue.valueError "reflectlite.Value.Elem" 0) ReflectliteValue.elem) Tryz.func141 (by kernel_rfl) (by kernel_rfl) (by kernel_rfl) (by kernel_rfl)
 have x9:=@run_callFunc_extern prog 142 _ ReflectliteValue.set func142 vZ vZ vZ vZ;have y0:=Qu;have y1:=Qv;have y2:=Tryz.methodAssignableTo;have y3:=Tryz.assignL;have y4:=Tryz.assignF;have y5:=Qw;have y6:=Qo;have y7:=Tryz.typeP;have y8:=Tryz.methodKindP;have y9:=Tryz.methodKind;have y10:=Tryz.methodImplements;have y11:=Qp;have y12:=Qq;have y13:=Qt;have y14:=Tryz.implementsL;have y15:=Q1;have y16:=Q2;have y17:=Tryz.methodUnwrap;have hlt:0 < w.1.size:=aI w _ hg;have htl:T<w.1.size:=aI w _ ht0;have hg2:((w.alloc<|.cells #[Hn T] 94).alloc (.cells #[Ho 7 94,Hn w.1.size,.int .u64 150] 161)).cell? (Hk 0 0)=some (.iface 235 (.agg #[Ho 7 88])):=by
  rw[bP _ _ (Hk 0 0) (by simp only[aO];omega),bP _ _ (Hk 0 0) hlt];exact hg
 have n8:=Qs (Hk w.1.size 0) (Hk T 0) ((w.alloc<|.cells #[Hn T] 94).alloc (.cells #[Ho 7 94,Hn w.1.size,.int .u64 150] 161)) sP;have b4:Below w.1.size w ((((w.alloc<|.cells #[Hn T] 94).alloc (.cells #[Ho 7 94,Hn w.1.size,.int .u64 150] 161)).alloc (.cells #[Ho 7 94,Hn w.1.size,.int .u64 150] 161)).alloc (.cells #[s,.iface 92 (.agg #[Hp c,Hp l])] 150)):=Xb (Xb (Xb (Xb (Below.refl _ _) _) _) _) _;have b5:Below w.1.size w (((((w.alloc<|.cells #[Hn T] 94).alloc (.cells #[Ho 7 94,Hn w.1.size,.int .u64 150] 161)).alloc (.cells #[Ho 7 94,Hn w.1.size,.int .u64 150] 161)).alloc (.cells #[s,.iface 92 (.agg #[Hp c,Hp l])] 150)).alloc (.cells #[Hp c,Hp l] 92)):=Xb b4 _;have el:=Qz (Hk w.1.size 0) (Hk T 0) ((((w.alloc<|.cells #[Hn T] 94).alloc (.cells #[Ho 7 94,Hn w.1.size,.int .u64 150] 161)).alloc (.cells #[Ho 7 94,Hn w.1.size,.int .u64 150] 161)).alloc (.cells #[s,.iface 92 (.agg #[Hp c,Hp l])] 150)) (by rw[bP _ _ (Hk w.1.size 0) (by simp;omega),bP _ _ (Hk w.1.size 0) (by simp;omega)];simp);have st:=Q6 T (w.1.size+1+1+1+1) c l o1 o2 (((((w.alloc<|.cells #[Hn T] 94).alloc (.cells #[Ho 7 94,Hn w.1.size,.int .u64 150] 161)).alloc (.cells #[Ho 7 94,Hn w.1.size,.int .u64 150] 161)).alloc (.cells #[s,.iface 92 (.agg #[Hp c,Hp l])] 150)).alloc (.cells #[Hp c,Hp l] 92))
  (by rw[World.cell?_alloc_at _ _ _ _ sP];rfl) (by rw[World.cell?_alloc_at _ _ _ _ sP];rfl)
  (oB b5 ht0 htl) (oB b5 ht1 htl) λo=>(bJ<|b5.5 T htl).trans (hf0 o)
 go_in
 go_wp2;refine wp_loop_rounds 2 ?_;rw[rounds_succ];go_wp2;rw[rounds_succ];go_wp2;go_ret;exact⟨rfl,rfl⟩
end
def ErrT(w:Ub):Prop:=w.cell? ⟨0,0,none⟩=some (.iface 235 (.agg #[.pointer (some ⟨7,88,none⟩)]))
theorem ErrT.keep{w':Ub}(h:ErrT w)(k:Below w.1.size w w'):ErrT w':=(k.cell<|aI w _ h).trans h
theorem Ly{c:Int}(h:Below w.1.size w v)(b:w.1.size<=n):Below w.1.size w (PT v n a c t) :=
 (((((((h.alloc h.4 _).alloc (by have:=h.4;simp only[aO];omega) _).alloc (by have:=h.4;simp only[aO];omega) _).alloc (by have:=h.4;simp only[aO];omega) _).alloc (by have:=h.4;simp only[aO];omega) _).setCell b _).setCell b _)
theorem LE{T:Nat}{c:Int}{o1 o2:Uj}(h:v=PT w T a c t)(d:w.cell? (Hk T 0)=some o1)(i:w.cell? (Hk T 1)=some o2):
 v.cell? (Hk T 0)=some (Hp c)/\v.cell? (Hk T 1)=some (Hp t)/\(∀b,b<w.1.size->b≠T->v.1[b]?=w.1[b]?)/\w.1.size<=v.1.size:=by
 have e:=aI w _ d;subst h;unfold PT;generalize j:((((w.alloc<|.cells #[Hn T] 94).alloc (.cells #[Ho 7 94,Hn w.1.size,.int .u64 150] 161)).alloc (.cells #[Ho 7 94,Hn w.1.size,.int .u64 150] 161)).alloc (.cells #[a,.iface 92 (.agg #[Hp c,Hp t])] 150)).alloc (.cells #[Hp c,Hp t] 92)=W;have k:Below w.1.size w W:=by rw[<-j];exact Xb (Xb (Xb (Xb (Xb (Below.refl _ _) _) _) _) _) _
 have g:=oB k d e;have e1:=oB k i e;have e2:(W.setCell (Hk T 0) (Hp c)).cell? (Hk T 1)=some o2:=(cJ sP).trans e1;refine⟨?_,fQ _ _ _ e2,λb l f=>?_,by rw[Xd,Xd];exact k.4⟩;·exact(cJ sP).trans (fQ _ _ _ g)
 exact(Below.heap_setCell _ _ _ _ f).trans ((Below.heap_setCell _ _ _ _ f).trans (k.5 b l))
theorem Lp{t:Wn}(P:Hs (n=t.length))(aa:n<=c)(Z:c<=9223372036854775807)(ha:Hs (Yx w m k p t))(M:Hs (ft w))(Y:k<=w.1.size)(C:Hs (Yy w))(D:Hs (Yb w))(q:Hs (ErrT w)):
 Calls prog 16 #[.slice p n c] w λe u=>∃val,e=.returned val/\Below w.1.size w u/\nN u w.1.size u.1.size val (C2 t):=by
 have g:=Xb (Below.refl w.1.size w) (.cells #[Hp 0,Hp 0,Hp 0,Hq] 39);have ac:(w.alloc<|.cells #[Hp 0,Hp 0,Hp 0,Hq] 39).1.size=w.1.size+1:=aO _ _;have v:=Xa<|Jl p n c m k t (w.alloc<|.cells #[Hp 0,Hp 0,Hp 0,Hq] 39) P aa Z (Xa<|ha.keep (g.mono Y)) (Xa<|ft.keep M g) oM (Xa<|C.keep g C.1) (Xa<|D.keep g D.1);have L:Hs (∀W,Below (w.alloc<|.cells #[Hp 0,Hp 0,Hp 0,Hq] 39).1.size (w.alloc<|.cells #[Hp 0,Hp 0,Hp 0,Hq] 39) W->Below w.1.size w W/\w.1.size<W.1.size/\W.cell? (Hk w.1.size 0)=some (Hp 0)/\W.cell? (Hk w.1.size 1)=some (Hp 0)/\W.cell? (Hk w.1.size 2)=some (Hp 0)/\W.cell? (Hk w.1.size 3)=some Hq/\(∀o,W.frozen? (Hk w.1.size o)=false)/\ErrT W):=Xa (λW F=>by
  have k2:=F.4;have b:=F.5 w.1.size oM;have a:=g.trans<|F.mono oM;exact⟨a,oM,(Xc b).trans sP,(Xc b).trans sP,(Xc b).trans sP,(Xc b).trans sP,λo=>(bJ b).trans sP,ErrT.keep q a⟩)
 clear P ha M C D q g;generalize C2 t=o at*;by_cases A:o.1=0
 .have y:Hs (Calls prog 41 #[.slice p n c] (w.alloc<|.cells #[Hp 0,Hp 0,Hp 0,Hq] 39) λe d=>∃f j,e=.returned (.tuple #[.agg #[Hp o.3.1,.slice f o.3.2.length j],.nilIface])/\Below (w.alloc<|.cells #[Hp 0,Hp 0,Hp 0,Hq] 39).1.size (w.alloc<|.cells #[Hp 0,Hp 0,Hp 0,Hq] 39) d/\Hs (o.2=0/\Xp d (w.alloc<|.cells #[Hp 0,Hp 0,Hp 0,Hq] 39).1.size d.1.size f o.3.2)):=Xa (v.mono (λe d z=>by
   obtain⟨a,⟨_,i,f,j,l,B⟩|⟨h,_⟩⟩:=z;·exact⟨f,j,l,a,⟨i,B⟩⟩
   exact absurd A h))
  clear v
  go_in
  go_wp2_with (go_at_call 41;refine y.mono ?_;rintro e d⟨f,j,rfl,r,N⟩;let⟨a,O,G,H,I,J,rz,_⟩:=L d r;have x:=Xa a;clear r a)
  go_wp2_with (go_at_call 42;refine(MU).mono ?_;rintro e w2⟨rfl,rfl⟩)
  go_wp2;refine cC (v:=.agg #[Hp 0,Hp 0,Hp o.3.1,.slice f o.3.2.length j]) (by simp[results,results16,go_sem, *]) rfl ?_;refine⟨_,rfl,?_,f,j,?_,?_⟩;·exact Xb (Xb (x.setCell aA _ |>.setCell aA _ |>.setCell aA _ |>.setCell aA _) _) _
  .rw[A,N.1];rfl
  refine(N.2.keepS λab h i=>?_).mono oM ?_;·rw[Below.heap_alloc _ _ _ (by simp;omega),Below.heap_alloc _ _ _ (by simp;omega),Below.heap_setCell _ _ _ _ (by dsimp only;omega),Below.heap_setCell _ _ _ _ (by dsimp only;omega),Below.heap_setCell _ _ _ _ (by dsimp only;omega),Below.heap_setCell _ _ _ _<|by dsimp only;omega]
  simp;omega
 have y:Hs (Calls prog 41 #[.slice p n c] (w.alloc<|.cells #[Hp 0,Hp 0,Hp 0,Hq] 39) λe d=>∃s,e=.returned (.tuple #[.agg #[Hp 0,Hq],.iface 150 (.agg #[.string s,.iface 92 (.agg #[Hp o.1,Hp o.2])])])/\Below (w.alloc<|.cells #[Hp 0,Hp 0,Hp 0,Hq] 39).1.size (w.alloc<|.cells #[Hp 0,Hp 0,Hp 0,Hq] 39) d/\Hs (o=au o.1 o.2)):=Xa (v.mono (λe d z=>by
  obtain⟨a,⟨h,_⟩|⟨_,i,s,l⟩⟩:=z;·exact absurd h A
  exact⟨s,l,a,i⟩))
 clear v;have S:Hs (∀(W:Ub)(T:Nat)(s:ByteArray),ErrT W->W.cell? (Hk T 0)=some (Hp 0)->W.cell? (Hk T 1)=some (Hp 0)->(∀Q,W.frozen? (Hk T Q)=false)->Calls prog 42 #[.iface 150 (.agg #[.string s,.iface 92 (.agg #[Hp o.1,Hp o.2])]),.iface 94 (Hn T)] W λX u=>X=.returned (.bool true)/\u=PT W T (.string s) o.1 o.2):=Xa λW T s h i l B=>MT (.string s) o.1 o.2 h i l B
 go_in
 go_wp2_with (go_at_call 41;refine y.mono ?_;rintro e d⟨s,rfl,r,K⟩;let⟨a,O,G,H,I,J,rz,q⟩:=L d r;have x:=Xa a;have V:=Xa q;clear r a q)
 go_wp2_with (go_at_call 42;refine(S _ _ _ (ErrT.keep V<|Xb (Xb (Below.refl _ _) _) _) sP sP λQ=>sP).mono ?_;rintro e R⟨rfl,E⟩;let⟨f0,f1,f2,f3⟩:=LE (T:=d.1.size+1) (o1:=Hp 0) (o2:=Hp 0) E sP sP;have b:=(f2 w.1.size (by simp;omega) oM).trans ((Below.heap_alloc _ _ _<|by simp;omega).trans (Below.heap_alloc _ _ _ O));have s0:=(Xc b).trans G;have s1:=(Xc b).trans H;have s2:=(Xc b).trans I;have s3:=(Xc b).trans J;have sz:=λo=>(bJ (a:=(Hk w.1.size o)) b).trans (rz o);(have U:Hs (Below w.1.size w R):=Xa<|by rw[E];exact Ly (Xb (Xb x _) _) oM);have ad:w.1.size<R.1.size:=(by simp at f3;omega);clear E b f2 f3 G H I J rz)
 refine cC (v:=.agg #[Hp o.1,Hp o.2,Hp 0,Hq]) (by simp[results,results16,go_sem, *]) rfl ?_;refine⟨_,rfl,?_,none,0,?_,?_⟩;·exact(U.setCell aA _ |>.setCell aA _ |>.setCell aA _ |>.setCell aA _)
 .rw[K.o];rfl
 rw[K.o];exact λaf hi=>absurd hi<|by simp[au]
end Go.Proofs.YtcfdhbigppockaaGreatDoor
