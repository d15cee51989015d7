import Derived.Test.YtcncjgijikoapaaGreatDoorSPa
import Derived.Laws.AppendOwn
namespace Go.Proofs.YtcncjgijikoapaaGreatDoor
set_option maxHeartbeats 4000000
set_option maxRecDepth 100000
open _root_ renaming Array.size->Z,Nat->N,Int->I,rfl->R,Option.some->S,Option.none->U,Bool.false->Sn,List.length->J,absurd->Sz,Bool.true->So,Decidable.decide->Jd
open Go renaming World.cell?->E,World.alloc->D,World.setCell->Se,IntKind.i64->S6,Ending.returned->Rt,Calls->Sk,World.ownsRow->Sx,Obj.cells->Sc,RowKit.Below->Sw,RowKit.intOf->JB
open Value renaming int->Si,agg->Sa,tuple->St,slice->X,bool->Sb
open Go.RowKit Go.Proofs.Tryz
variable{n m k B g i j c:N}{w v u:Ub}{a:Uj}{p P:Uy}{l L:Wc}
section
def sV(s:ju j9)(r:N)(v:j9):ju j9:=if r<64 then ⟨Sl s.1 (r:I) v,s.2⟩else ⟨s.1,v⟩
theorem Aa(s:ju j9)(v:j9){r q:N}(d:r<65)(c:q<65):Sm (sV s r v) q=if q=r then v else Sm s q:=by
 unfold Sm sV Sl;by_cases h:r<64
 .rw[aU h];by_cases a:q<64
  .rw[aU a,aU a];by_cases e:q=r;·rw[aU e];dsimp only;rw[aU O]
   rw[aM e];dsimp only;rw[aM O]
  rw[aM a,aM a,aM O]
 rw[aM h];by_cases a:q<64;·rw[aU a,aU a,aM O]
 rw[aM a,aU O]
def SS(w:Ub)(g n:N)(S_:N->ju j9):Prop:=w.rowIs g 139 (n*130) λq=>nU (S_<|q/130) (q%130)
def Rr(S_:N->ju j9)(b:N)(s:ju j9):N->ju j9:=λq=>if q=b then s else S_ q
section
variable {w w': Ub} {g n b: N} {S_ S': N -> ju j9}
theorem SS.cell(h:SS w g n S_)(d:b<n){r:N}(e:r<65):E w (A g (b*130+r*2))=S (H (Sm (S_ b) r).1)/\E w (A g (b*130+r*2+1))=S (H (Sm (S_ b) r).2):=by have a:=World.rowIs.cell h (i:=b*130+r*2) O;have c:=World.rowIs.cell h (i:=b*130+r*2+1) O;rw[show(b*130+r*2)/130=b by omega,show(b*130+r*2)%130=r*2 by omega]at a;rw[show(b*130+r*2+1)/130=b by omega,show(b*130+r*2+1)%130=r*2+1 by omega]at c;unfold nU at a c;rw[aU O,show r*2/2=r by omega]at a;rw[aM O,show(r*2+1)/2=r by omega]at c;exact⟨a,c⟩
theorem SS.put(h:SS w g n S_)(b:N){r:N}(d:r<65)(v:j9):SS (Se (Se w ⟨g,b*130+r*2,U⟩ (Si S6 v.1)) ⟨g,b*130+r*2+1,U⟩ (Si S6 v.2)) g n (Rr S_ b<|sV (S_ b) r v) :=
 World.rowIs.congr (World.rowIs.set (World.rowIs.set h _ _) _ _) (λq e=>by
  unfold Rr nU;by_cases e1:q=b*130+r*2+1;·rw[aU e1,e1,aU (show(b*130+r*2+1)/130=b by omega),show(b*130+r*2+1)%130=r*2+1 by omega,aM O,Aa _ _ d O,aU O]
  rw[aM e1];by_cases a:q=b*130+r*2;·rw[aU a,a,aU (show(b*130+r*2)/130=b by omega),show(b*130+r*2)%130=r*2 by omega,aU O,Aa _ _ d O,aU O]
  rw[aM a];by_cases c:q/130=b;·rw[aU c,c,Aa _ _ d O,aM<|show ¬q%130/2=r by omega]
  rw[aM c])
theorem SS.of_block(h:SS w g n S_)(e:w'.1[g]?=w.1[g]?):SS w' g n S_:=World.rowIs.of_block h e
end
def yL(x:Yg):Prop:=(x.1=11/\(0<=x.2/\x.2<64)/\0<=x.a/\x.a<64)\/(x.1=12/\0<=x.a/\x.a<64)\/(x.1=13/\0<=x.2/\x.2<64)
theorem Cs(w:Ub)(g i j:N)(u v:Uj)(o:Obj):w.grownBy (D (Se (Se w ⟨g,i,U⟩ u) ⟨g,j,U⟩ v) o).drew (S g):=by
 have c:Z (Se (Se w (A g i) u) (A g j) v).1=Z w.1:=sP;refine⟨R,R,R,?_,λq d f=>?_⟩
 .show (Z w.1)<=Z (D (Se (Se w (A g i) u) (A g j) v) o).1;rw[aO,c];omega
 have a:q≠g:=λe=>f (by rw[e]);exact G (gF _ _ _<|by rw[c];exact d) (G (cY a) (cY a))
theorem Dt{g n b:N}(o:N)(S_:N->ju j9){x:Yg}(w:Ub)(f:Q (SS w g n S_))(h:b<n)(m:Q (o=b*130))(p:Q (yL x)):
 Sk prog 61 #[Ho g o,Sa #[H x.1,H x.2,H x.a,H x.b,H x.5]] w λe w'=>e=Rt (St #[])/\w.grownBy w' (S g)/\SS w' g n (Rr S_ b<|r6 (S_ b) x):=by
 have v:∃K a,K<65/\a < 65/\r6 (S_ b) x=sV (S_ b) K (Sm (S_ b) a)/\((x.1=11/\x.2=(K:I)/\x.a=(a:I))\/(x.1=12/\K=64/\x.a=(a:I))\/(x.1=13/\x.2=(K:I)/\a=64)):=by
  unfold r6 sV Sm;obtain⟨e,⟨d0,d1⟩,a0,a1⟩|⟨e,a0,a1⟩|⟨e,d0,d1⟩:=p.o
  .obtain⟨K,c⟩:=bX d0;obtain⟨a,d⟩:=bX a0;exact⟨K,a,O,O,by rw[aU e,aU O,aU O,c,d],bC ⟨e,c,d⟩⟩
  .obtain⟨a,d⟩:=bX a0;exact⟨64,a,O,O,by rw[aM O,aU e,aM O,aU O,d],aZ<|bC ⟨e,R,d⟩⟩
  obtain⟨K,c⟩:=bX d0;exact⟨K,64,O,O,by rw[aM O,aM O,aU O,aM O,c],aZ<|aZ ⟨e,c,R⟩⟩
 obtain⟨K,a,c,d,l,y⟩:=v;obtain⟨M,F,C,P,T⟩:=x;have z:=World.rowIs.lt f.o;have V:∀q,w.frozen? (A g q)=Sn:=λq=>World.rowIs.frozen f.o q;obtain⟨c0,c1⟩:=f.cell h d;obtain⟨k,e1⟩:=f.cell h c;have i:=f.put b c<|Sm (S_ b) a;rw[<-m.o]at c0 c1 k e1 i;rw[l];generalize Rr S_ b (sV (S_ b) K (Sm (S_ b) a))=S' at*;generalize (Sm (S_ b) a)=B at*;generalize (Sm (S_ b) K)=L at*;obtain⟨r,s⟩:=B;obtain⟨W,K_⟩:=L;dsimp only at*;have t:=Y λj=>Cs w g (o+K*2) (o+K*2+1) (H r) (H s) j;have u:=Y (λ(j:Obj)=>(i.of_block (w':=(D (Se (Se w (A g (o+K*2)) (H r)) (A g (o+K*2+1)) (H s)) j).drew) (gF _ _ _<|by simpa using z)));clear f m p l i h;obtain⟨rfl,rfl,rfl⟩|⟨rfl,rfl,rfl⟩|⟨rfl,rfl,rfl⟩:=y
 all_goals
  try simp only[show o+64*2=o+128 from R,show o+128+1=o+129 from R]at c0 c1 k e1
  go_in
  go_wp2;go_region;go_wp2
  go_end0
  exact⟨R,t.o _,u.o _⟩
end
def pX(b a:List I):List Value:=match b,a with
 |v::b,r::a=>Si S6 v::Si S6 r::pX b a
 |_,_=>[]
theorem Dh:∀{vs rs:Wc}(v r:I),J vs=J rs->pX (vs++[v]) (rs++[r])=pX vs rs++[H v,H r]
 |[],[],_,_,_=>R
 |a::vs,b::rs,v,r,h=>by have:=Dh (vs:=vs) (rs:=rs) v r (by simpa using h);simp only[cW,pX,this]
theorem Ab:∀{vs rs:Wc}(i:N)(h:i<J vs)(a:i<J rs),(pX vs rs)[i*2]?=S (H vs[i])/\(pX vs rs)[i*2+1]?=S (H rs[i])
 |[],_,_,h,_=>Sz h sP
 |_::_,[],_,_,h=>Sz h sP
 |v::vs,r::rs,0,_,_=>⟨R,R⟩
 |v::vs,r::rs,i+1,h,a=>by have:=Ab (vs:=vs) (rs:=rs) i (by simpa using h) (by simpa using a);rw[show(i+1)*2=i*2+1+1 by omega];exact this
theorem IG:(prog.info? 146).map (λi=>(i.8,i.3,i.4))=S (S<|Sa #[H 0,H 0],2,16):=vZ
theorem Bk(ha:Q (Xf w B g p l))(M:Q (Xf w i j P L))(e:Q (n=J l))(F:Q (m=J l))(x:Q (J L=J l))(hn:n<=1048576)(Y_:g<=Z w.1)(Z_:j<=Z w.1):
 Sk prog 116 #[X p n c,X P m k] w λK b=>∃o,K=Rt o/\Sw (Z w.1) w b/\Sx b (Z w.1) 146 2 o (J l) (pX l L):=by
 obtain⟨U_,N_,R_,S_,T_⟩:=fX IG;have T:m=n:=oP e.o F.o;subst T;have V:Q (Sx (D w (Sc #[] 146)) (Z w.1) 146 2 (Hl (Z w.1) 0 0) 0 []):=Y<|eI (base:=Z w.1) (e:=146) (size:=2) w #[] 0 sP sP R
 go_in
 go_wp2
 go_loopw [5,11] (λC h wr=>∃a:N,a<=m/\h=H a/\Q (Sw (Z w.1) w wr)/\Q (Sx wr (Z w.1) 146 2 C a (pX (l.take a) (L.take a)))) λ_ h _=>m - (JB h).toNat
 .exact⟨0,aN,R,Y<|Xb Rf _,V⟩
 obtain⟨a,hk,rfl,d,f⟩:=hrel;by_cases ac:a<m
 .have v:a<J l:=oN e.o;have u:a<J L:=oN x.o;obtain⟨b_,o_,rfl,⟨_,aa⟩,r⟩:=ha.o a v;obtain⟨X_,o',rfl,⟨_,ab⟩,s⟩:=M.o a u;have c0:=G (XU d.o O) r;have c1:=G (XU d.o O) s;have W:Q (pX (l.take<|a+1) (L.take<|a+1)=pX (l.take a) (L.take a)++[H l[a],H L[a]]):=Y (by rw[bN v,bN u,Dh _ _<|by simp;omega]);clear r s;generalize l[a]=V_ at*;generalize L[a]=W_ at*;have ad:=d.4;go_wp2_with (at_builtin;refine YC IG f ?_)
  intro v1 w1 z t _ _;have J_:=Y z;have F_:=Y (Xy (Xb d.o _) t (f.alloc _) aA SB);clear z t;go_wp2;exact⟨⟨a+1,O,gM,F_,Y<|by rw[W.o];exact J_.o⟩,SA⟩
 have G_:Q (a=J l):=Y<|oN e.o;have q:Q (l.take a=l/\L.take a=L):=Y ⟨aW<|oN e.o,aW<|oP e.o x.o⟩;go_wp2;go_ret;have y:=f.o;rw[q.1,q.2,G_.o]at y;exact⟨_,R,d.o,y⟩
section
open Go.Maps
structure je where
 w:Ub
 base:N
 B0:N
 cb:N
 sg:N
 mb:N
 og:N
 wg:N
 V:N
 n:N
 c:N
 mn:N
 mc:N
 oc:N
 wc:N
 sc:N
 a:Uy
 ma:Uy
 k:I
 xs:Wi
 M:List ag
 cs:Wc
def je.ik(K:je):N:=(K.n+63)/64
def je.kE(K:je)(v:N):Lit:=p9 (v:I) (Kp K.cs (v:I))
def sN(b:Wi)(v d:N)(a:Wc):Prop :=
 (a=[]/\∃i,Wl b v d<|i+1)\/(a≠[]/\∃x q,b[d]?=S x/\q∈x.1/\q.1=(v:I)/\a=q.2)
def je.old(K:je)(b:N):Prop:=b<K.2/\b≠K.4/\b≠K.5/\b≠K.6
structure kW(K:je):Prop where
 ca:l8 K.V K.xs K.cs K.k
 hk:K.k<=64
 lw:sX K.xs K.cs K.M
 hn:K.n=J K.xs
 hm:K.mn=J K.M
 n1:K.n<=1000
 m1:K.mn<=5000
 ne:K.4≠K.5/\K.4≠K.6/\K.5≠K.6
 lt:K.4<K.2/\K.5<K.2/\K.6<K.2
 b0:K.3<=K.4/\K.3<=K.5/\K.3<=K.6
 bl:Xp K.w 0 K.3 K.a K.xs
 ml:d7 K.w 0 K.3 K.ma K.M
 ogo:K.old K.7
 wgo:K.old K.8
 org:∀v,v<K.V->∃d al pa pc,sN K.xs v d al/\d<K.n/\E K.w ⟨K.7,v*2,U⟩=S (Si S6 (d:I))/\E K.w ⟨K.7,v*2+1,U⟩=S (X pa (J al) pc)/\Xf K.w 0 K.3 pa al
 way:∀t,t<K.n->∃g c,E K.w ⟨K.8,t,U⟩=S (X g (J (AQ K.xs 0 (t:I))) c)/\∀i (hi:i<J (AQ K.xs 0 (t:I))),∃(gb p:N)(via:I),g=S ⟨gb,0,U⟩/\K.old gb/\E K.w ⟨gb,i*2,U⟩=S (Si S6 (p:I))/\E K.w ⟨gb,i*2+1,U⟩=S (Si S6 via)/\(AQ K.xs 0 (t:I))[i]=(p:I)/\∃hp:p<J K.xs,rn K.cs K.xs K.M p K.xs[p] (t:I) via
def je.fr(K:je)(W:Ub):Prop:=K.2<=Z W.1/\∀b,K.old b->W.1[b]?=K.w.1[b]?
variable {K: je} {W W': Ub}
theorem kW.sm(h:kW K)(f:K.fr W):YA 0 K.3 K.w W:=λb _ a=>f.2 b ⟨oP h.b0 h.9,oN h.b0,oN h.b0,oN h.b0⟩
theorem kW.orgs(h:kW K)(f:K.fr W){v:N}(m:v<K.V):∃d a b c,sN K.xs v d a/\d<K.n/\E W (A K.7 (v*2))=S (H d)/\E W (A K.7 (v*2+1))=S (X b (J a) c)/\Xf W 0 K.3 b a:=by obtain⟨d,a,b,c,g,i,j,k,l⟩:=h.15 v m;have e:=f.2 _ h.13;exact⟨d,a,b,c,g,i,G (Xc e) j,G (Xc e) k,l.keepS<|h.sm f⟩
theorem kW.ways(h:kW K)(f:K.fr W){t:N}(n:t<K.n):∃g c,E W (A K.8 t)=S (X g (J (AQ K.xs 0 (t:I))) c)/\∀i (e:i<J (AQ K.xs 0 (t:I))),∃(a p:N)(b:I),g=S (A a 0)/\K.old a/\E W (A a (i*2))=S (H p)/\E W (A a (i*2+1))=S (H b)/\(AQ K.xs 0 (t:I))[i]=(p:I)/\∃o:p<J K.xs,rn K.cs K.xs K.M p K.xs[p] (t:I) b:=by obtain⟨g,c,k,l⟩:=h.16 t n;refine⟨g,c,G (Xc<|f.2 _ h.14) k,λi e=>?_⟩;obtain⟨a,p,b,j,d,c1,c2,m⟩:=l i e;exact⟨a,p,b,j,d,G (Xc<|f.2 _ d) c1,G (Xc<|f.2 _ d) c2,m⟩
theorem je.fr.below(f:K.fr W)(h:Sw (Z W.1) W W'):K.fr W':=⟨oP h.4 f.1,λb a=>G (h.5 b<|oP f.1 a.1) (f.2 b a)⟩
theorem je.fr.grown{g:N}(f:K.fr W)(h:W.grownBy W' (S g))(c:¬K.old g):K.fr W':=⟨oP h.4 f.1,λb a=>G (h.5 b (oP f.1 a.1) λe=>c<|by cases e;exact a) (f.2 b a)⟩
def R8(a:Wc)(ws:List (N×N)):Wo:=ws.flatMap λp=>[H (p.1:I),H (p.2:I),H (Kp a (p.2:I))]
theorem BH(a:Wc):∀ws,J (R8 a ws)=J ws*3
 |[]=>R
 |p::ws=>by have:=BH a ws;unfold R8 at this |-;rw[jF,aQ,this];simp;omega
theorem Bf{a:Wc}{ws:List (N×N)}{b v:N}:R8 a (ws++[(b,v)])=R8 a ws++[H b,H v,H (Kp a (v:I))]:=by simp[R8]
theorem Mt(a:Wc)(ws:List (N×N))(b v:N):(R8 a<|ws++[(b,v)])[J ws*3]?=S (H b)/\(R8 a<|ws++[(b,v)])[J ws*3+1]?=S (H v)/\(R8 a<|ws++[(b,v)])[J ws*3+2]?=S (H (Kp a (v:I))):=by
 rw[Bf];have:=BH a ws;refine⟨?_,?_,?_⟩<;>rw[eV O,this];·simp
 .rw[show J ws*3+1-J ws*3=1 by omega];rfl
 rw[show J ws*3+2-J ws*3=2 by omega];rfl
def je.box(K:je)(wv:Uj):Zh:=#[H (K.V:I),X K.a K.n K.c,H K.k,X K.ma K.mn K.mc,Hl K.7 K.V K.oc,Hl K.8 K.n K.wc,Hl K.5 K.mn K.sc,.map (S K.6),wv]
def pU(G_:N->Option N):N->N
 |0=>0
 |V+1=>pU G_ V+(G_ V).isSome.toNat
theorem I7(G_:N->Zm):∀V,pU G_ V<=V
 |0=>aA
 |V+1=>by have:=I7 G_ V;show pU G_ V+_<=_;have:(G_ V).isSome.toNat<=1:=Bool.toNat_le _;omega
theorem I5{G_:N->Zm}{v g:N}:∀V,V<=v->pU (λu=>if u=v then S g else G_ u) V=pU G_ V
 |0,_=>R
 |V+1,h=>by show pU _ V+((λu=>if u=v then S g else G_ u) V).isSome.toNat=pU G_ V+_;dsimp only;rw[I5 V O,aM<|show ¬V=v by omega]
theorem I1{G_:N->Zm}{v g:N}(h:G_ v=U):∀V,v<V->pU (λu=>if u=v then S g else G_ u) V=pU G_ V+1
 |V+1,hv=>by
  show pU _ V+((λu=>if u=v then S g else G_ u) V).isSome.toNat=pU G_ V+_+1;dsimp only;by_cases e:V=v
  .subst e;rw[I5 V aA,aU R,h];rfl
  rw[I1 h V O,aM e];omega
structure EW(K:je)(W:Ub)(S_:N->ju j9)(D_:DataW Unit)(cnt:N)(Wd:Vp)(G_:N->Zm)(wv:Uj)(ws:List (N×N)):Prop where
 fr:K.fr W
 bx:Bx W K.4 (K.box wv) 134
 src:SS W K.5 K.mn S_
 map:W.ownsMap prog 146 pT K.6 cnt D_
 wrk:Sx W K.2 148 3 wv (J ws) (R8 K.cs ws)
 set:∀v g,v<K.V->G_ v=S g->K.2<=g/\W.rowIs g 173 K.ik λi=>Si .u64 (Wd v i)
 wok:∀v,XA<|Wd v
 non:∀v,G_ v=U->∀b,Xh (Wd v) b=Sn
 inj:∀v v' g,v<K.V->v' < K.V->G_ v=S g->G_ v'=S g->v=v'
 key:∀v,v<K.V->Maps.has D_ (K.kE v)=(G_ v).isSome/\∀g,G_ v=S g->∀z,D_.atKey (K.kE v) z=qd g K.ik
 std:∀v b,v<K.V->b<K.n->Xh (Wd v) b=So->OD K.xs v b 0
 wks:∀p∈ws,p.1<K.n/\p.2<K.V/\OD K.xs p.2 p.1 0
 cnt:cnt<=pU G_ K.V
 len:J ws+Rb K.n Wd K.V<=2000000
variable {S_ S': N -> ju j9} {D_: DataW Unit} {cnt: N} {Wd: N -> N -> N} {G_: N -> Zm} {wv: Uj} {ws: List (N×N)}
theorem C5(h:Sw (Z W.1) W W'):W.grownBy W' U:=⟨h.1,h.2,h.3,h.4,λb a _=>h.5 b a⟩
theorem EW.calm(h:EW K W S_ D_ cnt Wd G_ wv ws)(a:Sw (Z W.1) W W'):EW K W' S_ D_ cnt Wd G_ wv ws where
 fr:=h.1.below a
 bx:=h.2.keep<|a.5 _ h.2.lt
 src:=h.3.of_block<|a.5 _ (World.rowIs.lt h.3)
 map:=h.4.kept (C5 a) sP
 wrk:=Zl h.5 λb e=>a.5 b (h.5.lt b e).2
 set:=λv g d c=>⟨(h.6 v g d c).1,(h.6 v g d c).2.of_block (a.5 _ (h.6 v g d c).2.lt)⟩
 wok:=h.7
 non:=h.8
 inj:=h.9
 key:=h.10
 std:=h.11
 wks:=h.12
 cnt:=h.13
 len:=h.14
theorem EW.sour(c:kW K)(h:EW K W S_ D_ cnt Wd G_ wv ws)(a:W.grownBy W' (S K.5))(j:SS W' K.5 K.mn S'):EW K W' S' D_ cnt Wd G_ wv ws where
 fr:=h.1.grown a λe=>e.2.2.1 R
 bx:=h.2.grown a λe=>c.8.1<|gQ e
 src:=j
 map:=h.4.kept a λe=>c.8.2.2 (gQ e).symm
 wrk:=Zl h.5 λb e=>a.5 b (h.5.lt b e).2 λg=>by cases g;have:=(h.5.lt _ e).1;have:=c.9;omega
 set:=λv i f d=>⟨(h.6 v i f d).1,(h.6 v i f d).2.of_block (a.5 _ (h.6 v i f d).2.lt λg=>by cases g;have:=(h.6 v _ f d).1;have:=c.9;omega)⟩
 wok:=h.7
 non:=h.8
 inj:=h.9
 key:=h.10
 std:=h.11
 wks:=h.12
 cnt:=h.13
 len:=h.14
theorem EW.fresh(k:kW K)(h:EW K W S_ D_ cnt Wd G_ wv ws){v j:N}(M:v<K.V)(o:G_ v=U){m n:Ub}(x:Sw (Z W.1) W m)(V:Z W.1<=j)(r:m.rowIs j 173 K.ik λ_=>Si .u64 ((0:N):I))(B:n.ownsMap prog 146 pT K.6 (cnt+1) (D_.put (K.kE v) (qd j K.ik)))(i:m.grownBy n (S K.6))(P:∀u,u<K.V->K.kE u=K.kE v->u=v):EW K n S_ (D_.put (K.kE v) (qd j K.ik)) (cnt+1) (λu=>if u=v then (λ_=>0)else Wd u) (λu=>if u=v then S j else G_ u) wv ws:=by
 have f:=h.calm x;have J_:K.2<=Z W.1:=h.1.1;have C:Rb K.n (λu=>if u=v then (λ_=>0)else Wd u) K.V=Rb K.n Wd K.V:=by
  have:∀q,Rb K.n (λu=>if u=v then (λ_=>0)else Wd u) q=Rb K.n Wd q:=λq=>by
   induction q with
   |zero=>rfl
   |succ q F=>
    show Rb _ _ q+nO _ _=Rb _ _ q+nO _ _;rw[F];dsimp only;by_cases e:q=v
    .subst e;rw[aU R];congr 1;unfold nO;congr 1;refine lW λb _=>?_;rw[h.8 q o b,Z3]
    rw[aM e]
  exact this _
 refine⟨f.1.grown i λe=>e.2.2.2 R,f.2.grown i λe=>k.8.2.1<|gQ e,f.3.of_block (i.5 _ (World.rowIs.lt f.3) λe=>k.8.2.2<|gQ e),B,?_,?_,?_,?_,?_,?_,?_,h.12,by rw[I1 o _ M];exact Nat.succ_le_succ h.13,by rw[C];exact h.14⟩;·exact Zl f.5 λb e=>i.5 b (f.5.lt b e).2 λa=>by cases a;have:=(f.5.lt _ e).1;have:=k.9;omega
 .intro u d c g
  try dsimp only at g |-
  by_cases e:u=v
  .rw[aU e]at g;cases g;rw[aU e];exact⟨O,r.of_block (i.5 _ r.lt λa=>by cases a;have:=k.9;omega)⟩
  rw[aM e]at g |-;have:=f.6 u d c g;exact⟨this.1,this.2.of_block (i.5 _ this.2.lt λa=>by cases a;have:=k.9;omega)⟩
 .intro u
  try dsimp only
  by_cases e:u=v;·rw[aU e];intro L;simp
  rw[aM e];exact h.7 u
 .intro u c b
  try dsimp only at c |-
  by_cases e:u=v;·rw[aU e];exact Z3
  rw[aM e]at c |-;exact h.8 u c b
 .intro u T d s t e1 e2
  try dsimp only at e1 e2
  have lim:∀u d,u<K.V->G_ u=S d->d < Z W.1:=λu d f w=>(h.6 u d f w).2.lt;by_cases e:u=v<;>by_cases a:T=v;·omega
  .rw[aU e]at e1;rw[aM a]at e2;cases e1;have:=lim _ _ t e2;omega
  .rw[aM e]at e1;rw[aU a]at e2;cases e2;have:=lim _ _ s e1;omega
  rw[aM e]at e1;rw[aM a]at e2;exact h.9 _ _ _ s t e1 e2
 .intro u c
  try dsimp only
  by_cases e:u=v
  .subst e;rw[aU R];exact⟨Maps.has_put_same h.4.isMap (Df) _,λd g z=>by cases g;exact Maps.atKey_put_same h.4.isMap (Df) _ _⟩
  rw[aM e];have p:K.kE u≠K.kE v:=λa=>e<|P u c a;exact⟨G (Maps.has_put_other p _) (h.10 u c).1,λd g z=>G (Maps.atKey_put_other p _ _) ((h.10 u c).2 d g z)⟩
 intro u b c y l
 try dsimp only at l
 by_cases e:u=v;·rw[aU e,Z3]at l;cases l
 rw[aM e]at l;exact h.11 u b c y l
end
section
open Go.Maps
variable {K: je} {W W': Ub} {S_ S': N -> ju j9} {D_: DataW Unit} {cnt: N} {Wd: N -> N -> N} {G_: N -> Zm} {wv: Uj} {ws: List (N×N)}
theorem EW.apart(h:EW K W S_ D_ cnt Wd G_ wv ws){v g:N}(d:v<K.V)(b:G_ v=S g):S g≠wv.ownBlock:=by obtain⟨c,a,_,_⟩:=(h.6 v g d b).2;exact rJ (E_:=c) a h.5 vY
theorem EW.added(n:kW K)(h:EW K W S_ D_ cnt Wd G_ wv ws){v g b:N}(j:v<K.V)(d:G_ v=S g)(o:b<K.n)(q:Xh (Wd v) b=Sn)(t:OD K.xs v b 0)(c:W.grownBy W' (S g))(s:W'.rowIs g 173 K.ik λy=>Si .u64 (YH (Wd v) b y)):EW K W' S_ D_ cnt (λu=>if u=v then YH (Wd v) b else Wd u) G_ wv ws/\Rb K.n (λu=>if u=v then YH (Wd v) b else Wd u) K.V+1<=Rb K.n Wd K.V:=by
 have w:=IQ (V:=K.V) o q (λx=>Z8) j;have p:=(h.6 v g j d).1;have z:=n.9;refine⟨⟨h.1.grown c (λe=>by have:=e.1;omega),h.2.grown c (λe=>by have:=gQ e;omega),h.3.of_block (c.5 _ (World.rowIs.lt h.3) λe=>by have:=gQ e;omega),h.4.kept c (λe=>by have:=gQ e;omega),Zl h.5 λr e=>c.5 r (h.5.lt r e).2 λk=>h.apart j d (by rw[e,k]),?_,?_,?_,h.9,h.10,?_,h.12,h.13,oN h.14⟩,w⟩
 .intro u m a i
  try dsimp only
  by_cases e:u=v
  .subst e;rw[d]at i;cases i;rw[aU R];exact⟨p,s⟩
  rw[aM e];have:=h.6 u m a i;refine⟨this.1,this.2.of_block<|c.5 _ this.2.lt λk=>e<|h.9 _ _ _ a j i ?_⟩;rw[d,<-k]
 .intro u
  try dsimp only
  by_cases e:u=v;·rw[aU e];exact oV (h.7 v) b
  rw[aM e];exact h.7 u
 .intro u a x
  try dsimp only
  by_cases e:u=v;·subst e;rw[d]at a;cases a
  rw[aM e];exact h.8 u a x
 intro u x a l f
 try dsimp only at f
 by_cases e:u=v
 .subst e;rw[aU R,Z8]at f;by_cases e2:x=b;·subst e2;exact t
  exact h.11 u x a l<|by simpa [e2]using f
 rw[aM e]at f;exact h.11 u x a l f
theorem EW.push(d:kW K)(h:EW K W S_ D_ cnt Wd G_ wv ws){a:Uj}{b v:N}(c:W.grownBy W' wv.ownBlock)(j:Sx W' K.2 148 3 a (J ws+1) (R8 K.cs ws++[Si S6 (b:I),Si S6 (v:I),Si S6 (Kp K.cs (v:I))]))(o:b<K.n/\v<K.V/\OD K.xs v b 0)(n:J ws+1+Rb K.n Wd K.V<=2000000):EW K (Se W' ⟨K.4,8,U⟩ a) S_ D_ cnt Wd G_ a (ws++[(b,v)]):=by
 have lt:=d.9;have x:=h.1.1;have Rq:∀r,wv.ownBlock=S r->K.2<=r:=λr e=>(h.5.lt r e).1;have s:∀r,a.ownBlock=S r->K.2<=r:=λr e=>(j.lt r e).1;have low:∀q,q<K.2->q≠K.4->(Se W' (A K.4 8) a).1[q]?=W.1[q]?:=λq w l=>G (cY l) (c.5 q O λe=>by have:=Rq q e.symm;omega);refine⟨⟨by have:=c.4;simp;omega,λq f=>G (low q f.1 f.2.1) (h.1.2 q f)⟩,?_,h.3.of_block<|low _ lt.2.1 (kA d.8.1),?_,?_,?_,h.7,h.8,h.9,h.10,h.11,?_,h.13,?_⟩
 .have m:Bx W' K.4 (K.box wv) 134:=h.2.keep (c.5 _ h.2.lt λe=>by have:=Rq _ e.symm;omega);exact m.set 8 a
 .exact(h.4.kept c λe=>by have:=Rq _ e.symm;omega).setCell (a:=(A K.4 8)) (kA d.8.2.1) _
 .rw[Bf,aQ];exact Zl j λr e=>cY (show r≠K.4 by have:=s r e;omega)
 .intro u g k i;have:=h.6 u g k i;exact⟨this.1,this.2.of_block<|G (cY (show g≠K.4 by have:=this.1;omega)) (c.5 _ this.2.lt<|h.apart k i)⟩
 .intro t p;obtain q|q:=bU.1 p;·exact h.12 t q
  rw[cS.1 q];exact o
 rw[aQ];exact n
theorem LW(g:kW K){v d b j:N}{a:Wc}(k:sN K.xs v d a)(l:OD K.xs v b j)(h:∀c:b<J K.xs,pS K.xs[b].2 j (v:I)=Sn):(Jd (d=b)&&Jd (J a=0))=Sn:=by
 obtain⟨e,i,hd⟩|⟨e,_⟩:=k
 .by_cases e2:d=b
  .subst e2;obtain⟨c,f⟩:=g.1.made l hd;rw[h c]at f;cases f
  simp[e2]
 have:J a≠0:=λe2=>e<|List.length_eq_zero_iff.1 e2;simp[this]
theorem MV(e:kW K){v d t i:N}{c:Wc}(n:sN K.xs v d c)(B:t<K.n)(y:i<J (AQ K.xs 0 (t:I))):(d=t/\c≠[]->∃w:i<J c,c[i]=su K.xs t i (v:I))/\(¬(d=t/\c≠[])->su K.xs t i (v:I)=(v:I)):=by
 have f:t<J K.xs:=oN e.4
 have o:iT K.xs (t:I)=K.xs[t].1:=by unfold iT;rw[show(t:I).toNat=t by omega,aC f]
 have s:∀q∈K.xs[t].1,q.1=(v:I)->Wl K.xs v t 0:=λq a g=>by show Yo K.xs t v=So;unfold Yo;rw[aC f];exact XD.2<|aY.2 ⟨q,a,g⟩
 constructor
 .rintro⟨rfl,l⟩;obtain⟨g,_⟩|⟨_,x,q,hx,a,hd,rfl⟩:=n;·exact Sz g l
  rw[aC f]at hx;cases hx;have z:J q.2=J (AQ K.xs 0 (d:I)):=(e.1.ok.9 d f q a).1;refine⟨O,?_⟩;unfold su;rw[o];cases hf:K.xs[d].1.find? (λq=>q.1==(v:I))with
  |none=>exact Sz hd (by have:=lS.1 hf q a;simpa using this)
  |some b=>
   have h:=List.mem_of_find?_eq_some hf;have k:b.1=(v:I):=by have:=List.find?_some hf;simpa using this
   have:b=q:=y9 (A3 e.1 f) h a (G k hd.symm);subst this;simp only[bF,aC (show i<J b.2 by omega),gR]
 intro r;unfold su;rw[o];cases hf:K.xs[t].1.find? (λq=>q.1==(v:I))with
 |none=>rfl
 |some b=>
  exfalso;have h:=List.mem_of_find?_eq_some hf;have k:b.1=(v:I):=by have:=List.find?_some hf;simpa using this
  have m:=s b h k;obtain⟨g,j,hd⟩|⟨l,x,q,hx,a,hd,_⟩:=n;·exact Sz (Wl.one e.1.1 m hd).2 O
  obtain⟨p,u⟩:=cV.1 hx
  subst u;have:Wl K.xs v d 0:=by show Yo K.xs d v=So;unfold Yo;rw[aC p];exact XD.2<|aY.2 ⟨q,a,hd⟩
  exact r ⟨(Wl.one e.1.1 this m).1,l⟩
end
section
open Go.Maps
theorem TR(K:je){wv:Uj}{b:N}(c:Q (kW K))(g:Q (K.fr w))(k:Q (Bx w K.4 (K.box wv) 134))(p:n<K.V)(j:Q (OD K.xs n b m))(h:Q (∀s:b<J K.xs,pS K.xs[b].2 m (n:I)=Sn)):
 Sk prog 119 #[Hn K.4,H b,H n] w λe q=>e=Rt (Sb Sn)/\Sw (Z w.1) w q:=by
 obtain⟨d,a,y,z,i,_,c0,c1,_⟩:=c.orgs g.o p;have f:=LW c.o i j.o h.o;have c4:E w (A K.4 4)=S (Hl K.7 K.V K.oc):=k.c 4;clear j h c g k i;have v:(n:I)<(K.V:I):=O;generalize K.4=r at*;generalize K.7=og at*;generalize K.V=V at*;generalize K.oc=x at*;generalize J a=a at*;by_cases e:d=b
 .subst e;have o:a≠0:=by intro l;subst l;simp at f
  have u:((a:I)==0)=Sn:=by simpa using o
  clear f
  go_in
  go_wp2;go_ret;exact⟨R,Rf⟩
 have t:((d:I)==(b:I))=Sn:=by simpa using(show ¬(d:I)=(b:I) by omega)
 clear f
 go_in
 go_wp2;go_ret;exact⟨R,Rf⟩
end
section
open Go.Maps
structure CC where
 d:DataW Unit
 cnt:N
 Wd:Vp
 g:N->Zm
 wv:Uj
 ws:List (N×N)
def CC.mm(X_:CC)(K:je):N:=J X_.6+Rb K.n X_.3 K.V
def CC.own(X_:CC)(K:je)(q:N):Prop:=q=K.4\/q=K.5\/q=K.6\/X_.5.ownBlock=S q\/∃v,v<K.V/\X_.4 v=S q
def jg(K:je)(W:Ub)(S_:N->ju j9)(X_:CC):Prop:=EW K W S_ X_.1 X_.2 X_.3 X_.4 X_.5 X_.6
structure i7(K:je)(X_:CC)(w:Ub)(X':CC)(w':Ub):Prop where
 env:w'.4=w.4/\w'.2=w.2/\w'.5=w.5
 size:Z w.1<=Z w'.1
 same:∀q,q<Z w.1->¬X_.own K q->w'.1[q]?=w.1[q]?/\¬X'.own K q
variable {K: je} {X_ Y_ Z_: CC} {w w' w2: Ub} {S_ S': N -> ju j9}
theorem i7.refl:i7 K X_ w X_ w:=⟨⟨R,R,R⟩,aA,λ_ _ h=>⟨R,h⟩⟩
theorem i7.trans(h:i7 K X_ w Y_ w')(k:i7 K Y_ w' Z_ w2):i7 K X_ w Z_ w2:=⟨⟨G k.1.1 h.1.1,G k.1.2.1 h.1.2.1,G k.1.2.2 h.1.2.2⟩,aJ h.2 k.2,λq d c=>by have a:=h.3 q d c;have b:=k.3 q (oN h.2) a.2;exact⟨G b.1 a.1,b.2⟩⟩
theorem i7.below(h:Sw (Z w.1) w w'):i7 K X_ w X_ w':=⟨⟨h.1,h.2,h.3⟩,h.4,λq b a=>⟨h.5 q b,a⟩⟩
theorem i7.sour(h:w.grownBy w' (S K.5)):i7 K X_ w X_ w':=⟨⟨h.1,h.2,h.3⟩,h.4,λq b a=>⟨h.5 q b λe=>a<|aZ (bC<|gQ e),a⟩⟩
theorem jg.lim(h:jg K w S_ X_){q:N}(b:X_.own K q)(a:kW K):q<Z w.1:=by
 have:=h.1.1;have:=a.9;obtain e|e|e|e|⟨v,c,e⟩:=b;·omega
 .omega
 .omega
 .exact(h.5.lt q e).2
 exact(h.6 v q c e).2.lt
theorem jg.calm(h:jg K w S_ X_)(a:Sw (Z w.1) w w'):jg K w' S_ X_:=EW.calm h a
theorem jg.sour(a:kW K)(h:jg K w S_ X_)(b:w.grownBy w' (S K.5))(c:SS w' K.5 K.mn S'):jg K w' S' X_:=EW.sour a h b c
theorem Bo{K:je}{D_ b:DataW Unit}{c f:N}{Wd d:Vp}{l:N->Zm}{wv a:Uj}{ws i:List (N×N)}{q:N}(h:¬CC.own ⟨D_,c,Wd,l,wv,ws⟩ K q)(k:a.ownBlock=wv.ownBlock\/∃z,a.ownBlock=S z/\q<z):¬CC.own ⟨b,f,d,l,a,i⟩ K q:=by
 intro e;obtain e|e|e|e|e:=e;·exact h<|bC e
 .exact h<|aZ (bC e)
 .exact h<|aZ (aZ<|bC e)
 .rcases k with k|⟨z,g,j⟩;·exact h<|aZ (aZ<|aZ (bC<|G k.symm e))
  rw[g]at e;have:=gQ e;omega
 exact h<|aZ (aZ<|aZ (aZ e))
theorem QS{K:je}{j a:DataW Unit}{c d:N}{Wd b:Vp}{i:N->Zm}{wv:Uj}{ws:List (N×N)}{q v g:N}(h:¬CC.own ⟨j,c,Wd,i,wv,ws⟩ K q)(k:q<g):¬CC.own ⟨a,d,b,λu=>if u=v then S g else i u,wv,ws⟩ K q:=by
 intro e;obtain e|e|e|e|⟨u,f,e⟩:=e;·exact h<|bC e
 .exact h<|aZ (bC e)
 .exact h<|aZ (aZ<|bC e)
 .exact h<|aZ (aZ<|aZ (bC e))
 dsimp only at e;by_cases e2:u=v
 .rw[aU e2]at e;have:=gQ e;omega
 rw[aM e2]at e;exact h<|aZ (aZ<|aZ (aZ ⟨u,f,e⟩))
theorem Cz(w:Ub):(zeroValue 117).run prog w=.ok (Sa #[Hq]) w:=vZ
theorem EW.look{m:DataW Unit}{cnt:N}{Wd:Vp}{n:N->Zm}{wv:Uj}{ws:List (N×N)}(h:EW K w S_ m cnt Wd n wv ws)(b:kW K){v:N}(f:v<K.V):(∀g,n v=S g->(Instr.lookup 131 (.map (S K.6)) (Sv (v:I) (Kp K.cs (v:I))) So).run prog w=.ok (St #[vO g K.ik,Sb So]) w)/\(n v=U->∃x,(Instr.lookup 131 (.map (S K.6)) (Sv (v:I) (Kp K.cs (v:I))) So).run prog w=.ok (St #[x,Sb Sn]) w):=by
 have j:=b.1.col (v:=(v:I)) O O;have i:=b.1.ok.2;have k:=b.2;obtain⟨x,l,d,e⟩:=h.4.look_ok zn underlying131 (Cz w) Kg (yK (v:=(v:I)) (r:=Kp K.cs (v:I)) O O);have c:=h.10 v f;constructor
 .intro g a;rw[show m.atKey (p9 (v:I) (Kp K.cs (v:I))) _=qd g K.ik from c.2 g a _]at e;have:=RP e;subst this;rw[d,show Maps.has m (p9 (v:I) (Kp K.cs (v:I)))=So from G c.1 (by rw[a];rfl)]
 intro a;refine⟨x,?_⟩;rw[d,show Maps.has m (p9 (v:I) (Kp K.cs (v:I)))=Sn from G c.1 (by rw[a];rfl)]
theorem je.key_inj(a:kW K){u v:N}(g:u<K.V)(h:v<K.V)(e:K.kE u=K.kE v):u=v:=by have b:=a.1.col (v:=(v:I)) O O;have c:=a.1.col (v:=(u:I)) O O;have d:=a.1.ok.2;have f:=a.2;have:=Y5 O O O O e;omega
end
section
open Go.Maps
theorem OH(K:je)(F:N->ju j9)(C:CC){b:N}(c:Q (kW K))(a:Q (jg K w F C))(v:b<K.n)(e:n<K.V)(d:Q (C.4 n=S m))(k:Q (Xh (C.3 n) b=So)):
 Sk prog 120 #[Hn K.4,H b,Sv (n:I) (Kp K.cs (n:I))] w λg s=>g=Rt (St #[])/\Sw (Z w.1) w s:=by
 have h:jg K (D w (Sc #[H n,H (Kp K.cs (n:I))] 146)).drew F C:=a.calm (Xb Rf _).drew;have i:∀o,jg K (D (D w (Sc #[H n,H (Kp K.cs (n:I))] 146)) o).drew F C:=λo=>a.calm (Xb (Xb Rf _) _).drew;have q:=(EW.look h c.o e).1 m d.o;have r:=λo=>(EW.look (i o) c.o e).1 m d.o;have t:E w (A K.4 7)=S (.map (S K.6)):=Bx.c a.2 7;have y:=c.6;have f:=Y (λW (p:Sw (Z w.1) w W)=>Jm m K.ik b (C.3 n) W (Y<|a.7 n) (Y ((EW.calm a.o p).6 n m e d.o).2) (by unfold je.ik;omega) (by unfold je.ik;omega));rw[k.o]at f;have x:=Bx.lt a.2;unfold Sv vO at q r;unfold Sv;clear a h i d k c;generalize K.ik=ik at*;generalize K.4=u at*;generalize K.6=z at*;generalize Kp K.cs (n:I)=L at*
 go_in
 go_wp2;go_region;go_wp2_with (go_at_call 100;refine YU (f.o _ (Xb (Xb Rf _) _).drew) λB j=>?_;have l:=Y<|Xg (Xb (Xb Rf _) _).drew j;clear j)
 trace_state
 go_end0
 exact⟨R,l.o⟩
end
section
open Go.Maps
theorem Jg:(prog.info? 148).map (λi=>(i.8,i.3,i.4))=S (S<|Sa #[H 0,H 0,H 0],3,24):=vZ
def xc(c:CC)(v b:N):CC:={ c with Wd:=λu=>if u=v then YH (c.3 v) b else c.3 u }
theorem jg.added{K:je}{t:CC}{w':Ub}{x:N->ju j9}(h:jg K w x t)(i:kW K){b:N}(f:n<K.V)(c:t.4 n=S m)(j:b<K.n)(k:Xh (t.3 n) b=Sn)(p:OD K.xs n b 0)(a:w.grownBy w' (S m))(o:w'.rowIs m 173 K.ik λq=>Si .u64 (E2 (t.3 n) [b] q)):jg K w' x (xc t n b)/\(xc t n b).mm K+1<=t.mm K/\i7 K t w (xc t n b) w':=by
 obtain⟨g,s⟩:=EW.added i h f c j k p a o;exact⟨g,by unfold CC.mm xc;dsimp only;omega,⟨⟨a.1,a.2,a.3⟩,a.4,λr l d=>⟨a.5 r l λe=>d<|aZ (aZ<|aZ (aZ ⟨n,f,by rw[c,<-e]⟩))
  ,λe=>d e⟩⟩⟩
def se(c:CC)(wv:Uj)(v b:N):CC:={ c with wv:=wv,ws:=c.6++[(b,v)] }
theorem jg.pushed{K:je}{r:CC}{s:N->ju j9}(h:jg K w s r)(i:kW K){b:N}(d:Sw (Z w.1) w v)(c:v.grownBy u r.5.ownBlock)(l:Sx u K.2 148 3 a (J r.6+1) (R8 K.cs r.6++[Si S6 (b:I),Si S6 (n:I),Si S6 (Kp K.cs (n:I))]))(j:a.ownBlock=r.5.ownBlock\/a.ownBlock=S (Z v.1))(m:b<K.n/\n<K.V/\OD K.xs n b 0)(k:r.mm K+1<=2000000):jg K (Se u ⟨K.4,8,U⟩ a) s (se r a n b)/\(se r a n b).mm K=r.mm K+1/\i7 K r w (se r a n b) (Se u ⟨K.4,8,U⟩ a):=by
 have p:=d.4;have g:=EW.push i (h.calm d) c l m (by unfold CC.mm at k;omega);refine⟨g,by unfold CC.mm se;dsimp only;rw[aQ];simp;omega,⟨⟨G c.1 d.1,G c.2 d.2,G c.3 d.3⟩,by have:=c.4;simp;omega,λq o f=>⟨?_,?_⟩⟩⟩;·exact G (cY<|show q≠K.4 from λe=>f<|bC e) (G (c.5 q O λe=>f<|aZ (aZ<|aZ (bC e.symm))) (d.5 q o))
 exact Bo f (by
  obtain e|e:=j;·exact bC e
  exact aZ ⟨_,e,O⟩)
theorem Lx(C:je)(T:N->ju j9)(F:CC){b:N}(v:Q (kW C))(f:Q (jg C w T F))(hb:b<C.n)(t:n<C.V)(s:Q (F.4 n=S m))(V_:Q (Xh (F.3 n) b=Sn))(hs:Q (OD C.xs n b 0)):
 Sk prog 120 #[Hn C.4,H b,Sv (n:I) (Kp C.cs (n:I))] w λe B=>e=Rt (St #[])/\∃Q_,jg C B T Q_/\Q_.mm C<=F.mm C/\i7 C F w Q_ B:=by
 have l:jg C (D w (Sc #[H n,H (Kp C.cs (n:I))] 146)).drew T F:=f.calm (Xb Rf _).drew;have z:∀o,jg C (D (D w (Sc #[H n,H (Kp C.cs (n:I))] 146)) o).drew T F:=λo=>f.calm (Xb (Xb Rf _) _).drew;have L:=(EW.look l v.o t).1 m s.o;have M:=λo=>(EW.look (z o) v.o t).1 m s.o;have c7:E w (A C.4 7)=S (.map (S C.6)):=Bx.c f.2 7;have bk:=v.6;have E_:=Y (λW (h:Sw (Z w.1) w W)=>Jm m C.ik b (F.3 n) W (Y<|f.7 n) (Y ((EW.calm f.o h).6 n m t s.o).2) (by unfold je.ik;omega) (by unfold je.ik;omega));rw[V_.o]at E_;have bf:=Bx.lt f.2;have O_:Q (∀W,Sw (Z w.1) w W->W.rowIs m 173 C.ik λbd=>Si .u64 (F.3 n bd)):=Y λW h=>((EW.calm f.o h).6 n m t s.o).2;have bh:m<Z w.1:=(EW.set f.o n m t s.o).2.lt;have N_:=Y (λ(W:Ub)(h:Sw (Z w.1) w W)(o:Obj)(ho:o=Sc #[H b] 199)=>Tz m C.ik C.ik 1 1 (F.3 n) (S ⟨Z W.1,0,U⟩) [b] (Z W.1) (Z W.1+1) (D W o) (Y<|by subst ho;exact UY W b) (Y R) O (Y<|by intro bo ht;rw[cS.1 ht];unfold je.ik;omega) (by unfold je.ik;omega) (Y<|f.7 n) (Y (Cp.of_row<|(O_.o W h).alloc _)) sP (oN h.4));have F_:=Y λ(W W':Ub)(h:Sw (Z w.1) w W)(l:W.grownBy W' (S m)) V=>(f.calm h).added (w':=W') v.o t s.o hb V_.o hs.o l V;unfold Sv vO at L M;unfold Sv;obtain⟨P,T_⟩:∃P,P=xc F n b:=⟨_,R⟩;rw[<-T_]at F_;have aa:=Y λ(W:Ub)(h:Sw (Z w.1) w W)=>i7.below (K:=C) (X_:=F) h;have a7:Q (P.5=F.5/\P.6=F.6):=Y (by rw[T_];exact⟨R,R⟩);have a2:Q (F.mm C<=2000000):=Y f.14;have ac:Q (∀r,F.5.ownBlock=S r->r<Z w.1):=Y λr e=>(EW.wrk f.o |>.lt r e).2;clear T_ f l z s V_;obtain⟨ik,ap⟩:∃ik,ik=C.ik:=⟨_,R⟩;rw[<-ap]at E_ N_ L M F_ O_;obtain⟨r,V⟩:∃r,r=Kp C.cs (n:I):=⟨_,R⟩;rw[<-V]at L M |-;have ab:=Y V;clear V ap
 go_in
 go_wp2;go_region;go_wp2_with fail
 refine YU (E_.o _ (Xb (Xb Rf _) _).drew) λq x=>?_;have ad:=Xg (Xb (Xb (dC (Z w.1) w) _) _).drew x;have t6:E q (A (Z w.1+1) 0)=S (Hl m ik ik):=G (x.cell (p:=A (Z w.1+1) 0) sP) (by show E (D (D w _) _) _=_;simp);have au:E q (A (Z w.1) 0)=S (H n):=G (x.cell (p:=A (Z w.1) 0) SB) (by show E (D (D w _) _) _=_;simp);have az:E q (A (Z w.1) 1)=S (H r):=G (x.cell (p:=A (Z w.1) 1) SB) (by show E (D (D w _) _) _=_;simp);have bm:Z w.1+2<=Z q.1:=by have:=x.4;simpa using this
 have D_:=Y ad;clear x ad L M c7 E_;go_wp2_with fail
 refine YU (N_.o q D_.o _ R) λa⟨H_,ao⟩=>?_;obtain⟨k,bi,aj⟩:=F_.o _ a (Xb D_.o _) H_ ao.to_row;have G_:=Xb (dC (Z q.1) q) (Sc #[H b] 199);have am:S (Z w.1)≠S m:=λe=>by have:=gQ e;omega
 have s5:a.1[Z w.1]?=q.1[Z w.1]?:=G (H_.5 (Z w.1) (oN G_.4) am) (G_.5 _ O);have aq:=G (Xc s5) au;have ar:=G (Xc s5) az;have bn:Z w.1+2<=Z a.1:=oP H_.4 G_.4
 have a1:Q (i7 C F w P a):=Y<|(aa.o _<|Xb D_.o _).trans aj;obtain⟨i,j,u⟩:∃i j,P.5=X i (J P.6) j:=by
  obtain⟨e1,e2,_⟩|⟨g',c',e,_⟩:=Vc k.5;·exact⟨U,0,by rw[e1,e2]⟩
  exact⟨_,_,e⟩
 have d8:E a (A C.4 8)=S P.5:=Bx.c k.2 8;obtain⟨d,J_⟩:∃d,d=J P.6:=⟨_,R⟩;rw[<-J_]at u;have bl:d<=2000000:=oN k.14;have a6:P.mm C+1<=2000000:=oN a2.o
 have a4:Q (∀g c,(D a.drew (Sc #[H b,H n,H r] 148)).grownBy c (X i d j).ownBlock->Sx c C.2 148 3 g (d+1) (R8 C.cs P.6++[H b,H n,H r])->(g.ownBlock=(X i d j).ownBlock\/g.ownBlock=S (Z (D a.drew (Sc #[H b,H n,H r] 148)).1))->jg C (Se c (A C.4 8) g) T (se P g n b)/\(se P g n b).mm C=P.mm C+1/\i7 C P a (se P g n b) (Se c (A C.4 8) g)):=Y (λg c l z R_=>by rw[<-u]at l R_;rw[J_,ab.o]at z;rw[ab.o]at l R_;exact k.pushed v.o ((dC (Z a.1) a).drew.alloc aA _) l z R_ ⟨hb,t,hs.o⟩ a6)
 have a3:Q (Sx (D a.drew (Sc #[H b,H n,H r] 148)) C.2 148 3 (X i d j) d (R8 C.cs P.6)):=Y (World.ownsRow.alloc (w:=a.drew) (by rw[<-u,J_];exact k.5) _);have be:C.2<=Z a.1:=k.1.1;have a0:Q (∀c,(D a.drew (Sc #[H b,H n,H r] 148)).grownBy c (X i d j).ownBlock->Bx c C.4 (C.box<|X i d j) 134):=Y (λc y=>by rw[<-u]at y |-;have h0:=v.9;exact(Bx.box (w:=a.drew) k.2 _).grown y λe=>by have:=(k.5.lt _ e.symm).1;omega)
 have a5:Q (∀c,(D a.drew (Sc #[H b,H n,H r] 148)).grownBy c (X i d j).ownBlock->c.1[Z w.1]?=a.1[Z w.1]?):=Y (λc y=>by rw[<-u,a7.1]at y;exact G (y.5 _ SB λe=>by have:=ac.o _ e.symm;omega) (gF a.drew _ _<|by show _<Z a.1;omega))
 rw[u]at d8;have al:Z w.1≠C.4:=O;have bg:C.4<Z a.1:=O;clear k aj H_ ao G_ am s5 F_ N_ O_ aa t6 au az D_ ac u J_;generalize Z w.1=q0 at*;go_wp2;refine Y7 (λB=>E B (A q0 0)=S (H n)/\E B (A q0 1)=S (H r)) λp=>?_;refine Xn 0 ?_;(iterate 3 refine Rm ?_);refine Xn 5 ?_;refine Xn 6 ?_;refine Xn 7 ?_;refine eS (rs:=[4,8]) vZ sP ?_;refine(bQ R (λK hK=>?_) (bQ R (λK hK=>?_) dY))
 focus
  go_simp;refine hK _ _ kP λp=>?_;clear hK
  try simp only[xX]
  refine Xs 8 λK hK=>?_
 rotate_left
 focus
  go_simp;refine hK _ _ kP λp=>?_;clear hK;refine Xs 4 λK hK=>?_
 all_goals (
  go_simp;refine hK _ _ kP λp=>?_;clear hK;refine Xs 9 λK hK=>?_;refine YD Jg a3.o (World.news_of_block<|World.alloc_heap_new _ _) (by intro bp hu;simp at hu;obtain rfl|rfl|rfl:=hu<;>rfl) ?_
  intro g c Z_ I_ a9 af;have hP:=a4.o g c I_ Z_ af;have U_:Bx c C.4 (C.box<|X i d j) 134:=a0.o c I_;obtain⟨g8,c8,rfl,_,_⟩:=Xm Z_ O;have k8:=Bx.c U_ 8;have kz:=Bx.thaw U_;have hq:=a5.o c I_;have P_:=Y hP;refine hK _ _ ⟨G (Xc hq) aq,G (Xc hq) ar⟩ λp=>?_;clear hK Z_ I_ a9 af hP U_ hq aq ar d8
  try simp only[xX]
  refine Xn 10 ?_;refine Xn 11 ?_;refine Xs 12 λK hK=>?_;go_simp;refine hK _ _ ⟨G (Xc<|cY al) p.1,G (Xc<|cY al) p.2⟩ λp=>?_;clear hK;refine Yq ?_;clear p;generalize Se c _ _=w9 at*;clear k8 kz;go_wp2
  go_end0
  exact⟨R,_,P_.1,oN P_.2.1,a1.trans P_.2.2⟩)
end
section
open Go.Maps
theorem Ef(n:N){Wd:Vp}{v:N}(h:∀b,Xh (Wd v) b=Sn):∀V,Rb n (λu=>if u=v then (λ_=>0)else Wd u) V=Rb n Wd V
 |0=>R
 |V+1=>by
  show Rb _ _ V+nO _ _=Rb _ _ V+nO _ _;rw[Ef n h V];dsimp only;by_cases e:V=v
  .subst e;rw[aU R];congr 1;unfold nO;congr 1;refine lW λb _=>?_;rw[h b,Z3]
  rw[aM e]
def rB(K:je)(a:CC)(v g:N):CC:={ a with d:=a.1.put (K.kE v) (qd g K.ik),cnt:=a.2+1,Wd:=λu=>if u=v then (λ_=>0)else a.3 u,g:=λu=>if u=v then S g else a.4 u }
theorem jg.newed{K:je}{p:CC}{w1:Ub}{r:N->ju j9}(h:jg K w r p)(c:kW K)(g:n<K.V)(d:p.4 n=U)(a:Sw (Z w.1) w w1)(i:Z w.1<=m)(l:w1.rowIs m 173 K.ik λ_=>Si .u64 ((0:N):I))(j:v.ownsMap prog 146 pT K.6 (p.2+1) (p.1.put (K.kE n) (qd m K.ik)))(b:w1.grownBy v (S K.6)):jg K v r (rB K p n m)/\(rB K p n m).mm K=p.mm K/\i7 K p w (rB K p n m) v:=by refine⟨EW.fresh c h g d a i l j b λu o e=>je.key_inj c o g e,?_,⟨⟨G b.1 a.1,G b.2 a.2,G b.3 a.3⟩,oP a.4 b.4,λq k f=>⟨G (b.5 q (oN a.4) λe=>f<|aZ (aZ<|bC (gQ e))) (a.5 q k),QS f O⟩⟩⟩;unfold CC.mm rB;dsimp only;rw[Ef _<|h.8 n d]
theorem EW.none_{K:je}{p:N->ju j9}{l:DataW Unit}{cnt:N}{Wd:Vp}{o:N->Zm}{wv:Uj}{ws:List (N×N)}(h:EW K w p l cnt Wd o wv ws)(a:kW K)(f:n<K.V)(d:o n=U):(Instr.lookup 131 (.map (S K.6)) (Sv (n:I) (Kp K.cs (n:I))) So).run prog w=.ok (St #[Sa #[Hq],Sb Sn]) w:=by have i:=a.1.col (v:=(n:I)) O O;have g:=a.1.ok.2;have j:=a.2;obtain⟨x,k,e,c⟩:=h.4.look_ok zn underlying131 (Cz w) Kg (yK (v:=(n:I)) (r:=Kp K.cs (n:I)) O O);have b:Maps.has l (p9 (n:I) (Kp K.cs (n:I)))=Sn:=G (h.10 n f).1 (by rw[d];rfl);rw[Maps.atKey_of_not_has b]at c;rw[e,b,Ln c]
theorem X1(C:je)(P:N->ju j9)(X0:CC){b:N}(j:Q (kW C))(m:Q (jg C w P X0))(hb:b<C.n)(v:n<C.V)(aq:Q (X0.4 n=U))(hs:Q (OD C.xs n b 0)):
 Sk prog 120 #[Hn C.4,H b,Sv (n:I) (Kp C.cs (n:I))] w λe L=>e=Rt (St #[])/\∃X',jg C L P X'/\X'.mm C<=X0.mm C/\i7 C X0 w X' L:=by
 have u:jg C (D w (Sc #[H n,H (Kp C.cs (n:I))] 146)).drew P X0:=m.calm (Xb Rf _).drew;have F:∀o,jg C (D (D w (Sc #[H n,H (Kp C.cs (n:I))] 146)) o).drew P X0:=λo=>m.calm (Xb (Xb Rf _) _).drew;have l1:=EW.none_ u j.o v aq.o;have l2:=λo=>EW.none_ (F o) j.o v aq.o;have c7:E w (A C.4 7)=S (.map (S C.6)):=Bx.c m.2 7;have c1:E w (A C.4 1)=S (X C.a C.n C.c):=Bx.c m.2 1;have cs:=j.6;have a7:=Bx.lt m.2;have b5:=(j.1.col (v:=(n:I)) O O);have hV:=j.1.ok.2;have hk:=j.2;have N_:=Y<|yK (v:=(n:I)) (r:=Kp C.cs (n:I)) O O;have Q_:Q (∀r,X0.5.ownBlock=S r->r<Z w.1):=Y λr e=>(EW.wrk m.o |>.lt r e).2;unfold Sv at l1 l2 N_ |-;clear u F b5;obtain⟨ik,au⟩:∃ik,ik=C.ik:=⟨_,R⟩;obtain⟨aa,V_⟩:∃aa,aa=C.n:=⟨_,R⟩;rw[<-V_]at c1;have al:=Y λ(W:Ub)=>Tt aa W O;have bc:(aa+63)/64=ik:=by rw[au,V_];rfl
 rw[bc]at al;obtain⟨r,B⟩:∃r,r=Kp C.cs (n:I):=⟨_,R⟩;rw[<-B]at l1 l2 N_ |-;have a1:=Y B;have bt:Q (p9 (n:I) r=C.kE n):=Y (by rw[B];rfl);have HN:=Y V_;have ao:=Y au;clear B bc V_ au
 go_in
 go_wp2;go_region;clear l1 l2;have a3:=(Xb (Xb (dC (Z w.1) w) (Sc #[H n,H r] 146)) (Sc #[Hq] 117)).drew;go_wp2_with fail
 refine(al.o _).mono ?_;rintro e d⟨g,rfl,ba,V,bg⟩;have cw:Z w.1+2<=Z d.1:=by have:=V.4;simpa using this
 have cm:Z w.1+2<=g:=by simpa using ba
 have ad:=Y<|Xg a3 V;have u7:E d (A C.4 7)=S (.map (S C.6)):=G (Xc<|ad.5 _ a7) c7;have x5:Bx d (Z w.1) #[H n,H r] 146:=((Bx.new w _ _).box _).keep (V.5 _<|by simp;omega);have x6:Bx d (Z w.1+1) #[Hq] 117:=by have:=Bx.new (D w (Sc #[H n,H r] 146)) #[Hq] 117;rw[aO]at this;exact this.keep<|V.5 _ sP
 have cg:E d (A (Z w.1) 0)=S (H n):=Bx.c x5 0;have ch:E d (A (Z w.1) 1)=S (H r):=Bx.c x5 1;have v6:E d (A (Z w.1+1) 0)=S Hq:=Bx.c x6 0;have z6:=Bx.thaw x6;have az:Bx (Se d (A (Z w.1+1) 0) (Hl g ik ik)) (Z w.1+1) #[Hl g ik ik] 117:=x6.set 0 _;have ab:Bx (Se d (A (Z w.1+1) 0) (Hl g ik ik)) (Z w.1) #[H n,H r] 146:=x5.other O;have af:Q (Sw (Z w.1) w<|Se d (A (Z w.1+1) 0) (Hl g ik ik)):=Y (ad.setCell (by show Z w.1<=Z w.1+1;omega) _);have a4:=m.calm af.o;have a8:X0.2<maxLen:=by have:=EW.cnt m.o;have:=I7 X0.4 C.V;unfold maxLen;omega
 obtain⟨a,bh,bb,J_⟩:=World.ownsMap.update (w:=(Se d (A (Z w.1+1) 0) (Hl g ik ik)).drew) a4.4 zn underlying131 a8 N_.o (T2 g ik);unfold vO at bh;have hN:jg C a P (rB C X0 n g)/\(rB C X0 n g).mm C=X0.mm C/\i7 C X0 w (rB C X0 n g) a:=m.newed (w1:=(Se d (A (Z w.1+1) 0) (Hl g ik ik)).drew) j.o v aq.o af.drew O (by rw[<-ao.o];exact bg.of_block<|cY (show g≠Z w.1+1 by omega)) (by rw[<-bt.o,<-ao.o];exact bb) J_;have cq:C.6<Z w.1:=oP m.1.1 j.9;have y5:Bx a (Z w.1) #[H n,H r] 146:=ab.keep (J_.5 _ (by show _<Z (Se d _ _).1;simp;omega) λe=>by have:=gQ e;omega);have y6:Bx a (Z w.1+1) #[Hl g ik ik] 117:=az.keep (J_.5 _ (by show _<Z (Se d _ _).1;simp;omega) λe=>by have:=gQ e;omega);have cf:E (Se d (A (Z w.1+1) 0) (Hl g ik ik)) (A C.4 7)=S (.map (S C.6)):=G (Xc<|cY (show C.4≠Z w.1+1 by omega)) u7;have cd:E (Se d (A (Z w.1+1) 0) (Hl g ik ik)) (A (Z w.1) 0)=S (H n):=Bx.c ab 0;have ce:E (Se d (A (Z w.1+1) 0) (Hl g ik ik)) (A (Z w.1) 1)=S (H r):=Bx.c ab 1;have q6:E (Se d (A (Z w.1+1) 0) (Hl g ik ik)) (A (Z w.1+1) 0)=S (Hl g ik ik):=Bx.c az 0;have bn:E a (A (Z w.1) 0)=S (H n):=Bx.c y5 0;have bo:E a (A (Z w.1) 1)=S (H r):=Bx.c y5 1;have u6:E a (A (Z w.1+1) 0)=S (Hl g ik ik):=Bx.c y6 0;have cx:Z w.1+2<=Z a.1:=by have:=J_.4;have e:Z (Se d (A (Z w.1+1) 0) (Hl g ik ik)).drew.1=Z d.1:=(by show Z (Se d _ _).1=_;simp);omega
 have D_:=Y hN;have ci:=Y a7;clear a3 ba V bg x5 x6 ab az y5 y6 a4 bb J_ hN ad af N_ al;go_wp2;go_region;clear bh cd ce q6 cg ch v6 z6 u7 cf c1 a8;obtain⟨M,G_⟩:∃M,M=rB C X0 n g:=⟨_,R⟩;rw[<-G_]at D_;have t:=Y D_.1;have I_:Q (M.4 n=S g):=Y (by rw[G_];unfold rB;simp);have hh:Q (Xh (M.3 n) b=Sn):=Y (by rw[G_];unfold rB;simp[Xh]);have a5:Q (M.5=X0.5):=Y (by rw[G_];rfl);have cr:M.mm C=X0.mm C:=D_.2.1;have br:=Y D_.2.2;have Q_:Q (∀r,M.5.ownBlock=S r->r<Z w.1):=Y (by rw[a5.o];exact Q_.o);clear D_ G_;have O_:=Y (λW (l:Sw (Z a.1) a W)=>Jm g C.ik b (M.3 n) W (Y<|t.7 n) (Y ((EW.calm t.o l).6 n g v I_.o).2) (by unfold je.ik;omega) (by unfold je.ik;omega));rw[hh.o]at O_;have aj:Q (∀W,Sw (Z a.1) a W->W.rowIs g 173 C.ik λcc=>Si .u64 (M.3 n cc)):=Y λW l=>((EW.calm t.o l).6 n g v I_.o).2;have cn:g<Z a.1:=(EW.set t.o n g v I_.o).2.lt;have ac:=Y (λ(W:Ub)(l:Sw (Z a.1) a W)(o:Obj)(ho:o=Sc #[H b] 199)=>Tz g C.ik C.ik 1 1 (M.3 n) (S ⟨Z W.1,0,U⟩) [b] (Z W.1) (Z W.1+1) (D W o) (Y<|by subst ho;exact UY W b) (Y R) O (Y<|by intro cz ht;rw[cS.1 ht];unfold je.ik;omega) (by unfold je.ik;omega) (Y<|t.7 n) (Y (Cp.of_row<|(aj.o W l).alloc _)) sP (oN l.4));have P_:=Y λ(W W':Ub)(l:Sw (Z a.1) a W)(u:W.grownBy W' (S g)) B=>(t.calm l).added (w':=W') j.o v I_.o hb hh.o hs.o u B;obtain⟨K,hY⟩:∃K,K=xc M n b:=⟨_,R⟩;rw[<-hY]at P_;have a0:=Y λ(W:Ub)(l:Sw (Z a.1) a W)=>i7.below (K:=C) (X_:=M) l;have b4:Q (K.5=M.5/\K.6=M.6):=Y (by rw[hY];exact⟨R,R⟩);have bv:Q (M.mm C<=2000000):=Y t.14;clear hY t I_ hh a5;rw[<-ao.o]at O_ ac P_ aj;have cl:C.4<Z a.1:=O;generalize Z w.1=h at*;go_wp2_with fail
 refine YU (O_.o a<|Rf) λy T=>?_;have a2:=T;have t6:E y (A (h+1) 0)=S (Hl g ik ik):=G (XU T O) u6;have bl:E y (A h 0)=S (H n):=G (XU T O) bn;have bm:E y (A h 1)=S (H r):=G (XU T O) bo;have cu:h+2<=Z y.1:=oN T.4;have M_:=Y a2;clear T a2 O_ u6 bn bo;go_wp2_with fail
 refine YU (ac.o y M_.o _ R) λc⟨T_,bf⟩=>?_;obtain⟨s,co,a9⟩:=P_.o _ c (Xb M_.o _) T_ bf.to_row;have R_:=Xb (dC (Z y.1) y) (Sc #[H b] 199);have be:S h≠S g:=λe=>by have:=gQ e;omega
 have s5:c.1[h]?=y.1[h]?:=G (T_.5 h (oN R_.4) be) (R_.5 _ O);have bi:=G (Xc s5) bl;have bk:=G (Xc s5) bm;have cv:h+2<=Z c.1:=oP T_.4 R_.4
 have bq:Q (i7 C M a K c):=Y<|(a0.o _<|Xb M_.o _).trans a9;obtain⟨p,q,z⟩:∃p q,K.5=X p (J K.6) q:=by
  obtain⟨e1,e2,_⟩|⟨g',c',e,_⟩:=Vc s.5;·exact⟨U,0,by rw[e1,e2]⟩
  exact⟨_,_,e⟩
 have d8:E c (A C.4 8)=S K.5:=Bx.c s.2 8;obtain⟨i,Z_⟩:∃i,i=J K.6:=⟨_,R⟩;rw[<-Z_]at z;have ct:i<=2000000:=oN s.14;have b3:K.mm C+1<=2000000:=oN bv.o
 have b0:Q (∀k f,(D c.drew (Sc #[H b,H n,H r] 148)).grownBy f (X p i q).ownBlock->Sx f C.2 148 3 k (i+1) (R8 C.cs K.6++[H b,H n,H r])->(k.ownBlock=(X p i q).ownBlock\/k.ownBlock=S (Z (D c.drew (Sc #[H b,H n,H r] 148)).1))->jg C (Se f (A C.4 8) k) P (se K k n b)/\(se K k n b).mm C=K.mm C+1/\i7 C K c (se K k n b) (Se f (A C.4 8) k)):=Y (λk f u F h3=>by rw[<-z]at u h3;rw[Z_,a1.o]at F;rw[a1.o]at u h3;exact s.pushed j.o ((dC (Z c.1) c).drew.alloc aA _) u F h3 ⟨hb,v,hs.o⟩ b3)
 have bx:Q (Sx (D c.drew (Sc #[H b,H n,H r] 148)) C.2 148 3 (X p i q) i (R8 C.cs K.6)):=Y (World.ownsRow.alloc (w:=c.drew) (by rw[<-z,Z_];exact s.5) _);have cj:C.2<=Z c.1:=s.1.1;have bp:Q (∀f,(D c.drew (Sc #[H b,H n,H r] 148)).grownBy f (X p i q).ownBlock->Bx f C.4 (C.box<|X p i q) 134):=Y (λf E_=>by rw[<-z]at E_ |-;have h0:=j.9;exact(Bx.box (w:=c.drew) s.2 _).grown E_ λe=>by have:=(s.5.lt _ e.symm).1;omega)
 have b1:Q (∀f,(D c.drew (Sc #[H b,H n,H r] 148)).grownBy f (X p i q).ownBlock->f.1[h]?=c.1[h]?):=Y (λf E_=>by rw[<-z,b4.1]at E_;exact G (E_.5 _ SB λe=>by have:=Q_.o _ e.symm;omega) (gF c.drew _ _<|by show _<Z c.1;omega))
 rw[z]at d8;have bd:h≠C.4:=O;have ck:C.4<Z c.1:=O;clear a9 T_ s bf R_ be s5 P_ ac aj a0 t6 bl bm M_ Q_ z Z_;go_wp2;refine Y7 (λL=>E L (A h 0)=S (H n)/\E L (A h 1)=S (H r)) λx=>?_;refine Xn 0 ?_;(iterate 3 refine Rm ?_);refine Xn 5 ?_;refine Xn 6 ?_;refine Xn 7 ?_;refine eS (rs:=[4,8]) vZ sP ?_;refine(bQ R (λK_ hK=>?_) (bQ R (λK_ hK=>?_) dY))
 focus
  go_simp;refine hK _ _ kP λx=>?_;clear hK
  try simp only[xX]
  refine Xs 8 λK_ hK=>?_
 rotate_left
 focus
  go_simp;refine hK _ _ kP λx=>?_;clear hK;refine Xs 4 λK_ hK=>?_
 all_goals (
  go_simp;refine hK _ _ kP λx=>?_;clear hK;refine Xs 9 λK_ hK=>?_;refine YD Jg bx.o (World.news_of_block<|World.alloc_heap_new _ _) (by intro c6 hu;simp at hu;obtain rfl|rfl|rfl:=hu<;>rfl) ?_
  intro k f ar U_ b7 a6;have hP:=b0.o k f U_ ar a6;have ap:Bx f C.4 (C.box<|X p i q) 134:=bp.o f U_;obtain⟨g8,c8,rfl,_,_⟩:=Xm ar O;have k8:=Bx.c ap 8;have kz:=Bx.thaw ap;have hq:=b1.o f U_;have am:=Y hP;refine hK _ _ ⟨G (Xc hq) bi,G (Xc hq) bk⟩ λx=>?_;clear hK ar U_ b7 a6 hP ap hq bi bk d8
  try simp only[xX]
  refine Xn 10 ?_;refine Xn 11 ?_;refine Xs 12 λK_ hK=>?_;go_simp;refine hK _ _ ⟨G (Xc<|cY bd) x.1,G (Xc<|cY bd) x.2⟩ λx=>?_;clear hK;refine Yq ?_;clear x;generalize Se f _ _=w9 at*;clear k8 kz;go_wp2
  go_end0
  exact⟨R,_,am.1,oN am.2.1,br.trans<|bq.trans am.2.2⟩)
end
section
open Go.Maps
theorem X6(C:je)(o:N->ju j9)(m:CC){b:N}(d:Q (kW C))(a:Q (jg C w o m))(e:b<C.n)(f:n<C.V)(j:Q (OD C.xs n b 0)):
 Sk prog 120 #[Hn C.4,H b,Sv (n:I) (Kp C.cs (n:I))] w λh g=>h=Rt (St #[])/\∃c,jg C g o c/\c.mm C<=m.mm C/\i7 C m w c g:=by
 cases hg:m.4 n with
 |none=>exact X1 C o m d a e f (Y hg) j
 |some k=>
  cases hh:Xh (m.3 n) b with
  |false=>exact Lx C o m d a e f (Y hg) (Y hh) j
  |true=>
   refine YU (OH C o m d a e f (Y hg) (Y hh)) λg i=>?_;exact⟨R,m,a.calm i,aA,i7.below i⟩
def sr(C:je)(e:CC)(w:Ub)(c:Uy)(b a:Wc):Prop :=
 ∀i (h:i<J b) (d:i<J a),∃g,c=S (A g 0)/\g<Z w.1/\¬e.own C g/\E w (A g (i*2))=S (H b[i])/\E w (A g (i*2+1))=S (H a[i])
def zh(C:je)(s:ju j9)(b:N)(v r:I):Prop :=
 ∃(u q j:N),v=(u:I)/\r=(q:I)/\u<C.V/\q<64/\OD C.xs u b j/\∃a:b<J C.xs,s.1 (q:I)=xm C.cs C.xs[b].2 j (u:I)
theorem sr.frk{C:je}{k m:CC}(h:sr C k w p l L)(f:i7 C k w m v):sr C m v p l L:=λj b c=>by obtain⟨g,e,d,i,c0,c1⟩:=h j b c;have a:=f.3 g d i;exact⟨g,e,oN f.2,a.2,G (Xc a.1) c0,G (Xc a.1) c1⟩
theorem sr.own{C:je}{o:CC}{q:N->ju j9}(j:kW C)(k:jg C w q o)(n:J l=J L)(b:Sx v (Z w.1) 146 2 a (J l) (pX l L)):∃d c,a=X d (J l) c/\sr C o v d l L:=by
 obtain⟨e,e0,_⟩|⟨g,c,e,hg,_⟩:=Vc b;·exact⟨U,0,by rw[e,e0],λi h=>O⟩
 subst e;refine⟨_,c,R,λi h f=>⟨g,R,hg.2,λm=>?_,Jj b (Ab i h f).1,Jj b (Ab i h f).2⟩⟩;have:=k.lim m j;omega
end
section
open Go.Maps
theorem Bw(C:je)(y:N->ju j9)(F:CC){b:N}(d g:Wc)(e:Q (kW C))(hT:Q (jg C w y F))(hb:b<C.n)(he:Q (sr C F w p d g))(hn:Q (n=J d))(hl:Q (J d=J g))(az:n<=1000000)(hq:Q (∀i (am:i<J d) (h':i<J g),zh C (y b) b d[i] g[i])):
 Sk prog 62 #[Hn C.4,H b,X p n c] w λy_ P=>y_=Rt (St #[])/\∃x,jg C P y x/\x.mm C<=F.mm C/\i7 C F w x P:=by
 have ad:b<C.mn:=by have:=e.3.1;have:=e.4;have:=e.5;omega
 go_in
 go_wp2
 go_loopw [11] (λu wr=>∃(k:N)(K:CC),k<=n/\u=H k/\Q (jg C wr y K)/\Q (K.mm C<=F.mm C)/\Q (i7 C F w K wr)) λu _=>n-(JB u).toNat
 .exact⟨0,F,aN,R,hT,Y aA,Y i7.refl⟩
 obtain⟨k,K,hk,rfl,a,s,h⟩:=hrel;by_cases au:k<n
 .have T:k<J d:=oN hn.o;have M:k<J g:=oN hl.o;obtain⟨al,rfl,ar,aq,V,e1⟩:=(he.frk h.o) k T M;obtain⟨u,q,j,W,O_,T_,aj,Q_,af,P_⟩:=hq.o k T M;rw[W]at V;rw[O_]at e1;have v:=Y Q_;have t:=Y P_;clear W O_ Q_ P_;have c6:E wr (A C.4 6)=S (Hl C.5 C.mn C.sc):=Bx.c a.2 6;have ap:=Bx.lt a.2;have a2:=World.rowIs.lt a.3;obtain⟨m,s1⟩:=a.3.cell (b:=b) ad (r:=q) O;rw[show Sm (y b) q=(y b).1 (q:I)from aU aj,t.o]at m s1;have ao:(b:I)<(C.mn:I):=O;have a1:(q:I)<65:=O;by_cases f:pS C.xs[b].2 j (u:I)=So
  .rw[show xm C.cs C.xs[b].2 j (u:I)=((u:I),0)from aU f]at m s1;clear f t v;have D_:Q (∀(o B:Obj),Sw (Z wr.1) wr (D (D wr o) B).drew):=Y λo B=>(Xb (Xb (dC (Z wr.1) wr) o) B).drew;go_wp2;go_region;go_wp2;exact⟨⟨k+1,K,O,gM,Y<|a.calm (D_.o _ _),s,Y<|h.trans (i7.below<|D_.o _ _)⟩,SA⟩
  have L_:pS C.xs[b].2 j (u:I)=Sn:=by simpa using f
  rw[show xm C.cs C.xs[b].2 j (u:I)=(-1,Kp C.cs (u:I))from aM f]at m s1;have a0:((-1:I)==(u:I))=Sn:=sP;have F_:=Y L_;clear f L_ t;go_wp2;go_region;go_wp2_with fail
  have z:=(Xb (Xb (dC (Z wr.1) wr) (Sc #[H u,H q] 146)) (Sc #[H (-1),H (Kp C.cs (u:I))] 137)).drew;have L:=a.calm z;refine YU (TR C e (Y L.1) (Y L.2) T_ v (Y λ_=>F_.o)) λr l=>?_;have V_:Bx r (Z wr.1) #[H u,H q] 146:=((Bx.new wr _ _).box _).keep (l.5 _<|by show _<Z (D (D wr _) _).1;simp;omega);have W_:Bx r (Z wr.1+1) #[H (-1),H (Kp C.cs (u:I))] 137:=by have:=Bx.new (D wr (Sc #[H u,H q] 146)) #[H (-1),H (Kp C.cs (u:I))] 137;rw[aO]at this;exact this.keep<|l.5 _ (by show _<Z (D (D wr _) _).1;simp)
  have y0:E r (A (Z wr.1) 0)=S (H u):=Bx.c V_ 0;have y1:E r (A (Z wr.1+1) 1)=S (H (Kp C.cs (u:I))):=Bx.c W_ 1;have E_:=Y<|Xg z l;have G_:=Y<|a.calm E_.o;clear z L l V_ W_ m s1 V e1 c6;go_wp2_with fail
  refine YU (X6 C y K e G_ hb T_<|Y (KM af j v.o F_.o)) λw3⟨ac,I_,K_,J_⟩=>?_;have Z_:=Y I_;have aa:=Y<|h.trans ((i7.below E_.o).trans J_);have ab:=Y<|aJ K_ s.o;clear I_ K_ J_ G_ y0 y1;go_wp2;exact⟨⟨k+1,ac,O,gM,Z_,ab,aa⟩,SA⟩
 go_wp2
 go_end0
 exact⟨R,K,a.o,s.o,h.o⟩
end
section
variable {cs: Wc} {ys zs: Vr} {C: je}
def nN(cs:Wc)(ys zs:Vr)(i:N):ju j9:=RU (S5 cs ys i) (zs.take<|i-J ys)
theorem zv{i:N}(h:i<=J ys):nN cs ys zs i=S5 cs ys i:=by unfold nN;rw[show i-J ys=0 by omega];rfl
theorem Mh{i:N}(h:i<J ys):nN cs ys zs (i+1)=wN cs (nN cs ys zs i) ys[i]:=by rw[zv h,zv<|dU h,JU cs h]
theorem Qu{i:N}(h:J ys<=i)(a:i-J ys<J zs):nN cs ys zs (i+1)=r6 (nN cs ys zs i) zs[i-J ys]:=by unfold nN S5 RU;rw[show i+1-J ys=i-J ys+1 by omega,bN a,dT,aW (show J ys<=i+1 by omega),aW h];rfl
theorem T4{i:N}(h:i=J ys+J zs):nN cs ys zs i=RU (S5 cs ys (J ys)) zs:=by unfold nN S5;rw[aW (show J ys<=i by omega),aW<|@aA (J ys),aW<|show J zs<=i-J ys by omega]
theorem Fm{a:N->ju j9}{b:N}{s:ju j9}(h:a b=s):Rr a b s=a:=funext λq=>by
 unfold Rr;by_cases e:q=b;·rw[aU e,e,h]
 rw[aM e]
theorem yG(a:N->ju j9){b:N}(s:ju j9):Rr a b s b=s:=aU R
theorem Al(c:N->ju j9){b:N}(s a:ju j9):Rr (Rr c b s) b a=Rr c b a:=funext λq=>by
 unfold Rr;by_cases e:q=b;·rw[aU e,aU e]
 rw[aM e,aM e,aM e]
theorem z9{x:Yg}:J (BW x)<=1:=by unfold BW;split<;>simp
theorem D2{x:Yj}:J (Id x)<=1:=by unfold Id;split<;>simp
theorem L6(x:Yg):Iw (ZR cs x)=(Iw x).map (Kp cs):=by unfold Iw ZR;dsimp only;by_cases a:aB x.1=So<;>by_cases b:bB x.1=So<;>simp[a,b]
theorem S0(x:Yg):BW (ZR cs x)=(BW x).map (Kp cs):=by unfold BW ZR;dsimp only;by_cases a:dB x.1=So<;>simp[a]
theorem KU{v:I}{y:Yg}(g:v<=64)(h:Yw v 13 y=So)(i:11<=y.1):yL y:=by
 unfold Yw at h;simp only[bY,bD]at h;obtain⟨⟨⟨⟨⟨_,f⟩,a⟩,c⟩,_⟩,_⟩:=h;unfold yL;have:y.1=11\/y.1=12\/y.1=13:=O;obtain e|e|e:=this
 .have d:=Vb a (by rw[e];rfl);have b:=Vb c (by rw[e];rfl);exact bC ⟨e,O,O⟩
 .have b:=Vb c (by rw[e];rfl);exact aZ<|bC ⟨e,O⟩
 have d:=Vb a (by rw[e];rfl);exact aZ<|aZ ⟨e,O⟩
structure G5(C:je)(b:N)(xi cp:Vr)(T T':Yj):Prop where
 op:∀y∈xi,1<=y.1/\y.1<=10
 cpo:∀y∈cp,yL y
 oG:Id T'=(Id T).map (Kp C.cs)
 kT:T'.1=T.1/\1<=T.1/\T.1<=3
 fin:SY C.cs C.xs C.M b=RU (S5 C.cs xi (J xi)) cp
 ask:∀j (h:j<J xi),∀i (h1:i<J (Iw xi[j])) (h2:i<J ((Iw xi[j]).map (Kp C.cs))),zh C (S5 C.cs xi j) b (Iw xi[j])[i] ((Iw xi[j]).map (Kp C.cs))[i]
 askT:∀i (h1:i<J (Id T)) (h2:i<J ((Id T).map (Kp C.cs))),zh C (RU (S5 C.cs xi (J xi)) cp) b (Id T)[i] ((Id T).map (Kp C.cs))[i]
 wr:∀y∈xi,∀v∈BW y,0<=v/\0<=Kp C.cs v/\Kp C.cs v<64
 len:J xi<=4000/\J cp<=20000
theorem IN(a:kW C){b j:N}{v:I}(e:b<J C.xs)(d:0<=v)(g:v<C.V)(h:∀u:N,v=(u:I)->OD C.xs u b j):zh C (S5 C.cs C.xs[b].2 j) b v (Kp C.cs v):=by obtain⟨u,rfl⟩:=bX d;have c:=a.1.col (v:=(u:I)) d g;have i:=a.2;obtain⟨q,f⟩:=bX c.1;have:=h u R;exact⟨u,q,j,R,f,O,O,this,e,by rw[<-f];exact a.1.at_ e O j this⟩
theorem MN(g:kW C)(r:∀z∈C.xs,∀y∈z.2,y.1<=10)(k:nK C.k C.M=So){b:N}(h:b<J C.xs)(d:b<J C.M):G5 C b C.xs[b].2 (SX C.cs C.xs b C.xs[b]) C.xs[b].3 C.M[b].2:=by
 have i:=g.1.ok;obtain⟨e1,e2,e3,e4⟩:=g.3.3 b h d;have f:=aH h;unfold nK sj at k;simp only[bY,bD]at k;obtain⟨⟨⟨⟨⟨_,w⟩,_⟩,_⟩,B⟩,x⟩:=k;have o:=aH d;have l:=dV.1 x _ o;unfold Vdf at l;rw[bY]at l;have q:J C.M[b].1<=20000:=by have:=zI o;have:=wI C.M;omega
 rw[e1,aQ]at q;refine⟨λy a=>⟨(i.3 _ f y a).1,r _ f y a⟩,λy a=>?_,e4,⟨e2,i.4 _ f⟩,Ez g.3 h,λF m t e p=>?_,λt e p=>?_,λy a v s=>?_,(i.10 _ f).1,O⟩
 .have e:Yw C.k 13 y=So:=dV.1 l.1 y (by rw[e1];exact fB _ a);refine KU w e ?_;unfold SX at a;split at a;·exact(zL y a).1
  cases a
 .rw[cM];have d:=aH e;have:=i.5 _ f _ (aH m) _ d;exact IN g h this.1 this.2 λu j=>Qv h m<|by rw[<-j];exact d
 .rw[cM]
  have d:=aH e;have:=i.7 _ f _ d;have n:C.xs[b].3.1≠1:=λj=>by unfold Id at e;rw[j]at e;simp at e
  have:SX C.cs C.xs b C.xs[b]=[]:=by unfold SX;rw[aM n]
  rw[this];have:=i.7 _ f _ d;exact IN g h this.1 this.2 λu j=>Ok h<|by rw[<-j];exact d
 have:=i.6 _ f y a v s;have c:=g.1.col this.1 this.2;have n:=g.2;omega
theorem Q1{w:Ub}{L B:N}{g o:N}{x:Yg}{b:Vr}(h:YY w L B (S ⟨g,o,U⟩) (x::b)):YY w L B (S ⟨g,o+5,U⟩) b:=λi d=>by obtain⟨f,j,e,c,a⟩:=h (i+1) (by simpa using d);cases e;rw[show o+(i+1)*5=o+5+i*5 by omega]at a;exact⟨g,o+5,R,c,a⟩
theorem v7{w:Ub}{B:N}{v:Uj}{a:Wc}(h:Sx w B 2 1 v (J a) (a.map<|Si S6)):∃b c,v=X b (J a) c/\Xf w B (Z w.1) b a:=by
 obtain⟨e,e0,_⟩|⟨g,c,e,hg,_⟩:=Vc h;·exact⟨U,0,by rw[e,e0],λi d=>O⟩
 subst e;exact⟨_,c,R,yI h R⟩
end
end Go.Proofs.YtcncjgijikoapaaGreatDoor
