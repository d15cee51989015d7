import Derived.Test.YtnggdhnpjfigjaaGreatDoorRFN
namespace Go.Proofs.YtnggdhnpjfigjaaGreatDoor
set_option maxHeartbeats 4000000
set_option maxRecDepth 100000
open _root_ renaming Array.size->Z,List.length->J,Nat->N,rfl->R,Option.some->S,Option.none->U,Int->I,absurd->Sz,Bool.true->So,Bool.false->Sn,List.range->Rg
open Go renaming World.alloc->D,World.ownsRow->Sx,Ending.returned->Rt,RowKit.Below->Sw,Calls->Sk,World.cell?->E,IntKind.i64->S6,Obj.cells->Sc,World.setCell->Se
open Value renaming slice->X,bool->Sb,pointer->Sj,int->Si,string->Sg,agg->Sa
open Go.RowKit Go.Proofs.Tryz Go.Shelf
variable{t T z:I}{n m k B:N}{w v:Ub}{p:Uy}{d:Vv}{s S_:Wa}{l:Wc}{x:Wi}{q:Xe}{R_:Yh}
def Tx(p:Addr):Uj:=Sj (S p)
def Yd:List Bool->List Addr->List Addr
 |k::ks,p::ps=>if k then p::Yd ks ps else Yd ks ps
 |_,_=>[]
theorem BB(b:List Bool)(a:List Addr)(k:Bool)(p:Addr)(h:J b=J a):Yd (b++[k]) (a++[p])=Yd b a++(if k then [p]else []):=by
 induction b generalizing a with
 |nil=>cases a with
  |nil=>cases k<;>rfl
  |cons q r=>simp at h
 |cons x r c=>cases a with
  |nil=>simp at h
  |cons q s=>cases x<;>simp[Yd,c s<|by simpa using h]
theorem CS(b:List Bool)(a:List Addr):J (Yd b a)<=J a:=by
 induction b generalizing a with
 |nil=>simp[Yd]
 |cons x r c=>cases a with
  |nil=>simp[Yd]
  |cons q s=>have:=c s;cases x<;>simp[Yd]<;>omega
theorem QZ:(prog.info? 225).map (λi=>(i.8,i.3,i.4))=S (S<|.pointer U,1,8):=vZ
theorem Ct{l:List Addr}{v:Addr}:(l++[v]).map Tx=l.map Tx++[Tx v]:=sP
theorem BI(w:Ub):Sx (D w<|.cells #[] 225) (Z w.1) 225 1 (X (S ⟨Z w.1,0,U⟩) 0 0) 0 []:=by
 have:=eI (base:=Z w.1) (e:=225) (size:=1) w #[] 0 sP sP R;simpa using this
theorem UA(t j:Uy)(P C:N)(b:List Bool)(a:List Addr)(L B:N)(w:Ub)(l:B<=Z w.1)(n:Q (Zx w L B t<|b.map Sb))(r:Q (Zx w L B j<|a.map Tx))(p:Q (J b=J a))(V_:J a<=1000):
 Sk prog 143 #[X t (J b) P,X j (J a) C] w λh x=>∃v,h=Rt v/\Sw (Z w.1) w x/\Sx x (Z w.1) 225 1 v (J (Yd b a)) ((Yd b a).map Tx):=by
 let⟨y,F,z,M,T⟩:=fX QZ
 go_in
 go_wp2
 go_loopw [5,11] (λv i wr=>∃k:N,k<=J a/\i=H k/\Q (Sw (Z w.1) w wr)/\Q (Sx wr (Z w.1) 225 1 v (J (Yd (b.take k) (a.take k))) ((Yd (b.take k) (a.take k)).map Tx))) λ_ i _=>J a-(intOf i).toNat
 case atStart=>exact⟨0,aN,R,Y<|Xb Rf _,Y<|by simpa [Yd]using BI w⟩
 obtain⟨k,U_,rfl,c,d⟩:=hrel;have W_:=c.4;by_cases q:k<J a
 .have o:k<J b:=oN p.o;obtain⟨R_,X_,rfl,⟨_,S_⟩,V⟩:=(n.keepS<|YA.of_below (c.mono l)) k (by simpa using o);obtain⟨b2,Y_,rfl,⟨_,T_⟩,m⟩:=(r.keepS<|YA.of_below (c.mono l)) k (by simpa using q);rw[cM]at V m;unfold Tx at m;have g:Q (Yd (b.take<|k+1) (a.take<|k+1)=Yd (b.take k) (a.take k)++(if b[k]then [a[k]]else [])):=Y (by rw[bN o,bN q,BB _ _ _ _<|by simp only[dH];omega]);have f:Q (J (Yd (b.take k) (a.take k))+1<=2000):=Y (by have:=CS (b.take k) (a.take k);simp only[dH]at this;omega);generalize b[k]=K at*;generalize a[k]=u at*;cases K with
  |false=>
   have e:Q (Sx wr (Z w.1) 225 1 u5 (J (Yd (b.take<|k+1) (a.take<|k+1))) ((Yd (b.take<|k+1) (a.take<|k+1)).map Tx)):=Y (by rw[g.o];simpa using d.o);go_wp2;exact⟨⟨k+1,O,gM,c,e⟩,SA⟩
  |true=>
   have W:Q (Yd (b.take<|k+1) (a.take<|k+1)=Yd (b.take k) (a.take k)++[u]):=Y (by have:=g.o;simpa using this);go_wp2_with (at_builtin;refine bT _ R _ _ 136 R (Z w.1) 225 y (Sj U) 1 8 underlying136 F z M T R vY _ _ _ R (d.alloc _) (A (Z wr.1) 0) 1 1 [Sj (S u)] R R ?c1 ?c2 ?c3 ?c4 ?c5 ?_)
   case c2=>first|rfl|simp|(intro Z_ s;simp at s;subst s;rfl)
   case c3=>have:=f.o;unfold maxLen;omega
   case c4=>have:=f.o;omega
   case c5=>first|omega|(simp;omega)
   intro v1 Q_ r_ n_ H_ D_;have e:Q (Sx Q_ (Z w.1) 225 1 v1 (J (Yd (b.take<|k+1) (a.take<|k+1))) ((Yd (b.take<|k+1) (a.take<|k+1)).map Tx)):=Y (by rw[W.o,Ct,aQ];exact r_);have y_:=Y (Xy ((c).alloc O _) n_ (d.alloc _) aA SB);go_wp2;exact⟨⟨k+1,O,gM,y_,e⟩,SA⟩
 have z_:Q (Sx wr (Z w.1) 225 1 u5 (J (Yd b a)) ((Yd b a).map Tx)):=Y (by have:=d.o;have h:=p.o;rwa[aW O,aW O]at this);go_wp2;go_ret;exact⟨_,R,c,z_⟩
theorem KZ(B:N){b:List Addr}(a:Wc)(C:m<=Z w.1)(x:Q (Zx w n m p<|b.map Tx))(e:Q (J a=J b))(z:Q (∀i (N_:i<J b) (O_:i<J a),b[i].1<Z w.1/\E w b[i]=S (H a[i])))(S_:J b<=1000):
 Sk prog 74 #[X p (J b) B] w λg u=>∃v,g=Rt v/\Sw (Z w.1) w u/\Sx u (Z w.1) 2 1 v (J a) (a.map<|Value.int S6):=by
 let⟨L,F,P,T,K⟩:=fX RH
 go_in
 go_wp2
 go_loopw [3,9] (λv i wr=>∃k:N,k<=J b/\i=H k/\Q (Sw (Z w.1) w wr)/\Q (Sx wr (Z w.1) 2 1 v (J (a.take k)) ((a.take k).map (Si S6)))) λ_ i _=>J b-(intOf i).toNat
 case atStart=>exact⟨0,aN,R,Y<|Xb Rf _,Y (by
  have:=eI (base:=Z w.1) (e:=2) (size:=1) w #[] 0 sP sP R;simpa using this)⟩
 obtain⟨k,R_,rfl,c,d⟩:=hrel;have T_:=c.4;by_cases o:k<J b
 .have l:k<J a:=oN e.o;obtain⟨b2,U_,rfl,⟨_,P_⟩,h⟩:=(x.keepS<|YA.of_below (c.mono C)) k (by simpa using o);rw[cM]at h;unfold Tx at h;let⟨r,s⟩:=z k o l;have Q_:=G (c.cell (p:=b[k]) r) s;have W:=Y<|bN l;have f:Q (J (a.take k)+1<=2000):=Y (by have:=e.o;simp only[dH];omega);generalize a[k]=V at*;generalize b[k]=W_ at*;go_wp2_with (at_builtin;refine bT _ R _ _ 35 R (Z w.1) 2 L (H 0) 1 8 underlying35 F P T K R vY _ _ _ R (d.alloc _) (A (Z wr.1) 0) 1 1 [H V] R R ?c1 ?c2 ?c3 ?c4 ?c5 ?_)
  case c1=>exact cell_one_new _ _ _
  case c2=>intro X_ t;simp at t;subst t;rfl
  case c3=>have:=f.o;unfold maxLen;omega
  case c4=>have:=f.o;omega
  case c5=>simp;omega
  intro v1 M q j F_ D_;have y:Q (Sx M (Z w.1) 2 1 v1 (J (a.take<|k+1)) ((a.take<|k+1).map (Si S6))):=Y (by
   rw[W.o,BE,aQ,List.map_take,dH];exact q)
  have x_:=Y (Xy ((c).alloc O _) j (d.alloc _) aA SB);go_wp2;exact⟨⟨k+1,O,gM,x_,y⟩,SA⟩
 have z_:Q (Sx wr (Z w.1) 2 1 u3 (J a)<|a.map (Si S6)):=Y (by have:=d.o;have g:=e.o;rwa[aW O]at this);go_wp2;go_ret;exact⟨_,R,c,z_⟩
def iB(a:I):Bool:=decide (a<=2)
def gx(k:I):Wn:=if k=1 then [106,117,109,112]else if k=3 then [114,101,116]else [98,114,97,110,99,104]
def Yy(w:Ub):Prop:=0 < Z w.1/\∀k:N,1<=k->k<=13->E w ⟨0,k*5,U⟩=S (Sg (K8<|bz k))/\E w ⟨0,k*5+1,U⟩=S (Sb (dB k))/\E w ⟨0,k*5+2,U⟩=S (Sb (aB k)) /\
 E w ⟨0,k*5+3,U⟩=S (Sb (bB k))/\E w ⟨0,k*5+4,U⟩=S (Sb (iB k))
def Yb(w:Ub):Prop:=1 < Z w.1/\∀k:N,1<=k->k<=3->E w ⟨1,k*4,U⟩=S (Sg (K8<|gx k))/\E w ⟨1,k*4+1,U⟩=S (Sb ((k:I) != 1))/\E w ⟨1,k*4+2,U⟩=S (Sb ((k:I) != 3)) /\
 E w ⟨1,k*4+3,U⟩=S (Sb ((k:I)==2))
theorem Yy.keep{w':Ub}(h:Yy w)(k:Sw n w w')(c:0 < n):Yy w':=by
 refine⟨aX h.1 k.4,λi a b=>?_⟩;have e:=λo=>Xc (o:=o) (k.5 0 c);let⟨c0,c1,c2,c3,c4⟩:=h.2 i a b;exact⟨G (e _) c0,G (e _) c1,G (e _) c2,G (e _) c3,G (e _) c4⟩
theorem Yb.keep{w':Ub}(h:Yb w)(k:Sw n w w')(c:1 < n):Yb w':=by
 refine⟨aX h.1 k.4,λi a b=>?_⟩;have e:=λo=>Xc (o:=o) (k.5 1 c);let⟨c0,c1,c2,c3⟩:=h.2 i a b;exact⟨G (e _) c0,G (e _) c1,G (e _) c2,G (e _) c3⟩
theorem Yy.old(h:Yy w):Uw w:=⟨h.1,λk a b=>by
 let⟨c0,c1,c2,c3,c4⟩:=h.2 k a b;exact⟨_,c0,c1,c2,c3,_,c4⟩⟩
theorem Yb.old(h:Yb w):T7 w:=⟨h.1,λk a b=>by
 let⟨c0,c1,c2,c3⟩:=h.2 k a b;exact⟨_,c0,c1,c2,c3⟩⟩
theorem J7(w:Ub)(a:Wo)(t:TypeId)(d:Wo)(c:TypeId):Zx (D (D w<|.cells a.toArray t) (Sc d.toArray c)).drew (Z w.1) (Z w.1+2) (S ⟨Z w.1,0,U⟩) a:=λi b=>
 ⟨_,0,R,⟨aA,O⟩,by
  let⟨f,o,e,_,h⟩:=uk w a t i b;cases e;exact G (Xc<|Below.heap_alloc _ _ _ sP) h⟩
theorem J6(w:Ub)(c:Wo)(t:TypeId)(b:Wo)(a:TypeId):Zx (D (D w<|.cells b.toArray a) (Sc c.toArray t)).drew (Z w.1) (Z w.1+2) (S ⟨Z w.1+1,0,U⟩) c:=λi d=>
 ⟨_,0,R,⟨O,O⟩,by
  let⟨f,o,e,_,h⟩:=uk (D w<|.cells b.toArray a) c t i d;have e1:Z (D w<|.cells b.toArray a).1=Z w.1+1:=sP;rw[e1]at e;cases e;exact h⟩
theorem yQ{c:List Bool}{b:List Addr}{a W:Ub}{e d:Uy}{i h:N}(n:J c=J b)(p:J b<=1000)(l:Sw (Z a.1) a W)(q:Z a.1+2<=Z W.1)(m:Zx W (Z a.1) (Z a.1+2) e (c.map Sb))(o:Zx W (Z a.1) (Z a.1+2) d (b.map Tx)):
 Sk prog 143 #[X e (J c) i,X d (J b) h] W λg f=>∃v,g=Rt v/\Sw (Z a.1) a f/\Sx f (Z a.1) 225 1 v (J (Yd c b)) ((Yd c b).map Tx):=by
 refine(UA e d i h c b (Z a.1) (Z a.1+2) W q (Y m) (Y o) (Y n) p).mono ?_;rintro g f⟨v,rfl,j,k⟩;exact⟨v,R,Xg l j,Zk k O⟩
theorem zE(b:N)(k:N)(z x y r:I)(w:Ub)(u:Q (Jk w b 0 ⟨k,z,x,y,r⟩))(l:1<=k)(m:k<=13)(p:Q (Yy w)):
 Sk prog 75 #[Hn b] w λn a=>∃v,n=Rt v/\Sw (Z w.1) w a/\Sx a (Z w.1) 225 1 v (J (Yd [dB k,aB k,bB k,iB k] [(A b 1),(A b 2),(A b 3),(A b 4)])) ((Yd [dB k,aB k,bB k,iB k] [(A b 1),(A b 2),(A b 3),(A b 4)]).map Tx):=by
 obtain⟨q,q1,q2,q3,q4⟩:=u.o;simp only at q q1 q2 q3 q4;obtain⟨c0,c1,c2,c3,c4⟩:=p.2 k l m;have O_:=p.1;generalize dB (k:I)=i at*;generalize aB (k:I)=g at*;generalize bB (k:I)=h at*;generalize iB (k:I)=j at*
 go_in
 go_wp2_with fail
 have L:(λe:Ub=>Z e.1=Z w.1+1/\E e ⟨Z w.1,1,U⟩=S (Sb i)/\E e ⟨Z w.1,2,U⟩=S (Sb g)/\E e ⟨Z w.1,3,U⟩=S (Sb h)/\E e ⟨Z w.1,4,U⟩=S (Sb j)/\Q (Sw (Z w.1) w e)) (D w<|.cells #[Sg (K8<|bz k),Sb i,Sb g,Sb h,Sb j] 133):=⟨sP,sP,sP,sP,sP,Y<|Xb Rf _⟩;generalize D w _=c at*;obtain⟨e1,B,C,M,P,s⟩:=L;clear q q1 q2 q3 q4 c0 c1 c2 c3 c4;have M_:=Y e1;have f:Z w.1<Z c.1:=O;clear e1;have t:=Y λK T W l m F V=>@yQ [i,g,h,j] [⟨b,1,U⟩,⟨b,2,U⟩,⟨b,3,U⟩,⟨b,4,U⟩] c W K T 4 4 R sP l m F V
 go_region_held3 (λa=>E a ⟨Z w.1,1,U⟩=S (Sb i)/\E a ⟨Z w.1,2,U⟩=S (Sb g)/\E a ⟨Z w.1,3,U⟩=S (Sb h)/\E a ⟨Z w.1,4,U⟩=S (Sb j)) (go_keep)
  (first|(go_at_call 143;refine(t _ _ _ (Xb (Xb Rf _) _).drew (by show _<=Z (World.alloc _ _).1;simp) (by first|exact J7 c _ _ _ _|exact J6 c _ _ _ _) (by first|exact J6 c _ _ _ _|exact J7 c _ _ _ _)).mono ?_;rintro n L_⟨v5,rfl,d,o⟩;have r_:=Y<|s.trans (d.mono O);have u_:Q (Sx L_ (Z w.1) 225 1 v5 _ _):=Y<|Zk o O;have f1:=oB d B f;have f2:=oB d C f;have f3:=oB d M f;have N_:=oB d P f;clear d o))
 all_goals
  go_wp2;go_ret;exact⟨_,R,r_,u_⟩
def Iw(x:Yg):Wc:=(if aB x.1 then [x.a]else [])++(if bB x.1 then [x.b]else [])
theorem vf(b k:N)(l h j m:I)(w:Ub)(Z_:Q (Jk w b 0 ⟨k,l,h,j,m⟩))(V_:1<=k)(L:k<=13)(M:Q (Yy w)):
 Sk prog 163 #[Hn b] w λe f=>∃v,e=Rt v/\Sw (Z w.1) w f/\Sx f (Z w.1) 2 1 v (J (Iw ⟨k,l,h,j,m⟩)) ((Iw ⟨k,l,h,j,m⟩).map (Si S6)):=by
 obtain⟨P,q1,q2,q3,q4⟩:=Z_.o;simp only at P q1 q2 q3 q4;obtain⟨c0,c1,c2,c3,c4⟩:=M.2 k V_ L;have hz:=M.1;have K:b<Z w.1:=aI w _ q2;have x:Q (Iw ⟨k,l,h,j,m⟩=(if aB (k:I)then [h]else [])++(if bB (k:I)then [j]else [])):=Y R;generalize Iw ⟨k,l,h,j,m⟩=B at*;generalize dB (k:I)=uD at*;generalize aB (k:I)=c at*;generalize bB (k:I)=d at*;generalize iB (k:I)=uI at*;have T:=Y q2;have V:=Y q3
 go_in
 go_wp2_with fail
 have X_:(λt:Ub=>Z t.1=Z w.1+1/\E t (A (Z w.1) 2)=S (Sb c)/\E t (A (Z w.1) 3)=S (Sb d)/\Q (Sw (Z w.1) w t)) (D w<|.cells #[Sg (K8<|bz k),Sb uD,Sb c,Sb d,Sb uI] 133):=⟨sP,sP,sP,Y<|Xb Rf _⟩;generalize D w _=a at*;obtain⟨e1,F,G_,u⟩:=X_;clear P q1 q2 q3 q4 c0 c1 c2 c3 c4;have af:=Y e1;have q:Z w.1<Z a.1:=O;clear e1;have y:Q (∀(s n:Uy)(W:Ub),Sw (Z a.1) a W->Zx W (Z a.1) (Z W.1) s ([c,d].map Sb)->Zx W (Z a.1) (Z W.1) n ([(A b 2),(A b 3)].map Tx)->Sk prog 143 #[X s 2 2,X n 2 2] W λe g=>∃i c5 m5,e=Rt (X i m5 c5)/\E g (A (Z w.1) 2)=S (Sb c)/\E g (A (Z w.1) 3)=S (Sb d) /\
  Q (Sk prog 74 #[X i m5 c5] g λe f=>∃v,e=Rt v/\E f (A (Z w.1) 2)=S (Sb c)/\E f (A (Z w.1) 3)=S (Sb d)/\Q (Sw (Z w.1) w f)/\Q (Sx f (Z w.1) 2 1 v (J B)<|B.map (Si S6)))):=Y (λs n W I_ hk hp=>by
  have aj:=I_.4;refine(UA s n 2 2 [c,d] [(A b 2),(A b 3)] (Z a.1) (Z W.1) W aA (Y hk) (Y hp) (Y R) sP).mono ?_;rintro e g⟨v5,rfl,J_,aa⟩;have s5:=J_.4;have r:=Xg I_ J_;obtain⟨i,c5,rfl,ac⟩:=UO aa;rw[bK];have L_:=u.trans<|r.mono O;refine⟨i,c5,_,R,oB r F q,oB r G_ q,Y ?_⟩;have O_:=oB L_ T K;have P_:=oB L_ V K;have p:b<Z g.1:=O;refine(KZ c5 B aA (Y ac) (Y ?_) (Y ?_) ?_).mono ?_;·rw[x.o];cases c<;>cases d<;>rfl
  .intro z o h';have ad:=x.o;subst ad;cases c<;>cases d;·exact Sz o<|by simp[Yd]
   .match z,o with
    |0,_=>exact⟨p,P_⟩
   .match z,o with
    |0,_=>exact⟨p,O_⟩
   match z,o with
   |0,_=>exact⟨p,O_⟩
   |1,_=>exact⟨p,P_⟩
  .cases c<;>cases d<;>simp[Yd]
  rintro e w7⟨Q_,rfl,Y_,ab⟩
  have C:=Xg r Y_;exact⟨Q_,R,oB C F q,oB C G_ q,Y<|u.trans (C.mono O),Y<|Zk ab O⟩)
 have S_:=Y (y.o (S ⟨Z a.1,0,U⟩) (S ⟨Z a.1+1,0,U⟩) (D (D a<|.cells #[Sb c,Sb d] 4) (Sc #[Ho b 2,Ho b 3] 225)).drew (Xb (Xb (Below.refl (Z a.1) a) _) _).drew (by rw[show Z (D (D a<|.cells #[Sb c,Sb d] 4) (Sc #[Ho b 2,Ho b 3] 225)).drew.1=Z a.1+2 from by show Z (D (D a<|.cells #[Sb c,Sb d] 4) (Sc #[Ho b 2,Ho b 3] 225)).1=_;simp];exact J7 a [Sb c,Sb d] 4 [Ho b 2,Ho b 3] 225) (by rw[show Z (D (D a<|.cells #[Sb c,Sb d] 4) (Sc #[Ho b 2,Ho b 3] 225)).drew.1=Z a.1+2 from by show Z (D (D a<|.cells #[Sb c,Sb d] 4) (Sc #[Ho b 2,Ho b 3] 225)).1=_;simp];exact J6 a [Ho b 2,Ho b 3] 225 [Sb c,Sb d] 4));have T_:=Y (y.o (S ⟨Z a.1+1,0,U⟩) (S ⟨Z a.1,0,U⟩) (D (D a<|.cells #[Ho b 2,Ho b 3] 225) (Sc #[Sb c,Sb d] 4)).drew (Xb (Xb (Below.refl (Z a.1) a) _) _).drew (by rw[show Z (D (D a<|.cells #[Ho b 2,Ho b 3] 225) (Sc #[Sb c,Sb d] 4)).drew.1=Z a.1+2 from by show Z (D (D a<|.cells #[Ho b 2,Ho b 3] 225) (Sc #[Sb c,Sb d] 4)).1=_;simp];exact J6 a [Sb c,Sb d] 4 [Ho b 2,Ho b 3] 225) (by rw[show Z (D (D a<|.cells #[Ho b 2,Ho b 3] 225) (Sc #[Sb c,Sb d] 4)).drew.1=Z a.1+2 from by show Z (D (D a<|.cells #[Ho b 2,Ho b 3] 225) (Sc #[Sb c,Sb d] 4)).1=_;simp];exact J7 a [Ho b 2,Ho b 3] 225 [Sb c,Sb d] 4));clear y u T V x
 go_region_held3 (λf=>E f (A (Z w.1) 2)=S (Sb c)/\E f (A (Z w.1) 3)=S (Sb d)) (go_keep)
  (first
   |(go_at_call 143;with_reducible refine S_.o.mono ?_;rintro e g⟨i,c5,m5,rfl,f2,f3,C_⟩)
   |(go_at_call 143;with_reducible refine T_.o.mono ?_;rintro e g⟨i,c5,m5,rfl,f2,f3,C_⟩)
   |(go_at_call 74;with_reducible refine C_.o.mono ?_;rintro e w7⟨Q_,rfl,L,h3,R_,U_⟩))
 all_goals
  go_wp2;go_ret;exact⟨_,R,R_,U_⟩
def Id(x:Yj):Wc:=if x.1 != 1 then [x.a]else []
theorem tL(C:Q (Va w n m ⟨k,t,T,z⟩))(L:1<=k)(B:k<=3)(q:Q (Yb w)):
 Sk prog 132 #[Ho n m] w λe c=>∃v,e=Rt v/\Sw (Z w.1) w c/\Sx c (Z w.1) 225 1 v (J (Yd [(k:I) != 1] [(A n<|m+1)])) ((Yd [(k:I) != 1] [(A n<|m+1)]).map Tx):=by
 let⟨h,q1,q2,q3⟩:=C.o;simp only at h q1 q2 q3;let⟨c0,c1,c2,c3⟩:=q.2 k L B;have r:=q.1;have p:n<Z w.1:=aI w _ h;generalize ((k:I) != 1)=b at*;have i:Q (∀(g f:Uy)(W:Ub),Sw (Z w.1) w W->Zx W (Z w.1) (Z W.1) g ([b].map Sb)->Zx W (Z w.1) (Z W.1) f ([(A n<|m+1)].map Tx)->Sk prog 143 #[X g 1 1,X f 1 1] W λe d=>∃v,e=Rt v/\Sw (Z w.1) w d/\Q (Sx d (Z w.1) 225 1 v (J (Yd [b] [(A n<|m+1)])) ((Yd [b] [(A n<|m+1)]).map Tx))):=Y (λg f W o M F=>by
  have K:=o.4;refine(UA g f 1 1 [b] [(A n<|m+1)] (Z w.1) (Z W.1) W aA (Y M) (Y F) (Y R) sP).mono ?_;rintro e d⟨v5,rfl,a,P⟩;exact⟨v5,R,Xg o a,Y<|Zk P O⟩)
 have e2:∀x y,Z (D (D w x) y).drew.1=Z w.1+2:=λx y=>by show Z (D (D w x) y).1=_;simp
 have s:=Y (i.o (S ⟨Z w.1,0,U⟩) (S ⟨Z w.1+1,0,U⟩) (D (D w<|.cells #[Sb b] 4) (Sc #[Ho n<|m+1] 225)).drew (Xb (Xb (Below.refl (Z w.1) w) _) _).drew (by rw[e2];exact J7 w [Sb b] 4 [Ho n<|m+1] 225) (by rw[e2];exact J6 w [Ho n<|m+1] 225 [Sb b] 4));have u:=Y (i.o (S ⟨Z w.1+1,0,U⟩) (S ⟨Z w.1,0,U⟩) (D (D w<|.cells #[Ho n<|m+1] 225) (Sc #[Sb b] 4)).drew (Xb (Xb (Below.refl (Z w.1) w) _) _).drew (by rw[e2];exact J6 w [Sb b] 4 [Ho n<|m+1] 225) (by rw[e2];exact J7 w [Ho n<|m+1] 225 [Sb b] 4));have V:(0:I)<=(k:I):=O;have I_:(k:I)<4:=O
 go_in
 go_wp2_with fail
 go_region_held3 (λc=>E c (A n m)=S (H k)/\E c (A 1<|k*4+1)=S (Sb b)) (go_keep)
  (first
   |(go_at_call 143;with_reducible refine s.o.mono ?_;rintro e d⟨v5,rfl,a,l⟩;have f2:=oB a h p;have f3:=oB a c1 r;have j:=Y a;clear a)
   |(go_at_call 143;with_reducible refine u.o.mono ?_;rintro e d⟨v5,rfl,a,l⟩;have f2:=oB a h p;have f3:=oB a c1 r;have j:=Y a;clear a))
 all_goals
  go_wp2;go_ret;exact⟨v5,R,j,l⟩
theorem BY(w:Ub)(i:Q (Va w n m ⟨k,t,T,z⟩))(p:1<=k)(B:k<=3)(r:Q (Yb w)):
 Sk prog 161 #[Ho n m] w λe q=>∃v,e=Rt v/\Sw (Z w.1) w q/\Sx q (Z w.1) 2 1 v (J (Id ⟨k,t,T,z⟩)) ((Id ⟨k,t,T,z⟩).map (Si S6)):=by
 have s:=Y<|tL i p B r;let⟨c,q1,q2,q3⟩:=i.o;simp only at c q1 q2 q3;have f:Q (Id ⟨k,t,T,z⟩=if ((k:I) != 1)then [t]else []):=Y R;generalize Id ⟨k,t,T,z⟩=x at*;generalize ((k:I) != 1)=b at*;have y:n<Z w.1:=aI w _ c
 go_in
 go_wp2_with fail
 refine s.mono ?_;rintro e P⟨v5,rfl,a,j⟩;obtain⟨K,c5,rfl,o⟩:=UO j;rw[bK];have C:n<Z P.1:=oN a.4
 have u:=Y (KZ c5 x aA (Y o) (Y<|by rw[f.o];cases b<;>rfl) (Y (by
  intro V h L;have F:=f.o;subst F;cases b;·exact Sz h<|by simp[Yd]
  match V,h with
  |0,_=>exact⟨C,oB a (Y q1) y⟩)) (by cases b<;>simp[Yd]))
 have d:=Y a;generalize J (Yd [b] [(A n<|m+1)])=M at*;go_wp2_with fail
 refine u.mono ?_;rintro e N_⟨W,rfl,g,l⟩;go_wp2;go_ret;exact⟨W,R,Y<|Xg d g,Y<|Zk l d.4⟩
def BW(x:Yg):Wc:=if dB x.1 then [x.2]else []
theorem UH(b:N)(g j k l:I)(w:Ub)(V:Q (Jk w b 0 ⟨n,g,j,k,l⟩))(K:1<=n)(L:n<=13)(F:Q (Yy w)):
 Sk prog 139 #[Hn b] w λe d=>∃v,e=Rt v/\Sw (Z w.1) w d/\Sx d (Z w.1) 2 1 v (J (BW ⟨n,g,j,k,l⟩)) ((BW ⟨n,g,j,k,l⟩).map (Si S6)):=by
 let⟨q,q1,q2,q3,q4⟩:=V.o;simp only at q q1 q2 q3 q4;let⟨c0,c1,c2,c3,c4⟩:=F.2 n K L;have t:=F.1;have o:b<Z w.1:=aI w _ q2;have r:Q (BW ⟨n,g,j,k,l⟩=if dB (n:I)then [g]else []):=Y R;generalize BW ⟨n,g,j,k,l⟩=y at*;generalize dB (n:I)=a at*;have C:=Y q1;have s:Q (∀(p m:Uy)(W:Ub),Sw (Z w.1) w W->Zx W (Z w.1) (Z W.1) p ([a].map Sb)->Zx W (Z w.1) (Z W.1) m ([(A b 1)].map Tx)->Sk prog 143 #[X p 1 1,X m 1 1] W λe i=>∃f c5 m5,e=Rt (X f m5 c5)/\Sw (Z w.1) w i /\
  Q (Sk prog 74 #[X f m5 c5] i λe d=>∃v,e=Rt v/\Sw (Z w.1) w d/\Q (Sx d (Z w.1) 2 1 v (J y)<|y.map (Si S6)))):=Y (λp m W P O_ R_=>by
  have ad:=P.4;refine(UA p m 1 1 [a] [(A b 1)] (Z w.1) (Z W.1) W aA (Y O_) (Y R_) (Y R) sP).mono ?_;rintro e i⟨v5,rfl,c,P_⟩;have s5:=c.4;have u:=Xg P c;obtain⟨f,c5,rfl,S_⟩:=UO P_;rw[bK];refine⟨f,c5,_,R,u,Y ?_⟩;have V_:=oB u C o;have M_:b<Z i.1:=O;refine(KZ c5 y aA (Y S_) (Y ?_) (Y ?_) ?_).mono ?_;·rw[r.o];cases a<;>rfl
  .intro U_ T Y_;have T_:=r.o;subst T_;cases a;·exact Sz T<|by simp[Yd]
   match U_,T with
   |0,_=>exact⟨M_,V_⟩
  .cases a<;>simp[Yd]
  rintro e X_⟨x,rfl,h,Q_⟩
  exact⟨x,R,Xg u h,Y<|Zk Q_ O⟩)
 have e2:∀z M,Z (D (D w z) M).drew.1=Z w.1+2:=λz M=>by show Z (D (D w z) M).1=_;simp
 have H_:=Y (s.o (S ⟨Z w.1,0,U⟩) (S ⟨Z w.1+1,0,U⟩) (D (D w<|.cells #[Sb a] 4) (Sc #[Ho b 1] 225)).drew (Xb (Xb (Below.refl (Z w.1) w) _) _).drew (by rw[e2];exact J7 w [Sb a] 4 [Ho b 1] 225) (by rw[e2];exact J6 w [Ho b 1] 225 [Sb a] 4));have I_:=Y (s.o (S ⟨Z w.1+1,0,U⟩) (S ⟨Z w.1,0,U⟩) (D (D w<|.cells #[Ho b 1] 225) (Sc #[Sb a] 4)).drew (Xb (Xb (Below.refl (Z w.1) w) _) _).drew (by rw[e2];exact J6 w [Sb a] 4 [Ho b 1] 225) (by rw[e2];exact J7 w [Ho b 1] 225 [Sb a] 4));have ab:(0:I)<=(n:I):=O;have ac:(n:I)<14:=O
 go_in
 go_wp2_with fail
 go_region_held3 (λd=>E d (A b 0)=S (H n)/\E d (A 0<|n*5+1)=S (Sb a)) (go_keep)
  (first
   |(go_at_call 143;with_reducible refine H_.o.mono ?_;rintro e i⟨f,c5,m5,rfl,c,B⟩;have f2:=oB c q o;have f3:=oB c c1 t;clear c)
   |(go_at_call 143;with_reducible refine I_.o.mono ?_;rintro e i⟨f,c5,m5,rfl,c,B⟩;have f2:=oB c q o;have f3:=oB c c1 t;clear c)
   |(go_at_call 74;with_reducible refine B.o.mono ?_;rintro e X_⟨x,rfl,h,J_⟩;have Z_:=oB h q o;have aa:=oB h c1 t;have G_:=Y h;clear h))
 all_goals
  go_wp2;go_ret;exact⟨x,R,G_,J_⟩
theorem KY{m' l':N}{args:Zh}{a:Ending->Vy}(h:YieldAt Fence.wide n R_ m args w a):YieldAt (Fence.wide.inRound l') m' R_ m args w a:=by
 let⟨g,tmps,d,e,i,b⟩:=h;exact⟨g,tmps,d,e,i,b.1,λc f _=>b.2 c f<|room_wide _⟩
structure Pl where
 i:N
 ua:Uy
 uc:N
 us:Wc
 da:Uy
 dc:N
 ds:Wc
def Pl.dat(p:Pl):N×Wc×Wc:=(p.i,p.4,p.7)
def pf(p:Pl):Zh:=#[Si S6 (p.i:I),Sa #[X p.2 (J p.4) p.3,X p.5 (J p.7) p.6]]
def og(a:N)(b:N×Wc×Wc->Prop)(p:Pl)(V:Ub):Prop:=b p.dat/\Xf V a (Z V.1) p.2 p.4/\Xf V a (Z V.1) p.5 p.7
def VH(x:Xe)(j:Fin (J x.2)):N×Wc×Wc:=((j:N)+1,Iw<|x.2[j],BW<|x.2[j])
def NS(x:Xe):List (N×Wc×Wc):=(J x.2+1,Id x.3,[])::((Us (J x.2) 0).map (VH x)++[(0,[],x.1.map Ph.dst)])
theorem t6(x:Xe)(j:Fin (J x.2)):VH x j∈NS x:=by
 refine cN _<|dD _ (List.mem_map_of_mem ?_);unfold Us;rw[aW sP];exact kU.2<|lX j
theorem tE(x:Xe):((0:N),([]:Wc),x.1.map Ph.dst)∈NS x:=cN _<|fB _ (cS.2 R)
theorem Yy.of_block(h:Yy w)(e:v.1[(0: N)]?=w.1[(0: N)]?)(c:Z w.1<=Z v.1):Yy v:=by
 refine⟨aX h.1 c,λi a b=>?_⟩;have e:=λo=>Xc (o:=o) e;simp only[e];exact h.2 i a b
theorem Yb.of_block(h:Yb w)(e:v.1[(1: N)]?=w.1[(1: N)]?)(c:Z w.1<=Z v.1):Yb v:=by
 refine⟨aX h.1 c,λi a b=>?_⟩;have e:=λo=>Xc (o:=o) e;simp only[e];exact h.2 i a b
structure P0(x:Xe)(L B Bx n₀:N)(V:Ub):Prop where
 op:Yy V
 ter:Yb V
 blk:Tk V L B Bx 0 x
 lt:Bx<n₀
 le:B<=n₀
 g1:0 < n₀
 g2:1 < n₀
theorem XO{a:Type}{d:a->Vy}(b:OwnFrom n d){s:a}(h:d s w)(k:Sw (Z w.1) w v):d s v :=
 b s w v U h ⟨k.1,k.2,k.3,k.4,λi c _=>k.5 i c⟩ λr e=>by cases e
theorem YK{F:Fence}{b:Func}{tmps:Zh}{a:Ending->Vy}(c:w.1[m]?=S (.deferred (S [])))(h:∃v,(results b tmps).run R_ (w.putObj m<|.deferred U)=.ok v (w.putObj m<|.deferred U)/\a (Rt v) (w.putObj m<|.deferred U)):LeavesInM F n R_ b tmps a [{ target:=.collected m,args:=#[] }] .returning w :=
 ⟨sP,bC ⟨m,_,R,run_takeDeferred c,h⟩⟩
theorem oU(y:Yg):J (Iw y)<=2:=by unfold Iw;split<;>split<;>simp
section
inductive Av (tg:N->List N) (a:N):N->Prop
 |root:a≠0->Av tg a 0
 |step {b t:N}:Av tg a b->t∈tg b->t≠a->Av tg a t
inductive Re (tg:N->List N):N->Prop
 |root:Re tg 0
 |step {b t:N}:Re tg b->t∈tg b->Re tg t
structure JO(tg:Yr)(a b:N):Prop where
 ra:Re tg a
 rb:Re tg b
 no:¬Av tg a b
variable {tg: N -> Wa}
theorem rp{a b}(h:Av tg a b):Re tg b:=by
 induction h with
 |root=>exact Re.root
 |step _ c _ d=>exact Re.step d c
theorem wX{a b}(h:Av tg a b):b≠a:=by
 cases h with
 |root h=>exact λe=>h e.symm
 |step _ _ h=>exact h
theorem Zd{b}(h:Re tg b):JO tg b b:=⟨h,h,λe=>wX e R⟩
theorem CW{b}(h:Re tg b):JO tg 0 b:=⟨Re.root,h,λe=>by
 have:∀{c},Av tg 0 c->False:=λa=>by
  induction a with
  |root h=>exact h R
  |step _ _ _ d=>exact d
 exact this e⟩
theorem Fq{x a d}(i:Av tg x d)(g:¬Av tg a d):Av tg x a:=by
 induction i with
 |root b=>
  have:a=0:=dQ λe=>g<|Av.root e;rw[this];exact Av.root b
 |@step c t j h b k=>
  by_cases f:Av tg a c
  .have:t=a:=dQ λe=>g<|Av.step f h e;rw[<-this];exact Av.step j h b
  exact k f
theorem J8{a b c}(h:JO tg a b)(k:JO tg b c):JO tg a c:=⟨h.1,k.2,λe=>h.3<|Fq e k.3⟩
theorem Dr{a b}(f:a≠b){c}(h:Re tg c):(Av tg a c/\Av tg b c)\/Av tg b a\/Av tg a b:=by
 induction h with
 |root=>
  by_cases ha:a=0;·subst ha;exact aZ<|bC (Av.root λe=>f e.symm)
  by_cases j:b=0;·subst j;exact aZ<|aZ (Av.root ha)
  exact bC ⟨Av.root ha,Av.root j⟩
 |@step c t _ d k=>
  obtain⟨h1,h2⟩|h|h:=k
  .by_cases g:t=a;·subst g;exact aZ<|bC (Av.step h2 d f)
   by_cases i:t=b;·subst i;exact aZ<|aZ (Av.step h1 d λe=>f e.symm)
   exact bC ⟨Av.step h1 d g,Av.step h2 d i⟩
  .exact aZ<|bC h
  exact aZ<|aZ h
theorem Z1{a b}(h:JO tg a b)(k:JO tg b a):a=b:=dQ (λe=>by
 obtain⟨_,h2⟩|h2|h2:=Dr e h.2;·exact wX h2 R
 .exact k.3 h2
 exact h.3 h2)
inductive Sf (tg:N->List N) (a b x:N):N->Prop
 |here:Sf tg a b x x
 |step {c t:N}:Sf tg a b x c->t∈tg c->t≠a->t≠b->Sf tg a b x t
theorem vp{a b c}(h:Re tg c):(Av tg a c/\Av tg b c)\/Sf tg a b a c\/Sf tg a b b c:=by
 induction h with
 |root=>
  by_cases ha:a=0;·subst ha;exact aZ<|bC Sf.here
  by_cases g:b=0;·subst g;exact aZ<|aZ Sf.here
  exact bC ⟨Av.root ha,Av.root g⟩
 |@step c t _ f i=>
  by_cases d:t=a;·subst d;exact aZ<|bC Sf.here
  by_cases e:t=b;·subst e;exact aZ<|aZ Sf.here
  obtain⟨h1,h2⟩|h|h:=i;·exact bC ⟨Av.step h1 f d,Av.step h2 f e⟩
  .exact aZ<|bC (Sf.step h f d e)
  exact aZ<|aZ (Sf.step h f d e)
theorem rm{a b x c y}(h:Sf tg a b x c)(i:y=a\/y=b)(g:Av tg y x):Av tg y c:=by
 induction h with
 |here=>exact g
 |step _ f d e j=>exact Av.step j f (by obtain rfl|rfl:=i;exact d;exact e)
theorem TY{a b c}(h:JO tg a c)(k:JO tg b c):JO tg a b\/JO tg b a:=by
 obtain⟨h1,_⟩|h1|h1:=vp (a:=a) (b:=b) h.2;·exact Sz h1 h.3
 .exact aZ ⟨k.1,h.1,λe=>k.3<|rm h1 (aZ R) e⟩
 exact bC ⟨h.1,k.1,λe=>h.3<|rm h1 (bC R) e⟩
theorem Gf{n}{y T:Vp}{q:Vv}{r:Yr}(j:∀b x,x<n->(Xh (y b) x=So↔b=0/\x≠0))(k:∀b x,x<n->b<n->(Xh (T b) x=So↔x=b))(o:∀b,q b↔Re tg b)(d:∀b,Re tg b->b<n)(p:∀b s,b<n->(s∈r b↔s<n/\b∈tg s)){b x}(c:x<n):Sp y T q r b x↔Av tg x b:=by
 constructor
 .intro h
  induction h with
  |init h=>
   obtain⟨rfl,u⟩:=(j _ _ c).1 h;exact Av.root u
  |@take b s x f w _ a i=>
   have l:=d b<|(o b).1 f;refine Av.step (i c) ((p b s l).1 w).2 λe=>?_;have:=(k b x c l).2 e.symm;rw[this]at a;cases a
 intro h
 induction h with
 |root h=>exact Sp.init<|(j 0 x c).2 ⟨R,h⟩
 |@step b t f a v i=>
  have m:=rp f;have g:=Re.step m a;refine Sp.take ((o t).2 g) ((p t b<|d t g).2 ⟨d b m,a⟩) i ?_;cases e:Xh (T t) x with
  |false=>rfl
  |true=>exact Sz ((k t x c<|d t g).1 e) λe=>v e.symm
end
section
variable {tg: N -> Wa}
def Oh(l:Wa)(x c:N):Prop:=∃a b,l=a++b/\x∈a/\c∈b
theorem EF{l r x a}(h:Oh l x a):Oh (l++r) x a:=by
 obtain⟨d,e,rfl,b,c⟩:=h;exact⟨d,e++r,sP,b,by simp[c]⟩
theorem DW{l:Wa}{x b}(h:x∈l):Oh (l++[b]) x b:=⟨l,[b],R,h,sP⟩
def PZ(tg:Yr)(P:Wa)(b:N):Prop:=∀a,JO tg a b->a≠b->a∈P
theorem DI:PZ tg [] 0:=λ_ h a=>Sz (Av.root a) h.3
theorem Eb{P b t}(h:PZ tg P b)(c:Re tg b)(f:t∈tg b):PZ tg (b::P) t:=λa ha d=>by
 by_cases e:a=b;·rw[e];exact cI
 exact cN _<|h a ⟨ha.1,c,λk=>ha.3<|Av.step k f λe2=>d e2.symm⟩ e
structure jk(tg:Yr)(P:Wa)(s:Wk×Wa):Prop where
 seen:∀x∈s.2,Xh s.1 x=So
 nd:s.2.Nodup
 all:∀x,Xh s.1 x=So->x∈s.2\/x∈P
 stk:∀x∈P,x∉s.2/\Xh s.1 x=So
 ord:∀x∈s.2,∀a,JO tg a x->a≠x->a∈P\/Oh s.2 x a
 re:∀x∈s.2,Re tg x
 cl:∀x∈s.2,∀t∈tg x,Xh s.1 t=So
theorem Cq{P}{s:Wk×Wa}{c}(h:jk tg P s)(d:Xh s.1 c=Sn):jk tg (c::P) (YH s.1 c,s.2):=by
 have mono:∀x,Xh s.1 x=So->Xh (YH s.1 c) x=So:=λx a=>by rw[Z8,a];simp
 refine⟨λx a=>mono x<|h.1 x a,h.2,λx a=>?_,λx a=>?_,λx a f ha g=>?_,h.6,λx a t i=>mono t<|h.7 x a t i⟩
 .rw[Z8]at a;by_cases e:x=c;·exact aZ<|by rw[e];exact cI
  rw[dJ e,jV]at a;obtain b|b:=h.3 x a;·exact bC b
  exact aZ<|cN _ b
 .rcases cH.1 a with rfl|a;·exact⟨λk=>(by rw[h.1 _ k]at d;cases d),by rw[Z8];simp⟩
  exact⟨(h.4 x a).1,mono x (h.4 x a).2⟩
 obtain b|b:=h.5 x a f ha g;·exact bC<|cN _ b
 exact aZ b
theorem DU{P:Wa}{s:Wk×Wa}{c}(h:jk tg (c::P) s)(m:c∉P)(o:Re tg c)(p:PZ tg P c)(n:∀t∈tg c,Xh s.1 t=So):jk tg P (s.1,s.2++[c]):=by
 have g:=h.4 c cI;refine⟨λx b=>?_,?_,λx b=>?_,λx b=>?_,λx b f ha i=>?_,λx b=>?_,λx b t e=>?_⟩
 .rcases bU.1 b with a|a;·exact h.1 x a
  have:x=c:=by simpa using a
  rw[this];exact g.2
 .rw[gW];refine⟨h.2,sP,λx b y q l=>?_⟩;have:y=c:=by simpa using q
  rw[l,this]at b;exact g.1 b
 .rcases h.3 x b with a|a;·exact bC<|dD _ a
  obtain rfl|a:=cH.1 a;·exact bC sP
  exact aZ a
 .have j:=h.4 x<|cN _ b;refine⟨λk=>?_,j.2⟩;obtain k|k:=bU.1 k;·exact j.1 k
  have:x=c:=by simpa using k
  rw[this]at b;exact m b
 .rcases bU.1 b with a|a
  .rcases h.5 x a f ha i with d|d
   .rcases cH.1 d with rfl|d;·exact aZ<|DW a
    exact bC d
   exact aZ<|EF d
  have:x=c:=by simpa using a
  subst this;exact bC<|p f ha i
 .rcases bU.1 b with a|a;·exact h.6 x a
  have:x=c:=by simpa using a
  rw[this];exact o
 obtain a|a:=bU.1 b;·exact h.7 x a t e
 have:x=c:=by simpa using a
 rw[this]at e;exact n t e
theorem uM{n}(h:∀b,b<n->∀t∈tg b,t<n):∀(m b:N)(s:Wk×Wa)(P:Wa),b<n->XB s.1 n<=m->Re tg b->PZ tg P b->jk tg P s->jk tg P (C9 tg m b s)/\Xh (C9 tg m b s).1 b=So
 |0,b,s,P,hb,a,_,_,hi=>⟨hi,T8 (n:=n) (Nat.le_zero.1 a) hb⟩
 |m+1,b,s,P,hb,a,hr,hs,hi=>by
  cases hh:Xh s.1 b with
  |true=>rw[Vd hh];exact⟨hi,hh⟩
  |false=>
   rw[nY hh];have j:b∉P:=λp=>by rw[(hi.4 b p).2]at hh;cases hh
   have w:=Tb hb hh;have v:∀(l:Wa)(s1:Wk×Wa),(∀t∈l,t∈tg b)->XB s1.1 n<=m->jk tg (b::P) s1->jk tg (b::P) (l.foldl (λs t=>C9 tg m t s) s1)/\∀t∈l,Xh (l.foldl (λs t=>C9 tg m t s) s1).1 t=So:=λl=>by
    induction l with
    |nil=>intro s1 _ _ d;exact⟨d,λt c=>by cases c⟩
    |cons t l o=>
     intro s1 g d i;have c:=g t cI;let⟨e,f⟩:=uM h m t s1 (b::P) (h b hb t c) d (Re.step hr c) (Eb hs hr c) i;let⟨q,r⟩:=o (C9 tg m t s1) (λu a=>g u<|cN _ a) (aJ (JY n λx k=>KB tg m t s1 x k) d) e;refine⟨q,λu a=>?_⟩;obtain rfl|a:=cH.1 a;·exact Ue tg m l _ _ f
     exact r u a
   let⟨e,f⟩:=v (tg b) (YH s.1 b,s.2) (λt c=>c) (by show XB (YH s.1 b) n<=m;omega) (Cq hi hh);refine⟨DU e j hr hs f,?_⟩;exact Ue tg m (tg b) (YH s.1 b,s.2) b (by show Xh (YH s.1 b) b=So;rw[Z8];simp)
theorem ZA(W n):XB W n<=n:=aJ (fJ _ _) sP
theorem ER{n}(l:∀f,f<n->∀t∈tg f,t<n)(g:0<n){m}(k:n<=m):
 (∀x,x∈(C9 tg m 0 (λ_=>0,[])).2↔Re tg x)/\(∀x,Xh (C9 tg m 0 (λ_=>0,[])).1 x=So↔Re tg x)/\(C9 tg m 0 (λ_=>0,[])).2.Nodup/\∀x c,JO tg c x->c≠x->Oh (C9 tg m 0 (λ_=>0,[])).2 x c:=by
 have j:jk tg [] (λ_=>0,[]):=⟨λx a=>(by cases a),iU,λx a=>(by rw[Z3]at a;cases a),λx a=>(by cases a),λx a=>(by cases a),λx a=>(by cases a),λx a=>(by cases a)⟩;let⟨b,i⟩:=uM l m 0 (λ_=>0,[]) [] g (aJ (ZA _ _) k) Re.root DI j;generalize C9 tg m 0 (λ_=>0,[])=s at*;have d:∀x,Xh s.1 x=So->x∈s.2:=λx a=>by
  obtain h|h:=b.3 x a;·exact h
  cases h
 have e:∀x,Re tg x->Xh s.1 x=So:=λx a=>by
  induction a with
  |root=>exact i
  |step _ p q=>exact b.7 _ (d _ q) _ p
 refine⟨λx=>⟨b.6 x,λh=>d x<|e x h⟩,λx=>⟨λh=>b.6 x<|d x h,e x⟩,b.2,λx c ha o=>?_⟩;obtain h|h:=b.5 x (d x<|e x ha.2) c ha o;·cases h
 exact h
end
section
variable {tg: N -> Wa}
structure O6(tg:Yr)(a b:N):Prop where
 dom:JO tg a b
 ne:a≠b
 near:∀c,JO tg c b->c≠b->JO tg c a
theorem EU{a b c}(h:O6 tg a c)(k:O6 tg b c):a=b:=Z1 (k.3 a h.1 h.2) (h.3 b k.1 k.2)
theorem Be{l x a}(h:Oh l x a):Oh l.reverse a x:=by
 obtain⟨d,e,rfl,b,c⟩:=h;exact⟨e.reverse,d.reverse,sP,SK,SJ⟩
theorem qk{l:Wa}(d:l.Nodup){i}(j:i<J l){x}(h:Oh l x l[i]):x∈l.take i:=by
 let⟨a,n,e,f,g⟩:=h;have k:J a<=i:=Nat.le_of_not_lt (λb=>by
  have m:l[i]∈a:=by
   have:l[i]=a[i]:=by
    have c:l[i]?=(a++n)[i]?:=by rw[<-e]
    rw[aC j,dL b,aC b]at c;injection c
   rw[this];exact aH b
  rw[e,gW]at d;exact d.2.2 _ m _ g R)
 rw[e,List.take_append];rw[aW k];exact dD _ f
theorem Dg{l}{p:Ys}{a}(h:l.reverse.find? p=S a):p a=So/\a∈l/\∀c∈l,p c=So->c=a\/Oh l c a:=by
 rw[List.find?_eq_some_iff_append]at h;let⟨k,f,bs,i,j⟩:=h;have b:l=bs.reverse++[a]++f.reverse:=by
  have:=fI List.reverse i;simpa using this
 refine⟨k,by rw[b];simp,λc g m=>?_⟩;rw[b]at g;obtain d|d:=bU.1 g
 .rcases bU.1 d with e|e;·exact aZ ⟨bs.reverse,[a]++f.reverse,by rw[b,cK],e,sP⟩
  exact bC<|by simpa using e
 have:=j c (by simpa using d);rw[m]at this;cases this
theorem CJ{o:Wa}(d:o.Nodup)(z:∀x,x∈o↔Re tg x)(B:∀x a,JO tg a x->a≠x->Oh o a x){i:N}(t:i<J o){p:Ys}(C:∀a∈o,p a=So↔¬Av tg a o[i]):
 match (o.take i).reverse.find? p with
 |some a=>O6 tg a o[i]
 |none=>∀c,JO tg c o[i]->c=o[i]:=by
 have T:=(z _).1 (aH t);have s:∀a,a∈o->(p a=So↔JO tg a o[i]):=λa ha=>⟨λn=>⟨(z a).1 ha,T,(C a ha).1 n⟩,λn=>(C a ha).2 n.3⟩;have aa:(o.take i).Nodup:=d.sublist<|List.take_sublist _ _;have y:∀c,JO tg c o[i]->c≠o[i]->c∈o.take i:=λc b h=>qk d t<|B o[i] c b h
 have V:o[i]∉o.take i:=λk=>by
  have e:=(hH i o).symm;have W:o[i]∈o.drop i:=(gZ t)▸cI;rw[e,gW]at d;exact d.2.2 _ k _ W R
 cases hf:(o.take i).reverse.find? p with
 |some a=>
  let⟨L_,r,M_⟩:=Dg hf;have R_:=iO r;have l:=(s a R_).1 L_;have Q_:a≠o[i]:=λe=>V (e▸r);refine⟨l,Q_,λc b h=>?_⟩;have f:=y c b h;obtain e|T_:=M_ c f ((s c<|iO f).2 b);·rw[e];exact Zd l.1
  by_cases v:c=a;·rw[v];exact Zd l.1
  obtain k|k:=TY b l;·exact k
  -- a dominates c: then a stands ahead of c
  exfalso;have N_:=B c a k λe=>v e.symm;have V_:=bR r;let⟨j,X_,H_⟩:=V_;have u:j<J o:=by rw[dH]at X_;omega
  have m:o[j]=a:=by rw[<-H_,jG]
  have O_:c∈o.take j:=by
   have U_:Oh o c o[j]:=by
    rw[m];let⟨l1,l2,e,k1,k2⟩:=T_;exact⟨l1,l2++o.drop i,by rw[<-cK,<-e,hH],k1,dD _ k2⟩
   exact qk d u U_
  let⟨K,L,I_⟩:=bR O_;have Y_:K<J o:=by rw[dH]at L;omega
  have J_:o[K]=c:=by rw[<-I_,jG]
  have P_:=qk d Y_ (J_▸N_);let⟨q,M,K_⟩:=bR P_;have P:q<J o:=by rw[dH]at M;omega
  have w:o[q]=a:=by rw[<-K_,jG]
  have ab:q=j:=by
   have F:=gY.1 (show o.Pairwise (·≠·)from d);obtain g|g|g:=mA q j;·exact Sz (G w m.symm) (F q j P u g)
   .exact g
   exact Sz (G m w.symm) (F j q u P g)
  rw[dH]at L M;omega
 |none=>
  intro c b;refine dQ λh=>?_;have f:=y c b h;have:=lS.1 hf c (by simpa using f);exact this<|(s c<|iO f).2 b
def NI(c:Wk)(d:N)(e:Wa):Zm:=e.foldl (λb a=>if a≠d/\(b=U\/∃k,b=S k/\c a > c k)then S a else b) U
theorem Cf{d b e}(h:∀a∈e,a=b):NI d b e=U:=by
 unfold NI;have i:∀(l:Wa),(∀a∈l,a=b)->l.foldl (λc a=>if a≠b/\(c=U\/∃k,c=S k/\d a > d k)then S a else c) U=U:=λl=>by
  induction l with
  |nil=>intro _;rfl
  |cons a l g=>
   intro h;rw[iM,aM λk=>k.1<|h a cI];exact g λx f=>h x<|cN _ f
 exact i e h
theorem Co{d a i m}(ha:a∈m)(w:a≠i)(v:∀c∈m,c≠i->c≠a->d c<d a):NI d i m=S a:=by
 unfold NI;have y:∀(l:Wa)(b:Zm),(∀c∈l,c≠i->c≠a->d c<d a)->(b=U\/∃k,b=S k/\(k=a\/d k<d a))->(b=S a\/a∈l)->l.foldl (λb a=>if a≠i/\(b=U\/∃k,b=S k/\d a > d k)then S a else b) b=S a:=λl=>by
  induction l with
  |nil=>
   intro b _ _ h;obtain h|h:=h;·exact h
   cases h
  |cons c l p=>
   intro b t j h;rw[iM];have o:=λz x=>t z<|cN _ x;by_cases q:c=a
   .subst q;by_cases s:b=S c
    .subst s;rw[aM λk=>by obtain k|⟨r,e,f⟩:=k.2;cases k;injection e with e;rw[e]at f;omega];exact p _ o j<|bC R
    rw[aU ⟨w,by obtain j|⟨r,e,f⟩:=j;exact bC j;exact aZ ⟨r,e,by obtain f|f:=f;exact Sz (G e<|by rw[f]) s;exact f⟩⟩];exact p _ o (aZ ⟨c,R,bC R⟩) (bC R)
   have g:b=S a\/a∈l:=by
    obtain h|h:=h;·exact bC h
    obtain h|h:=cH.1 h;·exact Sz h.symm q
    exact aZ h
   by_cases n:c≠i/\(b=U\/∃k,b=S k/\d c > d k)
   .rw[aU n];have u:=t c cI n.1 q;refine p _ o (aZ ⟨c,R,aZ u⟩) ?_;obtain g|g:=g
    .exfalso;obtain k|⟨r,e,f⟩:=n.2;·rw[g]at k;cases k
     rw[g]at e;injection e with e;rw[<-e]at f;omega
    exact aZ g
   rw[aM n];exact p _ o j g
 exact y m U v (bC R) (aZ ha)
end
inductive OR (tg:N->List N) (z:I):N->Prop
 |root:z≠0->OR tg z 0
 |step {b t:N}:OR tg z b->t∈tg b->(t:I)≠z->OR tg z t
theorem Fc{tg:Yr}:OR tg n m↔Av tg n m:=by
 constructor
 .intro h
  induction h with
  |root h=>exact Av.root λe=>h O
  |step _ b a c=>exact Av.step c b λe=>a O
 intro h
 induction h with
 |root h=>exact OR.root λe=>h O
 |step _ b a c=>exact OR.step c b λe=>a O
theorem rf{tg:Yr}(c:t<0):OR tg t n↔Re tg n:=by
 constructor
 .intro h
  induction h with
  |root _=>exact Re.root
  |step _ a _ b=>exact Re.step b a
 intro h
 induction h with
 |root=>exact OR.root O
 |step _ a b=>exact OR.step b a O
structure PU(tg:Yr)(n:N)(z:I)(F:Wa)(i:N):Prop where
 nd:F.Nodup
 av:∀x∈F,OR tg z x
 lt:∀x∈F,x<n
 root:z≠0->0∈F
 nil:z=0->F=[]
 cl:∀k (h:k<J F),k<i->∀t∈tg F[k],(t:I)≠z->t=0\/t∈F
theorem YS(h:s.Nodup)(a:∀x∈s,x<n):J s<=n:=by
 have:=kV h (l₂:=Rg n) λx b=>bE.2<|a x b;simpa using this
theorem Ek{tg:Yr}(h:PU tg n t s m)(q:J s<=m)(x:N):x∈s↔OR tg t x:=by
 refine⟨h.2 x,λi=>?_⟩
 induction i with
 |root b=>exact h.4 b
 |@step o l p g f j=>
  let⟨k,a,e⟩:=bR j;obtain c|d:=h.6 k a O l (by rw[e];exact g) f
  .rw[c];refine h.4 λb=>?_;rw[h.5 b]at a;exact Sz a sP
  exact d
structure O5(tg:Yr)(n:N)(z:I)(F F':Wa)(i q:N)(ts:Wc):Prop where
 pre:∃E_,F'=F++E_
 nd:F'.Nodup
 av:∀x∈F',OR tg z x
 lt:∀x∈F',x<n
 now:∀k (h:k<J ts),k<q->ts[k]≠z->ts[k]=0\/ts[k].toNat∈F'
theorem CQ{tg:Yr}(h:PU tg n t s m):O5 tg n t s s m 0 l:=⟨⟨[],sP⟩,h.1,h.2,h.3,λk _ a=>Sz a O⟩
theorem Da{tg:Yr}(h:O5 tg n t s S_ m k l)(hq:k<J l)(f:l[k]=t\/l[k]=0\/l[k].toNat∈S_):O5 tg n t s S_ m (k+1) l:=⟨h.1,h.2,h.3,h.4,λc d g b=>by
 by_cases e:c=k
 .subst e;obtain a|a|a:=f;·exact Sz a b
  .exact bC a
  exact aZ a
 exact h.5 c d O b⟩
theorem Du{tg:Yr}(h:O5 tg n t s S_ m k l)(hq:k<J l)(j:l[k]=B)(u:B<n)(q:(B:I)≠t)(g:B∉S_)(d:m<J s)(o:B∈tg s[m]):O5 tg n t s (S_++[B]) m (k+1) l:=by
 let⟨v,e⟩:=h.1;refine⟨⟨v++[B],by rw[e,cK]⟩,?_,λx b=>?_,λx b=>?_,λc f r i=>?_⟩
 .rw[gW]
  exact⟨h.2,sP,λx b y p e2=>g (by
   have:y=B:=by simpa using p
   rw[<-this,<-e2];exact b)⟩
 .rcases bU.1 b with a|a;·exact h.3 x a
  have:x=B:=by simpa using a
  rw[this];exact OR.step (h.3 s[m] (by rw[e];exact dD _<|aH d)) o q
 .rcases bU.1 b with a|a;·exact h.4 x a
  have:x=B:=by simpa using a
  omega
 by_cases e2:c=k
 .subst e2;exact aZ<|by rw[j];simp
 obtain a|a:=h.5 c f O i;·exact bC a
 exact aZ<|dD _ a
theorem CV{tg:Yr}(h:O5 tg n t s S_ m k l)(j:PU tg n t s m)(K:t≠0)(C:m<J s)(hq:J l<=k)(y:tg s[m]=l.map Int.toNat)(u:∀d∈l,0<=d):PU tg n t S_ (m+1):=by
 let⟨L,g⟩:=h.1;have o:∀x∈s,x∈S_:=λx z=>by rw[g];exact dD _ z
 refine⟨h.2,h.3,h.4,λf=>o 0<|j.4 f,λf=>Sz f K,λb w M d c p=>?_⟩;have e:b<J s:=O;have r:S_[b]=s[b]:=by
  have i:S_[b]?=(s++L)[b]?:=by rw[g]
  rw[aC w,dL e,aC e]at i;injection i
 rw[r]at c;by_cases e2:b=m
 .subst e2;rw[y]at c;obtain⟨P,q,rfl⟩:=aY.1 c;obtain⟨B,v,rfl⟩:=bR q;have F:=u _ q;obtain a|a:=h.5 B v O (λe3=>p O);·exact bC<|by rw[a];rfl
  exact aZ a
 obtain a|a:=j.6 b e O d c p;·exact bC a
 exact aZ<|o d a
theorem Ck(w:Ub)(c:0<n):(D w<|.cells ((madeCells #[Sb Sn] n).setIfInBounds 0 (Sb So)) 4).rowIs (Z w.1) 4 n (λx=>Sb (decide (x=0\/x∈[0]))):=by
 have h:=eK w ((madeCells #[Sb Sn] n).setIfInBounds 0 (Sb So)) 4 (λx=>Sb (decide (x=0\/x∈[0]))) (λi a=>by
  rw[jS,nA]at a;rw[Array.getElem?_setIfInBounds];by_cases e:0=i;·subst e;simp[c,nA]
  have b:¬i=0:=λh=>e h.symm
  have e1:=Nat.mod_one i;simp[e,b,madeCells,a,e1])
 rw[jS,nA]at h;exact h
theorem qt(vl:I)(c:N)(z:I)(ha:Q (Xp w m k p x))(Z_:Q (n=J x))(hn:n<=1000)(bp:0<n)(hB:k<=Z w.1)(hT:Q (∀b∈x,∀t∈b.3.tg,0<=t/\t<n)):
 Sk prog 86 #[Sa #[H vl,X p n c],H z] w λe s=>∃v F,e=Rt v/\Sw (Z w.1) w s/\Sx s (Z w.1) 2 1 v (J F) (Je F)/\F.Nodup/\∀b,b∈F↔OR (X8 x) z b:=by
 let⟨i0,bm,b0,b1,b3⟩:=Xq RH;have dw:=fM (P:=prog) 79 4 (Sb Sn) 1 underlying79 Q7 R S6 S6 n O O;have ab:=λco=>(dG co (Sb Sn) n 4).cell bp;by_cases W:z=0
 .subst W;have ar:=λo1 o2=>ab<|D (D w o1) o2;simp only[aO]at ar;clear ab
  go_in
  go_wp2
  go_loopw [5,7] (λv u wr=>v=Hl (Z w.1+1) 0 0/\u=H 0/\Q (Sw (Z w.1) w wr)/\Q (Z w.1+1<Z wr.1)/\Q (Sx wr (Z w.1) 2 1 (Hl (Z w.1+1) 0 0) 0 [])) λ_ _ _=>0
  case atStart=>exact⟨R,R,Y<|Xb (Xb (Xb Rf _) _) _,Y sP,Y (World.ownsRow.alloc (by
   have h:=eI (base:=Z w.1) (e:=2) (size:=1) (D w<|.cells #[H vl,X p n c] 40) #[] 0 sP sP R;rw[aO]at h;exact h) _)⟩
  obtain⟨rfl,rfl,R_,HZ,y⟩:=hrel;go_wp2;go_ret
  refine⟨_,[],R,R_,y,iU,λb=>⟨λh=>(by cases h),λh=>?_⟩⟩;exfalso;have:∀{c},OR (X8 x) 0 c->False:=λhc=>by
   induction hc with
   |root h=>exact h R
   |step _ _ _ ih=>exact ih
  exact this h
 have eb:(z==0)=Sn:=by simpa using W
 go_in
 go_wp2_with (at_builtin;refine bT _ R _ _ 35 R (Z w.1+1) 2 i0 (H 0) 1 8 underlying35 bm b0 b1 b3 R vY _ _ _ R (World.ownsRow.alloc (K5 w _) _) (A (Z w.1+2) 0) 1 1 [H 0] R R ?c1 ?c2 ?c3 ?c4 ?c5 ?_)
 case c1=>
  have h:=Yf (D (D w<|.cells #[H vl,X p n c] 40) (Sc #[] 2)) (H 0) 2;simpa using h
 case c2=>intro u Y_;simp at Y_;subst Y_;rfl
 case c3=>unfold maxLen;omega
 case c4=>omega
 case c5=>simp
 intro v1 l a0 ac cz cq;have bi:Cl l (Z w.1) 1 (X p n c):=G (Xc<|ac.5 (Z w.1) SB (by simp[Value.ownBlock])) SC;have a1:=Y ((Xb (Xb (Xb Rf _) _) _).grown ac SB λa e=>by simp[Value.ownBlock]at e;omega);have af:Q (Z w.1+2<Z l.1):=Y (by have:=ac.4;simp only[aO]at this;omega);obtain⟨g1,k1,rfl,bl,du⟩:=Xm a0 O;have a7:Q (Sx l (Z w.1+1) 2 1 (Hl g1 (0+1) k1) (J [0]) (Je [0])):=Y a0;have cs:=bl.2;clear a0 ac cz cq bl;have ar:=ab l;clear ab;go_wp2_with fail
 have ci:=Y<|Ck l bp;have ce:=Y<|a7.alloc (Sc ((madeCells #[Sb Sn] n).setIfInBounds 0 (Sb So)) 4);have b4:Q (Sw (Z w.1) w<|D l (Sc ((madeCells #[Sb Sn] n).setIfInBounds 0 (Sb So)) 4)):=Y<|Xb a1 _;have b7:Q (E (D l<|.cells ((madeCells #[Sb Sn] n).setIfInBounds 0 (Sb So)) 4) (A (Z w.1) 1)=S (X p n c)):=Y (G (bP _ _ _ (by have:=af.o;show Z w.1<_;omega)) bi);have b8:Q (g1≠Z l.1):=Y O;have ca:Q (Z w.1+1<Z l.1):=Y<|oN af.o;clear ar bi cs a7 a1 af;generalize D l _=w2 at*;generalize Z l.1=g at*
 go_loopw [5,7] (λv u wr=>∃(F:Wa)(i:N),u=H i/\i<=J F/\Q (PU (X8 x) n z F i)/\Q (Sw (Z w.1) w wr)/\Q (E wr (A (Z w.1) 1)=S (X p n c))/\Q (wr.rowIs g 4 n λb=>Sb (decide (b=0\/b∈F)))/\Q (v.ownBlock≠S g)/\Q (Sx wr (Z w.1+1) 2 1 v (J F) (Je F))) λ_ u _=>n+1-(intOf u).toNat
 case atStart=>exact⟨[0],0,R,aN,Y ⟨sP,λb Z_=>by
  have:b=0:=by simpa using Z_
  subst this;exact OR.root W,λb Z_=>by
  have:b=0:=by simpa using Z_
  omega,λ_=>sP,λh=>Sz h W,λa _ hk=>Sz hk O⟩,b4,b7,ci,Y (by simp[Value.ownBlock];exact b8),ce⟩
 obtain⟨F,i,rfl,hi,K,R_,HC,HS,HN,y⟩:=hrel;have dj:=YS K.1 K.3;by_cases ad:i<J F
 .obtain⟨gv,kv,rfl,ct,cx⟩:=Xm y O;have di:=K.3 F[i] (aH ad);have ao:F[i]<J x:=oN Z_.o;have ef:=Jj y (j:=i) (u:=H (F[i]:I)) (by simp[Je,ad]);have df:=hB;obtain⟨C,P_,rfl,dl,pa,pc,ia,ic,-,-,⟨t0,t1,t2,t3⟩,-,-⟩:=(ha.keep<|R_.mono hB) F[i] ao;have bf:=HC.o;have bd:=Y<|hT.o _ (aH ao);have bc:=Y<|Km ao;have bx:=y.lt gv R;generalize bh:F[i]=T at*;have a4:=Y bh;clear bh;generalize x[T].3=L at*;have V:Q (Z w.1+1<=Z wr.1/\g<Z wr.1):=Y ⟨O,HS.lt⟩;go_wp2_with fail
  refine Y7 (λs=>E s (A (Z w.1) 1)=S (Hm C P_ n c)/\E s (A gv i)=S (H T)/\E s (A C<|P_+T*6+2)=S (H L.1)/\E s (A C<|P_+T*6+2+1)=S (H L.a)/\E s (A C<|P_+T*6+2+2)=S (H L.3)/\E s (A C<|P_+T*6+2+3)=S (H L.4)) λhHeld=>?_;refine Xn 0 ?_;refine Xn 1 ?_;refine Xn 2 ?_;refine Xn 3 ?_;refine Xn 4 ?_;refine Xn 5 ?_;refine Xn 6 ?_;refine Xn 7 ?_;refine Xn 8 ?_;refine Xs 9 λdb hK=>?_;go_simp
  go_at_call 97
  refine(ZO L _).mono ?_;rintro e M⟨be,dc,rfl,M_,bn⟩;have o:Sw (Z wr.1) wr M:=⟨M_.1,M_.2,M_.3,M_.4,M_.5⟩;have aq:C<Z wr.1:=oN V.o;have kc:=λq=>o.cell (p:=A C q) aq;refine hK _ _ ⟨oB o bf (by have:=V.o;show Z w.1<_;omega),oB o ef bx.2,G (kc _) t0,G (kc _) t1,G (kc _) t2,G (kc _) t3⟩ λhHeld=>?_;clear hK kc aq
  try simp only[xX]
  refine Xn 10 ?_;refine Yq ?_;have bo:Xf M (Z wr.1) (Z M.1) be L.tg:=bn;have a2:=Y<|Xg R_ o;have a3:=Y (oB o HC (by have:=V.o;show Z w.1<_;omega));have a9:=Y<|HS.of_block (o.5 g V.2);have a8:=Y<|pj y (o.5 gv bx.2);have a6:=Y bo;have cm:=Y o.4;clear M_ bn o bo t0 t1 t2 t3 ef bf hHeld;generalize bv:L.tg=j at*;have dz:J j<=2:=by rw[<-bv];exact KJ L
  clear bv;go_wp2_with fail
  generalize wr=wo at*
  go_loopw [5,9] (λv u Q_=>∃(f:Wa)(q:N),u=H q/\q<=J j/\Q (O5 (X8 x) n z F f i q j)/\Q (Sw (Z w.1) w Q_)/\Q (E Q_ (A (Z w.1) 1)=S (Hm C P_ n c))/\Q (Q_.rowIs g 4 n λb=>Sb (decide (b=0\/b∈f)))/\Q (v.ownBlock≠S g)/\Q (Xf Q_ (Z wo.1) (Z M.1) be j)/\Q (∀a,v.ownBlock=S a->a<Z wo.1\/Z M.1<=a)/\Q (Z M.1<=Z Q_.1)/\Q (Sx Q_ (Z w.1+1) 2 1 v (J f) (Je f))) λ_ u _=>J j-(intOf u).toNat
  case atStart=>exact⟨F,0,R,aN,Y<|CQ K,a2,a3,a9,HN,a6,Y (λa e=>by
   simp only[Value.ownBlock,Option.some.injEq]at e;exact bC O),Y<|aA,a8⟩
  obtain⟨f,q,rfl,hq,J_,S_,T_,B,K_,U_,aa,aj,L_⟩:=hrel;have dk:=YS J_.2 J_.4;clear a2 a3 a9 a8 a6;by_cases X_:q<J j
  .obtain⟨bt,ot,rfl,dn,et⟩:=U_ q X_;have c8:=bd j[q] (aH X_);have ba:=Y<|Da J_ X_;have cl:Q (∀t:N,j[q]=(t:I)->t∈X8 x T):=Y (λt e=>by rw[bc.o];exact aY.2 ⟨j[q],aH X_,by rw[e];rfl⟩);have ck:Q (∀t:N,j[q]=(t:I)->t<n->(t:I)≠z->t∉f->t∈X8 x F[i]->O5 (X8 x) n z F (f++[t]) i (q+1) j):=Y λt e1 e2 e3 e4 e5=>Du J_ X_ e1 e2 e3 e4 ad e5;generalize j[q]=tq at*;obtain⟨d,rfl⟩:=Zv c8.1;have br:d<n:=O;have al:=B.cell br;have dd:=B.frozen;by_cases r:(d:I)=z
   .have hb:((d:I)==z)=So:=by simpa using r
    have cr:((d:I) != z)=Sn:=by simp[r]
    have V_:=Y<|ba.o (bC r);clear r al;go_wp2;exact⟨⟨f,q+1,gM,O,V_,S_,T_,B,K_,U_,aa,aj,L_⟩,SA⟩
   have hb:((d:I)==z)=Sn:=by simpa using r
   have cr:((d:I) != z)=So:=by simp[r]
   by_cases N_:d=0\/d∈f
   .rw[eB N_]at al;have V_:=Y (ba.o<|aZ (by obtain h|h:=N_;exact bC O;exact aZ<|by simpa using h));clear N_ r;go_wp2;exact⟨⟨f,q+1,gM,O,V_,S_,T_,B,K_,U_,aa,aj,L_⟩,SA⟩
   rw[dJ N_]at al
   have V_:=Y (ck.o d R br r (λh=>N_<|aZ h) (by rw[a4.o];exact cl d R));have cj:Q (∀b,b<n->(if b=d then So else decide (b=0\/b∈f))=decide (b=0\/b∈f++[d])):=Y (λb _=>by
    by_cases e:b=d;·subst e;simp
    simp[e])
   clear N_ r;have ea:=aj.o;have c9:bt≠g:=oN V.2;have ec:g≠bt:=λe=>c9 e.symm;have aq:bt<Z wr.1:=O;have a5:=Y B.lt;have d0:Z w.1+1<=Z wr.1:=oP V.o cm.o;go_wp2_with (at_builtin;refine bT _ R _ _ 35 R (Z w.1+1) 2 i0 (H 0) 1 8 underlying35 bm b0 b1 b3 R vY _ _ _ R ((fS L_ (a:=(A g d)) K_ (Sb So)).alloc _) (A (Z wr.1) 0) 1 1 [H d] R R ?c1 ?c2 ?c3 ?c4 ?c5 ?_)
   case c1=>
    have h:=Yf (Se wr (A g d) (Sb So)) (H d) 2;rw[Xd]at h;exact h
   case c2=>intro u Y_;simp at Y_;subst Y_;rfl
   case c3=>unfold maxLen;omega
   case c4=>omega
   case c5=>rw[aO,Xd];omega
   intro v8 w8 bq W_ c6 ap;have c7:=W_.4;rw[aO,Xd]at c7;have blk:∀a,a<Z wr.1->a≠g->(∀P,u5.ownBlock=S P->a≠P)->w8.1[a]?=wr.1[a]?:=λa h1 h2 h3=>by
    refine G (W_.5 a (by rw[aO,Xd];omega) λe=>h3 a e.symm R) ?_;rw[Below.heap_alloc _ _ _<|by rw[Xd];exact h1];exact Below.heap_setCell _ _ _ _ h2
   have az:=λP e=>(L_.lt P e).1
   have ds:=ca.o;have b5:=Y (((Below.alloc (S_.setCell (by show Z w.1<=g;omega) _) SF _).grown W_ (by rw[aO,Xd];omega) λa e=>by have:=az a e;omega));have b6:=Y (G (Xc (blk (Z w.1) O O λP e=>by have:=az P e;omega)) T_);have ch:=Y (UC (C:=Sb) (((TS (C:=Sb) B d So).alloc _).of_block (W_.5 g (by rw[aO,Xd];have:=a5.o;omega) λe=>K_ e.symm)) cj);have cd:Q (v8.ownBlock≠S g):=Y (λe=>by
    obtain h|h:=ap;·exact K_<|G h.symm e
    rw[e]at h;injection h with h;have:=a5.o;omega)
   have cb:=Y (U_.keepS λa h1 h2=>blk a O (oN V.2) λP e=>by obtain h|h:=aa.o P e<;>omega);have cc:Q (∀a,v8.ownBlock=S a->a<Z wo.1\/Z M.1<=a):=Y (λa e=>by
    obtain h|h:=ap;·exact aa a<|G h.symm e
    rw[e]at h;injection h with h;exact aZ O)
   have cn:Q (Z M.1<=Z w8.1):=Y O;have cf:Q (Sx w8 (Z w.1+1) 2 1 v8 (J (f++[d])) (Je<|f++[d])):=Y (by rw[VP,aQ];exact bq);clear bq W_ c6 ap blk az L_ B T_ S_ U_;go_wp2;exact⟨⟨f++[d],q+1,gM,O,V_,b5,b6,ch,cd,cb,cc,cn,cf⟩,SA⟩
  have cg:=Y (CV J_ K W ad O (by rw[a4.o];exact bc) λt ht=>(bd t ht).1);have cw:i+1<=J f:=by let⟨da,e⟩:=J_.1;rw[e,aQ];omega
  go_wp2;exact⟨⟨f,i+1,gM,cw,cg,S_,T_,B,K_,L_⟩,SA⟩
 have cv:i=J F:=O;subst cv;have cp:=eJ<|K.4 W;obtain⟨gv,kv,rfl,ct,cx⟩:=Xm y cp;go_wp2;go_ret;exact⟨_,F,R,R_,Zk y O,K.1,Ek K<|aA⟩
section
attribute [local go_sem] Oper.semAt_some
structure UI(x:Xe)(L B Bx n₀ n₁:N)(V:Ub):Prop where
 op:Yy V
 ter:Yb V
 blk:Tk V L B Bx 0 x
 lt:Bx<n₁
 le:B<=n₀
 g1:0 < n₀
 g2:1 < n₀
 nn:n₀<=n₁
theorem UI.same{Bx:N}(h:UI q n m Bx k B w)(e:∀a,a<B->v.1[a]?=w.1[a]?)(b:Z w.1<=Z v.1):UI q n m Bx k B v :=
 ⟨h.1.of_block (e _<|aX h.6 h.8) b,h.2.of_block (e _<|aX h.7 h.8) b,h.3.keepS (λa _ c=>e a<|aX (aX c h.5) h.8) (e _ h.4),h.4,h.5,h.6,h.7,h.8⟩
theorem UI.below{Bx:N}(h:UI q n m Bx k B w)(a:Sw (Z w.1) w v)(c:B<=Z w.1):UI q n m Bx k B v:=h.same (λi b=>a.5 i O) a.4
theorem UI.kp{Bx:N}(h:UI q n m Bx k B w)(a:Zf k d w v)(f:∀a,n<=a->a<m->¬d a)(l:¬d Bx)(g:¬d 0)(j:¬d 1):UI q n m Bx k B v:=by
 have o:v.1[Bx]?=w.1[Bx]?:=by
  let⟨s,t,p,r,c,_⟩:=h.3;exact a.block c l
 exact⟨h.1.of_block (a.2 _ h.6 g) a.1,h.2.of_block (a.2 _ h.7 j) a.1,h.3.keepS (λi e b=>a.2 i (aX b h.5) (f i e b)) o,h.4,h.5,h.6,h.7,h.8⟩
end
theorem Ur{b d n a:I}:
 Sk prog 51 #[Sa #[H t,H T,H z,H b,H d],H n,H a] w λe g=>e=Rt (Sb (Yw n a ⟨t,T,z,b,d⟩))/\Sw (Z w.1) w g:=by
 by_cases h:1<=t/\t<=a
 .let⟨c,i⟩:=h
  go_in
  go_wp2_with fail
  refine(nZ _ _).mono ?_;rintro e f⟨rfl,rfl⟩;go_wp2_with fail
  refine(vG _ _).mono ?_;rintro e f⟨rfl,rfl⟩;go_wp2_with fail
  refine(vU _ _).mono ?_;rintro e f⟨rfl,rfl⟩;go_wp2
  all_goals
   go_ret;refine⟨Xl ?_,Xb Rf _⟩
   first|(simp[Yw,Tp,Wu, *];done)|(simp[Yw,Tp,Wu, *];omega)|(rw[eQ];simp[Yw,Tp,Wu, *];omega)
 go_in
 go_wp2
 all_goals
  go_ret;refine⟨Xl ?_,Xb Rf _⟩;symm;unfold Yw;by_cases c:1<=t;·rw[dJ (p:=t<=a) O];simp
  rw[dJ (p:=1<=t) c];simp
end Go.Proofs.YtnggdhnpjfigjaaGreatDoor
