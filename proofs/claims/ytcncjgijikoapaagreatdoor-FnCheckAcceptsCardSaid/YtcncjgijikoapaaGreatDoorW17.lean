import Derived.Test.YtcncjgijikoapaaGreatDoorDFP
import Derived.Test.YtcncjgijikoapaaGreatDoorSA0
import Derived.Test.YtcncjgijikoapaaGreatDoorNSv
import Derived.Test.YtcncjgijikoapaaGreatDoorW5b
namespace Go.Proofs.YtcncjgijikoapaaGreatDoor
set_option maxHeartbeats 8000000
set_option maxRecDepth 100000
open _root_ renaming Array.size->Z,List.length->J,Nat->N,Int->I,rfl->R,Option.some->S,Bool.true->So,Option.none->U,Bool.false->Sn,trivial->JV,absurd->Sz
open Go renaming World.cell?->E,Ending.returned->Rt,RowKit.Below->Sw,Calls->Sk,World.alloc->D,World.setCell->Se,World.ownsRow->Sx,IntKind.i64->S6,RowKit.intOf->JB,Obj.cells->Sc,results->JC
open Value renaming slice->X,bool->Sb,agg->Sa,int->Si,string->Sg
open Go.RowKit Go.Proofs.Tryz Go.Shelf
variable{r:Bool}{t T z:I}{n m k B g i c:N}{w v u:Ub}{a A_:Uj}{p:Uy}{d:Vv}{l:Wc}{x:Wi}{q:Xe}{R_:Yh}
theorem Vi(h:J2 ⟨t,x⟩=So):mp x (J x):=by
 intro a i;have d:Jf t (J x) a.3=So:=dV.1 h a i;simp only[Jf,Zu,bY,bD]at d;let⟨⟨⟨⟨⟨j,k⟩,l⟩,b⟩,f⟩,c⟩:=d;have g:a.3.1=1\/a.3.1=2\/a.3.1=3:=O;obtain e|e|e:=g
 .simp only[e,Tp]at b;simp[Yj.tg,e]at b |-;omega
 .simp only[e,Tp]at b f c;simp[Yj.tg,e]at b f c |-;refine⟨?_,c⟩;omega
 simp[Yj.tg,e]
theorem Ce(h:Z0 ⟨n,x⟩=So)(l:KL ⟨n,x⟩=So):wU x n:=by
 intro m d;constructor
 .intro p i;obtain⟨k,g,rfl⟩:=bR d;have a:=(Zr ZX ⟨n,x⟩ x 0).1 l k g;have b:=dV.1 a p i;simp only[ZX,Tp,bY,bD,gG]at b;exact b.1
 intro y j;have a:=dV.1 (dV.1 h m d) y j;simp only[Yw,bY,bD]at a;let⟨⟨⟨⟨⟨b,e⟩,c⟩,_⟩,_⟩,_⟩:=a;refine⟨b,e,λf=>?_⟩;rw[f]at c;simpa [Tp]using c
theorem V7:Xo x=J x+Xx x:=by
 induction x with
 |nil=>rfl
 |cons a x b=>
  have d:Xo (a::x)=Ul a+Xo x:=by simp[Xo]
  have e:Xx (a::x)=ZZ a+Xx x:=by simp[Xx]
  have f:XZ a.1=J a.1+JG a.1:=by
   generalize a.1=c
   induction c with
   |nil=>rfl
   |cons p c b=>simp only[XZ,JG,eH,kX,bA]at b |-;omega
  rw[d,e,b,bA];simp only[Ul,ZZ];omega
theorem FL(h:q∈x):J q.1+JG q.1+J q.2<=Xx x:=by
 induction x with
 |nil=>cases h
 |cons y a c=>
  have b:Xx (y::a)=ZZ y+Xx a:=by simp[Xx]
  obtain rfl|h:=cH.1 h;·rw[b];simp only[ZZ];omega
  have:=c h;omega
theorem Gm{a p}(h:p∈a):J p.2<=JG a:=by
 induction a with
 |nil=>cases h
 |cons y b c=>
  have d:JG (y::b)=J y.2+JG b:=by simp[JG]
  obtain rfl|h:=cH.1 h;·omega
  have:=c h;omega
theorem ti(h:J x+Xx x<=1048576):Fv x:=λd b=>by have c:=FL b;exact⟨O,O,λp a=>by have:=Gm a;omega⟩
theorem JK(v y u c a V_ C w)(ha:Q (Xp w V_ C y a))(g:Q (u=J a))(t:Q (J a+Xx a<=1048576))(K:C<=Z w.1)(X_:Q (Uw w))(hT:Q (T7 w)):
 Sk prog 49 #[Sa #[H v,X y u c]] w λh_ w'=>h_=Rt (Sb (XJ ⟨v,a⟩))/\Sw (Z w.1) w w':=by
 have l:u<=1048576:=oP g.o t.o;have M_:Xo a<=1048576:=by rw[V7];exact t
 have h:=Y<|ti t;have s:=λaj=>ha.keep<|(Xb (dC (Z w.1) w) aj).mono K;have F:=Y M_;have o:Q (XJ ⟨v,a⟩=(Y6 ⟨v,a⟩&&J2 ⟨v,a⟩&&Z0 ⟨v,a⟩&&KL ⟨v,a⟩&&JM ⟨v,a⟩)):=R;cases h1:Y6 ⟨v,a⟩
 .have b:=Y h1;have r:=Y s
  go_in
  go_wp2_with fail
  refine YU (Uz (Xw r _) g l F SB) λB k=>?_;rw[Xw b];go_wp2;go_ret;exact⟨Xl (by rw[o.o,b.o];rfl),Xg (Xb Rf _) k⟩
 have b:=Y h1;have r:=Y s;have O_:0<=v/\v<=2000:=by have j:=b.o;simp only[Y6,bY,bD]at j;omega
 obtain⟨p,rfl⟩:=bX O_.1;have hm:p<=2000:=O
 go_in
 go_wp2_with fail
 refine YU (Uz (Xw r _) g l F SB) λB k=>?_;rw[Xw b];let⟨z,ad⟩:=NC k;have P_:E B (A (Z w.1) 0)=S (H p):=by rw[z _ _ sP];simp
 have R_:E B (A (Z w.1) 1)=S (X y u c):=by rw[z _ _ sP];simp
 have m:=Xg (Xb (dC (Z w.1) w) _) k;have af:=k.4;simp at af;have M:=Y<|ha.keep (m.mono K);have Y_:=Y<|X_.keep m;have ab:=Y<|hT.keep m;have P:=Y m;go_wp2_with fail
 refine YU (AD M g l O ab) λw2 d=>?_;cases h2:J2 ⟨p,a⟩
 .have i:=Y h2;go_wp2;go_ret;exact⟨Xl (by rw[o.o,b.o,i.o];rfl),Xg P d⟩
 have i:=Y h2;have T:=Y<|Vi i;rw[<-g.o]at T;have Q_:=G (XU d O) P_;have S_:=G (XU d O) R_;have al:=d.4;have V:=Y<|M.keep (d.mono O);have L:=Y<|Y_.keep d;have W:=Y<|Xg P d;go_wp2_with fail
 refine YU (W4 V g l (λx j=>(h x j).2.1) O L) λw3 e=>?_;cases h3:Z0 ⟨p,a⟩
 .have n:=Y h3;go_wp2;go_ret;exact⟨Xl (by rw[o.o,b.o,i.o,n.o];rfl),Xg W e⟩
 have n:=Y h3;have T_:=G (XU e O) Q_;have q1:=G (XU e O) S_;have ao:=e.4;have J_:=Y<|V.keep (e.mono O);have Z_:=Y<|L.keep e;have F_:=Y<|Xg W e;go_wp2_with fail
 refine YU (AG J_ g l (λx j=>⟨(h x j).1,(h x j).2.2⟩) O T) λw4 f=>?_;cases h4:KL ⟨p,a⟩
 .have q:=Y h4;go_wp2;go_ret;exact⟨Xl (by rw[o.o,b.o,i.o,n.o,q.o];rfl),Xg F_ f⟩
 have q:=Y h4;have r0:=G (XU f O) T_;have r1:=G (XU f O) q1;have ap:=f.4;have W_:=Y<|J_.keep (f.mono O);have aa:=Y<|Z_.keep f;have U_:=Y<|Xg F_ f;go_wp2_with fail
 refine YU (WE W_ g l hm (show Xx a<=1048576 by have:=t.o;omega) O aa (Ce n q)) λw5 ac=>?_;go_wp2;go_ret;exact⟨Xl (by rw[o.o,b.o,i.o,n.o,q.o];simp),Xg U_ ac⟩
theorem R1:(prog.info? 5).map (λi=>(i.8,i.3,i.4))=S (S<|Si .u8 0,1,1):=vZ
structure sH(w wr:Ub)(bs:Wn)(j:N)(v:Uj):Prop where
 low:Sw (Z w.1) w wr
 size:Z w.1+1<=Z wr.1
 c0:E wr ⟨Z w.1,0,U⟩=S v
 c1:E wr ⟨Z w.1,1,U⟩=S (Si S6 0)
 c2:E wr ⟨Z w.1,2,U⟩=S (Si S6 0)
 c3:E wr ⟨Z w.1,3,U⟩=S (Si S6 0)
 thaw:∀q,wr.frozen? ⟨Z w.1,q,U⟩=Sn
 own:Sx wr (Z w.1+1) 5 1 v j (sI<|bs.take j)
theorem sH.drew{wr:Ub}{bs:Wn}(h:sH w wr bs n a):sH w wr.drew bs n a:=⟨h.1.drew,h.2,h.3,h.4,h.5,h.6,h.7,h.8⟩
theorem sH.step{wr:Ub}{bs:Wn}(h:sH w wr bs n a)(m:n<J bs)(d:wr.grownBy v U)(f:v.grownBy u a.ownBlock)(k:Sx u (Z w.1+1) 5 1 A_ (n+1) (sI (bs.take n)++[Si .u8 (bs[n].toNat:I)])):sH w (Se u ⟨Z w.1,0,U⟩ A_) bs (n+1) A_/\Sw (Z w.1) w u/\(∀q,u.frozen? ⟨Z w.1,q,U⟩=Sn)/\E u ⟨Z w.1,0,U⟩=S a/\∃g c,A_=X (S ⟨g,0,U⟩) (n+1) c:=by
 have o:S (Z w.1)≠a.ownBlock:=λe=>by have:=(h.8.lt _ e.symm).1;omega
 have r:=h.2;have j:u.1[Z w.1]?=wr.1[Z w.1]?:=G (f.5 _ (oN d.4) o) (d.5 _ O sP);have l:Sw (Z w.1) w u:=((h.1.grown d O λp e=>by cases e).grown f (oN d.4) λp e=>by have:=(h.8.lt _ e).1;omega);have b:∀q,E u (A (Z w.1) q)=E wr (A (Z w.1) q):=λq=>bZ j;have i:∀q,u.frozen? (A (Z w.1) q)=Sn:=λq=>G (bJ j) (h.7 q);refine⟨⟨l.setCell aA _,?_,fQ _ _ _<|G (b 0) h.3,G (XL _ _ O _) (G (b 1) h.4),G (XL _ _ O _) (G (b 2) h.5),G (XL _ _ O _) (G (b 3) h.6),λq=>by rw[eX];exact i q,?_⟩,l,i,G (b 0) h.3,?_⟩;·rw[Xd];have:=d.4;have:=f.4;omega
 .refine ke ?_ (by show Z w.1<_;omega) _;rw[bN m,My];exact k
 obtain⟨_,h0⟩|⟨g,cap,_,e,_⟩:=k.2;·omega
 exact⟨g,cap,e⟩
theorem Yx.wide{bs:Wn}(h:Yx w n m p bs)(d:k<=n)(f:m<=B):Yx w k B p bs:=λi c=>by obtain⟨b,o,e,g,a⟩:=h i c;exact⟨b,o,e,O,a⟩
theorem sH.done{wr:Ub}{bs:Wn}(h:sH w wr bs n a)(l:bs.take n=bs.take 4000):∃d c,a=X d (J (bs.take 4000)) c/\Rn wr (Z w.1) (Z w.1+1) (Z wr.1) ⟨bs.take 4000,0,0,0⟩:=by
 have g:=h.8;rw[l]at g;obtain⟨d,c,L,B,i,f,-,j⟩:=Qo g;subst i;refine⟨d,c,R,⟨⟨d,c,h.3,?_⟩,h.4,h.5,h.6,h.7,O⟩⟩;obtain⟨rfl,rfl⟩|⟨rfl,h1,e⟩:=j;·exact λm k=>by obtain⟨b,o,_,e,_⟩:=f m k;omega
 exact f.wide h1 e
theorem Rn.undrew{b:N}{s:cB}(h:Rn w.drew b n m s):Rn w b n m s:=⟨h.1,h.2,h.3,h.4,h.5,h.o⟩
theorem Rn.siz{b:N}{s:cB}(h:Rn w b n k s)(m:I):Rn (Se w ⟨b,3,U⟩ (Si S6 m)) b n k { s with size:=m }:=by obtain⟨a,c,d,e⟩:=h.1;exact⟨⟨a,c,G (XL w b O _) d,zQ e h.o⟩,G (XL w b O _) h.2,G (XL w b O _) h.3,fQ w _ _ h.4,λq=>by show(Se w _ _).frozen? _=Sn;rw[eX];exact h.5 q,h.o⟩
theorem NJ(w:Ub)(o:Obj):w.grownBy (D w o).drew U:=⟨R,R,R,(bW w o U).4,λk a b=>(bW w o U).5 k a b⟩
theorem WP{bs:Wn}(ha:Q (Yx w m k p bs))(L:Q (n=J bs))(hn:n<=1048576)(hB:k<=Z w.1):
 Sk prog 9 #[X p n c] w λaf g=>af=Rt (Hn (Z w.1))/\Sw (Z w.1) w g/\Z w.1+1<=Z g.1/\Rn g (Z w.1) (Z w.1+1) (Z g.1) (im bs):=by
 go_in
 go_wp2
 go_loopw [4] (λu wr=>∃j:N,j<=n/\j<=4000/\u=H j/\∃v,Q<|sH w wr bs j v) λu _=>n-(JB u).toNat
 .exact⟨0,aN,aN,R,Hq,Y (by refine⟨Xb Rf _,sP,SC,SC,SC,SC,λbd=>by simp[go_sem],?_⟩;rw[lK];exact dA)⟩
 obtain⟨j,hj,a8,rfl,v,a⟩:=hrel;by_cases V:j<n/\j<4000
 .obtain⟨V,au⟩:=V;have T:j<J bs:=oN L.o;obtain⟨b,o,rfl,al,B⟩:=ha.o j T;have ej:=G (XU a.1 O) B;have a0:=a.2;have l:=a.3;have a4:∀ob,E (D wr ob) (A (Z w.1) 0)=S v:=λob=>G (bP _ _ _<|by show Z w.1<_;omega) l;have am:b≠Z w.1:=O;have aa:Q (∀t,Sw (Z w.1) w t->E t (A b (o+j))=S (Si .u8 (bs[j].toNat:I))):=Y λt h8=>G (XU h8 O) B;clear B;go_wp2;refine Y7 (λg=>E g (A b (o+j))=S (Si .u8 (bs[j].toNat:I))) λq=>?_;refine Xn 0 ?_;refine Xn 2 ?_;(iterate 3 refine Rm ?_);refine eS (rs:=[1,6]) vZ sP ?_;refine(bQ R (λK hK=>?_) (bQ R (λK hK=>?_) dY));go_simp;refine hK _ _ kP λq=>?_;clear hK
  try simp only[xX]
  refine Xs 6 λK hK=>?_;rotate_left;go_simp;refine hK _ _ kP λq=>?_;clear hK;refine Xs 1 λK hK=>?_
  all_goals (
   go_simp;refine hK _ _ kP λq=>?_;clear hK;refine Xs 7 λK hK=>?_;refine YI R1 a.drew.own ?_ (hs:=by(try simp);omega);rintro v8 t P W - -;have ab:=a.step T (NJ wr _) W P;obtain⟨Y_,U_,R_,a6,g8,c8,rfl⟩:=ab;have ac:=Y Y_;have aj:=aa.o _ U_;have a7:=R_ 0;clear P W Y_ U_ R_;refine hK _ _ kP λq=>?_;clear hK;refine Xn 8 ?_;refine Xs 9 λK hK=>?_;go_simp;refine hK _ _ (G (bH _ _ _ _<|kA am) aj) λq=>?_;clear hK;refine Yq ?_;go_wp2;exact⟨⟨j+1,O,O,gM,_,Y ac.o⟩,SA⟩)
 have H_:Q (bs.take j=bs.take 4000):=Y (by
  have:=L.o;by_cases h4:j=4000;·rw[h4]
  rw[aW O,aW O])
 obtain⟨av,cv,rfl,Q_⟩:=a.done H_.o;have r:=Y Q_;have J_:=Y a.1;have M_:=Y a.2;have HX:=Y (show(((n:I)%1000)+29)=(((J bs%1000:N):I)+29) by have:=L.o;omega);clear Q_ H_ a;have l:=r.3;have e2:=r.3;have z2:=r.5 2;dsimp only at e2;rcases(by omega:(j<n/\¬j<4000)\/¬j<n)with⟨hlt1,au⟩|hlt1
 all_goals (
  go_wp2;clear e2 z2 l;generalize wr=M at*
  go_loopw [5] (λu F=>∃i:N,i<=J (bs.take 4000)/\u=H i/\Q (Sw (Z w.1) w F)/\Q (Z F.1=Z M.1)/\Q (Rn F (Z w.1) (Z w.1+1) (Z M.1) ⟨bs.take 4000,0,S9 ((bs.take 4000).take i) (((J bs%1000:N):I)+29),0⟩)) λu _=>J (bs.take 4000)-(JB u).toNat
  .exact⟨0,aN,R,Y<|J_.setCell aA _,Y<|Xd,Y (by rw[lK,HX.o];exact(r.mix<|((J bs%1000:N):I)+29).undrew)⟩
  case round=>
   obtain⟨i,hi,rfl,x,h,e⟩:=hrel;obtain⟨aq,cq,l,C⟩:=e.1;have e2:=e.3;have e3:=e.4;have z2:=e.5 2;have z3:=e.5 3;dsimp only at l e2 e3 C;have bb:=zY ((bs.take 4000).take i) (((J bs%1000:N):I)+29) O (by have:=dS (J bs) (show 0<1000 by decide);omega);have z:Q (∀s:i<J (bs.take 4000),S9 ((bs.take 4000).take (i+1)) (((J bs%1000:N):I)+29)=(S9 ((bs.take 4000).take i) (((J bs%1000:N):I)+29)*257+((bs.take 4000)[i].toNat:I)+1)%1000003):=Y λs=>Qy s;have y:Q (i=J (bs.take 4000)->S9 ((bs.take 4000).take i) (((J bs%1000:N):I)+29)=S9 (bs.take 4000) (((J bs%1000:N):I)+29)):=Y (λs=>by rw[s,gC]);have f:Q (im bs=⟨bs.take 4000,0,S9 (bs.take 4000) (((J bs%1000:N):I)+29),if 1+((J (bs.take 4000):N):I)/50 > 7 then 7 else 1+((J (bs.take 4000):N):I)/50⟩):=Y R;have a9:J (bs.take 4000)<=4000:=by rw[dH];omega
   generalize (((J bs%1000:N):I)+29)=m0 at*;generalize az:S9 ((bs.take 4000).take i) m0=mx at*;generalize bs.take 4000=d at*;have G_:=Y C;clear C az;by_cases W_:i<J d
   .obtain⟨bq,oq,rfl,al,ec⟩:=G_.o i W_;have HM:=Y<|z.o W_;have a5:d[i].toNat<256:=lQ _;generalize d[i]=ad at*;generalize ad.toNat=N_ at*;have bc:(mx*257+(N_:I)+1).tmod 1000003=(mx*257+(N_:I)+1)%1000003:=eW O;have ba:(i:I)<(J d:I):=O;clear z y f;generalize ao:J d=O_ at*;go_wp2;go_region;go_wp2;exact⟨⟨i+1,O,gM,Y (x.setCell aA _).drew,Y<|G (Xd) h.o,Y<|by rw[HM.o];exact e.mix _⟩,SA⟩
   have ar:i=J d:=O;have I_:Q (Rn wr (Z w.1) (Z w.1+1) (Z M.1) ⟨d,0,S9 d m0,0⟩):=Y (by rw[<-y.o ar];exact e.o);have L_:=f;clear y z e G_ f;have f:=L_;clear L_;generalize ao:J d=O_ at*;have a0:=J_.4;by_cases P_:1+(O_:I)/50 > 7
   .have A_:=Y (G f<|by rw[aU P_]);go_wp2;go_ret;refine⟨R,(x.setCell aA _).setCell aA _,?_,?_⟩;·rw[Xd,Xd,h.o];exact M_.o
    rw[Xd,Xd,h.o,A_.o];exact(I_.siz _).siz _
   have A_:=Y (G f<|by rw[aM P_]);go_wp2;go_ret;refine⟨R,x.setCell aA _,?_,?_⟩;·rw[Xd,h.o];exact M_.o
   rw[Xd,h.o,A_.o]
   exact I_.siz _)
theorem Rn.block{b:N}{s:cB}(h:Rn w b n m s)(d:v.1[b]?=w.1[b]?)(i:∀k,n<=k->k<m->v.1[k]?=w.1[k]?):Rn v b n m s:=by obtain⟨e,c,f,g⟩:=h.1;have a:∀q,E v (A b q)=E w (A b q):=λq=>bZ d;exact⟨⟨e,c,G (a 0) f,g.keepS i⟩,G (a 1) h.2,G (a 2) h.3,G (a 3) h.4,λq=>G (bJ d) (h.5 q),h.o⟩
structure i9(w:Ub)(sb B:N)(s:cB):Prop where
 src:Rn w sb (sb+1) B s
 ok:Rd s
 bB:sb+1<=B
 sB:B<=Z w.1
theorem i9.drew{s:cB}(h:i9 w n m s):i9 w.drew n m s:=⟨h.1.drew,h.2,h.3,h.4⟩
theorem i9.keep{w':Ub}{s:cB}(h:i9 w n B s)(a:Sw B w w'):i9 w' n B s:=by have c:=h.3;exact⟨h.1.block (a.5 _ O) λk _ b=>a.5 k b,h.2,h.3,aJ h.4 a.4⟩
theorem ki(s:cB)(a:I)(w:Ub)(h:Q (i9 w n m s))(d:a<=1000000)(f:-1000000<=a):
 Sk prog 12 #[Hn n,H a] w λe b=>e=Rt (H (iw s a).1)/\i9 b n m (iw s a).2/\w.grownBy b (S n):=by
 refine YU (Qm s (Y h.1) (Y h.2) d f) λb⟨g,c⟩=>?_;exact⟨R,⟨g,nj h.2,h.3,aJ h.4 c.4⟩,c⟩
theorem R9{b:N}(h:w.grownBy v (S b))(k:v.grownBy u (S b)):w.grownBy u (S b) :=
 ⟨G k.1 h.1,G k.2 h.2,G k.3 h.3,aJ h.4 k.4,λi c a=>G (k.5 i (aX c h.4) a) (h.5 i c a)⟩
theorem Xf.grown(h:Xf w n m p l)(g:w.grownBy v (S k))(f:k<n)(d:m<=Z w.1):Xf v n m p l :=
 h.keepS λa b c=>g.5 a O λe=>by injection e;omega
def Mi(s:cB)(a:Wc)(b:Bool):I×cB :=
 if J a=0 then (0,s)
 else if b=So/\3<J a then
  if (iw s 4).1=0 then (a.getD (iw (iw s 4).2 (J a)).1.toNat 0,(iw (iw s 4).2 (J a)).2)
  else (a.getD ((J a:I)-1-(iw (iw s 4).2 3).1).toNat 0,(iw (iw s 4).2 3).2)
 else (a.getD (iw s (J a)).1.toNat 0,(iw s (J a)).2)
theorem AA{s:cB}(h:Rd s):Rd (Mi s l r).2:=by
 unfold Mi;split;·exact h
 split
 .split;·exact nj<|nj h
  exact nj<|nj h
 exact nj h
theorem zp(s:cB)(t:Q (i9 w n k s))(P_:Q (Xf w g i p l))(L:Q (B=J l))(hn:B<=5000)(M:n<g)(P:i<=Z w.1):
 Sk prog 70 #[Hn n,X p B c,Sb r] w λo C=>o=Rt (H (Mi s l r).1)/\i9 C n k (Mi s l r).2/\w.grownBy C (S n):=by
 have v:=L.o;by_cases N_:B=0
 .have b:Q (Mi s l r=(0,s)):=Y (by unfold Mi;rw[aU O]);subst N_;clear v
  go_in
  go_wp2;go_ret;rw[b.o];exact⟨R,t.o,lJ _ _⟩
 have X_:(B==0)=Sn:=by simpa using N_
 have ab:(0:I)<B:=O;have ac:((B:I)==0)=Sn:=SB
 by_cases F:r=So/\3<B
 .obtain⟨rfl,z⟩:=F;have Z_:(3:I)<B:=O;have b:Q (Mi s l So=if (iw s 4).1=0 then (l.getD (iw (iw s 4).2 B).1.toNat 0,(iw (iw s 4).2 B).2)else (l.getD ((B:I)-1-(iw (iw s 4).2 3).1).toNat 0,(iw (iw s 4).2 3).2)):=Y (by unfold Mi;rw[aM O,aU ⟨R,O⟩,<-v]);clear v
  go_in
  go_wp2_with fail
  refine YU (ki s 4 w t O O) λR_⟨a,d⟩=>?_;have T:=Y d;obtain⟨h,s1,e⟩:∃h u,iw s 4=(h,u):=⟨_,_,R⟩;rw[e]at a b |-;dsimp only at a b |-;have L_:=Y a;have V:=Y<|P_.grown d M P;clear a d e;by_cases K_:h=0
  .subst K_;go_wp2_with fail
   refine YU (ki s1 B R_ L_ O O) λS_⟨a,d⟩=>?_;have f:=kr s1 (n:=(B:I)) O;obtain⟨q,s2,e⟩:∃h u,iw s1 B=(h,u):=⟨_,_,R⟩;rw[e]at a b f |-;dsimp only at a b f |-;rw[aU JV]at b;obtain⟨q,rfl⟩:=Zv f.1;have j:q<J l:=oN L.o;obtain⟨M_,Q_,rfl,K,O_⟩:=(V.grown d M<|aJ P T.4) q j;rw[show l.getD ((q:I)).toNat 0=l[q] by simp[j]]at b;have y:=Y<|R9 T.o d;have x:=Y a;clear a d e K V;generalize l[q]=vq at*;go_wp2;go_ret;rw[b.o];exact⟨R,x.o,y.o⟩
  have ad:(h==0)=Sn:=by simpa using K_
  rw[aM K_]at b;go_wp2_with fail
  refine YU (ki s1 3 R_ L_ O O) λS_⟨a,d⟩=>?_;have f:=kr s1 (n:=3) O;obtain⟨q,s2,e⟩:∃h u,iw s1 3=(h,u):=⟨_,_,R⟩;rw[e]at a b f |-;dsimp only at a b f |-;obtain⟨m,W_⟩:=Zv (t:=(B:I)-1-q) O;have j:m<J l:=oN L.o;obtain⟨M_,Q_,rfl,K,O_⟩:=(V.grown d M<|aJ P T.4) m j;rw[W_,show l.getD ((m:I)).toNat 0=l[m] by simp[j]]at b;have y:=Y<|R9 T.o d;have x:=Y a;clear a d e K V;have aa:m<B:=O;generalize l[m]=vq at*;go_wp2;go_ret;rw[b.o];exact⟨R,x.o,y.o⟩
 have b:Q (Mi s l r=(l.getD (iw s B).1.toNat 0,(iw s B).2)):=Y<|by unfold Mi;rw[aM O,aM (by rw[<-v];exact F),<-v]
 clear v;have V_:∀(W:Bool)(z:W=Sn\/¬(3:I)<B),Sk prog 70 #[Hn n,X p B c,Sb W] w λo C=>o=Rt (H (l.getD (iw s B).1.toNat 0))/\i9 C n k (iw s B).2/\w.grownBy C (S n):=by
  intro W z;clear F b;cases W;rotate_left
  focus
   have Y_:¬(3:I)<B:=by obtain t|t:=z;cases t;exact t
  all_goals (
   clear z
   go_in
   go_wp2_with fail
   refine YU (ki s B w t O O) λS_⟨a,d⟩=>?_;have f:=kr s (n:=(B:I)) O;obtain⟨q,s2,e⟩:∃h u,iw s B=(h,u):=⟨_,_,R⟩;have U_:=Y e;rw[e]at a f |-;dsimp only at a f |-;obtain⟨q,rfl⟩:=Zv f.1;have j:q<J l:=oN L.o;obtain⟨M_,Q_,rfl,K,O_⟩:=(P_.grown d M P) q j;have T_:Q (l.getD ((q:I)).toNat 0=l[q]):=Y (by simp[j]);have y:=Y d;have x:=Y a;clear a d e K;generalize l[q]=vq at*;go_wp2;go_ret
   rw[U_.o];dsimp only;rw[T_.o];exact⟨R,x.o,y.o⟩)
 rw[b.o];exact V_ r (by
  cases r with
  |false=>exact bC R
  |true=>exact aZ λz=>F ⟨R,O⟩)
section
attribute [local go_sem ↓] Go.wp_at_zero Go.wp_at_succ
def KV(v:I)(n:N)(x:Xe):Bool:=x.2.all (Yw v 10)&&Jf v n x.3
theorem EI{F}:(Z0 F&&J2 F)=F.2.all (KV F.1 (J F.2)):=by rw[show F.2.all (KV F.1 (J F.2))=F.2.all (λx=>x.2.all (Yw F.1 10)&&Jf F.1 (J F.2) x.3)from R,vw];rfl
theorem AJ(ha:Q (Xp w m k p x))(l:Q (n=J x))(j:n<=1048576)(g:Q (Xo x<=1048576))(b:k<=Z w.1)(h:Q (¬(0<=t/\t<=2000/\1<=n/\n<=1000/\Xo x<=4000))):
 Sk prog 43 #[Sa #[H t,X p n c]] w λe o=>e=Rt (Sb Sn)/\Sw (Z w.1) w o:=by
 by_cases a:0<=t/\t<=2000/\1<=n/\n<=1000
 .let⟨q,d1,d2,d3⟩:=a;have r:4000<Xo x:=oN h.o
  go_in
  go_wp2_with fail
  refine(tB m k ?q1 l j g ?q2).mono ?_
  case q1=>exact ha.keep (Xb Rf _ |>.mono b)
  case q2=>simp;omega
  rintro e s⟨rfl,f⟩;go_wp2;go_ret;exact⟨R,Xg (Xb Rf _) f⟩
 have i:t<0\/(0<=t/\2000<t)\/(0<=t/\t<=2000/\n<1)\/(0<=t/\t<=2000/\1<=n/\1000<n):=O;obtain d|⟨d,d1⟩|⟨d,d1,d2⟩|⟨d,d1,d2,d3⟩:=i
 all_goals
  go_in
  go_wp2;go_ret;exact⟨R,Xb Rf _⟩
end
theorem KZ(B){b}(a:Wc)(C:m<=Z w.1)(t:Q (Zx w n m p<|b.map Tx))(e:Q (J a=J b))(F:Q (∀i (L:i<J b) (P:i<J a),b[i].1<Z w.1/\E w b[i]=S (H a[i])))(V:J b<=1000):
 Sk prog 144 #[X p (J b) B] w λg u=>∃v,g=Rt v/\Sw (Z w.1) w u/\Sx u (Z w.1) 2 1 v (J a) (a.map<|Si S6):=by
 go_in
 go_wp2
 go_loopw [3,9] (λv i wr=>∃k:N,k<=J b/\i=H k/\Q (Sw (Z w.1) w wr)/\Q (Sx wr (Z w.1) 2 1 v (J (a.take k)) ((a.take k).map (Si S6)))) λ_ i _=>J b-(JB i).toNat
 .exact⟨0,aN,R,Y<|Xb Rf _,Y (by have:=eI (base:=Z w.1) (e:=2) (size:=1) w #[] 0 sP sP R;simpa using this)⟩
 obtain⟨k,W,rfl,c,d⟩:=hrel;have T:=c.4;by_cases o:k<J b
 .have l:k<J a:=oN e.o;obtain⟨b2,U_,rfl,⟨_,P_⟩,h⟩:=(t.keepS<|ZU (c.mono C)) k (by simpa using o);rw[cM]at h;unfold Tx at h;let⟨r,s⟩:=F k o l;have Q_:=G (c.cell (p:=b[k]) r) s;have K:=Y<|bN l;have f:Q (J (a.take k)+1<=2000):=Y (by have:=e.o;simp only[dH];omega);generalize a[k]=V_ at*;generalize b[k]=W_ at*;go_wp2_with (at_builtin;refine YC RH d ?_ (oN f.o))
  intro v1 M q j F_ D_;have y:Q (Sx M (Z w.1) 2 1 v1 (J (a.take<|k+1)) ((a.take<|k+1).map (Si S6))):=Y (by rw[K.o,BE,aQ,List.map_take,dH];exact q)
  have x:=Y (Xy ((c).alloc O _) j (d.alloc _) aA SB);go_wp2;exact⟨⟨k+1,O,gM,x,y⟩,SA⟩
 have z:Q (Sx wr (Z w.1) 2 1 u3 (J a)<|a.map (Si S6)):=Y (by have:=d.o;have g:=e.o;rwa[aW O]at this);go_wp2;go_ret;exact⟨_,R,c,z⟩
def Iw(x:Yg):Wc:=(if aB x.1 then [x.a]else [])++(if bB x.1 then [x.b]else [])
theorem vf(b k:N)(l h j m w)(Z_:Q (Jk w b 0 ⟨k,l,h,j,m⟩))(V_:1<=k)(L:k<=13)(M:Q (Yy w)):
 Sk prog 117 #[Hn b] w λe f=>∃v,e=Rt v/\Sw (Z w.1) w f/\Sx f (Z w.1) 2 1 v (J (Iw ⟨k,l,h,j,m⟩)) ((Iw ⟨k,l,h,j,m⟩).map (Si S6)):=by
 obtain⟨P,q1,q2,q3,q4⟩:=Z_.o;simp only at P q1 q2 q3 q4;obtain⟨c0,c1,c2,c3,c4⟩:=M.2 k V_ L;have hz:=M.1;have K:b<Z w.1:=aI w _ q2;have x:Q (Iw ⟨k,l,h,j,m⟩=(if aB (k:I)then [h]else [])++(if bB (k:I)then [j]else [])):=Y R;generalize Iw ⟨k,l,h,j,m⟩=B at*;generalize dB k=uD at*;generalize aB k=c at*;generalize bB k=d at*;generalize iB k=uI at*;have D_:=Y q2;have E_:=Y q3
 go_in
 go_wp2_with fail
 have X_:(λt:Ub=>Z t.1=Z w.1+1/\E t (A (Z w.1) 2)=S (Sb c)/\E t (A (Z w.1) 3)=S (Sb d)/\Q (Sw (Z w.1) w t)) (D w<|Sc #[Sg (K8<|bz k),Sb uD,Sb c,Sb d,Sb uI] 112):=⟨sP,sP,sP,Y<|Xb Rf _⟩;generalize D w _=a at*;obtain⟨e1,F,T,u⟩:=X_;clear P q1 q2 q3 q4 c0 c1 c2 c3 c4;have af:=Y e1;have q:Z w.1<Z a.1:=O;clear e1;have y:Q (∀(s n:Uy)(W:Ub),Sw (Z a.1) a W->Zx W (Z a.1) (Z W.1) s ([c,d].map Sb)->Zx W (Z a.1) (Z W.1) n ([(A b 2),(A b 3)].map Tx)->Sk prog 81 #[X s 2 2,X n 2 2] W λe g=>∃i c5 m5,e=Rt (X i m5 c5)/\E g (A (Z w.1) 2)=S (Sb c)/\E g (A (Z w.1) 3)=S (Sb d) /\
  Q (Sk prog 144 #[X i m5 c5] g λe f=>∃v,e=Rt v/\E f (A (Z w.1) 2)=S (Sb c)/\E f (A (Z w.1) 3)=S (Sb d)/\Q (Sw (Z w.1) w f)/\Q (Sx f (Z w.1) 2 1 v (J B)<|B.map (Si S6)))):=Y (λs n W V hk hp=>by
  have aj:=V.4;refine(UA s n 2 2 [c,d] [(A b 2),(A b 3)] (Z a.1) (Z W.1) W aA (Y hk) (Y hp) (Y R) sP).mono ?_;rintro e g⟨v5,rfl,J_,aa⟩;have s5:=J_.4;have r:=Xg V J_;obtain⟨i,c5,rfl,ac⟩:=UO aa;rw[bK];have L_:=u.trans<|r.mono O;refine⟨i,c5,_,R,oB r F q,oB r T q,Y ?_⟩;have O_:=oB L_ D_ K;have P_:=oB L_ E_ K;have p:b<Z g.1:=O;refine(KZ c5 B aA (Y ac) (Y ?_) (Y ?_) ?_).mono ?_;·rw[x.o];cases c<;>cases d<;>rfl
  .intro z o h';have ad:=x.o;subst ad;cases c<;>cases d;·exact Sz o<|by simp[Yd]
   .match z,o with
    |0,_=>exact⟨p,P_⟩
   .match z,o with
    |0,_=>exact⟨p,O_⟩
   match z,o with
   |0,_=>exact⟨p,O_⟩
   |1,_=>exact⟨p,P_⟩
  .cases c<;>cases d<;>simp[Yd]
  rintro e w7⟨Q_,rfl,Y_,ab⟩
  have C:=Xg r Y_;exact⟨Q_,R,oB C F q,oB C T q,Y<|u.trans (C.mono O),Y<|Zk ab O⟩)
 have S_:=Y (y.o (S ⟨Z a.1,0,U⟩) (S ⟨Z a.1+1,0,U⟩) (D (D a<|Sc #[Sb c,Sb d] 4) (Sc #[Ho b 2,Ho b 3] 175)).drew (Xb (Xb (dC (Z a.1) a) _) _).drew (by rw[show Z (D (D a<|Sc #[Sb c,Sb d] 4) (Sc #[Ho b 2,Ho b 3] 175)).drew.1=Z a.1+2 from by show Z (D (D a<|Sc #[Sb c,Sb d] 4) (Sc #[Ho b 2,Ho b 3] 175)).1=_;simp];exact J7 a [Sb c,Sb d] 4 [Ho b 2,Ho b 3] 175) (by rw[show Z (D (D a<|Sc #[Sb c,Sb d] 4) (Sc #[Ho b 2,Ho b 3] 175)).drew.1=Z a.1+2 from by show Z (D (D a<|Sc #[Sb c,Sb d] 4) (Sc #[Ho b 2,Ho b 3] 175)).1=_;simp];exact J6 a [Ho b 2,Ho b 3] 175 [Sb c,Sb d] 4));have T_:=Y (y.o (S ⟨Z a.1+1,0,U⟩) (S ⟨Z a.1,0,U⟩) (D (D a<|Sc #[Ho b 2,Ho b 3] 175) (Sc #[Sb c,Sb d] 4)).drew (Xb (Xb (dC (Z a.1) a) _) _).drew (by rw[show Z (D (D a<|Sc #[Ho b 2,Ho b 3] 175) (Sc #[Sb c,Sb d] 4)).drew.1=Z a.1+2 from by show Z (D (D a<|Sc #[Ho b 2,Ho b 3] 175) (Sc #[Sb c,Sb d] 4)).1=_;simp];exact J6 a [Sb c,Sb d] 4 [Ho b 2,Ho b 3] 175) (by rw[show Z (D (D a<|Sc #[Ho b 2,Ho b 3] 175) (Sc #[Sb c,Sb d] 4)).drew.1=Z a.1+2 from by show Z (D (D a<|Sc #[Ho b 2,Ho b 3] 175) (Sc #[Sb c,Sb d] 4)).1=_;simp];exact J7 a [Ho b 2,Ho b 3] 175 [Sb c,Sb d] 4));clear u
 go_region_held3 (λf=>E f (A (Z w.1) 2)=S (Sb c)/\E f (A (Z w.1) 3)=S (Sb d)) (go_keep)
  (first
   |(go_at_call 81;with_reducible refine S_.o.mono ?_;rintro e g⟨i,c5,m5,rfl,f2,f3,C_⟩)
   |(go_at_call 81;with_reducible refine T_.o.mono ?_;rintro e g⟨i,c5,m5,rfl,f2,f3,C_⟩)
   |(go_at_call 144;with_reducible refine C_.o.mono ?_;rintro e w7⟨Q_,rfl,L,h3,R_,U_⟩))
 all_goals
  go_wp2;go_ret;exact⟨_,R,R_,U_⟩
def Id(x:Yj):Wc:=if x.1 != 1 then [x.a]else []
theorem tL(C:Q (Va w n m ⟨k,t,T,z⟩))(L:1<=k)(B:k<=3)(q:Q (Yb w)):
 Sk prog 40 #[Ho n m] w λe c=>∃v,e=Rt v/\Sw (Z w.1) w c/\Sx c (Z w.1) 175 1 v (J (Yd [(k:I) != 1] [(A n<|m+1)])) ((Yd [(k:I) != 1] [(A n<|m+1)]).map Tx):=by
 let⟨h,q1,q2,q3⟩:=C.o;simp only at h q1 q2 q3;let⟨c0,c1,c2,c3⟩:=q.2 k L B;have r:=q.1;have p:n<Z w.1:=aI w _ h;generalize ((k:I) != 1)=b at*;have i:Q (∀(g f:Uy)(W:Ub),Sw (Z w.1) w W->Zx W (Z w.1) (Z W.1) g ([b].map Sb)->Zx W (Z w.1) (Z W.1) f ([(A n<|m+1)].map Tx)->Sk prog 81 #[X g 1 1,X f 1 1] W λe d=>∃v,e=Rt v/\Sw (Z w.1) w d/\Q (Sx d (Z w.1) 175 1 v (J (Yd [b] [(A n<|m+1)])) ((Yd [b] [(A n<|m+1)]).map Tx))):=Y (λg f W o M F=>by have K:=o.4;refine(UA g f 1 1 [b] [(A n<|m+1)] (Z w.1) (Z W.1) W aA (Y M) (Y F) (Y R) sP).mono ?_;rintro e d⟨v5,rfl,a,P⟩;exact⟨v5,R,Xg o a,Y<|Zk P O⟩)
 have e2:∀x y,Z (D (D w x) y).drew.1=Z w.1+2:=λx y=>by show Z (D (D w x) y).1=_;simp
 have s:=Y (i.o (S ⟨Z w.1,0,U⟩) (S ⟨Z w.1+1,0,U⟩) (D (D w<|Sc #[Sb b] 4) (Sc #[Ho n<|m+1] 175)).drew (Xb (Xb (dC (Z w.1) w) _) _).drew (by rw[e2];exact J7 w [Sb b] 4 [Ho n<|m+1] 175) (by rw[e2];exact J6 w [Ho n<|m+1] 175 [Sb b] 4));have u:=Y (i.o (S ⟨Z w.1+1,0,U⟩) (S ⟨Z w.1,0,U⟩) (D (D w<|Sc #[Ho n<|m+1] 175) (Sc #[Sb b] 4)).drew (Xb (Xb (dC (Z w.1) w) _) _).drew (by rw[e2];exact J6 w [Sb b] 4 [Ho n<|m+1] 175) (by rw[e2];exact J7 w [Ho n<|m+1] 175 [Sb b] 4));have V:(0:I)<=(k:I):=O;have I_:(k:I)<4:=O
 go_in
 go_wp2_with fail
 go_region_held3 (λc=>E c (A n m)=S (H k)/\E c (A 0<|k*4+1)=S (Sb b)) (go_keep)
  (first
   |(go_at_call 81;with_reducible refine s.o.mono ?_;rintro e d⟨v5,rfl,a,l⟩;have f2:=oB a h p;have f3:=oB a c1 r;have j:=Y a;clear a)
   |(go_at_call 81;with_reducible refine u.o.mono ?_;rintro e d⟨v5,rfl,a,l⟩;have f2:=oB a h p;have f3:=oB a c1 r;have j:=Y a;clear a))
 all_goals
  go_wp2;go_ret;exact⟨v5,R,j,l⟩
theorem BY(w)(i:Q (Va w n m ⟨k,t,T,z⟩))(p:1<=k)(B:k<=3)(r:Q (Yb w)):
 Sk prog 118 #[Ho n m] w λe q=>∃v,e=Rt v/\Sw (Z w.1) w q/\Sx q (Z w.1) 2 1 v (J (Id ⟨k,t,T,z⟩)) ((Id ⟨k,t,T,z⟩).map (Si S6)):=by
 have s:=Y<|tL i p B r;let⟨c,q1,q2,q3⟩:=i.o;simp only at c q1 q2 q3;have f:Q (Id ⟨k,t,T,z⟩=if ((k:I) != 1)then [t]else []):=Y R;generalize Id ⟨k,t,T,z⟩=x at*;generalize ((k:I) != 1)=b at*;have y:n<Z w.1:=aI w _ c
 go_in
 go_wp2_with fail
 refine s.mono ?_;rintro e P⟨v5,rfl,a,j⟩;obtain⟨K,c5,rfl,o⟩:=UO j;rw[bK];have C:n<Z P.1:=oN a.4
 have u:=Y (KZ c5 x aA (Y o) (Y<|by rw[f.o];cases b<;>rfl) (Y (by
  intro V h L;have F:=f.o;subst F;cases b;·exact Sz h<|by simp[Yd]
  match V,h with
  |0,_=>exact⟨C,oB a (Y q1) y⟩)) (by cases b<;>simp[Yd]))
 have d:=Y a;generalize J (Yd [b] [(A n<|m+1)])=M at*;go_wp2_with fail
 refine u.mono ?_;rintro e N_⟨W,rfl,g,l⟩;go_wp2;go_ret;exact⟨W,R,Y<|Xg d g,Y<|Zk l d.4⟩
def BW(x:Yg):Wc:=if dB x.1 then [x.2]else []
theorem UH(b g j k l w)(V:Q (Jk w b 0 ⟨n,g,j,k,l⟩))(K:1<=n)(L:n<=13)(F:Q (Yy w)):
 Sk prog 114 #[Hn b] w λe d=>∃v,e=Rt v/\Sw (Z w.1) w d/\Sx d (Z w.1) 2 1 v (J (BW ⟨n,g,j,k,l⟩)) ((BW ⟨n,g,j,k,l⟩).map (Si S6)):=by
 let⟨q,q1,q2,q3,q4⟩:=V.o;simp only at q q1 q2 q3 q4;let⟨c0,c1,c2,c3,c4⟩:=F.2 n K L;have t:=F.1;have o:b<Z w.1:=aI w _ q2;have r:Q (BW ⟨n,g,j,k,l⟩=if dB (n:I)then [g]else []):=Y R;generalize BW ⟨n,g,j,k,l⟩=y at*;generalize dB n=a at*;have C:=Y q1;have s:Q (∀(p m:Uy)(W:Ub),Sw (Z w.1) w W->Zx W (Z w.1) (Z W.1) p ([a].map Sb)->Zx W (Z w.1) (Z W.1) m ([(A b 1)].map Tx)->Sk prog 81 #[X p 1 1,X m 1 1] W λe i=>∃f c5 m5,e=Rt (X f m5 c5)/\Sw (Z w.1) w i /\
  Q (Sk prog 144 #[X f m5 c5] i λe d=>∃v,e=Rt v/\Sw (Z w.1) w d/\Q (Sx d (Z w.1) 2 1 v (J y)<|y.map (Si S6)))):=Y (λp m W P O_ R_=>by
  have ad:=P.4;refine(UA p m 1 1 [a] [(A b 1)] (Z w.1) (Z W.1) W aA (Y O_) (Y R_) (Y R) sP).mono ?_;rintro e i⟨v5,rfl,c,P_⟩;have s5:=c.4;have u:=Xg P c;obtain⟨f,c5,rfl,S_⟩:=UO P_;rw[bK];refine⟨f,c5,_,R,u,Y ?_⟩;have V_:=oB u C o;have M_:b<Z i.1:=O;refine(KZ c5 y aA (Y S_) (Y ?_) (Y ?_) ?_).mono ?_;·rw[r.o];cases a<;>rfl
  .intro U_ T Y_;have T_:=r.o;subst T_;cases a;·exact Sz T<|by simp[Yd]
   match U_,T with
   |0,_=>exact⟨M_,V_⟩
  .cases a<;>simp[Yd]
  rintro e X_⟨x,rfl,h,Q_⟩
  exact⟨x,R,Xg u h,Y<|Zk Q_ O⟩)
 have e2:∀z M,Z (D (D w z) M).drew.1=Z w.1+2:=λz M=>by show Z (D (D w z) M).1=_;simp
 have H_:=Y (s.o (S ⟨Z w.1,0,U⟩) (S ⟨Z w.1+1,0,U⟩) (D (D w<|Sc #[Sb a] 4) (Sc #[Ho b 1] 175)).drew (Xb (Xb (dC (Z w.1) w) _) _).drew (by rw[e2];exact J7 w [Sb a] 4 [Ho b 1] 175) (by rw[e2];exact J6 w [Ho b 1] 175 [Sb a] 4));have I_:=Y (s.o (S ⟨Z w.1+1,0,U⟩) (S ⟨Z w.1,0,U⟩) (D (D w<|Sc #[Ho b 1] 175) (Sc #[Sb a] 4)).drew (Xb (Xb (dC (Z w.1) w) _) _).drew (by rw[e2];exact J6 w [Sb a] 4 [Ho b 1] 175) (by rw[e2];exact J7 w [Ho b 1] 175 [Sb a] 4));have ab:(0:I)<=n:=O;have ac:(n:I)<14:=O
 go_in
 go_wp2_with fail
 go_region_held3 (λd=>E d (A b 0)=S (H n)/\E d (A 1<|n*5+1)=S (Sb a)) (go_keep)
  (first
   |(go_at_call 81;with_reducible refine H_.o.mono ?_;rintro e i⟨f,c5,m5,rfl,c,B⟩;have f2:=oB c q o;have f3:=oB c c1 t;clear c)
   |(go_at_call 81;with_reducible refine I_.o.mono ?_;rintro e i⟨f,c5,m5,rfl,c,B⟩;have f2:=oB c q o;have f3:=oB c c1 t;clear c)
   |(go_at_call 144;with_reducible refine B.o.mono ?_;rintro e X_⟨x,rfl,h,J_⟩;have Z_:=oB h q o;have aa:=oB h c1 t;have G_:=Y h;clear h))
 all_goals
  go_wp2;go_ret;exact⟨x,R,G_,J_⟩
theorem KY{m' l'}{args:Zh}{a:Ending->Vy}(h:YieldAt Fence.wide n R_ m args w a):YieldAt (Fence.wide.inRound l') m' R_ m args w a:=by let⟨g,tmps,d,e,i,b⟩:=h;exact⟨g,tmps,d,e,i,b.1,λc f _=>b.2 c f<|room_wide _⟩
structure Pl where
 i:N
 ua:Uy
 uc:N
 us:Wc
 da:Uy
 dc:N
 ds:Wc
def Pl.dat(p:Pl):N×Wc×Wc:=(p.i,p.4,p.7)
def pf(p:Pl):Zh:=#[Si S6 (p.i:I),Sa #[X p.2 (J p.4) p.3,X p.5 (J p.7) p.6]]
def og(a:N)(b:N×Wc×Wc->Prop)(p:Pl)(V:Ub):Prop:=b p.dat/\Xf V a (Z V.1) p.2 p.4/\Xf V a (Z V.1) p.5 p.7
def VH(x:Xe)(j:Fin (J x.2)):N×Wc×Wc:=((j:N)+1,Iw<|x.2[j],BW<|x.2[j])
def NS(x:Xe):List (N×Wc×Wc):=(J x.2+1,Id x.3,[])::((Us (J x.2) 0).map (VH x)++[(0,[],x.1.map Ph.dst)])
theorem t6(x)(j:Fin (J x.2)):VH x j∈NS x:=by refine cN _<|dD _ (List.mem_map_of_mem ?_);unfold Us;rw[aW sP];exact kU.2<|lX j
theorem tE(x):((0:N),([]:Wc),x.1.map Ph.dst)∈NS x:=cN _<|fB _ (cS.2 R)
theorem Yy.of_block(h:Yy w)(e:v.1[(1: N)]?=w.1[(1: N)]?)(c:Z w.1<=Z v.1):Yy v:=by refine⟨aX h.1 c,λi a b=>?_⟩;have e:=λo=>Xc (o:=o) e;simp only[e];exact h.2 i a b
theorem Yb.of_block(h:Yb w)(e:v.1[(0: N)]?=w.1[(0: N)]?)(c:Z w.1<=Z v.1):Yb v:=by refine⟨aX h.1 c,λi a b=>?_⟩;have e:=λo=>Xc (o:=o) e;simp only[e];exact h.2 i a b
structure P0(x:Xe)(L B Bx n₀:N)(V:Ub):Prop where
 op:Yy V
 ter:Yb V
 blk:Tk V L B Bx 0 x
 lt:Bx<n₀
 le:B<=n₀
 g1:1 < n₀
 g2:0 < n₀
theorem XO{a:Type}{d:a->Vy}(b:OwnFrom n d){s:a}(h:d s w)(k:Sw (Z w.1) w v):d s v :=
 b s w v U h ⟨k.1,k.2,k.3,k.4,λi c _=>k.5 i c⟩ λr e=>by cases e
theorem YK{F b}{tmps:Zh}{a:Ending->Vy}(c:w.1[m]?=S (.deferred (S [])))(h:∃v,(JC b tmps).run R_ (w.putObj m<|.deferred U)=.ok v (w.putObj m<|.deferred U)/\a (Rt v) (w.putObj m<|.deferred U)):LeavesInM F n R_ b tmps a [{ target:=.collected m,args:=#[] }] .returning w :=
 ⟨sP,bC ⟨m,_,R,run_takeDeferred c,h⟩⟩
theorem oU(y):J (Iw y)<=2:=by unfold Iw;split<;>split<;>simp
section
attribute [local go_sem] Oper.semAt_some
structure UI(x:Xe)(L B Bx n₀ n₁:N)(V:Ub):Prop where
 op:Yy V
 ter:Yb V
 blk:Tk V L B Bx 0 x
 lt:Bx<n₁
 le:B<=n₀
 g1:1 < n₀
 g2:0 < n₀
 nn:n₀<=n₁
theorem UI.same{Bx}(h:UI q n m Bx k B w)(e:∀a,a<B->v.1[a]?=w.1[a]?)(b:Z w.1<=Z v.1):UI q n m Bx k B v :=
 ⟨h.1.of_block (e _<|aX h.6 h.8) b,h.2.of_block (e _<|aX h.7 h.8) b,h.3.keepS (λa _ c=>e a<|aX (aX c h.5) h.8) (e _ h.4),h.4,h.5,h.6,h.7,h.8⟩
theorem UI.below{Bx}(h:UI q n m Bx k B w)(a:Sw (Z w.1) w v)(c:B<=Z w.1):UI q n m Bx k B v:=h.same (λi b=>a.5 i O) a.4
theorem UI.kp{Bx}(h:UI q n m Bx k B w)(a:Zf k d w v)(f:∀a,n<=a->a<m->¬d a)(l:¬d Bx)(g:¬d 1)(j:¬d 0):UI q n m Bx k B v:=by
 have o:v.1[Bx]?=w.1[Bx]?:=by let⟨s,t,p,r,c,_⟩:=h.3;exact a.block c l
 exact⟨h.1.of_block (a.2 _ h.6 g) a.1,h.2.of_block (a.2 _ h.7 j) a.1,h.3.keepS (λi e b=>a.2 i (aX b h.5) (f i e b)) o,h.4,h.5,h.6,h.7,h.8⟩
end
end Go.Proofs.YtcncjgijikoapaaGreatDoor
