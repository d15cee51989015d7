import Derived.Test.YtcfdhbigppockaaGreatDoorOP2
import Derived.Test.YtcfdhbigppockaaGreatDoorKP2
import Derived.Test.YtcfdhbigppockaaGreatDoorSQ11
namespace Go.Proofs.YtcfdhbigppockaaGreatDoor
set_option maxHeartbeats 4000000
set_option maxRecDepth 100000
open Go.RowKit Go.Proofs.Tryz
variable{t T z:Int}{n m k B g i c:Nat}{w v u:Ub}{p P:Uy}
theorem sH(h:Jn w)(k:Below w.1.size w v):Jn v:=h.of_block<|k.5 _ (aI w _<|h 0 vY)
def Al(w a:Ub)(r:Pg)(e:Ending):Prop:=∃G L B,e=.returned G/\Below w.1.size w a/\(w.1.size<=L/\L<=B/\B<=a.1.size)/\jy a L B r.1 r.2 r.3 r.k r.l G/\Am a L B G
theorem Li{J:Wn}(ha:Hs (Yx w m k p J))(Z:Hs (n=J.length))(ca:n<=c)(b7:c<=9223372036854775807)(hB:k<=w.1.size)(hM:Hs (ft w))(d:Hs (Yy w))(e:Hs (Yb w))(hE:Hs (ErrT w))(hZ:Hs (Jn w))(Q:Pg)(x:Hs (f8 (C2 J) t=Q))(ht:Hs ((C2 J).3.2.length+Xx (C2 J).3.2<=100000)):
 Calls prog 6 #[.slice p n c,Hp t] w λo w'=>Al w w' Q o:=by
 obtain⟨g,j⟩:∃g,w.alloc (.cells #[.int .i64 0,.int .i64 0,.int .i64 0,.int .i64 0,.slice none 0 0] 27)=g:=⟨_,rfl⟩;have E:Hs (∀W,Below g.1.size g W->Below w.1.size w W/\w.1.size<W.1.size/\(W.cell? ⟨w.1.size,0,none⟩=some (.int .i64 0)/\W.cell? ⟨w.1.size,1,none⟩=some (.int .i64 0)/\W.cell? ⟨w.1.size,2,none⟩=some (.int .i64 0)/\W.cell? ⟨w.1.size,3,none⟩=some (.int .i64 0)/\W.cell? ⟨w.1.size,4,none⟩=some (.slice none 0 0))/\∀aa,W.frozen? ⟨w.1.size,aa,none⟩=false):=Xa (λW h=>by
  have hz:g.1.size=w.1.size+1:=by rw[<-j];exact aO _ _
  have i:=h.5 w.1.size oM;have hs:=h.4;exact⟨(show Below w.1.size w g by rw[<-j];exact Xb (Below.refl _ _) _).trans (h.mono oM),oM,⟨(Xc i).trans (by rw[<-j];simp),(Xc i).trans (by rw[<-j];simp),(Xc i).trans (by rw[<-j];simp),(Xc i).trans (by rw[<-j];simp),(Xc i).trans (by rw[<-j];simp)⟩,λaa=>(bJ i).trans (by rw[<-j];simp)⟩)
 have v:=(E.o g<|Below.refl _ _).1;have HP:=Xa<|Lp Z ca b7 (Xa<|ha.keep (v.mono hB)) (Xa<|hM.keep v) (oN v.4) (Xa<|d.keep v d.1) (Xa<|e.keep v e.1) (Xa<|hE.keep v);clear ha Z v hM hE;generalize C2 J=aa at*;obtain⟨u,z,R,a⟩:=aa;dsimp only at*;have N:Hs (∀u z ne W,Below w.1.size w W->Q=⟨u,z,ne,0,[]⟩->Al w W Q (.returned (.agg #[.int .i64 u,.int .i64 z,.int .i64 ne,.int .i64 0,.slice none 0 0]))):=Xa (λu z ne W h o=>by
  subst o;exact⟨_,_,_,rfl,h,⟨aA,aA,h.4⟩,nM,zM u z ne 0 (bC rfl) rfl (λab q=>absurd q sP) vY vY⟩)
 go_in
 go_wp2_with fail
 clear j;refine HP.mono ?_;rintro o b⟨val,rfl,al,S,A,rfl,q⟩;obtain⟨f,cp,⟨r0,r1,r2,r3,r4⟩,rz⟩:=E.o b al;have bq:=Xa f;have a4:=Xa al;have HY:=Xa q;clear f al q HP;dsimp only;by_cases az:u=0
 .subst az
  obtain⟨r,G⟩:∃r,b.alloc (.cells #[.int .i64 0,.int .i64 z,.int .i64 R,.slice S a.length A] 39)=r:=⟨_,rfl⟩;have O:Hs (∀W,Below r.1.size r W->Below g.1.size g W/\b.1.size<W.1.size/\(W.cell? ⟨b.1.size,0,none⟩=some (.int .i64 0)/\W.cell? ⟨b.1.size,2,none⟩=some (.int .i64 R)/\W.cell? ⟨b.1.size,3,none⟩=some (.slice S a.length A))/\Xp W g.1.size b.1.size S a):=Xa (λW h=>by
   have hz:r.1.size=b.1.size+1:=by rw[<-G];exact aO _ _
   have i:=h.5 b.1.size oM;have hs:=h.4;have k1:=(show Below b.1.size b r by rw[<-G];exact Xb (Below.refl _ _) _).trans (h.mono oM);exact⟨Xg a4.o k1,oM,⟨(Xc i).trans (by rw[<-G];simp),(Xc i).trans (by rw[<-G];simp),(Xc i).trans (by rw[<-G];simp)⟩,HY.keep k1⟩)
  have U:Hs (a.length+Xx a<=1048576):=Xa<|oN ht.o;obtain⟨hA,c6,⟨p0,H,I⟩,bo⟩:=O.o r<|Below.refl _ _;have ar:=(E.o r hA).1;have ba:=Xa<|Te R a.length A (Xa bo) (Xa rfl) U oM (Xa<|d.keep ar d.1) (Xa<|e.keep ar e.1);have cj:=Xa hA;clear bo hA ar a4;go_wp2_with fail
  clear G r0 r1 r2 r3 r4 rz;refine ba.mono ?_;rintro o w2⟨rfl,ao⟩;obtain⟨af,cq,⟨p0,H,I⟩,bl⟩:=O.o w2 ao;obtain⟨f,cr,⟨r0,r1,r2,r3,r4⟩,rz⟩:=E.o w2 af;have L:=Xa f;have a2:=Xa ao;have b1:=Xa bl;have cg:=Xa af;clear f ao bl af ba;by_cases y:Ft R a=0
  .have Y:=pM y;obtain⟨V,rfl⟩:=wJ Y;have l:=Xa y;have b0:=Xa Y;have s:=Xa<|XH Y;have hV:=s.2;rw[y];clear y Y;by_cases b5:t<1
   .go_wp2;exact cC (v:=.agg #[.int .i64 12,.int .i64 0,.int .i64 0,.int .i64 0,.slice none 0 0]) (by simp[results,results6,go_sem, *]) rfl (N.o _ _ _ _ (by repeat' (first|with_reducible exact L.o|with_reducible refine Below.setCell ?_ ?_ _|with_reducible refine Xb ?_ _|exact aA)) (by rw[<-x.o];unfold f8;rw[aM λh=>h rfl,aM λh=>h l.o,aU<|bC b5]))
   by_cases b6:64<t
   .go_wp2;exact cC (v:=.agg #[.int .i64 12,.int .i64 0,.int .i64 0,.int .i64 0,.slice none 0 0]) (by simp[results,results6,go_sem, *]) rfl (N.o _ _ _ _ (by repeat' (first|with_reducible exact L.o|with_reducible refine Below.setCell ?_ ?_ _|with_reducible refine Xb ?_ _|exact aA)) (by rw[<-x.o];unfold f8;rw[aM λh=>h rfl,aM λh=>h l.o,aU<|aZ b6]))
   have a8:=Xa<|DQ a.length A b1 (Xa rfl) U oM (Xa<|d.keep L.o d.1) (Xa<|e.keep L.o e.1) b0 s;generalize bi:NW (Zw a V a.length)=P at*;have T:=Xa bi;clear bi;go_wp2_with fail
   refine a8.mono ?_;rintro o K⟨rfl,ap⟩;obtain⟨aj,cs,⟨p0,H,I⟩,bm⟩:=O.o K<|Xg a2.o ap;obtain⟨f,cv,⟨r0,r1,r2,r3,r4⟩,rz⟩:=E.o K aj;have M:=Xa f;have a3:=Xa<|Xg a2.o ap;have b3:=Xa bm;have ch:=Xa aj;clear f ap bm aj a8;by_cases b8:t<(P:Int)
   .go_wp2;exact cC (v:=.agg #[.int .i64 13,.int .i64 0,.int .i64 (P:Int),.int .i64 0,.slice none 0 0]) (by simp[results,results6,go_sem, *]) rfl (N.o _ _ _ _ (by repeat' (first|with_reducible exact M.o|with_reducible refine Below.setCell ?_ ?_ _|with_reducible refine Xb ?_ _|exact aA)) (by rw[<-x.o];unfold f8;rw[aM λh=>h rfl,aM λh=>h l.o,aM oM,aU<|by dsimp only;rw[dM,T.o];exact b8];dsimp only;rw[dM,T.o]))
   have ad:=Xa (wK l.o (k:=t) (by rw[T.o];omega) oM);have D:=Xa (yo (OJ V a) a s.1.2 λce Z=>(s.10 ce Z).1);have a5:=Xa (By A K.drew (Xa b3.o) (Xa rfl) U (by show _<=K.1.size;omega) (Xa<|d.keep M.drew d.1) (Xa<|e.keep M.drew e.1) (Xa<|sH hZ.o M.drew) l (Xa s.1.model));go_wp2_with fail
   refine Y7 (λw'=>w'.cell? ⟨b.1.size,2,none⟩=some (.int .i64 (V:Int))/\w'.cell? ⟨b.1.size,3,none⟩=some (.slice S a.length A)) λhHeld=>?_;refine Xn 0 ?_;refine Xn 1 ?_;refine Xn 2 ?_;refine Xn 3 ?_;refine Xn 4 ?_;refine Xn 7 ?_;refine Xs 5 λbc hK=>?_;go_simp;refine a5.mono ?_;rintro o B⟨X,rfl,F,cl,bf⟩;have F:=Xg (Below.refl K.1.size K).drew F;have bv:Hs (HK B X V V<|PK V a):=Xa bf;obtain⟨bd,cw,⟨p0,H,I⟩,bn⟩:=O.o B<|Xg a3.o F;have ci:=Xa bd;have bb:=Xa bn;have C:=Xa<|Xg M.o F;have br:=Xa<|Xg a3.o F;generalize NE _ V=ct;have b4:∀W,(Instr.field 43 (.agg #[.int .i64 0,.slice (some ⟨X,0,none⟩) V V,.int .i64 ct]) 1).run prog W=.ok (.slice (some ⟨X,0,none⟩) V V) W:=λW=>vZ;refine hK _ _ ⟨H,I⟩ λhHeld=>?_;clear hK bf F bd bn a5
   try simp only[xX]
   refine Xn 6 ?_;refine Xs 8 λbc hK=>?_;clear b4;have ac:Hs (Xf B 0 B.1.size (some ⟨X,0,none⟩) (OJ V a)):=Xa bv.ints;have a9:=Xa (λ(W:Ub)(h:Below B.1.size B W)=>My S a.length A g.1.size b.1.size V V (Xa<|bb.keep (h.mono oM)) (Xa rfl) U (oN h.4) (Xa<|d.keep (Xg C.o h) d.1) (Xa<|e.keep (Xg C.o h) e.1) (Xa<|sH hZ.o (Xg C.o h)) (Xa<|ac.keep h) (Xa<|by simp[OJ]) h.4 oM ad);have hq:=ad.o;have a6:=Xa (Hi bb (Xa rfl) oM s ac (Xa<|by simp[OJ]) (Xa rfl) aA ⟨oM,oM⟩ (Xa<|d.keep C.o d.1) (Xa<|e.keep C.o e.1) (Xa λcf hz=>by have:=hq.2.2.2.2.1 cf hz;omega) (Xa s.1.4) a9);have bx:Hs (Q=⟨0,0,P,t,NK (OJ V a) a⟩):=Xa (by rw[<-x.o];unfold f8;rw[aM λh=>h rfl,aM λh=>h l.o,aM oM];dsimp only;rw[dM,T.o,aM oM]);clear a9 ad ac x hq;generalize NK (OJ V a) a=bp at*;go_simp;refine a6.mono ?_;rintro o w5⟨a0,a1,rfl,aq,bh⟩;obtain⟨be,cx,⟨p0,H,I⟩,_⟩:=O.o w5<|Xg br.o aq;obtain⟨f,cz,⟨r0,r1,r2,r3,r4⟩,rz⟩:=E.o w5 be;have bt:=Xa f;have a7:=Xa bh;have cb:=aq.4;refine hK _ _ ⟨H,I⟩ λhHeld=>?_;clear hK f aq bh a6 be
   try simp only[xX]
   refine Xn 9 ?_;refine Xs 10 λbc hK=>?_;go_simp;have cm:w.1.size≠b.1.size:=oM;refine hK _ _ kP λhHeld=>?_;clear hK;refine Yq ?_;go_wp2;refine cC (v:=.agg #[.int .i64 0,.int .i64 0,.int .i64 (P:Int),.int .i64 t,.slice a0 bp.length a1]) (by simp[results,results6,go_sem, *]) rfl ⟨_,B.1.size,w5.1.size,rfl,by repeat' (first|with_reducible exact bt.o|with_reducible refine Below.setCell ?_ ?_ _|with_reducible refine Xb ?_ _|exact aA),⟨C.o.4,cb,sP⟩,?_,?_⟩
   .rw[bx.o];obtain⟨cc,iv,hm⟩:=a7.o;refine⟨a0,_,a1,rfl,a0,_,a1,rfl,hm.at_.keepS λcd q1 _=>?_,rfl,D.1,λab q=>by have:=D.2 ab q;omega⟩
    repeat rw[Below.heap_setCell _ _ _ _<|by dsimp only;omega]
   obtain⟨cc,iv,hm⟩:=a7.o;refine zM 0 0 P t ((hm.sep vY).keepS λcd q1 _=>?_) rfl (λab q=>by have:=D.2 ab q;omega) D.1 (oP (zZ bp D.2) D.1)
   repeat rw[Below.heap_setCell _ _ _ _<|by dsimp only;omega]
  have cn:=jJ.2 y;have l:=Xa y;clear y;go_wp2;exact cC (v:=.agg #[.int .i64 (Ft R a),.int .i64 0,.int .i64 0,.int .i64 0,.slice none 0 0]) (by simp[results,results6,go_sem, *]) rfl (N.o _ _ _ _ (by repeat' (first|with_reducible exact L.o|with_reducible refine Below.setCell ?_ ?_ _|with_reducible refine Xb ?_ _|exact aA)) (by rw[<-x.o];unfold f8;rw[aM λh=>h rfl,aU l.o]))
 have ck:=jJ.2 az;go_wp2;exact cC (v:=.agg #[.int .i64 u,.int .i64 (z:Int),.int .i64 0,.int .i64 0,.slice none 0 0]) (by simp[results,results6,go_sem, *]) rfl (N.o _ _ _ _ (by repeat' (first|with_reducible exact bq.o|with_reducible refine Below.setCell ?_ ?_ _|with_reducible refine Xb ?_ _|exact aA)) (by rw[<-x.o];unfold f8;rw[aU az]))
section
attribute [local go_sem ↓] Go.wp_at_zero Go.wp_at_succ
structure RV(w:Ub)(b:Nat)(co li ne k:Int)(a:Uy)(n c:Nat):Prop where
 c0:w.cell? ⟨b,0,none⟩=some (.int .i64 co)
 c1:w.cell? ⟨b,1,none⟩=some (.int .i64 li)
 c2:w.cell? ⟨b,2,none⟩=some (.int .i64 ne)
 c3:w.cell? ⟨b,3,none⟩=some (.int .i64 k)
 c4:w.cell? ⟨b,4,none⟩=some (.slice a n c)
theorem RV.keep{w':Ub}{k:Int}(h:RV w n t T z k p m c)(e:w'.1[n]?=w.1[n]?):RV w' n t T z k p m c:=⟨(Xc e).trans h.1,(Xc e).trans h.2,(Xc e).trans h.3,(Xc e).trans h.4,(Xc e).trans h.5⟩
theorem RV.new(w:Ub)(b d e k:Int)(a:Uy)(n c t:Nat):RV (w.alloc<|.cells #[.int .i64 b,.int .i64 d,.int .i64 e,.int .i64 k,.slice a n c] t) w.1.size b d e k a n c:=⟨sP,sP,sP,sP,sP⟩
structure Pj(w:Ub)(b0 b4 L1 B1:Nat)(co li ne k:Int)(l:List ag)(a0:Uy)(n0 c0:Nat)(a4:Uy)(n4 c4:Nat)(W:Ub):Prop where
 below:Below w.1.size w W
 f:RV W b0 co li ne k a0 n0 c0
 g:RV W b4 co li ne k a4 n4 c4
 p:jy W L1 B1 co li ne k l (.agg #[.int .i64 co,.int .i64 li,.int .i64 ne,.int .i64 k,.slice a0 n0 c0])
 z:b4<W.1.size
theorem Pj.keep{a:Int}{l:List ag}{c0:Nat}{c4:Nat}(h:Pj w n m k B t T z a l p g c0 P i c4 v)(c:Below w.1.size w u)(j:v.1.size<=u.1.size)(e:∀q,q<=n\/q=m->k<=q->u.1[q]?=v.1[q]?)(d:B<=n)(b:k<=n)(f:n<=m):Pj w n m k B t T z a l p g c0 P i c4 u :=
 ⟨c,h.f.keep<|e _ (bC<|aA) b,h.g.keep<|e _ (aZ rfl) oM,h.p.keepS λq q1 q2=>e q (bC oM) q1,oN h.z⟩
theorem LZ{m:Wn}(ha:Hs (Yx w 0 w.1.size p m))(b:Hs (n=m.length))(hn:n<=9223372036854775807)(hO:Hs (Yy w))(hT:Hs (Yb w))(hM:Hs (ft w))(hE:Hs (ErrT w))(hZ:Hs (Jn w)):
 Calls prog 3 #[.slice p n c,Hp t] w λe w'=>e=.returned (.bool true)/\Below w.1.size w w':=by
 by_cases ca:1048576<n
 .go_in
  go_wp2;go_ret;exact⟨rfl,Below.refl _ _⟩
 have aa:n<=1048576:=oM;have aq:=Xa<|LF m;obtain⟨K,hr⟩:∃K,f8 (C2 m) t=K:=⟨_,rfl⟩;have HI:=Xa λ(W:Ub)(L:Nat)(D:Below w.1.size w W)(hb:Yx W L W.1.size (some ⟨L,0,none⟩) m)=>Li (Xa hb) b aA oM aA (Xa<|hM.keep D) (Xa<|hO.keep D hO.1) (Xa<|hT.keep D hT.1) (Xa<|hE.keep D) (Xa<|sH hZ D) K (Xa hr) aq;have HS:=Xa λ(W:Ub)(L:Nat)(hb:Yx W L W.1.size (some ⟨L,0,none⟩) m)=>KX (Xa hb) b aA oM aA K (Xa hr) aq;clear hO hT hM hE hZ ca hr aq;obtain⟨i,k,l,j,ce⟩:=K;dsimp only at*
 go_in
 go_wp2_with fail
 refine(pL ha b aa<|aA).mono ?_;rintro e w1⟨rfl,a2,b1,-⟩;have s1:=a2.4;have b7:=Xa a2;have bh:=Xa b1;clear a2 b1;go_wp2_with fail
 refine(HS w1 w.1.size bh).mono ?_;rintro e o⟨G0,rfl,a3,a9⟩;have cb:=a9;obtain⟨a0,n0,c0,rfl,_⟩:=cb;have s2:=a3.4;have ac:=Xa<|Xg b7 a3;have br:=Xa a9;clear a3 a9 bh HS;go_wp2_with fail
 refine(pL (Xa<|ha.keep (Xb ac _)) b aa (by simp;omega)).mono ?_;rintro e w3⟨rfl,Z,a6,a8⟩;have s3:=Z.4;simp only[aO]at s3 a6 a8;have bd:=Xa<|(RV.new o i k l j a0 n0 c0 27).keep (Z.5 _ sP);have a1:=Xg (Xb (Below.refl _ _) _) Z;have ad:=Xa<|Xg ac a1;have bt:=Xa (br.keepS λq q1 q2=>a1.5 q oM);have af:=Xa a6;have bo:=Xa a8;clear Z a6 a8 a1 br ac;go_wp2_with fail
 refine(HI w3 (o.1.size+1) ad af).mono ?_;rintro e a⟨G4,L4,B4,rfl,f,⟨z4,z5,z6⟩,ba,b6⟩;have cc:=ba;obtain⟨s,J,c4,rfl,_⟩:=cc;have s4:=f.4;have be:=Xa<|bd.keep (f.5 _ oM);have bc:=Xa<|Xg ad f;have bv:=Xa (bt.keepS (w':=a) λq q1 q2=>f.5 q oM);have aj:=Xa<|af.keep (w':=a) (f.mono oM);have bp:=Xa ((iy.of (B:=w3.1.size) bo).keepS (w':=a) λq q1 q2=>f.5 q oM);have az:=Xa ba;have bm:=Xa b6;clear f ba b6 bd ad bt af bo;have d:=λx=>be.keep<|(Xb (Below.refl a.1.size a) x).5 o.1.size oM;have u:=λx=>(d x).1;have f1:=λx=>(d x).2;have f2:=λx=>(d x).3;have f3:=λx=>(d x).4;have v:=λx=>(d x).5;go_wp2_with fail
 have S:=Xa<|Xb (Below.refl a.1.size a) (.cells #[.int .i64 i,.int .i64 k,.int .i64 l,.int .i64 j,.slice s J c4] 27);have cq:(a.alloc<|.cells #[.int .i64 i,.int .i64 k,.int .i64 l,.int .i64 j,.slice s J c4] 27).1.size=a.1.size+1:=aO _ _;have P:Hs (Pj w o.1.size a.1.size w1.1.size o.1.size i k l j ce a0 n0 c0 s J c4<|a.alloc (.cells #[.int .i64 i,.int .i64 k,.int .i64 l,.int .i64 j,.slice s J c4] 27)):=Xa ⟨Xb bc _,d _,RV.new a i k l j s J c4 _,bv.keepS λq q1 q2=>S.5 q oM,oM⟩;clear u f1 f2 f3 v d be bc bv;generalize a.alloc _=wv at*;refine(sk (az.keepS λq q1 q2=>S.5 q oM) P.p oM oM).mono ?_;rintro e w5⟨rfl,E⟩;have s5:=E.4;have Q:=Xa (P.keep (Xg P.1 E) s5 (λq q1 _=>E.5 q oM) aA s2 oM);have bq:=Xa<|Xg S E;clear E P S;go_wp2_with fail
 refine(pL (Xa<|ha.keep Q.1) b aa oM).mono ?_;rintro e w6⟨rfl,F,b4,-⟩;have s6:=F.4;have al:=Xa (Q.keep (Xg Q.1 F) s6 (λq q1 _=>F.5 q oM) aA s2 oM);have ar:=Xa<|Xg bq F;have bl:=Xa b4;clear F b4 Q bq;go_wp2_with fail
 refine(Ke (Xa<|aj.keep (ar.mono s4)) bl b oM oM aA).mono ?_;rintro e w7⟨rfl,G⟩;have s7:=G.4;have ao:=Xa (al.keep (Xg al.1 G) s7 (λq q1 _=>G.5 q oM) aA s2 oM);have T:=Xa<|Xg ar G;clear G al bl ar;go_wp2_with fail
 refine(I5 (Xa<|aj.keep (T.mono s4)) b (Xa<|bp.keepS λq q1 q2=>T.5 q oM) oM oM oM).mono ?_;rintro e w8⟨rfl,I,-⟩;have s8:=I.4;have h:=Xa (ao.keep (I.below ao.1 oM) s8 (λq q1 _=>I.5 q oM oM) aA s2 oM);have ap:Hs (YA L4 B4 a w8):=Xa λq q1 q2=>(I.5 q oM oM).trans (T.5 q oM);have cm:¬(1+(n:Int)<0):=oM;obtain⟨u,f1,f2,f3,v⟩:=h.f;obtain⟨y,z,A,B,C⟩:=h.g;clear I ao T aj bp;go_wp2_with fail
 refine(sk (az.keepS ap) h.p oM oM).mono ?_;rintro e w9⟨rfl,H⟩;have s9:=H.4;have R:=Xa (h.keep (Xg h.1 H) s9 (λq q1 _=>H.5 q oM) aA s2 oM);have bn:Hs (YA L4 B4 a w9):=Xa λq q1 q2=>(H.5 q oM).trans (ap q q1 q2);clear H h ap u f1 f2 f3 v y z A B C az;obtain⟨y,z,A,B,C⟩:=R.g;go_wp2_with fail
 refine(bm w9 bn oM).mono ?_;rintro e cr⟨cf,rfl,cn,a7,cg,hh⟩;have bf:=Xa hh;have M:=Xa (R.keep (a7.below R.1 oM) cg (λq q1 _=>a7.5 q oM oM) aA s2 oM);clear a7 hh R bn bm y z A B C;obtain⟨y,z,A,B,C⟩:=M.g;go_wp2_with fail
 refine bf.mono ?_;rintro e ck⟨rfl,V⟩;have ch:=V.4;have N:=Xa (M.keep (Xg M.1 V) ch (λq q1 _=>V.5 q oM) aA s2 oM);have cp:¬((cf:Int)<0):=oM;clear V M bf y z A B C;go_wp2_with fail
 refine(pL (Xa<|ha.keep N.1) b aa oM).mono ?_;rintro e cl⟨rfl,X,b3,-⟩;have ci:=X.4;have O:=Xa (N.keep (Xg N.1 X) ci (λq q1 _=>X.5 q oM) aA s2 oM);have bi:=Xa b3;clear X b3 N;go_wp2_with fail
 refine(HI cl ck.1.size O.1 bi).mono ?_;rintro e ab⟨G5,L5,B5,rfl,Y,⟨y4,y5,y6⟩,bb,-⟩;have cd:=bb;obtain⟨a5,n5,c5,rfl,_⟩:=cd;have cj:=Y.4;have r:=Xa (O.keep (Xg O.1 Y) cj (λq q1 _=>Y.5 q oM) aA s2 oM);have bx:=Xa bb;have g:=λx=>r.f.keep<|(Xb (Below.refl ab.1.size ab) x).5 o.1.size (oN r.z);have u:=λx=>(g x).1;have f1:=λx=>(g x).2;have f2:=λx=>(g x).3;have f3:=λx=>(g x).4;have v:=λx=>(g x).5;have U:=λx=>Xb (Below.refl ab.1.size ab) x;clear Y bb O bi;go_wp2_with fail
 refine(sk (bx.keepS λq q1 q2=>(U _).5 q oM) (r.p.keepS λq q1 q2=>(U _).5 q oM) (by simp;omega) (by simp;omega)).mono ?_;rintro e cs⟨rfl,b0⟩;have b8:=Xa<|Xg (Xg r.1<|U _) b0;clear b0 u f1 f2 f3 v g U r bx;go_wp2;go_ret;exact⟨rfl,b8⟩
end
end Go.Proofs.YtcfdhbigppockaaGreatDoor
