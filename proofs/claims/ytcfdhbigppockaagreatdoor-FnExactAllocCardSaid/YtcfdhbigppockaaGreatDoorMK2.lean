import Derived.Test.YtcfdhbigppockaaGreatDoorPI0
import Derived.Test.YtcfdhbigppockaaGreatDoorMT1
namespace Go.Proofs.YtcfdhbigppockaaGreatDoor
set_option maxHeartbeats 4000000
set_option maxRecDepth 100000
open Go.RowKit Go.Proofs.Tryz
section
structure OC(w4 wr:World)(g V cap:Nat)(C:Nat->Int):Prop where
 os:wr.4=w4.4
 tape:wr.2=w4.2
 output:wr.5=w4.5
 size:w4.1.size<=wr.1.size
 gl:g<w4.1.size
 fr:∀q,q<w4.1.size->q≠g->wr.1[q]?=w4.1[q]?
 ia:HK wr g V cap C
section
variable {w4 wr wr': World} {g V cap: Nat} {C C': Nat -> Int}
theorem OC.far(h:OC w4 wr g V cap C)(k:Below wr.1.size wr wr'):OC w4 wr' g V cap C :=
 ⟨k.1.trans h.1,k.2.trans h.2,k.3.trans h.3,aJ h.4 k.4,h.5,λq q1 q2=>(k.5 q<|aX q1 h.4).trans (h.6 q q1 q2),h.7.of_block<|k.5 g (aX h.5 h.4)⟩
theorem OC.put(h:OC w4 wr g V cap C){v:Nat}(a:v<V)(x:Int):OC w4 (wr.setCell ⟨g,v,none⟩ (.int .i64 x)) g V cap (λu=>if u=v then x else C u) :=
 ⟨h.1,h.2,h.3,by rw[Xd];exact h.4,h.5,λq q1 q2=>(Below.heap_setCell _ _ _ _ q2).trans (h.6 q q1 q2),h.7.set v x a⟩
theorem OC.cell(h:OC w4 wr g V cap C){b o:Nat}{v:Value}(c:b≠g)(a:w4.cell? ⟨b,o,none⟩=some v):wr.cell? ⟨b,o,none⟩=some v:=(Xc<|h.6 b (aI w4 _ a) c).trans a
end
theorem vW{xs:List Xe}{V b:Nat}{x:Xe}{i d:Nat}(c:i<x.1.length)(a:x.1[i].1=(d:Int)):Ni xs V b x (i+1)=Ni xs V b x i++[(d,Uq xs x V b 0)]:=by
 unfold Ni;rw[kJ,aC c,bG];simp[a]
theorem q9{xs:List Xe}{V b:Nat}{x:Xe}{i d:Nat}(c:i<x.2.length)(e:dB x.2[i].1=true)(a:x.2[i].2=(d:Int)):VC xs V b x (i+1)=VC xs V b x i++[(d,Uq xs x V b<|i+1)]:=by
 rw[VC,aC c];simp[BW,e,a]
theorem xk{xs:List Xe}{V b:Nat}{x:Xe}{i:Nat}(a:i<x.2.length)(c:dB x.2[i].1=false):VC xs V b x (i+1)=VC xs V b x i:=by
 rw[VC,aC a];simp[BW,c]
def OX(a b c:Value):Nat->Value
 |0=>a
 |1=>b
 |_=>c
theorem Ah{V:Nat}:∀(a:List (Nat×List Nat))(C:Nat->Int),(∀s∈a,s.2.length<=V)->(∀u,-1<=C u/\C u<=(V:Int))->∀u,-1<=Kq C a u/\Kq C a u<=(V:Int)
 |[],_,_,h=>h
 |s::a,C,hs,h=>by
  refine Ah a (Nn C s) (λt b=>hs t<|cN _ b) λu=>?_;unfold Nn;by_cases e:u=s.1
  .rw[aU e];have c:=MW C s.2;have d:=hs s cI;omega
  rw[aM e];exact h u
theorem Aj{a:List Xe}{x:Xe}{V b i:Nat}:(Uq a x V b i).length<=V:=by unfold Uq;exact aJ (fJ _ _) sP
theorem Ai{a:List Xe}{V b:Nat}{x:Xe}:∀k,∀s∈VC a V b x k,s.2.length<=V
 |0,s,h=>by cases h
 |k+1,s,h=>by
  rw[VC]at h;obtain h|h:=bU.1 h;·exact Ai k s h
  cases hk:x.2[k]? with
  |none=>rw[hk]at h;cases h
  |some y=>
   rw[hk]at h;obtain⟨v,_,rfl⟩:=aY.1 h;exact Aj
theorem MS{b:List Xe}{V:Nat}{c:List Nat}:∀u,-1<=Kq (λ_=>-1) (Ko b V c) u/\Kq (λ_=>-1) (Ko b V c) u<=(V:Int):=by
 refine Ah _ _ (λs a=>?_) λu=>oM;let⟨d,_,a⟩:=bV.1 a;unfold OV at a;cases hb:b[d]? with
 |none=>rw[hb]at a;cases a
 |some x=>
  rw[hb]at a;obtain a|a:=bU.1 a
  .obtain⟨p,_,rfl⟩:=aY.1 a;exact Aj
  exact Ai _ s a
structure Py(w1 wr:World)(u:Value)(k:Nat):Prop where
 low:Below w1.1.size w1 wr
 ne:u≠.slice none 0 0
 own:wr.ownsRow w1.1.size 2 1 u k ((List.replicate k (-1)).map (Value.int .i64))
theorem Lj{V:Nat}{az:Option Addr}{n c:Nat}{a:List Xe}{em cp:Nat}{w:World}(ha:Hs (Xp w em cp az a))(hx:Hs (n=a.length))(hs:Hs (a.length+Xx a<=1048576))(hB:cp<=w.1.size)(hv:Hs (Ft (V:Int) a=0))(fr:Hs (XJ ⟨(V:Int),a⟩=true))(K:Hs (Jy V a)):
 Calls prog 13 #[.agg #[.int .i64 (V:Int),.slice az n c]] w λs w'=>∃af g cap,YX (X8 a) n af/\s=.returned (.agg #[.int .i64 0,.slice (some ⟨g,0,none⟩) V cap,.int .i64 (NE (Kq (λ_=>-1) (Ko a V<|XT af n 0)) V)])/\Below w.1.size w w'/\w.1.size<=g/\HK w' g V cap (Kq (λ_=>-1) (Ko a V<|XT af n 0)):=by
 have hn:n<=1000:=oP hx.o K.1.2;have hV:=K.2;have bv:=Xa λW (B:Below w.1.size w W)=>KT (V:Int) c (Xa<|ha.keep (B.mono hB)) hx hs (oN B.4);rw[hv.o]at bv;have cq:=Xa λW (B:Below w.1.size w W)=>I9 c (Xa<|ha.keep (B.mono hB)) hx hs (oN B.4) fr;have c7:=Xa λW (B:Below w.1.size w W)=>qm c (Xa<|ha.keep (B.mono hB)) hx (oN B.4) K;obtain⟨i0,et,fc,fe,fi⟩:=Xq RH
 go_in
 go_wp2_with fail
 have ca:(λL:World=>Below w.1.size w L/\w.1.size+2<=L.1.size/\L.cell? ⟨w.1.size,0,none⟩=some (.int .i64 (V:Int))/\L.cell? ⟨w.1.size,1,none⟩=some (.slice az n c)/\Hs (L.1[w.1.size+1]?=some (.cells #[.int .i64 0,.slice none 0 0,.int .i64 0] 43))) ((w.alloc<|.cells #[.int .i64 (V:Int),.slice az n c] 37).alloc (.cells #[.int .i64 0,.slice none 0 0,.int .i64 0] 43)):=⟨Xb (Xb (Below.refl _ _) _) _,sP,(by simp[go_sem]),(by simp[go_sem]),(Xa (by
  have:=World.alloc_heap_new (w.alloc<|.cells #[.int .i64 (V:Int),.slice az n c] 37) (.cells #[.int .i64 0,.slice none 0 0,.int .i64 0] 43);rwa[aO]at this))⟩
 generalize (w.alloc _).alloc _=w0 at*;obtain⟨cc,ka,c0,c1,c9⟩:=ca;refine(bv _ cc).mono ?_;rintro s z⟨rfl,aj⟩;have kb:=aj.4;have k0:=(XU aj oM).trans c0;have k1:=(XU aj oM).trans c1;have cr:=Xa<|Xg cc aj;have ee:=Xa<|(aj.5 _ oM).trans c9;clear cc aj c0 c1 bv c9;go_wp2_with fail
 have cx:Hs (Py z (z.alloc<|.cells #[] 2) (.slice (some ⟨z.1.size,0,none⟩) 0 0) 0):=Xa ⟨Xb (Below.refl _ _) _,sP,eI (base:=z.1.size) (e:=2) (size:=1) z #[] 0 sP sP rfl⟩;generalize z.alloc _=w2 at*
 go_loopw [4,5] (λu i wr=>∃q:Nat,q<=V/\i=.int .i64 q/\Hs (Py z wr u q)) λ_ i _=>V-(intOf i).toNat
 case atStart=>exact⟨0,aN,rfl,cx⟩
 clear cx;obtain⟨q,hq,rfl,l⟩:=hrel;have cm:=(XU l.1 oM).trans k0;have cn:=(XU l.1 oM).trans k1;by_cases js:q<V
 .have j3:(q:Int)<(V:Int):=oM;have e9:=l.1.4;go_wp2_with (at_builtin;refine bT _ rfl _ _ 41 rfl z.1.size 2 i0 (.int .i64 0) 1 8 underlying41 et fc fe fi rfl vY _ _ _ rfl (l.3.alloc _) ⟨wr.1.size,0,none⟩ 1 1 [.int .i64 (-1)] rfl rfl ?c1 ?c2 ?c3 ?c4 ?c5 ?_)
  case c1=>
   intro j u Y
   match j,Y with
   |0,Y=>simp at Y;subst Y;simp[Addr.add,go_sem]
  case c2=>intro u e;simp at e;subst e;rfl
  case c3=>unfold maxLen;omega
  case c4=>omega
  case c5=>simp;omega
  intro v1 u1 bd ao _ eo;have a7:Hs (Py z u1 v1<|q+1):=Xa (by
   refine⟨⟨ao.1.trans l.1.1,ao.2.trans l.1.2,ao.3.trans l.1.3,aJ e9<|aJ sP ao.4,λb B=>?_⟩,λs=>?_,?_⟩;·exact(ao.5 b (by simp;omega) λs=>by have:=(l.3.lt b s.symm).1;omega).trans ((Below.heap_alloc _ _ _ oM).trans (l.1.5 b B))
   .have:=bd.1;obtain⟨_,e2⟩|⟨g,cap,cur,e2,_⟩:=bd.2;·omega
    rw[s]at e2;cases e2
   simpa [List.replicate_succ']using bd)
  obtain⟨av,cv,fn⟩:∃av cv,v1=.slice av (q+1) cv:=by
   obtain⟨av,cv,A,_⟩:=Xk a7.3;rw[kN]at A;exact⟨av,cv,A⟩
  subst fn;clear bd ao eo cm cn;go_wp2;exact⟨⟨q+1,oM,gM,a7⟩,by simp[intOf];omega⟩
 have fj:q=V:=oM
 subst fj;have b0:=Xa<|cr.trans (l.1.mono cr.4);have kn:=l.1.4;obtain⟨g,cap,rfl,i2,dd⟩:∃g cap,u4=.slice (some ⟨g,0,none⟩) q cap/\z.1.size<=g/\HK wr g q cap (λ_=>-1):=by
  have h1:=l.3;have h2:wr.ownsRow z.1.size 2 1 u4 (List.replicate q (-1)).length ((List.replicate q (-1:Int)).map (Value.int .i64)):=kN▸h1;obtain⟨g,cap,e1,e2,e3⟩:=HK.of_own h2 l.2;rw[kN]at e1 e3;exact⟨g,cap,e1,e2,e3.congr λi hi=>by rw[bF,mI,aU hi];rfl⟩
 have a6:=Xa dd;have ef:=Xa<|(l.1.5 _ oM).trans ee;clear dd l;go_wp2_with fail
 refine(cq _ b0).mono ?_;rintro s w3⟨af,a1,c1,a2,c2,a3,c3,a4,c4,rfl,S,hP,dc⟩;have HP:=Xa hP;have b1:=Xa<|Xg b0 S;have bq:=Xa dc.o;have kc:=S.4;have m0:=(XU S oM).trans cm;have m1:=(XU S oM).trans cn;have cw:=Xa<|a6.of_block (S.5 g a6.lt);have i3:=a6.lt;obtain⟨f,bc⟩:∃f,f=XT af n 0:=⟨_,rfl⟩;rw[<-bc]at bq;rw[<-bc];obtain⟨r,hm⟩:∃r,r=f.length:=⟨_,rfl⟩;rw[<-hm];have br:=Xa bc;have bn:=Xa hm;have es:∀W,(Instr.field 72 (.agg #[.slice a1 n c1,.slice a2 n c2,.slice a3 n c3,.slice a4 r c4]) 3).run prog W=.ok (.slice a4 r c4) W:=λW=>vZ;have eg:=Xa<|(S.5 _ oM).trans ef;clear S hP dc cm cn a6 cq bc hm;go_wp2_with fail
 refine(c7 _ b1).mono ?_;rintro s w4⟨gO,cO,ga,rfl,G,i1,hG⟩;have O:=Xa<|Xg b1 G;have kd:=G.4;have n0:=(XU G oM).trans m0;have n1:=(XU G oM).trans m1;have ec:=Xa<|bq.keep G;have dk:=Xa<|ha.keep (O.mono hB);have cs:Hs (OC w4 w4 g q cap<|Kq (λ_=>-1) (Ko a q<|f.take 0)):=Xa ⟨rfl,rfl,rfl,aA,oM,λ_ _ _=>rfl,cw.of_block<|G.5 g oM⟩;have eb:=Xa n0;have a7:=Xa n1;have dw:=Xa hG;have ej:Hs (∀ap∈f,ap<n):=Xa (br.o▸λap fx=>(hx.o▸K.1.re ap (Ji HP n 0 ap (Re.root) fx).2));have jv:r<=1000:=by
  have h1:=o9 HP (λap fs=>hx.o▸K.1.re ap fs) n Re.root;rw[bn.o,br.o];omega
 have ei:=Xa<|(G.5 _ oM).trans eg;clear G hG m0 m1 bq cw es n0 n1 c7 b1 b0;go_wp2
 go_loopw [8] (λi wx=>∃k:Nat,k<=r/\i=.int .i64 k/\Hs (OC w4 wx g q cap<|Kq (λ_=>-1) (Ko a q<|f.take k))) λi _=>r-(intOf i).toNat
 case atStart=>exact⟨0,aN,rfl,cs⟩
 clear cs;obtain⟨k,hk,rfl,h⟩:=hrel;by_cases dj:k<r
 .have ch:k<f.length:=bn.o▸dj;have ez:k<(Xi f).length:=by simpa [Xi]using ch
  obtain⟨b4,o4,rfl,G,e4⟩:=ec k ez;have cd:=ej _<|aH ch;have el:Hs (f.take (k+1)=f.take k++[f[k]]):=Xa (by rw[kJ,aC ch];rfl);rw[show(Xi f)[k]=((f[k]:Nat):Int) by simp[Xi]]at e4;generalize f[k]=b at*;have J:b<a.length:=hx.o▸cd;obtain⟨bb,oo,rfl,ir,pa,pc,ia,ic,p0,p1,⟨t0,t1,t2,t3⟩,ck,cg⟩:=dk b J;obtain⟨s0,_,s2⟩:=dw b cd;obtain⟨X,hX⟩:∃X,X=a[b]:=⟨_,rfl⟩;rw[<-hX]at p0 p1 t0 t1 t2 t3 ck cg;have P:=Xa hX;clear hX;rw[show(Tu a b).length=X.2.length by rw[Vt J,P.o]]at s0 s2;have f4:=h.cell oM e4;have f0:=h.cell oM p0;have f1:=h.cell oM p1;have g0:=h.cell oM t0;have g1:=h.cell oM t1;have g2:=h.cell oM t2;have g3:=h.cell oM t3;have h0:=h.cell oM eb;have h1:=h.cell oM a7;have hS:=h.cell oM s0;have ed:=Xa ck;have ea:=Xa cg;have da:=Xa s2;have jl:(k:Int)<(r:Int):=oM;have iv:(b:Int)<(n:Int):=oM;clear e4 p0 p1 t0 t1 t2 t3 ck cg s0 s2;go_wp2_with fail
  refine M5 rfl (Xa λ_ _ _ _ _ A=>A) f4 h1 f0 f1 g0 g1 g2 g3 dj cd (Xa ?_);intro gq gr gs gt gv gz g4 g5 W6 al db;simp only[List.take_succ_cons,lK,List.drop_succ_cons,List.drop_zero,cW,dR];have a5:=Xa db;clear db;have bf:=Xa<|h.far al;have fz:=h.4;have i4:=oB al f4<|aI wr _ f4;have iS:=oB al hS<|aI wr _ hS;obtain⟨m,ce⟩:∃m,m=wr.1.size:=⟨_,rfl⟩;rw[<-ce]at a5 fz;rw[<-ce];have a9:m≠g:=oM;clear al h f4 hS f0 f1 g0 g1 g2 g3 h0 h1 ce;obtain⟨D,b7⟩:∃D,D=Kq (λ_=>-1) (Ko a q<|f.take k):=⟨_,rfl⟩;rw[<-b7]at bf;have dn:=Xa b7;clear b7;generalize wr=wv at*;go_wp2_with fail
  have c6:Hs (OC w4 W6 g q cap<|Kq D (Ni a q b X 0)):=Xa (by unfold Ni;simpa [Kq]using bf.o);obtain⟨I,cj⟩:∃r,r=X.1.length:=⟨_,rfl⟩;obtain⟨t,ci⟩:∃r,r=X.2.length:=⟨_,rfl⟩;rw[<-cj,<-ci]at a5;have cz:=Xa cj;have bo:=Xa ci;have e0:=K.10 X (P.o▸aH J);have j1:I<=4000:=oM;have j0:t<=4000:=oM;clear cj ci e0 bf i4 iS
  go_loopw [11] (λi wx=>∃i':Nat,i'<=I/\i=.int .i64 i'/\Hs (OC w4 wx g q cap<|Kq D (Ni a q b X i'))/\Hs (wx.rowIs m 60 6<|jo (.slice pa I pc) (.slice ia t ic) (.int .i64 X.3.1) (.int .i64 X.3.a) (.int .i64 X.3.3) (.int .i64 X.3.4))) λi _=>I-(intOf i).toNat
  case atStart=>exact⟨0,aN,rfl,c6,a5⟩
  clear c6 a5;obtain⟨i,hi,rfl,x,aa⟩:=hrel;have x0:Cl wr m 0 (.slice pa I pc):=aa.cell (i:=0) vY;have x1:Cl wr m 1 (.slice ia t ic):=aa.cell (i:=1) vY;by_cases df:i<I
  .have cf:i<X.1.length:=cz.o▸df;obtain⟨pb,po,rfl,j2,ko,kq,d0,_,_⟩:=ed i cf;have cb:X∈a:=P.o▸aH J;have T:=K.8 X cb X.1[i] (aH cf);obtain⟨y,H⟩:=bX T.1;have U:y<q:=by have:=T.2;rw[H]at this;omega
   have ac:=Xa<|vW (xs:=a) (V:=q) (b:=b) cf H;rw[H]at d0;have y0:=x.cell oM d0;obtain⟨b5,o5,e5,ep,a',c',s0,s1⟩:=da 0 sP;simp only[cM,dW]at s0 s1;injection e5 with e5;injection e5 with Q e7;subst Q e7;have a0:UU a q b 0=Xi (Uq a X q b 0):=P.o▸TQ J q 0;rw[a0]at s0 s1;have bm:Hs (∀u∈Uq a X q b 0,u<q):=Xa (λu e=>by unfold Uq at e;exact bE.1 (fG.1 e).1);have en:(Uq a X q b 0).length<=q:=by unfold Uq;exact aJ (fJ _ _) sP
   generalize Uq a X q b 0=o at*;have y1:=x.cell oM s0;obtain⟨ln,Z⟩:∃ln,ln=o.length:=⟨_,rfl⟩;rw[show(Xi o).length=o.length by simp[Xi],<-Z]at y1;have bl:=Xa Z;have e8:ln<=q:=oM;clear Z;obtain⟨C,R⟩:∃C,C=Kq D (Ni a q b X i):=⟨_,rfl⟩;have bi:=Xa R;rw[<-R]at x;have ar:=Xa (λW (hW:Below wr.1.size wr W)=>yH (some ⟨g,0,none⟩) cap C a' c' W (Xa λu e=>⟨g,0,rfl,by rw[aV];exact oB hW (x.7.cell e) x.7.lt⟩) (Xa (λj Y=>by
    obtain⟨b6,o6,Q,al,b3⟩:=s1 j (by simpa [Xi]using Y);have h6:w4.cell? ⟨b6,o6+j,none⟩=some (.int .i64 ((o[j]:Nat):Int)):=by
     rw[b3];simp[Xi]
    have h7:=x.cell oM h6;exact⟨b6,o6,Q,oB hW h7<|aI wr _ h7⟩)) bl oM bm)
   have yg:=x.7.cell U;have yf:=x.7.frozen y;have jf:(i:Int)<(I:Int):=oM;have er:(y:Int)<(q:Int):=oM;have N:Hs (∀F,Below wr.1.size wr F->OC w4 (F.setCell ⟨g,y,none⟩ (.int .i64 (Nx C o:Int))) g q cap (Kq D<|Ni a q b X (i+1))/\(F.setCell ⟨g,y,none⟩ (.int .i64 (Nx C o:Int))).rowIs m 60 6 (jo (.slice (some ⟨pb,po,none⟩) I pc) (.slice ia t ic) (.int .i64 X.3.1) (.int .i64 X.3.a) (.int .i64 X.3.3) (.int .i64 X.3.4))):=Xa (λF h5=>by
    refine⟨?_,(aa.of_block<|h5.5 m aa.lt).setOther (by show m≠g;exact a9) _⟩;rw[ac.o,rl,<-bi.o];exact(x.far h5).put U _)
   clear d0 s0 s1 R T H a0;generalize Nx C o=sm at*;go_wp2_with fail
   refine M4 rfl (Xa λ_ _ _ _ _ A=>A) x0 y0 y1 yg yf a9 oM oM df U (Xa<|ar.o wr.drew (Below.refl _ _).drew) (Xa ?_);intro g6 g7 g8 g9 hc he hf hg hh hl hp ht hw hy;simp only[List.take_succ_cons,lK,List.drop_succ_cons,List.drop_zero,cW,dR];clear x0 x1 y0 y1 yg yf ar;go_wp2;exact⟨⟨i+1,oM,gM,Xa (N.o wr.drew (Below.refl _ _).drew).1,Xa (N.o wr.drew (Below.refl _ _).drew).2⟩,by simp[intOf];omega⟩
  have eu:i=I:=oM;subst eu;have bh:Hs (OC w4 wr g q cap<|Kq D (Ni a q b X X.1.length)):=Xa (by rw[<-cz.o];exact x);go_wp2_with fail
  clear x x0 x1;obtain⟨M,b8⟩:∃M,M=Kq D (Ni a q b X X.1.length):=⟨_,rfl⟩;rw[<-b8]at bh;have ds:=Xa b8;clear b8;have c8:Hs (OC w4 wr g q cap<|Kq M (VC a q b X 0)):=Xa (by simpa [VC,Kq]using bh.o);generalize wr=wz at*
  go_loopw [12] (λj wx=>∃j':Nat,j'<=t/\j=.int .i64 j'/\Hs (OC w4 wx g q cap<|Kq M (VC a q b X j'))/\Hs (wx.rowIs m 60 6<|jo (.slice pa i pc) (.slice ia t ic) (.int .i64 X.3.1) (.int .i64 X.3.a) (.int .i64 X.3.3) (.int .i64 X.3.4))) λj _=>t-(intOf j).toNat
  case atStart=>exact⟨0,aN,rfl,c8,aa⟩
  clear c8 aa bh;obtain⟨j,Y,rfl,p,ab⟩:=hrel;have x0:Cl wr m 0 (.slice pa i pc):=ab.cell (i:=0) vY;have x1:Cl wr m 1 (.slice ia t ic):=ab.cell (i:=1) vY;by_cases di:j<t
  .have ba:j<X.2.length:=by rw[<-bo.o];exact di
   obtain⟨ib,io,rfl,i6,o0,o1,_,_,_⟩:=ea j ba;have cb:X∈a:=by rw[P.o];exact aH J
   have y2:=p.cell oM o0;have be:=p.cell oM o1;have ad:=Xa<|nZ X.2[j].1 wr;have jj:(j:Int)<(t:Int):=oM;cases e:dB X.2[j].1 with
   |false=>
    rw[e]at ad;have ac:=Xa<|xk (xs:=a) (V:=q) (b:=b) ba e;clear o0 o1 be;go_wp2_with fail
    refine ad.mono ?_;rintro s w5⟨rfl,cl⟩;subst cl;clear ad;go_wp2_with fail
    refine⟨?_,by simp[intOf];omega⟩
    first
     |exact⟨j+1,oM,gM,Xa (by rw[ac.o];exact p),ab⟩
     |((repeat apply gP);refine⟨?_,rfl⟩;exact⟨j+1,oM,gM,Xa (by rw[ac.o];exact p),ab⟩)
   |true=>
    rw[e]at ad;have T:=K.6 X cb X.2[j] (aH ba) X.2[j].2 (by unfold BW;rw[e];simp);obtain⟨y,H⟩:=bX T.1;have U:y<q:=by have:=T.2;rw[H]at this;omega
    have ac:=Xa<|q9 (xs:=a) (V:=q) (b:=b) ba e H;rw[H]at be;obtain⟨b5,o5,e5,ep,a',c',s0,s1⟩:=da (j+1) (by simp;omega);simp only[cM,dW]at s0 s1;injection e5 with e5;injection e5 with Q e7;subst Q e7;rw[aV]at s0;have a0:UU a q b (j+1)=Xi (Uq a X q b<|j+1):=by rw[P.o];exact TQ J q<|j+1
    rw[a0]at s0 s1;have bm:Hs (∀u∈Uq a X q b (j+1),u<q):=Xa (λu e=>by unfold Uq at e;exact bE.1 (fG.1 e).1);have en:(Uq a X q b<|j+1).length<=q:=by unfold Uq;exact aJ (fJ _ _) sP
    generalize Uq a X q b (j+1)=o at*;have y1:=p.cell oM s0;obtain⟨ln,Z⟩:∃ln,ln=o.length:=⟨_,rfl⟩;rw[show(Xi o).length=o.length by simp[Xi],<-Z]at y1;have bl:=Xa Z;have e8:ln<=q:=oM;clear Z;obtain⟨C,R⟩:∃C,C=Kq M (VC a q b X j):=⟨_,rfl⟩;have bi:=Xa R;rw[<-R]at p;have ar:=Xa (λW (hW:Below wr.1.size wr W)=>yH (some ⟨g,0,none⟩) cap C a' c' W (Xa λu e=>⟨g,0,rfl,by rw[aV];exact oB hW (p.7.cell e) p.7.lt⟩) (Xa (λco hr=>by
     obtain⟨b6,o6,Q,al,b3⟩:=s1 co (by simpa [Xi]using hr);have h6:w4.cell? ⟨b6,o6+co,none⟩=some (.int .i64 ((o[co]:Nat):Int)):=by
      rw[b3];simp[Xi]
     have h7:=p.cell oM h6;exact⟨b6,o6,Q,oB hW h7<|aI wr _ h7⟩)) bl oM bm)
    have yg:=p.7.cell U;have yf:=p.7.frozen y;have er:(y:Int)<(q:Int):=oM;have N:Hs (∀F,Below wr.1.size wr F->OC w4 (F.setCell ⟨g,y,none⟩ (.int .i64 (Nx C o:Int))) g q cap (Kq M<|VC a q b X (j+1))/\(F.setCell ⟨g,y,none⟩ (.int .i64 (Nx C o:Int))).rowIs m 60 6 (jo (.slice pa i pc) (.slice (some ⟨ib,io,none⟩) t ic) (.int .i64 X.3.1) (.int .i64 X.3.a) (.int .i64 X.3.3) (.int .i64 X.3.4))):=Xa (λF h5=>by
     refine⟨?_,(ab.of_block<|h5.5 m ab.lt).setOther (by show m≠g;exact a9) _⟩;rw[ac.o,rl,<-bi.o];exact(p.far h5).put U _)
    clear o0 o1 s0 s1 R T H a0 e;generalize Nx C o=sm at*;go_wp2_with fail
    refine ad.mono ?_;rintro s w5⟨rfl,cl⟩;subst cl;clear ad y2;go_wp2_with fail
    refine M6 rfl (Xa λ_ _ _ _ _ A=>A) x1 be y1 yg yf a9 oM oM di U (oN bo.o) oM (Xa<|ar.o w5.drew (Below.refl _ _).drew) (Xa ?_);intro hz h3 h4 h8 h9 ih il gb gd ge gf gg gh gi gl gp;simp only[List.take_succ_cons,lK,List.drop_succ_cons,List.drop_zero,cW,dR];clear x0 x1 be y1 yg yf ar;go_wp2_with fail
    refine⟨?_,by simp[intOf];omega⟩
    first
     |exact⟨j+1,oM,gM,Xa (N.o w5.drew (Below.refl _ _).drew).1,Xa (N.o w5.drew (Below.refl _ _).drew).2⟩
     |((repeat apply gP);refine⟨?_,rfl⟩;exact⟨j+1,oM,gM,Xa (N.o w5.drew (Below.refl _ _).drew).1,Xa (N.o w5.drew (Below.refl _ _).drew).2⟩)
  have ev:j=t:=oM
  subst ev;have ct:Hs (Kq (λ_=>-1) (Ko a q<|f.take (k+1))=Kq M (VC a q b X j)):=Xa (by
   rw[el.o,qT,zW,<-dn.o];unfold OV;rw[aC J,<-P.o];show Kq D (Ni a q b X X.1.length++VC a q b X X.2.length)=_;rw[zW,<-ds.o,<-bo.o])
  clear x0;go_wp2_with fail
  refine⟨?_,by simp[intOf];omega⟩
  first
   |exact⟨k+1,oM,gM,Xa<|by rw[ct.o];exact p⟩
   |((repeat apply gP);refine⟨?_,rfl⟩;exact⟨k+1,oM,gM,Xa<|by rw[ct.o];exact p⟩)
 have ey:k=r:=oM
 subst ey;have E:Hs (OC w4 wr g q cap<|Kq (λ_=>-1) (Ko a q f)):=Xa (by
  have:=h.o;rw[bn.o,gC]at this;exact this)
 clear h;obtain⟨d,a8⟩:∃d,d=Kq (λ_=>-1) (Ko a q f):=⟨_,rfl⟩;rw[<-a8]at E;have du:=Xa a8;have ek:Hs (∀u,-1<=d u/\d u<=(q:Int)):=Xa (by rw[a8];exact MS);clear a8;have aq:Hs (wr.rowIs (w.1.size+1) 43 3 (OX (.int .i64 0) (.slice none 0 0) (.int .i64 0))):=Xa ⟨_,(E.6 _ oM oM).trans ei,rfl,λi hi=>by match i,hi with|0,_=>rfl|1,_=>rfl|2,_=>rfl⟩;go_wp2
 go_loop [13,14] (λc i=>∃v:Nat,v<=q/\i=.int .i64 v/\c=.int .i64 (NE d v)) λ_ i=>q-(intOf i).toNat
 case atStart=>exact⟨0,aN,rfl,rfl⟩
 obtain⟨v,kk,rfl,rfl⟩:=hrel;have j4:=ek v;by_cases fa:v<q
 .have yv:=E.7.cell fa;have kf:(v:Int)<(q:Int):=oM;have kl:IntKind.i64.wrap (d v+1)=d v+1:=by rw[dF];omega
  by_cases i5:NE d v<d v+1
  .have bp:Hs (NE d (v+1)=d v+1):=Xa (by rw[NE];omega);generalize NE d v=kv at*;generalize d v=cv at*;go_wp2;exact⟨⟨v+1,oM,gM,by rw[bp.o]⟩,by simp[intOf];omega⟩
  have bp:Hs (NE d (v+1)=NE d v):=Xa (by rw[NE];omega);generalize NE d v=kv at*;generalize d v=cv at*;go_wp2;exact⟨⟨v+1,oM,gM,by rw[bp.o]⟩,by simp[intOf];omega⟩
 have fq:v=q:=oM;subst fq;have f5:=aq.cell (i:=0) vY;have f6:=aq.cell (i:=1) vY;have f7:=aq.cell (i:=2) vY;have lz:=aq.frozen;have fl:∀(W:World)(i j:Nat)(u:Value),i≠j->(W.setCell ⟨w.1.size+1,i,none⟩ u).cell? ⟨w.1.size+1,j,none⟩=W.cell? ⟨w.1.size+1,j,none⟩:=λW i j u A=>cJ λs=>A<|fI Addr.off s;go_wp2_with fail
 clear f5 f6 f7 lz fl;have bt:Hs ((((wr.setCell ⟨w.1.size+1,0,none⟩ (.int .i64 0)).setCell ⟨w.1.size+1,1,none⟩ (.slice (some ⟨g,0,none⟩) v cap)).setCell ⟨w.1.size+1,2,none⟩ (.int .i64 (NE d v))).rowIs (w.1.size+1) 43 3 (OX (.int .i64 0) (.slice (some ⟨g,0,none⟩) v cap) (.int .i64 (NE d v)))):=Xa ((((aq.set 0 _).set 1 _).set 2 _).congr (λi hi=>by match i,hi with|0,_=>rfl|1,_=>rfl|2,_=>rfl));have eq:Below w.1.size w wr:=⟨E.1.trans O.1,E.2.trans O.2,E.3.trans O.3,aJ O.4 E.4,λq' fb=>(E.6 q' (oN O.4) oM).trans (O.5 q' fb)⟩;have ca:(λL:World=>Hs (Below w.1.size w L)/\Hs (HK L g v cap d)) (((wr.setCell ⟨w.1.size+1,0,none⟩ (.int .i64 0)).setCell ⟨w.1.size+1,1,none⟩ (.slice (some ⟨g,0,none⟩) v cap)).setCell ⟨w.1.size+1,2,none⟩ (.int .i64 (NE d v))):=⟨Xa<|((eq.setCell gX _).setCell gX _).setCell gX _,(Xa<|((E.7.setOther (by show g≠w.1.size+1;omega) _).setOther (by show g≠w.1.size+1;omega) _).setOther (by show g≠w.1.size+1;omega) _)⟩;generalize (((wr.setCell _ _).setCell _ _).setCell _ _)=w9 at*;obtain⟨dl,dz⟩:=ca;have r0:=bt.cell (i:=0) vY;have r1:=bt.cell (i:=1) vY;have r2:=bt.cell (i:=2) vY;simp only[OX]at r0 r1 r2;refine cC (v:=.agg #[.int .i64 0,.slice (some ⟨g,0,none⟩) v cap,.int .i64 (NE d v)]) (by simp[results,results13,go_sem,r0,r1,r2]) rfl ?_;refine⟨af,HP,g,cap,?_⟩;rw[<-br.o,<-du.o];exact⟨rfl,dl,oM,dz⟩
theorem LT{v:Int}{e:Option Addr}{n c:Nat}{a:List Xe}{L B:Nat}{w:World}(ha:Hs (Xp w L B e a))(I:Hs (n=a.length))(F:Hs (a.length+Xx a<=1048576))(E:B<=w.1.size)(H:Ft v a≠0):
 Calls prog 13 #[.agg #[.int .i64 v,.slice e n c]] w λf O=>f=.returned (.agg #[.int .i64 (Ft v a),.slice none 0 0,.int .i64 0])/\Below w.1.size w O:=by
 have r:=Xa λW (s:Below w.1.size w W)=>KT v c (Xa<|ha.keep (s.mono E)) I F (oN s.4);have P:(Ft v a==0)=false:=by simpa using H
 generalize Ft v a=V at*
 go_in
 go_wp2_with fail
 have k:(λb:World=>Below w.1.size w b/\w.1.size+2<=b.1.size/\Hs (b.1[w.1.size+1]?=some (.cells #[Hp 0,Hq,Hp 0] 43))) ((w.alloc<|.cells #[Hp v,.slice e n c] 37).alloc (.cells #[Hp 0,Hq,Hp 0] 43)):=⟨Xb (Xb (Below.refl _ _) _) _,sP,(Xa (by
  have:=World.alloc_heap_new (w.alloc<|.cells #[Hp v,.slice e n c] 37) (.cells #[Hp 0,Hq,Hp 0] 43);rwa[aO]at this))⟩
 generalize (w.alloc _).alloc _=R at*;let⟨l,Q,q⟩:=k;refine(r _ l).mono ?_;rintro f p⟨rfl,m⟩;have z:=Xa<|Xg l m;have d:Hs (p.rowIs (w.1.size+1) 43 3 (OX (Hp 0) Hq (Hp 0))):=Xa ⟨_,(m.5 _ oM).trans q,rfl,λi o=>by match i,o with|0,_=>rfl|1,_=>rfl|2,_=>rfl⟩;have J:=d.cell (i:=0) vY;have K:=d.cell (i:=1) vY;have M:=d.cell (i:=2) vY;have N:=d.frozen;have G:∀(W:World)(i j:Nat)(y:Value),i≠j->(W.setCell (Hk (w.1.size+1) i) y).cell? (Hk (w.1.size+1) j)=W.cell? (Hk (w.1.size+1) j):=λW i j y D=>cJ λf=>D<|fI Addr.off f;go_wp2_with fail
 have k:(λb:World=>Hs (b.rowIs (w.1.size+1) 43 3 (OX (Hp V) Hq (Hp 0)))/\Hs (Below w.1.size w b)) (((p.setCell (Hk (w.1.size+1) 0) (Hp V)).setCell (Hk (w.1.size+1) 1) Hq).setCell (Hk (w.1.size+1) 2) (Hp 0)):=⟨(Xa<|(((d.set 0 _).set 1 _).set 2 _).congr (λi o=>by match i,o with|0,_=>rfl|1,_=>rfl|2,_=>rfl)),Xa<|((z.setCell gX _).setCell gX _).setCell gX _⟩;generalize (((p.setCell _ _).setCell _ _).setCell _ _)=S at*;let⟨h,A⟩:=k;have t:=h.cell (i:=0) vY;have u:=h.cell (i:=1) vY;have x:=h.cell (i:=2) vY;simp only[OX]at t u x;exact cC (v:=.agg #[Hp V,Hq,Hp 0]) (by simp[results,results13,go_sem,t,u,x]) rfl ⟨rfl,A⟩
end
end Go.Proofs.YtcfdhbigppockaaGreatDoor
