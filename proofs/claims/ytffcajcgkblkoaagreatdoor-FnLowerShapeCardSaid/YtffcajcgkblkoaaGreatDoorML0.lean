import Derived.Test.YtffcajcgkblkoaaGreatDoorPL2
import Derived.Test.YtffcajcgkblkoaaGreatDoorDG1
namespace Go.Proofs.YtffcajcgkblkoaaGreatDoor
set_option maxHeartbeats 8000000
set_option maxRecDepth 100000
open Go.RowKit Go.Proofs.Tryz
variable{E:Array Value}{l:List Int}{s:List Nat}{y Y:List Value}{x:List Xe}{n m k B g i j c:Nat}{a A:Value}{w v u:World}
section
def ZN(w:World)(G n:Nat)(P:Nat->List Int)(U:Nat->Value):Prop :=
 w.rowIs G 69 n U/\(∀i,i<n->w.ownsRow (G+1) 2 1 (U i) (P i).length ((P i).map (Value.int .i64)))/\(∀i j,i<n->j<n->i≠j->(U i).ownBlock=none\/(U i).ownBlock≠(U j).ownBlock)
theorem ZN.alloc{w:World}{G n:Nat}{P:Nat->List Int}{U:Nat->Value}(h:ZN w G n P U)(o:Obj):ZN (w.alloc o) G n P U:=⟨h.1.alloc o,λi a=>(h.2.1 i a).alloc o,h.2.2⟩
theorem ZN.below{w a:World}{G n:Nat}{P:Nat->List Int}{U:Nat->Value}(h:ZN w G n P U)(k:Below w.heap.size w a):ZN a G n P U:=by
 refine⟨h.1.of_block<|k.block _ h.1.lt,λi d=>?_,h.2.2⟩;refine(h.2.1 i d).kept (row:=none) ⟨k.os,k.tape,k.output,k.size,λb c _=>k.block b c⟩ ?_;cases (U i).ownBlock<;>simp
theorem ZN.congr{w:World}{G n:Nat}{P P':Nat->List Int}{U:Nat->Value}(h:ZN w G n P U)(e:∀i,i<n->P i=P' i):ZN w G n P' U :=
 ⟨h.1,λi a=>by rw[<-e i a];exact h.2.1 i a,h.2.2⟩
theorem ZN.step{w k:World}{G n:Nat}{P:Nat->List Int}{U:Nat->Value}(h:ZN w G n P U){t:Nat}(p:t<n)(x:Int)(b:Value)(o:w.grownBy k (U t).ownBlock)
 (s:k.ownsRow (G+1) 2 1 b ((P t).length+1) ((P t).map (Value.int .i64)++[.int .i64 x])) (l:b.ownBlock=(U t).ownBlock\/b.ownBlock=some w.heap.size) :
 ZN (k.setCell ⟨G,t,none⟩ b) G n (λi=>if i=t then P t++[x]else P i) (λi=>if i=t then b else U i):=by
 have u:=h.1.of_block (o.block _ h.1.lt λe=>by have:=((h.2.1 t p).lt _ e.symm).1;omega);refine⟨u.set t b,λi a=>?_,λi j a d c=>?_⟩
 .refine ownsRow_setCell_below ?_ (by dsimp only;omega) _;by_cases e:i=t
  .subst e;simp only[gG,aQ,bA,bO,bG,eH,fZ];exact s
  simp only[e,fD];exact(h.2.1 i a).kept o (h.2.2 i t a p e)
 have fresh:∀m,m<n->(U m).ownBlock=none\/(U m).ownBlock≠some w.heap.size:=λm r=>by
  by_cases e:(U m).ownBlock=some w.heap.size;·have:=((h.2.1 m r).lt _ e).2;omega
  exact aZ e
 by_cases e1:i=t
 .subst e1;have e2:¬j=i:=λe=>c e.symm;simp only[gG,e2,fD];rcases l with q|q;·rw[q];exact h.2.2 i j a d c
  right
  rw[q];intro g;rcases fresh j d with f|f;·rw[f]at g;cases g
  exact f g.symm
 simp only[e1,fD];by_cases e2:j=t
 .subst e2;simp only[gG];rcases l with q|q;·rw[q];exact h.2.2 i j a d c
  rw[q];exact fresh i a
 simp only[e2,fD];exact h.2.2 i j a d c
theorem ZN.ints{w:World}{G n:Nat}{P:Nat->List Int}{U:Nat->Value}(h:ZN w G n P U):XR w G w.heap.size (some ⟨G,0,none⟩) ((List.range n).map P):=λi a=>by
 simp only[bK,gI]at a;let⟨b,c,d,ha⟩:=Xk<|h.2.1 i a;refine⟨G,0,rfl,⟨aA _,h.1.lt⟩,b,c,?_,?_⟩
 .simp only[cM,dW,aV];rw[h.1.cell a,d]
 simp only[cM,dW];exact ha.mono oM<|aA _
theorem ZN.born(w:World)(n:Nat):ZN (w.alloc<|.cells (madeCells #[.slice none 0 0] n) 69) w.heap.size n (λ_=>[]) (λ_=>.slice none 0 0) :=
 ⟨dG _ _ _ _,λ_ _=>dA _ _ _ _,λ_ _ _ _ _=>bC rfl⟩
variable {tg: Nat -> List Nat}
open Classical in
noncomputable def UN(tg:Nat->List Nat)(k b:Nat):List Int:=Xi<|(List.range k).filter λa=>decide (JO tg a b)
open Classical in
theorem qi(k b:Nat):UN tg (k+1) b=UN tg k b++(if JO tg k b then [(k:Int)]else []):=by
 unfold UN;rw[dN,eU,iW,jX];by_cases h:JO tg k b;·rw[aU (by simpa using h),aU h];simp[Xi]
 rw[aM (by simpa using h),aM h];simp[Xi]
theorem BU(k b:Nat):(UN tg k b).length<=k:=by
 unfold UN;rw[Y0];exact aJ (fJ _ _) sP
theorem zD{k:Nat}(h:¬Re tg k)(b:Nat):UN tg (k+1) b=UN tg k b:=by
 rw[qi,aM λd=>h d.ra,fF]
noncomputable def Zy(tg:Nat->List Nat)(F a:List Nat)(k i b:Nat):List Int:=UN tg k b++(if b∈F.take i/\b∉a then [(k:Int)]else [])
theorem ye(F a:List Nat)(k b:Nat):Zy tg F a k 0 b=UN tg k b:=by
 unfold Zy;rw[aM sP,fF]
theorem yL(F a:List Nat)(k i b:Nat):(Zy tg F a k i b).length<=k+1:=by
 unfold Zy;have:=BU (tg:=tg) k b;rw[aQ];split<;>simp<;>omega
theorem Kx{F:List Nat}{i b:Nat}(a:i<F.length):b∈F.take (i+1)↔b∈F.take i\/b=F[i]:=by
 rw[bN a,bU,cS]
theorem BF{F a:List Nat}{k i:Nat}(c:i<F.length)(h:F[i]∈a)(b:Nat):Zy tg F a k (i+1) b=Zy tg F a k i b:=by
 unfold Zy;by_cases e:b=F[i];·rw[aM (λq=>q.2<|by rw[e];exact h),aM λq=>q.2<|by rw[e];exact h]
 by_cases q:b∈F.take i/\b∉a;·rw[aU ⟨(Kx c).2 (bC q.1),q.2⟩,aU q]
 rw[aM λr=>q ⟨((Kx c).1 r.1).resolve_right e,r.2⟩,aM q]
theorem zH{F a:List Nat}{k i:Nat}(d:F.Nodup)(c:i<F.length)(h:F[i]∉a)(b:Nat):Zy tg F a k (i+1) b=if b=F[i]then Zy tg F a k i F[i]++[(k:Int)]else Zy tg F a k i b:=by
 have g:F[i]∉F.take i:=λq=>by
  have e:=(hH i F).symm;have f:F[i]∈F.drop i:=by rw[gZ c];exact cI
  rw[e,gW]at d;exact d.2.2 _ q _ f rfl
 by_cases e:b=F[i]
 .rw[aU e,e];unfold Zy;rw[aU ⟨(Kx c).2 (aZ rfl),h⟩,aM λq=>g q.1,fF]
 rw[aM e];unfold Zy;by_cases q:b∈F.take i/\b∉a;·rw[aU ⟨(Kx c).2 (bC q.1),q.2⟩,aU q]
 rw[aM λr=>q ⟨((Kx c).1 r.1).resolve_right e,r.2⟩,aM q]
theorem xN{F a:List Nat}{k:Nat}(hF:∀x,x∈F↔Re tg x)(c:∀x,x∈a↔Av tg k x)(e:Re tg k){i:Nat}(d:F.length<=i)(b:Nat):Zy tg F a k i b=UN tg (k+1) b:=by
 rw[qi];unfold Zy;rw[aW d];by_cases h:JO tg k b;·rw[aU ⟨(hF b).2 h.rb,λq=>h.no<|(c b).1 q⟩,aU h]
 rw[aM λq=>h ⟨e,(hF b).1 q.1,λr=>q.2<|(c b).2 r⟩,aM h]
end
theorem wN(B:Int)(u:Option Addr)(n c:Nat)(a:List Xe)(ap S:Nat)(w:World)(ha:Hs (Xp w ap S u a))(j:Hs (n=a.length))(hs:Hs (a.length+Xx a<=1048576))(hB:S<=w.heap.size)(hO:Hs (Uw w))(hT:Hs (T7 w))(hv:Hs (XJ ⟨B,a⟩=true)) :
 Calls prog 40 #[.agg #[Hp B,.slice u n c]] w λe Q=>∃U P x c1 y c2 g3 A c4,e=.returned (.agg #[Hl x n c1,Hl y n c2,Hl g3 n n,Hl A (XT P n 0).length c4])/\Below w.heap.size w Q/\YX (X8 a) n P/\Ck Q w.heap.size n U (λi:Nat=>AQ a 0 (i:Int)) (λz=>Xh (Zp a).1 z) P (XT P n 0) x c1 y c2 g3 A c4:=by
 have t:=Xa<|Wz hv;have ad:n<=1000:=oP t.n2 j.o;have ac:1<=n:=oP t.n1 j.o;have a5:=Xa λW (E:Below w.heap.size w W)=>JK B u n c a ap S W (Xa<|ha.keep (E.mono hB)) j hs (oN E.size) (Xa<|hO.keep E) (Xa<|hT.keep E);rw[hv.o]at a5;have b0:=Xa λW (E:Below w.heap.size w W)=>KF B u n c a ap S W (Xa<|ha.keep (E.mono hB)) j oM (oN E.size) (Xa<|by rw[j.o];exact t.ok)
 go_in
 go_wp2_with fail
 refine(a5 _<|Xb (Xb (Below.refl _ _) _) _).mono ?_;rintro e l⟨rfl,Z⟩;obtain⟨a9,eg⟩:=Hg Z;have k0:l.cell? (Hk w.heap.size 0)=some (Hp B):=by rw[a9 _ _<|by simp;omega];simp[go_sem]
 have k1:l.cell? (Hk w.heap.size 1)=some (.slice u n c):=by rw[a9 _ _<|by simp;omega];simp[go_sem]
 have bl:=Xa<|Xg (Xb (Xb (Below.refl w.heap.size w) _) _) Z;have gs:w.heap.size+2<=l.heap.size:=by have:=Z.size;simp at this;omega
 have b3:Hs (l.rowIs (w.heap.size+1) 99 4 λ_=>Hq):=Xa (by
  have r:=eK (w.alloc<|.cells #[Hp B,.slice u n c] 25) #[Hq,Hq,Hq,Hq] 99 (λ_=>Hq) (λi o=>by
   match i,o with
   |0,_=>rfl
   |1,_=>rfl
   |2,_=>rfl
   |3,_=>rfl)
  rw[aO]at r;exact r.of_block<|Z.block _ sP)
 go_wp2_with fail
 refine(b0 l bl).mono ?_;rintro e G⟨U,rfl,L,hU⟩;have K0:=Xa k0;have K1:=Xa k1;have T:=Xa<|Xg bl L;have v:=Xa hU;have gt:=L.size;have dj:=Xa<|b3.of_block (L.block _ b3.lt);have q0:=(XU L oM).trans k0;have q1:=(XU L oM).trans k1;go_wp2_with fail
 refine(Ki B u n c G ad).mono ?_;rintro e H⟨q,D,rfl,fl,ge,a7,cx⟩;have I:=Xa a7;have b5:=Xa cx;have gx:=a7.size;have d5:(n+63)/64<=100:=oM;have ea:n<=64*((n+63)/64):=oM;generalize (n+63)/64=X at*;have HC:Hs (G.cell? (Hk w.heap.size 0)=some (Hp B)/\G.cell? (Hk w.heap.size 1)=some (.slice u n c)):=Xa ⟨q0,q1⟩;have cb:=Xa<|ha.keep ((Xg T I).mono hB);have b8:=Xa (VY q D H.heap.size X n c u a ap S j ad ea d5 oM oM oM (Xa<|by rw[j.o];exact t.tgt) a.length 0 (λ_=>0) Hq [] H b5 cb ac (Xa<|by rw[j.o];exact ZA _ _) (Xa KW) (by simp only[bO,aV];exact ZA _ _));go_wp2_with fail
 refine b8.mono ?_;rintro e w4⟨rfl,v4,M,p⟩;have b6:Hs (YW w4 q D H.heap.size X u n c (Zp a).1 v4 (Zp a).2):=Xa (by unfold Zp;exact p);have p:=b6.o;have cm:=λk hk=>(M.block k oM oM oM λe=>by cases e).trans (I.block k hk)
 have V:Hs (Below G.heap.size G w4):=Xa ⟨M.os.trans I.os,M.tape.trans I.tape,M.output.trans I.output,oN M.size,cm⟩;have bf:0<(Zp a).2.length/\(Zp a).2.length<=1000:=by
  have h1:=t.ord_len;have h2:(Ja a).length=(Zp a).2.length:=by simp[Ja]
  have:=t.n2;omega
 obtain⟨gL,cL,rfl,⟨gb,gc⟩,ef⟩:=Xm p.own bf.1;have bw:Hs (Je (Zp a).2=(Xi (Zp a).2).map (Value.int .i64)):=Xa (by simp[Je,Xi]);have bx:Hs ((Xi (Zp a).2).reverse=Xi (Ja a)):=Xa (by simp[Ja,Xi]);have bv:Hs ((Zp a).2.length=(Ja a).length):=Xa (by simp[Ja]);have bq:Hs (w4.ownsRow H.heap.size 2 1 (Hl gL (Zp a).2.length cL) (Zp a).2.length ((Xi (Zp a).2).map (Value.int .i64))):=Xa (by rw[<-bw.o];exact p.own);have b1:Hs ((Zp a).2.length=(Xi (Zp a).2).length):=Xa (by simp[Xi]);have c2:=p.c2;have c1:=p.c1;have a1:=Xa p.row;have gm:=p.ne;have gi:=p.lb;have gl:=p.lg;generalize (Zp a).2.length=F at*;go_wp2_with fail
 refine(TM gL F cL H.heap.size (Xi (Zp a).2) w4 oM b1 bq).mono ?_;rintro e R⟨rfl,O,ba⟩;rw[bx.o]at ba;have br:=Xa ba;have aj:=Xa (V.grown O V.size λk e=>by cases e;omega);have du:=(bZ (a:=(Hk q 2)) (O.block q (oN V.size) λe=>by injection e with e;omega)).trans c2;have cd:=(bZ (a:=(Hk q 1)) (O.block q (oN V.size) λe=>by injection e with e;omega)).trans c1;have ao:=Xa (a1.of_block<|O.block D (oN a1.lt) λe=>by injection e with e;omega);have gz:=O.size;go_wp2_with fail
 have dl:Hs (((List.range n).map λi:Nat=>AQ a 0 (i:Int))=((List.range n).map (XX a n)).map Xi):=Xa (by
  rw[jO];apply gH;intro b _;rw[Function.comp,j.o];exact K9 (λaz j c7 ht=>(t.tgt az j c7 ht).1) b)
 have b7:Hs (XR R (l.heap.size+1) G.heap.size (some ⟨l.heap.size+1,0,none⟩) (((List.range n).map (XX a n)).map Xi)):=Xa (by rw[<-dl.o];exact v.ints.keep aj);have bt:Hs (Xf R H.heap.size R.heap.size (some ⟨gL,0,none⟩) (Xi<|Ja a)):=Xa (by
  obtain⟨a',c',eu,ei⟩:=Xk br;injection eu with e1;rw[e1];exact ei)
 have bp:=Xa (xI (some ⟨l.heap.size+1,0,none⟩) n n gL 0 F cL ((List.range n).map (XX a n)) (Ja a) H.heap.size R.heap.size (l.heap.size+1) G.heap.size R b7 (Xa sP) bt bv ad ac bf.2 bf.1 ef (aA _) aj.size (Xa<|by rw[j.o];exact t.ord_len.2.2) (Xa (λg7 hl=>by
  obtain⟨b,_,rfl⟩:=aY.1 hl;exact⟨aJ qr oM,λc7 ht=>(Uf.1 ht).1⟩)))
 refine bp.mono ?_;rintro e f⟨d,Ws,rfl,gd,ab,cw,c6⟩;have C:Hs (YX (X8 a) n ((List.range n).map (VB Ws (Ja a) F))):=Xa (by
  have r:=t.idm (Ws:=Ws) (by rw[<-j.o];exact c6);rw[<-bv.o,<-j.o]at r;exact r)
 have a4:=Xa cw;have m:=Xa<|aj.trans (ab.mono aj.size);have g0:=ab.size;have d1:=oB ab cd (by show q<_;have:=V.size;omega);have db:=Xa<|ao.of_block (ab.block D ao.lt);have gf:=ao.lt;have fq:q<R.heap.size:=oM;have f0:=(XU m oM).trans HC.1;have f1:=(XU m oM).trans HC.2;have em:w.heap.size<f.heap.size:=oM;have d4:=λe8=>(bP f e8 (Hk w.heap.size 1) em).trans f1;go_wp2_with fail
 have bo:Hs (LX f (f.alloc<|.cells #[Hq,Hq,Hl d n n,Hq] 99) f.heap.size (Hl d n n) Hq U (λz=>.bool (Xh (Zp a).1 z)) 0 none 0 0 none 0):=Xa
  ⟨by simp[go_sem],by simp[go_sem],by simp[go_sem],by simp[go_sem],λF=>(eK f #[Hq,Hq,Hl d n n,Hq] 99 (λi=>#[Hq,Hq,Hl d n n,Hq].getD i undef) λi o=>by simp[Array.getElem?_eq_getElem o]).frozen F,Xb (Below.refl _ _) _,sP,rfl,dA _ _ _ _,dA _ _ _ _,bC rfl⟩
 go_loopw [32] (λaf wr=>∃(b:Nat)(p1:Option Addr)(c1:Nat)(p2:Option Addr)(c2:Nat),b<=n/\af=Hp b/\Hs (LX f wr f.heap.size (Hl d n n) Hq U (λz=>.bool (Xh (Zp a).1 z)) b p1 c1 b p2 c2)) λaf _=>n-(intOf af).toNat
 case atStart=>exact⟨0,none,0,none,0,aN _,rfl,bo⟩
 obtain⟨b,p1,c1,p2,c2,fr,rfl,h⟩:=hrel;by_cases cv:b<n
 .have gr:=h.lt;have m0:=h.e0;have mz:=h.thaw 0;have mU:=((h.bel).cell (p:=Hk (l.heap.size+1) b) (by show l.heap.size+1<_;have:=v.1.lt;have:=m.size;omega)).trans (oB m (v.1.cell cv) (by show l.heap.size+1<_;exact v.1.lt));obtain⟨ua,uc,a6,_⟩:=Xk<|v.2.1 b cv;have dn:=Xa a6;rw[a6]at mU;generalize (AQ a 0 (b:Int)).length=ul at*;obtain⟨i1,ej,e0,e6,e7⟩:=Xq Ns;go_wp2_with fail
  have eb:l.heap.size+1<f.heap.size:=oP v.1.lt m.size;have ec:l.heap.size+1≠f.heap.size:=oM;have ar:q<f.heap.size:=oM;have ed:q≠f.heap.size:=oM;have bi:=Xa λW (r:Below f.heap.size f W)=>Jm D X b (Zp a).1 W (Xa<|j4 (X8 a) a.length 0 _ KW) (Xa<|db.of_block (r.block D oM)) oM oM;refine Y7 (λQ=>Q.cell? (Hk (l.heap.size+1) b)=some (.slice ua ul uc)) λhHeld=>?_;refine Xn 0 ?_;refine Xn 2 ?_;refine Xn 3 ?_;refine Xn 4 ?_;refine Xn 5 ?_;refine Xn 6 ?_;refine eS (rs:=[1,7]) kR sP ?_;refine(bQ rfl (λK hK=>?_) (bQ rfl (λK hK=>?_) dY));go_simp;refine hK _ _ kP λhHeld=>?_
  try simp only[xX]
  refine Xs 7 λK hK=>?_;go_simp;refine hK _ _ kP λhHeld=>?_;rotate_left;go_simp;refine hK _ _ kP λhHeld=>?_
  try simp only[xX]
  refine Xs 1 λK hK=>?_;go_simp;refine hK _ _ kP λhHeld=>?_
  all_goals (
   refine Xs 8 λK hK=>?_;refine dm rfl _ _ 65 rfl (f.heap.size+1) 69 i1 (.agg #[Hq]) 1 24 underlying65 ej e0 e6 e7 rfl vZ (.slice p1 b c1) b ((List.range b).map U) rfl ?s1 (Hk wr.heap.size 0) 1 1 [.slice ua ul uc] rfl rfl ?s2 ?s3 ?s4 ?s5 ?s6 ?_
   case s1=>exact(qQ h.o1).alloc _
   case s2=>exact Yf _ _ _
   case s3=>intro af hu;simp at hu;subst hu;rfl
   case s4=>unfold maxLen;omega
   case s5=>omega
   case s6=>simp;omega
   intro v8 w8 bd cs _ cl;obtain⟨g8,c8,rfl,ga,_⟩:=Xm bd oM;obtain⟨cj,cf,ch,cp⟩:=(h.below (Below.refl wr.heap.size wr).drew).app1 cs (by rw[dn.o];exact bd) (by simpa using cl);have z0:=(cf 0).trans h.e0;have zf:=ch 0;have zU:=oB cp mU eb;have g:=Xa cj;refine hK _ _ zU λhHeld=>?_;refine Xn 9 ?_;refine Xs 10 λK hK=>?_;go_simp;refine hK _ _ ((Xc<|Below.heap_setCell _ _ _ _ ec).trans zU) λhHeld=>?_;refine Yq ?_;generalize w8.setCell _ _=w9 at*;have al:=Xa<|g.below (Below.refl w9.heap.size w9).drew;have x1:=g.e1;have xl:=g.lt;have xS:=oB g.bel d1 ar;obtain⟨i2,ek,ev,ey,ez⟩:=Xq No;go_wp2_with fail
   refine Y7 (λQ=>Q.cell? (Hk q 1)=some (Hl D X X)) λhHeld=>?_;refine Xn 0 ?_;refine Xn 2 ?_;refine Xn 3 ?_;refine Xn 4 ?_;refine Xn 5 ?_;refine Xn 6 ?_;refine eS (rs:=[1,7]) kR sP ?_;refine(bQ rfl (λK hK=>?_) (bQ rfl (λK hK=>?_) dY));go_simp;refine hK _ _ kP λhHeld=>?_
   try simp only[xX]
   refine Xs 7 λK hK=>?_;go_simp
   go_at_call 78
   refine(bi _ al.bel).mono ?_;rintro e c9⟨rfl,aa⟩;have s:=Xa<|al.below aa;have y1:=s.e1;have yl:=s.lt;have yS:=oB s.bel d1 ar;refine hK _ _ yS λhHeld=>?_;refine Xs 8 λK hK=>?_;go_simp;refine hK _ _ kP λhHeld=>?_;rotate_left;go_simp
   go_at_call 78
   refine(bi _ al.bel).mono ?_;rintro e c9⟨rfl,aa⟩;have s:=Xa<|al.below aa;have y1:=s.e1;have yl:=s.lt;have yS:=oB s.bel d1 ar;refine hK _ _ yS λhHeld=>?_
   try simp only[xX]
   refine eS (rs:=[1,8]) kR sP ?_;refine(bQ rfl (λK hK=>?_) (bQ rfl (λK hK=>?_) dY));go_simp;refine hK _ _ kP λhHeld=>?_
   try simp only[xX]
   refine Xs 8 λK hK=>?_;go_simp;refine hK _ _ kP λhHeld=>?_;rotate_left;go_simp;refine hK _ _ kP λhHeld=>?_
   try simp only[xX]
   refine Xs 1 λK hK=>?_;go_simp;refine hK _ _ kP λhHeld=>?_
   all_goals (
    refine Xs 9 λK hK=>?_;refine dm rfl _ _ 97 rfl (f.heap.size+1) 4 i2 (.bool false) 1 1 underlying97 ek ev ey ez rfl vZ (.slice p2 b c2) b ((List.range b).map λz=>.bool (Xh (Zp a).1 z)) rfl ?s1 (Hk c9.heap.size 0) 1 1 [.bool (Xh (Zp a).1 b)] rfl rfl ?s2 ?s3 ?s4 ?s5 ?s6 ?_
    case s1=>exact s.o2.alloc _
    case s2=>exact Yf _ _ _
    case s3=>intro af hu;simp at hu;subst hu;rfl
    case s4=>unfold maxLen;omega
    case s5=>omega
    case s6=>simp;omega
    intro g9 fa bc cr _ ck;obtain⟨fi,ds,rfl,fx,_⟩:=Xm bc oM;obtain⟨ci,ce,cg,co⟩:=s.app2 cr bc (by simpa using ck);have z0:=(ce 1).trans s.e1;have zf:=cg 1;have zS:=oB co yS ar;have da:=Xa ci;refine hK _ _ zS λhHeld=>?_;refine Xn 10 ?_;refine Xs 11 λK hK=>?_;go_simp;refine hK _ _ ((Xc<|Below.heap_setCell _ _ _ _ ed).trans zS) λhHeld=>?_;refine Yq ?_;generalize fa.setCell _ _=hd at*;go_wp2
    exact⟨⟨b+1,_,c8,_,ds,oM,gM,da⟩,by simp[intOf];omega⟩))
 have ee:n=b:=oM
 subst ee;have m2:=h.e2;have ml:=h.lt;obtain⟨P,hP⟩:∃P,P=(List.range n).map (VB Ws (Ja a) F):=⟨_,rfl⟩;rw[<-hP]at C;have a2:=Xa C.len.symm;have di:Hs (∀z,z<n->P.getD z 0=VB Ws (Ja a) F z):=Xa (λz hz=>by rw[hP];simp[hz]);have b4:Hs (wr.rowIs d 2 n λz=>Hp<|P.getD z 0):=Xa ((a4.of_block<|h.bel.block d a4.lt).congr λz hz=>by rw[di.o z hz]);have ct:=a4.lt;have dc:Hs (Xf wr d (d+1) (some ⟨d,0,none⟩) P):=Xa (λi o=>by
  have el:i<n:=oN a2.o
  refine⟨d,0,rfl,⟨aA _,iJ _⟩,?_⟩;rw[aV,b4.cell el];simp[o])
 have a3:Hs (∀az,Re (X8 a) az->az<n):=Xa (by rw[j.o];exact t.re);have df:=Xa λe9 hp=>(AH C a3 e9 hp).2;have bn:=Xa<|vX (some ⟨d,0,none⟩) n n P d (d+1) wr dc a2 ad oM df;go_wp2_with fail
 refine bn.mono ?_;rintro e w7⟨ca,cc,rfl,aq,cq⟩;have bz:=Xa (wU ca n cc P wr.heap.size w7.heap.size w7.heap.size a2 ad (aA _) (λb=>(Zq (X8 a) n b).length) (Xa λb c hc=>nR C a3 hc) (Xa λb=>oL n b) n 0 Hq [] w7 (Xa cq) (Xa<|dA _ _ _ _) (aA _) ac (Xa oM) (by have:=sV C a3 n 0 Re.root;simp only[bO];omega));have fb:=Xa aq;have a0:=Xa<|h.below aq;have g5:=aq.size;have m3:=a0.e3;have mz:=a0.thaw 3;go_wp2_with fail
 refine bz.mono ?_;rintro e w8⟨v8,rfl,N,ay⟩;have bm:Hs (Below w7.heap.size w7 w8):=Xa ⟨N.os,N.tape,N.output,N.size,λk hk=>N.block k hk λe=>by cases e⟩;have es:0<(XT P n 0).length:=by cases n<;>simp[XT]
 rw[dR]at ay;obtain⟨A,c4,rfl,f7,_⟩:=Xm ay es;have dd:=Xa ay;have g:=Xa<|a0.below bm;have t0:=g.e0;have t1:=g.e1;have t2:=g.e2;have t3:=g.e3;have tz:=g.thaw 3;have g6:=bm.size;have Y:=Xa g.bel;obtain⟨x,k1,e1,fs,_⟩:=Xm g.o1 ac;obtain⟨y,k2,e2,fz,_⟩:=Xm g.o2 ac;injection e1 with dw fc d0;injection e2 with d2 fe d3;subst dw;subst d2;subst d0;subst d3;have gg:=(h.o1.lt x rfl).2;have gh:=(h.o2.lt y rfl).2;generalize hQ:(XT P n 0).length=ql at*;have J:=dj.of_block<|(Y.block _ oM).trans (m.block _ oM);have y0:=J.cell (i:=0) vZ;have y1:=J.cell (i:=1) vZ;have y2:=J.cell (i:=2) vZ;have y3:=J.cell (i:=3) vZ;have yf:=J.frozen;have gp:f.heap.size≠w.heap.size+1:=oM;have ep:w.heap.size+1≠f.heap.size:=oM;have dk:=Xa J;go_wp2_with fail
 obtain⟨wE,hE⟩:∃wE,wE=((((w8.setCell (Hk f.heap.size 3) (Hl A ql c4)).setCell (Hk (w.heap.size+1) 0) (Hl x n c1)).setCell (Hk (w.heap.size+1) 1) (Hl y n c2)).setCell (Hk (w.heap.size+1) 2) (Hl d n n)).setCell (Hk (w.heap.size+1) 3) (Hl A ql c4):=⟨_,rfl⟩;rw[<-hE];obtain⟨z0,z1,z2,z3,ax,gq,eq,et,er⟩:=Fi dk ep _ _ _ _ _ wE hE;refine cC (v:=.agg #[Hl x n c1,Hl y n c2,Hl d n n,Hl A ql c4]) (by simp[results,results40,go_sem,z0,z1,z2,z3]) rfl ?_;subst hQ;have a8:=λk h1 h2=>(ax k oM h2).trans (Y.block k h1);have cz:=λi o k e=>(v.2.1 i o).lt k e;have gv:=m.size;refine⟨U,P,x,c1,y,c2,d,A,c4,rfl,?_,C,C.len,?_,?_,?_,?_,?_,?_,?_,?_⟩;·exact⟨eq.trans<|Y.os.trans (m.os.trans T.os),et.trans<|Y.tape.trans (m.tape.trans T.tape),er.trans<|Y.output.trans (m.output.trans T.output),oM,λk hk=>(a8 k oM oM).trans ((m.block k oM).trans (T.block k hk))⟩
 .exact jy g.o1 oM λk e=>by cases e;exact ax x oM oM
 .exact jy g.o2 oM λk e=>by cases e;exact ax y oM oM
 .exact b4.of_block<|(a8 d ct oM).trans (h.bel.block d ct).symm
 .exact jy dd oM λk e=>by cases e;exact ax A oM oM
 .exact λi o=>jy (v.2.1 i o) oM λk e=>by have:=cz i o k e;exact(a8 k oM oM).trans (m.block k oM)
 .exact v.2.2
 .refine⟨oM,λe=>?_,oM,oM,oM,oM,oM⟩;rcases g.dj with r|r;·cases r
  exact r<|by rw[e];rfl
 exact λi o k e=>by have:=cz i o k e;omega
theorem Ur(a f d b h n c:Int)(w:World) :
 Calls prog 45 #[.agg #[Hp a,Hp f,Hp d,Hp b,Hp h],Hp n,Hp c] w λe k=>e=.returned (.bool (Yw n c ⟨a,f,d,b,h⟩))/\Below w.heap.size w k:=by
 by_cases j:1<=a/\a<=c
 .let⟨g,l⟩:=j
  go_in
  go_wp2_with fail
  refine(ix _ _).mono ?_;rintro e i⟨rfl,rfl⟩;go_wp2_with fail
  refine(kh _ _).mono ?_;rintro e i⟨rfl,rfl⟩;go_wp2_with fail
  refine(oH _ _).mono ?_;rintro e i⟨rfl,rfl⟩;go_wp2
  all_goals
   go_ret;refine⟨Xl ?_,Xb (Below.refl _ _) _⟩
   first|(simp[Yw,Tp,Wu, *];done)|(simp[Yw,Tp,Wu, *];omega)|(rw[eQ];simp[Yw,Tp,Wu, *];omega)
 go_in
 go_wp2
 all_goals
  go_ret;refine⟨Xl ?_,Xb (Below.refl _ _) _⟩;symm;unfold Yw;by_cases g:1<=a;·rw[dJ (p:=a<=c) oM];simp
  rw[dJ (p:=1<=a) g];simp
section
attribute [local go_sem ↓] Go.wp_at_zero Go.wp_at_succ
def KV(v:Int)(n:Nat)(x:Xe):Bool:=x.is.all (Yw v 10)&&Jf v n x.te
theorem CV(F:Fn):(Z0 F&&J2 F)=F.blocks.all (KV F.values F.blocks.length):=by
 rw[show F.blocks.all (KV F.values F.blocks.length)=F.blocks.all (λx=>x.is.all (Yw F.values 10)&&Jf F.values F.blocks.length x.te)from rfl,sH];rfl
theorem wG(v:Int)(b:Option Addr)(n c:Nat)(a:List Xe)(L B:Nat)(w:World)(ha:Hs (Xp w L B b a))(q:Hs (n=a.length))(p:n<=1048576)(m:Hs (Xo a<=1048576))(k:B<=w.heap.size)
 (j:Hs (¬(0<=v/\v<=2000/\1<=n/\n<=1000/\Xo a<=4000))) :
 Calls prog 18 #[.agg #[Hp v,.slice b n c]] w λg r=>g=.returned (.bool false)/\Below w.heap.size w r:=by
 by_cases h:0<=v/\v<=2000/\1<=n/\n<=1000
 .let⟨s,e,f,i⟩:=h;have t:4000<Xo a:=oN j.o
  go_in
  go_wp2_with fail
  refine(pO v b n c a L B _ ?q1 q p m ?q2).mono ?_
  case q1=>exact ha.keep (Xb (Below.refl _ _) _ |>.mono k)
  case q2=>simp;omega
  rintro g u⟨rfl,l⟩;go_wp2;go_ret;exact⟨rfl,Xg (Xb (Below.refl _ _) _) l⟩
 have o:v<0\/(0<=v/\2000<v)\/(0<=v/\v<=2000/\n<1)\/(0<=v/\v<=2000/\1<=n/\1000<n):=oM;rcases o with d|⟨d,e⟩|⟨d,e,f⟩|⟨d,e,f,i⟩
 all_goals
  go_in
  go_wp2;go_ret;exact⟨rfl,Xb (Below.refl _ _) _⟩
end
section
attribute [local go_sem ↓] Go.wp_at_zero Go.wp_at_succ
theorem vW(m:Nat)(ad:Option Addr)(n c:Nat)(a:List Xe)(ac K:Nat)(w:World)(a8:Bool)(ha:Hs (Xp w ac K ad a))(v:Hs (n=a.length))(hs:Hs (a.length+Xx a<=1048576))(hB:K<=w.heap.size)
 (d1:(m:Int)<=2000) (d2:1<=n) (d3:n<=1000) (cr:Xo a<=4000) (p:Hs (a8=(a.all (KV m n)&&Ug ⟨m,a⟩&&Ui ⟨m,a⟩))) :
 Calls prog 18 #[.agg #[Hp m,.slice ad n c]] w λl w'=>l=.returned (.bool a8)/\Below w.heap.size w w':=by
 have b6:Hs (Xo a<=1048576):=by show _<=_;omega
 have bl:=Xa<|pH hs
 go_in
 go_wp2_with fail
 refine(pO m ad n c a ac K _ ?q1 v oM b6 ?q2).mono ?_
 case q1=>exact ha.keep (Xb (Below.refl _ _) _ |>.mono hB)
 case q2=>simp;omega
 rintro l z⟨rfl,aj⟩;let⟨a0,b8⟩:=Hg aj;have r:z.cell? (Hk w.heap.size 0)=some (Hp m):=by rw[a0 _ _ sP];simp
 have F:z.cell? (Hk w.heap.size 1)=some (.slice ad n c):=by rw[a0 _ _ sP];simp
 have B1:=Xg (Xb (Below.refl w.heap.size w) _) aj;have cf:=aj.size;simp at cf;have o:=Xa B1;have HA:=Xa<|ha.keep (B1.mono hB);clear a0 b8 aj B1 ha;go_wp2
 go_loopw [4] (λi wr=>∃k:Nat,k<=n/\i=Hp k/\Below z.heap.size z wr/\Hs ((a.take k).all (KV m n)=true)) λi _=>n-(intOf i).toNat
 case atStart=>exact⟨0,aN _,rfl,Below.refl _ _,rfl⟩
 obtain⟨k,hk,rfl,e,C⟩:=hrel;by_cases bm:k<n
 .have u:k<a.length:=oN v.o;obtain⟨b,cg,rfl,⟨_,b4⟩,hc⟩:=HA k u;let⟨a5,a6,ia,ic,L,f1,⟨f2,f3,f4,f5⟩,_,T⟩:=hc;have e0:=(XU e oM).trans L;have e1:=(XU e oM).trans f1;have e2:=(XU e oM).trans f2;have e3:=(XU e oM).trans f3;have e4:=(XU e oM).trans f4;have e5:=(XU e oM).trans f5;have ao:=(XU e oM).trans r;have ap:=(XU e oM).trans F;have ci:=(bl _<|aH u).2.1;have V:=Xa λh=>JN (p:=KV m n) (xs:=a) (k:=k) u h;have a3:=Xa λh=>XY (p:=KV m n) u C h;have HI:=Xa T;have cd:=e.size;clear T L f1 f2 f3 f4 f5;generalize a[k]=X at*;have af:Hs (KV m n X=(X.is.all (Yw m 10)&&(Zu m 1 n ⟨X.te.kind,X.te.a,X.te.to,X.te.els⟩&&!(X.te.kind==2&&X.te.to==X.te.els)))):=rfl;go_wp2;have d:=Xb e<|.cells #[.slice a5 X.ps.length a6,.slice ia X.is.length ic,Hp X.te.kind,Hp X.te.a,Hp X.te.to,Hp X.te.els] 46;have ay:(λs:World=>s.cell? (Hk wr.heap.size 1)=some (.slice ia X.is.length ic)/\s.cell? (Hk wr.heap.size 2)=some (Hp X.te.kind)/\s.cell? (Hk wr.heap.size 3)=some (Hp X.te.a)/\s.cell? (Hk wr.heap.size 4)=some (Hp X.te.to)/\s.cell? (Hk wr.heap.size 5)=some (Hp X.te.els)/\wr.heap.size<s.heap.size) (wr.alloc<|.cells #[.slice a5 X.ps.length a6,.slice ia X.is.length ic,Hp X.te.kind,Hp X.te.a,Hp X.te.to,Hp X.te.els] 46):=⟨sP,sP,sP,sP,sP,sP⟩;generalize wr.alloc _=W2 at*;let⟨m1,m2,m3,m4,m5,ct⟩:=ay;have br:=Xa d;have cv:=d.size;generalize wr.heap.size=bt at*;clear d e0 e1 e2 e3 e4 e5 ao ap e
  go_loopw [6] (λi wi=>∃j:Nat,j<=X.is.length/\i=Hp j/\Below W2.heap.size W2 wi/\Hs ((X.is.take j).all (Yw m 10)=true)) λi _=>X.is.length-(intOf i).toNat
  case atStart=>exact⟨0,aN _,rfl,Below.refl _ _,rfl⟩
  obtain⟨j,U,rfl,f,Q⟩:=hrel;have H:=Xg br f;have r0:=(XU H oM).trans r;have n1:=(XU f oM).trans m1;have cb:=f.size;by_cases t:j<X.is.length
  .obtain⟨b',o',rfl,⟨_,b5⟩,bc⟩:=HI j t;let⟨g0,g1,g2,g3,g4⟩:=bc.keep H oM;have I:=Xa λh=>JN (p:=Yw m 10) (xs:=X.is) (k:=j) t h;have a4:=Xa λh=>XY (p:=Yw m 10) t Q h;have cj:(0:Int)<=(j:Int):=oM;have ck:(j:Int)<(X.is.length:Int):=oM;clear bc m1 m2 m3 m4 m5 r F;generalize X.is[j]=P at*;cases hr:Yw m 10 ⟨P.op,P.dst,P.a,P.b,P.imm⟩
   .have g:=Xa hr;go_wp2
    go_region_with (go_at_call 45;refine(Ur _ _ _ _ _ _ _ _).mono ?_;rintro l J⟨rfl,d⟩;rw[Xw g])
    all_goals
     go_wp2;go_ret;exact⟨Xl (by rw[p.o,Xw V<|by rw[af.o,Xw I g.o];rfl];rfl),Xg o<|Xg H.drew d⟩
   have g:=Xa hr;go_wp2
   go_region_with (go_at_call 45;refine(Ur _ _ _ _ _ _ _ _).mono ?_;rintro l J⟨rfl,d⟩;rw[Xw g])
   all_goals
    go_wp2;exact⟨⟨j+1,oM,gM,Xg f.drew d,Xw a4 g⟩,by simp[intOf];omega⟩
  have b1:=Xa<|YE (p:=Yw m 10) (xs:=X.is) (k:=j) oM Q;have n2:=(XU f oM).trans m2;have n3:=(XU f oM).trans m3;have n4:=(XU f oM).trans m4;have n5:=(XU f oM).trans m5;clear m1 m2 m3 m4 m5 r F;cases hr:Zu m 1 n ⟨X.te.kind,X.te.a,X.te.to,X.te.els⟩
  .have g:=Xa hr;clear hr;go_wp2_with (go_at_call 46;refine(KS _ _ _ _ _ _ _ _).mono ?_;rintro l J⟨rfl,d⟩;rw[Xw g])
   go_ret;exact⟨Xl (by rw[p.o,Xw V<|by rw[af.o,g.o];simp];rfl),Xg o<|Xg H d⟩
  have g:=Xa hr;clear hr;by_cases hq:X.te.kind=2/\X.te.to=X.te.els
  .have q1:(X.te.kind==2)=true:=by simp[hq.1]
   have q2:(X.te.to==X.te.els)=true:=by simp[hq.2]
   clear hq;go_wp2_with (go_at_call 46;refine(KS _ _ _ _ _ _ _ _).mono ?_;rintro l J⟨rfl,d⟩;rw[Xw g];have p2:=oB d n2 oM;have p4:=oB d n4 oM;have p5:=(XU d oM).trans n5)
   go_ret;exact⟨Xl (by rw[p.o,Xw V<|by rw[af.o,q1,q2];simp];rfl),Xg o<|Xg H d⟩
  have ca:(X.te.kind==2)=false\/((X.te.kind==2)=true/\(X.te.to==X.te.els)=false):=by simp only[iS,iA];omega
  clear hq;rcases ca with q1|⟨q1,q2⟩
  all_goals
   go_wp2_with (go_at_call 46;refine(KS _ _ _ _ _ _ _ _).mono ?_;rintro l J⟨rfl,d⟩;rw[Xw g];have p2:=oB d n2 oM;have p4:=oB d n4 oM;have p5:=(XU d oM).trans n5)
   exact⟨⟨k+1,oM,gM,Xg H d,Xw a3 (by rw[af.o,g.o,b1.o];first|(rw[q1];rfl)|(rw[q1,q2];rfl))⟩,by simp[intOf];omega⟩
 have b0:=Xa<|YE (p:=KV m n) (xs:=a) (k:=k) (oN v.o) C;clear C;go_wp2
 go_loopw [7] (λi wr=>∃k:Nat,k<=n/\i=Hp k/\Below z.heap.size z wr/\Hs (∀j (h:j<a.length),j<k->a[j].ps.all (Jt m (AQ a 0 (j:Int)).length)=true)) λi _=>n-(intOf i).toNat
 case atStart=>exact⟨0,aN _,rfl,e,λj _ h=>absurd h oM⟩
 clear e bm hk;obtain⟨k,hk,rfl,e,C⟩:=hrel;have ao:=(XU e oM).trans r;have ap:=(XU e oM).trans F;have cd:=e.size;by_cases bm:k<n
 .have u:k<a.length:=oN v.o;obtain⟨b,cg,rfl,⟨_,b4⟩,hc⟩:=HA k u;let⟨a5,a6,ia,ic,L,_,_,W,_⟩:=hc;let⟨cm,_,bi⟩:=bl _<|aH u;have bq:=Xa bi;have V:Hs (a[k].ps.all (Jt m (AQ a 0 (k:Int)).length)=false->Ug ⟨m,a⟩=false):=λh=>Wg Jt ⟨m,a⟩ (k:=k) u h
  have a3:Hs (a[k].ps.all (Jt m (AQ a 0 (k:Int)).length)=true->∀j (h:j<a.length),j<k+1->a[j].ps.all (Jt m (AQ a 0 (j:Int)).length)=true) :=
   λh j U cl=>if l:j=k then by subst l;exact h else C j U oM
  have HP:=Xa W;have D0:=Xa L;have N:=Xa<|HA.keep (e.mono oM);have co:(AQ a 0 (k:Int)).length<=1048576:=oP (YO (k:Int) a 0) v.o;clear W L bi;go_wp2_with fail
  refine(ZE m _ n c k a ac K _ N v oM oM).mono ?_;rintro l J⟨a2,c2,rfl,d,al⟩;have E:=Xg e d;have b7:=E.size;clear al d e ao ap N;generalize a[k]=X at*;generalize AQ a 0 (k:Int)=y at*;go_wp2
  go_loopw [9] (λi wi=>∃j:Nat,j<=X.ps.length/\i=Hp j/\Below z.heap.size z wi/\Hs ((X.ps.take j).all (Jt m y.length)=true)) λi _=>X.ps.length-(intOf i).toNat
  case atStart=>exact⟨0,aN _,rfl,E,rfl⟩
  clear E b7;obtain⟨j,U,rfl,f,Q⟩:=hrel;have x0:=(XU f oM).trans r;have x1:=(XU f oM).trans F;have x2:=(XU f oM).trans D0;have cb:=f.size;by_cases t:j<X.ps.length
  .obtain⟨b',o',rfl,⟨_,b5⟩,aa,cc,g0,g1,T⟩:=HP j t;have e6:=(XU f oM).trans g0;have e7:=(XU f oM).trans g1;have ch:=bq _<|aH t;have I:=Xa λh=>Xw V<|JN (p:=Jt m y.length) (xs:=X.ps) (k:=j) t h;have a4:=Xa λh=>XY (p:=Jt m y.length) t Q h;have bp:=Xa T;have cs:w.heap.size<wr.heap.size:=oM;clear g0 g1 T;generalize X.ps[j]=P at*;have O:Hs (Jt m y.length P=(decide (1<=P.args.length)&&decide (P.args.length=y.length)&&P.args.all (To 0 m))):=rfl;by_cases M:P.args.length=0
   .have a9:(P.args.length:Int)<1:=oM;have H0:=Xa M;clear M;go_wp2;go_ret;exact⟨Xl (by rw[p.o,Xw I<|by rw[O.o,H0.o];rfl];simp),Xg o<|Xb f _⟩
   have a9:(1:Int)<=(P.args.length:Int):=oM;have H0:=Xa M;clear M;by_cases B:P.args.length=y.length
   .have ba:((P.args.length:Int) != (y.length:Int))=false:=by simp[B]
    have H1:=Xa B;clear B;go_wp2;have az:=Xb f<|.cells #[Hp P.dst,.slice aa P.args.length cc] 106;have ay:(λs:World=>s.cell? (Hk wr.heap.size 1)=some (.slice aa P.args.length cc)/\wr.heap.size<s.heap.size) (wr.alloc<|.cells #[Hp P.dst,.slice aa P.args.length cc] 106):=⟨sP,sP⟩;generalize wr.alloc _=w9 at*;let⟨z1,z2⟩:=ay;generalize wr.heap.size=bt at*;have cw:=az.size;have bo:=Xa az;clear x0 x1 x2 e6 e7 a9 ba az
    go_loopw [11] (λi wi=>∃q:Nat,q<=P.args.length/\i=Hp q/\Below w9.heap.size w9 wi/\Hs ((P.args.take q).all (To 0 m)=true)) λi _=>P.args.length-(intOf i).toNat
    case atStart=>exact⟨0,aN _,rfl,Below.refl _ _,rfl⟩
    obtain⟨q,hq,rfl,a1,R⟩:=hrel;have y1:=(XU a1 oM).trans z1;have S:=Xg bo a1;have y0:=(XU S oM).trans r;by_cases Y:q<P.args.length
    .obtain⟨b2,o2,rfl,⟨_,d⟩,bd⟩:=bp q Y;have r1:=(XU S oM).trans bd;have bn:=Xa λh=>JN (p:=To 0 m) (xs:=P.args) (k:=q) Y h;have ce:=Xa λh=>XY (p:=To 0 m) Y R h;have cp:(0:Int)<=(q:Int):=oM;have cq:(q:Int)<(P.args.length:Int):=oM;clear bd z1 r F;generalize P.args[q]=A at*;by_cases ar:A<0
     .have bv:decide (A<0)=true:=by simpa using ar
      go_wp2
      go_quiet (fail)
      go_wp2;go_ret;exact⟨Xl (by rw[p.o,Xw I<|by rw[O.o,Xw bn<|by unfold To;rw[dJ (p:=0<=A) oM];rfl];simp];simp),Xg o<|iX S _⟩
     have bv:decide (A<0)=false:=by simpa using ar
     have bw:0<=A:=oM;clear ar;by_cases bx:(m:Int)<=A
     .go_wp2
      go_quiet (fail)
      go_wp2;go_ret;exact⟨Xl (by rw[p.o,Xw I<|by rw[O.o,Xw bn<|by unfold To;rw[dJ (p:=A<m) oM];simp];simp];simp),Xg o<|iX S _⟩
     have bz:A<(m:Int):=oM;clear bx;go_wp2
     go_quiet (fail)
     go_wp2;exact⟨⟨q+1,oM,gM,iX a1 _,Xw ce<|by unfold To;rw[eB bw,eB bz];rfl⟩,by simp[intOf];omega⟩
    go_wp2
    exact⟨⟨j+1,oM,gM,S,Xw a4 (by
     have B:=H1.o;have M:=H0.o;rw[O.o,eB B,eB (p:=1<=P.args.length) oM,YE (xs:=P.args) (k:=q) oM R.o];rfl)⟩,by simp[intOf];omega⟩
   have ba:((P.args.length:Int) != (y.length:Int))=true:=by rw[jJ];omega
   have H1:=Xa B;clear B;go_wp2;go_ret;exact⟨Xl (by rw[p.o,Xw I<|by rw[O.o,dJ H1.o];simp];simp),Xg o<|Xb f _⟩
  go_wp2;exact⟨⟨k+1,oM,gM,f,Xw a3<|YE (xs:=X.ps) (k:=j) oM Q⟩,by simp[intOf];omega⟩
 have b3:Hs (Ug ⟨m,a⟩=true):=(Zr Jt ⟨m,a⟩ a 0).2 (λj U=>by rw[aV];exact C j U<|oN v.o);have N:=Xa<|HA.keep (e.mono oM);have ax:Hs (Ui ⟨m,a⟩=(decide (((BX a).length:Int)=m)&&(List.range m).all λab=>Bs (BX a) (ab:Int))):=rfl;have bf:(BX a).length<=1048576:=oP (KP a) hs.o;clear C;go_wp2_with fail
 refine(yF m _ n c a ac K _ N v oM (show Xx a<=1048576 by have:=hs.o;omega) oM).mono ?_;rintro l J⟨a2,c2,rfl,d,al⟩;have E:=Xg e d;have y0:=(XU E oM).trans r;have a7:=Xa al;have aq:=Xa E;clear al d e ao ap N E r F;generalize BX a=D at*;by_cases G:(D.length:Int)=m
 .have bb:((D.length:Int) != (m:Int))=false:=by simp[G]
  have HD:=Xa G;clear G;go_wp2;clear bb
  go_loop [13] (λi=>∃q:Nat,q<=m/\i=Hp q/\Hs (∀x:Nat,x<q->Bs D (x:Int)=true)) λi=>m-(intOf i).toNat
  case atStart=>exact⟨0,aN _,rfl,λx h=>absurd h oM⟩
  obtain⟨q,hq,rfl,R⟩:=hrel;by_cases Y:q<m
  .cases hr:Bs D (q:Int)
   .have g:=Xa hr;go_wp2_with (go_at_call 49;refine(YF _ _ _ _ D _ _ _ a7 rfl bf).mono ?_;rintro l w3⟨rfl,Z⟩;rw[Z];clear Z w3)
    go_ret
    exact⟨Xl (by
     have hf:((List.range m).all λab=>Bs D (ab:Int))=false:=by
      rw[lZ];exact⟨q,by simpa using Y,by simp[g.o]⟩
     rw[p.o,ax.o,hf];simp),Xg o aq⟩
   have g:=Xa hr;go_wp2_with (go_at_call 49;refine(YF _ _ _ _ D _ _ _ a7 rfl bf).mono ?_;rintro l w3⟨rfl,Z⟩;rw[Z];clear Z w3)
   go_round
   case rel=>exact⟨q+1,oM,gM,λx W=>if l:x=q then by subst l;exact g else R x oM⟩
   simp[intOf];omega
  go_wp2;go_ret
  exact⟨Xl (by
   have hf:((List.range m).all λab=>Bs D (ab:Int))=true:=by
    rw[dV];intro x W;exact R x<|by simp at W;omega
   rw[p.o,ax.o,hf,b0.o,b3.o,eB HD.o];rfl),Xg o aq⟩
 have bb:((D.length:Int) != (m:Int))=true:=by rw[jJ];exact G
 have HD:=Xa G;clear G;go_wp2;go_ret;exact⟨Xl (by rw[p.o,ax.o,dJ HD.o];simp),Xg o aq⟩
theorem Tr(v:Int)(b:Option Addr)(n c:Nat)(a:List Xe)(L B:Nat)(w:World)(ha:Hs (Xp w L B b a))(f:Hs (n=a.length))(e:Hs (a.length+Xx a<=1048576))(j:B<=w.heap.size) :
 Calls prog 18 #[.agg #[Hp v,.slice b n c]] w λp t=>p=.returned (.bool (je ⟨v,a⟩))/\Below w.heap.size w t:=by
 have k:je ⟨v,a⟩=(Y6 ⟨v,a⟩&&a.all (KV v a.length)&&Ug ⟨v,a⟩&&Ui ⟨v,a⟩):=by
  unfold je;rw[CV]
 have r:=f.o;have q:Xo a<=1048576:=by rw[V7];exact e
 have x:=e.o;by_cases l:0<=v/\v<=2000/\1<=n/\n<=1000/\Xo a<=4000
 .let⟨g,h,m,o,i⟩:=l;have d:Y6 ⟨v,a⟩=true:=pW g h (by show 1<=a.length;omega) (by show a.length<=1000;omega) i;obtain⟨s,rfl⟩:=bX g;rw[k,d];exact vW s b n c a L B w _ ha f e j h m o i<|by show _=_;rw[<-r];rfl
 have d:Y6 ⟨v,a⟩=false:=by
  by_cases u:Xo a<=4000;·exact Wt (F:=⟨v,a⟩) (by show ¬(0<=v/\v<=2000/\1<=a.length/\a.length<=1000);omega)
  exact UE (F:=⟨v,a⟩) (by show 4000<Xo a;omega)
 rw[k,d];exact wG v b n c a L B w ha f oM q j l
end
theorem qj(F:List Nat):Je F=(Xi F).map (Value.int .i64):=by simp[Je,Xi]
theorem rG:Bs (Xi s) (n:Int)=true↔n∈s:=by
 unfold Bs;rw[eY];unfold Xi;rw[aY];constructor
 .rintro⟨a,h,e⟩;have:a=n:=Int.ofNat.inj e;rw[<-this];exact h
 exact λh=>⟨n,h,rfl⟩
section
structure IY(w w2 wr:World)(n A0 A1 M0 M1:Nat)(P:Nat->List Int):Prop where
 bel:Below w.heap.size w wr
 sz:w2.heap.size<=wr.heap.size
 fb:wr.heap[w.heap.size]?=w2.heap[w.heap.size]?
 same:YA A0 A1 w2 wr
 rows:∃U,ZN wr (w.heap.size+1) n P U/\∀i g,i<n->(U i).ownBlock=some g->(g<A0\/A1<=g)/\(g<M0\/M1<=g)
section
variable {w w2 wr wr': World} {n A0 A1 M0 M1: Nat} {P: Nat -> List Int}
theorem IY.below(h:IY w w2 wr n A0 A1 M0 M1 P)(k:Below wr.heap.size wr wr')(c:w.heap.size<wr.heap.size)(d:A1<=w2.heap.size):IY w w2 wr' n A0 A1 M0 M1 P:=by
 let⟨U,a,b⟩:=h.rows;have:=h.sz;exact⟨Xg h.bel k,aJ h.sz k.size,(k.block _ c).trans h.fb,λq q1 q2=>(k.block q oM).trans (h.same q q1 q2),U,a.below k,b⟩
theorem IY.fresh(h:IY w w2 wr n A0 A1 0 0 P)(M1:Nat):IY w w2 wr n A0 A1 wr.heap.size M1 P:=by
 let⟨U,a,c⟩:=h.rows;exact⟨h.bel,h.sz,h.fb,h.same,U,a,λi g b e=>⟨(c i g b e).1,bC ((a.2.1 i b).lt g e).2⟩⟩
theorem IY.forget(h:IY w w2 wr n A0 A1 M0 M1 P):IY w w2 wr n A0 A1 0 0 P:=by
 let⟨U,a,b⟩:=h.rows;exact⟨h.bel,h.sz,h.fb,h.same,U,a,λi g c e=>⟨(b i g c e).1,aZ<|aN _⟩⟩
theorem IY.congr{P':Nat->List Int}(h:IY w w2 wr n A0 A1 M0 M1 P)(e:∀i,i<n->P i=P' i):IY w w2 wr n A0 A1 M0 M1 P':=by
 let⟨U,a,b⟩:=h.rows;exact⟨h.bel,h.sz,h.fb,h.same,U,a.congr e,b⟩
theorem IY.grown{M:Nat}(h:IY w w2 wr n A0 A1 M0 M1 P)(k:wr.grownBy wr' (some M))(l:M0<=M/\M<M1)(f:A1<=M0)(m:w.heap.size+1<M0)(d:w.heap.size+1<wr.heap.size)(j:A1<=w2.heap.size):IY w w2 wr' n A0 A1 M0 M1 P:=by
 let⟨U,a,b⟩:=h.rows;have o:=h.sz;refine⟨h.bel.grown k oM (λq e=>by cases e;omega),aJ h.sz k.size,(k.block _ oM λe=>by injection e with e;omega).trans h.fb,λq q1 q2=>(k.block q oM λe=>by injection e with e;omega).trans (h.same q q1 q2),U,⟨a.1.of_block (k.block _ d λe=>by injection e with e;omega),λi c=>?_,a.2.2⟩,b⟩;refine(a.2.1 i c).kept k ?_;cases e:(U i).ownBlock with
 |none=>exact bC rfl
 |some g=>exact aZ λe2=>by injection e2 with e2;have:=(b i g c e).2;omega
theorem IY.push{c:World}{o:Obj}{t:Nat}{x:Int}{b:Value}{U:Nat->Value}(h:IY w w2 wr n A0 A1 M0 M1 P)(d:ZN wr (w.heap.size+1) n P U)(j:∀i g,i<n->(U i).ownBlock=some g->(g<A0\/A1<=g)/\(g<M0\/M1<=g))(f:t<n)(a:(wr.alloc o).grownBy c (U t).ownBlock)(D:c.ownsRow (w.heap.size+1+1) 2 1 b ((P t).length+1) ((P t).map (Value.int .i64)++[.int .i64 x]))(s:b.ownBlock=(U t).ownBlock\/b.ownBlock=some (wr.heap.size+1))(F:A1<=w2.heap.size)(H:M1<=wr.heap.size)(G:w.heap.size+1<A0)(I:w.heap.size+1<M0) :
 IY w w2 (c.setCell ⟨w.heap.size+1,t,none⟩ b) n A0 A1 M0 M1 (λi=>if i=t then P t++[x]else P i)/\YA M0 M1 wr (c.setCell ⟨w.heap.size+1,t,none⟩ b)/\c.cell? ⟨w.heap.size+1,t,none⟩=some (U t)/\c.frozen? ⟨w.heap.size+1,t,none⟩=false:=by
 have K:=h.sz;have B:=d.1.lt;have J:=a.size;have C:(wr.alloc o).heap.size=wr.heap.size+1:=aO _ _;have r:∀k,k<wr.heap.size->(wr.alloc o).heap[k]?=wr.heap[k]?:=λk m=>Below.heap_alloc _ _ _ m;have E:=(d.alloc o).step f x b a D (by rw[C];exact s);have l:∀k,k<wr.heap.size->k≠w.heap.size+1->some k≠(U t).ownBlock->(c.setCell (Hk (w.heap.size+1) t) b).heap[k]?=wr.heap[k]?:=λk y z A=>(Below.heap_setCell _ _ _ _ z).trans ((a.block k oM A).trans (r k y));have p:∀k,k<=w.heap.size+1->some k≠(U t).ownBlock:=λk m e=>by have:=((d.2.1 t f).lt k e.symm).1;omega
 have u:=(a.block _ oM<|p _ (aA _)).trans (r _ B);refine⟨⟨?_,by rw[Xd];omega,(l _ oM oM<|p _ oM).trans h.fb,λq q1 q2=>(l q oM oM λe=>by have:=(j t q f e.symm).1;omega).trans (h.same q q1 q2),_,E,λi g v e=>?_⟩,λq q1 q2=>l q oM oM (λe=>by have:=(j t q f e.symm).2;omega),(Xc u).trans (d.1.cell f),(bJ u).trans (d.1.frozen t)⟩;·exact⟨a.os.trans h.bel.os,a.tape.trans h.bel.tape,a.output.trans h.bel.output,by rw[Xd];omega,λk m=>(l k oM oM<|p k oM).trans (h.bel.block k m)⟩
 by_cases e1:i=t
 .subst e1;simp only[gG]at e;rcases s with q|q;·exact j i g v<|by rw[<-q];exact e
  rw[q]at e;have:=gQ e;omega
 simp only[e1,fD]at e;exact j i g v e
end
theorem AJ(Z:Int)(H:Option Addr)(n c:Nat)(d:List Xe)(bl aa:Nat)(w:World)(ha:Hs (Xp w bl aa H d))(l:Hs (n=d.length))(hB:aa<=w.heap.size)(W:Hs (UF d)) :
 Calls prog 67 #[.agg #[Hp Z,.slice H n c]] w λe N=>∃a' c',e=.returned (.slice a' n c')/\Below w.heap.size w N/\XR N w.heap.size N.heap.size a' ((List.range n).map λb:Nat=>Xi<|Zq (X8 d) n b):=by
 obtain⟨i0,ck,cv,cw,cz⟩:=Xq Nv;have ax:n<=1000:=oP W.n2 l.o;have cq:0<n:=oP W.n1 l.o;have O:Hs (∀x,Re (X8 d) x->x<n):=Xa (by rw[l.o];exact W.re);have bc:=Xa (λbm (hb:Below w.heap.size w bm) z=>qt Z H n c z d bl aa bm (Xa<|ha.keep (hb.mono hB)) l ax cq (oN hb.size) (Xa<|by rw[l.o];exact W.tgt));have cp:=J9 (P:=prog) 65 69 (.agg #[Hq]) 1 24 underlying65 Ns n oM oM;have b0:madeCells (Value.agg #[Hq]).cells (n*1)=madeCells #[Hq] n:=by rw[iN];rfl
 rw[b0]at cp;have di:=fM (P:=prog) 97 4 (.bool false) 1 underlying97 No rfl .i64 .i64 n oM oM;clear b0
 go_in
 go_wp2_with fail
 refine(bc _ (Xb (Xb (Below.refl _ _) _) _) (-1)).mono ?_;rintro e w2⟨v2,F,rfl,r,b1,ay,bx⟩;obtain⟨a2,c2,rfl,bv⟩:=Xk (xs:=Xi F) (by rw[<-qj];exact b1);have D:=Xa λx=>(bx x).trans (se vZ);have ca:=Xa ay;have co:(Xi F).length<=1000:=by rw[Y0];exact aJ (YS ay λx l=>O x<|(D x).1 l) ax
 have dk:w.heap.size+2<=w2.heap.size:=by have:=r.size;simp at this;omega
 have a9:Hs (Xf w2 (w.heap.size+2) w2.heap.size a2 (Xi F)):=Xa (by simpa using bv);have a3:Hs (IY w w2 w2 n (w.heap.size+2) w2.heap.size 0 0 (UN (X8 d) 0)):=Xa (by
  have hr:=ZN.born (w.alloc<|.cells #[Hp Z,.slice H n c] 25) n;rw[aO]at hr;refine⟨Xg (Xb (Xb (Below.refl _ _) _) _) r,aA _,rfl,YA.refl _ _ _,_,(hr.below r).congr λi _=>by simp[UN,Xi],λi c9 hi e=>by cases e⟩)
 have f0:Cl w2 w.heap.size 0 (Hp Z):=(r.cell (p:=Hk w.heap.size 0) (by show w.heap.size<_;simp;omega)).trans (by simp[go_sem]);have f1:Cl w2 w.heap.size 1 (.slice H n c):=(r.cell (p:=Hk w.heap.size 1) (by show w.heap.size<_;simp;omega)).trans (by simp[go_sem]);have a7:=Xa (show _/\_ from⟨f0,f1⟩);clear r b1 bv bx ay f0 f1;obtain⟨v,aq⟩:∃v,v=(Xi F).length:=⟨_,rfl⟩;rw[<-aq]at co |-;have af:=Xa aq;clear aq;go_wp2
 go_loopw [5] (λu wr=>∃k:Nat,k<=n/\u=Hp k/\Hs (IY w w2 wr n (w.heap.size+2) w2.heap.size 0 0 (UN (X8 d) k))) λu _=>n-(intOf u).toNat
 case atStart=>exact⟨0,aN _,rfl,a3⟩
 clear a3;obtain⟨k,hk,rfl,g⟩:=hrel;have ct:=g.sz;have ar:w.heap.size<wr.heap.size:=oM;have g0:=(Xc g.fb).trans a7.1;have g1:=(Xc g.fb).trans a7.2;by_cases df:k<n
 .have ba:=Xa<|a9.keepS g.same;have a8:=Xa<|YF a2 v c2 k (Xi F) (w.heap.size+2) w2.heap.size wr ba af oM;go_wp2_with fail
  refine a8.mono ?_;rintro e w3⟨rfl,b4⟩;rw[b4];clear b4 a8;cases hh:Bs (Xi F) (k:Int)with
  |false=>
   have cb:Hs (¬Re (X8 d) k):=Xa (λq=>by
    have:=rG.2<|(D k).2 q;rw[hh]at this;cases this)
   clear hh;go_wp2;exact⟨⟨k+1,oM,gM,Xa<|g.congr λi _=>(zD cb i).symm⟩,by simp[intOf];omega⟩
  |true=>
   have cd:Hs (Re (X8 d) k):=Xa<|(D k).1 (rG.1 hh);clear hh;have b8:=Xa<|(g.below (Xb (Below.refl _ _) (.cells (madeCells #[.bool false] n) 4)) ar (aA _));have bd:=Xa<|dG wr (.bool false) n 4;go_wp2_with fail
   refine(bc _ (Xb g.bel _) (k:Int)).mono ?_;rintro e p⟨v5,a,rfl,S,b3,az,bz⟩;obtain⟨a5,c5,rfl,bw⟩:=Xk (xs:=Xi a) (by rw[<-qj];exact b3);have aj:=Xa λx=>(bz x).trans Dv;have cm:(Xi a).length<=1000:=by rw[Y0];exact aJ (YS az λx l=>O x<|oJ ((aj x).1 l)) ax
   have c6:wr.heap.size+1<=p.heap.size:=by have:=S.size;simp at this;omega
   have ad:=Xa (by simpa using bw);have al:=Xa<|bd.of_block (S.block _ sP);have ab:=Xa ((((g.fresh p.heap.size).below (Xb (Below.refl _ _) (.cells (madeCells #[.bool false] n) 4)) ar (aA _))).below S (by simp;omega) (aA _));obtain⟨J,ap⟩:∃J,J=(Xi a).length:=⟨_,rfl⟩;rw[<-ap]at cm |-;have bb:=Xa ap;have c7:=Xa az;clear S b3 bw bz az ap b8 bd g g0 g1;obtain⟨M,hM⟩:∃M,M=wr.heap.size:=⟨_,rfl⟩;rw[<-hM]at c6 ad al ab ct ar |-;clear hM ba;generalize wr=wo at*;go_wp2
   go_loopw [8] (λu A=>∃i:Nat,i<=J/\u=Hp i/\Hs (p.grownBy A<|some M)/\Hs (A.rowIs M 4 n λz=>.bool (decide (z∈a.take i)))) λu _=>J-(intOf u).toNat
   case atStart=>exact⟨0,aN _,rfl,Xa<|lJ _ _,Xa<|al.congr λz _=>sP⟩
   obtain⟨i,hi,rfl,C,E⟩:=hrel;by_cases dc:i<J
   .have V:i<a.length:=by have:=bb.o;rw[Y0]at this;omega
    obtain⟨f,L,rfl,T,m⟩:=ad i (by rw[Y0];exact V);have t:(Xi a)[i]'(by rw[Y0];exact V)=((a[i]:Nat):Int):=by simp[Xi]
    rw[t]at m;have bo:=(bZ (a:=(Hk f<|L+i)) (C.block f T.2 λe=>by injection e with e;omega)).trans m;have o:=O _<|oJ ((aj _).1 (aH V));have bf:Hs (∀z,z∈a.take (i+1)↔z∈a.take i\/z=a[i]):=Xa λz=>Kx V;clear m t;generalize a[i]=x at*;have cx:=E.cell o;have fx:=E.frozen x;go_wp2_with fail
    refine⟨⟨i+1,oM,gM,Xa (C.trans ⟨rfl,rfl,rfl,by simp[World.setCell],λk _ hk=>Below.heap_setCell _ _ _ _ λe=>hk<|by rw[e]⟩),Xa<|(TS (C:=Value.bool) E x true).congr λz _=>?_⟩,by simp[intOf];omega⟩;by_cases e:z=x;·rw[aU e,eB<|(bf z).2 (aZ e)]
    rw[aM e];have:(z∈a.take (i+1))↔z∈a.take i:=(bf z).trans ⟨λq=>q.resolve_right e,bC⟩;rw[decide_eq_decide.2 this]
   have Q:Hs (a.take i=a):=Xa (aW (by have:=bb.o;rw[Y0]at this;omega));rw[Q.o]at E;have a6:=Xa<|ab.grown C ⟨aA _,oM⟩ oM oM oM (aA _);have a4:=Xa (a6.congr λb _=>(ye F a k b).symm);have dn:=C.size;clear Q C al ab ad a6;generalize wr=w7 at*;go_wp2
   go_loopw [9] (λu A=>∃i:Nat,i<=v/\u=Hp i/\Hs (IY w w2 A n (w.heap.size+2) w2.heap.size M p.heap.size (Zy (X8 d) F a k i))/\Hs (YA M p.heap.size w7 A)/\Hs (w7.heap.size<=A.heap.size)) λu _=>v-(intOf u).toNat
   case atStart=>exact⟨0,aN _,rfl,a4,Xa<|YA.refl _ _ _,Xa<|aA _⟩
   clear a4;obtain⟨j,hj,rfl,B,ao,bi⟩:=hrel;by_cases dd:j<v
   .have I:j<F.length:=by have:=af.o;rw[Y0]at this;omega
    obtain⟨f,L,rfl,T,m⟩:=a9 j (by rw[Y0];exact I);have t:(Xi F)[j]'(by rw[Y0];exact I)=((F[j]:Nat):Int):=by simp[Xi]
    rw[t]at m;have bo:=(bZ (a:=(Hk f<|L+j)) (B.same f T.1 T.2)).trans m;have o:=O _<|(D _).1 (aH I);have ce:=Xa<|E.of_block (ao M (aA _) oM);have cx:=ce.cell o;have dl:=bi.o;have dj:p.heap.size<=wr.heap.size:=oM;by_cases s:F[j]∈a
    .have ac:=Xa λb=>BF (tg:=X8 d) (k:=k) I s b;rw[eB s]at cx;clear m t s;generalize F[j]=x at*;go_wp2;exact⟨⟨j+1,oM,gM,Xa (B.congr λb _=>(ac b).symm),ao,bi⟩,by simp[intOf];omega⟩
    have ac:=Xa λb=>zH (tg:=X8 d) (k:=k) ca I s b;rw[dJ s]at cx;clear m t s;generalize F[j]=x at*;obtain⟨ch,h,bt⟩:=B.rows;have HU:=Xa h;have a1:=Xa bt;obtain⟨ua,uc,Y,_⟩:=Xk<|h.2.1 x o;have cU:=h.1.cell o;have fU:=h.1.frozen x;have R:=Xa Y;rw[Y]at cU;have cs:(Zy (X8 d) F a k j x).length<=1001:=aJ (yL F a k j x) oM;obtain⟨y,X⟩:∃y,y=(Zy (X8 d) F a k j x).length:=⟨_,rfl⟩;rw[<-X]at cU cs;have G:=Xa X;have cc:=Xa (by have q:=h.2.1 x o;rw[Y,<-X]at q;exact q);have da:=h.1.lt;have cr:f≠w.heap.size+1:=oM;have cj:f<wr.heap.size:=oM;clear h bt Y X;go_wp2_with fail
    refine Y7 (λN=>N.cell? (Hk f<|L+j)=some (Hp x)) λhHeld=>?_;refine Xn 0 ?_;refine Xn 1 ?_;refine Xn 2 ?_;refine Xn 3 ?_;refine Xn 4 ?_;refine Xn 5 ?_;refine Xn 6 ?_;refine Xn 7 ?_;refine Xn 8 ?_;refine Xn 9 ?_;refine Xn 10 ?_;refine Xn 11 ?_;refine Xn 13 ?_;refine eS (rs:=[12,14]) kR sP ?_;refine(bQ rfl (λK hK=>?_) (bQ rfl (λK hK=>?_) dY));go_simp;refine hK _ _ kP λhHeld=>?_;clear hK
    try simp only[xX]
    refine Xs 14 λK hK=>?_;go_simp;refine hK _ _ kP λhHeld=>?_;clear hK;rotate_left;go_simp;refine hK _ _ kP λhHeld=>?_;clear hK
    try simp only[xX]
    refine Xs 12 λK hK=>?_;go_simp;refine hK _ _ kP λhHeld=>?_;clear hK
    all_goals (
     refine Xs 15 λK hK=>?_;refine dm rfl _ _ 27 rfl (w.heap.size+1+1) 2 i0 (Hp 0) 1 8 underlying27 ck cv cw cz rfl vZ (.slice ua y uc) y ((Zy (X8 d) F a k j x).map (Value.int .i64)) rfl ?s1 (Hk wr.heap.size 0) 1 1 [Hp k] rfl rfl ?s2 ?s3 ?s4 ?s5 ?s6 ?_
     case s1=>exact(qQ cc).alloc _
     case s2=>exact Yf _ _ _
     case s3=>intro u hu;simp at hu;subst hu;rfl
     case s4=>unfold maxLen;omega
     case s5=>omega
     case s6=>simp;omega
     intro v8 w8 a0 U _ br;obtain⟨g8,c8,rfl,db,_⟩:=Xm a0 oM;obtain⟨bp,bq,bn,ci⟩:=(B.below (Below.refl wr.heap.size wr).drew oM (aA _)).push (x:=(k:Int)) (t:=x) (HU.below (Below.refl wr.heap.size wr).drew) a1 o (by rw[R.o,<-G.o];exact U) (by rw[<-G.o];exact a0) (by rw[R.o,<-G.o];simpa using br) (aA _) (by show p.heap.size<=wr.heap.size;omega) oM oM;rw[R.o,<-G.o]at bn;have z6:w8.cell? (Hk f<|L+j)=some (Hp x):=by
      have h1:=U.block f (by simp;omega) (λe=>by
       have h2:=a1 x f o (by rw[R.o,<-G.o];exact e.symm);omega)
      have h3:(wr.drew.alloc<|.cells #[Hp k] 2).heap[f]?=wr.heap[f]?:=Below.heap_alloc wr.drew _ _ cj;exact(Xc<|h1.trans h3).trans bo
     have b7:=Xa bp;have cf:Hs (YA M p.heap.size w7<|w8.setCell (Hk (w.heap.size+1) x) (Hl g8 (y+1) c8)):=Xa λb5 q1 q2=>(bq b5 q1 q2).trans (ao b5 q1 q2);have cg:Hs (w7.heap.size<=(w8.setCell (Hk (w.heap.size+1) x) (Hl g8 (y+1) c8)).heap.size):=Xa (by rw[Xd];have:=U.size;simp at this;omega);clear a0 U br bp bq;refine hK _ _ z6 λhHeld=>?_;clear hK;refine Xn 16 ?_;refine Xn 17 ?_;refine Xs 18 λK hK=>?_;go_simp;refine hK _ _ ((Xc<|Below.heap_setCell _ _ _ _ cr).trans z6) λhHeld=>?_;clear hK;refine Yq ?_;clear hHeld bn ci z6;generalize w8.setCell _ _=w9 at*;go_wp2
     exact⟨⟨j+1,oM,gM,Xa (b7.congr λb _=>(ac b).symm),cf,cg⟩,by simp[intOf];omega⟩)
   have Q:Hs (∀b,Zy (X8 d) F a k j b=UN (X8 d) (k+1) b):=Xa (λb=>xN D aj cd (by have:=af.o;rw[Y0]at this;omega) b);go_wp2;exact⟨⟨k+1,oM,gM,Xa<|(B.congr λb _=>Q b).forget⟩,by simp[intOf];omega⟩
 have cl:k=n:=oM;subst cl;go_wp2;go_ret;obtain⟨ch,h,_⟩:=g.rows;exact⟨_,_,rfl,g.bel,(h.ints).mono oM (aA _)⟩
end
noncomputable def Ke(a:List Xe):List Int:=(List.range a.length).map (G9<|(List.range a.length).map (Zq (X8 a) a.length))
theorem tf{t:Yj}(h:fd n m t):(∀z∈t.tg,0<=z/\z<(n:Int))/\t.tg.Nodup/\(m+1<n->((m+1:Nat):Int)∈t.tg):=by
 rcases h with⟨rfl,h⟩|⟨q,rfl,h1,h2,h3⟩|⟨q,r,rfl,h1,h2,h3,h4,h5,h6,h7⟩;·exact⟨λz a=>by simp[Yj.tg]at a,by simp[Yj.tg],λk=>absurd k h⟩
 .refine⟨λz a=>?_,by simp[Yj.tg],λk=>?_⟩
  .simp[Yj.tg]at a;omega
  rw[h3 k];simp[Yj.tg]
 refine⟨λz a=>?_,?_,λk=>?_⟩
 .simp[Yj.tg]at a;omega
 .simp[Yj.tg];omega
 rcases h6 with e|e<;>subst e<;>simp[Yj.tg]
theorem ut{a:List Yj}(g:a.length=n)(i:1<=n)(k:n<=1000)(h:∀j (h:j<a.length),fd n j a[j]):UF (a.map Yt):=by
 have e:∀x∈a.map Yt,(∀z∈x.te.tg,0<=z/\z<(n:Int))/\x.te.tg.Nodup:=λx b=>by
  obtain⟨t,c,rfl⟩:=aY.1 b;obtain⟨j,f,rfl⟩:=bR c;have:=tf<|h j f;exact⟨this.1,this.2.1⟩
 have d:(a.map Yt).length=n:=by simpa using g
 refine⟨oM,oM,λx b t c=>?_,λx b=>?_⟩;·rw[d];exact(e x b).1 t c
 rw[d];exact e x b
theorem t9{a:List Yj}(i:a.length=n)(l:1<=n)(w:n<=1000)(h:∀j (h:j<a.length),fd n j a[j]){b:Nat}(z:0<b)(m:b<n):∃c:Nat,(Ke<|a.map Yt).getD b 0=(c:Int)/\c<b:=by
 have u:(a.map Yt).length=n:=by simpa using i
 have g:=ut i l w h;have k:∀j,j+1<n->j+1∈X8 (a.map Yt) j:=λj d=>by
  have t:j<a.length:=oM;rw[Km (by rw[u];omega),cM];have:=(tf<|h j t).2.2 d;exact aY.2 ⟨_,this,sP⟩
 have y:∀j,j<n->Re (X8<|a.map Yt) j:=λj=>by
  induction j with
  |zero=>exact λ_=>Re.root
  |succ j f=>exact λd=>Re.step (f oM) (k j d)
 have s:=Wf g.re g.ex;let⟨c,e,A,x,v,q⟩:=tc s g.re (y b m) oM;refine⟨c,e,?_⟩;have o:c≠b:=λe=>by rw[e]at v;omega
 have r:=(q c o).2 (Zd x);by_cases p:c<b;·exact p
 exfalso
 have:∀j,j<=b->Av (X8<|a.map Yt) c j:=λj=>by
  induction j with
  |zero=>exact λ_=>Av.root oM
  |succ j f=>exact λd=>Av.step (f oM) (k j oM) oM
 exact r.no<|this b (aA _)
theorem nO(a:List Xe):(Ke a).length=a.length:=by simp[Ke]
theorem VT(h:w.ownsRow n k g a j y)(l:w.ownsRow m B i A c Y)(q:k≠B){b:Nat}(e:a.ownBlock=some b):A.ownBlock≠some b:=λf=>by
 obtain⟨_,h|⟨v,r,t,rfl,D,p,z⟩⟩:=h;·rw[h.1]at e;cases e
 obtain⟨_,l|⟨x,s,u,rfl,E,d,C⟩⟩:=l;·rw[l.1]at f;cases f
 cases e;cases f;rw[p]at d;injection d with d;injection d with _ o _;exact q o
theorem Z5{b:Nat}(h:w.ownsRow n m B a g y)(c:Bx w b E k)(j:m≠k):a.ownBlock≠some b:=λe=>by
 obtain⟨_,h|⟨p,l,o,rfl,r,f,q⟩⟩:=h;·rw[h.1]at e;cases e
 cases e;unfold Bx at c;rw[f]at c;injection c with i;injection i with _ d _;exact j d
structure IQ(w wr:World)(sb B:Nat)(s:Sr)(fb:Nat)(vG:Value)(xs:List Xe)(vi:Value)(ids:List Int):Prop where
 dr:ZQ wr sb B s
 gr:w.grownBy wr (some sb)
 bw:B<=w.heap.size
 res:Bx wr w.heap.size #[.int .i64 0,.slice none 0 0] 25
 fbx:Bx wr fb #[.int .i64 0,vG] 25
 fbb:w.heap.size<fb
 bl:wr.ownsRow w.heap.size 46 6 vG xs.length (XF Zz Zz xs)
 id:wr.ownsRow w.heap.size 2 1 vi ids.length (Xt ids)
 emp:∀x∈xs,x.ps=[]/\x.is=[]
theorem IQ.start{wr:World}{s:Sr}(h:IQ w wr n m s k (.slice (some ⟨B,0,none⟩) g c) x a l) :
 ∃E,JU w (wr.alloc<|.cells #[] 69) E n m s k 0 B c x Zz Zz (λ_=>Zz) (.slice (some ⟨wr.heap.size,0,none⟩) 0 0) Zz [] a l:=by
 have C:x.length=g:=by
  rcases h.bl.2 with⟨e,_⟩|⟨_,_,_,e,_⟩;·cases e
  cases e;rfl
 subst C;have v:a.ownBlock≠some B:=VT h.bl h.id vZ rfl;have u:B≠w.heap.size:=λe=>Z5 h.bl h.res vZ (by rw[<-e];rfl);have t:B≠k:=λe=>Z5 h.bl h.fbx vZ (by rw[<-e];rfl);have A:=Z5 h.id h.res vZ;have z:=Z5 h.id h.fbx vZ;have G:=(h.bl.lt B rfl).2;have H:=h.res.lt;have F:=h.fbx.lt;have j:=λb e=>(h.id.lt b e).2;have f:∀b,b≠B->a.ownBlock≠some b->b≠wr.heap.size->(if b=B then (1,0,0)else if a.ownBlock=some b then (7,0,0)else if b=wr.heap.size then (6,0,0)else (0,0,0):Nat×Nat×Nat)=(0,0,0):=λb p q r=>by rw[aM p,aM q,aM r]
 have I:XW wr (wr.alloc<|.cells #[] 69) (λ_=>(0,0,0)) (λ_=>(0,0,0)) w.heap.size (λ_=>True):=XW.box _;refine⟨λb=>if b=B then (1,0,0)else if a.ownBlock=some b then (7,0,0)else if b=wr.heap.size then (6,0,0)else (0,0,0),h.dr.box _,Y5 h.gr<|bW _ _ _,h.bw,h.res.box _,f _ (kA u) A oM,h.fbx.box _,f _ (kA t) z oM,h.fbb,⟨⟨h.bl.alloc _,λb e=>?_⟩,λi d=>?_,λi d=>?_,λi d D o=>?_⟩,⟨?_,λb e=>?_⟩,λi d=>absurd d sP,⟨h.id.alloc _,λb e=>?_⟩,λb y=>?_,λD _=>⟨rfl,rfl⟩⟩
 .cases e;exact aU rfl
 .rw[(h.emp _<|aH d).1];exact⟨dA _ _ _ _,λb e=>by cases e⟩
 .rw[(h.emp _<|aH d).2];exact⟨dA _ _ _ _,λb e=>by cases e⟩
 .rw[(h.emp _<|aH d).1]at o;exact absurd o sP
 .have:=eI (base:=w.heap.size) (e:=69) (size:=1) wr #[] 0 h.gr.size sP rfl;simpa [Yu]using this
 .cases e;dsimp only;rw[aM oM,aM (λe=>by have:=j _ e;omega),aU rfl]
 .rw[aM (λe2=>v<|by rw[<-e2];exact e),aU e]
 rw[aO]at y;exact f b oM (λe=>by have:=j _ e;omega) oM
structure MD(w W:World)(sb B:Nat)(s:Sr):Prop where
 d:ZQ W sb B s
 g:w.grownBy W (some sb)
 z:Bx W w.heap.size #[.int .i64 0,.int .i64 0,.int .i64 0,.int .i64 0,.int .i64 0] 48
theorem MD.call{s a:Sr}(h:MD w v n m s)(b:m<=w.heap.size)(d:ZQ u n m a)(g:v.grownBy u (some n)):MD w u n m a :=
 ⟨d,Y5 h.g g,h.z.grown g λe=>by have:=h.d.bB;injection e;omega⟩
theorem MD.fin{s:Sr}(h:MD w v n m s)(a:m<=w.heap.size)(c d e f g:Value):ZQ (((((v.setCell ⟨w.heap.size,0,none⟩ c).setCell ⟨w.heap.size,1,none⟩ d).setCell ⟨w.heap.size,2,none⟩ e).setCell ⟨w.heap.size,3,none⟩ f).setCell ⟨w.heap.size,4,none⟩ g) n m s/\w.grownBy (((((v.setCell ⟨w.heap.size,0,none⟩ c).setCell ⟨w.heap.size,1,none⟩ d).setCell ⟨w.heap.size,2,none⟩ e).setCell ⟨w.heap.size,3,none⟩ f).setCell ⟨w.heap.size,4,none⟩ g) (some n) :=
 have b:=aA w.heap.size
 ⟨((((h.d.put a).put a).put a).put a).put a,XS (XS (XS (XS (XS h.g b) b) b) b) b⟩
theorem zh(h B:Nat)(s:Sr)(p:Option Addr)(n c:Nat)(b:List Int)(o m:Nat)(q:Int)(g:Bool)(w:World)(x:Hs (ZQ w h B s))(J:Hs (Xf w o m p b))(z:Hs (n=b.length))(I:n<=5000)(v:h<o)(y:m<=w.heap.size) :
 Calls prog 68 #[Hn h,.slice p n c,Hp q,.bool g] w λl K=>l=.returned (E2 s b q g).1.agg/\ZQ K h B (E2 s b q g).2/\w.grownBy K (some h):=by
 have a:Hs (E2 s b q g=iz (Ax s 14).1 (YI (Ax s 14).2 b g).1 (YI (YI (Ax s 14).2 b g).2 b g).1 n q (YI (YI (Ax s 14).2 b g).2 b g).2):=Xa (by unfold E2;rw[<-z.o]);have j:=Xa x.sB;have u:Hs (∀W,w.grownBy W (some h)->Xf W o m p b/\m<=W.heap.size):=Xa λW F=>⟨J.grown F v y,aJ y F.size⟩
 go_in
 go_wp2_with fail
 have H:Hs (MD w (w.alloc<|.cells #[Hp 0,Hp 0,Hp 0,Hp 0,Hp 0] 48) h B s):=Xa ⟨x.box _,bW _ _ _,Bx.new _ _ _⟩;refine(XC h B s 14 _ (Xa H.d) oM oM).mono ?_;rintro l O⟨rfl,d,e⟩;have G:=XE s (n:=14) oM;replace H:=Xa<|H.call j d e;let⟨k,s1,f⟩:∃r i,Ax s 14=(r,i):=⟨_,_,rfl⟩;rw[f]at H a G |-;dsimp only at H a G |-;go_wp2_with fail
 refine(JA h B s1 p n c b o m g O (Xa H.d) (Xa (u.o _ H.g).1) z I v (u _ H.g).2).mono ?_;rintro l P⟨rfl,d,e⟩;replace H:=Xa<|H.call j d e;let⟨Q,s2,f⟩:∃r i,YI s1 b g=(r,i):=⟨_,_,rfl⟩;rw[f]at H a |-;dsimp only at H a |-;go_wp2_with fail
 refine(JA h B s2 p n c b o m g P (Xa H.d) (Xa (u.o _ H.g).1) z I v (u _ H.g).2).mono ?_;rintro l A⟨rfl,d,e⟩;replace H:=Xa<|H.call j d e;let⟨R,s3,f⟩:∃r i,YI s2 b g=(r,i):=⟨_,_,rfl⟩;rw[f]at H a |-;dsimp only at H a |-;have c0:=Bx.cell (q:=0) H.z rfl;have c1:=Bx.cell (q:=1) H.z rfl;have c2:=Bx.cell (q:=2) H.z rfl;have c3:=Bx.cell (q:=3) H.z rfl;have c4:=Bx.cell (q:=4) H.z rfl;have C:=Bx.thaw H.z;by_cases E:k<2\/n=0
 focus
  rw[iz,aU E]at a;rcases(by omega:k<2\/¬k<2/\n=0)with M|⟨M,D⟩;rotate_left;subst D
  all_goals (
   go_wp2_with fail
   refine(wI h B s3 A<|Xa H.d).mono ?_;rintro l L⟨rfl,d,e⟩;replace H:=Xa<|H.call j d e;let⟨t,s4,f⟩:∃r i,KX s3=(r,i):=⟨_,_,rfl⟩;rw[f]at H a |-;dsimp only at H a |-)
 rotate_left 2
 focus
  rw[iz,aM E]at a;have D:((n:Int)==0)=false:=by simp;omega
  rcases(by omega:k=2\/k=7\/k=3\/k=4\/k=5\/k=6\/k=8\/k=9\/k=10\/k=11\/k=12\/k=13)with rfl|rfl|rfl|rfl|rfl|rfl|rfl|rfl|rfl|rfl|rfl|rfl
  all_goals simp only[Int.reduceEq,reduceIte,lL,or_true,or_self]at a
  focus
   go_wp2_with fail
   refine(XC h B s3 8 A (Xa H.d) oM oM).mono ?_;rintro l L⟨rfl,d,e⟩;replace H:=Xa<|H.call j d e;let⟨t,s4,f⟩:∃r i,Ax s3 8=(r,i):=⟨_,_,rfl⟩;rw[f]at H a |-;dsimp only at H a |-
  rotate_left
  focus
   go_wp2_with fail
   refine(XC h B s3 2 A (Xa H.d) oM oM).mono ?_;rintro l L⟨rfl,d,e⟩;replace H:=Xa<|H.call j d e;let⟨t,s4,f⟩:∃r i,Ax s3 2=(r,i):=⟨_,_,rfl⟩;rw[f]at H a |-;dsimp only at H a |-;by_cases hq:t=0;rotate_left;have N:(t==0)=false:=by simpa using hq
   rw[aM hq]at a;rotate_left;have N:(t==0)=true:=by simpa using hq
   rw[aU hq]at a
 all_goals (
  clear c0 c1 c2 c3 c4 C;have c0:=Bx.cell (q:=0) H.z rfl;have c1:=Bx.cell (q:=1) H.z rfl;have c2:=Bx.cell (q:=2) H.z rfl;have c3:=Bx.cell (q:=3) H.z rfl;have c4:=Bx.cell (q:=4) H.z rfl;have C:=Bx.thaw H.z;go_wp2;rw[a.o];refine cC (v:=Yg.agg _) (by simp[Yg.agg,results,results68,go_sem,c0,c1,c2,c3,c4]) rfl ⟨rfl,?_⟩;exact H.fin j _ _ _ _ _)
section
def LQ(w wr:World)(sb B:Nat)(gd:I5)(fb G c:Nat)(ve vi:Value)(ids:List Int):Prop:=∃d e b av a,JU w wr d sb B gd.s fb gd.v G c gd.xs e b av ve a gd.ends vi ids
def Ik(w wr:World)(sb B:Nat)(gd:I5)(fb G c:Nat)(ve vi:Value)(ids:List Int)(vv:Value)(vs:List Int):Prop:=∃a e d av b,JU w wr a sb B gd.s fb gd.v G c gd.xs e d av ve b gd.ends vi ids/\Xv wr a (5,gd.ends.length,0) w.heap.size 2 1 vv vs.length (Xt vs)
def Hz(w wr:World)(sb B:Nat)(s:Sr)(v:Nat)(gd:I5)(fb G c:Nat)(ve vi:Value)(ids:List Int)(xb:Nat)(t:Yj)(ps:List Ph)(is:List Yg)(vv:Value)(vs:List Int):Prop:=∃d e b av a p q,Vu w wr d sb B s fb v G c gd.xs e b av ve a gd.ends vi ids xb p q t ps is vv vs
variable {w wr w': World} {sb B: Nat} {gd: I5} {fb G c: Nat} {ve vi: Value} {ids: List Int} {vv: Value} {vs: List Int}
theorem XW.named{d:Nat}{a:Nat->Nat×Nat×Nat}(o:Obj)(L:Nat×Nat×Nat):XW wr (wr.alloc o) a (λb=>if b=wr.heap.size then L else a b) d (λ_=>True) :=
 ⟨(bW wr o none).size,λb _ e _=>⟨(bW wr o none).block b e sP,aM oM⟩,λh b f=>by
  rw[aO]at f;exact(aM oM).trans (h b oM)⟩
theorem LQ.fn(h:LQ w wr sb B gd fb G c ve vi ids):wr.cell? (Hk fb 1)=some (Hl G gd.xs.length c)/\w.heap.size<=wr.heap.size:=by
 let⟨d,e,b,av,a,h⟩:=h;exact⟨Bx.cell h.fbx rfl,h.gr.size⟩
theorem LQ.start(h:LQ w wr sb B gd fb G c ve vi ids):Ik w (wr.alloc<|.cells #[] 2) sb B gd fb G c ve vi ids (.slice (some ⟨wr.heap.size,0,none⟩) 0 0) []:=by
 let⟨g,f,d,av,a,h⟩:=h;refine⟨_,f,d,av,a,h.sp (XW.named (.cells #[] 2) (5,gd.ends.length,0)) trivial trivial (λ_ _ _ _ _=>trivial) (h.dr.box _) (Y5 h.gr<|bW _ _ _),?_,λb e=>?_⟩
 .have:=eI (base:=w.heap.size) (e:=2) (size:=1) wr #[] 0 h.gr.size sP rfl;simpa [Xt]using this
 cases e;exact aU rfl
theorem Ik.own(h:Ik w wr sb B gd fb G c ve vi ids vv vs):wr.ownsRow w.heap.size 2 1 vv vs.length (Xt vs):=by
 let⟨e,f,d,av,b,h,a⟩:=h;exact a.own
theorem Ik.push{k:Nat}{a:Value}{vs':List Int}(h:Ik w wr sb B gd fb G c ve vi ids vv vs)(f:wr.grownBy w' vv.ownBlock)(p:w'.ownsRow w.heap.size 2 1 a k (Xt vs++Xt vs'))(o:k=vs.length+vs'.length)(n:a.ownBlock=vv.ownBlock\/a.ownBlock=some wr.heap.size):Ik w w' sb B gd fb G c ve vi ids a (vs++vs'):=by
 let⟨j,y,r,av,l,h,i⟩:=h;let⟨x,q,u⟩:=i.grow f p n h.fr;have g:∀b,j b=(0,0,0)->j b≠(5,gd.ends.length,0):=λb e=>by rw[e];simp
 have d:=h.low<|i.below f (aA _) h.gr.size;refine⟨x,y,r,av,l,h.sp u (g _ h.resl) (g _ h.fbl) (λb _ _ _ m=>m) d.1 d.2,?_⟩;subst o;have e:Xt (vs++vs')=Xt vs++Xt vs':=by simp[Xt]
 rw[e,aQ];exact q
theorem Ik.dom(h:Ik w wr sb B gd fb G c ve vi ids vv vs){i d:Nat}(y:i<ids.length)(r:ids.getD i 0=(d:Int))(l:d<gd.ends.length)(m:0<(gd.ends.getD d []).length) :
 ∃e j b g a k,vi=.slice (some ⟨e,0,none⟩) ids.length j/\wr.cell? ⟨e,i,none⟩=some (.int .i64 d)/\ve=.slice (some ⟨b,0,none⟩) gd.ends.length g/\wr.cell? ⟨b,d,none⟩=some (.slice (some ⟨a,0,none⟩) (gd.ends.getD d []).length k)/\a<wr.heap.size/\∀n u,(Xt<|gd.ends.getD d [])[n]?=some u->wr.cell? ((⟨a,0,none⟩:Addr).add n)=some u:=by
 let⟨D,E,C,av,q,h,A⟩:=h;have e1:gd.ends.getD d []=gd.ends[d]:=by simp[l]
 rw[e1]at m |-;let⟨e,j,p⟩:=h.id.got oM;let⟨b,g,o⟩:=h.es.got oM;have f:=h.evs d l;let⟨a,k,ex⟩:=f.got m;have z:=h.id;have x:=h.es;subst p;subst o;rw[ex]at f;refine⟨e,j,b,g,a,k,rfl,z.cell ?_,rfl,x.cell ?_,f.blk.1.2,f.own.cells rfl⟩
 .unfold Xt;rw[<-r];simp[y]
 have:=Xz (f:=λi (_:List Int)=>[q i]) (sz:=1) (λ_ _=>rfl) 0 gd.ends d l 0 oM;rw[iN,fW,aV]at this;rw[this,<-ex];rfl
theorem Ik.cells(h:Ik w wr sb B gd fb G c ve vi ids vv vs)(e:gd.ends.length<gd.xs.length) :
 wr.cell? (Hk G<|gd.ends.length*6)=some Hq/\wr.cell? (Hk G<|gd.ends.length*6+1)=some Hq/\wr.cell? (Hk G<|gd.ends.length*6+2)=some (Hp gd.xs[gd.ends.length].te.kind)/\wr.cell? (Hk G<|gd.ends.length*6+3)=some (Hp gd.xs[gd.ends.length].te.a)/\wr.cell? (Hk G<|gd.ends.length*6+4)=some (Hp gd.xs[gd.ends.length].te.to)/\wr.cell? (Hk G<|gd.ends.length*6+5)=some (Hp gd.xs[gd.ends.length].te.els):=by
 let⟨l,i,g,av,j,h,k⟩:=h;have d:=h.fn.blks;have b:=h.nil_ _<|aA _;have a:∀q u,q<6->(UT (i gd.ends.length) (g gd.ends.length) gd.xs[gd.ends.length].te)[q]?=some u->wr.cell? (Hk G<|gd.ends.length*6+q)=some u:=λq u hq f=>d.cell (by
  unfold XF;rw[Xz (λ_ _=>KU _ _ _) 0 gd.xs _ e q hq,aV];exact f)
 refine⟨a 0 _ oM (by rw[b.1];rfl),a 1 _ oM (by rw[b.2];rfl),a 2 _ oM rfl,a 3 _ oM rfl,a 4 _ oM rfl,a 5 _ oM rfl⟩
theorem Ik.cells2{i:Nat}(h:Ik w wr sb B gd fb G c ve vi ids vv vs)(a:gd.ends.length=i)(b:i<gd.xs.length) :
 wr.cell? (Hk G<|i*6)=some Hq/\wr.cell? (Hk G<|i*6+1)=some Hq/\wr.cell? (Hk G<|i*6+2)=some (Hp gd.xs[i].te.kind)/\wr.cell? (Hk G<|i*6+3)=some (Hp gd.xs[i].te.a)/\wr.cell? (Hk G<|i*6+4)=some (Hp gd.xs[i].te.to)/\wr.cell? (Hk G<|i*6+5)=some (Hp gd.xs[i].te.els):=by
 subst a;exact h.cells b
theorem Ik.fn(h:Ik w wr sb B gd fb G c ve vi ids vv vs):wr.cell? (Hk fb 1)=some (Hl G gd.xs.length c)/\wr.cell? (Hk fb 0)=some (Hp gd.v)/\w.heap.size<=wr.heap.size:=by
 let⟨e,f,d,av,a,h,b⟩:=h;exact⟨Bx.cell h.fbx rfl,Bx.cell h.fbx rfl,h.gr.size⟩
theorem Ik.boxed(h:Ik w wr sb B gd fb G c ve vi ids vv vs)(t:Yj):Hz w (wr.alloc<|.cells #[.slice none 0 0,.slice none 0 0,.int .i64 t.kind,.int .i64 t.a,.int .i64 t.to,.int .i64 t.els] 46) sb B gd.s gd.v gd fb G c ve vi ids wr.heap.size t [] [] vv vs:=by
 let⟨a,j,i,av,d,h,g⟩:=h;have k:XW wr (wr.alloc<|.cells #[Hq,Hq,Hp t.kind,Hp t.a,Hp t.to,Hp t.els] 46) a a w.heap.size (λ_=>True):=XW.box _;have f:=h.res.lt;have l:=h.fbx.lt;exact⟨a,j,i,av,d,_,_,h.box _,⟨Bx.new _ _ _,h.fr _<|aA _,f,⟨dA _ _ _ _,λb e=>by cases e⟩,⟨dA _ _ _ _,λb e=>by cases e⟩,g.sp k λ_ _=>trivial⟩,oM⟩
variable {s s': Sr} {v xb: Nat} {t: Yj} {ps: List Ph} {is: List Yg}
theorem Vu.drew{e:Nat->Nat×Nat×Nat}{f d:Nat->Value}{av:Nat->Nat->Value}{b:Nat->Value}{p q:Value}{g:List Xe}{a:List (List Int)}(h:Vu w wr e sb B s fb v G c g f d av ve b a vi ids xb p q t ps is vv vs):Vu w wr.drew e sb B s fb v G c g f d av ve b a vi ids xb p q t ps is vv vs:=h.call ⟨rfl,rfl,rfl,aA _,λ_ _ _=>rfl⟩ h.f.dr.drew
theorem Hz.dr(h:Hz w wr sb B s v gd fb G c ve vi ids xb t ps is vv vs):ZQ wr sb B s:=by
 let⟨d,e,b,av,a,p,q,h⟩:=h;exact h.f.dr
theorem Hz.call(h:Hz w wr sb B s v gd fb G c ve vi ids xb t ps is vv vs)(g:wr.grownBy w' (some sb))(d:ZQ w' sb B s'):Hz w w' sb B s' v gd fb G c ve vi ids xb t ps is vv vs:=by
 let⟨e,f,b,av,a,p,q,h⟩:=h;exact⟨e,f,b,av,a,p,q,h.call g d⟩
theorem Hz.box(h:Hz w wr sb B s v gd fb G c ve vi ids xb t ps is vv vs)(o:Obj):Hz w (wr.alloc o) sb B s v gd fb G c ve vi ids xb t ps is vv vs:=by
 let⟨lab,d,b,av,a,p,q,h⟩:=h;exact⟨lab,d,b,av,a,p,q,h.box o⟩
theorem Hz.below(h:Hz w wr sb B s v gd fb G c ve vi ids xb t ps is vv vs)(k:Below wr.heap.size wr w'):Hz w w' sb B s v gd fb G c ve vi ids xb t ps is vv vs:=by
 let⟨f,g,e,av,a,p,q,h⟩:=h;exact⟨f,g,e,av,a,p,q,h.call ⟨k.os,k.tape,k.output,k.size,λb d _=>k.block b d⟩ (h.f.dr.keep<|k.mono h.f.dr.sB)⟩
theorem Hz.blks(h:Hz w wr sb B s v gd fb G c ve vi ids xb t ps is vv vs):Xp wr w.heap.size wr.heap.size (some ⟨G,0,none⟩) gd.xs:=by
 let⟨d,e,b,av,a,p,q,h⟩:=h;exact h.f.fn.at_
theorem Hz.fn(h:Hz w wr sb B s v gd fb G c ve vi ids xb t ps is vv vs):(wr.cell? (Hk fb 1)=some (Hl G gd.xs.length c)/\wr.cell? (Hk fb 0)=some (Hp v)/\∀q,wr.frozen? (Hk fb q)=false)/\w.heap.size<=wr.heap.size/\xb<wr.heap.size/\fb<wr.heap.size/\xb≠fb:=by
 let⟨d,e,b,av,a,p,q,h⟩:=h;exact⟨⟨Bx.cell h.f.fbx rfl,Bx.cell h.f.fbx rfl,Bx.thaw h.f.fbx⟩,h.f.gr.size,h.x.bx.lt,h.f.fbx.lt,h.ne⟩
theorem Hz.val(h:Hz w wr sb B s v gd fb G c ve vi ids xb t ps is vv vs)(a:Nat):Hz w (wr.setCell ⟨fb,0,none⟩ (.int .i64 a)) sb B s a gd fb G c ve vi ids xb t ps is vv vs:=by
 let⟨e,f,d,av,b,p,q,h⟩:=h;exact⟨e,f,d,av,b,p,q,h.val a⟩
theorem Hz.vals(h:Hz w wr sb B s v gd fb G c ve vi ids xb t ps is vv vs):wr.ownsRow w.heap.size 2 1 vv vs.length (Xt vs)/\(∃a n,vv=.slice a vs.length n/\Xf wr w.heap.size wr.heap.size a vs):=by
 let⟨f,g,d,av,b,p,q,h⟩:=h;refine⟨h.x.xv.own,?_⟩;let⟨a,n,e⟩:=h.x.xv.form;subst e;exact⟨a,n,rfl,h.x.xv.ints⟩
theorem Hz.pushV{b:Nat}{a:Value}{x:Int}(h:Hz w wr sb B s v gd fb G c ve vi ids xb t ps is vv vs)(g:wr.grownBy w' vv.ownBlock)(j:w'.ownsRow w.heap.size 2 1 a b (Xt vs++[Hp x]))(i:b=vs.length+1)(f:a.ownBlock=vv.ownBlock\/a.ownBlock=some wr.heap.size):Hz w w' sb B s v gd fb G c ve vi ids xb t ps is a (vs++[x]):=by
 let⟨n,m,k,av,d,p,q,h⟩:=h;let⟨l,e⟩:=h.pushV g j i f;exact⟨l,m,k,av,d,p,q,e⟩
end
def Kh:Code->List Code
 |.loop c=>[c]
 |.seq a b=>Kh a++Kh b
 |.block _ c=>Kh c
 |.scope c=>Kh c
 |.cond _ a b=>Kh a++Kh b
 |_=>[]
noncomputable def gB:Code:=(f29.body.getD .skip)
noncomputable def Mb:Code:=(Kh gB).getD 0 .skip
noncomputable def Mp:Code:=(Kh gB).getD 1 .skip
noncomputable def M9:Code:=(Kh Mb).getD 0 .skip
noncomputable def M4:Code:=(Kh Mb).getD 1 .skip
noncomputable def Mk:Code:=(Kh Mp).getD 0 .skip
noncomputable def My:Code:=(Kh Mk).getD 0 .skip
theorem Ku(T:Type)(d:T):∀(a:List T)(k:Nat)(f:Nat->T),(∀i (h:i<a.length),f (k+i)=a[i])->a=(List.range' k a.length).map f
 |[],_,_,_=>rfl
 |x::a,k,f,h=>by
  rw[bA,List.range'_succ,eH];have b:=h 0 sP;rw[fW,eM]at b;rw[b];congr 1;exact Ku T d a (k+1) f λi c=>by have:=h (i+1) (by simpa using c);rwa[fO,show k+(i+1)=k+1+i by omega]at this
def ae(f:Nat->Value):Nat->Nat->List Value
 |_,0=>[]
 |i,n+1=>f i::ae f (i+1) n
theorem eo(i:Nat):∀(n:Nat)(a:List Value),a.length=n->∃f:Nat->Value,a=ae f i n:=λn a h=>by
 have d:∀(n:Nat)(a:List Value)(i:Nat)(f:Nat->Value),a.length=n->(∀j,f (i+j)=a.getD j undef)->a=ae f i n:=λn=>by
  induction n with
  |zero=>intro a i f h _;cases a with
   |nil=>rfl
   |cons=>cases h
  |succ n c=>intro a i f h b;cases a with
   |nil=>cases h
   |cons e a=>
    rw[ae,<-c a (i+1) f (by simpa using h) λj=>by have:=b<|j+1;rw[show i+1+j=i+(j+1) by omega];simpa using this];have:=b 0;rw[fW]at this;rw[this];rfl
 exact⟨λk=>a.getD (k-i) undef,d n a i _ h λj=>by rw[Nat.add_sub_cancel_left]⟩
theorem LO(a:List Value)(h:a.length=251):∃f:Nat->Value,a=ae f 24 251:=eo 24 251 a h
theorem Nr:(prog.info? 106).map (λi=>(i.zero,i.size,i.bytes))=some (some<|.agg #[Hp 0,Hq],2,32):=kR
structure X2 where
 j:Nat
 vv:Value
 tl:List Value
theorem NJ{X:Exit->Act->World->Prop}(w:World)(k B:Nat)(S:Sr)(v:Nat)(J:I5)(d G c:Nat)(U V:Value)(P:List Int)(g:Nat)(T:Yj)(R:Bool)(b:List Int)(a:Nat)(c1 c2 c3 c4 c5 H I s t u y z A C D E F:Value)(bo:a<=3)(hv:v<=5000)(bq:b.length<=4000)
 (ad:∀(f:Value)(e:List Value)(w':World),e.length=251->Hz w w' k B S (v+a) J d G c U V P g T (VK a v) [] f (b++ZS a v)->X (.exit 2) ⟨(Hn k::c1::c2::c3::c4::c5::.bool R::Hn d::H::I::s::t::f::Hn g::u::Hp ((a:Nat):Int)::Hp ((a:Nat):Int)::y::z::A::C::D::E::F::e).toArray,[]⟩ w')
 (f:Value) (e:List Value) (wr:World) (i:e.length=251) (Y:Hs (Hz w wr k B S v J d G c U V P g T [] [] f b)) :
 Code.wp prog (Code.loop M9) X ⟨(Hn k::c1::c2::c3::c4::c5::.bool R::Hn d::H::I::s::t::f::Hn g::u::Hp ((a:Nat):Int)::Hp ((0:Nat):Int)::y::z::A::C::D::E::F::e).toArray,[]⟩ wr:=by
 have HX:=Xa ad;clear ad;let⟨i0,ay,a8,a9,ba⟩:=Xq Nr;let⟨j0,az,a5,a6,a7⟩:=Xq Nv;refine iY (λn wr=>∃x:X2,n=⟨(Hn k::c1::c2::c3::c4::c5::.bool R::Hn d::H::I::s::t::x.vv::Hn g::u::Hp ((a:Nat):Int)::Hp ((x.j:Nat):Int)::y::z::A::C::D::E::F::x.tl).toArray,[]⟩/\x.tl.length=251/\x.j<=a/\Hs (Hz w wr k B S (v+x.j) J d G c U V P g T (VK x.j v) [] x.vv (b++ZS x.j v))) (λn _=>a-(intOf<|n.tmps.getD 16 undef).toNat) ⟨⟨0,f,e⟩,rfl,i,aN _,Xa (by
  have:=Y.o;simpa [VK,ZS]using this)⟩ ?_
 clear Y i;rintro n wr⟨⟨j,f,e⟩,rfl,i,hj,h⟩;dsimp only at i hj h |-
 conv=>arg 2;whnf
 obtain⟨bf,rfl⟩:=LO e i;simp only[ae,Nat.reduceAdd];clear i;let⟨bv,pv,iv,av,ev,bz,b1,K⟩:=h.o;obtain⟨pa,b0,rfl⟩:=K.x.xp.form;have m:=Xa K;clear K;rw[KI]at m;have x0:=Bx.c m.x.bx 0;let⟨⟨f1,f0,fz⟩,bp,bt,bl,br⟩:=h.fn;by_cases bn:j<a
 .have a1:(j:Int)<a:=oM;have W:Hs (∃r ln Q,f=.slice r ln Q/\ln=(b++ZS j v).length):=Xa (by let⟨_,r,Q,aq,_⟩:=h.vals;exact⟨r,_,Q,aq,rfl⟩);have q:Hs ((VK j v).length=j/\(b++ZS j v).length=b.length+j):=Xa ⟨KI _ _,by rw[aQ,Ub]⟩;go_wp2_with (at_builtin;refine bT _ rfl _ _ 44 rfl w.heap.size 106 i0 (.agg #[Hp 0,Hq]) 2 32 underlying44 ay a8 a9 ba rfl vZ _ (VK j v).length (Yh Zz<|VK j v) rfl (m.x.xp.own.alloc _) (Hk wr.heap.size 0) 1 1 [Hp<|(v:Int)+(j:Int),Hq] rfl rfl (World.news_of_block<|World.alloc_heap_new _ _) ?c2 ?c3 ?c4 ?c5 ?_)
  case c2=>intro b3 hu;simp at hu;rcases hu with rfl|rfl<;>rfl
  case c3=>unfold maxLen;have:=q.o;omega
  case c4=>have:=q.o;omega
  case c5=>simp;omega
  intro v8 w8 N aj a2 Z;let⟨o,bw,ac⟩:=(m.box _).pushP aj N rfl (by rw[aO];exact Z);obtain⟨g8,ap,rfl,M,L⟩:=Xm N oM;have l:=Xa ac;clear M L a2 Z N aj ac x0 f1 f0 fz h;have k0:=Bx.c o 0;have kz:=Bx.thaw o;have bc:=Xa o;clear o;have ar:(w8.setCell (Hk g 0) (Hl g8 ((VK j v).length+1) ap)).cell? (Hk d 0)=some (Hp<|(v:Int)+(j:Int)):=by
   have:=Bx.cell (q:=0) l.f.fbx rfl;simpa using this
  have ax:=Bx.thaw l.f.fbx;have a4:=l.f.gr.size;rw[Xd]at a4;obtain⟨va,ln,vc,rfl,ao⟩:=W.o;have bb:=Xa ao;clear ao W;rw[q.1]at*;go_wp2_with (at_builtin;refine bT _ rfl _ _ 27 rfl w.heap.size 2 j0 (Hp 0) 1 8 underlying27 az a5 a6 a7 rfl vZ _ (b++ZS j v).length (Xt<|b++ZS j v) rfl (l.x.xv.own.alloc _) (Hk w8.heap.size 0) 1 1 [Hp<|(v:Int)+(j:Int)] rfl rfl ?c1 ?c2 ?c3 ?c4 ?c5 ?_)
  case c2=>rfl
  case c3=>unfold maxLen;have:=Ub j v;omega
  case c4=>have:=Ub j v;omega
  case c5=>omega
  intro v9 w9 O al a3 aa;let⟨bx,ab⟩:=(l.box _).pushV al O sP (by rw[aO,Xd];exact aa);obtain⟨g9,bd,rfl,M,L⟩:=Xm O oM;have p:=Xa ab;clear M L a3 aa O al ab ar ax k0 kz;have bi:w9.cell? (Hk d 0)=some (Hp<|(v:Int)+(j:Int)):=by
   have:=Bx.cell (q:=0) p.f.fbx rfl;simpa using this
  have bm:=Bx.thaw p.f.fbx;go_wp2_with fail
  refine⟨⟨⟨j+1,_,_⟩,rfl,rfl,(by show j+1<=a;omega),Xa ?_⟩,by simp[intOf];omega⟩;have af:=p.val<|v+(j+1);rw[AA,Ap,<-cK];rw[show((v+(j+1):Nat):Int)=(v:Int)+(j:Int)+1 by omega]at af;exact⟨_,_,_,_,_,_,_,af⟩
 have a1:¬(j:Int)<a:=oM;have a0:j=a:=oM;subst a0;go_wp2_with fail
 exact HX _ _ _ rfl h
structure X3 where
 j:Nat
 k:Nat
 s:Sr
 vs:List Int
 v:Nat
 is:List Yg
 vv:Value
 c19:Value
 tl:List Value
theorem Na{a1:Exit->Act->World->Prop}(w:World)(h B:Nat)(L:I5)(l G c:Nat)(Q R:Value)(N:List Int)(p:Nat)(P:Yj)(O:List Ph)(d:Bool)(b:Nat)(s0:Sr)(j:List Int)(i:Nat)(g:List Yg)(c1 c2 c3 c4 c5 c8 c9 U V W X Y Z aa ab ac:Value)(co:b<=10)(hv:i<=4000)(cs:j.length<=4000)(cm:g.length<=1000)
 (a6:∀(s:Sr)(v:Nat)(a:List Int)(e:List Yg)(t C:Value)(o:List Value)(w':World),o.length=251->(e,a,v,s)=Z9 d b s0 j i g->Hz w w' h B s v L l G c Q R N p P O e t a->a1 (.exit 4) ⟨(Hn h::c1::c2::c3::c4::c5::.bool d::Hn l::c8::c9::U::V::t::Hn p::W::X::Y::Hp ((b:Nat):Int)::Hp ((b:Nat):Int)::C::Z::aa::ab::ac::o).toArray,[]⟩ w')
 (t C:Value) (o:List Value) (wr:World) (y:o.length=251) (a2:Hs (Hz w wr h B s0 i L l G c Q R N p P O g t j)) :
 Code.wp prog (Code.loop M4) a1 ⟨(Hn h::c1::c2::c3::c4::c5::.bool d::Hn l::c8::c9::U::V::t::Hn p::W::X::Y::Hp ((b:Nat):Int)::Hp ((0:Nat):Int)::C::Z::aa::ab::ac::o).toArray,[]⟩ wr:=by
 have HX:=Xa a6;clear a6;let⟨i0,bm,b7,b8,ca⟩:=Xq Nm;let⟨j0,bn,bz,b5,b6⟩:=Xq Nv;refine iY (λH wr=>∃x:X3,H=⟨(Hn h::c1::c2::c3::c4::c5::.bool d::Hn l::c8::c9::U::V::x.vv::Hn p::W::X::Y::Hp ((b:Nat):Int)::Hp ((x.j:Nat):Int)::x.c19::Z::aa::ab::ac::x.tl).toArray,[]⟩/\x.tl.length=251/\x.j+x.k=b/\Hs (Z9 d x.k x.s x.vs x.v x.is=Z9 d b s0 j i g)/\Hs (x.v<=i+x.j/\x.vs.length<=j.length+x.j/\x.is.length<=g.length+x.j)/\Hs (Hz w wr h B x.s x.v L l G c Q R N p P O x.is x.vv x.vs)) (λH _=>b-(intOf<|H.tmps.getD 18 undef).toNat) ⟨⟨0,b,s0,j,i,g,t,C,o⟩,rfl,y,by show 0+b=b;omega,Xa rfl,Xa ⟨aA _,aA _,aA _⟩,a2⟩ ?_;clear a2 y;rintro H wr⟨⟨n,r,s,a,v,e,t,C,o⟩,rfl,y,bp,E,f,k⟩;dsimp only at y bp E f k |-
 conv=>arg 2;whnf
 obtain⟨ck,rfl⟩:=LO o y;simp only[ae,Nat.reduceAdd];clear y;cases r with
 |succ r=>
  have br:(n:Int)<b:=oM;let⟨⟨f1,J,K⟩,cp,cw,cl,cv⟩:=k.fn;let⟨_,va,vc,I,a9⟩:=k.vals;let⟨ln,ap⟩:∃ln,ln=a.length:=⟨_,rfl⟩;rw[<-ap]at I;subst I;have ax:=Xa ap;clear ap;have az:=Xa a9;clear a9;have cr:v<=5000:=oN f.o;have bq:ln<=5000:=oP f.o ax.o;go_wp2_with fail
  have bw:h<w.heap.size:=by let⟨cb,pv,iv,av,I,cc,cd,q⟩:=k.o;exact q.f.lt
  refine(zh h B s va ln vc a w.heap.size wr.heap.size v d wr (Xa k.dr) az ax bq bw (aA _)).mono ?_;rintro ad z⟨rfl,m,hg⟩;have S:Hs ((if dB (E2 s a v d).1.op=true then Z9 d r (E2 s a v d).2 (a++[(v:Int)]) (v+1) (e++[(E2 s a v d).1])else Z9 d r (E2 s a v d).2 a v (e++[(E2 s a v d).1]))=Z9 d b s0 j i g):=E;generalize E2 s a v d=bi at*;let⟨x,s'⟩:=bi;unfold Yg.agg;dsimp only at m S |-;have T:=Xa<|k.call hg m;clear m hg E k az f1 J K;go_wp2_with fail
  have u:=Xa<|T.box (.cells #[Hp x.op,Hp x.dst,Hp x.a,Hp x.b,Hp x.imm] 48);have F:Hs (Bx (z.alloc<|.cells #[Hp x.op,Hp x.dst,Hp x.a,Hp x.b,Hp x.imm] 48) z.heap.size #[Hp x.op,Hp x.dst,Hp x.a,Hp x.b,Hp x.imm] 48):=Xa<|Bx.new _ _ _;have bd:Hs (z.heap.size≠l/\z.heap.size≠p):=Xa<|oN T.fn;clear T;generalize z.alloc _=w2 at*;generalize z.heap.size=ib at*;refine(ix x.op w2).mono ?_;rintro ad w3⟨rfl,bx⟩;subst bx
  go_upto_if 167 with fail
  go_cut [12]from 154 to 182 λbl wx=>Hs (Bx wx ib #[Hp x.op,Hp x.dst,Hp x.a,Hp x.b,Hp x.imm] 48)/\Hs (Hz w wx h B s' (if dB x.op=true then v+1 else v) L l G c Q R N p P O e bl (if dB x.op=true then a++[(v:Int)]else a))
  case first=>
   cases m:dB x.op with
   |false=>
    go_wp2;go_meet;rw[aM (by rw[m];simp),aM<|by rw[m];simp];exact⟨F,u⟩
   |true=>
    obtain⟨⟨f1,J,K⟩,cq,-⟩:=u.fn;go_wp2_with (at_builtin;refine bT _ rfl _ _ 27 rfl w.heap.size 2 j0 (Hp 0) 1 8 underlying27 bn bz b5 b6 rfl vZ _ a.length (Xt a) rfl (u.vals.1.alloc _) (Hk w3.heap.size 0) 1 1 [Hp v] rfl rfl ?c1 ?c2 ?c3 ?c4 ?c5 ?_)
    case c1=>exact Yf _ _ _
    case c2=>intro ce D;simp at D;subst D;rfl
    case c3=>unfold maxLen;have:=f.o;omega
    case c4=>have:=f.o;omega
    case c5=>simp;omega
    intro v9 w9 ar aj bv a4;have ay:=Xa ((u.box _).pushV aj ar rfl (by rw[aO];exact a4));have bc:=Xa ((F.box _).grown aj λad=>Z5 u.vals.1 F vZ ad.symm);obtain⟨g9,cj,rfl,al,af⟩:=Xm ar oM;clear al af bv a4 ar aj J K f1;obtain⟨⟨f1,J,K⟩,-⟩:=ay.fn;go_wp2;go_meet;have a7:=ay.val<|v+1;rw[show((v+1:Nat):Int)=(v:Int)+1 by omega]at a7;rw[aU m,aU m];exact⟨Xa<|bc.other bd.1,Xa a7⟩
  let⟨A,bf⟩:=hcut;clear u F;have a0:Hs ((if dB x.op=true then v+1 else v)<=i+(n+1)/\(if dB x.op=true then a++[(v:Int)]else a).length<=j.length+(n+1)):=Xa (by
   have:=f.o;split;·simp;omega
   omega)
  have bb:Hs (Z9 d r s' (if dB x.op=true then a++[(v:Int)]else a) (if dB x.op=true then v+1 else v) (e++[x])=Z9 d b s0 j i g):=Xa (by
   rw[<-S.o];split<;>rfl)
  generalize (if dB x.op=true then v+1 else v)=v1 at*;generalize (if dB x.op=true then a++[(v:Int)]else a)=cf at*;clear S;let⟨cb,pv,iv,av,I,cc,cd,q⟩:=bf.o;let⟨qa,cz,hq⟩:=q.x.xi.form;let⟨il,ao⟩:∃il,il=e.length:=⟨_,rfl⟩;rw[<-ao]at hq;subst hq;have cg:=Xa ao;clear ao;have x1:=Bx.c q.x.bx 1;have b0:=Bx.c A 0;have b1:=Bx.c A 1;have b2:=Bx.c A 2;have b3:=Bx.c A 3;have b4:=Bx.c A 4;have HB:=Xa q;have ct:=q.f.gr.size;clear q;go_wp2_with (at_builtin;refine bT _ rfl _ _ 38 rfl w.heap.size 48 i0 (.agg #[Hp 0,Hp 0,Hp 0,Hp 0,Hp 0]) 5 40 underlying38 bm b7 b8 ca rfl vZ _ e.length (YC e) rfl (HB.x.xi.own.alloc _) (Hk wc.heap.size 0) 1 1 [Hp x.op,Hp x.dst,Hp x.a,Hp x.b,Hp x.imm] rfl rfl (World.news_of_block<|World.alloc_heap_new _ _) ?c2 ?c3 ?c4 ?c5 ?_)
  case c2=>intro ce D;simp at D;rcases D with rfl|rfl|rfl|rfl|rfl<;>rfl
  case c3=>unfold maxLen;have:=f.o;omega
  case c4=>have:=f.o;omega
  case c5=>simp;omega
  intro v8 w8 aq a8 bt a3;let⟨M,cx,a5⟩:=(HB.box _).pushI a8 aq rfl (by rw[aO];exact a3);obtain⟨g8,ci,rfl,al,af⟩:=Xm aq oM;have ba:=Xa a5;clear al af bt a3 aq a8 a5 x1 b0 b1 b2 b3 b4;have k0:=Bx.c M 1;have kz:=Bx.thaw M;have ch:=Xa M;clear M;go_wp2_with fail
  refine⟨⟨⟨n+1,r,s',cf,v1,e++[x],_,_,_⟩,rfl,rfl,(by show n+1+r=b;omega),bb,Xa ⟨a0.1,a0.2,?_⟩,Xa ⟨_,_,_,_,_,_,_,ba⟩⟩,by simp[intOf];omega⟩;have:=f.o;show(e++[x]).length<=g.length+(n+1);simp;omega
 |zero=>
  have br:¬(n:Int)<b:=oM;have bo:n=b:=oM;subst bo;go_wp2_with fail
  exact HX _ _ _ _ _ _ _ _ rfl E k
end Go.Proofs.YtffcajcgkblkoaaGreatDoor
