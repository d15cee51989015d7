import Derived.Test.YtffcajcgkblkoaaGreatDoorML3
namespace Go.Proofs.YtffcajcgkblkoaaGreatDoor
set_option maxHeartbeats 4000000
set_option maxRecDepth 100000
open Go.RowKit Go.Proofs.Tryz
variable{x:List Xe}{n:Nat}
theorem Nz:(prog.info? 67).map (λi=>(i.zero,i.size,i.bytes))=some (some<|.agg #[Hq],1,24):=kR
theorem j6(a:Jy n x)(b:Nat):(Tu x b).length<=4000:=by
 unfold Tu;cases h:x[b]? with
 |none=>exact aN _
 |some c=>simp only[Z2,bK];exact(a.lens c<|eN h).1
theorem pS(V:Nat)(U:Option Addr)(n c:Nat)(a:List Xe)(cg a8:Nat)(w:World)(ha:Hs (Xp w cg a8 U a))(I:Hs (n=a.length))(hB:a8<=w.heap.size)(C:Hs (Jy V a)) :
 Calls prog 21 #[.agg #[Hp V,.slice U n c]] w λl w'=>Fg w w' n V a l:=by
 have hn:n<=1000:=oP I.o C.okf.n2;have hV:=C.vle;have a6:Below w.heap.size w (w.alloc<|.cells #[.int .i64 (V:Int),.slice U n c] 25):=Xb (Below.refl _ _) _;have b3:=Xa<|qR V U n c a cg a8 _ (Xa<|ha.keep (a6.mono hB)) I (oN a6.size) C;have cq:(w.alloc<|.cells #[.int .i64 (V:Int),.slice U n c] 25).cell? ⟨w.heap.size,0,none⟩=some (.int .i64 (V:Int)):=by simp[go_sem]
 obtain⟨i0,d3,ei,ej,ek⟩:=Xq Nz
 go_in
 go_wp2_with fail
 refine b3.mono ?_;rintro l J⟨af,cf,rfl,bn,cm⟩;have dn:=Xa<|Xg a6 bn;have g0:=oB bn cq sP;have ba:=Xa cm;have em:w.heap.size<J.heap.size:=aI J _ g0;clear bn a6 cq b3 cm;obtain⟨y,of,ds⟩:∃y of,af=some ⟨y,of,none⟩:=by
  obtain⟨b,ep,_,l,_⟩:=ba 0<|oP I.o C.okf.n1;exact⟨b,ep,l⟩
 subst ds;have ad:=Xa ba.at_;clear ba;go_wp2_with fail
 obtain⟨m,hm⟩:∃m:Nat->Nat,m=λs=>(Tu a s).length+1:=⟨_,rfl⟩;have bi:Hs (∀s,m s=(Tu a s).length+1):=Xa (λs=>by rw[hm]);have es:Hs (∀s,m s<=4001):=Xa (λs=>by rw[hm];have:=j6 C s;show(Tu a s).length+1<=4001;omega);clear hm;have ce:=Xa<|Lz.start J m;generalize J.alloc _=w2 at*
 go_loopw [4,5] (λc6 i wr=>∃(b:Nat)(G:Nat->Nat),b<=n/\i=.int .i64 b/\Hs (Lz J wr c6 b m G)) λ_ i _=>n-(intOf i).toNat
 case atStart=>exact⟨0,λ_=>0,aN _,rfl,ce⟩
 obtain⟨b,G,hb,rfl,o⟩:=hrel;clear ce;by_cases M:b<n
 .have aa:b<a.length:=oN I.o;obtain⟨a0,n0,a1,n1,a2,n2,a3,n3,a4,d,a5,n5,c0,c1,c2,c3,c4,c5,dw,_,_,_,_,x4,_,_,_,_,eb,_,L⟩:=YQ.row C ad o.low aa;have dj:Hs (d+1=m b):=Xa (by rw[bi.o,L.d.1]);have a7:=J9 (P:=prog) 65 69 (.agg #[.slice none 0 0]) 1 24 underlying65 N1 (d+1) oM oM;rw[show((d+1:Nat):Int)=(d:Int)+1 by omega]at a7;have eg:IntKind.i64.wrap ((d:Int)+1)=(d:Int)+1:=by rw[dF];omega
  have HO:=Xa o.own;have Z:y<wr.heap.size:=aI wr _ x4;clear L;go_wp2_with (at_builtin;refine bT _ rfl _ _ 63 rfl J.heap.size 67 i0 (.agg #[.slice none 0 0]) 1 24 underlying63 d3 ei ej ek rfl vZ _ _ _ rfl ((HO.alloc _).alloc _) ⟨wr.heap.size+1,0,none⟩ 1 1 [.slice (some ⟨wr.heap.size,0,none⟩) (d+1) (d+1)] rfl rfl ?c1 ?c2 ?c3 ?c4 ?c5 ?_)
  case c1=>
   have A:=Yf (wr.alloc<|.cells (madeCells #[.slice none 0 0] (d+1)) 69) (.slice (some ⟨wr.heap.size,0,none⟩) (d+1) (d+1)) 67;rw[aO]at A;exact A
  case c2=>intro c6 hu;simp at hu;subst hu;rfl
  case c3=>unfold maxLen;omega
  case c4=>omega
  case c5=>simp;have:=o.low.size;omega
  intro v8 Q bq bo _ du;rw[dj.o]at bq bo;have dk:=Xa<|o.push bo bq;clear bq bo du;go_wp2;exact⟨⟨b+1,_,oM,gM,dk⟩,by simp[intOf];omega⟩
 have d0:n=b:=oM;subst d0;have ea:0<n:=oP I.o C.okf.n1
 obtain⟨O,cO,rfl,_,_⟩:=Xm o.own ea;have b8:Hs (∀s,s<n->wr.cell? ⟨O,s,none⟩=some (.slice (some ⟨G s,0,none⟩) (m s) (m s))):=Xa (λs e=>by
  exact Jj o.own (j:=s) (by simp[e]))
 have cb:=Xa<|o.own.lt O rfl;have ca:Hs (∀s,s<n->O≠G s):=Xa (λs e l=>by
  obtain⟨cc,B,_⟩:=(o.row s e).2;rcases o.own.2 with⟨e1,_⟩|⟨g,cap,cur,e1,_,r,_⟩;·cases e1
  injection e1 with e1
  injection e1 with e1;injection e1 with e1;subst e1;rw[l,show wr.heap[G s]?=_ from B]at r;injection r with r;injection r with _ h3;exact absurd h3 vZ)
 have b0:Hs (Ie wr wr n G m λs i=>UU a 0 s i):=Xa ⟨rfl,rfl,rfl,aA _,λ_ _ _=>rfl,λ_ _=>.slice none 0 0,⟨λs e=>(o.row s e).2.lt,o.ne,λs e=>(o.row s e).2,λs i _ _=>by rw[AD];exact dA _ _ _ _,λs i s' j _ _ _ _ _=>bC rfl⟩⟩;have bb:=Xa λs e=>(o.row s e).1;have ac:=Xa o.low;have g1:=o.low.size;clear o hb M;go_wp2_with fail
 generalize wr=P at*;have aj:Hs (∀wr ch,Ie P wr n G m ch->Below J.heap.size J wr):=Xa λwr ch A=>⟨A.os.trans ac.os,A.tape.trans ac.tape,A.output.trans ac.output,oN A.size,λq hq=>(A.fr q oM λs e=>by have:=bb s e;omega).trans (ac.block q hq)⟩
 go_loopw [6] (λi wr=>∃v:Nat,v<=V/\i=.int .i64 v/\Hs (Ie P wr n G m λs i=>UU a v s i)) λi _=>V-(intOf i).toNat
 case atStart=>exact⟨0,aN _,rfl,b0⟩
 clear b0;obtain⟨v,gv,rfl,F⟩:=hrel;have k0:=oB (aj _ _ F) g0 em;by_cases d5:v<V
 .have bt:=Xa<|yC V v n cf y of a wr (Xa<|ad.keep (aj _ _ F)) I C;go_wp2_with fail
  refine bt.mono ?_;rintro l w4⟨D,rfl,co,ct,u,cx,cw⟩;have b1:=Xa ((F.below co).congr λs i _ _=>(Dp a v s i).symm);have R:=Xa cx;have b4:=Xa cw;have c9:=Xa<|aJ F.size ct;clear co ct cx cw F bt k0;go_wp2_with fail
  generalize wr=wo at*
  go_loopw [8] (λi wr=>∃b:Nat,b<=n/\i=.int .i64 b/\Hs (Ie P wr n G m<|pQ a v b 0)/\Hs (wr.rowIs D 4 n λz=>.bool (u z))) λi _=>n-(intOf i).toNat
  case atStart=>exact⟨0,aN _,rfl,b1,R⟩
  clear b1 R;obtain⟨b,hb,rfl,ap,R⟩:=hrel;by_cases M:b<n
  .have aa:b<a.length:=oN I.o;have N:=Xa<|aj.o _ _ ap;obtain⟨a0,n0,a1,n1,a2,n2,a3,n3,a4,d,a5,n5,c0,c1,c2,c3,c4,c5,dw,_,x1,_,x3,x4,x5,_,gs,_,eb,gt,L⟩:=YQ.row C ad N aa;have K:=Xa L;have bv:=Xa L.d.1;have b7:Hs (m b=d+1):=Xa (by rw[bi.o,<-L.d.1]);have a7:=fM (P:=prog) 97 4 (.bool false) 1 underlying97 No rfl .i64 .i64 (d+1) oM oM;rw[show((d+1:Nat):Int)=(d:Int)+1 by omega]at a7;have eg:IntKind.i64.wrap ((d:Int)+1)=(d:Int)+1:=by rw[dF];omega
   have Z:y<wr.heap.size:=aI wr _ x4;clear L
   go_upto_region 16 with fail
   have S:Hs (I9 wr (wr.alloc<|.cells (madeCells #[.bool false] (d+1)) 4) D n u wr.heap.size (d+1) (LS a b v d)):=Xa ⟨Xb (Below.refl _ _) _,R.lt,R.alloc _,aA _,UC (C:=Value.bool) (dG wr (.bool false) (d+1) 4) λz hz=>(Dw hz).symm⟩;generalize ee:wr.alloc (.cells (madeCells #[.bool false] (d+1)) 4)=w5 at*;clear ee
   go_cut [11]from 44 to 176 λcc E=>cc=.bool (Ir a b v d)/\Hs (I9 wr E D n u wr.heap.size (d+1) (LS a b v d))
   case first=>
    have b5:=Xa<|xj V v n cf y of D b a u w5 (Xa<|ad.keep (Xg N S.low)) I C M (Xa S.lr) b4;go_wp2_with fail
    refine b5.mono ?_;rintro l w6⟨s,rfl,cz,cp⟩;have T:=Xa<|S.below cp;have ay:=Xa<|Dr aa cz;rw[<-bv.o]at ay;have y5:=oB T.low x5 Z;have da:=Xa (YF a5 n5 c5 (v:Int) (L5 a b) 0 w6.heap.size w6 (Xa<|(K.u.2.keepS λq _ r=>T.low.block q<|oN N.size).mono (aA _) (oP T.low.size N.size)) (Xa K.u.1) oM);clear cp cz S b5;cases s with
    |true=>
     go_wp2;go_meet;exact⟨by rw[ay.o,Bool.true_or],T⟩
    |false=>
     rw[jV]at ay;go_wp2_with fail
     refine da.mono ?_;rintro l Q⟨rfl,t⟩;have X:=t.symm;subst X;rw[<-ay.o];go_wp2;go_meet;exact⟨rfl,T⟩
   obtain⟨rfl,h⟩:=hcut;clear S x5 a7;have eq:=N;have g2:=N.size;generalize wr=f at*;go_wp2
   go_loopw [11,12] (λnw i E=>∃k:Nat,k<=d/\i=.int .i64 k/\nw=.bool (Ir a b v k)/\Hs (I9 f E D n u f.heap.size (d+1) (LS a b v k))) λ_ i _=>(intOf i).toNat
   case atStart=>exact⟨d,aA _,rfl,rfl,h⟩
   clear h;obtain⟨k,hk,rfl,rfl,h⟩:=hrel;cases k with
   |succ j=>
    have hj:j<(Tu a b).length:=oN bv.o;have bp:j<(I8 a b).length:=by rw[DZ];exact hj
    have p:=Xa<|A6 (xs:=a) (b:=b) (v:=v) hj;have H:=Xa<|AS (xs:=a) (b:=b) (v:=v) hj bp;obtain⟨bd,od,ed,gb,cd⟩:=K.d.2 j hj;obtain⟨br,or,er,ge,ar,cr,cj,cl⟩:=K.r.2 j bp;have dl:Hs (((I8 a b)[j]).length<=1048576):=Xa<|aJ (BT a b _<|aH bp) vZ;subst ed er;generalize (Tu a b)[j]=bm at*;generalize (I8 a b)[j]=rj at*;have z4:=oB h.low x4 Z;have z3:=oB h.low x3 Z;have zd:=(XU h.low oM).trans cd;have zr:=(XU h.low oM).trans cj;have bc:=Xa λW (Y:Below f.heap.size f W)=>YF ar rj.length cr (v:Int) rj 0 W.heap.size W (Xa<|(cl.keep (λq B r=>Y.block q B) Y.size).at_) (Xa rfl) dl;have ci:=h.ir.cell (i:=j+1) oM;have fi:=h.ir.frozen<|j+1;have gx:IntKind.i64.wrap ((j:Int)+1-1)=(j:Int):=by rw[dF];omega
    have gz:IntKind.i64.wrap (j:Int)=(j:Int):=by rw[dF];omega
    have gm:(j:Int)<(d:Int):=oM;have gp:(j:Int)<(n3:Int):=oN K.r.1;have gi:(j:Int)+1<(d:Int)+1:=oM;have gc:bd<wr.heap.size:=aI wr _ zd;have gf:br<wr.heap.size:=aI wr _ zr;have gd:y<wr.heap.size:=aI wr _ z4;have ab:y≠f.heap.size/\bd≠f.heap.size/\br≠f.heap.size:=oM;have cs:=ab.1;have d1:=ab.2.1;have d2:=ab.2.2;clear cd cj cl ab;have g3:=λq=>(bH wr ⟨f.heap.size,j+1,none⟩ ⟨y,of+b*6+3,none⟩ q (kA cs)).trans z3;have g4:=λq=>(bH wr ⟨f.heap.size,j+1,none⟩ ⟨y,of+b*6+4,none⟩ q (kA cs)).trans z4;have g5:=λq=>(bH wr ⟨f.heap.size,j+1,none⟩ ⟨bd,od+j,none⟩ q (kA d1)).trans zd;have g6:=λq=>(bH wr ⟨f.heap.size,j+1,none⟩ ⟨br,or+j,none⟩ q (kA d2)).trans zr;generalize Ir a b v (j+1)=nw at*;have x:Hs (∀(q q':Bool),q=Ia a b (j+1) v->q'=Ir a b v j->(.bool q':Value)=.bool (Ir a b v j)/\I9 f (wr.setCell ⟨f.heap.size,j+1,none⟩ (.bool q)) D n u f.heap.size (d+1) (LS a b v j)):=Xa (λq q' B r=>⟨by rw[r],(h.set (j+1) q).congr λz _=>Ba B z⟩);have bl:=Xa λq=>(h.set (j+1) q).low;by_cases hd:bm=(v:Int)
    .subst hd;rw[eB rfl]at p H;cases nw
     all_goals (
      go_wp2_with fail
      refine(bc _<|bl true).mono ?_;rintro l Q⟨rfl,t⟩;subst t;generalize Bs rj (v:Int)=hr at*;cases hr with
      |true=>
       go_wp2_with fail
       obtain⟨e1,e2⟩:=x true true (by rw[p.o];rfl) (by rw[H.o];rfl);exact⟨⟨j,oM,gM,e1,Xa e2⟩,by simp[intOf]⟩
      |false=>
       go_wp2_with fail
       obtain⟨e1,e2⟩:=x true false (by rw[p.o];rfl) (by rw[H.o];rfl);exact⟨⟨j,oM,gM,e1,Xa e2⟩,by simp[intOf]⟩)
    rw[dJ hd]at p H;have gg:(bm==(v:Int))=false:=by simpa using hd
    have gh:(bm != (v:Int))=true:=by simpa using hd
    cases nw with
    |true=>
     go_wp2_with fail
     refine(bc _<|bl true).mono ?_;rintro l Q⟨rfl,t⟩;subst t;generalize Bs rj (v:Int)=hr at*;cases hr with
     |true=>
      go_wp2_with fail
      obtain⟨e1,e2⟩:=x true true (by rw[p.o];rfl) (by rw[H.o];rfl);exact⟨⟨j,oM,gM,e1,Xa e2⟩,by simp[intOf]⟩
     |false=>
      go_wp2_with fail
      obtain⟨e1,e2⟩:=x true true (by rw[p.o];rfl) (by rw[H.o];rfl);exact⟨⟨j,oM,gM,e1,Xa e2⟩,by simp[intOf]⟩
    |false=>
     go_wp2_with fail
     refine(bc _<|bl false).mono ?_;rintro l Q⟨rfl,t⟩;subst t;generalize Bs rj (v:Int)=hr at*;cases hr with
     |true=>
      go_wp2_with fail
      obtain⟨e1,e2⟩:=x false true (by rw[p.o];rfl) (by rw[H.o];rfl);exact⟨⟨j,oM,gM,e1,Xa e2⟩,by simp[intOf]⟩
     |false=>
      go_wp2_with fail
      obtain⟨e1,e2⟩:=x false false (by rw[p.o];rfl) (by rw[H.o];rfl);exact⟨⟨j,oM,gM,e1,Xa e2⟩,by simp[intOf]⟩
   |zero=>
    clear x3 x4
    go_upto_region 22 with fail
    have bx:=Xa λW (Y:Below f.heap.size f W)=>YF a1 n1 c1 (v:Int) (LJ a b) 0 W.heap.size W (Xa<|(K.p.2.keepS λq _ r=>Y.block q oM).mono (aA _) (oN Y.size)) (Xa K.p.1) oM;have ax:Hs (Ia a b 0 v=(u b||Bs (LJ a b) (v:Int))):=Xa (by
     rw[Ar,nN];congr 1;rw[eQ,Dg aa,b4.o b M])
    go_cut []from 44 to 176 λE=>Hs<|I9 f E D n u f.heap.size (d+1) λz=>Ia a b z v
    case first=>
     have kl:=h.lr.cell M;have ci:=h.ir.cell (i:=0) oM;have fi:=h.ir.frozen 0;have z1:=oB h.low x1 Z;have x:=Xa λq B=>(h.set 0 q).congr λz _=>Cq B z;have a9:=Xa<|bx.o _ h.low;generalize Bs (LJ a b) (v:Int)=ph at*;generalize u b=lb at*;cases lb with
     |false=>
      go_wp2_with fail
      refine a9.mono ?_;rintro l Q⟨rfl,t⟩;have X:=t.symm;subst X;go_wp2;go_meet;exact Xa<|x.o _ (by rw[ax.o];rfl)
     |true=>
      go_wp2_with fail
      refine a9.mono ?_;rintro l Q⟨rfl,t⟩;have X:=t.symm;subst X;cases ph with
      |false=>
       go_wp2;go_meet;exact Xa<|x.o _ (by rw[ax.o];rfl)
      |true=>
       go_wp2_with fail
       refine a9.mono ?_;rintro l w9⟨rfl,ef⟩;have e9:=ef.symm;subst e9;go_wp2;go_meet;exact Xa<|x.o _ (by rw[ax.o];rfl)
    have az:=hcut;have b6:=Xa<|ap.below az.low;have bw:=Xa az.lr;have bz:=Xa az.ir;have ab:=az.ir.lt;clear hcut h bx ax x1;have el:=ap.size;go_wp2_with fail
    generalize wr=wp at*
    go_loopw [13] (λi E=>∃k:Nat,k<=d+1/\i=.int .i64 k/\Hs (Ie P E n G m<|pQ a v b k)/\Hs (E.rowIs D 4 n λz=>.bool (u z))/\Hs (E.rowIs f.heap.size 4 (d+1) λz=>.bool (Ia a b z v))) λi _=>d+1-(intOf i).toNat
    case atStart=>exact⟨0,aN _,rfl,b6,bw,bz⟩
    clear b6 bw bz;obtain⟨k,hk,rfl,aq,al,ao⟩:=hrel;by_cases cv:k<d+1
    .have ck:=ao.cell cv;have gq:(k:Int)<=(d:Int):=oM;have gr:(k:Int)<(d:Int)+1:=oM;cases hps:Ia a b k v with
     |false=>
      rw[hps]at ck;have p:=Xa hps;clear hps;go_wp2;exact⟨⟨k+1,oM,gM,Xa (aq.congr λs i _ _=>EI p s i),al,ao⟩,by simp[intOf];omega⟩
     |true=>
      rw[hps]at ck;have p:=Xa hps;clear hps;go_wp2_with fail
      refine Ew V v n cO O b k d D f.heap.size a u G m P wr _ _ _ _ _ _ _ _ _ _ _ _ _ _ _ _ _ _ _ _ _ _ _ _ _ _ _ _ _ _ _ _ _ _ _ _ _ _ _ _ _ _ _ _ _ _ _ _ _ _ _ _ _ _ _ _ _ _ _ _ _ _ _ _ _ _ _ _ _ _ _ _ _ _ _ _ _ _ _ _ _ _ _ _ _ _ _ _ _ _ _ _ _ _ _ _ _ _ _ _ _ _ _ _ _ _ _ _ _ _ _ _ _ _ _ _ _ _ _ _ _ _ _ _ _ _ _ _ _ _ _ _ _ _ _ _ _ _ _ _ _ _ _ _ _ _ _ _ _ _ _ _ _ _ _ _ _ _ _ _ _ _ _ _ _ _ _ _ _ _ _ _ _ _ _ (Xa λ_ _ _ _ _ A=>A) d5 hV M cv b7 aq al ao p (Xa<|b8.o b M) ca cb.2 c9 (Xa el) (Xa ?_);intro eu ev ey ez e0 e6 e7 fa fb fc fe fl fq fr fs fx fz f0 f7 ga w9 c7 c8 db;clear aq al ao ck;go_wp2;exact⟨⟨k+1,oM,gM,c7,c8,db⟩,by simp[intOf];omega⟩
    have d4:k=d+1:=oM;subst d4;have di:=Xa (aq.congr λs i _ hi=>Cx (m:=d+1) λl=>by subst l;rw[<-b7.o];exact hi);go_wp2;exact⟨⟨b+1,oM,gM,di,al⟩,by simp[intOf];omega⟩
  have dc:Hs (Ie P wr n G m λs i=>UU a (v+1) s i):=Xa (ap.congr λs i e _=>by rw[show b=n by omega];exact DX a v n i e);go_wp2;exact⟨⟨v+1,oM,gM,dc⟩,by simp[intOf];omega⟩
 have ec:v=V:=oM
 subst ec;have df:Hs (∀s,s<n->wr.cell? ⟨O,s,none⟩=some (.slice (some ⟨G s,0,none⟩) ((Tu a s).length+1) ((Tu a s).length+1))/\w.heap.size<=G s/\XR wr w.heap.size wr.heap.size (some ⟨G s,0,none⟩) ((List.range<|(Tu a s).length+1).map (UU a v s))):=Xa (λs e=>by
  obtain⟨et,hU⟩:=F.db;have B:=F.cell (λs e=>ca s e) (b8 s e);have r:=hU.ints e (L:=w.heap.size) (oN<|bb s e);rw[bi.o]at B r;exact⟨B,oN<|bb s e,r⟩)
 have dd:=Xa<|aj.o _ _ F;go_wp2;go_ret;exact⟨O,cO,G,rfl,dn.trans<|dd.mono oM,oN cb.1,df⟩
end Go.Proofs.YtffcajcgkblkoaaGreatDoor
