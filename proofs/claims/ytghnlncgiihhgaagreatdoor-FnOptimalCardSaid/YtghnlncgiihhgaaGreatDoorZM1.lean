import Derived.Test.YtghnlncgiihhgaaGreatDoorAL1
import Derived.Test.YtghnlncgiihhgaaGreatDoorMQ3
import Derived.Test.YtghnlncgiihhgaaGreatDoorSPt
namespace Go.Proofs.YtghnlncgiihhgaaGreatDoor
set_option maxHeartbeats 4000000
set_option maxRecDepth 100000
open Go.RowKit Go.Shelf Go.Proofs.Tryz
variable{t T:Int}{l L:List Int}{s:List Nat}{x:List Xe}{n m k B g i c:Nat}{f F:Nat->Nat}{p:Option Addr}{w v:World}{q:Xe}
section
attribute [local go_sem] Oper.semAt_some
theorem Wx(n:Nat)(a b:Value)(w:World) :
 CallsIn Fence.wide n prog 24 #[.agg #[a,b]] w fun e c=>e=.returned (.func (.func 59) #[] #[.pointer (some ⟨w.heap.size,0,none⟩)])/\c=w.alloc (.cells #[a,b] 25):=by
 refine iD func24 rfl trivial ?_ rfl;simp only[ntmps24,xY,Nat.reduceAdd,Nat.reduceSub]
 gi_wp2
 go_ret
 exact⟨rfl,rfl⟩
theorem oz(n a B z:Nat):OwnFrom B (gm n a z):=fun p A V row h k q=>by
 have b:=ii n p.i a B z p A V row ⟨⟨aA _,h.1⟩,h.2⟩ k q;exact⟨h.1,b.2⟩
theorem k9{n a z:Nat}{p:Sd}{V V':World}(h:gm n a z p V)(k:Below V.heap.size V V'):gm n a z p V':=⟨h.1,h.2.1.of_block (k.block z h.2.1.lt),h.2.2⟩
def mxL{a:Type}(l:List (List a)):Nat:=(l.map List.length).foldl max 0
theorem pw{a:Type}(l:List (List a))(x:List a):mxL (l++[x])=max (mxL l) x.length:=by unfold mxL;rw[bG,dT];rfl
structure MxI(w6:World)(Bm p:Nat)(pre:List Sd)(V:World):Prop where
 os:V.os=w6.os
 tape:V.tape=w6.tape
 output:V.output=w6.output
 size:w6.heap.size<=V.heap.size
 bl:Bm<w6.heap.size
 fr:∀q,q<w6.heap.size->q≠Bm->V.heap[q]?=w6.heap[q]?
 mx:V.rowIs Bm 3 1 (fun _=>.int .i64 (mxL (pre.map (sdW p)):Int))
section
variable {w6 V V' : World} {Bm p : Nat} {pre : List Sd}
theorem MxI.far(h:MxI w6 Bm p pre V)(k:Below w6.heap.size V V'):MxI w6 Bm p pre V' :=
 ⟨k.os.trans h.os,k.tape.trans h.tape,k.output.trans h.output,aJ h.size k.size,h.bl,fun q q1 q2=>(k.block q q1).trans (h.fr q q1 q2),h.mx.of_block (k.block _ h.bl)⟩
theorem MxI.own(w6:World)(Bm p:Nat):OwnFrom w6.heap.size (MxI w6 Bm p):=fun pre V V' row h k q=>by
 have:=h.size;exact h.far ⟨k.os,k.tape,k.output,k.size,fun b a=>k.block b oM (fun e=>by have:=(q b e.symm).1;omega)⟩
theorem MxI.push(h:MxI w6 Bm p pre V){s:Sd}(k:Below V.heap.size V V'){x:Int}(b:x=(mxL ((pre++[s]).map (sdW p)):Int)):MxI w6 Bm p (pre++[s]) (V'.setCell ⟨Bm,0,none⟩ (.int .i64 x)):=by
 have a:=h.far (k.mono h.size);refine⟨a.os,a.tape,a.output,by rw[Xd];exact a.size,a.bl,fun q q1 q2=>(Below.heap_setCell _ _ _ _ q2).trans (a.fr q q1 q2),?_⟩;rw[<-b];exact(a.mx.set 0 _).congr (fun i c=>by rw[show i=0 by omega];simp)
end
theorem x6(V:Nat)(o:Option Addr)(n t:Nat)(s:List Xe)(ad S:Nat)(w:World)(ha:Hid (Xp w ad S o s))(hx:Hid (n=s.length))(hs:Hid (s.length+Xx s<=1048576))(hB:S<=w.heap.size)(J:Hid (Yy w))(L:Hid (Yb w))(hv:Hid (XJ ⟨(V:Int),s⟩=true))(ho:Hid (Jy V s)) :
 Calls prog 8 #[.agg #[.int .i64 (V:Int),.slice o n t]] w fun f Q=>f=.returned (.int .i64 (mxL (Zw s V s.length):Int))/\Below w.heap.size w Q:=by
 have ac:=Xa (fun W (M:Below w.heap.size w W)=>JK (V:Int) o n t s ad S W (Xa (ha.keep (M.mono hB))) hx hs (oN M.size) (Xa (J.keep M J.1).old) (Xa (L.keep M L.1).old));rw[hv.out]at ac;have hn:n<=1000:=oP hx.out ho.okf.n2
 refine(bM (n:=10)).1 ?_;refine callsIn_of_wp_marks func8 rfl trivial ?_ rfl;simp only[ntmps8,xY,Nat.reduceAdd,Nat.reduceSub]
 gi_wp2
 refine⟨trivial,(bM.2 (ac _ (Xb (Below.refl _ _) _))).mono ?_⟩;rintro f a ⟨rfl,aa⟩;have g0:=(aa.cell (p:=⟨w.heap.size,0,none⟩) sP).trans (show _=some (.int .i64 (V:Int)) by simp);have g1:=(aa.cell (p:=⟨w.heap.size,1,none⟩) sP).trans (show _=some (.slice o n t) by simp);have a7:=Xa (Xg (Xb (Below.refl w.heap.size w) (.cells #[.int .i64 (V:Int),.slice o n t] 25)) aa);have a3:w.heap.size<a.heap.size:=aI a _ g0;have bo:=fun G=>(bP a G ⟨w.heap.size,0,none⟩ a3).trans g0
 have bq:=fun G=>(bP a G ⟨w.heap.size,1,none⟩ a3).trans g1
 clear aa ac g0 g1
 gi_wp2
 have a8:Hid (Below a.heap.size a (a.alloc (.cells #[.int .i64 0] 3))):=Xa (Xb (Below.refl _ _) _);have b6:a.heap.size+1<=(a.alloc (.cells #[.int .i64 0] 3)).heap.size:=sP;have al:Hid ((a.alloc (.cells #[.int .i64 0] 3)).rowIs a.heap.size 3 1 (fun _=>.int .i64 0)):=Xa (eK a #[.int .i64 0] 3 (fun _=>.int .i64 0) (fun bt hi=>by match bt,hi with | 0,_=>rfl))
 generalize a.alloc _=v at *;clear bo bq;refine⟨trivial,(Wx 9 _ _ v).mono ?_⟩;rintro f i ⟨rfl,O⟩;have af:Below v.heap.size v i:=by rw[O];exact Xb (Below.refl _ _) _
 have b7:v.heap.size+1<=i.heap.size:=by rw[O,aO];exact aA _
 have az:i.cell? ⟨v.heap.size,0,none⟩=some (.int .i64 (V:Int)):=by rw[O];simp[go_sem]
 have a0:i.cell? ⟨v.heap.size,1,none⟩=some (.slice o n t):=by rw[O];simp[go_sem]
 have y:=Xa (Xg (Xg a7 a8) af);have bf:=Xa (al.of_block (af.block _ al.lt));obtain⟨h,a2⟩:∃q,q=(V+63) / 64:=⟨_,rfl⟩;have bd:=Xa a2;have br:=ho.vle;have bx:h<=100:=oM;have bz:=J.1;have b0:=L.1;have a6:=Xa (ha.keep (y.mono hB));have bi:=Xa (J.keep y J.1);have bn:=Xa (L.keep y L.1);have ba:=Xa az;have bb:=Xa a0;clear af O a2 br az a0
 gi_wp2
 refine dv (F:=Fence.wide) (n:=10) rfl vY (gf:=59) (lb:=#[.pointer (some ⟨v.heap.size,0,none⟩)]) rfl trivial (enters_of func59 vZ rfl) (oS i.heap.size v.heap.size ad S V n t h o (fun q=>q=a.heap.size) s i ba bb a6 hx oM (aA _) bi bn oM oM ho bd (Xa (fun q r u f=>oM)) (Xa (fun q r f=>oM)) (Xa (fun f=>oM)) (Xa (fun f=>oM))) (fun z=>oz _ _ _ z) (fun k F=>k.trans F) (fun W bv a4 o' r u Y=>Zf.putObj W bv a4 o' oM u Y) (Below.refl _ _) (fun _ _=>rfl)
  (fun _=>MxI i a.heap.size (64*h)) (fun _ _ _=>False) (fun _=>MxI.own i _ _) (fun _ _ _ _ _ k _ _=>k) (fun _ z bw R A' hz k C=>k.far ⟨C.os,C.tape,C.output,C.size,fun b M=>C.block b (oN k.size) (fun f=>by injection f with f;omega)⟩) (fun _=>⟨fun z z' bw R A' _ k F=>k.far (F.mono oM),fun _ _ _ _ k _=>k⟩) ?start
  (fun z p a' U=>∃g:Nat,a'=⟨#[.agg #[.int .i64 (V:Int),.slice o n t],.pointer (some ⟨w.heap.size,0,none⟩),.int .i64 0,.pointer (some ⟨a.heap.size,0,none⟩),.pointer (some ⟨g,0,none⟩),.agg #[.int .i64 (V:Int),.slice o n t],.bool true,.bool false,.agg #[.int .i64 (V:Int),.slice o n t],.func (.func 59) #[] #[.pointer (some ⟨v.heap.size,0,none⟩)],.agg #[.slice (some ⟨z,0,none⟩) h p.C],undef,undef,undef,undef,undef],[]⟩/\i.heap.size<=g/\U.cell? ⟨g,0,none⟩=some (.slice (some ⟨z,0,none⟩) h p.C)) ?ownA ?assign ?body ?done (fun _ _ _ _ _ _ k _=>k.elim)
 case start =>
  intro z U _ _ E;exact⟨E.os,E.tape,E.output,E.size,oM,fun q r _=>E.block q r,bf.of_block (E.block _ oM)⟩
 case ownA =>
  rintro z p a' _ R U row ⟨g,f,r,u⟩ C q;refine⟨g,f,r,(Xc (C.block g (aI R _ u) (fun e2=>?_))).trans u⟩;obtain⟨G,Y,h4⟩:=Yn u;obtain⟨_,o2,Z,h6⟩:=q g e2.symm;rw[show R.heap[g]?=some G from Y]at Z;injection Z with Z;subst Z;rw[h4]at h6;cases h6
 case assign =>
  intro P z pre p U KK hz l D ax;have x:=Xa l;have bl:=Xa D;have bc:=Xa ax;clear l D ax;unfold ke
  gi_wp2
  have N:Below U.heap.size U (U.alloc (.cells #[.slice (some ⟨z,0,none⟩) h p.C] 45)):=Xb (Below.refl _ _) _;exact bc _ _ ⟨N.size,fun F a4 r _=>(N.block F (aS.1 r).1).trans r⟩ (Zf.of_below N x.size) (x.far (N.mono x.size)) (k9 bl N) ⟨U.heap.size,rfl,x.size,by simp[go_sem]⟩
 case body =>
  rintro P z pre p a' U hz b4 _ l D ⟨g,rfl,b1,A⟩ b5;have x:=Xa l;have j:=l.mx.cell (i:=0) vY;have ab:=l.mx.frozen 0;have bs:=l.size;have T:=Xa (fun W (hW:Below U.heap.size U W)=>Kl z h p.C p.W W (Xa D.2.2) (Xa (D.2.1.of_block (hW.block z D.2.1.lt))) oM);have a9:Hid (mxL ((pre++[p]).map (sdW (64*h)))=max (mxL (pre.map (sdW (64*h)))) (cntN p.W h)):=Xa (by rw[bG,eH,fZ,pw,jv];rfl);have b2:=TB p.W h;generalize mxL (pre.map (sdW (64*h)))=ap at *;generalize cntN p.W h=aq at *;clear l D;have X:Hid (∀(e:World)(H:Int),Below U.heap.size U e->H=(max ap aq:Nat)->KeepsFrom i.heap.size U (e.setCell ⟨a.heap.size,0,none⟩ (.int .i64 H))/\Zf i.heap.size (fun q=>q=a.heap.size) U (e.setCell ⟨a.heap.size,0,none⟩ (.int .i64 H))/\MxI i a.heap.size (64*h) (pre++[p]) (e.setCell ⟨a.heap.size,0,none⟩ (.int .i64 H))):=Xa (fun e H c f=>by
   have a1:Zf i.heap.size (fun q=>q=a.heap.size) U (e.setCell ⟨a.heap.size,0,none⟩ (.int .i64 H)):=(Zf.of_below c bs).trans (Zg ⟨rfl,rfl,rfl,by simp[World.setCell],fun F _ hk=>Below.heap_setCell _ _ _ _ (fun f=>hk (by rw[f]))⟩ rfl (oN c.size));refine⟨⟨a1.size,fun q G r u Y=>?_⟩,a1,x.push c (by rw[a9.out];exact f)⟩;exact(Below.heap_setCell _ _ _ _ (by show q≠a.heap.size;omega)).trans ((c.block q (aS.1 u).1).trans u))
  gi_wp2
  by_cases b3:(ap:Int)<(aq:Int)
  ·skip
   refine Tc (fun Q=>Q.cell? ⟨g,0,none⟩=some (.slice (some ⟨z,0,none⟩) h p.C)) (fun hHeld=>?_);refine Yi 1 ?_;refine YM (rs:=[0,2]) vZ sP ?_;refine(Xu.cons rfl (fun K hK=>?_) (Xu.cons rfl (fun K hK=>?_) Xu.nil))
   ·skip
    go_simp;refine hK _ _ kP (fun hHeld=>?_);clear hK
    try simp only[xX]
    refine Yc 2 (fun K hK=>?_);go_simp;refine⟨trivial,(CallsIn.inRound P (bM.2 (T U.drew (Below.refl U.heap.size U).drew))).mono ?_⟩;rintro f e ⟨rfl,d⟩;have c:Below U.heap.size U e:=⟨d.os,d.tape,d.output,d.size,d.block⟩;have m:=oB c A (aI U _ A);have m5:=oB c j (aI U _ j);have f5:=(c.frozen (p:=⟨a.heap.size,0,none⟩) (aI U _ j)).trans ab;have B:=Xa c;clear c d;refine hK _ _ m (fun hHeld=>?_);clear hK;refine Yc 3 (fun K hK=>?_);go_simp;refine hK _ _ kP (fun hHeld=>?_);clear hK;refine Yc 4 (fun K hK=>?_);go_simp;refine hK _ _ ((bH e ⟨a.heap.size,0,none⟩ ⟨g,0,none⟩ _ (by show a.heap.size≠g;omega)).trans m) (fun hHeld=>?_);clear hK;refine ZV ?_;clear hHeld
    gi_wp2
    exact X e _ B oM
   ·skip
    go_simp;refine⟨trivial,(CallsIn.inRound P (bM.2 (T U.drew (Below.refl U.heap.size U).drew))).mono ?_⟩;rintro f e ⟨rfl,d⟩;have c:Below U.heap.size U e:=⟨d.os,d.tape,d.output,d.size,d.block⟩;have m:=oB c A (aI U _ A);have m5:=oB c j (aI U _ j);have f5:=(c.frozen (p:=⟨a.heap.size,0,none⟩) (aI U _ j)).trans ab;have B:=Xa c;clear c d;refine hK _ _ m (fun hHeld=>?_);clear hK
    try simp only[xX]
    refine Yc 0 (fun K hK=>?_);go_simp;refine hK _ _ kP (fun hHeld=>?_);clear hK;refine Yc 3 (fun K hK=>?_);go_simp;refine hK _ _ kP (fun hHeld=>?_);clear hK;refine Yc 4 (fun K hK=>?_);go_simp;refine hK _ _ ((bH e ⟨a.heap.size,0,none⟩ ⟨g,0,none⟩ _ (by show a.heap.size≠g;omega)).trans m) (fun hHeld=>?_);clear hK;refine ZV ?_;clear hHeld
    gi_wp2
    exact X e _ B oM
  ·skip
   refine Tc (fun Q=>Q.cell? ⟨g,0,none⟩=some (.slice (some ⟨z,0,none⟩) h p.C)) (fun hHeld=>?_);refine Yi 1 ?_;refine YM (rs:=[0,2]) vZ sP ?_;refine(Xu.cons rfl (fun K hK=>?_) (Xu.cons rfl (fun K hK=>?_) Xu.nil))
   ·skip
    go_simp;refine hK _ _ kP (fun hHeld=>?_);clear hK
    try simp only[xX]
    refine Yc 2 (fun K hK=>?_);go_simp;refine⟨trivial,(CallsIn.inRound P (bM.2 (T U.drew (Below.refl U.heap.size U).drew))).mono ?_⟩;rintro f e ⟨rfl,d⟩;have c:Below U.heap.size U e:=⟨d.os,d.tape,d.output,d.size,d.block⟩;have m:=oB c A (aI U _ A);have m5:=oB c j (aI U _ j);have f5:=(c.frozen (p:=⟨a.heap.size,0,none⟩) (aI U _ j)).trans ab;have B:=Xa c;clear c d;refine hK _ _ m (fun hHeld=>?_);clear hK;refine Yc 3 (fun K hK=>?_);go_simp;refine hK _ _ kP (fun hHeld=>?_);clear hK;refine Yc 4 (fun K hK=>?_);go_simp;refine hK _ _ ((bH e ⟨a.heap.size,0,none⟩ ⟨g,0,none⟩ _ (by show a.heap.size≠g;omega)).trans m) (fun hHeld=>?_);clear hK;refine ZV ?_;clear hHeld
    gi_wp2
    exact X e _ B oM
   ·skip
    go_simp;refine⟨trivial,(CallsIn.inRound P (bM.2 (T U.drew (Below.refl U.heap.size U).drew))).mono ?_⟩;rintro f e ⟨rfl,d⟩;have c:Below U.heap.size U e:=⟨d.os,d.tape,d.output,d.size,d.block⟩;have m:=oB c A (aI U _ A);have m5:=oB c j (aI U _ j);have f5:=(c.frozen (p:=⟨a.heap.size,0,none⟩) (aI U _ j)).trans ab;have B:=Xa c;clear c d;refine hK _ _ m (fun hHeld=>?_);clear hK
    try simp only[xX]
    refine Yc 0 (fun K hK=>?_);go_simp;refine hK _ _ kP (fun hHeld=>?_);clear hK;refine Yc 3 (fun K hK=>?_);go_simp;refine hK _ _ kP (fun hHeld=>?_);clear hK;refine Yc 4 (fun K hK=>?_);go_simp;refine hK _ _ ((bH e ⟨a.heap.size,0,none⟩ ⟨g,0,none⟩ _ (by show a.heap.size≠g;omega)).trans m) (fun hHeld=>?_);clear hK;refine ZV ?_;clear hHeld
    gi_wp2
    exact X e _ B oM
 case done =>
  rintro a5 z ss U hD hz ay l ar;have x:=Xa l;have aj:=Xa ar;have bm:=Xa ay;have j:=l.mx.cell (i:=0) vY;clear l ar ay
  gi_wp2
  have I:MxI i a.heap.size (64*h) ss (U.putObj a5 (.deferred none)):=(MxI.own i _ _).putObj _ x oM aj rfl;refine YK aj ⟨.int .i64 (mxL (ss.map (sdW (64*h))):Int),by simp[results,results8,go_sem],?_⟩;rw[bm.out,hx.out];exact⟨rfl,I.os.trans y.os,I.tape.trans y.tape,I.output.trans y.output,aJ y.size I.size,fun q hq=>(I.fr q oM oM).trans (y.block q hq)⟩
end
theorem TQ{b:Nat}(a:b<x.length)(V i:Nat):UU x V b i=Xi (Uq x x[b] V b i):=by
 unfold UU;rw[aC a]
theorem Vt{b:Nat}(a:b<x.length):(Tu x b).length=x[b].is.length:=by
 unfold Tu;rw[aC a];simp[Z2]
theorem sh(l:List Nat):∀(a M:Nat),l.foldl max a<=M↔a<=M/\∀x∈l,x<=M:=by
 induction l with
 | nil=>intro a M;simp
 | cons y l b =>
  intro a M;rw[iM,b];simp only[cH,forall_eq_or_imp];rw[Nat.max_le,and_assoc]
theorem TL{a:Type}(l:List (List a))(M:Nat):mxL l<=M↔∀x∈l,x.length<=M:=by
 unfold mxL;rw[sh];simp
theorem AO{g h:Type}{l:List (List g)}{c:List (List h)}(d:∀x∈l,∃y∈c,y.length=x.length)(f:∀y∈c,∃x∈l,x.length=y.length):mxL l=mxL c:=by
 refine Nat.le_antisymm ((TL _ _).2 (fun x a=>?_)) ((TL _ _).2 (fun y b=>?_))
 ·obtain⟨y,b,e⟩:=d x a
  rw[<-e];exact(TL _ _).1 (aA _) y b
 ·obtain⟨x,a,e⟩:=f y b
  rw[<-e];exact(TL _ _).1 (aA _) x a
noncomputable def flQ(a:List Xe)(V b:Nat):List (List Int):=(List.range b).flatMap fun s=>(List.range ((Tu a s).length+1)).map (UU a V s)
theorem Ve(a:List Xe)(V b:Nat):flQ a V (b+1)=flQ a V b++(List.range ((Tu a b).length+1)).map (UU a V b):=by
 unfold flQ;rw[dN,eZ];simp
theorem Jr{b:Nat}(a:b<x.length):s∈cy x n b↔∃i,i<=x[b].is.length/\s=Uq x x[b] n b i:=by
 unfold cy;rw[aC a];simp only[bU,aY,cS];constructor
 ·rintro(⟨j,_,e⟩ | e)
  ·exact⟨(j:Nat)+1,j.isLt,e.symm⟩
  ·exact⟨0,aN _,e⟩
 ·rintro⟨i,c,e⟩
  cases i with
  | zero=>exact aZ e
  | succ j =>
   refine bC ⟨⟨j,c⟩,?_,e.symm⟩;unfold Us;rw[aW sP];exact kU.2 (lX _)
theorem zn(b:List Xe)(V:Nat):mxL (flQ b V b.length)=mxL (Zw b V b.length):=by
 refine AO (fun x d=>?_) (fun y e=>?_)
 ·obtain⟨s,a,h⟩:=bV.1 d
  obtain⟨i,c,rfl⟩:=aY.1 h;have a:=bE.1 a;have c:=bE.1 c;rw[Vt a]at c;refine⟨Uq b b[s] V s i,bV.2 ⟨s,bE.2 a,(Jr a).2 ⟨i,oM,rfl⟩⟩,?_⟩;rw[TQ a];simp[Xi]
 ·obtain⟨s,a,h⟩:=bV.1 e
  have a:=bE.1 a;obtain⟨i,c,rfl⟩:=(Jr a).1 h;refine⟨UU b V s i,bV.2 ⟨s,bE.2 a,aY.2 ⟨i,bE.2 (by rw[Vt a];omega),rfl⟩⟩,?_⟩;rw[TQ a];simp[Xi]
theorem t9{a:Type}(f:Nat->a)(k:Nat):(List.range (k+1)).map f=(List.range k).map f++[f k]:=by rw[dN,bG];rfl
theorem wj(V:Nat)(c:Option Addr)(n d:Nat)(a:List Xe)(L B:Nat)(w:World)(ha:Hid (Xp w L B c a))(g:Hid (n=a.length))(U:Hid (a.length+Xx a<=1048576))(y:B<=w.heap.size)(X:Hid (XJ ⟨(V:Int),a⟩=true))(r:Hid (Jy V a)) :
 Calls prog 7 #[.agg #[.int .i64 (V:Int),.slice c n d]] w fun l Y=>l=.returned (.int .i64 (mxL (Zw a V a.length):Int))/\Below w.heap.size w Y:=by
 have hn:n<=1000:=oP g.out r.okf.n2
 have j:=Xa (fun W (q:Below w.heap.size w W)=>Tr (V:Int) c n d a L B W (Xa (ha.keep (q.mono y))) g U (oN q.size));have x:=Xa (WY ⟨(V:Int),a⟩);rw[<-x.out,X.out]at j;clear x
 go_in
 go_wp2_with fail
 refine(j _ (Xb (Below.refl _ _) _)).mono ?_;rintro l Z ⟨rfl,f⟩;have J:=(f.cell (p:=⟨w.heap.size,0,none⟩) sP).trans (show _=some (.int .i64 (V:Int)) by simp);have K:=(f.cell (p:=⟨w.heap.size,1,none⟩) sP).trans (show _=some (.slice c n d) by simp);have h:=Xa (Xg (Xb (Below.refl w.heap.size w) (.cells #[.int .i64 (V:Int),.slice c n d] 25)) f);clear f j;have u:=Xa (lw V c n d a L B Z (Xa (ha.keep (h.mono y))) g (oN h.size) r)
 go_wp2_with fail
 refine u.mono ?_;rintro l w2 ⟨gO,cO,aa,rfl,A,ac,z⟩;have H:=Xa z;have F:=Xa (Xg h A);have G:=Xa (fj r);clear A z J K u
 go_wp2
 go_loop [3,5] (fun s i=>∃b:Nat,b<=n/\i=.int .i64 b/\s=.int .i64 (mxL (flQ a V b):Int)) (fun _ i=>n-(intOf i).toNat)
 case atStart=>exact⟨0,aN _,rfl,rfl⟩
 case round =>
  obtain⟨b,q,rfl,rfl⟩:=hrel;by_cases T:b<n
  ·obtain⟨O,h2,p⟩:=H b T
   have Q:=G b;have v:=Xa (Ve a V b);obtain⟨m,D⟩:∃m,m=(Tu a b).length:=⟨_,rfl⟩;rw[<-D]at O p Q v;have E:=Xa p;clear D p;generalize flQ a V b=e at *
   go_wp2
   go_loop [3,6] (fun s i=>∃k:Nat,k<=m+1/\i=.int .i64 k/\s=.int .i64 (mxL (e++(List.range k).map (UU a V b)):Int)) (fun _ i=>m+1-(intOf i).toNat)
   case atStart=>exact⟨0,aN _,rfl,sP⟩
   case round =>
    obtain⟨k,hk,rfl,rfl⟩:=hrel;by_cases S:k<m+1
    ·obtain⟨b',o',o,ab,a',c',C,_⟩:=E k (by simpa using S)
     simp only[cM,dW]at C;injection o with o;injection o with e1 e2;subst e1 e2;simp only[aV]at C;have af:(k:Int)<(m:Int)+1:=oM;have I:=Xa (t9 (UU a V b) k);have t:Hid (mxL (e++(List.range (k+1)).map (UU a V b))=max (mxL (e++(List.range k).map (UU a V b))) (UU a V b k).length):=Xa (by rw[I.out,<-cK,pw]);generalize mxL (e++(List.range k).map (UU a V b))=M at *;generalize (UU a V b k).length=N at *;by_cases ad:(M:Int)<(N:Int)
     ·go_wp2
      exact⟨⟨k+1,oM,gM,by rw[t.out,Nat.max_eq_right oM]⟩,by simp[intOf];omega⟩
     ·go_wp2
      exact⟨⟨k+1,oM,gM,by rw[t.out,Nat.max_eq_left oM]⟩,by simp[intOf];omega⟩
    ·have R:k=m+1:=oM
     subst R;rw[<-v.out]
     go_wp2
     exact⟨⟨b+1,oM,gM,rfl⟩,by simp[intOf];omega⟩
  ·have P:b=n:=oM
   subst P
   go_wp2
   go_ret
   exact⟨by rw[g.out,zn];rfl,F⟩
def Jq(a:List Xe):Prop:=∀b,b<a.length->Re (X8 a) b
open Classical in
noncomputable def verdP(v:Int)(a:List Xe):Int:=if XJ ⟨v,a⟩=false then 9 else if ¬Jq a then 10 else if ∃x,Bad a x then 11 else 0
theorem qk:∀(n:Nat)(F:List Nat),(∀b,b<n->b∈F)->n<=F.length
 | 0,_,_=>aN _
 | n+1,F,h=>by
  have c:=qk n (F.erase n) (fun b d=>(iF oM).2 (h b oM));have a:=h n oM;rw[fP a]at c;have:=eJ a;omega
theorem pm(g:UF x){F:List Nat}(f:F.Nodup)(d:∀a,a∈F↔Re (X8 x) a):F.length<=x.length/\(F.length=x.length↔Jq x):=by
 have k:=YS f (fun a c=>g.re a ((d a).1 c));refine⟨k,fun h b e=>?_,fun h=>?_⟩
 ·apply dQ
  intro j;have l:=fL.2 ⟨fun i=>j ((d b).1 i),f⟩;have:=YS (n:=x.length) l (fun a c=>by
   rcases cH.1 c with rfl | c
   ·exact e
   ·exact g.re a ((d a).1 c))
  rw[bA]at this;omega
 ·have:=qk x.length F (fun b e=>(d b).2 (h b e))
  omega
open Classical in
theorem Uh(h:XJ ⟨t,x⟩=false):verdP t x=9:=by unfold verdP;rw[aU h]
open Classical in
theorem n9(h:XJ ⟨t,x⟩=true)(k:¬Jq x):verdP t x=10:=by unfold verdP;rw[aM (by rw[h];decide),aU k]
open Classical in
theorem gw(h:XJ ⟨t,x⟩=true)(k:Jq x)(m:∃a,Bad x a):verdP t x=11:=by unfold verdP;rw[aM (by rw[h];decide),aM (fun q=>q k),aU m]
open Classical in
theorem pj(h:XJ ⟨t,x⟩=true)(k:Jq x)(m:¬∃a,Bad x a):verdP t x=0:=by unfold verdP;rw[aM (by rw[h];decide),aM (fun q=>q k),aM m]
theorem K3{A B:List Nat}(g:A.Nodup)(h:∀x∈A,x∈B):A.length<=B.length:=by
 induction A generalizing B with
 | nil=>exact aN _
 | cons a A i =>
  have b:=fL.1 g;have d:∀x∈A,x∈B.erase a:=fun x c=>(iF (fun e=>b.1 (by rw[<-e];exact c))).2 (h x (cN _ c))
  have f:=i b.2 d;have ha:=h a cI;rw[fP ha]at f;have:=eJ ha;simp only[bA];omega
theorem uH(h:¬s.Nodup):∃a,a∈s/\a∈s.erase a:=by
 induction s with
 | nil=>exact absurd iU h
 | cons b s j =>
  by_cases d:b∈s
  ·exact⟨b,cI,by rw[List.erase_cons_head];exact d⟩
  ·have g:¬s.Nodup:=fun c=>h (fL.2 ⟨d,c⟩)
   obtain⟨a,e,c⟩:=j g;have i:¬b=a:=fun f=>d (by rw[f];exact e)
   refine⟨a,cN _ e,?_⟩;rw[List.erase_cons_tail (by simpa using i)];exact cN _ c
theorem yD(W:Nat->Nat)(p:Nat):(lsN W p).Nodup:=by
 unfold lsN;exact List.filter_sublist.nodup kS
theorem zj(i:∀c,c<n->(Xh F c=true↔∃v∈s,f v=c))(k:∀v∈s,f v<n):(lsN F n).length<s.length↔¬(s.map f).Nodup:=by
 have j:∀x,x∈lsN F n↔x∈s.map f:=fun x=>by
  rw[AH,aY];constructor
  ·rintro⟨a,b⟩;exact(i x a).1 b
  ·rintro⟨v,a,rfl⟩;exact⟨k v a,(i _ (k v a)).2 ⟨v,a,rfl⟩⟩
 have o:(s.map f).length=s.length:=sP;constructor
 ·intro p d
  have:=K3 d (fun x e=>(j x).2 e);omega
 ·intro d
  obtain⟨g,a,b⟩:=uH d;have l:∀x∈lsN F n,x∈(s.map f).erase g:=fun x e=>by
   by_cases h:x=g
   ·rw[h];exact b
   ·exact(iF h).2 ((j x).1 e)
  have m:=K3 (yD F n) l;rw[fP a]at m;have:=eJ a;omega
theorem JF(h:s∈Zw x n x.length)(a:m∈s):m<n:=by
 obtain⟨d,c,b⟩:=bV.1 h;obtain⟨i,_,rfl⟩:=(Jr (bE.1 c)).1 b;unfold Uq at a;exact bE.1 (fG.1 a).1
theorem WV:l∈flQ x n x.length↔∃y∈Zw x n x.length,l=Xi y:=by
 unfold flQ Zw;constructor
 ·intro h
  obtain⟨s,b,d⟩:=bV.1 h;obtain⟨i,c,rfl⟩:=aY.1 d;have a:=bE.1 b;have c:=bE.1 c;rw[Vt a]at c;exact⟨Uq x x[s] n s i,bV.2 ⟨s,b,(Jr a).2 ⟨i,oM,rfl⟩⟩,TQ a n i⟩
 ·rintro⟨y,e,rfl⟩
  obtain⟨s,b,d⟩:=bV.1 e;have a:=bE.1 b;obtain⟨i,c,rfl⟩:=(Jr a).1 d;exact bV.2 ⟨s,b,aY.2 ⟨i,bE.2 (by rw[Vt a];omega),TQ a n i⟩⟩
theorem ly{xs:List Xe}{V:Nat}(h:l∈flQ xs V xs.length):l.length<=V/\∀x∈l,∃k:Nat,k<V/\x=(k:Int):=by
 obtain⟨y,c,rfl⟩:=WV.1 h;constructor
 ·obtain⟨s,a,d⟩:=bV.1 c
  obtain⟨i,f,rfl⟩:=(Jr (bE.1 a)).1 d;have:=ix xs V s i;rw[TQ (bE.1 a)]at this;exact this
 ·intro x b
  unfold Xi at b;obtain⟨z,e,rfl⟩:=aY.1 b;exact⟨z,JF c e,rfl⟩
def colI(a:List Int)(v:Nat):Int:=a.getD v 0
def US(a:List Int)(v:Nat):Nat:=(colI a v).toNat
def pcQ(v:Int)(b:List Xe)(a:List Int)(k:Int):Prop:=verdP v b=0/\0<=k/\k<=2000/\(a.length:Int)=v/\(∀c∈a,0<=c/\c<k)/\∀l∈Zw b v.toNat b.length,(l.map (US a)).Nodup
open Classical in
noncomputable def pcB(v:Int)(b:List Xe)(a:List Int)(k:Int):Bool:=decide (pcQ v b a k)
theorem Jd{v:Int}{xs:List Xe}{cs:List Int}{k:Int}(h:¬pcQ v xs cs k):pcB v xs cs k=false:=by simp[pcB,h]
theorem i9(h:pcQ t x l T):pcB t x l T=true:=by simp[pcB,h]
def UM(b:List Int)(l:List Int)(a:Nat):Int:=colI b (l.getD a 0).toNat
def okA(c l:List Int)(d:Nat):Prop:=∀a b,a < d->b < a->UM c l a≠UM c l b
def okB(c l:List Int)(d b:Nat):Prop:=∀a,a < b->UM c l d≠UM c l a
def okU(c:List Int)(b:List (List Int))(i:Nat):Prop:=∀a,a < i->okA c (b.getD a []) (b.getD a []).length
theorem xe(a l:List Int):okA a l 0:=fun b c h=>absurd h oM
theorem xL(b l:List Int)(a:Nat):okB b l a 0:=fun c h=>absurd h oM
theorem wO(a:List Int)(b:List (List Int)):okU a b 0:=fun c h=>absurd h oM
theorem wm{b:Nat}(h:okB l L n b)(c:¬UM l L n=UM l L b):okB l L n (b+1):=fun a d=>by
 by_cases e:a=b
 ·subst e;exact c
 ·exact h a oM
theorem wN(h:okA l L n)(d:okB l L n n):okA l L (n+1):=fun a b f c=>by
 by_cases e:a=n
 ·subst e;exact d b c
 ·exact h a b oM c
theorem yj{a:List (List Int)}(h:okU l a i)(c:okA l (a.getD i []) (a.getD i []).length):okU l a (i+1):=fun b d=>by
 by_cases e:b=i
 ·subst e;exact c
 ·exact h b oM
theorem Wp(h:∀c∈l,0<=c/\c<t)(v:Nat):0<=colI l v:=by
 unfold colI;rw[bF];by_cases a:v<l.length
 ·rw[aC a];exact(h _ (aH a)).1
 ·rw[dK oM];decide
theorem Vj(ha:n<s.length):UM l (Xi s) n=colI l s[n]:=by
 unfold UM Xi;rw[bF,dX,aC ha];rfl
theorem qx(h:∀c∈l,0<=c/\c<t)(y:List Nat):okA l (Xi y) (Xi y).length↔(y.map (US l)).Nodup:=by
 have n:(Xi y).length=y.length:=by simp[Xi]
 rw[n];show _↔List.Pairwise _ _;rw[gY];simp only[bK,cM];constructor
 ·intro a i j k d m e
  have:=a j i d m;rw[Vj d,Vj k]at this;have o:=Wp h y[i];have p:=Wp h y[j];unfold US at e;exact this oM
 ·intro a f b ha g e
  rw[Vj ha,Vj oM]at e;exact a b f oM ha g (by unfold US;rw[e])
theorem qh(h:∀d∈l,0<=d/\d<t):okU l (flQ x n x.length) (flQ x n x.length).length↔∀b∈Zw x n x.length,(b.map (US l)).Nodup:=by
 constructor
 ·intro c b f
  obtain⟨i,a,e⟩:=bR (WV.2 ⟨b,f,rfl⟩);have:=c i a;rw[bF,aC a,gR,e]at this;exact(qx h b).1 this
 ·intro c i a
  rw[bF,aC a,gR];obtain⟨y,g,e⟩:=WV.1 (aH a);rw[e];exact(qx h y).2 (c y g)
theorem wR{a b:Nat}(f:l=(flQ x t.toNat x.length).getD i [])(d:i<(flQ x t.toNat x.length).length)(ha:a<l.length)(c:b<a)(e:UM L l a=UM L l b):¬pcQ t x L T:=fun h=>by
 have:=(qh h.2.2.2.2.1).2 h.2.2.2.2.2 i d;rw[<-f]at this;exact this a b ha c e
structure bj(C:Nat->Int)(l:List Nat)(c:Nat):Prop where
 free:∀u∈l,C u≠(c:Int)
 low:∀c',c' < c->∃u∈l,C u=(c':Int)
theorem bj.one{C:Nat->Int}(h:bj C s n)(k:bj C s m):n=m:=by
 rcases mA n m with e | e | e
 ·obtain⟨u,a,b⟩:=k.low n e
  exact absurd b (h.free u a)
 ·exact e
 ·obtain⟨u,a,b⟩:=h.low m e
  exact absurd b (k.free u a)
theorem zG{C:Nat->Int}{l:List Nat}(h:∀a,a < c->∃u∈l,C u=(a:Int)):c<=l.length:=by
 have b:=K3 (A:=List.range c) (B:=l.map fun u=>(C u).toNat) kS (fun x f=>by
  obtain⟨u,d,e⟩:=h x (bE.1 f);exact aY.2 ⟨u,d,by rw[e];rfl⟩)
 simpa using b
theorem zF{C:Nat->Int}(h:∀a,a < s.length->∃u∈s,C u=(a:Int)):bj C s s.length:=by
 refine⟨fun u b e=>?_,h⟩;have:=zG (C:=C) (l:=s) (c:=s.length+1) (fun a c=>by
  by_cases e2:a=s.length
  ·subst e2;exact⟨u,b,e⟩
  ·exact h a oM)
 omega
theorem qW{C:Nat->Int}(h:∀a,a < n->∃u∈s,C u=(a:Int))(d:∀u∈s,u<m)(i:k<m)(c:C k=-1):n<m:=by
 have b:=K3 (A:=List.range n) (B:=((List.range m).erase k).map fun u=>(C u).toNat) kS (fun x j=>by
  obtain⟨u,g,e⟩:=h x (bE.1 j);have f:u≠k:=fun e2=>by rw[e2,c]at e;omega
  exact aY.2 ⟨u,(iF f).2 (bE.2 (d u g)),by rw[e];rfl⟩)
 rw[bK,fP (bE.2 i),gI,gI]at b;omega
open Classical in
theorem rv(C:Nat->Int)(l:List Nat):∃c,bj C l c:=by
 by_cases j:∀a,a < l.length->∃u∈l,C u=(a:Int)
 ·exact⟨_,zF j⟩
 ·have m:∃c,¬∃u∈l,C u=((c:Nat):Int):=by
   apply dQ;intro b;exact j (fun a _=>dQ (fun d=>b ⟨a,d⟩))
  have p:∀n c,c<=n->(¬∃u∈l,C u=((c:Nat):Int))->∃c,bj C l c:=by
   intro n
   induction n with
   | zero =>
    intro c f h;exact⟨c,fun u i e=>h ⟨u,i,e⟩,fun a g=>absurd g oM⟩
   | succ n o =>
    intro c f h;by_cases k:∀a,a < c->∃u∈l,C u=(a:Int)
    ·exact⟨c,fun u i e=>h ⟨u,i,e⟩,k⟩
    ·have:∃a,a < c/\¬∃u∈l,C u=((a:Nat):Int):=by
      apply dQ;intro b;exact k (fun a g=>dQ (fun d=>b ⟨a,g,d⟩))
     obtain⟨a,q,b⟩:=this;exact o a oM b
  obtain⟨c,f⟩:=m;exact p c c (aA _) f
noncomputable def smN(C:Nat->Int)(l:List Nat):Nat:=Classical.choose (rv C l)
theorem fv(C:Nat->Int)(l:List Nat):bj C l (smN C l):=gJ (rv C l)
theorem AS{C:Nat->Int}(h:bj C s n):smN C s=n:=(fv C s).one h
noncomputable def ckS(C:Nat->Int)(s:Nat × List Nat):Nat->Int:=fun u=>if u=s.1 then (smN C s.2:Int)else C u
noncomputable def Kq(C:Nat->Int)(a:List (Nat × List Nat)):Nat->Int:=a.foldl ckS C
theorem wu(C:Nat->Int)(a:List (Nat × List Nat))(s:Nat × List Nat):Kq C (a++[s])=ckS (Kq C a) s:=by unfold Kq;rw[dT];rfl
noncomputable def phS(a:List Xe)(V b:Nat)(x:Xe)(k:Nat):List (Nat × List Nat):=(x.ps.take k).map fun p=>(p.dst.toNat,Uq a x V b 0)
noncomputable def VC(a:List Xe)(V b:Nat)(x:Xe):Nat->List (Nat × List Nat)
 | 0=>[]
 | k+1=>VC a V b x k++match x.is[k]? with
  | none=>[]
  | some y=>(writesI y).map fun v=>(v.toNat,Uq a x V b (k+1))
noncomputable def skB(a:List Xe)(V b:Nat):List (Nat × List Nat):=match a[b]? with
 | none=>[]
 | some x=>phS a V b x x.ps.length++VC a V b x x.is.length
noncomputable def Ko(b:List Xe)(V:Nat)(a:List Nat):List (Nat × List Nat):=a.flatMap (skB b V)
theorem px(a:List Xe)(V:Nat)(c:List Nat)(b:Nat):Ko a V (c++[b])=Ko a V c++skB a V b:=by unfold Ko;rw[eZ];simp
noncomputable def ckN(C:Nat->Int):Nat->Int
 | 0=>0
 | V+1=>max (ckN C V) (C V+1)
theorem pd(P:List Int)(m b:Nat):b∈XT P m b:=by
 cases m<;>simp[XT]
theorem mf{tg:Nat->List Nat}{n:Nat}{P:List Int}(h:YX tg n P)(d:∀x,Re tg x->x<n):∀(m b c x:Nat),n<=(Zq tg n b).length+m->c∈XT P m b->x∈chP P c->x∈XT P m b
 | 0,b,c,x,hm,a,hx=>by
  have:c=b:=by simpa [XT]using a
  subst this;have g:=jg h d hx;have i:=j9 (tg:=tg) n x;omega
 | m+1,b,c,x,hm,a,hx=>by
  rw[XT,cH]at a;rw[XT,cH];rcases a with rfl | a
  ·exact aZ (bV.2 ⟨x,hx,pd P m x⟩)
  ·obtain⟨e,f,a⟩:=bV.1 a
   have g:=jg h d f;exact aZ (bV.2 ⟨e,f,mf h d m e c x oM a hx⟩)
theorem qu{tg:Nat->List Nat}{n:Nat}{P:List Int}(h:YX tg n P)(a:∀x,Re tg x->x<n):∀(k x:Nat),(Zq tg n x).length<=k->Re tg x->x∈XT P n 0
 | k,x,hk,hx=>by
  by_cases b:x=0
  ·subst b;exact pd P n 0
  ·obtain⟨c,e1,e2,e3,e4,_⟩:=qy h a hx b
   match k,hk with
   | 0,hk=>omega
   | k+1,hk=>exact mf h a n 0 c x oM (qu h a k c oM e3) (jl.2 ⟨by rw[h.len];exact a x hx,e1⟩)
theorem vO(c:UF x)(b:YX (X8 x) x.length l)(d:Jq x):(XT l x.length 0).Perm (List.range x.length):=by
 rw[List.perm_iff_count];intro a;rw[(jx b x.length 0 Re.root).count,List.nodup_range.count];have:a∈XT l x.length 0↔a∈List.range x.length:=by
  rw[bE];constructor
  ·intro h
   exact c.re a (Ji b x.length 0 a Re.root h).rb
  ·intro h
   exact qu b c.re _ a (aA _) (d a h)
 by_cases e:a∈XT l x.length 0
 ·rw[aU e,aU (this.1 e)]
 ·rw[aM e,aM (fun h=>e (this.2 h))]
theorem TX(h:verdP t x=0):XJ ⟨t,x⟩=true/\Jq x:=by
 unfold verdP at h;by_cases a:XJ ⟨t,x⟩=false
 ·rw[aU a]at h;omega
 ·rw[aM a]at h
  by_cases b:¬Jq x
  ·rw[aU b]at h;omega
  ·exact⟨by simpa using a,Classical.not_not.1 b⟩
def fsS(a:List (Nat × List Nat)):List Int:=a.map fun s=>(s.1:Int)
theorem Cc(a:Jy n x)(d:q∈x)(b:Nat):fsS (phS x n b q q.ps.length)=XG q.ps:=by
 unfold fsS phS XG;rw[gC,jO];apply gH;intro p c;have:=(a.phd q d p c).1;simp only[Function.comp];omega
theorem rA{V:Nat}{a:List Xe}(d:Jy V a){x:Xe}(e:x∈a)(b:Nat):∀k,k<=x.is.length->fsS (VC a V b x k)=XI (x.is.take k)
 | 0,_=>by simp[fsS,VC,XI]
 | k+1,g=>by
  have i:=rA d e b k oM;have c:k<x.is.length:=g;have f:XI (x.is.take (k+1))=XI (x.is.take k)++writesI x.is[k]:=by
   rw[kJ,aC c];unfold XI writesI;rw[eU,bG,Option.toList_some,iW,jX];cases dB x.is[k].op<;>rfl
  rw[f,<-i,VC,aC c];unfold fsS;rw[bG,jO];congr 1;have:∀v∈writesI x.is[k],((fun s:Nat × List Nat=>(s.1:Int)) ∘ fun v:Int=>(v.toNat,Uq a x V b (k+1))) v=v:=fun v h=>by
   have:=(d.wri x e _ (aH c) v h).1;simp only[Function.comp];omega
  rw[gH this,List.map_id''];intro j;rfl
theorem qT(d:Jy n x){b:Nat}(a:b<x.length):fsS (skB x n b)=Z6 x[b]:=by
 unfold skB;rw[aC a];have e:=Cc d (aH a) b;have c:=rA d (aH a) b x[b].is.length (aA _);rw[gC]at c;show fsS (phS x n b x[b] x[b].ps.length++VC x n b x[b] x[b].is.length)=_;unfold fsS at *;rw[bG,e,c];rfl
theorem oF{V:Nat}{a:List Xe}(c:Jy V a):∀k,k<=a.length->fsS (Ko a V (List.range k))=blksDefs (a.take k)
 | 0,_=>by simp[fsS,Ko,blksDefs]
 | k+1,e=>by
  have f:=oF c k oM;have b:k<a.length:=e;rw[dN,px,kJ,aC b];have d:=qT c b;unfold fsS at *;rw[bG,f,d];unfold blksDefs;rw[eZ,Option.toList_some,jF,List.flatMap_nil,fF]
theorem n6(l:List Int)(v:Int):countEq l v=l.count v:=by
 unfold countEq;rw[List.count_eq_countP,gK]
theorem Cb(d:XJ ⟨(n:Int),x⟩=true)(t:Jq x)(q:YX (X8 x) x.length l) :
 (fsS (Ko x n (XT l x.length 0))).Nodup/\∀u:Nat,u<n->(u:Int)∈fsS (Ko x n (XT l x.length 0)):=by
 have c:=XH d;have m:(fsS (Ko x n (XT l x.length 0))).Perm (blksDefs x):=by
  have b:=oF c x.length (aA _);rw[gC]at b;rw[<-b];unfold fsS Ko;exact(List.Perm.flatMap_right _ (vO c.okf q t)).map _
 have k:JM ⟨(n:Int),x⟩=true:=by
  unfold XJ at d;simp only[bY]at d;exact d.2
 have j:∀u:Nat,u<n->(blksDefs x).count (u:Int)=1:=fun u g=>by
  unfold JM at k;have:=dV.1 k u (bE.2 (by simpa using g));rw[iA,n6]at this;exact this
 have r:∀f∈blksDefs x,0<=f/\f<(n:Int):=fun f a=>by
  obtain⟨p,o,a⟩:=bV.1 a;rcases bU.1 a with a | a
  ·obtain⟨w,s,rfl⟩:=aY.1 a
   exact c.phd p o w s
  ·obtain⟨y,v,rfl⟩:=aY.1 a
   obtain⟨b,i⟩:=fG.1 v;exact c.wri p o y b y.dst (by unfold writesI;rw[i];simp)
 constructor
 ·rw[mY]
  intro e;rw[m.count_eq];by_cases h:e∈blksDefs x
  ·obtain⟨b,i⟩:=r e h
   have:=j e.toNat oM;rw[fR b]at this;omega
  ·rw[kZ h];omega
 ·intro u g
  rw[m.mem_iff];apply kE.1;rw[j u g];decide
structure de(V:Nat)(ss:List (Nat × List Nat)):Prop where
 lt:∀s∈ss,s.1<V
 nd:∀pre s post,ss=pre++s::post->∀t∈pre,t.1≠s.1
 all:∀u,u<V->∃s∈ss,s.1=u
theorem qG(j:XJ ⟨(n:Int),x⟩=true)(q:Jq x)(m:YX (X8 x) x.length l):de n (Ko x n (XT l x.length 0)):=by
 obtain⟨c,d⟩:=Cb j q m;have g:=XH j;refine⟨fun s a=>?_,fun C s B e z t=>?_,fun A u=>?_⟩
 ·obtain⟨b,_,a⟩:=bV.1 a
  unfold skB at a;cases hb:x[b]? with
  | none=>rw[hb]at a;cases a
  | some h =>
   have k:=eN hb;have o:=(cV.1 hb).1;have r:((s.1:Nat):Int)∈Z6 h:=by
    have i:=qT g o;rw[(cV.1 hb).2]at i;rw[<-i];unfold skB fsS;exact aY.2 ⟨s,a,rfl⟩
   rcases bU.1 r with f | f
   ·obtain⟨w,p,e⟩:=aY.1 f
    have:=g.phd h k w p;have e:=e;omega
   ·obtain⟨y,v,e⟩:=aY.1 f
    obtain⟨c,d⟩:=fG.1 v;have:=g.wri h k y c y.dst (by unfold writesI;rw[d];simp);have e:=e;omega
 ·rw[e]at c
  unfold fsS at c;rw[bG,eH]at c;have:=(gW.1 c).2.2 _ (aY.2 ⟨z,t,rfl⟩) _ cI;exact fun e=>this (by rw[e])
 ·obtain⟨s,a,e⟩:=aY.1 (d A u)
  exact⟨s,a,oM⟩
theorem TE{v:Nat}:∀(a:List (Nat × List Nat))(C:Nat->Int),(∀s∈a,s.1≠v)->Kq C a v=C v
 | [],_,_=>rfl
 | s::a,C,h=>by
  have c:=TE a (ckS C s) (fun t b=>h t (cN _ b));show Kq (ckS C s) a v=_;rw[c];unfold ckS;rw[aM (fun e=>h s cI e.symm)]
theorem UP{v:Nat}:∀(a:List (Nat × List Nat))(C:Nat->Int),(0<=C v\/∃s∈a,s.1=v)->0<=Kq C a v
 | [],_,h=>by
  rcases h with h | ⟨s,h,_⟩
  ·exact h
  ·cases h
 | s::a,C,h=>by
  show 0<=Kq (ckS C s) a v;refine UP a (ckS C s) ?_;by_cases e:v=s.1
  ·left
   unfold ckS;rw[aU e];omega
  ·rcases h with h | ⟨t,b,e2⟩
   ·left
    unfold ckS;rw[aM e];exact h
   ·rcases cH.1 b with rfl | b
    ·exact absurd e2.symm e
    ·exact aZ ⟨t,b,e2⟩
theorem UJ(C:Nat->Int):∀V,0<=ckN C V
 | 0=>by simp[ckN]
 | V+1=>by have:=UJ C V;rw[ckN];omega
theorem qi{C:Nat->Int}{v:Nat}{x:Int}:∀V,V<=v->ckN (fun u=>if u=v then x else C u) V=ckN C V
 | 0,_=>rfl
 | V+1,h=>by
  rw[ckN,ckN,qi V oM,aM oM]
theorem qw{C:Nat->Int}{v:Nat}{x:Int}(a:C v=-1):∀V,v<V->ckN (fun u=>if u=v then x else C u) V=max (ckN C V) (x+1)
 | V+1,h=>by
  rw[ckN,ckN];by_cases e:V=v
  ·subst e
   have:=UJ C V;rw[aU rfl,qi V (aA _),a];omega
  ·rw[aM e,qw a V oM]
   omega
theorem nR:∀V,ckN (fun _=>-1) V=0
 | 0=>rfl
 | V+1=>by rw[ckN,nR V];decide
section
def Wl(xs:List Xe)(u b:Nat):Nat->Prop
 | 0=>Yo xs b u=true
 | j+1=>∃x y,xs[b]?=some x/\x.is[j]?=some y/\(u:Int)∈writesI y
theorem Vs(a:List Yg):XI a=a.flatMap writesI:=by
 induction a with
 | nil=>rfl
 | cons y a b =>
  have:XI (y::a)=writesI y++XI a:=by
   unfold XI writesI;rw[iW];cases dB y.op<;>rfl
  rw[this,b,jF]
theorem oY{xs:List Xe}{b u:Nat}(h:Yo xs b u=true):∃x,xs[b]?=some x/\(u:Int)∈XG x.ps:=by
 unfold Yo at h;cases e:xs[b]? with
 | none=>rw[e]at h;cases h
 | some x=>rw[e]at h;exact⟨x,rfl,XD.1 h⟩
theorem zu{V:Nat}{xs:List Xe}(hv:XJ ⟨(V:Int),xs⟩=true):(blksDefs xs).Nodup/\(∀d∈blksDefs xs,0<=d/\d<(V:Int))/\∀u:Nat,u<V->(u:Int)∈blksDefs xs:=by
 have j:=XH hv;have k:JM ⟨(V:Int),xs⟩=true:=by
  unfold XJ at hv;simp only[bY]at hv;exact hv.2
 have g:∀u:Nat,u<V->(blksDefs xs).count (u:Int)=1:=fun u e=>by
  unfold JM at k;have:=dV.1 k u (bE.2 (by simpa using e));rw[iA,n6]at this;exact this
 have i:∀d∈blksDefs xs,0<=d/\d<(V:Int):=fun d a=>by
  obtain⟨x,l,a⟩:=bV.1 a;rcases bU.1 a with a | a
  ·obtain⟨p,m,rfl⟩:=aY.1 a
   exact j.phd x l p m
  ·obtain⟨y,n,rfl⟩:=aY.1 a
   obtain⟨c,f⟩:=fG.1 n;exact j.wri x l y c y.dst (by unfold writesI;rw[f];simp)
 refine⟨?_,i,fun u e=>kE.1 (by rw[g u e];decide)⟩;rw[mY];intro b;by_cases h:b∈blksDefs xs
 ·obtain⟨c,f⟩:=i b h
  have:=g b.toNat oM;rw[fR c]at this;omega
 ·rw[kZ h];omega
theorem Wl.mem{xs:List Xe}{u b k:Nat}(h:Wl xs u b k):∃x,xs[b]?=some x/\(u:Int)∈Z6 x:=by
 cases k with
 | zero =>
  obtain⟨x,e,a⟩:=oY h;exact⟨x,e,dD _ a⟩
 | succ j =>
  obtain⟨x,y,e,e2,a⟩:=h;refine⟨x,e,fB _ ?_⟩;rw[Vs];exact bV.2 ⟨y,eN e2,a⟩
theorem om{a n:Type}{f:a->List n}{l:List a}(h:(l.flatMap f).Nodup){i j:Nat}{c b:a}(o:l[i]?=some c)(p:l[j]?=some b){z:n}(ha:z∈f c)(k:z∈f b):i=j:=by
 unfold List.Nodup at h;rw[iK]at h;obtain⟨d,e1⟩:=cV.1 o;obtain⟨g,e2⟩:=cV.1 p;have m:=gY.1 h.2;rcases mA i j with e | e | e
 ·exact absurd rfl (m i j d g e z (by rw[e1];exact ha) z (by rw[e2];exact k))
 ·exact e
 ·exact absurd rfl (m j i g d e z (by rw[e2];exact k) z (by rw[e1];exact ha))
theorem Wl.one{V:Nat}{xs:List Xe}(hv:XJ ⟨(V:Int),xs⟩=true){u b k b' k':Nat}(l:Wl xs u b k)(f:Wl xs u b' k'):b=b'/\k=k':=by
 have g:=(zu hv).1;obtain⟨x,e,v⟩:=l.mem;obtain⟨D,h,w⟩:=f.mem;have t:=om (f:=Z6) g e h v w;subst t;rw[e]at h;cases h;refine⟨rfl,?_⟩;have m:(Z6 x).Nodup:=by
  unfold List.Nodup blksDefs at g;rw[iK]at g;exact g.1 x (eN e)
 unfold Z6 at m;rw[gW]at m;obtain⟨_,p,o⟩:=m;rw[Vs]at p o;have r:∀{k},Wl xs u b k->k=0->(u:Int)∈XG x.ps:=fun {k} q i=>by
  subst i;obtain⟨C,d,A⟩:=oY q;rw[e]at d;cases d;exact A
 have n:∀{k},Wl xs u b k->∀j,k=j+1->∃y,x.is[j]?=some y/\(u:Int)∈writesI y:=fun {k} q j i=>by
  subst i;obtain⟨C,y,d,a,c⟩:=q;rw[e]at d;cases d;exact⟨y,a,c⟩
 cases k with
 | zero =>
  cases k' with
  | zero=>rfl
  | succ j =>
   obtain⟨y,a,c⟩:=n f j rfl;exact absurd rfl (o _ (r l rfl) _ (bV.2 ⟨y,eN a,c⟩))
 | succ B =>
  obtain⟨y,a,c⟩:=n l B rfl;cases k' with
  | zero=>exact absurd rfl (o _ (r f rfl) _ (bV.2 ⟨y,eN a,c⟩))
  | succ j =>
   obtain⟨E,s,z⟩:=n f j rfl;rw[om (f:=writesI) p a s c z]
theorem Vk{x:Xe}{u:Nat}{q:Bool}{k:Nat}:∀i,k<=i->i<=x.is.length->JT x u q i=true->(∀j y,k<=j->j<i->x.is[j]?=some y->(u:Int) ∉ writesI y)->JT x u q k=true
 | 0,hk,_,h,_=>by
  have:k=0:=oM;subst this;exact h
 | i+1,hk,hi,h,hn=>by
  by_cases e:k=i+1
  ·subst e;exact h
  ·refine Vk i oM oM ?_ (fun j y a d=>hn j y a oM)
   rw[gu x u q (show i<x.is.length from hi),h];have b:=hn i x.is[i] oM oM (aC _);have c:¬defI x.is[i]=(u:Int):=fun e=>b (YN.1 e)
   simp[c]
theorem jn{xs:List Xe}(hns:¬∃x,Bad xs x){u b:Nat}(d:Opn xs u b)(h:Lin xs u b):False:=by
 obtain⟨c,e⟩:=h
 induction e with
 | here _ a=>exact hns ⟨u,_,d,c,a⟩
 | step _ a f g _ i=>exact i (Opn.step d c a f) g
theorem yN{xs:List Xe}{d b:Nat}(h:Re (X8 xs) b):Av (X8 xs) d b\/d=0\/∃p,Av (X8 xs) d p/\d∈X8 xs p:=by
 induction h with
 | root =>
  by_cases e:d=0
  ·exact aZ (bC e)
  ·exact bC (Av.root e)
 | @step f t _ c a =>
  rcases a with a | a
  ·by_cases e:t=d
   ·subst e;exact aZ (aZ ⟨f,a,c⟩)
   ·exact bC (Av.step a c e)
  ·exact aZ a
theorem jp{xs:List Xe}{u b:Nat}(d:b<xs.length){q:Bool}(hq:q=true↔UV xs u b){i:Nat}(e:i<=xs[b].is.length)(h:JT xs[b] u q i=true)(g:Yo xs b u=false)(f:∀j y,j<i->xs[b].is[j]?=some y->(u:Int) ∉ writesI y):Lin xs u b :=
 ⟨g,(pU d hq).1 (Vk i (aN _) e h (fun j y _ a c=>f j y a c))⟩
section
variable {V : Nat} {xs : List Xe} (hv : XJ ⟨(V : Int), xs⟩ = true) (hr : Jq xs) (hns : ¬ ∃ x, Bad xs x)
include hv
theorem ju{u d k b:Nat}(a:Wl xs u d k)(c:b≠d):Yo xs b u=false:=by
 cases e:Yo xs b u with
 | false=>rfl
 | true=>exact absurd (Wl.one hv (k:=0) e a).1 c
theorem VZ{u d k b j:Nat}(c:Wl xs u d k)(f:b≠d\/j+1≠k){x:Xe}{y:Yg}(e:xs[b]?=some x)(a:x.is[j]?=some y):(u:Int) ∉ writesI y:=fun h=>by
 have:=Wl.one hv (k:=j+1) ⟨x,y,e,a,h⟩ c;omega
theorem BA{u d k b:Nat}(a:Wl xs u d k)(f:b≠d):barB xs b u≠2:=by
 unfold barB;cases e:xs[b]? with
 | none=>simp
 | some x =>
  show bareM x (XP xs b) (u:Int)≠2;unfold bareM;refine Ud _ (fun y g h=>?_);obtain⟨j,c,rfl⟩:=bR g;exact VZ hv a (bC f) e (aC c) h
theorem qL(hns:¬∃x,Bad xs x){u d m b:Nat}(h:Wl xs u d m)(j:Av (X8 xs) d b):Opn xs u b/\Yo xs b u=false/\barB xs b u=0:=by
 have i:∀b,b≠d->Opn xs u b->Yo xs b u=false/\barB xs b u=0:=fun b a c=>by
  have g:=ju hv h a;have o:=BA hv h a;have p:=i8 xs b u;refine⟨g,?_⟩;by_cases e:barB xs b u=1
  ·exact absurd ⟨u,b,c,g,e⟩ hns
  ·omega
 induction j with
 | root k=>exact⟨Opn.root,i 0 (fun e=>k e.symm) Opn.root⟩
 | @step n t q l a f =>
  have c:=Opn.step f.1 f.2.1 f.2.2 l;exact⟨c,i t a c⟩
include hr hns
theorem qn{u d n b:Nat}(e:Wl xs u d n)(m:d<xs.length)(h:Lin xs u b):JO (X8 xs) d b/\d≠b:=by
 have c:=h.2.lt;have f:¬Av (X8 xs) d b:=fun ha=>jn hns (qL hv hns e ha).1 h
 refine⟨⟨hr d m,hr b c,f⟩,fun g=>?_⟩;subst g;rcases yN (d:=d) (hr d c)with a | a | ⟨p,a,i⟩
 ·exact f a
 ·subst a;exact jn hns Opn.root h
 ·obtain⟨j,k,l⟩:=qL hv hns e a
  exact jn hns (Opn.step j k l i) h
omit hr hns
theorem zZ{u d k b:Nat}(c:Wl xs u d k)(e:b≠d)(a:b<xs.length)(h:UV xs u b):Lin xs u b:=by
 refine jp a (q:=true) ⟨fun _=>h,fun _=>rfl⟩ (aA _) ?_ (ju hv c e) (fun j y _ f=>VZ hv c (bC e) (aC a) f);rw[WT _ _ _ (aA _)];simp
theorem Bu(o:UF xs){u d p e:Nat}(l:Wl xs u d p)(m:e<xs.length){c:Nat}(h:Sf (X8 xs) d e e c)(j:c≠e)(n:Lin xs u c):UV xs u e:=by
 have lt:∀{c},Sf (X8 xs) d e e c->c<xs.length:=fun {c} h=>by
  induction h with
  | here=>exact m
  | step _ a _ _ b=>exact o.tg _ b _ a
 induction h with
 | here=>exact absurd rfl j
 | @step c t g a q r b =>
  have f:UV xs u c:=aZ ⟨t,a,n⟩;by_cases e1:c=e
  ·rw[<-e1];exact f
  ·have k:c≠d:=by
    cases g with
    | here=>exact absurd rfl e1
    | step _ _ i _=>exact i
   exact b e1 (zZ hv l k (lt g) f)
theorem zK(f:UF xs){u d o e b:Nat}(i:Wl xs u d o)(a:JO (X8 xs) d e)(c:JO (X8 xs) e b)(n:e≠b)(l:Lin xs u b):UV xs u e:=by
 have k:=f.re e a.rb;have j:=J8 a c;have g:=fun h=>Bu hv f i k h (fun q=>n q.symm) l
 rcases pX (a:=d) (b:=e) c.rb with⟨h3,_⟩ | h3 | h3
 ·exact absurd h3 j.no
 ·by_cases q:d=e
  ·subst q;exact g h3
  ·have:Av (X8 xs) e d:=dQ (fun m=>q (Z1 a ⟨a.rb,a.ra,m⟩))
   exact absurd (j4 h3 (aZ rfl) this) c.no
 ·exact g h3
def StA(xs:List Xe)(u b i:Nat):Prop:=∃x,xs[b]?=some x/\i<=x.is.length/\(Wl xs u b i\/∃q:Bool,(q=true↔UV xs u b)/\JT x u q i=true)
omit hv
open Classical in
theorem StA.of{b i u:Nat}(a:b<xs.length)(c:i<=xs[b].is.length)(h:u∈Uq xs xs[b] V b i):StA xs u b i:=by
 unfold Uq at h;obtain⟨_,h⟩:=fG.1 h;refine⟨xs[b],aC a,c,?_⟩;unfold PsP at h;cases i with
 | zero =>
  rcases dI _ _ ▸ h with h | h
  ·refine aZ ⟨_,?_,h⟩
   rw[bD]
  ·exact bC h
 | succ j =>
  rcases dI _ _ ▸ h with h | h
  ·refine aZ ⟨_,?_,h⟩
   rw[bD]
  ·have d:j<xs[b].is.length:=c
   rw[aC d]at h;exact bC ⟨xs[b],xs[b].is[j],aC a,aC d,YN.1 (fV h)⟩
theorem StA.to_{b i u:Nat}(j:u<V)(m:b<xs.length)(h:StA xs u b i):u∈Uq xs xs[b] V b i:=by
 obtain⟨x,e,n,h⟩:=h;have ex:xs[b]=x:=(cV.1 e).2;unfold Uq;refine fG.2 ⟨bE.2 j,?_⟩;unfold PsP;rw[ex];have hq:∀q:Bool,(q=true↔UV xs u b)->∀d:Decidable (UV xs u b),@decide (UV xs u b) d=q:=fun q hq d=>by
  rw[eQ,bD,hq]
 rcases h with h | ⟨q,g,c⟩
 ·cases i with
  | zero =>
   have h:Yo xs b u=true:=h;rw[dI];exact aZ h
  | succ l =>
   obtain⟨o,y,a,f,k⟩:=h;rw[e]at a;cases a;rw[dI];refine aZ ?_;rw[f];exact eB (YN.2 k)
 ·rw[hq q g]
  cases i with
  | zero=>rw[dI];exact bC c
  | succ l=>rw[dI];exact bC c
include hv hr hns
theorem WG{u d n b m:Nat}(a:Wl xs u d n)(h:StA xs u b m):JO (X8 xs) d b/\(d=b->n<=m)/\(d≠b->Lin xs u b):=by
 obtain⟨x,f,l,h⟩:=h;obtain⟨c,ex⟩:=cV.1 f;have k:d<xs.length:=by
  obtain⟨z,o,_⟩:=a.mem;exact(cV.1 o).1
 rcases h with h | ⟨q,i,j⟩
 ·obtain⟨e1,e2⟩:=Wl.one hv a h
  subst e1 e2;exact⟨Zd (hr d c),fun _=>aA _,fun q=>absurd rfl q⟩
 ·subst ex
  by_cases e1:d=b
  ·subst e1
   refine⟨Zd (hr d c),fun _=>?_,fun q=>absurd rfl q⟩;apply dQ;intro t;have r:Yo xs d u=false:=by
    cases ep:Yo xs d u with
    | false=>rfl
    | true=>have:=(Wl.one hv (k:=0) ep a).2;omega
   have e:=jp c i l j r (fun s y p g=>VZ hv a (aZ oM) f g);exact(qn hv hr hns a k e).2 rfl
  ·have e:=jp c i l j (ju hv a (fun q=>e1 q.symm)) (fun s y p g=>VZ hv a (bC (fun q=>e1 q.symm)) f g)
   exact⟨(qn hv hr hns a k e).1,fun q=>absurd q e1,fun _=>e⟩
theorem xZ(F:UF xs){u d k w e m b j:Nat}(c:Wl xs u d k)(g:Wl xs w e m)(s:StA xs u b j)(G:StA xs w b j)(o:JO (X8 xs) d e)(i:d=e->k<=m):StA xs u e m:=by
 have K:=hv;obtain⟨J,N,H⟩:=WG hv hr hns c s;obtain⟨l,I,_⟩:=WG hv hr hns g G;obtain⟨z,a,_⟩:=g.mem;have L:=(cV.1 a).1;have r:m<=z.is.length:=by
  cases m with
  | zero=>exact aN _
  | succ t =>
   obtain⟨P,y,n,f,_⟩:=g;rw[a]at n;cases n;exact(cV.1 f).1
 refine⟨z,a,r,?_⟩;by_cases p:d=e/\k=m
 ·obtain⟨rfl,rfl⟩:=p
  exact bC c
 right;by_cases e1:e=b
 ·subst e1
  have E:=I rfl;obtain⟨O,ex,B,h⟩:=s;rw[a]at ex;cases ex;rcases h with h | ⟨q,v,x⟩
  ·obtain⟨q1,q2⟩:=Wl.one hv c h
   have:=i q1;exact absurd ⟨q1,oM⟩ p
  ·refine⟨q,v,Vk j E B x (fun t y C M f=>VZ hv c ?_ a f)⟩
   by_cases q1:d=e
   ·right;have:=i q1;omega
   ·left;exact fun q=>q1 q.symm
 ·have A:d≠b:=fun q=>by
   subst q;exact e1 (Z1 l o)
  have D:=zK hv F c o l e1 (H A);refine⟨true,⟨fun _=>D,fun _=>rfl⟩,Vk z.is.length r (aA _) ?_ (fun t y C _ f=>VZ hv c ?_ a f)⟩
  ·rw[WT _ _ _ (aA _)];simp
  ·by_cases q1:d=e
   ·right;have:=i q1;omega
   ·left;exact fun q=>q1 q.symm
end
end
section
theorem oZ{tg:Nat->List Nat}{r:Nat}{P:List Int}(h:YX tg r P):∀(m b:Nat),Re tg b->(XT P m b).Pairwise (fun c e=>¬JO tg e c)
 | 0,b,_=>by simp[XT]
 | m+1,b,hb=>by
  rw[XT,List.pairwise_cons];refine⟨fun x d i=>?_,?_⟩
  ·obtain⟨c,a,d⟩:=bV.1 d
   have j:=Kf h a;exact j.ne (Z1 j.dom (J8 (Ji h m c x j.dom.rb d) i))
  ·rw[iK]
   refine⟨fun c a=>oZ h m c (Kf h a).dom.rb,?_⟩;have p:(chP P b).Nodup:=List.nodup_range.sublist jR;refine jT (fun {c e} a i l x d y q g=>?_) p;have f:=Kf h a;have id:=Kf h i;have n:=Ji h m c x f.dom.rb d;have o:=J8 (Ji h m e y id.dom.rb q) g;rcases TY n o with k | k
   ·exact f.ne (Z1 f.dom (id.near c k l))
   ·exact id.ne (Z1 id.dom (f.near e k (fun g=>l g.symm)))
structure StB(V:Nat)(xs:List Xe)(b k:Nat)(s:Nat × List Nat):Prop where
 lt:s.1<V
 df:Wl xs s.1 b k
 bn:b<xs.length
 kn:∀x,xs[b]?=some x->k<=x.is.length
 st:∀x,xs[b]?=some x->s.2=Uq xs x V b k
theorem WL{V:Nat}{xs:List Xe}(d:Jy V xs){b:Nat}{x:Xe}(e:xs[b]?=some x){s:Nat × List Nat}(h:s∈phS xs V b x x.ps.length):StB V xs b 0 s:=by
 unfold phS at h;rw[gC]at h;obtain⟨p,c,rfl⟩:=aY.1 h;have f:=eN e;have g:=d.phd x f p c;refine⟨by show p.dst.toNat<V;omega,?_,(cV.1 e).1,fun _ _=>aN _,fun z a=>by rw[e]at a;cases a;rfl⟩;show Yo xs b p.dst.toNat=true;unfold Yo;rw[e];exact XD.2 (aY.2 ⟨p,c,oM⟩)
theorem UZ{V:Nat}{xs:List Xe}(c:Jy V xs){b:Nat}{x:Xe}(e:xs[b]?=some x):∀(k:Nat){s:Nat × List Nat},s∈VC xs V b x k->∃j,j<k/\StB V xs b (j+1) s
 | 0,s,h=>by cases h
 | k+1,s,h=>by
  rw[VC]at h;rcases bU.1 h with h | h
  ·obtain⟨j,g,h⟩:=UZ c e k h
   exact⟨j,oM,h⟩
  ·cases ey:x.is[k]? with
   | none=>rw[ey]at h;cases h
   | some y =>
    rw[ey]at h;obtain⟨v,hv,rfl⟩:=aY.1 h;have d:=c.wri x (eN e) y (eN ey) v hv;have f:=(cV.1 ey).1;refine⟨k,iJ _,by show v.toNat<V;omega,⟨x,y,e,ey,?_⟩,(cV.1 e).1,fun z a=>by rw[e]at a;cases a;exact f,fun z a=>by rw[e]at a;cases a;rfl⟩;show((v.toNat:Nat):Int)∈writesI y;rw[fR d.1];exact hv
theorem jt{V:Nat}{xs:List Xe}(a:Jy V xs){b:Nat}{s:Nat × List Nat}(h:s∈skB xs V b):∃k,StB V xs b k s:=by
 unfold skB at h;cases e:xs[b]? with
 | none=>rw[e]at h;cases h
 | some x =>
  rw[e]at h;rcases bU.1 h with h | h
  ·exact⟨0,WL a e h⟩
  ·obtain⟨j,_,h⟩:=UZ a e _ h
   exact⟨j+1,h⟩
def RSt(xs:List Xe)(s t:Nat × List Nat):Prop:=∀b i,StA xs s.1 b i->StA xs t.1 b i->s.1∈t.2
section
variable {V : Nat} {xs : List Xe} (hv : XJ ⟨(V : Int), xs⟩ = true) (hr : Jq xs) (hns : ¬ ∃ x, Bad xs x)
include hv hr hns
theorem fk{d k e m:Nat}{s t:Nat × List Nat}(c:StB V xs d k s)(a:StB V xs e m t)(j:∀b,JO (X8 xs) d b->JO (X8 xs) e b->JO (X8 xs) d e)(l:d=e->k<=m):RSt xs s t:=fun b o f g=>by
 have n:=XH hv;have i:=j b (WG hv hr hns c.df f).1 (WG hv hr hns a.df g).1;have h:=xZ hv hr hns n.okf c.df a.df f g i l;rw[a.st _ (aC a.bn)];exact StA.to_ c.lt a.bn h
theorem oU{b:Nat}{x:Xe}(e:xs[b]?=some x):∀k,(VC xs V b x k).Pairwise (RSt xs)
 | 0=>lU
 | k+1=>by
  have d:=XH hv;rw[VC,kY];refine⟨oU e k,?_,fun s c t a=>?_⟩
  ·cases ey:x.is[k]? with
   | none=>exact lU
   | some y =>
    show(List.map _ (writesI y)).Pairwise _;unfold writesI;cases dB y.op<;>simp
  ·obtain⟨n,j,c⟩:=UZ d e k c
   obtain⟨i,l,f⟩:=UZ d e (k+1) (s:=t) (by rw[VC];exact fB _ a);have m:i=k:=by
    cases ey:x.is[k]? with
    | none=>rw[ey]at a;cases a
    | some y =>
     rw[ey]at a;obtain⟨v,g,rfl⟩:=aY.1 a;have h:=d.wri x (eN e) y (eN ey) v g;have:=(Wl.one hv f.df (b':=b) (k':=k+1) ⟨x,y,e,ey,by show((v.toNat:Nat):Int)∈_;rw[fR h.1];exact g⟩).2;omega
   exact fk hv hr hns c f (fun _ _ _=>Zd (hr b c.bn)) (fun _=>oM)
theorem xG(b:Nat):(skB xs V b).Pairwise (RSt xs):=by
 have c:=XH hv;unfold skB;cases e:xs[b]? with
 | none=>exact lU
 | some x =>
  show(_++_:List _).Pairwise _;rw[kY];refine⟨?_,oU hv hr hns e _,fun s h t i=>?_⟩
  ·rw[gY]
   intro k j f g _;have a:=WL c e (aH f);have d:=WL c e (aH g);exact fk hv hr hns a d (fun _ _ _=>Zd (hr b a.bn)) (fun _=>aA _)
  ·have a:=WL c e h
   obtain⟨j,_,d⟩:=UZ c e _ i;exact fk hv hr hns a d (fun _ _ _=>Zd (hr b a.bn)) (fun _=>aN _)
theorem yG{P:List Int}(k:YX (X8 xs) xs.length P):(Ko xs V (XT P xs.length 0)).Pairwise (RSt xs):=by
 have e:=XH hv;unfold Ko;rw[iK];refine⟨fun b _=>xG hv hr hns b,?_⟩;refine(oZ k xs.length 0 Re.root).imp (fun {f l} d s a t c=>?_);obtain⟨m,a⟩:=jt e a;obtain⟨n,c⟩:=jt e c;refine fk hv hr hns a c (fun b i j=>?_) (fun g=>?_)
 ·rcases TY i j with h | h
  ·exact h
  ·exact absurd h d
 ·subst g;exact absurd (Zd (hr f a.bn)) d
end
theorem oH{V:Nat}{d:List (Nat × List Nat)}(h:de V d){b c:List (Nat × List Nat)}{t:Nat × List Nat}(e:d=b++t::c){s:Nat × List Nat}(a:s∈b++[t]):∀r∈c,r.1≠s.1:=fun r hr=>by
 obtain⟨f,g,rfl⟩:=kD hr;have:=h.nd (b++t::f) r g (by rw[e];simp) s (by
  rcases bU.1 a with a | a
  ·exact dD _ a
  ·rw[cS.1 a];exact fB _ cI)
 exact fun q=>this q.symm
theorem rh{V:Nat}{c:List (Nat × List Nat)}(h:de V c){a b:List (Nat × List Nat)}{t:Nat × List Nat}(e:c=a++t::b)(C:Nat->Int):Kq C c t.1=(smN (Kq C a) t.2:Int)/\(∀s∈a,Kq C c s.1=Kq C a s.1)/\Kq C a t.1=C t.1:=by
 have e1:Kq C c=Kq (ckS (Kq C a) t) b:=by rw[e];unfold Kq;rw[dT];rfl
 refine⟨?_,fun s d=>?_,TE a C (fun s d=>h.nd a t b e s d)⟩
 ·rw[e1,TE b _ (oH h e (fB _ (cS.2 rfl)))]
  unfold ckS;rw[aU rfl]
 ·rw[e1,TE b _ (oH h e (dD _ d))]
  unfold ckS;rw[aM (h.nd a t b e s d)]
theorem BN{V:Nat}{xs:List Xe}{c:List (Nat × List Nat)}(h:de V c)(k:c.Pairwise (RSt xs))(C:Nat->Int){u w b i:Nat}(o:u<V)(p:w<V)(m:u≠w)(g:StA xs u b i)(j:StA xs w b i):Kq C c u≠Kq C c w:=by
 have l:∀(s t:Nat × List Nat)(d f:List (Nat × List Nat)),c=d++t::f->s∈d->StA xs s.1 b i->StA xs t.1 b i->Kq C c s.1≠Kq C c t.1:=fun s t d f e a q r=>by
  obtain⟨q1,q2,_⟩:=rh h e C;rw[q1,q2 s a];rw[e,kY]at k;exact(fv _ _).free s.1 (k.2.2 s a t cI b i q r)
 obtain⟨s,a,rfl⟩:=h.all u o;obtain⟨t,n,rfl⟩:=h.all w p;obtain⟨d,f,e⟩:=kD n;rw[e]at a;rcases bU.1 a with a | a
 ·exact l s t d f e a g j
 ·rcases cH.1 a with a | a
  ·exact absurd (by rw[a]) m
  ·obtain⟨v,x,e2⟩:=kD a
   exact fun y=>l t s (d++t::v) x (by rw[e,e2];simp) (fB _ cI) j g y.symm
theorem AM{V:Nat}{b:List (Nat × List Nat)}(h:de V b){t:Nat × List Nat}(j:t∈b)(c:t.1∈t.2):Kq (fun _=>-1) b t.1+1<=t.2.length:=by
 obtain⟨a,n,e⟩:=kD j;obtain⟨q1,_,m⟩:=rh h e (fun _=>-1);rw[q1];have g:=(fv (Kq (fun _=>-1) a) t.2).low;generalize smN (Kq (fun _=>-1) a) t.2=d at *;have f:=K3 (A:=List.range d) (B:=(t.2.erase t.1).map fun u=>(Kq (fun _=>-1) a u).toNat) kS (fun x l=>by
  obtain⟨u,k,e⟩:=g x (bE.1 l);have i:u≠t.1:=fun e2=>by rw[e2,m]at e;omega
  exact aY.2 ⟨u,(iF i).2 k,by rw[e];rfl⟩)
 rw[bK,fP c,gI]at f;have:=eJ c;omega
theorem qM{C:Nat->Int}{M:Int}(a:0<=M):∀V,(∀u,u<V->C u+1<=M)->ckN C V<=M
 | 0,_=>a
 | V+1,h=>by
  rw[ckN];have b:=qM a V (fun u d=>h u oM);have c:=h V (iJ _);omega
theorem jy{C:Nat->Int}{u:Nat}:∀V,u<V->C u+1<=ckN C V
 | V+1,h=>by
  rw[ckN];by_cases e:u=V
  ·subst e;omega
  ·have:=jy (C:=C) V (show u<V by omega)
   omega
theorem p9{xs:List Xe}{V:Nat}{l:List Nat}(h:l∈Zw xs V xs.length):∃(b:Nat)(f:b<xs.length)(i:Nat),i<=xs[b].is.length/\l=Uq xs xs[b] V b i:=by
 obtain⟨s,a,c⟩:=bV.1 h;have a:=bE.1 a;obtain⟨i,d,e⟩:=(Jr a).1 c;exact⟨s,a,i,d,e⟩
theorem qX(xs:List Xe)(x:Xe)(V b i:Nat):(Uq xs x V b i).Nodup:=by
 unfold Uq;exact List.nodup_range.sublist jR
theorem Bb{xs:List Xe}{V:Nat}{l:List Nat}(h:l∈Zw xs V xs.length):l.length<=mxL (Zw xs V xs.length):=(TL _ _).1 (aA _) l h
theorem Aa{V:Nat}{xs:List Xe}{P:List Int}(hv:XJ ⟨(V:Int),xs⟩=true)(hr:Jq xs)(hns:¬∃x,Bad xs x)(j:YX (X8 xs) xs.length P) :
 ckN (Kq (fun _=>-1) (Ko xs V (XT P xs.length 0))) V=(mxL (Zw xs V xs.length):Int)/\(∀l∈Zw xs V xs.length,(l.map fun u=>(Kq (fun _=>-1) (Ko xs V (XT P xs.length 0)) u).toNat).Nodup)/\∀u,u<V->0<=Kq (fun _=>-1) (Ko xs V (XT P xs.length 0)) u:=by
 have C:=XH hv;have i:=qG hv hr j;have D:=yG hv hr hns j;have g:∀u,u<V->0<=Kq (fun _=>-1) (Ko xs V (XT P xs.length 0)) u:=fun u c=>UP _ _ (aZ (i.all u c))
 have E:∀v∈Ko xs V (XT P xs.length 0),∃b k,StB V xs b k v:=fun v a=>by
  obtain⟨b,_,a⟩:=bV.1 a;obtain⟨k,a⟩:=jt C a;exact⟨b,k,a⟩
 generalize K:Ko xs V (XT P xs.length 0)=e at *;have p:∀l∈Zw xs V xs.length,(l.map fun u=>(Kq (fun _=>-1) e u).toNat).Nodup:=fun l d=>by
  obtain⟨b,m,G,n,rfl⟩:=p9 d;show List.Pairwise _ _;rw[List.pairwise_map];refine jT (fun {u H} c r B I=>?_) (qX xs xs[b] V b G);have f:=JF d c;have s:=JF d r;have:=BN i D (fun _=>-1) f s B (StA.of m n c) (StA.of m n r);have w:=g u f;have y:=g H s;omega
 refine⟨?_,p,g⟩;have w:ckN (Kq (fun _=>-1) e) V<=(mxL (Zw xs V xs.length):Int):=qM oM V (fun u c=>by
  obtain⟨t,q,rfl⟩:=i.all u c;obtain⟨b,k,a⟩:=E t q;have e2:=a.st _ (aC a.bn);have o:=a.kn _ (aC a.bn);have A:t.1∈t.2:=by
   rw[e2];exact StA.to_ a.lt a.bn ⟨xs[b]'a.bn,aC a.bn,o,bC a.df⟩
  have h:=AM i q A;have z:=Bb (bV.2 ⟨b,bE.2 a.bn,(Jr a.bn).2 ⟨k,o,e2⟩⟩);omega)
 have y:mxL (Zw xs V xs.length)<=(ckN (Kq (fun _=>-1) e) V).toNat:=(TL _ _).2 (fun l d=>by
  have h:=YS (p l d) (n:=(ckN (Kq (fun _=>-1) e) V).toNat) (fun x F=>by
   obtain⟨u,c,rfl⟩:=aY.1 F;have f:=JF d c;have z:=jy (C:=Kq (fun _=>-1) e) V f;have J:=g u f;omega)
  rw[bK]at h;exact h)
 have h:=UJ (Kq (fun _=>-1) e) V;omega
theorem xO{v:Int}{xs:List Xe}{a:List Int}{k:Int}(h:pcQ v xs a k):(mxL (Zw xs v.toNat xs.length):Int)<=k:=by
 obtain⟨_,j,_,m,e,f⟩:=h;have:mxL (Zw xs v.toNat xs.length)<=k.toNat:=(TL _ _).2 (fun l c=>by
  have b:=YS (f l c) (n:=k.toNat) (fun x i=>by
   obtain⟨u,g,rfl⟩:=aY.1 i;have o:=JF c g;have d:u<a.length:=oM;have n:=e a[u] (aH d);unfold US colI;rw[bF,aC d,gR];omega)
  rw[bK]at b;exact b)
 omega
theorem qt{xs:List Xe}{V:Nat}:mxL (Zw xs V xs.length)<=V:=(TL _ _).2 (fun l a=>by
 obtain⟨b,d,i,_,rfl⟩:=p9 a;exact YS (qX _ _ _ _ _) (fun u c=>JF a c))
end
structure DrC(F:Fn)(w w':World)(a:Option Addr)(m:Nat):Prop where
 len:m=F.blocks.length
 low:Below w.heap.size w w'
 at_:Xp w' w.heap.size w'.heap.size a F.blocks
 tot:F.blocks.length+Xx F.blocks<=1048576
theorem vx(i:Option Addr)(n s:Nat)(a:List UInt8)(L B:Nat)(w:World)(ha:Hid (Yx w L B i a))(F:Hid (n=a.length))(E:n<=1048576)(C:B<=w.heap.size) :
 Calls prog 4 #[.slice i n s] w fun j H=>∃e m f,j=.returned (.agg #[.int .i64 (drawF (WB a)).values,.slice e m f])/\DrC (drawF (WB a)) w H e m:=by
 have p:=Xa (ha.keep (Below.alloc (Below.refl B w) C (.cells #[.int .i64 0,.slice none 0 0] 25)))
 go_in
 go_wp2_with fail
 refine(tp i n s a L B _ p F E (by simp;omega)).mono ?_;rintro j c ⟨rfl,k,l,o⟩;rw[aO]at k l o |-;have x:Hid (ZQ c (w.heap.size+1) c.heap.size (WB a)):=Xa ⟨o,AC a,l,aA _⟩;have r:=Xa k;have K:w.heap.size+2<=c.heap.size:=oM;clear k l o p
 go_wp2_with fail
 refine(uj (w.heap.size+1) c.heap.size (WB a) c x).mono ?_;rintro j d ⟨⟨e,m,f,rfl,t,u⟩,v⟩;have y:=Xa t;have b:=Xa u;have z:=Xa v;clear t u v;have h:Hid (Bx d w.heap.size #[.int .i64 0,.slice none 0 0] 25):=Xa (((Bx.new w _ _).keep (r.block _ oM)).keep (b.low _ oM oM));have A:Cl d w.heap.size 0 (.int .i64 0):=Bx.cell h.out rfl;have f1:Cl d w.heap.size 1 (.slice none 0 0):=Bx.cell h.out rfl;have I:=Bx.thaw h.out;go_wp2;refine cC (v:=.agg #[.int .i64 (drawF (WB a)).values,.slice e m f]) (by simp[results,results4,go_sem,A,f1]) rfl ⟨e,m,f,rfl,y.out,?_,?_,z.out⟩
 ·have g:Below w.heap.size w c:=(Below.alloc (Below.refl _ _) (aA _) _).trans (r.mono oM)
  have G:Below w.heap.size w d:=⟨b.os.trans g.os,b.tape.trans g.tape,b.output.trans g.output,aJ g.size b.size,fun q hq=>(b.low q oM oM).trans (g.block q hq)⟩;exact(G.setCell (p:=⟨w.heap.size,0,none⟩) (aA _) _).setCell (p:=⟨w.heap.size,1,none⟩) (aA _) _
 ·have D:YA c.heap.size d.heap.size d ((d.setCell ⟨w.heap.size,0,none⟩ (.int .i64 (drawF (WB a)).values)).setCell ⟨w.heap.size,1,none⟩ (.slice e m f)):=fun q J _=>by
   have hq:q≠w.heap.size:=oM;exact(Below.heap_setCell _ _ _ _ hq).trans (Below.heap_setCell _ _ _ _ hq)
  exact(b.at_.keepS D).mono oM (by simp[World.setCell])
theorem lf(m:Option Addr)(n F:Nat)(a:List Int)(L B:Nat)(w:World)(ha:Hid (Xf w L B m a))(h:Hid (n=a.length))(X:n<=1048576)(R:B<=w.heap.size) :
 Calls prog 11 #[.slice m n F] w fun e x=>∃g C,e=.returned (.slice (some ⟨g,0,none⟩) n C)/\Below w.heap.size w x/\w.heap.size<=g/\IaAt x g n C (fun i=>a.getD i 0):=by
 obtain⟨N,H,J,K,M⟩:=fX Tryz.info2'
 go_in
 go_wp2
 go_loopw [3,4] (fun u i wr=>∃k:Nat,k<=n/\i=.int .i64 k/\Hid (Below w.heap.size w wr)/\Hid (wr.ownsRow w.heap.size 2 1 u k ((a.take k).map (Value.int .i64))/\u≠.slice none 0 0)) (fun _ i _=>n-(intOf i).toNat)
 case atStart =>
  refine⟨0,aN _,rfl,Xa (Xb (Below.refl _ _) _),Xa ⟨?_,sP⟩⟩;exact eI (base:=w.heap.size) (e:=2) (size:=1) w #[] 0 sP sP rfl
 case round =>
  obtain⟨k,U,rfl,f,c⟩:=hrel;by_cases W:k<n
  ·have r:k<a.length:=oN h.out
   obtain⟨b,Z,rfl,⟨_,S⟩,p⟩:=ha.out k r;have T:=(XU f.out oM).trans p;have A:Hid (a.take (k+1)=a.take k++[a[k]]):=Xa (X7 _ _ r);have V:(a.take k).length=k:=by rw[dH];omega
   have Y:=f.size;clear p;generalize a[k]=Q at *;generalize a.take k=ps at *
   go_wp2_with (at_builtin;refine fT _ rfl _ _ 27 rfl w.heap.size 2 N (.int .i64 0) 1 8 underlying27 H J K M rfl vY _ _ _ rfl (c.1.alloc _) ⟨wr.heap.size,0,none⟩ 1 1 [.int .i64 Q] rfl rfl ?c1 ?c2 ?c3 ?c4 ?c5 ?_)
   case c1 =>
    intro O u d
    match O,d with
    | 0,d=>simp at d;subst d;simp[Addr.add]
   case c2=>intro u v;simp at v;subst v;rfl
   case c3=>unfold maxLen;omega
   case c4=>omega
   case c5=>simp;omega
   intro P w1 t q s;have E:=Xa t;have y:=Xa (Xy (Xb f.out _) q (c.1.alloc _) (aA _) (by simp;omega));have D:Hid (P≠.slice none 0 0):=Xa s;clear t q s;go_wp2;exact⟨⟨k+1,oM,gM,y,Xa ⟨by rw[A.out,Yl];simpa using E.out,D.out⟩⟩,by simp[intOf];omega⟩
  ·have I:k=n:=oM
   subst I;have e:=aW (l:=a) (i:=k) (oN h.out);have l:=c.1;rw[e,h.out]at l;obtain⟨g,C,o,G,j⟩:=IaAt.of_own l c.2;rw[<-h.out]at o j;have z:=Xa j;subst o;clear j l e c;go_wp2
   go_ret
   exact⟨g,C,rfl,f.out,G,z.out⟩
theorem IaAt.ints{D:Nat->Int}(h:IaAt w n m k D):Xf w 0 w.heap.size (some ⟨n,0,none⟩) ((List.range m).map D):=fun i a=>by
 simp only[bK,gI]at a;refine⟨n,0,rfl,⟨aN _,h.lt⟩,?_⟩;simp only[cM,dW,aV];exact h.cell a
structure OlS(w wr:World)(Bd fb cb:Nat)(V:Int)(xs:List Xe)(a1:Option Addr)(m1 c1 g Vn:Nat)(ct:Int)(D:Nat->Int):Prop where
 low:Below w.heap.size w wr
 wb:w.heap.size<=Bd
 bd:Bd<=wr.heap.size
 fl:fb<Bd
 cl:cb<Bd
 gl:g<Bd
 fbx:Bx wr fb #[.int .i64 V,.slice a1 m1 c1] 25
 cbx:Bx wr cb #[.int .i64 0,.slice (some ⟨g,0,none⟩) Vn Vn,.int .i64 ct] 29
 at_:Xp wr 0 Bd a1 xs
 ia:IaAt wr g Vn Vn D
theorem OlS.keep{wr w':World}{m1 c1:Nat}{D:Nat->Int}(h:OlS w wr n m k t x p m1 c1 B g T D)(a:Below n wr w'):OlS w w' n m k t x p m1 c1 B g T D :=
 ⟨h.low.trans (a.mono h.wb),h.wb,aJ h.bd a.size,h.fl,h.cl,h.gl,h.fbx.keep (a.block _ h.fl),h.cbx.keep (a.block _ h.cl),h.at_.keep a,h.ia.of_block (a.block _ h.gl)⟩
theorem OlS.next{wr:World}{m1 c1:Nat}{D:Nat->Int}(h:OlS w wr n m k t x p m1 c1 B g T D)(a:Below wr.heap.size wr v):OlS w v n m k t x p m1 c1 B g T D:=h.keep (a.mono h.bd)
theorem OlS.drew{wr:World}{m1 c1:Nat}{D:Nat->Int}(h:OlS w wr n m k t x p m1 c1 B g T D):OlS w wr.drew n m k t x p m1 c1 B g T D:=h.keep (Below.refl _ _).drew
theorem OlS.cells{wr:World}{m1 c1:Nat}{D:Nat->Int}(h:OlS w wr n m k t x p m1 c1 g B T D):wr.cell? ⟨k,0,none⟩=some (.int .i64 0)/\wr.cell? ⟨k,1,none⟩=some (.slice (some ⟨g,0,none⟩) B B)/\wr.cell? ⟨k,2,none⟩=some (.int .i64 T)/\wr.cell? ⟨m,0,none⟩=some (.int .i64 t)/\wr.cell? ⟨m,1,none⟩=some (.slice p m1 c1) :=
 ⟨Bx.cell h.cbx rfl,Bx.cell h.cbx rfl,Bx.cell h.cbx rfl,Bx.cell h.fbx rfl,Bx.cell h.fbx rfl⟩
theorem y8(h:XJ ⟨t,x⟩=true):∃n:Nat,t=(n:Int):=by
 simp only[XJ,bY]at h;obtain⟨⟨⟨⟨a,_⟩,_⟩,_⟩,_⟩:=h;simp only[Y6,bY,bD]at a;exact bX a.1.1.1.1
noncomputable def ocC(V:Nat)(a:List Xe):Nat->Int:=Kq (fun _=>-1) (Ko a V (XT ((List.range a.length).map (idomP ((List.range a.length).map (Zq (X8 a) a.length)))) a.length 0))
theorem zv(h:verdP (n:Int) x=0):ckN (ocC n x) n=(mxL (Zw x n x.length):Int)/\pcQ (n:Int) x ((List.range n).map (ocC n x)) (ckN (ocC n x) n):=by
 obtain⟨c,e⟩:=TX h;have d:=XH c;have p:¬∃r,Bad x r:=fun m=>by
  rw[gw c e m]at h;omega
 obtain⟨g,j,k⟩:=Aa c e p d.okf.model;have i:ckN (ocC n x) n=(mxL (Zw x n x.length):Int):=g;have v:=@qt x n;have t:=d.vle;refine⟨i,h,oM,oM,sP,fun s o=>?_,fun l b=>?_⟩
 ·obtain⟨u,a,rfl⟩:=aY.1 o
  have a:=bE.1 a;have:=jy (C:=ocC n x) n a;exact⟨k u a,oM⟩
 ·have f:l.map (US ((List.range n).map (ocC n x)))=l.map fun u=>(ocC n x u).toNat:=by
   apply gH;intro u a;have q:u<n:=JF b a;unfold US colI;rw[bF,dX,iQ q];rfl
  rw[dM]at b;rw[f];exact j l b
end Go.Proofs.YtghnlncgiihhgaaGreatDoor
