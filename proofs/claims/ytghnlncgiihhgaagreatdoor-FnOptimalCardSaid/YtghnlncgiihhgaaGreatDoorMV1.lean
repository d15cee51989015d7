import Derived.Test.YtghnlncgiihhgaaGreatDoorPL1
namespace Go.Proofs.YtghnlncgiihhgaaGreatDoor
set_option maxHeartbeats 2000000
set_option maxRecDepth 100000
open Go.RowKit Go.Proofs.Tryz
theorem r8(t:Yj)(w:World) :
 Calls prog 95 #[.agg #[.int .i64 t.kind,.int .i64 t.a,.int .i64 t.to,.int .i64 t.els]] w fun j d=>∃e h,j=.returned (.slice e (rdT t).length h)/\Below w.heap.size w d/\Xf d w.heap.size d.heap.size e (rdT t):=by
 obtain⟨c,g,tg,k⟩:=t;by_cases a:c=1
 ·subst a
  go_in
  go_wp2
  go_ret
  exact⟨_,_,rfl,Xb (Xb (Below.refl _ _) _) _,fun i b=>absurd b (by simp[rdT])⟩
 ·have e1:(c==1)=false:=by simp[a]
  have f:rdT ⟨c,g,tg,k⟩=[g]:=by simp[rdT,a]
  rw[f];clear a f
  go_in
  go_wp2
  go_ret
  refine⟨_,_,rfl,Xb (Xb (Below.refl _ _) _) _,fun i b=>?_⟩
  match i,b with
  | 0,_=>exact⟨_,_,rfl,⟨sP,sP⟩,sP⟩
theorem Wv(y:Yg)(w:World) :
 Calls prog 97 #[cu y] w fun s M=>∃P U,s=.returned (.slice P (rdI y).length U)/\Below w.heap.size w M/\Xf M w.heap.size M.heap.size P (rdI y):=by
 obtain⟨J,E,G,H,I⟩:=fX Tryz.info2';obtain⟨b,i,e,c,k⟩:=y;have T:=Xa (fun W=>fy b W);have N:=Xa (fun W=>j5 b W);have r:Hid (rdI ⟨b,i,e,c,k⟩=(if aB b then [e]else [])++(if bB b then [c]else [])):=Xa rfl;generalize rdI ⟨b,i,e,c,k⟩=rs at *;generalize aB b=X at *;generalize bB b=S at *;unfold cu
 go_in
 go_wp2_with fail
 refine(T _).mono ?_;rintro s q ⟨rfl,g⟩;rw[g];clear g q;have C:Hid (Below w.heap.size w ((w.alloc (.cells #[.int .i64 b,.int .i64 i,.int .i64 e,.int .i64 c,.int .i64 k] 98)).alloc (.cells #[] 2))):=Xa (Xb (Xb (Below.refl _ _) _) _);have l:=Xa (K5 w (.cells #[.int .i64 b,.int .i64 i,.int .i64 e,.int .i64 c,.int .i64 k] 98));have F:w.heap.size<((w.alloc (.cells #[.int .i64 b,.int .i64 i,.int .i64 e,.int .i64 c,.int .i64 k] 98)).alloc (.cells #[] 2)).heap.size:=by simp;omega
 have t:∀K L,#[Value.int .i64 b,.int .i64 i,.int .i64 e,.int .i64 c,.int .i64 k][K]?=some L->((w.alloc (.cells #[.int .i64 b,.int .i64 i,.int .i64 e,.int .i64 c,.int .i64 k] 98)).alloc (.cells #[] 2)).cell? ⟨w.heap.size,K,none⟩=some L:=fun K L V=>by
  rw[bP _ _ _ sP];rw[eC];exact V
 generalize (w.alloc _).alloc _=W at *;have c0:=t 0 _ rfl;have c2:=t 2 _ rfl;have c3:=t 3 _ rfl;clear t;have aa:=Xa F;cases X with
 | false =>
  go_wp2_with fail
  refine(N _).mono ?_;rintro s q ⟨rfl,g⟩;rw[g];clear g q;cases S with
  | false =>
   go_wp2
   go_ret
   have d:=r.out;simp at d;subst d;obtain⟨h,c1,e1,j⟩:=Xk (xs:=([]:List Int)) (by simpa using l.out);exact⟨h,c1,fI Ending.returned e1,C,j.mono oM (aA _)⟩
  | true =>
   go_wp2_with (at_builtin;refine fT _ rfl _ _ 27 rfl (w.heap.size+1) 2 J (.int .i64 0) 1 8 underlying27 E G H I rfl vY _ _ _ rfl (l.alloc _) ⟨W.heap.size,0,none⟩ 1 1 [.int .i64 c] rfl rfl ?c1 ?c2 ?c3 ?c4 ?c5 ?_)
   case c1 =>
    intro p u a
    match p,a with
    | 0,a=>simp at a;subst a;simp[Addr.add]
   case c2=>intro u f;simp at f;subst f;rfl
   case c3=>unfold maxLen;(try simp);(try omega)
   case c4=>simp
   case c5=>simp;omega
   intro Y Z o n _;have m:=Xy (Xb C _) n (l.alloc _) oM (by simp;omega);have z:=Xa m;have B:=Xa o;clear o n m;go_wp2
   go_ret
   have d:=r.out;simp at d;subst d;obtain⟨h,c1,e1,j⟩:=Xk (xs:=([]:List Int)++[c]) (by simpa using B.out);exact⟨h,c1,fI Ending.returned e1,z,j.mono oM (aA _)⟩
 | true =>
  go_wp2_with (at_builtin;refine fT _ rfl _ _ 27 rfl (w.heap.size+1) 2 J (.int .i64 0) 1 8 underlying27 E G H I rfl vY _ _ _ rfl (l.alloc _) ⟨W.heap.size,0,none⟩ 1 1 [.int .i64 e] rfl rfl ?c1 ?c2 ?c3 ?c4 ?c5 ?_)
  case c1 =>
   intro p u a
   match p,a with
   | 0,a=>simp at a;subst a;simp[Addr.add]
  case c2=>intro u f;simp at f;subst f;rfl
  case c3=>unfold maxLen;(try simp);(try omega)
  case c4=>simp
  case c5=>simp;omega
  intro v0 x R v _;have Q:=Xy (Xb C _) v (l.alloc _) oM (by simp;omega);have D:=YJ v (l.alloc _) (b:=w.heap.size) oM (by simp;omega);have d3:Cl x w.heap.size 3 (.int .i64 c):=(Xc D).trans ((bP W _ ⟨w.heap.size,3,none⟩ F).trans c3);have d0:Cl x w.heap.size 0 (.int .i64 b):=(Xc D).trans ((bP W _ ⟨w.heap.size,0,none⟩ F).trans c0);have O:=Xa Q;have A:=Xa (by simpa using R);have ab:w.heap.size<x.heap.size:=by have:=v.size;simp at this;omega
  clear R v D Q c0 c2 c3
  go_wp2_with fail
  refine(N _).mono ?_;rintro s q ⟨rfl,g⟩;rw[g];clear g q;cases S with
  | false =>
   go_wp2
   go_ret
   have d:=r.out;simp at d;subst d;obtain⟨h,c1,e1,j⟩:=Xk (xs:=[e]) (by simpa using A.out);exact⟨h,c1,fI Ending.returned e1,O,j.mono oM (aA _)⟩
  | true =>
   go_wp2_with (at_builtin;refine fT _ rfl _ _ 27 rfl (w.heap.size+1) 2 J (.int .i64 0) 1 8 underlying27 E G H I rfl vY _ _ _ rfl (A.alloc _) ⟨x.heap.size,0,none⟩ 1 1 [.int .i64 c] rfl rfl ?c1 ?c2 ?c3 ?c4 ?c5 ?_)
   case c1 =>
    intro p u a
    match p,a with
    | 0,a=>simp at a;subst a;simp[Addr.add]
   case c2=>intro u f;simp at f;subst f;rfl
   case c3=>unfold maxLen;(try simp);(try omega)
   case c4=>simp
   case c5=>simp;omega
   intro Y Z o n _;have m:=Xy (Xb O _) n (A.alloc _) oM (by simp;omega);have z:=Xa m;have B:=Xa o;clear o n m;go_wp2
   go_ret
   have d:=r.out;simp at d;subst d;obtain⟨h,c1,e1,j⟩:=Xk (xs:=[e]++[c]) (by simpa using B.out);exact⟨h,c1,fI Ending.returned e1,z,j.mono oM (aA _)⟩
theorem sX(g:Option Addr)(n r:Nat)(a:List Ph)(O P Q R S:Value)(L B:Nat)(w:World)(F:Hid (Jw w L B g a))(q:Hid (n=a.length))(hn:n<=4000)(y:B<=w.heap.size) :
 Calls prog 94 #[.agg #[.slice g n r,O,P,Q,R,S]] w fun x h=>∃j v,x=.returned (.slice j (a.map Ph.dst).length v)/\Below w.heap.size w h/\Xf h w.heap.size h.heap.size j (a.map Ph.dst):=by
 obtain⟨M,D,I,J,K⟩:=fX Tryz.info2'
 go_in
 go_wp2
 go_loopw [3,4] (fun u i wr=>∃k:Nat,k<=n/\i=.int .i64 k/\Hid (Below w.heap.size w wr)/\w.heap.size<wr.heap.size/\wr.cell? ⟨w.heap.size,0,none⟩=some (.slice g n r)/\Hid (wr.ownsRow (w.heap.size+1) 2 1 u k (((a.map Ph.dst).take k).map (Value.int .i64)))) (fun _ i _=>n-(intOf i).toNat)
 case atStart=>exact⟨0,aN _,rfl,Xa (Xb (Xb (Below.refl _ _) _) _),by simp;omega,sP,Xa (K5 _ _)⟩
 case round =>
  obtain⟨k,hk,rfl,e,G,C,c⟩:=hrel;by_cases aa:k<n
  ·have l:k<a.length:=oN q.out
   obtain⟨b,ab,rfl,⟨_,Y⟩,ha,Z,V,W,_⟩:=(F.keep (e.mono y)) k l;have s:Hid ((a.map Ph.dst).take (k+1)=(a.map Ph.dst).take k++[a[k].dst]):=Xa (by rw[X7 _ _ (by simpa using l)];simp);generalize a[k]=X at *;generalize (a.map Ph.dst).take k=U at *
   go_wp2_with (at_builtin;refine fT _ rfl _ _ 27 rfl (w.heap.size+1) 2 M (.int .i64 0) 1 8 underlying27 D I J K rfl vY _ _ _ rfl (c.alloc _) ⟨wr.heap.size,0,none⟩ 1 1 [.int .i64 X.dst] rfl rfl ?c1 ?c2 ?c3 ?c4 ?c5 ?_)
   case c1 =>
    intro N u d
    match N,d with
    | 0,d=>simp at d;subst d;simp[Addr.add]
   case c2=>intro u p;simp at p;subst p;rfl
   case c3=>unfold maxLen;omega
   case c4=>omega
   case c5=>simp;omega
   intro u1 w1 o f _;have t:=Xa o;clear o;go_wp2;have z:=Xy (Xb e _) f (c.alloc _) oM (by simp;omega);have A:=YJ f (c.alloc _) (b:=w.heap.size) oM (by simp;omega);have H:=f.size;simp at H;exact⟨⟨k+1,oM,gM,Xa z,oM,(Xc A).trans ((bP wr _ ⟨w.heap.size,0,none⟩ G).trans C),Xa (by rw[s.out,Yl];exact t)⟩,by simp[intOf];omega⟩
  ·go_wp2
   go_ret
   have m:=c.out;rw[aW (by have:=q.out;simp;omega)]at m;obtain⟨T,c1,rfl,E⟩:=Xk m;exact⟨_,_,rfl,e,E.mono oM (aA _)⟩
def edP(b:List Int)(a:List Ph)(p:Int)(i:Nat):List Int:=(List.range i).flatMap fun i=>if b.getD i 0=p then a.map (fun h=>h.args.getD i 0)else []
theorem py(b:List Int)(a:List Ph)(p:Int)(i:Nat):edP b a p (i+1)=edP b a p i++(if b.getD i 0=p then a.map (fun h=>h.args.getD i 0)else []):=by
 unfold edP;rw[dN,eZ];simp
theorem jk(b:List Int)(a:List Ph)(p:Int):∀i,(edP b a p i).length<=i*a.length
 | 0=>by simp[edP]
 | i+1=>by
  have:=jk b a p i;rw[py,aQ,Nat.succ_mul];split
  ·rw[bK];omega
  ·simp;omega
theorem sd(V:Nat)(a3:Option Addr)(n g:Nat)(p:Int)(t:Nat)(c:List Xe)(a0 I:Nat)(w:World)(ha:Hid (Xp w a0 I a3 c))(F:Hid (n=c.length))(hB:I<=w.heap.size)(Y:Hid (Jy V c))(cw:t<n) :
 Calls prog 96 #[.agg #[.int .i64 (V:Int),.slice a3 n g],.int .i64 p,.int .i64 (t:Int)] w fun i w'=>∃l c',i=.returned (.slice (some l) (edgeU c p (t:Int)).length c')/\Below w.heap.size w w'/\Xf w' w.heap.size w'.heap.size (some l) (edgeU c p (t:Int)):=by
 obtain⟨i0,b7,cd,ce,ch⟩:=fX Tryz.info2';have hn:n<=1000:=oP F.out Y.okf.n2
 have E:t<c.length:=oN F.out
 obtain⟨b,o,rfl,⟨ct,cs⟩,hc⟩:=ha t E;obtain⟨pa,pc,ia,ic,q0,_,_,bf,_⟩:=hc;have bv:=Xa bf;have bt:=Xa (Y.pha t E);have U:=(Y.lens _ (aH E)).2;have K:Hid (edgeU c p (t:Int)=if c[t].ps=[]then []else edP (predsFrom c 0 (t:Int)) c[t].ps p (predsFrom c 0 (t:Int)).length):=Xa (by unfold edgeU edP;rw[dM,aC E]);have ay:=Xa (fun a2 (hW:Below w.heap.size w a2)=>ZE (V:Int) (some ⟨b,o,none⟩) n g (t:Int) c a0 I a2 (Xa (ha.keep (hW.mono hB))) F oM (oN hW.size));have bi:=YO (t:Int) c 0;have bl:(predsFrom c 0 (t:Int)).length<=1000:=oN F.out
 generalize predsFrom c 0 (t:Int)=d at *;generalize edgeU c p (t:Int)=ed at *;generalize c[t].ps=a at *;clear bf;have R:b<w.heap.size:=oM;have qa:=fun o1 o2=>oB (Xb (Xb (Below.refl w.heap.size w) o1) o2) q0 R
 clear q0
 go_in
 by_cases z:a.length=0
 ·have C:=iE z
  have he:ed=[]:=by rw[K.out,aU C]
  have bn:Hid (Below w.heap.size w ((w.alloc (.cells #[.int .i64 (V:Int),.slice (some ⟨b,o,none⟩) n g] 25)).alloc (.cells #[] 2))):=Xa (Xb (Xb (Below.refl _ _) _) _);simp only[z]at qa;clear bl U bi;go_wp2
  go_ret
  rw[he];exact⟨_,_,rfl,bn,fun r S=>absurd S sP⟩
 ·have b4:((a.length:Int)==0)=false:=by simp[z]
  have C:a≠[]:=fun i=>z (by rw[i];rfl)
  have aj:Hid (ed=edP d a p d.length):=Xa (by rw[K.out,aM C]);clear K C;have ax:=Xa (K5 w (.cells #[.int .i64 (V:Int),.slice (some ⟨b,o,none⟩) n g] 25));have J:Hid (Below w.heap.size w ((w.alloc (.cells #[.int .i64 (V:Int),.slice (some ⟨b,o,none⟩) n g] 25)).alloc (.cells #[] 2))):=Xa (Xb (Xb (Below.refl _ _) _) _);have ab:((w.alloc (.cells #[.int .i64 (V:Int),.slice (some ⟨b,o,none⟩) n g] 25)).alloc (.cells #[] 2)).heap.size=w.heap.size+2:=sP;have a7:((w.alloc (.cells #[.int .i64 (V:Int),.slice (some ⟨b,o,none⟩) n g] 25)).alloc (.cells #[] 2)).cell? ⟨w.heap.size,1,none⟩=some (.slice (some ⟨b,o,none⟩) n g):=sP
  go_wp2_with fail
  refine(ay _ J).mono ?_;rintro i H ⟨a1,c1,rfl,q,T⟩;rw[ab]at q T;have cf:=q.size;rw[ab]at cf;have j:=Xa (J.trans (q.mono oM));have a8:=(XU q oM).trans a7;have br:=Xa T;have ap:Hid (TH H (w.heap.size+1) H (.slice (some ⟨w.heap.size+1,0,none⟩) 0 0) []):=Xa (TH.start (YU ax (fun y i=>by
   have P:w.heap.size+1=y:=by simpa [Value.ownBlock]using i
   subst P;exact q.block _ oM)) (fun y i=>by
   have P:w.heap.size+1=y:=by simpa [Value.ownBlock]using i
   exact P.symm))
  have az:=(j.cell (p:=⟨b,o+t*6,none⟩) R).trans (by have:=qa (.cells #[] 0) (.cells #[] 0);exact((Xb (Xb (Below.refl w.heap.size w) _) _).cell (p:=⟨b,o+t*6,none⟩) R).symm.trans this);have M:=Xa az;have al:=Xa a8;have bw:=Xa (bv.keep (j.mono hB));have bo:=aj;obtain⟨np,B⟩:∃m,m=d.length:=⟨_,rfl⟩;rw[<-B]at bl;have ar:=Xa B;obtain⟨G,X⟩:∃m,m=a.length:=⟨_,rfl⟩;rw[<-X]at M U b4;have L:=Xa X;clear q T a7 a8 ab az qa ax J ay aj bi;rw[<-B];clear B X
  go_wp2
  go_loopw [7,9] (fun u r wr=>∃k:Nat,k<=np/\r=.int .i64 k/\Hid (TH H (w.heap.size+1) wr u (edP d a p k))/\Hid (u≠.slice none 0 0)) (fun _ r _=>np-(intOf r).toNat)
  case atStart=>exact⟨0,aN _,rfl,ap,Xa sP⟩
  case round =>
   clear ap;obtain⟨k,hk,rfl,e,O⟩:=hrel;by_cases b9:k<np
   ·have bb:k<d.length:=by rw[<-ar.out];exact b9
    obtain⟨b1,o1,rfl,⟨cj,ck⟩,a5⟩:=br k bb;have k1:=e.cell oM a5;have kf:=e.cell oM al;have kq:=e.cell oM M;have x:Hid (edP d a p (k+1)=edP d a p k++(if d[k]=p then a.map (fun h=>h.args.getD k 0)else [])):=Xa (by rw[py];congr 1;rw[bF,aC bb];rfl);have bs:Hid ((edP d a p k).length<=4000000):=Xa (aJ (jk d a p k) (aJ (lO (show k<=1000 by omega) (show a.length<=4000 by rw[<-L.out];exact U)) vY));generalize d[k]=v at *;clear a5;by_cases D:v=p
    ·subst D
     have N:=Xa (by have h:=x.out;rw[aU rfl]at h;exact h);have b6:(v==v)=true:=sP;generalize edP d a v k=Q at *;clear x
     go_wp2_with fail
     clear k1 kf kq;generalize wr=wo at *
     go_loopw [7,10] (fun u af wr=>∃m:Nat,m<=G/\af=.int .i64 m/\Hid (TH H (w.heap.size+1) wr u (Q++(a.map (fun h=>h.args.getD k 0)).take m))/\Hid (u≠.slice none 0 0)) (fun _ r _=>G-(intOf r).toNat)
     case atStart=>exact⟨0,aN _,rfl,Xa (by simpa using e.out),O⟩
     case round =>
      obtain⟨m,hm,rfl,f,bz⟩:=hrel;have kf:=f.cell oM al;have kq:=f.cell oM M;by_cases ca:m<G
      ·have W:m<a.length:=by rw[<-L.out];exact ca
       obtain⟨b2,o2,rfl,⟨cl,cp⟩,aa,ac,g0,g1,gi⟩:=bw m W;have b5:=(bt a[m] (aH W)).1;have ba:k<a[m].args.length:=oM;obtain⟨b3,o3,rfl,⟨cq,cr⟩,g3⟩:=gi k ba;have m1:=f.cell oM g1;have m3:=f.cell oM g3;have bx:Hid ((a.map (fun h=>h.args.getD k 0)).take (m+1)=(a.map (fun h=>h.args.getD k 0)).take m++[a[m].args[k]]):=Xa (by rw[X7 _ _ (by simpa using W)];simp[ba]);have aq:Hid ((Q++(a.map (fun h=>h.args.getD k 0)).take m).length<=4004000):=Xa (by have:=bs.out;rw[aQ,dH];omega);have cv:(k:Int)<(a[m].args.length:Int):=oM;generalize (a.map (fun h=>h.args.getD k 0)).take m=tm at *;generalize a[m].args[k]=av at *;generalize a[m].args.length=la at *;generalize a6:Q++tm=el at *;have bp:=Xa a6;clear g0 g1 g3 gi b5 a6
       go_wp2_with (at_builtin;refine bT _ rfl _ _ 27 rfl (w.heap.size+1) 2 i0 (.int .i64 0) 1 8 underlying27 b7 cd ce ch rfl vY _ _ _ rfl (f.own.alloc _) ⟨wr.heap.size,0,none⟩ 1 1 [.int .i64 av] rfl rfl ?c1 ?c2 ?c3 ?c4 ?c5 ?_)
       case c1 =>
        intro af u A
        match af,A with
        | 0,A=>simp at A;subst A;simp[Addr.add]
       case c2=>intro u hu;simp at hu;subst hu;rfl
       case c3=>have:=aq.out;unfold maxLen;omega
       case c4=>have:=aq.out;omega
       case c5=>have:=f.size;simp;omega
       intro u1 w2 bd a9 bc a4;have bq:=Xa ((f.alloc _).push (x:=av) a9 bd (by rw[aO];exact a4));have b0:Hid (u1≠.slice none 0 0):=Xa bc;clear bd a9 a4 bc kf kq m1 m3
       go_wp2
       exact⟨⟨m+1,oM,gM,Xa (by rw[bx.out,<-cK,bp.out];exact bq),b0⟩,by simp[intOf];omega⟩
      ·have cb:G<=m:=oM
       go_wp2
       exact⟨⟨k+1,oM,gM,Xa (by rw[N.out];have h:=f.out;rw[aW (by rw[bK,<-L.out];exact cb)]at h;exact h),bz⟩,by simp[intOf];omega⟩
    ·have N:=Xa (by have h:=x.out;rw[aM D,fF]at h;exact h)
     have b6:(v==p)=false:=by simp[D]
     clear x D
     go_wp2
     exact⟨⟨k+1,oM,gM,Xa (by rw[N.out];exact e),O⟩,by simp[intOf];omega⟩
   ·have b8:k=d.length:=oN ar.out
    go_wp2
    go_ret
    have Z:=e.own;rw[b8,<-bo.out]at Z;obtain⟨l,cc,e2,S⟩:=Xk Z;cases l with
    | none =>
     exfalso;rcases Vc Z with⟨s,_,_⟩ | s
     ·exact O s
     ·obtain⟨y,ci,s,_⟩:=s
      rw[s]at e2;injection e2 with e2;cases e2
    | some l =>
     refine⟨l,cc,fI Ending.returned e2,⟨e.os.trans j.os,e.tape.trans j.tape,e.output.trans j.output,aJ j.size e.size,fun bm hq=>(e.fr bm oM oM).trans (j.block bm hq)⟩,S.mono oM (aA _)⟩
section
def Jv(x:Xe):List (List Int):=x.is.map rdI
def Z2(x:Xe):List Int:=x.is.map defI
theorem Yv.mono{w:World}{P Q:Nat->Prop}{c:Option Addr}{d:List Int}(h:Yv w P c d)(k:∀b,b<w.heap.size->P b->Q b):Yv w Q c d:=fun i g=>by
 obtain⟨b,o,e,a,f⟩:=h i g;exact⟨b,o,e,⟨k b a.2 a.1,a.2⟩,f⟩
theorem Yv.keep{w w':World}{P:Nat->Prop}{c:Option Addr}{d:List Int}(h:Yv w P c d)(k:∀b,b<w.heap.size->P b->w'.heap[b]?=w.heap[b]?)(i:w.heap.size<=w'.heap.size):Yv w' P c d:=fun j g=>by
 obtain⟨b,o,e,a,f⟩:=h j g;exact⟨b,o,e,⟨a.1,aX a.2 i⟩,(Xc (k b a.2 a.1)).trans f⟩
theorem TA.mono{w:World}{P Q:Nat->Prop}{c:Option Addr}{d:List (List Int)}(h:TA w P c d)(k:∀b,b<w.heap.size->P b->Q b):TA w Q c d:=fun n m=>by
 obtain⟨b,o,g,a,e,f,j,i⟩:=h n m;exact⟨b,o,g,⟨k b a.2 a.1,a.2⟩,e,f,j,i.mono k⟩
theorem TA.keep{w w':World}{P:Nat->Prop}{c:Option Addr}{e:List (List Int)}(i:TA w P c e)(k:∀b,b<w.heap.size->P b->w'.heap[b]?=w.heap[b]?)(d:w.heap.size<=w'.heap.size):TA w' P c e:=fun o n=>by
 obtain⟨b,p,h,a,f,g,m,j⟩:=i o n;exact⟨b,p,h,⟨a.1,aX a.2 d⟩,f,g,(Xc (k b a.2 a.1)).trans m,j.keep k d⟩
theorem Yv.of_at{w:World}{L B:Nat}{P:Nat->Prop}{a:Option Addr}{d:List Int}(h:Xf w L B a d)(j:B<=w.heap.size)(k:∀b,L<=b->b<B->P b):Yv w P a d:=fun i g=>by
 obtain⟨b,o,e,c,f⟩:=h i g;exact⟨b,o,e,⟨k b c.1 c.2,oM⟩,f⟩
theorem Yv.at_{w:World}{P:Nat->Prop}{a:Option Addr}{c:List Int}(h:Yv w P a c):Xf w 0 w.heap.size a c:=fun i g=>by
 obtain⟨b,o,e,d,f⟩:=h i g;exact⟨b,o,e,⟨aN _,d.2⟩,f⟩
structure VO(w:World)(P:Nat->Prop)(us:Nat->Value)(x:Xe)(E:List Int):Prop where
 e0:∃a c,us 0=.slice a x.te.tg.length c/\Yv w P a x.te.tg
 e1:∃a c,us 1=.slice a (x.ps.map Ph.dst).length c/\Yv w P a (x.ps.map Ph.dst)
 e2:∃a c,us 2=.slice a E.length c/\Yv w P a E
 e3:∃a c,us 3=.slice a (Jv x).length c/\TA w P a (Jv x)
 e4:∃a c,us 4=.slice a (Z2 x).length c/\Yv w P a (Z2 x)
 e5:∃a c,us 5=.slice a (rdT x.te).length c/\Yv w P a (rdT x.te)
theorem VO.keep{w w':World}{P:Nat->Prop}{c:Nat->Value}{x:Xe}{E:List Int}(m:VO w P c x E)(k:∀b,b<w.heap.size->P b->w'.heap[b]?=w.heap[b]?)(a:w.heap.size<=w'.heap.size):VO w' P c x E:=by
 obtain⟨⟨d,c0,j,n⟩,⟨e,c1,e1,o⟩,⟨f,c2,e2,p⟩,⟨g,c3,e3,q⟩,⟨h,c4,e4,r⟩,⟨i,c5,e5,s⟩⟩:=m;exact⟨⟨d,c0,j,n.keep k a⟩,⟨e,c1,e1,o.keep k a⟩,⟨f,c2,e2,p.keep k a⟩,⟨g,c3,e3,q.keep k a⟩,⟨h,c4,e4,r.keep k a⟩,⟨i,c5,e5,s.keep k a⟩⟩
theorem VO.mono{w:World}{P Q:Nat->Prop}{a:Nat->Value}{x:Xe}{E:List Int}(j:VO w P a x E)(k:∀b,b<w.heap.size->P b->Q b):VO w Q a x E:=by
 obtain⟨⟨c,c0,i,m⟩,⟨d,c1,e1,n⟩,⟨e,c2,e2,o⟩,⟨f,c3,e3,p⟩,⟨g,c4,e4,q⟩,⟨h,c5,e5,r⟩⟩:=j;exact⟨⟨c,c0,i,m.mono k⟩,⟨d,c1,e1,n.mono k⟩,⟨e,c2,e2,o.mono k⟩,⟨f,c3,e3,p.mono k⟩,⟨g,c4,e4,q.mono k⟩,⟨h,c5,e5,r.mono k⟩⟩
structure EdL(W1:World)(bx:Nat)(f0:Nat->Value)(wr:World)(u:Value)(l:List Int):Prop where
 os:wr.os=W1.os
 tape:wr.tape=W1.tape
 output:wr.output=W1.output
 size:W1.heap.size<=wr.heap.size
 fr:∀q,q<W1.heap.size->q≠bx->wr.heap[q]?=W1.heap[q]?
 box:wr.rowIs bx 109 6 (fun i=>if i=2 then u else f0 i)
 own:wr.ownsRow W1.heap.size 2 1 u l.length (l.map (Value.int .i64))
section
variable {W1 wr w5 w6 : World} {bx : Nat} {f0 : Nat -> Value} {u u' : Value} {l qs : List Int}
theorem EdL.start(b:W1.rowIs bx 109 6 f0)(a:f0 2=.slice none 0 0):EdL W1 bx f0 W1 (.slice none 0 0) [] :=
 ⟨rfl,rfl,rfl,aA _,fun _ _ _=>rfl,b.congr (fun i _=>by by_cases e:i=2<;>simp[e,a]),dA _ _ _ _⟩
theorem EdL.push(h:EdL W1 bx f0 wr u l)(g:bx<W1.heap.size)(b:Below wr.heap.size wr w5)(a:w5.grownBy w6 u.ownBlock)(i:w6.ownsRow W1.heap.size 2 1 u' (l++qs).length ((l++qs).map (Value.int .i64))):EdL W1 bx f0 (w6.setCell ⟨bx,2,none⟩ u') u' (l++qs):=by
 have k:=h.size;have m:=b.size;have n:=a.size;have f:∀q,q<W1.heap.size->w6.heap[q]?=wr.heap[q]?:=fun q hq=>(a.block q oM (fun e=>by have:=(h.own.lt q e.symm).1;omega)).trans (b.block q oM)
 refine⟨a.os.trans (b.os.trans h.os),a.tape.trans (b.tape.trans h.tape),a.output.trans (b.output.trans h.output),by rw[Xd];omega,fun q c d=>(Below.heap_setCell _ _ _ _ d).trans ((f q c).trans (h.fr q c d)),((h.box.of_block (f bx g)).set 2 u').congr (fun j _=>by by_cases e:j=2<;>simp[e]),ownsRow_setCell_below i g _⟩
theorem EdL.cell(h:EdL W1 bx f0 wr u l){b o:Nat}{v:Value}(c:b≠bx)(a:W1.cell? ⟨b,o,none⟩=some v):wr.cell? ⟨b,o,none⟩=some v:=(Xc (h.fr b (aI W1 _ a) c)).trans a
end
structure InL(W2:World)(bx:Nat)(f0:Nat->Value)(wr:World)(ur ud:Value)(rs:List Value)(zs:List (List Int))(ds:List Int):Prop where
 os:wr.os=W2.os
 tape:wr.tape=W2.tape
 output:wr.output=W2.output
 size:W2.heap.size<=wr.heap.size
 fr:∀q,q<W2.heap.size->q≠bx->wr.heap[q]?=W2.heap[q]?
 box:wr.rowIs bx 109 6 (fun i=>if i=3 then ur else if i=4 then ud else f0 i)
 ownR:wr.ownsRow W2.heap.size 55 1 ur rs.length rs
 len:rs.length=zs.length
 rows:∀i (h:i<zs.length),∃a' c',rs[i]?=some (.slice a' zs[i].length c')/\Yv wr (fun b=>W2.heap.size<=b/\some b≠ur.ownBlock/\some b≠ud.ownBlock) a' zs[i]
 ownD:wr.ownsRow W2.heap.size 2 1 ud ds.length (ds.map (Value.int .i64))
 ne:∀g,ur.ownBlock=some g->ud.ownBlock≠some g
section
variable {W2 wr w5 w6 : World} {bx : Nat} {f0 : Nat -> Value} {ur ud ur' ud' : Value} {rs : List Value} {zs : List (List Int)} {ds : List Int}
theorem InL.start(c:W2.rowIs bx 109 6 f0)(a:f0 3=.slice none 0 0)(b:f0 4=.slice none 0 0):InL W2 bx f0 W2 (.slice none 0 0) (.slice none 0 0) [] [] [] :=
 ⟨rfl,rfl,rfl,aA _,fun _ _ _=>rfl,c.congr (fun i _=>by by_cases e:i=3<;>by_cases e2:i=4<;>simp[e,e2,a,b]),dA _ _ _ _,rfl,fun i h=>absurd h sP,dA _ _ _ _,fun g e=>by cases e⟩
theorem InL.below(h:InL W2 bx f0 wr ur ud rs zs ds)(k:Below wr.heap.size wr w5):InL W2 bx f0 w5 ur ud rs zs ds:=by
 have n:=h.size;refine⟨k.os.trans h.os,k.tape.trans h.tape,k.output.trans h.output,aJ n k.size,fun q d f=>(k.block q oM).trans (h.fr q d f),h.box.of_block (k.block _ h.box.lt),YU h.ownR (fun g e=>k.block g (h.ownR.lt g e).2),h.len,fun o j=>?_,YU h.ownD (fun g e=>k.block g (h.ownD.lt g e).2),h.ne⟩;obtain⟨a,c,e,m⟩:=h.rows o j;exact⟨a,c,e,m.keep (fun b i _=>k.block b i) k.size⟩
theorem InL.pushR{f:Option Addr}{c5:Nat}{ys:List Int}(h:InL W2 bx f0 wr ur ud rs zs ds)(s:bx<W2.heap.size){B0:Nat}(D:W2.heap.size<=B0)(n:∀g,ur.ownBlock=some g->g<B0)(y:∀g,ud.ownBlock=some g->g<B0)(A:Xf wr B0 wr.heap.size f ys)(d:wr.grownBy w6 ur.ownBlock)(B:w6.ownsRow W2.heap.size 55 1 ur' (rs.length+1) (rs++[.slice f ys.length c5]))(o:ur'.ownBlock=ur.ownBlock\/ur'.ownBlock=some wr.heap.size) :
 InL W2 bx f0 (w6.setCell ⟨bx,3,none⟩ ur') ur' ud (rs++[.slice f ys.length c5]) (zs++[ys]) ds:=by
 have E:=h.size;have F:=d.size;have p:∀q,q<W2.heap.size->some q≠ur.ownBlock:=fun q hq e=>by have:=(h.ownR.lt q e.symm).1;omega
 have r:∀b,b<wr.heap.size->some b≠ur.ownBlock->some b≠ur'.ownBlock:=fun b c a e=>by
  rcases o with k | k
  ·exact a (by rw[<-k];exact e)
  ·rw[k]at e;injection e with e;omega
 have keep:∀b,b<wr.heap.size->b≠bx->some b≠ur.ownBlock->(w6.setCell ⟨bx,3,none⟩ ur').heap[b]?=wr.heap[b]?:=fun b a j x=>(Below.heap_setCell _ _ _ _ j).trans (d.block b a x)
 refine⟨d.os.trans h.os,d.tape.trans h.tape,d.output.trans h.output,by rw[Xd];omega,fun q a j=>(keep q oM j (p q a)).trans (h.fr q a j),((h.box.of_block (d.block bx oM (p _ s))).set 3 ur').congr (fun i _=>by by_cases e:i=3<;>simp[e]),?_,by simp[h.len],fun i z=>?_,?_,fun g e=>?_⟩
 ·rw[aQ]
  exact ownsRow_setCell_below B s _
 ·by_cases e:i<zs.length
  ·obtain⟨t,v,e1,m⟩:=h.rows i e
   refine⟨t,v,?_,?_⟩
   ·rw[dL (by rw[h.len];exact e),fA e];exact e1
   ·rw[fA e]
    refine(m.mono (Q:=fun b=>W2.heap.size<=b/\some b≠ur.ownBlock/\some b≠ur'.ownBlock/\some b≠ud.ownBlock) (fun b c q=>⟨q.1,q.2.1,r b c q.2.1,q.2.2⟩)).keep (fun b c q=>keep b c oM q.2.1) (by rw[Xd];omega) |>.mono (fun b _ q=>⟨q.1,q.2.2.1,q.2.2.2⟩)
  ·have w:i=zs.length:=by simp at z;omega
   subst w;refine⟨f,c5,?_,?_⟩
   ·rw[eV (by rw[h.len];exact aA _),h.len];simp
   ·rw[fN (aA _)]
    simp only[kL,eM];have m:Yv wr (fun b=>B0<=b) f ys:=Yv.of_at A (aA _) (fun b a _=>a);have C:=m.mono (Q:=fun b=>W2.heap.size<=b/\some b≠ur'.ownBlock/\some b≠ud.ownBlock/\some b≠ur.ownBlock) (fun b c q=>⟨oM,r b c (fun e=>by have:=n b e.symm;omega),fun e=>by have:=y b e.symm;omega,fun e=>by have:=n b e.symm;omega⟩);exact(C.keep (w':=w6.setCell ⟨bx,3,none⟩ ur') (fun b c q=>keep b c oM q.2.2.2) (by rw[Xd];omega)).mono (fun b _ q=>⟨q.1,q.2.1,q.2.2.1⟩)
 ·refine YU h.ownD (fun g e=>keep g (h.ownD.lt g e).2 (oN ((h.ownD.lt g e).1)) (fun e2=>h.ne g e2.symm e))
 ·rcases o with k | k
  ·rw[k]at e;exact h.ne g e
  ·rw[k]at e
   injection e with e;intro e2;have:=(h.ownD.lt g e2).2;omega
theorem InL.pushD{x:Int}(h:InL W2 bx f0 wr ur ud rs zs ds)(n:bx<W2.heap.size)(c:wr.grownBy w6 ud.ownBlock)(w:w6.ownsRow W2.heap.size 2 1 ud' (ds.length+1) (ds.map (Value.int .i64)++[.int .i64 x]))(s:ud'.ownBlock=ud.ownBlock\/ud'.ownBlock=some wr.heap.size) :
 InL W2 bx f0 (w6.setCell ⟨bx,4,none⟩ ud') ur ud' rs zs (ds++[x]):=by
 have A:=h.size;have B:=c.size;have j:∀q,q<W2.heap.size->some q≠ud.ownBlock:=fun q hq e=>by have:=(h.ownD.lt q e.symm).1;omega
 have m:∀b,b<wr.heap.size->some b≠ud.ownBlock->some b≠ud'.ownBlock:=fun b f a e=>by
  rcases s with k | k
  ·exact a (by rw[<-k];exact e)
  ·rw[k]at e;injection e with e;omega
 have keep:∀b,b<wr.heap.size->b≠bx->some b≠ud.ownBlock->(w6.setCell ⟨bx,4,none⟩ ud').heap[b]?=wr.heap[b]?:=fun b a d r=>(Below.heap_setCell _ _ _ _ d).trans (c.block b a r)
 refine⟨c.os.trans h.os,c.tape.trans h.tape,c.output.trans h.output,by rw[Xd];omega,fun q a d=>(keep q oM d (j q a)).trans (h.fr q a d),((h.box.of_block (c.block bx oM (j _ n))).set 4 ud').congr (fun i _=>by by_cases e:i=4<;>simp[e]),YU h.ownR (fun g e=>keep g (h.ownR.lt g e).2 (oN ((h.ownR.lt g e).1)) (fun e2=>h.ne g e e2.symm)),h.len,fun i t=>?_,?_,fun g e e2=>?_⟩
 ·obtain⟨o,p,e1,y⟩:=h.rows i t
  refine⟨o,p,e1,?_⟩;have z:=y.mono (Q:=fun b=>W2.heap.size<=b/\some b≠ur.ownBlock/\some b≠ud'.ownBlock/\some b≠ud.ownBlock) (fun b f q=>⟨q.1,q.2.1,m b f q.2.2,q.2.2⟩);exact(z.keep (w':=w6.setCell ⟨bx,4,none⟩ ud') (fun b f q=>keep b f oM q.2.2.2) (by rw[Xd];omega)).mono (fun b _ q=>⟨q.1,q.2.1,q.2.2.1⟩)
 ·rw[Yl,aQ]
  exact ownsRow_setCell_below w n _
 ·have v:=(h.ownR.lt g e).2
  exact m g v (fun e3=>h.ne g e e3.symm) e2.symm
theorem InL.fin(h:InL W2 bx f0 wr ur ud rs zs ds):(∃a c,ur=.slice a zs.length c/\TA wr (fun b=>W2.heap.size<=b) a zs)/\∃a c,ud=.slice a ds.length c/\Yv wr (fun b=>W2.heap.size<=b) a ds:=by
 refine⟨?_,?_⟩
 ·rcases Vc h.ownR with⟨e1,e2,_⟩ | ⟨g,c,e1,hg,_⟩
  ·have n:zs.length=0:=by rw[<-h.len];exact e2
   exact⟨none,0,by rw[e1,n],fun i d=>absurd d oM⟩
  ·refine⟨_,c,by rw[e1,h.len],fun i d=>?_⟩
   obtain⟨e,f,e3,m⟩:=h.rows i d;refine⟨g,0,rfl,hg,e,f,?_,m.mono (fun b _ q=>q.1)⟩;have:=h.ownR.cells (g:=g) (by rw[e1];rfl) i _ e3;rw[aV];by_cases e4:i=0
   ·subst e4;simpa [Addr.add]using this
   ·simpa [Addr.add,e4]using this
 ·obtain⟨a,c,j,d⟩:=Xk h.ownD
  exact⟨a,c,j,Yv.of_at d (aA _) (fun b k _=>k)⟩
end
theorem pp(g m:Nat):(⟨g,0,none⟩:Addr).add m=⟨g,m,none⟩:=by by_cases e:m=0<;>simp[Addr.add,e]
structure LsI(w:World)(V:Nat)(a:Option Addr)(n c:Nat)(xs:List Xe)(wr:World)(u:Value)(k:Nat)(cs:List Value):Prop where
 low:Below w.heap.size w wr
 sz:w.heap.size+2<=wr.heap.size
 f0:wr.cell? ⟨w.heap.size,0,none⟩=some (.int .i64 (V:Int))
 f1:wr.cell? ⟨w.heap.size,1,none⟩=some (.slice a n c)
 own:wr.ownsRow (w.heap.size+1) 109 6 u k cs
 fa:∀i (h:i<xs.length),i<k->VO wr (fun b=>w.heap.size+2<=b/\some b≠u.ownBlock) (fun j=>cs.getD (i*6+j) (.slice none 0 0)) xs[i] (XP xs i)
theorem LsI.next{w:World}{V:Nat}{D:Option Addr}{I E:Nat}{r:List Xe}{wr g n:World}{u u':Value}{k:Nat}{i:List Value}{f:Nat->Value}(h:LsI w V D I E r wr u k i)(T:k<r.length)(m:Below wr.heap.size wr g)(O:VO g (fun b=>wr.heap.size<=b) f r[k] (XP r k))(d:g.grownBy n u.ownBlock)(Q:n.ownsRow (w.heap.size+1) 109 6 u' (k+1) (i++[f 0,f 1,f 2,f 3,f 4,f 5]))(M:u'.ownBlock=u.ownBlock\/u'.ownBlock=some g.heap.size) :
 LsI w V D I E r n u' (k+1) (i++[f 0,f 1,f 2,f 3,f 4,f 5]):=by
 have W:=h.sz;have R:=m.size;have H:=d.size;have U:=h.low.size;have B:=fun J e=>h.own.lt J e
 have N:=h.own.1;have C:∀q,q<=w.heap.size->n.heap[q]?=wr.heap[q]?:=fun q hq=>(d.block q oM (fun e=>by have:=B q e.symm;omega)).trans (m.block q oM)
 refine⟨⟨d.os.trans (m.os.trans h.low.os),d.tape.trans (m.tape.trans h.low.tape),d.output.trans (m.output.trans h.low.output),oM,fun q hq=>(C q oM).trans (h.low.block q hq)⟩,oM,(Xc (C _ (aA _))).trans h.f0,(Xc (C _ (aA _))).trans h.f1,Q,fun p P S=>?_⟩;have G:∀b,b<g.heap.size->some b≠u.ownBlock->some b≠u'.ownBlock:=fun b c o e=>by
  rcases M with q | q
  ·exact o (by rw[<-q];exact e)
  ·rw[q]at e;injection e with e;omega
 by_cases e:p=k
 ·subst e
  have t:=O.mono (Q:=fun b=>(w.heap.size+2<=b/\some b≠u'.ownBlock)/\some b≠u.ownBlock) (fun b c q=>⟨⟨oM,G b c (fun e=>by have:=B b e.symm;omega)⟩,fun e=>by have:=B b e.symm;omega⟩);have x:=(t.keep (w':=n) (fun b c q=>d.block b c q.2) H).mono (Q:=fun b=>w.heap.size+2<=b/\some b≠u'.ownBlock) (fun b _ q=>q.1);have a:∀j,j<6->(i++[f 0,f 1,f 2,f 3,f 4,f 5]).getD (p*6+j) (.slice none 0 0)=f j:=fun j F=>by
   rw[bF,eV oM,N,Nat.add_sub_cancel_left]
   match j,F with
   | 0,_=>rfl
   | 1,_=>rfl
   | 2,_=>rfl
   | 3,_=>rfl
   | 4,_=>rfl
   | 5,_=>rfl
  obtain⟨s,o,v,y,z,A⟩:=x;exact⟨by rw[a 0 vY];exact s,by rw[a 1 vY];exact o,by rw[a 2 vY];exact v,by rw[a 3 vY];exact y,by rw[a 4 vY];exact z,by rw[a 5 vY];exact A⟩
 ·have o:=h.fa p P oM
  have t:=o.keep (w':=g) (fun b c _=>m.block b c) R;have L:=t.mono (Q:=fun b=>(w.heap.size+2<=b/\some b≠u'.ownBlock)/\some b≠u.ownBlock) (fun b c q=>⟨⟨q.1,G b c q.2⟩,q.2⟩);have x:=(L.keep (w':=n) (fun b c q=>d.block b c q.2) H).mono (Q:=fun b=>w.heap.size+2<=b/\some b≠u'.ownBlock) (fun b _ q=>q.1);have a:∀j,j<6->(i++[f 0,f 1,f 2,f 3,f 4,f 5]).getD (p*6+j) (.slice none 0 0)=i.getD (p*6+j) (.slice none 0 0):=fun j F=>by
   rw[bF,bF,dL oM]
  obtain⟨s,K,v,y,z,A⟩:=x;exact⟨by rw[a 0 vY];exact s,by rw[a 1 vY];exact K,by rw[a 2 vY];exact v,by rw[a 3 vY];exact y,by rw[a 4 vY];exact z,by rw[a 5 vY];exact A⟩
theorem At{w:World}{L B:Nat}{c:Addr}{a:List Int}(h:Xf w L B (some c) a):∀(j:Nat)(u:Value),(a.map (Value.int .i64))[j]?=some u->w.cell? (c.add j)=some u:=fun j u d=>by
 have f:j<a.length:=by have:=(cV.1 d).1;simpa using this
 obtain⟨b,o,e,_,g⟩:=h j f;injection e with e;subst e;have i:Value.int .i64 a[j]=u:=by simpa [f]using d
 rw[<-i,<-g];by_cases e:j=0<;>simp[Addr.add,e]
theorem m8{V:Nat}{a:List Xe}(b:Jy V a)(p t:Int):(edgeU a p t).length<=4000000:=by
 unfold edgeU;split
 ·simp
 ·rename_i x e
  split
  ·simp
  ·have c:=jk (predsFrom a 0 t) x.ps p (predsFrom a 0 t).length
   have f:=YO t a 0;have g:=b.okf.n2;have d:=(b.lens x (eN e)).2;exact aJ c (aJ (lO (show(predsFrom a 0 t).length<=1000 by omega) d) vY)
theorem V8{V:Nat}{b:List Xe}(a:Jy V b)(p:Int):∀l:List Int,(l.flatMap (edgeU b p)).length<=l.length*4000000
 | []=>sP
 | t::l=>by
  have c:=V8 a p l;have d:=m8 a p t;rw[jF,aQ,bA];omega
theorem vA{a:List Xe}{p:Int}{l:List Int}{j:Nat}(h:j<l.length):(l.take (j+1)).flatMap (edgeU a p)=(l.take j).flatMap (edgeU a p)++edgeU a p l[j]:=by
 rw[bN h,eZ];simp
structure FcA(wr Y:World)(bx:Nat)(X:Xe)(f0:Nat->Value):Prop where
 low:Below wr.heap.size wr Y
 b1:wr.heap.size<=bx
 box:Y.rowIs bx 109 6 f0
 n2:f0 2=.slice none 0 0
 n3:f0 3=.slice none 0 0
 n4:f0 4=.slice none 0 0
 e0:∃a c,f0 0=.slice a X.te.tg.length c/\Yv Y (fun b=>wr.heap.size<=b/\b≠bx) a X.te.tg
 e1:∃a c,f0 1=.slice a X.ps.length c/\Yv Y (fun b=>wr.heap.size<=b/\b≠bx) a (X.ps.map Ph.dst)
 e5:∃a c,f0 5=.slice a (rdT X.te).length c/\Yv Y (fun b=>wr.heap.size<=b/\b≠bx) a (rdT X.te)
def rF(c a b:Value)(i:Nat):Value:=if i=0 then c else if i=1 then a else if i=5 then b else .slice none 0 0
theorem ft{wr Z:World}{bx:Nat}{X:Xe}{d a c:Option Addr}{cT cP cR o j m g n i:Nat}(x:Below wr.heap.size wr Z)(e:wr.heap.size<=bx)(w:Z.rowIs bx 109 6 (fun _=>.slice none 0 0))(D:Xf Z o j d X.te.tg)(B:Xf Z m g a (X.ps.map Ph.dst))(C:Xf Z n i c (rdT X.te))
 (v:wr.heap.size<=o/\j<=Z.heap.size/\¬(o<=bx/\bx<j)) (kP:wr.heap.size<=m/\g<=Z.heap.size/\¬(m<=bx/\bx<g)) (t:wr.heap.size<=n/\i<=Z.heap.size/\¬(n<=bx/\bx<i)) :
 FcA wr ((((((Z.setCell ⟨bx,0,none⟩ (.slice d X.te.tg.length cT)).setCell ⟨bx,1,none⟩ (.slice a X.ps.length cP)).setCell ⟨bx,2,none⟩ (.slice none 0 0)).setCell ⟨bx,3,none⟩ (.slice none 0 0)).setCell ⟨bx,4,none⟩ (.slice none 0 0)).setCell ⟨bx,5,none⟩ (.slice c (rdT X.te).length cR)) bx X (rF (.slice d X.te.tg.length cT) (.slice a X.ps.length cP) (.slice c (rdT X.te).length cR)):=by
 have f:∀q,q≠bx->((((((Z.setCell ⟨bx,0,none⟩ (.slice d X.te.tg.length cT)).setCell ⟨bx,1,none⟩ (.slice a X.ps.length cP)).setCell ⟨bx,2,none⟩ (.slice none 0 0)).setCell ⟨bx,3,none⟩ (.slice none 0 0)).setCell ⟨bx,4,none⟩ (.slice none 0 0)).setCell ⟨bx,5,none⟩ (.slice c (rdT X.te).length cR)).heap[q]?=Z.heap[q]?:=fun q h=>(Below.heap_setCell _ _ _ _ h).trans ((Below.heap_setCell _ _ _ _ h).trans ((Below.heap_setCell _ _ _ _ h).trans ((Below.heap_setCell _ _ _ _ h).trans ((Below.heap_setCell _ _ _ _ h).trans (Below.heap_setCell _ _ _ _ h)))))
 have k:((((((Z.setCell ⟨bx,0,none⟩ (.slice d X.te.tg.length cT)).setCell ⟨bx,1,none⟩ (.slice a X.ps.length cP)).setCell ⟨bx,2,none⟩ (.slice none 0 0)).setCell ⟨bx,3,none⟩ (.slice none 0 0)).setCell ⟨bx,4,none⟩ (.slice none 0 0)).setCell ⟨bx,5,none⟩ (.slice c (rdT X.te).length cR)).heap.size=Z.heap.size:=by simp only[Xd]
 have y:=((((((w.set 0 (.slice d X.te.tg.length cT)).set 1 (.slice a X.ps.length cP)).set 2 (.slice none 0 0)).set 3 (.slice none 0 0)).set 4 (.slice none 0 0)).set 5 (.slice c (rdT X.te).length cR));refine⟨((((((x.setCell e _).setCell e _).setCell e _).setCell e _).setCell e _).setCell e _),e,y.congr (fun A z=>?_),rfl,rfl,rfl,⟨d,cT,rfl,?_⟩,⟨a,cP,rfl,?_⟩,⟨c,cR,rfl,?_⟩⟩
 ·unfold rF
  match A,z with
  | 0,_=>rfl
  | 1,_=>rfl
  | 2,_=>rfl
  | 3,_=>rfl
  | 4,_=>rfl
  | 5,_=>rfl
 ·exact(Yv.of_at D v.2.1 (P:=fun b=>wr.heap.size<=b/\b≠bx) (fun b r s=>⟨oM,fun p=>v.2.2 oM⟩)).keep (fun b _ q=>f b q.2) (by rw[k];exact aA _)
 ·exact(Yv.of_at B kP.2.1 (P:=fun b=>wr.heap.size<=b/\b≠bx) (fun b r s=>⟨oM,fun p=>kP.2.2 oM⟩)).keep (fun b _ q=>f b q.2) (by rw[k];exact aA _)
 ·exact(Yv.of_at C t.2.1 (P:=fun b=>wr.heap.size<=b/\b≠bx) (fun b r s=>⟨oM,fun p=>t.2.2 oM⟩)).keep (fun b _ q=>f b q.2) (by rw[k];exact aA _)
def rC(a b c d e f:Value):Nat->Value
 | 0=>a
 | 1=>b
 | 2=>c
 | 3=>d
 | 4=>e
 | _=>f
def YQ(w:World)(d:Option Addr)(a:List Xe):Prop:=∀i (h:i<a.length),∃b o c,d=some ⟨b,o,none⟩/\b<w.heap.size/\(∀j,j<6->w.cell? ⟨b,o+i*6+j,none⟩=some (c j))/\VO w (fun _=>True) c a[i] (XP a i)
theorem YQ.keep{w w':World}{a:Option Addr}{d:List Xe}(h:YQ w a d)(k:Below w.heap.size w w'):YQ w' a d:=fun m i=>by
 obtain⟨b,o,p,e,c,f,g⟩:=h m i;exact⟨b,o,p,e,aX c k.size,fun n j=>(Xc (k.block b c)).trans (f n j),g.keep (fun q hq _=>k.block q hq) k.size⟩
def WJ(w:World)(c:Nat)(e:Option Addr)(a:List Xe):Prop:=∀i (h:i<a.length),∃b o d,e=some ⟨b,o,none⟩/\(c<=b/\b<w.heap.size)/\(∀j,j<6->w.cell? ⟨b,o+i*6+j,none⟩=some (d j))/\VO w (fun q=>c<=q) d a[i] (XP a i)
theorem WJ.at_{w:World}{d:Nat}{a:Option Addr}{c:List Xe}(h:WJ w d a c):YQ w a c:=fun k j=>by
 obtain⟨b,o,m,e,f,g,i⟩:=h k j;exact⟨b,o,m,e,f.2,g,i.mono (fun _ _ _=>trivial)⟩
theorem LsI.fin{w:World}{V:Nat}{k:Option Addr}{n m:Nat}{c:List Xe}{wr:World}{u:Value}{a:List Value}(h:LsI w V k n m c wr u c.length a):∃e d,u=.slice e c.length d/\WJ wr w.heap.size e c:=by
 rcases Vc h.own with⟨e1,e2,_⟩ | ⟨g,d,e1,hg,_⟩
 ·exact⟨none,0,by rw[e1,e2],fun i b=>absurd b oM⟩
 ·have o:=h.own.1
  refine⟨_,d,e1,fun i b=>⟨g,0,fun j=>a.getD (i*6+j) (.slice none 0 0),rfl,⟨oN hg.1,hg.2⟩,fun j p=>?_,(h.fa i b b).mono (fun q _ hq=>by have:=hq.1;omega)⟩⟩;have f:i*6+j<a.length:=oM;have:=h.own.cells (g:=g) (by rw[e1];rfl) (i*6+j) (a[i*6+j]) (aC f);show wr.cell? ⟨g,0+i*6+j,none⟩=some (a.getD (i*6+j) (.slice none 0 0));rw[aV,bF,aC f];rw[pp]at this;exact this
end
theorem nz(g:Option Addr)(n q:Nat)(x:Int)(a:List Int)(L B:Nat)(w:World)(ha:Hid (Xf w L B g a))(p:Hid (n=a.length))(v:n<=100000000) :
 Calls prog 48 #[.slice g n q,.int .i64 x] w fun e s=>e=.returned (.bool (hasI a x))/\s=w:=by
 go_in
 go_wp2
 go_loop [5] (fun i=>∃k:Nat,k<=n/\i=.int .i64 k/\Hid (∀j (h:j<a.length),j<k->a[j]≠x)) (fun i=>n-(intOf i).toNat)
 case atStart=>exact⟨0,aN _,rfl,fun j d h=>absurd h oM⟩
 case round =>
  obtain⟨k,t,rfl,o⟩:=hrel;by_cases u:k<n
  ·have m:k<a.length:=oN p.out
   obtain⟨b,y,rfl,_,l⟩:=ha k m;by_cases c:a[k]=x
   ·have r:(a[k]==x)=true:=by simp[c]
    have f:=Xa c;clear c;go_wp2
    go_ret
    exact⟨Xl (by unfold hasI;rw[nJ,eY,<-f.out];exact aH m),rfl⟩
   ·have r:(a[k]==x)=false:=by simp[c]
    have f:=Xa c;clear c;go_wp2
    go_round
    case rel=>exact⟨k+1,oM,gM,fun j d h=>if e:j=k then by subst e;exact f else o j d oM⟩
    case measure=>simp[intOf];omega
  ·go_wp2
   go_ret
   exact⟨Xl (by
    rw[nJ,lY];intro l;obtain⟨j,d,e⟩:=bR (eY.1 (show a.contains x=true from l));exact o j d (oN p.out) e),rfl⟩
theorem oI(x:Xe)(E:List Int)(q:Nat->Value)(v:Int)(w:World)(h:Hid (VO w (fun _=>True) q x E))(bc:Hid (x.is.length<=4000))(hE:Hid (E.length<=8000000))(F G u2 u3 u4 u5:Value)(V:q 2=u2)(X:q 3=u3)(Y:q 4=u4)(Z:q 5=u5) :
 Calls prog 51 #[.agg #[F,G,u2,u3,u4,u5],.int .i64 v] w fun z w'=>z=.returned (.int .i64 (bareM x E v:Nat))/\Below w.heap.size w w':=by
 obtain⟨j,c2,e2,i2⟩:=h.e2;obtain⟨t,c3,e3,i3⟩:=h.e3;obtain⟨u,c4,e4,i4⟩:=h.e4;obtain⟨l,c5,e5,i5⟩:=h.e5;rw[e2]at V;rw[e3]at X;rw[e4]at Y;rw[e5]at Z;subst V X Y Z;have H2:=Xa i2;have H3:=Xa i3;have H4:=Xa i4;have H5:=Xa i5;have s:Hid ((Jv x).length=x.is.length):=Xa (by unfold Jv;simp);have ax:Hid ((Z2 x).length=x.is.length):=Xa (by unfold Z2;simp);obtain⟨a,o⟩:∃m,m=(Jv x).length:=⟨_,rfl⟩;obtain⟨n4,B⟩:∃m,m=(Z2 x).length:=⟨_,rfl⟩;obtain⟨g,C⟩:∃m,m=(rdT x.te).length:=⟨_,rfl⟩;obtain⟨f,A⟩:∃m,m=E.length:=⟨_,rfl⟩;rw[<-o,<-B,<-C,<-A];have a1:a=n4:=by rw[o,B,s.out,ax.out]
 subst a1;have bd:a<=4000:=by rw[o,s.out];exact bc
 have bi:g<=1:=by rw[C];unfold rdT;split<;>simp
 have bf:f<=8000000:=by rw[A];exact hE
 have J:=Xa o;have az:=Xa B;have a0:=Xa C;have ay:=Xa A;clear o B C A e2 e3 e4 e5 i2 i3 i4 i5;have ad:Hid (bareM x E v=Ya v (hasI (rdT x.te) v||hasI E v) x.is):=Xa rfl;generalize bareM x E v=b at *;have n:Below w.heap.size w (w.alloc (.cells #[F,G,.slice j f c2,.slice t a c3,.slice u a c4,.slice l g c5] 109)):=Xb (Below.refl _ _) _;have hc:∀P Q,#[F,G,Value.slice j f c2,.slice t a c3,.slice u a c4,.slice l g c5][P]?=some Q->(w.alloc (.cells #[F,G,.slice j f c2,.slice t a c3,.slice u a c4,.slice l g c5] 109)).cell? ⟨w.heap.size,P,none⟩=some Q:=fun P Q h=>by
  rw[eC];exact h
 go_in
 go_wp2_with fail
 have c:=Xa n;have i:=Xa hc;generalize w.alloc _=W at *;have k2:Cl W w.heap.size 2 (.slice j f c2):=i 2 _ rfl;have k3:Cl W w.heap.size 3 (.slice t a c3):=i 3 _ rfl;have k4:Cl W w.heap.size 4 (.slice u a c4):=i 4 _ rfl;have k5:Cl W w.heap.size 5 (.slice l g c5):=i 5 _ rfl;have bn:=n.size;have ab:=Xa (H2.at_.keep n);have ac:=Xa (H5.at_.keep n);have aj:=Xa (nz j f c2 v E 0 w.heap.size W ab ay oM);have ap:=Xa (YF l g c5 v (rdT x.te) 0 w.heap.size W ac a0 oM);clear n hc i
 go_loop [5] (fun O=>∃k:Nat,k<=a/\O=.int .i64 k/\Hid (b=Ya v (hasI (rdT x.te) v||hasI E v) (x.is.drop k))) (fun O=>a-(intOf O).toNat)
 case atStart=>exact⟨0,aN _,rfl,Xa (by rw[ad.out];rfl)⟩
 case round =>
  obtain⟨k,hk,rfl,I⟩:=hrel;by_cases N:k<a
  ·have bb:k<x.is.length:=by rw[<-s.out,<-J.out];exact N
   have a9:k<(Jv x).length:=by rw[<-J.out];exact N
   have ba:k<(Z2 x).length:=by rw[<-az.out];exact N
   obtain⟨b3,o3,rfl,⟨_,a6⟩,ar,cr,L,M⟩:=H3 k a9;obtain⟨b4,o4,rfl,⟨_,a7⟩,K⟩:=H4 k ba;have U:(Jv x)[k]=rdI x.is[k]:=by simp[Jv]
   have T:(Z2 x)[k]=defI x.is[k]:=by simp[Z2]
   rw[U]at L M;rw[T]at K;have l3:=oB c L a6;have l4:=oB c K a7;have S:Hid (Ya v (hasI (rdT x.te) v||hasI E v) (x.is.drop k)=if hasI (rdI x.is[k]) v then 1 else if defI x.is[k]=v then 2 else Ya v (hasI (rdT x.te) v||hasI E v) (x.is.drop (k+1))):=Xa (by rw[gZ bb];rfl);have aq:=Xa (M.at_.keep c);obtain⟨nr,D⟩:∃m,m=(rdI x.is[k]).length:=⟨_,rfl⟩;rw[<-D]at l3;have bl:nr<=2:=by rw[D];exact ew _
   have al:=Xa (YF ar nr cr v (rdI x.is[k]) 0 w.heap.size W aq (Xa D) oM);clear L K M U T D;generalize rdI x.is[k]=ri at *;generalize defI x.is[k]=y at *
   go_wp2_with fail
   refine al.mono ?_;rintro z w3 ⟨rfl,p⟩;rw[p];clear p;cases hh:hasI ri v with
   | true =>
    have d:Hid (b=1):=Xa (by rw[I.out,S.out,hh];rfl);clear hh
    go_wp2
    go_ret
    exact⟨by rw[d.out];rfl,c⟩
   | false =>
    have R:Hid (b=if y=v then 2 else Ya v (hasI (rdT x.te) v||hasI E v) (x.is.drop (k+1))):=Xa (by rw[I.out,S.out,hh];rfl);clear hh;by_cases e:y=v
    ·have d:Hid (b=2):=Xa (by rw[R.out,aU e])
     have a8:(y==v)=true:=by simp[e]
     clear e
     go_wp2
     go_ret
     exact⟨by rw[d.out];rfl,c⟩
    ·have af:Hid (b=Ya v (hasI (rdT x.te) v||hasI E v) (x.is.drop (k+1))):=Xa (by rw[R.out,aM e])
     have a8:(y==v)=false:=by simp[e]
     clear e
     go_wp2_with fail
     go_round
     case rel=>exact⟨k+1,oM,gM,af⟩
     case measure=>simp[intOf];omega
  ·have d:Hid (b=if (hasI (rdT x.te) v||hasI E v)then 1 else 0):=Xa (by rw[I.out,mP (by rw[<-s.out,<-J.out];omega)];rfl)
   go_wp2_with fail
   refine ap.mono ?_;rintro z w3 ⟨rfl,p⟩;rw[p];clear p;cases ht:hasI (rdT x.te) v with
   | true =>
    have r:Hid (b=1):=Xa (by rw[d.out,ht];rfl);clear ht
    go_wp2
    go_ret
    exact⟨by rw[r.out];rfl,c⟩
   | false =>
    have r:Hid (b=if hasI E v then 1 else 0):=Xa (by rw[d.out,ht];rfl);clear ht
    go_wp2_with fail
    refine aj.mono ?_;rintro z w4 ⟨rfl,aa⟩;rw[aa];clear aa;cases ht:hasI E v with
    | true =>
     have H:Hid (b=1):=Xa (by rw[r.out,ht];rfl);clear ht
     go_wp2
     go_ret
     exact⟨by rw[H.out];rfl,c⟩
    | false =>
     have H:Hid (b=0):=Xa (by rw[r.out,ht];rfl);clear ht
     go_wp2
     go_ret
     exact⟨by rw[H.out];rfl,c⟩
end Go.Proofs.YtghnlncgiihhgaaGreatDoor
