import Derived.Test.YtcfdhbigppockaaGreatDoorCards
import Derived.Test.YtcfdhbigppockaaGreatDoorTie
import Derived.Test.YtcfdhbigppockaaGreatDoorRA3
import Derived.OpenVars
import Derived.LaidMore
import Derived.LaidHandle
import Derived.Lay
import Derived.Deep.DeepHandedRow
import Derived.Lib.LaidTab
namespace Go.Proofs.YtcfdhbigppockaaGreatDoor
set_option maxRecDepth 100000
open Go.RowKit
section
open Go.ChangeShapes Go.WideShapes Go.ChangeAt Go.Joins
theorem own:ownKnob Tryz.prog.godebug=none:=vZ
theorem gTz: Tryz.prog.globalNamed "math/bits.deBruijn64tab" = some 3 := by kernel_rfl
theorem P9:(Tryz.prog.globals[3]?).map (·.type)=some 322:=vZ
theorem gOps: Tryz.prog.globalNamed "loop.example/s0031/impl.opForms" = some 1 := by kernel_rfl
theorem gTers: Tryz.prog.globalNamed "loop.example/s0031/impl.termForms" = some 2 := by kernel_rfl
theorem Gu:(Tryz.prog.globals[1]?).map (·.type)=some 228:=vZ
theorem F9:(Tryz.prog.globals[2]?).map (·.type)=some 231:=vZ
theorem DM:Tryz.prog.cellsOf 227=5:=vZ
theorem CG:Tryz.prog.cellsOf 230=4:=vZ
theorem BH:Tryz.prog.cellsOf 4=1:=vZ
theorem Cu:Tryz.prog.cellsOf 9=1:=vZ
theorem rn{a:Wo}{k:Nat}{v:Uj}(h:(a.drop k).take 1=[v]):a[k]?=some v:=by
 have b:((a.drop k).take 1)[0]?=some v:=by rw[h];rfl
 rw[fH oM,jA]at b;simpa using b
theorem Cy{a:Wo}{k m j:Nat}{v:Uj}(h:((a.drop k).take m)[j]?=some v)(b:j<m):a[k+j]?=some v:=by
 rw[fH b,jA]at h;exact h
variable {H: Type} {enc: TypeId×Uj -> H} {w: Ub} {base: Nat} {spare: Nat -> Bool} {held: Bool}
theorem Ta{n k:Nat}{a:Wo}{y:DataW H×List MemPlace}{b:Bool}(h:DataW.trod enc Tryz.prog w base spare held n 4 ((a.drop k).take (Tryz.prog.cellsOf 4))=some y)(e:y.1=.lit (.bool b)):a[k]?=some (.bool b):=by
 rw[BH]at h;obtain⟨z,c,d⟩:=DataW.trod_bool Tryz.underlying4 h;rw[d]at e;cases e;exact rn c
theorem vQ{n k:Nat}{a:Wo}{y:DataW H×List MemPlace}{s:Wn}(h:DataW.trod enc Tryz.prog w base spare held n 9 ((a.drop k).take (Tryz.prog.cellsOf 9))=some y)(e:y.1=.lit (.string s)):a[k]?=some (.string (K8 s)):=by
 rw[Cu]at h;obtain⟨z,b,c,_⟩:=DataW.trod_string Tryz.underlying9 h;rw[c]at e;have e1:z.data.toList=s:=by simpa using e
 have e2:K8 s=z:=by rw[<-e1];cases z;rfl
 rw[e2];exact rn b
theorem Td{P:Yh}{b:Array Field}{a:List (DataW H×List MemPlace)}{n:Nat}{c:Wo}(o:∀(i:Nat)(f:Field),b[i]?=some f->DataW.trod enc P w base spare held n f.type ((c.drop f.offset).take (P.cellsOf f.type))=a[i]?)(p:a.length=b.size)(i:Nat){f:Field}(k:b[i]?=some f){e:List (DataW H)}(l:a.map (·.1)=e){d:DataW H}(m:e[i]?=some d):
 ∃y,DataW.trod enc P w base spare held n f.type ((c.drop f.offset).take (P.cellsOf f.type))=some y/\y.1=d:=by
 have g:=o i f k;have h:i<a.length:=by rw[p];exact(aS.1 k).1
 rw[aC h]at g;refine⟨_,g,?_⟩;have j:(a.map (·.1))[i]?=some d:=by rw[l];exact m
 rw[dX,aC h]at j;simpa using j
theorem dt{a:Wo}{k m j:Nat}{v:Uj}(h:((a.drop k).take m)[j]?=some v)(b:j<m):a[k+j]?=some v:=Cy h b
theorem FJ{z:Nat}{b:Wo}{rows:List (DataW H)}{A:List MemPlace}(t:DataW.trod enc Tryz.prog w base spare held z 228 b=some (.agg rows,A)){i:Nat}(v:i<14){s:Wn}{g e f m:Bool}(x:rows[i]?=some (.agg [.lit (.string s),.lit (.bool g),.lit (.bool e),.lit (.bool f),.lit (.bool m)])):
 b[i*5]?=some (.string (K8 s))/\b[i*5+1]?=some (.bool g)/\b[i*5+2]?=some (.bool e)/\b[i*5+3]?=some (.bool f)/\b[i*5+4]?=some (.bool m):=by
 obtain⟨k,C,_,j,_,B,u⟩:=mE Tryz.underlying228 t;have h:=u i v;rw[aC oM,DM]at h;simp only[jC,kC]at j;have a:(k[i]' oM).1=.agg [.lit (.string s),.lit (.bool g),.lit (.bool e),.lit (.bool f),.lit (.bool m)]:=by
  have:(k.map (·.1))[i]?=some (.agg [.lit (.string s),.lit (.bool g),.lit (.bool e),.lit (.bool f),.lit (.bool m)]):=by rw[<-j.1];exact x
  rw[dX,aC oM]at this;simpa using this
 obtain⟨K,D,_,y,_,d,c⟩:=DataW.trod_struct Tryz.underlying227 h;rw[y]at a;simp only[kC]at a;obtain⟨E,n,l⟩:=Td c d 0 rfl a rfl;obtain⟨F,o,e1⟩:=Td c d 1 rfl a rfl;obtain⟨G,p,e2⟩:=Td c d 2 rfl a rfl;obtain⟨I,q,e3⟩:=Td c d 3 rfl a rfl;obtain⟨J,r,e4⟩:=Td c d 4 rfl a rfl;exact⟨dt (j:=0) (vQ (k:=0) n l) vY,dt (Ta (k:=1) o e1) vY,dt (Ta (k:=2) p e2) vY,dt (Ta (k:=3) q e3) vY,dt (Ta (k:=4) r e4) vY⟩
theorem Ey{x:Nat}{b:Wo}{rows:List (DataW H)}{y:List MemPlace}(p:DataW.trod enc Tryz.prog w base spare held x 231 b=some (.agg rows,y)){i:Nat}(r:i<4){s:Wn}{c t o:Bool}(u:rows[i]?=some (.agg [.lit (.string s),.lit (.bool c),.lit (.bool t),.lit (.bool o)])):
 b[i*4]?=some (.string (K8 s))/\b[i*4+1]?=some (.bool c)/\b[i*4+2]?=some (.bool t)/\b[i*4+3]?=some (.bool o):=by
 obtain⟨h,A,_,g,_,z,q⟩:=mE Tryz.underlying231 p;have f:=q i r;rw[aC oM,CG]at f;simp only[jC,kC]at g;have a:(h[i]' oM).1=.agg [.lit (.string s),.lit (.bool c),.lit (.bool t),.lit (.bool o)]:=by
  have:(h.map (·.1))[i]?=some (.agg [.lit (.string s),.lit (.bool c),.lit (.bool t),.lit (.bool o)]):=by rw[<-g.1];exact u
  rw[dX,aC oM]at this;simpa using this
 obtain⟨G,B,_,v,_,e,d⟩:=DataW.trod_struct Tryz.underlying230 f;rw[v]at a;simp only[kC]at a;obtain⟨C,k,j⟩:=Td d e 0 rfl a rfl;obtain⟨D,l,e1⟩:=Td d e 1 rfl a rfl;obtain⟨E,m,e2⟩:=Td d e 2 rfl a rfl;obtain⟨F,n,e3⟩:=Td d e 3 rfl a rfl;exact⟨dt (j:=0) (vQ (k:=0) k j) vY,dt (Ta (k:=1) l e1) vY,dt (Ta (k:=2) m e2) vY,dt (Ta (k:=3) n e3) vY⟩
theorem gErr: Tryz.prog.globalNamed "errors.errorType" = some 0 := by kernel_rfl
theorem rtRow: (Tryz.prog.cutTypes.find? (·.1 == "internal/reflectlite.rtype")).map (·.2) = some 235 := by kernel_rfl
theorem MY:((List.range<|511 - 100).filter λt=>Tryz.prog.rowNamed t [101,114,114,111,114])=[88]:=vZ
theorem LD:Tryz.prog.types.size=511 - 100:=vZ
theorem errT{W : Ub}(h : handlesMet Tryz.prog [("errors.errorType", Rows.laid_errors_errorType)] W): ErrT W := by
 obtain⟨name,u,ty,e1,e2,e3,e4,e5⟩:=h _<|cS.2 rfl;have en:name=[101,114,114,111,114]:=(gQ e1).symm;subst en;obtain rfl:=gQ<|rtRow.symm.trans e2;have hm:ty∈(List.range<|511 - 100).filter λt=>Tryz.prog.rowNamed t [101,114,114,111,114]:=fG.2 ⟨bE.2 (by rw[<-LD];exact e3),e4⟩;rw[MY]at hm;obtain rfl:=cS.1 hm;have hh:typeHandle Tryz.prog 88=.pointer (some ⟨7,88,none⟩):=vZ;rw[hh]at e5;have q:=mS gErr e5 0;unfold ErrT;rw[q];rfl
theorem t8:Tryz.prog.cellsOf 5=1:=vZ
theorem Ge{n k:Nat}{a:Wo}{y:DataW H×List MemPlace}{b:Int}(h:DataW.trod enc Tryz.prog w base spare held n 5 ((a.drop k).take (Tryz.prog.cellsOf 5))=some y)(e:y.1=.lit (.int .u8 b)):a[k]?=some (.int .u8 b):=by
 rw[t8]at h;obtain⟨z,c,d,_⟩:=DataW.trod_int Tryz.underlying5 h;rw[d]at e;cases e;exact rn c
theorem Fh{n:Nat}{a:Wo}{rows:List (DataW H)}{p:List MemPlace}(h:DataW.trod enc Tryz.prog w base spare held n 322 a=some (.agg rows,p)){i:Nat}(j:i<64){k:Int}(l:rows[i]?=some (.lit (.int .u8 k))):a[i]?=some (.int .u8 k):=by
 obtain⟨e,o,_,d,_,m,g⟩:=mE Tryz.underlying322 h;have b:=g i j;rw[aC oM]at b;simp only[jC,kC]at d;have f:(e[i]' oM).1=.lit (.int .u8 k):=by
  have:(e.map (·.1))[i]?=some (.lit (.int .u8 k)):=by rw[<-d.1];exact l
  rw[dX,aC oM]at this;simpa using this
 have c:=Ge b f;rw[t8,iN]at c;exact c
def wu:List (DataW Unit):=match Rows.laid_math_bits_deBruijn64tab (H:=Unit)with
 |.agg l=>l
 |_=>[]
theorem Fr:wu=Lib.deBruijn64tab.map λk:Nat=>(.lit (.int .u8 (k:Int)):DataW Unit):=rfl
theorem FB:Lib.deBruijn64tab.length=64:=vY
theorem E3:∀j,j<64->wu[j]?=some (.lit (.int .u8 (Lib.deBruijn64tab.getD j 0:Nat))):=λj a=>by
 have h:j<Lib.deBruijn64tab.length:=by rw[FB];exact a
 rw[Fr,dX,aC h,bF,aC h];rfl
theorem FA{W:Ub}(h:laidMetH Tryz.prog Rows.fnExactAllocRow.laid W):Yy W/\Yb W/\ErrT W/\Jn W:=by
 have h' : laidMet Tryz.prog [("math/bits.deBruijn64tab", Rows.laid_math_bits_deBruijn64tab), ("unicode/utf8.acceptRanges", Rows.laid_unicode_utf8_acceptRanges), ("loop.example/s0031/impl.opForms", Rows.laid_loop_example_s0031_impl_opForms), ("loop.example/s0031/impl.termForms", Rows.laid_loop_example_s0031_impl_termForms), ("unicode/utf8.first", Rows.laid_unicode_utf8_first)] W ∧ handlesMet Tryz.prog [("errors.errorType", Rows.laid_errors_errorType)] W := h
 obtain⟨ps,⟨g2,t2,cs2,f2,p2,q2,hg2,ht2,hv2,hd2,⟨_,_,_,_,_,_,_,_,_,_,⟨g0,t0,cs0,f0,p0,q0,hg0,ht0,hv0,hd0,⟨g1,t1,cs1,f1,p1,q1,hg1,ht1,hv1,hd1,_,_⟩,_⟩,_⟩,_⟩,_,_⟩:=h'.1;obtain rfl:=gQ<|gTz.symm.trans hg2;obtain rfl:=gQ<|P9.symm.trans ht2;have c2:∀j v,cs2.toList[j]?=some v->W.cell? ⟨3,j,none⟩=some v:=λj v hv=>by
  have:=mS hg2 hv2 j;rw[this];simpa using hv
 obtain rfl:=gQ<|gOps.symm.trans hg0;obtain rfl:=gQ<|gTers.symm.trans hg1;obtain rfl:=gQ<|Gu.symm.trans ht0;obtain rfl:=gQ<|F9.symm.trans ht1;have c0:∀j v,cs0.toList[j]?=some v->W.cell? ⟨1,j,none⟩=some v:=λj v hv=>by
  have:=mS hg0 hv0 j;rw[this];simpa using hv
 have c1:∀j v,cs1.toList[j]?=some v->W.cell? ⟨2,j,none⟩=some v:=λj v hv=>by
  have:=mS hg1 hv1 j;rw[this];simpa using hv
 refine⟨?_,?_,errT h'.2,λj hj=>c2 _ _<|Fh hd2 hj (E3 j hj)⟩
 .have row:∀i s d a b m,i<14->((match Rows.laid_loop_example_s0031_impl_opForms (H:=Unit)with|.agg l=>l|_=>[]):List (DataW Unit))[i]?=some (.agg [.lit (.string s),.lit (.bool d),.lit (.bool a),.lit (.bool b),.lit (.bool m)]) ->
   W.cell? ⟨1,i*5,none⟩=some (.string (K8 s))/\W.cell? ⟨1,i*5+1,none⟩=some (.bool d)/\W.cell? ⟨1,i*5+2,none⟩=some (.bool a)/\W.cell? ⟨1,i*5+3,none⟩=some (.bool b)/\W.cell? ⟨1,i*5+4,none⟩=some (.bool m):=λi s d a b m hi hr=>by
   obtain⟨e0,e1,e2,e3,e4⟩:=FJ hd0 hi hr;exact⟨c0 _ _ e0,c0 _ _ e1,c0 _ _ e2,c0 _ _ e3,c0 _ _ e4⟩
  have r1:=row 1 _ _ _ _ _ vY rfl;refine⟨Jh r1.1,λk h1 h2=>?_⟩;have hk:k=1\/k=2\/k=3\/k=4\/k=5\/k=6\/k=7\/k=8\/k=9\/k=10\/k=11\/k=12\/k=13:=oM;obtain rfl|rfl|rfl|rfl|rfl|rfl|rfl|rfl|rfl|rfl|rfl|rfl|rfl:=hk;·exact r1
  .exact row 2 _ _ _ _ _ vY rfl
  .exact row 3 _ _ _ _ _ vY rfl
  .exact row 4 _ _ _ _ _ vY rfl
  .exact row 5 _ _ _ _ _ vY rfl
  .exact row 6 _ _ _ _ _ vY rfl
  .exact row 7 _ _ _ _ _ vY rfl
  .exact row 8 _ _ _ _ _ vY rfl
  .exact row 9 _ _ _ _ _ vY rfl
  .exact row 10 _ _ _ _ _ vY rfl
  .exact row 11 _ _ _ _ _ vY rfl
  .exact row 12 _ _ _ _ _ vY rfl
  exact row 13 _ _ _ _ _ vY rfl
 have row:∀i s a t o,i<4->((match Rows.laid_loop_example_s0031_impl_termForms (H:=Unit)with|.agg l=>l|_=>[]):List (DataW Unit))[i]?=some (.agg [.lit (.string s),.lit (.bool a),.lit (.bool t),.lit (.bool o)]) ->
  W.cell? ⟨2,i*4,none⟩=some (.string (K8 s))/\W.cell? ⟨2,i*4+1,none⟩=some (.bool a)/\W.cell? ⟨2,i*4+2,none⟩=some (.bool t)/\W.cell? ⟨2,i*4+3,none⟩=some (.bool o):=λi s a t o hi hr=>by
  obtain⟨e0,e1,e2,e3⟩:=Ey hd1 hi hr;exact⟨c1 _ _ e0,c1 _ _ e1,c1 _ _ e2,c1 _ _ e3⟩
 have r1:=row 1 _ _ _ _ vY rfl;refine⟨Jh r1.1,λk h1 h2=>?_⟩;have hk:k=1\/k=2\/k=3:=oM;obtain rfl|rfl|rfl:=hk;·exact r1
 .exact row 2 _ _ _ _ vY rfl
 exact row 3 _ _ _ _ vY rfl
theorem LK{P:Yh}{W:Ub}{r:Reach}{base:Nat}{t:TypeId}{v:Uj}(b:P.underlying t=some (.int .i64))(a:Cell.ok P W r base t v):∃n,v=.int .i64 n:=by
 unfold Cell.ok at a;rw[b]at a;cases v with
 |int k n=>
  obtain⟨rfl,_⟩:=a;exact⟨n,rfl⟩
 |_=>exact a.elim
theorem Nc{W:Ub}(h:W.ShapedOpen Tryz.prog):ft W:=by
 obtain⟨a,i,l,f⟩:=h.1 4 #[.int .i64 0] 3 (by decide +kernel) vZ;obtain⟨p,m,_,g⟩:=f vZ;have e:p=[3]:=gQ<|m.symm.trans vZ;subst e;have b:0<a.size:=by rw[l];decide
 obtain⟨u,n,k⟩:=g 0 a[0] (by simp[b]);have d:3=u:=by simpa using n
 subst d;obtain⟨o,j⟩:=LK (P:=Tryz.prog) (t:=3) Tryz.underlying3 k;have c:W.cell? ⟨4,0,none⟩=some a[0]:=by simp[World.cell?,i,b]
 exact⟨aI W _ c,o,by rw[c,j]⟩
theorem BQ:Tryz.prog.cellsOf 5=1:=vZ
theorem Ar{n:Nat}{e:Wo}{f:DataW H×List MemPlace}(h:DataW.trod enc Tryz.prog w base spare held n 22 e=some f):
 ∃(b:Uy)(a:Wn)(c:Nat),e=[.slice b a.length c]/\a.length<=maxLen/\Yx w 0 w.heap.size b a:=by
 obtain⟨b,a,c,i,j,k⟩:=BT (α:=UInt8) (s:=1) Tryz.underlying22 BQ vY (λd o x=>w.cell? ⟨d,o,none⟩=some (.int .u8 (x.toNat:Int))) (λd o u n f m v p=>by
  obtain⟨z,s,_,r⟩:=DataW.trod_int Tryz.underlying5 p;have y:0<=z/\z<256:=by
   simp[Lit.wf,IntKind.min,IntKind.max,IntKind.signed,IntKind.bits]at r;omega
  refine⟨UInt8.ofNat z.toNat,?_⟩;have:=m 0 vY;rw[s]at this;have e2:((UInt8.ofNat z.toNat).toNat:Int)=z:=by
   rw[UInt8.toNat_ofNat'];omega
  rw[e2];simpa using this) h
 refine⟨b,a,c,i,j,λt q=>?_⟩;obtain⟨d,o,g,l,hq⟩:=k t q;exact⟨d,o,g,⟨aN,l⟩,by simpa using hq⟩
theorem Df(H:Type)(enc:TypeId×Uj->H)(W:Ub)(base:Nat)(args:Zh)(i e:List (DataW H))(z:List MemPlace)(f:∀(r:Nat) t v,Tryz.f3.params[r]?=some t->args[r]?=some v->Value.okWide Tryz.prog W .any base t v)(n:DataW.Whole enc Tryz.prog Tryz.f3.params.toList Rows.fnExactAllocSpec.vars false W args.toList i e z)(F:laidMetH Tryz.prog Rows.fnExactAllocRow.laid W)(J:W.ShapedOpen Tryz.prog):
 Calls Tryz.prog 3 args W λj h=>∃v,j=.returned v/\Rows.fnExactAllocSpec.post enc Tryz.prog Tryz.f3 false true false false W args v h:=by
 have o:=n;obtain⟨R,U,m,a,rfl,af,aj⟩:=n;have l:DataW.TrodAll enc Tryz.prog W 0 (λ_=>true) true Tryz.f3.params.toList args.toList i R:=m;rw[Tryz.params3]at l f;obtain⟨s,ao,d0,ab,S,q0,ad,rfl,rfl,k,Z⟩:=trodAll_cons l;obtain⟨v1,ap,d1,ac,T,al,rfl,rfl,rfl,C,r1⟩:=trodAll_cons Z;obtain⟨rfl,rfl,rfl⟩:=trodAll_nil r1;obtain rfl:args=#[s,v1]:=by cases args;simp_all
 clear m;have B:=k;have D:=C;obtain⟨kk,rfl⟩:=okWide_int Tryz.underlying2<|f 1 2 v1 rfl rfl;obtain⟨u,Q,P,rfl⟩:=okWide_slice Tryz.underlying22<|f 0 22 s rfl rfl;obtain⟨f1,t1⟩:=k;obtain⟨y,aa,m1,e1,p,N⟩:=Ar t1;have q1:Value.slice u Q P=.slice y aa.length m1:=by simpa [Value.cells]using e1
 injection q1 with V X Y;subst V X Y;obtain⟨I,K,E,L⟩:=FA F;have G:=Nc J;have O:maxLen=9223372036854775807:=by unfold maxLen;decide
 rw[O]at p;refine(LZ N rfl p I K G E L).mono λj h ⟨M,d⟩=>?_
 subst M;obtain⟨b,c,rfl⟩:∃b c,e=[b,c]:=by
  match e,a with
  |[b,c],_=>exact⟨b,c,rfl⟩
  |[],a=>exact a.elim
  |[_],a=>obtain⟨_,_,_,_,_,_,_,_,_,_,a,_⟩:=a;exact a.elim
  |_::_::_::_,a=>obtain⟨_,_,_,_,_,_,_,_,_,_,⟨_,_,_,_,_,_,_,_,_,_,a,_⟩,_⟩:=a;exact a.elim
 have q:=o.lt;refine⟨_,rfl,_,_,_,[],S++(T++[]),U,o,mT (shut_bool Tryz.underlying4 _) trodAll_mk0,?_,?_,d.frame _,λA=>by cases A⟩;·exact mT (Below.trod vZ vZ (fV vZ) B d λx g=>q x<|dD _ (dD _ g)) (mT (Below.trod vZ vZ (fV vZ) D d λx g=>q x<|dD _ (fB _<|dD _ g)) trodAll_mk0)
 exact Below.trodVars vZ d vZ a
end
end Go.Proofs.YtcfdhbigppockaaGreatDoor
