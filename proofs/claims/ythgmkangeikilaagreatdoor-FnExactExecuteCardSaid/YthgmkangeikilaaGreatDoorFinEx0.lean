import Derived.Test.YthgmkangeikilaaGreatDoorCards
import Derived.Test.YthgmkangeikilaaGreatDoorTie
import Derived.Test.YthgmkangeikilaaGreatDoorSQ11
import Derived.OpenVars
import Derived.LaidMore
import Derived.Lay
import Derived.Deep.DeepHandedRow
namespace Go.Proofs.YthgmkangeikilaaGreatDoor
set_option maxRecDepth 100000
open _root_ renaming Array.size->Z,List.length->J,Nat->N,Int->I,rfl->R,Option.some->S,Option.none->U,Bool.true->So,Bool.false->Sn,List.range->Rg
open Go renaming World.cell?->E,IntKind.i64->S6,Ending.returned->Rt,Calls->Sk
open Value renaming slice->X,int->Si,bool->Sb,string->Sg,pointer->Sj
open Go.RowKit Go.Proofs.Tryz
section
open Go.ChangeShapes Go.WideShapes Go.ChangeAt Go.Joins
theorem own:ownKnob prog.godebug=U:=vZ
theorem gTz: prog.globalNamed "math/bits.deBruijn64tab" = S 3 := by kernel_rfl
theorem P9:(prog.globals[3]?).map (·.type)=S 355:=vZ
theorem gOps: prog.globalNamed "loop.example/s0031/impl.opForms" = S 2 := by kernel_rfl
theorem gTers: prog.globalNamed "loop.example/s0031/impl.termForms" = S 1 := by kernel_rfl
theorem Gu:(prog.globals[2]?).map (·.type)=S 248:=vZ
theorem F9:(prog.globals[1]?).map (·.type)=S 244:=vZ
theorem DM:prog.cellsOf 247=5:=vZ
theorem CG:prog.cellsOf 243=4:=vZ
theorem BH:prog.cellsOf 4=1:=vZ
theorem Cu:prog.cellsOf 9=1:=vZ
theorem rn{a:Wo}{k:N}{v:Uj}(h:(a.drop k).take 1=[v]):a[k]?=S v:=by
 have b:((a.drop k).take 1)[0]?=S v:=by rw[h];rfl
 rw[fH O,jA]at b;simpa using b
theorem Cy{a:Wo}{k m j:N}{v:Uj}(h:((a.drop k).take m)[j]?=S v)(b:j<m):a[k+j]?=S v:=by rw[fH b,jA]at h;exact h
variable{H_:Type}{enc:TypeId×Uj->H_}{w:Ub}{base:N}{spare:N->Bool}{held:Bool}
theorem Ta{n k:N}{a:Wo}{y:DataW H_×List MemPlace}{b:Bool}(h:DataW.trod enc prog w base spare held n 4 ((a.drop k).take (prog.cellsOf 4))=S y)(e:y.1=.lit (.bool b)):a[k]?=S (Sb b):=by rw[BH]at h;obtain⟨z,c,d⟩:=DataW.trod_bool underlying4 h;rw[d]at e;cases e;exact rn c
theorem vQ{n k:N}{a:Wo}{y:DataW H_×List MemPlace}{s:Wn}(h:DataW.trod enc prog w base spare held n 9 ((a.drop k).take (prog.cellsOf 9))=S y)(e:y.1=.lit (.string s)):a[k]?=S (Sg (K8 s)):=by
 rw[Cu]at h;obtain⟨z,b,c,_⟩:=DataW.trod_string underlying9 h;rw[c]at e;have e1:z.data.toList=s:=by simpa using e
 have e2:K8 s=z:=by rw[<-e1];cases z;rfl
 rw[e2];exact rn b
theorem Td{P:Yh}{b:Array Field}{a:List (DataW H_×List MemPlace)}{n:N}{c:Wo}(o:∀(i:N)(f:Field),b[i]?=S f->DataW.trod enc P w base spare held n f.type ((c.drop f.offset).take (P.cellsOf f.type))=a[i]?)(p:J a=Z b)(i:N){f:Field}(k:b[i]?=S f){e:List (DataW H_)}(l:a.map (·.1)=e){d:DataW H_}(m:e[i]?=S d):
 ∃y,DataW.trod enc P w base spare held n f.type ((c.drop f.offset).take (P.cellsOf f.type))=S y/\y.1=d:=by
 have g:=o i f k;have h:i<J a:=by rw[p];exact(aS.1 k).1
 rw[aC h]at g;refine⟨_,g,?_⟩;have j:(a.map (·.1))[i]?=S d:=by rw[l];exact m
 rw[dX,aC h]at j;simpa using j
theorem dt{a:Wo}{k m j:N}{v:Uj}(h:((a.drop k).take m)[j]?=S v)(b:j<m):a[k+j]?=S v:=Cy h b
theorem FJ{z:N}{b:Wo}{rows:List (DataW H_)}{L:List MemPlace}(t:DataW.trod enc prog w base spare held z 248 b=S (.agg rows,L)){i:N}(v:i<14){s:Wn}{g e f m:Bool}(x:rows[i]?=S (.agg [.lit (.string s),.lit (.bool g),.lit (.bool e),.lit (.bool f),.lit (.bool m)])):
 b[i*5]?=S (Sg (K8 s))/\b[i*5+1]?=S (Sb g)/\b[i*5+2]?=S (Sb e)/\b[i*5+3]?=S (Sb f)/\b[i*5+4]?=S (Sb m):=by
 obtain⟨k,C,_,j,_,B,u⟩:=mE underlying248 t;have h:=u i v;rw[aC O,DM]at h;simp only[jC,kC]at j;have a:(k[i]' O).1=.agg [.lit (.string s),.lit (.bool g),.lit (.bool e),.lit (.bool f),.lit (.bool m)]:=by
  have:(k.map (·.1))[i]?=S (.agg [.lit (.string s),.lit (.bool g),.lit (.bool e),.lit (.bool f),.lit (.bool m)]):=by rw[<-j.1];exact x
  rw[dX,aC O]at this;simpa using this
 obtain⟨K,M,_,y,_,d,c⟩:=DataW.trod_struct underlying247 h;rw[y]at a;simp only[kC]at a;obtain⟨P,n,l⟩:=Td c d 0 R a R;obtain⟨F,o,e1⟩:=Td c d 1 R a R;obtain⟨T,p,e2⟩:=Td c d 2 R a R;obtain⟨V,q,e3⟩:=Td c d 3 R a R;obtain⟨W,r,e4⟩:=Td c d 4 R a R;exact⟨dt (j:=0) (vQ (k:=0) n l) vY,dt (Ta (k:=1) o e1) vY,dt (Ta (k:=2) p e2) vY,dt (Ta (k:=3) q e3) vY,dt (Ta (k:=4) r e4) vY⟩
theorem Ey{x:N}{b:Wo}{rows:List (DataW H_)}{y:List MemPlace}(p:DataW.trod enc prog w base spare held x 244 b=S (.agg rows,y)){i:N}(r:i<4){s:Wn}{c t o:Bool}(u:rows[i]?=S (.agg [.lit (.string s),.lit (.bool c),.lit (.bool t),.lit (.bool o)])):
 b[i*4]?=S (Sg (K8 s))/\b[i*4+1]?=S (Sb c)/\b[i*4+2]?=S (Sb t)/\b[i*4+3]?=S (Sb o):=by
 obtain⟨h,K,_,g,_,z,q⟩:=mE underlying244 p;have f:=q i r;rw[aC O,CG]at f;simp only[jC,kC]at g;have a:(h[i]' O).1=.agg [.lit (.string s),.lit (.bool c),.lit (.bool t),.lit (.bool o)]:=by
  have:(h.map (·.1))[i]?=S (.agg [.lit (.string s),.lit (.bool c),.lit (.bool t),.lit (.bool o)]):=by rw[<-g.1];exact u
  rw[dX,aC O]at this;simpa using this
 obtain⟨L,B,_,v,_,e,d⟩:=DataW.trod_struct underlying243 f;rw[v]at a;simp only[kC]at a;obtain⟨C,k,j⟩:=Td d e 0 R a R;obtain⟨M,l,e1⟩:=Td d e 1 R a R;obtain⟨P,m,e2⟩:=Td d e 2 R a R;obtain⟨F,n,e3⟩:=Td d e 3 R a R;exact⟨dt (j:=0) (vQ (k:=0) k j) vY,dt (Ta (k:=1) l e1) vY,dt (Ta (k:=2) m e2) vY,dt (Ta (k:=3) n e3) vY⟩
theorem gErr: prog.globalNamed "errors.errorType" = S 0 := by kernel_rfl
theorem rtRow: (prog.cutTypes.find? (·.1 == "internal/reflectlite.rtype")).map (·.2) = S 278 := by kernel_rfl
theorem MY:((Rg<|544 - 100).filter λt=>prog.rowNamed t [101,114,114,111,114])=[111]:=vZ
theorem LD:Z prog.types=544 - 100:=vZ
theorem errT{W : Ub}(h : handlesMet prog [("errors.errorType", Rows.laid_errors_errorType)] W): ErrT W := by obtain⟨name,u,ty,e1,e2,e3,e4,e5⟩:=h _<|cS.2 R;have en:name=[101,114,114,111,114]:=(gQ e1).symm;subst en;obtain rfl:=gQ<|G rtRow.symm e2;have hm:ty∈(Rg<|544 - 100).filter λt=>prog.rowNamed t [101,114,114,111,114]:=fG.2 ⟨bE.2 (by rw[<-LD];exact e3),e4⟩;rw[MY]at hm;obtain rfl:=cS.1 hm;have hh:typeHandle prog 111=Sj (S ⟨7,111,U⟩):=vZ;rw[hh]at e5;have q:=mS gErr e5 0;unfold ErrT;rw[q];rfl
theorem t8:prog.cellsOf 5=1:=vZ
theorem Ge{n k:N}{a:Wo}{y:DataW H_×List MemPlace}{b:I}(h:DataW.trod enc prog w base spare held n 5 ((a.drop k).take (prog.cellsOf 5))=S y)(e:y.1=.lit (.int .u8 b)):a[k]?=S (Si .u8 b):=by rw[t8]at h;obtain⟨z,c,d,_⟩:=DataW.trod_int underlying5 h;rw[d]at e;cases e;exact rn c
theorem Fh{n:N}{a:Wo}{rows:List (DataW H_)}{p:List MemPlace}(h:DataW.trod enc prog w base spare held n 355 a=S (.agg rows,p)){i:N}(j:i<64){k:I}(l:rows[i]?=S (.lit (.int .u8 k))):a[i]?=S (Si .u8 k):=by
 obtain⟨e,o,_,d,_,m,g⟩:=mE underlying355 h;have b:=g i j;rw[aC O]at b;simp only[jC,kC]at d;have f:(e[i]' O).1=.lit (.int .u8 k):=by
  have:(e.map (·.1))[i]?=S (.lit (.int .u8 k)):=by rw[<-d.1];exact l
  rw[dX,aC O]at this;simpa using this
 have c:=Ge b f;rw[t8,iN]at c;exact c
def wu:List (DataW Unit):=match Rows.laid_math_bits_deBruijn64tab (H:=Unit)with
 |.agg l=>l
 |_=>[]
theorem Fr:wu=Lib.deBruijn64tab.map λk:N=>(.lit (.int .u8 (k:I)):DataW Unit):=R
theorem FB:J Lib.deBruijn64tab=64:=vY
theorem E3:∀j,j<64->wu[j]?=S (.lit (.int .u8 (Lib.deBruijn64tab.getD j 0:N))):=λj a=>by
 have h:j<J Lib.deBruijn64tab:=by rw[FB];exact a
 rw[Fr,dX,aC h,bF,aC h];rfl
theorem FA{W:Ub}(h:laidMetH prog Rows.fnExactExecuteRow.laid W):Yy W/\Yb W/\ErrT W/\Jn W:=by
 have h' : laidMet prog [("math/bits.deBruijn64tab", Rows.laid_math_bits_deBruijn64tab), ("unicode/utf8.acceptRanges", Rows.laid_unicode_utf8_acceptRanges), ("loop.example/s0031/impl.opForms", Rows.laid_loop_example_s0031_impl_opForms), ("loop.example/s0031/impl.termForms", Rows.laid_loop_example_s0031_impl_termForms), ("unicode/utf8.first", Rows.laid_unicode_utf8_first)] W ∧ handlesMet prog [("errors.errorType", Rows.laid_errors_errorType)] W := h
 obtain⟨ps,⟨g2,t2,cs2,f2,p2,q2,hg2,ht2,hv2,hd2,⟨_,_,_,_,_,_,_,_,_,_,⟨g0,t0,cs0,f0,p0,q0,hg0,ht0,hv0,hd0,⟨g1,t1,cs1,f1,p1,q1,hg1,ht1,hv1,hd1,_,_⟩,_⟩,_⟩,_⟩,_,_⟩:=h'.1;obtain rfl:=gQ<|G gTz.symm hg2;obtain rfl:=gQ<|G P9.symm ht2;have c2:∀j v,cs2.toList[j]?=S v->E W ⟨3,j,U⟩=S v:=λj v hv=>by have:=mS hg2 hv2 j;rw[this];simpa using hv
 obtain rfl:=gQ<|G gOps.symm hg0;obtain rfl:=gQ<|G gTers.symm hg1;obtain rfl:=gQ<|G Gu.symm ht0;obtain rfl:=gQ<|G F9.symm ht1;have c0:∀j v,cs0.toList[j]?=S v->E W ⟨2,j,U⟩=S v:=λj v hv=>by have:=mS hg0 hv0 j;rw[this];simpa using hv
 have c1:∀j v,cs1.toList[j]?=S v->E W ⟨1,j,U⟩=S v:=λj v hv=>by have:=mS hg1 hv1 j;rw[this];simpa using hv
 refine⟨?_,?_,errT h'.2,λj hj=>c2 _ _<|Fh hd2 hj (E3 j hj)⟩
 .have row:∀i s d a b m,i<14->((match Rows.laid_loop_example_s0031_impl_opForms (H:=Unit)with|.agg l=>l|_=>[]):List (DataW Unit))[i]?=S (.agg [.lit (.string s),.lit (.bool d),.lit (.bool a),.lit (.bool b),.lit (.bool m)]) ->
   E W ⟨2,i*5,U⟩=S (Sg (K8 s))/\E W ⟨2,i*5+1,U⟩=S (Sb d)/\E W ⟨2,i*5+2,U⟩=S (Sb a)/\E W ⟨2,i*5+3,U⟩=S (Sb b)/\E W ⟨2,i*5+4,U⟩=S (Sb m):=λi s d a b m hi hr=>by
   obtain⟨e0,e1,e2,e3,e4⟩:=FJ hd0 hi hr;exact⟨c0 _ _ e0,c0 _ _ e1,c0 _ _ e2,c0 _ _ e3,c0 _ _ e4⟩
  have r1:=row 1 _ _ _ _ _ vY R;refine⟨Jh r1.1,λk h1 h2=>?_⟩;have hk:k=1\/k=2\/k=3\/k=4\/k=5\/k=6\/k=7\/k=8\/k=9\/k=10\/k=11\/k=12\/k=13:=O;obtain rfl|rfl|rfl|rfl|rfl|rfl|rfl|rfl|rfl|rfl|rfl|rfl|rfl:=hk;·exact r1
  .exact row 2 _ _ _ _ _ vY R
  .exact row 3 _ _ _ _ _ vY R
  .exact row 4 _ _ _ _ _ vY R
  .exact row 5 _ _ _ _ _ vY R
  .exact row 6 _ _ _ _ _ vY R
  .exact row 7 _ _ _ _ _ vY R
  .exact row 8 _ _ _ _ _ vY R
  .exact row 9 _ _ _ _ _ vY R
  .exact row 10 _ _ _ _ _ vY R
  .exact row 11 _ _ _ _ _ vY R
  .exact row 12 _ _ _ _ _ vY R
  exact row 13 _ _ _ _ _ vY R
 have row:∀i s a t o,i<4->((match Rows.laid_loop_example_s0031_impl_termForms (H:=Unit)with|.agg l=>l|_=>[]):List (DataW Unit))[i]?=S (.agg [.lit (.string s),.lit (.bool a),.lit (.bool t),.lit (.bool o)]) ->
  E W ⟨1,i*4,U⟩=S (Sg (K8 s))/\E W ⟨1,i*4+1,U⟩=S (Sb a)/\E W ⟨1,i*4+2,U⟩=S (Sb t)/\E W ⟨1,i*4+3,U⟩=S (Sb o):=λi s a t o hi hr=>by
  obtain⟨e0,e1,e2,e3⟩:=Ey hd1 hi hr;exact⟨c1 _ _ e0,c1 _ _ e1,c1 _ _ e2,c1 _ _ e3⟩
 have r1:=row 1 _ _ _ _ vY R;refine⟨Jh r1.1,λk h1 h2=>?_⟩;have hk:k=1\/k=2\/k=3:=O;obtain rfl|rfl|rfl:=hk;·exact r1
 .exact row 2 _ _ _ _ vY R
 exact row 3 _ _ _ _ vY R
theorem LK{P:Yh}{W:Ub}{r:Reach}{base:N}{t:TypeId}{v:Uj}(b:P.underlying t=S (.int S6))(a:Cell.ok P W r base t v):∃n,v=Si S6 n:=by
 unfold Cell.ok at a;rw[b]at a;cases v with
 |int k n=>
  obtain⟨rfl,_⟩:=a;exact⟨n,R⟩
 |_=>exact a.elim
theorem Nc{W:Ub}(h:W.ShapedOpen prog):ft W:=by
 obtain⟨a,i,l,f⟩:=h.1 4 #[Si S6 0] 3 (by decide +kernel) vZ;obtain⟨p,m,_,g⟩:=f vZ;have e:p=[3]:=gQ<|G m.symm vZ;subst e;have b:0<Z a:=by rw[l];decide
 obtain⟨u,n,k⟩:=g 0 a[0] (by simp[b]);have d:3=u:=by simpa using n
 subst d;obtain⟨o,j⟩:=LK (P:=prog) (t:=3) underlying3 k;have c:E W ⟨4,0,U⟩=S a[0]:=by simp[World.cell?,i,b]
 exact⟨aI W _ c,o,by rw[c,j]⟩
theorem BQ:prog.cellsOf 5=1:=vZ
theorem Ar{n:N}{e:Wo}{f:DataW H_×List MemPlace}(h:DataW.trod enc prog w base spare held n 22 e=S f):
 ∃(b:Uy)(a:Wn)(c:N),e=[X b (J a) c]/\J a<=maxLen/\Yx w 0 (Z w.heap) b a:=by
 obtain⟨b,a,c,i,j,k⟩:=BT (α:=UInt8) (s:=1) underlying22 BQ vY (λd o x=>E w ⟨d,o,U⟩=S (Si .u8 (x.toNat:I))) (λd o u n f m v p=>by
  obtain⟨z,s,_,r⟩:=DataW.trod_int underlying5 p;have y:0<=z/\z<256:=by simp[Lit.wf,IntKind.min,IntKind.max,IntKind.signed,IntKind.bits]at r;omega
  refine⟨UInt8.ofNat z.toNat,?_⟩;have:=m 0 vY;rw[s]at this;have e2:((UInt8.ofNat z.toNat).toNat:I)=z:=by rw[UInt8.toNat_ofNat'];omega
  rw[e2];simpa using this) h
 refine⟨b,a,c,i,j,λt q=>?_⟩;obtain⟨d,o,g,l,hq⟩:=k t q;exact⟨d,o,g,⟨aN,l⟩,by simpa using hq⟩
theorem exV{n:N}{e:Wo}{f:DataW H_×List MemPlace}(h:DataW.trod enc prog w base spare held n 23 e=S f):
 ∃(b:Uy)(a:Wc)(c:N),e=[X b (J a) c]/\J a<=maxLen/\Xf w 0 (Z w.heap) b a:=by
 obtain⟨b,a,c,i,j,k⟩:=BT (α:=I) (s:=1) underlying23 vZ vY (λd o x=>E w ⟨d,o,U⟩=S (Si S6 x)) (λd o u n f m v p=>by obtain⟨z,s,_,_⟩:=DataW.trod_int underlying2 p;have:=m 0 vY;rw[s]at this;exact⟨z,by simpa using this⟩) h
 refine⟨b,a,c,i,j,λt q=>?_⟩;obtain⟨d,o,g,l,hq⟩:=k t q;exact⟨d,o,g,⟨aN,l⟩,by simpa using hq⟩
theorem Df(H_:Type)(enc:TypeId×Uj->H_)(W:Ub)(base:N)(args:Zh)(i e:List (DataW H_))(z:List MemPlace)(f:∀(r:N) t v,Tryz.f3.params[r]?=S t->args[r]?=S v->Value.okWide prog W .any base t v)(n:DataW.Whole enc prog Tryz.f3.params.toList Rows.fnExactExecuteSpec.vars Sn W args.toList i e z)(F:laidMetH prog Rows.fnExactExecuteRow.laid W)(k:W.ShapedOpen prog):
 Sk prog 3 args W λj h=>∃v,j=Rt v/\Rows.fnExactExecuteSpec.post enc prog Tryz.f3 Sn So Sn Sn W args v h:=by
 have o:=n;obtain⟨p,s,m,a,rfl,af,aj⟩:=n;have l:DataW.TrodAll enc prog W 0 (λ_=>So) So Tryz.f3.params.toList args.toList i p:=m;rw[params3]at l f;obtain⟨v0,_,_,_,S0,_,x,rfl,rfl,k0,l⟩:=trodAll_cons l;obtain⟨v1,_,_,_,S1,_,rfl,rfl,rfl,k1,l⟩:=trodAll_cons l;obtain⟨v2,_,_,_,S2,_,rfl,rfl,rfl,k2,l⟩:=trodAll_cons l;obtain⟨v3,_,_,_,S3,_,rfl,rfl,rfl,k3,l⟩:=trodAll_cons l;obtain⟨v4,_,_,_,S4,_,rfl,rfl,rfl,k4,l⟩:=trodAll_cons l;obtain⟨rfl,rfl,rfl⟩:=trodAll_nil l;obtain rfl:args=#[v0,v1,v2,v3,v4]:=by cases args;simp_all
 clear m;obtain⟨t,rfl⟩:=okWide_int underlying2<|f 1 2 v1 R R;obtain⟨fu,rfl⟩:=okWide_int underlying2<|f 4 2 v4 R R;obtain⟨a0,b0,c0,rfl⟩:=okWide_slice underlying22<|f 0 22 v0 R R;obtain⟨a1,b1,c1,rfl⟩:=okWide_slice underlying23<|f 2 23 v2 R R;obtain⟨a2,b2,c2,rfl⟩:=okWide_slice underlying23<|f 3 23 v3 R R;have⟨_,i0⟩:=k0;have⟨_,i1⟩:=k2;have⟨_,i2⟩:=k3;obtain⟨y0,x0,m0,e0,_,N0⟩:=Ar i0;obtain⟨y1,x1,m1,e1,_,N1⟩:=exV i1;obtain⟨y2,x2,m2,e2,_,N2⟩:=exV i2;simp only[Value.cells,List.cons.injEq,and_true,Value.slice.injEq]at e0 e1 e2;obtain⟨rfl,rfl,rfl⟩:=e0;obtain⟨rfl,rfl,rfl⟩:=e1;obtain⟨rfl,rfl,rfl⟩:=e2;obtain⟨u,K,y,L⟩:=FA F;have B:=Nc k;refine(lawEx (Y N0) (Y R) (Y N1) (Y R) (Y N2) (Y R) (Y u) (Y K) (Y B) (Y y) (Y L)).mono λj h ⟨M,d⟩=>?_
 subst M;obtain⟨b,c,rfl⟩:∃b c,e=[b,c]:=by
  match e,a with
  |[b,c],_=>exact⟨b,c,R⟩
  |[],a=>exact a.elim
  |[_],a=>obtain⟨_,_,_,_,_,_,_,_,_,_,a,_⟩:=a;exact a.elim
  |_::_::_::_,a=>obtain⟨_,_,_,_,_,_,_,_,_,_,⟨_,_,_,_,_,_,_,_,_,_,a,_⟩,_⟩:=a;exact a.elim
 have q:=o.lt;refine⟨_,R,_,_,_,[],S0++(S1++(S2++(S3++(S4++[])))),s,o,mT (shut_bool underlying4 _) trodAll_mk0,?_,?_,d.frame _,λC=>by cases C⟩
 .exact mT (Below.trod vZ vZ (fV vZ) k0 d λx g=>q x (by simp[g])) (mT (Below.trod vZ vZ (fV vZ) k1 d λx g=>q x (by simp[g])) (mT (Below.trod vZ vZ (fV vZ) k2 d λx g=>q x (by simp[g])) (mT (Below.trod vZ vZ (fV vZ) k3 d λx g=>q x (by simp[g])) (mT (Below.trod vZ vZ (fV vZ) k4 d λx g=>q x (by simp[g])) trodAll_mk0))))
 exact Below.trodVars vZ d vZ a
end
