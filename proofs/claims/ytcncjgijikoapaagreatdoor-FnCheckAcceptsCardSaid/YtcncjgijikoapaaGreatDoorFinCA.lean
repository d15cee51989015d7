import Derived.Test.YtcncjgijikoapaaGreatDoorCards
import Derived.Test.YtcncjgijikoapaaGreatDoorTie
import Derived.Test.YtcncjgijikoapaaGreatDoorCE5e
import Derived.OpenVars
import Derived.LaidMore
import Derived.Deep.DeepHandedRow
import Derived.Lib.LaidTab
namespace Go.Proofs.YtcncjgijikoapaaGreatDoor
set_option maxRecDepth 100000
open _root_ renaming Array.size->Z,List.length->J,Nat->N,Int->I,rfl->R,Option.some->S,Option.none->U,Bool.true->So,Bool.false->Sn
open Go renaming World.cell?->E,Ending.returned->Rt,Calls->Sk
open Value renaming slice->X,int->Si,bool->Sb,string->Sg
open Go.RowKit
section
open Go.ChangeShapes Go.WideShapes Go.ChangeAt Go.Joins
theorem Rq:ownKnob Tryz.prog.godebug=U:=vZ
theorem Q6: Tryz.prog.globalNamed "loop.example/s0031/impl.opForms" = S 1 := by kernel_rfl
theorem Qi: Tryz.prog.globalNamed "loop.example/s0031/impl.termForms" = S 0 := by kernel_rfl
theorem Le: Tryz.prog.globalNamed "math/bits.deBruijn64tab" = S 2 := by kernel_rfl
theorem MU:(Tryz.prog.globals[2]?).map (·.type)=S 262:=vZ
theorem Gf:Tryz.prog.cellsOf 5=1:=vZ
theorem QP:(Tryz.prog.globals[1]?).map (·.type)=S 113:=vZ
theorem Md:(Tryz.prog.globals[0]?).map (·.type)=S 109:=vZ
theorem S2:Tryz.prog.cellsOf 112=5:=vZ
theorem Mo:Tryz.prog.cellsOf 108=4:=vZ
theorem Qk:Tryz.prog.cellsOf 4=1:=vZ
theorem T1:Tryz.prog.cellsOf 9=1:=vZ
variable {H_: Type} {enc: TypeId×Uj -> H_} {w: Ub} {base: N} {spare: N -> Bool} {held: Bool}
theorem RX{n k:N}{a:Wo}{y:DataW H_×List MemPlace}{b:Bool}(h:DataW.trod enc Tryz.prog w base spare held n 4 ((a.drop k).take (Tryz.prog.cellsOf 4))=S y)(e:y.1=.lit (.bool b)):a[k]?=S (Sb b):=by rw[Qk]at h;obtain⟨z,c,d⟩:=DataW.trod_bool Tryz.underlying4 h;rw[d]at e;cases e;exact AO c
theorem KQ{n k:N}{a:Wo}{y:DataW H_×List MemPlace}{s:Wn}(h:DataW.trod enc Tryz.prog w base spare held n 9 ((a.drop k).take (Tryz.prog.cellsOf 9))=S y)(e:y.1=.lit (.string s)):a[k]?=S (Sg (K8 s)):=by
 rw[T1]at h;obtain⟨z,b,c,_⟩:=DataW.trod_string Tryz.underlying9 h;rw[c]at e;have e1:z.data.toList=s:=by simpa using e
 have e2:K8 s=z:=by rw[<-e1];cases z;rfl
 rw[e2];exact AO b
theorem sF{P:Yh}{b:Array Field}{a:List (DataW H_×List MemPlace)}{n:N}{c:Wo}(o:∀(i:N)(f:Field),b[i]?=S f->DataW.trod enc P w base spare held n f.type ((c.drop f.offset).take (P.cellsOf f.type))=a[i]?)(p:J a=Z b)(i:N){f:Field}(k:b[i]?=S f){e:List (DataW H_)}(l:a.map (·.1)=e){d:DataW H_}(m:e[i]?=S d):
 ∃y,DataW.trod enc P w base spare held n f.type ((c.drop f.offset).take (P.cellsOf f.type))=S y/\y.1=d:=by
 have g:=o i f k;have h:i<J a:=by rw[p];exact(aS.1 k).1
 rw[aC h]at g;refine⟨_,g,?_⟩;have j:(a.map (·.1))[i]?=S d:=by rw[l];exact m
 rw[dX,aC h]at j;simpa using j
theorem Oz{K:N}{c:Wo}{k:List (DataW H_)}{B:List MemPlace}(u:DataW.trod enc Tryz.prog w base spare held K 113 c=S (.agg k,B)){i:N}(x:i<14){s:Wn}{g f b m:Bool}(y:k[i]?=S (.agg [.lit (.string s),.lit (.bool g),.lit (.bool f),.lit (.bool b),.lit (.bool m)])):
 c[i*5]?=S (Sg (K8 s))/\c[i*5+1]?=S (Sb g)/\c[i*5+2]?=S (Sb f)/\c[i*5+3]?=S (Sb b)/\c[i*5+4]?=S (Sb m):=by
 obtain⟨l,M,_,j,_,C,v⟩:=mE Tryz.underlying113 u;have h:=v i x;rw[aC O,S2]at h;simp only[jC,kC]at j;have a:(l[i]' O).1=.agg [.lit (.string s),.lit (.bool g),.lit (.bool f),.lit (.bool b),.lit (.bool m)]:=by
  have:(l.map (·.1))[i]?=S (.agg [.lit (.string s),.lit (.bool g),.lit (.bool f),.lit (.bool b),.lit (.bool m)]):=by rw[<-j.1];exact y
  rw[dX,aC O]at this;simpa using this
 obtain⟨L,P,_,z,_,e,d⟩:=DataW.trod_struct Tryz.underlying112 h;rw[z]at a;simp only[kC]at a;obtain⟨F,o,n⟩:=sF d e 0 R a R;obtain⟨T,p,e1⟩:=sF d e 1 R a R;obtain⟨V,q,e2⟩:=sF d e 2 R a R;obtain⟨W,r,e3⟩:=sF d e 3 R a R;obtain⟨K_,t,e4⟩:=sF d e 4 R a R;exact⟨SR (j:=0) (KQ (k:=0) o n) vY,SR (RX (k:=1) p e1) vY,SR (RX (k:=2) q e2) vY,SR (RX (k:=3) r e3) vY,SR (RX (k:=4) t e4) vY⟩
theorem UL{y:N}{b:Wo}{h:List (DataW H_)}{z:List MemPlace}(q:DataW.trod enc Tryz.prog w base spare held y 109 b=S (.agg h,z)){i:N}(u:i<4){s:Wn}{c t o:Bool}(v:h[i]?=S (.agg [.lit (.string s),.lit (.bool c),.lit (.bool t),.lit (.bool o)])):
 b[i*4]?=S (Sg (K8 s))/\b[i*4+1]?=S (Sb c)/\b[i*4+2]?=S (Sb t)/\b[i*4+3]?=S (Sb o):=by
 obtain⟨j,B,_,g,_,K,r⟩:=mE Tryz.underlying109 q;have f:=r i u;rw[aC O,Mo]at f;simp only[jC,kC]at g;have a:(j[i]' O).1=.agg [.lit (.string s),.lit (.bool c),.lit (.bool t),.lit (.bool o)]:=by
  have:(j.map (·.1))[i]?=S (.agg [.lit (.string s),.lit (.bool c),.lit (.bool t),.lit (.bool o)]):=by rw[<-g.1];exact v
  rw[dX,aC O]at this;simpa using this
 obtain⟨L,C,_,x,_,e,d⟩:=DataW.trod_struct Tryz.underlying108 f;rw[x]at a;simp only[kC]at a;obtain⟨M,l,k⟩:=sF d e 0 R a R;obtain⟨P,m,e1⟩:=sF d e 1 R a R;obtain⟨F,n,e2⟩:=sF d e 2 R a R;obtain⟨T,p,e3⟩:=sF d e 3 R a R;exact⟨SR (j:=0) (KQ (k:=0) l k) vY,SR (RX (k:=1) m e1) vY,SR (RX (k:=2) n e2) vY,SR (RX (k:=3) p e3) vY⟩
theorem LC{n k:N}{a:Wo}{y:DataW H_×List MemPlace}{b:I}(h:DataW.trod enc Tryz.prog w base spare held n 5 ((a.drop k).take (Tryz.prog.cellsOf 5))=S y)(e:y.1=.lit (.int .u8 b)):a[k]?=S (Si .u8 b):=by rw[Gf]at h;obtain⟨z,c,d,_⟩:=DataW.trod_int Tryz.underlying5 h;rw[d]at e;cases e;exact AO c
theorem NY{n:N}{a:Wo}{e:List (DataW H_)}{p:List MemPlace}(h:DataW.trod enc Tryz.prog w base spare held n 262 a=S (.agg e,p)){i:N}(l:i<64){k:I}(m:e[i]?=S (.lit (.int .u8 k))):a[i]?=S (Si .u8 k):=by
 obtain⟨f,q,_,d,_,o,j⟩:=mE Tryz.underlying262 h;have b:=j i l;rw[aC O]at b;simp only[jC,kC]at d;have g:(f[i]' O).1=.lit (.int .u8 k):=by
  have:(f.map (·.1))[i]?=S (.lit (.int .u8 k)):=by rw[<-d.1];exact m
  rw[dX,aC O]at this;simpa using this
 have c:=LC b g;rw[Gf,iN]at c;exact c
def DM:List (DataW Unit):=match Rows.laid_math_bits_deBruijn64tab (H:=Unit)with
 |.agg l=>l
 |_=>[]
theorem Y4:DM=Lib.deBruijn64tab.map λk:N=>(.lit (.int .u8 (k:I)):DataW Unit):=R
theorem Lb:J Lib.deBruijn64tab=64:=vY
theorem XN:∀j,j<64->DM[j]?=S (.lit (.int .u8 (Lib.deBruijn64tab.getD j 0:N))):=λj a=>by
 have h:j<J Lib.deBruijn64tab:=by rw[Lb];exact a
 rw[Y4,dX,aC h,bF,aC h];rfl
theorem S1:Tryz.prog.cellsOf 5=1:=vZ
theorem MC{n:N}{e:Wo}{f:DataW H_×List MemPlace}(h:DataW.trod enc Tryz.prog w base spare held n 22 e=S f):
 ∃(d:Uy)(a:Wn)(c:N),e=[X d (J a) c]/\J a<=maxLen/\Yx w 0 (Z w.heap) d a:=by
 obtain⟨d,a,c,i,j,k⟩:=BT (α:=UInt8) (s:=1) Tryz.underlying22 S1 vY (λb o x=>E w (A b o)=S (Si .u8 (x.toNat:I))) (λb o v n f m y p=>by
  obtain⟨z,t,_,s⟩:=DataW.trod_int Tryz.underlying5 p;have B:0<=z/\z<256:=by simp[Lit.wf,IntKind.min,IntKind.max,IntKind.signed,IntKind.bits]at s;omega
  refine⟨UInt8.ofNat z.toNat,?_⟩;have:=m 0 vY;rw[t]at this;have e2:((UInt8.ofNat z.toNat).toNat:I)=z:=by rw[UInt8.toNat_ofNat'];omega
  rw[e2];simpa using this) h
 refine⟨d,a,c,i,j,λu q=>?_⟩;obtain⟨b,o,g,l,r⟩:=k u q;exact⟨b,o,g,⟨aN,l⟩,by simpa using r⟩
theorem UK{W:Ub}(p:laidMetH Tryz.prog Rows.fnCheckAcceptsRow.laid W):Yy W/\Yb W/\Jn W:=by
 rw[MakeChecks.laidMetH_plain _ _ _ vZ]at p;obtain⟨U_,⟨Q_,Z_,B,f2,T_,q2,u,C,M,F,⟨O_,X_,y,N_,R_,V_,q,P,K,T,⟨P_,Y_,z,f1,S_,q1,r,V,L,E_,_,_⟩,_⟩,_⟩,_,_⟩:=p;obtain rfl:=gQ<|G Le.symm u;obtain rfl:=gQ<|G MU.symm C;have c2:∀j v,B.toList[j]?=S v->E W (A (2) j)=S v:=λj v c=>by have:=mS u M j;rw[this];simpa using c
 obtain rfl:=gQ<|G Q6.symm q;obtain rfl:=gQ<|G Qi.symm r;obtain rfl:=gQ<|G QP.symm P;obtain rfl:=gQ<|G Md.symm V;have c0:∀j v,y.toList[j]?=S v->E W (A (1) j)=S v:=λj v c=>by have:=mS q K j;rw[this];simpa using c
 have c1:∀j v,z.toList[j]?=S v->E W (A (0) j)=S v:=λj v c=>by have:=mS r L j;rw[this];simpa using c
 refine⟨?_,?_,λj x=>c2 _ _<|NY F x (XN j x)⟩
 .have row:∀i s e a b m,i<14->((match Rows.laid_loop_example_s0031_impl_opForms (H:=Unit)with|.agg l=>l|_=>[]):List (DataW Unit))[i]?=S (.agg [.lit (.string s),.lit (.bool e),.lit (.bool a),.lit (.bool b),.lit (.bool m)]) ->
   E W (A (1) (i*5))=S (Sg (K8 s))/\E W (A (1) (i*5+1))=S (Sb e)/\E W (A (1) (i*5+2))=S (Sb a)/\E W (A (1) (i*5+3))=S (Sb b)/\E W (A (1) (i*5+4))=S (Sb m):=λi s e a b m g n=>by
   obtain⟨f,e1,e2,e3,e4⟩:=Oz T g n;exact⟨c0 _ _ f,c0 _ _ e1,c0 _ _ e2,c0 _ _ e3,c0 _ _ e4⟩
  have d:=row 1 _ _ _ _ _ vY R;refine⟨Jh d.1,λk B_ C_=>?_⟩;have h:k=1\/k=2\/k=3\/k=4\/k=5\/k=6\/k=7\/k=8\/k=9\/k=10\/k=11\/k=12\/k=13:=O;obtain rfl|rfl|rfl|rfl|rfl|rfl|rfl|rfl|rfl|rfl|rfl|rfl|rfl:=h;·exact d
  .exact row 2 _ _ _ _ _ vY R
  .exact row 3 _ _ _ _ _ vY R
  .exact row 4 _ _ _ _ _ vY R
  .exact row 5 _ _ _ _ _ vY R
  .exact row 6 _ _ _ _ _ vY R
  .exact row 7 _ _ _ _ _ vY R
  .exact row 8 _ _ _ _ _ vY R
  .exact row 9 _ _ _ _ _ vY R
  .exact row 10 _ _ _ _ _ vY R
  .exact row 11 _ _ _ _ _ vY R
  .exact row 12 _ _ _ _ _ vY R
  exact row 13 _ _ _ _ _ vY R
 have row:∀i s a t o,i<4->((match Rows.laid_loop_example_s0031_impl_termForms (H:=Unit)with|.agg l=>l|_=>[]):List (DataW Unit))[i]?=S (.agg [.lit (.string s),.lit (.bool a),.lit (.bool t),.lit (.bool o)]) ->
  E W (A (0) (i*4))=S (Sg (K8 s))/\E W (A (0) (i*4+1))=S (Sb a)/\E W (A (0) (i*4+2))=S (Sb t)/\E W (A (0) (i*4+3))=S (Sb o):=λi s a t o g n=>by
  obtain⟨f,e1,e2,e3⟩:=UL E_ g n;exact⟨c1 _ _ f,c1 _ _ e1,c1 _ _ e2,c1 _ _ e3⟩
 have d:=row 1 _ _ _ _ vY R;refine⟨Jh d.1,λk B_ C_=>?_⟩;have h:k=1\/k=2\/k=3:=O;obtain rfl|rfl|rfl:=h;·exact d
 .exact row 2 _ _ _ _ vY R
 exact row 3 _ _ _ _ vY R
theorem MR(H_:Type)(enc:TypeId×Uj->H_)(W:Ub)(base:N)(b:Zh)(h e:List (DataW H_))(u:List MemPlace)(o:∀(p:N) t v,Tryz.f3.params[p]?=S t->b[p]?=S v->Value.okWide Tryz.prog W .any base t v)(m:DataW.Whole enc Tryz.prog Tryz.f3.params.toList Rows.fnCheckAcceptsSpec.vars Sn W b.toList h e u)(z:laidMetH Tryz.prog Rows.fnCheckAcceptsRow.laid W):
 Sk Tryz.prog 3 b W λi g=>∃v,i=Rt v/\Rows.fnCheckAcceptsSpec.post enc Tryz.prog Tryz.f3 Sn So Sn Sn W b v g:=by
 have n:=m;obtain⟨x,P,l,a,rfl,ab,ac⟩:=m;have k:DataW.TrodAll enc Tryz.prog W 0 (λ_=>So) So Tryz.f3.params.toList b.toList h x:=l;rw[Tryz.params3]at k o;obtain⟨q,ad,Y_,Z_,B,q0,aa,rfl,rfl,j,T⟩:=trodAll_cons k;obtain⟨rfl,rfl,rfl⟩:=trodAll_nil T;obtain rfl:b=#[q]:=by cases b;simp_all
 clear l;have y:=j;obtain⟨r,L,K,rfl⟩:=okWide_slice Tryz.underlying22 (o 0 22 q R R);obtain⟨f1,C⟩:=j;obtain⟨s,V,M,e1,F,E_⟩:=MC C;have q1:X r L K=X s (J V) M:=by simpa [Value.cells]using e1
 injection q1 with Q_ R_ S_;subst Q_ R_ S_;obtain⟨A_,B_,C_⟩:=UK z;have I_:maxLen=9223372036854775807:=by unfold maxLen;decide
 rw[I_]at F;refine(PJ (Y E_) (Y R) (Y A_) (Y B_) (Y C_)).mono λi g ⟨D_,f⟩=>?_
 subst D_;obtain⟨c,d,rfl⟩:∃c d,e=[c,d]:=by
  match e,a with
  |[c,d],_=>exact⟨c,d,R⟩
  |[],a=>exact a.elim
  |[_],a=>obtain⟨_,_,_,_,_,_,_,_,_,_,a,_⟩:=a;exact a.elim
  |_::_::_::_,a=>obtain⟨_,_,_,_,_,_,_,_,_,_,⟨_,_,_,_,_,_,_,_,_,_,a,_⟩,_⟩:=a;exact a.elim
 have G_:=n.lt;refine⟨_,R,_,_,_,[],B++[],P,n,mT (shut_bool Tryz.underlying4 _) trodAll_mk0,?_,?_,f.frame _,λx_=>by cases x_⟩;·exact mT (Below.trod vZ vZ (fV vZ) y f λV_ J_=>G_ V_<|dD _ (dD _ J_)) trodAll_mk0
 exact Below.trodVars vZ f vZ a
theorem N8(a:Os):laidMet Tryz.prog Rows.fnCheckAcceptsRow.laid ((World.doorLaid Tryz.prog 64 a).forCall (λ_ _=>0) ⟨#[],#[Hq],[]⟩).memory :=
 laidMet_of_run' 8 vZ vZ
theorem MT(b:Os){H_:Type}(enc:TypeId×Uj->H_):∃a c,DataW.whole enc Tryz.prog ((World.doorLaid Tryz.prog 64 b).forCall (λ_ _=>0) ⟨#[],#[Hq],[]⟩).memory Tryz.f3.params.toList Rows.fnCheckAcceptsSpec.vars Sn #[Hq].toList 8=S ([.nil],a,c) :=
 ⟨[Rows.laid_loop_example_s0031_impl_termForms,Rows.laid_loop_example_s0031_impl_opForms],[]++(MemPlace.row (A (0) 0) 16++[]++(MemPlace.row (A (1) 0) 70++[]++[])),vZ⟩
theorem LP(a:Os)(k:a.Started)(H_:Type)(enc:TypeId×Uj->H_)(F:Stop.Interp):
 ReturnsInHanded {} Tryz.checked a 3 .any ((OpenSpec.ofChange Rows.fnCheckAcceptsSpec).preRow enc Tryz.prog Tryz.f3 Rows.fnCheckAcceptsRow.domain Sn Rows.fnCheckAcceptsRow.laid) (((OpenSpec.ofChange Rows.fnCheckAcceptsSpec).at F).post enc Tryz.prog Tryz.f3 Sn So Sn Sn):=by
 obtain⟨b,m,j⟩:=MT a enc;refine returnsInHanded_of_row (C:=Tryz.checked) (s:=OpenSpec.ofChange Rows.fnCheckAcceptsSpec) Rq k vZ Tryz.func3
  (witness_row_at (enc:=enc) (C:=Tryz.checked) Sn (World.doorLaid Tryz.prog 64 a) #[Hq] R vZ vZ vZ
   (OpenSpec.preRow_of_cond 8 j vZ (λl h=>by cases h) vZ (N8 a))) ?_
 intro W base c e b d i g _ _ _ f _ _;exact MR H_ enc W base c e b d i g f
theorem R5:Rows.FnCheckAcceptsSaid :=
 OpenClaim.holds_of_cond 3 Tryz.f3 R R R R R R R ⟨R,R,R,R,R⟩ R R R R R vZ Tryz.func3 vZ
  (fV vZ) (by unfold Func.isWrapper;first|(rw[aU<|by decide +kernel];kernel_rfl)|(rw[aM<|by decide +kernel];exact⟨R,R⟩))
  (λa b H_ enc _ F=>by rw[OpenClaim.pre_eq_preRow];exact LP a b H_ enc F)
theorem VV(f : FuncId)(fn : Func)(hf : Tryz.pinned.checked.prog.funcNamed "loop.example/s0031/laws.FnCheckAccepts" = S f)(hfn : Tryz.pinned.checked.prog.funcs[f]? = S fn):
 So=Tryz.pinned.checked.prog.looks []/\∀(j:N) t,fn.params[j]?=S t->Tryz.pinned.checked.prog.wantsStandIn t=Sn:=by
 obtain rfl : f = 3 := Option.some.inj (G (show Tryz.prog.funcNamed "loop.example/s0031/laws.FnCheckAccepts" = S 3 by kernel_rfl).symm hf) |>.symm;obtain rfl:fn=Tryz.f3:=(gQ<|Tryz.func3.symm.trans hfn).symm;refine⟨vZ,λj t ht=>?_⟩;rw[Tryz.params3]at ht;obtain rfl:t=22:=by simpa using Array.mem_of_getElem? ht
 exact(show Tryz.prog.wantsStandIn 22=Sn by kernel_rfl)
theorem Mn:Rows.FnCheckAcceptsCardSaid :=
 Claim7.holds_tied_plain_at .later [] _ _ _ _ R5 (λ_ h=>by cases h) vZ (λ_ h=>by cases h) fnCheckAccepts_row_tie R ⟨R,R⟩ vZ R VV vZ
#print axioms Mn
end
end Go.Proofs.YtcncjgijikoapaaGreatDoor
