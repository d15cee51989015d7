import Derived.Test.YtnggdhnpjfigjaaGreatDoorMT1
import Derived.LaidEql
import Derived.Stop.Asserts
namespace Go.Proofs.YtnggdhnpjfigjaaGreatDoor
set_option maxHeartbeats 4000000
set_option maxRecDepth 100000
open _root_ renaming Array.size->Z,List.length->J,Nat->N,Int->I,rfl->R,Option.some->S,Option.none->U,Bool.true->So,Bool.false->Sn,absurd->Sz
open Go renaming World.cell?->E,World.alloc->D,IntKind.i64->S6,Obj.cells->Sc,Ending.returned->Rt,RowKit.Below->Sw,Calls->Sk,World.setCell->Se
open Value renaming slice->X,int->Si,bool->Sb,agg->Sa,string->Sg,tuple->St,pointer->Sj
open Go.RowKit Go.Shelf Go.Proofs.Tryz
variable{t:I}{n m k B c:N}{w v:Ub}{a A_:Uj}{p:Uy}
theorem LG{d:Wn}:nQ d=(gn<|C3 d 32).map (λb=>(Bo b:I)):=by
 unfold nQ gn Bf;by_cases c:(C3 d 32).all Y3=So
 .rw[aU c]
  match h:C3 d 32,c with
  |[],_=>rfl
  |[_],_=>rfl
  |[a,b],c=>
   dsimp only;by_cases e:a=[102,117,110,99]
   .cases hd:Ax b 4 with
    |true=>
     have f:Gb b=Bo b:=by unfold Gb;rw[aU hd]
     rw[aU ⟨R,e,by show 0<=Gb b;rw[f];omega⟩,aU ⟨c,e,R⟩];show S (Gb b)=_;rw[f];rfl
    |false=>
     have f:Gb b=-1:=by unfold Gb;rw[hd];rfl
     rw[aM (λq=>Sz q.2.2<|by show ¬0<=Gb b;rw[f];decide),aM λq=>Sz q.2.2 vY];rfl
   rw[aM λq=>e q.2.1,aM λq=>e q.2.1];rfl
  |_::_::_::_,_=>
   rw[aM λq=>by have:=q.1;simp at this];rfl
 rw[aM c,aM λq=>by have:=q.1;simp at this]
 match h:C3 d 32,c with
 |[],_=>rfl
 |[_],_=>rfl
 |[a,b],c=>
  dsimp only;rw[aM λq=>c q.1];rfl
 |_::_::_::_,_=>rfl
theorem ft.keep{w':Ub}(h:ft w)(k:Sw (Z w.1) w w'):ft w':=⟨aX h.1 k.4,by
 let⟨m,a⟩:=h.2;exact⟨m,oB k a h.1⟩⟩
theorem MN{s:NX}{a:Wn}{c:I}(h:bk s a=.bad c):c≠0:=by
 unfold bk at h;split at h;·cases h;decide
 split at h
 .rename_i q;cases h;exact q
 cases hs:je s (Bf a)with
 |none=>rw[hs]at h;cases h;decide
 |some b=>rw[hs]at h;cases h
theorem Ab:∀(ls:Vw)(i:N)(s:NX){c:I}{l:N},dy ls i s=.bad c l->c≠0
 |[],_,_,_,_,h=>by cases h
 |a::ls,i,s,c,l,h=>by
  rw[dy]at h;cases hl:bk s a with
  |bad d=>rw[hl]at h;cases h;exact MN hl
  |ok b=>rw[hl]at h;exact Ab ls (i+1) b h
def M9(s:ByteArray)(c l:I):Uj:=.iface 165 (Sa #[Sg s,T2 c l])
def zI(w a:Ub)(o:jg)(e:Ending):Prop:=Sw (Z w.1) w a /\
 ((o.1=0/\o.2=0/\∃b c,e=Rt (St #[Sa #[Si S6 o.3.1,X b (J o.3.2) c],.nilIface])/\Xp a (Z w.1) (Z a.1) b o.3.2) \/
  (o.1≠0/\o=au o.1 o.2/\∃s,e=Rt (St #[Sa #[Si S6 0,X U 0 0],M9 s o.1 o.2])))
theorem nu{o:jg}{s:ByteArray}{c:I}(k:Sw (Z w.1) w v)(h:o=au c n)(a:c≠0)(b:t=n):zI w v o (Rt (St #[Sa #[H 0,Hq],.iface 165 (Sa #[Sg s,.iface 102 (Sa #[H c,H t])])])):=by
 subst h b;exact⟨k,aZ ⟨a,R,s,R⟩⟩
theorem Mn{b:Bd}{g:Ending}(h:sM w v n m t k B b g):∃d,g=Rt d/\Sw n w v/\((∃c l,b=.bad c l/\d=T2 c l)\/(∃a f,b=.ok ⟨a,S f⟩/\d=T2 8 ((B+1:N):I))\/∃a,b=.ok ⟨a,U⟩/\d=.nilIface/\TT ⟨a,U⟩<=100000/\∃i o j,Nq v n (.map (S m)) t k ⟨a,U⟩ i o j):=by
 let⟨e,h⟩:=h
 match b,h with
 |.bad c l,h=>exact⟨_,h,e,bC ⟨c,l,R,R⟩⟩
 |.ok ⟨a,S f⟩,h=>exact⟨_,h,e,aZ<|bC ⟨a,f,R,R⟩⟩
 |.ok ⟨a,U⟩,⟨h,h1,h2⟩=>exact⟨_,h,e,aZ<|aZ ⟨a,R,R,h1,h2⟩⟩
def ip(s:ByteArray)(c l:I):Uj:=St #[Sa #[Si S6 0,X U 0 0],.iface 165 (Sa #[Sg s,.iface 102 (Sa #[Si S6 c,Si S6 l])])]
theorem Jl(a2:Uy)(ac c bl ad:N)(a:Wn)(w:Ub)(hx:Q (ac=J a))(br:ac<=c)(hc:c<=9223372036854775807)(ha:Q (Yx w bl ad a2 a))(T:Q (ft w))(hB:ad<=Z w.1)(l:Q (Yy w))(m:Q (Yb w)):
 Sk prog 55 #[X a2 ac c] w λi w'=>zI w w' (C2 a) i:=by
 let⟨s,q⟩:∃s,D w (Sc #[H 0,Hq] 40)=s:=⟨_,R⟩;have C:Q (Sw (Z w.1) w s):=Y (by rw[<-q];exact Xb (Below.refl (Z w.1) w) _);have bv:Z w.1<Z s.1:=by rw[<-q,aO];omega
 have t:Q (∀W,Sw (Z s.1) s W->Sw (Z w.1) w W/\Z w.1<Z W.1/\E W (A (Z w.1) 0)=S (H 0)/\E W (A (Z w.1) 1)=S Hq/\∀L,W.frozen? (A (Z w.1) L)=Sn):=Y (λW K=>by
  have k2:=K.4;have kb:=K.5 (Z w.1) bv;exact⟨C.trans<|K.mono O,O,G (Xc kb) (by rw[<-q];simp),G (Xc kb) (by rw[<-q];simp),λL=>G (bJ kb) (by rw[<-q];simp)⟩)
 have a1:=Y<|IR hx br hc (Y<|ha.keep (C.mono hB)) (Y<|ft.keep T C) O
 go_in
 go_wp2_with fail
 clear q
 go_at_call 98
 refine a1.mono ?_;rintro i B⟨hq,Y_⟩;let⟨e,ca,r0,r1,rz⟩:=t B Y_;have O_:=Y e;have aj:=Y Y_;have F:=Y hq;clear e Y_ hq a1;by_cases v:100000<J a
 .have d:Q (C2 a=au 1 0):=Y (by unfold C2;rw[aU v]);rw[F.1 v];unfold T2;go_wp2
  all_goals
   refine cC (v:=ip ⟨#[116,101,120,116]⟩ 1 0) (by simp[ip,results,results55,go_sem, *]) R ?_;exact nu ((O_.setCell aA _).setCell aA _) d vY R
 by_cases j:a.getLast?≠S 10
 .have d:Q (C2 a=au 2 0):=Y (by unfold C2;rw[aM v,aU j]);rw[F.2.1 O j];unfold T2;clear j;go_wp2
  all_goals
   refine cC (v:=ip ⟨#[116,101,120,116]⟩ 2 0) (by simp[ip,results,results55,go_sem, *]) R ?_;exact nu ((O_.setCell aA _).setCell aA _) d vY R
 have U_:=Classical.not_not.1 j;have a8:0<J a:=by cases a with|nil=>simp at U_|cons cg cf=>simp
 obtain⟨p,L,rfl,⟨_,b1⟩,-⟩:=ha 0 a8;let⟨f,g,z⟩:∃f g,C3 a.dropLast 10=f::g:=by
  have:0<J (C3 a.dropLast 10):=by unfold C3;rw[l8];omega
  match hcs:C3 a.dropLast 10,this with
  |f::g,_=>exact⟨f,g,R⟩
 have a7:J f<=100000/\Tn g<=100000/\J g<=100000:=by
  have q1:Tn (C3 a.dropLast 10)<=_:=pT 10 a.dropLast [];have q2:J (C3 a.dropLast 10)=a.dropLast.count 10+1:=by unfold C3;rw[l8]
  have q3:=List.count_le_length (a:=(10:UInt8)) (l:=a.dropLast);have q4:Tn (f::g)=J f+Tn g:=by simp[Tn]
  rw[z]at q1 q2;rw[List.length_dropLast]at q1 q3;simp only[bO]at q1;rw[bA]at q2;omega
 let⟨h,ab⟩:∃h,J g=h:=⟨_,R⟩;have R_:=Y ab;have k:Q (C2 a=p8 (f::g) (nQ f)):=Y (by unfold C2 Fa;rw[aM v,aM j,z];rfl);rw[LG]at k;obtain⟨b',o',G_,K,ea,hg,hk,rfl,P⟩:=F.2.2 O U_;cases ea;rw[z,bA,ab]at hk;subst hk;rw[z]at P;obtain⟨v0,ce,o1,c1,rfl,aa,a6⟩:=P.2 0 sP;have bq:=P.1;have bi:=Y P;have b4:(1:I)<=(h:I)+1:=O;have b5:(0:I)<(h:I)+1:=O;have bf:=Y a7;have b3:h<=100000:=O;have a5:p<Z B.1:=O;have ap:=Y<|IN p o1 (J f) c1 f B (Y R) aa.1 aa.2 O (Y a6) (Y<|(T.keep C).keep aj) a5;clear z ab j P aa a6 F a7 a8 U_ ha hx;go_wp2_with fail
 go_at_call 99
 refine ap.mono ?_;rintro i w2⟨rfl,Z_⟩;have al:=Y<|Xg aj Z_;let⟨e,cb,s0,s1,sz⟩:=t w2 al;have P_:=Y e;have be:=Y Z_;clear Z_ e ap;cases hho:gn (C3 f 32)with
 |none=>
  have d:Q (C2 a=au 3 1):=Y (by rw[k.o,hho];rfl);unfold NV T2;clear k hho;go_wp2
  all_goals
   refine cC (v:=ip ⟨#[104,101,97,100,101,114]⟩ 3 1) (by simp[ip,results,results55,go_sem, *]) R ?_;exact nu ((P_.setCell aA _).setCell aA _) d vY R
 |some hf=>
  rw[hho]at k;dsimp only[Option.map]at k;dsimp only[NV];generalize (Bo hf:I)=V at*;let⟨u,H_⟩:∃u,dy g 1 ⟨[],U⟩=u:=⟨_,R⟩;have o:Q (C2 a=mi (h+1) V u):=Y (by rw[k.o,<-H_];show mi (J (f::g)) V _=_;rw[bA,R_.o];rfl);have E_:Q (∀c r,u=.bad c r->c≠0):=Y λc r i=>Ab g 1 ⟨[],U⟩ (G H_ i);have ar:=Y H_;clear H_ hho k;have a0:=Y (λ(b:Ub)(M:N)(T_:Uy)(k3:Sw (Z B.1) B b)(hM:M<Z b.1)(bt:b.ownsMap prog 9 fh M 15 (OQ 3))(bp:h=0\/T_=S (A G_ 1))=>
   have z3:=k3.4;have ka:=Xb (Below.refl (Z b.1) b) (Sc #[.map (S M),H V,Hq,Sb Sn] 171);have kx:=k3.trans<|ka.mono z3;have kw:=Xg O_ kx;have zz:=aO b<|.cells #[.map (S M),H V,Hq,Sb Sn] 171;have b6:=R_.o
   JA (Z b.1) M p T_ V (Z b.1+1) U 0 0 h u (D b<|.cells #[.map (S M),H V,Hq,Sb Sn] 171) (Y R_.symm) O (Y bf.2.1) (Y ⟨Rf,⟨⟨hM,bt.alloc _⟩,⟨oN l.1,l.keep kw l.1⟩,⟨oN m.1,m.keep kw m.1⟩,⟨oN T.1,T.keep kw⟩,O,λbb hi=>by
    obtain h0|rfl:=bp;·omega
    let⟨b0,hv,a9⟩:=bi.2 (bb+1) (by rw[bA];omega);rw[fO]at a9;exact⟨G_,1,b0,R,O,by rw[Nat.add_comm 1 bb];exact oB kx hv bq,a9.keep<|kx.5 p a5⟩⟩,⟨⟨sP,sP,sP,sP⟩,gw.start _ _ O,λL=>sP,⟨O,O⟩⟩,by simp[TT,Xx],by rw[List.drop_zero];exact ar⟩))
  go_wp2_with (first|(go_at_call 100;refine(I1 (Y<|l.keep P_ l.1) (Y<|m.keep P_ m.1)).mono ?_;rintro i b⟨rfl,I_,X_⟩;have bh:=Y X_;have bx:=X_.lt;have bc:=Y<|Xg be I_;have Q_:=Y<|Xg al I_;have b7:=I_.4;let⟨e,cc,u0,u1,uz⟩:=t b Q_;clear I_ e X_)|(go_at_call 101;refine(a0 b _ _ bc bx bh<|MG).mono ?_;generalize (if h=0 then S ((A G_ 0):Addr)else S (A G_ 1))=T_;intro i N_ hq;obtain⟨v5,rfl,x,a4⟩:=Mn hq;have D_:=Y a4;have n:=Y x;clear x a4 hq))
  have x:=(Xb (Below.refl (Z b.1) b) _).trans n;have ao:=Y<|Q_.trans (x.mono Q_.4);let⟨e,cd,t0,t1,tz⟩:=t N_ ao;have n:=Y e;clear e x ar a0;obtain⟨c,r,rfl,rfl⟩|⟨pre,pi,rfl,rfl⟩|⟨pre,rfl,rfl,ba,va5,vn5,vc5,hst5⟩:=D_.o
  .have d:Q (C2 a=au c r):=o;have HC:=Y<|E_.o c r R;unfold T2;clear D_ o E_;go_simp;go_wp2
   all_goals
    refine cC (v:=ip ⟨#[98,111,100,121]⟩ c r) (by simp[ip,results,results55,go_sem, *]) R ?_;exact nu ((n.setCell aA _).setCell aA _) d HC R
  .have d:Q (C2 a=au 8 (h+1)):=o;unfold T2;clear D_ o E_;go_simp;go_wp2
   all_goals
    refine cC (v:=ip ⟨#[98,111,100,121]⟩ 8 ((h+1:N):I)) (by simp[ip,results,results55,go_sem, *]) R ?_;exact nu ((n.setCell aA _).setCell aA _) d vY R
  clear D_;have S_:=Y hst5;have bm:=hst5.1.2;have bn:=hst5.1.3;have a3:Z b.1<Z N_.1:=oN hst5.4;have ba:J pre+Xx pre<=100000:=ba;clear hst5 E_;go_simp;go_wp2_with fail
  go_at_call 57
  refine(JK V va5 vn5 vc5 pre (Z b.1+1) (Z N_.1) N_ (Y S_.2.2.blks) (Y S_.2.1) (Y O) aA (Y (l.keep n l.1).old) (Y (m.keep n m.1).old)).mono ?_;rw[WY];rintro i w6⟨rfl,y⟩;have bd:=Y<|Xg ao y;let⟨e,b8,z0,z1,zz⟩:=t w6 bd;have af:=Y e;have aq:=Y y;have d1:=oB y bm a3;have d2:=oB y bn a3;clear y e;have az:Q (C2 a=if iu ⟨V,pre⟩=So then ⟨0,0,⟨V,pre⟩⟩else au 9 0):=Y o.o;clear o;cases hvd:iu ⟨V,pre⟩with
  |false=>
   have d:Q (C2 a=au 9 0):=Y (by rw[az.o,hvd];rfl);go_wp2
   all_goals
    refine cC (v:=ip ⟨#[102,117,110,99,116,105,111,110]⟩ 9 0) (by simp[ip,results,results55,go_sem, *]) R ?_;exact nu ((af.setCell aA _).setCell aA _) d vY R
  |true=>
   have d:Q (C2 a=⟨0,0,⟨V,pre⟩⟩):=Y (by rw[az.o,hvd];rfl);go_wp2;refine cC (v:=St #[Sa #[H V,X va5 vn5 vc5],.nilIface]) (by simp[results,results55,go_sem, *]) R ?_;let⟨e5,bo⟩:=S_.2;have s6:=aq.4;refine⟨(af.setCell (p:=A (Z w.1) 0) aA (H V)).setCell (p:=A (Z w.1) 1) aA (X va5 vn5 vc5),bC ?_⟩;rw[d.o];refine⟨R,R,va5,vc5,by rw[show vn5=J pre from e5],?_⟩;exact(bo.blks.keepS λp v j=>G (G (Below.heap_setCell _ _ _ _<|by dsimp only;omega) (Below.heap_setCell _ _ _ _<|by dsimp only;omega)) (aq.5 p j)).mono O (by rw[Xd,Xd];omega)
section
open Go.Extern.Stop Go.Stop Go.Extern
theorem MU:
 Sk prog 56 #[.nilIface,a] w λe b=>e=Rt (Sb Sn)/\b=w:=by
 go_in
 go_wp2;go_ret;exact⟨R,R⟩
theorem Qo(t:Addr)(w:Ub):(ReflectliteValue.unpack<|.iface 104 (Sj (S t))).run prog w
 = .ok (Sa #[Sj (S ⟨9,104,U⟩),Sj (S ⟨Z w.1,0,U⟩),Si .u64 150]) (D w<|.cells #[Sj (S t)] 104):=vZ
theorem Tryz.typeP(a : Addr)(w : Ub): (ReflectliteValue.methodAny (ReflectliteValue.valueError "reflectlite.Value.Type" 0) (λt _ _ _ => ReflectliteType.toType t) #[Sa #[Sj (S ⟨9, 104, U⟩), Sj (S a), Si .u64 150]]).run prog w
 = .ok (.iface 245 (Sa #[Ho 9 104])) w:=vZ
theorem Qp(w:Ub):((ReflectliteType.abiMethod λt=>(λa:N=>Si IntKind.u8 (a:I)) <$> Rtype.kind t) #[Ho 9 104]).run prog w=.ok (Si .u8 22) w:=vZ
theorem Qq(w:Ub):((ReflectliteType.abiMethod λt=>(λa:N=>Si IntKind.u8 (a:I)) <$> Rtype.kind t) #[Ho 9 102]).run prog w=.ok (Si .u8 25) w:=vZ
theorem ze(z:Sem Uj)(f:TypeId->Addr->N->N->Sem Uj):ReflectliteValue.method z f #[A_]=(ReflectliteValue.parts A_ >>= λq=>match q with|none=>z|some (t,a,fl)=>f t a fl<|fl%32):=R
theorem Qr(a:Addr)(w:Ub):(ReflectliteValue.parts<|.agg #[Ho 9 104,Sj (S a),Si .u64 150]).run prog w=.ok (S (104,a,150)) w:=vZ
theorem Qs(a p:Addr)(W:Ub)(ha:E W a=S (Sj (S p))):
 (ReflectliteValue.method (ReflectliteValue.valueError "reflectlite.Value.IsNil" 0) ReflectliteValue.isNil #[Sa #[Sj (S ⟨9, 104, U⟩), Sj (S a), Si .u64 150]]).run Tryz.prog W = .ok (Sb Sn) W := by
 rw[ze];simp only[lG,Qr,Result.andThen];simp[ReflectliteValue.isNil,loadVar,isAgg,underlying,underlying104,ha,Result.andThen]
theorem Qt(w:Ub):(ReflectliteType.method ReflectliteType.elem #[Sa #[Ho 9 104]]).run prog w=.ok (.iface 245 (Sa #[Ho 9 102])) w:=vZ
theorem Tryz.implementsL(w : Ub): (ReflectliteType.relation "Implements" ReflectliteType.implements_ #[Sa #[Sj (S ⟨9, 102, U⟩)], .iface 245 (Sa #[Sj (S ⟨9, 98, U⟩)])]).run prog w = .ok (Sb So) w := by kernel_rfl
theorem Qu(v:Uj)(w:Ub):(ReflectliteType.typeOf #[.iface 102 v]).run prog w=.ok (.iface 245 (Sa #[Ho 9 102])) w:=vZ
theorem Qv(v:Uj)(w:Ub):(ReflectliteType.typeOf #[.iface 165 v]).run prog w=.ok (.iface 245 (Sa #[Ho 9 165])) w:=vZ
theorem Tryz.assignL(w : Ub): (ReflectliteType.relation "AssignableTo" ReflectliteType.assignableTo #[Sa #[Sj (S ⟨9, 102, U⟩)], .iface 245 (Sa #[Sj (S ⟨9, 102, U⟩)])]).run prog w = .ok (Sb So) w := by kernel_rfl
theorem Tryz.assignF(w : Ub): (ReflectliteType.relation "AssignableTo" ReflectliteType.assignableTo #[Sa #[Sj (S ⟨9, 165, U⟩)], .iface 245 (Sa #[Sj (S ⟨9, 102, U⟩)])]).run prog w = .ok (Sb Sn) w := by kernel_rfl
theorem Qw(c l:Uj)(w:Ub):(ReflectliteValue.unpack<|.iface 102 (Sa #[c,l])).run prog w
 = .ok (Sa #[Sj (S ⟨9,102,U⟩),Sj (S ⟨Z w.1,0,U⟩),Si .u64 153]) (D w<|.cells #[c,l] 102):=vZ
theorem Qx(w:Ub):(Rtype.elem? 104).run prog w=.ok (S 102) w:=vZ
theorem Qy(p:Addr)(w:Ub):(ReflectliteValue.mk 102 p ReflectliteValue.flagAddr).run prog w=.ok (Sa #[Ho 9 102,Sj (S p),Si .u64 409]) w:=vZ
theorem Qz(a p:Addr)(W:Ub)(ha:E W a=S (Sj (S p))):
 (ReflectliteValue.method (ReflectliteValue.valueError "reflectlite.Value.Elem" 0) ReflectliteValue.elem #[Sa #[Sj (S ⟨9, 104, U⟩), Sj (S a), Si .u64 150]]).run Tryz.prog W
  = .ok (Sa #[Ho 9 102,Sj (S p),Si .u64 409]) W:=by
 rw[ze];simp only[lG,Qr,Result.andThen];simp[ReflectliteValue.elem,loadVar,isAgg,underlying,underlying104,ha,Result.andThen,Qx,Qy]
end
section
open Go.Extern.Stop Go.Stop Go.Extern
theorem Tryz.methodKind(h : Uj)(w : Ub): (Go.method 521 245 (Sa #[h]) "Elem").run prog w = .ok (300, Sa #[h]) w := by kernel_rfl
theorem Tryz.methodImplements(h : Uj)(w : Ub): (Go.method 521 245 (Sa #[h]) "Implements").run prog w = .ok (301, Sa #[h]) w := by kernel_rfl
theorem Tryz.methodAssignableTo(h : Uj)(w : Ub): (Go.method 521 245 (Sa #[h]) "AssignableTo").run prog w = .ok (298, Sa #[h]) w := by kernel_rfl
theorem Tryz.methodUnwrap(s c : Uj)(w : Ub): (Go.method 521 165 (Sa #[s, c]) "Unwrap").run prog w = .ok (289, Sa #[s, c]) w := by kernel_rfl
theorem Q1(s c:Uj)(w:Ub):(Instr.typeAssert (.iface 165 (Sa #[s,c])) 98 250 So).run prog w=.ok (St #[.nilIface,Sb Sn]) w:=run_typeAssert_lacksB underlying250 vZ vZ ..
theorem Q2(s c:Uj)(w:Ub):(Instr.typeAssert (.iface 165 (Sa #[s,c])) 98 253 So).run prog w=.ok (St #[.iface 165 (Sa #[s,c]),Sb So]) w:=vZ
theorem Q3(a:Addr)(w:Ub):(ReflectliteValue.parts<|.agg #[Ho 9 102,Sj (S a),Si .u64 409]).run prog w=.ok (S (102,a,409)) w:=vZ
theorem Q4(a:Addr)(w:Ub):(ReflectliteValue.parts<|.agg #[Ho 9 102,Sj (S a),Si .u64 153]).run prog w=.ok (S (102,a,153)) w:=vZ
theorem Q5(w:Ub):(Rtype.directlyAssignable 102 102).run prog w=.ok So w:=vZ
end
section
open Go.Extern.Stop Go.Stop Go.Extern
theorem Q6(T b:N)(c l:I)(k d:Uj)(W:Ub)(g:E W ⟨b,0,U⟩=S (Si S6 c))(h:E W ⟨b,1,U⟩=S (Si S6 l))(i:E W ⟨T,0,U⟩=S k)(j:E W ⟨T,1,U⟩=S d)(a:∀o,W.frozen? ⟨T,o,U⟩=Sn):
 (ReflectliteValue.set #[Sa #[Sj (S ⟨9,102,U⟩),Sj (S ⟨T,0,U⟩),Si .u64 409],Sa #[Sj (S ⟨9,102,U⟩),Sj (S ⟨b,0,U⟩),Si .u64 153]]).run prog W
  = .ok (St #[]) (Se (Se W ⟨T,0,U⟩ (Si S6 c)) ⟨T,1,U⟩ (Si S6 l)):=by
 have e:E (Se W (A T 0) (H c)) (A T 1)=S d:=by
  exact G (cJ sP) j
 have f:(Se W (A T 0) (H c)).frozen? (A T 1)=Sn:=by
  simp[a]
 delta ReflectliteValue.set
 delta ReflectliteValue.set.match_3
 rw[dif_pos<|by rfl];simp only[Array.getLit,List.getElem_toArray,eM,fO];simp only[lG,Q3,Q4,Result.andThen];simp[ReflectliteValue.flagAddr,loadVar,loadCells,loadCellsFrom,g,h,Result.andThen,Q5,storeVar,Value.cells,storeCells,Addr.add];rw[run_store prog W (A T 0) _ _ (by rfl)];simp[i,a];rw[run_store prog _ (A T 1) _ _ (by rfl)];simp[e,f]
theorem Tryz.methodKindP(h : Uj)(w : Ub): (Go.method 521 245 (Sa #[h]) "Kind").run prog w = .ok (279, h) w := by kernel_rfl
theorem I8(s c:Uj)(w:Ub):Sk prog 289 #[Sa #[s,c]] w λe a=>e=Rt c/\a=D w (Sc #[s,c] 165):=by
 go_in
 go_wp2;go_ret;exact⟨R,R⟩
def PT(w:Ub)(T:N)(s:Uj)(c l:I):Ub :=
 Se (Se (D (D (D (D (D w<|.cells #[Sj (S ⟨T,0,U⟩)] 104) (Sc #[Sj (S ⟨9,104,U⟩),Sj (S ⟨Z w.1,0,U⟩),Si .u64 150] 176)) (Sc #[Sj (S ⟨9,104,U⟩),Sj (S ⟨Z w.1,0,U⟩),Si .u64 150] 176)) (Sc #[s,.iface 102 (Sa #[Si S6 c,Si S6 l])] 165)) (Sc #[Si S6 c,Si S6 l] 102)) ⟨T,0,U⟩ (Si S6 c)) ⟨T,1,U⟩ (Si S6 l)
theorem MT{T:N}(s:Uj)(c l:I){o1 o2:Uj}{w:Ub}(hg:E w (A 2 0)=S (.iface 245 (Sa #[Ho 9 98])))(ht0:E w (A T 0)=S o1)(ht1:E w (A T 1)=S o2)(hf0:∀o,w.frozen? (A T o)=Sn):
 Sk prog 56 #[.iface 165 (Sa #[s,.iface 102 (Sa #[H c,H l])]),.iface 104 (Hn T)] w λev w'=>ev=Rt (Sb So)/\w'=PT w T s c l:=by
 have x0:=@run_callFunc_extern prog 102 _ (λargs=>ReflectliteValue.unpack<|args.getD 0 (St #[])) func102 vZ vZ vZ vZ;have x1 := @run_callFunc_extern Tryz.prog 103 _ (ReflectliteValue.methodAny (ReflectliteValue.valueError "reflectlite.Value.Type" 0) λt _ _ _ => ReflectliteType.toType t) Tryz.func103 (by kernel_rfl) (by kernel_rfl) (by kernel_rfl) (by kernel_rfl);have x2 := @run_callFunc_extern Tryz.prog 104 _ (ReflectliteValue.method (ReflectliteValue.valueError "reflectlite.Value.IsNil" 0) ReflectliteValue.isNil) Tryz.func104 (by kernel_rfl) (by kernel_rfl) (by kernel_rfl) (by kernel_rfl);have x3:=@run_callFunc_extern prog 279 _ (ReflectliteType.abiMethod λt=>do pure (Si .u8 (<-Rtype.kind t))) func279 vZ vZ vZ vZ;have x4:=@run_callFunc_extern prog 300 _ (ReflectliteType.method ReflectliteType.elem) func300 vZ vZ vZ vZ;have x5 := @run_callFunc_extern Tryz.prog 301 _ (ReflectliteType.relation "Implements" ReflectliteType.implements_) Tryz.func301 (by kernel_rfl) (by kernel_rfl) (by kernel_rfl) (by kernel_rfl);have x6:=@run_callFunc_extern prog 155 _ ReflectliteType.typeOf func155 vZ vZ vZ vZ;have x7 := @run_callFunc_extern Tryz.prog 298 _ (ReflectliteType.relation "AssignableTo" ReflectliteType.assignableTo) Tryz.func298 (by kernel_rfl) (by kernel_rfl) (by kernel_rfl) (by kernel_rfl);have x8 := @run_callFunc_extern Tryz.prog 156 _ (ReflectliteValue.method (ReflectliteValue.valueError "reflectlite.Value.Elem" 0) ReflectliteValue.elem) Tryz.func156 (by kernel_rfl) (by kernel_rfl) (by kernel_rfl) (by kernel_rfl)
 have x9:=@run_callFunc_extern prog 157 _ ReflectliteValue.set func157 vZ vZ vZ vZ;have y0:=Qu;have y1:=Qv;have y2:=Tryz.methodAssignableTo;have y3:=Tryz.assignL;have y4:=Tryz.assignF;have y5:=Qw;have y6:=Qo;have y7:=Tryz.typeP;have y8:=Tryz.methodKindP;have y9:=Tryz.methodKind;have y10:=Tryz.methodImplements;have y11:=Qp;have y12:=Qq;have y13:=Qt;have y14:=Tryz.implementsL;have y15:=Q1;have y16:=Q2;have y17:=Tryz.methodUnwrap;have hlt:2 < Z w.1:=aI w _ hg;have htl:T<Z w.1:=aI w _ ht0;have hg2:E (D (D w<|.cells #[Hn T] 104) (Sc #[Ho 9 104,Hn (Z w.1),Si .u64 150] 176)) (A 2 0)=S (.iface 245 (Sa #[Ho 9 98])):=by
  rw[bP _ _ (A 2 0) (by simp only[aO];omega),bP _ _ (A 2 0) hlt];exact hg
 have n8:=Qs (A (Z w.1) 0) (A T 0) (D (D w<|.cells #[Hn T] 104) (Sc #[Ho 9 104,Hn (Z w.1),Si .u64 150] 176)) sP;have b4:Sw (Z w.1) w (D (D (D (D w<|.cells #[Hn T] 104) (Sc #[Ho 9 104,Hn (Z w.1),Si .u64 150] 176)) (Sc #[Ho 9 104,Hn (Z w.1),Si .u64 150] 176)) (Sc #[s,.iface 102 (Sa #[H c,H l])] 165)):=Xb (Xb (Xb (Xb Rf _) _) _) _;have b5:Sw (Z w.1) w (D (D (D (D (D w<|.cells #[Hn T] 104) (Sc #[Ho 9 104,Hn (Z w.1),Si .u64 150] 176)) (Sc #[Ho 9 104,Hn (Z w.1),Si .u64 150] 176)) (Sc #[s,.iface 102 (Sa #[H c,H l])] 165)) (Sc #[H c,H l] 102)):=Xb b4 _;have el:=Qz (A (Z w.1) 0) (A T 0) (D (D (D (D w<|.cells #[Hn T] 104) (Sc #[Ho 9 104,Hn (Z w.1),Si .u64 150] 176)) (Sc #[Ho 9 104,Hn (Z w.1),Si .u64 150] 176)) (Sc #[s,.iface 102 (Sa #[H c,H l])] 165)) (by rw[bP _ _ (A (Z w.1) 0) SB,bP _ _ (A (Z w.1) 0) SB];simp);have st:=Q6 T (Z w.1+1+1+1+1) c l o1 o2 (D (D (D (D (D w<|.cells #[Hn T] 104) (Sc #[Ho 9 104,Hn (Z w.1),Si .u64 150] 176)) (Sc #[Ho 9 104,Hn (Z w.1),Si .u64 150] 176)) (Sc #[s,.iface 102 (Sa #[H c,H l])] 165)) (Sc #[H c,H l] 102))
  (by rw[World.cell?_alloc_at _ _ _ _ sP];rfl) (by rw[World.cell?_alloc_at _ _ _ _ sP];rfl)
  (oB b5 ht0 htl) (oB b5 ht1 htl) λo=>G (bJ<|b5.5 T htl) (hf0 o)
 go_in
 go_wp2;refine wp_loop_rounds 2 ?_;rw[rounds_succ];go_wp2;rw[rounds_succ];go_wp2;go_ret;exact⟨R,R⟩
end
def ErrT(w:Ub):Prop:=E w ⟨2,0,U⟩=S (.iface 245 (Sa #[Sj (S ⟨9,98,U⟩)]))
theorem ErrT.keep{w':Ub}(h:ErrT w)(k:Sw (Z w.1) w w'):ErrT w':=G (k.cell<|aI w _ h) h
theorem Ly{c:I}(h:Sw (Z w.1) w v)(b:Z w.1<=n):Sw (Z w.1) w (PT v n a c t) :=
 (((((((h.alloc h.4 _).alloc (by have:=h.4;simp only[aO];omega) _).alloc (by have:=h.4;simp only[aO];omega) _).alloc (by have:=h.4;simp only[aO];omega) _).alloc (by have:=h.4;simp only[aO];omega) _).setCell b _).setCell b _)
theorem LE{T:N}{c:I}{o1 o2:Uj}(h:v=PT w T a c t)(d:E w (A T 0)=S o1)(i:E w (A T 1)=S o2):
 E v (A T 0)=S (H c)/\E v (A T 1)=S (H t)/\(∀b,b<Z w.1->b≠T->v.1[b]?=w.1[b]?)/\Z w.1<=Z v.1:=by
 have e:=aI w _ d;subst h;unfold PT;generalize j:D (D (D (D (D w<|.cells #[Hn T] 104) (Sc #[Ho 9 104,Hn (Z w.1),Si .u64 150] 176)) (Sc #[Ho 9 104,Hn (Z w.1),Si .u64 150] 176)) (Sc #[a,.iface 102 (Sa #[H c,H t])] 165)) (Sc #[H c,H t] 102)=W;have k:Sw (Z w.1) w W:=by rw[<-j];exact Xb (Xb (Xb (Xb (Xb Rf _) _) _) _) _
 have g:=oB k d e;have e1:=oB k i e;have e2:E (Se W (A T 0) (H c)) (A T 1)=S o2:=G (cJ sP) e1;refine⟨?_,fQ _ _ _ e2,λb l f=>?_,by rw[Xd,Xd];exact k.4⟩;·exact G (cJ sP) (fQ _ _ _ g)
 exact G (Below.heap_setCell _ _ _ _ f) (G (Below.heap_setCell _ _ _ _ f) (k.5 b l))
theorem Lp{t:Wn}(P_:Q (n=J t))(aa:n<=c)(Z_:c<=9223372036854775807)(ha:Q (Yx w m k p t))(M_:Q (ft w))(Y_:k<=Z w.1)(C:Q (Yy w))(x:Q (Yb w))(q:Q (ErrT w)):
 Sk prog 25 #[X p n c] w λe u=>∃val,e=Rt val/\Sw (Z w.1) w u/\nN u (Z w.1) (Z u.1) val (C2 t):=by
 have g:=Xb (Below.refl (Z w.1) w) (Sc #[H 0,H 0,H 0,Hq] 42);have ac:Z (D w<|.cells #[H 0,H 0,H 0,Hq] 42).1=Z w.1+1:=aO _ _;have v:=Y<|Jl p n c m k t (D w<|.cells #[H 0,H 0,H 0,Hq] 42) P_ aa Z_ (Y<|ha.keep (g.mono Y_)) (Y<|ft.keep M_ g) O (Y<|C.keep g C.1) (Y<|x.keep g x.1);have L_:Q (∀W,Sw (Z (D w<|.cells #[H 0,H 0,H 0,Hq] 42).1) (D w<|.cells #[H 0,H 0,H 0,Hq] 42) W->Sw (Z w.1) w W/\Z w.1<Z W.1/\E W (A (Z w.1) 0)=S (H 0)/\E W (A (Z w.1) 1)=S (H 0)/\E W (A (Z w.1) 2)=S (H 0)/\E W (A (Z w.1) 3)=S Hq/\(∀o,W.frozen? (A (Z w.1) o)=Sn)/\ErrT W):=Y (λW F=>by
  have k2:=F.4;have b:=F.5 (Z w.1) O;have a:=g.trans<|F.mono O;exact⟨a,O,G (Xc b) sP,G (Xc b) sP,G (Xc b) sP,G (Xc b) sP,λo=>G (bJ b) sP,ErrT.keep q a⟩)
 clear P_ ha M_ C x q g;generalize C2 t=o at*;by_cases K:o.1=0
 .have y:Q (Sk prog 55 #[X p n c] (D w<|.cells #[H 0,H 0,H 0,Hq] 42) λe d=>∃f j,e=Rt (St #[Sa #[H o.3.1,X f (J o.3.2) j],.nilIface])/\Sw (Z (D w<|.cells #[H 0,H 0,H 0,Hq] 42).1) (D w<|.cells #[H 0,H 0,H 0,Hq] 42) d/\Q (o.2=0/\Xp d (Z (D w<|.cells #[H 0,H 0,H 0,Hq] 42).1) (Z d.1) f o.3.2)):=Y (v.mono (λe d z=>by
   obtain⟨a,⟨_,i,f,j,l,B⟩|⟨h,_⟩⟩:=z;·exact⟨f,j,l,a,⟨i,B⟩⟩
   exact Sz K h))
  clear v
  go_in
  go_wp2_with (go_at_call 55;refine y.mono ?_;rintro e d⟨f,j,rfl,r,N_⟩;let⟨a,O_,L,M,P,V,rz,_⟩:=L_ d r;have x_:=Y a;clear r a)
  go_wp2_with (go_at_call 56;refine(MU).mono ?_;rintro e w2⟨rfl,rfl⟩)
  go_wp2;refine cC (v:=Sa #[H 0,H 0,H o.3.1,X f (J o.3.2) j]) (by simp[results,results25,go_sem, *]) R ?_;refine⟨_,R,?_,f,j,?_,?_⟩;·exact Xb (Xb (x_.setCell aA _ |>.setCell aA _ |>.setCell aA _ |>.setCell aA _) _) _
  .rw[K,N_.1];rfl
  refine(N_.2.keepS λab h i=>?_).mono O ?_;·rw[Below.heap_alloc _ _ _ SB,Below.heap_alloc _ _ _ SB,Below.heap_setCell _ _ _ _ SG,Below.heap_setCell _ _ _ _ SG,Below.heap_setCell _ _ _ _ SG,Below.heap_setCell _ _ _ _<|by dsimp only;omega]
  simp;omega
 have y:Q (Sk prog 55 #[X p n c] (D w<|.cells #[H 0,H 0,H 0,Hq] 42) λe d=>∃s,e=Rt (St #[Sa #[H 0,Hq],.iface 165 (Sa #[Sg s,.iface 102 (Sa #[H o.1,H o.2])])])/\Sw (Z (D w<|.cells #[H 0,H 0,H 0,Hq] 42).1) (D w<|.cells #[H 0,H 0,H 0,Hq] 42) d/\Q (o=au o.1 o.2)):=Y (v.mono (λe d z=>by
  obtain⟨a,⟨h,_⟩|⟨_,i,s,l⟩⟩:=z;·exact Sz h K
  exact⟨s,l,a,i⟩))
 clear v;have S_:Q (∀(W:Ub)(T:N)(s:ByteArray),ErrT W->E W (A T 0)=S (H 0)->E W (A T 1)=S (H 0)->(∀Q_,W.frozen? (A T Q_)=Sn)->Sk prog 56 #[.iface 165 (Sa #[Sg s,.iface 102 (Sa #[H o.1,H o.2])]),.iface 104 (Hn T)] W λX_ u=>X_=Rt (Sb So)/\u=PT W T (Sg s) o.1 o.2):=Y λW T s h i l B=>MT (Sg s) o.1 o.2 h i l B
 go_in
 go_wp2_with (go_at_call 55;refine y.mono ?_;rintro e d⟨s,rfl,r,K_⟩;let⟨a,O_,L,M,P,V,rz,q⟩:=L_ d r;have x_:=Y a;have V_:=Y q;clear r a q)
 go_wp2_with (go_at_call 56;refine(S_ _ _ _ (ErrT.keep V_<|Xb (Xb Rf _) _) sP sP λQ_=>sP).mono ?_;rintro e R_⟨rfl,E_⟩;let⟨f0,f1,f2,f3⟩:=LE (T:=Z d.1+1) (o1:=H 0) (o2:=H 0) E_ sP sP;have b:=G (f2 (Z w.1) SB O) (G (Below.heap_alloc _ _ _<|by simp;omega) (Below.heap_alloc _ _ _ O_));have s0:=G (Xc b) L;have s1:=G (Xc b) M;have s2:=G (Xc b) P;have s3:=G (Xc b) V;have sz:=λo=>G (bJ (a:=(A (Z w.1) o)) b) (rz o);(have U_:Q (Sw (Z w.1) w R_):=Y<|by rw[E_];exact Ly (Xb (Xb x_ _) _) O);have ad:Z w.1<Z R_.1:=(by simp at f3;omega);clear E_ b f2 f3 L M P V rz)
 refine cC (v:=Sa #[H o.1,H o.2,H 0,Hq]) (by simp[results,results25,go_sem, *]) R ?_;refine⟨_,R,?_,U,0,?_,?_⟩;·exact(U_.setCell aA _ |>.setCell aA _ |>.setCell aA _ |>.setCell aA _)
 .rw[K_.o];rfl
 rw[K_.o];exact λaf hi=>Sz hi<|by simp[au]
end Go.Proofs.YtnggdhnpjfigjaaGreatDoor
