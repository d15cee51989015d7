import Derived.Test.YtnggdhnpjfigjaaGreatDoorSS2
import Derived.Test.YtnggdhnpjfigjaaGreatDoorMV0
import Derived.Shelf.Bytes.SlSplit
import Derived.Ground.SlbSplitProg
import Derived.Lib.SplitLaws
import Derived.Laws.BytesArg
import Derived.Shelf.Bytes.SlSmallAll
import Derived.Maps.Views
import Derived.Maps.OwnOps
namespace Go.Proofs.YtnggdhnpjfigjaaGreatDoor
set_option maxHeartbeats 2000000
set_option maxRecDepth 100000
open _root_ renaming Array.size->Z,List.length->J,Nat->N,Int->I,rfl->R,Option.some->S,Bool.true->So,Bool.false->Sn,Option.none->U,absurd->Sz,List.range->Rg
open Go renaming World.cell?->E,Ending.returned->Rt,RowKit.Below->Sw,Calls->Sk,World.alloc->D,IntKind.i64->S6,Obj.cells->Sc,World.ownsRow->Sx,World.setCell->Se
open Value renaming int->Si,bool->Sb,slice->X,tuple->St,agg->Sa,string->Sg
open Go.RowKit Go.Proofs.Tryz Go.Shelf
variable{t:I}{n m k B g i j c:N}{w:Ub}{a:Uj}{p P:Uy}{h:Vu}{y:Wo}
theorem Ks(c:I)(w:Ub):
 Sk prog 186 #[Si .u8 c] w λe d=>e=Rt (Sb (decide (c<33)||decide (126<c)))/\d=w:=by
 by_cases a:c<33
 .go_in
  go_wp2;go_ret;exact⟨Xl (by simp[a]),R⟩
 by_cases b:126<c
 .go_in
  go_wp2;go_ret;exact⟨Xl sP,R⟩
 go_in
 go_wp2;go_ret;exact⟨Xl (by simp[a,b]),R⟩
theorem IZ(c:N){f:Wn}(t:Q (k=J f))(L:k<=1000000)(ha:Q (∀j (s:j<J f),E w (A n<|m+j)=S (Si .u8 (f[j].toNat:I))))(z:n<Z w.1):
 Sk prog 213 #[Hm n m k c,.func (.func 186) #[] #[]] w λh K=>(∃u:I,h=Rt (H u)/\(decide (0<=u)=!(f.all cB)))/\Sw (Z w.1) w K:=by
 go_in
 go_wp2
 go_loopw [8] (λl wr=>∃a:N,a<=k/\l=H a/\Q (Sw (Z w.1) w wr)/\Q ((f.take a).all cB=So)) λl _=>k-(intOf l).toNat
 case atStart=>exact⟨0,aN,R,Y<|Rf,Y R⟩
 obtain⟨a,C,rfl,d,p⟩:=hrel;by_cases M:a<k
 .have i:a<J f:=oN t.o
  have B:=oB d (ha a i) z;have y:Q ((f.take<|a+1).all cB=((f.take a).all cB&&cB f[a])):=Y (by rw[bN i,List.all_append];simp);have q:Q ((decide ((f[a].toNat:I)<33)||decide (126<(f[a].toNat:I)))=!cB f[a]):=Y (by
   unfold cB;by_cases q1:33<=f[a].toNat<;>by_cases q2:f[a].toNat<=126<;>simp[q1,q2]<;>omega)
  have x:Q (cB f[a]=Sn->f.all cB=Sn):=Y (λs=>by
   rw[lZ];exact⟨f[a],aH i,by rw[s];simp⟩)
  have r:=Y<|Ks (f[a].toNat:I) wr;generalize (f[a].toNat:I)=F at*;cases hq:cB f[a]with
  |false=>
   have g:=Y<|x.o hq;have e:Q ((decide (F<33)||decide (126<F))=So):=Y (by rw[q.o,hq];rfl);go_wp2_with (go_at_call 186;refine r.mono ?_;rintro h o⟨rfl,b⟩;rw[b,e.o];clear b o)
   go_ret;exact⟨⟨_,R,by rw[g.o];simp⟩,d⟩
  |true=>
   have v:Q ((f.take<|a+1).all cB=So):=Y (by rw[y.o,p.o,hq];rfl);have e:Q ((decide (F<33)||decide (126<F))=Sn):=Y (by rw[q.o,hq];rfl);go_wp2_with (go_at_call 186;refine r.mono ?_;rintro h o⟨rfl,b⟩;rw[b,e.o];clear b o)
   exact⟨⟨a+1,O,gM,d,v⟩,SA⟩
 have g:=Y (by have:=p.o;rwa[aW<|oN t.o]at this);go_wp2;go_ret;exact⟨⟨_,R,by rw[g.o];rfl⟩,d⟩
theorem IF(o:N)(c:N)(f:Wn)(l:Q (m=J f))(k:m<=1000000)(ha:Q (∀j (q:j<J f),E w (A n<|o+j)=S (Si .u8 (f[j].toNat:I))))(i:n<Z w.1):
 Sk prog 185 #[Hm n o m c,.func (.func 186) #[] #[]] w λe p=>e=Rt (Sb (!(f.all cB)))/\Sw (Z w.1) w p:=by
 have g:=Y<|IZ c l k ha i
 go_in
 go_wp2_with (go_at_call 213;refine g.mono ?_;rintro e s⟨⟨r,rfl,b⟩,a⟩;have h:=Y b;have d:=Y a;clear b a)
 go_ret;exact⟨Xl h,d⟩
shelf_lay SlLaysP.n7 Slp 7 at Tryz as laysSP
def ft(w:Ub):Prop:=5 < Z w.1/\∃m,E w ⟨5,0,U⟩=S (Si S6 m)
def kg(w:Ub)(b g:N)(a:Vw):Prop:=g<Z w.1/\∀i (h:i<J a),∃v,E w ⟨g,i,U⟩=S v/\mf w b v a[i]
theorem l8(s:UInt8):∀(l a:Wn),J (am s a l)=l.count s+1
 |[],a=>by simp[am]
 |c::r,a=>by
  rw[am];split;·rename_i h;subst h;rw[bA,l8 c r,List.count_cons_self]
  rename_i h;rw[l8 s r,List.count_cons_of_ne h]
theorem mf.keep{w':Ub}{f:Wn}(h:mf w n a f)(k:w'.1[n]?=w.1[n]?):mf w' n a f:=by
 obtain⟨o,c,e,b,d⟩:=h;exact⟨o,c,e,b,λj g=>G (Xc k) (d j g)⟩
theorem zo(s:UInt8)(b o n:N){b2:N}(a:Wn)(g:n=J a)(u:n<=c)(r:c<=9223372036854775807)(B:n<=1000000)(ha:∀i (h:i<J a),E w (A b<|o+i)=S (Si .u8 (a[i].toNat:I)))(p:E w (A b2 0)=S (Si .u8 (s.toNat:I)))(f:ft w)(q:b<Z w.1):
 Sk prog 151 #[Hm b o n c,Hl b2 1 1] w λl j=>∃k,k=J (C3 a s)/\l=Rt (Hl (Z w.1) k k)/\Sw (Z w.1) w j/\kg j b (Z w.1) (C3 a s):=by
 obtain⟨_,v,f⟩:=f;have hq:∀(m:Wn),∀x∈m.map λx=>(x.toNat:Int),0<=x/\x<256:=λm x g=>by
  obtain⟨z,-,rfl⟩:=aY.1 g;have:=z.toNat_lt;omega
 have h:=Any.bytes_Split laysSP ⟨b,o,U⟩ ⟨b2,0,U⟩ n c 1 1 (a.map λx=>(x.toNat:I)) [(s.toNat:I)] v w (by simp[g]) R (hq a) (hq [s]) (λi e=>by
  have d:i<J a:=O;rw[mK,ha i d];simp[List.getD,d]) (λi e=>by
  have:i=0:=O;subst this;exact p) u O vY r aA f
 have e1:Lib.bytesOf [(s.toNat:I)]=[s]:=oG [s];rw[oG,e1]at h;obtain⟨q1,q2⟩:=Jg w b s (Lib.count a [s]) o c a R ⟨O,O⟩ ha;have t:Lib.count a [s]+1=J (C3 a s):=by
  unfold C3;rw[l8,Lib.count_one]
 refine h.mono ?_;rintro l j⟨rfl,y,rfl⟩;refine⟨_,t,R,?_,?_,λi e=>?_⟩;·exact iX (Xb Rf _) y
 .show (Z w.1)<Z (w.1.push _);simp
 have d:i<J (Lib.splitV [s] 0 (Lib.count a [s]) ⟨b,o,U⟩ c a):=by rw[q1];exact e
 refine⟨_,?_,(q2 i e d).keep (Below.heap_alloc w _ b q)⟩;show E (D w _) ⟨Z w.1,i,U⟩=_;rw[cell_of_row _ (Z w.1) i _ _ _<|heap_alloc_new w _];simp[d]
def su(d:N)(c:Ub)(b:N)(a:Vw)(e:Ending):Prop:=(a.all Y3=So->∃g k,d<=g/\k=J a/\e=Rt (St #[X (S ⟨g,0,U⟩) k k,Sb So])/\kg c b g a)/\(a.all Y3=Sn->e=Rt (St #[X U 0 0,Sb Sn]))
theorem yN{a:Vw}(h:a.all Y3=Sn):su n w m a (Rt (St #[Hq,Sb Sn])):=⟨λq=>Sz (G h.symm q) vY,λ_=>R⟩
theorem Jz{a:Vw}(h:a.all Y3=So)(b:n<=k)(c:B=J a)(d:kg w m k a):su n w m a (Rt (St #[Hl k B B,Sb So])):=⟨λ_=>⟨k,B,b,c,R,d⟩,λq=>Sz (G h.symm q) vY⟩
theorem ny(w:Ub)(o:Obj):Z (D w o).1=Z w.1+1:=Array.size_push ..
theorem yA{d:Wn}(B:Q (k=J d))(ab:k<=c)(X_:c<=9223372036854775807)(hn:k<=1000000)(ha:Q (∀i (h:i<J d),E w (A n<|m+i)=S (Si .u8 (d[i].toNat:I))))(z:Q (ft w))(q:n<Z w.1):
 Sk prog 152 #[Hm n m k c] w λl s=>Sw (Z w.1) w s/\su (Z w.1) s n (C3 d 32) l:=by
 have F:Q (∀(f:Ub)(b2:N),Sw (Z w.1) w f->E f (A b2 0)=S (Si .u8 ((32:UInt8).toNat:I))->Sk prog 151 #[Hm n m k c,Hl b2 1 1] f λl s=>∃a,a=J (C3 d 32)/\l=Rt (Hl (Z f.1) a a)/\Sw (Z f.1) f s/\kg s n (Z f.1) (C3 d 32)):=Y (λf b2 u W_=>
  zo 32 n m k d B ab X_ hn (λi h=>oB u (ha i h) q) W_ ⟨aX z.1 u.4,by
   let⟨ad,h⟩:=z.2;exact⟨ad,oB u h z.1⟩⟩ (aX q u.4))
 have R_:Q (J (C3 d 32)<=1000001):=Y (by have:=oK 32 d [];have:=B.o;unfold C3;omega);have S_:Q (∀g∈C3 d 32,J g<=1000000):=Y (λg Z_=>by have:=kh 32 d [] g Z_;simp only[bO]at this;have:=B.o;omega);generalize C3 d 32=b at*
 go_in
 go_wp2_with (go_at_call 151;refine(F _ _ (Xb Rf _) (by rw[cell_of_row _ (Z w.1) 0 _ _ _<|heap_alloc_new w _];rfl)).mono ?_;rintro l P⟨K,hK,rfl,L,T⟩;have t:=Y hK;have j:=Y T;have V:=Y<|(Xb (Below.refl (Z w.1) w) _).trans (L.mono (Xb Rf _).4);clear hK T L)
 have M:Z (D w<|Obj.cells #[Si IntKind.u8 32] 5).1=Z w.1+1:=ny w _;rw[M]at j;clear M;have hg:Z w.1<=Z w.1+1:=gX;have af:K<=1000001:=oP t.o R_.o;have C:=V.4;clear F;generalize Z w.1+1=W at*
 go_loopw [12] (λi wr=>∃a:N,a<=K/\i=H a/\Q (Sw (Z P.1) P wr)/\Q ((b.take a).all Y3=So)) λi _=>K-(intOf i).toNat
 case atStart=>exact⟨0,aN,R,Y<|Rf,Y R⟩
 obtain⟨a,hk,rfl,e,C_⟩:=hrel;have o:=Y<|V.trans (e.mono C);by_cases al:a<K
 .have v:a<J b:=oN t.o
  obtain⟨O_,x,o2,c2,rfl,aj,J_⟩:=j.2 a v;have Y_:=oB e x j.1;have T_:=S_ b[a] (aH v);have F_:Q (Y3 b[a]=Sn->b.all Y3=Sn):=Y (λh=>by
   rw[lZ];exact⟨b[a],aH v,by rw[h];simp⟩)
  have V_:Q ((b.take<|a+1).all Y3=((b.take a).all Y3&&Y3 b[a])):=Y (by rw[bN v,List.all_append];simp);have E_:=Y (IF o2 c2 b[a] (Y R) T_ (Y λac h=>oB e (J_ ac h) (aX q C)) (aX q o.4));clear x J_;generalize b[a]=g at*;by_cases L_:J g=0
  .have p:=Y (F_.o<|by rw[nK,L_];rfl);rw[L_]at Y_;go_wp2;refine cC (v:=St #[Hq,Sb Sn]) (by simp[results,results152,go_sem]) R ⟨o,yN p⟩
  have aa:0<J g:=O;cases hq:g.all cB with
  |false=>
   have p:=Y (F_.o<|by rw[nK,hq,Bool.and_false]);go_wp2_with (go_at_call 185;refine E_.mono ?_;rintro l w3⟨rfl,r⟩;rw[hq];have y:=Y<|o.trans (r.mono o.4);clear r)
   refine cC (v:=St #[Hq,Sb Sn]) (by simp[results,results152,go_sem]) R ⟨y,yN p⟩
  |true=>
   have Q_:Q ((b.take<|a+1).all Y3=So):=Y (by rw[V_.o,C_.o,nK,hq,eB aa];rfl);go_wp2_with (go_at_call 185;refine E_.mono ?_;rintro l w3⟨rfl,r⟩;rw[hq];have y:=Y<|e.trans (r.mono e.4);clear r)
   exact⟨⟨a+1,O,gM,y,Q_⟩,SA⟩
 have p:=Y (by have:=C_.o;rwa[aW<|oN t.o]at this)
 have U_:Q (kg wr n W b):=Y ⟨aX j.1 e.4,λi h=>by
  let⟨O_,x,hp⟩:=j.2 i h;exact⟨O_,oB e x j.1,hp.keep<|e.5 n (aX q C)⟩⟩
 go_wp2;refine cC (v:=St #[Hl W K K,Sb So]) (by simp[results,results152,go_sem]) R ⟨o,Jz p hg t U_⟩
def gn(c:List (List UInt8)):Option (List UInt8):=match c with
 |[a,b]=>if c.all Y3=So/\a=[102,117,110,99]/\Ax b 4=So then S b else U
 |_=>U
def T2(c l:I):Uj:=.iface 102 (Sa #[Si S6 c,Si S6 l])
def NV(o:Option (List UInt8)):Value:=match o with
 |some b=>St #[Si S6 (Bo b:I),.nilIface]
 |none=>St #[Si S6 0,T2 3 1]
theorem pN(w:Ub)(b o c:N)(f:Wn)(h:∀j (h:j<J f),E w (A b<|o+j)=S (Si .u8 (f[j].toNat:I))):(convert 22 9<|Hm b o (J f) c).run prog w=.ok (Sg (K8 f)) w:=by
 have q:=run_convert_bytes_arg (P:=prog) w 22 5 underlying22 underlying5 b o (J f) c (f.map λx=>(x.toNat:I)) sP (λi a=>by rw[h i a];simp[List.getD,a]) 9 underlying9;have e:strOfNums (f.map λx=>(x.toNat:I))=K8 f:=fI (λl:Wn=>(⟨l.toArray⟩:ByteArray)) (oG f);rw[e]at q;exact q
theorem oI{f:Wn}(h:∀j (h:j<J f),E w (A n<|m+j)=S (Si .u8 (f[j].toNat:I)))(a:n<k):Yx w n k (S ⟨n,m,U⟩) f:=λi b=>⟨n,m,R,⟨aA,a⟩,h i b⟩
theorem zQG0{p: Prop}(h: p := by
  refine cC (v:=St #[H 0,T2 3 1]) (by simp[results,results99,go_sem,T2]) R ⟨by rw[l.o],j⟩): p := h
theorem IN(h V B c:N)(q:Wn)(w:Ub)(W:Q (B=J q))(aa:B<=c)(W_:c<=9223372036854775807)(Z_:B<=1000000)(ha:Q (∀i (m:i<J q),E w (A h<|V+i)=S (Si .u8 (q[i].toNat:I))))(Y_:Q (ft w))(K:h<Z w.1):
 Sk prog 99 #[Hm h V B c] w λn w'=>n=Rt (NV<|gn (C3 q 32))/\Sw (Z w.1) w w':=by
 have t:=Y<|yA W aa W_ Z_ ha Y_ K;have J_:Q (∀f∈C3 q 32,J f<=1000000):=Y (λf X_=>by have:=kh 32 q [] f X_;simp only[bO]at this;have:=W.o;omega);generalize C3 q 32=k at*;cases hall:k.all Y3 with
 |false=>
  have l:Q (NV (gn k)=St #[H 0,T2 3 1]):=Y (by
   have:gn k=U:=by
    unfold gn;split;·rw[aM λm=>by rw[hall]at m;exact Sz m.1 vY]
    rfl
   rw[this];rfl)
  go_in
  go_wp2_with (go_at_call 152;refine t.mono ?_;rintro n g⟨b,-,d⟩;have:=d hall;subst this;clear d;have j:=Y b;clear b)
  exact zQG0
 |true=>
  by_cases L:J k=2
  .obtain⟨a,f,rfl⟩:∃a f,k=[a,f]:=by
    match k,L with
    |[a,f],_=>exact⟨a,f,R⟩
   have E_:=Y<|J_.o f sP;have K_:Q (¬(a=[102,117,110,99]/\Ax f 4=So)->NV (gn [a,f])=St #[H 0,T2 3 1]):=Y (λm=>by
    show NV (if _ then _ else _)=_;rw[aM λr=>m r.2];rfl)
   have U_:Q (a=[102,117,110,99]/\Ax f 4=So->NV (gn [a,f])=St #[H<|NF f 4,.nilIface]):=Y (λm=>by
    show NV (if _ then _ else _)=_;rw[aU ⟨hall,m.1,m.2⟩];show _=St #[H (if Ax f 4=So then _ else _),_];rw[aU m.2];rfl)
   clear L;have s:=Y hall;clear hall;generalize NV (gn [a,f])=V_ at*;by_cases u:a=[102,117,110,99]
   .have ab:(K8 a).toList=[102,117,110,99]:=u▸T4 _;have T_:=Y u;clear u;cases hd:Ax f 4 with
    |false=>
     have l:=Y (K_.o λr=>by rw[hd]at r;exact Sz r.2 vY);have M:=Y hd;clear hd
     go_in
     go_wp2_with first|(go_at_call 152;refine t.mono ?_;rintro n g⟨b,d,-⟩;obtain⟨F,P,T,rfl,rfl,e⟩:=d s;clear d;obtain⟨S_,O_,x,c0,rfl,M_,o⟩:=e.2 0 sP;obtain⟨v1,P_,y,c1,rfl,N_,p⟩:=e.2 1 sP;have L_:=pN g h x c0 a o;have z:=Y<|pJ (S ⟨h,y,U⟩) (J f) c1 f h (Z g.1) g (Y<|oI p (aX K b.4)) (Y R) E_ aA;have j:=Y b;clear b e o p)|(go_at_call 153;refine z.mono ?_;rintro n w2⟨rfl,v⟩;rw[M.o];have C:=Y<|j.trans (v.mono j.4);clear v)
     refine cC (v:=St #[H 0,T2 3 1]) (by simp[results,results99,go_sem,T2]) R ⟨by rw[l.o],C⟩
    |true=>
     have l:=Y<|U_.o ⟨T_,hd⟩;have M:=Y hd;clear hd
     go_in
     go_wp2_with first|(go_at_call 152;refine t.mono ?_;rintro n g⟨b,d,-⟩;obtain⟨F,P,T,rfl,rfl,e⟩:=d s;clear d;obtain⟨S_,O_,x,c0,rfl,M_,o⟩:=e.2 0 sP;obtain⟨v1,P_,y,c1,rfl,N_,p⟩:=e.2 1 sP;have L_:=pN g h x c0 a o;have z:=Y<|pJ (S ⟨h,y,U⟩) (J f) c1 f h (Z g.1) g (Y<|oI p (aX K b.4)) (Y R) E_ aA;have j:=Y b;clear b e o p)|(go_at_call 153;refine z.mono ?_;rintro n w2⟨rfl,v⟩;rw[M.o];have C:=Y<|j.trans (v.mono j.4);clear v)
     refine cC (v:=St #[H<|NF f 4,.nilIface]) (by simp[results,results99,go_sem]) R ⟨by rw[l.o],C⟩
   have l:=Y (K_.o λr=>u r.1);have ab:=T4 a;have ad:(a==[102,117,110,99])=Sn:=by rw[iS];exact u
   go_in
   go_wp2_with (go_at_call 152;refine t.mono ?_;rintro n g⟨b,d,-⟩;obtain⟨F,P,T,rfl,rfl,e⟩:=d s;clear d;obtain⟨S_,O_,x,c0,rfl,M_,o⟩:=e.2 0 sP;obtain⟨v1,P_,y,c1,rfl,N_,p⟩:=e.2 1 sP;have L_:=pN g h x c0 a o;have j:=Y b;clear b e o p)
   exact zQG0
  have l:Q (NV (gn k)=St #[H 0,T2 3 1]):=Y (by
   have:gn k=U:=by
    unfold gn;split;·exact Sz R L
    rfl
   rw[this];rfl)
  have af:¬((J k:I)=2):=O;generalize NV (gn k)=V_ at*;have s:=Y hall;clear hall
  go_in
  go_wp2_with (go_at_call 152;refine t.mono ?_;rintro n g⟨b,d,-⟩;obtain⟨F,P,T,rfl,rfl,e⟩:=d s;clear d;have j:=Y b;clear b e)
  exact zQG0
shelf_lay Lays.nb142 Nm 142 at Tryz as laysCS
def pV(f:N)(d:Ub)(c:Uy)(a:Wn)(e:Ending):Prop :=
 (100000<J a->e=Rt (St #[X U 0 0,T2 1 0])) /\
 (J a<=100000->a.getLast?≠S 10->e=Rt (St #[X U 0 0,T2 2 0])) /\
 (J a<=100000->a.getLast?=S 10->∃b o g k,c=S ⟨b,o,U⟩/\f<=g/\k=J (C3 a.dropLast 10)/\e=Rt (St #[X (S ⟨g,0,U⟩) k k,.nilIface])/\kg d b g (C3 a.dropLast 10))
theorem KQ(s:UInt8){l:Wn}:Lib.hasSuffix l [s]=decide (l.getLast?=S s):=by
 unfold Lib.hasSuffix List.isSuffixOf;rw[<-List.head?_reverse];cases l.reverse with
 |nil=>rfl
 |cons x r=>
  show(([s]:Wn).isPrefixOf (x::r))=_;by_cases e:x=s;·subst e;simp
  have a:(s==x)=Sn:=by rw[iS];exact λq=>e q.symm
  have e2:decide ((x::r).head?=S s)=Sn:=by rw[fC];intro q;exact e<|gQ q
  rw[e2];show(s==x&&List.isPrefixOf [] r)=Sn;rw[a];rfl
theorem Lo(b2:N){a:Wn}(y:n=J a)(u:n<=c)(C:n<=1000000)(ha:Yx w m k p a)(l:E w (A b2 0)=S (Si .u8 10)):
 Sk prog 150 #[X p n c,Hl b2 1 1] w λe f=>e=Rt (St #[X p (if a.getLast?=S 10 then n-1 else n) c,Sb (decide (a.getLast?=S 10))])/\f=w:=by
 by_cases j:n=0
 .have:a=[]:=iE O;subst this;subst j;exact Any.bytes_CutSuffix_e1 laysCS p (S ⟨b2,0,U⟩) c 1 1 vY w
 obtain⟨b,o,rfl,_,_⟩:=ha 0 O
 have r:∀i (h:i<J a),E w ⟨b,o+i,U⟩=S (Si .u8 (a[i].toNat:I)):=λi h=>by
  obtain⟨z,B,g,_,s⟩:=ha i h;cases g;exact s
 have h:=Any.bytes_CutSuffix laysCS b o n c b2 0 1 1 (a.map λx=>(x.toNat:I)) [10] w (by simp[y]) R u O (λi t=>by
  have d:i<J a:=O;rw[r i d];simp[List.getD,d]) (λi t=>by
  have:i=0:=O;subst this;exact l)
 have v:Lib.hasSuffix (Lib.bytesOf<|a.map λx=>(x.toNat:I)) (Lib.bytesOf [10])=decide (a.getLast?=S 10):=by
  rw[oG];exact KQ 10
 refine h.mono ?_;rintro e f⟨rfl,rfl⟩;refine⟨?_,R⟩;unfold Lib.bytesTrimSuffix Lib.sliceTo;rw[v];by_cases q:a.getLast?=S 10;·rw[aU (by simpa using q),aU q];rfl
 rw[aM (by simpa using q),aM q]
theorem IR{a:Wn}(j:Q (n=J a))(T:n<=c)(K:c<=9223372036854775807)(ha:Q (Yx w m k p a))(v:Q (ft w))(V:k<=Z w.1):
 Sk prog 98 #[X p n c] w λg b=>pV (Z w.1) b p a g/\Sw (Z w.1) w b:=by
 by_cases T_:100000<n
 .have l:Q (∀b,pV (Z w.1) b p a<|.returned (St #[X U 0 0,T2 1 0])):=Y λb=>⟨λ_=>R,λh=>Sz h<|oN j.o,λh=>Sz h<|oN j.o⟩
  go_in
  go_wp2;refine cC (v:=St #[X U 0 0,T2 1 0]) (by simp[results,results98,go_sem,T2]) R ⟨l _,Rf⟩
 have U_:J a<=100000:=oN j.o
 have s:Q (Sk prog 150 #[X p n c,X (S ⟨Z w.1,0,U⟩) 1 1] (D w<|.cells #[Si .u8 10] 5) λg b=>g=Rt (St #[X p (if a.getLast?=S 10 then n-1 else n) c,Sb (decide (a.getLast?=S 10))])/\b=(D w<|.cells #[Si .u8 10] 5)):=Y
  (Lo (Z w.1) j T O (ha.keep<|(Xb (Below.refl (Z w.1) w) _).mono V) (by rw[cell_of_row _ (Z w.1) 0 _ _ _<|heap_alloc_new w _];rfl))
 have y:Q (Sw (Z w.1) w<|D w (Sc #[Si .u8 10] 5)):=Y<|Xb (Below.refl (Z w.1) w) _;by_cases hq:a.getLast?=S 10
 .have V_:1<=n:=by
   have:=j.o;cases a with
   |nil=>cases hq
   |cons Y_ X_=>simp at this;omega
  obtain⟨f,r,rfl,S_,_⟩:=ha 0<|oN j.o;have F:Q (∀(d:Ub)(b2:N),Sw (Z w.1) w d->E d ⟨b2,0,U⟩=S (Si .u8 ((10:UInt8).toNat:I))->Sk prog 151 #[X (S ⟨f,r,U⟩) (n-1) c,X (S ⟨b2,0,U⟩) 1 1] d λg b=>∃e,e=J (C3 a.dropLast 10)/\g=Rt (X (S ⟨Z d.1,0,U⟩) e e)/\Sw (Z d.1) d b/\kg b f (Z d.1) (C3 a.dropLast 10)):=Y (λd b2 t u=>
   zo 10 f r (n-1) a.dropLast (by have:=j.o;simp;omega) O K O (λx h=>by
    have M:x<J a:=by simp at h;omega
    obtain⟨Q_,W_,W,R_,L⟩:=ha x M;cases W;rw[t.cell (p:=⟨f,r+x,U⟩) (by show f<_;omega),L];simp) u ⟨aX v.1 t.4,by
    obtain⟨O_,h⟩:=v.2;exact⟨O_,oB t h v.1⟩⟩ (oN t.4))
  have l:Q (∀b i e,Z w.1<=i->e=J (C3 a.dropLast 10)->kg b f i (C3 a.dropLast 10)->pV (Z w.1) b (S ⟨f,r,U⟩) a (Rt (St #[X (S ⟨i,0,U⟩) e e,.nilIface]))):=Y λb i e H_ u I_=>⟨λh=>Sz h O,λ_ h=>Sz hq h,λ_ _=>⟨f,r,i,e,R,H_,u,R,I_⟩⟩;rw[aU hq,eB hq]at s;clear hq
  go_in
  go_wp2_with (go_at_call 150;refine s.mono ?_;rintro g d⟨rfl,q⟩;have o:Q (Sw (Z w.1) w d):=Y (by rw[q];exact y);clear q)
  refine(F _ _ (Xb o _) (by rw[cell_of_row _ (Z d.1) 0 _ _ _<|heap_alloc_new d _];rfl)).mono ?_;rintro g P_⟨e,B,rfl,z,C⟩;have P:Z w.1<=Z (D d<|.cells #[Si .u8 10] 5).1:=(Xb o _).4;have E_:=Y<|l.o P_ _ e P B C;have D_:=Y<|(Xb o _).trans (z.mono P);clear z C B;generalize Z (D d<|.cells #[Si .u8 10] 5).1=i at*;go_wp2;refine cC (v:=St #[X (S ⟨i,0,U⟩) e e,.nilIface]) (by simp[results,results98,go_sem]) R ⟨E_,D_⟩
 have l:Q (∀b,pV (Z w.1) b p a<|.returned (St #[X U 0 0,T2 2 0])):=Y λb=>⟨λh=>Sz h O,λ_ _=>R,λ_ h=>Sz h hq⟩;rw[aM hq,dJ hq]at s;clear hq
 go_in
 go_wp2_with (go_at_call 150;refine s.mono ?_;rintro g d⟨rfl,q⟩;have o:Q (Sw (Z w.1) w d):=Y (by rw[q];exact y);clear q)
 refine cC (v:=St #[X U 0 0,T2 2 0]) (by simp[results,results98,go_sem,T2]) R ⟨l _,o⟩
def NP(k:N):N:=[dB k,aB k,bB k,iB k].count So
def NQ(k:N):N:=[(k:I) != 1,(k:I) != 3,(k:I)==2].count So
theorem yI(a:List Bool)(b:List Addr)(h:J a=J b):J (Yd a b)=a.count So:=by
 induction a generalizing b with
 |nil=>rfl
 |cons x r c=>cases b with
  |nil=>simp at h
  |cons q s=>cases x<;>simp[Yd,c s<|by simpa using h]
def Nv(b a:I):Uj:=Sa #[Si S6 b,Si S6 a]
def dr(a b n:N):Bool:=if a=0 then n==0 else if a=1 then decide (2<=n)else if a=2 then n==NP b else n==NQ b
theorem zA(h:Sx w n m 1 a k y):∃b c,a=X b k c:=by
 obtain⟨b,c,rfl,_⟩:=UO h;have:=h.1;rw[iN]at this;exact⟨b,c,by rw[this]⟩
theorem LA(h:Jk w n 0 ⟨m,0,0,0,0⟩)(f:1<=m)(j:m<=10)(i:Yy w):
 Sk prog 75 #[Hn n] w λe d=>(∃a c,e=Rt (X a (NP m) c))/\Sw (Z w.1) w d:=by
 refine(zE n m 0 0 0 0 w (Y h) f O (Y i)).mono ?_;rintro e d⟨v,rfl,g,b⟩;obtain⟨a,c,rfl⟩:∃a c,v=X a (NP m) c:=by
  rw[yI _ _ R]at b;exact zA b
 exact⟨⟨a,c,R⟩,g⟩
theorem LR(i:Va w n 0 ⟨m,0,0,0⟩)(f:1<=m)(g:m<=3)(j:Yb w):
 Sk prog 76 #[Hn n] w λe d=>(∃a c,e=Rt (X a (NQ m) c))/\Sw (Z w.1) w d:=by
 refine(zD (Y i) f g (Y j)).mono ?_;rintro e d⟨v,rfl,h,b⟩;obtain⟨a,c,rfl⟩:∃a c,v=X a (NQ m) c:=by
  rw[yI _ _ R]at b;exact zA b
 exact⟨⟨a,c,R⟩,h⟩
theorem Ad(k:N)(a:n=Z w.1):Jk (D w<|.cells #[Si S6 k,Si S6 0,Si S6 0,Si S6 0,Si S6 0] 59) n 0 ⟨k,0,0,0,0⟩:=by
 subst a;refine⟨?_,?_,?_,?_,?_⟩<;>rw[cell_of_row _ (Z w.1) _ _ _ _<|heap_alloc_new w _]<;>rfl
theorem z9(k:N)(a:n=Z w.1):Va (D w<|.cells #[Si S6 k,Si S6 0,Si S6 0,Si S6 0] 54) n 0 ⟨k,0,0,0⟩:=by
 subst a;refine⟨?_,?_,?_,?_⟩<;>rw[cell_of_row _ (Z w.1) _ _ _ _<|heap_alloc_new w _]<;>rfl
theorem LP(z:n<=3)(y:k<=1000000)(d:n=2->1<=m/\m<=10)(e:n=3->1<=m/\m<=3)(o:Q (Yy w))(p:Q (Yb w)):
 Sk prog 188 #[Nv n m,H k] w λj v=>j=Rt (Sb (dr n m k))/\Sw (Z w.1) w v:=by
 have s:n=0\/n=1\/n=2\/n=3:=O;have a:Q (∀q,Sw (Z w.1) w<|D w q):=Y λq=>Xb Rf q;unfold Nv;obtain rfl|rfl|rfl|rfl:=s
 .have b:Q (dr 0 m k=((k:I)==0)):=Y (by
   show((k==0)=_);by_cases h:k=0;·subst h;rfl
   rw[iS.2 h,iS.2 O])
  go_in
  go_wp2;go_ret;exact⟨Xl b.symm,a _⟩
 .have b:Q (dr 1 m k=decide ((2:I)<=k)):=Y (by
   show decide _=decide _;rw[decide_eq_decide];omega)
  go_in
  go_wp2;go_ret;exact⟨Xl b.symm,a _⟩
 .have b:Q (dr 2 m k=((k:I)==(NP m:I))):=Y (by
   show((k==NP m)=_);by_cases h:k=NP m;·rw[<-h];simp
   rw[iS.2 h,iS.2 O])
  have g:=Y λW (h:Sw (Z w.1) w W) i (l:i=Z W.1)=>LA (Ad m l) (d R).1 (d R).2 ((o.keep h o.1).keep (Xb (Below.refl (Z W.1) W) _) (aX o.1 h.4));generalize NP m=r at*
  go_in
  go_wp2_with (go_at_call 75;refine(g _ (a _) _ (ny _ _).symm).mono ?_;rintro j x⟨⟨t,u,rfl⟩,c⟩;have f:=Y<|((a _).trans ((Xb Rf _).mono (a _).4)).trans (c.mono (Xb (a _) _).4);clear c)
  go_ret;exact⟨Xl b.symm,f⟩
 have b:Q (dr 3 m k=((k:I)==(NQ m:I))):=Y (by
  show((k==NQ m)=_);by_cases h:k=NQ m;·rw[<-h];simp
  rw[iS.2 h,iS.2 O])
 have g:=Y λW (h:Sw (Z w.1) w W) i (l:i=Z W.1)=>LR (z9 m l) (e R).1 (e R).2 ((p.keep h p.1).keep (Xb (Below.refl (Z W.1) W) _) (aX p.1 h.4));generalize NQ m=r at*
 go_in
 go_wp2_with (go_at_call 76;refine(g _ (a _) _ (ny _ _).symm).mono ?_;rintro j x⟨⟨t,u,rfl⟩,c⟩;have f:=Y<|((a _).trans ((Xb Rf _).mono (a _).4)).trans (c.mono (Xb (a _) _).4);clear c)
 go_ret;exact⟨Xl b.symm,f⟩
def cu(w:World)(b:N):List (N×I)->World
 |[]=>w
 |(o,x)::r=>cu (Se w ⟨b,o,U⟩ (Si S6 x)) b r
theorem yY(b o:N)(x:I):∀(l:List (N×I))(w:Ub),cu w b (l++[(o,x)])=Se (cu w b l) ⟨b,o,U⟩ (Si S6 x)
 |[],_=>R
 |(p,y)::r,w=>by rw[cW,cu,cu,yY b o x r]
theorem r8(b k:N)(h:k≠b):∀(l:List (N×I))(w:Ub),(cu w b l).1[k]?=w.1[k]?
 |[],_=>R
 |(p,y)::r,w=>by rw[cu,r8 b k h r,Below.heap_setCell _ _ _ _ h]
theorem se(b:N):∀(l:List (N×I))(w:Ub),Z (cu w b l).1=Z w.1
 |[],_=>R
 |(p,y)::r,w=>by rw[cu,se b r,Xd]
theorem zv{b t a:N}:∀(l:List (N×I))(w:Ub)(f:Vu),w.rowIs b t a f->∃g,(cu w b l).rowIs b t a g
 |[],_,f,h=>⟨f,h⟩
 |(p,y)::r,w,_,h=>by rw[cu];exact zv r _ _<|h.set p _
theorem Mf{e o f:N}{l:List (N×I)}(C:Q (B=J l))(y:Q (B<=g))(hn:B<=1000000)(M:Q (w.rowIs n m k h))(F:Q (∀t∈l,t.1<k))(L:Q (Zx w c e p<|l.map λt=>Tx<|A n t.1))(K:Q (Xf w o f P (l.map (·.2))))(V_:n<c\/e<=n)(W_:n<o\/f<=n):
 Sk prog 216 #[X p B i,X P g j] w λT V=>T=Rt (St #[])/\V=cu w n l:=by
 go_in
 go_wp2
 go_loopw [8] (λr wr=>∃a:N,a<=B/\r=H a/\Q (wr=cu w n (l.take a))) λr _=>B-(intOf r).toNat
 case atStart=>exact⟨0,aN,R,Y R⟩
 obtain⟨a,hk,rfl,v⟩:=hrel;by_cases aa:a<B
 .have d:a<J l:=oN C.o;let⟨S_,W⟩:=zv (l.take a) w h M;have b:=Y W;have x:YA c e w (cu w n<|l.take a):=λs F_ G_=>r8 n s O _ _;have y_:YA o f w (cu w n<|l.take a):=λs F_ G_=>r8 n s O _ _;obtain⟨Q_,o3,rfl,T_,q⟩:=(L.keepS x) a (by simpa using d);obtain⟨R_,o4,rfl,U_,z⟩:=(K.keepS y_) a (by simpa using d);rw[cM]at q z;unfold Tx at q;have u:Q (cu w n (l.take<|a+1)=Se (cu w n<|l.take a) (A n<|l[a].1) (H l[a].2)):=Y (by rw[bN d,yY]);have K_:=F l[a] (aH d);rw[<-v.o]at q z b u;have ac:=Y<|Jp (m:=1) b (o:=l[a].1) O;have ab:(a:I)<(g:I):=oN y.o;generalize l[a].1=O_ at*;generalize l[a].2=X_ at*;have Y_:=b.cell K_;have Z_:=b.frozen O_;go_wp2;exact⟨⟨a+1,O,gM,Y u.symm⟩,SA⟩
 have D_:Q (wr=cu w n l):=Y (by rw[v.o,aW<|oN C.o]);go_wp2;exact bodyPost_end (v:=St #[]) (by simp[results,results216,go_sem]) R ⟨R,D_⟩
structure nW(w:Ub)(R_:N)(wd:Uj)(vals:I)(ga:Uy)(n c:N)(op:Bool):Prop where
 words:E w ⟨R_,0,U⟩=S wd
 values:E w ⟨R_,1,U⟩=S (Si S6 vals)
 blocks:E w ⟨R_,2,U⟩=S (X ga n c)
 opened:E w ⟨R_,3,U⟩=S (Sb op)
theorem pP(j:N)(h:Uj)(d:I)(g n c:N)(b:Bool)(w:Ub)(a:nW w j h d (S ⟨g,0,U⟩) (n+1) c b)(i:n<=1000000):
 Sk prog 215 #[Hn j] w λe f=>e=Rt (Ho g<|n*6)/\f=w.drew:=by
 have c2:=a.3
 go_in
 go_wp2;go_region;go_wp2;go_ret;exact⟨R,R⟩
def sR(b:N)(a:Bool)(c:N):Bool:=if b=0 then !a else if b=1 then a&&c==0 else a
theorem yM(F:N)(q:Uj)(p:I)(o:Uy)(g n c:N)(i:Bool)(y:Uy)(b z a t:N)(w:Ub)(d:Q (nW w F q p o n c i))(L:n<=1000000)(f:F<Z w.1)(M:a<=3)(x:Q (i=So->o=S (A g 0)/\1<=n/\g<Z w.1/\E w (A g<|(n-1)*6+1)=S (X y b z))):
 Sk prog 190 #[Hn F,Nv a t] w λe j=>e=Rt (Sb (sR a i b))/\Sw (Z w.1) w j:=by
 have c3:=d.4;have u:a=0\/a=1\/a=2\/a=3:=O;unfold Nv;obtain rfl|rfl|rfl|rfl:=u
 .go_in
  go_wp2;go_ret;exact⟨R,Xb Rf _⟩
 .cases i with
  |false=>
   go_in
   go_wp2;go_ret;exact⟨R,Xb Rf _⟩
  |true=>
   obtain⟨rfl,B,C,v⟩:=x R;obtain⟨m,rfl⟩:∃m,n=m+1:=⟨n-1,O⟩;have s:Q (sR 1 So b=((b:I)==0)):=Y (by
    show((b==0)=_);by_cases k:b=0;·subst k;rfl
    rw[iS.2 k,iS.2 O])
   rw[Nat.add_sub_cancel]at v;have r:Q (∀W,Sw (Z w.1) w W->Sk prog 215 #[Hn F] W λe j=>e=Rt (Ho g<|m*6)/\j=W.drew):=Y λW h=>pP F q p g m c So W ⟨oB h d.1 f,oB h d.2 f,oB h d.3 f,oB h d.4 f⟩ O
   go_in
   go_wp2_with (go_at_call 215;refine(r _<|Xb Rf _).mono ?_;rintro e K⟨rfl,l⟩;rw[l];clear l K)
   go_ret;exact⟨Xl s.symm,(Xb Rf _).drew⟩
 .go_in
  go_wp2;go_ret;exact⟨R,Xb Rf _⟩
 go_in
 go_wp2;go_ret;exact⟨R,Xb Rf _⟩
section
open Go.Maps
def fh(v:Value):Option (DataW Unit×List MemPlace):=match v with
 |.agg a=>match a.1 with
  |[Si S6 r,Si S6 c]=>S (.agg [.lit (.int S6 r),.lit (.int S6 c)],[])
  |_=>U
 |_=>U
def No(r c:I):DataW Unit:=.agg [.lit (.int S6 r),.lit (.int S6 c)]
theorem pW(r c:I):fh (Nv r c)=S (No r c,[]):=R
theorem Qk:Keyed prog 9:=string_keyed underlying9
def OZ:N->DataW Unit
 |0=>((DataW.map []).put (.string eh) (No 0 0)).put (.string fm) (No 1 0)
 |k+1=>(OZ k).put (.string (bz ((k:N)+1:N))) (No 2 ((k:N)+1:N))
def OQ:N->DataW Unit
 |0=>OZ 10
 |k+1=>(OQ k).put (.string (gx ((k:N)+1:N))) (No 3 ((k:N)+1:N))
theorem I1(B:Q (Yy w))(C:Q (Yb w)):
 Sk prog 100 #[] w λF M=>F=Rt (.map (S (Z w.1)))/\Sw (Z w.1) w M/\M.ownsMap prog 9 fh (Z w.1) 15 (OQ 3):=by
 have P_:=@run_makeMap prog;let⟨r,z,x,h⟩:=(World.ownsMap_made w prog 9 fh).update Qk underlying168 vY (Go.WideMaps.keyOf_string_mk underlying9 (s:=K8 eh) vY) (pW 0 0);let⟨s,P,y,t⟩:=x.update Qk underlying168 vY (Go.WideMaps.keyOf_string_mk underlying9 (s:=K8 fm) vY) (pW 1 0);have T:(Instr.mapUpdate 168 (.map (S (Z w.1))) (Sg ⟨#[98,108,111,99,107]⟩) (Sa #[H 0,H 0])).run prog (D w<|.map #[] 0)=.ok () r:=z;have V:(Instr.mapUpdate 168 (.map (S (Z w.1))) (Sg ⟨#[112,104,105]⟩) (Sa #[H 1,H 0])).run prog r=.ok () s:=P;have q:Q (s.ownsMap prog 9 fh (Z w.1) 2<|OZ 0):=Y y;have o:=Y (((Xb Rf _).grown h (Xb Rf _).4 λk d=>by cases d;exact aA).grown t (aJ (Xb Rf _).4 h.4) λk d=>by cases d;exact aA);clear z P x y h t
 go_in
 go_wp2
 go_loopw [2] (λi wr=>∃k:N,k<=10/\i=H ((k:I)+1)/\Q (Sw (Z w.1) w wr)/\Q (wr.ownsMap prog 9 fh (Z w.1) (k+2) (OZ k))) λi _=>11-(intOf i).toNat
 case atStart=>exact⟨0,O,R,o,q⟩
 clear T V q o;obtain⟨k,d,rfl,b,c⟩:=hrel;by_cases l:k<10
 .obtain⟨W,-⟩:=(B.keep b B.1).2 (k+1) O O
  have f:Q (keyOf prog 9 (Sg (K8<|bz ((k+1:N):I)))=S (.string (bz ((k+1:N):I)))):=Y (Go.WideMaps.keyOf_string_mk underlying9 (s:=K8<|bz ((k+1:N):I)) (by
   have g:k=0\/k=1\/k=2\/k=3\/k=4\/k=5\/k=6\/k=7\/k=8\/k=9:=O;obtain rfl|rfl|rfl|rfl|rfl|rfl|rfl|rfl|rfl|rfl:=g<;>decide))
  have e:Q (OZ (k+1)=(OZ k).put (.string (bz ((k+1:N):I))) (No 2 ((k+1:N):I))):=Y R;generalize n:bz ((k+1:N):I)=L at*;clear n;go_wp2_with (at_mapUpdate;refine wpList_mapUpdate_own _ R _ _ _ 168 R 9 241 Qk underlying168 fh (Z w.1) (k+2) _ R c SD _ _ _ R R f (No 2 ((k+1:N):I)) [] (pW 2 _) ?_;intro K m j)
  exact⟨⟨k+1,O,sP,Y (b.grown j b.4 λk d=>by cases d;exact aA),Y<|by rw[e.o];exact m⟩,SA⟩
 have u:k=10:=O;have M_:¬((k:I)+1<=10):=O;have p:Q (wr.ownsMap prog 9 fh (Z w.1) 12<|OQ 0):=Y (by have:=c.o;rw[u]at this;exact this);clear l u c;generalize wr=R_ at*;go_wp2
 go_loopw [3] (λi wr=>∃k:N,k<=3/\i=H ((k:I)+1)/\Q (Sw (Z w.1) w wr)/\Q (wr.ownsMap prog 9 fh (Z w.1) (k+12) (OQ k))) λi _=>4-(intOf i).toNat
 case atStart=>exact⟨0,O,R,b,p⟩
 clear b p;obtain⟨a,O_,rfl,b,c⟩:=hrel;by_cases l:a<3
 .obtain⟨W,-⟩:=(C.keep b C.1).2 (a+1) O O
  have f:Q (keyOf prog 9 (Sg (K8<|gx ((a+1:N):I)))=S (.string (gx ((a+1:N):I)))):=Y (Go.WideMaps.keyOf_string_mk underlying9 (s:=K8<|gx ((a+1:N):I)) (by
   have g:a=0\/a=1\/a=2:=O;obtain rfl|rfl|rfl:=g<;>decide))
  have e:Q (OQ (a+1)=(OQ a).put (.string (gx ((a+1:N):I))) (No 3 ((a+1:N):I))):=Y R;generalize n:gx ((a+1:N):I)=L at*;clear n;go_wp2_with (at_mapUpdate;refine wpList_mapUpdate_own _ R _ _ _ 168 R 9 241 Qk underlying168 fh (Z w.1) (a+12) _ R c SD _ _ _ R R f (No 3 ((a+1:N):I)) [] (pW 3 _) ?_;intro K m j)
  exact⟨⟨a+1,O,sP,Y (b.grown j b.4 λQ_ G_=>by cases G_;exact aA),Y<|by rw[e.o];exact m⟩,SA⟩
 have v:a=3:=O;have N_:¬((a:I)+1<=3):=O;have E_:Q (wr.ownsMap prog 9 fh (Z w.1) 15<|OQ 3):=Y (by have:=c.o;rw[v]at this;exact this);clear l v c;go_wp2;go_ret;exact⟨R,b,E_⟩
end
section
open Go.Maps
def fy(f:Wn):Option (N×N) :=
 if D2 f≠0 then S (2,(D2 f).toNat)else if f=eh then S (0,0)else if f=fm then S (1,0)else if f=fg then S (3,1)else if f=Vn then S (3,2)else if f=ew then S (3,3)else U
theorem pZ{b:DataW Unit}(h:IsMap b)(g f:Wn)(d z:DataW Unit):(b.put (.string g) d).atKey (.string f) z=if g=f then d else b.atKey (.string f) z:=by
 by_cases e:g=f;·subst e;rw[aU R,atKey_put_same h (k:=.string g) (by simp[WideAt.IsKeyLit])]
 rw[aM e,atKey_put_other λq=>e<|by cases q;rfl]
theorem sF:∀k,IsMap<|OZ k
 |0=>(isMap_empty.put _ _).put _ _
 |k+1=>(sF k).put _ _
theorem z8:∀k,IsMap<|OQ k
 |0=>sF 10
 |k+1=>(z8 k).put _ _
theorem MI{f:Wn}(z:DataW Unit):(OZ 0).atKey (.string f) z=if fm=f then No 1 0 else if eh=f then No 0 0 else z:=by
 show(((DataW.map []).put (.string eh) (No 0 0)).put (.string fm) (No 1 0)).atKey _ _=_;rw[pZ<|isMap_empty.put _ _,pZ isMap_empty];rfl
theorem jd(f:Wn)(z:DataW Unit)(k:N):(OZ<|k+1).atKey (.string f) z=if bz ((k+1:N):I)=f then No 2 ((k+1:N):I)else (OZ k).atKey (.string f) z:=pZ (sF k) _ _ _ _
theorem sQ(f:Wn)(z:DataW Unit)(k:N):(OQ<|k+1).atKey (.string f) z=if gx ((k+1:N):I)=f then No 3 ((k+1:N):I)else (OQ k).atKey (.string f) z:=pZ (z8 k) _ _ _ _
theorem M2{f:Wn}(z:DataW Unit):(OZ 10).atKey (.string f) z=if D2 f≠0 then No 2 (D2 f)else (OZ 0).atKey (.string f) z:=by
 have d:(OZ 10).atKey (.string f) z=_:=G (jd f z 9) (fI _<|G (jd f z 8) (fI _<|G (jd f z 7) (fI _<|G (jd f z 6) (fI _<|G (jd f z 5) (fI _<|G (jd f z 4) (fI _<|G (jd f z 3) (fI _<|G (jd f z 2) (fI _<|G (jd f z 1) (fI _<|jd f z 0)))))))));by_cases b:D2 f=0
 .have a:∀j:N,j<10->bz ((j+1:N):I)≠f:=λj k e=>by
   subst e;have c:j=0\/j=1\/j=2\/j=3\/j=4\/j=5\/j=6\/j=7\/j=8\/j=9:=O;obtain rfl|rfl|rfl|rfl|rfl|rfl|rfl|rfl|rfl|rfl:=c<;>exact Sz b vY
  rw[d,aM<|a 9 O,aM<|a 8 O,aM<|a 7 O,aM<|a 6 O,aM<|a 5 O,aM<|a 4 O,aM<|a 3 O,aM<|a 2 O,aM<|a 1 O,aM<|a 0 O,aM λq:D2 f≠0=>q b]
 rw[aU b,d];obtain q|⟨j,h,i,g,rfl⟩:=oH f 10 1;·exact Sz q b
 have e:D2 (bz j)=j:=g;rw[e];have c:j=1\/j=2\/j=3\/j=4\/j=5\/j=6\/j=7\/j=8\/j=9\/j=10:=O;obtain rfl|rfl|rfl|rfl|rfl|rfl|rfl|rfl|rfl|rfl:=c<;>rfl
def sY(o:Option (N×N))(z:DataW Unit):DataW Unit:=match o with
 |some (r,c)=>No r c
 |none=>z
theorem L9(f:Wn)(z:DataW Unit):(OQ 3).atKey (.string f) z=sY (fy f) z:=by
 rw[sQ f z 2,sQ f z 1,sQ f z 0];show(if ew=f then No 3 3 else if Vn=f then No 3 2 else if fg=f then No 3 1 else (OZ 10).atKey (.string f) z)=_;rw[M2,MI];unfold fy;by_cases a:D2 f=0
 .rw[aM λq:D2 f≠0=>q a,aM λq:D2 f≠0=>q a];by_cases e1:f=ew;·subst e1;rfl
  by_cases e2:f=Vn;·subst e2;rfl
  by_cases e3:f=fg;·subst e3;rfl
  by_cases e4:f=fm;·subst e4;rfl
  by_cases e5:f=eh;·subst e5;rfl
  rw[aM<|kA e1,aM<|kA e2,aM<|kA e3,aM<|kA e4,aM<|kA e5,aM e5,aM e4,aM e3,aM e2,aM e1];rfl
 let⟨⟨b,_⟩,e5,e3,e1,e2,e4⟩:=oL a;rw[aM<|kA e1,aM<|kA e2,aM<|kA e3,aU a,aU a];show No 2 (D2 f)=No ((2:N):I) ((D2 f).toNat:I);rw[fR O];rfl
theorem Ql(w:Ub):(zeroValue 241).run prog w=.ok (Nv 0 0) w:=vZ
theorem LH{c:I}{e:List MemPlace}(h:fh a=S (No t c,e)):a=Nv t c:=by
 unfold fh at h;split at h
 .rename_i f;split at h
  .rename_i i g ha;have b:=fI Prod.fst<|gQ h;simp only[No]at b;injection b with d;simp only[List.cons.injEq,DataW.lit.injEq,Lit.int.injEq,true_and,and_true]at d;obtain⟨rfl,rfl⟩:=d;unfold Nv;congr 1;apply Array.ext';rw[ha]
  cases h
 cases h
theorem yX(h:w.ownsMap prog 9 fh n 15 (OQ 3)){f:Wn}(o:J f<=1000000):(Instr.lookup 168 (.map (S n)) (Sg (K8 f)) So).run prog w=.ok (match fy f with|some (r,c)=>St #[Nv r c,Sb So]|none=>St #[Nv 0 0,Sb Sn]) w:=by
 let⟨m,l,e,F,_,b⟩:=h;have g:keyOf prog 9 (Sg (K8 f))=S (.string f):=Go.WideMaps.keyOf_string_mk underlying9 (s:=K8 f) (by rw[i7];unfold maxLen;omega);have a:=λz=>L9 f z;obtain⟨hrun,_,hz⟩|⟨e0,y,_,_,hrun,hR,hz,_⟩:=Maps.fit_look So Qk underlying168 (Ql w) e F g
 .have i:fy f=U:=by
   cases hw:fy f with
   |none=>rfl
   |some d=>
    have q:=a<|.lit (.bool So);rw[b,hz,hw]at q;exact Sz q<|by simp[sY,No]
  rw[hrun,i];rfl
 cases hw:fy f with
 |none=>
  have q1:=a<|.lit (.bool So);have q2:=a<|.lit (.bool Sn);rw[b,hz,hw]at q1 q2;exact Sz (G q1.symm q2) (by simp[sY])
 |some d=>
  have q:=a<|.lit (.bool So);rw[b,hz,hw]at q;let⟨k,p⟩:=y;have j:k=No d.1 d.2:=q;subst j;rw[hrun,LH hR];rfl
end
def oO(w:Ub)(b B:N)(c:Uy)(a:Vw):Prop:=∀i (h:i<J a),∃g o v,c=S ⟨g,o,U⟩/\g<B/\E w ⟨g,o+i,U⟩=S v/\mf w b v a[i]
theorem oO.keep{w':Ub}{a:Vw}(h:oO w n m p a)(k:Sw m w w')(c:n<m):oO w' n m p a:=λj f=>by
 let⟨g,o,v,e,b,d,i⟩:=h j f;exact⟨g,o,v,e,b,oB k d b,i.keep<|k.5 n c⟩
def FZ(b a n i:N):Bool:=decide (b=2)&&(decide (a=1)&&decide (i+1=n))
def Np(c:Bool)(f:Wn):Bool:=if c then NM f else Ax f 4
def NY(c:Bool)(f:Wn):I:=if c then fp f else NF f 4
def bg(q:N->Bool):N->List (List UInt8)->Bool
 |_,[]=>So
 |i,f::r=>Np (q i) f&&bg q (i+1) r
def GI(q:N->Bool):N->List (List UInt8)->List I
 |_,[]=>[]
 |i,f::r=>NY (q i) f::GI q (i+1) r
theorem zG(q:Ys)(f:Wn):∀(l:Vw)(i:N),bg q i (l++[f])=(bg q i l&&Np (q<|i+J l) f)
 |[],i=>by simp[bg]
 |x::r,i=>by
  rw[cW,bg,bg,zG q f r<|i+1,Bool.and_assoc,bA,show i+1+J r=i+(J r+1) by omega]
theorem yU(q:Ys)(f:Wn):∀(l:Vw)(i:N),GI q i (l++[f])=GI q i l++[NY (q<|i+J l) f]
 |[],i=>by simp[GI]
 |x::r,i=>by
  rw[cW,GI,GI,yU q f r<|i+1,cW,bA,show i+1+J r=i+(J r+1) by omega]
theorem zj(q:Ys):∀(l:Vw)(i:N),J (GI q i l)=J l
 |[],_=>R
 |x::r,i=>by rw[GI,bA,bA,zj q r]
theorem zX(q:Ys):∀(l:Vw)(i k:N)(h:k<J l),Np (q<|i+k) l[k]=Sn->bg q i l=Sn
 |x::r,i,0,_,e=>by rw[bg];simp only[fW,eM]at e;rw[e];rfl
 |x::r,i,k+1,h,e=>by
  rw[bg,zX q r (i+1) k SI (by rw[show i+1+k=i+(k+1) by omega];simpa using e),Bool.and_false]
theorem MD(a:Ub):∀(i:N)(v:Uj),[Si S6 t][i]?=S v->E (D a<|Obj.cells #[Si S6 t] 2) ((⟨Z a.1,0,U⟩:Addr).add i)=S v:=λi v b=>by
 have:i=0:=by
  cases i with
  |zero=>rfl
  |succ j=>simp at b
 subst this;simp at b;subst b;rw[mK,cell_of_row _ (Z a.1) _ _ _ _<|heap_alloc_new a _];rfl
theorem L7:∀u∈[H t],u.oneCell'=So:=λu a=>by
 rw[cS]at a;subst a;rfl
def sy(c:N)(b:Ub)(q:Ys)(a:Vw)(e:Ending):Prop :=
 (bg q 0 a=So->∃v,e=Rt (St #[v,Sb So])/\Sx b c 2 1 v (J a) ((GI q 0 a).map (Si S6)))/\(bg q 0 a=Sn->e=Rt (St #[X U 0 0,Sb Sn]))
theorem IK(c:N){b:Vw}(x:Q (k=J b))(hn:k<=1000000)(W_:c<g)(U_:g<=Z w.1)(ha:Q (oO w c g p b))(Z_:Q (∀o∈b,J o<=1000000)):
 Sk prog 189 #[Nv n m,X p k B] w λe d=>Sw (Z w.1) w d/\sy (Z w.1) d (FZ n m k) b e:=by
 let⟨i0,aa,aj,al,ao⟩:=fX RH;have F:Q (∀i,FZ n m k i=(decide (n=2)&&(decide (m=1)&&decide (i+1=k)))):=Y λi=>R;generalize FZ n m k=q at*;unfold Nv
 go_in
 go_wp2
 go_loopw [6,15] (λap i wr=>∃a:N,a<=k/\i=H a/\Q (Sw (Z w.1) w wr)/\Z w.1<Z wr.1/\E wr (A (Z w.1) 0)=S (H n)/\E wr (A (Z w.1) 1)=S (H m)/\Q (bg q 0 (b.take a)=So)/\Q (Sx wr (Z w.1+1) 2 1 ap a ((GI q 0<|b.take a).map (Si S6)))) λ_ i _=>k-(intOf i).toNat
 case atStart=>exact⟨0,aN,R,Y<|Xb (Xb Rf _) _,SB,sP,sP,Y R,Y<|K5 _ _⟩
 obtain⟨a,hk,rfl,l,L,Y_,X_,M,P⟩:=hrel;have af:=l.4;by_cases az:a<k
 .have j:a<J b:=oN x.o;obtain⟨aq,a0,a1,rfl,hg,ar,y,c2,rfl,v,u⟩:=(ha.keep (l.mono U_) W_) a j;replace v:=v.1;have T:=Z_ b[a] (aH j);have P_:=Y (λh=>zX q b 0 a j<|by rw[aV];exact h);have R_:Q (bg q 0 (b.take<|a+1)=(bg q 0 (b.take a)&&Np (q a) b[a])):=Y (by rw[bN j,zG,dH,jZ O,aV]);have S_:Q (GI q 0 (b.take<|a+1)=GI q 0 (b.take a)++[NY (q a) b[a]]):=Y (by rw[bN j,yU,dH,jZ O,aV]);have V:Q ((q a=So->Sk prog 214 #[Hm c y (J b[a]) c2] wr λe d=>e=Rt (St #[H<|NY (q a) b[a],Sb (Np (q a) b[a])])/\Sw (Z wr.1) wr d)/\(q a=Sn->Sk prog 153 #[Hm c y (J b[a]) c2] wr λe d=>e=Rt (St #[H<|NY (q a) b[a],Sb (Np (q a) b[a])])/\Sw (Z wr.1) wr d)):=Y ⟨λh=>by rw[h];exact II c (Y<|oI u O) (Y R) v T aA,λh=>by rw[h];exact pJ (S ⟨c,y,U⟩) (J b[a]) c2 b[a] c (Z wr.1) wr (Y<|oI u O) (Y R) T aA⟩;clear u;generalize b[a]=o at*;generalize Np (q a) o=ok at*;generalize NY (q a) o=va at*;have K:=F a;have e1:((n:I)==2)=decide (n=2):=eQ.2 (by rw[iA,decide_eq_true_iff];omega);have e2:((m:I)==1)=decide (m=1):=eQ.2 (by rw[iA,decide_eq_true_iff];omega);have e3:((a:I)==(k:I)-1)=decide (a+1=k):=eQ.2 (by rw[iA,decide_eq_true_iff];omega);generalize decide (n=2)=d1 at*;generalize decide (m=1)=d2 at*;generalize decide (a+1=k)=d3 at*;clear F;cases d1<;>cases d2<;>cases d3
  all_goals
   have W:=Y K;clear K;go_wp2_with fail
   (first|(go_at_call 214;refine(V.1 W).mono ?_)|(go_at_call 153;refine(V.2 W).mono ?_))
   rintro e z⟨rfl,f⟩;have C:=Y<|l.trans (f.mono af);have s:=Y<|rk P f;have T_:=Y<|f.5 (Z w.1) L;have ad:=aX L f.4;clear f;cases ok
   .go_wp2;exact cC (v:=St #[Hq,Sb Sn]) (by simp[results,results189,go_sem]) R ⟨C,λh=>Sz (G (P_ sP).symm h) vY,λ_=>R⟩
   go_wp2_with (at_builtin;refine bT _ R _ _ 35 R (Z w.1+1) 2 i0 (H 0) 1 8 underlying35 aa aj al ao R vY _ _ _ R (s.alloc _) (A (Z z.1) 0) 1 1 [H va] R R (MD z) (L7) SD O (by first|omega|(simp;omega)) ?_)
   intro v1 M_ J_ r ab V_;have Q_:Q (Sx M_ (Z w.1+1) 2 1 v1 (a+1) ((GI q 0<|b.take (a+1)).map (Si S6))):=Y (by rw[S_.o,Yl];exact J_);have O_:=Y (Xy (Xb C _) r (s.alloc _) O (by rw[ny];omega));have t:=G (YJ r (s.alloc _) (@iJ (Z w.1)) (by rw[ny];omega)) (G (Below.heap_alloc z _ (Z w.1) ad) T_);have c0:=G (Xc t) Y_;have c1:=G (Xc t) X_;have ac:Z w.1<Z M_.1:=aX (by rw[ny];omega) r.4;clear J_ r ab V_ t;go_wp2;exact⟨⟨a+1,O,gM,O_,ac,c0,c1,Y (by rw[R_.o,M.o];rfl),Q_⟩,SA⟩
 have I_:b.take a=b:=aW<|oN x.o;have N_:Q (sy (Z w.1) wr q b<|.returned (St #[u6,Sb So])):=Y ⟨λ_=>⟨u6,R,by have:=P.o;rw[I_,show a=J b by have:=x.o;omega]at this;exact Zk this<|gX⟩,λh=>by have:=M.o;rw[I_,h]at this;exact Sz this vY⟩;go_wp2;refine cC (v:=St #[u6,Sb So]) (by simp[results,results189,go_sem]) R ⟨l,N_⟩
section
open Go.Maps
theorem zp(q:Ys):∀(r:Vw)(i:N),bg q i r=(Rg (J r)).all λj=>match r[j]? with|some f=>Np (q<|i+j) f|none=>So
 |[],_=>R
 |f::r,i=>by
  rw[bg,bA,List.range_succ_eq_map,List.all_cons,List.all_map,zp q r<|i+1];congr 1;congr 1;funext j;simp only[Function.comp,List.getElem?_cons_succ];rw[show i+1+j=i+(j+1) by omega]
theorem Ag{f:Wn}:decide (0<=Gb f)=Ax f 4:=by
 unfold Gb;cases h:Ax f 4 with
 |true=>rw[aU R];simp
 |false=>rw[aM vY];rfl
theorem MZ{w:Wn}{r:Vw}{f:Wn}:jw (w::r) (n+1) f=Np (decide (w=fw)&&decide (n=1)) f:=by
 unfold jw Np;by_cases h:w=fw
 .by_cases a:n=1;·rw[aU ⟨by rw[h];rfl,O⟩];simp[h,a]
  rw[aM λq=>a O,Ag];simp[a]
 rw[aM λq=>h<|gQ q.1,Ag];simp[h]
theorem LC{w:Wn}{r:Vw}:gu (w::r) (J r)=bg (λi=>decide (w=fw)&&decide (i=1)) 0 r:=by
 rw[zp];unfold gu;congr 1;funext i;rw[List.getElem?_cons_succ];cases r[i]? with
 |none=>rfl
 |some f=>simp only[MZ,aV]
theorem zc{q a:Ys}(h:∀i,q i=a i):∀(r:Vw)(i:N),bg q i r=bg a i r
 |[],_=>R
 |f::r,i=>by rw[bg,bg,h i,zc h r]
theorem Lx(b:1<=n)(c:n<=10):(Kz n).size=NP n:=by
 have a:n=1\/n=2\/n=3\/n=4\/n=5\/n=6\/n=7\/n=8\/n=9\/n=10:=O;obtain rfl|rfl|rfl|rfl|rfl|rfl|rfl|rfl|rfl|rfl:=a<;>decide
theorem zF(w:Wn)(n:N):match fy w with
 |none=>NJ w (n+1)=0
 |some (ro,co)=>NJ w (n+1)≠0/\(dr ro co n=So↔n+1=NJ w (n+1))/\(dr ro co n=So->∀i,FZ ro co n i=(decide (w=fw)&&decide (i=1)))/\ro<=3/\(ro=2->1<=co/\co<=10)/\(ro=3->1<=co/\co<=3):=by
 unfold fy NJ;by_cases a:D2 w=0
 .have b:w≠fw:=λe=>by subst e;exact Sz a vY
  rw[aM λq:D2 w≠0=>q a,aM λq:D2 w≠0=>q a];by_cases e5:w=eh
  .subst e5;rw[aU R,aU R];refine⟨vY,?_,λ_ i=>by simp[FZ,b],vY,vY,vY⟩;simp[dr]
  rw[aM e5,aM e5];by_cases e4:w=fm
  .subst e4;rw[aU R,aM vY,aM vY,aM vY,aU R];refine⟨by split<;>omega,?_,λ_ i=>by simp[FZ,b],vY,vY,vY⟩;simp only[dr];split<;>simp<;>omega
  rw[aM e4];by_cases e3:w=fg
  .subst e3;rw[aU R,aU R];refine⟨vY,?_,λ_ i=>by simp[FZ,b],vY,vY,vY⟩;show((n==NQ 1)=So)↔_;rw[show NQ 1=1 by decide];simp
  rw[aM e3,aM e3];by_cases e2:w=Vn
  .subst e2;rw[aU R,aM vY,aU R];refine⟨vY,?_,λ_ i=>by simp[FZ,b],vY,vY,vY⟩;show((n==NQ 2)=So)↔_;rw[show NQ 2=3 by decide];simp
  rw[aM e2];by_cases e1:w=ew
  .subst e1;rw[aU R,aU R];refine⟨vY,?_,λ_ i=>by simp[FZ,b],vY,vY,vY⟩;show((n==NQ 3)=So)↔_;rw[show NQ 3=1 by decide];simp
  rw[aM e1,aM e1,aM e2,aM e4]
 rw[aU a,aU a];let⟨⟨r,s⟩,_⟩:=oL a;let⟨k,h⟩:∃k:N,D2 w=k:=⟨(D2 w).toNat,O⟩;have d:1<=k:=O;have f:k<=10:=O;rw[h,Lx d f];refine⟨O,?_,λl i=>?_,vY,λ_=>⟨by simpa using d,by simpa using f⟩,λq=>Sz q vY⟩
 .show((n==NP _)=So)↔_;rw[iA,dM];omega
 have m:n=NP k:=by
  have:((n==NP ((k:I).toNat))=So):=l;rw[iA,dM]at this;exact this
 rw[dM];obtain q|⟨j,t,u,o,p⟩:=oH w 10 1;·exact Sz q a
 have g:j=k:=by have:D2 w=j:=o;omega
 subst g;by_cases c:j=1
 .subst c;have:w=fw:=p.symm;subst this;rw[m];show(decide _&&(decide _&&decide (i+1=NP 1)))=_;rw[show NP 1=2 by decide];simp
 have b:w≠fw:=λe=>by
  subst e;have:D2 fw=1:=vY;omega
 simp[FZ,c,b]
theorem LU(w:Wn)(r:Vw):C0 (w::r)=match fy w with
 |none=>5
 |some (c,b)=>if dr c b (J r)=So then (if bg (FZ c b (J r)) 0 r=So then 0 else 7)else 6:=by
 have h:=zF w (J r);unfold C0;simp only[List.headD_cons,bA,Nat.add_sub_cancel];cases hw:fy w with
 |none=>
  rw[hw]at h;rw[aU h]
 |some g=>
  let⟨c,b⟩:=g;rw[hw]at h;let⟨e,d,f,_⟩:=h;rw[aM e];by_cases a:dr c b (J r)=So
  .rw[aM λq=>q<|d.1 a,LC,zc λi=>(f a i).symm];simp only[a,gG]
  rw[aU λq=>a<|d.2 q];simp only[a];rfl
end
end Go.Proofs.YtnggdhnpjfigjaaGreatDoor
