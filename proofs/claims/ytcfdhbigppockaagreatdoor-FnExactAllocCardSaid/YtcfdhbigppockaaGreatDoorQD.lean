import Derived.Test.YtcfdhbigppockaaGreatDoorMB1
import Derived.Shelf.Bytes.SlSplit
import Derived.Ground.SlbSplitProg
import Derived.Lib.SplitLaws
import Derived.Laws.BytesArg
import Derived.Shelf.Bytes.SlSmallAll
import Derived.Test.YtcfdhbigppockaaGreatDoorAL1
import Derived.Maps.Views
import Derived.Maps.OwnOps
namespace Go.Proofs.YtcfdhbigppockaaGreatDoor
set_option maxHeartbeats 2000000
set_option maxRecDepth 100000
open Go.RowKit Go.Proofs.Tryz Go.Shelf
variable{t T:Int}{n m k B g i j c:Nat}{w v u:Ub}{a:Uj}{p P:Uy}{h:Vu}{l:Wc}{x:Wi}{y:Wo}{q:Xe}
theorem Ks(c:Int)(w:Ub):
 Calls prog 174 #[.int .u8 c] w λe d=>e=.returned (.bool (decide (c<33)||decide (126<c)))/\d=w:=by
 by_cases a:c<33
 .go_in
  go_wp2;go_ret;exact⟨Xl (by simp[a]),rfl⟩
 by_cases b:126<c
 .go_in
  go_wp2;go_ret;exact⟨Xl sP,rfl⟩
 go_in
 go_wp2;go_ret;exact⟨Xl (by simp[a,b]),rfl⟩
theorem IZ(c:Nat){f:Wn}(t:Hs (k=f.length))(E:k<=1000000)(ha:Hs (∀j (s:j<f.length),w.cell? (Hk n<|m+j)=some (.int .u8 (f[j].toNat:Int))))(z:n<w.1.size):
 Calls prog 198 #[Hm n m k c,.func (.func 174) #[] #[]] w λh A=>(∃u:Int,h=.returned (Hp u)/\(decide (0<=u)=!(f.all cB)))/\Below w.1.size w A:=by
 go_in
 go_wp2
 go_loopw [8] (λl wr=>∃a:Nat,a<=k/\l=Hp a/\Hs (Below w.1.size w wr)/\Hs ((f.take a).all cB=true)) λl _=>k-(intOf l).toNat
 case atStart=>exact⟨0,aN,rfl,Xa<|Below.refl _ _,Xa rfl⟩
 obtain⟨a,C,rfl,d,p⟩:=hrel;by_cases D:a<k
 .have i:a<f.length:=oN t.o
  have B:=oB d (ha a i) z;have y:Hs ((f.take<|a+1).all cB=((f.take a).all cB&&cB f[a])):=Xa (by rw[bN i,List.all_append];simp);have q:Hs ((decide ((f[a].toNat:Int)<33)||decide (126<(f[a].toNat:Int)))=!cB f[a]):=Xa (by
   unfold cB;by_cases q1:33<=f[a].toNat<;>by_cases q2:f[a].toNat<=126<;>simp[q1,q2]<;>omega)
  have x:Hs (cB f[a]=false->f.all cB=false):=Xa (λs=>by
   rw[lZ];exact⟨f[a],aH i,by rw[s];simp⟩)
  have r:=Xa<|Ks (f[a].toNat:Int) wr;generalize (f[a].toNat:Int)=Z at*;cases hq:cB f[a]with
  |false=>
   have g:=Xa<|x.o hq;have e:Hs ((decide (Z<33)||decide (126<Z))=true):=Xa (by rw[q.o,hq];rfl);go_wp2_with (go_at_call 174;refine r.mono ?_;rintro h o⟨rfl,b⟩;rw[b,e.o];clear b o)
   go_ret;exact⟨⟨_,rfl,by rw[g.o];simp⟩,d⟩
  |true=>
   have v:Hs ((f.take<|a+1).all cB=true):=Xa (by rw[y.o,p.o,hq];rfl);have e:Hs ((decide (Z<33)||decide (126<Z))=false):=Xa (by rw[q.o,hq];rfl);go_wp2_with (go_at_call 174;refine r.mono ?_;rintro h o⟨rfl,b⟩;rw[b,e.o];clear b o)
   exact⟨⟨a+1,oM,gM,d,v⟩,by simp[intOf];omega⟩
 have g:=Xa (by have:=p.o;rwa[aW<|oN t.o]at this);go_wp2;go_ret;exact⟨⟨_,rfl,by rw[g.o];rfl⟩,d⟩
theorem IF(o:Nat)(c:Nat)(f:Wn)(l:Hs (m=f.length))(k:m<=1000000)(ha:Hs (∀j (q:j<f.length),w.cell? (Hk n<|o+j)=some (.int .u8 (f[j].toNat:Int))))(i:n<w.1.size):
 Calls prog 173 #[Hm n o m c,.func (.func 174) #[] #[]] w λe p=>e=.returned (.bool (!(f.all cB)))/\Below w.1.size w p:=by
 have g:=Xa<|IZ c l k ha i
 go_in
 go_wp2_with (go_at_call 198;refine g.mono ?_;rintro e s⟨⟨r,rfl,b⟩,a⟩;have h:=Xa b;have d:=Xa a;clear b a)
 go_ret;exact⟨Xl h,d⟩
shelf_lay SlLaysP.n7 Slp 7 at Tryz as laysSP
def ft(w:Ub):Prop:=4 < w.1.size/\∃m,w.cell? ⟨4,0,none⟩=some (.int .i64 m)
def kg(w:Ub)(b g:Nat)(a:Vw):Prop:=g<w.1.size/\∀i (h:i<a.length),∃v,w.cell? ⟨g,i,none⟩=some v/\mf w b v a[i]
theorem l8(s:UInt8):∀(l a:Wn),(am s a l).length=l.count s+1
 |[],a=>by simp[am]
 |c::r,a=>by
  rw[am];split;·rename_i h;subst h;rw[bA,l8 c r,List.count_cons_self]
  rename_i h;rw[l8 s r,List.count_cons_of_ne h]
theorem mf.keep{w':Ub}{f:Wn}(h:mf w n a f)(k:w'.1[n]?=w.1[n]?):mf w' n a f:=by
 obtain⟨o,c,e,b,d⟩:=h;exact⟨o,c,e,b,λj g=>(Xc k).trans (d j g)⟩
theorem zo(s:UInt8)(b o n:Nat){b2:Nat}(a:Wn)(g:n=a.length)(u:n<=c)(r:c<=9223372036854775807)(A:n<=1000000)(ha:∀i (h:i<a.length),w.cell? (Hk b<|o+i)=some (.int .u8 (a[i].toNat:Int)))(p:w.cell? (Hk b2 0)=some (.int .u8 (s.toNat:Int)))(f:ft w)(q:b<w.1.size):
 Calls prog 136 #[Hm b o n c,Hl b2 1 1] w λl j=>∃k,k=(C3 a s).length/\l=.returned (Hl w.1.size k k)/\Below w.1.size w j/\kg j b w.1.size (C3 a s):=by
 obtain⟨_,v,f⟩:=f;have hq:∀(m:Wn),∀x∈m.map λx=>(x.toNat:Int),0<=x/\x<256:=λm x g=>by
  obtain⟨z,-,rfl⟩:=aY.1 g;have:=z.toNat_lt;omega
 have h:=Any.bytes_Split laysSP ⟨b,o,none⟩ ⟨b2,0,none⟩ n c 1 1 (a.map λx=>(x.toNat:Int)) [(s.toNat:Int)] v w (by simp[g]) rfl (hq a) (hq [s]) (λi e=>by
  have d:i<a.length:=oM;rw[mK,ha i d];simp[List.getD,d]) (λi e=>by
  have:i=0:=oM;subst this;exact p) u oM vY r aA f
 have e1:Lib.bytesOf [(s.toNat:Int)]=[s]:=oG [s];rw[oG,e1]at h;obtain⟨q1,q2⟩:=Jg w b s (Lib.count a [s]) o c a rfl ⟨oM,oM⟩ ha;have t:Lib.count a [s]+1=(C3 a s).length:=by
  unfold C3;rw[l8,Lib.count_one]
 refine h.mono ?_;rintro l j⟨rfl,y,rfl⟩;refine⟨_,t,rfl,?_,?_,λi e=>?_⟩;·exact iX (Xb (Below.refl _ _) _) y
 .show w.1.size<(w.1.push _).size;simp
 have d:i<(Lib.splitV [s] 0 (Lib.count a [s]) ⟨b,o,none⟩ c a).length:=by rw[q1];exact e
 refine⟨_,?_,(q2 i e d).keep (Below.heap_alloc w _ b q)⟩;show(w.alloc _).cell? ⟨w.1.size,i,none⟩=_;rw[cell_of_row _ w.1.size i _ _ _<|heap_alloc_new w _];simp[d]
def su(H:Nat)(c:Ub)(b:Nat)(a:Vw)(e:Ending):Prop:=(a.all Y3=true->∃g k,H<=g/\k=a.length/\e=.returned (.tuple #[.slice (some ⟨g,0,none⟩) k k,.bool true])/\kg c b g a)/\(a.all Y3=false->e=.returned (.tuple #[.slice none 0 0,.bool false]))
theorem yN{a:Vw}(h:a.all Y3=false):su n w m a (.returned (.tuple #[Hq,.bool false])):=⟨λq=>absurd (h.symm.trans q) vY,λ_=>rfl⟩
theorem Jz{a:Vw}(h:a.all Y3=true)(b:n<=k)(c:B=a.length)(d:kg w m k a):su n w m a (.returned (.tuple #[Hl k B B,.bool true])):=⟨λ_=>⟨k,B,b,c,rfl,d⟩,λq=>absurd (h.symm.trans q) vY⟩
theorem ny(w:Ub)(o:Obj):(w.alloc o).1.size=w.1.size+1:=Array.size_push ..
theorem yA{d:Wn}(B:Hs (k=d.length))(ab:k<=c)(X:c<=9223372036854775807)(hn:k<=1000000)(ha:Hs (∀i (h:i<d.length),w.cell? (Hk n<|m+i)=some (.int .u8 (d[i].toNat:Int))))(z:Hs (ft w))(q:n<w.1.size):
 Calls prog 137 #[Hm n m k c] w λl s=>Below w.1.size w s/\su w.1.size s n (C3 d 32) l:=by
 have G:Hs (∀(f:Ub)(b2:Nat),Below w.1.size w f->f.cell? (Hk b2 0)=some (.int .u8 ((32:UInt8).toNat:Int))->Calls prog 136 #[Hm n m k c,Hl b2 1 1] f λl s=>∃a,a=(C3 d 32).length/\l=.returned (Hl f.1.size a a)/\Below f.1.size f s/\kg s n f.1.size (C3 d 32)):=Xa (λf b2 u W=>
  zo 32 n m k d B ab X hn (λi h=>oB u (ha i h) q) W ⟨aX z.1 u.4,by
   let⟨ad,h⟩:=z.2;exact⟨ad,oB u h z.1⟩⟩ (aX q u.4))
 have R:Hs ((C3 d 32).length<=1000001):=Xa (by have:=oK 32 d [];have:=B.o;unfold C3;omega);have S:Hs (∀g∈C3 d 32,g.length<=1000000):=Xa (λg Z=>by have:=kh 32 d [] g Z;simp only[bO]at this;have:=B.o;omega);generalize C3 d 32=b at*
 go_in
 go_wp2_with (go_at_call 136;refine(G _ _ (Xb (Below.refl _ _) _) (by rw[cell_of_row _ w.1.size 0 _ _ _<|heap_alloc_new w _];rfl)).mono ?_;rintro l P⟨K,hK,rfl,I,N⟩;have t:=Xa hK;have j:=Xa N;have D:=Xa<|(Xb (Below.refl w.1.size w) _).trans (I.mono (Xb (Below.refl _ _) _).4);clear hK N I)
 have M:(w.alloc<|Obj.cells #[Value.int IntKind.u8 32] 5).1.size=w.1.size+1:=ny w _;rw[M]at j;clear M;have hg:w.1.size<=w.1.size+1:=gX;have af:K<=1000001:=oP t.o R.o;have A:=D.4;clear G;generalize w.1.size+1=H at*
 go_loopw [12] (λi wr=>∃a:Nat,a<=K/\i=Hp a/\Hs (Below P.1.size P wr)/\Hs ((b.take a).all Y3=true)) λi _=>K-(intOf i).toNat
 case atStart=>exact⟨0,aN,rfl,Xa<|Below.refl _ _,Xa rfl⟩
 obtain⟨a,hk,rfl,e,C⟩:=hrel;have o:=Xa<|D.trans (e.mono A);by_cases al:a<K
 .have v:a<b.length:=oN t.o
  obtain⟨O,x,o2,c2,rfl,aj,J⟩:=j.2 a v;have Y:=oB e x j.1;have T:=S b[a] (aH v);have F:Hs (Y3 b[a]=false->b.all Y3=false):=Xa (λh=>by
   rw[lZ];exact⟨b[a],aH v,by rw[h];simp⟩)
  have V:Hs ((b.take<|a+1).all Y3=((b.take a).all Y3&&Y3 b[a])):=Xa (by rw[bN v,List.all_append];simp);have E:=Xa (IF o2 c2 b[a] (Xa rfl) T (Xa λac h=>oB e (J ac h) (aX q A)) (aX q o.4));clear x J;generalize b[a]=g at*;by_cases L:g.length=0
  .have p:=Xa (F.o<|by rw[nK,L];rfl);rw[L]at Y;go_wp2;refine cC (v:=.tuple #[Hq,.bool false]) (by simp[results,results137,go_sem]) rfl ⟨o,yN p⟩
  have aa:0<g.length:=oM;cases hq:g.all cB with
  |false=>
   have p:=Xa (F.o<|by rw[nK,hq,Bool.and_false]);go_wp2_with (go_at_call 173;refine E.mono ?_;rintro l w3⟨rfl,r⟩;rw[hq];have y:=Xa<|o.trans (r.mono o.4);clear r)
   refine cC (v:=.tuple #[Hq,.bool false]) (by simp[results,results137,go_sem]) rfl ⟨y,yN p⟩
  |true=>
   have Q:Hs ((b.take<|a+1).all Y3=true):=Xa (by rw[V.o,C.o,nK,hq,eB aa];rfl);go_wp2_with (go_at_call 173;refine E.mono ?_;rintro l w3⟨rfl,r⟩;rw[hq];have y:=Xa<|e.trans (r.mono e.4);clear r)
   exact⟨⟨a+1,oM,gM,y,Q⟩,by simp[intOf];omega⟩
 have p:=Xa (by have:=C.o;rwa[aW<|oN t.o]at this)
 have U:Hs (kg wr n H b):=Xa ⟨aX j.1 e.4,λi h=>by
  let⟨O,x,hp⟩:=j.2 i h;exact⟨O,oB e x j.1,hp.keep<|e.5 n (aX q A)⟩⟩
 go_wp2;refine cC (v:=.tuple #[Hl H K K,.bool true]) (by simp[results,results137,go_sem]) rfl ⟨o,Jz p hg t U⟩
def gn(c:List (List UInt8)):Option (List UInt8):=match c with
 |[a,b]=>if c.all Y3=true/\a=[102,117,110,99]/\Ax b 4=true then some b else none
 |_=>none
def T2(c l:Int):Uj:=.iface 92 (.agg #[.int .i64 c,.int .i64 l])
def NV(o:Option (List UInt8)):Value:=match o with
 |some b=>.tuple #[.int .i64 (Bo b:Int),.nilIface]
 |none=>.tuple #[.int .i64 0,T2 3 1]
theorem pN(w:Ub)(b o c:Nat)(f:Wn)(h:∀j (h:j<f.length),w.cell? (Hk b<|o+j)=some (.int .u8 (f[j].toNat:Int))):(convert 22 9<|Hm b o f.length c).run prog w=.ok (.string (K8 f)) w:=by
 have q:=run_convert_bytes_arg (P:=prog) w 22 5 underlying22 underlying5 b o f.length c (f.map λx=>(x.toNat:Int)) sP (λi a=>by rw[h i a];simp[List.getD,a]) 9 underlying9;have e:strOfNums (f.map λx=>(x.toNat:Int))=K8 f:=fI (λl:Wn=>(⟨l.toArray⟩:ByteArray)) (oG f);rw[e]at q;exact q
theorem oI{f:Wn}(h:∀j (h:j<f.length),w.cell? (Hk n<|m+j)=some (.int .u8 (f[j].toNat:Int)))(a:n<k):Yx w n k (some ⟨n,m,none⟩) f:=λi b=>⟨n,m,rfl,⟨aA,a⟩,h i b⟩
theorem zQG0{p: Prop}(h: p := by
  refine cC (v:=.tuple #[Hp 0,T2 3 1]) (by simp[results,results83,go_sem,T2]) rfl ⟨by rw[l.o],j⟩): p := h
theorem IN(h R B c:Nat)(q:Wn)(w:Ub)(Q:Hs (B=q.length))(aa:B<=c)(W:c<=9223372036854775807)(Z:B<=1000000)(ha:Hs (∀i (m:i<q.length),w.cell? (Hk h<|R+i)=some (.int .u8 (q[i].toNat:Int))))(Y:Hs (ft w))(A:h<w.1.size):
 Calls prog 83 #[Hm h R B c] w λn w'=>n=.returned (NV<|gn (C3 q 32))/\Below w.1.size w w':=by
 have t:=Xa<|yA Q aa W Z ha Y A;have J:Hs (∀f∈C3 q 32,f.length<=1000000):=Xa (λf X=>by have:=kh 32 q [] f X;simp only[bO]at this;have:=Q.o;omega);generalize C3 q 32=k at*;cases hall:k.all Y3 with
 |false=>
  have l:Hs (NV (gn k)=.tuple #[Hp 0,T2 3 1]):=Xa (by
   have:gn k=none:=by
    unfold gn;split;·rw[aM λm=>by rw[hall]at m;exact absurd m.1 vY]
    rfl
   rw[this];rfl)
  go_in
  go_wp2_with (go_at_call 137;refine t.mono ?_;rintro n g⟨b,-,d⟩;have:=d hall;subst this;clear d;have j:=Xa b;clear b)
  exact zQG0
 |true=>
  by_cases H:k.length=2
  .obtain⟨a,f,rfl⟩:∃a f,k=[a,f]:=by
    match k,H with
    |[a,f],_=>exact⟨a,f,rfl⟩
   have E:=Xa<|J.o f sP;have K:Hs (¬(a=[102,117,110,99]/\Ax f 4=true)->NV (gn [a,f])=.tuple #[Hp 0,T2 3 1]):=Xa (λm=>by
    show NV (if _ then _ else _)=_;rw[aM λr=>m r.2];rfl)
   have U:Hs (a=[102,117,110,99]/\Ax f 4=true->NV (gn [a,f])=.tuple #[Hp<|NF f 4,.nilIface]):=Xa (λm=>by
    show NV (if _ then _ else _)=_;rw[aU ⟨hall,m.1,m.2⟩];show _=Value.tuple #[Hp (if Ax f 4=true then _ else _),_];rw[aU m.2];rfl)
   clear H;have s:=Xa hall;clear hall;generalize NV (gn [a,f])=V at*;by_cases u:a=[102,117,110,99]
   .have ab:(K8 a).toList=[102,117,110,99]:=u▸T4 _;have T:=Xa u;clear u;cases hd:Ax f 4 with
    |false=>
     have l:=Xa (K.o λr=>by rw[hd]at r;exact absurd r.2 vY);have D:=Xa hd;clear hd
     go_in
     go_wp2_with first|(go_at_call 137;refine t.mono ?_;rintro n g⟨b,d,-⟩;obtain⟨F,I,G,rfl,rfl,e⟩:=d s;clear d;obtain⟨S,O,x,c0,rfl,M,o⟩:=e.2 0 sP;obtain⟨v1,P,y,c1,rfl,N,p⟩:=e.2 1 sP;have L:=pN g h x c0 a o;have z:=Xa<|pJ (some ⟨h,y,none⟩) f.length c1 f h g.1.size g (Xa<|oI p (aX A b.4)) (Xa rfl) E aA;have j:=Xa b;clear b e o p)|(go_at_call 138;refine z.mono ?_;rintro n w2⟨rfl,v⟩;rw[D.o];have C:=Xa<|j.trans (v.mono j.4);clear v)
     refine cC (v:=.tuple #[Hp 0,T2 3 1]) (by simp[results,results83,go_sem,T2]) rfl ⟨by rw[l.o],C⟩
    |true=>
     have l:=Xa<|U.o ⟨T,hd⟩;have D:=Xa hd;clear hd
     go_in
     go_wp2_with first|(go_at_call 137;refine t.mono ?_;rintro n g⟨b,d,-⟩;obtain⟨F,I,G,rfl,rfl,e⟩:=d s;clear d;obtain⟨S,O,x,c0,rfl,M,o⟩:=e.2 0 sP;obtain⟨v1,P,y,c1,rfl,N,p⟩:=e.2 1 sP;have L:=pN g h x c0 a o;have z:=Xa<|pJ (some ⟨h,y,none⟩) f.length c1 f h g.1.size g (Xa<|oI p (aX A b.4)) (Xa rfl) E aA;have j:=Xa b;clear b e o p)|(go_at_call 138;refine z.mono ?_;rintro n w2⟨rfl,v⟩;rw[D.o];have C:=Xa<|j.trans (v.mono j.4);clear v)
     refine cC (v:=.tuple #[Hp<|NF f 4,.nilIface]) (by simp[results,results83,go_sem]) rfl ⟨by rw[l.o],C⟩
   have l:=Xa (K.o λr=>u r.1);have ab:=T4 a;have ad:(a==[102,117,110,99])=false:=by rw[iS];exact u
   go_in
   go_wp2_with (go_at_call 137;refine t.mono ?_;rintro n g⟨b,d,-⟩;obtain⟨F,I,G,rfl,rfl,e⟩:=d s;clear d;obtain⟨S,O,x,c0,rfl,M,o⟩:=e.2 0 sP;obtain⟨v1,P,y,c1,rfl,N,p⟩:=e.2 1 sP;have L:=pN g h x c0 a o;have j:=Xa b;clear b e o p)
   exact zQG0
  have l:Hs (NV (gn k)=.tuple #[Hp 0,T2 3 1]):=Xa (by
   have:gn k=none:=by
    unfold gn;split;·exact absurd rfl H
    rfl
   rw[this];rfl)
  have af:¬((k.length:Int)=2):=oM;generalize NV (gn k)=V at*;have s:=Xa hall;clear hall
  go_in
  go_wp2_with (go_at_call 137;refine t.mono ?_;rintro n g⟨b,d,-⟩;obtain⟨F,I,G,rfl,rfl,e⟩:=d s;clear d;have j:=Xa b;clear b e)
  exact zQG0
shelf_lay Lays.nb142 Nm 142 at Tryz as laysCS
def pV(H:Nat)(d:Ub)(c:Uy)(a:Wn)(e:Ending):Prop :=
 (100000<a.length->e=.returned (.tuple #[.slice none 0 0,T2 1 0])) /\
 (a.length<=100000->a.getLast?≠some 10->e=.returned (.tuple #[.slice none 0 0,T2 2 0])) /\
 (a.length<=100000->a.getLast?=some 10->∃b o g k,c=some ⟨b,o,none⟩/\H<=g/\k=(C3 a.dropLast 10).length/\e=.returned (.tuple #[.slice (some ⟨g,0,none⟩) k k,.nilIface])/\kg d b g (C3 a.dropLast 10))
theorem KQ(s:UInt8){l:Wn}:Lib.hasSuffix l [s]=decide (l.getLast?=some s):=by
 unfold Lib.hasSuffix List.isSuffixOf;rw[<-List.head?_reverse];cases l.reverse with
 |nil=>rfl
 |cons x r=>
  show(([s]:Wn).isPrefixOf (x::r))=_;by_cases e:x=s;·subst e;simp
  have a:(s==x)=false:=by rw[iS];exact λq=>e q.symm
  have e2:decide ((x::r).head?=some s)=false:=by rw[fC];intro q;exact e<|gQ q
  rw[e2];show(s==x&&List.isPrefixOf [] r)=false;rw[a];rfl
theorem Lo(b2:Nat){a:Wn}(y:n=a.length)(u:n<=c)(A:n<=1000000)(ha:Yx w m k p a)(l:w.cell? (Hk b2 0)=some (.int .u8 10)):
 Calls prog 135 #[.slice p n c,Hl b2 1 1] w λe f=>e=.returned (.tuple #[.slice p (if a.getLast?=some 10 then n-1 else n) c,.bool (decide (a.getLast?=some 10))])/\f=w:=by
 by_cases j:n=0
 .have:a=[]:=iE oM;subst this;subst j;exact Any.bytes_CutSuffix_e1 laysCS p (some ⟨b2,0,none⟩) c 1 1 vY w
 obtain⟨b,o,rfl,_,_⟩:=ha 0 oM
 have r:∀i (h:i<a.length),w.cell? ⟨b,o+i,none⟩=some (.int .u8 (a[i].toNat:Int)):=λi h=>by
  obtain⟨z,B,g,_,s⟩:=ha i h;cases g;exact s
 have h:=Any.bytes_CutSuffix laysCS b o n c b2 0 1 1 (a.map λx=>(x.toNat:Int)) [10] w (by simp[y]) rfl u oM (λi t=>by
  have d:i<a.length:=oM;rw[r i d];simp[List.getD,d]) (λi t=>by
  have:i=0:=oM;subst this;exact l)
 have v:Lib.hasSuffix (Lib.bytesOf<|a.map λx=>(x.toNat:Int)) (Lib.bytesOf [10])=decide (a.getLast?=some 10):=by
  rw[oG];exact KQ 10
 refine h.mono ?_;rintro e f⟨rfl,rfl⟩;refine⟨?_,rfl⟩;unfold Lib.bytesTrimSuffix Lib.sliceTo;rw[v];by_cases q:a.getLast?=some 10;·rw[aU (by simpa using q),aU q];rfl
 rw[aM (by simpa using q),aM q]
theorem IR{a:Wn}(j:Hs (n=a.length))(N:n<=c)(K:c<=9223372036854775807)(ha:Hs (Yx w m k p a))(v:Hs (ft w))(J:k<=w.1.size):
 Calls prog 82 #[.slice p n c] w λg b=>pV w.1.size b p a g/\Below w.1.size w b:=by
 by_cases T:100000<n
 .have l:Hs (∀b,pV w.1.size b p a<|.returned (.tuple #[.slice none 0 0,T2 1 0])):=Xa λb=>⟨λ_=>rfl,λh=>absurd h<|oN j.o,λh=>absurd h<|oN j.o⟩
  go_in
  go_wp2;refine cC (v:=.tuple #[.slice none 0 0,T2 1 0]) (by simp[results,results82,go_sem,T2]) rfl ⟨l _,Below.refl _ _⟩
 have U:a.length<=100000:=oN j.o
 have s:Hs (Calls prog 135 #[.slice p n c,.slice (some ⟨w.1.size,0,none⟩) 1 1] (w.alloc<|.cells #[.int .u8 10] 5) λg b=>g=.returned (.tuple #[.slice p (if a.getLast?=some 10 then n-1 else n) c,.bool (decide (a.getLast?=some 10))])/\b=(w.alloc<|.cells #[.int .u8 10] 5)):=Xa
  (Lo w.1.size j N oM (ha.keep<|(Xb (Below.refl w.1.size w) _).mono J) (by rw[cell_of_row _ w.1.size 0 _ _ _<|heap_alloc_new w _];rfl))
 have y:Hs (Below w.1.size w<|w.alloc (.cells #[.int .u8 10] 5)):=Xa<|Xb (Below.refl w.1.size w) _;by_cases hq:a.getLast?=some 10
 .have V:1<=n:=by
   have:=j.o;cases a with
   |nil=>cases hq
   |cons Y X=>simp at this;omega
  obtain⟨f,r,rfl,S,_⟩:=ha 0<|oN j.o;have F:Hs (∀(d:Ub)(b2:Nat),Below w.1.size w d->d.cell? ⟨b2,0,none⟩=some (.int .u8 ((10:UInt8).toNat:Int))->Calls prog 136 #[.slice (some ⟨f,r,none⟩) (n-1) c,.slice (some ⟨b2,0,none⟩) 1 1] d λg b=>∃e,e=(C3 a.dropLast 10).length/\g=.returned (.slice (some ⟨d.1.size,0,none⟩) e e)/\Below d.1.size d b/\kg b f d.1.size (C3 a.dropLast 10)):=Xa (λd b2 t u=>
   zo 10 f r (n-1) a.dropLast (by have:=j.o;simp;omega) oM K oM (λx h=>by
    have M:x<a.length:=by simp at h;omega
    obtain⟨Q,W,G,R,L⟩:=ha x M;cases G;rw[t.cell (p:=⟨f,r+x,none⟩) (by show f<_;omega),L];simp) u ⟨aX v.1 t.4,by
    obtain⟨O,h⟩:=v.2;exact⟨O,oB t h v.1⟩⟩ (oN t.4))
  have l:Hs (∀b i e,w.1.size<=i->e=(C3 a.dropLast 10).length->kg b f i (C3 a.dropLast 10)->pV w.1.size b (some ⟨f,r,none⟩) a (.returned (.tuple #[.slice (some ⟨i,0,none⟩) e e,.nilIface]))):=Xa λb i e H u I=>⟨λh=>absurd h oM,λ_ h=>absurd hq h,λ_ _=>⟨f,r,i,e,rfl,H,u,rfl,I⟩⟩;rw[aU hq,eB hq]at s;clear hq
  go_in
  go_wp2_with (go_at_call 135;refine s.mono ?_;rintro g d⟨rfl,q⟩;have o:Hs (Below w.1.size w d):=Xa (by rw[q];exact y);clear q)
  refine(F _ _ (Xb o _) (by rw[cell_of_row _ d.1.size 0 _ _ _<|heap_alloc_new d _];rfl)).mono ?_;rintro g P⟨e,B,rfl,z,C⟩;have A:w.1.size<=(d.alloc<|.cells #[.int .u8 10] 5).1.size:=(Xb o _).4;have E:=Xa<|l.o P _ e A B C;have D:=Xa<|(Xb o _).trans (z.mono A);clear z C B;generalize (d.alloc<|.cells #[.int .u8 10] 5).1.size=i at*;go_wp2;refine cC (v:=.tuple #[.slice (some ⟨i,0,none⟩) e e,.nilIface]) (by simp[results,results82,go_sem]) rfl ⟨E,D⟩
 have l:Hs (∀b,pV w.1.size b p a<|.returned (.tuple #[.slice none 0 0,T2 2 0])):=Xa λb=>⟨λh=>absurd h oM,λ_ _=>rfl,λ_ h=>absurd h hq⟩;rw[aM hq,dJ hq]at s;clear hq
 go_in
 go_wp2_with (go_at_call 135;refine s.mono ?_;rintro g d⟨rfl,q⟩;have o:Hs (Below w.1.size w d):=Xa (by rw[q];exact y);clear q)
 refine cC (v:=.tuple #[.slice none 0 0,T2 2 0]) (by simp[results,results82,go_sem,T2]) rfl ⟨l _,o⟩
def NP(k:Nat):Nat:=[dB k,aB k,bB k,iB k].count true
def NQ(k:Nat):Nat:=[(k:Int) != 1,(k:Int) != 3,(k:Int)==2].count true
theorem yI(a:List Bool)(b:List Addr)(h:a.length=b.length):(Yd a b).length=a.count true:=by
 induction a generalizing b with
 |nil=>rfl
 |cons x r c=>cases b with
  |nil=>simp at h
  |cons q s=>cases x<;>simp[Yd,c s<|by simpa using h]
def Nv(b a:Int):Uj:=.agg #[.int .i64 b,.int .i64 a]
def dr(a b n:Nat):Bool:=if a=0 then n==0 else if a=1 then decide (2<=n)else if a=2 then n==NP b else n==NQ b
theorem zA(h:w.ownsRow n m 1 a k y):∃b c,a=.slice b k c:=by
 obtain⟨b,c,rfl,_⟩:=UO h;have:=h.1;rw[iN]at this;exact⟨b,c,by rw[this]⟩
theorem LA(h:Jk w n 0 ⟨m,0,0,0,0⟩)(f:1<=m)(j:m<=10)(i:Yy w):
 Calls prog 199 #[Hn n] w λe d=>(∃a c,e=.returned (.slice a (NP m) c))/\Below w.1.size w d:=by
 refine(zE n m 0 0 0 0 w (Xa h) f oM (Xa i)).mono ?_;rintro e d⟨v,rfl,g,b⟩;obtain⟨a,c,rfl⟩:∃a c,v=.slice a (NP m) c:=by
  rw[yI _ _ rfl]at b;exact zA b
 exact⟨⟨a,c,rfl⟩,g⟩
theorem LR(i:Va w n 0 ⟨m,0,0,0⟩)(f:1<=m)(g:m<=3)(j:Yb w):
 Calls prog 200 #[Hn n] w λe d=>(∃a c,e=.returned (.slice a (NQ m) c))/\Below w.1.size w d:=by
 refine(zD (Xa i) f g (Xa j)).mono ?_;rintro e d⟨v,rfl,h,b⟩;obtain⟨a,c,rfl⟩:∃a c,v=.slice a (NQ m) c:=by
  rw[yI _ _ rfl]at b;exact zA b
 exact⟨⟨a,c,rfl⟩,h⟩
theorem Ad(k:Nat)(a:n=w.1.size):Jk (w.alloc<|.cells #[.int .i64 k,.int .i64 0,.int .i64 0,.int .i64 0,.int .i64 0] 66) n 0 ⟨k,0,0,0,0⟩:=by
 subst a;refine⟨?_,?_,?_,?_,?_⟩<;>rw[cell_of_row _ w.1.size _ _ _ _<|heap_alloc_new w _]<;>rfl
theorem z9(k:Nat)(a:n=w.1.size):Va (w.alloc<|.cells #[.int .i64 k,.int .i64 0,.int .i64 0,.int .i64 0] 56) n 0 ⟨k,0,0,0⟩:=by
 subst a;refine⟨?_,?_,?_,?_⟩<;>rw[cell_of_row _ w.1.size _ _ _ _<|heap_alloc_new w _]<;>rfl
theorem LP(z:n<=3)(y:k<=1000000)(d:n=2->1<=m/\m<=10)(e:n=3->1<=m/\m<=3)(o:Hs (Yy w))(p:Hs (Yb w)):
 Calls prog 176 #[Nv n m,Hp k] w λj v=>j=.returned (.bool (dr n m k))/\Below w.1.size w v:=by
 have s:n=0\/n=1\/n=2\/n=3:=oM;have a:Hs (∀q,Below w.1.size w<|w.alloc q):=Xa λq=>Xb (Below.refl _ _) q;unfold Nv;obtain rfl|rfl|rfl|rfl:=s
 .have b:Hs (dr 0 m k=((k:Int)==0)):=Xa (by
   show((k==0)=_);by_cases h:k=0;·subst h;rfl
   rw[iS.2 h,iS.2 oM])
  go_in
  go_wp2;go_ret;exact⟨Xl b.symm,a _⟩
 .have b:Hs (dr 1 m k=decide ((2:Int)<=k)):=Xa (by
   show decide _=decide _;rw[decide_eq_decide];omega)
  go_in
  go_wp2;go_ret;exact⟨Xl b.symm,a _⟩
 .have b:Hs (dr 2 m k=((k:Int)==(NP m:Int))):=Xa (by
   show((k==NP m)=_);by_cases h:k=NP m;·rw[<-h];simp
   rw[iS.2 h,iS.2 oM])
  have g:=Xa λW (h:Below w.1.size w W) i (l:i=W.1.size)=>LA (Ad m l) (d rfl).1 (d rfl).2 ((o.keep h o.1).keep (Xb (Below.refl W.1.size W) _) (aX o.1 h.4));generalize NP m=r at*
  go_in
  go_wp2_with (go_at_call 199;refine(g _ (a _) _ (ny _ _).symm).mono ?_;rintro j x⟨⟨t,u,rfl⟩,c⟩;have f:=Xa<|((a _).trans ((Xb (Below.refl _ _) _).mono (a _).4)).trans (c.mono (Xb (a _) _).4);clear c)
  go_ret;exact⟨Xl b.symm,f⟩
 have b:Hs (dr 3 m k=((k:Int)==(NQ m:Int))):=Xa (by
  show((k==NQ m)=_);by_cases h:k=NQ m;·rw[<-h];simp
  rw[iS.2 h,iS.2 oM])
 have g:=Xa λW (h:Below w.1.size w W) i (l:i=W.1.size)=>LR (z9 m l) (e rfl).1 (e rfl).2 ((p.keep h p.1).keep (Xb (Below.refl W.1.size W) _) (aX p.1 h.4));generalize NQ m=r at*
 go_in
 go_wp2_with (go_at_call 200;refine(g _ (a _) _ (ny _ _).symm).mono ?_;rintro j x⟨⟨t,u,rfl⟩,c⟩;have f:=Xa<|((a _).trans ((Xb (Below.refl _ _) _).mono (a _).4)).trans (c.mono (Xb (a _) _).4);clear c)
 go_ret;exact⟨Xl b.symm,f⟩
def cu(w:World)(b:Nat):List (Nat×Int)->World
 |[]=>w
 |(o,x)::r=>cu (w.setCell ⟨b,o,none⟩ (.int .i64 x)) b r
theorem yY(b o:Nat)(x:Int):∀(l:List (Nat×Int))(w:Ub),cu w b (l++[(o,x)])=(cu w b l).setCell ⟨b,o,none⟩ (.int .i64 x)
 |[],_=>rfl
 |(p,y)::r,w=>by rw[cW,cu,cu,yY b o x r]
theorem r8(b k:Nat)(h:k≠b):∀(l:List (Nat×Int))(w:Ub),(cu w b l).1[k]?=w.1[k]?
 |[],_=>rfl
 |(p,y)::r,w=>by rw[cu,r8 b k h r,Below.heap_setCell _ _ _ _ h]
theorem se(b:Nat):∀(l:List (Nat×Int))(w:Ub),(cu w b l).1.size=w.1.size
 |[],_=>rfl
 |(p,y)::r,w=>by rw[cu,se b r,Xd]
theorem zv{b t N:Nat}:∀(l:List (Nat×Int))(w:Ub)(f:Vu),w.rowIs b t N f->∃g,(cu w b l).rowIs b t N g
 |[],_,f,h=>⟨f,h⟩
 |(p,y)::r,w,_,h=>by rw[cu];exact zv r _ _<|h.set p _
theorem Mf{e o f:Nat}{l:List (Nat×Int)}(C:Hs (B=l.length))(J:Hs (B<=g))(hn:B<=1000000)(M:Hs (w.rowIs n m k h))(H:Hs (∀t∈l,t.1<k))(L:Hs (Zx w c e p<|l.map λt=>Tx<|Hk n t.1))(I:Hs (Xf w o f P (l.map (·.2))))(V:n<c\/e<=n)(W:n<o\/f<=n):
 Calls prog 203 #[.slice p B i,.slice P g j] w λE N=>E=.returned (.tuple #[])/\N=cu w n l:=by
 go_in
 go_wp2
 go_loopw [8] (λr wr=>∃a:Nat,a<=B/\r=Hp a/\Hs (wr=cu w n (l.take a))) λr _=>B-(intOf r).toNat
 case atStart=>exact⟨0,aN,rfl,Xa rfl⟩
 obtain⟨a,hk,rfl,v⟩:=hrel;by_cases aa:a<B
 .have d:a<l.length:=oN C.o;let⟨S,A⟩:=zv (l.take a) w h M;have b:=Xa A;have x:YA c e w (cu w n<|l.take a):=λs F G=>r8 n s oM _ _;have y:YA o f w (cu w n<|l.take a):=λs F G=>r8 n s oM _ _;obtain⟨Q,o3,rfl,T,q⟩:=(L.keepS x) a (by simpa using d);obtain⟨R,o4,rfl,U,z⟩:=(I.keepS y) a (by simpa using d);rw[cM]at q z;unfold Tx at q;have u:Hs (cu w n (l.take<|a+1)=(cu w n<|l.take a).setCell (Hk n<|l[a].1) (Hp l[a].2)):=Xa (by rw[bN d,yY]);have K:=H l[a] (aH d);rw[<-v.o]at q z b u;have ac:=Xa<|Jp (m:=1) b (o:=l[a].1) oM;have ab:(a:Int)<(g:Int):=oN J.o;generalize l[a].1=O at*;generalize l[a].2=X at*;have Y:=b.cell K;have Z:=b.frozen O;go_wp2;exact⟨⟨a+1,oM,gM,Xa u.symm⟩,by simp[intOf];omega⟩
 have D:Hs (wr=cu w n l):=Xa (by rw[v.o,aW<|oN C.o]);go_wp2;exact bodyPost_end (v:=.tuple #[]) (by simp[results,results203,go_sem]) rfl ⟨rfl,D⟩
structure nW(w:Ub)(R:Nat)(wd:Uj)(vals:Int)(ga:Uy)(n c:Nat)(op:Bool):Prop where
 words:w.cell? ⟨R,0,none⟩=some wd
 values:w.cell? ⟨R,1,none⟩=some (.int .i64 vals)
 blocks:w.cell? ⟨R,2,none⟩=some (.slice ga n c)
 opened:w.cell? ⟨R,3,none⟩=some (.bool op)
theorem pP(R:Nat)(h:Uj)(d:Int)(g n c:Nat)(b:Bool)(w:Ub)(a:nW w R h d (some ⟨g,0,none⟩) (n+1) c b)(i:n<=1000000):
 Calls prog 202 #[Hn R] w λe f=>e=.returned (Ho g<|n*6)/\f=w.drew:=by
 have c2:=a.3
 go_in
 go_wp2;go_region;go_wp2;go_ret;exact⟨rfl,rfl⟩
def sR(b:Nat)(a:Bool)(c:Nat):Bool:=if b=0 then !a else if b=1 then a&&c==0 else a
theorem yM(R:Nat)(q:Uj)(p:Int)(o:Uy)(g n c:Nat)(i:Bool)(y:Uy)(b z a t:Nat)(w:Ub)(d:Hs (nW w R q p o n c i))(D:n<=1000000)(f:R<w.1.size)(E:a<=3)(x:Hs (i=true->o=some (Hk g 0)/\1<=n/\g<w.1.size/\w.cell? (Hk g<|(n-1)*6+1)=some (.slice y b z))):
 Calls prog 178 #[Hn R,Nv a t] w λe j=>e=.returned (.bool (sR a i b))/\Below w.1.size w j:=by
 have c3:=d.4;have u:a=0\/a=1\/a=2\/a=3:=oM;unfold Nv;obtain rfl|rfl|rfl|rfl:=u
 .go_in
  go_wp2;go_ret;exact⟨rfl,Xb (Below.refl _ _) _⟩
 .cases i with
  |false=>
   go_in
   go_wp2;go_ret;exact⟨rfl,Xb (Below.refl _ _) _⟩
  |true=>
   obtain⟨rfl,B,C,v⟩:=x rfl;obtain⟨m,rfl⟩:∃m,n=m+1:=⟨n-1,oM⟩;have s:Hs (sR 1 true b=((b:Int)==0)):=Xa (by
    show((b==0)=_);by_cases k:b=0;·subst k;rfl
    rw[iS.2 k,iS.2 oM])
   rw[Nat.add_sub_cancel]at v;have r:Hs (∀W,Below w.1.size w W->Calls prog 202 #[Hn R] W λe j=>e=.returned (Ho g<|m*6)/\j=W.drew):=Xa λW h=>pP R q p g m c true W ⟨oB h d.1 f,oB h d.2 f,oB h d.3 f,oB h d.4 f⟩ oM
   go_in
   go_wp2_with (go_at_call 202;refine(r _<|Xb (Below.refl _ _) _).mono ?_;rintro e A⟨rfl,l⟩;rw[l];clear l A)
   go_ret;exact⟨Xl s.symm,(Xb (Below.refl _ _) _).drew⟩
 .go_in
  go_wp2;go_ret;exact⟨rfl,Xb (Below.refl _ _) _⟩
 go_in
 go_wp2;go_ret;exact⟨rfl,Xb (Below.refl _ _) _⟩
section
open Go.Maps
def fh(v:Value):Option (DataW Unit×List MemPlace):=match v with
 |.agg a=>match a.1 with
  |[.int .i64 r,.int .i64 c]=>some (.agg [.lit (.int .i64 r),.lit (.int .i64 c)],[])
  |_=>none
 |_=>none
def No(r c:Int):DataW Unit:=.agg [.lit (.int .i64 r),.lit (.int .i64 c)]
theorem pW(r c:Int):fh (Nv r c)=some (No r c,[]):=rfl
theorem Qk:Keyed prog 9:=string_keyed underlying9
def OZ:Nat->DataW Unit
 |0=>((DataW.map []).put (.string eh) (No 0 0)).put (.string fm) (No 1 0)
 |k+1=>(OZ k).put (.string (bz ((k:Nat)+1:Nat))) (No 2 ((k:Nat)+1:Nat))
def OQ:Nat->DataW Unit
 |0=>OZ 10
 |k+1=>(OQ k).put (.string (gx ((k:Nat)+1:Nat))) (No 3 ((k:Nat)+1:Nat))
theorem I1(B:Hs (Yy w))(C:Hs (Yb w)):
 Calls prog 84 #[] w λF D=>F=.returned (.map (some w.1.size))/\Below w.1.size w D/\D.ownsMap prog 9 fh w.1.size 15 (OQ 3):=by
 have P:=@run_makeMap prog;let⟨r,z,x,h⟩:=(World.ownsMap_made w prog 9 fh).update Qk underlying153 vY (Go.WideMaps.keyOf_string_mk underlying9 (s:=K8 eh) vY) (pW 0 0);let⟨s,A,y,t⟩:=x.update Qk underlying153 vY (Go.WideMaps.keyOf_string_mk underlying9 (s:=K8 fm) vY) (pW 1 0);have H:(Instr.mapUpdate 153 (.map (some w.1.size)) (.string ⟨#[98,108,111,99,107]⟩) (.agg #[Hp 0,Hp 0])).run prog (w.alloc<|.map #[] 0)=.ok () r:=z;have I:(Instr.mapUpdate 153 (.map (some w.1.size)) (.string ⟨#[112,104,105]⟩) (.agg #[Hp 1,Hp 0])).run prog r=.ok () s:=A;have q:Hs (s.ownsMap prog 9 fh w.1.size 2<|OZ 0):=Xa y;have o:=Xa (((Xb (Below.refl _ _) _).grown h (Xb (Below.refl _ _) _).4 λk d=>by cases d;exact aA).grown t (aJ (Xb (Below.refl _ _) _).4 h.4) λk d=>by cases d;exact aA);clear z A x y h t
 go_in
 go_wp2
 go_loopw [2] (λi wr=>∃k:Nat,k<=10/\i=Hp ((k:Int)+1)/\Hs (Below w.1.size w wr)/\Hs (wr.ownsMap prog 9 fh w.1.size (k+2) (OZ k))) λi _=>11-(intOf i).toNat
 case atStart=>exact⟨0,oM,rfl,o,q⟩
 clear H I q o;obtain⟨k,d,rfl,b,c⟩:=hrel;by_cases l:k<10
 .obtain⟨J,-⟩:=(B.keep b B.1).2 (k+1) oM oM
  have f:Hs (keyOf prog 9 (.string (K8<|bz ((k+1:Nat):Int)))=some (.string (bz ((k+1:Nat):Int)))):=Xa (Go.WideMaps.keyOf_string_mk underlying9 (s:=K8<|bz ((k+1:Nat):Int)) (by
   have g:k=0\/k=1\/k=2\/k=3\/k=4\/k=5\/k=6\/k=7\/k=8\/k=9:=oM;obtain rfl|rfl|rfl|rfl|rfl|rfl|rfl|rfl|rfl|rfl:=g<;>decide))
  have e:Hs (OZ (k+1)=(OZ k).put (.string (bz ((k+1:Nat):Int))) (No 2 ((k+1:Nat):Int))):=Xa rfl;generalize n:bz ((k+1:Nat):Int)=L at*;clear n;go_wp2_with (at_mapUpdate;refine wpList_mapUpdate_own _ rfl _ _ _ 153 rfl 9 225 Qk underlying153 fh w.1.size (k+2) _ rfl c (by unfold maxLen;omega) _ _ _ rfl rfl f (No 2 ((k+1:Nat):Int)) [] (pW 2 _) ?_;intro K m j)
  exact⟨⟨k+1,oM,sP,Xa (b.grown j b.4 λk d=>by cases d;exact aA),Xa<|by rw[e.o];exact m⟩,by simp[intOf];omega⟩
 have u:k=10:=oM;have M:¬((k:Int)+1<=10):=oM;have p:Hs (wr.ownsMap prog 9 fh w.1.size 12<|OQ 0):=Xa (by have:=c.o;rw[u]at this;exact this);clear l u c;generalize wr=R at*;go_wp2
 go_loopw [3] (λi wr=>∃k:Nat,k<=3/\i=Hp ((k:Int)+1)/\Hs (Below w.1.size w wr)/\Hs (wr.ownsMap prog 9 fh w.1.size (k+12) (OQ k))) λi _=>4-(intOf i).toNat
 case atStart=>exact⟨0,oM,rfl,b,p⟩
 clear b p;obtain⟨a,O,rfl,b,c⟩:=hrel;by_cases l:a<3
 .obtain⟨J,-⟩:=(C.keep b C.1).2 (a+1) oM oM
  have f:Hs (keyOf prog 9 (.string (K8<|gx ((a+1:Nat):Int)))=some (.string (gx ((a+1:Nat):Int)))):=Xa (Go.WideMaps.keyOf_string_mk underlying9 (s:=K8<|gx ((a+1:Nat):Int)) (by
   have g:a=0\/a=1\/a=2:=oM;obtain rfl|rfl|rfl:=g<;>decide))
  have e:Hs (OQ (a+1)=(OQ a).put (.string (gx ((a+1:Nat):Int))) (No 3 ((a+1:Nat):Int))):=Xa rfl;generalize n:gx ((a+1:Nat):Int)=L at*;clear n;go_wp2_with (at_mapUpdate;refine wpList_mapUpdate_own _ rfl _ _ _ 153 rfl 9 225 Qk underlying153 fh w.1.size (a+12) _ rfl c (by unfold maxLen;omega) _ _ _ rfl rfl f (No 3 ((a+1:Nat):Int)) [] (pW 3 _) ?_;intro K m j)
  exact⟨⟨a+1,oM,sP,Xa (b.grown j b.4 λQ G=>by cases G;exact aA),Xa<|by rw[e.o];exact m⟩,by simp[intOf];omega⟩
 have v:a=3:=oM;have N:¬((a:Int)+1<=3):=oM;have E:Hs (wr.ownsMap prog 9 fh w.1.size 15<|OQ 3):=Xa (by have:=c.o;rw[v]at this;exact this);clear l v c;go_wp2;go_ret;exact⟨rfl,b,E⟩
end
section
open Go.Maps
def fy(f:Wn):Option (Nat×Nat) :=
 if D2 f≠0 then some (2,(D2 f).toNat)else if f=eh then some (0,0)else if f=fm then some (1,0)else if f=fg then some (3,1)else if f=Vn then some (3,2)else if f=ew then some (3,3)else none
theorem pZ{D:DataW Unit}(h:IsMap D)(g f:Wn)(d z:DataW Unit):(D.put (.string g) d).atKey (.string f) z=if g=f then d else D.atKey (.string f) z:=by
 by_cases e:g=f;·subst e;rw[aU rfl,atKey_put_same h (k:=.string g) (by simp[WideAt.IsKeyLit])]
 rw[aM e,atKey_put_other λq=>e<|by cases q;rfl]
theorem sF:∀k,IsMap<|OZ k
 |0=>(isMap_empty.put _ _).put _ _
 |k+1=>(sF k).put _ _
theorem z8:∀k,IsMap<|OQ k
 |0=>sF 10
 |k+1=>(z8 k).put _ _
theorem MI{f:Wn}(z:DataW Unit):(OZ 0).atKey (.string f) z=if fm=f then No 1 0 else if eh=f then No 0 0 else z:=by
 show(((DataW.map []).put (.string eh) (No 0 0)).put (.string fm) (No 1 0)).atKey _ _=_;rw[pZ<|isMap_empty.put _ _,pZ isMap_empty];rfl
theorem jd(f:Wn)(z:DataW Unit)(k:Nat):(OZ<|k+1).atKey (.string f) z=if bz ((k+1:Nat):Int)=f then No 2 ((k+1:Nat):Int)else (OZ k).atKey (.string f) z:=pZ (sF k) _ _ _ _
theorem sQ(f:Wn)(z:DataW Unit)(k:Nat):(OQ<|k+1).atKey (.string f) z=if gx ((k+1:Nat):Int)=f then No 3 ((k+1:Nat):Int)else (OQ k).atKey (.string f) z:=pZ (z8 k) _ _ _ _
theorem M2{f:Wn}(z:DataW Unit):(OZ 10).atKey (.string f) z=if D2 f≠0 then No 2 (D2 f)else (OZ 0).atKey (.string f) z:=by
 have d:(OZ 10).atKey (.string f) z=_:=(jd f z 9).trans (fI _<|(jd f z 8).trans (fI _<|(jd f z 7).trans (fI _<|(jd f z 6).trans (fI _<|(jd f z 5).trans (fI _<|(jd f z 4).trans (fI _<|(jd f z 3).trans (fI _<|(jd f z 2).trans (fI _<|(jd f z 1).trans (fI _<|jd f z 0)))))))));by_cases b:D2 f=0
 .have a:∀j:Nat,j<10->bz ((j+1:Nat):Int)≠f:=λj k e=>by
   subst e;have c:j=0\/j=1\/j=2\/j=3\/j=4\/j=5\/j=6\/j=7\/j=8\/j=9:=oM;obtain rfl|rfl|rfl|rfl|rfl|rfl|rfl|rfl|rfl|rfl:=c<;>exact absurd b vY
  rw[d,aM<|a 9 oM,aM<|a 8 oM,aM<|a 7 oM,aM<|a 6 oM,aM<|a 5 oM,aM<|a 4 oM,aM<|a 3 oM,aM<|a 2 oM,aM<|a 1 oM,aM<|a 0 oM,aM λq:D2 f≠0=>q b]
 rw[aU b,d];obtain q|⟨j,h,i,g,rfl⟩:=oH f 10 1;·exact absurd q b
 have e:D2 (bz j)=j:=g;rw[e];have c:j=1\/j=2\/j=3\/j=4\/j=5\/j=6\/j=7\/j=8\/j=9\/j=10:=oM;obtain rfl|rfl|rfl|rfl|rfl|rfl|rfl|rfl|rfl|rfl:=c<;>rfl
def sY(o:Option (Nat×Nat))(z:DataW Unit):DataW Unit:=match o with
 |some (r,c)=>No r c
 |none=>z
theorem L9(f:Wn)(z:DataW Unit):(OQ 3).atKey (.string f) z=sY (fy f) z:=by
 rw[sQ f z 2,sQ f z 1,sQ f z 0];show(if ew=f then No 3 3 else if Vn=f then No 3 2 else if fg=f then No 3 1 else (OZ 10).atKey (.string f) z)=_;rw[M2,MI];unfold fy;by_cases a:D2 f=0
 .rw[aM λq:D2 f≠0=>q a,aM λq:D2 f≠0=>q a];by_cases e1:f=ew;·subst e1;rfl
  by_cases e2:f=Vn;·subst e2;rfl
  by_cases e3:f=fg;·subst e3;rfl
  by_cases e4:f=fm;·subst e4;rfl
  by_cases e5:f=eh;·subst e5;rfl
  rw[aM<|kA e1,aM<|kA e2,aM<|kA e3,aM<|kA e4,aM<|kA e5,aM e5,aM e4,aM e3,aM e2,aM e1];rfl
 let⟨⟨b,_⟩,e5,e3,e1,e2,e4⟩:=oL a;rw[aM<|kA e1,aM<|kA e2,aM<|kA e3,aU a,aU a];show No 2 (D2 f)=No ((2:Nat):Int) ((D2 f).toNat:Int);rw[fR oM];rfl
theorem Ql(w:Ub):(zeroValue 225).run prog w=.ok (Nv 0 0) w:=vZ
theorem LH{c:Int}{e:List MemPlace}(h:fh a=some (No t c,e)):a=Nv t c:=by
 unfold fh at h;split at h
 .rename_i f;split at h
  .rename_i i g ha;have b:=fI Prod.fst<|gQ h;simp only[No]at b;injection b with d;simp only[List.cons.injEq,DataW.lit.injEq,Lit.int.injEq,true_and,and_true]at d;obtain⟨rfl,rfl⟩:=d;unfold Nv;congr 1;apply Array.ext';rw[ha]
  cases h
 cases h
theorem yX(h:w.ownsMap prog 9 fh n 15 (OQ 3)){f:Wn}(o:f.length<=1000000):(Instr.lookup 153 (.map (some n)) (.string (K8 f)) true).run prog w=.ok (match fy f with|some (r,c)=>.tuple #[Nv r c,.bool true]|none=>.tuple #[Nv 0 0,.bool false]) w:=by
 let⟨m,l,e,F,_,b⟩:=h;have g:keyOf prog 9 (.string (K8 f))=some (.string f):=Go.WideMaps.keyOf_string_mk underlying9 (s:=K8 f) (by rw[i7];unfold maxLen;omega);have a:=λz=>L9 f z;obtain⟨hrun,_,hz⟩|⟨e0,y,_,_,hrun,hR,hz,_⟩:=Maps.fit_look true Qk underlying153 (Ql w) e F g
 .have i:fy f=none:=by
   cases hw:fy f with
   |none=>rfl
   |some d=>
    have q:=a<|.lit (.bool true);rw[b,hz,hw]at q;exact absurd q<|by simp[sY,No]
  rw[hrun,i];rfl
 cases hw:fy f with
 |none=>
  have q1:=a<|.lit (.bool true);have q2:=a<|.lit (.bool false);rw[b,hz,hw]at q1 q2;exact absurd (q1.symm.trans q2) (by simp[sY])
 |some d=>
  have q:=a<|.lit (.bool true);rw[b,hz,hw]at q;let⟨k,p⟩:=y;have j:k=No d.1 d.2:=q;subst j;rw[hrun,LH hR];rfl
end
def oO(w:Ub)(b B:Nat)(c:Uy)(a:Vw):Prop:=∀i (h:i<a.length),∃g o v,c=some ⟨g,o,none⟩/\g<B/\w.cell? ⟨g,o+i,none⟩=some v/\mf w b v a[i]
theorem oO.keep{w':Ub}{a:Vw}(h:oO w n m p a)(k:Below m w w')(c:n<m):oO w' n m p a:=λj f=>by
 let⟨g,o,v,e,b,d,i⟩:=h j f;exact⟨g,o,v,e,b,oB k d b,i.keep<|k.5 n c⟩
def FZ(b a n i:Nat):Bool:=decide (b=2)&&(decide (a=1)&&decide (i+1=n))
def Np(c:Bool)(f:Wn):Bool:=if c then NM f else Ax f 4
def NY(c:Bool)(f:Wn):Int:=if c then fp f else NF f 4
def bg(q:Nat->Bool):Nat->List (List UInt8)->Bool
 |_,[]=>true
 |i,f::r=>Np (q i) f&&bg q (i+1) r
def GI(q:Nat->Bool):Nat->List (List UInt8)->List Int
 |_,[]=>[]
 |i,f::r=>NY (q i) f::GI q (i+1) r
theorem zG(q:Ys)(f:Wn):∀(l:Vw)(i:Nat),bg q i (l++[f])=(bg q i l&&Np (q<|i+l.length) f)
 |[],i=>by simp[bg]
 |x::r,i=>by
  rw[cW,bg,bg,zG q f r<|i+1,Bool.and_assoc,bA,show i+1+r.length=i+(r.length+1) by omega]
theorem yU(q:Ys)(f:Wn):∀(l:Vw)(i:Nat),GI q i (l++[f])=GI q i l++[NY (q<|i+l.length) f]
 |[],i=>by simp[GI]
 |x::r,i=>by
  rw[cW,GI,GI,yU q f r<|i+1,cW,bA,show i+1+r.length=i+(r.length+1) by omega]
theorem zj(q:Ys):∀(l:Vw)(i:Nat),(GI q i l).length=l.length
 |[],_=>rfl
 |x::r,i=>by rw[GI,bA,bA,zj q r]
theorem zX(q:Ys):∀(l:Vw)(i k:Nat)(h:k<l.length),Np (q<|i+k) l[k]=false->bg q i l=false
 |x::r,i,0,_,e=>by rw[bg];simp only[fW,eM]at e;rw[e];rfl
 |x::r,i,k+1,h,e=>by
  rw[bg,zX q r (i+1) k (by simpa using h) (by rw[show i+1+k=i+(k+1) by omega];simpa using e),Bool.and_false]
theorem MD(a:Ub):∀(i:Nat)(v:Uj),[Value.int .i64 t][i]?=some v->(a.alloc<|Obj.cells #[Value.int .i64 t] 2).cell? ((⟨a.1.size,0,none⟩:Addr).add i)=some v:=λi v b=>by
 have:i=0:=by
  cases i with
  |zero=>rfl
  |succ j=>simp at b
 subst this;simp at b;subst b;rw[mK,cell_of_row _ a.1.size _ _ _ _<|heap_alloc_new a _];rfl
theorem L7:∀u∈[Hp t],u.oneCell'=true:=λu a=>by
 rw[cS]at a;subst a;rfl
def sy(H:Nat)(b:Ub)(q:Ys)(a:Vw)(e:Ending):Prop :=
 (bg q 0 a=true->∃v,e=.returned (.tuple #[v,.bool true])/\b.ownsRow H 2 1 v a.length ((GI q 0 a).map (Value.int .i64)))/\(bg q 0 a=false->e=.returned (.tuple #[.slice none 0 0,.bool false]))
theorem IK(c:Nat){b:Vw}(x:Hs (k=b.length))(hn:k<=1000000)(W:c<g)(U:g<=w.1.size)(ha:Hs (oO w c g p b))(Z:Hs (∀o∈b,o.length<=1000000)):
 Calls prog 177 #[Nv n m,.slice p k B] w λe d=>Below w.1.size w d/\sy w.1.size d (FZ n m k) b e:=by
 let⟨i0,aa,aj,al,ao⟩:=fX RH;have F:Hs (∀i,FZ n m k i=(decide (n=2)&&(decide (m=1)&&decide (i+1=k)))):=Xa λi=>rfl;generalize FZ n m k=q at*;unfold Nv
 go_in
 go_wp2
 go_loopw [6,15] (λap i wr=>∃a:Nat,a<=k/\i=Hp a/\Hs (Below w.1.size w wr)/\w.1.size<wr.1.size/\wr.cell? (Hk w.1.size 0)=some (Hp n)/\wr.cell? (Hk w.1.size 1)=some (Hp m)/\Hs (bg q 0 (b.take a)=true)/\Hs (wr.ownsRow (w.1.size+1) 2 1 ap a ((GI q 0<|b.take a).map (Value.int .i64)))) λ_ i _=>k-(intOf i).toNat
 case atStart=>exact⟨0,aN,rfl,Xa<|Xb (Xb (Below.refl _ _) _) _,by simp;omega,sP,sP,Xa rfl,Xa<|K5 _ _⟩
 obtain⟨a,hk,rfl,l,L,Y,X,A,E⟩:=hrel;have af:=l.4;by_cases az:a<k
 .have j:a<b.length:=oN x.o;obtain⟨aq,a0,a1,rfl,hg,ar,y,c2,rfl,v,u⟩:=(ha.keep (l.mono U) W) a j;replace v:=v.1;have D:=Z b[a] (aH j);have P:=Xa (λh=>zX q b 0 a j<|by rw[aV];exact h);have R:Hs (bg q 0 (b.take<|a+1)=(bg q 0 (b.take a)&&Np (q a) b[a])):=Xa (by rw[bN j,zG,dH,jZ oM,aV]);have S:Hs (GI q 0 (b.take<|a+1)=GI q 0 (b.take a)++[NY (q a) b[a]]):=Xa (by rw[bN j,yU,dH,jZ oM,aV]);have H:Hs ((q a=true->Calls prog 201 #[Hm c y b[a].length c2] wr λe d=>e=.returned (.tuple #[Hp<|NY (q a) b[a],.bool (Np (q a) b[a])])/\Below wr.1.size wr d)/\(q a=false->Calls prog 138 #[Hm c y b[a].length c2] wr λe d=>e=.returned (.tuple #[Hp<|NY (q a) b[a],.bool (Np (q a) b[a])])/\Below wr.1.size wr d)):=Xa ⟨λh=>by rw[h];exact II c (Xa<|oI u oM) (Xa rfl) v D aA,λh=>by rw[h];exact pJ (some ⟨c,y,none⟩) b[a].length c2 b[a] c wr.1.size wr (Xa<|oI u oM) (Xa rfl) D aA⟩;clear u;generalize b[a]=o at*;generalize Np (q a) o=ok at*;generalize NY (q a) o=va at*;have K:=F a;have e1:((n:Int)==2)=decide (n=2):=eQ.2 (by rw[iA,decide_eq_true_iff];omega);have e2:((m:Int)==1)=decide (m=1):=eQ.2 (by rw[iA,decide_eq_true_iff];omega);have e3:((a:Int)==(k:Int)-1)=decide (a+1=k):=eQ.2 (by rw[iA,decide_eq_true_iff];omega);generalize decide (n=2)=d1 at*;generalize decide (m=1)=d2 at*;generalize decide (a+1=k)=d3 at*;clear F;cases d1<;>cases d2<;>cases d3
  all_goals
   have G:=Xa K;clear K;go_wp2_with fail
   (first|(go_at_call 201;refine(H.1 G).mono ?_)|(go_at_call 138;refine(H.2 G).mono ?_))
   rintro e z⟨rfl,f⟩;have C:=Xa<|l.trans (f.mono af);have s:=Xa<|rk E f;have T:=Xa<|f.5 w.1.size L;have ad:=aX L f.4;clear f;cases ok
   .go_wp2;exact cC (v:=.tuple #[Hq,.bool false]) (by simp[results,results177,go_sem]) rfl ⟨C,λh=>absurd ((P sP).symm.trans h) vY,λ_=>rfl⟩
   go_wp2_with (at_builtin;refine bT _ rfl _ _ 41 rfl (w.1.size+1) 2 i0 (Hp 0) 1 8 underlying41 aa aj al ao rfl vY _ _ _ rfl (s.alloc _) (Hk z.1.size 0) 1 1 [Hp va] rfl rfl (MD z) (L7) (by unfold maxLen;omega) oM (by first|omega|(simp;omega)) ?_)
   intro v1 M J r ab V;have Q:Hs (M.ownsRow (w.1.size+1) 2 1 v1 (a+1) ((GI q 0<|b.take (a+1)).map (Value.int .i64))):=Xa (by rw[S.o,Yl];exact J);have O:=Xa (Xy (Xb C _) r (s.alloc _) oM (by rw[ny];omega));have t:=(YJ r (s.alloc _) (@iJ w.1.size) (by rw[ny];omega)).trans ((Below.heap_alloc z _ w.1.size ad).trans T);have c0:=(Xc t).trans Y;have c1:=(Xc t).trans X;have ac:w.1.size<M.1.size:=aX (by rw[ny];omega) r.4;clear J r ab V t;go_wp2;exact⟨⟨a+1,oM,gM,O,ac,c0,c1,Xa (by rw[R.o,A.o];rfl),Q⟩,by simp[intOf];omega⟩
 have I:b.take a=b:=aW<|oN x.o;have N:Hs (sy w.1.size wr q b<|.returned (.tuple #[u6,.bool true])):=Xa ⟨λ_=>⟨u6,rfl,by have:=E.o;rw[I,show a=b.length by have:=x.o;omega]at this;exact Zk this<|gX⟩,λh=>by have:=A.o;rw[I,h]at this;exact absurd this vY⟩;go_wp2;refine cC (v:=.tuple #[u6,.bool true]) (by simp[results,results177,go_sem]) rfl ⟨l,N⟩
section
open Go.Maps
theorem zp(q:Ys):∀(r:Vw)(i:Nat),bg q i r=(List.range r.length).all λj=>match r[j]? with|some f=>Np (q<|i+j) f|none=>true
 |[],_=>rfl
 |f::r,i=>by
  rw[bg,bA,List.range_succ_eq_map,List.all_cons,List.all_map,zp q r<|i+1];congr 1;congr 1;funext j;simp only[Function.comp,List.getElem?_cons_succ];rw[show i+1+j=i+(j+1) by omega]
theorem Ag{f:Wn}:decide (0<=Gb f)=Ax f 4:=by
 unfold Gb;cases h:Ax f 4 with
 |true=>rw[aU rfl];simp
 |false=>rw[aM vY];rfl
theorem MZ{w:Wn}{r:Vw}{f:Wn}:jw (w::r) (n+1) f=Np (decide (w=fw)&&decide (n=1)) f:=by
 unfold jw Np;by_cases h:w=fw
 .by_cases a:n=1;·rw[aU ⟨by rw[h];rfl,oM⟩];simp[h,a]
  rw[aM λq=>a oM,Ag];simp[a]
 rw[aM λq=>h<|gQ q.1,Ag];simp[h]
theorem LC{w:Wn}{r:Vw}:gu (w::r) r.length=bg (λi=>decide (w=fw)&&decide (i=1)) 0 r:=by
 rw[zp];unfold gu;congr 1;funext i;rw[List.getElem?_cons_succ];cases r[i]? with
 |none=>rfl
 |some f=>simp only[MZ,aV]
theorem zc{q a:Ys}(h:∀i,q i=a i):∀(r:Vw)(i:Nat),bg q i r=bg a i r
 |[],_=>rfl
 |f::r,i=>by rw[bg,bg,h i,zc h r]
theorem Lx(b:1<=n)(c:n<=10):(Kz n).size=NP n:=by
 have a:n=1\/n=2\/n=3\/n=4\/n=5\/n=6\/n=7\/n=8\/n=9\/n=10:=oM;obtain rfl|rfl|rfl|rfl|rfl|rfl|rfl|rfl|rfl|rfl:=a<;>decide
theorem zF(w:Wn)(n:Nat):match fy w with
 |none=>NJ w (n+1)=0
 |some (ro,co)=>NJ w (n+1)≠0/\(dr ro co n=true↔n+1=NJ w (n+1))/\(dr ro co n=true->∀i,FZ ro co n i=(decide (w=fw)&&decide (i=1)))/\ro<=3/\(ro=2->1<=co/\co<=10)/\(ro=3->1<=co/\co<=3):=by
 unfold fy NJ;by_cases a:D2 w=0
 .have b:w≠fw:=λe=>by subst e;exact absurd a vY
  rw[aM λq:D2 w≠0=>q a,aM λq:D2 w≠0=>q a];by_cases e5:w=eh
  .subst e5;rw[aU rfl,aU rfl];refine⟨vY,?_,λ_ i=>by simp[FZ,b],vY,vY,vY⟩;simp[dr]
  rw[aM e5,aM e5];by_cases e4:w=fm
  .subst e4;rw[aU rfl,aM vY,aM vY,aM vY,aU rfl];refine⟨by split<;>omega,?_,λ_ i=>by simp[FZ,b],vY,vY,vY⟩;simp only[dr];split<;>simp<;>omega
  rw[aM e4];by_cases e3:w=fg
  .subst e3;rw[aU rfl,aU rfl];refine⟨vY,?_,λ_ i=>by simp[FZ,b],vY,vY,vY⟩;show((n==NQ 1)=true)↔_;rw[show NQ 1=1 by decide];simp
  rw[aM e3,aM e3];by_cases e2:w=Vn
  .subst e2;rw[aU rfl,aM vY,aU rfl];refine⟨vY,?_,λ_ i=>by simp[FZ,b],vY,vY,vY⟩;show((n==NQ 2)=true)↔_;rw[show NQ 2=3 by decide];simp
  rw[aM e2];by_cases e1:w=ew
  .subst e1;rw[aU rfl,aU rfl];refine⟨vY,?_,λ_ i=>by simp[FZ,b],vY,vY,vY⟩;show((n==NQ 3)=true)↔_;rw[show NQ 3=1 by decide];simp
  rw[aM e1,aM e1,aM e2,aM e4]
 rw[aU a,aU a];let⟨⟨r,s⟩,_⟩:=oL a;let⟨k,h⟩:∃k:Nat,D2 w=k:=⟨(D2 w).toNat,oM⟩;have d:1<=k:=oM;have f:k<=10:=oM;rw[h,Lx d f];refine⟨oM,?_,λl i=>?_,vY,λ_=>⟨by simpa using d,by simpa using f⟩,λq=>absurd q vY⟩
 .show((n==NP _)=true)↔_;rw[iA,dM];omega
 have m:n=NP k:=by
  have:((n==NP ((k:Int).toNat))=true):=l;rw[iA,dM]at this;exact this
 rw[dM];obtain q|⟨j,t,u,o,p⟩:=oH w 10 1;·exact absurd q a
 have g:j=k:=by have:D2 w=j:=o;omega
 subst g;by_cases c:j=1
 .subst c;have:w=fw:=p.symm;subst this;rw[m];show(decide _&&(decide _&&decide (i+1=NP 1)))=_;rw[show NP 1=2 by decide];simp
 have b:w≠fw:=λe=>by
  subst e;have:D2 fw=1:=vY;omega
 simp[FZ,c,b]
theorem LU(w:Wn)(r:Vw):C0 (w::r)=match fy w with
 |none=>5
 |some (c,b)=>if dr c b r.length=true then (if bg (FZ c b r.length) 0 r=true then 0 else 7)else 6:=by
 have h:=zF w r.length;unfold C0;simp only[List.headD_cons,bA,Nat.add_sub_cancel];cases hw:fy w with
 |none=>
  rw[hw]at h;rw[aU h]
 |some g=>
  let⟨c,b⟩:=g;rw[hw]at h;let⟨e,d,f,_⟩:=h;rw[aM e];by_cases a:dr c b r.length=true
  .rw[aM λq=>q<|d.1 a,LC,zc λi=>(f a i).symm];simp only[a,gG]
  rw[aU λq=>a<|d.2 q];simp only[a];rfl
end
theorem GZ(ha:Hs (Xf w m k p l))(j:Hs (n=l.length))(x:n<=1048576)(h:Hs (t∈l)):
 Calls prog 185 #[.slice p n c,Hp t] w λe o=>e=.returned (Hp<|de l t)/\o=w:=by
 have g:=pC h;have d:=yq g;generalize r:de l t=I at*
 go_in
 go_wp2
 go_loopw [8] (λi wr=>∃a:Nat,a<=I/\i=Hp a/\wr=w) λi _=>n-(intOf i).toNat
 case atStart=>exact⟨0,aN,rfl,rfl⟩
 obtain⟨a,u,rfl,rfl⟩:=hrel;have b:a<l.length:=oM;have v:a<n:=oN j.o;obtain⟨q,y,rfl,_,f⟩:=ha a b;by_cases e:a=I
 .subst e;rw[d]at f;go_wp2;go_ret;exact⟨rfl,rfl⟩
 have s:(t==l[a])=false:=Is oM b;generalize l[a]=X at*;go_wp2;exact⟨⟨a+1,oM,gM,trivial⟩,by simp[intOf];omega⟩
def jb(w:Ub)(L B:Nat)(c:Uy)(a:List (Int×Int)):Prop :=
 ∀i (h:i<a.length),∃b o,c=some ⟨b,o,none⟩/\(L<=b/\b<B)/\w.cell? ⟨b,o+i*2,none⟩=some (.int .i64 a[i].1)/\w.cell? ⟨b,o+i*2+1,none⟩=some (.int .i64 a[i].2)
theorem jb.keepS{w':Ub}{c:List (Int×Int)}(h:jb w n m p c)(k:YA n m w w'):jb w' n m p c:=λi g=>by
 let⟨b,o,e,a,d,f⟩:=h i g;exact⟨b,o,e,a,(Xc<|k b a.1 a.2).trans d,(Xc<|k b a.1 a.2).trans f⟩
theorem jb.mono{a:List (Int×Int)}(h:jb w n m p a)(l:k<=n)(j:m<=B):jb w k B p a:=λi f=>by
 let⟨b,o,e,g,c,d⟩:=h i f;exact⟨b,o,e,oM,c,d⟩
def gc:List (Int×Int)->List Value
 |[]=>[]
 |t::ts=>.int .i64 t.1::.int .i64 t.2::gc ts
theorem GQ{a:List (Int×Int)}(t:Int×Int):gc (a++[t])=gc a++[Hp t.1,Hp t.2]:=by
 induction a with
 |nil=>rfl
 |cons x a b=>simp[gc,b]
theorem xy:∀(a:List (Int×Int))(i:Nat)(h:i<a.length),(gc a)[i*2]?=some (Hp a[i].1)/\(gc a)[i*2+1]?=some (Hp a[i].2)
 |[],i,h=>absurd h sP
 |t::a,0,_=>by simp[gc]
 |t::a,i+1,h=>by
  have:=xy a i (by simpa using h);rw[show(i+1)*2=i*2+1+1 by omega];simpa [gc]using this
theorem Hb:((Hk n 0):Addr).add m=(Hk n<|0+m):=by unfold Addr.add;split<;>simp_all
theorem GO{b:List (Int×Int)}(h:w.ownsRow n m 2 (.slice p k B) g (gc b)):jb w n w.1.size p b:=λi j=>by
 let⟨d,e⟩:=xy b i j;cases p with
 |none=>
  exfalso;obtain⟨_,e2⟩|⟨_,_,_,e2,_⟩:=h.2
  .have l:=h.1;have:i*2<(gc b).length:=(cV.1 d).1;omega
  injection e2 with e3;injection e3
 |some a=>
  have c:(Value.slice (some a) k B).ownBlock=some a.1:=rfl;have f:=h.lt _ c;have e2:a=(Hk a.1 0):=by
   obtain⟨e3,_⟩|⟨_,_,_,e3,_⟩:=h.2;·injection e3 with e4;injection e4
   injection e3 with e4;injection e4 with e4;rw[e4]
  have c1:=h.cells c _ _ d;have c2:=h.cells c _ _ e;rw[Hb]at c1 c2;exact⟨a.1,0,fI some e2,f,c1,c2⟩
structure my(w:Ub)(E:Nat)(t:Int)(ta:Uy)(nt ct:Nat)(ts:List (Int×Int)):Prop where
 c0:w.cell? ⟨E,0,none⟩=some (.int .i64 t)
 c1:w.cell? ⟨E,1,none⟩=some (.slice ta nt ct)
 fz:∀o,w.frozen? ⟨E,o,none⟩=false
 own:w.ownsRow (E+1) 274 2 (.slice ta nt ct) nt (gc ts)
theorem my.push{b:List (Int×Int)}(h:my w n t p m k b)(c:Below w.1.size w v)(f:n<w.1.size){x:Int}(d:u.ownsRow (n+1) 274 2 (.slice (some ⟨B,0,none⟩) (m+1) g) (m+1) (gc b++[.int .i64 x,.int .i64 T]))(i:v.grownBy u (Value.slice p m k).ownBlock):
 my (u.setCell ⟨n,1,none⟩ (.slice (some ⟨B,0,none⟩) (m+1) g)) n t (some ⟨B,0,none⟩) (m+1) g (b++[(x,T)]):=by
 have q:=c.4;have a:=(i.5 n oM λe=>by have:=(h.4.lt _ e.symm).1;omega).trans (c.5 n f);have l:=d.lt B rfl;refine⟨?_,?_,λo=>(eX _ _ _ _).trans ((bJ a).trans (h.3 o)),?_⟩
 .rw[cJ<|by intro e;injection e with _ e;omega];exact(Xc a).trans h.1
 .exact fQ _ _ _<|(Xc a).trans h.2
 rw[GQ];exact Zl d λj e=>Below.heap_setCell _ _ _ _ λe2=>by injection e with e;dsimp only at e e2;omega
theorem Qf:(prog.info? 274).map (λi=>(i.8,i.3,i.4))=some (some<|.agg #[Hp 0,Hp 0],2,16):=vZ
theorem rF{row:Zm}(a:w.grownBy v row)(b:k<w.1.size)(c:some k≠row):(∀o,v.cell? (Hk k o)=w.cell? (Hk k o))/\(∀o,v.frozen? (Hk k o)=w.frozen? (Hk k o)) :=
 ⟨λo=>a.cell_far (Hk k o) b c,λo=>a.frozen_far (Hk k o) b c⟩
theorem GF(G:Int)(c:Nat)(pc:Nat){N:Tm}{B2:Nat}(ha:Hs (Xp w g i p x))(hx:Hs (n=x.length))(hB:i<=w.1.size)(hp:Hs (XR w j B2 P N))(bf:Hs (m=N.length))(a3:B2<=w.1.size)(ht:B<n)(b8:B<m)(hX:Hs (∀K:B<x.length,x[B]=q))(bh:Hs (∀K:B<N.length,N[B]=l))(be:l.length<=1048576)(b6:q.1.length<=1048576)(hm:Hs ((k:Int)∈l))(bd:Hs (∀F (K:F<q.1.length),ZX t l.length q.1[F]=true)):
 Calls prog 160 #[.agg #[Hp G,.slice p n c],.slice P m pc,Hp k,Hp B] w
  λr D=>∃d e,r=.returned (.agg #[Hp B,.slice d q.1.length e])/\Below w.1.size w D/\jb D w.1.size D.1.size d (E9 (de l k) q.1):=by
 have az:B<x.length:=oN hx.o;have ar:B<N.length:=oN bf.o;let⟨i0,a9,bi,bm,bn⟩:=fX Qf;obtain⟨h,o,rfl,⟨_,b1⟩,hc⟩:=ha B az;rw[hX.o az]at hc;obtain⟨fa,fc,ia,ic,e0,-,-,ap,-⟩:=hc;obtain⟨b2,o2,rfl,⟨_,bx⟩,qa,qc,q0,hq⟩:=hp B ar;rw[bh.o ar]at q0 hq;have H:=λb y E=>Xb (Xb (Xb (Below.refl w.1.size w) b) y) E;have E0:=λb y E=>oB (H b y E) e0 oM;have Q0:=λb y E=>oB (H b y E) q0 oM;have HQ:=λb y E=>Xa<|hq.keep ((H b y E).mono a3);have hI:=Xa<|pC hm;have a2:=Xa ap;clear ap hq;have ST:∀b,my (((w.alloc b).alloc (.cells #[Hp 0,Hq] 271)).alloc (.cells #[Hp B,Hq] 271)) (w.1.size+1+1) B none 0 0 []:=λb=>⟨by simp[go_sem],by simp[go_sem],λo=>by simp[go_sem],dA⟩
 go_in
 go_wp2_with (go_at_call 185;refine(GZ (HQ _ _ _) rfl be hm).mono ?_;rintro r f⟨rfl,rfl⟩)
 generalize a4:de l k=I at*;have aj:=H (.cells #[Hp G,Hm h o n c] 37) (.cells #[Hp 0,Hq] 271) (.cells #[Hp B,Hq] 271);have aq:=ST<|.cells #[Hp G,Hm h o n c] 37;have r0:((w.alloc<|.cells #[Hp G,Hm h o n c] 37).alloc (.cells #[Hp 0,Hq] 271)).alloc (.cells #[Hp B,Hq] 271)=((w.alloc<|.cells #[Hp G,Hm h o n c] 37).alloc (.cells #[Hp 0,Hq] 271)).alloc (.cells #[Hp B,Hq] 271):=rfl;clear r0 ST H HQ Q0 q0;have a5:∀o,(((w.alloc<|.cells #[Hp G,Hm h o n c] 37).alloc (.cells #[Hp 0,Hq] 271)).alloc (.cells #[Hp B,Hq] 271)).frozen? (Hk (w.1.size+1) o)=false:=λo=>by simp[go_sem]
 go_loopw [28] (λF wr=>∃(a:Nat)(d:Uy)(e:Nat),a<=q.1.length/\F=Hp a/\Hs (Below w.1.size w wr)/\w.1.size+1+1+1<=wr.1.size/\Hs (my wr (w.1.size+1+1) B d a e (E9 I<|q.1.take a))/\Hs (wr.cell? (Hk (w.1.size+1) 0)=some (Hp 0)/\wr.cell? (Hk (w.1.size+1) 1)=some Hq/\∀o,wr.frozen? (Hk (w.1.size+1) o)=false)) λF _=>q.1.length-(intOf F).toNat
 case atStart=>exact⟨0,none,0,aN,rfl,Xa aj,sP,Xa (by simpa [E9]using aq),Xa ⟨by simp[go_sem],by simp[go_sem],λo=>by simp[go_sem]⟩⟩
 obtain⟨a,d,e,hk,rfl,M,ca,s,U⟩:=hrel;clear aj aq a5 E0 e0;by_cases W:a<q.1.length
 .obtain⟨b',o',rfl,⟨_,bv⟩,aa,cc,g0,g1,af⟩:=a2 a W;let⟨⟨d0,d1⟩,a6,a8⟩:=GW<|bd a W;have Y:E9 I (q.1.take<|a+1)=E9 I (q.1.take a)++[(q.1[a].1,q.1[a].2.getD I 0)]:=by unfold E9;rw[X7 W,bG];rfl
  have ac:I<q.1[a].2.length:=oN hI.o;have ad:q.1[a].2.getD I 0=q.1[a].2[I]:=by simp[ac]
  rw[ad]at Y;obtain⟨v,o3,rfl,⟨_,b0⟩,h3⟩:=af I ac;have G0:=(XU M oM).trans g0;have G1:=(XU M oM).trans g1;have G3:=(XU M oM).trans h3;have a0:=Xa Y;have bt:q.1[a].2.length<=1048576:=oM;clear Y ad af a8 a6 h3 g0 g1;generalize q.1[a].2[I]=O at*;generalize q.1[a].2.length=al at*;generalize q.1[a].1=J at*;generalize E9 I (q.1.take a)=TS at*;have c3:=λb y=>oB (Xb (Xb (Below.refl wr.1.size wr) b).drew y) G3 oM;have m1:=λb y=>oB (Xb (Xb (Below.refl wr.1.size wr) b).drew y) s.2 oM;have mz:=λb y o=>((Xb (Xb (Below.refl wr.1.size wr) b).drew y).frozen (p:=Hk (w.1.size+1+1) o) (by show w.1.size+1+1<_;omega)).trans (s.3 o);have bp:=λb=>oB ((Xb (Below.refl wr.1.size wr) b).drew) s.2 oM;have m2:∀b y,((wr.alloc b).alloc y).cell? (Hk (w.1.size+1+1) 1)=some (.slice d a e):=m1;have ab:=λb y=>Zl s.4 λh r=>((Xb (Xb (Below.refl wr.1.size wr) b).drew y).5 h (s.4.lt h r).2);have bc:∀u,wr.1.size<=u->some u≠(Value.slice d a e).ownBlock:=λu hq r=>by have:=(s.4.lt u r.symm).2;omega
  have X:∀u,u<w.1.size+1+1+1->some u≠(Value.slice d a e).ownBlock:=λu hq r=>by have:=(s.4.lt u r.symm).1;omega
  have HP:∀(b y:Obj)(A z:Nat)(f:Ub),f.ownsRow (w.1.size+1+1+1) 274 2 (Hl A (a+1) z) (a+1) (gc TS++[Hp J,Hp O])->(((wr.alloc b).drew).alloc y).grownBy f (Value.slice d a e).ownBlock ->
   my (f.setCell (Hk (w.1.size+1+1) 1) (Hl A (a+1) z)) (w.1.size+1+1) B (some ⟨A,0,none⟩) (a+1) z (TS++[(J,O)])/\Below w.1.size w f/\f.1[w.1.size+1]?=wr.1[w.1.size+1]?/\wr.1.size<=f.1.size:=λb y A z f ho T=>by
   have S:=Xb (Xb (Below.refl wr.1.size wr) b).drew y;have b5:=T.4;have b4:=S.4;exact⟨s.push S oM ho T,Xy (M.trans<|S.mono oM) T (ab b y) oM oM,(T.5 _ oM<|X _ oM).trans (S.5 _ oM),oM⟩
  have n3:w.1.size+1+1≠v:=oM;have n5:w.1.size+1+1≠wr.1.size:=oM;go_wp2;refine Y7 (λD=>D.cell? (Hk wr.1.size 0)=some (Hp J)/\D.cell? (Hk wr.1.size 1)=some (Hm v o3 al cc)/\D.cell? (Hk v<|o3+I)=some (Hp O)) λhHeld=>?_;refine Xn 0 ?_;refine Xn 2 ?_;refine Xn 3 ?_;refine Xn 4 ?_;refine Xn 5 ?_;refine Xn 6 ?_;refine Xn 7 ?_;refine Xn 8 ?_;refine Xn 9 ?_;refine eS (rs:=[1,10]) vZ sP ?_;refine(bQ rfl (λR hK=>?_) (bQ rfl (λR hK=>?_) dY))
  focus
   go_simp;refine hK _ _ (by first|exact hHeld|((try dsimp only);go_keep)) λhHeld=>?_;clear hK
   try simp only[xX]
   refine eS (rs:=[10]) vZ sP ?_
  rotate_left
  focus
   go_simp;refine hK _ _ (by first|exact hHeld|((try dsimp only);go_keep)) λhHeld=>?_;clear hK
   try simp only[xX]
   refine eS (rs:=[1]) vZ sP ?_
  all_goals (
   refine bQ rfl (λR hK=>?_) dY;go_simp;refine hK _ _ (by first|exact hHeld|((try dsimp only);go_keep)) λhHeld=>?_;clear hK
   try simp only[xX]
   refine Xs 11 λR hK=>?_;refine step_append_lies _ rfl (.tmp 33) (.tmp 42) 269 rfl (w.1.size+1+1+1) 274 i0 (.agg #[Hp 0,Hp 0]) 2 16 underlying269 a9 bi bm bn rfl vY (.slice d a e) a (gc TS) (by simp[Act.eval]) (ab _ _) (Hk (wr.1.size+1) 0) 1 1 [Hp J,Hp O] (by simp[Act.eval]) rfl ?_ (by intro bq hu;simp at hu;obtain rfl|rfl:=hu<;>rfl) vY (by unfold maxLen;omega) oM (by simp;omega) (wr.1.size+1+1) sP ?_
   .intro bo bq C
    match bo,C with
    |0,C=>simp at C;subst C;simp[Addr.add,go_sem]
    |1,C=>simp at C;subst C;simp[Addr.add,go_sem]
   intro A z f ao L a7 bb;have Q:=Xa<|HP _ _ A z f ao L;obtain⟨V,-⟩:=rF L (k:=wr.1.size) (by simp<;>omega) (bc _ oM);obtain⟨f3,-⟩:=rF L (k:=v) (by simp<;>omega) (X _ oM);let⟨f1,e1⟩:=rF L (k:=w.1.size+1+1) (by simp<;>omega) (X _ oM);have kx:Cl f wr.1.size 0 (Hp J):=(V 0).trans (by simp[go_sem]);have ky:Cl f wr.1.size 1 (Hm v o3 al cc):=(V 1).trans (by simp[go_sem]);have kz:=(f3 _).trans (c3 _ _);have k1:=(f1 1).trans (m1 _ _);have z1:=λo=>(e1 o).trans (mz _ _ o)
   clear V f1 f3 e1 ao L a7 bb;refine hK _ _ (by first|exact hHeld|((try dsimp only);go_keep)) λhHeld=>?_;clear hK;refine Xn 12 ?_;refine Xs 13 λR hK=>?_;go_simp;refine hK _ _ (by first|exact hHeld|((try dsimp only);go_keep)) λhHeld=>?_;clear hK;refine Yq ?_;go_wp2;have Z:(f.setCell (Hk (w.1.size+1+1) 1) (Hl A (a+1) z)).1[w.1.size+1]?=wr.1[w.1.size+1]?:=(Below.heap_setCell _ _ _ _<|by show w.1.size+1≠w.1.size+1+1;omega).trans Q.2.2.1;exact⟨⟨a+1,some<|Hk A 0,z,oM,gM,Xa (Q.2.1.setCell (by show w.1.size<=w.1.size+1+1;omega) _),by have:=Q.2.2.2;simp only[Xd];omega,Xa (a0.o▸Q.1),Xa ⟨(Xc Z).trans U.1,(Xc Z).trans U.2.1,λo=>(bJ Z).trans (U.2.2 o)⟩⟩,by simp[intOf];omega⟩)
 have ba:a=q.1.length:=oM;subst ba;let⟨m0,m1,mz,mo⟩:=s.o;let⟨r0,r1,rz⟩:=U.o;have HO:=λb y=>Zl (w':=(wr.setCell (Hk (w.1.size+1) 0) b).setCell (Hk (w.1.size+1) 1) y) mo (λh r=>by have:=(mo.lt h r).1;rw[Below.heap_setCell _ _ _ _ (by dsimp only;omega),Below.heap_setCell _ _ _ _<|by dsimp only;omega]);have a1:=Xa HO;clear HO mo;go_wp2;refine cC (v:=.agg #[Hp B,.slice d q.1.length e]) (by simp[results,results160,go_sem,r0,r1]) rfl ⟨d,e,rfl,(M.setCell (by show w.1.size<=w.1.size+1;omega) _).setCell (by show w.1.size<=w.1.size+1;omega) _,?_⟩;have K:=GO<|a1 (Hp B) (.slice d q.1.length e);rw[gC]at K;rw[a4];exact K.mono oM<|aA
end Go.Proofs.YtcfdhbigppockaaGreatDoor
