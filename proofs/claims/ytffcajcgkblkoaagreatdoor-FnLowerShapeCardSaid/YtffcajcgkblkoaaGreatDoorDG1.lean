import Derived.Test.YtffcajcgkblkoaaGreatDoorDFP
import Derived.RangeFuncRecord
import Derived.Deep.CutRange
namespace Go.Proofs.YtffcajcgkblkoaaGreatDoor
set_option maxHeartbeats 4000000
set_option maxRecDepth 100000
open Go.RowKit Go.Proofs.Tryz
variable{E:Array Value}{r:Bool}{t T z:Int}{l:List Int}{n m k B g i:Nat}{p:Option Addr}{a A:Value}{w v u:World}
structure ZQ(w:World)(sb B:Nat)(s:Sr):Prop where
 src:Jg w sb (sb+1) B s
 ok:Jb s
 bB:sb+1<=B
 sB:B<=w.heap.size
theorem ZQ.drew{s:Sr}(h:ZQ w n m s):ZQ w.drew n m s:=⟨h.src.drew,h.ok,h.bB,h.sB⟩
theorem ZQ.keep{w':World}{s:Sr}(h:ZQ w n B s)(a:Below B w w'):ZQ w' n B s:=by
 have c:=h.bB;exact⟨h.src.block (a.block _ oM) λk _ b=>a.block k b,h.ok,h.bB,aJ h.sB a.size⟩
theorem XC(a B:Nat)(s:Sr)(n:Int)(w:World)(h:Hs (ZQ w a B s))(d:n<=1000000)(f:-1000000<=n) :
 Calls prog 27 #[Hn a,Hp n] w λe b=>e=.returned (Hp (Ax s n).1)/\ZQ b a B (Ax s n).2/\w.grownBy b (some a):=by
 refine(Bv a (a+1) B s n w (Xa h.src) (Xa h.ok) d f).mono ?_;rintro e b⟨rfl,g,c⟩;exact⟨rfl,⟨g,Y8 h.ok _,h.bB,aJ h.sB c.size⟩,c⟩
theorem Y5{b:Nat}(h:w.grownBy v (some b))(k:v.grownBy u (some b)):w.grownBy u (some b) :=
 ⟨k.os.trans h.os,k.tape.trans h.tape,k.output.trans h.output,aJ h.size k.size,λi c a=>(k.block i (aX c h.size) a).trans (h.block i c a)⟩
theorem Xf.grown(h:Xf w n m p l)(g:w.grownBy v (some k))(f:k<n)(d:m<=w.heap.size):Xf v n m p l :=
 h.keepS λa b c=>g.block a oM λe=>by injection e;omega
def YI(s:Sr)(a:List Int)(b:Bool):Int×Sr :=
 if a.length=0 then (0,s)
 else if b=true/\3<a.length then
  if (Ax s 4).1=0 then (a.getD (Ax (Ax s 4).2 a.length).1.toNat 0,(Ax (Ax s 4).2 a.length).2)
  else (a.getD ((a.length:Int)-1-(Ax (Ax s 4).2 3).1).toNat 0,(Ax (Ax s 4).2 3).2)
 else (a.getD (Ax s a.length).1.toNat 0,(Ax s a.length).2)
theorem og{s:Sr}(h:Jb s)(b:List Int)(a:Bool):Jb (YI s b a).2:=by
 unfold YI;split;·exact h
 split
 .split;·exact Y8 (Y8 h _) _
  exact Y8 (Y8 h _) _
 exact Y8 h _
theorem JA(g B:Nat)(s:Sr)(H:Option Addr)(n c:Nat)(a:List Int)(L J:Nat)(j:Bool)(w:World)(l:Hs (ZQ w g B s))(P:Hs (Xf w L J H a))(F:Hs (n=a.length))(hn:n<=5000)(E:g<L)(D:J<=w.heap.size) :
 Calls prog 69 #[Hn g,.slice H n c,.bool j] w λk y=>k=.returned (Hp (YI s a j).1)/\ZQ y g B (YI s a j).2/\w.grownBy y (some g):=by
 have o:=F.o;by_cases N:n=0
 .have d:Hs (YI s a j=(0,s)):=Xa (by unfold YI;rw[aU oM]);subst N;clear o
  go_in
  go_wp2;go_ret;rw[d.o];exact⟨rfl,l,lJ _ _⟩
 have Y:(n==0)=false:=by simpa using N
 have ac:(0:Int)<n:=oM;have ad:((n:Int)==0)=false:=by simp;omega
 by_cases C:j=true/\3<n
 .obtain⟨rfl,v⟩:=C;have aa:(3:Int)<n:=oM;have d:Hs (YI s a true=if (Ax s 4).1=0 then (a.getD (Ax (Ax s 4).2 n).1.toNat 0,(Ax (Ax s 4).2 n).2)else (a.getD ((n:Int)-1-(Ax (Ax s 4).2 3).1).toNat 0,(Ax (Ax s 4).2 3).2)):=Xa (by unfold YI;rw[aM oM,aU ⟨rfl,oM⟩,<-o]);clear o
  go_in
  go_wp2_with fail
  refine(XC g B s 4 w l oM oM).mono ?_;rintro k S⟨rfl,b,e⟩;have z:=Xa e;let⟨r,s1,f⟩:∃r m,Ax s 4=(r,m):=⟨_,_,rfl⟩;rw[f]at b d |-;dsimp only at b d |-;have K:=Xa b;have A:=Xa<|P.grown e E D;clear b e f;by_cases I:r=0
  .subst I;go_wp2_with fail
   refine(XC g B s1 n S K oM oM).mono ?_;rintro k T⟨rfl,b,e⟩;have h:=XE s1 (n:=(n:Int)) oM;let⟨q,s2,f⟩:∃r m,Ax s1 n=(r,m):=⟨_,_,rfl⟩;rw[f]at b d h |-;dsimp only at b d h |-;rw[aU trivial]at d;obtain⟨q,rfl⟩:=Zv h.1;have i:q<a.length:=oN F.o;obtain⟨M,Q,rfl,x,O⟩:=(A.grown e E<|aJ D z.size) q i;rw[show a.getD ((q:Int)).toNat 0=a[q] by simp[i]]at d;have u:=Xa<|Y5 z e;have t:=Xa b;clear b e f x A;generalize a[q]=R at*;go_wp2;go_ret;rw[d.o];exact⟨rfl,t,u⟩
  have af:(r==0)=false:=by simpa using I
  rw[aM I]at d;go_wp2_with fail
  refine(XC g B s1 3 S K oM oM).mono ?_;rintro k T⟨rfl,b,e⟩;have h:=XE s1 (n:=3) oM;let⟨q,s2,f⟩:∃r m,Ax s1 3=(r,m):=⟨_,_,rfl⟩;rw[f]at b d h |-;dsimp only at b d h |-;let⟨p,X⟩:=Zv (x:=(n:Int)-1-q) oM;have i:p<a.length:=oN F.o;obtain⟨M,Q,rfl,x,O⟩:=(A.grown e E<|aJ D z.size) p i;rw[X,show a.getD ((p:Int)).toNat 0=a[p] by simp[i]]at d;have u:=Xa<|Y5 z e;have t:=Xa b;clear b e f x A;have ab:p<n:=oM;generalize a[p]=R at*;go_wp2;go_ret;rw[d.o];exact⟨rfl,t,u⟩
 have d:Hs (YI s a j=(a.getD (Ax s n).1.toNat 0,(Ax s n).2)):=Xa<|by unfold YI;rw[aM oM,aM (by rw[<-o];exact C),<-o]
 clear o;have W:∀(G:Bool)(v:G=false\/¬(3:Int)<n),Calls prog 69 #[Hn g,.slice H n c,.bool G] w λk y=>k=.returned (Hp<|a.getD (Ax s n).1.toNat 0)/\ZQ y g B (Ax s n).2/\w.grownBy y (some g):=by
  intro G v;clear C d;cases G;rotate_left
  focus
   have Z:¬(3:Int)<n:=by rcases v with l|l;cases l;exact l
  all_goals (
   clear v
   go_in
   go_wp2_with fail
   refine(XC g B s n w l oM oM).mono ?_;rintro k T⟨rfl,b,e⟩;have h:=XE s (n:=(n:Int)) oM;let⟨q,s2,f⟩:∃r m,Ax s n=(r,m):=⟨_,_,rfl⟩;have V:=Xa f;rw[f]at b h |-;dsimp only at b h |-;obtain⟨q,rfl⟩:=Zv h.1;have i:q<a.length:=oN F.o;obtain⟨M,Q,rfl,x,O⟩:=(P.grown e E D) q i;have U:Hs (a.getD ((q:Int)).toNat 0=a[q]):=Xa (by simp[i]);have u:=Xa e;have t:=Xa b;clear b e f x;generalize a[q]=R at*;go_wp2;go_ret
   rw[V.o];dsimp only;rw[U.o];exact⟨rfl,t,u⟩)
 rw[d.o];exact W j (by
  cases j with
  |false=>exact bC rfl
  |true=>exact aZ λv=>C ⟨rfl,oM⟩)
def KX(s:Sr):Int×Sr :=
 if (Ax s 16).1<10 then ((Ax s 16).1-3,(Ax s 16).2)
 else if (Ax s 16).1=10 then (1000000000,(Ax s 16).2)
 else if (Ax s 16).1=11 then (-1000000000,(Ax s 16).2)
 else ((Ax (Ax s 16).2 200).1-100,(Ax (Ax s 16).2 200).2)
theorem BI{s:Sr}(h:Jb s):Jb (KX s).2:=by
 unfold KX;split;·exact Y8 h _
 split;·exact Y8 h _
 split;·exact Y8 h _
 exact Y8 (Y8 h _) _
theorem wI(e B:Nat)(s:Sr)(w:World)(u:Hs (ZQ w e B s)) :
 Calls prog 109 #[Hn e] w λj p=>j=.returned (Hp (KX s).1)/\ZQ p e B (KX s).2/\w.grownBy p (some e):=by
 have a:Hs (KX s=if (Ax s 16).1<10 then ((Ax s 16).1-3,(Ax s 16).2)else if (Ax s 16).1=10 then (1000000000,(Ax s 16).2)else if (Ax s 16).1=11 then (-1000000000,(Ax s 16).2)else ((Ax (Ax s 16).2 200).1-100,(Ax (Ax s 16).2 200).2)):=Xa rfl
 go_in
 go_wp2_with fail
 refine(XC e B s 16 w u oM oM).mono ?_;rintro j y⟨rfl,b,f⟩;have o:=XE s (n:=16) oM;let⟨k,s1,g⟩:∃r l,Ax s 16=(r,l):=⟨_,_,rfl⟩;rw[g]at b a o |-;dsimp only at b a o |-;have h:=Xa b;have i:=Xa f;by_cases m:k<10
 .rw[aU m]at a;go_wp2;go_ret;rw[a.o];exact⟨rfl,h,i⟩
 rw[aM m]at a;by_cases c:k=10
 .rw[aU c]at a;have v:(k==10)=true:=by simpa using c
  go_wp2;go_ret;rw[a.o];exact⟨rfl,h,i⟩
 rw[aM c]at a;have v:(k==10)=false:=by simpa using c
 by_cases d:k=11
 .rw[aU d]at a;have x:(k==11)=true:=by simpa using d
  go_wp2;go_ret;rw[a.o];exact⟨rfl,h,i⟩
 rw[aM d]at a;have x:(k==11)=false:=by simpa using d
 go_wp2_with fail
 refine(XC e B s1 200 y h oM oM).mono ?_;rintro j A⟨rfl,b,f⟩;have n:=XE s1 (n:=200) oM;let⟨z,s2,g⟩:∃r l,Ax s1 200=(r,l):=⟨_,_,rfl⟩;rw[g]at b a n |-;dsimp only at b a n |-;have q:=Xa b;have t:=Xa<|Y5 i f;go_wp2;go_ret;rw[a.o];exact⟨rfl,q,t⟩
def iz(k a b:Int)(n:Nat)(c:Int)(s:Sr):Yg×Sr :=
 if k<2\/n=0 then (⟨1,c,0,0,(KX s).1⟩,(KX s).2)
 else if k=2 then (⟨2,c,0,0,(Ax s 8).1⟩,(Ax s 8).2)
 else if k=9 then (⟨8,c,a,0,0⟩,s)
 else if k=10 then (⟨9,0,a,b,0⟩,s)
 else if k=11 then (⟨10,0,a,0,0⟩,s)
 else if k=7 then (⟨if (Ax s 2).1=0 then 6 else 3,c,a,b,0⟩,(Ax s 2).2)
 else (⟨if k=4\/k=5 then 4 else if k=6 then 5 else if k=8 then 7 else 3,c,a,b,0⟩,s)
def E2(s:Sr)(a:List Int)(c:Int)(b:Bool):Yg×Sr :=
 iz (Ax s 14).1 (YI (Ax s 14).2 a b).1 (YI (YI (Ax s 14).2 a b).2 a b).1 a.length c (YI (YI (Ax s 14).2 a b).2 a b).2
def Yg.agg(x:Yg):Value:=.agg #[.int .i64 x.op,.int .i64 x.dst,.int .i64 x.a,.int .i64 x.b,.int .i64 x.imm]
theorem CX{b:Int}{s:Sr}(h:Jb s):Jb (iz t T b n z s).2:=by
 unfold iz
 repeat' split
 all_goals first|exact BI h|exact Y8 h _|exact h
theorem qZ{s:Sr}(h:Jb s):Jb (E2 s l t r).2:=CX<|og (og (Y8 h _) _ _) _ _
theorem G6{o:Obj}{b:Nat}(h:(w.alloc o).grownBy v (some b)):w.grownBy v (some b):=by
 have k:=bW w o<|some b;exact⟨h.os.trans k.os,h.tape.trans k.tape,h.output.trans k.output,aJ k.size h.size,λi c a=>(h.block i (aX c k.size) a).trans (k.block i c a)⟩
theorem XS{b:Nat}(h:w.grownBy v (some b))(e:w.heap.size<=n):w.grownBy (v.setCell ⟨n,m,none⟩ a) (some b) :=
 ⟨h.os,h.tape,h.output,by simpa [World.setCell]using h.size,λi d c=>(Below.heap_setCell _ _ _ _<|by show i≠n;omega).trans (h.block i d c)⟩
theorem ZQ.put{s:Sr}(h:ZQ w n m s)(b:m<=k):ZQ (w.setCell ⟨k,B,none⟩ a) n m s:=h.keep<|(Below.refl m w).setCell b _
theorem ZQ.box{s:Sr}(h:ZQ w n m s)(o:Obj):ZQ (w.alloc o) n m s:=h.keep<|Below.alloc (Below.refl _ _) h.sB _
section
def Yu{T:Type}(f:Nat->T->List Value):Nat->List T->List Value
 |_,[]=>[]
 |k,x::xs=>f k x++Yu f (k+1) xs
variable {T: Type} {f f': Nat -> T -> List Value} {sz: Nat}
theorem Zn(b:∀k x,(f k x).length=sz):∀(k:Nat)(a:List T),(Yu f k a).length=a.length*sz
 |_,[]=>by simp[Yu]
 |k,x::a=>by rw[Yu,aQ,b,Zn b,bA,jK,jL,Nat.add_comm]
theorem Xz(b:∀k x,(f k x).length=sz):∀(k:Nat)(a:List T)(i:Nat)(h:i<a.length)(q:Nat),q<sz->(Yu f k a)[i*sz+q]?=(f (k+i) a[i])[q]?
 |_,[],_,h,_,_=>absurd h sP
 |k,x::a,0,_,q,hq=>by
  rw[Yu,lC,aV,dL<|by rw[b];exact hq];rfl
 |k,x::a,i+1,h,q,hq=>by
  rw[Yu,eV (by rw[b,jK,jL];omega),b,show(i+1)*sz+q-sz=i*sz+q by rw[jK,jL];omega,Xz b (k+1) a i (by simpa using h) q hq,fO,show k+1+i=k+(i+1) by omega]
theorem Zo:∀(k:Nat)(a:List T)(x:T),Yu f k (a++[x])=Yu f k a++f (k+a.length) x
 |k,[],x=>by simp[Yu]
 |k,y::a,x=>by rw[cW,Yu,Yu,Zo (k+1) a x,cK,bA,show k+1+a.length=k+(a.length+1) by omega]
theorem ZF:∀(k:Nat)(a:List T),(∀i (h:i<a.length),f (k+i) a[i]=f' (k+i) a[i])->Yu f k a=Yu f' k a
 |_,[],_=>rfl
 |k,x::a,h=>by
  rw[Yu,Yu,ZF (k+1) a λi b=>by have:=h (i+1) (by simpa using b);rwa[fO,show k+(i+1)=k+1+i by omega]at this];have:=h 0 sP;rw[fW,eM]at this;rw[this]
theorem Yr(c:∀k x,(f k x).length=sz):∀(k:Nat)(a:List T)(i:Nat)(h:i<a.length)(y:T)(q:Nat)(u:Value),q<sz->f' (k+i) y=(f (k+i) a[i]).set q u->(∀j (b:j<a.length),j≠i->f' (k+j) a[j]=f (k+j) a[j])->Yu f' k (a.set i y)=(Yu f k a).set (i*sz+q) u
 |_,[],_,h,_,_,_,_,_,_=>absurd h sP
 |k,x::a,0,_,y,q,u,hq,hy,b=>by
  rw[List.set_cons_zero,Yu,Yu,lC,aV,List.set_append_left _ _<|by rw[c];exact hq];rw[fW,eM]at hy;rw[hy,ZF (f:=f') (f':=f) (k+1) a λi e=>by have:=b (i+1) (by simpa using e) oM;rwa[fO,show k+(i+1)=k+1+i by omega]at this]
 |k,x::a,i+1,h,y,q,u,hq,hy,b=>by
  have d:=b 0 sP oM;rw[fW,eM]at d;rw[fO,show k+(i+1)=k+1+i by omega]at hy;rw[List.set_cons_succ,Yu,Yu,d,List.set_append_right _ _ (by rw[c,jK,jL];omega),c,show(i+1)*sz+q-sz=i*sz+q by rw[jK,jL];omega,
   Yr c (k+1) a i (by simpa using h) y q u hq hy λj g l=>by have:=b (j+1) (by simpa using g) oM;rwa[fO,show k+(j+1)=k+1+j by omega]at this]
structure Xv(w:World)(lab:Nat->Nat×Nat×Nat)(L:Nat×Nat×Nat)(base t sz:Nat)(v:Value)(n:Nat)(cs:List Value):Prop where
 own:w.ownsRow base t sz v n cs
 lab:∀b,v.ownBlock=some b->lab b=L
theorem Xv.keep{w w':World}{d g:Nat->Nat×Nat×Nat}{L:Nat×Nat×Nat}{a t sz:Nat}{v:Value}{n:Nat}{c:List Value}(h:Xv w d L a t sz v n c)(k:∀b,a<=b->b<w.heap.size->d b=L->w'.heap[b]?=w.heap[b]?/\g b=L):Xv w' g L a t sz v n c :=
 ⟨Zl h.own λb e=>(k b (h.own.lt b e).1 (h.own.lt b e).2 (h.lab b e)).1,λb e=>(k b (h.own.lt b e).1 (h.own.lt b e).2 (h.lab b e)).2⟩
theorem Xv.set{w:World}{d:Nat->Nat×Nat×Nat}{L:Nat×Nat×Nat}{a t sz g n c:Nat}{b:List Value}(h:Xv w d L a t sz (.slice (some ⟨g,0,none⟩) n c) n b)(q:Nat)(u:Value):Xv (w.setCell ⟨g,q,none⟩ u) d L a t sz (.slice (some ⟨g,0,none⟩) n c) n (b.set q u):=⟨n9 h.own u,h.lab⟩
theorem Xv.thaw{w:World}{d:Nat->Nat×Nat×Nat}{L:Nat×Nat×Nat}{a t sz g n c:Nat}{b:List Value}(h:Xv w d L a t sz (Hl g n c) n b)(q:Nat):w.frozen? (Hk g q)=false:=h.own.frozenAt q
theorem Xv.cell{w:World}{e:Nat->Nat×Nat×Nat}{L:Nat×Nat×Nat}{b t sz g n c:Nat}{a:List Value}(h:Xv w e L b t sz (Hl g n c) n a){q:Nat}{u:Value}(d:a[q]?=some u):w.cell? (Hk g q)=some u:=Jj h.own d
theorem Xv.blk{w:World}{b:Nat->Nat×Nat×Nat}{L:Nat×Nat×Nat}{a t sz g n c:Nat}{d:List Value}(h:Xv w b L a t sz (Hl g n c) n d):(a<=g/\g<w.heap.size)/\b g=L:=⟨h.own.lt g rfl,h.lab g rfl⟩
theorem Xv.got{w:World}{lab:Nat->Nat×Nat×Nat}{L:Nat×Nat×Nat}{a t sz n:Nat}{v:Value}{b:List Value}(h:Xv w lab L a t sz v n b)(d:0<n):∃g c,v=.slice (some ⟨g,0,none⟩) n c:=by
 let⟨g,c,e,_⟩:=Xm h.own d;exact⟨g,c,e⟩
theorem Xv.form{w:World}{lab:Nat->Nat×Nat×Nat}{L:Nat×Nat×Nat}{b t sz n:Nat}{v:Value}{d:List Value}(h:Xv w lab L b t sz v n d):∃a c,v=.slice a n c:=by
 rcases h.own.2 with⟨e,h0⟩|⟨g,cap,_,e,_⟩;·exact⟨none,0,by rw[e,h0]⟩
 exact⟨_,_,e⟩
def UT(p i:Value)(t:Yj):List Value:=[p,i,.int .i64 t.kind,.int .i64 t.a,.int .i64 t.to,.int .i64 t.els]
def XF(b a:Nat->Value)(c:List Xe):List Value:=Yu (λi x=>UT (b i) (a i) x.te) 0 c
def Yh(av:Nat->Value)(a:List Ph):List Value:=Yu (λj p=>[.int .i64 p.dst,av j]) 0 a
def YC(a:List Yg):List Value:=Yu (λ_ x=>x.cells) 0 a
def Xt(a:List Int):List Value:=a.map<|Value.int .i64
structure ZU(w:World)(lab:Nat->Nat×Nat×Nat)(base:Nat)(v:Value)(xs:List Xe)(pv iv:Nat->Value)(av:Nat->Nat->Value):Prop where
 blks:Xv w lab (1,0,0) base 46 6 v xs.length (XF pv iv xs)
 ps:∀i (h:i<xs.length),Xv w lab (2,i,0) base 106 2 (pv i) xs[i].ps.length (Yh (av i) xs[i].ps)
 ins:∀i (h:i<xs.length),Xv w lab (3,i,0) base 48 5 (iv i) xs[i].is.length (YC xs[i].is)
 args:∀i (h:i<xs.length) j (hj:j<xs[i].ps.length),Xv w lab (4,i,j) base 2 1 (av i j) xs[i].ps[j].args.length (Xt xs[i].ps[j].args)
theorem KU(p i:Value)(t:Yj):(UT p i t).length=6:=rfl
theorem Xv.ints{w:World}{j:Nat->Nat×Nat×Nat}{L:Nat×Nat×Nat}{d n:Nat}{b:Option Addr}{c:Nat}{a:List Int}(h:Xv w j L d 2 1 (.slice b n c) a.length (Xt a)):Xf w d w.heap.size b a:=λl i=>by
 let⟨g,k,e⟩:=h.got oM;cases e;exact⟨g,0,rfl,h.blk.1,by rw[aV];exact h.cell<|by unfold Xt;simp[i]⟩
theorem vM{w:World}{x:Nat->Nat×Nat×Nat}{h o c:Nat}{a:List Xe}{y v:Nat->Value}{av:Nat->Nat->Value}(A:Xv w x (1,0,0) h 46 6 (Hl o a.length c) a.length (XF y v a))(C:∀i (z:i<a.length),Xv w x (2,i,0) h 106 2 (y i) a[i].ps.length (Yh (av i) a[i].ps))(B:∀i (z:i<a.length),Xv w x (3,i,0) h 48 5 (v i) a[i].is.length (YC a[i].is))(F:∀i (z:i<a.length) j (l:j<a[i].ps.length),∃n p,av i j=.slice n a[i].ps[j].args.length p/\Xf w h w.heap.size n a[i].ps[j].args):Xp w h w.heap.size (some ⟨o,0,none⟩) a:=λi g=>by
 let⟨I,b,t⟩:=(C i g).form;let⟨G,H,s⟩:=(B i g).form;have e:∀q u,q<6->(UT (y i) (v i) a[i].te)[q]?=some u->w.cell? (Hk o<|i*6+q)=some u:=λq u hq m=>A.cell (by
  unfold XF;rw[Xz (λ_ _=>KU _ _ _) 0 a i g q hq,aV];exact m)
 refine⟨o,0,rfl,A.blk.1,I,b,G,H,?_,?_,⟨?_,?_,?_,?_⟩,λj l=>?_,λj l=>?_⟩;·rw[aV];exact e 0 _ oM<|by rw[<-t];rfl
 .rw[aV];exact e 1 _ oM<|by rw[<-s];rfl
 .rw[aV];exact e 2 _ oM rfl
 .rw[aV];exact e 3 _ oM rfl
 .rw[aV];exact e 4 _ oM rfl
 .rw[aV];exact e 5 _ oM rfl
 .have d:=C i g
  let⟨k,D,r⟩:=d.got oM;rw[r]at t d;cases t;let⟨n,p,E,ha⟩:=F i g j l;have b:∀q u,q<2->([Hp a[i].ps[j].dst,av i j]:List Value)[q]?=some u->w.cell? (Hk k<|j*2+q)=some u:=λq u hq m=>d.cell (by
   unfold Yh;rw[Xz (sz:=2) (λ_ _=>rfl) 0 a[i].ps j l q hq,aV];exact m)
  exact⟨k,0,rfl,d.blk.1,n,p,by rw[aV];exact b 0 _ oM rfl,by rw[aV];exact b 1 _ oM (by rw[<-E];rfl),ha⟩
 have d:=B i g
 let⟨k,D,r⟩:=d.got oM;rw[r]at s d;cases s;have b:∀q u,q<5->(a[i].is[j].cells)[q]?=some u->w.cell? (Hk k<|j*5+q)=some u:=λq u hq m=>d.cell (by
  unfold YC;rw[Xz (sz:=5) (λ_ _=>rfl) 0 a[i].is j l q hq];exact m)
 exact⟨k,0,rfl,d.blk.1,by rw[aV];exact b 0 _ oM rfl,by rw[aV];exact b 1 _ oM rfl,by rw[aV];exact b 2 _ oM rfl,by rw[aV];exact b 3 _ oM rfl,by rw[aV];exact b 4 _ oM rfl⟩
theorem ZU.at_{w:World}{q:Nat->Nat×Nat×Nat}{b:Nat}{a:Option Addr}{r c:Nat}{k:List Xe}{s p:Nat->Value}{av:Nat->Nat->Value}(h:ZU w q b (.slice a r c) k s p av):Xp w b w.heap.size a k:=λi o=>by
 let⟨u,t,n⟩:=h.blks.got oM;cases n;exact vM h.blks h.ps h.ins (λi e j g=>by
  let⟨l,m,d⟩:=(h.args i e j g).form;have ha:=h.args i e j g;rw[d]at ha;exact⟨l,m,d,ha.ints⟩) i o
end
def VX(s:Sr)(n:Nat):Int×Sr:=if 2<n then (1+(Ax s<|(n:Int)-1).1,(Ax s<|(n:Int)-1).2)else (0,s)
def L7(s:Sr)(o i:Int):Yj×Sr :=
 if o≠0/\o≠i then
  if (Ax s 4).1=0 then (⟨1,0,i,0⟩,(Ax s 4).2)
  else if (Ax (Ax s 4).2 2).1=0 then (⟨2,0,o,i⟩,(Ax (Ax s 4).2 2).2)else (⟨2,0,i,o⟩,(Ax (Ax s 4).2 2).2)
 else (⟨1,0,i,0⟩,s)
def jm(s:Sr)(n:Nat):Yj×Sr :=
 if 1<n then
  if (Ax s 8).1=0 then (⟨1,0,1+(Ax (Ax s 8).2 ((n:Int)-1)).1,0⟩,(Ax (Ax s 8).2 ((n:Int)-1)).2)else (⟨3,0,0,0⟩,(Ax s 8).2)
 else (⟨3,0,0,0⟩,s)
def IS(s:Sr)(n i:Nat):Yj×Sr:=if i+1<n then L7 (VX s n).2 (VX s n).1 ((i:Int)+1)else jm s n
def JB(n:Nat):Nat->Nat->Sr->List Yj->List Yj×Sr
 |0,_,s,acc=>(acc,s)
 |k+1,i,s,acc=>JB n k (i+1) (IS s n i).2 (acc++[(IS s n i).1])
theorem rP(n:Nat):∀(k i:Nat)(s:Sr)(a:List Yj),(JB n k i s a).1.length=a.length+k
 |0,_,_,_=>rfl
 |k+1,i,s,a=>by rw[JB,rP];simp;omega
def fd(n i:Nat)(t:Yj):Prop :=
 (t=⟨3,0,0,0⟩/\¬i+1<n)\/(∃q:Nat,t=⟨1,0,q,0⟩/\1<=q/\q<n/\(i+1<n->q=i+1))\/(∃q r:Nat,t=⟨2,0,q,r⟩/\1<=q/\q<n/\1<=r/\r<n/\q≠r/\(q=i+1\/r=i+1)/\i+1<n)
theorem C0(s:Sr)(n:Nat):(VX s n).1=0\/(1<=(VX s n).1/\(VX s n).1<n):=by
 unfold VX;split
 .rename_i h;have:=XE s (n:=(n:Int)-1) oM;right;show 1<=1+(Ax s<|(n:Int)-1).1/\1+(Ax s<|(n:Int)-1).1<n;omega
 exact bC rfl
theorem Cs(s:Sr)(n i:Nat)(h:i<n):fd n i (IS s n i).1:=by
 unfold IS;split
 .rename_i a;have e:=C0 s n;unfold L7;split
  .rename_i b;let⟨q,hq⟩:=Zv (x:=(VX s n).1) oM;rw[hq]at b e |-;split;·exact aZ<|bC ⟨i+1,rfl,oM,a,λ_=>rfl⟩
   split;·exact aZ<|aZ ⟨q,i+1,rfl,oM,oM,oM,a,oM,aZ rfl,a⟩
   exact aZ<|aZ ⟨i+1,q,rfl,oM,a,oM,oM,oM,bC rfl,a⟩
  exact aZ<|bC ⟨i+1,rfl,oM,a,λ_=>rfl⟩
 rename_i a;unfold jm;split
 .rename_i b;split
  .have c:=XE (Ax s 8).2 (n:=(n:Int)-1) oM;let⟨q,hq⟩:=Zv c.1;rw[hq]at c |-;exact aZ<|bC ⟨1+q,sP,oM,oM,λd=>absurd d a⟩
  exact bC ⟨rfl,a⟩
 exact bC ⟨rfl,a⟩
theorem rR(n:Nat):∀(k i:Nat)(s:Sr)(a:List Yj),a.length=i->i+k=n->(∀j (h:j<a.length),fd n j a[j])->∀j (h:j<(JB n k i s a).1.length),fd n j (JB n k i s a).1[j]
 |0,_,_,_,_,_,h=>h
 |k+1,i,s,a,hl,hn,h=>by
  rw[JB];refine rR n k (i+1) _ _ (by simp[hl]) oM λj b=>?_;by_cases e:j<a.length;·rw[fA e];exact h j e
  have c:j=i:=by simp at b;omega
  subst c;rw[fN oM];simp only[hl,kL,eM];exact Cs s n j oM
def Yt(t:Yj):Xe:=⟨[],[],t⟩
def Zz:Nat->Value:=λ_=>.slice none 0 0
def Bx(w:World)(b:Nat)(a:Array Value)(t:Nat):Prop:=w.heap[b]?=some (.cells a t)
theorem Bx.lt{b:Nat}(h:Bx w b E n):b<w.heap.size:=by
 by_cases e:b<w.heap.size;·exact e
 unfold Bx at h;rw[iI oM]at h;cases h
theorem Bx.cell{b q:Nat}{u:Value}(h:Bx w b E n)(hq:E[q]?=some u):w.cell? (Hk b q)=some u:=(cell_of_row w b q E n _ h).trans hq
theorem Bx.c{b:Nat}(h:Bx w b E n)(q:Nat)(hq:E[q]?=some a:=by rfl):w.cell? (Hk b q)=some a:=h.cell hq
theorem Bx.thaw{b:Nat}(h:Bx w b E n)(q:Nat):w.frozen? (Hk b q)=false:=by
 unfold World.frozen?;unfold Bx at h;show(match w.heap[b]? with|some (.cells _ _ (lo,hi))=>decide (lo<=q)&&decide (q<hi)|_=>false)=false;rw[h];simp
theorem Bx.set{b:Nat}(h:Bx w b E n)(q:Nat)(u:Value):Bx (w.setCell ⟨b,q,none⟩ u) b (E.setIfInBounds q u) n:=heap_setCell_same w b q E n u h
theorem Bx.keep{w':World}{b:Nat}(h:Bx w b E n)(k:w'.heap[b]?=w.heap[b]?):Bx w' b E n:=k.trans h
theorem Bx.new(w:World)(a:Array Value)(t:Nat):Bx (w.alloc<|.cells a t) w.heap.size a t:=World.alloc_heap_new _ _
theorem Bx.box{b:Nat}(h:Bx w b E n)(o:Obj):Bx (w.alloc o) b E n:=h.keep<|Below.heap_alloc _ _ _ h.lt
theorem Bx.other{b:Nat}(h:Bx w b E n)(c:b≠m):Bx (w.setCell ⟨m,k,none⟩ a) b E n:=h.keep<|Below.heap_setCell _ _ _ _ c
theorem Bx.grown{b:Nat}{r:Option Nat}(h:Bx w b E n)(g:w.grownBy v r)(a:some b≠r):Bx v b E n:=h.keep<|g.block b h.lt a
structure Im(w wr:World)(sb B:Nat)(s:Sr)(v:Value)(acc:List Yj):Prop where
 dr:ZQ wr sb B s
 gr:w.grownBy wr (some sb)
 bw:B<=w.heap.size
 res:Bx wr w.heap.size #[.int .i64 0,.slice none 0 0] 25
 fun_:Bx wr (w.heap.size+1) #[.int .i64 0,v] 25
 own:wr.ownsRow (w.heap.size+2) 46 6 v acc.length (XF Zz Zz<|acc.map Yt)
 size:w.heap.size+2<=wr.heap.size
theorem Im.next{wr:World}{s c:Sr}{b:List Yj}(h:Im w wr n m s a b)(g:wr.grownBy v (some n))(d:ZQ v n m c):Im w v n m c a b:=by
 have f:=h.dr.bB;have i:=h.bw;exact⟨d,Y5 h.gr g,h.bw,h.res.grown g (by intro e;injection e;omega),h.fun_.grown g (by intro e;injection e;omega),TW h.own g oM,aJ h.size g.size⟩
theorem Im.box{wr:World}{s:Sr}{b:List Yj}(h:Im w wr n m s a b)(o:Obj):Im w (wr.alloc o) n m s a b:=by
 have k:=bW wr o<|some n;exact⟨h.dr.box o,Y5 h.gr k,h.bw,h.res.box o,h.fun_.box o,h.own.alloc o,aJ h.size k.size⟩
theorem Im.put{wr:World}{s:Sr}{b:List Yj}(h:Im w wr n m s a b)(d:w.heap.size+2<=k)(c:a.ownBlock≠some k):Im w (wr.setCell ⟨k,B,none⟩ A) n m s a b:=by
 have e:=h.bw;exact⟨h.dr.put oM,XS h.gr oM,h.bw,h.res.other oM,h.fun_.other oM,fS h.own c A,by simpa [World.setCell]using h.size⟩
theorem Nx:(prog.info? 46).map (λi=>(i.zero,i.size,i.bytes))=some (some<|.agg #[Hq,Hq,Hp 0,Hp 0,Hp 0,Hp 0],6,80):=kR
def UK(w:World)(g:Nat)(t:Yj):Prop:=Bx w g #[.int .i64 t.kind,.int .i64 t.a,.int .i64 t.to,.int .i64 t.els] 41
theorem UK.put{t:Yj}(h:UK w n t)(a:Yj):UK ((((w.setCell ⟨n,0,none⟩ (.int .i64 a.kind)).setCell ⟨n,1,none⟩ (.int .i64 a.a)).setCell ⟨n,2,none⟩ (.int .i64 a.to)).setCell ⟨n,3,none⟩ (.int .i64 a.els)) n a:=by
 have:=(((Bx.set h 0<|Hp a.kind).set 1 (Hp a.a)).set 2 (Hp a.to)).set 3 (Hp a.els);simpa [UK]using this
theorem UK.cells{t:Yj}(h:UK w g t):w.cell? (Hk g 0)=some (Hp t.kind)/\w.cell? (Hk g 1)=some (Hp t.a)/\w.cell? (Hk g 2)=some (Hp t.to)/\w.cell? (Hk g 3)=some (Hp t.els):=⟨Bx.cell h rfl,Bx.cell h rfl,Bx.cell h rfl,Bx.cell h rfl⟩
theorem Im.put4{wr:World}{s:Sr}{u0 u1 u2 u3:Value}{d:List Yj}(h:Im w wr n m s a d)(b:w.heap.size+2<=k)(c:a.ownBlock≠some k):Im w ((((wr.setCell ⟨k,0,none⟩ u0).setCell ⟨k,1,none⟩ u1).setCell ⟨k,2,none⟩ u2).setCell ⟨k,3,none⟩ u3) n m s a d:=(((h.put b c).put b c).put b c).put b c
theorem Im.push{wc:World}{s:Sr}{e:List Yj}{tt:Yj}(h:Im w wc n m s a e)(o:Obj)(c:(wc.alloc o).grownBy v a.ownBlock)(g:v.ownsRow (w.heap.size+2) 46 6 A (e.length+1) (XF Zz Zz (e.map Yt)++[.slice none 0 0,.slice none 0 0,.int .i64 tt.kind,.int .i64 tt.a,.int .i64 tt.to,.int .i64 tt.els])) :
 Im w (v.setCell ⟨w.heap.size+1,1,none⟩ A) n m s A (e++[tt])/\Bx v (w.heap.size+1) #[.int .i64 0,a] 25:=by
 have p:=h.size;have ha:=bW wc o none;have d:∀b,b<w.heap.size+2->v.heap[b]?=wc.heap[b]?:=λb i=>(c.block b (oN ha.size) λf=>by have:=(h.own.lt b f.symm).1;omega).trans (ha.block b oM sP);have q:=aJ ha.size c.size;have j:=h.fun_.keep<|d _ oM;have x:=h.bw;have u:=h.dr.bB;refine⟨⟨?_,?_,h.bw,(h.res.keep<|d _ oM).other oM,?_,?_,by simpa [World.setCell]using Nat.le_trans p q⟩,j⟩;·exact(ZQ.mk (h.dr.src.block (d _ oM) λr _ t=>d r oM) h.dr.ok h.dr.bB oM).put oM
 .exact XS ⟨c.os.trans<|ha.os.trans h.gr.os,c.tape.trans<|ha.tape.trans h.gr.tape,c.output.trans<|ha.output.trans h.gr.output,oM,λk l i=>(d k oM).trans (h.gr.block k l i)⟩ oM
 .have:=j.set 1 A;simpa using this
 rw[aQ,bG];unfold XF at g |-;rw[List.map_singleton,Zo];refine fS g (λf=>?_) A;have:=(g.lt _ f).1;simp at this
theorem BB(g B:Nat)(t:Sr)(n:Nat)(w:World)(ao:Hs (ZQ w g B t))(bx:1<=n)(hn:n<=1000) :
 Calls prog 65 #[Hn g,Hp n] w λe w'=>∃v,e=.returned (.agg #[Hp 0,v])/\ZQ w' g B (JB n n 0 t []).2/\w.grownBy w' (some g)/\w'.ownsRow (w.heap.size+2) 46 6 v n (XF Zz Zz<|(JB n n 0 t []).1.map Yt):=by
 obtain⟨i0,a7,ba,bb,bc⟩:=Xq Nx
 go_in
 go_wp2
 go_loopw [6] (λT wr=>∃(m i:Nat)(b:Sr)(k:List Yj)(v:Value),i+m=n/\T=Hp i/\Hs (k.length=i)/\Hs (JB n m i b k=JB n n 0 t [])/\Hs (Im w wr g B b v k)) λT _=>n-(intOf T).toNat
 case atStart=>
  refine⟨n,0,t,[],Hq,oM,rfl,Xa rfl,Xa rfl,Xa ?_⟩;have m:=bW w (.cells #[Hp 0,Hq] 25) (some g);have k2:=bW (w.alloc<|.cells #[Hp 0,Hq] 25) (.cells #[Hp 0,Hq] 25) (some g);refine⟨(ao.box _).box _,Y5 m k2,ao.sB,(Bx.new _ _ _).box _,?_,dA _ _ _ _,sP⟩;have:=Bx.new (w.alloc<|.cells #[Hp 0,Hq] 25) #[Hp 0,Hq] 25;rwa[aO]at this
 obtain⟨m,i,b,k,v,bv,rfl,D,U,d⟩:=hrel;cases m with
 |succ m=>
  have a8:i<n:=oM;have bw:(i:Int)<n:=oM;have N:Hs (JB n m (i+1) (IS b n i).2 (k++[(IS b n i).1])=JB n n 0 t []):=U
  go_upto_if 19 with fail
  have u:Hs (Im w (wr.alloc<|.cells #[Hp 3,Hp 0,Hp 0,Hp 0] 41) g B b v k):=Xa<|d.box _;have q:Hs (UK (wr.alloc<|.cells #[Hp 3,Hp 0,Hp 0,Hp 0] 41) wr.heap.size ⟨3,0,0,0⟩):=Xa<|Bx.new _ _ _;have H:=Xa d.size;have I:Hs (v.ownBlock≠some wr.heap.size):=Xa (λe=>by have:=(d.own.lt _ e).2;omega);have E:Hs (g≠wr.heap.size):=Xa (λe=>by have:=d.dr.bB;have:=d.dr.sB;have:=d.size;have:=d.bw;omega);generalize wr.alloc _=wt at*;generalize wr.heap.size=C at*
  go_cut [8]from 10 to 73 λ_ wx=>Hs (Im w wx g B (IS b n i).2 v k)/\Hs (UK wx C (IS b n i).1)
  case first=>
   obtain⟨t0,t1,t2,t3⟩:=UK.cells q;have tz:=Bx.thaw q;have a:Hs (IS b n i=if i+1<n then L7 (VX b n).2 (VX b n).1 ((i:Int)+1)else jm b n):=Xa rfl;by_cases h1:i+1<n
   .rw[aU h1]at a;have a2:(i:Int)+1<n:=oM;by_cases G:2<n
    .have X:(2:Int)<n:=oM;rw[show VX b n=(1+(Ax b<|(n:Int)-1).1,(Ax b<|(n:Int)-1).2) by unfold VX;rw[aU G]]at a;dsimp only at a;go_wp2_with fail
     have F:=Xa<|u.put4 (u0:=Hp 1) (u1:=Hp 0) (u2:=Hp<|(i:Int)+1) (u3:=Hp 0) H I;have O:=Xa<|UK.put q ⟨1,0,((i:Int)+1),0⟩;refine(XC g B b ((n:Int)-1) _ (Xa F.dr) oM oM).mono ?_;rintro e w5⟨rfl,c,f⟩;have K:=XE b (n:=((n:Int)-1)) oM;obtain⟨r,s1,h⟩:∃r o,Ax b ((n:Int)-1)=(r,o):=⟨_,_,rfl⟩;rw[h]at c a K |-;dsimp only at c a K |-;have s:=Xa<|F.next f c;have l:Hs (UK w5 C _):=Xa (Bx.grown O f λe=>E<|by injection e with e;exact e.symm);obtain⟨bd,bf,bi,bl⟩:=UK.cells l;have bm:=Bx.thaw l;have bz:(1+r != 0)=true:=by simp;omega
     have ab:(1+r:Int)≠0:=oM;by_cases y:1+r=(i:Int)+1
     .have a3:(1+r != (i:Int)+1)=false:=by simpa using y
      rw[L7,aM λhh=>hh.2 y]at a;go_wp2;go_meet;rw[a.o];exact⟨s,l⟩
     have a3:(1+r != (i:Int)+1)=true:=by simpa using y
     rw[L7,aU ⟨ab,y⟩]at a;go_wp2_with fail
     refine(XC g B s1 4 _ (Xa s.dr) oM oM).mono ?_;rintro e w6⟨rfl,c,f⟩;have L:=XE s1 (n:=4) oM;obtain⟨r4,s4,h⟩:∃r o,Ax s1 4=(r,o):=⟨_,_,rfl⟩;rw[h]at c a L |-;dsimp only at c a L |-;have Q:=Xa<|s.next f c;have p:Hs (UK w6 C _):=Xa (Bx.grown l f λe=>E<|by injection e with e;exact e.symm);obtain⟨bn,bo,bp,bq⟩:=UK.cells p;have br:=Bx.thaw p;by_cases j:r4=0
     .have Y:(r4 != 0)=false:=by simpa using j
      rw[aU j]at a;go_wp2;go_meet;rw[a.o];exact⟨Q,p⟩
     have Y:(r4 != 0)=true:=by simpa using j
     rw[aM j]at a;go_wp2_with fail
     have R:=Xa<|Q.put4 (u0:=Hp 2) (u1:=Hp 0) (u2:=Hp<|(i:Int)+1) (u3:=Hp<|1+r) H I;have V:=Xa<|UK.put p ⟨2,0,((i:Int)+1),(1+r)⟩;refine(XC g B s4 2 _ (Xa R.dr) oM oM).mono ?_;rintro e w8⟨rfl,c,f⟩;have ar:=XE s4 (n:=2) oM;obtain⟨A,s5,h⟩:∃r o,Ax s4 2=(r,o):=⟨_,_,rfl⟩;rw[h]at c a ar |-;dsimp only at c a ar |-;have ad:=Xa<|R.next f c;have P:Hs (UK w8 C _):=Xa (Bx.grown V f λe=>E<|by injection e with e;exact e.symm);obtain⟨b1,b3,b4,b5⟩:=UK.cells P;have b6:=Bx.thaw P;by_cases z:A=0
     .have a4:(A==0)=true:=by simpa using z
      rw[aU z]at a;have W:=Xa<|ad.put4 (u0:=Hp 2) (u1:=Hp 0) (u2:=Hp<|1+r) (u3:=Hp<|(i:Int)+1) H I;have a1:=Xa<|UK.put P ⟨2,0,(1+r),((i:Int)+1)⟩;go_wp2;go_meet;rw[a.o];exact⟨W,a1⟩
     have a4:(A==0)=false:=by simpa using z
     rw[aM z]at a;go_wp2;go_meet;rw[a.o];exact⟨ad,P⟩
    have X:¬(2:Int)<n:=oM;rw[show VX b n=(0,b) by unfold VX;rw[aM G]]at a;rw[L7,aM λhh=>hh.1 rfl]at a;have F:=Xa<|u.put4 (u0:=Hp 1) (u1:=Hp 0) (u2:=Hp<|(i:Int)+1) (u3:=Hp 0) H I;have O:=Xa<|UK.put q ⟨1,0,((i:Int)+1),0⟩;go_wp2;go_meet;rw[a.o];exact⟨F,O⟩
   rw[aM h1]at a;have a2:¬(i:Int)+1<n:=oM;by_cases G:1<n
   .have X:(1:Int)<n:=oM;rw[jm,aU G]at a;go_wp2_with fail
    refine(XC g B b 8 _ (Xa u.dr) oM oM).mono ?_;rintro e w5⟨rfl,c,f⟩;have K:=XE b (n:=8) oM;obtain⟨r,s1,h⟩:∃r o,Ax b 8=(r,o):=⟨_,_,rfl⟩;rw[h]at c a K |-;dsimp only at c a K |-;have s:=Xa<|u.next f c;have l:Hs (UK w5 C _):=Xa (Bx.grown q f λe=>E<|by injection e with e;exact e.symm);obtain⟨bd,bf,bi,bl⟩:=UK.cells l;have bm:=Bx.thaw l;by_cases j:r=0
    .have Y:(r==0)=true:=by simpa using j
     rw[aU j]at a;go_wp2_with fail
     refine(XC g B s1 ((n:Int)-1) _ (Xa s.dr) oM oM).mono ?_;rintro e w6⟨rfl,c,f⟩;have L:=XE s1 (n:=((n:Int)-1)) oM;obtain⟨A,s2,h⟩:∃r o,Ax s1 ((n:Int)-1)=(r,o):=⟨_,_,rfl⟩;rw[h]at c a L |-;dsimp only at c a L |-;have Q:=Xa<|s.next f c;have p:Hs (UK w6 C _):=Xa (Bx.grown l f λe=>E<|by injection e with e;exact e.symm);obtain⟨bn,bo,bp,bq⟩:=UK.cells p;have br:=Bx.thaw p;have R:=Xa<|Q.put4 (u0:=Hp 1) (u1:=Hp 0) (u2:=Hp<|1+A) (u3:=Hp 0) H I;have V:=Xa<|UK.put p ⟨1,0,(1+A),0⟩;go_wp2;go_meet;rw[a.o];exact⟨R,V⟩
    have Y:(r==0)=false:=by simpa using j
    rw[aM j]at a;go_wp2;go_meet;rw[a.o];exact⟨s,l⟩
   have X:¬(1:Int)<n:=oM;rw[jm,aM G]at a;go_wp2;go_meet;rw[a.o];exact⟨u,q⟩
  obtain⟨x,ac⟩:=hcut;generalize IS b n i=tk at*;obtain⟨M,s2⟩:=tk;dsimp only at x ac N;obtain⟨t0,t1,t2,t3⟩:=UK.cells ac;have f1:=Bx.c x.fun_ 1;have fz:=Bx.thaw x.fun_;have b0:=x.size;go_wp2_with (at_builtin;refine bT _ rfl _ _ 23 rfl (w.heap.size+2) 46 i0 (.agg #[Hq,Hq,Hp 0,Hp 0,Hp 0,Hp 0]) 6 80 underlying23 a7 ba bb bc rfl vZ v k.length (XF Zz Zz<|k.map Yt) rfl (x.own.alloc _) (Hk wc.heap.size 0) 1 1 [Hq,Hq,Hp M.kind,Hp M.a,Hp M.to,Hp M.els] rfl rfl (World.news_of_block<|World.alloc_heap_new _ _) ?c2 ?c3 ?c4 ?c5 ?_)
  case c2=>intro T hu;simp at hu;rcases hu with rfl|rfl|rfl|rfl|rfl<;>rfl
  case c3=>unfold maxLen;have:=D.o;omega
  case c4=>have:=D.o;omega
  case c5=>simp;omega
  intro v8 w8 aa ap a9 a6;obtain⟨ay,J⟩:=x.push _ ap aa;have W:=Xa ay;obtain⟨aj,af,rfl,S,Z⟩:=Xm aa oM;have k0:=Bx.c J 0;have k1:=Bx.c J 1;have kz:=Bx.thaw J;have bt:=Xa J;go_wp2;exact⟨⟨m,i+1,s2,k++[M],_,oM,gM,Xa (by rw[aQ,D.o];rfl),N,W⟩,by simp[intOf];omega⟩
 |zero=>
  have N:Hs ((k,b)=JB n n 0 t []):=U;have a8:¬(i:Int)<n:=oM;have f0:=Bx.c d.fun_ 0;have f1:=Bx.c d.fun_ 1;have r0:=Bx.c d.res 0;have r1:=Bx.c d.res 1;have rz:=Bx.thaw d.res;obtain⟨aj,af,rfl,S,Z⟩:=Xm d.own<|oN D.o;have HL:=Xa S.1;have az:=Xa D.o;generalize aq:k.length=al at*;have a0:=Xa aq;go_wp2;rw[<-N.o];refine cC (v:=.agg #[Hp 0,Hl aj al af]) (by simp[results,results65,go_sem,r0,r1]) rfl ⟨_,rfl,?_,?_,?_⟩;·exact(d.dr.put d.bw).put d.bw
  .exact XS (XS d.gr<|aA _) (aA _)
  have a5:n=al:=oN az.o;rw[a5];have ax:=d.own;rw[a0.o]at ax;exact ownsRow_setCell_below (a:=(Hk w.heap.size 1)) (ownsRow_setCell_below (a:=(Hk w.heap.size 0)) ax (mH vZ) _) (mH vZ) _
section
structure XW(w w':World)(lab lab':Nat->Nat×Nat×Nat)(base:Nat)(ok:Nat->Prop):Prop where
 size:w.heap.size<=w'.heap.size
 same:∀b,base<=b->b<w.heap.size->ok b->w'.heap[b]?=w.heap[b]?/\lab' b=lab b
 fresh:(∀b,w.heap.size<=b->lab b=(0,0,0))->∀b,w'.heap.size<=b->lab' b=(0,0,0)
variable {w w': World} {lab lab': Nat -> Nat×Nat×Nat} {base: Nat} {ok: Nat -> Prop}
theorem Xv.sp{L:Nat×Nat×Nat}{t c:Nat}{v:Value}{n:Nat}{a:List Value}(h:Xv w lab L base t c v n a)(k:XW w w' lab lab' base ok)(g:∀b,lab b=L->ok b):Xv w' lab' L base t c v n a :=
 h.keep λb d f e=>by have:=k.same b d f<|g b e;exact⟨this.1,this.2.trans e⟩
theorem Xv.nil{L:Nat×Nat×Nat}{t c n:Nat}{a:List Value}(h:Xv w lab L base t c Hq n a):Xv w' lab' L base t c Hq n a :=
 ⟨Zl h.own (λb e=>by cases e),λb e=>by cases e⟩
theorem Bx.sp{b t:Nat}{a:Array Value}(h:Bx w b a t)(k:XW w w' lab lab' base ok)(c:base<=b)(d:ok b):Bx w' b a t:=h.keep (k.same b c h.lt d).1
theorem XW.grown{a:Nat}(g:w.grownBy w' (some a))(i:a<base):XW w w' lab lab base (λ_=>True) :=
 ⟨g.size,λb f c _=>⟨g.block b c λe=>by injection e;omega,rfl⟩,λh b d=>h b<|aJ g.size d⟩
theorem XW.box(o:Obj):XW w (w.alloc o) lab lab base (λ_=>True) :=
 ⟨(bW w o none).size,λb _ a _=>⟨(bW w o none).block b a sP,rfl⟩,λh b c=>h b<|aJ (bW w o none).size c⟩
theorem XW.put(g q:Nat)(u:Value):XW w (w.setCell ⟨g,q,none⟩ u) lab lab base (λb=>b≠g) :=
 ⟨by simp[World.setCell],λb _ _ a=>⟨Below.heap_setCell _ _ _ _ a,rfl⟩,λh b a=>h b<|by simpa [World.setCell]using a⟩
theorem Xv.grow{L:Nat×Nat×Nat}{t g:Nat}{v a:Value}{p k:Nat}{l h:List Value}(i:Xv w lab L base t g v p l)(d:w.grownBy w' v.ownBlock)(j:w'.ownsRow base t g a k h)(n:a.ownBlock=v.ownBlock\/a.ownBlock=some w.heap.size)(o:∀b,w.heap.size<=b->lab b=(0,0,0)) :
 ∃lab',Xv w' lab' L base t g a k h/\XW w w' lab lab' base (λb=>lab b≠L):=by
 refine⟨λb=>if a.ownBlock=some b then L else lab b,⟨j,λb e=>aU e⟩,d.size,λb q m c=>⟨d.block b m λe=>c<|i.lab b e.symm,aM λe=>?_⟩,λ_ b c=>(aM λe=>?_).trans (o b<|aJ d.size c)⟩
 .rcases n with f|f;·exact c<|i.lab b (f.symm.trans e)
  rw[e]at f;injection f with f;omega
 have:=(j.lt b e).2;have:=d.size;omega
theorem XW.trans{j:World}{g:Nat->Nat×Nat×Nat}{i:Nat->Prop}(h:XW w w' lab lab' base ok)(k:XW w' j lab' g base i):XW w j lab g base (λb=>ok b/\i b) :=
 ⟨aJ h.size k.size,λb d e f=>by
  have a:=h.same b d e f.1;have c:=k.same b d (aX e h.size) f.2;exact⟨c.1.trans a.1,c.2.trans a.2⟩,λm b l=>k.fresh (h.fresh m) b l⟩
theorem XW.weak{a:Nat->Prop}(h:XW w w' lab lab' base ok)(k:∀b,a b->ok b):XW w w' lab lab' base a:=⟨h.size,λb c d e=>h.same b c d<|k b e,h.fresh⟩
theorem ZU.sp{v:Value}{m:List Xe}{l g:Nat->Value}{av:Nat->Nat->Value}(h:ZU w lab base v m l g av)(k:XW w w' lab lab' base ok)(i:Nat)
 (d:∀b,(lab b).1≠0->(lab b).1<5->lab b≠(2,i,0)->lab b≠(3,i,0)->ok b) (c:(∀b,lab b=(2,i,0)\/lab b=(3,i,0)->ok b)\/(l i=.slice none 0 0/\g i=.slice none 0 0)):ZU w' lab' base v m l g av:=by
 refine⟨h.blks.sp k λb e=>d b (by rw[e];simp) (by rw[e];simp) (by rw[e];simp) (by rw[e];simp),λj a=>?_,λj a=>?_,λj a q hq=>(h.args j a q hq).sp k λb e=>d b (by rw[e];simp) (by rw[e];simp) (by rw[e];simp) (by rw[e];simp)⟩
 .by_cases e:j=i
  .subst e;rcases c with c|⟨f,_⟩;·exact(h.ps j a).sp k λb e=>c b<|bC e
   have:=h.ps j a;rw[f]at this |-;exact this.nil
  exact(h.ps j a).sp k λb e2=>d b (by rw[e2];simp) (by rw[e2];simp) (by rw[e2];simp;exact e) (by rw[e2];simp)
 by_cases e:j=i
 .subst e;rcases c with c|⟨_,f⟩;·exact(h.ins j a).sp k λb e=>c b<|aZ e
  have:=h.ins j a;rw[f]at this |-;exact this.nil
 exact(h.ins j a).sp k λb e2=>d b (by rw[e2];simp) (by rw[e2];simp) (by rw[e2];simp) (by rw[e2];simp;exact e)
theorem ZU.lay{g u c i:Nat}{a:List Xe}{l k:Nat->Value}{av:Nat->Nat->Value}(n:ZU w lab base (.slice (some ⟨g,0,none⟩) u c) a l k av)(D:i<a.length)(x:Xe)(p q:Value)(t:Nat->Value)
 (B:Xv w lab (2,i,0) base 106 2 p x.ps.length (Yh t x.ps)) (hq:Xv w lab (3,i,0) base 48 5 q x.is.length (YC x.is)) (ha:∀j (f:j<x.ps.length),Xv w lab (4,i,j) base 2 1 (t j) x.ps[j].args.length (Xt x.ps[j].args)) :
 ZU ((((((w.setCell ⟨g,i*6,none⟩ p).setCell ⟨g,i*6+1,none⟩ q).setCell ⟨g,i*6+2,none⟩ (.int .i64 x.te.kind)).setCell ⟨g,i*6+3,none⟩ (.int .i64 x.te.a)).setCell ⟨g,i*6+4,none⟩ (.int .i64 x.te.to)).setCell ⟨g,i*6+5,none⟩ (.int .i64 x.te.els)) lab base (.slice (some ⟨g,0,none⟩) u c) (a.set i x) (λj=>if j=i then p else l j) (λj=>if j=i then q else k j) (λj=>if j=i then t else av j):=by
 have A:a.length=u:=by
  rcases n.blks.own.2 with⟨e,_⟩|⟨_,_,_,e,_⟩;·cases e
  cases e;rfl
 subst A;have y:=n.blks.blk.2;have o:XW w ((((((w.setCell (Hk g<|i*6) p).setCell (Hk g<|i*6+1) q).setCell (Hk g<|i*6+2) (Hp x.te.kind)).setCell (Hk g<|i*6+3) (Hp x.te.a)).setCell (Hk g<|i*6+4) (Hp x.te.to)).setCell (Hk g<|i*6+5) (Hp x.te.els)) lab lab base (λb=>b≠g) :=
  ((((((XW.put g _ _).trans (XW.put g _ _)).trans (XW.put g _ _)).trans (XW.put g _ _)).trans (XW.put g _ _)).trans (XW.put g _ _)).weak λb d=>⟨⟨⟨⟨⟨d,d⟩,d⟩,d⟩,d⟩,d⟩
 have s:∀b,lab b≠(1,0,0)->b≠g:=λb d e=>d (by rw[e];exact y);refine⟨?_,λj f=>?_,λj f=>?_,λj f m h=>?_⟩
 .have d:=(((((n.blks.set (i*6) p).set (i*6+1) q).set (i*6+2) (Hp x.te.kind)).set (i*6+3) (Hp x.te.a)).set (i*6+4) (Hp x.te.to)).set (i*6+5) (Hp x.te.els)
  have e:XF (λj=>if j=i then p else l j) (λj=>if j=i then q else k j) (a.set i x)=((((((XF l k a).set (i*6) p).set (i*6+1) q).set (i*6+2) (Hp x.te.kind)).set (i*6+3) (Hp x.te.a)).set (i*6+4) (Hp x.te.to)).set (i*6+5) (Hp x.te.els):=by
   refine iG λr=>?_;have z:(XF l k a).length=a.length*6:=Zn (sz:=6) (λ_ _=>rfl) _ _;have F:(XF (λj=>if j=i then p else l j) (λj=>if j=i then q else k j) (a.set i x)).length=a.length*6:=(Zn (sz:=6) (λ_ _=>rfl) 0 (a.set i x)).trans sP;by_cases G:r<a.length*6
   .have f:r/6<a.length:=oM;have E:r/6<(a.set i x).length:=by simpa using f
    have v:r=r/6*6+r%6:=oM;have h:r%6<6:=dS _ vZ;generalize r/6=j at*;generalize r%6=m at*;subst v;have C:(XF (λj=>if j=i then p else l j) (λj=>if j=i then q else k j) (a.set i x))[j*6+m]?=(UT (if j=i then p else l j) (if j=i then q else k j) (a.set i x)[j].te)[m]?:=by
     unfold XF;rw[Xz (sz:=6) (λ_ _=>rfl) 0 (a.set i x) j (by simpa using f) m h,aV]
    rw[C];by_cases e:j=i
    .subst e;rw[aU rfl,aU rfl,cQ];simp only[kG,z]
     match m,h with
     |0,_=>simp[UT];omega
     |1,_=>simp[UT];omega
     |2,_=>simp[UT];omega
     |3,_=>simp[UT];omega
     |4,_=>simp[UT];omega
     |5,_=>simp[UT];omega
    rw[aM e,aM e,bI λe2=>e e2.symm];rw[dZ oM,dZ oM,dZ oM,dZ oM,dZ oM,dZ oM];unfold XF;rw[Xz (sz:=6) (λ_ _=>rfl) 0 a j f m h,aV]
   rw[dK oM,dK<|by simp only[bL];omega]
  rw[e,bL];exact d
 .by_cases e:j=i
  .subst e;simp only[aU,cQ];exact B.sp o λb e=>s b<|by rw[e];simp
  simp only[aM e,bI λe2=>e e2.symm];exact(n.ps j<|by simpa using f).sp o λb e=>s b<|by rw[e];simp
 .by_cases e:j=i
  .subst e;simp only[aU,cQ];exact hq.sp o λb e=>s b<|by rw[e];simp
  simp only[aM e,bI λe2=>e e2.symm];exact(n.ins j<|by simpa using f).sp o λb e=>s b<|by rw[e];simp
 by_cases e:j=i
 .subst e;simp only[cQ]at h |-;simp only[aU];exact(ha m h).sp o λb e=>s b<|by rw[e];simp
 simp only[bI λe2=>e e2.symm]at h |-;simp only[aM e];exact(n.args j (by simpa using f) m h).sp o λb e=>s b<|by rw[e];simp
end
def Uy(a:Nat)(s:Sr):Nat×Sr :=
 if 1<a then ((Ax s 4).1.toNat,(Ax s 4).2)else if a=1 then (if (Ax s 6).1=0 then 1 else 0,(Ax s 6).2)else (0,s)
theorem km(a:Nat)(s:Sr):(Uy a s).1<=3:=by
 unfold Uy;split
 .have:=XE s (n:=4) oM;show(Ax s 4).1.toNat<=3;omega
 split
 .show(if (Ax s 6).1=0 then 1 else 0)<=3;split<;>omega
 exact aN _
theorem tZ{s:Sr}(h:Jb s)(a:Nat):Jb (Uy a s).2:=by
 unfold Uy;split;·exact Y8 h _
 split;·exact Y8 h _
 exact h
def VK(k v:Nat):List Ph:=(List.range k).map λj=>⟨((v+j:Nat):Int),[]⟩
def ZS(k v:Nat):List Int:=(List.range k).map λj=>((v+j:Nat):Int)
theorem AA(k v:Nat):VK (k+1) v=VK k v++[⟨((v+k:Nat):Int),[]⟩]:=by unfold VK;rw[dN];simp
theorem Ap(k v:Nat):ZS (k+1) v=ZS k v++[((v+k:Nat):Int)]:=by unfold ZS;rw[dN];simp
theorem KI(k v:Nat):(VK k v).length=k:=by simp[VK]
theorem Ub(k v:Nat):(ZS k v).length=k:=by simp[ZS]
def Z9(a:Bool):Nat->Sr->List Int->Nat->List Yg->List Yg×List Int×Nat×Sr
 |0,s,vs,v,acc=>(acc,vs,v,s)
 |k+1,s,vs,v,acc=>
  if dB (E2 s vs v a).1.op=true then Z9 a k (E2 s vs v a).2 (vs++[(v:Int)]) (v+1) (acc++[(E2 s vs v a).1])
  else Z9 a k (E2 s vs v a).2 vs v (acc++[(E2 s vs v a).1])
structure NL where
 cnt:Nat
 ins:List Yg
 vs:List Int
 v:Nat
 s:Sr
def Hf(i v:Nat)(a:List Int)(s:Sr):NL :=
 if i=0 then ⟨(Ax s<|3+s.size).1.toNat+1,[⟨2,v,0,0,(Ax (Ax s<|3+s.size).2 3).1⟩],a++[(v:Int)],v+1,(Ax (Ax s<|3+s.size).2 3).2⟩
 else ⟨(Ax s<|3+s.size).1.toNat,[],a,v,(Ax s<|3+s.size).2⟩
def IJ(a:Bool)(t:Yj)(b:List Int)(s:Sr):Yj×Sr:=if t.kind=1 then (t,s)else (⟨t.kind,(YI s b a).1,t.to,t.els⟩,(YI s b a).2)
structure NR where
 blk:Xe
 vs:List Int
 v:Nat
 s:Sr
def VL(a:Bool)(i b:Nat)(t:Yj)(c:List Int)(v:Nat)(s:Sr):NR :=
 let p:=Uy b s;let h:=Hf i (v+p.1) (c++ZS p.1 v) p.2;let r:=Z9 a h.cnt h.s h.vs h.v h.ins;let e:=IJ a t r.2.1 r.2.2.2
 ⟨⟨VK p.1 v,r.1,e.1⟩,r.2.1,r.2.2.1,e.2⟩
structure I5 where
 xs:List Xe
 ends:List (List Int)
 v:Nat
 s:Sr
def XV:Xe:=⟨[],[],⟨0,0,0,0⟩⟩
def Zm(b:Bool)(a:List Int):Nat->Nat->I5->I5
 |0,_,g=>g
 |k+1,i,g=>
  let r:=VL b i (AQ g.xs 0 (i:Int)).length (g.xs.getD i XV).te (if i=0 then []else g.ends.getD (a.getD i 0).toNat []) g.v g.s
  Zm b a k (i+1) ⟨g.xs.set i r.blk,g.ends++[r.vs],r.v,r.s⟩
def ZD(a:List (List Int)):List Int->Sr->List Int->List Int×Sr
 |[],s,acc=>(acc,s)
 |p::ps,s,acc=>ZD a ps (YI (Ax s 3).2 (a.getD p.toNat []) ((Ax s 3).1 != 0)).2 (acc++[(YI (Ax s 3).2 (a.getD p.toNat []) ((Ax s 3).1 != 0)).1])
def Wo:Ph:=⟨0,[]⟩
def JC(a:List (List Int))(preds:List Int):Nat->Nat->List Ph->Sr->List Ph×Sr
 |0,_,ps,s=>(ps,s)
 |k+1,j,ps,s=>JC a preds k (j+1) (ps.set j ⟨(ps.getD j Wo).dst,(ZD a preds s (ps.getD j Wo).args).1⟩) (ZD a preds s (ps.getD j Wo).args).2
def ZL(a:List (List Int)):Nat->Nat->List Xe->Sr->List Xe×Sr
 |0,_,xs,s=>(xs,s)
 |k+1,i,xs,s=>
  let r:=JC a (AQ xs 0 (i:Int)) (xs.getD i XV).ps.length 0 (xs.getD i XV).ps s
  ZL a k (i+1) (xs.set i ⟨r.1,(xs.getD i XV).is,(xs.getD i XV).te⟩) r.2
theorem mu{c:Bool}:∀(k:Nat)(s:Sr)(b:List Int)(v:Nat)(a:List Yg),Jb s->Jb (Z9 c k s b v a).2.2.2
 |0,_,_,_,_,h=>h
 |k+1,s,b,v,a,h=>by
  rw[Z9];split;·exact mu k _ _ _ _<|qZ h
  exact mu k _ _ _ _<|qZ h
theorem WH{near:Bool}:∀(k:Nat)(s:Sr)(a:List Int)(v:Nat)(b:List Yg),v<=(Z9 near k s a v b).2.2.1/\(Z9 near k s a v b).2.2.1<=v+k/\(Z9 near k s a v b).2.1.length<=a.length+k/\(Z9 near k s a v b).1.length=b.length+k
 |0,_,_,_,_=>⟨aA _,aA _,aA _,rfl⟩
 |k+1,s,a,v,b=>by
  rw[Z9];split
  .have:=WH (near:=near) k (E2 s a v near).2 (a++[(v:Int)]) (v+1) (b++[(E2 s a v near).1]);simp only[aQ,bA,bO]at this;omega
  have:=WH (near:=near) k (E2 s a v near).2 a v (b++[(E2 s a v near).1]);simp only[aQ,bA,bO]at this;omega
theorem un(i v:Nat)(a:List Int){s:Sr}(h:Jb s):(Hf i v a s).cnt<=10/\v<=(Hf i v a s).v/\(Hf i v a s).v<=v+1/\(Hf i v a s).vs.length<=a.length+1/\(Hf i v a s).ins.length<=1:=by
 have b:=h.size;have c:=XE s (n:=3+s.size) oM;unfold Hf;split
 .refine⟨?_,gX v,aA _,?_,aA _⟩
  .show(Ax s<|3+s.size).1.toNat+1<=10;omega
  show(a++[(v:Int)]).length<=a.length+1;simp
 refine⟨?_,aA _,gX v,gX _,aN _⟩;show(Ax s<|3+s.size).1.toNat<=10;omega
theorem EJ(i v:Nat)(a:List Int){s:Sr}(h:Jb s):Jb (Hf i v a s).s:=by
 unfold Hf;split;·exact Y8 (Y8 h _) _
 exact Y8 h _
theorem De{t:Yj}{s:Sr}(h:Jb s):Jb (IJ r t l s).2:=by
 unfold IJ;split;·exact h
 exact og h _ _
theorem DM{t:Yj}{s:Sr}(h:Jb s):Jb (VL r n m t l k s).s:=De<|mu _ _ _ _ _ (EJ _ _ _<|tZ h _)
theorem Em{near:Bool}{np:Nat}{t:Yj}{vs0:List Int}{v:Nat}{s:Sr}(h:Jb s):v<=(VL near i np t vs0 v s).v/\(VL near i np t vs0 v s).v<=v+14/\(VL near i np t vs0 v s).vs.length<=vs0.length+14/\(VL near i np t vs0 v s).blk.is.length<=11/\(VL near i np t vs0 v s).blk.ps.length<=3:=by
 have a:=km np s;have b:=un i (v+(Uy np s).1) (vs0++ZS (Uy np s).1 v) (tZ h np);have c:=WH (near:=near) (Hf i (v+(Uy np s).1) (vs0++ZS (Uy np s).1 v) (Uy np s).2).cnt (Hf i (v+(Uy np s).1) (vs0++ZS (Uy np s).1 v) (Uy np s).2).s (Hf i (v+(Uy np s).1) (vs0++ZS (Uy np s).1 v) (Uy np s).2).vs (Hf i (v+(Uy np s).1) (vs0++ZS (Uy np s).1 v) (Uy np s).2).v (Hf i (v+(Uy np s).1) (vs0++ZS (Uy np s).1 v) (Uy np s).2).ins;rw[aQ,Ub]at b;refine⟨?_,?_,?_,?_,?_⟩
 .show v<=(Z9 near _ _ _ _ _).2.2.1;omega
 .show(Z9 near _ _ _ _ _).2.2.1<=v+14;omega
 .show(Z9 near _ _ _ _ _).2.1.length<=vs0.length+14;omega
 .show(Z9 near _ _ _ _ _).1.length<=11;omega
 show(VK (Uy np s).1 v).length<=3;rw[KI];exact a
section
structure JU(w wr:World)(lab:Nat->Nat×Nat×Nat)(sb B:Nat)(s:Sr)(fb vals G c:Nat)(xs:List Xe)(pv iv:Nat->Value)(av:Nat->Nat->Value)(ve:Value)(ev:Nat->Value)(ends:List (List Int))(vi:Value)(ids:List Int):Prop where
 dr:ZQ wr sb B s
 gr:w.grownBy wr (some sb)
 bw:B<=w.heap.size
 res:Bx wr w.heap.size #[.int .i64 0,.slice none 0 0] 25
 resl:lab w.heap.size=(0,0,0)
 fbx:Bx wr fb #[.int .i64 vals,.slice (some ⟨G,0,none⟩) xs.length c] 25
 fbl:lab fb=(0,0,0)
 fbb:w.heap.size<fb
 fn:ZU wr lab w.heap.size (.slice (some ⟨G,0,none⟩) xs.length c) xs pv iv av
 es:Xv wr lab (6,0,0) w.heap.size 69 1 ve ends.length (Yu (λi _=>[ev i]) 0 ends)
 evs:∀i (h:i<ends.length),Xv wr lab (5,i,0) w.heap.size 2 1 (ev i) ends[i].length (Xt ends[i])
 id:Xv wr lab (7,0,0) w.heap.size 2 1 vi ids.length (Xt ids)
 fr:∀b,wr.heap.size<=b->lab b=(0,0,0)
 nil_:∀j,ends.length<=j->pv j=.slice none 0 0/\iv j=.slice none 0 0
structure MS(wr:World)(lab:Nat->Nat×Nat×Nat)(base i xb:Nat)(p q:Value)(t:Yj)(ps:List Ph)(is:List Yg)(vv:Value)(vs:List Int):Prop where
 bx:Bx wr xb #[p,q,.int .i64 t.kind,.int .i64 t.a,.int .i64 t.to,.int .i64 t.els] 46
 bl:lab xb=(0,0,0)
 bb:base<xb
 xp:Xv wr lab (2,i,0) base 106 2 p ps.length (Yh Zz ps)
 xi:Xv wr lab (3,i,0) base 48 5 q is.length (YC is)
 xv:Xv wr lab (5,i,0) base 2 1 vv vs.length (Xt vs)
variable {w wr w': World} {lab lab': Nat -> Nat×Nat×Nat} {ok: Nat -> Prop} {sb B: Nat} {s s': Sr} {fb vals G c: Nat} {xs: List Xe} {pv iv: Nat -> Value} {av: Nat -> Nat -> Value} {ve: Value} {ev: Nat -> Value} {ends: List (List Int)} {vi: Value} {ids: List Int}
theorem JU.sp(h:JU w wr lab sb B s fb vals G c xs pv iv av ve ev ends vi ids)(k:XW wr w' lab lab' w.heap.size ok)(f:ok w.heap.size)(hF:ok fb)
 (a:∀b,(lab b).1≠0->lab b≠(2,ends.length,0)->lab b≠(3,ends.length,0)->lab b≠(5,ends.length,0)->ok b) (g:ZQ w' sb B s') (i:w.grownBy w' (some sb)):JU w w' lab' sb B s' fb vals G c xs pv iv av ve ev ends vi ids:=by
 refine⟨g,i,h.bw,h.res.sp k (aA _) f,?_,h.fbx.sp k (dU h.fbb) hF,?_,h.fbb,h.fn.sp k ends.length (λb j d l m=>?_) (aZ<|h.nil_ _ (aA _)),h.es.sp k λb e=>a b (by rw[e];simp) (by rw[e];simp) (by rw[e];simp) (by rw[e];simp),λo n=>(h.evs o n).sp k λb e=>a b (by rw[e];simp) (by rw[e];simp) (by rw[e];simp) (by rw[e];simp;omega),h.id.sp k λb e=>a b (by rw[e];simp) (by rw[e];simp) (by rw[e];simp) (by rw[e];simp),k.fresh h.fr,h.nil_⟩;·exact(k.same _ (aA _) h.res.lt f).2.trans h.resl
 .exact(k.same _ (dU h.fbb) h.fbx.lt hF).2.trans h.fbl
 by_cases e:lab b=(5,ends.length,0)
 .rw[e]at d;simp at d
 exact a b j l m e
theorem MS.sp{a i xb:Nat}{p q:Value}{t:Yj}{ps:List Ph}{is:List Yg}{vv:Value}{vs:List Int}(h:MS wr lab a i xb p q t ps is vv vs)(k:XW wr w' lab lab' a ok)(f:ok xb)(d:∀b,(lab b).1≠0->ok b):MS w' lab' a i xb p q t ps is vv vs :=
 ⟨h.bx.sp k (dU h.bb) f,(k.same _ (dU h.bb) h.bx.lt f).2.trans h.bl,h.bb,h.xp.sp k λb e=>d b (by rw[e];simp),h.xi.sp k λb e=>d b (by rw[e];simp),h.xv.sp k λb e=>d b<|by rw[e];simp⟩
structure Vu(w wr:World)(lab:Nat->Nat×Nat×Nat)(sb B:Nat)(s:Sr)(fb vals G c:Nat)(xs:List Xe)(pv iv:Nat->Value)(av:Nat->Nat->Value)(ve:Value)(ev:Nat->Value)(ends:List (List Int))(vi:Value)(ids:List Int)(xb:Nat)(p q:Value)(t:Yj)(ps:List Ph)(is:List Yg)(vv:Value)(vs:List Int):Prop where
 f:JU w wr lab sb B s fb vals G c xs pv iv av ve ev ends vi ids
 x:MS wr lab w.heap.size ends.length xb p q t ps is vv vs
 ne:xb≠fb
variable {xb: Nat} {p q: Value} {t: Yj} {ps: List Ph} {is: List Yg} {vv: Value} {vs: List Int}
theorem JU.lt(h:JU w wr lab sb B s fb vals G c xs pv iv av ve ev ends vi ids):sb<w.heap.size:=oP h.bw h.dr.bB
theorem JU.call(h:JU w wr lab sb B s fb vals G c xs pv iv av ve ev ends vi ids)(g:wr.grownBy w' (some sb))(d:ZQ w' sb B s'):JU w w' lab sb B s' fb vals G c xs pv iv av ve ev ends vi ids :=
 h.sp (XW.grown g h.lt) trivial trivial (λ_ _ _ _ _=>trivial) d (Y5 h.gr g)
theorem JU.box(h:JU w wr lab sb B s fb vals G c xs pv iv av ve ev ends vi ids)(o:Obj):JU w (wr.alloc o) lab sb B s fb vals G c xs pv iv av ve ev ends vi ids :=
 h.sp (XW.box o) trivial trivial (λ_ _ _ _ _=>trivial) (h.dr.box o) (Y5 h.gr<|bW _ _ _)
theorem Vu.call(h:Vu w wr lab sb B s fb vals G c xs pv iv av ve ev ends vi ids xb p q t ps is vv vs)(g:wr.grownBy w' (some sb))(d:ZQ w' sb B s'):Vu w w' lab sb B s' fb vals G c xs pv iv av ve ev ends vi ids xb p q t ps is vv vs :=
 ⟨h.f.call g d,h.x.sp (XW.grown g h.f.lt) trivial λ_ _=>trivial,h.ne⟩
theorem Vu.box(h:Vu w wr lab sb B s fb vals G c xs pv iv av ve ev ends vi ids xb p q t ps is vv vs)(o:Obj):Vu w (wr.alloc o) lab sb B s fb vals G c xs pv iv av ve ev ends vi ids xb p q t ps is vv vs :=
 ⟨h.f.box o,h.x.sp (XW.box o) trivial λ_ _=>trivial,h.ne⟩
theorem JU.put{g m:Nat}{u:Value}(h:JU w wr lab sb B s fb vals G c xs pv iv av ve ev ends vi ids)(a:lab g=(0,0,0))(f:w.heap.size<g)(hF:g≠fb):JU w (wr.setCell ⟨g,m,none⟩ u) lab sb B s fb vals G c xs pv iv av ve ev ends vi ids :=
 h.sp (XW.put g m u) oM (kA hF) (λb d _ _ _ e=>d<|by rw[e,a]) (h.dr.put<|oN h.bw) (XS h.gr<|dU f)
theorem Vu.val(h:Vu w wr lab sb B s fb vals G c xs pv iv av ve ev ends vi ids xb p q t ps is vv vs)(d:Nat):Vu w (wr.setCell ⟨fb,0,none⟩ (.int .i64 d)) lab sb B s fb d G c xs pv iv av ve ev ends vi ids xb p q t ps is vv vs:=by
 have k:XW wr (wr.setCell (Hk fb 0) (Hp d)) lab lab w.heap.size (λb=>b≠fb):=XW.put _ _ _;have a:∀b,(lab b).1≠0->b≠fb:=λb f e=>f (by rw[e,h.f.fbl]);have g:=h.f.fbb;have l:=h.f.bw;refine⟨⟨h.f.dr.put oM,XS h.f.gr oM,h.f.bw,h.f.res.other oM,h.f.resl,?_,h.f.fbl,g,h.f.fn.sp k ends.length (λb f _ _ _=>a b f) (bC λb e=>a b (by rcases e with e|e<;>rw[e]<;>simp)),h.f.es.sp k λb e=>a b (by rw[e];simp),λj i=>(h.f.evs j i).sp k λb e=>a b (by rw[e];simp),h.f.id.sp k λb e=>a b (by rw[e];simp),k.fresh h.f.fr,h.f.nil_⟩,h.x.sp k h.ne a,h.ne⟩;have:=h.f.fbx.set 0<|Hp d;simpa using this
theorem Vu.terA(h:Vu w wr lab sb B s fb vals G c xs pv iv av ve ev ends vi ids xb p q t ps is vv vs)(a:Int):Vu w (wr.setCell ⟨xb,3,none⟩ (.int .i64 a)) lab sb B s fb vals G c xs pv iv av ve ev ends vi ids xb p q ⟨t.kind,a,t.to,t.els⟩ ps is vv vs:=by
 have k:XW wr (wr.setCell (Hk xb 3) (Hp a)) lab lab w.heap.size (λb=>b≠xb):=XW.put _ _ _;have d:∀b,(lab b).1≠0->b≠xb:=λb f e=>f (by rw[e,h.x.bl]);refine⟨h.f.put h.x.bl h.x.bb h.ne,⟨?_,h.x.bl,h.x.bb,h.x.xp.sp k λb e=>d b (by rw[e];simp),h.x.xi.sp k λb e=>d b (by rw[e];simp),h.x.xv.sp k λb e=>d b<|by rw[e];simp⟩,h.ne⟩;have:=h.x.bx.set 3<|Hp a;simpa using this
theorem Xv.below{b a t i n:Nat}{L:Nat×Nat×Nat}{v:Value}{d:List Value}(h:Xv wr lab L b t i v n d)(f:wr.grownBy w' v.ownBlock)(e:a<=b)(g:a<=wr.heap.size):Below a wr w':=Xy (Below.refl _ _) f h.own e g
theorem JU.low(h:JU w wr lab sb B s fb vals G c xs pv iv av ve ev ends vi ids)(k:Below w.heap.size wr w'):ZQ w' sb B s/\w.grownBy w' (some sb) :=
 ⟨h.dr.keep<|k.mono h.bw,⟨k.os.trans h.gr.os,k.tape.trans h.gr.tape,k.output.trans h.gr.output,aJ h.gr.size k.size,λb a d=>(k.block b a).trans (h.gr.block b a d)⟩⟩
theorem Vu.pushV{i:Nat}{d:Value}{x:Int}(h:Vu w wr lab sb B s fb vals G c xs pv iv av ve ev ends vi ids xb p q t ps is vv vs)(g:wr.grownBy w' vv.ownBlock)(n:w'.ownsRow w.heap.size 2 1 d i (Xt vs++[Hp x]))(m:i=vs.length+1)(l:d.ownBlock=vv.ownBlock\/d.ownBlock=some wr.heap.size) :
 ∃lab',Vu w w' lab' sb B s fb vals G c xs pv iv av ve ev ends vi ids xb p q t ps is d (vs++[x]):=by
 let⟨lab',o,k⟩:=h.x.xv.grow g n l h.f.fr;have a:∀b,lab b=(0,0,0)->lab b≠(5,ends.length,0):=λb e=>by rw[e];simp
 have f:=h.f.low<|h.x.xv.below g (aA _) h.f.gr.size;refine⟨lab',⟨h.f.sp k (a _ h.f.resl) (a _ h.f.fbl) (λb _ _ _ j=>j) f.1 f.2,⟨h.x.bx.sp k (dU h.x.bb) (a _ h.x.bl),(k.same _ (dU h.x.bb) h.x.bx.lt (a _ h.x.bl)).2.trans h.x.bl,h.x.bb,h.x.xp.sp k λb e=>by rw[e];simp,h.x.xi.sp k λb e=>by rw[e];simp,?_⟩,h.ne⟩⟩;subst m;have e:Xt (vs++[x])=Xt vs++[Hp x]:=by simp[Xt]
 rw[e,aQ];exact o
theorem Vu.pushP{n:Nat}{a:Value}{x:Int}(h:Vu w wr lab sb B s fb vals G c xs pv iv av ve ev ends vi ids xb p q t ps is vv vs)(l:wr.grownBy w' p.ownBlock)(y:w'.ownsRow w.heap.size 106 2 a n (Yh Zz ps++[.int .i64 x,.slice none 0 0]))(v:n=ps.length+1)(u:a.ownBlock=p.ownBlock\/a.ownBlock=some wr.heap.size) :
 Bx w' xb #[p,q,.int .i64 t.kind,.int .i64 t.a,.int .i64 t.to,.int .i64 t.els] 46/\∃lab',Vu w (w'.setCell ⟨xb,0,none⟩ a) lab' sb B s fb vals G c xs pv iv av ve ev ends vi ids xb a q t (ps++[⟨x,[]⟩]) is vv vs:=by
 let⟨lab',z,d⟩:=h.x.xp.grow l y u h.f.fr;have f:∀b,lab b=(0,0,0)->lab b≠(2,ends.length,0):=λb e=>by rw[e];simp
 have k:=h.f.low<|h.x.xp.below l (aA _) h.f.gr.size;have m:=h.x.bx.sp d (dU h.x.bb) (f _ h.x.bl);have g:=(d.same _ (dU h.x.bb) h.x.bx.lt (f _ h.x.bl)).2.trans h.x.bl;have i:XW w' (w'.setCell (Hk xb 0) a) lab' lab' w.heap.size (λb=>b≠xb):=XW.put _ _ _;have j:∀b,(lab' b).1≠0->b≠xb:=λb o e=>o (by rw[e,g]);refine⟨m,lab',⟨(h.f.sp d (f _ h.f.resl) (f _ h.f.fbl) (λb _ r _ _=>r) k.1 k.2).put g h.x.bb h.ne,⟨?_,g,h.x.bb,?_,(h.x.xi.sp d λb e=>by rw[e];simp).sp i λb e=>j b (by rw[e];simp),(h.x.xv.sp d λb e=>by rw[e];simp).sp i λb e=>j b<|by rw[e];simp⟩,h.ne⟩⟩
 .have:=m.set 0 a;simpa using this
 subst v;have e:Yh Zz (ps++[⟨x,[]⟩])=Yh Zz ps++[Hp x,Hq]:=by unfold Yh;rw[Zo];rfl
 rw[e,aQ];exact z.sp i λb e=>j b<|by rw[e];simp
theorem Vu.pushI{n:Nat}{a:Value}{x:Yg}(h:Vu w wr lab sb B s fb vals G c xs pv iv av ve ev ends vi ids xb p q t ps is vv vs)(l:wr.grownBy w' q.ownBlock)(y:w'.ownsRow w.heap.size 48 5 a n (YC is++[.int .i64 x.op,.int .i64 x.dst,.int .i64 x.a,.int .i64 x.b,.int .i64 x.imm]))(v:n=is.length+1)(u:a.ownBlock=q.ownBlock\/a.ownBlock=some wr.heap.size) :
 Bx w' xb #[p,q,.int .i64 t.kind,.int .i64 t.a,.int .i64 t.to,.int .i64 t.els] 46/\∃lab',Vu w (w'.setCell ⟨xb,1,none⟩ a) lab' sb B s fb vals G c xs pv iv av ve ev ends vi ids xb p a t ps (is++[x]) vv vs:=by
 let⟨lab',z,d⟩:=h.x.xi.grow l y u h.f.fr;have f:∀b,lab b=(0,0,0)->lab b≠(3,ends.length,0):=λb e=>by rw[e];simp
 have k:=h.f.low<|h.x.xi.below l (aA _) h.f.gr.size;have m:=h.x.bx.sp d (dU h.x.bb) (f _ h.x.bl);have g:=(d.same _ (dU h.x.bb) h.x.bx.lt (f _ h.x.bl)).2.trans h.x.bl;have i:XW w' (w'.setCell (Hk xb 1) a) lab' lab' w.heap.size (λb=>b≠xb):=XW.put _ _ _;have j:∀b,(lab' b).1≠0->b≠xb:=λb o e=>o (by rw[e,g]);refine⟨m,lab',⟨(h.f.sp d (f _ h.f.resl) (f _ h.f.fbl) (λb _ _ r _=>r) k.1 k.2).put g h.x.bb h.ne,⟨?_,g,h.x.bb,(h.x.xp.sp d λb e=>by rw[e];simp).sp i λb e=>j b (by rw[e];simp),?_,(h.x.xv.sp d λb e=>by rw[e];simp).sp i λb e=>j b<|by rw[e];simp⟩,h.ne⟩⟩
 .have:=m.set 1 a;simpa using this
 subst v;have e:YC (is++[x])=YC is++[Hp x.op,Hp x.dst,Hp x.a,Hp x.b,Hp x.imm]:=by unfold YC;rw[Zo];rfl
 rw[e,aQ];exact z.sp i λb e=>j b<|by rw[e];simp
def Hi(w:World)(G k:Nat)(p q:Value)(t:Yj):World:=(((((w.setCell ⟨G,k,none⟩ p).setCell ⟨G,k+1,none⟩ q).setCell ⟨G,k+2,none⟩ (.int .i64 t.kind)).setCell ⟨G,k+3,none⟩ (.int .i64 t.a)).setCell ⟨G,k+4,none⟩ (.int .i64 t.to)).setCell ⟨G,k+5,none⟩ (.int .i64 t.els)
theorem Mj(w:World)(lab:Nat->Nat×Nat×Nat)(d G k:Nat)(p q:Value)(t:Yj):XW w (Hi w G k p q t) lab lab d (λb=>b≠G) :=
 ((((((XW.put G _ _).trans (XW.put G _ _)).trans (XW.put G _ _)).trans (XW.put G _ _)).trans (XW.put G _ _)).trans (XW.put G _ _)).weak λ_ a=>⟨⟨⟨⟨⟨a,a⟩,a⟩,a⟩,a⟩,a⟩
theorem Vu.es9(h:Vu w wr lab sb B s fb vals G c xs pv iv av ve ev ends vi ids xb p q t ps is vv vs):Xv (Hi wr G (ends.length*6) p q t) lab (6,0,0) w.heap.size 69 1 ve ends.length (Yu (λi _=>[ev i]) 0 ends)/\(∀b,(Hi wr G (ends.length*6) p q t).heap.size<=b->lab b=(0,0,0))/\(Hi wr G (ends.length*6) p q t).heap.size=wr.heap.size:=by
 have a:=h.f.fn.blks.blk.2;have k:=Mj wr lab w.heap.size G (ends.length*6) p q t;exact⟨h.f.es.sp k λ_ e e2=>by rw[e2,a]at e;simp at e,k.fresh h.f.fr,by simp[Hi,World.setCell]⟩
theorem Vu.close{o:Obj}{ve':Value}{n':Nat}(h:Vu w wr lab sb B s fb vals G c xs pv iv av ve ev ends vi ids xb p q t ps is vv vs)(y:ends.length<xs.length)(x:((Hi wr G (ends.length*6) p q t).alloc o).grownBy w' ve.ownBlock)(M:w'.ownsRow w.heap.size 69 1 ve' n' (Yu (λi _=>[ev i]) 0 ends++[vv]))(L:n'=ends.length+1)(I:ve'.ownBlock=ve.ownBlock\/ve'.ownBlock=some ((Hi wr G (ends.length*6) p q t).alloc o).heap.size)(N:∀S∈ps,S.args=[]) :
 ∃lab' R P D E,JU w w' lab' sb B s fb vals G c (xs.set ends.length ⟨ps,is,t⟩) R P D ve' E (ends++[vs]) vi ids:=by
 have J:=h.f.fn.blks.blk.2;have d:=h.f.fn.blks.blk.1.1;have Q:=Mj wr lab w.heap.size G (ends.length*6) p q t;have m:=(Q.trans<|XW.box o).weak λb g=>⟨g,trivial⟩;have f:∀b,lab b≠(1,0,0)->b≠G:=λb g e=>g (by rw[e];exact J);have v:=h.f.es.sp m (λb e=>f b<|by rw[e];simp);let⟨lab',O,A⟩:=v.grow x M I<|m.fresh h.f.fr;have a:=m.trans A;have r:w.heap.size≠G/\lab w.heap.size≠(6,0,0):=⟨f _ (by rw[h.f.resl];simp),by rw[h.f.resl];simp⟩;have hF:fb≠G/\lab fb≠(6,0,0):=⟨f _ (by rw[h.f.fbl];simp),by rw[h.f.fbl];simp⟩;have l:∀b,lab b≠(1,0,0)->lab b≠(6,0,0)->b≠G/\lab b≠(6,0,0):=λb e1 e2=>⟨f b e1,e2⟩
 have C:Below w.heap.size wr ((Hi wr G (ends.length*6) p q t).alloc o):=Below.alloc ((((((((Below.refl _ _).setCell d _).setCell d _).setCell d _).setCell d _).setCell d _).setCell d _)) (by have:=h.f.gr.size;simpa [Hi,World.setCell]using this) o;have low:=C.trans<|v.below x (aA _) (aJ h.f.gr.size C.size);have u:=h.f.low low;have F:=(h.f.fn.lay y ⟨ps,is,t⟩ p q Zz h.x.xp h.x.xi (λj k=>by
  have:=N ps[j] (aH k);rw[this];exact⟨dA _ _ _ _,λb e=>by cases e⟩))
 have H:=(F.sp (XW.box (lab:=lab) (base:=w.heap.size) o) 0 (λ_ _ _ _ _=>trivial) (bC λ_ _=>trivial)).sp A 0 (λb T n _ _ e=>by rw[e]at n;simp at n) (bC λb e e2=>by rw[e2]at e;simp at e);refine⟨lab',λj=>if j=ends.length then p else pv j,λj=>if j=ends.length then q else iv j,λj=>if j=ends.length then Zz else av j,λj=>if j=ends.length then vv else ev j,⟨u.1,u.2,h.f.bw,h.f.res.sp a (aA _) r,(a.same _ (aA _) h.f.res.lt r).2.trans h.f.resl,?_,(a.same _ (dU h.f.fbb) h.f.fbx.lt hF).2.trans h.f.fbl,h.f.fbb,?_,?_,λi K=>?_,h.f.id.sp a λb e=>l b (by rw[e];simp) (by rw[e];simp),a.fresh h.f.fr,λj k=>?_⟩⟩;rotate_left
 .rw[bL];exact H
 .subst L
  have e:Yu (λi (_:List Int)=>[if i=ends.length then vv else ev i]) 0 (ends++[vs])=Yu (λi _=>[ev i]) 0 ends++[vv]:=by
   rw[Zo,aV,aU rfl,ZF (f':=λi _=>[ev i]) 0 ends λi y=>by rw[aV,aM oM]]
  rw[e,aQ];exact O
 .by_cases e:i<ends.length
  .rw[fA e,aM oM];exact(h.f.evs i e).sp a λb e=>l b (by rw[e];simp) (by rw[e];simp)
  have:i=ends.length:=by simp at K;omega
  subst this;rw[fN<|aA _,aU rfl];simp only[kL,eM];exact h.x.xv.sp a λb e=>l b (by rw[e];simp) (by rw[e];simp)
 .have z:j≠ends.length/\ends.length<=j:=by simp at k;omega
  simp only[aM z.1];exact h.f.nil_ j z.2
 rw[bL];exact h.f.fbx.sp a (dU h.f.fbb) hF
end
end Go.Proofs.YtffcajcgkblkoaaGreatDoor
