import Derived.Test.YtghnlncgiihhgaaGreatDoorNSP
import Derived.Test.YtghnlncgiihhgaaGreatDoorW7
namespace Go.Proofs.YtghnlncgiihhgaaGreatDoor
set_option maxHeartbeats 2000000
set_option maxRecDepth 100000
open Go.RowKit Go.Proofs.Tryz
variable{t:Int}{l:List Int}{s S:List Nat}{x:List Xe}{n m k B g i j c:Nat}{f F:Nat->Nat}{p:Option Addr}{a A:Value}{w v u:World}
theorem Tryz.infoU64blockNo:(prog.info? 114).map (fun i=>(i.zero,i.size,i.bytes))=some (some (.int .u64 0),1,8):=vZ
theorem Jm(g K x:Nat)(W:Nat->Nat)(w:World)(d:Hid (XA W))(b:Hid (w.rowIs g 114 K (fun i=>.int .u64 (W i))))(s:x<64*K)(hK:K<=1000):Calls prog 73 #[.agg #[.slice (some ⟨g,0,none⟩) K K],.int .i64 x] w fun e h=>e=.returned (.bool (Xh W x))/\Below w.heap.size w h:=by
 have l:=dp x;have m:=dh x;have hq:x / 64<K:=oM;have q:x % 64<64:=dS _ vY;have a:=b.cell hq;have f:=b.lt;have n:=fun o=>oB (Xb (Below.refl w.heap.size w) o) a f
 have c:Hid ((bits .and .u64 ((W (x / 64):Int) / 2 ^ (x % 64)) 1==1)=Xh W x):=Xa (oJ (d _));clear a;generalize p:x / 64=j at *;generalize r:x % 64=t at *;generalize W j=k at *
 go_in
 go_wp2
 go_ret
 exact⟨nK c,Xb (Below.refl _ _) _⟩
theorem Tt(a:Nat)(w:World)(i:a<=60000):Calls prog 72 #[.int .i64 a] w fun e b=>∃g,e=.returned (.agg #[.slice (some ⟨g,0,none⟩) ((a+63) / 64) ((a+63) / 64)])/\w.heap.size<=g/\Below w.heap.size w b/\b.rowIs g 114 ((a+63) / 64) (fun _=>.int .u64 ((0:Nat):Int)):=by
 have f:=fM (P:=prog) 43 114 (.int .u64 0) 8 underlying43 Tryz.infoU64blockNo rfl .i64 .i64 ((a+63) / 64) oM oM;have hq:((a:Int)+63).tdiv 64=(((a+63) / 64:Nat):Int):=by rw[fY oM];omega
 have h:((a:Int)+64-1)=(a:Int)+63:=oM;have hK:(a+63) / 64<=1000:=oM;generalize (a+63) / 64=K at *
 go_in
 go_wp2;refine cC (v:=.agg #[.slice (some ⟨w.heap.size+1,0,none⟩) K K]) (by simp[results,results72,go_sem]) rfl ?_;refine⟨w.heap.size+1,rfl,oM,Xb (Xb (Below.refl _ _) _) _,?_⟩;have c:=fun d=>by
  have:=dG (w.alloc d) (.int .u64 0) K 114;rwa[aO]at this
 exact c _
theorem Tz(g K n A:Nat)(W:Nat->Nat)(l:Option Addr)(a:List Nat)(L B:Nat)(w:World)(ha:Hid (Xf w L B l (a.map Int.ofNat)))(p:Hid (n=a.length))(hn:n<=4000)(I:Hid (∀t∈a,t<64*K))(hK:K<=1000)(C:Hid (XA W))(o:Hid (w.rowIs g 114 K (fun i=>.int .u64 (W i))))(T:B<=w.heap.size)(Y:¬(L<=g/\g<B)) :
 Calls prog 74 #[.agg #[.slice (some ⟨g,0,none⟩) K K],.slice l n A] w fun e r=>e=.returned (.tuple #[])/\w.grownBy r (some g)/\r.rowIs g 114 K (fun i=>.int .u64 (addsN W a i)):=by
 go_in
 go_wp2;have X:=o.lt
 go_loopw [8] (fun u wr=>∃q:Nat,q<=n/\u=.int .i64 q/\Hid (w.grownBy wr (some g))/\wr.cell? ⟨w.heap.size,0,none⟩=some (.slice (some ⟨g,0,none⟩) K K)/\Hid (wr.rowIs g 114 K (fun i=>.int .u64 (addsN W (a.take q) i)))) (fun u _=>n-(intOf u).toNat)
 case atStart=>exact⟨0,aN _,rfl,Xa (bW _ _ _),sP,Xa (o.alloc _)⟩
 case round =>
  obtain⟨q,hq,rfl,f,H,c⟩:=hrel;by_cases Z:q<n
  ·have k:q<a.length:=oN p.out
   obtain⟨b,M,rfl,U,m⟩:=ha q (by simpa using k);have j:=(Xc (f.block b oM (fun e=>by injection e with e;omega))).trans m;rw[cM]at j;have ac:=I _ (aH k);have x:=Xa (VW (W:=W) k);have y:=Xa (Zs (a.take q) C);clear m;generalize a[q]=t at *;have R:=dp t;have S:=dh t;have O:Cl wr b (M+q) (.int .i64 (t:Int)):=j;clear j;generalize addsN W (a.take q)=h at *;have D:t / 64<K:=oM;have G:t % 64<64:=dS _ vY;have P:=c.cell D;have Q:=c.frozen;have v:=Xa (je G (y (t / 64)));have s:Hid (∀i,(if i=t / 64 then h (t / 64) ||| 2 ^ (t % 64)else h i)=addsN W (a.take (q+1)) i):=Xa (fun i=>by
    rw[x.out];unfold YH;by_cases e:i=t / 64
    ·rw[aU e,aU e,e]
    ·rw[aM e,aM e])
   generalize V:t / 64=d at *;generalize aa:t % 64=N at *;go_wp2
   go_region
   go_wp2;rw[v.out];have J:wr.grownBy (wr.setCell ⟨g,d,none⟩ (.int .u64 ((h d ||| 2 ^ N:Nat):Int))).drew (some g):=⟨rfl,rfl,rfl,by simp[World.setCell,World.drew],fun af _ F=>Below.heap_setCell _ _ _ _ (fun e=>F (by rw[e]))⟩;refine⟨⟨q+1,oM,gM,Xa (f.andThen J (fun ad E=>by cases E;exact aZ rfl)),?_,Xa ?_⟩,by simp[intOf];omega⟩
   ·exact(bH wr ⟨g,d,none⟩ ⟨w.heap.size,0,none⟩ _ (by show g≠w.heap.size;omega)).trans H
   ·refine World.rowIs.drew ((c.set d _).congr (fun i _=>?_))
    rw[<-s.out i];by_cases e:i=d<;>simp[e]
  ·have ab:q=n:=oM
   have z:Hid (a.take q=a):=Xa (aW (oN p.out));rw[z.out]at c;go_wp2
   go_end0
   exact⟨rfl,f,c⟩
theorem rK(g b c K:Nat)(S O T:Nat->Nat)(w:World)(n:Hid (XA S))(j:Hid (XA O))(E:Hid (XA T))(hK:K<=1000)(v:Hid (w.rowIs g 114 K (fun i=>.int .u64 (S i))))(t:Hid (w.rowIs b 114 K (fun i=>.int .u64 (O i))))(x:Hid (w.rowIs c 114 K (fun i=>.int .u64 (T i))))(D:c≠g)(L:Hid (b=g->S=O)) :
 Calls prog 124 #[.agg #[.slice (some ⟨g,0,none⟩) K K],.agg #[.slice (some ⟨b,0,none⟩) K K],.agg #[.slice (some ⟨c,0,none⟩) K K]] w fun e y=>e=.returned (.bool (grewN S O T K))/\w.grownBy y (some g)/\y.rowIs g 114 K (fun i=>.int .u64 (butN S O T i)):=by
 go_in
 go_wp2;have l1:=v.lt;have R:=t.lt;have U:=x.lt
 go_loopw [7,14] (fun C u wr=>∃q:Nat,q<=K/\u=.int .i64 q/\C=.bool (grewN S O T q)/\Hid (w.grownBy wr (some g))/\wr.cell? ⟨w.heap.size,0,none⟩=some (.slice (some ⟨g,0,none⟩) K K)/\wr.cell? ⟨w.heap.size+2,0,none⟩=some (.slice (some ⟨c,0,none⟩) K K)/\Hid (wr.rowIs g 114 K (fun i=>.int .u64 ((if i<q then butN S O T i else S i:Nat):Int)))) (fun _ u _=>K-(intOf u).toNat)
 case atStart=>exact⟨0,aN _,rfl,by rw[mi],Xa (((bW w _ _).andThen (bW _ _ _) (fun r d=>aZ d)).andThen (bW _ _ _) (fun r d=>aZ d)),by simp[go_sem],by simp[go_sem],Xa ((((v.alloc _).alloc _).alloc _).congr (fun i _=>sP))⟩
 case round =>
  obtain⟨q,hq,rfl,rfl,f,M,N,h⟩:=hrel;by_cases k:q<K
  ·have e1:Cl wr g q (.int .u64 (S q)):=(h.cell k).trans sP
   have e3:=(Xc (f.block c U (fun e=>D (by injection e)))).trans (x.cell k);have e2:wr.cell? ⟨b,q,none⟩=some (.int .u64 (O q)):=by
    by_cases e:b=g
    ·rw[<-L.out e,e];exact e1
    ·exact(Xc (f.block b R (fun A=>e (by injection A)))).trans (t.cell k)
   have ez:=h.frozen;have W:=kM (O q) (T q) (j q) (E q);have I:O q &&& (18446744073709551615-T q)<18446744073709551616:=iC jB (j q);have X:bits .andNot .u64 ((O q &&& (18446744073709551615-T q):Nat):Int) (S q:Int)=((moreN S O T q:Nat):Int):=kM _ (S q) I (n q);have Y:bits .or .u64 (S q:Int) ((moreN S O T q:Nat):Int)=((butN S O T q:Nat):Int):=u64_or_nat _ _ (n q) (WR j q);have l:=Xa (m6 S O T q);have P:g≠w.heap.size:=oM;have Q:g≠w.heap.size+2:=oM;have m:Hid ((wr.setCell ⟨g,q,none⟩ (.int .u64 (butN S O T q:Int))).rowIs g 114 K (fun i=>.int .u64 ((if i<q+1 then butN S O T i else S i:Nat):Int))):=Xa ((h.set q _).congr (fun i _=>by
    by_cases e:i=q
    ·subst e;simp
    ·rw[aM e]
     by_cases e2:i<q
     ·rw[aU e2,aU oM]
     ·rw[aM e2,aM oM]))
   have s:wr.grownBy (wr.setCell ⟨g,q,none⟩ (.int .u64 (butN S O T q:Int))) (some g):=⟨rfl,rfl,rfl,by simp[World.setCell],fun ab _ H=>Below.heap_setCell _ _ _ _ (fun e=>H (by rw[e]))⟩;have a:=Xa (f.andThen s (fun r d=>by cases d;exact aZ rfl));have o:=(bH wr ⟨g,q,none⟩ ⟨w.heap.size,0,none⟩ (.int .u64 (butN S O T q:Int)) P).trans M;have p:=(bH wr ⟨g,q,none⟩ ⟨w.heap.size+2,0,none⟩ (.int .u64 (butN S O T q:Int)) Q).trans N;generalize F:O q &&& (18446744073709551615-T q)=aa at *;generalize butN S O T q=V at *;generalize moreN S O T q=z at *;generalize S q=Sq at *;generalize O q=Z at *;generalize T q=Tq at *;generalize grewN S O T q=B at *;clear F s;cases B with
   | true =>
    go_wp2
    go_region
    go_wp2;exact⟨⟨q+1,oM,gM,by rw[l.out];rfl,Xa ⟨a.os,a.tape,a.output,a.size,a.block⟩,o,p,Xa m.drew⟩,by simp[intOf];omega⟩
   | false =>
    go_wp2
    go_region
    go_wp2;exact⟨⟨q+1,oM,gM,by rw[l.out];cases z<;>rfl,Xa ⟨a.os,a.tape,a.output,a.size,a.block⟩,o,p,Xa m.drew⟩,by simp[intOf];omega⟩
  ·have J:q=K:=oM
   subst J;go_wp2
   go_ret
   exact⟨rfl,f,h.congr (fun i G=>by rw[aU G])⟩
theorem sr(e c a b d:Int)(w:World) :
 Calls prog 117 #[.agg #[.int .i64 e,.int .i64 c,.int .i64 a,.int .i64 b,.int .i64 d]] w fun f g=>f=.returned (.bool (Wu ⟨e,c,a,b,d⟩))/\Below w.heap.size w g:=by
 go_in
 go_wp2
 all_goals
  go_ret
  refine⟨Xl ?_,Xb (Below.refl _ _) _⟩
  first | (simp[Wu, *];done) | (simp[Wu, *];omega)
def Uw(w:World):Prop:=0 < w.heap.size/\∀k:Nat,1<=k->k<=13->∃s,w.cell? ⟨0,k*5,none⟩=some (.string s)/\w.cell? ⟨0,k*5+1,none⟩=some (.bool (dB k))/\w.cell? ⟨0,k*5+2,none⟩=some (.bool (aB k)) /\
 w.cell? ⟨0,k*5+3,none⟩=some (.bool (bB k))/\∃i,w.cell? ⟨0,k*5+4,none⟩=some (.bool i)
def T7(w:World):Prop:=1 < w.heap.size/\∀k:Nat,1<=k->k<=3->∃s,w.cell? ⟨1,k*4,none⟩=some (.string s)/\w.cell? ⟨1,k*4+1,none⟩=some (.bool ((k:Int) != 1))/\w.cell? ⟨1,k*4+2,none⟩=some (.bool ((k:Int) != 3)) /\
 w.cell? ⟨1,k*4+3,none⟩=some (.bool ((k:Int)==2))
theorem Uw.keep{w':World}(h:Uw w)(k:Below w.heap.size w w'):Uw w':=by
 refine⟨aX h.1 k.size,fun i a b=>?_⟩;have e:=fun o=>Xc (o:=o) (k.block 0 h.1)
 obtain⟨s,c0,c1,c2,c3,j,c4⟩:=h.2 i a b;exact⟨s,(e _).trans c0,(e _).trans c1,(e _).trans c2,(e _).trans c3,j,(e _).trans c4⟩
theorem T7.keep{w':World}(h:T7 w)(k:Below w.heap.size w w'):T7 w':=by
 refine⟨aX h.1 k.size,fun i a b=>?_⟩;have e:=fun o=>Xc (o:=o) (k.block 1 h.1)
 obtain⟨s,c0,c1,c2,c3⟩:=h.2 i a b;exact⟨s,(e _).trans c0,(e _).trans c1,(e _).trans c2,(e _).trans c3⟩
theorem rN(a e d b f n c:Int)(w:World)(z:c<=13)(l:Hid (Uw w)) :
 Calls prog 99 #[.agg #[.int .i64 a,.int .i64 e,.int .i64 d,.int .i64 b,.int .i64 f],.int .i64 c,.int .i64 n] w fun g v=>g=.returned (.bool (Yw n c ⟨a,e,d,b,f⟩))/\Below w.heap.size w v:=by
 by_cases j:1<=a/\a<=c
 ·obtain⟨i,q⟩:=j
  obtain⟨k,rfl⟩:=bX (show 0<=a by omega);have A:=l.1;obtain⟨C,c0,c1,c2,c3,B,c4⟩:=l.2 k oM oM;have s:Hid (Yw n c ⟨k,e,d,b,f⟩=(Tp (dB k) e 0 n&&Tp (aB k) d 0 n&&Tp (bB k) b 0 n&&Wu ⟨k,e,d,b,f⟩)):=by
   show _=_;unfold Yw;rw[eB i,eB q];simp
  generalize dB (k:Int)=F at *;generalize aB (k:Int)=D at *;generalize bB (k:Int)=E at *;have y:(k:Int)<=13:=oM
  go_in
  go_wp2_with (first | (go_at_call 100;refine(Yp _ _ _ _ _).mono ?_;rintro g p ⟨rfl,o⟩;rw[o];clear o p) | (go_at_call 117;refine(sr _ _ _ _ _ _).mono ?_;rintro g p ⟨rfl,t⟩))
  all_goals
   go_ret
   refine⟨Xl ?_,?_⟩
   ·rw[s.out];simp[*]
   ·first | exact Xg (Xb (Xb (Below.refl _ _) _) _) t | exact Xb (Xb (Below.refl _ _) _) _
 ·have u:∃r,r=Yw n c ⟨a,e,d,b,f⟩/\r=false:=⟨_,rfl,by
   unfold Yw;by_cases i:1<=a
   ·rw[dJ (p:=a<=c) oM];simp
   ·rw[dJ (p:=1<=a) i];simp⟩
  obtain⟨r,m,rfl⟩:=u;rw[<-m];clear m;have h:a<1\/(1<=a/\c<a):=oM;clear j;rcases h with h | ⟨h,x⟩
  all_goals
   go_in
   go_wp2
   all_goals
    go_ret
    exact⟨rfl,Xb (Below.refl _ _) _⟩
theorem TI(e c a b d n:Int)(w:World)(g:Hid (Uw w)) :
 Calls prog 99 #[.agg #[.int .i64 e,.int .i64 c,.int .i64 a,.int .i64 b,.int .i64 d],.int .i64 10,.int .i64 n] w fun f h=>f=.returned (.bool (Yw n 10 ⟨e,c,a,b,d⟩))/\Below w.heap.size w h :=
 rN e c a b d n 10 w vY g
theorem Kn(a d tg c n low b:Int)(w:World)(f:Hid (T7 w)) :
 Calls prog 98 #[.agg #[.int .i64 a,.int .i64 d,.int .i64 tg,.int .i64 c],.int .i64 n,.int .i64 low,.int .i64 b] w fun e p=>e=.returned (.bool (Zu n low b ⟨a,d,tg,c⟩))/\Below w.heap.size w p:=by
 by_cases h:1<=a/\a<=3
 ·obtain⟨j,l⟩:=h
  obtain⟨k,rfl⟩:=bX (show 0<=a by omega);have t:=f.1;obtain⟨u,c0,c1,c2,c3⟩:=f.2 k oM oM;have m:Hid (Zu n low b ⟨k,d,tg,c⟩=(Tp ((k:Int) != 1) d 0 n&&Tp ((k:Int) != 3) tg low b&&Tp ((k:Int)==2) c low b)):=by
   show _=_;unfold Zu;rw[eB j,eB l];simp
  generalize ((k:Int) != 1)=v at *;generalize ((k:Int) != 3)=y at *;generalize ((k:Int)==2)=x at *
  go_in
  go_wp2_with (go_at_call 100;refine(Yp _ _ _ _ _).mono ?_;rintro e q ⟨rfl,i⟩;rw[i];clear i q)
  all_goals
   go_ret
   refine⟨Xl ?_,?_⟩
   ·rw[m.out];simp[*]
   ·exact Xb (Xb (Below.refl _ _) _) _
 ·have o:∃r,r=Zu n low b ⟨a,d,tg,c⟩/\r=false:=⟨_,rfl,oh h⟩
  obtain⟨r,g,rfl⟩:=o;rw[<-g];clear g;have s:a<1\/3<a:=oM;clear h
  go_in
  go_wp2
  all_goals
   go_ret
   exact⟨rfl,Xb (Below.refl _ _) _⟩
theorem J4(t:Yj)(w:World) :
 Calls prog 75 #[.agg #[.int .i64 t.kind,.int .i64 t.a,.int .i64 t.to,.int .i64 t.els]] w fun j e=>∃f h,j=.returned (.slice f t.tg.length h)/\Below w.heap.size w e/\Xf e w.heap.size e.heap.size f t.tg:=by
 obtain⟨b,l,tg,k⟩:=t;by_cases c:b=1
 ·subst c
  go_in
  go_wp2
  go_ret
  refine⟨_,_,rfl,Xb (Xb (Below.refl _ _) _) _,fun i a=>?_⟩;simp[Yj.tg]at a;subst a;exact⟨_,_,rfl,⟨sP,sP⟩,by simp[Yj.tg]⟩
 ·by_cases d:b=2
  ·subst d
   go_in
   go_wp2
   go_ret
   refine⟨_,_,rfl,Xb (Xb (Below.refl _ _) _) _,fun i a=>?_⟩;simp[Yj.tg]at a
   match i,a with
   | 0,_=>exact⟨_,_,rfl,⟨sP,sP⟩,by simp[Yj.tg]⟩
   | 1,_=>exact⟨_,_,rfl,⟨sP,sP⟩,by simp[Yj.tg]⟩
  ·have e1:(b==1)=false:=by simp[c]
   have e2:(b==2)=false:=by simp[d]
   have g:(Yj.tg ⟨b,l,tg,k⟩)=[]:=by simp[Yj.tg,c,d]
   rw[g];clear c d g
   go_in
   go_wp2
   go_ret
   exact⟨_,_,rfl,Xb (Below.refl _ _) _,fun i a=>absurd a sP⟩
def Je(L:List Nat):List Value:=L.map fun (x:Nat)=>Value.int .i64 (x:Int)
theorem VP(L:List Nat)(x:Nat):Je (L++[x])=Je L++[.int .i64 (x:Int)]:=by simp[Je]
theorem UY(w:World)(b c:Nat):Xf (w.alloc (.cells #[.int .i64 (b:Int)] c)) w.heap.size (w.heap.size+1) (some ⟨w.heap.size,0,none⟩) ([b].map Int.ofNat):=fun i a=>by
 have:i=0:=by simpa using a
 subst this;exact⟨_,0,rfl,⟨aA _,iJ _⟩,sP⟩
theorem KJ(t:Yj):t.tg.length<=2:=by
 unfold Yj.tg;split
 ·simp
 ·split<;>simp
structure YW(w:World)(bS gS BL K:Nat)(ab:Option Addr)(nb cb:Nat)(W:Nat->Nat)(v:Value)(L:List Nat):Prop where
 c0:w.cell? ⟨bS,0,none⟩=some (.slice ab nb cb)
 c1:w.cell? ⟨bS,1,none⟩=some (.slice (some ⟨gS,0,none⟩) K K)
 c2:w.cell? ⟨bS,2,none⟩=some v
 thaw:∀q,w.frozen? ⟨bS,q,none⟩=false
 row:w.rowIs gS 114 K (fun i=>.int .u64 (W i))
 own:w.ownsRow BL 2 1 v L.length (Je L)
 lb:bS<BL
 lg:gS<BL
 ne:bS≠gS
 sz:BL<=w.heap.size
structure Vh(w w':World)(bS gS:Nat)(v v':Value):Prop where
 os:w'.os=w.os
 tape:w'.tape=w.tape
 output:w'.output=w.output
 size:w.heap.size<=w'.heap.size
 block:∀k,k<w.heap.size->k≠bS->k≠gS->some k≠v.ownBlock->w'.heap[k]?=w.heap[k]?
 own:v'.ownBlock=v.ownBlock\/∀k,v'.ownBlock=some k->w.heap.size<=k
theorem Vh.refl(w:World)(a b:Nat)(v:Value):Vh w w a b v v:=⟨rfl,rfl,rfl,aA _,fun _ _ _ _ _=>rfl,bC rfl⟩
theorem Vh.trans{l:Value}(h:Vh w v n m a A)(k:Vh v u n m A l):Vh w u n m a l:=by
 refine⟨k.os.trans h.os,k.tape.trans h.tape,k.output.trans h.output,aJ h.size k.size,fun j d f g i=>?_,?_⟩
 ·refine(k.block j (aX d h.size) f g (fun e=>?_)).trans (h.block j d f g i)
  rcases h.own with b | b
  ·exact i (by rw[e,b])
  ·have:=b j e.symm;omega
 ·rcases k.own with c | c
  ·rcases h.own with b | b
   ·exact bC (c.trans b)
   ·exact aZ (fun j e=>b j (by rw[<-c];exact e))
  ·exact aZ (fun j e=>aJ h.size (c j e))
theorem Vh.of_below(h:Below w.heap.size w v):Vh w v n m a a:=⟨h.os,h.tape,h.output,h.size,fun k b _ _ _=>h.block k b,bC rfl⟩
theorem Vh.of_grown(h:w.grownBy v (some m)):Vh w v n m a a:=⟨h.os,h.tape,h.output,h.size,fun k b _ c _=>h.block k b (fun e=>c (by injection e)),bC rfl⟩
theorem YW.below(h:YW w n m k B p g i f a s)(b:Below w.heap.size w v):YW v n m k B p g i f a s:=by
 have l:=h.sz;have d:=b.block n (oN h.lb);have c:∀q,v.cell? ⟨n,q,none⟩=w.cell? ⟨n,q,none⟩:=fun q=>bZ d
 refine⟨(c 0).trans h.c0,(c 1).trans h.c1,(c 2).trans h.c2,fun q=>(bJ d).trans (h.thaw q),h.row.of_block (b.block m (oN h.lg)),?_,h.lb,h.lg,h.ne,aJ l b.size⟩;refine h.own.kept (row:=none) ⟨b.os,b.tape,b.output,b.size,fun j e _=>b.block j e⟩ ?_;cases a.ownBlock with
 | none=>exact bC rfl
 | some j=>exact aZ sP
theorem YW.seen(h:YW w n m k B p g i f a s)(c:w.grownBy v (some m))(j:v.rowIs m 114 B (fun o=>.int .u64 (F o))):YW v n m k B p g i F a s:=by
 have l:=h.sz;have d:=c.block n (oN h.lb) (fun e=>h.ne (by injection e));have b:∀q,v.cell? ⟨n,q,none⟩=w.cell? ⟨n,q,none⟩:=fun q=>bZ d
 exact⟨(b 0).trans h.c0,(b 1).trans h.c1,(b 2).trans h.c2,fun q=>(bJ d).trans (h.thaw q),j,TW h.own c h.lg,h.lb,h.lg,h.ne,aJ l c.size⟩
theorem YW.push{b:Nat}{r:Obj}(h:YW w n m k B p g i f a s)(d:(w.alloc r).grownBy v a.ownBlock)(H:v.ownsRow k 2 1 A (s.length+1) (Je s++[.int .i64 (b:Int)]))(F:A.ownBlock=a.ownBlock\/A.ownBlock=some (w.heap.size+1)) :
 YW (v.setCell ⟨n,2,none⟩ A) n m k B p g i f A (s++[b])/\Vh w (v.setCell ⟨n,2,none⟩ A) n m a A/\v.cell? ⟨n,2,none⟩=some a/\v.frozen? ⟨n,2,none⟩=false:=by
 have L:=h.sz;have o:=h.lb;have y:=h.lg;have K:(w.alloc r).heap.size=w.heap.size+1:=aO _ _;have J:=d.size;have z:∀c,c<k->some c≠a.ownBlock:=fun c x e=>by have:=(h.own.lt c e.symm).1;omega
 have ha:∀c,c<w.heap.size->(w.alloc r).heap[c]?=w.heap[c]?:=fun c x=>Below.heap_alloc _ _ _ x
 have u:=(d.block n oM (z _ o)).trans (ha _ oM);have G:=(d.block m oM (z _ y)).trans (ha _ oM);have j:∀q,v.cell? ⟨n,q,none⟩=w.cell? ⟨n,q,none⟩:=fun q=>bZ u
 have t:=fun q=>(bJ u).trans (h.thaw q)
 refine⟨⟨(XL _ _ oM _).trans ((j 0).trans h.c0),(XL _ _ oM _).trans ((j 1).trans h.c1),fQ _ _ _ ((j 2).trans h.c2),fun q=>by rw[eX];exact t q,(h.row.of_block G).setOther (fun e=>h.ne e.symm) _,?_,o,y,h.ne,by rw[Xd];omega⟩,⟨?_,?_,?_,by rw[Xd];omega,fun c C D I E=>?_,?_⟩,(j 2).trans h.c2,t 2⟩
 ·rw[VP,aQ]
  exact ownsRow_setCell_below H o _
 ·exact d.os
 ·exact d.tape
 ·exact d.output
 ·rw[Below.heap_setCell _ _ _ _ D]
  exact(d.block c oM E).trans (ha c C)
 ·rcases F with e | e
  ·exact bC e
  ·exact aZ (fun c l=>by rw[e]at l;injection l with l;omega)
theorem Vh.blks(d:Vh w v n m a A)(h:YW w n m k B p g i f a s)(q:Xp w j c p x)(l:¬(j<=n/\n<c))(o:¬(j<=m/\m<c))(r:c<=k):Xp v j c p x:=by
 have t:=h.sz;exact q.keepS (fun b u y=>d.block b oM (fun e=>l oM) (fun e=>o oM) (fun e=>by have:=(h.own.lt b e.symm).1;omega))
theorem VY(h e u K a D:Nat)(C:Option Addr)(d:List Xe)(R A:Nat)(bc:Hid (a=d.length))(hn:a<=1000)(hK:a<=64*K)(ch:K<=100)(S:¬(R<=h/\h<A))(T:¬(R<=e/\e<A))(U:A<=u)(hT:Hid (∀aa∈d,∀t∈aa.te.tg,0<=t/\t<a)) :
 ∀(m b:Nat)(W:Nat->Nat)(v:Value)(L:List Nat)(w:World),Hid (YW w h e u K C a D W v L)->Hid (Xp w R A C d)->b<a->Hid (XB W a<=m)->Hid (XA W)->L.length+XB W a<=a ->
 Calls prog 34 #[.pointer (some ⟨h,0,none⟩),.int .i64 b] w fun j w'=>j=.returned (.tuple #[])/\∃r,Vh w w' h e v r/\YW w' h e u K C a D (dfsV (X8 d) m b (W,L)).1 r (dfsV (X8 d) m b (W,L)).2:=by
 obtain⟨i0,b3,b7,b8,b9⟩:=Xq Tryz.info2';intro m
 induction m with
 | zero =>
  intro b W v L w g I E Q y hL;have HH:Hid (Xh W b=true):=Xa (T8 (oN Q.out) E);have i:=Xa (Jm e K b W w y (Xa g.row) oM oM);rw[HH.out]at i;have c1:=g.c1
  go_in
  go_wp2_with fail
  refine i.mono ?_;rintro j f ⟨rfl,k⟩;have l:=Xa (g.below k);have x:Hid (Vh w f h e v v):=Xa (Vh.of_below k);clear k i c1
  go_wp2_with fail
  refine cC (v:=.tuple #[]) (by simp[results,results34,go_sem]) rfl ?_;exact⟨rfl,v,x,l⟩
 | succ m ih =>
  intro b W v L w g I E Q y hL;have IH:=Xa ih;clear ih;cases hh:Xh W b with
  | true =>
   have aq:=Xa hh;clear hh;have i:=Xa (Jm e K b W w y (Xa g.row) oM oM);rw[aq.out]at i;have c1:=g.c1
   go_in
   go_wp2_with fail
   refine i.mono ?_;rintro j f ⟨rfl,k⟩;have l:=Xa (g.below k);have x:Hid (Vh w f h e v v):=Xa (Vh.of_below k);clear k i c1
   go_wp2_with fail
   refine cC (v:=.tuple #[]) (by simp[results,results34,go_sem]) rfl ?_;rw[Vd (s:=(W,L)) aq.out];exact⟨rfl,v,x,l⟩
  | false =>
   have O:=Xa hh;clear hh;have c0:=g.c0;have c1:=g.c1;have c2:=g.c2;have i:=Xa (Jm e K b W w y (Xa g.row) oM oM);rw[O.out]at i
   go_in
   go_wp2_with fail
   refine i.mono ?_;rintro j f ⟨rfl,k⟩;have l:=Xa (g.below k);have x:Hid (Vh w f h e v v):=Xa (Vh.of_below k);clear k i c0 c1 c2;have c0:=l.c0;have c1:=l.c1
   go_wp2_with fail
   have P:=Xa (l.below (Xb (Below.refl _ _) (.cells #[.int .i64 (b:Int)] 128)));have aj:Hid (Vh f (f.alloc (.cells #[.int .i64 (b:Int)] 128)) h e v v):=Xa (Vh.of_below (Xb (Below.refl _ _) _));have ar:Hid (Xf (f.alloc (.cells #[.int .i64 (b:Int)] 128)) f.heap.size (f.heap.size+1) (some ⟨f.heap.size,0,none⟩) ([b].map Int.ofNat)):=Xa (UY f b _);have bd:f.heap.size+1<=(f.alloc (.cells #[.int .i64 (b:Int)] 128)).heap.size:=sP;have b2:e<f.heap.size:=oP l.lg l.sz
   generalize f.alloc _=wa at *;have bq:Hid (∀t∈[b],t<64*K):=Xa (fun t o=>by
    have:t=b:=by simpa using o
    omega)
   refine(Tz e K 1 1 W _ [b] f.heap.size (f.heap.size+1) wa ar (Xa rfl) oM bq oM y (Xa P.row) bd oM).mono ?_;rintro j H ⟨rfl,V,a9⟩;have n:Hid (YW H h e u K C a D (YH W b) v L):=Xa (P.seen V a9);have M:=Xa ((x.trans aj).trans (Vh.of_grown V));have ad:=Xa (M.blks g I S T U);have a1:=Xa (Tb (W:=W) (n:=a) E O);have J:=Xa (dx (tg:=X8 d) (m:=m) (s:=(W,L)) O);clear V a9 P aj ar x l bd b2 c0 c1;have z:b<d.length:=oN bc.out
   obtain⟨bb,cc,rfl,cj,pa,pc,ia,ic,-,-,⟨t0,t1,t2,t3⟩,-,-⟩:=ad b z;have c0:=n.c0;have a0:=Xa (hT.out _ (aH z));rw[Km z]at J;dsimp only at J;generalize d[b].te=tm at *
   go_wp2_with fail
   refine(J4 tm H).mono ?_;rintro j w3 ⟨ce,cf,rfl,F,a6⟩;have ax:=Xa (n.below F);have af:=Xa (M.trans (Vh.of_below F));have bm:=Xa a6;have bf:=Xa (af.blks g I S T U);have cd:=Xa F.size;have bn:=Xa (fun ca j=>(n.own.lt ca j).2);have ap:Hid (e<H.heap.size/\h<H.heap.size):=Xa ⟨oP n.lg n.sz,oP n.lb n.sz⟩;clear F a6 t0 t1 t2 t3 c0 ad n M;have cr:=KJ tm;generalize b6:tm.tg=c at *;clear b6;have bv:Hid (∀t∈c.map Int.toNat,t<a):=Xa (fun t o=>by
    obtain⟨ac,Z,rfl⟩:=aY.1 o;have:=a0 ac Z;omega)
   have bs:Hid (∀b,b<a->∀t∈X8 d b,t<a):=Xa (fun b E t o=>by
    have z:b<d.length:=oN bc.out
    rw[Km z]at o;obtain⟨ac,Z,rfl⟩:=aY.1 o;have:=hT _ (aH z) ac Z;omega)
   have bx:=Xa (ff y b);have b0:XB (YH W b) a<=m:=oP Q.out a1.out
   have ci:L.length+XB (YH W b) a+1<=a:=oN a1.out
   go_wp2
   go_loopw [29] (fun G wr=>∃q:Nat,q<=c.length/\G=.int .i64 q/\∃r,Hid (Vh w3 wr h e v r)/\Hid (YW wr h e u K (some ⟨bb,cc,none⟩) a D (((c.map Int.toNat).take q).foldl (fun s t=>dfsV (X8 d) m t s) (YH W b,L)).1 r (((c.map Int.toNat).take q).foldl (fun s t=>dfsV (X8 d) m t s) (YH W b,L)).2)) (fun G _=>c.length-(intOf G).toNat)
   case atStart=>exact⟨0,aN _,rfl,v,Xa (Vh.refl _ _ _ _),ax⟩
   case round =>
    obtain⟨q,hq,rfl,r,B,p⟩:=hrel;have N:Hid ((((c.map Int.toNat).take q).foldl (fun s t=>dfsV (X8 d) m t s) (YH W b,L)).2.length+XB (((c.map Int.toNat).take q).foldl (fun s t=>dfsV (X8 d) m t s) (YH W b,L)).1 a<=L.length+XB (YH W b) a):=Xa (xz (X8 d) a bs m _ _ (fun t o=>bv t (iO o)));by_cases X:q<c.length
    ·obtain⟨bt,ot,rfl,b1,a2⟩:=bm q X
     have et:=(Xc (B.block bt b1.2 (oN ap.out) (oN ap.out) (fun j=>by have:=bn bt j.symm;omega))).trans a2;have b5:=a0 c[q] (aH X);have az:Hid ((c.map Int.toNat).take (q+1)=(c.map Int.toNat).take q++[c[q].toNat]):=Xa (by rw[bN (by simpa using X),cM]);have bz:=Xa (yX (X8 d) m ((c.map Int.toNat).take q) (YH W b,L) bx);have bi:=Xa (B.blks ax bf S T U);have bw:Hid (XB (((c.map Int.toNat).take q).foldl (fun s t=>dfsV (X8 d) m t s) (YH W b,L)).1 a<=m):=Xa (aJ (JY a (fun aa hx=>Ue (X8 d) m _ (YH W b,L) aa hx)) b0);have al:Hid (((c.map Int.toNat).take (q+1)).foldl (fun s t=>dfsV (X8 d) m t s) (YH W b,L)=dfsV (X8 d) m c[q].toNat (((c.map Int.toNat).take q).foldl (fun s t=>dfsV (X8 d) m t s) (YH W b,L))):=Xa (by rw[az.out,dT];rfl);clear a2 az;generalize c[q]=tq at *;obtain⟨tn,rfl⟩:=Zv b5.1;rw[dM]at al;have HC:=Xa (IH.out tn _ r _ wr p bi oM bw bz (oN N.out));generalize ((c.map Int.toNat).take q).foldl (fun s t=>dfsV (X8 d) m t s) (YH W b,L)=sq at *;obtain⟨Wq,Lq⟩:=sq;dsimp only at *
     go_wp2_with fail
     refine HC.mono ?_;rintro j w5 ⟨rfl,v5,a4,ba⟩;have bl:=Xa (B.trans a4);have br:=Xa ba;clear a4 ba HC
     go_wp2
     exact⟨⟨q+1,oM,gM,v5,bl,Xa (by rw[al.out];exact br)⟩,by simp[intOf];omega⟩
    ·have cq:q=c.length:=oM
     have ay:Hid ((c.map Int.toNat).take q=c.map Int.toNat):=Xa (aW (by simp;omega));rw[ay.out]at p N;generalize (c.map Int.toNat).foldl (fun s t=>dfsV (X8 d) m t s) (YH W b,L)=sq at *;obtain⟨Wq,Lq⟩:=sq;dsimp only at *;clear ay;have c2:=p.c2;have zz:=p.thaw 2;have ck:Lq.length<=1000:=oN N.out
     have cs:=p.sz
     go_wp2_with (at_builtin;refine bT _ rfl _ _ 27 rfl u 2 i0 (.int .i64 0) 1 8 underlying27 b3 b7 b8 b9 rfl vY _ _ _ rfl (p.own.alloc _) ⟨wr.heap.size,0,none⟩ 1 1 [.int .i64 (b:Int)] rfl rfl ?c1 ?c2 ?c3 ?c4 ?c5 ?_)
     case c1=>exact Yf _ _ _
     case c2=>intro G hu;simp at hu;subst hu;rfl
     case c3=>unfold maxLen;omega
     case c4=>omega
     case c5=>simp;omega
     intro v8 w8 Y a5 b4 a3;obtain⟨a7,a8,cl,cp⟩:=p.push a5 Y a3;obtain⟨g8,k8,rfl,-,-⟩:=Xm Y oM;have bo:=Xa a7;have bp:=Xa a8;clear a7 a8 Y a5 b4 a3
     go_wp2
     go_end0
     exact⟨rfl,_,(af.trans B).trans bp,by rw[J.out];exact bo⟩
inductive AvZ (tg:Nat->List Nat) (z:Int):Nat->Prop
 | root:z≠0->AvZ tg z 0
 | step {b t:Nat}:AvZ tg z b->t∈tg b->(t:Int)≠z->AvZ tg z t
theorem AD{tg:Nat->List Nat}{b:Nat}:AvZ tg n b↔Av tg n b:=by
 constructor
 ·intro h
  induction h with
  | root h=>exact Av.root (fun e=>h oM)
  | step _ c a d=>exact Av.step d c (fun e=>a oM)
 ·intro h
  induction h with
  | root h=>exact AvZ.root (fun e=>h oM)
  | step _ c a d=>exact AvZ.step d c (fun e=>a oM)
theorem pP{tg:Nat->List Nat}(d:t<0){b:Nat}:AvZ tg t b↔Re tg b:=by
 constructor
 ·intro h
  induction h with
  | root _=>exact Re.root
  | step _ a _ c=>exact Re.step c a
 ·intro h
  induction h with
  | root=>exact AvZ.root oM
  | step _ a c=>exact AvZ.step c a oM
structure RcI(tg:Nat->List Nat)(n:Nat)(z:Int)(F:List Nat)(i:Nat):Prop where
 nd:F.Nodup
 av:∀x∈F,AvZ tg z x
 lt:∀x∈F,x<n
 root:z≠0->0∈F
 nil:z=0->F=[]
 cl:∀k (h:k<F.length),k<i->∀t∈tg F[k],(t:Int)≠z->t=0\/t∈F
theorem YS(h:s.Nodup)(a:∀x∈s,x<n):s.length<=n:=by
 have:=kV h (l₂:=List.range n) (fun x b=>bE.2 (a x b));simpa using this
theorem yZ{tg:Nat->List Nat}(h:RcI tg n t s m)(q:s.length<=m)(x:Nat):x∈s↔AvZ tg t x:=by
 refine⟨h.av x,fun j=>?_⟩
 induction j with
 | root c=>exact h.root c
 | @step b o p i g k =>
  obtain⟨l,a,e⟩:=bR k;rcases h.cl l a oM o (by rw[e];exact i) g with d | f
  ·rw[d]
   refine h.root (fun c=>?_);rw[h.nil c]at a;exact absurd a sP
  ·exact f
theorem TS{T:Type}{C:T->Value}{f:Nat->T}(h:w.rowIs n m k (fun z=>C (f z)))(r:Nat)(v:T):(w.setCell ⟨n,r,none⟩ (C v)).rowIs n m k (fun z=>C (if z=r then v else f z)) :=
 (h.set r (C v)).congr (fun z _=>by by_cases e:z=r<;>simp[e])
theorem UC{T:Type}{C:T->Value}{f a:Nat->T}(h:w.rowIs n m k (fun z=>C (f z)))(e:∀z,z<k->f z=a z):w.rowIs n m k (fun z=>C (a z)):=h.congr (fun z b=>by rw[e z b])
theorem Tryz.infoBo:(prog.info? 4).map (fun i=>(i.zero,i.size,i.bytes))=some (some (.bool false),1,1):=vZ
theorem Ch(w:World)(o:Obj):((w.alloc o).alloc (.cells #[] 2)).ownsRow (w.heap.size+1) 2 1 (.slice (some ⟨w.heap.size+1,0,none⟩) 0 0) 0 []:=by
 have h:=eI (base:=w.heap.size+1) (e:=2) (size:=1) (w.alloc o) #[] 0 sP sP rfl;rw[aO]at h;exact h
structure RcJ(tg:Nat->List Nat)(n:Nat)(z:Int)(F F':List Nat)(i q:Nat)(ts:List Int):Prop where
 pre:∃E,F'=F++E
 nd:F'.Nodup
 av:∀x∈F',AvZ tg z x
 lt:∀x∈F',x<n
 now:∀k (h:k<ts.length),k<q->ts[k]≠z->ts[k]=0\/ts[k].toNat∈F'
theorem vH{tg:Nat->List Nat}(h:RcI tg n t s m):RcJ tg n t s s m 0 l:=⟨⟨[],sP⟩,h.nd,h.av,h.lt,fun k _ a=>absurd a oM⟩
theorem wk{tg:Nat->List Nat}(h:RcJ tg n t s S m k l)(hq:k<l.length)(f:l[k]=t\/l[k]=0\/l[k].toNat∈S):RcJ tg n t s S m (k+1) l:=⟨h.pre,h.nd,h.av,h.lt,fun c d g b=>by
 by_cases e:c=k
 ·subst e
  rcases f with a | a | a
  ·exact absurd a b
  ·exact bC a
  ·exact aZ a
 ·exact h.now c d oM b⟩
theorem xc{tg:Nat->List Nat}(h:RcJ tg n t s S m k l)(hq:k<l.length)(j:l[k]=B)(u:B<n)(q:(B:Int)≠t)(g:B ∉ S)(d:m<s.length)(o:B∈tg s[m]):RcJ tg n t s (S++[B]) m (k+1) l:=by
 obtain⟨E,e⟩:=h.pre;refine⟨⟨E++[B],by rw[e,cK]⟩,?_,fun x b=>?_,fun x b=>?_,fun c f r i=>?_⟩
 ·rw[gW]
  exact⟨h.nd,sP,fun x b y p e2=>g (by
   have:y=B:=by simpa using p
   rw[<-this,<-e2];exact b)⟩
 ·rcases bU.1 b with a | a
  ·exact h.av x a
  ·have:x=B:=by simpa using a
   rw[this];exact AvZ.step (h.av s[m] (by rw[e];exact dD _ (aH d))) o q
 ·rcases bU.1 b with a | a
  ·exact h.lt x a
  ·have:x=B:=by simpa using a
   omega
 ·by_cases e2:c=k
  ·subst e2
   exact aZ (by rw[j];simp)
  ·rcases h.now c f oM i with a | a
   ·exact bC a
   ·exact aZ (dD _ a)
theorem vM{tg:Nat->List Nat}(h:RcJ tg n t s S m k l)(j:RcI tg n t s m)(A:t≠0)(C:m<s.length)(hq:l.length<=k)(y:tg s[m]=l.map Int.toNat)(u:∀d∈l,0<=d):RcI tg n t S (m+1):=by
 obtain⟨E,g⟩:=h.pre;have o:∀x∈s,x∈S:=fun x z=>by rw[g];exact dD _ z
 refine⟨h.nd,h.av,h.lt,fun f=>o 0 (j.root f),fun f=>absurd f A,fun b w D d c p=>?_⟩;have e:b<s.length:=oM;have r:S[b]=s[b]:=by
  have i:S[b]?=(s++E)[b]?:=by rw[g]
  rw[aC w,dL e,aC e]at i;injection i
 rw[r]at c;by_cases e2:b=m
 ·subst e2
  rw[y]at c;obtain⟨G,q,rfl⟩:=aY.1 c;obtain⟨B,v,rfl⟩:=bR q;have F:=u _ q;rcases h.now B v oM (fun e3=>p oM)with a | a
  ·exact bC (by rw[a];rfl)
  ·exact aZ a
 ·rcases j.cl b e oM d c p with a | a
  ·exact bC a
  ·exact aZ (o d a)
theorem uk(w:World)(n:Nat)(c:0<n):(w.alloc (.cells ((madeCells #[.bool false] n).setIfInBounds 0 (.bool true)) 4)).rowIs w.heap.size 4 n (fun x=>.bool (decide (x=0\/x∈[0]))):=by
 have h:=eK w ((madeCells #[.bool false] n).setIfInBounds 0 (.bool true)) 4 (fun x=>.bool (decide (x=0\/x∈[0]))) (fun i a=>by
  rw[jS,nA]at a;rw[Array.getElem?_setIfInBounds];by_cases e:0=i
  ·subst e;simp[c,nA]
  ·have b:¬i=0:=fun h=>e h.symm
   have e1:=Nat.mod_one i;simp[e,b,madeCells,a,e1])
 rw[jS,nA]at h;exact h
theorem nf(vl:Int)(E:Option Addr)(n j:Nat)(z:Int)(f:List Xe)(cl az:Nat)(w:World)(ha:Hid (Xp w cl az E f))(X:Hid (n=f.length))(hn:n<=1000)(bq:0<n)(hB:az<=w.heap.size)(hT:Hid (∀x∈f,∀t∈x.te.tg,0<=t/\t<n)) :
 Calls prog 20 #[.agg #[.int .i64 vl,.slice E n j],.int .i64 z] w fun e o=>∃v F,e=.returned v/\Below w.heap.size w o/\o.ownsRow w.heap.size 2 1 v F.length (Je F)/\F.Nodup/\∀x,x∈F↔AvZ (X8 f) z x:=by
 obtain⟨i0,bn,bx,bz,b0⟩:=Xq Tryz.info2';have d0:=fM (P:=prog) 81 4 (.bool false) 1 underlying81 Tryz.infoBo rfl .i64 .i64 n oM oM;have aa:=fun cp=>(dG cp (.bool false) n 4).cell bq
 by_cases M:z=0
 ·subst M
  have ar:=fun o1 o2=>aa ((w.alloc o1).alloc o2)
  simp only[aO]at ar;clear aa
  go_in
  go_wp2
  go_loopw [5,7] (fun v u wr=>v=.slice (some ⟨w.heap.size+1,0,none⟩) 0 0/\u=.int .i64 0/\Hid (Below w.heap.size w wr)/\Hid (w.heap.size+1<wr.heap.size)/\Hid (wr.ownsRow w.heap.size 2 1 (.slice (some ⟨w.heap.size+1,0,none⟩) 0 0) 0 [])) (fun _ _ _=>0)
  case atStart=>exact⟨rfl,rfl,Xa (Xb (Xb (Xb (Below.refl _ _) _) _) _),Xa sP,Xa (World.ownsRow.alloc (by
   have h:=eI (base:=w.heap.size) (e:=2) (size:=1) (w.alloc (.cells #[.int .i64 vl,.slice E n j] 25)) #[] 0 sP sP rfl;rw[aO]at h;exact h) _)⟩
  case round =>
   obtain⟨rfl,rfl,P,HZ,p⟩:=hrel
   go_wp2
   go_ret
   refine⟨_,[],rfl,P,p,iU,fun x=>⟨fun h=>(by cases h),fun h=>?_⟩⟩;exfalso;have:∀{j},AvZ (X8 f) 0 j->False:=fun hc=>by
    induction hc with
    | root h=>exact h rfl
    | step _ _ _ ih=>exact ih
   exact this h
 ·have d4:(z==0)=false:=by simpa using M
  go_in
  go_wp2_with (at_builtin;refine bT _ rfl _ _ 27 rfl (w.heap.size+1) 2 i0 (.int .i64 0) 1 8 underlying27 bn bx bz b0 rfl vY _ _ _ rfl (World.ownsRow.alloc (Ch w _) _) ⟨w.heap.size+2,0,none⟩ 1 1 [.int .i64 0] rfl rfl ?c1 ?c2 ?c3 ?c4 ?c5 ?_)
  case c1 =>
   have h:=Yf ((w.alloc (.cells #[.int .i64 vl,.slice E n j] 25)).alloc (.cells #[] 2)) (.int .i64 0) 2;simpa using h
  case c2=>intro u W;simp at W;subst W;rfl
  case c3=>unfold maxLen;omega
  case c4=>omega
  case c5=>simp
  intro v1 g ay ab c6 cr;have bl:Cl g w.heap.size 1 (.slice E n j):=(Xc (ab.block w.heap.size (by simp;omega) (by simp[Value.ownBlock]))).trans (by simp[go_sem]);have a0:=Xa ((Xb (Xb (Xb (Below.refl _ _) _) _) _).grown ab (by simp;omega) (fun k e=>by simp[Value.ownBlock]at e;omega));have ad:Hid (w.heap.size+2<g.heap.size):=Xa (by have:=ab.size;simp only[aO]at this;omega);obtain⟨g1,k1,rfl,bm,dw⟩:=Xm ay oM;have a6:Hid (g.ownsRow (w.heap.size+1) 2 1 (.slice (some ⟨g1,0,none⟩) (0+1) k1) [0].length (Je [0])):=Xa ay;have ct:=bm.2;clear ay ab c6 cr bm;have ar:=aa g;clear aa
  go_wp2_with fail
  have ce:=Xa (uk g n bq);have ca:=Xa (a6.alloc (.cells ((madeCells #[.bool false] n).setIfInBounds 0 (.bool true)) 4));have b1:Hid (Below w.heap.size w (g.alloc (.cells ((madeCells #[.bool false] n).setIfInBounds 0 (.bool true)) 4))):=Xa (Xb a0 _);have b4:Hid ((g.alloc (.cells ((madeCells #[.bool false] n).setIfInBounds 0 (.bool true)) 4)).cell? ⟨w.heap.size,1,none⟩=some (.slice E n j)):=Xa ((bP _ _ _ (by have:=ad.out;show w.heap.size<_;omega)).trans bl);have b5:Hid (g1≠g.heap.size):=Xa oM;have b6:Hid (w.heap.size+1<g.heap.size):=Xa (oN ad.out);clear ar bl ct a6 a0 ad;generalize g.alloc _=w2 at *;generalize g.heap.size=c at *
  go_loopw [5,7] (fun v u wr=>∃(F:List Nat)(i:Nat),u=.int .i64 i/\i<=F.length/\Hid (RcI (X8 f) n z F i)/\Hid (Below w.heap.size w wr)/\Hid (wr.cell? ⟨w.heap.size,1,none⟩=some (.slice E n j))/\Hid (wr.rowIs c 4 n (fun x=>.bool (decide (x=0\/x∈F))))/\Hid (v.ownBlock≠some c)/\Hid (wr.ownsRow (w.heap.size+1) 2 1 v F.length (Je F))) (fun _ u _=>n+1-(intOf u).toNat)
  case atStart=>exact⟨[0],0,rfl,aN _,Xa ⟨sP,fun x X=>by
   have:x=0:=by simpa using X
   subst this;exact AvZ.root M,fun x X=>by
   have:x=0:=by simpa using X
   omega,fun _=>sP,fun h=>absurd h M,fun k _ hk=>absurd hk oM⟩,b1,b4,ce,Xa (by simp[Value.ownBlock];exact b5),ca⟩
  case round =>
   obtain⟨F,i,rfl,hi,r,P,HC,HS,HN,p⟩:=hrel;have dk:=YS r.nd r.lt;by_cases ac:i<F.length
   ·obtain⟨gv,kv,rfl,cv,cz⟩:=Xm p oM
    have dj:=r.lt F[i] (aH ac);have al:F[i]<f.length:=oN X.out
    have ef:=Jj p (j:=i) (u:=.int .i64 (F[i]:Int)) (by simp[Je,ac]);have di:=hB;obtain⟨y,N,rfl,dn,pa,pc,ia,ic,-,-,⟨t0,t1,t2,t3⟩,-,-⟩:=(ha.keep (P.mono hB)) F[i] al;have bf:=HC.out;have bc:=Xa (hT.out _ (aH al));have ba:=Xa (Km al);have bw:=p.lt gv rfl;generalize bi:F[i]=G at *;have a3:=Xa bi;clear bi;generalize f[G].te=B at *;have D:Hid (w.heap.size+1<=wr.heap.size/\c<wr.heap.size):=Xa ⟨oM,HS.lt⟩
    go_wp2_with fail
    refine Y7 (fun o=>o.cell? ⟨w.heap.size,1,none⟩=some (.slice (some ⟨y,N,none⟩) n j)/\o.cell? ⟨gv,i,none⟩=some (.int .i64 (G:Int))/\o.cell? ⟨y,N+G*6+2,none⟩=some (.int .i64 B.kind)/\o.cell? ⟨y,N+G*6+2+1,none⟩=some (.int .i64 B.a)/\o.cell? ⟨y,N+G*6+2+2,none⟩=some (.int .i64 B.to)/\o.cell? ⟨y,N+G*6+2+3,none⟩=some (.int .i64 B.els)) (fun hHeld=>?_);refine Xn 0 ?_;refine Xn 1 ?_;refine Xn 2 ?_;refine Xn 3 ?_;refine Xn 4 ?_;refine Xn 5 ?_;refine Xn 6 ?_;refine Xn 7 ?_;refine Xn 8 ?_;refine Xs 9 (fun dc hK=>?_);go_simp
    go_at_call 49
    refine(ZO B _).mono ?_;rintro e C ⟨bd,dd,rfl,K,bo⟩;have l:Below wr.heap.size wr C:=⟨K.os,K.tape,K.output,K.size,K.block⟩;have aq:y<wr.heap.size:=oN D.out
    have Y:=fun q=>l.cell (p:=⟨y,q,none⟩) aq
    refine hK _ _ ⟨oB l bf (by have:=D.out;show w.heap.size<_;omega),oB l ef bw.2,(Y _).trans t0,(Y _).trans t1,(Y _).trans t2,(Y _).trans t3⟩ (fun hHeld=>?_);clear hK Y aq
    try simp only[xX]
    refine Xn 10 ?_;refine Yq ?_;have bp:Xf C wr.heap.size C.heap.size bd B.tg:=bo;have a1:=Xa (Xg P l);have a2:=Xa (oB l HC (by have:=D.out;show w.heap.size<_;omega));have a8:=Xa (HS.of_block (l.block c D.2));have a7:=Xa (Ah p (l.block gv bw.2));have a5:=Xa bp;have cj:=Xa l.size;clear K bo l bp t0 t1 t2 t3 ef bf hHeld;generalize bv:B.tg=d at *;have d1:d.length<=2:=by rw[<-bv];exact KJ B
    clear bv
    go_wp2_with fail
    generalize wr=wo at *
    go_loopw [5,9] (fun v u O=>∃(b:List Nat)(q:Nat),u=.int .i64 q/\q<=d.length/\Hid (RcJ (X8 f) n z F b i q d)/\Hid (Below w.heap.size w O)/\Hid (O.cell? ⟨w.heap.size,1,none⟩=some (.slice (some ⟨y,N,none⟩) n j))/\Hid (O.rowIs c 4 n (fun x=>.bool (decide (x=0\/x∈b))))/\Hid (v.ownBlock≠some c)/\Hid (Xf O wo.heap.size C.heap.size bd d)/\Hid (∀k,v.ownBlock=some k->k<wo.heap.size\/C.heap.size<=k)/\Hid (C.heap.size<=O.heap.size)/\Hid (O.ownsRow (w.heap.size+1) 2 1 v b.length (Je b))) (fun _ u _=>d.length-(intOf u).toNat)
    case atStart=>exact⟨F,0,rfl,aN _,Xa (vH r),a1,a2,a8,HN,a5,Xa (fun k e=>by
     simp only[Value.ownBlock,Option.some.injEq]at e;exact bC oM),Xa (aA _),a7⟩
    case round =>
     obtain⟨b,q,rfl,hq,H,Q,R,s,I,S,Z,af,J⟩:=hrel;have dl:=YS H.nd H.lt;clear a1 a2 a8 a7 a5;by_cases V:q<d.length
     ·obtain⟨bt,ot,rfl,ds,et⟩:=S q V
      have c9:=bc d[q] (aH V);have a9:=Xa (wk H V);have ci:Hid (∀t:Nat,d[q]=(t:Int)->t∈X8 f G):=Xa (fun t e=>by rw[ba.out];exact aY.2 ⟨d[q],aH V,by rw[e];rfl⟩);have ch:Hid (∀t:Nat,d[q]=(t:Int)->t<n->(t:Int)≠z->t ∉ b->t∈X8 f F[i]->RcJ (X8 f) n z F (b++[t]) i (q+1) d):=Xa (fun t e1 e2 e3 e4 e5=>xc H V e1 e2 e3 e4 ac e5);generalize d[q]=tq at *;obtain⟨a,rfl⟩:=Zv c9.1;have bs:a<n:=oM;have aj:=s.cell bs;have df:=s.frozen;by_cases m:(a:Int)=z
      ·have hb:((a:Int)==z)=true:=by simpa using m
       have cs:((a:Int) != z)=false:=by simp[m]
       have T:=Xa (a9.out (bC m));clear m aj
       go_wp2
       exact⟨⟨b,q+1,gM,oM,T,Q,R,s,I,S,Z,af,J⟩,by simp[intOf];omega⟩
      ·have hb:((a:Int)==z)=false:=by simpa using m
       have cs:((a:Int) != z)=true:=by simp[m]
       by_cases L:a=0\/a∈b
       ·rw[eB L]at aj
        have T:=Xa (a9.out (aZ (by rcases L with h | h;exact bC oM;exact aZ (by simpa using h))));clear L m
        go_wp2
        exact⟨⟨b,q+1,gM,oM,T,Q,R,s,I,S,Z,af,J⟩,by simp[intOf];omega⟩
       ·rw[dJ L]at aj
        have T:=Xa (ch.out a rfl bs m (fun h=>L (aZ h)) (by rw[a3.out];exact ci a rfl));have cf:Hid (∀x,x<n->(if x=a then true else decide (x=0\/x∈b))=decide (x=0\/x∈b++[a])):=Xa (fun x _=>by
         by_cases e:x=a
         ·subst e;simp
         ·simp[e])
        clear L m;have d3:=af.out;have da:bt≠c:=oN D.2
        have d5:c≠bt:=fun e=>da e.symm
        have aq:bt<wr.heap.size:=oM;have a4:=Xa s.lt;have d2:w.heap.size+1<=wr.heap.size:=oP D.out cj.out
        go_wp2_with (at_builtin;refine bT _ rfl _ _ 27 rfl (w.heap.size+1) 2 i0 (.int .i64 0) 1 8 underlying27 bn bx bz b0 rfl vY _ _ _ rfl ((fS J (a:=⟨c,a,none⟩) I (.bool true)).alloc _) ⟨wr.heap.size,0,none⟩ 1 1 [.int .i64 (a:Int)] rfl rfl ?c1 ?c2 ?c3 ?c4 ?c5 ?_)
        case c1 =>
         have h:=Yf (wr.setCell ⟨c,a,none⟩ (.bool true)) (.int .i64 (a:Int)) 2;rw[Xd]at h;exact h
        case c2=>intro u W;simp at W;subst W;rfl
        case c3=>unfold maxLen;omega
        case c4=>omega
        case c5=>rw[aO,Xd];omega
        intro v8 w8 br U c7 ap;have c8:=U.size;rw[aO,Xd]at c8;have blk:∀k,k<wr.heap.size->k≠c->(∀A,u5.ownBlock=some A->k≠A)->w8.heap[k]?=wr.heap[k]?:=fun k h1 h2 h3=>by
         refine(U.block k (by rw[aO,Xd];omega) (fun e=>h3 k e.symm rfl)).trans ?_;rw[Below.heap_alloc _ _ _ (by rw[Xd];exact h1)];exact Below.heap_setCell _ _ _ _ h2
        have ax:=fun A e=>(J.lt A e).1
        have du:=b6.out;have b2:=Xa (((Below.alloc (Q.setCell (by show w.heap.size<=c;omega) _) (by rw[Xd];omega) _).grown U (by rw[aO,Xd];omega) (fun k e=>by have:=ax k e;omega)));have b3:=Xa ((Xc (blk w.heap.size oM oM (fun A e=>by have:=ax A e;omega))).trans R);have cd:=Xa (UC (C:=Value.bool) (((TS (C:=Value.bool) s a true).alloc _).of_block (U.block c (by rw[aO,Xd];have:=a4.out;omega) (fun e=>I e.symm))) cf);have b9:Hid (v8.ownBlock≠some c):=Xa (fun e=>by
         rcases ap with h | h
         ·exact I (h.symm.trans e)
         ·rw[e]at h;injection h with h;have:=a4.out;omega)
        have b7:=Xa (S.keepS (fun k h1 h2=>blk k oM (oN D.2) (fun A e=>by rcases Z.out A e with h | h<;>omega)));have b8:Hid (∀k,v8.ownBlock=some k->k<wo.heap.size\/C.heap.size<=k):=Xa (fun k e=>by
         rcases ap with h | h
         ·exact Z k (h.symm.trans e)
         ·rw[e]at h;injection h with h;exact aZ oM)
        have ck:Hid (C.heap.size<=w8.heap.size):=Xa oM;have cb:Hid (w8.ownsRow (w.heap.size+1) 2 1 v8 (b++[a]).length (Je (b++[a]))):=Xa (by rw[VP,aQ];exact br);clear br U c7 ap blk ax J s R Q S
        go_wp2
        exact⟨⟨b++[a],q+1,gM,oM,T,b2,b3,cd,b9,b7,b8,ck,cb⟩,by simp[intOf];omega⟩
     ·have cc:=Xa (vM H r M ac oM (by rw[a3.out];exact ba) (fun t ht=>(bc t ht).1))
      have cx:i+1<=b.length:=by obtain⟨db,e⟩:=H.pre;rw[e,aQ];omega
      go_wp2
      exact⟨⟨b,i+1,gM,cx,cc,Q,R,s,I,J⟩,by simp[intOf];omega⟩
   ·have cw:i=F.length:=oM
    subst cw;have cq:=eJ (r.root M);obtain⟨gv,kv,rfl,cv,cz⟩:=Xm p cq
    go_wp2
    go_ret
    exact⟨_,F,rfl,P,Zk p oM,r.nd,yZ r (aA _)⟩
end Go.Proofs.YtghnlncgiihhgaaGreatDoor
