import Derived.Test.YtffcajcgkblkoaaGreatDoorSQ6
import Derived.Test.YtffcajcgkblkoaaGreatDoorED2
import Derived.Test.YtffcajcgkblkoaaGreatDoorCards
import Derived.Test.YtffcajcgkblkoaaGreatDoorTie
import Derived.OpenVars
import Derived.LaidMore
import Derived.Deep.DeepHandedRow
import Derived.Lib.LaidTab
namespace Go.Proofs.YtffcajcgkblkoaaGreatDoor
set_option maxHeartbeats 8000000
set_option maxRecDepth 100000
open Go.RowKit Go.Proofs.Tryz
variable{t:Int}{l:List Int}{x:List Xe}{n m k B g i j c:Nat}{Z:Nat->Nat×Nat×Nat}{h:Nat->Value}{p P:Option Addr}{a:Value}{w v:World}
structure Lj(w1 wx:World)(W:La)(lb:Nat)(V:Nat)(a:Option Addr)(n c:Nat)(xs:List Xe)(L B:Nat)(ac:Option Addr)(nc cc:Nat)(cs:List Int)(Lc Bc:Nat)(pa:Option Addr)(pc:Nat)(k:Int)(M:List ag):Prop where
 g:Lo W V a n xs L B ac nc cs Lc Bc pa
 h:Lv W wx lb (V:Int) a n c ac nc cc pa pc k M
 bs:W.base=w1.heap.size
 ww:Below w1.heap.size w1 W.w
theorem Lj.low{W:La}{b a:Nat}{e:Option Addr}{f:Nat}{M:List ag}(h:Lj w v W n m p k c x B g P i j l b a e f t M):Below w.heap.size w v:=by
 let⟨_,_,_,d⟩:=h.h;have:=d.low;rw[h.bs]at this;exact h.ww.trans this
theorem Lo.new{w1:World}{f:Option Addr}(c:Nat)(b:Below w1.heap.size w1 w)(ha:Xp w1 k B p x)(u:m=x.length)(d:B<=w1.heap.size)(s:Jy n x)(h:Xf w1 i j P l)(r:g=l.length)(o:g=n)(e:j<=w1.heap.size)(a:Yy w1)(q:∀z∈l,-9223372036854775808<=z/\z<=9223372036854775807)(t:XR w c w.heap.size f ((List.range m).map λv:Nat=>AQ x 0 (v:Int))):Lo ⟨w,w1.heap.size,c,w.heap.size⟩ n p m x k B P g l i j f :=
 ⟨ha.keep<|b.mono d,u,d,s,h.keep<|b.mono e,r,o,e,t,a.keep b a.1,a.1,q⟩
def I7(a:List Int)(b:List Xe):List ag:=b.map λx=>⟨x.is.map<|ZR a,II a x.te⟩
def bk(a:List Int)(b:List Xe)(j:Nat):List ag:=(ak a b j).1++I7 a (b.drop j)++(ak a b j).2
theorem vu(b:List Int)(a:List Xe)(h:n<=a.length):(bk b a n).length=a.length+(ak b a n).2.length:=by
 unfold bk I7;rw[aQ,aQ,ig b a n h,bK,mF];omega
theorem uM(b:List Int)(a:List Xe)(h:n<a.length):bk b a n=(ak b a n).1++(⟨a[n].is.map (ZR b),II b a[n].te⟩ :: (I7 b (a.drop<|n+1)++(ak b a n).2)):=by
 unfold bk I7;rw[gZ h,eH,cK,cW]
theorem GG(b:List Int)(a:List Xe)(h:n<a.length)(c:n<(bk b a n).length):(bk b a n)[n]=⟨a[n].is.map (ZR b),II b a[n].te⟩:=by
 have d:=ig b a n<|dU h;have:(bk b a n)[n]?=some ⟨a[n].is.map (ZR b),II b a[n].te⟩:=by
  rw[uM b a h,eV oM,d,kL];rfl
 rw[aC c]at this;injection this
theorem F0(b:List Int)(a:List Xe)(h:n<a.length):(bk b a n).set n (IK b a n a[n] (bk b a n).length).1++(IK b a n a[n] (bk b a n).length).2=bk b a (n+1):=by
 have c:=ig b a n<|dU h;rw[vu b a<|dU h,uM b a h,List.set_append_right _ _ oM,c,kL,List.set_cons_zero];unfold bk;rw[iR b a n h];simp only[cK,cW,dR]
theorem FT(a:List Int)(b:List Xe):bk a b 0=I7 a b:=by
 unfold bk;simp[ak]
theorem Ge(b:List Int)(a:List Xe):bk b a a.length=GI b a:=by
 unfold bk GI I7;rw[List.drop_length,fZ,fF]
theorem XW.deep(p:Addr)(c:p.block<n)(u:Value):XW w (w.setCell p u) Z Z n (λ_=>True) :=
 ⟨by simp[World.setCell],λb a _ _=>⟨Below.heap_setCell _ _ _ _ oM,rfl⟩,λh b a=>h b<|by simpa [World.setCell]using a⟩
theorem IB.down{e:List ag}(b:IB w Z n a k B e h)(c:m<=n):IB w Z m a k B e h :=
 ⟨⟨Zk b.blks.own c,b.blks.lab⟩,λi d=>⟨Zk (b.ins i d).own c,(b.ins i d).lab⟩⟩
def lq(w:World)(b:Nat)(a:Option Addr)(n c:Nat)(f:List ag):Prop:=∃e d,IB w e b (.slice a n c) 1 3 f d
theorem lq.of{a:List ag}(b:IB w Z n (.slice p m c) 1 3 a h):lq w n p m c a:=⟨Z,h,b⟩
theorem F6(V:Nat)(k:Option Addr)(n c:Nat)(d:List Xe)(L D:Nat)(C:Option Addr)(x E:Nat)(b:List Int)(I G:Nat)(o:Int)(w:World)(ha:Hs (Xp w L D k d))(J:Hs (n=d.length))(hB:D<=w.heap.size)(R:Hs (Jy V d))(hc:Hs (Xf w I G C b))(a9:Hs (x=b.length))(b5:Hs (x=V))(bz:G<=w.heap.size)(hk:1<=o/\o<=64)(hO:Hs (Yy w))(hT:Hs (Yb w))(cw:Hs (∀ci∈b,-9223372036854775808<=ci/\ci<=9223372036854775807))(hg:Hs (iy d n))
 (bp:Hs (∀W,Below w.heap.size w W->Calls prog 23 #[.agg #[Hp V,.slice k n c],.slice C x E,Hp o] W λl f=>l=.returned (.bool true)/\Below W.heap.size W f)) :
 Calls prog 9 #[.agg #[Hp V,.slice k n c],.slice C x E,Hp o] w λl f=>∃A B,l=.returned (.agg #[Hp o,.slice A (GI b d).length B])/\Below w.heap.size w f/\lq f w.heap.size A (GI b d).length B (GI b d):=by
 obtain⟨j0,cx,dc,dd,df⟩:=fX Nj;have h1:¬o<1:=oM;have h2:¬64<o:=oM;have d2:n<=1000:=oP J.o R.okf.n2
 go_in
 go_wp2_with fail
 refine(bp _<|Xb (Xb (Below.refl _ _) _) _).mono ?_;rintro l a⟨rfl,aj⟩;have hF:=((Bx.new w #[Hp V,.slice k n c] 25).box _).keep (aj.block _<|by simp;omega);have hR:=(by have:=Bx.new (w.alloc<|.cells #[Hp V,.slice k n c] 25) #[Hp 0,Hq] 35;rw[aO]at this;exact this.keep<|aj.block _ sP);have hz:=hR.lt;have ay:w.heap.size<a.heap.size:=oM;have S:=Xa<|Xg (Xb (Xb (Below.refl w.heap.size w) _) _) aj;have f0:=Bx.c hF 0;have f1:=Bx.c hF 1;have HF:=Xa hF;have HR:=Xa hR;have HG:=Xa λ(e:World)(g:Option Addr)(L2:Nat)(hb:Below a.heap.size a e)(hp:XR e L2 e.heap.size g ((List.range n).map λr:Nat=>AQ d 0 (r:Int)))=>Lo.new (w1:=a) L2 hb (ha.keep<|S.mono hB) J oM R (hc.keep<|S.mono bz) a9 b5 oM (hO.keep S hO.1) cw hp;have bq:=Xa λ(W:World)(hW:Below w.heap.size w W)=>VG (V:Int) k n c d L D W (Xa<|ha.keep (hW.mono hB)) J oM (oN hW.size) hg;clear aj hF hR bp;go_wp2_with fail
 go_cut [7]from 11 to 59 λc7 wx=>∃(v:Nat)(W:La)(g:Option Addr)(i:Nat),c7=Hn v/\Hs (Lj a wx W v V k n c d L D C x E b I G g i o [])
 case first=>
  have a5:Hs (∀W,Below a.heap.size a W->Calls prog 24 #[.agg #[Hp V,.slice k n c]] W λl f=>∃g i,l=.returned (.slice g n i)/\f.cell? (Hk w.heap.size 0)=some (Hp V)/\f.cell? (Hk w.heap.size 1)=some (.slice k n c)/\w.heap.size<f.heap.size/\Hs (Below W.heap.size W f)/\Hs (XR f W.heap.size f.heap.size g ((List.range n).map λr:Nat=>AQ d 0 (r:Int)))):=Xa (λW hW=>by
   refine(bq W<|S.trans (hW.mono oM)).mono ?_;rintro l e⟨g,i,rfl,al,bf⟩;have u:=Xg hW al;exact⟨g,i,rfl,oB u f0 ay,oB u f1 ay,oN u.size,Xa al,Xa bf⟩)
  have HA:=Xa<|a5.o a.drew (Below.refl a.heap.size a).drew;have bc:Bx (a.alloc<|.cells #[Hp 0,Hq,Hq,Hq,Hp 0,Hq] 74).drew a.heap.size #[Hp 0,Hq,Hq,Hq,Hp 0,Hq] 74:=Bx.new a _ _;have HC:=Xa ((a5 (a.alloc<|.cells #[Hp 0,Hq,Hq,Hq,Hp 0,Hq] 74).drew ((Below.refl a.heap.size a).alloc (aA _) _).drew).mono (R':=λl f=>∃g i,l=.returned (.slice g n i)/\f.cell? (Hk w.heap.size 0)=some (Hp V)/\f.cell? (Hk w.heap.size 1)=some (.slice k n c)/\w.heap.size<f.heap.size/\(f.cell? (Hk a.heap.size 0)=some (Hp 0)/\f.cell? (Hk a.heap.size 1)=some Hq/\f.cell? (Hk a.heap.size 2)=some Hq/\f.cell? (Hk a.heap.size 3)=some Hq/\f.cell? (Hk a.heap.size 4)=some (Hp 0)/\f.cell? (Hk a.heap.size 5)=some Hq/\∀dj,f.frozen? (Hk a.heap.size dj)=false)/\Hs (Bx f a.heap.size #[Hp 0,Hq,Hq,Hq,Hp 0,Hq] 74)/\Hs (Below a.heap.size a f/\a.heap.size+1<=f.heap.size)/\Hs (XR f (a.heap.size+1) f.heap.size g ((List.range n).map λr:Nat=>AQ d 0 (r:Int)))) (by
   rintro l e⟨g,i,rfl,f0,f1,bi,q,M⟩;have N:=bc.keep<|q.block _ bc.lt;have db:(a.alloc<|.cells #[Hp 0,Hq,Hq,Hq,Hp 0,Hq] 74).drew.heap.size=a.heap.size+1:=by show(a.alloc _).heap.size=_;simp
   have hb:=q.o;have hp:=M.o;have a8:=hb.size;rw[db]at hb hp a8;exact⟨g,i,rfl,f0,f1,bi,⟨Bx.cell N rfl,Bx.cell N rfl,Bx.cell N rfl,Bx.cell N rfl,Bx.cell N rfl,Bx.cell N rfl,Bx.thaw N⟩,Xa N,Xa ⟨((Below.refl a.heap.size a).alloc (aA _) _).drew.trans (hb.mono<|gX _),a8⟩,Xa hp⟩))
  have d3:a.heap.size≠w.heap.size:=oM;have d4:w.heap.size≠a.heap.size:=oM;clear a5 bc
  go_region_held3 (λf=>f.cell? (Hk w.heap.size 0)=some (Hp V)/\f.cell? (Hk w.heap.size 1)=some (.slice k n c)) (go_keep)
   (first
    |(go_at_call 24;with_reducible refine HA.o.mono ?_;rintro l e⟨g,i,rfl,f2,f3,bi,q,M⟩)
    |(go_at_call 24;with_reducible refine HC.o.mono ?_;rintro l e⟨g,i,rfl,f2,f3,bi,⟨z0,z1,z2,z3,z4,z5,zz⟩,U,q,M⟩))
  .go_wp2;go_meet;have u:=Xg (Below.refl a.heap.size a).drew q;have bf:XR e a.heap.size e.heap.size g ((List.range n).map λr:Nat=>AQ d 0 (r:Int)):=M.o;exact⟨e.heap.size,⟨e,a.heap.size,a.heap.size,e.heap.size⟩,g,i,rfl,Xa ⟨HG e g _ u bf,⟨λ_=>(0,0,0),_,λ_=>Hq,⟨(Below.refl _ _).alloc u.size _,Bx.new _ _ _,u.size,IB.nil,λ_ _=>rfl,rfl,YA.of_below<|Xb (Below.refl e.heap.size e) _,λ_ _ _=>rfl,aA _,aA _,u.size,λa6=>Nat.lt_irrefl _ a6.2⟩⟩,rfl,u⟩⟩
  go_wp2;go_meet;have u:=q.1;have ec:=q.2;exact⟨a.heap.size,⟨e,a.heap.size,a.heap.size+1,e.heap.size⟩,g,i,rfl,Xa ⟨HG e g _ u M,⟨λ_=>(0,0,0),_,λ_=>Hq,⟨(((((((Below.refl a.heap.size e).setCell (p:=Hk a.heap.size 0) (aA _) _).setCell (p:=Hk a.heap.size 1) (aA _) _).setCell (p:=Hk a.heap.size 2) (aA _) _).setCell (p:=Hk a.heap.size 3) (aA _) _).setCell (p:=Hk a.heap.size 4) (aA _) _).setCell (p:=Hk a.heap.size 5) (aA _) _),(((((U.set 0<|Hp V).set 1 (.slice k n c)).set 2 (.slice C x E)).set 3 (.slice g n i)).set 4 (Hp o)).set 5 Hq,aA _,IB.nil,λ_ _=>rfl,rfl,((((((YA.refl (a.heap.size+1) e.heap.size e).setCell (p:=Hk a.heap.size 0) (bC<|iJ _) _).setCell (p:=Hk a.heap.size 1) (bC<|iJ _) _).setCell (p:=Hk a.heap.size 2) (bC<|iJ _) _).setCell (p:=Hk a.heap.size 3) (bC<|iJ _) _).setCell (p:=Hk a.heap.size 4) (bC<|iJ _) _).setCell (p:=Hk a.heap.size 5) (bC<|iJ _) _,λ_ _ _=>rfl,gX _,aA _,u.size,λa6=>Nat.not_succ_le_self _ a6.1⟩⟩,rfl,u⟩⟩
 obtain⟨v,W,g,i,rfl,HZ⟩:=hcut;have cr:Cl wc w.heap.size 1 (.slice k n c):=oB HZ.low f1 ay;clear HG bq f0 f1;go_wp2;clear cr
 go_loopw [35] (λr wr=>∃j:Nat,j<=n/\r=Hp j/\Hs (Lj a wr W v V k n c d L D C x E b I G g i o<|I7 b (d.take j))) λr _=>n-(intOf r).toNat
 case atStart=>exact⟨0,aN _,rfl,HZ⟩
 obtain⟨j,hj,rfl,Y⟩:=hrel;clear HZ;have ad:=Xa Y.low;have eb:=ad.size;by_cases du:j<n
 .have Q:j<d.length:=oN J.o;have d0:(j:Int)<(n:Int):=oM;obtain⟨cg,mv,iv,O⟩:=Y.h;obtain⟨gb,ob,rfl,⟨_,dl⟩,cv⟩:=(ha.keep<|(S.trans<|ad.mono oM).mono hB) j Q;obtain⟨y,z,s,t,e0,e1,⟨e2,e3,e4,e5⟩,_,b6⟩:=cv;have bm:=Xa b6;have bo:=Xa<|R.ops _ (aH Q);have bt:=Xa λch hy=>And.intro (R.rdi _ (aH Q) ch hy) (R.wri _ (aH Q) ch hy);have a2:=Xa<|R.kind _ (aH Q);have bv:=Xa<|R.rdt _ (aH Q);have cl:=Xa<|R.lens _ (aH Q);have cm:Hs (I7 b (d.take<|j+1)=I7 b (d.take j)++[⟨d[j].is.map (ZR b),II b d[j].te⟩]):=Xa (by unfold I7;rw[bN Q,bG];rfl);have a4:Hs ((I7 b<|d.take j).length=j):=Xa (by unfold I7;rw[bK,dH];omega);generalize d[j]=X at*;obtain⟨h,ap⟩:∃h:Nat,X.te.kind=(h:Int):=⟨X.te.kind.toNat,oN a2.o⟩;rw[ap]at e2;have b7:1<=h/\h<=3:=by have:=a2.o;rw[ap]at this;omega
  have a3:=Xa ap;have HS:=Xa O;have dn:gb<wr.heap.size:=oM;clear O b6 ap a2;obtain⟨ma,mc,ar⟩:=HS.m.blks.form;rw[a4.o]at ar;subst ar;go_wp2;have ao:=Xb (Below.refl wr.heap.size wr) (.cells #[.slice y X.ps.length z,.slice s X.is.length t,Hp h,Hp X.te.a,Hp X.te.to,Hp X.te.els] 46);have H:=Xa<|Bx.new wr #[.slice y X.ps.length z,.slice s X.is.length t,Hp h,Hp X.te.a,Hp X.te.to,Hp X.te.els] 46;have T:=Xa<|HS.calm ao;have cj:=Xa<|Xg ad ao;have bw:Hs ((wr.alloc<|.cells #[.slice y X.ps.length z,.slice s X.is.length t,Hp h,Hp X.te.a,Hp X.te.to,Hp X.te.els] 46).heap.size=wr.heap.size+1):=Xa sP;have dk:=Xa<|HS.fr _ (aA _);have bl:Hs (Calls prog 25 #[Hn v,.agg #[.slice y X.ps.length z,.slice s X.is.length t,Hp h,Hp X.te.a,Hp X.te.to,Hp X.te.els]] (wr.alloc<|.cells #[.slice y X.ps.length z,.slice s X.is.length t,Hp h,Hp X.te.a,Hp X.te.to,Hp X.te.els] 46).drew λl f=>∃A B,l=.returned (.agg #[.slice A X.is.length B,Hp h,Hp (II b X.te).a,Hp X.te.to,Hp X.te.els])/\Hs (Below (wr.alloc<|.cells #[.slice y X.ps.length z,.slice s X.is.length t,Hp h,Hp X.te.a,Hp X.te.to,Hp X.te.els] 46).heap.size (wr.alloc<|.cells #[.slice y X.ps.length z,.slice s X.is.length t,Hp h,Hp X.te.a,Hp X.te.to,Hp X.te.els] 46) f)/\Hs (f.ownsRow (wr.alloc<|.cells #[.slice y X.ps.length z,.slice s X.is.length t,Hp h,Hp X.te.a,Hp X.te.to,Hp X.te.els] 46).heap.size 48 5 (.slice A X.is.length B) X.is.length (ZP<|X.is.map (ZR b)))):=Xa (by
   have hw:=(S.trans<|cj.mono oM).drew;have ea:wr.heap.size+1=(wr.alloc<|.cells #[.slice y X.ps.length z,.slice s X.is.length t,Hp h,Hp X.te.a,Hp X.te.to,Hp X.te.els] 46).drew.heap.size:=bw.symm;refine(FG v V _ _ _ _ _ C x E b I G (.slice y X.ps.length z) s X.is.length t X.is h X.te.a X.te.to X.te.els L D (wr.alloc<|.cells #[.slice y X.ps.length z,.slice s X.is.length t,Hp h,Hp X.te.a,Hp X.te.to,Hp X.te.els] 46).drew (Xa<|T.bx.keep rfl) (Xa<|hc.keep (hw.mono bz)) a9 (Xa<|oP b5.o a9.o) oM oM (Xa<|bm.keep ((ao.drew.mono oM))) (Xa rfl) cl.1 (Xa<|hO.keep hw hO.1) (Xa<|hT.keep hw hT.1) bo bt b7.1 b7.2 (Xa (by have:=bv.o;rw[show X.te=⟨X.te.kind,X.te.a,X.te.to,X.te.els⟩from rfl,a3.o]at this;exact this))).mono ?_;rintro l e⟨v5,rfl,al,cb⟩;obtain⟨A,B,rfl⟩:∃A B,v5=.slice A X.is.length B:=Xv.form (lab:=λ_=>(0,0,0)) (L:=(0,0,0)) ⟨cb,λ_ _=>rfl⟩;refine⟨A,B,?_,Xa<|Xg (Below.refl _ _).drew al,Xa cb⟩;rw[show(II b ⟨(h:Int),X.te.a,X.te.to,X.te.els⟩).a=(II b X.te).a by rw[<-a3.o]])
  have ck:Hs (II b X.te=⟨(h:Int),(II b X.te).a,X.te.to,X.te.els⟩):=Xa (by rw[<-a3.o];rfl);clear e0 e1 e2 e3 e4 e5 ao bm bo bt bv HS;generalize wr.alloc _=wt at*;have a8:wr.heap.size<wt.heap.size:=oN bw.o;generalize wr.heap.size=m at*;have t0:=Bx.c H 0;have t1:=Bx.c H 1;have t2:=Bx.c H 2;have t3:=Bx.c H 3;have t4:=Bx.c H 4;have t5:=Bx.c H 5;have l5:=Bx.c T.bx 5;refine Y7 (λf=>f.cell? (Hk m 0)=some (.slice y X.ps.length z)/\f.cell? (Hk m 1)=some (.slice s X.is.length t)/\f.cell? (Hk m 2)=some (Hp h)/\f.cell? (Hk m 3)=some (Hp X.te.a)/\f.cell? (Hk m 4)=some (Hp X.te.to)/\f.cell? (Hk m 5)=some (Hp X.te.els)) λhHeld=>?_;refine Xn 0 ?_;refine Xn 1 ?_;refine Xn 3 ?_;refine eS (rs:=[2,4]) kR sP ?_;refine(bQ rfl (λK hK=>?_) (bQ rfl (λK hK=>?_) dY))
  focus
   go_simp;refine hK _ _ kP λhHeld=>?_;clear hK
   try simp only[xX]
   refine Xs 4 λK hK=>?_;go_simp
   go_at_call 25
   with_reducible refine bl.o.mono ?_
   rintro l e⟨A,B,rfl,q,M⟩;have U:=Xa<|T.calm q;have p:=H.keep<|q.block _ H.lt;have s5:e.cell? (Hk m 0)=some (.slice y X.ps.length z)/\e.cell? (Hk m 1)=some (.slice s X.is.length t)/\e.cell? (Hk m 2)=some (Hp h)/\e.cell? (Hk m 3)=some (Hp X.te.a)/\e.cell? (Hk m 4)=some (Hp X.te.to)/\e.cell? (Hk m 5)=some (Hp X.te.els):=⟨Bx.cell p rfl,Bx.cell p rfl,Bx.cell p rfl,Bx.cell p rfl,Bx.cell p rfl,Bx.cell p rfl⟩;have az:=Xa p;have x5:=Bx.c U.bx 5;have c6:=U.bx.lt;clear p;dsimp only;refine hK _ _ s5 λhHeld=>?_;clear hK;refine Xs 5 λK hK=>?_;go_simp;refine hK _ _ kP λhHeld=>?_;clear hK
  rotate_left
  focus
   go_simp
   go_at_call 25
   with_reducible refine bl.o.mono ?_
   rintro l e⟨A,B,rfl,q,M⟩;have U:=Xa<|T.calm q;have p:=H.keep<|q.block _ H.lt;have s5:e.cell? (Hk m 0)=some (.slice y X.ps.length z)/\e.cell? (Hk m 1)=some (.slice s X.is.length t)/\e.cell? (Hk m 2)=some (Hp h)/\e.cell? (Hk m 3)=some (Hp X.te.a)/\e.cell? (Hk m 4)=some (Hp X.te.to)/\e.cell? (Hk m 5)=some (Hp X.te.els):=⟨Bx.cell p rfl,Bx.cell p rfl,Bx.cell p rfl,Bx.cell p rfl,Bx.cell p rfl,Bx.cell p rfl⟩;have az:=Xa p;have x5:=Bx.c U.bx 5;have c6:=U.bx.lt;clear p;dsimp only;refine hK _ _ s5 λhHeld=>?_;clear hK
   try simp only[xX]
   refine eS (rs:=[2,5]) kR sP ?_;refine(bQ rfl (λK hK=>?_) (bQ rfl (λK hK=>?_) dY))
   focus
    go_simp;refine hK _ _ kP λhHeld=>?_;clear hK
    try simp only[xX]
    refine Xs 5 λK hK=>?_;go_simp;refine hK _ _ kP λhHeld=>?_;clear hK
   rotate_left
   focus
    go_simp;refine hK _ _ kP λhHeld=>?_;clear hK
    try simp only[xX]
    refine Xs 2 λK hK=>?_;go_simp;refine hK _ _ kP λhHeld=>?_;clear hK
  all_goals (
   refine Xs 6 λK hK=>?_;obtain⟨ed,ce,cf⟩:=Xv.fresh (L:=(3,(I7 b<|d.take j).length,0)) (lab:=cg) (base:=W.base) q M T.bs T.fr;have b1:=T.spT q cf;have hA:=b1.calm<|Xb (Below.refl e.heap.size e) (.cells #[.slice A X.is.length B,Hp h,Hp (II b X.te).a,Hp X.te.to,Hp X.te.els] 43);have b0:=ce.sp (XW.below<|Xb (Below.refl e.heap.size e) (.cells #[.slice A X.is.length B,Hp h,Hp (II b X.te).a,Hp X.te.to,Hp X.te.els] 43)) λ_ _=>trivial;have af:=hA.m.blks.own;rw[a4.o]at af;refine dm rfl _ _ 33 rfl W.base 43 j0 (.agg #[Hq,Hp 0,Hp 0,Hp 0,Hp 0]) 5 56 underlying33 cx dc dd df rfl vZ (.slice ma j mc) j (H9 iv<|I7 b (d.take j)) rfl af (Hk e.heap.size 0) 1 1 [.slice A X.is.length B,Hp h,Hp (II b X.te).a,Hp X.te.to,Hp X.te.els] rfl rfl (World.news_of_block<|World.alloc_heap_new _ _) ?s3 ?s4 ?s5 ?s6 ?_
   case s3=>intro eg hu;simp at hu;rcases hu with rfl|rfl|rfl|rfl|rfl<;>rfl
   case s4=>unfold maxLen;omega
   case s5=>omega
   case s6=>exact hA.bs
   intro v8 w8 bd ba c9 b4;obtain⟨⟨ee,b3⟩,aq⟩:=hA.push ⟨X.is.map<|ZR b,II b X.te⟩ (by show Xv _ _ _ _ _ _ _ (X.is.map<|ZR b).length _;rw[bK];exact b0) ba (by rw[a4.o,ck.o];exact bd) b4;obtain⟨g8,c8,rfl,_,_⟩:=Xm bd oM;have P:=(az.box _).grown ba (pf (az.box _) af vZ);have u:=Bx.c aq 5;have kz:=Bx.thaw aq;have di:=vH P aq vZ;have ef:v≠m:=λl=>di l.symm;have cq:Hs (Lj a (w8.setCell (Hk v 5) (Hl g8 (j+1) c8)) W v V (some ⟨gb,ob,none⟩) n c d L D C x E b I G g i o (I7 b<|d.take (j+1))):=Xa ⟨Y.g,by rw[cm.o];exact⟨_,_,_,b3⟩,Y.bs,Y.ww⟩;refine hK _ _ ⟨Bx.cell P rfl,Bx.cell P rfl,Bx.cell P rfl,Bx.cell P rfl,Bx.cell P rfl,Bx.cell P rfl⟩ λhHeld=>?_;clear hK bd ba c9 b4 hA b0 b3 aq P af b1 ce cf t0 t1 t2 t3 t4 t5 l5 x5 s5
   try simp only[xX]
   refine Xn 7 ?_;refine Xn 8 ?_;refine Xs 9 λK hK=>?_;go_simp;refine hK _ _ kP λhHeld=>?_;clear hK;refine Yq ?_;clear hHeld;go_wp2;exact⟨⟨j+1,oM,gM,cq⟩,by simp[intOf];omega⟩)
 have cz:j=n:=oM;have ds:¬(j:Int)<(n:Int):=oM;have bx:Hs (Lj a wr W v V k n c d L D C x E b I G g i o<|bk b d 0):=Xa (by rw[FT];have:=Y.o;rw[cz,J.o,gC]at this;rw[J.o];exact this);have ct:Cl wr w.heap.size 1 (.slice k n c):=(ad.cell (p:=Hk w.heap.size 1) ay).trans (Bx.cell HF rfl);clear Y;go_wp2;clear ct
 go_loopw [52] (λr wr=>∃j:Nat,j<=n/\r=Hp j/\Hs (Lj a wr W v V k n c d L D C x E b I G g i o<|bk b d j)) λr _=>n-(intOf r).toNat
 case atStart=>exact⟨0,aN _,rfl,bx⟩
 obtain⟨F,hp,rfl,Z⟩:=hrel;clear bx;by_cases dw:F<n
 .have ab:F<d.length:=oN J.o;have d1:(F:Int)<(n:Int):=oM;have co:=Xa<|oX b d F (dU ab);have bn:=Xa<|vu b d (dU ab);have cd:F<(bk b d F).length:=by rw[bn.o];omega
  have br:=Xa (Fq W V k n c d L D C x E b I G g i v o (bk b d F) F wr (Xa Z.g) (Xa Z.h) (by rw[bn.o];have:=co.o;have:=J.o;omega) ab cd (Xa<|GG b d ab cd));go_wp2_with fail
  refine br.mono ?_;rintro l e⟨rfl,a7⟩;rw[F0 b d ab]at a7;have cp:Hs (Lj a e W v V k n c d L D C x E b I G g i o<|bk b d (F+1)):=Xa ⟨Z.g,a7,Z.bs,Z.ww⟩;clear a7 br;go_wp2;exact⟨⟨F+1,oM,gM,cp⟩,by simp[intOf];omega⟩
 have da:F=n:=oM;have d5:¬(F:Int)<(n:Int):=oM;have aa:Hs (Lj a wr W v V k n c d L D C x E b I G g i o<|GI b d):=Xa (by have:=Z.o;rw[da,J.o,Ge]at this;rw[J.o];exact this);clear Z;obtain⟨cg,mv,iv,O⟩:=aa.h;obtain⟨ma,mc,ar⟩:=O.m.blks.form;subst ar;have l4:=Bx.c O.bx 4;have l5:=Bx.c O.bx 5;have ax:=HR.keep<|aa.low.block _ HR.lt;have r0:=Bx.c ax 0;have r1:=Bx.c ax 1;have rz:=Bx.thaw ax;have ca:w.heap.size+1<W.base:=by rw[aa.bs];exact hz
 have b8:w.heap.size<=w.heap.size+1:=gX _;have a0:=Xa<|((S.trans<|aa.low.mono oM).setCell (p:=Hk (w.heap.size+1) 0) b8 (Hp o)).setCell (p:=Hk (w.heap.size+1) 1) b8 (.slice ma (GI b d).length mc);have a1:=Xa (lq.of<|((O.m.sp (XW.deep (Hk (w.heap.size+1) 0) ca (Hp o)) (λ_ _=>trivial) λ_ _ _ _=>trivial).sp (XW.deep (Hk (w.heap.size+1) 1) ca (.slice ma (GI b d).length mc)) (λ_ _=>trivial) λ_ _ _ _=>trivial).down (by omega:w.heap.size<=W.base));clear O ax aa;go_wp2_with fail
 refine cC (v:=.agg #[Hp o,.slice ma (GI b d).length mc]) (by simp[results,results9,go_sem,r0,r1]) rfl ?_
 first
  |exact⟨_,_,rfl,a0,a1⟩
  |exact⟨ma,⟨mc,rfl⟩,a0,a1⟩
  |exact⟨ma,sP,a0,a1⟩
section
theorem GY{b:Nat}{xs:List Xe}{cs:List Int}{k:Int}{w:World}(A:1<=k/\k<=64)(x:IR (b:Int) xs cs k=true)(i:Jy b xs)(C:xs.length+Xx xs<=1048576)(q:Yy w)(r:Yb w)(s:Jn w)(a:Option Addr)(m c:Nat)(e:Option Addr)(g:Nat)(W:World)(d:Below w.heap.size w W)(j:m=xs.length)(ha:Xp W 0 W.heap.size a xs)(t:Xf W 0 W.heap.size e cs) :
 Calls prog 9 #[.agg #[Hp b,.slice a m c],.slice e b g,Hp k] W λn f=>∃va l,n=.returned (.agg #[Hp k,.slice va (GI cs xs).length l])/\Below W.heap.size W f/\dp f W.heap.size f.heap.size va (GI cs xs):=by
 let⟨_,_,_,F,y,_⟩:=GZ x;have v:b=cs.length:=oM;have G:=i.vle;have KO:=λW' (h:Below W.heap.size W W')=>q.keep (d.trans<|h.mono d.size) q.1;have KT:=λW' (h:Below W.heap.size W W')=>r.keep (d.trans<|h.mono d.size) r.1;refine(F6 b a m c xs 0 W.heap.size e b g cs 0 W.heap.size k W (Xa ha) (Xa j) (aA _) (Xa i) (Xa t) (Xa v) (Xa rfl) (aA _) A (Xa<|KO _ (Below.refl _ _)) (Xa<|KT _ (Below.refl _ _)) (Xa λE D=>by have:=y E D;omega) (Xa<|by rw[j];exact i.okf.ok) (Xa λW' h=>?_)).mono ?_
 .have p:=yI (b:Int) a m c xs 0 W.heap.size e b g cs 0 W.heap.size k W' (Xa<|ha.keep h) (Xa j) (Xa C) h.size (Xa<|KO _ h) (Xa<|KT _ h) (Xa<|s.of_block ((d.trans<|h.mono d.size).block _ (aI w _<|s 0 vZ))) (Xa<|t.keep h) (Xa v) h.size oM;rw[x]at p;exact p
 rintro n f⟨va,l,rfl,z,I,H,B⟩;exact⟨va,l,rfl,z,B.at_⟩
theorem vF{v:Int}{xs:List Xe}(h:XJ ⟨v,xs⟩=true):∀x∈xs,∀y∈x.is,y.op<=10:=λx b y c=>by
 simp only[XJ,bY]at h;have:=dV.1 (dV.1 h.1.1.2 x b) y c;simp only[Yw,bY,bD]at this;omega
theorem GX{w:World}{D h g m b m1 c1 i p:Nat}{e va:Option Addr}{xs:List Xe}{n:Int}{cs:List Int}(d:XJ ⟨(b:Int),xs⟩=true)(c:Jy b xs)(j:m1=xs.length)(k:b=cs.length):L6 ⟨w,D,h,g,m,b,xs,e,m1,c1,i,n,cs,va,(GI cs xs).length,p,GI cs xs⟩:=by
 let⟨f,b2⟩:=Gg cs xs c.okf.n2 λx l=>(c.lens x l).1;exact⟨c,j,rfl,f,k.symm,GW cs c<|vF d,vF d,b2⟩
structure Il(u W:World)(o:Option Nat)(a:Option Addr)(xs:List Xe)(ga:Option Addr)(cs:List Int)(va:Option Addr)(M:List ag):Prop where
 s:Below u.heap.size u W
 bx:∀mb,o=some mb->Bx W mb #[.int .i64 0,.slice none 0 0] 35/\u.heap.size<=mb
 bl:Xp W 0 W.heap.size a xs
 il:Xf W 0 W.heap.size ga cs
 ml:∃L B,B<=W.heap.size/\dp W L B va M/\∀mb,o=some mb->¬(L<=mb/\mb<B)
variable {u W W': World} {o: Option Nat} {a ga va: Option Addr} {xs: List Xe} {cs: List Int} {M: List ag}
theorem Il.next(h:Il u W o a xs ga cs va M)(k:Below W.heap.size W W'):Il u W' o a xs ga cs va M:=by
 let⟨L,B,c,d,f⟩:=h.ml;exact⟨Xg h.s k,λb e=>⟨(h.bx b e).1.keep (k.block _ (h.bx b e).1.lt),(h.bx b e).2⟩,(h.bl.keep k).mono (aA _) k.size,(h.il.keep k).mono (aA _) k.size,L,B,aJ c k.size,d.keep<|k.mono c,f⟩
theorem Il.box(h:Il u W none a xs ga cs va M):∃b,b=W.heap.size/\Il u (W.alloc<|.cells #[.int .i64 0,.slice none 0 0] 35) (some b) a xs ga cs va M:=by
 have c:=h.next<|Xb (Below.refl _ _) (.cells #[Hp 0,Hq] 35);let⟨L,B,d,f,_⟩:=h.ml;exact⟨_,rfl,c.s,λb e=>(by cases e;exact⟨Bx.new _ _ _,h.s.size⟩),c.bl,c.il,L,B,aJ d sP,f.keep<|(Xb (Below.refl _ _) (.cells #[Hp 0,Hq] 35)).mono d,λb e=>(by cases e;omega)⟩
theorem Il.draw{c:Option Addr}{d:List Xe}(h:Il u W o a xs ga cs va M)(k:Below W.heap.size W W')(b:Xp W' 0 W'.heap.size c d):Il u W' o c d ga cs va M:=⟨(h.next k).s,(h.next k).bx,b,(h.next k).il,(h.next k).ml⟩
theorem Il.copy{c:Option Addr}{d:List Int}(h:Il u W o a xs ga cs va M)(k:Below W.heap.size W W')(b:Xf W' 0 W'.heap.size c d):Il u W' o a xs c d va M:=⟨(h.next k).s,(h.next k).bx,(h.next k).bl,b,(h.next k).ml⟩
theorem Il.low{c:Option Addr}{d:List ag}(h:Il u W o a xs ga cs va M)(k:Below W.heap.size W W')(b:dp W' W.heap.size W'.heap.size c d):Il u W' o a xs ga cs c d:=⟨(h.next k).s,(h.next k).bx,(h.next k).bl,(h.next k).il,_,_,aA _,b,λf e=>by have:=(h.bx f e).1.lt;omega⟩
theorem Il.put{b:Nat}(h:Il u W (some b) a xs ga cs va M)(c v1:Value):(λX:World=>Below u.heap.size u X/\Bx X b #[c,v1] 35/\dp X 0 X.heap.size va M) ((W.setCell ⟨b,0,none⟩ c).setCell ⟨b,1,none⟩ v1):=by
 let⟨L,B,f,g,i⟩:=h.ml;let⟨j,d⟩:=h.bx b rfl;refine⟨(h.s.setCell (p:=Hk b 0) d _).setCell (p:=Hk b 1) d _,(j.set 0 c).set 1 v1,(g.keepS λq k l=>?_).mono (aN _) (by simpa using f)⟩;have e:q≠b:=λe=>i b rfl oM;exact(Below.heap_setCell _ _ _ _ e).trans (Below.heap_setCell _ _ _ _ e)
theorem FR(ca:Option Addr)(Q cc:Nat)(bs:List UInt8)(w:World)(ha:Hs (Yx w 0 w.heap.size ca bs))(hx:Hs (Q=bs.length))(hn:Q<=9223372036854775807)(hO:Hs (Yy w))(hT:Hs (Yb w))(bv:Hs (Jn w))(ci:Hs (2 < w.heap.size)) :
 Calls prog 3 #[.slice ca Q cc] w λl p=>l=.returned (.bool true)/\Below w.heap.size w p:=by
 by_cases cp:Q<=1048576
 .have cq:¬(1048576:Int)<Q:=oM;have ap:=Xa λW (I:Below w.heap.size w W)=>zX ca Q cc bs 0 w.heap.size W (Xa<|ha.keep I) hx cp I.size;have bp:=Xa λW (I:Below w.heap.size w W)=>hO.keep I hO.1;have bq:=Xa λW (I:Below w.heap.size w W)=>hT.keep I hT.1;have cf:=Xa λW (I:Below w.heap.size w W)=>bv.of_block<|I.block _ ci.o;generalize IL (WB bs)=b5 at*;let⟨V,xs⟩:=b5;dsimp only at ap;clear ha hx
  go_in
  go_wp2_with fail
  refine(ap.o w<|Below.refl _ _).mono ?_;rintro l R⟨h,m1,c1,rfl,s⟩;have S:=Xa s;clear s;go_wp2_with fail
  have ao:Hs (Below w.heap.size w<|R.alloc (.cells #[Hp V,.slice h m1 c1] 25)):=Xa<|Below.alloc S.low S.low.size _;have aq:Hs (Bx (R.alloc<|.cells #[Hp V,.slice h m1 c1] 25) R.heap.size #[Hp V,.slice h m1 c1] 25):=Xa<|Bx.new _ _ _;have bf:Hs (Xp (R.alloc<|.cells #[Hp V,.slice h m1 c1] 25) 0 R.heap.size h xs):=Xa<|(S.at_.keep<|Below.alloc (Below.refl _ _) (aA _) _).mono (aN _) (aA _);have D:=Xa S.len;have O:=Xa S.tot;clear S;generalize R.alloc _=wf at*;generalize R.heap.size=j at*;refine(ap.o wf ao.o).mono ?_;rintro l Z⟨a2,m2,c2,rfl,s⟩;have A:=Xa s;have t:=Xa<|ao.trans (s.low.mono ao.size);have H:=Xa<|aq.keep (s.low.block _ aq.lt);have al:=Xa<|(bf.keep (B:=j) (s.low.mono<|dU aq.lt));clear s ao aq bf;go_wp2_with fail
  by_cases Y:E5 V xs=0
  .let⟨b,cj⟩:=Co (TX Y).1;subst cj;have U:=Xa Y;have a7:=Xa (TX U.o).1;have T:=Xa<|XH a7.o;have ck:b<=2000:=T.vle;let⟨bb,bd⟩:=CC U.o;have bo:Hs (YX (X8 xs) m2 ((List.range xs.length).map (G9<|(List.range xs.length).map (Zq (X8 xs) xs.length)))):=Xa (by rw[A.len];exact T.okf.model);have az:=Xa<|xR b a2 m2 c2 xs wf.heap.size Z.heap.size Z _ (Xa A.at_) (Xa A.len) (Xa A.tot) (aA _) (Xa<|bp.o _ t.o) (Xa<|bq.o _ t.o) (Xa<|cf.o _ t.o) U bo;have e9:Kq (λ_=>-1) (Ko xs b<|XT ((List.range xs.length).map (G9<|(List.range xs.length).map (Zq (X8 xs) xs.length))) m2 0)=Le b xs:=by unfold Le;rw[A.len]
   rw[e9,bb]at az;rw[bb]at bd;have di:IA (Zw xs b xs.length)<=2000:=aJ sW ck;have bn:=Xa λba ar W X h2=>At b h m1 c1 xs ba ar W X D O h2 a7 T;generalize IA (Zw xs b xs.length)=e at*;generalize Le b xs=aj at*;have a4:=Xa<|nK bd;clear bd bb e9 Y bo;refine az.mono ?_;rintro l q⟨m,rfl,x,co,bc⟩;have HS:Hs (LC w (q.alloc<|.cells #[Hp 0,Hl m b b,Hp e] 29) (q.alloc<|.cells #[Hp 0,Hl m b b,Hp e] 29).heap.size j q.heap.size (b:Int) xs h m1 c1 m b (e:Int) aj):=Xa (by
    have k1:Below Z.heap.size Z (q.alloc<|.cells #[Hp 0,Hl m b b,Hp e] 29):=Below.alloc x x.size _;have dn:(q.alloc<|.cells #[Hp 0,Hl m b b,Hp e] 29).heap.size=q.heap.size+1:=sP;have cl:=H.lt;have dw:=x.size;have cr:=t.size;have dj:=bc.lt;refine⟨t.trans<|k1.mono cr,oM,aA _,oM,oM,oM,H.keep<|k1.block _ cl,Bx.new _ _ _,?_,bc.alloc _⟩;exact(al.keep<|k1.mono oM).mono (aA _) oM)
   clear x co bc t H al A az;let⟨i,q1,q2,f,g⟩:=HS.cells;go_wp2_with fail
   generalize (q.alloc<|.cells #[Hp 0,Hl m b b,Hp e] 29).heap.size=G at*;generalize q.alloc _=w4 at*;generalize q.heap.size=r at*;have dl:m1<=1000:=oP T.okf.n2 D.o;refine(KT (b:Int) h m1 c1 xs 0 G _ (Xa HS.at_) D O HS.bd).mono ?_;rw[U.o];rintro l w5⟨rfl,J⟩;have ab:=Xa<|HS.next J;clear J HS i q1 q2 f g;let⟨i,q1,q2,f,g⟩:=ab.cells;go_wp2_with fail
   refine(bn.o 0 G _ (Xa ab.at_) ab.bd).mono ?_;rintro l w6⟨rfl,bz⟩;have E:=Xa<|ab.next bz;clear bz ab i q1 q2 f g;let⟨i,q1,q2,f,g⟩:=E.cells;by_cases X:e<1
   .have cg:(e:Int)<1:=oM;go_wp2;refine Y7 (λp=>p.cell? (Hk r 0)=some (Hp 0)/\p.cell? (Hk j 0)=some (Hp b)/\p.cell? (Hk j 1)=some (.slice h m1 c1)) λhHeld=>?_;refine Xn 0 ?_;refine Xn 1 ?_;refine Xs 2 λK hK=>?_;go_simp;refine hK _ _ kP λhHeld=>?_;clear hK;refine Xs 3 λK hK=>?_;go_simp
    go_at_call 6
    refine(KT (b:Int) h m1 c1 xs 0 G _ (Xa E.drew.at_) D O E.drew.bd).mono ?_;rw[U.o];rintro l wv⟨rfl,y⟩;have ad:=Xa<|E.drew.next y;clear y E i q1 q2 f g;let⟨i,q1,q2,f,g⟩:=ad.cells;refine hK _ _ ⟨i,f,g⟩ λhHeld=>?_;clear hK;refine Xn 4 ?_;refine Xn 5 ?_;refine Yq ?_;go_wp2;go_ret;exact⟨rfl,ad.low⟩
   have cg:¬(e:Int)<1:=oM;go_wp2_with fail
   refine(bn.o 0 G _ (Xa E.at_) E.bd).mono ?_;rintro l w7⟨rfl,b0⟩;have B:=Xa<|E.next b0;clear b0 E i q1 q2 f g;let⟨i,q1,q2,f,g⟩:=B.cells;by_cases dd:64<e
   .have ch:(64:Int)<e:=oM;go_wp2;refine Y7 (λp=>p.cell? (Hk r 0)=some (Hp 0)/\p.cell? (Hk j 0)=some (Hp b)/\p.cell? (Hk j 1)=some (.slice h m1 c1)) λhHeld=>?_;refine Xn 0 ?_;refine Xn 1 ?_;refine Xs 2 λK hK=>?_;go_simp;refine hK _ _ kP λhHeld=>?_;clear hK;refine Xs 3 λK hK=>?_;go_simp
    go_at_call 6
    refine(KT (b:Int) h m1 c1 xs 0 G _ (Xa B.drew.at_) D O B.drew.bd).mono ?_;rw[U.o];rintro l wv⟨rfl,y⟩;have ad:=Xa<|B.drew.next y;clear y B i q1 q2 f g;let⟨i,q1,q2,f,g⟩:=ad.cells;refine hK _ _ ⟨i,f,g⟩ λhHeld=>?_;clear hK;refine Xn 4 ?_;refine Xn 5 ?_;refine Yq ?_;go_wp2;go_ret;exact⟨rfl,ad.low⟩
   have ch:¬(64:Int)<e:=oM;go_wp2_with fail
   let⟨cs,af⟩:∃cs,cs=(List.range b).map aj:=⟨_,rfl⟩;rw[<-af]at a4;have a3:Hs (∀W,LC w W G j r (b:Int) xs h m1 c1 m b (e:Int) aj->Xf W 0 W.heap.size (some ⟨m,0,none⟩) cs):=Xa (λW k=>by rw[af];exact k.ia.ints);have a0:Hs (b=cs.length):=Xa (by rw[af];simp);have b8:Hs ((List.range b).map (λct=>cs.getD ct 0)=cs):=Xa (by
    rw[af];apply gH;intro u hu;have hu:=bE.1 hu;rw[bF,dX,iQ hu];rfl)
   clear af;refine(Cr (b:Int) h m1 c1 xs 0 G (some ⟨m,0,none⟩) b b cs 0 w7.heap.size (e:Int) _ (Xa B.at_) D O B.bd (Xa<|a3.o _ B.o) a0 (aA _) oM).mono ?_;rw[a4.o];rintro l w8⟨rfl,b1⟩;have a5:=Xa<|B.next b1;clear b1 B i q1 q2 f g;have cd:=Xa λa cv c ac cc W hW X h2 h3=>GY (k:=(e:Int)) oM a4.o T.o O.o hO.o hT.o bv.o a cv c ac cc W hW X h2 h3;let⟨i,q1,q2,f,g⟩:=a5.cells;go_wp2;refine Y7 (λp=>p.cell? (Hk r 1)=some (Hl m b b)/\p.cell? (Hk r 2)=some (Hp e)) λhHeld=>?_;have a6:=Xa a5.drew;clear a5 i q1 q2 f g;generalize w8.drew=u at*;have v:Hs (∀W,Below u.heap.size u W->LC w W G j r (b:Int) xs h m1 c1 m b (e:Int) aj/\W.cell? (Hk r 1)=some (Hl m b b)/\W.cell? (Hk r 2)=some (Hp e)):=Xa λW k=>⟨a6.next k,(a6.next k).cells.2.1,(a6.next k).cells.2.2.1⟩;have d:Hs (Il u u none none [] none [] none []):=Xa ⟨Below.refl _ _,λ_ k=>(by cases k),λ_ k=>absurd k<|Nat.not_lt_zero _,λ_ k=>absurd k<|Nat.not_lt_zero _,0,0,aN _,λ_ k=>absurd k<|Nat.not_lt_zero _,λ_ k=>(by cases k)⟩;refine Xn 0 ?_;refine Xn 2 ?_;refine Xn 3 ?_;refine Xn 5 ?_;refine Xn 6 ?_;refine eS (rs:=[1,8]) kR sP ?_;refine(bQ rfl (λK hK=>?_) (bQ rfl (λK hK=>?_) dY));rotate_left;go_simp;let⟨P,z,n⟩:=d.box;rw[<-z];replace d:=Xa n;clear z n;refine hK _ _ (v.o _ d.s).2 λhHeld=>?_;clear hK
   try simp only[xX]
   refine Xs 1 λK hK=>?_;rotate_left
   all_goals (
    go_simp
    go_at_call 4
    refine(ap.o _ (v.o _ d.s).1.low).mono ?_;rintro l w9⟨a9,m9,c9,rfl,s⟩;replace d:=Xa<|d.draw s.low (s.at_.mono (aN _) (aA _));have bm:=Xa s.len;clear s;dsimp only at bm d;refine hK _ _ (v.o _ d.s).2 λhHeld=>?_;clear hK
    try simp only[xX])
   rotate_left;refine Xs 4 λK hK=>?_;rotate_left;refine eS (rs:=[4,8]) kR sP ?_;refine(bQ rfl (λK hK=>?_) (bQ rfl (λK hK=>?_) dY));rotate_left;go_simp;let⟨P,z,n⟩:=d.box;rw[<-z];replace d:=Xa n;clear z n;refine hK _ _ (v.o _ d.s).2 λhHeld=>?_;clear hK
   try simp only[xX]
   refine Xs 4 λK hK=>?_
   all_goals (
    go_simp
    go_at_call 10
    refine(vU (some ⟨m,0,none⟩) b b cs 0 _ _ (Xa<|a3.o _ (v.o _ d.s).1) a0 oM (aA _)).mono ?_;rintro l d2⟨dc,cw,rfl,bw,cm,b3⟩;replace d:=Xa (d.copy bw (by have:=b3.ints;rw[b8.o]at this;exact this));clear bw cm b3;refine hK _ _ (v.o _ d.s).2 λhHeld=>?_;clear hK
    try simp only[xX])
   refine Xs 7 λK hK=>?_;rotate_left;refine Xs 7 λK hK=>?_;rotate_left;refine eS (rs:=[7,8]) kR sP ?_;refine(bQ rfl (λK hK=>?_) (bQ rfl (λK hK=>?_) dY));rotate_left;go_simp;let⟨P,z,n⟩:=d.box;rw[<-z];replace d:=Xa n;clear z n;refine hK _ _ (v.o _ d.s).2 λhHeld=>?_;clear hK
   try simp only[xX]
   refine Xs 7 λK hK=>?_
   all_goals (
    go_simp
    go_at_call 9
    refine(cd.o _ _ _ _ _ _ (v.o _ d.s).1.low bm.o d.bl d.il).mono ?_;rintro l d3⟨va,vc,rfl,bx,b4⟩;replace d:=Xa<|d.low bx b4;clear bx b4;refine hK _ _ (v.o _ d.s).2 λhHeld=>?_;clear hK
    try simp only[xX])
   refine Xs 9 λK hK=>?_;rotate_left;refine Xs 9 λK hK=>?_;rotate_left;refine Xs 9 λK hK=>?_;rotate_left;refine Xs 8 λK hK=>?_;go_simp;let⟨P,z,n⟩:=d.box;rw[<-z];replace d:=Xa n;clear z n;refine hK _ _ (v.o _ d.s).2 λhHeld=>?_;clear hK;refine Xs 9 λK hK=>?_
   all_goals (
    have N:=Xa<|d.put (Hp e) (.slice va (GI cs xs).length vc);obtain⟨n,-⟩:=d.bx P rfl;have x0:=Bx.cell (q:=0) n rfl;have x1:=Bx.cell (q:=1) n rfl;have fz:=Bx.thaw n;clear n d;go_simp;generalize (World.setCell (World.setCell _ _ _) _ _)=wq at*;clear x0 x1 fz;have C:=Xa (v.o _ N.1).1;refine hK _ _ (v.o _ N.1).2 λhHeld=>?_;clear hK hHeld;refine Yq ?_;let⟨i,q1,q2,f,g⟩:=C.cells;have x0:=Bx.c N.2.1 0;have x1:=Bx.c N.2.1 1;have HG:Hs (L6 (⟨w,wq.heap.size,j,r,P,b,xs,h,m1,c1,m,(e:Int),cs,va,(GI cs xs).length,vc,GI cs xs⟩:LW)):=Xa<|GX a7.o T.o D.o a0.o;have dk:¬(((GI cs xs).length:Int)<(m1:Int)):=by have h8:xs.length<=(GI cs xs).length:=HG.f.len;have:=D.o;omega
    have df:((e:Int) != (e:Int))=false:=sP;have ce:Hs (LD (⟨w,wq.heap.size,j,r,P,b,xs,h,m1,c1,m,(e:Int),cs,va,(GI cs xs).length,vc,GI cs xs⟩:LW) wq):=Xa ⟨C.low,C.low.size,C.fbx,C.cbx,N.2.1,⟨C.fbx.lt,C.cbx.lt,N.2.1.lt⟩,C.at_.mono (aA _) (aJ C.bd<|aA _),N.2.2,a3.o _ C.o,aA _⟩;go_wp2_with fail
    refine Gx (⟨w,wq.heap.size,j,r,P,b,xs,h,m1,c1,m,(e:Int),cs,va,(GI cs xs).length,vc,GI cs xs⟩:LW) wq _ _ _ (by exact Xa λc a d0 d1 w k=>k) HG ce ?_ _ _ _ _ _ _ _ _ (by rfl);intro c8 c9 cx cz c6 c7 da tl wz hl hz;obtain⟨db,rfl⟩:=eo 15 284 tl hl;clear hl;simp only[ae,Nat.reduceAdd];have HZ:=Xa hz.low;clear hz;go_wp2;go_ret
    exact⟨rfl,HZ.o⟩)
  have bl:=Xa<|zC V a2 m2 c2 xs wf.heap.size Z.heap.size Z (Xa A.at_) (Xa A.len) (Xa A.tot) (aA _) (Xa<|bp.o _ t.o) (Xa<|bq.o _ t.o) Y;have br:=Xa λba ar W X h2=>KT V h m1 c1 xs ba ar W X D O h2;generalize E5 V xs=F at*;have ds:(F != 0)=true:=by simpa using Y
  have du:(F==F)=true:=sP;refine bl.mono ?_;rintro l q⟨rfl,x⟩;have ay:=Xa<|Below.alloc (t.trans<|x.mono t.size) (aJ t.size x.size) (.cells #[Hp F,Hq,Hp 0] 29);have L:=Xa<|(H.keep<|x.block _ H.lt).box (.cells #[Hp F,Hq,Hp 0] 29);have ax:=Xa<|(al.keep (B:=j) (x.mono<|dU H.lt)).keep (Below.alloc (Below.refl j q) (aJ (dU H.lt) x.size) (.cells #[Hp F,Hq,Hp 0] 29));have a8:Hs (Bx (q.alloc<|.cells #[Hp F,Hq,Hp 0] 29) q.heap.size #[Hp F,Hq,Hp 0] 29):=Xa<|Bx.new _ _ _;clear x t H al A bl Y;have f:=Bx.cell (q:=0) L.o rfl;have g:=Bx.cell (q:=1) L.o rfl;go_wp2_with fail
  generalize q.alloc _=w4 at*;generalize q.heap.size=r at*;refine(br.o 0 j _ ax<|dU L.lt).mono ?_;rintro l w5⟨rfl,J⟩;have bi:=Xa<|ay.trans (J.mono ay.size);have bt:=Xa<|a8.keep (J.block _ a8.lt);have aa:=Xa<|L.keep (J.block _ L.lt);have b6:=Xa<|ax.keep (B:=j) (J.mono<|dU L.lt);clear J f g a8 L ax ay;have i:=Bx.c bt.o 0;have f:=Bx.c aa.o 0;have g:=Bx.c aa.o 1;go_wp2;refine Y7 (λp=>p.cell? (Hk r 0)=some (Hp F)/\p.cell? (Hk j 0)=some (Hp V)/\p.cell? (Hk j 1)=some (.slice h m1 c1)) λhHeld=>?_;refine Xn 0 ?_;refine Xn 1 ?_;refine Xs 2 λK hK=>?_;go_simp;refine hK _ _ kP λhHeld=>?_;clear hK;refine Xs 3 λK hK=>?_;go_simp
  go_at_call 6
  refine(br.o 0 j _ (Xa<|b6.keep (Below.refl _ _).drew) (dU aa.lt)).mono ?_;rintro l wv⟨rfl,y⟩;have b7:=Xa<|bi.trans ((Below.refl w5.heap.size w5).drew.trans y |>.mono bi.size);have p0:=oB y i bt.lt;have p3:=oB y f aa.lt;have p4:=oB y g aa.lt;clear y i f g;refine hK _ _ ⟨p0,p3,p4⟩ λhHeld=>?_;clear hK;refine Xn 4 ?_;refine Xn 5 ?_;refine Yq ?_;go_wp2;go_ret;exact⟨rfl,b7.o⟩
 have cq:(1048576:Int)<Q:=oM
 go_in
 go_wp2;go_ret;exact⟨rfl,Below.refl _ _⟩
end
section
open Go.ChangeShapes Go.WideShapes Go.ChangeAt Go.Joins
theorem own:ownKnob Tryz.prog.godebug=none:=kR
theorem gOps : Tryz.prog.globalNamed "loop.example/s0031/impl.opForms" = some 0 := by kernel_rfl
theorem gTers : Tryz.prog.globalNamed "loop.example/s0031/impl.termForms" = some 1 := by kernel_rfl
theorem gTz : Tryz.prog.globalNamed "math/bits.deBruijn64tab" = some 2 := by kernel_rfl
theorem NO:(Tryz.prog.globals[2]?).map (·.type)=some 225:=kR
theorem qN:Tryz.prog.cellsOf 5=1:=kR
theorem E3:(Tryz.prog.globals[0]?).map (·.type)=some 175:=kR
theorem EB:(Tryz.prog.globals[1]?).map (·.type)=some 183:=kR
theorem BD:Tryz.prog.cellsOf 174=5:=kR
theorem zO:Tryz.prog.cellsOf 182=4:=kR
theorem yh:Tryz.prog.cellsOf 4=1:=kR
theorem zv:Tryz.prog.cellsOf 9=1:=kR
variable {H: Type} {enc: TypeId×Value -> H} {w: World} {base: Nat} {spare: Nat -> Bool} {held: Bool}
theorem Ta{n k:Nat}{a:List Value}{y:DataW H×List MemPlace}{b:Bool}(h:DataW.trod enc Tryz.prog w base spare held n 4 ((a.drop k).take (Tryz.prog.cellsOf 4))=some y)(e:y.1=.lit (.bool b)):a[k]?=some (.bool b):=by
 rw[yh]at h;let⟨z,c,d⟩:=DataW.trod_bool Tryz.underlying4 h;rw[d]at e;cases e;exact oI c
theorem tp{n k:Nat}{a:List Value}{y:DataW H×List MemPlace}{s:List UInt8}(h:DataW.trod enc Tryz.prog w base spare held n 9 ((a.drop k).take (Tryz.prog.cellsOf 9))=some y)(e:y.1=.lit (.string s)):a[k]?=some (.string (K8 s)):=by
 rw[zv]at h;let⟨z,b,c,_⟩:=DataW.trod_string Tryz.underlying9 h;rw[c]at e;have e1:z.data.toList=s:=by simpa using e
 have e2:K8 s=z:=by rw[<-e1];cases z;rfl
 rw[e2];exact oI b
theorem Td{P:Program}{b:Array Field}{a:List (DataW H×List MemPlace)}{n:Nat}{c:List Value}
 (o:∀(i:Nat)(f:Field),b[i]?=some f->DataW.trod enc P w base spare held n f.type ((c.drop f.offset).take (P.cellsOf f.type))=a[i]?) (p:a.length=b.size) (i:Nat) {f:Field} (k:b[i]?=some f) {e:List (DataW H)} (l:a.map (·.1)=e) {d:DataW H} (m:e[i]?=some d) :
 ∃y,DataW.trod enc P w base spare held n f.type ((c.drop f.offset).take (P.cellsOf f.type))=some y/\y.1=d:=by
 have g:=o i f k;have h:i<a.length:=by rw[p];exact(aS.1 k).1
 rw[aC h]at g;refine⟨_,g,?_⟩;have j:(a.map (·.1))[i]?=some d:=by rw[l];exact m
 rw[dX,aC h]at j;simpa using j
theorem dt{a:List Value}{k m j:Nat}{v:Value}(h:((a.drop k).take m)[j]?=some v)(b:j<m):a[k+j]?=some v:=zE h b
theorem D8{A:Nat}{c:List Value}{k:List (DataW H)}{B:List MemPlace}(u:DataW.trod enc Tryz.prog w base spare held A 175 c=some (.agg k,B))(i:Nat)(x:i<14)(s:List UInt8)(g f b m:Bool)
 (y:k[i]?=some (.agg [.lit (.string s),.lit (.bool g),.lit (.bool f),.lit (.bool b),.lit (.bool m)])) :
 c[i*5]?=some (.string (K8 s))/\c[i*5+1]?=some (.bool g)/\c[i*5+2]?=some (.bool f)/\c[i*5+3]?=some (.bool b)/\c[i*5+4]?=some (.bool m):=by
 let⟨l,D,_,j,_,C,v⟩:=mE Tryz.underlying175 u;have h:=v i x;rw[aC oM,BD]at h;simp only[jC,kC]at j;have a:(l[i]' oM).1=.agg [.lit (.string s),.lit (.bool g),.lit (.bool f),.lit (.bool b),.lit (.bool m)]:=by
  have:(l.map (·.1))[i]?=some (.agg [.lit (.string s),.lit (.bool g),.lit (.bool f),.lit (.bool b),.lit (.bool m)]):=by rw[<-j.1];exact y
  rw[dX,aC oM]at this;simpa using this
 let⟨L,E,_,z,_,e,d⟩:=DataW.trod_struct Tryz.underlying174 h;rw[z]at a;simp only[kC]at a;let⟨F,o,n⟩:=Td d e 0 rfl a rfl;let⟨G,p,e1⟩:=Td d e 1 rfl a rfl;let⟨I,q,e2⟩:=Td d e 2 rfl a rfl;let⟨J,r,e3⟩:=Td d e 3 rfl a rfl;let⟨K,t,e4⟩:=Td d e 4 rfl a rfl;exact⟨dt (j:=0) (tp (k:=0) o n) vZ,dt (Ta (k:=1) p e1) vZ,dt (Ta (k:=2) q e2) vZ,dt (Ta (k:=3) r e3) vZ,dt (Ta (k:=4) t e4) vZ⟩
theorem CK{y:Nat}{b:List Value}{h:List (DataW H)}{z:List MemPlace}(q:DataW.trod enc Tryz.prog w base spare held y 183 b=some (.agg h,z))(i:Nat)(u:i<4)(s:List UInt8)(c t o:Bool)
 (v:h[i]?=some (.agg [.lit (.string s),.lit (.bool c),.lit (.bool t),.lit (.bool o)])) :
 b[i*4]?=some (.string (K8 s))/\b[i*4+1]?=some (.bool c)/\b[i*4+2]?=some (.bool t)/\b[i*4+3]?=some (.bool o):=by
 let⟨j,B,_,g,_,A,r⟩:=mE Tryz.underlying183 q;have f:=r i u;rw[aC oM,zO]at f;simp only[jC,kC]at g;have a:(j[i]' oM).1=.agg [.lit (.string s),.lit (.bool c),.lit (.bool t),.lit (.bool o)]:=by
  have:(j.map (·.1))[i]?=some (.agg [.lit (.string s),.lit (.bool c),.lit (.bool t),.lit (.bool o)]):=by rw[<-g.1];exact v
  rw[dX,aC oM]at this;simpa using this
 let⟨I,C,_,x,_,e,d⟩:=DataW.trod_struct Tryz.underlying182 f;rw[x]at a;simp only[kC]at a;let⟨D,l,k⟩:=Td d e 0 rfl a rfl;let⟨E,m,e1⟩:=Td d e 1 rfl a rfl;let⟨F,n,e2⟩:=Td d e 2 rfl a rfl;let⟨G,p,e3⟩:=Td d e 3 rfl a rfl;exact⟨dt (j:=0) (tp (k:=0) l k) vZ,dt (Ta (k:=1) m e1) vZ,dt (Ta (k:=2) n e2) vZ,dt (Ta (k:=3) p e3) vZ⟩
theorem EF{n k:Nat}{a:List Value}{y:DataW H×List MemPlace}{b:Int}(h:DataW.trod enc Tryz.prog w base spare held n 5 ((a.drop k).take (Tryz.prog.cellsOf 5))=some y)(e:y.1=.lit (.int .u8 b)):a[k]?=some (.int .u8 b):=by
 rw[qN]at h;let⟨z,c,d,_⟩:=DataW.trod_int Tryz.underlying5 h;rw[d]at e;cases e;exact oI c
theorem DA{n:Nat}{a:List Value}{e:List (DataW H)}{p:List MemPlace}(h:DataW.trod enc Tryz.prog w base spare held n 225 a=some (.agg e,p))(i:Nat)(l:i<64)(k:Int)
 (m:e[i]?=some (.lit (.int .u8 k))):a[i]?=some (.int .u8 k):=by
 let⟨f,q,_,d,_,o,j⟩:=mE Tryz.underlying225 h;have b:=j i l;rw[aC oM]at b;simp only[jC,kC]at d;have g:(f[i]' oM).1=.lit (.int .u8 k):=by
  have:(f.map (·.1))[i]?=some (.lit (.int .u8 k)):=by rw[<-d.1];exact m
  rw[dX,aC oM]at this;simpa using this
 have c:=EF b g;rw[qN,iN]at c;exact c
def tL:List (DataW Unit):=match Rows.laid_math_bits_deBruijn64tab (H:=Unit)with
 |.agg l=>l
 |_=>[]
theorem DO:tL=Lib.deBruijn64tab.map λk:Nat=>(.lit (.int .u8 (k:Int)):DataW Unit):=rfl
theorem DW:Lib.deBruijn64tab.length=64:=vZ
theorem Do:∀j,j<64->tL[j]?=some (.lit (.int .u8 (Lib.deBruijn64tab.getD j 0:Nat))):=λj a=>by
 have h:j<Lib.deBruijn64tab.length:=by rw[DW];exact a
 rw[DO,dX,aC h,bF,aC h];rfl
theorem yA:Tryz.prog.cellsOf 5=1:=kR
theorem vO{n:Nat}{e:List Value}{f:DataW H×List MemPlace}(h:DataW.trod enc Tryz.prog w base spare held n 22 e=some f) :
 ∃(d:Option Addr)(a:List UInt8)(c:Nat),e=[.slice d a.length c]/\a.length<=maxLen/\Yx w 0 w.heap.size d a:=by
 let⟨d,a,c,i,j,k⟩:=yE (α:=UInt8) (s:=1) Tryz.underlying22 yA vZ (λb o x=>w.cell? ⟨b,o,none⟩=some (.int .u8 (x.toNat:Int))) (λb o u n f m v p=>by
  let⟨z,s,_,r⟩:=DataW.trod_int Tryz.underlying5 p;have y:0<=z/\z<256:=by
   simp[Lit.wf,IntKind.min,IntKind.max,IntKind.signed,IntKind.bits]at r;omega
  refine⟨UInt8.ofNat z.toNat,?_⟩;have:=m 0 vZ;rw[s]at this;have e2:((UInt8.ofNat z.toNat).toNat:Int)=z:=by
   rw[UInt8.toNat_ofNat'];omega
  rw[e2];simpa using this) h
 refine⟨d,a,c,i,j,λt q=>?_⟩;let⟨b,o,g,l,hq⟩:=k t q;exact⟨b,o,g,⟨aN _,l⟩,by simpa using hq⟩
theorem DV{W:World}(p:laidMetH Tryz.prog Rows.fnLowerShapeRow.laid W):Yy W/\Yb W/\Jn W:=by
 rw[MakeChecks.laidMetH_plain _ _ _ kR]at p;let⟨U,⟨Q,Z,A,f2,T,q2,u,J,M,F,⟨O,X,y,N,R,V,q,G,K,D,⟨P,Y,z,f1,S,q1,r,I,L,E,_,_⟩,_⟩,_⟩,_,_⟩:=p;obtain rfl:=gQ<|gTz.symm.trans u;obtain rfl:=gQ<|NO.symm.trans J;have c2:∀j v,A.toList[j]?=some v->W.cell? (Hk 2 j)=some v:=λj v c=>by
  have:=mS u M j;rw[this];simpa using c
 obtain rfl:=gQ<|gOps.symm.trans q;obtain rfl:=gQ<|gTers.symm.trans r;obtain rfl:=gQ<|E3.symm.trans G;obtain rfl:=gQ<|EB.symm.trans I;have c0:∀j v,y.toList[j]?=some v->W.cell? (Hk 0 j)=some v:=λj v c=>by
  have:=mS q K j;rw[this];simpa using c
 have c1:∀j v,z.toList[j]?=some v->W.cell? (Hk 1 j)=some v:=λj v c=>by
  have:=mS r L j;rw[this];simpa using c
 refine⟨?_,?_,λj x=>c2 _ _<|DA F j x _ (Do j x)⟩
 .have row:∀i s e a b m,i<14->((match Rows.laid_loop_example_s0031_impl_opForms (H:=Unit)with|.agg l=>l|_=>[]):List (DataW Unit))[i]?=some (.agg [.lit (.string s),.lit (.bool e),.lit (.bool a),.lit (.bool b),.lit (.bool m)]) ->
   W.cell? (Hk 0<|i*5)=some (.string (K8 s))/\W.cell? (Hk 0<|i*5+1)=some (.bool e)/\W.cell? (Hk 0<|i*5+2)=some (.bool a)/\W.cell? (Hk 0<|i*5+3)=some (.bool b)/\W.cell? (Hk 0<|i*5+4)=some (.bool m):=λi s e a b m g n=>by
   let⟨f,e1,e2,e3,e4⟩:=D8 D i g s e a b m n;exact⟨c0 _ _ f,c0 _ _ e1,c0 _ _ e2,c0 _ _ e3,c0 _ _ e4⟩
  have d:=row 1 _ _ _ _ _ vZ rfl;refine⟨Jh d.1,λk B C=>?_⟩;have h:k=1\/k=2\/k=3\/k=4\/k=5\/k=6\/k=7\/k=8\/k=9\/k=10\/k=11\/k=12\/k=13:=oM;rcases h with rfl|rfl|rfl|rfl|rfl|rfl|rfl|rfl|rfl|rfl|rfl|rfl|rfl;·exact d
  .exact row 2 _ _ _ _ _ vZ rfl
  .exact row 3 _ _ _ _ _ vZ rfl
  .exact row 4 _ _ _ _ _ vZ rfl
  .exact row 5 _ _ _ _ _ vZ rfl
  .exact row 6 _ _ _ _ _ vZ rfl
  .exact row 7 _ _ _ _ _ vZ rfl
  .exact row 8 _ _ _ _ _ vZ rfl
  .exact row 9 _ _ _ _ _ vZ rfl
  .exact row 10 _ _ _ _ _ vZ rfl
  .exact row 11 _ _ _ _ _ vZ rfl
  .exact row 12 _ _ _ _ _ vZ rfl
  exact row 13 _ _ _ _ _ vZ rfl
 have row:∀i s a t o,i<4->((match Rows.laid_loop_example_s0031_impl_termForms (H:=Unit)with|.agg l=>l|_=>[]):List (DataW Unit))[i]?=some (.agg [.lit (.string s),.lit (.bool a),.lit (.bool t),.lit (.bool o)]) ->
  W.cell? (Hk 1<|i*4)=some (.string (K8 s))/\W.cell? (Hk 1<|i*4+1)=some (.bool a)/\W.cell? (Hk 1<|i*4+2)=some (.bool t)/\W.cell? (Hk 1<|i*4+3)=some (.bool o):=λi s a t o g n=>by
  let⟨f,e1,e2,e3⟩:=CK E i g s a t o n;exact⟨c1 _ _ f,c1 _ _ e1,c1 _ _ e2,c1 _ _ e3⟩
 have d:=row 1 _ _ _ _ vZ rfl;refine⟨Jh d.1,λk B C=>?_⟩;have h:k=1\/k=2\/k=3:=oM;rcases h with rfl|rfl|rfl;·exact d
 .exact row 2 _ _ _ _ vZ rfl
 exact row 3 _ _ _ _ vZ rfl
theorem AE(H:Type)(enc:TypeId×Value->H)(W:World)(base:Nat)(args:Array Value)(i d:List (DataW H))(z:List MemPlace)
 (r:∀(s:Nat) t v,Tryz.f3.params[s]?=some t->args[s]?=some v->Value.okWide Tryz.prog W .any base t v)
 (n:DataW.Whole enc Tryz.prog Tryz.f3.params.toList Rows.fnLowerShapeSpec.vars false W args.toList i d z) (C:laidMetH Tryz.prog Rows.fnLowerShapeRow.laid W) :
 Calls Tryz.prog 3 args W λj g=>∃v,j=.returned v/\Rows.fnLowerShapeSpec.post enc Tryz.prog Tryz.f3 false true false false W args v g:=by
 have o:=n;obtain⟨M,O,m,a,rfl,Z,aa⟩:=n;have l:DataW.TrodAll enc Tryz.prog W 0 (λ_=>true) true Tryz.f3.params.toList args.toList i M:=m;rw[Tryz.params3]at l r;obtain⟨x,ab,V,X,N,q0,Y,rfl,rfl,k,S⟩:=trodAll_cons l;obtain⟨rfl,rfl,rfl⟩:=trodAll_nil S;obtain rfl:args=#[x]:=by cases args;simp_all
 have B:=k;obtain⟨h,L,u,rfl⟩:=okWide_slice Tryz.underlying22<|r 0 22 x rfl rfl;let⟨f1,T⟩:=k;let⟨y,f,m1,e1,q,G⟩:=vO T;have q1:Value.slice h L u=.slice y f.length m1:=by simpa [Value.cells]using e1
 injection q1 with P Q R;subst P Q R;let⟨D,E,p⟩:=DV C;have J:maxLen=9223372036854775807:=by unfold maxLen;decide
 rw[J]at q;refine(FR h f.length u f W G rfl q D E p<|Jh (p 0 vZ)).mono λj g ⟨F,e⟩=>?_
 subst F;obtain⟨b,c,rfl⟩:∃b c,d=[b,c]:=by
  match d,a with
  |[b,c],_=>exact⟨b,c,rfl⟩
  |[],a=>exact a.elim
  |[_],a=>let⟨_,_,_,_,_,_,_,_,_,_,a,_⟩:=a;exact a.elim
  |_::_::_::_,a=>let⟨_,_,_,_,_,_,_,_,_,_,⟨_,_,_,_,_,_,_,_,_,_,a,_⟩,_⟩:=a;exact a.elim
 have I:=o.lt;refine⟨_,rfl,_,_,_,[],N++[],O,o,mT (shut_bool Tryz.underlying4 _) trodAll_mk0,?_,?_,e.frame _,λA=>by cases A⟩;·exact mT (Below.trod kR kR (fV kR) B e λU K=>I U<|dD _ (dD _ K)) trodAll_mk0
 exact Below.trodVars kR e kR a
theorem Bb(a:Os):laidMet Tryz.prog Rows.fnLowerShapeRow.laid ((World.doorLaid Tryz.prog 64 a).forCall (λ_ _=>0) ⟨#[],#[.slice none 0 0],[]⟩).memory :=
 laidMet_of_run' 8 kR kR
theorem Ez(b:Os){H:Type}(enc:TypeId×Value->H):∃a c,DataW.whole enc Tryz.prog ((World.doorLaid Tryz.prog 64 b).forCall (λ_ _=>0) ⟨#[],#[.slice none 0 0],[]⟩).memory Tryz.f3.params.toList Rows.fnLowerShapeSpec.vars false #[Value.slice none 0 0].toList 8=some ([.nil],a,c) :=
 ⟨[Rows.laid_loop_example_s0031_impl_termForms,Rows.laid_loop_example_s0031_impl_opForms],[]++(MemPlace.row (Hk 1 0) 16++[]++(MemPlace.row (Hk 0 0) 70++[]++[])),kR⟩
theorem DS(a:Os)(j:a.Started)(H:Type)(enc:TypeId×Value->H)(F:Stop.Interp) :
 ReturnsInHanded {} Tryz.checked a 3 .any ((OpenSpec.ofChange Rows.fnLowerShapeSpec).preRow enc Tryz.prog Tryz.f3 Rows.fnLowerShapeRow.domain false Rows.fnLowerShapeRow.laid) (((OpenSpec.ofChange Rows.fnLowerShapeSpec).at F).post enc Tryz.prog Tryz.f3 false true false false):=by
 let⟨b,l,i⟩:=Ez a enc;refine returnsInHanded_of_row (C:=Tryz.checked) (s:=OpenSpec.ofChange Rows.fnLowerShapeSpec) own j kR Tryz.func3
  (witness_row_at (enc:=enc) (C:=Tryz.checked) false (World.doorLaid Tryz.prog 64 a) #[Hq] rfl kR kR kR
   (OpenSpec.preRow_of_cond 8 i kR (λk g=>by cases g) kR (Bb a))) ?_
 intro W base args d b c h f _ _ _ e _ _;exact AE H enc W base args d b c h f e
theorem Fd:Rows.FnLowerShapeSaid :=
 OpenClaim.holds_of_cond 3 Tryz.f3 rfl rfl rfl rfl rfl rfl rfl ⟨rfl,rfl,rfl,rfl,rfl⟩ rfl rfl rfl rfl rfl kR Tryz.func3 kR
  (fV kR) (by unfold Func.isWrapper;first|(rw[aU<|by decide +kernel];kernel_rfl)|(rw[aM<|by decide +kernel];exact⟨rfl,rfl⟩))
  (λa b H enc _ F=>by rw[OpenClaim.pre_eq_preRow];exact DS a b H enc F)
theorem plain (f : FuncId) (fn : Func) (hf : Tryz.pinned.checked.prog.funcNamed "loop.example/s0031/laws.FnLowerShape" = some f) (hfn : Tryz.pinned.checked.prog.funcs[f]? = some fn) :
 false=Tryz.pinned.checked.prog.looks []/\∀(j:Nat) t,fn.params[j]?=some t->Tryz.pinned.checked.prog.wantsStandIn t=false:=by
 obtain rfl : f = 3 := Option.some.inj ((show Tryz.prog.funcNamed "loop.example/s0031/laws.FnLowerShape" = some 3 by kernel_rfl).symm.trans hf) |>.symm;obtain rfl:fn=Tryz.f3:=(gQ<|Tryz.func3.symm.trans hfn).symm;refine⟨kR,λj t ht=>?_⟩;rw[Tryz.params3]at ht;obtain rfl:t=22:=by simpa using Array.mem_of_getElem? ht
 exact(show Tryz.prog.wantsStandIn 22=false by kernel_rfl)
theorem fnLowerShape_card:Rows.FnLowerShapeCardSaid :=
 Claim7.holds_tied_plain_at .later [] _ _ _ _ Fd (λ_ h=>by cases h) kR (λ_ h=>by cases h) fnLowerShape_row_tie rfl ⟨rfl,rfl⟩ kR rfl plain kR
#print axioms fnLowerShape_card
end
end Go.Proofs.YtffcajcgkblkoaaGreatDoor
