import Derived.Test.YtghnlncgiihhgaaGreatDoorDR3
import Derived.Test.YtghnlncgiihhgaaGreatDoorTN1
namespace Go.Proofs.YtghnlncgiihhgaaGreatDoor
set_option maxHeartbeats 8000000
set_option maxRecDepth 100000
open Go.RowKit Go.Proofs.Tryz
variable{t:Int}{x:List Xe}{n m k B g i:Nat}{Z:Nat->Nat × Nat × Nat}{h H:Nat->Value}{p:Option Addr}{w v u:World}
def cA:Code->Code
 | .seq a _=>a
 | .block _ c=>c
 | .loop c=>c
 | c=>c
def cB:Code->Code
 | .seq _ b=>b
 | c=>c
noncomputable def Co:Code:=(f32.body.getD .skip)
noncomputable def rE:Code:=cB (cB (cB (cB (cB Co))))
noncomputable def rp:Code:=cB (cB (cB (cB (cB (cB (cB (cB rE)))))))
noncomputable def rd:Code:=cB rp
noncomputable def BM:Code:=cB rd
theorem tw(f:Nat->Value):(List.range' 10 169).map f=(f 10::f 11::f 12::f 13::f 14::f 15::f 16::f 17::f 18::f 19::f 20::f 21::f 22::f 23::f 24::f 25::f 26::f 27::f 28::f 29::f 30::f 31::f 32::f 33::f 34::f 35::f 36::f 37::f 38::f 39::f 40::f 41::f 42::f 43::f 44::f 45::f 46::f 47::f 48::f 49::f 50::f 51::f 52::f 53::f 54::f 55::f 56::f 57::f 58::f 59::f 60::f 61::f 62::f 63::f 64::f 65::f 66::f 67::f 68::f 69::f 70::f 71::f 72::f 73::f 74::f 75::f 76::f 77::f 78::f 79::f 80::f 81::f 82::f 83::f 84::f 85::f 86::f 87::f 88::f 89::f 90::f 91::f 92::f 93::f 94::f 95::f 96::f 97::f 98::f 99::f 100::f 101::f 102::f 103::f 104::f 105::f 106::f 107::f 108::f 109::f 110::f 111::f 112::f 113::f 114::f 115::f 116::f 117::f 118::f 119::f 120::f 121::f 122::f 123::f 124::f 125::f 126::f 127::f 128::f 129::f 130::f 131::f 132::f 133::f 134::f 135::f 136::f 137::f 138::f 139::f 140::f 141::f 142::f 143::f 144::f 145::f 146::f 147::f 148::f 149::f 150::f 151::f 152::f 153::f 154::f 155::f 156::f 157::f 158::f 159::f 160::f 161::f 162::f 163::f 164::f 165::f 166::f 167::f 168::f 169::f 170::f 171::f 172::f 173::f 174::f 175::f 176::f 177::f 178::[]):=rfl
theorem JR(a:List Value)(h:a.length=169):∃f:Nat->Value,a=(f 10::f 11::f 12::f 13::f 14::f 15::f 16::f 17::f 18::f 19::f 20::f 21::f 22::f 23::f 24::f 25::f 26::f 27::f 28::f 29::f 30::f 31::f 32::f 33::f 34::f 35::f 36::f 37::f 38::f 39::f 40::f 41::f 42::f 43::f 44::f 45::f 46::f 47::f 48::f 49::f 50::f 51::f 52::f 53::f 54::f 55::f 56::f 57::f 58::f 59::f 60::f 61::f 62::f 63::f 64::f 65::f 66::f 67::f 68::f 69::f 70::f 71::f 72::f 73::f 74::f 75::f 76::f 77::f 78::f 79::f 80::f 81::f 82::f 83::f 84::f 85::f 86::f 87::f 88::f 89::f 90::f 91::f 92::f 93::f 94::f 95::f 96::f 97::f 98::f 99::f 100::f 101::f 102::f 103::f 104::f 105::f 106::f 107::f 108::f 109::f 110::f 111::f 112::f 113::f 114::f 115::f 116::f 117::f 118::f 119::f 120::f 121::f 122::f 123::f 124::f 125::f 126::f 127::f 128::f 129::f 130::f 131::f 132::f 133::f 134::f 135::f 136::f 137::f 138::f 139::f 140::f 141::f 142::f 143::f 144::f 145::f 146::f 147::f 148::f 149::f 150::f 151::f 152::f 153::f 154::f 155::f 156::f 157::f 158::f 159::f 160::f 161::f 162::f 163::f 164::f 165::f 166::f 167::f 168::f 169::f 170::f 171::f 172::f 173::f 174::f 175::f 176::f 177::f 178::[]):=by
 have e:=Ku Value undef a 10 (fun i=>a.getD (i-10) undef) (fun i b=>by simp[b]);rw[h]at e;exact⟨fun i=>a.getD (i-10) undef,e.trans (tw _)⟩
theorem rf(V G n f:Nat)(o:List Xe)(z:Nat)(W D:Nat->Value)(av:Nat->Nat->Value)(u E:Nat)(w:World)(F:Fn)(b e:Nat)(h:Option Addr)(j i:Nat)(l:Option Addr)(k m:Nat)(U:Nat->Nat × Nat × Nat)(Z:Sr)(g:Int)(c:Xe)(J:Nat->Value)(c3 K:Value)(v:List Value)(B:v.length=169)(d:World)(C:Hid (n=o.length))(A:b<o.length)(y:Hid (D b=.slice h j i))(I:Hid (F=⟨g,o.set b c⟩))(c5:Value)(a:Hid (Z4 w d U z u E Z g G n f o W D av b e (.slice l k m) c J)) :
 Code.wp prog BM (bodyPost prog f32 fun L w'=>SpE F w z u L w') ⟨(.agg #[.int .i64 (V:Int),.slice (some ⟨G,0,none⟩) n f]::.pointer (some ⟨u,0,none⟩)::.pointer (some ⟨w.heap.size,0,none⟩)::c3::.pointer (some ⟨w.heap.size+1,0,none⟩)::c5::.int .i64 ((b:Nat):Int)::.int .i64 ((n:Nat):Int)::.pointer (some ⟨e,0,none⟩)::K::v).toArray,[]⟩ d:=by
 obtain⟨aa,rfl⟩:=JR v B;clear B
 conv=>arg 2;whnf
 have ab:b<n:=oN C.out
 have M:Cl d w.heap.size 1 (.slice (some ⟨G,0,none⟩) n f):=Bx.cell a.box rfl;have c0:Cl d e 0 (.slice l k m):=Bx.cell a.xbx rfl;have c1:d.cell? ⟨e,1,none⟩=some (.slice h j i):=by rw[<-y.out];exact Bx.cell a.xbx rfl
 have c2:Cl d e 2 (.int .i64 c.te.kind):=Bx.cell a.xbx rfl;have c3:Cl d e 3 (.int .i64 c.te.a):=Bx.cell a.xbx rfl;have c4:Cl d e 4 (.int .i64 c.te.to):=Bx.cell a.xbx rfl;have c5:Cl d e 5 (.int .i64 c.te.els):=Bx.cell a.xbx rfl;obtain⟨⟨v0,N⟩,⟨v1,O⟩,⟨v2,P⟩,⟨v3,Q⟩,⟨v4,R⟩,⟨v5,S⟩,T⟩:=a.gcells A;have ac:=a.gxb;have q:=fun u0 u1=>a.done (u0:=u0) (u1:=u1) A
 rw[y.out]at q;have H:=Xa q;have p:Hid (Bx ((((((d.setCell ⟨G,b*6,none⟩ (.slice l k m)).setCell ⟨G,b*6+1,none⟩ (.slice h j i)).setCell ⟨G,b*6+2,none⟩ (.int .i64 c.te.kind)).setCell ⟨G,b*6+3,none⟩ (.int .i64 c.te.a)).setCell ⟨G,b*6+4,none⟩ (.int .i64 c.te.to)).setCell ⟨G,b*6+5,none⟩ (.int .i64 c.te.els)) w.heap.size #[.int .i64 g,.slice (some ⟨G,0,none⟩) n f] 25/\Bx ((((((d.setCell ⟨G,b*6,none⟩ (.slice l k m)).setCell ⟨G,b*6+1,none⟩ (.slice h j i)).setCell ⟨G,b*6+2,none⟩ (.int .i64 c.te.kind)).setCell ⟨G,b*6+3,none⟩ (.int .i64 c.te.a)).setCell ⟨G,b*6+4,none⟩ (.int .i64 c.te.to)).setCell ⟨G,b*6+5,none⟩ (.int .i64 c.te.els)) (w.heap.size+1) #[.int .i64 0,.slice none 0 0] 25):=Xa ⟨(((((a.box.other a.gbox).other a.gbox).other a.gbox).other a.gbox).other a.gbox).other a.gbox,(((((a.res.other a.gres).other a.gres).other a.gres).other a.gres).other a.gres).other a.gres⟩;clear q
 go_upto_region 42 with fail
 have s:=fun r x hq=>Bx.cell (q:=r) (u:=x) p.1 hq
 have f0:=s 0 (.int .i64 g) rfl;have f1:=s 1 (.slice (some ⟨G,0,none⟩) n f) rfl;have t:=fun r x hq=>Bx.cell (q:=r) (u:=x) p.2 hq
 have X:=t 0 (.int .i64 0) rfl;have Y:=t 1 (.slice none 0 0) rfl;have rz:=Bx.thaw p.2;clear M s t N O P Q R S T c0 c1 c2 c3 c4 c5;generalize (((((d.setCell _ _).setCell _ _).setCell _ _).setCell _ _).setCell _ _).setCell _ _=w6 at *;go_wp2;rw[I.out];exact cC (v:=.agg #[.int .i64 g,.slice (some ⟨G,0,none⟩) n f]) (by simp[results,results32,go_sem,X,Y]) rfl ⟨_,n,f,rfl,by rw[bL];exact C,H _ _⟩
theorem f6(V G n i:Nat)(e:List Xe)(h:Nat)(v j:Nat->Value)(av:Nat->Nat->Value)(d B:Nat)(w:World)(F:Fn)(b f:Nat)(p:Option Addr)(a q:Nat)(t:Option Addr)(s u:Nat)(r:Nat->Nat × Nat × Nat)(H:Sr)(k:Int)(m:Xe)(o:Nat->Value)(c3 M:Value)(y:List Value)(E:y.length=169)(l:World)(O:Hid (n=e.length))(N:b<e.length)(z:Hid (j b=.slice p a q))(I:Hid (F=⟨k,e.set b m⟩))(c:Int)(aa:a<=1000)(hr:c<11)(g:Hid (Z4 w l r h d B H k G n i e v j av b f (.slice t s u) m o)) :
 Code.wp prog rd (bodyPost prog f32 fun A Q=>SpE F w h d A Q) ⟨(.agg #[.int .i64 (V:Int),.slice (some ⟨G,0,none⟩) n i]::.pointer (some ⟨d,0,none⟩)::.pointer (some ⟨w.heap.size,0,none⟩)::c3::.pointer (some ⟨w.heap.size+1,0,none⟩)::.int .i64 c::.int .i64 ((b:Nat):Int)::.int .i64 ((n:Nat):Int)::.pointer (some ⟨f,0,none⟩)::M::y).toArray,[]⟩ l:=by
 obtain⟨Y,rfl⟩:=JR y E;clear E
 conv=>arg 2;whnf
 have S:(c==11)=false:=by simp;omega
 have T:(c==12)=false:=by simp;omega
 have U:(c==13)=false:=by simp;omega
 have W:(c==14)=false:=by simp;omega
 have X:(c==15)=false:=by simp;omega
 have z1:l.cell? ⟨f,1,none⟩=some (.slice p a q):=by rw[<-z.out];exact Bx.cell g.xbx rfl
 go_upto_if 121 with fail
 go_cut [] from 10 to 180 (fun R=>∃x,Hid (Z4 w R r h d B x k G n i e v j av b f (.slice t s u) m o))
 case first =>
  by_cases Z:0<a
  ·have P:(0:Int)<a:=oM
   go_wp2_with fail
   refine(XC d B H (a:Int) l (Xa g.dr) oM oM).mono ?_;rintro A w5 ⟨rfl,C,D⟩;have J:=Xa (g.call D C);clear C D
   go_wp2
   go_meet;exact⟨_,J⟩
  ·have P:¬(0:Int)<a:=oM
   go_wp2
   go_meet;exact⟨_,g⟩
 case rest =>
  obtain⟨x,K⟩:=hcut;rename_i L;exact L _ _ (rf V G n i e h v j av d B w F b f p a q t s u r x k m o _ _ _ rfl wc O N z I _ K)
theorem cg(V G n i:Nat)(e:List Xe)(h:Nat)(z k:Nat->Value)(av:Nat->Nat->Value)(f B:Nat)(w:World)(F:Fn)(b g:Nat)(v:Option Addr)(l x:Nat)(m:Option Addr)(a o:Nat)(y:Nat->Nat × Nat × Nat)(A:Sr)(q:Int)(r:Xe)(t:Nat->Value)(c3 H:Value)(p:List Value)(u:p.length=169)(d:World)(J:Hid (n=e.length))(I:b<e.length)(C:Hid (k b=.slice v l x))(D:Hid (F=⟨q,e.set b r⟩))(c:Int)(K:l<=1000)(T:c<8)(s:Hid (Z4 w d y h f B A q G n i e z k av b g (.slice m a o) r t)) :
 Code.wp prog rp (bodyPost prog f32 fun j M=>SpE F w h f j M) ⟨(.agg #[.int .i64 (V:Int),.slice (some ⟨G,0,none⟩) n i]::.pointer (some ⟨f,0,none⟩)::.pointer (some ⟨w.heap.size,0,none⟩)::c3::.pointer (some ⟨w.heap.size+1,0,none⟩)::.int .i64 c::.int .i64 ((b:Nat):Int)::.int .i64 ((n:Nat):Int)::.pointer (some ⟨g,0,none⟩)::H::p).toArray,[]⟩ d:=by
 obtain⟨R,rfl⟩:=JR p u;clear u
 conv=>arg 2;whnf
 have P:(c==8)=false:=by simp;omega
 have Q:(c==9)=false:=by simp;omega
 have O:(c==10)=false:=by simp;omega
 have U:Cl d g 0 (.slice m a o):=Bx.cell s.xbx rfl
 go_upto_if 79 with fail
 go_cut [] from 10 to 180 (fun N=>Hid (SmW N d))
 case first =>
  by_cases S:0<a
  ·have L:(0:Int)<a:=oM
   go_wp2
   go_meet;exact Xa rfl
  ·have L:¬(0:Int)<a:=oM
   go_wp2
   go_meet;exact Xa rfl
 case rest =>
  have j:wc=d:=hcut.out;subst j;rename_i E;exact E _ _ (f6 V G n i e h z k av f B w F b g v l x m a o y A q r t _ _ _ rfl wc J I C D c K oM s)
structure SpX(rk:Int)(V G n c:Nat)(xs:List Xe)(lab:Nat->Nat × Nat × Nat)(base:Nat)(pv iv:Nat->Value)(av:Nat->Nat->Value)(sb B:Nat)(s s2:Sr)(w wx:World)(b xb:Nat)(hb:b<xs.length)(pa:Option Addr)(np pc:Nat)(ia:Option Addr)(ni ic:Nat):Prop where
 hn:Hid (n=xs.length)
 h1:1<=n
 hn2:n<=11
 hbs:base<=w.heap.size
 hbb:B<=base
 hV:V<=1000
 HSMB:Hid (xs[b].ps.length<=1000/\(∀p∈xs[b].ps,p.args.length<=1000)/\xs[b].is.length<=1000)
 HAG:Hid (∀p∈xs[b].ps,0<p.args.length)
 hbn:b<n
 HNP:Hid (np=xs[b].ps.length)
 HNI:Hid (ni=xs[b].is.length)
 hni2:ni<=1000
 hnp2:np<=1000
 HSX:Hid (Z4 w wx lab base sb B s2 (V:Int) G n c xs pv iv av b xb (.slice pa np pc) xs[b] (av b))
 HRW:Hid (∀j (hj:j<xs[b].ps.length),Xv wx lab (4,b,j) base 2 1 (av b j) xs[b].ps[j].args.length (Xt xs[b].ps[j].args))
 HIV:Hid (iv b=.slice ia ni ic)
 HP:Hid (XN V xs s=if rk=7 then ⟨V,[]⟩else ⟨if rk=0 then (V:Int)+(nextP s2 2).1*2-1 else V,xs.set b (Za rk V n s2 xs[b])⟩)
theorem SpX.qs(V G n m:Nat)(d:List Xe)(v:Nat->Nat × Nat × Nat)(p:Nat)(x s:Nat->Value)(av:Nat->Nat->Value)(o B:Nat)(y s2:Sr)(w a:World)(b c:Nat)(r:b<d.length)(k:Option Addr)(j l:Nat)(f:Option Addr)(i g:Nat)(X:SpX t V G n m d v p x s av o B y s2 w a b c r k j l f i g):a.cell? ⟨c,0,none⟩=some (.slice k j l)/\a.cell? ⟨c,1,none⟩=some (.slice f i g)/\a.cell? ⟨c,2,none⟩=some (.int .i64 d[b].te.kind)/\a.cell? ⟨c,3,none⟩=some (.int .i64 d[b].te.a)/\a.cell? ⟨c,4,none⟩=some (.int .i64 d[b].te.to)/\a.cell? ⟨c,5,none⟩=some (.int .i64 d[b].te.els)/\(∀q,a.frozen? ⟨c,q,none⟩=false)/\a.cell? ⟨w.heap.size,0,none⟩=some (.int .i64 (V:Int))/\a.cell? ⟨w.heap.size,1,none⟩=some (.slice (some ⟨G,0,none⟩) n m)/\(∀q,a.frozen? ⟨w.heap.size,q,none⟩=false)/\Hid (o≠c) :=
 have e:=X.HSX.out;have h:∀q u,#[.slice k j l,.slice f i g,.int .i64 d[b].te.kind,.int .i64 d[b].te.a,.int .i64 d[b].te.to,.int .i64 d[b].te.els][q]?=some u->a.cell? ⟨c,q,none⟩=some u:=fun q u hq=>Bx.cell e.xbx (by rw[X.HIV.out];exact hq)
 ⟨h 0 _ rfl,h 1 _ rfl,h 2 _ rfl,h 3 _ rfl,h 4 _ rfl,h 5 _ rfl,Bx.thaw e.xbx,Bx.cell e.box rfl,Bx.cell e.box rfl,Bx.thaw e.box,Xa (oR e.lt e.xlt e.bs)⟩
def SpK(f:Int):Prop:=∀(V G n e:Nat)(c:List Xe)(q:Nat->Nat × Nat × Nat)(d:Nat)(x p:Nat->Value)(av:Nat->Nat->Value)(a B:Nat)(s s2:Sr)(w h:World)(b i:Nat)(l:b<c.length)(u:Option Addr)(t v:Nat)(m:Option Addr)(r o:Nat)(c3 j:Value)(g:List Value)(_:g.length=169)(_:SpX f V G n e c q d x p av a B s s2 w h b i l u t v m r o),Code.wp prog rE (bodyPost prog f32 fun k y=>SpE (XN V c s) w d a k y) ⟨(.agg #[.int .i64 (V:Int),.slice (some ⟨G,0,none⟩) n e]::.pointer (some ⟨a,0,none⟩)::.pointer (some ⟨w.heap.size,0,none⟩)::c3::.pointer (some ⟨w.heap.size+1,0,none⟩)::.int .i64 f::.int .i64 ((b:Nat):Int)::.int .i64 ((n:Nat):Int)::.pointer (some ⟨i,0,none⟩)::j::g).toArray,[]⟩ h
theorem xJ(V G n e:Nat)(a:List Xe)(h:Nat->Nat × Nat × Nat)(f:Nat)(N M:Nat->Value)(av:Nat->Nat->Value)(l B:Nat)(s:Sr)(w:World)(hF:Hid (ZU w h f (.slice (some ⟨G,0,none⟩) n e) a N M av))(J:Hid (n=a.length))(h1:1<=n)(aq:n<=11)(S:f<=w.heap.size)(al:Hid (∀b,w.heap.size<=b->h b=(0,0,0)))(T:Hid (ZQ w l B s))(R:B<=f)(hV:V<=1000)(ay:Hid (Kg a))(af:Hid (PhA a))(hK:Hid (SpK (nextP s 16).1)) :
 Calls prog 32 #[.agg #[.int .i64 (V:Int),.slice (some ⟨G,0,none⟩) n e],.pointer (some ⟨l,0,none⟩)] w fun q w'=>SpE (XN V a s) w f l q w':=by
 have g:Hid (XN V a s=if (nextP s 16).1=7 then ⟨V,[]⟩else ⟨if (nextP s 16).1=0 then (V:Int)+(nextP (nextP (nextP s 16).2 (n:Int)).2 2).1*2-1 else V,a.set (nextP (nextP s 16).2 (n:Int)).1.toNat (Za (nextP s 16).1 V n (nextP (nextP s 16).2 (n:Int)).2 (a.getD (nextP (nextP s 16).2 (n:Int)).1.toNat XV))⟩):=Xa (by rw[J.out];rfl);have E:Hid (LsS w ((w.alloc (.cells #[.int .i64 (V:Int),.slice (some ⟨G,0,none⟩) n e] 25)).alloc (.cells #[.int .i64 0,.slice none 0 0] 25)) h f l B s V G n e a N M av):=Xa (by
  have X:XW w ((w.alloc (.cells #[.int .i64 (V:Int),.slice (some ⟨G,0,none⟩) n e] 25)).alloc (.cells #[.int .i64 0,.slice none 0 0] 25)) h h f (fun _=>True):=((XW.box _).trans (XW.box _)).weak (fun _ _=>⟨trivial,trivial⟩);refine⟨hF.sp X 0 (fun _ _ _ _ _=>trivial) (bC (fun _ _=>trivial)),(T.box _).box _,R,rfl,rfl,rfl,X.size,fun b c _=>(Below.heap_alloc _ _ _ (by simp;omega)).trans (Below.heap_alloc _ _ _ oM),al,S,(Bx.new _ _ _).box _,?_⟩;have:=Bx.new (w.alloc (.cells #[.int .i64 (V:Int),.slice (some ⟨G,0,none⟩) n e] 25)) #[.int .i64 0,.slice none 0 0] 25;rwa[aO]at this)
 clear hF T
 go_in
 go_wp2_with fail
 generalize (w.alloc _).alloc _=w0 at *;refine(XC l B s 16 w0 (Xa E.dr) oM oM).mono ?_;rintro q Y ⟨rfl,t,u⟩;have I:=fun r=>XE s (n:=16) r
 have m:=Xa (E.call u t);obtain⟨rk,s1,o⟩:∃O P,nextP s 16=(O,P):=⟨_,_,rfl⟩;rw[o]at m g I |-;dsimp only at m g I |-;rw[o]at hK;dsimp only at hK;clear t u o E I;have Z:Cl Y w.heap.size 1 (.slice (some ⟨G,0,none⟩) n e):=Bx.cell m.box rfl
 go_wp2_with fail
 refine(XC l B s1 (n:Int) Y (Xa m.dr) oM oM).mono ?_;rintro q p ⟨rfl,t,u⟩;have y:=fun r=>XE s1 (n:=(n:Int)) r
 have d:=Xa (m.call u t);obtain⟨rb,s2,o⟩:∃O P,nextP s1 (n:Int)=(O,P):=⟨_,_,rfl⟩;rw[o]at d g y |-;dsimp only at d g y |-;have ap:=y oM;obtain⟨b,rfl⟩:=Zv ap.1;rw[dM]at g;clear t u o m Z y;have c:b<a.length:=oN J.out
 have aj:b<n:=oM;have W:a.getD b XV=a[b]:=by simp[c]
 rw[W]at g;clear W;have F:=Xa (ay.out _ (aH c));have aa:=Xa (af.out _ (aH c));have Z:Cl p w.heap.size 1 (.slice (some ⟨G,0,none⟩) n e):=Bx.cell d.box rfl;obtain⟨p0,p1,⟨t0,t1,t2,t3⟩⟩:=d.fn.cells c;obtain⟨C,D,x⟩:=(d.fn.ps b c).form;obtain⟨k,L⟩:∃k,k=a[b].ps.length:=⟨_,rfl⟩;rw[<-L]at x;obtain⟨z,A,v⟩:=(d.fn.ins b c).form;obtain⟨i,K⟩:∃i,i=a[b].is.length:=⟨_,rfl⟩;rw[<-K]at v;rw[x]at p0;rw[v]at p1;have ad:=Xa L;have ac:=Xa K;have ar:i<=1000:=oN F.out
 have ax:k<=1000:=oN F.out
 clear L K;have H:=Xa (d.hand c);rw[x,v]at H;have Q:Hid (∀j (U:j<a[b].ps.length),Xv (p.alloc (.cells #[.slice C k D,.slice z i A,.int .i64 a[b].te.kind,.int .i64 a[b].te.a,.int .i64 a[b].te.to,.int .i64 a[b].te.els] 90)) h (4,b,j) f 2 1 (av b j) a[b].ps[j].args.length (Xt a[b].ps[j].args)):=Xa (fun j U=>(d.fn.args b c j U).sp (XW.box _) (fun _ _=>trivial));have a1:Hid (w.heap.size+2<=p.heap.size):=Xa d.res.lt;have a0:=Xa x;have ab:=Xa v;clear x v
 go_upto_region 4 with fail
 go_cut [8] from 10 to 180 (fun az wy=>az=.pointer (some ⟨p.heap.size,0,none⟩)/\Hid (SmW wy (p.alloc (.cells #[.slice C k D,.slice z i A,.int .i64 a[b].te.kind,.int .i64 a[b].te.a,.int .i64 a[b].te.to,.int .i64 a[b].te.els] 90))))
 case first =>
  go_wp2
  go_meet;exact⟨rfl,Xa rfl⟩
 case rest =>
  obtain⟨rfl,r⟩:=hcut;have q:wc=(p.alloc (.cells #[.slice C k D,.slice z i A,.int .i64 a[b].te.kind,.int .i64 a[b].te.a,.int .i64 a[b].te.to,.int .i64 a[b].te.els] 90)):=r.out;rw[<-q]at H Q;rename_i aK;exact aK _ _ (hK V G n e a h f N M av l B s s2 w wc b _ c C k D z i A _ _ _ rfl ⟨J,h1,aq,S,R,hV,F,aa,aj,ad,ac,ar,ax,H,Q,ab,g⟩)
theorem Ck:SpK 0:=by
 intro V G r n d Q m s q av h B aa s2 w wx b u o T S U M R N c3 c9 tl p X;obtain⟨al,rfl⟩:=JR tl p;clear p;obtain⟨W,q1,q2,Y,Z,q5,qz,C,f1,D,af⟩:=X.qs;obtain⟨F,h1,ax,ar,ap,hV,aj,ab,aq,ad,ac,H,ay,e,y,v,l⟩:=X
 conv=>arg 2;whnf
 have e0:((0:Int)==0)=true:=vY;have e1:((0:Int)==1)=false:=vY;have e2:((0:Int)==2)=false:=vY;have e3:((0:Int)==3)=false:=vY;have e4:((0:Int)==4)=false:=vY;have e5:((0:Int)==5)=false:=vY;have e6:((0:Int)==6)=false:=vY;have e7:((0:Int)==7)=false:=vY;have x:Hid (XN V d aa=⟨((V:Int)+(nextP s2 2).1*2-1),d.set b d[b]⟩):=Xa (by rw[l.out,aM vY];simp[Za,UL];exact fK o);clear l
 go_upto_if 26 with fail
 go_cut [] from 10 to 180 (fun k=>Hid (Z4 w k Q m h B (nextP s2 2).2 ((V:Int)+(nextP s2 2).1*2-1) G r n d s q av b u (.slice T S U) d[b] (av b)))
 case first =>
  go_wp2_with fail
  refine Y7 (fun _=>True) (fun hHeld=>?_);refine Xn 0 ?_;refine Xn 2 ?_;refine eS (rs:=[1,3]) vZ sP ?_;refine(bQ rfl (fun K hK=>?_) (bQ rfl (fun K hK=>?_) dY))
  focus
   go_simp;refine hK _ _ kP (fun hHeld=>?_);clear hK
   try simp only[xX]
   refine Xs 3 (fun K hK=>?_);go_simp
   go_at_call 29
   refine(XC h B s2 2 _ (Xa e.drew.dr) oM oM).mono ?_;rintro i j ⟨rfl,f,g⟩;have c:=Xa (e.drew.call g f);have E:=XE s2 (n:=2) oM;clear f g;have O:Cl j w.heap.size 0 (.int .i64 (V:Int)):=Bx.cell c.box rfl;have P:=Bx.thaw c.box;generalize (nextP s2 2).1=a at *;have I:IntKind.i64.wrap (a*2)=a*2:=by rw[dF];omega
   have J:IntKind.i64.wrap ((V:Int)+a*2)=(V:Int)+a*2:=by rw[dF];omega
   have L:IntKind.i64.wrap ((V:Int)+a*2-1)=(V:Int)+a*2-1:=by rw[dF];omega
   refine hK _ _ trivial (fun hHeld=>?_);clear hK;refine Xn 4 ?_
  rotate_left
  focus
   go_simp
   go_at_call 29
   refine(XC h B s2 2 _ (Xa e.drew.dr) oM oM).mono ?_;rintro i j ⟨rfl,f,g⟩;have c:=Xa (e.drew.call g f);have E:=XE s2 (n:=2) oM;clear f g;have O:Cl j w.heap.size 0 (.int .i64 (V:Int)):=Bx.cell c.box rfl;have P:=Bx.thaw c.box;generalize (nextP s2 2).1=a at *;have I:IntKind.i64.wrap (a*2)=a*2:=by rw[dF];omega
   have J:IntKind.i64.wrap ((V:Int)+a*2)=(V:Int)+a*2:=by rw[dF];omega
   have L:IntKind.i64.wrap ((V:Int)+a*2-1)=(V:Int)+a*2-1:=by rw[dF];omega
   refine hK _ _ trivial (fun hHeld=>?_);clear hK
   try simp only[xX]
   refine Xn 4 ?_;refine Xs 1 (fun K hK=>?_);go_simp;refine hK _ _ kP (fun hHeld=>?_);clear hK
  all_goals (
   refine Xn 5 ?_;refine Xn 6 ?_;refine Xn 7 ?_;refine Xs 8 (fun K hK=>?_);go_simp;refine hK _ _ kP (fun hHeld=>?_);clear hK;refine Yq ?_;clear hHeld
   go_wp2
   go_meet;exact Xa (c.putV _))
 case rest =>
  have z:=Xa hcut.out;clear hcut e y W q1 q2 Y Z q5 qz C f1 D;generalize wc=t at *
  go_upto_if 72 with fail
  go_cut [] from 10 to 180 (fun k=>Hid (SmW k t))
  case first =>
   go_wp2
   go_meet;exact Xa rfl
  case rest =>
   have i:wc=t:=hcut.out;subst i;rename_i A;exact A _ _ (cg V G r n d m s q av h B w _ b u M R N _ _ _ _ _ _ _ _ _ _ _ rfl _ F o v x 0 H vY z)
theorem Cv:SpK 1:=by
 intro V G n m a aj l y w av H B F s2 J K b M r pa np pc u x v c3 S I f X;obtain⟨Y,rfl⟩:=JR I f;clear f;obtain⟨z,q1,q2,A,C,D,E,p,f1,q,Q⟩:=X.qs;obtain⟨s,Z,ad,ac,aa,hV,R,N,ab,P,O,t,af,e,i,c,d⟩:=X
 conv=>arg 2;whnf
 have T:((1:Int)==0)=false:=vY;have e1:((1:Int)==1)=true:=vY;have e2:((1:Int)==2)=false:=vY;have e3:((1:Int)==3)=false:=vY;have e4:((1:Int)==4)=false:=vY;have e5:((1:Int)==5)=false:=vY;have U:((1:Int)==6)=false:=vY;have W:((1:Int)==7)=false:=vY;have h:Hid (XN V a F=⟨(V:Int),a.set b ⟨a[b].ps,a[b].is,⟨a[b].te.kind,a[b].te.a,(n:Int),a[b].te.els⟩⟩⟩):=Xa (by rw[d.out,aM vY];simp[Za,UL]);clear d;have j:=Xa (e.putT ⟨a[b].te.kind,a[b].te.a,(n:Int),a[b].te.els⟩ 4 (.int .i64 (n:Int)) (by rw[c.out];rfl));clear e i
 go_upto_if 72 with fail
 generalize K.setCell _ _=g at *;clear z q1 q2 A C D E p f1 q
 go_upto_if 72 with fail
 go_cut [] from 10 to 180 (fun L=>Hid (SmW L g))
 case first =>
  go_wp2
  go_meet;exact Xa rfl
 case rest =>
  have o:wc=g:=hcut.out;subst o;rename_i k;exact k _ _ (cg V G n m a l y w av H B J _ b M u x v _ _ _ _ _ _ _ _ _ _ _ rfl _ s r c h 1 t vY j)
theorem Cw:SpK 2:=by
 intro V G w m a aj l y v av H B F s2 J K b M q pa np pc t x u c3 S I f X;obtain⟨Y,rfl⟩:=JR I f;clear f;obtain⟨z,q1,q2,A,C,D,E,o,f1,p,Q⟩:=X.qs;obtain⟨r,Z,ad,ac,aa,hV,R,N,ab,P,O,s,af,e,i,c,d⟩:=X
 conv=>arg 2;whnf
 have T:((2:Int)==0)=false:=vY;have e1:((2:Int)==1)=false:=vY;have e2:((2:Int)==2)=true:=vY;have e3:((2:Int)==3)=false:=vY;have e4:((2:Int)==4)=false:=vY;have e5:((2:Int)==5)=false:=vY;have U:((2:Int)==6)=false:=vY;have W:((2:Int)==7)=false:=vY;have h:Hid (XN V a F=⟨(V:Int),a.set b ⟨a[b].ps,a[b].is,⟨a[b].te.kind,a[b].te.a,a[b].te.to,a[b].te.to⟩⟩⟩):=Xa (by rw[d.out,aM vY];simp[Za,UL]);clear d;have j:=Xa (e.putT ⟨a[b].te.kind,a[b].te.a,a[b].te.to,a[b].te.to⟩ 5 (.int .i64 a[b].te.to) (by rw[c.out];rfl));clear e i
 go_upto_if 72 with fail
 generalize K.setCell _ _=g at *;clear z q1 q2 A C D E o f1 p
 go_upto_if 72 with fail
 go_cut [] from 10 to 180 (fun L=>Hid (SmW L g))
 case first =>
  go_wp2
  go_meet;exact Xa rfl
 case rest =>
  have n:wc=g:=hcut.out;subst n;rename_i k;exact k _ _ (cg V G w m a l y v av H B J _ b M t x u _ _ _ _ _ _ _ _ _ _ _ rfl _ r q c h 2 s vY j)
theorem Cr:SpK 3:=by
 intro V G w m a aj l y v av H B F s2 J K b M q pa np pc t x u c3 S I f X;obtain⟨Y,rfl⟩:=JR I f;clear f;obtain⟨z,q1,q2,A,C,D,E,o,f1,p,Q⟩:=X.qs;obtain⟨r,Z,ad,ac,aa,hV,R,N,ab,P,O,s,af,e,i,c,d⟩:=X
 conv=>arg 2;whnf
 have T:((3:Int)==0)=false:=vY;have e1:((3:Int)==1)=false:=vY;have e2:((3:Int)==2)=false:=vY;have e3:((3:Int)==3)=true:=vY;have e4:((3:Int)==4)=false:=vY;have e5:((3:Int)==5)=false:=vY;have U:((3:Int)==6)=false:=vY;have W:((3:Int)==7)=false:=vY;have h:Hid (XN V a F=⟨(V:Int),a.set b ⟨a[b].ps,a[b].is,⟨a[b].te.kind,a[b].te.a,0,a[b].te.els⟩⟩⟩):=Xa (by rw[d.out,aM vY];simp[Za,UL]);clear d;have j:=Xa (e.putT ⟨a[b].te.kind,a[b].te.a,0,a[b].te.els⟩ 4 (.int .i64 0) (by rw[c.out];rfl));clear e i
 go_upto_if 72 with fail
 generalize K.setCell _ _=g at *;clear z q1 q2 A C D E o f1 p
 go_upto_if 72 with fail
 go_cut [] from 10 to 180 (fun L=>Hid (SmW L g))
 case first =>
  go_wp2
  go_meet;exact Xa rfl
 case rest =>
  have n:wc=g:=hcut.out;subst n;rename_i k;exact k _ _ (cg V G w m a l y v av H B J _ b M t x u _ _ _ _ _ _ _ _ _ _ _ rfl _ r q c h 3 s vY j)
theorem Cq:SpK 4:=by
 intro V G E u a al t H D av l B M s2 O P b o x pa np pc A F C c3 Y N k X;obtain⟨aa,rfl⟩:=JR N k;clear k;obtain⟨I,q1,q2,J,K,L,e,v,f1,w,U⟩:=X.qs;obtain⟨y,h1,af,ad,ab,hV,W,R,ac,T,S,z,aj,d,q,f,g⟩:=X
 conv=>arg 2;whnf
 have Z:((4:Int)==0)=false:=vY;have e1:((4:Int)==1)=false:=vY;have e2:((4:Int)==2)=false:=vY;have e3:((4:Int)==3)=false:=vY;have e4:((4:Int)==4)=true:=vY;have e5:((4:Int)==5)=false:=vY;have e6:((4:Int)==6)=false:=vY;have e7:((4:Int)==7)=false:=vY;have p:Hid (XN V a M=⟨(V:Int),a.set b ⟨a[b].ps,a[b].is,⟨(nextP s2 5).1,a[b].te.a,a[b].te.to,a[b].te.els⟩⟩⟩):=Xa (by rw[g.out,aM vY];simp[Za,UL]);clear g
 go_wp2_with fail
 refine(XC l B s2 5 P (Xa d.dr) oM oM).mono ?_;rintro h m ⟨rfl,i,j⟩;have c:=Xa (d.call j i);clear i j d q I q1 q2 J K L e v f1 w;have r:=Xa (c.putT ⟨(nextP s2 5).1,a[b].te.a,a[b].te.to,a[b].te.els⟩ 2 (.int .i64 (nextP s2 5).1) (by rw[f.out];rfl));have q2:Cl m o 2 (.int .i64 a[b].te.kind):=Bx.cell c.xbx rfl;have e:=Bx.thaw c.xbx
 go_upto_if 72 with fail
 generalize m.setCell _ _=n at *;clear q2 e c
 go_upto_if 72 with fail
 go_cut [] from 10 to 180 (fun Q=>Hid (SmW Q n))
 case first =>
  go_wp2
  go_meet;exact Xa rfl
 case rest =>
  have h:wc=n:=hcut.out;subst h;rename_i s;exact s _ _ (cg V G E u a t H D av l B O _ b o A F C _ _ _ _ _ _ _ _ _ _ _ rfl _ y x f p 4 z vY r)
theorem CC:SpK 5:=by
 intro V G w m a aj l y v av H B F s2 J K b M q pa np pc t x u c3 S I f X;obtain⟨Y,rfl⟩:=JR I f;clear f;obtain⟨z,q1,q2,A,C,D,E,o,f1,p,Q⟩:=X.qs;obtain⟨r,Z,ad,ac,aa,hV,R,N,ab,P,O,s,af,e,i,c,d⟩:=X
 conv=>arg 2;whnf
 have T:((5:Int)==0)=false:=vY;have e1:((5:Int)==1)=false:=vY;have e2:((5:Int)==2)=false:=vY;have e3:((5:Int)==3)=false:=vY;have e4:((5:Int)==4)=false:=vY;have e5:((5:Int)==5)=true:=vY;have U:((5:Int)==6)=false:=vY;have W:((5:Int)==7)=false:=vY;have h:Hid (XN V a F=⟨(V:Int),a.set b ⟨a[b].ps,a[b].is,⟨a[b].te.kind,(V:Int),a[b].te.to,a[b].te.els⟩⟩⟩):=Xa (by rw[d.out,aM vY];simp[Za,UL]);clear d;have j:=Xa (e.putT ⟨a[b].te.kind,(V:Int),a[b].te.to,a[b].te.els⟩ 3 (.int .i64 (V:Int)) (by rw[c.out];rfl));clear e i
 go_upto_if 72 with fail
 generalize K.setCell _ _=g at *;clear z q1 q2 A C D E o f1 p
 go_upto_if 72 with fail
 go_cut [] from 10 to 180 (fun L=>Hid (SmW L g))
 case first =>
  go_wp2
  go_meet;exact Xa rfl
 case rest =>
  have n:wc=g:=hcut.out;subst n;rename_i k;exact k _ _ (cg V G w m a l y v av H B J _ b M t x u _ _ _ _ _ _ _ _ _ _ _ rfl _ r q c h 5 s vY j)
theorem CH:SpK 6:=by
 intro V G W C a az l Z U av sb B aa s2 ab wx b v H r g s S Y T c3 c9 tl o X;obtain⟨al,rfl⟩:=JR tl o;clear o;obtain⟨h,q1,q2,q3,q4,q5,i,E,f1,F,af⟩:=X.qs;obtain⟨L,h1,ax,ar,ap,hV,aj,ac,aq,j,ad,N,ay,c,y,w,k⟩:=X
 conv=>arg 2;whnf
 have e0:((6:Int)==0)=false:=vY;have e1:((6:Int)==1)=false:=vY;have e2:((6:Int)==2)=false:=vY;have e3:((6:Int)==3)=false:=vY;have e4:((6:Int)==4)=false:=vY;have e5:((6:Int)==5)=false:=vY;have e6:((6:Int)==6)=true:=vY;have e7:((6:Int)==7)=false:=vY;have x:Hid (XN V a aa=⟨(V:Int),a.set b ⟨a[b].ps++[⟨0,[]⟩],a[b].is,a[b].te⟩⟩):=Xa (by rw[k.out,aM vY];simp[Za]);clear k;obtain⟨R,K,O,P,Q⟩:=Xq Tryz.infoPhiD;have d:=Xa c.yph.own;rw[<-j.out]at d
 go_wp2_with (at_builtin;refine bT _ rfl _ _ 85 rfl l 96 R (.agg #[.int .i64 0,.slice none 0 0]) 2 32 underlying85 K O P Q rfl vY (.slice r g s) g (Yh (av b) a[b].ps) rfl (d.alloc _) ⟨wx.heap.size,0,none⟩ 1 1 [.int .i64 0,.slice none 0 0] rfl rfl (World.news_of_block (World.alloc_heap_new _ _)) ?c2 ?c3 ?c4 ?c5 ?_)
 case c2=>intro a1 q;simp at q;rcases q with rfl | rfl<;>rfl
 case c3=>unfold maxLen;omega
 case c4=>omega
 case c5=>simp;have:=c.size;omega
 intro v8 t e n M m;obtain⟨f,a0,p⟩:=c.push n e (by rw[j.out]) (by rw[aO];exact m);obtain⟨g8,c8,rfl,J,I⟩:=Xm e oM;clear J I M m e n h q1 q2 q3 q4 q5 i E f1 F c y d;have h:Cl t v 0 (.slice r g s):=Bx.cell f rfl;have i:=Bx.thaw f;have z:=Xa p;clear f p
 go_upto_if 72 with fail
 generalize t.setCell _ _=u at *;clear h i
 go_upto_if 72 with fail
 go_cut [] from 10 to 180 (fun wz=>Hid (SmW wz u))
 case first =>
  go_wp2
  go_meet;exact Xa rfl
 case rest =>
  have D:wc=u:=hcut.out;subst D;rename_i A;exact A _ _ (cg V G W C a l Z U av sb B ab _ b v S Y T _ _ _ _ _ _ _ _ _ _ _ rfl _ L H w x 6 N vY z)
theorem Ct:SpK 7:=by
 intro V G ap N D al g pv iv av sb E B s2 w a b xb U pa np pc ia ni ic c3 O C k X;obtain⟨S,rfl⟩:=JR C k;clear k;obtain⟨t,q1,q2,u,v,x,y,i,f1,n,L⟩:=X.qs;obtain⟨hn,h,aa,r,W,T,M,F,Z,J,I,ab,ac,c,K,H,l⟩:=X
 conv=>arg 2;whnf
 have P:((7:Int)==0)=false:=vY;have e1:((7:Int)==1)=false:=vY;have e2:((7:Int)==2)=false:=vY;have e3:((7:Int)==3)=false:=vY;have e4:((7:Int)==4)=false:=vY;have e5:((7:Int)==5)=false:=vY;have Q:((7:Int)==6)=false:=vY;have R:((7:Int)==7)=true:=vY;have m:Hid (XN V D B=⟨(V:Int),[]⟩):=Xa (by rw[l.out,aU rfl]);have o:=Bx.thaw (c.box.box (.cells #[] 90));have Y:=c.box.lt;have af:=c.size;have ad:=c.res.lt;have d:Hid (Bx ((a.setCell ⟨w.heap.size,1,none⟩ (.slice (some ⟨a.heap.size,0,none⟩) 0 0)).alloc (.cells #[] 90)) w.heap.size #[.int .i64 (V:Int),.slice (some ⟨a.heap.size,0,none⟩) 0 0] 25/\Bx ((a.setCell ⟨w.heap.size,1,none⟩ (.slice (some ⟨a.heap.size,0,none⟩) 0 0)).alloc (.cells #[] 90)) (w.heap.size+1) #[.int .i64 0,.slice none 0 0] 25/\Below g a ((a.setCell ⟨w.heap.size,1,none⟩ (.slice (some ⟨a.heap.size,0,none⟩) 0 0)).alloc (.cells #[] 90))):=Xa ⟨by
  have:=(c.box.set 1 (.slice (some ⟨a.heap.size,0,none⟩) 0 0)).box (.cells #[] 90);simpa using this,(c.res.other oM).box _,Below.alloc ((Below.refl g a).setCell (p:=⟨w.heap.size,1,none⟩) r _) (by simp[World.setCell];omega) _⟩
 go_upto_region 21 with fail
 clear t q1 q2 u v x y i f1 n o;generalize ((a.setCell _ _).alloc _)=f at *;have i:Cl f w.heap.size 0 (.int .i64 (V:Int)):=Bx.cell d.1 rfl;have f1:Cl f w.heap.size 1 (.slice (some ⟨a.heap.size,0,none⟩) 0 0):=Bx.cell d.1 rfl;have z:Cl f (w.heap.size+1) 0 (.int .i64 0):=Bx.cell d.2.1 rfl;have A:Cl f (w.heap.size+1) 1 (.slice none 0 0):=Bx.cell d.2.1 rfl;have rz:=Bx.thaw d.2.1;go_wp2;rw[m.out];refine cC (v:=.agg #[.int .i64 (V:Int),.slice (some ⟨a.heap.size,0,none⟩) 0 0]) (by simp[results,results32,go_sem,z,A]) rfl ⟨_,0,0,rfl,rfl,?_⟩;have j:g<=w.heap.size+1:=oM;have e:=(d.2.2.setCell (p:=⟨w.heap.size+1,0,none⟩) j (.int .i64 (V:Int))).setCell (p:=⟨w.heap.size+1,1,none⟩) j (.slice (some ⟨a.heap.size,0,none⟩) 0 0);exact⟨fun aj s=>absurd s sP,e.os.trans c.os,e.tape.trans c.tape,e.output.trans c.output,aJ c.size e.size,fun q h p=>(e.block q h).trans (c.low q h p)⟩
theorem Cy:SpK 8:=by
 intro V G R A a s i S O av T B u s2 W j b n hb pa g t ia ni ic c3 c9 tl I X;obtain⟨bc,rfl⟩:=JR tl I;clear I;obtain⟨q0,q1,q2,q3,q4,q5,qz,f0,f1,fz,a9⟩:=X.qs;obtain⟨hn,h1,bm,bl,bd,hV,af,Y,bi,o,a8,a2,bq,d,q,aa,p⟩:=X
 conv=>arg 2;whnf
 have e0:((8:Int)==0)=false:=vY;have e1:((8:Int)==1)=false:=vY;have e2:((8:Int)==2)=false:=vY;have e3:((8:Int)==3)=false:=vY;have e4:((8:Int)==4)=false:=vY;have e5:((8:Int)==5)=false:=vY;have e6:((8:Int)==6)=false:=vY;have e7:((8:Int)==7)=false:=vY;have e8:((8:Int)==8)=true:=vY;have e9:((8:Int)==9)=false:=vY;have bb:((8:Int)==10)=false:=vY
 go_upto_if 79 with fail
 go_cut [] from 10 to 180 (fun wz=>∃Q U v z,Hid (Z4 W wz Q i T B U (V:Int) G R A a S O av b n (.slice pa g t) v z)/\Hid (XN V a u=⟨(V:Int),a.set b v⟩))
 case first =>
  by_cases J:0<g
  ·have a3:(0:Int)<g:=oM
   have c:0<a[b].ps.length:=by rw[<-o.out];exact J
   have h:Hid (XN V a u=⟨(V:Int),a.set b ⟨a[b].ps.set 0 ⟨a[b].ps[0].dst,(a[b].ps[0].args++[0])⟩,a[b].is,a[b].te⟩⟩):=Xa (by rw[p.out,aM vY];simp[Za,dq,c]);clear p;obtain⟨E,cp,C⟩:=(d.yph).got c;rw[<-o.out]at C;injection C with e1 _ e3;subst e1 e3;have a0:=Y _ (aH c);have bo:=af.2.1 _ (aH c);obtain⟨D,y,l⟩:=(q 0 c).got a0;obtain⟨f,e⟩:∃f,f=a[b].ps[0].args.length:=⟨_,rfl⟩;have m:=q 0 c;rw[l,<-e]at m;rw[<-e]at l;have w:=Xa e;have bn:0<f:=oM;have bp:f<=1000:=oM;rw[e]at m;have ab:Hid (Xv j s (4,b,0) i 2 1 (.slice (some ⟨D,0,none⟩) f y) a[b].ps[0].args.length (Xt a[b].ps[0].args)):=Xa (by rw[e];exact m);have k:=Xa l;clear m e l q;have c1:=(d.pcells c rfl).1;rw[k.out]at c1;clear q2 q3 q4 q5;obtain⟨al,zg,a4,bf⟩:=d.pcells c rfl;rw[k.out]at al;obtain⟨j0,az,a5,a6,a7⟩:=Xq Tryz.info2';have Z:=Xa d.drew;have x:=Xa (ab.sp (⟨aA _,fun _ _ _ _=>⟨rfl,rfl⟩,fun aq=>aq⟩:XW j j.drew s s i (fun _=>True)) (fun _ _=>trivial));have br:=d.size;have ap:=((d.alloc (.cells #[.int .i64 0] 2)).pcells c rfl).1;rw[k.out]at ap
   go_wp2_with fail
   refine Y7 (fun w'=>w'.cell? ⟨n,0,none⟩=some (.slice (some ⟨E,0,none⟩) g t)) (fun hHeld=>?_);refine Xn 0 ?_;refine Xn 1 ?_;refine Xn 2 ?_;refine Xn 3 ?_;refine Xn 4 ?_;refine Xn 5 ?_;refine eS (rs:=[6,7]) vZ sP ?_;refine(bQ rfl (fun K hK=>?_) (bQ rfl (fun K hK=>?_) dY))
   focus
    go_simp;refine hK _ _ kP (fun hHeld=>?_);clear hK
    try simp only[xX]
    refine Xs 7 (fun K hK=>?_);go_simp;refine hK _ _ kP (fun hHeld=>?_);clear hK
   rotate_left
   focus
    go_simp;refine hK _ _ kP (fun hHeld=>?_);clear hK
    try simp only[xX]
    refine Xs 6 (fun K hK=>?_);go_simp;refine hK _ _ kP (fun hHeld=>?_);clear hK
   all_goals (
    refine Xs 8 (fun K hK=>?_);refine YL rfl _ _ 27 rfl i 2 j0 (.int .i64 0) 1 8 underlying27 az a5 a6 a7 rfl vY (.slice (some ⟨D,0,none⟩) f y) a[b].ps[0].args.length (Xt a[b].ps[0].args) rfl ?s1 ⟨j.heap.size,0,none⟩ 1 1 [.int .i64 0] rfl rfl ?s2 ?s3 ?s4 ?s5 ?s6 ?_
    case s1=>exact x.own.alloc _
    case s2=>exact Yf j.drew _ _
    case s3=>intro bv M;simp at M;subst M;rfl
    case s4=>unfold maxLen;have:=w.out;omega
    case s5=>have:=w.out;omega
    case s6=>simp;omega
    intro v8 w8 r H a1 F;obtain⟨⟨N,ar,bs⟩,bt,L⟩:=Z.push0 rfl c x H r rfl F;obtain⟨g8,ba,rfl,ay,ax⟩:=Xm r oM;have P:Cl w8 n 0 (.slice (some ⟨E,0,none⟩) g t):=Bx.cell N rfl;have ad:=Xa L;rw[k.out]at ar;clear ay ax a1 F r H L N;refine hK _ _ P (fun hHeld=>?_);clear hK;refine Xn 9 ?_;refine Xn 10 ?_;refine Xs 11 (fun K hK=>?_);go_simp;refine hK _ _ ((Xc (Below.heap_setCell _ _ _ _ a4)).trans P) (fun hHeld=>?_);clear hK;refine Yq ?_;clear hHeld
    go_wp2
    go_meet;exact⟨_,_,_,_,ad,h⟩)
  ·have a3:¬(0:Int)<g:=oM
   have c:¬0<a[b].ps.length:=by rw[<-o.out];exact J
   have h:Hid (XN V a u=⟨(V:Int),a.set b a[b]⟩):=Xa (by rw[p.out,aM vY];simp[Za,c])
   go_wp2
   go_meet;exact⟨_,_,_,_,d,h⟩
 case rest =>
  obtain⟨Q,U,v,z,aj,h⟩:=hcut;rename_i aK;exact aK _ _ (f6 V G R A a i S O av T B W _ b n ia ni ic _ _ _ _ _ _ _ _ _ _ _ rfl _ hn hb aa h 8 a2 vY aj)
theorem CD:SpK 9:=by
 intro V L aa R a D s pv Y av G B F s2 w J b p hb pa j E ia ni ic c3 c9 tl T X;obtain⟨a4,rfl⟩:=JR tl T;clear T;obtain⟨q0,q1,q2,q3,q4,q5,qz,f0,f1,fz,a2⟩:=X.qs;obtain⟨hn,g,a9,a7,a5,hV,aj,ab,a6,x,a1,az,bd,d,z,ad,y⟩:=X
 conv=>arg 2;whnf
 have e0:((9:Int)==0)=false:=vY;have e1:((9:Int)==1)=false:=vY;have e2:((9:Int)==2)=false:=vY;have e3:((9:Int)==3)=false:=vY;have e4:((9:Int)==4)=false:=vY;have e5:((9:Int)==5)=false:=vY;have e6:((9:Int)==6)=false:=vY;have e7:((9:Int)==7)=false:=vY;have e8:((9:Int)==8)=false:=vY;have e9:((9:Int)==9)=true:=vY;have a3:((9:Int)==10)=false:=vY
 go_upto_if 79 with fail
 go_cut [] from 10 to 180 (fun wz=>∃Z sz K O,Hid (Z4 w wz Z s G B sz (V:Int) L aa R a pv Y av b p (.slice pa j E) K O)/\Hid (XN V a F=⟨(V:Int),a.set b K⟩))
 case first =>
  by_cases W:0<j
  ·have a0:(0:Int)<j:=oM
   have c:0<a[b].ps.length:=by rw[<-x.out];exact W
   have k:Hid (XN V a F=⟨(V:Int),a.set b ⟨a[b].ps.set 0 ⟨a[b].ps[0].dst,(a[b].ps[0].args.set 0 ((V:Int)*(nextP s2 2).1))⟩,a[b].is,a[b].te⟩⟩):=Xa (by rw[y.out,aM vY];simp[Za,dq,c]);clear y;obtain⟨l,cp,e⟩:=(d.yph).got c;rw[<-x.out]at e;injection e with e1 _ e3;subst e1 e3;have U:=ab _ (aH c);have bb:=aj.2.1 _ (aH c);obtain⟨f,N,t⟩:=(z 0 c).got U;obtain⟨i,h⟩:∃i,i=a[b].ps[0].args.length:=⟨_,rfl⟩;have u:=z 0 c;rw[t,<-h]at u;rw[<-h]at t;have af:=Xa h;have ba:0<i:=oM;have bc:i<=1000:=oM;rw[h]at u;have r:Hid (Xv J D (4,b,0) s 2 1 (.slice (some ⟨f,0,none⟩) i N) a[b].ps[0].args.length (Xt a[b].ps[0].args)):=Xa (by rw[h];exact u);have v:=Xa t;clear u h t z;have c1:=(d.pcells c rfl).1;rw[v.out]at c1;clear q2 q3 q4 q5;have ar:f≠l:=fun e=>by have g:=r.lab f rfl;have h2:=d.yph.lab l rfl;rw[e,h2]at g;simp at g
   have ay:p≠f:=fun e=>by have g:=r.lab f rfl;rw[<-e,d.xbl]at g;simp at g
   have ax:w.heap.size≠f:=fun e=>by have g:=r.lab f rfl;rw[<-e,d.boxl]at g;simp at g
   go_wp2_with fail
   refine Y7 (fun H=>H.cell? ⟨p,0,none⟩=some (.slice (some ⟨l,0,none⟩) j E)/\H.cell? ⟨l,1,none⟩=some (.slice (some ⟨f,0,none⟩) i N)/\H.cell? ⟨w.heap.size,0,none⟩=some (.int .i64 (V:Int))) (fun hHeld=>?_);refine Xn 0 ?_;refine Xn 1 ?_;refine Xn 2 ?_;refine Xn 3 ?_;refine Xn 4 ?_;refine Xn 5 ?_;refine Xn 6 ?_;refine Xn 7 ?_;refine Xs 8 (fun ap hK=>?_);go_simp
   go_at_call 29
   refine(XC G B s2 2 _ (Xa d.drew.dr) oM oM).mono ?_;rintro e I ⟨rfl,S,C⟩;have q:=Xa (d.drew.call C S);have a8:=XE s2 (n:=2) oM;have M:=Xa ((r.sp (⟨aA _,fun _ _ _ _=>⟨rfl,rfl⟩,fun m=>m⟩:XW J J.drew D D s (fun _=>True)) (fun _ _=>trivial)).sp (XW.grown C d.lt) (fun _ _=>trivial));clear S C;have P:Cl I p 0 (.slice (some ⟨l,0,none⟩) j E):=Bx.cell q.xbx rfl;have Q:Cl I w.heap.size 0 (.int .i64 (V:Int)):=Bx.cell q.box rfl;have A:=(q.pcells c rfl).1;rw[v.out]at A;have n:=M.out;rw[<-af.out]at n;have b3:Cl I f 0 (.int .i64 a[b].ps[0].args[0]):=n.cell (by unfold Xt;simp[U]);have b4:=n.thaw 0;clear n;generalize n:(nextP s2 2).1=o at *;have bf:IntKind.i64.wrap ((V:Int)*o)=(V:Int)*o:=by
    have aq:o=0\/o=1:=oM;rcases aq with m | m
    ·rw[m,Int.mul_zero,dF];omega
    ·rw[m,Int.mul_one,dF];omega
   refine hK _ _ ⟨P,A,Q⟩ (fun hHeld=>?_);clear hK;refine Xn 9 ?_;refine Xn 10 ?_;refine Xs 11 (fun ap hK=>?_);go_simp;refine hK _ _ ⟨(Xc (Below.heap_setCell _ _ _ _ ay)).trans P,(Xc (Below.heap_setCell _ _ _ _ (kA ar))).trans A,(Xc (Below.heap_setCell _ _ _ _ ax)).trans Q⟩ (fun hHeld=>?_);clear hK;refine Yq ?_;clear hHeld
   go_wp2
   go_meet;exact⟨_,_,_,_,Xa (q.setA (m:=0) (z:=(V:Int)*o) c M v),k⟩
  ·have a0:¬(0:Int)<j:=oM
   have c:¬0<a[b].ps.length:=by rw[<-x.out];exact W
   have k:Hid (XN V a F=⟨(V:Int),a.set b a[b]⟩):=Xa (by rw[y.out,aM vY];simp[Za,c])
   go_wp2
   go_meet;exact⟨_,_,_,_,d,k⟩
 case rest =>
  obtain⟨Z,sz,K,O,al,k⟩:=hcut;rename_i aK;exact aK _ _ (f6 V L aa R a s pv Y av G B w _ b p ia ni ic _ _ _ _ _ _ _ _ _ _ _ rfl _ hn hb ad k 9 az vY al)
theorem B9:SpK 10:=by
 intro V G R E a P m S O av U B w s2 Y y b r hb pa j v ia ni ic c3 c9 tl I X;obtain⟨ay,rfl⟩:=JR tl I;clear I;obtain⟨T,q1,q2,q3,q4,q5,qz,f0,f1,fz,ar⟩:=X.qs;obtain⟨hn,h1,a5,a3,a0,hV,ab,Z,a2,s,aq,aj,ba,g,u,aa,t⟩:=X
 conv=>arg 2;whnf
 have e0:((10:Int)==0)=false:=vY;have e1:((10:Int)==1)=false:=vY;have e2:((10:Int)==2)=false:=vY;have e3:((10:Int)==3)=false:=vY;have e4:((10:Int)==4)=false:=vY;have e5:((10:Int)==5)=false:=vY;have e6:((10:Int)==6)=false:=vY;have e7:((10:Int)==7)=false:=vY;have e8:((10:Int)==8)=false:=vY;have e9:((10:Int)==9)=false:=vY;have ax:((10:Int)==10)=true:=vY
 go_upto_if 79 with fail
 go_cut [] from 10 to 180 (fun wz=>∃Q W z D,Hid (Z4 Y wz Q m U B W (V:Int) G R E a S O av b r (.slice pa j v) z D)/\Hid (XN V a w=⟨(V:Int),a.set b z⟩))
 case first =>
  by_cases L:0<j
  ·have al:(0:Int)<j:=oM
   have c:0<a[b].ps.length:=by rw[<-s.out];exact L
   have f:Hid (XN V a w=⟨(V:Int),a.set b ⟨a[b].ps.set 0 ⟨a[b].ps[0].dst,(a[b].ps[0].args.drop 1)⟩,a[b].is,a[b].te⟩⟩):=Xa (by rw[t.out,aM vY];simp[Za,dq,c]);clear t;obtain⟨F,cp,n⟩:=(g.yph).got c;rw[<-s.out]at n;injection n with e1 _ e3;subst e1 e3;have J:=Z _ (aH c);have a7:=ab.2.1 _ (aH c);obtain⟨k,h,o⟩:=(u 0 c).got J;obtain⟨d,i⟩:∃d,d=a[b].ps[0].args.length:=⟨_,rfl⟩;have q:=u 0 c;rw[o,<-i]at q;rw[<-i]at o;have e:=Xa i;have a6:0<d:=oM;have a9:d<=1000:=oM;rw[i]at q;have C:Hid (Xv y P (4,b,0) m 2 1 (.slice (some ⟨k,0,none⟩) d h) a[b].ps[0].args.length (Xt a[b].ps[0].args)):=Xa (by rw[i];exact q);have A:=Xa o;clear q i o u;have c1:=(g.pcells c rfl).1;rw[A.out]at c1;clear q2 q3 q4 q5;obtain⟨af,zg,M,a1⟩:=g.pcells c rfl;rw[A.out]at af;have a8:(1:Int)<=d:=oM;have a4:d<=h:=by
    obtain⟨az,cc,n,_,hc⟩:=Xm C.own J;injection n with _ _ e3;rw[e3,e.out];exact hc
   have l:Hid (Kb y.drew P (4,b,0) m (.slice (if h=1 then some ⟨k,0,none⟩else some ⟨k,1,none⟩) (d-1) (h-1)) (a[b].ps[0].args.drop 1)):=Xa (by
    refine⟨_,_,by rw[mF,<-e.out],fun N hi=>?_⟩;rw[mF,<-e.out]at hi;rw[aM oM];have p:=C.out;rw[<-e.out]at p;refine⟨k,1,rfl,p.blk.1,p.blk.2,?_⟩;have ap:y.cell? ⟨k,1+N,none⟩=some (.int .i64 (a[b].ps[0].args[1+N]'(by rw[<-e.out];omega))):=p.cell (by unfold Xt;rw[dX,aC (by rw[<-e.out];omega)];rfl);rw[List.getElem_drop];exact ap)
   by_cases H:h=1
   ·rw[aU H,show h-1=0 by omega]at l
    go_wp2_with fail
    refine Y7 (fun x=>x.cell? ⟨r,0,none⟩=some (.slice (some ⟨F,0,none⟩) j v)) (fun hHeld=>?_);refine Xn 0 ?_;refine Xn 1 ?_;refine Xn 2 ?_;refine Xn 3 ?_;refine Xn 4 ?_;refine Xn 5 ?_;refine Xs 6 (fun K hK=>?_);go_simp;refine hK _ _ kP (fun hHeld=>?_);clear hK;refine Xn 7 ?_;refine Xn 8 ?_;refine Xn 9 ?_;refine Xs 10 (fun K hK=>?_);go_simp;refine hK _ _ ((Xc (Below.heap_setCell _ _ _ _ M)).trans T) (fun hHeld=>?_);clear hK;refine Yq ?_;clear hHeld
    go_wp2
    go_meet;exact⟨_,_,_,_,Xa (g.drew.setPh (j:=0) rfl c l),f⟩
   ·rw[aM H]at l
    go_wp2_with fail
    refine Y7 (fun x=>x.cell? ⟨r,0,none⟩=some (.slice (some ⟨F,0,none⟩) j v)) (fun hHeld=>?_);refine Xn 0 ?_;refine Xn 1 ?_;refine Xn 2 ?_;refine Xn 3 ?_;refine Xn 4 ?_;refine Xn 5 ?_;refine Xs 6 (fun K hK=>?_);go_simp;refine hK _ _ kP (fun hHeld=>?_);clear hK;refine Xn 7 ?_;refine Xn 8 ?_;refine Xn 9 ?_;refine Xs 10 (fun K hK=>?_);go_simp;refine hK _ _ ((Xc (Below.heap_setCell _ _ _ _ M)).trans T) (fun hHeld=>?_);clear hK;refine Yq ?_;clear hHeld
    go_wp2
    go_meet;exact⟨_,_,_,_,Xa (g.drew.setPh (j:=0) rfl c l),f⟩
  ·have al:¬(0:Int)<j:=oM
   have c:¬0<a[b].ps.length:=by rw[<-s.out];exact L
   have f:Hid (XN V a w=⟨(V:Int),a.set b a[b]⟩):=Xa (by rw[t.out,aM vY];simp[Za,c])
   go_wp2
   go_meet;exact⟨_,_,_,_,g,f⟩
 case rest =>
  obtain⟨Q,W,z,D,ad,f⟩:=hcut;rename_i aK;exact aK _ _ (f6 V G R E a m S O av U B Y _ b r ia ni ic _ _ _ _ _ _ _ _ _ _ _ rfl _ hn hb aa f 10 aj vY ad)
theorem CF(d:Int)(az:11<=d)(a2:d<=15):SpK d:=by
 intro V ac ax al a bv aj pv iv av G F D s2 w wx b m hb pa R pc ia e o c3 c9 tl hl ad;obtain⟨bd,rfl⟩:=JR tl hl;clear hl;obtain⟨q0,q1,q2,q3,q4,q5,qz,f0,f1,fz,ba⟩:=ad.qs;obtain⟨hn,h1,bn,bm,bi,hV,bb,a8,bl,a9,I,bo,bq,L,ay,f,Z⟩:=ad
 conv=>arg 2;whnf
 have e0:(d==0)=false:=by simp;omega
 have e1:(d==1)=false:=by simp;omega
 have e2:(d==2)=false:=by simp;omega
 have e3:(d==3)=false:=by simp;omega
 have e4:(d==4)=false:=by simp;omega
 have e5:(d==5)=false:=by simp;omega
 have e6:(d==6)=false:=by simp;omega
 have e7:(d==7)=false:=by simp;omega
 have e8:(d==8)=false:=by simp;omega
 have e9:(d==9)=false:=by simp;omega
 have bc:(d==10)=false:=by simp;omega
 go_upto_if 79 with fail
 go_cut [] from 10 to 180 (fun wz=>Hid (SmW wz wx))
 case first =>
  by_cases bp:0<R
  ·have a6:(0:Int)<R:=oM
   go_wp2
   go_meet;exact Xa rfl
  ·have a6:¬(0:Int)<R:=oM
   go_wp2
   go_meet;exact Xa rfl
 case rest =>
  have C:=hcut.symm;subst C;clear hcut q0 q2 q3 q4 q5 qz f0 f1 fz ay
  go_upto_if 121 with fail
  go_cut [] from 10 to 180 (fun wz=>∃ar sz yz af,Hid (Z4 w wz ar aj G F sz (V:Int) ac ax al a pv iv av b m (.slice pa R pc) yz af)/\Hid (XN V a D=⟨(V:Int),a.set b yz⟩))
  case first =>
   by_cases ap:0<e
   ·have a5:(0:Int)<e:=oM
    have ab:0<a[b].is.length:=by rw[<-I.out];exact ap
    have j:Hid (XN V a D=⟨(V:Int),a.set b ⟨a[b].ps,a[b].is.set (nextP s2 (e:Int)).1.toNat (qH d V (nextP s2 (e:Int)).2 (a[b].is.getD (nextP s2 (e:Int)).1.toNat ⟨0,0,0,0,0⟩)),a[b].te⟩⟩):=Xa (by rw[Z.out,aM oM,aM oM,I.out];simp[Za,ab,show ¬d=6 by omega,show ¬d<6 by omega,show ¬d<11 by omega]);clear Z
    go_wp2_with fail
    refine(XC G F s2 (e:Int) wx (Xa L.dr) oM oM).mono ?_;rintro C p ⟨rfl,r,s⟩;have c:=Xa (L.call s r);have aa:=XE s2 (n:=(e:Int)) oM;clear r s L q1;obtain⟨ri,s3,aq⟩:∃a7 s9,nextP s2 (e:Int)=(a7,s9):=⟨_,_,rfl⟩;rw[aq]at c j aa |-;dsimp only at c j aa |-;clear aq;obtain⟨i,rfl⟩:=Zv aa.1;rw[dM]at j;have a3:i<e:=oM;have t:i<a[b].is.length:=by rw[<-I.out];exact a3
    rw[show a[b].is.getD i ⟨0,0,0,0,0⟩=a[b].is[i] by simp[t]]at j;obtain⟨q,ci,C⟩:=(c.yin).got oM;rw[f.out,<-I.out]at C;injection C with e1 _ e3;subst e1 e3;have a4:d=11\/d=12\/d=13\/d=14\/d=15:=oM;clear az a2;rcases a4 with rfl | rfl | rfl | rfl | rfl
    ·skip
     have M:((11:Int)==11)=true:=vY;have N:((11:Int)==12)=false:=vY;have O:((11:Int)==13)=false:=vY;have P:((11:Int)==14)=false:=vY;have Q:((11:Int)==15)=false:=vY;have l:Hid (XN V a D=⟨(V:Int),a.set b ⟨a[b].ps,a[b].is.set i ⟨(nextP s3 13).1,a[b].is[i].dst,a[b].is[i].a,a[b].is[i].b,a[b].is[i].imm⟩,a[b].te⟩⟩):=Xa (by rw[j.out];rfl);clear j;have g:p.cell? ⟨m,1,none⟩=some (.slice (some ⟨q,0,none⟩) e o):=by rw[<-f.out];exact Bx.cell c.xbx rfl
     have k:Cl p w.heap.size 0 (.int .i64 (V:Int)):=Bx.cell c.box rfl
     go_wp2_with fail
     refine Y7 (fun H=>H.cell? ⟨m,1,none⟩=some (.slice (some ⟨q,0,none⟩) e o)) (fun hHeld=>?_);refine Xn 0 ?_;refine Xn 1 ?_;refine Xn 2 ?_;refine Xn 3 ?_;refine Xs 4 (fun K hK=>?_);go_simp
     go_at_call 29
     refine(XC G F s3 13 _ (Xa c.drew.dr) oM oM).mono ?_;rintro C u ⟨rfl,r,s⟩;have h:=Xa (c.drew.call s r);clear r s;have g:u.cell? ⟨m,1,none⟩=some (.slice (some ⟨q,0,none⟩) e o):=by rw[<-f.out];exact Bx.cell h.xbx rfl
     have k:Cl u w.heap.size 0 (.int .i64 (V:Int)):=Bx.cell h.box rfl;obtain⟨⟨S,v⟩,⟨T,x⟩,⟨U,y⟩,⟨W,z⟩,⟨X,A⟩,B,E,J⟩:=h.icells t f.out;refine hK _ _ g (fun hHeld=>?_);clear hK;refine Xn 5 ?_;refine Xn 6 ?_;refine Xs 7 (fun K hK=>?_);go_simp;refine hK _ _ ((Xc (Below.heap_setCell _ _ _ _ E)).trans g) (fun hHeld=>?_);clear hK;refine Yq ?_;clear hHeld;have n:=Xa (h.setI (m:=0) (z:=(nextP s3 13).1) (x':=⟨(nextP s3 13).1,a[b].is[i].dst,a[b].is[i].a,a[b].is[i].b,a[b].is[i].imm⟩) t f.out oM rfl);clear h c k g v x y z A B;rw[fW]at n;generalize u.setCell _ _=Y at *
     go_wp2
     go_meet;exact⟨_,_,_,_,n,l⟩
    ·skip
     have M:((12:Int)==11)=false:=vY;have N:((12:Int)==12)=true:=vY;have O:((12:Int)==13)=false:=vY;have P:((12:Int)==14)=false:=vY;have Q:((12:Int)==15)=false:=vY;have l:Hid (XN V a D=⟨(V:Int),a.set b ⟨a[b].ps,a[b].is.set i ⟨a[b].is[i].op,(nextP s3 ((V:Int)+1)).1,a[b].is[i].a,a[b].is[i].b,a[b].is[i].imm⟩,a[b].te⟩⟩):=Xa (by rw[j.out];rfl);clear j;have g:p.cell? ⟨m,1,none⟩=some (.slice (some ⟨q,0,none⟩) e o):=by rw[<-f.out];exact Bx.cell c.xbx rfl
     have k:Cl p w.heap.size 0 (.int .i64 (V:Int)):=Bx.cell c.box rfl
     go_wp2_with fail
     have bf:(V:Int)<=1000:=oM;have br:(0:Int)<=(V:Int)+1:=oM;have bs:(V:Int)+1<=1001:=oM;have bt:IntKind.i64.wrap ((V:Int)+1)=(V:Int)+1:=by rw[dF];omega
     refine Y7 (fun H=>H.cell? ⟨m,1,none⟩=some (.slice (some ⟨q,0,none⟩) e o)/\H.cell? ⟨w.heap.size,0,none⟩=some (.int .i64 (V:Int))) (fun hHeld=>?_);refine Xn 0 ?_;refine Xn 1 ?_;refine Xn 2 ?_;refine Xn 3 ?_;refine Xn 4 ?_;refine Xn 5 ?_;refine Xn 6 ?_;refine Xs 7 (fun K hK=>?_);go_simp
     go_at_call 29
     refine(XC G F s3 ((V:Int)+1) _ (Xa c.drew.dr) oM oM).mono ?_;rintro C u ⟨rfl,r,s⟩;have h:=Xa (c.drew.call s r);clear r s;have g:u.cell? ⟨m,1,none⟩=some (.slice (some ⟨q,0,none⟩) e o):=by rw[<-f.out];exact Bx.cell h.xbx rfl
     have k:Cl u w.heap.size 0 (.int .i64 (V:Int)):=Bx.cell h.box rfl;obtain⟨⟨S,v⟩,⟨T,x⟩,⟨U,y⟩,⟨W,z⟩,⟨X,A⟩,B,E,J⟩:=h.icells t f.out;refine hK _ _ ⟨g,k⟩ (fun hHeld=>?_);clear hK;refine Xn 8 ?_;refine Xn 9 ?_;refine Xs 10 (fun K hK=>?_);go_simp;refine hK _ _ ⟨(Xc (Below.heap_setCell _ _ _ _ E)).trans g,(Xc (Below.heap_setCell _ _ _ _ J)).trans k⟩ (fun hHeld=>?_);clear hK;refine Yq ?_;clear hHeld;have n:=Xa (h.setI (m:=1) (z:=(nextP s3 ((V:Int)+1)).1) (x':=⟨a[b].is[i].op,(nextP s3 ((V:Int)+1)).1,a[b].is[i].a,a[b].is[i].b,a[b].is[i].imm⟩) t f.out oM rfl);clear h c k g v x y z A B;generalize u.setCell _ _=Y at *
     go_wp2
     go_meet;exact⟨_,_,_,_,n,l⟩
    ·skip
     have M:((13:Int)==11)=false:=vY;have N:((13:Int)==12)=false:=vY;have O:((13:Int)==13)=true:=vY;have P:((13:Int)==14)=false:=vY;have Q:((13:Int)==15)=false:=vY;have l:Hid (XN V a D=⟨(V:Int),a.set b ⟨a[b].ps,a[b].is.set i ⟨a[b].is[i].op,a[b].is[i].dst,(V:Int),a[b].is[i].b,a[b].is[i].imm⟩,a[b].te⟩⟩):=Xa (by rw[j.out];rfl);clear j;have g:p.cell? ⟨m,1,none⟩=some (.slice (some ⟨q,0,none⟩) e o):=by rw[<-f.out];exact Bx.cell c.xbx rfl
     have k:Cl p w.heap.size 0 (.int .i64 (V:Int)):=Bx.cell c.box rfl;obtain⟨⟨S,v⟩,⟨T,x⟩,⟨U,y⟩,⟨W,z⟩,⟨X,A⟩,B,E,J⟩:=c.icells t f.out
     go_wp2_with fail
     have n:=Xa (c.setI (m:=2) (z:=(V:Int)) (x':=⟨a[b].is[i].op,a[b].is[i].dst,(V:Int),a[b].is[i].b,a[b].is[i].imm⟩) t f.out oM rfl);clear c k g v x y z A B;generalize p.setCell _ _=Y at *;go_meet;exact⟨_,_,_,_,n,l⟩
    ·skip
     have M:((14:Int)==11)=false:=vY;have N:((14:Int)==12)=false:=vY;have O:((14:Int)==13)=false:=vY;have P:((14:Int)==14)=true:=vY;have Q:((14:Int)==15)=false:=vY;have l:Hid (XN V a D=⟨(V:Int),a.set b ⟨a[b].ps,a[b].is.set i ⟨a[b].is[i].op,a[b].is[i].dst,a[b].is[i].a,(-1),a[b].is[i].imm⟩,a[b].te⟩⟩):=Xa (by rw[j.out];rfl);clear j;have g:p.cell? ⟨m,1,none⟩=some (.slice (some ⟨q,0,none⟩) e o):=by rw[<-f.out];exact Bx.cell c.xbx rfl
     have k:Cl p w.heap.size 0 (.int .i64 (V:Int)):=Bx.cell c.box rfl;obtain⟨⟨S,v⟩,⟨T,x⟩,⟨U,y⟩,⟨W,z⟩,⟨X,A⟩,B,E,J⟩:=c.icells t f.out
     go_wp2_with fail
     have n:=Xa (c.setI (m:=3) (z:=(-1)) (x':=⟨a[b].is[i].op,a[b].is[i].dst,a[b].is[i].a,(-1),a[b].is[i].imm⟩) t f.out oM rfl);clear c k g v x y z A B;generalize p.setCell _ _=Y at *;go_meet;exact⟨_,_,_,_,n,l⟩
    ·skip
     have M:((15:Int)==11)=false:=vY;have N:((15:Int)==12)=false:=vY;have O:((15:Int)==13)=false:=vY;have P:((15:Int)==14)=false:=vY;have Q:((15:Int)==15)=true:=vY;have l:Hid (XN V a D=⟨(V:Int),a.set b ⟨a[b].ps,a[b].is.set i ⟨a[b].is[i].op,a[b].is[i].dst,a[b].is[i].a,a[b].is[i].b,(nextP s3 12).1⟩,a[b].te⟩⟩):=Xa (by rw[j.out];rfl);clear j;have g:p.cell? ⟨m,1,none⟩=some (.slice (some ⟨q,0,none⟩) e o):=by rw[<-f.out];exact Bx.cell c.xbx rfl
     have k:Cl p w.heap.size 0 (.int .i64 (V:Int)):=Bx.cell c.box rfl
     go_wp2_with fail
     refine Y7 (fun H=>H.cell? ⟨m,1,none⟩=some (.slice (some ⟨q,0,none⟩) e o)) (fun hHeld=>?_);refine Xn 0 ?_;refine Xn 1 ?_;refine Xn 2 ?_;refine Xn 3 ?_;refine Xs 4 (fun K hK=>?_);go_simp
     go_at_call 29
     refine(XC G F s3 12 _ (Xa c.drew.dr) oM oM).mono ?_;rintro C u ⟨rfl,r,s⟩;have h:=Xa (c.drew.call s r);clear r s;have g:u.cell? ⟨m,1,none⟩=some (.slice (some ⟨q,0,none⟩) e o):=by rw[<-f.out];exact Bx.cell h.xbx rfl
     have k:Cl u w.heap.size 0 (.int .i64 (V:Int)):=Bx.cell h.box rfl;obtain⟨⟨S,v⟩,⟨T,x⟩,⟨U,y⟩,⟨W,z⟩,⟨X,A⟩,B,E,J⟩:=h.icells t f.out;refine hK _ _ g (fun hHeld=>?_);clear hK;refine Xn 5 ?_;refine Xn 6 ?_;refine Xs 7 (fun K hK=>?_);go_simp;refine hK _ _ ((Xc (Below.heap_setCell _ _ _ _ E)).trans g) (fun hHeld=>?_);clear hK;refine Yq ?_;clear hHeld;have n:=Xa (h.setI (m:=4) (z:=(nextP s3 12).1) (x':=⟨a[b].is[i].op,a[b].is[i].dst,a[b].is[i].a,a[b].is[i].b,(nextP s3 12).1⟩) t f.out oM rfl);clear h c k g v x y z A B;generalize u.setCell _ _=Y at *
     go_wp2
     go_meet;exact⟨_,_,_,_,n,l⟩
   ·have a5:¬(0:Int)<e:=oM
    have ab:¬0<a[b].is.length:=by rw[<-I.out];exact ap
    have l:Hid (XN V a D=⟨(V:Int),a.set b a[b]⟩):=Xa (by rw[Z.out,aM oM,aM oM];simp[Za,ab,show ¬d=6 by omega,show ¬d<6 by omega,show ¬d<11 by omega])
    go_wp2
    go_meet;exact⟨_,_,_,_,L,l⟩
  case rest =>
   obtain⟨ar,sz,yz,af,n,l⟩:=hcut;rename_i aK;exact aK _ _ (rf V ac ax al a aj pv iv av G F w _ b m ia e o _ _ _ _ _ _ _ _ _ _ _ rfl _ hn hb f l _ n)
theorem vf(V G n f:Nat)(c:List Xe)(g:Nat->Nat × Nat × Nat)(d:Nat)(i h:Nat->Value)(av:Nat->Nat->Value)(e B:Nat)(s:Sr)(w:World)(hF:Hid (ZU w g d (.slice (some ⟨G,0,none⟩) n f) c i h av))(v:Hid (n=c.length))(k:1<=n)(x:n<=11)(p:d<=w.heap.size)(r:Hid (∀b,w.heap.size<=b->g b=(0,0,0)))(q:Hid (ZQ w e B s))(o:B<=d)(l:V<=1000)(y:Hid (Kg c))(m:Hid (PhA c)) :
 Calls prog 32 #[.agg #[.int .i64 (V:Int),.slice (some ⟨G,0,none⟩) n f],.pointer (some ⟨e,0,none⟩)] w fun j z=>SpE (XN V c s) w d e j z:=by
 have A:=XE s (n:=16) oM;refine xJ V G n f c g d i h av e B s w hF v k x p r q o l y m (Xa ?_);generalize (nextP s 16).1=a at *;by_cases t:11<=a
 ·exact CF a t oM
 have u:a=0\/a=1\/a=2\/a=3\/a=4\/a=5\/a=6\/a=7\/a=8\/a=9\/a=10:=oM;rcases u with rfl | rfl | rfl | rfl | rfl | rfl | rfl | rfl | rfl | rfl | rfl
 ·exact Ck
 ·exact Cv
 ·exact Cw
 ·exact Cr
 ·exact Cq
 ·exact CC
 ·exact CH
 ·exact Ct
 ·exact Cy
 ·exact CD
 ·exact B9
noncomputable def drawF(s:Sr):Fn :=
 if (nextP s 30).1<3 then ⟨(XM (nextP s 30).2 false).1.values,(ZM (XM (nextP s 30).2 false).1.values.toNat (XM (nextP s 30).2 false).1.blocks (XM (nextP s 30).2 false).2).1⟩
 else if (nextP s 30).1=3 then (XM (nextP s 30).2 true).1
 else if (nextP s 30).1<7 then XN (XM (nextP s 30).2 false).1.values.toNat (XM (nextP s 30).2 false).1.blocks (XM (nextP s 30).2 false).2
 else (XM (nextP s 30).2 false).1
structure GdO(w w':World)(sb B:Nat)(G n c:Nat)(lab:Nat->Nat × Nat × Nat)(pv iv:Nat->Value)(av:Nat->Nat->Value)(V:Nat)(xs:List Xe)(s':Sr):Prop where
 dr:ZQ w' sb B s'
 gr:w.grownBy w' (some sb)
 fn:ZU w' lab w.heap.size (.slice (some ⟨G,0,none⟩) n c) xs pv iv av
 fr:∀b,w'.heap.size<=b->lab b=(0,0,0)
 len:n=xs.length
 n1:1<=n
 n11:n<=11
 v:V<=1000
 sml:Kg xs
 arg:PhA xs
theorem fp(b B:Nat)(s:Sr)(a:Bool)(w:World)(j:Hid (ZQ w b B s)) :
 Calls prog 31 #[.pointer (some ⟨b,0,none⟩),.bool a] w fun g i=>∃e G n c f d av,∃V:Nat,g=.returned (.agg #[.int .i64 (V:Int),.slice (some ⟨G,0,none⟩) n c])/\(XM s a).1.values=(V:Int)/\GdO w i b B G n c e f d av V (XM s a).1.blocks (XM s a).2:=by
 refine(yP (Xa yR) b B s a w j).mono ?_;rintro g i ⟨e,G,n,c,f,d,av,rfl,k,o,p,q,r,t,u,⟨V,h,v⟩,l,m⟩;exact⟨e,G,n,c,f,d,av,V,by rw[h],h,k,o,p,q,r,t,u,v,l,m⟩
theorem GdO.spo{av:Nat->Nat->Value}{d:Sr}(a:GdO w v n m k B g Z h H av i x d):SpO w v w.heap.size n (some ⟨k,0,none⟩) x :=
 ⟨a.fn.at_,a.gr.os,a.gr.tape,a.gr.output,a.gr.size,fun q b c=>a.gr.block q b (fun e=>c (by injection e))⟩
theorem SpO.after(g:w.grownBy v (some m))(c:n<=w.heap.size)(h:SpO v u n m p x):SpO w u n m p x :=
 ⟨h.at_,h.os.trans g.os,h.tape.trans g.tape,h.output.trans g.output,aJ g.size h.size,fun q b a=>(h.low q b a).trans (g.block q oM (fun e=>a (by injection e)))⟩
theorem SpO.fin{u0 u1:Value}(k:m<w.heap.size)(a:(w.alloc (.cells #[.int .i64 0,.slice none 0 0] 25)).grownBy v (some m))(f:w.heap.size<n)(h:SpO v u n m p x):Bx u w.heap.size #[.int .i64 0,.slice none 0 0] 25/\SpO w ((u.setCell ⟨w.heap.size,0,none⟩ u0).setCell ⟨w.heap.size,1,none⟩ u1) w.heap.size m p x:=by
 have i:Bx u w.heap.size #[.int .i64 0,.slice none 0 0] 25:=((Bx.new w _ _).grown a (fun e=>by injection e;omega)).keep (h.low _ f oM);have b:=((Below.refl w.heap.size u).setCell (p:=⟨w.heap.size,0,none⟩) (aA _) u0).setCell (p:=⟨w.heap.size,1,none⟩) (aA _) u1;have g:YA n u.heap.size u ((u.setCell ⟨w.heap.size,0,none⟩ u0).setCell ⟨w.heap.size,1,none⟩ u1):=fun q c _=>by
  have hq:q≠w.heap.size:=oM;exact(Below.heap_setCell _ _ _ _ hq).trans (Below.heap_setCell _ _ _ _ hq)
 have j:w.heap.size<=v.heap.size:=aJ sP a.size;refine⟨i,(h.at_.keepS g).mono (dU f) b.size,b.os.trans (h.os.trans a.os),b.tape.trans (h.tape.trans a.tape),b.output.trans (h.output.trans a.output),aJ j (aJ h.size b.size),fun q c d=>?_⟩;exact(b.block q c).trans ((h.low q oM d).trans ((a.block q (by simp;omega) (fun e=>d (by injection e))).trans (Below.heap_alloc _ _ _ c)))
theorem LsO.spo{s:Sr}{av:Nat->Nat->Value}(a:LsO w v Z n m k s B g i x h H av):SpO w v n m (some ⟨B,0,none⟩) x:=⟨a.fn.at_,a.os,a.tape,a.output,a.size,a.low⟩
def DrE(F:Fn)(w:World)(a:Nat)(e:Ending)(b:World):Prop:=SpE F w w.heap.size a e b/\F.blocks.length+Xx F.blocks<=1048576
theorem uj(f B:Nat)(s:Sr)(w:World)(t:Hid (ZQ w f B s)) :
 Calls prog 13 #[.pointer (some ⟨f,0,none⟩)] w fun i Z=>DrE (drawF s) w f i Z:=by
 have c:Hid (drawF s=if (nextP s 30).1<3 then ⟨(XM (nextP s 30).2 false).1.values,(ZM (XM (nextP s 30).2 false).1.values.toNat (XM (nextP s 30).2 false).1.blocks (XM (nextP s 30).2 false).2).1⟩else if (nextP s 30).1=3 then (XM (nextP s 30).2 true).1 else if (nextP s 30).1<7 then XN (XM (nextP s 30).2 false).1.values.toNat (XM (nextP s 30).2 false).1.blocks (XM (nextP s 30).2 false).2 else (XM (nextP s 30).2 false).1):=Xa rfl;have N:=Xa t.sB;have F:Hid (f<w.heap.size):=Xa (oP t.bB t.sB);have K:=Xa (t.box (.cells #[.int .i64 0,.slice none 0 0] 25))
 go_in
 go_wp2_with fail
 refine(XC f B s 30 _ K oM oM).mono ?_;rintro i o ⟨rfl,E,J⟩;have O:=XE s (n:=30) oM;obtain⟨x,s1,Q⟩:∃X Y,nextP s 30=(X,Y):=⟨_,_,rfl⟩;rw[Q]at E c O |-;dsimp only at E c O |-;have C:=Xa E;have D:=Xa J;have r:Hid (w.heap.size<o.heap.size):=Xa (aX sP J.size);clear E J Q t K;by_cases L:x<3
 ·rw[aU L]at c
  go_wp2_with fail
  refine(fp f B s1 false o C).mono ?_;rintro i g ⟨y,G,n,h,z,v,av,V,rfl,e,d⟩;have a:=Xa d;have j:=Xa e;clear d e;rw[j.out,dM]at c;have p:=Xa (t8 (V:=V) (s:=(XM s1 false).2) (V0 s1 false) a.sml)
  go_wp2_with fail
  refine(uJ V G n h (XM s1 false).1.blocks y o.heap.size z v av f B (XM s1 false).2 g (Xa a.fn) (Xa a.len) a.n1 a.n11 a.gr.size (Xa a.fr) (Xa a.dr) (oP N.out r.out) a.v (Xa a.sml) (Xa a.arg)).mono ?_;rintro i A ⟨rfl,u⟩;have H:=Xa (SpO.after a.gr (aA _) u.spo);clear u;have b:=Xa (fun l m=>SpO.fin (u0:=l) (u1:=m) F.out D.out r.out H.out);have k:Cl A w.heap.size 0 (.int .i64 0):=Bx.cell (b.out undef undef).1 rfl;have f1:Cl A w.heap.size 1 (.slice none 0 0):=Bx.cell (b.out undef undef).1 rfl;have I:=Bx.thaw (b.out undef undef).1;go_wp2;rw[c.out];refine cC (v:=.agg #[.int .i64 (V:Int),.slice (some ⟨G,0,none⟩) n h]) (by simp[results,results13,go_sem,k,f1]) rfl ⟨⟨_,n,_,rfl,?_,(b.out _ _).2⟩,fh (by show(ZM V (XM s1 false).1.blocks (XM s1 false).2).1.length<=12;rw[p.1];have:=a.len;have:=a.n11;omega) p.2⟩;show n=(ZM V (XM s1 false).1.blocks (XM s1 false).2).1.length;rw[p.1];exact a.len
 ·rw[aM L]at c
  by_cases q:x=3
  ·have W:(x==3)=true:=by simpa using q
   rw[aU q]at c;clear q
   go_wp2_with fail
   refine(fp f B s1 true o C).mono ?_;rintro i g ⟨y,G,n,h,z,v,av,V,rfl,e,d⟩;have a:=Xa d;have j:=Xa e;clear d e;have b:=Xa (fun l m=>SpO.fin (u0:=l) (u1:=m) F.out D.out r.out a.spo);have k:Cl g w.heap.size 0 (.int .i64 0):=Bx.cell (b.out undef undef).1 rfl;have f1:Cl g w.heap.size 1 (.slice none 0 0):=Bx.cell (b.out undef undef).1 rfl;have I:=Bx.thaw (b.out undef undef).1;go_wp2;rw[c.out];refine cC (v:=.agg #[.int .i64 (V:Int),.slice (some ⟨G,0,none⟩) n h]) (by simp[results,results13,go_sem,k,f1]) rfl ⟨⟨_,n,_,by rw[j.out],?_,(b.out _ _).2⟩,fh (oP a.len a.n11) (WS (V0 _ _) a.sml)⟩;exact a.len
  ·have W:(x==3)=false:=by simpa using q
   rw[aM q]at c;clear q;by_cases M:x<7
   ·rw[aU M]at c
    go_wp2_with fail
    refine(fp f B s1 false o C).mono ?_;rintro i g ⟨y,G,n,h,z,v,av,V,rfl,e,d⟩;have a:=Xa d;have j:=Xa e;clear d e;rw[j.out,dM]at c;have p:=Xa (uW (V:=V) (s:=(XM s1 false).2) (V0 s1 false) a.sml)
    go_wp2_with fail
    refine(vf V G n h (XM s1 false).1.blocks y o.heap.size z v av f B (XM s1 false).2 g (Xa a.fn) (Xa a.len) a.n1 a.n11 a.gr.size (Xa a.fr) (Xa a.dr) (oP N.out r.out) a.v (Xa a.sml) (Xa a.arg)).mono ?_;rintro i A ⟨T,R,U,rfl,P,u⟩;have H:=Xa (SpO.after a.gr (aA _) u);have S:=Xa P;clear u P;have b:=Xa (fun l m=>SpO.fin (u0:=l) (u1:=m) F.out D.out r.out H.out);have k:Cl A w.heap.size 0 (.int .i64 0):=Bx.cell (b.out undef undef).1 rfl;have f1:Cl A w.heap.size 1 (.slice none 0 0):=Bx.cell (b.out undef undef).1 rfl;have I:=Bx.thaw (b.out undef undef).1;go_wp2;rw[c.out];refine cC (v:=.agg #[.int .i64 (XN V (XM s1 false).1.blocks (XM s1 false).2).values,.slice T R U]) (by simp[results,results13,go_sem,k,f1]) rfl ⟨⟨_,R,_,rfl,?_,(b.out _ _).2⟩,fh (aJ p.1 (oP a.len a.n11)) p.2⟩;exact S.out
   ·rw[aM M]at c
    go_wp2_with fail
    refine(fp f B s1 false o C).mono ?_;rintro i g ⟨y,G,n,h,z,v,av,V,rfl,e,d⟩;have a:=Xa d;have j:=Xa e;clear d e;have b:=Xa (fun l m=>SpO.fin (u0:=l) (u1:=m) F.out D.out r.out a.spo);have k:Cl g w.heap.size 0 (.int .i64 0):=Bx.cell (b.out undef undef).1 rfl;have f1:Cl g w.heap.size 1 (.slice none 0 0):=Bx.cell (b.out undef undef).1 rfl;have I:=Bx.thaw (b.out undef undef).1;go_wp2;rw[c.out];refine cC (v:=.agg #[.int .i64 (V:Int),.slice (some ⟨G,0,none⟩) n h]) (by simp[results,results13,go_sem,k,f1]) rfl ⟨⟨_,n,_,by rw[j.out],?_,(b.out _ _).2⟩,fh (oP a.len a.n11) (WS (V0 _ _) a.sml)⟩;exact a.len
end Go.Proofs.YtghnlncgiihhgaaGreatDoor
