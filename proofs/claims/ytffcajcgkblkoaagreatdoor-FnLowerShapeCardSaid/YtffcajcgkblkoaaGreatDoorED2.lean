import Derived.Test.YtffcajcgkblkoaaGreatDoorCW0
import Derived.ProofKit
import Derived.Lib.SmallJoins
namespace Go.Proofs.YtffcajcgkblkoaaGreatDoor
set_option maxHeartbeats 8000000
set_option maxRecDepth 1000000
open Go.RowKit Go.Shelf Go.Proofs.Tryz
variable{t:Int}{l L:List Int}{s:List Nat}{x:List Xe}{n m k B g i j c:Nat}{d:Nat->Prop}{a:Value}{w v:World}
section
attribute [local go_sem] Oper.semAt_some
structure NM(w3 wr:World)(M:Nat->Prop)(J:List (Nat×List Nat)->World->Prop)(ss:List (Nat×List Nat))(ds:List Nat):Prop where
 fr:ZH M w3 wr
 j:J ss wr
 mks:ZJ wr w3.heap.size ds
theorem Dq(h:ZJ w n s)(k:ZH d w v)(b:∀q,d q->q<n):ZJ v n s :=
 ⟨h.nd,h.ge,λD a=>(k.fr D (aS.1<|h.obj D a).1 λe=>by have:=b D e;have:=h.ge D a;omega).trans (h.obj D a)⟩
theorem A8(h:ZJ w n s)(b:n<=m)(c:m∉s)(d:w.heap[m]?=some (.deferred (some []))):ZJ w n (m::s) :=
 ⟨fL.2 ⟨c,h.nd⟩,λk a=>by
  rcases cH.1 a with rfl|a;·exact b
  .exact h.ge k a,λk a=>by
  rcases cH.1 a with rfl|a;·exact d
  exact h.obj k a⟩
theorem pV{F:Fence}{n:Nat}{P:Program}{fn:Func}{R:Ending->World->Prop}{t t':Array Value}(b:results fn t=results fn t'):∀a:List Deferred,LeavesInM F n P fn t R a=LeavesInM F n P fn t' R a
 |[]=>by
  funext u w;cases u<;>simp only[LeavesInM,LeavesIn,b]
 |d::a=>by
  have c:=pV (F:=F) (n:=n) (P:=P) (R:=R) b a;funext u w;unfold LeavesInM;rw[c]
theorem Ey(A:Act)(b:Nat->List Nat->(Nat->Value)->Act)(R:Nat->List Nat->Prop)(k:Nat)(a:List Nat)(e:k<=n)(d:A=b k a λi=>A.tmps.getD i undef)(c:R k a):∃(k:Nat)(a:List Nat)(f:Nat->Value),k<=n/\A=b k a f/\R k a:=⟨k,a,_,e,d,c⟩
theorem Cb(V:Nat)(x:Option Addr)(n c:Nat)(d:List Xe)(Q J:Nat)(w:World)(cb:List Int)(bp bo:Nat)(M:Nat->Prop)(N:List (Nat×List Nat)->World->Prop)(ha:Hs (Xp w Q J x d))(hx:Hs (n=d.length))(hs:Hs (d.length+Xx d<=1048576))(hB:J<=w.heap.size)(hO:Hs (Yy w))(hT:Hs (Yb w))(ee:Hs (Jn w))(hv:Hs (XJ ⟨(V:Int),d⟩=true))(B:Hs (Jy V d))(O:Hs (YX (X8 d) n cb))
 (cf:Hs (∀q,M q->q<w.heap.size)) (bd:Hs (∀q,Q<=q->q<J->¬M q)) (cg:Hs (¬M 0/\¬M 1/\¬M 2))
 (hJ:Hs (∀ss A H,N ss A->(∀q,q<w.heap.size->q<A.heap.size->H.heap[q]?=A.heap[q]?)->N ss H))
 (cp:Hs (∀(bx:List (Nat×List Nat))(v:Nat)(bv:List Nat)(bw:List (Nat×List Nat))(A:World)(z a Cz:Nat)(W:Nat->Nat),Ko d V (XT cb n 0)=bx++(v,bv)::bw->N bx A->Bf A z a Cz W->XA W->Ib V a W->a<=100->Hc W (64*a)=bv->Jn A->Calls prog 17 #[Hp v,.agg #[Hl z a Cz],Hn bp,Hn bo] A λl H=>l=.returned (.tuple #[])/\ZH M A H/\N (bx++[(v,bv)]) H))
 (h0:Hs (N [] w)) :
 Calls prog 16 #[.agg #[Hp V,.slice x n c],.func (.func 17) #[] #[Hn bp,Hn bo]] w λl C=>l=.returned (.tuple #[])/\ZH M w C/\N (Ko d V<|XT cb n 0) C:=by
 have hn:n<=1000:=oP hx.o B.okf.n2;have b5:=Xa λW (u:Below w.heap.size w W)=>KO V x n c d Q J W (Xa<|ha.keep (u.mono hB)) hx (oN u.size) B (Xa<|hO.keep u hO.1) (Xa<|hT.keep u hT.1);have cs:=Xa λW (u:Below w.heap.size w W)=>wN (V:Int) x n c d Q J W (Xa<|ha.keep (u.mono hB)) hx hs (oN u.size) (Xa (hO.keep u hO.1).old) (Xa (hT.keep u hT.1).old) hv;let⟨a,em⟩:∃q,q=(V+63)/64:=⟨_,rfl⟩;simp only[<-em]at b5;have hV:=B.vle;have ce:a<=100:=oM;have ef:V<=64*a:=oM;clear em;refine(bM (n:=9)).1 ?_;refine callsIn_of_wp_marks func16 rfl trivial ?_ rfl;simp only[ntmps16,xY,Nat.reduceAdd,Nat.reduceSub];gi_wp2;have bc:(λD:World=>Below w.heap.size w D/\w.heap.size<D.heap.size/\D.cell? (Hk w.heap.size 0)=some (Hp V)/\D.cell? (Hk w.heap.size 1)=some (.slice x n c)) (w.alloc<|.cells #[Hp V,.slice x n c] 25):=⟨Xb (Below.refl _ _) _,sP,(by simp[go_sem]),(by simp[go_sem])⟩;generalize w.alloc _=w0 at*;let⟨ch,er,k0,k1⟩:=bc;refine⟨trivial,(bM.2<|b5 _ ch).mono ?_⟩;rintro l G⟨Gi,K,gi,go,ci,WI,WX,rfl,hR⟩;have HR:=Xa hR;have bf:=hR.low;have ey:=bf.size;have g0:=oB bf k0 er;have g1:=oB bf k1 er;have ct:=Xa<|Xg ch bf;have g8:w0.heap.size<=K/\K<G.heap.size:=⟨hR.b1.2,hR.so.row.lt⟩;have lu:w.heap.size<G.heap.size:=oM;clear ch hR bf b5 k0 k1;gi_wp2
 have bc:(λD:World=>Below G.heap.size G D/\D.heap.size=G.heap.size+1/\D.cell? (Hk G.heap.size 1)=some (Hl K n n)) (G.alloc<|.cells #[Hl Gi n n,Hl K n n] 89):=⟨Xb (Below.refl _ _) _,sP,(by simp[go_sem])⟩;generalize G.alloc _=w2 at*;let⟨S,bt,q1⟩:=bc;have u1:=(XU S oM).trans g1;have b4:=Xa<|Xg ct S;have ca:=Xa λb (u:b<n)=>(HR.so.set b u).of_block (S.block _ (HR.so.set b u).lt);have b8:=Xa<|HR.so.row.of_block (S.block _ g8.2);refine⟨trivial,(bM.2<|cs _ b4).mono ?_⟩;rintro l w3⟨U3,P3,a1,c1,a2,c2,a3,a4,c4,rfl,aj,ec,d2⟩;have g9:=zM ec O;subst g9;have lv:=aj.size;have L:=Xa<|Xg b4 aj;have b0:=Xa d2.o4;let⟨e,a8⟩:∃e,e=XT P3 n 0:=⟨_,rfl⟩;rw[<-a8]at b0 cp;rw[<-a8];have gq:Hs (∀aa∈e,aa<n):=Xa (by rw[a8];exact λaa hw=>(by rw[hx.o];exact B.okf.re aa (Ji O n 0 aa (Re.root) hw).rb));have hl:e.length<=1000:=by
  have m:=sV O (λaa ht=>by rw[hx.o];exact B.okf.re aa ht) n 0 Re.root;rw[a8];omega
 have gf:=Xa a8;let⟨F,hm⟩:∃F,F=e.length:=⟨_,rfl⟩;rw[<-hm]at hl;have HM:=Xa hm;have ge:Hs (∀k (h:k<e.length),w3.cell? (Hk a4 k)=some (Hp ((e[k]:Nat):Int))/\w2.heap.size<=a4):=Xa (λk h=>⟨Jj b0 (by simp[Je,h]),(b0.lt a4 rfl).1⟩);rw[<-hm];have v1:=(XU aj oM).trans u1;have q3:=(XU aj oM).trans q1;have dn:=Xa λb (u:b<n)=>(ca b u).of_block (aj.block _ (ca b u).lt);have gr:=Xa<|b8.of_block (aj.block _ b8.lt);have fa:=Xa<|ha.keep (L.mono hB);have dc:=Xa (hJ.o _ _ _ h0 λq hq _=>L.block q hq);have la:∀(A1 A2 A3 A4:Value)(W:World),(Instr.field 99 (.agg #[A1,A2,A3,A4]) 3).run prog W=.ok A4 W:=λA1 A2 A3 A4 W=>kR;clear S aj d2 a8 b0 u1 q1 g0 g1 cs ca b8 hm ec ct b4 h0;gi_wp2;refine nH (λa' wr=>∃(k:Nat)(ds:List Nat)(f:Nat->Value),k<=F/\a'=⟨#[.agg #[Hp V,.slice x n c],.func (.func 17) #[] #[Hn bp,Hn bo],Hn w.heap.size,undef,Hn G.heap.size,undef,f 6,f 7,f 8,f 9,f 10,undef,f 12,f 13,f 14,undef,f 16,.agg #[Hp V,.slice x n c],.agg #[Hl Gi n n,Hl K n n],.agg #[Hp V,.slice x n c],.agg #[Hl a1 n c1,Hl a2 n c2,Hl a3 n n,Hl a4 F c4],Hl a4 F c4,Hp F,Hp k,f 24,f 25,f 26,f 27,f 28,f 29,f 30,f 31,f 32,f 33,f 34,f 35,f 36,f 37,f 38,f 39,f 40,f 41,f 42,f 43,f 44,f 45,f 46,f 47,f 48,f 49,f 50,f 51,f 52,f 53,f 54,f 55,f 56,f 57,f 58,f 59,f 60,f 61,f 62,f 63,f 64,f 65,f 66,f 67,f 68,f 69,f 70,f 71,f 72,f 73,f 74,f 75,f 76,f 77,f 78,f 79,f 80,f 81,f 82,f 83,f 84,f 85,f 86,f 87,f 88,f 89,f 90],mks ds⟩/\Hs (NM w3 wr M N (Ko d V<|e.take k) ds)) (λa' _=>F-(intOf<|a'.tmps.getD 23 undef).toNat) ?_ ?_;·exact⟨0,[],λ_=>undef,aN _,rfl,Xa ⟨ZH.refl _ _,by simpa [Ko]using dc.o,⟨iU,λ_ h=>(by cases h),λ_ h=>(by cases h)⟩⟩⟩
 rintro a' wr⟨k,ds,f,hk,rfl,j⟩;clear dc;have lr:=j.fr.size;by_cases hj:k<F
 .have bm:k<e.length:=by rw[<-HM.o];exact hj
  let⟨e4,h4⟩:=ge k bm;have al:=gq _<|aH bm;have E:e[k]<d.length:=by rw[<-hx.o];exact al
  have aq:∀q,w.heap.size<=q->¬M q:=λq hq h=>by have:=cf q h;omega
  have P:=Xa aq;have f4:=j.fr.cell (aq a4 oM) e4;have f1:=j.fr.cell (aq w.heap.size<|aA _) v1;have fq:=j.fr.cell (aq G.heap.size oM) q3;have gl:=Xa λi g=>EH (xs:=d) (V:=V) bm E (i:=i) g;have fs:=Xa λi g7 g hu hd=>ES (xs:=d) (V:=V) bm E (i:=i) (d:=g7) g hu hd;have gd:=Xa<|CZ (xs:=d) (V:=V) bm E;have fc:=Xa λ(w6 U':World)(e9 z:Nat)(W0:Nat->Nat)(hq:∀v,v<64*a->(Xh W0 v=true↔UV d v e[k]))(ss:List Sd)(hs:ss.map Sd.dat=TZ d[e[k]].is.length W0 (Hw d[e[k]]))(h:IZ V w6 e9 (d[e[k]].is.length+1) a z ss U')=>h.done B E ef hq hs;have di:=Xa<|HR.lou B hx e[k] al;have gb:Hs (Ib V a<|WX e[k]):=Xa λaa m o=>((di aa m).1 o).val B E;have g2:=Xa<|HR.wx e[k];have im:=Xa<|aH E;have gg:=Xa<|nM B (aH E);have dj:=Xa<|B.ops _ (aH E);have gx:=Xa<|B.kind _ (aH E);have ac:=Xa<|B.lens _ (aH E);have fe:=Xa λi (g:i<d[e[k]].ps.length)=>B.phd _ (aH E) _ (aH g);have g3:=Xa (λi (g:i<d[e[k]].is.length) (hu:dB d[e[k]].is[i].op=true)=>B.wri _ (aH E) _ (aH g) d[e[k]].is[i].dst (by unfold BW;rw[hu];simp));have cq:=j.fr.cell (aq K oM) (gr.cell al);have du:=Xa<|(dn e[k] al).of_block (j.fr.fr _ (dn e[k] al).lt (aq _<|oN (HR.b2 e[k] al)));have ib:=Xa (HR.b2 e[k] al).2;let⟨bb,oo,eb,ei,pa,pc,Y,Z,p0,p1,⟨t0,t1,t2,t3⟩,eq,ek⟩:=fa e[k] E;have a7:=bd bb ei.1 ei.2;have c0:=j.fr.cell a7 p0;have c5:=j.fr.cell a7 p1;have c6:=j.fr.cell a7 t0;have c7:=j.fr.cell a7 t1;have c8:=j.fr.cell a7 t2;have c9:=j.fr.cell a7 t3;have cm:YA Q J w3 wr:=λq q1 q2=>j.fr.fr q (oN L.size) (bd q q1 q2);have gh:=Xa<|eq.keepS cm;have fl:=Xa<|ek.keepS cm;generalize hX:d[e[k]]=X at*;have ir:=Xa hX;generalize k5:e[k]=b at*;clear p0 p1 t0 t1 t2 t3 eq ek cm e4 aq hX;subst eb;have lb:(k:Int)<(F:Int):=oM;have k6:(b:Int)<(n:Int):=oM;have hr:IntKind.i64.wrap ((X.is.length:Int)+1)=(X.is.length:Int)+1:=by have:=ac.1;rw[dF];omega
  have ep:=J9 (P:=prog) 87 59 (.agg #[Hq]) 1 24 underlying87 Nq (X.is.length+1) (oN ac.1) (oN ac.1);rw[show((X.is.length+1:Nat):Int)=(X.is.length:Int)+1 by omega]at ep;gi_wp2
  rename_i K2 il K1 ih K0 df;have bc:(λD:World=>Below wr.heap.size wr D/\D.heap.size=wr.heap.size+3/\(∀q v,#[.slice pa X.ps.length pc,.slice Y X.is.length Z,Hp X.te.kind,Hp X.te.a,Hp X.te.to,Hp X.te.els][q]?=some v->D.cell? (Hk wr.heap.size q)=some v)/\D.rowIs (wr.heap.size+1) 59 (X.is.length+1) (λ_=>Hq)/\D.cell? (Hk (wr.heap.size+1+1) 0)=some (Hl (wr.heap.size+1) (X.is.length+1) (X.is.length+1))) (((wr.alloc<|.cells #[.slice pa X.ps.length pc,.slice Y X.is.length Z,Hp X.te.kind,Hp X.te.a,Hp X.te.to,Hp X.te.els] 46).alloc (.cells (madeCells #[Hq] (X.is.length+1)) 59)).alloc (.cells #[Hl (wr.heap.size+1) (X.is.length+1) (X.is.length+1)] 87)):=⟨Xb (Xb (Xb (Below.refl _ _) _) _) _,sP,(λq v h=>by
   rw[bP _ _ (Hk wr.heap.size q) (by rw[aO,aO];show wr.heap.size<_;omega),bP _ _ (Hk wr.heap.size q) (by rw[aO];show wr.heap.size<_;omega),eC];exact h),(by
   have h:=dG (wr.alloc<|.cells #[.slice pa X.ps.length pc,.slice Y X.is.length Z,Hp X.te.kind,Hp X.te.a,Hp X.te.to,Hp X.te.els] 46) Hq (X.is.length+1) 59;rw[aO]at h;exact h.of_block<|Below.heap_alloc _ _ _ sP),(by simp[go_sem])⟩
  generalize (((wr.alloc _).alloc _).alloc _)=wa at*;let⟨S,bt,ao,cl,et⟩:=bc;have x0:=ao 0 _ rfl;have x1:=ao 1 _ rfl;have x2:=ao 2 _ rfl;have x3:=ao 3 _ rfl;have x4:=ao 4 _ rfl;have x5:=ao 5 _ rfl;have sq:=oB S fq<|aI wr _ fq;have e8:=oB S cq<|aI wr _ cq;have k7:(b:Int)<(n:Int):=oM;clear ep hr ao fq cq f4 f1 c0 c5 c6 c7 c8 c9;refine Tc (λC=>C.cell? (Hk wr.heap.size 0)=some (.slice pa X.ps.length pc)/\C.cell? (Hk wr.heap.size 1)=some (.slice Y X.is.length Z)/\C.cell? (Hk wr.heap.size 2)=some (Hp X.te.kind)/\C.cell? (Hk wr.heap.size 3)=some (Hp X.te.a)/\C.cell? (Hk wr.heap.size 4)=some (Hp X.te.to)/\C.cell? (Hk wr.heap.size 5)=some (Hp X.te.els)/\C.cell? (Hk G.heap.size 1)=some (Hl K n n)/\C.cell? (Hk K b)=some (Hl (go b) a a)) λhHeld=>?_;refine Yi 0 ?_;refine Yi 1 ?_;refine Yi 2 ?_;refine Yi 3 ?_;refine Yi 4 ?_;refine Yi 5 ?_;refine Yc 6 λd0 hK=>?_;go_simp;have cj:Below wa.heap.size wa wa.drew:=(Below.refl _ _).drew;have ez:wa.drew.heap.size=wr.heap.size+3:=bt;generalize wa.drew=t at*;refine⟨trivial,(sU 8 _ _ _ _ _ _ (go b) a a t).mono ?_⟩;rintro l r⟨rfl,br⟩;have b3:=cj.trans ((show Below t.heap.size t r by rw[br];exact Xb (Xb (Below.refl _ _) _) _).mono cj.size);have hy:r.heap.size=wr.heap.size+5:=by rw[br];simp[ez]
  have ap:∀q v,#[.slice pa X.ps.length pc,.slice Y X.is.length Z,Hp X.te.kind,Hp X.te.a,Hp X.te.to,Hp X.te.els][q]?=some v->r.cell? (Hk t.heap.size q)=some v:=λq v h=>by
   rw[br,bP _ _ (Hk t.heap.size q) (by rw[aO];show t.heap.size<_;omega),eC];exact h
  have eu:r.cell? (Hk (t.heap.size+1) 0)=some (Hl (go b) a a):=by rw[br];simp[go_sem]
  have T:=λ(b' q:Nat)(v:Value)(hc:wa.cell? (Hk b' q)=some v)=>oB b3 hc<|aI wa _ hc;have z0:=T _ _ _ x0;have z1:=T _ _ _ x1;have z2:=T _ _ _ x2;have z3:=T _ _ _ x3;have z4:=T _ _ _ x4;have z5:=T _ _ _ x5;have zq:=T _ _ _ sq;have zg:=T _ _ _ e8;have es:=T _ _ _ et;have gs:=Xa<|cl.of_block (b3.block _ cl.lt);have bl:=Xg S b3;have ar:=Xa bl;have gz:=Xa<|du.of_block (bl.block _ du.lt);have az:=(ZH.of_below L).trans (j.fr.trans<|ZH.of_below bl);have h9:=Xa az;have ad:=Xa λ(A:World)(h:ZH M w A)=>(⟨hO.of_block (h.fr _ hO.1 cg.1) h.size,hT.of_block (h.fr _ hT.1 cg.2.1) h.size,ee.of_block<|h.fr _ (aI w _<|ee 0 vZ) cg.2.2⟩:Yy A/\Yb A/\Jn A);have co:YA Q J wr r:=λq q1 q2=>bl.block q<|oN L.size;have dk:=Xa<|gh.keepS co;have db:=Xa<|fl.keepS co;have gv:Hs (UI X Q J t.heap.size r.heap.size r.heap.size r):=Xa ⟨(ad _ az).1,(ad _ az).2.1,⟨pa,pc,Y,Z,ap 0 _ rfl,ap 1 _ rfl,⟨ap 2 _ rfl,ap 3 _ rfl,ap 4 _ rfl,ap 5 _ rfl⟩,dk,db⟩,oM,oN L.size,(ad _ az).1.1,(ad _ az).2.1.1,aA _⟩;have gt:=Xa eu;have dl:=Xa es;have lp:=L.size;have lz:wr.heap.size+3<=t.heap.size:=oM;have l0:t.heap.size<=wr.heap.size+3:=oM;have lw:wr.heap.size+5<=r.heap.size:=oM;have lx:r.heap.size<=wr.heap.size+5:=oM;clear bt ez hy;refine hK _ _ ⟨z0,z1,z2,z3,z4,z5,zq,zg⟩ λhHeld=>?_;clear hK;refine ZV ?_;have g4:=Xa z0;have g6:=Xa z1;clear hHeld z0 z1 z2 z3 z4 z5 zq zg x0 x1 x2 x3 x4 x5 sq e8 et es eu T b3 ap br cl S cj az co bl;apply df;clear df;gi_wp2
  refine jw (F:=Fence.wide) (n:=9) rfl vZ (gf:=97) (lb:=#[Hn<|t.heap.size+1,Hn t.heap.size]) rfl trivial (enters_of func97 kR rfl) (qE r.heap.size (t.heap.size+1) t.heap.size Q J (go b) a a V (λq=>q=wr.heap.size+1) X (WX b) r gv gt gz g2 ce ef (Xa ?m1) (Xa ?m2) (Xa ?m3) (Xa ?m4) (Xa ?m5) dj gx ac.1 ac.2 gg gb) (λz=>me _ _ _ _ z) (λh k=>h.trans k) (λW bv e0 o' m o R=>Zf.putObj W bv e0 o' oM o R) (Below.refl _ _) (λ_ _=>rfl)
   (λz=>IZ V r (wr.heap.size+1) (X.is.length+1) a z) (λ_ _ _=>False) (λz=>IZ.own V r _ _ _ z) (λ_ _ _ _ _ h _ _=>h) (λ_ z l1 A H _ h af=>h.turn af) (λh=>h.elim) ?start
   (λz p a' U=>∃I:Nat,a'=⟨#[.agg #[Hp V,Hm bb oo n c],.func (.func 17) #[] #[Hn bp,Hn bo],Hn w.heap.size,undef,Hn G.heap.size,undef,Hp b,Hn wr.heap.size,Hn<|wr.heap.size+1+1,Hp (p.i:Int),Hn I,undef,f 12,f 13,f 14,undef,f 16,.agg #[Hp V,Hm bb oo n c],.agg #[Hl Gi n n,Hl K n n],.agg #[Hp V,Hm bb oo n c],.agg #[Hl a1 n c1,Hl a2 n c2,Hl a3 n n,Hl a4 F c4],Hl a4 F c4,Hp F,Hp k,.bool true,Ho a4 k,Hp b,Ho w.heap.size 1,Hm bb oo n c,Hp b,Ho bb<|oo+b*6,.agg #[.slice pa X.ps.length pc,.slice Y X.is.length Z,Hp X.te.kind,Hp X.te.a,Hp X.te.to,Hp X.te.els],Ho wr.heap.size 1,.slice Y X.is.length Z,Hp (X.is.length:Int),Hp<|(X.is.length:Int)+1,Hl (wr.heap.size+1) (X.is.length+1) (X.is.length+1),.agg #[.slice pa X.ps.length pc,.slice Y X.is.length Z,Hp X.te.kind,Hp X.te.a,Hp X.te.to,Hp X.te.els],Ho G.heap.size 1,Hl K n n,Hp b,Ho K b,.agg #[Hl (go b) a a],.func (.func 97) #[] #[Hn<|t.heap.size+1,Hn t.heap.size],Hp (p.i:Int),.agg #[Hl z a p.C],f 46,f 47,f 48,f 49,f 50,f 51,f 52,f 53,f 54,f 55,f 56,f 57,f 58,f 59,f 60,f 61,f 62,f 63,f 64,f 65,f 66,f 67,f 68,f 69,f 70,f 71,f 72,f 73,f 74,f 75,f 76,f 77,f 78,f 79,f 80,f 81,f 82,f 83,f 84,f 85,f 86,f 87,f 88,f 89,f 90],[]⟩/\r.heap.size<=I/\U.cell? (Hk I 0)=some (Hl z a p.C)) ?ownA ?assign ?body ?done λ_ _ _ _ _ _ h _=>h.elim
  case m1=>intro q m o l;omega
  case m2=>intro l;omega
  case m3=>intro q m l;omega
  case m4=>intro l;have:=hO.1;omega
  case m5=>intro l;have:=hT.1;omega
  case start=>
   intro z U ey bt hU;exact⟨hU.os,hU.tape,hU.output,hU.size,λq m _=>hU.block q m,⟨ey,bt⟩,oM,λ_=>Hq,gs.of_block<|hU.block _ oM,λi _=>bC λq hq=>absurd hq eA⟩
  case ownA=>
   rintro z p a' _ A U row⟨I,l,m,o⟩ af q;refine⟨I,l,m,(Xc<|af.block I (aI A _ o) λe2=>?_).trans o⟩;let⟨ob,R,h4⟩:=Yn o;let⟨_,o2,h5,h6⟩:=q I e2.symm;rw[show A.heap[I]?=some ob from R]at h5;injection h5 with h5;subst h5;rw[h4]at h6;cases h6
  case assign=>
   intro l' z bx p U KK hz y O ea;have s:=Xa y;have b1:=Xa O;have ga:=Xa ea;clear y O ea;unfold oO;gi_wp2;have bi:Below U.heap.size U (U.alloc<|.cells #[Hl z a p.C] 59):=Xb (Below.refl _ _) _;exact ga _ _ ⟨bi.size,λk e0 m _=>(bi.block k (aS.1 m).1).trans m⟩ (Zf.of_below bi s.size) (s.below bi) (pX b1 bi) ⟨U.heap.size,rfl,s.size,by simp[go_sem]⟩
  case body=>
   rintro l' z bx p a' U hz lc _ y O⟨I,rfl,k8,ej⟩ lg;have s:=Xa y;have b1:=Xa O;have sb:=y.cell (b:=wr.heap.size+1+1) oM dl;have hp:p.i<X.is.length+1:=oN O.1.1;have lk:(p.i:Int)<(X.is.length:Int)+1:=oM;have h7:=y.size;have cx:=Xa<|Kk z a p.C p.W U.drew (Xa O.2.1.drew) oM;clear y O;gi_wp2;refine Tc (λC=>C.cell? (Hk (wr.heap.size+1+1) 0)=some (Hl (wr.heap.size+1) (X.is.length+1) (X.is.length+1))/\C.cell? (Hk I 0)=some (Hl z a p.C)) λhHeld=>?_;refine Yi 0 ?_;refine Yi 1 ?_;refine Yi 2 ?_;refine Yc 3 λd0 hK=>?_;go_simp;refine⟨trivial,(CallsIn.inRound l'<|bM.2 cx).mono ?_⟩;rintro l U5⟨g5,C5,rfl,he,a6,ev⟩;have a5:Below U.heap.size U U5:=⟨a6.os,a6.tape,a6.output,a6.size,a6.block⟩;have gp:=Xa<|s.push (s:=p) ⟨b1.2.2,b1.1.2⟩ a5 he ev;have cv:=Xa a5;have e7:=oB a5 sb<|aI U _ sb;have d1:=oB a5 ej<|aI U _ ej;have da:=Xa<|s.below a5;let⟨T5,ck,_⟩:=da.db;have iv:=ck.cell hp;have k2:=ck.frozen p.i;clear a5 a6 ev cx ck;refine hK _ _ ⟨e7,d1⟩ λhHeld=>?_;clear hK;refine Yi 4 ?_;refine Yc 5 λd0 hK=>?_;go_simp;refine hK _ _ ⟨(bH U5 (Hk (wr.heap.size+1) p.i) (Hk (wr.heap.size+1+1) 0) (Hl g5 a C5) sP).trans e7,(bH U5 (Hk (wr.heap.size+1) p.i) (Hk I 0) (Hl g5 a C5) (by show wr.heap.size+1≠I;omega)).trans d1⟩ λhHeld=>?_;clear hK;refine ZV ?_;clear hHeld;gi_wp2;have el:Zf r.heap.size (λq=>q=wr.heap.size+1) U (U5.setCell (Hk (wr.heap.size+1) p.i) (Hl g5 a C5)):=(Zf.of_below cv h7).trans (Zg ⟨rfl,rfl,rfl,by simp[World.setCell],λk _ hk=>Below.heap_setCell _ _ _ _ λl=>hk<|by rw[l]⟩ rfl da.size);refine⟨⟨el.size,λq ob m o R=>?_⟩,el,gp⟩;exact(Below.heap_setCell _ _ _ _<|by show q≠wr.heap.size+1;omega).trans ((cv.block q (aS.1 o).1).trans o)
  rintro bz z ss U hD hz ed y d5;let⟨zs,cw,Ws,eg⟩:=fc r U (wr.heap.size+1) z (WX b) di ss ed y;have ab:=Xa eg;have s:=Xa y;have b7:=Xa d5;have y0:=y.cell (b:=wr.heap.size) oM g4;have y1:=y.cell (b:=wr.heap.size) oM g6;have sb:=y.cell (b:=wr.heap.size+1+1) oM dl;have cd:ZH M wr U:=⟨s.os.trans ar.os,s.tape.trans ar.tape,s.output.trans ar.output,aJ ar.size s.size,λq q1 _=>(s.fr q oM oM).trans (ar.block q q1)⟩;have fi:=Xa cd;have b6:=Xa<|(ZH.of_below L).trans (j.fr.trans cd);have f7:=Xa (hJ.o _ _ _ j.j λq q1 q2=>(s.fr q oM oM).trans (ar.block q q2));have gm:=Xa (dk.keepS λq q1 q2=>s.fr q oM oM);have fx:=Xa (db.keepS λq q1 q2=>s.fr q oM oM);have dw:=Xa λ(A:World)(h:ZH M U A)(i:Nat)(g:i<=X.is.length)=>(ab i g).2.2.1.of_block (h.fr _ (ab i g).2.2.1.lt (P _<|oN ((ab i g).2.1)));have k4:=s.size;have gc:=Xa (show ∀q,M q->q<U.heap.size from λq h=>by have:=cf q h;omega);have dd:Hs (∀(af:Nat->List (Nat×List Nat)) i A H,N (af i) A->Below A.heap.size A H->N (af i) H):=Xa λaf i A H h o=>hJ _ _ _ h λq _ q2=>o.block q q2;have hh:=ac.2;have hg:=ac.1;clear eg y d5 ed cd;gi_wp2;refine wpIn_wide.2<|EA (wr.heap.size+1+1) (wr.heap.size+1) X.is.length a (zs 0) (cw 0) bp bo X.ps.length pc pa X.ps Q J M (λi A=>N (Ko d V (e.take k)++IX d V b X i) A) U _ _ _ _ _ _ _ _ _ _ _ _ _ _ _ _ _ _ _ _ _ _ _ _ _ _ _ _ _ _ _ _ _ _ _ _ _ _ _ _ _ _ _ _ _ _ _ _ _ _ _ _ _ _ _ _ _ _ _ _ _ _ _ _ _ _ _ _ _ _ _ _ _ _ _ _ _ _ _ _ _ _ _ _ _ _ _ _ (Xa ?hq) gm (Xa rfl) hh bd (Xa<|P.o _ oM) (Xa<|P.o _ oM) gc sb (ab 0<|aN _).1 (Xa<|dd.o _) (Xa ?stp) (Xa ?st0) (Xa ?nx)
  case hq=>
   intro c x cr v w h;have m:LeavesInM Fence.wide 9 prog f16 (x.put (some cr) v).tmps _ (x.put (some cr) v).defers (.panicking c) w:=h;rw[pV (t:=(x.put (some cr) v).tmps) (t':=x.tmps) (by simp[results,results16])]at m;exact m
  case stp=>
   intro i g A a9 ba;let⟨bw,l⟩:=gl i g;have hd:=fe i g;let⟨_,_,_,h4,h5,h6⟩:=ab 0<|aN _;have bn:=cp _ _ _ bw A (zs 0) a (cw 0) (Ws 0) l ba (dw A a9 0<|aN _) h4 h5 ce h6 (ad A<|b6.trans a9).2.2;rw[fR hd.1]at bn;refine bn.mono ?_;rintro l H⟨m,o,R⟩;refine⟨m,o,?_⟩;rw[cK]at R;rw[AV (d:=X.ps[i].dst.toNat) g (fR hd.1).symm];exact R
  case st0=>
   have:IX d V b X 0=[]:=by simp[IX]
   rw[this,fF];exact f7
  case nx=>
   intro i0 i1 i2 i3 i4 i5 i6 ja jc jj jl js A1 ay d3;have ax:=Xa ay;have fz:=Xa d3;have h8:=ay.cell (P wr.heap.size oM) y1;have e6:=ay.cell (P (wr.heap.size+1+1) oM) sb;have fr:=Xa (fx.keepS λq q1 q2=>ay.fr q oM<|bd q q1 q2);have k3:=ay.size;clear ay d3 y0 y1 sb;gi_wp2;refine wpIn_wide.2<|Ex (wr.heap.size+1+1) (wr.heap.size+1) a bp bo X.is.length Z zs cw Y X.is Q J M (λi A=>N (Ko d V (e.take k)++IX d V b X X.ps.length++VC d V b X i) A) A1 _ _ _ _ _ _ _ _ _ _ _ _ _ _ _ _ _ _ _ _ _ _ _ _ _ _ _ _ _ _ _ _ _ _ _ _ _ _ _ _ _ _ _ _ _ _ _ _ _ _ _ _ _ _ _ _ _ _ _ _ _ _ _ _ _ _ _ _ _ _ _ _ _ _ _ _ _ _ _ _ _ _ _ _ _ _ _ _ fr (Xa rfl) hg bd (Xa<|P.o _ oM) (Xa<|P.o _ oM) e6 (Xa λi g=>ax.cell (P (wr.heap.size+1) oM) (ab i g).1) dj (Xa λA h=>(ad A<|b6.trans (ax.trans h)).1) (Xa<|dd.o _) (Xa ?stp) (Xa ?stn) (Xa ?st0) (Xa ?nx)
   case stp=>
    intro i g hu A a9 ba;have hd:=g3 i g hu;let⟨bw,l⟩:=fs i X.is[i].dst.toNat g hu (fR hd.1).symm;let⟨_,_,_,h4,h5,h6⟩:=ab (i+1) g;have bn:=cp _ _ _ bw A (zs<|i+1) a (cw<|i+1) (Ws<|i+1) l ba (dw A (ax.trans a9) (i+1) g) h4 h5 ce h6 (ad A<|b6.trans (ax.trans a9)).2.2;rw[fR hd.1]at bn;refine bn.mono ?_;rintro l H⟨m,o,R⟩;refine⟨m,o,?_⟩;rw[cK]at R;rw[sc (d:=X.is[i].dst.toNat) g hu (fR hd.1).symm];exact R
   case stn=>
    intro i g hu A ba;rw[El g hu];exact ba
   case st0=>
    have:VC d V b X 0=[]:=by simp[VC]
    rw[this,fF];exact fz
   intro jv j0 j1 j2 j3 ka kb kc kd kf kk kl kn ko kq ks kt ku kv kw kx ky kz A2 cc d4;have f0:=Xa d4;have cz:=Xa<|fi.trans (ax.trans cc);have fb:=Xa<|(cc.fr bz (oN<|(aS.1 b7).1) (P _ oM)).trans ((ax.fr bz (aS.1 b7).1 (P _ oM)).trans b7);clear cc d4 h8 e6;gi_wp2;refine⟨Ey _ _ _ (k+1) (bz::ds) oM rfl (Xa ⟨j.fr.trans cz,?_,?_⟩),?_⟩
   .rw[gd.o];exact f0
   .refine A8 (Dq j.mks cz λq h=>by have:=cf q h;omega) oM (λh=>?_) fb;have:=(aS.1<|j.mks.obj bz h).1;omega
   simp[intOf];omega
 have hf:k=F:=oM;subst hf;gi_wp2;refine U4 ds wr j.mks j.fr.size λW' a0=>?_;refine⟨.tuple #[],by simp[results,results16,go_sem],rfl,?_,?_⟩
 .have lo:=L.size;have hF:=(ZH.of_below (M:=M) L).trans j.fr;exact⟨a0.os.trans hF.os,a0.tape.trans hF.tape,a0.output.trans hF.output,aJ hF.size a0.size,λq q1 q2=>(a0.block q oM).trans (hF.fr q q1 q2)⟩
 have h:=j.j;rw[HM.o,gC]at h;rw[<-gf.o];exact hJ _ _ _ h λq q1 _=>a0.block q<|oN L.size
end
theorem CU(W:Nat->Nat)(K:Nat):0<Hx W K↔∃x,x<64*K/\Xh W x=true:=by
 unfold Hx;rw[nC];constructor;·rintro⟨x,a,b⟩;exact⟨x,bE.1 a,b⟩
 rintro⟨x,a,b⟩;exact⟨x,bE.2 a,b⟩
theorem AU(x y:Value)(W:World):(Instr.field 89 (.agg #[x,y]) 0).run prog W=.ok x W:=kR
theorem Te(v:Int)(b:Option Addr)(n c:Nat)(a:List Xe)(L B:Nat)(w:World)(ha:Hs (Xp w L B b a))(f:Hs (n=a.length))(hs:Hs (a.length+Xx a<=1048576))(K:B<=w.heap.size)(t:Hs (Yy w))(u:Hs (Yb w)) :
 Calls prog 14 #[.agg #[Hp v,.slice b n c]] w λe w'=>e=.returned (Hp<|E5 v a)/\Below w.heap.size w w':=by
 have k:=Xa λW (y:Below w.heap.size w W)=>JK v b n c a L B W (Xa<|ha.keep (y.mono K)) f hs (oN y.size) (Xa (t.keep y t.1).old) (Xa (u.keep y u.1).old);cases hv:XJ ⟨v,a⟩with
 |false=>
  rw[hv]at k;rw[Uh hv];clear hv
  go_in
  go_wp2_with fail
  refine(k _<|Xb (Below.refl _ _) _).mono ?_;rintro e w1⟨rfl,g⟩;have D:=Xa<|Xg (Xb (Below.refl w.heap.size w) _) g;clear g k;go_wp2;go_ret;exact⟨rfl,D⟩
 |true=>
  rw[hv]at k;have H:=Xa hv;have ax:0<=v:=by
   simp only[XJ,Y6,bY,bD]at hv;omega
  obtain⟨V,rfl⟩:=bX ax;have d:=Xa<|XH hv;have hn:n<=1000:=oP f.o d.okf.n2;have q:0<n:=oP f.o d.okf.n1;have a7:n<=64*((n+63)/64):=oM;have a8:(n+63)/64<=100:=oM;generalize ay:E5 (V:Int) a=R;have I:=Xa ay;clear hv ax ay
  go_in
  go_wp2_with fail
  have M:Below w.heap.size w (w.alloc<|.cells #[Hp V,.slice b n c] 25):=Xb (Below.refl _ _) _;have al:(w.alloc<|.cells #[Hp V,.slice b n c] 25).cell? (Hk w.heap.size 0)=some (Hp V):=sP;have ao:(w.alloc<|.cells #[Hp V,.slice b n c] 25).cell? (Hk w.heap.size 1)=some (.slice b n c):=sP;have C:w.heap.size<(w.alloc<|.cells #[Hp V,.slice b n c] 25).heap.size:=sP;refine(k _ M).mono ?_;rintro e w1⟨rfl,g⟩;have D:=Xa<|Xg M g;have g0:=oB g al C;have g1:=oB g ao C;have az:=aX C g.size;clear g M al ao C k;go_wp2_with fail
  refine(Ki (V:Int) b n c w1 hn).mono ?_;rintro e S⟨J,gS,rfl,bi,bn,p,ar⟩;have j:=Xa<|Xg D p;have ab:=Xa ar;have k0:=oB p g0 az;have k1:=oB p g1 az;have bp:=p.size;have a4:Hs (∀x∈a,∀a2∈x.te.tg,0<=a2/\a2<(n:Int)):=Xa (by rw[f.o];exact d.okf.tgt);have ac:=Xa (VY J gS S.heap.size ((n+63)/64) n c b a L B f hn a7 a8 oM oM oM a4 n 0 (λ_=>0) Hq [] S ab (Xa<|ha.keep (j.mono K)) q (Xa<|ZA _ _) (Xa JW) (by simpa using ZA (λ_=>0) n));clear p ar g0 g1;go_wp2_with fail
  refine ac.mono ?_;rintro e o⟨rfl,v',i,aq⟩;have m:Below w.heap.size w o:=⟨i.os.trans j.os,i.tape.trans j.tape,i.output.trans j.output,aJ j.size i.size,λa1 hq=>(i.block a1 oM oM oM λe=>by cases e).trans (j.block a1 hq)⟩;have N:=i.block w.heap.size oM oM oM (λe=>by cases e);have m0:=(Xc N).trans k0;have m1:=(Xc N).trans k1;have P:YW o J gS S.heap.size ((n+63)/64) b n c (Zp a).1 v' (Zp a).2:=by
   unfold Zp;rw[<-f.o];exact aq
  let⟨q1,q2,q3,q4⟩:=d.okf.top;have E:=Xa<|rE d.okf (F:=Ja a) q3 q1;have ap:(Ja a).length=(Zp a).2.length:=by unfold Ja;rw[jQ]
  have O:=P.own;rw[show Je (Zp a).2=(Xi (Zp a).2).map (Value.int .i64) by simp[Je,Xi]]at O;let⟨aL,cL,eL,_⟩:=Xk O;have s2:o.cell? (Hk J 2)=some (.slice aL (Ja a).length cL):=by
   have l:=P.c2;rw[eL,show(Xi (Zp a).2).length=(Ja a).length by rw[ap];simp[Xi]]at l;exact l
  have F:=Xa m;let⟨Q,r⟩:∃bb,bb=(Ja a).length:=⟨_,rfl⟩;rw[<-r]at s2;have bd:=Xa r;have bo:Q<=n:=by rw[r,f.o];exact E.1
  have U:Hs (Q=n↔Jq a):=Xa (by rw[r,f.o];exact E.2);have aa:=Xa<|KO V b n c a L B o.drew (Xa<|ha.keep (m.drew.mono K)) f (oN m.drew.size) d (Xa<|t.keep m.drew t.1) (Xa<|u.keep m.drew u.1);have bq:w.heap.size<o.heap.size:=aI o _ m0;clear i aq P m N O eL ap r q1 q2 q3 q4 k0 k1 ac ab E;by_cases ba:Q<n
  .have HR:Hs (R=10):=Xa (by rw[<-I.o];exact qP H λl=>by have:=U.2 l;omega);go_wp2_with fail
   go_region;go_wp2;go_ret;exact⟨by rw[HR.o];rfl,F.drew⟩
  have T:=Xa<|U.1 oM;have bm:=λx bc W=>AU x bc W;go_wp2_with fail
  go_region;go_wp2_with fail
  refine aa.mono ?_;rintro e w4⟨Gi,Go,gi,go,ci,s,WX,rfl,h⟩;have bf:=Xa h;have x0:=h.si.row.cell q;have hV:=d.vle;have Z:=Xa<|Kl (gi 0) ((V+63)/64) (ci 0) (s 0) w4 (Xa<|h.wi 0) (Xa<|h.si.set 0 q) oM;have bl:=TB (s 0) ((V+63)/64);have a3:=Xa<|F.drew.trans (h.low.mono F.drew.size);have Y:Hs (0<Hx (s 0) ((V+63)/64)↔∃x,Ic a x):=Xa (by
   let⟨a5,a6,W0,a0,h1,h2,h3,h4,h5,_⟩:=h.inn;have af:∀{x:Nat},Sp a5 a6 (·∈a0) (X8 a) 0 x↔Ic a x:=λ{x}=>Dk d h1 h2 h3 (ord:=(·∈a0)) h4 (src:=X8 a) λ_ _=>rfl;rw[CU];constructor
   .rintro⟨x,z,A⟩;exact⟨x,af.1<|(h5 0 q x z).1 A⟩
   rintro⟨x,z⟩
   have ba:=tR d z;have A:x<64*((V+63)/64):=oM;exact⟨x,A,(h5 0 q x A).2 (af.2 z)⟩)
  clear h aa;generalize a9:Hx (s 0) ((V+63)/64)=cc at*;clear a9;generalize (V+63)/64=K4 at*;go_wp2_with fail
  refine Z.mono ?_;rintro e w5⟨rfl,ad⟩;have X:=Xa<|Xg a3 ad;clear ad Z x0;by_cases aj:0<cc
  .have G:Hs (R=11):=Xa (by rw[<-I.o];exact lT H T<|Y.1 aj);go_wp2;go_ret;exact⟨by rw[G.o];rfl,X⟩
  have G:Hs (R=0):=Xa (by rw[<-I.o];exact rD H T λl=>aj<|Y.2 l);go_wp2;go_ret;exact⟨by rw[G.o];rfl,X⟩
theorem Lh.same{go:Nat}{C:Nat->Int}(h:Lh n m k go B g i j C w)(u:k<c/\go<c/\B<c/\g<c/\i<c/\j<c)(a:∀q,q<c->q<w.heap.size->v.heap[q]?=w.heap[q]?):Lh n m k go B g i j C v:=by
 let⟨l,o,p,r,s,t⟩:=u;have d:∀{b:Nat}{f:Value},b<c->w.cell? (Hk b 0)=some f->v.cell? (Hk b 0)=some f:=λx e=>(bZ<|a _ x (aI w _ e)).trans e;exact⟨h.row.of_block<|a _ l h.row.lt,h.o.of_block<|a _ o h.o.lt,h.box.of_block<|a _ p h.box.lt,d r h.pick,d s h.cc,d t h.cv,h.rng,h.n1,h.n2,h.n3,h.n4,h.n5⟩
theorem xR(V:Nat)(o:Option Addr)(n c:Nat)(e:List Xe)(O B:Nat)(w:World)(P:List Int)(ha:Hs (Xp w O B o e))(F:Hs (n=e.length))(hs:Hs (e.length+Xx e<=1048576))(hB:B<=w.heap.size)(y:Hs (Yy w))(z:Hs (Yb w))(U:Hs (Jn w))(hv:Hs (E5 (V:Int) e=0))(hP:Hs (YX (X8 e) n P)) :
 Calls prog 5 #[.agg #[Hp V,.slice o n c]] w λg w'=>∃Q,g=.returned (.agg #[Hp 0,Hl Q V V,Hp<|Hy (Kq (λ_=>-1) (Ko e V<|XT P n 0)) V])/\Below w.heap.size w w'/\w.heap.size<=Q/\Hb w' Q V V (Kq (λ_=>-1) (Ko e V<|XT P n 0)):=by
 let⟨E,az⟩:=TX hv;have ho:=XH E;have M:Hs (iw V<|Ko e V (XT P n 0)):=Xa (by
  have R:=hP.o;rw[F.o]at R;have:=tu E az R;rw[F.o];exact this)
 have hV:=ho.vle;have N:=Xa λW (D:Below w.heap.size w W)=>Te (V:Int) o n c e O B W (Xa<|ha.keep (D.mono hB)) F hs (oN D.size) (Xa<|y.keep D y.1) (Xa<|z.keep D z.1);rw[hv.o]at N;have bd:=fM (P:=prog) 27 2 (Hp 0) 8 underlying27 Nv rfl .i64 .i64 V oM oM;have a6:=Xa E;have a5:=Xa ho;clear E ho az
 go_in
 go_wp2_with fail
 have x:(λd:World=>Below w.heap.size w d/\w.heap.size+2<=d.heap.size/\d.cell? (Hk w.heap.size 0)=some (Hp V)/\d.cell? (Hk w.heap.size 1)=some (.slice o n c)/\Hs (d.heap[w.heap.size+1]?=some (.cells #[Hp 0,Hq,Hp 0] 29))) ((w.alloc<|.cells #[Hp V,.slice o n c] 25).alloc (.cells #[Hp 0,Hq,Hp 0] 29)):=⟨Xb (Xb (Below.refl _ _) _) _,sP,(by simp[go_sem]),(by simp[go_sem]),(Xa (by
  have:=World.alloc_heap_new (w.alloc<|.cells #[Hp V,.slice o n c] 25) (.cells #[Hp 0,Hq,Hp 0] 29);rwa[aO]at this))⟩
 generalize (w.alloc _).alloc _=w0 at*;let⟨X,cg,c0,c1,aq⟩:=x;refine(N _ X).mono ?_;rintro g a⟨rfl,p⟩;have ch:=p.size;have ce:w.heap.size<a.heap.size:=oM;have k0:=(XU p oM).trans c0;have k1:=(XU p oM).trans c1;have H:=Xa<|Xg X p;have ar:=Xa<|(p.block _ oM).trans aq;clear X p c0 c1 N aq;go_wp2_with fail
 have x:(λd:World=>Below a.heap.size a d/\a.heap.size+2<=d.heap.size/\d.heap.size<=a.heap.size+2/\Hs (d.rowIs a.heap.size 2 V λ_=>Hp 0)/\Hs (d.rowIs (a.heap.size+1) 29 3 (LU (Hp 0) (Hl a.heap.size V V) (Hp 0)))) ((a.alloc<|.cells (madeCells #[Hp 0] V) 2).alloc (.cells #[Hp 0,Hl a.heap.size V V,Hp 0] 29)):=⟨Xb (Xb (Below.refl _ _) _) _,sP,sP,Xa<|(dG a (Hp 0) V 2).alloc _,(Xa (by
  have h:=eK (a.alloc<|.cells (madeCells #[Hp 0] V) 2) #[Hp 0,Hl a.heap.size V V,Hp 0] 29 (LU (Hp 0) (Hl a.heap.size V V) (Hp 0)) (λi r=>by match i,r with|0,_=>rfl|1,_=>rfl|2,_=>rfl)
  rw[aO]at h;exact h))⟩
 generalize ((a.alloc _).alloc _)=w2 at*;let⟨q,br,bt,L,K⟩:=x;have cj:=H.size;let⟨go,ab⟩:∃go,go=a.heap.size:=⟨_,rfl⟩;rw[<-ab]at q br bt L K;rw[<-ab];have cb:a.heap.size<=go:=oM;have cc:go<=a.heap.size:=oM;have m0:=(XU q oM).trans k0;have m1:=(XU q oM).trans k1;have ax:=Xa<|(q.block _ oM).trans ar;have al:=Xa<|H.trans (q.mono oM);clear bd q k0 k1 ab H ar;refine(xQ V w2 hV).mono ?_;rintro g b⟨j,k,C,rfl,l,cd,b8,ca,bf,bi,ac,Z,aa⟩;have ci:=l.size;have ao:=Xa<|Xg al l;have p0:=(XU l oM).trans m0;have p1:=(XU l oM).trans m1;have ay:=Xa<|(l.block _ oM).trans ax;have l1:=ac.lt;have l2:j<b.heap.size:=aI b _ Z;have l3:k<b.heap.size:=aI b _ aa;have ap:Hs (Lh V V C go (go+1) b.heap.size j k (λ_=>-1) (b.alloc<|.cells #[.func (.func 37) #[] #[Hn j,Hn k]] 53)):=Xa (by
  refine⟨ac.alloc _,?_,?_,by simp[go_sem],(bP _ _ _ l2).trans Z,(bP _ _ _ l3).trans aa,λu _=>bC rfl,oM,⟨oM,oM⟩,⟨oM,oM,oM⟩,⟨bf,oM,oM⟩,⟨bi,oM,oM⟩⟩;·exact Hb.of_row<|((L.of_block<|l.block _ oM).alloc _).congr λi _=>sP
  exact((K.of_block<|l.block _ oM).alloc _).congr λi r=>by rw[qG])
 have Y:Below b.heap.size b (b.alloc<|.cells #[.func (.func 37) #[] #[Hn j,Hn k]] 53):=Xb (Below.refl _ _) _;have f:=Xa<|Xg ao Y;have ck:b.heap.size<(b.alloc<|.cells #[.func (.func 37) #[] #[Hn j,Hn k]] 53).heap.size:=sP;have a8:=Xa<|(Y.block _ oM).trans ay;have cf:w.heap.size<b.heap.size:=oM;have bo:=λ(W:World)=>run_store prog W (Hk b.heap.size 0) (.func (.func 37) #[] #[Hn j,Hn k]) .plain rfl;clear l ac Z aa L K m0 m1 ax ay al ao Y;go_wp2_with fail
 generalize (b.alloc _)=w4 at*;have I:=Xa (Cb V o n c e O B w4 P b.heap.size (go+1) (MF C go<|go+1) (λss a9=>Lh V V C go (go+1) b.heap.size j k (Kq (λ_=>-1) ss) a9) (Xa<|ha.keep (f.mono hB)) F hs (oN f.size) (Xa<|y.keep f y.1) (Xa<|z.keep f z.1) (Xa<|U.of_block (f.block _<|aI w _ (U 0 vZ))) a6 a5 hP
  (Xa λb5 h=>by rcases h with h|h|h<;>omega) (Xa λb5 R h2 h=>by rcases h with h|h|h<;>omega) (Xa (by
   have t1:=y.1;have t2:=z.1;have t3:(2: Nat)<w.heap.size:=aI w _<|U 0 vZ;exact⟨λh=>by rcases h with h|h|h<;>omega,λh=>by rcases h with h|h|h<;>omega,λh=>by rcases h with h|h|h<;>omega⟩))
  (Xa λss af A' h bw=>h.same ⟨oM,oM,oM,oM,oM,oM⟩ bw)
  (Xa (λa1 ad a0 b4 af b7 Kw Cz W g hC hz hd hl hk bb bp=>by
   have bq:=M.lt (ad,a0) (by rw[g];simp);have bl:=TE a1 (λ_=>-1) λb6 ht=>M.nd a1 (ad,a0) b4 g b6 ht;refine(Cn ad V b7 Kw Cz V C go (go+1) b.heap.size j k W _ af (Xa hz) (Xa hd) (Xa bp) hk (Xa hl) hV (Xa hC) bq (Xa bl)).mono ?_;rintro e2 A'⟨q1,q2,q3⟩;refine⟨q1,q2,?_⟩;rw[Ay,<-bb];exact q3)) (Xa<|by simpa [Kq]using ap.o))
 have aj:Hs (∀u,u<V->0<=Kq (λ_=>-1) (Ko e V<|XT P n 0) u):=Xa λu hu=>UP _ _<|aZ (M.all u hu);let⟨m,S⟩:∃m,m=Kq (λ_=>-1) (Ko e V<|XT P n 0):=⟨_,rfl⟩;simp only[<-S]at I aj;have a4:=Xa S;clear S;clear ap bo;refine I.mono ?_;rintro g A⟨rfl,T,v⟩;have a3:=Xa v;have s:=Xa T;have b0:=v.box.cell (i:=0) vZ;have b1:=v.box.cell (i:=1) vZ;have b2:=v.box.cell (i:=2) vZ;simp only[LU]at b0 b1 b2;have t:Hs (A.rowIs (w.heap.size+1) 29 3 (LU (Hp 0) Hq (Hp 0))):=Xa ⟨_,(T.fr _ oM λh=>by rcases h with h|h|h<;>omega).trans a8,rfl,λi r=>by match i,r with|0,_=>rfl|1,_=>rfl|2,_=>rfl⟩;clear v T I p0 p1;have bx:=t.cell (i:=0) vZ;have bz:=t.cell (i:=1) vZ;have b3:=t.cell (i:=2) vZ;have lz:=t.frozen;have bn:∀(W:World)(i G:Nat)(u:Value),i≠G->(W.setCell (Hk (w.heap.size+1) i) u).cell? (Hk (w.heap.size+1) G)=W.cell? (Hk (w.heap.size+1) G):=λW i G u h=>cJ _ _ _ _ λg=>h<|fI Addr.off g;go_wp2_with fail
 clear bx bz b3 lz bn b0 b1 b2;have J:Hs ((((A.setCell (Hk (w.heap.size+1) 0) (Hp 0)).setCell (Hk (w.heap.size+1) 1) (Hl go V V)).setCell (Hk (w.heap.size+1) 2) (Hp<|Hy m V)).rowIs (w.heap.size+1) 29 3 (LU (Hp 0) (Hl go V V) (Hp<|Hy m V))):=Xa<|(((t.set 0 _).set 1 _).set 2 _).congr (λi r=>by match i,r with|0,_=>rfl|1,_=>rfl|2,_=>rfl)
 have ba:Below w.heap.size w A:=⟨s.os.trans f.os,s.tape.trans f.tape,s.output.trans f.output,aJ f.size s.size,λq' bm=>(s.fr q' (oN f.size) λh=>by rcases h with h|h|h<;>omega).trans (f.block q' bm)⟩;have x:(λd:World=>Hs (Below w.heap.size w d)/\Hs (Hb d go V V m)) (((A.setCell (Hk (w.heap.size+1) 0) (Hp 0)).setCell (Hk (w.heap.size+1) 1) (Hl go V V)).setCell (Hk (w.heap.size+1) 2) (Hp<|Hy m V)):=⟨Xa<|((ba.setCell (gX _) _).setCell (gX _) _).setCell (gX _) _,(Xa ((((a3.o.o.setOther (by show go≠w.heap.size+1;omega) _).setOther (by show go≠w.heap.size+1;omega) _).setOther (by show go≠w.heap.size+1;omega) _).congr (λu hu=>by
  have:=aj u hu;rw[aM oM])))⟩
 generalize (((A.setCell _ _).setCell _ _).setCell _ _)=w9 at*;let⟨a2,a7⟩:=x;have r0:=J.cell (i:=0) vZ;have r1:=J.cell (i:=1) vZ;have r2:=J.cell (i:=2) vZ;simp only[LU]at r0 r1 r2;refine cC (v:=.agg #[Hp 0,Hl go V V,Hp<|Hy m V]) (by simp[results,results5,go_sem,r0,r1,r2]) rfl ?_;rw[<-a4.o];exact⟨go,rfl,a2,oM,a7⟩
theorem zC(v:Int)(e:Option Addr)(n c:Nat)(a:List Xe)(L B:Nat)(w:World)(ha:Hs (Xp w L B e a))(I:Hs (n=a.length))(F:Hs (a.length+Xx a<=1048576))(E:B<=w.heap.size)(s:Hs (Yy w))(t:Hs (Yb w))(H:E5 v a≠0) :
 Calls prog 5 #[.agg #[Hp v,.slice e n c]] w λf O=>f=.returned (.agg #[Hp<|E5 v a,Hq,Hp 0])/\Below w.heap.size w O:=by
 have r:=Xa λW (g:Below w.heap.size w W)=>Te v e n c a L B W (Xa<|ha.keep (g.mono E)) I F (oN g.size) (Xa<|s.keep g s.1) (Xa<|t.keep g t.1);have P:(E5 v a==0)=false:=by simpa using H
 generalize E5 v a=V at*
 go_in
 go_wp2_with fail
 have k:(λb:World=>Below w.heap.size w b/\w.heap.size+2<=b.heap.size/\Hs (b.heap[w.heap.size+1]?=some (.cells #[Hp 0,Hq,Hp 0] 29))) ((w.alloc<|.cells #[Hp v,.slice e n c] 25).alloc (.cells #[Hp 0,Hq,Hp 0] 29)):=⟨Xb (Xb (Below.refl _ _) _) _,sP,(Xa (by
  have:=World.alloc_heap_new (w.alloc<|.cells #[Hp v,.slice e n c] 25) (.cells #[Hp 0,Hq,Hp 0] 29);rwa[aO]at this))⟩
 generalize (w.alloc _).alloc _=R at*;let⟨l,Q,q⟩:=k;refine(r _ l).mono ?_;rintro f p⟨rfl,m⟩;have A:=Xa<|Xg l m;have d:Hs (p.rowIs (w.heap.size+1) 29 3 (LU (Hp 0) Hq (Hp 0))):=Xa ⟨_,(m.block _ oM).trans q,rfl,λi o=>by match i,o with|0,_=>rfl|1,_=>rfl|2,_=>rfl⟩;have J:=d.cell (i:=0) vZ;have K:=d.cell (i:=1) vZ;have M:=d.cell (i:=2) vZ;have N:=d.frozen;have G:∀(W:World)(i j:Nat)(z:Value),i≠j->(W.setCell (Hk (w.heap.size+1) i) z).cell? (Hk (w.heap.size+1) j)=W.cell? (Hk (w.heap.size+1) j):=λW i j z D=>cJ _ _ _ _ λf=>D<|fI Addr.off f;go_wp2_with fail
 have k:(λb:World=>Hs (b.rowIs (w.heap.size+1) 29 3 (LU (Hp V) Hq (Hp 0)))/\Hs (Below w.heap.size w b)) (((p.setCell (Hk (w.heap.size+1) 0) (Hp V)).setCell (Hk (w.heap.size+1) 1) Hq).setCell (Hk (w.heap.size+1) 2) (Hp 0)):=⟨(Xa<|(((d.set 0 _).set 1 _).set 2 _).congr (λi o=>by match i,o with|0,_=>rfl|1,_=>rfl|2,_=>rfl)),Xa<|((A.setCell (gX _) _).setCell (gX _) _).setCell (gX _) _⟩;generalize (((p.setCell _ _).setCell _ _).setCell _ _)=S at*;let⟨h,C⟩:=k;have u:=h.cell (i:=0) vZ;have x:=h.cell (i:=1) vZ;have y:=h.cell (i:=2) vZ;simp only[LU]at u x y;exact cC (v:=.agg #[Hp V,Hq,Hp 0]) (by simp[results,results5,go_sem,u,x,y]) rfl ⟨rfl,C⟩
structure TF(w:World)(L:Nat)(vals:List Value)(fl:List (List Int)):Prop where
 len:vals.length=fl.length
 at_:∀(j:Nat)(h:j<fl.length),∃a c,vals[j]?=some (.slice a fl[j].length c)/\Xf w L w.heap.size a fl[j]
theorem TF.nil(w:World)(L:Nat):TF w L [] []:=⟨rfl,λj h=>absurd h sP⟩
theorem TF.app{v1 v2:List Value}{f1 f2:List (List Int)}(a:TF w n v1 f1)(d:TF w n v2 f2):TF w n (v1++v2) (f1++f2):=by
 refine⟨by rw[aQ,aQ,a.len,d.len],λj f=>?_⟩;rw[aQ]at f;by_cases e:j<f1.length
 .let⟨b,c,e1,e2⟩:=a.at_ j e;refine⟨b,c,?_,?_⟩
  .rw[dL (by rw[a.len];exact e),fA e];exact e1
  rw[fA e];exact e2
 let⟨b,c,e1,e2⟩:=d.at_ (j-f1.length) oM;refine⟨b,c,?_,?_⟩
 .rw[eV (by rw[a.len];omega),a.len,fN oM];exact e1
 rw[fN oM];exact e2
theorem yN{f:Nat->List Int}(q:XR w n m (some ⟨k,0,none⟩) ((List.range B).map f))(s:m<=w.heap.size):∃vals:List Value,TF w n vals ((List.range B).map f)/\(∀j u,vals[j]?=some u->w.cell? (Hk k j)=some u)/\∀u∈vals,∃d t c,u=.slice d t c:=by
 have g:∀j,j<B->∃v:Value,w.cell? (Hk k j)=some v/\∃d c,v=.slice d (f j).length c/\Xf w n w.heap.size d (f j):=λj a=>by
  let⟨b,z,h,y,d,c,l,p⟩:=q j (by simpa using a);simp only[cM,dW]at l p;injection h with h;injection h with e1 e2;subst e1 e2;rw[aV]at l;exact⟨_,l,d,c,rfl,p.mono (aA _) s⟩
 refine⟨(List.range B).map λj=>if a:j<B then (g j a).choose else Hq,⟨sP,λj a=>?_⟩,λj u e=>?_,λu e=>?_⟩
 .have o:j<B:=by simpa using a
  let⟨x,d,c,i,r⟩:=(g j o).choose_spec;refine⟨d,c,?_,?_⟩
  .rw[dX,iQ o];simp only[jY,o,dif_pos,cM,dW];rw[i]
  simp only[cM,dW];exact r
 .by_cases a:j<B
  .rw[dX,iQ a]at e;simp only[jY,a,dif_pos]at e;injection e with e;rw[<-e];exact(g j a).choose_spec.1
  rw[dK<|by simp;omega]at e;cases e
 obtain⟨j,a,rfl⟩:=aY.1 e;have a:=bE.1 a;simp only[a,dif_pos];let⟨_,d,c,i,_⟩:=(g j a).choose_spec;exact⟨d,_,c,i⟩
structure MJ(w2 wr:World)(b0 L:Nat)(u:Value)(fl:List (List Int)):Prop where
 os:wr.os=w2.os
 tape:wr.tape=w2.tape
 output:wr.output=w2.output
 size:w2.heap.size<=wr.heap.size
 fr:∀q,q<w2.heap.size->q≠b0->wr.heap[q]?=w2.heap[q]?
 ob:∀q,u.ownBlock=some q->q=b0\/w2.heap.size<=q
 own:∃vals:List Value,TF w2 L vals fl/\wr.ownsRow b0 69 1 u fl.length vals
theorem MJ.push{wr:World}{u':Value}{c f2:List (List Int)}{vals v2:List Value}(h:MJ w wr n m a c)(k:TF w m vals c)(f:TF w m v2 f2)(b:wr.grownBy v a.ownBlock)(j:v.ownsRow n 69 1 u' (c.length+f2.length) (vals++v2))(i:u'.ownBlock=a.ownBlock\/u'.ownBlock=some wr.heap.size):MJ w v n m u' (c++f2):=by
 have l:=h.size;refine⟨b.os.trans h.os,b.tape.trans h.tape,b.output.trans h.output,aJ h.size b.size,λq d g=>(b.block q oM λe=>by rcases h.ob q e.symm with e|e<;>omega).trans (h.fr q d g),λq e=>?_,_,k.app f,by rw[aQ];exact j⟩;rcases i with e1|e1;·exact h.ob q<|e1.symm.trans e
 rw[e1]at e;injection e with e;exact aZ oM
theorem r8(a:Jy n x)(b:Nat):(IM x n b).length<=b*4001:=by
 induction b with
 |zero=>simp[IM]
 |succ b c=>
  rw[Ve,aQ];have:=j6 a b;simp;omega
theorem xk(V:Nat)(e:Option Addr)(n c:Nat)(a:List Xe)(L B:Nat)(w:World)(ha:Hs (Xp w L B e a))(C:Hs (n=a.length))(hB:B<=w.heap.size)(o:Hs (Jy V a)) :
 Calls prog 22 #[.agg #[Hp V,.slice e n c]] w λg D=>∃M cc,g=.returned (Hl M (IM a V n).length cc)/\Below w.heap.size w D/\XR D w.heap.size D.heap.size (some ⟨M,0,none⟩) (IM a V n):=by
 have hn:n<=1000:=oP C.o o.okf.n2;have a6:0<n:=oP C.o o.okf.n1;let⟨i0,ar,az,a0,a1⟩:=Xq N1;have t:Below w.heap.size w ((w.alloc<|.cells #[Hp V,.slice e n c] 25).alloc (.cells #[] 69)):=Xb (Xb (Below.refl _ _) _) _;have ap:((w.alloc<|.cells #[Hp V,.slice e n c] 25).alloc (.cells #[] 69)).cell? (Hk w.heap.size 0)=some (Hp V):=by simp[go_sem]
 have aq:((w.alloc<|.cells #[Hp V,.slice e n c] 25).alloc (.cells #[] 69)).cell? (Hk w.heap.size 1)=some (.slice e n c):=by simp[go_sem]
 have z:((w.alloc<|.cells #[Hp V,.slice e n c] 25).alloc (.cells #[] 69)).ownsRow (w.heap.size+1) 69 1 (Hl (w.heap.size+1) 0 0) 0 []:=by
  have h:=eI (base:=w.heap.size+1) (e:=69) (size:=1) (w.alloc<|.cells #[Hp V,.slice e n c] 25) #[] 0 sP sP rfl;rw[aO]at h;exact h
 go_in
 go_wp2_with fail
 generalize (w.alloc _).alloc _=s at*;have a8:w.heap.size+1<s.heap.size:=(z.lt _ rfl).2;have H:=Xa<|pS V e n c a L B s (Xa<|ha.keep (t.mono hB)) C (oN t.size) o;refine H.mono ?_;rintro g k⟨gO,cO,G,rfl,v,a4,O⟩;have Y:=Xa O;have a9:=v.size;have l:=Xa<|Xg t v;have E:Hs (MJ k k (w.heap.size+1) s.heap.size (Hl (w.heap.size+1) 0 0) (IM a V 0)):=Xa ⟨rfl,rfl,rfl,aA _,λ_ _ _=>rfl,λq g=>bC (by injection g with g;exact g.symm),[],by
  have h:=TF.nil k s.heap.size;exact h,by
  have h:=rW z v;exact h⟩
 have X:Hs (∀b,b<=n->(IM a V b).length<=4001000):=Xa (λb Q=>by have:=r8 o b;have:b*4001<=1000*4001:=jI _ oM;omega);clear v O H z t ap aq;go_wp2
 go_loopw [3,5] (λu r wr=>∃b:Nat,b<=n/\r=Hp b/\Hs (MJ k wr (w.heap.size+1) s.heap.size u (IM a V b))) λ_ r _=>n-(intOf r).toNat
 case atStart=>exact⟨0,aN _,rfl,E⟩
 clear E;obtain⟨b,Q,rfl,d⟩:=hrel;by_cases ax:b<n
 .let⟨y,h2,N⟩:=Y b ax;let⟨U,v1,v2,v3⟩:=yN N<|aA _;have J:=Xa v1;let⟨vals,p,f⟩:=d.own;have HV:=Xa p;have ac:=Xa f;have I:=Xa<|Ve a V b;have a2:=X b Q;have a3:=j6 o b;have S:U.length=(Tu a b).length+1:=by rw[v1.len];simp
  have eO:=(Xc<|d.fr gO (aI k _ y) oM).trans y;have W:=Xa λj u i=>(Xc<|d.fr (G b) (aI k _<|v2 j u i) oM).trans (v2 j u i);have ad:=Xa v3;have a7:=d.size;let⟨m,A⟩:∃m,m=(Tu a b).length+1:=⟨_,rfl⟩;rw[<-A]at eO S I;have a5:m<=4001:=oM;have aa:Hs (((List.range m).map (UU a V b)).length=m):=Xa sP;rw[<-A]at J;clear p f v1 v2 v3 y h2 N A;go_wp2_with (at_builtin;refine bT _ rfl _ _ 65 rfl (w.heap.size+1) 69 i0 (.agg #[Hq]) 1 24 underlying65 ar az a0 a1 rfl vZ _ _ _ rfl ac (Hk (G b) 0) m m U rfl (by rw[S,iN]) ?c1 ?c2 ?c3 ?c4 ?c5 ?_)
  case c1=>
   intro j u i;have e2:((Hk (G b) 0):Addr).add j=(Hk (G b) j):=by rw[mK];simp
   rw[e2];exact W j u i
  case c2=>
   intro u hu;obtain⟨_,_,_,rfl⟩:=ad u hu;rfl
  case c3=>unfold maxLen;omega
  case c4=>omega
  case c5=>omega
  intro v8 w8 T R _ P;have F:=Xa (d.push HV J R (by rw[aa.o];exact T) P);rw[<-I.o]at F;clear T R P;go_wp2;exact⟨⟨b+1,oM,gM,F⟩,by simp[intOf];omega⟩
 have al:n=b:=oM
 subst al;let⟨vals,p,f⟩:=d.own;have ay:0<(IM a V n).length:=by
  obtain⟨q,rfl⟩:∃q,n=q+1:=⟨n-1,oM⟩;rw[Ve];simp;omega
 obtain⟨x,c8,rfl,_,_⟩:=Xm f ay;have Z:Hs (XR wr w.heap.size wr.heap.size (some ⟨x,0,none⟩) (IM a V n)):=Xa (λj i=>by
  let⟨aj,cj,e1,e2⟩:=p.at_ j i;refine⟨x,0,rfl,⟨oN<|(f.lt _ rfl).1,(f.lt _ rfl).2⟩,aj,cj,by rw[aV];exact Jj f e1,λr hi=>?_⟩;let⟨K,o',e3,af,ao⟩:=e2 r hi;exact⟨K,o',e3,⟨oM,oN d.size⟩,(Xc<|d.fr K af.2 oM).trans ao⟩)
 have ab:=Xa (show Below w.heap.size w wr from⟨d.os.trans l.os,d.tape.trans l.tape,d.output.trans l.output,oP l.size d.size,λq hq=>(d.fr q oM oM).trans (l.block q hq)⟩);clear p f;go_wp2;go_ret;exact⟨x,c8,rfl,ab,Z⟩
theorem qb(h:E5 t x=0):XJ ⟨t,x⟩=true:=by
 cases hv:XJ ⟨t,x⟩with
 |true=>rfl
 |false=>rw[Uh hv]at h;exact absurd h vZ
def MC(a:List Int)(k:Int)(q:Nat):Prop:=∀i (h:i<a.length),i<q->0<=a[i]/\a[i]<k
theorem tJ(a:List Int)(k:Int):MC a k 0:=λi _ h=>absurd h oM
theorem tx(h:MC l t n)(hq:n<l.length)(a:0<=l[n]/\l[n]<t):MC l t (n+1):=λi b c=>by
 by_cases e:i=n;·subst e;exact a
 exact h i b oM
theorem tT(h:MC l t l.length):∀c∈l,0<=c/\c<t:=λc b=>by
 obtain⟨i,a,rfl⟩:=bR b;exact h i a a
theorem tD{v:Int}{xs:List Xe}{k:Int}(hq:n<l.length)(h:¬(0<=l[n]/\l[n]<k)):¬Lr v xs l k:=λa=>h<|a.2.2.2.2.1 _ (aH hq)
theorem q9(h:n<l.length):Hh l n=l[n]:=by
 unfold Hh;rw[bF,aC h];rfl
theorem Bj(ha:n<L.length)(e:L[n]=(m:Int)):UM l L n=Hh l m:=by
 unfold UM;rw[bF,aC ha,gR,e];rfl
theorem Cr(v:Int)(D:Option Addr)(o c:Nat)(e:List Xe)(aj J:Nat)(O:Option Addr)(f cc:Nat)(a:List Int)(Lc Bc:Nat)(k:Int)(w:World)(ha:Hs (Xp w aj J D e))(n:Hs (o=e.length))(hs:Hs (e.length+Xx e<=1048576))(hB:J<=w.heap.size)(hc:Hs (Xf w Lc Bc O a))(H:Hs (f=a.length))(cg:Bc<=w.heap.size)(cr:f<=1048576) :
 Calls prog 8 #[.agg #[Hp v,.slice D o c],.slice O f cc,Hp k] w λG w'=>G=.returned (.bool (IR v e a k))/\Below w.heap.size w w':=by
 have ad:=Xa λW (Q:Below w.heap.size w W)=>KT v D o c e aj J W (Xa<|ha.keep (Q.mono hB)) n hs (oN Q.size);let⟨X,az⟩:∃X,X=E5 v e:=⟨_,rfl⟩;rw[<-az]at ad;have af:=Xa az;clear az
 go_in
 go_wp2_with fail
 refine(ad _<|Xb (Below.refl _ _) _).mono ?_;rintro G t⟨rfl,R⟩;let⟨ao,b0⟩:=Hg R;have k0:t.cell? (Hk w.heap.size 0)=some (Hp v):=by rw[ao _ _ sP];simp
 have k1:t.cell? (Hk w.heap.size 1)=some (.slice D o c):=by rw[ao _ _ sP];simp
 have g:=Xa<|Xg (Xb (Below.refl w.heap.size w) _) R;have cv:w.heap.size+1<=t.heap.size:=by have:=R.size;simp at this;omega
 clear ao b0 R ad;by_cases hv:X=0
 case neg=>
  have r:=Xa (Jd (v:=v) (xs:=e) (cs:=a) (k:=k) λh=>hv<|af.trans h.1);have bo:(X != 0)=true:=by rw[jJ];exact hv
  go_wp2;go_ret;exact⟨Xl r.symm,g⟩
 subst hv;by_cases cp:k<0
 .have r:=Xa (Jd (v:=v) (xs:=e) (cs:=a) (k:=k) λh=>by have:=h.2.1;omega);go_wp2;go_ret;exact⟨Xl r.symm,g⟩
 by_cases cq:2000<k
 .have r:=Xa (Jd (v:=v) (xs:=e) (cs:=a) (k:=k) λh=>by have:=h.2.2.1;omega);go_wp2;go_ret;exact⟨Xl r.symm,g⟩
 by_cases ay:(f:Int)=v
 case neg=>
  have r:=Xa (Jd (v:=v) (xs:=e) (cs:=a) (k:=k) λh=>ay<|by rw[H.o];exact h.2.2.2.1);have bo:((f:Int) != v)=true:=by rw[jJ];exact ay
  go_wp2;go_ret;exact⟨Xl r.symm,g⟩
 subst ay;have bo:((f:Int) != (f:Int))=false:=sP;have L:=Xa<|XH (qb af.symm);have ck:=L.vle;have a6:Hs (∀W,Below t.heap.size t W->∀(q:Nat)(h:q<f),∃b p,O=some (Hk b p)/\W.cell? (Hk b<|p+q)=some (Hp<|Hh a q)):=Xa (λW hW q hq=>by
  have A:q<a.length:=by rw[<-H.o];exact hq
  let⟨b,p,G,Q,h⟩:=hc q A;refine⟨b,p,G,?_⟩;rw[q9 A];exact oB hW ((XU g oM).trans h) oM)
 have a3:=Xa<|xk f D o c e aj J t (Xa<|ha.keep (g.mono hB)) n (oN g.size) L;go_wp2
 go_loop [7] (λi=>∃q:Nat,q<=f/\i=Hp q/\Hs (MC a k q)) λi=>f-(intOf i).toNat
 case atStart=>exact⟨0,aN _,rfl,Xa<|tJ _ _⟩
 obtain⟨q,hq,rfl,HQ⟩:=hrel;by_cases bl:q<f
 .obtain⟨b,p,rfl,e0⟩:=a6 t (Below.refl _ _) q bl;have A:q<a.length:=by rw[<-H.o];exact bl
  have aa:=Xa λh=>Jd<|tD (v:=(f:Int)) (xs:=e) (k:=k) A h;have bd:=Xa λh=>tx HQ A h;have a9:=Xa<|q9 A;rw[<-a9.o]at aa bd;clear a9;generalize Hh a q=a2 at*;have ct:(q:Int)<(f:Int):=oM;by_cases ch:a2<0
  .go_wp2;go_ret;exact⟨Xl (aa oM).symm,g⟩
  by_cases ci:k<=a2
  .go_wp2;go_ret;exact⟨Xl (aa oM).symm,g⟩
  go_wp2;exact⟨⟨q+1,oM,gM,Xa<|bd.o oM⟩,by simp[intOf];omega⟩
 have b8:q=f:=oM;subst b8;have a8:=Xa (tT<|by rw[<-H.o];exact HQ);go_wp2_with fail
 refine a3.mono ?_;rintro G m⟨gA,cA,rfl,S,al⟩;have a4:=Xa<|Xg g S;have a7:Hs (∀W,Below m.heap.size m W->∀(u:Nat)(h:u<q),∃b p,O=some (Hk b p)/\W.cell? (Hk b<|p+u)=some (Hp<|Hh a u)):=Xa λW hW=>a6 W<|S.trans (hW.mono S.size);let⟨d,l⟩:∃d,d=IM e q o:=⟨_,rfl⟩;have br:=Xa l;rw[<-l]at al;rw[<-l];let⟨N,s⟩:∃N,N=d.length:=⟨_,rfl⟩;have ce:=Xa s;rw[<-s];have cj:N<=4001000:=by
  have h1:=r8 L o;have h2:=L.okf.n2;have h3:=n.o;have h4:o*4001<=1000*4001:=jI _ oM;rw[<-l]at h1;omega
 have bt:Hs (∀B,Below m.heap.size m B->∀i,i<N->∃y F,B.cell? (Hk gA i)=some (.slice y (d.getD i []).length F)/\∀j,j<(d.getD i []).length->∃E I u,y=some (Hk E I)/\u<q/\B.cell? (Hk E<|I+j)=some (Hp ((u:Nat):Int))/\UM a (d.getD i []) j=Hh a u):=Xa (λB V i T=>by
  have z:i<d.length:=by rw[<-s];exact T
  let⟨P,o',e',bw,y,F,bf,b1⟩:=al i z;injection e' with e';injection e' with e1 e2;subst e1 e2;rw[aV]at bf;have ap:d.getD i []=d[i]:=by rw[bF,aC z];rfl
  rw[ap];have ca:=pT (xs:=e) (V:=q) (l:=d[i]) (by rw[<-n.o,<-l];exact aH z);refine⟨y,F,oB V bf bw.2,λj U=>?_⟩;let⟨E,I,e3,bx,bi⟩:=b1 j U;let⟨u,hu,eu⟩:=ca.2 _<|aH U;rw[eu]at bi;exact⟨E,I,u,e3,hu,oB V bi bx.2,Bj U eu⟩)
 have bv:Hs (∀i,i<N->(d.getD i []).length<=q):=Xa (λi T=>by
  have z:i<d.length:=by rw[<-s];exact T
  have ap:d.getD i []=d[i]:=by rw[bF,aC z];rfl
  rw[ap];exact(pT (xs:=e) (V:=q) (l:=d[i]) (by rw[<-n.o,<-l];exact aH z)).1)
 have bp:Hs (∀i j b,i<N->j<(d.getD i []).length->b<j->UM a (d.getD i []) j=UM a (d.getD i []) b->IR (q:Int) e a k=false):=Xa (λi j b h1 h2 h3 h4=>Jd<|AP (i:=i) (a:=j) (b:=b) (l:=d.getD i []) (by rw[l,n.o];rfl) (by rw[show((q:Int)).toNat=q from rfl,<-n.o,<-l,<-s];exact h1) h2 h3 h4);have bq:Hs (L9 a d N->IR (q:Int) e a k=true):=Xa (λh=>nK ⟨af.symm,oM,oM,by rw[H.o],a8,(sM a8).1 (by rw[show((q:Int)).toNat=q from rfl,<-n.o,<-l,<-s];exact h)⟩);clear S al a3 l s HQ br;go_wp2
 go_loopw [9] (λi wr=>∃i':Nat,i'<=N/\i=Hp i'/\Hs (Below m.heap.size m wr)/\Hs (L9 a d i')) λi _=>N-(intOf i).toNat
 case atStart=>exact⟨0,aN _,rfl,Xa<|Below.refl _ _,Xa<|AM _ _⟩
 obtain⟨i,T,rfl,Y,HU⟩:=hrel;by_cases ax:i<N
 .have M:=Xa λB V=>bt B V i ax;have Z:=Xa λj b=>bp i j b ax;have bn:=bv i ax;have ab:=Xa λh=>BN (i:=i) HU h;let⟨a1,ar⟩:∃a0,a0=d.getD i []:=⟨_,rfl⟩;rw[<-ar]at Z ab bn;simp only[<-ar]at M;let⟨ln,aq⟩:∃a0,a0=a1.length:=⟨_,rfl⟩;rw[<-aq]at Z ab bn;simp only[<-aq]at M;clear ar aq;have cm:(i:Int)<(N:Int):=oM;go_wp2
  go_loopw [10] (λj wr=>∃j':Nat,j'<=ln/\j=Hp j'/\Hs (Below m.heap.size m wr)/\Hs (Lw a a1 j')) λj _=>ln-(intOf j).toNat
  case atStart=>exact⟨0,aN _,rfl,Y,Xa<|A5 _ _⟩
  clear Y;obtain⟨j,U,rfl,K,HA⟩:=hrel;let⟨y,F,x1,C⟩:=M wr K;by_cases bm:j<ln
  .have co:(j:Int)<(ln:Int):=oM;clear C;go_wp2_with fail
   clear x1
   go_loopw [11] (λb wr=>∃P:Nat,P<=j/\b=Hp P/\Hs (Below m.heap.size m wr)/\Hs (MN a a1 j P)) λb _=>j-(intOf b).toNat
   case atStart=>exact⟨0,aN _,rfl,K,Xa<|Bw _ _ _⟩
   clear K;obtain⟨b,Q,rfl,x,a5⟩:=hrel;by_cases b7:b<j
   .let⟨y,F,x1,C⟩:=M wr x;obtain⟨E,I,u1,rfl,cb,y1,q1⟩:=C j bm;let⟨b4,o4,u2,e4,cd,y2,q2⟩:=C b oM;injection e4 with e4;injection e4 with e5 e6;subst e5 e6;obtain⟨bc,oc,rfl,z1⟩:=a7 wr x u1 cb;let⟨cf,cw,e7,z2⟩:=a7 wr x u2 cd;injection e7 with e7;injection e7 with e8 e9;subst e8 e9;have ba:=Xa<|Z.o j b bm b7;have bb:=Xa λh=>Aw (b:=b) a5 h;rw[q1,q2]at ba bb;clear q1 q2 C;generalize Hh a u1=c1 at*;generalize Hh a u2=c2 at*;have i1:(b:Int)<(ln:Int):=oM;have i2:(u1:Int)<(q:Int):=oM;have i3:(u2:Int)<(q:Int):=oM;have i4:(b:Int)<(j:Int):=oM;by_cases he:c1=c2
    .subst he;go_wp2_with fail
     go_quiet (fail)
     go_wp2;go_ret;exact⟨Xl (ba<|by trivial).symm,Xg a4<|iX x _⟩
    have cl:(c1==c2)=false:=by rw[iS];exact he
    go_wp2_with fail
    go_quiet (fail)
    go_wp2;exact⟨⟨b+1,oM,gM,Xa<|iX x _,Xa<|bb.o he⟩,by simp[intOf];omega⟩
   have bz:b=j:=oM;subst bz;go_wp2;exact⟨⟨b+1,oM,gM,x,Xa<|AL HA a5⟩,by simp[intOf];omega⟩
  have b6:j=ln:=oM;subst b6;clear C;go_wp2;exact⟨⟨i+1,oM,gM,K,Xa<|ab.o HA⟩,by simp[intOf];omega⟩
 have b5:i=N:=oM;subst b5;go_wp2;go_ret;exact⟨Xl (bq HU).symm,Xg a4 Y⟩
section
attribute [local go_sem] Oper.semAt_some
theorem ZC{F:Fence}{n:Nat}{P:Program}{fn:Func}{tmps:Array Value}{R:Ending->World->Prop}{W:World}(h:∃v,(results fn tmps).run P W=.ok v W/\R (.returned v) W):LeavesInM F n P fn tmps R [] .returning W:=h
structure L0(w3:World)(p:Nat)(cs:List Int)(pre:List Sd)(V:World):Prop where
 low:Below w3.heap.size w3 V
 ok:∀s∈pre,((L4 p s).map (US cs)).Nodup
structure Ls(w3:World)(Br p:Nat)(cs:List Int)(pre:List Sd)(V:World):Prop where
 os:V.os=w3.os
 tape:V.tape=w3.tape
 output:V.output=w3.output
 size:w3.heap.size<=V.heap.size
 bl:Br<w3.heap.size
 fr:∀q,q<w3.heap.size->q≠Br->V.heap[q]?=w3.heap[q]?
 row:V.rowIs Br 4 1 λ_=>.bool false
 bad:∃s∈pre,¬((L4 p s).map (US cs)).Nodup
section
variable {w3 V V': World} {Br p: Nat} {cs: List Int} {pre: List Sd}
theorem L0.far(h:L0 w3 p cs pre V)(k:Below w3.heap.size V V'):L0 w3 p cs pre V':=⟨h.low.trans k,h.ok⟩
theorem L0.own(w3:World)(p:Nat)(cs:List Int):OwnFrom w3.heap.size (L0 w3 p cs):=λpre V V' row h k q=>by
 have:=h.low.size;exact h.far ⟨k.os,k.tape,k.output,k.size,λb a=>k.block b oM λe=>by have:=(q b e.symm).1;omega⟩
theorem Ls.far(h:Ls w3 Br p cs pre V)(k:Below w3.heap.size V V'):Ls w3 Br p cs pre V' :=
 ⟨k.os.trans h.os,k.tape.trans h.tape,k.output.trans h.output,aJ h.size k.size,h.bl,λq q1 q2=>(k.block q q1).trans (h.fr q q1 q2),h.row.of_block<|k.block _ h.bl,h.bad⟩
theorem Ls.own(w3:World)(Br p:Nat)(cs:List Int):OwnFrom w3.heap.size (Ls w3 Br p cs):=λpre V V' row h k q=>by
 have:=h.size;exact h.far ⟨k.os,k.tape,k.output,k.size,λb a=>k.block b oM λe=>by have:=(q b e.symm).1;omega⟩
end
theorem AC{cs:List Int}{k:Int}{l:List Nat}(h:∀c∈cs,0<=c/\c<k)(d:∀u∈l,u<cs.length)(c:Nat):ft cs l c↔∃v∈l,US cs v=c:=by
 unfold ft US Hh;constructor
 .rintro⟨v,a,b⟩;refine⟨v,a,?_⟩;rw[bF,b];rfl
 rintro⟨v,a,b⟩;refine⟨v,a,?_⟩;rw[bF,aC<|d v a,gR]at b;rw[aC<|d v a];have:=(h _<|aH (d v a)).1;exact fI some oM
theorem CT{cs:List Int}{b:Nat}(h:∀c∈cs,0<=c/\c<(b:Int)){v:Nat}(a:v<cs.length):US cs v<b:=by
 unfold US Hh;rw[bF,aC a,gR];have:=h _<|aH a;omega
theorem yI(v:Int)(x:Option Addr)(s c:Nat)(a:List Xe)(bl a0:Nat)(y:Option Addr)(d G:Nat)(cs:List Int)(Lc Bc:Nat)(k:Int)(w:World)(ha:Hs (Xp w bl a0 x a))(hx:Hs (s=a.length))(Q:Hs (a.length+Xx a<=1048576))(hB:a0<=w.heap.size)(hO:Hs (Yy w))(hT:Hs (Yb w))(hZ:Hs (Jn w))(hc:Hs (Xf w Lc Bc y cs))(af:Hs (d=cs.length))(dj:Bc<=w.heap.size)(et:d<=1048576) :
 Calls prog 23 #[.agg #[Hp v,.slice x s c],.slice y d G,Hp k] w λe w'=>e=.returned (.bool (IR v a cs k))/\Below w.heap.size w w':=by
 have bd:=Xa λW (I:Below w.heap.size w W)=>Te v x s c a bl a0 W (Xa<|ha.keep (I.mono hB)) hx Q (oN I.size) (Xa<|hO.keep I hO.1) (Xa<|hT.keep I hT.1);let⟨vd,bv⟩:∃vd,vd=E5 v a:=⟨_,rfl⟩;rw[<-bv]at bd;have bf:=Xa bv;clear bv;refine(bM (n:=10)).1 ?_;refine callsIn_of_wp_marks func23 rfl trivial ?_ rfl;simp only[ntmps23,xY,Nat.reduceAdd,Nat.reduceSub];gi_wp2
 have dn:(λX:World=>Below w.heap.size w X/\w.heap.size+4<=X.heap.size/\X.cell? (Hk w.heap.size 0)=some (Hp v)/\X.cell? (Hk w.heap.size 1)=some (.slice x s c)/\X.cell? (Hk (w.heap.size+1) 0)=some (.slice y d G)/\X.cell? (Hk (w.heap.size+2) 0)=some (Hp k)/\Hs (X.rowIs (w.heap.size+3) 4 1 λ_=>.bool false)) ((((w.alloc<|.cells #[Hp v,.slice x s c] 25).alloc (.cells #[.slice y d G] 27)).alloc (.cells #[Hp k] 2)).alloc (.cells #[.bool false] 4)):=⟨Xb (Xb (Xb (Xb (Below.refl _ _) _) _) _) _,sP,(by simp[go_sem]),(by simp[go_sem]),(by simp[go_sem]),(by simp[go_sem]),(Xa (by
  have h:=eK (((w.alloc<|.cells #[Hp v,.slice x s c] 25).alloc (.cells #[.slice y d G] 27)).alloc (.cells #[Hp k] 2)) #[.bool false] 4 (λ_=>.bool false) (λS hi=>by match S,hi with|0,_=>rfl)
  rw[aO,aO,aO]at h;exact h))⟩
 generalize (((w.alloc _).alloc _).alloc _).alloc _=w0 at*;let⟨bq,ev,c0,c1,c2,c3,b8⟩:=dn;refine⟨trivial,(bM.2<|bd w0 bq).mono ?_⟩;rintro e t⟨rfl,J⟩;have ey:=J.size;have k0:=(XU J oM).trans c0;have k1:=(XU J oM).trans c1;have k2:=(XU J oM).trans c2;have k3:=(XU J oM).trans c3;have al:=Xa<|b8.of_block (J.block _ oM);have k4:=al.cell (i:=0) vZ;have k5:=al.frozen 0;have a7:=Xa<|Xg bq J;have M:Hs (IR v a cs k=false->(t.setCell (Hk (w.heap.size+3) 0) (.bool false)).cell? (Hk (w.heap.size+3) 0)=some (.bool (IR v a cs k))/\Below w.heap.size w (t.setCell (Hk (w.heap.size+3) 0) (.bool false))):=Xa (λh=>by
  refine⟨?_,a7.setCell (by show w.heap.size<=w.heap.size+3;omega) _⟩;rw[h];simpa using(al.set 0<|.bool false).cell (i:=0) vZ)
 clear J bq c0 c1 c2 c3 bd b8;by_cases hv:vd=0
 case neg=>
  have f:=Xa (M.o<|Jd (v:=v) (xs:=a) (cs:=cs) (k:=k) λh=>hv<|bf.trans h.1);have bt:(vd != 0)=true:=by rw[jJ];exact hv
  gi_wp2;have l:=f.1;exact ZC ⟨.bool (IR v a cs k),by simp[results,results23,go_sem,l],rfl,f.2⟩
 subst hv;by_cases dw:k<0
 .have f:=Xa (M.o (Jd (v:=v) (xs:=a) (cs:=cs) (k:=k) λh=>by have:=h.2.1;omega));gi_wp2;have l:=f.1;exact ZC ⟨.bool (IR v a cs k),by simp[results,results23,go_sem,l],rfl,f.2⟩
 by_cases d0:2000<k
 .have f:=Xa (M.o (Jd (v:=v) (xs:=a) (cs:=cs) (k:=k) λh=>by have:=h.2.2.1;omega));gi_wp2;have l:=f.1;exact ZC ⟨.bool (IR v a cs k),by simp[results,results23,go_sem,l],rfl,f.2⟩
 by_cases br:(d:Int)=v
 case neg=>
  have f:=Xa (M.o<|Jd (v:=v) (xs:=a) (cs:=cs) (k:=k) λh=>br<|by rw[af.o];exact h.2.2.2.1);have bt:((d:Int) != v)=true:=by rw[jJ];exact br
  gi_wp2;have l:=f.1;exact ZC ⟨.bool (IR v a cs k),by simp[results,results23,go_sem,l],rfl,f.2⟩
 subst br;have bt:((d:Int) != (d:Int))=false:=sP;have ba:=Xa<|XH (qb bf.symm);have ei:=ba.vle;have b0:Hs (∀(q:Nat)(h:q<d),∃b K,y=some (Hk b K)/\t.cell? (Hk b<|K+q)=some (Hp<|Hh cs q)/\∃h:q<cs.length,Hh cs q=cs[q]):=Xa (λq hq=>by
  have aj:q<cs.length:=by rw[<-af.o];exact hq
  let⟨b,K,e,I,h⟩:=hc q aj;have e2:Hh cs q=cs[q]:=by
   unfold Hh;rw[bF,aC aj];rfl
  refine⟨b,K,e,?_,aj,e2⟩;rw[e2];exact(XU a7 oM).trans h)
 gi_wp2
 gi_loop [30] (λS=>∃q:Nat,q<=d/\S=Hp q/\Hs (MC cs k q)) λS=>d-(intOf S).toNat
 case atStart=>exact⟨0,aN _,rfl,Xa<|tJ _ _⟩
 obtain⟨q,hq,rfl,HQ⟩:=hrel;by_cases d5:q<d
 .obtain⟨b,K,rfl,e0,aj,eq⟩:=b0 q d5;have a9:=Xa λh=>M<|Jd (tD (v:=(d:Int)) (xs:=a) (k:=k) aj h);have ce:=Xa λh=>tx HQ aj h;rw[<-eq]at a9 ce;clear eq M;generalize Hh cs q=cf at*;have eu:(q:Int)<(d:Int):=oM;by_cases ec:cf<0
  .have f:=Xa<|a9.o oM;gi_wp2;have l:=f.1;exact ZC ⟨.bool (IR (d:Int) a cs k),by simp[results,results23,go_sem,l],rfl,f.2⟩
  by_cases ed:k<=cf
  .have f:=Xa<|a9.o oM;gi_wp2;have l:=f.1;exact ZC ⟨.bool (IR (d:Int) a cs k),by simp[results,results23,go_sem,l],rfl,f.2⟩
  gi_wp2;exact⟨⟨q+1,oM,gM,Xa<|ce.o oM⟩,by simp[intOf];omega⟩
 have ea:q=d:=oM;subst ea;have a4:=Xa (tT<|by rw[<-af.o];exact HQ);clear HQ b0 M k4 k5;obtain⟨A,rfl⟩:=bX (show 0<=k by omega);gi_wp2;generalize decide ((A:Int)<0)=d1;generalize decide (2000<(A:Int))=d2;generalize (d1||d2)=d3;refine⟨trivial,(Wx 9 _ _ t).mono ?_⟩;rintro e w3⟨rfl,az⟩;have ap:Below t.heap.size t w3:=by rw[az];exact Xb (Below.refl _ _) _
 have ez:t.heap.size+1<=w3.heap.size:=by rw[az,aO];exact aA _
 have cl:w3.cell? (Hk t.heap.size 0)=some (Hp q):=by rw[az];simp[go_sem]
 have cm:w3.cell? (Hk t.heap.size 1)=some (.slice x s c):=by rw[az];simp[go_sem]
 have m:=Xa<|Xg a7 ap;have c7:=Xa<|(XU ap oM).trans k2;have c8:=Xa<|(XU ap oM).trans k3;have ca:=Xa<|al.of_block (ap.block _ oM);let⟨g,cq⟩:∃bw,bw=(q+63)/64:=⟨_,rfl⟩;have dc:=Xa cq;have dl:g<=100:=oM;let⟨u,cp⟩:∃bw,bw=(A+63)/64:=⟨_,rfl⟩;have db:=Xa cp;have ee:u<=100:=oM;have d4:A<=64*u:=oM;have ef:=hO.1;have eg:=hT.1;have du:(2: Nat)<w.heap.size:=aI w _<|hZ 0 vZ;have cw:=Xa<|ha.keep (m.mono hB);have dd:=Xa<|hO.keep m hO.1;have di:=Xa<|hT.keep m hT.1;have cz:=Xa cl;have c6:=Xa cm;have hn:s<=1000:=oP hx.o ba.okf.n2;clear ap az cq cp cl cm k0 k1 k2 k3 al dw d0 bt;gi_wp2
 refine jw (F:=Fence.wide) (n:=10) rfl vZ (gf:=105) (lb:=#[Hn t.heap.size]) rfl trivial (enters_of func105 kR rfl) (xu w3.heap.size t.heap.size bl a0 q s c g x (λz=>z=w.heap.size+3) a w3 cz c6 cw hx oM (aA _) dd di oM oM ba dc (Xa λz n i e=>oM) (Xa λz n e=>oM) (Xa λe=>oM) (Xa λe=>oM)) (λz=>wZ _ _ _ z) (λh k=>h.trans k) (λW cv K o' n i h3=>Zf.putObj W cv K o' oM i h3) (Below.refl _ _) (λ_ _=>rfl)
  (λ_=>L0 w3 (64*g) cs) (λc pre V=>c=.ret/\Ls w3 (w.heap.size+3) (64*g) cs pre V) (λ_=>L0.own w3 _ _) (λc B L V row h k q=>⟨h.1,Ls.own w3 _ _ _ B L V row h.2 k q⟩) (λ_ z B L A' R h o=>h.far ⟨o.os,o.tape,o.output,o.size,λb I=>o.block b (oN h.low.size) λe=>by injection e with e;omega⟩) (λ_=>⟨λz z' B L A' _ h k=>h.far<|k.mono oM,λc B L A' h k=>⟨h.1,h.2.far<|k.mono oM⟩⟩) (λz U _ _ hU=>⟨hU,λB h=>by simp at h⟩)
  (λz p a' U=>∃D:Nat,a'=⟨#[.agg #[Hp q,.slice x s c],.slice y q G,Hp A,Hn w.heap.size,Hn<|w.heap.size+1,Hn<|w.heap.size+1+1,Hn<|w.heap.size+1+1+1,undef,u8,Hn D,.agg #[Hp q,.slice x s c],Hp 0,.bool false,.bool false,Hp A,.bool d1,.bool d1,.bool d1,Hp A,.bool d2,.bool d3,.bool d3,.slice y q G,Hp q,Hn w.heap.size,Hp q,.bool false,.bool d3,.slice y q G,Hp q,Hp q,.bool false,u32,u33,u34,u35,u36,u37,u38,u39,u40,u41,.agg #[Hp q,.slice x s c],.func (.func 105) #[] #[Hn t.heap.size],.agg #[Hl z g p.C],undef,undef,undef,undef,undef,undef,undef,undef],[]⟩/\w3.heap.size<=D/\U.cell? (Hk D 0)=some (Hl z g p.C)) ?ownA ?assign ?body ?done ?stop
 case ownA=>
  rintro z p a' _ L U row⟨D,e,n,i⟩ o qq;refine⟨D,e,n,(Xc<|o.block D (aI L _ i) λe2=>?_).trans i⟩;let⟨ob,h3,h4⟩:=Yn i;let⟨_,o2,h5,h6⟩:=qq D e2.symm;rw[show L.heap[D]?=some ob from h3]at h5;injection h5 with h5;subst h5;rw[h4]at h6;cases h6
 case assign=>
  intro l' z pre p U KK R j r cg;have C:=Xa j;have df:=Xa r;have da:=Xa cg;clear j r cg;unfold tM;gi_wp2;have ay:Below U.heap.size U (U.alloc<|.cells #[Hl z g p.C] 59):=Xb (Below.refl _ _) _;exact da _ _ ⟨ay.size,λk K n _=>(ay.block k (aS.1 n).1).trans n⟩ (Zf.of_below ay C.low.size) (C.far<|ay.mono C.low.size) (vQ df ay) ⟨U.heap.size,rfl,C.low.size,by simp[go_sem]⟩
 case body=>
  rintro l' z pre p a' U R ep _ j r⟨D,rfl,ej,cj⟩ er;have C:=Xa j;have a6:=j.low.size;have e2:=(XU j.low oM).trans c7;have e3:=(XU j.low oM).trans c8;have Y:=Xa<|ca.of_block (j.low.block _ oM);have a5:=Xa<|m.trans (j.low.mono m.size);have b4:=Xa λW (hW:Below U.heap.size U W)=>VA z g p.C p.W y q G A u cs Lc Bc W (Xa<|r.2.1.of_block (hW.block z r.2.1.lt)) (Xa r.2.2) (Xa<|hc.keep ((a5.trans<|hW.mono a5.size).mono dj)) af (oN hW.size) (Xa<|hZ.of_block ((a5.trans<|hW.mono a5.size).block _ du)) dl (Xa r.1) oM db (Xa λc hc=>aZ<|a4 c hc);have b3:=Xa λW o T (n:Bf W o u u T) (i:XA T)=>wA o u u T W (Xa i) (Xa n) oM;have b5:=Xa λW (hW:Below U.heap.size U W)=>Kl z g p.C p.W W (Xa r.2.2) (Xa<|r.2.1.of_block (hW.block z r.2.1.lt)) oM;have b6:Hs (∀T,(∀c,c<64*u->(Xh T c=true↔ft cs (Hc p.W<|64*g) c))->(Hx T u<Hx p.W g↔¬((L4 (64*g) p).map (US cs)).Nodup)):=Xa (λT h=>by
   have hl:∀bx∈Hc p.W (64*g),bx<cs.length:=λbx hu=>by
    have n:=jo.1 hu;rw[<-af.o];exact r.1 bx n.1 n.2
   rw[rU,rU];exact Cu (λc hc=>(h c hc).trans (AC a4 hl c)) λv hv=>aX (CT a4<|hl v hv) d4)
  clear j r;gi_wp2;refine Tc (λw'=>w'.cell? (Hk D 0)=some (Hl z g p.C)/\w'.cell? (Hk (w.heap.size+1) 0)=some (.slice y q G)/\w'.cell? (Hk (w.heap.size+2) 0)=some (Hp A)) λhHeld=>?_;refine Yi 0 ?_;refine Yi 1 ?_;refine Yi 2 ?_;refine Yi 5 ?_;refine Yc 3 λbi hK=>?_;go_simp;refine⟨trivial,(CallsIn.inRound l'<|bM.2 (b4 U.drew (Below.refl U.heap.size U).drew)).mono ?_⟩;rintro e N⟨o,T,rfl,em,aa,ct,ck,cr⟩;have aq:Below U.heap.size U N:=⟨aa.os,aa.tape,aa.output,aa.size,aa.block⟩;have cx:=Xa aq;have a1:=oB aq cj<|aI U _ cj;have a2:=oB aq e2<|aI U _ e2;have a3:=oB aq e3<|aI U _ e3;have b1:=Xa<|b3.o N o T ct ck;have b7:=Xa<|b6.o T cr;have cb:=Xa<|b5.o;have ek:=TB T u;have el:=TB p.W g;clear aq aa ct ck cr b4 b3 b6 b5;refine hK _ _ ⟨a1,a2,a3⟩ λhHeld=>?_;clear hK;refine Yc 4 λbi hK=>?_;go_simp;refine⟨trivial,(CallsIn.inRound l'<|bM.2 b1).mono ?_⟩;rintro e O⟨rfl,ab⟩;have ar:Below N.heap.size N O:=⟨ab.os,ab.tape,ab.output,ab.size,ab.block⟩;have bz:=Xa<|Xg cx ar;have bm:=oB ar a1<|aI N _ a1;have bn:=oB ar a2<|aI N _ a2;have bo:=oB ar a3<|aI N _ a3;have cd:=Xa<|cb.o O bz;generalize Hx T u=nT at*;generalize Hx p.W g=nV at*;clear ar ab b1 cb;refine hK _ _ ⟨bm,bn,bo⟩ λhHeld=>?_;clear hK;refine Yc 6 λbi hK=>?_;go_simp;refine⟨trivial,(CallsIn.inRound l'<|bM.2 cd).mono ?_⟩;rintro e U7⟨rfl,ad⟩;have ax:Below O.heap.size O U7:=⟨ad.os,ad.tape,ad.output,ad.size,ad.block⟩;have F:=Xa<|Xg bz ax;have g1:=oB ax bm<|aI O _ bm;have g2:=oB ax bn<|aI O _ bn;have g3:=oB ax bo<|aI O _ bo;clear ax ad cd;refine hK _ _ ⟨g1,g2,g3⟩ λhHeld=>?_;clear hK;refine Yc 7 λbi hK=>?_;go_simp;refine hK _ _ kP λhHeld=>?_;clear hK;refine ZV ?_;clear hHeld;have bc:=Xa<|Y.of_block (F.block _ Y.lt);have r7:=bc.cell (i:=0) vZ;have f7:=bc.frozen 0;by_cases es:(nT:Int)<(nV:Int)
  .gi_wp2;have co:Zf w3.heap.size (λz=>z=w.heap.size+3) U (U7.setCell (Hk (w.heap.size+3) 0) (.bool false)):=(Zf.of_below F a6).trans (Zg ⟨rfl,rfl,rfl,by simp[World.setCell],λk _ hk=>Below.heap_setCell _ _ _ _ λe=>hk<|by rw[e]⟩ rfl (oN F.size));have h7:=C.low.trans<|F.mono a6;refine⟨⟨co.size,λz ob n i h3=>?_⟩,co,rfl,⟨h7.os,h7.tape,h7.output,by rw[Xd];exact h7.size,oM,λz q1 q2=>(Below.heap_setCell _ _ _ _ q2).trans (h7.block z q1),?_,p,fB _<|cS.2 rfl,b7.1 oM⟩⟩;·exact(Below.heap_setCell _ _ _ _<|by show z≠w.heap.size+3;omega).trans ((F.block z (aS.1 i).1).trans i)
   exact(bc.set 0 _).congr λS hi=>by rw[show S=0 by omega];simp
  gi_wp2;refine⟨⟨F.size,λz ob n i h3=>(F.block z (aS.1 i).1).trans i⟩,Zf.of_below F a6,C.low.trans<|F.mono a6,λB Q=>?_⟩;rcases bU.1 Q with h|h;·exact C.ok B h
  rw[cS.1 h];exact Classical.not_not.1 λi=>by have:=b7.2 i;omega
 case done=>
  rintro E z ss U hD R ch j P;have C:=Xa j;have a8:=Xa P;have Y:=Xa<|ca.of_block (j.low.block _ oM);have r7:=Y.cell (i:=0) vZ;have f7:=Y.frozen 0;have dk:=(aS.1 P).1;have bb:Hs (IR (q:Int) a cs (A:Int)=true):=Xa (nK ⟨bf.symm,oM,oM,by rw[af.o],a4,λcv hl=>by
   rw[show((q:Int)).toNat=q from rfl,<-hx.o,<-ch]at hl;obtain⟨B,Q,rfl⟩:=aY.1 hl;exact j.ok B Q⟩)
  clear j P ch;gi_wp2
  have c9:Hs ((U.setCell (Hk (w.heap.size+3) 0) (.bool true)).heap[E]?=some (.deferred (some []))):=Xa ((Below.heap_setCell _ _ _ _<|by show E≠w.heap.size+3;omega).trans a8);have l:((U.setCell (Hk (w.heap.size+3) 0) (.bool true)).putObj E (.deferred none)).cell? (Hk (w.heap.size+3) 0)=some (.bool true):=by
   refine(bZ (a:=(Hk (w.heap.size+3) 0)) (World.putObj_heap_other<|show w.heap.size+3≠E by omega)).trans ?_;simpa using(Y.set 0<|.bool true).cell (i:=0) vZ
  refine YK c9 ⟨.bool true,by simp[results,results23,go_sem,l],?_⟩;have ds:=m.trans<|C.low.mono m.size;have ao:Below w.heap.size w (U.setCell (Hk (w.heap.size+3) 0) (.bool true)):=ds.setCell (by show w.heap.size<=w.heap.size+3;omega) _;have H:=grownBy_putObj' (U.setCell (Hk (w.heap.size+3) 0) (.bool true)) E (.deferred none);have eb:=m.size;exact⟨by rw[bb.o],H.os.trans ao.os,H.tape.trans ao.tape,H.output.trans ao.output,aJ ao.size H.size,λz R=>(World.putObj_heap_other oM).trans (ao.block z R)⟩
 rintro E c' pre U hD ci⟨rfl,hX⟩ P;have a8:=Xa P;have dk:=(aS.1 P).1;have bb:Hs (IR (q:Int) a cs (A:Int)=false):=Xa (Jd (λh=>by
  let⟨B,Q,I⟩:=hX.bad;refine I<|h.2.2.2.2.2 _ ?_;rw[show((q:Int)).toNat=q from rfl,<-hx.o];exact ci.subset<|aY.2 ⟨B,Q,rfl⟩))
 have Z:=Xa hX;clear hX P ci;gi_wp2;have l:(U.putObj E<|.deferred none).cell? (Hk (w.heap.size+3) 0)=some (.bool false):=(bZ (a:=(Hk (w.heap.size+3) 0)) (World.putObj_heap_other<|show w.heap.size+3≠E by omega)).trans (Z.row.cell (i:=0) vZ);refine YK a8 ⟨.bool false,by simp[results,results23,go_sem,l],?_⟩;have H:=grownBy_putObj' U E<|.deferred none;have eb:=m.size;exact⟨by rw[bb.o],H.os.trans<|Z.os.trans m.os,H.tape.trans<|Z.tape.trans m.tape,H.output.trans<|Z.output.trans m.output,aJ m.size<|aJ Z.size H.size,λz R=>(World.putObj_heap_other oM).trans ((Z.fr z oM oM).trans (m.block z R))⟩
end
section
open Go.Deep
variable {H: Type} {enc: TypeId×Value -> H} {P: Program} {w: World} {base: Nat} {spare: Nat -> Bool} {held: Bool}
theorem Jh{a:Addr}{v:Value}(h:w.cell? a=some v):a.block<w.heap.size:=by
 unfold World.cell? at h;split at h
 .rename_i c _ _ b;exact(aS.1 b).1
 cases h
theorem yE{α:Type}[Inhabited α]{z k:TypeId}{C s:Nat}{t:List Value}{x:DataW H×List MemPlace}(L:P.underlying z=some (.slice k))(J:P.cellsOf k=s)(v:0<s)(Q:Nat->Nat->α->Prop)
 (hQ:∀b o a p A,(∀j,j<s->w.cell? (Hk b<|o+j)=a[j]?)->a.length=s->DataW.trod enc P w base spare held p k a=some A->∃x,Q b o x)
 (E:DataW.trod enc P w base spare held C z t=some x) :
 ∃(h:Option Addr)(q:List α)(c:Nat),t=[.slice h q.length c]/\q.length<=maxLen/\∀i (d:i<q.length),∃b o,h=some (Hk b o)/\b<w.heap.size/\Q b (o+i*s) q[i]:=by
 rcases open_slice L E with⟨rfl,_⟩|⟨h,len,cap,m,p,D,Pl,rfl,_,hl,hm,hmm,_,n⟩;·exact⟨none,[],0,rfl,aN _,λi d=>absurd d sP⟩
 rw[J]at n;have M:len<=m:=by rw[hmm];split<;>omega
 have r:∀i,i<len->∃a,a.length=s/\(∀j,j<s->w.cell? ((h.add<|i*s).add j)=a[j]?)/\DataW.trod enc P w base spare held p k a=some (D i,Pl i):=λi d=>by
  obtain⟨a,f,e⟩:=n i oM;obtain⟨_,g,l⟩:=World.cells?_some f;exact⟨a,g,l,e⟩
 obtain⟨b,o,y⟩:=h;by_cases I:len=0
 .subst I;exact⟨some ⟨b,o,y⟩,[],cap,rfl,aN _,λi d=>absurd d sP⟩
 have K:y=none:=by
  obtain⟨a,f,e,_⟩:=r 0 oM;have g:=e 0 v;rw[aC oM]at g;simpa [Addr.add]using World.cell?_spot g
 subst K;obtain⟨B,F⟩:=choose_lt (α:=α) (n:=len) (p:=λi x=>b<w.heap.size/\Q b (o+i*s) x) (λi d=>by
  obtain⟨a,f,e,g⟩:=r i d;have l:=λj G=>by
   have:=e j G;rw[Addr.add_mid,Addr.add_mid]at this;exact this
  obtain⟨x,n⟩:=hQ b (o+i*s) a p _ l f g;have u:=l 0 v;rw[aC oM]at u;exact⟨x,Jh u,n⟩)
 refine⟨some<|Hk b o,(List.range len).map B,cap,sP,by simp;omega,λi d=>?_⟩;simp only[bK,gI]at d;obtain⟨f,e⟩:=F i d;exact⟨b,o,rfl,f,by simpa using e⟩
end
section
open Go.Deep
variable {H: Type} {enc: TypeId×Value -> H} {w: World} {base: Nat} {spare: Nat -> Bool} {held: Bool}
theorem oI{a:List Value}{k:Nat}{v:Value}(h:(a.drop k).take 1=[v]):a[k]?=some v:=by
 have b:((a.drop k).take 1)[0]?=some v:=by rw[h];rfl
 rw[fH oM,jA]at b;simpa using b
theorem zE{a:List Value}{k m j:Nat}{v:Value}(h:((a.drop k).take m)[j]?=some v)(b:j<m):a[k+j]?=some v:=by
 rw[fH b,jA]at h;exact h
end
end Go.Proofs.YtffcajcgkblkoaaGreatDoor
