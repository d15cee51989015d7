import Derived.Test.YtghnlncgiihhgaaGreatDoorDT2
namespace Go.Proofs.YtghnlncgiihhgaaGreatDoor
set_option maxHeartbeats 8000000
set_option maxRecDepth 100000
open Go.RowKit Go.Proofs.Tryz
variable{t z:Int}{l:List Int}{x:List Xe}{n m k B g i j:Nat}{Z:Nat->Nat × Nat × Nat}{h H:Nat->Value}{a A:Value}{w v u:World}{q:Xe}
section
def Xr{T:Type}(f:T->T)(k:Nat)(l:List T):List T:=(l.take k).map f++l.drop k
variable {T : Type} {f : T -> T}
theorem Ys(k:Nat)(l:List T):(Xr f k l).length=l.length:=by simp[Xr];omega
theorem Tf(l:List T):Xr f 0 l=l:=by simp[Xr]
theorem Uj(l:List T):Xr f l.length l=l.map f:=by simp[Xr]
theorem Vw{k:Nat}{l:List T}(h:k<l.length)(a:k<(Xr f k l).length):(Xr f k l)[k]=l[k]:=by
 have e:(Xr f k l)[k]?=l[k]?:=by
  unfold Xr;rw[eV (by simp;omega)];simp only[bK,dH,jA];congr 1;omega
 rw[aC a,aC h]at e;injection e
theorem TR{k:Nat}{l:List T}(h:k<l.length):(Xr f k l).set k (f l[k])=Xr f (k+1) l:=by
 refine iG (fun r=>?_);by_cases e:k=r
 ·subst e
  rw[mM (by rw[Ys];exact h)];unfold Xr;rw[dL (by simp;omega)];simp[h]
 ·rw[dZ e]
  unfold Xr;by_cases a:r<k
  ·rw[dL (by simp;omega),dL (by simp;omega)]
   simp only[dX,fH a,fH (show r<k+1 by omega)]
  ·rw[eV (by simp;omega),eV (by simp;omega)]
   simp only[bK,dH,jA];congr 1;omega
noncomputable def rB:Code:=(f71.body.getD .skip)
noncomputable def rB1:Code:=(Kh rB).getD 0 .skip
noncomputable def rB2:Code:=(Kh rB1).getD 0 .skip
noncomputable def rB4:Code:=(Kh rB1).getD 1 .skip
noncomputable def rB3:Code:=(Kh rB2).getD 0 .skip
theorem vE(f:Nat->Value):(List.range' 9 161).map f=(f 9::f 10::f 11::f 12::f 13::f 14::f 15::f 16::f 17::f 18::f 19::f 20::f 21::f 22::f 23::f 24::f 25::f 26::f 27::f 28::f 29::f 30::f 31::f 32::f 33::f 34::f 35::f 36::f 37::f 38::f 39::f 40::f 41::f 42::f 43::f 44::f 45::f 46::f 47::f 48::f 49::f 50::f 51::f 52::f 53::f 54::f 55::f 56::f 57::f 58::f 59::f 60::f 61::f 62::f 63::f 64::f 65::f 66::f 67::f 68::f 69::f 70::f 71::f 72::f 73::f 74::f 75::f 76::f 77::f 78::f 79::f 80::f 81::f 82::f 83::f 84::f 85::f 86::f 87::f 88::f 89::f 90::f 91::f 92::f 93::f 94::f 95::f 96::f 97::f 98::f 99::f 100::f 101::f 102::f 103::f 104::f 105::f 106::f 107::f 108::f 109::f 110::f 111::f 112::f 113::f 114::f 115::f 116::f 117::f 118::f 119::f 120::f 121::f 122::f 123::f 124::f 125::f 126::f 127::f 128::f 129::f 130::f 131::f 132::f 133::f 134::f 135::f 136::f 137::f 138::f 139::f 140::f 141::f 142::f 143::f 144::f 145::f 146::f 147::f 148::f 149::f 150::f 151::f 152::f 153::f 154::f 155::f 156::f 157::f 158::f 159::f 160::f 161::f 162::f 163::f 164::f 165::f 166::f 167::f 168::f 169::[]):=rfl
theorem bh(a:List Value)(h:a.length=161):∃f:Nat->Value,a=(f 9::f 10::f 11::f 12::f 13::f 14::f 15::f 16::f 17::f 18::f 19::f 20::f 21::f 22::f 23::f 24::f 25::f 26::f 27::f 28::f 29::f 30::f 31::f 32::f 33::f 34::f 35::f 36::f 37::f 38::f 39::f 40::f 41::f 42::f 43::f 44::f 45::f 46::f 47::f 48::f 49::f 50::f 51::f 52::f 53::f 54::f 55::f 56::f 57::f 58::f 59::f 60::f 61::f 62::f 63::f 64::f 65::f 66::f 67::f 68::f 69::f 70::f 71::f 72::f 73::f 74::f 75::f 76::f 77::f 78::f 79::f 80::f 81::f 82::f 83::f 84::f 85::f 86::f 87::f 88::f 89::f 90::f 91::f 92::f 93::f 94::f 95::f 96::f 97::f 98::f 99::f 100::f 101::f 102::f 103::f 104::f 105::f 106::f 107::f 108::f 109::f 110::f 111::f 112::f 113::f 114::f 115::f 116::f 117::f 118::f 119::f 120::f 121::f 122::f 123::f 124::f 125::f 126::f 127::f 128::f 129::f 130::f 131::f 132::f 133::f 134::f 135::f 136::f 137::f 138::f 139::f 140::f 141::f 142::f 143::f 144::f 145::f 146::f 147::f 148::f 149::f 150::f 151::f 152::f 153::f 154::f 155::f 156::f 157::f 158::f 159::f 160::f 161::f 162::f 163::f 164::f 165::f 166::f 167::f 168::f 169::[]):=by
 have e:=Ku Value undef a 9 (fun i=>a.getD (i-9) undef) (fun i b=>by simp[b]);rw[h]at e;exact⟨fun i=>a.getD (i-9) undef,e.trans (vE _)⟩
structure KG(w wr:World)(lab:Nat->Nat × Nat × Nat)(base:Nat)(v G n c:Nat)(xs:List Xe)(pv iv:Nat->Value)(av:Nat->Nat->Value):Prop where
 fn:ZU wr lab base (.slice (some ⟨G,0,none⟩) n c) xs pv iv av
 bel:Below base w wr
 kept:∀b,b<w.heap.size->lab b=(0,0,0)->wr.heap[b]?=w.heap[b]?
 fr:∀b,w.heap.size<=b->lab b=(0,0,0)
 bs:base<=w.heap.size
 box:Bx wr w.heap.size #[.int .i64 (v:Int),.slice (some ⟨G,0,none⟩) n c] 25
 res:Bx wr (w.heap.size+1) #[.int .i64 0,.slice none 0 0] 25
variable {w wr w' : World} {lab : Nat -> Nat × Nat × Nat} {base v G n c : Nat} {xs xs' : List Xe} {pv iv : Nat -> Value} {av : Nat -> Nat -> Value}
theorem KG.step(h:KG w wr lab base v G n c xs pv iv av)(i:ZU w' lab base (.slice (some ⟨G,0,none⟩) n c) xs' pv iv av)(a:∀b,b<wr.heap.size->lab b=(0,0,0)->w'.heap[b]?=wr.heap[b]?)(g:Below base wr w'):KG w w' lab base v G n c xs' pv iv av :=
 ⟨i,h.bel.trans g,fun b d e=>(a b (aX d h.bel.size) e).trans (h.kept b d e),h.fr,h.bs,h.box.keep (a _ h.box.lt (h.fr _ (aA _))),h.res.keep (a _ h.res.lt (h.fr _ (gX _)))⟩
theorem KG.put{g q:Nat}{u:Value}(h:KG w wr lab base v G n c xs pv iv av)(d:ZU (wr.setCell ⟨g,q,none⟩ u) lab base (.slice (some ⟨G,0,none⟩) n c) xs' pv iv av)(i:lab g≠(0,0,0))(a:base<=g):KG w (wr.setCell ⟨g,q,none⟩ u) lab base v G n c xs' pv iv av :=
 h.step d (fun b _ e=>Below.heap_setCell _ _ _ _ (fun e2=>i (by rw[show g=b from e2.symm];exact e))) ((Below.refl base wr).setCell a u)
theorem KG.alloc(h:KG w wr lab base v G n c xs pv iv av)(o:Obj):KG w (wr.alloc o) lab base v G n c xs pv iv av:=by
 have k:XW wr (wr.alloc o) lab lab base (fun _=>True):=XW.box o;exact h.step (h.fn.sp k 0 (fun _ _ _ _ _=>trivial) (bC (fun _ _=>trivial))) (fun b a _=>Below.heap_alloc _ _ _ a) (Below.alloc (Below.refl _ _) (aJ h.bs h.bel.size) o)
theorem KG.drew(h:KG w wr lab base v G n c xs pv iv av):KG w wr.drew lab base v G n c xs pv iv av:=h.step (h.fn.sp (ok:=fun _=>True) ⟨aA _,fun _ _ _ _=>⟨rfl,rfl⟩,fun d b a=>d b a⟩ 0 (fun _ _ _ _ _=>trivial) (bC (fun _ _=>trivial))) (fun _ _ _=>rfl) (Below.refl _ _).drew
theorem KG.putx{g q:Nat}{u:Value}(h:KG w wr lab base v G n c xs pv iv av)(m:w.heap.size+2<=g):KG w (wr.setCell ⟨g,q,none⟩ u) lab base v G n c xs pv iv av:=by
 have l:=h.bs;have j:=h.fr g oM;have k:XW wr (wr.setCell ⟨g,q,none⟩ u) lab lab base (fun b=>b≠g):=XW.put g q u;have d:∀b,(lab b).1≠0->b≠g:=fun b a e=>a (by rw[e,j])
 refine⟨h.fn.sp k 0 (fun b a _ _ _=>d b a) (bC (fun b e=>d b (by rcases e with e | e<;>rw[e]<;>simp))),h.bel.trans ((Below.refl base wr).setCell (p:=⟨g,q,none⟩) (by show base<=g;omega) u),fun b a i=>(Below.heap_setCell _ _ _ _ (by show b≠g;omega)).trans (h.kept b a i),h.fr,h.bs,h.box.other oM,h.res.other oM⟩
end
structure LsO(w w':World)(lab:Nat->Nat × Nat × Nat)(base sb B:Nat)(s:Sr)(G n c:Nat)(xs:List Xe)(pv iv:Nat->Value)(av:Nat->Nat->Value):Prop where
 fn:ZU w' lab base (.slice (some ⟨G,0,none⟩) n c) xs pv iv av
 dr:ZQ w' sb B s
 os:w'.os=w.os
 tape:w'.tape=w.tape
 output:w'.output=w.output
 size:w.heap.size<=w'.heap.size
 low:∀b,b<base->b≠sb->w'.heap[b]?=w.heap[b]?
 fr:∀b,w.heap.size<=b->lab b=(0,0,0)
theorem LsS.done{wr:World}{s:Sr}{av:Nat->Nat->Value}{u0 u1:Value}(a:LsS w wr Z n m k s B g i j x h H av):LsO w ((wr.setCell ⟨w.heap.size+1,0,none⟩ u0).setCell ⟨w.heap.size+1,1,none⟩ u1) Z n m k s g i j x h H av:=by
 have o:=a.fr (w.heap.size+1) (gX _);have r:=a.bs;have q:=a.bb;have p:XW wr ((wr.setCell ⟨w.heap.size+1,0,none⟩ u0).setCell ⟨w.heap.size+1,1,none⟩ u1) Z Z n (fun b=>b≠w.heap.size+1):=((XW.put _ _ _).trans (XW.put _ _ _)).weak (fun _ f=>⟨f,f⟩);have d:∀b,(Z b).1≠0->b≠w.heap.size+1:=fun b c e=>c (by rw[e,o])
 refine⟨a.fn.sp p 0 (fun b c _ _ _=>d b c) (bC (fun b e=>d b (by rcases e with e | e<;>rw[e]<;>simp))),(a.dr.put oM).put oM,a.os,a.tape,a.output,by simpa [World.setCell]using a.size,fun b c l=>?_,a.fr⟩;have d:b≠w.heap.size+1:=oM;exact((Below.heap_setCell _ _ _ _ d).trans (Below.heap_setCell _ _ _ _ d)).trans (a.low b c l)
theorem uJ(V G n d:Nat)(a:List Xe)(K:Nat->Nat × Nat × Nat)(I:Nat)(pv iv:Nat->Value)(av:Nat->Nat->Value)(x B:Nat)(u:Sr)(w:World)(hF:Hid (ZU w K I (.slice (some ⟨G,0,none⟩) n d) a pv iv av))(hn:Hid (n=a.length))(h1:1<=n)(ci:n<=11)(bx:I<=w.heap.size)(b0:Hid (∀b,w.heap.size<=b->K b=(0,0,0)))(bi:Hid (ZQ w x B u))(bw:B<=I)(hV:V<=1000)(ca:Hid (Kg a))(bv:Hid (∀ce∈a,∀cd∈ce.ps,0<cd.args.length)) :
 Calls prog 30 #[.agg #[.int .i64 (V:Int),.slice (some ⟨G,0,none⟩) n d],.pointer (some ⟨x,0,none⟩)] w fun g w'=>g=.returned (.agg #[.int .i64 (V:Int),.slice (some ⟨G,0,none⟩) n d])/\LsO w w' K I x B (ZM V a u).2 G n d (ZM V a u).1 pv iv av:=by
 have c:Hid (ZM V a u=fw a (nextP u (n:Int)).1.toNat (nextP (nextP u (n:Int)).2 (V:Int)).1 (nextP (nextP u (n:Int)).2 (V:Int)).2):=Xa (by rw[hn.out];rfl);have al:Hid (LsS w ((w.alloc (.cells #[.int .i64 (V:Int),.slice (some ⟨G,0,none⟩) n d] 25)).alloc (.cells #[.int .i64 0,.slice none 0 0] 25)) K I x B u V G n d a pv iv av):=Xa (by
  have bp:XW w ((w.alloc (.cells #[.int .i64 (V:Int),.slice (some ⟨G,0,none⟩) n d] 25)).alloc (.cells #[.int .i64 0,.slice none 0 0] 25)) K K I (fun _=>True):=((XW.box _).trans (XW.box _)).weak (fun _ _=>⟨trivial,trivial⟩);refine⟨hF.sp bp 0 (fun _ _ _ _ _=>trivial) (bC (fun _ _=>trivial)),(bi.box _).box _,bw,rfl,rfl,rfl,bp.size,fun b h _=>(Below.heap_alloc _ _ _ (by simp;omega)).trans (Below.heap_alloc _ _ _ oM),b0,bx,(Bx.new _ _ _).box _,?_⟩;have:=Bx.new (w.alloc (.cells #[.int .i64 (V:Int),.slice (some ⟨G,0,none⟩) n d] 25)) #[.int .i64 0,.slice none 0 0] 25;rwa[aO]at this)
 clear hF bi
 go_in
 have x1:((w.alloc (.cells #[.int .i64 (V:Int),.slice (some ⟨G,0,none⟩) n d] 25)).alloc (.cells #[.int .i64 0,.slice none 0 0] 25)).cell? ⟨w.heap.size,1,none⟩=some (.slice (some ⟨G,0,none⟩) n d):=Bx.cell al.box rfl
 go_wp2_with fail
 generalize (w.alloc _).alloc _=w0 at *;refine(XC x B u (n:Int) w0 (Xa al.dr) oM oM).mono ?_;rintro g w1 ⟨rfl,q,k⟩;have ax:=fun j=>XE u (n:=(n:Int)) j
 have S:=Xa (al.call k q);obtain⟨rb,s1,r⟩:∃F H,nextP u (n:Int)=(F,H):=⟨_,_,rfl⟩;rw[r]at S c ax |-;dsimp only at S c ax |-;have b3:=ax oM;obtain⟨b,rfl⟩:=Zv b3.1;rw[dM]at c;clear q k r al x1 ax;have y0:Cl w1 w.heap.size 0 (.int .i64 (V:Int)):=Bx.cell S.box rfl
 go_wp2_with fail
 refine(XC x B s1 (V:Int) w1 (Xa S.dr) oM oM).mono ?_;rintro g Q ⟨rfl,q,k⟩;have a7:=fun j=>XE s1 (n:=(V:Int)) j
 have D:=Xa (S.call k q);obtain⟨vv,s2,r⟩:∃F H,nextP s1 (V:Int)=(F,H):=⟨_,_,rfl⟩;rw[r]at D c a7 |-;dsimp only at D c a7 |-;clear q k r S y0 a7;have h:b<a.length:=oN hn.out
 have cf:b<n:=oM;have X:a.getD b XV=a[b]:=by simp[h]
 have bc:=Xa (ca.out _ (aH h));have bq:=Xa (bv.out _ (aH h));have x1:Cl Q w.heap.size 1 (.slice (some ⟨G,0,none⟩) n d):=Bx.cell D.box rfl;obtain⟨p0,p1,⟨t0,t1,t2,t3⟩⟩:=D.fn.cells h;obtain⟨pa,M,ad⟩:=(D.fn.ps b h).form;obtain⟨s,P⟩:∃s,s=a[b].ps.length:=⟨_,rfl⟩;rw[<-P]at ad;obtain⟨ia,Z,ab⟩:=(D.fn.ins b h).form;obtain⟨m,U⟩:∃m,m=a[b].is.length:=⟨_,rfl⟩;rw[<-U]at ab;rw[ad]at p0;rw[ab]at p1;have a0:=Xa P;have az:=Xa U;have cj:m<=1000:=oN bc.out
 clear P U
 go_upto_region 4 with fail
 have ap:=Xa (D.alloc (.cells #[.slice pa s M,.slice ia m Z,.int .i64 a[b].te.kind,.int .i64 a[b].te.a,.int .i64 a[b].te.to,.int .i64 a[b].te.els] 90));have aq:Hid (Bx (Q.alloc (.cells #[.slice pa s M,.slice ia m Z,.int .i64 a[b].te.kind,.int .i64 a[b].te.a,.int .i64 a[b].te.to,.int .i64 a[b].te.els] 90)) Q.heap.size #[.slice pa s M,.slice ia m Z,.int .i64 a[b].te.kind,.int .i64 a[b].te.a,.int .i64 a[b].te.to,.int .i64 a[b].te.els] 90):=Xa (Bx.new _ _ _);have bd:Hid (w.heap.size+2<=Q.heap.size):=Xa D.res.lt;have a4:Hid (x≠Q.heap.size):=Xa (oP D.lt bd.out);clear D x1 p0 p1 t0 t1 t2 t3;generalize Q.alloc _=wx at *;generalize Q.heap.size=C at *;have q0:Cl wx C 0 (.slice pa s M):=Bx.cell aq rfl
 go_cut [31] from 9 to 82 (fun bt o=>∃(aj:Bool)(s3:Sr),bt=.bool aj/\Hid (LsS w o K I x B s3 V G n d a pv iv av)/\Hid (Bx o C #[.slice pa s M,.slice ia m Z,.int .i64 a[b].te.kind,.int .i64 a[b].te.a,.int .i64 a[b].te.to,.int .i64 a[b].te.els] 90)/\Hid (aj=true->0<s/\ZM V a u=(a.set b (a[b].setPhi 0 ⟨(a[b].ps.getD 0 Wo).dst,(a[b].ps.getD 0 Wo).args.set (nextP s3 (a[b].ps.getD 0 Wo).args.length).1.toNat vv⟩),(nextP s3 (a[b].ps.getD 0 Wo).args.length).2))/\Hid (aj=false->ZM V a u=U1 a b vv s3))
 case first =>
  rw[fw,X,<-a0.out]at c;by_cases P:0<s
  ·have b7:(0:Int)<s:=oM
   rw[aU P]at c
   go_wp2_with fail
   refine(XC x B s2 3 wx (Xa ap.dr) oM oM).mono ?_;rintro g R ⟨rfl,q,k⟩;have a8:=fun j=>XE s2 (n:=3) j
   have p:=Xa (ap.call k q);obtain⟨r3,s3,r⟩:∃F H,nextP s2 3=(F,H):=⟨_,_,rfl⟩;rw[r]at p c a8 |-;dsimp only at p c a8 |-;have E:=Xa (aq.grown k (fun g=>a4 (by injection g with g;exact g.symm)));clear q k r a8;by_cases W:r3=0
   ·have b9:(r3==0)=true:=by simpa using W
    rw[aU W]at c;clear W
    go_wp2
    go_meet;exact⟨true,s3,rfl,p,E,Xa (fun _=>⟨P,c⟩),Xa (fun j=>by cases j)⟩
   ·have b9:(r3==0)=false:=by simpa using W
    rw[aM W]at c;clear W
    go_wp2
    go_meet;exact⟨false,s3,rfl,p,E,Xa (fun j=>by cases j),Xa (fun _=>c)⟩
  ·have b7:¬(0:Int)<s:=oM
   rw[aM P]at c
   go_wp2
   go_meet;exact⟨false,s2,rfl,ap,aq,Xa (fun j=>by cases j),Xa (fun _=>c)⟩
 case rest =>
  obtain⟨aj,s3,rfl,p,E,a3,a2⟩:=hcut;clear ap aq c q0;generalize wc=R at *;cases aj with
  | true =>
   have a1:=Xa (a3.out rfl);clear a3 a2;have ck:=a1.1;have c:=Xa a1.2;clear a1;have J:0<a[b].ps.length:=oN a0.out
   rw[show a[b].ps.getD 0 Wo=a[b].ps[0] by simp[J]]at c;have bn:=bq _ (aH J);have b5:=bc.2.1 _ (aH J);obtain⟨N,c2,bo⟩:=(p.fn.ps b h).got J;rw[<-a0.out,ad]at bo;injection bo with e1 _ e3;subst e1 e3;obtain⟨ga,ac,ar⟩:=(p.fn.args b h 0 J).got bn;obtain⟨L,ba⟩:∃L,L=a[b].ps[0].args.length:=⟨_,rfl⟩;rw[<-ba]at ar c bn b5;have br:=Xa ba;clear ba;have bb:Hid (∀a5 sx,LsS w a5 K I x B sx V G n d a pv iv av->a5.cell? ⟨N,1,none⟩=some (.slice (some ⟨ga,0,none⟩) L ac)):=Xa (fun a5 sx hW=>by
    have:=(hW.fn.phiCells h J ad).2;rw[ar]at this;simpa using this)
   have q0:Cl R C 0 (.slice (some ⟨N,0,none⟩) s M):=Bx.cell E rfl;have q1:=bb _ _ p
   go_wp2_with fail
   refine Y7 (fun w'=>w'.cell? ⟨C,0,none⟩=some (.slice (some ⟨N,0,none⟩) s M)/\w'.cell? ⟨N,1,none⟩=some (.slice (some ⟨ga,0,none⟩) L ac)) (fun hHeld=>?_);refine Xn 0 ?_;refine Xn 1 ?_;refine Xn 2 ?_;refine Xn 3 ?_;refine Xn 4 ?_;refine Xn 5 ?_;refine Xn 6 ?_;refine Xn 7 ?_;refine Xn 8 ?_;refine Xn 9 ?_;refine Xn 10 ?_;refine Xn 11 ?_;refine Xn 13 ?_;refine Xs 12 (fun bs hK=>?_);go_simp
   go_at_call 29
   refine(XC x B s3 (L:Int) _ (Xa p.drew.dr) oM oM).mono ?_;rintro g w4 ⟨rfl,q,k⟩;have a9:=XE s3 (n:=(L:Int)) oM;have l:=Xa (p.drew.call k q);have aa:=Xa (Bx.grown (w:=R.drew) E k (fun g=>a4 (by injection g with g;exact g.symm)));obtain⟨rk,s4,r⟩:∃F H,nextP s3 (L:Int)=(F,H):=⟨_,_,rfl⟩;rw[r]at l c a9 |-;dsimp only at l c a9 |-;obtain⟨kk,rfl⟩:=Zv a9.1;rw[dM]at c;have b2:kk<L:=oM;have b1:kk<a[b].ps[0].args.length:=by rw[<-br.out];exact b2
   obtain⟨y,v,bz,af⟩:=l.fn.setArg (k:=kk) (d:=vv) h J b1 ar;have O:=((l.fn.args b h 0 J).own.lt ga (by rw[ar];rfl)).1;have e:=Xa (l.put y (by rw[v];simp) O);have z0:Cl w4 C 0 (.slice (some ⟨N,0,none⟩) s M):=Bx.cell aa rfl;have z1:=bb _ _ l;have b8:N≠ga:=fun g=>by have:=(l.fn.ps b h).lab N (by rw[ad];rfl);rw[g,v]at this;simp at this
   have cc:C≠ga:=fun g=>by have:=l.fr C (oN bd.out);rw[g,v]at this;simp at this
   clear q k r y;refine hK _ _ ⟨z0,z1⟩ (fun hHeld=>?_);clear hK;refine Xn 14 ?_;refine Xs 15 (fun bs hK=>?_);go_simp;refine hK _ _ ⟨(Xc (Below.heap_setCell _ _ _ _ cc)).trans z0,(Xc (Below.heap_setCell _ _ _ _ b8)).trans z1⟩ (fun hHeld=>?_);clear hK;refine Yq ?_;clear hHeld z0 z1 q0 q1 bz af;have T:=Xa e.out;generalize w4.setCell _ _=i at *;have f0:Cl i w.heap.size 0 (.int .i64 (V:Int)):=Bx.cell T.box rfl;have f1:Cl i w.heap.size 1 (.slice (some ⟨G,0,none⟩) n d):=Bx.cell T.box rfl;have z:Cl i (w.heap.size+1) 0 (.int .i64 0):=Bx.cell T.res rfl;have A:Cl i (w.heap.size+1) 1 (.slice none 0 0):=Bx.cell T.res rfl;have rz:=Bx.thaw T.res;go_wp2;rw[c.out];exact cC (v:=.agg #[.int .i64 (V:Int),.slice (some ⟨G,0,none⟩) n d]) (by simp[results,results30,go_sem,z,A]) rfl ⟨rfl,T.done⟩
  | false =>
   have c:=Xa (a2.out rfl);clear a3 a2;rw[U1,X,<-az.out]at c;have q1:Cl R C 1 (.slice ia m Z):=Bx.cell E rfl;have q2:Cl R C 2 (.int .i64 a[b].te.kind):=Bx.cell E rfl;by_cases U:0<m
   ·have b6:(0:Int)<m:=oM
    rw[aU U]at c
    go_wp2_with fail
    refine(XC x B s3 (m:Int) R (Xa p.dr) oM oM).mono ?_;rintro g w4 ⟨rfl,q,k⟩;have ay:=fun j=>XE s3 (n:=(m:Int)) j
    have l:=Xa (p.call k q);obtain⟨ri,s4,r⟩:∃F H,nextP s3 (m:Int)=(F,H):=⟨_,_,rfl⟩;rw[r]at l c ay |-;dsimp only at l c ay |-;have aa:=Xa (E.grown k (fun g=>a4 (by injection g with g;exact g.symm)));have b4:=ay oM;obtain⟨Y,rfl⟩:=Zv b4.1;rw[dM]at c;clear q k r ay q1 q2 p E;have bl:Y<a[b].is.length:=oN az.out
    have ch:Y<m:=oM;rw[show a[b].is.getD Y ⟨0,0,0,0,0⟩=a[b].is[Y] by simp[bl]]at c;obtain⟨bf,c2,bm⟩:=(l.fn.ins b h).got oM;rw[<-az.out,ab]at bm;injection bm with e1 _ e3;subst e1 e3;have q1:Cl w4 C 1 (.slice (some ⟨bf,0,none⟩) m Z):=Bx.cell aa rfl;have q2:Cl w4 C 2 (.int .i64 a[b].te.kind):=Bx.cell aa rfl;obtain⟨y,v,⟨i0,i1,i2,i3,i4⟩,af⟩:=l.fn.setInsA (d:=vv) h bl ab;have O:=((l.fn.ins b h).own.lt bf (by rw[ab];rfl)).1;have e:=Xa (l.put y (by rw[v];simp) O);clear y
    go_wp2_with fail
    refine(fy a[b].is[Y].op w4).mono ?_;rintro g w5 ⟨rfl,cb⟩;subst cb;cases ha:aB a[b].is[Y].op with
    | true =>
     rw[aU ha]at c
     go_upto_region 11 with fail
     generalize w5.setCell _ _=i at *;have f0:Cl i w.heap.size 0 (.int .i64 (V:Int)):=Bx.cell e.box rfl;have f1:Cl i w.heap.size 1 (.slice (some ⟨G,0,none⟩) n d):=Bx.cell e.box rfl;have z:Cl i (w.heap.size+1) 0 (.int .i64 0):=Bx.cell e.res rfl;have A:Cl i (w.heap.size+1) 1 (.slice none 0 0):=Bx.cell e.res rfl;have rz:=Bx.thaw e.res;go_wp2;rw[c.out];exact cC (v:=.agg #[.int .i64 (V:Int),.slice (some ⟨G,0,none⟩) n d]) (by simp[results,results30,go_sem,z,A]) rfl ⟨rfl,e.done⟩
    | false =>
     rw[aM (by rw[ha];simp)]at c;have f:=l;generalize w5=o at *;clear e i0 i1 i2 i3 i4 af v aa;by_cases t:a[b].te.kind=1
     ·have a6:(a[b].te.kind != 1)=false:=by simpa using t
      rw[KM,X,aM (fun j=>j t)]at c;clear t;have f0:Cl o w.heap.size 0 (.int .i64 (V:Int)):=Bx.cell f.box rfl;have f1:Cl o w.heap.size 1 (.slice (some ⟨G,0,none⟩) n d):=Bx.cell f.box rfl;have z:Cl o (w.heap.size+1) 0 (.int .i64 0):=Bx.cell f.res rfl;have A:Cl o (w.heap.size+1) 1 (.slice none 0 0):=Bx.cell f.res rfl;have rz:=Bx.thaw f.res;go_wp2;rw[c.out];exact cC (v:=.agg #[.int .i64 (V:Int),.slice (some ⟨G,0,none⟩) n d]) (by simp[results,results30,go_sem,z,A]) rfl ⟨rfl,f.done⟩
     ·have a6:(a[b].te.kind != 1)=true:=by simpa using t
      rw[KM,X,aU t]at c;clear t;obtain⟨y,v,af⟩:=f.fn.setTerA (d:=vv) h;have O:=(f.fn.blks.own.lt G rfl).1;have e:=Xa (f.put y (by rw[v];simp) O);have x1:Cl o w.heap.size 1 (.slice (some ⟨G,0,none⟩) n d):=Bx.cell f.box rfl;obtain⟨-,-,-,t1,-,-⟩:=f.fn.cells h;clear y v
      go_upto_region 14 with fail
      generalize o.setCell _ _=i at *;have f0:Cl i w.heap.size 0 (.int .i64 (V:Int)):=Bx.cell e.box rfl;have f1:Cl i w.heap.size 1 (.slice (some ⟨G,0,none⟩) n d):=Bx.cell e.box rfl;have z:Cl i (w.heap.size+1) 0 (.int .i64 0):=Bx.cell e.res rfl;have A:Cl i (w.heap.size+1) 1 (.slice none 0 0):=Bx.cell e.res rfl;have rz:=Bx.thaw e.res;go_wp2;rw[c.out];exact cC (v:=.agg #[.int .i64 (V:Int),.slice (some ⟨G,0,none⟩) n d]) (by simp[results,results30,go_sem,z,A]) rfl ⟨rfl,e.done⟩
   ·have b6:¬(0:Int)<m:=oM
    rw[aM U]at c;have f:=p;generalize R=o at *;clear E;by_cases t:a[b].te.kind=1
    ·have a6:(a[b].te.kind != 1)=false:=by simpa using t
     rw[KM,X,aM (fun j=>j t)]at c;clear t;have f0:Cl o w.heap.size 0 (.int .i64 (V:Int)):=Bx.cell f.box rfl;have f1:Cl o w.heap.size 1 (.slice (some ⟨G,0,none⟩) n d):=Bx.cell f.box rfl;have z:Cl o (w.heap.size+1) 0 (.int .i64 0):=Bx.cell f.res rfl;have A:Cl o (w.heap.size+1) 1 (.slice none 0 0):=Bx.cell f.res rfl;have rz:=Bx.thaw f.res;go_wp2;rw[c.out];exact cC (v:=.agg #[.int .i64 (V:Int),.slice (some ⟨G,0,none⟩) n d]) (by simp[results,results30,go_sem,z,A]) rfl ⟨rfl,f.done⟩
    ·have a6:(a[b].te.kind != 1)=true:=by simpa using t
     rw[KM,X,aU t]at c;clear t;obtain⟨y,v,af⟩:=f.fn.setTerA (d:=vv) h;have O:=(f.fn.blks.own.lt G rfl).1;have e:=Xa (f.put y (by rw[v];simp) O);have x1:Cl o w.heap.size 1 (.slice (some ⟨G,0,none⟩) n d):=Bx.cell f.box rfl;obtain⟨-,-,-,t1,-,-⟩:=f.fn.cells h;clear y v
     go_upto_region 14 with fail
     generalize o.setCell _ _=i at *;have f0:Cl i w.heap.size 0 (.int .i64 (V:Int)):=Bx.cell e.box rfl;have f1:Cl i w.heap.size 1 (.slice (some ⟨G,0,none⟩) n d):=Bx.cell e.box rfl;have z:Cl i (w.heap.size+1) 0 (.int .i64 0):=Bx.cell e.res rfl;have A:Cl i (w.heap.size+1) 1 (.slice none 0 0):=Bx.cell e.res rfl;have rz:=Bx.thaw e.res;go_wp2;rw[c.out];exact cC (v:=.agg #[.int .i64 (V:Int),.slice (some ⟨G,0,none⟩) n d]) (by simp[results,results30,go_sem,z,A]) rfl ⟨rfl,e.done⟩
noncomputable def tB:Code:=(f70.body.getD .skip)
noncomputable def tB1:Code:=(Kh tB).getD 0 .skip
noncomputable def tB2:Code:=(Kh tB).getD 1 .skip
noncomputable def tB3:Code:=(Kh tB2).getD 0 .skip
noncomputable def tB4:Code:=(Kh tB3).getD 0 .skip
noncomputable def tB5:Code:=(Kh tB4).getD 0 .skip
theorem tr(f:Nat->Value):(List.range' 15 134).map f=(f 15::f 16::f 17::f 18::f 19::f 20::f 21::f 22::f 23::f 24::f 25::f 26::f 27::f 28::f 29::f 30::f 31::f 32::f 33::f 34::f 35::f 36::f 37::f 38::f 39::f 40::f 41::f 42::f 43::f 44::f 45::f 46::f 47::f 48::f 49::f 50::f 51::f 52::f 53::f 54::f 55::f 56::f 57::f 58::f 59::f 60::f 61::f 62::f 63::f 64::f 65::f 66::f 67::f 68::f 69::f 70::f 71::f 72::f 73::f 74::f 75::f 76::f 77::f 78::f 79::f 80::f 81::f 82::f 83::f 84::f 85::f 86::f 87::f 88::f 89::f 90::f 91::f 92::f 93::f 94::f 95::f 96::f 97::f 98::f 99::f 100::f 101::f 102::f 103::f 104::f 105::f 106::f 107::f 108::f 109::f 110::f 111::f 112::f 113::f 114::f 115::f 116::f 117::f 118::f 119::f 120::f 121::f 122::f 123::f 124::f 125::f 126::f 127::f 128::f 129::f 130::f 131::f 132::f 133::f 134::f 135::f 136::f 137::f 138::f 139::f 140::f 141::f 142::f 143::f 144::f 145::f 146::f 147::f 148::[]):=rfl
theorem Tj(a:List Value)(h:a.length=134):∃f:Nat->Value,a=(f 15::f 16::f 17::f 18::f 19::f 20::f 21::f 22::f 23::f 24::f 25::f 26::f 27::f 28::f 29::f 30::f 31::f 32::f 33::f 34::f 35::f 36::f 37::f 38::f 39::f 40::f 41::f 42::f 43::f 44::f 45::f 46::f 47::f 48::f 49::f 50::f 51::f 52::f 53::f 54::f 55::f 56::f 57::f 58::f 59::f 60::f 61::f 62::f 63::f 64::f 65::f 66::f 67::f 68::f 69::f 70::f 71::f 72::f 73::f 74::f 75::f 76::f 77::f 78::f 79::f 80::f 81::f 82::f 83::f 84::f 85::f 86::f 87::f 88::f 89::f 90::f 91::f 92::f 93::f 94::f 95::f 96::f 97::f 98::f 99::f 100::f 101::f 102::f 103::f 104::f 105::f 106::f 107::f 108::f 109::f 110::f 111::f 112::f 113::f 114::f 115::f 116::f 117::f 118::f 119::f 120::f 121::f 122::f 123::f 124::f 125::f 126::f 127::f 128::f 129::f 130::f 131::f 132::f 133::f 134::f 135::f 136::f 137::f 138::f 139::f 140::f 141::f 142::f 143::f 144::f 145::f 146::f 147::f 148::[]):=by
 have e:=Ku Value undef a 15 (fun i=>a.getD (i-15) undef) (fun i b=>by simp[b]);rw[h]at e;exact⟨fun i=>a.getD (i-15) undef,e.trans (tr _)⟩
def Jz(n:Nat)(a args:List Int)(z:Int)(m:Nat):List Int:=(List.range m).filterMap fun m=>if a.getD m 0=J1 z n then some (args.getD m 0)else none
theorem uo(n:Nat)(a args:List Int)(z:Int):Jz n a args z a.length=Wy n a args z:=rfl
theorem uC{was args:List Int}(h:was.getD m 0=J1 z n):Jz n was args z (m+1)=Jz n was args z m++[args.getD m 0]:=by
 unfold Jz;rw[dN,mV,nD,aU h];rfl
theorem xR{was args:List Int}(h:¬was.getD m 0=J1 z n):Jz n was args z (m+1)=Jz n was args z m:=by
 unfold Jz;rw[dN,mV,nD,aM h];exact fF _
theorem vm(n:Nat)(a args:List Int)(z:Int)(m:Nat):(Jz n a args z m).length<=m:=by
 unfold Jz;exact aJ (mC _ _) sP
structure TkS(w0 wr:World)(d:Int)(va:Value)(acc:List Int):Prop where
 low:Below w0.heap.size w0 wr
 box:Bx wr w0.heap.size #[.int .i64 d,va] 96
 own:wr.ownsRow (w0.heap.size+1) 2 1 va acc.length (Xt acc)
theorem TkS.push{wr:World}{x:Int}{o:Obj}(h:TkS w wr t a l)(c:(wr.alloc o).grownBy v a.ownBlock)(i:v.ownsRow (w.heap.size+1) 2 1 A n (Xt l++[.int .i64 x]))(g:n=l.length+1) :
 Bx v w.heap.size #[.int .i64 t,a] 96/\Below w.heap.size w v/\TkS w (v.setCell ⟨w.heap.size,1,none⟩ A) t A (l++[x]):=by
 have f:=h.box.lt;have d:=(h.low.trans (Below.alloc (Below.refl _ _) (dU f) o)).trans (Xy (Below.refl _ _) c (h.own.alloc o) (gX _) (by simp;omega));have b:=(h.box.box o).grown c (fun e=>by have:=(h.own.lt _ e.symm).1;omega);refine⟨b,d,d.setCell (aA _) _,?_,?_⟩
 ·have:=b.set 1 A
  simpa using this
 ·subst g
  have e:Xt (l++[x])=Xt l++[.int .i64 x]:=by simp[Xt]
  rw[e,aQ];exact ownsRow_setCell_below i (by show w.heap.size<_;omega) _
theorem TkS.drew{wr:World}(h:TkS w wr t a l):TkS w wr.drew t a l:=⟨h.low.drew,h.box,h.own⟩
structure T5 where
 m:Nat
 va:Value
 tl:List Value
theorem tn5{Q:Exit->Act->World->Prop}(a:World)(W F n j G gc p np pc b q:Nat)(T P aa:Option Addr)(e ap C aj A ac:Nat)(c d args:List Int)(M:Int)(c0 c1 c2 c5 c6 ab:Value)(k:Nat)(hQ:Hid (∀L (I:Act) t v w,Q (.panic L) (I.put (some t) v) w->Q (.panic L) I w))(hw:Hid (Xf a W F T c))(bo:Hid (e=c.length))(cd:Hid (Xf a W F P d))(cc:Hid (C=d.length))(hB:F<=a.heap.size)(a5:a.cell? ⟨j,1,none⟩=some (.slice (some ⟨G,0,none⟩) n gc))(a9:j<a.heap.size)(a6:a.cell? ⟨G,b*6,none⟩=some (.slice (some ⟨p,0,none⟩) np pc))(hG:G<a.heap.size)(a7:a.cell? ⟨p,q*2+1,none⟩=some (.slice aa A ac))(bb:p<a.heap.size)(b2:Hid (Xf a W F aa args))(b1:Hid (A=args.length))(cw:b<n)(hn:n<=11)(c7:q<np)(dc:e<=A)(dd:e<=1000)(hk:k<d.length)(hz:Hid (0<=d[k]/\d[k]<=1000))(h:List Int)(ct:h.length<=100000)
 (a3:∀(o bv:Value)(r:List Value)(i:World),r.length=134->TkS a i M o (h++Wy n c args d[k])->Q (.exit 8) ⟨(c0::c1::c2::.int .i64 ((n:Nat):Int)::.pointer (some ⟨j,0,none⟩)::c5::c6::.int .i64 ((b:Nat):Int)::.slice T e ap::.slice P C aj::ab::.int .i64 ((q:Nat):Int)::.pointer (some ⟨a.heap.size,0,none⟩)::.int .i64 ((k:Nat):Int)::bv::r).toArray,[]⟩ i)
 (o:Value) (r:List Value) (wr:World) (x:r.length=134) (u:Hid (TkS a wr M o h)) :
 Code.wp prog (Code.loop tB5) Q ⟨(c0::c1::c2::.int .i64 ((n:Nat):Int)::.pointer (some ⟨j,0,none⟩)::c5::c6::.int .i64 ((b:Nat):Int)::.slice T e ap::.slice P C aj::ab::.int .i64 ((q:Nat):Int)::.pointer (some ⟨a.heap.size,0,none⟩)::.int .i64 ((k:Nat):Int)::.int .i64 ((0:Nat):Int)::r).toArray,[]⟩ wr:=by
 have HX:=Xa a3;clear a3;obtain⟨j0,b8,ci,cj,ck⟩:=Xq Tryz.info2';refine iY (fun J wr=>∃y:T5,J=⟨(c0::c1::c2::.int .i64 ((n:Nat):Int)::.pointer (some ⟨j,0,none⟩)::c5::c6::.int .i64 ((b:Nat):Int)::.slice T e ap::.slice P C aj::ab::.int .i64 ((q:Nat):Int)::.pointer (some ⟨a.heap.size,0,none⟩)::.int .i64 ((k:Nat):Int)::.int .i64 ((y.m:Nat):Int)::y.tl).toArray,[]⟩/\y.tl.length=134/\y.m<=e/\Hid (TkS a wr M y.va (h++Jz n c args d[k] y.m))) (fun J _=>e-(intOf (J.tmps.getD 14 undef)).toNat) ⟨⟨0,o,r⟩,rfl,x,aN _,Xa (by simpa [Jz]using u.out)⟩ ?_;clear u x;rintro J wr ⟨⟨m,o,r⟩,rfl,x,hm,s⟩;dsimp only at x hm s |-
 conv=>arg 2;whnf
 obtain⟨cs,rfl⟩:=Tj r x;clear x;by_cases b9:m<e
 ·have ca:(m:Int)<e:=oM
  have bf:m<c.length:=by rw[<-bo.out];exact b9
  have bc:m<args.length:=oN b1.out
  obtain⟨Z,ow,b0,cz,a2⟩:=hw m bf;obtain⟨bn,bq,bz,cx,b6⟩:=cd k hk;obtain⟨B,S,bx,cv,a1⟩:=b2 m bc;subst b0 bz bx;have kc:∀X,Below a.heap.size a X->∀D R,D<a.heap.size->X.cell? ⟨D,R,none⟩=a.cell? ⟨D,R,none⟩:=fun X hW D R hq=>hW.cell (p:=⟨D,R,none⟩) hq
  have f:=Xa kc;clear kc;have x1:=(f _ s.low Z (ow+m) oM).trans a2;have x2:=(f _ s.low bn (bq+k) oM).trans b6;have V:Hid (c.getD m 0=c[m]/\args.getD m 0=args[m]):=Xa ⟨by simp[bf],by simp[bc]⟩;have c8:k<C:=oN cc.out
  have c9:m<A:=oM;have a0:=Xa (fun (u:c.getD m 0=J1 d[k] n)=>uC (n:=n) (was:=c) (args:=args) (z:=d[k]) (m:=m) u);have az:=Xa (fun (u:¬c.getD m 0=J1 d[k] n)=>xR (n:=n) (was:=c) (args:=args) (z:=d[k]) (m:=m) u);have bt:=Xa (vm n c args d[k] m);rw[V.1,V.2]at a0;rw[V.1]at az;have cl:=hz.1;have df:=hz.2;generalize d[k]=z at *;generalize c[m]=E at *;generalize b4:args[m]=Y at *;clear b4
  go_wp2_with fail
  refine Y7 (fun i=>i.cell? ⟨Z,ow+m,none⟩=some (.int .i64 E)/\i.cell? ⟨bn,bq+k,none⟩=some (.int .i64 z)) (fun hHeld=>?_);refine X0 0 ?_;refine X0 1 ?_;refine X0 2 ?_;refine X0 3 ?_;refine X0 4 ?_;refine X0 5 ?_;refine X0 6 ?_;refine X0 7 ?_;refine X0 8 ?_;refine Xs 9 (fun K hK=>?_);go_simp
  go_at_call 105
  refine(ZY z n _ cl oM oM).mono ?_;rintro N w1 ⟨rfl,ch⟩;subst ch;refine hK _ _ ⟨x1,x2⟩ (fun hHeld=>?_);clear hK;refine X0 10 ?_;refine Yq ?_;clear hHeld;have g:=Xa s.drew;generalize bm:wr.drew=wd at *;have cq:=Xa bm;clear s bm;have x1:=(f _ g.low Z (ow+m) oM).trans a2;by_cases l:E=J1 z n
  ·have ce:(E==J1 z n)=true:=by simpa using l
   have U:=Xa (a0.out l);clear l;have y1:=(f _ g.low j 1 a9).trans a5;have y2:=(f _ g.low G (b*6) hG).trans a6;have y3:=(f _ g.low p (q*2+1) bb).trans a7;have y4:=(f _ g.low B (S+m) oM).trans a1;obtain⟨ua,uc,ul,cf,bl⟩:∃I L bp,o=.slice I bp L/\bp=(h++Jz n c args z m).length:=by
    rcases g.own.2 with⟨N,h0⟩ | ⟨_,_,_,N,_⟩
    ·exact⟨none,0,0,N,h0.symm⟩
    ·exact⟨_,_,_,N,rfl⟩
   subst cf;have cp:=Xa bl;clear bl;have da:Cl wd a.heap.size 1 (.slice ua ul uc):=Bx.cell g.box rfl;have db:=g.box.lt;have H:Hid (j≠a.heap.size/\G≠a.heap.size/\p≠a.heap.size/\B≠a.heap.size):=Xa oM;have ar:Hid ((h++Jz n c args z m).length<=200000):=Xa (by rw[aQ];have:=bt.out;omega);have ay:=Xa g.drew;have bs:Hid ((h++Jz n c args z m)++[Y]=h++Jz n c args z (m+1)):=Xa (by rw[U.out,cK]);generalize h++Jz n c args z m=aq at *
   go_wp2_with fail
   refine Y7 (fun i=>i.cell? ⟨j,1,none⟩=some (.slice (some ⟨G,0,none⟩) n gc)/\i.cell? ⟨G,b*6,none⟩=some (.slice (some ⟨p,0,none⟩) np pc)/\i.cell? ⟨p,q*2+1,none⟩=some (.slice (some ⟨B,S,none⟩) A ac)/\i.cell? ⟨B,S+m,none⟩=some (.int .i64 Y)) (fun hHeld=>?_);refine X0 0 ?_;refine X0 2 ?_;refine X0 3 ?_;refine X0 4 ?_;refine X0 5 ?_;refine X0 6 ?_;refine X0 7 ?_;refine X0 8 ?_;refine X0 9 ?_;refine X0 10 ?_;refine X0 11 ?_;refine X0 12 ?_;refine X0 13 ?_;refine X0 14 ?_;refine eS (rs:=[1,15]) vZ sP ?_;refine(bQ rfl (fun K hK=>?_) (bQ rfl (fun K hK=>?_) dY))
   focus
    go_simp;refine hK _ _ kP (fun hHeld=>?_);clear hK
    try simp only[xX]
    refine Xs 15 (fun K hK=>?_);go_simp;refine hK _ _ kP (fun hHeld=>?_);clear hK
   rotate_left
   focus
    go_simp;refine hK _ _ kP (fun hHeld=>?_);clear hK
    try simp only[xX]
    refine Xs 1 (fun K hK=>?_);go_simp;refine hK _ _ kP (fun hHeld=>?_);clear hK
   all_goals (
    refine Xs 16 (fun K hK=>?_);refine YL rfl _ _ 27 rfl (a.heap.size+1) 2 j0 (.int .i64 0) 1 8 underlying27 b8 ci cj ck rfl vY (.slice ua ul uc) aq.length (Xt aq) rfl ?s1 ⟨wd.heap.size,0,none⟩ 1 1 [.int .i64 Y] rfl rfl ?s2 ?s3 ?s4 ?s5 ?s6 ?_
    case s1=>exact ay.own.alloc _
    case s2=>exact Yf wd.drew _ _
    case s3=>intro E l;simp at l;subst l;rfl
    case s4=>unfold maxLen;have:=ar.out;omega
    case s5=>have:=ar.out;omega
    case s6=>simp;omega
    intro v8 w8 af a8 cb b3;obtain⟨ad,O,bi⟩:=ay.push a8 af rfl;have z1:=(f _ O j 1 a9).trans a5;have z2:=(f _ O G (b*6) hG).trans a6;have z3:=(f _ O p (q*2+1) bb).trans a7;have z4:=(f _ O B (S+m) oM).trans a1;obtain⟨g8,cr,rfl,b7,b5⟩:=Xm af oM;have k1:Cl w8 a.heap.size 1 (.slice ua ul uc):=Bx.cell ad rfl;have kz:=Bx.thaw ad;have br:=Xa bi;clear b7 b5 cb b3 af a8 bi ad;refine hK _ _ ⟨z1,z2,z3,z4⟩ (fun hHeld=>?_);clear hK;refine X0 17 ?_;refine Xs 18 (fun K hK=>?_);go_simp;refine hK _ _ ⟨(Xc (Below.heap_setCell _ _ _ _ H.1)).trans z1,(Xc (Below.heap_setCell _ _ _ _ H.2.1)).trans z2,(Xc (Below.heap_setCell _ _ _ _ H.2.2.1)).trans z3,(Xc (Below.heap_setCell _ _ _ _ H.2.2.2)).trans z4⟩ (fun hHeld=>?_);clear hK;refine Yq ?_;clear hHeld z1 z2 z3 z4 k1 kz
    go_wp2_with fail
    have a4:=br.out;rw[bs.out]at a4;exact⟨⟨⟨m+1,_,_⟩,rfl,rfl,(by show m+1<=e;omega),Xa a4⟩,by simp[intOf];omega⟩)
  ·have ce:(E==J1 z n)=false:=by simpa using l
   have U:=Xa (az.out l);clear l
   go_wp2_with fail
   refine⟨⟨⟨m+1,o,_⟩,rfl,rfl,(by show m+1<=e;omega),Xa ?_⟩,by simp[intOf];omega⟩;rw[U.out];exact g
 ·have ca:¬(m:Int)<e:=oM
  have bd:m=c.length:=by rw[<-bo.out];omega
  have HF:Hid (TkS a wr M o (h++Wy n c args d[k])):=Xa (by
   have:=s.out;rw[bd,uo]at this;exact this)
  clear bd
  go_wp2_with fail
  exact HX o _ _ _ (by rfl) HF
structure T4 where
 k:Nat
 va:Value
 c14:Value
 tl:List Value
theorem yQ{was args:List Int}(a:m<l.length):JH n was (l.take (m+1)) args=JH n was (l.take m) args++Wy n was args l[m]:=by
 unfold JH;rw[bN a,eZ];simp
theorem tn4{Q:Exit->Act->World->Prop}(a:World)(L B n l G S w M V b m:Nat)(q p F:Option Addr)(i D c A u R:Nat)(e d args:List Int)(o:Int)(c0 c1 c2 c5 I H:Value)(hQ:Hid (∀v (s:Act) N O C,Q (.panic v) (s.put (some N) O) C->Q (.panic v) s C))(hw:Hid (Xf a L B q e))(U:Hid (i=e.length))(a4:Hid (Xf a L B p d))(z:Hid (c=d.length))(hB:B<=a.heap.size)(ar:a.cell? ⟨l,1,none⟩=some (.slice (some ⟨G,0,none⟩) n S))(az:l<a.heap.size)(ax:a.cell? ⟨G,b*6,none⟩=some (.slice (some ⟨w,0,none⟩) M V))(hG:G<a.heap.size)(ay:a.cell? ⟨w,m*2+1,none⟩=some (.slice F u R))(a0:w<a.heap.size)(ap:Hid (Xf a L B F args))(aj:Hid (u=args.length))(aq:b<n)(hn:n<=11)(a1:m<M)(a5:i<=u)(a6:i<=1000)(hz:Hid (∀W∈d,0<=W/\W<=1000))(a8:c<=11/\i<=11)
 (T:∀(h ad j:Value)(f:List Value)(P:World),f.length=134->TkS a P o h (JH n e d args)->Q (.exit 6) ⟨(c0::c1::c2::.int .i64 ((n:Nat):Int)::.pointer (some ⟨l,0,none⟩)::c5::I::.int .i64 ((b:Nat):Int)::.slice q i D::.slice p c A::H::.int .i64 ((m:Nat):Int)::.pointer (some ⟨a.heap.size,0,none⟩)::ad::j::f).toArray,[]⟩ P)
 (h j:Value) (f:List Value) (wr:World) (g:f.length=134) (y:Hid (TkS a wr o h [])) :
 Code.wp prog (Code.loop tB4) Q ⟨(c0::c1::c2::.int .i64 ((n:Nat):Int)::.pointer (some ⟨l,0,none⟩)::c5::I::.int .i64 ((b:Nat):Int)::.slice q i D::.slice p c A::H::.int .i64 ((m:Nat):Int)::.pointer (some ⟨a.heap.size,0,none⟩)::.int .i64 ((0:Nat):Int)::j::f).toArray,[]⟩ wr:=by
 have HX:=Xa T;clear T;refine iY (fun t wr=>∃x:T4,t=⟨(c0::c1::c2::.int .i64 ((n:Nat):Int)::.pointer (some ⟨l,0,none⟩)::c5::I::.int .i64 ((b:Nat):Int)::.slice q i D::.slice p c A::H::.int .i64 ((m:Nat):Int)::.pointer (some ⟨a.heap.size,0,none⟩)::.int .i64 ((x.k:Nat):Int)::x.c14::x.tl).toArray,[]⟩/\x.tl.length=134/\x.k<=c/\Hid (TkS a wr o x.va (JH n e (d.take x.k) args))) (fun t _=>c-(intOf (t.tmps.getD 13 undef)).toNat) ⟨⟨0,h,j,f⟩,rfl,g,aN _,y⟩ ?_;clear y g;rintro t wr ⟨⟨k,h,j,f⟩,rfl,g,hk,r⟩;dsimp only at g hk r |-
 conv=>arg 2;whnf
 obtain⟨af,rfl⟩:=Tj f g;clear g;by_cases a2:k<c
 ·have a3:(k:Int)<c:=oM
  have K:k<d.length:=by rw[<-z.out];exact a2
  have Y:=Xa (nu n e (d.take k) args);have Z:=Xa (yQ (n:=n) (was:=e) (args:=args) K);have ab:=Xa (hz.out _ (aH K));have X:Hid ((JH n e (d.take k) args).length<=100000):=Xa (by
   have h1:=Y.out;have h2:(d.take k).length*e.length<=11*11:=lO (by rw[dH];have:=z.out;omega) (oN U.out);omega)
  go_wp2_with fail
  refine tn5 a L B n l G S w M V b m q p F i D c A u R e d args o _ _ _ _ _ _ k (by exact Xa (fun v s N O C y=>hQ v s N O C y)) hw U a4 z hB ar az ax hG ay a0 ap aj aq hn a1 a5 a6 K ab (JH n e (d.take k) args) X ?_ h _ _ (by rfl) r;intro a7 j f P g J;obtain⟨af,rfl⟩:=Tj f g;clear g;rw[<-Z.out]at J;have E:=Xa J;clear J r
  go_wp2
  exact⟨⟨⟨k+1,a7,_,_⟩,rfl,rfl,(by show k+1<=c;omega),E⟩,by simp[intOf];omega⟩
 ·have a3:¬(k:Int)<c:=oM
  have E:Hid (TkS a wr o h (JH n e d args)):=Xa (by
   have:=r.out;rw[aW (oN z.out)]at this;exact this)
  go_wp2_with fail
  exact HX h _ _ _ _ (by rfl) E
structure PhS(w1 wr:World)(lab:Nat->Nat × Nat × Nat)(b:Nat)(vp:Value)(ps:List Ph)(av:Nat->Value):Prop where
 low:Below w1.heap.size w1 wr
 row:Xv wr lab (2,b,0) w1.heap.size 96 2 vp ps.length (Yh av ps)
 args:∀j (h:j<ps.length),Xv wr lab (4,b,j) w1.heap.size 2 1 (av j) ps[j].args.length (Xt ps[j].args)
 fr:∀q,wr.heap.size<=q->lab q=(0,0,0)
theorem PhS.push{wr:World}{b:Nat}{f:Value}{c:List Ph}{av:Nat->Value}{o:Obj}(h:PhS w wr Z b a c av)(d:TkS wr v t f l)(p:(v.alloc o).grownBy u a.ownBlock)(D:u.ownsRow w.heap.size 96 2 A n (Yh av c++[.int .i64 t,f]))(C:n=c.length+1)(x:A.ownBlock=a.ownBlock\/A.ownBlock=some (v.alloc o).heap.size) :
 ∃i,PhS w u i b A (c++[⟨t,l⟩]) (fun j=>if j=c.length then f else av j):=by
 have s:=h.low.size;have g:XW wr (v.alloc o) Z (fun q=>if f.ownBlock=some q then (4,b,c.length)else Z q) w.heap.size (fun _=>True):=by
  refine⟨aJ d.low.size sP,fun q _ m _=>⟨?_,aM (fun e=>?_)⟩,fun y q hq=>?_⟩
  ·exact(Below.heap_alloc _ _ _ (aX m d.low.size)).trans (d.low.block q m)
  ·have:=(d.own.lt q e).1
   omega
  ·have J:=d.low.size
   rw[aO]at hq;exact(aM (fun e=>by have:=(d.own.lt q e).2;omega)).trans (y q oM)
 have r:=h.row.sp g (fun _ _=>trivial);have F:Xv (v.alloc o) (fun q=>if f.ownBlock=some q then (4,b,c.length)else Z q) (4,b,c.length) w.heap.size 2 1 f l.length (Xt l):=⟨Zk (d.own.alloc o) oM,fun q e=>aU e⟩;obtain⟨i,E,k⟩:=r.grow p D x (g.fresh h.fr);have G:=g.trans k;refine⟨i,?_,?_,fun j z=>?_,G.fresh h.fr⟩
 ·refine(h.low.trans (d.low.mono s)).trans ((Below.alloc (Below.refl _ _) (aJ s d.low.size) o).trans (r.below p (aA _) (by simp;have:=d.low.size;omega)))
 ·subst C
  have e:Yh (fun j=>if j=c.length then f else av j) (c++[⟨t,l⟩])=Yh av c++[.int .i64 t,f]:=by
   unfold Yh;rw[Zo,aV];dsimp only;rw[aU rfl,ZF (f':=fun j (H:Ph)=>[Value.int .i64 H.dst,av j]) 0 c (fun K I=>by rw[aV,aM oM])]
  rw[e,aQ];exact E
 ·by_cases e:j<c.length
  ·rw[fA e,aM oM]
   refine((h.args j e).sp g (fun _ _=>trivial)).sp k (fun q e2=>?_);rw[e2];simp
  ·have B:j=c.length:=by simp at z;omega
   subst B;rw[fN (aA _),aU rfl];simp only[kL,eM];exact F.sp k (fun q e2=>by rw[e2];simp)
structure T3 where
 j:Nat
 vp:Value
 c12:Value
 c13:Value
 c14:Value
 tl:List Value
theorem tn3{Q:Exit->Act->World->Prop}(c:World)(L B n p G gc q h pc b:Nat)(H D:Option Addr)(r S w P:Nat)(e d:List Int)(a:List Ph)(c0 c1 c2 c5 W:Value)(hQ:Hid (∀g (f:Act) ab ad R,Q (.panic g) (f.put (some ab) ad) R->Q (.panic g) f R))(hw:Hid (Xf c L B H e))(a1:Hid (r=e.length))(bq:Hid (Xf c L B D d))(bp:Hid (w=d.length))(X:B<=c.heap.size)(bc:c.cell? ⟨p,1,none⟩=some (.slice (some ⟨G,0,none⟩) n gc))(bf:p<c.heap.size)(bd:c.cell? ⟨G,b*6,none⟩=some (.slice (some ⟨q,0,none⟩) h pc))(hG:G<c.heap.size)(ax:q<c.heap.size)(a0:Hid (h=a.length))(br:Hid (∀j (A:j<a.length),c.cell? ⟨q,j*2,none⟩=some (.int .i64 a[j].dst)/\∃N V,c.cell? ⟨q,j*2+1,none⟩=some (.slice N a[j].args.length V)/\Xf c L B N a[j].args/\e.length<=a[j].args.length))(ba:b<n)(hn:n<=11)(hz:Hid (∀a3∈d,0<=a3/\a3<=1000))(bm:w<=11/\r<=11)(b4:h<=1000)
 (aq:∀(m a8 y t u:Value)(C:Nat->Nat × Nat × Nat)(av:Nat->Value)(i:List Value)(w':World),i.length=134->PhS c w' C b m (YD n e d a) av->Q (.exit 4) ⟨(c0::c1::c2::.int .i64 ((n:Nat):Int)::.pointer (some ⟨p,0,none⟩)::c5::W::.int .i64 ((b:Nat):Int)::.slice H r S::.slice D w P::m::a8::y::t::u::i).toArray,[]⟩ w')
 (m y t u:Value) (a2:Nat->Nat × Nat × Nat) (aj:Nat->Value) (i:List Value) (wr:World) (l:i.length=134) (A:Hid (PhS c wr a2 b m [] aj)) :
 Code.wp prog (Code.loop tB3) Q ⟨(c0::c1::c2::.int .i64 ((n:Nat):Int)::.pointer (some ⟨p,0,none⟩)::c5::W::.int .i64 ((b:Nat):Int)::.slice H r S::.slice D w P::m::.int .i64 ((0:Nat):Int)::y::t::u::i).toArray,[]⟩ wr:=by
 have HX:=Xa aq;clear aq;obtain⟨i0,bl,bw,bx,bz⟩:=Xq Tryz.infoPhiD;refine iY (fun M wr=>∃x:T3,M=⟨(c0::c1::c2::.int .i64 ((n:Nat):Int)::.pointer (some ⟨p,0,none⟩)::c5::W::.int .i64 ((b:Nat):Int)::.slice H r S::.slice D w P::x.vp::.int .i64 ((x.j:Nat):Int)::x.c12::x.c13::x.c14::x.tl).toArray,[]⟩/\x.tl.length=134/\x.j<=h/\Hid (∃C av,PhS c wr C b x.vp (YD n e d (a.take x.j)) av)) (fun M _=>h-(intOf (M.tmps.getD 11 undef)).toNat) ⟨⟨0,m,y,t,u,i⟩,rfl,l,aN _,Xa ⟨a2,aj,A⟩⟩ ?_;clear A l;rintro M wr ⟨⟨j,m,y,t,u,i⟩,rfl,l,hj,I⟩;dsimp only at l hj I |-
 conv=>arg 2;whnf
 obtain⟨a9,rfl⟩:=Tj i l;clear l;obtain⟨C,av,k⟩:=I.out;have K:=Xa (fun E b1 (hq:E<c.heap.size)=>k.low.cell (p:=⟨E,b1,none⟩) hq);have b6:=k.low.size;have x1:=(K p 1 bf).trans bc;have x2:=(K G (b*6) hG).trans bd;by_cases az:j<h
 ·have bn:(j:Int)<h:=oM
  have ay:j<a.length:=by rw[<-a0.out];exact az
  obtain⟨p0,N,V,p1,p2,p3⟩:=br j ay;have x3:=(K q (j*2) ax).trans p0;have x4:=(K q (j*2+1) ax).trans p1;have a5:Hid (YD n e d (a.take (j+1))=YD n e d (a.take j)++[⟨a[j].dst,JH n e d a[j].args⟩]):=Xa (by
   unfold YD;rw[bN ay,bG];rfl)
  have U:Hid ((YD n e d (a.take j)).length=j):=Xa (by unfold YD;rw[bK,dH];omega);have a7:=Xa (p2.keep (B:=B) (k.low.mono X));have HW:=Xa (hw.keep (B:=B) (k.low.mono X));have HN:=Xa (bq.keep (B:=B) (k.low.mono X));have J:=Xa k;obtain⟨O,Y⟩:∃O,O=a[j].args.length:=⟨_,rfl⟩;rw[<-Y]at x4 p3;have a4:=Xa Y;have bv:r<=O:=oN a1.out
  clear Y k I p0 p1 p2;generalize a[j].dst=z at *;generalize a[j].args=args at *
  go_wp2_with fail
  have af:Hid (TkS wr (wr.alloc (.cells #[.int .i64 z,.slice none 0 0] 96)) z (.slice none 0 0) []):=Xa ⟨Xb (Below.refl _ _) _,Bx.new _ _ _,dA _ _ _ _⟩;refine tn4 wr L B n p G gc q h pc b j H D N r S w P O V e d args z _ _ _ _ _ _ (by exact Xa (fun g f ab ad R A=>hQ g f ab ad R A)) HW a1 HN bp oM x1 oM x2 oM x4 oM a7 a4 ba hn az bv oM hz bm ?_ _ _ _ _ (by rfl) af;intro b2 t u i F l v;obtain⟨a9,rfl⟩:=Tj i l;clear l af;have s:=Xa v;clear v x1 x2 x3 x4;obtain⟨ua,ul,uc,bs⟩:∃f b0 g,b2=.slice f b0 g:=by
   rcases s.own.2 with⟨o,h0⟩ | ⟨_,_,_,o,_⟩
   ·exact⟨none,0,0,o⟩
   ·exact⟨_,_,_,o⟩
  subst bs;obtain⟨qa,qc,bt⟩:∃f g,m=.slice f j g:=by
   obtain⟨f,g,o⟩:=J.row.form;rw[U.out]at o;exact⟨f,g,o⟩
  subst bt;have q0:Cl F wr.heap.size 0 (.int .i64 z):=Bx.cell s.box rfl;have q1:Cl F wr.heap.size 1 (.slice ua ul uc):=Bx.cell s.box rfl;have b5:=s.low.size;have a6:Hid (F.ownsRow c.heap.size 96 2 (.slice qa j qc) j (Yh av (YD n e d (a.take j)))):=Xa (by
   have:=Zl J.row.own (w':=F) (fun E o=>s.low.block E (J.row.own.lt E o).2);rw[U.out]at this;exact this)
  go_wp2_with (at_builtin;refine bT _ rfl _ _ 85 rfl c.heap.size 96 i0 (.agg #[.int .i64 0,.slice none 0 0]) 2 32 underlying85 bl bw bx bz rfl vY _ j (Yh av (YD n e d (a.take j))) rfl (a6.alloc _) ⟨F.heap.size,0,none⟩ 1 1 [.int .i64 z,.slice ua ul uc] rfl rfl (World.news_of_block (World.alloc_heap_new _ _)) ?c2 ?c3 ?c4 ?c5 ?_)
  case c2=>intro b8 hu;simp at hu;rcases hu with rfl | rfl<;>rfl
  case c3=>unfold maxLen;omega
  case c4=>omega
  case c5=>simp;omega
  intro v8 w8 Z ar bo ap;obtain⟨b7,v⟩:=J.push s ar Z (by rw[U.out]) (by rw[aO];exact ap);rw[<-a5.out]at v;have T:=Xa v;obtain⟨g8,b3,rfl,bi,bb⟩:=Xm Z oM;clear bi bb bo ap Z ar v q0 q1
  go_wp2
  exact⟨⟨⟨j+1,_,_,_,_,_⟩,rfl,rfl,(by show j+1<=h;omega),Xa ⟨_,_,T⟩⟩,by simp[intOf];omega⟩
 ·have bn:¬(j:Int)<h:=oM
  have T:Hid (PhS c wr C b m (YD n e d a) av):=Xa (by
   have:=k;rw[aW (oN a0.out)]at this;exact this)
  clear k I
  go_wp2_with fail
  exact HX _ _ _ _ _ _ _ _ _ (by rfl) T
def qH(k:Int)(V:Nat)(s:Sr)(x:Yg):Yg :=
 if k=11 then ⟨(nextP s 13).1,x.dst,x.a,x.b,x.imm⟩else if k=12 then ⟨x.op,(nextP s ((V:Int)+1)).1,x.a,x.b,x.imm⟩else if k=13 then ⟨x.op,x.dst,(V:Int),x.b,x.imm⟩else if k=14 then ⟨x.op,x.dst,x.a,-1,x.imm⟩else ⟨x.op,x.dst,x.a,x.b,(nextP s 12).1⟩
def dq(k:Int)(V:Nat)(s:Sr)(a:List Int):List Int :=
 if k=8 then a++[0]else if k=9 then a.set 0 ((V:Int)*(nextP s 2).1)else a.drop 1
def UL(k:Int)(V n:Nat)(s:Sr)(t:Yj):Yj :=
 if k=1 then ⟨t.kind,t.a,n,t.els⟩else if k=2 then ⟨t.kind,t.a,t.to,t.to⟩else if k=3 then ⟨t.kind,t.a,0,t.els⟩else if k=4 then ⟨(nextP s 5).1,t.a,t.to,t.els⟩else if k=5 then ⟨t.kind,(V:Int),t.to,t.els⟩else t
def Za(k:Int)(V n:Nat)(s:Sr)(x:Xe):Xe :=
 if k=6 then ⟨x.ps++[⟨0,[]⟩],x.is,x.te⟩
 else if k<6 then ⟨x.ps,x.is,UL k V n s x.te⟩
 else if k<11 then (if 0<x.ps.length then ⟨x.ps.set 0 ⟨(x.ps.getD 0 Wo).dst,dq k V s (x.ps.getD 0 Wo).args⟩,x.is,x.te⟩else x)
 else (if 0<x.is.length then ⟨x.ps,x.is.set (nextP s x.is.length).1.toNat (qH k V (nextP s x.is.length).2 (x.is.getD (nextP s x.is.length).1.toNat ⟨0,0,0,0,0⟩)),x.te⟩else x)
def XN(V:Nat)(a:List Xe)(s:Sr):Fn :=
 if (nextP s 16).1=7 then ⟨V,[]⟩else
 ⟨if (nextP s 16).1=0 then (V:Int)+(nextP (nextP (nextP s 16).2 a.length).2 2).1*2-1 else V,a.set (nextP (nextP s 16).2 a.length).1.toNat (Za (nextP s 16).1 V a.length (nextP (nextP s 16).2 a.length).2 (a.getD (nextP (nextP s 16).2 a.length).1.toNat XV))⟩
def SpE(F:Fn)(w:World)(b d:Nat)(e:Ending)(f:World):Prop:=∃a m c,e=.returned (.agg #[.int .i64 F.values,.slice a m c])/\m=F.blocks.length/\SpO w f b d a F.blocks
def SmW(a b:World):Prop:=a=b
def UD(x:Xe):Prop:=x.ps.length<=4/\(∀p∈x.ps,p.args.length<=1001)/\x.is.length<=1000
theorem pg:∀(a:List Ph)(m:Nat),(∀p∈a,p.args.length<=m)->JG a<=a.length*m
 | [],m,_=>by simp[JG]
 | p::a,m,h=>by
  have c:=h p sP;have b:=pg a m (fun q hq=>h q (by simp[hq]));unfold JG at b |-;rw[eH,kX,bA,jK,jL];omega
theorem UD.le(h:UD q):ZZ q<=6000:=by
 have a:=pg q.ps 1001 h.2.1;have b:=jI 1001 h.1;have c:=h.2.2;have d:=h.1;unfold ZZ;omega
theorem lp:∀(a:List Xe),(∀x∈a,UD x)->Xx a<=a.length*6000
 | [],_=>by simp[Xx]
 | x::a,h=>by
  have c:=(h x sP).le;have b:=lp a (fun q hq=>h q (by simp[hq]));unfold Xx at b |-;rw[eH,kX,bA,jK,jL];omega
theorem fh(b:x.length<=12)(h:∀a∈x,UD a):x.length+Xx x<=1048576:=by
 have:=lp x h;omega
def Ph3(a:List Xe):Prop:=∀x∈a,x.ps.length<=3
theorem Ph3.get(h:Ph3 x)(i:Nat):(x.getD i XV).ps.length<=3:=by
 by_cases a:i<x.length
 ·rw[show x.getD i XV=x[i] by simp[a]]
  exact h _ (aH a)
 ·rw[show x.getD i XV=XV by simp[a]]
  simp[XV]
theorem Ph3.set(h:Ph3 x)(i:Nat)(b:q.ps.length<=3):Ph3 (x.set i q):=fun y a=>by
 rcases fE a with a | a
 ·exact h y a
 ·subst a;exact b
theorem mh(b:Bool)(a:List Int):∀(k i:Nat)(g:GdR),Ph3 g.xs->Ph3 (Zm b a k i g).xs
 | 0,_,_,h=>h
 | k+1,i,g,h=>by
  rw[Zm];refine mh b a k (i+1) _ (h.set i ?_);show(VK (Uy _ g.s).1 g.v).length<=3;rw[KI];exact f9 _ _
theorem nX(a:List (List Int)):∀(k i:Nat)(b:List Xe)(s:Sr),Ph3 b->Ph3 (ZL a k i b s).1
 | 0,_,_,_,h=>h
 | k+1,i,b,s,h=>by
  rw[ZL];refine nX a k (i+1) _ _ (h.set i ?_);show(JC a _ _ 0 _ s).1.length<=3;rw[Vr];exact h.get i
theorem ny(a:List Xe):∀(k b:Nat)(g:List Xe),Ph3 g->Ph3 (Ks a k b g)
 | 0,_,_,h=>h
 | k+1,b,g,h=>by
  rw[Ks];refine ny a k (b+1) _ (h.set b ?_);show(YD _ _ _ _).length<=3;unfold YD;rw[bK];exact h.get b
theorem pD(h:Ph3 x):Ph3 (Zh x):=by
 unfold Zh;refine ny x _ 0 _ (fun c a=>?_);unfold YP at a;obtain⟨b,_,rfl⟩:=aY.1 a;exact h.get _
theorem As(h:Ph3 x):Ph3 (Tm n x):=fun c a=>by
 unfold Tm at a;obtain⟨y,b,rfl⟩:=aY.1 a;have:=h y b;unfold Jp;simpa using this
theorem V0(s:Sr)(b:Bool):Ph3 (XM s b).1.blocks:=by
 have a:Ph3 (d8 s b).1:=by
  unfold d8;refine nX _ _ _ _ _ (mh _ _ _ _ _ (fun x c=>?_));rw[(KD _ x c).1];simp
 unfold XM;dsimp only;split
 ·refine As ?_
  split
  ·exact pD a
  ·exact a
 ·split
  ·exact pD a
  ·exact a
theorem WS(d:Ph3 x)(c:Kg x):∀a∈x,UD a:=fun a b=>⟨aJ (d a b) oM,fun p e=>aJ ((c a b).2.1 p e) oM,(c a b).2.2⟩
theorem pR(b:Ph3 x)(c:Kg x)(i:Nat):(x.getD i XV).ps.length<=3/\(∀p∈(x.getD i XV).ps,p.args.length<=1000)/\(x.getD i XV).is.length<=1000:=by
 by_cases a:i<x.length
 ·rw[show x.getD i XV=x[i] by simp[a]]
  exact⟨b _ (aH a),(c _ (aH a)).2⟩
 ·rw[show x.getD i XV=XV by simp[a]]
  simp[XV]
theorem Vy(h:∀q∈x,UD q)(i:Nat)(b:UD q):∀y∈x.set i q,UD y:=fun y a=>by
 rcases fE a with a | a
 ·exact h y a
 ·subst a;exact b
theorem pi(h:q.ps.length<=3/\(∀p∈q.ps,p.args.length<=1000)/\q.is.length<=1000)(d:Int)(b:List Int)(c:b.length<=1001):UD ⟨q.ps.set 0 ⟨d,b⟩,q.is,q.te⟩:=by
 refine⟨by show(q.ps.set 0 _).length<=4;rw[bL];omega,fun p a=>?_,h.2.2⟩;rcases fE a with a | a
 ·exact aJ (h.2.1 p a) oM
 ·subst a;exact c
theorem qB(h:q.ps.length<=3/\(∀p∈q.ps,p.args.length<=1000)/\q.is.length<=1000):(q.ps.getD 0 Wo).args.length<=1000:=by
 by_cases a:0<q.ps.length
 ·rw[show q.ps.getD 0 Wo=q.ps[0] by simp[a]]
  exact h.2.1 _ (aH a)
 ·rw[show q.ps.getD 0 Wo=Wo by simp at a;simp[a]]
  simp[Wo]
theorem t8{V:Nat}{s:Sr}(e:Ph3 x)(i:Kg x):(ZM V x s).1.length=x.length/\∀a∈(ZM V x s).1,UD a:=by
 have d:=WS e i;have c:=fun l=>pR e i l
 have j:∀{a:Xe},(a.ps.length<=3/\(∀p∈a.ps,p.args.length<=1000)/\a.is.length<=1000)->UD a:=fun h=>⟨oM,fun p k=>aJ (h.2.1 p k) oM,h.2.2⟩
 have g:∀b v s,(KM x b v s).1.length=x.length/\∀a∈(KM x b v s).1,UD a:=fun b v s=>by
  unfold KM;split
  ·exact⟨sP,Vy d b (j (c b))⟩
  ·exact⟨rfl,d⟩
 have f:∀b v s,(U1 x b v s).1.length=x.length/\∀a∈(U1 x b v s).1,UD a:=fun b v s=>by
  unfold U1;split
  ·split
   ·exact⟨sP,Vy d b (j ⟨(c b).1,(c b).2.1,by show(List.set _ _ _).length<=1000;rw[bL];exact(c b).2.2⟩)⟩
   ·exact g b v _
  ·exact g b v s
 unfold ZM fw;split
 ·split
  ·refine⟨sP,Vy d _ ?_⟩
   exact pi (c _) _ _ (by rw[bL];have:=qB (c (nextP s x.length).1.toNat);omega)
  ·exact f _ _ _
 ·exact f _ _ _
theorem uW{V:Nat}{s:Sr}(e:Ph3 x)(f:Kg x):(XN V x s).blocks.length<=x.length/\∀c∈(XN V x s).blocks,UD c:=by
 have g:=WS e f;have a:=fun j=>pR e f j
 have d:∀{c:Xe},(c.ps.length<=3/\(∀p∈c.ps,p.args.length<=1000)/\c.is.length<=1000)->UD c:=fun h=>⟨oM,fun p b=>aJ (h.2.1 p b) oM,h.2.2⟩
 unfold XN;split
 ·exact⟨aN _,fun c i=>absurd i sP⟩
 ·refine⟨sP,Vy g _ ?_⟩
  unfold Za;split
  ·refine⟨by show(_++[_]).length<=4;rw[aQ];have:=(a (nextP (nextP s 16).2 x.length).1.toNat).1;simp only[bA,bO];omega,fun p b=>?_,(a _).2.2⟩
   rcases bU.1 b with b | b
   ·exact aJ ((a _).2.1 p b) oM
   ·simp only[cH,eA,lL]at b
    subst b;simp
  ·split
   ·exact d (a _)
   ·split
    ·split
     ·refine pi (a _) _ _ ?_
      have ha:=qB (a (nextP (nextP s 16).2 x.length).1.toNat);unfold dq;split
      ·rw[aQ];simp only[bA,bO];omega
      ·split
       ·rw[bL];omega
       ·rw[mF];omega
     ·exact d (a _)
    ·split
     ·exact d ⟨(a _).1,(a _).2.1,by show(List.set _ _ _).length<=1000;rw[bL];exact(a _).2.2⟩
     ·exact d (a _)
end Go.Proofs.YtghnlncgiihhgaaGreatDoor
