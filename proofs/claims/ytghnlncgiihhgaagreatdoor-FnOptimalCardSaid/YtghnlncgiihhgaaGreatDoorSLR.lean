import Derived.Laws.CopyOwn
import Derived.Test.YtghnlncgiihhgaaGreatDoorW8
namespace Go.Proofs.YtghnlncgiihhgaaGreatDoor
set_option maxHeartbeats 2000000
set_option maxRecDepth 100000
open Go.RowKit Go.Proofs.Tryz Go.Shelf
variable{l:List Int}{s:List Nat}{y:List Value}{n m k B:Nat}{f:Nat->Nat}{a A:Value}{w v u:World}
theorem Tg(g k n e b o s r m:Nat)(v:Value)(f:Nat->Value)(W:World)(B:W.rowIs g 2 n f)(G:k<=n)(E:v.oneCell'=true)(q:m=Nat.min s (n-k))(C:∀j,j<m->W.cell? ⟨b,o+j,none⟩=some v) :
 ∃c,Sem.run prog (Builtin.copy_ #[27,27] 3 #[.slice (some ⟨g,k,none⟩) (n-k) e,.slice (some ⟨b,o,none⟩) s r]) W=.ok (goInt m) c/\W.grownBy c (some g)/\c.rowIs g 2 n (fun i=>if k<=i/\i<k+m then v else f i):=by
 obtain⟨d,l,x,y⟩:=B;have H:m<=n-k:=by rw[q];exact kQ _ _
 have h:=run_copy_row (P:=prog) W 27 27 3 2 g k (n-k) e ⟨b,o,none⟩ s r d 2 (List.replicate m v) underlying27 vZ l (by rw[kN];exact q) (fun j F a=>by
  rw[mI]at a;split at a
  ·rename_i A
   injection a with a;rw[<-a];rw[mK];exact C j A
  ·cases a) (by rw[kN];omega) (fun F D=>by rw[List.eq_of_mem_replicate D];exact E)
 rw[kN]at h;refine⟨_,h,⟨rfl,rfl,rfl,sP,fun j _ a=>setRow_other _ _ _ _ (fun w=>a (by rw[w]))⟩,⟨_,setRow_heap _ _ _ _ _ _ l,?_,fun i z=>?_⟩⟩
 ·simp[x];omega
 ·have p:d[i]?=some (f i):=y i z
  simp only[List.getElem?_toArray];by_cases t:i<k
  ·rw[aM oM,dL (by simp;omega),dL (by simp;omega),fH t]
   simpa using p
  ·by_cases u:i<k+m
   ·rw[aU ⟨oM,u⟩,dL (by simp;omega),eV (by simp;omega)]
    simp[mI];omega
   ·rw[aM oM,eV (by simp;omega),jA]
    have:k+m+(i-(List.take k d.toList++List.replicate m v).length)=i:=by simp;omega
    rw[this];simpa using p
theorem vz(a:n<=2000):bits .and .u64 (n:Int) 4294967295=(n:Int):=by
 have h:n &&& 4294967295=n:=by
  have:=kO n 32;rw[show(2 ^ 32-1:Nat)=4294967295 from rfl]at this;rw[this];omega
 rw[show(4294967295:Int)=((4294967295:Nat):Int) from rfl,jH _ _ oM vY,h]
theorem uP(n:Nat)(w:World)(a:n<=2000) :
 Calls prog 114 #[.int .u64 1,.int .u64 n] w fun e b=>e=.returned (.tuple #[.int .u64 0,.int .u64 n])/\b=w:=by
 have d:bits .and .u64 1 4294967295=1:=vY;have c:bits .and .u64 0 4294967295=0:=vY;have f:=vz a;have g:(n:Int) / 4294967296=0:=oM;have i:IntKind.u64.wrap (n:Int)=n:=by simp[IntKind.wrap,IntKind.bits,IntKind.signed];omega
 have h:IntKind.u64.wrap 0=0:=vY
 go_in
 go_wp2_with fail
 refine cC (v:=.tuple #[.int .u64 0,.int .u64 n]) (by simp[results,results114,go_sem]) rfl ⟨rfl,rfl⟩
theorem Ap(n:Nat)(w:World)(b:n<=2000) :
 Calls prog 84 #[.int .u64 1,.int .u64 n] w fun e c=>e=.returned (.tuple #[.int .u64 0,.int .u64 n])/\c=w:=by
 have a:=Xa (fun W=>uP n W b)
 go_in
 go_wp2_with fail
 refine(a _).mono ?_;rintro e d ⟨rfl,rfl⟩
 go_wp2_with fail
 refine cC (v:=.tuple #[.int .u64 0,.int .u64 n]) (by simp[results,results84,go_sem]) rfl ⟨rfl,rfl⟩
theorem pJ(b n:Nat)(w:World)(S:n<=2000)(x:w.cell? ⟨b,0,none⟩=some (.int .i64 (-1)))(M:b<w.heap.size) :
 Calls prog 36 #[.slice (some ⟨b,0,none⟩) 1 1,.int .i64 n] w fun e F=>∃h,e=.returned (.slice (some ⟨h,0,none⟩) n n)/\w.heap.size<=h/\Below w.heap.size w F/\F.rowIs h 2 n (fun _=>.int .i64 (-1)):=by
 have I:=Xa (fun W=>Ap n W S);have Y:=fM (P:=prog) 27 2 (.int .i64 0) 8 underlying27 Tryz.info2' rfl .i64 .i64 n oM oM;obtain⟨a,f⟩:∃a,a=Nat.min 1 (n-0):=⟨_,rfl⟩;have R:a<=1:=by rw[f];exact mQ _ _
 have A:a<=n:=by have:=kQ 1 (n-0);rw[f];omega
 have B:0<n->1<=a:=fun t=>by rw[f];exact Nat.le_min.2 ⟨aA _,oM⟩
 obtain⟨K,l,y,C⟩:=Tg w.heap.size 0 n n b 0 1 1 a (.int .i64 (-1)) _ (w.alloc (.cells (madeCells #[.int .i64 0] n) 2)) (dG w (.int .i64 0) n 2) (aN _) rfl f (fun o O=>by
  have:o=0:=oM;subst this;exact(bP _ _ _ M).trans x)
 rw[Nat.sub_zero]at l;have s:=Xa C;have q:=Xa y;clear C y f
 go_in
 go_wp2_with fail
 refine(I _).mono ?_;rintro e T ⟨rfl,E⟩;rw[E];clear E T
 go_wp2_with fail
 generalize decide ((n:Int)<0)=U;generalize decide (9223372036854775807<(n:Int))=V;have r:Hid (K.rowIs w.heap.size 2 n (fun i=>.int .i64 (if i<a then -1 else 0))):=Xa (s.congr (fun i _=>by by_cases t:i<a<;>simp[t]));have p:=Xa ((Xb (Below.refl _ w) _).grown q sP (fun k e=>by cases e;exact aA _));clear s q l x
 go_loopw [8] (fun u wr=>∃k:Nat,(0<n->1<=k)/\k<=n/\u=.int .i64 k/\Hid (Below w.heap.size w wr)/\Hid (wr.rowIs w.heap.size 2 n (fun i=>.int .i64 (if i<k then -1 else 0)))) (fun u _=>n-(intOf u).toNat)
 case atStart=>exact⟨a,B,A,rfl,p,r⟩
 case round =>
  clear p r;obtain⟨k,P,Q,rfl,g,c⟩:=hrel;by_cases X:k<n
  ·obtain⟨m,d⟩:∃m,m=Nat.min k (n-k):=⟨_,rfl⟩
   have R:m<=k:=by rw[d];exact mQ _ _
   have A:m<=n-k:=by rw[d];exact kQ _ _
   have B:0<m:=by rw[d];exact Nat.lt_min.2 ⟨P oM,oM⟩
   obtain⟨L,l,z,D⟩:=Tg w.heap.size k n (n-k) w.heap.size 0 k n m (.int .i64 (-1)) (fun i=>.int .i64 (if i<k then -1 else 0)) wr.drew c Q rfl d (fun o O=>by
    rw[aV];have:=c.cell (i:=o) oM;rw[aU oM]at this;exact this)
   have J:Hid (L.rowIs w.heap.size 2 n (fun i=>.int .i64 (if i<k+m then -1 else 0))):=Xa (D.congr (fun i _=>by
    by_cases j:i<k
    ·simp[j]
     omega
    ·by_cases v:i<k+m
     ·simp[j,v]
     ·simp[j,v]))
   have G:=Xa (g.drew.grown z g.size (fun k e=>by cases e;exact aA _));clear g c D z d;go_wp2
   go_region
   go_wp2;exact⟨⟨k+m,fun _=>oM,oM,gM,G,J⟩,by simp[intOf];omega⟩
  ·have:k=n:=oM
   subst this;have H:Hid (wr.rowIs w.heap.size 2 k (fun _=>.int .i64 (-1))):=Xa (c.congr (fun i N=>by simp[N]));clear c
   go_wp2
   go_ret
   exact⟨_,rfl,aA _,g,H⟩
theorem tJ(b n:Nat)(w:World)(f:n<=1000)(_h0:0<n)(d:w.cell? ⟨b,0,none⟩=some (.int .i64 (-1)))(c:b<w.heap.size) :
 Calls prog 36 #[.slice (some ⟨b,0,none⟩) 1 1,.int .i64 n] w fun e a=>∃g,e=.returned (.slice (some ⟨g,0,none⟩) n n)/\w.heap.size<=g/\Below w.heap.size w a/\a.rowIs g 2 n (fun _=>.int .i64 (-1)) :=
 pJ b n w oM d c
section
attribute [local go_sem] Oper.semAt_some
def mks(a:List Nat):List Deferred:=a.map fun D=>{ target:=.collected D,args:=#[] }
structure ZJ(W:World)(B:Nat)(ds:List Nat):Prop where
 nd:ds.Nodup
 ge:∀D∈ds,B<=D
 obj:∀D∈ds,W.heap[D]?=some (.deferred (some []))
theorem U4{F:Fence}{n:Nat}{P:Program}{fn:Func}{tmps:Array Value}{R:Ending->World->Prop}{B:Nat}:∀(b:List Nat)(W:World),ZJ W B b->B<=W.heap.size->(∀a,Below B W a->∃v,(results fn tmps).run P a=.ok v a/\R (.returned v) a)->LeavesInM F n P fn tmps R (mks b) .returning W
 | [],W,_,_,h=>h W (Below.refl _ _)
 | D::b,W,hm,hB,h=>by
  refine⟨sP,bC ⟨D,_,rfl,run_takeDeferred (hm.obj D cI),?_⟩⟩;have f:=hm.ge D cI;have d:Below B W (W.putObj D (.deferred none)):=(Below.refl B W).grown (grownBy_putObj' W D _) hB (fun k e=>by cases e;exact f);refine U4 b _ ⟨(fL.1 hm.nd).2,fun k c=>hm.ge k (cN _ c),fun k c=>?_⟩ (aJ hB d.size) (fun a k=>h a (d.trans k));exact(World.putObj_heap_other (fun e=>(fL.1 hm.nd).1 (by rw[<-e];exact c))).trans (hm.obj k (cN _ c))
theorem pn{wr:World}(h:ZJ wr n s)(f:wr.heap.size<=m)(hK:w.heap[m]?=some (.deferred (some [])))(d:∀a,a<wr.heap.size->a≠k->w.heap[a]?=wr.heap[a]?)(e:k<n/\n<=wr.heap.size):ZJ w n (m::s):=by
 have c:=fun a b=>(aS.1 (h.obj a b)).1
 refine⟨fL.2 ⟨fun a=>by have:=c m a;omega,h.nd⟩,fun a b=>?_,fun a b=>?_⟩
 ·rcases cH.1 b with rfl | b
  ·omega
  ·exact h.ge a b
 ·rcases cH.1 b with rfl | b
  ·exact hK
  ·exact(d a (c a b) (oN (h.ge a b))).trans (h.obj a b)
theorem sV(B:Option Addr)(n G H K f c0:Nat)(aa:List (List Nat))(a:List Nat)(L1 B1 L2 B2:Nat)(w:World)(ce:Hid (XR w L2 B2 B (aa.map Xi)))(F:Hid (n=aa.length))(a4:Hid (Xf w L1 B1 (some ⟨H,K,none⟩) (Xi a)))(h0:Hid (f=a.length))(hn:n<=1000)(V:0<n)(du:f<=1000)(dw:0<f)(el:f<=c0)(bw:B1<=w.heap.size)(df:B2<=w.heap.size)(I:Hid (∀b∈a,b<n))(cd:Hid (∀P∈aa,P.length<=2000/\∀eb∈P,eb<n)) :
 Calls prog 87 #[.slice B n G,.slice (some ⟨H,K,none⟩) f c0] w fun e w'=>∃az l,e=.returned (.slice (some ⟨az,0,none⟩) n n)/\w.heap.size<=az/\Below w.heap.size w w'/\w'.rowIs az 2 n (fun z=>.int .i64 (VB l a f z))/\∀b,b<n->∀x,x<n->(Xh (l b) x=true↔Sp (Iav n) (Tse n) (·∈a) (fun b=>aa.getD b []) b x):=by
 have a8:=Xa (fun W (hb:Below w.heap.size w W)=>sH B n G H K f c0 aa a L1 B1 L2 B2 W (Xa (ce.keepS (fun k _ N=>(hb.mono df).block k N))) F (Xa (a4.keep (hb.mono bw))) h0 hn V du dw (oN hb.size) (oN hb.size) I cd);have ef:(n+63) / 64<=16:=oM;have eg:n<=64*((n+63) / 64):=oM;generalize (n+63) / 64=bp at *;refine(bM (n:=4)).1 ?_;refine callsIn_of_wp_marks func87 rfl trivial ?_ rfl;simp only[ntmps87,xY,Nat.reduceAdd,Nat.reduceSub]
 gi_wp2
 refine⟨trivial,(bM.2 (a8 w (Below.refl _ _))).mono ?_⟩;rintro e o ⟨R,gs,l,rfl,a1,al,cf,b9⟩;have a9:=Xa a1;have bn:=Xa al;have dc:=Xa cf;have c7:=Xa b9;have ee:=al.row.lt;have c6:=Xa (fun i hi=>(al.set i hi).lt);have ez:=a1.size;clear a1 al cf b9 a8
 gi_wp2
 refine⟨trivial,(bM.2 (tJ (o.heap.size+1) n ((o.alloc (.cells #[.slice (some ⟨R,0,none⟩) n n] 183)).alloc (.cells #[.int .i64 (-1)] 2)) hn V (by simp[go_sem]) sP)).mono ?_⟩;rintro e j ⟨c,rfl,b6,T,a5⟩;have ba:=Xa (Xg (Xb (Xb a9 _) _) T);have e0:o.heap.size+2<=j.heap.size:=by have:=T.size;simp at this;omega
 have et:o.heap.size+2<=c:=by simp at b6;omega
 have eu:=a5.lt;have bo:=Xa ((bn.keep (Xb (Xb (Below.refl _ _) _) _)).keep T);have bs:Cl j o.heap.size 0 (.slice (some ⟨R,0,none⟩) n n):=(T.cell (p:=⟨o.heap.size,0,none⟩) (by show o.heap.size<_;simp;omega)).trans (by simp[go_sem]);have bi:=Xa a5;clear T a5 b6 a9 bn
 gi_wp2
 have aq:Hid (Below w.heap.size w (j.alloc (.cells #[.slice (some ⟨c,0,none⟩) n n] 27))):=Xa (Xb ba _);have bl:Hid ((j.alloc (.cells #[.slice (some ⟨c,0,none⟩) n n] 27)).rowIs c 2 n (fun z=>.int .i64 (VB l a 0 z))):=Xa (bi.alloc _);have da:=Xa (bo.keep (Xb (Below.refl _ _) (.cells #[.slice (some ⟨c,0,none⟩) n n] 27)));have bt:(j.alloc (.cells #[.slice (some ⟨c,0,none⟩) n n] 27)).cell? ⟨o.heap.size,0,none⟩=some (.slice (some ⟨R,0,none⟩) n n):=(bP _ _ _ (by show o.heap.size<_;omega)).trans bs;have bz:(j.alloc (.cells #[.slice (some ⟨c,0,none⟩) n n] 27)).cell? ⟨j.heap.size,0,none⟩=some (.slice (some ⟨c,0,none⟩) n n):=by simp[go_sem]
 have d5:j.heap.size<(j.alloc (.cells #[.slice (some ⟨c,0,none⟩) n n] 27)).heap.size:=sP;clear ba bi bo bs;generalize j.alloc _=L at *;have cw:=Xa bt;have bc:=Xa bz;have bf:=Xa (a4.keep (aq.mono bw));have ci:=aq.size;clear bt bz a4 ce F cd;refine nH (fun C wr=>∃(i:Nat)(M:List Nat)(u7 u8 ck cl cp cq cr cs ct cv a6:Value),i<=f/\C=⟨#[.slice B n G,.slice (some ⟨H,K,none⟩) f c0,undef,undef,.slice none 0 0,.pointer (some ⟨o.heap.size,0,none⟩),.pointer (some ⟨j.heap.size,0,none⟩),u7,u8,undef,undef,.slice B n G,.slice (some ⟨H,K,none⟩) f c0,.slice (some ⟨R,0,none⟩) n n,.slice (some ⟨o.heap.size+1,0,none⟩) 1 1,.slice B n G,.int .i64 n,.slice (some ⟨c,0,none⟩) n n,.slice (some ⟨H,K,none⟩) f c0,.int .i64 f,.int .i64 i,ck,cl,cp,cq,cr,cs,ct,cv,undef,undef,undef,undef,undef,undef,undef,undef,undef,undef,undef,undef,undef,a6,undef],mks M⟩/\Hid (L.grownBy wr (some c))/\Hid (wr.rowIs c 2 n (fun z=>.int .i64 (VB l a i z)))/\Hid (ZJ wr L.heap.size M)) (fun C _=>f-(intOf (C.tmps.getD 20 undef)).toNat) ?_ ?_
 ·exact⟨0,[],_,_,_,_,_,_,_,_,_,_,_,aN _,rfl,Xa (lJ _ _),bl,Xa ⟨iU,fun _ A=>(by cases A),fun _ A=>(by cases A)⟩⟩
 ·rintro C wr ⟨i,M,u7,u8,ck,cl,cp,cq,cr,cs,ct,cv,a6,hi,rfl,v,HR,HM⟩
  clear bl;by_cases ev:i<f
  ·have af:i<a.length:=oN h0.out
   obtain⟨m,u,er,ek,bq⟩:=bf i (by simpa [Xi]using af);have a2:=I _ (aH af);have d0:(Xi a)[i]'(by simpa [Xi]using af)=((a[i]:Nat):Int):=by simp[Xi]
   rw[d0]at bq;obtain⟨rfl,rfl⟩:m=H/\u=K:=by injection er with er;injection er with e1 e2;exact⟨e1.symm,e2.symm⟩
   have di:m<L.heap.size:=oM;have E:m≠c:=oM;have ep:=(bZ (v.block m di (fun e=>E (by injection e)))).trans bq;have eq:i<=c0:=oM;have b8:a.getD i 0=a[i]:=by simp[af]
   have ab:=Xa b8;have d4:=v.size;have b7:c<L.heap.size/\L.heap.size<=wr.heap.size:=⟨oM,d4⟩;have bd:=Xa b7;clear b8 b7
   gi_wp2
   refine⟨trivial,(sQ Fence.wide 3 trivial rfl _ i c0 _).mono ?_⟩;rintro e q ⟨rfl,X⟩;rw[aO];have ch:q.heap.size=wr.heap.size+2:=by rw[X];simp
   have b4:q.cell? ⟨wr.heap.size,0,none⟩=some (.int .i64 ((a[i]:Nat):Int)):=by rw[X];simp[go_sem]
   have d3:q.cell? ⟨wr.heap.size+1,0,none⟩=some (.slice (some ⟨m,u,none⟩) i c0):=by
    rw[X];simp[go_sem]
   have h:Below wr.heap.size wr q:=by rw[X];exact Xb (Xb (Below.refl _ _) _) _
   clear X;have a3:∀k,k<L.heap.size->k≠c->q.heap[k]?=L.heap[k]?:=fun k d E=>(h.block k oM).trans (v.block k d (fun e=>E (by injection e)))
   have d2:∀t,t<i->q.cell? ⟨m,u+t,none⟩=some (.int .i64 ((a[t]?.getD 0:Nat):Int)):=fun t hj=>by
    obtain⟨b5,o5,e5,h5,e6⟩:=bf t (by simp[Xi];omega);injection e5 with e5;injection e5 with e1 e2;subst e1;subst e2;have dl:t<a.length:=oM;have d1:(Xi a)[t]'(by simp[Xi];omega)=((a[t]:Nat):Int):=by simp[Xi]
    rw[d1]at e6;rw[aC dl,gR];exact(bZ (a3 m oM oM)).trans e6
   have ca:=HR.of_block (h.block c oM);have bm:=Xa ca;have db:=Xa ((da.grown v oM (fun t hj e=>by have:=c6 t hj;omega)).keep h);have bv:=(bZ (a3 o.heap.size oM oM)).trans cw;have b1:=(bZ (a3 j.heap.size oM oM)).trans bc;have cz:=Xa b4;have cx:=Xa bv;have c8:=Xa b1;have ec:=Xa ch;have e7:wr.heap.size+2<=q.heap.size:=oM;clear ch b4 bv b1 ca
   gi_wp2
   refine wpIn_rangeFunc_ownF (F:=Fence.wide) (n:=4) rfl vY (gf:=123) (lb:=#[.pointer (some ⟨wr.heap.size+1,0,none⟩)]) rfl trivial (enters_of func123 vZ rfl) (rM Fence.wide 3 trivial rfl vY (wr.heap.size+1) m u i c0 a n I V oM q oM oM d3 d2) belowK_t (belowK_b (aA _)) (Below.refl _ _) (fun _=>rfl)
    (fun Q W=>Below q.heap.size q W/\∀y∈Q,Xh (l a[i]) y.1.2=true)
    (fun ay Q W=>ay=.exit 2/\∃Z x,Q=Z++[x]/\(∀y∈Z,Xh (l a[i]) y.1.2=true)/\Xh (l a[i]) x.1.2=false/\q.grownBy W (some c)/\W.rowIs c 2 n (fun z=>.int .i64 (if z=a[i]then (x.1.2:Int)else VB l a i z)))
    (fun ea W W' row F r J=>⟨F.1.grown r F.1.size (fun k e=>(J k e).1),F.2⟩)
    (fun ay ea W W' row F r J=>by
     obtain⟨hc,Z,x,e,h1,N,O,cc⟩:=F;refine⟨hc,Z,x,e,h1,N,⟨r.os.trans O.os,r.tape.trans O.tape,r.output.trans O.output,aJ O.size r.size,fun k d E=>(r.block k (aX d O.size) (fun e=>by have:=(J k e.symm).1;omega)).trans (O.block k d E)⟩,cc.of_block (r.block c cc.lt (fun e=>by have:=(J c e.symm).1;omega))⟩)
    ⟨Below.refl _ _,fun _ A=>by cases A⟩
    (fun x=>⟨#[.slice B n G,.slice (some ⟨m,u,none⟩) f c0,undef,undef,.slice none 0 0,.pointer (some ⟨o.heap.size,0,none⟩),.pointer (some ⟨j.heap.size,0,none⟩),.int .i64 i,.pointer (some ⟨wr.heap.size,0,none⟩),undef,.int .i64 (x.1.2:Int),.slice B n G,.slice (some ⟨m,u,none⟩) f c0,.slice (some ⟨R,0,none⟩) n n,.slice (some ⟨o.heap.size+1,0,none⟩) 1 1,.slice B n G,.int .i64 n,.slice (some ⟨c,0,none⟩) n n,.slice (some ⟨m,u,none⟩) f c0,.int .i64 f,.int .i64 i,.bool true,.int .i64 i,.pointer (some ⟨m,u+i,none⟩),.int .i64 ((a[i]:Nat):Int),.slice (some ⟨m,u,none⟩) f c0,.int .i64 i,.slice (some ⟨m,u,none⟩) i c0,.func (.func 123) #[] #[.pointer (some ⟨wr.heap.size+1,0,none⟩)],.int .i64 (x.1.1:Int),.int .i64 (x.1.2:Int),undef,undef,undef,undef,undef,undef,undef,undef,undef,undef,undef,a6,undef],[]⟩) ?assign ?body ?done ?stop
   case assign =>
    intro P x W bp hK
    gi_wp2
    exact hK
   case body =>
    rintro P Q x W ⟨s,S⟩ _;have bx:=(XU s oM).trans cz;have dd:=(XU s oM).trans cx;have b2:=(XU s oM).trans c8;have a0:=db.keep s;have dj:=a0.row.cell a2;have ey:=x.2;have a7:=Xa S;have g:=Xa s;have cb:=bm.of_block (s.block c oM);have ad:=Xa cb;have ac:=Xa (Jm (gs a[i]) bp x.1.2 (l a[i]) W (Xa (dc.out a[i])) (Xa (a0.set a[i] a2)) oM oM);clear S s cb a0;cases hh:Xh (l a[i]) x.1.2 with
    | true =>
     have HH:=Xa hh;rw[hh]at ac;clear hh
     gi_wp2
     refine⟨trivial,(CallsIn.inRound P (bM.2 ac)).mono ?_⟩;rintro e W5 ⟨rfl,D⟩;have p:=Xa D;clear D
     gi_wp2
     exact⟨⟨p.size,fun k cj d _=>(p.block k (aS.1 d).1).trans d⟩,p.mono g.size,Xg g p,fun y Y=>by
      rcases bU.1 Y with A | A
      ·exact a7 y A
      ·have:y=x:=by simpa using A
       rw[this];exact HH⟩
    | false =>
     have HH:=Xa hh;rw[hh]at ac;clear hh
     gi_wp2
     refine⟨trivial,(CallsIn.inRound P (bM.2 ac)).mono ?_⟩;rintro e W5 ⟨rfl,D⟩;have ed:=oB D bx (by show wr.heap.size<_;have:=g.size;omega);have ei:=oB D b2 (by show j.heap.size<_;have:=g.size;omega);have aj:=ad.of_block (D.block c (oN g.size));have em:=aj.cell a2;have es:=aj.frozen a[i];have c9:=Xa aj;have p:=Xa D;clear D aj bx b2 dd dj ad
     gi_wp2
     refine⟨⟨by rw[Xd];exact p.size,fun k cj d I=>?_⟩,rfl,Q,x,rfl,a7,HH,?_,?_⟩
     ·have dn:=(aS.1 d).1
      have h5:=(p.block k dn).trans d;exact(KeepsOthers.setCell W5 _ _).same k cj h5 I
     ·exact((⟨(Xg g p).os,(Xg g p).tape,(Xg g p).output,(Xg g p).size,fun k d _=>(Xg g p).block k d⟩:q.grownBy W5 (some c))).trans ⟨rfl,rfl,rfl,by simp[World.setCell],fun k _ d=>Below.heap_setCell _ _ _ _ (fun e=>d (by rw[e]))⟩
     ·exact TS (C:=Value.int .i64) c9 a[i] (x.1.2:Int)
   case done =>
    rintro ap ys W hD rfl ⟨s,S⟩ hK;have U:=vI I V (len:=i) oM (p:=fun C=>!Xh (l (a.getD i 0)) C) (fun y Y=>by rw[ab.out,S y Y];rfl);have ar:=Xa U;have g:=Xa s;have ax:=Xa hK;clear U S s hK
    gi_wp2
    refine⟨⟨i+1,ap::M,_,_,_,_,_,_,_,_,_,_,_,oM,rfl,Xa ?_,Xa ?_,Xa ?_⟩,by simp[intOf];omega⟩
    ·exact(v.trans ⟨h.os,h.tape,h.output,h.size,fun k d _=>h.block k d⟩).trans ⟨g.os,g.tape,g.output,g.size,fun k d _=>g.block k d⟩
    ·exact(bm.of_block (g.block c oM)).congr (fun z _=>by rw[oL ar.out])
    ·exact pn HM oM ax (fun k d E=>(g.block k oM).trans (h.block k d)) bd
   case stop =>
    rintro ap ay Q W hD ⟨k,d,rfl⟩ ⟨rfl,Z,x,e,h1,N,r,J⟩ hK;have U:=wB I V (len:=i) oM (dU d) (p:=fun C=>!Xh (l (a.getD i 0)) C) e.symm (fun y Y=>by rw[ab.out,h1 y Y];rfl) (by rw[ab.out,N];rfl);have ar:=Xa U;have bb:=Xa r;have ad:=Xa J;have ax:=Xa hK;clear U h1 N r J hK e
    gi_wp2
    refine⟨⟨i+1,ap::M,_,_,_,_,_,_,_,_,_,_,_,oM,rfl,Xa ?_,Xa ?_,Xa ?_⟩,by simp[intOf];omega⟩
    ·exact(v.trans ⟨h.os,h.tape,h.output,h.size,fun k d _=>h.block k d⟩).trans bb
    ·exact ad.congr (fun z _=>by rw[pC ar.out,ab.out])
    ·exact pn HM oM ax (fun k d E=>(bb.block k oM (fun e=>E (by injection e))).trans (h.block k d)) bd
  ·have dk:i=f:=oM
   subst dk;have ej:=(bZ (v.block j.heap.size d5 (fun e=>by injection e with e;omega))).trans bc
   gi_wp2
   refine U4 M wr HM v.size (fun W' b3=>?_);refine⟨.slice (some ⟨c,0,none⟩) n n,by simp[results,results87,go_sem],c,l,rfl,oM,?_,?_,c7⟩
   ·exact(aq.grown v ci (fun k e=>by cases e;omega)).trans (b3.mono ci)
   ·exact HR.of_block (b3.block c oM)
end
structure FrO(w w':World)(v v':Value):Prop where
 os:w'.os=w.os
 tape:w'.tape=w.tape
 output:w'.output=w.output
 size:w.heap.size<=w'.heap.size
 block:∀k,k<w.heap.size->some k≠v.ownBlock->w'.heap[k]?=w.heap[k]?
 own:v'.ownBlock=v.ownBlock\/∀k,v'.ownBlock=some k->w.heap.size<=k
theorem FrO.refl(w:World)(v:Value):FrO w w v v:=⟨rfl,rfl,rfl,aA _,fun _ _ _=>rfl,bC rfl⟩
theorem FrO.trans{g:Value}(h:FrO w v a A)(k:FrO v u A g):FrO w u a g:=by
 refine⟨k.os.trans h.os,k.tape.trans h.tape,k.output.trans h.output,aJ h.size k.size,fun j d f=>?_,?_⟩
 ·refine(k.block j (aX d h.size) (fun e=>?_)).trans (h.block j d f)
  rcases h.own with b | b
  ·exact f (by rw[e,b])
  ·have:=b j e.symm;omega
 ·rcases k.own with c | c
  ·rcases h.own with b | b
   ·exact bC (c.trans b)
   ·exact aZ (fun j e=>b j (by rw[<-c];exact e))
  ·exact aZ (fun j e=>aJ h.size (c j e))
theorem FrO.below(h:FrO w v a A)(c:w.ownsRow n m k a B y)(f:n<=w.heap.size):Below n w v:=⟨h.os,h.tape,h.output,h.size,fun b d=>h.block b oM (fun e=>by have:=(c.lt b e.symm).1;omega)⟩
theorem FrO.push{d:Obj}(b:(w.alloc d).grownBy v a.ownBlock)(h:A.ownBlock=a.ownBlock\/A.ownBlock=some (w.heap.size+1)):FrO w v a A:=by
 have j:(w.alloc d).heap.size=w.heap.size+1:=aO _ _;have i:=b.size;refine⟨b.os,b.tape,b.output,oM,fun k f g=>(b.block k oM g).trans (Below.heap_alloc _ _ _ f),?_⟩;rcases h with e | e
 ·exact bC e
 ·exact aZ (fun k c=>by rw[e]at c;injection c with c;omega)
theorem AQ(a:∀b c,c∈chP l b->f b<f c)(d:∀b,f b<=n){b:Nat}(h:n<=f b+m):XT l m b=b::(chP l b).flatMap (XT l (m-1)):=by
 cases m with
 | zero =>
  have:chP l b=[]:=by
   cases e:chP l b with
   | nil=>rfl
   | cons c j =>
    have g:=a b c (by rw[e];exact cI);have i:=d c;omega
  rw[this];rfl
 | succ m=>rfl
theorem su(M:Option Addr)(n cc:Nat)(P:List Int)(L2 z d:Nat)(hx:Hid (n=P.length))(hn:n<=1000)(s:z<=d)(R:Nat->Nat)(O:Hid (∀b c,c∈chP P b->R b<R c))(Q:Hid (∀b,R b<=n)) :
 ∀(m b:Nat)(v:Value)(L:List Nat)(w:World),Hid (XR w L2 z M ((List.range n).map fun i:Nat=>Xi (chP P i)))->Hid (w.ownsRow d 2 1 v L.length (Je L))->d<=w.heap.size->b<n->Hid (n<=R b+m)->L.length+(XT P m b).length<=4000 ->
 Calls prog 88 #[v,.slice M n cc,.int .i64 b] w fun g w'=>∃y,g=.returned y/\FrO w w' v y/\w'.ownsRow d 2 1 y (L++XT P m b).length (Je (L++XT P m b)):=by
 obtain⟨i0,aq,ax,ay,az⟩:=Xq Tryz.info2';intro m
 induction m using Nat.strongRecOn with
 | _ m ih =>
  intro b v L w B G hz hb K t;have IH:=Xa ih;clear ih;obtain⟨bc,oc,rfl,a4,a1,c1,h,x⟩:=B b (by simpa using hb);simp only[cM,dW,Y0]at h x;have C:=Xa (AQ O Q K);rw[C.out]at t |-;have ab:Hid (∀c∈chP P b,c<n/\n<=R c+(m-1)/\0<m):=Xa (fun c T=>by
   have N:=O b c T;have h2:=Q c;have h3:=(jl.1 T).1;have:=K.out;have:=hx.out;omega)
  have ar:(chP P b).length<=n:=aJ AK (oN hx.out);have E:=Xa x;generalize chP P b=a at *;obtain⟨q,hq⟩:∃q,q=a.length:=⟨_,rfl⟩;rw[<-hq]at h ar;have I:=Xa hq;have a2:L.length+1+(a.flatMap (XT P (m-1))).length<=4000:=by simp only[bA]at t;omega
  clear hq x C t
  go_in
  go_wp2_with (at_builtin;refine bT _ rfl _ _ 27 rfl d 2 i0 (.int .i64 0) 1 8 underlying27 aq ax ay az rfl vY _ _ _ rfl (G.alloc _) ⟨w.heap.size,0,none⟩ 1 1 [.int .i64 (b:Int)] rfl rfl ?c1 ?c2 ?c3 ?c4 ?c5 ?_)
  case c1=>exact Yf _ _ _
  case c2=>intro u Z;simp at Z;subst Z;rfl
  case c3=>unfold maxLen;omega
  case c4=>omega
  case c5=>simp;omega
  intro v8 w8 Y V _ S;have p:=Xa (FrO.push V (by simpa using S));have H:Hid (w8.ownsRow d 2 1 v8 (L++[b]).length (Je (L++[b]))):=Xa (by rw[VP,aQ];exact Y);have l:=Xa (p.below G hz);have a7:=p.size;have aj:=(XU l oM).trans h;have aa:=Xa (B.keep (l.mono s));have ad:=Xa (E.keep (l.mono s));clear Y V S h E
  go_wp2
  go_loopw [0,18] (fun vo u wr=>∃j:Nat,j<=q/\u=.int .i64 j/\Hid (FrO w8 wr v8 vo)/\Hid (wr.ownsRow d 2 1 vo (L++[b]++(a.take j).flatMap (XT P (m-1))).length (Je (L++[b]++(a.take j).flatMap (XT P (m-1)))))) (fun _ u _=>q-(intOf u).toNat)
  case atStart=>exact⟨0,aN _,rfl,Xa (FrO.refl _ _),Xa (by simpa using H.out)⟩
  case round =>
   obtain⟨j,hj,rfl,e,f⟩:=hrel;clear aj;have A:=Xa (e.below H oM);by_cases a6:j<q
   ·have k:j<a.length:=oN I.out
    obtain⟨b5,o5,rfl,a3,e5⟩:=ad j (by rw[Y0];exact k);have W:(Xi a)[j]'(by rw[Y0];exact k)=((a[j]:Nat):Int):=by simp[Xi]
    rw[W]at e5;have a0:=(XU A oM).trans e5;obtain⟨al,ap,hm⟩:=ab a[j] (aH k);have r:Hid ((a.take (j+1)).flatMap (XT P (m-1))=(a.take j).flatMap (XT P (m-1))++XT P (m-1) a[j]):=Xa (by rw[bN k,eZ];simp);have F:Hid ((L++[b]++(a.take j).flatMap (XT P (m-1))).length+(XT P (m-1) a[j]).length<=4000):=Xa (by
     have N:(a.flatMap (XT P (m-1))).length=((a.take (j+1)).flatMap (XT P (m-1))).length+((a.drop (j+1)).flatMap (XT P (m-1))).length:=by
      rw[<-aQ,<-eZ,hH]
     rw[r.out,aQ]at N;simp only[aQ,bA,bO];omega)
    have o:=Xa (IH.out (m-1) oM a[j] u0 _ wr (Xa (aa.keep (A.mono s))) f (oN e.size) al (Xa ap) F);have D:=Xa (show(L++[b]++(a.take j).flatMap (XT P (m-1)))++XT P (m-1) a[j]=L++[b]++(a.take (j+1)).flatMap (XT P (m-1)) by rw[r.out];simp);rw[D.out]at o;clear e5 W r F D;generalize a[j]=cj at *
    go_wp2_with fail
    refine o.mono ?_;rintro g w5 ⟨v5,rfl,U,X⟩;have ac:=Xa (e.trans U);have af:=Xa X;clear U X o f
    go_wp2
    exact⟨⟨j+1,oM,gM,ac,af⟩,by simp[intOf];omega⟩
   ·have a5:j=q:=oM
    have J:Hid (a.take j=a):=Xa (aW (oN I.out));rw[J.out]at f;clear J
    go_wp2
    go_ret
    refine⟨u0,rfl,p.trans e,?_⟩;have g:L++b::a.flatMap (XT P (m-1))=L++[b]++a.flatMap (XT P (m-1)):=sP;rw[g];exact f
theorem Ki(l:Int)(a:Option Addr)(n c:Nat)(w:World)(s:n<=1000) :
 Calls prog 33 #[.agg #[.int .i64 l,.slice a n c]] w fun i d=>∃f b,i=.returned (.pointer (some ⟨f,0,none⟩))/\w.heap.size<=f/\w.heap.size<=b/\Below w.heap.size w d/\YW d f b d.heap.size ((n+63) / 64) a n c (fun _=>0) (.slice none 0 0) []:=by
 have o:=Xa (fun W=>Tt n W oM)
 go_in
 go_wp2_with fail
 refine Y7 (fun d=>d.cell? ⟨w.heap.size,1,none⟩=some (.slice a n c)) (fun hHeld=>?_);refine Xn 0 ?_;refine Xn 1 ?_;refine Xn 2 ?_;refine Xn 3 ?_;refine Xn 4 ?_;refine Xs 5 (fun K hK=>?_);go_simp
 go_at_call 72
 refine(o _).mono ?_;rintro i h ⟨b,rfl,k,e,g⟩;have t:w.heap.size+1<=h.heap.size:=by have:=e.size;simp at this;omega
 have j:Cl h w.heap.size 1 (.slice a n c):=(e.cell (p:=⟨w.heap.size,1,none⟩) (by show w.heap.size<_;simp)).trans (by simp[go_sem]);have r:=g.lt;have m:=Xa (Xg (w1:=(w.alloc (.cells #[.int .i64 l,.slice a n c] 25)).drew) (Xb (Below.refl _ _) _).drew e);have p:=Xa g;have q:w.heap.size<=b:=by simp at k;omega
 clear e g k;refine hK _ _ j (fun hHeld=>?_);clear hK;refine Xn 6 ?_;refine Xs 7 (fun K hK=>?_);go_simp;refine hK _ _ ((bP _ _ _ (by show w.heap.size<_;omega)).trans j) (fun hHeld=>?_);clear hK;refine Xn 8 ?_;refine Yq ?_
 go_wp2
 go_ret
 refine⟨h.heap.size,b,rfl,oM,q,Xb m _,⟨sP,sP,sP,fun u=>sP,p.alloc _,dA _ _ _ _,sP,by simp;omega,oM,aA _⟩⟩
section
theorem YL{P:Program}{l:Array Oper}{w:World}{o:Oper}{b:Act}{K:Act->World->Prop}{Q:Exit->Act->World->Prop}{E:Prop}(I:o.guard=none)(s x:Operand)(t:TypeId)
 (N:o.op=.call { callee:=.builtin .append,args:=#[s,x],argTypes:=#[t,t] })
 (f:Nat) (e:TypeId) (i:TypeInfo) (z:Value) (size bytes:Nat) (X:P.underlying t=some (.slice e)) (J:P.info? e=some i) (hz:i.zero=some z)
 (T:i.size=size) (G:i.bytes=bytes) (aa:z.cells.size=size) (W:0<size)
 (v:Value) (n:Nat) (h:List Value) (S:b.eval s=v) (O:w.ownsRow f e size v n h)
 (g:Addr) (m j:Nat) (c:List Value) (Z:b.eval x=.slice (some g) m j) (L:c.length=m*size) (M:∀k u,c[k]?=some u->w.cell? (g.add k)=some u) (q:∀u∈c,u.oneCell'=true)
 (C:n+m<=maxLen) (H:(n+m)*bytes<=140737488355328) (D:f<=w.heap.size)
 (p:∀a d,d.ownsRow f e size a (n+m) (h++c)->w.grownBy d v.ownBlock->(a=.slice none 0 0↔v=.slice none 0 0/\m=0)->(a.ownBlock=v.ownBlock\/a.ownBlock=some w.heap.size)->K (b.put o.dst a) d) :
 if Region.wanted o (yielded l b.tmps)=true then Oper.wp P o b w K Q else E:=by
 have Y:Region.wanted o (yielded l b.tmps)=true:=by simp[Region.wanted,I]
 rw[aU Y];obtain⟨a,d,R,r,y,A,B⟩:=kI (P:=P) w f t o.type e i z size bytes X J hz T G aa W v n h O g m j c L M q C H D;unfold Oper.wp execOp;simp only[N,resolve,invoke,builtin,lG,lH,jE,jN,eH,fZ,S,Z,R];exact p a d r y A B
theorem Tryz.infoSetI:(prog.info? 55).map (fun i=>(i.zero,i.size,i.bytes))=some (some (.agg #[.slice none 0 0]),1,24):=vZ
structure FwI(w6 wr:World)(F:Nat)(x2 x3:Value)(U V:Nat->Value)(b1:Nat)(p1:Option Addr)(c1 b2:Nat)(p2:Option Addr)(c2:Nat):Prop where
 e0:wr.cell? ⟨F,0,none⟩=some (.slice p1 b1 c1)
 e1:wr.cell? ⟨F,1,none⟩=some (.slice p2 b2 c2)
 e2:wr.cell? ⟨F,2,none⟩=some x2
 e3:wr.cell? ⟨F,3,none⟩=some x3
 thaw:∀q,wr.frozen? ⟨F,q,none⟩=false
 bel:Below F w6 wr
 lt:F<wr.heap.size
 le:F=w6.heap.size
 o1:wr.ownsRow (F+1) 55 1 (.slice p1 b1 c1) b1 ((List.range b1).map U)
 o2:wr.ownsRow (F+1) 4 1 (.slice p2 b2 c2) b2 ((List.range b2).map V)
 dj:(Value.slice p1 b1 c1).ownBlock=none\/(Value.slice p1 b1 c1).ownBlock≠(Value.slice p2 b2 c2).ownBlock
structure yY(w:World)(B n:Nat)(U:Nat->Value)(Pr:Nat->List Int)(V:Nat->Bool)(P:List Int)(Od:List Nat)(g1 c1 g2 c2 g3 g4 c4:Nat):Prop where
 len:P.length=n
 o1:w.ownsRow B 55 1 (.slice (some ⟨g1,0,none⟩) n c1) n ((List.range n).map U)
 o2:w.ownsRow B 4 1 (.slice (some ⟨g2,0,none⟩) n c2) n ((List.range n).map fun z=>.bool (V z))
 o3:w.rowIs g3 2 n (fun z=>.int .i64 (P.getD z 0))
 o4:w.ownsRow B 2 1 (.slice (some ⟨g4,0,none⟩) Od.length c4) Od.length (Je Od)
 rows:∀i,i<n->w.ownsRow B 2 1 (U i) (Pr i).length ((Pr i).map (Value.int .i64))
 rdj:∀i j,i<n->j<n->i≠j->(U i).ownBlock=none\/(U i).ownBlock≠(U j).ownBlock
 gs:B<=g3/\g1≠g2/\g1≠g3/\g1≠g4/\g2≠g3/\g2≠g4/\g3≠g4
 out:∀i,i<n->∀k,(U i).ownBlock=some k->k≠g1/\k≠g2/\k≠g3/\k≠g4
theorem fd{w d:World}{B a t s n:Nat}{v:Value}{b:List Value}(i:w.ownsRow B t s v n b)(l:a<=B)(p:∀k,v.ownBlock=some k->d.heap[k]?=w.heap[k]?):d.ownsRow a t s v n b:=by
 obtain⟨c,j | ⟨g,f,h,e,m,o,q⟩⟩:=i
 ·exact⟨c,bC j⟩
 ·exact⟨c,aZ ⟨g,f,h,e,aJ l m,(p g (by rw[e];rfl)).trans o,q⟩⟩
theorem CG{w:World}{R F t:Nat}{i:Nat->Value}(l:w.rowIs R t 4 i)(m:R≠F)(x c d f g:Value)(a:World)(e:a=((((w.setCell ⟨F,3,none⟩ x).setCell ⟨R,0,none⟩ c).setCell ⟨R,1,none⟩ d).setCell ⟨R,2,none⟩ f).setCell ⟨R,3,none⟩ g) :
 a.cell? ⟨R,0,none⟩=some c/\a.cell? ⟨R,1,none⟩=some d/\a.cell? ⟨R,2,none⟩=some f/\a.cell? ⟨R,3,none⟩=some g/\(∀k,k≠F->k≠R->a.heap[k]?=w.heap[k]?)/\a.heap.size=w.heap.size/\a.os=w.os/\a.tape=w.tape/\a.output=w.output:=by
 have h:=((((l.setOther (a:=⟨F,3,none⟩) m x).set 0 c).set 1 d).set 2 f).set 3 g;rw[<-e]at h;refine⟨?_,?_,?_,?_,fun k j b=>?_,?_,?_,?_,?_⟩
 ·rw[h.cell vY];simp
 ·rw[h.cell vY];simp
 ·rw[h.cell vY];simp
 ·rw[h.cell vY];simp
 ·rw[e,Below.heap_setCell _ _ _ _ b,Below.heap_setCell _ _ _ _ b,Below.heap_setCell _ _ _ _ b,Below.heap_setCell _ _ _ _ b,Below.heap_setCell _ _ _ _ j]
 ·rw[e];simp[World.setCell]
 ·rw[e];simp[World.setCell]
 ·rw[e];simp[World.setCell]
 ·rw[e];simp[World.setCell]
section
variable {w6 wr wr' : World} {F : Nat} {x2 x3 : Value} {U V : Nat -> Value} {b1 : Nat} {p1 : Option Addr} {c1 b2 : Nat} {p2 : Option Addr} {c2 : Nat}
theorem FwI.below(h:FwI w6 wr F x2 x3 U V b1 p1 c1 b2 p2 c2)(k:Below wr.heap.size wr wr'):FwI w6 wr' F x2 x3 U V b1 p1 c1 b2 p2 c2:=by
 have c:=k.block F h.lt;have a:∀q,wr'.cell? ⟨F,q,none⟩=wr.cell? ⟨F,q,none⟩:=fun q=>bZ c
 have own:∀{t v n b},wr.ownsRow (F+1) t 1 v n b->wr'.ownsRow (F+1) t 1 v n b:=fun {t v n b} e=>by
  refine e.kept (row:=none) ⟨k.os,k.tape,k.output,k.size,fun j d _=>k.block j d⟩ ?_;cases v.ownBlock with
  | none=>exact bC rfl
  | some j=>exact aZ sP
 exact⟨(a 0).trans h.e0,(a 1).trans h.e1,(a 2).trans h.e2,(a 3).trans h.e3,fun q=>(bJ c).trans (h.thaw q),h.bel.trans (k.mono (dU h.lt)),aX h.lt k.size,h.le,own h.o1,own h.o2,h.dj⟩
theorem mg{w:World}{B t s n:Nat}{v:Value}{a:List Value}(h:w.ownsRow B t s v n a){k:Nat}(b:w.heap.size<=k):v.ownBlock=none\/v.ownBlock≠some k:=by
 by_cases e:v.ownBlock=some k
 ·have:=(h.lt k e).2;omega
 ·exact aZ e
theorem Ag{a b:Option Nat}(h:a=none\/a≠b):b=none\/b≠a:=by
 rcases h with h | h
 ·subst h
  cases b with
  | none=>exact bC rfl
  | some k=>exact aZ sP
 ·exact aZ (fun e=>h e.symm)
theorem oe{w:World}{B t s n:Nat}{v:Value}{a:List Value}(h:w.ownsRow B t s v n a):w.drew.ownsRow B t s v n a:=h
theorem me{a:Type}(f:Nat->a)(b:Nat):(List.range (b+1)).map f=(List.range b).map f++[f b]:=by rw[dN,bG];rfl
theorem FwI.app1{a:World}{g:Obj}{f:Option Addr}{c:Nat}(h:FwI w6 wr F x2 x3 U V b1 p1 c1 b2 p2 c2)(b:(wr.alloc g).grownBy a (Value.slice p1 b1 c1).ownBlock)(s:a.ownsRow (F+1) 55 1 (.slice f (b1+1) c) (b1+1) ((List.range b1).map U++[U b1]))(p:(Value.slice f (b1+1) c).ownBlock=(Value.slice p1 b1 c1).ownBlock\/(Value.slice f (b1+1) c).ownBlock=some (wr.heap.size+1)) :
 FwI w6 (a.setCell ⟨F,0,none⟩ (.slice f (b1+1) c)) F x2 x3 U V (b1+1) f c b2 p2 c2/\(∀q,a.cell? ⟨F,q,none⟩=wr.cell? ⟨F,q,none⟩)/\(∀q,a.frozen? ⟨F,q,none⟩=false)/\Below F wr a:=by
 have r:=h.lt;have ha:∀k,k<wr.heap.size->(wr.alloc g).heap[k]?=wr.heap[k]?:=fun k j=>Below.heap_alloc _ _ _ j
 have u:(wr.alloc g).heap.size=wr.heap.size+1:=aO _ _;have t:=b.size;have o:∀k,k<=F->some k≠(Value.slice p1 b1 c1).ownBlock:=fun k j e=>by have:=(h.o1.lt k e.symm).1;omega
 have m:=(b.block F oM (o _ (aA _))).trans (ha _ r);have d:∀q,a.cell? ⟨F,q,none⟩=wr.cell? ⟨F,q,none⟩:=fun q=>bZ m
 have l:=fun q=>(bJ m).trans (h.thaw q)
 have n:Below F wr a:=⟨b.os,b.tape,b.output,oM,fun k j=>(b.block k oM (o k oM)).trans (ha k oM)⟩;refine⟨⟨fQ _ _ _ ((d 0).trans h.e0),(XL _ _ oM _).trans ((d 1).trans h.e1),(XL _ _ oM _).trans ((d 2).trans h.e2),(XL _ _ oM _).trans ((d 3).trans h.e3),fun q=>by rw[eX];exact l q,(h.bel.trans n).setCell (p:=⟨F,0,none⟩) (aA _) _,by rw[Xd];omega,h.le,?_,?_,?_⟩,d,l,n⟩
 ·rw[me]
  exact ownsRow_setCell_below s (by show F<F+1;omega) _
 ·exact ownsRow_setCell_below ((h.o2.alloc g).kept b (Ag h.dj)) (by show F<F+1;omega) _
 ·rcases p with e | e
  ·rw[e];exact h.dj
  ·rcases mg h.o2 (k:=wr.heap.size+1) oM with i | i
   ·exact aZ (by rw[e,i];simp)
   ·exact aZ (by rw[e];exact fun k=>i k.symm)
theorem FwI.app2{a:World}{g:Obj}{f:Option Addr}{c:Nat}(h:FwI w6 wr F x2 x3 U V b1 p1 c1 b2 p2 c2)(b:(wr.alloc g).grownBy a (Value.slice p2 b2 c2).ownBlock)(s:a.ownsRow (F+1) 4 1 (.slice f (b2+1) c) (b2+1) ((List.range b2).map V++[V b2]))(p:(Value.slice f (b2+1) c).ownBlock=(Value.slice p2 b2 c2).ownBlock\/(Value.slice f (b2+1) c).ownBlock=some (wr.heap.size+1)) :
 FwI w6 (a.setCell ⟨F,1,none⟩ (.slice f (b2+1) c)) F x2 x3 U V b1 p1 c1 (b2+1) f c/\(∀q,a.cell? ⟨F,q,none⟩=wr.cell? ⟨F,q,none⟩)/\(∀q,a.frozen? ⟨F,q,none⟩=false)/\Below F wr a:=by
 have r:=h.lt;have ha:∀k,k<wr.heap.size->(wr.alloc g).heap[k]?=wr.heap[k]?:=fun k j=>Below.heap_alloc _ _ _ j
 have u:(wr.alloc g).heap.size=wr.heap.size+1:=aO _ _;have t:=b.size;have o:∀k,k<=F->some k≠(Value.slice p2 b2 c2).ownBlock:=fun k j e=>by have:=(h.o2.lt k e.symm).1;omega
 have m:=(b.block F oM (o _ (aA _))).trans (ha _ r);have d:∀q,a.cell? ⟨F,q,none⟩=wr.cell? ⟨F,q,none⟩:=fun q=>bZ m
 have l:=fun q=>(bJ m).trans (h.thaw q)
 have n:Below F wr a:=⟨b.os,b.tape,b.output,oM,fun k j=>(b.block k oM (o k oM)).trans (ha k oM)⟩;refine⟨⟨(XL _ _ oM _).trans ((d 0).trans h.e0),fQ _ _ _ ((d 1).trans h.e1),(XL _ _ oM _).trans ((d 2).trans h.e2),(XL _ _ oM _).trans ((d 3).trans h.e3),fun q=>by rw[eX];exact l q,(h.bel.trans n).setCell (p:=⟨F,1,none⟩) (aA _) _,by rw[Xd];omega,h.le,?_,?_,?_⟩,d,l,n⟩
 ·exact ownsRow_setCell_below ((h.o1.alloc g).kept b h.dj) (by show F<F+1;omega) _
 ·rw[me]
  exact ownsRow_setCell_below s (by show F<F+1;omega) _
 ·rcases p with e | e
  ·rw[e];exact h.dj
  ·rcases mg h.o1 (k:=wr.heap.size+1) oM with i | i
   ·exact bC i
   ·exact aZ (by rw[e];exact i)
end
end
theorem sf(B:Int)(t:Option Addr)(n u:Nat)(a:List Xe)(aq S:Nat)(w:World)(ha:Hid (Xp w aq S t a))(h:Hid (n=a.length))(hs:Hid (a.length+Xx a<=1048576))(hB:S<=w.heap.size)(hO:Hid (Uw w))(hT:Hid (T7 w))(hv:Hid (XJ ⟨B,a⟩=true)) :
 Calls prog 39 #[.agg #[.int .i64 B,.slice t n u]] w fun e Q=>∃U P x c1 y c2 g3 A c4,e=.returned (.agg #[.slice (some ⟨x,0,none⟩) n c1,.slice (some ⟨y,0,none⟩) n c2,.slice (some ⟨g3,0,none⟩) n n,.slice (some ⟨A,0,none⟩) (XT P n 0).length c4])/\Below w.heap.size w Q/\YX (X8 a) n P/\yY Q w.heap.size n U (fun i:Nat=>predsFrom a 0 (i:Int)) (fun z=>Xh (Zp a).1 z) P (XT P n 0) x c1 y c2 g3 A c4:=by
 have s:=Xa (Wz hv);have ad:n<=1000:=oP s.n2 h.out
 have ac:1<=n:=oP s.n1 h.out
 have a6:=Xa (fun W (E:Below w.heap.size w W)=>JK B t n u a aq S W (Xa (ha.keep (E.mono hB))) h hs (oN E.size) (Xa (hO.keep E)) (Xa (hT.keep E)));rw[hv.out]at a6;have b0:=Xa (fun W (E:Below w.heap.size w W)=>KF B t n u a aq S W (Xa (ha.keep (E.mono hB))) h oM (oN E.size) (Xa (by rw[h.out];exact s.ok)))
 go_in
 go_wp2_with fail
 refine(a6 _ (Xb (Xb (Below.refl _ _) _) _)).mono ?_;rintro e j ⟨rfl,Z⟩;obtain⟨ba,ei⟩:=bcell Z;have k0:j.cell? ⟨w.heap.size,0,none⟩=some (.int .i64 B):=by rw[ba _ _ (by simp;omega)];simp[go_sem]
 have k1:j.cell? ⟨w.heap.size,1,none⟩=some (.slice t n u):=by rw[ba _ _ (by simp;omega)];simp[go_sem]
 have bm:=Xa (Xg (Xb (Xb (Below.refl w.heap.size w) _) _) Z);have gx:w.heap.size+2<=j.heap.size:=by have:=Z.size;simp at this;omega
 have b2:Hid (j.rowIs (w.heap.size+1) 83 4 (fun _=>.slice none 0 0)):=Xa (by
  have q:=eK (w.alloc (.cells #[.int .i64 B,.slice t n u] 25)) #[.slice none 0 0,.slice none 0 0,.slice none 0 0,.slice none 0 0] 83 (fun _=>.slice none 0 0) (fun i m=>by
   match i,m with
   | 0,_=>rfl
   | 1,_=>rfl
   | 2,_=>rfl
   | 3,_=>rfl)
  rw[aO]at q;exact q.of_block (Z.block _ sP))
 clear ba ei Z a6
 go_wp2_with fail
 refine(b0 j bm).mono ?_;rintro e G ⟨U,rfl,L,hU⟩;have K0:=Xa k0;have K1:=Xa k1;have T:=Xa (Xg bm L);have v:=Xa hU;have gz:=L.size;have dk:=Xa (b2.of_block (L.block _ b2.lt));have q0:=(XU L oM).trans k0;have q1:=(XU L oM).trans k1;clear k0 k1 K0 K1 b0 hU;clear L
 go_wp2_with fail
 refine(Ki B t n u G ad).mono ?_;rintro e H ⟨p,D,rfl,fq,gf,a8,cz⟩;have I:=Xa a8;have b4:=Xa cz;have g5:=a8.size;have ea:(n+63) / 64<=100:=oM;have eb:n<=64*((n+63) / 64):=oM;generalize (n+63) / 64=X at *;have HC:Hid (G.cell? ⟨w.heap.size,0,none⟩=some (.int .i64 B)/\G.cell? ⟨w.heap.size,1,none⟩=some (.slice t n u)):=Xa ⟨q0,q1⟩;clear q0 q1 a8 cz;have b8:=Xa (ha.keep ((Xg T I).mono hB));have b7:=Xa (VY p D H.heap.size X n u t a aq S h ad eb ea oM oM oM (Xa (by rw[h.out];exact s.tgt)) a.length 0 (fun _=>0) (.slice none 0 0) [] H b4 b8 ac (Xa (by rw[h.out];exact ZA _ _)) (Xa KW) (by simp only[bO,aV];exact ZA _ _))
 go_wp2_with fail
 refine b7.mono ?_;rintro e w4 ⟨rfl,v4,M,o⟩;have b5:Hid (YW w4 p D H.heap.size X t n u (Zp a).1 v4 (Zp a).2):=Xa (by unfold Zp;exact o);clear o;have o:=b5.out;have cl:=fun k hk=>(M.block k oM oM oM (fun e=>by cases e)).trans (I.block k hk)
 have V:Hid (Below G.heap.size G w4):=Xa ⟨M.os.trans I.os,M.tape.trans I.tape,M.output.trans I.output,oN M.size,cl⟩;have bi:0<(Zp a).2.length/\(Zp a).2.length<=1000:=by
  have h1:=s.ord_len;have h2:(Ja a).length=(Zp a).2.length:=by simp[Ja]
  have:=s.n2;omega
 obtain⟨gL,cL,rfl,⟨gc,gd⟩,eg⟩:=Xm o.own bi.1;have bw:Hid (Je (Zp a).2=(Xi (Zp a).2).map (Value.int .i64)):=Xa (by simp[Je,Xi]);have bx:Hid ((Xi (Zp a).2).reverse=Xi (Ja a)):=Xa (by simp[Ja,Xi]);have bv:Hid ((Zp a).2.length=(Ja a).length):=Xa (by simp[Ja]);have br:Hid (w4.ownsRow H.heap.size 2 1 (.slice (some ⟨gL,0,none⟩) (Zp a).2.length cL) (Zp a).2.length ((Xi (Zp a).2).map (Value.int .i64))):=Xa (by rw[<-bw.out];exact o.own);have b1:Hid ((Zp a).2.length=(Xi (Zp a).2).length):=Xa (by simp[Xi]);have c2:=o.c2;have c1:=o.c1;have a2:=Xa o.row;have gr:=o.ne;have gp:=o.lb;have gq:=o.lg;generalize (Zp a).2.length=F at *;clear M o b5 b7 b4 b8 cl
 go_wp2_with fail
 refine(TM gL F cL H.heap.size (Xi (Zp a).2) w4 oM b1 br).mono ?_;rintro e R ⟨rfl,O,bc⟩;rw[bx.out]at bc;have bs:=Xa bc;have aj:=Xa (V.grown O V.size (fun k e=>by cases e;omega));have dw:=(bZ (a:=⟨p,2,none⟩) (O.block p (oN V.size) (fun e=>by injection e with e;omega))).trans c2;have b9:=(bZ (a:=⟨p,1,none⟩) (O.block p (oN V.size) (fun e=>by injection e with e;omega))).trans c1;have ap:=Xa (a2.of_block (O.block D (oN a2.lt) (fun e=>by injection e with e;omega)));have g6:=O.size;clear O bc c1 c2 a2 br b1
 go_wp2_with fail
 have dn:Hid (((List.range n).map fun i:Nat=>predsFrom a 0 (i:Int))=((List.range n).map (XX a n)).map Xi):=Xa (by
  rw[jO];apply gH;intro b _;rw[Function.comp,h.out];exact K9 (fun a0 h c9 ht=>(s.tgt a0 h c9 ht).1) b)
 have b6:Hid (XR R (j.heap.size+1) G.heap.size (some ⟨j.heap.size+1,0,none⟩) (((List.range n).map (XX a n)).map Xi)):=Xa (by rw[<-dn.out];exact v.ints.keep aj);have bt:Hid (Xf R H.heap.size R.heap.size (some ⟨gL,0,none⟩) (Xi (Ja a))):=Xa (by
  obtain⟨a',c',ev,ej⟩:=Xk bs;injection ev with e1;rw[e1];exact ej)
 have bq:=Xa (sV (some ⟨j.heap.size+1,0,none⟩) n n gL 0 F cL ((List.range n).map (XX a n)) (Ja a) H.heap.size R.heap.size (j.heap.size+1) G.heap.size R b6 (Xa sP) bt bv ad ac bi.2 bi.1 eg (aA _) aj.size (Xa (by rw[h.out];exact s.ord_len.2.2)) (Xa (fun he hl=>by
  obtain⟨b,_,rfl⟩:=aY.1 hl;exact⟨aJ m9 oM,fun c9 ht=>(Uf.1 ht).1⟩)))
 refine bq.mono ?_;rintro e d ⟨c,Ws,rfl,ge,ab,cx,c7⟩;have C:Hid (YX (X8 a) n ((List.range n).map (VB Ws (Ja a) F))):=Xa (by
  have q:=s.idm (Ws:=Ws) (by rw[<-h.out];exact c7);rw[<-bv.out,<-h.out]at q;exact q)
 have a5:=Xa cx;have l:=Xa (aj.trans (ab.mono aj.size));have g7:=ab.size;have d1:=oB ab b9 (by show p<_;have:=V.size;omega);have dc:=Xa (ap.of_block (ab.block D ap.lt));have gg:=ap.lt;have fr:p<R.heap.size:=oM;have f0:=(XU l oM).trans HC.1;have f1:=(XU l oM).trans HC.2;have ep:w.heap.size<d.heap.size:=oM;have d5:=fun e9=>(bP d e9 ⟨w.heap.size,1,none⟩ ep).trans f1
 clear ab cx c7 b9 dw ap bq bt b6 bs bx bw I
 go_wp2_with fail
 have bp:Hid (FwI d (d.alloc (.cells #[.slice none 0 0,.slice none 0 0,.slice (some ⟨c,0,none⟩) n n,.slice none 0 0] 83)) d.heap.size (.slice (some ⟨c,0,none⟩) n n) (.slice none 0 0) U (fun z=>.bool (Xh (Zp a).1 z)) 0 none 0 0 none 0):=Xa
  ⟨by simp[go_sem],by simp[go_sem],by simp[go_sem],by simp[go_sem],fun F=>(eK d #[.slice none 0 0,.slice none 0 0,.slice (some ⟨c,0,none⟩) n n,.slice none 0 0] 83 (fun i=>#[.slice none 0 0,.slice none 0 0,.slice (some ⟨c,0,none⟩) n n,.slice none 0 0].getD i undef) (fun i m=>by simp[Array.getElem?_eq_getElem m])).frozen F,Xb (Below.refl _ _) _,sP,rfl,dA _ _ _ _,dA _ _ _ _,bC rfl⟩
 clear f0 f1 d5
 go_loopw [32] (fun af wr=>∃(b:Nat)(p1:Option Addr)(c1:Nat)(p2:Option Addr)(c2:Nat),b<=n/\af=.int .i64 b/\Hid (FwI d wr d.heap.size (.slice (some ⟨c,0,none⟩) n n) (.slice none 0 0) U (fun z=>.bool (Xh (Zp a).1 z)) b p1 c1 b p2 c2)) (fun af _=>n-(intOf af).toNat)
 case atStart=>exact⟨0,none,0,none,0,aN _,rfl,bp⟩
 case round =>
  clear bp;obtain⟨b,p1,c1,p2,c2,fs,rfl,g⟩:=hrel;by_cases cw:b<n
  ·have gv:=g.lt
   have m0:=g.e0;have mz:=g.thaw 0;have mU:=((g.bel).cell (p:=⟨j.heap.size+1,b,none⟩) (by show j.heap.size+1<_;have:=v.1.lt;have:=l.size;omega)).trans (oB l (v.1.cell cw) (by show j.heap.size+1<_;exact v.1.lt));obtain⟨ua,uc,a7,_⟩:=Xk (v.2.1 b cw);have ds:=Xa a7;rw[a7]at mU;generalize (predsFrom a 0 (b:Int)).length=ul at *;clear a7;obtain⟨i1,ek,e6,e7,e8⟩:=Xq Tryz.infoSetI
   go_wp2_with fail
   have ec:j.heap.size+1<d.heap.size:=oP v.1.lt l.size
   have ed:j.heap.size+1≠d.heap.size:=oM;have ax:p<d.heap.size:=oM;have ee:p≠d.heap.size:=oM;have bl:=Xa (fun W (q:Below d.heap.size d W)=>Jm D X b (Zp a).1 W (Xa (fg (X8 a) a.length 0 _ KW)) (Xa (dc.of_block (q.block D oM))) oM oM);refine Y7 (fun Q=>Q.cell? ⟨j.heap.size+1,b,none⟩=some (.slice ua ul uc)) (fun hHeld=>?_);refine Xn 0 ?_;refine Xn 2 ?_;refine Xn 3 ?_;refine Xn 4 ?_;refine Xn 5 ?_;refine Xn 6 ?_;refine eS (rs:=[1,7]) vZ sP ?_;refine(bQ rfl (fun K hK=>?_) (bQ rfl (fun K hK=>?_) dY));go_simp;refine hK _ _ kP (fun hHeld=>?_);clear hK
   try simp only[xX]
   refine Xs 7 (fun K hK=>?_);go_simp;refine hK _ _ kP (fun hHeld=>?_);clear hK;rotate_left;go_simp;refine hK _ _ kP (fun hHeld=>?_);clear hK
   try simp only[xX]
   refine Xs 1 (fun K hK=>?_);go_simp;refine hK _ _ kP (fun hHeld=>?_);clear hK
   all_goals (
    refine Xs 8 (fun K hK=>?_);refine YL rfl _ _ 51 rfl (d.heap.size+1) 55 i1 (.agg #[.slice none 0 0]) 1 24 underlying51 ek e6 e7 e8 rfl vY (.slice p1 b c1) b ((List.range b).map U) rfl ?s1 ⟨wr.heap.size,0,none⟩ 1 1 [.slice ua ul uc] rfl rfl ?s2 ?s3 ?s4 ?s5 ?s6 ?_
    case s1=>exact(oe g.o1).alloc _
    case s2=>exact Yf _ _ _
    case s3=>intro af hu;simp at hu;subst hu;rfl
    case s4=>unfold maxLen;omega
    case s5=>omega
    case s6=>simp;omega
    intro v8 w8 bf ct _ ck;obtain⟨g8,c8,rfl,gb,_⟩:=Xm bf oM;obtain⟨ci,cd,cf,cq⟩:=(g.below (Below.refl wr.heap.size wr).drew).app1 ct (by rw[ds.out];exact bf) (by simpa using ck);have z0:=(cd 0).trans g.e0;have zf:=cf 0;have zU:=oB cq mU ec;have f:=Xa ci;clear bf ct ck ci cd cf cq;refine hK _ _ zU (fun hHeld=>?_);clear hK;refine Xn 9 ?_;refine Xs 10 (fun K hK=>?_);go_simp;refine hK _ _ ((Xc (Below.heap_setCell _ _ _ _ ed)).trans zU) (fun hHeld=>?_);clear hK;refine Yq ?_;clear hHeld z0 zf zU;generalize w8.setCell _ _=w9 at *;have al:=Xa (f.below (Below.refl w9.heap.size w9).drew);have x1:=f.e1;have xl:=f.lt;have xS:=oB f.bel d1 ax;obtain⟨i2,el,ey,ez,e0⟩:=Xq Tryz.infoBo;clear m0 mz mU g
    go_wp2_with fail
    refine Y7 (fun Q=>Q.cell? ⟨p,1,none⟩=some (.slice (some ⟨D,0,none⟩) X X)) (fun hHeld=>?_);refine Xn 0 ?_;refine Xn 2 ?_;refine Xn 3 ?_;refine Xn 4 ?_;refine Xn 5 ?_;refine Xn 6 ?_;refine eS (rs:=[1,7]) vZ sP ?_;refine(bQ rfl (fun K hK=>?_) (bQ rfl (fun K hK=>?_) dY));go_simp;refine hK _ _ kP (fun hHeld=>?_);clear hK
    try simp only[xX]
    refine Xs 7 (fun K hK=>?_);go_simp
    go_at_call 73
    refine(bl _ al.bel).mono ?_;rintro e da ⟨rfl,aa⟩;have r:=Xa (al.below aa);have y1:=r.e1;have yl:=r.lt;have yS:=oB r.bel d1 ax;clear aa;refine hK _ _ yS (fun hHeld=>?_);clear hK;refine Xs 8 (fun K hK=>?_);go_simp;refine hK _ _ kP (fun hHeld=>?_);clear hK;rotate_left;go_simp
    go_at_call 73
    refine(bl _ al.bel).mono ?_;rintro e da ⟨rfl,aa⟩;have r:=Xa (al.below aa);have y1:=r.e1;have yl:=r.lt;have yS:=oB r.bel d1 ax;clear aa;refine hK _ _ yS (fun hHeld=>?_);clear hK
    try simp only[xX]
    refine eS (rs:=[1,8]) vZ sP ?_;refine(bQ rfl (fun K hK=>?_) (bQ rfl (fun K hK=>?_) dY));go_simp;refine hK _ _ kP (fun hHeld=>?_);clear hK
    try simp only[xX]
    refine Xs 8 (fun K hK=>?_);go_simp;refine hK _ _ kP (fun hHeld=>?_);clear hK;rotate_left;go_simp;refine hK _ _ kP (fun hHeld=>?_);clear hK
    try simp only[xX]
    refine Xs 1 (fun K hK=>?_);go_simp;refine hK _ _ kP (fun hHeld=>?_);clear hK
    all_goals (
     refine Xs 9 (fun K hK=>?_);refine YL rfl _ _ 81 rfl (d.heap.size+1) 4 i2 (.bool false) 1 1 underlying81 el ey ez e0 rfl vY (.slice p2 b c2) b ((List.range b).map fun z=>.bool (Xh (Zp a).1 z)) rfl ?s1 ⟨da.heap.size,0,none⟩ 1 1 [.bool (Xh (Zp a).1 b)] rfl rfl ?s2 ?s3 ?s4 ?s5 ?s6 ?_
     case s1=>exact r.o2.alloc _
     case s2=>exact Yf _ _ _
     case s3=>intro af hu;simp at hu;subst hu;rfl
     case s4=>unfold maxLen;omega
     case s5=>omega
     case s6=>simp;omega
     intro hf fb bd cs _ cj;obtain⟨fl,du,rfl,fz,_⟩:=Xm bd oM;obtain⟨ch,cb,ce,cp⟩:=r.app2 cs bd (by simpa using cj);have z0:=(cb 1).trans r.e1;have zf:=ce 1;have zS:=oB cp yS ax;have db:=Xa ch;clear bd cs cj ch cb ce cp;refine hK _ _ zS (fun hHeld=>?_);clear hK;refine Xn 10 ?_;refine Xs 11 (fun K hK=>?_);go_simp;refine hK _ _ ((Xc (Below.heap_setCell _ _ _ _ ee)).trans zS) (fun hHeld=>?_);clear hK;refine Yq ?_;clear hHeld z0 zf zS;generalize fb.setCell _ _=hg at *
     go_wp2
     exact⟨⟨b+1,_,c8,_,du,oM,gM,db⟩,by simp[intOf];omega⟩))
  ·have ef:n=b:=oM
   subst ef;have m2:=g.e2;have ml:=g.lt;obtain⟨P,hP⟩:∃P,P=(List.range n).map (VB Ws (Ja a) F):=⟨_,rfl⟩;rw[<-hP]at C;have a3:=Xa C.len.symm;have dj:Hid (∀z,z<n->P.getD z 0=VB Ws (Ja a) F z):=Xa (fun z hz=>by rw[hP];simp[hz]);have b3:Hid (wr.rowIs c 2 n (fun z=>.int .i64 (P.getD z 0))):=Xa ((a5.of_block (g.bel.block c a5.lt)).congr (fun z hz=>by rw[dj.out z hz]));have cv:=a5.lt;have dd:Hid (Xf wr c (c+1) (some ⟨c,0,none⟩) P):=Xa (fun i m=>by
    have em:i<n:=oN a3.out
    refine⟨c,0,rfl,⟨aA _,iJ _⟩,?_⟩;rw[aV,b3.cell em];simp[m])
   have a4:Hid (∀a0,Re (X8 a) a0->a0<n):=Xa (by rw[h.out];exact s.re);have di:=Xa (fun fa hp=>(wI C a4 fa hp).2);have bo:=Xa (rI (some ⟨c,0,none⟩) n n P c (c+1) wr dd a3 ad oM di);clear hP
   go_wp2_with fail
   refine bo.mono ?_;rintro e w7 ⟨ca,cc,rfl,ar,cr⟩;have bz:=Xa (su ca n cc P wr.heap.size w7.heap.size w7.heap.size a3 ad (aA _) (fun b=>(Zq (X8 a) n b).length) (Xa (fun b u hc=>jg C a4 hc)) (Xa (fun b=>j9 n b)) n 0 (.slice none 0 0) [] w7 (Xa cr) (Xa (dA _ _ _ _)) (aA _) ac (Xa oM) (by have:=qr C a4 n 0 Re.root;simp only[bO];omega));have fc:=Xa ar;have a1:=Xa (g.below ar);have g9:=ar.size;have m3:=a1.e3;have mz:=a1.thaw 3;clear ar cr bo
   go_wp2_with fail
   refine bz.mono ?_;rintro e w8 ⟨v8,rfl,N,az⟩;have bn:Hid (Below w7.heap.size w7 w8):=Xa ⟨N.os,N.tape,N.output,N.size,fun k hk=>N.block k hk (fun e=>by cases e)⟩;have et:0<(XT P n 0).length:=by cases n<;>simp[XT]
   rw[dR]at az;obtain⟨A,c4,rfl,ga,_⟩:=Xm az et;have df:=Xa az;have f:=Xa (a1.below bn);have t0:=f.e0;have t1:=f.e1;have t2:=f.e2;have t3:=f.e3;have tz:=f.thaw 3;have hd:=bn.size;have Y:=Xa f.bel;obtain⟨x,k1,e1,fx,_⟩:=Xm f.o1 ac;obtain⟨y,k2,e2,f7,_⟩:=Xm f.o2 ac;injection e1 with d0 fe d2;injection e2 with d3 fi d4;subst d0;subst d3;subst d2;subst d4;have gi:=(g.o1.lt x rfl).2;have gl:=(g.o2.lt y rfl).2;generalize hQ:(XT P n 0).length=ql at *;clear bz N az m2 m3 mz;have J:=dk.of_block ((Y.block _ oM).trans (l.block _ oM));have y0:=J.cell (i:=0) vY;have y1:=J.cell (i:=1) vY;have y2:=J.cell (i:=2) vY;have y3:=J.cell (i:=3) vY;have yf:=J.frozen;have gs:d.heap.size≠w.heap.size+1:=oM;have eq:w.heap.size+1≠d.heap.size:=oM;have dl:=Xa J
   go_wp2_with fail
   obtain⟨wE,hE⟩:∃wE,wE=((((w8.setCell ⟨d.heap.size,3,none⟩ (.slice (some ⟨A,0,none⟩) ql c4)).setCell ⟨w.heap.size+1,0,none⟩ (.slice (some ⟨x,0,none⟩) n c1)).setCell ⟨w.heap.size+1,1,none⟩ (.slice (some ⟨y,0,none⟩) n c2)).setCell ⟨w.heap.size+1,2,none⟩ (.slice (some ⟨c,0,none⟩) n n)).setCell ⟨w.heap.size+1,3,none⟩ (.slice (some ⟨A,0,none⟩) ql c4):=⟨_,rfl⟩;rw[<-hE];obtain⟨z0,z1,z2,z3,ay,gt,er,eu,es⟩:=CG dl eq _ _ _ _ _ wE hE;clear hE;refine cC (v:=.agg #[.slice (some ⟨x,0,none⟩) n c1,.slice (some ⟨y,0,none⟩) n c2,.slice (some ⟨c,0,none⟩) n n,.slice (some ⟨A,0,none⟩) ql c4]) (by simp[results,results39,go_sem,z0,z1,z2,z3]) rfl ?_;subst hQ;have a9:=fun k h1 h2=>(ay k oM h2).trans (Y.block k h1)
   have c6:=fun i m k e=>(v.2.1 i m).lt k e
   have g0:=l.size;refine⟨U,P,x,c1,y,c2,c,A,c4,rfl,?_,C,C.len,?_,?_,?_,?_,?_,?_,?_,?_⟩
   ·exact⟨er.trans (Y.os.trans (l.os.trans T.os)),eu.trans (Y.tape.trans (l.tape.trans T.tape)),es.trans (Y.output.trans (l.output.trans T.output)),oM,fun k hk=>(a9 k oM oM).trans ((l.block k oM).trans (T.block k hk))⟩
   ·exact fd f.o1 oM (fun k e=>by cases e;exact ay x oM oM)
   ·exact fd f.o2 oM (fun k e=>by cases e;exact ay y oM oM)
   ·exact b3.of_block ((a9 c cv oM).trans (g.bel.block c cv).symm)
   ·exact fd df oM (fun k e=>by cases e;exact ay A oM oM)
   ·exact fun i m=>fd (v.2.1 i m) oM (fun k e=>by have:=c6 i m k e;exact(a9 k oM oM).trans (l.block k oM))
   ·exact v.2.2
   ·refine⟨oM,fun e=>?_,oM,oM,oM,oM,oM⟩
    rcases f.dj with q | q
    ·cases q
    ·exact q (by rw[e];rfl)
   ·exact fun i m k e=>by have:=c6 i m k e;omega
end Go.Proofs.YtghnlncgiihhgaaGreatDoor
