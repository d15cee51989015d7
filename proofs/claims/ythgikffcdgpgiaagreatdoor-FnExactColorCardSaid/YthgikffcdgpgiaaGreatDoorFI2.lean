import Derived.Test.YthgikffcdgpgiaaGreatDoorFL0
namespace Go.Proofs.YthgikffcdgpgiaaGreatDoor
open Go.RowKit Go.Shelf
def I0(xs:List Xi)(WO:Nat->Nat->Nat)(i:Nat):Nat->Nat:=(xs[i]?).elim (fun _=>0) fun x=>inW x (WO i)
def T0(xs:List Xi)(i:Nat):Nat->Nat:=(xs[i]?).elim (fun _=>0) dfW
theorem Zhy{xs:List Xi}{WO:Nat->Nat->Nat}{i:Nat}(h:i<xs.length):I0 xs WO i=inW xs[i] (WO i):=by simp[I0,h]
theorem Zhf{xs:List Xi}{i:Nat}(h:i<xs.length):T0 xs i=dfW xs[i]:=by simp[T0,h]
theorem ZiE{xs:List Xi}{WO:Nat->Nat->Nat}(h:XA WO):XA (I0 xs WO):=fun i=>by
 unfold I0;cases xs[i]? with
 | none=>exact ZM
 | some x=>exact ZhB x (h i)
theorem ZiQ{xs:List Xi}:XA (T0 xs):=fun i=>by
 unfold T0;cases xs[i]? with
 | none=>exact ZM
 | some x=>exact Zix x
theorem X0.congr{w:World}{G n K:Nat}{gs cp:Nat->Nat}{Ws Ws':Nat->Nat->Nat}(h:X0 w G n K gs cp Ws)(e:∀i,i<n->Ws i=Ws' i):X0 w G n K gs cp Ws' :=
 ⟨h.row,fun i hi=>by rw[<-e i hi];exact h.set i hi,h.inj,h.out⟩
def Ww(xs:List Xi):List (List Nat):=(List.range xs.length).map (Xx xs)
theorem Zfn(xs:List Xi):(fun b=>(Ww xs).getD b [])=Xx xs:=by
 funext b;unfold Ww;by_cases h:b<xs.length
 ·simp[h]
 ·simp only[List.getD_eq_getElem?_getD,List.getElem?_map]
  rw[List.getElem?_eq_none (by simp;omega)];unfold Xx;rw[List.getElem?_eq_none oM];rfl
theorem Uk{xs:List Xi}(ho:Up xs){i:Nat}(h:i<xs.length):Xh (Xx xs i)=Wm xs i:=by
 rw[Jo h,TI h];exact Jf (fun v hv=>(ho.tgt _ (List.getElem_mem h) v hv).1)
structure Fl2(p:KW)(gi ci:Nat->Nat)(nx:Nat->Value)(ds:List Nat)(W:World)(WI:Nat->Nat->Nat):Prop where
 low:Below p.w.heap.size p.w W
 sz:p.M<=W.heap.size
 f0:W.cell? ⟨p.w.heap.size,0,none⟩=some (.int .i64 (p.V:Int))
 r0:W.cell? ⟨p.w.heap.size+1,0,none⟩=some (.slice none 0 0)
 r1:W.cell? ⟨p.w.heap.size+1,1,none⟩=some (.slice none 0 0)
 rz:∀q,W.frozen? ⟨p.w.heap.size+1,q,none⟩=false
 l0:W.cell? ⟨p.LB,0,none⟩=some (.slice (some ⟨p.Gi,0,none⟩) p.n p.n)
 l1:W.cell? ⟨p.LB,1,none⟩=some (.slice (some ⟨p.Go,0,none⟩) p.n p.n)
 out:X0 W p.Go p.n p.Kw p.go (fun _=>p.Kw) p.WO
 inn:X0 W p.Gi p.n p.Kw gi ci WI
 igM:∀i,i<p.n->p.M<=gi i
 nxr:W.rowIs p.Gn 26 p.n nx
 nxs:∀i,i<p.n->∃a' c',nx i=.slice a' (Wm p.xs i).length c'/\XW W (fun b=>p.M<=b) a' (Wm p.xs i)
 mks:Zq W p.M ds
 wi:XA WI
 ord:∃ord:List Nat,(∀b,b<p.n->b∈ord)/\∀b,b<p.n->∀x,x<64*p.Kw->(Xf (WI b) x=true↔Sp (I0 p.xs p.WO) (T0 p.xs) (·∈ord) (Xx p.xs) b x)
theorem FlK.spread{p:KW}{W:World}{d:FlD}{ds:List Nat}(h:FlK p W p.n d)(s:FlS p)(q:FlQ p p.n d)(hm:Zq W p.M ds)(ho:ZZ p.V p.xs)(hn:p.n=p.xs.length)(hwo:XA p.WO)(hKw:p.Kw<=100) :
 ∃g C,d.vS=.slice (some ⟨g,0,none⟩) d.Lf.length C/\Calls Tryz.prog 100 #[.slice (some ⟨g,0,none⟩) d.Lf.length C,.slice (some ⟨p.Gn,0,none⟩) p.n p.n,.slice (some ⟨p.Gi,0,none⟩) p.n p.n,.slice (some ⟨p.Gd,0,none⟩) p.n p.n] W.drew fun e w'=>e=.returned (.tuple #[])/\(∃WI,Fl2 p d.gi d.ci d.nx ds w' WI)/\(∀b,b<W.heap.size->b<p.M->w'.heap[b]?=W.heap[b]?):=by
 have hz:=h.sz;have hn1:1<=p.n:=by have:=ho.okf.n1;omega
 have hn2:p.n<=1000:=by have:=ho.okf.n2;omega
 have hL0:0<d.Lf.length:=List.length_pos_of_mem (q.mem 0 (q.sn 0 oM));have hLn:d.Lf.length<=1000:=by have:=q.len;omega
 obtain⟨g,C,hv,hg,_⟩:=Xp h.sea.own hL0;refine⟨g,C,hv,?_⟩;have hown:=h.sea.own;rw[hv,show Yo d.Lf=(Xh d.Lf).map (Value.int .i64) by simp[Yo,Xh]]at hown;obtain⟨a1,c1,e1,hi1⟩:=Xj hown;injection e1 with e1 e2 e3;subst e1;have a1':=s.a1;have a5':=s.a5;have a8':=s.a8;have a9':=s.a9;have HI:X0 W p.Gi p.n p.Kw d.gi d.ci (I0 p.xs p.WO):=⟨h.inr.congr (fun i hi=>by rw[if_pos hi]),fun i hi=>by rw[Zhy oM,<-q.wi i oM hi];exact h.ins i hi,h.inj,fun i hi e=>by have:=h.igM i hi;omega⟩;have HT:X0 W p.Gd p.n p.Kw p.gd (fun _=>p.Kw) (T0 p.xs):=h.defs.congr (fun i hi=>by rw[Zhf oM,q.wd i oM,if_pos hi]);have hrow:∀i,i<p.n->W.cell? ⟨p.Gn,0+i,none⟩=some (d.nx i):=fun i hi=>by
  rw[Nat.zero_add];exact(h.nxr.cell hi).trans (by rw[if_pos hi])
 have hsrc:JO W (fun k=>∀i,i<p.n->k≠d.gi i) (some ⟨p.Gn,0,none⟩) ((Ww p.xs).map Xh):=fun i hi=>by
  have hi':i<p.xs.length:=by simpa [Ww]using hi
  have hin:i<p.n:=oM;obtain⟨a',c',e,hp⟩:=h.nxs i hin;have eg:((Ww p.xs).map Xh)[i]=Wm p.xs i:=by
   simp only[List.getElem_map,Ww,List.getElem_range];exact Uk ho.okf hi'
  refine⟨p.Gn,0,rfl,⟨fun j hj e=>by have:=h.igM j hj;omega,h.nxr.lt⟩,a',c',?_,?_⟩
  ·rw[eg,hrow i hin,e]
  ·rw[eg]
   intro j hj;obtain⟨b,o,e2,hb,hc⟩:=hp j hj;exact⟨b,o,e2,⟨hb.1.2.1,hb.2⟩,hc⟩
 refine(Us g 0 d.Lf.length C d.Lf p.M W.heap.size (some ⟨p.Gn,0,none⟩) p.n p.n (Ww p.xs) p.Gi p.Gd p.n p.Kw d.gi p.gd d.ci (fun _=>p.Kw) (I0 p.xs p.WO) (T0 p.xs) W.drew (Xa hi1) (Xa rfl) hLn hL0 (Xa hsrc) (Xa (by simp[Ww];exact hn)) (Xa (by simp[Ww];exact hn.symm)) hKw (Nat.le_refl _) (Xa ⟨HI.row,fun i hi=>(HI.set i hi).drew,HI.inj,HI.out⟩) (Xa ⟨HT.row,fun i hi=>(HT.set i hi).drew,HT.inj,HT.out⟩) (Xa (ZiE hwo)) (Xa ZiQ) (Xa (fun i hi=>by have:=h.igM i hi;omega)) (Xa (fun i j hi hj=>by have:=h.igM j hj;have:=s.a6 i hi;omega)) (Xa q.lt) (Xa (fun l hl=>?_))).mono ?_
 ·obtain⟨i,hi,rfl⟩:=List.mem_map.1 hl
  have hi':=List.mem_range.1 hi;refine⟨?_,fun t ht=>by have:=ho.okf.tg i hi' t ht;omega⟩;rw[Jo hi',List.length_map];have:=Jr p.xs[i].term;omega
 ·rintro e w' ⟨rfl,hf,Ws,hwd,hset,hiff⟩
  have hf':KT W w' p.n d.gi:=⟨hf.os,hf.tape,hf.output,hf.size,hf.block⟩;have lo:∀b,b<p.M->w'.heap[b]?=W.heap[b]?:=fun b hb=>hf'.block b oM (fun i hi e=>by have:=h.igM i hi;omega)
  have hw:=h.low.size;have a2':=s.a2;have a3':=s.a3;refine⟨rfl,⟨Ws,⟨⟨hf'.os.trans h.low.os,hf'.tape.trans h.low.tape,hf'.output.trans h.low.output,Nat.le_trans hw hf'.size,fun b hb=>(lo b oM).trans (h.low.block b hb)⟩,Nat.le_trans hz hf'.size,(Xc (lo _ oM)).trans h.f0,(Xc (lo _ oM)).trans h.r0,(Xc (lo _ oM)).trans h.r1,fun o=>by rw[World.frozen?_of_block (a:=⟨p.w.heap.size+1,o,none⟩) (lo (p.w.heap.size+1) oM)];exact h.rz o,(Xc (lo _ oM)).trans h.l0,(Xc (lo _ oM)).trans h.l1,⟨h.out.row.of_block (lo _ oM),fun i hi=>(h.out.set i hi).of_block (lo _ (by have:=s.a4 i hi;omega)),h.out.inj,h.out.out⟩,hset,h.igM,(h.nxr.of_block (lo _ oM)).congr (fun i hi=>by rw[if_pos hi]),fun i hi=>?_,⟨hm.nd,hm.ge,fun D hD=>?_⟩,hwd,d.Lf,fun b hb=>q.mem b (q.sn b hb),fun b hb x hx=>?_⟩⟩,fun b h1 h2=>lo b h2⟩
  ·obtain⟨a',c',e,hp⟩:=h.nxs i hi
   refine⟨a',c',e,fun j hj=>?_⟩;obtain⟨b,o,e2,hb,hc⟩:=hp j hj;exact⟨b,o,e2,⟨hb.1.1,Nat.lt_of_lt_of_le hb.2 hf'.size⟩,(Xc (hf'.block b hb.2 hb.1.2.1)).trans hc⟩
  ·have hD':=hm.obj D hD
   refine(hf'.block D (Array.getElem?_eq_some_iff.1 hD').1 (fun i hi e=>?_)).trans hD';obtain⟨o,h3,h4⟩:=(h.ins i hi).obj;rw[<-e,hD']at h3;injection h3 with h3;rw[<-h3]at h4;cases h4
  ·rw[<-Zfn]
   exact hiff b hb x hx
def US(WI:Nat->Nat->Nat)(l:List Nat)(W:Nat->Nat):Nat->Nat:=l.foldl (fun W t=>butN W (WI t) (fun _=>0)) W
theorem WA{WI:Nat->Nat->Nat}(h:XA WI):∀(l:List Nat){W:Nat->Nat},Xw W->Xw (US WI l W)
 | [],_,hW=>hW
 | t::l,_,hW=>WA h l (Zc1 hW (h t))
theorem ZaV{WI:Nat->Nat->Nat}(h:XA WI)(x:Nat):∀(l:List Nat){W:Nat->Nat},Xw W->(Xf (US WI l W) x=true↔Xf W x=true\/∃t∈l,Xf (WI t) x=true)
 | [],W,_=>by simp[US]
 | t::l,W,hW=>by
  show Xf (US WI l (butN W (WI t) (fun _=>0))) x=true↔_;rw[ZaV h x l (Zc1 hW (h t)),Zde hW ZM,Ze];simp only[Bool.not_false,Bool.and_true,Bool.or_eq_true,List.mem_cons,exists_eq_or_imp,or_assoc]
theorem ZdD{WI:Nat->Nat->Nat}{l:List Nat}{j:Nat}(h:j<l.length)(W:Nat->Nat):US WI (l.take (j+1)) W=butN (US WI (l.take j) W) (WI l[j]) (fun _=>0):=by
 unfold US;rw[List.take_succ_eq_append_getElem h,List.foldl_append];rfl
def Tu(xs:List Xi)(WI WO:Nat->Nat->Nat)(b j:Nat):Nat->Nat->Nat:=fun i=>if i<b then US WI (Xx xs i) (WO i)else if i=b then US WI ((Xx xs i).take j) (WO i)else WO i
theorem Zda{xs:List Xi}{WI WO:Nat->Nat->Nat}(h:XA WI)(hO:XA WO)(b j:Nat):XA (Tu xs WI WO b j):=fun i=>by
 unfold Tu;split
 ·exact WA h _ (hO i)
 ·split
  ·exact WA h _ (hO i)
  ·exact hO i
structure Wu(p:KW)(gi ci:Nat->Nat)(ds:List Nat)(WI:Nat->Nat->Nat)(W2:World)(gN:Nat)(wr:World)(b j:Nat):Prop where
 os:wr.os=W2.os
 tape:wr.tape=W2.tape
 output:wr.output=W2.output
 size:W2.heap.size<=wr.heap.size
 fr:∀q,q<W2.heap.size->(∀i,i<p.n->q≠p.go i)->wr.heap[q]?=W2.heap[q]?
 out:X0 wr p.Go p.n p.Kw p.go (fun _=>p.Kw) (Tu p.xs WI p.WO b j)
theorem Wu.start{p:KW}{gi ci:Nat->Nat}{nx:Nat->Value}{ds:List Nat}{WI:Nat->Nat->Nat}{W W2:World}{gN:Nat}(h:Fl2 p gi ci nx ds W WI)(k:Below W.heap.size W W2):Wu p gi ci ds WI W2 gN W2 0 0 :=
 ⟨rfl,rfl,rfl,Nat.le_refl _,fun _ _ _=>rfl,(h.out.keep k).congr (fun i _=>by unfold Tu;by_cases e:i=0<;>simp[e,US])⟩
theorem Wu.row{p:KW}{gi ci:Nat->Nat}{ds:List Nat}{WI:Nat->Nat->Nat}{W2 wr:World}{gN b j:Nat}(h:Wu p gi ci ds WI W2 gN wr b j)(hj:(Xx p.xs b).length<=j):Wu p gi ci ds WI W2 gN wr (b+1) 0 :=
 ⟨h.os,h.tape,h.output,h.size,h.fr,h.out.congr (fun i _=>by
  unfold Tu;by_cases e1:i<b
  ·rw[if_pos e1,if_pos oM]
  ·by_cases e2:i=b
   ·rw[if_neg e1,if_pos e2,if_pos oM,e2,List.take_of_length_le hj]
   ·rw[if_neg e1,if_neg e2,if_neg oM]
    by_cases e3:i=b+1
    ·rw[if_pos e3];simp[US]
    ·rw[if_neg e3])⟩
theorem Wu.next{p:KW}{gi ci:Nat->Nat}{ds:List Nat}{WI:Nat->Nat->Nat}{W2 wr w1:World}{gN b j:Nat}(h:Wu p gi ci ds WI W2 gN wr b j)(hb:b<p.n)(hj:j<(Xx p.xs b).length)(k:wr.grownBy w1 (some (p.go b)))(hw:WsAt w1 (p.go b) p.Kw p.Kw (butN (Tu p.xs WI p.WO b j b) (WI (Xx p.xs b)[j]) (fun _=>0))):Wu p gi ci ds WI W2 gN w1 b (j+1):=by
 refine⟨k.os.trans h.os,k.tape.trans h.tape,k.output.trans h.output,Nat.le_trans h.size k.size,fun q h1 h2=>(k.block q (Nat.lt_of_lt_of_le h1 h.size) (fun e=>h2 b hb (by injection e))).trans (h.fr q h1 h2),(h.out.wrote hb k hw).congr (fun i _=>?_)⟩;by_cases e:i=b
 ·subst e
  simp only[Tu,Nat.lt_irrefl,if_false,if_true];rw[ZdD hj]
 ·unfold Tu
  rw[if_neg e];by_cases e1:i<b
  ·rw[if_pos e1,if_pos e1]
  ·rw[if_neg e1,if_neg e1,if_neg e,if_neg e]
theorem Wu.below{p:KW}{gi ci:Nat->Nat}{ds:List Nat}{WI:Nat->Nat->Nat}{W2 wr w1:World}{gN b j:Nat}(h:Wu p gi ci ds WI W2 gN wr b j)(k:Below wr.heap.size wr w1):Wu p gi ci ds WI W2 gN w1 b j :=
 ⟨k.os.trans h.os,k.tape.trans h.tape,k.output.trans h.output,Nat.le_trans h.size k.size,fun q h1 h2=>(k.block q (Nat.lt_of_lt_of_le h1 h.size)).trans (h.fr q h1 h2),h.out.keep k⟩
theorem Wu.res{p:KW}{gi ci:Nat->Nat}{nx:Nat->Value}{ds:List Nat}{WI:Nat->Nat->Nat}{W W2 wr w':World}{gN:Nat}(h:Wu p gi ci ds WI W2 gN wr p.n 0)(h2:Fl2 p gi ci nx ds W WI)(s:FlS p)(k2:Below W.heap.size W W2)(hn:p.n=p.xs.length)(hwo:XA p.WO)(hhas:∀b,b<p.n->∀v,Xf (p.WO b) v=true↔(b,v)∈Uj p.xs p.n)
 (hk:∀q,q<wr.heap.size->q≠p.w.heap.size+1->q<p.M\/(∃i,i<p.n/\q=gi i)->w'.heap[q]?=wr.heap[q]?) (ho:w'.os=wr.os) (htp:w'.tape=wr.tape) (hou:w'.output=wr.output) (hz:wr.heap.size<=w'.heap.size):FlR p.w w' p.n p.Kw p.xs p.Gi p.Go gi p.go ci WI (Tu p.xs WI p.WO p.n 0):=by
 have hzw:=h2.low.size;have a1:=s.a1;have a3:=s.a3;have a5:=s.a5;have a9:=s.a9;have hM:=h2.sz;have hz2:=k2.size;have hz3:=h.size;have lo:∀q,q<p.M->q≠p.w.heap.size+1->(∀i,i<p.n->q≠p.go i)->w'.heap[q]?=W.heap[q]?:=fun q h1 h3 h4=>(hk q oM h3 (Or.inl h1)).trans ((h.fr q oM h4).trans (k2.block q oM))
 refine⟨⟨ho.trans (h.os.trans (k2.os.trans h2.low.os)),htp.trans (h.tape.trans (k2.tape.trans h2.low.tape)),hou.trans (h.output.trans (k2.output.trans h2.low.output)),oM,fun q hq=>(lo q oM oM (fun i hi e=>by have:=s.a4 i hi;omega)).trans (h2.low.block q hq)⟩,⟨h2.inn.row.of_block (lo p.Gi oM oM (fun i hi e=>(s.d4 i hi).1 e.symm)),fun i hi=>?_,h2.inn.inj,h2.inn.out⟩,⟨h.out.row.of_block (hk p.Go oM oM (Or.inl oM)),fun i hi=>(h.out.set i hi).of_block (hk _ (by have:=s.a4 i hi;omega) (by have:=s.a4 i hi;omega) (Or.inl (by have:=s.a4 i hi;omega))),h.out.inj,h.out.out⟩,h2.wi,Zda h2.wi hwo _ _,⟨oM,oM⟩,fun i hi=>⟨by have:=h2.igM i hi;omega,by have:=s.a4 i hi;omega⟩,?_⟩
 ·have hg:=h2.igM i hi
  have hl:=(h2.inn.set i hi).lt;refine(h2.inn.set i hi).of_block ((hk (gi i) oM oM (Or.inr ⟨i,hi,rfl⟩)).trans ((h.fr (gi i) oM (fun j hj e=>by have:=s.a4 j hj;omega)).trans (k2.block _ hl)))
 ·obtain⟨ord,h3,h4⟩:=h2.ord
  refine⟨I0 p.xs p.WO,T0 p.xs,p.WO,ord,fun i hi=>Zhy hi,fun i hi=>Zhf hi,fun b hb v=>by rw[<-hn];exact hhas b oM v,fun b hb=>h3 b oM,h4,fun b hb x=>?_⟩;unfold Tu;rw[if_pos hb];exact ZaV h2.wi x _ (hwo b)
theorem Ub{F:Fence}{n:Nat}{P:Program}{fn:Func}{tmps:Array Value}{R:Ending->World->Prop}{B:Nat}:∀(ds:List Nat)(W:World),Zq W B ds->(∀W':World,W'.os=W.os->W'.tape=W.tape->W'.output=W.output->W.heap.size<=W'.heap.size->(∀k,k ∉ ds->W'.heap[k]?=W.heap[k]?)->∃v,(results fn tmps).run P W'=.ok v W'/\R (.returned v) W')->LeavesInM F n P fn tmps R (mks ds) .returning W
 | [],W,_,h=>h W rfl rfl rfl (Nat.le_refl _) (fun _ _=>rfl)
 | D::ds,W,hm,h=>by
  refine⟨sP,Or.inl ⟨D,_,rfl,run_takeDeferred (hm.obj D List.mem_cons_self),?_⟩⟩;have hg:=grownBy_putObj' W D (.deferred none);refine Ub (B:=B) ds _ ⟨(List.nodup_cons.1 hm.nd).2,fun k hk=>hm.ge k (List.mem_cons_of_mem _ hk),fun k hk=>?_⟩ (fun W' k1 k2 k3 k4 k5=>h W' (k1.trans hg.os) (k2.trans hg.tape) (k3.trans hg.output) (Nat.le_trans hg.size k4) (fun q hq=>?_))
  ·exact(World.putObj_heap_other (fun e=>(List.nodup_cons.1 hm.nd).1 (by rw[<-e];exact hk))).trans (hm.obj k (List.mem_cons_of_mem _ hk))
  ·have h1:q≠D/\q ∉ ds:=by simpa using hq
   exact(k5 q h1.2).trans (World.putObj_heap_other h1.1)
structure Wt(w w1 X:World)(V:Nat)(a:Option Addr)(n c Kw:Nat)(xs:List Xi)(m l:Option Nat)(q:Option (Nat × (Nat->Nat) × (Nat->Nat->Nat))):Prop where
 low:Below w1.heap.size w1 X
 f0:w1.cell? ⟨w.heap.size,0,none⟩=some (.int .i64 (V:Int))
 f1:w1.cell? ⟨w.heap.size,1,none⟩=some (.slice a n c)
 lt:w.heap.size<w1.heap.size
 mr:∀g,m=some g->X.rowIs g 75 n (fun _=>.slice none 0 0)/\w1.heap.size<=g
 lb:∀g,l=some g->X.rowIs g 115 2 (fun _=>.slice none 0 0)/\w1.heap.size<=g
 ca:∀r,q=some r->X0 X r.1 n Kw r.2.1 (fun _=>Kw) r.2.2/\XA r.2.2/\(∀b,b<n->∀v,Xf (r.2.2 b) v=true↔(b,v)∈Uj xs n)/\w1.heap.size<=r.1/\∀i,i<n->w1.heap.size<=r.2.1 i
 d1:∀g h,m=some g->l=some h->g≠h
 d2:∀g r,m=some g->q=some r->g≠r.1/\∀i,i<n->r.2.1 i≠g
 d3:∀g r,l=some g->q=some r->g≠r.1/\∀i,i<n->r.2.1 i≠g
theorem Wt.next{w w1 X Y:World}{V:Nat}{a:Option Addr}{n c Kw:Nat}{xs:List Xi}{m l:Option Nat}{q:Option (Nat × (Nat->Nat) × (Nat->Nat->Nat))}(h:Wt w w1 X V a n c Kw xs m l q)(k:Below X.heap.size X Y):Wt w w1 Y V a n c Kw xs m l q :=
 ⟨Xe h.low k,h.f0,h.f1,h.lt,fun g e=>⟨(h.mr g e).1.of_block (k.block _ (h.mr g e).1.lt),(h.mr g e).2⟩,fun g e=>⟨(h.lb g e).1.of_block (k.block _ (h.lb g e).1.lt),(h.lb g e).2⟩,fun r e=>⟨(h.ca r e).1.keep k,(h.ca r e).2⟩,h.d1,h.d2,h.d3⟩
theorem Wt.mkS{w w1 X:World}{V:Nat}{a:Option Addr}{n c Kw:Nat}{xs:List Xi}{l:Option Nat}{q:Option (Nat × (Nat->Nat) × (Nat->Nat->Nat))}{K:Act->World->Prop}{A:Act}(h:Wt w w1 X V a n c Kw xs none l q)(k:∀Y,Wt w w1 Y V a n c Kw xs (some X.heap.size) l q->K A Y):K A (X.alloc (.cells (madeCells #[.slice none 0 0] n) 75)):=by
 have h':=h.next (Xb (Below.refl _ X) (.cells (madeCells #[.slice none 0 0] n) 75));have z:=h.low.size;refine k _ ⟨h'.low,h.f0,h.f1,h.lt,fun g e=>?_,h'.lb,h'.ca,fun g r e e2=>?_,fun g r e e2=>?_,h'.d3⟩
 ·cases e;exact⟨World.rowIs_made X _ n _,z⟩
 ·cases e;have:=(h.lb r e2).1.lt;omega
 ·cases e;have:=(h.ca r e2).1.row.lt;exact⟨oM,fun i hi=>by have:=((h.ca r e2).1.set i hi).lt;omega⟩
theorem Wt.lbS{w w1 X:World}{V:Nat}{a:Option Addr}{n c Kw:Nat}{xs:List Xi}{m:Option Nat}{q:Option (Nat × (Nat->Nat) × (Nat->Nat->Nat))}{K:Act->World->Prop}{A:Act}(h:Wt w w1 X V a n c Kw xs m none q)(k:∀Y,Wt w w1 Y V a n c Kw xs m (some X.heap.size) q->K A Y):K A (X.alloc (.cells #[.slice none 0 0,.slice none 0 0] 115)):=by
 have h':=h.next (Xb (Below.refl _ X) (.cells #[.slice none 0 0,.slice none 0 0] 115));have z:=h.low.size;refine k _ ⟨h'.low,h.f0,h.f1,h.lt,h'.mr,fun g e=>?_,h'.ca,fun g r e e2=>?_,h'.d2,fun g r e e2=>?_⟩
 ·cases e;exact⟨World.rowIs_alloc X #[.slice none 0 0,.slice none 0 0] 115 (fun _=>.slice none 0 0) (fun i hi=>by match i,hi with | 0,_=>rfl | 1,_=>rfl),z⟩
 ·cases e2;have:=(h.mr g e).1.lt;omega
 ·cases e;have:=(h.ca r e2).1.row.lt;exact⟨oM,fun i hi=>by have:=((h.ca r e2).1.set i hi).lt;omega⟩
theorem Wt.caS{P:Program}{f:Nat}{av:Array Value}{w w1 X:World}{V:Nat}{a:Option Addr}{n c Kw:Nat}{xs:List Xi}{m l:Option Nat}(h:Wt w w1 X V a n c Kw xs m l none)(hc:Calls P f av X fun e w'=>∃G gs Ws,e=.returned (.slice (some ⟨G,0,none⟩) n n)/\X.heap.size<=G/\Below X.heap.size X w'/\X0 w' G n Kw gs (fun _=>Kw) Ws/\(∀i,i<n->X.heap.size<=gs i)/\XA Ws/\∀b,b<n->∀v,Xf (Ws b) v=true↔(b,v)∈Uj xs n) :
 Calls P f av X fun e Y=>∃G gs Ws,e=.returned (.slice (some ⟨G,0,none⟩) n n)/\Wt w w1 Y V a n c Kw xs m l (some (G,gs,Ws)):=by
 refine hc.mono ?_;rintro e Y ⟨G,gs,Ws,rfl,g1,b,s,g2,wd,hh⟩;have h':=h.next b;have z:=h.low.size;refine⟨G,gs,Ws,rfl,h'.low,h.f0,h.f1,h.lt,h'.mr,h'.lb,fun r e=>?_,h'.d1,fun g r e e2=>?_,fun g r e e2=>?_⟩
 ·cases e;exact⟨s,wd,hh,Nat.le_trans z g1,fun i hi=>Nat.le_trans z (g2 i hi)⟩
 ·cases e2;have:=(h.mr g e).1.lt;exact⟨by show g≠G;omega,fun i hi=>by have:=g2 i hi;show gs i≠g;omega⟩
 ·cases e2;have:=(h.lb g e).1.lt;exact⟨by show g≠G;omega,fun i hi=>by have:=g2 i hi;show gs i≠g;omega⟩
theorem Wt.kp{w w1 X:World}{V:Nat}{a:Option Addr}{n c Kw:Nat}{xs:List Xi}{m l:Option Nat}{q:Option (Nat × (Nat->Nat) × (Nat->Nat->Nat))}(h:Wt w w1 X V a n c Kw xs m l q):X.cell? ⟨w.heap.size,0,none⟩=some (.int .i64 (V:Int))/\X.cell? ⟨w.heap.size,1,none⟩=some (.slice a n c) :=
 ⟨(h.low.cell (p:=⟨w.heap.size,0,none⟩) h.lt).trans h.f0,(h.low.cell (p:=⟨w.heap.size,1,none⟩) h.lt).trans h.f1⟩
theorem Wt.lbc{w w1 X:World}{V:Nat}{a:Option Addr}{n c Kw:Nat}{xs:List Xi}{m:Option Nat}{g:Nat}{q:Option (Nat × (Nat->Nat) × (Nat->Nat->Nat))}(h:Wt w w1 X V a n c Kw xs m (some g) q):X.cell? ⟨g,0,none⟩=some (.slice none 0 0)/\X.cell? ⟨g,1,none⟩=some (.slice none 0 0)/\(∀o,X.frozen? ⟨g,o,none⟩=false)/\∀u,(X.setCell ⟨g,0,none⟩ u).cell? ⟨g,1,none⟩=some (.slice none 0 0):=by
 have r:=(h.lb g rfl).1;have r1:=r.cell (i:=1) vZ;exact⟨r.cell (i:=0) vZ,r1,r.frozen,fun u=>(World.cell?_setCell_other _ _ _ _ sP).trans r1⟩
theorem Wt.fin{w w1 X:World}{V:Nat}{a:Option Addr}{n c Kw:Nat}{xs:List Xi}{g l G:Nat}{gs:Nat->Nat}{Ws:Nat->Nat->Nat}(h:Wt w w1 X V a n c Kw xs (some g) (some l) (some (G,gs,Ws)))(hw1:Below w.heap.size w w1)(hz:w1.heap.size=w.heap.size+2)(r0:w1.cell? ⟨w.heap.size+1,0,none⟩=some (.slice none 0 0))(r1:w1.cell? ⟨w.heap.size+1,1,none⟩=some (.slice none 0 0))(rz:∀q,w1.frozen? ⟨w.heap.size+1,q,none⟩=false) :
 FlA w ((X.setCell ⟨l,0,none⟩ (.slice (some ⟨g,0,none⟩) n n)).setCell ⟨l,1,none⟩ (.slice (some ⟨G,0,none⟩) n n)) V a n c Kw xs g l G gs Ws:=by
 obtain⟨s,wd,hh,b3,b4⟩:=h.ca _ rfl;have d2:=h.d2 _ _ rfl rfl;have d3:=h.d3 _ _ rfl rfl;exact ZhJ hw1 hz h.low h.f0 h.f1 r0 r1 rz (h.mr g rfl).1 (h.lb l rfl).1 s wd hh (hz ▸ (h.mr g rfl).2) (hz ▸ (h.lb l rfl).2) (hz ▸ b3) (fun i hi=>hz ▸ b4 i hi) ⟨fun e=>d3.1 e.symm,h.d1 _ _ rfl rfl,d2.1,fun i hi=>⟨d2.2 i hi,d3.2 i hi⟩⟩
end Go.Proofs.YthgikffcdgpgiaaGreatDoor
