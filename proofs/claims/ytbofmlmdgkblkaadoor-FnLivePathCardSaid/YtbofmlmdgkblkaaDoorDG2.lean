import Derived.Test.YtbofmlmdgkblkaaDoorW6b
import Derived.Deep.AppendLies
import Derived.RangeFuncRecord
import Derived.Deep.CutRange
namespace Go.Proofs.YtbofmlmdgkblkaaDoor
set_option maxHeartbeats 1000000
open Go.RowKit
def Kg(s:Sr):Int × Sr :=
 if (nextP s 16).1<10 then ((nextP s 16).1-3,(nextP s 16).2)
 else if (nextP s 16).1=10 then (1000000000,(nextP s 16).2)
 else if (nextP s 16).1=11 then (-1000000000,(nextP s 16).2)
 else ((nextP (nextP s 16).2 200).1-100,(nextP (nextP s 16).2 200).2)
theorem Zfa{s:Sr}(h:ZF s):ZF (Kg s).2:=by
 unfold Kg;split
 ·exact Yr h _
 ·split
  ·exact Yr h _
  ·split
   ·exact Yr h _
   ·exact Yr (Yr h _) _
theorem Wx(sb B:Nat)(s:Sr)(w:World)(h:Hid (Z7 w sb B s)) :
 Calls Tryd.prog 79 #[.pointer (some ⟨sb,0,none⟩)] w fun e w'=>e=.returned (.int .i64 (Kg s).1)/\Z7 w' sb B (Kg s).2/\w.grownBy w' (some sb):=by
 have HP:Hid (Kg s=if (nextP s 16).1<10 then ((nextP s 16).1-3,(nextP s 16).2)else if (nextP s 16).1=10 then (1000000000,(nextP s 16).2)else if (nextP s 16).1=11 then (-1000000000,(nextP s 16).2)else ((nextP (nextP s 16).2 200).1-100,(nextP (nextP s 16).2 200).2)):=Xa rfl
 go_enter Tryd.func79,Tryd.ntmps79
 go_wp2_with fail
 refine(X9 sb B s 16 w h (by omega) (by omega)).mono ?_;rintro e w1 ⟨rfl,hd,hg⟩;have hlt:=XB s (n:=16) (by omega);obtain⟨k,s1,hrs⟩:∃r s',nextP s 16=(r,s'):=⟨_,_,rfl⟩;rw[hrs]at hd HP hlt |-;dsimp only at hd HP hlt |-;have HD1:=Xa hd;have HG1:=Xa hg;clear hd hg hrs;by_cases h1:k<10
 ·rw[if_pos h1]at HP
  go_wp2
  go_ret
  rw[HP.out];exact⟨rfl,HD1.out,HG1.out⟩
 ·rw[if_neg h1]at HP
  by_cases h2:k=10
  ·rw[if_pos h2]at HP
   have h2b:(k==10)=true:=by simpa using h2
   clear h2;go_wp2
   go_ret
   rw[HP.out];exact⟨rfl,HD1.out,HG1.out⟩
  ·rw[if_neg h2]at HP
   have h2b:(k==10)=false:=by simpa using h2
   by_cases h3:k=11
   ·rw[if_pos h3]at HP
    have h3b:(k==11)=true:=by simpa using h3
    clear h2 h3;go_wp2
    go_ret
    rw[HP.out];exact⟨rfl,HD1.out,HG1.out⟩
   ·rw[if_neg h3]at HP
    have h3b:(k==11)=false:=by simpa using h3
    clear h2 h3
    go_wp2_with fail
    refine(X9 sb B s1 200 w1 HD1 (by omega) (by omega)).mono ?_;rintro e w2 ⟨rfl,hd,hg⟩;have hl2:=XB s1 (n:=200) (by omega);obtain⟨q,s2,hrs⟩:∃r s',nextP s1 200=(r,s'):=⟨_,_,rfl⟩;rw[hrs]at hd HP hl2 |-;dsimp only at hd HP hl2 |-;have HD2:=Xa hd;have HG2:=Xa (Yq HG1.out hg);clear hd hg hrs;go_wp2
    go_ret
    rw[HP.out];exact⟨rfl,HD2.out,HG2.out⟩
def ZbU(k a b:Int)(n:Nat)(dst:Int)(s:Sr):XS × Sr :=
 if k<2\/n=0 then (⟨1,dst,0,0,(Kg s).1⟩,(Kg s).2)
 else if k=2 then (⟨2,dst,0,0,(nextP s 8).1⟩,(nextP s 8).2)
 else if k=9 then (⟨8,dst,a,0,0⟩,s)
 else if k=10 then (⟨9,0,a,b,0⟩,s)
 else if k=11 then (⟨10,0,a,0,0⟩,s)
 else if k=7 then (⟨if (nextP s 2).1=0 then 6 else 3,dst,a,b,0⟩,(nextP s 2).2)
 else (⟨if k=4\/k=5 then 4 else if k=6 then 5 else if k=8 then 7 else 3,dst,a,b,0⟩,s)
def instrP(s:Sr)(vs:List Int)(dst:Int)(near:Bool):XS × Sr :=
 ZbU (nextP s 14).1 (Yy (nextP s 14).2 vs near).1 (Yy (Yy (nextP s 14).2 vs near).2 vs near).1 vs.length dst (Yy (Yy (nextP s 14).2 vs near).2 vs near).2
def XS.agg(x:XS):Value:=.agg #[.int .i64 x.op,.int .i64 x.dst,.int .i64 x.a,.int .i64 x.b,.int .i64 x.imm]
theorem ZgC{k a b:Int}{n:Nat}{dst:Int}{s:Sr}(h:ZF s):ZF (ZbU k a b n dst s).2:=by
 unfold ZbU
 repeat' split
 all_goals first | exact Zfa h | exact Yr h _ | exact h
theorem Zbu{s:Sr}{vs:List Int}{dst:Int}{near:Bool}(h:ZF s):ZF (instrP s vs dst near).2:=ZgC (ZaH (ZaH (Yr h _) _ _) _ _)
theorem WG{w w1:World}{o:Obj}{b:Nat}(h:(w.alloc o).grownBy w1 (some b)):w.grownBy w1 (some b):=by
 have k:=World.grownBy_alloc w o (some b);exact⟨h.os.trans k.os,h.tape.trans k.tape,h.output.trans k.output,Nat.le_trans k.size h.size,fun i hi hb=>(h.block i (Nat.lt_of_lt_of_le hi k.size) hb).trans (k.block i hi hb)⟩
theorem XN{w w1:World}{b g q:Nat}{v:Value}(h:w.grownBy w1 (some b))(hg:w.heap.size<=g):w.grownBy (w1.setCell ⟨g,q,none⟩ v) (some b) :=
 ⟨h.os,h.tape,h.output,by simpa [World.setCell]using h.size,fun i hi hb=>(Below.heap_setCell _ _ _ _ (by show i≠g;omega)).trans (h.block i hi hb)⟩
theorem Z7.put{w:World}{sb B g q:Nat}{s:Sr}{v:Value}(h:Z7 w sb B s)(hg:B<=g):Z7 (w.setCell ⟨g,q,none⟩ v) sb B s:=h.keep ((Below.refl B w).setCell hg _)
theorem Z7.box{w:World}{sb B:Nat}{s:Sr}(h:Z7 w sb B s)(o:Obj):Z7 (w.alloc o) sb B s:=h.keep (Below.alloc (Below.refl _ _) h.sB _)
end Go.Proofs.YtbofmlmdgkblkaaDoor
namespace Go.Proofs.YtbofmlmdgkblkaaDoor
open Go.RowKit
def Yk{T:Type}(f:Nat->T->List Value):Nat->List T->List Value
 | _,[]=>[]
 | k,x::xs=>f k x++Yk f (k+1) xs
variable {T : Type} {f f' : Nat -> T -> List Value} {sz : Nat}
theorem Za(hf:∀k x,(f k x).length=sz):∀(k:Nat)(xs:List T),(Yk f k xs).length=xs.length*sz
 | _,[]=>by simp[Yk]
 | k,x::xs=>by rw[Yk,List.length_append,hf,Za hf,List.length_cons,Nat.add_mul,Nat.one_mul,Nat.add_comm]
theorem Xx(hf:∀k x,(f k x).length=sz):∀(k:Nat)(xs:List T)(i:Nat)(h:i<xs.length)(q:Nat),q<sz->(Yk f k xs)[i*sz+q]?=(f (k+i) xs[i])[q]?
 | _,[],_,h,_,_=>absurd h (by simp)
 | k,x::xs,0,_,q,hq=>by
  rw[Yk,Nat.zero_mul,Nat.zero_add,List.getElem?_append_left (by rw[hf];exact hq)];rfl
 | k,x::xs,i+1,h,q,hq=>by
  rw[Yk,List.getElem?_append_right (by rw[hf,Nat.add_mul,Nat.one_mul];omega),hf,show(i+1)*sz+q-sz=i*sz+q by rw[Nat.add_mul,Nat.one_mul];omega,Xx hf (k+1) xs i (by simpa using h) q hq,List.getElem_cons_succ,show k+1+i=k+(i+1) by omega]
theorem Zc:∀(k:Nat)(xs:List T)(x:T),Yk f k (xs++[x])=Yk f k xs++f (k+xs.length) x
 | k,[],x=>by simp[Yk]
 | k,y::xs,x=>by rw[List.cons_append,Yk,Yk,Zc (k+1) xs x,List.append_assoc,List.length_cons,show k+1+xs.length=k+(xs.length+1) by omega]
theorem Zr:∀(k:Nat)(xs:List T),(∀i (h:i<xs.length),f (k+i) xs[i]=f' (k+i) xs[i])->Yk f k xs=Yk f' k xs
 | _,[],_=>rfl
 | k,x::xs,h=>by
  rw[Yk,Yk,Zr (k+1) xs (fun i hi=>by have:=h (i+1) (by simpa using hi);rwa[List.getElem_cons_succ,show k+(i+1)=k+1+i by omega]at this)];have:=h 0 (by simp);rw[Nat.add_zero,List.getElem_cons_zero]at this;rw[this]
theorem Yi(hf:∀k x,(f k x).length=sz):∀(k:Nat)(xs:List T)(i:Nat)(h:i<xs.length)(y:T)(q:Nat)(u:Value),q<sz->f' (k+i) y=(f (k+i) xs[i]).set q u->(∀j (hj:j<xs.length),j≠i->f' (k+j) xs[j]=f (k+j) xs[j])->Yk f' k (xs.set i y)=(Yk f k xs).set (i*sz+q) u
 | _,[],_,h,_,_,_,_,_,_=>absurd h (by simp)
 | k,x::xs,0,_,y,q,u,hq,hy,hj=>by
  rw[List.set_cons_zero,Yk,Yk,Nat.zero_mul,Nat.zero_add,List.set_append_left _ _ (by rw[hf];exact hq)];rw[Nat.add_zero,List.getElem_cons_zero]at hy;rw[hy,Zr (f:=f') (f':=f) (k+1) xs (fun i hi=>by have:=hj (i+1) (by simpa using hi) (by omega);rwa[List.getElem_cons_succ,show k+(i+1)=k+1+i by omega]at this)]
 | k,x::xs,i+1,h,y,q,u,hq,hy,hj=>by
  have e0:=hj 0 (by simp) (by omega);rw[Nat.add_zero,List.getElem_cons_zero]at e0;rw[List.getElem_cons_succ,show k+(i+1)=k+1+i by omega]at hy;rw[List.set_cons_succ,Yk,Yk,e0,List.set_append_right _ _ (by rw[hf,Nat.add_mul,Nat.one_mul];omega),hf,show(i+1)*sz+q-sz=i*sz+q by rw[Nat.add_mul,Nat.one_mul];omega,
   Yi hf (k+1) xs i (by simpa using h) y q u hq hy (fun j hj' hne=>by have:=hj (j+1) (by simpa using hj') (by omega);rwa[List.getElem_cons_succ,show k+(j+1)=k+1+j by omega]at this)]
structure Xt(w:World)(lab:Nat->Nat × Nat × Nat)(L:Nat × Nat × Nat)(base t sz:Nat)(v:Value)(n:Nat)(cs:List Value):Prop where
 own:w.ownsRow base t sz v n cs
 lab:∀b,v.ownBlock=some b->lab b=L
theorem YT{w w':World}{base t sz:Nat}{v:Value}{n:Nat}{cs:List Value}(h:w.ownsRow base t sz v n cs)(k:∀b,v.ownBlock=some b->w'.heap[b]?=w.heap[b]?):w'.ownsRow base t sz v n cs:=by
 obtain⟨hl,h | ⟨g,cap,cur,e,hg,hh,hc⟩⟩:=h
 ·exact⟨hl,Or.inl h⟩
 ·subst e
  exact⟨hl,Or.inr ⟨g,cap,cur,rfl,hg,(k g rfl).trans hh,hc⟩⟩
theorem Xt.keep{w w':World}{lab lab':Nat->Nat × Nat × Nat}{L:Nat × Nat × Nat}{base t sz:Nat}{v:Value}{n:Nat}{cs:List Value}(h:Xt w lab L base t sz v n cs)(k:∀b,base<=b->b<w.heap.size->lab b=L->w'.heap[b]?=w.heap[b]?/\lab' b=L):Xt w' lab' L base t sz v n cs :=
 ⟨YT h.own (fun b e=>(k b (h.own.lt b e).1 (h.own.lt b e).2 (h.lab b e)).1),fun b e=>(k b (h.own.lt b e).1 (h.own.lt b e).2 (h.lab b e)).2⟩
theorem Xt.set{w:World}{lab:Nat->Nat × Nat × Nat}{L:Nat × Nat × Nat}{base t sz g n c:Nat}{cs:List Value}(h:Xt w lab L base t sz (.slice (some ⟨g,0,none⟩) n c) n cs)(q:Nat)(u:Value):Xt (w.setCell ⟨g,q,none⟩ u) lab L base t sz (.slice (some ⟨g,0,none⟩) n c) n (cs.set q u):=⟨Zai h.own u,h.lab⟩
theorem Xt.thaw{w:World}{lab:Nat->Nat × Nat × Nat}{L:Nat × Nat × Nat}{base t sz g n c:Nat}{cs:List Value}(h:Xt w lab L base t sz (.slice (some ⟨g,0,none⟩) n c) n cs)(q:Nat):w.frozen? ⟨g,q,none⟩=false:=h.own.frozenAt q
theorem Xt.cell{w:World}{lab:Nat->Nat × Nat × Nat}{L:Nat × Nat × Nat}{base t sz g n c:Nat}{cs:List Value}(h:Xt w lab L base t sz (.slice (some ⟨g,0,none⟩) n c) n cs){q:Nat}{u:Value}(hu:cs[q]?=some u):w.cell? ⟨g,q,none⟩=some u:=Zx h.own hu
theorem Xt.blk{w:World}{lab:Nat->Nat × Nat × Nat}{L:Nat × Nat × Nat}{base t sz g n c:Nat}{cs:List Value}(h:Xt w lab L base t sz (.slice (some ⟨g,0,none⟩) n c) n cs):(base<=g/\g<w.heap.size)/\lab g=L:=⟨h.own.lt g rfl,h.lab g rfl⟩
theorem Xt.got{w:World}{lab:Nat->Nat × Nat × Nat}{L:Nat × Nat × Nat}{base t sz n:Nat}{v:Value}{cs:List Value}(h:Xt w lab L base t sz v n cs)(hn:0<n):∃g c,v=.slice (some ⟨g,0,none⟩) n c:=by
 obtain⟨g,c,e,_⟩:=Xh h.own hn;exact⟨g,c,e⟩
theorem Xt.form{w:World}{lab:Nat->Nat × Nat × Nat}{L:Nat × Nat × Nat}{base t sz n:Nat}{v:Value}{cs:List Value}(h:Xt w lab L base t sz v n cs):∃a c,v=.slice a n c:=by
 rcases h.own.2 with⟨e,h0⟩ | ⟨g,cap,_,e,_⟩
 ·exact⟨none,0,by rw[e,h0]⟩
 ·exact⟨_,_,e⟩
def T9(p i:Value)(t:XZ):List Value:=[p,i,.int .i64 t.kind,.int .i64 t.a,.int .i64 t.to,.int .i64 t.els]
def XD(pv iv:Nat->Value)(xs:List Xg):List Value:=Yk (fun i x=>T9 (pv i) (iv i) x.term) 0 xs
def XY(av:Nat->Value)(ps:List Ph):List Value:=Yk (fun j p=>[.int .i64 p.dst,av j]) 0 ps
def Yu(is:List XS):List Value:=Yk (fun _ x=>x.cells) 0 is
def Xl(xs:List Int):List Value:=xs.map (Value.int .i64)
structure Z9(w:World)(lab:Nat->Nat × Nat × Nat)(base:Nat)(v:Value)(xs:List Xg)(pv iv:Nat->Value)(av:Nat->Nat->Value):Prop where
 blks:Xt w lab (1,0,0) base 39 6 v xs.length (XD pv iv xs)
 phis:∀i (h:i<xs.length),Xt w lab (2,i,0) base 42 2 (pv i) xs[i].phis.length (XY (av i) xs[i].phis)
 ins:∀i (h:i<xs.length),Xt w lab (3,i,0) base 44 5 (iv i) xs[i].instrs.length (Yu xs[i].instrs)
 args:∀i (h:i<xs.length) j (hj:j<xs[i].phis.length),Xt w lab (4,i,j) base 2 1 (av i j) xs[i].phis[j].args.length (Xl xs[i].phis[j].args)
theorem JS(p i:Value)(t:XZ):(T9 p i t).length=6:=rfl
theorem Xt.ints{w:World}{lab:Nat->Nat × Nat × Nat}{L:Nat × Nat × Nat}{base n:Nat}{a:Option Addr}{c:Nat}{xs:List Int}(h:Xt w lab L base 2 1 (.slice a n c) xs.length (Xl xs)):Xe w base w.heap.size a xs:=fun i hi=>by
 obtain⟨g,c',e⟩:=h.got (by omega);cases e;exact⟨g,0,rfl,h.blk.1,by rw[Nat.zero_add];exact h.cell (by unfold Xl;simp[hi])⟩
theorem Z9.at_{w:World}{lab:Nat->Nat × Nat × Nat}{base:Nat}{a:Option Addr}{n c:Nat}{xs:List Xg}{pv iv:Nat->Value}{av:Nat->Nat->Value}(h:Z9 w lab base (.slice a n c) xs pv iv av):Xy w base w.heap.size a xs:=fun i hi=>by
 obtain⟨g,c',e⟩:=h.blks.got (by omega);cases e;have hb:=h.blks;obtain⟨pa,pc,ep⟩:=(h.phis i hi).form;obtain⟨ia,ic,ei⟩:=(h.ins i hi).form;have cc:∀q u,q<6->(T9 (pv i) (iv i) xs[i].term)[q]?=some u->w.cell? ⟨g,i*6+q,none⟩=some u:=fun q u hq hu=>hb.cell (by
  unfold XD;rw[Xx (fun _ _=>JS _ _ _) 0 xs i hi q hq,Nat.zero_add];exact hu)
 refine⟨g,0,rfl,hb.blk.1,pa,pc,ia,ic,?_,?_,⟨?_,?_,?_,?_⟩,fun j hj=>?_,fun j hj=>?_⟩
 ·rw[Nat.zero_add];exact cc 0 _ (by omega) (by rw[<-ep];rfl)
 ·rw[Nat.zero_add];exact cc 1 _ (by omega) (by rw[<-ei];rfl)
 ·rw[Nat.zero_add];exact cc 2 _ (by omega) rfl
 ·rw[Nat.zero_add];exact cc 3 _ (by omega) rfl
 ·rw[Nat.zero_add];exact cc 4 _ (by omega) rfl
 ·rw[Nat.zero_add];exact cc 5 _ (by omega) rfl
 ·have hp:=h.phis i hi
  obtain⟨gp,cp,e⟩:=hp.got (by omega);rw[e]at ep hp;cases ep;have ha:=h.args i hi j hj;obtain⟨aa,ac,ea⟩:=ha.form;have pc:∀q u,q<2->([.int .i64 xs[i].phis[j].dst,av i j]:List Value)[q]?=some u->w.cell? ⟨gp,j*2+q,none⟩=some u:=fun q u hq hu=>hp.cell (by
   unfold XY;rw[Xx (sz:=2) (fun _ _=>rfl) 0 xs[i].phis j hj q hq,Nat.zero_add];exact hu)
  rw[ea]at ha;exact⟨gp,0,rfl,hp.blk.1,aa,ac,by rw[Nat.zero_add];exact pc 0 _ (by omega) rfl,by rw[Nat.zero_add];exact pc 1 _ (by omega) (by rw[<-ea];rfl),ha.ints⟩
 ·have hp:=h.ins i hi
  obtain⟨gp,cp,e⟩:=hp.got (by omega);rw[e]at ei hp;cases ei;have pc:∀q u,q<5->(xs[i].instrs[j].cells)[q]?=some u->w.cell? ⟨gp,j*5+q,none⟩=some u:=fun q u hq hu=>hp.cell (by
   unfold Yu;rw[Xx (sz:=5) (fun _ _=>rfl) 0 xs[i].instrs j hj q hq];exact hu)
  exact⟨gp,0,rfl,hp.blk.1,by rw[Nat.zero_add];exact pc 0 _ (by omega) rfl,by rw[Nat.zero_add];exact pc 1 _ (by omega) rfl,by rw[Nat.zero_add];exact pc 2 _ (by omega) rfl,by rw[Nat.zero_add];exact pc 3 _ (by omega) rfl,by rw[Nat.zero_add];exact pc 4 _ (by omega) rfl⟩
end Go.Proofs.YtbofmlmdgkblkaaDoor
namespace Go.Proofs.YtbofmlmdgkblkaaDoor
open Go.RowKit
def Uv(s:Sr)(n:Nat):Int × Sr:=if 2<n then (1+(nextP s ((n:Int)-1)).1,(nextP s ((n:Int)-1)).2)else (0,s)
def brP(s:Sr)(o i:Int):XZ × Sr :=
 if o≠0/\o≠i then
  if (nextP s 4).1=0 then (⟨1,0,i,0⟩,(nextP s 4).2)
  else if (nextP (nextP s 4).2 2).1=0 then (⟨2,0,o,i⟩,(nextP (nextP s 4).2 2).2)else (⟨2,0,i,o⟩,(nextP (nextP s 4).2 2).2)
 else (⟨1,0,i,0⟩,s)
def Zf1(s:Sr)(n:Nat):XZ × Sr :=
 if 1<n then
  if (nextP s 8).1=0 then (⟨1,0,1+(nextP (nextP s 8).2 ((n:Int)-1)).1,0⟩,(nextP (nextP s 8).2 ((n:Int)-1)).2)else (⟨3,0,0,0⟩,(nextP s 8).2)
 else (⟨3,0,0,0⟩,s)
def terK(s:Sr)(n i:Nat):XZ × Sr:=if i+1<n then brP (Uv s n).2 (Uv s n).1 ((i:Int)+1)else Zf1 s n
def Jq(n:Nat):Nat->Nat->Sr->List XZ->List XZ × Sr
 | 0,_,s,acc=>(acc,s)
 | k+1,i,s,acc=>Jq n k (i+1) (terK s n i).2 (acc++[(terK s n i).1])
theorem Zbl(n:Nat):∀(k i:Nat)(s:Sr)(acc:List XZ),(Jq n k i s acc).1.length=acc.length+k
 | 0,_,_,_=>rfl
 | k+1,i,s,acc=>by rw[Jq,Zbl];simp;omega
def Wi(n i:Nat)(t:XZ):Prop :=
 (t=⟨3,0,0,0⟩/\¬i+1<n)\/(∃q:Nat,t=⟨1,0,q,0⟩/\1<=q/\q<n/\(i+1<n->q=i+1))\/(∃q r:Nat,t=⟨2,0,q,r⟩/\1<=q/\q<n/\1<=r/\r<n/\q≠r/\(q=i+1\/r=i+1)/\i+1<n)
theorem Zg3(s:Sr)(n:Nat):(Uv s n).1=0\/(1<=(Uv s n).1/\(Uv s n).1<n):=by
 unfold Uv;split
 ·rename_i h
  have:=XB s (n:=(n:Int)-1) (by omega);right;show 1<=1+(nextP s ((n:Int)-1)).1/\1+(nextP s ((n:Int)-1)).1<n;omega
 ·exact Or.inl rfl
theorem ZgS(s:Sr)(n i:Nat)(h:i<n):Wi n i (terK s n i).1:=by
 unfold terK;split
 ·rename_i hi
  have ho:=Zg3 s n;unfold brP;split
  ·rename_i h1
   obtain⟨q,hq⟩:=Zg (x:=(Uv s n).1) (by omega);rw[hq]at h1 ho |-;split
   ·exact Or.inr (Or.inl ⟨i+1,rfl,by omega,hi,fun _=>rfl⟩)
   ·split
    ·exact Or.inr (Or.inr ⟨q,i+1,rfl,by omega,by omega,by omega,hi,by omega,Or.inr rfl,hi⟩)
    ·exact Or.inr (Or.inr ⟨i+1,q,rfl,by omega,hi,by omega,by omega,by omega,Or.inl rfl,hi⟩)
  ·exact Or.inr (Or.inl ⟨i+1,rfl,by omega,hi,fun _=>rfl⟩)
 ·rename_i hi
  unfold Zf1;split
  ·rename_i h1
   split
   ·have hl:=XB (nextP s 8).2 (n:=(n:Int)-1) (by omega)
    obtain⟨q,hq⟩:=Zg hl.1;rw[hq]at hl |-;exact Or.inr (Or.inl ⟨1+q,by simp,by omega,by omega,fun h2=>absurd h2 hi⟩)
   ·exact Or.inl ⟨rfl,hi⟩
  ·exact Or.inl ⟨rfl,hi⟩
theorem Zb4(n:Nat):∀(k i:Nat)(s:Sr)(acc:List XZ),acc.length=i->i+k=n->(∀j (h:j<acc.length),Wi n j acc[j])->∀j (h:j<(Jq n k i s acc).1.length),Wi n j (Jq n k i s acc).1[j]
 | 0,_,_,_,_,_,h=>h
 | k+1,i,s,acc,hl,hn,h=>by
  rw[Jq];refine Zb4 n k (i+1) _ _ (by simp[hl]) (by omega) (fun j hj=>?_);by_cases e:j<acc.length
  ·rw[List.getElem_append_left e];exact h j e
  ·have hj':j=i:=by simp at hj;omega
   subst hj';rw[List.getElem_append_right (by omega)];simp only[hl,Nat.sub_self,List.getElem_cons_zero];exact ZgS s n j (by omega)
def Yj(t:XZ):Xg:=⟨[],[],t⟩
def Zi:Nat->Value:=fun _=>.slice none 0 0
def Bx(w:World)(b:Nat)(cs:Array Value)(t:Nat):Prop:=w.heap[b]?=some (.cells cs t)
theorem Bx.lt{w:World}{b t:Nat}{cs:Array Value}(h:Bx w b cs t):b<w.heap.size:=by
 by_cases e:b<w.heap.size
 ·exact e
 ·unfold Bx at h
  rw[Array.getElem?_eq_none (by omega)]at h;cases h
theorem Bx.cell{w:World}{b t q:Nat}{cs:Array Value}{u:Value}(h:Bx w b cs t)(hq:cs[q]?=some u):w.cell? ⟨b,q,none⟩=some u:=(cell_of_row w b q cs t _ h).trans hq
theorem Bx.thaw{w:World}{b t:Nat}{cs:Array Value}(h:Bx w b cs t)(q:Nat):w.frozen? ⟨b,q,none⟩=false:=by
 unfold World.frozen?;unfold Bx at h;show(match w.heap[b]? with | some (.cells _ _ (lo,hi))=>decide (lo<=q)&&decide (q<hi) | _=>false)=false
 rw[h];simp
theorem Bx.set{w:World}{b t:Nat}{cs:Array Value}(h:Bx w b cs t)(q:Nat)(u:Value):Bx (w.setCell ⟨b,q,none⟩ u) b (cs.setIfInBounds q u) t:=heap_setCell_same w b q cs t u h
theorem Bx.keep{w w':World}{b t:Nat}{cs:Array Value}(h:Bx w b cs t)(k:w'.heap[b]?=w.heap[b]?):Bx w' b cs t:=k.trans h
theorem Bx.new(w:World)(cs:Array Value)(t:Nat):Bx (w.alloc (.cells cs t)) w.heap.size cs t:=World.alloc_heap_new _ _
theorem Bx.box{w:World}{b t:Nat}{cs:Array Value}(h:Bx w b cs t)(o:Obj):Bx (w.alloc o) b cs t:=h.keep (Below.heap_alloc _ _ _ h.lt)
theorem Bx.other{w:World}{b t g q:Nat}{cs:Array Value}{u:Value}(h:Bx w b cs t)(hg:b≠g):Bx (w.setCell ⟨g,q,none⟩ u) b cs t:=h.keep (Below.heap_setCell _ _ _ _ hg)
theorem Bx.grown{w w':World}{b t:Nat}{cs:Array Value}{r:Option Nat}(h:Bx w b cs t)(g:w.grownBy w' r)(hr:some b≠r):Bx w' b cs t:=h.keep (g.block b h.lt hr)
structure SkW(w wr:World)(sb B:Nat)(s:Sr)(v:Value)(acc:List XZ):Prop where
 dr:Z7 wr sb B s
 gr:w.grownBy wr (some sb)
 bw:B<=w.heap.size
 res:Bx wr w.heap.size #[.int .i64 0,.slice none 0 0] 25
 fun_:Bx wr (w.heap.size+1) #[.int .i64 0,v] 25
 own:wr.ownsRow (w.heap.size+2) 39 6 v acc.length (XD Zi Zi (acc.map Yj))
 size:w.heap.size+2<=wr.heap.size
theorem SkW.next{w wr w':World}{sb B:Nat}{s s':Sr}{v:Value}{acc:List XZ}(h:SkW w wr sb B s v acc)(g:wr.grownBy w' (some sb))(d:Z7 w' sb B s'):SkW w w' sb B s' v acc:=by
 have hb:=h.dr.bB;have hw:=h.bw;exact⟨d,Yq h.gr g,h.bw,h.res.grown g (by intro e;injection e;omega),h.fun_.grown g (by intro e;injection e;omega),KT h.own g (by omega),Nat.le_trans h.size g.size⟩
theorem SkW.box{w wr:World}{sb B:Nat}{s:Sr}{v:Value}{acc:List XZ}(h:SkW w wr sb B s v acc)(o:Obj):SkW w (wr.alloc o) sb B s v acc:=by
 have k:=World.grownBy_alloc wr o (some sb);exact⟨h.dr.box o,Yq h.gr k,h.bw,h.res.box o,h.fun_.box o,h.own.alloc o,Nat.le_trans h.size k.size⟩
theorem SkW.put{w wr:World}{sb B g q:Nat}{s:Sr}{v u:Value}{acc:List XZ}(h:SkW w wr sb B s v acc)(hg:w.heap.size+2<=g)(hv:v.ownBlock≠some g):SkW w (wr.setCell ⟨g,q,none⟩ u) sb B s v acc:=by
 have hw:=h.bw;exact⟨h.dr.put (by omega),XN h.gr (by omega),h.bw,h.res.other (by omega),h.fun_.other (by omega),ownsRow_setCell_other h.own hv u,by simpa [World.setCell]using h.size⟩
end Go.Proofs.YtbofmlmdgkblkaaDoor
