import Derived.Test.YtghnlncgiihhgaaGreatDoorDRb
namespace Go.Proofs.YtghnlncgiihhgaaGreatDoor
set_option maxHeartbeats 4000000
set_option maxRecDepth 100000
open Go.RowKit Go.Proofs.Tryz
variable{n g:Nat}{w:World}
structure Y3 where
 k:Nat
 tl:List Value
theorem rn3{Q:Exit->Act->World->Prop}(w:World)(E:Nat->Nat × Nat × Nat)(x v G n e:Nat)(a:List Xe)(F D:Nat->Value)(av:Nat->Nat->Value)(top:Int)(b j:Nat)(c0 c2 J K:Value)(hQ:Hid (∀e (U:Act) t v w,Q (.panic e) (U.put (some t) v) w->Q (.panic e) U w))(X:b<a.length)(hj:j<a[b].ps.length)(hn:Hid (n=a.length))(ar:Hid (a[b].ps.length<=1000/\a[b].ps[j].args.length<=1000))
 (Z:∀(i:List Value)(s:World),i.length=161->KG w s E x v G n e (a.set b (a[b].setPhi j ⟨a[b].ps[j].dst,a[b].ps[j].args.map (fun z=>wrap64 (top-z))⟩)) F D av->∀c6,Q (.exit 4) ⟨(c0::.pointer (some ⟨w.heap.size,0,none⟩)::c2::.int .i64 top::.int .i64 ((b:Nat):Int)::.int .i64 ((j:Nat):Int)::c6::J::K::i).toArray,[]⟩ s)
 (i:List Value) (wr:World) (p:i.length=161) (V:Hid (KG w wr E x v G n e a F D av)) :
 Code.wp prog (Code.loop rB3) Q ⟨(c0::.pointer (some ⟨w.heap.size,0,none⟩)::c2::.int .i64 top::.int .i64 ((b:Nat):Int)::.int .i64 ((j:Nat):Int)::.int .i64 ((0:Nat):Int)::J::K::i).toArray,[]⟩ wr:=by
 have HX:=Xa Z;clear Z;obtain⟨M,W⟩:∃M,M=a[b].ps[j].args.length:=⟨_,rfl⟩;have u:=Xa W;refine iY (fun B wr=>∃A:Y3,B=⟨(c0::.pointer (some ⟨w.heap.size,0,none⟩)::c2::.int .i64 top::.int .i64 ((b:Nat):Int)::.int .i64 ((j:Nat):Int)::.int .i64 ((A.k:Nat):Int)::J::K::A.tl).toArray,[]⟩/\A.tl.length=161/\A.k<=M/\Hid (KG w wr E x v G n e (a.set b (a[b].setPhi j ⟨a[b].ps[j].dst,Xr (fun z=>wrap64 (top-z)) A.k a[b].ps[j].args⟩)) F D av)) (fun B _=>M-(intOf (B.tmps.getD 6 undef)).toNat) ⟨⟨0,i⟩,rfl,p,aN _,Xa (by
  have l:a.set b (a[b].setPhi j ⟨a[b].ps[j].dst,Xr (fun z=>wrap64 (top-z)) 0 a[b].ps[j].args⟩)=a:=by
   rw[Tf];show a.set b ⟨a[b].ps.set j a[b].ps[j],a[b].is,a[b].te⟩=a;rw[fK];exact fK X
  rw[l];exact V)⟩ ?_
 clear V p W;rintro B wr ⟨⟨k,i⟩,rfl,p,hk,c⟩;dsimp only at p hk c |-
 conv=>arg 2;whnf
 obtain⟨a0,rfl⟩:=bh i p;clear p;have af:(a.set b (a[b].setPhi j ⟨a[b].ps[j].dst,Xr (fun z=>wrap64 (top-z)) k a[b].ps[j].args⟩)).length=n:=by rw[bL];exact hn.symm
 have f:b<(a.set b (a[b].setPhi j ⟨a[b].ps[j].dst,Xr (fun z=>wrap64 (top-z)) k a[b].ps[j].args⟩)).length:=by simpa using X
 have C:(a.set b (a[b].setPhi j ⟨a[b].ps[j].dst,Xr (fun z=>wrap64 (top-z)) k a[b].ps[j].args⟩))[b]=a[b].setPhi j ⟨a[b].ps[j].dst,Xr (fun z=>wrap64 (top-z)) k a[b].ps[j].args⟩:=Xj _ _ _ _;have o:j<(a.set b (a[b].setPhi j ⟨a[b].ps[j].dst,Xr (fun z=>wrap64 (top-z)) k a[b].ps[j].args⟩))[b].ps.length:=by rw[C];simpa [Xe.setPhi]using hj
 have h:((a.set b (a[b].setPhi j ⟨a[b].ps[j].dst,Xr (fun z=>wrap64 (top-z)) k a[b].ps[j].args⟩))[b].ps[j]).args=Xr (fun z=>wrap64 (top-z)) k a[b].ps[j].args:=by simp only[Xe.setPhi,Xj]
 have R:((a.set b (a[b].setPhi j ⟨a[b].ps[j].dst,Xr (fun z=>wrap64 (top-z)) k a[b].ps[j].args⟩))[b].ps[j]).dst=a[b].ps[j].dst:=by simp only[Xe.setPhi,Xj]
 have a2:b<n:=oN hn.out
 obtain⟨g,L,q⟩:=(c.fn.ps b f).got oM;obtain⟨r,P⟩:∃r,r=(a.set b (a[b].setPhi j ⟨a[b].ps[j].dst,Xr (fun z=>wrap64 (top-z)) k a[b].ps[j].args⟩))[b].ps.length:=⟨_,rfl⟩;rw[<-P]at q;have a4:j<r:=oM;obtain⟨aa,I,m⟩:=(c.fn.args b f j o).form;rw[h,Ys,<-u.out]at m;have x1:Cl wr w.heap.size 1 (.slice (some ⟨G,0,none⟩) n e):=Bx.cell c.box rfl;have x2:wr.cell? ⟨G,b*6,none⟩=some (.slice (some ⟨g,0,none⟩) r L):=by rw[<-q];exact(c.fn.cells f).1
 have x3:wr.cell? ⟨g,j*2+1,none⟩=some (.slice aa M I):=by rw[<-m];exact(c.fn.phiCells f o q).2
 have a1:M<=1000:=oP ar.out u.out
 by_cases ax:k<M
 ·have ay:(k:Int)<M:=oM
  have O:k<a[b].ps[j].args.length:=by rw[<-u.out];exact ax
  obtain⟨d,az,N⟩:=(c.fn.args b f j o).got (by rw[h,Ys];omega);rw[h,Ys,<-u.out]at N;rw[m]at N;injection N with e1 _ e3;subst e1 e3;obtain⟨ab,y,Y,hz⟩:=c.fn.setArg (k:=k) (d:=wrap64 (top-a[b].ps[j].args[k])) f o (by rw[h,Ys];exact O) m;have a3:wr.cell? ⟨d,k,none⟩=some (.int .i64 a[b].ps[j].args[k]):=by
   rw[Y];congr 2;simp only[h];exact Vw O _
  have aq:x<=d:=by
   have:=(c.fn.args b f j o).own.lt d (by rw[m];rfl);exact this.1
  have S:=Xa (c.put ab (by rw[y];simp) aq);have T:Hid ((a.set b (a[b].setPhi j ⟨a[b].ps[j].dst,Xr (fun z=>wrap64 (top-z)) k a[b].ps[j].args⟩)).set b ((a.set b (a[b].setPhi j ⟨a[b].ps[j].dst,Xr (fun z=>wrap64 (top-z)) k a[b].ps[j].args⟩))[b].setPhi j ⟨((a.set b (a[b].setPhi j ⟨a[b].ps[j].dst,Xr (fun z=>wrap64 (top-z)) k a[b].ps[j].args⟩))[b].ps[j]).dst,((a.set b (a[b].setPhi j ⟨a[b].ps[j].dst,Xr (fun z=>wrap64 (top-z)) k a[b].ps[j].args⟩))[b].ps[j]).args.set k (wrap64 (top-a[b].ps[j].args[k]))⟩)=(a.set b (a[b].setPhi j ⟨a[b].ps[j].dst,Xr (fun z=>wrap64 (top-z)) (k+1) a[b].ps[j].args⟩))):=Xa (by
   rw[R,h,C,gE,<-TR O];simp[Xe.setPhi])
  rw[T.out]at S;have al:Hid (∀H,(wr.setCell ⟨d,k,none⟩ H).cell? ⟨w.heap.size,1,none⟩=some (.slice (some ⟨G,0,none⟩) n e)/\(wr.setCell ⟨d,k,none⟩ H).cell? ⟨G,b*6,none⟩=some (.slice (some ⟨g,0,none⟩) r L)/\(wr.setCell ⟨d,k,none⟩ H).cell? ⟨g,j*2+1,none⟩=some (.slice (some ⟨d,0,none⟩) M I)):=Xa (fun H=>by
   have l1:=c.fr w.heap.size (aA _);have l2:=c.fn.blks.lab G rfl;have l3:=(c.fn.ps b f).lab g (by rw[q];rfl);have n1:w.heap.size≠d:=fun l=>by rw[l,y]at l1;simp at l1
   have n2:G≠d:=fun l=>by rw[l,y]at l2;simp at l2
   have n3:g≠d:=fun l=>by rw[l,y]at l3;simp at l3
   exact⟨(Xc (Below.heap_setCell _ _ _ _ n1)).trans x1,(Xc (Below.heap_setCell _ _ _ _ n2)).trans x2,(Xc (Below.heap_setCell _ _ _ _ n3)).trans x3⟩)
  clear ab Y h R C q m P y af T o f;generalize a[b].ps[j].args[k]=z at *
  go_wp2_with fail
  refine Y7 (fun s=>s.cell? ⟨w.heap.size,1,none⟩=some (.slice (some ⟨G,0,none⟩) n e)/\s.cell? ⟨G,b*6,none⟩=some (.slice (some ⟨g,0,none⟩) r L)/\s.cell? ⟨g,j*2+1,none⟩=some (.slice (some ⟨d,0,none⟩) M I)) (fun hHeld=>?_);refine X0 0 ?_;refine X0 1 ?_;refine X0 2 ?_;refine X0 3 ?_;refine X0 4 ?_;refine X0 5 ?_;refine X0 6 ?_;refine X0 7 ?_;refine X0 8 ?_;refine X0 9 ?_;refine X0 10 ?_;refine X0 11 ?_;refine X0 12 ?_;refine X0 13 ?_;refine X0 14 ?_;refine X0 15 ?_;refine X0 16 ?_;refine X0 17 ?_;refine X0 18 ?_;refine X0 19 ?_;refine X0 20 ?_;refine X0 21 ?_;refine X0 22 ?_;refine X0 23 ?_;refine Xs 24 (fun ap hK=>?_);go_simp;refine hK _ _ kP (fun hHeld=>?_);clear hK;refine X0 25 ?_;refine X0 26 ?_;refine Xs 27 (fun ap hK=>?_);go_simp;refine hK _ _ (al _) (fun hHeld=>?_);clear hK;refine Yq ?_;clear hHeld
  go_wp2_with fail
  refine⟨⟨⟨k+1,_⟩,rfl,rfl,(by show k+1<=M;omega),Xa ?_⟩,by simp[intOf];omega⟩;exact S.drew
 ·have ay:¬(k:Int)<M:=oM
  have ad:k=a[b].ps[j].args.length:=by rw[<-u.out];omega
  have aj:Hid (KG w wr E x v G n e (a.set b (a[b].setPhi j ⟨a[b].ps[j].dst,a[b].ps[j].args.map (fun z=>wrap64 (top-z))⟩)) F D av):=Xa (by
   have:=c.out;rw[ad,Uj]at this;exact this)
  clear ad h R C q m P af o f
  go_wp2_with fail
  exact HX _ _ rfl aj _
def Ym(top:Int)(p:Ph):Ph:=⟨wrap64 (top-p.dst),p.args.map fun z=>wrap64 (top-z)⟩
structure Y2 where
 j:Nat
 c6:Value
 tl:List Value
theorem rn2{Q:Exit->Act->World->Prop}(w:World)(y:Nat->Nat × Nat × Nat)(r v G n c:Nat)(a:List Xe)(z u:Nat->Value)(av:Nat->Nat->Value)(top:Int)(b:Nat)(c0 c2 I J:Value)(hQ:Hid (∀c (B:Act) R v w,Q (.panic c) (B.put (some R) v) w->Q (.panic c) B w))(L:b<a.length)(hn:Hid (n=a.length))(N:Hid (a[b].ps.length<=1000/\∀ay∈a[b].ps,ay.args.length<=1000))
 (Z:∀(c5 m:Value)(g:List Value)(p:World),g.length=161->KG w p y r v G n c (a.set b ⟨a[b].ps.map (Ym top),a[b].is,a[b].te⟩) z u av->Q (.exit 2) ⟨(c0::.pointer (some ⟨w.heap.size,0,none⟩)::c2::.int .i64 top::.int .i64 ((b:Nat):Int)::c5::m::I::J::g).toArray,[]⟩ p)
 (m:Value) (g:List Value) (wr:World) (h:g.length=161) (D:Hid (KG w wr y r v G n c a z u av)) :
 Code.wp prog (Code.loop rB2) Q ⟨(c0::.pointer (some ⟨w.heap.size,0,none⟩)::c2::.int .i64 top::.int .i64 ((b:Nat):Int)::.int .i64 ((0:Nat):Int)::m::I::J::g).toArray,[]⟩ wr:=by
 have HX:=Xa Z;clear Z;obtain⟨M,X⟩:∃M,M=a[b].ps.length:=⟨_,rfl⟩;have q:=Xa X;refine iY (fun C wr=>∃x:Y2,C=⟨(c0::.pointer (some ⟨w.heap.size,0,none⟩)::c2::.int .i64 top::.int .i64 ((b:Nat):Int)::.int .i64 ((x.j:Nat):Int)::x.c6::I::J::x.tl).toArray,[]⟩/\x.tl.length=161/\x.j<=M/\Hid (KG w wr y r v G n c (a.set b ⟨Xr (Ym top) x.j a[b].ps,a[b].is,a[b].te⟩) z u av)) (fun C _=>M-(intOf (C.tmps.getD 5 undef)).toNat) ⟨⟨0,m,g⟩,rfl,h,aN _,Xa (by
  have s:a.set b ⟨Xr (Ym top) 0 a[b].ps,a[b].is,a[b].te⟩=a:=by
   rw[Tf];exact fK L
  rw[s];exact D)⟩ ?_
 clear D h X;rintro C wr ⟨⟨j,m,g⟩,rfl,h,hj,f⟩;dsimp only at h hj f |-
 conv=>arg 2;whnf
 obtain⟨al,rfl⟩:=bh g h;clear h;have l:b<(a.set b ⟨Xr (Ym top) j a[b].ps,a[b].is,a[b].te⟩).length:=by simpa using L
 have d:(a.set b ⟨Xr (Ym top) j a[b].ps,a[b].is,a[b].te⟩)[b]=⟨Xr (Ym top) j a[b].ps,a[b].is,a[b].te⟩:=Xj _ _ _ _;have a2:b<n:=oN hn.out
 obtain⟨ga,K,i⟩:=(f.fn.ps b l).form;rw[d]at i;rw[show(⟨Xr (Ym top) j a[b].ps,a[b].is,a[b].te⟩:Xe).ps.length=M from(Ys _ _).trans q.symm]at i;have x1:Cl wr w.heap.size 1 (.slice (some ⟨G,0,none⟩) n c):=Bx.cell f.box rfl;have x2:wr.cell? ⟨G,b*6,none⟩=some (.slice ga M K):=by rw[<-i];exact(f.fn.cells l).1
 have a1:M<=1000:=oP N.out q.out
 by_cases ar:j<M
 ·have ax:(j:Int)<M:=oM
  have t:j<a[b].ps.length:=by rw[<-q.out];exact ar
  have ab:j<(a.set b ⟨Xr (Ym top) j a[b].ps,a[b].is,a[b].te⟩)[b].ps.length:=by rw[d];show j<(Xr _ _ _).length;rw[Ys];exact t
  have P:(a.set b ⟨Xr (Ym top) j a[b].ps,a[b].is,a[b].te⟩)[b].ps[j]=a[b].ps[j]:=by simp only[d];exact Vw t _
  obtain⟨k,a0,O⟩:=(f.fn.ps b l).got oM;rw[show(a.set b ⟨Xr (Ym top) j a[b].ps,a[b].is,a[b].te⟩)[b].ps.length=M by rw[d];exact(Ys _ _).trans q.symm]at O;rw[i]at O;injection O with e1 _ e3;subst e1 e3;obtain⟨aa,E,Y,hz⟩:=f.fn.setDst (d:=wrap64 (top-a[b].ps[j].dst)) l ab i;rw[P]at Y;have aq:=((f.fn.ps b l).own.lt k (by rw[i];rfl)).1;have A:=Xa (f.put aa (by rw[E];simp) aq);rw[P]at A;have V:Hid (∀S,(wr.setCell ⟨k,j*2,none⟩ S).cell? ⟨w.heap.size,1,none⟩=some (.slice (some ⟨G,0,none⟩) n c)/\(wr.setCell ⟨k,j*2,none⟩ S).cell? ⟨G,b*6,none⟩=some (.slice (some ⟨k,0,none⟩) M K)):=Xa (fun S=>by
   have l1:=f.fr w.heap.size (aA _);have l2:=f.fn.blks.lab G rfl;have n1:w.heap.size≠k:=fun s=>by rw[s,E]at l1;simp at l1
   have n2:G≠k:=fun s=>by rw[s,E]at l2;simp at l2
   exact⟨(Xc (Below.heap_setCell _ _ _ _ n1)).trans x1,(Xc (Below.heap_setCell _ _ _ _ n2)).trans x2⟩)
  have ad:=Xa (N.2 _ (aH t));have W:Hid (((a.set b ⟨Xr (Ym top) j a[b].ps,a[b].is,a[b].te⟩)).set b ((a.set b ⟨Xr (Ym top) j a[b].ps,a[b].is,a[b].te⟩)[b].setPhi j ⟨wrap64 (top-a[b].ps[j].dst),a[b].ps[j].args⟩)=(a.set b ⟨(Xr (Ym top) j a[b].ps).set j ⟨wrap64 (top-a[b].ps[j].dst),a[b].ps[j].args⟩,a[b].is,a[b].te⟩)):=Xa (by rw[d,gE];rfl);rw[W.out]at A;have af:Hid (((Xr (Ym top) j a[b].ps).set j ⟨wrap64 (top-a[b].ps[j].dst),a[b].ps[j].args⟩).set j ⟨wrap64 (top-a[b].ps[j].dst),a[b].ps[j].args.map fun T=>wrap64 (top-T)⟩=Xr (Ym top) (j+1) a[b].ps):=Xa (by rw[gE];exact TR t);have H:Hid (j<((Xr (Ym top) j a[b].ps).set j ⟨wrap64 (top-a[b].ps[j].dst),a[b].ps[j].args⟩).length/\(Xr (Ym top) j a[b].ps).length=a[b].ps.length):=Xa ⟨by rw[bL,Ys];exact t,Ys _ _⟩;have az:Hid (∃e,a[b].ps[j].dst=e):=Xa ⟨_,rfl⟩;clear aa d i E ab l P W;generalize a[b].ps[j].dst=e at *;generalize a[b].ps[j].args=args at *
  go_wp2_with fail
  refine Y7 (fun p=>p.cell? ⟨w.heap.size,1,none⟩=some (.slice (some ⟨G,0,none⟩) n c)/\p.cell? ⟨G,b*6,none⟩=some (.slice (some ⟨k,0,none⟩) M K)) (fun hHeld=>?_);refine X0 0 ?_;refine X0 1 ?_;refine X0 2 ?_;refine X0 3 ?_;refine X0 4 ?_;refine X0 5 ?_;refine X0 6 ?_;refine X0 7 ?_;refine X0 8 ?_;refine X0 9 ?_;refine X0 10 ?_;refine X0 11 ?_;refine X0 12 ?_;refine X0 13 ?_;refine X0 14 ?_;refine X0 15 ?_;refine X0 16 ?_;refine Xs 17 (fun aj hK=>?_);go_simp;refine hK _ _ kP (fun hHeld=>?_);clear hK;refine X0 18 ?_;refine X0 19 ?_;refine X0 20 ?_;refine Xs 21 (fun aj hK=>?_);go_simp;refine hK _ _ (V _) (fun hHeld=>?_);clear hK;refine Yq ?_;clear hHeld x1 x2 Y hz V;have U:=Xa A.drew;clear A;rw[show IntKind.i64.wrap (top-e)=wrap64 (top-e) from IntWalk.i64_left _]
  go_wp2_with fail
  have ap:b<((a.set b ⟨(Xr (Ym top) j a[b].ps).set j ⟨wrap64 (top-e),args⟩,a[b].is,a[b].te⟩)).length:=by simpa using L
  have d:((a.set b ⟨(Xr (Ym top) j a[b].ps).set j ⟨wrap64 (top-e),args⟩,a[b].is,a[b].te⟩))[b]=⟨(Xr (Ym top) j a[b].ps).set j ⟨wrap64 (top-e),args⟩,a[b].is,a[b].te⟩:=Xj _ _ _ _;refine rn3 w y r v G n c ((a.set b ⟨(Xr (Ym top) j a[b].ps).set j ⟨wrap64 (top-e),args⟩,a[b].is,a[b].te⟩)) z u av top b j _ _ _ _ (by exact Xa (fun c B R v w D=>hQ c B R v w D)) ap (by rw[d];exact H.1) (Xa (by rw[bL];exact hn)) (Xa ⟨by rw[d];show(List.set _ _ _).length<=1000;rw[bL,H.2];exact N.1,by simp only[d,Xj];exact ad⟩) ?_ _ _ (by rfl) (by exact U);intro g p h o m;obtain⟨al,rfl⟩:=bh g h;clear h;have F:=Xa o;clear o U
  go_wp2_with fail
  refine⟨⟨⟨j+1,_,_⟩,rfl,rfl,(by show j+1<=M;omega),Xa ?_⟩,by simp[intOf];omega⟩;have o:=F.out;rw[gE]at o;have a3:j<((a.set b ⟨(Xr (Ym top) j a[b].ps).set j ⟨wrap64 (top-e),args⟩,a[b].is,a[b].te⟩))[b].ps.length:=by rw[d];exact H.1
  have e2:(((a.set b ⟨(Xr (Ym top) j a[b].ps).set j ⟨wrap64 (top-e),args⟩,a[b].is,a[b].te⟩))[b].setPhi j ⟨(((a.set b ⟨(Xr (Ym top) j a[b].ps).set j ⟨wrap64 (top-e),args⟩,a[b].is,a[b].te⟩))[b].ps[j]).dst,(((a.set b ⟨(Xr (Ym top) j a[b].ps).set j ⟨wrap64 (top-e),args⟩,a[b].is,a[b].te⟩))[b].ps[j]).args.map fun T=>wrap64 (top-T)⟩)=⟨Xr (Ym top) (j+1) a[b].ps,a[b].is,a[b].te⟩:=by
   rw[<-af.out];simp only[d,Xj,Xe.setPhi]
  rw[e2]at o;exact o
 ·have ax:¬(j:Int)<M:=oM
  have ac:j=a[b].ps.length:=by rw[<-q.out];omega
  have F:Hid (KG w wr y r v G n c (a.set b ⟨a[b].ps.map (Ym top),a[b].is,a[b].te⟩) z u av):=Xa (by
   have:=f.out;rw[ac,Uj]at this;exact this)
  clear ac d i l
  go_wp2_with fail
  exact HX _ _ _ _ rfl F
structure Y4 where
 j:Nat
 c8:Value
 tl:List Value
def VV(w:World)(g:Nat)(x:Yg):Prop:=Bx w g #[.int .i64 x.op,.int .i64 x.dst,.int .i64 x.a,.int .i64 x.b,.int .i64 x.imm] 98
theorem VV.cells{x:Yg}(h:VV w g x):w.cell? ⟨g,0,none⟩=some (.int .i64 x.op)/\w.cell? ⟨g,1,none⟩=some (.int .i64 x.dst)/\w.cell? ⟨g,2,none⟩=some (.int .i64 x.a)/\w.cell? ⟨g,3,none⟩=some (.int .i64 x.b)/\w.cell? ⟨g,4,none⟩=some (.int .i64 x.imm):=⟨Bx.cell h rfl,Bx.cell h rfl,Bx.cell h rfl,Bx.cell h rfl,Bx.cell h rfl⟩
theorem VV.set1{x:Yg}(h:VV w n x)(d:Int):VV (w.setCell ⟨n,1,none⟩ (.int .i64 d)) n ⟨x.op,d,x.a,x.b,x.imm⟩:=by
 have:=Bx.set h 1 (.int .i64 d);simpa [VV]using this
theorem VV.set2{x:Yg}(h:VV w n x)(d:Int):VV (w.setCell ⟨n,2,none⟩ (.int .i64 d)) n ⟨x.op,x.dst,d,x.b,x.imm⟩:=by
 have:=Bx.set h 2 (.int .i64 d);simpa [VV]using this
theorem VV.set3{x:Yg}(h:VV w n x)(d:Int):VV (w.setCell ⟨n,3,none⟩ (.int .i64 d)) n ⟨x.op,x.dst,x.a,d,x.imm⟩:=by
 have:=Bx.set h 3 (.int .i64 d);simpa [VV]using this
theorem rn4{T:Exit->Act->World->Prop}(w:World)(h:Nat->Nat × Nat × Nat)(e v G n c:Nat)(a:List Xe)(k i:Nat->Value)(av:Nat->Nat->Value)(top:Int)(b:Nat)(c0 c2 c5 c6:Value)(hQ:Hid (∀c (ap:Act) t v w,T (.panic c) (ap.put (some t) v) w->T (.panic c) ap w))(hb:b<a.length)(hn:Hid (n=a.length))(ba:Hid (a[b].is.length<=1000))
 (ar:∀(c7 J:Value)(z:List Value)(m:World),z.length=161->KG w m h e v G n c (a.set b ⟨a[b].ps,a[b].is.map (renI top),a[b].te⟩) k i av->T (.exit 6) ⟨(c0::.pointer (some ⟨w.heap.size,0,none⟩)::c2::.int .i64 top::.int .i64 ((b:Nat):Int)::c5::c6::c7::J::z).toArray,[]⟩ m)
 (J:Value) (z:List Value) (wr:World) (F:z.length=161) (aq:Hid (KG w wr h e v G n c a k i av)) :
 Code.wp prog (Code.loop rB4) T ⟨(c0::.pointer (some ⟨w.heap.size,0,none⟩)::c2::.int .i64 top::.int .i64 ((b:Nat):Int)::c5::c6::.int .i64 ((0:Nat):Int)::J::z).toArray,[]⟩ wr:=by
 have HX:=Xa ar;clear ar;obtain⟨M,hM⟩:∃M,M=a[b].is.length:=⟨_,rfl⟩;have S:=Xa hM;refine iY (fun U wr=>∃H:Y4,U=⟨(c0::.pointer (some ⟨w.heap.size,0,none⟩)::c2::.int .i64 top::.int .i64 ((b:Nat):Int)::c5::c6::.int .i64 ((H.j:Nat):Int)::H.c8::H.tl).toArray,[]⟩/\H.tl.length=161/\H.j<=M/\Hid (KG w wr h e v G n c (a.set b ⟨a[b].ps,Xr (renI top) H.j a[b].is,a[b].te⟩) k i av)) (fun U _=>M-(intOf (U.tmps.getD 7 undef)).toNat) ⟨⟨0,J,z⟩,rfl,F,aN _,Xa (by
  have f:a.set b ⟨a[b].ps,Xr (renI top) 0 a[b].is,a[b].te⟩=a:=by
   rw[Tf];exact fK hb
  rw[f];exact aq)⟩ ?_
 clear aq F hM;rintro U wr ⟨⟨j,J,z⟩,rfl,F,hj,l⟩;dsimp only at F hj l |-
 conv=>arg 2;whnf
 obtain⟨bf,rfl⟩:=bh z F;clear F;have x:b<(a.set b ⟨a[b].ps,Xr (renI top) j a[b].is,a[b].te⟩).length:=by simpa using hb
 have O:(a.set b ⟨a[b].ps,Xr (renI top) j a[b].is,a[b].te⟩)[b]=⟨a[b].ps,Xr (renI top) j a[b].is,a[b].te⟩:=Xj _ _ _ _;have bl:b<n:=oN hn.out
 have Y:(a.set b ⟨a[b].ps,Xr (renI top) j a[b].is,a[b].te⟩)[b].is.length=M:=by rw[O];exact(Ys _ _).trans S.symm
 obtain⟨ga,V,y⟩:=(l.fn.ins b x).form;rw[Y]at y;have x1:Cl wr w.heap.size 1 (.slice (some ⟨G,0,none⟩) n c):=Bx.cell l.box rfl;have x2:wr.cell? ⟨G,b*6+1,none⟩=some (.slice ga M V):=by rw[<-y];exact(l.fn.cells x).2.1
 have bi:M<=1000:=oP ba.out S.out
 by_cases bb:j<M
 ·have bc:(j:Int)<M:=oM
  have a0:j<a[b].is.length:=by rw[<-S.out];exact bb
  have ay:j<(a.set b ⟨a[b].ps,Xr (renI top) j a[b].is,a[b].te⟩)[b].is.length:=oM;have a2:(a.set b ⟨a[b].ps,Xr (renI top) j a[b].is,a[b].te⟩)[b].is[j]=a[b].is[j]:=by simp only[O];exact Vw a0 _
  obtain⟨g,bd,a1⟩:=(l.fn.ins b x).got oM;rw[Y,y]at a1;injection a1 with e1 _ e3;subst e1 e3;have al:Hid (∀W,KG w W h e v G n c (a.set b ⟨a[b].ps,Xr (renI top) j a[b].is,a[b].te⟩) k i av->ZU (Wn W g (j*5) (renI top a[b].is[j])) h e (.slice (some ⟨G,0,none⟩) n c) (a.set b ⟨a[b].ps,Xr (renI top) (j+1) a[b].is,a[b].te⟩) k i av/\h g=(3,b,0)/\Jk W g (j*5) a[b].is[j]/\(∀q,W.frozen? ⟨g,q,none⟩=false)/\e<=g):=Xa (fun W K=>by
   obtain⟨h1,h2,h3,h4⟩:=K.fn.setIns (x:=renI top a[b].is[j]) x ay y;rw[a2]at h3;rw[gE,O]at h1;simp only[TR a0]at h1;exact⟨h1,h2,h3,h4,((K.fn.ins b x).own.lt g (by rw[y];rfl)).1⟩)
  obtain⟨-,-,⟨i0,i1,i2,i3,i4⟩,-,-⟩:=al wr l;have a3:Hid (∀W,KG w W h e v G n c (a.set b ⟨a[b].ps,Xr (renI top) j a[b].is,a[b].te⟩) k i av->W.cell? ⟨w.heap.size,1,none⟩=some (.slice (some ⟨G,0,none⟩) n c)/\W.cell? ⟨G,b*6+1,none⟩=some (.slice (some ⟨g,0,none⟩) M V)):=Xa (fun W K=>⟨Bx.cell K.box rfl,by rw[<-y];exact(K.fn.cells x).2.1⟩);clear O y Y ay x a2;generalize a[b].is[j]=X at *
  go_wp2_with fail
  have Z:=Xa (l.alloc (.cells #[.int .i64 X.op,.int .i64 X.dst,.int .i64 X.a,.int .i64 X.b,.int .i64 X.imm] 98));have I:Hid (VV (wr.alloc (.cells #[.int .i64 X.op,.int .i64 X.dst,.int .i64 X.a,.int .i64 X.b,.int .i64 X.imm] 98)) wr.heap.size X):=Xa (Bx.new _ _ _);have Q:Hid (w.heap.size+2<=wr.heap.size):=Xa l.res.lt;clear l x1 x2 i0 i1 i2 i3 i4;generalize wr.alloc _=wq at *;generalize wr.heap.size=d at *;refine(dg X.op wq).mono ?_;rintro f bm ⟨rfl,N⟩;subst N
  go_upto_if 115 with fail
  go_cut [] from 93 to 145 (fun A=>Hid (KG w A h e v G n c (a.set b ⟨a[b].ps,Xr (renI top) j a[b].is,a[b].te⟩) k i av)/\Hid (VV A d ⟨X.op,(if dB X.op=true then wrap64 (top-X.dst)else X.dst),X.a,X.b,X.imm⟩))
  case first =>
   obtain⟨o,p,r,s,u⟩:=VV.cells I;have bz:=Bx.thaw I;cases hd:dB X.op with
   | false =>
    go_wp2
    go_meet
    try rw[aM (show ¬dB X.op=true by rw[hd];simp)]
    exact⟨Z,I⟩
   | true =>
    go_wp2
    go_meet;rw[aU hd];refine⟨Xa (Z.putx Q),Xa ?_⟩;exact VV.set1 I _
  case rest =>
   obtain⟨aa,B⟩:=hcut;clear Z I;obtain⟨o,p,r,s,u⟩:=VV.cells B
   go_wp2_with fail
   refine(fy X.op wc).mono ?_;rintro f bn ⟨rfl,N⟩;subst N;clear o p r s u
   go_upto_if 123 with fail
   go_cut [] from 93 to 145 (fun A=>Hid (KG w A h e v G n c (a.set b ⟨a[b].ps,Xr (renI top) j a[b].is,a[b].te⟩) k i av)/\Hid (VV A d ⟨X.op,(if dB X.op=true then wrap64 (top-X.dst)else X.dst),(if aB X.op=true then wrap64 (top-X.a)else X.a),X.b,X.imm⟩))
   case first =>
    obtain⟨o,p,r,s,u⟩:=VV.cells B;have bz:=Bx.thaw B;cases hd:aB X.op with
    | false =>
     go_wp2
     go_meet
     try rw[aM (show ¬aB X.op=true by rw[hd];simp)]
     exact⟨aa,B⟩
    | true =>
     go_wp2
     go_meet;rw[aU hd];refine⟨Xa (aa.putx Q),Xa ?_⟩;exact VV.set2 B _
   case rest =>
    obtain⟨ab,C⟩:=hcut;clear aa B;obtain⟨o,p,r,s,u⟩:=VV.cells C
    go_wp2_with fail
    refine(j5 X.op wc).mono ?_;rintro f bo ⟨rfl,N⟩;subst N;clear o p r s u
    go_upto_if 131 with fail
    go_cut [] from 93 to 145 (fun A=>Hid (KG w A h e v G n c (a.set b ⟨a[b].ps,Xr (renI top) j a[b].is,a[b].te⟩) k i av)/\Hid (VV A d ⟨X.op,(if dB X.op=true then wrap64 (top-X.dst)else X.dst),(if aB X.op=true then wrap64 (top-X.a)else X.a),(if bB X.op=true then wrap64 (top-X.b)else X.b),X.imm⟩))
    case first =>
     obtain⟨o,p,r,s,u⟩:=VV.cells C;have bz:=Bx.thaw C;cases hd:bB X.op with
     | false =>
      go_wp2
      go_meet
      try rw[aM (show ¬bB X.op=true by rw[hd];simp)]
      exact⟨ab,C⟩
     | true =>
      go_wp2
      go_meet;rw[aU hd];refine⟨Xa (ab.putx Q),Xa ?_⟩;exact VV.set3 C _
    case rest =>
     obtain⟨D,aj⟩:=hcut;clear ab C;have a7:Hid (renI top X=⟨X.op,(if dB X.op=true then wrap64 (top-X.dst)else X.dst),(if aB X.op=true then wrap64 (top-X.a)else X.a),(if bB X.op=true then wrap64 (top-X.b)else X.b),X.imm⟩):=Xa rfl;rw[<-a7.out]at aj;obtain⟨o,p,r,s,u⟩:=VV.cells aj;obtain⟨ax,L,⟨i0,i1,i2,i3,i4⟩,hz,E⟩:=al wc D;obtain⟨x1,x2⟩:=a3 wc D;have ac:=Xa ax;have a9:d≠g:=fun f=>by have:=D.fr d (oN Q.out);rw[f,L]at this;simp at this
     have af:Hid (w.heap.size≠g/\G≠g):=Xa ⟨fun f=>by have:=D.fr w.heap.size (aA _);rw[f,L]at this;simp at this,fun f=>by have:=D.fn.blks.lab G rfl;rw[f,L]at this;simp at this⟩;have a5:=Xa L;generalize renI top X=R at *;have a6:Hid ((((((wc.setCell ⟨g,j*5,none⟩ (.int .i64 R.op)).setCell ⟨g,j*5+1,none⟩ (.int .i64 R.dst)).setCell ⟨g,j*5+2,none⟩ (.int .i64 R.a)).setCell ⟨g,j*5+3,none⟩ (.int .i64 R.b)).setCell ⟨g,j*5+4,none⟩ (.int .i64 R.imm)).drew.cell? ⟨w.heap.size,1,none⟩=some (.slice (some ⟨G,0,none⟩) n c)/\(((((wc.setCell ⟨g,j*5,none⟩ (.int .i64 R.op)).setCell ⟨g,j*5+1,none⟩ (.int .i64 R.dst)).setCell ⟨g,j*5+2,none⟩ (.int .i64 R.a)).setCell ⟨g,j*5+3,none⟩ (.int .i64 R.b)).setCell ⟨g,j*5+4,none⟩ (.int .i64 R.imm)).drew.cell? ⟨G,b*6+1,none⟩=some (.slice (some ⟨g,0,none⟩) M V)/\(((((wc.setCell ⟨g,j*5,none⟩ (.int .i64 R.op)).setCell ⟨g,j*5+1,none⟩ (.int .i64 R.dst)).setCell ⟨g,j*5+2,none⟩ (.int .i64 R.a)).setCell ⟨g,j*5+3,none⟩ (.int .i64 R.b)).setCell ⟨g,j*5+4,none⟩ (.int .i64 R.imm)).drew.cell? ⟨d,0,none⟩=some (.int .i64 R.op)/\(((((wc.setCell ⟨g,j*5,none⟩ (.int .i64 R.op)).setCell ⟨g,j*5+1,none⟩ (.int .i64 R.dst)).setCell ⟨g,j*5+2,none⟩ (.int .i64 R.a)).setCell ⟨g,j*5+3,none⟩ (.int .i64 R.b)).setCell ⟨g,j*5+4,none⟩ (.int .i64 R.imm)).drew.cell? ⟨d,1,none⟩=some (.int .i64 R.dst)/\(((((wc.setCell ⟨g,j*5,none⟩ (.int .i64 R.op)).setCell ⟨g,j*5+1,none⟩ (.int .i64 R.dst)).setCell ⟨g,j*5+2,none⟩ (.int .i64 R.a)).setCell ⟨g,j*5+3,none⟩ (.int .i64 R.b)).setCell ⟨g,j*5+4,none⟩ (.int .i64 R.imm)).drew.cell? ⟨d,2,none⟩=some (.int .i64 R.a)/\(((((wc.setCell ⟨g,j*5,none⟩ (.int .i64 R.op)).setCell ⟨g,j*5+1,none⟩ (.int .i64 R.dst)).setCell ⟨g,j*5+2,none⟩ (.int .i64 R.a)).setCell ⟨g,j*5+3,none⟩ (.int .i64 R.b)).setCell ⟨g,j*5+4,none⟩ (.int .i64 R.imm)).drew.cell? ⟨d,3,none⟩=some (.int .i64 R.b)/\(((((wc.setCell ⟨g,j*5,none⟩ (.int .i64 R.op)).setCell ⟨g,j*5+1,none⟩ (.int .i64 R.dst)).setCell ⟨g,j*5+2,none⟩ (.int .i64 R.a)).setCell ⟨g,j*5+3,none⟩ (.int .i64 R.b)).setCell ⟨g,j*5+4,none⟩ (.int .i64 R.imm)).drew.cell? ⟨d,4,none⟩=some (.int .i64 R.imm)):=Xa (by
      have kk:∀q,q≠g->(((((wc.setCell ⟨g,j*5,none⟩ (.int .i64 R.op)).setCell ⟨g,j*5+1,none⟩ (.int .i64 R.dst)).setCell ⟨g,j*5+2,none⟩ (.int .i64 R.a)).setCell ⟨g,j*5+3,none⟩ (.int .i64 R.b)).setCell ⟨g,j*5+4,none⟩ (.int .i64 R.imm)).drew.heap[q]?=wc.heap[q]?:=fun q hq=>by
       show(((((wc.setCell ⟨g,j*5,none⟩ (.int .i64 R.op)).setCell ⟨g,j*5+1,none⟩ (.int .i64 R.dst)).setCell ⟨g,j*5+2,none⟩ (.int .i64 R.a)).setCell ⟨g,j*5+3,none⟩ (.int .i64 R.b)).setCell ⟨g,j*5+4,none⟩ (.int .i64 R.imm)).heap[q]?=wc.heap[q]?;rw[Below.heap_setCell _ _ _ _ hq,Below.heap_setCell _ _ _ _ hq,Below.heap_setCell _ _ _ _ hq,Below.heap_setCell _ _ _ _ hq,Below.heap_setCell _ _ _ _ hq]
      have n1:=kk _ af.1;have n2:=kk _ af.2;have P:=kk _ a9;exact⟨(Xc n1).trans x1,(Xc n2).trans x2,(Xc P).trans o,(Xc P).trans p,(Xc P).trans r,(Xc P).trans s,(Xc P).trans u⟩)
     have ad:Hid (KG w (Wn wc g (j*5) R) h e v G n c (a.set b ⟨a[b].ps,Xr (renI top) (j+1) a[b].is,a[b].te⟩) k i av):=Xa (D.step ac (fun q _ f=>by
      have hq:q≠g:=fun e2=>by rw[e2,a5.out]at f;simp at f
      unfold Wn;rw[Below.heap_setCell _ _ _ _ hq,Below.heap_setCell _ _ _ _ hq,Below.heap_setCell _ _ _ _ hq,Below.heap_setCell _ _ _ _ hq,Below.heap_setCell _ _ _ _ hq]) (((((((Below.refl e wc).setCell (p:=⟨g,j*5,none⟩) E _).setCell (p:=⟨g,j*5+1,none⟩) E _).setCell (p:=⟨g,j*5+2,none⟩) E _).setCell (p:=⟨g,j*5+3,none⟩) E _).setCell (p:=⟨g,j*5+4,none⟩) E _)))
     unfold Wn at ad;clear ax L E ac
     go_wp2_with fail
     refine Y7 (fun m=>m.cell? ⟨w.heap.size,1,none⟩=some (.slice (some ⟨G,0,none⟩) n c)/\m.cell? ⟨G,b*6+1,none⟩=some (.slice (some ⟨g,0,none⟩) M V)/\m.cell? ⟨d,0,none⟩=some (.int .i64 R.op)/\m.cell? ⟨d,1,none⟩=some (.int .i64 R.dst)/\m.cell? ⟨d,2,none⟩=some (.int .i64 R.a)/\m.cell? ⟨d,3,none⟩=some (.int .i64 R.b)/\m.cell? ⟨d,4,none⟩=some (.int .i64 R.imm)) (fun hHeld=>?_);refine X0 0 ?_;refine X0 1 ?_;refine X0 2 ?_;refine X0 3 ?_;refine X0 4 ?_;refine X0 5 ?_;refine X0 6 ?_;refine Xs 7 (fun a8 hK=>?_);go_simp;refine hK _ _ kP (fun hHeld=>?_);clear hK;refine X0 8 ?_;refine Xs 9 (fun a8 hK=>?_);go_simp;refine hK _ _ a6 (fun hHeld=>?_);clear hK;refine Yq ?_;clear hHeld
     go_wp2_with fail
     refine⟨⟨⟨j+1,_,_⟩,rfl,rfl,(by show j+1<=M;omega),Xa ?_⟩,by simp[intOf];omega⟩;exact ad.drew
 ·have bc:¬(j:Int)<M:=oM
  have az:j=a[b].is.length:=by rw[<-S.out];omega
  have a4:Hid (KG w wr h e v G n c (a.set b ⟨a[b].ps,a[b].is.map (renI top),a[b].te⟩) k i av):=Xa (by
   have:=l.out;rw[az,Uj]at this;exact this)
  clear az O y x Y
  go_wp2_with fail
  exact HX _ _ _ _ rfl a4
structure Y1 where
 b:Nat
 c5:Value
 c6:Value
 c7:Value
 c8:Value
 tl:List Value
theorem rn1{Q:Exit->Act->World->Prop}(w:World)(i:Nat->Nat × Nat × Nat)(f v G n c:Nat)(a:List Xe)(j g:Nat->Value)(av:Nat->Nat->Value)(top:Int)(c0 c2:Value)(hQ:Hid (∀c (m:Act) z v w,Q (.panic c) (m.put (some z) v) w->Q (.panic c) m w))(E:Hid (n=a.length))(aq:n<=11)(af:Hid (∀x∈a,x.ps.length<=1000/\(∀al∈x.ps,al.args.length<=1000)/\x.is.length<=1000))
 (T:∀(c5 o p q:Value)(e:List Value)(J:World),e.length=161->KG w J i f v G n c (a.map (Jp top)) j g av->Q (.exit 0) ⟨(c0::.pointer (some ⟨w.heap.size,0,none⟩)::c2::.int .i64 top::.int .i64 ((n:Nat):Int)::c5::o::p::q::e).toArray,[]⟩ J)
 (c5 o p q:Value) (e:List Value) (wr:World) (d:e.length=161) (h:Hid (KG w wr i f v G n c a j g av)) :
 Code.wp prog (Code.loop rB1) Q ⟨(c0::.pointer (some ⟨w.heap.size,0,none⟩)::c2::.int .i64 top::.int .i64 ((0:Nat):Int)::c5::o::p::q::e).toArray,[]⟩ wr:=by
 have HX:=Xa T;clear T;refine iY (fun A wr=>∃x:Y1,A=⟨(c0::.pointer (some ⟨w.heap.size,0,none⟩)::c2::.int .i64 top::.int .i64 ((x.b:Nat):Int)::x.c5::x.c6::x.c7::x.c8::x.tl).toArray,[]⟩/\x.tl.length=161/\x.b<=n/\Hid (KG w wr i f v G n c (Xr (Jp top) x.b a) j g av)) (fun A _=>n-(intOf (A.tmps.getD 4 undef)).toNat) ⟨⟨0,c5,o,p,q,e⟩,rfl,d,aN _,Xa (by rw[Tf];exact h)⟩ ?_;clear h d;rintro A wr ⟨⟨b,c5,o,p,q,e⟩,rfl,d,hb,u⟩;dsimp only at d hb u |-
 conv=>arg 2;whnf
 obtain⟨S,rfl⟩:=bh e d;clear d;have N:Cl wr w.heap.size 1 (.slice (some ⟨G,0,none⟩) n c):=Bx.cell u.box rfl;by_cases ap:b<n
 ·have aj:(b:Int)<n:=oM
  have C:b<a.length:=oN E.out
  have r:b<(Xr (Jp top) b a).length:=by rw[Ys];exact C
  have I:=Vw C r;have L:=Xa (af.out _ (aH C))
  go_wp2_with fail
  refine rn2 w i f v G n c (Xr (Jp top) b a) j g av top b _ _ _ _ (by exact Xa (fun c m z v w h=>hQ c m z v w h)) r (Xa (by rw[Ys];exact E)) (Xa (by rw[I];exact⟨L.1,L.2.1⟩)) ?_ _ _ _ (by rfl) u;intro c5 o e w1 d l;obtain⟨S,rfl⟩:=bh e d;clear d u N;rw[I]at l;have R:=Xa l;clear l
  go_wp2_with fail
  have M:b<((Xr (Jp top) b a).set b ⟨a[b].ps.map (Ym top),a[b].is,a[b].te⟩).length:=by rw[bL];exact r
  have F:((Xr (Jp top) b a).set b ⟨a[b].ps.map (Ym top),a[b].is,a[b].te⟩)[b]=⟨a[b].ps.map (Ym top),a[b].is,a[b].te⟩:=Xj _ _ _ _;refine rn4 w i f v G n c ((Xr (Jp top) b a).set b ⟨a[b].ps.map (Ym top),a[b].is,a[b].te⟩) j g av top b _ _ _ _ (by exact Xa (fun c m z v w h=>hQ c m z v w h)) M (Xa (by rw[bL,Ys];exact E)) (Xa (by rw[F];exact L.2.2)) ?_ _ _ _ (by rfl) R;intro p q e K d l;obtain⟨S,rfl⟩:=bh e d;clear d R;rw[F,gE]at l;have k:=Xa l;clear l;have B:b<((Xr (Jp top) b a).set b ⟨a[b].ps.map (Ym top),a[b].is.map (renI top),a[b].te⟩).length:=by rw[bL];exact r
  have H:((Xr (Jp top) b a).set b ⟨a[b].ps.map (Ym top),a[b].is.map (renI top),a[b].te⟩)[b]=⟨a[b].ps.map (Ym top),a[b].is.map (renI top),a[b].te⟩:=Xj _ _ _ _;obtain⟨-,-,W,X,-,-⟩:=k.fn.cells B;rw[H]at W X;dsimp only at W X;have N:Cl K w.heap.size 1 (.slice (some ⟨G,0,none⟩) n c):=Bx.cell k.box rfl;have P:Hid ((Xr (Jp top) b a).set b (Jp top a[b])=Xr (Jp top) (b+1) a):=Xa (TR C);obtain⟨D,U,hz⟩:=k.fn.setTerA (d:=wrap64 (top-a[b].te.a)) B;rw[H,gE]at D;have ac:=(k.fn.blks.own.lt G rfl).1;have O:=Xa (k.put D (by rw[U];simp) ac);have Z:Hid (∀Y,(K.setCell ⟨G,b*6+2+1,none⟩ Y).cell? ⟨w.heap.size,1,none⟩=some (.slice (some ⟨G,0,none⟩) n c)):=Xa (fun Y=>by
   have V:=k.fr w.heap.size (aA _);have n1:w.heap.size≠G:=fun y=>by rw[y,U]at V;simp at V
   exact(Xc (Below.heap_setCell _ _ _ _ n1)).trans N)
  by_cases s:a[b].te.kind=1
  ·have ad:(a[b].te.kind != 1)=false:=by simpa using s
   have t:Hid (KG w K i f v G n c (Xr (Jp top) (b+1) a) j g av):=Xa (by
    have y:Jp top a[b]=⟨a[b].ps.map (Ym top),a[b].is.map (renI top),a[b].te⟩:=by
     unfold Jp km;rw[aM (fun h=>h s)];rfl
    rw[<-P.out,y];exact k)
   clear s D F H I M B r;generalize a[b].te.kind=kd at *
   go_wp2
   exact⟨⟨⟨b+1,_,_,_,_,_⟩,⟨(by show(b:Int)+1=((b+1:Nat):Int);omega),rfl,rfl,rfl,rfl,rfl⟩,rfl,(by show b+1<=n;omega),t⟩,by simp[intOf];omega⟩
  ·have ad:(a[b].te.kind != 1)=true:=by simpa using s
   have t:Hid (KG w (K.setCell ⟨G,b*6+3,none⟩ (.int .i64 (wrap64 (top-a[b].te.a)))) i f v G n c (Xr (Jp top) (b+1) a) j g av):=Xa (by
    have y:Jp top a[b]=⟨a[b].ps.map (Ym top),a[b].is.map (renI top),⟨a[b].te.kind,wrap64 (top-a[b].te.a),a[b].te.to,a[b].te.els⟩⟩:=by
     unfold Jp km;rw[aU s];rfl
    rw[<-P.out,y];exact O)
   clear s D F H I M B r O;generalize a[b].te.kind=kd at *;generalize a[b].te.a=ta at *
   go_wp2_with fail
   refine Y7 (fun J=>J.cell? ⟨w.heap.size,1,none⟩=some (.slice (some ⟨G,0,none⟩) n c)) (fun hHeld=>?_);refine X0 0 ?_;refine X0 1 ?_;refine X0 2 ?_;refine X0 3 ?_;refine X0 4 ?_;refine X0 5 ?_;refine X0 6 ?_;refine X0 7 ?_;refine X0 8 ?_;refine X0 9 ?_;refine Xs 10 (fun aa hK=>?_);go_simp;refine hK _ _ kP (fun hHeld=>?_);clear hK;refine X0 11 ?_;refine X0 12 ?_;refine X0 13 ?_;refine X0 14 ?_;refine Xs 15 (fun aa hK=>?_);go_simp;refine hK _ _ (Z _) (fun hHeld=>?_);clear hK;refine Yq ?_;clear hHeld
   go_wp2_with fail
   refine⟨⟨⟨b+1,_,_,_,_,_⟩,rfl,rfl,(by show b+1<=n;omega),Xa ?_⟩,by simp[intOf];omega⟩;exact t.drew
 ·have aj:¬(b:Int)<n:=oM
  have ab:b=n:=oM;subst ab;have t:Hid (KG w wr i f v G b c (a.map (Jp top)) j g av):=Xa (by
   have:=u.out;rw[<-Uj,<-E.out];exact this)
  go_wp2_with fail
  exact HX _ _ _ _ _ _ rfl t
theorem tF:Cj:=by
 intro v G n c r e i q p av w hF u k t x N y;have l:Hid (KG w ((w.alloc (.cells #[.int .i64 (v:Int),.slice (some ⟨G,0,none⟩) n c] 25)).alloc (.cells #[.int .i64 0,.slice none 0 0] 25)) e i v G n c r q p av):=Xa (by
  have z:XW w ((w.alloc (.cells #[.int .i64 (v:Int),.slice (some ⟨G,0,none⟩) n c] 25)).alloc (.cells #[.int .i64 0,.slice none 0 0] 25)) e e i (fun _=>True):=((XW.box _).trans (XW.box _)).weak (fun _ _=>⟨trivial,trivial⟩);refine⟨hF.sp z 0 (fun _ _ _ _ _=>trivial) (bC (fun _ _=>trivial)),Below.alloc (Below.alloc (Below.refl _ _) k _) (by simp;omega) _,fun b d _=>(Below.heap_alloc _ _ _ (by simp;omega)).trans (Below.heap_alloc _ _ _ d),t,k,(Bx.new _ _ _).box _,?_⟩;have:=Bx.new (w.alloc (.cells #[.int .i64 (v:Int),.slice (some ⟨G,0,none⟩) n c] 25)) #[.int .i64 0,.slice none 0 0] 25;rwa[aO]at this)
 clear hF
 go_in
 have E:((w.alloc (.cells #[.int .i64 (v:Int),.slice (some ⟨G,0,none⟩) n c] 25)).alloc (.cells #[.int .i64 0,.slice none 0 0] 25)).cell? ⟨w.heap.size,0,none⟩=some (.int .i64 (v:Int)):=Bx.cell l.box rfl
 go_wp2_with fail
 generalize (w.alloc _).alloc _=P at *;refine rn1 w e i v G n c r q p av ((v:Int)-1) _ _ (by exact Xa (fun c F O v w s=>s)) u x y ?_ _ _ _ _ _ _ (by rfl) l;intro c5 H I J D f h o;obtain⟨K,rfl⟩:=bh D h;clear h l E;have a:=Xa o;clear o;have L:Cl f w.heap.size 0 (.int .i64 (v:Int)):=Bx.cell a.box rfl;have f1:Cl f w.heap.size 1 (.slice (some ⟨G,0,none⟩) n c):=Bx.cell a.box rfl;have B:Cl f (w.heap.size+1) 0 (.int .i64 0):=Bx.cell a.res rfl;have C:Cl f (w.heap.size+1) 1 (.slice none 0 0):=Bx.cell a.res rfl;have rz:=Bx.thaw a.res;go_wp2;refine cC (v:=.agg #[.int .i64 (v:Int),.slice (some ⟨G,0,none⟩) n c]) (by simp[results,results71,go_sem,B,C]) rfl ⟨rfl,?_,?_,?_,?_⟩
 ·exact a.bel.trans (((Below.refl i f).setCell (p:=⟨w.heap.size+1,0,none⟩) (Nat.le_succ_of_le k) _).setCell (p:=⟨w.heap.size+1,1,none⟩) (Nat.le_succ_of_le k) _)
 ·have h:=a.fr (w.heap.size+1) (gX _)
  have A:XW f ((f.setCell ⟨w.heap.size+1,0,none⟩ (.int .i64 (v:Int))).setCell ⟨w.heap.size+1,1,none⟩ (.slice (some ⟨G,0,none⟩) n c)) e e i (fun b=>b≠w.heap.size+1):=((XW.put _ _ _).trans (XW.put _ _ _)).weak (fun _ d=>⟨d,d⟩);have j:∀b,(e b).1≠0->b≠w.heap.size+1:=fun b m g=>m (by rw[g,h])
  exact a.fn.sp A 0 (fun b m _ _ _=>j b m) (bC (fun b g=>j b (by rcases g with g | g<;>rw[g]<;>simp)))
 ·intro b d h
  have j:b≠w.heap.size+1:=oM;exact((Below.heap_setCell _ _ _ _ j).trans (Below.heap_setCell _ _ _ _ j)).trans (a.kept b d h)
 ·intro b d
  have M:=a.res.lt;exact a.fr b (by simp[World.setCell]at d;omega)
theorem yP(hT:Hid q8)(j B:Nat)(s:Sr)(l:Bool)(w:World)(h:Hid (ZQ w j B s)) :
 Calls prog 31 #[.pointer (some ⟨j,0,none⟩),.bool l] w fun e w'=>∃af I n g pv iv av,e=.returned (.agg #[.int .i64 (XM s l).1.values,.slice (some ⟨I,0,none⟩) n g])/\ZQ w' j B (XM s l).2/\w.grownBy w' (some j)/\ZU w' af w.heap.size (.slice (some ⟨I,0,none⟩) n g) (XM s l).1.blocks pv iv av/\(∀b,w'.heap.size<=b->af b=(0,0,0))/\n=(XM s l).1.blocks.length/\1<=n/\n<=11/\(∃V:Nat,(XM s l).1.values=(V:Int)/\V<=1000)/\Kg (XM s l).1.blocks/\PhA (XM s l).1.blocks:=by
 obtain⟨i0,gb,gv,gx,gz⟩:=Xq Tryz.infoBlkD;obtain⟨j0,gc,gr,gs,gt⟩:=Xq Tryz.info2';have fz:=Xa h.sB;have a2:=Xa (h.box (.cells #[.int .i64 0,.slice none 0 0] 25));have M:Hid (Bx (w.alloc (.cells #[.int .i64 0,.slice none 0 0] 25)) w.heap.size #[.int .i64 0,.slice none 0 0] 25):=Xa (Bx.new _ _ _);have cl:=Xa (bW w (.cells #[.int .i64 0,.slice none 0 0] 25) (some j));have bd:Hid (j<w.heap.size):=Xa (oP h.bB h.sB);have f7:=a2.src.c3;have gp:=a2.ok.size;clear h
 go_in
 go_wp2_with fail
 generalize w.alloc _=w0 at *;refine(XC j B s (3+s.size) w0 a2 oM oM).mono ?_;rintro e w1 ⟨rfl,d,k⟩;have ba:=XE s (n:=3+s.size) oM;obtain⟨r1,s1,r⟩:∃S s',nextP s (3+s.size)=(S,s'):=⟨_,_,rfl⟩;rw[r]at d ba |-;dsimp only at d ba |-;obtain⟨a0,rfl⟩:=Zv ba.1;have ey:=Xa r;have ch:=Xa d;have cw:=Xa (M.grown k (by have:=bd.out;intro e;injection e;omega));have cp:=Xa (Y5 cl k);clear d k r a2 M cl f7;have hm:a0<=9:=oM;clear ba gp
 go_wp2_with fail
 refine(XC j B s1 2 w1 ch oM oM).mono ?_;rintro e w2 ⟨rfl,d,k⟩;obtain⟨r2,s2,r⟩:∃S s',nextP s1 2=(S,s'):=⟨_,_,rfl⟩;rw[r]at d |-;dsimp only at d |-;have ez:=Xa r;have cj:=Xa d;have cx:=Xa (cw.grown k (by have:=bd.out;intro e;injection e;omega));have bp:=Xa (Y5 cp k);clear d k r ch cw cp;have b8:(1:Int)+(a0:Int)=((a0+1:Nat):Int):=oM;obtain⟨n,hn⟩:∃n,n=a0+1:=⟨_,rfl⟩;rw[<-hn]at b8;have bb:1<=n:=oM;have j2:n<=10:=oM;have HN:=Xa hn;clear hn;rw[b8];clear b8;obtain⟨v,d4⟩:∃v,(r2==0)=v:=⟨_,rfl⟩;have er:=Xa d4
 go_wp2_with fail
 clear d4;refine(xQ j B s2 n w2 cj bb oM).mono ?_;rintro e w3 ⟨ee,rfl,d,k,ho⟩;have Y:=pE n n 0 s2 [];have az:=pH n n 0 s2 [] rfl oM (fun kc hj=>absurd hj sP);obtain⟨a,s3,r⟩:∃S s',JB n n 0 s2 []=(S,s'):=⟨_,_,rfl⟩;rw[r]at d ho Y az;dsimp only at d ho Y az;rw[bO,aV]at Y;have e0:=Xa r;have c7:=Xa az;have cz:=Xa Y;obtain⟨m,g,rfl,ax,ga⟩:=Xm ho oM;have gq:=bp.size;have cs:Hid (w3.ownsRow w.heap.size 90 6 (.slice (some ⟨m,0,none⟩) n g) (a.map Yt).length (XF Zz Zz (a.map Yt))):=Xa (by
  have:=Zk ho (show w.heap.size<=w2.heap.size+2 by omega);rw[bK,Y];exact this)
 have ck:=Xa d;have bt:=Xa (cx.grown k (by have:=bd.out;intro e;injection e;omega));have cq:=Xa (Y5 bp k);have ct:=Xa (ry Y bb oM az);have HX:Hid (n=(a.map Yt).length):=Xa (by simp[Y]);clear d k r ho Y az ax ga gq cj cx bp
 go_wp2_with fail
 have br:=Xa (cs.alloc (.cells #[.int .i64 0,.slice (some ⟨m,0,none⟩) n g] 25));have bn:=Xa (ck.box (.cells #[.int .i64 0,.slice (some ⟨m,0,none⟩) n g] 25));have bv:=Xa (bt.box (.cells #[.int .i64 0,.slice (some ⟨m,0,none⟩) n g] 25));have bo:Hid (Bx (w3.alloc (.cells #[.int .i64 0,.slice (some ⟨m,0,none⟩) n g] 25)) w3.heap.size #[.int .i64 0,.slice (some ⟨m,0,none⟩) n g] 25):=Xa (Bx.new _ _ _);have T:=Xa (Y5 cq (bW w3 (.cells #[.int .i64 0,.slice (some ⟨m,0,none⟩) n g] 25) (some j)));have ek:=Xa bt.lt;clear cs ck bt cq;generalize w3.alloc _=w4 at *;generalize w3.heap.size=f at *;have cf:=Xa (BZ br (KD a));refine(wL 0 (some ⟨m,0,none⟩) n g (a.map Yt) w.heap.size w4.heap.size w4 cf HX (aA _) ct).mono ?_;rintro e w5 ⟨da,dc,rfl,dn,du⟩;have cr:=Xa (vK da n dc ((List.range n).map (Zq (X8 (a.map Yt)) n)) w4.heap.size w5.heap.size w5 (Xa (by rw[jO];exact du)) (Xa sP) oM (aA _) (Xa (fun kd O=>by
  obtain⟨b,_,rfl⟩:=aY.1 O;exact⟨aJ (j9 n b) oM,fun di ha=>(Jo.1 ha).1⟩)))
 have bm:=Xa dn;clear dn du cf
 go_wp2_with fail
 refine cr.mono ?_;rintro e P ⟨v6,rfl,ds,bc⟩;have d1:(List.range n).map (idomP ((List.range n).map (Zq (X8 (a.map Yt)) n)))=Ke (a.map Yt):=by unfold Ke;rw[<-HX.out]
 rw[d1]at bc;have K:=Xa (Xg bm ds);have U:Hid (GoP w P j B s3 f (.slice (some ⟨m,0,none⟩) n g) (a.map Yt) v6 (Ke (a.map Yt))):=Xa ⟨bn.keep (K.mono bn.sB),⟨K.os.trans T.os,K.tape.trans T.tape,K.output.trans T.output,aJ T.size K.size,fun b q h2=>(K.block b (aX q T.size)).trans (T.block b q h2)⟩,fz,bv.keep (K.block _ bv.lt),bo.keep (K.block _ bo.lt),ek,tP br K,by
  rw[jd,<-HX.out];exact Zk bc (aJ T.size bm.size),KD a⟩
 obtain⟨gi,ci,rfl⟩:∃m g,v6=.slice (some ⟨m,0,none⟩) n g:=by
  obtain⟨g6,c6,e,_⟩:=Xm bc oM;exact⟨_,_,e⟩
 clear bc d1 cr ds bm K br bn bv bo T
 go_upto_if 41 with fail
 go_cut [8,9] from 24 to 61 (fun c8 _ wx=>∃(g' n' R g1 g2:Nat),c8=.slice (some ⟨g1,0,none⟩) n' g2/\Hid (GoP w wx j B (ZI l n a s3).2.2 f (.slice (some ⟨g',0,none⟩) n' R) ((ZI l n a s3).1.map Yt) c8 (ZI l n a s3).2.1))
 case first =>
  cases l with
  | false =>
   go_wp2
   go_meet;exact⟨m,n,g,gi,ci,rfl,U⟩
  | true =>
   have aa:Hid (ZI true n a s3=if 1<n then (a++[⟨1,0,1+(nextP s3 ((n:Int)-1)).1,0⟩],Ke (a.map Yt)++[0],(nextP s3 ((n:Int)-1)).2)else (a++[⟨3,0,0,0⟩],Ke (a.map Yt)++[0],s3)):=Xa rfl;have ap:Hid ((a.map Yt).length=n/\(Ke (a.map Yt)).length=n):=Xa ⟨HX.symm,(jd _).trans HX.symm⟩
   go_upto_if 44 with fail
   have a5:=Xa (U.box (.cells #[.int .i64 3,.int .i64 0,.int .i64 0,.int .i64 0] 88));have HT:Hid (UK (P.alloc (.cells #[.int .i64 3,.int .i64 0,.int .i64 0,.int .i64 0] 88)) P.heap.size ⟨3,0,0,0⟩):=Xa (Bx.new _ _ _);have dl:Hid (w.heap.size<P.heap.size/\P.heap.size≠f/\P.heap.size≠m/\P.heap.size≠gi/\j≠P.heap.size):=Xa (by
    have q:=U.res.lt;have h2:=U.fbx.lt;have h3:=(U.bl.lt m rfl).2;have h4:=(U.id.lt gi rfl).2;have h5:=bd.out;omega)
   clear U;generalize P.alloc _=wt at *;generalize P.heap.size=tb at *
   go_cut [] from 24 to 61 (fun wx=>∃(tt:Yj)(t:Sr),Hid (ZI true n a s3=(a++[tt],Ke (a.map Yt)++[0],t))/\Hid (GoP w wx j B t f (.slice (some ⟨m,0,none⟩) n g) (a.map Yt) (.slice (some ⟨gi,0,none⟩) n ci) (Ke (a.map Yt)))/\Hid (UK wx tb tt))
   case first =>
    by_cases q:1<n
    ·rw[aU q]at aa
     have fq:(1:Int)<n:=oM
     go_wp2_with fail
     refine(XC j B s3 ((n:Int)-1) wt (Xa a5.dr) oM oM).mono ?_;rintro e w7 ⟨rfl,d,k⟩;have O:=XE s3 (n:=(n:Int)-1) oM;obtain⟨S,s4,r⟩:∃S s9,nextP s3 ((n:Int)-1)=(S,s9):=⟨_,_,rfl⟩;rw[r]at d aa O |-;dsimp only at d aa O |-;have es:=Xa (a5.call k d);have bz:Hid (UK w7 tb ⟨3,0,0,0⟩):=Xa (Bx.grown HT k (fun e=>dl.2.2.2.2 (by injection e with e;exact e.symm)));clear d k r;obtain⟨t0,t1,t2,t3⟩:=UK.cells bz;have tz:=Bx.thaw bz
     go_wp2
     go_meet;have i:=dl.out;exact⟨_,_,aa,Xa ((((es.put i.1 i.2.1 (fun e=>i.2.2.1 (by cases e;rfl)) (fun e=>i.2.2.2.1 (by cases e;rfl))).put i.1 i.2.1 (fun e=>i.2.2.1 (by cases e;rfl)) (fun e=>i.2.2.2.1 (by cases e;rfl))).put i.1 i.2.1 (fun e=>i.2.2.1 (by cases e;rfl)) (fun e=>i.2.2.2.1 (by cases e;rfl))).put i.1 i.2.1 (fun e=>i.2.2.1 (by cases e;rfl)) (fun e=>i.2.2.2.1 (by cases e;rfl))),Xa (UK.put bz ⟨1,0,1+S,0⟩)⟩
    ·rw[aM q]at aa
     have fq:¬(1:Int)<n:=oM
     go_wp2
     go_meet;exact⟨_,_,aa,a5,HT⟩
   case rest =>
    obtain⟨tt,t,HE,L,al⟩:=hcut;clear a5 HT aa;obtain⟨t0,t1,t2,t3⟩:=UK.cells al;have f1:Cl wc f 1 (.slice (some ⟨m,0,none⟩) n g):=Bx.cell L.fbx rfl;have ka:=L.gr.size
    go_wp2_with (at_builtin;refine bT _ rfl _ _ 23 rfl w.heap.size 90 i0 (.agg #[.slice none 0 0,.slice none 0 0,.int .i64 0,.int .i64 0,.int .i64 0,.int .i64 0]) 6 80 underlying23 gb gv gx gz rfl vY _ (a.map Yt).length (XF Zz Zz (a.map Yt)) rfl (L.bl.alloc _) ⟨wc.heap.size,0,none⟩ 1 1 [.slice none 0 0,.slice none 0 0,.int .i64 tt.kind,.int .i64 tt.a,.int .i64 tt.to,.int .i64 tt.els] rfl rfl (World.news_of_block (World.alloc_heap_new _ _)) ?c2 ?c3 ?c4 ?c5 ?_)
    case c2=>intro h6 hu;simp at hu;rcases hu with rfl | rfl | rfl | rfl | rfl<;>rfl
    case c3=>unfold maxLen;have:=ap.out;omega
    case c4=>have:=ap.out;omega
    case c5=>simp;omega
    intro v8 w8 b9 dw gg fs;obtain⟨ar,d5⟩:=(L.box _).pushB dw b9 sP;have bs:=Xa d5;obtain⟨g8,c8,rfl,ax,b7⟩:=Xm b9 oM;clear ax b7 gg fs b9 dw d5 f1;have k0:Cl w8 f 0 (.int .i64 0):=Bx.cell ar rfl;have k1:Cl w8 f 1 (.slice (some ⟨m,0,none⟩) n g):=Bx.cell ar rfl;have kz:=Bx.thaw ar;have h7:=Xa ar;clear ar;have g0:=bs.gr.size;rw[Xd]at g0
    go_wp2_with (at_builtin;refine bT _ rfl _ _ 27 rfl w.heap.size 2 j0 (.int .i64 0) 1 8 underlying27 gc gr gs gt rfl vY _ (Ke (a.map Yt)).length (Xt (Ke (a.map Yt))) rfl (bs.id.alloc _) ⟨w8.heap.size,0,none⟩ 1 1 [.int .i64 0] rfl rfl ?c1 ?c2 ?c3 ?c4 ?c5 ?_)
    case c1 =>
     have:=Yf (w8.setCell ⟨f,1,none⟩ (.slice (some ⟨g8,0,none⟩) (a.length+1) c8)) (.int .i64 0) 2;rw[Xd]at this;exact this
    case c2=>intro h6 hu;simp at hu;subst hu;rfl
    case c3=>unfold maxLen;have:=ap.out;omega
    case c4=>have:=ap.out;omega
    case c5=>simp;omega
    intro v9 w9 ca d0 gl fx;have et:=Xa ((bs.box _).pushI d0 ca rfl);have gf:(Ke (a.map Yt)).length+1=a.length+1:=by have:=ap.out;simp at this;omega
    obtain⟨g9,c9,rfl,ax,b7⟩:=Xm ca oM;clear ax b7 gl fx ca d0
    go_wp2
    go_meet;rw[HE.out];rw[gf]at *;refine⟨g8,_,c8,g9,c9,rfl,?_⟩;dsimp only;rw[bG];exact et
 case rest =>
  obtain⟨I,N,R,a7,a6,rfl,L⟩:=hcut;clear U;have Z:=Xa (zA (dead:=l) (s:=s3) cz bb oM c7);have aj:=Xa (wJ (xj (dead:=l) (s:=s3) cz bb c7));have el:Hid (ZI l n a s3=ZI l n a s3):=Xa rfl;generalize hD:ZI l n a s3=ei at L Z aj;have ej:=Xa hD;clear hD el;obtain⟨ac,o,t⟩:=ei;dsimp only at L Z aj;have ad:Hid (ac.length=N/\o.length=N):=Xa (by
   have q:=L.bl;have:(ac.map Yt).length=N:=by
    rcases q.2 with⟨e,_⟩ | ⟨_,_,_,e,_⟩
    ·cases e
    ·cases e;rfl
   have h2:=Z.1;rw[bK]at this;exact⟨this,h2.trans this⟩)
  have aq:N<=11:=oP Z.out ad.out
  have dk:1<=N:=oP Z.out ad.out
  have em:Hid (∀b,0<b->b<N->∃g:Nat,o.getD b 0=(g:Int)/\g<b):=Xa (fun b q h2=>Z.2.2.2 b q (oN ad.out));obtain⟨kk,d2⟩:=L.start;have bl:Hid (GoA w (wc.alloc (.cells #[] 55)) j B ⟨ac.map Yt,[],0,t⟩ f I R (.slice (some ⟨wc.heap.size,0,none⟩) 0 0) (.slice (some ⟨a7,0,none⟩) N a6) o):=Xa ⟨_,_,_,_,_,d2⟩;have df:Hid ((ac.map Yt).length=N):=Xa (by have:=ad.out;simpa using this.1);clear d2 L Z ct HX
  go_wp2_with fail
  generalize ed:ac.map Yt=G at *;have b3:=Xa ed;clear ed;generalize wc.alloc _=wl at *;generalize wc.heap.size=eb at *;have a3:Hid (d8 s l=((ZL (Zm v o N 0 ⟨G,[],0,t⟩).ends N 0 (Zm v o N 0 ⟨G,[],0,t⟩).xs (Zm v o N 0 ⟨G,[],0,t⟩).s).1,(Zm v o N 0 ⟨G,[],0,t⟩).v,(ZL (Zm v o N 0 ⟨G,[],0,t⟩).ends N 0 (Zm v o N 0 ⟨G,[],0,t⟩).xs (Zm v o N 0 ⟨G,[],0,t⟩).s).2)):=Xa (by
   unfold d8;rw[ey.out];dsimp only;rw[ez.out,dM,<-HN.out];dsimp only;rw[e0.out];dsimp only;rw[ej.out,er.out];dsimp only;rw[ad.1,b3.out])
  have eq:Hid (∀x∈G,x.is.length<=1000):=Xa (by
   rw[<-b3.out];intro x i;rw[(KD ac x i).2];simp)
  have e7:Hid (Jb t):=Xa (by obtain⟨_,_,_,_,_,hq⟩:=bl.out;exact hq.dr.ok);have ev:Hid (∀x∈G,x.ps.length<=1000/\∀bi∈x.ps,bi.args=[]):=Xa (by
   rw[<-b3.out];intro x i;have:=KD ac x i;rw[this.1];exact⟨sP,fun bi hp=>absurd hp sP⟩)
  refine lp1 w j B f I R a7 N a6 o v ⟨G,[],0,t⟩ _ _ _ _ _ _ (by exact Xa (fun g di hz ee w h=>h)) aq (Xa ad.2) em ?_ _ _ _ _ _ _ _ _ _ _ _ _ _ _ _ (by rfl) (Xa ⟨rfl,rfl,df⟩) bl;intro c ve ic ih il ir i1 i2 i3 i4 i5 i6 jj js tl w7 O ay b6 hA;obtain⟨fl,rfl⟩:=spr tl O;clear O bl;have a4:Hid (∀x∈c.xs,x.ps.length<=1000/\∀bi∈x.ps,bi.args=[]):=Xa (by rw[ay];exact ld v o N 0 _ ev);have ep:Hid (∀x∈c.xs,x.is.length<=1000):=Xa (by rw[ay];exact mv v o N 0 _ e7 eq);have b1:Hid (TgB c.xs/\PrB c.xs):=Xa (by rw[ay];exact mj v o N 0 _ (by show 0+N=G.length;rw[df.out];omega) aj.1 aj.2);rw[<-ay]at a3;have Q:=Xa b6;obtain⟨hc,ht,g4,fa,fi,b5⟩:=hA;obtain⟨ge,ce,ec⟩:=b5.es.got oM;rw[b6.1]at ec;subst ec;have cd:Hid (GoA w w7 j B ⟨c.xs,c.ends,c.v,c.s⟩ f I R (.slice (some ⟨ge,0,none⟩) N ce) (.slice (some ⟨a7,0,none⟩) N a6) o):=Xa ⟨hc,ht,g4,fa,fi,b5⟩;clear b5 b6 ay
  go_wp2_with fail
  refine lp4 w j B f c.v I R c.xs ge N ce c.ends (.slice (some ⟨a7,0,none⟩) N a6) o N c.s _ _ _ _ _ _ _ _ _ _ _ _ _ _ _ _ _ (by exact Xa (fun g di hz ee w h=>h)) (Xa ⟨Q.2.1,Q.1,rfl⟩) aq a4 (Xa (fun e he=>by have:=Q.2.2.2 e he;omega)) ?_ _ _ _ _ _ (by rfl) cd;intro s8 h9 ia ib tl w8 O ea fr;obtain⟨fl,rfl⟩:=spr tl O;clear O cd;have a1:=Xa (pS c.ends N 0 c.xs c.s (oN Q.out) (fun _ _ h=>absurd h oM) (fun a0 hm _=>(a4 _ (aH hm)).2));have A:Hid ((ZL c.ends N 0 c.xs c.s).1.length=N):=Xa ((nY _ _ _ _ _).trans Q.2.1);have bw:=Xa (Bv a1 (oN A.out) (n8 c.ends N 0 c.xs c.s 1000 (oN Q.out) (fun x i=>⟨(a4 x i).1,ep x i⟩)));have b2:=Xa (oy c.ends N 0 c.xs c.s (oN Q.out) b1.1 b1.2);clear b1 aj;have j3:c.v<=154:=oN Q.out
  rw[<-ea]at a3;generalize (ZL c.ends N 0 c.xs c.s).1=p at *;generalize c.v=V at *;obtain⟨hh,hv,g5,fc,j1,dj⟩:=fr;have b0:=Xa dj.toT;clear dj ea a4 Q;have bq:Hid (XM s l=(⟨(V:Int),if (nextP (nextP s8 3).2 3).1=0 then Tm V (if (nextP s8 3).1=0 then Zh p else p)else (if (nextP s8 3).1=0 then Zh p else p)⟩,(nextP (nextP s8 3).2 3).2)):=Xa (by unfold XM;rw[a3.out]);clear a3
  go_wp2_with fail
  refine(XC j B s8 3 w8 (Xa b0.dr) oM oM).mono ?_;rintro e w9 ⟨rfl,d,k⟩;have C:=Xa (b0.call k d);clear d k b0;generalize nextP s8 3=P9 at *;obtain⟨F,s9⟩:=P9;dsimp only at C bq |-
  go_upto_if 266 with fail
  go_cut [] from 203 to 274 (fun wz=>∃af J c2 pv iv av,Hid (GoT w wz af j B s9 f V J c2 (if F=0 then Zh p else p) pv iv av))
  case first =>
   by_cases u:F=0
   ·have cb:(F==0)=true:=by simpa using u
    have f0:Cl w9 f 0 (.int .i64 (V:Int)):=Bx.cell C.fbx rfl;have f1:w9.cell? ⟨f,1,none⟩=some (.slice (some ⟨I,0,none⟩) N R):=by rw[<-A.out];exact Bx.cell C.fbx rfl
    have M:=Xa u;clear u
    go_wp2_with fail
    have ab:=C.fn;rw[A.out]at ab;refine(hT V I N R p hh w.heap.size hv g5 fc w9 (Xa ab) (Xa A.symm) C.gr.size (Xa C.fr) a1 bw (Xa b2.1) dk aq).mono ?_;rintro e ef ⟨kf,G',c2,kl,kb,h8,rfl,D,X,h0,d3⟩;have db:=Xa (C.turned D (by rw[A.out];exact X) h0 d3);have a8:=C.fbx.keep (D.block _ C.fbx.lt);have k0:Cl ef f 0 (.int .i64 (V:Int)):=Bx.cell a8 rfl;have k1:ef.cell? ⟨f,1,none⟩=some (.slice (some ⟨I,0,none⟩) N R):=by rw[<-A.out];exact Bx.cell a8 rfl
    have kz:=Bx.thaw a8;clear D X h0 d3 a8 f0 f1 ab;rw[A.out]at db
    go_wp2
    go_meet;rw[aU M.out];exact⟨_,_,_,_,_,_,db⟩
   ·have cb:(F==0)=false:=by simpa using u
    have M:=Xa u;clear u
    go_wp2
    go_meet;rw[aM M.out];exact⟨_,_,_,_,_,_,C⟩
  case rest =>
   obtain⟨hi,J,c2,hw,g7,fe,al⟩:=hcut;clear C;have W:Hid ((if F=0 then Zh p else p).length=N):=Xa (by by_cases h:F=0;(rw[aU h,im];exact A);(rw[aM h];exact A));have bx:Hid (Kg (if F=0 then Zh p else p)):=Xa (by by_cases h:F=0;(rw[aU h];exact wh (oN A.out) (oN A.out) bw);(rw[aM h];exact bw));have cv:Hid (PhA (if F=0 then Zh p else p)):=Xa (by by_cases h:F=0;(rw[aU h];exact vV b2.2);(rw[aM h];exact Bt a1 b2.2));generalize (if F=0 then Zh p else p)=H at *;clear A a1
   go_wp2_with fail
   refine(XC j B s9 3 wc (Xa al.dr) oM oM).mono ?_;rintro e cc ⟨rfl,d,k⟩;have y:=Xa (al.call k d);clear d k al;generalize nextP s9 3=e8 at *;obtain⟨E,hy⟩:=e8;dsimp only at y bq |-
   go_upto_if 271 with fail
   go_cut [] from 203 to 274 (fun wz=>∃af pv iv av,Hid (GoT w wz af j B hy f V J c2 (if E=0 then Tm V H else H) pv iv av))
   case first =>
    by_cases u:E=0
    ·have cb:(E==0)=true:=by simpa using u
     have f0:Cl cc f 0 (.int .i64 (V:Int)):=Bx.cell y.fbx rfl;have f1:cc.cell? ⟨f,1,none⟩=some (.slice (some ⟨J,0,none⟩) N c2):=by rw[<-W.out];exact Bx.cell y.fbx rfl
     have M:=Xa u;clear u
     go_wp2_with fail
     have ab:=y.fn;rw[W.out]at ab;refine(tF V J N c2 H hi w.heap.size hw g7 fe cc (Xa ab) (Xa W.symm) y.gr.size (Xa y.fr) aq oM bx).mono ?_;rintro e eg ⟨rfl,D,X,hk,h0⟩;have dd:=Xa (y.renamed D (by rw[W.out];exact X) hk h0);have a9:=y.fbx.keep (hk _ y.fbx.lt y.fbl);have k0:Cl eg f 0 (.int .i64 (V:Int)):=Bx.cell a9 rfl;have k1:eg.cell? ⟨f,1,none⟩=some (.slice (some ⟨J,0,none⟩) N c2):=by rw[<-W.out];exact Bx.cell a9 rfl
     have kz:=Bx.thaw a9;clear D X h0 hk a9 f0 f1 ab;rw[W.out]at dd
     go_wp2
     go_meet;rw[aU M.out];exact⟨_,_,_,_,dd⟩
    ·have cb:(E==0)=false:=by simpa using u
     have M:=Xa u;clear u
     go_wp2
     go_meet;rw[aM M.out];exact⟨_,_,_,_,y⟩
   case rest =>
    obtain⟨bf,hs,g3,e9,z⟩:=hcut;clear y;have b4:Hid ((if E=0 then Tm V H else H).length=N):=Xa (by by_cases h:E=0;(rw[aU h,iu];exact W);(rw[aM h];exact W));have e6:Hid (Kg (if E=0 then Tm V H else H)):=Xa (by by_cases h:E=0;(rw[aU h];exact zB bx);(rw[aM h];exact bx));have eu:Hid (PhA (if E=0 then Tm V H else H)):=Xa (by by_cases h:E=0;(rw[aU h];exact Ai cv);(rw[aM h];exact cv));generalize (if E=0 then Tm V H else H)=us at *;have f0:Cl wc f 0 (.int .i64 (V:Int)):=Bx.cell z.fbx rfl;have f1:wc.cell? ⟨f,1,none⟩=some (.slice (some ⟨J,0,none⟩) N c2):=by rw[<-b4.out];exact Bx.cell z.fbx rfl
    have r0:Cl wc w.heap.size 0 (.int .i64 0):=Bx.cell z.res rfl;have r1:Cl wc w.heap.size 1 (.slice none 0 0):=Bx.cell z.res rfl;have rz:=Bx.thaw z.res;go_wp2;rw[bq.out];refine cC (v:=.agg #[.int .i64 (V:Int),.slice (some ⟨J,0,none⟩) N c2]) (by simp[results,results31,go_sem,r0,r1]) rfl ⟨bf,J,N,c2,hs,g3,e9,rfl,?_,?_,?_,?_,?_,dk,aq,⟨V,rfl,oM⟩,e6,eu⟩
    ·exact(z.dr.put z.bw).put z.bw
    ·exact XS (XS z.gr (aA _)) (aA _)
    ·have k1:XW wc ((wc.setCell ⟨w.heap.size,0,none⟩ (.int .i64 (V:Int))).setCell ⟨w.heap.size,1,none⟩ (.slice (some ⟨J,0,none⟩) N c2)) bf bf w.heap.size (fun b=>b≠w.heap.size):=((XW.put _ _ _).trans (XW.put _ _ _)).weak (fun _ D=>⟨D,D⟩)
     have nb:∀b,(bf b).1≠0->b≠w.heap.size:=fun b q e=>q (by rw[e,z.resl])
     have X:=z.fn;rw[b4.out]at X;exact X.sp k1 0 (fun b q _ _ _=>nb b q) (bC (fun b e=>nb b (by rcases e with e | e<;>rw[e]<;>simp)))
    ·intro b D
     exact z.fr b (by simpa [World.setCell]using D)
    ·exact b4.symm
end Go.Proofs.YtghnlncgiihhgaaGreatDoor
