import Derived.Test.YtcfdhbigppockaaGreatDoorSQ6
import Derived.Shelf.SlIterI.Nil
import Derived.Shelf.SortM.Plain
import Derived.Shelf.SortM.SortNone
import Derived.Ground.GgzProg
import Derived.Ground.SlgmProg
import Derived.Test.YtcfdhbigppockaaGreatDoorQD
import Derived.Test.YtcfdhbigppockaaGreatDoorLO7
import Derived.Test.YtcfdhbigppockaaGreatDoorPI0
namespace Go.Proofs.YtcfdhbigppockaaGreatDoor
set_option maxHeartbeats 4000000
set_option maxRecDepth 100000
open Go.RowKit Go.Shelf Go.Proofs.Tryz
variable{t T z:Int}{n m k B g i j c:Nat}{Z:Nat->Nat×Nat×Nat}{w v u:Ub}{a A:Uj}{p P:Uy}{h:Vu}{l:Wc}{x:Wi}{y:Wo}
section
open Go.Maps Go.Sort
shelf_lay_g SlLaysZI.n7 Ggz 7 at Tryz 209 as keysA
shelf_lay_g SlLaysZI.n6 Ggz 6 at Tryz 208 as sortedA
shelf_lay_g SlLaysM.n5 Slgm 5 at Tryz 223 as sortA
theorem IA:AnyZI.SortsIn prog sortedA_ren Fence.wide n :=
 ⟨λblk d a e W hH b c=>bM.2<|AnyM.slices_Sort_int sortA blk d a e W hH b c,
  λp a W=>bM.2<|AnyM.slices_Sort_int_none sortA p a W⟩
theorem xQ(a:Zm)(W:Ub):Calls prog 209 #[.map a] W λe b=>e=.returned (.func (.func 224) #[] #[.pointer (some ⟨W.1.size,0,none⟩)])/\b=W.alloc (.cells #[.map a] 300) :=
 (bM (n:=5)).1 (AnyZI.keys_in keysA Fence.wide 5 trivial rfl a W)
theorem GT(b:DataW Unit)(f:w.ownsMap prog 2 ay n m b)(r:Maps.size b<=64):
 Calls prog 208 #[.func (.func 224) #[] #[.pointer (some ⟨w.1.size,0,none⟩)]] (w.alloc<|.cells #[.map (some n)] 300) λe d=>∃(v:Uj)(a:Wc),e=.returned v/\a.Perm (intKeys b) /\
  d.ownsRow w.1.size 2 1 v a.length ((a.mergeSort λx y=>decide (x<=y)).map encZ)/\Below w.1.size w d:=by
 refine(bM (n:=5)).1 ?_;have l:=f.lt;have q:SeqGives Fence.wide 2 prog 224 #[.pointer (some ⟨w.1.size,0,none⟩)] encZ (λa=>a.Perm<|intKeys b) (Maps.size b) (w.alloc<|.cells #[.map (some n)] 300) :=
  AnyZI.keys_gives (ρ:=keysA_ren) { keysA with } Fence.wide _ trivial rfl oM w.1.size n m b _ sP sP (by
   obtain⟨i,h,c,g,p,j⟩:=f;exact⟨i,h,(Below.heap_alloc _ _ n l).trans c,g,p,j⟩)
 have cS:=AnyZI.sorted_in sortedA Fence.wide 5 trivial trivial trivial trivial rfl oM (IA) (enters_of func223 vZ rfl) 224 #[.pointer (some ⟨w.1.size,0,none⟩)] trivial (enters_of func224 vZ rfl) _ _ (by unfold maxLen;omega) oM _ q;change CallsIn _ _ prog 208 _ _ _ at cS;refine cS.mono ?_;rintro e d⟨v,a,rfl,k,o,s,c⟩;exact⟨v,a,rfl,k,ownsRow_base_a o sP,((Below.refl _ w).alloc aA _).trans (c.mono sP)⟩
end
section
open Go.Maps Go.Sort
theorem rY{L:Wy}(g:(ai L).Nodup){q m:Mv}(hq:q∈L)(f:m∈L)(e:q.1=m.1):q=m:=by
 obtain⟨i,b,rfl⟩:=bR hq;obtain⟨j,c,rfl⟩:=bR f;have d:=gY.1 (show(L.map (·.1)).Pairwise (·≠·)from g);obtain a|a|a:=mA i j;·exact(d i j (by simpa using b) (by simpa using c) a (by simp[e])).elim
 .subst a;rfl
 exact(d j i (by simpa using c) (by simpa using b) a (by simp[e])).elim
def lT(L:Wy)(left:Lit->Bool)(t:Nat):Bool:=L.any λm=>!left (.int .i64 m.1)&&(m.2==(t:Int))
theorem G9{L:Wy}{left:Lit->Bool}(h:∀m∈L,left (.int .i64 m.1)=true)(t:Nat):lT L left t=false:=List.any_eq_false.2 λm a=>by simp[h m a]
theorem Iy{L:Wy}{left:Lit->Bool}(h:∀k,left k=false)(t:Nat):lT L left t=an L t:=by
 unfold lT an;congr 1;funext m;simp[h]
theorem Hj{L:Wy}(b:(ai L).Nodup){left:Lit->Bool}{m:Mv}(a:m∈L)(t:Nat):lT L (λz=>left z&&!z.sameKey (.int .i64 m.1)) t=(lT L left t||m.2==(t:Int)):=by
 rw[eQ];unfold lT;simp only[List.any_eq_true,dI];constructor
 .rintro⟨q,hq,h⟩;by_cases e:q.1=m.1
  .have:=rY b hq a e;subst this;simp only[bY]at h;exact aZ h.2
  rw[pt e]at h;exact bC ⟨q,hq,h⟩
 rintro(⟨q,hq,h⟩|h)
 .by_cases e:q.1=m.1
  .refine⟨q,hq,?_⟩;rw[e,rE];simp only[bY]at h;simpa using h.2
  exact⟨q,hq,by rw[pt e];exact h⟩
 exact⟨m,a,by rw[rE];simpa using h⟩
def jp(m:Mv):Wa:=if m.2<0 then []else [m.2.toNat]
theorem Hv{m:Mv}:Iw (N3 m)=(jp m).map Int.ofNat:=by
 unfold jp N3;by_cases h:m.2<0;·rw[aU h,aU h];rfl
 rw[aM h,aM h];show[m.2]++[]=[Int.ofNat m.2.toNat];rw[fF];congr 1;exact(fR oM).symm
theorem Ha{a:Mv}:(ie n<|jp a).testBit m=(n.testBit m||a.2==(m:Int)):=by
 unfold jp;by_cases h:a.2<0
 .rw[aU h];have:(a.2==(m:Int))=false:=by simpa using(by omega:a.frm≠m)
  rw[this,jU];rfl
 rw[aM h];show(n|||2^a.2.toNat).testBit m=_;rw[Nat.testBit_or,nE];congr 1;rw[eQ];simp;omega
theorem Hw{m:Mv}(h:m.2=-1\/(0<=m.2/\m.2<64)):∀t∈jp m,t<64:=by
 unfold jp;split;·simp
 simp;omega
def aw(a:Wc):Wc:=a.mergeSort λx y=>decide (x<=y)
theorem j6(a:Wc):(aw a).Perm a:=List.mergeSort_perm _ _
theorem yj(d:n<=m)(e:m<(aw l).length):(aw l)[n]<=(aw l)[m]:=by
 have f:(aw l).Pairwise (λa b=>decide (a<=b)=true):=List.pairwise_mergeSort (λa b c g i=>by simp only[bD]at*;omega) (λa b=>by simp only[dI,bD];omega) l;obtain h|h:=Nat.lt_or_eq_of_le d;·simpa using List.pairwise_iff_getElem.1 f n m oM e h
 subst h;exact Int.le_refl _
theorem GV{L:Wy}(b:l.Perm (ai L))(e:n<(aw l).length)(h:∀j (k:j<n),an L ((aw l)[j]' oM)=true)(d:an L (aw l)[n]=false):bj (fo L)=some (aw l)[n]:=by
 refine pF (fG.2 ⟨((j6 l).trans b).mem_iff.1 (aH e),by rw[d];rfl⟩) λx i=>?_;let⟨c,a⟩:=fG.1 i;obtain⟨j,f,rfl⟩:=bR<|((j6 l).trans b).mem_iff.2 c;by_cases g:j<n;·rw[h j g]at a;cases a
 exact yj oM f
theorem Hf{L:Wy}(b:l.Perm (ai L))(c:∀j (h:j<(aw l).length),an L (aw l)[j]=true):bj (fo L)=none:=by
 rw[lj];refine mJ.2 λx d=>?_;obtain⟨j,a,rfl⟩:=bR<|((j6 l).trans b).mem_iff.2 d;rw[c j a];simp
theorem G6{L:Wy}(a:l.Perm (ai L))(b:0<(aw l).length):bj (ai L)=some (aw l)[0]:=by
 refine pF (((j6 l).trans a).mem_iff.1 (aH b)) λx d=>?_;obtain⟨j,c,rfl⟩:=bR<|((j6 l).trans a).mem_iff.2 d;exact yj aN c
theorem rL{L:Wy}(a:l.Perm (ai L)):(aw l).length=L.length:=by
 rw[((j6 l).trans a).length_eq];simp[ai]
theorem rN{L:Wy}(a:l.Perm (ai L)):t∈aw l↔t∈ai L:=((j6 l).trans a).mem_iff
theorem calm(h:Below w.1.size w v):w.grownBy v none:=⟨h.1,h.2,h.3,h.4,λk a _=>h.5 k a⟩
end
section
open Go.Maps Go.Sort
theorem xJ(a:DataW Unit){L:Wy}(k:w.ownsMap prog 2 ay n m a)(i:Maps.size a<=64)(f:(intKeys a).Perm (ai L)):
 Calls prog 208 #[.func (.func 224) #[] #[.pointer (some ⟨w.1.size,0,none⟩)]] (w.alloc<|.cells #[.map (some n)] 300) λe d=>∃b c4 c,e=.returned (.slice b L.length c4)/\Hs (c.Perm<|ai L)/\Zx d w.1.size d.1.size b ((aw c).map encZ)/\Below w.1.size w d:=by
 refine(GT a k i).mono ?_;rintro e o⟨v4,c,rfl,g,j,h⟩;obtain⟨b,c4,rfl,l⟩:=UO j;exact⟨b,c4,c,by rw[bK];rw[<-rL (g.trans f)];rfl,Xa<|g.trans f,l,h⟩
theorem rV(m:Mv):∃(k:Nat)(a:Int),N3 m=⟨k,m.1,a,0,0⟩/\1<=k/\k<=13:=by
 unfold N3;split;·exact⟨13,0,rfl,oM,oM⟩
 exact⟨11,m.2,rfl,oM,oM⟩
theorem Ic{x y:Yg}(h:d9 x=d9 y):x=y:=by
 let⟨a,b,c,d,e⟩:=x;let⟨f,b2,g,i,j⟩:=y;simp only[d9,Value.agg.injEq]at h;have:=fI Array.toList h;simp at this;obtain⟨rfl,rfl,rfl,rfl,rfl⟩:=this;rfl
structure IB(L:Wy)(m:Mv)(g R W:Nat)(w w':Ub):Prop where
 grown:w.grownBy w' (some g)
 lt:ie W (jp m)<18446744073709551616
 cell:w'.cell? ⟨g,0,none⟩=some (.int .u64 (ie W<|jp m))
 thaw:∀q,w'.frozen? ⟨g,q,none⟩=false
theorem xr(E:DataW Unit){L:Wy}(cb:Hs (w.ownsMap prog 2 ay n m E))(hn:m<=64)(B:Hs (aK E L))(T:Hs (b9 L))(db:Hs (L≠[]))(ht:Hs (Yy w)):
 Calls prog 187 #[.map (some n)] w λe w'=>Below w.1.size w w'/\∃t ac,e=.returned (.tuple #[.int .i64 t,.bool ac])/\((ac=true/\bj (fo L)=some t)\/(ac=false/\bj (fo L)=none/\bj (ai L)=some t)):=by
 have d0:=cb.lt
 go_in
 go_wp2_with (first
  |(go_at_call 206;refine(GY).mono ?_;rintro e r⟨g,rfl,o,S,al,a3⟩;have cc:=(cb.kept (calm S) sP).alloc (.cells #[.slice (some ⟨g,0,none⟩) 1 1] 326))
  |(at_range;refine wpList_range_own _ rfl _ 300 rfl 2 66 RC RE ay n m E rfl cc ?_;intro w0 az M dc)
  |go_in)
 have eg:=S.4;have cx:=o;have cz:g<r.1.size:=aI r _ al;have dk:=λq=>a3 q
 have a7:=Xa ((Xb S _).grown M (by simp;omega) λk N=>by cases N);have bp:Cl w0 r.1.size 0 (.slice (some ⟨g,0,none⟩) 1 1):=(Xc<|M.5 r.1.size sP sP).trans sP;have bi:w0.cell? ⟨g,0,none⟩=some (.int .u64 ((0:Nat):Int)):=(Xc<|M.5 g (by simp;omega) sP).trans (by rw[bP _ _ _ cz];exact al);have bv:∀q,w0.frozen? ⟨g,q,none⟩=false:=λq=>by
  rw[bJ (M.5 g (by simp;omega) sP),World.frozen?_alloc_old _ _ _ (by show g≠_;omega)];exact a3 q
 have e0:(r.alloc<|.cells #[.slice (some ⟨g,0,none⟩) 1 1] 326).1.size=r.1.size+1:=sP;rw[e0]at az;rw[e0];have bf:=Xa bv;clear bv dk a3 al dc cc e0 M;generalize r.1.size=R at*
 go_frame
 go_loopw [13] (λ_ wr=>∃(left:Lit->Bool)(bh W:Nat),Hs (wr.ranges prog 2 ay n (R+1) m E left bh)/\Hs (Below w.1.size w wr)/\wr.cell? ⟨R,0,none⟩=some (.slice (some ⟨g,0,none⟩) 1 1)/\Hs (W<18446744073709551616)/\wr.cell? ⟨g,0,none⟩=some (.int .u64 W)/\Hs (∀q,wr.frozen? ⟨g,q,none⟩=false)/\Hs (∀t,W.testBit t=lT L left t))
  (λ_ wr=>wr.rangeLeft n<|R+1)
 case atStart=>exact⟨_,_,0,Xa az,a7,bp,Xa oM,bi,bf,Xa λt=>by rw[G9 λb c9=>(B.2 _).2 ⟨b,c9,rfl⟩];simp⟩
 clear az a7 bp bi bf S;obtain⟨left,bh,W,h,s,y,HW,v,HZ,HV⟩:=hrel
 go_wp2_with (first
  |(at_next;refine wpList_next_ranges _ rfl _ rfl 2 RC ay (Value.int .i64) d9 (λej kl ao=>by obtain⟨x,rfl,_⟩:=Maps.keyOf_int_inv underlying2 ao;exact⟨x,rfl⟩) (λek em U=>by obtain⟨x,rfl,_⟩:=mu U;exact⟨x,rfl⟩) n (R+1) m _ _ _ rfl h ?_ ?_)
  |go_in)
 .intro _ b8
  have ck:Hs (∀t:Nat,W.testBit t=an L t):=Xa (λt=>by rw[HV.o t,Iy b8]);have b7:=T.o;have cd:=B.perm b7.1 (λes he ds p=>by
   obtain⟨dw,e1,_,e3⟩:=h.owns.entries RC;rw[he]at e1;injection e1 with e1;subst e1;exact e3 ds p)
  have a0:=s.4;have HS:=Xa<|xJ E h.owns (aJ h.owns.size_le hn) cd;have Q:=Xa<|xQ (some n) wr;clear cd b7
  go_wp2_with (first
   |(go_at_call 209;with_reducible refine Q.o.mono ?_;rintro e w3⟨rfl,cg⟩;rw[cg];clear cg w3)
   |(go_at_call 208;with_reducible refine HS.o.mono ?_;rintro e V⟨a4,c4,d,rfl,p,cf,J⟩))
  have P:=Xa<|s.trans (J.mono a0);have bt:=oB J y<|aI wr _ y;have bn:=oB J v<|aI wr _ v;have ed:L.length<=64:=by rw[<-B.4];exact aJ h.owns.size_le hn
  have eb:=List.length_pos_iff.2 db;have be:=Xa cf;have Z:=Xa<|rL p;have cp:Hs (∀x∈aw d,0<=x/\x<64):=Xa (λx hx=>by
   obtain⟨q,hq,rfl⟩:=aY.1<|(rN p).1 hx;exact T.2 q hq)
  have ei:=J.4;clear cf J HS Q y v s h b8 HV HZ a0 B;generalize L.length=nl at*;generalize wr.1.size=du at*;generalize wr=el at*
  go_loopw [25] (λa6 wr=>∃q:Nat,q<=nl/\a6=.int .i64 q/\Hs (Below V.1.size V wr)/\Hs (∀j (I:j<(aw d).length),j<q->an L (aw d)[j]=true)) λa6 _=>nl-(RowKit.intOf a6).toNat
  case atStart=>exact⟨0,aN,rfl,Xa<|Below.refl _ _,Xa λj _ I=>absurd I oM⟩
  obtain⟨q,hq,rfl,f,Y⟩:=hrel;have dz:=oB f bt<|aI V _ bt;have cr:=oB f bn<|aI V _ bn;have ch:=f.4;by_cases ap:q<nl
  .have C:q<(aw d).length:=oN Z.o;obtain⟨b4,o4,rfl,aj,K⟩:=be q (by simpa using C);have A:=oB f K aj.2;rw[cM]at A;have a2:=cp _<|aH C;obtain⟨t,a1⟩:∃t:Nat,(aw d)[q]=(t:Int):=⟨(aw d)[q].toNat,(fR a2.1).symm⟩;have ab:=Xa a1;rw[a1]at A a2;have df:t<64:=oM;have F:=Xa<|Ik df HW cr;have b1:=ck t;rw[b1]at F;clear K a1 b1 a2;cases hrd:an L t with
   |false=>
    rw[hrd]at F;have aa:Hs (bj (fo L)=some (t:Int)):=Xa (by rw[<-ab.o];exact GV p C (λj a=>Y j _ a) (by rw[ab.o];exact hrd));clear hrd;go_wp2_with (go_at_call 210;with_reducible refine F.o.mono ?_;rintro e w6⟨rfl,af⟩)
    refine cC (v:=.tuple #[.int .i64 t,.bool true]) (by simp[results,results187,go_sem, *]) rfl ?_;exact⟨P.trans<|(f.trans<|af.mono ch).mono (oN P.4),_,_,rfl,bC ⟨rfl,aa⟩⟩
   |true=>
    rw[hrd]at F;have cj:Hs (∀j (I:j<(aw d).length),j<q+1->an L (aw d)[j]=true):=Xa (λj I a=>by
     obtain a|a:=Nat.lt_succ_iff_lt_or_eq.1 a;·exact Y j I a
     subst a;rw[ab.o];exact hrd)
    clear hrd;go_wp2_with (go_at_call 210;with_reducible refine F.o.mono ?_;rintro e w6⟨rfl,af⟩)
    exact⟨⟨q+1,oM,gM,Xa<|f.trans (af.mono ch),cj⟩,by simp[RowKit.intOf];omega⟩
  have C:0<(aw d).length:=oN Z.o;obtain⟨b4,o4,rfl,aj,K⟩:=be 0 (by simpa using C);have A:=oB f K aj.2;rw[cM,fW]at A;have aa:=Xa (Hf p λj a=>Y j a<|oN Z.o);have cn:=Xa<|G6 p C;generalize (aw d)[0]=t at*;clear K;go_wp2;refine cC (v:=.tuple #[.int .i64 t,.bool false]) (by simp[results,results187,go_sem, *]) rfl ?_;exact⟨P.trans<|f.mono (oN P.4),_,_,rfl,aZ ⟨rfl,aa,cn⟩⟩
 intro x c kl yd yp D cq ao ee U ad ce ap o dd ea;obtain⟨x',ex,rfl,dj⟩:=Maps.keyOf_int_inv underlying2 ao;cases ex;obtain⟨c',ec,ey⟩:=mu U;obtain⟨rfl,rfl⟩:=Prod.mk.inj ey;have cw:=Ic ec;subst cw;obtain⟨b,aq,ar⟩:=(B.2<|.int .i64 x).1 (has_true_of_atKey (y:=fu c) ad);have da:x=b.1:=by simpa using ar
 have b3:c=N3 b:=rI (by rw[<-B.3 b aq (.lit (.bool true)),<-ar];exact(ad _).symm);obtain⟨k,i,N,c6,c7⟩:=rV b;have Q:=Xa N;rw[N]at b3;subst da b3;unfold d9 at*;clear ar ey ec U ad N dj;dsimp only at*;have ct:R<wr.1.size:=aI wr _ y;have bo:g<wr.1.size:=aI wr _ v;have bq:=(Xc (o:=0) (o.5 R ct sP)).trans y;have bl:=(Xc (o:=0) (o.5 g bo<|by simp;omega)).trans v;have bx:∀q,D.frozen? ⟨g,q,none⟩=false:=λq=>by rw[bJ<|o.5 g bo (by simp;omega)];exact HZ q
 have a0:=s.4;have a8:=Xa (s.grown o oM λj a=>by cases a;omega);have bb:=Xa ce;have cl:=Xa ap;clear y v HZ s o ce ap;go_wp2_with fail
 have e2:(D.alloc<|.cells #[.int .i64 k,.int .i64 b.1,.int .i64 i,.int .i64 0,.int .i64 0] 66).1.size=D.1.size+1:=sP;have ba:Hs (Jk (D.alloc<|.cells #[.int .i64 k,.int .i64 b.1,.int .i64 i,.int .i64 0,.int .i64 0] 66) wr.1.size 0 ⟨k,b.1,i,0,0⟩):=Xa (by rw[<-dd];exact⟨sP,sP,sP,sP,sP⟩);have a9:=Xa<|Xb a8 (.cells #[.int .i64 k,.int .i64 b.1,.int .i64 i,.int .i64 0,.int .i64 0] 66);have co:=Xa<|bb.alloc (.cells #[.int .i64 k,.int .i64 b.1,.int .i64 i,.int .i64 0,.int .i64 0] 66);have cs:(λx9:Ub=>x9.cell? ⟨R,0,none⟩=some (.slice (some ⟨g,0,none⟩) 1 1)/\x9.cell? ⟨g,0,none⟩=some (.int .u64 W)/\Hs (∀q,x9.frozen? ⟨g,q,none⟩=false)) (D.alloc<|.cells #[.int .i64 k,.int .i64 b.1,.int .i64 i,.int .i64 0,.int .i64 0] 66):=⟨(by rw[bP _ _ _<|by show R<_;omega];exact bq),(by rw[bP _ _ _<|by show g<_;omega];exact bl),(Xa λq=>by rw[World.frozen?_alloc_old _ _ _ (by show g≠_;omega)];exact bx q)⟩;generalize D.alloc _=u at*;obtain⟨br,bm,b0⟩:=cs;clear bq bl bx a8 bb;have bd:=Xa<|ht.keep a9 ht.1;have cm:Hs (Calls prog 151 #[.pointer (some ⟨wr.1.size,0,none⟩)] u.drew λe O=>∃H n5 c5,e=.returned (.slice H n5 c5)/\O.cell? ⟨R,0,none⟩=some (.slice (some ⟨g,0,none⟩) 1 1)/\Hs (Calls prog 207 #[.agg #[.slice (some ⟨g,0,none⟩) 1 1],.slice H n5 c5] O λe X=>e=.returned (.tuple #[])/\X.cell? ⟨R,0,none⟩=some (.slice (some ⟨g,0,none⟩) 1 1)/\Hs (IB L b g R W u X))):=Xa (by
  refine(vf wr.1.size k b.1 i 0 0 u.drew ba c6 c7 bd).mono ?_;rintro e O⟨v5,rfl,l,ca⟩;have z:Below u.1.size u O:=⟨l.1,l.2,l.3,l.4,l.5⟩;rw[<-Q.o,Hv]at ca;obtain⟨H,c5,rfl,di⟩:=UO ca;have ef:=z.4;refine⟨H,_,c5,rfl,oB z br oM,Xa ?_⟩;refine(Iq u.1.size (Xa ?_) (Xa sP) (by simp;unfold jp;split<;>simp) (Xa<|Hw (T.3 b aq)) HW ((XU z oM).trans bm) (λq=>by rw[bJ<|z.5 g oM];exact b0 q) aA oM).mono ?_
  .intro dn hi;obtain⟨b5,o5,e5,l,A⟩:=di dn (by simpa using hi);exact⟨b5,o5,e5,l,by rw[A];simp⟩
  rintro e X⟨rfl,b6,c8,cv,dl⟩
  exact⟨rfl,(Xc<|b6.5 R oM (by simp;omega)).trans ((XU z oM).trans br),Xa ⟨((calm z).but (some g)).andThen b6 (λj a=>by cases a;exact aZ rfl),c8,cv,dl⟩⟩)
 clear ba bd bm b0
 go_region_held3 (λw'=>w'.cell? ⟨R,0,none⟩=some (.slice (some ⟨g,0,none⟩) 1 1)) (go_keep)
  (first
   |(go_at_call 151;with_reducible refine cm.o.mono ?_;rintro e O⟨H,n5,c5,rfl,f5,ci⟩)
   |(go_at_call 207;with_reducible refine ci.o.mono ?_;rintro e X⟨rfl,f7,G⟩))
 all_goals
  have bc:=Xa<|co.kept G.1 (by simp;omega) (by simp;omega)
  go_roundw
  case rel=>exact⟨_,_,_,_,_,_,_,_,⟨_,cq,_,bc,Xa (a9.grown G.1 oM λj a=>by cases a;exact cx),f7,Xa G.2,G.3,Xa G.4,Xa λt=>by rw[Ha,HV.o t];exact(Hj T.1 aq t).symm⟩,rfl⟩
  rw[bc.left_eq,h.left_eq];exact cl
end
section
open Go.Maps Go.Sort
def d8(L:Wy)(r:Int)(S:Wc):Wy:=L.map λm=>if m.2=r/\m.1∈S then ⟨m.1,-1⟩else m
theorem Ib{L:Wy}:d8 L t []=L:=by simp[d8]
theorem Ih{L:Wy}(r:Int)(h:∀m∈L,m.1∈l):d8 L r l=scratch L r:=by
 refine gH λm a=>?_;simp[h m a]
theorem Iv{L:Wy}(r:Int){m:Mv}(a:m∈L)(h:m.1∉l):m∈d8 L r l:=aY.2 ⟨m,a,aM λe=>h e.2⟩
theorem H8{L:Wy}{S:Wc}{m:Mv}(c:(ai L).Nodup)(b:m∈L)(h:m.2=t\/m.2=-1):oy (d8 L t S) m.1=d8 L t (S++[m.1]):=by
 unfold oy d8;rw[jO];refine gH λq hq=>?_;show(if (if q.2=t/\q.1∈S then (⟨q.1,-1⟩:Mv)else q).1=m.1 then (⟨(if q.2=t/\q.1∈S then (⟨q.1,-1⟩:Mv)else q).1,-1⟩:Mv)else (if q.2=t/\q.1∈S then (⟨q.1,-1⟩:Mv)else q))=_;have d:(if q.2=t/\q.1∈S then (⟨q.1,-1⟩:Mv)else q).1=q.1:=by split<;>rfl
 rw[d];by_cases e:q.1=m.1
 .have:=rY c hq b e;subst this;rw[aU rfl];by_cases a:q.2=t;·rw[aU ⟨a,sP⟩]
  rw[aM λe=>a e.1];obtain h|h:=h;·exact absurd h a
  cases q;simp_all
 rw[aM e];simp[e]
theorem Hc{L:Wy}{S:Wc}{m:Mv}(b:(ai L).Nodup)(a:m∈L)(h:m.2≠t):d8 L t (S++[m.1])=d8 L t S:=by
 refine gH λq hq=>?_;by_cases e:q.1=m.1
 .have:=rY b hq a e;subst this;rw[aM λe=>h e.1,aM λe=>h e.1]
 simp[e]
theorem Hh{L:Wy}:ai (d8 L t l)=ai L:=by
 unfold ai d8;rw[jO];refine gH λm _=>?_;show(if m.2=t/\m.1∈l then (⟨m.1,-1⟩:Mv)else m).1=m.1;split<;>rfl
theorem Hd{D:DataW Unit}(h:w.ownsMap prog 2 ay n m D)(d:Maps.size D<=k):w.ownsMap prog 2 ay n k D:=by
 obtain⟨b,a,c,F,e,rfl⟩:=h;exact⟨b,a,c,F,by simpa [Maps.size,length_sorted]using d,rfl⟩
theorem Hg{D:DataW Unit}(h:w.ownsMap prog 2 ay n m D):∀a,D=.map a->∀p∈a,WideAt.IsKeyLit p.1:=λa b p c=>by
 let⟨d,e1,_,e3⟩:=h.entries RC;rw[b]at e1;injection e1 with e1;subst e1;exact e3 p c
theorem Ij(k t a:Int)(W:Ub):(Instr.field 66 (.agg #[.int .i64 k,.int .i64 t,.int .i64 a,.int .i64 0,.int .i64 0]) 2).run prog W=.ok (.int .i64 a) W:=vZ
theorem IE{m:Mv}(h:m.2=-1\/(0<=m.2/\m.2<64))(a:0<=t):((N3 m).a=t/\(m.2=t\/m.2=-1))\/((N3 m).a≠t/\m.2≠t):=by
 unfold N3;split
 .show((0:Int)=t/\_)\/((0:Int)≠t/\_);omega
 show(m.2=t/\_)\/(m.2≠t/\_);omega
theorem Gy(D:DataW Unit){L:Wy}(j:Hs (w.ownsMap prog 2 ay n 64 D))(p:Hs (aK D L))(g:Hs (b9 L))(hr:0<=t):
 Calls prog 188 #[.map (some n),.int .i64 t] w λe w'=>e=.returned (.tuple #[])/\w.grownBy w' (some n)/\∃I,w'.ownsMap prog 2 ay n 64 I/\aK I (scratch L t):=by
 have a2:=j.lt;have ar:L.length<=64:=p.4▸j.size_le;have N:=Xa<|xJ D j j.size_le (p.perm g.1<|Hg j);have K:=Xa<|xQ (some n) w
 go_in
 go_wp2_with (first
  |(go_at_call 209;with_reducible refine K.o.mono ?_;rintro e w3⟨rfl,Z⟩;rw[Z];clear Z w3)
  |(go_at_call 208;with_reducible refine N.o.mono ?_;rintro e w4⟨a4,c4,a,rfl,z,Y,C⟩))
 have aj:=Xa Y;have M:=Xa<|rL z;have J:=Xa C;have bb:=C.4;have HN:=Xa<|((j6 a).trans z).nodup_iff.2 g.1;clear Y C N K;have af:=Xa<|j.kept (calm J) sP;have aa:Hs (w.grownBy w4<|some n):=Xa<|(calm J).but _;generalize U:L.length=B at*;have ad:=Xa U;clear U
 go_loopw [10] (λG wr=>∃(q:Nat)(b:DataW Unit),q<=B/\G=.int .i64 q/\Hs (w4.grownBy wr<|some n)/\Hs (wr.ownsMap prog 2 ay n 64 b)/\Hs (aK b<|d8 L t ((aw a).take q))) λG _=>B-(RowKit.intOf G).toNat
 case atStart=>exact⟨0,D,aN,rfl,Xa<|(calm<|Below.refl _ _).but _,af,Xa<|by rw[lK,Ib];exact p⟩
 obtain⟨q,b,hq,rfl,r,k,s⟩:=hrel;by_cases a8:q<B
 .have A:q<(aw a).length:=oN M.o
  obtain⟨P,o4,rfl,ao,Q⟩:=aj q (by simpa using A);have v:=(Xc (o:=o4+q) (r.5 P ao.2<|by simp;omega)).trans Q;rw[cM]at v;have X:=(rN z).1 (aH A);obtain⟨m,i,y⟩:=aY.1 X;have O:Hs ((aw a).take (q+1)=(aw a).take q++[m.1]):=Xa (y▸bN A);have T:m.1∉(aw a).take q:=λx=>by
   obtain⟨F,o,e⟩:=bR x;rw[dH]at o;rw[jG]at e;have:=gY.1 HN F q oM A oM;exact this<|by rw[e,y]
  rw[<-y]at v;have a3:Cl wr P (o4+q) (.int .i64 m.1):=v;clear v;have ba:=g.2 m i;have E:=xT k s (Iv t i T) oM;have ap:=g.3 m i;have c:=Xa<|IE ap hr;obtain⟨a0,u,R,a6,a7⟩:=rV m;rw[R]at E c;unfold d9 at E;dsimp only at E c;have ab:=Xa<|oD m.1 oM;have a1:=Xa k.size_le;have S:(d8 L t<|(aw a).take (q+1)).length<=64:=by unfold d8;rw[bK,ad.o];exact ar
  have ac:=Xa S;have a5:=Ij a0 m.1 u wr;clear Q X y R T S;by_cases f:u=t
  .have W:m.2=t\/m.2=-1:=by obtain h|h:=c.o;exact h.2;exact absurd f h.1
   have l:=Xa<|H8 (S:=(aw a).take q) g.1 i W;have x:(d8 L t<|(aw a).take q).any (λH=>H.1==m.1)=true:=by
    have:m.1∈ai (d8 L t<|(aw a).take q):=by rw[Hh];exact aY.2 ⟨m,i,rfl⟩
    obtain⟨H,hz,e⟩:=aY.1 this;exact List.any_eq_true.2 ⟨H,hz,by simpa using e⟩
   have d:Hs (aK (b.put (.int .i64 m.1) (fu ⟨13,m.1,0,0,0⟩)) (d8 L t<|(aw a).take (q+1))):=Xa (by rw[O.o,<-l.o];exact s.put_old x);have al:(u==t)=true:=by simpa using f
   clear c W x f l;go_wp2_with (at_mapUpdate;refine wpList_mapUpdate_own _ rfl _ _ _ 300 rfl 2 66 RC RE ay n 64 b rfl k (by unfold maxLen;omega) _ _ _ rfl rfl ab (fu ⟨13,m.1,0,0,0⟩) [] rfl ?_;intro w3 az aq)
   exact⟨⟨q+1,_,oM,gM,Xa (r.andThen aq λF o=>by cases o;exact aZ rfl),Xa (Hd az<|by rw[d.4];exact ac),d⟩,by simp[RowKit.intOf];omega⟩
  have V:m.2≠t:=by obtain h|h:=c.o;exact absurd h.1 f;exact h.2
  have l:=Xa<|Hc (S:=(aw a).take q) g.1 i V;have al:(u==t)=false:=by simpa using f
  have d:Hs (aK b<|d8 L t ((aw a).take (q+1))):=Xa (by rw[O.o,l.o];exact s);clear c V f l;go_wp2;exact⟨⟨q+1,_,oM,gM,r,k,d⟩,by simp[RowKit.intOf];omega⟩
 have a9:q=B:=oM
 have d:Hs (aK b<|scratch L t):=Xa (by
  have:=s.o;rw[aW<|oN M.o,Ih t λm p=>(rN z).2 (aY.2 ⟨m,p,rfl⟩)]at this;exact this)
 go_wp2
 go_end0
 exact⟨rfl,aa.andThen r (λF o=>by cases o;exact aZ rfl),b,k,d⟩
end
section
open Go.Maps Go.Sort
def pH:Value->Nat
 |.slice _ n _=>n
 |_=>0
theorem rU(h:w.ownsRow n m k a B y):pH a=B:=by
 obtain⟨rfl,h0,_⟩|⟨g,c,rfl,_,_⟩:=Vc h;·rw[h0];rfl
 rfl
theorem xL{b i:Int}:∀j u,([.int .i64 t,.int .i64 T,.int .i64 z,.int .i64 b,.int .i64 i]:Wo)[j]?=some u->(w.alloc<|.cells #[.int .i64 t,.int .i64 T,.int .i64 z,.int .i64 b,.int .i64 i] n).cell? ((⟨w.1.size,0,none⟩:Addr).add j)=some u:=λj u a=>by
 rw[ja]
 match j,a with
 |0,a=>simpa using a
 |1,a=>simpa using a
 |2,a=>simpa using a
 |3,a=>simpa using a
 |4,a=>simpa using a
theorem rZ(h:w.ownsRow (n+1) m k a B y):some n≠a.ownBlock:=λm=>by
 have:=(h.lt n m.symm).1;omega
theorem xW{b i:Int}:∀u∈([Hp t,Hp T,Hp z,Hp b,Hp i]:Wo),u.oneCell'=true:=λu a=>by
 simp at a;obtain rfl|rfl|rfl|rfl|rfl:=a<;>rfl
structure ID(w W w':Ub)(v v':Uj)(D:DataW Unit)(out:Vr)(x:Yg):Prop where
 row:w'.ownsRow (w.1.size+1) 66 5 v' (out++[x]).length (ZP<|out++[x])
 ne:v'≠.slice none 0 0
 map:w'.ownsMap prog 2 ay w.1.size 64 D
 below:Below w.1.size w w'
theorem yx{wr:Ub}{v1:Uj}{D:DataW Unit}{out:Vr}{e i:Int}{o:Obj}(b:Below w.1.size w wr)(c:v.ownsMap prog 2 ay w.1.size 64 D)(d:v.ownsRow (w.1.size+1) 66 5 a out.length (ZP out))(f:Below wr.1.size wr v)(m:a≠.slice none 0 0)(l:u.ownsRow (w.1.size+1) 66 5 v1 (out.length+1) (ZP out++[.int .i64 t,.int .i64 T,.int .i64 z,.int .i64 e,.int .i64 i]))(g:(v.alloc o).grownBy u a.ownBlock)(k:v1=.slice none 0 0↔a=.slice none 0 0/\1=0):ID w wr u a v1 D out ⟨t,T,z,e,i⟩:=by
 have j:=b.4;have n:=f.4;have p:=c.lt;refine⟨?_,λh=>m (k.1 h).1,(c.alloc o).kept g (rZ d),?_⟩;·rw[j7,aQ];exact l
 exact Xy ((b.trans<|f.mono j).alloc oM o) g (d.alloc o) gX (by simp;omega)
theorem GX{L:Wy}(h:b9 L){m:Mv}(c:m∈L)(b:bj (fo L)=some m.1):dm L=(N3 m,ff L m.1):=by
 unfold dm;rw[b];obtain⟨i,a,rfl⟩:=bR c;show(N3 ⟨_,pz L _⟩,_)=_;rw[yt h a]
theorem GS{L:Wy}(a:bj (fo L)=none)(b:bj (ai L)=some t):dm L=(⟨12,0,t,0,0⟩,scratch L t):=by
 unfold dm;rw[a];dsimp only;rw[b]
theorem Ia(D:DataW Unit){L:Wy}(i:Hs (w.ownsMap prog 2 ay n 64 D))(f:Hs (aK D L))(d:Hs (b9 L))(g:Hs (L≠[]))(j:Hs (Yy w))(a:bj (fo L)=some t):
 Calls prog 187 #[.map (some n)] w λe b=>e=.returned (.tuple #[Hp t,.bool true])/\Below w.1.size w b:=by
 refine(xr D i aA f d g j).mono ?_;rintro e b⟨c,l,k,rfl,⟨rfl,h⟩|⟨rfl,h,_⟩⟩;·rw[a]at h;cases h;exact⟨rfl,c⟩
 rw[a]at h;cases h
theorem Im(D:DataW Unit){L:Wy}(j:Hs (w.ownsMap prog 2 ay n 64 D))(g:Hs (aK D L))(c:Hs (b9 L))(i:Hs (L≠[]))(k:Hs (Yy w))(d:bj (fo L)=none)(f:bj (ai L)=some t):
 Calls prog 187 #[.map (some n)] w λe a=>e=.returned (.tuple #[Hp t,.bool false])/\Below w.1.size w a:=by
 refine(xr D j aA g c i k).mono ?_;rintro e a⟨b,m,l,rfl,⟨rfl,h⟩|⟨rfl,_,h⟩⟩;·rw[d]at h;cases h
 rw[f]at h;cases h;exact⟨rfl,b⟩
theorem Ht{b:Wy}(ha:Hs (gj w m k p b))(hx:Hs (n=b.length))(hn:n<=1048576)(hB:k<=w.1.size)(hr:Hs (∀a∈b,-9223372036854775808<=a.1/\a.1<=9223372036854775807))(ht:Hs (Yy w)):
 Calls prog 161 #[.slice p n c] w λf w'=>∃v,f=.returned v/\v≠Hq/\Below w.1.size w w'/\w'.ownsRow w.1.size 66 5 v (dp b).length (ZP<|dp b):=by
 have H:=Xa<|GB c ha hx hn hB hr;cases hgm:bw b with
 |false=>
  have L:Hs (dp b=[]):=Xa (by unfold dp;rw[hgm];rfl);rw[hgm]at H;clear hgm
  go_in
  go_wp2_with (go_at_call 186;with_reducible refine H.o.mono ?_;rintro f i⟨j,rfl,_⟩)
  have E:Hs (Below w.1.size w<|i.alloc (.cells #[] 66)):=Xa<|j.alloc j.4 _;have J:=Xa<|Zk (m7 i) j.4;generalize i.alloc _=W2 at*;generalize i.1.size=ao at*;clear j
  go_loopw [5] (λv wr=>v=Hl ao 0 0/\wr=W2) λ_ _=>0
  case atStart=>exact⟨rfl,rfl⟩
  obtain⟨rfl,rfl⟩:=hrel;go_wp2;go_ret;exact⟨_,rfl,sP,E,by rw[L.o];exact J⟩
 |true=>
  let⟨bb,ap⟩:=rK hgm;let⟨a0,aa⟩:=ap.start;have L:Hs (dp b=ax (dg<|bu b) (bu b)):=Xa (by unfold dp;rw[aU hgm,aa]);have ba:Hs ((dp b).length<=128):=Xa (by
   rw[L.o];refine aJ (oC _ _) ?_;rw[aa];have:(bu b).length<=b.length:=fJ _ _;omega)
  have e:=Xa a0;rw[hgm]at H;clear hgm ap a0 aa bb;let⟨i0,aq,a3,a4,a5⟩:=fX RB
  go_in
  go_wp2_with (go_at_call 186;with_reducible refine H.o.mono ?_;rintro f i⟨j,rfl,l⟩)
  let⟨D0,ab,az⟩:=l trivial;have be:=ab.lt;have E:Hs (Below w.1.size w<|i.alloc (.cells #[] 66)):=Xa<|j.alloc j.4 _;have J:Hs ((i.alloc<|.cells #[] 66).ownsRow (w.1.size+1) 66 5 (Hl i.1.size 0 0) 0 (ZP [])):=Xa<|Zk (m7 i) be;have al:=Xa<|ab.alloc (.cells #[] 66);have aj:=Xa az;generalize i.alloc _=W2 at*;generalize i.1.size=ao at*;clear j ab l az
  go_loopw [5] (λv wr=>∃(D:DataW Unit)(K:Wy)(out:Vr),Hs (wr.ownsMap prog 2 ay w.1.size 64 D)/\Hs (aK D K)/\Hs (b9 K)/\Hs (Below w.1.size w wr)/\Hs (wr.ownsRow (w.1.size+1) 66 5 v out.length (ZP out))/\Hs (v≠Hq)/\Hs (dp b=out++ax (dg K) K)) λv _=>200-pH v
  case atStart=>exact⟨D0,bu b,[],al,aj,e,E,J,Xa sP,Xa<|by rw[L.o];rfl⟩
  clear E J al aj e;let⟨D,K,out,q,o,e,s,I,U,F⟩:=hrel;have ar:=q.len RE 3;rw[o.4]at ar;have bv:=s.4;have bt:=q.lt;have HT:=Xa<|ht.keep s ht.1;by_cases hK:K=[]
  .subst hK;have a7:Hs (dp b=out):=Xa (by rw[F.o,py,fF]);rw[bO]at ar;go_wp2;go_ret;exact⟨_,rfl,U,s,by rw[a7.o];exact Zk I oM⟩
  have bp:=List.length_pos_iff.2 hK
  have X:=Xa<|If e hK;have af:=Xa<|rU I;have r:Hs (out.length+1<=128):=Xa (by
   have l:=ba.o;rw[F.o,X.o]at l;simp at l;omega)
  have S:Hs (K≠[]):=Xa hK;clear hK;generalize K.length=nk at*;cases hlo:bj (fo K)with
  |some C=>
   have a1:=(fG.1 (mq hlo).1).1;obtain⟨a,z,rfl⟩:=aY.1 a1;have M:=Xa<|GX e z hlo;have R:=Xa<|Ia D q o e S HT hlo;have O:=e.2 a z;have a8:=Xa<|oD a.1 oM;let⟨ac,ad,hk,bq,br⟩:=rV a;have a9:Hs (∀W,W.ownsMap prog 2 ay w.1.size 64 D->(Instr.lookup 300 (.map (some w.1.size)) (Hp a.1) false).run prog W=.ok (.agg #[Hp ac,Hp a.1,Hp ad,Hp 0,Hp 0]) W):=Xa (λW hW=>by
    have:=xT hW o z oM;rw[hk]at this;exact this)
   rw[hk]at M;have a6:=Xa<|o.del e.1 a.1;have V:=Xa<|e.without a.1;clear hlo a1 O hk
   go_wp2_with (first
    |(go_at_call 187;with_reducible refine R.o.mono ?_;rintro f P⟨rfl,g⟩;have G:=Xa<|q.o.kept (calm g) sP;have bd:=a9.o P G.o;have u:=Xa<|I.o.kept (calm g) (Classical.em _);have bl:=g.4;have Q:=Xa g;clear g)
    |(at_delete;refine wpList_delete_own _ rfl _ _ 300 2 rfl 66 RC RE ay w.1.size 64 D rfl d.3 _ _ rfl a8 ?_;intro w5 bi bn)
    |(at_builtin;refine bT _ rfl _ _ 58 rfl (w.1.size+1) 66 i0 (.agg #[Hp 0,Hp 0,Hp 0,Hp 0,Hp 0]) 5 40 underlying58 aq a3 a4 a5 rfl vY _ _ _ rfl (u.alloc _) (Hk P.1.size 0) 1 1 [Hp ac,Hp a.1,Hp ad,Hp 0,Hp 0] rfl rfl (xL) (xW) (by have:=r.o;unfold maxLen;omega) (oN r.o) (by simp;omega) ?_;intro v1 w4 B y A Y;have d:=Xa<|yx s G u Q U B y A;clear B y A Y bd)
    |go_in)
   have T:=Xa<|rU d.1;have t:=Xa bn.grown;refine⟨?_,?measure⟩
   (repeat apply gP)
   refine⟨?rel,rfl⟩;refine⟨_,ff K a.1,out++[⟨ac,a.1,ad,0,0⟩],Xa bi,a6,V,Xa (d.4.grown t (aJ (dU d.3.lt) aA) λbo Z=>by cases Z;exact aA),Xa (d.1.kept t<|aZ λf=>rZ d.1 f.symm),Xa d.2,Xa ?_⟩;·rw[F.o,X.o,M.o,cK];rfl
   have l:=af.o;have x:=T.o;have h3:=r.o;rw[aQ]at x;simp only[bA,bO]at x;show 200-pH v1<200-pH u5;omega
  |none=>
   have a2:ai K≠[]:=λf=>S<|by simpa [ai]using f
   let⟨C,N⟩:∃C,bj (ai K)=some C:=by
    cases h:bj (ai K)with
    |none=>exact absurd (lj.1 h) a2
    |some C=>exact⟨C,rfl⟩
   obtain⟨a,z,rfl⟩:=aY.1 (mq N).1;have M:=Xa<|GS hlo N;have R:=Xa<|Im D q o e S HT hlo N;have O:=e.2 a z;have V:=Xa<|e.scratch a.1;have bm:=O.1;clear hlo a2 O N
   go_wp2_with (first
    |(go_at_call 187;with_reducible refine R.o.mono ?_;rintro f P⟨rfl,g⟩;have G:=Xa<|q.o.kept (calm g) sP;have u:=Xa<|I.o.kept (calm g) (Classical.em _);have bl:=g.4;have Q:=Xa g;clear g)
    |(go_at_call 188;refine(Gy D (Xa d.3) o e bm).mono ?_;rintro f w5⟨rfl,bc,D5,bh,bf⟩)
    |(at_builtin;refine bT _ rfl _ _ 58 rfl (w.1.size+1) 66 i0 (.agg #[Hp 0,Hp 0,Hp 0,Hp 0,Hp 0]) 5 40 underlying58 aq a3 a4 a5 rfl vY _ _ _ rfl (u.alloc _) (Hk P.1.size 0) 1 1 [Hp 12,Hp 0,Hp a.1,Hp 0,Hp 0] rfl rfl (xL) (xW) (by have:=r.o;unfold maxLen;omega) (oN r.o) (by simp;omega) ?_;intro v1 w4 B y A Y;have d:=Xa<|yx s G u Q U B y A;clear B y A Y)
    |go_in)
   have T:=Xa<|rU d.1;have t:=Xa bc;refine⟨⟨_,scratch K a.1,out++[⟨12,0,a.1,0,0⟩],Xa bh,Xa bf,V,Xa (d.4.grown t (dU d.3.lt) λbo Z=>by cases Z;exact aA),Xa (d.1.kept t<|aZ λf=>rZ d.1 f.symm),Xa d.2,Xa ?_⟩,?_⟩;·rw[F.o,X.o,M.o,cK];rfl
   have l:=af.o;have x:=T.o;have h3:=r.o;rw[aQ]at x;simp only[bA,bO]at x;omega
end
theorem It(c:Jy n x)(d:m<x.length)(e:t∈AQ x 0 (m:Int)):∀i (h:i<x[m].1.length),ZX (n:Int) (AQ x 0 (m:Int)).length x[m].1[i]=true:=λi h=>by
 have a:=c.8 _ (aH d) _ (aH h);have b:=c.9 m d _<|aH h;have j:=eJ e;unfold ZX Jt Tp;simp only[bY,bD,dV,gG];exact⟨⟨a.1,a.2⟩,⟨⟨oM,b.1⟩,λg f=>b.2 g f⟩⟩
theorem Gx{Lc Bc:Nat}{L:Uy}{M:Nat}{L2 B2:Nat}{f t:Nat}(V:Hs (Bx w n #[Hp m,.slice p k c,.slice P i j,.slice L k M,a,A] 116))(ha:Hs (Xp w B g p x))(G:Hs (k=x.length))(hB:g<=w.1.size)(ho:Hs (Jy m x))(hc:Hs (Xf w Lc Bc P l))(af:Hs (i=l.length))(bo:Hs (i=m))(bl:Bc<=w.1.size)(dj:Hs (XR w L2 B2 L ((List.range k).map λZ:Nat=>AQ x 0 (Z:Int))))(c6:B2<=w.1.size)(hO:Hs (Yy w))(b8:t<k)(hp:Hs ((f:Int)∈AQ x 0 (t:Int)))(da:Hs (∀ar∈l,-9223372036854775808<=ar/\ar<=9223372036854775807)):
 Calls prog 117 #[Hn n,Hp f,Hp t] w λe h=>∃H,e=.returned H/\H≠Hq/\Below w.1.size w h/\h.ownsRow w.1.size 66 5 H (NL l x f (t:Int)).length (ZP<|NL l x f (t:Int)):=by
 let⟨i0,dd,dl,dn,ds⟩:=fX RA;have al:t<x.length:=oN G.o;have a1:=Xa<|ym ho al hp;have aa:Hs (NU l x f (t:Int)=(E9 (de (AQ x 0 (t:Int)) (f:Int)) (iT x (t:Int))).map λN=>⟨Kp l N.1,Kp l N.2⟩):=Xa rfl;have ad:Hs (E9 (de (AQ x 0 (t:Int)) (f:Int)) (iT x (t:Int))=E9 (de (AQ x 0 (t:Int)) (f:Int)) x[t].1):=Xa (by rw[pD al]);have ck:Hs (NL l x f (t:Int)=dp (NU l x f (t:Int))):=Xa rfl;have eo:k<=1000:=oP G.o ho.1.2
 have ac:=Xa (ho.10 _<|aH al).2;have O:Hs (∀W,Below w.1.size w W->Calls prog 160 #[.agg #[Hp m,.slice p k c],.slice L k M,Hp f,Hp t] W λe h=>∃C D,e=.returned (.agg #[Hp t,.slice C x[t].1.length D])/\Below W.1.size W h/\jb h W.1.size h.1.size C (E9 (de (AQ x 0 (t:Int)) (f:Int)) x[t].1)):=Xa λW hW=>GF (m:Int) c M (Xa<|ha.keep (hW.mono hB)) G (oN hW.4) (Xa<|dj.keep (hW.mono c6)) (Xa sP) (oN hW.4) b8 b8 (Xa λ_=>rfl) (Xa λR=>sP) (oP (YO (t:Int) x 0) G.o) (oN ac.o) hp (Xa<|It ho al hp);have X:=V.lt;have b0:=Bx.c V 0;have b1:=Bx.c V 1;have b3:=Bx.c V 3;let⟨T,hT⟩:∃T,T=E9 (de (AQ x 0 (t:Int)) (f:Int)) (iT x (t:Int)):=⟨_,rfl⟩;rw[<-hT]at a1 aa ad;rw[<-ad.o]at O;have J:Hs (x[t].1.length=T.length):=Xa (by rw[ad.o];simp[E9]);rw[J.o]at O ac;let⟨v,hm⟩:∃v,v=T.length:=⟨_,rfl⟩;rw[<-hm]at O ac;have HM:=Xa hm;clear hm hT ad J;have en:=ac.o;have be:Hs (Calls prog 160 #[.agg #[Hp m,.slice p k c],.slice L k M,Hp f,Hp t] (w.alloc<|.cells #[] 144).drew λe h=>∃C D,e=.returned (.agg #[Hp t,.slice C v D])/\h.cell? (Hk n 0)=some (Hp m)/\h.cell? (Hk n 1)=some (.slice p k c)/\h.cell? (Hk n 3)=some (.slice L k M)/\Hs (Below (w.1.size+1) (w.alloc<|.cells #[] 144).drew h/\jb h (w.1.size+1) h.1.size C T)/\(∀W,Sem.run prog (Instr.field 271 (.agg #[Hp t,.slice C v D]) 1) W=.ok (.slice C v D) W)):=Xa ((O (w.alloc<|.cells #[] 144).drew (Xb (Below.refl _ _) _).drew).mono (by
  rintro e o⟨C,D,rfl,E,S⟩;have b7:(w.alloc<|.cells #[] 144).drew.1.size=w.1.size+1:=by show(w.alloc _).1.size=_;simp
  rw[b7]at E S;have kw:=(Xb (Below.refl w.1.size w) (.cells #[] 144)).drew.trans (E.mono<|gX);exact⟨C,D,rfl,oB kw b0 X,oB kw b1 X,oB kw b3 X,Xa ⟨E,S⟩,λW=>vZ⟩))
 clear O
 go_in
 go_wp2_with fail
 go_region_held3 (λh=>h.cell? (Hk n 0)=some (Hp m)/\h.cell? (Hk n 1)=some (.slice p k c)/\h.cell? (Hk n 3)=some (.slice L k M)) (go_keep)
  (first
   |(go_at_call 160;with_reducible refine be.o.mono ?_;rintro e o⟨C,D,rfl,f0,f1,f3,bc,db⟩))
 let⟨E,S⟩:=bc.o;have bb:=Xa S;have du:=a1;have ep:w.1.size+1<=o.1.size:=by have:=E.4;have b7:(w.alloc<|.cells #[] 144).drew.1.size=w.1.size+1:=(by show(w.alloc _).1.size=_;simp);omega
 have cf:=Xa<|(Xb (Below.refl w.1.size w) (.cells #[] 144)).drew.trans (E.mono<|gX);have bf:Hs (o.ownsRow w.1.size 144 2 (Hl w.1.size 0 0) 0 []):=Xa (by
  have h0:=eI (base:=w.1.size) (e:=144) (size:=2) w #[] 0 aA sP rfl;have h1:Xv (w.alloc<|.cells #[] 144).drew (λb=>if b=w.1.size then (0,0,0)else (1,0,0)) (0,0,0) w.1.size 144 2 (Hl w.1.size 0 0) 0 []:=⟨h0,λb e=>aU<|by injection e with e;exact e.symm⟩;exact(h1.keep (w':=o) (λb _ h2 e=>⟨E.5 b (by
   by_cases hq:b=w.1.size;·omega
   rw[aM hq]at e;simp at e),e⟩)).1)
 clear S E bc be db b0 b1 b3 f0 f1 f3;go_wp2
 go_loopw [7,24] (λH Z wr=>∃d:Nat,d<=v/\Z=Hp d/\Hs (Below w.1.size w wr/\YA (w.1.size+1) o.1.size o wr/\o.1.size<=wr.1.size)/\Hs (wr.ownsRow w.1.size 144 2 H ((NU l x f (t:Int)).take d).length (Ng<|(NU l x f (t:Int)).take d))/\Hs (H≠Hq/\∀b,H.ownBlock=some b->b=w.1.size\/o.1.size<=b)) λ_ Z _=>v-(intOf Z).toNat
 case atStart=>exact⟨0,aN,rfl,Xa ⟨cf,YA.refl _ _ _,aA⟩,bf,Xa ⟨sP,λb e=>bC<|by injection e with e;exact e.symm⟩⟩
 obtain⟨d,hj,rfl,r,I,HV⟩:=hrel;have Q:Hs ((NU l x f (t:Int)).length=v):=Xa (by rw[aa.o,bK];exact HM.symm);by_cases em:d<v
 .have bv:d<T.length:=oN HM.o
  have a7:=a1 _<|aH bv;obtain⟨ab,ao,rfl,⟨ea,d0⟩,bp,bq⟩:=(bb.keepS r.2.1) d bv;have az:Hs ((NU l x f (t:Int)).take (d+1)=(NU l x f (t:Int)).take d++[⟨Kp l T[d].1,Kp l T[d].2⟩]):=Xa (by
   rw[bN<|oN Q.o];congr 1;simp[aa.o])
  have J:Hs (((NU l x f (t:Int)).take d).length=d):=Xa (by rw[dH,Q.o];omega);obtain⟨F,co,s,cc,eg,rfl,eb,a3⟩:=jq (hc.keep<|r.1.mono bl) a7.1.1 (oP af.o bo.o);let⟨dw,dz,u,cd,ej,a5,ec,a4⟩:=jq (hc.keep<|r.1.mono bl) a7.2.1 (oP af.o bo.o);injection a5 with a5;injection a5 with c8 c9;subst c8 c9;rw[cc]at bp a3 az;rw[cd]at bq a4 az;have ei:(s:Int)<(i:Int):=oN af.o;have ek:(u:Int)<(i:Int):=oN af.o
  have ef:(d:Int)<(v:Int):=oM;have c7:=r.2.2;have df:n<wr.1.size:=oM;have br:F<wr.1.size:=oM;have el:n≠wr.1.size:=oM;have ed:F≠wr.1.size:=oM;have l2:Cl wr n 2 (Hm F co i j):=(r.1.cell (p:=Hk n 2) X).trans (Bx.cell V rfl);let⟨z,y,Y⟩:∃z y,u7=.slice z ((NU l x f (t:Int)).take d).length y:=by
   obtain⟨e,R,_⟩|⟨z,y,e,_⟩:=Vc I;·exact absurd e HV.1
   exact⟨_,_,e⟩
  rw[J.o]at Y;subst Y;generalize Kp l (s:Int)=z1 at*;generalize Kp l (u:Int)=z2 at*;clear cc cd a7;go_wp2;have U:=(Xb (Below.refl wr.1.size wr) (.cells #[Hp s,Hp u] 274));have a2:=Bx.new wr #[Hp s,Hp u] 274;have t0:(wr.alloc<|.cells #[Hp s,Hp u] 274).cell? (Hk wr.1.size 0)=some (Hp s):=Bx.cell a2 rfl;have t1:(wr.alloc<|.cells #[Hp s,Hp u] 274).cell? (Hk wr.1.size 1)=some (Hp u):=Bx.cell a2 rfl;have s2:=oB U l2 df;have s3:=oB U a3 br;have s4:=oB U a4 br;have a0:Hs ((wr.alloc<|.cells #[Hp s,Hp u] 274).ownsRow w.1.size 144 2 (.slice z d y) d (Ng<|(NU l x f (t:Int)).take d)):=Xa (World.ownsRow.alloc (by have:=I.o;rw[J.o]at this;exact this) _);have bd:Hs (Below w.1.size w (wr.alloc<|.cells #[Hp s,Hp u] 274)/\YA (w.1.size+1) o.1.size o (wr.alloc<|.cells #[Hp s,Hp u] 274)):=Xa ⟨r.1.alloc r.1.4 _,r.2.1.trans<|YA.of_below (U.mono c7)⟩;have cs:Hs ((wr.alloc<|.cells #[Hp s,Hp u] 274).1.size=wr.1.size+1):=Xa sP;have cx:=Xa r.1.4;have dc:=Xa (λb e=>by have:=I.o;exact(this.lt b e).2);clear U a2 l2 a3 a4 bp bq I r;generalize wr.alloc _=q at*;have dk:=cs.o;have es:=cx.o;generalize wr.1.size=tb at*;have ca:tb<q.1.size:=oM;have di:n<q.1.size:=oM;have bt:F<q.1.size:=oM;have er:w.1.size<=q.1.size:=oM;have eq:o.1.size<=q.1.size:=oM;clear dk;refine Y7 (λh=>h.cell? (Hk n 2)=some (Hm F co i j)/\h.cell? (Hk tb 0)=some (Hp s)/\h.cell? (Hk tb 1)=some (Hp u)/\h.cell? (Hk F<|co+s)=some (Hp z1)/\h.cell? (Hk F<|co+u)=some (Hp z2)) λhHeld=>?_;refine Xn 0 ?_;refine Xn 1 ?_;refine Xn 2 ?_;refine Xn 3 ?_;refine Xn 4 ?_;refine Xn 5 ?_;refine Xn 6 ?_;refine Xn 7 ?_;refine Xn 8 ?_;refine Xn 9 ?_;refine Xn 10 ?_;refine Xn 11 ?_;refine Xn 12 ?_;refine Xn 13 ?_;refine Xn 14 ?_;refine Xn 15 ?_;refine Xn 16 ?_;refine Xn 17 ?_;refine Xs 18 λcz hK=>?_;go_simp;refine hK _ _ kP λhHeld=>?_;clear hK;refine Xs 19 λcz hK=>?_;refine d6 rfl _ _ 142 rfl w.1.size 144 i0 (.agg #[Hp 0,Hp 0]) 2 16 underlying142 dd dl dn ds rfl vY (.slice z d y) d (Ng<|(NU l x f (t:Int)).take d) rfl ?s1 (Hk q.1.size 0) 1 1 [Hp z1,Hp z2] rfl rfl ?s2 ?s3 ?s4 ?s5 ?s6 ?_
  case s1=>exact World.ownsRow.alloc (w:=q.drew) a0 _
  case s2=>exact ng _
  case s3=>intro et hu;simp at hu;obtain rfl|rfl:=hu<;>rfl
  case s4=>unfold maxLen;omega
  case s5=>omega
  case s6=>simp;omega
  intro v8 w8 b6 aj b4 bm;have bi:Hs ((q.drew.alloc<|.cells #[Hp z1,Hp z2] 144).ownsRow w.1.size 144 2 (.slice z d y) d (Ng<|(NU l x f (t:Int)).take d)):=Xa<|World.ownsRow.alloc (w:=q.drew) a0 _;have k8:∀b,b<q.1.size->some b≠(Value.slice z d y).ownBlock->w8.1[b]?=q.1[b]?:=λb hb a6=>(aj.5 b (by simp;omega) a6).trans (Below.heap_alloc q.drew _ _ hb)
  have cj:Hs (o.1.size<=w8.1.size):=Xa (by have:=aj.4;simp at this;omega);have ci:=Xa (Xy (Below.alloc bd.1.drew (show w.1.size<=q.1.size by omega) _) aj bi aA (by simp;omega));have cr:Hs (YA (w.1.size+1) o.1.size o w8):=Xa (λb h1 h2=>(k8 b oM λe=>by have:=HV.2 b e.symm;omega).trans (bd.2 b h1 h2));have cp:Hs (w8.ownsRow w.1.size 144 2 v8 ((NU l x f (t:Int)).take (d+1)).length (Ng<|(NU l x f (t:Int)).take (d+1))):=Xa (by
   rw[az.o,nf,aQ,J.o];exact b6)
  have cw:Hs (v8≠Hq/\∀b,v8.ownBlock=some b->b=w.1.size\/o.1.size<=b):=Xa ⟨λe=>by have:=(b4.1 e).2;omega,λb e=>by
   obtain R|R:=bm;·rw[R]at e;exact HV.2 b e
   rw[R]at e;injection e with e;right;rw[<-e];simp;omega⟩
  have K:∀b a9,b<q.1.size->some b≠(Value.slice z d y).ownBlock->w8.cell? (Hk b a9)=q.cell? (Hk b a9):=λb a9 hb a6=>Xc<|k8 b hb a6;have ap:∀b,b<w.1.size->some b≠(Value.slice z d y).ownBlock:=λb hb e=>by have:=(a0.lt b e.symm).1;omega
  have a8:some tb≠(Value.slice z d y).ownBlock:=λe=>by have:=dc tb e.symm;omega
  refine hK _ _ ⟨(K _ _ di<|ap _ X).trans s2,(K _ _ ca a8).trans t0,(K _ _ ca a8).trans t1,(K _ _ bt<|ap _ oM).trans s3,(K _ _ bt<|ap _ oM).trans s4⟩ λhHeld=>?_;clear hK b6 aj b4 bm K k8 ap a8 bi
  try simp only[xX]
  refine Xn 20 ?_;refine Yq ?_;clear hHeld;go_wp2;exact⟨⟨d+1,oM,gM,Xa ⟨ci,cr,cj⟩,cp,cw⟩,by simp[intOf];omega⟩
 have HE:Hs ((NU l x f (t:Int)).take d=NU l x f (t:Int)):=Xa<|aW (by rw[Q.o];omega)
 have bh:=I;rw[HE.o]at bh;let⟨aq,cq,Y,_,_,bx⟩:=m9 bh;rw[Q.o]at Y;have cm:=Xa bx;subst Y;have ee:¬(d:Int)<(v:Int):=oM;have cl:Hs (∀ba∈NU l x f (t:Int),-9223372036854775808<=ba.1/\ba.1<=9223372036854775807):=Xa (λba G=>by
  rw[aa.o]at G;obtain⟨N,_,rfl⟩:=aY.1 G;show -9223372036854775808<=Kp l N.1/\Kp l N.1<=9223372036854775807;unfold Kp;rw[bF];cases hq:l[N.1.toNat]? with
  |none=>simp
  |some ar=>exact da ar<|eN hq)
 clear bx I bb bf;go_wp2_with fail
 refine(Ht cm (Xa Q.symm) oM aA cl (Xa<|hO.keep r.1 hO.1)).mono ?_;rintro e w5⟨v5,rfl,ce,bn,b5⟩;have ch:=Xa<|Xg r.1 bn;have cn:Hs (w5.ownsRow w.1.size 66 5 v5 (NL l x f (t:Int)).length (ZP<|NL l x f (t:Int))):=Xa (by
  rw[ck.o];exact Zk b5 r.1.4)
 have cv:=Xa ce;clear bn b5 ce;go_wp2;go_ret;exact⟨_,rfl,cv,ch,cn⟩
section
theorem xI{iv:Vu}{A:List ag}(x:ag){B:List ag}:NH iv (A++x::B)=NH iv A++(Nf (iv A.length) x.2++Yu (λi (x:ag)=>Nf (iv i) x.2) (A.length+1) B):=by
 unfold NH;rw[rR,aV];rfl
theorem xM{iv:Vu}{xs:List ag}{i q:Nat}(h:i<xs.length)(hq:q<5){u v':Uj}{x':ag}(e:(Nf (iv i) xs[i].2).set q u=Nf v' x'.2):(NH iv xs).set (i*5+q) u=NH (λj=>if j=i then v' else iv j) (xs.set i x'):=by
 have e1:xs=xs.take i++xs[i]::xs.drop (i+1):=by rw[<-gZ h,hH]
 have b:(xs.take i).length=i:=by rw[dH];omega
 have e2:xs.set i x'=xs.take i++x':: xs.drop (i+1):=by rw[List.set_eq_take_append_cons_drop,aU h]
 have d:NH (λj=>if j=i then v' else iv j) (xs.take i)=NH iv (xs.take i):=rQ λj f=>aM oM;rw[e2,xI,b,d,aU rfl]
 conv=>lhs;rw[e1]
 rw[xI,b,List.set_append_right _ _ (by rw[pE,b];omega),pE,b,Nat.add_sub_cancel_left,List.set_append_left _ _ (by simp[Nf];omega),e];congr 2;exact rW _ _ _ _ _ λj x=>by show Nf (iv _) _=Nf (if _ then _ else _) _;rw[aM oM]
variable {w wr w8: Ub} {lab lab': Nat -> Nat×Nat×Nat} {base: Nat} {K J: Nat} {xs: List ag} {iv: Nat -> Uj}
theorem Nh.turn{g n c:Nat}(h:Nh w lab base (.slice (some ⟨g,0,none⟩) n c) K J xs iv)(t:n=xs.length)(o:K≠J){i q:Nat}(s:i<xs.length)(hq:q<5)(u f:Uj)(d:ag)(p:(Nf (iv i) xs[i].2).set q u=Nf f d.2)(v:Xv w lab (J,i,0) base 66 5 f d.1.length (ZP d.1)):Nh (w.setCell ⟨g,i*5+q,none⟩ u) lab base (.slice (some ⟨g,0,none⟩) n c) K J (xs.set i d) (λj=>if j=i then f else iv j):=by
 subst t;have r:=h.1.blk.2;have m:∀j b,lab b=(J,j,0)->b≠g:=λj b e q=>o (by rw[q,r]at e;injection e);refine⟨?_,λj l=>?_⟩
 .have:=h.1.set (i*5+q) u;rw[xM s hq p]at this;rw[bL];exact this
 rw[bL]at l;by_cases e:j=i
 .subst e;simp only[gG,cQ];exact v.sp (XW.put g _ u) λb e=>m _ b e
 simp only[aM e,bI λq=>e q.symm];exact(h.2 j l).sp (XW.put g _ u) λb e=>m _ b e
theorem Nh.other{v:Uj}(h:Nh w lab base v K J xs iv){i:Nat}(f:K≠J)(k:XW w w8 lab lab' base λb=>lab b≠(J,i,0)):Xv w8 lab' (K,0,0) base 84 5 v xs.length (NH iv xs)/\∀j (d:j<xs.length),j≠i->Xv w8 lab' (J,j,0) base 66 5 (iv j) xs[j].1.length (ZP xs[j].1) :=
 ⟨h.1.sp k λb e q=>f (by rw[e]at q;injection q),λj d g=>(h.2 j d).sp k λb e q=>g<|by rw[e]at q;injection q with _ q;injection q⟩
structure Op where
 w:Ub
 base:Nat
 L2:Nat
 B2:Nat
structure Nw(w0:Op)(wr:Ub)(lab:Nat->Nat×Nat×Nat)(lb:Nat)(V:Int)(a:Uy)(n c:Nat)(ac:Uy)(nc cc:Nat)(pa:Uy)(pc:Nat)(k:Int)(mv:Uj)(M:List ag)(iv:Vu):Prop where
 low:Below w0.2 w0.w wr
 bx:Bx wr lb #[.int .i64 V,.slice a n c,.slice ac nc cc,.slice pa n pc,.int .i64 k,mv] 116
 lw:w0.2<=lb
 m:Nh wr lab w0.2 mv 1 3 M iv
 fr:∀q,wr.1.size<=q->lab q=(0,0,0)
 l0:lab lb=(0,0,0)
 sm:YA w0.3 w0.4 w0.w wr
 lp:∀b,w0.3<=b->b<w0.4->lab b=(0,0,0)
 gd:w0.2<=w0.3/\w0.4<=w0.w.1.size/\w0.2<=w0.w.1.size/\¬(w0.3<=lb/\lb<w0.4)
variable {w0: Op} {lb: Nat} {V: Int} {a: Uy} {n c: Nat} {ac: Uy} {nc cc: Nat} {pa: Uy} {pc: Nat} {k: Int} {mv v8: Uj} {M: List ag}
theorem Nw.bs(h:Nw w0 wr lab lb V a n c ac nc cc pa pc k mv M iv):w0.2<=wr.1.size:=aJ h.9.2.2.1 h.1.4
theorem Nw.b2(h:Nw w0 wr lab lb V a n c ac nc cc pa pc k mv M iv):w0.4<=wr.1.size:=aJ h.9.2.1 h.1.4
theorem Nw.sms(h:Nw w0 wr lab lb V a n c ac nc cc pa pc k mv M iv){i:Vv}(g:XW wr w8 lab lab' w0.2 i)(f:∀b,lab b=(0,0,0)->i b):YA w0.3 w0.4 w0.w w8/\∀b,w0.3<=b->b<w0.4->lab' b=(0,0,0):=by
 have l:=h.9.1;have j:=h.b2;refine⟨λb d e=>(g.2 b oM oM<|f b (h.8 b d e)).1.trans (h.7 b d e),λb d e=>(g.2 b oM oM<|f b (h.8 b d e)).2.trans (h.8 b d e)⟩
theorem Nw.calm(h:Nw w0 wr lab lb V a n c ac nc cc pa pc k mv M iv)(b:Below wr.1.size wr w8):Nw w0 w8 lab lb V a n c ac nc cc pa pc k mv M iv :=
 ⟨h.1.trans<|b.mono h.bs,h.2.keep<|b.5 _ h.2.lt,h.3,h.m.sp (XW.below b) (λ_ _=>trivial) λ_ _ _ _=>trivial,λq hq=>h.5 q<|aJ b.4 hq,h.6,(h.sms (XW.below b) λ_ _=>trivial).1,h.8,h.9⟩
theorem Nw.spT(h:Nw w0 wr lab lb V a n c ac nc cc pa pc k mv M iv)(d:Below wr.1.size wr w8)(b:XW wr w8 lab lab' w0.2 λ_=>True):Nw w0 w8 lab' lb V a n c ac nc cc pa pc k mv M iv :=
 ⟨h.1.trans<|d.mono h.bs,h.2.keep<|d.5 _ h.2.lt,h.3,h.m.sp b (λ_ _=>trivial) λ_ _ _ _=>trivial,b.3 h.5,(b.2 _ h.3 h.2.lt trivial).2.trans h.6,(h.sms b λ_ _=>trivial).1,(h.sms b λ_ _=>trivial).2,h.9⟩
theorem Nw.push(h:Nw w0 wr lab lb V a n c ac nc cc pa pc k mv M iv)(x:ag){q:Uj}(hq:Xv wr lab (3,M.length,0) w0.2 66 5 q x.1.length (ZP x.1))(d:wr.grownBy w8 mv.ownBlock)(z:w8.ownsRow w0.2 84 5 v8 (M.length+1) (NH iv M++Nf q x.2))(v:v8.ownBlock=mv.ownBlock\/v8.ownBlock=some wr.1.size):
 (∃lab',Nw w0 (w8.setCell ⟨lb,5,none⟩ v8) lab' lb V a n c ac nc cc pa pc k v8 (M++[x]) λi=>if i=M.length then q else iv i)/\Bx w8 lb #[.int .i64 V,.slice a n c,.slice ac nc cc,.slice pa n pc,.int .i64 k,mv] 116:=by
 let⟨lab',u,f⟩:=h.m.push vY x hq d z v h.5;have g:∀b,lab b=(0,0,0)->lab b≠(1,0,0):=λb e q=>by rw[e]at q;simp at q
 have y:Below w0.2 wr w8:=⟨d.1,d.2,d.3,d.4,λq hq=>d.5 q (aX hq h.bs) λe=>by have:=(h.m.1.1.lt q e.symm).1;omega⟩;have r:=(f.2 _ h.3 h.2.lt<|g _ h.6).2.trans h.6;have m:=h.2.sp f h.3<|g _ h.6;have s:∀b L,lab' b=L->L≠(0,0,0)->b≠lb:=λb L e t q=>t (by rw[<-e,q];exact r);have o:=XW.put (w:=w8) (lab:=lab') (base:=w0.2) lb 5 v8;have p:=h.sms f g;exact⟨⟨lab',(h.1.trans y).setCell (p:=Hk lb 5) h.3 _,m.set 5 v8,h.3,u.sp o (λb e=>s b _ e sP) λb i _ e=>s b _ e sP,o.3<|f.3 h.5,r,λb j l=>(Below.heap_setCell _ _ _ _ λe=>h.9.2.2.2 (by have e2:b=lb:=e;rw[<-e2];exact⟨j,l⟩)).trans (p.1 b j l),p.2,h.9⟩,m⟩
theorem Nw.row{g t m:Nat}(h:Nw w0 wr lab lb V a n c ac nc cc pa pc k (.slice (some ⟨g,0,none⟩) t m) M iv)(I:t=M.length){i:Nat}(p:i<M.length)(d:Vr)(f:wr.grownBy w8 (iv i).ownBlock)(L:w8.ownsRow w0.2 66 5 v8 (M[i].1.length+d.length) (ZP M[i].1++ZP d))(G:v8.ownBlock=(iv i).ownBlock\/v8.ownBlock=some wr.1.size):
 (∃lab',Nw w0 (w8.setCell ⟨g,i*5,none⟩ v8) lab' lb V a n c ac nc cc pa pc k (.slice (some ⟨g,0,none⟩) t m) (M.set i ⟨M[i].1++d,M[i].2⟩) λj=>if j=i then v8 else iv j)/\Bx w8 lb #[.int .i64 V,.slice a n c,.slice ac nc cc,.slice pa n pc,.int .i64 k,.slice (some ⟨g,0,none⟩) t m] 116/\w8.cell? ⟨g,i*5,none⟩=some (iv i)/\(∀q,w8.frozen? ⟨g,q,none⟩=false)/\lb≠g:=by
 subst I;let⟨lab',O,l⟩:=(h.m.2 i p).grow f L G h.5;have u:∀b,lab b=(0,0,0)->lab b≠(3,i,0):=λb e q=>by rw[e]at q;simp at q
 have H:Below w0.2 wr w8:=⟨f.1,f.2,f.3,f.4,λq hq=>f.5 q (aX hq h.bs) λe=>by have:=((h.m.2 i p).1.lt q e.symm).1;omega⟩;have s:=(l.2 _ h.3 h.2.lt<|u _ h.6).2.trans h.6;have B:=h.2.sp l h.3<|u _ h.6;let⟨r,N⟩:=h.m.other vY l;have o:=r.blk;have D:lb≠g:=λe=>by rw[e]at s;rw[o.2]at s;simp at s
 have e1:(M[i].1++d).length=M[i].1.length+d.length:=aQ;have P:Xv w8 lab' (3,i,0) w0.2 66 5 v8 (M[i].1++d).length (ZP<|M[i].1++d):=by rw[e1,j7];exact O
 have v:=XW.put (w:=w8) (lab:=lab') (base:=w0.2) g (i*5) v8;have x:=h.sms l u;have E:∀j b,lab' b=(3,j,0)->b≠g:=λj b e q=>by rw[q,o.2]at e;simp at e
 have F:Nh (w8.setCell (Hk g<|i*5) v8) lab' w0.2 (Hl g M.length m) 1 3 (M.set i ⟨M[i].1++d,M[i].2⟩) (λj=>if j=i then v8 else iv j):=by
  refine⟨?_,λj C=>?_⟩
  .have:=r.set (i*5) v8;have y:=xM (q:=0) (u:=v8) (v':=v8) (x':=⟨M[i].1++d,M[i].2⟩) p oM (iv:=iv) rfl;rw[fW]at y;rw[y]at this;rw[bL];exact this
  rw[bL]at C;by_cases e:j=i
  .subst e;simp only[gG,cQ];exact P.sp v λb e=>E _ b e
  simp only[aM e,bI λq=>e q.symm];exact(N j C e).sp v λb e=>E _ b e
 refine⟨⟨lab',(h.1.trans H).setCell (p:=Hk g<|i*5) o.1.1 _,B.other D,h.3,F,v.3<|l.3 h.5,s,λb z A=>(Below.heap_setCell _ _ _ _ (λe=>by have:=x.2 b z A;have e2:b=g:=e;rw[e2,o.2]at this;simp at this)).trans (x.1 b z A),x.2,h.9⟩,B,?_,λq=>r.thaw q,D⟩;have:=lq (q:=0) (u:=iv i) r p oM rfl;rwa[fW]at this
end
def PH(m:Op)(wr:Ub)(g:Nat)(V:Int)(a:Uy)(n c:Nat)(b:Uy)(i d:Nat)(j:Uy)(l:Nat)(k:Int)(M:List ag):Prop:=∃f h e,Nw m wr f g V a n c b i d j l k h M e
structure O4(w0:Op)(V:Nat)(a:Uy)(n:Nat)(xs:Wi)(L B:Nat)(ac:Uy)(nc:Nat)(cs:Wc)(Lc Bc:Nat)(pa:Uy):Prop where
 blks:Xp w0.w L B a xs
 len:n=xs.length
 hB:B<=w0.2
 ok:Jy V xs
 ints:Xf w0.w Lc Bc ac cs
 lc:nc=cs.length
 lv:nc=V
 hBc:Bc<=w0.2
 preds:XR w0.w w0.3 w0.4 pa ((List.range n).map λi:Nat=>AQ xs 0 (i:Int))
 ops:Yy w0.w
 opb:1 < w0.2
 cr:∀z∈cs,-9223372036854775808<=z/\z<=9223372036854775807
theorem O4.copies{b:Op}{o:Uy}{s:Uy}(G:O4 b n P m x k B o g l i j s){r y J:Nat}{p t:Nat}(f:Below b.2 b.w w)(K:b.2<=w.1.size)(F:YA b.3 b.4 b.w w)(z:b.4<=w.1.size)(D:Bx w r #[Hp n,.slice P m c,.slice o g y,.slice s m J,a,A] 116)(H:t<m)(E:(p:Int)∈AQ x 0 (t:Int)):
 Calls prog 117 #[Hn r,Hp p,Hp t] w λe v=>∃h u,e=.returned (.slice h (NL l x p (t:Int)).length u)/\Below w.1.size w v/\v.ownsRow w.1.size 66 5 (.slice h (NL l x p (t:Int)).length u) (NL l x p (t:Int)).length (ZP<|NL l x p (t:Int))/\∃d,h=some (Hk d 0):=by
 refine(Gx (Xa D) (Xa<|G.1.keep (f.mono G.3)) (Xa G.2) (oN G.3) (Xa G.4) (Xa<|G.5.keep (f.mono G.8)) (Xa G.6) (Xa G.7) (oN G.8) (Xa<|G.9.keepS F) z (Xa<|G.10.keep f G.11) H (Xa E) (Xa G.cr)).mono ?_;rintro e L⟨v5,rfl,I,C,q⟩;obtain⟨e,_,_⟩|⟨d,c,e,_,_⟩:=Vc q;·exact absurd e I
 subst e;exact⟨_,_,rfl,C,q,d,rfl⟩
theorem xt(C:Op)(c:Nat)(cc:Nat){pa:Uy}(pc:Nat)(o:Nat)(a0:Int)(M:List ag){q t:Nat}(hG:Hs (O4 C n p m x k B P g l i j pa))(hH:Hs (PH C w o (n:Int) p m c P g cc pa pc a0 M))(hM:M.length<=5000)(bc:t<m)(hp:Hs ((q:Int)∈AQ x 0 (t:Int))):
 Calls prog 118 #[Hn o,Hp q,Hp t] w λE y=>E=.returned (Hp (ah l x q (t:Int) M.length).1)/\PH C y o (n:Int) p m c P g cc pa pc a0 (M++(ah l x q (t:Int) M.length).2)/\∀b l,Bx w b l 56->Bx y b l 56:=by
 obtain⟨j0,a7,bd,be,bf⟩:=fX Qa;obtain⟨bh,mv,iv,v⟩:=hH.o;have J:=Xa<|hG.copies v.1 v.bs v.7 v.b2 v.2 bc hp;obtain⟨T,U,a9⟩:=v.m.1.form;subst a9;have K:=Xa v;have Z:Hs (ah l x q (t:Int) M.length=if NL l x q (t:Int)=[]then ((t:Int),[])else ((M.length:Int),[⟨NL l x q (t:Int),⟨1,0,(t:Int),0⟩⟩])):=Xa rfl;obtain⟨D,aj⟩:∃D,D=NL l x q (t:Int):=⟨_,rfl⟩;rw[<-aj]at J Z;obtain⟨d,ab⟩:∃d,d=D.length:=⟨_,rfl⟩;rw[<-ab]at J;have V:=Xa ab;clear aj ab v hH
 go_in
 go_wp2_with fail
 refine J.mono ?_;rintro E s⟨va,r,rfl,Q,aq,h,rfl⟩;obtain⟨br,ar,az⟩:=Xv.fresh (L:=(3,M.length,0)) (lab:=bh) (base:=C.2) Q aq K.bs K.5;have z:=Xa<|K.spT Q az;have X:Hs (∀b l,Bx w b l 56->Bx s b l 56):=Xa λb l F=>F.keep<|Q.5 b F.lt;have ad:=Xa ar;clear Q aq ar az J K;by_cases h0:d=0
 .have W:Hs (ah l x q (t:Int) M.length=((t:Int),[])):=Xa (by rw[Z.o,aU<|List.length_eq_zero_iff.1 (by rw[<-V.o];exact h0)]);subst h0;go_wp2;go_ret;rw[W.o];exact⟨rfl,⟨_,_,_,by rw[fF];exact z⟩,X⟩
 have W:Hs (ah l x q (t:Int) M.length=((M.length:Int),[⟨D,⟨1,0,(t:Int),0⟩⟩])):=Xa (by rw[Z.o,aM λE=>h0<|by rw[V.o,E];rfl]);have bi:¬(d:Int)=0:=oM;obtain⟨e,R⟩:∃e,e=M.length:=⟨_,rfl⟩;have u:=Xa R;rw[<-R]at hM;have S:=Bx.c z.2 5;rw[<-R]at S;clear R;go_wp2;have aa:=(Xb (Below.refl s.1.size s) (.cells #[Hl h d r,Hp 1,Hp 0,Hp t,Hp 0] 84));have A:=Bx.new s #[Hl h d r,Hp 1,Hp 0,Hp t,Hp 0] 84;have L:=Xa<|z.calm aa;have a3:Hs (∀b l,Bx w b l 56->Bx (s.alloc<|.cells #[Hl h d r,Hp 1,Hp 0,Hp t,Hp 0] 84) b l 56):=Xa λb l F=>(X b l F).box _;clear X;have a4:=Xa (ad.sp (XW.below aa) λ_ _=>trivial);have bn:=z.2.lt;have a8:=z.5 _<|aA;have a5:Hs ((s.alloc<|.cells #[Hl h d r,Hp 1,Hp 0,Hp t,Hp 0] 84).1.size=s.1.size+1):=Xa sP;have bp:=z.bs;clear aa S z ad;generalize s.alloc _=a at*;have a6:s.1.size<a.1.size:=oN a5.o;generalize s.1.size=f at*;have bo:o<a.1.size:=oM;have bq:C.2<=a.1.size:=oM;have bm:o≠f:=oM;have bl:f≠o:=oM;have t0:=Bx.c A 0;have t1:=Bx.c A 1;have t2:=Bx.c A 2;have t3:=Bx.c A 3;have t4:=Bx.c A 4;have S:a.cell? (Hk o 5)=some (.slice T e U):=by rw[u.o];exact Bx.cell L.2 rfl
 have a1:=Xa A;clear A;have Y:Hs ((a.drew.alloc<|.cells #[Hl h d r,Hp 1,Hp 0,Hp t,Hp 0] 84).ownsRow C.2 84 5 (.slice T e U) e (NH iv M)):=Xa (World.ownsRow.alloc (w:=a.drew) (by rw[u.o];exact L.m.1.1) _);refine Y7 (λy=>y.cell? (Hk f 0)=some (Hl h d r)/\y.cell? (Hk f 1)=some (Hp 1)/\y.cell? (Hk f 2)=some (Hp 0)/\y.cell? (Hk f 3)=some (Hp t)/\y.cell? (Hk f 4)=some (Hp 0)) λhHeld=>?_;refine Xn 0 ?_;refine Xn 1 ?_;refine Xn 2 ?_;refine Xn 3 ?_;refine Xn 4 ?_;refine Xn 6 ?_;refine eS (rs:=[5,7]) vZ sP ?_;refine(bQ rfl (λN hK=>?_) (bQ rfl (λN hK=>?_) dY))
 focus
  go_simp;refine hK _ _ kP λhHeld=>?_;clear hK
  try simp only[xX]
  refine eS (rs:=[7]) vZ sP ?_
 rotate_left
 focus
  go_simp;refine hK _ _ kP λhHeld=>?_;clear hK
  try simp only[xX]
  refine eS (rs:=[5]) vZ sP ?_
 all_goals (
  refine bQ rfl (λN hK=>?_) dY;go_simp;refine hK _ _ kP λhHeld=>?_;clear hK
  try simp only[xX]
  refine Xs 8 λN hK=>?_;refine d6 rfl _ _ 23 rfl C.2 84 j0 (.agg #[Hq,Hp 0,Hp 0,Hp 0,Hp 0]) 5 56 underlying23 a7 bd be bf rfl vY (.slice T e U) e (NH iv M) rfl Y (Hk a.1.size 0) 1 1 [Hl h d r,Hp 1,Hp 0,Hp t,Hp 0] rfl rfl (World.news_of_block<|World.alloc_heap_new _ _) ?s3 ?s4 ?s5 ?s6 ?_
  case s3=>intro bv hu;simp at hu;obtain rfl|rfl|rfl|rfl|rfl:=hu<;>rfl
  case s4=>unfold maxLen;omega
  case s5=>omega
  case s6=>simp;omega
  intro v8 w8 ac H ba ao;have hA:=L.calm (w8:=a.drew.alloc<|.cells #[Hl h d r,Hp 1,Hp 0,Hp t,Hp 0] 84) ((Below.refl a.1.size a).drew.alloc aA _);have hR:=a4.sp (w':=a.drew.alloc<|.cells #[Hl h d r,Hp 1,Hp 0,Hp t,Hp 0] 84) (XW.below<|(Below.refl a.1.size a).drew.alloc aA _) λ_ _=>trivial;obtain⟨⟨bt,al⟩,I⟩:=hA.push ⟨D,⟨1,0,(t:Int),0⟩⟩ (by show Xv _ _ _ _ _ _ _ D.length _;rw[<-V.o];exact hR) (by rw[<-u.o];exact H) (by rw[<-u.o];exact ac) (by rw[<-u.o];exact ao);obtain⟨g8,c8,rfl,_,_⟩:=Xm ac oM;have ap:some f≠(Value.slice T e U).ownBlock:=λE=>by
   have h9:=L.m.1.2 f (by rw[<-u.o];exact E.symm);rw[a8]at h9;simp at h9
  have G:=a1.keep ((H.5 f (by simp;omega) ap).trans (Below.heap_alloc a.drew _ _ a6));rw[<-u.o]at I;have k5:=Bx.c I 5;have kz:=Bx.thaw I;have af:=Xa al;have a2:Hs (∀b l,Bx w b l 56->Bx (w8.setCell (Hk o 5) (Hl g8 (e+1) c8)) b l 56):=Xa (λb l F=>by
   have h1:=a3 b l F;have O:Bx (a.drew.alloc<|.cells #[Hl h d r,Hp 1,Hp 0,Hp t,Hp 0] 84) b l 56:=Bx.box (w:=a.drew) h1 _;exact(O.grown H<|rJ O Y vY).other (j8 (O.grown H<|rJ O Y vY) I vY))
  refine hK _ _ ⟨Bx.cell G rfl,Bx.cell G rfl,Bx.cell G rfl,Bx.cell G rfl,Bx.cell G rfl⟩ λhHeld=>?_;clear hK ac H ba ao hA hR al I G ap t0 t1 t2 t3 t4 S
  try simp only[xX]
  refine Xn 9 ?_;refine Xn 10 ?_;refine Xn 11 ?_;refine Xs 12 λN hK=>?_;go_simp;refine hK _ _ kP λhHeld=>?_;clear hK;refine Yq ?_;clear hHeld;have q5:(w8.setCell (Hk o 5) (Hl g8 (e+1) c8)).cell? (Hk o 5)=some (Hl g8 (e+1) c8):=Bx.cell af.2 rfl;generalize w8.setCell _ _=w9 at*;clear k5 kz;go_wp2;go_ret
  rw[W.o];exact⟨by rw[u.o];simp,⟨_,_,_,af⟩,a2⟩)
theorem Nw.te{l:Op}{wr:Ub}{y:Uy}{o:Nat}{M:List ag}(b:Nw l wr Z n t p m c P k B y g T (.slice (some ⟨i,0,none⟩) j o) M h)(w:j=M.length){a q:Nat}(v:a<M.length)(hq:q<5)(u:Uj){t':Yj}(A:(Nf (h a) M[a].2).set q u=Nf (h a) t'):
 Nw l (wr.setCell ⟨i,a*5+q,none⟩ u) Z n t p m c P k B y g T (.slice (some ⟨i,0,none⟩) j o) (M.set a ⟨M[a].1,t'⟩) (λx=>if x=a then h a else h x):=by
 have z:=b.m.turn w vY v hq u (h a) ⟨M[a].1,t'⟩ A (b.m.2 a v);subst w;have f:=b.m.1.blk;have C:n≠i:=λe=>by have:=b.6;rw[e,f.2]at this;simp at this
 exact⟨b.1.setCell (p:=Hk i<|a*5+q) f.1.1 _,b.2.other C,b.3,z,(XW.put (w:=wr) (lab:=Z) (base:=l.2) i (a*5+q) u).3 b.5,b.6,λd r s=>(Below.heap_setCell _ _ _ _ (λe=>by have:=b.8 d r s;have e2:d=i:=e;rw[e2,f.2]at this;simp at this)).trans (b.7 d r s),b.8,b.9⟩
theorem GC(d:Op){Lc Bc:Nat}{Q:Uy}{G:Nat}{u:Nat}{M:List ag}{a:Nat}(y:Hs (O4 d n p m x k B P i l Lc Bc Q))(hH:Hs (PH d w u (n:Int) p m c P i j Q G t M))(hM:M.length<=4000)(ao:a<x.length)(F:a<M.length)(hx:Hs (M[a]=⟨x[a].2.map (ZR l),NN l x[a].3⟩)):
 Calls prog 52 #[Hn u,Hp a] w λf T=>f=.returned (.tuple #[])/\PH d T u (n:Int) p m c P i j Q G t (M.set a (Nk l x a x[a] M.length).1++(Nk l x a x[a] M.length).2):=by
 obtain⟨i0,ci,ct,cv,cw⟩:=fX RB;have HN:=Xa y.2;obtain⟨d0,mv,iv,r⟩:=hH.o;obtain⟨N,ob,rfl,⟨_,db⟩,cg⟩:=y.1 a ao;obtain⟨qa,qc,ia,ic,_,_,⟨e2,e3,e4,e5⟩,_,_⟩:=cg;have ch:N<d.2:=oN y.3;have K:Hs (∀H:Int,H∈x[a].3.tg->(0<=H/\H<m)/\(a:Int)∈AQ x 0 H):=Xa (λH ht=>⟨by have:=y.4.1.3 _ (aH ao) H ht;rw[HN.o];exact this,by have:=rP H x 0 a ao ht;simpa using this⟩);have aa:=λcx=>r.1.cell (p:=Hk N cx) ch;have f2:=(aa _).trans e2;have f3:=(aa _).trans e3;have f4:=(aa _).trans e4;have f5:=(aa _).trans e5;have dc:N<w.1.size:=oN r.bs;have dk:(a:Int)<(m:Int):=oN HN.o;obtain⟨O,mc,cn⟩:=r.m.1.got oM;subst cn;obtain⟨va,vc,aj⟩:=(r.m.2 a F).form;have a6:M[a].1.length=x[a].2.length:=by rw[hx.o,bK]
 rw[a6]at aj;have a0:=Xa a6;have J:=Xa aj;have bi:=Xa (y.4.10 _<|aH ao).1;obtain⟨ml,a7⟩:∃ml,ml=M.length:=⟨_,rfl⟩;have c9:=Xa a7;have dl:(a:Int)<(ml:Int):=oM;have l5:w.cell? (Hk u 5)=some (Hl O ml mc):=by rw[a7];exact Bx.cell r.2 rfl
 have m0:w.cell? (Hk O<|a*5)=some (.slice va x[a].2.length vc):=by have:=lq (q:=0) (u:=iv a) r.m.1 F oM rfl;rw[fW,aj]at this;exact this
 have cm:=r.m.1.blk.1.2;have dd:=r.2.lt;clear a6 aj a7;have l1:=Bx.c r.2 1;have L:=Xa r;have q:Hs (Nk l x a x[a] M.length=if x[a].3.1=1 then (⟨x[a].2.map (ZR l)++NL l x a x[a].3.3,NN l x[a].3⟩,[])
  else if x[a].3.1=2 then (⟨x[a].2.map (ZR l),⟨x[a].3.1,Kp l x[a].3.a,(ah l x a x[a].3.3 M.length).1,(ah l x a x[a].3.4 (M.length+(ah l x a x[a].3.3 M.length).2.length)).1⟩⟩,(ah l x a x[a].3.3 M.length).2++(ah l x a x[a].3.4 (M.length+(ah l x a x[a].3.3 M.length).2.length)).2)
  else (⟨x[a].2.map (ZR l),NN l x[a].3⟩,[])):=Xa rfl
 obtain⟨af,hR⟩:∃af,af=Nk l x a x[a] M.length:=⟨_,rfl⟩;rw[<-hR]at q |-;clear r aa e2 e3 e4 e5 hR;generalize x[a]=cb at*;obtain⟨ps,A,kd,o,R,S⟩:=cb;dsimp only at f2 f3 f4 f5 q K hx a0 J bi m0
 go_in
 by_cases h1:kd=1
 .subst h1;rw[aU rfl]at q;have b0:=K R (by simp[Yj.tg]);obtain⟨b,rfl⟩:∃b:Nat,R=(b:Int):=⟨R.toNat,oM⟩;have az:=Xa λ(W:Ub)(hW:Below d.2 d.w W)(ce:d.2<=W.1.size)(cq:YA d.3 d.4 d.w W)(cd:d.4<=W.1.size)(hb:Bx W u #[Hp n,Hm N ob m c,.slice P i j,.slice Q m G,Hp t,Hl O M.length mc] 116)=>y.copies (p:=a) (t:=b) hW ce cq cd hb oM b0.2;have a2:Hs ((NL l x a (b:Int)).length<=128):=Xa<|m8 _;obtain⟨V,bm⟩:∃V,V=NL l x a (b:Int):=⟨_,rfl⟩;rw[<-bm]at az a2 q;obtain⟨cl,a4⟩:∃cl,cl=V.length:=⟨_,rfl⟩;rw[<-a4]at az a2;have bb:=Xa a4;have da:=a2.o;have du:=bi.o;clear bm a4 b0 K;have E:=Xb (Below.refl w.1.size w) (.cells #[Hp 1,Hp o,Hp b,Hp S] 56);have C:=Bx.new w #[Hp 1,Hp o,Hp b,Hp S] 56;have s:=Xa<|L.calm E;have di:O≠w.1.size:=oM;have dj:w.1.size≠O:=oM;have u2:(w.alloc<|.cells #[Hp 1,Hp o,Hp b,Hp S] 56).cell? (Hk w.1.size 2)=some (Hp b):=Bx.cell C rfl;have b3:=oB E m0 cm;have I:=Xa C;have b7:=Xa<|L.5 _ aA;have ds:=E.4;clear C E;go_wp2;clear f2 f3 f4 f5 l1 l5 m0 L;generalize w.alloc _=U at*;have br:O<U.1.size:=oM;generalize w.1.size=tb at*;have be:=Xa<|az.o U.drew s.1.drew s.bs s.7 s.b2 (s.2.keep rfl);refine Y7 (λT=>T.cell? (Hk tb 2)=some (Hp b)) λhHeld=>?_;refine Xn 0 ?_;refine Xn 1 ?_;refine Xn 2 ?_;refine Xn 3 ?_;refine Xn 5 ?_;refine Xn 6 ?_;refine Xn 7 ?_;refine Xn 8 ?_;refine eS (rs:=[4,9]) vZ sP ?_;refine(bQ rfl (λZ hK=>?_) (bQ rfl (λZ hK=>?_) dY))
  focus
   go_simp;refine hK _ _ kP λhHeld=>?_;clear hK
   try simp only[xX]
   refine Xs 9 λZ hK=>?_;go_simp
   go_at_call 117
   with_reducible refine be.o.mono ?_
   rintro f w5⟨c6,c5,rfl,ab,ac,g5,rfl⟩;have v:=Xg (Below.refl U.1.size U).drew ab;have Y:=Xa<|s.calm v;have X:=Xa<|I.keep (v.5 _ I.lt);have x5:=oB v b3 br;have bf:=Xa ac;have s5:=Bx.c X 2;clear ab ac v;dsimp only;refine hK _ _ s5 λhHeld=>?_;clear hK
  rotate_left
  focus
   go_simp
   go_at_call 117
   with_reducible refine be.o.mono ?_
   rintro f w5⟨c6,c5,rfl,ab,ac,g5,rfl⟩;have v:=Xg (Below.refl U.1.size U).drew ab;have Y:=Xa<|s.calm v;have X:=Xa<|I.keep (v.5 _ I.lt);have x5:=oB v b3 br;have bf:=Xa ac;have s5:=Bx.c X 2;clear ab ac v;dsimp only;refine hK _ _ s5 λhHeld=>?_;clear hK
   try simp only[xX]
   refine Xs 4 λZ hK=>?_;go_simp;refine hK _ _ kP λhHeld=>?_;clear hK
  all_goals (
   refine Xs 10 λZ hK=>?_;refine d6 rfl _ _ 58 rfl d.2 66 i0 (.agg #[Hp 0,Hp 0,Hp 0,Hp 0,Hp 0]) 5 40 underlying58 ci ct cv cw rfl vY (.slice va A.length vc) A.length (ZP M[a].1) rfl ?s1 (Hk g5 0) cl c5 (ZP V) rfl ?s0 ?s2 ?s3 ?s4 ?s5 ?s6 ?_
   case s1=>have:=(Y.m.2 a F).1;rw[a0.o,J.o]at this;exact this
   case s0=>rw[iR,bb.o]
   case s2=>
    intro b1 ef hu;have:=Jj bf hu;cases b1 with
    |zero=>simpa [Addr.add]using this
    |succ b1=>simpa [Addr.add]using this
   case s3=>exact l7 _
   case s4=>unfold maxLen;omega
   case s5=>omega
   case s6=>exact Y.bs
   intro v8 w8 a9 a5 cp bo;obtain⟨⟨eb,z⟩,ck,cf,dw,df⟩:=Y.row rfl F V (by rw[J.o];exact a5) (by rw[a0.o,<-bb.o];exact a9) (by rw[J.o];exact bo);rw[J.o]at cf;obtain⟨a8,c8,rfl⟩:∃a8 c8,v8=.slice a8 (A.length+cl) c8:=by
    obtain⟨f,h,_⟩|⟨g,c,f,_⟩:=Vc a9;·exact⟨none,0,by rw[f,h]⟩
    exact⟨_,_,f⟩
   have a1:=Xa z;have bp:Bx w8 tb _ _:=X.keep (a5.5 tb X.lt (λf=>by
    have h9:=(Y.m.2 a F).2 tb (by rw[J.o];exact f.symm);rw[b7.o]at h9;simp at h9))
   refine hK _ _ (Bx.cell bp rfl) λhHeld=>?_;clear hK a9 a5 cp bo z ck bp
   try simp only[xX]
   refine Xn 11 ?_;refine Xn 12 ?_;refine Xs 13 λZ hK=>?_;go_simp;refine hK _ _ kP λhHeld=>?_;clear hK;refine Yq ?_;clear hHeld;go_wp2;refine bodyPost_end (v:=.tuple #[]) (by simp[results,results52,go_sem]) rfl ⟨rfl,?_⟩;rw[q.o,fF];exact⟨_,_,_,by have:=a1.o;rw[hx.o]at this;exact this⟩)
 by_cases h2:kd=2
 .subst h2
  rw[aM vY,aU rfl]at q;have bt:=K R (by simp[Yj.tg]);have bv:=K S (by simp[Yj.tg]);obtain⟨b,rfl⟩:∃b:Nat,R=(b:Int):=⟨R.toNat,oM⟩;obtain⟨e,rfl⟩:∃e:Nat,S=(e:Int):=⟨S.toNat,oM⟩;have cr:b<m:=oM;have cs:e<m:=oM;have b8:=Xa bt.2;have ca:=Xa bv.2;have E:=Xb (Below.refl w.1.size w) (.cells #[Hp 2,Hp o,Hp b,Hp e] 56);have C:=Bx.new w #[Hp 2,Hp o,Hp b,Hp e] 56;have s:=Xa<|L.calm E;clear bt bv K;have u3:(w.alloc<|.cells #[Hp 2,Hp o,Hp b,Hp e] 56).cell? (Hk w.1.size 3)=some (Hp e):=Bx.cell C rfl;have I:=Xa C;obtain⟨s1,ap⟩:∃s1,s1=ah l x a (b:Int) M.length:=⟨_,rfl⟩;rw[<-ap]at q;obtain⟨s2,aq⟩:∃s2,s2=ah l x a (e:Int) (M.length+s1.2.length):=⟨_,rfl⟩;rw[<-aq]at q;have ar:=Xa<|xt d c j G u t M y (Xa ⟨_,_,_,s⟩) oM cr b8;rw[<-ap]at ar;have b6:Hs (s1.2.length<=1):=Xa (by rw[ap];exact m6 _ _ _ _ _);have bc:Hs (∀W,PH d W u (n:Int) (some ⟨N,ob,none⟩) m c P i j Q G t (M++s1.2)->Calls prog 118 #[Hn u,Hp a,Hp e] W λf T=>f=.returned (Hp s2.1)/\PH d T u (n:Int) (some ⟨N,ob,none⟩) m c P i j Q G t ((M++s1.2)++s2.2)/\∀bl l,Bx W bl l 56->Bx T bl l 56):=Xa (λW hW=>by
   have:=xt d c j G u t (M++s1.2) y (Xa hW) (by rw[aQ];have:=b6.o;omega) cs ca;rw[aQ,<-aq]at this;exact this)
  have c7:Hs (s2.2.length<=1):=Xa (by rw[aq];exact m6 _ _ _ _ _);clear E C ap aq;go_wp2_with fail
  refine ar.mono ?_;rintro f w5⟨rfl,bn,bq⟩;have b5:=Xa<|bq _ _ I;have bd:=Xa<|bc.o w5 bn;have v3:=Bx.c b5 3;clear bn bq ar bc s L u3 f2 f3 f4 f5 l1 l5 m0;go_wp2_with fail
  refine bd.mono ?_;rintro f w6⟨rfl,cc,cj⟩;clear cj bd v3;obtain⟨ea,ee,dz,D⟩:=cc;have al:a<((M++s1.2)++s2.2).length:=by simp only[aQ];omega
  obtain⟨b4,ec,co⟩:=D.m.1.got oM;subst co;have ad:((M++s1.2)++s2.2)[a]=⟨A.map<|ZR l,⟨2,Kp l o,(b:Int),(e:Int)⟩⟩:=by
   rw[fA (by rw[aQ];omega),fA F,hx.o];rfl
  have bh:Hs (((M++s1.2)++s2.2).set a ⟨A.map<|ZR l,⟨2,Kp l o,s1.1,s2.1⟩⟩=M.set a af.1++af.2):=Xa (by rw[q.o,cK,List.set_append_left _ _ F]);have a3:=D.te rfl al (q:=3) oM (Hp s1.1) (t':=⟨2,Kp l o,s1.1,(e:Int)⟩) (by rw[ad];rfl);rw[ad]at a3;have bx:a<(((M++s1.2)++s2.2).set a ⟨A.map<|ZR l,⟨2,Kp l o,s1.1,(e:Int)⟩⟩).length:=by rw[bL];exact al
  have ba:(((M++s1.2)++s2.2).set a ⟨A.map<|ZR l,⟨2,Kp l o,s1.1,(e:Int)⟩⟩)[a]=⟨A.map<|ZR l,⟨2,Kp l o,s1.1,(e:Int)⟩⟩:=cQ _;have z:=a3.te (by rw[bL]) bx (q:=4) oM (Hp s2.1) (t':=⟨2,Kp l o,s1.1,s2.1⟩) (by rw[ba];rfl);rw[ba,gE]at z;dsimp only at z;rw[bh.o]at z;have a1:=Xa z;have l6:=Bx.c D.2 5;have n3:Cl w6 b4 (a*5+3) (Hp b):=lq (q:=3) D.m.1 al oM (by rw[ad];rfl);have n4:Cl w6 b4 (a*5+4) (Hp e):=lq (q:=4) D.m.1 al oM (by rw[ad];rfl);have nz:=λcz=>D.m.1.thaw cz;have dn:(a:Int)<((((M++s1.2)++s2.2).length:Nat):Int):=oM;clear D a3 z ad ba bx bh;generalize ((M++s1.2)++s2.2).length=ed at*;go_wp2_with fail
  refine bodyPost_end (v:=.tuple #[]) (by simp[results,results52,go_sem]) rfl ⟨rfl,?_⟩;exact⟨_,_,_,a1⟩
 rw[aM h1,aM h2]at q;go_wp2;refine bodyPost_end (v:=.tuple #[]) (by simp[results,results52,go_sem]) rfl ⟨rfl,?_⟩;rw[q.o,fF,<-hx.o,fK];exact⟨_,_,_,L.calm<|Xb (Below.refl _ _) _⟩
structure O1(w1 wx:Ub)(W:Op)(lb:Nat)(V:Nat)(a:Uy)(n c:Nat)(xs:Wi)(L B:Nat)(ac:Uy)(nc cc:Nat)(cs:Wc)(Lc Bc:Nat)(pa:Uy)(pc:Nat)(k:Int)(M:List ag):Prop where
 g:O4 W V a n xs L B ac nc cs Lc Bc pa
 h:PH W wx lb (V:Int) a n c ac nc cc pa pc k M
 bs:W.2=w1.1.size
 ww:Below w1.1.size w1 W.w
theorem O1.low{W:Op}{b a:Nat}{e:Uy}{f:Nat}{M:List ag}(h:O1 w v W n m p k c x B g P i j l b a e f t M):Below w.1.size w v:=by
 let⟨_,_,_,d⟩:=h.h;have:=d.1;rw[h.3]at this;exact h.4.trans this
theorem O4.new{w1:Ub}{f:Uy}(c:Nat)(b:Below w1.1.size w1 w)(ha:Xp w1 k B p x)(u:m=x.length)(d:B<=w1.1.size)(s:Jy n x)(h:Xf w1 i j P l)(r:g=l.length)(o:g=n)(e:j<=w1.1.size)(a:Yy w1)(q:∀z∈l,-9223372036854775808<=z/\z<=9223372036854775807)(t:XR w c w.1.size f ((List.range m).map λv:Nat=>AQ x 0 (v:Int))):O4 ⟨w,w1.1.size,c,w.1.size⟩ n p m x k B P g l i j f :=
 ⟨ha.keep<|b.mono d,u,d,s,h.keep<|b.mono e,r,o,e,t,a.keep b a.1,a.1,q⟩
def OT(a:Wc)(b:Wi):List ag:=b.map λx=>⟨x.2.map<|ZR a,NN a x.3⟩
def dq(a:Wc)(b:Wi)(j:Nat):List ag:=(ae a b j).1++OT a (b.drop j)++(ae a b j).2
theorem xV(a:Wc)(h:n<=x.length):(dq a x n).length=x.length+(ae a x n).2.length:=by
 unfold dq OT;rw[aQ,aQ,ll a x n h,bK,mF];omega
theorem xH(a:Wc)(h:n<x.length):dq a x n=(ae a x n).1++(⟨x[n].2.map (ZR a),NN a x[n].3⟩ :: (OT a (x.drop<|n+1)++(ae a x n).2)):=by
 unfold dq OT;rw[gZ h,eH,cK,cW]
theorem Ir(h:n<x.length)(a:n<(dq l x n).length):(dq l x n)[n]=⟨x[n].2.map (ZR l),NN l x[n].3⟩:=by
 have b:=ll l x n<|dU h;have:(dq l x n)[n]?=some ⟨x[n].2.map (ZR l),NN l x[n].3⟩:=by
  rw[xH l h,eV oM,b,kL];rfl
 rw[aC a]at this;injection this
theorem He(a:Wc)(h:n<x.length):(dq a x n).set n (Nk a x n x[n] (dq a x n).length).1++(Nk a x n x[n] (dq a x n).length).2=dq a x (n+1):=by
 have b:=ll a x n<|dU h;rw[xV a<|dU h,xH a h,List.set_append_right _ _ oM,b,kL,List.set_cons_zero];unfold dq;rw[ou a x n h];simp only[cK,cW,dR]
theorem G8:dq l x 0=OT l x:=by
 unfold dq;simp[ae]
theorem Hy:dq l x x.length=NK l x:=by
 unfold dq NK OT;rw[List.drop_length,fZ,fF]
theorem XW.deep(p:Addr)(c:p.1<n)(u:Uj):XW w (w.setCell p u) Z Z n (λ_=>True) :=
 ⟨by simp[World.setCell],λb a _ _=>⟨Below.heap_setCell _ _ _ _ oM,rfl⟩,λh b a=>h b<|by simpa [World.setCell]using a⟩
theorem Nh.down{e:List ag}(b:Nh w Z n a k B e h)(c:m<=n):Nh w Z m a k B e h :=
 ⟨⟨Zk b.1.1 c,b.1.2⟩,λi d=>⟨Zk (b.2 i d).1 c,(b.2 i d).2⟩⟩
def pG(w:Ub)(b:Nat)(a:Uy)(n c:Nat)(f:List ag):Prop:=∃e d,Nh w e b (.slice a n c) 1 3 f d
theorem pG.of{a:List ag}(b:Nh w Z n (.slice p m c) 1 3 a h):pG w n p m c a:=⟨Z,h,b⟩
theorem Hi{K:Nat}(ha:Hs (Xp w k B p x))(I:Hs (m=x.length))(hB:B<=w.1.size)(S:Hs (Jy n x))(hc:Hs (Xf w j K P l))(ba:Hs (g=l.length))(b6:Hs (g=n))(b0:K<=w.1.size)(hk:1<=t/\t<=64)(hO:Hs (Yy w))(hT:Hs (Yb w))(ct:Hs (∀ci∈l,-9223372036854775808<=ci/\ci<=9223372036854775807))(hg:Hs (mp x m))(bo:Hs (∀W,Below w.1.size w W->Calls prog 49 #[.agg #[Hp n,.slice p m c],.slice P g i,Hp t] W λq d=>q=.returned (.bool true)/\Below W.1.size W d)):
 Calls prog 19 #[.agg #[Hp n,.slice p m c],.slice P g i,Hp t] w λq d=>∃z A,q=.returned (.agg #[Hp t,.slice z (NK l x).length A])/\Below w.1.size w d/\pG d w.1.size z (NK l x).length A (NK l x):=by
 obtain⟨j0,cv,da,db,dc⟩:=fX Qa;have h1:¬t<1:=oM;have h2:¬64<t:=oM;have dz:m<=1000:=oP I.o S.1.2
 go_in
 go_wp2_with fail
 refine(bo _<|Xb (Xb (Below.refl _ _) _) _).mono ?_;rintro q a⟨rfl,af⟩;have hF:=((Bx.new w #[Hp n,.slice p m c] 37).box _).keep (af.5 _<|by simp;omega);have hR:=(by have:=Bx.new (w.alloc<|.cells #[Hp n,.slice p m c] 37) #[Hp 0,Hq] 25;rw[aO]at this;exact this.keep<|af.5 _ sP);have hz:=hR.lt;have az:w.1.size<a.1.size:=oM;have T:=Xa<|Xg (Xb (Xb (Below.refl w.1.size w) _) _) af;have f0:=Bx.c hF 0;have f1:=Bx.c hF 1;have HF:=Xa hF;have HR:=Xa hR;have HG:=Xa λ(b:Ub)(f:Uy)(L2:Nat)(hb:Below a.1.size a b)(hp:XR b L2 b.1.size f ((List.range m).map λv:Nat=>AQ x 0 (v:Int)))=>O4.new (w1:=a) L2 hb (ha.keep<|T.mono hB) I oM S (hc.keep<|T.mono b0) ba b6 oM (hO.keep T hO.1) ct hp;have bp:=Xa λ(W:Ub)(hW:Below w.1.size w W)=>VG (n:Int) c k B (Xa<|ha.keep (hW.mono hB)) I oM (oN hW.4) hg;clear af hF hR bo;go_wp2_with fail
 go_cut [7]from 11 to 59 λc7 wx=>∃(G:Nat)(W:Op)(f:Uy)(o:Nat),c7=Hn G/\Hs (O1 a wx W G n p m c x k B P g i l j K f o t [])
 case first=>
  have a6:Hs (∀W,Below a.1.size a W->Calls prog 50 #[.agg #[Hp n,.slice p m c]] W λq d=>∃f o,q=.returned (.slice f m o)/\d.cell? (Hk w.1.size 0)=some (Hp n)/\d.cell? (Hk w.1.size 1)=some (.slice p m c)/\w.1.size<d.1.size/\Hs (Below W.1.size W d)/\Hs (XR d W.1.size d.1.size f ((List.range m).map λv:Nat=>AQ x 0 (v:Int)))):=Xa (λW hW=>by
   refine(bp W<|T.trans (hW.mono oM)).mono ?_;rintro q b⟨f,o,rfl,aj,bf⟩;have y:=Xg hW aj;exact⟨f,o,rfl,oB y f0 az,oB y f1 az,oN y.4,Xa aj,Xa bf⟩)
  have HA:=Xa<|a6.o a.drew (Below.refl a.1.size a).drew;have bd:Bx (a.alloc<|.cells #[Hp 0,Hq,Hq,Hq,Hp 0,Hq] 116).drew a.1.size #[Hp 0,Hq,Hq,Hq,Hp 0,Hq] 116:=Bx.new a _ _;have HC:=Xa ((a6 (a.alloc<|.cells #[Hp 0,Hq,Hq,Hq,Hp 0,Hq] 116).drew ((Below.refl a.1.size a).alloc aA _).drew).mono (R':=λq d=>∃f o,q=.returned (.slice f m o)/\d.cell? (Hk w.1.size 0)=some (Hp n)/\d.cell? (Hk w.1.size 1)=some (.slice p m c)/\w.1.size<d.1.size/\(d.cell? (Hk a.1.size 0)=some (Hp 0)/\d.cell? (Hk a.1.size 1)=some Hq/\d.cell? (Hk a.1.size 2)=some Hq/\d.cell? (Hk a.1.size 3)=some Hq/\d.cell? (Hk a.1.size 4)=some (Hp 0)/\d.cell? (Hk a.1.size 5)=some Hq/\∀df,d.frozen? (Hk a.1.size df)=false)/\Hs (Bx d a.1.size #[Hp 0,Hq,Hq,Hq,Hp 0,Hq] 116)/\Hs (Below a.1.size a d/\a.1.size+1<=d.1.size)/\Hs (XR d (a.1.size+1) d.1.size f ((List.range m).map λv:Nat=>AQ x 0 (v:Int)))) (by
   rintro q b⟨f,o,rfl,f0,f1,bh,u,M⟩;have N:=bd.keep<|u.5 _ bd.lt;have c9:(a.alloc<|.cells #[Hp 0,Hq,Hq,Hq,Hp 0,Hq] 116).drew.1.size=a.1.size+1:=by show(a.alloc _).1.size=_;simp
   have hb:=u.o;have hp:=M.o;have a9:=hb.4;rw[c9]at hb hp a9;exact⟨f,o,rfl,f0,f1,bh,⟨Bx.cell N rfl,Bx.cell N rfl,Bx.cell N rfl,Bx.cell N rfl,Bx.cell N rfl,Bx.cell N rfl,Bx.thaw N⟩,Xa N,Xa ⟨((Below.refl a.1.size a).alloc aA _).drew.trans (hb.mono<|gX),a9⟩,Xa hp⟩))
  have d0:a.1.size≠w.1.size:=oM;have ea:w.1.size≠a.1.size:=oM;clear a6 bd
  go_region_held3 (λd=>d.cell? (Hk w.1.size 0)=some (Hp n)/\d.cell? (Hk w.1.size 1)=some (.slice p m c)) (go_keep)
   (first
    |(go_at_call 50;with_reducible refine HA.o.mono ?_;rintro q b⟨f,o,rfl,f2,f3,bh,u,M⟩)
    |(go_at_call 50;with_reducible refine HC.o.mono ?_;rintro q b⟨f,o,rfl,f2,f3,bh,⟨z0,z1,z2,z3,z4,z5,zz⟩,V,u,M⟩))
  .go_wp2;go_meet;have y:=Xg (Below.refl a.1.size a).drew u;have bf:XR b a.1.size b.1.size f ((List.range m).map λv:Nat=>AQ x 0 (v:Int)):=M.o;exact⟨b.1.size,⟨b,a.1.size,a.1.size,b.1.size⟩,f,o,rfl,Xa ⟨HG b f _ y bf,⟨λ_=>(0,0,0),_,λ_=>Hq,⟨(Below.refl _ _).alloc y.4 _,Bx.new _ _ _,y.4,Nh.nil,λ_ _=>rfl,rfl,YA.of_below<|Xb (Below.refl b.1.size b) _,λ_ _ _=>rfl,aA,aA,y.4,λa7=>Nat.lt_irrefl _ a7.2⟩⟩,rfl,y⟩⟩
  go_wp2;go_meet;have y:=u.1;have ee:=u.2;exact⟨a.1.size,⟨b,a.1.size,a.1.size+1,b.1.size⟩,f,o,rfl,Xa ⟨HG b f _ y M,⟨λ_=>(0,0,0),_,λ_=>Hq,⟨(((((((Below.refl a.1.size b).setCell (p:=Hk a.1.size 0) aA _).setCell (p:=Hk a.1.size 1) aA _).setCell (p:=Hk a.1.size 2) aA _).setCell (p:=Hk a.1.size 3) aA _).setCell (p:=Hk a.1.size 4) aA _).setCell (p:=Hk a.1.size 5) aA _),(((((V.set 0<|Hp n).set 1 (.slice p m c)).set 2 (.slice P g i)).set 3 (.slice f m o)).set 4 (Hp t)).set 5 Hq,aA,Nh.nil,λ_ _=>rfl,rfl,((((((YA.refl (a.1.size+1) b.1.size b).setCell (p:=Hk a.1.size 0) (bC<|iJ) _).setCell (p:=Hk a.1.size 1) (bC<|iJ) _).setCell (p:=Hk a.1.size 2) (bC<|iJ) _).setCell (p:=Hk a.1.size 3) (bC<|iJ) _).setCell (p:=Hk a.1.size 4) (bC<|iJ) _).setCell (p:=Hk a.1.size 5) (bC<|iJ) _,λ_ _ _=>rfl,gX,aA,y.4,λa7=>Nat.not_succ_le_self _ a7.1⟩⟩,rfl,y⟩⟩
 obtain⟨G,W,f,o,rfl,HZ⟩:=hcut;have cq:Cl wc w.1.size 1 (.slice p m c):=oB HZ.low f1 az;clear HG bp f0 f1;go_wp2;clear cq
 go_loopw [35] (λv wr=>∃e:Nat,e<=m/\v=Hp e/\Hs (O1 a wr W G n p m c x k B P g i l j K f o t<|OT l (x.take e))) λv _=>m-(intOf v).toNat
 case atStart=>exact⟨0,aN,rfl,HZ⟩
 obtain⟨e,hj,rfl,Y⟩:=hrel;clear HZ;have ac:=Xa Y.low;have ed:=ac.4;by_cases dn:e<m
 .have R:e<x.length:=oN I.o;have du:(e:Int)<(m:Int):=oM;obtain⟨cg,mv,iv,O⟩:=Y.h;obtain⟨gb,ob,rfl,⟨_,dj⟩,cs⟩:=(ha.keep<|(T.trans<|ac.mono oM).mono hB) e R;obtain⟨E,F,C,D,e0,e1,⟨e2,e3,e4,e5⟩,_,b7⟩:=cs;have bl:=Xa b7;have bn:=Xa<|S.3 _ (aH R);have br:=Xa λch hy=>And.intro (S.5 _ (aH R) ch hy) (S.6 _ (aH R) ch hy);have a3:=Xa<|S.4 _ (aH R);have bt:=Xa<|S.7 _ (aH R);have cl:=Xa<|S.10 _ (aH R);have cm:Hs (OT l (x.take<|e+1)=OT l (x.take e)++[⟨x[e].2.map (ZR l),NN l x[e].3⟩]):=Xa (by unfold OT;rw[bN R,bG];rfl);have a5:Hs ((OT l<|x.take e).length=e):=Xa (by unfold OT;rw[bK,dH];omega);generalize x[e]=X at*;obtain⟨h,ao⟩:∃h:Nat,X.3.1=(h:Int):=⟨X.3.1.toNat,oN a3.o⟩;rw[ao]at e2;have b8:1<=h/\h<=3:=by have:=a3.o;rw[ao]at this;omega
  have a4:=Xa ao;have HS:=Xa O;have dk:gb<wr.1.size:=oM;clear O b7 ao a3;obtain⟨ma,mc,aq⟩:=HS.m.1.form;rw[a5.o]at aq;subst aq;go_wp2;have al:=Xb (Below.refl wr.1.size wr) (.cells #[.slice E X.1.length F,.slice C X.2.length D,Hp h,Hp X.3.a,Hp X.3.3,Hp X.3.4] 60);have H:=Xa<|Bx.new wr #[.slice E X.1.length F,.slice C X.2.length D,Hp h,Hp X.3.a,Hp X.3.3,Hp X.3.4] 60;have U:=Xa<|HS.calm al;have cj:=Xa<|Xg ac al;have bv:Hs ((wr.alloc<|.cells #[.slice E X.1.length F,.slice C X.2.length D,Hp h,Hp X.3.a,Hp X.3.3,Hp X.3.4] 60).1.size=wr.1.size+1):=Xa sP;have di:=Xa<|HS.5 _ aA;have bi:Hs (Calls prog 51 #[Hn G,.agg #[.slice E X.1.length F,.slice C X.2.length D,Hp h,Hp X.3.a,Hp X.3.3,Hp X.3.4]] (wr.alloc<|.cells #[.slice E X.1.length F,.slice C X.2.length D,Hp h,Hp X.3.a,Hp X.3.3,Hp X.3.4] 60).drew λq d=>∃z A,q=.returned (.agg #[.slice z X.2.length A,Hp h,Hp (NN l X.3).a,Hp X.3.3,Hp X.3.4])/\Hs (Below (wr.alloc<|.cells #[.slice E X.1.length F,.slice C X.2.length D,Hp h,Hp X.3.a,Hp X.3.3,Hp X.3.4] 60).1.size (wr.alloc<|.cells #[.slice E X.1.length F,.slice C X.2.length D,Hp h,Hp X.3.a,Hp X.3.3,Hp X.3.4] 60) d)/\Hs (d.ownsRow (wr.alloc<|.cells #[.slice E X.1.length F,.slice C X.2.length D,Hp h,Hp X.3.a,Hp X.3.3,Hp X.3.4] 60).1.size 66 5 (.slice z X.2.length A) X.2.length (ZP<|X.2.map (ZR l)))):=Xa (by
   have hw:=(T.trans<|cj.mono oM).drew;have ec:wr.1.size+1=(wr.alloc<|.cells #[.slice E X.1.length F,.slice C X.2.length D,Hp h,Hp X.3.a,Hp X.3.3,Hp X.3.4] 60).drew.1.size:=bv.symm;refine(GR k B (wr.alloc<|.cells #[.slice E X.1.length F,.slice C X.2.length D,Hp h,Hp X.3.a,Hp X.3.3,Hp X.3.4] 60).drew (Xa<|U.2.keep rfl) (Xa<|hc.keep (hw.mono b0)) ba (Xa<|oP b6.o ba.o) oM oM (Xa<|bl.keep ((al.drew.mono oM))) (Xa rfl) cl.1 (Xa<|hO.keep hw hO.1) (Xa<|hT.keep hw hT.1) bn br b8.1 b8.2 (Xa (by have:=bt.o;rw[show X.3=⟨X.3.1,X.3.a,X.3.3,X.3.4⟩from rfl,a4.o]at this;exact this))).mono ?_;rintro q b⟨v5,rfl,aj,cc⟩;obtain⟨z,A,rfl⟩:∃z A,v5=.slice z X.2.length A:=Xv.form (lab:=λ_=>(0,0,0)) (L:=(0,0,0)) ⟨cc,λ_ _=>rfl⟩;refine⟨z,A,?_,Xa<|Xg (Below.refl _ _).drew aj,Xa cc⟩;rw[show(NN l ⟨(h:Int),X.3.a,X.3.3,X.3.4⟩).a=(NN l X.3).a by rw[<-a4.o]])
  have ck:Hs (NN l X.3=⟨(h:Int),(NN l X.3).a,X.3.3,X.3.4⟩):=Xa (by rw[<-a4.o];rfl);clear e0 e1 e2 e3 e4 e5 al bl bn br bt HS;generalize wr.alloc _=wt at*;have a9:wr.1.size<wt.1.size:=oN bv.o;generalize wr.1.size=r at*;have t0:=Bx.c H 0;have t1:=Bx.c H 1;have t2:=Bx.c H 2;have t3:=Bx.c H 3;have t4:=Bx.c H 4;have t5:=Bx.c H 5;have l5:=Bx.c U.2 5;refine Y7 (λd=>d.cell? (Hk r 0)=some (.slice E X.1.length F)/\d.cell? (Hk r 1)=some (.slice C X.2.length D)/\d.cell? (Hk r 2)=some (Hp h)/\d.cell? (Hk r 3)=some (Hp X.3.a)/\d.cell? (Hk r 4)=some (Hp X.3.3)/\d.cell? (Hk r 5)=some (Hp X.3.4)) λhHeld=>?_;refine Xn 0 ?_;refine Xn 1 ?_;refine Xn 3 ?_;refine eS (rs:=[2,4]) vZ sP ?_;refine(bQ rfl (λL hK=>?_) (bQ rfl (λL hK=>?_) dY))
  focus
   go_simp;refine hK _ _ kP λhHeld=>?_;clear hK
   try simp only[xX]
   refine Xs 4 λL hK=>?_;go_simp
   go_at_call 51
   with_reducible refine bi.o.mono ?_
   rintro q b⟨z,A,rfl,u,M⟩;have V:=Xa<|U.calm u;have s:=H.keep<|u.5 _ H.lt;have s5:b.cell? (Hk r 0)=some (.slice E X.1.length F)/\b.cell? (Hk r 1)=some (.slice C X.2.length D)/\b.cell? (Hk r 2)=some (Hp h)/\b.cell? (Hk r 3)=some (Hp X.3.a)/\b.cell? (Hk r 4)=some (Hp X.3.3)/\b.cell? (Hk r 5)=some (Hp X.3.4):=⟨Bx.cell s rfl,Bx.cell s rfl,Bx.cell s rfl,Bx.cell s rfl,Bx.cell s rfl,Bx.cell s rfl⟩;have a0:=Xa s;have x5:=Bx.c V.2 5;have cx:=V.2.lt;clear s;dsimp only;refine hK _ _ s5 λhHeld=>?_;clear hK;refine Xs 5 λL hK=>?_;go_simp;refine hK _ _ kP λhHeld=>?_;clear hK
  rotate_left
  focus
   go_simp
   go_at_call 51
   with_reducible refine bi.o.mono ?_
   rintro q b⟨z,A,rfl,u,M⟩;have V:=Xa<|U.calm u;have s:=H.keep<|u.5 _ H.lt;have s5:b.cell? (Hk r 0)=some (.slice E X.1.length F)/\b.cell? (Hk r 1)=some (.slice C X.2.length D)/\b.cell? (Hk r 2)=some (Hp h)/\b.cell? (Hk r 3)=some (Hp X.3.a)/\b.cell? (Hk r 4)=some (Hp X.3.3)/\b.cell? (Hk r 5)=some (Hp X.3.4):=⟨Bx.cell s rfl,Bx.cell s rfl,Bx.cell s rfl,Bx.cell s rfl,Bx.cell s rfl,Bx.cell s rfl⟩;have a0:=Xa s;have x5:=Bx.c V.2 5;have cx:=V.2.lt;clear s;dsimp only;refine hK _ _ s5 λhHeld=>?_;clear hK
   try simp only[xX]
   refine eS (rs:=[2,5]) vZ sP ?_;refine(bQ rfl (λL hK=>?_) (bQ rfl (λL hK=>?_) dY))
   focus
    go_simp;refine hK _ _ kP λhHeld=>?_;clear hK
    try simp only[xX]
    refine Xs 5 λL hK=>?_;go_simp;refine hK _ _ kP λhHeld=>?_;clear hK
   rotate_left
   focus
    go_simp;refine hK _ _ kP λhHeld=>?_;clear hK
    try simp only[xX]
    refine Xs 2 λL hK=>?_;go_simp;refine hK _ _ kP λhHeld=>?_;clear hK
  all_goals (
   refine Xs 6 λL hK=>?_;obtain⟨ef,ce,cf⟩:=Xv.fresh (L:=(3,(OT l<|x.take e).length,0)) (lab:=cg) (base:=W.2) u M U.bs U.5;have b3:=U.spT u cf;have hA:=b3.calm<|Xb (Below.refl b.1.size b) (.cells #[.slice z X.2.length A,Hp h,Hp (NN l X.3).a,Hp X.3.3,Hp X.3.4] 84);have b1:=ce.sp (XW.below<|Xb (Below.refl b.1.size b) (.cells #[.slice z X.2.length A,Hp h,Hp (NN l X.3).a,Hp X.3.3,Hp X.3.4] 84)) λ_ _=>trivial;have ad:=hA.m.1.1;rw[a5.o]at ad;refine d6 rfl _ _ 23 rfl W.2 84 j0 (.agg #[Hq,Hp 0,Hp 0,Hp 0,Hp 0]) 5 56 underlying23 cv da db dc rfl vY (.slice ma e mc) e (NH iv<|OT l (x.take e)) rfl ad (Hk b.1.size 0) 1 1 [.slice z X.2.length A,Hp h,Hp (NN l X.3).a,Hp X.3.3,Hp X.3.4] rfl rfl (World.news_of_block<|World.alloc_heap_new _ _) ?s3 ?s4 ?s5 ?s6 ?_
   case s3=>intro ej hu;simp at hu;obtain rfl|rfl|rfl|rfl|rfl:=hu<;>rfl
   case s4=>unfold maxLen;omega
   case s5=>omega
   case s6=>exact hA.bs
   intro v8 w8 be bc cz b5;obtain⟨⟨eg,b4⟩,ap⟩:=hA.push ⟨X.2.map<|ZR l,NN l X.3⟩ (by show Xv _ _ _ _ _ _ _ (X.2.map<|ZR l).length _;rw[bK];exact b1) bc (by rw[a5.o,ck.o];exact be) b5;obtain⟨g8,c8,rfl,_,_⟩:=Xm be oM;have Q:=(a0.box _).grown bc (rJ (a0.box _) ad vY);have y:=Bx.c ap 5;have kz:=Bx.thaw ap;have dd:=j8 Q ap vY;have ei:G≠r:=λq=>dd q.symm;have cp:Hs (O1 a (w8.setCell (Hk G 5) (Hl g8 (e+1) c8)) W G n (some ⟨gb,ob,none⟩) m c x k B P g i l j K f o t (OT l<|x.take (e+1))):=Xa ⟨Y.g,by rw[cm.o];exact⟨_,_,_,b4⟩,Y.3,Y.4⟩;refine hK _ _ ⟨Bx.cell Q rfl,Bx.cell Q rfl,Bx.cell Q rfl,Bx.cell Q rfl,Bx.cell Q rfl,Bx.cell Q rfl⟩ λhHeld=>?_;clear hK be bc cz b5 hA b1 b4 ap Q ad b3 ce cf t0 t1 t2 t3 t4 t5 l5 x5 s5
   try simp only[xX]
   refine Xn 7 ?_;refine Xn 8 ?_;refine Xs 9 λL hK=>?_;go_simp;refine hK _ _ kP λhHeld=>?_;clear hK;refine Yq ?_;clear hHeld;go_wp2;exact⟨⟨e+1,oM,gM,cp⟩,by simp[intOf];omega⟩)
 have cw:e=m:=oM;have dl:¬(e:Int)<(m:Int):=oM;have bx:Hs (O1 a wr W G n p m c x k B P g i l j K f o t<|dq l x 0):=Xa (by rw[G8];have:=Y.o;rw[cw,I.o,gC]at this;rw[I.o];exact this);have cr:Cl wr w.1.size 1 (.slice p m c):=(ac.cell (p:=Hk w.1.size 1) az).trans (Bx.cell HF rfl);clear Y;go_wp2;clear cr
 go_loopw [52] (λv wr=>∃e:Nat,e<=m/\v=Hp e/\Hs (O1 a wr W G n p m c x k B P g i l j K f o t<|dq l x e)) λv _=>m-(intOf v).toNat
 case atStart=>exact⟨0,aN,rfl,bx⟩
 obtain⟨J,hp,rfl,Z⟩:=hrel;clear bx;by_cases ds:J<m
 .have ab:J<x.length:=oN I.o;have dw:(J:Int)<(m:Int):=oM;have cn:=Xa<|oz l x J (dU ab);have bm:=Xa<|xV l (dU ab);have cd:J<(dq l x J).length:=by rw[bm.o];omega
  have bq:=Xa (GC W (Xa Z.g) (Xa Z.h) (by rw[bm.o];have:=cn.o;have:=I.o;omega) ab cd (Xa<|Ir ab cd));go_wp2_with fail
  refine bq.mono ?_;rintro q b⟨rfl,a8⟩;rw[He l ab]at a8;have co:Hs (O1 a b W G n p m c x k B P g i l j K f o t<|dq l x (J+1)):=Xa ⟨Z.g,a8,Z.3,Z.4⟩;clear a8 bq;go_wp2;exact⟨⟨J+1,oM,gM,co⟩,by simp[intOf];omega⟩
 have c6:J=m:=oM;have eb:¬(J:Int)<(m:Int):=oM;have aa:Hs (O1 a wr W G n p m c x k B P g i l j K f o t<|NK l x):=Xa (by have:=Z.o;rw[c6,I.o,Hy]at this;rw[I.o];exact this);clear Z;obtain⟨cg,mv,iv,O⟩:=aa.h;obtain⟨ma,mc,aq⟩:=O.m.1.form;subst aq;have l4:=Bx.c O.2 4;have l5:=Bx.c O.2 5;have ar:=HR.keep<|aa.low.5 _ HR.lt;have r0:=Bx.c ar 0;have r1:=Bx.c ar 1;have rz:=Bx.thaw ar;have cb:w.1.size+1<W.2:=by rw[aa.3];exact hz
 have ca:w.1.size<=w.1.size+1:=gX;have a1:=Xa<|((T.trans<|aa.low.mono oM).setCell (p:=Hk (w.1.size+1) 0) ca (Hp t)).setCell (p:=Hk (w.1.size+1) 1) ca (.slice ma (NK l x).length mc);have a2:=Xa (pG.of<|((O.m.sp (XW.deep (Hk (w.1.size+1) 0) cb (Hp t)) (λ_ _=>trivial) λ_ _ _ _=>trivial).sp (XW.deep (Hk (w.1.size+1) 1) cb (.slice ma (NK l x).length mc)) (λ_ _=>trivial) λ_ _ _ _=>trivial).down (by omega:w.heap.size<=W.base));clear O ar aa;go_wp2_with fail
 refine cC (v:=.agg #[Hp t,.slice ma (NK l x).length mc]) (by simp[results,results19,go_sem,r0,r1]) rfl ?_
 first
  |exact⟨_,_,rfl,a1,a2⟩
  |exact⟨ma,⟨mc,rfl⟩,a1,a2⟩
  |exact⟨ma,sP,a1,a2⟩
end Go.Proofs.YtcfdhbigppockaaGreatDoor
