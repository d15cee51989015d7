import Derived.Test.YtcncjgijikoapaaGreatDoorSQ6
import Derived.Shelf.SlIterI.Nil
import Derived.Shelf.SortM.Plain
import Derived.Shelf.SortM.SortNone
import Derived.Ground.GgzProg
import Derived.Ground.SlgmProg
import Derived.Test.YtcncjgijikoapaaGreatDoorTN3
namespace Go.Proofs.YtcncjgijikoapaaGreatDoor
set_option maxHeartbeats 4000000
set_option maxRecDepth 100000
open _root_ renaming Array.size->Z,List.length->J,Nat->N,rfl->R,Option.some->S,Option.none->U,Decidable.decide->Jd,trivial->JV,Int->I,Bool.true->So,Bool.false->Sn,absurd->Sz,List.range->Rg
open Go renaming World.alloc->D,World.ownsRow->Sx,Obj.cells->Sc,Ending.returned->Rt,RowKit.Below->Sw,Calls->Sk,IntKind.i64->S6,World.cell?->E,RowKit.intOf->JB,World.setCell->Se,results->JC
open Value renaming pointer->Sj,slice->X,int->Si,bool->Sb,agg->Sa,tuple->St
open Go.RowKit Go.Shelf Go.Proofs.Tryz
variable{t T z:I}{n m k B g i j c:N}{Z_:N->N×N×N}{w v u:Ub}{a A_:Uj}{p P:Uy}{h:Vu}{l:Wc}{x:Wi}{y:Wo}
section
open Go.Maps Go.Sort
shelf_lay_g SlLaysZI.n7 Ggz 7 at Tryz 152 as keysA
shelf_lay_g SlLaysZI.n6 Ggz 6 at Tryz 151 as sortedA
shelf_lay_g SlLaysM.n5 Slgm 5 at Tryz 157 as sortA
theorem IA:AnyZI.SortsIn prog sortedA_ren Fence.wide n :=
 ⟨λblk d a e W hH b c=>bM.2<|AnyM.slices_Sort_int sortA blk d a e W hH b c,
  λp a W=>bM.2<|AnyM.slices_Sort_int_none sortA p a W⟩
theorem xQ(a:Zm)(W:Ub):Sk prog 152 #[.map a] W λe b=>e=Rt (.func (.func 158) #[] #[Sj (S ⟨Z W.1,0,U⟩)])/\b=D W (Sc #[.map a] 235) :=
 (bM (n:=5)).1 (AnyZI.keys_in keysA Fence.wide 5 JV R a W)
theorem GT(b)(f:w.ownsMap prog 2 ay n m b)(r:Maps.size b<=64):
 Sk prog 151 #[.func (.func 158) #[] #[Sj (S ⟨Z w.1,0,U⟩)]] (D w<|Sc #[.map (S n)] 235) λe d=>∃(v:Uj)(a:Wc),e=Rt v/\a.Perm (intKeys b) /\
  Sx d (Z w.1) 2 1 v (J a) ((a.mergeSort λx y=>Jd (x<=y)).map encZ)/\Sw (Z w.1) w d:=by
 refine(bM (n:=5)).1 ?_;have l:=f.lt;have q:SeqGives Fence.wide 2 prog 158 #[Hn (Z w.1)] encZ (λa=>a.Perm<|intKeys b) (Maps.size b) (D w<|Sc #[.map (S n)] 235) :=
  AnyZI.keys_gives (ρ:=keysA_ren) { keysA with } Fence.wide _ JV R O (Z w.1) n m b _ sP sP (by obtain⟨i,h,c,g,p,j⟩:=f;exact⟨i,h,G (gF _ _ n l) c,g,p,j⟩)
 have cS:=AnyZI.sorted_in sortedA Fence.wide 5 JV JV JV JV R O (IA) (enters_of func157 vZ R) 158 #[Hn (Z w.1)] JV (enters_of func158 vZ R) _ _ SD O _ q;change CallsIn _ _ prog 151 _ _ _ at cS;refine cS.mono ?_;rintro e d⟨v,a,rfl,k,o,s,c⟩;exact⟨v,a,R,k,ownsRow_base_a o sP,((dC _ w).alloc aA _).trans (c.mono sP)⟩
end
section
open Go.Maps Go.Sort
theorem rY{L}(g:(ai L).Nodup){q m}(hq:q∈L)(f:m∈L)(e:q.1=m.1):q=m:=by
 obtain⟨i,b,rfl⟩:=bR hq;obtain⟨j,c,rfl⟩:=bR f;have d:=gY.1 (show(L.map (·.1)).Pairwise (·≠·)from g);obtain a|a|a:=mA i j;·exact(d i j SJ SK a (by simp[e])).elim
 .subst a;rfl
 exact(d j i SK SJ a (by simp[e])).elim
def lT(L:Wy)(left:Lit->Bool)(t:N):Bool:=L.any λm=>!left (.int S6 m.1)&&(m.2==(t:I))
theorem G9{L}{left:Lit->Bool}(h:∀m∈L,left (.int S6 m.1)=So)(t):lT L left t=Sn:=List.any_eq_false.2 λm a=>by simp[h m a]
theorem Iy{L}{left:Lit->Bool}(h:∀k,left k=Sn)(t):lT L left t=an L t:=by unfold lT an;congr 1;funext m;simp[h]
theorem Hj{L}(b:(ai L).Nodup){left:Lit->Bool}{m}(a:m∈L)(t):lT L (λz=>left z&&!z.sameKey (.int S6 m.1)) t=(lT L left t||m.2==(t:I)):=by
 rw[eQ];unfold lT;simp only[tj,dI];constructor
 .rintro⟨q,hq,h⟩;by_cases e:q.1=m.1
  .have:=rY b hq a e;subst this;simp only[bY]at h;exact aZ h.2
  rw[pt e]at h;exact bC ⟨q,hq,h⟩
 rintro(⟨q,hq,h⟩|h)
 .by_cases e:q.1=m.1
  .refine⟨q,hq,?_⟩;rw[e,rE];simp only[bY]at h;simpa using h.2
  exact⟨q,hq,by rw[pt e];exact h⟩
 exact⟨m,a,by rw[rE];simpa using h⟩
def jp(m:Mv):Wa:=if m.2<0 then []else [m.2.toNat]
theorem Hv{m}:Iw (N3 m)=(jp m).map Int.ofNat:=by
 unfold jp N3;by_cases h:m.2<0;·rw[aU h,aU h];rfl
 rw[aM h,aM h];show[m.2]++[]=[Int.ofNat m.2.toNat];rw[fF];congr 1;exact(fR O).symm
theorem Ha{a}:(ie n<|jp a).testBit m=(n.testBit m||a.2==(m:I)):=by
 unfold jp;by_cases h:a.2<0
 .rw[aU h];have:(a.2==(m:I))=Sn:=by simpa using(by omega:a.frm≠m)
  rw[this,jU];rfl
 rw[aM h];show(n|||2^a.2.toNat).testBit m=_;rw[Nat.testBit_or,nE];congr 1;rw[eQ];simp;omega
theorem Hw{m}(h:m.2=-1\/(0<=m.2/\m.2<64)):∀t∈jp m,t<64:=by
 unfold jp;split;·simp
 simp;omega
def aw(a:Wc):Wc:=a.mergeSort λx y=>Jd (x<=y)
theorem j6(a):(aw a).Perm a:=List.mergeSort_perm _ _
theorem yj(d:n<=m)(e:m<J (aw l)):(aw l)[n]<=(aw l)[m]:=by
 have f:(aw l).Pairwise (λa b=>Jd (a<=b)=So):=List.pairwise_mergeSort (λa b c g i=>by simp only[bD]at*;omega) (λa b=>by simp only[dI,bD];omega) l;obtain h|h:=Nat.lt_or_eq_of_le d;·simpa using List.pairwise_iff_getElem.1 f n m O e h
 subst h;exact zP _
theorem GV{L:Wy}(b:l.Perm (ai L))(e:n<J (aw l))(h:∀j (k:j<n),an L ((aw l)[j]' O)=So)(d:an L (aw l)[n]=Sn):bj (fo L)=S (aw l)[n]:=by
 refine pF (fG.2 ⟨((j6 l).trans b).mem_iff.1 (aH e),by rw[d];rfl⟩) λx i=>?_;let⟨c,a⟩:=fG.1 i;obtain⟨j,f,rfl⟩:=bR<|((j6 l).trans b).mem_iff.2 c;by_cases g:j<n;·rw[h j g]at a;cases a
 exact yj O f
theorem Hf{L}(b:l.Perm (ai L))(c:∀j (h:j<J (aw l)),an L (aw l)[j]=So):bj (fo L)=U:=by rw[lj];refine mJ.2 λx d=>?_;obtain⟨j,a,rfl⟩:=bR<|((j6 l).trans b).mem_iff.2 d;rw[c j a];simp
theorem G6{L}(a:l.Perm (ai L))(b:0<J (aw l)):bj (ai L)=S (aw l)[0]:=by refine pF (((j6 l).trans a).mem_iff.1 (aH b)) λx d=>?_;obtain⟨j,c,rfl⟩:=bR<|((j6 l).trans a).mem_iff.2 d;exact yj aN c
theorem rL{L}(a:l.Perm (ai L)):J (aw l)=J L:=by rw[((j6 l).trans a).length_eq];simp[ai]
theorem rN{L}(a:l.Perm (ai L)):t∈aw l↔t∈ai L:=((j6 l).trans a).mem_iff
theorem calm(h:Sw (Z w.1) w v):w.grownBy v U:=⟨h.1,h.2,h.3,h.4,λk a _=>h.5 k a⟩
end
section
open Go.Maps Go.Sort
theorem xJ(a){L}(k:w.ownsMap prog 2 ay n m a)(i:Maps.size a<=64)(f:(intKeys a).Perm (ai L)):
 Sk prog 151 #[.func (.func 158) #[] #[Sj (S ⟨Z w.1,0,U⟩)]] (D w<|Sc #[.map (S n)] 235) λe d=>∃b c4 c,e=Rt (X b (J L) c4)/\Q (c.Perm<|ai L)/\Zx d (Z w.1) (Z d.1) b ((aw c).map encZ)/\Sw (Z w.1) w d:=by
 refine(GT a k i).mono ?_;rintro e o⟨v4,c,rfl,g,j,h⟩;obtain⟨b,c4,rfl,l⟩:=UO j;exact⟨b,c4,c,by rw[bK];rw[<-rL (g.trans f)];rfl,Y<|g.trans f,l,h⟩
theorem rV(m):∃(k:N)(a:I),N3 m=⟨k,m.1,a,0,0⟩/\1<=k/\k<=13:=by
 unfold N3;split;·exact⟨13,0,R,O,O⟩
 exact⟨11,m.2,R,O,O⟩
theorem Ic{x y}(h:d9 x=d9 y):x=y:=by let⟨a,b,c,d,e⟩:=x;let⟨f,b2,g,i,j⟩:=y;simp only[d9,Value.agg.injEq]at h;have:=fI Array.toList h;simp at this;obtain⟨rfl,rfl,rfl,rfl,rfl⟩:=this;rfl
structure IB(L:Wy)(m:Mv)(g R_ W:N)(w w':Ub):Prop where
 grown:w.grownBy w' (S g)
 lt:ie W (jp m)<18446744073709551616
 cell:E w' ⟨g,0,U⟩=S (Si .u64 (ie W<|jp m))
 thaw:∀q,w'.frozen? ⟨g,q,U⟩=Sn
theorem xr(P){L}(cb:Q (w.ownsMap prog 2 ay n m P))(hn:m<=64)(B:Q (aK P L))(T_:Q (b9 L))(db:Q (L≠[]))(ht:Q (Yy w)):
 Sk prog 130 #[.map (S n)] w λe w'=>Sw (Z w.1) w w'/\∃t ac,e=Rt (St #[Si S6 t,Sb ac])/\((ac=So/\bj (fo L)=S t)\/(ac=Sn/\bj (fo L)=U/\bj (ai L)=S t)):=by
 have d0:=cb.lt
 go_in
 go_wp2_with (first
  |(go_at_call 149;refine(GY).mono ?_;rintro e r⟨g,rfl,o,S_,al,a3⟩;have cc:=(cb.kept (calm S_) sP).alloc (Sc #[X (S ⟨g,0,U⟩) 1 1] 266))
  |(at_range;refine wpList_range_own _ R _ 235 R 2 64 RC RE ay n m P R cc ?_;intro w0 az M dc)
  |go_in)
 have eg:=S_.4;have cx:=o;have cz:g<Z r.1:=aI r _ al;have dk:=λq=>a3 q
 have a7:=Y ((Xb S_ _).grown M SB λk T=>by cases T);have bp:Cl w0 (Z r.1) 0 (X (S ⟨g,0,U⟩) 1 1):=G (Xc<|M.5 (Z r.1) sP sP) sP;have bi:E w0 ⟨g,0,U⟩=S (Si .u64 ((0:N):I)):=G (Xc<|M.5 g SB sP) (by rw[bP _ _ _ cz];exact al);have bv:∀q,w0.frozen? ⟨g,q,U⟩=Sn:=λq=>by rw[bJ (M.5 g SB sP),Bs _ _ _ (by show g≠_;omega)];exact a3 q
 have e0:Z (D r<|Sc #[X (S ⟨g,0,U⟩) 1 1] 266).1=Z r.1+1:=sP;rw[e0]at az;rw[e0];have bf:=Y bv;clear bv dk a3 al dc cc e0 M;generalize Z r.1=c at*
 go_frame
 go_loopw [13] (λ_ wr=>∃(left:Lit->Bool)(bh W:N),Q (wr.ranges prog 2 ay n (c+1) m P left bh)/\Q (Sw (Z w.1) w wr)/\E wr ⟨c,0,U⟩=S (X (S ⟨g,0,U⟩) 1 1)/\Q (W<18446744073709551616)/\E wr ⟨g,0,U⟩=S (Si .u64 W)/\Q (∀q,wr.frozen? ⟨g,q,U⟩=Sn)/\Q (∀t,W.testBit t=lT L left t))
  (λ_ wr=>wr.rangeLeft n<|c+1)
 .exact⟨_,_,0,Y az,a7,bp,Y O,bi,bf,Y λt=>by rw[G9 λb c9=>(B.2 _).2 ⟨b,c9,R⟩];simp⟩
 clear az bp bi S_;obtain⟨left,bh,W,h,s,y,HW,v,HZ,HV⟩:=hrel
 go_wp2_with (first
  |(at_next;refine wpList_next_ranges _ R _ R 2 RC ay (Si S6) d9 (λej kl ao=>by obtain⟨x,rfl,_⟩:=Maps.keyOf_int_inv underlying2 ao;exact⟨x,R⟩) (λek em U_=>by obtain⟨x,rfl,_⟩:=mu U_;exact⟨x,R⟩) n (c+1) m _ _ _ R h ?_ ?_)
  |go_in)
 .intro _ b8
  have ck:Q (∀t:N,W.testBit t=an L t):=Y (λt=>by rw[HV.o t,Iy b8]);have b7:=T_.o;have cd:=B.perm b7.1 (λes he ds p=>by obtain⟨dw,e1,_,e3⟩:=h.owns.entries RC;rw[he]at e1;injection e1 with e1;subst e1;exact e3 ds p)
  have a0:=s.4;have HS:=Y<|xJ P h.owns (aJ h.owns.size_le hn) cd;have Q_:=Y<|xQ (S n) wr;clear cd b7
  go_wp2_with (first
   |(go_at_call 152;with_reducible refine YU Q_.o λw3 cg=>?_;rw[cg];clear cg w3)
   |(go_at_call 151;with_reducible refine HS.o.mono ?_;rintro e V_⟨a4,c4,d,rfl,p,cf,V⟩))
  have P_:=Y<|s.trans (V.mono a0);have bt:=oB V y<|aI wr _ y;have bn:=oB V v<|aI wr _ v;have ed:J L<=64:=by rw[<-B.4];exact aJ h.owns.size_le hn
  have eb:=List.length_pos_iff.2 db;have be:=Y cf;have Z_:=Y<|rL p;have cp:Q (∀x∈aw d,0<=x/\x<64):=Y (λx hx=>by obtain⟨q,hq,rfl⟩:=aY.1<|(rN p).1 hx;exact T_.2 q hq)
  have ei:=V.4;clear cf V Q_ y v s h b8 HV HZ a0;generalize J L=nl at*;generalize Z wr.1=du at*;generalize wr=el at*
  go_loopw [25] (λa6 wr=>∃q:N,q<=nl/\a6=Si S6 q/\Q (Sw (Z V_.1) V_ wr)/\Q (∀j (I_:j<J (aw d)),j<q->an L (aw d)[j]=So)) λa6 _=>nl-(JB a6).toNat
  .exact⟨0,aN,R,Y<|Rf,Y λj _ I_=>Sz I_ O⟩
  obtain⟨q,hq,rfl,f,Y_⟩:=hrel;have dz:=oB f bt<|aI V_ _ bt;have cr:=oB f bn<|aI V_ _ bn;have ch:=f.4;by_cases ap:q<nl
  .have C:q<J (aw d):=oN Z_.o;obtain⟨b4,o4,rfl,aj,K_⟩:=be q (by simpa using C);have F:=oB f K_ aj.2;rw[cM]at F;have a2:=cp _<|aH C;obtain⟨t,a1⟩:∃t:N,(aw d)[q]=(t:I):=⟨(aw d)[q].toNat,(fR a2.1).symm⟩;have ab:=Y a1;rw[a1]at F a2;have df:t<64:=O;have F_:=Y<|Ik df HW cr;have b1:=ck t;rw[b1]at F_;clear K_ a1 b1 a2;cases hrd:an L t with
   |false=>
    rw[hrd]at F_;have aa:Q (bj (fo L)=S (t:I)):=Y (by rw[<-ab.o];exact GV p C (λj a=>Y_ j _ a) (by rw[ab.o];exact hrd));clear hrd;go_wp2_with (go_at_call 153;with_reducible refine YU F_.o λw6 af=>?_)
    refine YL (v:=St #[Si S6 t,Sb So]) ?_;exact⟨P_.trans<|(f.trans<|af.mono ch).mono (oN P_.4),_,_,R,bC ⟨R,aa⟩⟩
   |true=>
    rw[hrd]at F_;have cj:Q (∀j (I_:j<J (aw d)),j<q+1->an L (aw d)[j]=So):=Y (λj I_ a=>by
     obtain a|a:=Nat.lt_succ_iff_lt_or_eq.1 a;·exact Y_ j I_ a
     subst a;rw[ab.o];exact hrd)
    clear hrd;go_wp2_with (go_at_call 153;with_reducible refine YU F_.o λw6 af=>?_)
    exact⟨⟨q+1,O,gM,Y<|f.trans (af.mono ch),cj⟩,SA⟩
  have C:0<J (aw d):=oN Z_.o;obtain⟨b4,o4,rfl,aj,K_⟩:=be 0 (by simpa using C);have F:=oB f K_ aj.2;rw[cM,fW]at F;have aa:=Y (Hf p λj a=>Y_ j a<|oN Z_.o);have cn:=Y<|G6 p C;generalize (aw d)[0]=t at*;clear K_;go_wp2;refine YL (v:=St #[Si S6 t,Sb Sn]) ?_;exact⟨P_.trans<|f.mono (oN P_.4),_,_,R,aZ ⟨R,aa,cn⟩⟩
 intro x c_ kl yd yp K cq ao ee U_ ad ce ap o dd ea;obtain⟨x',ex,rfl,dj⟩:=Maps.keyOf_int_inv underlying2 ao;cases ex;obtain⟨c',ec,ey⟩:=mu U_;obtain⟨rfl,rfl⟩:=Prod.mk.inj ey;have cw:=Ic ec;subst cw;obtain⟨b,aq,ar⟩:=(B.2<|.int S6 x).1 (has_true_of_atKey (y:=fu c_) ad);have da:x=b.1:=by simpa using ar
 have b3:c_=N3 b:=rI (by rw[<-B.3 b aq (.lit (.bool So)),<-ar];exact(ad _).symm);obtain⟨k,i,T,c6,c7⟩:=rV b;have Q_:=Y T;rw[T]at b3;subst da b3;unfold d9 at*;clear ar ey ec U_ ad T dj;dsimp only at*;have ct:c<Z wr.1:=aI wr _ y;have bo:g<Z wr.1:=aI wr _ v;have bq:=G (Xc (o:=0) (o.5 c ct sP)) y;have bl:=G (Xc (o:=0) (o.5 g bo<|by simp;omega)) v;have bx:∀q,K.frozen? ⟨g,q,U⟩=Sn:=λq=>by rw[bJ<|o.5 g bo SB];exact HZ q
 have a0:=s.4;have a8:=Y (s.grown o O λj a=>by cases a;omega);have bb:=Y ce;have cl:=Y ap;clear y v HZ s o ce ap;go_wp2_with fail
 have e2:Z (D K<|Sc #[Si S6 k,Si S6 b.1,Si S6 i,Si S6 0,Si S6 0] 64).1=Z K.1+1:=sP;have ba:Q (Jk (D K<|Sc #[Si S6 k,Si S6 b.1,Si S6 i,Si S6 0,Si S6 0] 64) (Z wr.1) 0 ⟨k,b.1,i,0,0⟩):=Y (by rw[<-dd];exact⟨sP,sP,sP,sP,sP⟩);have a9:=Y<|Xb a8 (Sc #[Si S6 k,Si S6 b.1,Si S6 i,Si S6 0,Si S6 0] 64);have co:=Y<|bb.alloc (Sc #[Si S6 k,Si S6 b.1,Si S6 i,Si S6 0,Si S6 0] 64);have cs:(λx9:Ub=>E x9 ⟨c,0,U⟩=S (X (S ⟨g,0,U⟩) 1 1)/\E x9 ⟨g,0,U⟩=S (Si .u64 W)/\Q (∀q,x9.frozen? ⟨g,q,U⟩=Sn)) (D K<|Sc #[Si S6 k,Si S6 b.1,Si S6 i,Si S6 0,Si S6 0] 64):=⟨(by rw[bP _ _ _<|by show c<_;omega];exact bq),(by rw[bP _ _ _<|by show g<_;omega];exact bl),(Y λq=>by rw[Bs _ _ _ (by show g≠_;omega)];exact bx q)⟩;generalize D K _=u at*;obtain⟨br,bm,b0⟩:=cs;clear bq bl bx;have bd:=Y<|ht.keep a9 ht.1;have cm:Q (Sk prog 117 #[Sj (S ⟨Z wr.1,0,U⟩)] u.drew λe O_=>∃H_ n5 c5,e=Rt (X H_ n5 c5)/\E O_ ⟨c,0,U⟩=S (X (S ⟨g,0,U⟩) 1 1)/\Q (Sk prog 150 #[Sa #[X (S ⟨g,0,U⟩) 1 1],X H_ n5 c5] O_ λe X_=>e=Rt (St #[])/\E X_ ⟨c,0,U⟩=S (X (S ⟨g,0,U⟩) 1 1)/\Q (IB L b g c W u X_))):=Y (by
  refine(vf (Z wr.1) k b.1 i 0 0 u.drew ba c6 c7 bd).mono ?_;rintro e O_⟨v5,rfl,l,ca⟩;have z:Sw (Z u.1) u O_:=⟨l.1,l.2,l.3,l.4,l.5⟩;rw[<-Q_.o,Hv]at ca;obtain⟨H_,c5,rfl,di⟩:=UO ca;have ef:=z.4;refine⟨H_,_,c5,R,oB z br O,Y ?_⟩;refine(Iq (Z u.1) (Y ?_) (Y sP) (by simp;unfold jp;split<;>simp) (Y<|Hw (T_.3 b aq)) HW (G (XU z O) bm) (λq=>by rw[bJ<|z.5 g O];exact b0 q) aA O).mono ?_
  .intro dn hi;obtain⟨b5,o5,e5,l,F⟩:=di dn (by simpa using hi);exact⟨b5,o5,e5,l,by rw[F];simp⟩
  rintro e X_⟨rfl,b6,c8,cv,dl⟩
  exact⟨R,G (Xc<|b6.5 c O SB) (G (XU z O) br),Y ⟨((calm z).but (S g)).andThen b6 (λj a=>by cases a;exact aZ R),c8,cv,dl⟩⟩)
 clear bm b0
 go_region_held3 (λw'=>E w' ⟨c,0,U⟩=S (X (S ⟨g,0,U⟩) 1 1)) (go_keep)
  (first
   |(go_at_call 117;with_reducible refine cm.o.mono ?_;rintro e O_⟨H_,n5,c5,rfl,f5,ci⟩)
   |(go_at_call 150;with_reducible refine YU ci.o λX_⟨f7,G_⟩=>?_))
 all_goals
  have bc:=Y<|co.kept G_.1 SB SB
  go_roundw
  .exact⟨_,_,_,_,_,_,_,_,⟨_,cq,_,bc,Y (a9.grown G_.1 O λj a=>by cases a;exact cx),f7,Y G_.2,G_.3,Y G_.4,Y λt=>by rw[Ha,HV.o t];exact(Hj T_.1 aq t).symm⟩,R⟩
  rw[bc.left_eq,h.left_eq];exact cl
end
section
open Go.Maps Go.Sort
def d8(L:Wy)(r:I)(a:Wc):Wy:=L.map λm=>if m.2=r/\m.1∈a then ⟨m.1,-1⟩else m
theorem Ib{L}:d8 L t []=L:=by simp[d8]
theorem Ih{L}(r)(h:∀m∈L,m.1∈l):d8 L r l=scratch L r:=by refine gH λm a=>?_;simp[h m a]
theorem Iv{L}(r){m}(a:m∈L)(h:m.1∉l):m∈d8 L r l:=aY.2 ⟨m,a,aM λe=>h e.2⟩
theorem H8{L S_ m}(c:(ai L).Nodup)(b:m∈L)(h:m.2=t\/m.2=-1):oy (d8 L t S_) m.1=d8 L t (S_++[m.1]):=by
 unfold oy d8;rw[jO];refine gH λq hq=>?_;show(if (if q.2=t/\q.1∈S_ then (⟨q.1,-1⟩:Mv)else q).1=m.1 then (⟨(if q.2=t/\q.1∈S_ then (⟨q.1,-1⟩:Mv)else q).1,-1⟩:Mv)else (if q.2=t/\q.1∈S_ then (⟨q.1,-1⟩:Mv)else q))=_;have d:(if q.2=t/\q.1∈S_ then (⟨q.1,-1⟩:Mv)else q).1=q.1:=by split<;>rfl
 rw[d];by_cases e:q.1=m.1
 .have:=rY c hq b e;subst this;rw[aU R];by_cases a:q.2=t;·rw[aU ⟨a,sP⟩]
  rw[aM λe=>a e.1];obtain h|h:=h;·exact Sz h a
  cases q;simp_all
 rw[aM e];simp[e]
theorem Hc{L S_ m}(b:(ai L).Nodup)(a:m∈L)(h:m.2≠t):d8 L t (S_++[m.1])=d8 L t S_:=by
 refine gH λq hq=>?_;by_cases e:q.1=m.1
 .have:=rY b hq a e;subst this;rw[aM λe=>h e.1,aM λe=>h e.1]
 simp[e]
theorem Hh{L}:ai (d8 L t l)=ai L:=by unfold ai d8;rw[jO];refine gH λm _=>?_;show(if m.2=t/\m.1∈l then (⟨m.1,-1⟩:Mv)else m).1=m.1;split<;>rfl
theorem Hd{f}(h:w.ownsMap prog 2 ay n m f)(d:Maps.size f<=k):w.ownsMap prog 2 ay n k f:=by obtain⟨b,a,c,F,e,rfl⟩:=h;exact⟨b,a,c,F,by simpa [Maps.size,length_sorted]using d,R⟩
theorem Hg{e}(h:w.ownsMap prog 2 ay n m e):∀a,e=.map a->∀p∈a,WideAt.IsKeyLit p.1:=λa b p c=>by let⟨d,e1,_,e3⟩:=h.entries RC;rw[b]at e1;injection e1 with e1;subst e1;exact e3 p c
theorem Ij(k t a)(W:Ub):(Instr.field 64 (Sa #[H k,H t,H a,H 0,H 0]) 2).run prog W=.ok (H a) W:=vZ
theorem IE{m}(h:m.2=-1\/(0<=m.2/\m.2<64))(a:0<=t):((N3 m).a=t/\(m.2=t\/m.2=-1))\/((N3 m).a≠t/\m.2≠t):=by
 unfold N3;split
 .show((0:I)=t/\_)\/((0:I)≠t/\_);omega
 show(m.2=t/\_)\/(m.2≠t/\_);omega
theorem Gy(K){L}(j:Q (w.ownsMap prog 2 ay n 64 K))(p:Q (aK K L))(g:Q (b9 L))(hr:0<=t):
 Sk prog 131 #[.map (S n),Si S6 t] w λe w'=>e=Rt (St #[])/\w.grownBy w' (S n)/\∃W,w'.ownsMap prog 2 ay n 64 W/\aK W (scratch L t):=by
 have a2:=j.lt;have ar:J L<=64:=p.4▸j.size_le;have N_:=Y<|xJ K j j.size_le (p.perm g.1<|Hg j);have K_:=Y<|xQ (S n) w
 go_in
 go_wp2_with (first
  |(go_at_call 152;with_reducible refine YU K_.o λw3 Z_=>?_;rw[Z_];clear Z_ w3)
  |(go_at_call 151;with_reducible refine N_.o.mono ?_;rintro e w4⟨a4,c4,a,rfl,z,Y_,C⟩))
 have aj:=Y Y_;have M_:=Y<|rL z;have J_:=Y C;have bb:=C.4;have HN:=Y<|((j6 a).trans z).nodup_iff.2 g.1;clear Y_ C;have af:=Y<|j.kept (calm J_) sP;have aa:Q (w.grownBy w4<|S n):=Y<|(calm J_).but _;generalize U_:J L=B at*;have ad:=Y U_;clear U_
 go_loopw [10] (λP wr=>∃(q:N)(b:DataW Unit),q<=B/\P=Si S6 q/\Q (w4.grownBy wr<|S n)/\Q (wr.ownsMap prog 2 ay n 64 b)/\Q (aK b<|d8 L t ((aw a).take q))) λP _=>B-(JB P).toNat
 .exact⟨0,K,aN,R,Y<|(calm<|Rf).but _,af,Y<|by rw[lK,Ib];exact p⟩
 obtain⟨q,b,hq,rfl,r,k,s⟩:=hrel;by_cases a8:q<B
 .have M:q<J (aw a):=oN M_.o
  obtain⟨P_,o4,rfl,ao,Q_⟩:=aj q (by simpa using M);have v:=G (Xc (o:=o4+q) (r.5 P_ ao.2<|by simp;omega)) Q_;rw[cM]at v;have X_:=(rN z).1 (aH M);obtain⟨m,i,y⟩:=aY.1 X_;have O_:Q ((aw a).take (q+1)=(aw a).take q++[m.1]):=Y (y▸bN M);have T_:m.1∉(aw a).take q:=λx=>by obtain⟨F,o,e⟩:=bR x;rw[dH]at o;rw[jG]at e;have:=gY.1 HN F q O M O;exact this<|by rw[e,y]
  rw[<-y]at v;have a3:Cl wr P_ (o4+q) (Si S6 m.1):=v;clear v;have ba:=g.2 m i;have T:=xT k s (Iv t i T_) O;have ap:=g.3 m i;have c:=Y<|IE ap hr;obtain⟨a0,u,R_,a6,a7⟩:=rV m;rw[R_]at T c;unfold d9 at T;dsimp only at T c;have ab:=Y<|oD m.1 O;have a1:=Y k.size_le;have S_:J (d8 L t<|(aw a).take (q+1))<=64:=by unfold d8;rw[bK,ad.o];exact ar
  have ac:=Y S_;have a5:=Ij a0 m.1 u wr;clear Q_ X_ y R_ T_ S_;by_cases f:u=t
  .have W_:m.2=t\/m.2=-1:=by obtain h|h:=c.o;exact h.2;exact Sz f h.1
   have l:=Y<|H8 (S_:=(aw a).take q) g.1 i W_;have x:(d8 L t<|(aw a).take q).any (λV=>V.1==m.1)=So:=by
    have:m.1∈ai (d8 L t<|(aw a).take q):=by rw[Hh];exact aY.2 ⟨m,i,R⟩
    obtain⟨V,hz,e⟩:=aY.1 this;exact List.any_eq_true.2 ⟨V,hz,by simpa using e⟩
   have d:Q (aK (b.put (.int S6 m.1) (fu ⟨13,m.1,0,0,0⟩)) (d8 L t<|(aw a).take (q+1))):=Y (by rw[O_.o,<-l.o];exact s.put_old x);have al:(u==t)=So:=by simpa using f
   clear W_ x f l;go_wp2_with (at_mapUpdate;refine wn _ R _ _ _ 235 R 2 64 RC RE ay n 64 b R k SD _ _ _ R R ab (fu ⟨13,m.1,0,0,0⟩) [] R ?_;intro w3 az aq)
   exact⟨⟨q+1,_,O,gM,Y (r.andThen aq λF o=>by cases o;exact aZ R),Y (Hd az<|by rw[d.4];exact ac),d⟩,SA⟩
  have V_:m.2≠t:=by obtain h|h:=c.o;exact Sz h.1 f;exact h.2
  have l:=Y<|Hc (S_:=(aw a).take q) g.1 i V_;have al:(u==t)=Sn:=by simpa using f
  have d:Q (aK b<|d8 L t ((aw a).take (q+1))):=Y (by rw[O_.o,l.o];exact s);clear V_ f l;go_wp2;exact⟨⟨q+1,_,O,gM,r,k,d⟩,SA⟩
 have a9:q=B:=O
 have d:Q (aK b<|scratch L t):=Y (by have:=s.o;rw[aW<|oN M_.o,Ih t λm p=>(rN z).2 (aY.2 ⟨m,p,R⟩)]at this;exact this)
 go_wp2
 go_end0
 exact⟨R,aa.andThen r (λF o=>by cases o;exact aZ R),b,k,d⟩
end
section
open Go.Maps Go.Sort
def pH:Value->N
 |.slice _ n _=>n
 |_=>0
theorem rU(h:Sx w n m k a B y):pH a=B:=by
 obtain⟨rfl,h0,_⟩|⟨g,c,rfl,_,_⟩:=Vc h;·rw[h0];rfl
 rfl
theorem rZ(h:Sx w (n+1) m k a B y):S n≠a.ownBlock:=λm=>by have:=(h.lt n m.symm).1;omega
structure ID(w W w':Ub)(v v':Uj)(D_:DataW Unit)(out:Vr)(x:Yg):Prop where
 row:Sx w' (Z w.1+1) 64 5 v' (J (out++[x])) (ZP<|out++[x])
 ne:v'≠X U 0 0
 map:w'.ownsMap prog 2 ay (Z w.1) 64 D_
 below:Sw (Z w.1) w w'
theorem yx{wr:Ub}{v1:Uj}{q:DataW Unit}{out:Vr}{e i:I}{o:Obj}(b:Sw (Z w.1) w wr)(c:v.ownsMap prog 2 ay (Z w.1) 64 q)(d:Sx v (Z w.1+1) 64 5 a (J out) (ZP out))(f:Sw (Z wr.1) wr v)(m:a≠X U 0 0)(l:Sx u (Z w.1+1) 64 5 v1 (J out+1) (ZP out++[Si S6 t,Si S6 T,Si S6 z,Si S6 e,Si S6 i]))(g:(D v o).grownBy u a.ownBlock)(k:v1=X U 0 0↔a=X U 0 0/\1=0):ID w wr u a v1 q out ⟨t,T,z,e,i⟩:=by
 have j:=b.4;have n:=f.4;have p:=c.lt;refine⟨?_,λh=>m (k.1 h).1,(c.alloc o).kept g (rZ d),?_⟩;·rw[j7,aQ];exact l
 exact Xy ((b.trans<|f.mono j).alloc O o) g (d.alloc o) gX SB
theorem GX{L}(h:b9 L){m}(c:m∈L)(b:bj (fo L)=S m.1):dm L=(N3 m,ff L m.1):=by unfold dm;rw[b];obtain⟨i,a,rfl⟩:=bR c;show(N3 ⟨_,pz L _⟩,_)=_;rw[yt h a]
theorem GS{L}(a:bj (fo L)=U)(b:bj (ai L)=S t):dm L=(⟨12,0,t,0,0⟩,scratch L t):=by unfold dm;rw[a];dsimp only;rw[b]
theorem Ia(o){L}(i:Q (w.ownsMap prog 2 ay n 64 o))(f:Q (aK o L))(d:Q (b9 L))(g:Q (L≠[]))(j:Q (Yy w))(a:bj (fo L)=S t):
 Sk prog 130 #[.map (S n)] w λe b=>e=Rt (St #[H t,Sb So])/\Sw (Z w.1) w b:=by
 refine(xr o i aA f d g j).mono ?_;rintro e b⟨c,l,k,rfl,⟨rfl,h⟩|⟨rfl,h,_⟩⟩;·rw[a]at h;cases h;exact⟨R,c⟩
 rw[a]at h;cases h
theorem Im(o){L}(j:Q (w.ownsMap prog 2 ay n 64 o))(g:Q (aK o L))(c:Q (b9 L))(i:Q (L≠[]))(k:Q (Yy w))(d:bj (fo L)=U)(f:bj (ai L)=S t):
 Sk prog 130 #[.map (S n)] w λe a=>e=Rt (St #[H t,Sb Sn])/\Sw (Z w.1) w a:=by
 refine(xr o j aA g c i k).mono ?_;rintro e a⟨b,m,l,rfl,⟨rfl,h⟩|⟨rfl,_,h⟩⟩;·rw[d]at h;cases h
 rw[f]at h;cases h;exact⟨R,b⟩
theorem Ht{b}(ha:Q (gj w m k p b))(hx:Q (n=J b))(hn:n<=1048576)(hB:k<=Z w.1)(hr:Q (∀a∈b,-9223372036854775808<=a.1/\a.1<=9223372036854775807))(ht:Q (Yy w)):
 Sk prog 83 #[X p n c] w λf w'=>∃v,f=Rt v/\v≠Hq/\Sw (Z w.1) w w'/\Sx w' (Z w.1) 64 5 v (J (dp b)) (ZP<|dp b):=by
 have M:=Y<|GB c ha hx hn hB hr;cases hgm:bw b with
 |false=>
  have L:Q (dp b=[]):=Y (by unfold dp;rw[hgm];rfl);rw[hgm]at M;clear hgm
  go_in
  go_wp2_with (go_at_call 129;with_reducible refine M.o.mono ?_;rintro f i⟨j,rfl,_⟩)
  have P:Q (Sw (Z w.1) w<|D i (Sc #[] 64)):=Y<|j.alloc j.4 _;have V:=Y<|Zk (m7 i) j.4;generalize D i _=W2 at*;generalize Z i.1=ao at*;clear j
  go_loopw [5] (λv wr=>v=Hl ao 0 0/\wr=W2) λ_ _=>0
  .exact⟨R,R⟩
  obtain⟨rfl,rfl⟩:=hrel;go_wp2;go_ret;exact⟨_,R,sP,P,by rw[L.o];exact V⟩
 |true=>
  let⟨bb,ap⟩:=rK hgm;let⟨a0,aa⟩:=ap.start;have L:Q (dp b=ax (dg<|bu b) (bu b)):=Y (by unfold dp;rw[aU hgm,aa]);have ba:Q (J (dp b)<=128):=Y (by rw[L.o];refine aJ (oC _ _) ?_;rw[aa];have:J (bu b)<=J b:=fJ _ _;omega)
  have e:=Y a0;rw[hgm]at M;clear hgm ap a0 aa bb
  go_in
  go_wp2_with (go_at_call 129;with_reducible refine M.o.mono ?_;rintro f i⟨j,rfl,l⟩)
  let⟨D0,ab,az⟩:=l JV;have be:=ab.lt;have P:Q (Sw (Z w.1) w<|D i (Sc #[] 64)):=Y<|j.alloc j.4 _;have V:Q (Sx (D i<|Sc #[] 64) (Z w.1+1) 64 5 (Hl (Z i.1) 0 0) 0 (ZP [])):=Y<|Zk (m7 i) be;have al:=Y<|ab.alloc (Sc #[] 64);have aj:=Y az;generalize D i _=W2 at*;generalize Z i.1=ao at*;clear j ab l az
  go_loopw [5] (λv wr=>∃(h:DataW Unit)(K:Wy)(out:Vr),Q (wr.ownsMap prog 2 ay (Z w.1) 64 h)/\Q (aK h K)/\Q (b9 K)/\Q (Sw (Z w.1) w wr)/\Q (Sx wr (Z w.1+1) 64 5 v (J out) (ZP out))/\Q (v≠Hq)/\Q (dp b=out++ax (dg K) K)) λv _=>200-pH v
  .exact⟨D0,bu b,[],al,aj,e,P,V,Y sP,Y<|by rw[L.o];rfl⟩
  clear P V;let⟨h,K,out,q,o,e,s,W,U_,F⟩:=hrel;have ar:=q.len RE 3;rw[o.4]at ar;have bv:=s.4;have bt:=q.lt;have HT:=Y<|ht.keep s ht.1;by_cases hK:K=[]
  .subst hK;have a7:Q (dp b=out):=Y (by rw[F.o,py,fF]);rw[bO]at ar;go_wp2;go_ret;exact⟨_,R,U_,s,by rw[a7.o];exact Zk W O⟩
  have bp:=List.length_pos_iff.2 hK
  have X_:=Y<|If e hK;have af:=Y<|rU W;have r_:Q (J out+1<=128):=Y (by have l:=ba.o;rw[F.o,X_.o]at l;simp at l;omega)
  have S_:Q (K≠[]):=Y hK;clear hK;generalize J K=nk at*;cases hlo:bj (fo K)with
  |some C=>
   have a1:=(fG.1 (mq hlo).1).1;obtain⟨a,z,rfl⟩:=aY.1 a1;have M_:=Y<|GX e z hlo;have R_:=Y<|Ia h q o e S_ HT hlo;have O_:=e.2 a z;have a8:=Y<|oD a.1 O;let⟨ac,ad,hk,bq,br⟩:=rV a;have a9:Q (∀W_,W_.ownsMap prog 2 ay (Z w.1) 64 h->(Instr.lookup 235 (.map (S (Z w.1))) (H a.1) Sn).run prog W_=.ok (Sa #[H ac,H a.1,H ad,H 0,H 0]) W_):=Y (λW_ hW=>by have:=xT hW o z O;rw[hk]at this;exact this)
   rw[hk]at M_;have a6:=Y<|o.del e.1 a.1;have V_:=Y<|e.without a.1;clear hlo a1 O_ hk
   go_wp2_with (first
    |(go_at_call 130;with_reducible refine YU R_.o λP_ g=>?_;have G_:=Y<|q.o.kept (calm g) sP;have bd:=a9.o P_ G_.o;have u:=Y<|W.o.kept (calm g) (Classical.em _);have bl:=g.4;have Q_:=Y g;clear g)
    |(at_delete;refine wpList_delete_own _ R _ _ 235 2 R 64 RC RE ay (Z w.1) 64 h R d.3 _ _ R a8 ?_;intro w5 bi bn)
    |(at_builtin;refine YC RB u ?_ (oN r_.o);intro v1 w4 B y r Y_;have d:=Y<|yx s G_ u Q_ U_ B y r;clear B y r Y_ bd)
    |go_in)
   have T:=Y<|rU d.1;have t:=Y bn.grown;refine⟨?_,?measure⟩
   (repeat apply gP)
   refine⟨?rel,R⟩;refine⟨_,ff K a.1,out++[⟨ac,a.1,ad,0,0⟩],Y bi,a6,V_,Y (d.4.grown t (aJ (dU d.3.lt) aA) λbo Z_=>by cases Z_;exact aA),Y (d.1.kept t<|aZ λf=>rZ d.1 f.symm),Y d.2,Y ?_⟩;·rw[F.o,X_.o,M_.o,cK];rfl
   have l:=af.o;have x:=T.o;have h3:=r_.o;rw[aQ]at x;simp only[bA,bO]at x;show 200-pH v1<200-pH u5;omega
  |none=>
   have a2:ai K≠[]:=λf=>S_<|by simpa [ai]using f
   let⟨C,N_⟩:∃C,bj (ai K)=S C:=by
    cases h_:bj (ai K)with
    |none=>exact Sz (lj.1 h_) a2
    |some C=>exact⟨C,R⟩
   obtain⟨a,z,rfl⟩:=aY.1 (mq N_).1;have M_:=Y<|GS hlo N_;have R_:=Y<|Im h q o e S_ HT hlo N_;have O_:=e.2 a z;have V_:=Y<|e.scratch a.1;have bm:=O_.1;clear hlo a2 O_ N_
   go_wp2_with (first
    |(go_at_call 130;with_reducible refine YU R_.o λP_ g=>?_;have G_:=Y<|q.o.kept (calm g) sP;have u:=Y<|W.o.kept (calm g) (Classical.em _);have bl:=g.4;have Q_:=Y g;clear g)
    |(go_at_call 131;refine YU (Gy h (Y d.3) o e bm) λw5⟨bc,D5,bh,bf⟩=>?_)
    |(at_builtin;refine YC RB u ?_ (oN r_.o);intro v1 w4 B y r Y_;have d:=Y<|yx s G_ u Q_ U_ B y r;clear B y r Y_)
    |go_in)
   have T:=Y<|rU d.1;have t:=Y bc;refine⟨⟨_,scratch K a.1,out++[⟨12,0,a.1,0,0⟩],Y bh,Y bf,V_,Y (d.4.grown t (dU d.3.lt) λbo Z_=>by cases Z_;exact aA),Y (d.1.kept t<|aZ λf=>rZ d.1 f.symm),Y d.2,Y ?_⟩,?_⟩;·rw[F.o,X_.o,M_.o,cK];rfl
   have l:=af.o;have x:=T.o;have h3:=r_.o;rw[aQ]at x;simp only[bA,bO]at x;omega
end
theorem It(c:Jy n x)(d:m<J x)(e:t∈AQ x 0 (m:I)):∀i (h:i<J x[m].1),ZX (n:I) (J (AQ x 0 (m:I))) x[m].1[i]=So:=λi h=>by have a:=c.8 _ (aH d) _ (aH h);have b:=c.9 m d _<|aH h;have j:=eJ e;unfold ZX Jt Tp;simp only[bY,bD,dV,gG];exact⟨⟨a.1,a.2⟩,⟨⟨O,b.1⟩,λg f=>b.2 g f⟩⟩
theorem Gx{Lc Bc}{L_:Uy}{M_ L2 B2}{f t:N}(V_:Q (Bx w n #[H m,X p k c,X P i j,X L_ k M_,a,A_] 46))(ha:Q (Xp w B g p x))(M:Q (k=J x))(hB:g<=Z w.1)(ho:Q (Jy m x))(hc:Q (Xf w Lc Bc P l))(af:Q (i=J l))(bo:Q (i=m))(bl:Bc<=Z w.1)(dj:Q (XR w L2 B2 L_ ((Rg k).map λZ_:N=>AQ x 0 (Z_:I))))(c6:B2<=Z w.1)(hO:Q (Yy w))(b8:t<k)(hp:Q ((f:I)∈AQ x 0 (t:I)))(da:Q (∀ar∈l,-9223372036854775808<=ar/\ar<=9223372036854775807)):
 Sk prog 41 #[Hn n,H f,H t] w λe h=>∃V,e=Rt V/\V≠Hq/\Sw (Z w.1) w h/\Sx h (Z w.1) 64 5 V (J (NL l x f (t:I))) (ZP<|NL l x f (t:I)):=by
 have al:t<J x:=oN M.o;have a1:=Y<|ym ho al hp;have aa:Q (NU l x f (t:I)=(E9 (de (AQ x 0 (t:I)) (f:I)) (iT x (t:I))).map λN_=>⟨Kp l N_.1,Kp l N_.2⟩):=Y R;have ad:Q (E9 (de (AQ x 0 (t:I)) (f:I)) (iT x (t:I))=E9 (de (AQ x 0 (t:I)) (f:I)) x[t].1):=Y (by rw[pD al]);have ck:Q (NL l x f (t:I)=dp (NU l x f (t:I))):=Y R;have eo:k<=1000:=oP M.o ho.1.2
 have ac:=Y (ho.10 _<|aH al).2;have O_:Q (∀W,Sw (Z w.1) w W->Sk prog 82 #[Sa #[H m,X p k c],X L_ k M_,H f,H t] W λe h=>∃C K,e=Rt (Sa #[H t,X C (J x[t].1) K])/\Sw (Z W.1) W h/\jb h (Z W.1) (Z h.1) C (E9 (de (AQ x 0 (t:I)) (f:I)) x[t].1)):=Y λW hW=>GF (m:I) c M_ (Y<|ha.keep (hW.mono hB)) M (oN hW.4) (Y<|dj.keep (hW.mono c6)) (Y sP) (oN hW.4) b8 b8 (Y λ_=>R) (Y λR_=>sP) (oP (YO (t:I) x 0) M.o) (oN ac.o) hp (Y<|It ho al hp);have X_:=V_.lt;have b0:=Bx.c V_ 0;have b1:=Bx.c V_ 1;have b3:=Bx.c V_ 3;let⟨T,hT⟩:∃T,T=E9 (de (AQ x 0 (t:I)) (f:I)) (iT x (t:I)):=⟨_,R⟩;rw[<-hT]at a1 aa ad;rw[<-ad.o]at O_;have J_:Q (J x[t].1=J T):=Y (by rw[ad.o];simp[E9]);rw[J_.o]at O_ ac;let⟨v,hm⟩:∃v,v=J T:=⟨_,R⟩;rw[<-hm]at O_ ac;have HM:=Y hm;clear hm hT J_;have en:=ac.o;have be:Q (Sk prog 82 #[Sa #[H m,X p k c],X L_ k M_,H f,H t] (D w<|Sc #[] 186).drew λe h=>∃C K,e=Rt (Sa #[H t,X C v K])/\E h (A n 0)=S (H m)/\E h (A n 1)=S (X p k c)/\E h (A n 3)=S (X L_ k M_)/\Q (Sw (Z w.1+1) (D w<|Sc #[] 186).drew h/\jb h (Z w.1+1) (Z h.1) C T)/\(∀W,Sem.run prog (Instr.field 181 (Sa #[H t,X C v K]) 1) W=.ok (X C v K) W)):=Y ((O_ (D w<|Sc #[] 186).drew (Xb Rf _).drew).mono (by
  rintro e o⟨C,K,rfl,L,S_⟩;have b7:Z (D w<|Sc #[] 186).drew.1=Z w.1+1:=by show Z (D w _).1=_;simp
  rw[b7]at L S_;have kw:=(Xb (dC (Z w.1) w) (Sc #[] 186)).drew.trans (L.mono<|gX);exact⟨C,K,R,oB kw b0 X_,oB kw b1 X_,oB kw b3 X_,Y ⟨L,S_⟩,λW=>vZ⟩))
 go_in
 go_wp2_with fail
 go_region_held3 (λh=>E h (A n 0)=S (H m)/\E h (A n 1)=S (X p k c)/\E h (A n 3)=S (X L_ k M_)) (go_keep)
  (first
   |(go_at_call 82;with_reducible refine be.o.mono ?_;rintro e o⟨C,K,rfl,f0,f1,f3,bc,db⟩))
 let⟨L,S_⟩:=bc.o;have bb:=Y S_;have du:=a1;have ep:Z w.1+1<=Z o.1:=by have:=L.4;have b7:Z (D w<|Sc #[] 186).drew.1=Z w.1+1:=(by show Z (D w _).1=_;simp);omega
 have cf:=Y<|(Xb (dC (Z w.1) w) (Sc #[] 186)).drew.trans (L.mono<|gX);have bf:Q (Sx o (Z w.1) 186 2 (Hl (Z w.1) 0 0) 0 []):=Y (by
  have h0:=eI (base:=Z w.1) (e:=186) (size:=2) w #[] 0 aA sP R;have h1:Xv (D w<|Sc #[] 186).drew (λb=>if b=Z w.1 then (0,0,0)else (1,0,0)) (0,0,0) (Z w.1) 186 2 (Hl (Z w.1) 0 0) 0 []:=⟨h0,λb e=>aU<|by injection e with e;exact e.symm⟩;exact(h1.keep (w':=o) (λb _ h2 e=>⟨L.5 b (by
   by_cases hq:b=Z w.1;·omega
   rw[aM hq]at e;simp at e),e⟩)).1)
 clear S_ L bc db b0 b1 b3 f0 f1 f3;go_wp2
 go_loopw [7,24] (λV Z_ wr=>∃d:N,d<=v/\Z_=H d/\Q (Sw (Z w.1) w wr/\YA (Z w.1+1) (Z o.1) o wr/\Z o.1<=Z wr.1)/\Q (Sx wr (Z w.1) 186 2 V (J ((NU l x f (t:I)).take d)) (Ng<|(NU l x f (t:I)).take d))/\Q (V≠Hq/\∀b,V.ownBlock=S b->b=Z w.1\/Z o.1<=b)) λ_ Z_ _=>v-(intOf Z_).toNat
 .exact⟨0,aN,R,Y ⟨cf,YA.refl _ _ _,aA⟩,bf,Y ⟨sP,λb e=>bC<|by injection e with e;exact e.symm⟩⟩
 obtain⟨d,hj,rfl,r,I_,HV⟩:=hrel;have Q_:Q (J (NU l x f (t:I))=v):=Y (by rw[aa.o,bK];exact HM.symm);by_cases em:d<v
 .have bv:d<J T:=oN HM.o
  have a7:=a1 _<|aH bv;obtain⟨ab,ao,rfl,⟨ea,d0⟩,bp,bq⟩:=(bb.keepS r.2.1) d bv;have az:Q ((NU l x f (t:I)).take (d+1)=(NU l x f (t:I)).take d++[⟨Kp l T[d].1,Kp l T[d].2⟩]):=Y (by rw[bN<|oN Q_.o];congr 1;simp[aa.o])
  have J_:Q (J ((NU l x f (t:I)).take d)=d):=Y (by rw[dH,Q_.o];omega);obtain⟨F,co,s,cc,eg,rfl,eb,a3⟩:=jq (hc.keep<|r.1.mono bl) a7.1.1 (oP af.o bo.o);let⟨dw,dz,u,cd,ej,a5,ec,a4⟩:=jq (hc.keep<|r.1.mono bl) a7.2.1 (oP af.o bo.o);injection a5 with a5;injection a5 with c8 c9;subst c8 c9;rw[cc]at bp a3 az;rw[cd]at bq a4 az;have ei:(s:I)<(i:I):=oN af.o;have ek:(u:I)<(i:I):=oN af.o
  have ef:(d:I)<(v:I):=O;have c7:=r.2.2;have df:n<Z wr.1:=O;have br:F<Z wr.1:=O;have el:n≠Z wr.1:=O;have ed:F≠Z wr.1:=O;have l2:Cl wr n 2 (Hm F co i j):=G (r.1.cell (p:=A n 2) X_) (ZY V_ R);let⟨z,y,Y_⟩:∃z y,u7=X z (J ((NU l x f (t:I)).take d)) y:=by
   obtain⟨e,R_,_⟩|⟨z,y,e,_⟩:=Vc I_;·exact Sz e HV.1
   exact⟨_,_,e⟩
  rw[J_.o]at Y_;subst Y_;generalize Kp l (s:I)=z1 at*;generalize Kp l (u:I)=z2 at*;clear cc cd a7;go_wp2;have U_:=(Xb (dC (Z wr.1) wr) (Sc #[H s,H u] 184));have a2:=Bx.new wr #[H s,H u] 184;have t0:E (D wr<|Sc #[H s,H u] 184) (A (Z wr.1) 0)=S (H s):=ZY a2 R;have t1:E (D wr<|Sc #[H s,H u] 184) (A (Z wr.1) 1)=S (H u):=ZY a2 R;have s2:=oB U_ l2 df;have s3:=oB U_ a3 br;have s4:=oB U_ a4 br;have a0:Q (Sx (D wr<|Sc #[H s,H u] 184) (Z w.1) 186 2 (X z d y) d (Ng<|(NU l x f (t:I)).take d)):=Y (World.ownsRow.alloc (by have:=I_.o;rw[J_.o]at this;exact this) _);have bd:Q (Sw (Z w.1) w (D wr<|Sc #[H s,H u] 184)/\YA (Z w.1+1) (Z o.1) o (D wr<|Sc #[H s,H u] 184)):=Y ⟨r.1.alloc r.1.4 _,r.2.1.trans<|ZU (U_.mono c7)⟩;have cs:Q (Z (D wr<|Sc #[H s,H u] 184).1=Z wr.1+1):=Y sP;have cx:=Y r.1.4;have dc:=Y (λb e=>by have:=I_.o;exact(this.lt b e).2);clear U_ a2 l2 a3 a4 bp bq I_ r;generalize D wr _=q at*;have dk:=cs.o;have es:=cx.o;generalize Z wr.1=tb at*;have ca:tb<Z q.1:=O;have di:n<Z q.1:=O;have bt:F<Z q.1:=O;have er:Z w.1<=Z q.1:=O;have eq:Z o.1<=Z q.1:=O;clear dk;refine Y7 (λh=>E h (A n 2)=S (Hm F co i j)/\E h (A tb 0)=S (H s)/\E h (A tb 1)=S (H u)/\E h (A F<|co+s)=S (H z1)/\E h (A F<|co+u)=S (H z2)) λig=>?_;refine Xn 0 ?_;(iterate 17 refine Rm ?_);refine Xs 18 λcz hK=>?_;go_simp;refine hK _ _ kP λig=>?_;clear hK;refine Xs 19 λcz hK=>?_;refine YI (w:=q.drew) RA a0 ?_
  intro v8 w8 b6 aj b4 bm;have bi:Q (Sx (D q.drew<|Sc #[H z1,H z2] 186) (Z w.1) 186 2 (X z d y) d (Ng<|(NU l x f (t:I)).take d)):=Y<|World.ownsRow.alloc (w:=q.drew) a0 _;have k8:∀b,b<Z q.1->S b≠(X z d y).ownBlock->w8.1[b]?=q.1[b]?:=λb hb a6=>G (aj.5 b SB a6) (gF q.drew _ _ hb)
  have cj:Q (Z o.1<=Z w8.1):=Y (by have:=aj.4;simp at this;omega);have ci:=Y (Xy (vT bd.1.drew (show Z w.1<=Z q.1 by omega) _) aj bi aA SB);have cr:Q (YA (Z w.1+1) (Z o.1) o w8):=Y (λb h1 h2=>G (k8 b O λe=>by have:=HV.2 b e.symm;omega) (bd.2 b h1 h2));have cp:Q (Sx w8 (Z w.1) 186 2 v8 (J ((NU l x f (t:I)).take (d+1))) (Ng<|(NU l x f (t:I)).take (d+1))):=Y (by rw[az.o,nf,aQ,J_.o];exact b6)
  have cw:Q (v8≠Hq/\∀b,v8.ownBlock=S b->b=Z w.1\/Z o.1<=b):=Y ⟨λe=>by have:=(b4.1 e).2;omega,λb e=>by
   obtain R_|R_:=bm;·rw[R_]at e;exact HV.2 b e
   rw[R_]at e;injection e with e;right;rw[<-e];simp;omega⟩
  have K_:∀b a9,b<Z q.1->S b≠(X z d y).ownBlock->E w8 (A b a9)=E q (A b a9):=λb a9 hb a6=>Xc<|k8 b hb a6;have ap:∀b,b<Z w.1->S b≠(X z d y).ownBlock:=λb hb e=>by have:=(a0.lt b e.symm).1;omega
  have a8:S tb≠(X z d y).ownBlock:=λe=>by have:=dc tb e.symm;omega
  refine hK _ _ ⟨G (K_ _ _ di<|ap _ X_) s2,G (K_ _ _ ca a8) t0,G (K_ _ _ ca a8) t1,G (K_ _ _ bt<|ap _ O) s3,G (K_ _ _ bt<|ap _ O) s4⟩ λig=>?_;clear hK b6 aj b4 bm K_ k8 ap a8
  refine Xn 20 ?_;refine Yq ?_;clear ig;go_wp2;exact⟨⟨d+1,O,gM,Y ⟨ci,cr,cj⟩,cp,cw⟩,by simp[intOf];omega⟩
 have HE:Q ((NU l x f (t:I)).take d=NU l x f (t:I)):=Y<|aW (by rw[Q_.o];omega)
 have bh:=I_;rw[HE.o]at bh;let⟨aq,cq,Y_,_,_,bx⟩:=m9 bh;rw[Q_.o]at Y_;have cm:=Y bx;subst Y_;have ee:¬(d:I)<(v:I):=O;have cl:Q (∀ba∈NU l x f (t:I),-9223372036854775808<=ba.1/\ba.1<=9223372036854775807):=Y (λba M=>by
  rw[aa.o]at M;obtain⟨N_,_,rfl⟩:=aY.1 M;show -9223372036854775808<=Kp l N_.1/\Kp l N_.1<=9223372036854775807;unfold Kp;rw[bF];cases hq:l[N_.1.toNat]? with
  |none=>simp
  |some ar=>exact da ar<|eN hq)
 clear bx I_;go_wp2_with fail
 refine(Ht cm (Y Q_.symm) O aA cl (Y<|hO.keep r.1 hO.1)).mono ?_;rintro e w5⟨v5,rfl,ce,bn,b5⟩;have ch:=Y<|Xg r.1 bn;have cn:Q (Sx w5 (Z w.1) 64 5 v5 (J (NL l x f (t:I))) (ZP<|NL l x f (t:I))):=Y (by rw[ck.o];exact Zk b5 r.1.4)
 have cv:=Y ce;clear bn b5 ce;go_wp2;go_ret;exact⟨_,R,cv,ch,cn⟩
section
theorem xI{iv}{b:List ag}(x:ag){B:List ag}:NH iv (b++x::B)=NH iv b++(Nf (iv (J b)) x.2++Yu (λi (x:ag)=>Nf (iv i) x.2) (J b+1) B):=by unfold NH;rw[rR,aV];rfl
theorem xM{iv}{xs:List ag}{i q}(h:i<J xs)(hq:q<5){u v':Uj}{x':ag}(e:(Nf (iv i) xs[i].2).set q u=Nf v' x'.2):(NH iv xs).set (i*5+q) u=NH (λj=>if j=i then v' else iv j) (xs.set i x'):=by
 have e1:xs=xs.take i++xs[i]::xs.drop (i+1):=by rw[<-gZ h,hH]
 have b:J (xs.take i)=i:=by rw[dH];omega
 have e2:xs.set i x'=xs.take i++x':: xs.drop (i+1):=by rw[List.set_eq_take_append_cons_drop,aU h]
 have d:NH (λj=>if j=i then v' else iv j) (xs.take i)=NH iv (xs.take i):=rQ λj f=>aM O;rw[e2,xI,b,d,aU R]
 conv=>lhs;rw[e1]
 rw[xI,b,Hu _ _ (by rw[pE,b];omega),pE,b,uB,List.set_append_left _ _ (by simp[Nf];omega),e];congr 2;exact rW _ _ _ _ _ λj x=>by show Nf (iv _) _=Nf (if _ then _ else _) _;rw[aM O]
variable {w wr w8: Ub} {lab lab': N -> N×N×N} {base: N} {K J_: N} {xs: List ag} {iv: N -> Uj}
theorem Nh.turn{g n c}(h:Nh w lab base (X (S ⟨g,0,U⟩) n c) K J_ xs iv)(t:n=J xs)(o:K≠J_){i q}(s:i<J xs)(hq:q<5)(u f:Uj)(d:ag)(p:(Nf (iv i) xs[i].2).set q u=Nf f d.2)(v:Xv w lab (J_,i,0) base 64 5 f (J d.1) (ZP d.1)):Nh (Se w ⟨g,i*5+q,U⟩ u) lab base (X (S ⟨g,0,U⟩) n c) K J_ (xs.set i d) (λj=>if j=i then f else iv j):=by
 subst t;have r:=h.1.blk.2;have m:∀j b,lab b=(J_,j,0)->b≠g:=λj b e q=>o (by rw[q,r]at e;injection e);refine⟨?_,λj l=>?_⟩
 .have:=h.1.set (i*5+q) u;rw[xM s hq p]at this;rw[bL];exact this
 rw[bL]at l;by_cases e:j=i
 .subst e;simp only[gG,cQ];exact v.sp (XW.put g _ u) λb e=>m _ b e
 simp only[aM e,bI λq=>e q.symm];exact(h.2 j l).sp (XW.put g _ u) λb e=>m _ b e
theorem Nh.other{v}(h:Nh w lab base v K J_ xs iv){i}(f:K≠J_)(k:XW w w8 lab lab' base λb=>lab b≠(J_,i,0)):Xv w8 lab' (K,0,0) base 54 5 v (J xs) (NH iv xs)/\∀j (d:j<J xs),j≠i->Xv w8 lab' (J_,j,0) base 64 5 (iv j) (J xs[j].1) (ZP xs[j].1) :=
 ⟨h.1.sp k λb e q=>f (by rw[e]at q;injection q),λj d g=>(h.2 j d).sp k λb e q=>g<|by rw[e]at q;injection q with _ q;injection q⟩
structure Op where
 w:Ub
 base:N
 L2:N
 B2:N
structure Nw(w0:Op)(wr:Ub)(lab:N->N×N×N)(lb:N)(V:I)(a:Uy)(n c:N)(ac:Uy)(nc cc:N)(pa:Uy)(pc:N)(k:I)(mv:Uj)(M:List ag)(iv:Vu):Prop where
 low:Sw w0.2 w0.w wr
 bx:Bx wr lb #[Si S6 V,X a n c,X ac nc cc,X pa n pc,Si S6 k,mv] 46
 lw:w0.2<=lb
 m:Nh wr lab w0.2 mv 1 3 M iv
 fr:∀q,Z wr.1<=q->lab q=(0,0,0)
 l0:lab lb=(0,0,0)
 sm:YA w0.3 w0.4 w0.w wr
 lp:∀b,w0.3<=b->b<w0.4->lab b=(0,0,0)
 gd:w0.2<=w0.3/\w0.4<=Z w0.w.1/\w0.2<=Z w0.w.1/\¬(w0.3<=lb/\lb<w0.4)
variable {w0: Op} {lb: N} {V: I} {a: Uy} {n c: N} {ac: Uy} {nc cc: N} {pa: Uy} {pc: N} {k: I} {mv v8: Uj} {M: List ag}
theorem Nw.bs(h:Nw w0 wr lab lb V a n c ac nc cc pa pc k mv M iv):w0.2<=Z wr.1:=aJ h.9.2.2.1 h.1.4
theorem Nw.b2(h:Nw w0 wr lab lb V a n c ac nc cc pa pc k mv M iv):w0.4<=Z wr.1:=aJ h.9.2.1 h.1.4
theorem Nw.sms(h:Nw w0 wr lab lb V a n c ac nc cc pa pc k mv M iv){i}(g:XW wr w8 lab lab' w0.2 i)(f:∀b,lab b=(0,0,0)->i b):YA w0.3 w0.4 w0.w w8/\∀b,w0.3<=b->b<w0.4->lab' b=(0,0,0):=by have l:=h.9.1;have j:=h.b2;refine⟨λb d e=>G (g.2 b O O<|f b (h.8 b d e)).1 (h.7 b d e),λb d e=>G (g.2 b O O<|f b (h.8 b d e)).2 (h.8 b d e)⟩
theorem Nw.calm(h:Nw w0 wr lab lb V a n c ac nc cc pa pc k mv M iv)(b:Sw (Z wr.1) wr w8):Nw w0 w8 lab lb V a n c ac nc cc pa pc k mv M iv :=
 ⟨h.1.trans<|b.mono h.bs,h.2.keep<|b.5 _ h.2.lt,h.3,h.m.sp (XW.below b) (λ_ _=>JV) λ_ _ _ _=>JV,λq hq=>h.5 q<|aJ b.4 hq,h.6,(h.sms (XW.below b) λ_ _=>JV).1,h.8,h.9⟩
theorem Nw.spT(h:Nw w0 wr lab lb V a n c ac nc cc pa pc k mv M iv)(d:Sw (Z wr.1) wr w8)(b:XW wr w8 lab lab' w0.2 λ_=>True):Nw w0 w8 lab' lb V a n c ac nc cc pa pc k mv M iv :=
 ⟨h.1.trans<|d.mono h.bs,h.2.keep<|d.5 _ h.2.lt,h.3,h.m.sp b (λ_ _=>JV) λ_ _ _ _=>JV,b.3 h.5,G (b.2 _ h.3 h.2.lt JV).2 h.6,(h.sms b λ_ _=>JV).1,(h.sms b λ_ _=>JV).2,h.9⟩
theorem Nw.push(h:Nw w0 wr lab lb V a n c ac nc cc pa pc k mv M iv)(x:ag){q}(hq:Xv wr lab (3,J M,0) w0.2 64 5 q (J x.1) (ZP x.1))(d:wr.grownBy w8 mv.ownBlock)(z:Sx w8 w0.2 54 5 v8 (J M+1) (NH iv M++Nf q x.2))(v:v8.ownBlock=mv.ownBlock\/v8.ownBlock=S (Z wr.1)):
 (∃lab',Nw w0 (Se w8 ⟨lb,5,U⟩ v8) lab' lb V a n c ac nc cc pa pc k v8 (M++[x]) λi=>if i=J M then q else iv i)/\Bx w8 lb #[Si S6 V,X a n c,X ac nc cc,X pa n pc,Si S6 k,mv] 46:=by
 let⟨lab',u,f⟩:=h.m.push vY x hq d z v h.5;have g:∀b,lab b=(0,0,0)->lab b≠(1,0,0):=λb e q=>by rw[e]at q;simp at q
 have y:Sw w0.2 wr w8:=⟨d.1,d.2,d.3,d.4,λq hq=>d.5 q (aX hq h.bs) λe=>by have:=(h.m.1.1.lt q e.symm).1;omega⟩;have r:=G (f.2 _ h.3 h.2.lt<|g _ h.6).2 h.6;have m:=h.2.sp f h.3<|g _ h.6;have s:∀b L,lab' b=L->L≠(0,0,0)->b≠lb:=λb L e t q=>t (by rw[<-e,q];exact r);have o:=XW.put (w:=w8) (lab:=lab') (base:=w0.2) lb 5 v8;have p:=h.sms f g;exact⟨⟨lab',(h.1.trans y).setCell (p:=A lb 5) h.3 _,m.set 5 v8,h.3,u.sp o (λb e=>s b _ e sP) λb i _ e=>s b _ e sP,o.3<|f.3 h.5,r,λb j l=>G (cY λe=>h.9.2.2.2 (by have e2:b=lb:=e;rw[<-e2];exact⟨j,l⟩)) (p.1 b j l),p.2,h.9⟩,m⟩
theorem Nw.row{g t m}(h:Nw w0 wr lab lb V a n c ac nc cc pa pc k (X (S ⟨g,0,U⟩) t m) M iv)(W:t=J M){i}(p:i<J M)(d:Vr)(f:wr.grownBy w8 (iv i).ownBlock)(L:Sx w8 w0.2 64 5 v8 (J M[i].1+J d) (ZP M[i].1++ZP d))(G_:v8.ownBlock=(iv i).ownBlock\/v8.ownBlock=S (Z wr.1)):
 (∃lab',Nw w0 (Se w8 ⟨g,i*5,U⟩ v8) lab' lb V a n c ac nc cc pa pc k (X (S ⟨g,0,U⟩) t m) (M.set i ⟨M[i].1++d,M[i].2⟩) λj=>if j=i then v8 else iv j)/\Bx w8 lb #[Si S6 V,X a n c,X ac nc cc,X pa n pc,Si S6 k,X (S ⟨g,0,U⟩) t m] 46/\E w8 ⟨g,i*5,U⟩=S (iv i)/\(∀q,w8.frozen? ⟨g,q,U⟩=Sn)/\lb≠g:=by
 subst W;let⟨lab',O_,l⟩:=(h.m.2 i p).grow f L G_ h.5;have u:∀b,lab b=(0,0,0)->lab b≠(3,i,0):=λb e q=>by rw[e]at q;simp at q
 have H_:Sw w0.2 wr w8:=⟨f.1,f.2,f.3,f.4,λq hq=>f.5 q (aX hq h.bs) λe=>by have:=((h.m.2 i p).1.lt q e.symm).1;omega⟩;have s:=G (l.2 _ h.3 h.2.lt<|u _ h.6).2 h.6;have B:=h.2.sp l h.3<|u _ h.6;let⟨r,N_⟩:=h.m.other vY l;have o:=r.blk;have F:lb≠g:=λe=>by rw[e]at s;rw[o.2]at s;simp at s
 have e1:J (M[i].1++d)=J M[i].1+J d:=aQ;have P_:Xv w8 lab' (3,i,0) w0.2 64 5 v8 (J (M[i].1++d)) (ZP<|M[i].1++d):=by rw[e1,j7];exact O_
 have v:=XW.put (w:=w8) (lab:=lab') (base:=w0.2) g (i*5) v8;have x:=h.sms l u;have P:∀j b,lab' b=(3,j,0)->b≠g:=λj b e q=>by rw[q,o.2]at e;simp at e
 have F_:Nh (Se w8 (A g<|i*5) v8) lab' w0.2 (Hl g (J M) m) 1 3 (M.set i ⟨M[i].1++d,M[i].2⟩) (λj=>if j=i then v8 else iv j):=by
  refine⟨?_,λj C=>?_⟩
  .have:=r.set (i*5) v8;have y:=xM (q:=0) (u:=v8) (v':=v8) (x':=⟨M[i].1++d,M[i].2⟩) p O (iv:=iv) R;rw[fW]at y;rw[y]at this;rw[bL];exact this
  rw[bL]at C;by_cases e:j=i
  .subst e;simp only[gG,cQ];exact P_.sp v λb e=>P _ b e
  simp only[aM e,bI λq=>e q.symm];exact(N_ j C e).sp v λb e=>P _ b e
 refine⟨⟨lab',(h.1.trans H_).setCell (p:=A g<|i*5) o.1.1 _,B.other F,h.3,F_,v.3<|l.3 h.5,s,λb z T=>G (cY (λe=>by have:=x.2 b z T;have e2:b=g:=e;rw[e2,o.2]at this;simp at this)) (x.1 b z T),x.2,h.9⟩,B,?_,λq=>r.thaw q,F⟩;have:=lq (q:=0) (u:=iv i) r p O R;rwa[fW]at this
end
def PH(m:Op)(wr:Ub)(g:N)(V:I)(a:Uy)(n c:N)(b:Uy)(i d:N)(j:Uy)(l:N)(k:I)(M:List ag):Prop:=∃f h e,Nw m wr f g V a n c b i d j l k h M e
structure O4(w0:Op)(V:N)(a:Uy)(n:N)(xs:Wi)(L B:N)(ac:Uy)(nc:N)(cs:Wc)(Lc Bc:N)(pa:Uy):Prop where
 blks:Xp w0.w L B a xs
 len:n=J xs
 hB:B<=w0.2
 ok:Jy V xs
 ints:Xf w0.w Lc Bc ac cs
 lc:nc=J cs
 lv:nc=V
 hBc:Bc<=w0.2
 preds:XR w0.w w0.3 w0.4 pa ((Rg n).map λi:N=>AQ xs 0 (i:I))
 ops:Yy w0.w
 opb:1 < w0.2
 cr:∀z∈cs,-9223372036854775808<=z/\z<=9223372036854775807
theorem O4.copies{b o s}(K:O4 b n P m x k B o g l i j s){r y L}{p t:N}(f:Sw b.2 b.w w)(K_:b.2<=Z w.1)(F:YA b.3 b.4 b.w w)(z:b.4<=Z w.1)(M:Bx w r #[H n,X P m c,X o g y,X s m L,a,A_] 46)(T:t<m)(V:(p:I)∈AQ x 0 (t:I)):
 Sk prog 41 #[Hn r,H p,H t] w λe v=>∃h u,e=Rt (X h (J (NL l x p (t:I))) u)/\Sw (Z w.1) w v/\Sx v (Z w.1) 64 5 (X h (J (NL l x p (t:I))) u) (J (NL l x p (t:I))) (ZP<|NL l x p (t:I))/\∃d,h=S (A d 0):=by
 refine(Gx (Y M) (Y<|K.1.keep (f.mono K.3)) (Y K.2) (oN K.3) (Y K.4) (Y<|K.5.keep (f.mono K.8)) (Y K.6) (Y K.7) (oN K.8) (Y<|K.9.keepS F) z (Y<|K.10.keep f K.11) T (Y V) (Y K.cr)).mono ?_;rintro e L_⟨v5,rfl,W,C,q⟩;obtain⟨e,_,_⟩|⟨d,c,e,_,_⟩:=Vc q;·exact Sz e W
 subst e;exact⟨_,_,R,C,q,d,R⟩
theorem xt(C c cc){pa}(pc o a0)(M:List ag){q t:N}(hG:Q (O4 C n p m x k B P g l i j pa))(hH:Q (PH C w o (n:I) p m c P g cc pa pc a0 M))(hM:J M<=5000)(bc:t<m)(hp:Q ((q:I)∈AQ x 0 (t:I))):
 Sk prog 42 #[Hn o,H q,H t] w λK y=>K=Rt (H (ah l x q (t:I) (J M)).1)/\PH C y o (n:I) p m c P g cc pa pc a0 (M++(ah l x q (t:I) (J M)).2)/\∀b l,Bx w b l 50->Bx y b l 50:=by
 obtain⟨bh,mv,iv,v⟩:=hH.o;have J_:=Y<|hG.copies v.1 v.bs v.7 v.b2 v.2 bc hp;obtain⟨T_,U_,a9⟩:=v.m.1.form;subst a9;have K_:=Y v;have Z_:Q (ah l x q t (J M)=if NL l x q t=[]then ((t:I),[])else ((J M:I),[⟨NL l x q t,⟨1,0,(t:I),0⟩⟩])):=Y R;obtain⟨L,aj⟩:∃L,L=NL l x q (t:I):=⟨_,R⟩;rw[<-aj]at J_ Z_;obtain⟨d,ab⟩:∃d,d=J L:=⟨_,R⟩;rw[<-ab]at J_;have V_:=Y ab;clear aj ab v
 go_in
 go_wp2_with fail
 refine J_.mono ?_;rintro K s⟨va,r,rfl,Q_,aq,h,rfl⟩;obtain⟨br,ar,az⟩:=Xv.fresh (L:=(3,J M,0)) (lab:=bh) (base:=C.2) Q_ aq K_.bs K_.5;have z:=Y<|K_.spT Q_ az;have X_:Q (∀b l,Bx w b l 50->Bx s b l 50):=Y λb l F=>F.keep<|Q_.5 b F.lt;have ad:=Y ar;clear Q_ aq ar az;by_cases h0:d=0
 .have W_:Q (ah l x q t (J M)=((t:I),[])):=Y (by rw[Z_.o,aU<|List.length_eq_zero_iff.1 (by rw[<-V_.o];exact h0)]);subst h0;go_wp2;go_ret;rw[W_.o];exact⟨R,⟨_,_,_,by rw[fF];exact z⟩,X_⟩
 have W_:Q (ah l x q t (J M)=((J M:I),[⟨L,⟨1,0,(t:I),0⟩⟩])):=Y (by rw[Z_.o,aM λK=>h0<|by rw[V_.o,K];rfl]);have bi:¬(d:I)=0:=O;obtain⟨e,R_⟩:∃e,e=J M:=⟨_,R⟩;have u:=Y R_;rw[<-R_]at hM;have S_:=Bx.c z.2 5;rw[<-R_]at S_;clear R_;go_wp2;have aa:=(Xb (dC (Z s.1) s) (Sc #[Hl h d r,H 1,H 0,H t,H 0] 54));have A_:=Bx.new s #[Hl h d r,H 1,H 0,H t,H 0] 54;have L_:=Y<|z.calm aa;have a3:Q (∀b l,Bx w b l 50->Bx (D s<|Sc #[Hl h d r,H 1,H 0,H t,H 0] 54) b l 50):=Y λb l F=>(X_ b l F).box _;have a4:=Y (ad.sp (XW.below aa) λ_ _=>JV);have bn:=z.2.lt;have a8:=z.5 _<|aA;have a5:Q (Z (D s<|Sc #[Hl h d r,H 1,H 0,H t,H 0] 54).1=Z s.1+1):=Y sP;have bp:=z.bs;clear aa S_;generalize D s _=a at*;have a6:Z s.1<Z a.1:=oN a5.o;generalize Z s.1=f at*;have bo:o<Z a.1:=O;have bq:C.2<=Z a.1:=O;have bm:o≠f:=O;have bl:f≠o:=O;have t0:=Bx.c A_ 0;have t1:=Bx.c A_ 1;have t2:=Bx.c A_ 2;have t3:=Bx.c A_ 3;have t4:=Bx.c A_ 4;have S_:E a (A o 5)=S (X T_ e U_):=by rw[u.o];exact ZY L_.2 R
 have a1:=Y A_;clear A_;have Y_:Q (Sx (D a.drew<|Sc #[Hl h d r,H 1,H 0,H t,H 0] 54) C.2 54 5 (X T_ e U_) e (NH iv M)):=Y (World.ownsRow.alloc (w:=a.drew) (by rw[u.o];exact L_.m.1.1) _);refine Y7 (λy=>E y (A f 0)=S (Hl h d r)/\E y (A f 1)=S (H 1)/\E y (A f 2)=S (H 0)/\E y (A f 3)=S (H t)/\E y (A f 4)=S (H 0)) λig=>?_;refine Xn 0 ?_;(iterate 4 refine Rm ?_);refine Xn 6 ?_;refine eS (rs:=[5,7]) vZ sP ?_;refine(bQ R (λN_ hK=>?_) (bQ R (λN_ hK=>?_) dY))
 focus
  go_simp;refine hK _ _ kP λig=>?_;clear hK
  refine eS (rs:=[7]) vZ sP ?_
 rotate_left
 focus
  go_simp;refine hK _ _ kP λig=>?_;clear hK
  refine eS (rs:=[5]) vZ sP ?_
 all_goals (
  refine bQ R (λN_ hK=>?_) dY;go_simp;refine hK _ _ kP λig=>?_;clear hK
  refine Xs 8 λN_ hK=>?_;refine YD Qa Y_ (XE<|World.alloc_heap_new _ _) (by intro bv hu;simp at hu;obtain rfl|rfl|rfl|rfl|rfl:=hu<;>rfl) ?_
  intro v8 w8 ac V ba ao;have hA:=L_.calm (w8:=D a.drew<|Sc #[Hl h d r,H 1,H 0,H t,H 0] 54) ((dC (Z a.1) a).drew.alloc aA _);have hR:=a4.sp (w':=D a.drew<|Sc #[Hl h d r,H 1,H 0,H t,H 0] 54) (XW.below<|(dC (Z a.1) a).drew.alloc aA _) λ_ _=>JV;obtain⟨⟨bt,al⟩,W⟩:=hA.push ⟨L,⟨1,0,(t:I),0⟩⟩ (by show Xv _ _ _ _ _ _ _ (J L) _;rw[<-V_.o];exact hR) (by rw[<-u.o];exact V) (by rw[<-u.o];exact ac) (by rw[<-u.o];exact ao);obtain⟨g8,c8,rfl,_,_⟩:=Xm ac O;have ap:S f≠(X T_ e U_).ownBlock:=λK=>by have h9:=L_.m.1.2 f (by rw[<-u.o];exact K.symm);rw[a8]at h9;simp at h9
  have T:=a1.keep (G (V.5 f SB ap) (gF a.drew _ _ a6));rw[<-u.o]at W;have k5:=Bx.c W 5;have kz:=Bx.thaw W;have af:=Y al;have a2:Q (∀b l,Bx w b l 50->Bx (Se w8 (A o 5) (Hl g8 (e+1) c8)) b l 50):=Y (λb l F=>by have h1:=a3 b l F;have O_:Bx (D a.drew<|Sc #[Hl h d r,H 1,H 0,H t,H 0] 54) b l 50:=Bx.box (w:=a.drew) h1 _;exact(O_.grown V<|rJ O_ Y_ vY).other (j8 (O_.grown V<|rJ O_ Y_ vY) W vY))
  refine hK _ _ ⟨ZY T R,ZY T R,ZY T R,ZY T R,ZY T R⟩ λig=>?_;clear hK ac V ba ao hA hR al W T ap t0 t1 t2 t3 t4 S_
  refine Xn 9 ?_;refine Xn 10 ?_;refine Xn 11 ?_;refine Xs 12 λN_ hK=>?_;go_simp;refine hK _ _ kP λig=>?_;clear hK;refine Yq ?_;clear ig;have q5:E (Se w8 (A o 5) (Hl g8 (e+1) c8)) (A o 5)=S (Hl g8 (e+1) c8):=ZY af.2 R;generalize Se w8 _ _=w9 at*;clear k5 kz;go_wp2;go_ret
  rw[W_.o];exact⟨by rw[u.o];simp,⟨_,_,_,af⟩,a2⟩)
theorem Nw.te{l wr y o}{M:List ag}(b:Nw l wr Z_ n t p m c P k B y g T (X (S ⟨i,0,U⟩) j o) M h)(w:j=J M){a q}(v:a<J M)(hq:q<5)(u:Uj){t'}(F:(Nf (h a) M[a].2).set q u=Nf (h a) t'):
 Nw l (Se wr ⟨i,a*5+q,U⟩ u) Z_ n t p m c P k B y g T (X (S ⟨i,0,U⟩) j o) (M.set a ⟨M[a].1,t'⟩) (λx=>if x=a then h a else h x):=by
 have z:=b.m.turn w vY v hq u (h a) ⟨M[a].1,t'⟩ F (b.m.2 a v);subst w;have f:=b.m.1.blk;have C:n≠i:=λe=>by have:=b.6;rw[e,f.2]at this;simp at this
 exact⟨b.1.setCell (p:=A i<|a*5+q) f.1.1 _,b.2.other C,b.3,z,(XW.put (w:=wr) (lab:=Z_) (base:=l.2) i (a*5+q) u).3 b.5,b.6,λd r s=>G (cY (λe=>by have:=b.8 d r s;have e2:d=i:=e;rw[e2,f.2]at this;simp at this)) (b.7 d r s),b.8,b.9⟩
theorem GC(d){Lc Bc Q_ K u}{M:List ag}{a}(y:Q (O4 d n p m x k B P i l Lc Bc Q_))(hH:Q (PH d w u (n:I) p m c P i j Q_ K t M))(hM:J M<=4000)(ao:a<J x)(F:a<J M)(hx:Q (M[a]=⟨x[a].2.map (ZR l),NN l x[a].3⟩)):
 Sk prog 16 #[Hn u,H a] w λf T=>f=Rt (St #[])/\PH d T u (n:I) p m c P i j Q_ K t (M.set a (Nk l x a x[a] (J M)).1++(Nk l x a x[a] (J M)).2):=by
 have HN:=Y y.2;obtain⟨d0,mv,iv,r⟩:=hH.o;obtain⟨N_,ob,rfl,⟨_,db⟩,cg⟩:=y.1 a ao;obtain⟨qa,qc,ia,ic,_,_,⟨e2,e3,e4,e5⟩,_,_⟩:=cg;have ch:N_<d.2:=oN y.3;have K_:Q (∀L:I,L∈x[a].3.tg->(0<=L/\L<m)/\(a:I)∈AQ x 0 L):=Y (λL ht=>⟨by have:=y.4.1.3 _ (aH ao) L ht;rw[HN.o];exact this,by have:=rP L x 0 a ao ht;simpa using this⟩);have aa:=λcx=>r.1.cell (p:=A N_ cx) ch;have f2:=G (aa _) e2;have f3:=G (aa _) e3;have f4:=G (aa _) e4;have f5:=G (aa _) e5;have dc:N_<Z w.1:=oN r.bs;have dk:(a:I)<m:=oN HN.o;obtain⟨O_,mc,cn⟩:=r.m.1.got O;subst cn;obtain⟨va,vc,aj⟩:=(r.m.2 a F).form;have a6:J M[a].1=J x[a].2:=by rw[hx.o,bK]
 rw[a6]at aj;have a0:=Y a6;have J_:=Y aj;have bi:=Y (y.4.10 _<|aH ao).1;obtain⟨ml,a7⟩:∃ml,ml=J M:=⟨_,R⟩;have c9:=Y a7;have dl:(a:I)<ml:=O;have l5:E w (A u 5)=S (Hl O_ ml mc):=by rw[a7];exact ZY r.2 R
 have m0:E w (A O_<|a*5)=S (X va (J x[a].2) vc):=by have:=lq (q:=0) (u:=iv a) r.m.1 F O R;rw[fW,aj]at this;exact this
 have cm:=r.m.1.blk.1.2;have dd:=r.2.lt;clear a6 aj a7;have l1:=Bx.c r.2 1;have L_:=Y r;have q:Q (Nk l x a x[a] (J M)=if x[a].3.1=1 then (⟨x[a].2.map (ZR l)++NL l x a x[a].3.3,NN l x[a].3⟩,[])
  else if x[a].3.1=2 then (⟨x[a].2.map (ZR l),⟨x[a].3.1,Kp l x[a].3.a,(ah l x a x[a].3.3 (J M)).1,(ah l x a x[a].3.4 (J M+J (ah l x a x[a].3.3 (J M)).2)).1⟩⟩,(ah l x a x[a].3.3 (J M)).2++(ah l x a x[a].3.4 (J M+J (ah l x a x[a].3.3 (J M)).2)).2)
  else (⟨x[a].2.map (ZR l),NN l x[a].3⟩,[])):=Y R
 obtain⟨af,hR⟩:∃af,af=Nk l x a x[a] (J M):=⟨_,R⟩;rw[<-hR]at q |-;clear r aa e2 e3 e4 e5 hR;generalize x[a]=cb at*;obtain⟨ps,A_,kd,o,R_,S_⟩:=cb;dsimp only at f2 f3 f4 f5 q K_ hx a0 J_ bi m0
 go_in
 by_cases h1:kd=1
 .subst h1;rw[aU R]at q;have b0:=K_ R_ (by simp[Yj.tg]);obtain⟨b,rfl⟩:∃b:N,R_=(b:I):=⟨R_.toNat,O⟩;have az:=Y λ(W:Ub)(hW:Sw d.2 d.w W)(ce:d.2<=Z W.1)(cq:YA d.3 d.4 d.w W)(cd:d.4<=Z W.1)(hb:Bx W u #[H n,Hm N_ ob m c,X P i j,X Q_ m K,H t,Hl O_ (J M) mc] 46)=>y.copies (p:=a) (t:=b) hW ce cq cd hb O b0.2;have a2:Q (J (NL l x a b)<=128):=Y<|m8 _;obtain⟨V_,bm⟩:∃V_,V_=NL l x a (b:I):=⟨_,R⟩;rw[<-bm]at az a2 q;obtain⟨cl,a4⟩:∃cl,cl=J V_:=⟨_,R⟩;rw[<-a4]at az a2;have bb:=Y a4;have da:=a2.o;have du:=bi.o;clear bm a4 b0;have V:=Xb (dC (Z w.1) w) (Sc #[H 1,H o,H b,H S_] 50);have C:=Bx.new w #[H 1,H o,H b,H S_] 50;have s:=Y<|L_.calm V;have di:O_≠Z w.1:=O;have dj:Z w.1≠O_:=O;have u2:E (D w<|Sc #[H 1,H o,H b,H S_] 50) (A (Z w.1) 2)=S (H b):=ZY C R;have b3:=oB V m0 cm;have I_:=Y C;have b7:=Y<|L_.5 _ aA;have ds:=V.4;clear C V;go_wp2;clear f2 f3 f4 f5 l1 l5 m0;generalize D w _=U_ at*;have br:O_<Z U_.1:=O;generalize Z w.1=tb at*;have be:=Y<|az.o U_.drew s.1.drew s.bs s.7 s.b2 (s.2.keep R);refine Y7 (λT=>E T (A tb 2)=S (H b)) λig=>?_;refine Xn 0 ?_;(iterate 3 refine Rm ?_);refine Xn 5 ?_;(iterate 3 refine Rm ?_);refine eS (rs:=[4,9]) vZ sP ?_;refine(bQ R (λZ_ hK=>?_) (bQ R (λZ_ hK=>?_) dY))
  focus
   go_simp;refine hK _ _ kP λig=>?_;clear hK
   refine Xs 9 λZ_ hK=>?_;go_simp
   go_at_call 41
   with_reducible refine be.o.mono ?_
   rintro f w5⟨c6,c5,rfl,ab,ac,g5,rfl⟩;have v:=Xg (dC (Z U_.1) U_).drew ab;have Y_:=Y<|s.calm v;have X_:=Y<|I_.keep (v.5 _ I_.lt);have x5:=oB v b3 br;have bf:=Y ac;have s5:=Bx.c X_ 2;clear ab ac v;dsimp only;refine hK _ _ s5 λig=>?_;clear hK
  rotate_left
  focus
   go_simp
   go_at_call 41
   with_reducible refine be.o.mono ?_
   rintro f w5⟨c6,c5,rfl,ab,ac,g5,rfl⟩;have v:=Xg (dC (Z U_.1) U_).drew ab;have Y_:=Y<|s.calm v;have X_:=Y<|I_.keep (v.5 _ I_.lt);have x5:=oB v b3 br;have bf:=Y ac;have s5:=Bx.c X_ 2;clear ab ac v;dsimp only;refine hK _ _ s5 λig=>?_;clear hK
   refine Xs 4 λZ_ hK=>?_;go_simp;refine hK _ _ kP λig=>?_;clear hK
  all_goals (
   refine Xs 10 λZ_ hK=>?_;refine YD (news:=ZP V_) RB (by have:=(Y_.m.2 a F).1;rw[a0.o,J_.o]at this;exact this) ?s2 (l7 _) ?_ (hl:=by rw[iR,bb.o]) (hs:=by exact Y_.bs)
   case s2=>
    intro b1 ef hu;have:=Jj bf hu;cases b1 with
    |zero=>simpa [Addr.add]using this
    |succ b1=>simpa [Addr.add]using this
   intro v8 w8 a9 a5 cp bo;obtain⟨⟨eb,z⟩,ck,cf,dw,df⟩:=Y_.row R F V_ (by rw[J_.o];exact a5) (by rw[a0.o,<-bb.o];exact a9) (by rw[J_.o];exact bo);rw[J_.o]at cf;obtain⟨a8,c8,rfl⟩:∃a8 c8,v8=X a8 (J A_+cl) c8:=by
    obtain⟨f,h,_⟩|⟨g,c,f,_⟩:=Vc a9;·exact⟨U,0,by rw[f,h]⟩
    exact⟨_,_,f⟩
   have a1:=Y z;have bp:Bx w8 tb _ _:=X_.keep (a5.5 tb X_.lt (λf=>by have h9:=(Y_.m.2 a F).2 tb (by rw[J_.o];exact f.symm);rw[b7.o]at h9;simp at h9))
   refine hK _ _ (ZY bp R) λig=>?_;clear hK a9 a5 cp bo z ck bp
   refine Xn 11 ?_;refine Xn 12 ?_;refine Xs 13 λZ_ hK=>?_;go_simp;refine hK _ _ kP λig=>?_;clear hK;refine Yq ?_;clear ig;go_wp2;refine uT (v:=St #[]) (by simp[JC,results16,go_sem]) R ⟨R,?_⟩;rw[q.o,fF];exact⟨_,_,_,by have:=a1.o;rw[hx.o]at this;exact this⟩)
 by_cases h2:kd=2
 .subst h2
  rw[aM vY,aU R]at q;have bt:=K_ R_ (by simp[Yj.tg]);have bv:=K_ S_ (by simp[Yj.tg]);obtain⟨b,rfl⟩:∃b:N,R_=(b:I):=⟨R_.toNat,O⟩;obtain⟨e,rfl⟩:∃e:N,S_=(e:I):=⟨S_.toNat,O⟩;have cr:b<m:=O;have cs:e<m:=O;have b8:=Y bt.2;have ca:=Y bv.2;have V:=Xb (dC (Z w.1) w) (Sc #[H 2,H o,H b,H e] 50);have C:=Bx.new w #[H 2,H o,H b,H e] 50;have s:=Y<|L_.calm V;clear bt bv;have u3:E (D w<|Sc #[H 2,H o,H b,H e] 50) (A (Z w.1) 3)=S (H e):=ZY C R;have I_:=Y C;obtain⟨s1,ap⟩:∃s1,s1=ah l x a b (J M):=⟨_,R⟩;rw[<-ap]at q;obtain⟨s2,aq⟩:∃s2,s2=ah l x a e (J M+J s1.2):=⟨_,R⟩;rw[<-aq]at q;have ar:=Y<|xt d c j K u t M y (Y ⟨_,_,_,s⟩) O cr b8;rw[<-ap]at ar;have b6:Q (J s1.2<=1):=Y (by rw[ap];exact m6 _ _ _ _ _);have bc:Q (∀W,PH d W u n (S ⟨N_,ob,U⟩) m c P i j Q_ K t (M++s1.2)->Sk prog 42 #[Hn u,H a,H e] W λf T=>f=Rt (H s2.1)/\PH d T u n (S ⟨N_,ob,U⟩) m c P i j Q_ K t ((M++s1.2)++s2.2)/\∀bl l,Bx W bl l 50->Bx T bl l 50):=Y (λW hW=>by have:=xt d c j K u t (M++s1.2) y (Y hW) (by rw[aQ];have:=b6.o;omega) cs ca;rw[aQ,<-aq]at this;exact this)
  have c7:Q (J s2.2<=1):=Y (by rw[aq];exact m6 _ _ _ _ _);clear V C ap aq;go_wp2_with fail
  refine YU ar λw5⟨bn,bq⟩=>?_;have b5:=Y<|bq _ _ I_;have bd:=Y<|bc.o w5 bn;have v3:=Bx.c b5 3;clear bn bq s u3 f2 f3 f4 f5 l1 l5 m0;go_wp2_with fail
  refine YU bd λw6⟨cc,cj⟩=>?_;clear cj v3;obtain⟨ea,ee,dz,D_⟩:=cc;have al:a<J ((M++s1.2)++s2.2):=by simp only[aQ];omega
  obtain⟨b4,ec,co⟩:=D_.m.1.got O;subst co;have ad:((M++s1.2)++s2.2)[a]=⟨A_.map<|ZR l,⟨2,Kp l o,(b:I),(e:I)⟩⟩:=by rw[fA (by rw[aQ];omega),fA F,hx.o];rfl
  have bh:Q (((M++s1.2)++s2.2).set a ⟨A_.map<|ZR l,⟨2,Kp l o,s1.1,s2.1⟩⟩=M.set a af.1++af.2):=Y (by rw[q.o,cK,List.set_append_left _ _ F]);have a3:=D_.te R al (q:=3) O (H s1.1) (t':=⟨2,Kp l o,s1.1,(e:I)⟩) (by rw[ad];rfl);rw[ad]at a3;have bx:a<J (((M++s1.2)++s2.2).set a ⟨A_.map<|ZR l,⟨2,Kp l o,s1.1,(e:I)⟩⟩):=by rw[bL];exact al
  have ba:(((M++s1.2)++s2.2).set a ⟨A_.map<|ZR l,⟨2,Kp l o,s1.1,(e:I)⟩⟩)[a]=⟨A_.map<|ZR l,⟨2,Kp l o,s1.1,(e:I)⟩⟩:=cQ _;have z:=a3.te (by rw[bL]) bx (q:=4) O (H s2.1) (t':=⟨2,Kp l o,s1.1,s2.1⟩) (by rw[ba];rfl);rw[ba,gE]at z;dsimp only at z;rw[bh.o]at z;have a1:=Y z;have l6:=Bx.c D_.2 5;have n3:Cl w6 b4 (a*5+3) (H b):=lq (q:=3) D_.m.1 al O (by rw[ad];rfl);have n4:Cl w6 b4 (a*5+4) (H e):=lq (q:=4) D_.m.1 al O (by rw[ad];rfl);have nz:=λcz=>D_.m.1.thaw cz;have dn:(a:I)<((J ((M++s1.2)++s2.2):N):I):=O;clear D_ a3 z ad ba bx;generalize J ((M++s1.2)++s2.2)=ed at*;go_wp2_with fail
  refine uT (v:=St #[]) (by simp[JC,results16,go_sem]) R ⟨R,?_⟩;exact⟨_,_,_,a1⟩
 rw[aM h1,aM h2]at q;go_wp2;refine uT (v:=St #[]) (by simp[JC,results16,go_sem]) R ⟨R,?_⟩;rw[q.o,fF,<-hx.o,fK];exact⟨_,_,_,L_.calm<|Xb Rf _⟩
structure O1(w1 wx:Ub)(W:Op)(lb:N)(V:N)(a:Uy)(n c:N)(xs:Wi)(L B:N)(ac:Uy)(nc cc:N)(cs:Wc)(Lc Bc:N)(pa:Uy)(pc:N)(k:I)(M:List ag):Prop where
 g:O4 W V a n xs L B ac nc cs Lc Bc pa
 h:PH W wx lb (V:I) a n c ac nc cc pa pc k M
 bs:W.2=Z w1.1
 ww:Sw (Z w1.1) w1 W.w
theorem O1.low{W b a e f}{M:List ag}(h:O1 w v W n m p k c x B g P i j l b a e f t M):Sw (Z w.1) w v:=by let⟨_,_,_,d⟩:=h.h;have:=d.1;rw[h.3]at this;exact h.4.trans this
theorem O4.new{w1:Ub}{f}(c)(b:Sw (Z w1.1) w1 w)(ha:Xp w1 k B p x)(u:m=J x)(d:B<=Z w1.1)(s:Jy n x)(h:Xf w1 i j P l)(r:g=J l)(o:g=n)(e:j<=Z w1.1)(a:Yy w1)(q:∀z∈l,-9223372036854775808<=z/\z<=9223372036854775807)(t:XR w c (Z w.1) f ((Rg m).map λv:N=>AQ x 0 (v:I))):O4 ⟨w,Z w1.1,c,Z w.1⟩ n p m x k B P g l i j f :=
 ⟨ha.keep<|b.mono d,u,d,s,h.keep<|b.mono e,r,o,e,t,a.keep b a.1,a.1,q⟩
def OT(a:Wc)(b:Wi):List ag:=b.map λx=>⟨x.2.map<|ZR a,NN a x.3⟩
def dq(a:Wc)(b:Wi)(j:N):List ag:=(ae a b j).1++OT a (b.drop j)++(ae a b j).2
theorem xV(a)(h:n<=J x):J (dq a x n)=J x+J (ae a x n).2:=by unfold dq OT;rw[aQ,aQ,ll a x n h,bK,mF];omega
theorem xH(a)(h:n<J x):dq a x n=(ae a x n).1++(⟨x[n].2.map (ZR a),NN a x[n].3⟩ :: (OT a (x.drop<|n+1)++(ae a x n).2)):=by unfold dq OT;rw[gZ h,eH,cK,cW]
theorem Ir(h:n<J x)(a:n<J (dq l x n)):(dq l x n)[n]=⟨x[n].2.map (ZR l),NN l x[n].3⟩:=by
 have b:=ll l x n<|dU h;have:(dq l x n)[n]?=S ⟨x[n].2.map (ZR l),NN l x[n].3⟩:=by rw[xH l h,eV O,b,kL];rfl
 rw[aC a]at this;injection this
theorem He(a)(h:n<J x):(dq a x n).set n (Nk a x n x[n] (J (dq a x n))).1++(Nk a x n x[n] (J (dq a x n))).2=dq a x (n+1):=by have b:=ll a x n<|dU h;rw[xV a<|dU h,xH a h,Hu _ _ O,b,kL,List.set_cons_zero];unfold dq;rw[ou a x n h];simp only[cK,cW,dR]
theorem G8:dq l x 0=OT l x:=by unfold dq;simp[ae]
theorem Hy:dq l x (J x)=NK l x:=by unfold dq NK OT;rw[Am,fZ,fF]
theorem XW.deep(p)(c:p.1<n)(u:Uj):XW w (Se w p u) Z_ Z_ n (λ_=>True) :=
 ⟨SH,λb a _ _=>⟨cY O,R⟩,λh b a=>h b<|by simpa [World.setCell]using a⟩
theorem Nh.down{e:List ag}(b:Nh w Z_ n a k B e h)(c:m<=n):Nh w Z_ m a k B e h :=
 ⟨⟨Zk b.1.1 c,b.1.2⟩,λi d=>⟨Zk (b.2 i d).1 c,(b.2 i d).2⟩⟩
def pG(w:Ub)(b:N)(a:Uy)(n c:N)(f:List ag):Prop:=∃e d,Nh w e b (X a n c) 1 3 f d
theorem pG.of{a:List ag}(b:Nh w Z_ n (X p m c) 1 3 a h):pG w n p m c a:=⟨Z_,h,b⟩
theorem Hi{K_}(ha:Q (Xp w k B p x))(I_:Q (m=J x))(hB:B<=Z w.1)(S_:Q (Jy n x))(hc:Q (Xf w j K_ P l))(ba:Q (g=J l))(b6:Q (g=n))(b0:K_<=Z w.1)(hk:1<=t/\t<=64)(hO:Q (Yy w))(hT:Q (Yb w))(ct:Q (∀ci∈l,-9223372036854775808<=ci/\ci<=9223372036854775807))(hg:Q (mp x m))(bo:Q (∀W,Sw (Z w.1) w W->Sk prog 13 #[Sa #[H n,X p m c],X P g i,H t] W λq d=>q=Rt (Sb So)/\Sw (Z W.1) W d)):
 Sk prog 5 #[Sa #[H n,X p m c],X P g i,H t] w λq d=>∃z L,q=Rt (Sa #[H t,X z (J (NK l x)) L])/\Sw (Z w.1) w d/\pG d (Z w.1) z (J (NK l x)) L (NK l x):=by
 have h1:¬t<1:=O;have h2:¬64<t:=O;have dz:m<=1000:=oP I_.o S_.1.2
 go_in
 go_wp2_with fail
 refine YU (bo _<|Xb (Xb Rf _) _) λa af=>?_;have hF:=((Bx.new w #[H n,X p m c] 25).box _).keep (af.5 _<|by simp;omega);have hR:=(by have:=Bx.new (D w<|Sc #[H n,X p m c] 25) #[H 0,Hq] 31;rw[aO]at this;exact this.keep<|af.5 _ sP);have hz:=hR.lt;have az:Z w.1<Z a.1:=O;have T_:=Y<|Xg (Xb (Xb (dC (Z w.1) w) _) _) af;have f0:=Bx.c hF 0;have f1:=Bx.c hF 1;have HF:=Y hF;have HR:=Y hR;have HG:=Y λ(b:Ub)(f:Uy)(L2:N)(hb:Sw (Z a.1) a b)(hp:XR b L2 (Z b.1) f ((Rg m).map λv:N=>AQ x 0 (v:I)))=>O4.new (w1:=a) L2 hb (ha.keep<|T_.mono hB) I_ O S_ (hc.keep<|T_.mono b0) ba b6 O (hO.keep T_ hO.1) ct hp;have bp:=Y λ(W:Ub)(hW:Sw (Z w.1) w W)=>VG (n:I) c k B (Y<|ha.keep (hW.mono hB)) I_ O (oN hW.4) hg;clear af hF hR;go_wp2_with fail
 go_cut [7]from 11 to 59 λc7 wx=>∃(V:N)(W:Op)(f:Uy)(o:N),c7=Hn V/\Q (O1 a wx W V n p m c x k B P g i l j K_ f o t [])
 case first=>
  have a6:Q (∀W,Sw (Z a.1) a W->Sk prog 14 #[Sa #[H n,X p m c]] W λq d=>∃f o,q=Rt (X f m o)/\E d (A (Z w.1) 0)=S (H n)/\E d (A (Z w.1) 1)=S (X p m c)/\Z w.1<Z d.1/\Q (Sw (Z W.1) W d)/\Q (XR d (Z W.1) (Z d.1) f ((Rg m).map λv:N=>AQ x 0 (v:I)))):=Y (λW hW=>by refine(bp W<|T_.trans (hW.mono O)).mono ?_;rintro q b⟨f,o,rfl,aj,bf⟩;have y:=Xg hW aj;exact⟨f,o,R,oB y f0 az,oB y f1 az,oN y.4,Y aj,Y bf⟩)
  have HA:=Y<|a6.o a.drew (dC (Z a.1) a).drew;have bd:Bx (D a<|Sc #[H 0,Hq,Hq,Hq,H 0,Hq] 46).drew (Z a.1) #[H 0,Hq,Hq,Hq,H 0,Hq] 46:=Bx.new a _ _;have HC:=Y ((a6 (D a<|Sc #[H 0,Hq,Hq,Hq,H 0,Hq] 46).drew ((dC (Z a.1) a).alloc aA _).drew).mono (R':=λq d=>∃f o,q=Rt (X f m o)/\E d (A (Z w.1) 0)=S (H n)/\E d (A (Z w.1) 1)=S (X p m c)/\Z w.1<Z d.1/\(E d (A (Z a.1) 0)=S (H 0)/\E d (A (Z a.1) 1)=S Hq/\E d (A (Z a.1) 2)=S Hq/\E d (A (Z a.1) 3)=S Hq/\E d (A (Z a.1) 4)=S (H 0)/\E d (A (Z a.1) 5)=S Hq/\∀df,d.frozen? (A (Z a.1) df)=Sn)/\Q (Bx d (Z a.1) #[H 0,Hq,Hq,Hq,H 0,Hq] 46)/\Q (Sw (Z a.1) a d/\Z a.1+1<=Z d.1)/\Q (XR d (Z a.1+1) (Z d.1) f ((Rg m).map λv:N=>AQ x 0 (v:I)))) (by
   rintro q b⟨f,o,rfl,f0,f1,bh,u,M_⟩;have N_:=bd.keep<|u.5 _ bd.lt;have c9:Z (D a<|Sc #[H 0,Hq,Hq,Hq,H 0,Hq] 46).drew.1=Z a.1+1:=by show Z (D a _).1=_;simp
   have hb:=u.o;have hp:=M_.o;have a9:=hb.4;rw[c9]at hb hp a9;exact⟨f,o,R,f0,f1,bh,⟨ZY N_ R,ZY N_ R,ZY N_ R,ZY N_ R,ZY N_ R,ZY N_ R,Bx.thaw N_⟩,Y N_,Y ⟨((dC (Z a.1) a).alloc aA _).drew.trans (hb.mono<|gX),a9⟩,Y hp⟩))
  have d0:Z a.1≠Z w.1:=O;have ea:Z w.1≠Z a.1:=O;clear bd
  go_region_held3 (λd=>E d (A (Z w.1) 0)=S (H n)/\E d (A (Z w.1) 1)=S (X p m c)) (go_keep)
   (first
    |(go_at_call 14;with_reducible refine HA.o.mono ?_;rintro q b⟨f,o,rfl,f2,f3,bh,u,M_⟩)
    |(go_at_call 14;with_reducible refine HC.o.mono ?_;rintro q b⟨f,o,rfl,f2,f3,bh,⟨z0,z1,z2,z3,z4,z5,zz⟩,V_,u,M_⟩))
  .go_wp2;go_meet;have y:=Xg (dC (Z a.1) a).drew u;have bf:XR b (Z a.1) (Z b.1) f ((Rg m).map λv:N=>AQ x 0 (v:I)):=M_.o;exact⟨Z b.1,⟨b,Z a.1,Z a.1,Z b.1⟩,f,o,R,Y ⟨HG b f _ y bf,⟨λ_=>(0,0,0),_,λ_=>Hq,⟨(Rf).alloc y.4 _,Bx.new _ _ _,y.4,Nh.nil,λ_ _=>R,R,ZU<|Xb (dC (Z b.1) b) _,λ_ _ _=>R,aA,aA,y.4,λa7=>Nat.lt_irrefl _ a7.2⟩⟩,R,y⟩⟩
  go_wp2;go_meet;have y:=u.1;have ee:=u.2;exact⟨Z a.1,⟨b,Z a.1,Z a.1+1,Z b.1⟩,f,o,R,Y ⟨HG b f _ y M_,⟨λ_=>(0,0,0),_,λ_=>Hq,⟨(((((((dC (Z a.1) b).setCell (p:=A (Z a.1) 0) aA _).setCell (p:=A (Z a.1) 1) aA _).setCell (p:=A (Z a.1) 2) aA _).setCell (p:=A (Z a.1) 3) aA _).setCell (p:=A (Z a.1) 4) aA _).setCell (p:=A (Z a.1) 5) aA _),(((((V_.set 0<|H n).set 1 (X p m c)).set 2 (X P g i)).set 3 (X f m o)).set 4 (H t)).set 5 Hq,aA,Nh.nil,λ_ _=>R,R,((((((YA.refl (Z a.1+1) (Z b.1) b).setCell (p:=A (Z a.1) 0) (bC<|iJ) _).setCell (p:=A (Z a.1) 1) (bC<|iJ) _).setCell (p:=A (Z a.1) 2) (bC<|iJ) _).setCell (p:=A (Z a.1) 3) (bC<|iJ) _).setCell (p:=A (Z a.1) 4) (bC<|iJ) _).setCell (p:=A (Z a.1) 5) (bC<|iJ) _,λ_ _ _=>R,gX,aA,y.4,λa7=>Nat.not_succ_le_self _ a7.1⟩⟩,R,y⟩⟩
 obtain⟨V,W,f,o,rfl,HZ⟩:=hcut;have cq:Cl wc (Z w.1) 1 (X p m c):=oB HZ.low f1 az;clear f0 f1;go_wp2;clear cq
 go_loopw [35] (λv wr=>∃e:N,e<=m/\v=H e/\Q (O1 a wr W V n p m c x k B P g i l j K_ f o t<|OT l (x.take e))) λv _=>m-(intOf v).toNat
 .exact⟨0,aN,R,HZ⟩
 obtain⟨e,hj,rfl,Y_⟩:=hrel;clear HZ;have ac:=Y Y_.low;have ed:=ac.4;by_cases dn:e<m
 .have R_:e<J x:=oN I_.o;have du:(e:I)<(m:I):=O;obtain⟨cg,mv,iv,O_⟩:=Y_.h;obtain⟨gb,ob,rfl,⟨_,dj⟩,cs⟩:=(ha.keep<|(T_.trans<|ac.mono O).mono hB) e R_;obtain⟨M,F,C,T,e0,e1,⟨e2,e3,e4,e5⟩,_,b7⟩:=cs;have bl:=Y b7;have bn:=Y<|S_.3 _ (aH R_);have br:=Y λch hy=>And.intro (S_.5 _ (aH R_) ch hy) (S_.6 _ (aH R_) ch hy);have a3:=Y<|S_.4 _ (aH R_);have bt:=Y<|S_.7 _ (aH R_);have cl:=Y<|S_.10 _ (aH R_);have cm:Q (OT l (x.take<|e+1)=OT l (x.take e)++[⟨x[e].2.map (ZR l),NN l x[e].3⟩]):=Y (by unfold OT;rw[bN R_,bG];rfl);have a5:Q (J (OT l<|x.take e)=e):=Y (by unfold OT;rw[bK,dH];omega);generalize x[e]=K at*;obtain⟨h,ao⟩:∃h:N,K.3.1=(h:I):=⟨K.3.1.toNat,oN a3.o⟩;rw[ao]at e2;have b8:1<=h/\h<=3:=by have:=a3.o;rw[ao]at this;omega
  have a4:=Y ao;have HS:=Y O_;have dk:gb<Z wr.1:=O;clear O_ b7 ao;obtain⟨ma,mc,aq⟩:=HS.m.1.form;rw[a5.o]at aq;subst aq;go_wp2;have al:=Xb (dC (Z wr.1) wr) (Sc #[X M (J K.1) F,X C (J K.2) T,H h,H K.3.a,H K.3.3,H K.3.4] 52);have H_:=Y<|Bx.new wr #[X M (J K.1) F,X C (J K.2) T,H h,H K.3.a,H K.3.3,H K.3.4] 52;have U_:=Y<|HS.calm al;have cj:=Y<|Xg ac al;have bv:Q (Z (D wr<|Sc #[X M (J K.1) F,X C (J K.2) T,H h,H K.3.a,H K.3.3,H K.3.4] 52).1=Z wr.1+1):=Y sP;have di:=Y<|HS.5 _ aA;have bi:Q (Sk prog 15 #[Hn V,Sa #[X M (J K.1) F,X C (J K.2) T,H h,H K.3.a,H K.3.3,H K.3.4]] (D wr<|Sc #[X M (J K.1) F,X C (J K.2) T,H h,H K.3.a,H K.3.3,H K.3.4] 52).drew λq d=>∃z L,q=Rt (Sa #[X z (J K.2) L,H h,H (NN l K.3).a,H K.3.3,H K.3.4])/\Q (Sw (Z (D wr<|Sc #[X M (J K.1) F,X C (J K.2) T,H h,H K.3.a,H K.3.3,H K.3.4] 52).1) (D wr<|Sc #[X M (J K.1) F,X C (J K.2) T,H h,H K.3.a,H K.3.3,H K.3.4] 52) d)/\Q (Sx d (Z (D wr<|Sc #[X M (J K.1) F,X C (J K.2) T,H h,H K.3.a,H K.3.3,H K.3.4] 52).1) 64 5 (X z (J K.2) L) (J K.2) (ZP<|K.2.map (ZR l)))):=Y (by have hw:=(T_.trans<|cj.mono O).drew;have ec:Z wr.1+1=Z (D wr<|Sc #[X M (J K.1) F,X C (J K.2) T,H h,H K.3.a,H K.3.3,H K.3.4] 52).drew.1:=bv.symm;refine(GR k B (D wr<|Sc #[X M (J K.1) F,X C (J K.2) T,H h,H K.3.a,H K.3.3,H K.3.4] 52).drew (Y<|U_.2.keep R) (Y<|hc.keep (hw.mono b0)) ba (Y<|oP b6.o ba.o) O O (Y<|bl.keep ((al.drew.mono O))) (Y R) cl.1 (Y<|hO.keep hw hO.1) (Y<|hT.keep hw hT.1) bn br b8.1 b8.2 (Y (by have:=bt.o;rw[show K.3=⟨K.3.1,K.3.a,K.3.3,K.3.4⟩from R,a4.o]at this;exact this))).mono ?_;rintro q b⟨v5,rfl,aj,cc⟩;obtain⟨z,L,rfl⟩:∃z L,v5=X z (J K.2) L:=Xv.form (lab:=λ_=>(0,0,0)) (L:=(0,0,0)) ⟨cc,λ_ _=>R⟩;refine⟨z,L,?_,Y<|Xg (Rf).drew aj,Y cc⟩;rw[show(NN l ⟨(h:I),K.3.a,K.3.3,K.3.4⟩).a=(NN l K.3).a by rw[<-a4.o]])
  have ck:Q (NN l K.3=⟨(h:I),(NN l K.3).a,K.3.3,K.3.4⟩):=Y (by rw[<-a4.o];rfl);clear e0 e1 e2 e3 e4 e5 al;generalize D wr _=wt at*;have a9:Z wr.1<Z wt.1:=oN bv.o;generalize Z wr.1=r at*;have t0:=Bx.c H_ 0;have t1:=Bx.c H_ 1;have t2:=Bx.c H_ 2;have t3:=Bx.c H_ 3;have t4:=Bx.c H_ 4;have t5:=Bx.c H_ 5;have l5:=Bx.c U_.2 5;refine Y7 (λd=>E d (A r 0)=S (X M (J K.1) F)/\E d (A r 1)=S (X C (J K.2) T)/\E d (A r 2)=S (H h)/\E d (A r 3)=S (H K.3.a)/\E d (A r 4)=S (H K.3.3)/\E d (A r 5)=S (H K.3.4)) λig=>?_;refine Xn 0 ?_;refine Xn 1 ?_;refine Xn 3 ?_;refine eS (rs:=[2,4]) vZ sP ?_;refine(bQ R (λL_ hK=>?_) (bQ R (λL_ hK=>?_) dY))
  focus
   go_simp;refine hK _ _ kP λig=>?_;clear hK
   refine Xs 4 λL_ hK=>?_;go_simp
   go_at_call 15
   with_reducible refine bi.o.mono ?_
   rintro q b⟨z,L,rfl,u,M_⟩;have V_:=Y<|U_.calm u;have s:=H_.keep<|u.5 _ H_.lt;have s5:E b (A r 0)=S (X M (J K.1) F)/\E b (A r 1)=S (X C (J K.2) T)/\E b (A r 2)=S (H h)/\E b (A r 3)=S (H K.3.a)/\E b (A r 4)=S (H K.3.3)/\E b (A r 5)=S (H K.3.4):=⟨ZY s R,ZY s R,ZY s R,ZY s R,ZY s R,ZY s R⟩;have a0:=Y s;have x5:=Bx.c V_.2 5;have cx:=V_.2.lt;clear s;dsimp only;refine hK _ _ s5 λig=>?_;clear hK;refine Xs 5 λL_ hK=>?_;go_simp;refine hK _ _ kP λig=>?_;clear hK
  rotate_left
  focus
   go_simp
   go_at_call 15
   with_reducible refine bi.o.mono ?_
   rintro q b⟨z,L,rfl,u,M_⟩;have V_:=Y<|U_.calm u;have s:=H_.keep<|u.5 _ H_.lt;have s5:E b (A r 0)=S (X M (J K.1) F)/\E b (A r 1)=S (X C (J K.2) T)/\E b (A r 2)=S (H h)/\E b (A r 3)=S (H K.3.a)/\E b (A r 4)=S (H K.3.3)/\E b (A r 5)=S (H K.3.4):=⟨ZY s R,ZY s R,ZY s R,ZY s R,ZY s R,ZY s R⟩;have a0:=Y s;have x5:=Bx.c V_.2 5;have cx:=V_.2.lt;clear s;dsimp only;refine hK _ _ s5 λig=>?_;clear hK
   refine eS (rs:=[2,5]) vZ sP ?_;refine(bQ R (λL_ hK=>?_) (bQ R (λL_ hK=>?_) dY))
   focus
    go_simp;refine hK _ _ kP λig=>?_;clear hK
    refine Xs 5 λL_ hK=>?_;go_simp;refine hK _ _ kP λig=>?_;clear hK
   rotate_left
   focus
    go_simp;refine hK _ _ kP λig=>?_;clear hK
    refine Xs 2 λL_ hK=>?_;go_simp;refine hK _ _ kP λig=>?_;clear hK
  all_goals (
   refine Xs 6 λL_ hK=>?_;obtain⟨ef,ce,cf⟩:=Xv.fresh (L:=(3,J (OT l<|x.take e),0)) (lab:=cg) (base:=W.2) u M_ U_.bs U_.5;have b3:=U_.spT u cf;have hA:=b3.calm<|Xb (dC (Z b.1) b) (Sc #[X z (J K.2) L,H h,H (NN l K.3).a,H K.3.3,H K.3.4] 54);have b1:=ce.sp (XW.below<|Xb (dC (Z b.1) b) (Sc #[X z (J K.2) L,H h,H (NN l K.3).a,H K.3.3,H K.3.4] 54)) λ_ _=>JV;have ad:=hA.m.1.1;rw[a5.o]at ad;refine YD Qa ad (XE<|World.alloc_heap_new _ _) (by intro ej hu;simp at hu;obtain rfl|rfl|rfl|rfl|rfl:=hu<;>rfl) ?_ (hs:=by exact hA.bs)
   intro v8 w8 be bc cz b5;obtain⟨⟨eg,b4⟩,ap⟩:=hA.push ⟨K.2.map<|ZR l,NN l K.3⟩ (by show Xv _ _ _ _ _ _ _ (J (K.2.map<|ZR l)) _;rw[bK];exact b1) bc (by rw[a5.o,ck.o];exact be) b5;obtain⟨g8,c8,rfl,_,_⟩:=Xm be O;have Q_:=(a0.box _).grown bc (rJ (a0.box _) ad vY);have y:=Bx.c ap 5;have kz:=Bx.thaw ap;have dd:=j8 Q_ ap vY;have ei:V≠r:=λq=>dd q.symm;have cp:Q (O1 a (Se w8 (A V 5) (Hl g8 (e+1) c8)) W V n (S ⟨gb,ob,U⟩) m c x k B P g i l j K_ f o t (OT l<|x.take (e+1))):=Y ⟨Y_.g,by rw[cm.o];exact⟨_,_,_,b4⟩,Y_.3,Y_.4⟩;refine hK _ _ ⟨ZY Q_ R,ZY Q_ R,ZY Q_ R,ZY Q_ R,ZY Q_ R,ZY Q_ R⟩ λig=>?_;clear hK be bc cz b5 hA b1 b4 ap Q_ ad b3 ce cf t0 t1 t2 t3 t4 t5 l5 x5 s5
   refine Xn 7 ?_;refine Xn 8 ?_;refine Xs 9 λL_ hK=>?_;go_simp;refine hK _ _ kP λig=>?_;clear hK;refine Yq ?_;clear ig;go_wp2;exact⟨⟨e+1,O,gM,cp⟩,by simp[intOf];omega⟩)
 have cw:e=m:=O;have dl:¬(e:I)<(m:I):=O;have bx:Q (O1 a wr W V n p m c x k B P g i l j K_ f o t<|dq l x 0):=Y (by rw[G8];have:=Y_.o;rw[cw,I_.o,gC]at this;rw[I_.o];exact this);have cr:Cl wr (Z w.1) 1 (X p m c):=G (ac.cell (p:=A (Z w.1) 1) az) (ZY HF R);clear Y_;go_wp2;clear cr
 go_loopw [52] (λv wr=>∃e:N,e<=m/\v=H e/\Q (O1 a wr W V n p m c x k B P g i l j K_ f o t<|dq l x e)) λv _=>m-(intOf v).toNat
 .exact⟨0,aN,R,bx⟩
 obtain⟨J_,hp,rfl,Z_⟩:=hrel;by_cases ds:J_<m
 .have ab:J_<J x:=oN I_.o;have dw:(J_:I)<(m:I):=O;have cn:=Y<|oz l x J_ (dU ab);have bm:=Y<|xV l (dU ab);have cd:J_<J (dq l x J_):=by rw[bm.o];omega
  have bq:=Y (GC W (Y Z_.g) (Y Z_.h) (by rw[bm.o];have:=cn.o;have:=I_.o;omega) ab cd (Y<|Ir ab cd));go_wp2_with fail
  refine YU bq λb a8=>?_;rw[He l ab]at a8;have co:Q (O1 a b W V n p m c x k B P g i l j K_ f o t<|dq l x (J_+1)):=Y ⟨Z_.g,a8,Z_.3,Z_.4⟩;clear a8;go_wp2;exact⟨⟨J_+1,O,gM,co⟩,by simp[intOf];omega⟩
 have c6:J_=m:=O;have eb:¬(J_:I)<(m:I):=O;have aa:Q (O1 a wr W V n p m c x k B P g i l j K_ f o t<|NK l x):=Y (by have:=Z_.o;rw[c6,I_.o,Hy]at this;rw[I_.o];exact this);clear Z_;obtain⟨cg,mv,iv,O_⟩:=aa.h;obtain⟨ma,mc,aq⟩:=O_.m.1.form;subst aq;have l4:=Bx.c O_.2 4;have l5:=Bx.c O_.2 5;have ar:=HR.keep<|aa.low.5 _ HR.lt;have r0:=Bx.c ar 0;have r1:=Bx.c ar 1;have rz:=Bx.thaw ar;have cb:Z w.1+1<W.2:=by rw[aa.3];exact hz
 have ca:Z w.1<=Z w.1+1:=gX;have a1:=Y<|((T_.trans<|aa.low.mono O).setCell (p:=A (Z w.1+1) 0) ca (H t)).setCell (p:=A (Z w.1+1) 1) ca (X ma (J (NK l x)) mc);have a2:=Y (pG.of<|((O_.m.sp (XW.deep (A (Z w.1+1) 0) cb (H t)) (λ_ _=>JV) λ_ _ _ _=>JV).sp (XW.deep (A (Z w.1+1) 1) cb (X ma (J (NK l x)) mc)) (λ_ _=>JV) λ_ _ _ _=>JV).down (by omega:w.heap.size<=W.base));clear O_ ar;go_wp2_with fail
 refine YL (v:=Sa #[H t,X ma (J (NK l x)) mc]) ?_
 first
  |exact⟨_,_,R,a1,a2⟩
  |exact⟨ma,⟨mc,R⟩,a1,a2⟩
  |exact⟨ma,sP,a1,a2⟩
theorem LK{b:Bool}(j:Q (1<=T->T<=64->b=Sn))(i:Q (∀W,Sw (Z w.1) w W->Sk prog 13 #[Sa #[H t,X p n c],X P m k,H T] W λe f=>e=Rt (Sb b)/\Sw (Z W.1) W f)):
 Sk prog 5 #[Sa #[H t,X p n c],X P m k,H T] w λe f=>e=Rt (Sa #[H 0,Hq])/\Sw (Z w.1) w f:=by
 by_cases r:T<1
 .go_in
  go_wp2;refine YL (v:=Sa #[H 0,Hq]) ⟨R,?_⟩;exact Xb (Xb Rf _) _
 by_cases s:64<T
 .go_in
  go_wp2;refine YL (v:=Sa #[H 0,Hq]) ⟨R,?_⟩;exact Xb (Xb Rf _) _
 have l:=j.o O O;subst l
 go_in
 go_wp2_with fail
 refine YU (i.o _<|Xb (Xb Rf _) _) λg d=>?_;have a:Bx g (Z w.1+1) #[H 0,Hq] 31:=(by have:=Bx.new (D w (Sc #[H t,X p n c] 25)) #[H 0,Hq] 31;rw[aO]at this;exact this.keep<|d.5 _ sP);have o:E g (A (Z w.1+1) 0)=S (H 0):=Bx.cell a R;have q:E g (A (Z w.1+1) 1)=S Hq:=Bx.cell a R;have u:=Bx.thaw a;have h:=Y<|Xg (Xb (Xb (dC (Z w.1) w) _) _) d;clear d a;go_wp2;refine YL (v:=Sa #[H 0,Hq]) ⟨R,?_⟩;exact(h.setCell (p:=A (Z w.1+1) 0) sP _).setCell (p:=A (Z w.1+1) 1) sP _
end Go.Proofs.YtcncjgijikoapaaGreatDoor
