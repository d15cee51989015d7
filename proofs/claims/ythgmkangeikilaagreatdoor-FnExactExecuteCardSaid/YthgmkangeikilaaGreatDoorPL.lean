import Derived.Test.YthgmkangeikilaaGreatDoorPK
namespace Go.Proofs.YthgmkangeikilaaGreatDoor
set_option maxHeartbeats 40000000
set_option maxRecDepth 100000
open _root_ renaming Array.size->Z,List.length->J,Nat->N,Int->I,rfl->R,Option.some->S,Bool.true->So,Bool.false->Sn,Option.none->U,absurd->Sz,trivial->JV
open Go renaming World.cell?->E,World.setCell->Se,Ending.returned->Rt,RowKit.Below->Sw,Calls->Sk,World.alloc->D,IntKind.i64->S6,Obj.cells->Sc,RowKit.intOf->JB,World.ownsRow->Sx,results->JC
open Value renaming slice->X,agg->Sa,string->Sg,int->Si,bool->Sb,tuple->St,pointer->Sj
open Go.RowKit Go.Proofs.Tryz Go.Shelf
variable{r:Bool}{t T:I}{n m k B g i j c:N}{w v u:Ub}{a A_:Uj}{p P:Uy}{h:Vu}{l:Wc}{x:Wi}{y:Wo}
theorem oF(w:Ub)(o):(D w o).1[Z w.1]?=S o:=by show(w.1.push o)[Z w.1]?=S o;simp
theorem Qi:(prog.info? 81).map (λi=>(i.8,i.3,i.4))=S (S<|Sa #[Hq,Hq,H 0,H 0,H 0,H 0],6,80):=vZ
theorem Qj:(prog.info? 83).map (λi=>(i.8,i.3,i.4))=S (S<|Sa #[H 0,Hq],2,32):=vZ
theorem nj(w:Ub)(o):Z (D w o).1=Z w.1+1:=Array.size_push ..
theorem Mk(t s):0<J (C3 t s):=by
 unfold C3;have d:∀(r a:Wn),0<J (am s a r):=by
  intro r
  induction r with
  |nil=>intro a;simp[am]
  |cons c r b=>intro a;rw[am];split<;>simp[b]
 exact d t []
theorem yW(a):Tn (Fa a)<=J a:=by have:=pT 10 a.dropLast [];simp only[bO,tt,aV]at this;show Tn (am 10 [] a.dropLast)<=_;omega
theorem Ll(a):∀l∈Fa a,J l<=J a:=λl b=>by have:=kh 10 a.dropLast [] l b;simp only[bO,tt,aV]at this;omega
theorem L6(a):J (Fa a)<=J a+1:=by have:=oK 10 a.dropLast [];rw[tt]at this;show J (am 10 [] a.dropLast)<=_;omega
theorem me{a}(h:Zx w n m (S ⟨k,B,U⟩) (KC a))(i)(d:i<J a):E w (A k<|B+i)=S (Sg (K8 a[i]))/\k<m:=by let⟨f,g,e,b,c⟩:=h i (by simpa [KC]using d);cases e;exact⟨G c (by simp[KC]),b.2⟩
theorem zPS10{p: Prop}(h: p := by
  go_wp2_with (go_at_call 38;refine YU Y2 λwx p=>?_;have r:=q.calm p;obtain⟨⟨A_,C,D_,E_⟩,rz⟩:=r.2;have K:=Y r;clear p r)
  exact YL (v:=Sa #[H 8,H<|(l:I)+1,H 0,Hq]) ⟨_,R,Y1 K.1<|aA,by rw[I_.o];exact gm O⟩): p := h
theorem zPS11{p: Prop}(h: p := by
  go_wp2_with (first|(go_at_call 46;refine YU b7 λw6 bf=>?_;rw[hvd];have x:=dk w6 bf;have ce:=Y x.1;have cx:=Y x.2;have g1:=x.1.4;have g0:=x.1.3;obtain⟨⟨A_,C,D_,E_⟩,rz⟩:=x.1.2;skip;clear bf x)|(go_at_call 38;refine YU Y2 λwx p=>?_;have r:=ce.calm p;obtain⟨⟨A_,C,D_,E_⟩,rz⟩:=r.2;have K:=Y r;clear p r))
  exact YL (v:=Sa #[H 9,H 0,H 0,Hq]) ⟨_,R,Y1 K.1<|aA,by rw[I_.o];exact gm R⟩): p := h
theorem zPS13{p: Prop}(h: p := by
  obtain i|i:=Nat.eq_zero_or_pos J_;·exact bC i
  obtain⟨cs,al⟩:=bd.1
  obtain⟨G_,j3,e,kb,er⟩:=al.form SG;obtain⟨rfl,-,-⟩:=Z5 e;obtain⟨⟨L',B',_,_,_,pa,pc,ia,ic,_,_,⟨t0,_⟩,_⟩,ci⟩:=bd.2 G_ R (J_-1) SG;exact aZ ⟨J_-1,G_,_,O,O,R,t0,by rw[iS];exact ci,er⟩): p := h
theorem zPS14{p: Prop}(h: p := by
  go_wp2_with (go_at_call 38;refine YU Y2 λwx p=>?_;obtain⟨⟨A_,C,D_,E_⟩,rz⟩:=(db).keep (p.5 _ O);have c6:=Y<|Xg cz p;clear p)
  exact YL (v:=Sa #[H 3,H 1,H 0,Hq]) ⟨_,R,Y1 c6<|aA,by rw[I_.o];exact gm R⟩): p := h
theorem KM{T_}(ha:Q (Yx w B g (S ⟨n,m,U⟩) T_))(hx:Q (k=J T_))(mo:1<=k)(hl:k<=100000)(mr:k<=c)(hB:g<=Z w.1)(l4:n<g)(he:Q (T_.getLast?=S 10)):
 Sk prog 20 #[Hm n m k c] w λe w'=>∃val,e=Rt val/\Sw (Z w.1) w w'/\nN w' (Z w.1) (Z w'.1) val (C2 T_):=by
 have hm:k-1<J T_:=oN hx.o
 have hT:E w (A n<|m+(k-1))=S (Si .u8 10):=by obtain⟨b',o',e,_,hc⟩:=ha (k-1) hm;cases e;rw[hc];have T:=he.o;rw[List.getLast?_eq_getElem?,show J T_-1=k-1 by have:=hx.o;omega,aC hm]at T;injection T with T;rw[T];rfl
 have HB:=λt=>Y<|Xb (dC (Z w.1) w) (Sc #[H 0,H 0,H 0,Hq] t);have HR:=λt=>Y<|RZ.new w t;have ko:=λt=>oB (HB t) hT O
 have HY:=λt=>Y (show Yx (D w<|Sc #[H 0,H 0,H 0,Hq] t) B g (S ⟨n,m,U⟩) T_.dropLast from λa8 R_=>by obtain⟨b',o',e,L,hc⟩:=(ha.keep<|(HB t).mono hB) a8 (by rw[tt]at R_;omega);exact⟨b',o',e,L,G hc<|by rw[List.getElem_dropLast]⟩)
 have c9:Q (C2 T_=p8 (Fa T_) (nQ<|(Fa T_).headD [])):=Y (by have:=hx.o;unfold C2;rw[aM O,aM λL=>L he]);have i4:Q (k-1=J T_.dropLast):=Y (by rw[tt,<-hx.o]);have el:=λt=>Y (zB c 10 (D w<|Sc #[H 0,H 0,H 0,Hq] t) (HY t) i4 O O SB);have eb:=Y<|Mk T_.dropLast 10;have i3:Q (J (Fa T_)<=100001):=Y<|oP (L6 T_) hx.o;have f6:Q (∀e7∈Fa T_,J e7<=100000):=Y (λe7 hl=>by have:=Ll T_ e7 hl;have:=hx.o;omega);have eo:Q (Tn (Fa T_)<=100000):=Y<|oP (yW T_) hx.o;change ∀t,Q (Sk _ _ _ _ λe w'=>∃ib,e=Rt ib/\Sw _ _ w'/\Sx w' _ _ 1 ib (J (Fa T_)) (KC<|Fa T_))at el;change Q (0<J (Fa T_))at eb;clear hT hm HY;generalize l1:C2 T_=M at*;generalize Fa T_=ls at*
 go_in
 go_wp2_with fail
 refine(el _).mono ?_;rintro e w1⟨v1,rfl,du,ey⟩;obtain⟨be,lp,rfl,ks,l6⟩:=ey.form eb;obtain⟨a1,c1,e1,hn⟩:=UO ey;obtain⟨rfl,-,rfl⟩:=Z5 e1;have ge:=Y<|(HR 47).keep (du.5 (Z w.1) sP);have fa:=Y<|Xg (HB 47).o du;have kz:=du.4;simp at kz ks;have ep:=Y (show Zx w1 (Z w.1+1) (Z w1.1) (S ⟨be,0,U⟩) (KC ls) by simpa using hn);obtain⟨q0,-⟩:=me ep 0 eb;rw[aV]at q0;have hp:=eb.o;have ml:=i3.o;have f4:=Y<|f6.o ls[0] (aH _);have fq:=λw=>Y<|yG ls[0] (oN f4.o) w;have dl:Q (ls.headD []=ls[0]):=Y (by cases ls with|nil=>simp at hp|cons a9 s=>rfl);clear du hn e1 ey el HB HR ko;generalize kf:ls[0]=l0 at*;clear kf;go_wp2_with fail
 refine(fq _).mono ?_;rintro e w2⟨v2,rfl,br,df⟩;obtain⟨a2,c2,rfl,dj⟩:=UO df;rw[show J (KC<|Bf l0)=J (Bf l0) by simp[KC]];have k0:=br.4;have c7:Q (nQ l0=if J (Bf l0)=2/\(Bf l0).getD 0 []=sT/\0<=Gb ((Bf l0).getD 1 [])then S (Gb<|(Bf l0).getD 1 [])else U):=Y R;have g4:=sf l0;have cw:=Y<|Xg fa br;have da:=Y<|ge.keep (br.5 (Z w.1) O);have gh:=Y<|ep.keepS (ZU br);have b8:=Y dj;clear dj df br fq q0;have kq:J (Bf l0)<=100000:=oN f4.o;generalize Bf l0=hs at*;clear g4;by_cases T:J hs=2;rotate_left
 .have I_:Q (M=au 3 1):=Y (by rw[c9.o,dl.o,c7.o,aM λL=>T L.1];rfl);have lx:((J hs:I) != 2)=So:=by rw[jJ];omega
  have cz:=cw;have db:=da;clear T;exact zPS14
 obtain⟨f0,f1,rfl⟩:∃f0 f1,hs=[f0,f1]:=by
  match hs,T with
  |[a9,y_],_=>exact⟨a9,y_,R⟩
 obtain⟨b2,o2,rfl,⟨_,l2⟩,-⟩:=b8 0 (by simp[KC]);obtain⟨p0,-⟩:=me b8 0 sP;obtain⟨p1,-⟩:=me b8 1 sP;simp only[eM,fO,fW]at p0 p1;have hh:=T4 f0;have K:=λw=>Y<|j9 f1 w;clear T kq;by_cases hf:f0=sT;rotate_left
 .have fb:(f0==[102,117,110,99])=Sn:=by rw[iS];exact hf
  have fn:(f0 != [102,117,110,99])=So:=by rw[jJ];exact hf
  have I_:Q (M=au 3 1):=Y (by rw[c9.o,dl.o,c7.o,aM λL=>hf L.2.1];rfl);clear hf;have cz:=cw;have db:=da;exact zPS14
 have fb:(f0==[102,117,110,99])=So:=by rw[hf];rfl
 have fn:(f0 != [102,117,110,99])=Sn:=by rw[hf];rfl
 have HF:=Y hf;clear hf;by_cases R_:0<=Gb f1;rotate_left
 .have kt:Gb f1<0:=O;have I_:Q (M=au 3 1):=Y (by rw[c9.o,dl.o,c7.o,aM λL=>R_ L.2.2];rfl);clear R_;generalize Gb f1=V at*;go_wp2_with (first|(go_at_call 41;refine YU (K _) λf aj=>?_;have g9:=aj.4;have cz:=Y<|Xg cw aj;have db:=Y<|da.keep (aj.5 (Z w.1) O);clear aj)|(go_at_call 38;refine YU Y2 λwx p=>?_;obtain⟨⟨A_,C,D_,E_⟩,rz⟩:=(db).keep (p.5 _ O);have c6:=Y<|Xg cz p;clear p))
  exact YL (v:=Sa #[H 3,H 1,H 0,Hq]) ⟨_,R,Y1 c6<|aA,by rw[I_.o];exact gm R⟩
 have kt:¬Gb f1<0:=O
 have I_:Q (M=mi (J ls) (Gb f1) (dy (ls.drop 1) 1 ⟨[],U⟩)):=Y (by rw[c9.o,dl.o,c7.o,aU ⟨R,HF,R_⟩,List.drop_one];rfl)
 clear R_;generalize Gb f1=V at*;go_wp2_with fail
 refine YU (K _) λf aj=>?_;have k1:=G (XU aj O) p1;have g9:=aj.4;have fc:=Y<|Xg cw aj;have gb:=Y<|da.keep (aj.5 (Z w.1) O);have gi:=Y<|gh.keepS (ZU<|aj.mono O);clear aj p0 p1 hh fb fn;go_wp2_with fail
 refine YU (K _) λU_ Z_=>?_;have e6:=Z_.4;have b1:=Y<|Xg fc Z_;have gd:=Y<|gb.keep (Z_.5 (Z w.1) O);have gl:=Y<|gi.keepS (ZU<|Z_.mono O);clear Z_ k1 K b8;have ad:Q (∀t,fd w (Z U_.1) V ls (S ⟨be,0,U⟩) (Z w.1+1) (Z w1.1) M 1 ⟨[],U⟩ U 0 0 (D U_<|Sc #[H V,Hq] t)):=Y (λt=>by have b4:=Xb (dC (Z U_.1) U_) (Sc #[H V,Hq] t);refine⟨Xb b1 _,gd.keep<|b4.5 _ O,SC,SC,λm=>by simp[go_sem],gl.keepS<|ZU (b4.mono O),gw.start _ _ sP,⟨O,O,sP⟩,?_,I_.symm⟩;show 0+0+0<=_;omega)
 have k3:=λt=>nj U_<|Sc #[H V,Hq] t;go_wp2;have gf:=Y<|ad.o 45;clear ad k3;generalize (D U_ _)=w5 at*;generalize ka:Z U_.1=j at*;clear I_ b1
 go_loopw [6] (λa8 wr=>∃(l:N)(aq:NX)(va:Uy)(J_ y:N),1<=l/\l<=J ls/\a8=H l/\Q (fd w j V ls (S ⟨be,0,U⟩) (Z w.1+1) (Z w1.1) M l aq va J_ y wr)) λa8 _=>J ls-(JB a8).toNat
 .exact⟨1,⟨[],U⟩,U,0,0,aA,hp,R,gf⟩
 obtain⟨l,aq,va,J_,y,mg,hk,rfl,hinv⟩:=hrel;clear ka;have kx:=hinv.8;obtain⟨nc,nd,ne⟩:=kx;have ef:=hinv.9;have i2:=Y ef;have ev:=oJ ls l;have S_:=hinv.7.len;have eu:=eo.o;have ht:J_<=100000:=O;clear S_ eu ev ef;by_cases ec:l<J ls;rotate_left
 .have kw:l=J ls:=O;have q:=hinv;rw[kw]at q;have cm:=Y (show mi (J ls) V (.ok aq)=M by have i:=q.10;rw[Am]at i;exact i);have f1:=q.4;have f0:=q.3;have ef:=q.9;have ev:=oJ ls (J ls);have eu:=eo.o;have js:Q (TT aq<=100000):=Y O;clear ef ev eu;obtain⟨o,eq⟩:=aq;cases eq with
  |some pi=>
   obtain⟨v,z⟩:=pi;obtain⟨cd,G_,pa,pc,ia,ic,ao,S_,aa⟩:=q.7;dsimp only at S_ aa;obtain⟨t0,t1,t2,t3⟩:=aa.6;obtain⟨⟨k8,la⟩,lb,hz⟩:=aa.3;have cn:G_<Z wr.1:=O;clear aa;rw[S_]at ht;generalize hm:J o=b at*;clear hm;rw[S_,ao]at f1;have I_:Q (M=au 8 (J ls)):=Y cm.symm;clear hinv;go_wp2_with (go_at_call 38;refine YU Y2 λwx p=>?_;have r:=q.calm p;obtain⟨⟨A_,C,D_,E_⟩,rz⟩:=r.2;have K:=Y r;clear p r)
   exact YL (v:=Sa #[H 8,H (J ls:I),H 0,Hq]) ⟨_,R,Y1 K.1<|aA,by rw[I_.o];exact gm O⟩
  |none=>
   obtain⟨S_,dc⟩:=q.7;have bd:=Y dc;dsimp only at S_;clear dc;have di:J_=0\/∃b G_ kd,J_=b+1/\b<=100000/\va=S (A G_ 0)/\E wr (A G_<|b*6+2)=S (H kd)/\(kd==0)=Sn/\G_<Z wr.1:=by exact zPS13
   have b7:=Y (Tr V va J_ y o (j+1) (Z wr.1) wr (Y bd.blks) (Y S_) (Y (by have:=js.o;simp only[TT]at this;omega)) aA);have dk:Q (∀wx,Sw (Z wr.1) wr wx->fd w j V ls (S ⟨be,0,U⟩) (Z w.1+1) (Z w1.1) M (J ls) ⟨o,U⟩ va J_ y wx/\∀v0 v1 v2 v3,Xp (kj wx (Z w.1) v0 v1 v2 v3) (Z w.1) (Z (kj wx (Z w.1) v0 v1 v2 v3).1) va o):=Y (λwx d=>by have R_:=q.calm d;refine⟨R_,λv0 v1 v2 v3=>?_⟩;have cg:=d.4;exact((bd.blks.keep d).keepS (w':=kj wx (Z w.1) v0 v1 v2 v3) λL h1 T=>LL O v0 v1 v2 v3).mono O (by rw[Lr];omega))
   cases hvd:iu ⟨V,o⟩
   .have I_:Q (M=au 9 0):=Y (by rw[<-cm.o];show(if iu ⟨V,o⟩=So then _ else _)=_;rw[hvd];rfl);clear hinv bd;obtain bo|⟨b,G_,kd,bc,hm,ao,t0,ci,hG⟩:=di
    .rw[bo]at f1 b7;exact zPS11
    rw[bc,ao]at f1 b7;exact zPS11
   have I_:Q (M=⟨0,0,⟨V,o⟩⟩):=Y (by rw[<-cm.o];show(if iu ⟨V,o⟩=So then _ else _)=_;rw[hvd];rfl);clear hinv bd;obtain bo|⟨b,G_,kd,bc,hm,ao,t0,ci,hG⟩:=di
   .rw[bo]at f1 b7;have cq:J o=0:=O;go_wp2_with (go_at_call 46;refine YU b7 λw6 bf=>?_;rw[hvd];have x:=dk w6 bf;have ce:=Y x.1;have cx:=Y x.2;have g1:=x.1.4;have g0:=x.1.3;obtain⟨⟨A_,C,D_,E_⟩,rz⟩:=x.1.2;rw[bo]at g1;clear bf x)
    exact YL (v:=Sa #[H 0,H 0,H V,X va 0 y]) ⟨_,R,Y1 ce.1<|aA,by rw[I_.o];exact⟨va,y,by show _=Sa #[_,_,_,X _ (J o) _];rw[cq];rfl,cx _ _ _ _⟩⟩
   rw[bc,ao]at f1 b7;have cq:J o=b+1:=O;go_wp2_with (go_at_call 46;refine YU b7 λw6 bf=>?_;rw[hvd];have x:=dk w6 bf;have ce:=Y x.1;have cx:=Y x.2;have g1:=x.1.4;have g0:=x.1.3;obtain⟨⟨A_,C,D_,E_⟩,rz⟩:=x.1.2;rw[bc,ao]at g1;clear bf x)
   exact YL (v:=Sa #[H 0,H 0,H V,Hl G_ (b+1) y]) ⟨_,R,Y1 ce.1<|aA,by rw[I_.o];exact⟨(S ⟨G_,0,U⟩),y,by show _=Sa #[_,_,_,X _ (J o) _];rw[cq];rfl,by have i:=cx (H 0) (H 0) (H V) (Hl G_ (b+1) y);rw[ao]at i;exact i⟩⟩
 obtain⟨q0,ma⟩:=me hinv.6 l ec;rw[aV]at q0;have em:=Y<|f6.o ls[l] (aH ec);have fr:=λw=>Y<|yG ls[l] (oN em.o) w;have iv:=Y<|sf ls[l];have ir:=Y<|KG ls[l];have cl:Q (bk aq ls[l]=if Bf ls[l]=[]then .bad 4 else if C0 (Bf ls[l])≠0 then .bad (C0<|Bf ls[l])else match je aq (Bf ls[l])with|none=>.bad 8|some s'=>.ok s'):=Y R;have a4:Q (∀c,bk aq ls[l]=.bad c->M=au c (l+1)):=Y λc i=>hinv.bad ec i;have a5:Q (∀(s':NX)(ei:Uy)(ek ej:N)(e8 h:Ub),fd w j V ls (S ⟨be,0,U⟩) (Z w.1+1) (Z w1.1) M l aq va J_ y e8->Sw j e8 h->j<Z h.1->E h (A j 0)=S (H V)->E h (A j 1)=S (X ei ek ej)->(∀m,h.frozen? (A j m)=Sn)->gw h (j+1) ei ek ej s'->bk aq ls[l]=.ok s'->fd w j V ls (S ⟨be,0,U⟩) (Z w.1+1) (Z w1.1) M (l+1) s' ei ek ej h):=Y λs' ei ek ej e8 h i h1 T h3 h4 h5 x h7=>i.next h1 T h3 h4 h5 x ec h7;generalize ls[l]=b0 at*;go_wp2_with fail
 refine(fr _).mono ?_;rintro e w2⟨v2,rfl,br,df⟩;obtain⟨a2,c2,rfl,dj⟩:=UO df;rw[show J (KC<|Bf b0)=J (Bf b0) by simp[KC]];have k0:=br.4;have q:=Y<|hinv.calm br;have b8:=Y dj;have g4:J (Bf b0)<=100000:=oP iv.o em.o;clear br df dj hinv fr q0;generalize Bf b0=a at*;by_cases h0:J a=0
 .have g3:a=[]:=iE h0;have I_:Q (M=au 4 (l+1)):=Y (a4.o 4<|by rw[cl.o,aU g3]);clear g3;go_wp2_with (go_at_call 38;refine YU Y2 λwx p=>?_;have r:=q.calm p;obtain⟨⟨A_,C,D_,E_⟩,rz⟩:=r.2;have K:=Y r;clear p r)
  exact YL (v:=Sa #[H 4,H<|(l:I)+1,H 0,Hq]) ⟨_,R,Y1 K.1<|aA,by rw[I_.o];exact gm O⟩
 have cb:0<J a:=O;have bx:((J a:I)==0)=Sn:=by rw[iS];omega
 have f5:=Y (IQ c2 b8 cb O aA (Y λj4 hf=>by have:=ir j4 hf;have:=em.o;omega));go_wp2_with fail
 refine YU f5 λf aj=>?_;have g9:=aj.4;have le:=Y<|q.calm aj;have bq:=Y<|b8.keepS (ZU aj);clear aj q b8
 rename Q (fd w j V ls (S ⟨be,0,U⟩) (Z w.1+1) (Z w1.1) M l aq va J_ y f)=>q
 have ed:¬a=[]:=λe=>by rw[e]at cb;simp at cb
 by_cases hc:C0 a=0;rotate_left
 .have I_:Q (M=au (C0 a) (l+1)):=Y (a4.o _<|by rw[cl.o,aM ed,aU hc]);have et:(C0 a != 0)=So:=by rw[jJ];exact hc
  clear hc ed bx;generalize C0 a=cc at*;go_wp2_with (go_at_call 38;refine YU Y2 λwx p=>?_;have r:=q.calm p;obtain⟨⟨A_,C,D_,E_⟩,rz⟩:=r.2;have K:=Y r;clear p r)
  exact YL (v:=Sa #[H cc,H<|(l:I)+1,H 0,Hq]) ⟨_,R,Y1 K.1<|aA,by rw[I_.o];exact gm O⟩
 have a6:Q (bk aq b0=match je aq a with|none=>.bad 8|some s'=>.ok s'):=Y (by rw[cl.o,aM ed,aM λL=>L hc]);have bn:=Y<|Lh cb hc;have et:(C0 a != 0)=Sn:=by rw[bne_eq_false_iff_eq];exact hc
 clear hc ed bx;generalize C0 a=cc at*;obtain⟨b3,o3,rfl,⟨l3,kl⟩,-⟩:=bq 0 (by simpa [KC]using cb);obtain⟨p0,-⟩:=me bq 0 cb;rw[fW]at p0;have dw:a.headD []=a[0]:=by cases a with|nil=>simp at cb|cons a9 s=>rfl
 have fl:=Y dw;have hh:=T4 a[0];rw[dw]at bn;have ad:Q (je aq a=dh aq a[0] a):=Y (by unfold je;rw[dw]);clear dw;generalize gt:a[0]=ab at*;have lc:=Y gt;clear gt;have f1:=q.4;have f0:=q.3;obtain⟨o,eq⟩:=aq;cases eq with
 |none=>
  obtain⟨S_,dc⟩:=q.7;have bd:=Y dc;dsimp only at S_;clear dc;have di:J_=0\/∃b G_ kd,J_=b+1/\b<=100000/\va=S (A G_ 0)/\E f (A G_<|b*6+2)=S (H kd)/\(kd==0)=Sn/\G_<Z f.1:=by exact zPS13
  by_cases hF:ab=eh
  .have wb:(ab==[98,108,111,99,107])=So:=by rw[hF];rfl
   have wp:(ab==[112,104,105])=Sn:=by rw[hF];rfl
   have bm:Q (bk ⟨o,U⟩ b0=.ok ⟨o,S ([],[])⟩):=Y (by rw[a6.o,ad.o,show dh ⟨o,U⟩ ab a=S ⟨o,S ([],[])⟩ by unfold dh;rw[aU hF]]);clear hF ad;obtain⟨cs,al⟩:=bd.1;have l5:=q.5 1;have a3:Q (∀t,Sx (D f<|Sc #[Hq,Hq,H 0,H 0,H 0,H 0] t) (j+1) 81 6 (X va J_ y) J_ cs):=Y (λt=>by rw[S_];exact Zl al λn e=>(Xb (dC (Z f.1) f) _).5 n (al.lt n e).2);have bl:Q (∀t u F h,Sx h (j+1) 81 6 (Hl u (J_+1) F) (J_+1) (cs++[Hq,Hq,H 0,H 0,H 0,H 0])->(D f<|Sc #[Hq,Hq,H 0,H 0,H 0,H 0] t).grownBy h (X va J_ y).ownBlock->((X va J_ y).ownBlock=S u\/u=Z f.1+1)->E h (A j 1)=S (X va J_ y)/\h.frozen? (A j 1)=Sn/\fd w j V ls (S ⟨be,0,U⟩) (Z w.1+1) (Z w1.1) M (l+1) ⟨o,S ([],[])⟩ (S ⟨u,0,U⟩) (J_+1) F (Se h (A j 1) (Hl u (J_+1) F))):=Y (λt u F h ho Q_ af=>by
    have ba:=Xb (dC (Z f.1) f) (Sc #[Hq,Hq,H 0,H 0,H 0,H 0] t);have ch:=Q_.4;rw[nj]at ch;have mv:=al;have et:=bd.keep (w':=D f<|Sc #[Hq,Hq,H 0,H 0,H 0,H 0] t) (λn _ T=>ba.5 n T) (by rw[nj];omega);have bt:=a3 t;rw[S_]at bt ho Q_ af |-;have aa:=et.open_ bt ho Q_ (by rw[nj];exact af);have low:∀n,n<j+1->h.1[n]?=f.1[n]?:=λn d=>G (Q_.5 n (by rw[nj];omega) λe=>by have:=(bt.lt n e.symm).1;omega) (ba.5 n O);have kF:=low j O;have c1:=G (Xc (o:=1) kF) q.4;rw[S_]at c1;have sm:∀n,n≠j->(Se h (A j 1) (Hl u (J o+1) F)).1[n]?=h.1[n]?:=λn d=>cY d;refine⟨c1,G (bJ kF) (q.5 1),a5 _ _ _ _ f _ q ⟨Q_.1,Q_.2,Q_.3,SF,λn d=>G (sm n O) (low n O)⟩ SF ?_ (fQ _ _ _ c1) (λm=>G (eX _ _ _ _) (G (bJ kF) (q.5 m))) ?_ bm⟩;·exact G (cJ<|by intro e;injection e with _ e;omega) (G (Xc kF) q.3)
    exact⟨_,u,_,_,_,_,R,R,aa.keep (λn h1 T=>sm n O) SF⟩)
   obtain⟨i0,cp,bx,cr,ct⟩:=fX Qi;obtain bo|⟨b,G_,kd,bc,hm,ao,t0,ci,hG⟩:=di
   .have m0:=bo;rw[bo]at f1 a3 bl;clear bo S_;go_wp2_with (at_builtin;refine wpList_append_lies _ R _ _ 43 R (j+1) 81 i0 (Sa #[Hq,Hq,H 0,H 0,H 0,H 0]) 6 80 underlying43 cp bx cr ct R vY (X va 0 y) 0 cs SE (a3 _) (A (Z f.1) 0) 1 1 [Hq,Hq,H 0,H 0,H 0,H 0] SE R (XE<|oF _ _) (by intro eg hu;simp at hu;obtain rfl|rfl:=hu<;>rfl) vY SD O SB (Z f.1+1) sP ?_;intro u F h ar Y_ af bv;obtain⟨d1,dz,a7⟩:=bl _ _ _ _ ar Y_ af;have bp:=Y a7;clear ar Y_ af bv a7)
    exact⟨⟨l+1,_,_,_,_,O,O,gM,bp⟩,SA⟩
   rw[bc]at f1 a3 bl;rw[ao]at f1 a3 bl;clear S_;go_wp2_with (at_builtin;refine wpList_append_lies _ R _ _ 43 R (j+1) 81 i0 (Sa #[Hq,Hq,H 0,H 0,H 0,H 0]) 6 80 underlying43 cp bx cr ct R vY (Hl G_ (b+1) y) (b+1) cs SE (a3 _) (A (Z f.1) 0) 1 1 [Hq,Hq,H 0,H 0,H 0,H 0] SE R (XE<|oF _ _) (by intro eg hu;simp at hu;obtain rfl|rfl:=hu<;>rfl) vY SD O SB (Z f.1+1) sP ?_;intro u F h ar Y_ af bv;obtain⟨d1,dz,a7⟩:=bl _ _ _ _ ar Y_ af;have bp:=Y a7;clear ar Y_ af bv a7)
   exact⟨⟨l+1,_,_,_,_,O,O,gM,bp⟩,SA⟩
  have I_:Q (M=au 8 (l+1)):=Y (a4.o 8<|by rw[a6.o,ad.o,show dh ⟨o,U⟩ ab a=U by unfold dh;rw[aM hF]]);have wb:(ab==[98,108,111,99,107])=Sn:=by rw[iS];exact hF
  clear hF ad bd S_;obtain bo|⟨b,G_,kd,bc,hm,ao,t0,ci,hG⟩:=di
  .subst bo;exact zPS10
  rw[bc,ao]at f1;exact zPS10
 |some pi=>
  obtain⟨v,z⟩:=pi;obtain⟨cd,G_,pa,pc,ia,ic,ao,S_,aa⟩:=q.7;dsimp only at S_ aa;have bi:=Y aa;have o0:=aa.4;have o1:=aa.5;obtain⟨t0,t1,t2,t3⟩:=aa.6;obtain⟨⟨k8,la⟩,lb,hz⟩:=aa.3;have cn:G_<Z f.1:=O;have cv:=λm=>ol aa.1.choose_spec m;clear aa;have fz:Q (J v<=100000/\J z<=100000):=Y (by have i:=i2.o;have T:=oJ ls l;have h3:=eo.o;simp only[TT]at i;omega);rw[S_]at ht;generalize hm:J o=b at*;have HM:=Y hm;clear hm;have bc:J_=b+1:=S_;rw[bc,ao]at f1;by_cases hF:ab=eh
  .have I_:Q (M=au 8 (l+1)):=Y (a4.o 8<|by rw[a6.o,ad.o,show dh ⟨o,S (v,z)⟩ ab a=U by unfold dh;rw[aU hF]]);have wb:(ab==[98,108,111,99,107])=So:=by rw[hF];rfl
   clear hF ad;exact zPS10
  have wb:(ab==[98,108,111,99,107])=Sn:=by rw[iS];exact hF
  by_cases bb:ab=fm
  .have wp:(ab==[112,104,105])=So:=by rw[bb];rfl
   by_cases ea:z=[];rotate_left
   .have I_:Q (M=au 8 (l+1)):=Y (a4.o 8<|by rw[a6.o,ad.o,show dh ⟨o,S (v,z)⟩ ab a=U by unfold dh;rw[aM hF];dsimp only;rw[aU bb,aM ea]]);have md:0<J z:=by cases z with|nil=>exact Sz R ea|cons a9 s=>simp
    have mb:¬J z=0:=O;clear hF bb ea ad;exact zPS10
   subst ea
   have h3:3<=J a:=by
    obtain⟨i,-⟩|⟨-,i⟩|⟨-,-,-,i⟩|⟨-,-,-,-,i,-⟩:=bn.o;·exact Sz i hF
    .exact i
    .exact Sz bb i
    exact Sz bb i
   have bm:Q (bk ⟨o,S (v,[])⟩ b0=.ok ⟨o,S (v++[jt a],[])⟩):=Y (by rw[a6.o,ad.o,show dh ⟨o,S (v,[])⟩ ab a=S ⟨o,S (v++[jt a],[])⟩ by unfold dh;rw[aM hF];dsimp only;rw[aU bb,aU R]]);obtain⟨p1,-⟩:=me bq 1 O;have ga:Q (ii f cd pa pc v):=Y (by obtain⟨_,_,_,i⟩|⟨i,_⟩:=bi.7;exact i;exact Sz R i);obtain⟨cs,al⟩:=ga.1;have a3:Q (∀W,Sw (Z f.1) f W->Sx W cd 83 2 (X pa (J v) pc) (J v) cs):=Y λW d=>Zl al λn e=>d.5 n (al.lt n e).2;have dn:Q ((jt a).1=Gb a[1]/\(jt a).2=(a.drop 2).map Gb):=Y ⟨by show Gb (a.getD 1 [])=_;simp[show 1<J a by omega],R⟩;have b6:Q (∀W,Sw (Z f.1) f W->E W (A j 1)=S (Hl G_ (b+1) y)/\E W (A G_<|b*6)=S (X pa (J v) pc)):=Y λW d=>⟨oB d f1 O,oB d o0 cn⟩;have bl:Q (∀W ds c u F h,Sw (Z f.1) f W->(∀ap (i:ap<J ((a.drop 2).map Gb)),∃n m,ds=S (A n m)/\(Z f.1<=n/\n<Z W.1)/\E W (A n<|m+ap)=S (H ((a.drop 2).map Gb)[ap]))->Sx h cd 83 2 (Hl u (J v+1) F) (J v+1) (cs++[H<|Gb a[1],X ds (J ((a.drop 2).map Gb)) c])->W.grownBy h (X pa (J v) pc).ownBlock->((X pa (J v) pc).ownBlock=S u\/u=Z W.1)->E h (A j 1)=S (Hl G_ (b+1) y)/\E h (A G_<|b*6)=S (X pa (J v) pc)/\(∀m,h.frozen? (A G_ m)=Sn)/\fd w j V ls (S ⟨be,0,U⟩) (Z w.1+1) (Z w1.1) M (l+1) ⟨o,S (v++[jt a],[])⟩ (S ⟨G_,0,U⟩) (b+1) y (Se h (A G_<|b*6) (Hl u (J v+1) F))):=Y (λW ds c u F h d kk ho Q_ af=>by
    have cg:=d.4;have ch:=Q_.4;have R_:=q.calm d;have bt:=a3 W d;have aa:=bi.keep (w':=W) (λn _ T=>d.5 n T) cg;have dd:=aa.phi bt (jt a) (a:=ds) (c:=c) (by rw[dn.2];intro ap hj;obtain⟨n,m,e,q1,q2⟩:=kk ap hj;exact⟨n,m,e,O,λe2=>by have:=(al.lt n e2.symm).2;omega,q2⟩) (by rw[dn.1,dn.2];exact ho) Q_ af;rw[HM.o]at dd;have low:∀n,n<cd->h.1[n]?=W.1[n]?:=λn h1=>Q_.5 n O (λe=>by have:=(bt.lt n e.symm).1;omega);have kG:=G (low G_ O) (d.5 G_ cn);have kF:=low j O;have c1:=R_.4;rw[bc,ao]at c1;have far:∀n,n≠G_->(Se h (A G_<|b*6) (Hl u (J v+1) F)).1[n]?=h.1[n]?:=λn d=>cY d
    have cj:=G (far j O) kF;refine⟨G (Xc kF) c1,G (Xc kG) o0,λm=>G (bJ kG) (cv m),a5 _ _ _ _ W _ R_ ⟨Q_.1,Q_.2,Q_.3,by rw[Xd];exact Q_.4,λn d=>G (far n O) (low n O)⟩ SF (G (Xc cj) R_.3) (G (Xc cj) c1) (λm=>G (bJ cj) (R_.5 m)) ⟨_,_,_,_,_,_,R,by show b+1=J o+1;rw[HM.o],dd⟩ bm⟩)
   have f7:Q (J v<=100000):=Y<|oN fz.o;have mw:=f7.o;have h8:G_≠j:=O;have h9:j≠G_:=O;have hv:S6.wrap ((b:I)+1-1)=b:=by rw[dF];omega
   have hw:S6.wrap b=b:=by rw[dF];omega
   have hy:(b:I)<b+1:=O;obtain⟨i0,cp,bx,cr,ct⟩:=fX Qj;obtain⟨j0,ku,k4,k6,k7⟩:=fX RH;have K:=λ(a8:N)(i:a8<J a)(w:Ub)=>Y<|j9 a[a8] w;have fj:Q (∀W,Sw (Z f.1) f W->∀a8 (i:a8<J a),E W (A b3<|o3+a8)=S (Sg (K8 a[a8]))):=Y λW d a8 i=>oB d (me bq a8 i).1 O;have lz:cd<=Z f.1:=hz;clear hF bb ad bm q S_ o0 cv t1 t2 t3 al;generalize hD:Gb a[1]=bh at*;have HD:=Y hD;clear hD;go_wp2_with fail
   refine YU (K 1 O _) λU_ Z_=>?_;rw[HD.o];have e6:=Z_.4;have e9:Q (∀t,Sw (Z f.1) f (D U_<|Sc #[H bh,Hq] t)/\Z U_.1<Z (D U_<|Sc #[H bh,Hq] t).1/\E (D U_<|Sc #[H bh,Hq] t) (A (Z U_.1) 0)=S (H bh)/\E (D U_<|Sc #[H bh,Hq] t) (A (Z U_.1) 1)=S Hq/\∀m,(D U_<|Sc #[H bh,Hq] t).frozen? (A (Z U_.1) m)=Sn):=Y (λt=>⟨Xb Z_ _,sP,SC,SC,λm=>by simp[go_sem]⟩);clear Z_;go_wp2;have ck:=Y<|e9.o 83;generalize (D U_ _)=wl at*;generalize hP:Z U_.1=P at*;generalize wr=wo at*
   go_loopw [12] (λap X_=>∃(L s:N)(av:Uy)(ac:N),L<=J a/\ap=H L/\Q (L=s+2)/\Q ((Sw (Z f.1) f X_/\P<Z X_.1)/\E X_ (A P 0)=S (H bh)/\E X_ (A P 1)=S (X av s ac)/\(∀m,X_.frozen? (A P m)=Sn)/\Sx X_ (P+1) 2 1 (X av s ac) s ((((a.drop 2).take s).map Gb).map (Si S6)))) λap _=>J a-(JB ap).toNat
   .exact⟨2,0,U,0,O,R,Y R,Y ⟨⟨ck.1,ck.2.1⟩,ck.2.2.1,ck.2.2.2.1,ck.2.2.2.2,dA⟩⟩
   obtain⟨L,s,av,ac,hr,rfl,ee,gz⟩:=hrel;have mx:s<=100000:=oN ee.o;generalize wr=X_ at*;obtain⟨⟨co,es⟩,a0,a1,az,ho⟩:=gz.o;have fi:=Y co;have c8:=Y ho;have mz:=co.4;have jv:=az 1;clear gz ho;by_cases g8:L<J a
   .have gs:=fj X_ co L g8;have i1:=λw=>K L g8 w
    have jl:Q ((((a.drop 2).take (s+1)).map Gb).map (Si S6)=(((a.drop 2).take s).map Gb).map (Si S6)++[H<|Gb a[L]]):=Y (by
     have hq:=ee.o;subst hq;have hd:s<J (a.drop 2):=by rw[mF];omega
     have e:(a.drop 2)[s]'hd=a[s+2]:=by simp[yy]
     rw[X7 hd,bG,bG];simp only[eH,fZ];rw[e])
    have kn:b3<Z X_.1:=O;have nh:P≠b3:=O;clear co b6 bl a3;generalize hX:a[L]=gq at*;clear hX;generalize Gb gq=IX at*;go_wp2;refine Y7 (λw'=>E w' (A b3<|o3+L)=S (Sg (K8 gq))) λig=>?_;refine Xn 0 ?_;refine Xn 2 ?_;(iterate 3 refine Rm ?_);refine eS (rs:=[1,6]) vZ sP ?_;refine(bQ R (λO_ hK=>?_) (bQ R (λO_ hK=>?_) dY))
    focus
     go_simp;refine hK _ _ kP λig=>?_;clear hK
    rotate_left
    all_goals
     try (refine eS (rs:=[6]) vZ sP ?_;refine bQ R (λO_ hK=>?_) dY)
     go_simp;refine YU (i1 _) λw5 ca=>?_;have h5:=(dC (Z X_.1) X_).drew.trans ca;have k2:=h5.4;have k5:=oB h5 a1 es;have nb:=G (h5.frozen (p:=A P 1) es) jv;have na:=λa9=>oB (Xb (dC (Z w5.1) w5) a9) k5 O;have s5:=oB h5 gs kn;have b5:=Y h5;clear ca h5;go_wp2_with fail
     refine hK _ _ kP λig=>?_;clear hK
    rotate_left
    rotate_right
    refine eS (rs:=[1,7]) vZ sP ?_;refine(bQ R (λO_ hK=>?_) (bQ R (λO_ hK=>?_) dY))
    focus
     go_simp;refine hK _ _ kP λig=>?_;clear hK
    rotate_left
    all_goals
     try (refine eS (rs:=[7]) vZ sP ?_;refine bQ R (λO_ hK=>?_) dY)
     go_simp;refine hK _ _ kP λig=>?_;clear hK
    rotate_left
    rotate_right
    focus
     refine Xs 1 λO_ hK=>?_;go_simp;refine hK _ _ kP λig=>?_;clear hK
    all_goals
     refine Xs 8 λO_ hK=>?_;refine XC _ R (.tmp 155) (.tmp 161) 23 R (P+1) 2 j0 (H 0) 1 8 underlying23 ku k4 k6 k7 R vY (X av s ac) s ((((a.drop 2).take s).map Gb).map (Si S6)) SE (Zl c8 λn e=>((Xb b5 _).5 n (c8.lt n e).2)) (A (Z w5.1) 0) 1 1 [H IX] SE R (XE<|oF _ _) (by intro eg hu;simp at hu;subst hu;rfl) vY SD O SB (Z w5.1+1) sP ?_;intro u F h ar Y_ af bv;have ch:=Y_.4;simp at ch;have low:∀n,n<P+1->h.1[n]?=X_.1[n]?:=λn d=>G (Y_.5 n SB λe=>by have:=(c8.lt n e.symm).1;omega) ((Xb b5 _).5 n O);have kP:=low P O;have d1:=G (Xc (o:=1) kP) a1;have d0:=G (Xc (o:=0) kP) a0;have dz:=λm=>G (bJ (a:=(A P m)) kP) (az m);have lu:=G (Xc (o:=o3+L) (low b3 O)) gs;have ez:=ar;rw[<-jl.o]at ez;have i6:=Y (show(Sw (Z f.1) f (Se h (A P 1) (Hl u (s+1) F))/\P<Z (Se h (A P 1) (Hl u (s+1) F)).1)/\E (Se h (A P 1) (Hl u (s+1) F)) (A P 0)=S (H bh)/\E (Se h (A P 1) (Hl u (s+1) F)) (A P 1)=S (Hl u (s+1) F)/\(∀m,(Se h (A P 1) (Hl u (s+1) F)).frozen? (A P m)=Sn)/\Sx (Se h (A P 1) (Hl u (s+1) F)) (P+1) 2 1 (Hl u (s+1) F) (s+1) ((((a.drop 2).take (s+1)).map Gb).map (Si S6))from⟨⟨(fi.trans ⟨G Y_.1 b5.1,G Y_.2 b5.2,G Y_.3 b5.3,O,λn d=>low n O⟩).setCell (by show Z f.1<=P;omega) _,SF⟩,G (cJ<|by intro e;injection e with _ e;omega) d0,fQ _ _ _ d1,λm=>G (eX _ _ _ _) (dz m),Zl ez λn e=>cY (by have:=(ar.lt n e).1;show n≠P;omega)⟩);have lw:=dz 1;clear ar ez Y_ af bv low kP d0 dz;refine hK _ _ kP λig=>?_;clear hK;refine Xn 9 ?_;refine Xs 10 λO_ hK=>?_;go_simp;refine hK _ _ kP λig=>?_;clear hK;refine Yq ?_;go_wp2;exact⟨⟨L+1,s+1,_,_,O,gM,Y<|oN ee.o,i6⟩,SA⟩
   have ky:J a=s+2:=oN ee.o;have en:Q ((a.drop 2).map Gb=((a.drop 2).take s).map Gb):=Y (by rw[aW<|by rw[mF];omega]);have g6:J ((a.drop 2).map Gb)=s:=by rw[bK,mF];omega
   have ih:Q (∀W,Sw (Z X_.1) X_ W->∀ap (i:ap<J ((a.drop 2).map Gb)),∃n m,av=S (A n m)/\(Z f.1<=n/\n<Z W.1)/\E W (A n<|m+ap)=S (H ((a.drop 2).map Gb)[ap])):=Y (λW d ap i=>by
    have cg:=d.4;obtain⟨gg,lr,e,q1,q2⟩:=c8.form O;obtain⟨rfl,-,rfl⟩:=Z5 e;refine⟨gg,0,R,O,?_⟩;have kv:ap<J ((((a.drop 2).take s).map Gb).map (Si S6)):=by rw[bK,<-en.o];exact i
    have hc:=pX c8 kv;rw[aV,d.cell (p:=A gg ap) q2,hc];congr 1;rw[cM];congr 1;exact(List.getElem_of_eq en i).symm)
   have i5:=Y g6;have c4:=b6 X_ co;have j1:=c4.1;have gr:=c4.2;have li:=λa9=>oB (Xb (dC (Z X_.1) X_) a9) gr O;have fe:=λa9=>Y<|Xb fi a9;have io:=λa9=>Y<|Xb (dC (Z X_.1) X_) a9;have ni:G_≠P:=O;have nk:P≠G_:=O;clear co c4 K ky g6;generalize J v=pl at*;go_wp2;refine Y7 (λw'=>E w' (A j 1)=S (Hl G_ (b+1) y)/\E w' (A P 0)=S (H bh)/\E w' (A P 1)=S (X av s ac)) λig=>?_;refine Xn 0 ?_;(iterate 9 refine Rm ?_);refine Xn 11 ?_;refine eS (rs:=[10,12]) vZ sP ?_;refine(bQ R (λO_ hK=>?_) (bQ R (λO_ hK=>?_) dY))
   focus
    go_simp;refine hK _ _ kP λig=>?_;clear hK
   rotate_left
   all_goals
    try (refine eS (rs:=[12]) vZ sP ?_;refine bQ R (λO_ hK=>?_) dY)
    go_simp;refine hK _ _ kP λig=>?_;clear hK
   rotate_left
   rotate_right
   focus
    refine Xs 10 λO_ hK=>?_;go_simp;refine hK _ _ kP λig=>?_;clear hK
   all_goals
    refine Xs 13 λO_ hK=>?_;refine XC _ R (.tmp 174) (.tmp 176) 79 R cd 83 i0 (Sa #[H 0,Hq]) 2 32 underlying79 cp bx cr ct R vY (X pa pl pc) pl cs SE (a3 _ (fe _).drew) (A (Z X_.1) 0) 1 1 [H bh,X av s ac] SE R (XE<|oF _ _) (by intro eg hu;simp at hu;obtain rfl|rfl:=hu<;>rfl) vY SD O SB (Z X_.1+1) sP ?_;intro u F h ar Y_ af bv;obtain⟨d1,d2,dz,a7⟩:=bl _ av ac _ _ _ (fe _).drew (ih _ (io _).drew) (by rw[i5.o];exact ar) Y_ (by rw[show ∀(gp:Ub),Z gp.drew.1=Z gp.1 from λ_=>R,nj];exact af);have ch:=Y_.4;simp at ch;have kP:=G (Y_.5 P SB λe=>by have:=((a3 f<|Rf).lt P e.symm).2;omega) ((Xb (dC (Z X_.1) X_) _).5 P es);have e0:=G (Xc (o:=0) kP) a0;have e1:=G (Xc (o:=1) kP) a1;have bp:=Y a7;have lv:=dz<|b*6;clear ar Y_ af bv a7 kP dz;refine hK _ _ kP λig=>?_;clear hK;refine Xn 14 ?_;refine Xn 15 ?_;refine Xs 16 λO_ hK=>?_;go_simp;refine hK _ _ kP λig=>?_;clear hK;refine Yq ?_;go_wp2;exact⟨⟨l+1,_,_,_,_,O,O,gM,bp⟩,SA⟩
  have wp:(ab==[112,104,105])=Sn:=by rw[iS];exact bb
  obtain⟨i,-⟩|⟨i,-⟩|⟨hend,hsh,-,-⟩|⟨hop,cq,hnend,-,-,hcn⟩:=bn.o;·exact Sz i hF
  .exact Sz i bb
  .have bm:Q (bk ⟨o,S (v,z)⟩ b0=.ok ⟨o++[⟨v,z,Y4 a⟩],U⟩):=Y (by rw[a6.o,ad.o,show dh ⟨o,S (v,z)⟩ ab a=S ⟨o++[⟨v,z,Y4 a⟩],U⟩ by unfold dh;rw[aM hF];dsimp only;rw[aM bb,aU hend]]);have jj:=λ(W:Ub)(i:Sw (Z f.1) f W)=>Y<|IU a (S ⟨b3,o3,U⟩) c2 (Z wr.1) (Z w2.1) W (Y<|bq.keepS (ZU<|i.mono O)) (oN i.4) (by rw[fl.o];exact hsh)
   have b6:Q (∀W,Sw (Z f.1) f W->E W (A j 1)=S (Hl G_ (b+1) y)/\(E W (A G_<|b*6+2)=S (H 0)/\E W (A G_<|b*6+2+1)=S (H 0)/\E W (A G_<|b*6+2+2)=S (H 0)/\E W (A G_<|b*6+2+3)=S (H 0))/\(∀m,W.frozen? (A G_ m)=Sn)/\fd w j V ls (S ⟨be,0,U⟩) (Z w.1+1) (Z w1.1) M (l+1) ⟨o++[⟨v,z,Y4 a⟩],U⟩ (S ⟨G_,0,U⟩) (b+1) y (Se (Se (Se (Se W (A G_<|b*6+2) (H (Y4 a).1)) (A G_<|b*6+2+1) (H (Y4 a).a)) (A G_<|b*6+2+2) (H (Y4 a).3)) (A G_<|b*6+2+3) (H (Y4 a).4))):=Y (λW d=>by
    have cg:=d.4;have R_:=q.calm d;have kG:=d.5 G_ cn;have c1:=R_.4;rw[bc,ao]at c1;have g2:=(bi.keep (w':=W) (λn _ T=>d.5 n T) cg).close (Y4 a) JP;rw[HM.o]at g2;have far:∀n,n≠G_->(Se (Se (Se (Se W (A G_<|b*6+2) (H (Y4 a).1)) (A G_<|b*6+2+1) (H (Y4 a).a)) (A G_<|b*6+2+2) (H (Y4 a).3)) (A G_<|b*6+2+3) (H (Y4 a).4)).1[n]?=W.1[n]?:=λn d=>by rw[cY d,cY d,cY d,cY d]
    have kF:=far j O;refine⟨c1,⟨G (Xc kG) t0,G (Xc kG) t1,G (Xc kG) t2,G (Xc kG) t3⟩,λm=>G (bJ kG) (cv m),a5 _ _ _ _ W _ R_ ⟨R,R,R,sP,λn d=>far n O⟩ SB (G (Xc kF) R_.3) (G (Xc kF) c1) (λm=>G (bJ kF) (R_.5 m)) ⟨by simp[HM.o],g2⟩ bm⟩)
   have h8:G_≠j:=O;have h9:j≠G_:=O;have hv:S6.wrap ((b:I)+1-1)=b:=by rw[dF];omega
   have hw:S6.wrap b=b:=by rw[dF];omega
   have hy:(b:I)<b+1:=O;clear hF bb ad bm q hsh S_ o0 o1 cv t1 t2 t3;generalize (Y4 a).1=tk at*;generalize (Y4 a).a=nl at*;generalize (Y4 a).3=nn at*;generalize (Y4 a).4=nm at*;go_wp2_with (go_at_call 43;refine YU yO λU_ Z_=>?_;rw[hend];have c4:=(b6 U_ Z_).1;have b1:=Y Z_;have e6:=Z_.4;clear Z_)
   go_region_held3 (λw'=>E w' (A j 1)=S (Hl G_ (b+1) y)) (go_keep) ((go_at_call 44;refine YU (jj _ b1.drew) λw5 ca=>?_;have cf:=Xg b1.drew ca;obtain⟨d1,⟨x0,x1,x2,x3⟩,xz,a7⟩:=b6 w5 cf;have bp:=Y a7;clear ca cf a7))
   go_wp2;exact⟨⟨l+1,_,_,_,_,O,O,gM,bp⟩,SA⟩
  have bm:Q (bk ⟨o,S (v,z)⟩ b0=.ok ⟨o,S (v,z++[T1 a])⟩):=Y (by rw[a6.o,ad.o,show dh ⟨o,S (v,z)⟩ ab a=S ⟨o,S (v,z++[T1 a])⟩ by unfold dh;rw[aM hF];dsimp only;rw[aM bb,aM<|by rw[hnend];decide]]);have jf:=λ(W:Ub)(i:Sw (Z f.1) f W)=>Y<|IM o3 c2 (Z wr.1) W (Y<|bq.keepS (ZU<|i.mono O)) kl (oN i.4) cb fl hop (Y cq) (Y hcn)
  obtain⟨H2,cs,⟨kc,gv⟩,g7,g5,al⟩:=bi.insRow;have a3:Q (∀W,Sw (Z f.1) f W->Sx W H2 62 5 (X ia (J z) ic) (J z) cs):=Y λW d=>Zl al λn e=>d.5 n (al.lt n e).2;have b6:Q (∀W,Sw (Z f.1) f W->E W (A j 1)=S (Hl G_ (b+1) y)/\E W (A G_<|b*6+1)=S (X ia (J z) ic)):=Y λW d=>⟨oB d f1 O,oB d o1 cn⟩;have bl:Q (∀W u F h,Sw (Z f.1) f W->Sx h H2 62 5 (Hl u (J z+1) F) (J z+1) (cs++[H (T1 a).1,H (T1 a).2,H (T1 a).a,H (T1 a).b,H (T1 a).5])->W.grownBy h (X ia (J z) ic).ownBlock->E h (A j 1)=S (Hl G_ (b+1) y)/\E h (A G_<|b*6+1)=S (X ia (J z) ic)/\(∀m,h.frozen? (A G_ m)=Sn)/\fd w j V ls (S ⟨be,0,U⟩) (Z w.1+1) (Z w1.1) M (l+1) ⟨o,S (v,z++[T1 a])⟩ (S ⟨G_,0,U⟩) (b+1) y (Se h (A G_<|b*6+1) (Hl u (J z+1) F))):=Y (λW u F h d ho Q_=>by
   have cg:=d.4;have ch:=Q_.4;have R_:=q.calm d;have bt:=a3 W d;have aa:=bi.keep (w':=W) (λn _ T=>d.5 n T) cg;have dd:=aa.ins ⟨kc,O⟩ (g7.keepS<|ZU (d.mono gv)) (g5.keep λn _ T=>d.5 n T) bt (T1 a) ho Q_;rw[HM.o]at dd;have low:∀n,n<H2->h.1[n]?=W.1[n]?:=λn h1=>Q_.5 n O (λe=>by have:=(bt.lt n e.symm).1;omega);have kG:=G (low G_ O) (d.5 G_ cn);have kF:=low j O;have c1:=R_.4;rw[bc,ao]at c1;have far:∀n,n≠G_->(Se h (A G_<|b*6+1) (Hl u (J z+1) F)).1[n]?=h.1[n]?:=λn d=>cY d
   have cj:=G (far j O) kF;refine⟨G (Xc kF) c1,G (Xc kG) o1,λm=>G (bJ kG) (cv m),a5 _ _ _ _ W _ R_ ⟨Q_.1,Q_.2,Q_.3,by rw[Xd];exact Q_.4,λn d=>G (far n O) (low n O)⟩ SF (G (Xc cj) R_.3) (G (Xc cj) c1) (λm=>G (bJ cj) (R_.5 m)) ⟨_,_,_,_,_,_,R,by show b+1=J o+1;rw[HM.o],dd⟩ bm⟩)
  have fx:Q (J z<=100000):=Y<|oN fz.o;have mc:=fx.o;have h8:G_≠j:=O;have h9:j≠G_:=O;have hv:S6.wrap ((b:I)+1-1)=b:=by rw[dF];omega
  have hw:S6.wrap b=b:=by rw[dF];omega
  have hy:(b:I)<b+1:=O;obtain⟨i0,cp,bx,cr,ct⟩:=fX RB;have lg:H2<=Z f.1:=gv;clear hF bb ad bm q S_ o0 o1 cv t1 t2 t3 g7 g5 al hop cq hcn;generalize (T1 a).1=xo at*;generalize (T1 a).2=xd at*;generalize (T1 a).a=xa at*;generalize (T1 a).b=xb at*;generalize (T1 a).5=xm at*;generalize J z=il at*;go_wp2_with (go_at_call 43;refine YU yO λU_ Z_=>?_;rw[hnend];have c4:=b6 U_ Z_;have j1:=c4.1;have gr:=c4.2;have b1:=Y Z_;have e6:=Z_.4;clear Z_ c4)
  refine Y7 (λw'=>E w' (A j 1)=S (Hl G_ (b+1) y)) λig=>?_;refine Xn 0 ?_;(iterate 9 refine Rm ?_);refine Xn 11 ?_;refine eS (rs:=[10,12]) vZ sP ?_;refine(bQ R (λO_ hK=>?_) (bQ R (λO_ hK=>?_) dY))
  focus
   go_simp;refine hK _ _ kP λig=>?_;clear hK
  rotate_left
  all_goals
   try (refine eS (rs:=[12]) vZ sP ?_;refine bQ R (λO_ hK=>?_) dY)
   go_simp;refine YU (jf _ b1.drew) λw5 ca=>?_;have cf:=Xg b1.drew ca;have c5:=b6 w5 cf;have lk:=c5.1;have j2:=c5.2;have k2:=cf.4;have b5:=Y cf;have lo:=λa9=>oB (Xb (dC (Z w5.1) w5) a9) j2 O;clear ca cf c5;go_wp2_with fail
   refine hK _ _ kP λig=>?_;clear hK
  rotate_left
  rotate_right
  refine eS (rs:=[10,13]) vZ sP ?_;refine(bQ R (λO_ hK=>?_) (bQ R (λO_ hK=>?_) dY))
  focus
   go_simp;refine hK _ _ kP λig=>?_;clear hK
  rotate_left
  all_goals
   try (refine eS (rs:=[13]) vZ sP ?_;refine bQ R (λO_ hK=>?_) dY)
   go_simp;refine hK _ _ kP λig=>?_;clear hK
  rotate_left
  rotate_right
  focus
   refine Xs 10 λO_ hK=>?_;go_simp;refine hK _ _ kP λig=>?_;clear hK
  all_goals
   refine Xs 14 λO_ hK=>?_;refine XC _ R (.tmp 202) (.tmp 205) 56 R H2 62 i0 (Sa #[H 0,H 0,H 0,H 0,H 0]) 5 40 underlying56 cp bx cr ct R vY (X ia il ic) il cs SE (a3 _<|Xb b5 _) (A (Z w5.1) 0) 1 1 [H xo,H xd,H xa,H xb,H xm] SE R (XE<|oF _ _) (by intro eg hu;simp at hu;obtain rfl|rfl|rfl|rfl|rfl:=hu<;>rfl) vY SD O SB (Z w5.1+1) sP ?_;intro u F h ar Y_ af bv;obtain⟨d1,d2,dz,a7⟩:=bl _ _ _ _ (Xb b5 _) ar Y_;have bp:=Y a7;clear ar Y_ af bv a7;refine hK _ _ kP λig=>?_;clear hK;refine Xn 15 ?_;refine Xn 16 ?_;refine Xs 17 λO_ hK=>?_;go_simp;refine hK _ _ kP λig=>?_;clear hK;refine Yq ?_;go_wp2;exact⟨⟨l+1,_,_,_,_,O,O,gM,bp⟩,SA⟩
