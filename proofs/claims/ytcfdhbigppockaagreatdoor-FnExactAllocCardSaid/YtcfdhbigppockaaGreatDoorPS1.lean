import Derived.Test.YtcfdhbigppockaaGreatDoorAL1
import Derived.Test.YtcfdhbigppockaaGreatDoorPK
namespace Go.Proofs.YtcfdhbigppockaaGreatDoor
set_option maxHeartbeats 40000000
set_option maxRecDepth 100000
open Go.RowKit Go.Proofs.Tryz
variable{n m k B g c:Nat}{w:Ub}
theorem oF(w:Ub)(o:Obj):(w.alloc o).1[w.1.size]?=some o:=by show(w.1.push o)[w.1.size]?=some o;simp
theorem Qi:(prog.info? 60).map (λi=>(i.8,i.3,i.4))=some (some<|.agg #[Hq,Hq,Hp 0,Hp 0,Hp 0,Hp 0],6,80):=vZ
theorem Qj:(prog.info? 62).map (λi=>(i.8,i.3,i.4))=some (some<|.agg #[Hp 0,Hq],2,32):=vZ
theorem nj(w:Ub)(o:Obj):(w.alloc o).1.size=w.1.size+1:=Array.size_push ..
theorem Mk(t:Wn)(s:UInt8):0<(C3 t s).length:=by
 unfold C3;have d:∀(r a:Wn),0<(am s a r).length:=by
  intro r
  induction r with
  |nil=>intro a;simp[am]
  |cons c r b=>intro a;rw[am];split<;>simp[b]
 exact d t []
theorem yW(a:Wn):Tn (Fa a)<=a.length:=by
 have:=pT 10 a.dropLast [];simp only[bO,List.length_dropLast,aV]at this;show Tn (am 10 [] a.dropLast)<=_;omega
theorem Ll(a:Wn):∀l∈Fa a,l.length<=a.length:=λl b=>by
 have:=kh 10 a.dropLast [] l b;simp only[bO,List.length_dropLast,aV]at this;omega
theorem L6(a:Wn):(Fa a).length<=a.length+1:=by
 have:=oK 10 a.dropLast [];rw[List.length_dropLast]at this;show(am 10 [] a.dropLast).length<=_;omega
theorem me{a:Vw}(h:Zx w n m (some ⟨k,B,none⟩) (KC a))(i:Nat)(d:i<a.length):w.cell? (Hk k<|B+i)=some (.string (K8 a[i]))/\k<m:=by
 let⟨f,g,e,b,c⟩:=h i (by simpa [KC]using d);cases e;exact⟨c.trans (by simp[KC]),b.2⟩
theorem zPS10{p: Prop}(h: p := by
  go_wp2_with (go_at_call 24;refine(Y2).mono ?_;rintro e wx⟨rfl,p⟩;have r:=q.calm p;obtain⟨⟨A,C,D,E⟩,rz⟩:=r.2;have K:=Xa r;clear p r)
  exact cC (v:=.agg #[Hp 8,Hp<|(l:Int)+1,Hp 0,Hq]) (by simp[results,results12,go_sem,A,C,D,E]) rfl ⟨_,rfl,Y1 K.1<|aA,by rw[I.o];exact gm oM⟩): p := h
theorem zPS11{p: Prop}(h: p := by
  go_wp2_with (first|(go_at_call 32;refine b7.mono ?_;rintro e w6⟨rfl,bf⟩;rw[hvd];have x:=dk w6 bf;have ce:=Xa x.1;have cx:=Xa x.2;have g1:=x.1.4;have g0:=x.1.3;obtain⟨⟨A,C,D,E⟩,rz⟩:=x.1.2;skip;clear bf x)|(go_at_call 24;refine(Y2).mono ?_;rintro e wx⟨rfl,p⟩;have r:=ce.calm p;obtain⟨⟨A,C,D,E⟩,rz⟩:=r.2;have K:=Xa r;clear p r))
  exact cC (v:=.agg #[Hp 9,Hp 0,Hp 0,Hq]) (by simp[results,results12,go_sem,A,C,D,E]) rfl ⟨_,rfl,Y1 K.1<|aA,by rw[I.o];exact gm rfl⟩): p := h
theorem zPS13{p: Prop}(h: p := by
  obtain i|i:=Nat.eq_zero_or_pos J;·exact bC i
  obtain⟨cs,al⟩:=bd.1
  obtain⟨G,j3,e,kb,er⟩:=al.form (by dsimp only;omega);obtain⟨rfl,-,-⟩:=Value.slice.inj e;obtain⟨⟨L',B',_,_,_,pa,pc,ia,ic,_,_,⟨t0,_⟩,_⟩,ci⟩:=bd.2 G rfl (J-1) (by dsimp only;omega);exact aZ ⟨J-1,G,_,oM,oM,rfl,t0,by rw[iS];exact ci,er⟩): p := h
theorem zPS14{p: Prop}(h: p := by
  go_wp2_with (go_at_call 24;refine(Y2).mono ?_;rintro e wx⟨rfl,p⟩;obtain⟨⟨A,C,D,E⟩,rz⟩:=(db).keep (p.5 _ oM);have c6:=Xa<|Xg cz p;clear p)
  exact cC (v:=.agg #[Hp 3,Hp 1,Hp 0,Hq]) (by simp[results,results12,go_sem,A,C,D,E]) rfl ⟨_,rfl,Y1 c6<|aA,by rw[I.o];exact gm rfl⟩): p := h
theorem KM{T:Wn}(ha:Hs (Yx w B g (some ⟨n,m,none⟩) T))(hx:Hs (k=T.length))(mo:1<=k)(hl:k<=100000)(mr:k<=c)(hB:g<=w.1.size)(l4:n<g)(he:Hs (T.getLast?=some 10)):
 Calls prog 12 #[Hm n m k c] w λe w'=>∃val,e=.returned val/\Below w.1.size w w'/\nN w' w.1.size w'.1.size val (C2 T):=by
 have hm:k-1<T.length:=oN hx.o
 have hT:w.cell? (Hk n<|m+(k-1))=some (.int .u8 10):=by
  obtain⟨b',o',e,_,hc⟩:=ha (k-1) hm;cases e;rw[hc];have N:=he.o;rw[List.getLast?_eq_getElem?,show T.length-1=k-1 by have:=hx.o;omega,aC hm]at N;injection N with N;rw[N];rfl
 have HB:=λt=>Xa<|Xb (Below.refl w.1.size w) (.cells #[Hp 0,Hp 0,Hp 0,Hq] t);have HR:=λt=>Xa<|RZ.new w t;have ko:=λt=>oB (HB t) hT oM
 have HY:=λt=>Xa (show Yx (w.alloc<|.cells #[Hp 0,Hp 0,Hp 0,Hq] t) B g (some ⟨n,m,none⟩) T.dropLast from λa8 R=>by
  obtain⟨b',o',e,L,hc⟩:=(ha.keep<|(HB t).mono hB) a8 (by rw[List.length_dropLast]at R;omega);exact⟨b',o',e,L,hc.trans<|by rw[List.getElem_dropLast]⟩)
 have c9:Hs (C2 T=p8 (Fa T) (nQ<|(Fa T).headD [])):=Xa (by have:=hx.o;unfold C2;rw[aM oM,aM λL=>L he]);have i4:Hs (k-1=T.dropLast.length):=Xa (by rw[List.length_dropLast,<-hx.o]);have el:=λt=>Xa (zB c 10 (w.alloc<|.cells #[Hp 0,Hp 0,Hp 0,Hq] t) (HY t) i4 oM oM (by simp;omega));have eb:=Xa<|Mk T.dropLast 10;have i3:Hs ((Fa T).length<=100001):=Xa<|oP (L6 T) hx.o;have f6:Hs (∀e7∈Fa T,e7.length<=100000):=Xa (λe7 hl=>by have:=Ll T e7 hl;have:=hx.o;omega);have eo:Hs (Tn (Fa T)<=100000):=Xa<|oP (yW T) hx.o;change ∀t,Hs (Calls _ _ _ _ λe w'=>∃ib,e=.returned ib/\Below _ _ w'/\w'.ownsRow _ _ 1 ib (Fa T).length (KC<|Fa T))at el;change Hs (0<(Fa T).length)at eb;clear hT hm HY;generalize l1:C2 T=M at*;generalize Fa T=ls at*
 go_in
 go_wp2_with fail
 refine(el _).mono ?_;rintro e w1⟨v1,rfl,du,ey⟩;obtain⟨be,lp,rfl,ks,l6⟩:=ey.form eb;obtain⟨a1,c1,e1,hn⟩:=UO ey;obtain⟨rfl,-,rfl⟩:=Value.slice.inj e1;have ge:=Xa<|(HR 39).keep (du.5 w.1.size sP);have fa:=Xa<|Xg (HB 39).o du;have kz:=du.4;simp at kz ks;have ep:=Xa (show Zx w1 (w.1.size+1) w1.1.size (some ⟨be,0,none⟩) (KC ls) by simpa using hn);obtain⟨q0,-⟩:=me ep 0 eb;rw[aV]at q0;have hp:=eb.o;have ml:=i3.o;have f4:=Xa<|f6.o ls[0] (aH _);have fq:=λw=>Xa<|yG ls[0] (oN f4.o) w;have dl:Hs (ls.headD []=ls[0]):=Xa (by cases ls with|nil=>simp at hp|cons a9 s=>rfl);clear du hn e1 ey el HB HR ko;generalize kf:ls[0]=l0 at*;clear kf;go_wp2_with fail
 refine(fq _).mono ?_;rintro e w2⟨v2,rfl,br,df⟩;obtain⟨a2,c2,rfl,dj⟩:=UO df;rw[show(KC<|Bf l0).length=(Bf l0).length by simp[KC]];have k0:=br.4;have c7:Hs (nQ l0=if (Bf l0).length=2/\(Bf l0).getD 0 []=sT/\0<=Gb ((Bf l0).getD 1 [])then some (Gb<|(Bf l0).getD 1 [])else none):=Xa rfl;have g4:=sf l0;have cw:=Xa<|Xg fa br;have da:=Xa<|ge.keep (br.5 w.1.size oM);have gh:=Xa<|ep.keepS (YA.of_below br);have b8:=Xa dj;clear dj df br fa ge ep fq q0;have kq:(Bf l0).length<=100000:=oN f4.o;generalize Bf l0=hs at*;clear g4;by_cases N:hs.length=2
 .obtain⟨f0,f1,rfl⟩:∃f0 f1,hs=[f0,f1]:=by
   match hs,N with
   |[a9,y],_=>exact⟨a9,y,rfl⟩
  obtain⟨b2,o2,rfl,⟨_,l2⟩,-⟩:=b8 0 (by simp[KC]);obtain⟨p0,-⟩:=me b8 0 sP;obtain⟨p1,-⟩:=me b8 1 sP;simp only[eM,fO,fW]at p0 p1;have hh:=T4 f0;have K:=λw=>Xa<|j9 f1 w;clear N kq;by_cases hf:f0=sT
  .have fb:(f0==[102,117,110,99])=true:=by rw[hf];rfl
   have fn:(f0 != [102,117,110,99])=false:=by rw[hf];rfl
   have HF:=Xa hf;clear hf;by_cases R:0<=Gb f1
   .have kt:¬Gb f1<0:=oM
    have I:Hs (M=mi ls.length (Gb f1) (dy (ls.drop 1) 1 ⟨[],none⟩)):=Xa (by
     rw[c9.o,dl.o,c7.o,aU ⟨rfl,HF,R⟩,List.drop_one];rfl)
    clear R c9 c7 HF;generalize Gb f1=V at*;go_wp2_with fail
    refine(K _).mono ?_;rintro e f⟨rfl,aj⟩;have k1:=(XU aj oM).trans p1;have g9:=aj.4;have fc:=Xa<|Xg cw aj;have gb:=Xa<|da.keep (aj.5 w.1.size oM);have gi:=Xa<|gh.keepS (YA.of_below<|aj.mono oM);clear aj p0 p1 cw da gh hh fb fn;go_wp2_with fail
    refine(K _).mono ?_;rintro e U⟨rfl,Z⟩;have e6:=Z.4;have b1:=Xa<|Xg fc Z;have gd:=Xa<|gb.keep (Z.5 w.1.size oM);have gl:=Xa<|gi.keepS (YA.of_below<|Z.mono oM);clear Z k1 fc gb gi K b8;have ad:Hs (∀t,fd w U.1.size V ls (some ⟨be,0,none⟩) (w.1.size+1) w1.1.size M 1 ⟨[],none⟩ none 0 0 (U.alloc<|.cells #[Hp V,Hq] t)):=Xa (λt=>by
     have b4:=Xb (Below.refl U.1.size U) (.cells #[Hp V,Hq] t);refine⟨Xb b1 _,gd.keep<|b4.5 _ oM,by simp[go_sem],by simp[go_sem],λm=>by simp[go_sem],gl.keepS<|YA.of_below (b4.mono oM),gw.start _ _ sP,⟨oM,oM,sP⟩,?_,I.symm⟩;show 0+0+0<=_;omega)
    have k3:=λt=>nj U<|.cells #[Hp V,Hq] t;go_wp2;have gf:=Xa<|ad.o 37;clear ad k3;generalize (U.alloc _)=w5 at*;generalize ka:U.1.size=j at*;clear I b1 gd gl
    go_loopw [6] (λa8 wr=>∃(l:Nat)(aq:NX)(va:Uy)(J H:Nat),1<=l/\l<=ls.length/\a8=Hp l/\Hs (fd w j V ls (some ⟨be,0,none⟩) (w.1.size+1) w1.1.size M l aq va J H wr)) λa8 _=>ls.length-(intOf a8).toNat
    case atStart=>exact⟨1,⟨[],none⟩,none,0,0,aA,hp,rfl,gf⟩
    obtain⟨l,aq,va,J,H,mg,hk,rfl,hinv⟩:=hrel;clear gf ka;have kx:=hinv.8;obtain⟨nc,nd,ne⟩:=kx;have ef:=hinv.9;have i2:=Xa ef;have ev:=oJ ls l;have S:=hinv.7.len;have eu:=eo.o;have ht:J<=100000:=oM;clear S eu ev ef;by_cases ec:l<ls.length
    .obtain⟨q0,ma⟩:=me hinv.6 l ec;rw[aV]at q0;have em:=Xa<|f6.o ls[l] (aH ec);have fr:=λw=>Xa<|yG ls[l] (oN em.o) w;have iv:=Xa<|sf ls[l];have ir:=Xa<|KG ls[l];have cl:Hs (bk aq ls[l]=if Bf ls[l]=[]then .bad 4 else if C0 (Bf ls[l])≠0 then .bad (C0<|Bf ls[l])else match je aq (Bf ls[l])with|none=>.bad 8|some s'=>.ok s'):=Xa rfl;have a4:Hs (∀c,bk aq ls[l]=.bad c->M=au c (l+1)):=Xa λc i=>hinv.bad ec i;have a5:Hs (∀(s':NX)(ei:Uy)(ek ej:Nat)(e8 h:Ub),fd w j V ls (some ⟨be,0,none⟩) (w.1.size+1) w1.1.size M l aq va J H e8->Below j e8 h->j<h.1.size->h.cell? (Hk j 0)=some (Hp V)->h.cell? (Hk j 1)=some (.slice ei ek ej)->(∀m,h.frozen? (Hk j m)=false)->gw h (j+1) ei ek ej s'->bk aq ls[l]=.ok s'->fd w j V ls (some ⟨be,0,none⟩) (w.1.size+1) w1.1.size M (l+1) s' ei ek ej h):=Xa λs' ei ek ej e8 h i h1 N h3 h4 h5 x h7=>i.next h1 N h3 h4 h5 x ec h7;generalize ls[l]=b0 at*;go_wp2_with fail
     refine(fr _).mono ?_;rintro e w2⟨v2,rfl,br,df⟩;obtain⟨a2,c2,rfl,dj⟩:=UO df;rw[show(KC<|Bf b0).length=(Bf b0).length by simp[KC]];have k0:=br.4;have q:=Xa<|hinv.calm br;have b8:=Xa dj;have g4:(Bf b0).length<=100000:=oP iv.o em.o;clear br df dj hinv fr q0;generalize Bf b0=a at*;by_cases h0:a.length=0
     .have g3:a=[]:=iE h0;have I:Hs (M=au 4 (l+1)):=Xa (a4.o 4<|by rw[cl.o,aU g3]);clear cl a4 a5 g3;go_wp2_with (go_at_call 24;refine(Y2).mono ?_;rintro e wx⟨rfl,p⟩;have r:=q.calm p;obtain⟨⟨A,C,D,E⟩,rz⟩:=r.2;have K:=Xa r;clear p r)
      exact cC (v:=.agg #[Hp 4,Hp<|(l:Int)+1,Hp 0,Hq]) (by simp[results,results12,go_sem,A,C,D,E]) rfl ⟨_,rfl,Y1 K.1<|aA,by rw[I.o];exact gm oM⟩
     have cb:0<a.length:=oM;have bx:((a.length:Int)==0)=false:=by rw[iS];omega
     have f5:=Xa (IQ c2 b8 cb oM aA (Xa λj4 hf=>by have:=ir j4 hf;have:=em.o;omega));go_wp2_with fail
     refine f5.mono ?_;rintro e f⟨rfl,aj⟩;have g9:=aj.4;have le:=Xa<|q.calm aj;have bq:=Xa<|b8.keepS (YA.of_below aj);clear aj q b8 f5
     rename Hs (fd w j V ls (some ⟨be,0,none⟩) (w.1.size+1) w1.1.size M l aq va J H f)=>q
     have ed:¬a=[]:=λe=>by rw[e]at cb;simp at cb
     by_cases hc:C0 a=0
     .have a6:Hs (bk aq b0=match je aq a with|none=>.bad 8|some s'=>.ok s'):=Xa (by rw[cl.o,aM ed,aM λL=>L hc]);have bn:=Xa<|Lh cb hc;have et:(C0 a != 0)=false:=by rw[bne_eq_false_iff_eq];exact hc
      clear cl hc ed bx;generalize C0 a=cc at*;obtain⟨b3,o3,rfl,⟨l3,kl⟩,-⟩:=bq 0 (by simpa [KC]using cb);obtain⟨p0,-⟩:=me bq 0 cb;rw[fW]at p0;have dw:a.headD []=a[0]:=by cases a with|nil=>simp at cb|cons a9 s=>rfl
      have fl:=Xa dw;have hh:=T4 a[0];rw[dw]at bn;have ad:Hs (je aq a=dh aq a[0] a):=Xa (by unfold je;rw[dw]);clear dw;generalize gt:a[0]=ab at*;have lc:=Xa gt;clear gt;have f1:=q.4;have f0:=q.3;obtain⟨o,eq⟩:=aq;cases eq with
      |none=>
       obtain⟨S,dc⟩:=q.7;have bd:=Xa dc;dsimp only at S;clear dc;have di:J=0\/∃b G kd,J=b+1/\b<=100000/\va=some (Hk G 0)/\f.cell? (Hk G<|b*6+2)=some (Hp kd)/\(kd==0)=false/\G<f.1.size:=by
        exact zPS13
       by_cases hF:ab=eh
       .have wb:(ab==[98,108,111,99,107])=true:=by rw[hF];rfl
        have wp:(ab==[112,104,105])=false:=by rw[hF];rfl
        have bm:Hs (bk ⟨o,none⟩ b0=.ok ⟨o,some ([],[])⟩):=Xa (by rw[a6.o,ad.o,show dh ⟨o,none⟩ ab a=some ⟨o,some ([],[])⟩ by unfold dh;rw[aU hF]]);clear hF a6 ad bn a4;obtain⟨cs,al⟩:=bd.1;have l5:=q.5 1;have a3:Hs (∀t,(f.alloc<|.cells #[Hq,Hq,Hp 0,Hp 0,Hp 0,Hp 0] t).ownsRow (j+1) 60 6 (.slice va J H) J cs):=Xa (λt=>by rw[S];exact Zl al λn e=>(Xb (Below.refl f.1.size f) _).5 n (al.lt n e).2);have bl:Hs (∀t u F h,h.ownsRow (j+1) 60 6 (Hl u (J+1) F) (J+1) (cs++[Hq,Hq,Hp 0,Hp 0,Hp 0,Hp 0])->(f.alloc<|.cells #[Hq,Hq,Hp 0,Hp 0,Hp 0,Hp 0] t).grownBy h (Value.slice va J H).ownBlock->((Value.slice va J H).ownBlock=some u\/u=f.1.size+1)->h.cell? (Hk j 1)=some (.slice va J H)/\h.frozen? (Hk j 1)=false/\fd w j V ls (some ⟨be,0,none⟩) (w.1.size+1) w1.1.size M (l+1) ⟨o,some ([],[])⟩ (some ⟨u,0,none⟩) (J+1) F (h.setCell (Hk j 1) (Hl u (J+1) F))):=Xa (λt u F h ho Q af=>by
         have ba:=Xb (Below.refl f.1.size f) (.cells #[Hq,Hq,Hp 0,Hp 0,Hp 0,Hp 0] t);have ch:=Q.4;rw[nj]at ch;have mv:=al;have et:=bd.keep (w':=f.alloc<|.cells #[Hq,Hq,Hp 0,Hp 0,Hp 0,Hp 0] t) (λn _ N=>ba.5 n N) (by rw[nj];omega);have bt:=a3 t;rw[S]at bt ho Q af |-;have aa:=et.open_ bt ho Q (by rw[nj];exact af);have low:∀n,n<j+1->h.1[n]?=f.1[n]?:=λn d=>(Q.5 n (by rw[nj];omega) λe=>by have:=(bt.lt n e.symm).1;omega).trans (ba.5 n oM);have kF:=low j oM;have c1:=(Xc (o:=1) kF).trans q.4;rw[S]at c1;have sm:∀n,n≠j->(h.setCell (Hk j 1) (Hl u (o.length+1) F)).1[n]?=h.1[n]?:=λn d=>Below.heap_setCell _ _ _ _ d;refine⟨c1,(bJ kF).trans (q.5 1),a5 _ _ _ _ f _ q ⟨Q.1,Q.2,Q.3,by rw[Xd];omega,λn d=>(sm n oM).trans (low n oM)⟩ (by rw[Xd];omega) ?_ (fQ _ _ _ c1) (λm=>(eX _ _ _ _).trans ((bJ kF).trans (q.5 m))) ?_ bm⟩;·exact(cJ<|by intro e;injection e with _ e;omega).trans ((Xc kF).trans q.3)
         exact⟨_,u,_,_,_,_,rfl,rfl,aa.keep (λn h1 N=>sm n oM) (by rw[Xd];omega)⟩)
        obtain⟨i0,cp,bx,cr,ct⟩:=fX Qi;obtain bo|⟨b,G,kd,bc,hm,ao,t0,ci,hG⟩:=di
        .have m0:=bo;rw[bo]at f1 a3 bl;clear bo S a5;go_wp2_with (at_builtin;refine wpList_append_lies _ rfl _ _ 35 rfl (j+1) 60 i0 (.agg #[Hq,Hq,Hp 0,Hp 0,Hp 0,Hp 0]) 6 80 underlying35 cp bx cr ct rfl vY (.slice va 0 H) 0 cs (by simp[Act.eval]) (a3 _) (Hk f.1.size 0) 1 1 [Hq,Hq,Hp 0,Hp 0,Hp 0,Hp 0] (by simp[Act.eval]) rfl (World.news_of_block<|oF _ _) (by intro eg hu;simp at hu;obtain rfl|rfl:=hu<;>rfl) vY (by unfold maxLen;omega) oM (by simp;omega) (f.1.size+1) sP ?_;intro u F h ar Y af bv;obtain⟨d1,dz,a7⟩:=bl _ _ _ _ ar Y af;have bp:=Xa a7;clear ar Y af bv a7)
         exact⟨⟨l+1,_,_,_,_,oM,oM,gM,bp⟩,by simp[intOf];omega⟩
        rw[bc]at f1 a3 bl;rw[ao]at f1 a3 bl;clear a5 S;go_wp2_with (at_builtin;refine wpList_append_lies _ rfl _ _ 35 rfl (j+1) 60 i0 (.agg #[Hq,Hq,Hp 0,Hp 0,Hp 0,Hp 0]) 6 80 underlying35 cp bx cr ct rfl vY (Hl G (b+1) H) (b+1) cs (by simp[Act.eval]) (a3 _) (Hk f.1.size 0) 1 1 [Hq,Hq,Hp 0,Hp 0,Hp 0,Hp 0] (by simp[Act.eval]) rfl (World.news_of_block<|oF _ _) (by intro eg hu;simp at hu;obtain rfl|rfl:=hu<;>rfl) vY (by unfold maxLen;omega) oM (by simp;omega) (f.1.size+1) sP ?_;intro u F h ar Y af bv;obtain⟨d1,dz,a7⟩:=bl _ _ _ _ ar Y af;have bp:=Xa a7;clear ar Y af bv a7)
        exact⟨⟨l+1,_,_,_,_,oM,oM,gM,bp⟩,by simp[intOf];omega⟩
       have I:Hs (M=au 8 (l+1)):=Xa (a4.o 8<|by rw[a6.o,ad.o,show dh ⟨o,none⟩ ab a=none by unfold dh;rw[aM hF]]);have wb:(ab==[98,108,111,99,107])=false:=by rw[iS];exact hF
       clear hF a6 ad bn a4 a5 bd S;obtain bo|⟨b,G,kd,bc,hm,ao,t0,ci,hG⟩:=di
       .subst bo;exact zPS10
       rw[bc,ao]at f1;exact zPS10
      |some pi=>
       obtain⟨v,z⟩:=pi;obtain⟨cd,G,pa,pc,ia,ic,ao,S,aa⟩:=q.7;dsimp only at S aa;have bi:=Xa aa;have o0:=aa.4;have o1:=aa.5;obtain⟨t0,t1,t2,t3⟩:=aa.6;obtain⟨⟨k8,la⟩,lb,hz⟩:=aa.3;have cn:G<f.1.size:=oM;have cv:=λm=>ol aa.1.choose_spec m;clear aa;have fz:Hs (v.length<=100000/\z.length<=100000):=Xa (by have i:=i2.o;have N:=oJ ls l;have h3:=eo.o;simp only[TT]at i;omega);rw[S]at ht;generalize hm:o.length=b at*;have HM:=Xa hm;clear hm;have bc:J=b+1:=S;rw[bc,ao]at f1;by_cases hF:ab=eh
       .have I:Hs (M=au 8 (l+1)):=Xa (a4.o 8<|by rw[a6.o,ad.o,show dh ⟨o,some (v,z)⟩ ab a=none by unfold dh;rw[aU hF]]);have wb:(ab==[98,108,111,99,107])=true:=by rw[hF];rfl
        clear hF a6 ad bn a4 a5 bi;exact zPS10
       have wb:(ab==[98,108,111,99,107])=false:=by rw[iS];exact hF
       by_cases bb:ab=fm
       .have wp:(ab==[112,104,105])=true:=by rw[bb];rfl
        by_cases ea:z=[]
        .subst ea
         have h3:3<=a.length:=by
          obtain⟨i,-⟩|⟨-,i⟩|⟨-,-,-,i⟩|⟨-,-,-,-,i,-⟩:=bn.o;·exact absurd i hF
          .exact i
          .exact absurd bb i
          exact absurd bb i
         have bm:Hs (bk ⟨o,some (v,[])⟩ b0=.ok ⟨o,some (v++[jt a],[])⟩):=Xa (by rw[a6.o,ad.o,show dh ⟨o,some (v,[])⟩ ab a=some ⟨o,some (v++[jt a],[])⟩ by unfold dh;rw[aM hF];dsimp only;rw[aU bb,aU rfl]]);obtain⟨p1,-⟩:=me bq 1 oM;have ga:Hs (ii f cd pa pc v):=Xa (by obtain⟨_,_,_,i⟩|⟨i,_⟩:=bi.7;exact i;exact absurd rfl i);obtain⟨cs,al⟩:=ga.1;have a3:Hs (∀W,Below f.1.size f W->W.ownsRow cd 62 2 (.slice pa v.length pc) v.length cs):=Xa λW d=>Zl al λn e=>d.5 n (al.lt n e).2;have dn:Hs ((jt a).1=Gb a[1]/\(jt a).2=(a.drop 2).map Gb):=Xa ⟨by show Gb (a.getD 1 [])=_;simp[show 1<a.length by omega],rfl⟩;have b6:Hs (∀W,Below f.1.size f W->W.cell? (Hk j 1)=some (Hl G (b+1) H)/\W.cell? (Hk G<|b*6)=some (.slice pa v.length pc)):=Xa λW d=>⟨oB d f1 oM,oB d o0 cn⟩;have bl:Hs (∀W ds c u F h,Below f.1.size f W->(∀ap (i:ap<((a.drop 2).map Gb).length),∃n m,ds=some (Hk n m)/\(f.1.size<=n/\n<W.1.size)/\W.cell? (Hk n<|m+ap)=some (Hp ((a.drop 2).map Gb)[ap]))->h.ownsRow cd 62 2 (Hl u (v.length+1) F) (v.length+1) (cs++[Hp<|Gb a[1],.slice ds ((a.drop 2).map Gb).length c])->W.grownBy h (Value.slice pa v.length pc).ownBlock->((Value.slice pa v.length pc).ownBlock=some u\/u=W.1.size)->h.cell? (Hk j 1)=some (Hl G (b+1) H)/\h.cell? (Hk G<|b*6)=some (.slice pa v.length pc)/\(∀m,h.frozen? (Hk G m)=false)/\fd w j V ls (some ⟨be,0,none⟩) (w.1.size+1) w1.1.size M (l+1) ⟨o,some (v++[jt a],[])⟩ (some ⟨G,0,none⟩) (b+1) H (h.setCell (Hk G<|b*6) (Hl u (v.length+1) F))):=Xa (λW ds c u F h d kk ho Q af=>by
          have cg:=d.4;have ch:=Q.4;have R:=q.calm d;have bt:=a3 W d;have aa:=bi.keep (w':=W) (λn _ N=>d.5 n N) cg;have dd:=aa.phi bt (jt a) (a:=ds) (c:=c) (by rw[dn.2];intro ap hj;obtain⟨n,m,e,q1,q2⟩:=kk ap hj;exact⟨n,m,e,oM,λe2=>by have:=(al.lt n e2.symm).2;omega,q2⟩) (by rw[dn.1,dn.2];exact ho) Q af;rw[HM.o]at dd;have low:∀n,n<cd->h.1[n]?=W.1[n]?:=λn h1=>Q.5 n oM (λe=>by have:=(bt.lt n e.symm).1;omega);have kG:=(low G oM).trans (d.5 G cn);have kF:=low j oM;have c1:=R.4;rw[bc,ao]at c1;have far:∀n,n≠G->(h.setCell (Hk G<|b*6) (Hl u (v.length+1) F)).1[n]?=h.1[n]?:=λn d=>Below.heap_setCell _ _ _ _ d
          have cj:=(far j oM).trans kF;refine⟨(Xc kF).trans c1,(Xc kG).trans o0,λm=>(bJ kG).trans (cv m),a5 _ _ _ _ W _ R ⟨Q.1,Q.2,Q.3,by rw[Xd];exact Q.4,λn d=>(far n oM).trans (low n oM)⟩ (by rw[Xd];omega) ((Xc cj).trans R.3) ((Xc cj).trans c1) (λm=>(bJ cj).trans (R.5 m)) ⟨_,_,_,_,_,_,rfl,by show b+1=o.length+1;rw[HM.o],dd⟩ bm⟩)
         have f7:Hs (v.length<=100000):=Xa<|oN fz.o;have mw:=f7.o;have h8:G≠j:=oM;have h9:j≠G:=oM;have hv:IntKind.i64.wrap ((b:Int)+1-1)=b:=by rw[dF];omega
         have hw:IntKind.i64.wrap (b:Int)=b:=by rw[dF];omega
         have hy:(b:Int)<(b:Int)+1:=oM;obtain⟨i0,cp,bx,cr,ct⟩:=fX Qj;obtain⟨j0,ku,k4,k6,k7⟩:=fX RH;have K:=λ(a8:Nat)(i:a8<a.length)(w:Ub)=>Xa<|j9 a[a8] w;have fj:Hs (∀W,Below f.1.size f W->∀a8 (i:a8<a.length),W.cell? (Hk b3<|o3+a8)=some (.string (K8 a[a8]))):=Xa λW d a8 i=>oB d (me bq a8 i).1 oM;have lz:cd<=f.1.size:=hz;clear hF bb a6 ad bn a4 a5 bi bm q bq S o0 cv t1 t2 t3 al f7 ga dn;generalize hD:Gb a[1]=bh at*;have HD:=Xa hD;clear hD;go_wp2_with fail
         refine(K 1 oM _).mono ?_;rintro e U⟨rfl,Z⟩;rw[HD.o];have e6:=Z.4;have e9:Hs (∀t,Below f.1.size f (U.alloc<|.cells #[Hp bh,Hq] t)/\U.1.size<(U.alloc<|.cells #[Hp bh,Hq] t).1.size/\(U.alloc<|.cells #[Hp bh,Hq] t).cell? (Hk U.1.size 0)=some (Hp bh)/\(U.alloc<|.cells #[Hp bh,Hq] t).cell? (Hk U.1.size 1)=some Hq/\∀m,(U.alloc<|.cells #[Hp bh,Hq] t).frozen? (Hk U.1.size m)=false):=Xa (λt=>⟨Xb Z _,sP,by simp[go_sem],by simp[go_sem],λm=>by simp[go_sem]⟩);clear Z;go_wp2;have ck:=Xa<|e9.o 62;clear e9;generalize (U.alloc _)=wl at*;generalize hP:U.1.size=P at*;generalize wr=wo at*
         go_loopw [12] (λap X=>∃(L s:Nat)(av:Uy)(ac:Nat),L<=a.length/\ap=Hp L/\Hs (L=s+2)/\Hs ((Below f.1.size f X/\P<X.1.size)/\X.cell? (Hk P 0)=some (Hp bh)/\X.cell? (Hk P 1)=some (.slice av s ac)/\(∀m,X.frozen? (Hk P m)=false)/\X.ownsRow (P+1) 2 1 (.slice av s ac) s ((((a.drop 2).take s).map Gb).map (Value.int .i64)))) λap _=>a.length-(intOf ap).toNat
         case atStart=>exact⟨2,0,none,0,oM,rfl,Xa rfl,Xa ⟨⟨ck.1,ck.2.1⟩,ck.2.2.1,ck.2.2.2.1,ck.2.2.2.2,dA⟩⟩
         obtain⟨L,s,av,ac,hr,rfl,ee,gz⟩:=hrel;have mx:s<=100000:=oN ee.o;generalize wr=X at*;obtain⟨⟨co,es⟩,a0,a1,az,ho⟩:=gz.o;have fi:=Xa co;have c8:=Xa ho;have mz:=co.4;have jv:=az 1;clear gz ck ho;by_cases g8:L<a.length
         .have gs:=fj X co L g8;have i1:=λw=>K L g8 w
          have jl:Hs ((((a.drop 2).take (s+1)).map Gb).map (Value.int .i64)=(((a.drop 2).take s).map Gb).map (Value.int .i64)++[Hp<|Gb a[L]]):=Xa (by
           have hq:=ee.o;subst hq;have hd:s<(a.drop 2).length:=by rw[mF];omega
           have e:(a.drop 2)[s]'hd=a[s+2]:=by simp[Nat.add_comm]
           rw[X7 hd,bG,bG];simp only[eH,fZ];rw[e])
          have kn:b3<X.1.size:=oM;have nh:P≠b3:=oM;clear co b6 bl a3;generalize hX:a[L]=gq at*;clear hX;generalize Gb gq=IX at*;go_wp2;refine Y7 (λw'=>w'.cell? (Hk b3<|o3+L)=some (.string (K8 gq))) λhHeld=>?_;refine Xn 0 ?_;refine Xn 2 ?_;refine Xn 3 ?_;refine Xn 4 ?_;refine Xn 5 ?_;refine eS (rs:=[1,6]) vZ sP ?_;refine(bQ rfl (λO hK=>?_) (bQ rfl (λO hK=>?_) dY))
          focus
           go_simp;refine hK _ _ kP λhHeld=>?_;clear hK
           try simp only[xX]
          rotate_left
          all_goals
           try (refine eS (rs:=[6]) vZ sP ?_;refine bQ rfl (λO hK=>?_) dY)
           go_simp;refine(i1 _).mono ?_;rintro e w5⟨rfl,ca⟩;have h5:=(Below.refl X.1.size X).drew.trans ca;have k2:=h5.4;have k5:=oB h5 a1 es;have nb:=(h5.frozen (p:=Hk P 1) es).trans jv;have na:=λa9=>oB (Xb (Below.refl w5.1.size w5) a9) k5 oM;have s5:=oB h5 gs kn;have b5:=Xa h5;clear ca h5;go_wp2_with fail
           refine hK _ _ kP λhHeld=>?_;clear hK
           try simp only[xX]
          rotate_left
          rotate_right
          refine eS (rs:=[1,7]) vZ sP ?_;refine(bQ rfl (λO hK=>?_) (bQ rfl (λO hK=>?_) dY))
          focus
           go_simp;refine hK _ _ kP λhHeld=>?_;clear hK
           try simp only[xX]
          rotate_left
          all_goals
           try (refine eS (rs:=[7]) vZ sP ?_;refine bQ rfl (λO hK=>?_) dY)
           go_simp;refine hK _ _ kP λhHeld=>?_;clear hK
           try simp only[xX]
          rotate_left
          rotate_right
          focus
           refine Xs 1 λO hK=>?_;go_simp;refine hK _ _ kP λhHeld=>?_;clear hK
          all_goals
           refine Xs 8 λO hK=>?_;refine step_append_lies _ rfl (.tmp 155) (.tmp 161) 41 rfl (P+1) 2 j0 (Hp 0) 1 8 underlying41 ku k4 k6 k7 rfl vY (.slice av s ac) s ((((a.drop 2).take s).map Gb).map (Value.int .i64)) (by simp[Act.eval]) (Zl c8 λn e=>((Xb b5 _).5 n (c8.lt n e).2)) (Hk w5.1.size 0) 1 1 [Hp IX] (by simp[Act.eval]) rfl (World.news_of_block<|oF _ _) (by intro eg hu;simp at hu;subst hu;rfl) vY (by unfold maxLen;omega) oM (by simp;omega) (w5.1.size+1) sP ?_;intro u F h ar Y af bv;have ch:=Y.4;simp at ch;have low:∀n,n<P+1->h.1[n]?=X.1[n]?:=λn d=>(Y.5 n (by simp;omega) λe=>by have:=(c8.lt n e.symm).1;omega).trans ((Xb b5 _).5 n oM);have kP:=low P oM;have d1:=(Xc (o:=1) kP).trans a1;have d0:=(Xc (o:=0) kP).trans a0;have dz:=λm=>(bJ (a:=(Hk P m)) kP).trans (az m);have lu:=(Xc (o:=o3+L) (low b3 oM)).trans gs;have ez:=ar;rw[<-jl.o]at ez;have i6:=Xa (show(Below f.1.size f (h.setCell (Hk P 1) (Hl u (s+1) F))/\P<(h.setCell (Hk P 1) (Hl u (s+1) F)).1.size)/\(h.setCell (Hk P 1) (Hl u (s+1) F)).cell? (Hk P 0)=some (Hp bh)/\(h.setCell (Hk P 1) (Hl u (s+1) F)).cell? (Hk P 1)=some (Hl u (s+1) F)/\(∀m,(h.setCell (Hk P 1) (Hl u (s+1) F)).frozen? (Hk P m)=false)/\(h.setCell (Hk P 1) (Hl u (s+1) F)).ownsRow (P+1) 2 1 (Hl u (s+1) F) (s+1) ((((a.drop 2).take (s+1)).map Gb).map (Value.int .i64))from⟨⟨(fi.trans ⟨Y.1.trans b5.1,Y.2.trans b5.2,Y.3.trans b5.3,oM,λn d=>low n oM⟩).setCell (by show f.1.size<=P;omega) _,by rw[Xd];omega⟩,(cJ<|by intro e;injection e with _ e;omega).trans d0,fQ _ _ _ d1,λm=>(eX _ _ _ _).trans (dz m),Zl ez λn e=>Below.heap_setCell _ _ _ _ (by have:=(ar.lt n e).1;show n≠P;omega)⟩);have lw:=dz 1;clear ar ez Y af bv low kP d0 dz;refine hK _ _ kP λhHeld=>?_;clear hK;refine Xn 9 ?_;refine Xs 10 λO hK=>?_;go_simp;refine hK _ _ kP λhHeld=>?_;clear hK;refine Yq ?_;go_wp2;exact⟨⟨L+1,s+1,_,_,oM,gM,Xa<|oN ee.o,i6⟩,by simp[intOf];omega⟩
         have ky:a.length=s+2:=oN ee.o;have en:Hs ((a.drop 2).map Gb=((a.drop 2).take s).map Gb):=Xa (by rw[aW<|by rw[mF];omega]);have g6:((a.drop 2).map Gb).length=s:=by rw[bK,mF];omega
         have ih:Hs (∀W,Below X.1.size X W->∀ap (i:ap<((a.drop 2).map Gb).length),∃n m,av=some (Hk n m)/\(f.1.size<=n/\n<W.1.size)/\W.cell? (Hk n<|m+ap)=some (Hp ((a.drop 2).map Gb)[ap])):=Xa (λW d ap i=>by
          have cg:=d.4;obtain⟨gg,lr,e,q1,q2⟩:=c8.form oM;obtain⟨rfl,-,rfl⟩:=Value.slice.inj e;refine⟨gg,0,rfl,oM,?_⟩;have kv:ap<((((a.drop 2).take s).map Gb).map (Value.int .i64)).length:=by rw[bK,<-en.o];exact i
          have hc:=pX c8 kv;rw[aV,d.cell (p:=Hk gg ap) q2,hc];congr 1;rw[cM];congr 1;exact(List.getElem_of_eq en i).symm)
         have i5:=Xa g6;have c4:=b6 X co;have j1:=c4.1;have gr:=c4.2;have li:=λa9=>oB (Xb (Below.refl X.1.size X) a9) gr oM;have fe:=λa9=>Xa<|Xb fi a9;have io:=λa9=>Xa<|Xb (Below.refl X.1.size X) a9;have ni:G≠P:=oM;have nk:P≠G:=oM;clear co c4 K fj en ky g6;generalize v.length=pl at*;go_wp2;refine Y7 (λw'=>w'.cell? (Hk j 1)=some (Hl G (b+1) H)/\w'.cell? (Hk P 0)=some (Hp bh)/\w'.cell? (Hk P 1)=some (.slice av s ac)) λhHeld=>?_;refine Xn 0 ?_;refine Xn 1 ?_;refine Xn 2 ?_;refine Xn 3 ?_;refine Xn 4 ?_;refine Xn 5 ?_;refine Xn 6 ?_;refine Xn 7 ?_;refine Xn 8 ?_;refine Xn 9 ?_;refine Xn 11 ?_;refine eS (rs:=[10,12]) vZ sP ?_;refine(bQ rfl (λO hK=>?_) (bQ rfl (λO hK=>?_) dY))
         focus
          go_simp;refine hK _ _ kP λhHeld=>?_;clear hK
          try simp only[xX]
         rotate_left
         all_goals
          try (refine eS (rs:=[12]) vZ sP ?_;refine bQ rfl (λO hK=>?_) dY)
          go_simp;refine hK _ _ kP λhHeld=>?_;clear hK
          try simp only[xX]
         rotate_left
         rotate_right
         focus
          refine Xs 10 λO hK=>?_;go_simp;refine hK _ _ kP λhHeld=>?_;clear hK
         all_goals
          refine Xs 13 λO hK=>?_;refine step_append_lies _ rfl (.tmp 174) (.tmp 176) 57 rfl cd 62 i0 (.agg #[Hp 0,Hq]) 2 32 underlying57 cp bx cr ct rfl vY (.slice pa pl pc) pl cs (by simp[Act.eval]) (a3 _ (fe _).drew) (Hk X.1.size 0) 1 1 [Hp bh,.slice av s ac] (by simp[Act.eval]) rfl (World.news_of_block<|oF _ _) (by intro eg hu;simp at hu;obtain rfl|rfl:=hu<;>rfl) vY (by unfold maxLen;omega) oM (by simp;omega) (X.1.size+1) sP ?_;intro u F h ar Y af bv;obtain⟨d1,d2,dz,a7⟩:=bl _ av ac _ _ _ (fe _).drew (ih _ (io _).drew) (by rw[i5.o];exact ar) Y (by rw[show ∀(gp:Ub),gp.drew.1.size=gp.1.size from λ_=>rfl,nj];exact af);have ch:=Y.4;simp at ch;have kP:=(Y.5 P (by simp;omega) λe=>by have:=((a3 f<|Below.refl _ _).lt P e.symm).2;omega).trans ((Xb (Below.refl X.1.size X) _).5 P es);have e0:=(Xc (o:=0) kP).trans a0;have e1:=(Xc (o:=1) kP).trans a1;have bp:=Xa a7;have lv:=dz<|b*6;clear ar Y af bv a7 kP dz;refine hK _ _ kP λhHeld=>?_;clear hK;refine Xn 14 ?_;refine Xn 15 ?_;refine Xs 16 λO hK=>?_;go_simp;refine hK _ _ kP λhHeld=>?_;clear hK;refine Yq ?_;go_wp2;exact⟨⟨l+1,_,_,_,_,oM,oM,gM,bp⟩,by simp[intOf];omega⟩
        have I:Hs (M=au 8 (l+1)):=Xa (a4.o 8<|by rw[a6.o,ad.o,show dh ⟨o,some (v,z)⟩ ab a=none by unfold dh;rw[aM hF];dsimp only;rw[aU bb,aM ea]]);have md:0<z.length:=by cases z with|nil=>exact absurd rfl ea|cons a9 s=>simp
        have mb:¬z.length=0:=oM;clear hF bb ea a6 ad bn a4 a5 bi;exact zPS10
       have wp:(ab==[112,104,105])=false:=by rw[iS];exact bb
       obtain⟨i,-⟩|⟨i,-⟩|⟨hend,hsh,-,-⟩|⟨hop,cq,hnend,-,-,hcn⟩:=bn.o;·exact absurd i hF
       .exact absurd i bb
       .have bm:Hs (bk ⟨o,some (v,z)⟩ b0=.ok ⟨o++[⟨v,z,Y4 a⟩],none⟩):=Xa (by rw[a6.o,ad.o,show dh ⟨o,some (v,z)⟩ ab a=some ⟨o++[⟨v,z,Y4 a⟩],none⟩ by unfold dh;rw[aM hF];dsimp only;rw[aM bb,aU hend]]);have jj:=λ(W:Ub)(i:Below f.1.size f W)=>Xa<|IU a (some ⟨b3,o3,none⟩) c2 wr.1.size w2.1.size W (Xa<|bq.keepS (YA.of_below<|i.mono oM)) (oN i.4) (by rw[fl.o];exact hsh)
        have b6:Hs (∀W,Below f.1.size f W->W.cell? (Hk j 1)=some (Hl G (b+1) H)/\(W.cell? (Hk G<|b*6+2)=some (Hp 0)/\W.cell? (Hk G<|b*6+2+1)=some (Hp 0)/\W.cell? (Hk G<|b*6+2+2)=some (Hp 0)/\W.cell? (Hk G<|b*6+2+3)=some (Hp 0))/\(∀m,W.frozen? (Hk G m)=false)/\fd w j V ls (some ⟨be,0,none⟩) (w.1.size+1) w1.1.size M (l+1) ⟨o++[⟨v,z,Y4 a⟩],none⟩ (some ⟨G,0,none⟩) (b+1) H ((((W.setCell (Hk G<|b*6+2) (Hp (Y4 a).1)).setCell (Hk G<|b*6+2+1) (Hp (Y4 a).a)).setCell (Hk G<|b*6+2+2) (Hp (Y4 a).3)).setCell (Hk G<|b*6+2+3) (Hp (Y4 a).4))):=Xa (λW d=>by
         have cg:=d.4;have R:=q.calm d;have kG:=d.5 G cn;have c1:=R.4;rw[bc,ao]at c1;have g2:=(bi.keep (w':=W) (λn _ N=>d.5 n N) cg).close (Y4 a) JP;rw[HM.o]at g2;have far:∀n,n≠G->((((W.setCell (Hk G<|b*6+2) (Hp (Y4 a).1)).setCell (Hk G<|b*6+2+1) (Hp (Y4 a).a)).setCell (Hk G<|b*6+2+2) (Hp (Y4 a).3)).setCell (Hk G<|b*6+2+3) (Hp (Y4 a).4)).1[n]?=W.1[n]?:=λn d=>by rw[Below.heap_setCell _ _ _ _ d,Below.heap_setCell _ _ _ _ d,Below.heap_setCell _ _ _ _ d,Below.heap_setCell _ _ _ _ d]
         have kF:=far j oM;refine⟨c1,⟨(Xc kG).trans t0,(Xc kG).trans t1,(Xc kG).trans t2,(Xc kG).trans t3⟩,λm=>(bJ kG).trans (cv m),a5 _ _ _ _ W _ R ⟨rfl,rfl,rfl,sP,λn d=>far n oM⟩ (by simp;omega) ((Xc kF).trans R.3) ((Xc kF).trans c1) (λm=>(bJ kF).trans (R.5 m)) ⟨by simp[HM.o],g2⟩ bm⟩)
        have h8:G≠j:=oM;have h9:j≠G:=oM;have hv:IntKind.i64.wrap ((b:Int)+1-1)=b:=by rw[dF];omega
        have hw:IntKind.i64.wrap (b:Int)=b:=by rw[dF];omega
        have hy:(b:Int)<(b:Int)+1:=oM;clear hF bb a6 ad bn a4 a5 bi bm q bq hsh S o0 o1 cv t1 t2 t3;generalize (Y4 a).1=tk at*;generalize (Y4 a).a=nl at*;generalize (Y4 a).3=nn at*;generalize (Y4 a).4=nm at*;go_wp2_with (go_at_call 29;refine(yO).mono ?_;rintro e U⟨rfl,Z⟩;rw[hend];have c4:=(b6 U Z).1;have b1:=Xa Z;have e6:=Z.4;clear Z)
        go_region_held3 (λw'=>w'.cell? (Hk j 1)=some (Hl G (b+1) H)) (go_keep) ((go_at_call 30;refine(jj _ b1.drew).mono ?_;rintro e w5⟨rfl,ca⟩;have cf:=Xg b1.drew ca;obtain⟨d1,⟨x0,x1,x2,x3⟩,xz,a7⟩:=b6 w5 cf;have bp:=Xa a7;clear ca cf a7))
        go_wp2;exact⟨⟨l+1,_,_,_,_,oM,oM,gM,bp⟩,by simp[intOf];omega⟩
       have bm:Hs (bk ⟨o,some (v,z)⟩ b0=.ok ⟨o,some (v,z++[T1 a])⟩):=Xa (by rw[a6.o,ad.o,show dh ⟨o,some (v,z)⟩ ab a=some ⟨o,some (v,z++[T1 a])⟩ by unfold dh;rw[aM hF];dsimp only;rw[aM bb,aM<|by rw[hnend];decide]]);have jf:=λ(W:Ub)(i:Below f.1.size f W)=>Xa<|IM o3 c2 wr.1.size W (Xa<|bq.keepS (YA.of_below<|i.mono oM)) kl (oN i.4) cb fl hop (Xa cq) (Xa hcn)
       obtain⟨H2,cs,⟨kc,gv⟩,g7,g5,al⟩:=bi.insRow;have a3:Hs (∀W,Below f.1.size f W->W.ownsRow H2 66 5 (.slice ia z.length ic) z.length cs):=Xa λW d=>Zl al λn e=>d.5 n (al.lt n e).2;have b6:Hs (∀W,Below f.1.size f W->W.cell? (Hk j 1)=some (Hl G (b+1) H)/\W.cell? (Hk G<|b*6+1)=some (.slice ia z.length ic)):=Xa λW d=>⟨oB d f1 oM,oB d o1 cn⟩;have bl:Hs (∀W u F h,Below f.1.size f W->h.ownsRow H2 66 5 (Hl u (z.length+1) F) (z.length+1) (cs++[Hp (T1 a).1,Hp (T1 a).2,Hp (T1 a).a,Hp (T1 a).b,Hp (T1 a).5])->W.grownBy h (Value.slice ia z.length ic).ownBlock->h.cell? (Hk j 1)=some (Hl G (b+1) H)/\h.cell? (Hk G<|b*6+1)=some (.slice ia z.length ic)/\(∀m,h.frozen? (Hk G m)=false)/\fd w j V ls (some ⟨be,0,none⟩) (w.1.size+1) w1.1.size M (l+1) ⟨o,some (v,z++[T1 a])⟩ (some ⟨G,0,none⟩) (b+1) H (h.setCell (Hk G<|b*6+1) (Hl u (z.length+1) F))):=Xa (λW u F h d ho Q=>by
        have cg:=d.4;have ch:=Q.4;have R:=q.calm d;have bt:=a3 W d;have aa:=bi.keep (w':=W) (λn _ N=>d.5 n N) cg;have dd:=aa.ins ⟨kc,oM⟩ (g7.keepS<|YA.of_below (d.mono gv)) (g5.keep λn _ N=>d.5 n N) bt (T1 a) ho Q;rw[HM.o]at dd;have low:∀n,n<H2->h.1[n]?=W.1[n]?:=λn h1=>Q.5 n oM (λe=>by have:=(bt.lt n e.symm).1;omega);have kG:=(low G oM).trans (d.5 G cn);have kF:=low j oM;have c1:=R.4;rw[bc,ao]at c1;have far:∀n,n≠G->(h.setCell (Hk G<|b*6+1) (Hl u (z.length+1) F)).1[n]?=h.1[n]?:=λn d=>Below.heap_setCell _ _ _ _ d
        have cj:=(far j oM).trans kF;refine⟨(Xc kF).trans c1,(Xc kG).trans o1,λm=>(bJ kG).trans (cv m),a5 _ _ _ _ W _ R ⟨Q.1,Q.2,Q.3,by rw[Xd];exact Q.4,λn d=>(far n oM).trans (low n oM)⟩ (by rw[Xd];omega) ((Xc cj).trans R.3) ((Xc cj).trans c1) (λm=>(bJ cj).trans (R.5 m)) ⟨_,_,_,_,_,_,rfl,by show b+1=o.length+1;rw[HM.o],dd⟩ bm⟩)
       have fx:Hs (z.length<=100000):=Xa<|oN fz.o;have mc:=fx.o;have h8:G≠j:=oM;have h9:j≠G:=oM;have hv:IntKind.i64.wrap ((b:Int)+1-1)=b:=by rw[dF];omega
       have hw:IntKind.i64.wrap (b:Int)=b:=by rw[dF];omega
       have hy:(b:Int)<(b:Int)+1:=oM;obtain⟨i0,cp,bx,cr,ct⟩:=fX RB;have lg:H2<=f.1.size:=gv;clear hF bb a6 ad bn a4 a5 bi bm q bq S o0 o1 cv t1 t2 t3 g7 g5 al hop cq hcn fx;generalize (T1 a).1=xo at*;generalize (T1 a).2=xd at*;generalize (T1 a).a=xa at*;generalize (T1 a).b=xb at*;generalize (T1 a).5=xm at*;generalize z.length=il at*;go_wp2_with (go_at_call 29;refine(yO).mono ?_;rintro e U⟨rfl,Z⟩;rw[hnend];have c4:=b6 U Z;have j1:=c4.1;have gr:=c4.2;have b1:=Xa Z;have e6:=Z.4;clear Z c4)
       refine Y7 (λw'=>w'.cell? (Hk j 1)=some (Hl G (b+1) H)) λhHeld=>?_;refine Xn 0 ?_;refine Xn 1 ?_;refine Xn 2 ?_;refine Xn 3 ?_;refine Xn 4 ?_;refine Xn 5 ?_;refine Xn 6 ?_;refine Xn 7 ?_;refine Xn 8 ?_;refine Xn 9 ?_;refine Xn 11 ?_;refine eS (rs:=[10,12]) vZ sP ?_;refine(bQ rfl (λO hK=>?_) (bQ rfl (λO hK=>?_) dY))
       focus
        go_simp;refine hK _ _ kP λhHeld=>?_;clear hK
        try simp only[xX]
       rotate_left
       all_goals
        try (refine eS (rs:=[12]) vZ sP ?_;refine bQ rfl (λO hK=>?_) dY)
        go_simp;refine(jf _ b1.drew).mono ?_;rintro e w5⟨rfl,ca⟩;have cf:=Xg b1.drew ca;have c5:=b6 w5 cf;have lk:=c5.1;have j2:=c5.2;have k2:=cf.4;have b5:=Xa cf;have lo:=λa9=>oB (Xb (Below.refl w5.1.size w5) a9) j2 oM;clear ca cf c5;go_wp2_with fail
        refine hK _ _ kP λhHeld=>?_;clear hK
        try simp only[xX]
       rotate_left
       rotate_right
       refine eS (rs:=[10,13]) vZ sP ?_;refine(bQ rfl (λO hK=>?_) (bQ rfl (λO hK=>?_) dY))
       focus
        go_simp;refine hK _ _ kP λhHeld=>?_;clear hK
        try simp only[xX]
       rotate_left
       all_goals
        try (refine eS (rs:=[13]) vZ sP ?_;refine bQ rfl (λO hK=>?_) dY)
        go_simp;refine hK _ _ kP λhHeld=>?_;clear hK
        try simp only[xX]
       rotate_left
       rotate_right
       focus
        refine Xs 10 λO hK=>?_;go_simp;refine hK _ _ kP λhHeld=>?_;clear hK
       all_goals
        refine Xs 14 λO hK=>?_;refine step_append_lies _ rfl (.tmp 202) (.tmp 205) 58 rfl H2 66 i0 (.agg #[Hp 0,Hp 0,Hp 0,Hp 0,Hp 0]) 5 40 underlying58 cp bx cr ct rfl vY (.slice ia il ic) il cs (by simp[Act.eval]) (a3 _<|Xb b5 _) (Hk w5.1.size 0) 1 1 [Hp xo,Hp xd,Hp xa,Hp xb,Hp xm] (by simp[Act.eval]) rfl (World.news_of_block<|oF _ _) (by intro eg hu;simp at hu;obtain rfl|rfl|rfl|rfl|rfl:=hu<;>rfl) vY (by unfold maxLen;omega) oM (by simp;omega) (w5.1.size+1) sP ?_;intro u F h ar Y af bv;obtain⟨d1,d2,dz,a7⟩:=bl _ _ _ _ (Xb b5 _) ar Y;have bp:=Xa a7;clear ar Y af bv a7;refine hK _ _ kP λhHeld=>?_;clear hK;refine Xn 15 ?_;refine Xn 16 ?_;refine Xs 17 λO hK=>?_;go_simp;refine hK _ _ kP λhHeld=>?_;clear hK;refine Yq ?_;go_wp2;exact⟨⟨l+1,_,_,_,_,oM,oM,gM,bp⟩,by simp[intOf];omega⟩
     have I:Hs (M=au (C0 a) (l+1)):=Xa (a4.o _<|by rw[cl.o,aM ed,aU hc]);have et:(C0 a != 0)=true:=by rw[jJ];exact hc
     clear cl a4 a5 hc ed bx;generalize C0 a=cc at*;go_wp2_with (go_at_call 24;refine(Y2).mono ?_;rintro e wx⟨rfl,p⟩;have r:=q.calm p;obtain⟨⟨A,C,D,E⟩,rz⟩:=r.2;have K:=Xa r;clear p r)
     exact cC (v:=.agg #[Hp cc,Hp<|(l:Int)+1,Hp 0,Hq]) (by simp[results,results12,go_sem,A,C,D,E]) rfl ⟨_,rfl,Y1 K.1<|aA,by rw[I.o];exact gm oM⟩
    have kw:l=ls.length:=oM;have q:=hinv;rw[kw]at q;have cm:=Xa (show mi ls.length V (.ok aq)=M by have i:=q.10;rw[List.drop_length]at i;exact i);have f1:=q.4;have f0:=q.3;have ef:=q.9;have ev:=oJ ls ls.length;have eu:=eo.o;have js:Hs (TT aq<=100000):=Xa oM;clear ef ev eu;obtain⟨o,eq⟩:=aq;cases eq with
    |some pi=>
     obtain⟨v,z⟩:=pi;obtain⟨cd,G,pa,pc,ia,ic,ao,S,aa⟩:=q.7;dsimp only at S aa;obtain⟨t0,t1,t2,t3⟩:=aa.6;obtain⟨⟨k8,la⟩,lb,hz⟩:=aa.3;have cn:G<wr.1.size:=oM;clear aa;rw[S]at ht;generalize hm:o.length=b at*;clear hm;rw[S,ao]at f1;have I:Hs (M=au 8 ls.length):=Xa cm.symm;clear hinv cm;go_wp2_with (go_at_call 24;refine(Y2).mono ?_;rintro e wx⟨rfl,p⟩;have r:=q.calm p;obtain⟨⟨A,C,D,E⟩,rz⟩:=r.2;have K:=Xa r;clear p r)
     exact cC (v:=.agg #[Hp 8,Hp (ls.length:Int),Hp 0,Hq]) (by simp[results,results12,go_sem,A,C,D,E]) rfl ⟨_,rfl,Y1 K.1<|aA,by rw[I.o];exact gm oM⟩
    |none=>
     obtain⟨S,dc⟩:=q.7;have bd:=Xa dc;dsimp only at S;clear dc;have di:J=0\/∃b G kd,J=b+1/\b<=100000/\va=some (Hk G 0)/\wr.cell? (Hk G<|b*6+2)=some (Hp kd)/\(kd==0)=false/\G<wr.1.size:=by
      exact zPS13
     have b7:=Xa (Tr V va J H o (j+1) wr.1.size wr (Xa bd.blks) (Xa S) (Xa (by have:=js.o;simp only[TT]at this;omega)) aA);have dk:Hs (∀wx,Below wr.1.size wr wx->fd w j V ls (some ⟨be,0,none⟩) (w.1.size+1) w1.1.size M ls.length ⟨o,none⟩ va J H wx/\∀v0 v1 v2 v3,Xp (kj wx w.1.size v0 v1 v2 v3) w.1.size (kj wx w.1.size v0 v1 v2 v3).1.size va o):=Xa (λwx d=>by
      have R:=q.calm d;refine⟨R,λv0 v1 v2 v3=>?_⟩;have cg:=d.4;exact((bd.blks.keep d).keepS (w':=kj wx w.1.size v0 v1 v2 v3) λL h1 N=>LL oM v0 v1 v2 v3).mono oM (by rw[Lr];omega))
     cases hvd:iu ⟨V,o⟩
     .have I:Hs (M=au 9 0):=Xa (by rw[<-cm.o];show(if iu ⟨V,o⟩=true then _ else _)=_;rw[hvd];rfl);clear hinv cm bd;obtain bo|⟨b,G,kd,bc,hm,ao,t0,ci,hG⟩:=di
      .rw[bo]at f1 b7;exact zPS11
      rw[bc,ao]at f1 b7;exact zPS11
     have I:Hs (M=⟨0,0,⟨V,o⟩⟩):=Xa (by rw[<-cm.o];show(if iu ⟨V,o⟩=true then _ else _)=_;rw[hvd];rfl);clear hinv cm bd;obtain bo|⟨b,G,kd,bc,hm,ao,t0,ci,hG⟩:=di
     .rw[bo]at f1 b7;have cq:o.length=0:=oM;go_wp2_with (go_at_call 32;refine b7.mono ?_;rintro e w6⟨rfl,bf⟩;rw[hvd];have x:=dk w6 bf;have ce:=Xa x.1;have cx:=Xa x.2;have g1:=x.1.4;have g0:=x.1.3;obtain⟨⟨A,C,D,E⟩,rz⟩:=x.1.2;rw[bo]at g1;clear bf x)
      exact cC (v:=.agg #[Hp 0,Hp 0,Hp V,.slice va 0 H]) (by simp[results,results12,go_sem,A,C,D,E]) rfl ⟨_,rfl,Y1 ce.1<|aA,by rw[I.o];exact⟨va,H,by show _=Value.agg #[_,_,_,.slice _ o.length _];rw[cq];rfl,cx _ _ _ _⟩⟩
     rw[bc,ao]at f1 b7;have cq:o.length=b+1:=oM;go_wp2_with (go_at_call 32;refine b7.mono ?_;rintro e w6⟨rfl,bf⟩;rw[hvd];have x:=dk w6 bf;have ce:=Xa x.1;have cx:=Xa x.2;have g1:=x.1.4;have g0:=x.1.3;obtain⟨⟨A,C,D,E⟩,rz⟩:=x.1.2;rw[bc,ao]at g1;clear bf x)
     exact cC (v:=.agg #[Hp 0,Hp 0,Hp V,Hl G (b+1) H]) (by simp[results,results12,go_sem,A,C,D,E]) rfl ⟨_,rfl,Y1 ce.1<|aA,by rw[I.o];exact⟨(some ⟨G,0,none⟩),H,by show _=Value.agg #[_,_,_,.slice _ o.length _];rw[cq];rfl,by have i:=cx (Hp 0) (Hp 0) (Hp V) (Hl G (b+1) H);rw[ao]at i;exact i⟩⟩
   have kt:Gb f1<0:=oM;have I:Hs (M=au 3 1):=Xa (by rw[c9.o,dl.o,c7.o,aM λL=>R L.2.2];rfl);clear R;generalize Gb f1=V at*;go_wp2_with (first|(go_at_call 27;refine(K _).mono ?_;rintro e f⟨rfl,aj⟩;have g9:=aj.4;have cz:=Xa<|Xg cw aj;have db:=Xa<|da.keep (aj.5 w.1.size oM);clear aj)|(go_at_call 24;refine(Y2).mono ?_;rintro e wx⟨rfl,p⟩;obtain⟨⟨A,C,D,E⟩,rz⟩:=(db).keep (p.5 _ oM);have c6:=Xa<|Xg cz p;clear p))
   exact cC (v:=.agg #[Hp 3,Hp 1,Hp 0,Hq]) (by simp[results,results12,go_sem,A,C,D,E]) rfl ⟨_,rfl,Y1 c6<|aA,by rw[I.o];exact gm rfl⟩
  have fb:(f0==[102,117,110,99])=false:=by rw[iS];exact hf
  have fn:(f0 != [102,117,110,99])=true:=by rw[jJ];exact hf
  have I:Hs (M=au 3 1):=Xa (by rw[c9.o,dl.o,c7.o,aM λL=>hf L.2.1];rfl);clear hf;have cz:=cw;have db:=da;exact zPS14
 have I:Hs (M=au 3 1):=Xa (by rw[c9.o,dl.o,c7.o,aM λL=>N L.1];rfl);have lx:((hs.length:Int) != 2)=true:=by rw[jJ];omega
 have cz:=cw;have db:=da;clear N;exact zPS14
end Go.Proofs.YtcfdhbigppockaaGreatDoor
