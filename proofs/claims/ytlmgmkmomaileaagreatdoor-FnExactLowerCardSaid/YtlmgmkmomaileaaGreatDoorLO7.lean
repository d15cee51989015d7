import Derived.Test.YtlmgmkmomaileaaGreatDoorLO4
namespace Go.Proofs.YtlmgmkmomaileaaGreatDoor
set_option maxRecDepth 100000
set_option maxHeartbeats 8000000
open Go.RowKit
theorem Vc(b:Int):∀(xs:List Xh)(i k:Nat)(h:k<xs.length),b∈xs[k].term.targets->((i+k:Nat):Int)∈predsFrom xs i b
 | [],_,_,h,_=>absurd h sP
 | x::xs,i,k,h,hb=>by
  rw[predsFrom,List.mem_append];cases k with
  | zero=>left;simp only[List.getElem_cons_zero]at hb;simp[hb]
  | succ k =>
   right;have:=Vc b xs (i+1) k (by simpa using h) (by simpa using hb);rwa[show i+1+k=i+(k+1) by omega]at this
theorem UN(xs:List Mv):(JA xs).length<=128:=by
 by_cases hg:Yy xs=true
 ·obtain⟨h64,hgood⟩:=TQ hg
  unfold JA;rw[if_pos hg];refine Nat.le_trans (JF _ _) ?_;have:(startM xs).length<=xs.length:=List.length_filter_le _ _;omega
 ·unfold JA
  rw[if_neg hg];exact Nat.zero_le _
structure XO where
 b:Nat
 sv:Value
 tl:List Value
theorem ZkJ(tl:List Value)(h:tl.length=157):∃a b':Value,∃tl',tl=a::b' :: tl'/\tl'.length=155:=by
 match tl,h with
 | a::b::tl,h=>exact⟨a,b,tl,rfl,by simpa using h⟩
structure LwB(w:World)(V:Nat)(gb ob n:Nat)(xs:List Xh)(L B:Nat)(b:Nat)(X:Xh)(ia:Option Addr)(ic:Nat):Prop where
 kw:∀W,Below w.heap.size w W->(W.cell? ⟨gb,ob+b*6+1,none⟩=some (.slice ia X.instrs.length ic)/\X0 W L B ia X.instrs)/\W.cell? ⟨gb,ob+b*6+2,none⟩=some (.int .i64 X.term.kind)/\W.cell? ⟨gb,ob+b*6+2+1,none⟩=some (.int .i64 X.term.a)/\W.cell? ⟨gb,ob+b*6+2+2,none⟩=some (.int .i64 X.term.to)/\W.cell? ⟨gb,ob+b*6+2+3,none⟩=some (.int .i64 X.term.els)
 oi:∀y∈X.instrs,(∀v∈rdI y,0<=v/\v<V)/\(∀v∈writesI y,0<=v/\v<V)
 ln:X.phis.length<=1048576/\X.instrs.length<=1048576
 kd:1<=X.term.kind/\X.term.kind<=3
 rt:∀v∈rdT X.term,0<=v/\v<V
 pr:∀t:Int,t∈X.term.targets->(0<=t/\t<xs.length)/\(b:Int)∈predsFrom xs 0 t
theorem Zkp{w:World}{V:Nat}{a:Option Addr}{n:Nat}{xs:List Xh}{L B b:Nat}(ha:Xk w L B a xs)(hB:B<=w.heap.size)(ho:Jd V xs)(hln:∀x∈xs,x.phis.length<=1048576/\x.instrs.length<=1048576)(hbx:b<xs.length):∃gb ob ia ic,a=some ⟨gb,ob,none⟩/\gb<w.heap.size/\LwB w V gb ob n xs L B b xs[b] ia ic:=by
 obtain⟨gb,ob,rfl,⟨_,hbB⟩,hcb⟩:=ha b hbx;obtain⟨pa,pc,ia,ic,_,e1,⟨e2,e3,e4,e5⟩,_,hin⟩:=hcb;refine⟨gb,ob,ia,ic,rfl,oM,fun W hW=>?_,fun y hy=>⟨ho.rdi _ (List.getElem_mem hbx) y hy,ho.wri _ (List.getElem_mem hbx) y hy⟩,hln _ (List.getElem_mem hbx),ho.kind _ (List.getElem_mem hbx),ho.rdt _ (List.getElem_mem hbx),fun t ht=>⟨ho.okf.tgt _ (List.getElem_mem hbx) t ht,by have:=Vc t xs 0 b hbx ht;simpa using this⟩⟩;have cc:=fun o=>hW.cell (p:=⟨gb,o,none⟩) (show gb<w.heap.size by omega)
 exact⟨⟨(cc _).trans e1,hin.keep (hW.mono hB)⟩,(cc _).trans e2,(cc _).trans e3,(cc _).trans e4,(cc _).trans e5⟩
theorem loO{Q:Exit->Act->World->Prop}(V:Nat)(a:Option Addr)(n c:Nat)(xs:List Xh)(L B:Nat)(ac:Option Addr)(nc cc:Nat)(cs:List Int)(Lc Bc:Nat)(k:Int)(w:World)(mb:Nat)(c0 c2 c4 c5 c6:Value)
 (hQ:Hid (∀c (a:Act) t v w,Q (.panic c) (a.put (some t) v) w->Q (.panic c) a w)) (ha:Hid (Xk w L B a xs)) (hx:Hid (n=xs.length)) (hB:B<=w.heap.size) (ho:Hid (Jd V xs)) (hln:Hid (∀x∈xs,x.phis.length<=1048576/\x.instrs.length<=1048576)) (hc:Hid (Xf w Lc Bc ac cs)) (hcx:Hid (nc=cs.length)) (hcV:Hid (nc=V)) (hBc:Bc<=w.heap.size)
 (hexit:∀(sv:Value)(tl:List Value)(w':World),tl.length=157->Hid (LwH w w' (V:Int) a n c k mb sv (Xm cs xs n).1 (Xm cs xs n).2)->Q (.exit 0) ⟨(c0::.slice ac nc cc::c2::.pointer (some ⟨w.heap.size,0,none⟩)::c4::c5::c6::.pointer (some ⟨mb,0,none⟩)::.int .i64 (n:Int)::sv::.int .i64 ((n:Nat):Int)::tl).toArray,[]⟩ w')
 (sv:Value) (tl:List Value) (wr:World) (hl:tl.length=157) (h:Hid (LwH w wr (V:Int) a n c k mb sv (Xm cs xs 0).1 (Xm cs xs 0).2)) :
 Code.wp Tryz.prog (Code.loop Zlc) Q ⟨(c0::.slice ac nc cc::c2::.pointer (some ⟨w.heap.size,0,none⟩)::c4::c5::c6::.pointer (some ⟨mb,0,none⟩)::.int .i64 (n:Int)::sv::.int .i64 ((0:Nat):Int)::tl).toArray,[]⟩ wr:=by
 have HX:=Xa hexit;clear hexit;have hn1:n<=1000:=by have:=hx.out;have:=ho.okf.n2;omega
 obtain⟨i0,hi0,hz0,hz1,hz2⟩:=info_parts Tryz.infoLI;obtain⟨j0,hj0,hy0,hy1,hy2⟩:=info_parts Tryz.infoLM;refine wp_loop (fun a' wr=>∃x:XO,a'=⟨(c0::.slice ac nc cc::c2::.pointer (some ⟨w.heap.size,0,none⟩)::c4::c5::c6::.pointer (some ⟨mb,0,none⟩)::.int .i64 (n:Int)::x.sv::.int .i64 ((x.b:Nat):Int)::x.tl).toArray,[]⟩/\x.tl.length=157/\x.b<=n/\Hid (LwH w wr (V:Int) a n c k mb x.sv (Xm cs xs x.b).1 (Xm cs xs x.b).2)) (fun a' _=>n-(intOf (a'.tmps.getD 10 undef)).toNat) ⟨⟨0,sv,tl⟩,rfl,hl,Nat.zero_le _,h⟩ ?_;clear h hl;rintro a' wr ⟨⟨b,sv,tl⟩,rfl,hl,hbn,HH⟩;dsimp only at hl hbn HH |-
 conv=>arg 2;whnf
 obtain⟨c11,c12,tl9,rfl,hl9⟩:=ZkJ tl hl;obtain⟨f,rfl⟩:=ZiB tl9 hl9;clear hl hl9;by_cases hlt:b<n
 ·have hbx:b<xs.length:=by have:=hx.out;omega
  have hltI:(b:Int)<(n:Int):=oM;have hb0:(0:Int)<=(b:Int):=oM;obtain⟨gb,ob,ia,ic,rfl,hgw,hLB⟩:=Zkp (n:=n) ha.out hB ho.out hln.out hbx;have HLB:=Xa hLB;have HSU:=Xa (JU cs xs b hbx);have HML:=Xa (Jk cs xs b (Nat.le_of_lt hbx));have HSL:=Xa (JR cs xs b (Nat.le_of_lt hbx));obtain⟨lab,mv,iv,jv,hS,hsv⟩:=HH.out;have HSV:=Xa hsv;have HS:=Xa hS;clear hS hsv HH hLB;generalize xs[b]=X at *;obtain⟨ps,ys,tt⟩:=X;obtain⟨⟨k1,_⟩,k2,k3,k4,k5⟩:=HLB.kw wr HS.low;dsimp only at k1 k2 k3 k4 k5;have f1:wr.cell? ⟨w.heap.size,1,none⟩=some (.slice (some ⟨gb,ob,none⟩) n c):=Bx.cell HS.fb rfl;have hwz:w.heap.size<wr.heap.size:=HS.fb.lt;have hgr:gb<wr.heap.size:=oM;go_wp2;have HX0:Hid (LwQ w (wr.alloc (.cells #[.slice none 0 0,.int .i64 tt.kind,.int .i64 tt.a,.int .i64 tt.to,.int .i64 tt.els] 52)) (V:Int) (some ⟨gb,ob,none⟩) n c k mb mv sv (Xm cs xs b).1 (Xm cs xs b).2 iv jv wr.heap.size ((ys.map (YC cs)).take 0) tt):=Xa ⟨lab,.slice none 0 0,HS.calm (Xb (Below.refl _ _) _),Bx.new _ _ _,HS.low.size,HS.fr _ (Nat.le_refl _),⟨World.ownsRow_nil _ _ _ _,fun b e=>by cases e⟩⟩;generalize wr.alloc (.cells #[.slice none 0 0,.int .i64 tt.kind,.int .i64 tt.a,.int .i64 tt.to,.int .i64 tt.els] 52)=wx at *;clear k1 k2 k3 k4 k5 f1 hgr HS;generalize wr.heap.size=xb at *;refine loI V gb ob n c L B ac nc cc cs Lc Bc k w b mb mv sv (Xm cs xs b).1 (Xm cs xs b).2 iv jv xb ys tt ia ic _ _ _ _ _ _ _ _ (by exact Xa (fun _ _ _ _ _ h=>hQ.out _ _ _ _ _ h)) hB hc hcx hcV hBc hlt (Xa (fun W hW=>(HLB.kw W hW).1)) (Xa HLB.oi) HLB.ln.2 ?_ _ _ (by rfl) HX0;intro tl9 w9 hl9 HQ1;obtain⟨f,rfl⟩:=ZiB tl9 hl9;rw[List.take_of_length_le sP]at HQ1;clear hl9 HX0;have z1:w9.cell? ⟨xb,1,none⟩=some (.int .i64 tt.kind):=by obtain⟨lab,xv,hX⟩:=HQ1.out;exact Bx.cell hX.bx rfl
  go_upto_if 76 with fail
  clear z1
  go_cut [] from 14 to 167 (fun wx=>Hid (LwQ w wx (V:Int) (some ⟨gb,ob,none⟩) n c k mb mv sv (Xm cs xs b).1 (Xm cs xs b).2 iv jv xb (ys.map (YC cs)) (Ka cs tt)))
  case first =>
   by_cases h1:tt.kind=1
   ·have hk1:(tt.kind != 1)=false:=by simpa using h1
    have HE:Hid (Ka cs tt=tt):=Xa (by unfold Ka;rw[if_pos h1]);clear h1;go_wp2;go_meet;rw[HE.out];exact HQ1
   ·have hk1:(tt.kind != 1)=true:=by simpa using h1
    obtain⟨lab,xv,hX⟩:=HQ1.out;have hra:=HLB.rt tt.a (by unfold rdT;simp[h1]);obtain⟨bb,o,q,hv,hq,rfl,hbb,hcc⟩:=Ja (hc.keep (hX.s.low.mono hBc)) hra.1 (by have:=hcx.out;have:=hcV.out;omega);have hqI:(q:Int)<(nc:Int):=by have:=hcx.out;omega
    have hq0:(0:Int)<=(q:Int):=oM;have y2:w9.cell? ⟨xb,2,none⟩=some (.int .i64 (q:Int)):=by rw[<-hv];exact Bx.cell hX.bx rfl
    have yz:=Bx.thaw hX.bx;have HE:Hid (LwQ w (w9.setCell ⟨xb,2,none⟩ (.int .i64 (lcN cs tt.a))) (V:Int) (some ⟨gb,ob,none⟩) n c k mb mv sv (Xm cs xs b).1 (Xm cs xs b).2 iv jv xb (ys.map (YC cs)) (Ka cs tt)):=Xa ⟨lab,xv,hX.term 2 (lcN cs tt.a) (by unfold Ka;rw[if_neg h1];rfl)⟩;have HV:=Xa hv;clear hX hv h1 HQ1;generalize lcN cs tt.a=za at *;go_wp2;go_meet;exact HE
  case rest =>
   have HQ2:=hcut;clear hcut HQ1;generalize wc=w9 at *;have HTK:Hid ((Ka cs tt).kind=tt.kind/\(Ka cs tt).to=tt.to/\(Ka cs tt).els=tt.els):=Xa ⟨rfl,rfl,rfl⟩;have z1:w9.cell? ⟨xb,1,none⟩=some (.int .i64 tt.kind):=by obtain⟨lab,xv,hX⟩:=HQ2.out;rw[<-HTK.1];exact Bx.cell hX.bx rfl
   go_upto_if 88 with fail
   clear z1
   go_cut [] from 14 to 167 (fun wx=>Hid (LwQ w wx (V:Int) (some ⟨gb,ob,none⟩) n c k mb mv sv (Xm cs xs b).1 (Xm cs xs b).2 iv jv xb (ys.map (YC cs)++(if tt.kind=1 then Kb cs xs b tt.to else [])) (Ka cs tt)))
   case first =>
    by_cases h1:tt.kind=1
    ·have hk1:(tt.kind==1)=true:=by simpa using h1
     simp only[hk1];obtain⟨tq,htq⟩:∃tq:Nat,tt.to=(tq:Int):=⟨tt.to.toNat,by have:=(HLB.pr tt.to (by simp[Zu.targets,h1])).1;omega⟩;have hpr:=HLB.pr tt.to (by simp[Zu.targets,h1]);rw[htq]at hpr;have HIF:Hid ((if tt.kind=1 then Kb cs xs b tt.to else [])=Kb cs xs b (tq:Int)):=Xa (by rw[if_pos h1,htq]);have HPR:=Xa hpr.2;have htn:tq<n:=by have:=hx.out;have:=hpr.1;omega
     obtain⟨lab,xv,hX⟩:=HQ2.out;obtain⟨xa,xc,hxv⟩:=hX.row.form;rw[List.length_map]at hxv;subst hxv;have HX2:=Xa hX;have HSC:Hid (∀W xv',Bx W w.heap.size #[.int .i64 (V:Int),.slice (some ⟨gb,ob,none⟩) n c] 33->Bx W xb #[xv',.int .i64 (Ka cs tt).kind,.int .i64 (Ka cs tt).a,.int .i64 (Ka cs tt).to,.int .i64 (Ka cs tt).els] 52->W.cell? ⟨w.heap.size,0,none⟩=some (.int .i64 (V:Int))/\W.cell? ⟨w.heap.size,1,none⟩=some (.slice (some ⟨gb,ob,none⟩) n c)/\W.cell? ⟨xb,3,none⟩=some (.int .i64 (tq:Int))):=Xa (fun W xv' hF hXb=>⟨Bx.cell hF rfl,Bx.cell hF rfl,by rw[<-htq,<-HTK.2.1];exact Bx.cell hXb rfl⟩);obtain⟨y0,y1,y3⟩:=HSC.out _ _ hX.s.fb hX.bx;have x0:w9.cell? ⟨xb,0,none⟩=some (.slice xa ys.length xc):=Bx.cell hX.bx rfl;have HED:=Xa (fun W (hb:Below w.heap.size w W)=>TR V (some ⟨gb,ob,none⟩) n c xs L B ac nc cc cs Lc Bc b tq W (Xa (ha.keep (hb.mono hB))) hx (by have:=hb.size;omega) ho (Xa (fun x hx=>(hln.out x hx).1)) (Xa (hc.keep (hb.mono hBc))) hcx hcV (by have:=hb.size;omega) htn HPR);have HXD:=Xa (HX2.calm (Below.refl w9.heap.size w9).drew);clear hX htq h1 hpr HQ2;obtain⟨CP,hCP⟩:∃CP,CP=Kb cs xs b (tq:Int):=⟨_,rfl⟩;obtain⟨cl,hcl⟩:∃cl,cl=CP.length:=⟨_,rfl⟩;have hcl1:cl<=128:=by rw[hcl,hCP];exact UN _
     rw[<-hCP,<-hcl]at HED;rw[<-hCP]at HIF;have HCL:=Xa hcl;have hyl:=HLB.ln.2;dsimp only at hyl;clear hCP hcl;go_wp2;refine Z1 (fun w'=>w'.cell? ⟨w.heap.size,0,none⟩=some (.int .i64 (V:Int))/\w'.cell? ⟨w.heap.size,1,none⟩=some (.slice (some ⟨gb,ob,none⟩) n c)/\w'.cell? ⟨xb,3,none⟩=some (.int .i64 (tq:Int))) (fun hHeld=>?_);refine KC 0 ?_;refine KC 2 ?_;refine KC 3 ?_;refine KC 4 ?_;refine KC 5 ?_;refine KC 6 ?_;refine KC 7 ?_;refine wpAnyH_ready (rs:=[1,8]) vZ sP ?_;refine(AllReadyH.cons rfl (fun K hK=>?_) (AllReadyH.cons rfl (fun K hK=>?_) AllReadyH.nil))
     focus
      go_simp;refine hK _ _ kP (fun hHeld=>?_);clear hK
      try simp only[Act.put,xA,xB,xC,xD,xE,xF]
      refine Xt 8 (fun K hK=>?_);go_simp
      go_at_call 19
      refine(HED.out _ HXD.s.low).mono ?_;rintro e w5 ⟨v5,rfl,hv5,hb5,ho5⟩;have HX5:=Xa (HXD.calm hb5);have s5:=HSC.out _ _ HX5.s.fb HX5.bx;have x5:w5.cell? ⟨xb,0,none⟩=some (.slice xa ys.length xc):=Bx.cell HX5.bx rfl;obtain⟨g5,c5',rfl⟩:∃g5 c5',v5=.slice (some ⟨g5,0,none⟩) cl c5':=by
       rcases XU ho5 with⟨e,_,_⟩ | ⟨g5,c5',e,_⟩
       ·exact absurd e hv5
       ·exact⟨g5,c5',e⟩
      have HO5:=Xa ho5;clear hb5 ho5 hv5;dsimp only;refine hK _ _ s5 (fun hHeld=>?_);clear hK
     rotate_left
     focus
      go_simp
      go_at_call 19
      refine(HED.out _ HXD.s.low).mono ?_;rintro e w5 ⟨v5,rfl,hv5,hb5,ho5⟩;have HX5:=Xa (HXD.calm hb5);have s5:=HSC.out _ _ HX5.s.fb HX5.bx;have x5:w5.cell? ⟨xb,0,none⟩=some (.slice xa ys.length xc):=Bx.cell HX5.bx rfl;obtain⟨g5,c5',rfl⟩:∃g5 c5',v5=.slice (some ⟨g5,0,none⟩) cl c5':=by
       rcases XU ho5 with⟨e,_,_⟩ | ⟨g5,c5',e,_⟩
       ·exact absurd e hv5
       ·exact⟨g5,c5',e⟩
      have HO5:=Xa ho5;clear hb5 ho5 hv5;dsimp only;refine hK _ _ s5 (fun hHeld=>?_);clear hK
      try simp only[Act.put,xA,xB,xC,xD,xE,xF]
      refine Xt 1 (fun K hK=>?_);go_simp;refine hK _ _ kP (fun hHeld=>?_);clear hK
     all_goals (
      refine Xt 9 (fun K hK=>?_);refine Yf rfl _ _ 46 rfl w.heap.size 54 i0 (.agg #[.int .i64 0,.int .i64 0,.int .i64 0,.int .i64 0,.int .i64 0]) 5 40 Tryz.underlying46 hi0 hz0 hz1 hz2 rfl dC (.slice xa ys.length xc) ys.length (Y1 (ys.map (YC cs))) rfl ?s1 ⟨g5,0,none⟩ cl c5' (Y1 CP) rfl ?s0 ?s2 ?s3 ?s4 ?s5 ?s6 ?_
      case s1=>have:=HX5.row.own;rw[List.length_map]at this;exact this
      case s0=>rw[YT,HCL.out]
      case s2 =>
       intro j u hu;have:=XZ HO5.out hu;cases j with
       | zero=>simpa [Addr.add]using this
       | succ j=>simpa [Addr.add]using this
      case s3=>exact ZJ _
      case s4=>unfold maxLen;omega
      case s5=>omega
      case s6=>exact HX5.s.low.size
      intro v8 w8 hown8 hg8 hne8 hat8;obtain⟨lab8,hX8,hx8,hS8⟩:=HX5.push CP hg8 (by rw[List.length_map,<-HCL.out];exact hown8) hat8;obtain⟨a8,c8,rfl⟩:∃a8 c8,v8=.slice a8 (ys.length+cl) c8:=by
       rcases XU hown8 with⟨e,h,_⟩ | ⟨g,c,e,_⟩
       ·exact⟨none,0,by rw[e,h]⟩
       ·exact⟨_,_,e⟩
      have s8:=HSC.out _ _ hS8.fb hx8;have s9:=HSC.out _ _ hX8.s.fb hX8.bx;have k0:w8.cell? ⟨xb,0,none⟩=some (.slice xa ys.length xc):=Bx.cell hx8 rfl;have kz:=Bx.thaw hx8;have HX8:Hid (LwQ w (w8.setCell ⟨xb,0,none⟩ (.slice a8 (ys.length+cl) c8)) (V:Int) (some ⟨gb,ob,none⟩) n c k mb mv sv (Xm cs xs b).1 (Xm cs xs b).2 iv jv xb (ys.map (YC cs)++(if tt.kind=1 then Kb cs xs b tt.to else [])) (Ka cs tt)):=Xa ⟨lab8,_,by rw[HIF.out];exact hX8⟩;clear hown8 hg8 hne8 hat8 hX8 hx8 hS8 x0 x5 HX5 HO5;refine hK _ _ s8 (fun hHeld=>?_);clear hK;refine KC 10 ?_;refine Xt 11 (fun K hK=>?_);go_simp;refine hK _ _ s9 (fun hHeld=>?_);clear hK;refine YA ?_;clear hHeld k0 kz s8 s9
      go_wp2_with fail
      go_meet;exact HX8)
    ·have hk1:(tt.kind==1)=false:=by simpa using h1
     have HE:Hid (ys.map (YC cs)++(if tt.kind=1 then Kb cs xs b tt.to else [])=ys.map (YC cs)):=Xa (by rw[if_neg h1,List.append_nil]);clear h1;go_wp2;go_meet;rw[HE.out];exact HQ2
   case rest =>
    have HQ3:=hcut;clear hcut HQ2;generalize wc=w9 at *;obtain⟨IS,hIS⟩:∃IS,IS=ys.map (YC cs)++(if tt.kind=1 then Kb cs xs b tt.to else []):=⟨_,rfl⟩;rw[<-hIS]at HQ3;have HIS:=Xa hIS;clear hIS;have z1:w9.cell? ⟨xb,1,none⟩=some (.int .i64 tt.kind):=by obtain⟨lab,xv,hX⟩:=HQ3.out;rw[<-HTK.1];exact Bx.cell hX.bx rfl
    go_upto_if 103 with fail
    clear z1
    go_cut [9] from 13 to 167 (fun sv wx=>Hid (LwZ w wx (V:Int) (some ⟨gb,ob,none⟩) n c k mb mv sv (Xm cs xs b).1 iv xb ((Xm cs xs b).2++(UM cs xs b ⟨ps,ys,tt⟩ (xs.length+(Xm cs xs b).2.length)).2) IS (UM cs xs b ⟨ps,ys,tt⟩ (xs.length+(Xm cs xs b).2.length)).1.term)/\Hid (sv≠.slice none 0 0))
    case first =>
     by_cases h2:tt.kind=2
     ·have hk2:(tt.kind==2)=true:=by simpa using h2
      simp only[hk2];have hp1:=HLB.pr tt.to (by simp[Zu.targets,h2]);have hp2:=HLB.pr tt.els (by simp[Zu.targets,h2]);obtain⟨t1,ht1⟩:∃t1:Nat,tt.to=(t1:Int):=⟨tt.to.toNat,oM⟩;obtain⟨t2,ht2⟩:∃t2:Nat,tt.els=(t2:Int):=⟨tt.els.toNat,oM⟩;rw[ht1]at hp1;rw[ht2]at hp2;obtain⟨za,hza⟩:∃za,za=lcN cs tt.a:=⟨_,rfl⟩;have HZ:Hid (LwZ w w9 (V:Int) (some ⟨gb,ob,none⟩) n c k mb mv sv (Xm cs xs b).1 iv xb (Xm cs xs b).2 IS ⟨2,za,(t1:Int),(t2:Int)⟩):=Xa (by
       obtain⟨lab,xv,hX⟩:=HQ3.out;have e:Ka cs tt=⟨2,za,(t1:Int),(t2:Int)⟩:=by unfold Ka;rw[if_neg oM,h2,ht1,ht2,hza]
       rw[e]at hX;exact⟨lab,xv,jv,hX⟩)
      have HR:Hid ((UM cs xs b ⟨ps,ys,tt⟩ (xs.length+(Xm cs xs b).2.length)).1.term=⟨2,za,(XK cs xs b (t1:Int) (xs.length+(Xm cs xs b).2.length)).1,(XK cs xs b (t2:Int) ((xs.length+(Xm cs xs b).2.length)+(XK cs xs b (t1:Int) (xs.length+(Xm cs xs b).2.length)).2.length)).1⟩/\(UM cs xs b ⟨ps,ys,tt⟩ (xs.length+(Xm cs xs b).2.length)).2=(XK cs xs b (t1:Int) (xs.length+(Xm cs xs b).2.length)).2++(XK cs xs b (t2:Int) ((xs.length+(Xm cs xs b).2.length)+(XK cs xs b (t1:Int) (xs.length+(Xm cs xs b).2.length)).2.length)).2):=Xa (by
       unfold UM;dsimp only;rw[if_neg oM,if_pos h2,h2,ht1,ht2,hza];exact⟨rfl,rfl⟩)
      have HED1:=Xa (fun W (hb:Below w.heap.size w W)=>TR V (some ⟨gb,ob,none⟩) n c xs L B ac nc cc cs Lc Bc b t1 W (Xa (ha.keep (hb.mono hB))) hx (by have:=hb.size;omega) ho (Xa (fun x hx=>(hln.out x hx).1)) (Xa (hc.keep (hb.mono hBc))) hcx hcV (by have:=hb.size;omega) (by have:=hx.out;omega) (Xa hp1.2));obtain⟨CP1,hCP1⟩:∃CP,CP=Kb cs xs b (t1:Int):=⟨_,rfl⟩;obtain⟨cl1,hcl1⟩:∃cl,cl=CP1.length:=⟨_,rfl⟩;have hclb1:cl1<=128:=by rw[hcl1,hCP1];exact UN _
      have HS1n:Hid (cl1=0->(XK cs xs b (t1:Int) (xs.length+(Xm cs xs b).2.length)).1=(t1:Int)/\(XK cs xs b (t1:Int) (xs.length+(Xm cs xs b).2.length)).2=[]):=Xa (fun h=>by
       have:Kb cs xs b (t1:Int)=[]:=List.length_eq_zero_iff.1 (by rw[<-hCP1,<-hcl1];exact h);unfold XK;rw[if_pos this];exact⟨rfl,rfl⟩)
      have HS1y:Hid (cl1≠0->(XK cs xs b (t1:Int) (xs.length+(Xm cs xs b).2.length)).1=(((xs.length+(Xm cs xs b).2.length):Nat):Int)/\(XK cs xs b (t1:Int) (xs.length+(Xm cs xs b).2.length)).2=[⟨CP1,⟨1,0,(t1:Int),0⟩⟩]):=Xa (fun h=>by
       have:¬Kb cs xs b (t1:Int)=[]:=fun e=>h (by rw[hcl1,hCP1,e];rfl)
       unfold XK;rw[if_neg this,hCP1];exact⟨rfl,rfl⟩)
      have HSB1:Hid (((Xm cs xs b).2).length<=2001):=Xa (by
       have h1:=HSL.out;have h2:=JX cs xs b (t1:Int) (xs.length+(Xm cs xs b).2.length);have:=hx.out;omega)
      rw[<-hCP1,<-hcl1]at HED1;have HCL1:=Xa hcl1;clear hCP1 hcl1;have HED2:=Xa (fun W (hb:Below w.heap.size w W)=>TR V (some ⟨gb,ob,none⟩) n c xs L B ac nc cc cs Lc Bc b t2 W (Xa (ha.keep (hb.mono hB))) hx (by have:=hb.size;omega) ho (Xa (fun x hx=>(hln.out x hx).1)) (Xa (hc.keep (hb.mono hBc))) hcx hcV (by have:=hb.size;omega) (by have:=hx.out;omega) (Xa hp2.2));obtain⟨CP2,hCP2⟩:∃CP,CP=Kb cs xs b (t2:Int):=⟨_,rfl⟩;obtain⟨cl2,hcl2⟩:∃cl,cl=CP2.length:=⟨_,rfl⟩;have hclb2:cl2<=128:=by rw[hcl2,hCP2];exact UN _
      have HS2n:Hid (cl2=0->(XK cs xs b (t2:Int) ((xs.length+(Xm cs xs b).2.length)+(XK cs xs b (t1:Int) (xs.length+(Xm cs xs b).2.length)).2.length)).1=(t2:Int)/\(XK cs xs b (t2:Int) ((xs.length+(Xm cs xs b).2.length)+(XK cs xs b (t1:Int) (xs.length+(Xm cs xs b).2.length)).2.length)).2=[]):=Xa (fun h=>by
       have:Kb cs xs b (t2:Int)=[]:=List.length_eq_zero_iff.1 (by rw[<-hCP2,<-hcl2];exact h);unfold XK;rw[if_pos this];exact⟨rfl,rfl⟩)
      have HS2y:Hid (cl2≠0->(XK cs xs b (t2:Int) ((xs.length+(Xm cs xs b).2.length)+(XK cs xs b (t1:Int) (xs.length+(Xm cs xs b).2.length)).2.length)).1=((((xs.length+(Xm cs xs b).2.length)+(XK cs xs b (t1:Int) (xs.length+(Xm cs xs b).2.length)).2.length):Nat):Int)/\(XK cs xs b (t2:Int) ((xs.length+(Xm cs xs b).2.length)+(XK cs xs b (t1:Int) (xs.length+(Xm cs xs b).2.length)).2.length)).2=[⟨CP2,⟨1,0,(t2:Int),0⟩⟩]):=Xa (fun h=>by
       have:¬Kb cs xs b (t2:Int)=[]:=fun e=>h (by rw[hcl2,hCP2,e];rfl)
       unfold XK;rw[if_neg this,hCP2];exact⟨rfl,rfl⟩)
      have HSB2:Hid ((((Xm cs xs b).2++(XK cs xs b (t1:Int) (xs.length+(Xm cs xs b).2.length)).2)).length<=2001):=Xa (by
       have h1:=HSL.out;have h2:=JX cs xs b (t1:Int) (xs.length+(Xm cs xs b).2.length);have:=hx.out;rw[List.length_append];omega)
      rw[<-hCP2,<-hcl2]at HED2;have HCL2:=Xa hcl2;clear hCP2 hcl2;clear hp1 hp2 ht1 ht2 hza h2 HQ3;obtain⟨lab,xv,jv,hX⟩:=HZ.out;have f0:w9.cell? ⟨w.heap.size,0,none⟩=some (.int .i64 (V:Int)):=Bx.cell hX.s.fb rfl;have f1:w9.cell? ⟨w.heap.size,1,none⟩=some (.slice (some ⟨gb,ob,none⟩) n c):=Bx.cell hX.s.fb rfl;have z3:w9.cell? ⟨xb,3,none⟩=some (.int .i64 (t1:Int)):=Bx.cell hX.bx rfl;have HX:=Xa hX
      go_wp2_with fail
      refine(HED1.out _ hX.s.low).mono ?_;rintro e w5 ⟨v5,rfl,hv5,hb5,ho5⟩;obtain⟨g5,c5',rfl⟩:∃g5 c5',v5=.slice (some ⟨g5,0,none⟩) cl1 c5':=by
       rcases XU ho5 with⟨e,_,_⟩ | ⟨g5,c5',e,_⟩
       ·exact absurd e hv5
       ·exact⟨g5,c5',e⟩
      have HB5:=Xa hb5;have HO5:=Xa ho5;clear hX hb5 ho5 hv5 f0 f1 z3 HZ
      go_upto_if 113 with fail
      go_cut [9] from 13 to 167 (fun sv wx=>Hid (LwZ w wx (V:Int) (some ⟨gb,ob,none⟩) n c k mb mv sv (Xm cs xs b).1 iv xb ((Xm cs xs b).2++(XK cs xs b (t1:Int) (xs.length+(Xm cs xs b).2.length)).2) IS ⟨2,za,(XK cs xs b (t1:Int) (xs.length+(Xm cs xs b).2.length)).1,(t2:Int)⟩)/\Hid (sv≠.slice none 0 0))
      case first =>
       by_cases h0:cl1=0
       ·have hclI:¬(0:Int)<(cl1:Int):=oM
        have HE:=Xa (HS1n.out h0);have HZ5:Hid (LwZ w w5 (V:Int) (some ⟨gb,ob,none⟩) n c k mb mv sv (Xm cs xs b).1 iv xb (Xm cs xs b).2 IS ⟨2,za,(t1:Int),(t2:Int)⟩):=Xa ⟨lab,xv,jv,HX.calm HB5.out⟩;clear h0;go_wp2;go_meet;rw[HE.1,HE.2,List.append_nil];exact⟨HZ5,HSV⟩
       ·have hclI:(0:Int)<(cl1:Int):=oM
        have HE:=Xa (HS1y.out h0);obtain⟨lab5,hrow,hsp⟩:=XJ.fresh (lab:=lab) (L:=(4,(Xm cs xs b).2.length,0)) HB5.out HO5.out HX.s.low.size HX.s.fr;have HX5:=Xa (HX.spT HB5.out hsp);have HRW:=Xa hrow;obtain⟨sa,sc,hsvf⟩:∃sa sc,sv=.slice sa (Xm cs xs b).2.length sc:=by
         rcases XU HX5.s.s.blks.own with⟨e,h,_⟩ | ⟨g,c,e,_⟩
         ·exact absurd e HSV.out
         ·exact⟨_,_,e⟩
        obtain⟨sl,hsl⟩:∃sl,sl=(Xm cs xs b).2.length:=⟨_,rfl⟩;have hsl1:sl<=2001:=by rw[hsl];have:=HSB1.out;omega
        rw[<-hsl]at hsvf;have HSL9:=Xa hsl;subst hsvf;have z3:w5.cell? ⟨xb,3,none⟩=some (.int .i64 (t1:Int)):=Bx.cell HX5.bx rfl;have hws:=HX5.s.low.size;clear hrow hsp h0 hsl
        go_wp2_with (at_builtin;refine wpList_append_own_at _ rfl _ _ 27 rfl w.heap.size 52 j0 (.agg #[.slice none 0 0,.int .i64 0,.int .i64 0,.int .i64 0,.int .i64 0]) 5 56 Tryz.underlying27 hj0 hy0 hy1 hy2 rfl dC _ (Xm cs xs b).2.length (Jv jv (Xm cs xs b).2) rfl (HX5.s.s.blks.own.alloc _) ⟨w5.heap.size,0,none⟩ 1 1 [.slice (some ⟨g5,0,none⟩) cl1 c5',.int .i64 1,.int .i64 0,.int .i64 (t1:Int),.int .i64 0] rfl rfl (World.news_of_block (World.alloc_heap_new _ _)) ?u21 ?u31 ?u41 ?u51 ?_)
        case u21=>intro u hu;simp at hu;rcases hu with rfl | rfl | rfl | rfl | rfl<;>rfl
        case u31=>unfold maxLen;rw[<-HSL9.out];omega
        case u41=>rw[<-HSL9.out];omega
        case u51=>simp;omega
        intro v8 w8 hown8 hg8 hne8 hat8;rw[<-HSL9.out]at hown8;obtain⟨lab8,hX8⟩:=HX5.side ⟨CP1,⟨1,0,(t1:Int),0⟩⟩ (by rw[<-HCL1.out];exact HRW.out) hg8 (by rw[<-HSL9.out];exact hown8) (by rw[World.size_alloc];exact hat8);obtain⟨g8,c8,rfl,_,_⟩:=XC hown8 oM;have k0:w8.cell? ⟨xb,3,none⟩=some (.int .i64 (t1:Int)):=Bx.cell hX8.bx rfl;have kz:=Bx.thaw hX8.bx;have e1:IntKind.i64.wrap ((n:Int)+((sl:Int)+1))=(n:Int)+((sl:Int)+1):=by rw[IntKind.wrap_i64];omega
        have e2:IntKind.i64.wrap ((n:Int)+((sl:Int)+1)-1)=(n:Int)+(sl:Int):=by rw[IntKind.wrap_i64];omega
        have HZ8:Hid (LwZ w (w8.setCell ⟨xb,3,none⟩ (.int .i64 ((n:Int)+(sl:Int)))) (V:Int) (some ⟨gb,ob,none⟩) n c k mb mv (.slice (some ⟨g8,0,none⟩) (sl+1) c8) (Xm cs xs b).1 iv xb ((Xm cs xs b).2++[⟨CP1,⟨1,0,(t1:Int),0⟩⟩]) IS ⟨2,za,(n:Int)+(sl:Int),(t2:Int)⟩):=Xa ⟨lab8,_,_,(hX8.term 3 ((n:Int)+(sl:Int)) rfl)⟩;have HV8:Hid ((Value.slice (some ⟨g8,0,none⟩) (sl+1) c8)≠.slice none 0 0):=Xa sP;clear hown8 hg8 hne8 hat8 hX8 z3
        go_wp2_with fail
        go_meet;have hm9:(((xs.length+(Xm cs xs b).2.length):Nat):Int)=(n:Int)+(sl:Int):=by
         have h1:=HSL9.out;have h2:=hx.out;omega
        rw[HE.1,HE.2,hm9];exact⟨HZ8,HV8⟩
      case rest =>
       obtain⟨HZ,HSV⟩:=hcut;clear HX HB5 HO5;generalize wc=w6 at *;generalize u9=sv at *;obtain⟨lab,xv,jv,hX⟩:=HZ.out;have f0:w6.cell? ⟨w.heap.size,0,none⟩=some (.int .i64 (V:Int)):=Bx.cell hX.s.fb rfl;have f1:w6.cell? ⟨w.heap.size,1,none⟩=some (.slice (some ⟨gb,ob,none⟩) n c):=Bx.cell hX.s.fb rfl;have z3:w6.cell? ⟨xb,4,none⟩=some (.int .i64 (t2:Int)):=Bx.cell hX.bx rfl;have HX:=Xa hX
       go_wp2_with fail
       refine(HED2.out _ hX.s.low).mono ?_;rintro e w5 ⟨v5,rfl,hv5,hb5,ho5⟩;obtain⟨g5,c5',rfl⟩:∃g5 c5',v5=.slice (some ⟨g5,0,none⟩) cl2 c5':=by
        rcases XU ho5 with⟨e,_,_⟩ | ⟨g5,c5',e,_⟩
        ·exact absurd e hv5
        ·exact⟨g5,c5',e⟩
       have HB5:=Xa hb5;have HO5:=Xa ho5;clear hX hb5 ho5 hv5 f0 f1 z3 HZ
       go_upto_if 139 with fail
       go_cut [9] from 13 to 167 (fun sv wx=>Hid (LwZ w wx (V:Int) (some ⟨gb,ob,none⟩) n c k mb mv sv (Xm cs xs b).1 iv xb (((Xm cs xs b).2++(XK cs xs b (t1:Int) (xs.length+(Xm cs xs b).2.length)).2)++(XK cs xs b (t2:Int) ((xs.length+(Xm cs xs b).2.length)+(XK cs xs b (t1:Int) (xs.length+(Xm cs xs b).2.length)).2.length)).2) IS ⟨2,za,(XK cs xs b (t1:Int) (xs.length+(Xm cs xs b).2.length)).1,(XK cs xs b (t2:Int) ((xs.length+(Xm cs xs b).2.length)+(XK cs xs b (t1:Int) (xs.length+(Xm cs xs b).2.length)).2.length)).1⟩)/\Hid (sv≠.slice none 0 0))
       case first =>
        by_cases h0:cl2=0
        ·have hclI:¬(0:Int)<(cl2:Int):=oM
         have HE:=Xa (HS2n.out h0);have HZ5:Hid (LwZ w w5 (V:Int) (some ⟨gb,ob,none⟩) n c k mb mv sv (Xm cs xs b).1 iv xb ((Xm cs xs b).2++(XK cs xs b (t1:Int) (xs.length+(Xm cs xs b).2.length)).2) IS ⟨2,za,(XK cs xs b (t1:Int) (xs.length+(Xm cs xs b).2.length)).1,(t2:Int)⟩):=Xa ⟨lab,xv,jv,HX.calm HB5.out⟩;clear h0;go_wp2;go_meet;rw[HE.1,HE.2,List.append_nil];exact⟨HZ5,HSV⟩
        ·have hclI:(0:Int)<(cl2:Int):=oM
         have HE:=Xa (HS2y.out h0);obtain⟨lab5,hrow,hsp⟩:=XJ.fresh (lab:=lab) (L:=(4,((Xm cs xs b).2++(XK cs xs b (t1:Int) (xs.length+(Xm cs xs b).2.length)).2).length,0)) HB5.out HO5.out HX.s.low.size HX.s.fr;have HX5:=Xa (HX.spT HB5.out hsp);have HRW:=Xa hrow;obtain⟨sa,sc,hsvf⟩:∃sa sc,sv=.slice sa ((Xm cs xs b).2++(XK cs xs b (t1:Int) (xs.length+(Xm cs xs b).2.length)).2).length sc:=by
          rcases XU HX5.s.s.blks.own with⟨e,h,_⟩ | ⟨g,c,e,_⟩
          ·exact absurd e HSV.out
          ·exact⟨_,_,e⟩
         obtain⟨sl,hsl⟩:∃sl,sl=((Xm cs xs b).2++(XK cs xs b (t1:Int) (xs.length+(Xm cs xs b).2.length)).2).length:=⟨_,rfl⟩;have hsl1:sl<=2001:=by rw[hsl];have:=HSB2.out;omega
         rw[<-hsl]at hsvf;have HSL9:=Xa hsl;subst hsvf;have z3:w5.cell? ⟨xb,4,none⟩=some (.int .i64 (t2:Int)):=Bx.cell HX5.bx rfl;have hws:=HX5.s.low.size;clear hrow hsp h0 hsl
         go_wp2_with (at_builtin;refine wpList_append_own_at _ rfl _ _ 27 rfl w.heap.size 52 j0 (.agg #[.slice none 0 0,.int .i64 0,.int .i64 0,.int .i64 0,.int .i64 0]) 5 56 Tryz.underlying27 hj0 hy0 hy1 hy2 rfl dC _ ((Xm cs xs b).2++(XK cs xs b (t1:Int) (xs.length+(Xm cs xs b).2.length)).2).length (Jv jv ((Xm cs xs b).2++(XK cs xs b (t1:Int) (xs.length+(Xm cs xs b).2.length)).2)) rfl (HX5.s.s.blks.own.alloc _) ⟨w5.heap.size,0,none⟩ 1 1 [.slice (some ⟨g5,0,none⟩) cl2 c5',.int .i64 1,.int .i64 0,.int .i64 (t2:Int),.int .i64 0] rfl rfl (World.news_of_block (World.alloc_heap_new _ _)) ?u22 ?u32 ?u42 ?u52 ?_)
         case u22=>intro u hu;simp at hu;rcases hu with rfl | rfl | rfl | rfl | rfl<;>rfl
         case u32=>unfold maxLen;rw[<-HSL9.out];omega
         case u42=>rw[<-HSL9.out];omega
         case u52=>simp;omega
         intro v8 w8 hown8 hg8 hne8 hat8;rw[show(Xm cs xs b).2.length+(XK cs xs b (t1:Int) (xs.length+(Xm cs xs b).2.length)).2.length=sl by have:=HSL9.out;rw[List.length_append]at this;omega]at hown8;obtain⟨lab8,hX8⟩:=HX5.side ⟨CP2,⟨1,0,(t2:Int),0⟩⟩ (by rw[<-HCL2.out];exact HRW.out) hg8 (by rw[<-HSL9.out];exact hown8) (by rw[World.size_alloc];exact hat8);obtain⟨g8,c8,rfl,_,_⟩:=XC hown8 oM;have k0:w8.cell? ⟨xb,4,none⟩=some (.int .i64 (t2:Int)):=Bx.cell hX8.bx rfl;have kz:=Bx.thaw hX8.bx;have e1:IntKind.i64.wrap ((n:Int)+((sl:Int)+1))=(n:Int)+((sl:Int)+1):=by rw[IntKind.wrap_i64];omega
         have e2:IntKind.i64.wrap ((n:Int)+((sl:Int)+1)-1)=(n:Int)+(sl:Int):=by rw[IntKind.wrap_i64];omega
         have HZ8:Hid (LwZ w (w8.setCell ⟨xb,4,none⟩ (.int .i64 ((n:Int)+(sl:Int)))) (V:Int) (some ⟨gb,ob,none⟩) n c k mb mv (.slice (some ⟨g8,0,none⟩) (sl+1) c8) (Xm cs xs b).1 iv xb (((Xm cs xs b).2++(XK cs xs b (t1:Int) (xs.length+(Xm cs xs b).2.length)).2)++[⟨CP2,⟨1,0,(t2:Int),0⟩⟩]) IS ⟨2,za,(XK cs xs b (t1:Int) (xs.length+(Xm cs xs b).2.length)).1,(n:Int)+(sl:Int)⟩):=Xa ⟨lab8,_,_,(hX8.term 4 ((n:Int)+(sl:Int)) rfl)⟩;have HV8:Hid ((Value.slice (some ⟨g8,0,none⟩) (sl+1) c8)≠.slice none 0 0):=Xa sP;clear hown8 hg8 hne8 hat8 hX8 z3
         go_wp2_with fail
         go_meet;have hm9:((((xs.length+(Xm cs xs b).2.length)+(XK cs xs b (t1:Int) (xs.length+(Xm cs xs b).2.length)).2.length):Nat):Int)=(n:Int)+(sl:Int):=by
          have h1:=HSL9.out;have h2:=hx.out;rw[List.length_append]at h1;omega
         rw[HE.1,HE.2,hm9];exact⟨HZ8,HV8⟩
       case rest =>
        obtain⟨HZ,HSV⟩:=hcut;go_wp2;go_meet;rw[HR.1,HR.2,<-List.append_assoc];exact⟨HZ,HSV⟩
     ·have hk2:(tt.kind==2)=false:=by simpa using h2
      have HR:Hid ((UM cs xs b ⟨ps,ys,tt⟩ (xs.length+(Xm cs xs b).2.length)).1.term=Ka cs tt/\(UM cs xs b ⟨ps,ys,tt⟩ (xs.length+(Xm cs xs b).2.length)).2=[]):=Xa (by
       unfold UM;dsimp only;by_cases h1:tt.kind=1
       ·rw[if_pos h1];exact⟨rfl,rfl⟩
       ·rw[if_neg h1,if_neg h2];exact⟨rfl,rfl⟩)
      clear h2;go_wp2;go_meet;rw[HR.1,HR.2,List.append_nil];obtain⟨lab,xv,hX⟩:=HQ3.out;exact⟨Xa ⟨lab,xv,jv,hX⟩,HSV⟩
    case rest =>
     obtain⟨HZ,HSV⟩:=hcut;clear HQ3;generalize wc=w6 at *;generalize u9=sv at *;obtain⟨lab,xv,jv,hX⟩:=HZ.out;have HRT:Hid ((UM cs xs b ⟨ps,ys,tt⟩ (xs.length+(Xm cs xs b).2.length)).1=⟨IS,(UM cs xs b ⟨ps,ys,tt⟩ (xs.length+(Xm cs xs b).2.length)).1.term⟩):=Xa (by
      rw[HIS.out];unfold UM;dsimp only;by_cases h1:tt.kind=1
      ·rw[if_pos h1,if_pos h1]
      ·by_cases h2:tt.kind=2
       ·rw[if_neg h1,if_neg h1,if_pos h2,List.append_nil]
       ·rw[if_neg h1,if_neg h1,if_neg h2,List.append_nil])
     obtain⟨T9,hT9⟩:∃T9,T9=(UM cs xs b ⟨ps,ys,tt⟩ (xs.length+(Xm cs xs b).2.length)).1.term:=⟨_,rfl⟩;rw[<-hT9]at hX;obtain⟨ma,mc,hmv⟩:=hX.s.m.blks.form;rw[HML.out]at hmv;obtain⟨xa,xc,hxv⟩:=hX.row.form;obtain⟨il,hil⟩:∃il,il=IS.length:=⟨_,rfl⟩;rw[<-hil]at hxv;subst hmv;subst hxv;have m1:w6.cell? ⟨mb,1,none⟩=some (.slice ma b mc):=Bx.cell hX.s.mbx rfl;have y0:w6.cell? ⟨xb,0,none⟩=some (.slice xa il xc):=Bx.cell hX.bx rfl;have y1:w6.cell? ⟨xb,1,none⟩=some (.int .i64 T9.kind):=Bx.cell hX.bx rfl;have y2:w6.cell? ⟨xb,2,none⟩=some (.int .i64 T9.a):=Bx.cell hX.bx rfl;have y3:w6.cell? ⟨xb,3,none⟩=some (.int .i64 T9.to):=Bx.cell hX.bx rfl;have y4:w6.cell? ⟨xb,4,none⟩=some (.int .i64 T9.els):=Bx.cell hX.bx rfl;have HX:=Xa hX;have hws:=hX.s.low.size;have HT9:=Xa hT9;clear hX HZ hT9 hil
     go_wp2_with (at_builtin;refine wpList_append_own_at _ rfl _ _ 27 rfl w.heap.size 52 j0 (.agg #[.slice none 0 0,.int .i64 0,.int .i64 0,.int .i64 0,.int .i64 0]) 5 56 Tryz.underlying27 hj0 hy0 hy1 hy2 rfl dC _ (Xm cs xs b).1.length (Jv iv (Xm cs xs b).1) rfl (HX.s.m.blks.own.alloc _) ⟨w6.heap.size,0,none⟩ 1 1 [.slice xa il xc,.int .i64 T9.kind,.int .i64 T9.a,.int .i64 T9.to,.int .i64 T9.els] rfl rfl (World.news_of_block (World.alloc_heap_new _ _)) ?v2 ?v3 ?v4 ?v5 ?_)
     case v2=>intro u hu;simp at hu;rcases hu with rfl | rfl | rfl | rfl | rfl<;>rfl
     case v3=>unfold maxLen;rw[HML.out];omega
     case v4=>rw[HML.out];omega
     case v5=>simp;omega
     intro v8 w8 hown8 hg8 hne8 hat8;obtain⟨lab8,hS8,hm8⟩:=HX.done hg8 hown8 (by rw[World.size_alloc];exact hat8);obtain⟨g8,c8,rfl,_,_⟩:=XC hown8 oM;rw[HML.out]at hS8 |-;have k0:w8.cell? ⟨mb,1,none⟩=some (.slice ma b mc):=Bx.cell hm8 rfl;have kz:=Bx.thaw hm8;have HH8:Hid (LwH w (w8.setCell ⟨mb,1,none⟩ (.slice (some ⟨g8,0,none⟩) (b+1) c8)) (V:Int) (some ⟨gb,ob,none⟩) n c k mb sv (Xm cs xs (b+1)).1 (Xm cs xs (b+1)).2):=Xa ⟨lab8,_,_,_,by rw[HSU.out,HRT.out,<-HT9.out];exact hS8,HSV.out⟩;clear hown8 hg8 hne8 hat8 hS8 hm8 m1 y0 y1 y2 y3 y4
     go_wp2_with fail
     refine⟨⟨⟨b+1,sv,_⟩,rfl,rfl,(by show b+1<=n;omega),HH8⟩,by simp[intOf];omega⟩
 ·have hbI:¬(b:Int)<(n:Int):=oM
  have hbe:b=n:=oM;subst hbe
  go_wp2_with fail
  exact HX.out _ _ _ rfl HH
end Go.Proofs.YtlmgmkmomaileaaGreatDoor
