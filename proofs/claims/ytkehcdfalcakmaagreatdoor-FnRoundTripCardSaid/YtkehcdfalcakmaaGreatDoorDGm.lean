import Derived.Test.YtkehcdfalcakmaaGreatDoorDT2
import Derived.Test.YtkehcdfalcakmaaGreatDoorDR3
namespace Go.Proofs.YtkehcdfalcakmaaGreatDoor
set_option maxHeartbeats 4000000
set_option maxRecDepth 100000
open Go.RowKit
theorem ZfV(hT:Hid Zhh)(sb B:Nat)(s:Sr)(dead:Bool)(w:World)(h:Hid (Zs w sb B s)) :
 Calls Tryz.prog 54 #[.pointer (some ⟨sb,0,none⟩),.bool dead] w fun e w'=>∃lab G n c pv iv av,e=.returned (.agg #[.int .i64 (XA s dead).1.values,.slice (some ⟨G,0,none⟩) n c])/\Zs w' sb B (XA s dead).2/\w.grownBy w' (some sb)/\Z5 w' lab w.heap.size (.slice (some ⟨G,0,none⟩) n c) (XA s dead).1.blocks pv iv av/\(∀b,w'.heap.size<=b->lab b=(0,0,0))/\n=(XA s dead).1.blocks.length/\1<=n/\n<=11/\(∃V:Nat,(XA s dead).1.values=(V:Int)/\V<=1000)/\JK (XA s dead).1.blocks/\PhA (XA s dead).1.blocks:=by
 obtain⟨i0,hi0,hz0,hz1,hz2⟩:=X0 Tryz.infoBlkD;obtain⟨j0,hj0,hy0,hy1,hy2⟩:=X0 Tryz.info2';have hbw:Hid (B<=w.heap.size):=Xa h.sB;have HB0:=Xa (h.box (.cells #[.int .i64 0,.slice none 0 0] 25));have HR0:Hid (Bx (w.alloc (.cells #[.int .i64 0,.slice none 0 0] 25)) w.heap.size #[.int .i64 0,.slice none 0 0] 25):=Xa (Bx.new _ _ _);have HG0:=Xa (World.grownBy_alloc w (.cells #[.int .i64 0,.slice none 0 0] 25) (some sb));have hsbR:Hid (sb<w.heap.size):=Xa (by have:=h.bB;have:=h.sB;omega);have hc3:=HB0.src.c3;have hok:=HB0.ok.size;clear h
 go_enter Tryz.func54,Tryz.ntmps54
 go_wp2_with fail
 generalize w.alloc (.cells #[.int .i64 0,.slice none 0 0] 25)=w0 at *;refine(Xv sb B s (3+s.size) w0 HB0 (by omega) (by omega)).mono ?_;rintro e w1 ⟨rfl,hd,hg⟩;have hl1:=Xx s (n:=3+s.size) (by omega);obtain⟨r1,s1,hrs⟩:∃r s',nextP s (3+s.size)=(r,s'):=⟨_,_,rfl⟩;rw[hrs]at hd hl1 |-;dsimp only at hd hl1 |-;obtain⟨m,rfl⟩:=Zr hl1.1;have HS1:=Xa hrs;have HD1:=Xa hd;have HR1:=Xa (HR0.grown hg (by have:=hsbR.out;intro e;injection e;omega));have HG1:=Xa (Yi HG0.out hg);clear hd hg hrs HB0 HR0 HG0 hc3;have hm:m<=9:=by omega
 clear hl1 hok
 go_wp2_with fail
 refine(Xv sb B s1 2 w1 HD1 (by omega) (by omega)).mono ?_;rintro e w2 ⟨rfl,hd,hg⟩;obtain⟨r2,s2,hrs⟩:∃r s',nextP s1 2=(r,s'):=⟨_,_,rfl⟩;rw[hrs]at hd |-;dsimp only at hd |-;have HS2:=Xa hrs;have HD2:=Xa hd;have HR2:=Xa (HR1.grown hg (by have:=hsbR.out;intro e;injection e;omega));have HG2:=Xa (Yi HG1.out hg);clear hd hg hrs HD1 HR1 HG1;have hn1:(1:Int)+(m:Int)=((m+1:Nat):Int):=by omega
 obtain⟨n,hn⟩:∃n,n=m+1:=⟨_,rfl⟩;rw[<-hn]at hn1;have hn0:1<=n:=by omega
 have hn9:n<=10:=by omega
 have HN:=Xa hn;clear hn;rw[hn1];clear hn1;obtain⟨near,hnear⟩:∃near,(r2==0)=near:=⟨_,rfl⟩;have HNE:=Xa hnear
 go_wp2_with fail
 clear hnear;refine(Zfx sb B s2 n w2 HD2 hn0 (by omega)).mono ?_;rintro e w3 ⟨v,rfl,hd,hg,ho⟩;have hsl:=Zbb n n 0 s2 [];have hsr:=ZbC n n 0 s2 [] rfl (by omega) (fun j hj=>absurd hj (by simp));obtain⟨ts,s3,hrs⟩:∃r s',Jr n n 0 s2 []=(r,s'):=⟨_,_,rfl⟩;rw[hrs]at hd ho hsl hsr;dsimp only at hd ho hsl hsr;rw[List.length_nil,Nat.zero_add]at hsl;have HS3:=Xa hrs;have HSR:=Xa hsr;have HSL:=Xa hsl;obtain⟨g,c,rfl,hgb,hgc⟩:=Xj ho (by omega);have hw2R:w.heap.size<=w2.heap.size:=HG2.size;have HO3:Hid (w3.ownsRow w.heap.size 43 6 (.slice (some ⟨g,0,none⟩) n c) (ts.map Yf).length (Xy YH YH (ts.map Yf))):=Xa (by
  have:=Yn ho (show w.heap.size<=w2.heap.size+2 by omega);rw[List.length_map,hsl];exact this)
 have HD3:=Xa hd;have HR3:=Xa (HR2.grown hg (by have:=hsbR.out;intro e;injection e;omega));have HG3:=Xa (Yi HG2.out hg);have HOK:Hid (OkF (ts.map Yf)):=Xa (Zhf hsl hn0 (by omega) hsr);have HX:Hid (n=(ts.map Yf).length):=Xa (by simp[hsl]);clear hd hg hrs ho hsl hsr hgb hgc hw2R HD2 HR2 HG2
 go_wp2_with fail
 have HO4:=Xa (HO3.alloc (.cells #[.int .i64 0,.slice (some ⟨g,0,none⟩) n c] 25));have HD4:=Xa (HD3.box (.cells #[.int .i64 0,.slice (some ⟨g,0,none⟩) n c] 25));have HR4:=Xa (HR3.box (.cells #[.int .i64 0,.slice (some ⟨g,0,none⟩) n c] 25));have HF4:Hid (Bx (w3.alloc (.cells #[.int .i64 0,.slice (some ⟨g,0,none⟩) n c] 25)) w3.heap.size #[.int .i64 0,.slice (some ⟨g,0,none⟩) n c] 25):=Xa (Bx.new _ _ _);have HG4:=Xa (Yi HG3.out (World.grownBy_alloc w3 (.cells #[.int .i64 0,.slice (some ⟨g,0,none⟩) n c] 25) (some sb)));have HFB:Hid (w.heap.size<w3.heap.size):=Xa HR3.lt;clear HO3 HD3 HR3 HG3;generalize w3.alloc (.cells #[.int .i64 0,.slice (some ⟨g,0,none⟩) n c] 25)=w4 at *;generalize w3.heap.size=fb at *;have HBA:=Xa (Zib HO4.out (JU ts));refine(Zfc 0 (some ⟨g,0,none⟩) n c (ts.map Yf) w.heap.size w4.heap.size w4 HBA HX (Nat.le_refl _) HOK).mono ?_;rintro e w5 ⟨da,dc,rfl,hb5,hd5⟩;have HID:=Xa (ZdT da n dc ((List.range n).map (Jh (Ji (ts.map Yf)) n)) w4.heap.size w5.heap.size w5 (Xa (by rw[List.map_map];exact hd5)) (Xa (by simp)) (by omega) (Nat.le_refl _) (Xa (fun l hl=>by
  obtain⟨b,_,rfl⟩:=List.mem_map.1 hl;exact⟨Nat.le_trans (Ziq n b) (by omega),fun a ha=>(Jb.1 ha).1⟩)))
 have HBe5:=Xa hb5;clear hb5 hd5 HBA
 go_wp2_with fail
 refine HID.mono ?_;rintro e w6 ⟨v6,rfl,hb6,ho6⟩;have hid:(List.range n).map (idomP ((List.range n).map (Jh (Ji (ts.map Yf)) n)))=JP (ts.map Yf):=by unfold JP;rw[<-HX.out]
 rw[hid]at ho6;have HB6:=Xa (Xi HBe5.out hb6);have HP:Hid (We w w6 sb B s3 fb (.slice (some ⟨g,0,none⟩) n c) (ts.map Yf) v6 (JP (ts.map Yf))):=Xa ⟨HD4.keep (HB6.mono HD4.sB),⟨HB6.os.trans HG4.os,HB6.tape.trans HG4.tape,HB6.output.trans HG4.output,Nat.le_trans HG4.size HB6.size,fun b h1 h2=>(HB6.block b (Nat.lt_of_lt_of_le h1 HG4.size)).trans (HG4.block b h1 h2)⟩,hbw.out,HR4.keep (HB6.block _ HR4.lt),HF4.keep (HB6.block _ HF4.lt),HFB.out,ZcI HO4.out HB6.out,by
  rw[Za0,<-HX.out];exact Yn ho6 (Nat.le_trans HG4.size HBe5.size),JU ts⟩
 obtain⟨gi,ci,rfl⟩:∃g c,v6=.slice (some ⟨g,0,none⟩) n c:=by
  obtain⟨g6,c6,e,_⟩:=Xj ho6 (by omega);exact⟨_,_,e⟩
 clear ho6 hid HID hb6 HBe5 HB6 HO4 HD4 HR4 HF4 HG4
 go_upto_if 41 with fail
 go_cut [8,9] from 24 to 61 (fun c8 _ wx=>∃(g' n' c' ia' ic':Nat),c8=.slice (some ⟨ia',0,none⟩) n' ic'/\Hid (We w wx sb B (Z8 dead n ts s3).2.2 fb (.slice (some ⟨g',0,none⟩) n' c') ((Z8 dead n ts s3).1.map Yf) c8 (Z8 dead n ts s3).2.1))
 case first =>
  cases dead with
  | false =>
   go_wp2_with fail
   go_meet;exact⟨g,n,c,gi,ci,rfl,HP⟩
  | true =>
   have HTK:Hid (Z8 true n ts s3=if 1<n then (ts++[⟨1,0,1+(nextP s3 ((n:Int)-1)).1,0⟩],JP (ts.map Yf)++[0],(nextP s3 ((n:Int)-1)).2)else (ts++[⟨3,0,0,0⟩],JP (ts.map Yf)++[0],s3)):=Xa rfl;have hLX:Hid ((ts.map Yf).length=n/\(JP (ts.map Yf)).length=n):=Xa ⟨HX.symm,(Za0 _).trans HX.symm⟩
   go_upto_if 44 with fail
   have HPt:=Xa (HP.box (.cells #[.int .i64 3,.int .i64 0,.int .i64 0,.int .i64 0] 41));have HT:Hid (TB (w6.alloc (.cells #[.int .i64 3,.int .i64 0,.int .i64 0,.int .i64 0] 41)) w6.heap.size ⟨3,0,0,0⟩):=Xa (Bx.new _ _ _);have hTb:Hid (w.heap.size<w6.heap.size/\w6.heap.size≠fb/\w6.heap.size≠g/\w6.heap.size≠gi/\sb≠w6.heap.size):=Xa (by
    have h1:=HP.res.lt;have h2:=HP.fbx.lt;have h3:=(HP.bl.lt g rfl).2;have h4:=(HP.id.lt gi rfl).2;have h5:=hsbR.out;omega)
   clear HP;generalize w6.alloc (.cells #[.int .i64 3,.int .i64 0,.int .i64 0,.int .i64 0] 41)=wt at *;generalize w6.heap.size=tb at *
   go_cut [] from 24 to 61 (fun wx=>∃(tt:XN)(sx:Sr),Hid (Z8 true n ts s3=(ts++[tt],JP (ts.map Yf)++[0],sx))/\Hid (We w wx sb B sx fb (.slice (some ⟨g,0,none⟩) n c) (ts.map Yf) (.slice (some ⟨gi,0,none⟩) n ci) (JP (ts.map Yf)))/\Hid (TB wx tb tt))
   case first =>
    by_cases h1:1<n
    ·rw[if_pos h1]at HTK
     have h1I:(1:Int)<n:=by omega
     go_wp2_with fail
     refine(Xv sb B s3 ((n:Int)-1) wt (Xa HPt.dr) (by omega) (by omega)).mono ?_;rintro e w7 ⟨rfl,hd,hg⟩;have hl:=Xx s3 (n:=(n:Int)-1) (by omega);obtain⟨r,s4,hrs⟩:∃r s9,nextP s3 ((n:Int)-1)=(r,s9):=⟨_,_,rfl⟩;rw[hrs]at hd HTK hl |-;dsimp only at hd HTK hl |-;have HP7:=Xa (HPt.call hg hd);have HT7:Hid (TB w7 tb ⟨3,0,0,0⟩):=Xa (Bx.grown HT.out hg (fun e=>hTb.2.2.2.2 (by injection e with e;exact e.symm)));clear hd hg hrs;obtain⟨t0,t1,t2,t3⟩:=TB.cells HT7.out;have tz:=Bx.thaw HT7.out
     go_wp2_with fail
     go_meet;have hx:=hTb.out;exact⟨_,_,HTK,Xa ((((HP7.put hx.1 hx.2.1 (fun e=>hx.2.2.1 (by cases e;rfl)) (fun e=>hx.2.2.2.1 (by cases e;rfl))).put hx.1 hx.2.1 (fun e=>hx.2.2.1 (by cases e;rfl)) (fun e=>hx.2.2.2.1 (by cases e;rfl))).put hx.1 hx.2.1 (fun e=>hx.2.2.1 (by cases e;rfl)) (fun e=>hx.2.2.2.1 (by cases e;rfl))).put hx.1 hx.2.1 (fun e=>hx.2.2.1 (by cases e;rfl)) (fun e=>hx.2.2.2.1 (by cases e;rfl))),Xa (TB.put HT7.out ⟨1,0,1+r,0⟩)⟩
    ·rw[if_neg h1]at HTK
     have h1I:¬(1:Int)<n:=by omega
     go_wp2_with fail
     go_meet;exact⟨_,_,HTK,HPt,HT⟩
   case rest =>
    obtain⟨tt,sx,HE,HPx,HTx⟩:=hcut;clear HPt HT HTK;obtain⟨t0,t1,t2,t3⟩:=TB.cells HTx.out;have f1:wc.cell? ⟨fb,1,none⟩=some (.slice (some ⟨g,0,none⟩) n c):=Bx.cell HPx.fbx rfl;have hzz:=HPx.gr.size
    go_wp2_with (at_builtin;refine wpList_append_own_at _ rfl _ _ 23 rfl w.heap.size 43 i0 (.agg #[.slice none 0 0,.slice none 0 0,.int .i64 0,.int .i64 0,.int .i64 0,.int .i64 0]) 6 80 Tryz.underlying23 hi0 hz0 hz1 hz2 rfl (by decide) _ (ts.map Yf).length (Xy YH YH (ts.map Yf)) rfl (HPx.bl.alloc _) ⟨wc.heap.size,0,none⟩ 1 1 [.slice none 0 0,.slice none 0 0,.int .i64 tt.kind,.int .i64 tt.a,.int .i64 tt.to,.int .i64 tt.els] rfl rfl (World.news_of_block (World.alloc_heap_new _ _)) ?c2 ?c3 ?c4 ?c5 ?_)
    case c2=>intro u hu;simp at hu;rcases hu with rfl | rfl | rfl | rfl | rfl<;>rfl
    case c3=>unfold maxLen;have:=hLX.out;omega
    case c4=>have:=hLX.out;omega
    case c5=>simp;omega
    intro v8 w8 hown8 hg8 hne8 hat8;obtain⟨hf8,hp8⟩:=(HPx.box _).pushB hg8 hown8 (by simp);have HP8:=Xa hp8;obtain⟨g8,c8,rfl,hgb,hcap⟩:=Xj hown8 (by omega);clear hgb hcap hne8 hat8 hown8 hg8 hp8 f1;have k0:w8.cell? ⟨fb,0,none⟩=some (.int .i64 0):=Bx.cell hf8 rfl;have k1:w8.cell? ⟨fb,1,none⟩=some (.slice (some ⟨g,0,none⟩) n c):=Bx.cell hf8 rfl;have kz:=Bx.thaw hf8;have HK8:=Xa hf8;clear hf8;have hz8:=HP8.gr.size;rw[Xd]at hz8
    go_wp2_with (at_builtin;refine wpList_append_own_at _ rfl _ _ 44 rfl w.heap.size 2 j0 (.int .i64 0) 1 8 Tryz.underlying44 hj0 hy0 hy1 hy2 rfl (by decide) _ (JP (ts.map Yf)).length (Xo (JP (ts.map Yf))) rfl (HP8.id.alloc _) ⟨w8.heap.size,0,none⟩ 1 1 [.int .i64 0] rfl rfl ?c1 ?c2 ?c3 ?c4 ?c5 ?_)
    case c1 =>
     have:=YB (w8.setCell ⟨fb,1,none⟩ (.slice (some ⟨g8,0,none⟩) (ts.length+1) c8)) (.int .i64 0) 2;rw[Xd]at this;exact this
    case c2=>intro u hu;simp at hu;subst hu;rfl
    case c3=>unfold maxLen;have:=hLX.out;omega
    case c4=>have:=hLX.out;omega
    case c5=>simp;omega
    intro v9 w9 hown9 hg9 hne9 hat9;have HP9:=Xa ((HP8.box _).pushI hg9 hown9 rfl);have hn9':(JP (ts.map Yf)).length+1=ts.length+1:=by have:=hLX.out;simp at this;omega
    obtain⟨g9,c9,rfl,hgb,hcap⟩:=Xj hown9 (by omega);clear hgb hcap hne9 hat9 hown9 hg9
    go_wp2_with fail
    go_meet;rw[HE.out];rw[hn9']at *;refine⟨g8,_,c8,g9,c9,rfl,?_⟩;dsimp only;rw[List.map_append];exact HP9
 case rest =>
  obtain⟨G,N,c',gi',ci',rfl,HPx⟩:=hcut;clear HP;have HDI:=Xa (Zgn (dead:=dead) (s:=s3) HSL.out hn0 (by omega) HSR.out);have HDT:=Xa (Zfh (Zgc (dead:=dead) (s:=s3) HSL.out hn0 HSR.out));have HGD:Hid (Z8 dead n ts s3=Z8 dead n ts s3):=Xa rfl;generalize hD:Z8 dead n ts s3=D at HPx HDI HDT;have HDD:=Xa hD;clear hD HGD;obtain⟨ts',ids,sx⟩:=D;dsimp only at HPx HDI HDT;have HN':Hid (ts'.length=N/\ids.length=N):=Xa (by
   have h1:=HPx.bl;have:(ts'.map Yf).length=N:=by
    rcases h1.2 with⟨e,_⟩ | ⟨_,_,_,e,_⟩
    ·cases e
    ·cases e;rfl
   have h2:=HDI.1;rw[List.length_map]at this;exact⟨this,h2.trans this⟩)
  have hN11:N<=11:=by have:=HDI.out;have:=HN'.out;omega
  have hN1:1<=N:=by have:=HDI.out;have:=HN'.out;omega
  have HIDS:Hid (∀b,0<b->b<N->∃c:Nat,ids.getD b 0=(c:Int)/\c<b):=Xa (fun b h1 h2=>HDI.2.2.2 b h1 (by have:=HN'.out;omega));obtain⟨lab0,hlab0⟩:=HPx.start;have HA0:Hid (GoA w (wc.alloc (.cells #[] 150)) sb B ⟨ts'.map Yf,[],0,sx⟩ fb G c' (.slice (some ⟨wc.heap.size,0,none⟩) 0 0) (.slice (some ⟨gi',0,none⟩) N ci') ids):=Xa ⟨_,_,_,_,_,hlab0⟩;have HXL:Hid ((ts'.map Yf).length=N):=Xa (by have:=HN'.out;simpa using this.1);clear hlab0 HPx HDI HOK HX
  go_wp2_with fail
  generalize hx0:ts'.map Yf=xs0 at *;have HX0:=Xa hx0;clear hx0;generalize wc.alloc (.cells #[] 150)=wl at *;generalize wc.heap.size=eb at *;have HGA:Hid (Zbk s dead=((Z6 (YR near ids N 0 ⟨xs0,[],0,sx⟩).ends N 0 (YR near ids N 0 ⟨xs0,[],0,sx⟩).xs (YR near ids N 0 ⟨xs0,[],0,sx⟩).s).1,(YR near ids N 0 ⟨xs0,[],0,sx⟩).v,(Z6 (YR near ids N 0 ⟨xs0,[],0,sx⟩).ends N 0 (YR near ids N 0 ⟨xs0,[],0,sx⟩).xs (YR near ids N 0 ⟨xs0,[],0,sx⟩).s).2)):=Xa (by
   unfold Zbk;rw[HS1.out];dsimp only;rw[HS2.out,Int.toNat_natCast,<-HN.out];dsimp only;rw[HS3.out];dsimp only;rw[HDD.out,HNE.out];dsimp only;rw[HN'.1,HX0.out])
  have HIN0:Hid (∀x∈xs0,x.instrs.length<=1000):=Xa (by
   rw[<-HX0.out];intro x hx;rw[(JU ts' x hx).2];simp)
  have HSO:Hid (ZJ sx):=Xa (by obtain⟨_,_,_,_,_,hq⟩:=HA0.out;exact hq.dr.ok);have HPH0:Hid (∀x∈xs0,x.phis.length<=1000/\∀p∈x.phis,p.args=[]):=Xa (by
   rw[<-HX0.out];intro x hx;have:=JU ts' x hx;rw[this.1];exact⟨by simp,fun p hp=>absurd hp (by simp)⟩)
  refine lp1 w sb B fb G c' gi' N ci' ids near ⟨xs0,[],0,sx⟩ _ _ _ _ _ _ (by exact Xa (fun c a t v w h=>h)) hN11 (Xa HN'.2) HIDS ?_ _ _ _ _ _ _ _ _ _ _ _ _ _ _ _ (by rfl) (Xa ⟨rfl,rfl,HXL.out⟩) HA0;intro gd ve d12 d13 d14 d15 d16 d17 d18 d19 d20 d21 d22 d23 tl w7 hl hgd hbd hA;obtain⟨f,rfl⟩:=spr tl hl;clear hl HA0;have HPH:Hid (∀x∈gd.xs,x.phis.length<=1000/\∀p∈x.phis,p.args=[]):=Xa (by rw[hgd];exact Vx near ids N 0 _ HPH0.out);have HIN:Hid (∀x∈gd.xs,x.instrs.length<=1000):=Xa (by rw[hgd];exact Zag near ids N 0 _ HSO.out HIN0.out);have HTG:Hid (TgB gd.xs/\PrB gd.xs):=Xa (by rw[hgd];exact Zab near ids N 0 _ (by show 0+N=xs0.length;rw[HXL.out];omega) HDT.1 HDT.2);rw[<-hgd]at HGA;have HBD:=Xa hbd;obtain⟨lab7,pv7,iv7,av7,ev7,hF7⟩:=hA;obtain⟨ge,ce,hve⟩:=hF7.es.got (by omega);rw[hbd.1]at hve;subst hve;have HA7:Hid (GoA w w7 sb B ⟨gd.xs,gd.ends,gd.v,gd.s⟩ fb G c' (.slice (some ⟨ge,0,none⟩) N ce) (.slice (some ⟨gi',0,none⟩) N ci') ids):=Xa ⟨lab7,pv7,iv7,av7,ev7,hF7⟩;clear hF7 hbd hgd
  go_wp2_with fail
  refine lp4 w sb B fb gd.v G c' gd.xs ge N ce gd.ends (.slice (some ⟨gi',0,none⟩) N ci') ids N gd.s _ _ _ _ _ _ _ _ _ _ _ _ _ _ _ _ _ (by exact Xa (fun c a t v w h=>h)) (Xa ⟨HBD.2.1,HBD.1,rfl⟩) hN11 HPH (Xa (fun e he=>by have:=HBD.2.2.2 e he;omega)) ?_ _ _ _ _ _ (by rfl) HA7;intro s8 c21 c22 c23 tl w8 hl hs8 hA8;obtain⟨f,rfl⟩:=spr tl hl;clear hl HA7;have HAO:Hid (WJ (Z6 gd.ends N 0 gd.xs gd.s).1):=Xa (Zdc gd.ends N 0 gd.xs gd.s (by have:=HBD.out;omega) (fun _ _ h=>absurd h (by omega)) (fun m hm _=>(HPH.out _ (List.getElem_mem hm)).2));have HXN:Hid ((Z6 gd.ends N 0 gd.xs gd.s).1.length=N):=Xa ((ZbJ _ _ _ _ _).trans HBD.2.1);have HSM:Hid (JK (Z6 gd.ends N 0 gd.xs gd.s).1):=Xa (ZhJ HAO.out (by have:=HXN.out;omega) (ZbD gd.ends N 0 gd.xs gd.s 1000 (by have:=HBD.out;omega) (fun x hx=>⟨(HPH.out x hx).1,HIN.out x hx⟩)));have HTG2:Hid (TgB (Z6 gd.ends N 0 gd.xs gd.s).1/\PrB (Z6 gd.ends N 0 gd.xs gd.s).1):=Xa (Zb6 gd.ends N 0 gd.xs gd.s (by have:=HBD.out;omega) HTG.1 HTG.2);clear HTG HDT;have hv154:gd.v<=154:=by have:=HBD.out;omega
  rw[<-hs8]at HGA;generalize (Z6 gd.ends N 0 gd.xs gd.s).1=ys at *;generalize gd.v=V at *;obtain⟨lab8,pv8,iv8,av8,ev8,hF8⟩:=hA8;have HT8:=Xa hF8.toT;clear hF8 hs8 HPH HBD;have HGP:Hid (XA s dead=(⟨(V:Int),if (nextP (nextP s8 3).2 3).1=0 then K6 V (if (nextP s8 3).1=0 then YM ys else ys)else (if (nextP s8 3).1=0 then YM ys else ys)⟩,(nextP (nextP s8 3).2 3).2)):=Xa (by unfold XA;rw[HGA.out]);clear HGA
  go_wp2_with fail
  refine(Xv sb B s8 3 w8 (Xa HT8.dr) (by omega) (by omega)).mono ?_;rintro e w9 ⟨rfl,hd,hg⟩;have HT9:=Xa (HT8.call hg hd);clear hd hg HT8;generalize nextP s8 3=P9 at *;obtain⟨r9,s9⟩:=P9;dsimp only at HT9 HGP |-
  go_upto_if 266 with fail
  go_cut [] from 203 to 274 (fun wz=>∃lab G2 c2 pv iv av,Hid (GoT w wz lab sb B s9 fb V G2 c2 (if r9=0 then YM ys else ys) pv iv av))
  case first =>
   by_cases hr:r9=0
   ·have hrb:(r9==0)=true:=by simpa using hr
    have f0:w9.cell? ⟨fb,0,none⟩=some (.int .i64 (V:Int)):=Bx.cell HT9.fbx rfl;have f1:w9.cell? ⟨fb,1,none⟩=some (.slice (some ⟨G,0,none⟩) N c'):=by rw[<-HXN.out];exact Bx.cell HT9.fbx rfl
    have HR0:=Xa hr;clear hr
    go_wp2_with fail
    have hft:=HT9.fn;rw[HXN.out]at hft;refine(hT.out V G N c' ys lab8 w.heap.size pv8 iv8 av8 w9 (Xa hft) (Xa HXN.symm) HT9.gr.size (Xa HT9.fr) HAO HSM (Xa HTG2.1) hN1 hN11).mono ?_;rintro e w10 ⟨lab',G',c2,pv',iv',av',rfl,hb,hf,h0,hlb⟩;have HT10:=Xa (HT9.turned hb (by rw[HXN.out];exact hf) h0 hlb);have hfb10:Bx w10 fb #[.int .i64 V,.slice (some ⟨G,0,none⟩) ys.length c'] 25:=HT9.fbx.keep (hb.block _ HT9.fbx.lt);have k0:w10.cell? ⟨fb,0,none⟩=some (.int .i64 (V:Int)):=Bx.cell hfb10 rfl;have k1:w10.cell? ⟨fb,1,none⟩=some (.slice (some ⟨G,0,none⟩) N c'):=by rw[<-HXN.out];exact Bx.cell hfb10 rfl
    have kz:=Bx.thaw hfb10;clear hb hf h0 hlb hfb10 f0 f1 hft;rw[HXN.out]at HT10
    go_wp2_with fail
    go_meet;rw[if_pos HR0.out];exact⟨_,_,_,_,_,_,HT10⟩
   ·have hrb:(r9==0)=false:=by simpa using hr
    have HR0:=Xa hr;clear hr
    go_wp2_with fail
    go_meet;rw[if_neg HR0.out];exact⟨_,_,_,_,_,_,HT9⟩
  case rest =>
   obtain⟨lab9,G2,c2,pv9,iv9,av9,HTx⟩:=hcut;clear HT9;have HXN2:Hid ((if r9=0 then YM ys else ys).length=N):=Xa (by by_cases h:r9=0;(rw[if_pos h,V9];exact HXN.out);(rw[if_neg h];exact HXN.out));have HSM2:Hid (JK (if r9=0 then YM ys else ys)):=Xa (by by_cases h:r9=0;(rw[if_pos h];exact ZeS (by have:=HXN.out;omega) (by have:=HXN.out;omega) HSM.out);(rw[if_neg h];exact HSM.out));have HPA2:Hid (PhA (if r9=0 then YM ys else ys)):=Xa (by by_cases h:r9=0;(rw[if_pos h];exact Zgb HTG2.2);(rw[if_neg h];exact ZhG HAO.out HTG2.2));generalize (if r9=0 then YM ys else ys)=zs at *;clear HXN HAO
   go_wp2_with fail
   refine(Xv sb B s9 3 wc (Xa HTx.dr) (by omega) (by omega)).mono ?_;rintro e w11 ⟨rfl,hd,hg⟩;have HT11:=Xa (HTx.call hg hd);clear hd hg HTx;generalize nextP s9 3=P11 at *;obtain⟨r11,s11⟩:=P11;dsimp only at HT11 HGP |-
   go_upto_if 271 with fail
   go_cut [] from 203 to 274 (fun wz=>∃lab pv iv av,Hid (GoT w wz lab sb B s11 fb V G2 c2 (if r11=0 then K6 V zs else zs) pv iv av))
   case first =>
    by_cases hr:r11=0
    ·have hrb:(r11==0)=true:=by simpa using hr
     have f0:w11.cell? ⟨fb,0,none⟩=some (.int .i64 (V:Int)):=Bx.cell HT11.fbx rfl;have f1:w11.cell? ⟨fb,1,none⟩=some (.slice (some ⟨G2,0,none⟩) N c2):=by rw[<-HXN2.out];exact Bx.cell HT11.fbx rfl
     have HR0:=Xa hr;clear hr
     go_wp2_with fail
     have hft:=HT11.fn;rw[HXN2.out]at hft;refine(Zcp V G2 N c2 zs lab9 w.heap.size pv9 iv9 av9 w11 (Xa hft) (Xa HXN2.symm) HT11.gr.size (Xa HT11.fr) hN11 (by omega) HSM2).mono ?_;rintro e w12 ⟨rfl,hb,hf,hk,h0⟩;have HT12:=Xa (HT11.renamed hb (by rw[HXN2.out];exact hf) hk h0);have hfb12:Bx w12 fb #[.int .i64 V,.slice (some ⟨G2,0,none⟩) zs.length c2] 25:=HT11.fbx.keep (hk _ HT11.fbx.lt HT11.fbl);have k0:w12.cell? ⟨fb,0,none⟩=some (.int .i64 (V:Int)):=Bx.cell hfb12 rfl;have k1:w12.cell? ⟨fb,1,none⟩=some (.slice (some ⟨G2,0,none⟩) N c2):=by rw[<-HXN2.out];exact Bx.cell hfb12 rfl
     have kz:=Bx.thaw hfb12;clear hb hf h0 hk hfb12 f0 f1 hft;rw[HXN2.out]at HT12
     go_wp2_with fail
     go_meet;rw[if_pos HR0.out];exact⟨_,_,_,_,HT12⟩
    ·have hrb:(r11==0)=false:=by simpa using hr
     have HR0:=Xa hr;clear hr
     go_wp2_with fail
     go_meet;rw[if_neg HR0.out];exact⟨_,_,_,_,HT11⟩
   case rest =>
    obtain⟨lab12,pv12,iv12,av12,HTy⟩:=hcut;clear HT11;have HXN3:Hid ((if r11=0 then K6 V zs else zs).length=N):=Xa (by by_cases h:r11=0;(rw[if_pos h,ZaC];exact HXN2.out);(rw[if_neg h];exact HXN2.out));have HSM3:Hid (JK (if r11=0 then K6 V zs else zs)):=Xa (by by_cases h:r11=0;(rw[if_pos h];exact ZgW HSM2.out);(rw[if_neg h];exact HSM2.out));have HPA3:Hid (PhA (if r11=0 then K6 V zs else zs)):=Xa (by by_cases h:r11=0;(rw[if_pos h];exact ZgQ HPA2.out);(rw[if_neg h];exact HPA2.out));generalize (if r11=0 then K6 V zs else zs)=us at *;have f0:wc.cell? ⟨fb,0,none⟩=some (.int .i64 (V:Int)):=Bx.cell HTy.fbx rfl;have f1:wc.cell? ⟨fb,1,none⟩=some (.slice (some ⟨G2,0,none⟩) N c2):=by rw[<-HXN3.out];exact Bx.cell HTy.fbx rfl
    have r0:wc.cell? ⟨w.heap.size,0,none⟩=some (.int .i64 0):=Bx.cell HTy.res rfl;have r1:wc.cell? ⟨w.heap.size,1,none⟩=some (.slice none 0 0):=Bx.cell HTy.res rfl;have rz:=Bx.thaw HTy.res;go_wp2;rw[HGP.out];refine bodyPost_ret (v:=.agg #[.int .i64 (V:Int),.slice (some ⟨G2,0,none⟩) N c2]) (by simp[results,Tryz.results54,go_sem,r0,r1]) rfl ⟨lab12,G2,N,c2,pv12,iv12,av12,rfl,?_,?_,?_,?_,?_,hN1,hN11,⟨V,rfl,by omega⟩,HSM3.out,HPA3.out⟩
    ·exact(HTy.dr.put HTy.bw).put HTy.bw
    ·exact XH (XH HTy.gr (Nat.le_refl _)) (Nat.le_refl _)
    ·have k1:XK wc ((wc.setCell ⟨w.heap.size,0,none⟩ (.int .i64 (V:Int))).setCell ⟨w.heap.size,1,none⟩ (.slice (some ⟨G2,0,none⟩) N c2)) lab12 lab12 w.heap.size (fun b=>b≠w.heap.size):=((XK.put _ _ _).trans (XK.put _ _ _)).weak (fun _ hb=>⟨hb,hb⟩)
     have nb:∀b,(lab12 b).1≠0->b≠w.heap.size:=fun b h1 e=>h1 (by rw[e,HTy.resl])
     have hf:=HTy.fn;rw[HXN3.out]at hf;exact hf.sp k1 0 (fun b h1 _ _ _=>nb b h1) (Or.inl (fun b e=>nb b (by rcases e with e | e<;>rw[e]<;>simp)))
    ·intro b hb
     exact HTy.fr b (by simpa [World.setCell]using hb)
    ·exact HXN3.symm
end Go.Proofs.YtkehcdfalcakmaaGreatDoor
