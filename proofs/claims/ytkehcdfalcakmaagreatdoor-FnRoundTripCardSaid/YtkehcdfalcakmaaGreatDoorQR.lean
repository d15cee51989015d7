import Derived.Test.YtkehcdfalcakmaaGreatDoorPM2
namespace Go.Proofs.YtkehcdfalcakmaaGreatDoor
set_option maxHeartbeats 2000000
open Go.RowKit Go.Shelf
def Zj:List Bool->List Nat->List Nat
 | k::ks,p::ps=>if k then p::Zj ks ps else Zj ks ps
 | _,_=>[]
theorem Zay(b:Nat):∀(ks:List Bool)(os:List Nat),XM ks (os.map fun o=>(⟨b,o,none⟩:Addr))=(Zj ks os).map fun o=>(⟨b,o,none⟩:Addr)
 | [],[]=>rfl
 | [],_::_=>rfl
 | _::_,[]=>rfl
 | k::ks,o::os=>by cases k<;>simp[XM,Zj,Zay b ks os]
def Kz:List Bool->List Int->List Int
 | [],_=>[]
 | true::ks,x::xs=>x::Kz ks xs
 | true::ks,[]=>0::Kz ks []
 | false::ks,xs=>0::Kz ks xs
def Zh0(k:Int)(d a b i:Bool)(nums:List Int):Xz:=⟨k,(Kz [d,a,b,i] nums).getD 0 0,(Kz [d,a,b,i] nums).getD 1 0,(Kz [d,a,b,i] nums).getD 2 0,(Kz [d,a,b,i] nums).getD 3 0⟩
def insN(k:Int)(nums:List Int):Xz:=Zh0 k (dB k) (aB k) (bB k) (iB k) nums
def Zh2(k:Int)(a t e:Bool)(nums:List Int):XN:=⟨k,(Kz [a,t,e] nums).getD 0 0,(Kz [a,t,e] nums).getD 1 0,(Kz [a,t,e] nums).getD 2 0⟩
def terN(k:Int)(nums:List Int):XN:=Zh2 k (k != 1) (k != 3) (k==2) nums
theorem KP{H b:Nat}(h:H<=b):∀(l:List (Nat × Int))(w0 w:World),Below H w0 w->Below H w0 (YG w b l)
 | [],_,_,k=>k
 | (o,x)::r,w0,w,k=>by rw[YG];exact KP h r w0 _ (k.setCell h _)
theorem ZeX(w:World)(b:Nat)(k:Int)(d a bb i:Bool)(nums:List Int)(hl:nums.length=[d,a,bb,i].count true)(h:Y0 w b 0 ⟨k,0,0,0,0⟩):Y0 (YG w b ((Zj [d,a,bb,i] [1,2,3,4]).zip nums)) b 0 (Zh0 k d a bb i nums):=by
 obtain⟨c0,c1,c2,c3,c4⟩:=h;simp only[Nat.zero_add]at c0 c1 c2 c3 c4;rcases nums with _ | ⟨x,_ | ⟨y,_ | ⟨z,_ | ⟨u,_ | ⟨v,r⟩⟩⟩⟩⟩<;>cases d<;>cases a<;>cases bb<;>cases i<;>first
  | (exfalso;simp at hl;done)
  | (exfalso;simp at hl;omega)
  | (refine⟨?_,?_,?_,?_,?_⟩<;>simp[YG,Zj,Zh0,Kz,c0,c1,c2,c3,c4,go_sem])
theorem ZeK(w:World)(b:Nat)(k:Int)(a t e:Bool)(nums:List Int)(hl:nums.length=[a,t,e].count true)(h:Y5 w b 0 ⟨k,0,0,0⟩):Y5 (YG w b ((Zj [a,t,e] [1,2,3]).zip nums)) b 0 (Zh2 k a t e nums):=by
 obtain⟨c0,c1,c2,c3⟩:=h;simp only[Nat.zero_add]at c0 c1 c2 c3;rcases nums with _ | ⟨x,_ | ⟨y,_ | ⟨z,_ | ⟨u,r⟩⟩⟩⟩<;>cases a<;>cases t<;>cases e<;>first
  | (exfalso;simp at hl;done)
  | (exfalso;simp at hl;omega)
  | (refine⟨?_,?_,?_,?_⟩<;>simp[YG,Zj,Zh2,Kz,c0,c1,c2,c3,go_sem])
theorem Zdm{α β:Type}:∀(l:List α)(r:List β),l.length=r.length->(l.zip r).map (·.1)=l
 | [],_,_=>by simp
 | _::_,[],h=>by simp at h
 | a::l,b::r,h=>by simp[Zdm l r (by simpa using h)]
theorem Zde{α β:Type}:∀(l:List α)(r:List β),l.length=r.length->(l.zip r).map (·.2)=r
 | [],[],_=>rfl
 | [],_::_,h=>by simp at h
 | _::_,[],h=>by simp at h
 | a::l,b::r,h=>by simp[Zde l r (by simpa using h)]
theorem ZbQ(ks:List Bool)(os:List Nat)(h:ks.length=os.length):(Zj ks os).length=ks.count true:=by
 induction ks generalizing os with
 | nil=>rfl
 | cons x r ih=>cases os with
  | nil=>simp at h
  | cons q s=>cases x<;>simp[Zj,ih s (by simpa using h)]
theorem Zah{N:Nat}:∀(ks:List Bool)(os:List Nat),(∀o∈os,o<N)->∀o∈Zj ks os,o<N
 | [],[],_,o,h=>by simp[Zj]at h
 | [],_::_,_,o,h=>by simp[Zj]at h
 | _::_,[],_,o,h=>by simp[Zj]at h
 | k::ks,p::os,hN,o,h=>by
  have ih:=Zah ks os (fun o ho=>hN o (List.mem_cons_of_mem _ ho)) o;cases k with
  | false=>simp only[Zj]at h;exact ih (by simpa using h)
  | true =>
   simp only[Zj,if_true,List.mem_cons]at h;rcases h with rfl | h
   ·exact hN _ (List.mem_cons_self ..)
   ·exact ih h
theorem ZaQ(b t N:Nat)(f:Nat->Value)(ks:List Bool)(os:List Nat)(nums:List Int)(v:Value)(base nc L2 B2:Nat)(na:Option Addr)(nn:Nat)(w:World)
 (ho:w.ownsRow base 113 1 v (XM ks (os.map fun o=>(⟨b,o,none⟩:Addr))).length ((XM ks (os.map fun o=>(⟨b,o,none⟩:Addr))).map ZK)) (hko:ks.length=os.length) (hcnt:nums.length=ks.count true) (hnn:nn=nums.length) (hn:nn<=1000000)
 (hrow:w.rowIs b t N f) (hN:∀o∈os,o<N) (hi:Xh w L2 B2 na nums) (hb1:b<base) (hb2:B2<=b) :
 ∃fa fc,v=.slice fa nn fc/\Calls Tryz.prog 102 #[.slice fa nn fc,.slice na nn nc] w fun e w'=>e=.returned (.tuple #[])/\w'=YG w b ((Zj ks os).zip nums):=by
 have hkl:=ZbQ ks os hko;obtain⟨fa,fc,rfl,hv⟩:=Ko ho;rw[Zay,List.map_map]at hv;have hz:(Zj ks os).length=nums.length:=by omega
 refine⟨fa,fc,by rw[Zay,List.length_map,List.length_map,hz,hnn],?_⟩;exact Zfo b t N f fa na nn nn fc nc base w.heap.size L2 B2 ((Zj ks os).zip nums) w (Xa (by simp[hz,hnn])) (Xa (Nat.le_refl _)) hn (Xa hrow) (Xa (fun q hq=>Zah ks os hN q.1 (List.of_mem_zip hq).1)) (Xa (by
  have e:((Zj ks os).zip nums).map (fun q=>ZK ⟨b,q.1,none⟩)=(Zj ks os).map (ZK ∘ fun o=>(⟨b,o,none⟩:Addr)):=by
   conv=>rhs;rw[<-Zdm _ _ hz]
   rw[List.map_map];rfl
  rw[e];exact hv)) (Xa (by rw[Zde _ _ hz];exact hi)) (Or.inl hb1) (Or.inr hb2)
theorem Zcr(w0 w:World)(k:Nat)(b nn nc L2 B2:Nat)(na:Option Addr)(nums:List Int)(hb:Below w0.heap.size w0 w)(hb0:w0.heap.size<=b)(hbl:b<w.heap.size)(hi:Y0 w b 0 ⟨k,0,0,0,0⟩){t:TypeId}{f:Nat->Value}(hrow:w.rowIs b t 5 f)(h1:1<=k)(h2:k<=13)(ht:Ym w)(hnn:nn=nums.length)(hcnt:nn=cntI k)(hn:nn<=1000000)(hna:Xh w L2 B2 na nums)(hB2:B2<=b) :
 Calls Tryz.prog 37 #[.pointer (some ⟨b,0,none⟩)] w fun e w5=>∃fa fc,e=.returned (.slice fa nn fc)/\Hid (Calls Tryz.prog 102 #[.slice fa nn fc,.slice na nn nc] w5 fun e w'=>e=.returned (.tuple #[])/\Hid (Below w0.heap.size w0 w')/\b<w'.heap.size/\Hid (Y0 w' b 0 (insN k nums))):=by
 refine(UG b k 0 0 0 0 w (Xa hi) h1 h2 (Xa ht)).mono ?_;rintro e w5 ⟨v,rfl,h5,ho⟩;have hs:=h5.size;have hc:nums.length=[dB k,aB k,bB k,iB k].count true:=by rw[<-hnn];exact hcnt
 obtain⟨fa,fc,rfl,hcall⟩:=ZaQ b t 5 f [dB k,aB k,bB k,iB k] [1,2,3,4] nums v w.heap.size nc L2 B2 na nn w5 ho rfl hc hnn hn (hrow.of_block (h5.block b hbl)) (by simp) (hna.keep (h5.mono (by omega))) hbl hB2;refine⟨fa,fc,rfl,Xa (hcall.mono ?_)⟩;rintro e w' ⟨rfl,rfl⟩;exact⟨rfl,Xa (KP hb0 _ _ _ (hb.trans (h5.mono hb.size))),by rw[TI];omega,Xa (ZeX w5 b k _ _ _ _ nums hc (hi.keepS (h5.block b hbl)))⟩
theorem Zc4(w0 w:World)(k:Nat)(b nn nc L2 B2:Nat)(na:Option Addr)(nums:List Int)(hb:Below w0.heap.size w0 w)(hb0:w0.heap.size<=b)(hbl:b<w.heap.size)(hi:Y5 w b 0 ⟨k,0,0,0⟩){t:TypeId}{f:Nat->Value}(hrow:w.rowIs b t 4 f)(h1:1<=k)(h2:k<=3)(ht:XR w)(hnn:nn=nums.length)(hcnt:nn=cntT k)(hn:nn<=1000000)(hna:Xh w L2 B2 na nums)(hB2:B2<=b) :
 Calls Tryz.prog 38 #[.pointer (some ⟨b,0,none⟩)] w fun e w5=>∃fa fc,e=.returned (.slice fa nn fc)/\Hid (Calls Tryz.prog 102 #[.slice fa nn fc,.slice na nn nc] w5 fun e w'=>e=.returned (.tuple #[])/\Hid (Below w0.heap.size w0 w')/\b<w'.heap.size/\Hid (Y5 w' b 0 (terN k nums))):=by
 refine(U0 b k 0 0 0 w (Xa hi) h1 h2 (Xa ht)).mono ?_;rintro e w5 ⟨v,rfl,h5,ho⟩;have hs:=h5.size;have hc:nums.length=[(k:Int) != 1,(k:Int) != 3,(k:Int)==2].count true:=by rw[<-hnn];exact hcnt
 obtain⟨fa,fc,rfl,hcall⟩:=ZaQ b t 4 f [(k:Int) != 1,(k:Int) != 3,(k:Int)==2] [1,2,3] nums v w.heap.size nc L2 B2 na nn w5 ho rfl hc hnn hn (hrow.of_block (h5.block b hbl)) (by simp) (hna.keep (h5.mono (by omega))) hbl hB2;refine⟨fa,fc,rfl,Xa (hcall.mono ?_)⟩;rintro e w' ⟨rfl,rfl⟩;exact⟨rfl,Xa (KP hb0 _ _ _ (hb.trans (h5.mono hb.size))),by rw[TI];omega,Xa (ZeK w5 b k _ _ _ nums hc (hi.keepS (h5.block b hbl)))⟩
end Go.Proofs.YtkehcdfalcakmaaGreatDoor
namespace Go.Proofs.YtkehcdfalcakmaaGreatDoor
set_option maxHeartbeats 4000000
set_option maxRecDepth 100000
open Go.RowKit Go.Shelf
theorem Zdr(W:World)(c:Array Value)(t:TypeId):(W.alloc (.cells c t)).rowIs W.heap.size t c.size (fun i=>c[i]!):=World.rowIs_alloc W c t _ (fun i hi=>by simp[hi])
theorem Zg8(R:Nat)(wd:Value)(V:Int)(B0:Nat)(pre:List Xf)(ps:List Ph)(is:List Xz)(va:Option Addr)(vn vc k:Nat)(na:Option Addr)(nn nc:Nat)(nums:List Int)(w0 w:World)(h:Hid (Vd w0 R wd V B0 ⟨pre,some (ps,is)⟩ va vn vc))(hb:Hid (Below w0.heap.size w0 w))(hvb:vn<=100000)(hil:is.length<=100000)(hk1:1<=k)(hk2:k<=13)(ht:Hid (Ym w))
 (hnn:Hid (nn=nums.length)) (hcnt:Hid (nn=cntI k)) (hnl:nn<=1000000) (hna:Hid (Xh w w0.heap.size w.heap.size na nums)) :
 Calls Tryz.prog 87 #[.pointer (some ⟨R,0,none⟩),UL 2 k,.slice na nn nc] w fun e w'=>e=.returned (.tuple #[])/\∃va' vn' vc',Vd w' R wd V B0 ⟨pre,some (ps,is++[insN k nums])⟩ va' vn' vc'/\Kb B0 R R w w':=by
 obtain⟨H,G,pa,pc,ia,ic,hva,hvn,hbo⟩:=h.st;dsimp only at hvn hbo;obtain⟨lo1,lo2⟩:=h.lo;have hbs:=hb.size;obtain⟨⟨lG0,lG1⟩,lH1,lH2⟩:=hbo.lo;have hw:=h.keep hb.out;have HBO:=Xa (hbo.keep (w':=w) (fun b _ h2=>hb.block b h2) hbs);obtain⟨H2,cs,⟨hH1,hH2⟩,hph,hio,hcs⟩:=HBO.insRow;have hRl:R<w.heap.size:=by omega
 have hGl:G<w.heap.size:=by omega
 have b1:=fun x=>Xb (Below.refl w.heap.size w) x
 obtain⟨m,hm⟩:∃m,pre.length=m:=⟨_,rfl⟩;have hvm:vn=m+1:=by omega
 have HLA:Hid (∀W,Below w.heap.size w W->Calls Tryz.prog 101 #[.pointer (some ⟨R,0,none⟩)] W fun e w'=>e=.returned (.pointer (some ⟨G,m*6,none⟩))/\w'=W.drew):=Xa (fun W hW=>Ur R wd V G m vc true W (by
  have q:=(hw.rd.keep (hW.block R hRl));rw[hva,hvm]at q;exact q) (by omega))
 have HUS:Hid (∀x,Calls Tryz.prog 37 #[.pointer (some ⟨w.heap.size+1,0,none⟩)] ((w.alloc x).alloc (.cells #[.int .i64 k,.int .i64 0,.int .i64 0,.int .i64 0,.int .i64 0] 53)) fun e w5=>∃fa fc,e=.returned (.slice fa nn fc)/\Hid (Calls Tryz.prog 102 #[.slice fa nn fc,.slice na nn nc] w5 fun e w'=>e=.returned (.tuple #[])/\Hid (Below w.heap.size w w')/\w.heap.size+1<w'.heap.size/\Hid (Y0 w' (w.heap.size+1) 0 (insN k nums)))):=Xa (fun x=>by
  have es:w.heap.size+1=(w.alloc x).heap.size:=(World.size_alloc _ _).symm;have hbb:=Xb (b1 x) (.cells #[.int .i64 k,.int .i64 0,.int .i64 0,.int .i64 0,.int .i64 0] 53);have hr:=Zdr (w.alloc x) #[.int .i64 k,.int .i64 0,.int .i64 0,.int .i64 0,.int .i64 0] 53;rw[<-es]at hr;exact Zcr w _ k (w.heap.size+1) nn nc w0.heap.size w.heap.size na nums hbb (by omega) (by simp) (Zdp _ k _ es) hr hk1 hk2 (ht.keep hbb ht.1) hnn.out hcnt.out hnl (hna.keep hbb) (by omega))
 have HAP:Hid (∀W,Below w.heap.size w W->W.ownsRow H2 53 5 (.slice ia is.length ic) is.length cs):=Xa (fun W hW=>YY hcs (fun b e=>hW.block b (hcs.lt b e).2));have HCL:Hid (∀W,Below w.heap.size w W->W.cell? ⟨G,m*6+1,none⟩=some (.slice ia is.length ic)):=Xa (fun W hW=>(hW.cell (p:=⟨G,m*6+1,none⟩) hGl).trans (by rw[<-hm];exact HBO.c1));generalize insN k nums=x at *;have HGW:Hid (∀W g' cap' wN,Below w.heap.size w W->wN.ownsRow H2 53 5 (.slice (some ⟨g',0,none⟩) (is.length+1) cap') (is.length+1) (cs++x.cells)->W.grownBy wN (Value.slice ia is.length ic).ownBlock->wN.cell? ⟨G,m*6+1,none⟩=some (.slice ia is.length ic)/\(∀o,wN.frozen? ⟨G,o,none⟩=false)/\(∀b o,w.heap.size<=b->b<W.heap.size->wN.cell? ⟨b,o,none⟩=W.cell? ⟨b,o,none⟩)/\Vd (wN.setCell ⟨G,m*6+1,none⟩ (.slice (some ⟨g',0,none⟩) (is.length+1) cap')) R wd V B0 ⟨pre,some (ps,is++[x])⟩ (some ⟨G,0,none⟩) (m+1) vc/\Kb B0 R R w (wN.setCell ⟨G,m*6+1,none⟩ (.slice (some ⟨g',0,none⟩) (is.length+1) cap'))):=Xa (fun W g' cap' wN hW ho hg=>by
  have hWs:=hW.size;have hgs:=hg.size;have hcs':=HAP.out W hW;have hbo':=HBO.keep (w':=W) (fun b _ h2=>hW.block b h2) hWs;have hin:=hbo'.ins (H2:=H2) ⟨hH1,by omega⟩ (hph.keepS (fun b _ h2=>hW.block b (by omega))) (hio.keep (fun b _ h2=>hW.block b h2)) hcs' x ho hg;rw[hm]at hin;have low:∀b,b<H2->wN.heap[b]?=W.heap[b]?:=fun b h1=>hg.block b (by omega) (fun e=>by have:=(hcs'.lt b e.symm).1;omega)
  have kG:=(low G (by omega)).trans (hW.block G hGl);have far:∀b,b≠G->(wN.setCell ⟨G,m*6+1,none⟩ (.slice (some ⟨g',0,none⟩) (is.length+1) cap')).heap[b]?=wN.heap[b]?:=fun b hb=>Below.heap_setCell _ _ _ _ hb
  have kR:=(low R (by omega)).trans (hW.block R hRl);have kR2:=(far R (by omega)).trans kR;have hrd:=hw.rd.keep kR2;rw[hva,hvm]at hrd;have hth:=fun o=>Kw HBO.own.choose_spec o
  refine⟨(Xc kG).trans (by rw[<-hm];exact HBO.c1),fun o=>(World.frozen?_of_block kG).trans (hth o),fun b o h1 h2=>Xc (hg.block b h2 (fun e=>by have:=(hcs.lt b e.symm).2;omega)),⟨hrd,⟨_,_,_,_,_,_,rfl,by show m+1=pre.length+1;rw[hm],hin⟩,fun o=>(World.frozen?_of_block kR2).trans (hw.fz o),⟨lo1,by rw[Xd];omega⟩⟩,Kb.low' (hg.os.trans hW.os) (hg.tape.trans hW.tape) (hg.output.trans hW.output) (by rw[Xd];omega) (fun b h1 h2=>(far b (by omega)).trans ((low b (by omega)).trans (hW.block b (by omega))))⟩)
 obtain⟨i0,hi0,hz0,hz1,hz2⟩:=info_parts Tryz.infoIns2;have nGb:G≠w.heap.size+1:=by omega
 have nbG:w.heap.size+1≠G:=by omega
 clear h hb hbo hw HBO hcs hna hnn hcnt hm hvm hva hvn hph hio ht b1 hk1 hk2;unfold UL;obtain⟨xo,xd,xa,xb,xi⟩:=x;generalize is.length=il at *
 go_enter Tryz.func87,Tryz.ntmps87
 go_wp2_with (first
  | (go_at_call 37;refine(HUS.out _).mono ?_;rintro e w5 ⟨fa,fc,rfl,HF⟩)
  | (go_at_call 102;refine HF.mono ?_;rintro e w6 ⟨rfl,HB6,hb6,HI6⟩;have hs6:=HB6.size;obtain⟨q0,q1,q2,q3,q4⟩:=HI6.out;simp only[Nat.zero_add]at q0 q1 q2 q3 q4;have g6:=HCL.out _ HB6.out;have g6a:=fun y=>HCL.out _ (Xb HB6.out y))
  | (go_at_call 101;refine(HLA.out _ HB6.out).mono ?_;rintro e w1 ⟨rfl,hw1⟩;rw[hw1];clear hw1 w1))
 refine YZ (fun w'=>w'.cell? ⟨w.heap.size+1,0,none⟩=some (.int .i64 xo)/\w'.cell? ⟨w.heap.size+1,1,none⟩=some (.int .i64 xd)/\w'.cell? ⟨w.heap.size+1,2,none⟩=some (.int .i64 xa)/\w'.cell? ⟨w.heap.size+1,3,none⟩=some (.int .i64 xb)/\w'.cell? ⟨w.heap.size+1,4,none⟩=some (.int .i64 xi)) (fun hHeld=>?_);refine Xl 0 ?_;refine Xl 1 ?_;refine Xl 2 ?_;refine Xl 3 ?_;refine Xl 5 ?_;refine wpAnyH_ready (rs:=[4,6]) (by kernel_rfl) (by simp) ?_;refine(AllReadyH.cons rfl (fun K hK=>?_) (AllReadyH.cons rfl (fun K hK=>?_) AllReadyH.nil))
 ·skip
  go_simp;refine hK _ _ (by first | with_reducible exact hHeld | ((try dsimp only);go_keep)) (fun hHeld=>?_);clear hK
  try simp only[Act.put,xA,xB,xC,xD,xE,xF]
  refine Xw 6 (fun K hK=>?_);go_simp;refine hK _ _ (by first | with_reducible exact hHeld | ((try dsimp only);go_keep)) (fun hHeld=>?_);clear hK;refine Xw 7 (fun K hK=>?_);refine step_append_lies _ rfl (.tmp 62) (.tmp 64) 39 rfl H2 53 i0 (.agg #[.int .i64 0,.int .i64 0,.int .i64 0,.int .i64 0,.int .i64 0]) 5 40 Tryz.underlying39 hi0 hz0 hz1 hz2 rfl (by decide) (.slice ia il ic) il cs (by simp[Act.eval]) (HAP.out _ (Xb HB6.out _).drew.drew) ⟨w6.heap.size,0,none⟩ 1 1 [.int .i64 xo,.int .i64 xd,.int .i64 xa,.int .i64 xb,.int .i64 xi] (by simp[Act.eval]) rfl (World.news_of_block (by have q:=Uv w6 (.cells #[.int .i64 xo,.int .i64 xd,.int .i64 xa,.int .i64 xb,.int .i64 xi] 53);exact q)) (by intro u hu;simp at hu;rcases hu with rfl | rfl | rfl | rfl | rfl<;>rfl) (by decide) (by unfold maxLen;omega) (by omega) (by simp;omega) (w6.heap.size+1) (by simp) ?_;intro g' cap' wN hown hgrow hat hlt2;obtain⟨d2,dz,dn,hrs,hkb⟩:=HGW.out _ _ _ _ (Xb HB6.out _).drew.drew hown hgrow;have HRS:=Xa hrs;have HKB:=Xa hkb;have dz0:=dz (m*6+1);obtain⟨s0,s1,s2,s3,s4⟩:=hHeld;have dn':=fun o=>dn (w.heap.size+1) o (by omega) (by show _<(w6.alloc _).heap.size;rw[World.size_alloc];omega)
  have r0:=(dn' 0).trans s0;have r1:=(dn' 1).trans s1;have r2:=(dn' 2).trans s2;have r3:=(dn' 3).trans s3;have r4:=(dn' 4).trans s4;clear hown hgrow hat hlt2 hrs hkb dz dn dn' s0 s1 s2 s3 s4;refine hK _ _ (by first | exact⟨r0,r1,r2,r3,r4⟩ | ((try dsimp only);go_keep)) (fun hHeld=>?_);clear hK;refine Xl 8 ?_;refine Xl 9 ?_;refine Xw 10 (fun K hK=>?_);go_simp;refine hK _ _ (by first | with_reducible exact hHeld | ((try dsimp only);go_keep)) (fun hHeld=>?_);clear hK;refine Y7 ?_;go_wp2;exact bodyPost_end (v:=.tuple #[]) (by simp[results,Tryz.results87,go_sem]) rfl ⟨rfl,_,_,_,HRS.out,HKB.out⟩
 ·skip
  go_simp;refine hK _ _ (by first | with_reducible exact hHeld | ((try dsimp only);go_keep)) (fun hHeld=>?_);clear hK
  try simp only[Act.put,xA,xB,xC,xD,xE,xF]
  refine Xw 4 (fun K hK=>?_);go_simp;refine hK _ _ (by first | with_reducible exact hHeld | ((try dsimp only);go_keep)) (fun hHeld=>?_);clear hK;refine Xw 7 (fun K hK=>?_);refine step_append_lies _ rfl (.tmp 62) (.tmp 64) 39 rfl H2 53 i0 (.agg #[.int .i64 0,.int .i64 0,.int .i64 0,.int .i64 0,.int .i64 0]) 5 40 Tryz.underlying39 hi0 hz0 hz1 hz2 rfl (by decide) (.slice ia il ic) il cs (by simp[Act.eval]) (HAP.out _ (Xb HB6.out _).drew.drew) ⟨w6.heap.size,0,none⟩ 1 1 [.int .i64 xo,.int .i64 xd,.int .i64 xa,.int .i64 xb,.int .i64 xi] (by simp[Act.eval]) rfl (World.news_of_block (by have q:=Uv w6 (.cells #[.int .i64 xo,.int .i64 xd,.int .i64 xa,.int .i64 xb,.int .i64 xi] 53);exact q)) (by intro u hu;simp at hu;rcases hu with rfl | rfl | rfl | rfl | rfl<;>rfl) (by decide) (by unfold maxLen;omega) (by omega) (by simp;omega) (w6.heap.size+1) (by simp) ?_;intro g' cap' wN hown hgrow hat hlt2;obtain⟨d2,dz,dn,hrs,hkb⟩:=HGW.out _ _ _ _ (Xb HB6.out _).drew.drew hown hgrow;have HRS:=Xa hrs;have HKB:=Xa hkb;have dz0:=dz (m*6+1);obtain⟨s0,s1,s2,s3,s4⟩:=hHeld;have dn':=fun o=>dn (w.heap.size+1) o (by omega) (by show _<(w6.alloc _).heap.size;rw[World.size_alloc];omega)
  have r0:=(dn' 0).trans s0;have r1:=(dn' 1).trans s1;have r2:=(dn' 2).trans s2;have r3:=(dn' 3).trans s3;have r4:=(dn' 4).trans s4;clear hown hgrow hat hlt2 hrs hkb dz dn dn' s0 s1 s2 s3 s4;refine hK _ _ (by first | exact⟨r0,r1,r2,r3,r4⟩ | ((try dsimp only);go_keep)) (fun hHeld=>?_);clear hK;refine Xl 8 ?_;refine Xl 9 ?_;refine Xw 10 (fun K hK=>?_);go_simp;refine hK _ _ (by first | with_reducible exact hHeld | ((try dsimp only);go_keep)) (fun hHeld=>?_);clear hK;refine Y7 ?_;go_wp2;exact bodyPost_end (v:=.tuple #[]) (by simp[results,Tryz.results87,go_sem]) rfl ⟨rfl,_,_,_,HRS.out,HKB.out⟩
theorem ZgE(R:Nat)(wd:Value)(V:Int)(B0:Nat)(pre:List Xf)(ps:List Ph)(is:List Xz)(va:Option Addr)(vn vc k:Nat)(na:Option Addr)(nn nc:Nat)(nums:List Int)(w0 w:World)(h:Hid (Vd w0 R wd V B0 ⟨pre,some (ps,is)⟩ va vn vc))(hb:Hid (Below w0.heap.size w0 w))(hvb:vn<=100000)(hk1:1<=k)(hk2:k<=3)(ht:Hid (XR w))
 (hnn:Hid (nn=nums.length)) (hcnt:Hid (nn=cntT k)) (hnl:nn<=1000000) (hna:Hid (Xh w w0.heap.size w.heap.size na nums)) :
 Calls Tryz.prog 87 #[.pointer (some ⟨R,0,none⟩),UL 3 k,.slice na nn nc] w fun e w'=>e=.returned (.tuple #[])/\∃va' vn' vc',Vd w' R wd V B0 ⟨pre++[⟨ps,is,terN k nums⟩],none⟩ va' vn' vc'/\Kb B0 R R w w':=by
 obtain⟨H,G,pa,pc,ia,ic,hva,hvn,hbo⟩:=h.st;dsimp only at hvn hbo;obtain⟨lo1,lo2⟩:=h.lo;have hbs:=hb.size;obtain⟨⟨lG0,lG1⟩,lH1,lH2⟩:=hbo.lo;have hw:=h.keep hb.out;have HBO:=Xa (hbo.keep (w':=w) (fun b _ h2=>hb.block b h2) hbs);have hRl:R<w.heap.size:=by omega
 have hGl:G<w.heap.size:=by omega
 have b1:=fun x=>Xb (Below.refl w.heap.size w) x
 obtain⟨m,hm⟩:∃m,pre.length=m:=⟨_,rfl⟩;have hvm:vn=m+1:=by omega
 have HLA:Hid (∀W,Below w.heap.size w W->Calls Tryz.prog 101 #[.pointer (some ⟨R,0,none⟩)] W fun e w'=>e=.returned (.pointer (some ⟨G,m*6,none⟩))/\w'=W.drew):=Xa (fun W hW=>Ur R wd V G m vc true W (by
  have q:=(hw.rd.keep (hW.block R hRl));rw[hva,hvm]at q;exact q) (by omega))
 have HUS:Hid (∀x,Calls Tryz.prog 38 #[.pointer (some ⟨w.heap.size+1,0,none⟩)] ((w.alloc x).alloc (.cells #[.int .i64 k,.int .i64 0,.int .i64 0,.int .i64 0] 41)) fun e w5=>∃fa fc,e=.returned (.slice fa nn fc)/\Hid (Calls Tryz.prog 102 #[.slice fa nn fc,.slice na nn nc] w5 fun e w'=>e=.returned (.tuple #[])/\Hid (Below w.heap.size w w')/\w.heap.size+1<w'.heap.size/\Hid (Y5 w' (w.heap.size+1) 0 (terN k nums)))):=Xa (fun x=>by
  have es:w.heap.size+1=(w.alloc x).heap.size:=(World.size_alloc _ _).symm;have hbb:=Xb (b1 x) (.cells #[.int .i64 k,.int .i64 0,.int .i64 0,.int .i64 0] 41);have hr:=Zdr (w.alloc x) #[.int .i64 k,.int .i64 0,.int .i64 0,.int .i64 0] 41;rw[<-es]at hr;exact Zc4 w _ k (w.heap.size+1) nn nc w0.heap.size w.heap.size na nums hbb (by omega) (by simp) (Zdv _ k _ es) hr hk1 hk2 (ht.keep hbb ht.1) hnn.out hcnt.out hnl (hna.keep hbb) (by omega))
 have HTK:Hid ((terN k nums).kind≠0):=Xa (by show(k:Int)≠0;omega);generalize terN k nums=t at *;have HCL:Hid (∀W,Below w.heap.size w W->(W.cell? ⟨G,m*6+2,none⟩=some (.int .i64 0)/\W.cell? ⟨G,m*6+2+1,none⟩=some (.int .i64 0)/\W.cell? ⟨G,m*6+2+2,none⟩=some (.int .i64 0)/\W.cell? ⟨G,m*6+2+3,none⟩=some (.int .i64 0))/\(∀o,W.frozen? ⟨G,o,none⟩=false)/\W.cell? ⟨R,3,none⟩=some (.bool true)/\(∀o,W.frozen? ⟨R,o,none⟩=false)/\Vd (((((W.setCell ⟨G,m*6+2,none⟩ (.int .i64 t.kind)).setCell ⟨G,m*6+2+1,none⟩ (.int .i64 t.a)).setCell ⟨G,m*6+2+2,none⟩ (.int .i64 t.to)).setCell ⟨G,m*6+2+3,none⟩ (.int .i64 t.els)).setCell ⟨R,3,none⟩ (.bool false)) R wd V B0 ⟨pre++[⟨ps,is,t⟩],none⟩ (some ⟨G,0,none⟩) (m+1) vc/\Kb B0 R R w (((((W.setCell ⟨G,m*6+2,none⟩ (.int .i64 t.kind)).setCell ⟨G,m*6+2+1,none⟩ (.int .i64 t.a)).setCell ⟨G,m*6+2+2,none⟩ (.int .i64 t.to)).setCell ⟨G,m*6+2+3,none⟩ (.int .i64 t.els)).setCell ⟨R,3,none⟩ (.bool false))):=Xa (fun W hW=>by
  have hWs:=hW.size;have kG:=hW.block G hGl;have kR:=hW.block R hRl;have hcl:=(HBO.keep (w':=W) (fun b _ h2=>hW.block b h2) hWs).close t HTK.out;obtain⟨t0,t1,t2,t3⟩:=HBO.ter;rw[hm]at hcl t0 t1 t2 t3;have far0:∀b,b≠G->((((W.setCell ⟨G,m*6+2,none⟩ (.int .i64 t.kind)).setCell ⟨G,m*6+2+1,none⟩ (.int .i64 t.a)).setCell ⟨G,m*6+2+2,none⟩ (.int .i64 t.to)).setCell ⟨G,m*6+2+3,none⟩ (.int .i64 t.els)).heap[b]?=W.heap[b]?:=fun b hb=>by rw[Below.heap_setCell _ _ _ _ hb,Below.heap_setCell _ _ _ _ hb,Below.heap_setCell _ _ _ _ hb,Below.heap_setCell _ _ _ _ hb]
  have hsz:((((W.setCell ⟨G,m*6+2,none⟩ (.int .i64 t.kind)).setCell ⟨G,m*6+2+1,none⟩ (.int .i64 t.a)).setCell ⟨G,m*6+2+2,none⟩ (.int .i64 t.to)).setCell ⟨G,m*6+2+3,none⟩ (.int .i64 t.els)).heap.size=W.heap.size:=by simp
  have ho:((((W.setCell ⟨G,m*6+2,none⟩ (.int .i64 t.kind)).setCell ⟨G,m*6+2+1,none⟩ (.int .i64 t.a)).setCell ⟨G,m*6+2+2,none⟩ (.int .i64 t.to)).setCell ⟨G,m*6+2+3,none⟩ (.int .i64 t.els)).os=W.os/\((((W.setCell ⟨G,m*6+2,none⟩ (.int .i64 t.kind)).setCell ⟨G,m*6+2+1,none⟩ (.int .i64 t.a)).setCell ⟨G,m*6+2+2,none⟩ (.int .i64 t.to)).setCell ⟨G,m*6+2+3,none⟩ (.int .i64 t.els)).tape=W.tape/\((((W.setCell ⟨G,m*6+2,none⟩ (.int .i64 t.kind)).setCell ⟨G,m*6+2+1,none⟩ (.int .i64 t.a)).setCell ⟨G,m*6+2+2,none⟩ (.int .i64 t.to)).setCell ⟨G,m*6+2+3,none⟩ (.int .i64 t.els)).output=W.output:=⟨rfl,rfl,rfl⟩;generalize ((((W.setCell ⟨G,m*6+2,none⟩ (.int .i64 t.kind)).setCell ⟨G,m*6+2+1,none⟩ (.int .i64 t.a)).setCell ⟨G,m*6+2+2,none⟩ (.int .i64 t.to)).setCell ⟨G,m*6+2+3,none⟩ (.int .i64 t.els))=U at *;have kU:=(far0 R (by omega)).trans kR;have far:∀b,b≠R->(U.setCell ⟨R,3,none⟩ (.bool false)).heap[b]?=U.heap[b]?:=fun b hb=>Below.heap_setCell _ _ _ _ hb
  have hrd:=hw.rd;have hrb:=hrd.blocks;rw[hva,hvm]at hrb;have oth:∀(j:Nat)(v:Value),3≠j->(U.setCell ⟨R,3,none⟩ v).cell? ⟨R,j,none⟩=U.cell? ⟨R,j,none⟩:=fun j v hij=>World.cell?_setCell_other _ _ _ _ (by intro e;injection e with _ e;exact hij e)
  have hth:=fun o=>Kw HBO.own.choose_spec o
  refine⟨⟨(Xc kG).trans t0,(Xc kG).trans t1,(Xc kG).trans t2,(Xc kG).trans t3⟩,fun o=>(World.frozen?_of_block kG).trans (hth o),(Xc kR).trans hrd.opened,fun o=>(World.frozen?_of_block kR).trans (hw.fz o),⟨⟨?_,?_,?_,?_⟩,⟨by simp[hm],hcl.keep (fun b h1 h2=>far b (by omega)) (by simp)⟩,fun o=>?_,⟨lo1,by rw[Xd];omega⟩⟩,Kb.low' (ho.1.trans hW.os) (ho.2.1.trans hW.tape) (ho.2.2.trans hW.output) (by rw[Xd];omega) (fun b h1 h2=>(far b h2).trans ((far0 b (by omega)).trans (hW.block b (by omega))))⟩
  ·rw[oth _ _ (by decide)];exact(Xc kU).trans hrd.words
  ·rw[oth _ _ (by decide)];exact(Xc kU).trans hrd.values
  ·rw[oth _ _ (by decide)];exact(Xc kU).trans hrb
  ·exact World.cell?_setCell_same _ _ _ ((Xc kU).trans hrd.opened)
  ·rw[World.frozen?_setCell];exact(World.frozen?_of_block kU).trans (hw.fz o))
 have nGb:G≠w.heap.size+1:=by omega
 have nbG:w.heap.size+1≠G:=by omega
 have nGR:G≠R:=by omega
 have nRG:R≠G:=by omega
 clear h hb hbo hw HBO hna hnn hcnt hm hvm hva hvn ht b1 hk1 hk2 HTK;unfold UL;obtain⟨xo,xa,xb,xi⟩:=t
 go_enter Tryz.func87,Tryz.ntmps87
 go_wp2_with (first
  | (go_at_call 38;refine(HUS.out _).mono ?_;rintro e w5 ⟨fa,fc,rfl,HF⟩)
  | (go_at_call 102;refine HF.mono ?_;rintro e w6 ⟨rfl,HB6,hb6,HI6⟩;have hs6:=HB6.size;obtain⟨q0,q1,q2,q3⟩:=HI6.out;simp only[Nat.zero_add]at q0 q1 q2 q3;obtain⟨⟨x0,x1,x2,x3⟩,xz,y3,yz,hrs,hkb⟩:=HCL.out _ HB6.out;have HRS:=Xa hrs;have HKB:=Xa hkb;clear hrs hkb))
 go_region_held3 (fun w'=>w'.cell? ⟨w.heap.size+1,0,none⟩=some (.int .i64 xo)/\w'.cell? ⟨w.heap.size+1,1,none⟩=some (.int .i64 xa)/\w'.cell? ⟨w.heap.size+1,2,none⟩=some (.int .i64 xb)/\w'.cell? ⟨w.heap.size+1,3,none⟩=some (.int .i64 xi)) (go_keep) ((go_at_call 101;refine(HLA.out _ HB6.drew).mono ?_;rintro e w1 ⟨rfl,hw1⟩;rw[hw1];clear hw1 w1))
 all_goals
  go_wp2;exact bodyPost_end (v:=.tuple #[]) (by simp[results,Tryz.results87,go_sem]) rfl ⟨rfl,_,_,_,HRS.keep (Below.refl _ _).drew.drew,HKB.drew.drew⟩
end Go.Proofs.YtkehcdfalcakmaaGreatDoor
namespace Go.Proofs.YtkehcdfalcakmaaGreatDoor
open Go.RowKit Go.Shelf
theorem Zd0{f:List UInt8}(h:Up false f=true):KM false f=Jz f:=by
 have h:digitsOk f 4=true:=h;show numV f 4=Jz f;unfold numV Jz;rw[if_pos h,if_pos h]
theorem Zgz{f:List UInt8}(h:Up true f=true):KM true f=J0 f:=by
 have h:Tx f=true:=h;show K7 f=J0 f;unfold K7;rw[if_pos h]
theorem Uj{q:Nat->Bool}(hq:∀i,q i=false):∀(r:List (List UInt8))(i:Nat),YO q i r=true->Y9 q i r=r.map Jz
 | [],_,_=>rfl
 | f::r,i,h=>by
  rw[YO,hq i,Bool.and_eq_true]at h;rw[Y9,hq i,Zd0 h.1,Uj hq r (i+1) h.2];rfl
def Zz(ro:Nat)(co:Nat)(nums:List Int)(s:K5):Option K5 :=
 if ro=0 then (match s.cur with | some _=>none | none=>some ⟨s.pre,some ([],[])⟩)
 else match s.cur with
  | none=>none
  | some (ps,is) =>
   if ro=1 then (if is=[]then some ⟨s.pre,some (ps++[⟨nums.getD 0 0,nums.tail⟩],is)⟩else none)
   else if ro=3 then some ⟨s.pre++[⟨ps,is,terN co nums⟩],none⟩
   else some ⟨s.pre,some (ps,is++[insN co nums])⟩
theorem Zf8(F:List UInt8)(r:List (List UInt8))(k:Nat)(hk:YW F=k)(h1:1<=k)(h2:k<=10)(hn:r.length=cntI k)(ho:YO (conAt 2 k r.length) 0 r=true):Ks (F::r)=insN k (Y9 (conAt 2 k r.length) 0 r):=by
 have e:Ks (F::r)=ZaS (F::r) k (KA k).length:=by unfold Ks;rw[List.headD_cons,hk]
 rw[e];clear e hk;have hc:k=1\/k=2\/k=3\/k=4\/k=5\/k=6\/k=7\/k=8\/k=9\/k=10:=by omega
 by_cases hk1:k=1
 ·subst hk1
  obtain⟨x,y,rfl⟩:∃x y,r=[x,y]:=by
   rw[show cntI 1=2 by decide]at hn
   match r,hn with
   | [x,y],_=>exact⟨x,y,rfl⟩
  simp only[YO,conAt,List.length_cons,List.length_nil,Bool.and_true,Bool.and_eq_true]at ho;simp only[Y9,conAt,List.length_cons,List.length_nil];obtain⟨o1,o2⟩:=ho;have v1:=Zd0 (f:=x) o1;have v2:=Zgz (f:=y) o2;show ZaS (F::[x,y]) 1 2=insN 1 [KM false x,KM true y];rw[v1,v2];rfl
 ·have hq:∀i,conAt 2 k r.length i=false:=fun i=>by simp[conAt,hk1]
  rw[Uj hq r 0 ho];clear ho hq;rcases hc with rfl | rfl | rfl | rfl | rfl | rfl | rfl | rfl | rfl | rfl
  ·exact absurd rfl hk1
  all_goals
   rcases r with _ | ⟨x,_ | ⟨y,_ | ⟨z,_ | ⟨u,t⟩⟩⟩⟩
   all_goals first
    | (exfalso;revert hn;simp[cntI,dB,aB,bB,iB];done)
    | rfl
theorem Zf9(F:List UInt8)(r:List (List UInt8))(k:Nat)(hF:(F=Jx/\k=1)\/(F=YL/\k=2)\/(F=TQ/\k=3))(hn:r.length=cntT k)(ho:YO (conAt 3 k r.length) 0 r=true):ZaD (F::r)=terN k (Y9 (conAt 3 k r.length) 0 r):=by
 have hq:∀i,conAt 3 k r.length i=false:=fun i=>by simp[conAt]
 rw[Uj hq r 0 ho];clear ho hq;rcases hF with⟨rfl,rfl⟩ | ⟨rfl,rfl⟩ | ⟨rfl,rfl⟩
 all_goals
  rcases r with _ | ⟨x,_ | ⟨y,_ | ⟨z,_ | ⟨u,t⟩⟩⟩⟩
  all_goals first
   | (exfalso;revert hn;simp[cntT];done)
   | rfl
theorem ZfY(F:List UInt8)(r:List (List UInt8))(co:Nat)(hn:2<=r.length)(ho:YO (conAt 1 co r.length) 0 r=true):Vp (F::r)=⟨(Y9 (conAt 1 co r.length) 0 r).getD 0 0,(Y9 (conAt 1 co r.length) 0 r).tail⟩:=by
 have hq:∀i,conAt 1 co r.length i=false:=fun i=>by simp[conAt]
 rw[Uj hq r 0 ho]
 match r,hn with
 | x::y::t,_=>rfl
theorem ZdG(s:K5)(F:List UInt8)(r:List (List UInt8))(ro co:Nat)(hw:ZD F=some (ro,co))(ht:Yy ro co r.length=true)(ho:YO (conAt ro co r.length) 0 r=true):Tp s (F::r)=Zz ro co (Y9 (conAt ro co r.length) 0 r) s:=by
 unfold Tp;rw[List.headD_cons];unfold ZD at hw;obtain⟨pre,cur⟩:=s;by_cases h0:YW F≠0
 ·rw[if_pos h0]at hw
  cases hw;obtain⟨⟨h1,h2⟩,n1,n2,n3,n4,n5⟩:=VW h0;have ek:YW F=((YW F).toNat:Int):=by omega
  have hnl:r.length=cntI (YW F).toNat:=by simpa [Yy]using ht
  have hl:=Zf8 F r (YW F).toNat ek (by omega) (by omega) hnl ho;unfold KR Zz;rw[if_neg n1,if_neg (by decide)];cases cur with
  | none=>rfl
  | some pi =>
   obtain⟨ps,is⟩:=pi;dsimp only;have ne:Wv F=false:=by
    unfold Wv;have a1:F≠[106,117,109,112]:=n2;have a2:F≠[114,101,116]:=n3;have a3:F≠[98,114,97,110,99,104]:=n4;simp[a1,a2,a3]
   rw[if_neg n5,if_neg (by rw[ne];decide),if_neg (by decide),if_neg (by decide),hl]
 ·rw[if_neg h0]at hw
  by_cases e1:F=Yw
  ·rw[if_pos e1]at hw
   cases hw;unfold KR Zz;rw[if_pos e1,if_pos rfl];cases cur<;>rfl
  ·rw[if_neg e1]at hw
   by_cases e2:F=wPhi
   ·rw[if_pos e2]at hw
    cases hw;unfold KR Zz;rw[if_neg e1,if_neg (by decide)];cases cur with
    | none=>rfl
    | some pi =>
     obtain⟨ps,is⟩:=pi;dsimp only;rw[if_pos e2,if_pos rfl,ZfY F r 0 (by simpa [Yy]using ht) ho]
   ·rw[if_neg e2]at hw
    have fin:∀k:Nat,(F=Jx/\k=1)\/(F=YL/\k=2)\/(F=TQ/\k=3)->some (3,k)=some (ro,co)->KR ⟨pre,cur⟩ F (F::r)=Zz ro co (Y9 (conAt ro co r.length) 0 r) ⟨pre,cur⟩:=fun k hk e=>by
     cases e;have hnl:r.length=cntT co:=by simpa [Yy]using ht
     have hl:=Zf9 F r co hk hnl ho;have he:Wv F=true:=by rcases hk with⟨rfl,_⟩ | ⟨rfl,_⟩ | ⟨rfl,_⟩<;>rfl
     unfold KR Zz;rw[if_neg e1,if_neg (by decide)];cases cur with
     | none=>rfl
     | some pi =>
      obtain⟨ps,is⟩:=pi;dsimp only;rw[if_neg e2,if_pos he,if_neg (by decide),if_pos rfl,hl]
    by_cases e3:F=Jx
    ·rw[if_pos e3]at hw;exact fin 1 (Or.inl ⟨e3,rfl⟩) hw
    ·rw[if_neg e3]at hw
     by_cases e4:F=YL
     ·rw[if_pos e4]at hw;exact fin 2 (Or.inr (Or.inl ⟨e4,rfl⟩)) hw
     ·rw[if_neg e4]at hw
      by_cases e5:F=TQ
      ·rw[if_pos e5]at hw;exact fin 3 (Or.inr (Or.inr ⟨e5,rfl⟩)) hw
      ·rw[if_neg e5]at hw;cases hw
theorem Zc3(ro co:Nat)(nums:List Int)(s:K5)(hr:ro<=3):(Zz ro co nums s).isSome=Zcf ro s.cur.isSome (match s.cur with | none=>0 | some (_,is)=>is.length):=by
 obtain⟨pre,cur⟩:=s;have hc:ro=0\/ro=1\/ro=2\/ro=3:=by omega
 cases cur with
 | none=>rcases hc with rfl | rfl | rfl | rfl<;>rfl
 | some pi =>
  obtain⟨ps,is⟩:=pi;rcases hc with rfl | rfl | rfl | rfl
  ·rfl
  ·cases is with
   | nil=>rfl
   | cons x r=>rfl
  ·rfl
  ·rfl
theorem Zgo{w:World}{base e n:Nat}{v:Value}{xs:List Value}(h:w.ownsRow base e 1 v n xs)(hn:0<n):∃g c,v=.slice (some ⟨g,0,none⟩) n c/\n<=c:=by
 obtain⟨_,h | ⟨g,cap,cur,rfl,_,_,hc,_⟩⟩:=h
 ·omega
 ·exact⟨g,cap,rfl,hc⟩
theorem Zg4(R:Nat)(wd:Value)(V:Int)(B0:Nat)(s s':K5)(va:Option Addr)(vn vc ro co n:Nat)(v:Value)(nums:List Int)(w0 w:World)(h:Vd w0 R wd V B0 s va vn vc)(hb:Below w0.heap.size w0 w)(htot:Yh s<=100000)(ht:Ym w)(ht2:XR w)(hro:ro<=3)(hci:ro=2->1<=co/\co<=10)(hct:ro=3->1<=co/\co<=3)
 (hv:w.ownsRow w0.heap.size 2 1 v n (nums.map (Value.int .i64))) (hnn:n=nums.length) (hnl:n<=1000000) (htk:Yy ro co n=true) (hs:Zz ro co nums s=some s') :
 Calls Tryz.prog 87 #[.pointer (some ⟨R,0,none⟩),UL ro co,v] w fun e w'=>e=.returned (.tuple #[])/\∃va' vn' vc',Vd w' R wd V B0 s' va' vn' vc'/\Kb B0 R R w w':=by
 have hvb:vn<=100000:=Nat.le_trans h.st.len htot;obtain⟨pre,cur⟩:=s;have hc:ro=0\/ro=1\/ro=2\/ro=3:=by omega
 obtain⟨a,c,rfl,hna⟩:=Yv hv;rw[<-hnn]at hv |-;rcases hc with rfl | rfl | rfl | rfl
 ·cases cur with
  | some pi=>exact absurd hs (by simp[Zz])
  | none =>
   have e:s'=⟨pre,some ([],[])⟩:=by simpa [Zz]using hs.symm
   subst e;exact(Zee R wd V B0 pre va vn vc co a n c w (Xa (h.keep hb)) hvb).mono (fun e w' h=>h)
 ·cases cur with
  | none=>exact absurd hs (by simp[Zz])
  | some pi =>
   obtain⟨ps,is⟩:=pi;cases is with
   | cons x r=>exact absurd hs (by simp[Zz])
   | nil =>
    have e:s'=⟨pre,some (ps++[⟨nums.getD 0 0,nums.tail⟩],[])⟩:=by simpa [Zz]using hs.symm
    subst e;have hn2:2<=n:=by simpa [Yy]using htk
    obtain⟨g,c',ev,hcap⟩:=Zgo hv (by omega);obtain⟨rfl,-,rfl⟩:=Value.slice.inj ev;exact(ZgA R wd V B0 pre ps va vn vc co g 0 n c nums w0 w (Xa h) (Xa hb) hvb (by simp only[Yh]at htot;omega) (Xa hnn) hn2 hnl hcap (Xa hna) (Xa (fun q=>Kw hv q))).mono (fun e w' h=>h)
 ·cases cur with
  | none=>exact absurd hs (by simp[Zz])
  | some pi =>
   obtain⟨ps,is⟩:=pi;have e:s'=⟨pre,some (ps,is++[insN co nums])⟩:=by simpa [Zz]using hs.symm
   subst e;have hk:=hci rfl;exact Zg8 R wd V B0 pre ps is va vn vc co a n c nums w0 w (Xa h) (Xa hb) hvb (by simp only[Yh]at htot;omega) hk.1 (by omega) (Xa ht) (Xa hnn) (Xa (by simpa [Yy]using htk)) hnl (Xa hna)
 ·cases cur with
  | none=>exact absurd hs (by simp[Zz])
  | some pi =>
   obtain⟨ps,is⟩:=pi;have e:s'=⟨pre++[⟨ps,is,terN co nums⟩],none⟩:=by simpa [Zz]using hs.symm
   subst e;have hk:=hct rfl;exact ZgE R wd V B0 pre ps is va vn vc co a n c nums w0 w (Xa h) (Xa hb) hvb hk.1 hk.2 (Xa ht2) (Xa hnn) (Xa (by simpa [Yy]using htk)) hnl (Xa hna)
end Go.Proofs.YtkehcdfalcakmaaGreatDoor
