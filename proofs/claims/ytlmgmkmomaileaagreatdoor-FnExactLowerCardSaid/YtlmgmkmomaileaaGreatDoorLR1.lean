import Derived.Test.YtlmgmkmomaileaaGreatDoorSQ5
namespace Go.Proofs.YtlmgmkmomaileaaGreatDoor
set_option maxHeartbeats 2000000
set_option maxRecDepth 100000
open Go.RowKit
def ZbJ(cs:List Int):Option Value->Value
 | some (.int .i64 z)=>.int .i64 (lcN cs z)
 | _=>.int .i64 0
def recW(cs:List Int)(g:Nat)(os:List Nat)(w:World):World:=os.foldl (fun W o=>W.drew.setCell ⟨g,o,none⟩ (ZbJ cs (W.cell? ⟨g,o,none⟩))) w
theorem ZfE(cs:List Int)(g:Nat)(os:List Nat)(o:Nat)(w:World):recW cs g (os++[o]) w=(recW cs g os w).drew.setCell ⟨g,o,none⟩ (ZbJ cs ((recW cs g os w).cell? ⟨g,o,none⟩)):=by
 unfold recW;rw[List.foldl_append];rfl
theorem Jh(cs:List Int)(g:Nat){b:Nat}(hb:b≠g):∀(os:List Nat)(w:World),(recW cs g os w).heap[b]?=w.heap[b]?
 | [],_=>rfl
 | o::os,w=>by
  show(recW cs g os _).heap[b]?=_;rw[Jh cs g hb os];exact Below.heap_setCell w.drew _ _ _ hb
theorem Kh(cs:List Int)(g:Nat){B:Nat}(hb:B<=g):∀(os:List Nat){w0 w:World},Below B w0 w->B<=w0.heap.size->Below B w0 (recW cs g os w)
 | [],_,_,h,_=>h
 | o::os,_,_,h,hB=>Kh cs g hb os (h.drew.setCell (p:=⟨g,o,none⟩) hb _) hB
def ZdA(cs:List Int)(os:List Nat)(A:List Value):List Value:=os.foldl (fun A o=>A.set o (ZbJ cs A[o]?)) A
theorem XJ.recW{lab:Nat->Nat × Nat × Nat}{L:Nat × Nat × Nat}{base t sz g n c:Nat}{cs:List Int}:∀(os:List Nat){w:World}{A:List Value},XJ w lab L base t sz (.slice (some ⟨g,0,none⟩) n c) n A->(∀o∈os,o<A.length)->XJ (recW cs g os w) lab L base t sz (.slice (some ⟨g,0,none⟩) n c) n (ZdA cs os A)
 | [],_,_,h,_=>h
 | o::os,w,A,h,hl=>by
  have hd:XJ w.drew lab L base t sz (.slice (some ⟨g,0,none⟩) n c) n A:=h.keep (fun b _ _ e=>⟨rfl,e⟩);have ho:o<A.length:=hl o sP;have hc:w.cell? ⟨g,o,none⟩=A[o]?:=by rw[List.getElem?_eq_getElem ho];exact h.cell (List.getElem?_eq_getElem ho)
  have hs:=hd.set o (ZbJ cs A[o]?);have:=XJ.recW os hs (cs:=cs) (fun q hq=>by rw[List.length_set];exact hl q (by simp[hq]));show XJ (Go.Proofs.YtlmgmkmomaileaaGreatDoor.recW cs g os (w.drew.setCell ⟨g,o,none⟩ (ZbJ cs (w.cell? ⟨g,o,none⟩)))) _ _ _ _ _ _ _ _;rw[hc];exact this
theorem Vu(lb g:Nat)(f0 f1 f3 f4 f5:Value)(ac:Option Addr)(nc cc:Nat)(cs:List Int)(Lc Bc:Nat)(fa:Option Addr)(n c:Nat)(os:List Nat)(L B:Nat)(w:World)(hbx:Hid (Bx w lb #[f0,f1,.slice ac nc cc,f3,f4,f5] 61))(hlg:lb≠g)(hc:Hid (Xf w Lc Bc ac cs))(hcx:Hid (nc=cs.length))(hBc:Bc<=g)(hgw:g<L)(hB:B<=w.heap.size)(hL:L<=B)
 (hp:Hid (Yk w L B fa (os.map fun o=>ZU ⟨g,o,none⟩))) (hn:Hid (n=os.length)) (hn9:n<=1000) (hz:∀q,w.frozen? ⟨g,q,none⟩=false)
 (hv:Hid (∀j (h:j<os.length),∃z:Nat,(recW cs g (os.take j) w).cell? ⟨g,os[j],none⟩=some (.int .i64 (z:Int))/\z<cs.length)) :
 Calls Tryz.prog 44 #[.pointer (some ⟨lb,0,none⟩),.slice fa n c] w fun e w'=>e=.returned (.tuple #[])/\w'=recW cs g os w:=by
 have hlbz:=hbx.lt;have HZ:Hid (∀j q,(recW cs g (os.take j) w).frozen? ⟨g,q,none⟩=false):=Xa (fun j q=>by
  have key:∀(os:List Nat)(w:World),(∀q,w.frozen? ⟨g,q,none⟩=false)->(recW cs g os w).frozen? ⟨g,q,none⟩=false:=by
   intro os
   induction os with
   | nil=>intro w h;exact h q
   | cons o os ih=>intro w h;exact ih _ (fun q=>by rw[World.frozen?_setCell];exact h q)
  exact key _ w hz)
 go_enter Tryz.func44,Tryz.ntmps44
 go_wp2
 go_loopw [8] (fun i wr=>∃j:Nat,j<=n/\i=.int .i64 j/\Hid (wr=recW cs g (os.take j) w)) (fun i _=>n-(intOf i).toNat)
 case atStart=>exact⟨0,Nat.zero_le _,rfl,Xa rfl⟩
 case round =>
  obtain⟨j,hj,rfl,HW⟩:=hrel;by_cases hlt:j<n
  ·have hjo:j<os.length:=by have:=hn.out;omega
   have HSN:Hid (recW cs g (os.take (j+1)) w=(recW cs g (os.take j) w).drew.setCell ⟨g,os[j],none⟩ (ZbJ cs ((recW cs g (os.take j) w).cell? ⟨g,os[j],none⟩))):=Xa (by rw[List.take_succ_eq_append_getElem hjo,ZfE]);obtain⟨z,hz1,hz2⟩:=hv.out j hjo;obtain⟨pb,po,rfl,⟨hp1,hp2⟩,hpc⟩:=hp.out j (by simpa using hjo);rw[List.getElem_map]at hpc;unfold ZU at hpc;have hpr:=(congrArg (fun (o:Option Obj)=>o) (Jh cs g (b:=pb) oM (os.take j) w));have hbr:Bx wr lb #[f0,f1,.slice ac nc cc,f3,f4,f5] 61:=hbx.keep (by rw[HW.out];exact Jh cs g hlg _ _);have l2:wr.cell? ⟨lb,2,none⟩=some (.slice ac nc cc):=Bx.cell hbr rfl;have hbw:Below g w wr:=by rw[HW.out];exact Kh cs g (Nat.le_refl _) _ (Below.refl _ _) oM
   have kp:wr.cell? ⟨pb,po+j,none⟩=some (.pointer (some ⟨g,os[j],none⟩)):=by rw[<-hpc];exact Xc (by rw[HW.out];exact hpr)
   obtain⟨cb,co,k1,hv1,hk1,rfl,hcb1,hcc1⟩:=Ja (hc.keep (hbw.mono hBc)) (v:=(z:Int)) oM oM;have k1e:k1=z:=oM;subst k1e;have hzr:wr.cell? ⟨g,os[j],none⟩=some (.int .i64 (k1:Int)):=by rw[HW.out];exact hz1
   have HN:Hid (recW cs g (os.take (j+1)) w=wr.drew.setCell ⟨g,os[j],none⟩ (.int .i64 (lcN cs (k1:Int)))):=Xa (by rw[HSN.out,<-HW.out,hzr];rfl);have hk1I:(k1:Int)<(nc:Int):=by have:=hcx.out;omega
   have fz:wr.frozen? ⟨g,os[j],none⟩=false:=by rw[HW.out];exact HZ.out j _
   have hgl:g≠pb:=oM;have hgc:g≠cb:=oM;have hgb:g≠lb:=fun e=>hlg e.symm
   generalize lcN cs (k1:Int)=z1 at *;obtain⟨oj,hoj⟩:∃oj,oj=os[j]:=⟨_,rfl⟩;rw[<-hoj]at kp hzr HN fz;clear hbr hbw hpr hpc hz1 HSN hoj hv1;go_wp2;refine Z1 (fun w'=>w'.cell? ⟨lb,2,none⟩=some (.slice (some ⟨cb,co,none⟩) nc cc)/\w'.cell? ⟨cb,co+k1,none⟩=some (.int .i64 z1)) (fun hHeld=>?_);refine Xi 0 ?_;refine Xi 1 ?_;refine Xi 2 ?_;refine Xi 3 ?_;refine Xi 4 ?_;refine Xi 5 ?_;refine Xi 6 ?_;refine Xt 7 (fun K hK=>?_);go_simp;refine hK _ _ kP (fun hHeld=>?_);clear hK;refine Xi 8 ?_;refine Xi 9 ?_;refine Xi 10 ?_;refine Xt 11 (fun K hK=>?_);go_simp;refine hK _ _ kP (fun hHeld=>?_);clear hK;refine YA ?_;clear hHeld;go_wp2;exact⟨⟨j+1,oM,gM,Xa HN.symm⟩,by simp[intOf];omega⟩
  ·have hjn:j=os.length:=by have:=hn.out;omega
   have hjI:¬(j:Int)<(n:Int):=oM
   go_wp2_with fail
   refine bodyPost_end (v:=.tuple #[]) (by simp[results,Tryz.results44,go_sem]) rfl ⟨rfl,?_⟩;rw[HW.out,hjn,List.take_length]
end Go.Proofs.YtlmgmkmomaileaaGreatDoor
namespace Go.Proofs.YtlmgmkmomaileaaGreatDoor
set_option maxHeartbeats 2000000
set_option maxRecDepth 100000
open Go.RowKit Go.Lib
theorem WL(b o k:Nat)(w:World)(q0:w.cell? ⟨b,o,none⟩=some (.int .i64 (k:Int)))(h1:1<=k)(h2:k<=13)(ht:Hid (XQ w)) :
 Calls Tryz.prog 45 #[.pointer (some ⟨b,o,none⟩)] w fun e w'=>∃v,e=.returned v/\Below w.heap.size w w'/\w'.ownsRow w.heap.size 147 1 v (XD [dB (k:Int),aB (k:Int),bB (k:Int)] [⟨b,o+1,none⟩,⟨b,o+2,none⟩,⟨b,o+3,none⟩]).length ((XD [dB (k:Int),aB (k:Int),bB (k:Int)] [⟨b,o+1,none⟩,⟨b,o+2,none⟩,⟨b,o+3,none⟩]).map ZU):=by
 obtain⟨c0,c1,c2,c3,c4⟩:=ht.2 k h1 h2;have hz:=ht.1;have hbl:b<w.heap.size:=World.block_lt_of_cell? w _ q0;generalize dB (k:Int)=uD at *;generalize aB (k:Int)=uA at *;generalize bB (k:Int)=uB at *;generalize iB (k:Int)=uI at *
 go_enter Tryz.func45,Tryz.ntmps45
 go_wp2_with fail
 have e1:(w.alloc (.cells #[.string (YS (ZN k)),.bool uD,.bool uA,.bool uB,.bool uI] 150)).heap.size=w.heap.size+1:=sP;have g1:(w.alloc (.cells #[.string (YS (ZN k)),.bool uD,.bool uA,.bool uB,.bool uI] 150)).cell? ⟨w.heap.size,1,none⟩=some (.bool uD):=sP;have g2:(w.alloc (.cells #[.string (YS (ZN k)),.bool uD,.bool uA,.bool uB,.bool uI] 150)).cell? ⟨w.heap.size,2,none⟩=some (.bool uA):=sP;have g3:(w.alloc (.cells #[.string (YS (ZN k)),.bool uD,.bool uA,.bool uB,.bool uI] 150)).cell? ⟨w.heap.size,3,none⟩=some (.bool uB):=sP;have HBW:Hid (Below w.heap.size w (w.alloc (.cells #[.string (YS (ZN k)),.bool uD,.bool uA,.bool uB,.bool uI] 150))):=Xa (Xb (Below.refl _ _) _);generalize w.alloc (.cells #[.string (YS (ZN k)),.bool uD,.bool uA,.bool uB,.bool uI] 150)=W0 at *;clear q0 c0 c1 c2 c3 c4;have HE1:=Xa e1;have hlt:w.heap.size<W0.heap.size:=oM;clear e1;have KEY:Hid (∀(ka fa:Option Addr)(W:World),Below W0.heap.size W0 W->Yk W W0.heap.size W.heap.size ka ([uD,uA,uB].map Value.bool)->Yk W W0.heap.size W.heap.size fa ([⟨b,o+1,none⟩,⟨b,o+2,none⟩,⟨b,o+3,none⟩].map ZU)->Calls Tryz.prog 77 #[.slice ka 3 3,.slice fa 3 3] W fun e w5=>∃v5,e=.returned v5/\w5.cell? ⟨w.heap.size,1,none⟩=some (.bool uD)/\w5.cell? ⟨w.heap.size,2,none⟩=some (.bool uA)/\w5.cell? ⟨w.heap.size,3,none⟩=some (.bool uB) /\
  Hid (Below w.heap.size w w5)/\Hid (w5.ownsRow w.heap.size 147 1 v5 (XD [uD,uA,uB] [⟨b,o+1,none⟩,⟨b,o+2,none⟩,⟨b,o+3,none⟩]).length ((XD [uD,uA,uB] [⟨b,o+1,none⟩,⟨b,o+2,none⟩,⟨b,o+3,none⟩]).map ZU))):=Xa (fun ka fa W hW hk hp=>by
  have hsz:=hW.size;refine(Jp ka fa 3 3 [uD,uA,uB] [⟨b,o+1,none⟩,⟨b,o+2,none⟩,⟨b,o+3,none⟩] W0.heap.size W.heap.size W (Nat.le_refl _) (Xa hk) (Xa hp) (Xa rfl) sP).mono ?_;rintro e w5 ⟨v5,rfl,hb5,ho5⟩;have s5:=hb5.size;have k5:Below W0.heap.size W0 w5:=Xd hW hb5;exact⟨v5,rfl,(k5.cell (p:=⟨w.heap.size,1,none⟩) hlt).trans g1,(k5.cell (p:=⟨w.heap.size,2,none⟩) hlt).trans g2,(k5.cell (p:=⟨w.heap.size,3,none⟩) hlt).trans g3,Xa (HBW.trans (k5.mono oM)),Xa (X9 ho5 oM)⟩)
 have e2:∀x y,((W0.alloc x).alloc y).drew.heap.size=W0.heap.size+2:=fun x y=>by show((W0.alloc x).alloc y).heap.size=_;simp
 have HCH1:=Xa (KEY.out (some ⟨W0.heap.size,0,none⟩) (some ⟨W0.heap.size+1,0,none⟩) ((W0.alloc (.cells #[.bool uD,.bool uA,.bool uB] 4)).alloc (.cells #[.pointer (some ⟨b,o+1,none⟩),.pointer (some ⟨b,o+2,none⟩),.pointer (some ⟨b,o+3,none⟩)] 147)).drew (Xb (Xb (Below.refl W0.heap.size W0) _) _).drew (by rw[e2];exact YR W0 [.bool uD,.bool uA,.bool uB] 4 [.pointer (some ⟨b,o+1,none⟩),.pointer (some ⟨b,o+2,none⟩),.pointer (some ⟨b,o+3,none⟩)] 147) (by rw[e2];exact YP W0 [.pointer (some ⟨b,o+1,none⟩),.pointer (some ⟨b,o+2,none⟩),.pointer (some ⟨b,o+3,none⟩)] 147 [.bool uD,.bool uA,.bool uB] 4));have HCH2:=Xa (KEY.out (some ⟨W0.heap.size+1,0,none⟩) (some ⟨W0.heap.size,0,none⟩) ((W0.alloc (.cells #[.pointer (some ⟨b,o+1,none⟩),.pointer (some ⟨b,o+2,none⟩),.pointer (some ⟨b,o+3,none⟩)] 147)).alloc (.cells #[.bool uD,.bool uA,.bool uB] 4)).drew (Xb (Xb (Below.refl W0.heap.size W0) _) _).drew (by rw[e2];exact YP W0 [.bool uD,.bool uA,.bool uB] 4 [.pointer (some ⟨b,o+1,none⟩),.pointer (some ⟨b,o+2,none⟩),.pointer (some ⟨b,o+3,none⟩)] 147) (by rw[e2];exact YR W0 [.pointer (some ⟨b,o+1,none⟩),.pointer (some ⟨b,o+2,none⟩),.pointer (some ⟨b,o+3,none⟩)] 147 [.bool uD,.bool uA,.bool uB] 4));clear KEY HBW e2
 go_region_held3 (fun w'=>w'.cell? ⟨w.heap.size,1,none⟩=some (.bool uD)/\w'.cell? ⟨w.heap.size,2,none⟩=some (.bool uA)/\w'.cell? ⟨w.heap.size,3,none⟩=some (.bool uB)) (go_keep)
  (first
   | (go_at_call 77;with_reducible refine HCH1.out.mono ?_;rintro e w5 ⟨v5,rfl,f1,f2,f3,HB5,HO5⟩)
   | (go_at_call 77;with_reducible refine HCH2.out.mono ?_;rintro e w5 ⟨v5,rfl,f1,f2,f3,HB5,HO5⟩))
 all_goals
  go_wp2
  go_ret
  exact⟨_,rfl,HB5.out,HO5.out⟩
theorem Tryz.infoLC:(Tryz.prog.info? 54).map (fun i=>(i.zero,i.size,i.bytes))=some (some (.agg #[.int .i64 0,.int .i64 0,.int .i64 0,.int .i64 0,.int .i64 0]),5,40):=vZ
theorem Zhs{w:World}{L B:Nat}{ad:Addr}{ys:List XN}(h:X0 w L B (some ad) ys):∀(j:Nat)(u:Value),(Y1 ys)[j]?=some u->w.cell? (ad.add j)=some u:=by
 intro j u hu;have hl:j<(Y1 ys).length:=by
  rcases Nat.lt_or_ge j (Y1 ys).length with h | h
  ·exact h
  ·rw[List.getElem?_eq_none h]at hu;cases hu
 have hi:j / 5<ys.length:=by rw[YT]at hl;omega
 obtain⟨g,o,e,_,c0,c1,c2,c3,c4⟩:=h (j / 5) hi;cases e;have e2:=Td (sz:=5) (f:=fun _ (x:XN)=>[.int .i64 x.op,.int .i64 x.dst,.int .i64 x.a,.int .i64 x.b,.int .i64 x.imm]) (fun _ _=>rfl) 0 ys (j / 5) hi (j % 5) (Nat.mod_lt _ oM);rw[<-Wa ys 0,show j / 5*5+j % 5=j by omega,hu]at e2;have ha:(⟨g,o,none⟩:Addr).add j=⟨g,o+j,none⟩:=by cases j<;>simp[Addr.add]
 rw[ha];have hm:j % 5=0\/j % 5=1\/j % 5=2\/j % 5=3\/j % 5=4:=oM;rcases hm with q | q | q | q | q<;>rw[q]at e2<;>cases e2
 ·rw[show o+j=o+j / 5*5 by omega];exact c0
 ·rw[show o+j=o+j / 5*5+1 by omega];exact c1
 ·rw[show o+j=o+j / 5*5+2 by omega];exact c2
 ·rw[show o+j=o+j / 5*5+3 by omega];exact c3
 ·rw[show o+j=o+j / 5*5+4 by omega];exact c4
theorem Zct(a:Option Addr)(n c:Nat)(ys:List XN)(L B:Nat)(w:World)(hv:Hid (X0 w L B a ys))(hx:Hid (n=ys.length))(hn:n<=1048576)(hB:B<=w.heap.size) :
 Calls Tryz.prog 43 #[.slice a n c] w fun e w'=>∃v,e=.returned v/\Below w.heap.size w w'/\w'.ownsRow w.heap.size 54 5 v ys.length (Y1 ys):=by
 obtain⟨i0,hi0,hz0,hz1,hz2⟩:=info_parts Tryz.infoLC;have q22:∀(w:World)(a:Option Addr)(n c n' c':Nat),(binOp .eql 46 (.slice a n c) (.slice none n' c')).run Tryz.prog w=.ok (.bool a.isNone) w:=fun w a n c n' c'=>Lib.run_eql_slice_nil w _ _ a n c n' c' Tryz.underlying46
 cases a with
 | none =>
  have h0:ys=[]:=by
   cases ys with
   | nil=>rfl
   | cons y r=>obtain⟨g,o,e,_⟩:=hv.out 0 sP;cases e
  subst h0
  go_enter Tryz.func43,Tryz.ntmps43
  go_wp2
  go_ret
  exact⟨_,rfl,Below.refl _ _,World.ownsRow_nil _ _ _ _⟩
 | some ad =>
  have HON:=Xa (ZJ ys);have HLN:=Xa (YT ys);have HOW:Hid ((w.alloc (.cells #[] 54)).ownsRow w.heap.size 54 5 (.slice (some ⟨w.heap.size,0,none⟩) 0 0) 0 []):=Xa (by
   have:=World.ownsRow_lit (base:=w.heap.size) (e:=54) (size:=5) w #[] 0 sP sP rfl;simpa using this)
  have HNW:=Xa (Zhs (hv.keep (Below.alloc (Below.refl B w) hB (.cells #[] 54))))
  go_enter Tryz.func43,Tryz.ntmps43
  go_wp2_with (at_builtin;refine wpList_append_own_at _ rfl _ _ 46 rfl w.heap.size 54 i0 (.agg #[.int .i64 0,.int .i64 0,.int .i64 0,.int .i64 0,.int .i64 0]) 5 40 Tryz.underlying46 hi0 hz0 hz1 hz2 rfl dC _ 0 [] rfl HOW.out ad n c (Y1 ys) rfl ?v1 HNW.out ?v2 ?v3 ?v4 ?v5 ?_)
  case v1=>rw[HLN.out,hx.out]
  case v2=>exact HON.out
  case v3=>unfold maxLen;omega
  case v4=>omega
  case v5=>simp
  intro v8 w8 hown8 hg8 hne8 hat8;have HB8:Hid (Below w.heap.size w w8):=Xa (Xr (Below.alloc (Below.refl _ _) (Nat.le_refl _) _) hg8 HOW.out (Nat.le_refl _) sP);have HO8:Hid (w8.ownsRow w.heap.size 54 5 v8 ys.length (Y1 ys)):=Xa (by rw[<-hx.out];simpa using hown8);clear hown8 hg8 hne8 hat8;go_wp2
  go_ret
  exact⟨_,rfl,HB8.out,HO8.out⟩
end Go.Proofs.YtlmgmkmomaileaaGreatDoor
namespace Go.Proofs.YtlmgmkmomaileaaGreatDoor
open Go.RowKit
def keepN:List Bool->List Nat->List Nat
 | k::ks,p::ps=>if k then p::keepN ks ps else keepN ks ps
 | _,_=>[]
theorem UT(g:Nat):∀(ks:List Bool)(os:List Nat),(XD ks (os.map fun o=>⟨g,o,none⟩)).map ZU=(keepN ks os).map fun o=>ZU ⟨g,o,none⟩
 | [],_=>by simp[XD,keepN]
 | k::ks,[]=>by simp[XD,keepN]
 | k::ks,o::os=>by cases k<;>simp[XD,keepN,UT g ks os]
theorem Zdg(cs:List Int)(P:List Value):∀(os:List Nat)(R:List Value),ZdA cs (os.map fun o=>P.length+o) (P++R)=P++ZdA cs os R
 | [],_=>rfl
 | o::os,R=>by
  show ZdA cs (os.map fun o=>P.length+o) ((P++R).set (P.length+o) (ZbJ cs (P++R)[P.length+o]?))=P++ZdA cs os (R.set o (ZbJ cs R[o]?));rw[List.set_append_right _ _ oM,List.getElem?_append_right oM,Nat.add_sub_cancel_left,Zdg cs P os]
theorem ZhG(cs:List Int)(x:XN)(S:List Value):ZdA cs (keepN [dB x.op,aB x.op,bB x.op] [1,2,3]) (XN.cells x++S)=XN.cells (YC cs x)++S:=by
 unfold YC XN.cells;cases dB x.op<;>cases aB x.op<;>cases bB x.op<;>rfl
theorem ZaD(A:List XN)(x:XN)(B:List XN):Y1 (A++x::B)=Y1 A++(XN.cells x++Y1 B):=by rw[Z9,Wh];rfl
theorem Zgx(cs:List Int)(A:List XN)(x:XN)(B:List XN):ZdA cs (keepN [dB x.op,aB x.op,bB x.op] [A.length*5+1,A.length*5+2,A.length*5+3]) (Y1 (A++x::B))=Y1 (A++YC cs x::B):=by
 have e:keepN [dB x.op,aB x.op,bB x.op] [A.length*5+1,A.length*5+2,A.length*5+3]=(keepN [dB x.op,aB x.op,bB x.op] [1,2,3]).map fun o=>(Y1 A).length+o:=by
  rw[YT];cases dB x.op<;>cases aB x.op<;>cases bB x.op<;>rfl
 rw[e,ZaD,Zdg,ZhG,<-ZaD]
theorem Ww(cs:List Int)(g:Nat){q:Nat}:∀(os:List Nat)(w:World),q ∉ os->(recW cs g os w).cell? ⟨g,q,none⟩=w.cell? ⟨g,q,none⟩
 | [],_,_=>rfl
 | o::os,w,h=>by
  show(recW cs g os _).cell? _=_;rw[Ww cs g os _ (fun hm=>h (List.mem_cons_of_mem _ hm))];have:o≠q:=fun e=>h (by rw[e];exact List.mem_cons_self)
  exact World.cell?_setCell_other w.drew _ _ _ (fun e=>this (by injection e))
theorem ZeB{cs:List Int}{g:Nat}{os:List Nat}{w:World}(h:∀o∈os,∃z:Nat,w.cell? ⟨g,o,none⟩=some (.int .i64 (z:Int))/\z<cs.length)(hd:os.Nodup):∀j (h:j<os.length),∃z:Nat,(recW cs g (os.take j) w).cell? ⟨g,os[j],none⟩=some (.int .i64 (z:Int))/\z<cs.length:=fun j hj=>by
 obtain⟨z,h1,h2⟩:=h _ (List.getElem_mem hj);refine⟨z,?_,h2⟩;rw[Ww cs g _ _ (fun hm=>?_)]
 ·exact h1
 ·obtain⟨i,hi,e⟩:=List.getElem_of_mem hm
  rw[List.getElem_take]at e;rw[List.length_take]at hi;have:=(List.getElem_inj hd).1 e;omega
theorem ZjS{V:Nat}{cs:List Int}(hV:V=cs.length){x:XN}(h1:∀v∈rdI x,0<=v/\v<V)(h2:∀v∈writesI x,0<=v/\v<V){w:World}{g o:Nat}(hi:Yd w g o x):∀q∈keepN [dB x.op,aB x.op,bB x.op] [o+1,o+2,o+3],∃z:Nat,w.cell? ⟨g,q,none⟩=some (.int .i64 (z:Int))/\z<cs.length:=by
 obtain⟨_,c1,c2,c3,_⟩:=hi;have key:∀(v:Int)(q:Nat),w.cell? ⟨g,q,none⟩=some (.int .i64 v)->0<=v/\v<V->∃z:Nat,w.cell? ⟨g,q,none⟩=some (.int .i64 (z:Int))/\z<cs.length:=fun v q hc hv=>⟨v.toNat,by rw[hc];congr 2;omega,oM⟩
 unfold rdI at h1;unfold writesI at h2;intro q hq;have hq':(dB x.op=true/\q=o+1)\/(aB x.op=true/\q=o+2)\/(bB x.op=true/\q=o+3):=by
  revert hq;cases dB x.op<;>cases aB x.op<;>cases bB x.op<;>simp[keepN]
 rcases hq' with⟨hu,rfl⟩ | ⟨hu,rfl⟩ | ⟨hu,rfl⟩
 ·exact key _ _ c1 (h2 _ (by simp[hu]))
 ·exact key _ _ c2 (h1 _ (by simp[hu]))
 ·exact key _ _ c3 (h1 _ (by simp[hu]))
theorem Zcg(u1 u2 u3:Bool)(o:Nat):(keepN [u1,u2,u3] [o+1,o+2,o+3]).Nodup:=by
 cases u1<;>cases u2<;>cases u3<;>simp[keepN]
theorem Zgw(u1 u2 u3:Bool)(o:Nat):∀q∈keepN [u1,u2,u3] [o+1,o+2,o+3],o<q/\q<o+4:=by
 cases u1<;>cases u2<;>cases u3<;>simp[keepN]<;>omega
end Go.Proofs.YtlmgmkmomaileaaGreatDoor
namespace Go.Proofs.YtlmgmkmomaileaaGreatDoor
set_option maxHeartbeats 4000000
set_option maxRecDepth 100000
open Go.RowKit
structure ClS(w0 wr:World)(base ob:Nat)(v:Value)(t:Zu)(ys:List XN):Prop where
 low:Below base w0 wr
 bx:Bx wr ob #[v,.int .i64 t.kind,.int .i64 t.a,.int .i64 t.to,.int .i64 t.els] 52
 row:wr.ownsRow base 54 5 v ys.length (Y1 ys)
 ne:v.ownBlock≠some ob
 le:base<=ob
theorem Zdq(lb V:Nat)(f0 f1 f3 f4 f5:Value)(ac:Option Addr)(nc cc:Nat)(cs:List Int)(Lc Bc:Nat)(pv:Value)(ia:Option Addr)(n ic:Nat)(ys:List XN)(k:Nat)(ta tt te:Int)(L B:Nat)(w:World)(hbx:Hid (Bx w lb #[f0,f1,.slice ac nc cc,f3,f4,f5] 61))(hc:Hid (Xf w Lc Bc ac cs))(hcx:Hid (nc=cs.length))(hcV:Hid (V=cs.length))(hBc:Bc<=w.heap.size)(hB:B<=w.heap.size)
 (hi:Hid (X0 w L B ia ys)) (hn:Hid (n=ys.length)) (hn9:n<=4000) (hO:Hid (XQ w)) (hT:Hid (Ye w)) (hop:Hid (∀y∈ys,1<=y.op/\y.op<=13)) (hrd:Hid (∀y∈ys,(∀v∈rdI y,0<=v/\v<V)/\(∀v∈writesI y,0<=v/\v<V))) (hk1:1<=k) (hk2:k<=3) (hrt:Hid (∀v∈rdT ⟨k,ta,tt,te⟩,0<=v/\v<V)) :
 Calls Tryz.prog 23 #[.pointer (some ⟨lb,0,none⟩),.agg #[pv,.slice ia n ic,.int .i64 (k:Int),.int .i64 ta,.int .i64 tt,.int .i64 te]] w fun e w'=>∃v,e=.returned (.agg #[v,.int .i64 (k:Int),.int .i64 (Ka cs ⟨k,ta,tt,te⟩).a,.int .i64 tt,.int .i64 te])/\Below w.heap.size w w'/\w'.ownsRow w.heap.size 54 5 v n (Y1 (ys.map (YC cs))):=by
 have HCL:=Xa (fun W (hW:Below w.heap.size w W)=>Zct ia n ic ys L B W (Xa (hi.keep (hW.mono hB))) hn oM (by have:=hW.size;omega))
 go_enter Tryz.func23,Tryz.ntmps23
 go_wp2_with fail
 have HB0:Hid (Below w.heap.size w ((w.alloc (.cells #[pv,.slice ia n ic,.int .i64 (k:Int),.int .i64 ta,.int .i64 tt,.int .i64 te] 50)).alloc (.cells #[.slice none 0 0,.int .i64 0,.int .i64 0,.int .i64 0,.int .i64 0] 52))):=Xa (Xb (Xb (Below.refl _ _) _) _);have hb:Bx ((w.alloc (.cells #[pv,.slice ia n ic,.int .i64 (k:Int),.int .i64 ta,.int .i64 tt,.int .i64 te] 50)).alloc (.cells #[.slice none 0 0,.int .i64 0,.int .i64 0,.int .i64 0,.int .i64 0] 52)) w.heap.size #[pv,.slice ia n ic,.int .i64 (k:Int),.int .i64 ta,.int .i64 tt,.int .i64 te] 50:=(Bx.new _ _ _).box _;have hr:Bx ((w.alloc (.cells #[pv,.slice ia n ic,.int .i64 (k:Int),.int .i64 ta,.int .i64 tt,.int .i64 te] 50)).alloc (.cells #[.slice none 0 0,.int .i64 0,.int .i64 0,.int .i64 0,.int .i64 0] 52)) (w.heap.size+1) #[.slice none 0 0,.int .i64 0,.int .i64 0,.int .i64 0,.int .i64 0] 52:=(by have:=Bx.new (w.alloc (.cells #[pv,.slice ia n ic,.int .i64 (k:Int),.int .i64 ta,.int .i64 tt,.int .i64 te] 50)) #[.slice none 0 0,.int .i64 0,.int .i64 0,.int .i64 0,.int .i64 0] 52;rw[World.size_alloc]at this;exact this);have HSZ:Hid (((w.alloc (.cells #[pv,.slice ia n ic,.int .i64 (k:Int),.int .i64 ta,.int .i64 tt,.int .i64 te] 50)).alloc (.cells #[.slice none 0 0,.int .i64 0,.int .i64 0,.int .i64 0,.int .i64 0] 52)).heap.size=w.heap.size+2):=Xa sP;generalize (w.alloc (.cells #[pv,.slice ia n ic,.int .i64 (k:Int),.int .i64 ta,.int .i64 tt,.int .i64 te] 50)).alloc (.cells #[.slice none 0 0,.int .i64 0,.int .i64 0,.int .i64 0,.int .i64 0] 52)=W0 at *;have hwW:w.heap.size<W0.heap.size:=by have:=HSZ.out;omega
 have c1:W0.cell? ⟨w.heap.size,1,none⟩=some (.slice ia n ic):=Bx.cell hb rfl;have c2:W0.cell? ⟨w.heap.size,2,none⟩=some (.int .i64 (k:Int)):=Bx.cell hb rfl;have c3:W0.cell? ⟨w.heap.size,3,none⟩=some (.int .i64 ta):=Bx.cell hb rfl;have c4:W0.cell? ⟨w.heap.size,4,none⟩=some (.int .i64 tt):=Bx.cell hb rfl;have c5:W0.cell? ⟨w.heap.size,5,none⟩=some (.int .i64 te):=Bx.cell hb rfl;have HR:=Xa hr;clear hb hr
 go_cut [5] from 7 to 31 (fun c5 wx=>∃(ob:Nat)(v:Value),c5=.pointer (some ⟨ob,0,none⟩)/\Hid (ClS W0 wx W0.heap.size ob v ⟨k,ta,tt,te⟩ ys))
 case first =>
  have KEY:Hid (∀W,Below W0.heap.size W0 W->Calls Tryz.prog 43 #[.slice ia n ic] W fun e w'=>∃va vc,e=.returned (.slice va n vc)/\w'.cell? ⟨w.heap.size,1,none⟩=some (.slice ia n ic)/\w'.cell? ⟨w.heap.size,2,none⟩=some (.int .i64 (k:Int))/\w'.cell? ⟨w.heap.size,3,none⟩=some (.int .i64 ta)/\w'.cell? ⟨w.heap.size,4,none⟩=some (.int .i64 tt)/\w'.cell? ⟨w.heap.size,5,none⟩=some (.int .i64 te)/\w.heap.size<w'.heap.size/\Hid (Below W.heap.size W w')/\Hid (w'.ownsRow W.heap.size 54 5 (.slice va n vc) ys.length (Y1 ys))):=Xa (fun W hW=>by
   have hs:=hW.size;refine(HCL.out W (HB0.trans (hW.mono oM))).mono ?_;rintro e w5 ⟨v5,rfl,hb5,ho5⟩;have k5:Below W0.heap.size W0 w5:=Xd hW hb5;obtain⟨va,vc,rfl⟩:∃va vc,v5=.slice va ys.length vc:=(XJ.form (lab:=fun _=>(0,0,0)) (L:=(0,0,0)) ⟨ho5,fun _ _=>rfl⟩);rw[<-hn.out]at ho5 |-;exact⟨va,vc,rfl,(k5.cell (p:=⟨w.heap.size,1,none⟩) hwW).trans c1,(k5.cell (p:=⟨w.heap.size,2,none⟩) hwW).trans c2,(k5.cell (p:=⟨w.heap.size,3,none⟩) hwW).trans c3,(k5.cell (p:=⟨w.heap.size,4,none⟩) hwW).trans c4,(k5.cell (p:=⟨w.heap.size,5,none⟩) hwW).trans c5,by have:=k5.size;omega,Xa hb5,Xa (by rw[hn.out]at ho5;rw[hn.out];exact ho5)⟩)
  have HA:=Xa (KEY.out W0.drew (Below.refl W0.heap.size W0).drew);have hn0:Bx (W0.alloc (.cells #[.slice none 0 0,.int .i64 0,.int .i64 0,.int .i64 0,.int .i64 0] 52)).drew W0.heap.size #[.slice none 0 0,.int .i64 0,.int .i64 0,.int .i64 0,.int .i64 0] 52:=Bx.new W0 _ _;have HC:=Xa ((KEY.out (W0.alloc (.cells #[.slice none 0 0,.int .i64 0,.int .i64 0,.int .i64 0,.int .i64 0] 52)).drew ((Below.refl W0.heap.size W0).alloc (Nat.le_refl _) _).drew).mono (R':=fun e w'=>∃va vc,e=.returned (.slice va n vc)/\w'.cell? ⟨w.heap.size,1,none⟩=some (.slice ia n ic)/\w'.cell? ⟨w.heap.size,2,none⟩=some (.int .i64 (k:Int))/\w'.cell? ⟨w.heap.size,3,none⟩=some (.int .i64 ta)/\w'.cell? ⟨w.heap.size,4,none⟩=some (.int .i64 tt)/\w'.cell? ⟨w.heap.size,5,none⟩=some (.int .i64 te)/\w.heap.size<w'.heap.size/\(w'.cell? ⟨W0.heap.size,0,none⟩=some (.slice none 0 0)/\w'.cell? ⟨W0.heap.size,1,none⟩=some (.int .i64 0)/\w'.cell? ⟨W0.heap.size,2,none⟩=some (.int .i64 0)/\w'.cell? ⟨W0.heap.size,3,none⟩=some (.int .i64 0)/\w'.cell? ⟨W0.heap.size,4,none⟩=some (.int .i64 0)/\∀q,w'.frozen? ⟨W0.heap.size,q,none⟩=false)/\Hid (Below (W0.alloc (.cells #[.slice none 0 0,.int .i64 0,.int .i64 0,.int .i64 0,.int .i64 0] 52)).drew.heap.size (W0.alloc (.cells #[.slice none 0 0,.int .i64 0,.int .i64 0,.int .i64 0,.int .i64 0] 52)).drew w')/\Hid (w'.ownsRow (W0.alloc (.cells #[.slice none 0 0,.int .i64 0,.int .i64 0,.int .i64 0,.int .i64 0] 52)).drew.heap.size 54 5 (.slice va n vc) ys.length (Y1 ys))) (by
   rintro e w5 ⟨va,vc,rfl,f1,f2,f3,f4,f5,hsz5,HB5,HO5⟩;have h5:Bx w5 W0.heap.size #[.slice none 0 0,.int .i64 0,.int .i64 0,.int .i64 0,.int .i64 0] 52:=hn0.keep (HB5.block _ hn0.lt);exact⟨va,vc,rfl,f1,f2,f3,f4,f5,hsz5,⟨Bx.cell h5 rfl,Bx.cell h5 rfl,Bx.cell h5 rfl,Bx.cell h5 rfl,Bx.cell h5 rfl,Bx.thaw h5⟩,HB5,HO5⟩))
  have hne1:W0.heap.size≠w.heap.size:=oM;have hne2:w.heap.size≠W0.heap.size:=oM;have HN0:=Xa hn0;clear hn0;clear KEY
  go_region_held3 (fun w'=>w'.cell? ⟨w.heap.size,1,none⟩=some (.slice ia n ic)/\w'.cell? ⟨w.heap.size,2,none⟩=some (.int .i64 (k:Int))/\w'.cell? ⟨w.heap.size,3,none⟩=some (.int .i64 ta)/\w'.cell? ⟨w.heap.size,4,none⟩=some (.int .i64 tt)/\w'.cell? ⟨w.heap.size,5,none⟩=some (.int .i64 te)) (go_keep)
   (first
    | (go_at_call 43;with_reducible refine HA.out.mono ?_;rintro e w5 ⟨va,vc,rfl,f1,f2,f3,f4,f5,hsz5,HB5,HO5⟩)
    | (go_at_call 43;with_reducible refine HC.out.mono ?_;rintro e w5 ⟨va,vc,rfl,f1,f2,f3,f4,f5,hsz5,⟨z0,z1,z2,z3,z4,zz⟩,HB5,HO5⟩))
  ·go_wp2_with fail
   go_meet;have k5:Below W0.heap.size W0 w5:=Xd (Below.refl W0.heap.size W0).drew HB5.out;exact⟨_,_,rfl,Xa ⟨k5.alloc k5.size _,Bx.new _ _ _,World.ownsRow.alloc (w:=w5) HO5.out _,fun e=>by have:=(HO5.lt _ e).2;omega,k5.size⟩⟩
  ·go_wp2_with fail
   go_meet;have k5:Below W0.heap.size W0 w5:=(((Below.refl W0.heap.size W0).alloc (Nat.le_refl _) _).drew).trans (HB5.mono (by show _<=(W0.alloc _).heap.size;simp));have h5:=HN0.keep (HB5.block _ HN0.lt);have hs1:(W0.alloc (.cells #[.slice none 0 0,.int .i64 0,.int .i64 0,.int .i64 0,.int .i64 0] 52)).drew.heap.size=W0.heap.size+1:=by show(W0.alloc _).heap.size=_;simp
   have HO6:=HO5.out;rw[hs1]at HO6;have hlt:W0.heap.size<W0.heap.size+1:=Nat.lt_succ_self _;exact⟨_,_,rfl,Xa ⟨((((k5.setCell (p:=⟨W0.heap.size,0,none⟩) (Nat.le_refl _) _).setCell (p:=⟨W0.heap.size,1,none⟩) (Nat.le_refl _) _).setCell (p:=⟨W0.heap.size,2,none⟩) (Nat.le_refl _) _).setCell (p:=⟨W0.heap.size,3,none⟩) (Nat.le_refl _) _).setCell (p:=⟨W0.heap.size,4,none⟩) (Nat.le_refl _) _,((((h5.set 0 (.slice va n vc)).set 1 (.int .i64 (k:Int))).set 2 (.int .i64 ta)).set 3 (.int .i64 tt)).set 4 (.int .i64 te),X9 (ownsRow_setCell_below (ownsRow_setCell_below (ownsRow_setCell_below (ownsRow_setCell_below (ownsRow_setCell_below HO6 (a:=⟨W0.heap.size,0,none⟩) hlt _) (a:=⟨W0.heap.size,1,none⟩) hlt _) (a:=⟨W0.heap.size,2,none⟩) hlt _) (a:=⟨W0.heap.size,3,none⟩) hlt _) (a:=⟨W0.heap.size,4,none⟩) hlt _) (Nat.le_succ _),fun e=>by have:=(HO6.lt _ e).1;omega,Nat.le_refl _⟩⟩
 case rest =>
  obtain⟨ob,v,rfl,HCS⟩:=hcut;obtain⟨va,vc,rfl⟩:∃va vc,v=.slice va ys.length vc:=XJ.form (lab:=fun _=>(0,0,0)) (L:=(0,0,0)) ⟨HCS.row,fun _ _=>rfl⟩;rw[<-hn.out]at HCS;have o0:wc.cell? ⟨ob,0,none⟩=some (.slice va n vc):=Bx.cell HCS.bx rfl;clear c1 c2 c3 c4 c5 HCL;go_wp2;clear o0
  go_loopw [16] (fun i wr=>∃j:Nat,j<=n/\i=.int .i64 j/\Hid (ClS W0 wr W0.heap.size ob (.slice va n vc) ⟨k,ta,tt,te⟩ ((ys.take j).map (YC cs)++ys.drop j))) (fun i _=>n-(intOf i).toNat)
  case atStart=>exact⟨0,Nat.zero_le _,rfl,by simpa using HCS⟩
  case round =>
   obtain⟨j,hj,rfl,HC⟩:=hrel;clear HCS;have o0:wr.cell? ⟨ob,0,none⟩=some (.slice va n vc):=Bx.cell HC.bx rfl;have HBW:Hid (Below w.heap.size w wr):=Xa (HB0.trans (HC.low.mono oM));have hob:W0.heap.size<=ob:=HC.le;have hobr:ob<wr.heap.size:=HC.bx.lt;have hlb:lb<w.heap.size:=hbx.lt;by_cases hlt:j<n
   ·have hjy:j<ys.length:=by have:=hn.out;omega
    have hltI:(j:Int)<(n:Int):=oM;have hx1:=hop.out _ (List.getElem_mem hjy);have hx2:=hrd.out _ (List.getElem_mem hjy);have HE:Hid ((ys.take j).map (YC cs)++ys.drop j=(ys.take j).map (YC cs)++ys[j]::ys.drop (j+1)):=Xa (by rw[List.drop_eq_getElem_cons hjy]);have HE1:Hid ((ys.take (j+1)).map (YC cs)++ys.drop (j+1)=(ys.take j).map (YC cs)++YC cs ys[j]::ys.drop (j+1)):=Xa (by rw[List.take_succ_eq_append_getElem hjy,List.map_append,List.append_assoc];rfl);have HAL:Hid (((ys.take j).map (YC cs)).length=j):=Xa (by rw[List.length_map,List.length_take];omega);have HYL:Hid (((ys.take j).map (YC cs)++ys.drop j).length=n):=Xa (by rw[List.length_append,HAL.out,List.length_drop];have:=hn.out;omega);obtain⟨g,c',he⟩:=XJ.got (lab:=fun _=>(0,0,0)) (L:=(0,0,0)) ⟨HC.row,fun _ _=>rfl⟩ (by rw[HYL.out];omega);rw[HYL.out]at he;cases he;have hrow:XJ wr (fun _=>(0,0,0)) (0,0,0) W0.heap.size 54 5 (.slice (some ⟨g,0,none⟩) n vc) n (Y1 ((ys.take j).map (YC cs)++ys.drop j)):=⟨by have:=HC.row;rw[HYL.out]at this;exact this,fun _ _=>rfl⟩;have hI:Yd wr g (j*5) ys[j]:=by
     obtain⟨g',o',e',_,hI⟩:=XJ.inss (n:=n) (by rw[HYL.out];exact hrow) j (by rw[HYL.out];exact hlt);cases e';rw[Nat.zero_add]at hI;have e9:((ys.take j).map (YC cs)++ys.drop j)[j]'(by rw[HYL.out];exact hlt)=ys[j]:=by
      rw[List.getElem_append_right (by rw[HAL.out];exact Nat.le_refl _),List.getElem_drop];simp only[HAL.out,Nat.sub_self,Nat.add_zero]
     rw[e9]at hI;exact hI
    have HROW:=Xa hrow;have HI:=Xa hI;have HHV:=Xa (ZjS hcV.out hx2.1 hx2.2 hI);have HRL:=Xa (Zgx cs ((ys.take j).map (YC cs)) ys[j] (ys.drop (j+1)));rw[HAL.out,<-HE.out,<-HE1.out]at HRL;have q0:=hI.1;clear hrow hI hx2 HE HE1;generalize ys[j]=x at *;obtain⟨kx,hkx⟩:∃kx:Nat,x.op=(kx:Int):=⟨x.op.toNat,oM⟩;rw[hkx]at q0 hx1 HHV HRL;have hgW:=(HROW.blk).1
    go_wp2_with fail
    refine(WL g (j*5) kx wr q0 oM oM (Xa (hO.keep HBW.out hO.1))).mono ?_;rintro e w5 ⟨v5,rfl,hb5,ho5⟩;rw[show([⟨g,j*5+1,none⟩,⟨g,j*5+2,none⟩,⟨g,j*5+3,none⟩]:List Addr)=[j*5+1,j*5+2,j*5+3].map fun o=>⟨g,o,none⟩ from rfl,UT]at ho5;obtain⟨a5,c5,rfl,hv5⟩:=Zb ho5;rw[List.length_map];have HB5:=Xa hb5;have HLB5:Hid (Bx w5 lb #[f0,f1,.slice ac nc cc,f3,f4,f5] 61):=Xa (hbx.keep ((hb5.block _ (by have:=HBW.size;omega)).trans (HBW.block _ hlb)));have HROW5:Hid (XJ w5 (fun _=>(0,0,0)) (0,0,0) W0.heap.size 54 5 (.slice (some ⟨g,0,none⟩) n vc) n (Y1 ((ys.take j).map (YC cs)++ys.drop j))):=Xa (HROW.keep (fun b _ h2 e=>⟨hb5.block b h2,e⟩));have HOB5:=Xa (HC.bx.keep (hb5.block _ hobr));have HC5:=Xa (hc.keep ((HBW.trans (hb5.mono (by have:=HBW.size;omega))).mono hBc));have HHV5:=Xa (ZeB (cs:=cs) (g:=g) (w:=w5) (fun q hq=>by
     obtain⟨z,h1,h2⟩:=HHV.out q hq;exact⟨z,(hb5.cell (p:=⟨g,q,none⟩) hgW.2).trans h1,h2⟩) (Zcg _ _ _ _))
    have HV5:=Xa hv5;have HKL:Hid ((keepN [dB (kx:Int),aB (kx:Int),bB (kx:Int)] [j*5+1,j*5+2,j*5+3]).length<=3):=Xa (by cases dB (kx:Int)<;>cases aB (kx:Int)<;>cases bB (kx:Int)<;>simp[keepN]);have HKI:=Xa (Zgw (dB (kx:Int)) (aB (kx:Int)) (bB (kx:Int)) (j*5));clear hb5 ho5 hv5 HHV q0;generalize keepN [dB (kx:Int),aB (kx:Int),bB (kx:Int)] [j*5+1,j*5+2,j*5+3]=os at *
    go_wp2_with fail
    with_reducible refine(Vu lb g f0 f1 f3 f4 f5 ac nc cc cs Lc Bc a5 os.length c5 os wr.heap.size w5.heap.size w5 HLB5 oM HC5 hcx oM hgW.2 (Nat.le_refl _) HB5.out.size HV5 (Xa rfl) (by have:=HKL.out;omega) (fun q=>HROW5.out.thaw q) HHV5).mono ?_
    rintro e w6 ⟨rfl,rfl⟩;have HC6:Hid (ClS W0 (recW cs g os w5) W0.heap.size ob (.slice (some ⟨g,0,none⟩) n vc) ⟨k,ta,tt,te⟩ ((ys.take (j+1)).map (YC cs)++ys.drop (j+1))):=Xa (by
     have hgo:g≠ob:=fun e=>HC.ne (by rw[<-e];rfl)
     have hl9:((ys.take (j+1)).map (YC cs)++ys.drop (j+1)).length=n:=by rw[List.length_append,List.length_map,List.length_take,List.length_drop];have:=hn.out;omega
     refine⟨Kh cs g hgW.1 os (HC.low.trans (HB5.mono HC.low.size)) (Nat.le_refl _),HOB5.keep (Jh cs g (fun e=>hgo e.symm) os w5),?_,HC.ne,hob⟩;rw[hl9,<-HRL.out];exact(HROW5.recW os (fun q hq=>by have:=HKI.out q hq;rw[YT,HYL.out];omega)).own)
    clear HC HLB5 HROW5 HOB5 HC5 HHV5 HV5 o0;generalize recW cs g os w5=w7 at *;go_wp2;exact⟨⟨j+1,oM,gM,HC6⟩,by simp[intOf];omega⟩
   ·have hjn:j=n:=oM
    have hjI:¬(j:Int)<(n:Int):=oM;have HCE:Hid (ClS W0 wr W0.heap.size ob (.slice va n vc) ⟨k,ta,tt,te⟩ (ys.map (YC cs))):=Xa (by
     have:=HC.out;rw[hjn,hn.out,List.take_length,List.drop_length,List.append_nil]at this;rw[hn.out];exact this)
    clear HC
    go_wp2_with fail
    have HTA:Hid (YW wr ob 1 ⟨k,ta,tt,te⟩):=Xa ⟨Bx.cell HCE.bx rfl,Bx.cell HCE.bx rfl,Bx.cell HCE.bx rfl,Bx.cell HCE.bx rfl⟩;refine(TE ob 1 k ta tt te wr HTA hk1 hk2 (Xa (hT.keep HBW.out hT.1))).mono ?_;rintro e w5 ⟨v5,rfl,hb5,ho5⟩;rw[show([⟨ob,1+1,none⟩]:List Addr)=[2].map fun o=>⟨ob,o,none⟩ from rfl,UT]at ho5;obtain⟨a5,c5,rfl,hv5⟩:=Zb ho5;rw[List.length_map];have HB5:=Xa hb5;have HLB5:Hid (Bx w5 lb #[f0,f1,.slice ac nc cc,f3,f4,f5] 61):=Xa (hbx.keep ((hb5.block _ (by have:=HBW.size;omega)).trans (HBW.block _ hlb)));have HOB5:=Xa (HCE.bx.keep (hb5.block _ hobr));have HC5:=Xa (hc.keep ((HBW.trans (hb5.mono (by have:=HBW.size;omega))).mono hBc));have HV5:=Xa hv5;have ta5:w5.cell? ⟨ob,2,none⟩=some (.int .i64 ta):=Bx.cell HOB5.out rfl;have HHV5:Hid (∀q (h:q<(keepN [(k:Int) != 1] [2]).length),∃z:Nat,(recW cs ob ((keepN [(k:Int) != 1] [2]).take q) w5).cell? ⟨ob,(keepN [(k:Int) != 1] [2])[q],none⟩=some (.int .i64 (z:Int))/\z<cs.length):=Xa (ZeB (fun q hq=>by
     have hr:=hrt.out;unfold rdT at hr;cases hu:((k:Int) != 1)with
     | false=>rw[hu]at hq;simp[keepN]at hq
     | true =>
      rw[hu]at hq hr;have hq2:q=2:=by simpa [keepN]using hq
      subst hq2;have h1:=hr ta sP;exact⟨ta.toNat,by rw[ta5];congr 2;omega,by have:=hcV.out;omega⟩) (by cases ((k:Int) != 1)<;>simp[keepN]))
    have HBX7:Hid (Bx (recW cs ob (keepN [(k:Int) != 1] [2]) w5) ob #[.slice va n vc,.int .i64 (k:Int),.int .i64 (Ka cs ⟨k,ta,tt,te⟩).a,.int .i64 tt,.int .i64 te] 52):=Xa (by
     unfold Ka;by_cases h1:(k:Int)=1
     ·have hu:((k:Int) != 1)=false:=by simp[h1]
      rw[hu];simp only[if_pos h1];exact HOB5.out
     ·have hu:((k:Int) != 1)=true:=by simp[h1]
      rw[hu];simp only[if_neg h1];show Bx (w5.drew.setCell ⟨ob,2,none⟩ (ZbJ cs (w5.cell? ⟨ob,2,none⟩))) ob _ _;rw[ta5];exact Bx.set (w:=w5.drew) HOB5.out 2 (.int .i64 (lcN cs ta)))
    have HLO7:Hid (Below W0.heap.size W0 (recW cs ob (keepN [(k:Int) != 1] [2]) w5)):=Xa (Kh cs ob hob _ (HCE.low.trans (HB5.mono HCE.low.size)) (Nat.le_refl _));have HRW7:Hid ((recW cs ob (keepN [(k:Int) != 1] [2]) w5).ownsRow W0.heap.size 54 5 (.slice va n vc) n (Y1 (ys.map (YC cs)))):=Xa (by
     have hr:XJ wr (fun b=>if b=ob then (1,0,0)else (0,0,0)) (0,0,0) W0.heap.size 54 5 (.slice va n vc) (ys.map (YC cs)).length (Y1 (ys.map (YC cs))):=⟨HCE.row,fun b e=>if_neg (fun q=>HCE.ne (by rw[<-q];exact e))⟩;have:=(hr.keep (w':=recW cs ob (keepN [(k:Int) != 1] [2]) w5) (fun b _ h2 e=>⟨(Jh cs ob (fun q=>by rw[if_pos q]at e;simp at e) _ w5).trans (HB5.block b h2),e⟩)).own;rw[List.length_map,<-hn.out]at this;exact this)
    have HKL:Hid ((keepN [(k:Int) != 1] [2]).length<=3):=Xa (by cases ((k:Int) != 1)<;>simp[keepN]);have HOZ:=Xa (Bx.thaw HOB5.out);clear hb5 ho5 hv5 ta5 HTA HOB5;generalize keepN [(k:Int) != 1] [2]=os at *;obtain⟨ta',hta⟩:∃ta',(Ka cs ⟨k,ta,tt,te⟩).a=ta':=⟨_,rfl⟩;rw[hta]at HBX7;have HTE:=Xa hta;clear hta
    go_wp2_with fail
    with_reducible refine(Vu lb ob f0 f1 f3 f4 f5 ac nc cc cs Lc Bc a5 os.length c5 os wr.heap.size w5.heap.size w5 HLB5 oM HC5 hcx oM hobr (Nat.le_refl _) HB5.out.size HV5 (Xa rfl) (by have:=HKL.out;omega) HOZ.out HHV5).mono ?_
    rintro e w6 ⟨rfl,rfl⟩;clear HLB5 HC5 HV5 HHV5 HB5;generalize recW cs ob os w5=w7 at *;have o0:w7.cell? ⟨ob,0,none⟩=some (.slice va n vc):=Bx.cell HBX7.out rfl;have o1:w7.cell? ⟨ob,1,none⟩=some (.int .i64 (k:Int)):=Bx.cell HBX7.out rfl;have o2:w7.cell? ⟨ob,2,none⟩=some (.int .i64 ta'):=Bx.cell HBX7.out rfl;have o3:w7.cell? ⟨ob,3,none⟩=some (.int .i64 tt):=Bx.cell HBX7.out rfl;have o4:w7.cell? ⟨ob,4,none⟩=some (.int .i64 te):=Bx.cell HBX7.out rfl;have hr7:=HR.keep (HLO7.block _ HR.lt);have r0:w7.cell? ⟨w.heap.size+1,0,none⟩=some (.slice none 0 0):=Bx.cell hr7 rfl;have r1:w7.cell? ⟨w.heap.size+1,1,none⟩=some (.int .i64 0):=Bx.cell hr7 rfl;have r2:w7.cell? ⟨w.heap.size+1,2,none⟩=some (.int .i64 0):=Bx.cell hr7 rfl;have r3:w7.cell? ⟨w.heap.size+1,3,none⟩=some (.int .i64 0):=Bx.cell hr7 rfl;have r4:w7.cell? ⟨w.heap.size+1,4,none⟩=some (.int .i64 0):=Bx.cell hr7 rfl;have rz:=Bx.thaw hr7;clear hr7
    go_wp2_with fail
    refine bodyPost_ret (v:=.agg #[.slice va n vc,.int .i64 (k:Int),.int .i64 ta',.int .i64 tt,.int .i64 te]) (by simp[results,Tryz.results23,go_sem,r0,r1,r2,r3,r4]) rfl ?_;have hlt9:w.heap.size+1<W0.heap.size:=by have:=HSZ.out;omega
    have hle9:w.heap.size<=w.heap.size+1:=Nat.le_succ _;rw[HTE.out];exact⟨_,rfl,(((((HB0.trans (HLO7.mono oM)).setCell (p:=⟨w.heap.size+1,0,none⟩) hle9 _).setCell (p:=⟨w.heap.size+1,1,none⟩) hle9 _).setCell (p:=⟨w.heap.size+1,2,none⟩) hle9 _).setCell (p:=⟨w.heap.size+1,3,none⟩) hle9 _).setCell (p:=⟨w.heap.size+1,4,none⟩) hle9 _,X9 (ownsRow_setCell_below (ownsRow_setCell_below (ownsRow_setCell_below (ownsRow_setCell_below (ownsRow_setCell_below HRW7.out (a:=⟨w.heap.size+1,0,none⟩) hlt9 _) (a:=⟨w.heap.size+1,1,none⟩) hlt9 _) (a:=⟨w.heap.size+1,2,none⟩) hlt9 _) (a:=⟨w.heap.size+1,3,none⟩) hlt9 _) (a:=⟨w.heap.size+1,4,none⟩) hlt9 _) oM⟩
end Go.Proofs.YtlmgmkmomaileaaGreatDoor
