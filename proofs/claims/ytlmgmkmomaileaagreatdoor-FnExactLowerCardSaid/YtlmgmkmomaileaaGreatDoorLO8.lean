import Derived.Test.YtlmgmkmomaileaaGreatDoorLO7
import Derived.Test.YtlmgmkmomaileaaGreatDoorLR5
namespace Go.Proofs.YtlmgmkmomaileaaGreatDoor
set_option maxHeartbeats 4000000
set_option maxRecDepth 100000
open Go.RowKit
theorem ZkI{w:World}{base:Nat}{xs:List Xy}{kv:Nat->Value}{a:Option Addr}{n c:Nat}(ho:w.ownsRow base 52 5 (.slice a n c) xs.length (Jv kv xs))(hi:∀i (h:i<xs.length),w.ownsRow base 54 5 (kv i) xs[i].instrs.length (Y1 xs[i].instrs)):Y4 w base w.heap.size a xs:=fun i hx=>by
 have hb:XJ w (fun _=>(0,0,0)) (0,0,0) base 52 5 (.slice a n c) xs.length (Jv kv xs):=⟨ho,fun _ _=>rfl⟩;have hr:XJ w (fun _=>(0,0,0)) (0,0,0) base 54 5 (kv i) xs[i].instrs.length (Y1 xs[i].instrs):=⟨hi i hx,fun _ _=>rfl⟩;obtain⟨g,c',e⟩:=hb.got oM;cases e;obtain⟨ia,ic,ei⟩:=hr.form;rw[ei]at hr;have cc:=fun q u hq hu=>Kv (q:=q) (u:=u) hb hx hq hu
 refine⟨g,0,rfl,hb.blk.1,ia,ic,?_,⟨?_,?_,?_,?_⟩,hr.inss⟩
 ·rw[Nat.zero_add];exact cc 0 _ oM (by rw[<-ei];rfl)
 ·rw[Nat.zero_add];exact cc 1 _ oM rfl
 ·rw[Nat.zero_add];exact cc 2 _ oM rfl
 ·rw[Nat.zero_add];exact cc 3 _ oM rfl
 ·rw[Nat.zero_add];exact cc 4 _ oM rfl
theorem UU{α:Type}(f:Nat->α->List Value):∀(M S:List α)(k:Nat),Ys f k (M++S)=Ys f k M++Ys f (k+M.length) S
 | [],S,k=>by simp[Ys]
 | m::M,S,k=>by
  show f k m++Ys f (k+1) (M++S)=f k m++Ys f (k+1) M++_;rw[UU f M S (k+1),List.append_assoc,List.length_cons,show k+1+M.length=k+(M.length+1) by omega]
theorem Zac{α:Type}(f g:Nat->α->List Value):∀(S:List α)(k j:Nat),(∀i x,f (k+i) x=g (j+i) x)->Ys f k S=Ys g j S
 | [],_,_,_=>rfl
 | x::S,k,j,h=>by
  show f k x++Ys f (k+1) S=g j x++Ys g (j+1) S;rw[show f k x=g j x from h 0 x,Zac f g S (k+1) (j+1) (fun i x=>by rw[show k+1+i=k+(i+1) by omega,show j+1+i=j+(i+1) by omega];exact h _ x)]
theorem ZiW(iv jv:Nat->Value)(M S:List Xy):Jv (fun i=>if i<M.length then iv i else jv (i-M.length)) (M++S)=Jv iv M++Jv jv S:=by
 unfold Jv;rw[UU,Nat.zero_add,Zac (fun i (x:Xy)=>Ui (if i<M.length then iv i else jv (i-M.length)) x.term) (fun i x=>Ui (jv i) x.term) S M.length 0 (fun i x=>by show Ui (if M.length+i<M.length then _ else _) _=_;rw[if_neg oM,Nat.add_sub_cancel_left,Nat.zero_add])];rw[show Ys (fun i (x:Xy)=>Ui (if i<M.length then iv i else jv (i-M.length)) x.term) 0 M=Jv iv M from UI (iv:=fun i=>if i<M.length then iv i else jv (i-M.length)) (fun i hi=>if_pos hi)];rfl
theorem ZiX{w:World}{lab:Nat->Nat × Nat × Nat}{base:Nat}{v:Value}{K J:Nat}{S:List Xy}{jv:Nat->Value}(h:TZ w lab base v K J S jv):∀u∈Jv jv S,u.oneCell'=true:=by
 intro u hu;obtain⟨p,hp,rfl⟩:=List.getElem_of_mem hu;have hl:=VG jv S;have hi:p / 5<S.length:=oM;have e:=Td (sz:=5) (f:=fun i (x:Xy)=>Ui (jv i) x.term) (fun _ _=>rfl) 0 S (p / 5) hi (p % 5) (Nat.mod_lt _ oM);rw[show p / 5*5+p % 5=p by omega,Nat.zero_add]at e;have e2:(Ui (jv (p / 5)) S[p / 5].term)[p % 5]?=some (Jv jv S)[p]:=by rw[<-e];exact List.getElem?_eq_getElem hp
 obtain⟨a,c,hf⟩:=(h.ins _ hi).form;have hm:=List.mem_of_getElem? e2;simp only[Ui,List.mem_cons,List.not_mem_nil,or_false]at hm;rcases hm with q | q | q | q | q<;>rw[q]<;>first | rfl | (rw[hf];rfl)
variable {w wr w8 : World} {lab : Nat -> Nat × Nat × Nat} {V : Int} {a : Option Addr} {n c : Nat} {k : Int} {mb : Nat} {mv sv v8 : Value} {M S : List Xy} {iv jv : Nat -> Value}
theorem LwS.fin(h:LwS w wr lab V a n c k mb mv sv M S iv jv)(hg:wr.grownBy w8 mv.ownBlock)(ho:w8.ownsRow w.heap.size 52 5 v8 (M.length+S.length) (Jv iv M++Jv jv S))(hat:v8.ownBlock=mv.ownBlock\/v8.ownBlock=some wr.heap.size) :
 Bx w8 mb #[.int .i64 k,mv] 29/\Bx (w8.setCell ⟨mb,1,none⟩ v8) mb #[.int .i64 k,v8] 29/\Bx (w8.setCell ⟨mb,1,none⟩ v8) (w.heap.size+1) #[.int .i64 0,.slice none 0 0] 29/\w.heap.size+1≠mb /\
 Below w.heap.size w (((w8.setCell ⟨mb,1,none⟩ v8).setCell ⟨w.heap.size+1,0,none⟩ (.int .i64 k)).setCell ⟨w.heap.size+1,1,none⟩ v8)/\∀va vn vc,v8=.slice va vn vc->Y4 (((w8.setCell ⟨mb,1,none⟩ v8).setCell ⟨w.heap.size+1,0,none⟩ (.int .i64 k)).setCell ⟨w.heap.size+1,1,none⟩ v8) w.heap.size (((w8.setCell ⟨mb,1,none⟩ v8).setCell ⟨w.heap.size+1,0,none⟩ (.int .i64 k)).setCell ⟨w.heap.size+1,1,none⟩ v8).heap.size va (M++S):=by
 obtain⟨lab',hr,hs⟩:=h.m.blks.grow hg ho hat h.fr;have hne:∀b,lab b=(0,0,0)->lab b≠(1,0,0):=fun b e q=>by rw[e]at q;simp at q
 have hlow:Below w.heap.size wr w8:=⟨hg.os,hg.tape,hg.output,hg.size,fun q hq=>hg.block q (Nat.lt_of_lt_of_le hq h.low.size) (fun e=>by have:=(h.m.blks.own.lt q e.symm).1;omega)⟩;have hm:=h.mw;have l1:=(hs.same _ oM h.rb.lt (hne _ h.l0.2.1)).2.trans h.l0.2.1;have l2:=(hs.same _ oM h.mbx.lt (hne _ h.l0.2.2)).2.trans h.l0.2.2;have hm8:=h.mbx.sp hs oM (hne _ h.l0.2.2);have hr8:=h.rb.sp hs oM (hne _ h.l0.2.1);have hM:∀i (hi:i<M.length),XJ w8 lab' (3,i,0) w.heap.size 54 5 (iv i) M[i].instrs.length (Y1 M[i].instrs):=fun i hi=>(h.m.ins i hi).sp hs (fun b e q=>by rw[e]at q;simp at q)
 have hS:∀i (hi:i<S.length),XJ w8 lab' (4,i,0) w.heap.size 54 5 (jv i) S[i].instrs.length (Y1 S[i].instrs):=fun i hi=>(h.s.ins i hi).sp hs (fun b e q=>by rw[e]at q;simp at q)
 have nm:∀b L,lab' b=L->L≠(0,0,0)->b≠mb:=fun b L e hL q=>hL (by rw[<-e,q];exact l2)
 have nr:∀b L,lab' b=L->L≠(0,0,0)->b≠w.heap.size+1:=fun b L e hL q=>hL (by rw[<-e,q];exact l1)
 have p1:=JT.put (w:=w8) (lab:=lab') (base:=w.heap.size) mb 1 v8;have p2:=JT.put (w:=w8.setCell ⟨mb,1,none⟩ v8) (lab:=lab') (base:=w.heap.size) (w.heap.size+1) 0 (.int .i64 k);have p3:=JT.put (w:=(w8.setCell ⟨mb,1,none⟩ v8).setCell ⟨w.heap.size+1,0,none⟩ (.int .i64 k)) (lab:=lab') (base:=w.heap.size) (w.heap.size+1) 1 v8;have key:∀{L:Nat × Nat × Nat}{t sz m:Nat}{v:Value}{cs:List Value},L≠(0,0,0)->XJ w8 lab' L w.heap.size t sz v m cs->XJ (((w8.setCell ⟨mb,1,none⟩ v8).setCell ⟨w.heap.size+1,0,none⟩ (.int .i64 k)).setCell ⟨w.heap.size+1,1,none⟩ v8) lab' L w.heap.size t sz v m cs:=fun hL h=>((h.sp p1 (fun b e=>nm b _ e hL)).sp p2 (fun b e=>nr b _ e hL)).sp p3 (fun b e=>nr b _ e hL)
 refine⟨hm8,hm8.set 1 v8,hr8.other (fun e=>oM),oM,(((h.low.trans hlow).setCell (p:=⟨mb,1,none⟩) (by show w.heap.size<=mb;omega) _).setCell (p:=⟨w.heap.size+1,0,none⟩) sP _).setCell (p:=⟨w.heap.size+1,1,none⟩) sP _,?_⟩;rintro va vn vc rfl;have e1:(M++S).length=M.length+S.length:=List.length_append;refine ZkI (kv:=fun i=>if i<M.length then iv i else jv (i-M.length)) (n:=vn) (c:=vc) ?_ (fun i hi=>?_)
 ·rw[ZiW,e1];exact(key sP hr).own
 ·by_cases hi2:i<M.length
  ·simp only[if_pos hi2,List.getElem_append_left hi2]
   exact(key sP (hM i hi2)).own
  ·simp only[if_neg hi2,List.getElem_append_right (Nat.le_of_not_lt hi2)]
   exact(key sP (hS (i-M.length) oM)).own
theorem ZgR(V:Nat)(a:Option Addr)(n c:Nat)(xs:List Xh)(L B:Nat)(ac:Option Addr)(nc cc:Nat)(cs:List Int)(Lc Bc:Nat)(k:Int)(w:World)(ha:Hid (Xk w L B a xs))(hx:Hid (n=xs.length))(hB:B<=w.heap.size)(ho:Hid (Jd V xs))(hln:Hid (∀x∈xs,x.phis.length<=1048576/\x.instrs.length<=1048576))(hc:Hid (Xf w Lc Bc ac cs))(hcx:Hid (nc=cs.length))(hcV:Hid (nc=V))(hBc:Bc<=w.heap.size)(hk:1<=k/\k<=64)
 (HPC:Hid (∀W,Below w.heap.size w W->Calls Tryz.prog 17 #[.agg #[.int .i64 (V:Int),.slice a n c],.slice ac nc cc,.int .i64 k] W fun e w'=>e=.returned (.bool true)/\Below W.heap.size W w')) :
 Calls Tryz.prog 5 #[.agg #[.int .i64 (V:Int),.slice a n c],.slice ac nc cc,.int .i64 k] w fun e w'=>∃va vc,e=.returned (.agg #[.int .i64 k,.slice va (KB cs xs).length vc])/\Below w.heap.size w w'/\Y4 w' w.heap.size w'.heap.size va (KB cs xs):=by
 obtain⟨j0,hj0,hy0,hy1,hy2⟩:=info_parts Tryz.infoLM;have h1:¬k<1:=oM;have h2:¬64<k:=oM;have hn1:n<=1000:=by have:=hx.out;have:=ho.okf.n2;omega
 go_enter Tryz.func5,Tryz.ntmps5
 go_wp2_with fail
 refine(HPC.out _ (Xb (Xb (Below.refl _ _) _) _)).mono ?_;rintro e w1 ⟨rfl,hb1⟩;have hF:Bx w1 w.heap.size #[.int .i64 (V:Int),.slice a n c] 33:=((Bx.new w #[.int .i64 (V:Int),.slice a n c] 33).box _).keep (hb1.block _ (by simp;omega));have hR:Bx w1 (w.heap.size+1) #[.int .i64 0,.slice none 0 0] 29:=(by have:=Bx.new (w.alloc (.cells #[.int .i64 (V:Int),.slice a n c] 33)) #[.int .i64 0,.slice none 0 0] 29;rw[World.size_alloc]at this;exact this.keep (hb1.block _ sP));have hz:w.heap.size+1<w1.heap.size:=hR.lt;have hz0w:w.heap.size<w1.heap.size:=oM;have HB1:=Xa (Xd (Xb (Xb (Below.refl w.heap.size w) _) _) hb1);have f1:w1.cell? ⟨w.heap.size,1,none⟩=some (.slice a n c):=Bx.cell hF rfl;have HH0:Hid (LwH w ((w1.alloc (.cells #[.int .i64 k,.slice none 0 0] 29)).alloc (.cells #[] 52)) (V:Int) a n c k w1.heap.size (.slice (some ⟨w1.heap.size+1,0,none⟩) 0 0) (Xm cs xs 0).1 (Xm cs xs 0).2):=Xa (by
  refine⟨fun q=>if q=w1.heap.size+1 then (2,0,0)else (0,0,0),.slice none 0 0,fun _=>.slice none 0 0,fun _=>.slice none 0 0,⟨HB1.trans ((Xb (Xb (Below.refl _ _) _) _).mono HB1.size),(hF.box _).box _,(hR.box _).box _,(Bx.new _ _ _).box _,hz,TZ.nil,⟨⟨?_,fun b e=>?_⟩,fun i h=>absurd h (Nat.not_lt_zero _)⟩,fun q hq=>if_neg (by simp at hq;omega),if_neg oM,if_neg oM,if_neg oM⟩,sP⟩
  ·have:=World.ownsRow_lit (base:=w.heap.size) (e:=52) (size:=5) (w1.alloc (.cells #[.int .i64 k,.slice none 0 0] 29)) #[] 0 (by simp;omega) sP rfl
   rw[World.size_alloc]at this;exact this
  ·have:b=w1.heap.size+1:=by injection e with e;exact e.symm
   exact if_pos this)
 clear hb1 hF hR HPC;go_wp2;clear f1;generalize (w1.alloc (.cells #[.int .i64 k,.slice none 0 0] 29)).alloc (.cells #[] 52)=w2 at *;generalize w1.heap.size=mb at *;have hxn:=hx.out;refine loO V a n c xs L B ac nc cc cs Lc Bc k w mb _ _ _ _ _ (by exact Xa (fun _ _ _ _ _ h=>h)) ha hx hB ho hln hc hcx hcV hBc ?_ _ _ _ (by rfl) HH0;intro sv tl w3 hl HH;obtain⟨c11,c12,tl9,rfl,hl9⟩:=ZkJ tl hl;obtain⟨f,rfl⟩:=ZiB tl9 hl9;clear HH0 hl hl9;obtain⟨lab,mv,iv,jv,hS,hsv⟩:=HH.out;have HML:=Xa (Jk cs xs n oM);have HSL:=Xa (JR cs xs n oM);have HLP:Hid (KB cs xs=(Xm cs xs n).1++(Xm cs xs n).2):=Xa (by unfold KB;rw[<-hxn]);generalize (Xm cs xs n).1=M at *;generalize (Xm cs xs n).2=S at *;obtain⟨ma,mc,rfl⟩:=hS.m.blks.form;obtain⟨g,c2,e⟩:∃g c2,sv=.slice (some ⟨g,0,none⟩) S.length c2:=by
  rcases XU hS.s.blks.own with⟨e,_,_⟩ | ⟨g,c,e,_,_⟩
  ·exact absurd e hsv
  ·exact⟨g,c,e⟩
 subst e;have m1:w3.cell? ⟨mb,1,none⟩=some (.slice ma M.length mc):=Bx.cell hS.mbx rfl;have HS:=Xa hS;have hws:=hS.low.size;clear hS hsv HH;have HNW:Hid (∀(j:Nat)(u:Value),(Jv jv S)[j]?=some u->w3.cell? ((⟨g,0,none⟩:Addr).add j)=some u):=Xa (by
  intro j u hu;have:=XZ HS.s.blks.own hu;cases j with
  | zero=>simpa [Addr.add]using this
  | succ j=>simpa [Addr.add]using this)
 have HON:=Xa (ZiX HS.s);have HLN:=Xa (VG jv S)
 go_wp2_with (at_builtin;refine wpList_append_own_at _ rfl _ _ 27 rfl w.heap.size 52 j0 (.agg #[.slice none 0 0,.int .i64 0,.int .i64 0,.int .i64 0,.int .i64 0]) 5 56 Tryz.underlying27 hj0 hy0 hy1 hy2 rfl dC _ M.length (Jv iv M) rfl HS.m.blks.own ⟨g,0,none⟩ S.length c2 (Jv jv S) rfl ?v1 HNW.out ?v2 ?v3 ?v4 ?v5 ?_)
 case v1=>exact HLN.out
 case v2=>exact HON.out
 case v3=>unfold maxLen;have:=HML.out;have:=HSL.out;omega
 case v4=>have:=HML.out;have:=HSL.out;omega
 case v5=>omega
 intro v8 w8 hown8 hg8 hne8 hat8;obtain⟨hm8,hm9,hr9,hne,hlow9,hat9⟩:=HS.fin hg8 hown8 hat8;obtain⟨a8,c8,rfl⟩:∃a8 c8,v8=.slice a8 (M.length+S.length) c8:=by
  rcases XU hown8 with⟨e,h,_⟩ | ⟨g,c,e,_⟩
  ·exact⟨none,0,by rw[e,h]⟩
  ·exact⟨_,_,e⟩
 have k0:w8.cell? ⟨mb,1,none⟩=some (.slice ma M.length mc):=Bx.cell hm8 rfl;have kz:=Bx.thaw hm8;have HLW:=Xa hlow9;have HAT:=Xa (hat9 _ _ _ rfl);have q0:(w8.setCell ⟨mb,1,none⟩ (.slice a8 (M.length+S.length) c8)).cell? ⟨mb,0,none⟩=some (.int .i64 k):=Bx.cell hm9 rfl;have q1:(w8.setCell ⟨mb,1,none⟩ (.slice a8 (M.length+S.length) c8)).cell? ⟨mb,1,none⟩=some (.slice a8 (M.length+S.length) c8):=Bx.cell hm9 rfl;have r0:(w8.setCell ⟨mb,1,none⟩ (.slice a8 (M.length+S.length) c8)).cell? ⟨w.heap.size+1,0,none⟩=some (.int .i64 0):=Bx.cell hr9 rfl;have r1:(w8.setCell ⟨mb,1,none⟩ (.slice a8 (M.length+S.length) c8)).cell? ⟨w.heap.size+1,1,none⟩=some (.slice none 0 0):=Bx.cell hr9 rfl;have rz:=Bx.thaw hr9;clear hm8 hm9 hr9 hlow9 hat9 hown8 hg8 hne8 hat8 m1
 go_wp2_with fail
 refine bodyPost_ret (v:=.agg #[.int .i64 k,.slice a8 (M.length+S.length) c8]) (by simp[results,Tryz.results5,go_sem,r0,r1]) rfl ?_;rw[HLP.out,List.length_append];exact⟨_,_,rfl,HLW.out,HAT.out⟩
end Go.Proofs.YtlmgmkmomaileaaGreatDoor
namespace Go.Proofs.YtlmgmkmomaileaaGreatDoor
open Go.RowKit
theorem Za7(iv:Nat->Value)(A:List Xy)(x:Xy)(B:List Xy):Jv iv (A++x::B)=Jv iv A++(Ui (iv A.length) x.term++Ys (fun i (x:Xy)=>Ui (iv i) x.term) (A.length+1) B):=by
 unfold Jv;rw[UU,Nat.zero_add];rfl
theorem Zc7{iv:Nat->Value}{xs:List Xy}{i q:Nat}(h:i<xs.length)(hq:q<5){u v':Value}{x':Xy}(he:(Ui (iv i) xs[i].term).set q u=Ui v' x'.term):(Jv iv xs).set (i*5+q) u=Jv (fun j=>if j=i then v' else iv j) (xs.set i x'):=by
 have e1:xs=xs.take i++xs[i]::xs.drop (i+1):=by rw[<-List.drop_eq_getElem_cons h,List.take_append_drop]
 have hl:(xs.take i).length=i:=by rw[List.length_take];omega
 have e2:xs.set i x'=xs.take i++x' :: xs.drop (i+1):=by rw[List.set_eq_take_append_cons_drop,if_pos h]
 have ea:Jv (fun j=>if j=i then v' else iv j) (xs.take i)=Jv iv (xs.take i):=UI (fun j hj=>if_neg oM);rw[e2,Za7,hl,ea,if_pos rfl]
 conv=>lhs;rw[e1]
 rw[Za7,hl,List.set_append_right _ _ (by rw[VG,hl];omega),VG,hl,Nat.add_sub_cancel_left,List.set_append_left _ _ (by simp[Ui];omega),he];congr 2;exact Zac _ _ _ _ _ (fun j x=>by show Ui (iv _) _=Ui (if _ then _ else _) _;rw[if_neg oM])
variable {w wr w8 : World} {lab lab' : Nat -> Nat × Nat × Nat} {base : Nat} {K J : Nat} {xs : List Xy} {iv : Nat -> Value}
theorem TZ.turn{g n c:Nat}(h:TZ w lab base (.slice (some ⟨g,0,none⟩) n c) K J xs iv)(hn:n=xs.length)(hKJ:K≠J){i q:Nat}(hi:i<xs.length)(hq:q<5)(u v':Value)(x':Xy)(he:(Ui (iv i) xs[i].term).set q u=Ui v' x'.term)
 (hr:XJ w lab (J,i,0) base 54 5 v' x'.instrs.length (Y1 x'.instrs)):TZ (w.setCell ⟨g,i*5+q,none⟩ u) lab base (.slice (some ⟨g,0,none⟩) n c) K J (xs.set i x') (fun j=>if j=i then v' else iv j):=by
 subst hn;have hg:=h.blks.blk.2;have ne:∀j b,lab b=(J,j,0)->b≠g:=fun j b e q=>hKJ (by rw[q,hg]at e;injection e)
 refine⟨?_,fun j hj=>?_⟩
 ·have:=h.blks.set (i*5+q) u
  rw[Zc7 hi hq he]at this;rw[List.length_set];exact this
 ·rw[List.length_set]at hj
  by_cases e:j=i
  ·subst e
   simp only[if_true,List.getElem_set_self];exact hr.sp (JT.put g _ u) (fun b e=>ne _ b e)
  ·simp only[if_neg e,List.getElem_set_ne (fun q=>e q.symm)]
   exact(h.ins j hj).sp (JT.put g _ u) (fun b e=>ne _ b e)
theorem TZ.other{v:Value}(h:TZ w lab base v K J xs iv){i:Nat}(hKJ:K≠J)(k:JT w w8 lab lab' base (fun b=>lab b≠(J,i,0))):XJ w8 lab' (K,0,0) base 52 5 v xs.length (Jv iv xs)/\∀j (hj:j<xs.length),j≠i->XJ w8 lab' (J,j,0) base 54 5 (iv j) xs[j].instrs.length (Y1 xs[j].instrs) :=
 ⟨h.blks.sp k (fun b e q=>hKJ (by rw[e]at q;injection q)),fun j hj hne=>(h.ins j hj).sp k (fun b e q=>hne (by rw[e]at q;injection q with _ q;injection q))⟩
structure LpW where
 w:World
 base:Nat
 L2:Nat
 B2:Nat
structure VI(w0:LpW)(wr:World)(lab:Nat->Nat × Nat × Nat)(lb:Nat)(V:Int)(a:Option Addr)(n c:Nat)(ac:Option Addr)(nc cc:Nat)(pa:Option Addr)(pc:Nat)(k:Int)(mv:Value)(M:List Xy)(iv:Nat->Value):Prop where
 low:Below w0.base w0.w wr
 bx:Bx wr lb #[.int .i64 V,.slice a n c,.slice ac nc cc,.slice pa n pc,.int .i64 k,mv] 61
 lw:w0.base<=lb
 m:TZ wr lab w0.base mv 1 3 M iv
 fr:∀q,wr.heap.size<=q->lab q=(0,0,0)
 l0:lab lb=(0,0,0)
 sm:Xv w0.L2 w0.B2 w0.w wr
 lp:∀b,w0.L2<=b->b<w0.B2->lab b=(0,0,0)
 gd:w0.base<=w0.L2/\w0.B2<=w0.w.heap.size/\w0.base<=w0.w.heap.size/\¬(w0.L2<=lb/\lb<w0.B2)
variable {w0 : LpW} {lb : Nat} {V : Int} {a : Option Addr} {n c : Nat} {ac : Option Addr} {nc cc : Nat} {pa : Option Addr} {pc : Nat} {k : Int} {mv v8 : Value} {M : List Xy}
theorem VI.bs(h:VI w0 wr lab lb V a n c ac nc cc pa pc k mv M iv):w0.base<=wr.heap.size:=Nat.le_trans h.gd.2.2.1 h.low.size
theorem VI.b2(h:VI w0 wr lab lb V a n c ac nc cc pa pc k mv M iv):w0.B2<=wr.heap.size:=Nat.le_trans h.gd.2.1 h.low.size
theorem VI.sms(h:VI w0 wr lab lb V a n c ac nc cc pa pc k mv M iv){ok:Nat->Prop}(hs:JT wr w8 lab lab' w0.base ok)(ho:∀b,lab b=(0,0,0)->ok b):Xv w0.L2 w0.B2 w0.w w8/\∀b,w0.L2<=b->b<w0.B2->lab' b=(0,0,0):=by
 have hg:=h.gd.1;have hb:=h.b2;refine⟨fun b h1 h2=>(hs.same b oM oM (ho b (h.lp b h1 h2))).1.trans (h.sm b h1 h2),fun b h1 h2=>(hs.same b oM oM (ho b (h.lp b h1 h2))).2.trans (h.lp b h1 h2)⟩
theorem VI.calm(h:VI w0 wr lab lb V a n c ac nc cc pa pc k mv M iv)(hb:Below wr.heap.size wr w8):VI w0 w8 lab lb V a n c ac nc cc pa pc k mv M iv :=
 ⟨h.low.trans (hb.mono h.bs),h.bx.keep (hb.block _ h.bx.lt),h.lw,h.m.sp (JT.below hb) (fun _ _=>trivial) (fun _ _ _ _=>trivial),fun q hq=>h.fr q (Nat.le_trans hb.size hq),h.l0,(h.sms (JT.below hb) (fun _ _=>trivial)).1,h.lp,h.gd⟩
theorem VI.spT(h:VI w0 wr lab lb V a n c ac nc cc pa pc k mv M iv)(hb:Below wr.heap.size wr w8)(hs:JT wr w8 lab lab' w0.base (fun _=>True)):VI w0 w8 lab' lb V a n c ac nc cc pa pc k mv M iv :=
 ⟨h.low.trans (hb.mono h.bs),h.bx.keep (hb.block _ h.bx.lt),h.lw,h.m.sp hs (fun _ _=>trivial) (fun _ _ _ _=>trivial),hs.fresh h.fr,(hs.same _ h.lw h.bx.lt trivial).2.trans h.l0,(h.sms hs (fun _ _=>trivial)).1,(h.sms hs (fun _ _=>trivial)).2,h.gd⟩
theorem VI.push(h:VI w0 wr lab lb V a n c ac nc cc pa pc k mv M iv)(x:Xy){q:Value}(hq:XJ wr lab (3,M.length,0) w0.base 54 5 q x.instrs.length (Y1 x.instrs))(hg:wr.grownBy w8 mv.ownBlock)(ho:w8.ownsRow w0.base 52 5 v8 (M.length+1) (Jv iv M++Ui q x.term))(hat:v8.ownBlock=mv.ownBlock\/v8.ownBlock=some wr.heap.size) :
 (∃lab',VI w0 (w8.setCell ⟨lb,5,none⟩ v8) lab' lb V a n c ac nc cc pa pc k v8 (M++[x]) (fun i=>if i=M.length then q else iv i))/\Bx w8 lb #[.int .i64 V,.slice a n c,.slice ac nc cc,.slice pa n pc,.int .i64 k,mv] 61:=by
 obtain⟨lab',hM,hs⟩:=h.m.push dC x hq hg ho hat h.fr;have hne:∀b,lab b=(0,0,0)->lab b≠(1,0,0):=fun b e q=>by rw[e]at q;simp at q
 have hlow:Below w0.base wr w8:=⟨hg.os,hg.tape,hg.output,hg.size,fun q hq=>hg.block q (Nat.lt_of_lt_of_le hq h.bs) (fun e=>by have:=(h.m.blks.own.lt q e.symm).1;omega)⟩;have l0:=(hs.same _ h.lw h.bx.lt (hne _ h.l0)).2.trans h.l0;have hb8:=h.bx.sp hs h.lw (hne _ h.l0);have nl:∀b L,lab' b=L->L≠(0,0,0)->b≠lb:=fun b L e hL q=>hL (by rw[<-e,q];exact l0)
 have hp:=JT.put (w:=w8) (lab:=lab') (base:=w0.base) lb 5 v8;have hsm:=h.sms hs hne;exact⟨⟨lab',(h.low.trans hlow).setCell (p:=⟨lb,5,none⟩) h.lw _,hb8.set 5 v8,h.lw,hM.sp hp (fun b e=>nl b _ e sP) (fun b i _ e=>nl b _ e sP),hp.fresh (hs.fresh h.fr),l0,fun b h1 h2=>(Below.heap_setCell _ _ _ _ (fun e=>h.gd.2.2.2 (by have e2:b=lb:=e;rw[<-e2];exact⟨h1,h2⟩))).trans (hsm.1 b h1 h2),hsm.2,h.gd⟩,hb8⟩
theorem VI.row{g nm cm:Nat}(h:VI w0 wr lab lb V a n c ac nc cc pa pc k (.slice (some ⟨g,0,none⟩) nm cm) M iv)(hnm:nm=M.length){i:Nat}(hi:i<M.length)(ys:List XN)(hg:wr.grownBy w8 (iv i).ownBlock)(ho:w8.ownsRow w0.base 54 5 v8 (M[i].instrs.length+ys.length) (Y1 M[i].instrs++Y1 ys))(hat:v8.ownBlock=(iv i).ownBlock\/v8.ownBlock=some wr.heap.size) :
 (∃lab',VI w0 (w8.setCell ⟨g,i*5,none⟩ v8) lab' lb V a n c ac nc cc pa pc k (.slice (some ⟨g,0,none⟩) nm cm) (M.set i ⟨M[i].instrs++ys,M[i].term⟩) (fun j=>if j=i then v8 else iv j))/\Bx w8 lb #[.int .i64 V,.slice a n c,.slice ac nc cc,.slice pa n pc,.int .i64 k,.slice (some ⟨g,0,none⟩) nm cm] 61/\w8.cell? ⟨g,i*5,none⟩=some (iv i)/\(∀q,w8.frozen? ⟨g,q,none⟩=false)/\lb≠g:=by
 subst hnm;obtain⟨lab',hr,hs⟩:=(h.m.ins i hi).grow hg ho hat h.fr;have hne:∀b,lab b=(0,0,0)->lab b≠(3,i,0):=fun b e q=>by rw[e]at q;simp at q
 have hlow:Below w0.base wr w8:=⟨hg.os,hg.tape,hg.output,hg.size,fun q hq=>hg.block q (Nat.lt_of_lt_of_le hq h.bs) (fun e=>by have:=((h.m.ins i hi).own.lt q e.symm).1;omega)⟩;have l0:=(hs.same _ h.lw h.bx.lt (hne _ h.l0)).2.trans h.l0;have hb8:=h.bx.sp hs h.lw (hne _ h.l0);obtain⟨hk,ho2⟩:=h.m.other dC hs;have hgl:=hk.blk;have hlg:lb≠g:=fun e=>by rw[e]at l0;rw[hgl.2]at l0;simp at l0
 have e1:(M[i].instrs++ys).length=M[i].instrs.length+ys.length:=List.length_append;have hr2:XJ w8 lab' (3,i,0) w0.base 54 5 v8 (M[i].instrs++ys).length (Y1 (M[i].instrs++ys)):=by rw[e1,Z9];exact hr
 have hp:=JT.put (w:=w8) (lab:=lab') (base:=w0.base) g (i*5) v8;have hsm:=h.sms hs hne;have hng:∀j b,lab' b=(3,j,0)->b≠g:=fun j b e q=>by rw[q,hgl.2]at e;simp at e
 have hM:TZ (w8.setCell ⟨g,i*5,none⟩ v8) lab' w0.base (.slice (some ⟨g,0,none⟩) M.length cm) 1 3 (M.set i ⟨M[i].instrs++ys,M[i].term⟩) (fun j=>if j=i then v8 else iv j):=by
  refine⟨?_,fun j hj=>?_⟩
  ·have:=hk.set (i*5) v8
   have e9:=Zc7 (q:=0) (u:=v8) (v':=v8) (x':=⟨M[i].instrs++ys,M[i].term⟩) hi oM (iv:=iv) rfl;rw[Nat.add_zero]at e9;rw[e9]at this;rw[List.length_set];exact this
  ·rw[List.length_set]at hj
   by_cases e:j=i
   ·subst e
    simp only[if_true,List.getElem_set_self];exact hr2.sp hp (fun b e=>hng _ b e)
   ·simp only[if_neg e,List.getElem_set_ne (fun q=>e q.symm)]
    exact(ho2 j hj e).sp hp (fun b e=>hng _ b e)
 refine⟨⟨lab',(h.low.trans hlow).setCell (p:=⟨g,i*5,none⟩) hgl.1.1 _,hb8.other hlg,h.lw,hM,hp.fresh (hs.fresh h.fr),l0,fun b h1 h2=>(Below.heap_setCell _ _ _ _ (fun e=>by have:=hsm.2 b h1 h2;have e2:b=g:=e;rw[e2,hgl.2]at this;simp at this)).trans (hsm.1 b h1 h2),hsm.2,h.gd⟩,hb8,?_,fun q=>hk.thaw q,hlg⟩;have:=Kv (q:=0) (u:=iv i) hk hi oM rfl;rwa[Nat.add_zero]at this
end Go.Proofs.YtlmgmkmomaileaaGreatDoor
