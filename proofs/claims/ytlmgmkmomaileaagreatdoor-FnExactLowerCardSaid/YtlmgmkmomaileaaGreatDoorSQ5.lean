import Derived.Test.YtlmgmkmomaileaaGreatDoorSQ4
import Derived.Test.YtlmgmkmomaileaaGreatDoorVP0
namespace Go.Proofs.YtlmgmkmomaileaaGreatDoor
set_option maxHeartbeats 2000000
set_option maxRecDepth 100000
open Go.RowKit
theorem ZhW(a:Option Addr)(n c:Nat)(xs:List Mv)(L B:Nat)(w:World)(ha:Hid (Jw w L B a xs))(hx:Hid (n=xs.length))(hn:n<=1048576)(hB:B<=w.heap.size) :
 Calls Tryz.prog 35 #[.slice a n c] w fun e w'=>∃v,e=.returned v/\v≠.slice none 0 0/\Below w.heap.size w w'/\w'.ownsRow w.heap.size 54 5 v (JA xs).length (Y1 (JA xs)):=by
 have HG:Hid (Calls Tryz.prog 62 #[.slice a n c] w fun e w'=>e=.returned (.bool (Yy xs))/\Below w.heap.size w w'):=Xa (Zam a n c xs L B w ha hx hn hB);cases hg:Yy xs with
 | false =>
  have HS:Hid (JA xs=[]):=Xa (by unfold JA;rw[hg];rfl);rw[hg]at HG;clear hg
  go_enter Tryz.func35,Tryz.ntmps35
  go_wp2_with (go_at_call 62;refine HG.mono ?_;rintro e w1 ⟨rfl,hb1⟩)
  go_ret
  refine⟨_,rfl,sP,Xd hb1 (Xb (Below.refl _ _) _),?_⟩;rw[HS.out];exact X9 (Tv w1) hb1.size
 | true =>
  obtain⟨h64,hgood⟩:=TQ hg;have HS:Hid (JA xs=XI (2*(startM xs).length) (startM xs)):=Xa (by unfold JA;rw[if_pos hg]);have HOK:=Xa hgood.start.1;have hn64:n<=64:=by have:=hx.out;omega
  rw[hg]at HG;clear hg hgood h64;obtain⟨j0,hj0,hjz0,hjz1,hjz2⟩:=info_parts Tryz.infoMv
  go_enter Tryz.func35,Tryz.ntmps35
  go_wp2_with (go_at_call 62;refine HG.mono ?_;rintro e w1 ⟨rfl,hb1⟩;have HB1:=Xa hb1;have s1:=hb1.size;clear hb1)
  go_loopw [3,4] (fun v u wr=>∃q:Nat,q<=n/\u=.int .i64 q/\Hid (Below w.heap.size w wr)/\Hid (wr.ownsRow w.heap.size 85 2 v (startM (xs.take q)).length (Tz (startM (xs.take q))))) (fun _ u _=>n-(intOf u).toNat)
  case atStart=>exact⟨0,Nat.zero_le _,rfl,Xa (HB1.alloc s1 _),Xa (by rw[List.take_zero];exact X9 (Zbc w1) s1)⟩
  case round =>
   obtain⟨q,hq,rfl,HB2,HO⟩:=hrel;have hwz:=HB2.size;by_cases hlt:q<n
   ·have hqx:q<xs.length:=by have:=hx.out;omega
    obtain⟨b,o,rfl,hbB,e0w,e1w⟩:=ha.out q hqx;have e0:=(Xu HB2.out oM).trans e0w;have e1:=(Xu HB2.out oM).trans e1w;have HT:Hid (startM (xs.take (q+1))=startM (xs.take q)++(if xs[q].to=xs[q].frm then []else [xs[q]])):=Xa (by
     unfold startM;rw[List.take_succ_eq_append_getElem hqx,List.filter_append];congr 1;by_cases h:xs[q].to=xs[q].frm
     ·rw[if_pos h,List.filter_cons_of_neg (by simp[h])];rfl
     ·rw[if_neg h,List.filter_cons_of_pos (by simpa using h)];rfl)
    have HL:Hid ((startM (xs.take q)).length<=64):=Xa (Nat.le_trans (List.length_filter_le _ _) (by simp;omega));clear e0w e1w;generalize hm:xs[q]=m at *;obtain⟨t,f⟩:=m;dsimp only at *;clear hm;generalize startM (xs.take q)=ys at *;by_cases hf:t=f
    ·rw[if_pos hf,List.append_nil]at HT
     subst hf;go_wp2
     go_region
     go_wp2;exact⟨⟨q+1,oM,gM,Xa HB2.drew,Xa (by rw[HT.out];exact HO.out)⟩,by simp[intOf];omega⟩
    ·rw[if_neg hf]at HT
     have hfb:(t==f)=false:=by simpa using hf
     go_wp2
     go_region
     go_wp2_with (at_builtin;refine wpList_append_own_at _ rfl _ _ 81 rfl w.heap.size 85 j0 (.agg #[.int .i64 0,.int .i64 0]) 2 16 Tryz.underlying81 hj0 hjz0 hjz1 hjz2 rfl dC _ _ _ rfl (World.ownsRow.alloc (w:=wr.drew) HO.out _) ⟨wr.heap.size,0,none⟩ 1 1 [.int .i64 t,.int .i64 f] rfl rfl ?c1 ?c2 ?c3 ?c4 ?c5 ?_)
     case c1=>exact Tg wr.drew _ _ _
     case c2=>intro u hu;simp at hu;rcases hu with rfl | rfl<;>rfl
     case c3=>have:=HL.out;unfold maxLen;omega
     case c4=>have:=HL.out;omega
     case c5=>simp;omega
     intro v1 w2 hown1 hgrow1 hne1 hat1;have HO1:Hid (w2.ownsRow w.heap.size 85 2 v1 (startM (xs.take (q+1))).length (Tz (startM (xs.take (q+1))))):=Xa (by
      rw[HT.out,Tj,List.length_append];exact hown1)
     have HB3:Hid (Below w.heap.size w w2):=Xa (Xr ((HB2.drew).alloc (by show w.heap.size<=wr.heap.size;omega) _) hgrow1 (World.ownsRow.alloc (w:=wr.drew) HO.out _) (Nat.le_refl _) (by simp;omega));clear hown1 hgrow1 hne1 hat1 HO HB2 HT;go_wp2;exact⟨⟨q+1,oM,gM,HB3,HO1⟩,by simp[intOf];omega⟩
   ·have hqn:q=n:=oM
    have HO2:Hid (wr.ownsRow w.heap.size 85 2 u3 (startM xs).length (Tz (startM xs))):=Xa (by have:=HO.out;rwa[List.take_of_length_le (by have:=hx.out;omega)]at this);have hyl:(startM xs).length<=64:=Nat.le_trans (List.length_filter_le _ _) (by have:=hx.out;omega);clear HO;generalize startM xs=ys at *;obtain⟨a4,k4,hu3,-,hk4,hm4⟩:=Z0 HO2.out;have HM4:=Xa hm4;subst hu3;clear hm4 HO2
    go_wp2_with fail
    have C7:=Zev (2*ys.length) a4 ys.length k4 ys _ _ wr HM4 (Xa rfl) HOK hyl oM (Nat.le_refl _);rw[show((2*ys.length:Nat):Int)=2*(ys.length:Int) by omega]at C7;refine C7.mono ?_;rintro e w7 ⟨v7,rfl,hn7,hb7,ho7⟩;have HO7:=Xa ho7;have HB7:=Xa (Xd HB2.out hb7);have HN7:=Xa hn7;clear ho7 hb7 hn7 C7;go_wp2
    go_ret
    refine⟨_,rfl,HN7.out,HB7.out,?_⟩;rw[HS.out];exact X9 HO7.out oM
end Go.Proofs.YtlmgmkmomaileaaGreatDoor
namespace Go.Proofs.YtlmgmkmomaileaaGreatDoor
open Go.RowKit
def Ui(i:Value)(t:Zu):List Value:=[i,.int .i64 t.kind,.int .i64 t.a,.int .i64 t.to,.int .i64 t.els]
def Jv(iv:Nat->Value)(xs:List Xy):List Value:=Ys (fun i x=>Ui (iv i) x.term) 0 xs
theorem ZgP{iv:Nat->Value}(xs:List Xy)(x:Xy):Jv iv (xs++[x])=Jv iv xs++Ui (iv xs.length) x.term:=by
 unfold Jv;rw[ZaS,Nat.zero_add]
theorem UI{iv jv:Nat->Value}{xs:List Xy}(h:∀i,i<xs.length->iv i=jv i):Jv iv xs=Jv jv xs:=by
 unfold Jv;have key:∀(ys:List Xy)(k:Nat),(∀i,i<ys.length->iv (k+i)=jv (k+i))->Ys (fun i x=>Ui (iv i) x.term) k ys=Ys (fun i x=>Ui (jv i) x.term) k ys:=by
  intro ys
  induction ys with
  | nil=>intro k _;rfl
  | cons y r ih =>
   intro k hk;show Ui (iv k) y.term++Ys _ (k+1) r=Ui (jv k) y.term++Ys _ (k+1) r;rw[show iv k=jv k from hk 0 sP,ih (k+1) (fun i hi=>by have:=hk (i+1) (by simpa using hi);rwa[show k+(i+1)=k+1+i by omega]at this)]
 exact key xs 0 (fun i hi=>by rw[Nat.zero_add];exact h i hi)
theorem VG(iv:Nat->Value)(xs:List Xy):(Jv iv xs).length=xs.length*5:=ZaG (sz:=5) (fun _ _=>rfl) _ _
variable {w w' : World} {lab lab' : Nat -> Nat × Nat × Nat} {base : Nat} {ok : Nat -> Prop}
theorem XJ.fresh{L:Nat × Nat × Nat}{t sz n:Nat}{v:Value}{cs:List Value}(hb:Below w.heap.size w w')(ho:w'.ownsRow w.heap.size t sz v n cs)(hB:base<=w.heap.size)(hf:∀b,w.heap.size<=b->lab b=(0,0,0)) :
 ∃lab',XJ w' lab' L base t sz v n cs/\JT w w' lab lab' base (fun _=>True):=by
 refine⟨fun b=>if v.ownBlock=some b then L else lab b,⟨?_,fun b e=>if_pos e⟩,hb.size,fun b h1 h2 _=>⟨hb.block b h2,if_neg (fun e=>?_)⟩,fun _ b hb2=>(if_neg (fun e=>?_)).trans (hf b (Nat.le_trans hb.size hb2))⟩
 ·obtain⟨hl,h | ⟨g,cap,cur,e,hg,hh,hc⟩⟩:=ho
  ·exact⟨hl,Or.inl h⟩
  ·exact⟨hl,Or.inr ⟨g,cap,cur,e,oM,hh,hc⟩⟩
 ·have:=(ho.lt b e).1;omega
 ·have:=(ho.lt b e).2;omega
structure TZ(w:World)(lab:Nat->Nat × Nat × Nat)(base:Nat)(v:Value)(K J:Nat)(xs:List Xy)(iv:Nat->Value):Prop where
 blks:XJ w lab (K,0,0) base 52 5 v xs.length (Jv iv xs)
 ins:∀i (h:i<xs.length),XJ w lab (J,i,0) base 54 5 (iv i) xs[i].instrs.length (Y1 xs[i].instrs)
variable {v v' : Value} {K J : Nat} {xs : List Xy} {iv : Nat -> Value}
theorem TZ.nil:TZ w lab base (.slice none 0 0) K J [] iv:=⟨⟨World.ownsRow_nil _ _ _ _,fun b e=>by cases e⟩,fun i h=>absurd h (Nat.not_lt_zero _)⟩
theorem TZ.sp(h:TZ w lab base v K J xs iv)(k:JT w w' lab lab' base ok)(ho:∀b,lab b=(K,0,0)->ok b)(hi:∀b i,i<xs.length->lab b=(J,i,0)->ok b):TZ w' lab' base v K J xs iv :=
 ⟨h.blks.sp k ho,fun i hl=>(h.ins i hl).sp k (fun b e=>hi b i hl e)⟩
theorem TZ.push(h:TZ w lab base v K J xs iv)(hKJ:K≠J)(x:Xy){q:Value}(hq:XJ w lab (J,xs.length,0) base 54 5 q x.instrs.length (Y1 x.instrs))(hg:w.grownBy w' v.ownBlock)(ho:w'.ownsRow base 52 5 v' (xs.length+1) (Jv iv xs++Ui q x.term))(hat:v'.ownBlock=v.ownBlock\/v'.ownBlock=some w.heap.size)(hf:∀b,w.heap.size<=b->lab b=(0,0,0)) :
 ∃lab',TZ w' lab' base v' K J (xs++[x]) (fun i=>if i=xs.length then q else iv i)/\JT w w' lab lab' base (fun b=>lab b≠(K,0,0)):=by
 obtain⟨lab',hr,hs⟩:=h.blks.grow hg ho hat hf;have ne:∀i b,lab b=(J,i,0)->lab b≠(K,0,0):=fun i b e q=>hKJ (by rw[e]at q;injection q with q;exact q.symm)
 refine⟨lab',⟨?_,fun i hi=>?_⟩,hs⟩
 ·have e:Jv (fun i=>if i=xs.length then q else iv i) (xs++[x])=Jv iv xs++Ui q x.term:=by
   rw[ZgP,if_pos rfl,UI (jv:=iv) (fun i hi=>if_neg oM)]
  rw[e,List.length_append,List.length_singleton];exact hr
 ·by_cases e:i=xs.length
  ·subst e
   rw[if_pos rfl];have e2:(xs++[x])[xs.length]=x:=sP;rw[e2];exact hq.sp hs (fun b e=>ne _ b e)
  ·rw[if_neg e]
   have hi2:i<xs.length:=by rw[List.length_append,List.length_singleton]at hi;omega
   rw[List.getElem_append_left hi2];exact(h.ins i hi2).sp hs (fun b e=>ne _ b e)
theorem Kv{g n c i:Nat}(h:XJ w lab (K,0,0) base 52 5 (.slice (some ⟨g,0,none⟩) n c) n (Jv iv xs))(hi:i<xs.length){q:Nat}{u:Value}(hq:q<5)(hu:(Ui (iv i) xs[i].term)[q]?=some u):w.cell? ⟨g,i*5+q,none⟩=some u:=h.cell (by
 unfold Jv;rw[Td (sz:=5) (fun _ _=>rfl) 0 xs i hi q hq,Nat.zero_add];exact hu)
theorem Wa:∀(ys:List XN)(k:Nat),Y1 ys=Ys (fun _ x=>[.int .i64 x.op,.int .i64 x.dst,.int .i64 x.a,.int .i64 x.b,.int .i64 x.imm]) k ys
 | [],_=>rfl
 | y::r,k=>by rw[Wh,Wa r (k+1)];rfl
theorem XJ.inss{L:Nat × Nat × Nat}{a:Option Addr}{n c:Nat}{ys:List XN}(h:XJ w lab L base 54 5 (.slice a n c) ys.length (Y1 ys)):X0 w base w.heap.size a ys:=fun i hi=>by
 obtain⟨g,c',e⟩:=h.got oM;cases e;have hc:∀q u,q<5->([.int .i64 ys[i].op,.int .i64 ys[i].dst,.int .i64 ys[i].a,.int .i64 ys[i].b,.int .i64 ys[i].imm]:List Value)[q]?=some u->w.cell? ⟨g,i*5+q,none⟩=some u:=fun q u hq hu=>h.cell (by
  rw[Wa ys 0,Td (sz:=5) (fun _ _=>rfl) 0 ys i hi q hq];exact hu)
 refine⟨g,0,rfl,h.blk.1,?_⟩;rw[Nat.zero_add];exact⟨hc 0 _ oM rfl,hc 1 _ oM rfl,hc 2 _ oM rfl,hc 3 _ oM rfl,hc 4 _ oM rfl⟩
theorem TZ.at_{a:Option Addr}{n c:Nat}(h:TZ w lab base (.slice a n c) K J xs iv):Y4 w base w.heap.size a xs:=fun i hi=>by
 obtain⟨g,c',e⟩:=h.blks.got oM;cases e;have hb:=h.blks;obtain⟨ia,ic,ei⟩:=(h.ins i hi).form;have hr:=h.ins i hi;rw[ei]at hr;have cc:=fun q u hq hu=>Kv (q:=q) (u:=u) hb hi hq hu
 refine⟨g,0,rfl,hb.blk.1,ia,ic,?_,⟨?_,?_,?_,?_⟩,hr.inss⟩
 ·rw[Nat.zero_add];exact cc 0 _ oM (by rw[<-ei];rfl)
 ·rw[Nat.zero_add];exact cc 1 _ oM rfl
 ·rw[Nat.zero_add];exact cc 2 _ oM rfl
 ·rw[Nat.zero_add];exact cc 3 _ oM rfl
 ·rw[Nat.zero_add];exact cc 4 _ oM rfl
end Go.Proofs.YtlmgmkmomaileaaGreatDoor
namespace Go.Proofs.YtlmgmkmomaileaaGreatDoor
set_option maxHeartbeats 1000000
open Go.RowKit
attribute [local go_sem ↓] Go.wp_at_zero Go.wp_at_succ
theorem Zbx(i i':Option Addr)(m ic ic':Nat)(t0 t1 t2 t3:Int)(ys:List XN)(L B L' B':Nat)(w:World)(ga:Hid (X0 w L B i ys))(gb:Hid (X0 w L' B' i' ys))
 (hy:Hid (m=ys.length)) (hm:m<=1048576) (hB:B<=w.heap.size) (hB':B'<=w.heap.size) :
 Calls Tryz.prog 49 #[.agg #[.slice i m ic,.int .i64 t0,.int .i64 t1,.int .i64 t2,.int .i64 t3],.agg #[.slice i' m ic',.int .i64 t0,.int .i64 t1,.int .i64 t2,.int .i64 t3]] w fun e w'=>e=.returned (.bool true)/\Below w.heap.size w w':=by
 go_enter Tryz.func49,Tryz.ntmps49
 go_wp2_with fail
 refine(Uz _ _ _ _ _ ys L B L' B' _ ?q1 ?q2 hy hm ?q3 ?q4).mono ?_
 case q1=>exact ga.keep (((Below.refl _ _).alloc oM _).alloc (by simp;omega) _)
 case q2=>exact gb.keep (((Below.refl _ _).alloc oM _).alloc (by simp;omega) _)
 case q3=>simp;omega
 case q4=>simp;omega
 rintro e w1 ⟨rfl,hb1⟩;have hz1:=hb1.size;simp at hz1;have hz2:w.heap.size<w1.heap.size:=oM;have hz3:w.heap.size+1<w1.heap.size:=oM;obtain⟨hc1,hf1⟩:=bcell hb1;have b1:=Xd (Xb (Xb (Below.refl _ _) _) _) hb1
 go_wp2_with fail
 refine(Wn _ _ _ _ _).mono ?_;rintro e w3 ⟨rfl,hb3⟩;go_wp2
 go_ret
 exact⟨rfl,Xd b1 hb3⟩
theorem Za0(a a':Option Addr)(n c c':Nat)(xs:List Xy)(L B L' B':Nat)(w:World)(ha:Hid (Y4 w L B a xs))(hb:Hid (Y4 w L' B' a' xs))(hx:Hid (n=xs.length))(hs:Hid (ZbL xs))(hn:n<=1048576)(hB:B<=w.heap.size)(hB':B'<=w.heap.size) :
 Calls Tryz.prog 25 #[.slice a n c,.slice a' n c'] w fun e w'=>e=.returned (.bool true)/\Below w.heap.size w w':=by
 go_enter Tryz.func25,Tryz.ntmps25
 go_wp2
 go_loopw [5] (fun i wr=>∃k:Nat,k<=n/\i=.int .i64 k/\Below w.heap.size w wr) (fun i _=>n-(intOf i).toNat)
 case atStart=>exact⟨0,Nat.zero_le _,rfl,Below.refl _ _⟩
 case round =>
  obtain⟨k,hk,rfl,hw⟩:=hrel;by_cases hlt:k<n
  ·have hkx:k<xs.length:=by have:=hx.out;omega
   obtain⟨b,o,rfl,⟨_,hbB⟩,hc⟩:=ha.out k hkx;obtain⟨b',o',rfl,⟨_,hbB'⟩,hc'⟩:=hb.out k hkx;have hk0:(0:Int)<=(k:Int):=oM;have hk1:(k:Int)<(n:Int):=oM;obtain⟨ia,ic,e1,⟨e2,e3,e4,e5⟩,hi⟩:=hc.keep (hw.mono hB) oM;obtain⟨ia',ic',f1,⟨f2,f3,f4,f5⟩,hi'⟩:=hc'.keep (hw.mono hB') oM;have HI:=Xa (hi.keep ((Below.refl B wr).drew));have HI':=Xa (hi'.keep ((Below.refl B' wr).drew));have hq2:=hs.out _ (List.getElem_mem hkx);have hBr:B<=wr.heap.size:=by have:=hw.size;omega
   have hBr':B'<=wr.heap.size:=by have:=hw.size;omega
   clear hc hc' hi hi';generalize xs[k]=X at *;go_wp2
   go_region_with (go_at_call 49;refine(Zbx _ _ _ _ _ _ _ _ _ X.instrs L B L' B' _ HI HI' rfl hq2 hBr hBr').mono ?_;rintro e w1 ⟨rfl,hb1⟩)
   all_goals
    go_wp2;exact⟨⟨k+1,oM,gM,Xd hw.drew hb1⟩,by simp[intOf];omega⟩
  ·go_wp2
   go_ret
   exact⟨rfl,hw⟩
theorem ZdT(v:Int)(a a':Option Addr)(n c c':Nat)(xs:List Xy)(L B L' B':Nat)(w:World)(ha:Hid (Y4 w L B a xs))(hb:Hid (Y4 w L' B' a' xs))(hx:Hid (n=xs.length))(hs:Hid (ZbL xs))(hn:n<=1048576)(hB:B<=w.heap.size)(hB':B'<=w.heap.size) :
 Calls Tryz.prog 9 #[.agg #[.int .i64 v,.slice a n c],.agg #[.int .i64 v,.slice a' n c']] w fun e w'=>e=.returned (.bool true)/\Below w.heap.size w w':=by
 go_enter Tryz.func9,Tryz.ntmps9
 go_wp2_with fail
 refine(Za0 _ _ _ _ _ xs L B L' B' _ ?q1 ?q2 hx hs hn ?q3 ?q4).mono ?_
 case q1=>exact ha.keep (((Below.refl _ _).alloc oM _).alloc (by simp;omega) _)
 case q2=>exact hb.keep (((Below.refl _ _).alloc oM _).alloc (by simp;omega) _)
 case q3=>simp;omega
 case q4=>simp;omega
 rintro e w1 ⟨rfl,hb1⟩;go_wp2
 go_ret
 exact⟨rfl,Xd (Xb (Xb (Below.refl _ _) _) _) hb1⟩
end Go.Proofs.YtlmgmkmomaileaaGreatDoor
namespace Go.Proofs.YtlmgmkmomaileaaGreatDoor
set_option maxHeartbeats 4000000
open Go.RowKit
def mCnt(xs:List Xy):Nat:=(xs.map fun x=>5*x.instrs.length+4).sum
theorem ZfJ(xs:List Xy)(x:Xy):mCnt (xs++[x])=mCnt xs+(5*x.instrs.length+4):=by simp[mCnt]
theorem Za9(xs:List Xy)(j:Nat):mCnt (xs.take j)<=mCnt xs:=YZ _ _ _
def mAt(k:Int)(xs:List Xy)(q:Nat):Int:=k+(mCnt (xs.take q):Nat)
theorem Zdb(k:Int)(xs:List Xy){j:Nat}(h:j<xs.length):mAt k xs (j+1)=mAt k xs j+(5*xs[j].instrs.length+4:Nat):=by
 unfold mAt;rw[Xq _ _ h,ZfJ];omega
structure Zge(w:World)(L B G:Nat)(xs:List Xy)(Ls Bs:Nat->Nat):Prop where
 at_:∀i (h:i<xs.length),(L<=Ls i/\Bs i<=B)/\¬(Ls i<=G/\G<Bs i)/\∃ia ic,w.cell? ⟨G,i*5,none⟩=some (.slice ia xs[i].instrs.length ic)/\YW w G (i*5+1) xs[i].term/\Zaf w (Ls i) (Bs i) ia xs[i].instrs
 ne:∀i j,i<xs.length->j<xs.length->i≠j->∀b,Ls i<=b->b<Bs i->¬(Ls j<=b/\b<Bs j)
structure MkM(w wr:World)(L B G:Nat)(k:Int)(xs:List Xy)(Ls Bs:Nat->Nat)(j:Nat):Prop where
 iw:IW L B w wr
 got:∀q (_:q<xs.length),q<j->∀ia ic,w.cell? ⟨G,q*5,none⟩=some (.slice ia xs[q].instrs.length ic)->Ym wr (Ls q) (Bs q) ia (mAt k xs q) xs[q].instrs.length/\YW wr G (q*5+1) (Zhr (mAt k xs q+5*(xs[q].instrs.length:Nat)))
 rest:∀q,j<=q->q<xs.length->Xv (Ls q) (Bs q) w wr
theorem MkM.next{w wr w3:World}{L B G:Nat}{k:Int}{xs:List Xy}{Ls Bs:Nat->Nat}{j:Nat}(h:MkM w wr L B G k xs Ls Bs j)(hq:Zge w L B G xs Ls Bs)(hG:L<=G/\G<B)(hj:j<xs.length){ia:Option Addr}{ic:Nat}
 (c0:w.cell? ⟨G,j*5,none⟩=some (.slice ia xs[j].instrs.length ic))
 (i3:IW (Ls j) (Bs j) wr w3) (m3:Ym w3 (Ls j) (Bs j) ia (mAt k xs j) xs[j].instrs.length) {T:Zu} (t:YW w3 G (j*5+1) T) (v0 v1 v2 v3:Int)
 (e0:v0=mAt k xs j+5*(xs[j].instrs.length:Nat)) (e1:v1=v0+1) (e2:v2=v0+2) (e3:v3=v0+3) :
 MkM w ((((w3.setCell ⟨G,j*5+1,none⟩ (.int .i64 v0)).setCell ⟨G,j*5+1+1,none⟩ (.int .i64 v1)).setCell ⟨G,j*5+1+2,none⟩ (.int .i64 v2)).setCell ⟨G,j*5+1+3,none⟩ (.int .i64 v3)) L B G k xs Ls Bs (j+1):=by
 obtain⟨q1,q2,_⟩:=hq.at_ j hj;have nG:∀q (hq':q<xs.length),¬(Ls q<=G/\G<Bs q):=fun q hq'=>(hq.at_ q hq').2.1
 have i23:IW L B wr w3:=i3.widen (fun b _ _=>oM);obtain⟨t0,t1,t2,t3⟩:=t;have out:∀q,q<xs.length->q≠j->Xv (Ls q) (Bs q) wr w3:=fun q hq' hne b b1 b2=>i3.block b (hq.ne q j hq' hj hne b b1 b2)
 have far:∀q,q<xs.length->Xv (Ls q) (Bs q) w3 ((((w3.setCell ⟨G,j*5+1,none⟩ (.int .i64 v0)).setCell ⟨G,j*5+1+1,none⟩ (.int .i64 v1)).setCell ⟨G,j*5+1+2,none⟩ (.int .i64 v2)).setCell ⟨G,j*5+1+3,none⟩ (.int .i64 v3)):=fun q hq' b b1 b2=>ZhO (fun e=>nG q hq' oM) _ _ _ _
 have kG:w3.heap[G]?=wr.heap[G]?:=i3.block G (fun z=>nG j hj z);refine⟨(h.iw.trans i23).set4 hG t0 t1 t2 t3 _ _ _ _,fun q hq' hqj ia' ic' d0=>?_,fun q hjq hq' b b1 b2=>?_⟩
 ·by_cases e:q=j
  ·subst e
   rw[c0]at d0;cases d0;refine⟨m3.keepS (far q hq'),?_⟩;have q4:=Zit (w:=w3) (g:=G) (o:=q*5+1) (x:=T) ⟨t0,t1,t2,t3⟩ v0 v1 v2 v3;subst e1 e2 e3 e0;exact q4
  ·obtain⟨m1,⟨s0,s1,s2,s3⟩⟩:=h.got q hq' oM ia' ic' d0
   have sm:Xv (Ls q) (Bs q) wr _:=fun b b1 b2=>(far q hq' b b1 b2).trans (out q hq' e b b1 b2)
   refine⟨m1.keepS sm,?_,?_,?_,?_⟩
   ·exact(Tl oM _ _ _ _).trans ((Xc kG).trans s0)
   ·exact(Tl oM _ _ _ _).trans ((Xc kG).trans s1)
   ·exact(Tl oM _ _ _ _).trans ((Xc kG).trans s2)
   ·exact(Tl oM _ _ _ _).trans ((Xc kG).trans s3)
 ·exact(far q hq' b b1 b2).trans ((out q hq' oM b b1 b2).trans (h.rest q oM hq' b b1 b2))
def Za(w:World)(va:Option Addr)(k:Int)(xs:List Xy):Prop:=∀i (_:i<xs.length),∃G L B ia ic,va=some ⟨G,0,none⟩/\w.cell? ⟨G,i*5,none⟩=some (.slice ia xs[i].instrs.length ic)/\Ym w L B ia (mAt k xs i) xs[i].instrs.length/\YW w G (i*5+1) (Zhr (mAt k xs i+5*(xs[i].instrs.length:Nat)))
def JL(w:World)(L B:Nat)(a:Option Addr)(xs:List Xy):Prop:=xs=[]\/∃G Ls Bs,a=some ⟨G,0,none⟩/\(L<=G/\G<B)/\Fz w G/\Zge w L B G xs Ls Bs
theorem Vv(a:Option Addr)(n c:Nat)(k:Int)(xs:List Xy)(L B:Nat)(w:World)(ha:Hid (JL w L B a xs))(hx:Hid (n=xs.length))(hl:Hid (ZbL xs))(hn:n<=1048576)(h0:0<=k)(h1:k<=1000000)(h2:mCnt xs<=900000000) :
 Calls Tryz.prog 28 #[.slice a n c,.int .i64 k] w fun e w'=>e=.returned (.int .i64 (k+mCnt xs))/\IW L B w w'/\Za w' a k xs:=by
 by_cases hn0:n=0
 ·have hxe:xs=[]:=List.eq_nil_of_length_eq_zero (by have:=hx.out;omega)
  subst hxe hn0
  go_enter Tryz.func28,Tryz.ntmps28
  go_wp2
  go_loopw [1,5] (fun u i wr=>i=.int .i64 0/\u=.int .i64 k/\wr=w) (fun _ _ _=>0)
  case atStart=>exact⟨rfl,rfl,rfl⟩
  case round =>
   obtain⟨rfl,rfl,rfl⟩:=hrel;go_wp2
   go_ret
   exact⟨XW (by simp[mCnt]),IW.refl _ _ _,fun i hi=>absurd hi sP⟩
 obtain⟨G,Ls,Bs,rfl,hG,hz,hcl⟩:∃G Ls Bs,a=some ⟨G,0,none⟩/\(L<=G/\G<B)/\Fz w G/\Zge w L B G xs Ls Bs:=by
  rcases ha.out with rfl | h
  ·exact absurd hx.out (by simpa using hn0)
  ·exact h
 have HZ:=Xa hz;have HCL:=Xa hcl;clear ha hz hcl
 go_enter Tryz.func28,Tryz.ntmps28
 go_wp2
 go_loopw [1,5] (fun u i wr=>∃j:Nat,j<=n/\i=.int .i64 j/\u=.int .i64 (mAt k xs j)/\Hid (MkM w wr L B G k xs Ls Bs j)) (fun _ i _=>n-(intOf i).toNat)
 case atStart=>exact⟨0,Nat.zero_le _,rfl,by simp[mAt,mCnt],IW.refl _ _ _,fun q _ hq=>absurd hq oM,fun q _ _ b _ _=>rfl⟩
 case round =>
  obtain⟨j,hj,rfl,rfl,hw⟩:=hrel;by_cases hlt:j<n
  ·have hjx:j<xs.length:=by have:=hx.out;omega
   obtain⟨hLB,hnG,⟨ia,ic,c0,htr,his⟩⟩:=HCL.at_ j hjx;have hS:Hid (mAt k xs (j+1)=mAt k xs j+(5*xs[j].instrs.length+4:Nat)):=Xa (Zdb k xs hjx);have hb2:mAt k xs j+(5*xs[j].instrs.length+4:Nat)<=1000000000/\0<=mAt k xs j:=by
    have h3:=hS.out;have h4:=Za9 xs (j+1);unfold mAt at *;omega
   have hl2:=hl.out _ (List.getElem_mem hjx);have e0':=hw.iw.slice c0;have HIS:=Xa (his.keepS (w':=wr) (hw.rest j (Nat.le_refl _) hjx));have HTR:=Xa htr;have HNX:Hid (∀w3 T,IW (Ls j) (Bs j) wr w3->Ym w3 (Ls j) (Bs j) ia (mAt k xs j) xs[j].instrs.length->YW w3 G (j*5+1) T->∀v0 v1 v2 v3:Int,v0=mAt k xs j+5*(xs[j].instrs.length:Nat)->v1=v0+1->v2=v0+2->v3=v0+3 ->
    MkM w ((((w3.setCell ⟨G,j*5+1,none⟩ (.int .i64 v0)).setCell ⟨G,j*5+1+1,none⟩ (.int .i64 v1)).setCell ⟨G,j*5+1+2,none⟩ (.int .i64 v2)).setCell ⟨G,j*5+1+3,none⟩ (.int .i64 v3)) L B G k xs Ls Bs (j+1)):=Xa (fun w3 T i3 m3 t v0 v1 v2 v3=>hw.next HCL.out hG hjx c0 i3 m3 t v0 v1 v2 v3)
   clear his htr c0;generalize hKK:mAt k xs j=K at *;have HKK:=Xa hKK;clear hKK;generalize hII:xs[j].instrs.length=m at *;have HII:=Xa hII;clear hII
   go_wp2_with fail
   refine(VJ ia m ic K xs[j].instrs (Ls j) (Bs j) wr HIS (Xa HII.symm) oM oM oM).mono ?_;rintro e w3 ⟨rfl,hi3,hm3⟩;have i03:IW L B w w3:=hw.iw.trans (hi3.widen (fun b _ _=>oM));obtain⟨T,ht3⟩:=HTR.iw i03;have HN:=Xa (HNX.out w3 T hi3 hm3 ht3);obtain⟨t0,t1,t2,t3⟩:=ht3;have fz:=fun q=>(i03.frozen ⟨G,q,none⟩).trans (HZ.out q)
   have f0:=fz (j*5+1);have f1:=fz (j*5+1+1);have f2:=fz (j*5+1+2);have f3:=fz (j*5+1+3);clear hi3 hm3 i03 fz;go_wp2;refine⟨⟨j+1,oM,gM,by rw[hS.out];go_num,Xa (HN.out _ _ _ _ ?_ ?_ ?_ ?_)⟩,by simp[intOf];omega⟩<;>omega
  ·have hjn:j=n:=oM
   subst hjn;have E:Hid (mAt k xs j=k+mCnt xs):=Xa (by unfold mAt;rw[List.take_of_length_le (by have:=hx.out;omega)]);go_wp2
   go_ret
   refine⟨XW (by rw[E.out]),hw.iw,fun i hi=>?_⟩;obtain⟨-,-,⟨ia,ic,c0,-⟩⟩:=HCL.at_ i hi;have hgt:=hw.got i hi (by have:=hx.out;omega) ia ic c0;exact⟨G,Ls i,Bs i,ia,ic,rfl,hw.iw.slice c0,hgt.1,hgt.2⟩
theorem V6(a:Option Addr)(n c:Nat)(k:Int)(xs:List Xy)(w:World)(ha:Hid (Za w a k xs))(hx:Hid (n=xs.length))(hl:Hid (ZbL xs))(hn:n<=1048576)(h0:0<=k)(h1:k<=1000000)(h2:mCnt xs<=900000000) :
 Calls Tryz.prog 29 #[.slice a n c,.int .i64 k] w fun e w'=>e=.returned (.int .i64 (k+mCnt xs))/\w'=w:=by
 go_enter Tryz.func29,Tryz.ntmps29
 go_wp2
 go_loopw [1,5] (fun u i wr=>∃j:Nat,j<=n/\i=.int .i64 j/\u=.int .i64 (mAt k xs j)/\wr=w) (fun _ i _=>n-(intOf i).toNat)
 case atStart=>exact⟨0,Nat.zero_le _,rfl,by simp[mAt,mCnt],rfl⟩
 case round =>
  obtain⟨j,hj,rfl,rfl,rfl⟩:=hrel;by_cases hlt:j<n
  ·have hjx:j<xs.length:=by have:=hx.out;omega
   obtain⟨G,L,B,ia,ic,rfl,e1,q2,q3⟩:=ha.out j hjx;have hS:Hid (mAt k xs (j+1)=mAt k xs j+(5*xs[j].instrs.length+4:Nat)):=Xa (Zdb k xs hjx);have hb2:mAt k xs j+(5*xs[j].instrs.length+4:Nat)<=1000000000/\0<=mAt k xs j:=by
    have h3:=hS.out;have h4:=Za9 xs (j+1);unfold mAt at *;omega
   have hl2:=hl.out _ (List.getElem_mem hjx);have HI:=Xa q2;obtain⟨t0,t1,t2,t3⟩:=q3;dsimp only[Zhr]at t0 t1 t2 t3;clear q2;generalize mAt k xs j=K at *;generalize xs[j].instrs.length=m at *;have hm0:0<=(m:Int):=oM;have hneg:¬(K+5*(m:Int)<0):=oM
   go_wp2_with fail
   refine(Wb ia m ic K L B wr HI oM oM oM).mono ?_;rintro e w3 ⟨rfl,hw3⟩;subst hw3;go_wp2;refine⟨⟨j+1,oM,gM,by rw[hS.out];go_num,trivial⟩,by simp[intOf];omega⟩
  ·have hjn:j=n:=oM
   subst hjn;have E:Hid (mAt k xs j=k+mCnt xs):=Xa (by unfold mAt;rw[List.take_of_length_le (by have:=hx.out;omega)]);go_wp2
   go_ret
   exact⟨XW (by rw[E.out]),rfl⟩
theorem TZ.sep{w:World}{lab:Nat->Nat × Nat × Nat}{base:Nat}{a:Option Addr}{n c K J:Nat}{xs:List Xy}{iv:Nat->Value}(h:TZ w lab base (.slice a n c) K J xs iv)(hKJ:K≠J):JL w base w.heap.size a xs:=by
 by_cases h0:xs=[]
 ·exact Or.inl h0
 have hl0:0<xs.length:=by cases xs with | nil=>exact absurd rfl h0 | cons _ _=>simp
 obtain⟨g,c',e⟩:=h.blks.got hl0;cases e;have hb:=h.blks;have hg:=hb.blk;have own:∀i (hi:i<xs.length) b,(iv i).ownBlock=some b->(base<=b/\b<w.heap.size)/\lab b=(J,i,0):=fun i hi b e=>⟨(h.ins i hi).own.lt b e,(h.ins i hi).lab b e⟩
 refine Or.inr ⟨g,fun i=>(match (iv i).ownBlock with | some b=>b | none=>base),fun i=>(match (iv i).ownBlock with | some b=>b+1 | none=>base),rfl,hg.1,fun q=>hb.thaw q,⟨fun i hi=>?_,fun i j hi hj hne b b1 b2 b3=>?_⟩⟩
 ·obtain⟨ia,ic,ei⟩:=(h.ins i hi).form
  have hr:=h.ins i hi;rw[ei]at hr;have cc:=fun q u hq hu=>Kv (q:=q) (u:=u) hb hi hq hu
  have hin:=hr.inss;refine⟨?_,?_,ia,ic,?_,⟨?_,?_,?_,?_⟩,fun j hj=>?_⟩
  ·cases eo:(iv i).ownBlock with
   | none=>simp;omega
   | some b=>have:=own i hi b eo;simp;omega
  ·cases eo:(iv i).ownBlock with
   | none=>simp
   | some b =>
    have:=own i hi b eo;simp only;intro q;obtain rfl:g=b:=oM;have q2:=this.2.symm.trans hg.2;injection q2 with q3;exact hKJ q3.symm
  ·exact cc 0 (.slice ia xs[i].instrs.length ic) oM (by rw[ei];rfl)
  ·exact cc 1 _ oM rfl
  ·exact cc 2 _ oM rfl
  ·exact cc 3 _ oM rfl
  ·exact cc 4 _ oM rfl
  ·obtain⟨gi,ci,e⟩:=hr.got oM
   cases e;obtain⟨g2,o2,e2,_,hc⟩:=hin j hj;cases e2;rw[ei];refine⟨gi,rfl,⟨Nat.le_refl _,Nat.lt_succ_self _⟩,fun q=>hr.thaw q,?_⟩;rw[Nat.zero_add]at hc;exact hc
 ·cases eo:(iv i).ownBlock with
  | none=>rw[eo]at b1 b2;simp at b1 b2;omega
  | some p =>
   cases eq:(iv j).ownBlock with
   | none=>rw[eq]at b3;simp at b3;omega
   | some q =>
    rw[eo]at b1 b2;rw[eq]at b3;simp only at b1 b2 b3;obtain rfl:b=p:=oM;obtain rfl:b=q:=oM;have q2:=(own i hi b eo).2.symm.trans (own j hj b eq).2;injection q2 with _ q3;injection q3 with q3;exact hne q3
end Go.Proofs.YtlmgmkmomaileaaGreatDoor
