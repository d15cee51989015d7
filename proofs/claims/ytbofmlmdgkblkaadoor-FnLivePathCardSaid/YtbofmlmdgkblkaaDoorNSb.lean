import Derived.Test.YtbofmlmdgkblkaaDoorNSP
import Derived.Test.YtbofmlmdgkblkaaDoorW6b
namespace Go.Proofs.YtbofmlmdgkblkaaDoor
set_option maxHeartbeats 1000000
set_option maxRecDepth 100000
open Go.RowKit
theorem Tryd.infoU64blockNo:(Tryd.prog.info? 120).map (fun i=>(i.zero,i.size,i.bytes))=some (some (.int .u64 0),1,8):=by kernel_rfl
theorem K3(g K x:Nat)(W:Nat->Nat)(w:World)(hW:Hid (XK W))(hr:Hid (w.rowIs g 120 K (fun i=>.int .u64 (W i))))(hx:x<64*K)(hK:K<=1000):Calls Tryd.prog 70 #[.agg #[.slice (some ⟨g,0,none⟩) K K],.int .i64 x] w fun e w'=>e=.returned (.bool (Xf W x))/\Below w.heap.size w w':=by
 have h2:=ZgD x;have h3:=Zgh x;have hq:x / 64<K:=by omega
 have hm:x % 64<64:=Nat.mod_lt _ (by decide);have hc:=hr.cell hq;have hg:=hr.lt;have hc2:=fun o=>((Xb (Below.refl w.heap.size w) o).cell (p:=⟨g,x / 64,none⟩) hg).trans hc
 have HH:Hid ((bits .and .u64 ((W (x / 64):Int) / 2 ^ (x % 64)) 1==1)=Xf W x):=Xa (Zf3 (hW.out _));clear hc;generalize hd:x / 64=xd at *;generalize hm2:x % 64=xm at *;generalize W xd=Wd at *
 go_enter Tryd.func70,Tryd.ntmps70
 go_wp2
 go_ret
 exact⟨Zdq HH.out,Xb (Below.refl _ _) _⟩
theorem VQ(room:Nat)(w:World)(hr:room<=60000):Calls Tryd.prog 62 #[.int .i64 room] w fun e w'=>∃g,e=.returned (.agg #[.slice (some ⟨g,0,none⟩) ((room+63) / 64) ((room+63) / 64)])/\w.heap.size<=g/\Below w.heap.size w w'/\w'.rowIs g 120 ((room+63) / 64) (fun _=>.int .u64 ((0:Nat):Int)):=by
 have hmk:=run_make_row' (P:=Tryd.prog) 60 120 (.int .u64 0) 8 Tryd.underlying60 Tryd.infoU64blockNo rfl .i64 .i64 ((room+63) / 64) (by omega) (by omega);have hq:((room:Int)+63).tdiv 64=(((room+63) / 64:Nat):Int):=by rw[Int.tdiv_eq_ediv_of_nonneg (by omega)];omega
 have hq2:((room:Int)+64-1)=(room:Int)+63:=by omega
 have hK:(room+63) / 64<=1000:=by omega
 generalize (room+63) / 64=K at *
 go_enter Tryd.func62,Tryd.ntmps62
 go_wp2;refine bodyPost_ret (v:=.agg #[.slice (some ⟨w.heap.size+1,0,none⟩) K K]) (by simp[results,Tryd.results62,go_sem]) rfl ?_;refine⟨w.heap.size+1,rfl,by omega,Xb (Xb (Below.refl _ _) _) _,?_⟩;have hrow:∀ob,((w.alloc ob).alloc (.cells (madeCells #[.int .u64 0] K) 120)).rowIs (w.heap.size+1) 120 K (fun _=>.int .u64 0):=fun ob=>by
  have:=World.rowIs_made (w.alloc ob) (.int .u64 0) K 120;rwa[World.size_alloc]at this
 exact hrow _
theorem ZaW(g K n c:Nat)(W:Nat->Nat)(a:Option Addr)(ts:List Nat)(L B:Nat)(w:World)(ha:Hid (Xe w L B a (ts.map Int.ofNat)))(hx:Hid (n=ts.length))(hn:n<=4000)(ht:Hid (∀t∈ts,t<64*K))(hK:K<=1000)(hW:Hid (XK W))(hr:Hid (w.rowIs g 120 K (fun i=>.int .u64 (W i))))(hB:B<=w.heap.size)(hgL:¬(L<=g/\g<B)) :
 Calls Tryd.prog 71 #[.agg #[.slice (some ⟨g,0,none⟩) K K],.slice a n c] w fun e w'=>e=.returned (.tuple #[])/\w.grownBy w' (some g)/\w'.rowIs g 120 K (fun i=>.int .u64 (addsN W ts i)):=by
 go_enter Tryd.func71,Tryd.ntmps71
 go_wp2;have hg:g<w.heap.size:=hr.lt
 go_loopw [8] (fun u wr=>∃q:Nat,q<=n/\u=.int .i64 q/\Hid (w.grownBy wr (some g))/\wr.cell? ⟨w.heap.size,0,none⟩=some (.slice (some ⟨g,0,none⟩) K K)/\Hid (wr.rowIs g 120 K (fun i=>.int .u64 (addsN W (ts.take q) i)))) (fun u _=>n-(intOf u).toNat)
 case atStart=>exact⟨0,Nat.zero_le _,rfl,Xa (World.grownBy_alloc _ _ _),by simp,Xa (hr.alloc _)⟩
 case round =>
  obtain⟨q,hq,rfl,HG,hs,HR⟩:=hrel;by_cases hlt:q<n
  ·have hqx:q<ts.length:=by have:=hx.out;omega
   obtain⟨b,o,rfl,hbB,e0w⟩:=ha.out q (by simpa using hqx);have e0:=(Xc (HG.block b (by omega) (fun e=>by injection e with e;omega))).trans e0w;rw[List.getElem_map]at e0;have htq:=ht.out _ (List.getElem_mem hqx);have HT:=Xa (Wv (W:=W) hqx);have HWA:=Xa (ZL (ts.take q) hW.out);clear e0w;generalize ts[q]=t at *;have h2:=ZgD t;have h3:=Zgh t;have e0':wr.cell? ⟨b,o+q,none⟩=some (.int .i64 (t:Int)):=e0;clear e0;generalize addsN W (ts.take q)=W1 at *;have hd:t / 64<K:=by omega
   have hm:t % 64<64:=Nat.mod_lt _ (by decide);have ec:=HR.cell hd;have ez:=HR.frozen;have HOR:=Xa (Zdb hm (HWA.out (t / 64)));have HAD:Hid (∀i,(if i=t / 64 then W1 (t / 64) ||| 2 ^ (t % 64)else W1 i)=addsN W (ts.take (q+1)) i):=Xa (fun i=>by
    rw[HT.out];unfold Y9;by_cases e:i=t / 64
    ·rw[if_pos e,if_pos e,e]
    ·rw[if_neg e,if_neg e])
   generalize hd2:t / 64=td at *;generalize hm2:t % 64=tm at *;go_wp2
   go_region
   go_wp2;rw[HOR.out];have kk:wr.grownBy (wr.setCell ⟨g,td,none⟩ (.int .u64 ((W1 td ||| 2 ^ tm:Nat):Int))).drew (some g):=⟨rfl,rfl,rfl,by simp[World.setCell,World.drew],fun k _ hk=>Below.heap_setCell _ _ _ _ (fun e=>hk (by rw[e]))⟩;refine⟨⟨q+1,by omega,by go_num,Xa (HG.andThen kk (fun j hj=>by cases hj;exact Or.inr rfl)),?_,Xa ?_⟩,by simp[intOf];omega⟩
   ·exact(World.cell?_setCell_far wr ⟨g,td,none⟩ ⟨w.heap.size,0,none⟩ _ (by show g≠w.heap.size;omega)).trans hs
   ·refine World.rowIs.drew ((HR.set td _).congr (fun i _=>?_))
    rw[<-HAD.out i];by_cases e:i=td<;>simp[e]
  ·have hqn:q=n:=by omega
   have HX:Hid (ts.take q=ts):=Xa (List.take_of_length_le (by have:=hx.out;omega));rw[HX.out]at HR;go_wp2
   go_end0
   exact⟨rfl,HG.out,HR.out⟩
end Go.Proofs.YtbofmlmdgkblkaaDoor
namespace Go.Proofs.YtbofmlmdgkblkaaDoor
set_option maxHeartbeats 1000000
open Go.RowKit
theorem Zav(op dst a b imm:Int)(w:World) :
 Calls Tryd.prog 81 #[.agg #[.int .i64 op,.int .i64 dst,.int .i64 a,.int .i64 b,.int .i64 imm]] w fun e w'=>e=.returned (.bool (UI ⟨op,dst,a,b,imm⟩))/\Below w.heap.size w w':=by
 go_enter Tryd.func81,Tryd.ntmps81
 go_wp2
 all_goals
  go_ret
  refine⟨Xm ?_,Xb (Below.refl _ _) _⟩
  first | (simp[UI, *];done) | (simp[UI, *];omega)
def TV(w:World):Prop:=0 < w.heap.size/\∀k:Nat,1<=k->k<=13->∃s,w.cell? ⟨0,k*5,none⟩=some (.string s)/\w.cell? ⟨0,k*5+1,none⟩=some (.bool (dB k))/\w.cell? ⟨0,k*5+2,none⟩=some (.bool (aB k)) /\
 w.cell? ⟨0,k*5+3,none⟩=some (.bool (bB k))/\∃i,w.cell? ⟨0,k*5+4,none⟩=some (.bool i)
def To(w:World):Prop:=1 < w.heap.size/\∀k:Nat,1<=k->k<=3->∃s,w.cell? ⟨1,k*4,none⟩=some (.string s)/\w.cell? ⟨1,k*4+1,none⟩=some (.bool ((k:Int) != 1))/\w.cell? ⟨1,k*4+2,none⟩=some (.bool ((k:Int) != 3)) /\
 w.cell? ⟨1,k*4+3,none⟩=some (.bool ((k:Int)==2))
theorem TV.keep{w w':World}(h:TV w)(k:Below w.heap.size w w'):TV w':=by
 refine⟨Nat.lt_of_lt_of_le h.1 k.size,fun i h1 h2=>?_⟩;have e:=fun o=>Xc (o:=o) (k.block 0 h.1)
 obtain⟨s,c0,c1,c2,c3,j,c4⟩:=h.2 i h1 h2;exact⟨s,(e _).trans c0,(e _).trans c1,(e _).trans c2,(e _).trans c3,j,(e _).trans c4⟩
theorem To.keep{w w':World}(h:To w)(k:Below w.heap.size w w'):To w':=by
 refine⟨Nat.lt_of_lt_of_le h.1 k.size,fun i h1 h2=>?_⟩;have e:=fun o=>Xc (o:=o) (k.block 1 h.1)
 obtain⟨s,c0,c1,c2,c3⟩:=h.2 i h1 h2;exact⟨s,(e _).trans c0,(e _).trans c1,(e _).trans c2,(e _).trans c3⟩
theorem VB(op dst a b imm n most:Int)(w:World)(hm:most<=13)(hT:Hid (TV w)) :
 Calls Tryd.prog 59 #[.agg #[.int .i64 op,.int .i64 dst,.int .i64 a,.int .i64 b,.int .i64 imm],.int .i64 most,.int .i64 n] w fun e w'=>e=.returned (.bool (Yh n most ⟨op,dst,a,b,imm⟩))/\Below w.heap.size w w':=by
 by_cases h:1<=op/\op<=most
 ·obtain⟨h1,h2⟩:=h
  obtain⟨k,rfl⟩:=Int.eq_ofNat_of_zero_le (show 0<=op by omega);have hz:=hT.1;obtain⟨s,c0,c1,c2,c3,j,c4⟩:=hT.2 k (by omega) (by omega);have hR:Hid (Yh n most ⟨k,dst,a,b,imm⟩=(Kt (dB k) dst 0 n&&Kt (aB k) a 0 n&&Kt (bB k) b 0 n&&UI ⟨k,dst,a,b,imm⟩)):=by
   show _=_;unfold Yh;rw[decide_eq_true h1,decide_eq_true h2];simp
  generalize dB (k:Int)=uD at *;generalize aB (k:Int)=uA at *;generalize bB (k:Int)=uB at *;have hk13:(k:Int)<=13:=by omega
  go_enter Tryd.func59,Tryd.ntmps59
  go_wp2_with (first | (go_at_call 61;refine(Ye _ _ _ _ _).mono ?_;rintro e w2 ⟨rfl,hw2⟩;rw[hw2];clear hw2 w2) | (go_at_call 81;refine(Zav _ _ _ _ _ _).mono ?_;rintro e w2 ⟨rfl,hb2⟩))
  all_goals
   go_ret
   refine⟨Xm ?_,?_⟩
   ·rw[hR.out];simp[*]
   ·first | exact Xj (Xb (Xb (Below.refl _ _) _) _) hb2 | exact Xb (Xb (Below.refl _ _) _) _
 ·have hn:∃r,r=Yh n most ⟨op,dst,a,b,imm⟩/\r=false:=⟨_,rfl,by
   unfold Yh;by_cases h1:1<=op
   ·rw[decide_eq_false (p:=op<=most) (by omega)];simp
   ·rw[decide_eq_false (p:=1<=op) h1];simp⟩
  obtain⟨r,hr,rfl⟩:=hn;rw[<-hr];clear hr;have h':op<1\/(1<=op/\most<op):=by omega
  clear h;rcases h' with h' | ⟨h',h''⟩
  all_goals
   go_enter Tryd.func59,Tryd.ntmps59
   go_wp2
   all_goals
    go_ret
    exact⟨rfl,Xb (Below.refl _ _) _⟩
theorem K9(op dst a b imm n:Int)(w:World)(hT:Hid (TV w)) :
 Calls Tryd.prog 59 #[.agg #[.int .i64 op,.int .i64 dst,.int .i64 a,.int .i64 b,.int .i64 imm],.int .i64 10,.int .i64 n] w fun e w'=>e=.returned (.bool (Yh n 10 ⟨op,dst,a,b,imm⟩))/\Below w.heap.size w w' :=
 VB op dst a b imm n 10 w (by decide) hT
theorem J5(kind ta to els n low bl:Int)(w:World)(hT:Hid (To w)) :
 Calls Tryd.prog 58 #[.agg #[.int .i64 kind,.int .i64 ta,.int .i64 to,.int .i64 els],.int .i64 n,.int .i64 low,.int .i64 bl] w fun e w'=>e=.returned (.bool (Ze n low bl ⟨kind,ta,to,els⟩))/\Below w.heap.size w w':=by
 by_cases h:1<=kind/\kind<=3
 ·obtain⟨h1,h2⟩:=h
  obtain⟨k,rfl⟩:=Int.eq_ofNat_of_zero_le (show 0<=kind by omega);have hz:=hT.1;obtain⟨s,c0,c1,c2,c3⟩:=hT.2 k (by omega) (by omega);have hR:Hid (Ze n low bl ⟨k,ta,to,els⟩=(Kt ((k:Int) != 1) ta 0 n&&Kt ((k:Int) != 3) to low bl&&Kt ((k:Int)==2) els low bl)):=by
   show _=_;unfold Ze;rw[decide_eq_true h1,decide_eq_true h2];simp
  generalize ((k:Int) != 1)=uA at *;generalize ((k:Int) != 3)=uT at *;generalize ((k:Int)==2)=uE at *
  go_enter Tryd.func58,Tryd.ntmps58
  go_wp2_with (go_at_call 61;refine(Ye _ _ _ _ _).mono ?_;rintro e w2 ⟨rfl,hw2⟩;rw[hw2];clear hw2 w2)
  all_goals
   go_ret
   refine⟨Xm ?_,?_⟩
   ·rw[hR.out];simp[*]
   ·exact Xb (Xb (Below.refl _ _) _) _
 ·have hn:∃r,r=Ze n low bl ⟨kind,ta,to,els⟩/\r=false:=⟨_,rfl,ZaS h⟩
  obtain⟨r,hr,rfl⟩:=hn;rw[<-hr];clear hr;have h':kind<1\/3<kind:=by omega
  clear h
  go_enter Tryd.func58,Tryd.ntmps58
  go_wp2
  all_goals
   go_ret
   exact⟨rfl,Xb (Below.refl _ _) _⟩
theorem ZW(t:XZ)(w:World) :
 Calls Tryd.prog 43 #[.agg #[.int .i64 t.kind,.int .i64 t.a,.int .i64 t.to,.int .i64 t.els]] w fun e w'=>∃a c,e=.returned (.slice a t.targets.length c)/\Below w.heap.size w w'/\Xe w' w.heap.size w'.heap.size a t.targets:=by
 obtain⟨kind,ta,to,els⟩:=t;by_cases h1:kind=1
 ·subst h1
  go_enter Tryd.func43,Tryd.ntmps43
  go_wp2
  go_ret
  refine⟨_,_,rfl,Xb (Xb (Below.refl _ _) _) _,fun i hi=>?_⟩;simp[XZ.targets]at hi;subst hi;exact⟨_,_,rfl,⟨by simp,by simp⟩,by simp[XZ.targets]⟩
 ·by_cases h2:kind=2
  ·subst h2
   go_enter Tryd.func43,Tryd.ntmps43
   go_wp2
   go_ret
   refine⟨_,_,rfl,Xb (Xb (Below.refl _ _) _) _,fun i hi=>?_⟩;simp[XZ.targets]at hi
   match i,hi with
   | 0,_=>exact⟨_,_,rfl,⟨by simp,by simp⟩,by simp[XZ.targets]⟩
   | 1,_=>exact⟨_,_,rfl,⟨by simp,by simp⟩,by simp[XZ.targets]⟩
  ·have e1:(kind==1)=false:=by simp[h1]
   have e2:(kind==2)=false:=by simp[h2]
   have hn:(XZ.targets ⟨kind,ta,to,els⟩)=[]:=by simp[XZ.targets,h1,h2]
   rw[hn];clear h1 h2 hn
   go_enter Tryd.func43,Tryd.ntmps43
   go_wp2
   go_ret
   exact⟨_,_,rfl,Xb (Below.refl _ _) _,fun i hi=>absurd hi (by simp)⟩
end Go.Proofs.YtbofmlmdgkblkaaDoor
namespace Go.Proofs.YtbofmlmdgkblkaaDoor
set_option maxHeartbeats 2000000
set_option maxRecDepth 100000
open Go.RowKit
def Zv(L:List Nat):List Value:=L.map fun (x:Nat)=>Value.int .i64 (x:Int)
theorem WF(L:List Nat)(x:Nat):Zv (L++[x])=Zv L++[.int .i64 (x:Int)]:=by simp[Zv]
theorem ZbG(w:World)(b ty:Nat):Xe (w.alloc (.cells #[.int .i64 (b:Int)] ty)) w.heap.size (w.heap.size+1) (some ⟨w.heap.size,0,none⟩) ([b].map Int.ofNat):=fun i hi=>by
 have:i=0:=by simpa using hi
 subst this;exact⟨_,0,rfl,⟨Nat.le_refl _,Nat.lt_succ_self _⟩,by simp⟩
theorem Zah(t:XZ):t.targets.length<=2:=by
 unfold XZ.targets;split
 ·simp
 ·split<;>simp
structure YQ(w:World)(bS gS BL K:Nat)(ab:Option Addr)(nb cb:Nat)(W:Nat->Nat)(v:Value)(L:List Nat):Prop where
 c0:w.cell? ⟨bS,0,none⟩=some (.slice ab nb cb)
 c1:w.cell? ⟨bS,1,none⟩=some (.slice (some ⟨gS,0,none⟩) K K)
 c2:w.cell? ⟨bS,2,none⟩=some v
 thaw:∀q,w.frozen? ⟨bS,q,none⟩=false
 row:w.rowIs gS 120 K (fun i=>.int .u64 (W i))
 own:w.ownsRow BL 2 1 v L.length (Zv L)
 lb:bS<BL
 lg:gS<BL
 ne:bS≠gS
 sz:BL<=w.heap.size
structure TU(w w':World)(bS gS:Nat)(v v':Value):Prop where
 os:w'.os=w.os
 tape:w'.tape=w.tape
 output:w'.output=w.output
 size:w.heap.size<=w'.heap.size
 block:∀k,k<w.heap.size->k≠bS->k≠gS->some k≠v.ownBlock->w'.heap[k]?=w.heap[k]?
 own:v'.ownBlock=v.ownBlock\/∀k,v'.ownBlock=some k->w.heap.size<=k
theorem TU.refl(w:World)(bS gS:Nat)(v:Value):TU w w bS gS v v:=⟨rfl,rfl,rfl,Nat.le_refl _,fun _ _ _ _ _=>rfl,Or.inl rfl⟩
theorem TU.trans{w w1 w2:World}{bS gS:Nat}{v v1 v2:Value}(h:TU w w1 bS gS v v1)(k:TU w1 w2 bS gS v1 v2):TU w w2 bS gS v v2:=by
 refine⟨k.os.trans h.os,k.tape.trans h.tape,k.output.trans h.output,Nat.le_trans h.size k.size,fun j h1 h2 h3 h4=>?_,?_⟩
 ·refine(k.block j (Nat.lt_of_lt_of_le h1 h.size) h2 h3 (fun e=>?_)).trans (h.block j h1 h2 h3 h4)
  rcases h.own with ho | ho
  ·exact h4 (by rw[e,ho])
  ·have:=ho j e.symm;omega
 ·rcases k.own with ko | ko
  ·rcases h.own with ho | ho
   ·exact Or.inl (ko.trans ho)
   ·exact Or.inr (fun j e=>ho j (by rw[<-ko];exact e))
  ·exact Or.inr (fun j e=>Nat.le_trans h.size (ko j e))
theorem TU.of_below{w w':World}{bS gS:Nat}{v:Value}(h:Below w.heap.size w w'):TU w w' bS gS v v:=⟨h.os,h.tape,h.output,h.size,fun k h1 _ _ _=>h.block k h1,Or.inl rfl⟩
theorem TU.of_grown{w w':World}{bS gS:Nat}{v:Value}(h:w.grownBy w' (some gS)):TU w w' bS gS v v:=⟨h.os,h.tape,h.output,h.size,fun k h1 _ h3 _=>h.block k h1 (fun e=>h3 (by injection e)),Or.inl rfl⟩
theorem YQ.below{w w':World}{bS gS BL K:Nat}{ab:Option Addr}{nb cb:Nat}{W:Nat->Nat}{v:Value}{L:List Nat}(h:YQ w bS gS BL K ab nb cb W v L)(k:Below w.heap.size w w'):YQ w' bS gS BL K ab nb cb W v L:=by
 have hz:=h.sz;have hb:w'.heap[bS]?=w.heap[bS]?:=k.block bS (by have:=h.lb;omega);have ce:∀q,w'.cell? ⟨bS,q,none⟩=w.cell? ⟨bS,q,none⟩:=fun q=>World.cell?_of_block hb
 refine⟨(ce 0).trans h.c0,(ce 1).trans h.c1,(ce 2).trans h.c2,fun q=>(World.frozen?_of_block hb).trans (h.thaw q),h.row.of_block (k.block gS (by have:=h.lg;omega)),?_,h.lb,h.lg,h.ne,Nat.le_trans hz k.size⟩;refine h.own.kept (row:=none) ⟨k.os,k.tape,k.output,k.size,fun j hj _=>k.block j hj⟩ ?_;cases v.ownBlock with
 | none=>exact Or.inl rfl
 | some j=>exact Or.inr (by simp)
theorem YQ.seen{w w':World}{bS gS BL K:Nat}{ab:Option Addr}{nb cb:Nat}{W W':Nat->Nat}{v:Value}{L:List Nat}(h:YQ w bS gS BL K ab nb cb W v L)(k:w.grownBy w' (some gS))(hr:w'.rowIs gS 120 K (fun i=>.int .u64 (W' i))):YQ w' bS gS BL K ab nb cb W' v L:=by
 have hz:=h.sz;have hb:w'.heap[bS]?=w.heap[bS]?:=k.block bS (by have:=h.lb;omega) (fun e=>h.ne (by injection e));have ce:∀q,w'.cell? ⟨bS,q,none⟩=w.cell? ⟨bS,q,none⟩:=fun q=>World.cell?_of_block hb
 exact⟨(ce 0).trans h.c0,(ce 1).trans h.c1,(ce 2).trans h.c2,fun q=>(World.frozen?_of_block hb).trans (h.thaw q),hr,KT h.own k h.lg,h.lb,h.lg,h.ne,Nat.le_trans hz k.size⟩
theorem YQ.push{w w8:World}{bS gS BL K:Nat}{ab:Option Addr}{nb cb:Nat}{W:Nat->Nat}{v v8:Value}{L:List Nat}{b:Nat}{ob:Obj}(h:YQ w bS gS BL K ab nb cb W v L)(hg:(w.alloc ob).grownBy w8 v.ownBlock)(ho:w8.ownsRow BL 2 1 v8 (L.length+1) (Zv L++[.int .i64 (b:Int)]))(hat:v8.ownBlock=v.ownBlock\/v8.ownBlock=some (w.heap.size+1)) :
 YQ (w8.setCell ⟨bS,2,none⟩ v8) bS gS BL K ab nb cb W v8 (L++[b])/\TU w (w8.setCell ⟨bS,2,none⟩ v8) bS gS v v8/\w8.cell? ⟨bS,2,none⟩=some v/\w8.frozen? ⟨bS,2,none⟩=false:=by
 have hz:=h.sz;have hlb:=h.lb;have hlg:=h.lg;have hsz:(w.alloc ob).heap.size=w.heap.size+1:=World.size_alloc _ _;have hgs:=hg.size;have hnv:∀k,k<BL->some k≠v.ownBlock:=fun k hk e=>by have:=(h.own.lt k e.symm).1;omega
 have ha:∀k,k<w.heap.size->(w.alloc ob).heap[k]?=w.heap[k]?:=fun k hk=>Below.heap_alloc _ _ _ hk
 have hb:w8.heap[bS]?=w.heap[bS]?:=(hg.block bS (by omega) (hnv _ hlb)).trans (ha _ (by omega));have hgr:w8.heap[gS]?=w.heap[gS]?:=(hg.block gS (by omega) (hnv _ hlg)).trans (ha _ (by omega));have ce:∀q,w8.cell? ⟨bS,q,none⟩=w.cell? ⟨bS,q,none⟩:=fun q=>World.cell?_of_block hb
 have fe:∀q,w8.frozen? ⟨bS,q,none⟩=false:=fun q=>(World.frozen?_of_block hb).trans (h.thaw q)
 refine⟨⟨(XC _ _ (by omega) _).trans ((ce 0).trans h.c0),(XC _ _ (by omega) _).trans ((ce 1).trans h.c1),World.cell?_setCell_same _ _ _ ((ce 2).trans h.c2),fun q=>by rw[World.frozen?_setCell];exact fe q,(h.row.of_block hgr).setOther (fun e=>h.ne e.symm) _,?_,hlb,hlg,h.ne,by rw[Xd];omega⟩,⟨?_,?_,?_,by rw[Xd];omega,fun k h1 h2 h3 h4=>?_,?_⟩,(ce 2).trans h.c2,fe 2⟩
 ·rw[WF,List.length_append]
  exact ownsRow_setCell_below ho hlb _
 ·exact hg.os
 ·exact hg.tape
 ·exact hg.output
 ·rw[Below.heap_setCell _ _ _ _ h2]
  exact(hg.block k (by omega) h4).trans (ha k h1)
 ·rcases hat with e | e
  ·exact Or.inl e
  ·exact Or.inr (fun k ek=>by rw[e]at ek;injection ek with ek;omega)
theorem TU.blks{w w':World}{bS gS BL K:Nat}{ab:Option Addr}{nb cb:Nat}{W:Nat->Nat}{v v':Value}{L:List Nat}{xs:List Xg}{L0 B0:Nat}(f:TU w w' bS gS v v')(h:YQ w bS gS BL K ab nb cb W v L)(hb:Xy w L0 B0 ab xs)(h1:¬(L0<=bS/\bS<B0))(h2:¬(L0<=gS/\gS<B0))(h3:B0<=BL):Xy w' L0 B0 ab xs:=by
 have hz:=h.sz;exact hb.keepS (fun k k1 k2=>f.block k (by omega) (fun e=>h1 (by omega)) (fun e=>h2 (by omega)) (fun e=>by have:=(h.own.lt k e.symm).1;omega))
theorem ZdK(bS gS BL K nb cb:Nat)(ab:Option Addr)(xs:List Xg)(L0 B0:Nat)(hxb:Hid (nb=xs.length))(hn:nb<=1000)(hK:nb<=64*K)(hK2:K<=100)(h1:¬(L0<=bS/\bS<B0))(h2:¬(L0<=gS/\gS<B0))(h3:B0<=BL)(hT:Hid (∀x∈xs,∀t∈x.term.targets,0<=t/\t<nb)) :
 ∀(m b:Nat)(W:Nat->Nat)(v:Value)(L:List Nat)(w:World),Hid (YQ w bS gS BL K ab nb cb W v L)->Hid (Xy w L0 B0 ab xs)->b<nb->Hid (X8 W nb<=m)->Hid (XK W)->L.length+X8 W nb<=nb ->
 Calls Tryd.prog 44 #[.pointer (some ⟨bS,0,none⟩),.int .i64 b] w fun e w'=>e=.returned (.tuple #[])/\∃v',TU w w' bS gS v v'/\YQ w' bS gS BL K ab nb cb (dfsV (XW xs) m b (W,L)).1 v' (dfsV (XW xs) m b (W,L)).2:=by
 obtain⟨i0,hi0,hz0,hz1,hz2⟩:=Xp Tryd.info2';intro m
 induction m with
 | zero =>
  intro b W v L w HS HB hb HU HW hL;have HH:Hid (Xf W b=true):=Xa (Kv (by have:=HU.out;omega) hb);have HAS:=Xa (K3 gS K b W w HW (Xa HS.row) (by omega) (by omega));rw[HH.out]at HAS;have c1:=HS.c1
  go_enter Tryd.func44,Tryd.ntmps44
  go_wp2_with fail
  refine HAS.mono ?_;rintro e w1 ⟨rfl,hb1⟩;have HS1:=Xa (HS.below hb1);have HF1:Hid (TU w w1 bS gS v v):=Xa (TU.of_below hb1);clear hb1 HAS c1
  go_wp2_with fail
  refine bodyPost_ret (v:=.tuple #[]) (by simp[results,Tryd.results44,go_sem]) rfl ?_;exact⟨rfl,v,HF1.out,HS1.out⟩
 | succ m ih =>
  intro b W v L w HS HB hb HU HW hL;have IH:=Xa ih;clear ih;cases hh:Xf W b with
  | true =>
   have HHT:=Xa hh;clear hh;have HAS:=Xa (K3 gS K b W w HW (Xa HS.row) (by omega) (by omega));rw[HHT.out]at HAS;have c1:=HS.c1
   go_enter Tryd.func44,Tryd.ntmps44
   go_wp2_with fail
   refine HAS.mono ?_;rintro e w1 ⟨rfl,hb1⟩;have HS1:=Xa (HS.below hb1);have HF1:Hid (TU w w1 bS gS v v):=Xa (TU.of_below hb1);clear hb1 HAS c1
   go_wp2_with fail
   refine bodyPost_ret (v:=.tuple #[]) (by simp[results,Tryd.results44,go_sem]) rfl ?_;rw[Ua (s:=(W,L)) HHT.out];exact⟨rfl,v,HF1.out,HS1.out⟩
  | false =>
   have HHF:=Xa hh;clear hh;have c0:=HS.c0;have c1:=HS.c1;have c2:=HS.c2;have HAS:=Xa (K3 gS K b W w HW (Xa HS.row) (by omega) (by omega));rw[HHF.out]at HAS
   go_enter Tryd.func44,Tryd.ntmps44
   go_wp2_with fail
   refine HAS.mono ?_;rintro e w1 ⟨rfl,hb1⟩;have HS1:=Xa (HS.below hb1);have HF1:Hid (TU w w1 bS gS v v):=Xa (TU.of_below hb1);clear hb1 HAS c0 c1 c2;have c0:=HS1.c0;have c1:=HS1.c1
   go_wp2_with fail
   have HSA:=Xa (HS1.below (Xb (Below.refl _ _) (.cells #[.int .i64 (b:Int)] 118)));have HFA:Hid (TU w1 (w1.alloc (.cells #[.int .i64 (b:Int)] 118)) bS gS v v):=Xa (TU.of_below (Xb (Below.refl _ _) _));have HIA:Hid (Xe (w1.alloc (.cells #[.int .i64 (b:Int)] 118)) w1.heap.size (w1.heap.size+1) (some ⟨w1.heap.size,0,none⟩) ([b].map Int.ofNat)):=Xa (ZbG w1 b _);have hza:w1.heap.size+1<=(w1.alloc (.cells #[.int .i64 (b:Int)] 118)).heap.size:=by simp
   have hgz:gS<w1.heap.size:=by have:=HS1.lg;have:=HS1.sz;omega
   generalize w1.alloc (.cells #[.int .i64 (b:Int)] 118)=wa at *;have HRB:Hid (∀t∈[b],t<64*K):=Xa (fun t ht=>by
    have:t=b:=by simpa using ht
    omega)
   refine(ZaW gS K 1 1 W _ [b] w1.heap.size (w1.heap.size+1) wa HIA (Xa rfl) (by omega) HRB (by omega) HW (Xa HSA.row) hza (by omega)).mono ?_;rintro e w2 ⟨rfl,hg2,hr2⟩;have HS2:Hid (YQ w2 bS gS BL K ab nb cb (Y9 W b) v L):=Xa (HSA.seen hg2 hr2);have HF2:Hid (TU w w2 bS gS v v):=Xa ((HF1.trans HFA.out).trans (TU.of_grown hg2));have HB2:Hid (Xy w2 L0 B0 ab xs):=Xa (HF2.blks HS.out HB.out h1 h2 h3);have HU2:=Xa (JR (W:=W) (n:=nb) hb HHF.out);have HD:Hid (dfsV (XW xs) (m+1) b (W,L)=_):=Xa (V0 (tg:=XW xs) (m:=m) (s:=(W,L)) HHF.out);clear hg2 hr2 HSA HFA HIA HF1 HS1 hza hgz c0 c1;have hbx:b<xs.length:=by have:=hxb.out;omega
   obtain⟨bb,o,rfl,hbb,pa,pc,ia,ic,-,-,⟨t0,t1,t2,t3⟩,-,-⟩:=HB2.out b hbx;have c0:=HS2.c0;have HTT:Hid (∀t∈xs[b].term.targets,0<=t/\t<nb):=Xa (hT.out _ (List.getElem_mem hbx));rw[Jt hbx]at HD;dsimp only at HD;generalize xs[b].term=tm at *
   go_wp2_with fail
   refine(ZW tm w2).mono ?_;rintro e w3 ⟨at3,ct3,rfl,hb3,hi3⟩;have HS3:=Xa (HS2.below hb3);have HF3:Hid (TU w w3 bS gS v v):=Xa (HF2.trans (TU.of_below hb3));have HI3:=Xa hi3;have HB3:Hid (Xy w3 L0 B0 (some ⟨bb,o,none⟩) xs):=Xa (HF3.blks HS.out HB.out h1 h2 h3);have HZ3:=Xa hb3.size;have HOW:Hid (∀k,v.ownBlock=some k->k<w2.heap.size):=Xa (fun k e=>(HS2.own.lt k e).2);have HG2:Hid (gS<w2.heap.size/\bS<w2.heap.size):=Xa ⟨by have:=HS2.lg;have:=HS2.sz;omega,by have:=HS2.lb;have:=HS2.sz;omega⟩;clear hb3 hi3 t0 t1 t2 t3 c0 HB2 HS2 HF2;have hts2:tm.targets.length<=2:=Zah tm;generalize hts:tm.targets=ts at *;clear hts;have HTL:Hid (∀t∈ts.map Int.toNat,t<nb):=Xa (fun t ht=>by
    obtain⟨z,hz,rfl⟩:=List.mem_map.1 ht;have:=HTT.out z hz;omega)
   have HTG:Hid (∀b,b<nb->∀t∈XW xs b,t<nb):=Xa (fun b hb t ht=>by
    have hbx:b<xs.length:=by have:=hxb.out;omega
    rw[Jt hbx]at ht;obtain⟨z,hz,rfl⟩:=List.mem_map.1 ht;have:=hT.out _ (List.getElem_mem hbx) z hz;omega)
   have HWA:=Xa (Zc0 HW.out b);have hU3:X8 (Y9 W b) nb<=m:=by have:=HU.out;have:=HU2.out;omega
   have hL3:L.length+X8 (Y9 W b) nb+1<=nb:=by have:=HU2.out;omega
   go_wp2_with fail
   go_loopw [29] (fun u wr=>∃q:Nat,q<=ts.length/\u=.int .i64 q/\∃v',Hid (TU w3 wr bS gS v v')/\Hid (YQ wr bS gS BL K (some ⟨bb,o,none⟩) nb cb (((ts.map Int.toNat).take q).foldl (fun s t=>dfsV (XW xs) m t s) (Y9 W b,L)).1 v' (((ts.map Int.toNat).take q).foldl (fun s t=>dfsV (XW xs) m t s) (Y9 W b,L)).2)) (fun u _=>ts.length-(intOf u).toNat)
   case atStart=>exact⟨0,Nat.zero_le _,rfl,v,Xa (TU.refl _ _ _ _),HS3⟩
   case round =>
    obtain⟨q,hq,rfl,v',HFq,HSq⟩:=hrel;have HFL:Hid ((((ts.map Int.toNat).take q).foldl (fun s t=>dfsV (XW xs) m t s) (Y9 W b,L)).2.length+X8 (((ts.map Int.toNat).take q).foldl (fun s t=>dfsV (XW xs) m t s) (Y9 W b,L)).1 nb<=L.length+X8 (Y9 W b) nb):=Xa (Zf8 (XW xs) nb HTG.out m _ _ (fun t ht=>HTL.out t (List.mem_of_mem_take ht)));by_cases hlt:q<ts.length
    ·obtain⟨bt,ot,rfl,hbt,et3⟩:=HI3.out q hlt
     have et:=(Xc (HFq.block bt hbt.2 (by have:=HG2.out;omega) (by have:=HG2.out;omega) (fun e=>by have:=HOW.out bt e.symm;omega))).trans et3;have htr:=HTT.out ts[q] (List.getElem_mem hlt);have HTK:Hid ((ts.map Int.toNat).take (q+1)=(ts.map Int.toNat).take q++[ts[q].toNat]):=Xa (by rw[List.take_succ_eq_append_getElem (by simpa using hlt),List.getElem_map]);have HWQ:=Xa (Zg6 (XW xs) m ((ts.map Int.toNat).take q) (Y9 W b,L) HWA.out);have HBq:=Xa (HFq.blks HS3.out HB3.out h1 h2 h3);have HUQ:Hid (X8 (((ts.map Int.toNat).take q).foldl (fun s t=>dfsV (XW xs) m t s) (Y9 W b,L)).1 nb<=m):=Xa (Nat.le_trans (J1 nb (fun x hx=>KE (XW xs) m _ (Y9 W b,L) x hx)) hU3);have HFO:Hid (((ts.map Int.toNat).take (q+1)).foldl (fun s t=>dfsV (XW xs) m t s) (Y9 W b,L)=dfsV (XW xs) m ts[q].toNat (((ts.map Int.toNat).take q).foldl (fun s t=>dfsV (XW xs) m t s) (Y9 W b,L))):=Xa (by rw[HTK.out,List.foldl_append];rfl);clear et3 HTK;generalize ts[q]=tq at *;obtain⟨tn,rfl⟩:=Zg htr.1;rw[Int.toNat_natCast]at HFO;have HC:=Xa (IH.out tn _ v' _ wr HSq HBq (by omega) HUQ HWQ (by have:=HFL.out;omega));generalize ((ts.map Int.toNat).take q).foldl (fun s t=>dfsV (XW xs) m t s) (Y9 W b,L)=sq at *;obtain⟨Wq,Lq⟩:=sq;dsimp only at *
     go_wp2_with fail
     refine HC.mono ?_;rintro e w5 ⟨rfl,v5,hf5,hs5⟩;have HF5:=Xa (HFq.trans hf5);have HS5:=Xa hs5;clear hf5 hs5 HC
     go_wp2_with fail
     exact⟨⟨q+1,by omega,by go_num,v5,HF5,Xa (by rw[HFO.out];exact HS5.out)⟩,by simp[intOf];omega⟩
    ·have hqe:q=ts.length:=by omega
     have HTE:Hid ((ts.map Int.toNat).take q=ts.map Int.toNat):=Xa (List.take_of_length_le (by simp;omega));rw[HTE.out]at HSq HFL;generalize (ts.map Int.toNat).foldl (fun s t=>dfsV (XW xs) m t s) (Y9 W b,L)=sq at *;obtain⟨Wq,Lq⟩:=sq;dsimp only at *;clear HTE;have c2:=HSq.c2;have zz:=HSq.thaw 2;have hlq:Lq.length<=1000:=by have:=HFL.out;omega
     have hwz:=HSq.sz
     go_wp2_with (at_builtin;refine wpList_append_own_at _ rfl _ _ 40 rfl BL 2 i0 (.int .i64 0) 1 8 Tryd.underlying40 hi0 hz0 hz1 hz2 rfl (by decide) _ _ _ rfl (HSq.own.alloc _) ⟨wr.heap.size,0,none⟩ 1 1 [.int .i64 (b:Int)] rfl rfl ?c1 ?c2 ?c3 ?c4 ?c5 ?_)
     case c1=>exact Xz _ _ _
     case c2=>intro u hu;simp at hu;subst hu;rfl
     case c3=>unfold maxLen;omega
     case c4=>omega
     case c5=>simp;omega
     intro v8 w8 hown8 hg8 hne8 hat8;obtain⟨hp1,hp2,hp3,hp4⟩:=HSq.push hg8 hown8 hat8;obtain⟨g8,k8,rfl,-,-⟩:=Xh hown8 (by omega);have HP1:=Xa hp1;have HP2:=Xa hp2;clear hp1 hp2 hown8 hg8 hne8 hat8
     go_wp2_with fail
     go_end0
     exact⟨rfl,_,(HF3.trans HFq.out).trans HP2.out,by rw[HD.out];exact HP1.out⟩
end Go.Proofs.YtbofmlmdgkblkaaDoor
namespace Go.Proofs.YtbofmlmdgkblkaaDoor
open Go.RowKit
inductive AvZ (tg:Nat->List Nat) (z:Int):Nat->Prop
 | root:z≠0->AvZ tg z 0
 | step {b t:Nat}:AvZ tg z b->t∈tg b->(t:Int)≠z->AvZ tg z t
theorem Zgi{tg:Nat->List Nat}{a b:Nat}:AvZ tg a b↔Av tg a b:=by
 constructor
 ·intro h
  induction h with
  | root h=>exact Av.root (fun e=>h (by omega))
  | step _ ht hne ih=>exact Av.step ih ht (fun e=>hne (by omega))
 ·intro h
  induction h with
  | root h=>exact AvZ.root (fun e=>h (by omega))
  | step _ ht hne ih=>exact AvZ.step ih ht (fun e=>hne (by omega))
theorem ZcP{tg:Nat->List Nat}{z:Int}(hz:z<0){b:Nat}:AvZ tg z b↔Re tg b:=by
 constructor
 ·intro h
  induction h with
  | root _=>exact Re.root
  | step _ ht _ ih=>exact Re.step ih ht
 ·intro h
  induction h with
  | root=>exact AvZ.root (by omega)
  | step _ ht ih=>exact AvZ.step ih ht (by omega)
structure RcI(tg:Nat->List Nat)(n:Nat)(z:Int)(F:List Nat)(i:Nat):Prop where
 nd:F.Nodup
 av:∀x∈F,AvZ tg z x
 lt:∀x∈F,x<n
 root:z≠0->0∈F
 nil:z=0->F=[]
 cl:∀k (h:k<F.length),k<i->∀t∈tg F[k],(t:Int)≠z->t=0\/t∈F
theorem JE{F:List Nat}{n:Nat}(h:F.Nodup)(hl:∀x∈F,x<n):F.length<=n:=by
 have:=List.Nodup.length_le_of_subset h (l₂:=List.range n) (fun x hx=>List.mem_range.2 (hl x hx));simpa using this
theorem ZfW{tg:Nat->List Nat}{n:Nat}{z:Int}{F:List Nat}{i:Nat}(h:RcI tg n z F i)(hi:F.length<=i)(x:Nat):x∈F↔AvZ tg z x:=by
 refine⟨h.av x,fun hx=>?_⟩
 induction hx with
 | root hz=>exact h.root hz
 | @step b t hb ht hne ih =>
  obtain⟨k,hk,e⟩:=List.getElem_of_mem ih;rcases h.cl k hk (by omega) t (by rw[e];exact ht) hne with h0 | h1
  ·rw[h0]
   refine h.root (fun hz=>?_);rw[h.nil hz]at hk;exact absurd hk (by simp)
  ·exact h1
theorem ZcK{T:Type}{C:T->Value}{w:World}{g t n:Nat}{f:Nat->T}(h:w.rowIs g t n (fun z=>C (f z)))(r:Nat)(v:T):(w.setCell ⟨g,r,none⟩ (C v)).rowIs g t n (fun z=>C (if z=r then v else f z)) :=
 (h.set r (C v)).congr (fun z _=>by by_cases e:z=r<;>simp[e])
theorem ZhO{T:Type}{C:T->Value}{w:World}{g t n:Nat}{f f':Nat->T}(h:w.rowIs g t n (fun z=>C (f z)))(e:∀z,z<n->f z=f' z):w.rowIs g t n (fun z=>C (f' z)):=h.congr (fun z hz=>by rw[e z hz])
theorem Tryd.infoBo:(Tryd.prog.info? 4).map (fun i=>(i.zero,i.size,i.bytes))=some (some (.bool false),1,1):=by kernel_rfl
end Go.Proofs.YtbofmlmdgkblkaaDoor
