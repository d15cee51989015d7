import Derived.Test.YtlmgmkmomaileaaGreatDoorZM1
namespace Go.Proofs.YtlmgmkmomaileaaGreatDoor
open Go.RowKit
theorem Zf2{W W':World}{b1 e1 s1 n1:Nat}{v1:Value}{c1:List Value}(h:W.ownsRow b1 e1 s1 v1 n1 c1)(k:Below W.heap.size W W'):W'.ownsRow b1 e1 s1 v1 n1 c1:=by
 refine h.kept (row:=none) ⟨k.os,k.tape,k.output,k.size,fun q hq _=>k.block q hq⟩ ?_;cases v1.ownBlock<;>simp
end Go.Proofs.YtlmgmkmomaileaaGreatDoor
namespace Go.Proofs.YtlmgmkmomaileaaGreatDoor
set_option maxHeartbeats 4000000
set_option maxRecDepth 100000
open Go.RowKit
structure Ta(w:World)(L:Nat)(vals:List Value)(fl:List (List Int)):Prop where
 len:vals.length=fl.length
 at_:∀(j:Nat)(h:j<fl.length),∃a c,vals[j]?=some (.slice a fl[j].length c)/\Xf w L w.heap.size a fl[j]
theorem Ta.nil(w:World)(L:Nat):Ta w L [] []:=⟨rfl,fun j h=>absurd h sP⟩
theorem Ta.app{w:World}{L:Nat}{v1 v2:List Value}{f1 f2:List (List Int)}(h1:Ta w L v1 f1)(h2:Ta w L v2 f2):Ta w L (v1++v2) (f1++f2):=by
 refine⟨by rw[List.length_append,List.length_append,h1.len,h2.len],fun j hj=>?_⟩;rw[List.length_append]at hj;by_cases e:j<f1.length
 ·obtain⟨a,c,e1,e2⟩:=h1.at_ j e
  refine⟨a,c,?_,?_⟩
  ·rw[List.getElem?_append_left (by rw[h1.len];exact e),List.getElem_append_left e]
   exact e1
  ·rw[List.getElem_append_left e];exact e2
 ·obtain⟨a,c,e1,e2⟩:=h2.at_ (j-f1.length) oM
  refine⟨a,c,?_,?_⟩
  ·rw[List.getElem?_append_right (by rw[h1.len];omega),h1.len,List.getElem_append_right oM]
   exact e1
  ·rw[List.getElem_append_right oM];exact e2
theorem Zfs{w:World}{L B g m:Nat}{f:Nat->List Int}(h:XM w L B (some ⟨g,0,none⟩) ((List.range m).map f))(hB:B<=w.heap.size):∃vals:List Value,Ta w L vals ((List.range m).map f)/\(∀j u,vals[j]?=some u->w.cell? ⟨g,j,none⟩=some u)/\∀u∈vals,∃a n c,u=.slice a n c:=by
 have h1:∀j,j<m->∃v:Value,w.cell? ⟨g,j,none⟩=some v/\∃a c,v=.slice a (f j).length c/\Xf w L w.heap.size a (f j):=fun j hj=>by
  obtain⟨b,o,e,hb,a,c,hc,hi⟩:=h j (by simpa using hj);simp only[List.getElem_map,List.getElem_range]at hc hi;injection e with e;injection e with e1 e2;subst e1 e2;rw[Nat.zero_add]at hc;exact⟨_,hc,a,c,rfl,hi.mono (Nat.le_refl _) hB⟩
 refine⟨(List.range m).map fun j=>if hj:j<m then (h1 j hj).choose else .slice none 0 0,⟨sP,fun j hj=>?_⟩,fun j u hu=>?_,fun u hu=>?_⟩
 ·have hj':j<m:=by simpa using hj
  obtain⟨h2,a,c,h3,h4⟩:=(h1 j hj').choose_spec;refine⟨a,c,?_,?_⟩
  ·rw[List.getElem?_map,List.getElem?_range hj']
   simp only[Option.map_some,hj',dif_pos,List.getElem_map,List.getElem_range];rw[h3]
  ·simp only[List.getElem_map,List.getElem_range];exact h4
 ·by_cases hj:j<m
  ·rw[List.getElem?_map,List.getElem?_range hj]at hu
   simp only[Option.map_some,hj,dif_pos]at hu;injection hu with hu;rw[<-hu];exact(h1 j hj).choose_spec.1
  ·rw[List.getElem?_eq_none (by simp;omega)]at hu
   cases hu
 ·obtain⟨j,hj,rfl⟩:=List.mem_map.1 hu
  have hj:=List.mem_range.1 hj;simp only[hj,dif_pos];obtain⟨_,a,c,h3,_⟩:=(h1 j hj).choose_spec;exact⟨a,_,c,h3⟩
structure AsE(w2 wr:World)(b0 L:Nat)(u:Value)(fl:List (List Int)):Prop where
 os:wr.os=w2.os
 tape:wr.tape=w2.tape
 output:wr.output=w2.output
 size:w2.heap.size<=wr.heap.size
 fr:∀q,q<w2.heap.size->q≠b0->wr.heap[q]?=w2.heap[q]?
 ob:∀q,u.ownBlock=some q->q=b0\/w2.heap.size<=q
 own:∃vals:List Value,Ta w2 L vals fl/\wr.ownsRow b0 78 1 u fl.length vals
theorem AsE.push{w2 wr w8:World}{b0 L:Nat}{u u':Value}{fl f2:List (List Int)}{vals v2:List Value}(h:AsE w2 wr b0 L u fl)(hv:Ta w2 L vals fl)(h2:Ta w2 L v2 f2)(hg:wr.grownBy w8 u.ownBlock)(ho:w8.ownsRow b0 78 1 u' (fl.length+f2.length) (vals++v2))(hat:u'.ownBlock=u.ownBlock\/u'.ownBlock=some wr.heap.size):AsE w2 w8 b0 L u' (fl++f2):=by
 have hs:=h.size;refine⟨hg.os.trans h.os,hg.tape.trans h.tape,hg.output.trans h.output,Nat.le_trans h.size hg.size,fun q h1 h3=>(hg.block q oM (fun e=>by rcases h.ob q e.symm with e | e<;>omega)).trans (h.fr q h1 h3),fun q e=>?_,_,hv.app h2,by rw[List.length_append];exact ho⟩;rcases hat with e1 | e1
 ·exact h.ob q (e1.symm.trans e)
 ·rw[e1]at e
  injection e with e;exact Or.inr oM
theorem ZeD{V:Nat}{xs:List Xh}(ho:Jd V xs)(b:Nat):(flQ xs V b).length<=b*4001:=by
 induction b with
 | zero=>simp[flQ]
 | succ b ih =>
  rw[WZ,List.length_append];have:=Zez ho b;simp;omega
theorem Zch(V:Nat)(a:Option Addr)(n c:Nat)(xs:List Xh)(L B:Nat)(w:World)(ha:Hid (Xk w L B a xs))(hx:Hid (n=xs.length))(hB:B<=w.heap.size)(ho:Hid (Jd V xs)) :
 Calls Tryz.prog 32 #[.agg #[.int .i64 (V:Int),.slice a n c]] w fun e w'=>∃g cc,e=.returned (.slice (some ⟨g,0,none⟩) (flQ xs V n).length cc)/\Below w.heap.size w w'/\XM w' w.heap.size w'.heap.size (some ⟨g,0,none⟩) (flQ xs V n):=by
 have hn:n<=1000:=by have:=hx.out;have:=ho.okf.n2;omega
 have hn0:0<n:=by have:=hx.out;have:=ho.okf.n1;omega
 obtain⟨i0,hi0,hz0,hz1,hz2⟩:=YG Tryz.infoSetI';have hW0:Below w.heap.size w ((w.alloc (.cells #[.int .i64 (V:Int),.slice a n c] 33)).alloc (.cells #[] 78)):=Xb (Xb (Below.refl _ _) _) _;have hf0:((w.alloc (.cells #[.int .i64 (V:Int),.slice a n c] 33)).alloc (.cells #[] 78)).cell? ⟨w.heap.size,0,none⟩=some (.int .i64 (V:Int)):=by simp[go_sem]
 have hf1:((w.alloc (.cells #[.int .i64 (V:Int),.slice a n c] 33)).alloc (.cells #[] 78)).cell? ⟨w.heap.size,1,none⟩=some (.slice a n c):=by simp[go_sem]
 have hl0:((w.alloc (.cells #[.int .i64 (V:Int),.slice a n c] 33)).alloc (.cells #[] 78)).ownsRow (w.heap.size+1) 78 1 (.slice (some ⟨w.heap.size+1,0,none⟩) 0 0) 0 []:=by
  have h:=World.ownsRow_lit (base:=w.heap.size+1) (e:=78) (size:=1) (w.alloc (.cells #[.int .i64 (V:Int),.slice a n c] 33)) #[] 0 sP sP rfl;rw[World.size_alloc]at h;exact h
 go_enter Tryz.func32,Tryz.ntmps32
 go_wp2_with fail
 generalize (w.alloc (.cells #[.int .i64 (V:Int),.slice a n c] 33)).alloc (.cells #[] 78)=w1 at *;have hz1w:w.heap.size+1<w1.heap.size:=(hl0.lt _ rfl).2;have HPT:=Xa (ZdH V a n c xs L B w1 (Xa (ha.keep (hW0.mono hB))) hx (by have:=hW0.size;omega) ho);refine HPT.mono ?_;rintro e w2 ⟨gO,cO,G,rfl,hb2,hgO,hG⟩;have HG:=Xa hG;have hz2':=hb2.size;have HB2:=Xa (Xd hW0 hb2);have HAE:Hid (AsE w2 w2 (w.heap.size+1) w1.heap.size (.slice (some ⟨w.heap.size+1,0,none⟩) 0 0) (flQ xs V 0)):=Xa ⟨rfl,rfl,rfl,Nat.le_refl _,fun _ _ _=>rfl,fun q e=>Or.inl (by injection e with e;exact e.symm),[],by
  have h:=Ta.nil w2 w1.heap.size;exact h,by
  have h:=Zf2 hl0 hb2;exact h⟩
 have HFL:Hid (∀b,b<=n->(flQ xs V b).length<=4001000):=Xa (fun b hb=>by have:=ZeD ho.out b;have:b*4001<=1000*4001:=Nat.mul_le_mul_right _ oM;omega);clear hb2 hG HPT hl0 hW0 hf0 hf1
 go_wp2_with fail
 go_loopw [3,5] (fun u i wr=>∃b:Nat,b<=n/\i=.int .i64 b/\Hid (AsE w2 wr (w.heap.size+1) w1.heap.size u (flQ xs V b))) (fun _ i _=>n-(intOf i).toNat)
 case atStart=>exact⟨0,Nat.zero_le _,rfl,HAE⟩
 case round =>
  clear HAE;obtain⟨b,hb,rfl,HE⟩:=hrel;by_cases hlt:b<n
  ·obtain⟨h1,h2,h3⟩:=HG.out b hlt
   obtain⟨vals2,v1,v2,v3⟩:=Zfs h3 (Nat.le_refl _);have HV2:=Xa v1;obtain⟨vals,hv,hw⟩:=HE.own;have HV:=Xa hv;have HOW:=Xa hw;have HSU:=Xa (WZ xs V b);have hF1:=HFL.out b hb;have hdl:=Zez ho.out b;have hl2:vals2.length=(Tt xs b).length+1:=by rw[v1.len];simp
   have eO:=(Xc (HE.fr gO (World.block_lt_of_cell? w2 _ h1) oM)).trans h1;have HC:Hid (∀j u,vals2[j]?=some u->wr.cell? ⟨G b,j,none⟩=some u):=Xa (fun j u hj=>(Xc (HE.fr (G b) (World.block_lt_of_cell? w2 _ (v2 j u hj)) oM)).trans (v2 j u hj));have HVF:=Xa v3;have hsr:=HE.size;obtain⟨m,hm⟩:∃m,m=(Tt xs b).length+1:=⟨_,rfl⟩;rw[<-hm]at eO hl2 HSU;have hm0:m<=4001:=oM;have HL2:Hid (((List.range m).map (ptQ xs V b)).length=m):=Xa sP;rw[<-hm]at HV2;clear hv hw v1 v2 v3 h1 h2 h3 hm
   go_wp2_with (at_builtin;refine wpList_append_own_at _ rfl _ _ 75 rfl (w.heap.size+1) 78 i0 (.agg #[.slice none 0 0]) 1 24 Tryz.underlying75 hi0 hz0 hz1 hz2 rfl dC _ _ _ rfl HOW.out ⟨G b,0,none⟩ m m vals2 rfl (by rw[hl2,Nat.mul_one]) ?c1 ?c2 ?c3 ?c4 ?c5 ?_)
   case c1 =>
    intro j u hj;have e2:(⟨G b,0,none⟩:Addr).add j=⟨G b,j,none⟩:=by rw[Addr.add_lit];simp
    rw[e2];exact HC.out j u hj
   case c2 =>
    intro u hu;obtain⟨_,_,_,rfl⟩:=HVF.out u hu;rfl
   case c3=>unfold maxLen;omega
   case c4=>omega
   case c5=>omega
   intro v8 w8 hown8 hg8 _ hat8;have HE8:=Xa (HE.push HV.out HV2.out hg8 (by rw[HL2.out];exact hown8) hat8);rw[<-HSU.out]at HE8;clear hown8 hg8 hat8
   go_wp2_with fail
   exact⟨⟨b+1,oM,gM,HE8⟩,by simp[intOf];omega⟩
  ·have hbn:n=b:=oM
   subst hbn;obtain⟨vals,hv,hw⟩:=HE.own;have hpos:0<(flQ xs V n).length:=by
    obtain⟨q,rfl⟩:∃q,n=q+1:=⟨n-1,oM⟩;rw[WZ];simp;omega
   obtain⟨g8,c8,rfl,_,_⟩:=XC hw hpos;have HH:Hid (XM wr w.heap.size wr.heap.size (some ⟨g8,0,none⟩) (flQ xs V n)):=Xa (fun j hj=>by
    obtain⟨aj,cj,e1,e2⟩:=hv.at_ j hj;refine⟨g8,0,rfl,⟨by have:=(hw.lt _ rfl).1;omega,(hw.lt _ rfl).2⟩,aj,cj,by rw[Nat.zero_add];exact XZ hw e1,fun i hi=>?_⟩;obtain⟨b',o',e3,hb',hc'⟩:=e2 i hi;exact⟨b',o',e3,⟨oM,by have:=HE.size;omega⟩,(Xc (HE.fr b' hb'.2 oM)).trans hc'⟩)
   have HLW:=Xa (show Below w.heap.size w wr from⟨HE.os.trans HB2.os,HE.tape.trans HB2.tape,HE.output.trans HB2.output,by have:=HB2.size;have:=HE.size;omega,fun q hq=>(HE.fr q oM oM).trans (HB2.block q hq)⟩);clear hv hw
   go_wp2_with fail
   go_ret
   exact⟨g8,c8,rfl,HLW.out,HH.out⟩
end Go.Proofs.YtlmgmkmomaileaaGreatDoor
