import Derived.Test.YtkehcdfalcakmaaGreatDoorQA
import Derived.Laws.BytesArg
namespace Go.Proofs.YtkehcdfalcakmaaGreatDoor
set_option maxHeartbeats 1000000
set_option maxRecDepth 100000
open Go.RowKit Go.Shelf
def V2(H:Nat)(w':World)(b:Nat)(fs:List (List UInt8))(e:Ending):Prop:=(fs.all Xt=true->∃g k,H<=g/\k=fs.length/\e=.returned (.tuple #[.slice (some ⟨g,0,none⟩) k k,.bool true])/\Zk w' b g fs)/\(fs.all Xt=false->e=.returned (.tuple #[.slice none 0 0,.bool false]))
theorem UR{H:Nat}{w':World}{b:Nat}{fs:List (List UInt8)}(h:fs.all Xt=false):V2 H w' b fs (.returned (.tuple #[.slice none 0 0,.bool false])):=⟨fun q=>absurd (h.symm.trans q) (by decide),fun _=>rfl⟩
theorem Zax{H:Nat}{w':World}{b g k:Nat}{fs:List (List UInt8)}(h:fs.all Xt=true)(hg:H<=g)(hk:k=fs.length)(hp:Zk w' b g fs):V2 H w' b fs (.returned (.tuple #[.slice (some ⟨g,0,none⟩) k k,.bool true])):=⟨fun _=>⟨g,k,hg,hk,rfl,hp⟩,fun q=>absurd (h.symm.trans q) (by decide)⟩
theorem XP(w:World)(o:Obj):(w.alloc o).heap.size=w.heap.size+1:=Array.size_push ..
theorem K1(b o n c:Nat)(line:List UInt8)(w:World)(hx:Hid (n=line.length))(hnc:n<=c)(hc:c<=9223372036854775807)(hn:n<=1000000)(ha:Hid (∀i (h:i<line.length),w.cell? ⟨b,o+i,none⟩=some (.int .u8 (line[i].toNat:Int))))(hm:Hid (Ti w))(hb:b<w.heap.size) :
 Calls Tryz.prog 64 #[.slice (some ⟨b,o,none⟩) n c] w fun e w'=>Below w.heap.size w w'/\V2 w.heap.size w' b (cutS line 32) e:=by
 have HSP:Hid (∀(w1:World)(b2:Nat),Below w.heap.size w w1->w1.cell? ⟨b2,0,none⟩=some (.int .u8 ((32:UInt8).toNat:Int))->Calls Tryz.prog 63 #[.slice (some ⟨b,o,none⟩) n c,.slice (some ⟨b2,0,none⟩) 1 1] w1 fun e w'=>∃k,k=(cutS line 32).length/\e=.returned (.slice (some ⟨w1.heap.size,0,none⟩) k k)/\Below w1.heap.size w1 w'/\Zk w' b w1.heap.size (cutS line 32)):=Xa (fun w1 b2 hb1 h2 =>
  W4 32 b o n c b2 line w1 hx.out hnc hc hn (fun i h=>(hb1.cell (p:=⟨b,o+i,none⟩) hb).trans (ha.out i h)) h2 ⟨Nat.lt_of_lt_of_le hm.1 hb1.size,by
   obtain⟨m,h⟩:=hm.2;exact⟨m,(hb1.cell (p:=⟨4,0,none⟩) hm.1).trans h⟩⟩ (Nat.lt_of_lt_of_le hb hb1.size))
 have HFL:Hid ((cutS line 32).length<=1000001):=Xa (by have:=VH 32 line [];have:=hx.out;unfold cutS;omega);have HFS:Hid (∀f∈cutS line 32,f.length<=1000000):=Xa (fun f hf=>by have:=KD 32 line [] f hf;simp only[List.length_nil]at this;have:=hx.out;omega);generalize cutS line 32=fs at *
 go_enter Tryz.func64,Tryz.ntmps64
 go_wp2_with (go_at_call 63;refine(HSP.out _ _ (Xb (Below.refl _ _) _) (by rw[cell_of_row _ w.heap.size 0 _ _ _ (heap_alloc_new w _)];rfl)).mono ?_;rintro e w2 ⟨K,hK,rfl,hb2,hp2⟩;have HK:=Xa hK;have HP:=Xa hp2;have HB2:=Xa ((Xb (Below.refl w.heap.size w) _).trans (hb2.mono (Xb (Below.refl _ _) _).size));clear hK hp2 hb2)
 have hgs:(w.alloc (Obj.cells #[Value.int IntKind.u8 32] 5)).heap.size=w.heap.size+1:=XP w _;rw[hgs]at HP;clear hgs;have hg:w.heap.size<=w.heap.size+1:=Nat.le_succ _;have hKn:K<=1000001:=by have:=HK.out;have:=HFL.out;omega
 have hw2:=HB2.size;clear HSP;generalize w.heap.size+1=g at *
 go_loopw [12] (fun i wr=>∃k:Nat,k<=K/\i=.int .i64 k/\Hid (Below w2.heap.size w2 wr)/\Hid ((fs.take k).all Xt=true)) (fun i _=>K-(intOf i).toNat)
 case atStart=>exact⟨0,Nat.zero_le _,rfl,Xa (Below.refl _ _),Xa rfl⟩
 case round =>
  obtain⟨k,hk,rfl,HB,HA⟩:=hrel;have HBw:Hid (Below w.heap.size w wr):=Xa (HB2.trans (HB.mono hw2));by_cases hlt:k<K
  ·have hkf:k<fs.length:=by have:=HK.out;omega
   obtain⟨v,hv,o2,c2,rfl,hl2,hcc⟩:=HP.2 k hkf;have hc1:wr.cell? ⟨g,k,none⟩=some (.slice (some ⟨b,o2,none⟩) fs[k].length c2):=(HB.cell (p:=⟨g,k,none⟩) HP.1).trans hv;have HFk:=HFS.out fs[k] (List.getElem_mem hkf);have HNO:Hid (Xt fs[k]=false->fs.all Xt=false):=Xa (fun h=>by
    rw[List.all_eq_false];exact⟨fs[k],List.getElem_mem hkf,by rw[h];simp⟩)
   have HTk:Hid ((fs.take (k+1)).all Xt=((fs.take k).all Xt&&Xt fs[k])):=Xa (by rw[List.take_succ_eq_append_getElem hkf,List.all_append];simp);have HCO:=Xa (Tl b o2 fs[k].length c2 fs[k] wr (Xa rfl) HFk (Xa (fun j h=>(HB.cell (p:=⟨b,o2+j,none⟩) (Nat.lt_of_lt_of_le hb hw2)).trans (hcc j h))) (Nat.lt_of_lt_of_le hb HBw.size));clear hv hcc;generalize fs[k]=f at *;by_cases hf0:f.length=0
   ·have HE:=Xa (HNO.out (by rw[TP,hf0];rfl))
    rw[hf0]at hc1;go_wp2;refine bodyPost_ret (v:=.tuple #[.slice none 0 0,.bool false]) (by simp[results,Tryz.results64,go_sem]) rfl ⟨HBw.out,UR HE.out⟩
   ·have hfp:0<f.length:=by omega
    cases hq:f.all TJ with
    | false =>
     have HE:=Xa (HNO.out (by rw[TP,hq,Bool.and_false]))
     go_wp2_with (go_at_call 81;refine HCO.mono ?_;rintro e w3 ⟨rfl,hb3⟩;rw[hq];have HB3:=Xa (HBw.trans (hb3.mono HBw.size));clear hb3)
     refine bodyPost_ret (v:=.tuple #[.slice none 0 0,.bool false]) (by simp[results,Tryz.results64,go_sem]) rfl ⟨HB3.out,UR HE.out⟩
    | true =>
     have HA2:Hid ((fs.take (k+1)).all Xt=true):=Xa (by rw[HTk.out,HA.out,TP,hq,decide_eq_true hfp];rfl)
     go_wp2_with (go_at_call 81;refine HCO.mono ?_;rintro e w3 ⟨rfl,hb3⟩;rw[hq];have HB3:=Xa (HB.trans (hb3.mono HB.size));clear hb3)
     exact⟨⟨k+1,by omega,by go_num,HB3,HA2⟩,by simp[intOf];omega⟩
  ·have HE:Hid (fs.all Xt=true):=Xa (by have:=HA.out;rwa[List.take_of_length_le (by have:=HK.out;omega)]at this)
   have HPW:Hid (Zk wr b g fs):=Xa ⟨Nat.lt_of_lt_of_le HP.1 HB.size,fun i h=>by
    obtain⟨v,hv,hp⟩:=HP.2 i h;exact⟨v,(HB.cell (p:=⟨g,i,none⟩) HP.1).trans hv,hp.keep (HB.block b (Nat.lt_of_lt_of_le hb hw2))⟩⟩
   go_wp2;refine bodyPost_ret (v:=.tuple #[.slice (some ⟨g,0,none⟩) K K,.bool true]) (by simp[results,Tryz.results64,go_sem]) rfl ⟨HBw.out,Zax HE.out hg HK.out HPW.out⟩
def Zq(fs:List (List UInt8)):Option (List UInt8):=match fs with
 | [a,b]=>if fs.all Xt=true/\a=[102,117,110,99]/\digitsOk b 4=true then some b else none
 | _=>none
def XJ(c l:Int):Value:=.iface 63 (.agg #[.int .i64 c,.int .i64 l])
def headV(o:Option (List UInt8)):Value:=match o with
 | some b=>.tuple #[.int .i64 (amount b:Int),.nilIface]
 | none=>.tuple #[.int .i64 0,XJ 3 1]
theorem JX(w:World)(b o c:Nat)(f:List UInt8)(h:∀j (h:j<f.length),w.cell? ⟨b,o+j,none⟩=some (.int .u8 (f[j].toNat:Int))):(convert 22 9 (.slice (some ⟨b,o,none⟩) f.length c)).run Tryz.prog w=.ok (.string (Xs f)) w:=by
 have q:=run_convert_bytes_arg (P:=Tryz.prog) w 22 5 Tryz.underlying22 Tryz.underlying5 b o f.length c (f.map fun x=>(x.toNat:Int)) (by simp) (fun i hi=>by rw[h i hi];simp[List.getD,hi]) 9 Tryz.underlying9;have e:strOfNums (f.map fun x=>(x.toNat:Int))=Xs f:=congrArg (fun l:List UInt8=>(⟨l.toArray⟩:ByteArray)) (Jc f);rw[e]at q;exact q
theorem Jf{w:World}{b o B:Nat}{f:List UInt8}(h:∀j (h:j<f.length),w.cell? ⟨b,o+j,none⟩=some (.int .u8 (f[j].toNat:Int)))(hb:b<B):XE w b B (some ⟨b,o,none⟩) f:=fun i hi=>⟨b,o,rfl,⟨Nat.le_refl _,hb⟩,h i hi⟩
theorem Wa(b o n c:Nat)(line:List UInt8)(w:World)(hx:Hid (n=line.length))(hnc:n<=c)(hc:c<=9223372036854775807)(hn:n<=1000000)(ha:Hid (∀i (h:i<line.length),w.cell? ⟨b,o+i,none⟩=some (.int .u8 (line[i].toNat:Int))))(hm:Hid (Ti w))(hb:b<w.heap.size) :
 Calls Tryz.prog 46 #[.slice (some ⟨b,o,none⟩) n c] w fun e w'=>e=.returned (headV (Zq (cutS line 32)))/\Below w.heap.size w w':=by
 have HSF:=Xa (K1 b o n c line w hx hnc hc hn ha hm hb);have HFS:Hid (∀f∈cutS line 32,f.length<=1000000):=Xa (fun f hf=>by have:=KD 32 line [] f hf;simp only[List.length_nil]at this;have:=hx.out;omega);generalize cutS line 32=fs at *;cases hall:fs.all Xt with
 | false =>
  have HV:Hid (headV (Zq fs)=.tuple #[.int .i64 0,XJ 3 1]):=Xa (by
   have:Zq fs=none:=by
    unfold Zq;split
    ·rw[if_neg (fun h=>by rw[hall]at h;exact absurd h.1 (by decide))]
    ·rfl
   rw[this];rfl)
  go_enter Tryz.func46,Tryz.ntmps46
  go_wp2_with (go_at_call 64;refine HSF.mono ?_;rintro e w1 ⟨hb1,-,hs⟩;have:=hs hall;subst this;clear hs;have HB1:=Xa hb1;clear hb1)
  refine bodyPost_ret (v:=.tuple #[.int .i64 0,XJ 3 1]) (by simp[results,Tryz.results46,go_sem,XJ]) rfl ⟨by rw[HV.out],HB1.out⟩
 | true =>
  by_cases hl2:fs.length=2
  ·obtain⟨a,f,rfl⟩:∃a f,fs=[a,f]:=by
    match fs,hl2 with
    | [a,f],_=>exact⟨a,f,rfl⟩
   have HFa:=Xa (HFS.out a (by simp));have HFf:=Xa (HFS.out f (by simp));have HVn:Hid (¬(a=[102,117,110,99]/\digitsOk f 4=true)->headV (Zq [a,f])=.tuple #[.int .i64 0,XJ 3 1]):=Xa (fun h=>by
    show headV (if _ then _ else _)=_;rw[if_neg (fun q=>h q.2)];rfl)
   have HVy:Hid (a=[102,117,110,99]/\digitsOk f 4=true->headV (Zq [a,f])=.tuple #[.int .i64 (numV f 4),.nilIface]):=Xa (fun h=>by
    show headV (if _ then _ else _)=_;rw[if_pos ⟨hall,h.1,h.2⟩];show _=Value.tuple #[.int .i64 (if digitsOk f 4=true then _ else _),_];rw[if_pos h.2];rfl)
   clear hl2;have HALL:=Xa hall;clear hall;generalize headV (Zq [a,f])=V at *;by_cases h4:a=[102,117,110,99]
   ·have hts:(Xs a).toList=[102,117,110,99]:=by rw[h4];exact Ul _
    have H4:=Xa h4;clear h4;cases hd:digitsOk f 4 with
    | false =>
     have HV:=Xa (HVn.out (fun q=>by rw[hd]at q;exact absurd q.2 (by decide)));have HD:=Xa hd;clear hd
     go_enter Tryz.func46,Tryz.ntmps46
     go_wp2_with first | (go_at_call 64;refine HSF.mono ?_;rintro e w1 ⟨hb1,hs,-⟩;obtain⟨g,k,hg,rfl,rfl,hp⟩:=hs HALL.out;clear hs;obtain⟨v0,hv0,o0,c0,rfl,hl0,hc0⟩:=hp.2 0 (by simp);obtain⟨v1,hv1,o1,c1,rfl,hl1,hc1⟩:=hp.2 1 (by simp);have hcv:=JX w1 b o0 c0 a hc0;have HC1:=Xa (ZQ (some ⟨b,o1,none⟩) f.length c1 f b w1.heap.size w1 (Xa (Jf hc1 (Nat.lt_of_lt_of_le hb hb1.size))) (Xa rfl) HFf.out (Nat.le_refl _));have HB1:=Xa hb1;clear hb1 hp hc0 hc1) | (go_at_call 65;refine HC1.mono ?_;rintro e w2 ⟨rfl,hb2⟩;rw[HD.out];have HB2:=Xa (HB1.trans (hb2.mono HB1.size));clear hb2)
     refine bodyPost_ret (v:=.tuple #[.int .i64 0,XJ 3 1]) (by simp[results,Tryz.results46,go_sem,XJ]) rfl ⟨by rw[HV.out],HB2.out⟩
    | true =>
     have HV:=Xa (HVy.out ⟨H4.out,hd⟩);have HD:=Xa hd;clear hd
     go_enter Tryz.func46,Tryz.ntmps46
     go_wp2_with first | (go_at_call 64;refine HSF.mono ?_;rintro e w1 ⟨hb1,hs,-⟩;obtain⟨g,k,hg,rfl,rfl,hp⟩:=hs HALL.out;clear hs;obtain⟨v0,hv0,o0,c0,rfl,hl0,hc0⟩:=hp.2 0 (by simp);obtain⟨v1,hv1,o1,c1,rfl,hl1,hc1⟩:=hp.2 1 (by simp);have hcv:=JX w1 b o0 c0 a hc0;have HC1:=Xa (ZQ (some ⟨b,o1,none⟩) f.length c1 f b w1.heap.size w1 (Xa (Jf hc1 (Nat.lt_of_lt_of_le hb hb1.size))) (Xa rfl) HFf.out (Nat.le_refl _));have HB1:=Xa hb1;clear hb1 hp hc0 hc1) | (go_at_call 65;refine HC1.mono ?_;rintro e w2 ⟨rfl,hb2⟩;rw[HD.out];have HB2:=Xa (HB1.trans (hb2.mono HB1.size));clear hb2)
     refine bodyPost_ret (v:=.tuple #[.int .i64 (numV f 4),.nilIface]) (by simp[results,Tryz.results46,go_sem]) rfl ⟨by rw[HV.out],HB2.out⟩
   ·have HV:=Xa (HVn.out (fun q=>h4 q.1))
    have hts:=Ul a;have h4b:(a==[102,117,110,99])=false:=by rw[beq_eq_false_iff_ne];exact h4
    go_enter Tryz.func46,Tryz.ntmps46
    go_wp2_with (go_at_call 64;refine HSF.mono ?_;rintro e w1 ⟨hb1,hs,-⟩;obtain⟨g,k,hg,rfl,rfl,hp⟩:=hs HALL.out;clear hs;obtain⟨v0,hv0,o0,c0,rfl,hl0,hc0⟩:=hp.2 0 (by simp);obtain⟨v1,hv1,o1,c1,rfl,hl1,hc1⟩:=hp.2 1 (by simp);have hcv:=JX w1 b o0 c0 a hc0;have HC1:=Xa (ZQ (some ⟨b,o1,none⟩) f.length c1 f b w1.heap.size w1 (Xa (Jf hc1 (Nat.lt_of_lt_of_le hb hb1.size))) (Xa rfl) HFf.out (Nat.le_refl _));have HB1:=Xa hb1;clear hb1 hp hc0 hc1)
    refine bodyPost_ret (v:=.tuple #[.int .i64 0,XJ 3 1]) (by simp[results,Tryz.results46,go_sem,XJ]) rfl ⟨by rw[HV.out],HB1.out⟩
  ·have HV:Hid (headV (Zq fs)=.tuple #[.int .i64 0,XJ 3 1]):=Xa (by
    have:Zq fs=none:=by
     unfold Zq;split
     ·exact absurd rfl hl2
     ·rfl
    rw[this];rfl)
   have hl3:¬((fs.length:Int)=2):=by omega
   generalize headV (Zq fs)=V at *;have HALL:=Xa hall;clear hall
   go_enter Tryz.func46,Tryz.ntmps46
   go_wp2_with (go_at_call 64;refine HSF.mono ?_;rintro e w1 ⟨hb1,hs,-⟩;obtain⟨g,k,hg,rfl,rfl,hp⟩:=hs HALL.out;clear hs;have HB1:=Xa hb1;clear hb1 hp)
   refine bodyPost_ret (v:=.tuple #[.int .i64 0,XJ 3 1]) (by simp[results,Tryz.results46,go_sem,XJ]) rfl ⟨by rw[HV.out],HB1.out⟩
end Go.Proofs.YtkehcdfalcakmaaGreatDoor
