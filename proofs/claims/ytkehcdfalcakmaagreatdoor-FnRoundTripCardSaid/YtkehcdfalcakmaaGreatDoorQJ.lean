import Derived.Test.YtkehcdfalcakmaaGreatDoorQH
namespace Go.Proofs.YtkehcdfalcakmaaGreatDoor
set_option maxHeartbeats 2000000
set_option maxRecDepth 100000
open Go.RowKit Go.Shelf
def Ui(w:World)(b B:Nat)(fa:Option Addr)(fs:List (List UInt8)):Prop:=∀i (h:i<fs.length),∃g o v,fa=some ⟨g,o,none⟩/\g<B/\w.cell? ⟨g,o+i,none⟩=some v/\Kr w b v fs[i]
theorem Ui.keep{w w':World}{b B:Nat}{fa:Option Addr}{fs:List (List UInt8)}(h:Ui w b B fa fs)(k:Below B w w')(hb:b<B):Ui w' b B fa fs:=fun i hi=>by
 obtain⟨g,o,v,e,hg,hc,hp⟩:=h i hi;exact⟨g,o,v,e,hg,(k.cell (p:=⟨g,o+i,none⟩) hg).trans hc,hp.keep (k.block b hb)⟩
def conAt(role code n i:Nat):Bool:=decide (role=2)&&(decide (code=1)&&decide (i+1=n))
def Up(c:Bool)(f:List UInt8):Bool:=if c then Tx f else digitsOk f 4
def KM(c:Bool)(f:List UInt8):Int:=if c then K7 f else numV f 4
def YO(q:Nat->Bool):Nat->List (List UInt8)->Bool
 | _,[]=>true
 | i,f::r=>Up (q i) f&&YO q (i+1) r
def Y9(q:Nat->Bool):Nat->List (List UInt8)->List Int
 | _,[]=>[]
 | i,f::r=>KM (q i) f::Y9 q (i+1) r
theorem WD(q:Nat->Bool)(f:List UInt8):∀(l:List (List UInt8))(i:Nat),YO q i (l++[f])=(YO q i l&&Up (q (i+l.length)) f)
 | [],i=>by simp[YO]
 | x::r,i=>by
  rw[List.cons_append,YO,YO,WD q f r (i+1),Bool.and_assoc,List.length_cons,show i+1+r.length=i+(r.length+1) by omega]
theorem VZ(q:Nat->Bool)(f:List UInt8):∀(l:List (List UInt8))(i:Nat),Y9 q i (l++[f])=Y9 q i l++[KM (q (i+l.length)) f]
 | [],i=>by simp[Y9]
 | x::r,i=>by
  rw[List.cons_append,Y9,Y9,VZ q f r (i+1),List.cons_append,List.length_cons,show i+1+r.length=i+(r.length+1) by omega]
theorem WT(q:Nat->Bool):∀(l:List (List UInt8))(i:Nat),(Y9 q i l).length=l.length
 | [],_=>rfl
 | x::r,i=>by rw[Y9,List.length_cons,List.length_cons,WT q r]
theorem Zdk(q:Nat->Bool):∀(l:List (List UInt8))(i k:Nat)(h:k<l.length),Up (q (i+k)) l[k]=false->YO q i l=false
 | x::r,i,0,_,e=>by rw[YO];simp only[Nat.add_zero,List.getElem_cons_zero]at e;rw[e];rfl
 | x::r,i,k+1,h,e=>by
  rw[YO,Zdk q r (i+1) k (by simpa using h) (by rw[show i+1+k=i+(k+1) by omega];simpa using e),Bool.and_false]
theorem Vo(w3:World)(x:Int):∀(i:Nat)(v:Value),[Value.int .i64 x][i]?=some v->(w3.alloc (Obj.cells #[Value.int .i64 x] 2)).cell? ((⟨w3.heap.size,0,none⟩:Addr).add i)=some v:=fun i v hv=>by
 have:i=0:=by
  cases i with
  | zero=>rfl
  | succ j=>simp at hv
 subst this;simp at hv;subst hv;rw[Addr.add_lit,cell_of_row _ w3.heap.size _ _ _ _ (heap_alloc_new w3 _)];rfl
theorem Uh(x:Int):∀u∈[Value.int .i64 x],u.oneCell'=true:=fun u hu=>by
 rw[List.mem_singleton]at hu;subst hu;rfl
def Zas(H:Nat)(w':World)(q:Nat->Bool)(fs:List (List UInt8))(e:Ending):Prop :=
 (YO q 0 fs=true->∃v,e=.returned (.tuple #[v,.bool true])/\w'.ownsRow H 2 1 v fs.length ((Y9 q 0 fs).map (Value.int .i64)))/\(YO q 0 fs=false->e=.returned (.tuple #[.slice none 0 0,.bool false]))
theorem Vi(role code n fc b B:Nat)(fa:Option Addr)(fs:List (List UInt8))(w:World)(hx:Hid (n=fs.length))(hn:n<=1000000)(hb:b<B)(hB:B<=w.heap.size)(ha:Hid (Ui w b B fa fs))(hfs:Hid (∀f∈fs,f.length<=1000000)) :
 Calls Tryz.prog 85 #[UL role code,.slice fa n fc] w fun e w'=>Below w.heap.size w w'/\Zas w.heap.size w' (conAt role code n) fs e:=by
 obtain⟨i0,hi0,hz0,hz1,hz2⟩:=info_parts Tryz.info2';have HQ:Hid (∀i,conAt role code n i=(decide (role=2)&&(decide (code=1)&&decide (i+1=n)))):=Xa (fun i=>rfl);generalize conAt role code n=q at *;unfold UL
 go_enter Tryz.func85,Tryz.ntmps85
 go_wp2
 go_loopw [6,15] (fun u i wr=>∃k:Nat,k<=n/\i=.int .i64 k/\Hid (Below w.heap.size w wr)/\w.heap.size<wr.heap.size/\wr.cell? ⟨w.heap.size,0,none⟩=some (.int .i64 role)/\wr.cell? ⟨w.heap.size,1,none⟩=some (.int .i64 code)/\Hid (YO q 0 (fs.take k)=true)/\Hid (wr.ownsRow (w.heap.size+1) 2 1 u k ((Y9 q 0 (fs.take k)).map (Value.int .i64)))) (fun _ i _=>n-(intOf i).toNat)
 case atStart=>exact⟨0,Nat.zero_le _,rfl,Xa (Xb (Xb (Below.refl _ _) _) _),by simp;omega,by simp,by simp,Xa rfl,Xa (U5 _ _)⟩
 case round =>
  obtain⟨k,hk,rfl,HBw,hsz,hcr,hcc,HA,HO⟩:=hrel;have hwz:=HBw.size;by_cases hlt:k<n
  ·have hkf:k<fs.length:=by have:=hx.out;omega
   obtain⟨g,o,v,rfl,hg,hc1,o2,c2,rfl,hl2,hcp⟩:=(ha.keep (HBw.mono hB) hb) k hkf;replace hl2:=hl2.1;have HFk:=hfs.out fs[k] (List.getElem_mem hkf);have HNO:Hid (Up (q k) fs[k]=false->YO q 0 fs=false):=Xa (fun h=>Zdk q fs 0 k hkf (by rw[Nat.zero_add];exact h));have HT1:Hid (YO q 0 (fs.take (k+1))=(YO q 0 (fs.take k)&&Up (q k) fs[k])):=Xa (by rw[List.take_succ_eq_append_getElem hkf,WD,List.length_take,Nat.min_eq_left (by omega),Nat.zero_add]);have HT2:Hid (Y9 q 0 (fs.take (k+1))=Y9 q 0 (fs.take k)++[KM (q k) fs[k]]):=Xa (by rw[List.take_succ_eq_append_getElem hkf,VZ,List.length_take,Nat.min_eq_left (by omega),Nat.zero_add]);have HRI:=Xa (ZQ (some ⟨b,o2,none⟩) fs[k].length c2 fs[k] b wr.heap.size wr (Xa (Jf hcp (by omega))) (Xa rfl) HFk (Nat.le_refl _));have HRC:=Xa (U7 b o2 fs[k].length c2 fs[k] b wr.heap.size wr (Xa (Jf hcp (by omega))) (Xa rfl) hl2 HFk (Nat.le_refl _));clear hcp;generalize fs[k]=f at *;by_cases hr2:role=2
   ·by_cases hc2:code=1
    ·by_cases hkn:k+1=n
     ·have HQk:Hid (q k=true):=Xa (by rw[HQ.out];simp[hr2,hc2,hkn])
      have hr3:((role:Int)==2)=true:=by rw[hr2];rfl
      have hc3:((code:Int)==1)=true:=by rw[hc2];rfl
      have hk3:((k:Int)==(n:Int)-1)=true:=by rw[beq_iff_eq];omega
      clear hr2 hc2 hkn;have HOK:Hid (Up (q k) f=Tx f):=Xa (by rw[HQk.out];rfl);have HVA:Hid (KM (q k) f=K7 f):=Xa (by rw[HQk.out];rfl);clear HQ;cases hd:Tx f with
      | false =>
       have HE:=Xa (HNO.out (by rw[HOK.out];exact hd));have HD:=Xa hd;clear hd
       go_wp2_with (go_at_call 100;refine HRC.mono ?_;rintro e w3 ⟨rfl,hb3⟩;rw[HD.out];have HB3:=Xa (HBw.trans (hb3.mono hwz));clear hb3)
       refine bodyPost_ret (v:=.tuple #[.slice none 0 0,.bool false]) (by simp[results,Tryz.results85,go_sem]) rfl ⟨HB3.out,fun h=>absurd (HE.symm.trans h) (by decide),fun _=>rfl⟩
      | true =>
       have HA2:Hid (YO q 0 (fs.take (k+1))=true):=Xa (by rw[HT1.out,HA.out,HOK.out,hd];rfl);have HD:=Xa hd;clear hd
       go_wp2_with first
        | (go_at_call 100;refine HRC.mono ?_;rintro e w3 ⟨rfl,hb3⟩;rw[HD.out];have HB3:=Xa (HBw.trans (hb3.mono hwz));have HO3:=Xa (Th HO.out hb3);have HX3:=Xa (hb3.block w.heap.size hsz);have hsz3:w.heap.size<w3.heap.size:=Nat.lt_of_lt_of_le hsz hb3.size;clear hb3)
        | (at_builtin;refine wpList_append_own_at _ rfl _ _ 44 rfl (w.heap.size+1) 2 i0 (.int .i64 0) 1 8 Tryz.underlying44 hi0 hz0 hz1 hz2 rfl (by decide) _ _ _ rfl (HO3.alloc _) ⟨w3.heap.size,0,none⟩ 1 1 [.int .i64 (K7 f)] rfl rfl ?c1a ?c2a ?c3a ?c4a ?c5a ?_)
       case c1a=>exact Vo w3 _
       case c2a=>exact Uh _
       case c3a=>unfold maxLen;omega
       case c4a=>omega
       case c5a=>first | omega | (simp;omega)
       intro v1 w1 hown1 hgrow1 hne1 hat1;have HO1:Hid (w1.ownsRow (w.heap.size+1) 2 1 v1 (k+1) ((Y9 q 0 (fs.take (k+1))).map (Value.int .i64))):=Xa (by rw[HT2.out,HVA.out,Z1];exact hown1);have HB1:Hid (Below w.heap.size w w1):=Xa (XG (Xb HB3.out _) hgrow1 (HO3.alloc _) (by omega) (by rw[XP];omega));have hbk:=(YP hgrow1 (HO3.alloc _) (Nat.lt_succ_self w.heap.size) (by rw[XP];omega)).trans ((Below.heap_alloc w3 _ w.heap.size hsz3).trans HX3.out);have c0:w1.cell? ⟨w.heap.size,0,none⟩=_:=(Xc hbk).trans hcr;have c1:w1.cell? ⟨w.heap.size,1,none⟩=_:=(Xc hbk).trans hcc;have hs1:w.heap.size<w1.heap.size:=Nat.lt_of_lt_of_le (by rw[XP];omega) hgrow1.size;clear hown1 hgrow1 hne1 hat1 hbk;go_wp2;exact⟨⟨k+1,by omega,by go_num,HB1,hs1,c0,c1,HA2,HO1⟩,by simp[intOf];omega⟩
     ·have HQk:Hid (q k=false):=Xa (by rw[HQ.out];simp[hkn])
      have hkn3:¬((k:Int)=(n:Int)-1):=by omega
      have hr3:((role:Int)==2)=true:=by rw[hr2];rfl
      have hc3:((code:Int)==1)=true:=by rw[hc2];rfl
      clear hr2 hc2;have HOK:Hid (Up (q k) f=digitsOk f 4):=Xa (by rw[HQk.out];rfl);have HVA:Hid (KM (q k) f=numV f 4):=Xa (by rw[HQk.out];rfl);clear HQ;cases hd:digitsOk f 4 with
      | false =>
       have HE:=Xa (HNO.out (by rw[HOK.out];exact hd));have HD:=Xa hd;clear hd
       go_wp2_with (go_at_call 65;refine HRI.mono ?_;rintro e w3 ⟨rfl,hb3⟩;rw[HD.out];have HB3:=Xa (HBw.trans (hb3.mono hwz));clear hb3)
       refine bodyPost_ret (v:=.tuple #[.slice none 0 0,.bool false]) (by simp[results,Tryz.results85,go_sem]) rfl ⟨HB3.out,fun h=>absurd (HE.symm.trans h) (by decide),fun _=>rfl⟩
      | true =>
       have HA2:Hid (YO q 0 (fs.take (k+1))=true):=Xa (by rw[HT1.out,HA.out,HOK.out,hd];rfl);have HD:=Xa hd;clear hd
       go_wp2_with first
        | (go_at_call 65;refine HRI.mono ?_;rintro e w3 ⟨rfl,hb3⟩;rw[HD.out];have HB3:=Xa (HBw.trans (hb3.mono hwz));have HO3:=Xa (Th HO.out hb3);have HX3:=Xa (hb3.block w.heap.size hsz);have hsz3:w.heap.size<w3.heap.size:=Nat.lt_of_lt_of_le hsz hb3.size;clear hb3)
        | (at_builtin;refine wpList_append_own_at _ rfl _ _ 44 rfl (w.heap.size+1) 2 i0 (.int .i64 0) 1 8 Tryz.underlying44 hi0 hz0 hz1 hz2 rfl (by decide) _ _ _ rfl (HO3.alloc _) ⟨w3.heap.size,0,none⟩ 1 1 [.int .i64 (numV f 4)] rfl rfl ?c1b ?c2b ?c3b ?c4b ?c5b ?_)
       case c1b=>exact Vo w3 _
       case c2b=>exact Uh _
       case c3b=>unfold maxLen;omega
       case c4b=>omega
       case c5b=>first | omega | (simp;omega)
       intro v1 w1 hown1 hgrow1 hne1 hat1;have HO1:Hid (w1.ownsRow (w.heap.size+1) 2 1 v1 (k+1) ((Y9 q 0 (fs.take (k+1))).map (Value.int .i64))):=Xa (by rw[HT2.out,HVA.out,Z1];exact hown1);have HB1:Hid (Below w.heap.size w w1):=Xa (XG (Xb HB3.out _) hgrow1 (HO3.alloc _) (by omega) (by rw[XP];omega));have hbk:=(YP hgrow1 (HO3.alloc _) (Nat.lt_succ_self w.heap.size) (by rw[XP];omega)).trans ((Below.heap_alloc w3 _ w.heap.size hsz3).trans HX3.out);have c0:w1.cell? ⟨w.heap.size,0,none⟩=_:=(Xc hbk).trans hcr;have c1:w1.cell? ⟨w.heap.size,1,none⟩=_:=(Xc hbk).trans hcc;have hs1:w.heap.size<w1.heap.size:=Nat.lt_of_lt_of_le (by rw[XP];omega) hgrow1.size;clear hown1 hgrow1 hne1 hat1 hbk;go_wp2;exact⟨⟨k+1,by omega,by go_num,HB1,hs1,c0,c1,HA2,HO1⟩,by simp[intOf];omega⟩
    ·have HQk:Hid (q k=false):=Xa (by rw[HQ.out];simp[hc2])
     have hc3:¬((code:Int)=1):=by omega
     have hr3:((role:Int)==2)=true:=by rw[hr2];rfl
     clear hr2;have HOK:Hid (Up (q k) f=digitsOk f 4):=Xa (by rw[HQk.out];rfl);have HVA:Hid (KM (q k) f=numV f 4):=Xa (by rw[HQk.out];rfl);clear HQ;cases hd:digitsOk f 4 with
     | false =>
      have HE:=Xa (HNO.out (by rw[HOK.out];exact hd));have HD:=Xa hd;clear hd
      go_wp2_with (go_at_call 65;refine HRI.mono ?_;rintro e w3 ⟨rfl,hb3⟩;rw[HD.out];have HB3:=Xa (HBw.trans (hb3.mono hwz));clear hb3)
      refine bodyPost_ret (v:=.tuple #[.slice none 0 0,.bool false]) (by simp[results,Tryz.results85,go_sem]) rfl ⟨HB3.out,fun h=>absurd (HE.symm.trans h) (by decide),fun _=>rfl⟩
     | true =>
      have HA2:Hid (YO q 0 (fs.take (k+1))=true):=Xa (by rw[HT1.out,HA.out,HOK.out,hd];rfl);have HD:=Xa hd;clear hd
      go_wp2_with first
       | (go_at_call 65;refine HRI.mono ?_;rintro e w3 ⟨rfl,hb3⟩;rw[HD.out];have HB3:=Xa (HBw.trans (hb3.mono hwz));have HO3:=Xa (Th HO.out hb3);have HX3:=Xa (hb3.block w.heap.size hsz);have hsz3:w.heap.size<w3.heap.size:=Nat.lt_of_lt_of_le hsz hb3.size;clear hb3)
       | (at_builtin;refine wpList_append_own_at _ rfl _ _ 44 rfl (w.heap.size+1) 2 i0 (.int .i64 0) 1 8 Tryz.underlying44 hi0 hz0 hz1 hz2 rfl (by decide) _ _ _ rfl (HO3.alloc _) ⟨w3.heap.size,0,none⟩ 1 1 [.int .i64 (numV f 4)] rfl rfl ?c1c ?c2c ?c3c ?c4c ?c5c ?_)
      case c1c=>exact Vo w3 _
      case c2c=>exact Uh _
      case c3c=>unfold maxLen;omega
      case c4c=>omega
      case c5c=>first | omega | (simp;omega)
      intro v1 w1 hown1 hgrow1 hne1 hat1;have HO1:Hid (w1.ownsRow (w.heap.size+1) 2 1 v1 (k+1) ((Y9 q 0 (fs.take (k+1))).map (Value.int .i64))):=Xa (by rw[HT2.out,HVA.out,Z1];exact hown1);have HB1:Hid (Below w.heap.size w w1):=Xa (XG (Xb HB3.out _) hgrow1 (HO3.alloc _) (by omega) (by rw[XP];omega));have hbk:=(YP hgrow1 (HO3.alloc _) (Nat.lt_succ_self w.heap.size) (by rw[XP];omega)).trans ((Below.heap_alloc w3 _ w.heap.size hsz3).trans HX3.out);have c0:w1.cell? ⟨w.heap.size,0,none⟩=_:=(Xc hbk).trans hcr;have c1:w1.cell? ⟨w.heap.size,1,none⟩=_:=(Xc hbk).trans hcc;have hs1:w.heap.size<w1.heap.size:=Nat.lt_of_lt_of_le (by rw[XP];omega) hgrow1.size;clear hown1 hgrow1 hne1 hat1 hbk;go_wp2;exact⟨⟨k+1,by omega,by go_num,HB1,hs1,c0,c1,HA2,HO1⟩,by simp[intOf];omega⟩
   ·have HQk:Hid (q k=false):=Xa (by rw[HQ.out];simp[hr2])
    have hr3:¬((role:Int)=2):=by omega
    have HOK:Hid (Up (q k) f=digitsOk f 4):=Xa (by rw[HQk.out];rfl);have HVA:Hid (KM (q k) f=numV f 4):=Xa (by rw[HQk.out];rfl);clear HQ;cases hd:digitsOk f 4 with
    | false =>
     have HE:=Xa (HNO.out (by rw[HOK.out];exact hd));have HD:=Xa hd;clear hd
     go_wp2_with (go_at_call 65;refine HRI.mono ?_;rintro e w3 ⟨rfl,hb3⟩;rw[HD.out];have HB3:=Xa (HBw.trans (hb3.mono hwz));clear hb3)
     refine bodyPost_ret (v:=.tuple #[.slice none 0 0,.bool false]) (by simp[results,Tryz.results85,go_sem]) rfl ⟨HB3.out,fun h=>absurd (HE.symm.trans h) (by decide),fun _=>rfl⟩
    | true =>
     have HA2:Hid (YO q 0 (fs.take (k+1))=true):=Xa (by rw[HT1.out,HA.out,HOK.out,hd];rfl);have HD:=Xa hd;clear hd
     go_wp2_with first
      | (go_at_call 65;refine HRI.mono ?_;rintro e w3 ⟨rfl,hb3⟩;rw[HD.out];have HB3:=Xa (HBw.trans (hb3.mono hwz));have HO3:=Xa (Th HO.out hb3);have HX3:=Xa (hb3.block w.heap.size hsz);have hsz3:w.heap.size<w3.heap.size:=Nat.lt_of_lt_of_le hsz hb3.size;clear hb3)
      | (at_builtin;refine wpList_append_own_at _ rfl _ _ 44 rfl (w.heap.size+1) 2 i0 (.int .i64 0) 1 8 Tryz.underlying44 hi0 hz0 hz1 hz2 rfl (by decide) _ _ _ rfl (HO3.alloc _) ⟨w3.heap.size,0,none⟩ 1 1 [.int .i64 (numV f 4)] rfl rfl ?c1d ?c2d ?c3d ?c4d ?c5d ?_)
     case c1d=>exact Vo w3 _
     case c2d=>exact Uh _
     case c3d=>unfold maxLen;omega
     case c4d=>omega
     case c5d=>first | omega | (simp;omega)
     intro v1 w1 hown1 hgrow1 hne1 hat1;have HO1:Hid (w1.ownsRow (w.heap.size+1) 2 1 v1 (k+1) ((Y9 q 0 (fs.take (k+1))).map (Value.int .i64))):=Xa (by rw[HT2.out,HVA.out,Z1];exact hown1);have HB1:Hid (Below w.heap.size w w1):=Xa (XG (Xb HB3.out _) hgrow1 (HO3.alloc _) (by omega) (by rw[XP];omega));have hbk:=(YP hgrow1 (HO3.alloc _) (Nat.lt_succ_self w.heap.size) (by rw[XP];omega)).trans ((Below.heap_alloc w3 _ w.heap.size hsz3).trans HX3.out);have c0:w1.cell? ⟨w.heap.size,0,none⟩=_:=(Xc hbk).trans hcr;have c1:w1.cell? ⟨w.heap.size,1,none⟩=_:=(Xc hbk).trans hcc;have hs1:w.heap.size<w1.heap.size:=Nat.lt_of_lt_of_le (by rw[XP];omega) hgrow1.size;clear hown1 hgrow1 hne1 hat1 hbk;go_wp2;exact⟨⟨k+1,by omega,by go_num,HB1,hs1,c0,c1,HA2,HO1⟩,by simp[intOf];omega⟩
  ·have hkl:fs.take k=fs:=List.take_of_length_le (by have:=hx.out;omega)
   have HANS:Hid (Zas w.heap.size wr q fs (.returned (.tuple #[u6,.bool true]))):=Xa ⟨fun _=>⟨u6,rfl,by have:=HO.out;rw[hkl,show k=fs.length by have:=hx.out;omega]at this;exact Yn this (Nat.le_succ _)⟩,fun h=>by have:=HA.out;rw[hkl,h]at this;exact absurd this (by decide)⟩;go_wp2;refine bodyPost_ret (v:=.tuple #[u6,.bool true]) (by simp[results,Tryz.results85,go_sem]) rfl ⟨HBw.out,HANS.out⟩
end Go.Proofs.YtkehcdfalcakmaaGreatDoor
namespace Go.Proofs.YtkehcdfalcakmaaGreatDoor
open Go.RowKit Go.Shelf Go.Maps
theorem WK(q:Nat->Bool):∀(r:List (List UInt8))(i:Nat),YO q i r=(List.range r.length).all (fun j=>match r[j]? with | some f=>Up (q (i+j)) f | none=>true)
 | [],_=>rfl
 | f::r,i=>by
  rw[YO,List.length_cons,List.range_succ_eq_map,List.all_cons,List.all_map,WK q r (i+1)];congr 1;congr 1;funext j;simp only[Function.comp,List.getElem?_cons_succ];rw[show i+1+j=i+(j+1) by omega]
theorem Zfq(f:List UInt8):decide (0<=Jz f)=digitsOk f 4:=by
 unfold Jz;cases h:digitsOk f 4 with
 | true=>rw[if_pos rfl];simp
 | false=>rw[if_neg (by decide)];rfl
theorem Zh9(w:List UInt8)(r:List (List UInt8))(i:Nat)(f:List UInt8):Zbw (w::r) (i+1) f=Up (decide (w=wConst)&&decide (i=1)) f:=by
 unfold Zbw Up;by_cases h:w=wConst
 ·by_cases h1:i=1
  ·rw[if_pos ⟨by rw[h];rfl,by omega⟩];simp[h,h1]
  ·rw[if_neg (fun q=>h1 (by omega)),Zfq];simp[h1]
 ·rw[if_neg (fun q=>h (Option.some.inj q.1)),Zfq];simp[h]
theorem Ze9(w:List UInt8)(r:List (List UInt8)):KI (w::r) r.length=YO (fun i=>decide (w=wConst)&&decide (i=1)) 0 r:=by
 rw[WK];unfold KI;congr 1;funext i;rw[List.getElem?_cons_succ];cases r[i]? with
 | none=>rfl
 | some f=>simp only[Zh9,Nat.zero_add]
theorem VB{q q':Nat->Bool}(h:∀i,q i=q' i):∀(r:List (List UInt8))(i:Nat),YO q i r=YO q' i r
 | [],_=>rfl
 | f::r,i=>by rw[YO,YO,h i,VB h r]
theorem ZdN(k:Nat)(h1:1<=k)(h2:k<=10):(ZE k).size=cntI k:=by
 have hc:k=1\/k=2\/k=3\/k=4\/k=5\/k=6\/k=7\/k=8\/k=9\/k=10:=by omega
 rcases hc with rfl | rfl | rfl | rfl | rfl | rfl | rfl | rfl | rfl | rfl<;>decide
theorem Wy(w:List UInt8)(n:Nat):match ZD w with
 | none=>JV w (n+1)=0
 | some (ro,co)=>JV w (n+1)≠0/\(Yy ro co n=true↔n+1=JV w (n+1))/\(Yy ro co n=true->∀i,conAt ro co n i=(decide (w=wConst)&&decide (i=1)))/\ro<=3/\(ro=2->1<=co/\co<=10)/\(ro=3->1<=co/\co<=3):=by
 unfold ZD JV;by_cases h0:YW w=0
 ·have hcw:w≠wConst:=fun e=>by subst e;exact absurd h0 (by decide)
  rw[if_neg (fun q:YW w≠0=>q h0),if_neg (fun q:YW w≠0=>q h0)];by_cases e5:w=Yw
  ·subst e5
   rw[if_pos rfl,if_pos rfl];refine⟨by decide,?_,fun _ i=>by simp[conAt,hcw],by decide,by decide,by decide⟩;simp[Yy]
  ·rw[if_neg e5,if_neg e5]
   by_cases e4:w=wPhi
   ·subst e4
    rw[if_pos rfl,if_neg (by decide),if_neg (by decide),if_neg (by decide),if_pos rfl];refine⟨by split<;>omega,?_,fun _ i=>by simp[conAt,hcw],by decide,by decide,by decide⟩;simp only[Yy];split<;>simp<;>omega
   ·rw[if_neg e4]
    by_cases e3:w=Jx
    ·subst e3
     rw[if_pos rfl,if_pos rfl];refine⟨by decide,?_,fun _ i=>by simp[conAt,hcw],by decide,by decide,by decide⟩;show((n==cntT 1)=true)↔_;rw[show cntT 1=1 by decide];simp
    ·rw[if_neg e3,if_neg e3]
     by_cases e2:w=YL
     ·subst e2
      rw[if_pos rfl,if_neg (by decide),if_pos rfl];refine⟨by decide,?_,fun _ i=>by simp[conAt,hcw],by decide,by decide,by decide⟩;show((n==cntT 2)=true)↔_;rw[show cntT 2=3 by decide];simp
     ·rw[if_neg e2]
      by_cases e1:w=TQ
      ·subst e1
       rw[if_pos rfl,if_pos rfl];refine⟨by decide,?_,fun _ i=>by simp[conAt,hcw],by decide,by decide,by decide⟩;show((n==cntT 3)=true)↔_;rw[show cntT 3=1 by decide];simp
      ·rw[if_neg e1,if_neg e1,if_neg e2,if_neg e4]
 ·rw[if_pos h0,if_pos h0]
  obtain⟨⟨h1,h2⟩,_⟩:=VW h0;obtain⟨k,hk⟩:∃k:Nat,YW w=k:=⟨(YW w).toNat,by omega⟩;have k1:1<=k:=by omega
  have k2:k<=10:=by omega
  rw[hk,ZdN k k1 k2];refine⟨by omega,?_,fun ht i=>?_,by decide,fun _=>⟨by simpa using k1,by simpa using k2⟩,fun q=>absurd q (by decide)⟩
  ·show((n==cntI _)=true)↔_
   rw[beq_iff_eq,Int.toNat_natCast];omega
  ·have ht':n=cntI k:=by
    have:((n==cntI ((k:Int).toNat))=true):=ht;rw[beq_iff_eq,Int.toNat_natCast]at this;exact this
   rw[Int.toNat_natCast];rcases J9 w 10 1 with q | ⟨j,j1,j2,j3,j4⟩
   ·exact absurd q h0
   ·have ej:j=k:=by have:YW w=j:=j3;omega
    subst ej;by_cases hj:j=1
    ·subst hj
     have:w=wConst:=j4.symm;subst this;rw[ht'];show(decide _&&(decide _&&decide (i+1=cntI 1)))=_;rw[show cntI 1=2 by decide];simp
    ·have hcw:w≠wConst:=fun e=>by
      subst e;have:YW wConst=1:=by decide
      omega
     simp[conAt,hj,hcw]
theorem ZdE(w:List UInt8)(r:List (List UInt8)):XQ (w::r)=match ZD w with
 | none=>5
 | some (ro,co)=>if Yy ro co r.length=true then (if YO (conAt ro co r.length) 0 r=true then 0 else 7)else 6:=by
 have h:=Wy w r.length;unfold XQ;simp only[List.headD_cons,List.length_cons,Nat.add_sub_cancel];cases hw:ZD w with
 | none =>
  rw[hw]at h;rw[if_pos h]
 | some rc =>
  obtain⟨ro,co⟩:=rc;rw[hw]at h;obtain⟨a1,a2,a3,_⟩:=h;rw[if_neg a1];by_cases ht:Yy ro co r.length=true
  ·rw[if_neg (fun q=>q (a2.1 ht)),Ze9,VB (fun i=>(a3 ht i).symm)]
   simp only[ht,if_true]
  ·rw[if_pos (fun q=>ht (a2.2 q))]
   simp only[ht];rfl
end Go.Proofs.YtkehcdfalcakmaaGreatDoor
