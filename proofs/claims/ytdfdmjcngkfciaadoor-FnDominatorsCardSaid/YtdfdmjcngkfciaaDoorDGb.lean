import Derived.Test.YtdfdmjcngkfciaaDoorDG10
import Derived.Test.YtdfdmjcngkfciaaDoorPure
namespace Go.Proofs.YtdfdmjcngkfciaaDoor
open Go.RowKit
def topL:Code→List Code
 | .loop c=>[c]
 | .seq a b=>topL a++topL b
 | .block _ c=>topL c
 | .scope c=>topL c
 | .cond _ a b=>topL a++topL b
 | _=>[]
noncomputable def gB:Code:=(Tryd.f29.body.getD .skip)
noncomputable def gB1:Code:=(topL gB).getD 0 .skip
noncomputable def gB4:Code:=(topL gB).getD 1 .skip
noncomputable def gB2:Code:=(topL gB1).getD 0 .skip
noncomputable def gB3:Code:=(topL gB1).getD 1 .skip
noncomputable def gB5:Code:=(topL gB4).getD 0 .skip
noncomputable def gB6:Code:=(topL gB5).getD 0 .skip
theorem range_map (T:Type) (d:T):∀(tl:List T) (k:Nat) (f:Nat→T),(∀i (h:i<tl.length),f (k+i)=tl[i])→tl=(List.range' k tl.length).map f
 | [],_,_,_=>rfl
 | x::tl,k,f,h=>by
  rw [List.length_cons,List.range'_succ,List.map_cons]
  have h0:=h 0 (by simp)
  rw [Nat.add_zero,List.getElem_cons_zero] at h0
  rw [h0]
  congr 1
  exact range_map T d tl (k+1) f (fun i hi=>by have:=h (i+1) (by simpa using hi);rwa [List.getElem_cons_succ,show k+(i+1)=k+1+i by omega] at this)
set_option maxRecDepth 100000 in
theorem spr_list (f:Nat→Value):(List.range' 24 251).map f=(f 24::f 25::f 26::f 27::f 28::f 29::f 30::f 31::f 32::f 33::f 34::f 35::f 36::f 37::f 38::f 39::f 40::f 41::f 42::f 43::f 44::f 45::f 46::f 47::f 48::f 49::f 50::f 51::f 52::f 53::f 54::f 55::f 56::f 57::f 58::f 59::f 60::f 61::f 62::f 63::f 64::f 65::f 66::f 67::f 68::f 69::f 70::f 71::f 72::f 73::f 74::f 75::f 76::f 77::f 78::f 79::f 80::f 81::f 82::f 83::f 84::f 85::f 86::f 87::f 88::f 89::f 90::f 91::f 92::f 93::f 94::f 95::f 96::f 97::f 98::f 99::f 100::f 101::f 102::f 103::f 104::f 105::f 106::f 107::f 108::f 109::f 110::f 111::f 112::f 113::f 114::f 115::f 116::f 117::f 118::f 119::f 120::f 121::f 122::f 123::f 124::f 125::f 126::f 127::f 128::f 129::f 130::f 131::f 132::f 133::f 134::f 135::f 136::f 137::f 138::f 139::f 140::f 141::f 142::f 143::f 144::f 145::f 146::f 147::f 148::f 149::f 150::f 151::f 152::f 153::f 154::f 155::f 156::f 157::f 158::f 159::f 160::f 161::f 162::f 163::f 164::f 165::f 166::f 167::f 168::f 169::f 170::f 171::f 172::f 173::f 174::f 175::f 176::f 177::f 178::f 179::f 180::f 181::f 182::f 183::f 184::f 185::f 186::f 187::f 188::f 189::f 190::f 191::f 192::f 193::f 194::f 195::f 196::f 197::f 198::f 199::f 200::f 201::f 202::f 203::f 204::f 205::f 206::f 207::f 208::f 209::f 210::f 211::f 212::f 213::f 214::f 215::f 216::f 217::f 218::f 219::f 220::f 221::f 222::f 223::f 224::f 225::f 226::f 227::f 228::f 229::f 230::f 231::f 232::f 233::f 234::f 235::f 236::f 237::f 238::f 239::f 240::f 241::f 242::f 243::f 244::f 245::f 246::f 247::f 248::f 249::f 250::f 251::f 252::f 253::f 254::f 255::f 256::f 257::f 258::f 259::f 260::f 261::f 262::f 263::f 264::f 265::f 266::f 267::f 268::f 269::f 270::f 271::f 272::f 273::f 274::[]):=rfl
set_option maxRecDepth 100000 in
theorem spr (tl:List Value) (h:tl.length=251):∃f:Nat→Value,tl=(f 24::f 25::f 26::f 27::f 28::f 29::f 30::f 31::f 32::f 33::f 34::f 35::f 36::f 37::f 38::f 39::f 40::f 41::f 42::f 43::f 44::f 45::f 46::f 47::f 48::f 49::f 50::f 51::f 52::f 53::f 54::f 55::f 56::f 57::f 58::f 59::f 60::f 61::f 62::f 63::f 64::f 65::f 66::f 67::f 68::f 69::f 70::f 71::f 72::f 73::f 74::f 75::f 76::f 77::f 78::f 79::f 80::f 81::f 82::f 83::f 84::f 85::f 86::f 87::f 88::f 89::f 90::f 91::f 92::f 93::f 94::f 95::f 96::f 97::f 98::f 99::f 100::f 101::f 102::f 103::f 104::f 105::f 106::f 107::f 108::f 109::f 110::f 111::f 112::f 113::f 114::f 115::f 116::f 117::f 118::f 119::f 120::f 121::f 122::f 123::f 124::f 125::f 126::f 127::f 128::f 129::f 130::f 131::f 132::f 133::f 134::f 135::f 136::f 137::f 138::f 139::f 140::f 141::f 142::f 143::f 144::f 145::f 146::f 147::f 148::f 149::f 150::f 151::f 152::f 153::f 154::f 155::f 156::f 157::f 158::f 159::f 160::f 161::f 162::f 163::f 164::f 165::f 166::f 167::f 168::f 169::f 170::f 171::f 172::f 173::f 174::f 175::f 176::f 177::f 178::f 179::f 180::f 181::f 182::f 183::f 184::f 185::f 186::f 187::f 188::f 189::f 190::f 191::f 192::f 193::f 194::f 195::f 196::f 197::f 198::f 199::f 200::f 201::f 202::f 203::f 204::f 205::f 206::f 207::f 208::f 209::f 210::f 211::f 212::f 213::f 214::f 215::f 216::f 217::f 218::f 219::f 220::f 221::f 222::f 223::f 224::f 225::f 226::f 227::f 228::f 229::f 230::f 231::f 232::f 233::f 234::f 235::f 236::f 237::f 238::f 239::f 240::f 241::f 242::f 243::f 244::f 245::f 246::f 247::f 248::f 249::f 250::f 251::f 252::f 253::f 254::f 255::f 256::f 257::f 258::f 259::f 260::f 261::f 262::f 263::f 264::f 265::f 266::f 267::f 268::f 269::f 270::f 271::f 272::f 273::f 274::[]):=by
 have e:=range_map Value undef tl 24 (fun i=>tl.getD (i-24) undef) (fun i hi=>by simp [hi])
 rw [h] at e
 exact ⟨fun i=>tl.getD (i-24) undef,e.trans (spr_list _)⟩
end Go.Proofs.YtdfdmjcngkfciaaDoor

namespace Go.Proofs.YtdfdmjcngkfciaaDoor
open Go.RowKit
theorem Tryd.infoPhiD:(Tryd.prog.info? 72).map (fun i=>(i.zero,i.size,i.bytes))=some (some (.agg #[.int .i64 0,.slice none 0 0]),2,32):=by kernel_rfl
structure X2 where
 j:Nat
 vv:Value
 tl:List Value
set_option maxHeartbeats 4000000 in
set_option maxRecDepth 100000 in
theorem lp2 {Q:Exit→Act→World→Prop} (w:World) (sb B:Nat) (s:Sr) (v:Nat) (gd:GdR) (fb G c:Nat) (ve vi:Value) (ids:List Int) (xb:Nat) (t:Ter) (near:Bool) (vs0:List Int) (pc:Nat) (c1 c2 c3 c4 c5 c8 c9 c10 c11 c14 c17 c18 c19 c20 c21 c22 c23:Value) (hpc:pc≤3) (hv:v≤5000) (hvs:vs0.length≤4000)
  (hexit:∀(vv:Value) (tl:List Value) (w':World),tl.length=251→GoS w w' sb B s (v+pc) gd fb G c ve vi ids xb t (phG pc v) [] vv (vs0++vsB pc v)→Q (.exit 2) ⟨(.pointer (some ⟨sb,0,none⟩)::c1::c2::c3::c4::c5::.bool near::.pointer (some ⟨fb,0,none⟩)::c8::c9::c10::c11::vv::.pointer (some ⟨xb,0,none⟩)::c14::.int .i64 ((pc:Nat):Int)::.int .i64 ((pc:Nat):Int)::c17::c18::c19::c20::c21::c22::c23::tl).toArray,[]⟩ w')
  (vv:Value) (tl:List Value) (wr:World) (hl:tl.length=251) (h:Hid (GoS w wr sb B s v gd fb G c ve vi ids xb t [] [] vv vs0)) :
  Code.wp Tryd.prog (Code.loop gB2) Q ⟨(.pointer (some ⟨sb,0,none⟩)::c1::c2::c3::c4::c5::.bool near::.pointer (some ⟨fb,0,none⟩)::c8::c9::c10::c11::vv::.pointer (some ⟨xb,0,none⟩)::c14::.int .i64 ((pc:Nat):Int)::.int .i64 ((0:Nat):Int)::c17::c18::c19::c20::c21::c22::c23::tl).toArray,[]⟩ wr:=by
 have HX:=hide hexit
 clear hexit
 obtain ⟨i0,hi0,hz0,hz1,hz2⟩:=info_three Tryd.infoPhiD
 obtain ⟨j0,hj0,hy0,hy1,hy2⟩:=info_three Tryd.info2'
 refine wp_loop (fun a' wr=>∃x:X2,a'=⟨(.pointer (some ⟨sb,0,none⟩)::c1::c2::c3::c4::c5::.bool near::.pointer (some ⟨fb,0,none⟩)::c8::c9::c10::c11::x.vv::.pointer (some ⟨xb,0,none⟩)::c14::.int .i64 ((pc:Nat):Int)::.int .i64 ((x.j:Nat):Int)::c17::c18::c19::c20::c21::c22::c23::x.tl).toArray,[]⟩∧x.tl.length=251∧x.j≤pc∧Hid (GoS w wr sb B s (v+x.j) gd fb G c ve vi ids xb t (phG x.j v) [] x.vv (vs0++vsB x.j v))) (fun a' _=>pc-(intOf (a'.tmps.getD 16 undef)).toNat) ⟨⟨0,vv,tl⟩,rfl,hl,Nat.zero_le _,hide (by
  have:=h.out
  simpa [phG,vsB] using this)⟩ ?_
 clear h hl
 rintro a' wr ⟨⟨j,vv,tl⟩,rfl,hl,hj,HS⟩
 dsimp only at hl hj HS ⊢
 conv=>arg 2;whnf
 obtain ⟨f,rfl⟩:=spr tl hl
 clear hl
 obtain ⟨lab,pv,iv,av,ev,p,q,hb⟩:=HS.out
 obtain ⟨pa,pcap,rfl⟩:=hb.x.xp.form
 have HB:=hide hb
 clear hb
 rw [phG_len] at HB
 have x0:wr.cell? ⟨xb,0,none⟩=some (.slice pa j pcap):=Bx.cell HB.out.x.bx rfl
 obtain ⟨⟨f1,f0,fz⟩,hsz,hxl,hfl,hxf⟩:=HS.out.fn
 by_cases hlt:j<pc
 ·have hltI:(j:Int)<pc:=by omega
  have HV:Hid (∃a ln n,vv=.slice a ln n∧ln=(vs0++vsB j v).length):=hide (by obtain ⟨_,a,n,e,_⟩:=HS.out.vals;exact ⟨a,_,n,e,rfl⟩)
  have HPL:Hid ((phG j v).length=j∧(vs0++vsB j v).length=vs0.length+j):=hide ⟨phG_len _ _,by rw [List.length_append,vsB_len]⟩
  go_wp2_with (at_builtin;refine wpList_append_own_at _ rfl _ _ 36 rfl w.heap.size 72 i0 (.agg #[.int .i64 0,.slice none 0 0]) 2 32 Tryd.underlying36 hi0 hz0 hz1 hz2 rfl (by decide) _ (phG j v).length (phsV nilV (phG j v)) rfl (HB.out.x.xp.own.alloc _) ⟨wr.heap.size,0,none⟩ 1 1 [.int .i64 ((v:Int)+(j:Int)),.slice none 0 0] rfl rfl (World.news_of_block (World.alloc_heap_new _ _)) ?c2 ?c3 ?c4 ?c5 ?_)
  case c2=>intro u hu;simp at hu;rcases hu with rfl | rfl<;>rfl
  case c3=>unfold maxLen;have:=HPL.out;omega
  case c4=>have:=HPL.out;omega
  case c5=>simp;omega
  intro v8 w8 hown8 hg8 hne8 hat8
  obtain ⟨hx8,lab',hb9⟩:=(HB.out.box _).pushP hg8 hown8 rfl (by rw [World.size_alloc];exact hat8)
  obtain ⟨g8,c8',rfl,hgb,hcap⟩:=own_some' hown8 (by omega)
  have HB9:=hide hb9
  clear hgb hcap hne8 hat8 hown8 hg8 hb9 x0 f1 f0 fz HS
  have k0:w8.cell? ⟨xb,0,none⟩=some (.slice pa j pcap):=Bx.cell hx8 rfl
  have kz:=Bx.thaw hx8
  have HX8:=hide hx8
  clear hx8
  have f0':(w8.setCell ⟨xb,0,none⟩ (.slice (some ⟨g8,0,none⟩) ((phG j v).length+1) c8')).cell? ⟨fb,0,none⟩=some (.int .i64 ((v:Int)+(j:Int))):=by
   have:=Bx.cell (q:=0) HB9.out.f.fbx rfl
   simpa using this
  have hfz':=Bx.thaw HB9.out.f.fbx
  have hs9:=HB9.out.f.gr.size
  rw [size_setCell] at hs9
  obtain ⟨va,ln,vc,rfl,hln⟩:=HV.out
  have HLN:=hide hln
  clear hln HV
  rw [HPL.out.1] at *
  go_wp2_with (at_builtin;refine wpList_append_own_at _ rfl _ _ 29 rfl w.heap.size 2 j0 (.int .i64 0) 1 8 Tryd.underlying29 hj0 hy0 hy1 hy2 rfl (by decide) _ (vs0++vsB j v).length (intsV (vs0++vsB j v)) rfl (HB9.out.x.xv.own.alloc _) ⟨w8.heap.size,0,none⟩ 1 1 [.int .i64 ((v:Int)+(j:Int))] rfl rfl ?c1 ?c2 ?c3 ?c4 ?c5 ?_)
  case c2=>rfl
  case c3=>unfold maxLen;have:=vsB_len j v;omega
  case c4=>have:=vsB_len j v;omega
  case c5=>omega
  intro v9 w9 hown9 hg9 hne9 hat9
  obtain ⟨lab2,hb10⟩:=(HB9.out.box _).pushV hg9 hown9 (by simp) (by rw [World.size_alloc,size_setCell];exact hat9)
  obtain ⟨g9,c9',rfl,hgb,hcap⟩:=own_some' hown9 (by omega)
  have HB10:=hide hb10
  clear hgb hcap hne9 hat9 hown9 hg9 hb10 f0' hfz' k0 kz
  have f0'':w9.cell? ⟨fb,0,none⟩=some (.int .i64 ((v:Int)+(j:Int))):=by
   have:=Bx.cell (q:=0) HB10.out.f.fbx rfl
   simpa using this
  have hfz'':=Bx.thaw HB10.out.f.fbx
  go_wp2_with fail
  refine ⟨⟨⟨j+1,_,_⟩,rfl,rfl,(by show j+1≤pc;omega),hide ?_⟩,by simp [intOf];omega⟩
  have hfin:=HB10.out.val (v+(j+1))
  rw [phG_succ,vsB_succ,←List.append_assoc]
  rw [show ((v+(j+1):Nat):Int)=(v:Int)+(j:Int)+1 by omega] at hfin
  exact ⟨_,_,_,_,_,_,_,hfin⟩
 ·have hltI:¬(j:Int)<pc:=by omega
  have hje:j=pc:=by omega
  subst hje
  go_wp2_with fail
  exact HX.out _ _ _ rfl HS.out
end Go.Proofs.YtdfdmjcngkfciaaDoor

namespace Go.Proofs.YtdfdmjcngkfciaaDoor
open Go.RowKit
theorem Tryd.infoInsD:(Tryd.prog.info? 68).map (fun i=>(i.zero,i.size,i.bytes))=some (some (.agg #[.int .i64 0,.int .i64 0,.int .i64 0,.int .i64 0,.int .i64 0]),5,40):=by kernel_rfl
structure X3 where
 j:Nat
 k:Nat
 s:Sr
 vs:List Int
 v:Nat
 is:List Ins
 vv:Value
 c19:Value
 tl:List Value
set_option maxHeartbeats 4000000 in
set_option maxRecDepth 100000 in
theorem lp3 {Q:Exit→Act→World→Prop} (w:World) (sb B:Nat) (gd:GdR) (fb G c:Nat) (ve vi:Value) (ids:List Int) (xb:Nat) (t:Ter) (ps:List Ph) (near:Bool) (cnt:Nat) (s0:Sr) (vs0:List Int) (v0:Nat) (is0:List Ins) (c1 c2 c3 c4 c5 c8 c9 c10 c11 c14 c15 c16 c20 c21 c22 c23:Value) (hpc:cnt≤10) (hv:v0≤4000) (hvs:vs0.length≤4000) (his:is0.length≤1000)
  (hexit:∀(s:Sr) (v:Nat) (vs:List Int) (is:List Ins) (vv c19:Value) (tl:List Value) (w':World),tl.length=251→(is,vs,v,s)=insG near cnt s0 vs0 v0 is0→GoS w w' sb B s v gd fb G c ve vi ids xb t ps is vv vs→Q (.exit 4) ⟨(.pointer (some ⟨sb,0,none⟩)::c1::c2::c3::c4::c5::.bool near::.pointer (some ⟨fb,0,none⟩)::c8::c9::c10::c11::vv::.pointer (some ⟨xb,0,none⟩)::c14::c15::c16::.int .i64 ((cnt:Nat):Int)::.int .i64 ((cnt:Nat):Int)::c19::c20::c21::c22::c23::tl).toArray,[]⟩ w')
  (vv c19:Value) (tl:List Value) (wr:World) (hl:tl.length=251) (h:Hid (GoS w wr sb B s0 v0 gd fb G c ve vi ids xb t ps is0 vv vs0)) :
  Code.wp Tryd.prog (Code.loop gB3) Q ⟨(.pointer (some ⟨sb,0,none⟩)::c1::c2::c3::c4::c5::.bool near::.pointer (some ⟨fb,0,none⟩)::c8::c9::c10::c11::vv::.pointer (some ⟨xb,0,none⟩)::c14::c15::c16::.int .i64 ((cnt:Nat):Int)::.int .i64 ((0:Nat):Int)::c19::c20::c21::c22::c23::tl).toArray,[]⟩ wr:=by
 have HX:=hide hexit
 clear hexit
 obtain ⟨i0,hi0,hz0,hz1,hz2⟩:=info_three Tryd.infoInsD
 obtain ⟨j0,hj0,hy0,hy1,hy2⟩:=info_three Tryd.info2'
 refine wp_loop (fun a' wr=>∃x:X3,a'=⟨(.pointer (some ⟨sb,0,none⟩)::c1::c2::c3::c4::c5::.bool near::.pointer (some ⟨fb,0,none⟩)::c8::c9::c10::c11::x.vv::.pointer (some ⟨xb,0,none⟩)::c14::c15::c16::.int .i64 ((cnt:Nat):Int)::.int .i64 ((x.j:Nat):Int)::x.c19::c20::c21::c22::c23::x.tl).toArray,[]⟩∧x.tl.length=251∧x.j+x.k=cnt∧Hid (insG near x.k x.s x.vs x.v x.is=insG near cnt s0 vs0 v0 is0)∧Hid (x.v≤v0+x.j∧x.vs.length≤vs0.length+x.j∧x.is.length≤is0.length+x.j)∧Hid (GoS w wr sb B x.s x.v gd fb G c ve vi ids xb t ps x.is x.vv x.vs)) (fun a' _=>cnt-(intOf (a'.tmps.getD 18 undef)).toNat) ⟨⟨0,cnt,s0,vs0,v0,is0,vv,c19,tl⟩,rfl,hl,by show 0+cnt=cnt;omega,hide rfl,hide ⟨Nat.le_refl _,Nat.le_refl _,Nat.le_refl _⟩,h⟩ ?_
 clear h hl
 rintro a' wr ⟨⟨j,k,s,vs,v,is,vv,c19,tl⟩,rfl,hl,hjk,HE,HV,HS⟩
 dsimp only at hl hjk HE HV HS ⊢
 conv=>arg 2;whnf
 obtain ⟨f,rfl⟩:=spr tl hl
 clear hl
 cases k with
 | succ k =>
  have hltI:(j:Int)<cnt:=by omega
  obtain ⟨⟨f1,f0,fz⟩,hsz,hxl,hfl,hxf⟩:=HS.out.fn
  obtain ⟨_,va,vc,ev,hva⟩:=HS.out.vals
  obtain ⟨ln,hln⟩:∃ln,ln=vs.length:=⟨_,rfl⟩
  rw [←hln] at ev
  subst ev
  have HLN:=hide hln
  clear hln
  have HVA:=hide hva
  clear hva
  have hv5:v≤5000:=by have:=HV.out;omega
  have hln5:ln≤5000:=by have:=HV.out;have:=HLN.out;omega
  go_wp2_with fail
  have hsbw:sb<w.heap.size:=by obtain ⟨lab,pv,iv,av,ev,p,q,hb⟩:=HS.out;exact hb.f.lt
  refine (instr_any sb B s va ln vc vs w.heap.size wr.heap.size v near wr (hide HS.out.dr) HVA HLN hln5 hsbw (Nat.le_refl _)).mono ?_
  rintro e w1 ⟨rfl,hd,hg⟩
  have HE2:Hid ((if dB (instrP s vs v near).1.op=true then insG near k (instrP s vs v near).2 (vs++[(v:Int)]) (v+1) (is++[(instrP s vs v near).1]) else insG near k (instrP s vs v near).2 vs v (is++[(instrP s vs v near).1]))=insG near cnt s0 vs0 v0 is0):=HE
  generalize instrP s vs v near=X at *
  obtain ⟨x,s'⟩:=X
  unfold Ins.agg
  dsimp only at hd HE2 ⊢
  have HS1:=hide (HS.out.call hg hd)
  clear hd hg HE HS HVA f1 f0 fz
  go_wp2_with fail
  have HS2:=hide (HS1.out.box (.cells #[.int .i64 x.op,.int .i64 x.dst,.int .i64 x.a,.int .i64 x.b,.int .i64 x.imm] 68))
  have HI:Hid (Bx (w1.alloc (.cells #[.int .i64 x.op,.int .i64 x.dst,.int .i64 x.a,.int .i64 x.b,.int .i64 x.imm] 68)) w1.heap.size #[.int .i64 x.op,.int .i64 x.dst,.int .i64 x.a,.int .i64 x.b,.int .i64 x.imm] 68):=hide (Bx.new _ _ _)
  have HIN:Hid (w1.heap.size≠fb∧w1.heap.size≠xb):=hide (by have:=HS1.out.fn;omega)
  clear HS1
  generalize w1.alloc (.cells #[.int .i64 x.op,.int .i64 x.dst,.int .i64 x.a,.int .i64 x.b,.int .i64 x.imm] 68)=w2 at *
  generalize w1.heap.size=ib at *
  refine (usedD x.op w2).mono ?_
  rintro e w3 ⟨rfl,hw3⟩
  subst hw3
  go_upto_if 167 with fail
  go_cut [12] from 154 to 182 (fun c12 wx=>Hid (Bx wx ib #[.int .i64 x.op,.int .i64 x.dst,.int .i64 x.a,.int .i64 x.b,.int .i64 x.imm] 68)∧Hid (GoS w wx sb B s' (if dB x.op=true then v+1 else v) gd fb G c ve vi ids xb t ps is c12 (if dB x.op=true then vs++[(v:Int)] else vs)))
  case first =>
   cases hd:dB x.op with
   | false =>
    go_wp2_with fail
    go_meet
    rw [if_neg (by rw [hd];simp),if_neg (by rw [hd];simp)]
    exact ⟨HI,HS2⟩
   | true =>
    obtain ⟨⟨f1,f0,fz⟩,hsz2,-⟩:=HS2.out.fn
    go_wp2_with (at_builtin;refine wpList_append_own_at _ rfl _ _ 29 rfl w.heap.size 2 j0 (.int .i64 0) 1 8 Tryd.underlying29 hj0 hy0 hy1 hy2 rfl (by decide) _ vs.length (intsV vs) rfl (HS2.out.vals.1.alloc _) ⟨w3.heap.size,0,none⟩ 1 1 [.int .i64 (v:Int)] rfl rfl ?c1 ?c2 ?c3 ?c4 ?c5 ?_)
    case c1=>exact one_news _ _ _
    case c2=>intro u hu;simp at hu;subst hu;rfl
    case c3=>unfold maxLen;have:=HV.out;omega
    case c4=>have:=HV.out;omega
    case c5=>simp;omega
    intro v9 w9 hown9 hg9 hne9 hat9
    have HS9:=hide ((HS2.out.box _).pushV hg9 hown9 rfl (by rw [World.size_alloc];exact hat9))
    have HI9:=hide ((HI.out.box _).grown hg9 (fun e=>own_box HS2.out.vals.1 HI.out (by decide) e.symm))
    obtain ⟨g9,c9',rfl,hgb,hcap⟩:=own_some' hown9 (by omega)
    clear hgb hcap hne9 hat9 hown9 hg9 f0 fz f1
    obtain ⟨⟨f1,f0,fz⟩,-⟩:=HS9.out.fn
    go_wp2_with fail
    go_meet
    have hfin:=HS9.out.val (v+1)
    rw [show ((v+1:Nat):Int)=(v:Int)+1 by omega] at hfin
    rw [if_pos hd,if_pos hd]
    exact ⟨hide (HI9.out.other HIN.out.1),hide hfin⟩
  case rest =>
   obtain ⟨HIx,HSx⟩:=hcut
   clear HS2 HI
   have HVX:Hid ((if dB x.op=true then v+1 else v)≤v0+(j+1)∧(if dB x.op=true then vs++[(v:Int)] else vs).length≤vs0.length+(j+1)):=hide (by
    have:=HV.out
    split
    ·simp;omega
    ·omega)
   have HEX:Hid (insG near k s' (if dB x.op=true then vs++[(v:Int)] else vs) (if dB x.op=true then v+1 else v) (is++[x])=insG near cnt s0 vs0 v0 is0):=hide (by
    rw [←HE2.out]
    split<;>rfl)
   generalize (if dB x.op=true then v+1 else v)=v1 at *
   generalize (if dB x.op=true then vs++[(v:Int)] else vs)=vs1 at *
   clear HE2
   obtain ⟨lab,pv,iv,av,ev,p,q,hb⟩:=HSx.out
   obtain ⟨qa,qcap,hq⟩:=hb.x.xi.form
   obtain ⟨il,hil⟩:∃il,il=is.length:=⟨_,rfl⟩
   rw [←hil] at hq
   subst hq
   have HIL:=hide hil
   clear hil
   have x1:wc.cell? ⟨xb,1,none⟩=some (.slice qa il qcap):=Bx.cell hb.x.bx rfl
   have b0:wc.cell? ⟨ib,0,none⟩=some (.int .i64 x.op):=Bx.cell HIx.out rfl
   have b1:wc.cell? ⟨ib,1,none⟩=some (.int .i64 x.dst):=Bx.cell HIx.out rfl
   have b2:wc.cell? ⟨ib,2,none⟩=some (.int .i64 x.a):=Bx.cell HIx.out rfl
   have b3:wc.cell? ⟨ib,3,none⟩=some (.int .i64 x.b):=Bx.cell HIx.out rfl
   have b4:wc.cell? ⟨ib,4,none⟩=some (.int .i64 x.imm):=Bx.cell HIx.out rfl
   have HB:=hide hb
   have hwz:=hb.f.gr.size
   clear hb
   go_wp2_with (at_builtin;refine wpList_append_own_at _ rfl _ _ 37 rfl w.heap.size 68 i0 (.agg #[.int .i64 0,.int .i64 0,.int .i64 0,.int .i64 0,.int .i64 0]) 5 40 Tryd.underlying37 hi0 hz0 hz1 hz2 rfl (by decide) _ is.length (inssV is) rfl (HB.out.x.xi.own.alloc _) ⟨wc.heap.size,0,none⟩ 1 1 [.int .i64 x.op,.int .i64 x.dst,.int .i64 x.a,.int .i64 x.b,.int .i64 x.imm] rfl rfl (World.news_of_block (World.alloc_heap_new _ _)) ?c2 ?c3 ?c4 ?c5 ?_)
   case c2=>intro u hu;simp at hu;rcases hu with rfl | rfl | rfl | rfl | rfl<;>rfl
   case c3=>unfold maxLen;have:=HV.out;omega
   case c4=>have:=HV.out;omega
   case c5=>simp;omega
   intro v8 w8 hown8 hg8 hne8 hat8
   obtain ⟨hx8,lab',hb9⟩:=(HB.out.box _).pushI hg8 hown8 rfl (by rw [World.size_alloc];exact hat8)
   obtain ⟨g8,c8',rfl,hgb,hcap⟩:=own_some' hown8 (by omega)
   have HB9:=hide hb9
   clear hgb hcap hne8 hat8 hown8 hg8 hb9 x1 b0 b1 b2 b3 b4
   have k0:w8.cell? ⟨xb,1,none⟩=some (.slice qa il qcap):=Bx.cell hx8 rfl
   have kz:=Bx.thaw hx8
   have HX8:=hide hx8
   clear hx8
   go_wp2_with fail
   refine ⟨⟨⟨j+1,k,s',vs1,v1,is++[x],_,_,_⟩,rfl,rfl,(by show j+1+k=cnt;omega),HEX,hide ⟨HVX.out.1,HVX.out.2,?_⟩,hide ⟨_,_,_,_,_,_,_,HB9.out⟩⟩,by simp [intOf];omega⟩
   have:=HV.out
   show (is++[x]).length≤is0.length+(j+1)
   simp
   omega
 | zero =>
  have hltI:¬(j:Int)<cnt:=by omega
  have hje:j=cnt:=by omega
  subst hje
  go_wp2_with fail
  exact HX.out _ _ _ _ _ _ _ _ rfl HE.out HS.out
end Go.Proofs.YtdfdmjcngkfciaaDoor
