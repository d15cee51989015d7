import Derived.Test.YtkehcdfalcakmaaGreatDoorSPa
import Derived.Test.YtkehcdfalcakmaaGreatDoorDRb
namespace Go.Proofs.YtkehcdfalcakmaaGreatDoor
set_option maxRecDepth 100000
open Go.RowKit
noncomputable def tB:Code:=(Tryz.f75.body.getD .skip)
noncomputable def tB1:Code:=(JN tB).getD 0 .skip
noncomputable def tB2:Code:=(JN tB).getD 1 .skip
noncomputable def tB3:Code:=(JN tB2).getD 0 .skip
noncomputable def tB4:Code:=(JN tB3).getD 0 .skip
noncomputable def tB5:Code:=(JN tB4).getD 0 .skip
theorem ZcA(f:Nat->Value):(List.range' 15 134).map f=(f 15::f 16::f 17::f 18::f 19::f 20::f 21::f 22::f 23::f 24::f 25::f 26::f 27::f 28::f 29::f 30::f 31::f 32::f 33::f 34::f 35::f 36::f 37::f 38::f 39::f 40::f 41::f 42::f 43::f 44::f 45::f 46::f 47::f 48::f 49::f 50::f 51::f 52::f 53::f 54::f 55::f 56::f 57::f 58::f 59::f 60::f 61::f 62::f 63::f 64::f 65::f 66::f 67::f 68::f 69::f 70::f 71::f 72::f 73::f 74::f 75::f 76::f 77::f 78::f 79::f 80::f 81::f 82::f 83::f 84::f 85::f 86::f 87::f 88::f 89::f 90::f 91::f 92::f 93::f 94::f 95::f 96::f 97::f 98::f 99::f 100::f 101::f 102::f 103::f 104::f 105::f 106::f 107::f 108::f 109::f 110::f 111::f 112::f 113::f 114::f 115::f 116::f 117::f 118::f 119::f 120::f 121::f 122::f 123::f 124::f 125::f 126::f 127::f 128::f 129::f 130::f 131::f 132::f 133::f 134::f 135::f 136::f 137::f 138::f 139::f 140::f 141::f 142::f 143::f 144::f 145::f 146::f 147::f 148::[]):=rfl
theorem K4(tl:List Value)(h:tl.length=134):∃f:Nat->Value,tl=(f 15::f 16::f 17::f 18::f 19::f 20::f 21::f 22::f 23::f 24::f 25::f 26::f 27::f 28::f 29::f 30::f 31::f 32::f 33::f 34::f 35::f 36::f 37::f 38::f 39::f 40::f 41::f 42::f 43::f 44::f 45::f 46::f 47::f 48::f 49::f 50::f 51::f 52::f 53::f 54::f 55::f 56::f 57::f 58::f 59::f 60::f 61::f 62::f 63::f 64::f 65::f 66::f 67::f 68::f 69::f 70::f 71::f 72::f 73::f 74::f 75::f 76::f 77::f 78::f 79::f 80::f 81::f 82::f 83::f 84::f 85::f 86::f 87::f 88::f 89::f 90::f 91::f 92::f 93::f 94::f 95::f 96::f 97::f 98::f 99::f 100::f 101::f 102::f 103::f 104::f 105::f 106::f 107::f 108::f 109::f 110::f 111::f 112::f 113::f 114::f 115::f 116::f 117::f 118::f 119::f 120::f 121::f 122::f 123::f 124::f 125::f 126::f 127::f 128::f 129::f 130::f 131::f 132::f 133::f 134::f 135::f 136::f 137::f 138::f 139::f 140::f 141::f 142::f 143::f 144::f 145::f 146::f 147::f 148::[]):=by
 have e:=JS Value undef tl 15 (fun i=>tl.getD (i-15) undef) (fun i hi=>by simp[hi]);rw[h]at e;exact⟨fun i=>tl.getD (i-15) undef,e.trans (ZcA _)⟩
def Jj(n:Nat)(was args:List Int)(z:Int)(m:Nat):List Int:=(List.range m).filterMap fun m=>if was.getD m 0=Jo z n then some (args.getD m 0)else none
theorem ZdS(n:Nat)(was args:List Int)(z:Int):Jj n was args z was.length=UV n was args z:=rfl
theorem ZeF{n:Nat}{was args:List Int}{z:Int}{m:Nat}(h:was.getD m 0=Jo z n):Jj n was args z (m+1)=Jj n was args z m++[args.getD m 0]:=by
 unfold Jj;rw[List.range_succ,List.filterMap_append,List.filterMap_cons,if_pos h];rfl
theorem ZfR{n:Nat}{was args:List Int}{z:Int}{m:Nat}(h:¬was.getD m 0=Jo z n):Jj n was args z (m+1)=Jj n was args z m:=by
 unfold Jj;rw[List.range_succ,List.filterMap_append,List.filterMap_cons,if_neg h];exact List.append_nil _
theorem ZdQ(n:Nat)(was args:List Int)(z:Int)(m:Nat):(Jj n was args z m).length<=m:=by
 unfold Jj;exact Nat.le_trans (List.length_filterMap_le _ _) (by simp)
structure TkS(w0 wr:World)(d:Int)(va:Value)(acc:List Int):Prop where
 low:Below w0.heap.size w0 wr
 box:Bx wr w0.heap.size #[.int .i64 d,va] 46
 own:wr.ownsRow (w0.heap.size+1) 2 1 va acc.length (Xo acc)
theorem TkS.push{w0 wr w':World}{d:Int}{va va':Value}{acc:List Int}{x:Int}{n':Nat}{o:Obj}(h:TkS w0 wr d va acc)(hg:(wr.alloc o).grownBy w' va.ownBlock)(ho:w'.ownsRow (w0.heap.size+1) 2 1 va' n' (Xo acc++[.int .i64 x]))(hn:n'=acc.length+1) :
 Bx w' w0.heap.size #[.int .i64 d,va] 46/\Below w0.heap.size w0 w'/\TkS w0 (w'.setCell ⟨w0.heap.size,1,none⟩ va') d va' (acc++[x]):=by
 have hl:=h.box.lt;have hlow:Below w0.heap.size w0 w':=(h.low.trans (Below.alloc (Below.refl _ _) (Nat.le_of_lt hl) o)).trans (XG (Below.refl _ _) hg (h.own.alloc o) (Nat.le_succ _) (by simp;omega));have hb:=(h.box.box o).grown hg (fun e=>by have:=(h.own.lt _ e.symm).1;omega);refine⟨hb,hlow,hlow.setCell (Nat.le_refl _) _,?_,?_⟩
 ·have:=hb.set 1 va'
  simpa using this
 ·subst hn
  have e:Xo (acc++[x])=Xo acc++[.int .i64 x]:=by simp[Xo]
  rw[e,List.length_append];exact ownsRow_setCell_below ho (by show w0.heap.size<_;omega) _
theorem TkS.drew{w0 wr:World}{d:Int}{va:Value}{acc:List Int}(h:TkS w0 wr d va acc):TkS w0 wr.drew d va acc:=⟨h.low.drew,h.box,h.own⟩
end Go.Proofs.YtkehcdfalcakmaaGreatDoor
namespace Go.Proofs.YtkehcdfalcakmaaGreatDoor
set_option maxHeartbeats 4000000
set_option maxRecDepth 100000
open Go.RowKit
structure T5 where
 m:Nat
 va:Value
 tl:List Value
theorem tn5{Q:Exit->Act->World->Prop}(w0:World)(L B n gb G gc gp np pc b j:Nat)(wa na aa:Option Addr)(wl wcap nl ncap al ac:Nat)(was now args:List Int)(d:Int)(c0 c1 c2 c5 c6 c10:Value)(k:Nat)(hQ:Hid (∀c (a:Act) t v w,Q (.panic c) (a.put (some t) v) w->Q (.panic c) a w))(hw:Hid (Xh w0 L B wa was))(hwl:Hid (wl=was.length))(hnw:Hid (Xh w0 L B na now))(hnl:Hid (nl=now.length))(hB:B<=w0.heap.size)(hg1:w0.cell? ⟨gb,1,none⟩=some (.slice (some ⟨G,0,none⟩) n gc))(hgb:gb<w0.heap.size)(hg2:w0.cell? ⟨G,b*6,none⟩=some (.slice (some ⟨gp,0,none⟩) np pc))(hG:G<w0.heap.size)(hg3:w0.cell? ⟨gp,j*2+1,none⟩=some (.slice aa al ac))(hgp:gp<w0.heap.size)(har:Hid (Xh w0 L B aa args))(hal:Hid (al=args.length))(hbn:b<n)(hn:n<=11)(hjp:j<np)(hwal:wl<=al)(hwlb:wl<=1000)(hk:k<now.length)(hz:Hid (0<=now[k]/\now[k]<=1000))(acc0:List Int)(ha0:acc0.length<=100000)
 (hexit:∀(va c14:Value)(tl:List Value)(w':World),tl.length=134->TkS w0 w' d va (acc0++UV n was args now[k])->Q (.exit 8) ⟨(c0::c1::c2::.int .i64 ((n:Nat):Int)::.pointer (some ⟨gb,0,none⟩)::c5::c6::.int .i64 ((b:Nat):Int)::.slice wa wl wcap::.slice na nl ncap::c10::.int .i64 ((j:Nat):Int)::.pointer (some ⟨w0.heap.size,0,none⟩)::.int .i64 ((k:Nat):Int)::c14::tl).toArray,[]⟩ w')
 (va:Value) (tl:List Value) (wr:World) (hl:tl.length=134) (h:Hid (TkS w0 wr d va acc0)) :
 Code.wp Tryz.prog (Code.loop tB5) Q ⟨(c0::c1::c2::.int .i64 ((n:Nat):Int)::.pointer (some ⟨gb,0,none⟩)::c5::c6::.int .i64 ((b:Nat):Int)::.slice wa wl wcap::.slice na nl ncap::c10::.int .i64 ((j:Nat):Int)::.pointer (some ⟨w0.heap.size,0,none⟩)::.int .i64 ((k:Nat):Int)::.int .i64 ((0:Nat):Int)::tl).toArray,[]⟩ wr:=by
 have HX:=Xa hexit;clear hexit;obtain⟨j0,hj0,hy0,hy1,hy2⟩:=X0 Tryz.info2';refine wp_loop (fun a' wr=>∃x:T5,a'=⟨(c0::c1::c2::.int .i64 ((n:Nat):Int)::.pointer (some ⟨gb,0,none⟩)::c5::c6::.int .i64 ((b:Nat):Int)::.slice wa wl wcap::.slice na nl ncap::c10::.int .i64 ((j:Nat):Int)::.pointer (some ⟨w0.heap.size,0,none⟩)::.int .i64 ((k:Nat):Int)::.int .i64 ((x.m:Nat):Int)::x.tl).toArray,[]⟩/\x.tl.length=134/\x.m<=wl/\Hid (TkS w0 wr d x.va (acc0++Jj n was args now[k] x.m))) (fun a' _=>wl-(intOf (a'.tmps.getD 14 undef)).toNat) ⟨⟨0,va,tl⟩,rfl,hl,Nat.zero_le _,Xa (by simpa [Jj]using h.out)⟩ ?_;clear h hl;rintro a' wr ⟨⟨m,va,tl⟩,rfl,hl,hm,HS⟩;dsimp only at hl hm HS |-
 conv=>arg 2;whnf
 obtain⟨f,rfl⟩:=K4 tl hl;clear hl;by_cases hlt:m<wl
 ·have hltI:(m:Int)<wl:=by omega
  have hmw:m<was.length:=by rw[<-hwl.out];exact hlt
  have hma:m<args.length:=by have:=hal.out;omega
  obtain⟨bw,ow,ewa,hbw,hcw⟩:=hw.out m hmw;obtain⟨bn,on_,ena,hbn2,hcn⟩:=hnw.out k hk;obtain⟨ba,oa,eaa,hba,hca⟩:=har.out m hma;subst ewa ena eaa;have kc:∀W,Below w0.heap.size w0 W->∀q o,q<w0.heap.size->W.cell? ⟨q,o,none⟩=w0.cell? ⟨q,o,none⟩:=fun W hW q o hq=>hW.cell (p:=⟨q,o,none⟩) hq
  have KC:=Xa kc;clear kc;have x1:=(KC.out _ HS.low bw (ow+m) (by omega)).trans hcw;have x2:=(KC.out _ HS.low bn (on_+k) (by omega)).trans hcn;have HTY:Hid (was.getD m 0=was[m]/\args.getD m 0=args[m]):=Xa ⟨by simp[hmw],by simp[hma]⟩;have hkn:k<nl:=by have:=hnl.out;omega
  have hmal:m<al:=by omega
  have HYY:=Xa (fun (h:was.getD m 0=Jo now[k] n)=>ZeF (n:=n) (was:=was) (args:=args) (z:=now[k]) (m:=m) h);have HNN:=Xa (fun (h:¬was.getD m 0=Jo now[k] n)=>ZfR (n:=n) (was:=was) (args:=args) (z:=now[k]) (m:=m) h);have HTL:=Xa (ZdQ n was args now[k] m);rw[HTY.1,HTY.2]at HYY;rw[HTY.1]at HNN;have hz1:=hz.1;have hz2:=hz.2;generalize now[k]=z at *;generalize was[m]=u at *;generalize hax:args[m]=ax at *;clear hax
  go_wp2_with fail
  refine YZ (fun w'=>w'.cell? ⟨bw,ow+m,none⟩=some (.int .i64 u)/\w'.cell? ⟨bn,on_+k,none⟩=some (.int .i64 z)) (fun hHeld=>?_);refine XI 0 ?_;refine XI 1 ?_;refine XI 2 ?_;refine XI 3 ?_;refine XI 4 ?_;refine XI 5 ?_;refine XI 6 ?_;refine XI 7 ?_;refine XI 8 ?_;refine Xw 9 (fun K hK=>?_);go_simp
  go_at_call 90
  refine(ZP z n _ hz1 (by omega) (by omega)).mono ?_;rintro e w1 ⟨rfl,hw1⟩;subst hw1;refine hK _ _ ⟨x1,x2⟩ (fun hHeld=>?_);clear hK;refine XI 10 ?_;refine Y7 ?_;clear hHeld;have HS1:=Xa HS.drew;generalize hwd:wr.drew=wd at *;have HWD:=Xa hwd;clear HS hwd;have x1:=(KC.out _ HS1.low bw (ow+m) (by omega)).trans hcw;by_cases hu:u=Jo z n
  ·have hub:(u==Jo z n)=true:=by simpa using hu
   have HTE:=Xa (HYY.out hu);clear hu;have y1:=(KC.out _ HS1.low gb 1 hgb).trans hg1;have y2:=(KC.out _ HS1.low G (b*6) hG).trans hg2;have y3:=(KC.out _ HS1.low gp (j*2+1) hgp).trans hg3;have y4:=(KC.out _ HS1.low ba (oa+m) (by omega)).trans hca;obtain⟨ua,uc,ul,hva,hul⟩:∃a c l,va=.slice a l c/\l=(acc0++Jj n was args z m).length:=by
    rcases HS1.own.2 with⟨e,h0⟩ | ⟨_,_,_,e,_⟩
    ·exact⟨none,0,0,e,h0.symm⟩
    ·exact⟨_,_,_,e,rfl⟩
   subst hva;have HUL:=Xa hul;clear hul;have hpx:wd.cell? ⟨w0.heap.size,1,none⟩=some (.slice ua ul uc):=Bx.cell HS1.box rfl;have hszd:=HS1.box.lt;have HNE:Hid (gb≠w0.heap.size/\G≠w0.heap.size/\gp≠w0.heap.size/\ba≠w0.heap.size):=Xa (by omega);have HAL:Hid ((acc0++Jj n was args z m).length<=200000):=Xa (by rw[List.length_append];have:=HTL.out;omega);have HD1:=Xa HS1.drew;have HTA:Hid ((acc0++Jj n was args z m)++[ax]=acc0++Jj n was args z (m+1)):=Xa (by rw[HTE.out,List.append_assoc]);generalize acc0++Jj n was args z m=A at *
   go_wp2_with fail
   refine YZ (fun w'=>w'.cell? ⟨gb,1,none⟩=some (.slice (some ⟨G,0,none⟩) n gc)/\w'.cell? ⟨G,b*6,none⟩=some (.slice (some ⟨gp,0,none⟩) np pc)/\w'.cell? ⟨gp,j*2+1,none⟩=some (.slice (some ⟨ba,oa,none⟩) al ac)/\w'.cell? ⟨ba,oa+m,none⟩=some (.int .i64 ax)) (fun hHeld=>?_);refine XI 0 ?_;refine XI 2 ?_;refine XI 3 ?_;refine XI 4 ?_;refine XI 5 ?_;refine XI 6 ?_;refine XI 7 ?_;refine XI 8 ?_;refine XI 9 ?_;refine XI 10 ?_;refine XI 11 ?_;refine XI 12 ?_;refine XI 13 ?_;refine XI 14 ?_;refine wpAnyH_ready (rs:=[1,15]) (by kernel_rfl) (by simp) ?_;refine(AllReadyH.cons rfl (fun K hK=>?_) (AllReadyH.cons rfl (fun K hK=>?_) AllReadyH.nil))
   focus
    go_simp;refine hK _ _ (by first | with_reducible exact hHeld | ((try dsimp only);go_keep)) (fun hHeld=>?_);clear hK
    try simp only[Act.put,xA,xB,xC,xD,xE,xF]
    refine Xw 15 (fun K hK=>?_);go_simp;refine hK _ _ (by first | with_reducible exact hHeld | ((try dsimp only);go_keep)) (fun hHeld=>?_);clear hK
   rotate_left
   focus
    go_simp;refine hK _ _ (by first | with_reducible exact hHeld | ((try dsimp only);go_keep)) (fun hHeld=>?_);clear hK
    try simp only[Act.put,xA,xB,xC,xD,xE,xF]
    refine Xw 1 (fun K hK=>?_);go_simp;refine hK _ _ (by first | with_reducible exact hHeld | ((try dsimp only);go_keep)) (fun hHeld=>?_);clear hK
   all_goals (
    refine Xw 16 (fun K hK=>?_);refine Zh rfl _ _ 44 rfl (w0.heap.size+1) 2 j0 (.int .i64 0) 1 8 Tryz.underlying44 hj0 hy0 hy1 hy2 rfl (by decide) (.slice ua ul uc) A.length (Xo A) rfl ?s1 ⟨wd.heap.size,0,none⟩ 1 1 [.int .i64 ax] rfl rfl ?s2 ?s3 ?s4 ?s5 ?s6 ?_
    case s1=>exact HD1.own.alloc _
    case s2=>exact YB wd.drew _ _
    case s3=>intro u hu;simp at hu;subst hu;rfl
    case s4=>unfold maxLen;have:=HAL.out;omega
    case s5=>have:=HAL.out;omega
    case s6=>simp;omega
    intro v8 w8 hown8 hg8 hne8 hat8;obtain⟨hb8,hl8,ht9⟩:=HD1.push hg8 hown8 rfl;have z1:=(KC.out _ hl8 gb 1 hgb).trans hg1;have z2:=(KC.out _ hl8 G (b*6) hG).trans hg2;have z3:=(KC.out _ hl8 gp (j*2+1) hgp).trans hg3;have z4:=(KC.out _ hl8 ba (oa+m) (by omega)).trans hca;obtain⟨g8,c8',rfl,hgb8,hcap⟩:=Xj hown8 (by omega);have k1:w8.cell? ⟨w0.heap.size,1,none⟩=some (.slice ua ul uc):=Bx.cell hb8 rfl;have kz:=Bx.thaw hb8;have HT9:=Xa ht9;clear hgb8 hcap hne8 hat8 hown8 hg8 ht9 hb8;refine hK _ _ ⟨z1,z2,z3,z4⟩ (fun hHeld=>?_);clear hK;refine XI 17 ?_;refine Xw 18 (fun K hK=>?_);go_simp;refine hK _ _ ⟨(Xc (Below.heap_setCell _ _ _ _ HNE.1)).trans z1,(Xc (Below.heap_setCell _ _ _ _ HNE.2.1)).trans z2,(Xc (Below.heap_setCell _ _ _ _ HNE.2.2.1)).trans z3,(Xc (Below.heap_setCell _ _ _ _ HNE.2.2.2)).trans z4⟩ (fun hHeld=>?_);clear hK;refine Y7 ?_;clear hHeld z1 z2 z3 z4 k1 kz
    go_wp2_with fail
    have hfin:=HT9.out;rw[HTA.out]at hfin;exact⟨⟨⟨m+1,_,_⟩,rfl,rfl,(by show m+1<=wl;omega),Xa hfin⟩,by simp[intOf];omega⟩)
  ·have hub:(u==Jo z n)=false:=by simpa using hu
   have HTE:=Xa (HNN.out hu);clear hu
   go_wp2_with fail
   refine⟨⟨⟨m+1,va,_⟩,rfl,rfl,(by show m+1<=wl;omega),Xa ?_⟩,by simp[intOf];omega⟩;rw[HTE.out];exact HS1.out
 ·have hltI:¬(m:Int)<wl:=by omega
  have hme:m=was.length:=by rw[<-hwl.out];omega
  have HF:Hid (TkS w0 wr d va (acc0++UV n was args now[k])):=Xa (by
   have:=HS.out;rw[hme,ZdS]at this;exact this)
  clear hme
  go_wp2_with fail
  exact HX.out va _ _ _ (by rfl) HF.out
structure T4 where
 k:Nat
 va:Value
 c14:Value
 tl:List Value
theorem Zfs{n:Nat}{was now args:List Int}{k:Nat}(hk:k<now.length):J4 n was (now.take (k+1)) args=J4 n was (now.take k) args++UV n was args now[k]:=by
 unfold J4;rw[List.take_succ_eq_append_getElem hk,List.flatMap_append];simp
theorem tn4{Q:Exit->Act->World->Prop}(w0:World)(L B n gb G gc gp np pc b j:Nat)(wa na aa:Option Addr)(wl wcap nl ncap al ac:Nat)(was now args:List Int)(d:Int)(c0 c1 c2 c5 c6 c10:Value)(hQ:Hid (∀c (a:Act) t v w,Q (.panic c) (a.put (some t) v) w->Q (.panic c) a w))(hw:Hid (Xh w0 L B wa was))(hwl:Hid (wl=was.length))(hnw:Hid (Xh w0 L B na now))(hnl:Hid (nl=now.length))(hB:B<=w0.heap.size)(hg1:w0.cell? ⟨gb,1,none⟩=some (.slice (some ⟨G,0,none⟩) n gc))(hgb:gb<w0.heap.size)(hg2:w0.cell? ⟨G,b*6,none⟩=some (.slice (some ⟨gp,0,none⟩) np pc))(hG:G<w0.heap.size)(hg3:w0.cell? ⟨gp,j*2+1,none⟩=some (.slice aa al ac))(hgp:gp<w0.heap.size)(har:Hid (Xh w0 L B aa args))(hal:Hid (al=args.length))(hbn:b<n)(hn:n<=11)(hjp:j<np)(hwal:wl<=al)(hwlb:wl<=1000)(hz:Hid (∀z∈now,0<=z/\z<=1000))(hlb:nl<=11/\wl<=11)
 (hexit:∀(va c13 c14:Value)(tl:List Value)(w':World),tl.length=134->TkS w0 w' d va (J4 n was now args)->Q (.exit 6) ⟨(c0::c1::c2::.int .i64 ((n:Nat):Int)::.pointer (some ⟨gb,0,none⟩)::c5::c6::.int .i64 ((b:Nat):Int)::.slice wa wl wcap::.slice na nl ncap::c10::.int .i64 ((j:Nat):Int)::.pointer (some ⟨w0.heap.size,0,none⟩)::c13::c14::tl).toArray,[]⟩ w')
 (va c14:Value) (tl:List Value) (wr:World) (hl:tl.length=134) (h:Hid (TkS w0 wr d va [])) :
 Code.wp Tryz.prog (Code.loop tB4) Q ⟨(c0::c1::c2::.int .i64 ((n:Nat):Int)::.pointer (some ⟨gb,0,none⟩)::c5::c6::.int .i64 ((b:Nat):Int)::.slice wa wl wcap::.slice na nl ncap::c10::.int .i64 ((j:Nat):Int)::.pointer (some ⟨w0.heap.size,0,none⟩)::.int .i64 ((0:Nat):Int)::c14::tl).toArray,[]⟩ wr:=by
 have HX:=Xa hexit;clear hexit;refine wp_loop (fun a' wr=>∃x:T4,a'=⟨(c0::c1::c2::.int .i64 ((n:Nat):Int)::.pointer (some ⟨gb,0,none⟩)::c5::c6::.int .i64 ((b:Nat):Int)::.slice wa wl wcap::.slice na nl ncap::c10::.int .i64 ((j:Nat):Int)::.pointer (some ⟨w0.heap.size,0,none⟩)::.int .i64 ((x.k:Nat):Int)::x.c14::x.tl).toArray,[]⟩/\x.tl.length=134/\x.k<=nl/\Hid (TkS w0 wr d x.va (J4 n was (now.take x.k) args))) (fun a' _=>nl-(intOf (a'.tmps.getD 13 undef)).toNat) ⟨⟨0,va,c14,tl⟩,rfl,hl,Nat.zero_le _,h⟩ ?_;clear h hl;rintro a' wr ⟨⟨k,va,c14,tl⟩,rfl,hl,hk,HS⟩;dsimp only at hl hk HS |-
 conv=>arg 2;whnf
 obtain⟨f,rfl⟩:=K4 tl hl;clear hl;by_cases hlt:k<nl
 ·have hltI:(k:Int)<nl:=by omega
  have hkn:k<now.length:=by rw[<-hnl.out];exact hlt
  have HTL:=Xa (WY n was (now.take k) args);have HTO:=Xa (Zfs (n:=n) (was:=was) (args:=args) hkn);have HZK:=Xa (hz.out _ (List.getElem_mem hkn));have HAL:Hid ((J4 n was (now.take k) args).length<=100000):=Xa (by
   have h1:=HTL.out;have h2:(now.take k).length*was.length<=11*11:=Nat.mul_le_mul (by rw[List.length_take];have:=hnl.out;omega) (by have:=hwl.out;omega);omega)
  go_wp2_with fail
  refine tn5 w0 L B n gb G gc gp np pc b j wa na aa wl wcap nl ncap al ac was now args d _ _ _ _ _ _ k (by exact Xa (fun c a t v w h=>hQ.out c a t v w h)) hw hwl hnw hnl hB hg1 hgb hg2 hG hg3 hgp har hal hbn hn hjp hwal hwlb hkn HZK (J4 n was (now.take k) args) HAL.out ?_ va _ _ (by rfl) HS;intro va2 c14 tl w' hl hfin;obtain⟨f,rfl⟩:=K4 tl hl;clear hl;rw[<-HTO.out]at hfin;have HF:=Xa hfin;clear hfin HS
  go_wp2_with fail
  exact⟨⟨⟨k+1,va2,_,_⟩,rfl,rfl,(by show k+1<=nl;omega),HF⟩,by simp[intOf];omega⟩
 ·have hltI:¬(k:Int)<nl:=by omega
  have HF:Hid (TkS w0 wr d va (J4 n was now args)):=Xa (by
   have:=HS.out;rw[List.take_of_length_le (by have:=hnl.out;omega)]at this;exact this)
  go_wp2_with fail
  exact HX.out va _ _ _ _ (by rfl) HF.out
end Go.Proofs.YtkehcdfalcakmaaGreatDoor
namespace Go.Proofs.YtkehcdfalcakmaaGreatDoor
open Go.RowKit
structure PhS(w1 wr:World)(lab:Nat->Nat × Nat × Nat)(b:Nat)(vp:Value)(ps:List Ph)(av:Nat->Value):Prop where
 low:Below w1.heap.size w1 wr
 row:Xq wr lab (2,b,0) w1.heap.size 46 2 vp ps.length (XU av ps)
 args:∀j (h:j<ps.length),Xq wr lab (4,b,j) w1.heap.size 2 1 (av j) ps[j].args.length (Xo ps[j].args)
 fr:∀q,wr.heap.size<=q->lab q=(0,0,0)
theorem PhS.push{w1 wr w2 w3:World}{lab:Nat->Nat × Nat × Nat}{b n':Nat}{vp vp' va:Value}{ps:List Ph}{av:Nat->Value}{d:Int}{acc:List Int}{o:Obj}(h:PhS w1 wr lab b vp ps av)(ht:TkS wr w2 d va acc)(hg:(w2.alloc o).grownBy w3 vp.ownBlock)(ho:w3.ownsRow w1.heap.size 46 2 vp' n' (XU av ps++[.int .i64 d,va]))(hn:n'=ps.length+1)(hat:vp'.ownBlock=vp.ownBlock\/vp'.ownBlock=some (w2.alloc o).heap.size) :
 ∃lab',PhS w1 w3 lab' b vp' (ps++[⟨d,acc⟩]) (fun j=>if j=ps.length then va else av j):=by
 have hws:=h.low.size;have k0:XK wr (w2.alloc o) lab (fun q=>if va.ownBlock=some q then (4,b,ps.length)else lab q) w1.heap.size (fun _=>True):=by
  refine⟨Nat.le_trans ht.low.size (by simp),fun q _ h2 _=>⟨?_,if_neg (fun e=>?_)⟩,fun hf q hq=>?_⟩
  ·exact(Below.heap_alloc _ _ _ (Nat.lt_of_lt_of_le h2 ht.low.size)).trans (ht.low.block q h2)
  ·have:=(ht.own.lt q e).1
   omega
  ·have hsz:=ht.low.size
   rw[World.size_alloc]at hq;exact(if_neg (fun e=>by have:=(ht.own.lt q e).2;omega)).trans (hf q (by omega))
 have hrow:=h.row.sp k0 (fun _ _=>trivial);have hva:Xq (w2.alloc o) (fun q=>if va.ownBlock=some q then (4,b,ps.length)else lab q) (4,b,ps.length) w1.heap.size 2 1 va acc.length (Xo acc):=⟨Yn (ht.own.alloc o) (by omega),fun q e=>if_pos e⟩;obtain⟨lab',hr,k⟩:=hrow.grow hg ho hat (k0.fresh h.fr);have kk:=k0.trans k;refine⟨lab',?_,?_,fun j hj=>?_,kk.fresh h.fr⟩
 ·refine(h.low.trans (ht.low.mono hws)).trans ((Below.alloc (Below.refl _ _) (Nat.le_trans hws ht.low.size) o).trans (hrow.below hg (Nat.le_refl _) (by simp;have:=ht.low.size;omega)))
 ·subst hn
  have e:XU (fun j=>if j=ps.length then va else av j) (ps++[⟨d,acc⟩])=XU av ps++[.int .i64 d,va]:=by
   unfold XU;rw[Y8,Nat.zero_add];dsimp only;rw[if_pos rfl,Z2 (f':=fun j (p:Ph)=>[Value.int .i64 p.dst,av j]) 0 ps (fun i hi=>by rw[Nat.zero_add,if_neg (by omega)])]
  rw[e,List.length_append];exact hr
 ·by_cases e:j<ps.length
  ·rw[List.getElem_append_left e,if_neg (by omega)]
   refine((h.args j e).sp k0 (fun _ _=>trivial)).sp k (fun q e2=>?_);rw[e2];simp
  ·have hje:j=ps.length:=by simp at hj;omega
   subst hje;rw[List.getElem_append_right (Nat.le_refl _),if_pos rfl];simp only[Nat.sub_self,List.getElem_cons_zero];exact hva.sp k (fun q e2=>by rw[e2];simp)
end Go.Proofs.YtkehcdfalcakmaaGreatDoor
namespace Go.Proofs.YtkehcdfalcakmaaGreatDoor
set_option maxHeartbeats 4000000
set_option maxRecDepth 100000
open Go.RowKit
structure T3 where
 j:Nat
 vp:Value
 c12:Value
 c13:Value
 c14:Value
 tl:List Value
theorem tn3{Q:Exit->Act->World->Prop}(w1:World)(L B n gb G gc gp np pc b:Nat)(wa na:Option Addr)(wl wcap nl ncap:Nat)(was now:List Int)(ps:List Ph)(c0 c1 c2 c5 c6:Value)(hQ:Hid (∀c (a:Act) t v w,Q (.panic c) (a.put (some t) v) w->Q (.panic c) a w))(hw:Hid (Xh w1 L B wa was))(hwl:Hid (wl=was.length))(hnw:Hid (Xh w1 L B na now))(hnl:Hid (nl=now.length))(hB:B<=w1.heap.size)(hg1:w1.cell? ⟨gb,1,none⟩=some (.slice (some ⟨G,0,none⟩) n gc))(hgb:gb<w1.heap.size)(hg2:w1.cell? ⟨G,b*6,none⟩=some (.slice (some ⟨gp,0,none⟩) np pc))(hG:G<w1.heap.size)(hgp:gp<w1.heap.size)(hnp:Hid (np=ps.length))(hps:Hid (∀j (h:j<ps.length),w1.cell? ⟨gp,j*2,none⟩=some (.int .i64 ps[j].dst)/\∃aa ac,w1.cell? ⟨gp,j*2+1,none⟩=some (.slice aa ps[j].args.length ac)/\Xh w1 L B aa ps[j].args/\was.length<=ps[j].args.length))(hbn:b<n)(hn:n<=11)(hz:Hid (∀z∈now,0<=z/\z<=1000))(hlb:nl<=11/\wl<=11)(hnp2:np<=1000)
 (hexit:∀(vp c11 c12 c13 c14:Value)(lab:Nat->Nat × Nat × Nat)(av:Nat->Value)(tl:List Value)(w':World),tl.length=134->PhS w1 w' lab b vp (Yq n was now ps) av->Q (.exit 4) ⟨(c0::c1::c2::.int .i64 ((n:Nat):Int)::.pointer (some ⟨gb,0,none⟩)::c5::c6::.int .i64 ((b:Nat):Int)::.slice wa wl wcap::.slice na nl ncap::vp::c11::c12::c13::c14::tl).toArray,[]⟩ w')
 (vp c12 c13 c14:Value) (lab0:Nat->Nat × Nat × Nat) (av0:Nat->Value) (tl:List Value) (wr:World) (hl:tl.length=134) (h:Hid (PhS w1 wr lab0 b vp [] av0)) :
 Code.wp Tryz.prog (Code.loop tB3) Q ⟨(c0::c1::c2::.int .i64 ((n:Nat):Int)::.pointer (some ⟨gb,0,none⟩)::c5::c6::.int .i64 ((b:Nat):Int)::.slice wa wl wcap::.slice na nl ncap::vp::.int .i64 ((0:Nat):Int)::c12::c13::c14::tl).toArray,[]⟩ wr:=by
 have HX:=Xa hexit;clear hexit;obtain⟨i0,hi0,hz0,hz1,hz2⟩:=X0 Tryz.infoPhiD;refine wp_loop (fun a' wr=>∃x:T3,a'=⟨(c0::c1::c2::.int .i64 ((n:Nat):Int)::.pointer (some ⟨gb,0,none⟩)::c5::c6::.int .i64 ((b:Nat):Int)::.slice wa wl wcap::.slice na nl ncap::x.vp::.int .i64 ((x.j:Nat):Int)::x.c12::x.c13::x.c14::x.tl).toArray,[]⟩/\x.tl.length=134/\x.j<=np/\Hid (∃lab av,PhS w1 wr lab b x.vp (Yq n was now (ps.take x.j)) av)) (fun a' _=>np-(intOf (a'.tmps.getD 11 undef)).toNat) ⟨⟨0,vp,c12,c13,c14,tl⟩,rfl,hl,Nat.zero_le _,Xa ⟨lab0,av0,h.out⟩⟩ ?_;clear h hl;rintro a' wr ⟨⟨j,vp,c12,c13,c14,tl⟩,rfl,hl,hj,HS⟩;dsimp only at hl hj HS |-
 conv=>arg 2;whnf
 obtain⟨f,rfl⟩:=K4 tl hl;clear hl;obtain⟨lab,av,hS⟩:=HS.out;have KC:=Xa (fun q o (hq:q<w1.heap.size)=>hS.low.cell (p:=⟨q,o,none⟩) hq);have hsw:=hS.low.size;have x1:=(KC.out gb 1 hgb).trans hg1;have x2:=(KC.out G (b*6) hG).trans hg2;by_cases hlt:j<np
 ·have hltI:(j:Int)<np:=by omega
  have hjp:j<ps.length:=by rw[<-hnp.out];exact hlt
  obtain⟨p0,aa,ac,p1,p2,p3⟩:=hps.out j hjp;have x3:=(KC.out gp (j*2) hgp).trans p0;have x4:=(KC.out gp (j*2+1) hgp).trans p1;have HNX:Hid (Yq n was now (ps.take (j+1))=Yq n was now (ps.take j)++[⟨ps[j].dst,J4 n was now ps[j].args⟩]):=Xa (by
   unfold Yq;rw[List.take_succ_eq_append_getElem hjp,List.map_append];rfl)
  have HPL:Hid ((Yq n was now (ps.take j)).length=j):=Xa (by unfold Yq;rw[List.length_map,List.length_take];omega);have HP2:=Xa (p2.keep (B:=B) (hS.low.mono hB));have HW:=Xa (hw.keep (B:=B) (hS.low.mono hB));have HN:=Xa (hnw.keep (B:=B) (hS.low.mono hB));have HSS:=Xa hS;obtain⟨al,hal⟩:∃al,al=ps[j].args.length:=⟨_,rfl⟩;rw[<-hal]at x4 p3;have HAL:=Xa hal;have hwal:wl<=al:=by have:=hwl.out;omega
  clear hal hS HS p0 p1 p2;generalize ps[j].dst=d at *;generalize ps[j].args=args at *
  go_wp2_with fail
  have HT0:Hid (TkS wr (wr.alloc (.cells #[.int .i64 d,.slice none 0 0] 46)) d (.slice none 0 0) []):=Xa ⟨Xb (Below.refl _ _) _,Bx.new _ _ _,World.ownsRow_nil _ _ _ _⟩;refine tn4 wr L B n gb G gc gp np pc b j wa na aa wl wcap nl ncap al ac was now args d _ _ _ _ _ _ (by exact Xa (fun c a t v w h=>hQ.out c a t v w h)) HW hwl HN hnl (by omega) x1 (by omega) x2 (by omega) x4 (by omega) HP2 HAL hbn hn hlt hwal (by omega) hz hlb ?_ _ _ _ _ (by rfl) HT0;intro va2 c13 c14 tl w2 hl hfin;obtain⟨f,rfl⟩:=K4 tl hl;clear hl HT0;have HT2:=Xa hfin;clear hfin x1 x2 x3 x4;obtain⟨ua,ul,uc,hva⟩:∃a l c,va2=.slice a l c:=by
   rcases HT2.own.2 with⟨e,h0⟩ | ⟨_,_,_,e,_⟩
   ·exact⟨none,0,0,e⟩
   ·exact⟨_,_,_,e⟩
  subst hva;obtain⟨qa,qc,hvp⟩:∃a c,vp=.slice a j c:=by
   obtain⟨a,c,e⟩:=HSS.row.form;rw[HPL.out]at e;exact⟨a,c,e⟩
  subst hvp;have q0:w2.cell? ⟨wr.heap.size,0,none⟩=some (.int .i64 d):=Bx.cell HT2.box rfl;have q1:w2.cell? ⟨wr.heap.size,1,none⟩=some (.slice ua ul uc):=Bx.cell HT2.box rfl;have hs2:=HT2.low.size;have HOW:Hid (w2.ownsRow w1.heap.size 46 2 (.slice qa j qc) j (XU av (Yq n was now (ps.take j)))):=Xa (by
   have:=YA HSS.row.own (w':=w2) (fun q e=>HT2.low.block q (HSS.row.own.lt q e).2);rw[HPL.out]at this;exact this)
  go_wp2_with (at_builtin;refine wpList_append_own_at _ rfl _ _ 38 rfl w1.heap.size 46 i0 (.agg #[.int .i64 0,.slice none 0 0]) 2 32 Tryz.underlying38 hi0 hz0 hz1 hz2 rfl (by decide) _ j (XU av (Yq n was now (ps.take j))) rfl (HOW.alloc _) ⟨w2.heap.size,0,none⟩ 1 1 [.int .i64 d,.slice ua ul uc] rfl rfl (World.news_of_block (World.alloc_heap_new _ _)) ?c2 ?c3 ?c4 ?c5 ?_)
  case c2=>intro u hu;simp at hu;rcases hu with rfl | rfl<;>rfl
  case c3=>unfold maxLen;omega
  case c4=>omega
  case c5=>simp;omega
  intro v8 w8 hown8 hg8 hne8 hat8;obtain⟨lab',hfin⟩:=HSS.push HT2.out hg8 hown8 (by rw[HPL.out]) (by rw[World.size_alloc];exact hat8);rw[<-HNX.out]at hfin;have HF:=Xa hfin;obtain⟨g8,c8',rfl,hgb8,hcap⟩:=Xj hown8 (by omega);clear hgb8 hcap hne8 hat8 hown8 hg8 hfin q0 q1
  go_wp2_with fail
  exact⟨⟨⟨j+1,_,_,_,_,_⟩,rfl,rfl,(by show j+1<=np;omega),Xa ⟨_,_,HF.out⟩⟩,by simp[intOf];omega⟩
 ·have hltI:¬(j:Int)<np:=by omega
  have HF:Hid (PhS w1 wr lab b vp (Yq n was now ps) av):=Xa (by
   have:=hS;rw[List.take_of_length_le (by have:=hnp.out;omega)]at this;exact this)
  clear hS HS
  go_wp2_with fail
  exact HX.out _ _ _ _ _ _ _ _ _ (by rfl) HF.out
end Go.Proofs.YtkehcdfalcakmaaGreatDoor
namespace Go.Proofs.YtkehcdfalcakmaaGreatDoor
open Go.RowKit
def ZfF(k:Int)(V:Nat)(s:Sr)(x:Xz):Xz :=
 if k=11 then ⟨(nextP s 13).1,x.dst,x.a,x.b,x.imm⟩else if k=12 then ⟨x.op,(nextP s ((V:Int)+1)).1,x.a,x.b,x.imm⟩else if k=13 then ⟨x.op,x.dst,(V:Int),x.b,x.imm⟩else if k=14 then ⟨x.op,x.dst,x.a,-1,x.imm⟩else ⟨x.op,x.dst,x.a,x.b,(nextP s 12).1⟩
def Vu(k:Int)(V:Nat)(s:Sr)(zs:List Int):List Int :=
 if k=8 then zs++[0]else if k=9 then zs.set 0 ((V:Int)*(nextP s 2).1)else zs.drop 1
def TO(k:Int)(V n:Nat)(s:Sr)(t:XN):XN :=
 if k=1 then ⟨t.kind,t.a,n,t.els⟩else if k=2 then ⟨t.kind,t.a,t.to,t.to⟩else if k=3 then ⟨t.kind,t.a,0,t.els⟩else if k=4 then ⟨(nextP s 5).1,t.a,t.to,t.els⟩else if k=5 then ⟨t.kind,(V:Int),t.to,t.els⟩else t
def YD(k:Int)(V n:Nat)(s:Sr)(x:Xf):Xf :=
 if k=6 then ⟨x.phis++[⟨0,[]⟩],x.instrs,x.term⟩
 else if k<6 then ⟨x.phis,x.instrs,TO k V n s x.term⟩
 else if k<11 then (if 0<x.phis.length then ⟨x.phis.set 0 ⟨(x.phis.getD 0 UY).dst,Vu k V s (x.phis.getD 0 UY).args⟩,x.instrs,x.term⟩else x)
 else (if 0<x.instrs.length then ⟨x.phis,x.instrs.set (nextP s x.instrs.length).1.toNat (ZfF k V (nextP s x.instrs.length).2 (x.instrs.getD (nextP s x.instrs.length).1.toNat ⟨0,0,0,0,0⟩)),x.term⟩else x)
def XB(V:Nat)(xs:List Xf)(s:Sr):Fn :=
 if (nextP s 16).1=7 then ⟨V,[]⟩else
 ⟨if (nextP s 16).1=0 then (V:Int)+(nextP (nextP (nextP s 16).2 xs.length).2 2).1*2-1 else V,xs.set (nextP (nextP s 16).2 xs.length).1.toNat (YD (nextP s 16).1 V xs.length (nextP (nextP s 16).2 xs.length).2 (xs.getD (nextP (nextP s 16).2 xs.length).1.toNat XL))⟩
def SpE(F:Fn)(w:World)(base sb:Nat)(e:Ending)(w':World):Prop:=∃a m c',e=.returned (.agg #[.int .i64 F.values,.slice a m c'])/\m=F.blocks.length/\Vh w w' base sb a F.blocks
def SmW(a b:World):Prop:=a=b
def TM(x:Xf):Prop:=x.phis.length<=4/\(∀p∈x.phis,p.args.length<=1001)/\x.instrs.length<=1000
theorem ZaY:∀(ps:List Ph)(m:Nat),(∀p∈ps,p.args.length<=m)->YC ps<=ps.length*m
 | [],m,_=>by simp[YC]
 | p::ps,m,h=>by
  have h1:=h p (by simp);have h2:=ZaY ps m (fun q hq=>h q (by simp[hq]));unfold YC at h2 |-;rw[List.map_cons,List.sum_cons,List.length_cons,Nat.add_mul,Nat.one_mul];omega
theorem TM.le{x:Xf}(h:TM x):YF x<=6000:=by
 have h1:=ZaY x.phis 1001 h.2.1;have h2:=Nat.mul_le_mul_right 1001 h.1;have h3:=h.2.2;have h4:=h.1;unfold YF;omega
theorem VY:∀(xs:List Xf),(∀x∈xs,TM x)->Xn xs<=xs.length*6000
 | [],_=>by simp[Xn]
 | x::xs,h=>by
  have h1:=(h x (by simp)).le;have h2:=VY xs (fun q hq=>h q (by simp[hq]));unfold Xn at h2 |-;rw[List.map_cons,List.sum_cons,List.length_cons,Nat.add_mul,Nat.one_mul];omega
theorem Zaq{xs:List Xf}(hn:xs.length<=12)(h:∀x∈xs,TM x):xs.length+Xn xs<=1048576:=by
 have:=VY xs h;omega
def Wh(xs:List Xf):Prop:=∀x∈xs,x.phis.length<=3
theorem Wh.get{xs:List Xf}(h:Wh xs)(i:Nat):(xs.getD i XL).phis.length<=3:=by
 by_cases hi:i<xs.length
 ·rw[show xs.getD i XL=xs[i] by simp[hi]]
  exact h _ (List.getElem_mem hi)
 ·rw[show xs.getD i XL=XL by simp[hi]]
  simp[XL]
theorem Wh.set{xs:List Xf}(h:Wh xs)(i:Nat){x:Xf}(hx:x.phis.length<=3):Wh (xs.set i x):=fun y hy=>by
 rcases List.mem_or_eq_of_mem_set hy with hy | hy
 ·exact h y hy
 ·subst hy;exact hx
theorem Zac(near:Bool)(ids:List Int):∀(k i:Nat)(g:GdR),Wh g.xs->Wh (YR near ids k i g).xs
 | 0,_,_,h=>h
 | k+1,i,g,h=>by
  rw[YR];refine Zac near ids k (i+1) _ (h.set i ?_);show(Uw (Tz _ g.s).1 g.v).length<=3;rw[Ke];exact Zdj _ _
theorem ZbH(ends:List (List Int)):∀(k i:Nat)(xs:List Xf)(s:Sr),Wh xs->Wh (Z6 ends k i xs s).1
 | 0,_,_,_,h=>h
 | k+1,i,xs,s,h=>by
  rw[Z6];refine ZbH ends k (i+1) _ _ (h.set i ?_);show(J3 ends _ _ 0 _ s).1.length<=3;rw[Ua];exact h.get i
theorem Zad(xs:List Xf):∀(k b:Nat)(g:List Xf),Wh g->Wh (JT xs k b g)
 | 0,_,_,h=>h
 | k+1,b,g,h=>by
  rw[JT];refine Zad xs k (b+1) _ (h.set b ?_);show(Yq _ _ _ _).length<=3;unfold Yq;rw[List.length_map];exact h.get b
theorem Zb1{xs:List Xf}(h:Wh xs):Wh (YM xs):=by
 unfold YM;refine Zad xs _ 0 _ (fun x hx=>?_);unfold Y6 at hx;obtain⟨b,_,rfl⟩:=List.mem_map.1 hx;exact h.get _
theorem Zgv{v:Nat}{xs:List Xf}(h:Wh xs):Wh (K6 v xs):=fun x hx=>by
 unfold K6 at hx;obtain⟨y,hy,rfl⟩:=List.mem_map.1 hx;have:=h y hy;unfold ZU;simpa using this
theorem TY(s:Sr)(dead:Bool):Wh (XA s dead).1.blocks:=by
 have hA:Wh (Zbk s dead).1:=by
  unfold Zbk;refine ZbH _ _ _ _ _ (Zac _ _ _ _ _ (fun x hx=>?_));rw[(JU _ x hx).1];simp
 unfold XA;dsimp only;split
 ·refine Zgv ?_
  split
  ·exact Zb1 hA
  ·exact hA
 ·split
  ·exact Zb1 hA
  ·exact hA
theorem Vk{xs:List Xf}(h3:Wh xs)(hs:JK xs):∀x∈xs,TM x:=fun x hx=>⟨Nat.le_trans (h3 x hx) (by omega),fun p hp=>Nat.le_trans ((hs x hx).2.1 p hp) (by omega),(hs x hx).2.2⟩
theorem Zd2{xs:List Xf}(h3:Wh xs)(hs:JK xs)(i:Nat):(xs.getD i XL).phis.length<=3/\(∀p∈(xs.getD i XL).phis,p.args.length<=1000)/\(xs.getD i XL).instrs.length<=1000:=by
 by_cases hi:i<xs.length
 ·rw[show xs.getD i XL=xs[i] by simp[hi]]
  exact⟨h3 _ (List.getElem_mem hi),(hs _ (List.getElem_mem hi)).2⟩
 ·rw[show xs.getD i XL=XL by simp[hi]]
  simp[XL]
theorem Ut{xs:List Xf}(h:∀x∈xs,TM x)(i:Nat){x:Xf}(hx:TM x):∀y∈xs.set i x,TM y:=fun y hy=>by
 rcases List.mem_or_eq_of_mem_set hy with hy | hy
 ·exact h y hy
 ·subst hy;exact hx
theorem Zbh{x:Xf}(h:x.phis.length<=3/\(∀p∈x.phis,p.args.length<=1000)/\x.instrs.length<=1000)(d:Int)(zs:List Int)(hz:zs.length<=1001):TM ⟨x.phis.set 0 ⟨d,zs⟩,x.instrs,x.term⟩:=by
 refine⟨by show(x.phis.set 0 _).length<=4;rw[List.length_set];omega,fun p hp=>?_,h.2.2⟩;rcases List.mem_or_eq_of_mem_set hp with hp | hp
 ·exact Nat.le_trans (h.2.1 p hp) (by omega)
 ·subst hp;exact hz
theorem Zd1{x:Xf}(h:x.phis.length<=3/\(∀p∈x.phis,p.args.length<=1000)/\x.instrs.length<=1000):(x.phis.getD 0 UY).args.length<=1000:=by
 by_cases hi:0<x.phis.length
 ·rw[show x.phis.getD 0 UY=x.phis[0] by simp[hi]]
  exact h.2.1 _ (List.getElem_mem hi)
 ·rw[show x.phis.getD 0 UY=UY by simp at hi;simp[hi]]
  simp[UY]
theorem Zev{V:Nat}{xs:List Xf}{s:Sr}(h3:Wh xs)(hs:JK xs):(ZC V xs s).1.length=xs.length/\∀x∈(ZC V xs s).1,TM x:=by
 have h0:=Vk h3 hs;have hg:=fun i=>Zd2 h3 hs i
 have up:∀{x:Xf},(x.phis.length<=3/\(∀p∈x.phis,p.args.length<=1000)/\x.instrs.length<=1000)->TM x:=fun h=>⟨by omega,fun p hp=>Nat.le_trans (h.2.1 p hp) (by omega),h.2.2⟩
 have hT:∀b v s,(Kl xs b v s).1.length=xs.length/\∀x∈(Kl xs b v s).1,TM x:=fun b v s=>by
  unfold Kl;split
  ·exact⟨by simp,Ut h0 b (up (hg b))⟩
  ·exact⟨rfl,h0⟩
 have hI:∀b v s,(TS xs b v s).1.length=xs.length/\∀x∈(TS xs b v s).1,TM x:=fun b v s=>by
  unfold TS;split
  ·split
   ·exact⟨by simp,Ut h0 b (up ⟨(hg b).1,(hg b).2.1,by show(List.set _ _ _).length<=1000;rw[List.length_set];exact(hg b).2.2⟩)⟩
   ·exact hT b v _
  ·exact hT b v s
 unfold ZC ZaH;split
 ·split
  ·refine⟨by simp,Ut h0 _ ?_⟩
   exact Zbh (hg _) _ _ (by rw[List.length_set];have:=Zd1 (hg (nextP s xs.length).1.toNat);omega)
  ·exact hI _ _ _
 ·exact hI _ _ _
theorem Zej{V:Nat}{xs:List Xf}{s:Sr}(h3:Wh xs)(hs:JK xs):(XB V xs s).blocks.length<=xs.length/\∀x∈(XB V xs s).blocks,TM x:=by
 have h0:=Vk h3 hs;have hg:=fun i=>Zd2 h3 hs i
 have up:∀{x:Xf},(x.phis.length<=3/\(∀p∈x.phis,p.args.length<=1000)/\x.instrs.length<=1000)->TM x:=fun h=>⟨by omega,fun p hp=>Nat.le_trans (h.2.1 p hp) (by omega),h.2.2⟩
 unfold XB;split
 ·exact⟨Nat.zero_le _,fun x hx=>absurd hx (by simp)⟩
 ·refine⟨by simp,Ut h0 _ ?_⟩
  unfold YD;split
  ·refine⟨by show(_++[_]).length<=4;rw[List.length_append];have:=(hg (nextP (nextP s 16).2 xs.length).1.toNat).1;simp only[List.length_cons,List.length_nil];omega,fun p hp=>?_,(hg _).2.2⟩
   rcases List.mem_append.1 hp with hp | hp
   ·exact Nat.le_trans ((hg _).2.1 p hp) (by omega)
   ·simp only[List.mem_cons,List.not_mem_nil,or_false]at hp
    subst hp;simp
  ·split
   ·exact up (hg _)
   ·split
    ·split
     ·refine Zbh (hg _) _ _ ?_
      have ha:=Zd1 (hg (nextP (nextP s 16).2 xs.length).1.toNat);unfold Vu;split
      ·rw[List.length_append];simp only[List.length_cons,List.length_nil];omega
      ·split
       ·rw[List.length_set];omega
       ·rw[List.length_drop];omega
     ·exact up (hg _)
    ·split
     ·exact up ⟨(hg _).1,(hg _).2.1,by show(List.set _ _ _).length<=1000;rw[List.length_set];exact(hg _).2.2⟩
     ·exact up (hg _)
end Go.Proofs.YtkehcdfalcakmaaGreatDoor
