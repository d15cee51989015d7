import Derived.Test.YtkehcdfalcakmaaGreatDoorTN0
namespace Go.Proofs.YtkehcdfalcakmaaGreatDoor
set_option maxRecDepth 100000
set_option maxHeartbeats 8000000
open Go.RowKit
def cB:Code->Code
 | .seq _ b=>b
 | c=>c
noncomputable def ZiG:Code:=(Tryz.f55.body.getD .skip)
noncomputable def Zio:Code:=cB (cB (cB (cB (cB ZiG))))
noncomputable def Zhp:Code:=cB (cB (cB (cB (cB (cB (cB (cB Zio)))))))
noncomputable def Zhk:Code:=cB Zhp
noncomputable def Zic:Code:=cB Zhk
theorem Zcz(f:Nat->Value):(List.range' 10 169).map f=(f 10::f 11::f 12::f 13::f 14::f 15::f 16::f 17::f 18::f 19::f 20::f 21::f 22::f 23::f 24::f 25::f 26::f 27::f 28::f 29::f 30::f 31::f 32::f 33::f 34::f 35::f 36::f 37::f 38::f 39::f 40::f 41::f 42::f 43::f 44::f 45::f 46::f 47::f 48::f 49::f 50::f 51::f 52::f 53::f 54::f 55::f 56::f 57::f 58::f 59::f 60::f 61::f 62::f 63::f 64::f 65::f 66::f 67::f 68::f 69::f 70::f 71::f 72::f 73::f 74::f 75::f 76::f 77::f 78::f 79::f 80::f 81::f 82::f 83::f 84::f 85::f 86::f 87::f 88::f 89::f 90::f 91::f 92::f 93::f 94::f 95::f 96::f 97::f 98::f 99::f 100::f 101::f 102::f 103::f 104::f 105::f 106::f 107::f 108::f 109::f 110::f 111::f 112::f 113::f 114::f 115::f 116::f 117::f 118::f 119::f 120::f 121::f 122::f 123::f 124::f 125::f 126::f 127::f 128::f 129::f 130::f 131::f 132::f 133::f 134::f 135::f 136::f 137::f 138::f 139::f 140::f 141::f 142::f 143::f 144::f 145::f 146::f 147::f 148::f 149::f 150::f 151::f 152::f 153::f 154::f 155::f 156::f 157::f 158::f 159::f 160::f 161::f 162::f 163::f 164::f 165::f 166::f 167::f 168::f 169::f 170::f 171::f 172::f 173::f 174::f 175::f 176::f 177::f 178::[]):=rfl
theorem J2(tl:List Value)(h:tl.length=169):∃f:Nat->Value,tl=(f 10::f 11::f 12::f 13::f 14::f 15::f 16::f 17::f 18::f 19::f 20::f 21::f 22::f 23::f 24::f 25::f 26::f 27::f 28::f 29::f 30::f 31::f 32::f 33::f 34::f 35::f 36::f 37::f 38::f 39::f 40::f 41::f 42::f 43::f 44::f 45::f 46::f 47::f 48::f 49::f 50::f 51::f 52::f 53::f 54::f 55::f 56::f 57::f 58::f 59::f 60::f 61::f 62::f 63::f 64::f 65::f 66::f 67::f 68::f 69::f 70::f 71::f 72::f 73::f 74::f 75::f 76::f 77::f 78::f 79::f 80::f 81::f 82::f 83::f 84::f 85::f 86::f 87::f 88::f 89::f 90::f 91::f 92::f 93::f 94::f 95::f 96::f 97::f 98::f 99::f 100::f 101::f 102::f 103::f 104::f 105::f 106::f 107::f 108::f 109::f 110::f 111::f 112::f 113::f 114::f 115::f 116::f 117::f 118::f 119::f 120::f 121::f 122::f 123::f 124::f 125::f 126::f 127::f 128::f 129::f 130::f 131::f 132::f 133::f 134::f 135::f 136::f 137::f 138::f 139::f 140::f 141::f 142::f 143::f 144::f 145::f 146::f 147::f 148::f 149::f 150::f 151::f 152::f 153::f 154::f 155::f 156::f 157::f 158::f 159::f 160::f 161::f 162::f 163::f 164::f 165::f 166::f 167::f 168::f 169::f 170::f 171::f 172::f 173::f 174::f 175::f 176::f 177::f 178::[]):=by
 have e:=JS Value undef tl 10 (fun i=>tl.getD (i-10) undef) (fun i hi=>by simp[hi]);rw[h]at e;exact⟨fun i=>tl.getD (i-10) undef,e.trans (Zcz _)⟩
theorem Zhd(V G n c:Nat)(xs:List Xf)(base:Nat)(pv iv:Nat->Value)(av:Nat->Nat->Value)(sb B:Nat)(w:World)(F:Fn)(b xb:Nat)(ia:Option Addr)(ni ic:Nat)(pa:Option Addr)(np pc:Nat)(labz:Nat->Nat × Nat × Nat)(sz:Sr)(vq:Int)(yq:Xf)(ayq:Nat->Value)(c3 c9:Value)(tl:List Value)(hl:tl.length=169)(wz:World)(hn:Hid (n=xs.length))(hb:b<xs.length)(HIV:Hid (iv b=.slice ia ni ic))(HPQ:Hid (F=⟨vq,xs.set b yq⟩))(c5:Value)(HZ:Hid (Zi w wz labz base sb B sz vq G n c xs pv iv av b xb (.slice pa np pc) yq ayq)) :
 Code.wp Tryz.prog Zic (bodyPost Tryz.prog Tryz.f55 fun e w'=>SpE F w base sb e w') ⟨(.agg #[.int .i64 (V:Int),.slice (some ⟨G,0,none⟩) n c]::.pointer (some ⟨sb,0,none⟩)::.pointer (some ⟨w.heap.size,0,none⟩)::c3::.pointer (some ⟨w.heap.size+1,0,none⟩)::c5::.int .i64 ((b:Nat):Int)::.int .i64 ((n:Nat):Int)::.pointer (some ⟨xb,0,none⟩)::c9::tl).toArray,[]⟩ wz:=by
 obtain⟨f,rfl⟩:=J2 tl hl;clear hl
 conv=>arg 2;whnf
 have hbn:b<n:=by have:=hn.out;omega
 have fx1:wz.cell? ⟨w.heap.size,1,none⟩=some (.slice (some ⟨G,0,none⟩) n c):=Bx.cell HZ.box rfl;have c0:wz.cell? ⟨xb,0,none⟩=some (.slice pa np pc):=Bx.cell HZ.xbx rfl;have c1:wz.cell? ⟨xb,1,none⟩=some (.slice ia ni ic):=by rw[<-HIV.out];exact Bx.cell HZ.xbx rfl
 have c2:wz.cell? ⟨xb,2,none⟩=some (.int .i64 yq.term.kind):=Bx.cell HZ.xbx rfl;have c3:wz.cell? ⟨xb,3,none⟩=some (.int .i64 yq.term.a):=Bx.cell HZ.xbx rfl;have c4:wz.cell? ⟨xb,4,none⟩=some (.int .i64 yq.term.to):=Bx.cell HZ.xbx rfl;have c5:wz.cell? ⟨xb,5,none⟩=some (.int .i64 yq.term.els):=Bx.cell HZ.xbx rfl;obtain⟨⟨v0,g0⟩,⟨v1,g1⟩,⟨v2,g2⟩,⟨v3,g3⟩,⟨v4,g4⟩,⟨v5,g5⟩,gz⟩:=HZ.gcells hb;have hne:G≠xb:=HZ.gxb;have hDN:=fun u0 u1=>HZ.done (u0:=u0) (u1:=u1) hb
 rw[HIV.out]at hDN;have HDN:=Xa hDN;have HBR:Hid (Bx ((((((wz.setCell ⟨G,b*6,none⟩ (.slice pa np pc)).setCell ⟨G,b*6+1,none⟩ (.slice ia ni ic)).setCell ⟨G,b*6+2,none⟩ (.int .i64 yq.term.kind)).setCell ⟨G,b*6+3,none⟩ (.int .i64 yq.term.a)).setCell ⟨G,b*6+4,none⟩ (.int .i64 yq.term.to)).setCell ⟨G,b*6+5,none⟩ (.int .i64 yq.term.els)) w.heap.size #[.int .i64 vq,.slice (some ⟨G,0,none⟩) n c] 25/\Bx ((((((wz.setCell ⟨G,b*6,none⟩ (.slice pa np pc)).setCell ⟨G,b*6+1,none⟩ (.slice ia ni ic)).setCell ⟨G,b*6+2,none⟩ (.int .i64 yq.term.kind)).setCell ⟨G,b*6+3,none⟩ (.int .i64 yq.term.a)).setCell ⟨G,b*6+4,none⟩ (.int .i64 yq.term.to)).setCell ⟨G,b*6+5,none⟩ (.int .i64 yq.term.els)) (w.heap.size+1) #[.int .i64 0,.slice none 0 0] 25):=Xa ⟨(((((HZ.box.other HZ.gbox).other HZ.gbox).other HZ.gbox).other HZ.gbox).other HZ.gbox).other HZ.gbox,(((((HZ.res.other HZ.gres).other HZ.gres).other HZ.gres).other HZ.gres).other HZ.gres).other HZ.gres⟩;clear hDN
 go_upto_region 42 with fail
 have r0:=fun q u hq=>Bx.cell (q:=q) (u:=u) HBR.1 hq
 have f0:=r0 0 (.int .i64 vq) rfl;have f1:=r0 1 (.slice (some ⟨G,0,none⟩) n c) rfl;have r2:=fun q u hq=>Bx.cell (q:=q) (u:=u) HBR.2 hq
 have r3:=r2 0 (.int .i64 0) rfl;have r4:=r2 1 (.slice none 0 0) rfl;have rz:=Bx.thaw HBR.2;clear fx1 r0 r2 g0 g1 g2 g3 g4 g5 gz c0 c1 c2 c3 c4 c5;generalize (((((wz.setCell ⟨G,b*6,none⟩ (.slice pa np pc)).setCell ⟨G,b*6+1,none⟩ (.slice ia ni ic)).setCell ⟨G,b*6+2,none⟩ (.int .i64 yq.term.kind)).setCell ⟨G,b*6+3,none⟩ (.int .i64 yq.term.a)).setCell ⟨G,b*6+4,none⟩ (.int .i64 yq.term.to)).setCell ⟨G,b*6+5,none⟩ (.int .i64 yq.term.els)=w6 at *;go_wp2;rw[HPQ.out];exact bodyPost_ret (v:=.agg #[.int .i64 vq,.slice (some ⟨G,0,none⟩) n c]) (by simp[results,Tryz.results55,go_sem,r3,r4]) rfl ⟨_,n,c,rfl,by rw[List.length_set];exact hn.out,HDN.out _ _⟩
theorem Zdb(V G n c:Nat)(xs:List Xf)(base:Nat)(pv iv:Nat->Value)(av:Nat->Nat->Value)(sb B:Nat)(w:World)(F:Fn)(b xb:Nat)(ia:Option Addr)(ni ic:Nat)(pa:Option Addr)(np pc:Nat)(labz:Nat->Nat × Nat × Nat)(sz:Sr)(vq:Int)(yq:Xf)(ayq:Nat->Value)(c3 c9:Value)(tl:List Value)(hl:tl.length=169)(wz:World)(hn:Hid (n=xs.length))(hb:b<xs.length)(HIV:Hid (iv b=.slice ia ni ic))(HPQ:Hid (F=⟨vq,xs.set b yq⟩))(rk:Int)(hni2:ni<=1000)(hr:rk<11)(HZ:Hid (Zi w wz labz base sb B sz vq G n c xs pv iv av b xb (.slice pa np pc) yq ayq)) :
 Code.wp Tryz.prog Zhk (bodyPost Tryz.prog Tryz.f55 fun e w'=>SpE F w base sb e w') ⟨(.agg #[.int .i64 (V:Int),.slice (some ⟨G,0,none⟩) n c]::.pointer (some ⟨sb,0,none⟩)::.pointer (some ⟨w.heap.size,0,none⟩)::c3::.pointer (some ⟨w.heap.size+1,0,none⟩)::.int .i64 rk::.int .i64 ((b:Nat):Int)::.int .i64 ((n:Nat):Int)::.pointer (some ⟨xb,0,none⟩)::c9::tl).toArray,[]⟩ wz:=by
 obtain⟨f,rfl⟩:=J2 tl hl;clear hl
 conv=>arg 2;whnf
 have e11:(rk==11)=false:=by simp;omega
 have e12:(rk==12)=false:=by simp;omega
 have e13:(rk==13)=false:=by simp;omega
 have e14:(rk==14)=false:=by simp;omega
 have e15:(rk==15)=false:=by simp;omega
 have z1:wz.cell? ⟨xb,1,none⟩=some (.slice ia ni ic):=by rw[<-HIV.out];exact Bx.cell HZ.xbx rfl
 go_upto_if 121 with fail
 go_cut [] from 10 to 180 (fun wy=>∃sy,Hid (Zi w wy labz base sb B sy vq G n c xs pv iv av b xb (.slice pa np pc) yq ayq))
 case first =>
  by_cases hni:0<ni
  ·have hniI:(0:Int)<ni:=by omega
   go_wp2_with fail
   refine(Xv sb B sz (ni:Int) wz (Xa HZ.dr) (by omega) (by omega)).mono ?_;rintro e w5 ⟨rfl,hd,hg⟩;have HQ5:=Xa (HZ.call hg hd);clear hd hg
   go_wp2_with fail
   go_meet;exact⟨_,HQ5⟩
  ·have hniI:¬(0:Int)<ni:=by omega
   go_wp2_with fail
   go_meet;exact⟨_,HZ⟩
 case rest =>
  obtain⟨sy,HY⟩:=hcut;rename_i aK;exact aK _ _ (Zhd V G n c xs base pv iv av sb B w F b xb ia ni ic pa np pc labz sy vq yq ayq _ _ _ rfl wc hn hb HIV HPQ _ HY)
theorem VG(V G n c:Nat)(xs:List Xf)(base:Nat)(pv iv:Nat->Value)(av:Nat->Nat->Value)(sb B:Nat)(w:World)(F:Fn)(b xb:Nat)(ia:Option Addr)(ni ic:Nat)(pa:Option Addr)(np pc:Nat)(labz:Nat->Nat × Nat × Nat)(sz:Sr)(vq:Int)(yq:Xf)(ayq:Nat->Value)(c3 c9:Value)(tl:List Value)(hl:tl.length=169)(wz:World)(hn:Hid (n=xs.length))(hb:b<xs.length)(HIV:Hid (iv b=.slice ia ni ic))(HPQ:Hid (F=⟨vq,xs.set b yq⟩))(rk:Int)(hni2:ni<=1000)(hr:rk<8)(HZ:Hid (Zi w wz labz base sb B sz vq G n c xs pv iv av b xb (.slice pa np pc) yq ayq)) :
 Code.wp Tryz.prog Zhp (bodyPost Tryz.prog Tryz.f55 fun e w'=>SpE F w base sb e w') ⟨(.agg #[.int .i64 (V:Int),.slice (some ⟨G,0,none⟩) n c]::.pointer (some ⟨sb,0,none⟩)::.pointer (some ⟨w.heap.size,0,none⟩)::c3::.pointer (some ⟨w.heap.size+1,0,none⟩)::.int .i64 rk::.int .i64 ((b:Nat):Int)::.int .i64 ((n:Nat):Int)::.pointer (some ⟨xb,0,none⟩)::c9::tl).toArray,[]⟩ wz:=by
 obtain⟨f,rfl⟩:=J2 tl hl;clear hl
 conv=>arg 2;whnf
 have e8:(rk==8)=false:=by simp;omega
 have e9:(rk==9)=false:=by simp;omega
 have e10:(rk==10)=false:=by simp;omega
 have z0:wz.cell? ⟨xb,0,none⟩=some (.slice pa np pc):=Bx.cell HZ.xbx rfl
 go_upto_if 79 with fail
 go_cut [] from 10 to 180 (fun wy=>Hid (SmW wy wz))
 case first =>
  by_cases hnp:0<np
  ·have hnpI:(0:Int)<np:=by omega
   go_wp2_with fail
   go_meet;exact Xa rfl
  ·have hnpI:¬(0:Int)<np:=by omega
   go_wp2_with fail
   go_meet;exact Xa rfl
 case rest =>
  have e:wc=wz:=hcut.out;subst e;rename_i aK;exact aK _ _ (Zdb V G n c xs base pv iv av sb B w F b xb ia ni ic pa np pc labz sz vq yq ayq _ _ _ rfl wc hn hb HIV HPQ rk hni2 (by omega) HZ)
structure SpX(rk:Int)(V G n c:Nat)(xs:List Xf)(lab:Nat->Nat × Nat × Nat)(base:Nat)(pv iv:Nat->Value)(av:Nat->Nat->Value)(sb B:Nat)(s s2:Sr)(w wx:World)(b xb:Nat)(hb:b<xs.length)(pa:Option Addr)(np pc:Nat)(ia:Option Addr)(ni ic:Nat):Prop where
 hn:Hid (n=xs.length)
 h1:1<=n
 hn2:n<=11
 hbs:base<=w.heap.size
 hbb:B<=base
 hV:V<=1000
 HSMB:Hid (xs[b].phis.length<=1000/\(∀p∈xs[b].phis,p.args.length<=1000)/\xs[b].instrs.length<=1000)
 HAG:Hid (∀p∈xs[b].phis,0<p.args.length)
 hbn:b<n
 HNP:Hid (np=xs[b].phis.length)
 HNI:Hid (ni=xs[b].instrs.length)
 hni2:ni<=1000
 hnp2:np<=1000
 HSX:Hid (Zi w wx lab base sb B s2 (V:Int) G n c xs pv iv av b xb (.slice pa np pc) xs[b] (av b))
 HRW:Hid (∀j (hj:j<xs[b].phis.length),Xq wx lab (4,b,j) base 2 1 (av b j) xs[b].phis[j].args.length (Xo xs[b].phis[j].args))
 HIV:Hid (iv b=.slice ia ni ic)
 HP:Hid (XB V xs s=if rk=7 then ⟨V,[]⟩else ⟨if rk=0 then (V:Int)+(nextP s2 2).1*2-1 else V,xs.set b (YD rk V n s2 xs[b])⟩)
theorem SpX.qs{rk:Int}(V G n c:Nat)(xs:List Xf)(lab:Nat->Nat × Nat × Nat)(base:Nat)(pv iv:Nat->Value)(av:Nat->Nat->Value)(sb B:Nat)(s s2:Sr)(w wx:World)(b xb:Nat)(hb:b<xs.length)(pa:Option Addr)(np pc:Nat)(ia:Option Addr)(ni ic:Nat)(X:SpX rk V G n c xs lab base pv iv av sb B s s2 w wx b xb hb pa np pc ia ni ic):wx.cell? ⟨xb,0,none⟩=some (.slice pa np pc)/\wx.cell? ⟨xb,1,none⟩=some (.slice ia ni ic)/\wx.cell? ⟨xb,2,none⟩=some (.int .i64 xs[b].term.kind)/\wx.cell? ⟨xb,3,none⟩=some (.int .i64 xs[b].term.a)/\wx.cell? ⟨xb,4,none⟩=some (.int .i64 xs[b].term.to)/\wx.cell? ⟨xb,5,none⟩=some (.int .i64 xs[b].term.els)/\(∀q,wx.frozen? ⟨xb,q,none⟩=false)/\wx.cell? ⟨w.heap.size,0,none⟩=some (.int .i64 (V:Int))/\wx.cell? ⟨w.heap.size,1,none⟩=some (.slice (some ⟨G,0,none⟩) n c)/\(∀q,wx.frozen? ⟨w.heap.size,q,none⟩=false)/\Hid (sb≠xb) :=
 have e:=X.HSX.out;have h:∀q u,#[.slice pa np pc,.slice ia ni ic,.int .i64 xs[b].term.kind,.int .i64 xs[b].term.a,.int .i64 xs[b].term.to,.int .i64 xs[b].term.els][q]?=some u->wx.cell? ⟨xb,q,none⟩=some u:=fun q u hq=>Bx.cell e.xbx (by rw[X.HIV.out];exact hq)
 ⟨h 0 _ rfl,h 1 _ rfl,h 2 _ rfl,h 3 _ rfl,h 4 _ rfl,h 5 _ rfl,Bx.thaw e.xbx,Bx.cell e.box rfl,Bx.cell e.box rfl,Bx.thaw e.box,Xa (by have:=e.lt;have:=e.xlt;have:=e.bs;omega)⟩
def SpK(rk:Int):Prop:=∀(V G n c:Nat)(xs:List Xf)(lab:Nat->Nat × Nat × Nat)(base:Nat)(pv iv:Nat->Value)(av:Nat->Nat->Value)(sb B:Nat)(s s2:Sr)(w wx:World)(b xb:Nat)(hb:b<xs.length)(pa:Option Addr)(np pc:Nat)(ia:Option Addr)(ni ic:Nat)(c3 c9:Value)(tl:List Value)(_:tl.length=169)(_:SpX rk V G n c xs lab base pv iv av sb B s s2 w wx b xb hb pa np pc ia ni ic),Code.wp Tryz.prog Zio (bodyPost Tryz.prog Tryz.f55 fun e w'=>SpE (XB V xs s) w base sb e w') ⟨(.agg #[.int .i64 (V:Int),.slice (some ⟨G,0,none⟩) n c]::.pointer (some ⟨sb,0,none⟩)::.pointer (some ⟨w.heap.size,0,none⟩)::c3::.pointer (some ⟨w.heap.size+1,0,none⟩)::.int .i64 rk::.int .i64 ((b:Nat):Int)::.int .i64 ((n:Nat):Int)::.pointer (some ⟨xb,0,none⟩)::c9::tl).toArray,[]⟩ wx
theorem ZeZ(V G n c:Nat)(xs:List Xf)(lab:Nat->Nat × Nat × Nat)(base:Nat)(pv iv:Nat->Value)(av:Nat->Nat->Value)(sb B:Nat)(s:Sr)(w:World)(hF:Hid (Z5 w lab base (.slice (some ⟨G,0,none⟩) n c) xs pv iv av))(hn:Hid (n=xs.length))(h1:1<=n)(hn2:n<=11)(hbs:base<=w.heap.size)(hfr:Hid (∀b,w.heap.size<=b->lab b=(0,0,0)))(hdr:Hid (Zs w sb B s))(hbb:B<=base)(hV:V<=1000)(hsm:Hid (JK xs))(harg:Hid (PhA xs))(hK:Hid (SpK (nextP s 16).1)) :
 Calls Tryz.prog 55 #[.agg #[.int .i64 (V:Int),.slice (some ⟨G,0,none⟩) n c],.pointer (some ⟨sb,0,none⟩)] w fun e w'=>SpE (XB V xs s) w base sb e w':=by
 have HP:Hid (XB V xs s=if (nextP s 16).1=7 then ⟨V,[]⟩else ⟨if (nextP s 16).1=0 then (V:Int)+(nextP (nextP (nextP s 16).2 (n:Int)).2 2).1*2-1 else V,xs.set (nextP (nextP s 16).2 (n:Int)).1.toNat (YD (nextP s 16).1 V n (nextP (nextP s 16).2 (n:Int)).2 (xs.getD (nextP (nextP s 16).2 (n:Int)).1.toNat XL))⟩):=Xa (by rw[hn.out];rfl);have HS0:Hid (Wc w ((w.alloc (.cells #[.int .i64 (V:Int),.slice (some ⟨G,0,none⟩) n c] 25)).alloc (.cells #[.int .i64 0,.slice none 0 0] 25)) lab base sb B s V G n c xs pv iv av):=Xa (by
  have k:XK w ((w.alloc (.cells #[.int .i64 (V:Int),.slice (some ⟨G,0,none⟩) n c] 25)).alloc (.cells #[.int .i64 0,.slice none 0 0] 25)) lab lab base (fun _=>True):=((XK.box _).trans (XK.box _)).weak (fun _ _=>⟨trivial,trivial⟩);refine⟨hF.sp k 0 (fun _ _ _ _ _=>trivial) (Or.inl (fun _ _=>trivial)),(hdr.box _).box _,hbb,rfl,rfl,rfl,k.size,fun b hb _=>(Below.heap_alloc _ _ _ (by simp;omega)).trans (Below.heap_alloc _ _ _ (by omega)),hfr.out,hbs,(Bx.new _ _ _).box _,?_⟩;have:=Bx.new (w.alloc (.cells #[.int .i64 (V:Int),.slice (some ⟨G,0,none⟩) n c] 25)) #[.int .i64 0,.slice none 0 0] 25;rwa[World.size_alloc]at this)
 clear hF hdr
 go_enter Tryz.func55,Tryz.ntmps55
 go_wp2_with fail
 generalize (w.alloc (.cells #[.int .i64 (V:Int),.slice (some ⟨G,0,none⟩) n c] 25)).alloc (.cells #[.int .i64 0,.slice none 0 0] 25)=w0 at *;refine(Xv sb B s 16 w0 (Xa HS0.dr) (by omega) (by omega)).mono ?_;rintro e w1 ⟨rfl,hd,hg⟩;have hl1:=fun h=>Xx s (n:=16) h
 have HS1:=Xa (HS0.call hg hd);obtain⟨rk,s1,hrs⟩:∃r s9,nextP s 16=(r,s9):=⟨_,_,rfl⟩;rw[hrs]at HS1 HP hl1 |-;dsimp only at HS1 HP hl1 |-;rw[hrs]at hK;dsimp only at hK;clear hd hg hrs HS0 hl1;have x1:w1.cell? ⟨w.heap.size,1,none⟩=some (.slice (some ⟨G,0,none⟩) n c):=Bx.cell HS1.box rfl
 go_wp2_with fail
 refine(Xv sb B s1 (n:Int) w1 (Xa HS1.dr) (by omega) (by omega)).mono ?_;rintro e w2 ⟨rfl,hd,hg⟩;have hl2:=fun h=>Xx s1 (n:=(n:Int)) h
 have HS2:=Xa (HS1.call hg hd);obtain⟨rb,s2,hrs⟩:∃r s9,nextP s1 (n:Int)=(r,s9):=⟨_,_,rfl⟩;rw[hrs]at HS2 HP hl2 |-;dsimp only at HS2 HP hl2 |-;have hlb:=hl2 (by omega);obtain⟨b,rfl⟩:=Zr hlb.1;rw[Int.toNat_natCast]at HP;clear hd hg hrs HS1 x1 hl2;have hb:b<xs.length:=by have:=hn.out;omega
 have hbn:b<n:=by omega
 have hxb:xs.getD b XL=xs[b]:=by simp[hb]
 rw[hxb]at HP;clear hxb;have HSMB:=Xa (hsm.out _ (List.getElem_mem hb));have HAG:=Xa (harg.out _ (List.getElem_mem hb));have x1:w2.cell? ⟨w.heap.size,1,none⟩=some (.slice (some ⟨G,0,none⟩) n c):=Bx.cell HS2.box rfl;obtain⟨p0,p1,⟨t0,t1,t2,t3⟩⟩:=HS2.fn.cells hb;obtain⟨pa,pc,hpv⟩:=(HS2.fn.phis b hb).form;obtain⟨np,hnp⟩:∃np,np=xs[b].phis.length:=⟨_,rfl⟩;rw[<-hnp]at hpv;obtain⟨ia,ic,hiv⟩:=(HS2.fn.ins b hb).form;obtain⟨ni,hni⟩:∃ni,ni=xs[b].instrs.length:=⟨_,rfl⟩;rw[<-hni]at hiv;rw[hpv]at p0;rw[hiv]at p1;have HNP:=Xa hnp;have HNI:=Xa hni;have hni2:ni<=1000:=by have:=HSMB.out;omega
 have hnp2:np<=1000:=by have:=HSMB.out;omega
 clear hnp hni;have HSX:=Xa (HS2.hand hb);rw[hpv,hiv]at HSX;have HRW:Hid (∀j (hj:j<xs[b].phis.length),Xq (w2.alloc (.cells #[.slice pa np pc,.slice ia ni ic,.int .i64 xs[b].term.kind,.int .i64 xs[b].term.a,.int .i64 xs[b].term.to,.int .i64 xs[b].term.els] 43)) lab (4,b,j) base 2 1 (av b j) xs[b].phis[j].args.length (Xo xs[b].phis[j].args)):=Xa (fun j hj=>(HS2.fn.args b hb j hj).sp (XK.box _) (fun _ _=>trivial));have HXL:Hid (w.heap.size+2<=w2.heap.size):=Xa HS2.res.lt;have HPV:=Xa hpv;have HIV:=Xa hiv;clear hpv hiv
 go_upto_region 4 with fail
 go_cut [8] from 10 to 180 (fun v wy=>v=.pointer (some ⟨w2.heap.size,0,none⟩)/\Hid (SmW wy (w2.alloc (.cells #[.slice pa np pc,.slice ia ni ic,.int .i64 xs[b].term.kind,.int .i64 xs[b].term.a,.int .i64 xs[b].term.to,.int .i64 xs[b].term.els] 43))))
 case first =>
  go_wp2_with fail
  go_meet;exact⟨rfl,Xa rfl⟩
 case rest =>
  obtain⟨rfl,h⟩:=hcut;have e:wc=(w2.alloc (.cells #[.slice pa np pc,.slice ia ni ic,.int .i64 xs[b].term.kind,.int .i64 xs[b].term.a,.int .i64 xs[b].term.to,.int .i64 xs[b].term.els] 43)):=h.out;rw[<-e]at HSX HRW;rename_i aK;exact aK _ _ (hK.out V G n c xs lab base pv iv av sb B s s2 w wc b _ hb pa np pc ia ni ic _ _ _ rfl ⟨hn,h1,hn2,hbs,hbb,hV,HSMB,HAG,hbn,HNP,HNI,hni2,hnp2,HSX,HRW,HIV,HP⟩)
end Go.Proofs.YtkehcdfalcakmaaGreatDoor
