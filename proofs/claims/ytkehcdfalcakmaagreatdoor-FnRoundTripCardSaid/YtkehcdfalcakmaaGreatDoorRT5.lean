import Derived.Test.YtkehcdfalcakmaaGreatDoorRT4
import Derived.Laws.IdiomStrings
import Derived.Laws.Strings2
namespace Go.Proofs.YtkehcdfalcakmaaGreatDoor
set_option maxHeartbeats 4000000
open Go.RowKit
noncomputable def drawL(s:Sr):Fn:=if (nextP s 16).1=0 then limitP (nextP s 16).2 else drawF (nextP s 16).2
theorem Zex(sb B:Nat)(s:Sr)(w:World)(h:Hid (Zs w sb B s)) :
 Calls Tryz.prog 10 #[.pointer (some ⟨sb,0,none⟩)] w fun e w'=>DrE (drawL s) w sb e w':=by
 have HP:Hid (drawL s=if (nextP s 16).1=0 then limitP (nextP s 16).2 else drawF (nextP s 16).2):=Xa rfl;have hsb:Hid (sb<w.heap.size):=Xa (by have:=h.bB;have:=h.sB;omega);have HB0:=Xa (h.box (.cells #[.int .i64 0,.slice none 0 0] 25))
 go_enter Tryz.func10,Tryz.ntmps10
 go_wp2_with fail
 refine(Xv sb B s 16 _ HB0 (by omega) (by omega)).mono ?_;rintro e w1 ⟨rfl,hd,hg⟩;obtain⟨k,s1,hrs⟩:∃r s9,nextP s 16=(r,s9):=⟨_,_,rfl⟩;rw[hrs]at hd HP |-;dsimp only at hd HP |-;have HD:=Xa hd;have HG:=Xa hg;have hw1:Hid (w.heap.size<w1.heap.size):=Xa (Nat.lt_of_lt_of_le (by simp) hg.size);clear hd hg hrs h HB0;by_cases h0:k=0
 ·have hk:(k==0)=true:=by simpa using h0
  have HP2:Hid (drawL s=limitP s1):=Xa (by rw[HP.out,if_pos h0]);clear h0 HP
  go_wp2_with fail
  refine(ZdB sb B s1 w1 HD).mono ?_;rintro e w3 ⟨⟨a,m,c',rfl,hm,ho⟩,ht⟩;have HO:=Xa ho;have HM:=Xa hm;have HT:=Xa ht;clear ho hm ht;generalize limitP s1=F at *;have HF:Hid (∀u0 u1,Bx w3 w.heap.size #[.int .i64 0,.slice none 0 0] 25/\Vh w ((w3.setCell ⟨w.heap.size,0,none⟩ u0).setCell ⟨w.heap.size,1,none⟩ u1) w.heap.size sb a F.blocks):=Xa (fun u0 u1=>Vh.fin (u0:=u0) (u1:=u1) hsb.out HG.out hw1.out HO.out);have f0:w3.cell? ⟨w.heap.size,0,none⟩=some (.int .i64 0):=Bx.cell (HF.out undef undef).1 rfl;have f1:w3.cell? ⟨w.heap.size,1,none⟩=some (.slice none 0 0):=Bx.cell (HF.out undef undef).1 rfl;have fz:=Bx.thaw (HF.out undef undef).1;go_wp2;rw[HP2.out];exact bodyPost_ret (v:=.agg #[.int .i64 F.values,.slice a m c']) (by simp[results,Tryz.results10,go_sem,f0,f1]) rfl ⟨⟨_,m,_,rfl,HM.out,(HF.out _ _).2⟩,HT.out⟩
 ·have hk:(k==0)=false:=by simpa using h0
  have HP2:Hid (drawL s=drawF s1):=Xa (by rw[HP.out,if_neg h0]);clear h0 HP
  go_wp2_with fail
  refine(ZdR sb B s1 w1 HD).mono ?_;rintro e w3 ⟨⟨a,m,c',rfl,hm,ho⟩,ht⟩;have HO:=Xa ho;have HM:=Xa hm;have HT:=Xa ht;clear ho hm ht;generalize drawF s1=F at *;have HF:Hid (∀u0 u1,Bx w3 w.heap.size #[.int .i64 0,.slice none 0 0] 25/\Vh w ((w3.setCell ⟨w.heap.size,0,none⟩ u0).setCell ⟨w.heap.size,1,none⟩ u1) w.heap.size sb a F.blocks):=Xa (fun u0 u1=>Vh.fin (u0:=u0) (u1:=u1) hsb.out HG.out hw1.out HO.out);have f0:w3.cell? ⟨w.heap.size,0,none⟩=some (.int .i64 0):=Bx.cell (HF.out undef undef).1 rfl;have f1:w3.cell? ⟨w.heap.size,1,none⟩=some (.slice none 0 0):=Bx.cell (HF.out undef undef).1 rfl;have fz:=Bx.thaw (HF.out undef undef).1;go_wp2;rw[HP2.out];exact bodyPost_ret (v:=.agg #[.int .i64 F.values,.slice a m c']) (by simp[results,Tryz.results10,go_sem,f0,f1]) rfl ⟨⟨_,m,_,rfl,HM.out,(HF.out _ _).2⟩,HT.out⟩
structure DrO(F:Fn)(w w':World)(a:Option Addr)(m:Nat):Prop where
 len:m=F.blocks.length
 low:Below w.heap.size w w'
 at_:X8 w' w.heap.size w'.heap.size a F.blocks
 tot:F.blocks.length+Xn F.blocks<=1048576
theorem ZdP(a:Option Addr)(n c:Nat)(bs:List UInt8)(L B:Nat)(w:World)(ha:Hid (XE w L B a bs))(hx:Hid (n=bs.length))(hn:n<=1048576)(hB:B<=w.heap.size) :
 Calls Tryz.prog 4 #[.slice a n c] w fun e w'=>∃a' m c',e=.returned (.agg #[.int .i64 (drawL (Vf bs)).values,.slice a' m c'])/\DrO (drawL (Vf bs)) w w' a' m:=by
 have HA:=Xa (ha.keep (Below.alloc (Below.refl B w) hB (.cells #[.int .i64 0,.slice none 0 0] 25)))
 go_enter Tryz.func4,Tryz.ntmps4
 go_wp2_with fail
 refine(Zc0 a n c bs L B _ HA hx hn (by simp;omega)).mono ?_;rintro e w1 ⟨rfl,hb1,hs1,hsr⟩;rw[World.size_alloc]at hb1 hs1 hsr |-;have HD:Hid (Zs w1 (w.heap.size+1) w1.heap.size (Vf bs)):=Xa ⟨hsr,ZgV bs,hs1,Nat.le_refl _⟩;have HB1:=Xa hb1;have hs2:w.heap.size+2<=w1.heap.size:=by omega
 clear hb1 hs1 hsr HA
 go_wp2_with fail
 refine(Zex (w.heap.size+1) w1.heap.size (Vf bs) w1 HD).mono ?_;rintro e w2 ⟨⟨a',m,c',rfl,hm,ho⟩,ht⟩;have HM:=Xa hm;have HO:=Xa ho;have HT:=Xa ht;clear hm ho ht;have HBX:Hid (Bx w2 w.heap.size #[.int .i64 0,.slice none 0 0] 25):=Xa (((Bx.new w _ _).keep (HB1.block _ (by omega))).keep (HO.low _ (by omega) (by omega)));have f0:w2.cell? ⟨w.heap.size,0,none⟩=some (.int .i64 0):=Bx.cell HBX.out rfl;have f1:w2.cell? ⟨w.heap.size,1,none⟩=some (.slice none 0 0):=Bx.cell HBX.out rfl;have fz:=Bx.thaw HBX.out;go_wp2;refine bodyPost_ret (v:=.agg #[.int .i64 (drawL (Vf bs)).values,.slice a' m c']) (by simp[results,Tryz.results4,go_sem,f0,f1]) rfl ⟨a',m,c',rfl,HM.out,?_,?_,HT.out⟩
 ·have k1:Below w.heap.size w w1:=(Below.alloc (Below.refl _ _) (Nat.le_refl _) _).trans (HB1.mono (by omega))
  have k2:Below w.heap.size w w2:=⟨HO.os.trans k1.os,HO.tape.trans k1.tape,HO.output.trans k1.output,Nat.le_trans k1.size HO.size,fun q hq=>(HO.low q (by omega) (by omega)).trans (k1.block q hq)⟩;exact(k2.setCell (p:=⟨w.heap.size,0,none⟩) (Nat.le_refl _) _).setCell (p:=⟨w.heap.size,1,none⟩) (Nat.le_refl _) _
 ·have hS:X7 w1.heap.size w2.heap.size w2 ((w2.setCell ⟨w.heap.size,0,none⟩ (.int .i64 (drawL (Vf bs)).values)).setCell ⟨w.heap.size,1,none⟩ (.slice a' m c')):=fun q h1 _=>by
   have hq:q≠w.heap.size:=by omega
   exact(Below.heap_setCell _ _ _ _ hq).trans (Below.heap_setCell _ _ _ _ hq)
  exact(HO.at_.keepS hS).mono (by omega) (by simp[World.setCell])
end Go.Proofs.YtkehcdfalcakmaaGreatDoor
namespace Go.Proofs.YtkehcdfalcakmaaGreatDoor
def Ya(c:UInt8):Bool:=decide (48<=c.toNat)&&decide (c.toNat<=57)
def digitsOk(f:List UInt8)(most:Nat):Bool:=!(f.length==0||decide (most<f.length)||(f.head? == some 48&&decide (1<f.length)))&&f.all Ya
def amount(f:List UInt8):Nat:=f.foldl (fun a c=>a*10+(c.toNat-48)) 0
theorem Va(f:List UInt8)(c:UInt8):amount (f++[c])=amount f*10+(c.toNat-48):=by simp[amount]
theorem ZbG(f:List UInt8):∀a:Nat,f.all Ya=true->f.foldl (fun a c=>a*10+(c.toNat-48)) a<(a+1)*10 ^ f.length:=by
 induction f with
 | nil=>intro a _;simp
 | cons c r ih =>
  intro a h;rw[List.all_cons,Bool.and_eq_true]at h;have h2:=h.1;simp only[Ya,Bool.and_eq_true,decide_eq_true_eq]at h2;have h1:=ih (a*10+(c.toNat-48)) h.2;rw[List.foldl_cons,List.length_cons,Nat.pow_succ];refine Nat.lt_of_lt_of_le h1 ?_
  calc (a*10+(c.toNat-48)+1)*10 ^ r.length<=((a+1)*10)*10 ^ r.length:=Nat.mul_le_mul_right _ (by omega)
   _=(a+1)*(10 ^ r.length*10):=by rw[Nat.mul_assoc,Nat.mul_comm 10]
theorem WF(f:List UInt8)(h:f.all Ya=true):amount f<10 ^ f.length:=by
 have:=ZbG f 0 h;simpa [amount]using this
def Jz(f:List UInt8):Int:=if digitsOk f 4=true then (amount f:Int)else -1
def Tx:List UInt8->Bool
 | 45::c::r=>c != 48&&Tx (c::r)&&c != 45
 | f=>digitsOk f 10&&decide (amount f<=1000000000)
def J0(f:List UInt8):Int:=if f.head?=some 45 then -(amount f.tail:Int)else amount f
def Za(sep:UInt8):List UInt8->List UInt8->List (List UInt8)
 | cur,[]=>[cur]
 | cur,c::r=>if c=sep then cur::Za sep [] r else Za sep (cur++[c]) r
def cutS(text:List UInt8)(sep:UInt8):List (List UInt8):=Za sep [] text
def Xt(f:List UInt8):Bool:=decide (0<f.length)&&f.all fun c=>decide (33<=c.toNat)&&decide (c.toNat<=126)
def fieldsS(line:List UInt8):List (List UInt8):=if (cutS line 32).all Xt=true then cutS line 32 else []
end Go.Proofs.YtkehcdfalcakmaaGreatDoor
namespace Go.Proofs.YtkehcdfalcakmaaGreatDoor
open Go.RowKit
theorem Zgs(c:UInt8)(r:List UInt8):Tx (45::c::r)=(c != 48&&Tx (c::r)&&c != 45):=by rw[Tx]
theorem ZaE(f:List UInt8)(h:∀c r,f≠45::c::r):Tx f=(digitsOk f 10&&decide (amount f<=1000000000)):=by
 rw[Tx];intro c r e;exact h c r e
theorem ZcC{f:List UInt8}{m:Nat}(h:digitsOk f m=true):f.length<=m/\f.all Ya=true/\0<f.length:=by
 unfold digitsOk at h;simp only[Bool.and_eq_true,Bool.not_eq_true',Bool.or_eq_false_iff,decide_eq_false_iff_not,beq_eq_false_iff_ne]at h;exact⟨by omega,h.2,by omega⟩
def Zik(l:List (List UInt8)):List Value:=l.map fun f=>Value.string (Xs f)
theorem Th{w w':World}{B e s n:Nat}{u:Value}{xs:List Value}(ho:w.ownsRow B e s u n xs)(h:Below w.heap.size w w'):w'.ownsRow B e s u n xs:=by
 refine ho.kept (row:=none) ⟨h.os,h.tape,h.output,h.size,fun k hk _=>h.block k hk⟩ ?_;cases hu:u.ownBlock with
 | none=>exact Or.inl rfl
 | some g=>exact Or.inr (by simp)
theorem VH(sep:UInt8):∀(r cur:List UInt8),(Za sep cur r).length<=r.length+1
 | [],cur=>by simp[Za]
 | c::r,cur=>by
  rw[Za];split
  ·have:=VH sep r [];simp only[List.length_cons];omega
  ·have:=VH sep r (cur++[c]);simp only[List.length_cons];omega
theorem KD(sep:UInt8):∀(r cur:List UInt8),∀f∈Za sep cur r,f.length<=cur.length+r.length
 | [],cur,f,h=>by simp[Za]at h;subst h;simp
 | c::r,cur,f,h=>by
  rw[Za]at h;split at h
  ·rcases List.mem_cons.1 h with rfl | h
   ·simp only[List.length_cons];omega
   ·have:=KD sep r [] f h;simp only[List.length_cons,List.length_nil]at this |-;omega
  ·have:=KD sep r (cur++[c]) f h;simp only[List.length_append,List.length_cons,List.length_nil]at this |-;omega
def TJ(c:UInt8):Bool:=decide (33<=c.toNat)&&decide (c.toNat<=126)
theorem TP(f:List UInt8):Xt f=(decide (0<f.length)&&f.all TJ):=rfl
def U3(w:List UInt8):Nat->Nat->Int
 | 0,_=>0
 | n+1,k=>if wordS k=w then k else U3 w n (k+1)
def YW(w:List UInt8):Int:=U3 w 10 1
theorem Ul(f:List UInt8):(Xs f).toList=f:=by rw[ByteArray.toList_eq];rfl
theorem ZbF(w:List UInt8)(n k:Nat):U3 w (n+1) k=if wordS k=w then (k:Int)else U3 w n (k+1):=rfl
def Wv(f:List UInt8):Bool:=f==[106,117,109,112]||f==[98,114,97,110,99,104]||f==[114,101,116]
def Yw:List UInt8:=[98,108,111,99,107]
def Jx:List UInt8:=[106,117,109,112]
def TQ:List UInt8:=[114,101,116]
def YL:List UInt8:=[98,114,97,110,99,104]
def wPhi:List UInt8:=[112,104,105]
def wConst:List UInt8:=[99,111,110,115,116]
def JV(w:List UInt8)(n:Nat):Nat :=
 if YW w≠0 then 1+(ZE (YW w)).size else if w=Yw then 1 else if w=Jx then 2 else if w=TQ then 2 else if w=YL then 4 else if w=wPhi then (if n<3 then 3 else n)else 0
def Zbw(fs:List (List UInt8))(i:Nat)(f:List UInt8):Bool:=if fs.head?=some wConst/\i=2 then Tx f else decide (0<=Jz f)
def KI(fs:List (List UInt8))(k:Nat):Bool:=(List.range k).all fun i=>match fs[i+1]? with | some f=>Zbw fs (i+1) f | none=>true
def XQ(fs:List (List UInt8)):Int :=
 if JV (fs.headD []) fs.length=0 then 5 else if fs.length≠JV (fs.headD []) fs.length then 6 else if KI fs (fs.length-1)=true then 0 else 7
theorem J9(w:List UInt8):∀(n k:Nat),U3 w n k=0\/∃j:Nat,k<=j/\j<k+n/\U3 w n k=j/\wordS j=w
 | 0,k=>Or.inl rfl
 | n+1,k=>by
  rw[ZbF];split
  ·rename_i h;exact Or.inr ⟨k,Nat.le_refl _,by omega,rfl,h⟩
  ·rcases J9 w n (k+1)with h | ⟨j,h1,h2,h3,h4⟩
   ·exact Or.inl h
   ·exact Or.inr ⟨j,by omega,by omega,h3,h4⟩
theorem VW{w:List UInt8}(h:YW w≠0):(1<=YW w/\YW w<=10)/\w≠Yw/\w≠Jx/\w≠TQ/\w≠YL/\w≠wPhi:=by
 rcases J9 w 10 1 with h0 | ⟨j,h1,h2,h3,rfl⟩
 ·exact absurd h0 h
 ·have e:YW (wordS j)=j:=h3
  refine⟨by rw[e];omega,?_⟩;have hc:j=1\/j=2\/j=3\/j=4\/j=5\/j=6\/j=7\/j=8\/j=9\/j=10:=by omega
  rcases hc with rfl | rfl | rfl | rfl | rfl | rfl | rfl | rfl | rfl | rfl<;>decide
def KA(op:Int):List UInt8:=(ZE op).data.toList
def Zi5(x:Xz)(c:UInt8)(v:Int):Xz:=if c=100 then ⟨x.op,v,x.a,x.b,x.imm⟩else if c=97 then ⟨x.op,x.dst,v,x.b,x.imm⟩else if c=98 then ⟨x.op,x.dst,x.a,v,x.imm⟩else if c=105 then ⟨x.op,x.dst,x.a,x.b,v⟩else x
def ZiC(op:Int)(c:UInt8)(f:List UInt8):Int:=if op=1/\c=105 then J0 f else Jz f
def ZaS(fs:List (List UInt8))(op:Int):Nat->Xz
 | 0=>⟨op,0,0,0,0⟩
 | k+1=>Zi5 (ZaS fs op k) ((KA op).getD k 0) (ZiC op ((KA op).getD k 0) (fs.getD (k+1) []))
def Ks(fs:List (List UInt8)):Xz:=ZaS fs (YW (fs.headD [])) (KA (YW (fs.headD []))).length
def ZaD(fs:List (List UInt8)):XN :=
 if fs.headD []=Jx then ⟨1,0,Jz (fs.getD 1 []),0⟩else if fs.headD []=TQ then ⟨3,Jz (fs.getD 1 []),0,0⟩else ⟨2,Jz (fs.getD 1 []),Jz (fs.getD 2 []),Jz (fs.getD 3 [])⟩
structure RdI(w:World)(X:Nat)(x:Xz)(W:World):Prop where
 below:Below w.heap.size w W
 ins:Y0 W X 0 x
 fx:∀q,W.frozen? ⟨X,q,none⟩=false
 res:∀q,q<5->W.cell? ⟨w.heap.size,q,none⟩=some (.int .i64 0)
 fr:∀q,W.frozen? ⟨w.heap.size,q,none⟩=false
 lt:X<W.heap.size
 wx:w.heap.size<X
theorem RdI.next{w W W':World}{X:Nat}{x:Xz}(h:RdI w X x W)(k:Below W.heap.size W W'):RdI w X x W':=by
 have h1:=h.lt;have h2:=h.wx;exact⟨Xi h.below k,h.ins.keepS (k.block X h1),fun q=>(k.frozen (p:=⟨X,q,none⟩) h1).trans (h.fx q),fun q hq=>(k.cell (p:=⟨w.heap.size,q,none⟩) (by show w.heap.size<_;omega)).trans (h.res q hq),fun q=>(k.frozen (p:=⟨w.heap.size,q,none⟩) (by show w.heap.size<_;omega)).trans (h.fr q),Nat.lt_of_lt_of_le h1 k.size,h2⟩
theorem RdI.put{w W:World}{X:Nat}{x y:Xz}{i:Nat}{v:Value}(h:RdI w X x W)(hy:Y0 (W.setCell ⟨X,i,none⟩ v) X 0 y):RdI w X y (W.setCell ⟨X,i,none⟩ v):=by
 have h2:=h.wx;exact⟨h.below.setCell (p:=⟨X,i,none⟩) (by show w.heap.size<=X;omega) _,hy,fun q=>by rw[World.frozen?_setCell];exact h.fx q,fun q hq=>by rw[World.cell?_setCell_other _ _ _ _ (by intro e;injection e with e1;omega)];exact h.res q hq,fun q=>by rw[World.frozen?_setCell];exact h.fr q,by rw[Xd];exact h.lt,h2⟩
end Go.Proofs.YtkehcdfalcakmaaGreatDoor
namespace Go.Proofs.YtkehcdfalcakmaaGreatDoor
open Go.RowKit
theorem ZgB(g j:Nat):(⟨g,0,none⟩:Addr).add j=⟨g,j,none⟩:=by unfold Addr.add;split<;>simp_all
theorem YY{w w1:World}{B t s:Nat}{x:Value}{n:Nat}{xs:List Value}(h:w.ownsRow B t s x n xs)(k:∀b,x.ownBlock=some b->w1.heap[b]?=w.heap[b]?):w1.ownsRow B t s x n xs:=by
 obtain⟨hl,h | ⟨g,cap,cur,rfl,hg,hh,hc⟩⟩:=h
 ·exact⟨hl,Or.inl h⟩
 ·exact⟨hl,Or.inr ⟨g,cap,cur,rfl,hg,(k g rfl).trans hh,hc⟩⟩
theorem ZaN{w:World}{base e s g n c:Nat}{cs:List Value}(h:w.ownsRow base e s (.slice (some ⟨g,0,none⟩) n c) n cs){j:Nat}(hj:j<cs.length):w.cell? ⟨g,j,none⟩=some cs[j]:=by
 have:=h.cells (g:=g) rfl j cs[j] (by simp);rw[ZgB]at this;exact this
theorem Kw{w:World}{base e s g n c:Nat}{cs:List Value}(h:w.ownsRow base e s (.slice (some ⟨g,0,none⟩) n c) n cs)(o:Nat):w.frozen? ⟨g,o,none⟩=false:=by
 rcases h.2 with⟨e2,_⟩ | ⟨g',cap,cur,e2,_,hh,_⟩
 ·cases e2
 ·injection e2 with e3
  injection e3 with e3;injection e3 with e4;subst e4;simp[World.frozen?,hh]
theorem Z9{w1 w2:World}{base e s g g' n n' c c':Nat}{cs news:List Value}(h1:w1.ownsRow base e s (.slice (some ⟨g,0,none⟩) n c) n cs)(h2:w2.ownsRow base e s (.slice (some ⟨g',0,none⟩) n' c') n' (cs++news)){j:Nat}(hj:j<n*s):w2.cell? ⟨g',j,none⟩=w1.cell? ⟨g,j,none⟩:=by
 have hl:=h1.1;rw[ZaN h1 (by omega),ZaN h2 (by rw[List.length_append];omega),List.getElem_append_left (by omega)]
theorem T7{w2:World}{base e s g' n n' c':Nat}{cs news:List Value}(hl:cs.length=n*s)(h2:w2.ownsRow base e s (.slice (some ⟨g',0,none⟩) n' c') n' (cs++news)){j:Nat}(hj:j<news.length):w2.cell? ⟨g',n*s+j,none⟩=some news[j]:=by
 rw[ZaN h2 (by rw[List.length_append];omega),List.getElem_append_right (by omega)];simp[hl]
theorem JM{w:World}{base e s g n c:Nat}{cs:List Value}(h:w.ownsRow base e s (.slice (some ⟨g,0,none⟩) n c) n cs)(k:Nat)(v:Value):∃cs',(w.setCell ⟨g,k,none⟩ v).ownsRow base e s (.slice (some ⟨g,0,none⟩) n c) n cs':=by
 rcases h.2 with⟨e2,_⟩ | ⟨g',cap,cur,e2,hb,hh,h1,h2,h3,h4⟩
 ·cases e2
 ·injection e2 with e3 _ e5
  injection e3 with e3;injection e3 with e4;subst e4 e5;have h5:(w.setCell ⟨g,k,none⟩ v).heap[g]?=some (.cells (cur.setIfInBounds k v) e (0,0)):=by
   simp only[World.setCell,Array.getElem?_modify,hh];simp
  refine⟨(cur.setIfInBounds k v).toList.take (n*s),?_,Or.inr ⟨g,c,_,rfl,hb,h5,h1,h2,by simpa using h3,rfl⟩⟩;have:n*s<=cur.size:=by rw[h3];exact Nat.mul_le_mul_right _ h1
  simp;omega
structure Jg(w:World)(H:Nat)(pa:Option Addr)(pc:Nat)(ps:List Ph):Prop where
 own:∃cs,w.ownsRow H 46 2 (.slice pa ps.length pc) ps.length cs
 at_:∀i (h:i<ps.length),∃g a c,pa=some ⟨g,0,none⟩/\w.cell? ⟨g,i*2,none⟩=some (.int .i64 ps[i].dst)/\w.cell? ⟨g,i*2+1,none⟩=some (.slice a ps[i].args.length c) /\
  ∀j (hj:j<ps[i].args.length),∃b o,a=some ⟨b,o,none⟩/\(H<=b/\b<w.heap.size)/\b≠g/\w.cell? ⟨b,o+j,none⟩=some (.int .i64 ps[i].args[j])
theorem Jg.nil(w:World)(H:Nat):Jg w H none 0 []:=⟨⟨[],World.ownsRow_nil _ _ _ _⟩,fun i h=>absurd h (by simp)⟩
theorem Jg.phs{w:World}{H:Nat}{pa:Option Addr}{pc:Nat}{ps:List Ph}(h:Jg w H pa pc ps):ZN w H w.heap.size pa ps:=fun i hi=>by
 obtain⟨g,a,c,e,h1,h2,h3⟩:=h.at_ i hi;obtain⟨cs,hcs⟩:=h.own;subst e;refine⟨g,0,rfl,hcs.lt g rfl,a,c,by rw[Nat.zero_add];exact h1,by rw[Nat.zero_add];exact h2,fun j hj=>?_⟩;obtain⟨b,o,e,hb,_,hc⟩:=h3 j hj;exact⟨b,o,e,hb,hc⟩
theorem Jg.keep{w w':World}{H:Nat}{pa:Option Addr}{pc:Nat}{ps:List Ph}(h:Jg w H pa pc ps)(k:X7 H w.heap.size w w')(hs:w.heap.size<=w'.heap.size):Jg w' H pa pc ps:=by
 obtain⟨cs,hcs⟩:=h.own;refine⟨⟨cs,YY hcs (fun b e=>k b (hcs.lt b e).1 (hcs.lt b e).2)⟩,fun i hi=>?_⟩;obtain⟨g,a,c,e,h1,h2,h3⟩:=h.at_ i hi;subst e;have hg:=hcs.lt g rfl;have q:=k g hg.1 hg.2;refine⟨g,a,c,rfl,(Xc q).trans h1,(Xc q).trans h2,fun j hj=>?_⟩;obtain⟨b,o,e,hb,hne,hc⟩:=h3 j hj;exact⟨b,o,e,by omega,hne,(Xc (k b hb.1 hb.2)).trans hc⟩
theorem Jg.push{w1 w2:World}{H:Nat}{pa:Option Addr}{pc:Nat}{ps:List Ph}(h:Jg w1 H pa pc ps){cs:List Value}(hcs:w1.ownsRow H 46 2 (.slice pa ps.length pc) ps.length cs)(p:Ph){a:Option Addr}{c:Nat}{g' cap:Nat}
 (ha:∀j (hj:j<p.args.length),∃b o,a=some ⟨b,o,none⟩/\(H<=b/\b<w1.heap.size)/\some b≠(Value.slice pa ps.length pc).ownBlock/\w1.cell? ⟨b,o+j,none⟩=some (.int .i64 p.args[j]))
 (h2:w2.ownsRow H 46 2 (.slice (some ⟨g',0,none⟩) (ps.length+1) cap) (ps.length+1) (cs++[.int .i64 p.dst,.slice a p.args.length c])) (hg:w1.grownBy w2 (Value.slice pa ps.length pc).ownBlock) (hat:(Value.slice pa ps.length pc).ownBlock=some g'\/g'=w1.heap.size) :
 Jg w2 H (some ⟨g',0,none⟩) cap (ps++[p]):=by
 have hgs:=hg.size;have hl:=hcs.1;have hlen:(ps++[p]).length=ps.length+1:=by simp
 refine⟨⟨_,by rw[hlen];exact h2⟩,fun i hi=>?_⟩;have rows:∀(vs:List Int)(a:Option Addr),(∀j (hj:j<vs.length),∃b o,a=some ⟨b,o,none⟩/\(H<=b/\b<w1.heap.size)/\some b≠(Value.slice pa ps.length pc).ownBlock/\w1.cell? ⟨b,o+j,none⟩=some (.int .i64 vs[j]))->∀j (hj:j<vs.length),∃b o,a=some ⟨b,o,none⟩/\(H<=b/\b<w2.heap.size)/\b≠g'/\w2.cell? ⟨b,o+j,none⟩=some (.int .i64 vs[j]):=fun vs a q j hj=>by
  obtain⟨b,o,e,hb,hne,hc⟩:=q j hj;refine⟨b,o,e,by omega,?_,(Xc (hg.block b hb.2 hne)).trans hc⟩;rcases hat with f | f
  ·intro e2;rw[<-e2]at f;exact hne f.symm
  ·omega
 by_cases hik:i<ps.length
 ·obtain⟨g,a0,c0,e,h1,h3,h4⟩:=h.at_ i hik
  subst e;rw[List.getElem_append_left hik];refine⟨g',a0,c0,rfl,(Z9 hcs h2 (by omega)).trans h1,(Z9 hcs h2 (by omega)).trans h3,rows _ _ (fun j hj=>?_)⟩;obtain⟨b,o,e,hb,hne,hc⟩:=h4 j hj;exact⟨b,o,e,hb,fun e2=>hne (by injection e2),hc⟩
 ·have hie:i=ps.length:=by omega
  subst hie;have e1:(ps++[p])[ps.length]=p:=by simp
  rw[e1];refine⟨g',a,c,rfl,?_,?_,rows _ _ ha⟩
  ·have:=T7 (n:=ps.length) hl h2 (j:=0) (by simp)
   simpa using this
  ·have:=T7 (n:=ps.length) hl h2 (j:=1) (by simp)
   simpa using this
structure Zf(w:World)(H:Nat)(ia:Option Addr)(ic:Nat)(xs:List Xz):Prop where
 own:∃cs,w.ownsRow H 53 5 (.slice ia xs.length ic) xs.length cs
 at_:∀i (h:i<xs.length),∃g,ia=some ⟨g,0,none⟩/\Y0 w g (i*5) xs[i]
theorem Zf.inss{w:World}{H:Nat}{ia:Option Addr}{ic:Nat}{xs:List Xz}(h:Zf w H ia ic xs):YE w H w.heap.size ia xs:=fun i hi=>by
 obtain⟨g,e,h1⟩:=h.at_ i hi;obtain⟨cs,hcs⟩:=h.own;subst e;exact⟨g,0,rfl,hcs.lt g rfl,by rw[Nat.zero_add];exact h1⟩
theorem Zf.keep{w w':World}{H:Nat}{ia:Option Addr}{ic:Nat}{xs:List Xz}(h:Zf w H ia ic xs)(k:X7 H w.heap.size w w'):Zf w' H ia ic xs:=by
 obtain⟨cs,hcs⟩:=h.own;refine⟨⟨cs,YY hcs (fun b e=>k b (hcs.lt b e).1 (hcs.lt b e).2)⟩,fun i hi=>?_⟩;obtain⟨g,e,h1⟩:=h.at_ i hi;subst e;have hg:=hcs.lt g rfl;exact⟨g,rfl,h1.keepS (k g hg.1 hg.2)⟩
theorem Zf.push{w1 w2:World}{H:Nat}{ia:Option Addr}{ic:Nat}{xs:List Xz}(h:Zf w1 H ia ic xs){cs:List Value}(hcs:w1.ownsRow H 53 5 (.slice ia xs.length ic) xs.length cs)(x:Xz){g' cap:Nat}
 (h2:w2.ownsRow H 53 5 (.slice (some ⟨g',0,none⟩) (xs.length+1) cap) (xs.length+1) (cs++x.cells)):Zf w2 H (some ⟨g',0,none⟩) cap (xs++[x]):=by
 have hl:=hcs.1;refine⟨⟨_,by rw[show(xs++[x]).length=xs.length+1 by simp];exact h2⟩,fun i hi=>⟨g',rfl,?_⟩⟩;by_cases hik:i<xs.length
 ·obtain⟨g,e,h0,h1,h3,h4,h5⟩:=h.at_ i hik
  subst e;rw[List.getElem_append_left hik];exact⟨(Z9 hcs h2 (by omega)).trans h0,(Z9 hcs h2 (by omega)).trans h1,(Z9 hcs h2 (by omega)).trans h3,(Z9 hcs h2 (by omega)).trans h4,(Z9 hcs h2 (by omega)).trans h5⟩
 ·have hie:i=xs.length:=by rw[List.length_append,List.length_singleton]at hi;omega
  subst hie;have e1:(xs++[x])[xs.length]=x:=by simp
  rw[e1];have q:=fun (j:Nat)(hj:j<x.cells.length)=>T7 (n:=xs.length) hl h2 (j:=j) hj
  exact⟨q 0 (by simp[Xz.cells]),q 1 (by simp[Xz.cells]),q 2 (by simp[Xz.cells]),q 3 (by simp[Xz.cells]),q 4 (by simp[Xz.cells])⟩
def JW(w:World)(H:Nat)(pa:Option Addr)(pc:Nat)(ia:Option Addr)(ic:Nat)(ps:List Ph)(is:List Xz):Prop :=
 (is=[]/\ia=none/\ic=0/\Jg w H pa pc ps)\/(is≠[]/\∃H2,H<=H2/\H2<=w.heap.size/\ZN w H H2 pa ps/\Zf w H2 ia ic is)
theorem JW.keep{w w':World}{H:Nat}{pa:Option Addr}{pc:Nat}{ia:Option Addr}{ic:Nat}{ps:List Ph}{is:List Xz}(h:JW w H pa pc ia ic ps is)(k:X7 H w.heap.size w w')(hs:w.heap.size<=w'.heap.size):JW w' H pa pc ia ic ps is:=by
 rcases h with⟨h1,h2,h3,h4⟩ | ⟨h1,H2,h2,h3,h4,h5⟩
 ·exact Or.inl ⟨h1,h2,h3,h4.keep k hs⟩
 ·exact Or.inr ⟨h1,H2,h2,by omega,h4.keepS (k.mono (Nat.le_refl _) h3),h5.keep (k.mono h2 (Nat.le_refl _))⟩
theorem JW.rows{w:World}{H:Nat}{pa:Option Addr}{pc:Nat}{ia:Option Addr}{ic:Nat}{ps:List Ph}{is:List Xz}(h:JW w H pa pc ia ic ps is):ZN w H w.heap.size pa ps/\YE w H w.heap.size ia is:=by
 rcases h with⟨h1,h2,h3,h4⟩ | ⟨h1,H2,h2,h3,h4,h5⟩
 ·subst h1
  exact⟨h4.phs,fun i hi=>absurd hi (by simp)⟩
 ·exact⟨h4.mono (Nat.le_refl _) h3,h5.inss.mono h2 (Nat.le_refl _)⟩
def Clo(w:World)(B0 U G:Nat)(pre:List Xf):Prop:=∀i (h:i<pre.length),(∃L B,B0<=L/\B<=U/\¬(L<=G/\G<B)/\Js w L B G (i*6) pre[i])/\pre[i].term.kind≠0
structure Vg(w:World)(B0:Nat)(va:Option Addr)(vc:Nat)(pre:List Xf):Prop where
 own:∃cs,w.ownsRow B0 43 6 (.slice va pre.length vc) pre.length cs
 clo:∀G,va=some ⟨G,0,none⟩->Clo w B0 w.heap.size G pre
 base:B0<=w.heap.size
structure KF(w:World)(B0 H G vc:Nat)(pre:List Xf)(pa:Option Addr)(pc:Nat)(ia:Option Addr)(ic:Nat)(ps:List Ph)(is:List Xz):Prop where
 own:∃cs,w.ownsRow B0 43 6 (.slice (some ⟨G,0,none⟩) (pre.length+1) vc) (pre.length+1) cs
 clo:Clo w B0 H G pre
 lo:(B0<=G/\G<H)/\B0<=H/\H<=w.heap.size
 c0:w.cell? ⟨G,pre.length*6,none⟩=some (.slice pa ps.length pc)
 c1:w.cell? ⟨G,pre.length*6+1,none⟩=some (.slice ia is.length ic)
 ter:Y5 w G (pre.length*6+2) ⟨0,0,0,0⟩
 rows:JW w H pa pc ia ic ps is
theorem Clo.keep{w w':World}{B0 U G:Nat}{pre:List Xf}(h:Clo w B0 U G pre)(k:∀b,B0<=b->b<U->b≠G->w'.heap[b]?=w.heap[b]?)(hG:∀i,i<pre.length*6->w'.cell? ⟨G,i,none⟩=w.cell? ⟨G,i,none⟩){U':Nat}(hs:U<=U'):Clo w' B0 U' G pre:=fun i hi=>by
 obtain⟨⟨L,B,h1,h2,h3,pa,pc,ia,ic,q0,q1,⟨t0,t1,t2,t3⟩,q2,q3⟩,h4⟩:=h i hi;have sm:X7 L B w w':=fun b b1 b2=>k b (by omega) (by omega) (fun e=>h3 (by omega))
 exact⟨⟨L,B,h1,by omega,h3,pa,pc,ia,ic,(hG _ (by omega)).trans q0,(hG _ (by omega)).trans q1,⟨(hG _ (by omega)).trans t0,(hG _ (by omega)).trans t1,(hG _ (by omega)).trans t2,(hG _ (by omega)).trans t3⟩,q2.keepS sm,q3.keepS sm⟩,h4⟩
theorem Vg.keep{w w':World}{B0:Nat}{va:Option Addr}{vc:Nat}{pre:List Xf}(h:Vg w B0 va vc pre)(k:X7 B0 w.heap.size w w')(hs:w.heap.size<=w'.heap.size):Vg w' B0 va vc pre:=by
 obtain⟨cs,hcs⟩:=h.own;have hb:=h.base;refine⟨⟨cs,YY hcs (fun b e=>k b (hcs.lt b e).1 (hcs.lt b e).2)⟩,fun G e=>?_,by omega⟩;subst e;have hG:=hcs.lt G rfl;exact(h.clo G rfl).keep (fun b h1 h2 _=>k b h1 h2) (fun i _=>Xc (k G hG.1 hG.2)) hs
theorem KF.keep{w w':World}{B0 H G vc:Nat}{pre:List Xf}{pa:Option Addr}{pc:Nat}{ia:Option Addr}{ic:Nat}{ps:List Ph}{is:List Xz}(h:KF w B0 H G vc pre pa pc ia ic ps is)(k:X7 B0 w.heap.size w w')(hs:w.heap.size<=w'.heap.size):KF w' B0 H G vc pre pa pc ia ic ps is:=by
 obtain⟨cs,hcs⟩:=h.own;have hG:=hcs.lt G rfl;have q:=k G hG.1 hG.2;obtain⟨l1,l2,l3⟩:=h.lo;exact⟨⟨cs,YY hcs (fun b e=>k b (hcs.lt b e).1 (hcs.lt b e).2)⟩,h.clo.keep (fun b h1 h2 _=>k b h1 (by omega)) (fun i _=>Xc q) (Nat.le_refl _),⟨l1,l2,by omega⟩,(Xc q).trans h.c0,(Xc q).trans h.c1,h.ter.keepS q,h.rows.keep (k.mono l2 (Nat.le_refl _)) hs⟩
theorem Vg.nil(w:World)(B0:Nat)(h:B0<=w.heap.size):Vg w B0 none 0 []:=⟨⟨[],World.ownsRow_nil _ _ _ _⟩,fun _ e=>(nomatch e),h⟩
theorem Vg.open_{w1 w2:World}{B0:Nat}{va:Option Addr}{vc:Nat}{pre:List Xf}(h:Vg w1 B0 va vc pre){cs:List Value}(hcs:w1.ownsRow B0 43 6 (.slice va pre.length vc) pre.length cs){G' cap:Nat}
 (h2:w2.ownsRow B0 43 6 (.slice (some ⟨G',0,none⟩) (pre.length+1) cap) (pre.length+1) (cs++[.slice none 0 0,.slice none 0 0,.int .i64 0,.int .i64 0,.int .i64 0,.int .i64 0])) (hg:w1.grownBy w2 (Value.slice va pre.length vc).ownBlock) (hat:(Value.slice va pre.length vc).ownBlock=some G'\/G'=w1.heap.size) :
 KF w2 B0 w2.heap.size G' cap pre none 0 none 0 [] []:=by
 have hgs:=hg.size;have hG':=h2.lt G' rfl;have hl:=hcs.1;have q:=fun (j:Nat)(hj:j<6)=>T7 (n:=pre.length) hl h2 (j:=j) hj
 refine⟨⟨_,h2⟩,fun i hi=>?_,by omega,q 0 (by omega),q 1 (by omega),⟨q 2 (by omega),q 3 (by omega),q 4 (by omega),q 5 (by omega)⟩,Or.inl ⟨rfl,rfl,rfl,Jg.nil _ _⟩⟩;obtain⟨G,cap0,e,hG1,hG2⟩:=hcs.form (by omega);obtain⟨rfl,-,rfl⟩:=Value.slice.inj e;obtain⟨⟨L,B,h1,h3,h4,pa,pc,ia,ic,q0,q1,⟨t0,t1,t2,t3⟩,q2,q3⟩,h5⟩:=h.clo G rfl i hi;have sm:X7 L B w1 w2:=fun b b1 b2=>hg.block b (by omega) (fun e=>h4 (by injection e with e;dsimp only at e;omega))
 have r:=fun (j:Nat)(hj:j<pre.length*6)=>Z9 hcs h2 hj
 refine⟨⟨L,B,h1,by omega,?_,pa,pc,ia,ic,(r _ (by omega)).trans q0,(r _ (by omega)).trans q1,⟨(r _ (by omega)).trans t0,(r _ (by omega)).trans t1,(r _ (by omega)).trans t2,(r _ (by omega)).trans t3⟩,q2.keepS sm,q3.keepS sm⟩,h5⟩;rcases hat with f | f
 ·have:G=G':=by injection f
  omega
 ·omega
section
variable {w1 w2 : World} {B0 H G vc : Nat} {pre : List Xf} {pa : Option Addr} {pc : Nat} {ia : Option Addr} {ic : Nat} {ps : List Ph} {is : List Xz}
theorem KF.frame(h:KF w1 B0 H G vc pre pa pc ia ic ps is){row:Option Nat}(hg:w1.grownBy w2 row)(hr:∀b,row=some b->H<=b)(k:Nat)(hk:pre.length*6<=k)(v:Value) :
 (∃cs,(w2.setCell ⟨G,k,none⟩ v).ownsRow B0 43 6 (.slice (some ⟨G,0,none⟩) (pre.length+1) vc) (pre.length+1) cs)/\Clo (w2.setCell ⟨G,k,none⟩ v) B0 H G pre/\(∀i,i≠k->(w2.setCell ⟨G,k,none⟩ v).cell? ⟨G,i,none⟩=w1.cell? ⟨G,i,none⟩)/\(∀u,w1.cell? ⟨G,k,none⟩=some u->(w2.setCell ⟨G,k,none⟩ v).cell? ⟨G,k,none⟩=some v)/\(∀b,b≠G->(w2.setCell ⟨G,k,none⟩ v).heap[b]?=w2.heap[b]?)/\(w2.setCell ⟨G,k,none⟩ v).heap.size=w2.heap.size:=by
 obtain⟨cs,hcs⟩:=h.own;obtain⟨⟨l0,l1⟩,l2,l3⟩:=h.lo;have hgs:=hg.size;have hG:=hcs.lt G rfl;have nG:some G≠row:=fun e=>by have:=hr G e.symm;omega
 have qG:=hg.block G hG.2 nG;have f:∀b,b≠G->(w2.setCell ⟨G,k,none⟩ v).heap[b]?=w2.heap[b]?:=fun b hb=>Below.heap_setCell _ _ _ _ hb
 have oc:∀i,i≠k->(w2.setCell ⟨G,k,none⟩ v).cell? ⟨G,i,none⟩=w1.cell? ⟨G,i,none⟩:=fun i hi=>(World.cell?_setCell_other _ _ _ _ (by intro e;injection e with _ e;exact hi e.symm)).trans (Xc qG)
 refine⟨JM (YY hcs (fun b e=>by injection e with e;dsimp only at e;subst e;exact qG)) k v,h.clo.keep (fun b h1 h2 h3=>(f b h3).trans (hg.block b (by omega) (fun e=>by have:=hr b e.symm;omega))) (fun i hi=>oc i (by omega)) (Nat.le_refl _),oc,fun u hu=>?_,f,Xd _ _ _⟩;exact World.cell?_setCell_same _ _ _ ((Xc qG).trans hu)
theorem KF.phi(h:KF w1 B0 H G vc pre pa pc ia ic ps []){cs:List Value}(hcs:w1.ownsRow H 46 2 (.slice pa ps.length pc) ps.length cs)(p:Ph){a:Option Addr}{c:Nat}{g' cap:Nat}
 (ha:∀j (hj:j<p.args.length),∃b o,a=some ⟨b,o,none⟩/\(H<=b/\b<w1.heap.size)/\some b≠(Value.slice pa ps.length pc).ownBlock/\w1.cell? ⟨b,o+j,none⟩=some (.int .i64 p.args[j]))
 (h2:w2.ownsRow H 46 2 (.slice (some ⟨g',0,none⟩) (ps.length+1) cap) (ps.length+1) (cs++[.int .i64 p.dst,.slice a p.args.length c])) (hg:w1.grownBy w2 (Value.slice pa ps.length pc).ownBlock) (hat:(Value.slice pa ps.length pc).ownBlock=some g'\/g'=w1.heap.size) :
 KF (w2.setCell ⟨G,pre.length*6,none⟩ (.slice (some ⟨g',0,none⟩) (ps.length+1) cap)) B0 H G vc pre (some ⟨g',0,none⟩) cap ia ic (ps++[p]) []:=by
 obtain⟨⟨l0,l1⟩,l2,l3⟩:=h.lo;have hgs:=hg.size;obtain⟨f1,f2,f3,f4,f5,f6⟩:=h.frame hg (fun b e=>(hcs.lt b e).1) (pre.length*6) (Nat.le_refl _) (.slice (some ⟨g',0,none⟩) (ps.length+1) cap);obtain⟨t0,t1,t2,t3⟩:=h.ter;rcases h.rows with⟨_,rfl,rfl,hr⟩ | ⟨e,_⟩
 ·refine⟨f1,f2,⟨⟨l0,l1⟩,l2,by omega⟩,by rw[show(ps++[p]).length=ps.length+1 by simp];exact f4 _ h.c0,(f3 _ (by omega)).trans h.c1,⟨(f3 _ (by omega)).trans t0,(f3 _ (by omega)).trans t1,(f3 _ (by omega)).trans t2,(f3 _ (by omega)).trans t3⟩,Or.inl ⟨rfl,rfl,rfl,?_⟩⟩
  exact(hr.push hcs p ha h2 hg hat).keep (fun b b1 b2=>f5 b (by omega)) (by omega)
 ·exact absurd rfl e
theorem KF.ins(h:KF w1 B0 H G vc pre pa pc ia ic ps is){H2:Nat}{cs:List Value}(hH:H<=H2/\H2<=w1.heap.size)(hph:ZN w1 H H2 pa ps)(hio:Zf w1 H2 ia ic is)(hcs:w1.ownsRow H2 53 5 (.slice ia is.length ic) is.length cs)(x:Xz){g' cap:Nat}
 (h2:w2.ownsRow H2 53 5 (.slice (some ⟨g',0,none⟩) (is.length+1) cap) (is.length+1) (cs++x.cells)) (hg:w1.grownBy w2 (Value.slice ia is.length ic).ownBlock) :
 KF (w2.setCell ⟨G,pre.length*6+1,none⟩ (.slice (some ⟨g',0,none⟩) (is.length+1) cap)) B0 H G vc pre pa pc (some ⟨g',0,none⟩) cap ps (is++[x]):=by
 obtain⟨⟨l0,l1⟩,l2,l3⟩:=h.lo;have hgs:=hg.size;have hrow:=fun b e=>hcs.lt b e
 obtain⟨f1,f2,f3,f4,f5,f6⟩:=h.frame hg (fun b e=>by have:=(hrow b e).1;omega) (pre.length*6+1) (by omega) (.slice (some ⟨g',0,none⟩) (is.length+1) cap);obtain⟨t0,t1,t2,t3⟩:=h.ter;refine⟨f1,f2,⟨⟨l0,l1⟩,l2,by omega⟩,(f3 _ (by omega)).trans h.c0,by rw[show(is++[x]).length=is.length+1 by simp];exact f4 _ h.c1,⟨(f3 _ (by omega)).trans t0,(f3 _ (by omega)).trans t1,(f3 _ (by omega)).trans t2,(f3 _ (by omega)).trans t3⟩,Or.inr ⟨by simp,H2,hH.1,by omega,hph.keepS (fun b b1 b2=>(f5 b (by omega)).trans (hg.block b (by omega) (fun e=>by have:=(hrow b e.symm).1;omega))),?_⟩⟩;exact(hio.push hcs x h2).keep (fun b b1 b2=>f5 b (by omega))
theorem KF.insRow(h:KF w1 B0 H G vc pre pa pc ia ic ps is):∃H2 cs,(H<=H2/\H2<=w1.heap.size)/\ZN w1 H H2 pa ps/\Zf w1 H2 ia ic is/\w1.ownsRow H2 53 5 (.slice ia is.length ic) is.length cs:=by
 obtain⟨_,l2,l3⟩:=h.lo;rcases h.rows with⟨rfl,rfl,rfl,hr⟩ | ⟨_,H2,h1,h2,h3,h4⟩
 ·exact⟨w1.heap.size,[],⟨l3,Nat.le_refl _⟩,hr.phs,⟨⟨[],World.ownsRow_nil _ _ _ _⟩,fun i hi=>absurd hi (by simp)⟩,World.ownsRow_nil _ _ _ _⟩
 ·obtain⟨cs,hcs⟩:=h4.own
  exact⟨H2,cs,⟨h1,h2⟩,h3,h4,hcs⟩
theorem KF.close(h:KF w1 B0 H G vc pre pa pc ia ic ps is)(t:XN)(ht:t.kind≠0):Vg ((((w1.setCell ⟨G,pre.length*6+2,none⟩ (.int .i64 t.kind)).setCell ⟨G,pre.length*6+2+1,none⟩ (.int .i64 t.a)).setCell ⟨G,pre.length*6+2+2,none⟩ (.int .i64 t.to)).setCell ⟨G,pre.length*6+2+3,none⟩ (.int .i64 t.els)) B0 (some ⟨G,0,none⟩) vc (pre++[⟨ps,is,t⟩]):=by
 obtain⟨⟨l0,l1⟩,l2,l3⟩:=h.lo;obtain⟨cs,hcs⟩:=h.own;obtain⟨cs1,h1⟩:=JM hcs (pre.length*6+2) (.int .i64 t.kind);obtain⟨cs2,h2⟩:=JM h1 (pre.length*6+2+1) (.int .i64 t.a);obtain⟨cs3,h3⟩:=JM h2 (pre.length*6+2+2) (.int .i64 t.to);obtain⟨cs4,h4⟩:=JM h3 (pre.length*6+2+3) (.int .i64 t.els);obtain⟨t0,t1,t2,t3⟩:=h.ter;generalize hW:((((w1.setCell ⟨G,pre.length*6+2,none⟩ (.int .i64 t.kind)).setCell ⟨G,pre.length*6+2+1,none⟩ (.int .i64 t.a)).setCell ⟨G,pre.length*6+2+2,none⟩ (.int .i64 t.to)).setCell ⟨G,pre.length*6+2+3,none⟩ (.int .i64 t.els))=W at *;have far:∀b,b≠G->W.heap[b]?=w1.heap[b]?:=fun b hb=>by rw[<-hW,Below.heap_setCell _ _ _ _ hb,Below.heap_setCell _ _ _ _ hb,Below.heap_setCell _ _ _ _ hb,Below.heap_setCell _ _ _ _ hb]
 have hsz:W.heap.size=w1.heap.size:=by rw[<-hW];simp
 have oc:∀i,i<pre.length*6+2->W.cell? ⟨G,i,none⟩=w1.cell? ⟨G,i,none⟩:=fun i hi=>by
  have ne:∀k,i≠k->∀(U:World)(v:Value),(U.setCell ⟨G,k,none⟩ v).cell? ⟨G,i,none⟩=U.cell? ⟨G,i,none⟩:=fun k hk U v=>World.cell?_setCell_other _ _ _ _ (by intro e;injection e with _ e;exact hk e.symm)
  rw[<-hW,ne _ (by omega),ne _ (by omega),ne _ (by omega),ne _ (by omega)]
 have htr:Y5 W G (pre.length*6+2) t:=by
  rw[<-hW];refine⟨?_,?_,?_,?_⟩<;>simp[t0,t1,t2,t3,go_sem]
 have hlen:(pre++([⟨ps,is,t⟩]:List Xf)).length=pre.length+1:=by simp
 refine⟨⟨cs4,by rw[hlen];exact h4⟩,fun G' e=>?_,by omega⟩;injection e with e;injection e with e;subst e;intro i hi;by_cases hik:i<pre.length
 ·rw[List.getElem_append_left hik]
  exact(h.clo.keep (w':=W) (fun b b1 b2 b3=>far b b3) (fun i hi=>oc i (by omega)) (U':=W.heap.size) (by omega)) i hik
 ·have hie:i=pre.length:=by omega
  subst hie;have e1:(pre++([⟨ps,is,t⟩]:List Xf))[pre.length]=⟨ps,is,t⟩:=by simp
  rw[e1];obtain⟨r1,r2⟩:=h.rows.rows;have sm:X7 H w1.heap.size w1 W:=fun b b1 b2=>far b (by omega)
  refine⟨⟨H,w1.heap.size,l2,by omega,by omega,pa,pc,ia,ic,(oc _ (by omega)).trans h.c0,(oc _ (by omega)).trans h.c1,htr,r1.keepS sm,r2.keepS sm⟩,ht⟩
end
theorem Vg.blks{w:World}{B0:Nat}{va:Option Addr}{vc:Nat}{pre:List Xf}(h:Vg w B0 va vc pre):X8 w B0 w.heap.size va pre:=fun i hi=>by
 obtain⟨cs,hcs⟩:=h.own;obtain⟨G,cap,e,hG1,hG2⟩:=hcs.form (by omega);obtain⟨rfl,-,rfl⟩:=Value.slice.inj e;obtain⟨⟨L,B,h1,h2,_,hb⟩,_⟩:=h.clo G rfl i hi;exact⟨G,0,rfl,⟨hG1,hG2⟩,by rw[Nat.zero_add];exact hb.mono h1 h2⟩
end Go.Proofs.YtkehcdfalcakmaaGreatDoor
