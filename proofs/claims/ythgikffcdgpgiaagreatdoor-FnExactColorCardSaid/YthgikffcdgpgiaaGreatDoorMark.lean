import Derived.Test.YthgikffcdgpgiaaGreatDoorVI1
namespace Go.Proofs.YthgikffcdgpgiaaGreatDoor
set_option maxHeartbeats 1000000
set_option maxRecDepth 100000
open Go.RowKit
theorem oth(w:World)(b:Nat){o o':Nat}(h:o≠o')(v:Value):(w.setCell ⟨b,o,none⟩ v).cell? ⟨b,o',none⟩=w.cell? ⟨b,o',none⟩:=World.cell?_setCell_other _ _ _ _ (by intro e;injection e with _ e2;exact h e2)
theorem IW.set4{L B:Nat}{w wr:World}(h:IW L B w wr){b o:Nat}(hb:L<=b/\b<B){u0 u1 u2 u3:Int}(e0:wr.cell? ⟨b,o,none⟩=some (.int .i64 u0))(e1:wr.cell? ⟨b,o+1,none⟩=some (.int .i64 u1))(e2:wr.cell? ⟨b,o+2,none⟩=some (.int .i64 u2))(e3:wr.cell? ⟨b,o+3,none⟩=some (.int .i64 u3))(v0 v1 v2 v3:Int) :
 IW L B w ((((wr.setCell ⟨b,o,none⟩ (.int .i64 v0)).setCell ⟨b,o+1,none⟩ (.int .i64 v1)).setCell ⟨b,o+2,none⟩ (.int .i64 v2)).setCell ⟨b,o+3,none⟩ (.int .i64 v3)):=by
 refine IW.set (IW.set (IW.set (IW.set h hb e0 v0) hb (u:=u1) ?_ v1) hb (u:=u2) ?_ v2) hb (u:=u3) ?_ v3
 ·rw[oth _ _ oM];exact e1
 ·rw[oth _ _ oM,oth _ _ oM];exact e2
 ·rw[oth _ _ oM,oth _ _ oM,oth _ _ oM];exact e3
theorem IW.set5{L B:Nat}{w wr:World}(h:IW L B w wr){b o:Nat}(hb:L<=b/\b<B){u0 u1 u2 u3 u4:Int}(e0:wr.cell? ⟨b,o,none⟩=some (.int .i64 u0))(e1:wr.cell? ⟨b,o+1,none⟩=some (.int .i64 u1))(e2:wr.cell? ⟨b,o+2,none⟩=some (.int .i64 u2))(e3:wr.cell? ⟨b,o+3,none⟩=some (.int .i64 u3))(e4:wr.cell? ⟨b,o+4,none⟩=some (.int .i64 u4))(v0 v1 v2 v3 v4:Int) :
 IW L B w (((((wr.setCell ⟨b,o,none⟩ (.int .i64 v0)).setCell ⟨b,o+1,none⟩ (.int .i64 v1)).setCell ⟨b,o+2,none⟩ (.int .i64 v2)).setCell ⟨b,o+3,none⟩ (.int .i64 v3)).setCell ⟨b,o+4,none⟩ (.int .i64 v4)):=by
 refine IW.set (h.set4 hb e0 e1 e2 e3 v0 v1 v2 v3) hb (u:=u4) ?_ v4;rw[oth _ _ oM,oth _ _ oM,oth _ _ oM,oth _ _ oM];exact e4
def Ts(k:Int)(n:Nat):List Int:=(List.range n).map fun i=>k+(i:Nat)
theorem Wg(k:Int)(n:Nat):(Ts k n).length=n:=by simp[Ts]
theorem Wl(k:Int)(n i:Nat)(h:i<(Ts k n).length):(Ts k n)[i]=k+(i:Nat):=by simp[Ts]
theorem Tk(a:Option Addr)(n c:Nat)(k:Int)(xs:List Int)(L B:Nat)(w:World)(ha:Hid (Xg w L B a xs))(hx:Hid (n=xs.length))(ht:Hid (YY L B w))(hn:n<=1048576)(h0:0<=k)(h1:k<=1000000000) :
 Calls Tryz.prog 31 #[.slice a n c,.int .i64 k] w fun e w'=>e=.returned (.int .i64 (k+n))/\IW L B w w'/\Xg w' L B a (Ts k n):=by
 go_enter Tryz.func31,Tryz.ntmps31
 go_wp2
 go_loopw [1,5] (fun u i wr=>∃j:Nat,j<=n/\i=.int .i64 j/\u=.int .i64 (k+j)/\Hid (IW L B w wr)/\Hid (∀q,q<j->∃b o,a=some ⟨b,o,none⟩/\(L<=b/\b<B)/\wr.cell? ⟨b,o+q,none⟩=some (.int .i64 (k+(q:Nat))))) (fun _ i _=>n-(intOf i).toNat)
 case atStart=>exact⟨0,Nat.zero_le _,rfl,sP,IW.refl _ _ _,fun q hq=>absurd hq oM⟩
 case round =>
  obtain⟨j,hj,rfl,rfl,hw,hq⟩:=hrel;by_cases hlt:j<n
  ·have hjx:j<xs.length:=by have:=hx.out;omega
   obtain⟨b,o,rfl,hbB,hc⟩:=ha.out j hjx;obtain⟨u,e1⟩:=hw.int hc;have e2:=hw.thawB ht.out b (o+j) hbB;clear hc;go_wp2;refine⟨⟨j+1,oM,gM,gM,hw.set hbB e1 _,fun q hqj=>?_⟩,by simp[intOf];omega⟩;by_cases e:q=j
   ·subst e
    exact⟨b,o,rfl,hbB,World.cell?_setCell_same _ _ _ e1⟩
   ·obtain⟨b',o',e',hb',hc'⟩:=hq.out q oM
    cases e';exact⟨b,o,rfl,hbB,by rw[World.cell?_setCell_other _ _ _ _ (by intro h;injection h with _ h2;omega)];exact hc'⟩
  ·have hjn:j=n:=oM
   subst hjn;go_wp2
   go_ret
   refine⟨rfl,hw.out,fun i hi=>?_⟩;rw[Wl];rw[Wg]at hi;exact hq.out i hi
theorem Zaq(a:Option Addr)(n c:Nat)(k:Int)(L B:Nat)(w:World)(ha:Hid (Xg w L B a (Ts k n)))(hn:n<=1048576)(h0:0<=k)(h1:k<=1000000000) :
 Calls Tryz.prog 32 #[.slice a n c,.int .i64 k] w fun e w'=>e=.returned (.int .i64 (k+n))/\w'=w:=by
 go_enter Tryz.func32,Tryz.ntmps32
 go_wp2
 go_loop [1,5] (fun u i=>∃j:Nat,j<=n/\i=.int .i64 j/\u=.int .i64 (k+j)) (fun _ i=>n-(intOf i).toNat)
 case atStart=>exact⟨0,Nat.zero_le _,rfl,sP⟩
 case round =>
  obtain⟨j,hj,rfl,rfl⟩:=hrel;by_cases hlt:j<n
  ·obtain⟨b,o,rfl,hbB,hc⟩:=ha.out j (by rw[Wg];exact hlt)
   rw[Wl]at hc;go_wp2
   go_round
   case rel=>exact⟨j+1,oM,gM,gM⟩
   case measure=>simp[intOf];omega
  ·have hjn:j=n:=oM
   subst hjn;go_wp2
   go_ret
   exact⟨rfl,rfl⟩
theorem Vb(a:Option Addr)(n c:Nat)(k:Int)(xs:List YK)(L B:Nat)(w:World)(ha:Hid (XL w L B a xs))(hx:Hid (n=xs.length))(ht:Hid (YY L B w))(hn:n<=1048576)(h0:0<=k)(h1:k<=1000000000) :
 Calls Tryz.prog 65 #[.slice a n c,.int .i64 k] w fun e w'=>e=.returned (.int .i64 (k+5*n))/\IW L B w w':=by
 go_enter Tryz.func65,Tryz.ntmps65
 go_wp2
 go_loopw [1,5] (fun u i wr=>∃j:Nat,j<=n/\i=.int .i64 j/\u=.int .i64 (k+5*j)/\Hid (IW L B w wr)) (fun _ i _=>n-(intOf i).toNat)
 case atStart=>exact⟨0,Nat.zero_le _,rfl,sP,IW.refl _ _ _⟩
 case round =>
  obtain⟨j,hj,rfl,rfl,hw⟩:=hrel;by_cases hlt:j<n
  ·have hjx:j<xs.length:=by have:=hx.out;omega
   obtain⟨b,o,rfl,hbB,hc⟩:=ha.out j hjx;obtain⟨⟨u0,u1,u2,u3,u4⟩,e0,e1,e2,e3,e4⟩:=hc.iw hw.out;dsimp only at e0 e1 e2 e3 e4;have ft:=hw.thawB ht.out;have f0:=ft b (o+j*5) hbB;have f1:=ft b (o+j*5+1) hbB;have f2:=ft b (o+j*5+2) hbB;have f3:=ft b (o+j*5+3) hbB;have f4:=ft b (o+j*5+4) hbB;clear hc ft;go_wp2;exact⟨⟨j+1,oM,gM,gM,hw.set5 hbB e0 e1 e2 e3 e4 _ _ _ _ _⟩,by simp[intOf];omega⟩
  ·have hjn:j=n:=oM
   subst hjn;go_wp2
   go_ret
   exact⟨rfl,hw.out⟩
def phCnt(ls:List Nat):Nat:=(ls.map (· + 1)).sum
theorem Zce(ls:List Nat)(l:Nat):phCnt (ls++[l])=phCnt ls+(l+1):=by simp[phCnt]
theorem Zcr(ls:List Nat)(k:Nat):phCnt (ls.take k)<=phCnt ls:=YU _ _ _
theorem WC(a:Option Addr)(n c:Nat)(k:Int)(xs:List Ph)(L B:Nat)(w:World)(ha:Hid (XZ w L B a xs))(hx:Hid (n=xs.length))(ht:Hid (YY L B w))(hl:Hid (∀p∈xs,p.args.length<=1048576))(hn:n<=1048576)(h0:0<=k)(h1:k<=100000000)(h2:phCnt (xs.map fun p=>p.args.length)<=100000000) :
 Calls Tryz.prog 64 #[.slice a n c,.int .i64 k] w fun e w'=>e=.returned (.int .i64 (k+phCnt (xs.map fun p=>p.args.length)))/\IW L B w w':=by
 go_enter Tryz.func64,Tryz.ntmps64
 go_wp2
 go_loopw [1,5] (fun u i wr=>∃j:Nat,j<=n/\i=.int .i64 j/\u=.int .i64 (k+(phCnt ((xs.take j).map fun p=>p.args.length):Nat))/\Hid (IW L B w wr)) (fun _ i _=>n-(intOf i).toNat)
 case atStart=>exact⟨0,Nat.zero_le _,rfl,by simp[phCnt],IW.refl _ _ _⟩
 case round =>
  obtain⟨j,hj,rfl,rfl,hw⟩:=hrel;by_cases hlt:j<n
  ·have hjx:j<xs.length:=by have:=hx.out;omega
   obtain⟨b,o,rfl,hbB,hc⟩:=ha.out j hjx;obtain⟨⟨d,ys⟩,hyl,aa,cc,e0,e1,hi⟩:=hc.iw hw.out;dsimp only at e0 e1 hi hyl;rw[hyl]at e1;have hal:=hl.out _ (List.getElem_mem hjx);have ft:=hw.thawB ht.out;have f0:=ft b (o+j*2) hbB;have hS:Hid (phCnt ((xs.take (j+1)).map fun p=>p.args.length)=phCnt ((xs.take j).map fun p=>p.args.length)+(xs[j].args.length+1)):=by show _=_;rw[Xr _ _ hjx,List.map_append,List.map_cons,List.map_nil,Zce]
   have hb2:phCnt ((xs.take j).map fun p=>p.args.length)+(xs[j].args.length+1)<=100000000:=by
    have h3:=hS.out;have h4:=Zcr (xs.map fun p=>p.args.length) (j+1);rw[<-List.map_take]at h4;omega
   have FT:=Xa ft;have HI:=Xa hi;have E1:=Xa e1;clear hc ft hi;generalize phCnt ((xs.take j).map fun p=>p.args.length)=S at *;generalize xs[j].args.length=m at *
   go_wp2_with fail
   have hw2:=hw.set hbB e0 (k+S);have hi2:=HI.iw (L':=L) (B':=B) ((IW.refl L B wr).set hbB e0 (k+S));obtain⟨zs,hzl,hz⟩:=hi2;refine(Tk _ _ _ _ zs L B _ hz (by show _=_;omega) ((FT.out).setCell _ _) oM oM oM).mono ?_;rintro e w2 ⟨rfl,hiw,_⟩;go_wp2;exact⟨⟨j+1,oM,gM,by rw[hS.out];go_num,hw2.trans hiw⟩,by simp[intOf];omega⟩
  ·have hjn:j=n:=oM
   subst hjn;have E:=Xa (List.take_of_length_le (l:=xs) (i:=j) (by have:=hx.out;omega));go_wp2
   go_ret
   exact⟨XX (by rw[E.out]),hw.out⟩
structure Vy(L B:Nat)(w w':World):Prop where
 os:w'.os=w.os
 tape:w'.tape=w.tape
 output:w'.output=w.output
 size:w.heap.size<=w'.heap.size
 block:∀k,k<w.heap.size->¬(L<=k/\k<B)->w'.heap[k]?=w.heap[k]?
theorem Vy.of_iw{L B:Nat}{w w':World}(h:IW L B w w'):Vy L B w w':=⟨h.os,h.tape,h.output,by rw[h.size];exact Nat.le_refl _,fun k _ hk=>h.block k hk⟩
theorem Vy.of_below{L B:Nat}{w w':World}(h:Below w.heap.size w w'):Vy L B w w':=⟨h.os,h.tape,h.output,h.size,fun k hk _=>h.block k hk⟩
theorem Vy.trans{L B:Nat}{w w1 w2:World}(h:Vy L B w w1)(k:Vy L B w1 w2):Vy L B w w2 :=
 ⟨k.os.trans h.os,k.tape.trans h.tape,k.output.trans h.output,Nat.le_trans h.size k.size,fun i hi hj=>(k.block i (Nat.lt_of_lt_of_le hi h.size) hj).trans (h.block i hi hj)⟩
theorem Vy.same{L B L' B':Nat}{w w':World}(h:Vy L B w w')(hB:B'<=w.heap.size)(hd:B'<=L\/B<=L'):Xu L' B' w w':=fun k h1 h2=>h.block k oM oM
theorem Vy.below{L B:Nat}{w0 w w':World}(h:Vy L B w w')(k:Below w0.heap.size w0 w)(hl:w0.heap.size<=L):Below w0.heap.size w0 w' :=
 ⟨h.os.trans k.os,h.tape.trans k.tape,h.output.trans k.output,Nat.le_trans k.size h.size,fun i hi=>(h.block i (Nat.lt_of_lt_of_le hi k.size) oM).trans (k.block i hi)⟩
def UW(s:List Nat × Nat):Nat:=phCnt s.1+5*s.2+4
def shsCnt(ss:List (List Nat × Nat)):Nat:=(ss.map UW).sum
theorem Zbh(ss:List (List Nat × Nat))(s:List Nat × Nat):shsCnt (ss++[s])=shsCnt ss+UW s:=by simp[shsCnt]
theorem Zbg(ss:List (List Nat × Nat))(k:Nat):shsCnt (ss.take k)<=shsCnt ss:=YU _ _ _
theorem Vl(a:Option Addr)(n c:Nat)(k:Int)(xs:List Xi)(L B:Nat)(w:World)(ha:Hid (Xl w L B a xs))(hx:Hid (n=xs.length))(ht:Hid (YY L B w))(hl:Hid (KD xs))(hn:n<=1048576)(h0:0<=k)(h1:k<=10000000)(h2:shsCnt (xs.map Xi.sh)<=10000000) :
 Calls Tryz.prog 30 #[.slice a n c,.int .i64 k] w fun e w'=>e=.returned (.int .i64 (k+shsCnt (xs.map Xi.sh)))/\IW L B w w':=by
 go_enter Tryz.func30,Tryz.ntmps30
 go_wp2
 go_loopw [1,5] (fun u i wr=>∃j:Nat,j<=n/\i=.int .i64 j/\u=.int .i64 (k+(shsCnt ((xs.take j).map Xi.sh):Nat))/\Hid (IW L B w wr)) (fun _ i _=>n-(intOf i).toNat)
 case atStart=>exact⟨0,Nat.zero_le _,rfl,by simp[shsCnt],IW.refl _ _ _⟩
 case round =>
  obtain⟨j,hj,rfl,rfl,hw⟩:=hrel;by_cases hlt:j<n
  ·have hjx:j<xs.length:=by have:=hx.out;omega
   obtain⟨b,o,rfl,hbB,hc⟩:=ha.out j hjx;have hS:Hid (shsCnt ((xs.take (j+1)).map Xi.sh)=shsCnt ((xs.take j).map Xi.sh)+UW xs[j].sh):=by show _=_;rw[Xr _ _ hjx,List.map_append,List.map_cons,List.map_nil,Zbh]
   have hb2:shsCnt ((xs.take j).map Xi.sh)+UW xs[j].sh<=10000000:=by
    have h3:=hS.out;have h4:=Zbg (xs.map Xi.sh) (j+1);rw[<-List.map_take]at h4;omega
   obtain⟨hl1,hl2,hl3⟩:=hl.out _ (List.getElem_mem hjx);obtain⟨Y,hsh,pa,pc,ia,ic,e0,e1,_,hp,_⟩:=hc.iw hw.out;have hsh1:Y.phis.map (fun p=>p.args.length)=xs[j].phis.map (fun p=>p.args.length):=congrArg Prod.fst hsh;have hsh2:Y.instrs.length=xs[j].instrs.length:=congrArg Prod.snd hsh;have hYp:Y.phis.length=xs[j].phis.length:=by have:=congrArg List.length hsh1;simpa using this
   have hYl:∀p∈Y.phis,p.args.length<=1048576:=fun p hp'=>by
    have h5:p.args.length∈Y.phis.map (fun p=>p.args.length):=List.mem_map.2 ⟨p,hp',rfl⟩;rw[hsh1]at h5;obtain⟨q,hq,e⟩:=List.mem_map.1 h5;rw[<-e];exact hl3 q hq
   have HC:=Xa hc;have HYL:=Xa hYl;have hpc:phCnt (Y.phis.map (fun p=>p.args.length))+5*Y.instrs.length+4=UW xs[j].sh:=by rw[hsh1,hsh2];rfl
   rw[hYp,<-hYp]at e0;have ft:=Xa (hw.thawB ht.out);have HP:=Xa hp;have HPC:=Xa hpc;have hpb:phCnt (Y.phis.map (fun p=>p.args.length))+5*Y.instrs.length+4<=10000000:=oM;have hYi:Y.instrs.length<=1048576:=oM;have hYn:Y.phis.length<=1048576:=oM;have e0':wr.cell? ⟨b,o+j*6,none⟩=some (.slice pa Y.phis.length pc):=e0;have e1':wr.cell? ⟨b,o+j*6+1,none⟩=some (.slice ia Y.instrs.length ic):=e1;have HS2:=Xa hsh2;clear hc hp e0 e1 hsh hsh1 hsh2 hpc hYl hl1 hl2 hl3 hYp;generalize hQ:shsCnt ((xs.take j).map Xi.sh)=Q at *;have HQ:=Xa hQ;clear hQ
   go_wp2_with fail
   refine(WC _ _ _ _ Y.phis L B _ HP rfl ft HYL oM oM oM oM).mono ?_;rintro e w2 ⟨rfl,hiw2⟩;have c2:=hiw2.slice e1';obtain⟨Y2,hsh',pa2,pc2,ia2,ic2,_,g1,_,_,hi2⟩:=HC.iw (hw.trans hiw2);have hsame:ia2=ia/\Y2.instrs.length=Y.instrs.length:=by
    have:=Option.some.inj (g1.symm.trans c2);injection this with q1 q2 _;exact⟨q1,q2⟩
   obtain⟨rfl,hlen2⟩:=hsame;have HI2:=Xa hi2;have ft2:=Xa (hiw2.thawB ft.out);have HL2:=Xa hlen2;have HIW2:=Xa hiw2;clear g1 hi2 hsh' hiw2 e0' e1' hlen2;generalize phCnt (Y.phis.map (fun p=>p.args.length))=S at *
   go_wp2_with fail
   refine(Vb _ _ _ _ Y2.instrs L B _ HI2 HL2.symm ft2 oM oM oM).mono ?_;rintro e w3 ⟨rfl,hiw3⟩;obtain⟨Y3,_,_,_,_,_,_,_,⟨t0,t1,t2,t3⟩,_,_⟩:=HC.iw (hw.trans (HIW2.trans hiw3));have ft3:=hiw3.thawB ft2.out;have f0:=ft3 b (o+j*6+2) hbB;have f1:=ft3 b (o+j*6+2+1) hbB;have f2:=ft3 b (o+j*6+2+2) hbB;have f3:=ft3 b (o+j*6+2+3) hbB;have HIW3:=Xa hiw3;clear hiw3 ft3 c2;go_wp2;exact⟨⟨j+1,oM,gM,by rw[hS.out,<-HPC.out];go_num,(hw.trans (HIW2.trans HIW3.out)).set4 hbB t0 t1 t2 t3 _ _ _ _⟩,by simp[intOf];omega⟩
  ·have hjn:j=n:=oM
   subst hjn;have E:=Xa (List.take_of_length_le (l:=xs) (i:=j) (by have:=hx.out;omega));go_wp2
   go_ret
   exact⟨XX (by rw[E.out]),hw.out⟩
theorem WG(v:Int)(a:Option Addr)(n c:Nat)(k:Int)(xs:List Xi)(L B:Nat)(w:World)(ha:Hid (Xl w L B a xs))(hx:Hid (n=xs.length))(ht:Hid (YY L B w))(hl:Hid (KD xs))(hB:B<=w.heap.size)(hn:n<=1048576)(h0:0<=k)(h1:k<=10000000)(h2:shsCnt (xs.map Xi.sh)<=10000000) :
 Calls Tryz.prog 11 #[.agg #[.int .i64 v,.slice a n c],.int .i64 k] w fun e w'=>e=.returned (.int .i64 (k+shsCnt (xs.map Xi.sh)))/\Vy L B w w':=by
 go_enter Tryz.func11,Tryz.ntmps11
 go_wp2_with fail
 refine(Vl _ _ _ _ xs L B _ ?q1 hx ?q2 hl hn h0 h1 h2).mono ?_
 case q1=>exact ha.keep ((Xb (Below.refl _ _) _).mono hB)
 case q2=>exact ht.keepS (Xu.of_below ((Xb (Below.refl _ _) _).mono hB))
 rintro e w1 ⟨rfl,hiw⟩;go_wp2
 go_ret
 exact⟨rfl,(Vy.of_below (Xb (Below.refl _ _) _)).trans (Vy.of_iw hiw)⟩
def Ui(w:World)(L B:Nat)(cd ct:Int)(l:List Int)(G:Value):Prop:=∃a n c,G=.agg #[.int .i64 cd,.slice a n c,.int .i64 ct]/\Xg w L B a l/\n=l.length/\n<=5000
theorem Ui.keepS{w w':World}{L B:Nat}{cd ct:Int}{l:List Int}{G:Value}(h:Ui w L B cd ct l G)(k:Xu L B w w'):Ui w' L B cd ct l G:=by
 obtain⟨a,n,c,e,h1,h2⟩:=h;exact⟨a,n,c,e,h1.keepS k,h2⟩
theorem Ui.form{w:World}{L B:Nat}{cd ct:Int}{l:List Int}{G:Value}(h:Ui w L B cd ct l G):∃a n c,G=.agg #[.int .i64 cd,.slice a n c,.int .i64 ct]:=by
 obtain⟨a,n,c,e,_⟩:=h;exact⟨a,n,c,e⟩
theorem KU(cd ct:Int)(l:List Int)(G G':Value)(L B L' B':Nat)(w:World)(ha:Ui w L B cd ct l G)(hb:Ui w L' B' cd ct l G')(hB:B<=w.heap.size)(hB':B'<=w.heap.size) :
 Calls Tryz.prog 9 #[G,G'] w fun e w'=>e=.returned (.bool true)/\Below w.heap.size w w':=by
 obtain⟨a,n,c,rfl,h1,h2,h3⟩:=ha;obtain⟨a',n',c',rfl,k1,k2,_⟩:=hb;obtain rfl:n=n':=oM;have HEQ:=Xa (fun W (hW:Below w.heap.size w W)=>UK a a' n c c' l L B L' B' W (Xa (h1.keep (hW.mono hB))) (Xa (k1.keep (hW.mono hB'))) (Xa h2) oM (by have:=hW.size;omega) (by have:=hW.size;omega));have e1:((cd:Int) != cd)=false:=sP;have e2:((ct:Int) != ct)=false:=sP;clear h1 k1 h2 k2
 go_enter Tryz.func9,Tryz.ntmps9
 go_wp2_with fail
 have hb0:Below w.heap.size w ((w.alloc (.cells #[.int .i64 cd,.slice a n c,.int .i64 ct] 28)).alloc (.cells #[.int .i64 cd,.slice a' n c',.int .i64 ct] 28)):=Xb (Xb (Below.refl _ _) _) _;have hs0:w.heap.size+2<=((w.alloc (.cells #[.int .i64 cd,.slice a n c,.int .i64 ct] 28)).alloc (.cells #[.int .i64 cd,.slice a' n c',.int .i64 ct] 28)).heap.size:=sP;have c2:((w.alloc (.cells #[.int .i64 cd,.slice a n c,.int .i64 ct] 28)).alloc (.cells #[.int .i64 cd,.slice a' n c',.int .i64 ct] 28)).cell? ⟨w.heap.size,2,none⟩=some (.int .i64 ct):=by simp[go_sem]
 have c3:((w.alloc (.cells #[.int .i64 cd,.slice a n c,.int .i64 ct] 28)).alloc (.cells #[.int .i64 cd,.slice a' n c',.int .i64 ct] 28)).cell? ⟨w.heap.size+1,2,none⟩=some (.int .i64 ct):=by simp[go_sem]
 generalize (w.alloc (.cells #[.int .i64 cd,.slice a n c,.int .i64 ct] 28)).alloc (.cells #[.int .i64 cd,.slice a' n c',.int .i64 ct] 28)=w0 at *;refine(HEQ.out _ hb0).mono ?_;rintro e w1 ⟨rfl,hb1⟩;have f2:=(XD hb1 oM).trans c2;have f3:=(XD hb1 oM).trans c3;have HB1:=Xa (Xe hb0 hb1);clear hb0 hb1 c2 c3 HEQ
 go_wp2_with fail
 go_ret
 exact⟨rfl,HB1.out⟩
def ZcU(w:World)(B:Nat)(G:Value):Prop:=∀W,Xu B w.heap.size w W->w.heap.size<=W.heap.size->Calls Tryz.prog 12 #[G,.int .i64 1] W fun e w'=>∃m:Nat,e=.returned (.int .i64 m)/\m<=60000000/\Vy B w.heap.size W w'/\W.heap.size<=w'.heap.size/\(Calls Tryz.prog 13 #[G,.int .i64 1] w' fun e w''=>e=.returned (.int .i64 m)/\Below w'.heap.size w' w'')
theorem VU(cd ct:Int)(a:Option Addr)(n c L B:Nat)(xs:List Int)(w:World)(ha:Xg w L B a xs)(hx:n=xs.length)(ht:YY L B w)(hn:n<=5000)(hB:B<=w.heap.size) :
 Calls Tryz.prog 12 #[.agg #[.int .i64 cd,.slice a n c,.int .i64 ct],.int .i64 1] w fun e w'=>e=.returned (.int .i64 ((1+n:Nat):Int))/\Vy L B w w'/\Xg w' L B a (Ts 1 n):=by
 have HMK:=Xa (fun W (hW:Below w.heap.size w W)=>Tk a n c 1 xs L B W (Xa (ha.keep (hW.mono hB))) (Xa hx) (Xa (ht.keepS (fun q _ q2=>hW.block q oM))) oM oM oM);clear ha hx ht
 go_enter Tryz.func12,Tryz.ntmps12
 go_wp2_with fail
 refine(HMK.out _ (Xb (Below.refl _ _) _)).mono ?_;rintro e w1 ⟨rfl,hw1,hm1⟩;have HM1:=Xa hm1;have HB1:Hid (Vy L B w w1):=Xa (Vy.trans (Vy.of_below (Xb (Below.refl _ _) _)) (Vy.of_iw hw1));clear hw1 hm1 HMK
 go_wp2_with fail
 go_ret
 exact⟨sP,HB1.out,HM1.out⟩
theorem VY(cd ct:Int)(a:Option Addr)(n c L B:Nat)(w:World)(ha:Xg w L B a (Ts 1 n))(hn:n<=5000)(hB:B<=w.heap.size) :
 Calls Tryz.prog 13 #[.agg #[.int .i64 cd,.slice a n c,.int .i64 ct],.int .i64 1] w fun e w'=>e=.returned (.int .i64 ((1+n:Nat):Int))/\Below w.heap.size w w':=by
 have HMK:=Xa (fun W (hW:Below w.heap.size w W)=>Zaq a n c 1 L B W (Xa (ha.keep (hW.mono hB))) oM oM oM);have hnn:¬(1+(n:Int)<0):=oM;clear ha
 go_enter Tryz.func13,Tryz.ntmps13
 go_wp2_with fail
 refine(HMK.out _ (Xb (Below.refl _ _) _)).mono ?_;rintro e w1 ⟨rfl,hw1⟩;subst hw1;clear HMK
 go_wp2_with fail
 go_ret
 exact⟨sP,Xb (Below.refl _ _) _⟩
theorem ZeG{w:World}{g V c Bm:Nat}{C:Nat->Int}(cd ct:Int)(h:IaAt w g V c C)(hV:V<=5000)(hg:Bm<=g):ZcU w Bm (.agg #[.int .i64 cd,.slice (some ⟨g,0,none⟩) V c,.int .i64 ct]):=fun W hW hz=>by
 have hgl:=h.lt;have hW':IaAt W g V c C:=h.of_block (hW g hg hgl);have hi:Xg W g (g+1) (some ⟨g,0,none⟩) ((List.range V).map C):=fun i hi=>by
  simp only[List.length_map,List.length_range]at hi;refine⟨g,0,rfl,⟨Nat.le_refl _,Nat.lt_succ_self _⟩,?_⟩;simp only[List.getElem_map,List.getElem_range,Nat.zero_add];exact hW'.cell hi
 refine(VU cd ct _ V c g (g+1) _ W hi sP (fun b o hb=>by
  obtain rfl:b=g:=oM;exact hW'.frozen o) hV oM).mono ?_
 rintro e w' ⟨rfl,hm,hmk⟩;refine⟨1+V,rfl,oM,⟨hm.os,hm.tape,hm.output,hm.size,fun k hk h2=>hm.block k hk (fun h3=>h2 ⟨oM,oM⟩)⟩,hm.size,?_⟩;exact VY cd ct _ V c g (g+1) w' hmk hV (by have:=hm.size;omega)
theorem Zer(w:World)(Bm:Nat)(cd ct:Int):ZcU w Bm (.agg #[.int .i64 cd,.slice none 0 0,.int .i64 ct]):=fun W hW hz=>by
 refine(VU cd ct none 0 0 0 0 [] W (fun i hi=>absurd hi (Nat.not_lt_zero _)) rfl (fun b o hb=>absurd hb.2 (Nat.not_lt_zero _)) oM oM).mono ?_;rintro e w' ⟨rfl,hm,hmk⟩;refine⟨1+0,rfl,oM,⟨hm.os,hm.tape,hm.output,hm.size,fun k hk h2=>hm.block k hk (fun h3=>oM)⟩,hm.size,?_⟩;exact VY cd ct none 0 0 0 0 w' hmk oM oM
noncomputable def ZdW(v:Int)(xs:List Xi):Nat->Int:=ZF (fun _=>-1) (ZE xs v.toNat (Xs ((List.range xs.length).map (idomP ((List.range xs.length).map (YH (Xx xs) xs.length)))) xs.length 0))
open Classical in
noncomputable def Zcj(v:Int)(xs:List Xi):List Int:=if verdP v xs=0 then (List.range v.toNat).map (ZdW v xs)else []
open Classical in
noncomputable def ZcF(v:Int)(xs:List Xi):Int:=if verdP v xs=0 then ckN (ZdW v xs) v.toNat else 0
theorem ZcD(v:Int)(a:Option Addr)(n c:Nat)(xs:List Xi)(L B:Nat)(w:World)(ha:Xl w L B a xs)(hx:n=xs.length)(hs:xs.length+Xk xs<=1048576)(hB:B<=w.heap.size) :
 Calls Tryz.prog 6 #[.agg #[.int .i64 v,.slice a n c]] w fun e w'=>∃G,e=.returned G/\Below w.heap.size w w'/\Ui w' w.heap.size w'.heap.size (verdP v xs) (ZcF v xs) (Zcj v xs) G:=by
 by_cases hv:verdP v xs=0
 ·obtain⟨hvv,hre⟩:=T8 hv
  have h0:0<=v:=by
   unfold XQ Yb at hvv;simp only[Bool.and_eq_true,decide_eq_true_eq]at hvv;exact hvv.1.1.1.1.1.1.1.1
  obtain⟨V,rfl⟩:=Int.eq_ofNat_of_zero_le h0;have ho:=Yy hvv;have hm:=ho.okf.model;rw[<-hx]at hm;refine(ZbV V a n c xs L B w (Xa ha) (Xa hx) (Xa hs) hB (Xa hv) (Xa hvv) (Xa ho)).mono ?_;rintro e w' ⟨P,g,cap,hP,rfl,hb,hg,hia⟩;have:=VT hP hm;subst this;refine⟨_,rfl,hb,?_⟩;have e1:ZdW (V:Int) xs=ZF (fun _=>-1) (ZE xs V (Xs ((List.range n).map (idomP ((List.range n).map (YH (Xx xs) n)))) n 0)):=by unfold ZdW;rw[hx];rfl
  unfold ZcF Zcj;rw[if_pos hv,if_pos hv,hv,e1];refine⟨some ⟨g,0,none⟩,V,cap,sP,fun i hi=>?_,sP,by have:=ho.vle;omega⟩;simp only[List.length_map,List.length_range,Int.toNat_natCast]at hi;refine⟨g,0,rfl,⟨hg,hia.lt⟩,?_⟩;simp only[List.getElem_map,List.getElem_range,Nat.zero_add];exact hia.cell hi
 ·refine(Zd6 v a n c xs L B w (Xa ha) (Xa hx) (Xa hs) hB hv).mono ?_
  rintro e w' ⟨rfl,hb⟩;unfold ZcF Zcj;rw[if_neg hv,if_neg hv];exact⟨_,rfl,hb,none,0,0,rfl,fun i hi=>absurd hi (Nat.not_lt_zero _),rfl,oM⟩
theorem ZcI(v:Int)(a:Option Addr)(n c:Nat)(xs:List Xi)(L B:Nat)(w:World)(ha:Xl w L B a xs)(hx:n=xs.length)(hs:xs.length+Xk xs<=1048576)(hB:B<=w.heap.size)(hO:Yf w)(hT:XT w)(hZ:Zs w) :
 Calls Tryz.prog 8 #[.agg #[.int .i64 v,.slice a n c]] w fun e w'=>∃G,e=.returned G/\Below w.heap.size w w'/\Ui w' w.heap.size w'.heap.size (verdP v xs) (ZcF v xs) (Zcj v xs) G/\ZcU w' w.heap.size G:=by
 by_cases hv:verdP v xs=0
 ·obtain⟨hvv,hre⟩:=T8 hv
  have h0:0<=v:=by
   unfold XQ Yb at hvv;simp only[Bool.and_eq_true,decide_eq_true_eq]at hvv;exact hvv.1.1.1.1.1.1.1.1
  obtain⟨V,rfl⟩:=Int.eq_ofNat_of_zero_le h0;have ho:=Yy hvv;have hm:=ho.okf.model;rw[<-hx]at hm;refine(Zcu V a n c xs L B w _ (Xa ha) (Xa hx) (Xa hs) hB (Xa hO) (Xa hT) (Xa hZ) (Xa hv) (Xa hm)).mono ?_;rintro e w' ⟨g,rfl,hb,hg,hia⟩;refine⟨_,rfl,hb,?_,ZeG _ _ hia (by have:=ho.vle;omega) hg⟩;have e1:ZdW (V:Int) xs=ZF (fun _=>-1) (ZE xs V (Xs ((List.range n).map (idomP ((List.range n).map (YH (Xx xs) n)))) n 0)):=by unfold ZdW;rw[hx];rfl
  unfold ZcF Zcj;rw[if_pos hv,if_pos hv,hv,e1];refine⟨some ⟨g,0,none⟩,V,V,sP,fun i hi=>?_,sP,by have:=ho.vle;omega⟩;simp only[List.length_map,List.length_range,Int.toNat_natCast]at hi;refine⟨g,0,rfl,⟨hg,hia.lt⟩,?_⟩;simp only[List.getElem_map,List.getElem_range,Nat.zero_add];exact hia.cell hi
 ·refine(Zeg v a n c xs L B w (Xa ha) (Xa hx) (Xa hs) hB (Xa hO) (Xa hT) hv).mono ?_
  rintro e w' ⟨rfl,hb⟩;unfold ZcF Zcj;rw[if_neg hv,if_neg hv];exact⟨_,rfl,hb,⟨none,0,0,rfl,fun i hi=>absurd hi (Nat.not_lt_zero _),rfl,oM⟩,Zer _ _ _ _⟩
end Go.Proofs.YthgikffcdgpgiaaGreatDoor
