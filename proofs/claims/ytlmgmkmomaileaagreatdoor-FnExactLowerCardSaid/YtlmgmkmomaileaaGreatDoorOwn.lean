import Derived.Test.YtlmgmkmomaileaaGreatDoorTO
import Derived.Deep.OwnRows
import Derived.Deep.MidRow
import Derived.Deep.Slices
import Derived.Deep.RegionWith
import Derived.Deep.DrawnRows
namespace Go.Proofs.YtlmgmkmomaileaaGreatDoor
open Go.RowKit
variable {w w1 : World} {L B b t N : Nat} {f : Nat -> Value}
theorem T3(b:Nat):∀(vs:List Value)(o:Nat)(w:World)(k:Nat),k≠b->(w.setCells b o vs).heap[k]?=w.heap[k]?
 | [],_,_,_,_=>rfl
 | v::r,o,w,k,h=>by rw[World.setCells,T3 b r _ _ _ h,Below.heap_setCell _ _ _ _ h]
theorem J5(b:Nat):∀(vs:List Value)(o:Nat)(w:World),(w.setCells b o vs).heap.size=w.heap.size
 | [],_,_=>rfl
 | v::r,o,w=>by rw[World.setCells,J5 b r];simp[World.setCell]
theorem Z7(b:Nat):∀(vs:List Value)(o:Nat)(w w1:World),Below B w w1->B<=b->Below B w (w1.setCells b o vs)
 | [],_,_,_,h,_=>h
 | v::r,o,w,w1,h,hb=>by rw[World.setCells];exact Z7 b r _ _ _ (h.setCell hb v) hb
theorem ZB:∀(vs:List Value)(o:Nat)(w:World)(f:Nat->Value),w.rowIs b t N f->∃g,(w.setCells b o vs).rowIs b t N g
 | [],_,_,f,h=>⟨f,h⟩
 | v::r,o,w,_,h=>by rw[World.setCells];exact ZB r _ _ _ (h.set o v)
theorem Ul(hr:w.rowIs b t N f){o m:Nat}(h:o+m<=N):w.there b o m:=fun j hj=>⟨by rw[hr.cell oM];rfl,hr.frozen _⟩
theorem YQ(h:Xv L B w w1)(vs:List Value)(o:Nat)(hb:b<L\/B<=b):Xv L B w (w1.setCells b o vs):=fun k h1 h2=>by
 rw[T3 _ _ _ _ _ oM];exact h k h1 h2
theorem Xv.refl(L B:Nat)(w:World):Xv L B w w:=fun _ _ _=>rfl
theorem Xv.setCell(h:Xv L B w w1){p:Addr}(hp:p.block<L\/B<=p.block)(v:Value):Xv L B w (w1.setCell p v):=fun k h1 h2=>by
 rw[Below.heap_setCell _ _ _ _ oM];exact h k h1 h2
theorem Xe(w:World)(p:Addr)(v:Value):(w.setCell p v).heap.size=w.heap.size:=by simp[World.setCell]
theorem KX{o:Nat}{x:XN}:Yd w b o x↔w.rangeAt b o x.cells:=by
 constructor
 ·rintro⟨h0,h1,h2,h3,h4⟩ j v hv
  match j,hv with
  | 0,hv=>simp[XN.cells]at hv;subst hv;exact h0
  | 1,hv=>simp[XN.cells]at hv;subst hv;exact h1
  | 2,hv=>simp[XN.cells]at hv;subst hv;exact h2
  | 3,hv=>simp[XN.cells]at hv;subst hv;exact h3
  | 4,hv=>simp[XN.cells]at hv;subst hv;exact h4
  | n+5,hv=>simp[XN.cells]at hv
 ·intro h
  exact⟨h 0 _ rfl,h 1 _ rfl,h 2 _ rfl,h 3 _ rfl,h 4 _ rfl⟩
theorem Yd.apart{o o':Nat}{x:XN}(h:Yd w b o x)(vs:List Value)(hap:o+5<=o'\/o' + vs.length<=o):Yd (w.setCells b o' vs) b o x :=
 KX.2 (World.rangeAt_setCells_apart (KX.1 h) b o' vs (by simp only[XN.cells,List.length_cons,List.length_nil];omega))
theorem ZO{o o':Nat}{vs:List Value}(hap:o<o'\/o' + vs.length<=o):(w.setCells b o' vs).cell? ⟨b,o,none⟩=w.cell? ⟨b,o,none⟩ :=
 World.cell?_setCells_out b vs o' w ⟨b,o,none⟩ (fun _ _=>hap)
theorem Ju.apart{o o':Nat}{x:Ph}(h:Ju w L B b o x)(hb:b<L)(vs:List Value)(hap:o+2<=o'\/o' + vs.length<=o):Ju (w.setCells b o' vs) L B b o x:=by
 obtain⟨a,c,h0,h1,h2⟩:=h;exact⟨a,c,(ZO oM).trans h0,(ZO oM).trans h1,h2.keepS (YQ (Xv.refl _ _ _) _ _ (Or.inl hb))⟩
theorem YW.apart{o o':Nat}{x:Zu}(h:YW w b o x)(vs:List Value)(hap:o+4<=o'\/o' + vs.length<=o):YW (w.setCells b o' vs) b o x:=by
 obtain⟨h0,h1,h2,h3⟩:=h;exact⟨(ZO oM).trans h0,(ZO oM).trans h1,(ZO oM).trans h2,(ZO oM).trans h3⟩
theorem YV.apart{o o':Nat}{x:Xh}(h:YV w L B b o x)(hb:b<L)(vs:List Value)(hap:o+6<=o'\/o' + vs.length<=o):YV (w.setCells b o' vs) L B b o x:=by
 obtain⟨pa,pc,ia,ic,h0,h1,h2,h3,h4⟩:=h;exact⟨pa,pc,ia,ic,(ZO oM).trans h0,(ZO oM).trans h1,h2.apart _ oM,h3.keepS (YQ (Xv.refl _ _ _) _ _ (Or.inl hb)),h4.keepS (YQ (Xv.refl _ _ _) _ _ (Or.inl hb))⟩
theorem ZbC(hr:w.rowIs b t N f){o:Nat}{vs:List Value}(h:o+vs.length<=N)(j:Nat)(v:Value)(hv:vs[j]?=some v):(w.setCells b o vs).cell? ⟨b,o+j,none⟩=some v :=
 World.rangeAt_setCells_same w b o vs (Ul hr h) j v hv
theorem ZhI(hr:w.rowIs b t N f)(xs:List XN)(k:Nat)(hk:k<xs.length)(hN:xs.length*5<=N)(old:∀j (h:j<xs.length),j<k->Yd w b (j*5) xs[j]) :
 ∀j (h:j<xs.length),j<k+1->Yd (w.setCells b (k*5) xs[k].cells) b (j*5) xs[j]:=fun j h hj=>by
 by_cases e:j=k
 ·subst e
  exact KX.2 (World.rangeAt_setCells_same w b _ _ (Ul hr (by simp only[XN.cells,List.length_cons,List.length_nil];omega)))
 ·exact(old j h oM).apart _ oM
theorem ZiZ(hr:w.rowIs b t N f)(hb:b<L)(xs:List Ph)(k:Nat)(hk:k<xs.length)(hN:xs.length*2<=N)(old:∀j (h:j<xs.length),j<k->Ju w L B b (j*2) xs[j])
 (a:Option Addr) (c:Nat) (hi:Xf w L B a xs[k].args) :
 ∀j (h:j<xs.length),j<k+1->Ju (w.setCells b (k*2) [.int .i64 xs[k].dst,.slice a xs[k].args.length c]) L B b (j*2) xs[j]:=fun j h hj=>by
 by_cases e:j=k
 ·subst e
  exact⟨a,c,ZbC hr (by simp only[List.length_cons,List.length_nil];omega) 0 _ rfl,ZbC hr (by simp only[List.length_cons,List.length_nil];omega) 1 _ rfl,hi.keepS (YQ (Xv.refl _ _ _) _ _ (Or.inl hb))⟩
 ·exact(old j h oM).apart hb _ (by simp only[List.length_cons,List.length_nil];omega)
theorem Zid(hr:w.rowIs b t N f)(hb:b<L)(xs:List Xh)(k:Nat)(hk:k<xs.length)(hN:xs.length*6<=N)(old:∀j (h:j<xs.length),j<k->YV w L B b (j*6) xs[j])
 (pa ia:Option Addr) (pc ic:Nat) (hp:Yp w L B pa xs[k].phis) (hi:X0 w L B ia xs[k].instrs) :
 ∀j (h:j<xs.length),j<k+1->YV (w.setCells b (k*6) [.slice pa xs[k].phis.length pc,.slice ia xs[k].instrs.length ic,.int .i64 xs[k].term.kind,.int .i64 xs[k].term.a,.int .i64 xs[k].term.to,.int .i64 xs[k].term.els]) L B b (j*6) xs[j]:=fun j h hj=>by
 by_cases e:j=k
 ·subst e
  have hc:=ZbC (w:=w) hr (o:=j*6) (vs:=[.slice pa xs[j].phis.length pc,.slice ia xs[j].instrs.length ic,.int .i64 xs[j].term.kind,.int .i64 xs[j].term.a,.int .i64 xs[j].term.to,.int .i64 xs[j].term.els]) (by simp only[List.length_cons,List.length_nil];omega);exact⟨pa,pc,ia,ic,hc 0 _ rfl,hc 1 _ rfl,⟨hc 2 _ rfl,hc 3 _ rfl,hc 4 _ rfl,hc 5 _ rfl⟩,hp.keepS (YQ (Xv.refl _ _ _) _ _ (Or.inl hb)),hi.keepS (YQ (Xv.refl _ _ _) _ _ (Or.inl hb))⟩
 ·exact(old j h oM).apart hb _ (by simp only[List.length_cons,List.length_nil];omega)
end Go.Proofs.YtlmgmkmomaileaaGreatDoor
namespace Go.Proofs.YtlmgmkmomaileaaGreatDoor
open Go.RowKit Go.Deep
structure IW(L B:Nat)(w w':World):Prop where
 os:w'.os=w.os
 tape:w'.tape=w.tape
 output:w'.output=w.output
 size:w'.heap.size=w.heap.size
 block:∀k,¬(L<=k/\k<B)->w'.heap[k]?=w.heap[k]?
 cell:∀p,w'.cell? p=w.cell? p\/∃u v,w.cell? p=some (.int .i64 u)/\w'.cell? p=some (.int .i64 v)
 frozen:∀p,w'.frozen? p=w.frozen? p
variable {w w' w1 : World} {L B : Nat}
theorem IW.refl(L B:Nat)(w:World):IW L B w w:=⟨rfl,rfl,rfl,rfl,fun _ _=>rfl,fun _=>Or.inl rfl,fun _=>rfl⟩
theorem IW.trans{w2:World}(h:IW L B w w1)(k:IW L B w1 w2):IW L B w w2:=by
 refine⟨k.os.trans h.os,k.tape.trans h.tape,k.output.trans h.output,k.size.trans h.size,fun i hi=>(k.block i hi).trans (h.block i hi),fun p=>?_,fun p=>(k.frozen p).trans (h.frozen p)⟩;rcases k.cell p with e | ⟨u,v,e1,e2⟩
 ·rcases h.cell p with f | ⟨u,v,f1,f2⟩
  ·exact Or.inl (e.trans f)
  ·exact Or.inr ⟨u,v,f1,e.trans f2⟩
 ·rcases h.cell p with f | ⟨u',v',f1,f2⟩
  ·exact Or.inr ⟨u,v,f.symm.trans e1,e2⟩
  ·exact Or.inr ⟨u',v,f1,e2⟩
theorem IW.set(h:IW L B w w1){b o:Nat}(hp:L<=b/\b<B){u:Int}(hc:w1.cell? ⟨b,o,none⟩=some (.int .i64 u))(v:Int):IW L B w (w1.setCell ⟨b,o,none⟩ (.int .i64 v)):=by
 refine h.trans ⟨rfl,rfl,rfl,by simp[World.setCell],fun k hk=>Below.heap_setCell _ _ _ _ (by dsimp only;omega),fun p=>?_,fun p=>World.frozen?_setCell _ _ _ _⟩;by_cases e:p=⟨b,o,none⟩
 ·subst e
  exact Or.inr ⟨u,v,hc,World.cell?_setCell_same _ _ _ hc⟩
 ·exact Or.inl (World.cell?_setCell_other _ _ _ _ (fun h=>e h.symm))
theorem IW.int(h:IW L B w w'){p:Addr}{u:Int}(hc:w.cell? p=some (.int .i64 u)):∃v,w'.cell? p=some (.int .i64 v):=by
 rcases h.cell p with e | ⟨_,v,_,e⟩
 ·exact⟨u,e.trans hc⟩
 ·exact⟨v,e⟩
theorem IW.slice(h:IW L B w w'){p:Addr}{a:Option Addr}{n c:Nat}(hc:w.cell? p=some (.slice a n c)):w'.cell? p=some (.slice a n c):=by
 rcases h.cell p with e | ⟨u,_,e,_⟩
 ·exact e.trans hc
 ·rw[hc]at e;cases e
def Zp(L B:Nat)(w:World):Prop:=∀b o,L<=b/\b<B->w.frozen? ⟨b,o,none⟩=false
theorem Zp.of{L B:Nat}{w:World}(h:YU L w):Zp L B w:=fun b o hb=>h b o hb.1
theorem Zp.keepS{L B:Nat}{w w':World}(h:Zp L B w)(k:Xv L B w w'):Zp L B w':=fun b o hb=>(World.frozen?_of_block (k b hb.1 hb.2)).trans (h b o hb)
theorem Zp.setCell{L B:Nat}{w:World}(h:Zp L B w)(p:Addr)(v:Value):Zp L B (w.setCell p v):=fun b o hb=>by rw[World.frozen?_setCell];exact h b o hb
theorem IW.thawB(h:IW L B w w'){M N:Nat}(t:Zp M N w):Zp M N w':=fun b o hb=>(h.frozen _).trans (t b o hb)
variable {L' B' : Nat} {a : Option Addr}
theorem Xf.iw{xs:List Int}(h:Xf w L B a xs)(k:IW L' B' w w'):∃ys:List Int,ys.length=xs.length/\Xf w' L B a ys:=by
 obtain⟨f,hf⟩:=choose_lt (α:=Int) (n:=xs.length) (p:=fun i y=>∃b o,a=some ⟨b,o,none⟩/\(L<=b/\b<B)/\w'.cell? ⟨b,o+i,none⟩=some (.int .i64 y)) (fun i hi=>by
  obtain⟨b,o,e,hb,hc⟩:=h i hi;obtain⟨v,hv⟩:=k.int hc;exact⟨v,b,o,e,hb,hv⟩)
 refine⟨(List.range xs.length).map f,sP,fun i hi=>?_⟩;simp only[List.length_map,List.length_range]at hi;obtain⟨b,o,e,hb,hc⟩:=hf i hi;exact⟨b,o,e,hb,by simpa using hc⟩
theorem Yd.iw{b o:Nat}{x:XN}(h:Yd w b o x)(k:IW L' B' w w'):∃y:XN,Yd w' b o y:=by
 obtain⟨h0,h1,h2,h3,h4⟩:=h;obtain⟨v0,e0⟩:=k.int h0;obtain⟨v1,e1⟩:=k.int h1;obtain⟨v2,e2⟩:=k.int h2;obtain⟨v3,e3⟩:=k.int h3;obtain⟨v4,e4⟩:=k.int h4;exact⟨⟨v0,v1,v2,v3,v4⟩,e0,e1,e2,e3,e4⟩
theorem YW.iw{b o:Nat}{x:Zu}(h:YW w b o x)(k:IW L' B' w w'):∃y:Zu,YW w' b o y:=by
 obtain⟨h0,h1,h2,h3⟩:=h;obtain⟨v0,e0⟩:=k.int h0;obtain⟨v1,e1⟩:=k.int h1;obtain⟨v2,e2⟩:=k.int h2;obtain⟨v3,e3⟩:=k.int h3;exact⟨⟨v0,v1,v2,v3⟩,e0,e1,e2,e3⟩
theorem X0.iw{xs:List XN}(h:X0 w L B a xs)(k:IW L' B' w w'):∃ys:List XN,ys.length=xs.length/\X0 w' L B a ys:=by
 haveI:Inhabited XN:=⟨⟨0,0,0,0,0⟩⟩
 obtain⟨f,hf⟩:=choose_lt (α:=XN) (n:=xs.length) (p:=fun i y=>∃b o,a=some ⟨b,o,none⟩/\(L<=b/\b<B)/\Yd w' b (o+i*5) y) (fun i hi=>by
  obtain⟨b,o,e,hb,hc⟩:=h i hi;obtain⟨v,hv⟩:=hc.iw k;exact⟨v,b,o,e,hb,hv⟩)
 refine⟨(List.range xs.length).map f,sP,fun i hi=>?_⟩;simp only[List.length_map,List.length_range]at hi;obtain⟨b,o,e,hb,hc⟩:=hf i hi;exact⟨b,o,e,hb,by simpa using hc⟩
theorem Ju.iw{b o:Nat}{x:Ph}(h:Ju w L B b o x)(k:IW L' B' w w'):∃y:Ph,y.args.length=x.args.length/\Ju w' L B b o y:=by
 obtain⟨a,c,h0,h1,h2⟩:=h;obtain⟨v0,e0⟩:=k.int h0;obtain⟨ys,hl,h3⟩:=h2.iw k;exact⟨⟨v0,ys⟩,hl,a,c,e0,by rw[hl];exact k.slice h1,h3⟩
theorem Yp.iw{xs:List Ph}(h:Yp w L B a xs)(k:IW L' B' w w'):∃ys:List Ph,ys.map (fun p=>p.args.length)=xs.map (fun p=>p.args.length)/\Yp w' L B a ys:=by
 haveI:Inhabited Ph:=⟨⟨0,[]⟩⟩
 obtain⟨f,hf⟩:=choose_lt (α:=Ph) (n:=xs.length) (p:=fun i y=>(∀hi:i<xs.length,y.args.length=xs[i].args.length)/\∃b o,a=some ⟨b,o,none⟩/\(L<=b/\b<B)/\Ju w' L B b (o+i*2) y) (fun i hi=>by
  obtain⟨b,o,e,hb,hc⟩:=h i hi;obtain⟨v,hl,hv⟩:=hc.iw k;exact⟨v,fun _=>hl,b,o,e,hb,hv⟩)
 refine⟨(List.range xs.length).map f,?_,fun i hi=>?_⟩
 ·refine List.ext_getElem sP (fun i h1 h2=>?_)
  simp only[List.length_map,List.length_range]at h1;simp only[List.getElem_map,List.getElem_range];exact(hf i h1).1 h1
 ·simp only[List.length_map,List.length_range]at hi
  obtain⟨_,b,o,e,hb,hc⟩:=hf i hi;exact⟨b,o,e,hb,by simpa using hc⟩
def Xh.sh(x:Xh):List Nat × Nat:=(x.phis.map (fun p=>p.args.length),x.instrs.length)
theorem YV.iw{b o:Nat}{x:Xh}(h:YV w L B b o x)(k:IW L' B' w w'):∃y:Xh,y.sh=x.sh/\YV w' L B b o y:=by
 obtain⟨pa,pc,ia,ic,h0,h1,h2,h3,h4⟩:=h;obtain⟨t,ht⟩:=h2.iw k;obtain⟨ps,hp1,hp2⟩:=h3.iw k;obtain⟨is,hi1,hi2⟩:=h4.iw k;have hpl:ps.length=x.phis.length:=by have:=congrArg List.length hp1;simpa using this
 exact⟨⟨ps,is,t⟩,by simp only[Xh.sh,hp1,hi1],pa,pc,ia,ic,by rw[hpl];exact k.slice h0,by rw[hi1];exact k.slice h1,ht,hp2,hi2⟩
end Go.Proofs.YtlmgmkmomaileaaGreatDoor
namespace Go.Proofs.YtlmgmkmomaileaaGreatDoor
set_option maxHeartbeats 1000000
open Go.RowKit
theorem oth(w:World)(b:Nat){o o':Nat}(h:o≠o')(v:Value):(w.setCell ⟨b,o,none⟩ v).cell? ⟨b,o',none⟩=w.cell? ⟨b,o',none⟩:=World.cell?_setCell_other _ _ _ _ (by intro e;injection e with _ e2;exact h e2)
theorem IW.set4{L B:Nat}{w wr:World}(h:IW L B w wr){b o:Nat}(hb:L<=b/\b<B){u0 u1 u2 u3:Int}(e0:wr.cell? ⟨b,o,none⟩=some (.int .i64 u0))(e1:wr.cell? ⟨b,o+1,none⟩=some (.int .i64 u1))(e2:wr.cell? ⟨b,o+2,none⟩=some (.int .i64 u2))(e3:wr.cell? ⟨b,o+3,none⟩=some (.int .i64 u3))(v0 v1 v2 v3:Int) :
 IW L B w ((((wr.setCell ⟨b,o,none⟩ (.int .i64 v0)).setCell ⟨b,o+1,none⟩ (.int .i64 v1)).setCell ⟨b,o+2,none⟩ (.int .i64 v2)).setCell ⟨b,o+3,none⟩ (.int .i64 v3)):=by
 refine IW.set (IW.set (IW.set (IW.set h hb e0 v0) hb (u:=u1) ?_ v1) hb (u:=u2) ?_ v2) hb (u:=u3) ?_ v3
 ·rw[oth _ _ oM];exact e1
 ·rw[oth _ _ oM,oth _ _ oM];exact e2
 ·rw[oth _ _ oM,oth _ _ oM,oth _ _ oM];exact e3
theorem IW.set5{L B:Nat}{w wr:World}(h:IW L B w wr){b o:Nat}(hb:L<=b/\b<B){u0 u1 u2 u3 u4:Int}(e0:wr.cell? ⟨b,o,none⟩=some (.int .i64 u0))(e1:wr.cell? ⟨b,o+1,none⟩=some (.int .i64 u1))(e2:wr.cell? ⟨b,o+2,none⟩=some (.int .i64 u2))(e3:wr.cell? ⟨b,o+3,none⟩=some (.int .i64 u3))(e4:wr.cell? ⟨b,o+4,none⟩=some (.int .i64 u4))(v0 v1 v2 v3 v4:Int) :
 IW L B w (((((wr.setCell ⟨b,o,none⟩ (.int .i64 v0)).setCell ⟨b,o+1,none⟩ (.int .i64 v1)).setCell ⟨b,o+2,none⟩ (.int .i64 v2)).setCell ⟨b,o+3,none⟩ (.int .i64 v3)).setCell ⟨b,o+4,none⟩ (.int .i64 v4)):=by
 refine IW.set (h.set4 hb e0 e1 e2 e3 v0 v1 v2 v3) hb (u:=u4) ?_ v4;rw[oth _ _ oM,oth _ _ oM,oth _ _ oM,oth _ _ oM];exact e4
def ZaT(k:Int)(n:Nat):List Int:=(List.range n).map fun i=>k+(i:Nat)
theorem ZfC(k:Int)(n:Nat):(ZaT k n).length=n:=by simp[ZaT]
theorem Zf0(k:Int)(n i:Nat)(h:i<(ZaT k n).length):(ZaT k n)[i]=k+(i:Nat):=by simp[ZaT]
theorem Ur(a:Option Addr)(n c:Nat)(k:Int)(xs:List Int)(L B:Nat)(w:World)(ha:Hid (Xf w L B a xs))(hx:Hid (n=xs.length))(ht:Hid (Zp L B w))(hn:n<=1048576)(h0:0<=k)(h1:k<=1000000000) :
 Calls Tryz.prog 13 #[.slice a n c,.int .i64 k] w fun e w'=>e=.returned (.int .i64 (k+n))/\IW L B w w'/\Xf w' L B a (ZaT k n):=by
 go_enter Tryz.func13,Tryz.ntmps13
 go_wp2
 go_loopw [1,5] (fun u i wr=>∃j:Nat,j<=n/\i=.int .i64 j/\u=.int .i64 (k+j)/\Hid (IW L B w wr)/\Hid (∀q,q<j->∃b o,a=some ⟨b,o,none⟩/\(L<=b/\b<B)/\wr.cell? ⟨b,o+q,none⟩=some (.int .i64 (k+(q:Nat))))) (fun _ i _=>n-(intOf i).toNat)
 case atStart=>exact⟨0,Nat.zero_le _,rfl,sP,IW.refl _ _ _,fun q hq=>absurd hq oM⟩
 case round =>
  obtain⟨j,hj,rfl,rfl,hw,hq⟩:=hrel;by_cases hlt:j<n
  ·have hjx:j<xs.length:=by have:=hx.out;omega
   obtain⟨b,o,rfl,hbB,hc⟩:=ha.out j hjx;obtain⟨u,e1⟩:=hw.int hc;have e2:=hw.thawB ht.out b (o+j) hbB;clear hc;go_wp2;refine⟨⟨j+1,oM,gM,gM,hw.set hbB e1 _,fun q hqj=>?_⟩,by simp[intOf];omega⟩;by_cases e:q=j
   ·subst e
    exact⟨b,o,rfl,hbB,World.cell?_setCell_same _ _ _ e1⟩
   ·obtain⟨b',o',e',hb',hc'⟩:=hq.out q oM
    cases e';exact⟨b,o,rfl,hbB,by rw[World.cell?_setCell_other _ _ _ _ (by intro h;injection h with _ h2;omega)];exact hc'⟩
  ·have hjn:j=n:=oM
   subst hjn;go_wp2
   go_ret
   refine⟨rfl,hw.out,fun i hi=>?_⟩;rw[Zf0];rw[ZfC]at hi;exact hq.out i hi
theorem Wy(a:Option Addr)(n c:Nat)(k:Int)(xs:List XN)(L B:Nat)(w:World)(ha:Hid (X0 w L B a xs))(hx:Hid (n=xs.length))(ht:Hid (Zp L B w))(hn:n<=1048576)(h0:0<=k)(h1:k<=1000000000) :
 Calls Tryz.prog 52 #[.slice a n c,.int .i64 k] w fun e w'=>e=.returned (.int .i64 (k+5*n))/\IW L B w w':=by
 go_enter Tryz.func52,Tryz.ntmps52
 go_wp2
 go_loopw [1,5] (fun u i wr=>∃j:Nat,j<=n/\i=.int .i64 j/\u=.int .i64 (k+5*j)/\Hid (IW L B w wr)) (fun _ i _=>n-(intOf i).toNat)
 case atStart=>exact⟨0,Nat.zero_le _,rfl,sP,IW.refl _ _ _⟩
 case round =>
  obtain⟨j,hj,rfl,rfl,hw⟩:=hrel;by_cases hlt:j<n
  ·have hjx:j<xs.length:=by have:=hx.out;omega
   obtain⟨b,o,rfl,hbB,hc⟩:=ha.out j hjx;obtain⟨⟨u0,u1,u2,u3,u4⟩,e0,e1,e2,e3,e4⟩:=hc.iw hw.out;dsimp only at e0 e1 e2 e3 e4;have ft:=hw.thawB ht.out;have f0:=ft b (o+j*5) hbB;have f1:=ft b (o+j*5+1) hbB;have f2:=ft b (o+j*5+2) hbB;have f3:=ft b (o+j*5+3) hbB;have f4:=ft b (o+j*5+4) hbB;clear hc ft;go_wp2;exact⟨⟨j+1,oM,gM,gM,hw.set5 hbB e0 e1 e2 e3 e4 _ _ _ _ _⟩,by simp[intOf];omega⟩
  ·have hjn:j=n:=oM
   subst hjn;go_wp2
   go_ret
   exact⟨rfl,hw.out⟩
def phCnt(ls:List Nat):Nat:=(ls.map (· + 1)).sum
theorem Zeq(ls:List Nat)(l:Nat):phCnt (ls++[l])=phCnt ls+(l+1):=by simp[phCnt]
theorem ZdP(ls:List Nat)(k:Nat):phCnt (ls.take k)<=phCnt ls:=YZ _ _ _
theorem Zbj(a:Option Addr)(n c:Nat)(k:Int)(xs:List Ph)(L B:Nat)(w:World)(ha:Hid (Yp w L B a xs))(hx:Hid (n=xs.length))(ht:Hid (Zp L B w))(hl:Hid (∀p∈xs,p.args.length<=1048576))(hn:n<=1048576)(h0:0<=k)(h1:k<=100000000)(h2:phCnt (xs.map fun p=>p.args.length)<=100000000) :
 Calls Tryz.prog 51 #[.slice a n c,.int .i64 k] w fun e w'=>e=.returned (.int .i64 (k+phCnt (xs.map fun p=>p.args.length)))/\IW L B w w':=by
 go_enter Tryz.func51,Tryz.ntmps51
 go_wp2
 go_loopw [1,5] (fun u i wr=>∃j:Nat,j<=n/\i=.int .i64 j/\u=.int .i64 (k+(phCnt ((xs.take j).map fun p=>p.args.length):Nat))/\Hid (IW L B w wr)) (fun _ i _=>n-(intOf i).toNat)
 case atStart=>exact⟨0,Nat.zero_le _,rfl,by simp[phCnt],IW.refl _ _ _⟩
 case round =>
  obtain⟨j,hj,rfl,rfl,hw⟩:=hrel;by_cases hlt:j<n
  ·have hjx:j<xs.length:=by have:=hx.out;omega
   obtain⟨b,o,rfl,hbB,hc⟩:=ha.out j hjx;obtain⟨⟨d,ys⟩,hyl,aa,cc,e0,e1,hi⟩:=hc.iw hw.out;dsimp only at e0 e1 hi hyl;rw[hyl]at e1;have hal:=hl.out _ (List.getElem_mem hjx);have ft:=hw.thawB ht.out;have f0:=ft b (o+j*2) hbB;have hS:Hid (phCnt ((xs.take (j+1)).map fun p=>p.args.length)=phCnt ((xs.take j).map fun p=>p.args.length)+(xs[j].args.length+1)):=by show _=_;rw[Xq _ _ hjx,List.map_append,List.map_cons,List.map_nil,Zeq]
   have hb2:phCnt ((xs.take j).map fun p=>p.args.length)+(xs[j].args.length+1)<=100000000:=by
    have h3:=hS.out;have h4:=ZdP (xs.map fun p=>p.args.length) (j+1);rw[<-List.map_take]at h4;omega
   have FT:=Xa ft;have HI:=Xa hi;have E1:=Xa e1;clear hc ft hi;generalize phCnt ((xs.take j).map fun p=>p.args.length)=S at *;generalize xs[j].args.length=m at *
   go_wp2_with fail
   have hw2:=hw.set hbB e0 (k+S);have hi2:=HI.iw (L':=L) (B':=B) ((IW.refl L B wr).set hbB e0 (k+S));obtain⟨zs,hzl,hz⟩:=hi2;refine(Ur _ _ _ _ zs L B _ hz (by show _=_;omega) ((FT.out).setCell _ _) oM oM oM).mono ?_;rintro e w2 ⟨rfl,hiw,_⟩;go_wp2;exact⟨⟨j+1,oM,gM,by rw[hS.out];go_num,hw2.trans hiw⟩,by simp[intOf];omega⟩
  ·have hjn:j=n:=oM
   subst hjn;have E:=Xa (List.take_of_length_le (l:=xs) (i:=j) (by have:=hx.out;omega));go_wp2
   go_ret
   exact⟨XW (by rw[E.out]),hw.out⟩
end Go.Proofs.YtlmgmkmomaileaaGreatDoor
namespace Go.Proofs.YtlmgmkmomaileaaGreatDoor
set_option maxHeartbeats 1000000
open Go.RowKit
attribute [local go_sem ↓] Go.wp_at_zero Go.wp_at_succ
theorem WH(a a':Option Addr)(n c c':Nat)(xs:List Int)(L B L' B':Nat)(w:World)(ha:Hid (Xf w L B a xs))(hb:Hid (Xf w L' B' a' xs))(hx:Hid (n=xs.length))(hn:n<=1048576)(hB:B<=w.heap.size)(hB':B'<=w.heap.size) :
 Calls Tryz.prog 11 #[.slice a n c,.slice a' n c'] w fun e w'=>e=.returned (.bool true)/\Below w.heap.size w w':=by
 go_enter Tryz.func11,Tryz.ntmps11
 go_wp2
 go_loopw [5] (fun i wr=>∃k:Nat,k<=n/\i=.int .i64 k/\Below w.heap.size w wr) (fun i _=>n-(intOf i).toNat)
 case atStart=>exact⟨0,Nat.zero_le _,rfl,Below.refl _ _⟩
 case round =>
  obtain⟨k,hk,rfl,hw⟩:=hrel;by_cases hlt:k<n
  ·have hkx:k<xs.length:=by have:=hx.out;omega
   obtain⟨b,o,rfl,⟨_,hbB⟩,hc⟩:=ha.out k hkx;obtain⟨b',o',rfl,⟨_,hbB'⟩,hc'⟩:=hb.out k hkx;have hk0:(0:Int)<=(k:Int):=oM;have hk1:(k:Int)<(n:Int):=oM;have e1:=(Xu hw oM).trans hc;have e2:=(Xu hw oM).trans hc';clear hc hc';go_wp2
   go_region
   go_wp2;exact⟨⟨k+1,oM,gM,hw.drew⟩,by simp[intOf];omega⟩
  ·go_wp2
   go_ret
   exact⟨rfl,hw⟩
theorem ZcR(a b c d f:Int)(w:World) :
 Calls Tryz.prog 122 #[.agg #[.int .i64 a,.int .i64 b,.int .i64 c,.int .i64 d,.int .i64 f],.agg #[.int .i64 a,.int .i64 b,.int .i64 c,.int .i64 d,.int .i64 f]] w fun e w'=>e=.returned (.bool true)/\Below w.heap.size w w':=by
 go_enter Tryz.func122,Tryz.ntmps122
 go_wp2
 go_ret
 exact⟨rfl,Xb (Xb (Below.refl _ _) _) _⟩
theorem Wn(a b c d:Int)(w:World) :
 Calls Tryz.prog 81 #[.agg #[.int .i64 a,.int .i64 b,.int .i64 c,.int .i64 d],.agg #[.int .i64 a,.int .i64 b,.int .i64 c,.int .i64 d]] w fun e w'=>e=.returned (.bool true)/\Below w.heap.size w w':=by
 go_enter Tryz.func81,Tryz.ntmps81
 go_wp2
 go_ret
 exact⟨rfl,Xb (Xb (Below.refl _ _) _) _⟩
theorem Zgb(d:Int)(a a':Option Addr)(n c c':Nat)(xs:List Int)(L B L' B':Nat)(w:World)(ha:Hid (Xf w L B a xs))(hb:Hid (Xf w L' B' a' xs))(hx:Hid (n=xs.length))(hn:n<=1048576)(hB:B<=w.heap.size)(hB':B'<=w.heap.size) :
 Calls Tryz.prog 123 #[.agg #[.int .i64 d,.slice a n c],.agg #[.int .i64 d,.slice a' n c']] w fun e w'=>e=.returned (.bool true)/\Below w.heap.size w w':=by
 go_enter Tryz.func123,Tryz.ntmps123
 go_wp2_with fail
 refine(WH _ _ _ _ _ xs L B L' B' _ ?q1 ?q2 hx hn ?q3 ?q4).mono ?_
 case q1=>exact ha.keep (((Below.refl _ _).alloc oM _).alloc (by simp;omega) _)
 case q2=>exact hb.keep (((Below.refl _ _).alloc oM _).alloc (by simp;omega) _)
 case q3=>simp;omega
 case q4=>simp;omega
 rintro e w1 ⟨rfl,hb1⟩;go_wp2
 go_ret
 exact⟨rfl,Xd (Xb (Xb (Below.refl _ _) _) _) hb1⟩
theorem Uz(a a':Option Addr)(n c c':Nat)(xs:List XN)(L B L' B':Nat)(w:World)(ha:Hid (X0 w L B a xs))(hb:Hid (X0 w L' B' a' xs))(hx:Hid (n=xs.length))(hn:n<=1048576)(hB:B<=w.heap.size)(hB':B'<=w.heap.size) :
 Calls Tryz.prog 80 #[.slice a n c,.slice a' n c'] w fun e w'=>e=.returned (.bool true)/\Below w.heap.size w w':=by
 go_enter Tryz.func80,Tryz.ntmps80
 go_wp2
 go_loopw [5] (fun i wr=>∃k:Nat,k<=n/\i=.int .i64 k/\Below w.heap.size w wr) (fun i _=>n-(intOf i).toNat)
 case atStart=>exact⟨0,Nat.zero_le _,rfl,Below.refl _ _⟩
 case round =>
  obtain⟨k,hk,rfl,hw⟩:=hrel;by_cases hlt:k<n
  ·have hkx:k<xs.length:=by have:=hx.out;omega
   obtain⟨b,o,rfl,⟨_,hbB⟩,hc⟩:=ha.out k hkx;obtain⟨b',o',rfl,⟨_,hbB'⟩,hc'⟩:=hb.out k hkx;have hk0:(0:Int)<=(k:Int):=oM;have hk1:(k:Int)<(n:Int):=oM;obtain⟨e0,e1,e2,e3,e4⟩:=hc.keep hw oM;obtain⟨f0,f1,f2,f3,f4⟩:=hc'.keep hw oM;clear hc hc';generalize xs[k]=X at *;go_wp2
   go_region_with (go_at_call 122;refine(ZcR _ _ _ _ _ _).mono ?_;rintro e w1 ⟨rfl,hb1⟩)
   all_goals
    go_wp2;exact⟨⟨k+1,oM,gM,Xd hw.drew hb1⟩,by simp[intOf];omega⟩
  ·go_wp2
   go_ret
   exact⟨rfl,hw⟩
def Zcw(xs:List Ph):Prop:=∀p∈xs,p.args.length<=1048576
theorem Zei(a a':Option Addr)(n c c':Nat)(xs:List Ph)(L B L' B':Nat)(w:World)(ha:Hid (Yp w L B a xs))(hb:Hid (Yp w L' B' a' xs))(hx:Hid (n=xs.length))(hs:Hid (Zcw xs))(hn:n<=1048576)(hB:B<=w.heap.size)(hB':B'<=w.heap.size) :
 Calls Tryz.prog 82 #[.slice a n c,.slice a' n c'] w fun e w'=>e=.returned (.bool true)/\Below w.heap.size w w':=by
 go_enter Tryz.func82,Tryz.ntmps82
 go_wp2
 go_loopw [5] (fun i wr=>∃k:Nat,k<=n/\i=.int .i64 k/\Below w.heap.size w wr) (fun i _=>n-(intOf i).toNat)
 case atStart=>exact⟨0,Nat.zero_le _,rfl,Below.refl _ _⟩
 case round =>
  obtain⟨k,hk,rfl,hw⟩:=hrel;by_cases hlt:k<n
  ·have hkx:k<xs.length:=by have:=hx.out;omega
   obtain⟨b,o,rfl,⟨_,hbB⟩,hc⟩:=ha.out k hkx;obtain⟨b',o',rfl,⟨_,hbB'⟩,hc'⟩:=hb.out k hkx;have hk0:(0:Int)<=(k:Int):=oM;have hk1:(k:Int)<(n:Int):=oM;obtain⟨aa,cc,e0,e1,hi⟩:=hc.keep (hw.mono hB) oM;obtain⟨aa',cc',f0,f1,hi'⟩:=hc'.keep (hw.mono hB') oM;have HI:=Xa (hi.keep ((Below.refl B wr).drew));have HI':=Xa (hi'.keep ((Below.refl B' wr).drew));have hq:=hs.out _ (List.getElem_mem hkx);have hBr:B<=wr.heap.size:=by have:=hw.size;omega
   have hBr':B'<=wr.heap.size:=by have:=hw.size;omega
   clear hc hc' hi hi';generalize xs[k]=X at *;go_wp2
   go_region_with (go_at_call 123;refine(Zgb _ _ _ _ _ _ X.args L B L' B' _ HI HI' rfl hq hBr hBr').mono ?_;rintro e w1 ⟨rfl,hb1⟩)
   all_goals
    go_wp2;exact⟨⟨k+1,oM,gM,Xd hw.drew hb1⟩,by simp[intOf];omega⟩
  ·go_wp2
   go_ret
   exact⟨rfl,hw⟩
theorem Zcq(p p' i i':Option Addr)(n pc pc' m ic ic':Nat)(t0 t1 t2 t3:Int)(xs:List Ph)(ys:List XN)(L B L' B':Nat)(w:World)(ha:Hid (Yp w L B p xs))(hb:Hid (Yp w L' B' p' xs))(ga:Hid (X0 w L B i ys))(gb:Hid (X0 w L' B' i' ys))
 (hx:Hid (n=xs.length)) (hy:Hid (m=ys.length)) (hs:Hid (Zcw xs)) (hn:n<=1048576) (hm:m<=1048576) (hB:B<=w.heap.size) (hB':B'<=w.heap.size) :
 Calls Tryz.prog 50 #[.agg #[.slice p n pc,.slice i m ic,.int .i64 t0,.int .i64 t1,.int .i64 t2,.int .i64 t3],.agg #[.slice p' n pc',.slice i' m ic',.int .i64 t0,.int .i64 t1,.int .i64 t2,.int .i64 t3]] w fun e w'=>e=.returned (.bool true)/\Below w.heap.size w w':=by
 go_enter Tryz.func50,Tryz.ntmps50
 go_wp2_with fail
 refine(Zei _ _ _ _ _ xs L B L' B' _ ?q1 ?q2 hx hs hn ?q3 ?q4).mono ?_
 case q1=>exact ha.keep (((Below.refl _ _).alloc oM _).alloc (by simp;omega) _)
 case q2=>exact hb.keep (((Below.refl _ _).alloc oM _).alloc (by simp;omega) _)
 case q3=>simp;omega
 case q4=>simp;omega
 rintro e w1 ⟨rfl,hb1⟩;have hz1:=hb1.size;simp at hz1;have hz2:w.heap.size<w1.heap.size:=oM;have hz3:w.heap.size+1<w1.heap.size:=oM;obtain⟨hc1,hf1⟩:=bcell hb1;have b1:=Xd (Xb (Xb (Below.refl _ _) _) _) hb1
 go_wp2_with fail
 refine(Uz _ _ _ _ _ ys L B L' B' _ ?q1 ?q2 hy hm ?q3 ?q4).mono ?_
 case q1=>exact ga.keep (b1.mono hB)
 case q2=>exact gb.keep (b1.mono hB')
 case q3=>omega
 case q4=>omega
 rintro e w2 ⟨rfl,hb2⟩;obtain⟨hc2,hf2⟩:=bcell hb2;have b2:=Xd b1 hb2
 go_wp2_with fail
 refine(Wn _ _ _ _ _).mono ?_;rintro e w3 ⟨rfl,hb3⟩;go_wp2
 go_ret
 exact⟨rfl,Xd b2 hb3⟩
def TJ(xs:List Xh):Prop:=∀x∈xs,x.phis.length<=1048576/\x.instrs.length<=1048576/\Zcw x.phis
theorem ZbA(a a':Option Addr)(n c c':Nat)(xs:List Xh)(L B L' B':Nat)(w:World)(ha:Hid (Xk w L B a xs))(hb:Hid (Xk w L' B' a' xs))(hx:Hid (n=xs.length))(hs:Hid (TJ xs))(hn:n<=1048576)(hB:B<=w.heap.size)(hB':B'<=w.heap.size) :
 Calls Tryz.prog 26 #[.slice a n c,.slice a' n c'] w fun e w'=>e=.returned (.bool true)/\Below w.heap.size w w':=by
 go_enter Tryz.func26,Tryz.ntmps26
 go_wp2
 go_loopw [5] (fun i wr=>∃k:Nat,k<=n/\i=.int .i64 k/\Below w.heap.size w wr) (fun i _=>n-(intOf i).toNat)
 case atStart=>exact⟨0,Nat.zero_le _,rfl,Below.refl _ _⟩
 case round =>
  obtain⟨k,hk,rfl,hw⟩:=hrel;by_cases hlt:k<n
  ·have hkx:k<xs.length:=by have:=hx.out;omega
   obtain⟨b,o,rfl,⟨_,hbB⟩,hc⟩:=ha.out k hkx;obtain⟨b',o',rfl,⟨_,hbB'⟩,hc'⟩:=hb.out k hkx;have hk0:(0:Int)<=(k:Int):=oM;have hk1:(k:Int)<(n:Int):=oM;obtain⟨pa,pc,ia,ic,e0,e1,⟨e2,e3,e4,e5⟩,hp,hi⟩:=hc.keep (hw.mono hB) oM;obtain⟨pa',pc',ia',ic',f0,f1,⟨f2,f3,f4,f5⟩,hp',hi'⟩:=hc'.keep (hw.mono hB') oM;have HP:=Xa (hp.keep ((Below.refl B wr).drew));have HP':=Xa (hp'.keep ((Below.refl B' wr).drew));have HI:=Xa (hi.keep ((Below.refl B wr).drew));have HI':=Xa (hi'.keep ((Below.refl B' wr).drew));obtain⟨hq1,hq2,hq3⟩:=hs.out _ (List.getElem_mem hkx);have HQ:=Xa hq3;have hBr:B<=wr.heap.size:=by have:=hw.size;omega
   have hBr':B'<=wr.heap.size:=by have:=hw.size;omega
   clear hc hc' hi hi' hp hp' hq3;generalize xs[k]=X at *;go_wp2
   go_region_with (go_at_call 50;refine(Zcq _ _ _ _ _ _ _ _ _ _ _ _ _ _ X.phis X.instrs L B L' B' _ HP HP' HI HI' rfl rfl HQ hq1 hq2 hBr hBr').mono ?_;rintro e w1 ⟨rfl,hb1⟩)
   all_goals
    go_wp2;exact⟨⟨k+1,oM,gM,Xd hw.drew hb1⟩,by simp[intOf];omega⟩
  ·go_wp2
   go_ret
   exact⟨rfl,hw⟩
theorem Zej(v:Int)(a a':Option Addr)(n c c':Nat)(xs:List Xh)(L B L' B':Nat)(w:World)(ha:Hid (Xk w L B a xs))(hb:Hid (Xk w L' B' a' xs))(hx:Hid (n=xs.length))(hs:Hid (TJ xs))(hn:n<=1048576)(hB:B<=w.heap.size)(hB':B'<=w.heap.size) :
 Calls Tryz.prog 10 #[.agg #[.int .i64 v,.slice a n c],.agg #[.int .i64 v,.slice a' n c']] w fun e w'=>e=.returned (.bool true)/\Below w.heap.size w w':=by
 go_enter Tryz.func10,Tryz.ntmps10
 go_wp2_with fail
 refine(ZbA _ _ _ _ _ xs L B L' B' _ ?q1 ?q2 hx hs hn ?q3 ?q4).mono ?_
 case q1=>exact ha.keep (((Below.refl _ _).alloc oM _).alloc (by simp;omega) _)
 case q2=>exact hb.keep (((Below.refl _ _).alloc oM _).alloc (by simp;omega) _)
 case q3=>simp;omega
 case q4=>simp;omega
 rintro e w1 ⟨rfl,hb1⟩;go_wp2
 go_ret
 exact⟨rfl,Xd (Xb (Xb (Below.refl _ _) _) _) hb1⟩
end Go.Proofs.YtlmgmkmomaileaaGreatDoor
namespace Go.Proofs.YtlmgmkmomaileaaGreatDoor
set_option maxHeartbeats 1000000
open Go.RowKit
structure Mod(L B:Nat)(w w':World):Prop where
 os:w'.os=w.os
 tape:w'.tape=w.tape
 output:w'.output=w.output
 size:w.heap.size<=w'.heap.size
 block:∀k,k<w.heap.size->¬(L<=k/\k<B)->w'.heap[k]?=w.heap[k]?
theorem Mod.of_iw{L B:Nat}{w w':World}(h:IW L B w w'):Mod L B w w':=⟨h.os,h.tape,h.output,by rw[h.size];exact Nat.le_refl _,fun k _ hk=>h.block k hk⟩
theorem Mod.of_below{L B:Nat}{w w':World}(h:Below w.heap.size w w'):Mod L B w w':=⟨h.os,h.tape,h.output,h.size,fun k hk _=>h.block k hk⟩
theorem Mod.trans{L B:Nat}{w w1 w2:World}(h:Mod L B w w1)(k:Mod L B w1 w2):Mod L B w w2 :=
 ⟨k.os.trans h.os,k.tape.trans h.tape,k.output.trans h.output,Nat.le_trans h.size k.size,fun i hi hj=>(k.block i (Nat.lt_of_lt_of_le hi h.size) hj).trans (h.block i hi hj)⟩
theorem Mod.below{L B:Nat}{w0 w w':World}(h:Mod L B w w')(k:Below w0.heap.size w0 w)(hl:w0.heap.size<=L):Below w0.heap.size w0 w' :=
 ⟨h.os.trans k.os,h.tape.trans k.tape,h.output.trans k.output,Nat.le_trans k.size h.size,fun i hi=>(h.block i (Nat.lt_of_lt_of_le hi k.size) oM).trans (k.block i hi)⟩
def WT(s:List Nat × Nat):Nat:=phCnt s.1+5*s.2+4
def shsCnt(ss:List (List Nat × Nat)):Nat:=(ss.map WT).sum
theorem Zcf(ss:List (List Nat × Nat))(s:List Nat × Nat):shsCnt (ss++[s])=shsCnt ss+WT s:=by simp[shsCnt]
theorem Zc3(ss:List (List Nat × Nat))(k:Nat):shsCnt (ss.take k)<=shsCnt ss:=YZ _ _ _
theorem WG(a:Option Addr)(n c:Nat)(k:Int)(xs:List Xh)(L B:Nat)(w:World)(ha:Hid (Xk w L B a xs))(hx:Hid (n=xs.length))(ht:Hid (Zp L B w))(hl:Hid (TJ xs))(hn:n<=1048576)(h0:0<=k)(h1:k<=10000000)(h2:shsCnt (xs.map Xh.sh)<=10000000) :
 Calls Tryz.prog 27 #[.slice a n c,.int .i64 k] w fun e w'=>e=.returned (.int .i64 (k+shsCnt (xs.map Xh.sh)))/\IW L B w w':=by
 go_enter Tryz.func27,Tryz.ntmps27
 go_wp2
 go_loopw [1,5] (fun u i wr=>∃j:Nat,j<=n/\i=.int .i64 j/\u=.int .i64 (k+(shsCnt ((xs.take j).map Xh.sh):Nat))/\Hid (IW L B w wr)) (fun _ i _=>n-(intOf i).toNat)
 case atStart=>exact⟨0,Nat.zero_le _,rfl,by simp[shsCnt],IW.refl _ _ _⟩
 case round =>
  obtain⟨j,hj,rfl,rfl,hw⟩:=hrel;by_cases hlt:j<n
  ·have hjx:j<xs.length:=by have:=hx.out;omega
   obtain⟨b,o,rfl,hbB,hc⟩:=ha.out j hjx;have hS:Hid (shsCnt ((xs.take (j+1)).map Xh.sh)=shsCnt ((xs.take j).map Xh.sh)+WT xs[j].sh):=by show _=_;rw[Xq _ _ hjx,List.map_append,List.map_cons,List.map_nil,Zcf]
   have hb2:shsCnt ((xs.take j).map Xh.sh)+WT xs[j].sh<=10000000:=by
    have h3:=hS.out;have h4:=Zc3 (xs.map Xh.sh) (j+1);rw[<-List.map_take]at h4;omega
   obtain⟨hl1,hl2,hl3⟩:=hl.out _ (List.getElem_mem hjx);obtain⟨Y,hsh,pa,pc,ia,ic,e0,e1,_,hp,_⟩:=hc.iw hw.out;have hsh1:Y.phis.map (fun p=>p.args.length)=xs[j].phis.map (fun p=>p.args.length):=congrArg Prod.fst hsh;have hsh2:Y.instrs.length=xs[j].instrs.length:=congrArg Prod.snd hsh;have hYp:Y.phis.length=xs[j].phis.length:=by have:=congrArg List.length hsh1;simpa using this
   have hYl:∀p∈Y.phis,p.args.length<=1048576:=fun p hp'=>by
    have h5:p.args.length∈Y.phis.map (fun p=>p.args.length):=List.mem_map.2 ⟨p,hp',rfl⟩;rw[hsh1]at h5;obtain⟨q,hq,e⟩:=List.mem_map.1 h5;rw[<-e];exact hl3 q hq
   have HC:=Xa hc;have HYL:=Xa hYl;have hpc:phCnt (Y.phis.map (fun p=>p.args.length))+5*Y.instrs.length+4=WT xs[j].sh:=by rw[hsh1,hsh2];rfl
   rw[hYp,<-hYp]at e0;have ft:=Xa (hw.thawB ht.out);have HP:=Xa hp;have HPC:=Xa hpc;have hpb:phCnt (Y.phis.map (fun p=>p.args.length))+5*Y.instrs.length+4<=10000000:=oM;have hYi:Y.instrs.length<=1048576:=oM;have hYn:Y.phis.length<=1048576:=oM;have e0':wr.cell? ⟨b,o+j*6,none⟩=some (.slice pa Y.phis.length pc):=e0;have e1':wr.cell? ⟨b,o+j*6+1,none⟩=some (.slice ia Y.instrs.length ic):=e1;have HS2:=Xa hsh2;clear hc hp e0 e1 hsh hsh1 hsh2 hpc hYl hl1 hl2 hl3 hYp;generalize hQ:shsCnt ((xs.take j).map Xh.sh)=Q at *;have HQ:=Xa hQ;clear hQ
   go_wp2_with fail
   refine(Zbj _ _ _ _ Y.phis L B _ HP rfl ft HYL oM oM oM oM).mono ?_;rintro e w2 ⟨rfl,hiw2⟩;have c2:=hiw2.slice e1';obtain⟨Y2,hsh',pa2,pc2,ia2,ic2,_,g1,_,_,hi2⟩:=HC.iw (hw.trans hiw2);have hsame:ia2=ia/\Y2.instrs.length=Y.instrs.length:=by
    have:=Option.some.inj (g1.symm.trans c2);injection this with q1 q2 _;exact⟨q1,q2⟩
   obtain⟨rfl,hlen2⟩:=hsame;have HI2:=Xa hi2;have ft2:=Xa (hiw2.thawB ft.out);have HL2:=Xa hlen2;have HIW2:=Xa hiw2;clear g1 hi2 hsh' hiw2 e0' e1' hlen2;generalize phCnt (Y.phis.map (fun p=>p.args.length))=S at *
   go_wp2_with fail
   refine(Wy _ _ _ _ Y2.instrs L B _ HI2 HL2.symm ft2 oM oM oM).mono ?_;rintro e w3 ⟨rfl,hiw3⟩;obtain⟨Y3,_,_,_,_,_,_,_,⟨t0,t1,t2,t3⟩,_,_⟩:=HC.iw (hw.trans (HIW2.trans hiw3));have ft3:=hiw3.thawB ft2.out;have f0:=ft3 b (o+j*6+2) hbB;have f1:=ft3 b (o+j*6+2+1) hbB;have f2:=ft3 b (o+j*6+2+2) hbB;have f3:=ft3 b (o+j*6+2+3) hbB;have HIW3:=Xa hiw3;clear hiw3 ft3 c2;go_wp2;exact⟨⟨j+1,oM,gM,by rw[hS.out,<-HPC.out];go_num,(hw.trans (HIW2.trans HIW3.out)).set4 hbB t0 t1 t2 t3 _ _ _ _⟩,by simp[intOf];omega⟩
  ·have hjn:j=n:=oM
   subst hjn;have E:=Xa (List.take_of_length_le (l:=xs) (i:=j) (by have:=hx.out;omega));go_wp2
   go_ret
   exact⟨XW (by rw[E.out]),hw.out⟩
theorem Zb9(v:Int)(a:Option Addr)(n c:Nat)(k:Int)(xs:List Xh)(L B:Nat)(w:World)(ha:Hid (Xk w L B a xs))(hx:Hid (n=xs.length))(ht:Hid (Zp L B w))(hl:Hid (TJ xs))(hB:B<=w.heap.size)(hn:n<=1048576)(h0:0<=k)(h1:k<=10000000)(h2:shsCnt (xs.map Xh.sh)<=10000000) :
 Calls Tryz.prog 12 #[.agg #[.int .i64 v,.slice a n c],.int .i64 k] w fun e w'=>e=.returned (.int .i64 (k+shsCnt (xs.map Xh.sh)))/\Mod L B w w':=by
 go_enter Tryz.func12,Tryz.ntmps12
 go_wp2_with fail
 refine(WG _ _ _ _ xs L B _ ?q1 hx ?q2 hl hn h0 h1 h2).mono ?_
 case q1=>exact ha.keep ((Xb (Below.refl _ _) _).mono hB)
 case q2=>exact ht.keepS (Xv.of_below ((Xb (Below.refl _ _) _).mono hB))
 rintro e w1 ⟨rfl,hiw⟩;go_wp2
 go_ret
 exact⟨rfl,(Mod.of_below (Xb (Below.refl _ _) _)).trans (Mod.of_iw hiw)⟩
end Go.Proofs.YtlmgmkmomaileaaGreatDoor
