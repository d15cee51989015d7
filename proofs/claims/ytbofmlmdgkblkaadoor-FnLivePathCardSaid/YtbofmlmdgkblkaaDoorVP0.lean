import Derived.Test.YtbofmlmdgkblkaaDoorNV1
import Derived.Lib.TrailingZeros
import Derived.Laws.Bits64b
namespace Go.Proofs.YtbofmlmdgkblkaaDoor
def ZP(y:XS):Int:=if dB y.op then y.dst else -1
def Ya(v:Int)(fin:Bool):List XS->Nat
 | []=>if fin then 1 else 0
 | y::ys=>if XT (rdI y) v then 1 else if ZP y=v then 2 else Ya v fin ys
def Zbk(x:Xg)(E:List Int)(v:Int):Nat:=Ya v (XT (rdT x.term) v||XT E v) x.instrs
def Zdg(W:Nat->Nat)(y:XS):Nat->Nat:=addsN (delsN W (X0 (writesI y))) (X0 (rdI y))
theorem XU{l:List Int}{v:Int}:XT l v=true↔v∈l:=by unfold XT;exact List.contains_iff_mem
theorem Zd6{W:Nat->Nat}{y:XS}(h1:∀v∈rdI y,0<=v)(h2:∀v∈writesI y,0<=v)(v:Nat):Xf (Zdg W y) v=true↔(v:Int)∈rdI y\/((v:Int) ∉ writesI y/\Xf W v=true):=by
 unfold Zdg;rw[YV,JD,Bool.or_eq_true,decide_eq_true_eq,YB h1,Bool.and_eq_true,decide_eq_true_eq,YB h2]
theorem Yz{y:XS}{v:Nat}:ZP y=(v:Int)↔(v:Int)∈writesI y:=by
 unfold ZP writesI;by_cases e:dB y.op=true
 ·rw[if_pos e,if_pos e];simp[eq_comm]
 ·rw[if_neg e,if_neg e];simp
theorem Zhm{v:Nat}{W:Nat->Nat}:∀(ys:List XS),(∀y∈ys,(∀v∈rdI y,0<=v)/\∀v∈writesI y,0<=v)->(Xf (ys.foldr (fun y acc=>Zdg acc y) W) v=true↔Ya (v:Int) (Xf W v) ys=1)
 | [],_=>by
  unfold Ya;cases h:Xf W v<;>simp[h]
 | y::ys,hy=>by
  have ih:=Zhm (v:=v) (W:=W) ys (fun z hz=>hy z (List.mem_cons_of_mem _ hz));have h0:=hy y List.mem_cons_self;rw[List.foldr_cons,Zd6 h0.1 h0.2,ih];show _↔(if XT (rdI y) (v:Int)then 1 else if ZP y=(v:Int)then 2 else Ya (v:Int) (Xf W v) ys)=1;by_cases e1:(v:Int)∈rdI y
  ·rw[if_pos (XU.2 e1)];simp[e1]
  ·rw[if_neg (fun h=>e1 (XU.1 h))]
   by_cases e2:(v:Int)∈writesI y
   ·rw[if_pos (Yz.2 e2)];simp[e1,e2]
   ·rw[if_neg (fun h=>e2 (Yz.1 h))];simp[e1,e2]
theorem Zg8{α β:Type}(l:List α)(g:Fin l.length->β):(TA l.length 0).map g=((List.finRange l.length).map g).reverse:=by
 unfold TA;rw[List.take_of_length_le (by simp),List.map_reverse]
theorem ZgF{α:Type}(l:List α):(List.finRange l.length).map (fun j=>l[j])=l:=by
 apply List.ext_getElem
 ·simp
 ·intro i h1 h2
  simp
theorem Zgp(x:Xg)(W:Nat->Nat):((TA x.instrs.length 0).map (Ut x)).foldl Tc W=x.instrs.foldr (fun y acc=>Zdg acc y) W:=by
 rw[Zg8,List.foldl_reverse]
 conv=>rhs;rw[<-ZgF x.instrs]
 rw[List.foldr_map,List.foldr_map];rfl
theorem Zgr{x:Xg}{W:Nat->Nat}{v:Nat}(hy:∀y∈x.instrs,(∀v∈rdI y,0<=v)/\∀v∈writesI y,0<=v)(ht:∀v∈rdT x.term,0<=v)(hp:∀p∈x.phis,0<=p.dst) :
 Xf (inW x W) v=true↔(v:Int) ∉ x.phis.map Ph.dst/\Ya (v:Int) (XT (rdT x.term) (v:Int)||Xf W v) x.instrs=1:=by
 unfold inW plL;rw[List.foldl_cons,List.foldl_append,List.foldl_cons,List.foldl_nil,Zgp];have hd:∀v∈x.phis.map Ph.dst,0<=v:=fun v hv=>by obtain⟨p,h1,rfl⟩:=List.mem_map.1 hv;exact hp p h1
 show Xf (addsN (delsN _ (X0 (x.phis.map Ph.dst))) (X0 [])) v=true↔_;rw[YV,JD,Bool.or_eq_true,decide_eq_true_eq,Bool.and_eq_true,decide_eq_true_eq,YB hd];rw[Zhm x.instrs hy];have e:Xf (Tc W (x.instrs.length+1,rdT x.term,[])) v=(XT (rdT x.term) (v:Int)||Xf W v):=by
  show Xf (addsN (delsN W (X0 [])) (X0 (rdT x.term))) v=_;rw[YV,JD,Bool.eq_iff_iff,Bool.or_eq_true,Bool.or_eq_true,decide_eq_true_eq,YB ht,XU];simp[X0]
 rw[e];simp[X0]
theorem Zdc{x:Xg}{v:Nat}(hy:∀y∈x.instrs,∀v∈writesI y,0<=v)(hp:∀p∈x.phis,0<=p.dst):Xf (dfW x) v=true↔(v:Int)∈x.phis.map Ph.dst\/∃y∈x.instrs,(v:Int)∈writesI y:=by
 have hf:∀(l:List (Nat × List Int × List Int))(W:Nat->Nat),Xf (l.foldl Tj W) v=true↔Xf W v=true\/∃q∈l,v∈X0 q.2.2:=by
  intro l
  induction l with
  | nil=>intro W;simp
  | cons q l ih =>
   intro W;rw[List.foldl_cons,ih];unfold Tj;rw[YV,Bool.or_eq_true,decide_eq_true_eq];simp only[List.mem_cons,exists_eq_or_imp];constructor
   ·rintro((h | h) | h)
    ·exact Or.inr (Or.inl h)
    ·exact Or.inl h
    ·exact Or.inr (Or.inr h)
   ·rintro(h | h | h)
    ·exact Or.inl (Or.inr h)
    ·exact Or.inl (Or.inl h)
    ·exact Or.inr h
 have hd:∀v∈x.phis.map Ph.dst,0<=v:=fun v hv=>by obtain⟨p,h1,rfl⟩:=List.mem_map.1 hv;exact hp p h1
 unfold dfW;rw[hf,Jj];unfold plL;constructor
 ·rintro(h | ⟨q,hq,hv⟩)
  ·cases h
  ·rcases List.mem_cons.1 hq with rfl | hq
   ·simp[X0]at hv
   ·rcases List.mem_append.1 hq with hq | hq
    ·obtain⟨j,_,rfl⟩:=List.mem_map.1 hq
     exact Or.inr ⟨x.instrs[j],List.getElem_mem _,(YB (hy _ (List.getElem_mem _))).1 hv⟩
    ·rw[List.mem_singleton.1 hq]at hv
     exact Or.inl ((YB hd).1 hv)
 ·rintro(h | ⟨y,hy',hv⟩)
  ·exact Or.inr ⟨_,VG x,(YB hd).2 h⟩
  ·obtain⟨j,hj,rfl⟩:=List.getElem_of_mem hy'
   exact Or.inr ⟨_,Za1 x ⟨j,hj⟩,(YB (hy _ (List.getElem_mem _))).2 hv⟩
theorem VH{v:Nat}{fin:Bool}:∀(ys:List XS),Ya (v:Int) fin ys=0->∀y∈ys,(v:Int) ∉ writesI y
 | [],_,_,h=>by cases h
 | z::zs,h,y,hy=>by
  have h':(if XT (rdI z) (v:Int)then 1 else if ZP z=(v:Int)then 2 else Ya (v:Int) fin zs)=0:=h;by_cases e1:XT (rdI z) (v:Int)=true
  ·rw[if_pos e1]at h';cases h'
  ·rw[if_neg e1]at h'
   by_cases e2:ZP z=(v:Int)
   ·rw[if_pos e2]at h';cases h'
   ·rw[if_neg e2]at h'
    rcases List.mem_cons.1 hy with rfl | hy
    ·exact fun h3=>e2 (Yz.2 h3)
    ·exact VH zs h' y hy
theorem Wt{v:Nat}{fin:Bool}:∀(ys:List XS),(∀y∈ys,(v:Int) ∉ writesI y)->Ya (v:Int) fin ys≠2
 | [],_=>by unfold Ya;split<;>simp
 | z::zs,h=>by
  show(if XT (rdI z) (v:Int)then 1 else if ZP z=(v:Int)then 2 else Ya (v:Int) fin zs)≠2;by_cases e1:XT (rdI z) (v:Int)=true
  ·rw[if_pos e1];simp
  ·rw[if_neg e1,if_neg (fun e2=>h z List.mem_cons_self (Yz.1 e2))]
   exact Wt zs (fun y hy=>h y (List.mem_cons_of_mem _ hy))
theorem Zbm{v:Int}{fin:Bool}:∀(ys:List XS),Ya v fin ys<=2
 | []=>by unfold Ya;split<;>simp
 | z::zs=>by
  show(if XT (rdI z) v then 1 else if ZP z=v then 2 else Ya v fin zs)<=2;split
  ·decide
  ·split
   ·decide
   ·exact Zbm zs
theorem Up{v:Int}{fin:Bool}:∀(ys:List XS),Ya v fin ys=1->fin=true\/∃y∈ys,v∈rdI y
 | [],h=>by
  have h':(if fin then 1 else 0)=1:=h;cases fin<;>simp_all
 | z::zs,h=>by
  have h':(if XT (rdI z) v then 1 else if ZP z=v then 2 else Ya v fin zs)=1:=h;by_cases e1:XT (rdI z) v=true
  ·exact Or.inr ⟨z,List.mem_cons_self,XU.1 e1⟩
  ·rw[if_neg e1]at h'
   by_cases e2:ZP z=v
   ·rw[if_pos e2]at h';cases h'
   ·rw[if_neg e2]at h'
    rcases Up zs h' with h3 | ⟨y,hy,h3⟩
    ·exact Or.inl h3
    ·exact Or.inr ⟨y,List.mem_cons_of_mem _ hy,h3⟩
def ZcZ(xs:List Xg)(p t:Int):List Int:=match xs[t.toNat]? with
 | none=>[]
 | some x=>if x.phis=[]then []else (List.range (predsFrom xs 0 t).length).flatMap fun i=>if (predsFrom xs 0 t).getD i 0=p then x.phis.map (fun h=>h.args.getD i 0)else []
def Zz(xs:List Xg)(b:Nat):List Int:=match xs[b]? with
 | none=>[]
 | some x=>x.term.targets.flatMap (ZcZ xs (b:Int))
theorem KS{V:Nat}{xs:List Xg}(ho:UF V xs){b:Nat}(hb:b<xs.length){v:Nat}:(v:Int)∈Zz xs b↔(b,v)∈Wa xs xs.length:=by
 have hT0:∀x∈xs,∀t∈x.term.targets,0<=t:=fun x hx t ht=>(ho.okf.tgt x hx t ht).1
 have hE:(v:Int)∈Zz xs b↔∃t:Nat,∃ht:t<xs.length,∃i,i<(Yb xs xs.length t).length/\(Yb xs xs.length t).getD i 0=b/\∃p∈xs[t].phis,p.args.getD i 0=(v:Int):=by
  unfold Zz;rw[List.getElem?_eq_getElem hb];simp only[List.mem_flatMap];constructor
  ·rintro⟨t,ht,hv⟩
   have h0:=ho.okf.tgt _ (List.getElem_mem hb) t ht;obtain⟨k,rfl⟩:=Int.eq_ofNat_of_zero_le h0.1;have hk:k<xs.length:=by have:=h0.2;omega
   refine⟨k,hk,?_⟩;unfold ZcZ at hv;rw[Int.toNat_natCast,List.getElem?_eq_getElem hk]at hv;simp only at hv;by_cases e:xs[k].phis=[]
   ·rw[if_pos e]at hv;cases hv
   ·rw[if_neg e]at hv
    obtain⟨i,hi,h2⟩:=List.mem_flatMap.1 hv;rw[KU hT0]at hi h2;have hi':i<(Yb xs xs.length k).length:=by simpa [Xk]using hi
    by_cases e2:(Xk (Yb xs xs.length k)).getD i 0=(b:Int)
    ·rw[if_pos e2]at h2
     obtain⟨p,h3,h4⟩:=List.mem_map.1 h2;refine⟨i,hi',?_,p,h3,h4⟩;simp only[Xk,List.getD_eq_getElem?_getD,List.getElem?_map,List.getElem?_eq_getElem hi',Option.map_some,Option.getD_some]at e2 |-;have:((Yb xs xs.length k)[i]:Int)=(b:Int):=e2;omega
    ·rw[if_neg e2]at h2;cases h2
  ·rintro⟨t,ht,i,hi,h1,p,h2,h3⟩
   have hm:b∈Yb xs xs.length t:=by
    rw[<-h1,List.getD_eq_getElem?_getD,List.getElem?_eq_getElem hi];exact List.getElem_mem hi
   have htg:(t:Int)∈xs[b].term.targets:=by
    have:=(WM.1 hm).2;rw[Jt hb]at this;obtain⟨z,hz,e⟩:=List.mem_map.1 this;have:=hT0 _ (List.getElem_mem hb) z hz;rw[show(t:Int)=z by omega];exact hz
   refine⟨(t:Int),htg,?_⟩;unfold ZcZ;rw[Int.toNat_natCast,List.getElem?_eq_getElem ht];simp only;rw[if_neg (fun e=>by rw[e]at h2;cases h2),KU hT0];refine List.mem_flatMap.2 ⟨i,by simpa [Xk]using hi,?_⟩;rw[if_pos (by
    simp only[Xk,List.getD_eq_getElem?_getD,List.getElem?_map,List.getElem?_eq_getElem hi,Option.map_some,Option.getD_some]at h1 |-;show((Yb xs xs.length t)[i]:Int)=(b:Int);rw[h1])]
   exact List.mem_map.2 ⟨p,h2,h3⟩
 rw[hE];unfold Wa phB phT;rw[List.mem_flatMap];constructor
 ·rintro⟨t,ht,i,hi,h1,p,h2,h3⟩
  refine⟨t,List.mem_range.2 ht,?_⟩;rw[List.getElem?_eq_getElem ht];refine List.mem_flatMap.2 ⟨p,h2,?_⟩;have hl:=(ho.pha t ht p h2).1;rw[KU hT0]at hl;have hl':p.args.length=(Yb xs xs.length t).length:=by simpa [Xk]using hl
  have hi2:i<p.args.length:=by omega
  rw[List.getD_eq_getElem?_getD,List.getElem?_eq_getElem hi2]at h3;rw[List.getD_eq_getElem?_getD,List.getElem?_eq_getElem hi]at h1;have hz:i<((Yb xs xs.length t).zip (X0 p.args)).length:=by simp[X0];omega
  have e:((Yb xs xs.length t).zip (X0 p.args))[i]=(b,v):=by
   rw[List.getElem_zip];simp only[X0,List.getElem_map];have h1':(Yb xs xs.length t)[i]=b:=h1;have h3':p.args[i]=(v:Int):=h3;rw[h1',h3'];rfl
  rw[<-e];exact List.getElem_mem hz
 ·rintro⟨t,ht,hv⟩
  have ht:=List.mem_range.1 ht;rw[List.getElem?_eq_getElem ht]at hv;obtain⟨p,h2,h3⟩:=List.mem_flatMap.1 (show _∈List.flatMap _ xs[t].phis from hv);obtain⟨i,hi,e⟩:=List.getElem_of_mem h3;rw[List.getElem_zip]at e;have hi1:i<(Yb xs xs.length t).length:=by simp at hi;omega
  have hi2:i<p.args.length:=by simp[X0]at hi;omega
  refine⟨t,ht,i,hi1,?_,p,h2,?_⟩
  ·rw[List.getD_eq_getElem?_getD,List.getElem?_eq_getElem hi1]
   exact congrArg Prod.fst e
  ·rw[List.getD_eq_getElem?_getD,List.getElem?_eq_getElem hi2]
   have h4:(X0 p.args)[i]'(by simp[X0];omega)=v:=congrArg Prod.snd e;simp only[X0,List.getElem_map]at h4;have:=(ho.pha t ht p h2).2 p.args[i] (List.getElem_mem hi2);show p.args[i]=(v:Int);omega
def K6(xs:List Xg)(b v:Nat):Nat:=match xs[b]? with
 | none=>0
 | some x=>Zbk x (Zz xs b) (v:Int)
def KW(xs:List Xg)(b v:Nat):Bool:=match xs[b]? with
 | none=>false
 | some x=>XT (x.phis.map Ph.dst) (v:Int)
end Go.Proofs.YtbofmlmdgkblkaaDoor
namespace Go.Proofs.YtbofmlmdgkblkaaDoor
set_option maxHeartbeats 1000000
open Go.RowKit
def Jz(w:World):Prop:=∀j,j<64->w.cell? ⟨2,j,none⟩=some (.int .u8 (Lib.deBruijn64tab.getD j 0))
theorem Jz.of_block{V V':World}(h:Jz V)(e:V'.heap[(2 : Nat)]?=V.heap[(2 : Nat)]?):Jz V':=fun j hj=>(Xc (o:=j) e).trans (h j hj)
theorem ZhX(x a:Nat)(hx:x<18446744073709551616)(hx0:x≠0)(hlow:x &&& (18446744073709551616-x)=a) :
 IntKind.u64.wrap (bits BinOp.and IntKind.u64 (x:Int) (IntKind.u64.wrap (-(x:Int)))*285870213051353865) / 288230376151711744=((a*285870213051353865 % 18446744073709551616 / 288230376151711744:Nat):Int):=by
 have e1:IntKind.u64.wrap (-(x:Int))=((18446744073709551616-x:Nat):Int):=by rw[IntKind.wrap_u64];omega
 rw[e1,bits_and_u64_nat x _ hx (by omega),hlow,IntKind.wrap_u64];omega
theorem Zgw(x k idx:Nat)(w:World)(hx0:((x:Int)==0)=false)
 (key:IntKind.u64.wrap (bits BinOp.and IntKind.u64 (x:Int) (IntKind.u64.wrap (-(x:Int)))*285870213051353865) / 288230376151711744=(idx:Int))
 (hi:idx<64) (hk:k<64) (hcell:w.cell? ⟨2,idx,none⟩=some (.int .u8 k)) :
 Calls Tryd.prog 77 #[.int .u64 x] w fun e w'=>e=.returned (.int .i64 k)/\w'=w:=by
 go_enter Tryd.func77,Tryd.ntmps77
 go_wp2_with (simp only[key])
 go_ret
 exact⟨rfl,rfl⟩
theorem ZhG(x:Nat)(hx:x<18446744073709551616)(hx0:x≠0)(w:World)(hT:Hid (Jz w)) :
 Calls Tryd.prog 77 #[.int .u64 x] w fun e w'=>e=.returned (.int .i64 (Lib.ctz 64 x:Nat))/\w'=w:=by
 obtain⟨hlow,hk⟩:=Lib.lowest_bit 64 x hx0 hx;obtain⟨hi,htab⟩:=Lib.deBruijn64_at _ hk;have hcell:=hT.out _ hi;rw[htab]at hcell;exact Zgw x _ _ w (by simp;omega) (ZhX x _ hx hx0 hlow) hi hk hcell
theorem Vk{y:Nat}(h0:y≠0)(h:y<2 ^ 64):∃m,y=2 ^ Lib.ctz 64 y*(2*m+1)/\Lib.ctz 64 y<64:=by
 have e:Lib.ctz 64 y=Lib.ctzFrom 64 y:=by simp[Lib.ctz,h0]
 rw[e];exact Lib.ctzFrom_spec 64 y (by omega) h
theorem VR(c m i:Nat):(2 ^ c*m).testBit i=(decide (c<=i)&&m.testBit (i-c)):=by
 rw[Nat.mul_comm,Nat.testBit_mul_two_pow]
theorem Zge(m i:Nat):(2*m+1).testBit i=(decide (i=0)||(2*m).testBit i):=by
 cases i with
 | zero=>simp
 | succ i =>
  rw[Nat.testBit_succ,Nat.testBit_succ];have d1:(2*m+1) / 2=m:=by omega
  have d2:2*m / 2=m:=by omega
  rw[d1,d2];simp
theorem ZgO{y:Nat}(h0:y≠0)(h:y<2 ^ 64)(i:Nat):(y &&& (y-1)).testBit i=(y.testBit i&&decide (i≠Lib.ctz 64 y)):=by
 obtain⟨m,hm,hc⟩:=Vk h0 h;generalize Lib.ctz 64 y=c at *;have hp:0<2 ^ c:=Nat.two_pow_pos c;have e1:y-1=2 ^ c*(2*m)+(2 ^ c-1):=by rw[hm,Nat.mul_add];omega
 rw[Nat.testBit_and,e1,Nat.testBit_two_pow_mul_add _ (by omega),hm,VR];by_cases hi:i<c
 ·have:¬c<=i:=by omega
  simp[this]
 ·have h1:c<=i:=by omega
  simp only[hi,h1,decide_true,Bool.true_and,if_false];rw[Zge];by_cases e:i=c
  ·subst e;simp
  ·have:¬i-c=0:=by omega
   simp[this,e]
theorem Zh3{y:Nat}(h0:y≠0)(h:y<2 ^ 64):y.testBit (Lib.ctz 64 y)=true/\∀i,i<Lib.ctz 64 y->y.testBit i=false:=by
 obtain⟨m,hm,hc⟩:=Vk h0 h;generalize Lib.ctz 64 y=c at *;rw[hm];refine⟨?_,fun i hi=>?_⟩
 ·rw[VR];simp
 ·rw[VR]
  have:¬c<=i:=by omega
  simp[this]
def Jn(W:Nat->Nat)(p:Nat):List Nat:=(List.range p).filter (Xf W)
theorem UY{W:Nat->Nat}{p q:Nat}(hpq:p<=q)(h:∀i,p<=i->i<q->Xf W i=false):Jn W q=Jn W p:=by
 unfold Jn;obtain⟨d,rfl⟩:∃d,q=p+d:=⟨q-p,by omega⟩;rw[List.range_add,List.filter_append];have:((List.range d).map (p + ·)).filter (Xf W)=[]:=by
  rw[List.filter_eq_nil_iff];intro x hx;obtain⟨j,hj,rfl⟩:=List.mem_map.1 hx;rw[h (p+j) (by omega) (by have:=List.mem_range.1 hj;omega)];simp
 rw[this,List.append_nil]
theorem Zgq{W:Nat->Nat}{p q:Nat}(hpq:p<=q)(h:∀i,p<=i->i<q->Xf W i=false)(hq:Xf W q=true):Jn W (q+1)=Jn W p++[q]:=by
 rw[<-UY hpq h];unfold Jn;rw[List.range_succ,List.filter_append];simp[hq]
end Go.Proofs.YtbofmlmdgkblkaaDoor
namespace Go.Proofs.YtbofmlmdgkblkaaDoor
inductive Lbe (xs:List Xg) (v:Nat):Nat->Prop
 | here {b:Nat}:b<xs.length->K6 xs b v=1->Lbe xs v b
 | step {b t:Nat}:b<xs.length->K6 xs b v=0->t∈XW xs b->KW xs t v=false->Lbe xs v t->Lbe xs v b
def Lin(xs:List Xg)(v b:Nat):Prop:=KW xs b v=false/\Lbe xs v b
def Lou(xs:List Xg)(v b:Nat):Prop:=(v:Int)∈Zz xs b\/∃t∈XW xs b,Lin xs v t
theorem ZcM(xs:List Xg)(b v:Nat):K6 xs b v<=2:=by
 unfold K6;split
 ·exact Nat.zero_le _
 ·exact Zbm _
theorem ZeC{V:Nat}{xs:List Xg}(ho:UF V xs){I WO:Nat->Nat->Nat}(hI:∀i (h:i<xs.length),I i=inW xs[i] (WO i))(hO:∀b,b<xs.length->∀v,Xf (WO b) v=true↔(b,v)∈Wa xs xs.length){v b:Nat}(hb:b<xs.length):Xf (I b) v=true↔KW xs b v=false/\K6 xs b v=1:=by
 have hm:=List.getElem_mem hb;rw[hI b hb,Zgr (fun y hy=>⟨fun z hz=>(ho.rdi _ hm y hy z hz).1,fun z hz=>(ho.wri _ hm y hy z hz).1⟩) (fun z hz=>(ho.rdt _ hm z hz).1) (fun p hp=>(ho.phd _ hm p hp).1)];unfold KW K6 Zbk;rw[List.getElem?_eq_getElem hb];simp only;have e:Xf (WO b) v=XT (Zz xs b) (v:Int):=by rw[Bool.eq_iff_iff,hO b hb,XU,KS ho hb]
 rw[e,<-Bool.not_eq_true,XU]
theorem ZfZ{V:Nat}{xs:List Xg}(ho:UF V xs){T:Nat->Nat->Nat}(hT:∀i (h:i<xs.length),T i=dfW xs[i]){v b:Nat}(hb:b<xs.length)(h1:KW xs b v=false)(h2:K6 xs b v=0):Xf (T b) v=false:=by
 have hm:=List.getElem_mem hb;rw[hT b hb,<-Bool.not_eq_true,Zdc (fun y hy z hz=>(ho.wri _ hm y hy z hz).1) (fun p hp=>(ho.phd _ hm p hp).1)];unfold KW at h1;unfold K6 Zbk at h2;rw[List.getElem?_eq_getElem hb]at h1 h2;simp only at h1 h2;rintro(h | ⟨y,hy,h⟩)
 ·rw[XU.2 h]at h1;cases h1
 ·exact VH _ h2 y hy h
theorem ZhH{V:Nat}{xs:List Xg}(ho:UF V xs){T:Nat->Nat->Nat}(hT:∀i (h:i<xs.length),T i=dfW xs[i]){v b:Nat}(hb:b<xs.length)(h:Xf (T b) v=false):KW xs b v=false/\K6 xs b v≠2:=by
 have hm:=List.getElem_mem hb;rw[hT b hb,<-Bool.not_eq_true,Zdc (fun y hy z hz=>(ho.wri _ hm y hy z hz).1) (fun p hp=>(ho.phd _ hm p hp).1)]at h;unfold KW K6 Zbk;rw[List.getElem?_eq_getElem hb];simp only;refine⟨?_,Wt _ (fun y hy h2=>h (Or.inr ⟨y,hy,h2⟩))⟩;rw[<-Bool.not_eq_true,XU];exact fun h2=>h (Or.inl h2)
theorem ZeY{V:Nat}{xs:List Xg}(ho:UF V xs){I T WO:Nat->Nat->Nat}(hI:∀i (h:i<xs.length),I i=inW xs[i] (WO i))(hT:∀i (h:i<xs.length),T i=dfW xs[i])(hO:∀b,b<xs.length->∀v,Xf (WO b) v=true↔(b,v)∈Wa xs xs.length){ord:Nat->Prop}(hord:∀b,b<xs.length->ord b){v b:Nat}(hb:b<xs.length) :
 Sp I T ord (XW xs) b v↔Lin xs v b:=by
 constructor
 ·intro h
  induction h with
  | init h1 =>
   have h2:=(ZeC ho hI hO hb).1 h1;exact⟨h2.1,Lbe.here hb h2.2⟩
  | @take b s x h1 h2 h3 h4 ih =>
   have h5:=ZhH ho hT hb h4;have h6:=ZcM xs b x;have hs:=ho.okf.tg _ hb _ h2;by_cases e:K6 xs b x=1
   ·exact⟨h5.1,Lbe.here hb e⟩
   ·have hl:=ih hs
    exact⟨h5.1,Lbe.step hb (by have:=h5.2;omega) h2 hl.1 hl.2⟩
 ·rintro⟨h1,h2⟩
  induction h2 with
  | here h3 h4=>exact Sp.init ((ZeC ho hI hO h3).2 ⟨h1,h4⟩)
  | @step b t h3 h4 h5 h6 h7 ih=>exact Sp.take (hord _ h3) h5 (ih (ho.okf.tg _ h3 _ h5) h6) (ZfZ ho hT h3 h1 h4)
theorem ZaY{V:Nat}{xs:List Xg}(ho:UF V xs){b v:Nat}(hb:b<xs.length)(h:(v:Int)∈Zz xs b):v<V:=by
 have h5:=(KS ho hb).1 h;unfold Wa phB phT at h5;obtain⟨t,ht,hv⟩:=List.mem_flatMap.1 h5;have ht:=List.mem_range.1 ht;rw[List.getElem?_eq_getElem ht]at hv;obtain⟨p,hp,h6⟩:=List.mem_flatMap.1 (show _∈List.flatMap _ xs[t].phis from hv);have h7:=List.of_mem_zip h6;obtain⟨z,hz,e⟩:=List.mem_map.1 h7.2;have:=(ho.pha t ht p hp).2 z hz;omega
theorem Zif{V:Nat}{xs:List Xg}(ho:UF V xs){b v:Nat}(hb:b<xs.length)(h2:K6 xs b v=1):v<V:=by
 have hm:=List.getElem_mem hb;unfold K6 Zbk at h2;rw[List.getElem?_eq_getElem hb]at h2;simp only at h2;rcases Up _ h2 with h3 | ⟨y,hy,h3⟩
 ·rcases Bool.or_eq_true _ _ ▸ h3 with h4 | h4
  ·have:=(ho.rdt _ hm _ (XU.1 h4)).2;omega
  ·exact ZaY ho hb (XU.1 h4)
 ·have:=(ho.rdi _ hm y hy _ h3).2;omega
theorem Lbe.val{V:Nat}{xs:List Xg}(ho:UF V xs){v b:Nat}(h:Lbe xs v b):v<V:=by
 induction h with
 | here h1 h2=>exact Zif ho h1 h2
 | step _ _ _ _ _ ih=>exact ih
theorem Lou.val{V:Nat}{xs:List Xg}(ho:UF V xs){v b:Nat}(hb:b<xs.length)(h:Lou xs v b):v<V:=by
 rcases h with h | ⟨t,_,h⟩
 ·exact ZaY ho hb h
 ·exact h.2.val ho
open Classical in
theorem ZgV{W:Nat->Nat}{p V:Nat}{Q:Nat->Prop}(hV:V<=p)(h:∀x,x<p->(Xf W x=true↔Q x))(hQ:∀x,Q x->x<V):Jn W p=(List.range V).filter fun v=>decide (Q v):=by
 rw[UY hV (fun i h1 h2=>by
  rw[<-Bool.not_eq_true];intro h3;have:=hQ i ((h i h2).1 h3);omega)]
 unfold Jn;apply List.filter_congr;intro x hx;have:=List.mem_range.1 hx;rw[Bool.eq_iff_iff,h x (by omega),decide_eq_true_eq]
def KD(x:Xg)(v:Nat)(q:Bool)(j:Nat):Bool:=decide (Ya (v:Int) (XT (rdT x.term) (v:Int)||q) (x.instrs.drop j)=1)
theorem Zgk(x:Xg)(v:Nat)(q:Bool){j:Nat}(hj:x.instrs.length<=j):KD x v q j=(XT (rdT x.term) (v:Int)||q):=by
 unfold KD;rw[List.drop_eq_nil_of_le hj];unfold Ya;cases (XT (rdT x.term) (v:Int)||q)<;>simp
theorem Zfh(x:Xg)(v:Nat)(q:Bool){j:Nat}(hj:j<x.instrs.length):KD x v q j=(XT (rdI x.instrs[j]) (v:Int)||(KD x v q (j+1) && !decide (ZP x.instrs[j]=(v:Int)))):=by
 unfold KD;rw[List.drop_eq_getElem_cons hj];generalize x.instrs.drop (j+1)=ys;show decide ((if XT (rdI x.instrs[j]) (v:Int)then 1 else if ZP x.instrs[j]=(v:Int)then 2 else Ya (v:Int) _ ys)=1)=_;by_cases e1:XT (rdI x.instrs[j]) (v:Int)=true
 ·rw[if_pos e1,e1];simp
 ·rw[if_neg e1]
  have e1':XT (rdI x.instrs[j]) (v:Int)=false:=by simpa using e1
  rw[e1'];by_cases e2:ZP x.instrs[j]=(v:Int)
  ·rw[if_pos e2];simp[e2]
  ·rw[if_neg e2];simp[e2]
def PsP(xs:List Xg)(x:Xg)(b i v:Nat)(q:Bool):Bool:=match i with
 | 0=>KD x v q 0||KW xs b v
 | j+1=>KD x v q (j+1)||(match x.instrs[j]? with
  | none=>false
  | some y=>decide (ZP y=(v:Int)))
theorem Vz{v:Int}{f f':Bool}(h:f=true->f'=true):∀(ys:List XS),Ya v f ys=1->Ya v f' ys=1
 | [],h1=>by
  unfold Ya at h1 |-;cases hf:f with
  | true=>rw[h hf];rfl
  | false=>rw[hf]at h1;cases h1
 | y::ys,h1=>by
  show(if XT (rdI y) v then 1 else if ZP y=v then 2 else Ya v f' ys)=1;have h2:(if XT (rdI y) v then 1 else if ZP y=v then 2 else Ya v f ys)=1:=h1;by_cases e1:XT (rdI y) v=true
  ·rw[if_pos e1]
  ·rw[if_neg e1]at h2 |-
   by_cases e2:ZP y=v
   ·rw[if_pos e2]at h2;cases h2
   ·rw[if_neg e2]at h2 |-
    exact Vz h ys h2
theorem Zab{v:Int}{f f':Bool}:∀(ys:List XS),Ya v f ys=0->f=false/\(Ya v f' ys=1↔f'=true)
 | [],h1=>by
  unfold Ya at h1 |-;cases f
  ·exact⟨rfl,by cases f'<;>simp⟩
  ·cases h1
 | y::ys,h1=>by
  have h2:(if XT (rdI y) v then 1 else if ZP y=v then 2 else Ya v f ys)=0:=h1;by_cases e1:XT (rdI y) v=true
  ·rw[if_pos e1]at h2;cases h2
  ·rw[if_neg e1]at h2
   by_cases e2:ZP y=v
   ·rw[if_pos e2]at h2;cases h2
   ·rw[if_neg e2]at h2
    have ih:=Zab (f':=f') ys h2;refine⟨ih.1,?_⟩;show(if XT (rdI y) v then 1 else if ZP y=v then 2 else Ya v f' ys)=1↔_;rw[if_neg e1,if_neg e2];exact ih.2
end Go.Proofs.YtbofmlmdgkblkaaDoor
