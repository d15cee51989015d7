import Derived.Test.YtkehcdfalcakmaaGreatDoorRT5
namespace Go.Proofs.YtkehcdfalcakmaaGreatDoor
open Go.RowKit
structure K5 where
 pre:List Xf
 cur:Option (List Ph × List Xz)
def Vp(fs:List (List UInt8)):Ph:=⟨Jz (fs.getD 1 []),(fs.drop 2).map Jz⟩
def KR(s:K5)(F:List UInt8)(fs:List (List UInt8)):Option K5 :=
 if F=Yw then (match s.cur with | some _=>none | none=>some ⟨s.pre,some ([],[])⟩)
 else match s.cur with
  | none=>none
  | some (ps,is) =>
   if F=wPhi then (if is=[]then some ⟨s.pre,some (ps++[Vp fs],is)⟩else none)
   else if Wv F=true then some ⟨s.pre++[⟨ps,is,ZaD fs⟩],none⟩
   else some ⟨s.pre,some (ps,is++[Ks fs])⟩
def Tp(s:K5)(fs:List (List UInt8)):Option K5:=KR s (fs.headD []) fs
inductive Ln where
 | bad:Int->Ln
 | ok:K5->Ln
def XZ(s:K5)(line:List UInt8):Ln :=
 if fieldsS line=[]then .bad 4 else if XQ (fieldsS line)≠0 then .bad (XQ (fieldsS line))else match Tp s (fieldsS line)with | none=>.bad 8 | some s'=>.ok s'
inductive Bd where
 | bad:Int->Nat->Bd
 | ok:K5->Bd
def YI:List (List UInt8)->Nat->K5->Bd
 | [],_,s=>.ok s
 | l::ls,i,s=>match XZ s l with | .bad c=>.bad c (i+1) | .ok s'=>YI ls (i+1) s'
structure ZaJ where
 code:Int
 line:Nat
 fn:Fn
def Tm(c:Int)(l:Nat):ZaJ:=⟨c,l,⟨0,[]⟩⟩
def KB:List UInt8:=[102,117,110,99]
def WR(line:List UInt8):Option Int :=
 if (fieldsS line).length=2/\(fieldsS line).getD 0 []=KB/\0<=Jz ((fieldsS line).getD 1 [])then some (Jz ((fieldsS line).getD 1 []))else none
def Zf5(n:Nat)(V:Int)(b:Bd):ZaJ:=match b with
 | .bad c l=>Tm c l
 | .ok s=>match s.cur with
  | some _=>Tm 8 n
  | none=>if Yx ⟨V,s.pre⟩=true then ⟨0,0,⟨V,s.pre⟩⟩else Tm 9 0
def Us(text:List UInt8):List (List UInt8):=cutS text.dropLast 10
def Zfr(ls:List (List UInt8))(o:Option Int):ZaJ:=match o with
 | none=>Tm 3 1
 | some V=>Zf5 ls.length V (YI ls.tail 1 ⟨[],none⟩)
def parseP(text:List UInt8):ZaJ :=
 if 100000<text.length then Tm 1 0 else if text.getLast?≠some 10 then Tm 2 0 else Zfr (Us text) (WR ((Us text).headD []))
def Yh(s:K5):Nat:=s.pre.length+Xn s.pre+(match s.cur with | none=>0 | some (ps,is)=>1+ps.length+YC ps+is.length)
theorem ZcM(line:List UInt8):(fieldsS line).length<=line.length:=by
 unfold fieldsS;split
 ·rename_i h
  have key:∀(r cur:List UInt8),(Za 32 cur r).all Xt=true->(Za 32 cur r).length<=cur.length+r.length:=by
   intro r
   induction r with
   | nil =>
    intro cur h;simp only[Za,List.all_cons,List.all_nil,Bool.and_true,Xt,Bool.and_eq_true,decide_eq_true_eq]at h;simp only[Za,List.length_cons,List.length_nil];omega
   | cons c r ih =>
    intro cur h;rw[Za]at h |-;split at h
    ·rename_i e
     rw[if_pos e];rw[List.all_cons,Bool.and_eq_true]at h;have h1:=h.1;simp only[Xt,Bool.and_eq_true,decide_eq_true_eq]at h1;have:=ih [] h.2;simp only[List.length_cons,List.length_nil]at this |-;omega
    ·rename_i e
     rw[if_neg e];have:=ih _ h;simp only[List.length_append,List.length_cons,List.length_nil]at this |-;omega
  have:=key line [] h;simpa [cutS]using this
 ·simp
theorem Zbq{s s':K5}{line:List UInt8}(h:XZ s line=.ok s'):Yh s'<=Yh s+line.length:=by
 unfold XZ at h;split at h
 ·cases h
 split at h
 ·cases h
 rename_i hne hc;have hc:XQ (fieldsS line)=0:=by
  rcases Decidable.em (XQ (fieldsS line)=0)with q | q
  ·exact q
  ·exact absurd q hc
 have h0:0<(fieldsS line).length:=by
  cases hf:fieldsS line with
  | nil=>exact absurd hf hne
  | cons x r=>simp
 have hfl:=ZcM line;generalize fieldsS line=fs at *;split at h
 ·cases h
 rename_i s2 hs;injection h with h;subst h;unfold Tp KR at hs;split at hs
 ·split at hs
  ·cases hs
  ·rename_i hcur
   injection hs with hs;subst hs;simp only[Yh,hcur];simp[YC];omega
 ·split at hs
  ·cases hs
  ·rename_i ps is hcur
   split at hs
   ·split at hs
    ·injection hs with hs
     subst hs;simp only[Yh,hcur,List.length_append,List.length_singleton,ZcN,Vp,List.length_map,List.length_drop];omega
    ·cases hs
   ·split at hs
    ·injection hs with hs
     subst hs;simp only[Yh,hcur,List.length_append,List.length_singleton,Kd,YF];omega
    ·injection hs with hs
     subst hs;simp only[Yh,hcur,List.length_append,List.length_singleton];omega
def Yk(ls:List (List UInt8)):Nat:=(ls.map fun l=>l.length).sum
theorem Vz(sep:UInt8):∀(r cur:List UInt8),Yk (Za sep cur r)<=cur.length+r.length
 | [],cur=>by simp[Za,Yk]
 | c::r,cur=>by
  rw[Za];split
  ·have:=Vz sep r []
   simp only[Yk,List.map_cons,List.sum_cons,List.length_cons,List.length_nil]at this |-;omega
  ·have:=Vz sep r (cur++[c])
   simp only[Yk,List.length_append,List.length_cons,List.length_nil]at this |-;omega
def Wf(w:World)(B0:Nat)(va:Option Addr)(n vc:Nat)(s:K5):Prop :=
 match s.cur with
 | none=>n=s.pre.length/\Vg w B0 va vc s.pre
 | some (ps,is)=>∃H G pa pc ia ic,va=some ⟨G,0,none⟩/\n=s.pre.length+1/\KF w B0 H G vc s.pre pa pc ia ic ps is
theorem Wf.keep{w w':World}{B0:Nat}{va:Option Addr}{n vc:Nat}{s:K5}(h:Wf w B0 va n vc s)(k:X7 B0 w.heap.size w w')(hs:w.heap.size<=w'.heap.size):Wf w' B0 va n vc s:=by
 unfold Wf at h |-;split at h
 ·exact⟨h.1,h.2.keep k hs⟩
 ·obtain⟨H,G,pa,pc,ia,ic,h1,h2,h3⟩:=h
  exact⟨H,G,pa,pc,ia,ic,h1,h2,h3.keep k hs⟩
theorem Wf.len{w:World}{B0:Nat}{va:Option Addr}{n vc:Nat}{s:K5}(h:Wf w B0 va n vc s):n<=Yh s:=by
 obtain⟨pre,cur⟩:=s
 match cur,h with
 | none,h=>have:=h.1;simp only[Yh];dsimp only at this;omega
 | some (ps,is),h =>
  obtain⟨H,G,pa,pc,ia,ic,h1,h2,h3⟩:=h;simp only[Yh];dsimp only at h2;omega
theorem Wf.start(w:World)(B0:Nat)(h:B0<=w.heap.size):Wf w B0 none 0 0 ⟨[],none⟩:=⟨rfl,Vg.nil w B0 h⟩
theorem Zcv{n:Nat}(h:n<10):Ya (UInt8.ofNat (48+n))=true/\(UInt8.ofNat (48+n)).toNat=48+n:=by
 have:(UInt8.ofNat (48+n)).toNat=48+n:=by rw[UInt8.toNat_ofNat'];omega
 refine⟨?_,this⟩;unfold Ya;rw[this];simp;omega
theorem Kj(u:Nat):(Lib.decDigits u).all Ya=true/\amount (Lib.decDigits u)=u/\0<(Lib.decDigits u).length:=by
 induction u using Nat.strongRecOn with
 | ind u ih =>
  by_cases h:u<10
  ·rw[Lib.decDigits_one h]
   have:=Zcv h;generalize UInt8.ofNat (48+u)=c at *;refine⟨by simp[this.1],?_,by simp⟩;show 0*10+(c.toNat-48)=u;omega
  ·have:=ih (u / 10) (by omega)
   have d:=Zcv (n:=u % 10) (by omega);rw[Zar h];generalize UInt8.ofNat (48+u % 10)=c at *;refine⟨by rw[List.all_append,this.1];simp[d.1],?_,by simp⟩;have e:amount (Lib.decDigits (u / 10)++[c])=amount (Lib.decDigits (u / 10))*10+(c.toNat-48):=by simp[amount]
   rw[e,this.2.1,d.2];omega
theorem Zbg(u:Nat)(h:(Lib.decDigits u).head?=some 48):u=0:=by
 induction u using Nat.strongRecOn with
 | ind u ih =>
  by_cases h1:u<10
  ·rw[Lib.decDigits_one h1]at h
   simp only[List.head?_cons,Option.some.injEq]at h;have:=congrArg UInt8.toNat h;rw[(Zcv h1).2]at this;have:(48:UInt8).toNat=48:=rfl;omega
  ·rw[Zar h1]at h
   have h2:=(Kj (u / 10)).2.2;have h3:=ih (u / 10) (by omega) (by
    cases hd:Lib.decDigits (u / 10)with
    | nil=>rw[hd]at h2;simp at h2
    | cons x r=>rw[hd]at h;simpa using h)
   omega
theorem ZcO(u k:Nat)(h:u<10 ^ (k+1)):digitsOk (Lib.decDigits u) (k+1)=true:=by
 have h1:=Kj u;have h2:=Zy k u h;have h4:(Lib.decDigits u).head?=some 48->(Lib.decDigits u).length=1:=fun q=>by
  have:=Zbg u q;subst this;rw[Lib.decDigits_one (by decide)];rfl
 unfold digitsOk;rw[h1.1];generalize Lib.decDigits u=f at *;have e1:(f.length==0)=false:=by simp;intro e;rw[e]at h1;simp at h1
 have e2:decide (k+1<f.length)=false:=by simp;omega
 rw[e1,e2];by_cases e3:f.head?=some 48
 ·have:=h4 e3
  simp[this]
 ·have:(f.head? == some 48)=false:=by simpa using e3
  rw[this];rfl
theorem YT(v:Int)(h:0<=v/\v<10000):Jz (Lib.itoa v)=v:=by
 unfold Lib.itoa;rw[if_neg (by omega)];unfold Jz;rw[if_pos (ZcO v.toNat 3 (by omega)),(Kj v.toNat).2.1];omega
theorem Zdy(f:List UInt8)(h:f.all Ya=true):Tx f=(digitsOk f 10&&decide (amount f<=1000000000)):=by
 unfold Tx;split
 ·rename_i c r
  simp only[List.all_cons,Bool.and_eq_true]at h;exact absurd h.1 (by decide)
 ·rfl
theorem Zbf(f:List UInt8)(h:f.all Ya=true):f.head?≠some 45:=by
 intro e;cases f with
 | nil=>cases e
 | cons x r =>
  simp only[List.head?_cons,Option.some.injEq]at e;subst e;simp only[List.all_cons,Bool.and_eq_true]at h;exact absurd h.1 (by decide)
theorem Zcn(v:Int)(h:-1000000000<=v/\v<=1000000000):Tx (Lib.itoa v)=true/\J0 (Lib.itoa v)=v:=by
 unfold Lib.itoa;by_cases h0:v<0
 ·rw[if_pos h0]
  have d:=Kj v.natAbs;have k:=ZcO v.natAbs 9 (by omega);have hh:=Zbg v.natAbs;have hh2:=Zbf _ d.1;have hc:=Zdy _ d.1;rw[k,d.2.1]at hc;refine⟨?_,?_⟩
  ·cases hd:Lib.decDigits v.natAbs with
   | nil=>rw[hd]at d;simp at d
   | cons x r =>
    rw[hd]at hh hh2 hc;have e1:(x != 48)=true:=by simp;intro e;have:=hh (by rw[e];rfl);omega
    have e2:(x != 45)=true:=by simp;intro e;exact hh2 (by rw[e];rfl)
    have e3:Tx (45::x::r)=(x != 48&&Tx (x::r)&&x != 45):=rfl;rw[e3,hc,e1,e2];simp;omega
  ·unfold J0
   rw[if_pos (show(45::Lib.decDigits v.natAbs).head?=some 45 from rfl),List.tail_cons,d.2.1];omega
 ·rw[if_neg h0]
  have d:=Kj v.toNat;have k:=ZcO v.toNat 9 (by omega);refine⟨?_,?_⟩
  ·rw[Zdy _ d.1,k,d.2.1];simp;omega
  ·unfold J0
   rw[if_neg (Zbf _ d.1),d.2.1];omega
theorem Zdt(f:List UInt8)(h:f.all Ya=true)(h0:0<f.length):Xt f=true:=by
 unfold Xt;rw[Bool.and_eq_true];refine⟨by simpa using h0,?_⟩;rw[List.all_eq_true]at h |-;intro c hc;have:=h c hc;simp only[Ya,Bool.and_eq_true,decide_eq_true_eq]at this |-;omega
theorem Vt(v:Int):Xt (Lib.itoa v)=true:=by
 unfold Lib.itoa;split
 ·have d:=Kj v.natAbs
  have:=Zdt _ d.1 d.2.2;unfold Xt at this |-;rw[Bool.and_eq_true]at this |-;refine⟨by simp,?_⟩;rw[List.all_cons,this.2];rfl
 ·have d:=Kj v.toNat
  exact Zdt _ d.1 d.2.2
theorem KL(sep:UInt8):∀(f cur r:List UInt8),(∀c∈f,c≠sep)->Za sep cur (f++r)=Za sep (cur++f) r
 | [],cur,r,_=>by simp
 | c::f,cur,r,h=>by
  rw[List.cons_append,Za,if_neg (h c (List.mem_cons_self ..)),KL sep f _ r (fun x hx=>h x (List.mem_cons_of_mem _ hx))];simp
theorem Vn{f:List UInt8}{s:UInt8}(h:Xt f=true)(hs:s.toNat<33):∀c∈f,c≠s:=fun c hc e=>by
 unfold Xt at h;rw[Bool.and_eq_true,List.all_eq_true]at h;have:=h.2 c hc;simp only[Bool.and_eq_true,decide_eq_true_eq]at this;subst e;omega
def VJ(word:List UInt8)(vs:List Int):List UInt8:=word++XT vs
theorem Zbj:∀(vs:List Int)(cur:List UInt8),Za 32 cur (XT vs)=cur::vs.map Lib.itoa
 | [],cur=>rfl
 | v::r,cur=>by
  rw[XT,Za,if_pos rfl,KL 32 _ _ _ (Vn (Vt v) (by decide)),List.nil_append,Zbj r];rfl
theorem Je(word:List UInt8)(vs:List Int)(hw:Xt word=true):fieldsS (VJ word vs)=word::vs.map Lib.itoa:=by
 have e:cutS (VJ word vs) 32=word::vs.map Lib.itoa:=by
  unfold cutS VJ;rw[KL 32 _ _ _ (Vn hw (by decide)),List.nil_append,Zbj]
 unfold fieldsS;rw[e,if_pos];rw[List.all_cons,hw,List.all_map,Bool.true_and,List.all_eq_true];exact fun v _=>Vt v
theorem Ze7(word:List UInt8)(vs:List Int)(hw:Xt word=true):∀c∈VJ word vs,c≠10:=by
 intro c hc;unfold VJ at hc;rcases List.mem_append.1 hc with h | h
 ·exact Vn hw (by decide) c h
 ·clear hc hw word
  induction vs with
  | nil=>cases h
  | cons v r ih =>
   rw[XT]at h;rcases List.mem_cons.1 h with rfl | h
   ·decide
   ·rcases List.mem_append.1 h with h | h
    ·exact Vn (Vt v) (by decide) c h
    ·exact ih h
theorem Zak:∀(ls:List (List UInt8))(l:List UInt8),(∀x∈l::ls,∀c∈x,c≠10)->cutS ((l::ls).flatMap (fun x=>x++[10])).dropLast 10=l::ls
 | [],l,h=>by
  have:([l].flatMap (fun x=>x++[10])).dropLast=l++[]:=by simp
  rw[this];unfold cutS;rw[KL 10 _ _ _ (h l (List.mem_cons_self ..))];rfl
 | m::ls,l,h=>by
  have e:((l::m::ls).flatMap (fun x=>x++[10])).dropLast=l++(10::((m::ls).flatMap (fun x=>x++[10])).dropLast):=by
   rw[List.flatMap_cons,List.dropLast_append_of_ne_nil (by simp)];simp
  have ih:=Zak ls m (fun x hx=>h x (List.mem_cons_of_mem _ hx));unfold cutS at ih |-;rw[e,KL 10 _ _ _ (h l (List.mem_cons_self ..)),Za,if_pos rfl,ih];rfl
abbrev Lw:=List UInt8 × List Int
def ZcD(p:Ph):Lw:=(wPhi,p.dst::p.args)
def Zcc(x:Xz):Lw:=(wordS x.op,Jy x (Yl x.op))
def Zcd(t:XN):Lw:=if t.kind=1 then (Jx,[t.to])else if t.kind=3 then (TQ,[t.a])else (YL,[t.a,t.to,t.els])
def ZcF(x:Xf):List Lw:=(Yw,[])::(x.phis.map ZcD++(x.instrs.map Zcc++[Zcd x.term]))
def TU(xs:List Xf):List Lw:=xs.flatMap ZcF
def lw(p:Lw):List UInt8:=VJ p.1 p.2
theorem Ku(p:Lw):lineS p.1 p.2=lw p++[10]:=by simp[lineS,lw,VJ]
theorem ZhE(t:XN):ZZ t=lw (Zcd t)++[10]:=by
 unfold ZZ Zcd;split
 ·exact Ku (Jx,[t.to])
 ·split
  ·exact Ku (TQ,[t.a])
  ·exact Ku (YL,[t.a,t.to,t.els])
theorem ZhR(x:Xf):ZI x=(ZcF x).flatMap (fun p=>lw p++[10]):=by
 unfold ZI ZcF;rw[List.flatMap_cons,List.flatMap_append,List.flatMap_append,List.flatMap_map,List.flatMap_map,ZhE];have e1:x.phis.flatMap ZH=x.phis.flatMap (fun a=>lw (ZcD a)++[10]):=congrArg (fun f=>x.phis.flatMap f) (funext fun a=>Ku (ZcD a));have e2:x.instrs.flatMap YJ=x.instrs.flatMap (fun a=>lw (Zcc a)++[10]):=congrArg (fun f=>x.instrs.flatMap f) (funext fun a=>Ku (Zcc a));have e3:lineS [98,108,111,99,107] []=lw (Yw,[])++[10]:=Ku (Yw,[]);rw[e1,e2,e3];simp
theorem Zfj(F:Fn):Jn F=(((KB,[F.values])::TU F.blocks).map lw).flatMap (fun x=>x++[10]):=by
 unfold Jn TU;have e:F.blocks.flatMap ZI=F.blocks.flatMap (fun x=>(ZcF x).flatMap (fun p=>lw p++[10])):=congrArg (fun f=>F.blocks.flatMap f) (funext ZhR);have e3:lineS [102,117,110,99] [F.values]=lw (KB,[F.values])++[10]:=Ku (KB,[F.values]);rw[e,e3,List.map_cons,List.flatMap_cons,List.flatMap_map,List.flatMap_assoc]
theorem Zb2(op:Int):Xt (wordS op)=true:=by
 by_cases h:1<=op/\op<=13
 ·have hc:op=1\/op=2\/op=3\/op=4\/op=5\/op=6\/op=7\/op=8\/op=9\/op=10\/op=11\/op=12\/op=13:=by omega
  rcases hc with rfl | rfl | rfl | rfl | rfl | rfl | rfl | rfl | rfl | rfl | rfl | rfl | rfl<;>decide
 ·unfold wordS
  rw[if_neg (by omega),if_neg (by omega),if_neg (by omega),if_neg (by omega),if_neg (by omega),if_neg (by omega),if_neg (by omega),if_neg (by omega),if_neg (by omega),if_neg (by omega),if_neg (by omega),if_neg (by omega)];decide
theorem Zgi(x:Xf):∀p∈ZcF x,Xt p.1=true:=by
 intro p hp;unfold ZcF at hp;rcases List.mem_cons.1 hp with rfl | hp
 ·decide
 rcases List.mem_append.1 hp with hp | hp
 ·obtain⟨q,_,rfl⟩:=List.mem_map.1 hp;exact(by decide:Xt wPhi=true)
 rcases List.mem_append.1 hp with hp | hp
 ·obtain⟨q,_,rfl⟩:=List.mem_map.1 hp;exact Zb2 q.op
 ·have:p=Zcd x.term:=by simpa using hp
  rw[this];unfold Zcd;split
  ·exact(by decide:Xt Jx=true)
  ·split
   ·exact(by decide:Xt TQ=true)
   ·exact(by decide:Xt YL=true)
theorem Zd3(F:Fn):Us (Jn F)=lw (KB,[F.values])::(TU F.blocks).map lw:=by
 unfold Us;rw[Zfj,List.map_cons];refine Zak _ _ (fun x hx=>?_);have key:∀p∈(KB,[F.values])::TU F.blocks,Xt p.1=true:=fun p hp=>by
  rcases List.mem_cons.1 hp with rfl | hp
  ·exact(by decide:Xt KB=true)
  ·obtain⟨b,_,hb⟩:=List.mem_flatMap.1 hp;exact Zgi b p hb
 rw[<-List.map_cons]at hx;obtain⟨p,hp,rfl⟩:=List.mem_map.1 hx;exact Ze7 _ _ (key p hp)
theorem Zew{op:Int}(h:1<=op/\op<=10):YW (wordS op)=op:=by
 have hc:op=1\/op=2\/op=3\/op=4\/op=5\/op=6\/op=7\/op=8\/op=9\/op=10:=by omega
 rcases hc with rfl | rfl | rfl | rfl | rfl | rfl | rfl | rfl | rfl | rfl<;>decide
theorem Zcb{op:Int}(h:1<=op/\op<=10):wordS op≠Yw/\wordS op≠wPhi/\Wv (wordS op)=false:=by
 have hc:op=1\/op=2\/op=3\/op=4\/op=5\/op=6\/op=7\/op=8\/op=9\/op=10:=by omega
 rcases hc with rfl | rfl | rfl | rfl | rfl | rfl | rfl | rfl | rfl | rfl<;>decide
def Ix(v:Int):Prop:=0<=v/\v<10000
theorem J1(w:List UInt8)(vs:List Int)(hw:w≠wConst)(h:∀v∈vs,Ix v)(k:Nat):KI (w::vs.map Lib.itoa) k=true:=by
 unfold KI;rw[List.all_eq_true];intro i _;rw[List.getElem?_cons_succ,List.getElem?_map];cases hv:vs[i]? with
 | none=>rfl
 | some v =>
  show Zbw _ _ (Lib.itoa v)=true;unfold Zbw;rw[if_neg (fun e=>hw (by simpa using e.1)),YT v (h v (List.mem_of_getElem? hv))];simpa using(h v (List.mem_of_getElem? hv)).1
def WM(x:Xz):Prop:=(1<=x.op/\x.op<=10)/\Ix x.dst/\Ix x.a/\Ix x.b/\(if x.op=1 then -1000000000<=x.imm/\x.imm<=1000000000 else Ix x.imm)/\(dB x.op=false->x.dst=0)/\(aB x.op=false->x.a=0)/\(bB x.op=false->x.b=0)/\(x.op≠1->x.op≠2->x.imm=0)
theorem Zes(s:K5)(ps:List Ph)(is:List Xz)(hc:s.cur=some (ps,is))(x:Xz)(h:WM x):XZ s (lw (Zcc x))=.ok ⟨s.pre,some (ps,is++[x])⟩:=by
 obtain⟨hop,hd,ha,hb,him,hd0,ha0,hb0,hi0⟩:=h;have hf:fieldsS (lw (Zcc x))=wordS x.op::(Jy x (Yl x.op)).map Lib.itoa:=Je _ _ (Zb2 x.op);have ho:=Zew hop;have hw:=Zcb hop;have hlen:(Jy x (Yl x.op)).length=(ZE x.op).size/\Ks (wordS x.op::(Jy x (Yl x.op)).map Lib.itoa)=x/\KI (wordS x.op::(Jy x (Yl x.op)).map Lib.itoa) ((Jy x (Yl x.op)).length)=true:=by
  obtain⟨op,dst,a,b,imm⟩:=x;dsimp only at *;have hr:∀fs,Ks (wordS op::fs)=ZaS (wordS op::fs) op (KA op).length:=fun fs=>by unfold Ks;rw[List.headD_cons,ho]
  rw[hr];have e1:=YT dst hd;have e2:=YT a ha;have e3:=YT b hb;have hcs:op=1\/op=2\/op=3\/op=4\/op=5\/op=6\/op=7\/op=8\/op=9\/op=10:=by omega
  rcases hcs with rfl | rfl | rfl | rfl | rfl | rfl | rfl | rfl | rfl | rfl
  ·have e4:=Zcn imm him
   refine⟨rfl,?_,?_⟩
   ·show(⟨1,Jz (Lib.itoa dst),0,0,J0 (Lib.itoa imm)⟩:Xz)=_
    rw[e1,e4.2,ha0 (by decide),hb0 (by decide)]
   ·show KI (wConst::[Lib.itoa dst,Lib.itoa imm]) 2=true
    have:KI (wConst::[Lib.itoa dst,Lib.itoa imm]) 2=(decide (0<=Jz (Lib.itoa dst))&&(Tx (Lib.itoa imm)&&true)):=rfl;rw[this,e1,e4.1];simpa using hd.1
  ·have e4:=YT imm him
   refine⟨rfl,?_,J1 _ _ (by decide) (by intro v hv;rcases List.mem_cons.1 hv with rfl | hv;exact hd;rcases List.mem_cons.1 hv with rfl | hv;exact him;cases hv) _⟩;show(⟨2,Jz (Lib.itoa dst),0,0,Jz (Lib.itoa imm)⟩:Xz)=_;rw[e1,e4,ha0 (by decide),hb0 (by decide)]
  iterate 5
   ·refine⟨rfl,?_,J1 _ _ (by decide) (by intro v hv;rcases List.mem_cons.1 hv with rfl | hv;exact hd;rcases List.mem_cons.1 hv with rfl | hv;exact ha;rcases List.mem_cons.1 hv with rfl | hv;exact hb;cases hv) _⟩
    show(⟨_,Jz (Lib.itoa dst),Jz (Lib.itoa a),Jz (Lib.itoa b),0⟩:Xz)=_;rw[e1,e2,e3,hi0 (by decide) (by decide)];rfl
  ·refine⟨rfl,?_,J1 _ _ (by decide) (by intro v hv;rcases List.mem_cons.1 hv with rfl | hv;exact hd;rcases List.mem_cons.1 hv with rfl | hv;exact ha;cases hv) _⟩
   show(⟨_,Jz (Lib.itoa dst),Jz (Lib.itoa a),0,0⟩:Xz)=_;rw[e1,e2,hb0 (by decide),hi0 (by decide) (by decide)];rfl
  ·refine⟨rfl,?_,J1 _ _ (by decide) (by intro v hv;rcases List.mem_cons.1 hv with rfl | hv;exact ha;rcases List.mem_cons.1 hv with rfl | hv;exact hb;cases hv) _⟩
   show(⟨_,0,Jz (Lib.itoa a),Jz (Lib.itoa b),0⟩:Xz)=_;rw[e2,e3,hd0 (by decide),hi0 (by decide) (by decide)];rfl
  ·refine⟨rfl,?_,J1 _ _ (by decide) (by intro v hv;rcases List.mem_cons.1 hv with rfl | hv;exact ha;cases hv) _⟩
   show(⟨_,0,Jz (Lib.itoa a),0,0⟩:Xz)=_;rw[e2,hd0 (by decide),hb0 (by decide),hi0 (by decide) (by decide)];rfl
 obtain⟨hl,hri,hno⟩:=hlen;have hcode:XQ (wordS x.op::(Jy x (Yl x.op)).map Lib.itoa)=0:=by
  unfold XQ JV;rw[List.headD_cons,ho,List.length_cons,List.length_map,if_pos (show x.op≠0 by omega),if_neg (by omega),if_neg (by rw[hl];omega),Nat.add_sub_cancel,hno,if_pos rfl]
 unfold XZ;rw[hf,if_neg (by simp),if_neg (fun q=>q hcode)];unfold Tp KR;rw[List.headD_cons,if_neg hw.1,hc];dsimp only;rw[if_neg hw.2.1,if_neg (by rw[hw.2.2];simp),hri]
def Zdd(t:XN):Prop:=(1<=t.kind/\t.kind<=3)/\Ix t.a/\Ix t.to/\Ix t.els/\(t.kind=1->t.a=0/\t.els=0)/\(t.kind=3->t.to=0/\t.els=0)
theorem ZdK(s:K5)(ps:List Ph)(is:List Xz)(hc:s.cur=some (ps,is))(t:XN)(h:Zdd t):XZ s (lw (Zcd t))=.ok ⟨s.pre++[⟨ps,is,t⟩],none⟩:=by
 obtain⟨kind,a,tg,els⟩:=t;obtain⟨hk,ha,ht,he,h1,h3⟩:=h;dsimp only at *;have e1:=YT a ha;have e2:=YT tg ht;have e3:=YT els he;have hcs:kind=1\/kind=2\/kind=3:=by omega
 have fin:∀(w:List UInt8)(vs:List Int),Xt w=true->YW w=0->w≠Yw->w≠wPhi->w≠wConst->Wv w=true->(∀v∈vs,Ix v)->JV w (vs.length+1)=vs.length+1->ZaD (w::vs.map Lib.itoa)=⟨kind,a,tg,els⟩->XZ s (lw (w,vs))=.ok ⟨s.pre++[⟨ps,is,⟨kind,a,tg,els⟩⟩],none⟩:=by
  intro w vs hw _ hb hp hcn hend hv hn hr;have hf:fieldsS (lw (w,vs))=w::vs.map Lib.itoa:=Je _ _ hw;have hcode:XQ (w::vs.map Lib.itoa)=0:=by
   unfold XQ;rw[List.headD_cons,List.length_cons,List.length_map,hn,if_neg (by omega),if_neg (fun q=>q rfl),Nat.add_sub_cancel,J1 w vs hcn hv,if_pos rfl]
  unfold XZ;rw[hf,if_neg (by simp),if_neg (fun q=>q hcode)];unfold Tp KR;rw[List.headD_cons,if_neg hb,hc];dsimp only;rw[if_neg hp,if_pos hend,hr]
 rcases hcs with rfl | rfl | rfl
 ·refine fin Jx [tg] (by decide) (by decide) (by decide) (by decide) (by decide) (by decide) (by intro v hv;rcases List.mem_cons.1 hv with rfl | hv;exact ht;cases hv) (show JV Jx 2=2 by decide) ?_
  show(⟨1,0,Jz (Lib.itoa tg),0⟩:XN)=_;rw[e2,(h1 rfl).1,(h1 rfl).2]
 ·refine fin YL [a,tg,els] (by decide) (by decide) (by decide) (by decide) (by decide) (by decide) (by intro v hv;rcases List.mem_cons.1 hv with rfl | hv;exact ha;rcases List.mem_cons.1 hv with rfl | hv;exact ht;rcases List.mem_cons.1 hv with rfl | hv;exact he;cases hv) (show JV YL 4=4 by decide) ?_
  show(⟨2,Jz (Lib.itoa a),Jz (Lib.itoa tg),Jz (Lib.itoa els)⟩:XN)=_;rw[e1,e2,e3]
 ·refine fin TQ [a] (by decide) (by decide) (by decide) (by decide) (by decide) (by decide) (by intro v hv;rcases List.mem_cons.1 hv with rfl | hv;exact ha;cases hv) (show JV TQ 2=2 by decide) ?_
  show(⟨3,Jz (Lib.itoa a),0,0⟩:XN)=_;rw[e1,(h3 rfl).1,(h3 rfl).2]
def Zgd(p:Ph):Prop:=1<=p.args.length/\∀v∈p.dst::p.args,Ix v
theorem Zdx:∀(vs:List Int),(∀v∈vs,Ix v)->(vs.map Lib.itoa).map Jz=vs
 | [],_=>rfl
 | v::r,h=>by
  rw[List.map_cons,List.map_cons,YT v (h v (List.mem_cons_self ..)),Zdx r (fun x hx=>h x (List.mem_cons_of_mem _ hx))]
theorem Zeg(s:K5)(ps:List Ph)(hc:s.cur=some (ps,[]))(p:Ph)(h:Zgd p):XZ s (lw (ZcD p))=.ok ⟨s.pre,some (ps++[p],[])⟩:=by
 have hf:fieldsS (lw (ZcD p))=wPhi::(p.dst::p.args).map Lib.itoa:=Je _ _ (show Xt wPhi=true by decide);have hcode:XQ (wPhi::(p.dst::p.args).map Lib.itoa)=0:=by
  have hn:JV wPhi ((p.dst::p.args).length+1)=(p.dst::p.args).length+1:=by
   have:JV wPhi ((p.dst::p.args).length+1)=if (p.dst::p.args).length+1<3 then 3 else (p.dst::p.args).length+1:=rfl
   rw[this,if_neg (by rw[List.length_cons];have:=h.1;omega)]
  unfold XQ;rw[List.headD_cons,List.length_cons,List.length_map,hn,if_neg (by omega),if_neg (fun q=>q rfl),Nat.add_sub_cancel,J1 _ _ (by decide) h.2,if_pos rfl]
 unfold XZ;rw[hf,if_neg (by simp),if_neg (fun q=>q hcode)];unfold Tp KR;rw[List.headD_cons,if_neg (by decide),hc];dsimp only;rw[if_pos rfl,if_pos rfl];have:Vp (wPhi::(p.dst::p.args).map Lib.itoa)=p:=by
  show(⟨Jz (Lib.itoa p.dst),(p.args.map Lib.itoa).map Jz⟩:Ph)=p;rw[YT _ (h.2 _ (List.mem_cons_self ..)),Zdx _ (fun v hv=>h.2 v (List.mem_cons_of_mem _ hv))]
 rw[this]
theorem ZbI(s:K5)(hc:s.cur=none):XZ s (lw (Yw,[]))=.ok ⟨s.pre,some ([],[])⟩:=by
 have hf:fieldsS (lw (Yw,[]))=[Yw]:=Je _ _ (by decide);have hcode:XQ [Yw]=0:=by decide
 unfold XZ;rw[hf,if_neg (by simp),if_neg (fun q=>q hcode)];unfold Tp KR;rw[List.headD_cons,if_pos rfl,hc]
structure Zdf(x:Xf):Prop where
 phis:∀p∈x.phis,Zgd p
 instrs:∀i∈x.instrs,WM i
 term:Zdd x.term
theorem V4(pre:List Xf)(r:List (List UInt8)):∀(l ps:List Ph)(i:Nat),(∀p∈l,Zgd p)->YI ((l.map ZcD).map lw++r) i ⟨pre,some (ps,[])⟩=YI r (i+l.length) ⟨pre,some (ps++l,[])⟩
 | [],ps,i,_=>by simp
 | p::l,ps,i,h=>by
  rw[List.map_cons,List.map_cons,List.cons_append,YI,Zeg _ ps rfl p (h p (List.mem_cons_self ..))];dsimp only;rw[V4 pre r l (ps++[p]) (i+1) (fun q hq=>h q (List.mem_cons_of_mem _ hq)),List.length_cons];congr 1
  ·omega
  ·simp
theorem Vs(pre:List Xf)(ps:List Ph)(r:List (List UInt8)):∀(l is:List Xz)(i:Nat),(∀p∈l,WM p)->YI ((l.map Zcc).map lw++r) i ⟨pre,some (ps,is)⟩=YI r (i+l.length) ⟨pre,some (ps,is++l)⟩
 | [],is,i,_=>by simp
 | p::l,is,i,h=>by
  rw[List.map_cons,List.map_cons,List.cons_append,YI,Zes _ ps is rfl p (h p (List.mem_cons_self ..))];dsimp only;rw[Vs pre ps r l (is++[p]) (i+1) (fun q hq=>h q (List.mem_cons_of_mem _ hq)),List.length_cons];congr 1
  ·omega
  ·simp
theorem VV:∀(xs pre:List Xf)(i:Nat),(∀x∈xs,Zdf x)->∃j,YI ((TU xs).map lw) i ⟨pre,none⟩=.ok ⟨pre++xs,none⟩/\i<=j
 | [],pre,i,_=>⟨i,by simp[TU,YI],Nat.le_refl _⟩
 | x::xs,pre,i,h=>by
  have hx:=h x (List.mem_cons_self ..);have e:(TU (x::xs)).map lw=lw (Yw,[])::((x.phis.map ZcD).map lw++((x.instrs.map Zcc).map lw++(lw (Zcd x.term)::(TU xs).map lw))):=by
   simp[TU,ZcF]
  rw[e,YI,ZbI _ rfl];dsimp only;rw[V4 _ _ _ _ _ hx.phis,Vs _ _ _ _ _ _ hx.instrs,YI,ZdK _ _ _ rfl _ hx.term];dsimp only;obtain⟨j,hj,_⟩:=VV xs (pre++[⟨[]++x.phis,[]++x.instrs,x.term⟩]) (i+1+x.phis.length+x.instrs.length+1) (fun q hq=>h q (List.mem_cons_of_mem _ hq));refine⟨i,?_,Nat.le_refl _⟩;rw[hj];simp
theorem VP:∀(ls:List (List UInt8))(l:List UInt8),((l::ls).flatMap (fun x=>x++[10])).getLast?=some 10
 | [],l=>by simp
 | m::ls,l=>by rw[List.flatMap_cons,List.getLast?_append,VP ls m];rfl
theorem ZcK(F:Fn)(hv:Yx F=true)(hx:∀x∈F.blocks,Zdf x)(hV:Ix F.values)(hl:(Jn F).length<100000):parseP (Jn F)=⟨0,0,F⟩:=by
 have hls:=Zd3 F;have hlast:(Jn F).getLast?=some 10:=by
  rw[Zfj,List.map_cons];exact VP _ _
 have hh:WR (lw (KB,[F.values]))=some F.values:=by
  have hf:fieldsS (lw (KB,[F.values]))=[KB,Lib.itoa F.values]:=Je _ _ (show Xt KB=true by decide);have e:=YT _ hV;unfold WR;rw[hf,if_pos ⟨rfl,rfl,by show 0<=Jz (Lib.itoa F.values);rw[e];exact hV.1⟩];exact congrArg some e
 unfold parseP;rw[if_neg (by omega),if_neg (fun q=>q hlast),hls,List.headD_cons,hh];obtain⟨j,hj,_⟩:=VV F.blocks [] 1 hx;unfold Zfr;dsimp only;rw[List.tail_cons,hj];unfold Zf5;dsimp only;rw[List.nil_append,if_pos hv]
theorem TG{u:Bool}{x lo hi:Int}(h:K0 u x lo hi=true)(hl:0<=lo)(hh:hi<=2000):Ix x/\(u=false->x=0):=by
 unfold K0 at h;cases u with
 | true =>
  simp only[if_true,Bool.and_eq_true,decide_eq_true_eq]at h;exact⟨⟨by omega,by omega⟩,fun e=>by cases e⟩
 | false =>
  have:x=0:=by simpa using h
  subst this;exact⟨⟨by decide,by decide⟩,fun _=>rfl⟩
theorem ZhO{n:Int}{x:Xz}(h:Yb n 10 x=true)(hn:n<=2000):WM x:=by
 unfold Yb at h;simp only[Bool.and_eq_true,decide_eq_true_eq]at h;obtain⟨⟨⟨⟨⟨h1,h2⟩,h3⟩,h4⟩,h5⟩,h6⟩:=h;have d:=TG h3 (by omega) hn;have a:=TG h4 (by omega) hn;have b:=TG h5 (by omega) hn;refine⟨⟨h1,h2⟩,d.1,a.1,b.1,?_,d.2,a.2,b.2,fun e1 e2=>?_⟩
 ·unfold KV at h6
  by_cases e:x.op=1
  ·rw[if_pos e]
   rw[e]at h6;simpa using h6
  ·rw[if_neg e]
   rw[if_neg (by simpa using e)]at h6;split at h6
   ·simp only[Bool.and_eq_true,decide_eq_true_eq]at h6
    exact⟨h6.1,by omega⟩
   ·have:x.imm=0:=by simpa using h6
    rw[this];exact⟨by decide,by decide⟩
 ·unfold KV at h6
  rw[if_neg (by simpa using e1),if_neg (by simpa using e2)]at h6;simpa using h6
theorem Zhz{n m:Int}{t:XN}(h:Ze n 1 m t=true)(hn:n<=2000)(hm:m<=2000):Zdd t:=by
 unfold Ze at h;simp only[Bool.and_eq_true,decide_eq_true_eq]at h;obtain⟨⟨⟨⟨h1,h2⟩,h3⟩,h4⟩,h5⟩:=h;have a:=TG h3 (by omega) hn;have b:=TG h4 (by omega) hm;have c:=TG h5 (by omega) hm;refine⟨⟨h1,h2⟩,a.1,b.1,c.1,fun e=>⟨a.2 (by rw[e];rfl),c.2 (by rw[e];rfl)⟩,fun e=>⟨b.2 (by rw[e];rfl),c.2 (by rw[e];rfl)⟩⟩
theorem ZcZ(ok:Int->Nat->Ph->Bool)(F:Fn):∀(xs:List Xf)(i:Nat),Yj ok F xs i=true->∀x∈xs,∀p∈x.phis,∃k,ok F.values k p=true
 | [],_,_=>fun x hx=>by cases hx
 | y::ys,i,h=>by
  unfold Yj at h;rw[Bool.and_eq_true]at h;intro x hx p hp;rcases List.mem_cons.1 hx with rfl | hx
  ·exact⟨_,List.all_eq_true.1 h.1 p hp⟩
  ·exact ZcZ ok F ys (i+1) h.2 x hx p hp
theorem Zil{n:Int}{k:Nat}{p:Ph}(h:Zd n k p=true)(hn:n<=2000):Zgd p:=by
 unfold Zd ZB at h;simp only[Bool.and_eq_true,decide_eq_true_eq,List.all_eq_true]at h;refine⟨h.2.1.1,fun v hv=>?_⟩;rcases List.mem_cons.1 hv with rfl | hv
 ·exact(TG h.1 (by omega) hn).1
 ·have:=h.2.2 v hv
  exact⟨this.1,by omega⟩
theorem ZeR{F:Fn}(h:Yx F=true):(∀x∈F.blocks,Zdf x)/\(0<=F.values/\F.values<=2000)/\F.blocks.length<=1000/\Xk F.blocks<=4000:=by
 rw[<-Zp]at h;unfold Ki at h;simp only[Bool.and_eq_true]at h;obtain⟨⟨⟨⟨h1,h2⟩,h3⟩,h4⟩,_⟩:=h;unfold Yz at h1;simp only[Bool.and_eq_true,decide_eq_true_eq]at h1;obtain⟨⟨⟨⟨v0,v1⟩,b0⟩,b1⟩,s1⟩:=h1;refine⟨fun x hx=>⟨fun p hp=>?_,fun i hi=>?_,?_⟩,⟨v0,v1⟩,b1,s1⟩
 ·obtain⟨k,hk⟩:=ZcZ Zd F F.blocks 0 h4 x hx p hp
  exact Zil hk v1
 ·unfold YV at h3
  exact ZhO (List.all_eq_true.1 (List.all_eq_true.1 h3 x hx) i hi) v1
 ·unfold ZR at h2
  have:=List.all_eq_true.1 h2 x hx;unfold Zx at this;rw[Bool.and_eq_true]at this;exact Zhz this.1 v1 (by omega)
theorem Zhs{v:Int}(h:Ix v):(Lib.itoa v).length<=4:=by
 unfold Lib.itoa;rw[if_neg (by have:=h.1;omega)];exact Zy 3 v.toNat (by have:=h.2;omega)
theorem ZhQ{v:Int}(h:-1000000000<=v/\v<=1000000000):(Lib.itoa v).length<=11:=by
 unfold Lib.itoa;split
 ·have:=Zy 9 v.natAbs (by omega)
  rw[List.length_cons];omega
 ·have:=Zy 9 v.toNat (by omega)
  omega
theorem Zha:∀(vs:List Int),(∀v∈vs,Ix v)->(XT vs).length<=5*vs.length
 | [],_=>by simp[XT]
 | v::r,h=>by
  have h1:=Zhs (h v (List.mem_cons_self ..));have h2:=Zha r (fun x hx=>h x (List.mem_cons_of_mem _ hx));simp only[XT,List.length_cons,List.length_append];omega
theorem WS(w:List UInt8)(vs:List Int)(h:∀v∈vs,Ix v):(lineS w vs).length<=w.length+5*vs.length+1:=by
 have:=Zha vs h;simp only[lineS,List.length_append,List.length_singleton];omega
theorem Ziu{x:Xz}(h:WM x):(YJ x).length<=23:=by
 obtain⟨hop,hd,ha,hb,him,_⟩:=h;have hw:=Zaf x.op;by_cases e:x.op=1
 ·rw[if_pos e]at him
  have e1:YJ x=lineS (wordS x.op) [x.dst,x.imm]:=by unfold YJ;rw[e];rfl
  have h1:=Zhs hd;have h2:=ZhQ him;rw[e1];simp only[lineS,XT,List.length_append,List.length_cons,List.length_nil];omega
 ·rw[if_neg e]at him
  have h1:=WS (wordS x.op) (Jy x (Yl x.op)) (fun v hv=>by
   have:=ZaU x _ v hv;simp only[List.mem_cons,List.not_mem_nil,or_false]at this;rcases this with rfl | rfl | rfl | rfl
   ·exact hd
   ·exact ha
   ·exact hb
   ·exact him)
  have h2:=Zae x (Yl x.op);have h3:=UM x.op;have h4:=T9 x.op;unfold YJ;omega
theorem Zii{t:XN}(h:Zdd t):(ZZ t).length<=22:=by
 obtain⟨_,ha,ht,he,_⟩:=h;unfold ZZ;have h1:=WS [106,117,109,112] [t.to] (by intro v hv;rcases List.mem_cons.1 hv with rfl | hv;exact ht;cases hv);have h2:=WS [114,101,116] [t.a] (by intro v hv;rcases List.mem_cons.1 hv with rfl | hv;exact ha;cases hv);have h3:=WS [98,114,97,110,99,104] [t.a,t.to,t.els] (by intro v hv;rcases List.mem_cons.1 hv with rfl | hv;exact ha;rcases List.mem_cons.1 hv with rfl | hv;exact ht;rcases List.mem_cons.1 hv with rfl | hv;exact he;cases hv);simp only[List.length_cons,List.length_nil]at h1 h2 h3
 repeat' split
 all_goals omega
theorem ZeY:∀(ps:List Ph),(∀p∈ps,Zgd p)->(ps.flatMap ZH).length<=23*XF ps
 | [],_=>by simp
 | p::r,h=>by
  have h1:=WS [112,104,105] (p.dst::p.args) (h p (List.mem_cons_self ..)).2;have h2:=ZeY r (fun q hq=>h q (List.mem_cons_of_mem _ hq));have h3:XF (p::r)=(1+p.args.length)+XF r:=by simp[XF]
  rw[h3,List.flatMap_cons,List.length_append];simp only[List.length_cons,List.length_nil]at h1;have e:(ZH p).length=(lineS [112,104,105] (p.dst::p.args)).length:=rfl;omega
theorem Zf6:∀(is:List Xz),(∀i∈is,WM i)->(is.flatMap YJ).length<=23*is.length
 | [],_=>by simp
 | p::r,h=>by
  have h1:=Ziu (h p (List.mem_cons_self ..));have h2:=Zf6 r (fun q hq=>h q (List.mem_cons_of_mem _ hq));rw[List.flatMap_cons,List.length_append,List.length_cons];omega
theorem ZfW:∀(xs:List Xf),(∀x∈xs,Zdf x)->(xs.flatMap ZI).length<=23*Xk xs+5*xs.length
 | [],_=>by simp
 | x::r,h=>by
  have hx:=h x (List.mem_cons_self ..);have h1:=ZeY x.phis hx.phis;have h2:=Zf6 x.instrs hx.instrs;have h3:=Zii hx.term;have h4:(lineS [98,108,111,99,107] []).length=6:=rfl;have ih:=ZfW r (fun q hq=>h q (List.mem_cons_of_mem _ hq));have e:Xk (x::r)=(1+x.instrs.length+XF x.phis)+Xk r:=by simp[Xk,TX]
  have e2:(ZI x).length=6+((x.phis.flatMap ZH).length+((x.instrs.flatMap YJ).length+(ZZ x.term).length)):=by
   unfold ZI;rw[List.length_append,List.length_append,List.length_append,h4]
  rw[e,List.flatMap_cons,List.length_append,List.length_cons,e2];omega
theorem Zbz{F:Fn}(h:Yx F=true):parseP (Jn F)=⟨0,0,F⟩/\(Jn F).length<100000:=by
 obtain⟨hx,hv,hb,hs⟩:=ZeR h;have hV:Ix F.values:=⟨hv.1,by omega⟩;have hl:(Jn F).length<100000:=by
  have h1:=ZfW F.blocks hx;have h2:=WS [102,117,110,99] [F.values] (by intro v hv;rcases List.mem_cons.1 hv with rfl | hv;exact hV;cases hv);simp only[List.length_cons,List.length_nil]at h2;unfold Jn;rw[List.length_append];omega
 exact⟨ZcK F h hx hV hl,hl⟩
end Go.Proofs.YtkehcdfalcakmaaGreatDoor
