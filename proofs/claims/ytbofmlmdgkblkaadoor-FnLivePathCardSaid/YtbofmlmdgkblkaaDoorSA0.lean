import Derived.Test.YtbofmlmdgkblkaaDoorFK1
import Derived.Test.YtbofmlmdgkblkaaDoorSPx
namespace Go.Proofs.YtbofmlmdgkblkaaDoor
open Go.RowKit
theorem YN{P:Program}{ops:Array Oper}{w:World}{o:Oper}{a:Act}{K:Act->World->Prop}{Q:Exit->Act->World->Prop}{E:Prop}(hgd:o.guard=none)(s x:Operand)(t:TypeId)
 (ho:o.op=.call { callee:=.builtin .append,args:=#[s,x],argTypes:=#[t,t] })
 (base:Nat) (e:TypeId) (i:TypeInfo) (z:Value) (size bytes:Nat) (ht:P.underlying t=some (.slice e)) (hi:P.info? e=some i) (hz:i.zero=some z)
 (hsize:i.size=size) (hby:i.bytes=bytes) (hzs:z.cells.size=size) (hsz:0<size)
 (v:Value) (n:Nat) (xs:List Value) (hs:a.eval s=v) (hown:w.ownsRow base e size v n xs)
 (ad:Addr) (m c:Nat) (news:List Value) (hx:a.eval x=.slice (some ad) m c) (hl:news.length=m*size) (hnews:∀j u,news[j]?=some u->w.cell? (ad.add j)=some u) (h1:∀u∈news,u.oneCell'=true)
 (h63:n+m<=maxLen) (hbytes:(n+m)*bytes<=140737488355328) (hbase:base<=w.heap.size)
 (h:∀v' w',w'.ownsRow base e size v' (n+m) (xs++news)->w.grownBy w' v.ownBlock->(v'=.slice none 0 0↔v=.slice none 0 0/\m=0)->(v'.ownBlock=v.ownBlock\/v'.ownBlock=some w.heap.size)->K (a.put o.dst v') w') :
 if Region.wanted o (yielded ops a.tmps)=true then Oper.wp P o a w K Q else E:=by
 have hw:Region.wanted o (yielded ops a.tmps)=true:=by simp[Region.wanted,hgd]
 rw[if_pos hw];obtain⟨v',w',hr,h2,h3,h4,h5⟩:=run_append_own_at (P:=P) w base t o.type e i z size bytes ht hi hz hsize hby hzs hsz v n xs hown ad m c news hl hnews h1 h63 hbytes hbase;unfold Oper.wp execOp;simp only[ho,resolve,invoke,builtin,Sem.run_bind,Sem.run_pure,Result.andThen_ok,List.map_toArray,List.map_cons,List.map_nil,hs,hx,hr];exact h v' w' h2 h3 h4 h5
end Go.Proofs.YtbofmlmdgkblkaaDoor
namespace Go.Proofs.YtbofmlmdgkblkaaDoor
open Go.RowKit
def Lsb(xs:List Xg)(s:Bool)(v b:Nat):Prop:=if s=true then Lou xs v b else Lin xs v b
open Classical in
noncomputable def TG(xs:List Xg)(v:Nat)(s:Bool)(b:Nat):List Int:=Xk ((List.range v).filter fun u=>decide (Lsb xs s u b))
section
variable {w3 wr wr' w8 : World} {G : Bool -> Nat} {n : Nat} {P P' : Bool -> Nat -> List Int}
end
end Go.Proofs.YtbofmlmdgkblkaaDoor
namespace Go.Proofs.YtbofmlmdgkblkaaDoor
theorem K8{y:XS}{v:Nat}(h:(v:Int) ∉ Xw [y]):(v:Int) ∉ writesI y:=by
 unfold Xw at h;unfold writesI;by_cases e:dB y.op=true
 ·rw[List.filter_cons_of_pos (by simpa using e)]at h
  rw[if_pos e];simpa using h
 ·rw[if_neg e]
  simp
theorem Uh{y:XS}{ys:List XS}{v:Int}(h:v ∉ Xw (y::ys)):v ∉ Xw [y]/\v ∉ Xw ys:=by
 unfold Xw at h |-;by_cases e:dB y.op=true
 ·rw[List.filter_cons_of_pos (by simpa using e)]at h |-
  simp only[List.filter_nil,List.map_cons,List.map_nil,List.mem_cons,not_or]at h |-;exact⟨⟨h.1,by simp⟩,h.2⟩
 ·rw[List.filter_cons_of_neg (by simpa using e)]at h |-
  exact⟨by simp,h⟩
theorem WR{v:Nat}{fin:Bool}:∀(ys:List XS)(i:Nat)(h:i<ys.length),(v:Int) ∉ Xw (ys.take i)->(v:Int)∈rdI ys[i]->Ya (v:Int) fin ys=1
 | [],_,h,_,_=>absurd h (by simp)
 | y::ys,0,_,_,hr=>by
  show(if XT (rdI y) (v:Int)then 1 else _)=1;rw[if_pos (XU.2 (show(v:Int)∈rdI y from hr))]
 | y::ys,i+1,h,hd,hr=>by
  rw[List.take_succ_cons]at hd;have h2:=Uh hd;show(if XT (rdI y) (v:Int)then 1 else if ZP y=(v:Int)then 2 else Ya (v:Int) fin ys)=1;by_cases e1:XT (rdI y) (v:Int)=true
  ·rw[if_pos e1]
  ·rw[if_neg e1,if_neg (fun e=>K8 h2.1 (Yz.1 e))]
   exact WR ys i (by simpa using h) h2.2 (by simpa using hr)
theorem Zbz{v:Nat}:∀(ys:List XS),(v:Int) ∉ Xw ys->Ya (v:Int) true ys=1
 | [],_=>rfl
 | y::ys,hd=>by
  have h2:=Uh hd;show(if XT (rdI y) (v:Int)then 1 else if ZP y=(v:Int)then 2 else Ya (v:Int) true ys)=1;by_cases e1:XT (rdI y) (v:Int)=true
  ·rw[if_pos e1]
  ·rw[if_neg e1,if_neg (fun e=>K8 h2.1 (Yz.1 e))]
   exact Zbz ys h2.2
theorem Zaa{v:Nat}{fin:Bool}:∀(ys:List XS),(v:Int) ∉ Xw ys->Ya (v:Int) fin ys≠2
 | [],_=>by unfold Ya;cases fin<;>simp
 | y::ys,hd=>by
  have h2:=Uh hd;show(if XT (rdI y) (v:Int)then 1 else if ZP y=(v:Int)then 2 else Ya (v:Int) fin ys)≠2;by_cases e1:XT (rdI y) (v:Int)=true
  ·rw[if_pos e1];decide
  ·rw[if_neg e1,if_neg (fun e=>K8 h2.1 (Yz.1 e))]
   exact Zaa ys h2.2
variable {xs : List Xg} {b v : Nat}
theorem Zcz(hb:b<xs.length)(hp:(v:Int) ∉ Xu xs[b].phis):KW xs b v=false:=by
 unfold KW;rw[List.getElem?_eq_getElem hb];show XT (xs[b].phis.map Ph.dst) (v:Int)=false;rw[<-Bool.not_eq_true,XU];exact hp
theorem VJ(hb:b<xs.length):K6 xs b v=Ya (v:Int) (XT (rdT xs[b].term) (v:Int)||XT (Zz xs b) (v:Int)) xs[b].instrs:=by
 unfold K6;rw[List.getElem?_eq_getElem hb];rfl
theorem ZeL{i:Nat}(hb:b<xs.length)(hp:(v:Int) ∉ Xu xs[b].phis)(hi:i<xs[b].instrs.length)(hd:(v:Int) ∉ Xw (xs[b].instrs.take i))(hr:(v:Int)∈rdI xs[b].instrs[i]):Lin xs v b :=
 ⟨Zcz hb hp,Lbe.here hb (by rw[VJ hb];exact WR _ i hi hd hr)⟩
theorem ZgH(hb:b<xs.length)(hp:(v:Int) ∉ Xu xs[b].phis)(hd:(v:Int) ∉ Xw xs[b].instrs)(hr:(v:Int)∈rdT xs[b].term\/(v:Int)∈Zz xs b):Lin xs v b:=by
 refine⟨Zcz hb hp,Lbe.here hb ?_⟩;rw[VJ hb,show(XT (rdT xs[b].term) (v:Int)||XT (Zz xs b) (v:Int))=true by
  rw[Bool.or_eq_true];rcases hr with h | h
  ·exact Or.inl (XU.2 h)
  ·exact Or.inr (XU.2 h)]
 exact Zbz _ hd
theorem Zfd{t:Nat}(hb:b<xs.length)(hp:(v:Int) ∉ Xu xs[b].phis)(hd:(v:Int) ∉ Xw xs[b].instrs)(ht:t∈XW xs b)(hl:Lin xs v t):Lin xs v b:=by
 refine⟨Zcz hb hp,?_⟩;have h2:K6 xs b v≠2:=by rw[VJ hb];exact Zaa _ hd
 have h3:=ZcM xs b v;by_cases h1:K6 xs b v=1
 ·exact Lbe.here hb h1
 ·exact Lbe.step hb (by omega) ht hl.1 hl.2
open Classical in
theorem Zh7{V:Nat}(hv:v<V)(h:Lin xs v b):(v:Int)∈TG xs V false b:=by
 unfold TG Xk;refine List.mem_map.2 ⟨v,List.mem_filter.2 ⟨List.mem_range.2 hv,?_⟩,rfl⟩;rw[decide_eq_true_eq];unfold Lsb;rw[if_neg (by simp)];exact h
open Classical in
theorem Zh0{V:Nat}(hb:b<xs.length)(hv:v<V)(h:Lin xs v b):(v:Int)∈Xk (ptP xs xs[b] V b 0):=by
 unfold ptP Xk;refine List.mem_map.2 ⟨v,List.mem_filter.2 ⟨List.mem_range.2 hv,?_⟩,rfl⟩;show(KD xs[b] v (decide (Lou xs v b)) 0||KW xs b v)=true;rw[Bool.or_eq_true];left;unfold KD;rw[decide_eq_true_eq,List.drop_zero];cases h.2 with
 | here _ h1 =>
  rw[VJ hb]at h1;refine Vz (fun hf=>?_) _ h1;rw[Bool.or_eq_true]at hf |-;rcases hf with hf | hf
  ·exact Or.inl hf
  ·exact Or.inr (decide_eq_true (Or.inl (XU.1 hf)))
 | step _ h0 ht h1 h2 =>
  rw[VJ hb]at h0;refine((Zab _ h0).2).2 ?_;rw[Bool.or_eq_true];exact Or.inr (decide_eq_true (Or.inr ⟨_,ht,h1,h2⟩))
theorem ZeZ{t i j:Nat}(hb:b<xs.length)(ht:t<xs.length)(htg:(t:Int)∈xs[b].term.targets)(hi:i<(predsFrom xs 0 (t:Int)).length)(hp:(predsFrom xs 0 (t:Int)).getD i 0=(b:Int))(hj:j<xs[t].phis.length):xs[t].phis[j].args.getD i 0∈Zz xs b:=by
 unfold Zz;rw[List.getElem?_eq_getElem hb];refine List.mem_flatMap.2 ⟨(t:Int),htg,?_⟩;unfold ZcZ;rw[Int.toNat_natCast,List.getElem?_eq_getElem ht];simp only;rw[if_neg (fun e=>by rw[e]at hj;simp at hj)];refine List.mem_flatMap.2 ⟨i,List.mem_range.2 hi,?_⟩;rw[if_pos hp];exact List.mem_map.2 ⟨_,List.getElem_mem hj,rfl⟩
structure Tl(xs:List Xg)(V b c:Nat)(U G:List Int):Prop where
 used:∀z∈U,∃v:Nat,z=(v:Int)/\v<V/\Lin xs v b
 go:∀v:Nat,v<V->(v:Int) ∉ G->Lin xs v c->Lin xs v b
theorem Tl.start(xs:List Xg)(V b:Nat):Tl xs V b b [] []:=⟨fun z hz=>absurd hz (by simp),fun _ _ _ h=>h⟩
def YI(G0:List Int)(x:Xg)(i:Nat):List Int:=G0++Xu x.phis++Xw (x.instrs.take i)
theorem ZaC{G0:List Int}{x:Xg}{i:Nat}{z:Int}(h:z ∉ YI G0 x i):z ∉ G0/\z ∉ Xu x.phis/\z ∉ Xw (x.instrs.take i):=by
 unfold YI at h;simp only[List.mem_append,not_or]at h;exact⟨h.1.1,h.1.2,h.2⟩
theorem Tl.read{V c i:Nat}{U G0:List Int}{z:Int}(h:Tl xs V b c U G0)(ho:UF V xs)(hc:c<xs.length)(hi:i<xs[c].instrs.length)(hz:z ∉ YI G0 xs[c] i)(hr:z∈rdI xs[c].instrs[i]):Tl xs V b c (U++[z]) G0:=by
 refine⟨fun y hy=>?_,h.go⟩;rcases List.mem_append.1 hy with hy | hy
 ·exact h.used y hy
 ·simp only[List.mem_cons,List.not_mem_nil,or_false]at hy
  subst hy;have hb:=ho.rdi _ (List.getElem_mem hc) _ (List.getElem_mem hi) y hr;obtain⟨g1,g2,g3⟩:=ZaC hz;obtain⟨v,rfl⟩:=Int.eq_ofNat_of_zero_le hb.1;have hv:v<V:=by omega
  exact⟨v,rfl,hv,h.go v hv g1 (ZeL hc g2 hi g3 hr)⟩
theorem Tl.fin{V c:Nat}{U G0:List Int}{z:Int}(h:Tl xs V b c U G0)(hc:c<xs.length)(hz:z ∉ YI G0 xs[c] xs[c].instrs.length)(hb:0<=z/\z<V)(hr:z∈rdT xs[c].term\/z∈Zz xs c):Tl xs V b c (U++[z]) G0:=by
 refine⟨fun y hy=>?_,h.go⟩;rcases List.mem_append.1 hy with hy | hy
 ·exact h.used y hy
 ·simp only[List.mem_cons,List.not_mem_nil,or_false]at hy
  subst hy;obtain⟨g1,g2,g3⟩:=ZaC hz;rw[List.take_length]at g3;obtain⟨v,rfl⟩:=Int.eq_ofNat_of_zero_le hb.1;have hv:v<V:=by omega
  exact⟨v,rfl,hv,h.go v hv g1 (ZgH hc g2 g3 hr)⟩
theorem Tl.next{V c t:Nat}{U G0:List Int}(h:Tl xs V b c U G0)(hc:c<xs.length)(ht:t∈XW xs c):Tl xs V b t U (YI G0 xs[c] xs[c].instrs.length):=by
 refine⟨h.used,fun v hv hg hl=>?_⟩;obtain⟨g1,g2,g3⟩:=ZaC hg;rw[List.take_length]at g3;exact h.go v hv g1 (Zfd hc g2 g3 ht hl)
theorem Zga{G0:List Int}{x:Xg}{i:Nat}(hi:i<x.instrs.length)(hd:dB x.instrs[i].op=true):YI G0 x (i+1)=YI G0 x i++[x.instrs[i].dst]:=by
 unfold YI Xw;rw[List.take_succ_eq_append_getElem hi,List.filter_append,List.filter_cons_of_pos (by simpa using hd)];simp
theorem ZhL{G0:List Int}{x:Xg}{i:Nat}(hi:i<x.instrs.length)(hd:dB x.instrs[i].op=false):YI G0 x (i+1)=YI G0 x i:=by
 unfold YI Xw;rw[List.take_succ_eq_append_getElem hi,List.filter_append,List.filter_cons_of_neg (by simp[hd])];simp
theorem Zaq{G0:List Int}{x:Xg}{i:Nat}:(YI G0 x i).length<=G0.length+x.phis.length+x.instrs.length:=by
 unfold YI Xw Xu;rw[List.length_append,List.length_append,List.length_map,List.length_map];have:=List.length_filter_le (fun x:XS=>dB x.op) (x.instrs.take i);rw[List.length_take]at this;omega
end Go.Proofs.YtbofmlmdgkblkaaDoor
namespace Go.Proofs.YtbofmlmdgkblkaaDoor
set_option maxRecDepth 100000
open Go.RowKit
noncomputable def luB:Code:=(Tryd.f3.body.getD .skip)
noncomputable def luY:Code:=cB (cB (cB (cB (cB (cB (cB (cB (cB (cB (cB (cB luB)))))))))))
noncomputable def ZiB:Code:=cA (cA (cB (cA luY)))
noncomputable def luZ:Code:=cA (cA (cB ZiB))
noncomputable def Zje:Code:=cA (cA (cB (cA (cB luZ))))
noncomputable def Zja:Code:=cA (cA (cB (cA (cB (cB luZ)))))
noncomputable def Zi5:Code:=cA (cA (cB (cA (cB (cB (cB (cB (cB (cB (cB (cB luZ)))))))))))
noncomputable def Zjd:Code:=cA (cA (cB (cA (cA (cB Zi5)))))
noncomputable def Zji:Code:=cA (cA (cB (cA (cB luY))))
theorem Zcm(f:Nat->Value):(List.range' 24 286).map f=(f 24::f 25::f 26::f 27::f 28::f 29::f 30::f 31::f 32::f 33::f 34::f 35::f 36::f 37::f 38::f 39::f 40::f 41::f 42::f 43::f 44::f 45::f 46::f 47::f 48::f 49::f 50::f 51::f 52::f 53::f 54::f 55::f 56::f 57::f 58::f 59::f 60::f 61::f 62::f 63::f 64::f 65::f 66::f 67::f 68::f 69::f 70::f 71::f 72::f 73::f 74::f 75::f 76::f 77::f 78::f 79::f 80::f 81::f 82::f 83::f 84::f 85::f 86::f 87::f 88::f 89::f 90::f 91::f 92::f 93::f 94::f 95::f 96::f 97::f 98::f 99::f 100::f 101::f 102::f 103::f 104::f 105::f 106::f 107::f 108::f 109::f 110::f 111::f 112::f 113::f 114::f 115::f 116::f 117::f 118::f 119::f 120::f 121::f 122::f 123::f 124::f 125::f 126::f 127::f 128::f 129::f 130::f 131::f 132::f 133::f 134::f 135::f 136::f 137::f 138::f 139::f 140::f 141::f 142::f 143::f 144::f 145::f 146::f 147::f 148::f 149::f 150::f 151::f 152::f 153::f 154::f 155::f 156::f 157::f 158::f 159::f 160::f 161::f 162::f 163::f 164::f 165::f 166::f 167::f 168::f 169::f 170::f 171::f 172::f 173::f 174::f 175::f 176::f 177::f 178::f 179::f 180::f 181::f 182::f 183::f 184::f 185::f 186::f 187::f 188::f 189::f 190::f 191::f 192::f 193::f 194::f 195::f 196::f 197::f 198::f 199::f 200::f 201::f 202::f 203::f 204::f 205::f 206::f 207::f 208::f 209::f 210::f 211::f 212::f 213::f 214::f 215::f 216::f 217::f 218::f 219::f 220::f 221::f 222::f 223::f 224::f 225::f 226::f 227::f 228::f 229::f 230::f 231::f 232::f 233::f 234::f 235::f 236::f 237::f 238::f 239::f 240::f 241::f 242::f 243::f 244::f 245::f 246::f 247::f 248::f 249::f 250::f 251::f 252::f 253::f 254::f 255::f 256::f 257::f 258::f 259::f 260::f 261::f 262::f 263::f 264::f 265::f 266::f 267::f 268::f 269::f 270::f 271::f 272::f 273::f 274::f 275::f 276::f 277::f 278::f 279::f 280::f 281::f 282::f 283::f 284::f 285::f 286::f 287::f 288::f 289::f 290::f 291::f 292::f 293::f 294::f 295::f 296::f 297::f 298::f 299::f 300::f 301::f 302::f 303::f 304::f 305::f 306::f 307::f 308::f 309::[]):=rfl
theorem Km(tl:List Value)(h:tl.length=286):∃f:Nat->Value,tl=(f 24::f 25::f 26::f 27::f 28::f 29::f 30::f 31::f 32::f 33::f 34::f 35::f 36::f 37::f 38::f 39::f 40::f 41::f 42::f 43::f 44::f 45::f 46::f 47::f 48::f 49::f 50::f 51::f 52::f 53::f 54::f 55::f 56::f 57::f 58::f 59::f 60::f 61::f 62::f 63::f 64::f 65::f 66::f 67::f 68::f 69::f 70::f 71::f 72::f 73::f 74::f 75::f 76::f 77::f 78::f 79::f 80::f 81::f 82::f 83::f 84::f 85::f 86::f 87::f 88::f 89::f 90::f 91::f 92::f 93::f 94::f 95::f 96::f 97::f 98::f 99::f 100::f 101::f 102::f 103::f 104::f 105::f 106::f 107::f 108::f 109::f 110::f 111::f 112::f 113::f 114::f 115::f 116::f 117::f 118::f 119::f 120::f 121::f 122::f 123::f 124::f 125::f 126::f 127::f 128::f 129::f 130::f 131::f 132::f 133::f 134::f 135::f 136::f 137::f 138::f 139::f 140::f 141::f 142::f 143::f 144::f 145::f 146::f 147::f 148::f 149::f 150::f 151::f 152::f 153::f 154::f 155::f 156::f 157::f 158::f 159::f 160::f 161::f 162::f 163::f 164::f 165::f 166::f 167::f 168::f 169::f 170::f 171::f 172::f 173::f 174::f 175::f 176::f 177::f 178::f 179::f 180::f 181::f 182::f 183::f 184::f 185::f 186::f 187::f 188::f 189::f 190::f 191::f 192::f 193::f 194::f 195::f 196::f 197::f 198::f 199::f 200::f 201::f 202::f 203::f 204::f 205::f 206::f 207::f 208::f 209::f 210::f 211::f 212::f 213::f 214::f 215::f 216::f 217::f 218::f 219::f 220::f 221::f 222::f 223::f 224::f 225::f 226::f 227::f 228::f 229::f 230::f 231::f 232::f 233::f 234::f 235::f 236::f 237::f 238::f 239::f 240::f 241::f 242::f 243::f 244::f 245::f 246::f 247::f 248::f 249::f 250::f 251::f 252::f 253::f 254::f 255::f 256::f 257::f 258::f 259::f 260::f 261::f 262::f 263::f 264::f 265::f 266::f 267::f 268::f 269::f 270::f 271::f 272::f 273::f 274::f 275::f 276::f 277::f 278::f 279::f 280::f 281::f 282::f 283::f 284::f 285::f 286::f 287::f 288::f 289::f 290::f 291::f 292::f 293::f 294::f 295::f 296::f 297::f 298::f 299::f 300::f 301::f 302::f 303::f 304::f 305::f 306::f 307::f 308::f 309::[]):=by
 have e:=Ja Value undef tl 24 (fun i=>tl.getD (i-24) undef) (fun i hi=>by simp[hi]);rw[h]at e;exact⟨fun i=>tl.getD (i-24) undef,e.trans (Zcm _)⟩
structure LuS(w wr:World)(D fb lb:Nat)(V:Nat)(xs:List Xg)(a1:Option Addr)(m1 c1 b g0 k0:Nat)(X1:Value)(ia:Option Addr)(ic sg:Nat)(sa:Option Addr)(sc:Nat)(il sl:List Int)(pa qa:Option Addr)(ps:List Ph)(is:List XS):Prop where
 low:Below w.heap.size w wr
 wD:w.heap.size<=D
 fbx:Bx wr fb #[.int .i64 (V:Int),.slice a1 m1 c1] 25
 fD:fb<D
 at_:Xy wr 0 D a1 xs
 lbx:Bx wr lb #[.slice (some ⟨g0,0,none⟩) m1 k0,X1] 29
 lD:lb<D
 inc:wr.cell? ⟨g0,b,none⟩=some (.slice ia il.length ic)
 gD:g0<D
 ina:Xe wr 0 D ia il
 sec:wr.cell? ⟨sg,0,none⟩=some (.slice sa sl.length sc)
 sD:sg<D
 sea:Xe wr 0 D sa sl
 pAt:Ji wr 0 D pa ps
 iAt:YF wr 0 D qa is
 sz:D<=wr.heap.size
variable {w wr w' : World} {lab : Nat -> Nat × Nat × Nat} {D fb lb V : Nat} {xs : List Xg} {a1 : Option Addr} {m1 c1 b g0 k0 : Nat} {X1 : Value} {ia : Option Addr} {ic sg : Nat} {sa : Option Addr} {sc : Nat} {il sl : List Int} {pa qa : Option Addr} {ps : List Ph} {is : List XS}
theorem LuS.keep(h:LuS w wr D fb lb V xs a1 m1 c1 b g0 k0 X1 ia ic sg sa sc il sl pa qa ps is)(k:Below D wr w'):LuS w w' D fb lb V xs a1 m1 c1 b g0 k0 X1 ia ic sg sa sc il sl pa qa ps is :=
 ⟨h.low.trans (k.mono h.wD),h.wD,h.fbx.keep (k.block _ h.fD),h.fD,h.at_.keep k,h.lbx.keep (k.block _ h.lD),h.lD,(Xc (k.block _ h.gD)).trans h.inc,h.gD,h.ina.keep k,(Xc (k.block _ h.sD)).trans h.sec,h.sD,h.sea.keep k,h.pAt.keep k,h.iAt.keep k,Nat.le_trans h.sz k.size⟩
theorem LuS.take{pa' qa':Option Addr}{ps':List Ph}{is':List XS}(h:LuS w wr D fb lb V xs a1 m1 c1 b g0 k0 X1 ia ic sg sa sc il sl pa qa ps is)(hp:Ji wr 0 D pa' ps')(hi:YF wr 0 D qa' is'):LuS w wr D fb lb V xs a1 m1 c1 b g0 k0 X1 ia ic sg sa sc il sl pa' qa' ps' is' :=
 ⟨h.low,h.wD,h.fbx,h.fD,h.at_,h.lbx,h.lD,h.inc,h.gD,h.ina,h.sec,h.sD,h.sea,hp,hi,h.sz⟩
structure ZS(w wr:World)(lab:Nat->Nat × Nat × Nat)(D fb lb:Nat)(V:Nat)(xs:List Xg)(a1:Option Addr)(m1 c1 b g0 k0:Nat)(X1:Value)(ia:Option Addr)(ic sg:Nat)(sa:Option Addr)(sc:Nat)(il sl:List Int)(pa qa:Option Addr)(ps:List Ph)(is:List XS)(vu vg:Value)(U G:List Int)(bs:List (Nat × Array Value × Nat)):Prop where
 s:LuS w wr D fb lb V xs a1 m1 c1 b g0 k0 X1 ia ic sg sa sc il sl pa qa ps is
 u:Xt wr lab (5,0,0) D 2 1 vu U.length (Xl U)
 g:Xt wr lab (6,0,0) D 2 1 vg G.length (Xl G)
 fr:∀q,wr.heap.size<=q->lab q=(0,0,0)
 bx:∀e∈bs,Bx wr e.1 e.2.1 e.2.2/\D<=e.1/\lab e.1=(0,0,0)
variable {vu vg v' : Value} {U G : List Int} {bs bs' : List (Nat × Array Value × Nat)}
theorem ZS.keep(h:ZS w wr lab D fb lb V xs a1 m1 c1 b g0 k0 X1 ia ic sg sa sc il sl pa qa ps is vu vg U G bs)(k:Below wr.heap.size wr w'):ZS w w' lab D fb lb V xs a1 m1 c1 b g0 k0 X1 ia ic sg sa sc il sl pa qa ps is vu vg U G bs:=by
 have kk:XL wr w' lab lab D (fun _=>True):=⟨k.size,fun q _ h2 _=>⟨k.block q h2,rfl⟩,fun hf q hq=>hf q (Nat.le_trans k.size hq)⟩;exact⟨h.s.keep (k.mono h.s.sz),h.u.sp kk (fun _ _=>trivial),h.g.sp kk (fun _ _=>trivial),kk.fresh h.fr,fun e he=>⟨(h.bx e he).1.keep (k.block _ (h.bx e he).1.lt),(h.bx e he).2⟩⟩
theorem ZS.drew(h:ZS w wr lab D fb lb V xs a1 m1 c1 b g0 k0 X1 ia ic sg sa sc il sl pa qa ps is vu vg U G bs):ZS w wr.drew lab D fb lb V xs a1 m1 c1 b g0 k0 X1 ia ic sg sa sc il sl pa qa ps is vu vg U G bs:=h.keep (Below.refl _ _).drew
theorem ZS.box(h:ZS w wr lab D fb lb V xs a1 m1 c1 b g0 k0 X1 ia ic sg sa sc il sl pa qa ps is vu vg U G bs)(cs:Array Value)(t:Nat):ZS w (wr.alloc (.cells cs t)) lab D fb lb V xs a1 m1 c1 b g0 k0 X1 ia ic sg sa sc il sl pa qa ps is vu vg U G ((wr.heap.size,cs,t)::bs):=by
 have h0:=h.keep (Xb (Below.refl _ _) (.cells cs t));refine⟨h0.s,h0.u,h0.g,h0.fr,fun e he=>?_⟩;rcases List.mem_cons.1 he with rfl | he
 ·exact⟨Bx.new _ _ _,h.s.sz,h.fr _ (Nat.le_refl _)⟩
 ·exact h0.bx e he
theorem ZS.sub(h:ZS w wr lab D fb lb V xs a1 m1 c1 b g0 k0 X1 ia ic sg sa sc il sl pa qa ps is vu vg U G bs)(k:∀e∈bs',e∈bs):ZS w wr lab D fb lb V xs a1 m1 c1 b g0 k0 X1 ia ic sg sa sc il sl pa qa ps is vu vg U G bs':=⟨h.s,h.u,h.g,h.fr,fun e he=>h.bx e (k e he)⟩
theorem ZS.pushU{o:Obj}{n':Nat}{z:Int}(h:ZS w wr lab D fb lb V xs a1 m1 c1 b g0 k0 X1 ia ic sg sa sc il sl pa qa ps is vu vg U G bs)(hg:(wr.alloc o).grownBy w' vu.ownBlock)(ho:w'.ownsRow D 2 1 v' n' (Xl U++[.int .i64 z]))(hn:n'=U.length+1)(hat:v'.ownBlock=vu.ownBlock\/v'.ownBlock=some (wr.alloc o).heap.size) :
 ∃lab',ZS w w' lab' D fb lb V xs a1 m1 c1 b g0 k0 X1 ia ic sg sa sc il sl pa qa ps is v' vg (U++[z]) G bs/\XL wr w' lab lab' D (fun q=>lab q≠(5,0,0)):=by
 have h0:=h.keep (Xb (Below.refl _ _) o);have hB:=h0.u.below hg (Nat.le_refl _) h0.s.sz;obtain⟨lab',hr,k⟩:=h0.u.grow hg ho hat h0.fr;refine⟨lab',⟨h0.s.keep hB,?_,h0.g.sp k (fun q e=>by rw[e];simp),k.fresh h0.fr,fun e he=>?_⟩,((XL.box o).trans k).weak (fun _ h=>⟨trivial,h⟩)⟩
 ·subst hn
  have e:Xl (U++[z])=Xl U++[.int .i64 z]:=by simp[Xl]
  rw[e,List.length_append];exact hr
 ·obtain⟨q1,q2,q3⟩:=h0.bx e he
  have:=k.same e.1 q2 q1.lt (by rw[q3];simp);exact⟨q1.keep this.1,q2,this.2.trans q3⟩
theorem ZS.pushG{o:Obj}{n':Nat}{z:Int}(h:ZS w wr lab D fb lb V xs a1 m1 c1 b g0 k0 X1 ia ic sg sa sc il sl pa qa ps is vu vg U G bs)(hg:(wr.alloc o).grownBy w' vg.ownBlock)(ho:w'.ownsRow D 2 1 v' n' (Xl G++[.int .i64 z]))(hn:n'=G.length+1)(hat:v'.ownBlock=vg.ownBlock\/v'.ownBlock=some (wr.alloc o).heap.size) :
 ∃lab',ZS w w' lab' D fb lb V xs a1 m1 c1 b g0 k0 X1 ia ic sg sa sc il sl pa qa ps is vu v' U (G++[z]) bs:=by
 have h0:=h.keep (Xb (Below.refl _ _) o);have hB:=h0.g.below hg (Nat.le_refl _) h0.s.sz;obtain⟨lab',hr,k⟩:=h0.g.grow hg ho hat h0.fr;refine⟨lab',h0.s.keep hB,h0.u.sp k (fun q e=>by rw[e];simp),?_,k.fresh h0.fr,fun e he=>?_⟩
 ·subst hn
  have e:Xl (G++[z])=Xl G++[.int .i64 z]:=by simp[Xl]
  rw[e,List.length_append];exact hr
 ·obtain⟨q1,q2,q3⟩:=h0.bx e he
  have:=k.same e.1 q2 q1.lt (by rw[q3];simp);exact⟨q1.keep this.1,q2,this.2.trans q3⟩
theorem ZS.take{pa' qa':Option Addr}{ps':List Ph}{is':List XS}(h:ZS w wr lab D fb lb V xs a1 m1 c1 b g0 k0 X1 ia ic sg sa sc il sl pa qa ps is vu vg U G bs)(hp:Ji wr 0 D pa' ps')(hi:YF wr 0 D qa' is'):ZS w wr lab D fb lb V xs a1 m1 c1 b g0 k0 X1 ia ic sg sa sc il sl pa' qa' ps' is' vu vg U G bs:=⟨h.s.take hp hi,h.u,h.g,h.fr,h.bx⟩
theorem ZS.gAt(h:ZS w wr lab D fb lb V xs a1 m1 c1 b g0 k0 X1 ia ic sg sa sc il sl pa qa ps is vu vg U G bs):∃a c,vg=.slice a G.length c/\Xe wr D wr.heap.size a G:=by
 obtain⟨a,c,e⟩:=h.g.form;have hg:=h.g;rw[e]at hg;exact⟨a,c,e,hg.ints⟩
theorem ZS.uAt(h:ZS w wr lab D fb lb V xs a1 m1 c1 b g0 k0 X1 ia ic sg sa sc il sl pa qa ps is vu vg U G bs):∃a c,vu=.slice a U.length c/\Xe wr D wr.heap.size a U:=by
 obtain⟨a,c,e⟩:=h.u.form;have hg:=h.u;rw[e]at hg;exact⟨a,c,e,hg.ints⟩
end Go.Proofs.YtbofmlmdgkblkaaDoor
namespace Go.Proofs.YtbofmlmdgkblkaaDoor
set_option maxHeartbeats 4000000
set_option maxRecDepth 100000
open Go.RowKit
structure U1 where
 i:Nat
 vg:Value
 tl:List Value
theorem lu1{Q:Exit->Act->World->Prop}(w:World)(D fb lb V:Nat)(xs:List Xg)(a1:Option Addr)(m1 c1 b g0 k0:Nat)(X1:Value)(ia:Option Addr)(ic sg:Nat)(sa:Option Addr)(sc:Nat)(il sl:List Int)(pa qa:Option Addr)(ps:List Ph)(is:List XS)(ca ma:Option Addr)(n cc m mc sm:Nat)(xb np pc ni qc:Nat)(t:XZ)(vu:Value)(U G0:List Int)(c2 c3 c4 c11 c12 c15 c16 c17 c18 c19 c20 c21 c22 c23:Value)(hnp:Hid (np=ps.length))(hnl:np<=4000)(hGl:Hid (G0.length<=200000))
 (hexit:∀(lab:Nat->Nat × Nat × Nat)(vg:Value)(tl:List Value)(w':World),tl.length=286->ZS w w' lab D fb lb V xs a1 m1 c1 b g0 k0 X1 ia ic sg sa sc il sl pa qa ps is vu vg U (G0++Xu ps) [(xb,#[.slice pa np pc,.slice qa ni qc,.int .i64 t.kind,.int .i64 t.a,.int .i64 t.to,.int .i64 t.els],39)]->Q (.exit 2) ⟨(.slice ca n cc::.slice ma m mc::c2::c3::c4::.pointer (some ⟨fb,0,none⟩)::.pointer (some ⟨lb,0,none⟩)::.int .i64 ((b:Nat):Int)::.slice (some ⟨sg,0,none⟩) sm sm::vu::vg::c11::c12::.pointer (some ⟨xb,0,none⟩)::.int .i64 ((np:Nat):Int)::c15::c16::c17::c18::c19::c20::c21::c22::c23::tl).toArray,[]⟩ w')
 (lab:Nat->Nat × Nat × Nat) (vg:Value) (tl:List Value) (wr:World) (hl:tl.length=286) (h:Hid (ZS w wr lab D fb lb V xs a1 m1 c1 b g0 k0 X1 ia ic sg sa sc il sl pa qa ps is vu vg U G0 [(xb,#[.slice pa np pc,.slice qa ni qc,.int .i64 t.kind,.int .i64 t.a,.int .i64 t.to,.int .i64 t.els],39)])) :
 Code.wp Tryd.prog (Code.loop Zje) Q ⟨(.slice ca n cc::.slice ma m mc::c2::c3::c4::.pointer (some ⟨fb,0,none⟩)::.pointer (some ⟨lb,0,none⟩)::.int .i64 ((b:Nat):Int)::.slice (some ⟨sg,0,none⟩) sm sm::vu::vg::c11::c12::.pointer (some ⟨xb,0,none⟩)::.int .i64 ((0:Nat):Int)::c15::c16::c17::c18::c19::c20::c21::c22::c23::tl).toArray,[]⟩ wr:=by
 have HX:=Xa hexit;clear hexit;obtain⟨j0,hj0,hy0,hy1,hy2⟩:=Xp Tryd.info2';refine wp_loop (fun a' wr=>∃x:U1,a'=⟨(.slice ca n cc::.slice ma m mc::c2::c3::c4::.pointer (some ⟨fb,0,none⟩)::.pointer (some ⟨lb,0,none⟩)::.int .i64 ((b:Nat):Int)::.slice (some ⟨sg,0,none⟩) sm sm::vu::x.vg::c11::c12::.pointer (some ⟨xb,0,none⟩)::.int .i64 ((x.i:Nat):Int)::c15::c16::c17::c18::c19::c20::c21::c22::c23::x.tl).toArray,[]⟩/\x.tl.length=286/\x.i<=np/\Hid (∃lab,ZS w wr lab D fb lb V xs a1 m1 c1 b g0 k0 X1 ia ic sg sa sc il sl pa qa ps is vu x.vg U (G0++Xu (ps.take x.i)) [(xb,#[.slice pa np pc,.slice qa ni qc,.int .i64 t.kind,.int .i64 t.a,.int .i64 t.to,.int .i64 t.els],39)])) (fun a' _=>np-(intOf (a'.tmps.getD 14 undef)).toNat) ⟨⟨0,vg,tl⟩,rfl,hl,Nat.zero_le _,Xa ⟨lab,by simpa [Xu]using h.out⟩⟩ ?_;clear h hl;rintro a' wr ⟨⟨i,vg,tl⟩,rfl,hl,hi,HS⟩;dsimp only at hl hi HS |-
 conv=>arg 2;whnf
 obtain⟨f,rfl⟩:=Km tl hl;clear hl;obtain⟨lab,hR⟩:=HS.out;have HR:=Xa hR;clear hR HS;have x0:wr.cell? ⟨xb,0,none⟩=some (.slice pa np pc):=Bx.cell (HR.bx _ List.mem_cons_self).1 rfl;by_cases hlt:i<np
 ·have hltI:(i:Int)<np:=by omega
  have hip:i<ps.length:=by rw[<-hnp.out];exact hlt
  obtain⟨pb,po,rfl,hpb,aa,ac,d0,-,-⟩:=HR.s.pAt i hip;obtain⟨ga,gc,hvg,-⟩:=HR.gAt;have HGL:Hid ((G0++Xu (ps.take i)).length<=210000):=Xa (by
   rw[List.length_append];unfold Xu;rw[List.length_map,List.length_take];have:=hGl.out;omega)
  have HNX:Hid (G0++Xu (ps.take (i+1))=(G0++Xu (ps.take i))++[ps[i].dst]):=Xa (by
   unfold Xu;rw[List.take_succ_eq_append_getElem hip,List.map_append,List.append_assoc];rfl)
  generalize ps[i].dst=d at *;generalize G0++Xu (ps.take i)=G at *;subst hvg
  go_wp2_with (at_builtin;refine wpList_append_own_at _ rfl _ _ 40 rfl D 2 j0 (.int .i64 0) 1 8 Tryd.underlying40 hj0 hy0 hy1 hy2 rfl (by decide) _ G.length (Xl G) rfl (HR.g.own.alloc _) ⟨wr.heap.size,0,none⟩ 1 1 [.int .i64 d] rfl rfl (Xz _ _ _) ?c2a ?c3a ?c4a ?c5a ?_)
  case c2a=>intro u hu;simp at hu;subst hu;rfl
  case c3a=>unfold maxLen;have:=HGL.out;omega
  case c4a=>have:=HGL.out;omega
  case c5a=>simp;have:=HR.s.sz;omega
  intro v8 w8 hown8 hg8 hne8 hat8;obtain⟨lab',hN⟩:=HR.pushG hg8 hown8 rfl (by rw[World.size_alloc];exact hat8);have HN:=Xa hN;obtain⟨g8,c8,rfl,hgb8,hcap⟩:=Xh hown8 (by omega);clear hgb8 hcap hne8 hat8 hown8 hg8 hN x0;rw[<-HNX.out]at HN
  go_wp2_with fail
  exact⟨⟨⟨i+1,_,_⟩,rfl,rfl,(by show i+1<=np;omega),Xa ⟨_,HN.out⟩⟩,by simp[intOf];omega⟩
 ·have hltI:¬(i:Int)<np:=by omega
  have hie:i=np:=by omega
  subst hie;have HF:=Xa HR.out;rw[List.take_of_length_le (by have:=hnp.out;omega)]at HF;clear HR
  go_wp2_with fail
  exact HX.out _ _ _ _ (by rfl) HF.out
end Go.Proofs.YtbofmlmdgkblkaaDoor
