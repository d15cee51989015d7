import Derived.Test.YtlmgmkmomaileaaGreatDoorNSP
import Derived.Test.YtlmgmkmomaileaaGreatDoorRunQ
import Derived.Test.YtlmgmkmomaileaaGreatDoorSQ1
namespace Go.Proofs.YtlmgmkmomaileaaGreatDoor
set_option maxHeartbeats 1000000
set_option maxRecDepth 100000
open Go.RowKit
theorem Tryz.infoU64blockNo:(Tryz.prog.info? 145).map (fun i=>(i.zero,i.size,i.bytes))=some (some (.int .u64 0),1,8):=vZ
theorem KJ(g K x:Nat)(W:Nat->Nat)(w:World)(hW:Hid (XA W))(hr:Hid (w.rowIs g 145 K (fun i=>.int .u64 (W i))))(hx:x<64*K)(hK:K<=1000):Calls Tryz.prog 104 #[.agg #[.slice (some ⟨g,0,none⟩) K K],.int .i64 x] w fun e w'=>e=.returned (.bool (Xg W x))/\Below w.heap.size w w':=by
 have h2:=Zhy x;have h3:=Zif x;have hq:x / 64<K:=oM;have hm:x % 64<64:=Nat.mod_lt _ dC;have hc:=hr.cell hq;have hg:=hr.lt;have hc2:=fun o=>((Xb (Below.refl w.heap.size w) o).cell (p:=⟨g,x / 64,none⟩) hg).trans hc
 have HH:Hid ((bits .and .u64 ((W (x / 64):Int) / 2 ^ (x % 64)) 1==1)=Xg W x):=Xa (Zia (hW.out _));clear hc;generalize hd:x / 64=xd at *;generalize hm2:x % 64=xm at *;generalize W xd=Wd at *
 go_enter Tryz.func104,Tryz.ntmps104
 go_wp2
 go_ret
 exact⟨ZfP HH.out,Xb (Below.refl _ _) _⟩
theorem VL(room:Nat)(w:World)(hr:room<=60000):Calls Tryz.prog 103 #[.int .i64 room] w fun e w'=>∃g,e=.returned (.agg #[.slice (some ⟨g,0,none⟩) ((room+63) / 64) ((room+63) / 64)])/\w.heap.size<=g/\Below w.heap.size w w'/\w'.rowIs g 145 ((room+63) / 64) (fun _=>.int .u64 ((0:Nat):Int)):=by
 have hmk:=run_make_row' (P:=Tryz.prog) 91 145 (.int .u64 0) 8 Tryz.underlying91 Tryz.infoU64blockNo rfl .i64 .i64 ((room+63) / 64) oM oM;have hq:((room:Int)+63).tdiv 64=(((room+63) / 64:Nat):Int):=by rw[Int.tdiv_eq_ediv_of_nonneg oM];omega
 have hq2:((room:Int)+64-1)=(room:Int)+63:=oM;have hK:(room+63) / 64<=1000:=oM;generalize (room+63) / 64=K at *
 go_enter Tryz.func103,Tryz.ntmps103
 go_wp2;refine bodyPost_ret (v:=.agg #[.slice (some ⟨w.heap.size+1,0,none⟩) K K]) (by simp[results,Tryz.results103,go_sem]) rfl ?_;refine⟨w.heap.size+1,rfl,oM,Xb (Xb (Below.refl _ _) _) _,?_⟩;have hrow:∀ob,((w.alloc ob).alloc (.cells (madeCells #[.int .u64 0] K) 145)).rowIs (w.heap.size+1) 145 K (fun _=>.int .u64 0):=fun ob=>by
  have:=World.rowIs_made (w.alloc ob) (.int .u64 0) K 145;rwa[World.size_alloc]at this
 exact hrow _
theorem ZcT(g K n c:Nat)(W:Nat->Nat)(a:Option Addr)(ts:List Nat)(L B:Nat)(w:World)(ha:Hid (Xf w L B a (ts.map Int.ofNat)))(hx:Hid (n=ts.length))(hn:n<=4000)(ht:Hid (∀t∈ts,t<64*K))(hK:K<=1000)(hW:Hid (XA W))(hr:Hid (w.rowIs g 145 K (fun i=>.int .u64 (W i))))(hB:B<=w.heap.size)(hgL:¬(L<=g/\g<B)) :
 Calls Tryz.prog 105 #[.agg #[.slice (some ⟨g,0,none⟩) K K],.slice a n c] w fun e w'=>e=.returned (.tuple #[])/\w.grownBy w' (some g)/\w'.rowIs g 145 K (fun i=>.int .u64 (addsN W ts i)):=by
 go_enter Tryz.func105,Tryz.ntmps105
 go_wp2;have hg:g<w.heap.size:=hr.lt
 go_loopw [8] (fun u wr=>∃q:Nat,q<=n/\u=.int .i64 q/\Hid (w.grownBy wr (some g))/\wr.cell? ⟨w.heap.size,0,none⟩=some (.slice (some ⟨g,0,none⟩) K K)/\Hid (wr.rowIs g 145 K (fun i=>.int .u64 (addsN W (ts.take q) i)))) (fun u _=>n-(intOf u).toNat)
 case atStart=>exact⟨0,Nat.zero_le _,rfl,Xa (World.grownBy_alloc _ _ _),sP,Xa (hr.alloc _)⟩
 case round =>
  obtain⟨q,hq,rfl,HG,hs,HR⟩:=hrel;by_cases hlt:q<n
  ·have hqx:q<ts.length:=by have:=hx.out;omega
   obtain⟨b,o,rfl,hbB,e0w⟩:=ha.out q (by simpa using hqx);have e0:=(Xc (HG.block b oM (fun e=>by injection e with e;omega))).trans e0w;rw[List.getElem_map]at e0;have htq:=ht.out _ (List.getElem_mem hqx);have HT:=Xa (UY (W:=W) hqx);have HWA:=Xa (Zs (ts.take q) hW.out);clear e0w;generalize ts[q]=t at *;have h2:=Zhy t;have h3:=Zif t;have e0':wr.cell? ⟨b,o+q,none⟩=some (.int .i64 (t:Int)):=e0;clear e0;generalize addsN W (ts.take q)=W1 at *;have hd:t / 64<K:=oM;have hm:t % 64<64:=Nat.mod_lt _ dC;have ec:=HR.cell hd;have ez:=HR.frozen;have HOR:=Xa (Zb8 hm (HWA.out (t / 64)));have HAD:Hid (∀i,(if i=t / 64 then W1 (t / 64) ||| 2 ^ (t % 64)else W1 i)=addsN W (ts.take (q+1)) i):=Xa (fun i=>by
    rw[HT.out];unfold Y0;by_cases e:i=t / 64
    ·rw[if_pos e,if_pos e,e]
    ·rw[if_neg e,if_neg e])
   generalize hd2:t / 64=td at *;generalize hm2:t % 64=tm at *;go_wp2
   go_region
   go_wp2;rw[HOR.out];have kk:wr.grownBy (wr.setCell ⟨g,td,none⟩ (.int .u64 ((W1 td ||| 2 ^ tm:Nat):Int))).drew (some g):=⟨rfl,rfl,rfl,by simp[World.setCell,World.drew],fun k _ hk=>Below.heap_setCell _ _ _ _ (fun e=>hk (by rw[e]))⟩;refine⟨⟨q+1,oM,gM,Xa (HG.andThen kk (fun j hj=>by cases hj;exact Or.inr rfl)),?_,Xa ?_⟩,by simp[intOf];omega⟩
   ·exact(World.cell?_setCell_far wr ⟨g,td,none⟩ ⟨w.heap.size,0,none⟩ _ (by show g≠w.heap.size;omega)).trans hs
   ·refine World.rowIs.drew ((HR.set td _).congr (fun i _=>?_))
    rw[<-HAD.out i];by_cases e:i=td<;>simp[e]
  ·have hqn:q=n:=oM
   have HX:Hid (ts.take q=ts):=Xa (List.take_of_length_le (by have:=hx.out;omega));rw[HX.out]at HR;go_wp2
   go_end0
   exact⟨rfl,HG.out,HR.out⟩
end Go.Proofs.YtlmgmkmomaileaaGreatDoor
namespace Go.Proofs.YtlmgmkmomaileaaGreatDoor
open Go.RowKit
theorem Va(w:World)(b:Nat){o o':Nat}(h:o≠o')(v:Value):(w.setCell ⟨b,o,none⟩ v).cell? ⟨b,o',none⟩=w.cell? ⟨b,o',none⟩:=World.cell?_setCell_other _ _ _ _ (by intro e;injection e with _ e2;exact h e2)
theorem YG{P:Program}{t:Nat}{z:Value}{s b:Nat}(h:(P.info? t).map (fun i=>(i.zero,i.size,i.bytes))=some (some z,s,b)):∃i,P.info? t=some i/\i.zero=some z/\i.size=s/\i.bytes=b:=by
 cases hi:P.info? t with
 | none=>rw[hi]at h;cases h
 | some i =>
  rw[hi]at h;simp only[Option.map_some,Option.some.injEq,Prod.mk.injEq]at h;exact⟨i,rfl,h.1,h.2.1,h.2.2⟩
theorem K3{P:Program}{ops:Array Oper}{w:World}{o:Oper}{a:Act}{K:Act->World->Prop}{Q:Exit->Act->World->Prop}{E:Prop}(hgd:o.guard=none)(s x:Operand)(t:TypeId)
 (ho:o.op=.call { callee:=.builtin .append,args:=#[s,x],argTypes:=#[t,t] })
 (base:Nat) (e:TypeId) (i:TypeInfo) (z:Value) (size bytes:Nat) (ht:P.underlying t=some (.slice e)) (hi:P.info? e=some i) (hz:i.zero=some z)
 (hsize:i.size=size) (hby:i.bytes=bytes) (hzs:z.cells.size=size) (hsz:0<size)
 (v:Value) (n:Nat) (xs:List Value) (hs:a.eval s=v) (hown:w.ownsRow base e size v n xs)
 (ad:Addr) (m c:Nat) (news:List Value) (hx:a.eval x=.slice (some ad) m c) (hl:news.length=m*size) (hnews:∀j u,news[j]?=some u->w.cell? (ad.add j)=some u) (h1:∀u∈news,u.oneCell'=true)
 (h63:n+m<=maxLen) (hbytes:(n+m)*bytes<=140737488355328) (hbase:base<=w.heap.size)
 (h:∀v' w',w'.ownsRow base e size v' (n+m) (xs++news)->w.grownBy w' v.ownBlock->(v'=.slice none 0 0↔v=.slice none 0 0/\m=0)->(v'.ownBlock=v.ownBlock\/v'.ownBlock=some w.heap.size)->K (a.put o.dst v') w') :
 if Region.wanted o (yielded ops a.tmps)=true then Oper.wp P o a w K Q else E:=by
 have hw:Region.wanted o (yielded ops a.tmps)=true:=by simp[Region.wanted,hgd]
 rw[if_pos hw];obtain⟨v',w',hr,h2,h3,h4,h5⟩:=run_append_own_at (P:=P) w base t o.type e i z size bytes ht hi hz hsize hby hzs hsz v n xs hown ad m c news hl hnews h1 h63 hbytes hbase;unfold Oper.wp execOp;simp only[ho,resolve,invoke,builtin,Sem.run_bind,Sem.run_pure,Result.andThen_ok,List.map_toArray,List.map_cons,List.map_nil,hs,hx,hr];exact h v' w' h2 h3 h4 h5
theorem KS(w:World)(u:Value)(ty:Nat):∀j x,([u]:List Value)[j]?=some x->(w.alloc (.cells #[u] ty)).cell? ((⟨w.heap.size,0,none⟩:Addr).add j)=some x:=fun j x hj=>by
 have ha:(⟨w.heap.size,0,none⟩:Addr).add j=⟨w.heap.size,j,none⟩:=by unfold Addr.add;split<;>simp_all
 rw[ha]
 match j,hj with
 | 0,hj=>simpa using hj
 | j+1,hj=>cases hj
end Go.Proofs.YtlmgmkmomaileaaGreatDoor
namespace Go.Proofs.YtlmgmkmomaileaaGreatDoor
set_option maxHeartbeats 2000000
open Go.RowKit
def Jw(w:World)(L B:Nat)(a:Option Addr)(xs:List Mv):Prop:=∀i (h:i<xs.length),∃b o,a=some ⟨b,o,none⟩/\(L<=b/\b<B)/\w.cell? ⟨b,o+i*2,none⟩=some (.int .i64 xs[i].to)/\w.cell? ⟨b,o+i*2+1,none⟩=some (.int .i64 xs[i].frm)
theorem Jw.keepS{w w':World}{L B:Nat}{a:Option Addr}{xs:List Mv}(h:Jw w L B a xs)(k:Xv L B w w'):Jw w' L B a xs:=fun i hi=>by
 obtain⟨b,o,e,hb,h1,h2⟩:=h i hi;have q:=k b hb.1 hb.2;exact⟨b,o,e,hb,(Xc q).trans h1,(Xc q).trans h2⟩
theorem Jw.keep{w w':World}{L B:Nat}{a:Option Addr}{xs:List Mv}(h:Jw w L B a xs)(k:Below B w w'):Jw w' L B a xs:=h.keepS (Xv.of_below k)
theorem VR{xs:List Mv}{i:Nat}(h:i<xs.length):JY (xs.take i) (xs.drop i)=(Uc (xs.take i) xs[i]&&JY (xs.take (i+1)) (xs.drop (i+1))):=by
 rw[List.drop_eq_getElem_cons h,JY,List.take_add_one,List.getElem?_eq_getElem h];rfl
theorem Zam(a:Option Addr)(n c:Nat)(xs:List Mv)(L B:Nat)(w:World)(ha:Hid (Jw w L B a xs))(hx:Hid (n=xs.length))(hn:n<=1048576)(hB:B<=w.heap.size) :
 Calls Tryz.prog 62 #[.slice a n c] w fun e w'=>e=.returned (.bool (Yy xs))/\Below w.heap.size w w':=by
 by_cases hbig:64<n
 ·have HG:Hid (Yy xs=false):=Xa (by unfold Yy;have:=hx.out;simp;intro h;omega)
  go_enter Tryz.func62,Tryz.ntmps62
  go_wp2
  go_ret
  exact⟨by rw[HG.out];rfl,Below.refl _ _⟩
 have HG:Hid (Yy xs=JY [] xs):=Xa (by unfold Yy;have:=hx.out;simp;omega)
 go_enter Tryz.func62,Tryz.ntmps62
 go_wp2
 go_loopw [3] (fun i wr=>∃j:Nat,j<=n/\i=.int .i64 j/\Hid (Below w.heap.size w wr)/\Hid (Yy xs=JY (xs.take j) (xs.drop j))) (fun i _=>n-(intOf i).toNat)
 case atStart=>exact⟨0,Nat.zero_le _,rfl,Xa (Below.refl _ _),Xa (by rw[HG.out];rfl)⟩
 case round =>
  obtain⟨j,hj,rfl,HB,HJ⟩:=hrel;by_cases hlt:j<n
  ·have hjx:j<xs.length:=by have:=hx.out;omega
   obtain⟨b,o,rfl,hbB,e0w,e1w⟩:=ha.out j hjx;have e0:=(Xu HB.out oM).trans e0w;have e1:=(Xu HB.out oM).trans e1w;have HST:=Xa (VR hjx);have HAT:Hid (Uc (xs.take j) xs[j]=(decide (0<=xs[j].to/\xs[j].to<64/\0<=xs[j].frm/\xs[j].frm<64) && !(xs.take j).any (fun q=>q.to==xs[j].to))):=Xa rfl;have HALL:Hid (∀q,q<j->∃hq:q<xs.length,w.cell? ⟨b,o+q*2,none⟩=some (.int .i64 xs[q].to)):=Xa (fun q hq=>by
    have hq':q<xs.length:=oM;obtain⟨b',o',e,_,h1,_⟩:=ha.out q hq';cases e;exact⟨hq',h1⟩)
   have HW0:=Xa e0w;clear e0w e1w;generalize hm:xs[j]=m at *;obtain⟨t,f⟩:=m;dsimp only at *;clear hm;by_cases hr:0<=t/\t<64/\0<=f/\f<64
   ·obtain⟨r1,r2,r3,r4⟩:=hr
    go_wp2
    go_loopw [4] (fun u wr'=>∃q:Nat,q<=j/\u=.int .i64 q/\Hid (Below w.heap.size w wr')/\Hid (∀p (_:p<xs.length),p<q->xs[p].to≠t)) (fun u _=>j-(intOf u).toNat)
    case atStart=>exact⟨0,Nat.zero_le _,rfl,HB,Xa (fun p _ hp=>absurd hp oM)⟩
    case round =>
     obtain⟨q,hq,rfl,HB2,HQ⟩:=hrel;have f0:=(Xu HB2.out oM).trans HW0.out;by_cases hqj:q<j
     ·obtain⟨hqx,eqw⟩:=HALL.out q hqj
      have eq:=(Xu HB2.out oM).trans eqw;clear eqw;by_cases he:xs[q].to=t
      ·have HF:Hid (Yy xs=false):=Xa (by
        rw[HJ.out,HST.out,HAT.out];have:(xs.take j).any (fun z=>z.to==t)=true:=List.any_eq_true.2 ⟨xs[q],List.mem_take_iff_getElem.2 ⟨q,oM,rfl⟩,by simp[he]⟩;rw[this];simp)
       rw[he]at eq;go_wp2
       go_region
       go_wp2
       go_ret
       exact⟨by rw[HF.out];rfl,HB2.drew⟩
      ·have HNQ:=Xa he
       generalize hu:xs[q].to=u at *;have HU:=Xa hu;clear hu;go_wp2
       go_region
       go_wp2;exact⟨⟨q+1,oM,gM,Xa HB2.drew,Xa (fun p hp hpq=>by
        by_cases e:p=q
        ·subst e;rw[HU.out];exact HNQ.out
        ·exact HQ.out p hp oM)⟩,by simp[intOf];omega⟩
     ·have hqe:q=j:=oM
      subst hqe;have HN:Hid (Yy xs=JY (xs.take (q+1)) (xs.drop (q+1))):=Xa (by
       rw[HJ.out,HST.out,HAT.out];have h1:(xs.take q).any (fun z=>z.to==t)=false:=List.any_eq_false.2 (fun z hz=>by
        obtain⟨p,hp,rfl⟩:=List.mem_take_iff_getElem.1 hz;have:=HQ.out p oM oM;simpa using this)
       rw[h1];simp[r1,r2,r3,r4])
      go_wp2;exact⟨⟨q+1,oM,gM,HB2,HN⟩,by simp[intOf];omega⟩
   ·have HF:Hid (Yy xs=false):=Xa (by
     rw[HJ.out,HST.out,HAT.out];simp[hr])
    have hc:t<0\/(0<=t/\64<=t)\/(0<=t/\t<64/\f<0)\/(0<=t/\t<64/\0<=f/\64<=f):=oM;clear hr;rcases hc with h | ⟨h,hA⟩ | ⟨h,hA,hC⟩ | ⟨h,hA,hC,hD⟩ <;>
     (go_wp2;go_ret;exact⟨by rw[HF.out];rfl,HB.out⟩)
  ·have hjn:j=n:=oM
   subst hjn;have HF:Hid (Yy xs=true):=Xa (by
    rw[HJ.out,List.drop_eq_nil_of_le (by have:=hx.out;omega)];rfl)
   go_wp2
   go_ret
   exact⟨by rw[HF.out];rfl,HB.out⟩
theorem ZbM(a:Option Addr)(n c i:Nat)(r:Int)(xs:List Mv)(L B:Nat)(w:World)(ha:Hid (Jw w L B a xs))(hx:Hid (n=xs.length))(hn:n<=1048576)(hi:i<n)(hne:Hid (∀q (_:q<xs.length),q=i->xs[q].frm≠r)) :
 Calls Tryz.prog 94 #[.slice a n c,.int .i64 i,.int .i64 r] w fun e w'=>e=.returned (.bool (X7 xs r))/\w'=w:=by
 go_enter Tryz.func94,Tryz.ntmps94
 go_wp2
 go_loopw [7] (fun u wr=>∃j:Nat,j<=n/\u=.int .i64 j/\wr=w/\Hid (∀p (_:p<xs.length),p<j->xs[p].frm≠r)) (fun u _=>n-(intOf u).toNat)
 case atStart=>exact⟨0,Nat.zero_le _,rfl,rfl,Xa (fun p _ hp=>absurd hp oM)⟩
 case round =>
  obtain⟨j,hj,rfl,rfl,HJ⟩:=hrel;by_cases hlt:j<n
  ·have hjx:j<xs.length:=by have:=hx.out;omega
   obtain⟨b,o,rfl,hbB,e0,e1⟩:=ha.out j hjx;have HNX:Hid (xs[j].frm≠r->∀p (_:p<xs.length),p<j+1->xs[p].frm≠r):=Xa (fun h p hp hpj=>by
    by_cases e:p=j
    ·subst e;exact h
    ·exact HJ.out p hp oM)
   have HYES:Hid (xs[j].frm=r->X7 xs r=true):=Xa (fun h=>WK.2 ⟨xs[j],List.getElem_mem hjx,h⟩);have HNE:=Xa (hne.out j hjx);generalize xs[j].frm=f at *;by_cases hji:j=i
   ·have hf:=HNE.out hji
    subst hji;go_wp2;exact⟨⟨j+1,oM,gM,(by first | rfl | trivial),Xa (HNX.out hf)⟩,by simp[intOf];omega⟩
   ·have hji':¬((j:Int)=(i:Int)):=oM
    by_cases hf:f=r
    ·have HR:=Xa (HYES.out hf)
     subst hf;go_wp2
     go_ret
     exact⟨by rw[HR.out];rfl,rfl⟩
    ·have hfb:(f==r)=false:=by simpa using hf
     have HF2:=Xa (HNX.out hf);clear hf;go_wp2;exact⟨⟨j+1,oM,gM,(by first | rfl | trivial),HF2⟩,by simp[intOf];omega⟩
  ·have hjn:j=n:=oM
   subst hjn;have HF:Hid (X7 xs r=false):=Xa (by
    cases hb:X7 xs r with
    | false=>rfl
    | true =>
     obtain⟨m,hm,e⟩:=WK.1 hb;obtain⟨p,hp,rfl⟩:=List.getElem_of_mem hm;exact absurd e (HJ.out p hp (by have:=hx.out;omega)))
   go_wp2
   go_ret
   exact⟨by rw[HF.out];rfl,rfl⟩
end Go.Proofs.YtlmgmkmomaileaaGreatDoor
namespace Go.Proofs.YtlmgmkmomaileaaGreatDoor
set_option maxHeartbeats 2000000
set_option maxRecDepth 100000
open Go.RowKit
def Tz(xs:List Mv):List Value:=xs.flatMap fun m=>[.int .i64 m.to,.int .i64 m.frm]
theorem Zcu(m:Mv)(xs:List Mv):Tz (m::xs)=[.int .i64 m.to,.int .i64 m.frm]++Tz xs:=rfl
theorem Tj(xs ys:List Mv):Tz (xs++ys)=Tz xs++Tz ys:=by simp[Tz]
theorem ZeN:∀xs:List Mv,(Tz xs).length=xs.length*2
 | []=>rfl
 | m::xs=>by rw[Zcu,List.length_append,ZeN xs];simp;omega
theorem ZdK:∀(xs:List Mv)(i:Nat)(h:i<xs.length),(Tz xs)[i*2]?=some (.int .i64 xs[i].to)/\(Tz xs)[i*2+1]?=some (.int .i64 xs[i].frm)
 | [],i,h=>absurd h sP
 | m::xs,0,_=>⟨rfl,rfl⟩
 | m::xs,i+1,h=>by
  have:=ZdK xs i (by simpa using h);rw[Zcu];rw[show(i+1)*2=i*2+1+1 by omega];simpa using this
theorem Zo(g j:Nat):(⟨g,0,none⟩:Addr).add j=⟨g,j,none⟩:=by unfold Addr.add;split<;>simp_all
theorem XZ{w:World}{base e s g n c:Nat}{cs:List Value}(h:w.ownsRow base e s (.slice (some ⟨g,0,none⟩) n c) n cs){j:Nat}{u:Value}(hj:cs[j]?=some u):w.cell? ⟨g,j,none⟩=some u:=by
 have:=h.cells (g:=g) rfl j u hj;rw[Zo]at this;exact this
theorem Zg1{w:World}{base e s g n c:Nat}{cs:List Value}(h:w.ownsRow base e s (.slice (some ⟨g,0,none⟩) n c) n cs)(o:Nat):w.frozen? ⟨g,o,none⟩=false:=by
 rcases h.2 with⟨e2,_⟩ | ⟨g',cap,cur,e2,_,hh,_⟩
 ·cases e2
 ·injection e2 with e3
  injection e3 with e3;injection e3 with e4;subst e4;simp[World.frozen?,hh]
theorem XU{w:World}{base e s n:Nat}{v:Value}{cs:List Value}(h:w.ownsRow base e s v n cs):(v=.slice none 0 0/\n=0/\cs=[])\/∃g c,v=.slice (some ⟨g,0,none⟩) n c/\(base<=g/\g<w.heap.size)/\n<=c:=by
 rcases h.2 with⟨e1,e2⟩ | ⟨g,cap,cur,e1,hb,hh,hc,_⟩
 ·refine Or.inl ⟨e1,e2,List.eq_nil_of_length_eq_zero ?_⟩
  rw[h.1,e2,Nat.zero_mul]
 ·exact Or.inr ⟨g,cap,e1,⟨hb,(Array.getElem?_eq_some_iff.1 hh).1⟩,hc⟩
theorem Z0{w:World}{base e:Nat}{v:Value}{n:Nat}{xs:List Mv}(h:w.ownsRow base e 2 v n (Tz xs)):∃a c,v=.slice a xs.length c/\n=xs.length/\xs.length<=c/\Jw w base w.heap.size a xs:=by
 have hl:=h.1;rw[ZeN]at hl;have hn:n=xs.length:=oM;subst hn;rcases XU h with⟨rfl,h0,_⟩ | ⟨g,c,rfl,hg,hc⟩
 ·have:xs=[]:=List.eq_nil_of_length_eq_zero h0
  subst this;exact⟨none,0,rfl,rfl,Nat.le_refl _,fun i hi=>absurd hi sP⟩
 ·refine⟨_,c,rfl,rfl,hc,fun i hi=>⟨g,0,rfl,hg,?_,?_⟩⟩
  ·rw[Nat.zero_add];exact XZ h (ZdK xs i hi).1
  ·rw[Nat.zero_add];exact XZ h (ZdK xs i hi).2
theorem Tryz.infoMv:(Tryz.prog.info? 85).map (fun i=>(i.zero,i.size,i.bytes))=some (some (.agg #[.int .i64 0,.int .i64 0]),2,16):=vZ
theorem Zbc(w:World):(w.alloc (.cells #[] 85)).ownsRow w.heap.size 85 2 (.slice (some ⟨w.heap.size,0,none⟩) 0 0) 0 (Tz []):=by
 have:=World.ownsRow_lit (base:=w.heap.size) (e:=85) (size:=2) w #[] 0 sP sP rfl;simpa [Tz]using this
theorem Tg(w:World)(t f:Int)(ty:Nat):∀j u,([.int .i64 t,.int .i64 f]:List Value)[j]?=some u->(w.alloc (.cells #[.int .i64 t,.int .i64 f] ty)).cell? ((⟨w.heap.size,0,none⟩:Addr).add j)=some u:=fun j u hj=>by
 rw[Zo]
 match j,hj with
 | 0,hj=>simpa using hj
 | 1,hj=>simpa using hj
 | j+2,hj=>cases hj
theorem Zaw(a:Option Addr)(n c i:Nat)(xs:List Mv)(L B:Nat)(w:World)(ha:Hid (Jw w L B a xs))(hx:Hid (n=xs.length))(hn:n<=64)(hi:i<n)(hB:B<=w.heap.size) :
 Calls Tryz.prog 95 #[.slice a n c,.int .i64 i] w fun e w'=>∃v,e=.returned v/\Below w.heap.size w w'/\w'.ownsRow w.heap.size 85 2 v (xs.eraseIdx i).length (Tz (xs.eraseIdx i)):=by
 obtain⟨i0,hi0,hz0,hz1,hz2⟩:=info_parts Tryz.infoMv
 go_enter Tryz.func95,Tryz.ntmps95
 go_wp2
 go_loopw [5,6] (fun v u wr=>∃j:Nat,j<=n/\u=.int .i64 j/\Hid (Below w.heap.size w wr)/\Hid (wr.ownsRow w.heap.size 85 2 v ((xs.take j).eraseIdx i).length (Tz ((xs.take j).eraseIdx i)))) (fun _ u _=>n-(intOf u).toNat)
 case atStart=>exact⟨0,Nat.zero_le _,rfl,Xa (Xb (Below.refl _ _) _),Xa (by rw[List.take_zero];exact Zbc w)⟩
 case round =>
  obtain⟨j,hj,rfl,HB,HO⟩:=hrel;have hwz:=HB.size;by_cases hlt:j<n
  ·have hjx:j<xs.length:=by have:=hx.out;omega
   obtain⟨b,o,rfl,hbB,e0w,e1w⟩:=ha.out j hjx;have e0:=(Xu HB.out oM).trans e0w;have e1:=(Xu HB.out oM).trans e1w;clear e0w e1w;have HT:Hid (xs.take (j+1)=xs.take j++[xs[j]]):=Xa (List.take_succ_eq_append_getElem hjx);have HL:Hid (((xs.take j).eraseIdx i).length<=64):=Xa (Nat.le_trans (List.length_eraseIdx_le _ _) (by simp;omega));by_cases hji:j=i
   ·have HE:Hid ((xs.take (j+1)).eraseIdx i=(xs.take j).eraseIdx i):=Xa (by
     rw[HT.out,List.eraseIdx_append_of_length_le (by simp;omega),List.eraseIdx_of_length_le (l:=xs.take j) (by simp;omega)];have:i-(xs.take j).length=0:=by simp;omega
     rw[this];simp)
    subst hji;clear e0 e1;go_wp2;exact⟨⟨j+1,oM,gM,HB,Xa (by rw[HE.out];exact HO.out)⟩,by simp[intOf];omega⟩
   ·have hji':¬((j:Int)=(i:Int)):=oM
    have HE:Hid ((xs.take (j+1)).eraseIdx i=(xs.take j).eraseIdx i++[xs[j]]):=Xa (by
     rw[HT.out];by_cases hjl:i<j
     ·rw[List.eraseIdx_append_of_lt_length (by simp;omega)]
     ·rw[List.eraseIdx_append_of_length_le (by simp;omega),List.eraseIdx_of_length_le (l:=xs.take j) (by simp;omega)]
      rw[List.eraseIdx_of_length_le (by simp;omega)])
    generalize hm:xs[j]=m at *;obtain⟨t,f⟩:=m;dsimp only at *;clear hm HT;generalize (xs.take j).eraseIdx i=ys at *
    go_wp2_with (at_builtin;refine wpList_append_own_at _ rfl _ _ 81 rfl w.heap.size 85 i0 (.agg #[.int .i64 0,.int .i64 0]) 2 16 Tryz.underlying81 hi0 hz0 hz1 hz2 rfl dC _ _ _ rfl (HO.alloc _) ⟨wr.heap.size,0,none⟩ 1 1 [.int .i64 t,.int .i64 f] rfl rfl ?c1 ?c2 ?c3 ?c4 ?c5 ?_)
    case c1=>exact Tg _ _ _ _
    case c2=>intro u hu;simp at hu;rcases hu with rfl | rfl<;>rfl
    case c3=>have:=HL.out;unfold maxLen;omega
    case c4=>have:=HL.out;omega
    case c5=>simp;omega
    intro v1 w1 hown1 hgrow1 hne1 hat1;have HO1:Hid (w1.ownsRow w.heap.size 85 2 v1 ((xs.take (j+1)).eraseIdx i).length (Tz ((xs.take (j+1)).eraseIdx i))):=Xa (by
     rw[HE.out,Tj,List.length_append];exact hown1)
    have HB1:Hid (Below w.heap.size w w1):=Xa (Xr ((HB.out).alloc oM _) hgrow1 (HO.alloc _) (Nat.le_refl _) (by simp;omega));clear hown1 hgrow1 hne1 hat1 HO HB HE;go_wp2;exact⟨⟨j+1,oM,gM,HB1,HO1⟩,by simp[intOf];omega⟩
  ·have hjn:j=n:=oM
   have HO2:Hid (wr.ownsRow w.heap.size 85 2 u5 (xs.eraseIdx i).length (Tz (xs.eraseIdx i))):=Xa (by have:=HO.out;rwa[List.take_of_length_le (by have:=hx.out;omega)]at this);clear HO;go_wp2
   go_ret
   exact⟨_,rfl,HB.out,HO2.out⟩
end Go.Proofs.YtlmgmkmomaileaaGreatDoor
namespace Go.Proofs.YtlmgmkmomaileaaGreatDoor
open Go.RowKit
theorem Zf3{w w':World}{B t sz b n:Nat}{v:Value}{cs:List Value}(h:w.ownsRow B t sz v n cs)(hg:w.grownBy w' (some b))(hb:b<B):w'.ownsRow B t sz v n cs :=
 h.kept hg (by
  cases e:v.ownBlock with
  | none=>exact Or.inl rfl
  | some k=>exact Or.inr (fun e2=>by cases e2;have:=(h.lt _ e).1;omega))
theorem Zjw{w w1:World}{B t s g:Nat}{n c:Nat}{xs:List Value}(h:w.ownsRow B t s (.slice (some ⟨g,0,none⟩) n c) n xs)(k:w1.heap[g]?=w.heap[g]?):w1.ownsRow B t s (.slice (some ⟨g,0,none⟩) n c) n xs:=by
 obtain⟨hl,h | ⟨g',cap,cur,e,hg,hh,hc⟩⟩:=h
 ·exact⟨hl,Or.inl h⟩
 ·cases e
  exact⟨hl,Or.inr ⟨g,c,cur,rfl,hg,k.trans hh,hc⟩⟩
theorem Zbp{w:World}{B t sz g n c k:Nat}{cs:List Value}(h:w.ownsRow B t sz (.slice (some ⟨g,0,none⟩) n c) n cs)(u:Value):(w.setCell ⟨g,k,none⟩ u).ownsRow B t sz (.slice (some ⟨g,0,none⟩) n c) n (cs.set k u):=by
 obtain⟨hl,h0 | ⟨g',cap,cur,e,hg,hh,hc,hm,hs,ht⟩⟩:=h
 ·cases h0.1
 ·cases e
  refine⟨by rw[List.length_set];exact hl,Or.inr ⟨g,c,cur.setIfInBounds k u,rfl,hg,?_,hc,hm,by rw[Array.size_setIfInBounds];exact hs,?_⟩⟩
  ·exact heap_setCell_same w g k cur t u hh
  ·rw[Array.toList_setIfInBounds,List.take_set,ht]
theorem XC{w:World}{base e s n:Nat}{v:Value}{cs:List Value}(h:w.ownsRow base e s v n cs)(hn:0<n):∃g c,v=.slice (some ⟨g,0,none⟩) n c/\(base<=g/\g<w.heap.size)/\n<=c:=by
 rcases XU h with⟨_,e,_⟩ | h
 ·omega
 ·exact h
theorem ZhV{x:Int}(h:0<=x):∃m:Nat,x=m:=⟨x.toNat,oM⟩
end Go.Proofs.YtlmgmkmomaileaaGreatDoor
