import Derived.Test.YtghnlncgiihhgaaGreatDoorZM1
namespace Go.Proofs.YtghnlncgiihhgaaGreatDoor
set_option maxHeartbeats 4000000
set_option maxRecDepth 100000
open Go.RowKit Go.Proofs.Tryz Go.Shelf
variable{l L:List Int}{s:List Nat}{y:List Value}{n m k B g i j:Nat}{f:Nat->Nat}{d:Nat->Prop}{a A:Value}{w v u:World}
theorem Tryz.infoU64colorNo:(prog.info? 114).map (fun i=>(i.zero,i.size,i.bytes))=some (some (.int .u64 0),1,8):=vZ
theorem rG(a:Nat)(w:World)(i:a<=60000):Calls prog 61 #[.int .i64 a] w fun e b=>∃g,e=.returned (.agg #[.slice (some ⟨g,0,none⟩) ((a+63) / 64) ((a+63) / 64)])/\w.heap.size<=g/\Below w.heap.size w b/\b.rowIs g 114 ((a+63) / 64) (fun _=>.int .u64 ((0:Nat):Int)):=by
 have f:=fM (P:=prog) 43 114 (.int .u64 0) 8 underlying43 Tryz.infoU64colorNo rfl .i64 .i64 ((a+63) / 64) oM oM;have hq:((a:Int)+63).tdiv 64=(((a+63) / 64:Nat):Int):=by rw[fY oM];omega
 have h:((a:Int)+64-1)=(a:Int)+63:=oM;have hK:(a+63) / 64<=1000:=oM;generalize (a+63) / 64=K at *
 go_in
 go_wp2;refine cC (v:=.agg #[.slice (some ⟨w.heap.size+1,0,none⟩) K K]) (by simp[results,results61,go_sem]) rfl ?_;refine⟨w.heap.size+1,rfl,oM,Xb (Xb (Below.refl _ _) _) _,?_⟩;have c:=fun d=>by
  have:=dG (w.alloc d) (.int .u64 0) K 114;rwa[aO]at this
 exact c _
theorem sF(g K C n D:Nat)(W:Nat->Nat)(l:Option Addr)(a:List Nat)(L B:Nat)(w:World)(ha:Hid (Xf w L B l (a.map Int.ofNat)))(r:Hid (n=a.length))(hn:n<=4000)(J:Hid (∀t∈a,t<64*K))(hK:K<=1000)(E:Hid (XA W))(p:Hid (WsAt w g K C W))(U:B<=w.heap.size)(Z:¬(L<=g/\g<B)) :
 Calls prog 63 #[.agg #[.slice (some ⟨g,0,none⟩) K C],.slice l n D] w fun e s=>e=.returned (.tuple #[])/\w.grownBy s (some g)/\WsAt s g K C (addsN W a):=by
 go_in
 go_wp2;have Y:=p.lt
 go_loopw [8] (fun u wr=>∃q:Nat,q<=n/\u=.int .i64 q/\Hid (w.grownBy wr (some g))/\wr.cell? ⟨w.heap.size,0,none⟩=some (.slice (some ⟨g,0,none⟩) K C)/\Hid (WsAt wr g K C (addsN W (a.take q)))) (fun u _=>n-(intOf u).toNat)
 case atStart=>exact⟨0,aN _,rfl,Xa (bW _ _ _),sP,Xa (p.alloc _)⟩
 case round =>
  obtain⟨q,hq,rfl,f,I,c⟩:=hrel;by_cases aa:q<n
  ·have k:q<a.length:=oN r.out
   obtain⟨b,N,rfl,V,m⟩:=ha q (by simpa using k);have j:=(Xc (f.block b oM (fun e=>by injection e with e;omega))).trans m;rw[cM]at j;have ad:=J _ (aH k);have y:=Xa (VW (W:=W) k);have z:=Xa (Zs (a.take q) E);clear m;generalize a[q]=t at *;have S:=dp t;have T:=dh t;have P:Cl wr b (N+q) (.int .i64 (t:Int)):=j;clear j;generalize addsN W (a.take q)=h at *;have o:t / 64<K:=oM;have H:t % 64<64:=dS _ vY;have Q:=c.cell o;have R:=c.frozen;have x:=Xa (je H (z (t / 64)));have v:Hid (∀i,(if i=t / 64 then h (t / 64) ||| 2 ^ (t % 64)else h i)=addsN W (a.take (q+1)) i):=Xa (fun i=>by
    rw[y.out];unfold YH;by_cases e:i=t / 64
    ·rw[aU e,aU e,e]
    ·rw[aM e,aM e])
   generalize X:t / 64=d at *;generalize ab:t % 64=O at *;go_wp2
   go_region
   go_wp2;rw[x.out];have M:wr.grownBy (wr.setCell ⟨g,d,none⟩ (.int .u64 ((h d ||| 2 ^ O:Nat):Int))).drew (some g):=⟨rfl,rfl,rfl,by simp[World.setCell,World.drew],fun aj _ G=>Below.heap_setCell _ _ _ _ (fun e=>G (by rw[e]))⟩;refine⟨⟨q+1,oM,gM,Xa (f.andThen M (fun af F=>by cases F;exact aZ rfl)),?_,Xa ?_⟩,by simp[intOf];omega⟩
   ·exact(bH wr ⟨g,d,none⟩ ⟨w.heap.size,0,none⟩ _ (by show g≠w.heap.size;omega)).trans I
   ·refine WsAt.drew ((c.set d _ o).congr (fun i _=>?_))
    rw[<-v.out i]
  ·have ac:q=n:=oM
   have A:Hid (a.take q=a):=Xa (aW (oN r.out));rw[A.out]at c;go_wp2
   go_end0
   exact⟨rfl,f,c⟩
theorem rW(g K C:Nat)(W:Nat->Nat)(w:World)(j:Hid (XA W))(d:Hid (WsAt w g K C W))(hK:K<=1000) :
 Calls prog 28 #[.agg #[.slice (some ⟨g,0,none⟩) K C]] w fun e p=>e=.returned (.int .i64 (cntN W K:Nat))/\Below w.heap.size w p:=by
 have l:=d.lt
 go_in
 go_wp2
 go_loopw [3,9] (fun u i wr=>∃k:Nat,k<=K/\i=.int .i64 k/\u=.int .i64 (cntN W k:Nat)/\Hid (Below w.heap.size w wr)) (fun _ i _=>K-(intOf i).toNat)
 case atStart=>exact⟨0,aN _,rfl,rfl,Xa (Xb (Below.refl _ _) _)⟩
 case round =>
  obtain⟨k,s,rfl,rfl,a⟩:=hrel;by_cases n:k<K
  ·have r:=oB a (d.cell n) l
   have o:=j k;have b:=Xa (o7 W k);have t:=TB W k;have m:=TB W (k+1);rw[b.out]at m;generalize cntN W k=c0 at *;generalize W k=c at *;have h:=Xa (oC c wr o);generalize onesN 8 c=v at *
   go_wp2_with (go_at_call 60;refine h.mono ?_;rintro e q ⟨rfl,f⟩;rw[f];clear f q)
   exact⟨⟨k+1,oM,gM,by rw[b.out];go_num,a⟩,by simp[intOf];omega⟩
  ·have e:k=K:=oM
   subst e;go_wp2
   go_ret
   exact⟨rfl,a⟩
theorem sJ(g K x:Nat)(W:Nat->Nat)(w:World)(d:Hid (XA W))(b:Hid (w.rowIs g 114 K (fun i=>.int .u64 (W i))))(s:x<64*K)(hK:K<=1000):Calls prog 38 #[.agg #[.slice (some ⟨g,0,none⟩) K K],.int .i64 x] w fun e h=>e=.returned (.bool (Xh W x))/\Below w.heap.size w h:=by
 have l:=dp x;have m:=dh x;have hq:x / 64<K:=oM;have q:x % 64<64:=dS _ vY;have a:=b.cell hq;have f:=b.lt;have n:=fun o=>oB (Xb (Below.refl w.heap.size w) o) a f
 have c:Hid ((bits .and .u64 ((W (x / 64):Int) / 2 ^ (x % 64)) 1==1)=Xh W x):=Xa (oJ (d _));clear a;generalize p:x / 64=j at *;generalize r:x % 64=t at *;generalize W j=k at *
 go_in
 go_wp2
 go_ret
 exact⟨nK c,Xb (Below.refl _ _) _⟩
section
attribute [local go_sem] Oper.semAt_some
theorem WN:m∈lsN f n↔m<n/\Xh f m=true:=by
 unfold lsN;rw[fG,bE]
theorem xH{p q:Nat}(h:p<=q)(a:n∈lsN f p):n∈lsN f q:=by
 have:=WN.1 a;exact WN.2 ⟨oM,this.2⟩
theorem yi(l i b C:Nat)(W:Nat->Nat)(g:Nat->Prop)(w:World)(K:w.cell? ⟨l,0,none⟩=some (.slice (some ⟨i,0,none⟩) b C))(F:Hid (WsAt w i b C W))(L:Hid (XA W))(A:Hid (Jn w))(hK:b<=100)(Z:Hid (¬g i))(aa:Hid (¬g 2)) :
 gn Fence.wide 7 prog 101 #[.pointer (some ⟨l,0,none⟩)] (fun x:Nat=>#[.int .i64 (x:Int)]) (fun x _=>x∈lsN W (64*b)) (Zf w.heap.size g) (fun xs=>xs=lsN W (64*b)) (lsN W (64*b)).length w:=by
 intro a1 J s m hl u B f;have r:=Xa B;have HJ:=Xa u;have P:=Xa f;clear B u f;have Y:l<w.heap.size:=aI w _ K;have ax:=oB m K Y;have Q:=Xa (F.of_block (m.block i F.lt));have ab:(2 : Nat)<w.heap.size:=aI w _ (A 0 vY);have V:=Xa (A.of_block (m.block _ ab));refine iD func101 rfl trivial ?_ rfl;simp only[ntmps101,xY,Nat.reduceAdd,Nat.reduceSub]
 gi_wp2
 gi_loopw [8] (fun o wr=>∃k:Nat,k<=b/\o=.int .i64 k/\Hid (J (lsN W (64*k)) wr)/\Zf w.heap.size g s wr) (fun o _=>b-(intOf o).toNat)
 case atStart=>exact⟨0,aN _,rfl,Xa (by rw[Nat.mul_zero];exact P),Zf.refl _⟩
 case round =>
  obtain⟨k,hk,rfl,d,n⟩:=hrel;by_cases ad:k<b
  ·have D:=n.cell (Q.cell ad) Z
   have c:=Xa (am.start L k);have aj:=L k;generalize al:W k=yk at D c aj;clear al;generalize wr=wo at *;have ar:IntKind.i64.wrap ((k:Int)*64)=(k:Int)*64:=by rw[dF];omega
   have e:=Xa n;clear n
   gi_wp2
   clear D
   gi_loopw [4] (fun y wr=>∃a p:Nat,y=.int .u64 a/\Hid (am W k p a)/\Hid (J (lsN W (64*k+p)) wr)/\Hid (Zf w.heap.size g s wr)) (fun y _=>(intOf y).toNat)
   case atStart=>exact⟨yk,0,rfl,c,d,e⟩
   case round =>
    clear c d e;obtain⟨a,p,rfl,c,d,e⟩:=hrel;have N:=c.lt;by_cases f:a=0
    ·subst f
     gi_wp2
     exact⟨⟨k+1,oM,gM,Xa (by rw[c.done];exact d),e⟩,by simp[intOf];omega⟩
    ·obtain⟨O,j,n3,n4⟩:=c.next f
     have T:=Xa O;have U:=Xa j;have a0:((a:Int)==0)=false:=by simp;omega
     have ay:IntKind.u64.wrap ((a:Int)-1)=((a-1:Nat):Int):=by rw[iV];omega
     have az:=bits_and_u64_nat a (a-1) N oM;have q:=Xa (AL a N f wr (Xa (V.of_block (e.low _ oM aa))));have H:(lsN W (64*k+p)).length<(lsN W (64*b)).length:=by
      have t:=fI List.length j;have h2:=A6 (W:=W) (p:=64*k+(Lib.ctz 64 a+1)) (q:=64*b) oM;rw[aQ]at t;simp at t;omega
     have I:64*k+Lib.ctz 64 a∈lsN W (64*b):=xH (q:=64*b) (p:=64*k+(Lib.ctz 64 a+1)) oM (by rw[j];simp);obtain⟨fn,tmps,ap,bo,M,z⟩:=r _ (64*k+Lib.ctz 64 a) wr d I H;generalize Lib.ctz 64 a=h at *;generalize a &&& (a-1)=yn at *;have aq:IntKind.i64.wrap ((k:Int)*64+(h:Int))=(k:Int)*64+(h:Int):=by rw[dF];omega
     have E:(((64*k+h:Nat)):Int)=(k:Int)*64+(h:Int):=oM;rw[E]at M;clear O j E H I
     gi_wp2
     refine⟨trivial,(bM.2 q).mono ?_⟩;rintro X w1 ⟨rfl,af⟩;subst af
     gi_wp2
     refine z.mono ?_;rintro X W3 ⟨rfl,v,G,_⟩;have R:=Xa v;have S:=Xa (e.trans G);clear v G z M q r
     gi_wp2
     exact⟨⟨yn,h+1,rfl,T,Xa (by rw[U.out];exact R),S⟩,by simp[intOf];omega⟩
  ·have ac:k=b:=oM
   gi_wp2
   go_end0
   exact⟨⟨_,rfl⟩,_,rfl,by rw[<-ac];exact d⟩
end
section
attribute [local go_sem] Oper.semAt_some
structure CoI(w6:World)(gT Kr:Nat)(R:Nat->Prop)(U:World):Prop where
 os:U.os=w6.os
 tape:U.tape=w6.tape
 output:U.output=w6.output
 size:w6.heap.size<=U.heap.size
 gl:gT<w6.heap.size
 fr:∀q,q<w6.heap.size->q≠gT->U.heap[q]?=w6.heap[q]?
 st:∃T:Nat->Nat,WsAt U gT Kr Kr T/\XA T/\∀c,c<64*Kr->(Xh T c=true↔R c)
section
variable {w6 U U' : World} {gT Kr : Nat} {R R' : Nat -> Prop}
theorem CoI.far(h:CoI w6 gT Kr R U)(k:Below w6.heap.size U U'):CoI w6 gT Kr R U':=by
 obtain⟨T,a,b⟩:=h.st;exact⟨k.os.trans h.os,k.tape.trans h.tape,k.output.trans h.output,aJ h.size k.size,h.gl,fun q q1 q2=>(k.block q q1).trans (h.fr q q1 q2),T,a.of_block (k.block _ h.gl),b⟩
theorem CoI.congr(h:CoI w6 gT Kr R U)(e:∀c,c<64*Kr->(R c↔R' c)):CoI w6 gT Kr R' U:=by
 obtain⟨T,b,d,f⟩:=h.st;exact⟨h.os,h.tape,h.output,h.size,h.gl,h.fr,T,b,d,fun c a=>(f c a).trans (e c a)⟩
theorem CoI.own(w6:World)(gT Kr:Nat){a:Type}(R:a->Nat->Prop):OwnFrom w6.heap.size (fun s U=>CoI w6 gT Kr (R s) U):=fun s A U row h k q=>by
 have:=h.size;exact h.far ⟨k.os,k.tape,k.output,k.size,fun b c=>k.block b oM (fun e=>by have:=(q b e.symm).1;omega)⟩
theorem CoI.cell(h:CoI w6 gT Kr R U){b o:Nat}{v:Value}(c:b≠gT)(a:w6.cell? ⟨b,o,none⟩=some v):U.cell? ⟨b,o,none⟩=some v:=(Xc (h.fr b (aI w6 _ a) c)).trans a
theorem CoI.turn(h:CoI w6 gT Kr R U){X:Nat->Nat}(k:U.grownBy U' (some gT))(b:WsAt U' gT Kr Kr X)(d:XA X)(a:∀c,c<64*Kr->(Xh X c=true↔R' c)):CoI w6 gT Kr R' U':=by
 have f:=h.size;exact⟨k.os.trans h.os,k.tape.trans h.tape,k.output.trans h.output,aJ h.size k.size,h.gl,fun q q1 q2=>(k.block q oM (fun e=>q2 (by injection e))).trans (h.fr q q1 q2),X,b,d,a⟩
end
def aw(a:List Int)(l:List Nat)(c:Nat):Prop:=∃v∈l,a[v]?=some (c:Int)
theorem VA(z c C:Nat)(W:Nat->Nat)(m:Option Addr)(g n y Kr:Nat)(o:List Int)(bx ar:Nat)(w:World)(P:Hid (WsAt w z c C W))(b8:Hid (XA W))(ha:Hid (Xf w bx ar m o))(hx:Hid (g=o.length))(hB:ar<=w.heap.size)(hT:Hid (Jn w))(hK:c<=100)(b3:Hid (LtV g c W))(hr:y<=2000)(af:Hid (Kr=(y+63) / 64))(hc:Hid (∀j∈o,j=-1\/0<=j/\j<y)) :
 Calls prog 27 #[.agg #[.slice (some ⟨z,0,none⟩) c C],.slice m g n,.int .i64 (y:Int)] w fun u r=>∃ab aa,u=.returned (.agg #[.slice (some ⟨ab,0,none⟩) Kr Kr])/\w.heap.size<=ab/\Below w.heap.size w r/\WsAt r ab Kr Kr aa/\XA aa/\∀j,j<64*Kr->(Xh aa j=true↔aw o (lsN W (64*c)) j):=by
 have HN:=Xa (fun W=>rG y W oM);simp only[<-af.out]at HN;have cj:Kr<=100:=oN af.out
 have cr:y<=64*Kr:=oN af.out
 refine(bM (n:=8)).1 ?_;refine callsIn_of_wp_marks func27 rfl trivial ?_ rfl;simp only[ntmps27,xY,Nat.reduceAdd,Nat.reduceSub]
 gi_wp2
 have ce:=P.lt;have ay:Hid (Below w.heap.size w (((w.alloc (.cells #[.slice (some ⟨z,0,none⟩) c C] 45)).alloc (.cells #[.slice m g n] 27)).alloc (.cells #[.slice none 0 0] 61))):=Xa (Xb (Xb (Xb (Below.refl _ _) _) _) _);have ct:w.heap.size+3<=(((w.alloc (.cells #[.slice (some ⟨z,0,none⟩) c C] 45)).alloc (.cells #[.slice m g n] 27)).alloc (.cells #[.slice none 0 0] 61)).heap.size:=sP;have c3:(((w.alloc (.cells #[.slice (some ⟨z,0,none⟩) c C] 45)).alloc (.cells #[.slice m g n] 27)).alloc (.cells #[.slice none 0 0] 61)).cell? ⟨w.heap.size,0,none⟩=some (.slice (some ⟨z,0,none⟩) c C):=by simp[go_sem]
 have c4:(((w.alloc (.cells #[.slice (some ⟨z,0,none⟩) c C] 45)).alloc (.cells #[.slice m g n] 27)).alloc (.cells #[.slice none 0 0] 61)).cell? ⟨w.heap.size+1,0,none⟩=some (.slice m g n):=by simp[go_sem]
 have a3:Hid ((((w.alloc (.cells #[.slice (some ⟨z,0,none⟩) c C] 45)).alloc (.cells #[.slice m g n] 27)).alloc (.cells #[.slice none 0 0] 61)).rowIs (w.heap.size+2) 61 1 (fun _=>.slice none 0 0)):=Xa (by
  have h:=eK ((w.alloc (.cells #[.slice (some ⟨z,0,none⟩) c C] 45)).alloc (.cells #[.slice m g n] 27)) #[.slice none 0 0] 61 (fun _=>.slice none 0 0) (fun Q K=>by match Q,K with | 0,_=>rfl)
  rw[aO,aO]at h;exact h)
 generalize ((w.alloc _).alloc _).alloc _=w0 at *;refine⟨trivial,(bM.2 (HN w0)).mono ?_⟩;rintro u l ⟨gT,rfl,cl,J,aj⟩;have cv:=J.size;have d3:=(XU J oM).trans c3;have d4:=(XU J oM).trans c4;have az:=Xa (Xg ay J);have a4:=Xa (a3.of_block (J.block _ oM));have a5:=Xa aj;have cq:=aj.lt;have e3:=fun ob=>(bP l ob ⟨w.heap.size,0,none⟩ (by show w.heap.size<_;omega)).trans d3
 clear J aj c3 c4 HN a3 ay
 gi_wp2
 have p:Below l.heap.size l (l.alloc (.cells #[.slice (some ⟨gT,0,none⟩) Kr Kr] 61)):=Xb (Below.refl _ _) _;have cx:l.heap.size+1<=(l.alloc (.cells #[.slice (some ⟨gT,0,none⟩) Kr Kr] 61)).heap.size:=sP;have c7:(l.alloc (.cells #[.slice (some ⟨gT,0,none⟩) Kr Kr] 61)).cell? ⟨l.heap.size,0,none⟩=some (.slice (some ⟨gT,0,none⟩) Kr Kr):=by simp[go_sem]
 generalize l.alloc _=A at *;clear e3;refine⟨trivial,(Bz 7 (some ⟨z,0,none⟩) c C A).mono ?_⟩;rintro u B ⟨rfl,E⟩;have ad:Below A.heap.size A B:=by rw[E];exact Xb (Below.refl _ _) _
 have cw:A.heap.size+1<=B.heap.size:=by rw[E,aO];exact aA _
 have a7:B.cell? ⟨A.heap.size,0,none⟩=some (.slice (some ⟨z,0,none⟩) c C):=by rw[E];simp[go_sem]
 have H:=Xa (Xg p ad);have s:=Xa (Xg az H);have f4:=(XU H oM).trans d4;have f7:=(XU ad oM).trans c7;have bp:=Xa (a4.of_block (H.block _ oM));have bq:=Xa (a5.of_block (H.block _ oM));have b0:(2 : Nat)<w.heap.size:=aI w _ (hT 0 vY);have bw:=Xa (P.of_block (s.block z ce));have br:=Xa (hT.of_block (s.block _ b0));have bl:=Xa f4;have a1:=Xa f7;have bi:=Xa a7;clear p ad E c7 d3 d4 f4 f7 a7 az a4 a5
 gi_wp2
 have bm:Hid (CoI B gT Kr (aw o []) B):=Xa ⟨rfl,rfl,rfl,aA _,oN H.size,fun _ _ _=>rfl,fun _=>0,⟨aA _,fun _=>.slice none 0 0,bq.congr (fun Q K=>by rw[aU K])⟩,KW,fun j _=>⟨fun h=>by simp[Xh]at h,fun h=>by obtain⟨v,d,_⟩:=h;simp at d⟩⟩;have c6:=H.size;refine qN (F:=Fence.wide) (n:=8) rfl vY (gf:=101) (lb:=#[.pointer (some ⟨A.heap.size,0,none⟩)]) rfl trivial (enters_of func101 vZ rfl) (yi A.heap.size z c C W (fun q=>q=gT) B bi bw b8 br hK (Xa oM) (Xa oM)) (fun _ _ _ _ h _ _=>h) (fun h cf=>h.trans cf) (fun W S T N d a k=>Zf.putObj W S T N d a k) (Below.refl _ _) (fun _=>rfl)
  (fun ap U=>CoI B gT Kr (aw o ap) U) (CoI.own B gT Kr (aw o)) bm
  (fun x a' U=>a'=⟨#[.agg #[.slice (some ⟨z,0,none⟩) c C],.slice m g n,.int .i64 (y:Int),.pointer (some ⟨w.heap.size,0,none⟩),.pointer (some ⟨w.heap.size+1,0,none⟩),undef,.pointer (some ⟨w.heap.size+1+1,0,none⟩),.pointer (some ⟨l.heap.size,0,none⟩),.int .i64 (x:Int),.int .i64 (y:Int),.agg #[.slice (some ⟨gT,0,none⟩) Kr Kr],.agg #[.slice (some ⟨z,0,none⟩) c C],.func (.func 101) #[] #[.pointer (some ⟨A.heap.size,0,none⟩)],.int .i64 (x:Int),undef,undef,undef,undef,undef,undef,undef,undef,undef,undef,undef,undef,undef],[]⟩) (fun _ _ _ _ _ _ h _ _=>h) ?assign ?body ?done
 case assign =>
  intro S ap x U a6 e hP ba;have f:=Xa e;have bo:=Xa ba;clear e ba
  gi_wp2
  exact bo _ _ (KeepsOthers.refl _) (Zf.refl _) f hP rfl
 case body =>
  rintro S ap x a' U e hP rfl b2;have f:=Xa e;have bf:=WN.1 hP;have b9:=b3 x bf.1 bf.2;have al:x<o.length:=by rw[<-hx.out];exact b9
  obtain⟨b,T,rfl,hb,a8⟩:=ha x al;have e0:=e.cell oM ((XU s oM).trans a8);have e4:=e.cell oM bl;have e7:=e.cell oM a1;have ck:=hc _ (aH al);have Y:=Xa (aC al);have b5:=e.size;generalize o[x]=aq at *;have cz:(x:Int)<(g:Int):=oM;clear e a8 b2;by_cases hy:aq=-1
  ·subst hy
   have ca:((-1:Int) != -1)=false:=vY
   gi_wp2
   refine⟨KeepsOthers.refl _,Zf.refl _,f.congr (fun j _=>?_)⟩;constructor
   ·rintro⟨v,d,a⟩;exact⟨v,dD _ d,a⟩
   ·rintro⟨v,d,a⟩
    rcases bU.1 d with k | k
    ·exact⟨v,k,a⟩
    ·rw[cS.1 k,Y.out]at a
     injection a with a;omega
  ·have ca:(aq != -1)=true:=by rw[jJ];exact hy
   obtain⟨t,rfl⟩:=bX (show 0<=aq by omega);have b7:t<64*Kr:=oM;obtain⟨X,I,M,O⟩:=f.st;have HX:=Xa I;have bv:=Xa M;have bt:=Xa O;have ax:Hid (∀i,Below U.heap.size U i->U.heap.size+1<=i.heap.size->i.cell? ⟨U.heap.size,0,none⟩=some (.int .i64 (t:Int))->Calls prog 63 #[.agg #[.slice (some ⟨gT,0,none⟩) Kr Kr],.slice (some ⟨U.heap.size,0,none⟩) 1 1] i fun u r=>u=.returned (.tuple #[])/\i.grownBy r (some gT)/\WsAt r gT Kr Kr (addsN X [t])):=Xa (fun i d a k=>by
    refine sF gT Kr Kr 1 1 X (some ⟨U.heap.size,0,none⟩) [t] U.heap.size (U.heap.size+1) i (Xa (fun Q K=>?_)) (Xa rfl) vY (Xa (fun z P=>by rw[cS.1 P];exact b7)) oM (Xa M) (Xa (I.of_block (d.block _ I.lt))) a (oN f.gl);have b1:Q=0:=by simp at K;exact K
    subst b1;exact⟨U.heap.size,0,rfl,⟨aA _,oM⟩,k⟩)
   clear I M O
   gi_wp2
   refine Tc (fun r=>r.cell? ⟨l.heap.size,0,none⟩=some (.slice (some ⟨gT,0,none⟩) Kr Kr)/\r.cell? ⟨w.heap.size+1,0,none⟩=some (.slice (some ⟨b,T,none⟩) g n)/\r.cell? ⟨b,T+x,none⟩=some (.int .i64 (t:Int))) (fun hHeld=>?_);refine Yi 0 ?_;refine Yi 1 ?_;refine Yi 2 ?_;refine Yi 3 ?_;refine Yi 4 ?_;refine Yc 5 (fun a6 hK=>?_);go_simp;have p:Below U.heap.size U (U.alloc (.cells #[.int .i64 (t:Int)] 63)).drew:=(Xb (Below.refl _ _) _).drew;have cb:U.heap.size+1<=(U.alloc (.cells #[.int .i64 (t:Int)] 63)).drew.heap.size:=by simp[World.drew]
   have bb:(U.alloc (.cells #[.int .i64 (t:Int)] 63)).drew.cell? ⟨U.heap.size,0,none⟩=some (.int .i64 (t:Int)):=by simp[go_sem]
   generalize (U.alloc _).drew=i at *;have G:=Xa p;have g0:=oB p e0 (aI U _ e0);have g4:=oB p e4 (aI U _ e4);have g7:=oB p e7 (aI U _ e7);have a0:=Xa (ax.out i p cb bb);clear ax p bb e0 e4 e7;refine hK _ _ ⟨g7,g4,g0⟩ (fun hHeld=>?_);clear hK;refine Yc 6 (fun a6 hK=>?_);go_simp;refine⟨trivial,(CallsIn.inRound S (bM.2 a0)).mono ?_⟩;rintro u U3 ⟨rfl,F,E⟩;have V:∀(L N:Nat)(v:Value),L≠gT->i.cell? ⟨L,N,none⟩=some v->U3.cell? ⟨L,N,none⟩=some v:=fun L N v d a=>(Xc (F.block L (aI i _ a) (fun u=>d (by injection u)))).trans a
   have Z:Hid (U.grownBy U3 (some gT)):=Xa ⟨F.os.trans G.os,F.tape.trans G.tape,F.output.trans G.output,aJ G.size F.size,fun q q1 q2=>(F.block q (aX q1 G.size) q2).trans (G.block q q1)⟩;have bs:=Xa E;refine hK _ _ ⟨V _ _ _ oM g7,V _ _ _ oM g4,V _ _ _ oM g0⟩ (fun hHeld=>?_);clear hK F E V g0 g4 g7 a0
   try simp only[xX]
   refine ZV ?_;clear hHeld
   gi_wp2
   refine⟨Jc Z HX.obj,Zg Z rfl b5,f.turn Z bs (Zs [t] bv) (fun j bz=>?_)⟩;rw[YR,dI,bt.out j bz,bD,cS];constructor
   ·rintro(h | ⟨v,d,a⟩)
    ·exact⟨x,fB _ (cS.2 rfl),by rw[Y.out,h]⟩
    ·exact⟨v,dD _ d,a⟩
   ·rintro⟨v,d,a⟩
    rcases bU.1 d with k | k
    ·exact aZ ⟨v,k,a⟩
    ·rw[cS.1 k,Y.out]at a
     injection a with a;exact bC (by have h4:=a;omega)
 case done =>
  rintro D xs U hD rfl e a9;have f:=Xa e;have a2:=Xa a9;have h7:=e.cell oM a1;have ac:=bp.of_block (e.fr (w.heap.size+2) oM oM);have h6:=ac.cell (i:=0) vY;have ch:=ac.frozen 0;have cd:=e.size;clear e a9;have ci:=(aS.1 a2).1
  gi_wp2
  have bn:Hid ((U.setCell ⟨w.heap.size+2,0,none⟩ (.slice (some ⟨gT,0,none⟩) Kr Kr)).heap[D]?=some (.deferred (some []))):=Xa ((Below.heap_setCell _ _ _ _ (by show D≠w.heap.size+2;omega)).trans a2);have b4:((U.setCell ⟨w.heap.size+2,0,none⟩ (.slice (some ⟨gT,0,none⟩) Kr Kr)).putObj D (.deferred none)).cell? ⟨w.heap.size+2,0,none⟩=some (.slice (some ⟨gT,0,none⟩) Kr Kr):=by
   refine(bZ (a:=⟨w.heap.size+2,0,none⟩) (World.putObj_heap_other (show w.heap.size+2≠D by omega))).trans ?_;have:=(ac.set 0 (.slice (some ⟨gT,0,none⟩) Kr Kr)).cell (i:=0) vY;simpa using this
  refine YK bn ⟨.agg #[.slice (some ⟨gT,0,none⟩) Kr Kr],by simp[results,results27,go_sem,b4],?_⟩;have bc:∀q,q≠w.heap.size+2->q≠D->((U.setCell ⟨w.heap.size+2,0,none⟩ (.slice (some ⟨gT,0,none⟩) Kr Kr)).putObj D (.deferred none)).heap[q]?=U.heap[q]?:=fun q q1 q2=>(World.putObj_heap_other q2).trans (Below.heap_setCell _ _ _ _ q1)
  obtain⟨X,I,M,O⟩:=f.st;have cp:=f.gl;refine⟨gT,X,rfl,oM,⟨f.os.trans s.os,f.tape.trans s.tape,f.output.trans s.output,?_,fun q hq=>(bc q oM oM).trans ((f.fr q oM oM).trans (s.block q hq))⟩,I.of_block (bc gT oM oM),M,O⟩;have b6:=s.size;have bd:=(grownBy_putObj' (U.setCell ⟨w.heap.size+2,0,none⟩ (.slice (some ⟨gT,0,none⟩) Kr Kr)) D (.deferred none)).size;rw[Xd]at bd;exact aJ b6 (aJ cd bd)
end
theorem tv{C:Nat->Int}(h:IaAt w n m k C):Xf w 0 w.heap.size (some ⟨n,0,none⟩) ((List.range m).map C):=fun i a=>by
 simp only[bK,gI]at a;refine⟨n,0,rfl,⟨aN _,h.lt⟩,?_⟩;simp only[cM,dW,aV];exact h.cell a
theorem vB{C:Nat->Int}(d:∀u∈s,u<n)(c:Nat):aw ((List.range n).map C) s c↔∃u∈s,C u=(c:Int):=by
 unfold aw;constructor
 ·rintro⟨u,a,b⟩
  exact⟨u,a,by have:=d u a;simpa [this]using b⟩
 ·rintro⟨u,a,b⟩
  exact⟨u,a,by have:=d u a;simp[this,b]⟩
theorem qZ(h:LtV n m f):∀u∈lsN f (64*m),u<n:=fun u a=>by
 unfold lsN at a;obtain⟨b,c⟩:=fG.1 a;exact h u (bE.1 b) c
def ki(C:Nat->Int)(l:List Nat)(c:Nat):Prop:=∀a,a < c->∃u∈l,C u=(a:Int)
theorem wQ(v V z b q o g d Q:Nat)(W:Nat->Nat)(C:Nat->Int)(w:World)(hz:Hid (WsAt w z b q W))(a4:Hid (XA W))(X:Hid (Jn w))(hK:b<=100)(ac:Hid (LtV V b W))(hV:V<=2000)(x:Hid (IaAt w g V o C))(hc:Hid (∀u,u<V->C u=-1\/0<=C u/\C u<V))(p:v<V)(hn:Hid (C v=-1))(R:w.cell? ⟨d,0,none⟩=some (.slice (some ⟨g,0,none⟩) V o))(h2:w.cell? ⟨Q,0,none⟩=some (.int .i64 (V:Int)))(ay:d≠g) :
 Calls prog 37 #[.int .i64 (v:Int),.agg #[.slice (some ⟨z,0,none⟩) b q],.pointer (some ⟨d,0,none⟩),.pointer (some ⟨Q,0,none⟩)] w fun e w'=>e=.returned (.int .i64 (smN C (lsN W (64*b)):Int))/\w.grownBy w' (some g)/\IaAt w' g V o (ckS C (v,lsN W (64*b))):=by
 obtain⟨a,S⟩:∃a,a=(V+63) / 64:=⟨_,rfl⟩;have H:=Xa (fun U (B:Below w.heap.size w U)=>VA z b q W (some ⟨g,0,none⟩) V o V a ((List.range V).map C) 0 U.heap.size U (Xa (hz.of_block (B.block z hz.lt))) a4 (Xa (tv (x.of_block (B.block g x.lt)))) (Xa sP) (aA _) (Xa (X.of_block (B.block _ (aI w _ (X 0 vY))))) hK ac hV (Xa S) (Xa (fun c hm=>by
  obtain⟨u,G,rfl⟩:=aY.1 hm;exact hc u (bE.1 G))))
 have a7:V<=64*a:=oM;have a8:a<=100:=oM;clear S;have K:=Xa (qZ ac);generalize lsN W (64*b)=y at *;have L:Hid (∀c,ki C y c->c<V):=Xa (fun c t=>qW t K p hn);have l1:=aI w _ R;have l2:=aI w _ h2;have a1:=x.lt
 go_in
 go_wp2_with fail
 refine(H _ (Xb (Below.refl _ _) _)).mono ?_;rintro e h ⟨f,T,rfl,bb,D,Y,aa,ab⟩;have bf:w.heap.size+1<=h.heap.size:=by have:=D.size;simpa using this
 have al:=Xa (Xg (Xb (Below.refl w.heap.size w) (.cells #[.slice (some ⟨z,0,none⟩) b q] 45)) D);have O:=Xa Y;have ar:=Xa aa;have J:=Xa (fun c az=>(ab c az).trans (vB K c));clear D Y aa ab H
 go_wp2_with fail
 have k:Hid (Below w.heap.size w (h.alloc (.cells #[.slice (some ⟨f,0,none⟩) a a] 61))):=Xa (Xb al _);have P:Hid (WsAt (h.alloc (.cells #[.slice (some ⟨f,0,none⟩) a a] 61)) f a a T):=Xa (O.alloc _);have af:(h.alloc (.cells #[.slice (some ⟨f,0,none⟩) a a] 61)).cell? ⟨h.heap.size,0,none⟩=some (.slice (some ⟨f,0,none⟩) a a):=by simp[go_sem]
 have a3:h.heap.size<(h.alloc (.cells #[.slice (some ⟨f,0,none⟩) a a] 61)).heap.size:=sP;generalize h.alloc _=w2 at *;have ax:=Xa af;clear af O
 go_loopw [8] (fun u wr=>∃c:Nat,u=.int .i64 c/\Hid (ki C y c)/\Hid (Below w2.heap.size w2 wr)) (fun u _=>V-(intOf u).toNat)
 case atStart=>exact⟨0,rfl,Xa (fun s t=>absurd t oM),Xa (Below.refl _ _)⟩
 case round =>
  obtain⟨c,rfl,A,l⟩:=hrel;have a9:=L c A;have hx:=oB l ax a3;have Z:=P.of_block (l.block f P.lt);have m:=Xa (sJ f a c T wr ar (Xa (by
   obtain⟨_,a6,hX⟩:=Z;exact hX.congr (fun a5 hi=>by rw[aU hi]))) oM oM)
  have F:=oB l ((k.cell (p:=⟨d,0,none⟩) l1).trans R) (by have:=k.size;show d<_;have:d<w.heap.size:=l1;omega);have I:=Xa ((x.of_block (k.block g a1)).of_block (l.block g (oN k.size)));clear Z;cases hh:Xh T c with
  | true =>
   rw[hh]at m;have M:Hid (ki C y (c+1)):=Xa (fun s t=>by
    by_cases e:s=c
    ·subst e
     exact(J s oM).1 hh
    ·exact A s oM)
   have ba:=L _ M;clear hh
   go_wp2_with fail
   refine m.mono ?_;rintro e n ⟨rfl,j⟩;have i:=Xa (Xg l j);clear j m
   go_wp2
   exact⟨⟨c+1,gM,M,i⟩,by simp[intOf];omega⟩
  | false =>
   rw[hh]at m;have ad:smN C y=c:=AS ⟨fun u G e=>by
    have:=(J c oM).2 ⟨u,G,e⟩;rw[hh]at this;exact absurd this vY,A⟩
   have N:=Xa ad;clear hh ad
   go_wp2_with fail
   refine m.mono ?_;rintro e n ⟨rfl,j⟩;have a2:=oB j F (aI wr _ F);have r:=Xa (I.of_block (j.block g I.lt));have i:=Xa (k.trans ((Xg l j).mono k.size));have yc:=r.cell p;have yf:=r.frozen v;clear j m F hx
   go_wp2_with fail
   have bd:(n.setCell ⟨g,v,none⟩ (.int .i64 (c:Int))).cell? ⟨d,0,none⟩=some (.slice (some ⟨g,0,none⟩) V o):=(bH n ⟨g,v,none⟩ ⟨d,0,none⟩ _ (by show g≠d;exact fun e=>ay e.symm)).trans a2;have a0:=(r.set v (c:Int) p).cell p;rw[aU rfl]at a0;have aq:=Xa (r.set v (c:Int) p);have ap:Hid (w.grownBy (n.setCell ⟨g,v,none⟩ (.int .i64 (c:Int))) (some g)):=Xa ((⟨i.os,i.tape,i.output,i.size,fun aj E _=>i.block aj E⟩:w.grownBy n (some g)).trans ⟨rfl,rfl,rfl,by simp[World.setCell],fun aj _ E=>Below.heap_setCell _ _ _ _ (fun e=>E (by rw[e]))⟩);generalize n.setCell _ _=w4 at *
   go_wp2
   go_ret
   refine⟨by rw[N.out];rfl,ap,aq.congr (fun a5 _=>?_)⟩;unfold ckS;rw[N.out]
theorem uS{e1 s1:Nat}{c1:List Value}(h:w.ownsRow n e1 s1 a m c1)(k:Below w.heap.size w v):v.ownsRow n e1 s1 a m c1:=by
 refine h.kept (row:=none) ⟨k.os,k.tape,k.output,k.size,fun q hq _=>k.block q hq⟩ ?_;cases a.ownBlock<;>simp
theorem TH.start1(h:w.ownsRow n 2 1 a l.length (l.map (Value.int .i64)))(b:∀g,a.ownBlock=some g->g=n):TH w n w a l:=⟨rfl,rfl,rfl,aA _,fun _ _ _=>rfl,h,fun g e=>bC (b g e)⟩
theorem TH.low{wr:World}(h:TH v n wr a l)(k:Below n w v)(b:n<=v.heap.size):Below n w wr :=
 ⟨h.os.trans k.os,h.tape.trans k.tape,h.output.trans k.output,aJ k.size h.size,fun q hq=>(h.fr q oM oM).trans (k.block q hq)⟩
theorem uO(h:w.ownsRow n m k (.slice (some ⟨B,0,none⟩) g i) j y):w.ownsRow B m k (.slice (some ⟨B,0,none⟩) g i) j y:=by
 obtain⟨e,h | ⟨c,a,b,e1,f,d⟩⟩:=h
 ·exact absurd h.1 sP
 ·have e2:B=c:=by
   injection e1 with e1;injection e1 with e1;injection e1
  subst e2;exact⟨e,aZ ⟨B,a,b,e1,aA _,d⟩⟩
theorem TH.rebase{wr:World}(h:TH w n wr (.slice (some ⟨m,0,none⟩) k B) l)(b:Below wr.heap.size wr v):TH v m v (.slice (some ⟨m,0,none⟩) k B) l :=
 TH.start1 (uO (YU h.own (fun q e=>b.block q (h.own.lt q e).2))) (fun q e=>by
  have a:m=q:=by simpa [Value.ownBlock]using e
  exact a.symm)
theorem TH.join{wr:World}(h:TH w n wr a l)(k:Below wr.heap.size wr v)(c:a.ownBlock=some m)(b:TH v m u A L):TH w n u A L:=by
 have f:=h.size;have g:=k.size;have d:=h.own.lt m c;refine⟨b.os.trans (k.os.trans h.os),b.tape.trans (k.tape.trans h.tape),b.output.trans (k.output.trans h.output),oN b.size,fun q q1 q2=>(b.fr q oM (fun e=>?_)).trans ((k.block q oM).trans (h.fr q q1 q2)),Zk b.own d.1,fun q e=>?_⟩
 ·rcases h.here m c with e2 | e2
  ·exact q2 (e.trans e2)
  ·omega
 ·rcases b.here q e with e2 | e2
  ·rw[e2];exact h.here m c
  ·exact aZ oM
def SmT(a b:World):Prop:=a=b
def Cm(w:World)(V:Nat)(b:List Xe)(e:Ending)(a:World):Prop:=∃s:Bool,e=.returned (.bool s)/\(s=true↔∀v,v<V->¬Bad b v)/\Below w.heap.size w a
theorem tL(V:Nat)(D:Option Addr)(n S:Nat)(a:List Xe)(c6 bb:Nat)(w:World)(ha:Hid (Xp w c6 bb D a))(K:Hid (n=a.length))(hB:bb<=w.heap.size)(g:Hid (Jy V a)) :
 Calls prog 21 #[.agg #[.int .i64 (V:Int),.slice D n S]] w fun e w'=>Cm w V a e w':=by
 obtain⟨m0,e9,fa,fb,fc⟩:=Xq Tryz.info2';have hn:n<=1000:=oP K.out g.okf.n2
 have gq:0<n:=oP K.out g.okf.n1
 have hV:=g.vle;have br:Below w.heap.size w (w.alloc (.cells #[.int .i64 (V:Int),.slice D n S] 25)):=Xb (Below.refl _ _) _;have c8:(w.alloc (.cells #[.int .i64 (V:Int),.slice D n S] 25)).cell? ⟨w.heap.size,0,none⟩=some (.int .i64 (V:Int)):=sP;have b1:w.heap.size<(w.alloc (.cells #[.int .i64 (V:Int),.slice D n S] 25)).heap.size:=sP;have ch:=Xa (og V D n S a c6 bb (w.alloc (.cells #[.int .i64 (V:Int),.slice D n S] 25)) (Xa (ha.keep (br.mono hB))) K oM g)
 go_in
 go_wp2_with fail
 refine ch.mono ?_;rintro e w1 ⟨af,cf,rfl,a7,hF⟩;have d3:=Xa hF.at_;have b2:=Xa (Xg br a7);have g0:=oB a7 c8 b1;have gb:=aX b1 a7.size;have d4:=Xa g0;clear hF a7 br c8 b1 ch g0
 go_wp2
 go_loopw [4] (fun L wr=>∃v:Nat,v<=V/\L=.int .i64 v/\Hid (Below w1.heap.size w1 wr)/\Hid (∀c,c < v->¬Bad a c)) (fun L _=>V-(intOf L).toNat)
 case atStart=>exact⟨0,aN _,rfl,Xa (Below.refl _ _),Xa (fun c h=>absurd h oM)⟩
 case round =>
  obtain⟨v,hv,rfl,HB,cr⟩:=hrel;have k0:=oB HB d4 gb;have du:=HB.size;by_cases e7:v<V
  ·go_wp2_with fail
   have bs:Below wr.heap.size wr (wr.alloc (.cells #[.int .i64 0] 2)):=Xb (Below.refl _ _) _;have b8:Hid (TH (wr.alloc (.cells #[.int .i64 0] 2)) wr.heap.size (wr.alloc (.cells #[.int .i64 0] 2)) (.slice (some ⟨wr.heap.size,0,none⟩) 1 1) (Xi [0])):=Xa (TH.start1 (by
    have h:=eI (base:=wr.heap.size) (e:=2) (size:=1) wr #[.int .i64 0] 1 (aA _) (by unfold maxLen;omega) rfl;exact h) (fun ev e=>by
    have e':wr.heap.size=ev:=by simpa [Value.ownBlock]using e
    exact e'.symm))
   have d0:=Xa bs;have gx:wr.heap.size<(wr.alloc (.cells #[.int .i64 0] 2)).heap.size:=sP;clear bs k0;generalize wr.alloc _=wt at *;generalize wr=wo at *
   go_loopw [5,6] (fun aq L wr=>∃(q:Nat)(F:List Nat),q<=F.length/\L=.int .i64 q/\Hid (StI a v F q)/\Hid (TH wt wo.heap.size wr aq (Xi F))) (fun _ L _=>n-(intOf L).toNat)
   case atStart=>exact⟨0,[0],sP,rfl,Xa ug,b8⟩
   case round =>
    clear b8;obtain⟨q,F,hq,rfl,p,o⟩:=hrel;have ci:Hid (∀gd∈F,gd<n):=Xa (by rw[K.out];exact p.lt g.okf);have ey:=YS p.nd ci;obtain⟨aF,cF,eF,da⟩:=Xk o.own;have bx:(Xi F).length=F.length:=by simp[Xi]
    obtain⟨k,ge,a6,bw,_⟩:=Xm o.own (by rw[bx];exact eJ p.z);rw[bx]at eF a6;have er:aF=some ⟨k,0,none⟩:=by
     rw[eF]at a6;injection a6
    subst er;clear a6;subst eF;have ee:=Xa da;have gg:=bw.1;have gi:=bw.2;clear bw;have ck:=Xa (o.low d0 oM);obtain⟨lF,al⟩:∃m,m=F.length:=⟨_,rfl⟩;rw[<-al]at hq ey;rw[<-al];rw[<-al]at o;have cj:=Xa al;clear da bx al;by_cases e8:q<lF
    ·have U:q<F.length:=by rw[<-cj.out];exact e8
     have fz:q<(Xi F).length:=by simp[Xi];exact U
     obtain⟨bq,oq,eb,gf,a8⟩:=ee q fz;injection eb with eb;injection eb with es et;subst es et;rw[aV]at a8;have eq:(Xi F)[q]=((F[q]:Nat):Int):=by simp[Xi]
     rw[eq]at a8;have f7:=ci _ (aH U);have u:F[q]<a.length:=oN K.out
     have A:=Xa (HB.trans (ck.mono du));obtain⟨bf,of,us,rfl,ez,dl,s⟩:=d3 F[q] u;have J:=fun j' T=>oB A (dl j' T) ez
     have b5:=Xa (s.keep (fun b' l _=>A.block b' l) A.size);clear dl;obtain⟨N,c0,e0,i0⟩:=s.e0;obtain⟨G,c1,e1,i1⟩:=s.e1;obtain⟨O,c2,e2,_⟩:=s.e2;obtain⟨P,c3,e3,_⟩:=s.e3;obtain⟨Q,c4,e4,_⟩:=s.e4;obtain⟨R,c5,e5,_⟩:=s.e5;have u0:=J 0 vY;have u1:=J 1 vY;have u2:=J 2 vY;have u3:=J 3 vY;have u4:=J 4 vY;have u5:=J 5 vY;simp only[fW]at u0;rw[e0]at u0;rw[e1]at u1;rw[e2]at u2;rw[e3]at u3;rw[e4]at u4;rw[e5]at u5;have bd:=Xa e2;have bi:=Xa e3;have bl:=Xa e4;have bm:=Xa e5;have cc:=Xa i0;have cd:=Xa i1;have bo:=Xa (g.lens a[F[q]] (aH u));have ay:Hid (Yo a F[q] v=hasI (a[F[q]].ps.map Ph.dst) (v:Int)):=Xa (by unfold Yo;rw[aC u]);have ax:Hid (barB a F[q] v=bareM a[F[q]] (XP a F[q]) (v:Int)):=Xa (by unfold barB;rw[aC u]);have az:Hid (a[F[q]].te.tg=Xi (X8 a F[q])):=Xa (by rw[WM g.okf u,VS u]);have el:Hid (∀z∈X8 a F[q],z<n):=Xa (by rw[K.out];exact g.okf.tg _ u);have bn:Hid ((XP a F[q]).length<=8000000):=Xa (by
      unfold XP;rw[aC u];have l:=V8 g ((F[q]:Nat):Int) a[F[q]].te.tg;have h2:=KJ a[F[q]].te;simp only;omega)
     obtain⟨t,ht⟩:∃t,t=F[q]:=⟨_,rfl⟩;obtain⟨X,hX⟩:∃X,X=a[F[q]]:=⟨_,rfl⟩;obtain⟨E,hE⟩:∃E,E=XP a F[q]:=⟨_,rfl⟩;rw[<-hX,<-hE]at b5 ax;rw[<-hX]at u0 u1 u3 u4 u5 bi bl bm cc cd bo ay az;rw[<-hE]at u2 bd bn;rw[<-ht]at a8 f7 u0 u1 u2 u3 u4 u5 ay ax az el;have M:=Xa ht;clear J s eq ht hX hE e0 e1 e2 e3 e4 e5 i0 i1;obtain⟨f,a9⟩:∃m,m=X.te.tg.length:=⟨_,rfl⟩;obtain⟨x,ba⟩:∃m,m=(X.ps.map Ph.dst).length:=⟨_,rfl⟩;rw[<-a9]at u0;rw[<-ba]at u1;have gr:f<=2:=by rw[a9];exact KJ _
     have gs:x<=4000:=by rw[ba,bK];exact bo.2
     have cq:=Xa a9;have eg:=Xa ba;clear a9 ba;have d2:=bn;clear bn;generalize fq:E.length=Y at u2 bd;clear fq;generalize fr:(Jv X).length=Z at u3 bi;generalize fs:(Z2 X).length=n4 at u4 bl;generalize fx:(rdT X.te).length=n5 at u5 bm;clear fr fs fx;have H:Below wr.heap.size wr (wr.alloc (.cells #[.slice N f c0,.slice G x c1,.slice O Y c2,.slice P Z c3,.slice Q n4 c4,.slice R n5 c5] 109)):=Xb (Below.refl _ _) _;have I:∀q' c,#[Value.slice N f c0,.slice G x c1,.slice O Y c2,.slice P Z c3,.slice Q n4 c4,.slice R n5 c5][q']?=some c->(wr.alloc (.cells #[.slice N f c0,.slice G x c1,.slice O Y c2,.slice P Z c3,.slice Q n4 c4,.slice R n5 c5] 109)).cell? ⟨wr.heap.size,q',none⟩=some c:=fun q' c h=>by
      rw[eC];exact h
     have gc:wr.heap.size<(wr.alloc (.cells #[.slice N f c0,.slice G x c1,.slice O Y c2,.slice P Z c3,.slice Q n4 c4,.slice R n5 c5] 109)).heap.size:=sP
     go_wp2_with fail
     clear u0 u1 u2 u3 u4 u5 a8;generalize wr.alloc _=y at *;have x0:Cl y wr.heap.size 0 (.slice N f c0):=I 0 _ rfl;have x1:Cl y wr.heap.size 1 (.slice G x c1):=I 1 _ rfl;have x2:Cl y wr.heap.size 2 (.slice O Y c2):=I 2 _ rfl;have x3:Cl y wr.heap.size 3 (.slice P Z c3):=I 3 _ rfl;have x4:Cl y wr.heap.size 4 (.slice Q n4 c4):=I 4 _ rfl;have x5:Cl y wr.heap.size 5 (.slice R n5 c5):=I 5 _ rfl;have d1:=Xa H;have b9:=Xa (o.below H);have ed:=Xa ((cd.at_.keep A).keep (H.mono oM));have ec:=Xa ((cc.at_.keep A).keep (H.mono oM));have b6:=Xa (b5.keep (fun b' l _=>H.block b' l) H.size);have ca:=Xa (YF G x c1 (v:Int) (X.ps.map Ph.dst) 0 w1.heap.size y ed eg oM);have b3:=Xa (oI X E us (v:Int) y b6 (Xa bo.1) d2 (.slice N f c0) (.slice G x c1) (.slice O Y c2) (.slice P Z c3) (.slice Q n4 c4) (.slice R n5 c5) bd bi bl bm);clear H I;refine ca.mono ?_;rintro e w3 ⟨rfl,dn⟩;rw[dn];clear dn ca;cases hph:hasI (X.ps.map Ph.dst) (v:Int)with
     | true =>
      have j:=Xa (p.go U (bC (by rw[<-M.out,ay.out];exact hph)));clear hph
      go_wp2_with fail
      refine⟨?_,by simp[intOf];omega⟩
      first
       | exact⟨q+1,F,oM,gM,j,b9⟩
       | ((repeat apply gP);refine⟨?_,rfl⟩;exact⟨q+1,F,oM,gM,j,b9⟩)
     | false =>
      have cv:Hid (Yo a t v=false):=Xa (by rw[ay.out];exact hph);clear hph
      go_wp2_with fail
      refine b3.mono ?_;rintro e w4 ⟨rfl,ad⟩;have ar:=Xa (Xg d1 ad);have y0:=oB ad x0 gc;have ea:=Xa (ec.keep (ad.mono oM));have gv:=ad.size;have dd:=Vg (v:=(v:Int)) (fin:=hasI (rdT X.te) (v:Int)||hasI E (v:Int)) X.is;have gp:bareM X E (v:Int)<=2:=dd;generalize fe:bareM X E (v:Int)=mt at *;have ab:=Xa ax.out;clear fe ax dd ad x0 x1 x2 x3 x4 x5 b3 b6;have e6:mt=0\/mt=1\/mt=2:=oM;rcases e6 with rfl | rfl | rfl
      ·have ga:wr.heap.size≠k:=oM
       have B:=Xa (o.rebase ar);have ep:=Xa y0;have ek:Hid (F[q]?=some t):=Xa (by rw[aC U,M.out]);have em:Hid (w1.heap.size<=k):=Xa oM;have cs:Hid ((X8 a t).length=f):=Xa (by rw[cq.out,az.out];simp[Xi]);have ej:Hid ((Value.slice (some ⟨k,0,none⟩) lF cF).ownBlock=some k):=Xa rfl
       go_wp2_with fail
       clear y0;generalize wr=wp at *
       go_loopw [5,9] (fun aq ap wr=>∃(m:Nat)(b:List Nat),m<=f/\ap=.int .i64 m/\Hid (StI a v b q)/\Hid (b[q]?=some t)/\Hid (∀r (h:r<(X8 a t).length),r<m->(X8 a t)[r]∈b)/\Hid (TH w4 k wr aq (Xi b))) (fun _ ap _=>f-(intOf ap).toNat)
       case atStart=>exact⟨0,F,aN _,rfl,p,ek,Xa (fun r _ h=>absurd h oM),B⟩
       case round =>
        clear B;obtain⟨m,b,hm,rfl,j,ac,bc,i⟩:=hrel;have z0:=i.cell ga ep;have bz:=(cV.1 ac).1;have aa:Hid (b[q]=t):=Xa (cV.1 ac).2;by_cases dc:m<f
        ·have fl:m<X.te.tg.length:=by rw[<-cq.out];exact dc
         have fi:m<(X8 a t).length:=by rw[cs.out];exact dc
         obtain⟨bt,ot,rfl,⟨_,bs⟩,bv⟩:=ea m fl;have dj:X.te.tg[m]=(((X8 a t)[m]:Nat):Int):=by simp only[az.out,Xi,cM];rfl
         rw[dj]at bv;have zt:=i.cell (oN em.out) bv;obtain⟨aG,cG,eG,db⟩:=Xk i.own;have df:(Xi b).length=b.length:=by simp[Xi]
         have ef:=Xa (aJ (YS j.nd (fun z W=>by have:=j.lt g.okf z W;have:=K.out;show z<n;omega)) hn);obtain⟨d,b0⟩:∃z,z=(X8 a t)[m]:=⟨_,rfl⟩;rw[<-b0]at zt;have bp:=Xa b0;obtain⟨l2,aj⟩:∃z,z=(Xi b).length:=⟨_,rfl⟩;rw[<-aj]at eG;subst eG;have gl:l2<=1000:=by rw[aj,df];exact ef
         have cb:=Xa (YF aG l2 cG (d:Int) (Xi b) k wr.heap.size wr (Xa db) (Xa aj) oM);have ce:=Xa aj;clear bv dj db df b0 aj
         go_wp2_with fail
         refine cb.mono ?_;rintro e w5 ⟨rfl,ds⟩;rw[ds];clear ds cb;cases hh:hasI (Xi b) (d:Int)with
         | true =>
          have cl:Hid (∀r (h:r<(X8 a t).length),r<m+1->(X8 a t)[r]∈b):=Xa (fun r hr f0=>by
           by_cases e:r=m
           ·subst e
            rw[<-bp.out];have l:=XD.1 hh;obtain⟨z,W,e2⟩:=aY.1 l;have:z=d:=by have e3:(z:Int)=(d:Int):=e2;omega
            rw[<-this];exact W
           ·exact bc r hr oM)
          clear hh
          go_wp2_with fail
          refine⟨?_,by simp[intOf];omega⟩
          first
           | exact⟨m+1,b,oM,gM,j,ac,cl,i⟩
           | ((repeat apply gP);refine⟨?_,rfl⟩;exact⟨m+1,b,oM,gM,j,ac,cl,i⟩)
         | false =>
          have ei:Hid (d ∉ b):=Xa (fun h=>by
           have l:hasI (Xi b) (d:Int)=true:=XD.2 (aY.2 ⟨d,h,rfl⟩);rw[hh]at l;cases l)
          have cw:=Xa (j.push bz (by rw[aa.out];exact cv) (by rw[aa.out];exact ab) (by rw[aa.out,bp.out];exact aH fi) ei);have cz:Hid ((b++[d])[q]?=some t):=Xa (by rw[dL bz];exact ac);have cp:Hid (∀r (h:r<(X8 a t).length),r<m+1->(X8 a t)[r]∈b++[d]):=Xa (fun r hr f0=>by
           by_cases e:r=m
           ·subst e
            rw[<-bp.out];simp
           ·exact dD _ (bc r hr oM))
          clear hh
          go_wp2_with (at_builtin;refine bT _ rfl _ _ 27 rfl k 2 m0 (.int .i64 0) 1 8 underlying27 e9 fa fb fc rfl vY _ _ _ rfl (i.own.alloc _) ⟨wr.heap.size,0,none⟩ 1 1 [.int .i64 (d:Int)] rfl rfl ?c1 ?c2 ?c3 ?c4 ?c5 ?_)
          case c1 =>
           intro j' u' T
           match j',T with
           | 0,T=>simp at T;subst T;simp[Addr.add]
          case c2=>intro u' dk;simp at dk;subst dk;rfl
          case c3=>have:=ce.out;unfold maxLen;omega
          case c4=>have:=ce.out;omega
          case c5=>have:=i.size;simp;omega
          intro u9 w9 di c9 _ c7;have d5:=Xa ((i.alloc _).push (x:=(d:Int)) c9 di (by rw[aO];exact c7));have b7:=Xa (by have h:=d5.out;rw[show Xi b++[(d:Int)]=Xi (b++[d]) by simp[Xi]]at h;exact h);clear di c9 c7 z0 zt
          go_wp2_with fail
          refine⟨?_,by simp[intOf];omega⟩
          first
           | exact⟨m+1,b++[d],oM,gM,cw,cz,cp,b7⟩
           | ((repeat apply gP);refine⟨?_,rfl⟩;exact⟨m+1,b++[d],oM,gM,cw,cz,cp,b7⟩)
        ·have C:Hid (StI a v b (q+1)):=Xa (j.go bz (aZ ⟨by rw[aa.out,ab.out];decide,fun _ z W=>by
          rw[aa.out]at W;obtain⟨r,hr,rfl⟩:=bR W;exact bc r hr (oN cs.out)⟩))
         have HJ:=Xa (o.join ar ej i)
         go_wp2_with fail
         refine⟨?_,by simp[intOf];omega⟩
         first
          | exact⟨q+1,b,oM,gM,C,HJ⟩
          | ((repeat apply gP);refine⟨?_,rfl⟩;exact⟨q+1,b,oM,gM,C,HJ⟩)
      ·have dw:=Xa (p.hit U (by rw[<-M.out];exact cv) (by rw[<-M.out];exact ab))
       go_wp2
       go_ret
       exact⟨false,rfl,⟨fun h=>(by cases h),fun h=>absurd dw (h v e7)⟩,b2.trans ((A.trans (ar.mono (oN A.size))).mono oM)⟩
      ·have C:=Xa (p.go U (aZ ⟨by rw[<-M.out,ab.out];decide,fun h=>by rw[<-M.out,ab.out]at h;cases h⟩))
       have B:=Xa (o.below ar)
       go_wp2_with fail
       generalize wr=wp at *
       go_loopw [5,9] (fun aq ap wr=>aq=.slice (some ⟨k,0,none⟩) lF cF/\ap=.int .i64 0/\Hid (SmT wr w4)) (fun _ _ _=>0)
       case atStart=>exact⟨rfl,rfl,Xa rfl⟩
       case round =>
        obtain⟨rfl,rfl,cx⟩:=hrel;have eu:wr=w4:=cx.out;clear cx;subst eu;by_cases h0:0<f
        ·go_wp2_with fail
         refine⟨?_,by simp[intOf];omega⟩
         first
          | exact⟨q+1,F,oM,gM,C,B⟩
          | ((repeat apply gP);refine⟨?_,rfl⟩;exact⟨q+1,F,oM,gM,C,B⟩)
        ·go_wp2_with fail
         refine⟨?_,by simp[intOf];omega⟩
         first
          | exact⟨q+1,F,oM,gM,C,B⟩
          | ((repeat apply gP);refine⟨?_,rfl⟩;exact⟨q+1,F,oM,gM,C,B⟩)
    ·have ct:Hid (∀c,c < v+1->¬Bad a c):=Xa (fun c gt=>by
      by_cases e:c=v
      ·subst e
       exact p.none (oN cj.out)
      ·exact cr c oM)
     have b4:=Xa (HB.trans (ck.mono du))
     go_wp2_with fail
     refine⟨?_,by simp[intOf];omega⟩
     first
      | exact⟨v+1,oM,gM,b4,ct⟩
      | ((repeat apply gP);refine⟨?_,rfl⟩;exact⟨v+1,oM,gM,b4,ct⟩)
  ·have HS:Hid (∀c,c < V->¬Bad a c):=Xa (fun c h=>cr c oM)
   go_wp2
   go_ret
   exact⟨true,rfl,⟨fun _=>HS,fun _=>rfl⟩,b2.trans (HB.mono oM)⟩
theorem KT(v:Int)(b:Option Addr)(n c:Nat)(a:List Xe)(L B:Nat)(w:World)(ha:Hid (Xp w L B b a))(f:Hid (n=a.length))(hs:Hid (a.length+Xx a<=1048576))(G:B<=w.heap.size) :
 Calls prog 6 #[.agg #[.int .i64 v,.slice b n c]] w fun l y=>l=.returned (.int .i64 (verdP v a))/\Below w.heap.size w y:=by
 have g:=Xa (fun W (d:Below w.heap.size w W)=>Tr v b n c a L B W (Xa (ha.keep (d.mono G))) f hs (oN d.size));have af:=Xa (WY ⟨v,a⟩);rw[<-af.out]at g;have i:Below w.heap.size w (w.alloc (.cells #[.int .i64 v,.slice b n c] 25)):=Xb (Below.refl _ _) _;have H:(w.alloc (.cells #[.int .i64 v,.slice b n c] 25)).cell? ⟨w.heap.size,0,none⟩=some (.int .i64 v):=sP;have I:(w.alloc (.cells #[.int .i64 v,.slice b n c] 25)).cell? ⟨w.heap.size,1,none⟩=some (.slice b n c):=sP;have p:w.heap.size<(w.alloc (.cells #[.int .i64 v,.slice b n c] 25)).heap.size:=sP;cases hv:XJ ⟨v,a⟩with
 | false =>
  rw[hv]at g;rw[Uh hv];clear hv
  go_in
  go_wp2_with fail
  refine(g _ i).mono ?_;rintro l z ⟨rfl,e⟩;have r:=Xa (Xg i e);clear e g i H I p
  go_wp2
  go_ret
  exact⟨rfl,r⟩
 | true =>
  rw[hv]at g;have D:=Xa hv;have Z:0<=v:=by
   simp only[XJ,Y6,bY,bD]at hv;omega
  obtain⟨V,rfl⟩:=bX Z;have h:=Xa (XH hv);have hn:n<=1000:=oP f.out h.okf.n2
  have ax:0<n:=oP f.out h.okf.n1
  generalize aa:verdP (V:Int) a=K;have E:=Xa aa;clear hv Z aa;have ac:=Xa (fun W (d:Below w.heap.size w W)=>nf (V:Int) b n c (-1) a L B W (Xa (ha.keep (d.mono G))) f oM oM (oN d.size) (Xa (by rw[f.out];exact h.okf.tgt)));have ad:=Xa (fun W (d:Below w.heap.size w W)=>tL V b n c a L B W (Xa (ha.keep (d.mono G))) f (oN d.size) h)
  go_in
  go_wp2_with fail
  refine(g _ i).mono ?_;rintro l z ⟨rfl,e⟩;have r:=Xa (Xg i e);have Q:=oB e H p;have R:=oB e I p;have ab:=aX p e.size;clear e i H I p g
  go_wp2_with fail
  refine Y7 (fun y=>y.cell? ⟨w.heap.size,0,none⟩=some (.int .i64 (V:Int))/\y.cell? ⟨w.heap.size,1,none⟩=some (.slice b n c)) (fun hHeld=>?_);refine Xn 0 ?_;refine Xn 3 ?_;refine Xn 4 ?_;refine Xn 5 ?_;refine Xs 1 (fun aq hK=>?_);go_simp;refine(ac z.drew r.drew).mono ?_;rintro l w2 ⟨v2,F,rfl,j,J,X,T⟩;have t:Below z.heap.size z w2:=⟨j.os,j.tape,j.output,j.size,j.block⟩;rw[show Je F=(Xi F).map (Value.int .i64) by simp[Je,Xi]]at J;obtain⟨aF,cF,e2,_⟩:=Xk J;have U:(Xi F).length=F.length:=by simp[Xi]
  have C:=Xa (pm h.okf X (fun x=>(T x).trans (pP vY)));rw[U]at e2;subst e2;obtain⟨q,u⟩:∃al,al=F.length:=⟨_,rfl⟩;rw[<-u];have N:Hid (q=n↔Jq a):=Xa (by rw[u,f.out];exact C.2);have ar:q<=n:=by rw[u,f.out];exact C.1
  have A:=Xa (Xg r t);have k0:=oB t Q ab;have k1:=oB t R ab;clear t j J X T U u C Q R;refine hK _ _ ⟨k0,k1⟩ (fun hHeld=>?_);clear hK;refine Xn 2 ?_;by_cases o:q=n
  ·have M:=Xa (N.1 o)
   have aj:((q:Int) != (n:Int))=false:=by simp[o]
   clear o;refine Xn 6 ?_;refine Yq ?_;clear hHeld
   go_wp2_with fail
   refine(ad w2 A).mono ?_;rintro l w3 ⟨ap,rfl,Y,S⟩;have O:=Xa (Xg A S);have P:=Xa Y;clear Y S;cases ap with
   | true =>
    have k:Hid (K=0):=Xa (by rw[<-E.out];exact pj D M (fun m=>by
     obtain⟨x,s⟩:=m;exact P.1 rfl x (qV h s) s))
    go_wp2
    go_ret
    exact⟨by rw[k.out];rfl,O⟩
   | false =>
    have k:Hid (K=11):=Xa (by rw[<-E.out];exact gw D M (dQ fun m=>by
     have:=P.2 (fun x _ s=>m ⟨x,s⟩);cases this))
    go_wp2
    go_ret
    exact⟨by rw[k.out];rfl,O⟩
  ·have k:Hid (K=10):=Xa (by rw[<-E.out];exact n9 D (fun m=>o (N.2 m)))
   have aj:((q:Int) != (n:Int))=true:=by simp;omega
   clear o;refine Xn 6 ?_;refine Yq ?_;clear hHeld
   go_wp2
   go_ret
   exact⟨by rw[k.out];rfl,A⟩
section
section
variable {w4 wr wr' : World} {g V cap : Nat} {C C' : Nat -> Int}
end
theorem wW{a:List Xe}{V b:Nat}{x:Xe}{i d:Nat}(e:i<x.ps.length)(c:x.ps[i].dst=(d:Int)):phS a V b x (i+1)=phS a V b x i++[(d,Uq a x V b 0)]:=by
 unfold phS;rw[kJ,aC e,bG];simp[c]
theorem pO{a:List Xe}{V b:Nat}{x:Xe}{i d:Nat}(e:i<x.is.length)(f:dB x.is[i].op=true)(c:x.is[i].dst=(d:Int)):VC a V b x (i+1)=VC a V b x i++[(d,Uq a x V b (i+1))]:=by
 rw[VC,aC e];simp[writesI,f,c]
theorem BE{a:List Xe}{V b:Nat}{x:Xe}{i:Nat}(c:i<x.is.length)(d:dB x.is[i].op=false):VC a V b x (i+1)=VC a V b x i:=by
 rw[VC,aC c];simp[writesI,d]
def trG(a b c:Value):Nat->Value
 | 0=>a
 | 1=>b
 | _=>c
end
structure ZH(M:Nat->Prop)(U U':World):Prop where
 os:U'.os=U.os
 tape:U'.tape=U.tape
 output:U'.output=U.output
 size:U.heap.size<=U'.heap.size
 fr:∀q,q<U.heap.size->¬M q->U'.heap[q]?=U.heap[q]?
theorem ZH.refl(M:Nat->Prop)(U:World):ZH M U U:=⟨rfl,rfl,rfl,aA _,fun _ _ _=>rfl⟩
theorem ZH.trans(h:ZH d w v)(k:ZH d v u):ZH d w u :=
 ⟨k.os.trans h.os,k.tape.trans h.tape,k.output.trans h.output,aJ h.size k.size,fun q a b=>(k.fr q (aX a h.size) b).trans (h.fr q a b)⟩
theorem ZH.of_below{M:Nat->Prop}(h:Below w.heap.size w v):ZH M w v:=⟨h.os,h.tape,h.output,h.size,fun q a _=>h.block q a⟩
theorem ZH.of_grown(h:w.grownBy v (some n))(c:d n):ZH d w v:=⟨h.os,h.tape,h.output,h.size,fun q a b=>h.block q a (fun e=>b (by injection e with e;rw[e];exact c))⟩
theorem ZH.set{M:Nat->Prop}(A:World)(p:Addr)(v:Value)(b:M p.block):ZH M A (A.setCell p v):=⟨rfl,rfl,rfl,by simp[World.setCell],fun q _ a=>Below.heap_setCell _ _ _ _ (fun e=>a (by rw[e];exact b))⟩
theorem ZH.cell(h:ZH d w v){p:Addr}(c:¬d p.block)(b:w.cell? p=some a):v.cell? p=some a:=(bZ (h.fr _ (aI w _ b) c)).trans b
structure CoM(V cap gp go bo bp bc bv:Nat)(C:Nat->Int)(U:World):Prop where
 row:IaAt U gp V cap C
 out:IaAt U go V V (fun u=>if C u=-1 then 0 else C u)
 box:U.rowIs bo 29 3 (trG (.int .i64 0) (.slice (some ⟨go,0,none⟩) V V) (.int .i64 (ckN C V)))
 pick:U.cell? ⟨bp,0,none⟩=some (.func (.func 37) #[] #[.pointer (some ⟨bc,0,none⟩),.pointer (some ⟨bv,0,none⟩)])
 cc:U.cell? ⟨bc,0,none⟩=some (.slice (some ⟨gp,0,none⟩) V cap)
 cv:U.cell? ⟨bv,0,none⟩=some (.int .i64 (V:Int))
 rng:∀u,u<V->C u=-1\/0<=C u/\C u<V
 n1:gp≠go
 n2:bo≠gp/\bo≠go
 n3:bp≠gp/\bp≠go/\bp≠bo
 n4:bc≠gp/\bc≠go/\bc≠bo
 n5:bv≠gp/\bv≠go/\bv≠bo
def CoS(b go a q:Nat):Prop:=q=b\/q=go\/q=a
theorem CoM.far{go:Nat}{C:Nat->Int}(h:CoM n m k go B g i j C w)(a:Below w.heap.size w v):CoM n m k go B g i j C v :=
 ⟨h.row.of_block (a.block _ h.row.lt),h.out.of_block (a.block _ h.out.lt),h.box.of_block (a.block _ h.box.lt),oB a h.pick (aI w _ h.pick),oB a h.cc (aI w _ h.cc),oB a h.cv (aI w _ h.cv),h.rng,h.n1,h.n2,h.n3,h.n4,h.n5⟩
theorem y7(v V z c n y f go d t s x:Nat)(W:Nat->Nat)(C:Nat->Int)(w:World)(L:Hid (WsAt w z c n W))(aa:Hid (XA W))(I:Hid (Jn w))(hK:c<=100)(J:Hid (LtV V c W))(X:V<=2000)(a:Hid (CoM V y f go d t s x C w))(l:v<V)(B:Hid (C v=-1)) :
 Calls prog 18 #[.int .i64 (v:Int),.agg #[.slice (some ⟨z,0,none⟩) c n],.pointer (some ⟨t,0,none⟩),.pointer (some ⟨d,0,none⟩)] w fun e M=>e=.returned (.tuple #[])/\ZH (CoS f go d) w M/\CoM V y f go d t s x (ckS C (v,lsN W (64*c))) M:=by
 have G:=Xa (fun U (i:Below w.heap.size w U)=>wQ v V z c n y f s x W C U (Xa (L.of_block (i.block z L.lt))) aa (Xa (I.of_block (i.block _ (aI w _ (I 0 vY))))) hK J X (Xa (a.far i).row) (Xa a.rng) l B (a.far i).cc (a.far i).cv a.n4.1);have eg:∀args w,(callFunc 37 args).run prog w=.ok (.enter 37 args) w:=enters_of func37 vZ rfl;have c1:=a.pick;have l1:=aI w _ c1;have H:Hid (smN C (lsN W (64*c))<V):=Xa (qW (fv C _).low (qZ J) l B);have T:Hid (∀u,u<V->ckS C (v,lsN W (64*c)) u=-1\/0<=ckS C (v,lsN W (64*c)) u/\ckS C (v,lsN W (64*c)) u<V):=Xa (fun u Z=>by
  unfold ckS;by_cases e:u=v
  ·rw[aU e]
   right;have:=H.out;show 0<=((smN C (lsN W (64*c)):Nat):Int)/\((smN C (lsN W (64*c)):Nat):Int)<V;omega
  ·rw[aM e];exact a.rng u Z)
 have Q:Hid (∀u,(fun u=>if u=v then (smN C (lsN W (64*c)):Int)else (if C u=-1 then 0 else C u)) u=(fun u=>if ckS C (v,lsN W (64*c)) u=-1 then 0 else ckS C (v,lsN W (64*c)) u) u):=Xa (fun u=>by
  unfold ckS;by_cases e:u=v
  ·simp only[e,gG]
   rw[aM oM]
  ·simp only[e,fD])
 have O:Hid (ckN (ckS C (v,lsN W (64*c))) V=max (ckN C V) ((smN C (lsN W (64*c)):Int)+1)):=Xa (qw (C:=C) (v:=v) B V l);generalize ckS C (v,lsN W (64*c))=C' at *;generalize smN C (lsN W (64*c))=g at *;have aj:=H.out;have ap:IntKind.i64.wrap ((g:Int)+1)=(g:Int)+1:=by rw[dF];omega
 have j:=a.n2;have ad:=a.row.lt;have af:=a.out.out.lt;have ac:=a.box.lt
 go_in
 go_wp2_with fail
 have p:Below w.heap.size w (w.alloc (.cells #[.slice (some ⟨z,0,none⟩) c n] 45)):=Xb (Below.refl _ _) _;have h:=Xa (a.far p);generalize w.alloc _=w0 at *;refine(G _ p).mono ?_;rintro e m ⟨rfl,q,K⟩;have N:Hid (ZH (CoS f go d) w m):=Xa ((ZH.of_below p).trans (ZH.of_grown q (bC rfl)));have R:=Xa K;have o:=Xa (h.box.of_block (q.block d h.box.lt (fun e=>j.1 (by injection e))));have r:=Xa (h.out.out.of_block (q.block go h.out.out.lt (fun e=>a.n1 (by injection e with e;exact e.symm))));clear h p q K G c1 l1;have q1:=o.cell (i:=1) vY;have q2:=o.cell (i:=2) vY;have qf:=o.frozen 2;have y1:=r.cell l;have yf:=r.frozen v;simp only[trG]at q1 q2;have al:(v:Int)<(V:Int):=oM;have s2:(m.setCell ⟨go,v,none⟩ (.int .i64 (g:Int))).cell? ⟨d,2,none⟩=some (.int .i64 (ckN C V)):=(bH m ⟨go,v,none⟩ ⟨d,2,none⟩ _ (by show go≠d;exact fun e=>j.2 e.symm)).trans q2;have E:=Xa (o.setOther (a:=⟨go,v,none⟩) (by show d≠go;exact j.2) (.int .i64 (g:Int)));have P:=Xa ((r.set v (g:Int) l).congr (fun u _=>Q u));have S:=Xa (R.setOther (a:=⟨go,v,none⟩) (by show f≠go;exact a.n1) (.int .i64 (g:Int)));have F:Hid (ZH (CoS f go d) w (m.setCell ⟨go,v,none⟩ (.int .i64 (g:Int)))):=Xa (N.trans (ZH.set _ _ _ (aZ (bC rfl))));have aq:=E.frozen 2;generalize ckN C V=kc at *
 go_wp2
 go_end0
 refine⟨rfl,F.trans (ZH.set _ _ _ (aZ (aZ rfl))),?_⟩;have hF:=F.trans (ZH.set (M:=CoS f go d) (m.setCell ⟨go,v,none⟩ (.int .i64 (g:Int))) ⟨d,2,none⟩ (.int .i64 (max kc ((g:Int)+1))) (aZ (aZ rfl)));have D:∀b,b≠f/\b≠go/\b≠d->¬CoS f go d b:=fun b A k=>by
  rcases k with k | k | k
  ·exact A.1 k
  ·exact A.2.1 k
  ·exact A.2.2 k
 refine⟨S.setOther (by show f≠d;exact fun e=>j.1 e.symm) _,P.setOther (by show go≠d;exact fun e=>j.2 e.symm) _,(E.set 2 _).congr (fun ab Y=>?_),hF.cell (D _ a.n3) a.pick,hF.cell (D _ a.n4) a.cc,hF.cell (D _ a.n5) a.cv,T,a.n1,a.n2,a.n3,a.n4,a.n5⟩;rw[O.out]
 match ab,Y with
 | 0,_=>rfl
 | 1,_=>rfl
 | 2,_=>rfl
theorem tf(V:Nat)(w:World)(n:V<=2000) :
 Calls prog 16 #[.int .i64 (V:Int)] w fun g e=>∃b c a,g=.returned (.func (.func 37) #[] #[.pointer (some ⟨b,0,none⟩),.pointer (some ⟨c,0,none⟩)])/\Below w.heap.size w e/\w.heap.size<=a/\w.heap.size<=b/\w.heap.size<=c/\b≠a/\c≠a/\IaAt e a V V (fun _=>-1)/\e.cell? ⟨b,0,none⟩=some (.slice (some ⟨a,0,none⟩) V V)/\e.cell? ⟨c,0,none⟩=some (.int .i64 (V:Int)):=by
 go_in
 go_wp2_with fail
 have h:Below w.heap.size w ((w.alloc (.cells #[.int .i64 (V:Int)] 2)).alloc (.cells #[.int .i64 (-1)] 2)):=Xb (Xb (Below.refl _ _) _) _;have i:((w.alloc (.cells #[.int .i64 (V:Int)] 2)).alloc (.cells #[.int .i64 (-1)] 2)).heap.size=w.heap.size+2:=sP;have c0:((w.alloc (.cells #[.int .i64 (V:Int)] 2)).alloc (.cells #[.int .i64 (-1)] 2)).cell? ⟨w.heap.size,0,none⟩=some (.int .i64 (V:Int)):=by simp[go_sem]
 have c1:((w.alloc (.cells #[.int .i64 (V:Int)] 2)).alloc (.cells #[.int .i64 (-1)] 2)).cell? ⟨w.heap.size+1,0,none⟩=some (.int .i64 (-1)):=by simp[go_sem]
 refine(pJ (w.heap.size+1) V _ n c1 sP).mono ?_;rintro g j ⟨m,rfl,o,d,f⟩;rw[i]at o;have k:=Xa (Xg h d);have l:=Xa f;have p:=(XU d oM).trans c0;have r:w.heap.size+2<=j.heap.size:=oN d.size
 have q:=f.lt;clear h d c0 c1 f i
 go_wp2
 go_ret
 exact⟨j.heap.size,w.heap.size,m,rfl,Xb k _,oM,oM,aA _,oM,oM,IaAt.of_row (l.alloc _),by simp[go_sem],(bP _ _ _ (by show w.heap.size<_;omega)).trans p⟩
end Go.Proofs.YtghnlncgiihhgaaGreatDoor
