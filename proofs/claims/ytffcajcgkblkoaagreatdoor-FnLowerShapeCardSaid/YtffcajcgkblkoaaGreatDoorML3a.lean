import Derived.Test.YtffcajcgkblkoaaGreatDoorML2
namespace Go.Proofs.YtffcajcgkblkoaaGreatDoor
set_option maxHeartbeats 8000000
set_option maxRecDepth 1000000
open Go.RowKit Go.Proofs.Tryz
variable{R:Program}{w:World}
theorem N0:(prog.info? 117).map (λi=>(i.zero,i.size,i.bytes))=some (some<|.agg #[Hq,Hq,Hq,Hq,Hq,Hq],6,144):=kR
theorem N1:(prog.info? 69).map (λi=>(i.zero,i.size,i.bytes))=some (some<|.agg #[Hq],1,24):=kR
def fv(k:Nat):Code->Option Code
 |.region j ops d=>if j=k then some (.region j ops d)else none
 |.seq x y=>match fv k x with
  |some c=>some c
  |none=>fv k y
 |.block _ c=>fv k c
 |.scope c=>fv k c
 |.loop c=>fv k c
 |.cond _ x y=>match fv k x with
  |some c=>some c
  |none=>fv k y
 |_=>none
noncomputable def NW:Code:=(f51.body.bind<|fv 5).getD .skip
theorem En{C:Code}{b:Exit->Act->World->Prop}{a:Act}(d:∀c (a:Act) t v w,b (.panic c) (a.put (some t) v) w->b (.panic c) a w)(h:∀Q:Exit->Act->World->Prop,Hs (∀a w,b .normal a w->Q .normal a w)->Hs (∀c (a:Act) t v w,Q (.panic c) (a.put (some t) v) w->Q (.panic c) a w)->C.wp R Q a w):C.wp R b a w:=h b (Xa λ_ _ h=>h) (Xa d)
theorem EC(V n c b o k L B:Nat)(s y:Option Addr)(C z:Nat)(X:Xe)(w wr:World)(Q:Exit->Act->World->Prop)(P u5 u6 u7 u8 N O d0 d1 d2 d3 d4 d5 ea eb ec ed ee ef eg ei ej ek el em ep eq er R S T U Z aa ab ac ad af aj al ao ap aq ar ax ay az a0 a1 a2 a3 a4 a5 a6 a7 a8 a9 ba bb bc bd bf bi bl bm bn bo bp bq br bt bv bw bz b0 b1 b3 b4 b5 b6 b7 b8 ca cb cc cd ce cf cg ch H I J M:Value)(hQ:Hs (∀c (D:Act) t v w,Q (.panic c) (D.put (some t) v) w->Q (.panic c) D w))(hB:B<=w.heap.size)(eu:w.heap.size+2<=wr.heap.size)(et:k<n)
 (cl:wr.cell? (Hk w.heap.size 1)=some (Hm b o n c)) (F:wr.cell? (Hk b<|o+k*6)=some (.slice s X.ps.length C)) (e1:wr.cell? (Hk b<|o+k*6+1)=some (.slice y X.is.length z)) (e2:wr.cell? (Hk b<|o+k*6+2)=some (Hp X.te.kind)) (e3:wr.cell? (Hk b<|o+k*6+3)=some (Hp X.te.a)) (e4:wr.cell? (Hk b<|o+k*6+4)=some (Hp X.te.to)) (e5:wr.cell? (Hk b<|o+k*6+5)=some (Hp X.te.els))
 (cj:Hs (Jw wr L B s X.ps)) (ci:Hs (X.is.length<=4000/\X.ps.length<=4000))
 (ck:Hs (∀(E:Nat)(f0:Nat->Value)(cv cw cx cz c6 c7 c8 c9 da db dc dd df di dj dk dl dn ds du dw:Value)(Y:World),Md wr Y E X f0->Q .normal ⟨#[.agg #[Hp V,Hm b o n c],Hn w.heap.size,Hq,P,Hp k,Hn E,u6,u7,u8,Hl (w.heap.size+1) 0 0,Hp k,Ho w.heap.size 1,Hm b o n c,Hp n,.bool true,N,O,cv,cw,cx,cz,c6,c7,c8,c9,da,db,dc,dd,df,di,dj,dk,dl,dn,ds,du,dw,R,S,T,U,Z,aa,ab,ac,ad,af,aj,al,ao,ap,aq,ar,ax,ay,az,a0,a1,a2,a3,a4,a5,a6,a7,a8,a9,ba,bb,bc,bd,bf,bi,bl,bm,bn,bo,bp,bq,br,bt,bv,bw,bz,b0,b1,b3,b4,b5,b6,b7,b8,ca,cb,cc,cd,ce,cf,cg,ch,H,I,J,M,undef],[]⟩ Y)) :
 Code.wp prog NW Q ⟨#[.agg #[Hp V,Hm b o n c],Hn w.heap.size,Hq,P,Hp k,u5,u6,u7,u8,Hl (w.heap.size+1) 0 0,Hp k,Ho w.heap.size 1,Hm b o n c,Hp n,.bool true,N,O,d0,d1,d2,d3,d4,d5,ea,eb,ec,ed,ee,ef,eg,ei,ej,ek,el,em,ep,eq,er,R,S,T,U,Z,aa,ab,ac,ad,af,aj,al,ao,ap,aq,ar,ax,ay,az,a0,a1,a2,a3,a4,a5,a6,a7,a8,a9,ba,bb,bc,bd,bf,bi,bl,bm,bn,bo,bp,bq,br,bt,bv,bw,bz,b0,b1,b3,b4,b5,b6,b7,b8,ca,cb,cc,cd,ce,cf,cg,ch,H,I,J,M,undef],[]⟩ wr:=by
 conv=>arg 2;whnf
 have es:b<wr.heap.size:=aI wr _ F;have g:=Xa (λW (hW:Below wr.heap.size wr W)=>
  have q:∀{u A:Nat}{v:Value},wr.cell? (Hk u A)=some v->W.cell? (Hk u A)=some v:=λ{u A _} h=>oB hW h<|aI wr _ h
  And.intro (q cl) (And.intro (q F) (And.intro (q e1) (And.intro (q e2) (And.intro (q e3) (And.intro (q e4) (q e5)))))))
 have a:Hs (LV wr wr.drew none []):=Xa ⟨(Below.refl _ _).drew,λ_ h=>(by cases h),λ_ h=>(by cases h)⟩;refine Y7 (λm=>m.cell? (Hk w.heap.size 1)=some (Hm b o n c)/\m.cell? (Hk b<|o+k*6)=some (.slice s X.ps.length C)/\m.cell? (Hk b<|o+k*6+1)=some (.slice y X.is.length z)/\m.cell? (Hk b<|o+k*6+2)=some (Hp X.te.kind)/\m.cell? (Hk b<|o+k*6+3)=some (Hp X.te.a)/\m.cell? (Hk b<|o+k*6+4)=some (Hp X.te.to)/\m.cell? (Hk b<|o+k*6+5)=some (Hp X.te.els)) λhHeld=>?_;generalize wr.drew=wd at*;refine X0 0 ?_;refine X0 1 ?_;refine X0 2 ?_;refine X0 3 ?_;refine X0 4 ?_;refine X0 5 ?_;refine X0 7 ?_;refine X0 8 ?_;refine X0 9 ?_;refine X0 10 ?_;refine X0 11 ?_;refine X0 13 ?_;refine X0 14 ?_;refine X0 15 ?_;refine X0 16 ?_;refine X0 17 ?_;refine X0 18 ?_;refine eS (rs:=[6,21]) kR sP ?_;refine(bQ rfl (λK hK=>?_) (bQ rfl (λK hK=>?_) dY));rotate_left;go_simp;let⟨l,e,d⟩:=a.box;rw[<-e];replace a:=Xa d;clear e d;refine hK _ _ (g _ a.s) λhHeld=>?_;clear hK
 try simp only[xX]
 refine Xs 6 λK hK=>?_;rotate_left
 all_goals (
  go_simp;refine(ZO X.te _).mono ?_;rintro p yT⟨aT,cT,rfl,i,j⟩;replace a:=Xa<|a.add i j;clear i j;refine hK _ _ (g _ a.s) λhHeld=>?_;clear hK
  try simp only[xX])
 rotate_left;refine Xs 12 λK hK=>?_;rotate_left;refine eS (rs:=[12,21]) kR sP ?_;refine(bQ rfl (λK hK=>?_) (bQ rfl (λK hK=>?_) dY));rotate_left;go_simp;let⟨l,e,d⟩:=a.box;rw[<-e];replace a:=Xa d;clear e d;refine hK _ _ (g _ a.s) λhHeld=>?_;clear hK
 try simp only[xX]
 refine Xs 12 λK hK=>?_
 all_goals (
  go_simp;refine(xL s X.ps.length C X.ps (.slice y X.is.length z) (Hp X.te.kind) (Hp X.te.a) (Hp X.te.to) (Hp X.te.els) L B _ (Xa<|cj.keepS λq _ h2=>a.s.block q<|show q<wr.heap.size by omega) (Xa rfl) ci.2 (oN a.s.size)).mono ?_;rintro p yP⟨aP,cP,rfl,i,j⟩;replace a:=Xa<|a.add i j;clear i j;refine hK _ _ (g _ a.s) λhHeld=>?_;clear hK
  try simp only[xX])
 refine Xs 19 λK hK=>?_;rotate_left;refine Xs 19 λK hK=>?_;rotate_left;refine eS (rs:=[19,21]) kR sP ?_;refine(bQ rfl (λK hK=>?_) (bQ rfl (λK hK=>?_) dY));rotate_left;go_simp;let⟨l,e,d⟩:=a.box;rw[<-e];replace a:=Xa d;clear e d;refine hK _ _ (g _ a.s) λhHeld=>?_;clear hK
 try simp only[xX]
 refine Xs 19 λK hK=>?_
 all_goals (
  go_simp;refine(wF X.te _).mono ?_;rintro p yR⟨aR,cR,rfl,i,j⟩;replace a:=Xa<|a.add i j;clear i j;refine hK _ _ (g _ a.s) λhHeld=>?_;clear hK;refine X0 20 ?_;skip)
 refine Xs 22 λK hK=>?_;rotate_left;refine Xs 22 λK hK=>?_;rotate_left;refine Xs 22 λK hK=>?_;rotate_left;refine Xs 21 λK hK=>?_;go_simp;let⟨l,e,d⟩:=a.box;rw[<-e];replace a:=Xa d;clear e d;refine hK _ _ (g _ a.s) λhHeld=>?_;clear hK;refine Xs 22 λK hK=>?_
 all_goals (
  obtain⟨f,-⟩:=a.bx l rfl;have co:=f.cell (i:=0) vZ;have cp:=f.cell (i:=1) vZ;have cq:=f.cell (i:=2) vZ;have cr:=f.cell (i:=3) vZ;have cs:=f.cell (i:=4) vZ;have ct:=f.cell (i:=5) vZ;have lz:=f.frozen;have cm:∀(W:World)(x r:Nat)(G:Value),x≠r->(W.setCell (Hk l x) G).cell? (Hk l r)=W.cell? (Hk l r):=λW x r G h=>cJ _ _ _ _ λp=>h<|fI Addr.off p
  clear f;go_simp;clear co cp cq cr cs ct lz cm;have hF:=wT (cT:=cT) (cP:=cP) (cR:=cR) a;refine hK _ _ (g _ hF.low) λhHeld=>?_;clear hK;refine Yq ?_;exact ck _ _ _ _ _ _ _ _ _ _ _ _ _ _ _ _ _ _ _ _ _ _ _ _ hF)
end Go.Proofs.YtffcajcgkblkoaaGreatDoor
