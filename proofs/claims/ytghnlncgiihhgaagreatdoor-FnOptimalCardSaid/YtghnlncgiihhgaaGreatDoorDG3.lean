import Derived.Test.YtghnlncgiihhgaaGreatDoorW5b
namespace Go.Proofs.YtghnlncgiihhgaaGreatDoor
set_option maxHeartbeats 4000000
set_option maxRecDepth 100000
open Go.RowKit Go.Proofs.Tryz
theorem uu(n B:Nat)(y:Sr)(R:Option Addr)(C ac:Nat)(p:List Int)(Q N:Nat)(I:Int)(s:Bool)(w:World)(o:Hid (ZQ w n B y))(hv:Hid (Xf w Q N R p))(hx:Hid (C=p.length))(hn:C<=5000)(K:n<Q)(J:N<=w.heap.size) :
 Calls prog 68 #[.pointer (some ⟨n,0,none⟩),.slice R C ac,.int .i64 I,.bool s] w fun e w'=>e=.returned (instrP y p I s).1.agg/\ZQ w' n B (instrP y p I s).2/\w.grownBy w' (some n):=by
 have a:Hid (instrP y p I s=cm (nextP y 14).1 (YI (nextP y 14).2 p s).1 (YI (YI (nextP y 14).2 p s).2 p s).1 C I (YI (YI (nextP y 14).2 p s).2 p s).2):=Xa (by unfold instrP;rw[<-hx.out]);have ay:=Xa o.sB
 go_in
 go_wp2_with fail
 have al:=Xa (o.box (.cells #[.int .i64 0,.int .i64 0,.int .i64 0,.int .i64 0,.int .i64 0] 98));refine(XC n B y 14 _ al oM oM).mono ?_;rintro e w1 ⟨rfl,b,d⟩;have Y:Hid ((∀q,q<5->w1.cell? ⟨w.heap.size,q,none⟩=some (.int .i64 0))/\∀q,w1.frozen? ⟨w.heap.size,q,none⟩=false):=Xa (by
  have f:=d.block w.heap.size sP (fun e=>by have:=o.bB;have:=o.sB;injection e;omega);refine⟨fun q hq=>?_,fun q=>?_⟩
  ·rw[Xc f]
   rcases q with _ | _ | _ | _ | _ | q<;>first | (simp[go_sem];done) | omega
  ·rw[bJ (a:=⟨w.heap.size,q,none⟩) f]
   exact(dm.start w).alloc _ _ _ _ (aA _))
 have ax:=XE y (n:=14) oM;obtain⟨m,s1,l⟩:∃t u,nextP y 14=(t,u):=⟨_,_,rfl⟩;rw[l]at b a ax |-;dsimp only at b a ax |-;have ap:=Xa b;have O:=Xa (mp d);have ab:=Xa (hv.grown (mp d) K J);have ad:=Xa (by have:=d.size;simpa using this);clear b d l al hv
 go_wp2_with fail
 refine(JA n B s1 R C ac p Q N s w1 ap ab hx hn K (aJ J O.size)).mono ?_;rintro e w2 ⟨rfl,b,d⟩;obtain⟨xa,s2,l⟩:∃t u,YI s1 p s=(t,u):=⟨_,_,rfl⟩;rw[l]at b a |-;dsimp only at b a |-;have Z:Hid ((∀q,q<5->w2.cell? ⟨w.heap.size,q,none⟩=some (.int .i64 0))/\∀q,w2.frozen? ⟨w.heap.size,q,none⟩=false):=Xa (by
  have f:=d.block w.heap.size (oN ad.out) (fun e=>by have:=o.bB;have:=o.sB;injection e;omega);exact⟨fun q hq=>(Xc f).trans (Y.1 q hq),fun q=>(bJ (a:=⟨w.heap.size,q,none⟩) f).trans (Y.2 q)⟩)
 have aq:=Xa b;have aa:=Xa (Y5 O d);have ar:=Xa (ab.grown d K (aJ J O.size));have af:=Xa (aJ ad d.size);clear b d l ap O ab Y ad
 go_wp2_with fail
 refine(JA n B s2 R C ac p Q N s w2 aq ar hx hn K (aJ J aa.size)).mono ?_;rintro e H ⟨rfl,b,d⟩;obtain⟨xb,s3,l⟩:∃t u,YI s2 p s=(t,u):=⟨_,_,rfl⟩;rw[l]at b a |-;dsimp only at b a |-;have A:Hid ((∀q,q<5->H.cell? ⟨w.heap.size,q,none⟩=some (.int .i64 0))/\∀q,H.frozen? ⟨w.heap.size,q,none⟩=false):=Xa (by
  have f:=d.block w.heap.size (oN af.out) (fun e=>by have:=o.bB;have:=o.sB;injection e;omega);exact⟨fun q hq=>(Xc f).trans (Z.1 q hq),fun q=>(bJ (a:=⟨w.heap.size,q,none⟩) f).trans (Z.2 q)⟩)
 have v:=Xa b;have x:=Xa (Y5 aa d);have X:=Xa (aJ af d.size);clear b d l aq aa ar Z af;have P:=Xa (show n≠w.heap.size from fun e=>by have:=o.bB;have:=o.sB;omega);clear o K J;obtain⟨c,F⟩:=A.out;have g:=c 0 oM;have h:=c 1 oM;have i:=c 2 oM;have j:=c 3 oM;have k:=c 4 oM;clear c;have aj:∀(x0 x1 x2 x3 x4:Value)(sx:Sr)(M:World),ZQ M n B sx->w.grownBy M (some n)->ZQ (((((M.setCell ⟨w.heap.size,0,none⟩ x0).setCell ⟨w.heap.size,1,none⟩ x1).setCell ⟨w.heap.size,2,none⟩ x2).setCell ⟨w.heap.size,3,none⟩ x3).setCell ⟨w.heap.size,4,none⟩ x4) n B sx/\w.grownBy (((((M.setCell ⟨w.heap.size,0,none⟩ x0).setCell ⟨w.heap.size,1,none⟩ x1).setCell ⟨w.heap.size,2,none⟩ x2).setCell ⟨w.heap.size,3,none⟩ x3).setCell ⟨w.heap.size,4,none⟩ x4) (some n):=fun x0 x1 x2 x3 x4 sx M b d=>by
  have L:=aA w.heap.size;have f:=ay.out;exact⟨((((b.put f).put f).put f).put f).put f,XS (XS (XS (XS (XS d L) L) L) L) L⟩
 have r:=Xa aj;clear aj;by_cases h2:m<2
 ·rw[cm,aU (bC h2)]at a
  go_wp2_with fail
  refine(mm n B s3 H v).mono ?_;rintro e z ⟨rfl,b,d⟩;obtain⟨q,s4,l⟩:∃t u,KX s3=(t,u):=⟨_,_,rfl⟩;rw[l]at b a |-;dsimp only at b a |-;have G:Hid ((∀q,q<5->z.cell? ⟨w.heap.size,q,none⟩=some (.int .i64 0))/\∀q,z.frozen? ⟨w.heap.size,q,none⟩=false):=Xa (by
   have f:=d.block w.heap.size (oN X.out) (fun e=>P (by injection e with e;exact e.symm));exact⟨fun q hq=>(Xc f).trans (A.1 q hq),fun q=>(bJ (a:=⟨w.heap.size,q,none⟩) f).trans (A.2 q)⟩)
  clear g h i j k F;obtain⟨c,F⟩:=G.out;have g:=c 0 oM;have h:=c 1 oM;have i:=c 2 oM;have j:=c 3 oM;have k:=c 4 oM;clear c;have D:=Xa b;have E:=Xa (Y5 x d);clear b d l;go_wp2;rw[a.out];refine cC (v:=Yg.agg _) (by simp[Yg.agg,results,results68,go_sem,g,h,i,j,k]) rfl ⟨rfl,?_⟩;exact r _ _ _ _ _ _ _ D E
 ·by_cases W:C=0
  ·rw[cm,aU (aZ W)]at a
   have az:((C:Int)==0)=true:=by simp;omega
   subst W
   go_wp2_with fail
   refine(mm n B s3 H v).mono ?_;rintro e z ⟨rfl,b,d⟩;obtain⟨q,s4,l⟩:∃t u,KX s3=(t,u):=⟨_,_,rfl⟩;rw[l]at b a |-;dsimp only at b a |-;have G:Hid ((∀q,q<5->z.cell? ⟨w.heap.size,q,none⟩=some (.int .i64 0))/\∀q,z.frozen? ⟨w.heap.size,q,none⟩=false):=Xa (by
    have f:=d.block w.heap.size (oN X.out) (fun e=>P (by injection e with e;exact e.symm));exact⟨fun q hq=>(Xc f).trans (A.1 q hq),fun q=>(bJ (a:=⟨w.heap.size,q,none⟩) f).trans (A.2 q)⟩)
   clear g h i j k F;obtain⟨c,F⟩:=G.out;have g:=c 0 oM;have h:=c 1 oM;have i:=c 2 oM;have j:=c 3 oM;have k:=c 4 oM;clear c;have D:=Xa b;have E:=Xa (Y5 x d);clear b d l;go_wp2;rw[a.out];refine cC (v:=Yg.agg _) (by simp[Yg.agg,results,results68,go_sem,g,h,i,j,k]) rfl ⟨rfl,?_⟩;exact r _ _ _ _ _ _ _ D E
  ·rw[cm,aM (fun o=>o.elim h2 W)]at a
   have az:((C:Int)==0)=false:=by simp;omega
   clear W;by_cases e2:m=2
   ·rw[aU e2]at a
    subst e2
    go_wp2_with fail
    refine(XC n B s3 8 H v oM oM).mono ?_;rintro e z ⟨rfl,b,d⟩;obtain⟨q,s4,l⟩:∃t u,nextP s3 8=(t,u):=⟨_,_,rfl⟩;rw[l]at b a |-;dsimp only at b a |-;have G:Hid ((∀q,q<5->z.cell? ⟨w.heap.size,q,none⟩=some (.int .i64 0))/\∀q,z.frozen? ⟨w.heap.size,q,none⟩=false):=Xa (by
     have f:=d.block w.heap.size (oN X.out) (fun e=>P (by injection e with e;exact e.symm));exact⟨fun q hq=>(Xc f).trans (A.1 q hq),fun q=>(bJ (a:=⟨w.heap.size,q,none⟩) f).trans (A.2 q)⟩)
    clear g h i j k F;obtain⟨c,F⟩:=G.out;have g:=c 0 oM;have h:=c 1 oM;have i:=c 2 oM;have j:=c 3 oM;have k:=c 4 oM;clear c;have D:=Xa b;have E:=Xa (Y5 x d);clear b d l;go_wp2;rw[a.out];refine cC (v:=Yg.agg _) (by simp[Yg.agg,results,results68,go_sem,g,h,i,j,k]) rfl ⟨rfl,?_⟩;exact r _ _ _ _ _ _ _ D E
   ·rw[aM e2]at a
    have b2:(m==2)=false:=by simpa using e2
    by_cases V:m=9
    ·rw[aU V]at a
     subst V;go_wp2;rw[a.out];refine cC (v:=Yg.agg _) (by simp[Yg.agg,results,results68,go_sem,g,h,i,j,k]) rfl ⟨rfl,?_⟩;exact r _ _ _ _ _ _ _ v x
    ·rw[aM V]at a
     have b9:(m==9)=false:=by simpa using V
     by_cases S:m=10
     ·rw[aU S]at a
      subst S;go_wp2;rw[a.out];refine cC (v:=Yg.agg _) (by simp[Yg.agg,results,results68,go_sem,g,h,i,j,k]) rfl ⟨rfl,?_⟩;exact r _ _ _ _ _ _ _ v x
     ·rw[aM S]at a
      have a1:(m==10)=false:=by simpa using S
      by_cases T:m=11
      ·rw[aU T]at a
       subst T;go_wp2;rw[a.out];refine cC (v:=Yg.agg _) (by simp[Yg.agg,results,results68,go_sem,g,h,i,j,k]) rfl ⟨rfl,?_⟩;exact r _ _ _ _ _ _ _ v x
      ·rw[aM T]at a
       have a2:(m==11)=false:=by simpa using T
       by_cases U:m=7
       ·rw[aU U]at a
        subst U
        go_wp2_with fail
        refine(XC n B s3 2 H v oM oM).mono ?_;rintro e z ⟨rfl,b,d⟩;obtain⟨q,s4,l⟩:∃t u,nextP s3 2=(t,u):=⟨_,_,rfl⟩;rw[l]at b a |-;dsimp only at b a |-;have G:Hid ((∀q,q<5->z.cell? ⟨w.heap.size,q,none⟩=some (.int .i64 0))/\∀q,z.frozen? ⟨w.heap.size,q,none⟩=false):=Xa (by
         have f:=d.block w.heap.size (oN X.out) (fun e=>P (by injection e with e;exact e.symm));exact⟨fun q hq=>(Xc f).trans (A.1 q hq),fun q=>(bJ (a:=⟨w.heap.size,q,none⟩) f).trans (A.2 q)⟩)
        clear g h i j k F;obtain⟨c,F⟩:=G.out;have g:=c 0 oM;have h:=c 1 oM;have i:=c 2 oM;have j:=c 3 oM;have k:=c 4 oM;clear c;have D:=Xa b;have E:=Xa (Y5 x d);clear b d l;by_cases hq:q=0
        ·rw[aU hq]at a
         have a0:(q==0)=true:=by simpa using hq
         clear hq;go_wp2;rw[a.out];refine cC (v:=Yg.agg _) (by simp[Yg.agg,results,results68,go_sem,g,h,i,j,k]) rfl ⟨rfl,?_⟩;exact r _ _ _ _ _ _ _ D E
        ·rw[aM hq]at a
         have a0:(q==0)=false:=by simpa using hq
         clear hq;go_wp2;rw[a.out];refine cC (v:=Yg.agg _) (by simp[Yg.agg,results,results68,go_sem,g,h,i,j,k]) rfl ⟨rfl,?_⟩;exact r _ _ _ _ _ _ _ D E
       ·rw[aM U]at a
        have b7:(m==7)=false:=by simpa using U
        by_cases e4:m=4
        ·subst e4
         skip;go_wp2;rw[a.out];refine cC (v:=Yg.agg _) (by simp[Yg.agg,results,results68,go_sem,g,h,i,j,k]) rfl ⟨rfl,?_⟩;exact r _ _ _ _ _ _ _ v x
        ·skip
         have b4:(m==4)=false:=by simpa using e4
         by_cases e5:m=5
         ·subst e5
          skip;go_wp2;rw[a.out];refine cC (v:=Yg.agg _) (by simp[Yg.agg,results,results68,go_sem,g,h,i,j,k]) rfl ⟨rfl,?_⟩;exact r _ _ _ _ _ _ _ v x
         ·skip
          have b5:(m==5)=false:=by simpa using e5
          by_cases e6:m=6
          ·subst e6
           skip;go_wp2;rw[a.out];refine cC (v:=Yg.agg _) (by simp[Yg.agg,results,results68,go_sem,g,h,i,j,k]) rfl ⟨rfl,?_⟩;exact r _ _ _ _ _ _ _ v x
          ·skip
           have b6:(m==6)=false:=by simpa using e6
           by_cases e8:m=8
           ·subst e8
            skip;go_wp2;rw[a.out];refine cC (v:=Yg.agg _) (by simp[Yg.agg,results,results68,go_sem,g,h,i,j,k]) rfl ⟨rfl,?_⟩;exact r _ _ _ _ _ _ _ v x
           ·skip
            have b8:(m==8)=false:=by simpa using e8
            rw[aM (fun o=>o.elim e4 e5),aM e6,aM e8]at a;go_wp2;rw[a.out];refine cC (v:=Yg.agg _) (by simp[Yg.agg,results,results68,go_sem,g,h,i,j,k]) rfl ⟨rfl,?_⟩;exact r _ _ _ _ _ _ _ v x
section
def GoA(w wr:World)(sb B:Nat)(gd:GdR)(fb G c:Nat)(ve vi:Value)(ids:List Int):Prop:=∃d e b av a,JU w wr d sb B gd.s fb gd.v G c gd.xs e b av ve a gd.ends vi ids
def GoV(w wr:World)(sb B:Nat)(gd:GdR)(fb G c:Nat)(ve vi:Value)(ids:List Int)(vv:Value)(vs:List Int):Prop:=∃a e d av b,JU w wr a sb B gd.s fb gd.v G c gd.xs e d av ve b gd.ends vi ids/\Xv wr a (5,gd.ends.length,0) w.heap.size 2 1 vv vs.length (Xt vs)
def GoS(w wr:World)(sb B:Nat)(s:Sr)(v:Nat)(gd:GdR)(fb G c:Nat)(ve vi:Value)(ids:List Int)(xb:Nat)(t:Yj)(ps:List Ph)(is:List Yg)(vv:Value)(vs:List Int):Prop:=∃d e b av a p q,Vu w wr d sb B s fb v G c gd.xs e b av ve a gd.ends vi ids xb p q t ps is vv vs
variable {w wr w' : World} {sb B : Nat} {gd : GdR} {fb G c : Nat} {ve vi : Value} {ids : List Int} {vv : Value} {vs : List Int}
theorem XW.named{d:Nat}{a:Nat->Nat × Nat × Nat}(o:Obj)(L:Nat × Nat × Nat):XW wr (wr.alloc o) a (fun b=>if b=wr.heap.size then L else a b) d (fun _=>True) :=
 ⟨(bW wr o none).size,fun b _ e _=>⟨(bW wr o none).block b e sP,aM oM⟩,fun h b f=>by
  rw[aO]at f;exact(aM oM).trans (h b oM)⟩
theorem GoA.fn(h:GoA w wr sb B gd fb G c ve vi ids):wr.cell? ⟨fb,1,none⟩=some (.slice (some ⟨G,0,none⟩) gd.xs.length c)/\w.heap.size<=wr.heap.size:=by
 obtain⟨d,e,b,av,a,h⟩:=h;exact⟨Bx.cell h.fbx rfl,h.gr.size⟩
theorem GoA.start(h:GoA w wr sb B gd fb G c ve vi ids):GoV w (wr.alloc (.cells #[] 2)) sb B gd fb G c ve vi ids (.slice (some ⟨wr.heap.size,0,none⟩) 0 0) []:=by
 obtain⟨g,f,d,av,a,h⟩:=h;refine⟨_,f,d,av,a,h.sp (XW.named (.cells #[] 2) (5,gd.ends.length,0)) trivial trivial (fun _ _ _ _ _=>trivial) (h.dr.box _) (Y5 h.gr (bW _ _ _)),?_,fun b e=>?_⟩
 ·have:=eI (base:=w.heap.size) (e:=2) (size:=1) wr #[] 0 h.gr.size sP rfl
  simpa [Xt]using this
 ·cases e
  exact aU rfl
theorem GoV.own(h:GoV w wr sb B gd fb G c ve vi ids vv vs):wr.ownsRow w.heap.size 2 1 vv vs.length (Xt vs):=by
 obtain⟨e,f,d,av,b,h,a⟩:=h;exact a.own
theorem GoV.push{k:Nat}{a:Value}{vs':List Int}(h:GoV w wr sb B gd fb G c ve vi ids vv vs)(f:wr.grownBy w' vv.ownBlock)(p:w'.ownsRow w.heap.size 2 1 a k (Xt vs++Xt vs'))(o:k=vs.length+vs'.length)(n:a.ownBlock=vv.ownBlock\/a.ownBlock=some wr.heap.size):GoV w w' sb B gd fb G c ve vi ids a (vs++vs'):=by
 obtain⟨j,y,r,av,l,h,i⟩:=h;obtain⟨x,q,u⟩:=i.grow f p n h.fr;have g:∀b,j b=(0,0,0)->j b≠(5,gd.ends.length,0):=fun b e=>by rw[e];simp
 have d:=h.low (i.below f (aA _) h.gr.size);refine⟨x,y,r,av,l,h.sp u (g _ h.resl) (g _ h.fbl) (fun b _ _ _ m=>m) d.1 d.2,?_⟩;subst o;have e:Xt (vs++vs')=Xt vs++Xt vs':=by simp[Xt]
 rw[e,aQ];exact q
theorem GoV.dom(h:GoV w wr sb B gd fb G c ve vi ids vv vs){i d:Nat}(y:i<ids.length)(r:ids.getD i 0=(d:Int))(l:d<gd.ends.length)(m:0<(gd.ends.getD d []).length) :
 ∃e j b g a k,vi=.slice (some ⟨e,0,none⟩) ids.length j/\wr.cell? ⟨e,i,none⟩=some (.int .i64 d)/\ve=.slice (some ⟨b,0,none⟩) gd.ends.length g/\wr.cell? ⟨b,d,none⟩=some (.slice (some ⟨a,0,none⟩) (gd.ends.getD d []).length k)/\a<wr.heap.size/\∀n u,(Xt (gd.ends.getD d []))[n]?=some u->wr.cell? ((⟨a,0,none⟩:Addr).add n)=some u:=by
 obtain⟨D,E,C,av,q,h,A⟩:=h;have e1:gd.ends.getD d []=gd.ends[d]:=by simp[l]
 rw[e1]at m |-;obtain⟨e,j,p⟩:=h.id.got oM;obtain⟨b,g,o⟩:=h.es.got oM;have f:=h.evs d l;obtain⟨a,k,ex⟩:=f.got m;have z:=h.id;have x:=h.es;subst p;subst o;rw[ex]at f;refine⟨e,j,b,g,a,k,rfl,z.cell ?_,rfl,x.cell ?_,f.blk.1.2,f.own.cells rfl⟩
 ·unfold Xt
  rw[<-r];simp[y]
 ·have:=Xz (f:=fun i (_:List Int)=>[q i]) (sz:=1) (fun _ _=>rfl) 0 gd.ends d l 0 oM
  rw[iN,fW,aV]at this;rw[this,<-ex];rfl
theorem GoV.cells(h:GoV w wr sb B gd fb G c ve vi ids vv vs)(e:gd.ends.length<gd.xs.length) :
 wr.cell? ⟨G,gd.ends.length*6,none⟩=some (.slice none 0 0)/\wr.cell? ⟨G,gd.ends.length*6+1,none⟩=some (.slice none 0 0)/\wr.cell? ⟨G,gd.ends.length*6+2,none⟩=some (.int .i64 gd.xs[gd.ends.length].te.kind)/\wr.cell? ⟨G,gd.ends.length*6+3,none⟩=some (.int .i64 gd.xs[gd.ends.length].te.a)/\wr.cell? ⟨G,gd.ends.length*6+4,none⟩=some (.int .i64 gd.xs[gd.ends.length].te.to)/\wr.cell? ⟨G,gd.ends.length*6+5,none⟩=some (.int .i64 gd.xs[gd.ends.length].te.els):=by
 obtain⟨l,i,g,av,j,h,k⟩:=h;have d:=h.fn.blks;have b:=h.nil_ _ (aA _);have a:∀q u,q<6->(UT (i gd.ends.length) (g gd.ends.length) gd.xs[gd.ends.length].te)[q]?=some u->wr.cell? ⟨G,gd.ends.length*6+q,none⟩=some u:=fun q u hq f=>d.cell (by
  unfold XF;rw[Xz (fun _ _=>KU _ _ _) 0 gd.xs _ e q hq,aV];exact f)
 refine⟨a 0 _ oM (by rw[b.1];rfl),a 1 _ oM (by rw[b.2];rfl),a 2 _ oM rfl,a 3 _ oM rfl,a 4 _ oM rfl,a 5 _ oM rfl⟩
theorem GoV.cells2{i:Nat}(h:GoV w wr sb B gd fb G c ve vi ids vv vs)(a:gd.ends.length=i)(b:i<gd.xs.length) :
 wr.cell? ⟨G,i*6,none⟩=some (.slice none 0 0)/\wr.cell? ⟨G,i*6+1,none⟩=some (.slice none 0 0)/\wr.cell? ⟨G,i*6+2,none⟩=some (.int .i64 gd.xs[i].te.kind)/\wr.cell? ⟨G,i*6+3,none⟩=some (.int .i64 gd.xs[i].te.a)/\wr.cell? ⟨G,i*6+4,none⟩=some (.int .i64 gd.xs[i].te.to)/\wr.cell? ⟨G,i*6+5,none⟩=some (.int .i64 gd.xs[i].te.els):=by
 subst a;exact h.cells b
theorem GoV.fn(h:GoV w wr sb B gd fb G c ve vi ids vv vs):wr.cell? ⟨fb,1,none⟩=some (.slice (some ⟨G,0,none⟩) gd.xs.length c)/\wr.cell? ⟨fb,0,none⟩=some (.int .i64 gd.v)/\w.heap.size<=wr.heap.size:=by
 obtain⟨e,f,d,av,a,h,b⟩:=h;exact⟨Bx.cell h.fbx rfl,Bx.cell h.fbx rfl,h.gr.size⟩
theorem GoV.boxed(h:GoV w wr sb B gd fb G c ve vi ids vv vs)(t:Yj):GoS w (wr.alloc (.cells #[.slice none 0 0,.slice none 0 0,.int .i64 t.kind,.int .i64 t.a,.int .i64 t.to,.int .i64 t.els] 90)) sb B gd.s gd.v gd fb G c ve vi ids wr.heap.size t [] [] vv vs:=by
 obtain⟨a,j,i,av,d,h,g⟩:=h;have k:XW wr (wr.alloc (.cells #[.slice none 0 0,.slice none 0 0,.int .i64 t.kind,.int .i64 t.a,.int .i64 t.to,.int .i64 t.els] 90)) a a w.heap.size (fun _=>True):=XW.box _;have f:=h.res.lt;have l:=h.fbx.lt;exact⟨a,j,i,av,d,_,_,h.box _,⟨Bx.new _ _ _,h.fr _ (aA _),f,⟨dA _ _ _ _,fun b e=>by cases e⟩,⟨dA _ _ _ _,fun b e=>by cases e⟩,g.sp k (fun _ _=>trivial)⟩,oM⟩
variable {s s' : Sr} {v xb : Nat} {t : Yj} {ps : List Ph} {is : List Yg}
theorem Vu.drew{e:Nat->Nat × Nat × Nat}{f d:Nat->Value}{av:Nat->Nat->Value}{b:Nat->Value}{p q:Value}{g:List Xe}{a:List (List Int)}(h:Vu w wr e sb B s fb v G c g f d av ve b a vi ids xb p q t ps is vv vs):Vu w wr.drew e sb B s fb v G c g f d av ve b a vi ids xb p q t ps is vv vs:=h.call ⟨rfl,rfl,rfl,aA _,fun _ _ _=>rfl⟩ h.f.dr.drew
theorem GoS.dr(h:GoS w wr sb B s v gd fb G c ve vi ids xb t ps is vv vs):ZQ wr sb B s:=by
 obtain⟨d,e,b,av,a,p,q,h⟩:=h;exact h.f.dr
theorem GoS.call(h:GoS w wr sb B s v gd fb G c ve vi ids xb t ps is vv vs)(g:wr.grownBy w' (some sb))(d:ZQ w' sb B s'):GoS w w' sb B s' v gd fb G c ve vi ids xb t ps is vv vs:=by
 obtain⟨e,f,b,av,a,p,q,h⟩:=h;exact⟨e,f,b,av,a,p,q,h.call g d⟩
theorem GoS.box(h:GoS w wr sb B s v gd fb G c ve vi ids xb t ps is vv vs)(o:Obj):GoS w (wr.alloc o) sb B s v gd fb G c ve vi ids xb t ps is vv vs:=by
 obtain⟨lab,d,b,av,a,p,q,h⟩:=h;exact⟨lab,d,b,av,a,p,q,h.box o⟩
theorem GoS.below(h:GoS w wr sb B s v gd fb G c ve vi ids xb t ps is vv vs)(k:Below wr.heap.size wr w'):GoS w w' sb B s v gd fb G c ve vi ids xb t ps is vv vs:=by
 obtain⟨f,g,e,av,a,p,q,h⟩:=h;exact⟨f,g,e,av,a,p,q,h.call ⟨k.os,k.tape,k.output,k.size,fun b d _=>k.block b d⟩ (h.f.dr.keep (k.mono h.f.dr.sB))⟩
theorem GoS.blks(h:GoS w wr sb B s v gd fb G c ve vi ids xb t ps is vv vs):Xp wr w.heap.size wr.heap.size (some ⟨G,0,none⟩) gd.xs:=by
 obtain⟨d,e,b,av,a,p,q,h⟩:=h;exact h.f.fn.at_
theorem GoS.fn(h:GoS w wr sb B s v gd fb G c ve vi ids xb t ps is vv vs):(wr.cell? ⟨fb,1,none⟩=some (.slice (some ⟨G,0,none⟩) gd.xs.length c)/\wr.cell? ⟨fb,0,none⟩=some (.int .i64 v)/\∀q,wr.frozen? ⟨fb,q,none⟩=false)/\w.heap.size<=wr.heap.size/\xb<wr.heap.size/\fb<wr.heap.size/\xb≠fb:=by
 obtain⟨d,e,b,av,a,p,q,h⟩:=h;exact⟨⟨Bx.cell h.f.fbx rfl,Bx.cell h.f.fbx rfl,Bx.thaw h.f.fbx⟩,h.f.gr.size,h.x.bx.lt,h.f.fbx.lt,h.ne⟩
theorem GoS.val(h:GoS w wr sb B s v gd fb G c ve vi ids xb t ps is vv vs)(a:Nat):GoS w (wr.setCell ⟨fb,0,none⟩ (.int .i64 a)) sb B s a gd fb G c ve vi ids xb t ps is vv vs:=by
 obtain⟨e,f,d,av,b,p,q,h⟩:=h;exact⟨e,f,d,av,b,p,q,h.val a⟩
theorem GoS.vals(h:GoS w wr sb B s v gd fb G c ve vi ids xb t ps is vv vs):wr.ownsRow w.heap.size 2 1 vv vs.length (Xt vs)/\(∃a n,vv=.slice a vs.length n/\Xf wr w.heap.size wr.heap.size a vs):=by
 obtain⟨f,g,d,av,b,p,q,h⟩:=h;refine⟨h.x.xv.own,?_⟩;obtain⟨a,n,e⟩:=h.x.xv.form;subst e;exact⟨a,n,rfl,h.x.xv.ints⟩
theorem GoS.pushV{b:Nat}{a:Value}{x:Int}(h:GoS w wr sb B s v gd fb G c ve vi ids xb t ps is vv vs)(g:wr.grownBy w' vv.ownBlock)(j:w'.ownsRow w.heap.size 2 1 a b (Xt vs++[.int .i64 x]))(i:b=vs.length+1)(f:a.ownBlock=vv.ownBlock\/a.ownBlock=some wr.heap.size):GoS w w' sb B s v gd fb G c ve vi ids xb t ps is a (vs++[x]):=by
 obtain⟨n,m,k,av,d,p,q,h⟩:=h;obtain⟨l,e⟩:=h.pushV g j i f;exact⟨l,m,k,av,d,p,q,e⟩
end
def Kh:Code->List Code
 | .loop c=>[c]
 | .seq a b=>Kh a++Kh b
 | .block _ c=>Kh c
 | .scope c=>Kh c
 | .cond _ a b=>Kh a++Kh b
 | _=>[]
noncomputable def gB:Code:=(f31.body.getD .skip)
noncomputable def gB1:Code:=(Kh gB).getD 0 .skip
noncomputable def gB4:Code:=(Kh gB).getD 1 .skip
noncomputable def gB2:Code:=(Kh gB1).getD 0 .skip
noncomputable def gB3:Code:=(Kh gB1).getD 1 .skip
noncomputable def gB5:Code:=(Kh gB4).getD 0 .skip
noncomputable def gB6:Code:=(Kh gB5).getD 0 .skip
theorem Ku(T:Type)(d:T):∀(a:List T)(k:Nat)(f:Nat->T),(∀i (h:i<a.length),f (k+i)=a[i])->a=(List.range' k a.length).map f
 | [],_,_,_=>rfl
 | x::a,k,f,h=>by
  rw[bA,List.range'_succ,eH];have b:=h 0 sP;rw[fW,eM]at b;rw[b];congr 1;exact Ku T d a (k+1) f (fun i c=>by have:=h (i+1) (by simpa using c);rwa[fO,show k+(i+1)=k+1+i by omega]at this)
theorem yu(f:Nat->Value):(List.range' 24 251).map f=(f 24::f 25::f 26::f 27::f 28::f 29::f 30::f 31::f 32::f 33::f 34::f 35::f 36::f 37::f 38::f 39::f 40::f 41::f 42::f 43::f 44::f 45::f 46::f 47::f 48::f 49::f 50::f 51::f 52::f 53::f 54::f 55::f 56::f 57::f 58::f 59::f 60::f 61::f 62::f 63::f 64::f 65::f 66::f 67::f 68::f 69::f 70::f 71::f 72::f 73::f 74::f 75::f 76::f 77::f 78::f 79::f 80::f 81::f 82::f 83::f 84::f 85::f 86::f 87::f 88::f 89::f 90::f 91::f 92::f 93::f 94::f 95::f 96::f 97::f 98::f 99::f 100::f 101::f 102::f 103::f 104::f 105::f 106::f 107::f 108::f 109::f 110::f 111::f 112::f 113::f 114::f 115::f 116::f 117::f 118::f 119::f 120::f 121::f 122::f 123::f 124::f 125::f 126::f 127::f 128::f 129::f 130::f 131::f 132::f 133::f 134::f 135::f 136::f 137::f 138::f 139::f 140::f 141::f 142::f 143::f 144::f 145::f 146::f 147::f 148::f 149::f 150::f 151::f 152::f 153::f 154::f 155::f 156::f 157::f 158::f 159::f 160::f 161::f 162::f 163::f 164::f 165::f 166::f 167::f 168::f 169::f 170::f 171::f 172::f 173::f 174::f 175::f 176::f 177::f 178::f 179::f 180::f 181::f 182::f 183::f 184::f 185::f 186::f 187::f 188::f 189::f 190::f 191::f 192::f 193::f 194::f 195::f 196::f 197::f 198::f 199::f 200::f 201::f 202::f 203::f 204::f 205::f 206::f 207::f 208::f 209::f 210::f 211::f 212::f 213::f 214::f 215::f 216::f 217::f 218::f 219::f 220::f 221::f 222::f 223::f 224::f 225::f 226::f 227::f 228::f 229::f 230::f 231::f 232::f 233::f 234::f 235::f 236::f 237::f 238::f 239::f 240::f 241::f 242::f 243::f 244::f 245::f 246::f 247::f 248::f 249::f 250::f 251::f 252::f 253::f 254::f 255::f 256::f 257::f 258::f 259::f 260::f 261::f 262::f 263::f 264::f 265::f 266::f 267::f 268::f 269::f 270::f 271::f 272::f 273::f 274::[]):=rfl
theorem spr(a:List Value)(h:a.length=251):∃f:Nat->Value,a=(f 24::f 25::f 26::f 27::f 28::f 29::f 30::f 31::f 32::f 33::f 34::f 35::f 36::f 37::f 38::f 39::f 40::f 41::f 42::f 43::f 44::f 45::f 46::f 47::f 48::f 49::f 50::f 51::f 52::f 53::f 54::f 55::f 56::f 57::f 58::f 59::f 60::f 61::f 62::f 63::f 64::f 65::f 66::f 67::f 68::f 69::f 70::f 71::f 72::f 73::f 74::f 75::f 76::f 77::f 78::f 79::f 80::f 81::f 82::f 83::f 84::f 85::f 86::f 87::f 88::f 89::f 90::f 91::f 92::f 93::f 94::f 95::f 96::f 97::f 98::f 99::f 100::f 101::f 102::f 103::f 104::f 105::f 106::f 107::f 108::f 109::f 110::f 111::f 112::f 113::f 114::f 115::f 116::f 117::f 118::f 119::f 120::f 121::f 122::f 123::f 124::f 125::f 126::f 127::f 128::f 129::f 130::f 131::f 132::f 133::f 134::f 135::f 136::f 137::f 138::f 139::f 140::f 141::f 142::f 143::f 144::f 145::f 146::f 147::f 148::f 149::f 150::f 151::f 152::f 153::f 154::f 155::f 156::f 157::f 158::f 159::f 160::f 161::f 162::f 163::f 164::f 165::f 166::f 167::f 168::f 169::f 170::f 171::f 172::f 173::f 174::f 175::f 176::f 177::f 178::f 179::f 180::f 181::f 182::f 183::f 184::f 185::f 186::f 187::f 188::f 189::f 190::f 191::f 192::f 193::f 194::f 195::f 196::f 197::f 198::f 199::f 200::f 201::f 202::f 203::f 204::f 205::f 206::f 207::f 208::f 209::f 210::f 211::f 212::f 213::f 214::f 215::f 216::f 217::f 218::f 219::f 220::f 221::f 222::f 223::f 224::f 225::f 226::f 227::f 228::f 229::f 230::f 231::f 232::f 233::f 234::f 235::f 236::f 237::f 238::f 239::f 240::f 241::f 242::f 243::f 244::f 245::f 246::f 247::f 248::f 249::f 250::f 251::f 252::f 253::f 254::f 255::f 256::f 257::f 258::f 259::f 260::f 261::f 262::f 263::f 264::f 265::f 266::f 267::f 268::f 269::f 270::f 271::f 272::f 273::f 274::[]):=by
 have e:=Ku Value undef a 24 (fun i=>a.getD (i-24) undef) (fun i b=>by simp[b]);rw[h]at e;exact⟨fun i=>a.getD (i-24) undef,e.trans (yu _)⟩
theorem Tryz.infoPhiD:(prog.info? 96).map (fun i=>(i.zero,i.size,i.bytes))=some (some (.agg #[.int .i64 0,.slice none 0 0]),2,32):=vZ
structure X2 where
 j:Nat
 vv:Value
 tl:List Value
theorem lp2{Y:Exit->Act->World->Prop}(w:World)(i B:Nat)(S:Sr)(v:Nat)(J:GdR)(d G r:Nat)(U V:Value)(P:List Int)(c:Nat)(T:Yj)(R:Bool)(b:List Int)(a:Nat)(c1 c2 c3 c4 c5 H I s t u y z A C D E F:Value)(br:a<=3)(hv:v<=5000)(bt:b.length<=4000)
 (af:∀(f:Value)(e:List Value)(w':World),e.length=251->GoS w w' i B S (v+a) J d G r U V P c T (VK a v) [] f (b++ZS a v)->Y (.exit 2) ⟨(.pointer (some ⟨i,0,none⟩)::c1::c2::c3::c4::c5::.bool R::.pointer (some ⟨d,0,none⟩)::H::I::s::t::f::.pointer (some ⟨c,0,none⟩)::u::.int .i64 ((a:Nat):Int)::.int .i64 ((a:Nat):Int)::y::z::A::C::D::E::F::e).toArray,[]⟩ w')
 (f:Value) (e:List Value) (wr:World) (h:e.length=251) (Z:Hid (GoS w wr i B S v J d G r U V P c T [] [] f b)) :
 Code.wp prog (Code.loop gB2) Y ⟨(.pointer (some ⟨i,0,none⟩)::c1::c2::c3::c4::c5::.bool R::.pointer (some ⟨d,0,none⟩)::H::I::s::t::f::.pointer (some ⟨c,0,none⟩)::u::.int .i64 ((a:Nat):Int)::.int .i64 ((0:Nat):Int)::y::z::A::C::D::E::F::e).toArray,[]⟩ wr:=by
 have HX:=Xa af;clear af;obtain⟨i0,a1,bb,bc,bd⟩:=Xq Tryz.infoPhiD;obtain⟨j0,a2,a8,a9,ba⟩:=Xq Tryz.info2';refine iY (fun m wr=>∃x:X2,m=⟨(.pointer (some ⟨i,0,none⟩)::c1::c2::c3::c4::c5::.bool R::.pointer (some ⟨d,0,none⟩)::H::I::s::t::x.vv::.pointer (some ⟨c,0,none⟩)::u::.int .i64 ((a:Nat):Int)::.int .i64 ((x.j:Nat):Int)::y::z::A::C::D::E::F::x.tl).toArray,[]⟩/\x.tl.length=251/\x.j<=a/\Hid (GoS w wr i B S (v+x.j) J d G r U V P c T (VK x.j v) [] x.vv (b++ZS x.j v))) (fun m _=>a-(intOf (m.tmps.getD 16 undef)).toNat) ⟨⟨0,f,e⟩,rfl,h,aN _,Xa (by
  have:=Z.out;simpa [VK,ZS]using this)⟩ ?_
 clear Z h;rintro m wr ⟨⟨j,f,e⟩,rfl,h,hj,g⟩;dsimp only at h hj g |-
 conv=>arg 2;whnf
 obtain⟨bm,rfl⟩:=spr e h;clear h;obtain⟨bx,pv,iv,av,ev,b1,b2,K⟩:=g.out;obtain⟨pa,ar,rfl⟩:=K.x.xp.form;have l:=Xa K;clear K;rw[KI]at l;have x0:Cl wr c 0 (.slice pa j ar):=Bx.cell l.x.bx rfl;obtain⟨⟨f1,f0,fz⟩,bs,bw,bo,bv⟩:=g.fn;by_cases bq:j<a
 ·have a4:(j:Int)<a:=oM
  have X:Hid (∃q ln Q,f=.slice q ln Q/\ln=(b++ZS j v).length):=Xa (by obtain⟨_,q,Q,ay,_⟩:=g.vals;exact⟨q,_,Q,ay,rfl⟩);have p:Hid ((VK j v).length=j/\(b++ZS j v).length=b.length+j):=Xa ⟨KI _ _,by rw[aQ,Ub]⟩
  go_wp2_with (at_builtin;refine bT _ rfl _ _ 85 rfl w.heap.size 96 i0 (.agg #[.int .i64 0,.slice none 0 0]) 2 32 underlying85 a1 bb bc bd rfl vY _ (VK j v).length (Yh Zz (VK j v)) rfl (l.x.xp.own.alloc _) ⟨wr.heap.size,0,none⟩ 1 1 [.int .i64 ((v:Int)+(j:Int)),.slice none 0 0] rfl rfl (World.news_of_block (World.alloc_heap_new _ _)) ?c2 ?c3 ?c4 ?c5 ?_)
  case c2=>intro b3 hu;simp at hu;rcases hu with rfl | rfl<;>rfl
  case c3=>unfold maxLen;have:=p.out;omega
  case c4=>have:=p.out;omega
  case c5=>simp;omega
  intro v8 W N al a5 aa;obtain⟨n,bz,ad⟩:=(l.box _).pushP al N rfl (by rw[aO];exact aa);obtain⟨g8,ax,rfl,M,L⟩:=Xm N oM;have k:=Xa ad;clear M L a5 aa N al ad x0 f1 f0 fz g;have k0:Cl W c 0 (.slice pa j ar):=Bx.cell n rfl;have kz:=Bx.thaw n;have bi:=Xa n;clear n;have az:(W.setCell ⟨c,0,none⟩ (.slice (some ⟨g8,0,none⟩) ((VK j v).length+1) ax)).cell? ⟨d,0,none⟩=some (.int .i64 ((v:Int)+(j:Int))):=by
   have:=Bx.cell (q:=0) k.f.fbx rfl;simpa using this
  have a0:=Bx.thaw k.f.fbx;have a7:=k.f.gr.size;rw[Xd]at a7;obtain⟨va,ln,vc,rfl,aq⟩:=X.out;have bf:=Xa aq;clear aq X;rw[p.1]at *
  go_wp2_with (at_builtin;refine bT _ rfl _ _ 27 rfl w.heap.size 2 j0 (.int .i64 0) 1 8 underlying27 a2 a8 a9 ba rfl vY _ (b++ZS j v).length (Xt (b++ZS j v)) rfl (k.x.xv.own.alloc _) ⟨W.heap.size,0,none⟩ 1 1 [.int .i64 ((v:Int)+(j:Int))] rfl rfl ?c1 ?c2 ?c3 ?c4 ?c5 ?_)
  case c2=>rfl
  case c3=>unfold maxLen;have:=Ub j v;omega
  case c4=>have:=Ub j v;omega
  case c5=>omega
  intro v9 w9 O ap a6 ab;obtain⟨b0,ac⟩:=(k.box _).pushV ap O sP (by rw[aO,Xd];exact ab);obtain⟨g9,bl,rfl,M,L⟩:=Xm O oM;have o:=Xa ac;clear M L a6 ab O ap ac az a0 k0 kz;have bn:w9.cell? ⟨d,0,none⟩=some (.int .i64 ((v:Int)+(j:Int))):=by
   have:=Bx.cell (q:=0) o.f.fbx rfl;simpa using this
  have bp:=Bx.thaw o.f.fbx
  go_wp2_with fail
  refine⟨⟨⟨j+1,_,_⟩,rfl,rfl,(by show j+1<=a;omega),Xa ?_⟩,by simp[intOf];omega⟩;have aj:=o.val (v+(j+1));rw[wA,vX,<-cK];rw[show((v+(j+1):Nat):Int)=(v:Int)+(j:Int)+1 by omega]at aj;exact⟨_,_,_,_,_,_,_,aj⟩
 ·have a4:¬(j:Int)<a:=oM
  have a3:j=a:=oM;subst a3
  go_wp2_with fail
  exact HX _ _ _ rfl g
theorem Tryz.infoInsD:(prog.info? 98).map (fun i=>(i.zero,i.size,i.bytes))=some (some (.agg #[.int .i64 0,.int .i64 0,.int .i64 0,.int .i64 0,.int .i64 0]),5,40):=vZ
structure X3 where
 j:Nat
 k:Nat
 s:Sr
 vs:List Int
 v:Nat
 is:List Yg
 vv:Value
 c19:Value
 tl:List Value
theorem lp3{a5:Exit->Act->World->Prop}(w:World)(h B:Nat)(N:GdR)(l G J:Nat)(T U:Value)(P:List Int)(e:Nat)(S:Yj)(R:List Ph)(c:Bool)(b:Nat)(z:Sr)(j:List Int)(i:Nat)(g:List Yg)(c1 c2 c3 c4 c5 c8 c9 X Y Z aa ab ac ad af aj:Value)(cv:b<=10)(hv:i<=4000)(c6:j.length<=4000)(ct:g.length<=1000)
 (ba:∀(s:Sr)(v:Nat)(a:List Int)(d:List Yg)(r D:Value)(o:List Value)(w':World),o.length=251->(d,a,v,s)=Z9 c b z j i g->GoS w w' h B s v N l G J T U P e S R d r a->a5 (.exit 4) ⟨(.pointer (some ⟨h,0,none⟩)::c1::c2::c3::c4::c5::.bool c::.pointer (some ⟨l,0,none⟩)::c8::c9::X::Y::r::.pointer (some ⟨e,0,none⟩)::Z::aa::ab::.int .i64 ((b:Nat):Int)::.int .i64 ((b:Nat):Int)::D::ac::ad::af::aj::o).toArray,[]⟩ w')
 (r D:Value) (o:List Value) (wr:World) (u:o.length=251) (a6:Hid (GoS w wr h B z i N l G J T U P e S R g r j)) :
 Code.wp prog (Code.loop gB3) a5 ⟨(.pointer (some ⟨h,0,none⟩)::c1::c2::c3::c4::c5::.bool c::.pointer (some ⟨l,0,none⟩)::c8::c9::X::Y::r::.pointer (some ⟨e,0,none⟩)::Z::aa::ab::.int .i64 ((b:Nat):Int)::.int .i64 ((0:Nat):Int)::D::ac::ad::af::aj::o).toArray,[]⟩ wr:=by
 have HX:=Xa ba;clear ba;obtain⟨i0,br,cb,cc,cd⟩:=Xq Tryz.infoInsD;obtain⟨j0,bs,b8,b9,ca⟩:=Xq Tryz.info2';refine iY (fun I wr=>∃x:X3,I=⟨(.pointer (some ⟨h,0,none⟩)::c1::c2::c3::c4::c5::.bool c::.pointer (some ⟨l,0,none⟩)::c8::c9::X::Y::x.vv::.pointer (some ⟨e,0,none⟩)::Z::aa::ab::.int .i64 ((b:Nat):Int)::.int .i64 ((x.j:Nat):Int)::x.c19::ac::ad::af::aj::x.tl).toArray,[]⟩/\x.tl.length=251/\x.j+x.k=b/\Hid (Z9 c x.k x.s x.vs x.v x.is=Z9 c b z j i g)/\Hid (x.v<=i+x.j/\x.vs.length<=j.length+x.j/\x.is.length<=g.length+x.j)/\Hid (GoS w wr h B x.s x.v N l G J T U P e S R x.is x.vv x.vs)) (fun I _=>b-(intOf (I.tmps.getD 18 undef)).toNat) ⟨⟨0,b,z,j,i,g,r,D,o⟩,rfl,u,by show 0+b=b;omega,Xa rfl,Xa ⟨aA _,aA _,aA _⟩,a6⟩ ?_;clear a6 u;rintro I wr ⟨⟨n,q,s,a,v,d,r,D,o⟩,rfl,u,bv,F,f,k⟩;dsimp only at u bv F f k |-
 conv=>arg 2;whnf
 obtain⟨cr,rfl⟩:=spr o u;clear u;cases q with
 | succ q =>
  have bx:(n:Int)<b:=oM;obtain⟨⟨f1,L,M⟩,cw,db,cs,da⟩:=k.fn;obtain⟨_,va,vc,K,bd⟩:=k.vals;obtain⟨ln,ay⟩:∃ln,ln=a.length:=⟨_,rfl⟩;rw[<-ay]at K;subst K;have a1:=Xa ay;clear ay;have a3:=Xa bd;clear bd;have cz:v<=5000:=oN f.out
  have bw:ln<=5000:=oP f.out a1.out
  go_wp2_with fail
  have b6:h<w.heap.size:=by obtain⟨ce,pv,iv,av,K,cf,ch,p⟩:=k.out;exact p.f.lt
  refine(uu h B s va ln vc a w.heap.size wr.heap.size v c wr (Xa k.dr) a3 a1 bw b6 (aA _)).mono ?_;rintro al A ⟨rfl,m,hg⟩;have V:Hid ((if dB (instrP s a v c).1.op=true then Z9 c q (instrP s a v c).2 (a++[(v:Int)]) (v+1) (d++[(instrP s a v c).1])else Z9 c q (instrP s a v c).2 a v (d++[(instrP s a v c).1]))=Z9 c b z j i g):=F;generalize instrP s a v c=bp at *;obtain⟨x,s'⟩:=bp;unfold Yg.agg;dsimp only at m V |-;have W:=Xa (k.call hg m);clear m hg F k a3 f1 L M
  go_wp2_with fail
  have t:=Xa (W.box (.cells #[.int .i64 x.op,.int .i64 x.dst,.int .i64 x.a,.int .i64 x.b,.int .i64 x.imm] 98));have H:Hid (Bx (A.alloc (.cells #[.int .i64 x.op,.int .i64 x.dst,.int .i64 x.a,.int .i64 x.b,.int .i64 x.imm] 98)) A.heap.size #[.int .i64 x.op,.int .i64 x.dst,.int .i64 x.a,.int .i64 x.b,.int .i64 x.imm] 98):=Xa (Bx.new _ _ _);have bn:Hid (A.heap.size≠l/\A.heap.size≠e):=Xa (oN W.fn);clear W;generalize A.alloc _=w2 at *;generalize A.heap.size=y at *;refine(dg x.op w2).mono ?_;rintro al w3 ⟨rfl,b7⟩;subst b7
  go_upto_if 167 with fail
  go_cut [12] from 154 to 182 (fun bq wx=>Hid (Bx wx y #[.int .i64 x.op,.int .i64 x.dst,.int .i64 x.a,.int .i64 x.b,.int .i64 x.imm] 98)/\Hid (GoS w wx h B s' (if dB x.op=true then v+1 else v) N l G J T U P e S R d bq (if dB x.op=true then a++[(v:Int)]else a)))
  case first =>
   cases m:dB x.op with
   | false =>
    go_wp2
    go_meet;rw[aM (by rw[m];simp),aM (by rw[m];simp)];exact⟨H,t⟩
   | true =>
    obtain⟨⟨f1,L,M⟩,cx,-⟩:=t.fn
    go_wp2_with (at_builtin;refine bT _ rfl _ _ 27 rfl w.heap.size 2 j0 (.int .i64 0) 1 8 underlying27 bs b8 b9 ca rfl vY _ a.length (Xt a) rfl (t.vals.1.alloc _) ⟨w3.heap.size,0,none⟩ 1 1 [.int .i64 (v:Int)] rfl rfl ?c1 ?c2 ?c3 ?c4 ?c5 ?_)
    case c1=>exact Yf _ _ _
    case c2=>intro ci E;simp at E;subst E;rfl
    case c3=>unfold maxLen;have:=f.out;omega
    case c4=>have:=f.out;omega
    case c5=>simp;omega
    intro v9 w9 a0 aq b5 a8;have a2:=Xa ((t.box _).pushV aq a0 rfl (by rw[aO];exact a8));have bm:=Xa ((H.box _).grown aq (fun al=>Z5 t.vals.1 H vY al.symm));obtain⟨g9,cq,rfl,ar,ap⟩:=Xm a0 oM;clear ar ap b5 a8 a0 aq L M f1;obtain⟨⟨f1,L,M⟩,-⟩:=a2.fn
    go_wp2
    go_meet;have bb:=a2.val (v+1);rw[show((v+1:Nat):Int)=(v:Int)+1 by omega]at bb;rw[aU m,aU m];exact⟨Xa (bm.other bn.1),Xa bb⟩
  case rest =>
   obtain⟨C,bo⟩:=hcut;clear t H;have a4:Hid ((if dB x.op=true then v+1 else v)<=i+(n+1)/\(if dB x.op=true then a++[(v:Int)]else a).length<=j.length+(n+1)):=Xa (by
    have:=f.out;split
    ·simp;omega
    ·omega)
   have bl:Hid (Z9 c q s' (if dB x.op=true then a++[(v:Int)]else a) (if dB x.op=true then v+1 else v) (d++[x])=Z9 c b z j i g):=Xa (by
    rw[<-V.out];split<;>rfl)
   generalize (if dB x.op=true then v+1 else v)=v1 at *;generalize (if dB x.op=true then a++[(v:Int)]else a)=cj at *;clear V;obtain⟨ce,pv,iv,av,K,cf,ch,p⟩:=bo.out;obtain⟨qa,bf,hq⟩:=p.x.xi.form;obtain⟨Q,ax⟩:∃Q,Q=d.length:=⟨_,rfl⟩;rw[<-ax]at hq;subst hq;have ck:=Xa ax;clear ax;have x1:Cl wc e 1 (.slice qa Q bf):=Bx.cell p.x.bx rfl;have b0:Cl wc y 0 (.int .i64 x.op):=Bx.cell C rfl;have b1:Cl wc y 1 (.int .i64 x.dst):=Bx.cell C rfl;have b2:Cl wc y 2 (.int .i64 x.a):=Bx.cell C rfl;have b3:Cl wc y 3 (.int .i64 x.b):=Bx.cell C rfl;have b4:Cl wc y 4 (.int .i64 x.imm):=Bx.cell C rfl;have HB:=Xa p;have c7:=p.f.gr.size;clear p
   go_wp2_with (at_builtin;refine bT _ rfl _ _ 86 rfl w.heap.size 98 i0 (.agg #[.int .i64 0,.int .i64 0,.int .i64 0,.int .i64 0,.int .i64 0]) 5 40 underlying86 br cb cc cd rfl vY _ d.length (YC d) rfl (HB.x.xi.own.alloc _) ⟨wc.heap.size,0,none⟩ 1 1 [.int .i64 x.op,.int .i64 x.dst,.int .i64 x.a,.int .i64 x.b,.int .i64 x.imm] rfl rfl (World.news_of_block (World.alloc_heap_new _ _)) ?c2 ?c3 ?c4 ?c5 ?_)
   case c2=>intro ci E;simp at E;rcases E with rfl | rfl | rfl | rfl | rfl<;>rfl
   case c3=>unfold maxLen;have:=f.out;omega
   case c4=>have:=f.out;omega
   case c5=>simp;omega
   intro v8 w8 az bc bz a7;obtain⟨O,dc,a9⟩:=(HB.box _).pushI bc az rfl (by rw[aO];exact a7);obtain⟨g8,cp,rfl,ar,ap⟩:=Xm az oM;have bi:=Xa a9;clear ar ap bz a7 az bc a9 x1 b0 b1 b2 b3 b4;have k0:Cl w8 e 1 (.slice qa Q bf):=Bx.cell O rfl;have kz:=Bx.thaw O;have cl:=Xa O;clear O
   go_wp2_with fail
   refine⟨⟨⟨n+1,q,s',cj,v1,d++[x],_,_,_⟩,rfl,rfl,(by show n+1+q=b;omega),bl,Xa ⟨a4.1,a4.2,?_⟩,Xa ⟨_,_,_,_,_,_,_,bi⟩⟩,by simp[intOf];omega⟩;have:=f.out;show(d++[x]).length<=g.length+(n+1);simp;omega
 | zero =>
  have bx:¬(n:Int)<b:=oM;have bt:n=b:=oM;subst bt
  go_wp2_with fail
  exact HX _ _ _ _ _ _ _ _ rfl F k
end Go.Proofs.YtghnlncgiihhgaaGreatDoor
