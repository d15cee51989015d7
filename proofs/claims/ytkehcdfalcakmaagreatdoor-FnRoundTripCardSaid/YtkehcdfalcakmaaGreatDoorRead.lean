import Derived.Test.YtkehcdfalcakmaaGreatDoorPure
import Derived.ProofKit
import Derived.Lib.SmallJoins
namespace Go.Proofs.YtkehcdfalcakmaaGreatDoor
open Go.RowKit Go.Deep
variable {H : Type} {enc : TypeId × Value -> H} {P : Program} {w : World} {base : Nat} {spare : Nat -> Bool} {held : Bool}
theorem JH{a:Addr}{v:Value}(h:w.cell? a=some v):a.block<w.heap.size:=by
 unfold World.cell? at h;split at h
 ·rename_i c _ _ hb
  exact(Array.getElem?_eq_some_iff.1 hb).1
 ·cases h
theorem ZbX{α:Type}[Inhabited α]{t e:TypeId}{fuel s:Nat}{cs:List Value}{x:DataW H × List MemPlace}(ht:P.underlying t=some (.slice e))(hs:P.cellsOf e=s)(hs0:0<s)(Q:Nat->Nat->α->Prop)
 (hQ:∀b o cs' n d,(∀j,j<s->w.cell? ⟨b,o+j,none⟩=cs'[j]?)->cs'.length=s->DataW.trod enc P w base spare held n e cs'=some d->∃x,Q b o x)
 (h:DataW.trod enc P w base spare held fuel t cs=some x) :
 ∃(a:Option Addr)(xs:List α)(c:Nat),cs=[.slice a xs.length c]/\xs.length<=maxLen/\∀i (hi:i<xs.length),∃b o,a=some ⟨b,o,none⟩/\b<w.heap.size/\Q b (o+i*s) xs[i]:=by
 rcases open_slice ht h with⟨rfl,_⟩ | ⟨a,len,cap,m,n,D,Pl,rfl,_,hl,hm,hmm,_,hx⟩
 ·exact⟨none,[],0,rfl,Nat.zero_le _,fun i hi=>absurd hi (by simp)⟩
 rw[hs]at hx;have hlm:len<=m:=by rw[hmm];split<;>omega
 have cellsOf:∀i,i<len->∃cs',cs'.length=s/\(∀j,j<s->w.cell? ((a.add (i*s)).add j)=cs'[j]?)/\DataW.trod enc P w base spare held n e cs'=some (D i,Pl i):=fun i hi=>by
  obtain⟨cs',h1,h2⟩:=hx i (by omega);obtain⟨_,h3,h4⟩:=World.cells?_some h1;exact⟨cs',h3,h4,h2⟩
 obtain⟨b,o,spot⟩:=a;by_cases hlen:len=0
 ·subst hlen
  exact⟨some ⟨b,o,spot⟩,[],cap,rfl,Nat.zero_le _,fun i hi=>absurd hi (by simp)⟩
 have hspot:spot=none:=by
  obtain⟨cs',h1,h2,_⟩:=cellsOf 0 (by omega);have h3:=h2 0 hs0;rw[List.getElem?_eq_getElem (by omega)]at h3;simpa [Addr.add]using World.cell?_spot h3
 subst hspot;obtain⟨f,hf⟩:=choose_lt (α:=α) (n:=len) (p:=fun i x=>b<w.heap.size/\Q b (o+i*s) x) (fun i hi=>by
  obtain⟨cs',h1,h2,h3⟩:=cellsOf i hi;have h4:∀j,j<s->w.cell? ⟨b,o+i*s+j,none⟩=cs'[j]?:=fun j hj=>by
   have:=h2 j hj;rw[Addr.add_mid,Addr.add_mid]at this;exact this
  obtain⟨x,hx⟩:=hQ b (o+i*s) cs' n _ h4 h1 h3;have h5:=h4 0 hs0;rw[List.getElem?_eq_getElem (by omega)]at h5;exact⟨x,JH h5,hx⟩)
 refine⟨some ⟨b,o,none⟩,(List.range len).map f,cap,by simp,by simp;omega,fun i hi=>?_⟩;simp only[List.length_map,List.length_range]at hi;obtain⟨h1,h2⟩:=hf i hi;exact⟨b,o,rfl,h1,by simpa using h2⟩
end Go.Proofs.YtkehcdfalcakmaaGreatDoor
