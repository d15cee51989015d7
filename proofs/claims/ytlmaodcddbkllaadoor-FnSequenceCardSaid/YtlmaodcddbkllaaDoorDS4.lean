import Derived.Test.YtlmaodcddbkllaaDoorDS3a
import Derived.Test.YtlmaodcddbkllaaDoorDS3b
import Derived.Test.YtlmaodcddbkllaaDoorDS3c
import Derived.Test.YtlmaodcddbkllaaDoorDS3d
/-
  The draw of moves.
-/
namespace Go.Proofs.YtlmaodcddbkllaaDoor
open Go.RowKit

theorem drawSeq_any (a : Option Addr) (n c : Nat) (bs : List UInt8) (L B : Nat) (w : World) (ha : Hid (BytesAt w L B a bs)) (hx : Hid (n = bs.length)) (hn : n ≤ 1048576) (hB : B ≤ w.heap.size) :
    Calls Tryd.prog 22 #[.slice a n c] w fun e w' => ∃ v, e = .returned v ∧ RowKit.Below w.heap.size w w' ∧ w'.ownsRow w.heap.size 58 2 v (drawP (srcP bs)).length (mvV (drawP (srcP bs))) := by
  obtain ⟨r1, s1, h1⟩ : ∃ r s', nextP (srcP bs) (3 + 3 * (srcP bs).size) = (r, s') := ⟨_, _, rfl⟩
  obtain ⟨r2, s2, h2⟩ : ∃ r s', nextP s1 2 = (r, s') := ⟨_, _, rfl⟩
  by_cases z2 : r2 = 0
  · obtain ⟨r3, s3, h3⟩ : ∃ r s', nextP s2 8 = (r, s') := ⟨_, _, rfl⟩
    obtain ⟨r4, s4, h4⟩ : ∃ r s', nextP s3 10 = (r, s') := ⟨_, _, rfl⟩
    by_cases z4 : r4 = 0
    · exact drawSeq_c a n c bs L B w ha hx hn hB _ s1 s2 s3 s4 r1 r2 r3 r4 (hide rfl) (hide h1) (hide h2) (hide h3) (hide h4) z2 z4
    · exact drawSeq_a a n c bs L B w ha hx hn hB _ s1 s2 s3 s4 r1 r2 r3 r4 (hide rfl) (hide h1) (hide h2) (hide h3) (hide h4) z2 z4
  · obtain ⟨r4, s4, h4⟩ : ∃ r s', nextP s2 10 = (r, s') := ⟨_, _, rfl⟩
    by_cases z4 : r4 = 0
    · exact drawSeq_d a n c bs L B w ha hx hn hB _ s1 s2 s4 r1 r2 r4 (hide rfl) (hide h1) (hide h2) (hide h4) z2 z4
    · exact drawSeq_b a n c bs L B w ha hx hn hB _ s1 s2 s4 r1 r2 r4 (hide rfl) (hide h1) (hide h2) (hide h4) z2 z4
end Go.Proofs.YtlmaodcddbkllaaDoor
