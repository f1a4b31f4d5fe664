/-
  stockadelaw02.awake answers true. No conditions.
-/
import Derived.Test.YtpjacgnhpcegaaaOctOk
import Derived.Test.YtpjacgnhpcegaaaPut
import Derived.Test.YtpjacgnhpcegaaaSame
namespace Go.Proofs.Ytpjacgnhpcegaaa
open Go.RowKit

set_option maxRecDepth 100000 in
set_option maxHeartbeats 1000000 in
theorem awake02 (w : World) : Calls Try.prog 4 #[] w fun e w' => e = .returned (.bool true) ∧ Below w.heap.size w w' := by
  have b1 : Bs (w.alloc (.cells #[.int .u8 1, .int .u8 2] 5)) (some ⟨w.heap.size, 0, none⟩) 2 2 [1, 2] := Bs.lit w [1, 2] 2 rfl (by unfold maxLen; omega) _ rfl _
  have k1 := u16_ok b1 0 (by omega)
  rw [show be (([1, 2] : List UInt8).drop 0 |>.take 2) = 258 from rfl] at k1
  have K1 := Lib.hid k1
  have h1 : Below w.heap.size w (w.alloc (.cells #[.int .u8 1, .int .u8 2] 5)) := (Below.refl _ _).alloc (Nat.le_refl _) _
  have H1 := Lib.hid h1
  clear b1 k1 h1
  go_enter Try.func4, Try.ntmps4
  go_wp2_with fail
  refine K1.out.mono ?_
  rintro e w' ⟨rfl, rfl⟩
  go_wp2_with fail
  have h2 := (H1.out.alloc H1.out.size (.cells #[.int .u8 9] 5))
  have H2 := Lib.hid h2
  clear h2
  refine (put16_any (Bs.lit_at _ (w.heap.size + 1) (by simp) [9] 1 rfl (by unfold maxLen; omega) _ rfl _) 258 (by omega)).mono ?_
  rintro e w1 ⟨v1, rfl, o1, b1⟩
  obtain ⟨A1, c1, rfl, hB⟩ := Bs.of_own o1
  have H3 := Lib.hid (And.intro hB (H2.out.trans (b1.mono H2.out.size)))
  clear o1 b1 hB
  go_wp2_with fail
  refine (bytes_same (l := [9, 1, 2]) (H3.out.1.later ((Below.refl _ _).alloc (Nat.le_refl _) _) (Nat.le_refl _)) (Bs.lit _ [9, 1, 2] 3 rfl (by unfold maxLen; omega) _ rfl _)).mono ?_
  rintro e w' ⟨rfl, rfl⟩
  go_wp2_with fail
  go_ret
  exact ⟨rfl, H3.out.2.alloc H3.out.2.size _⟩
end Go.Proofs.Ytpjacgnhpcegaaa
