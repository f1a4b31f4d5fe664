/-
  stockadelaw05.awake answers true; numbers cut by a remainder. No conditions.
-/
import Derived.Test.YtheiljdilbobdaaDoorEther
import Derived.Test.YtheiljdilbobdaaDoorBuild
namespace Go.Proofs.YtheiljdilbobdaaDoor
open Go.RowKit

theorem num_mod5 (a : Int) (m : Int) (h0 : 0 < m) (h1 : m ≤ 1000000) : 0 ≤ wrap64 ((IntKind.u64.wrap a).tmod m) ∧ wrap64 ((IntKind.u64.wrap a).tmod m) < m := by
  have h : IntKind.u64.wrap a = a % 18446744073709551616 := rfl
  have h2 : 0 ≤ IntKind.u64.wrap a := by rw [h]; omega
  rw [Int.tmod_eq_emod_of_nonneg h2]
  have h3 := Int.emod_nonneg (IntKind.u64.wrap a) (show m ≠ 0 by omega)
  have h4 := Int.emod_lt_of_pos (IntKind.u64.wrap a) h0
  generalize IntKind.u64.wrap a % m = x at h3 h4
  unfold wrap64
  omega

set_option maxRecDepth 100000 in
set_option maxHeartbeats 1000000 in
theorem awake05 (w : World) : Calls Tryd.prog 6 #[] w fun e w' => e = .returned (.bool true) ∧ Below w.heap.size w w' := by
  have b1 : Bs (w.alloc (.cells #[.int .u8 0, .int .u8 0, .int .u8 0, .int .u8 0, .int .u8 0, .int .u8 0, .int .u8 0, .int .u8 0, .int .u8 0, .int .u8 0, .int .u8 0, .int .u8 0, .int .u8 8, .int .u8 0] 5)) (some ⟨w.heap.size, 0, none⟩) 14 14 [0, 0, 0, 0, 0, 0, 0, 0, 0, 0, 0, 0, 8, 0] := Bs.lit w [0, 0, 0, 0, 0, 0, 0, 0, 0, 0, 0, 0, 8, 0] 14 rfl (by unfold maxLen; omega) _ rfl _
  have k1 := parse_ether b1
  have e1 : (etherv [0, 0, 0, 0, 0, 0, 0, 0, 0, 0, 0, 0, 8, 0] 14).1 = 2048 ∧ (etherv [0, 0, 0, 0, 0, 0, 0, 0, 0, 0, 0, 0, 8, 0] 14).2.1 = 14 ∧ (etherv [0, 0, 0, 0, 0, 0, 0, 0, 0, 0, 0, 0, 8, 0] 14).2.2.code = 0 := by decide +kernel
  rw [e1.1, e1.2.1] at k1
  have K1 := Lib.hid (And.intro k1 e1.2.2)
  have h1 : Below w.heap.size w (w.alloc (.cells #[.int .u8 0, .int .u8 0, .int .u8 0, .int .u8 0, .int .u8 0, .int .u8 0, .int .u8 0, .int .u8 0, .int .u8 0, .int .u8 0, .int .u8 0, .int .u8 0, .int .u8 8, .int .u8 0] 5)) := (Below.refl _ _).alloc (Nat.le_refl _) _
  have H1 := Lib.hid h1
  clear b1 k1 h1 e1
  go_enter Tryd.func6, Tryd.ntmps6
  go_wp2_with fail
  refine K1.out.1.mono ?_
  rintro e w1 ⟨v1, rfl, t1, b1⟩
  obtain rfl := t1.none_ K1.out.2
  have H2 := Lib.hid (H1.out.trans (b1.mono H1.out.size))
  clear t1 b1
  go_wp2_with fail
  go_ret
  exact ⟨rfl, H2.out⟩
end Go.Proofs.YtheiljdilbobdaaDoor
