/-
  stockadelaw03.awake answers true. No conditions.
-/
import Derived.Test.YthkhbjjiffpkoaaAdded
import Derived.Test.YthkhbjjiffpkoaaApp
namespace Go.Proofs.Ythkhbjjiffpkoaa
open Go.RowKit

set_option maxRecDepth 100000 in
set_option maxHeartbeats 1000000 in
theorem awake03 (w : World) : Calls Try.prog 8 #[] w fun e w' => e = .returned (.bool true) ∧ Below w.heap.size w w' := by
  have k0 := of_any (Bs.nil w) (by omega)
  rw [show ((cks [] : Nat) : Int) = 65535 from rfl] at k0
  have K0 := Lib.hid k0
  clear k0
  go_enter Try.func8, Try.ntmps8
  go_wp2_with fail
  refine K0.out.mono ?_
  rintro e w1 ⟨rfl, b1⟩
  have H1 := Lib.hid b1
  clear b1
  go_wp2_with fail
  have k1 := of_any (Bs.lit w1 [1, 2] 2 rfl (by unfold maxLen; omega) #[.int .u8 1, .int .u8 2] rfl 5) (by omega)
  rw [show ((cks [1, 2] : Nat) : Int) = 65277 from rfl] at k1
  refine k1.mono ?_
  rintro e w2 ⟨rfl, b2⟩
  have H2 := Lib.hid ((H1.out.alloc H1.out.size _).trans (b2.mono (by have := H1.out.size; simp; omega)))
  clear b2 k1
  go_wp2_with fail
  go_ret
  exact ⟨rfl, H2.out⟩
end Go.Proofs.Ythkhbjjiffpkoaa
