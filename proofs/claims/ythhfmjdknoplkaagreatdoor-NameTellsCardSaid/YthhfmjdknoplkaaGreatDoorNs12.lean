/-
  Package name's capital, odd; what may stand in a label. No conditions.
-/
import Derived.Test.YthhfmjdknoplkaaGreatDoorSpec12
import Derived.Test.YthhfmjdknoplkaaGreatDoorOctE
import Derived.Test.YthhfmjdknoplkaaGreatDoorFar
namespace Go.Proofs.YthhfmjdknoplkaaGreatDoor
open Go.RowKit
set_option maxRecDepth 100000

def capB (c : UInt8) : Prop := 65 ≤ c.toNat ∧ c.toNat ≤ 90
instance (c : UInt8) : Decidable (capB c) := by unfold capB; infer_instance
theorem capital_any (c : UInt8) (w : World) : Calls Tryz.prog 68 #[.int .u8 c.toNat] w fun e w' => e = .returned (.bool (decide (capB c))) ∧ w = w' := by
  by_cases h0 : 65 ≤ c.toNat
  · have e1 : decide (capB c) = decide ((c.toNat : Int) ≤ 90) := decide_eq_decide.2 ⟨fun h => by have := h.2; omega, fun h => ⟨h0, by omega⟩⟩
    rw [e1]
    clear e1
    go_enter Tryz.func68, Tryz.ntmps68
    go_wp2
    go_ret
    exact ⟨rfl, rfl⟩
  · rw [decide_eq_false (show ¬ capB c from fun h => h0 h.1)]
    go_enter Tryz.func68, Tryz.ntmps68
    go_wp2
    go_ret
    exact ⟨rfl, rfl⟩
theorem odd_any (c : UInt8) (w : World) : Calls Tryz.prog 54 #[.int .u8 c.toNat] w fun e w' => e = .returned (.bool (decide (¬ sign c))) ∧ w = w' := by
  by_cases h0 : c.toNat < 33
  · rw [decide_eq_true (show ¬ sign c from fun h => by unfold sign at h; omega)]
    go_enter Tryz.func54, Tryz.ntmps54
    go_wp2_with fail
    go_ret
    exact ⟨rfl, rfl⟩
  · by_cases h1 : 126 < c.toNat
    · rw [decide_eq_true (show ¬ sign c from fun h => by unfold sign at h; omega)]
      go_enter Tryz.func54, Tryz.ntmps54
      go_wp2_with fail
      go_ret
      exact ⟨rfl, rfl⟩
    · by_cases h2 : c.toNat = 46
      · rw [decide_eq_true (show ¬ sign c from fun h => by unfold sign at h; omega)]
        go_enter Tryz.func54, Tryz.ntmps54
        go_wp2_with fail
        go_ret
        exact ⟨rfl, rfl⟩
      · have e : decide (¬ sign c) = (decide ((c.toNat : Int) < 33) || decide (126 < (c.toNat : Int)) || (c.toNat : Int) == 46 || decide (capB c)) := by
          rw [decide_eq_false (show ¬ (c.toNat : Int) < 33 by omega), decide_eq_false (show ¬ 126 < (c.toNat : Int) by omega), beq_eq_false_iff_ne.2 (show (c.toNat : Int) ≠ 46 by omega), Bool.false_or, Bool.false_or, Bool.false_or]
          apply decide_eq_decide.2
          unfold sign capB
          omega
        rw [e]
        have K := Lib.hid (capital_any c w)
        generalize decide (capB c) = r at K ⊢
        clear e
        go_enter Tryz.func54, Tryz.ntmps54
        go_wp2_with fail
        refine K.out.mono ?_
        rintro e w' ⟨rfl, rfl⟩
        go_wp2_with fail
        go_ret
        exact ⟨rfl, rfl⟩
end Go.Proofs.YthhfmjdknoplkaaGreatDoor
