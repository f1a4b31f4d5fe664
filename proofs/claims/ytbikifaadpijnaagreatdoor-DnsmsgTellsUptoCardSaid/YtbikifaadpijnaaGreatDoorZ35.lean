/-
  Which addresses are right, as a property of their bytes. No conditions.
-/
import Derived.Test.YtbikifaadpijnaaGreatDoorZ26
import Derived.Test.YtbikifaadpijnaaGreatDoorZ25
namespace Go.Proofs.YtbikifaadpijnaaGreatDoor
open Go.RowKit
set_option maxRecDepth 100000

theorem rightv_dec (v : Bool) {b : List UInt8} (hb : b.length = 16) : rightv v b = decide (rightA v b) := by
  cases v with
  | true =>
    have h1 : rightv true b = true := by unfold rightv; rw [show wid true = 128 from rfl, firstv_all (by omega), beq_self_eq_true]
    rw [h1, decide_eq_true (show rightA true b from fun h => by cases h)]
  | false =>
    have h2 : rightv false b = (b == norm false b) := by unfold rightv; rw [norm_first false hb]
    rw [h2]
    by_cases h : rightA false b
    · rw [decide_eq_true h]
      have h3 : norm false b = b := by
        show b.take 4 ++ List.replicate 12 0 = b
        rw [← show b.drop 4 = List.replicate 12 0 from h rfl, List.take_append_drop]
      rw [h3, beq_self_eq_true]
    · rw [decide_eq_false h]
      refine beq_eq_false_iff_ne.2 fun e => h fun _ => ?_
      have h3 : b.drop 4 = (b.take 4 ++ List.replicate 12 0).drop 4 := congrArg (List.drop 4) e
      rw [h3, List.drop_left' (by rw [List.length_take]; omega)]
      rfl
theorem norm_rightA (v6 : Bool) {a : List UInt8} (ha : a.length = 16) : rightA v6 (norm v6 a) := by
  intro h
  subst h
  show (a.take 4 ++ List.replicate 12 0).drop 4 = _
  exact List.drop_left' (by rw [List.length_take]; omega)
theorem zeros_rightA (v6 : Bool) : rightA v6 zero16 := fun _ => rfl
end Go.Proofs.YtbikifaadpijnaaGreatDoor
