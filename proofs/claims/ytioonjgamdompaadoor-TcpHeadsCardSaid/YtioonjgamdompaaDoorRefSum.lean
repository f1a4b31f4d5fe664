/-
  stockaderef01.Sum. Conditions: those of the slice; 2^47 bytes at most.
-/
import Derived.Test.YtioonjgamdompaaDoorTot
import Derived.Test.YtioonjgamdompaaDoorBy
import Derived.Test.YtioonjgamdompaaDoorChecked
import Derived.WalkKit
import Derived.Deep.LoopGhost
import Derived.Outline
import Derived.BigQuiet
import Derived.Deep.QuietTactic
namespace Go.Proofs.YtioonjgamdompaaDoor
open Go.RowKit

theorem vint {a b : Int} (h : a = b) : Value.int .i64 a = .int .i64 b := by rw [h]
theorem ret_i64' {a b : Int} (h : a = b) : Ending.returned (.int .i64 a) = .returned (.int .i64 b) := by rw [h]
set_option maxRecDepth 100000 in
set_option maxHeartbeats 1000000 in
theorem ref_sum {A : Option Addr} {n c : Nat} {l : List UInt8} {w : World} (hb : Bs w A n c l) (h47 : n ≤ 140737488355328) : Calls Tryd.prog 42 #[.slice A n c] w fun e w' => e = .returned (.int .i64 (cks l)) ∧ w = w' := by
  have HB := Lib.hid hb
  have HL := Lib.hid hb.len
  clear hb
  go_enter Tryd.func42, Tryd.ntmps42
  go_wp2_with fail
  go_loop [3, 4] (fun v i => ∃ j : Nat, j % 2 = 0 ∧ j ≤ n + 1 ∧ i = .int .i64 j ∧ v = .int .i64 (fold (tot (l.take j)))) (fun _ i => n + 2 - (intOf i).toNat)
  case atStart => exact ⟨0, rfl, Nat.zero_le _, rfl, rfl⟩
  case round =>
    obtain ⟨j, hj, hjn, rfl, rfl⟩ := hrel
    by_cases hlt : j < n
    · obtain ⟨b, off, rfl, c1⟩ := HB.out.get (k := j) hlt
      obtain ⟨y1, hy1⟩ : ∃ y, l[j]? = some y := ⟨l[j]'(by have := HL.out; omega), List.getElem?_eq_getElem (by have := HL.out; omega)⟩
      rw [show l[j]'(by have := HL.out; omega) = y1 from (List.getElem?_eq_some_iff.1 hy1).2] at c1
      have q1 := y1.toNat_lt
      have hs := fold_le (tot (l.take j))
      by_cases h2 : j + 1 < n
      · obtain ⟨b', off', e2, c2⟩ := HB.out.get (k := j + 1) h2
        cases e2
        obtain ⟨y2, hy2⟩ : ∃ y, l[j + 1]? = some y := ⟨l[j + 1]'(by have := HL.out; omega), List.getElem?_eq_getElem (by have := HL.out; omega)⟩
        rw [show l[j + 1]'(by have := HL.out; omega) = y2 from (List.getElem?_eq_some_iff.1 hy2).2] at c2
        have q2 := y2.toNat_lt
        have hx : fold (tot (l.take (j + 2))) = fold (fold (tot (l.take j)) + (y1.toNat * 256 + y2.toNat)) := by rw [tot_take2 l j y1 y2 hj hy1 hy2, fold_fold]
        have hor := i64_or_byte y1.toNat y2.toNat (by omega) q2
        generalize fold (tot (l.take j)) = s at hs hx ⊢
        have HX := Lib.hid (And.intro hx hj)
        clear hx hj hy1 hy2
        go_wp2_with fail
        · have h3 : 65535 < s + (y1.toNat * 256 + y2.toNat) := by omega
          refine ⟨⟨j + 2, by have := HX.out.2; omega, by omega, by go_num, vint ?_⟩, by simp [intOf]; omega⟩
          rw [HX.out.1, fold_sub hs (by omega) h3]
          omega
        · have h3 : s + (y1.toNat * 256 + y2.toNat) ≤ 65535 := by omega
          refine ⟨⟨j + 2, by have := HX.out.2; omega, by omega, by go_num, vint ?_⟩, by simp [intOf]; omega⟩
          rw [HX.out.1, fold_small h3]
          omega
      · have hx : fold (tot (l.take (j + 2))) = fold (fold (tot (l.take j)) + y1.toNat * 256) := by rw [List.take_of_length_le (by have := HL.out; omega), tot_take1 l j y1 hj (by have := HL.out; omega) hy1, fold_fold]
        generalize fold (tot (l.take j)) = s at hs hx ⊢
        have HX := Lib.hid (And.intro hx hj)
        clear hx hj hy1
        go_wp2_with fail
        · have h3 : 65535 < s + y1.toNat * 256 := by omega
          refine ⟨⟨j + 2, by have := HX.out.2; omega, by omega, by go_num, vint ?_⟩, by simp [intOf]; omega⟩
          rw [HX.out.1, fold_sub hs (by omega) h3]
          omega
        · have h3 : s + y1.toNat * 256 ≤ 65535 := by omega
          refine ⟨⟨j + 2, by have := HX.out.2; omega, by omega, by go_num, vint ?_⟩, by simp [intOf]; omega⟩
          rw [HX.out.1, fold_small h3]
          omega
    · rw [List.take_of_length_le (by have := HL.out; omega)]
      have hs := fold_le (tot l)
      have hc : (cks l : Int) = 65535 - (fold (tot l) : Int) := by unfold cks; omega
      have HC := Lib.hid hc
      clear hc
      go_wp2_with fail
      go_ret
      exact ⟨ret_i64' HC.out.symm, rfl⟩
end Go.Proofs.YtioonjgamdompaaDoor
