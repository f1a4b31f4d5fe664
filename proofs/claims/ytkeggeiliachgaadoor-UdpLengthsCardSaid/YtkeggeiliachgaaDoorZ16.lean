/-
  stockaderef01.port, set: the document's own answers on ports; a number put at a place. Conditions: those of the slice.
-/
import Derived.Test.YtkeggeiliachgaaDoorZ14
import Derived.Test.YtkeggeiliachgaaDoorZ04
namespace Go.Proofs.YtkeggeiliachgaaDoor
open Go.RowKit
set_option maxRecDepth 100000

theorem refPort_any (v : Int) (w : World) : Calls Tryd.prog 28 #[.int .i64 v] w fun e w' => e = .returned (.bool (decide (0 ≤ v ∧ v ≤ 65535))) ∧ w = w' := by
  by_cases h0 : 0 ≤ v
  · by_cases h1 : v ≤ 65535
    · rw [decide_eq_true (⟨h0, h1⟩ : 0 ≤ v ∧ v ≤ 65535)]
      go_enter Tryd.func28, Tryd.ntmps28
      go_wp2
      go_ret
      exact ⟨rfl, rfl⟩
    · rw [decide_eq_false (show ¬ (0 ≤ v ∧ v ≤ 65535) from fun h => h1 h.2)]
      go_enter Tryd.func28, Tryd.ntmps28
      go_wp2
      go_ret
      exact ⟨rfl, rfl⟩
  · rw [decide_eq_false (show ¬ (0 ≤ v ∧ v ≤ 65535) from fun h => h0 h.1)]
    go_enter Tryd.func28, Tryd.ntmps28
    go_wp2
    go_ret
    exact ⟨rfl, rfl⟩
set_option maxHeartbeats 1000000 in
theorem set_any {A : Option Addr} {n c : Nat} {l : List UInt8} {w : World} (hb : Bs w A n c l) (i k : Nat) (hi : i + 2 ≤ n) (hk : k ≤ 65535) (h47 : n ≤ 140737488350000) : Calls Tryd.prog 31 #[.slice A n c, .int .i64 i, .int .i64 k] w fun e w' =>
    ∃ A' c', e = .returned (.slice A' n c') ∧ w'.ownsRow w.heap.size 5 1 (.slice A' n c') n (bv ((l.set i (UInt8.ofNat (k / 256))).set (i + 1) (UInt8.ofNat (k % 256)))) ∧ Below w.heap.size w w' := by
  have HB := Lib.hid hb
  clear hb
  have q1 : (i : Int) < n := by omega
  have q2 : (i : Int) + 1 < n := by omega
  have q3 : (0 : Int) ≤ (i : Int) + 1 := by omega
  go_enter Tryd.func31, Tryd.ntmps31
  go_wp2_with (at_builtin; refine wpList_append_bs rfl (.const (.slice none 0 0)) (.tmp 8) 22 rfl w.heap.size 5 info5 Tryd.underlying22 _ 0 [] rfl (World.ownsRow_nil _ _ _ _) A n c l rfl HB.out (by omega) (Nat.le_refl _) ?_; intro v1 w1 o1 g1 _ _; have b1 : Below w.heap.size w w1 := (Below.refl _ w).grown g1 (Nat.le_refl _) (fun q hq => by cases hq); replace o1 := owns_n (n' := n) (by omega) o1; rw [List.nil_append] at o1; obtain ⟨g, cap, rfl, _, _⟩ := o1.form (by omega); obtain ⟨⟨p, _, hcp⟩, hfp⟩ := own_cell o1 (j := i) (by omega); obtain ⟨⟨q, _, hcq⟩, hfq⟩ := own_cell o1 (j := i + 1) (by omega); have H1 := Lib.hid (And.intro o1 b1); clear o1 g1 b1)
  obtain ⟨s1, s2⟩ := own_put H1.out.1 H1.out.2 (Nat.le_refl _) i (.int .u8 ((k : Int) / 256)) (UInt8.ofNat (k / 256)) (congrArg (Value.int IntKind.u8) (by simp only [UInt8.toNat_ofNat']; omega))
  obtain ⟨s3, s4⟩ := own_put s1 s2 (Nat.le_refl _) (i + 1) (.int .u8 ((k : Int) % 256)) (UInt8.ofNat (k % 256)) (congrArg (Value.int IntKind.u8) (by simp only [UInt8.toNat_ofNat']; omega))
  go_ret
  exact ⟨_, _, rfl, s3, s4⟩
end Go.Proofs.YtkeggeiliachgaaDoor
