/-
  Package addr's longest: the longest run of groups of 0. No conditions.
-/
import Derived.Test.YtjegeiaabkheiaaGreatDoorText4
import Derived.Test.YtjegeiaabkheiaaGreatDoorFmt
namespace Go.Proofs.YtjegeiaabkheiaaGreatDoor
open Go.RowKit
set_option maxRecDepth 100000

/-- A step of the search: where the run that goes on began, and the longest one so far. -/
def lstep (s : Nat × Nat × Nat) (i : Nat) (z : Bool) : Nat × Nat × Nat :=
  if max (s.2.2 - s.2.1) 1 < i + 1 - (if z then s.1 else i + 1) then ((if z then s.1 else i + 1), (if z then s.1 else i + 1), i + 1) else ((if z then s.1 else i + 1), s.2.1, s.2.2)
def lst (zs : List Bool) : Nat → Nat × Nat × Nat
  | 0 => (0, 0, 0)
  | k + 1 => lstep (lst zs k) k (zs.getD k false)
def longestv (zs : List Bool) : Nat × Nat := (lst zs zs.length).2
theorem lst_ok (zs : List Bool) : ∀ k, (lst zs k).1 ≤ k ∧ (lst zs k).2.1 ≤ (lst zs k).2.2 ∧ (lst zs k).2.2 ≤ k
  | 0 => ⟨Nat.le_refl _, Nat.le_refl _, Nat.le_refl _⟩
  | k + 1 => by
    obtain ⟨h1, h2, h3⟩ := lst_ok zs k
    unfold lst lstep
    generalize lst zs k = s at *
    obtain ⟨a, b, c⟩ := s
    simp only at *
    cases zs.getD k false <;> simp only [Bool.false_eq_true, if_false, if_true] <;> split <;> simp only <;> omega
theorem bytes_inj' {a b : ByteArray} (h : a.data.toList = b.data.toList) : a = b := by
  obtain ⟨⟨a⟩⟩ := a
  obtain ⟨⟨b⟩⟩ := b
  cases h
  rfl
def isZ (x : ByteArray) : Bool := decide (x = mkS [48])

set_option maxHeartbeats 2000000 in
theorem longest_any (g n : Nat) (xs : List ByteArray) (hn : xs.length = n) (hn8 : n ≤ 1000) {w : World} (hr : Row w g 9 (sv xs)) : Calls Tryz.prog 61 #[.slice (some ⟨g, 0, none⟩) n n] w fun e w' =>
    e = .returned (.tuple #[.int .i64 (longestv (xs.map isZ)).1, .int .i64 (longestv (xs.map isZ)).2]) ∧ w = w' := by
  have HR := Lib.hid hr
  have HN := Lib.hid hn
  clear hr hn
  go_enter Tryz.func61, Tryz.ntmps61
  go_wp2_with fail
  go_loop [2, 3, 4, 10] (fun f t s i => ∃ k a b c : Nat, i = .int .i64 k ∧ s = .int .i64 a ∧ f = .int .i64 b ∧ t = .int .i64 c ∧ k ≤ n ∧ a ≤ k ∧ b ≤ c ∧ c ≤ k ∧ Hid (lst (xs.map isZ) k = (a, b, c))) (fun _ _ _ i => n - (intOf i).toNat)
  case atStart => exact ⟨0, 0, 0, 0, rfl, rfl, rfl, rfl, by omega, by omega, by omega, by omega, Lib.hid rfl⟩
  case round =>
    obtain ⟨k, a, b, c, rfl, rfl, rfl, rfl, hk, ha, hb, hc, hh⟩ := hrel
    by_cases hlt : k < n
    · obtain ⟨x, hx⟩ : ∃ x, xs[k]? = some x := ⟨_, List.getElem?_eq_getElem (by rw [HN.out]; exact hlt)⟩
      have hcell := HR.out.cell (sv_at hx)
      have hz : (xs.map isZ).getD k false = isZ x := by rw [List.getD, List.getElem?_map, hx]; rfl
      have hst : lst (xs.map isZ) (k + 1) = lstep (a, b, c) k (isZ x) := by
        show lstep (lst (xs.map isZ) k) k ((xs.map isZ).getD k false) = _
        rw [hh.out, hz]
      unfold lstep at hst
      by_cases h0 : x = mkS [48]
      · have hi : isZ x = true := decide_eq_true h0
        rw [hi] at hst
        simp only [if_true] at hst
        subst h0
        have hne : (Value.string (mkS [48])) = Value.string ⟨#[48]⟩ := rfl
        rw [hne] at hcell
        by_cases hm : max (c - b) 1 < k + 1 - a
        · rw [if_pos hm] at hst
          have h1 : max ((c : Int) - b) 1 < (k : Int) + 1 - a := by omega
          have HS := Lib.hid hst
          clear hst hi hz hx hm
          go_wp2_with fail
          all_goals (try (exfalso; omega))
          all_goals exact ⟨⟨k + 1, a, a, k + 1, by go_num, rfl, rfl, by go_num, by omega, by omega, by omega, by omega, HS⟩, by simp [intOf]; omega⟩
        · rw [if_neg hm] at hst
          have h1 : ¬ max ((c : Int) - b) 1 < (k : Int) + 1 - a := by omega
          have HS := Lib.hid hst
          clear hst hi hz hx hm
          go_wp2_with fail
          all_goals (try (exfalso; omega))
          all_goals exact ⟨⟨k + 1, a, b, c, by go_num, rfl, rfl, rfl, by omega, by omega, by omega, by omega, HS⟩, by simp [intOf]; omega⟩
      · have hi : isZ x = false := decide_eq_false h0
        rw [hi] at hst
        simp only [Bool.false_eq_true, if_false] at hst
        rw [if_neg (by omega)] at hst
        have HS := Lib.hid hst
        have hq : (!(x.toList == [48])) = true := by
          rw [Bool.not_eq_true', beq_eq_false_iff_ne, ByteArray.toList_eq]
          intro h
          exact h0 (bytes_inj' (h.trans (mkS_data [48]).symm))
        clear hst hi hz hx
        go_wp2_with fail
        all_goals (try (exfalso; omega))
        all_goals exact ⟨⟨k + 1, k + 1, b, c, by go_num, by go_num, rfl, rfl, by omega, by omega, by omega, by omega, HS⟩, by simp [intOf]; omega⟩
    · obtain rfl : k = n := by omega
      have hl : longestv (xs.map isZ) = (b, c) := by unfold longestv; rw [List.length_map, HN.out, hh.out]
      have HL := Lib.hid hl
      clear hl
      go_wp2_with fail
      go_ret2
      rw [HL.out]
      exact ⟨rfl, rfl⟩
end Go.Proofs.YtjegeiaabkheiaaGreatDoor
