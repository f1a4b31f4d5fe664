/-
  octets.stretch, U16, U32, Part, whatever is there: the number, the bytes, or why there are none. Conditions: those of the slice; 2^47 bytes at most; places and lengths are ints.
-/
import Derived.Test.YthhfmjdknoplkaaGreatDoorOctOk
import Derived.Test.YthhfmjdknoplkaaGreatDoorTell
namespace Go.Proofs.YthhfmjdknoplkaaGreatDoor
open Go.RowKit

/-- Why so many bytes are not there. -/
def needOf (n : Nat) (at_ k : Int) : Fl := if at_ < 0 ∨ k < 0 then ⟨1, 0, false⟩ else if 0 < k ∧ (n : Int) - at_ < k then ⟨3, at_, true⟩ else ⟨0, 0, false⟩

/-- stretch, where it refuses. -/
theorem stretch_bad {A : Option Addr} {n c : Nat} {l : List UInt8} {w : World} (hb : Bs w A n c l) (at_ k : Int) (h63 : at_ ≤ 9223372036854775807) (k63 : k ≤ 9223372036854775807) (hf : (needOf n at_ k).code ≠ 0) :
    Calls Tryz.prog 59 #[.slice A n c, .int .i64 at_, .int .i64 k] w fun e w' => ∃ v, e = .returned (.tuple #[.slice none 0 0, v]) ∧ Tells w' v (needOf n at_ k) ∧ Below w.heap.size w w' := by
  unfold needOf at hf ⊢
  by_cases hneg : at_ < 0 ∨ k < 0
  · rw [if_pos hneg]
    have H := Lib.hid (cut_bad A n c at_ k w (by omega))
    clear hf hb hneg
    go_enter Tryz.func59, Tryz.ntmps59
    go_wp2_with fail
    refine H.out.mono ?_
    rintro e w' ⟨rfl, rfl⟩
    go_wp2_with fail
    refine (Is_any (x := 3) (Faults.errno (w := w) 1)).mono ?_
    rintro e w' ⟨rfl, rfl⟩
    go_wp2_with fail
    go_ret2
    exact ⟨_, rfl, Tells.bare _ 1 (by decide) 0, Below.refl _ _⟩
  · rw [if_neg hneg] at hf ⊢
    by_cases hs : 0 < k ∧ (n : Int) - at_ < k
    · rw [if_pos hs]
      obtain ⟨a', rfl⟩ := Int.eq_ofNat_of_zero_le (show 0 ≤ at_ by omega)
      obtain ⟨k', rfl⟩ := Int.eq_ofNat_of_zero_le (show 0 ≤ k by omega)
      have H := Lib.hid (cut_short hb a' k' (by omega) (by omega) (by omega) (by omega))
      clear hf hb hneg hs
      go_enter Tryz.func59, Tryz.ntmps59
      go_wp2_with fail
      refine H.out.mono ?_
      rintro e w' ⟨rfl, rfl⟩
      go_wp2_with fail
      refine (Is_any (x := 3) (Faults.errno (w := w) 3)).mono ?_
      rintro e w' ⟨rfl, rfl⟩
      go_wp2_with fail
      refine (wrap_told (a := 0) a' (Tells.bare w 3 (by decide) 0) (by decide)).mono ?_
      rintro e w' ⟨v', rfl, h1, h2⟩
      have H1 := Lib.hid (And.intro h1 h2)
      clear h1 h2
      go_wp2_with fail
      go_ret2
      exact ⟨_, rfl, H1.out⟩
    · rw [if_neg hs] at hf
      exact absurd rfl hf

/-- Where so many bytes are there, what cut gives. -/
theorem cut_there {A : Option Addr} {n c : Nat} {l : List UInt8} {w : World} (hb : Bs w A n c l) (at_ k : Int) (h63 : at_ ≤ 9223372036854775807) (hf : (needOf n at_ k).code = 0) :
    Calls Tryz.prog 72 #[.slice A n c, .int .i64 at_, .int .i64 k] w fun e w' => ∃ A' c', e = .returned (.tuple #[.slice A' k.toNat c', .nilIface]) ∧ w = w' ∧ Bs w A' k.toNat c' ((l.drop at_.toNat).take k.toNat) := by
  unfold needOf at hf
  by_cases hneg : at_ < 0 ∨ k < 0
  · rw [if_pos hneg] at hf; exact absurd hf (by simp)
  · rw [if_neg hneg] at hf
    by_cases hs : 0 < k ∧ (n : Int) - at_ < k
    · rw [if_pos hs] at hf; exact absurd hf (by simp)
    · obtain ⟨a', rfl⟩ := Int.eq_ofNat_of_zero_le (show 0 ≤ at_ by omega)
      obtain ⟨k', rfl⟩ := Int.eq_ofNat_of_zero_le (show 0 ≤ k by omega)
      rw [Int.toNat_natCast, Int.toNat_natCast]
      by_cases h : a' + k' ≤ n
      · exact cut_ok hb a' k' h
      · obtain rfl : k' = 0 := by omega
        have := cut_zero hb a' (by omega) (by omega)
        rw [List.take_zero]
        exact this
theorem needOf_there {n : Nat} {at_ k : Int} (hk : 0 < k) (hf : (needOf n at_ k).code = 0) : 0 ≤ at_ ∧ at_ + k ≤ n := by
  unfold needOf at hf
  by_cases hneg : at_ < 0 ∨ k < 0
  · rw [if_pos hneg] at hf; exact absurd hf (by simp)
  · rw [if_neg hneg] at hf
    by_cases hs : 0 < k ∧ (n : Int) - at_ < k
    · rw [if_pos hs] at hf; exact absurd hf (by simp)
    · omega
theorem needOf_none {n : Nat} {at_ k : Int} (hf : (needOf n at_ k).code = 0) : needOf n at_ k = ⟨0, 0, false⟩ := by
  unfold needOf at hf ⊢
  by_cases hneg : at_ < 0 ∨ k < 0
  · rw [if_pos hneg] at hf; exact absurd hf (by simp)
  · rw [if_neg hneg] at hf ⊢
    by_cases hs : 0 < k ∧ (n : Int) - at_ < k
    · rw [if_pos hs] at hf; exact absurd hf (by simp)
    · rw [if_neg hs]

/-- The number at a place; 0, where it is not there. -/
def numAt (l : List UInt8) (n : Nat) (at_ : Int) (k : Nat) : Nat := if (needOf n at_ k).code = 0 then be ((l.drop at_.toNat).take k) else 0
/-- The bytes at a place; none, where they are not there. -/
def partAt (l : List UInt8) (n : Nat) (at_ k : Int) : List UInt8 := if (needOf n at_ k).code = 0 then (l.drop at_.toNat).take k.toNat else []

theorem u16_any {A : Option Addr} {n c : Nat} {l : List UInt8} {w : World} (hb : Bs w A n c l) (at_ : Int) (h63 : at_ ≤ 9223372036854775807) : Calls Tryz.prog 44 #[.slice A n c, .int .i64 at_] w fun e w' =>
    ∃ v, e = .returned (.tuple #[.int .i64 (numAt l n at_ 2 : Nat), v]) ∧ Tells w' v (needOf n at_ 2) ∧ Below w.heap.size w w' := by
  unfold numAt
  by_cases hf : (needOf n at_ 2).code = 0
  · have h0 := needOf_there (by omega) hf
    rw [show ((2 : Nat) : Int) = 2 from rfl, if_pos hf, needOf_none hf]
    obtain ⟨a', rfl⟩ := Int.eq_ofNat_of_zero_le h0.1
    exact (u16_ok hb a' (by omega)).mono fun _ _ ⟨he, hw⟩ => ⟨_, he, Tells.nil _ _ _, by rw [← hw]; exact Below.refl _ _⟩
  · rw [show ((2 : Nat) : Int) = 2 from rfl, if_neg hf]
    have H := Lib.hid (stretch_bad hb at_ 2 h63 (by omega) hf)
    clear hb hf
    go_enter Tryz.func44, Tryz.ntmps44
    go_wp2_with fail
    refine H.out.mono ?_
    rintro e w1 ⟨v, rfl, h1, h2⟩
    have H1 := Lib.hid (And.intro h1 h2)
    clear h1 h2
    go_wp2_with fail
    refine (number_any (Bs.nil w1)).mono ?_
    rintro e w' ⟨rfl, rfl⟩
    rw [show be [] = 0 from rfl]
    go_wp2_with fail
    go_ret2
    exact ⟨_, rfl, H1.out⟩
theorem part_any {A : Option Addr} {n c : Nat} {l : List UInt8} {w : World} (hb : Bs w A n c l) (at_ k : Int) (h63 : at_ ≤ 9223372036854775807) (k63 : k ≤ 9223372036854775807) (h47 : n ≤ 140737488350000) : Calls Tryz.prog 39 #[.slice A n c, .int .i64 at_, .int .i64 k] w fun e w' =>
    ∃ A' n' c' v, e = .returned (.tuple #[.slice A' n' c', v]) ∧ Bs w' A' n' c' (partAt l n at_ k) ∧ Tells w' v (needOf n at_ k) ∧ Below w.heap.size w w' := by
  unfold partAt
  by_cases hf : (needOf n at_ k).code = 0
  · rw [if_pos hf, needOf_none hf]
    refine (part_of_cut (cut_there hb at_ k h63 hf) ?_).mono ?_
    · rcases Int.lt_or_le 0 k with h | h
      · have := needOf_there h hf; omega
      · omega
    · rintro e w' ⟨v', rfl, ho, hb'⟩
      obtain ⟨A', c', rfl, h⟩ := Bs.of_own ho
      exact ⟨_, _, _, _, rfl, h, Tells.nil _ _ _, hb'⟩
  · rw [if_neg hf]
    have H := Lib.hid (stretch_bad hb at_ k h63 k63 hf)
    clear hb hf
    go_enter Tryz.func39, Tryz.ntmps39
    go_wp2_with fail
    refine H.out.mono ?_
    rintro e w1 ⟨v, rfl, h1, h2⟩
    have H1 := Lib.hid (And.intro h1 h2)
    clear h1 h2
    go_wp2_with fail
    refine (clone_any (Bs.nil w1) (by omega)).mono ?_
    rintro e w2 ⟨v2, rfl, o2, b2⟩
    obtain ⟨A', c', rfl, h⟩ := Bs.of_own o2
    have H2 := Lib.hid (And.intro h b2)
    clear o2 b2 h
    go_wp2_with fail
    go_ret2
    exact ⟨_, _, _, _, rfl, H2.out.1, H1.out.1.later H2.out.2 (Nat.le_refl _), H1.out.2.trans (H2.out.2.mono H1.out.2.size)⟩
end Go.Proofs.YthhfmjdknoplkaaGreatDoor
