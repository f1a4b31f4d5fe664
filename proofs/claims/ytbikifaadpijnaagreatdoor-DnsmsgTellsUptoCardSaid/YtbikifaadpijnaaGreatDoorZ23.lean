/-
  What tells an error stands, where another kind of block is written. No conditions.
  octets.stretch, U16, U32, Part, whatever is there: the number, the bytes, or why there are none. Conditions: those of the slice; 2^47 bytes at most; places and lengths are ints.
  Whether so many bytes are there, at places that are no negative ones. No conditions.
-/
import Derived.Test.YtbikifaadpijnaaGreatDoorZ17
import Derived.Test.YtbikifaadpijnaaGreatDoorZ22
namespace Go.Proofs.YtbikifaadpijnaaGreatDoor
open Go.RowKit
set_option maxRecDepth 100000

/-- What tells an error stands, where another kind of block is written. -/
theorem Faults.far {w w' : World} {g : Nat} {cs : Array Value} {T : TypeId} (hg : w.heap[g]? = some (.cells cs T (0, 0))) (hT : T ≠ 97) (hh : ∀ k, k ≠ g → w'.heap[k]? = w.heap[k]?) {d : Nat} {v : Value} {fs : List (Nat × Int)} {n : Int} (h : Faults w d v fs n) : Faults w' d v fs n := by
  induction h with
  | errno n => exact .errno n
  | fault d b at_ v fs c h1 h2 h3 _ ih =>
    have hb : b ≠ g := by
      intro e
      subst e
      rw [hg] at h1
      injection h1 with h1
      injection h1 with _ h1 _
      exact hT h1
    exact .fault d b at_ v fs c ((hh b hb).trans h1) ((World.cell?_of_block (w := w) (hh b hb)).trans h2) ((World.cell?_of_block (w := w) (hh b hb)).trans h3) ih
theorem Tells.far {w w' : World} {g : Nat} {cs : Array Value} {T : TypeId} {v : Value} {f : Fl} (h : Tells w v f) (hg : w.heap[g]? = some (.cells cs T (0, 0))) (hT : T ≠ 97) (hh : ∀ k, k ≠ g → w'.heap[k]? = w.heap[k]?) : Tells w' v f := by
  rcases h with h | ⟨h0, d, fs, h1, h2⟩
  · exact .inl h
  · exact .inr ⟨h0, d, fs, h1.far hg hT hh, h2⟩
theorem Tells.held' {w : World} {v : Value} {f : Fl} (h : Tells w v f) (hc : f.code ≠ 0) : ∃ T x, v = .iface T x := by
  rcases h with ⟨h0, _⟩ | ⟨h0, d, fs, h1, _⟩
  · exact absurd h0 hc
  · exact h1.chain.held
theorem Tells.none' {w : World} {v : Value} {f : Fl} (h : Tells w v f) (hc : f.code = 0) : v = .nilIface := by
  rcases h with ⟨_, h⟩ | ⟨h0, _⟩
  · exact h
  · exact absurd hc h0
/-- errors.Is at what tells an error. -/
theorem Is_told {w : World} {v : Value} {f : Fl} (h : Tells w v f) (hc : f.code ≠ 0) (x : Int) : Calls Tryz.prog 43 #[v, .iface 34 (.int .i64 x)] w fun e w' => e = .returned (.bool (f.code == x)) ∧ w = w' := by
  rcases h with ⟨h, _⟩ | ⟨_, d, fs, h, _⟩
  · exact absurd h hc
  · exact Is_any h
end Go.Proofs.YtbikifaadpijnaaGreatDoor

namespace Go.Proofs.YtbikifaadpijnaaGreatDoor
open Go.RowKit

/-- Why so many bytes are not there. -/
def needOf (n : Nat) (at_ k : Int) : Fl := if at_ < 0 ∨ k < 0 then ⟨1, 0, false⟩ else if 0 < k ∧ (n : Int) - at_ < k then ⟨3, at_, true⟩ else ⟨0, 0, false⟩

/-- stretch, where it refuses. -/
theorem stretch_bad {A : Option Addr} {n c : Nat} {l : List UInt8} {w : World} (hb : Bs w A n c l) (at_ k : Int) (h63 : at_ ≤ 9223372036854775807) (k63 : k ≤ 9223372036854775807) (hf : (needOf n at_ k).code ≠ 0) :
    Calls Tryz.prog 81 #[.slice A n c, .int .i64 at_, .int .i64 k] w fun e w' => ∃ v, e = .returned (.tuple #[.slice none 0 0, v]) ∧ Tells w' v (needOf n at_ k) ∧ Below w.heap.size w w' := by
  unfold needOf at hf ⊢
  by_cases hneg : at_ < 0 ∨ k < 0
  · rw [if_pos hneg]
    have H := Lib.hid (cut_bad A n c at_ k w (by omega))
    clear hf hb hneg
    go_enter Tryz.func81, Tryz.ntmps81
    go_wp2_with fail
    refine H.out.mono ?_
    rintro e w' ⟨rfl, rfl⟩
    go_wp2_with fail
    refine (Is_any (x := 3) (Faults.errno (w := w) 1)).mono ?_
    rintro e w' ⟨rfl, rfl⟩
    go_wp2_with fail
    go_ret2
    exact ⟨_, rfl, Tells.bare _ 1 (by decide) 0, Below.refl _ _⟩
  · rw [if_neg hneg] at hf ⊢
    by_cases hs : 0 < k ∧ (n : Int) - at_ < k
    · rw [if_pos hs]
      obtain ⟨a', rfl⟩ := Int.eq_ofNat_of_zero_le (show 0 ≤ at_ by omega)
      obtain ⟨k', rfl⟩ := Int.eq_ofNat_of_zero_le (show 0 ≤ k by omega)
      have H := Lib.hid (cut_short hb a' k' (by omega) (by omega) (by omega) (by omega))
      clear hf hb hneg hs
      go_enter Tryz.func81, Tryz.ntmps81
      go_wp2_with fail
      refine H.out.mono ?_
      rintro e w' ⟨rfl, rfl⟩
      go_wp2_with fail
      refine (Is_any (x := 3) (Faults.errno (w := w) 3)).mono ?_
      rintro e w' ⟨rfl, rfl⟩
      go_wp2_with fail
      refine (wrap_told (a := 0) a' (Tells.bare w 3 (by decide) 0) (by decide)).mono ?_
      rintro e w' ⟨v', rfl, h1, h2⟩
      have H1 := Lib.hid (And.intro h1 h2)
      clear h1 h2
      go_wp2_with fail
      go_ret2
      exact ⟨_, rfl, H1.out⟩
    · rw [if_neg hs] at hf
      exact absurd rfl hf

/-- Where so many bytes are there, what cut gives. -/
theorem cut_there {A : Option Addr} {n c : Nat} {l : List UInt8} {w : World} (hb : Bs w A n c l) (at_ k : Int) (h63 : at_ ≤ 9223372036854775807) (hf : (needOf n at_ k).code = 0) :
    Calls Tryz.prog 105 #[.slice A n c, .int .i64 at_, .int .i64 k] w fun e w' => ∃ A' c', e = .returned (.tuple #[.slice A' k.toNat c', .nilIface]) ∧ w = w' ∧ Bs w A' k.toNat c' ((l.drop at_.toNat).take k.toNat) := by
  unfold needOf at hf
  by_cases hneg : at_ < 0 ∨ k < 0
  · rw [if_pos hneg] at hf; exact absurd hf (by simp)
  · rw [if_neg hneg] at hf
    by_cases hs : 0 < k ∧ (n : Int) - at_ < k
    · rw [if_pos hs] at hf; exact absurd hf (by simp)
    · obtain ⟨a', rfl⟩ := Int.eq_ofNat_of_zero_le (show 0 ≤ at_ by omega)
      obtain ⟨k', rfl⟩ := Int.eq_ofNat_of_zero_le (show 0 ≤ k by omega)
      rw [Int.toNat_natCast, Int.toNat_natCast]
      by_cases h : a' + k' ≤ n
      · exact cut_ok hb a' k' h
      · obtain rfl : k' = 0 := by omega
        have := cut_zero hb a' (by omega) (by omega)
        rw [List.take_zero]
        exact this
theorem needOf_there {n : Nat} {at_ k : Int} (hk : 0 < k) (hf : (needOf n at_ k).code = 0) : 0 ≤ at_ ∧ at_ + k ≤ n := by
  unfold needOf at hf
  by_cases hneg : at_ < 0 ∨ k < 0
  · rw [if_pos hneg] at hf; exact absurd hf (by simp)
  · rw [if_neg hneg] at hf
    by_cases hs : 0 < k ∧ (n : Int) - at_ < k
    · rw [if_pos hs] at hf; exact absurd hf (by simp)
    · omega
theorem needOf_none {n : Nat} {at_ k : Int} (hf : (needOf n at_ k).code = 0) : needOf n at_ k = ⟨0, 0, false⟩ := by
  unfold needOf at hf ⊢
  by_cases hneg : at_ < 0 ∨ k < 0
  · rw [if_pos hneg] at hf; exact absurd hf (by simp)
  · rw [if_neg hneg] at hf ⊢
    by_cases hs : 0 < k ∧ (n : Int) - at_ < k
    · rw [if_pos hs] at hf; exact absurd hf (by simp)
    · rw [if_neg hs]

/-- The number at a place; 0, where it is not there. -/
def numAt (l : List UInt8) (n : Nat) (at_ : Int) (k : Nat) : Nat := if (needOf n at_ k).code = 0 then be ((l.drop at_.toNat).take k) else 0
/-- The bytes at a place; none, where they are not there. -/
def partAt (l : List UInt8) (n : Nat) (at_ k : Int) : List UInt8 := if (needOf n at_ k).code = 0 then (l.drop at_.toNat).take k.toNat else []

theorem u16_any {A : Option Addr} {n c : Nat} {l : List UInt8} {w : World} (hb : Bs w A n c l) (at_ : Int) (h63 : at_ ≤ 9223372036854775807) : Calls Tryz.prog 48 #[.slice A n c, .int .i64 at_] w fun e w' =>
    ∃ v, e = .returned (.tuple #[.int .i64 (numAt l n at_ 2 : Nat), v]) ∧ Tells w' v (needOf n at_ 2) ∧ Below w.heap.size w w' := by
  unfold numAt
  by_cases hf : (needOf n at_ 2).code = 0
  · have h0 := needOf_there (by omega) hf
    rw [show ((2 : Nat) : Int) = 2 from rfl, if_pos hf, needOf_none hf]
    obtain ⟨a', rfl⟩ := Int.eq_ofNat_of_zero_le h0.1
    exact (u16_ok hb a' (by omega)).mono fun _ _ ⟨he, hw⟩ => ⟨_, he, Tells.nil _ _ _, by rw [← hw]; exact Below.refl _ _⟩
  · rw [show ((2 : Nat) : Int) = 2 from rfl, if_neg hf]
    have H := Lib.hid (stretch_bad hb at_ 2 h63 (by omega) hf)
    clear hb hf
    go_enter Tryz.func48, Tryz.ntmps48
    go_wp2_with fail
    refine H.out.mono ?_
    rintro e w1 ⟨v, rfl, h1, h2⟩
    have H1 := Lib.hid (And.intro h1 h2)
    clear h1 h2
    go_wp2_with fail
    refine (number_any (Bs.nil w1)).mono ?_
    rintro e w' ⟨rfl, rfl⟩
    rw [show be [] = 0 from rfl]
    go_wp2_with fail
    go_ret2
    exact ⟨_, rfl, H1.out⟩
theorem u32_any {A : Option Addr} {n c : Nat} {l : List UInt8} {w : World} (hb : Bs w A n c l) (at_ : Int) (h63 : at_ ≤ 9223372036854775807) : Calls Tryz.prog 84 #[.slice A n c, .int .i64 at_] w fun e w' =>
    ∃ v, e = .returned (.tuple #[.int .u32 (numAt l n at_ 4 : Nat), v]) ∧ Tells w' v (needOf n at_ 4) ∧ Below w.heap.size w w' := by
  unfold numAt
  by_cases hf : (needOf n at_ 4).code = 0
  · have h0 := needOf_there (by omega) hf
    rw [show ((4 : Nat) : Int) = 4 from rfl, if_pos hf, needOf_none hf]
    obtain ⟨a', rfl⟩ := Int.eq_ofNat_of_zero_le h0.1
    exact (u32_ok hb a' (by omega)).mono fun _ _ ⟨he, hw⟩ => ⟨_, he, Tells.nil _ _ _, by rw [← hw]; exact Below.refl _ _⟩
  · rw [show ((4 : Nat) : Int) = 4 from rfl, if_neg hf]
    have H := Lib.hid (stretch_bad hb at_ 4 h63 (by omega) hf)
    clear hb hf
    go_enter Tryz.func84, Tryz.ntmps84
    go_wp2_with fail
    refine H.out.mono ?_
    rintro e w1 ⟨v, rfl, h1, h2⟩
    have H1 := Lib.hid (And.intro h1 h2)
    clear h1 h2
    go_wp2_with fail
    refine (number_any (Bs.nil w1)).mono ?_
    rintro e w' ⟨rfl, rfl⟩
    rw [show be [] = 0 from rfl]
    go_wp2_with fail
    go_ret2
    exact ⟨_, rfl, H1.out⟩
theorem part_any {A : Option Addr} {n c : Nat} {l : List UInt8} {w : World} (hb : Bs w A n c l) (at_ k : Int) (h63 : at_ ≤ 9223372036854775807) (k63 : k ≤ 9223372036854775807) (h47 : n ≤ 140737488350000) : Calls Tryz.prog 110 #[.slice A n c, .int .i64 at_, .int .i64 k] w fun e w' =>
    ∃ A' n' c' v, e = .returned (.tuple #[.slice A' n' c', v]) ∧ Bs w' A' n' c' (partAt l n at_ k) ∧ Tells w' v (needOf n at_ k) ∧ Below w.heap.size w w' := by
  unfold partAt
  by_cases hf : (needOf n at_ k).code = 0
  · rw [if_pos hf, needOf_none hf]
    refine (part_of_cut (cut_there hb at_ k h63 hf) ?_).mono ?_
    · rcases Int.lt_or_le 0 k with h | h
      · have := needOf_there h hf; omega
      · omega
    · rintro e w' ⟨v', rfl, ho, hb'⟩
      obtain ⟨A', c', rfl, h⟩ := Bs.of_own ho
      exact ⟨_, _, _, _, rfl, h, Tells.nil _ _ _, hb'⟩
  · rw [if_neg hf]
    have H := Lib.hid (stretch_bad hb at_ k h63 k63 hf)
    clear hb hf
    go_enter Tryz.func110, Tryz.ntmps110
    go_wp2_with fail
    refine H.out.mono ?_
    rintro e w1 ⟨v, rfl, h1, h2⟩
    have H1 := Lib.hid (And.intro h1 h2)
    clear h1 h2
    go_wp2_with fail
    refine (clone_any (Bs.nil w1) (by omega)).mono ?_
    rintro e w2 ⟨v2, rfl, o2, b2⟩
    obtain ⟨A', c', rfl, h⟩ := Bs.of_own o2
    have H2 := Lib.hid (And.intro h b2)
    clear o2 b2 h
    go_wp2_with fail
    go_ret2
    exact ⟨_, _, _, _, rfl, H2.out.1, H1.out.1.later H2.out.2 (Nat.le_refl _), H1.out.2.trans (H2.out.2.mono H1.out.2.size)⟩
end Go.Proofs.YtbikifaadpijnaaGreatDoor

namespace Go.Proofs.YtbikifaadpijnaaGreatDoor
open Go.RowKit
set_option maxRecDepth 100000

theorem need_short {n i k : Nat} (h : n < i + k) (h0 : 0 < k) : needOf n i k = ⟨3, i, true⟩ := by
  unfold needOf
  rw [if_neg (by omega), if_pos (by omega)]
theorem need_there {n i k : Nat} (h : i + k ≤ n) : needOf n i k = ⟨0, 0, false⟩ := by
  unfold needOf
  rw [if_neg (by omega), if_neg (by omega)]
theorem part_there {l : List UInt8} {n i k : Nat} (h : i + k ≤ n) : partAt l n i k = (l.drop i).take k := by
  unfold partAt
  rw [need_there h, if_pos rfl, Int.toNat_natCast, Int.toNat_natCast]
end Go.Proofs.YtbikifaadpijnaaGreatDoor
