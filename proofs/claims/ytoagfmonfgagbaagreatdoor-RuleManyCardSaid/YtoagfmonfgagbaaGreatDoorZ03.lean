/-
  The pieces between a sign; a text's bytes at a place. Of no program. No conditions.
-/
import Derived.Lib.Strings
import Derived.Lib.Hide
import Derived.RowKit
namespace Go.Proofs.YtoagfmonfgagbaaGreatDoor
open Go.RowKit
set_option maxRecDepth 100000

/-- What stands at a place of a text. -/
theorem str_at {s : ByteArray} {i : Nat} (h : i < s.size) : ∃ c : UInt8, s.data.toList[i]? = some c ∧ s[i] = c := ⟨s[i], by rw [Array.getElem?_toList]; exact Array.getElem?_eq_getElem h, rfl⟩
theorem drop_at {l : List UInt8} {i : Nat} {c : UInt8} (h : l[i]? = some c) : l.drop i = c :: l.drop (i + 1) := by
  obtain ⟨h1, h2⟩ := List.getElem?_eq_some_iff.1 h
  rw [List.drop_eq_getElem_cons h1, h2]
/-- A sign ahead of the first piece. -/
def onHead (b : UInt8) : List (List UInt8) → List (List UInt8)
  | [] => [[b]]
  | x :: xs => (b :: x) :: xs
/-- The pieces between a sign, so many cuts at most. -/
def splN (c : UInt8) : List UInt8 → Nat → List (List UInt8)
  | l, 0 => [l]
  | [], _ + 1 => [[]]
  | b :: r, k + 1 => if b = c then [] :: splN c r k else onHead b (splN c r (k + 1))
theorem splN_zero (c : UInt8) (l : List UInt8) : splN c l 0 = [l] := by cases l <;> rfl
theorem splN_ne (c : UInt8) : ∀ (l : List UInt8) (k : Nat), splN c l k ≠ []
  | l, 0 => by rw [splN_zero]; simp
  | [], k + 1 => by simp [splN]
  | b :: r, k + 1 => by
    unfold splN
    split
    · simp
    · cases splN c r (k + 1) <;> simp [onHead]
theorem splN_len (c : UInt8) : ∀ (l : List UInt8) (k : Nat), (splN c l k).length ≤ k + 1
  | l, 0 => by rw [splN_zero]; simp
  | [], k + 1 => by simp [splN]
  | b :: r, k + 1 => by
    unfold splN
    split
    · have := splN_len c r k; simp; omega
    · have := splN_len c r (k + 1)
      cases h : splN c r (k + 1) with
      | nil => simp [onHead]
      | cons x xs => rw [h] at this; simpa [onHead] using this
theorem splN_ge (c : UInt8) : ∀ (l : List UInt8) (k k' : Nat), l.length ≤ k → l.length ≤ k' → splN c l k = splN c l k'
  | [], k, k', _, _ => by cases k <;> cases k' <;> simp [splN]
  | b :: r, 0, _, h, _ => by simp at h
  | b :: r, _, 0, _, h => by simp at h
  | b :: r, k + 1, k' + 1, h, h' => by
    simp only [List.length_cons] at h h'
    simp only [splN]
    rw [splN_ge c r k k' (by omega) (by omega)]
    cases r with
    | nil => simp [splN]
    | cons b' r' => rw [splN_ge c (b' :: r') (k + 1) (k' + 1) (by omega) (by omega)]
theorem splN_mem_len (c : UInt8) : ∀ (l : List UInt8) (k : Nat), ∀ x ∈ splN c l k, x.length ≤ l.length
  | l, 0, x, h => by rw [splN_zero] at h; obtain rfl := List.mem_singleton.1 h; exact Nat.le_refl _
  | [], k + 1, x, h => by obtain rfl := List.mem_singleton.1 h; exact Nat.le_refl _
  | b :: r, k + 1, x, h => by
    unfold splN at h
    split at h
    · rcases List.mem_cons.1 h with rfl | h
      · simp
      · have := splN_mem_len c r k x h; simp; omega
    · have ih := splN_mem_len c r (k + 1)
      cases hs : splN c r (k + 1) with
      | nil => rw [hs] at h; simp [onHead] at h; subst h; simp
      | cons y ys =>
        rw [hs] at h ih
        rcases List.mem_cons.1 h with rfl | h
        · have := ih y (by simp); simp; omega
        · have := ih x (by simp [h]); simp; omega
theorem splN_cons (c b : UInt8) (r : List UInt8) (k : Nat) : splN c (b :: r) (k + 1) = if b = c then [] :: splN c r k else onHead b (splN c r (k + 1)) := rfl
theorem sp_plain (c : UInt8) : ∀ (x : List UInt8) (k : Nat), c ∉ x → splN c x k = [x]
  | x, 0, _ => splN_zero c x
  | [], k + 1, _ => rfl
  | b :: x, k + 1, h => by
    unfold splN
    rw [if_neg (by rintro rfl; exact h (by simp)), sp_plain c x (k + 1) (fun hm => h (List.mem_cons_of_mem _ hm))]
    rfl
theorem sp_cons (c : UInt8) : ∀ (x r : List UInt8) (k : Nat), c ∉ x → splN c (x ++ c :: r) (k + 1) = x :: splN c r k
  | [], r, k, _ => by show (if c = c then [] :: splN c r k else onHead c (splN c r (k + 1))) = _; rw [if_pos rfl]
  | b :: x, r, k, h => by
    show (if b = c then [] :: splN c (x ++ c :: r) k else onHead b (splN c (x ++ c :: r) (k + 1))) = _
    rw [if_neg (by rintro rfl; exact h (by simp)), sp_cons c x r k (fun hm => h (List.mem_cons_of_mem _ hm))]
    rfl
/-- All that is between a sign. -/
def spl (c : UInt8) (l : List UInt8) : List (List UInt8) := splN c l l.length
def bts (xs : List ByteArray) : List (List UInt8) := xs.map fun x => x.data.toList
theorem bts_snoc (xs : List ByteArray) (x : ByteArray) : bts (xs ++ [x]) = bts xs ++ [x.data.toList] := by unfold bts; rw [List.map_append]; rfl
theorem cut_piece (s : ByteArray) (f j : Nat) : (s.extract f j).data.toList = (s.data.toList.drop f).take (j - f) := by
  rw [ByteArray.data_extract, Array.toList_extract, List.extract_eq_take_drop]
theorem no_piece {l : List UInt8} {c : UInt8} {f j : Nat} (h : ∀ k, f ≤ k → k < j → l[k]? ≠ some c) : c ∉ (l.drop f).take (j - f) := fun hm => by
  obtain ⟨i, hi⟩ := List.mem_iff_getElem?.1 hm
  rw [List.getElem?_take] at hi
  split at hi
  · rw [List.getElem?_drop] at hi
    exact h (f + i) (by omega) (by omega) hi
  · cases hi
theorem split_at {l : List UInt8} {c : UInt8} {f j : Nat} (hf : f ≤ j) (hc : l[j]? = some c) : l.drop f = (l.drop f).take (j - f) ++ c :: l.drop (j + 1) := by
  conv => lhs; rw [← List.take_append_drop (j - f) (l.drop f)]
  rw [List.drop_drop, show f + (j - f) = j by omega, drop_at hc]
theorem spl_step {l : List UInt8} {c : UInt8} {f j : Nat} (hf : f ≤ j) (hc : l[j]? = some c) (h : ∀ k, f ≤ k → k < j → l[k]? ≠ some c) : splN c (l.drop f) l.length = (l.drop f).take (j - f) :: splN c (l.drop (j + 1)) l.length := by
  have hlt := (List.getElem?_eq_some_iff.1 hc).1
  obtain ⟨K, hK⟩ : ∃ K, l.length = K + 1 := ⟨l.length - 1, by omega⟩
  conv => lhs; rw [split_at hf hc, hK]
  rw [sp_cons c _ _ K (no_piece h), splN_ge c (l.drop (j + 1)) K l.length (by rw [List.length_drop]; omega) (by rw [List.length_drop]; omega)]
end Go.Proofs.YtoagfmonfgagbaaGreatDoor
