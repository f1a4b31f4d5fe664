/-
  The library's pieces between a sign, told by lists of bytes. Of no program. No conditions.
-/
import Derived.Test.YtbikifaadpijnaaGreatDoorZ03
import Derived.Lib.SplitLaws
namespace Go.Proofs.YtbikifaadpijnaaGreatDoor
open Go.RowKit
set_option maxRecDepth 100000

theorem index_one (c : UInt8) : ∀ l : List UInt8, Lib.index l [c] = if c ∈ l then ((l.takeWhile (· ≠ c)).length : Int) else -1
  | [] => by simp [Lib.index]
  | b :: r => by
    unfold Lib.index
    by_cases hb : c = b
    · subst hb; simp
    · have hb' : b ≠ c := fun e => hb e.symm
      have : [c].isPrefixOf (b :: r) = false := by show (c == b && List.isPrefixOf [] r) = false; rw [beq_eq_false_iff_ne.2 hb]; rfl
      rw [this, index_one c r]
      by_cases hm : c ∈ r
      · rw [if_pos hm, if_pos (List.mem_cons_of_mem _ hm)]
        have h0 : ((((r.takeWhile (· ≠ c)).length : Int)) == -1) = false := by rw [beq_eq_false_iff_ne]; omega
        rw [h0]
        simp [hb']
      · rw [if_neg hm, if_neg (show ¬ c ∈ b :: r from fun h => (List.mem_cons.1 h).elim hb hm)]
        simp
theorem splN_cut (c : UInt8) (k : Nat) : ∀ l : List UInt8, splN c l (k + 1) = if c ∈ l then (l.takeWhile (· ≠ c)) :: splN c (l.drop ((l.takeWhile (· ≠ c)).length + 1)) k else [l]
  | [] => by simp [splN]
  | b :: r => by
    rw [splN_cons]
    by_cases hb : b = c
    · subst hb; simp
    · rw [if_neg hb, splN_cut c k r]
      have hb' : ¬ c = b := fun e => hb e.symm
      by_cases hm : c ∈ r
      · rw [if_pos hm, if_pos (List.mem_cons_of_mem _ hm)]
        simp [onHead, hb]
      · rw [if_neg hm, if_neg (by simp [hb', hm])]
        simp [onHead]
theorem takeWhile_take {l : List UInt8} {p : UInt8 → Bool} : l.takeWhile p = l.take (l.takeWhile p).length := by
  induction l with
  | nil => rfl
  | cons b r ih =>
    rw [List.takeWhile_cons]
    split
    · rw [List.length_cons, List.take_succ_cons, ← ih]
    · rfl
theorem splitB_list (c : UInt8) : ∀ (k : Nat) (s : ByteArray), (Lib.splitB ⟨#[c]⟩ 0 k s).map (fun x => x.data.toList) = splN c s.data.toList k
  | 0, s => by rw [Lib.splitB_zero, splN_zero]; rfl
  | k + 1, s => by
    have hi : Lib.indexB s ⟨#[c]⟩ = Lib.index s.data.toList [c] := rfl
    rw [splN_cut]
    unfold Lib.splitB
    rw [hi, index_one]
    by_cases hm : c ∈ s.data.toList
    · rw [if_pos hm, if_pos hm]
      have h0 : ((((s.data.toList.takeWhile (· ≠ c)).length : Int)) == -1) = false := by rw [beq_eq_false_iff_ne]; omega
      rw [h0]
      simp only [Bool.false_eq_true, if_false, List.map_cons, splitB_list c k]
      have e1 : (s.extract 0 ((((s.data.toList.takeWhile (· ≠ c)).length : Int)).toNat + 0)).data.toList = s.data.toList.takeWhile (· ≠ c) := by
        rw [ByteArray.data_extract, Array.toList_extract, List.extract_eq_take_drop]
        conv => rhs; rw [takeWhile_take]
        simp
      have e2 : (s.extract ((((s.data.toList.takeWhile (· ≠ c)).length : Int)).toNat + (ByteArray.mk #[c]).size) s.size).data.toList = s.data.toList.drop ((s.data.toList.takeWhile (· ≠ c)).length + 1) := by
        rw [ByteArray.data_extract, Array.toList_extract, List.extract_eq_take_drop]
        have hsz : s.size = s.data.toList.length := Lib.size_eq s
        rw [show (ByteArray.mk #[c]).size = 1 from rfl, Int.toNat_natCast, hsz, ← List.length_drop, List.take_length]
      rw [e1, e2]
    · rw [if_neg hm, if_neg hm]
      rfl
/-- As many cuts as there are signs are all. -/
theorem splN_enough (c : UInt8) : ∀ (l : List UInt8) (k k' : Nat), l.count c ≤ k → l.count c ≤ k' → splN c l k = splN c l k'
  | [], k, k', _, _ => by cases k <;> cases k' <;> simp [splN]
  | b :: r, k, k', h, h' => by
    by_cases hb : b = c
    · subst hb
      rw [List.count_cons_self] at h h'
      obtain ⟨i, rfl⟩ : ∃ i, k = i + 1 := ⟨k - 1, by omega⟩
      obtain ⟨j, rfl⟩ : ∃ j, k' = j + 1 := ⟨k' - 1, by omega⟩
      rw [splN_cons, splN_cons, if_pos rfl, if_pos rfl, splN_enough b r i j (by omega) (by omega)]
    · rw [List.count_cons_of_ne hb] at h h'
      have hz : ∀ i, r.count c = 0 → splN c (b :: r) 0 = splN c (b :: r) (i + 1) := fun i h0 => by
        rw [splN_cons, if_neg hb, splN_enough c r (i + 1) 0 (by omega) (by omega), splN_zero, splN_zero]
        rfl
      cases k with
      | zero =>
        cases k' with
        | zero => rfl
        | succ j => exact hz j (by omega)
      | succ i =>
        cases k' with
        | zero => exact (hz i (by omega)).symm
        | succ j => rw [splN_cons, splN_cons, if_neg hb, if_neg hb, splN_enough c r (i + 1) (j + 1) (by omega) (by omega)]
theorem split_all (c : UInt8) (s : ByteArray) : bts (Lib.splitB ⟨#[c]⟩ 0 (Lib.countB s ⟨#[c]⟩) s) = spl c s.data.toList ∧ Lib.countB s ⟨#[c]⟩ ≤ s.size := by
  have hc : Lib.countB s ⟨#[c]⟩ = s.data.toList.count c := by
    show Lib.count s.data.toList [c] = _
    rw [Lib.count_one]
  refine ⟨?_, Lib.countB_le ⟨#[c]⟩ (show 1 ≤ 1 from Nat.le_refl _) s.size s (Nat.le_refl _)⟩
  unfold bts spl
  rw [splitB_list, hc]
  exact splN_enough c _ _ _ (Nat.le_refl _) (List.count_le_length)
end Go.Proofs.YtbikifaadpijnaaGreatDoor
