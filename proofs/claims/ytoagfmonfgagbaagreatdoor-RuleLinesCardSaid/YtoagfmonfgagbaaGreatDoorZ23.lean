/-
  
-/
import Derived.Lib.Hide
import Derived.Lib.Strings
import Derived.RowKit
namespace Go.Proofs.YtoagfmonfgagbaaGreatDoor
def blankB (c : UInt8) : Bool := c == 9 || c == 13 || c == 32
def wordB (c : UInt8) : Bool := decide (33 ≤ c.toNat) && decide (c.toNat ≤ 126) && c != 35
theorem wordB_not {c : UInt8} (h : wordB c = true) : blankB c = false ∧ c ≠ 35 ∧ c ≠ 10 := by
  unfold wordB at h
  simp only [Bool.and_eq_true, decide_eq_true_eq, bne_iff_ne] at h
  obtain ⟨⟨h1, h2⟩, h3⟩ := h
  refine ⟨?_, h3, ?_⟩
  · unfold blankB
    simp only [Bool.or_eq_false_iff, beq_eq_false_iff_ne]
    refine ⟨⟨?_, ?_⟩, ?_⟩ <;> rintro rfl <;> revert h1 <;> decide
  · rintro rfl
    revert h1
    decide
structure Tk where
  word : Bool
  at_ : Nat
  row : Nat
  text : List UInt8
deriving DecidableEq
inductive Md where
  | gap
  | note
  | word (st : Nat) (acc : List UInt8)
def Md.flush (row : Nat) : Md → List Tk
  | .word st acc => [⟨true, st, row, acc⟩]
  | _ => []
def gapL (at_ row : Nat) (c : UInt8) : Option (List Tk × Md × Nat) :=
  if blankB c then some ([], .gap, row) else if c = 35 then some ([], .note, row) else if c = 10 then some ([⟨false, at_, row, []⟩], .gap, row + 1) else if wordB c then some ([], .word at_ [c], row) else none
def stepL (at_ row : Nat) (c : UInt8) : Md → Option (List Tk × Md × Nat)
  | .note => if c = 10 then some ([⟨false, at_, row, []⟩], .gap, row + 1) else some ([], .note, row)
  | .word st acc => if wordB c then some ([], .word st (acc ++ [c]), row) else (gapL at_ row c).map fun x => (⟨true, st, row, acc⟩ :: x.1, x.2)
  | .gap => gapL at_ row c
def lexM : Md → Nat → Nat → List UInt8 → Sum Nat (List Tk)
  | m, at_, row, [] => .inr (m.flush row ++ [⟨false, at_, row, []⟩])
  | m, at_, row, c :: l => match stepL at_ row c m with
    | none => .inl at_
    | some x => match lexM x.2.1 (at_ + 1) x.2.2 l with
      | .inl e => .inl e
      | .inr ts => .inr (x.1 ++ ts)
theorem lexM_none {m : Md} {at_ row : Nat} {c : UInt8} {l : List UInt8} (h : stepL at_ row c m = none) : lexM m at_ row (c :: l) = .inl at_ := by rw [lexM, h]
theorem lexM_some {m : Md} {at_ row : Nat} {c : UInt8} {l : List UInt8} {x : List Tk × Md × Nat} (h : stepL at_ row c m = some x) : lexM m at_ row (c :: l) = (match lexM x.2.1 (at_ + 1) x.2.2 l with | .inl e => .inl e | .inr ts => .inr (x.1 ++ ts)) := by rw [lexM, h]
theorem lexM_quiet {m m' : Md} {at_ row r' : Nat} {c : UInt8} {l : List UInt8} (h : stepL at_ row c m = some ([], m', r')) : lexM m at_ row (c :: l) = lexM m' (at_ + 1) r' l := by
  rw [lexM_some h]
  dsimp only
  cases lexM m' (at_ + 1) r' l <;> rfl
def Md.lo (at_ : Nat) : Md → Nat
  | .word st _ => st
  | _ => at_
theorem gapL_cases {at_ row : Nat} {c : UInt8} {x : List Tk × Md × Nat} (h : gapL at_ row c = some x) : (x = ([], .gap, row) ∧ blankB c = true) ∨ (x = ([], .note, row) ∧ c = 35) ∨ (x = ([⟨false, at_, row, []⟩], .gap, row + 1) ∧ c = 10) ∨ (x = ([], .word at_ [c], row) ∧ wordB c = true) := by
  unfold gapL at h
  by_cases h1 : blankB c = true
  · rw [if_pos h1] at h; exact Or.inl ⟨(Option.some.inj h).symm, h1⟩
  rw [if_neg h1] at h
  by_cases h2 : c = 35
  · rw [if_pos h2] at h; exact Or.inr (Or.inl ⟨(Option.some.inj h).symm, h2⟩)
  rw [if_neg h2] at h
  by_cases h3 : c = 10
  · rw [if_pos h3] at h; exact Or.inr (Or.inr (Or.inl ⟨(Option.some.inj h).symm, h3⟩))
  rw [if_neg h3] at h
  by_cases h4 : wordB c = true
  · rw [if_pos h4] at h; exact Or.inr (Or.inr (Or.inr ⟨(Option.some.inj h).symm, h4⟩))
  · rw [if_neg h4] at h; cases h
theorem step_cases {m : Md} {at_ row : Nat} {c : UInt8} {x : List Tk × Md × Nat} (h : stepL at_ row c m = some x) :
    (∃ st acc, m = .word st acc ∧ wordB c = true ∧ x = ([], .word st (acc ++ [c]), row)) ∨
    (∃ m', (m' = .gap ∨ m' = .note ∨ (m' = .word at_ [c] ∧ wordB c = true)) ∧ x = (m.flush row, m', row)) ∨
    (c = 10 ∧ x = (m.flush row ++ [⟨false, at_, row, []⟩], .gap, row + 1)) := by
  cases m with
  | gap =>
    rcases gapL_cases h with ⟨rfl, _⟩ | ⟨rfl, _⟩ | ⟨rfl, h3⟩ | ⟨rfl, h4⟩
    · exact Or.inr (Or.inl ⟨.gap, Or.inl rfl, rfl⟩)
    · exact Or.inr (Or.inl ⟨.note, Or.inr (Or.inl rfl), rfl⟩)
    · exact Or.inr (Or.inr ⟨h3, rfl⟩)
    · exact Or.inr (Or.inl ⟨_, Or.inr (Or.inr ⟨rfl, h4⟩), rfl⟩)
  | note =>
    have h : (if c = 10 then some ([⟨false, at_, row, []⟩], Md.gap, row + 1) else some ([], Md.note, row)) = some x := h
    by_cases h3 : c = 10
    · rw [if_pos h3] at h; exact Or.inr (Or.inr ⟨h3, (Option.some.inj h).symm⟩)
    · rw [if_neg h3] at h; exact Or.inr (Or.inl ⟨.note, Or.inr (Or.inl rfl), (Option.some.inj h).symm⟩)
  | word st acc =>
    have h : (if wordB c = true then some ([], Md.word st (acc ++ [c]), row) else (gapL at_ row c).map fun x => (⟨true, st, row, acc⟩ :: x.1, x.2)) = some x := h
    by_cases hw : wordB c = true
    · rw [if_pos hw] at h; exact Or.inl ⟨st, acc, rfl, hw, (Option.some.inj h).symm⟩
    · rw [if_neg hw] at h
      cases hg : gapL at_ row c with
      | none => rw [hg] at h; cases h
      | some y =>
        rw [hg] at h
        obtain rfl := (Option.some.inj h).symm
        rcases gapL_cases hg with ⟨rfl, _⟩ | ⟨rfl, _⟩ | ⟨rfl, h3⟩ | ⟨rfl, h4⟩
        · exact Or.inr (Or.inl ⟨.gap, Or.inl rfl, rfl⟩)
        · exact Or.inr (Or.inl ⟨.note, Or.inr (Or.inl rfl), rfl⟩)
        · exact Or.inr (Or.inr ⟨h3, rfl⟩)
        · exact absurd h4 hw
theorem lexM_note : ∀ (a : List UInt8) (at_ row : Nat) (b : List UInt8), (∀ c ∈ a, c ≠ 10) → lexM .note at_ row (a ++ b) = lexM .note (at_ + a.length) row b
  | [], at_, row, b, _ => rfl
  | c :: a, at_, row, b, h => by
    have hs : stepL at_ row c .note = some ([], .note, row) := if_neg (h c (List.mem_cons_self ..))
    rw [List.cons_append, lexM_quiet hs, lexM_note a _ _ _ fun c hc => h c (List.mem_cons_of_mem _ hc), List.length_cons]
    congr 1
    omega
def fineB (c : UInt8) : Bool := blankB c || c == 35 || c == 10 || wordB c
theorem gapL_fine {at_ row : Nat} {c : UInt8} : gapL at_ row c = none ↔ fineB c = false := by
  unfold gapL fineB
  by_cases h1 : blankB c = true
  · rw [if_pos h1, h1]; simp
  rw [if_neg h1]
  by_cases h2 : c = 35
  · rw [if_pos h2]; simp [h2]
  rw [if_neg h2]
  by_cases h3 : c = 10
  · rw [if_pos h3]; simp [h3]
  rw [if_neg h3]
  by_cases h4 : wordB c = true
  · rw [if_pos h4]; simp [h4]
  · rw [if_neg h4]
    simp [h1, h2, h3, h4]
theorem lexM_inword : ∀ (w : List UInt8) (st : Nat) (acc : List UInt8) (at_ row : Nat) (b : List UInt8), (∀ c ∈ w, wordB c = true) → lexM (.word st acc) at_ row (w ++ b) = lexM (.word st (acc ++ w)) (at_ + w.length) row b
  | [], st, acc, at_, row, b, _ => by rw [List.append_nil]; rfl
  | c :: w, st, acc, at_, row, b, h => by
    have hs : stepL at_ row c (.word st acc) = some ([], .word st (acc ++ [c]), row) := if_pos (h c (List.mem_cons_self ..))
    rw [List.cons_append, lexM_quiet hs, lexM_inword w _ _ _ _ _ fun c hc => h c (List.mem_cons_of_mem _ hc), List.length_cons, List.append_assoc]
    show lexM (.word st (acc ++ c :: w)) _ _ _ = _
    congr 1
    omega
end Go.Proofs.YtoagfmonfgagbaaGreatDoor

namespace Go.Proofs.YtoagfmonfgagbaaGreatDoor
def joinR (xs : List Tk) : Sum Nat (List Tk) → Sum Nat (List Tk)
  | .inl e => .inl e
  | .inr ts => .inr (xs ++ ts)
theorem joinR_nil (r : Sum Nat (List Tk)) : joinR [] r = r := by cases r <;> rfl
theorem joinR_joinR (xs ys : List Tk) (r : Sum Nat (List Tk)) : joinR xs (joinR ys r) = joinR (xs ++ ys) r := by
  cases r with
  | inl e => rfl
  | inr ts => simp [joinR]
theorem lexM_step {m : Md} {at_ row : Nat} {c : UInt8} {l : List UInt8} {x : List Tk × Md × Nat} (h : stepL at_ row c m = some x) : lexM m at_ row (c :: l) = joinR x.1 (lexM x.2.1 (at_ + 1) x.2.2 l) := by
  rw [lexM_some h]
  cases lexM x.2.1 (at_ + 1) x.2.2 l <;> rfl
theorem lexM_end (at_ row : Nat) : lexM .gap at_ row [] = .inr [⟨false, at_, row, []⟩] := by rw [lexM]; rfl
theorem lexM_blank {c : UInt8} (h : blankB c = true) (at_ row : Nat) (l : List UInt8) : lexM .gap at_ row (c :: l) = lexM .gap (at_ + 1) row l := by
  apply lexM_quiet
  show gapL at_ row c = _
  unfold gapL
  rw [if_pos h]
theorem lexM_ten (at_ row : Nat) (l : List UInt8) : lexM .gap at_ row (10 :: l) = joinR [⟨false, at_, row, []⟩] (lexM .gap (at_ + 1) (row + 1) l) := lexM_step (x := ([⟨false, at_, row, []⟩], .gap, row + 1)) rfl
theorem lexM_no {c : UInt8} (h : fineB c = false) (at_ row : Nat) (l : List UInt8) : lexM .gap at_ row (c :: l) = .inl at_ := lexM_none (gapL_fine.2 h)
theorem lexM_leave (st : Nat) (acc : List UInt8) (at_ row : Nat) (r : List UInt8) (hr : ∀ c, r.head? = some c → wordB c = false) : lexM (.word st acc) at_ row r = joinR [⟨true, st, row, acc⟩] (lexM .gap at_ row r) := by
  cases r with
  | nil => rw [lexM, lexM]; rfl
  | cons c r =>
    have hc := hr c rfl
    have hw : ¬ wordB c = true := by rw [hc]; decide
    cases hg : gapL at_ row c with
    | none =>
      have h1 : stepL at_ row c (.word st acc) = none := by
        show (if wordB c = true then _ else _) = _
        rw [if_neg hw, hg]
        rfl
      rw [lexM_none h1, lexM_none (m := .gap) hg]
      rfl
    | some x =>
      have h1 : stepL at_ row c (.word st acc) = some (⟨true, st, row, acc⟩ :: x.1, x.2) := by
        show (if wordB c = true then _ else _) = _
        rw [if_neg hw, hg]
        rfl
      rw [lexM_step h1, lexM_step (m := .gap) hg, joinR_joinR]
      rfl
theorem lexM_whole {w : List UInt8} (hw : w ≠ []) (h : ∀ c ∈ w, wordB c = true) (at_ row : Nat) (r : List UInt8) (hr : ∀ c, r.head? = some c → wordB c = false) : lexM .gap at_ row (w ++ r) = joinR [⟨true, at_, row, w⟩] (lexM .gap (at_ + w.length) row r) := by
  cases w with
  | nil => exact absurd rfl hw
  | cons c w =>
    have hc := h c (List.mem_cons_self ..)
    obtain ⟨n1, n2, n3⟩ := wordB_not hc
    have hs : stepL at_ row c .gap = some ([], .word at_ [c], row) := by
      show gapL at_ row c = _
      unfold gapL
      rw [if_neg (by rw [n1]; decide), if_neg n2, if_neg n3, if_pos hc]
    rw [List.cons_append, lexM_quiet hs, lexM_inword w _ _ _ _ _ fun c hc => h c (List.mem_cons_of_mem _ hc), lexM_leave _ _ _ _ _ hr]
    have e : at_ + 1 + w.length = at_ + (c :: w).length := by rw [List.length_cons]; omega
    rw [e]
    rfl
theorem lexM_pass (a : List UInt8) (at_ row : Nat) (r : List UInt8) (ha : ∀ c ∈ a, c ≠ 10) (hr : ∀ c, r.head? = some c → c = 10) : lexM .gap at_ row (35 :: a ++ r) = lexM .gap (at_ + 1 + a.length) row r := by
  have hs : stepL at_ row 35 .gap = some ([], .note, row) := rfl
  rw [List.cons_append, lexM_quiet hs, lexM_note a _ _ _ ha]
  cases r with
  | nil => rw [lexM, lexM]; rfl
  | cons c r =>
    obtain rfl := hr c rfl
    rw [lexM_step (m := .gap) (x := ([⟨false, at_ + 1 + a.length, row, []⟩], .gap, row + 1)) rfl, lexM_step (m := .note) (x := ([⟨false, at_ + 1 + a.length, row, []⟩], .gap, row + 1)) rfl]
theorem noteRun : ∀ (l : List UInt8), ∃ a r, l = a ++ r ∧ (∀ c ∈ a, c ≠ 10) ∧ (∀ c, r.head? = some c → c = 10)
  | [] => ⟨[], [], rfl, (fun c h => by cases h), fun c h => by cases h⟩
  | c :: l => by
    by_cases hc : c = 10
    · refine ⟨[], c :: l, rfl, (fun c h => by cases h), fun x hx => ?_⟩
      obtain rfl : c = x := by simpa using hx
      exact hc
    · obtain ⟨a, r, h1, h2, h3⟩ := noteRun l
      refine ⟨c :: a, r, by rw [h1]; rfl, fun x hx => ?_, h3⟩
      rcases List.mem_cons.1 hx with rfl | hx
      · exact hc
      · exact h2 x hx
end Go.Proofs.YtoagfmonfgagbaaGreatDoor

namespace Go.Proofs.YtoagfmonfgagbaaGreatDoor
open Go.RowKit
set_option maxRecDepth 100000
theorem str_at {s : ByteArray} {i : Nat} (h : i < s.size) : ∃ c : UInt8, s.data.toList[i]? = some c ∧ s[i] = c := ⟨s[i], by rw [Array.getElem?_toList]; exact Array.getElem?_eq_getElem h, rfl⟩
theorem drop_at {l : List UInt8} {i : Nat} {c : UInt8} (h : l[i]? = some c) : l.drop i = c :: l.drop (i + 1) := by
  obtain ⟨h1, h2⟩ := List.getElem?_eq_some_iff.1 h
  rw [List.drop_eq_getElem_cons h1, h2]
def onHead (b : UInt8) : List (List UInt8) → List (List UInt8)
  | [] => [[b]]
  | x :: xs => (b :: x) :: xs
def splN (c : UInt8) : List UInt8 → Nat → List (List UInt8)
  | l, 0 => [l]
  | [], _ + 1 => [[]]
  | b :: r, k + 1 => if b = c then [] :: splN c r k else onHead b (splN c r (k + 1))
theorem splN_zero (c : UInt8) (l : List UInt8) : splN c l 0 = [l] := by cases l <;> rfl
theorem splN_ne (c : UInt8) : ∀ (l : List UInt8) (k : Nat), splN c l k ≠ []
  | l, 0 => by rw [splN_zero]; simp
  | [], k + 1 => by simp [splN]
  | b :: r, k + 1 => by
    unfold splN
    split
    · simp
    · cases splN c r (k + 1) <;> simp [onHead]
theorem splN_len (c : UInt8) : ∀ (l : List UInt8) (k : Nat), (splN c l k).length ≤ k + 1
  | l, 0 => by rw [splN_zero]; simp
  | [], k + 1 => by simp [splN]
  | b :: r, k + 1 => by
    unfold splN
    split
    · have := splN_len c r k; simp; omega
    · have := splN_len c r (k + 1)
      cases h : splN c r (k + 1) with
      | nil => simp [onHead]
      | cons x xs => rw [h] at this; simpa [onHead] using this
theorem splN_ge (c : UInt8) : ∀ (l : List UInt8) (k k' : Nat), l.length ≤ k → l.length ≤ k' → splN c l k = splN c l k'
  | [], k, k', _, _ => by cases k <;> cases k' <;> simp [splN]
  | b :: r, 0, _, h, _ => by simp at h
  | b :: r, _, 0, _, h => by simp at h
  | b :: r, k + 1, k' + 1, h, h' => by
    simp only [List.length_cons] at h h'
    simp only [splN]
    rw [splN_ge c r k k' (by omega) (by omega)]
    cases r with
    | nil => simp [splN]
    | cons b' r' => rw [splN_ge c (b' :: r') (k + 1) (k' + 1) (by omega) (by omega)]
theorem splN_mem_len (c : UInt8) : ∀ (l : List UInt8) (k : Nat), ∀ x ∈ splN c l k, x.length ≤ l.length
  | l, 0, x, h => by rw [splN_zero] at h; obtain rfl := List.mem_singleton.1 h; exact Nat.le_refl _
  | [], k + 1, x, h => by obtain rfl := List.mem_singleton.1 h; exact Nat.le_refl _
  | b :: r, k + 1, x, h => by
    unfold splN at h
    split at h
    · rcases List.mem_cons.1 h with rfl | h
      · simp
      · have := splN_mem_len c r k x h; simp; omega
    · have ih := splN_mem_len c r (k + 1)
      cases hs : splN c r (k + 1) with
      | nil => rw [hs] at h; simp [onHead] at h; subst h; simp
      | cons y ys =>
        rw [hs] at h ih
        rcases List.mem_cons.1 h with rfl | h
        · have := ih y (by simp); simp; omega
        · have := ih x (by simp [h]); simp; omega
theorem splN_cons (c b : UInt8) (r : List UInt8) (k : Nat) : splN c (b :: r) (k + 1) = if b = c then [] :: splN c r k else onHead b (splN c r (k + 1)) := rfl
theorem sp_plain (c : UInt8) : ∀ (x : List UInt8) (k : Nat), c ∉ x → splN c x k = [x]
  | x, 0, _ => splN_zero c x
  | [], k + 1, _ => rfl
  | b :: x, k + 1, h => by
    unfold splN
    rw [if_neg (by rintro rfl; exact h (by simp)), sp_plain c x (k + 1) (fun hm => h (List.mem_cons_of_mem _ hm))]
    rfl
theorem sp_cons (c : UInt8) : ∀ (x r : List UInt8) (k : Nat), c ∉ x → splN c (x ++ c :: r) (k + 1) = x :: splN c r k
  | [], r, k, _ => by show (if c = c then [] :: splN c r k else onHead c (splN c r (k + 1))) = _; rw [if_pos rfl]
  | b :: x, r, k, h => by
    show (if b = c then [] :: splN c (x ++ c :: r) k else onHead b (splN c (x ++ c :: r) (k + 1))) = _
    rw [if_neg (by rintro rfl; exact h (by simp)), sp_cons c x r k (fun hm => h (List.mem_cons_of_mem _ hm))]
    rfl
def spl (c : UInt8) (l : List UInt8) : List (List UInt8) := splN c l l.length
def bts (xs : List ByteArray) : List (List UInt8) := xs.map fun x => x.data.toList
theorem bts_snoc (xs : List ByteArray) (x : ByteArray) : bts (xs ++ [x]) = bts xs ++ [x.data.toList] := by unfold bts; rw [List.map_append]; rfl
theorem cut_piece (s : ByteArray) (f j : Nat) : (s.extract f j).data.toList = (s.data.toList.drop f).take (j - f) := by
  rw [ByteArray.data_extract, Array.toList_extract, List.extract_eq_take_drop]
theorem no_piece {l : List UInt8} {c : UInt8} {f j : Nat} (h : ∀ k, f ≤ k → k < j → l[k]? ≠ some c) : c ∉ (l.drop f).take (j - f) := fun hm => by
  obtain ⟨i, hi⟩ := List.mem_iff_getElem?.1 hm
  rw [List.getElem?_take] at hi
  split at hi
  · rw [List.getElem?_drop] at hi
    exact h (f + i) (by omega) (by omega) hi
  · cases hi
theorem split_at {l : List UInt8} {c : UInt8} {f j : Nat} (hf : f ≤ j) (hc : l[j]? = some c) : l.drop f = (l.drop f).take (j - f) ++ c :: l.drop (j + 1) := by
  conv => lhs; rw [← List.take_append_drop (j - f) (l.drop f)]
  rw [List.drop_drop, show f + (j - f) = j by omega, drop_at hc]
theorem spl_step {l : List UInt8} {c : UInt8} {f j : Nat} (hf : f ≤ j) (hc : l[j]? = some c) (h : ∀ k, f ≤ k → k < j → l[k]? ≠ some c) : splN c (l.drop f) l.length = (l.drop f).take (j - f) :: splN c (l.drop (j + 1)) l.length := by
  have hlt := (List.getElem?_eq_some_iff.1 hc).1
  obtain ⟨K, hK⟩ : ∃ K, l.length = K + 1 := ⟨l.length - 1, by omega⟩
  conv => lhs; rw [split_at hf hc, hK]
  rw [sp_cons c _ _ K (no_piece h), splN_ge c (l.drop (j + 1)) K l.length (by rw [List.length_drop]; omega) (by rw [List.length_drop]; omega)]
end Go.Proofs.YtoagfmonfgagbaaGreatDoor
