/-
  A text as words and ends, taken by whole words and whole notes; texts before and behind. Pure. No conditions.
-/
import Derived.Test.YtiggfoghogecjaaDoorSpec18
namespace Go.Proofs.YtiggfoghogecjaaDoor

/-- What stands ahead, put ahead. -/
def joinR (xs : List Tk) : Sum Nat (List Tk) → Sum Nat (List Tk)
  | .inl e => .inl e
  | .inr ts => .inr (xs ++ ts)
theorem joinR_nil (r : Sum Nat (List Tk)) : joinR [] r = r := by cases r <;> rfl
theorem joinR_joinR (xs ys : List Tk) (r : Sum Nat (List Tk)) : joinR xs (joinR ys r) = joinR (xs ++ ys) r := by
  cases r with
  | inl e => rfl
  | inr ts => simp [joinR]
theorem lexM_step {m : Md} {at_ row : Nat} {c : UInt8} {l : List UInt8} {x : List Tk × Md × Nat} (h : stepL at_ row c m = some x) : lexM m at_ row (c :: l) = joinR x.1 (lexM x.2.1 (at_ + 1) x.2.2 l) := by
  rw [lexM_some h]
  cases lexM x.2.1 (at_ + 1) x.2.2 l <;> rfl
theorem lexM_end (at_ row : Nat) : lexM .gap at_ row [] = .inr [⟨false, at_, row, []⟩] := by rw [lexM]; rfl
/-- A blank. -/
theorem lexM_blank {c : UInt8} (h : blankB c = true) (at_ row : Nat) (l : List UInt8) : lexM .gap at_ row (c :: l) = lexM .gap (at_ + 1) row l := by
  apply lexM_quiet
  show gapL at_ row c = _
  unfold gapL
  rw [if_pos h]
/-- An end. -/
theorem lexM_ten (at_ row : Nat) (l : List UInt8) : lexM .gap at_ row (10 :: l) = joinR [⟨false, at_, row, []⟩] (lexM .gap (at_ + 1) (row + 1) l) := lexM_step (x := ([⟨false, at_, row, []⟩], .gap, row + 1)) rfl
/-- A byte that may not be. -/
theorem lexM_no {c : UInt8} (h : fineB c = false) (at_ row : Nat) (l : List UInt8) : lexM .gap at_ row (c :: l) = .inl at_ := lexM_none (gapL_fine.2 h)
/-- In a word, where it ends. -/
theorem lexM_leave (st : Nat) (acc : List UInt8) (at_ row : Nat) (r : List UInt8) (hr : ∀ c, r.head? = some c → wordB c = false) : lexM (.word st acc) at_ row r = joinR [⟨true, st, row, acc⟩] (lexM .gap at_ row r) := by
  cases r with
  | nil => rw [lexM, lexM]; rfl
  | cons c r =>
    have hc := hr c rfl
    have hw : ¬ wordB c = true := by rw [hc]; decide
    cases hg : gapL at_ row c with
    | none =>
      have h1 : stepL at_ row c (.word st acc) = none := by
        show (if wordB c = true then _ else _) = _
        rw [if_neg hw, hg]
        rfl
      rw [lexM_none h1, lexM_none (m := .gap) hg]
      rfl
    | some x =>
      have h1 : stepL at_ row c (.word st acc) = some (⟨true, st, row, acc⟩ :: x.1, x.2) := by
        show (if wordB c = true then _ else _) = _
        rw [if_neg hw, hg]
        rfl
      rw [lexM_step h1, lexM_step (m := .gap) hg, joinR_joinR]
      rfl
/-- A word as a whole. -/
theorem lexM_whole {w : List UInt8} (hw : w ≠ []) (h : ∀ c ∈ w, wordB c = true) (at_ row : Nat) (r : List UInt8) (hr : ∀ c, r.head? = some c → wordB c = false) : lexM .gap at_ row (w ++ r) = joinR [⟨true, at_, row, w⟩] (lexM .gap (at_ + w.length) row r) := by
  cases w with
  | nil => exact absurd rfl hw
  | cons c w =>
    have hc := h c (List.mem_cons_self ..)
    obtain ⟨n1, n2, n3⟩ := wordB_not hc
    have hs : stepL at_ row c .gap = some ([], .word at_ [c], row) := by
      show gapL at_ row c = _
      unfold gapL
      rw [if_neg (by rw [n1]; decide), if_neg n2, if_neg n3, if_pos hc]
    rw [List.cons_append, lexM_quiet hs, lexM_inword w _ _ _ _ _ fun c hc => h c (List.mem_cons_of_mem _ hc), lexM_leave _ _ _ _ _ hr]
    have e : at_ + 1 + w.length = at_ + (c :: w).length := by rw [List.length_cons]; omega
    rw [e]
    rfl
/-- A note, up to where its line ends. -/
theorem lexM_pass (a : List UInt8) (at_ row : Nat) (r : List UInt8) (ha : ∀ c ∈ a, c ≠ 10) (hr : ∀ c, r.head? = some c → c = 10) : lexM .gap at_ row (35 :: a ++ r) = lexM .gap (at_ + 1 + a.length) row r := by
  have hs : stepL at_ row 35 .gap = some ([], .note, row) := rfl
  rw [List.cons_append, lexM_quiet hs, lexM_note a _ _ _ ha]
  cases r with
  | nil => rw [lexM, lexM]; rfl
  | cons c r =>
    obtain rfl := hr c rfl
    rw [lexM_step (m := .gap) (x := ([⟨false, at_ + 1 + a.length, row, []⟩], .gap, row + 1)) rfl, lexM_step (m := .note) (x := ([⟨false, at_ + 1 + a.length, row, []⟩], .gap, row + 1)) rfl]
/-- How many bytes of a word a text begins with. -/
theorem wordRun : ∀ (l : List UInt8), ∃ w r, l = w ++ r ∧ (∀ c ∈ w, wordB c = true) ∧ (∀ c, r.head? = some c → wordB c = false)
  | [] => ⟨[], [], rfl, (fun c h => by cases h), fun c h => by cases h⟩
  | c :: l => by
    by_cases hc : wordB c = true
    · obtain ⟨w, r, h1, h2, h3⟩ := wordRun l
      refine ⟨c :: w, r, by rw [h1]; rfl, fun x hx => ?_, h3⟩
      rcases List.mem_cons.1 hx with rfl | hx
      · exact hc
      · exact h2 x hx
    · refine ⟨[], c :: l, rfl, (fun c h => by cases h), fun x hx => ?_⟩
      obtain rfl : c = x := by simpa using hx
      exact Bool.eq_false_iff.2 hc
/-- How many bytes a text has ahead of where its first line ends. -/
theorem noteRun : ∀ (l : List UInt8), ∃ a r, l = a ++ r ∧ (∀ c ∈ a, c ≠ 10) ∧ (∀ c, r.head? = some c → c = 10)
  | [] => ⟨[], [], rfl, (fun c h => by cases h), fun c h => by cases h⟩
  | c :: l => by
    by_cases hc : c = 10
    · refine ⟨[], c :: l, rfl, (fun c h => by cases h), fun x hx => ?_⟩
      obtain rfl : c = x := by simpa using hx
      exact hc
    · obtain ⟨a, r, h1, h2, h3⟩ := noteRun l
      refine ⟨c :: a, r, by rw [h1]; rfl, fun x hx => ?_, h3⟩
      rcases List.mem_cons.1 hx with rfl | hx
      · exact hc
      · exact h2 x hx
/-- The tokens are no more than the bytes and one; their ends no more than that. -/
theorem lexM_count : ∀ (l : List UInt8) (m : Md) (at_ row : Nat) (ts : List Tk), lexM m at_ row l = .inr ts → ts.length ≤ l.length + 1 + (m.flush row).length ∧ (m.flush row).length ≤ 1 := by
  intro l
  induction l with
  | nil =>
    intro m at_ row ts h
    rw [lexM] at h
    cases h
    have : (m.flush row).length ≤ 1 := by cases m <;> simp [Md.flush]
    exact ⟨by simp; omega, this⟩
  | cons c l ih =>
    intro m at_ row ts h
    have h1 : (m.flush row).length ≤ 1 := by cases m <;> simp [Md.flush]
    refine ⟨?_, h1⟩
    cases hs : stepL at_ row c m with
    | none => rw [lexM_none hs] at h; cases h
    | some x =>
      rw [lexM_step hs] at h
      cases hx : lexM x.2.1 (at_ + 1) x.2.2 l with
      | inl e => rw [hx] at h; cases h
      | inr us =>
        rw [hx] at h
        cases h
        obtain ⟨i1, i2⟩ := ih _ _ _ _ hx
        rw [List.length_append]
        rcases step_cases hs with ⟨st, acc, rfl, _, rfl⟩ | ⟨m', hm', rfl⟩ | ⟨_, rfl⟩
        · simp [Md.flush] at i1 ⊢; omega
        · rcases hm' with rfl | rfl | ⟨rfl, _⟩ <;> simp [Md.flush] at i1 ⊢ <;> omega
        · simp [Md.flush] at i1 ⊢; omega
end Go.Proofs.YtiggfoghogecjaaDoor
