/-
  Two texts with an end between, and a note ahead of that end. Pure. No conditions.
-/
import Derived.Test.YtiggfoghogecjaaPurL18
namespace Go.Proofs.Ytiggfoghogecjaa

/-- Told alike, but for the place. -/
def Tk.like (t u : Tk) : Prop := t.word = u.word ∧ t.row = u.row ∧ t.text = u.text
theorem Tk.like_refl (t : Tk) : t.like t := ⟨rfl, rfl, rfl⟩
def likeL (xs ys : List Tk) : Prop := xs.length = ys.length ∧ ∀ (i : Nat) t u, xs[i]? = some t → ys[i]? = some u → t.like u
theorem likeL_refl (xs : List Tk) : likeL xs xs := ⟨rfl, fun i t u h1 h2 => by rw [h1] at h2; obtain rfl := Option.some.inj h2; exact t.like_refl⟩
theorem likeL_append {a b c d : List Tk} (h : likeL a b) (k : likeL c d) : likeL (a ++ c) (b ++ d) := by
  refine ⟨by rw [List.length_append, List.length_append, h.1, k.1], fun i t u h1 h2 => ?_⟩
  by_cases hi : i < a.length
  · rw [List.getElem?_append_left hi] at h1
    rw [List.getElem?_append_left (by rw [← h.1]; exact hi)] at h2
    exact h.2 i t u h1 h2
  · rw [List.getElem?_append_right (by omega)] at h1
    rw [List.getElem?_append_right (by rw [← h.1]; omega), ← h.1] at h2
    exact k.2 _ t u h1 h2
theorem likeL_shift (d d' k : Nat) (ys : List Tk) : likeL (ys.map (Tk.shift d k)) (ys.map (Tk.shift d' k)) := by
  refine ⟨by simp, fun i t u h1 h2 => ?_⟩
  rw [List.getElem?_map] at h1 h2
  cases hy : ys[i]? with
  | none => rw [hy] at h1; cases h1
  | some y =>
    rw [hy] at h1 h2
    obtain rfl := Option.some.inj h1
    obtain rfl := Option.some.inj h2
    exact ⟨rfl, rfl, rfl⟩
theorem likeL_one (p p' r : Nat) : likeL [⟨false, p, r, []⟩] [⟨false, p', r, []⟩] := by
  refine ⟨rfl, fun i t u h1 h2 => ?_⟩
  cases i with
  | zero =>
    obtain rfl := Option.some.inj h1
    obtain rfl := Option.some.inj h2
    exact ⟨rfl, rfl, rfl⟩
  | succ i => simp at h1
/-- A note behind a text: its last end stands further on. -/
theorem lexM_noted (q : List UInt8) (hq : ∀ c ∈ q, c ≠ 10) : ∀ (a : List UInt8) (m : Md) (at_ row : Nat) (xs : List Tk), lexM m at_ row a = .inr xs → ∃ us r, xs = us ++ [⟨false, at_ + a.length, r, []⟩] ∧ lexM m at_ row (a ++ 32 :: 35 :: q) = .inr (us ++ [⟨false, at_ + a.length + 2 + q.length, r, []⟩])
  | [], m, at_, row, xs, h => by
    rw [lexM] at h
    cases h
    refine ⟨m.flush row, row, rfl, ?_⟩
    have hb := lexM_note_end q (at_ + 1 + 1) row hq
    rw [List.nil_append]
    have hg : lexM .gap (at_ + 1) row (35 :: q) = .inr [⟨false, at_ + 1 + 1 + q.length, row, []⟩] := by
      have hs : stepL (at_ + 1) row 35 .gap = some ([], .note, row) := rfl
      rw [lexM_quiet hs, hb]
    have hn : lexM .note (at_ + 1) row (35 :: q) = .inr [⟨false, at_ + 1 + 1 + q.length, row, []⟩] := by
      have hs : stepL (at_ + 1) row 35 .note = some ([], .note, row) := rfl
      rw [lexM_quiet hs, hb]
    have e : at_ + ([] : List UInt8).length + 2 + q.length = at_ + 1 + 1 + q.length := by simp
    rw [e]
    cases m with
    | gap =>
      have hs : stepL at_ row 32 .gap = some ([], .gap, row) := rfl
      rw [lexM_quiet hs, hg]
      rfl
    | note =>
      have hs : stepL at_ row 32 .note = some ([], .note, row) := rfl
      rw [lexM_quiet hs, hn]
      rfl
    | word st acc =>
      have hs : stepL at_ row 32 (.word st acc) = some ([⟨true, st, row, acc⟩], .gap, row) := rfl
      rw [lexM_step hs]
      dsimp only
      rw [hg]
      rfl
  | c :: a, m, at_, row, xs, h => by
    rw [List.cons_append]
    cases hs : stepL at_ row c m with
    | none => rw [lexM_none hs] at h; cases h
    | some x =>
      rw [lexM_step hs] at h
      rw [lexM_step hs]
      cases hx : lexM x.2.1 (at_ + 1) x.2.2 a with
      | inl e => rw [hx] at h; cases h
      | inr ts =>
        rw [hx] at h
        cases h
        obtain ⟨us, r, h1, h2⟩ := lexM_noted q hq a _ _ _ _ hx
        have e : at_ + 1 + a.length = at_ + (c :: a).length := by rw [List.length_cons]; omega
        rw [e] at h1 h2
        refine ⟨x.1 ++ us, r, by rw [h1, List.append_assoc], ?_⟩
        rw [h2]
        show Sum.inr (x.1 ++ (us ++ _)) = _
        rw [List.append_assoc]
/-- Rows and places, no further than the bytes. -/
theorem lexM_bounds : ∀ (l : List UInt8) (m : Md) (at_ row : Nat) (ts : List Tk), (∀ st acc, m = .word st acc → st ≤ at_) → lexM m at_ row l = .inr ts → ∀ t ∈ ts, t.at_ ≤ at_ + l.length ∧ t.row ≤ row + l.length
  | [], m, at_, row, ts, hm, h => by
    rw [lexM] at h
    cases h
    intro t ht
    rcases List.mem_append.1 ht with ht | ht
    · cases m with
      | gap => cases ht
      | note => cases ht
      | word st acc =>
        obtain rfl := List.mem_singleton.1 ht
        exact ⟨hm st acc rfl, Nat.le_refl _⟩
    · obtain rfl := List.mem_singleton.1 ht
      exact ⟨Nat.le_refl _, Nat.le_refl _⟩
  | c :: l, m, at_, row, ts, hm, h => by
    cases hs : stepL at_ row c m with
    | none => rw [lexM_none hs] at h; cases h
    | some x =>
      rw [lexM_step hs] at h
      cases hx : lexM x.2.1 (at_ + 1) x.2.2 l with
      | inl e => rw [hx] at h; cases h
      | inr us =>
        rw [hx] at h
        cases h
        have hfl : ∀ t ∈ m.flush row, t.at_ ≤ at_ ∧ t.row = row := fun t ht => by
          cases m with
          | gap => cases ht
          | note => cases ht
          | word st acc =>
            obtain rfl := List.mem_singleton.1 ht
            exact ⟨hm st acc rfl, rfl⟩
        have key : (∀ st acc, x.2.1 = .word st acc → st ≤ at_ + 1) ∧ x.2.2 ≤ row + 1 ∧ ∀ t ∈ x.1, t.at_ ≤ at_ ∧ t.row ≤ row := by
          rcases step_cases hs with ⟨st, acc, rfl, _, rfl⟩ | ⟨m', hm', rfl⟩ | ⟨_, rfl⟩
          · exact ⟨fun s2 a2 e => by cases e; exact Nat.le_succ_of_le (hm st acc rfl), Nat.le_succ _, fun t ht => by cases ht⟩
          · refine ⟨fun s2 a2 e => ?_, Nat.le_succ _, fun t ht => ⟨(hfl t ht).1, Nat.le_of_eq (hfl t ht).2⟩⟩
            dsimp only at e
            rcases hm' with h | h | ⟨h, _⟩
            · rw [h] at e; cases e
            · rw [h] at e; cases e
            · rw [h] at e; cases e; exact Nat.le_succ _
          · refine ⟨fun s2 a2 e => (by cases e), Nat.le_refl _, fun t ht => ?_⟩
            rcases List.mem_append.1 ht with ht | ht
            · exact ⟨(hfl t ht).1, Nat.le_of_eq (hfl t ht).2⟩
            · obtain rfl := List.mem_singleton.1 ht
              exact ⟨Nat.le_refl _, Nat.le_refl _⟩
        intro t ht
        rw [List.length_cons]
        rcases List.mem_append.1 ht with ht | ht
        · have := key.2.2 t ht
          omega
        · have h1 := lexM_bounds l x.2.1 (at_ + 1) x.2.2 us key.1 hx t ht
          have := key.2.1
          omega
/-- Two texts, an end between; a note ahead of it. -/
theorem lex_two {a b : List UInt8} {xs ys : List Tk} (ha : lexM .gap 0 1 a = .inr xs) (hb : lexM .gap 0 1 b = .inr ys) : ∃ R us, xs = us ++ [⟨false, a.length, R, []⟩] ∧ lexM .gap 0 1 (a ++ 10 :: b) = .inr (xs ++ ys.map (Tk.shift (a.length + 1) R)) ∧ ∀ q : List UInt8, (∀ c ∈ q, c ≠ 10) → ∃ ws, lexM .gap 0 1 (a ++ 32 :: 35 :: q ++ 10 :: b) = .inr ws ∧ likeL ws (xs ++ ys.map (Tk.shift (a.length + 1) R)) := by
  obtain ⟨us, R, h1, _⟩ := lexM_noted [] (fun c h => by cases h) a .gap 0 1 xs ha
  rw [Nat.zero_add] at h1
  have hl := lexM_line a .gap 0 1 b
  have hlast : ∀ p : Nat, (((us ++ [(⟨false, p, R, []⟩ : Tk)]).getLast?.map (·.row)).getD 0 + 1) = 1 + R := fun p => by
    rw [List.getLast?_append]
    simp
    omega
  refine ⟨R, us, h1, ?_, fun q hq => ?_⟩
  · rw [hl, ha]
    dsimp only
    rw [h1, hlast]
    have hsh := lexM_shift (a.length + 1) R b .gap 0 1
    rw [hb] at hsh
    have e : Md.shift (a.length + 1) .gap = .gap := rfl
    rw [e] at hsh
    rw [show 0 + a.length + 1 = 0 + (a.length + 1) by omega, hsh]
  · obtain ⟨us2, R2, g1, g2⟩ := lexM_noted q hq a .gap 0 1 xs ha
    rw [Nat.zero_add] at g1
    have hus : us2 = us ∧ R2 = R := by
      rw [h1] at g1
      have := List.append_inj' g1 rfl
      refine ⟨this.1.symm, ?_⟩
      have h2 := this.2
      simp at h2
      exact h2.symm
    obtain ⟨rfl, rfl⟩ := hus
    have hl2 := lexM_line (a ++ 32 :: 35 :: q) .gap 0 1 b
    rw [g2] at hl2
    dsimp only at hl2
    rw [hlast] at hl2
    have hsh := lexM_shift ((a ++ 32 :: 35 :: q).length + 1) R2 b .gap 0 1
    rw [hb] at hsh
    have e : Md.shift ((a ++ 32 :: 35 :: q).length + 1) .gap = .gap := rfl
    rw [e] at hsh
    rw [show 0 + (a ++ 32 :: 35 :: q).length + 1 = 0 + ((a ++ 32 :: 35 :: q).length + 1) by omega, hsh] at hl2
    refine ⟨_, hl2, ?_⟩
    rw [h1]
    exact likeL_append (likeL_append (likeL_refl _) (likeL_one _ _ _)) (likeL_shift _ _ _ _)
/-- One of them is no text that may be. -/
theorem lex_not {a b : List UInt8} (h : (∃ p, lexM .gap 0 1 a = .inl p) ∨ ∃ p, lexM .gap 0 1 b = .inl p) : ∃ p, lexM .gap 0 1 (a ++ 10 :: b) = .inl p := by
  have hl := lexM_line a .gap 0 1 b
  cases ha : lexM .gap 0 1 a with
  | inl p => rw [ha] at hl; exact ⟨p, hl⟩
  | inr xs =>
    rcases h with ⟨p, hp⟩ | ⟨p, hp⟩
    · rw [ha] at hp; cases hp
    · rw [ha] at hl
      dsimp only at hl
      obtain ⟨us, R, h1, _⟩ := lexM_noted [] (fun c h => by cases h) a .gap 0 1 xs ha
      have hlast : ((xs.getLast?.map (·.row)).getD 0 + 1) = 1 + R := by
        rw [h1, List.getLast?_append]
        simp
        omega
      rw [hlast] at hl
      have hsh := lexM_shift (a.length + 1) R b .gap 0 1
      rw [hp] at hsh
      have e : Md.shift (a.length + 1) .gap = .gap := rfl
      rw [e] at hsh
      rw [show 0 + a.length + 1 = 0 + (a.length + 1) by omega, hsh] at hl
      exact ⟨_, hl⟩
end Go.Proofs.Ytiggfoghogecjaa
