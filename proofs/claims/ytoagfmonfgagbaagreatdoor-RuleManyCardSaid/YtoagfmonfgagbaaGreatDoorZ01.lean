/-
  A text as words and ends, byte by byte: the modes, texts put together, what stands where, notes, bytes that may not be. Pure. No conditions.
  A text as words and ends, taken by whole words and whole notes; texts before and behind. Pure. No conditions.
-/
import Derived.Lib.Hide
namespace Go.Proofs.YtoagfmonfgagbaaGreatDoor

def blankB (c : UInt8) : Bool := c == 9 || c == 13 || c == 32
def wordB (c : UInt8) : Bool := decide (33 ≤ c.toNat) && decide (c.toNat ≤ 126) && c != 35
theorem wordB_not {c : UInt8} (h : wordB c = true) : blankB c = false ∧ c ≠ 35 ∧ c ≠ 10 := by
  unfold wordB at h
  simp only [Bool.and_eq_true, decide_eq_true_eq, bne_iff_ne] at h
  obtain ⟨⟨h1, h2⟩, h3⟩ := h
  refine ⟨?_, h3, ?_⟩
  · unfold blankB
    simp only [Bool.or_eq_false_iff, beq_eq_false_iff_ne]
    refine ⟨⟨?_, ?_⟩, ?_⟩ <;> rintro rfl <;> revert h1 <;> decide
  · rintro rfl
    revert h1
    decide
structure Tk where
  word : Bool
  at_ : Nat
  row : Nat
  text : List UInt8
deriving DecidableEq
/-- Between words; behind "#"; in a word, from a place on. -/
inductive Md where
  | gap
  | note
  | word (st : Nat) (acc : List UInt8)
def Md.flush (row : Nat) : Md → List Tk
  | .word st acc => [⟨true, st, row, acc⟩]
  | _ => []
/-- One byte between words. -/
def gapL (at_ row : Nat) (c : UInt8) : Option (List Tk × Md × Nat) :=
  if blankB c then some ([], .gap, row) else if c = 35 then some ([], .note, row) else if c = 10 then some ([⟨false, at_, row, []⟩], .gap, row + 1) else if wordB c then some ([], .word at_ [c], row) else none
def stepL (at_ row : Nat) (c : UInt8) : Md → Option (List Tk × Md × Nat)
  | .note => if c = 10 then some ([⟨false, at_, row, []⟩], .gap, row + 1) else some ([], .note, row)
  | .word st acc => if wordB c then some ([], .word st (acc ++ [c]), row) else (gapL at_ row c).map fun x => (⟨true, st, row, acc⟩ :: x.1, x.2)
  | .gap => gapL at_ row c
/-- All words from here on: or the place of a byte that may not be. -/
def lexM : Md → Nat → Nat → List UInt8 → Sum Nat (List Tk)
  | m, at_, row, [] => .inr (m.flush row ++ [⟨false, at_, row, []⟩])
  | m, at_, row, c :: l => match stepL at_ row c m with
    | none => .inl at_
    | some x => match lexM x.2.1 (at_ + 1) x.2.2 l with
      | .inl e => .inl e
      | .inr ts => .inr (x.1 ++ ts)
theorem lexM_none {m : Md} {at_ row : Nat} {c : UInt8} {l : List UInt8} (h : stepL at_ row c m = none) : lexM m at_ row (c :: l) = .inl at_ := by rw [lexM, h]
theorem lexM_some {m : Md} {at_ row : Nat} {c : UInt8} {l : List UInt8} {x : List Tk × Md × Nat} (h : stepL at_ row c m = some x) : lexM m at_ row (c :: l) = (match lexM x.2.1 (at_ + 1) x.2.2 l with | .inl e => .inl e | .inr ts => .inr (x.1 ++ ts)) := by rw [lexM, h]
theorem lexM_quiet {m m' : Md} {at_ row r' : Nat} {c : UInt8} {l : List UInt8} (h : stepL at_ row c m = some ([], m', r')) : lexM m at_ row (c :: l) = lexM m' (at_ + 1) r' l := by
  rw [lexM_some h]
  dsimp only
  cases lexM m' (at_ + 1) r' l <;> rfl
/-! ### A text's parts -/
/-- Behind a text, where an end stands. -/
theorem lexM_line : ∀ (a : List UInt8) (m : Md) (at_ row : Nat) (b : List UInt8), lexM m at_ row (a ++ 10 :: b) = (match lexM m at_ row a with
    | .inl e => .inl e
    | .inr x => match lexM .gap (at_ + a.length + 1) ((x.getLast?.map (·.row)).getD 0 + 1) b with
      | .inl e => .inl e
      | .inr y => .inr (x ++ y))
  | [], m, at_, row, b => by
    have hs : stepL at_ row 10 m = some (m.flush row ++ [⟨false, at_, row, []⟩], .gap, row + 1) := by cases m <;> rfl
    rw [List.nil_append, lexM_some hs]
    dsimp only
    rw [lexM]
    dsimp only
    rw [List.getLast?_append]
    rfl
  | c :: a, m, at_, row, b => by
    rw [List.cons_append]
    cases hs : stepL at_ row c m with
    | none => rw [lexM_none hs, lexM_none hs]
    | some x =>
      rw [lexM_some hs, lexM_some hs, lexM_line a]
      have e : at_ + 1 + a.length + 1 = at_ + (c :: a).length + 1 := by rw [List.length_cons]; omega
      rw [e]
      cases hx : lexM x.2.1 (at_ + 1) x.2.2 a with
      | inl e => rfl
      | inr ts =>
        dsimp only
        have hne : ∀ (m : Md) (at_ row : Nat) (a : List UInt8) (ts : List Tk), lexM m at_ row a = .inr ts → ts.getLast? ≠ none := by
          intro m at_ row a
          induction a generalizing m at_ row with
          | nil => intro ts h; rw [lexM] at h; cases h; simp
          | cons c a ih =>
            intro ts h
            cases hs : stepL at_ row c m with
            | none => rw [lexM_none hs] at h; cases h
            | some x =>
              rw [lexM_some hs] at h
              cases hx : lexM x.2.1 (at_ + 1) x.2.2 a with
              | inl e => rw [hx] at h; cases h
              | inr us =>
                rw [hx] at h
                cases h
                have := ih _ _ _ _ hx
                simp only [ne_eq, List.getLast?_eq_none_iff] at this ⊢
                simp [this]
        have hl := hne _ _ _ _ _ hx
        obtain ⟨z, hz⟩ : ∃ z, ts.getLast? = some z := Option.ne_none_iff_exists'.1 hl
        have hz2 : (x.1 ++ ts).getLast? = some z := by rw [List.getLast?_append, hz]; rfl
        rw [hz, hz2]
        dsimp only [Option.map_some, Option.getD_some]
        cases lexM .gap (at_ + (c :: a).length + 1) (z.row + 1) b with
        | inl e => rfl
        | inr y => dsimp only; rw [List.append_assoc]
/-- A text's place and row play no part for what is told. -/
def Tk.shift (d k : Nat) (t : Tk) : Tk := ⟨t.word, t.at_ + d, t.row + k, t.text⟩
def Md.shift (d : Nat) : Md → Md
  | .word st acc => .word (st + d) acc
  | m => m
theorem gapL_shift (at_ row d k : Nat) (c : UInt8) : gapL (at_ + d) (row + k) c = (gapL at_ row c).map fun x => (x.1.map (Tk.shift d k), x.2.1.shift d, x.2.2 + k) := by
  unfold gapL
  by_cases h1 : blankB c = true
  · rw [if_pos h1, if_pos h1]; rfl
  rw [if_neg h1, if_neg h1]
  by_cases h2 : c = 35
  · rw [if_pos h2, if_pos h2]; rfl
  rw [if_neg h2, if_neg h2]
  by_cases h3 : c = 10
  · rw [if_pos h3, if_pos h3]
    simp [Tk.shift, Md.shift]
    omega
  rw [if_neg h3, if_neg h3]
  by_cases h4 : wordB c = true
  · rw [if_pos h4, if_pos h4]; rfl
  rw [if_neg h4, if_neg h4]
  rfl
theorem stepL_shift (at_ row d k : Nat) (c : UInt8) (m : Md) : stepL (at_ + d) (row + k) c (m.shift d) = (stepL at_ row c m).map fun x => (x.1.map (Tk.shift d k), x.2.1.shift d, x.2.2 + k) := by
  cases m with
  | gap => exact gapL_shift ..
  | note =>
    show (if c = 10 then _ else _) = (if c = 10 then _ else _ : Option (List Tk × Md × Nat)).map _
    by_cases h : c = 10
    · rw [if_pos h, if_pos h]
      simp [Tk.shift, Md.shift]
      omega
    · rw [if_neg h, if_neg h]; rfl
  | word st acc =>
    show (if wordB c = true then _ else _) = (if wordB c = true then _ else _ : Option (List Tk × Md × Nat)).map _
    by_cases h : wordB c = true
    · rw [if_pos h, if_pos h]; rfl
    · rw [if_neg h, if_neg h, gapL_shift]
      cases gapL at_ row c with
      | none => rfl
      | some x => rfl
theorem lexM_shift (d k : Nat) : ∀ (l : List UInt8) (m : Md) (at_ row : Nat), lexM (m.shift d) (at_ + d) (row + k) l = (match lexM m at_ row l with
    | .inl e => .inl (e + d)
    | .inr ts => .inr (ts.map (Tk.shift d k)))
  | [], m, at_, row => by cases m <;> rfl
  | c :: l, m, at_, row => by
    have hs := stepL_shift at_ row d k c m
    cases h : stepL at_ row c m with
    | none =>
      rw [h] at hs
      rw [lexM_none h, lexM_none hs]
    | some x =>
      rw [h] at hs
      rw [lexM_some h, lexM_some hs]
      dsimp only
      have ih := lexM_shift d k l x.2.1 (at_ + 1) x.2.2
      rw [show at_ + d + 1 = at_ + 1 + d by omega, ih]
      cases lexM x.2.1 (at_ + 1) x.2.2 l with
      | inl e => rfl
      | inr ts => dsimp only; rw [List.map_append]
/-! ### What stands where -/
/-- Each word stands where it says; rows rise by one at each end. -/
def standsF (s : List UInt8) : Nat → Nat → List Tk → Prop
  | _, _, [] => True
  | row, lo, t :: ts => t.row = row ∧ lo ≤ t.at_ ∧ t.at_ + t.text.length ≤ s.length ∧ (t.word = true → t.text ≠ [] ∧ (s.drop t.at_).take t.text.length = t.text ∧ ∀ c ∈ t.text, wordB c = true) ∧ (t.word = false → t.text = [] ∧ (t.at_ < s.length → s[t.at_]? = some 10)) ∧ standsF s (if t.word then row else row + 1) (t.at_ + t.text.length) ts
theorem standsF_le {s : List UInt8} : ∀ {ts : List Tk} {row lo lo' : Nat}, lo' ≤ lo → standsF s row lo ts → standsF s row lo' ts
  | [], _, _, _, _, _ => trivial
  | _ :: _, _, _, _, hl, h => ⟨h.1, Nat.le_trans hl h.2.1, h.2.2⟩
/-- What is known of a mode, behind so many bytes of a text. -/
def Md.fits (s : List UInt8) (at_ : Nat) : Md → Prop
  | .word st acc => acc ≠ [] ∧ st + acc.length = at_ ∧ (s.drop st).take acc.length = acc ∧ ∀ c ∈ acc, wordB c = true
  | _ => True
def Md.lo (at_ : Nat) : Md → Nat
  | .word st _ => st
  | _ => at_
/-- Behind a word that ends. -/
theorem stands_flush {s : List UInt8} {m : Md} {at_ row : Nat} (hf : m.fits s at_) (ha : at_ ≤ s.length) {ts : List Tk} (h : standsF s row at_ ts) : standsF s row (m.lo at_) (m.flush row ++ ts) := by
  cases m with
  | gap => exact h
  | note => exact h
  | word st acc =>
    obtain ⟨h1, h2, h3, h4⟩ := hf
    refine ⟨rfl, Nat.le_refl _, by show st + acc.length ≤ _; omega, (fun _ => ⟨h1, h3, h4⟩), (fun h => by cases h), ?_⟩
    show standsF s row (st + acc.length) ts
    rw [h2]
    exact h
theorem gapL_cases {at_ row : Nat} {c : UInt8} {x : List Tk × Md × Nat} (h : gapL at_ row c = some x) : (x = ([], .gap, row) ∧ blankB c = true) ∨ (x = ([], .note, row) ∧ c = 35) ∨ (x = ([⟨false, at_, row, []⟩], .gap, row + 1) ∧ c = 10) ∨ (x = ([], .word at_ [c], row) ∧ wordB c = true) := by
  unfold gapL at h
  by_cases h1 : blankB c = true
  · rw [if_pos h1] at h; exact Or.inl ⟨(Option.some.inj h).symm, h1⟩
  rw [if_neg h1] at h
  by_cases h2 : c = 35
  · rw [if_pos h2] at h; exact Or.inr (Or.inl ⟨(Option.some.inj h).symm, h2⟩)
  rw [if_neg h2] at h
  by_cases h3 : c = 10
  · rw [if_pos h3] at h; exact Or.inr (Or.inr (Or.inl ⟨(Option.some.inj h).symm, h3⟩))
  rw [if_neg h3] at h
  by_cases h4 : wordB c = true
  · rw [if_pos h4] at h; exact Or.inr (Or.inr (Or.inr ⟨(Option.some.inj h).symm, h4⟩))
  · rw [if_neg h4] at h; cases h
/-- What one byte tells: words that end, an end of a line. -/
theorem step_cases {m : Md} {at_ row : Nat} {c : UInt8} {x : List Tk × Md × Nat} (h : stepL at_ row c m = some x) :
    (∃ st acc, m = .word st acc ∧ wordB c = true ∧ x = ([], .word st (acc ++ [c]), row)) ∨
    (∃ m', (m' = .gap ∨ m' = .note ∨ (m' = .word at_ [c] ∧ wordB c = true)) ∧ x = (m.flush row, m', row)) ∨
    (c = 10 ∧ x = (m.flush row ++ [⟨false, at_, row, []⟩], .gap, row + 1)) := by
  cases m with
  | gap =>
    rcases gapL_cases h with ⟨rfl, _⟩ | ⟨rfl, _⟩ | ⟨rfl, h3⟩ | ⟨rfl, h4⟩
    · exact Or.inr (Or.inl ⟨.gap, Or.inl rfl, rfl⟩)
    · exact Or.inr (Or.inl ⟨.note, Or.inr (Or.inl rfl), rfl⟩)
    · exact Or.inr (Or.inr ⟨h3, rfl⟩)
    · exact Or.inr (Or.inl ⟨_, Or.inr (Or.inr ⟨rfl, h4⟩), rfl⟩)
  | note =>
    have h : (if c = 10 then some ([⟨false, at_, row, []⟩], Md.gap, row + 1) else some ([], Md.note, row)) = some x := h
    by_cases h3 : c = 10
    · rw [if_pos h3] at h; exact Or.inr (Or.inr ⟨h3, (Option.some.inj h).symm⟩)
    · rw [if_neg h3] at h; exact Or.inr (Or.inl ⟨.note, Or.inr (Or.inl rfl), (Option.some.inj h).symm⟩)
  | word st acc =>
    have h : (if wordB c = true then some ([], Md.word st (acc ++ [c]), row) else (gapL at_ row c).map fun x => (⟨true, st, row, acc⟩ :: x.1, x.2)) = some x := h
    by_cases hw : wordB c = true
    · rw [if_pos hw] at h; exact Or.inl ⟨st, acc, rfl, hw, (Option.some.inj h).symm⟩
    · rw [if_neg hw] at h
      cases hg : gapL at_ row c with
      | none => rw [hg] at h; cases h
      | some y =>
        rw [hg] at h
        obtain rfl := (Option.some.inj h).symm
        rcases gapL_cases hg with ⟨rfl, _⟩ | ⟨rfl, _⟩ | ⟨rfl, h3⟩ | ⟨rfl, h4⟩
        · exact Or.inr (Or.inl ⟨.gap, Or.inl rfl, rfl⟩)
        · exact Or.inr (Or.inl ⟨.note, Or.inr (Or.inl rfl), rfl⟩)
        · exact Or.inr (Or.inr ⟨h3, rfl⟩)
        · exact absurd h4 hw
theorem lexM_stands (s : List UInt8) : ∀ (l : List UInt8) (m : Md) (at_ row : Nat) (ts : List Tk), s.drop at_ = l → at_ ≤ s.length → m.fits s at_ → lexM m at_ row l = .inr ts → standsF s row (m.lo at_) ts ∧ ∃ us r', ts = us ++ [⟨false, s.length, r', []⟩]
  | [], m, at_, row, ts, hd, ha, hf, h => by
    rw [lexM] at h
    cases h
    have hl : at_ = s.length := by
      have := List.drop_eq_nil_iff.1 hd
      omega
    subst hl
    exact ⟨stands_flush hf ha ⟨rfl, Nat.le_refl _, by simp, (fun h => by cases h), (fun _ => ⟨rfl, fun h => absurd h (Nat.lt_irrefl _)⟩), trivial⟩, _, _, rfl⟩
  | c :: l, m, at_, row, ts, hd, ha, hf, h => by
    have hlt : at_ < s.length := by
      apply Nat.lt_of_not_le
      intro hle
      rw [List.drop_eq_nil_iff.2 hle] at hd
      cases hd
    have hc : s[at_]? = some c := by rw [← List.head?_drop, hd]; rfl
    have hd2 : s.drop (at_ + 1) = l := by rw [← List.tail_drop, hd]; rfl
    cases hs : stepL at_ row c m with
    | none => rw [lexM_none hs] at h; cases h
    | some x =>
      rw [lexM_some hs] at h
      cases hx : lexM x.2.1 (at_ + 1) x.2.2 l with
      | inl e => rw [hx] at h; cases h
      | inr us =>
        rw [hx] at h
        cases h
        rcases step_cases hs with ⟨st, acc, rfl, hw, rfl⟩ | ⟨m', hm', rfl⟩ | ⟨rfl, rfl⟩
        · obtain ⟨h1, h2, h3, h4⟩ := hf
          have hf2 : (Md.word st (acc ++ [c])).fits s (at_ + 1) := by
            refine ⟨by simp, by rw [List.length_append]; show st + (acc.length + 1) = _; omega, ?_, fun y hy => ?_⟩
            · rw [List.length_append]
              show (s.drop st).take (acc.length + 1) = _
              rw [List.take_add_one, h3, List.getElem?_drop, h2, hc]
              rfl
            · rcases List.mem_append.1 hy with hy | hy
              · exact h4 y hy
              · rw [List.mem_singleton.1 hy]; exact hw
          obtain ⟨i1, i2⟩ := lexM_stands s l _ (at_ + 1) row us hd2 hlt hf2 hx
          exact ⟨i1, i2⟩
        · have hf2 : m'.fits s (at_ + 1) := by
            rcases hm' with rfl | rfl | ⟨rfl, hw⟩
            · trivial
            · trivial
            · refine ⟨by simp, rfl, ?_, fun y hy => by rw [List.mem_singleton.1 hy]; exact hw⟩
              show (s.drop at_).take 1 = [c]
              rw [hd]
              rfl
          obtain ⟨i1, us', r', i2⟩ := lexM_stands s l m' (at_ + 1) row us hd2 hlt hf2 hx
          refine ⟨stands_flush hf ha (standsF_le ?_ i1), m.flush row ++ us', r', by dsimp only; rw [i2, List.append_assoc]⟩
          rcases hm' with rfl | rfl | ⟨rfl, _⟩
          · exact Nat.le_succ _
          · exact Nat.le_succ _
          · exact Nat.le_refl _
        · obtain ⟨i1, us', r', i2⟩ := lexM_stands s l .gap (at_ + 1) (row + 1) us hd2 hlt trivial hx
          refine ⟨?_, m.flush row ++ [⟨false, at_, row, []⟩] ++ us', r', by dsimp only; rw [i2]; simp only [List.append_assoc]⟩
          dsimp only
          rw [List.append_assoc]
          refine stands_flush hf ha ⟨rfl, Nat.le_refl _, by show at_ + 0 ≤ _; omega, (fun h => by cases h), (fun _ => ⟨rfl, fun _ => hc⟩), ?_⟩
          exact standsF_le (Nat.le_succ _) i1
/-! ### Behind "#" -/
theorem lexM_note : ∀ (a : List UInt8) (at_ row : Nat) (b : List UInt8), (∀ c ∈ a, c ≠ 10) → lexM .note at_ row (a ++ b) = lexM .note (at_ + a.length) row b
  | [], at_, row, b, _ => rfl
  | c :: a, at_, row, b, h => by
    have hs : stepL at_ row c .note = some ([], .note, row) := if_neg (h c (List.mem_cons_self ..))
    rw [List.cons_append, lexM_quiet hs, lexM_note a _ _ _ fun c hc => h c (List.mem_cons_of_mem _ hc), List.length_cons]
    congr 1
    omega
theorem lexM_note_end (a : List UInt8) (at_ row : Nat) (h : ∀ c ∈ a, c ≠ 10) : lexM .note at_ row a = .inr [⟨false, at_ + a.length, row, []⟩] := by
  have := lexM_note a at_ row [] h
  rw [List.append_nil] at this
  rw [this, lexM]
  rfl
/-! ### Bytes that may be -/
def fineB (c : UInt8) : Bool := blankB c || c == 35 || c == 10 || wordB c
theorem gapL_fine {at_ row : Nat} {c : UInt8} : gapL at_ row c = none ↔ fineB c = false := by
  unfold gapL fineB
  by_cases h1 : blankB c = true
  · rw [if_pos h1, h1]; simp
  rw [if_neg h1]
  by_cases h2 : c = 35
  · rw [if_pos h2]; simp [h2]
  rw [if_neg h2]
  by_cases h3 : c = 10
  · rw [if_pos h3]; simp [h3]
  rw [if_neg h3]
  by_cases h4 : wordB c = true
  · rw [if_pos h4]; simp [h4]
  · rw [if_neg h4]
    simp [h1, h2, h3, h4]
theorem step_fine {m : Md} {at_ row : Nat} {c : UInt8} (h : fineB c = true) : ∃ x, stepL at_ row c m = some x := by
  have hg : ∃ x, gapL at_ row c = some x := by
    cases hg : gapL at_ row c with
    | none => rw [gapL_fine.1 hg] at h; cases h
    | some x => exact ⟨x, rfl⟩
  obtain ⟨x, hx⟩ := hg
  cases m with
  | gap => exact ⟨x, hx⟩
  | note =>
    by_cases h3 : c = 10
    · exact ⟨_, if_pos h3⟩
    · exact ⟨_, if_neg h3⟩
  | word st acc =>
    by_cases hw : wordB c = true
    · exact ⟨_, if_pos hw⟩
    · exact ⟨_, by show (if wordB c = true then _ else _) = _; rw [if_neg hw, hx]; rfl⟩
theorem lexM_fine : ∀ (l : List UInt8) (m : Md) (at_ row : Nat), (∀ c ∈ l, fineB c = true) → ∃ ts, lexM m at_ row l = .inr ts
  | [], m, at_, row, _ => ⟨_, by rw [lexM]⟩
  | c :: l, m, at_, row, h => by
    obtain ⟨x, hx⟩ := step_fine (m := m) (at_ := at_) (row := row) (h c (List.mem_cons_self ..))
    obtain ⟨ts, ht⟩ := lexM_fine l x.2.1 (at_ + 1) x.2.2 fun c hc => h c (List.mem_cons_of_mem _ hc)
    exact ⟨x.1 ++ ts, by rw [lexM_some hx, ht]⟩
/-- Behind bytes that may be, none of which is "#", one that may not be. -/
theorem lexM_bad : ∀ (a : List UInt8) (m : Md) (at_ row : Nat) (c : UInt8) (b : List UInt8), (∀ x ∈ a, fineB x = true ∧ x ≠ 35) → m ≠ .note → fineB c = false → lexM m at_ row (a ++ c :: b) = .inl (at_ + a.length)
  | [], m, at_, row, c, b, _, hm, hc => by
    have hg := gapL_fine (at_ := at_) (row := row) (c := c) |>.2 hc
    have hs : stepL at_ row c m = none := by
      cases m with
      | gap => exact hg
      | note => exact absurd rfl hm
      | word st acc =>
        have hw : ¬ wordB c = true := fun h => by unfold fineB at hc; rw [h] at hc; simp at hc
        show (if wordB c = true then _ else _) = _
        rw [if_neg hw, hg]
        rfl
    rw [List.nil_append, lexM_none hs]
    rfl
  | y :: a, m, at_, row, c, b, h, hm, hc => by
    obtain ⟨hy, hy2⟩ := h y (List.mem_cons_self ..)
    obtain ⟨x, hx⟩ := step_fine (m := m) (at_ := at_) (row := row) hy
    have hn : x.2.1 ≠ .note := by
      rcases step_cases hx with ⟨st, acc, rfl, hw, rfl⟩ | ⟨m', hm', rfl⟩ | ⟨rfl, rfl⟩
      · intro e; cases e
      · rcases hm' with rfl | rfl | ⟨rfl, _⟩
        · intro e; cases e
        · exfalso
          cases m with
          | note => exact hm rfl
          | gap =>
            rcases gapL_cases hx with ⟨h1, _⟩ | ⟨_, h2⟩ | ⟨h1, _⟩ | ⟨h1, _⟩
            · cases h1
            · exact hy2 h2
            · cases h1
            · cases h1
          | word st acc =>
            by_cases hw : wordB y = true
            · have hx2 : some (([], Md.word st (acc ++ [y]), row) : List Tk × Md × Nat) = some ([⟨true, st, row, acc⟩], Md.note, row) := by
                have h3 : (if wordB y = true then some (([], Md.word st (acc ++ [y]), row) : List Tk × Md × Nat) else (gapL at_ row y).map fun x => (⟨true, st, row, acc⟩ :: x.1, x.2)) = some ([⟨true, st, row, acc⟩], Md.note, row) := hx
                rwa [if_pos hw] at h3
              cases hx2
            · have h3 : (if wordB y = true then some (([], Md.word st (acc ++ [y]), row) : List Tk × Md × Nat) else (gapL at_ row y).map fun x => (⟨true, st, row, acc⟩ :: x.1, x.2)) = some ([⟨true, st, row, acc⟩], Md.note, row) := hx
              rw [if_neg hw] at h3
              cases hg : gapL at_ row y with
              | none => rw [hg] at h3; cases h3
              | some z =>
                rw [hg] at h3
                rcases gapL_cases hg with ⟨rfl, _⟩ | ⟨_, h2⟩ | ⟨rfl, _⟩ | ⟨rfl, _⟩
                · cases h3
                · exact hy2 h2
                · cases h3
                · cases h3
        · intro e; cases e
      · intro e; cases e
    rw [List.cons_append, lexM_some hx, lexM_bad a x.2.1 (at_ + 1) x.2.2 c b (fun z hz => h z (List.mem_cons_of_mem _ hz)) hn hc, List.length_cons]
    dsimp only
    congr 1
    omega
/-! ### Words with blanks between -/
theorem lexM_blanks : ∀ (a : List UInt8) (at_ row : Nat) (b : List UInt8), (∀ c ∈ a, blankB c = true) → lexM .gap at_ row (a ++ b) = lexM .gap (at_ + a.length) row b
  | [], _, _, _, _ => rfl
  | c :: a, at_, row, b, h => by
    have hs : stepL at_ row c .gap = some ([], .gap, row) := by
      show gapL at_ row c = _
      unfold gapL
      rw [if_pos (h c (List.mem_cons_self ..))]
    rw [List.cons_append, lexM_quiet hs, lexM_blanks a _ _ _ fun c hc => h c (List.mem_cons_of_mem _ hc), List.length_cons]
    congr 1
    omega
theorem lexM_inword : ∀ (w : List UInt8) (st : Nat) (acc : List UInt8) (at_ row : Nat) (b : List UInt8), (∀ c ∈ w, wordB c = true) → lexM (.word st acc) at_ row (w ++ b) = lexM (.word st (acc ++ w)) (at_ + w.length) row b
  | [], st, acc, at_, row, b, _ => by rw [List.append_nil]; rfl
  | c :: w, st, acc, at_, row, b, h => by
    have hs : stepL at_ row c (.word st acc) = some ([], .word st (acc ++ [c]), row) := if_pos (h c (List.mem_cons_self ..))
    rw [List.cons_append, lexM_quiet hs, lexM_inword w _ _ _ _ _ fun c hc => h c (List.mem_cons_of_mem _ hc), List.length_cons, List.append_assoc]
    show lexM (.word st (acc ++ c :: w)) _ _ _ = _
    congr 1
    omega
/-- A word, and a blank. -/
theorem lexM_word {w : List UInt8} (hw : w ≠ []) (h : ∀ c ∈ w, wordB c = true) {k : UInt8} (hk : blankB k = true) (at_ row : Nat) (b : List UInt8) : lexM .gap at_ row (w ++ k :: b) = (match lexM .gap (at_ + w.length + 1) row b with
    | .inl e => .inl e
    | .inr ts => .inr (⟨true, at_, row, w⟩ :: ts)) := by
  cases w with
  | nil => exact absurd rfl hw
  | cons c w =>
    have hc := h c (List.mem_cons_self ..)
    obtain ⟨n1, n2, n3⟩ := wordB_not hc
    have hs : stepL at_ row c .gap = some ([], .word at_ [c], row) := by
      show gapL at_ row c = _
      unfold gapL
      rw [if_neg (by rw [n1]; decide), if_neg n2, if_neg n3, if_pos hc]
    rw [List.cons_append, lexM_quiet hs, lexM_inword w _ _ _ _ _ fun c hc => h c (List.mem_cons_of_mem _ hc)]
    have hkw : ¬ wordB k = true := fun hh => by rw [(wordB_not hh).1] at hk; cases hk
    have hs2 : stepL (at_ + 1 + w.length) row k (.word at_ ([c] ++ w)) = some ([⟨true, at_, row, [c] ++ w⟩], .gap, row) := by
      show (if wordB k = true then _ else _) = _
      rw [if_neg hkw]
      unfold gapL
      rw [if_pos hk]
      rfl
    rw [lexM_some hs2]
    dsimp only
    rw [show at_ + 1 + w.length + 1 = at_ + (c :: w).length + 1 by rw [List.length_cons]; omega]
    rfl

end Go.Proofs.YtoagfmonfgagbaaGreatDoor

namespace Go.Proofs.YtoagfmonfgagbaaGreatDoor

/-- What stands ahead, put ahead. -/
def joinR (xs : List Tk) : Sum Nat (List Tk) → Sum Nat (List Tk)
  | .inl e => .inl e
  | .inr ts => .inr (xs ++ ts)
theorem joinR_nil (r : Sum Nat (List Tk)) : joinR [] r = r := by cases r <;> rfl
theorem joinR_joinR (xs ys : List Tk) (r : Sum Nat (List Tk)) : joinR xs (joinR ys r) = joinR (xs ++ ys) r := by
  cases r with
  | inl e => rfl
  | inr ts => simp [joinR]
theorem lexM_step {m : Md} {at_ row : Nat} {c : UInt8} {l : List UInt8} {x : List Tk × Md × Nat} (h : stepL at_ row c m = some x) : lexM m at_ row (c :: l) = joinR x.1 (lexM x.2.1 (at_ + 1) x.2.2 l) := by
  rw [lexM_some h]
  cases lexM x.2.1 (at_ + 1) x.2.2 l <;> rfl
theorem lexM_end (at_ row : Nat) : lexM .gap at_ row [] = .inr [⟨false, at_, row, []⟩] := by rw [lexM]; rfl
/-- A blank. -/
theorem lexM_blank {c : UInt8} (h : blankB c = true) (at_ row : Nat) (l : List UInt8) : lexM .gap at_ row (c :: l) = lexM .gap (at_ + 1) row l := by
  apply lexM_quiet
  show gapL at_ row c = _
  unfold gapL
  rw [if_pos h]
/-- An end. -/
theorem lexM_ten (at_ row : Nat) (l : List UInt8) : lexM .gap at_ row (10 :: l) = joinR [⟨false, at_, row, []⟩] (lexM .gap (at_ + 1) (row + 1) l) := lexM_step (x := ([⟨false, at_, row, []⟩], .gap, row + 1)) rfl
/-- A byte that may not be. -/
theorem lexM_no {c : UInt8} (h : fineB c = false) (at_ row : Nat) (l : List UInt8) : lexM .gap at_ row (c :: l) = .inl at_ := lexM_none (gapL_fine.2 h)
/-- In a word, where it ends. -/
theorem lexM_leave (st : Nat) (acc : List UInt8) (at_ row : Nat) (r : List UInt8) (hr : ∀ c, r.head? = some c → wordB c = false) : lexM (.word st acc) at_ row r = joinR [⟨true, st, row, acc⟩] (lexM .gap at_ row r) := by
  cases r with
  | nil => rw [lexM, lexM]; rfl
  | cons c r =>
    have hc := hr c rfl
    have hw : ¬ wordB c = true := by rw [hc]; decide
    cases hg : gapL at_ row c with
    | none =>
      have h1 : stepL at_ row c (.word st acc) = none := by
        show (if wordB c = true then _ else _) = _
        rw [if_neg hw, hg]
        rfl
      rw [lexM_none h1, lexM_none (m := .gap) hg]
      rfl
    | some x =>
      have h1 : stepL at_ row c (.word st acc) = some (⟨true, st, row, acc⟩ :: x.1, x.2) := by
        show (if wordB c = true then _ else _) = _
        rw [if_neg hw, hg]
        rfl
      rw [lexM_step h1, lexM_step (m := .gap) hg, joinR_joinR]
      rfl
/-- A word as a whole. -/
theorem lexM_whole {w : List UInt8} (hw : w ≠ []) (h : ∀ c ∈ w, wordB c = true) (at_ row : Nat) (r : List UInt8) (hr : ∀ c, r.head? = some c → wordB c = false) : lexM .gap at_ row (w ++ r) = joinR [⟨true, at_, row, w⟩] (lexM .gap (at_ + w.length) row r) := by
  cases w with
  | nil => exact absurd rfl hw
  | cons c w =>
    have hc := h c (List.mem_cons_self ..)
    obtain ⟨n1, n2, n3⟩ := wordB_not hc
    have hs : stepL at_ row c .gap = some ([], .word at_ [c], row) := by
      show gapL at_ row c = _
      unfold gapL
      rw [if_neg (by rw [n1]; decide), if_neg n2, if_neg n3, if_pos hc]
    rw [List.cons_append, lexM_quiet hs, lexM_inword w _ _ _ _ _ fun c hc => h c (List.mem_cons_of_mem _ hc), lexM_leave _ _ _ _ _ hr]
    have e : at_ + 1 + w.length = at_ + (c :: w).length := by rw [List.length_cons]; omega
    rw [e]
    rfl
/-- A note, up to where its line ends. -/
theorem lexM_pass (a : List UInt8) (at_ row : Nat) (r : List UInt8) (ha : ∀ c ∈ a, c ≠ 10) (hr : ∀ c, r.head? = some c → c = 10) : lexM .gap at_ row (35 :: a ++ r) = lexM .gap (at_ + 1 + a.length) row r := by
  have hs : stepL at_ row 35 .gap = some ([], .note, row) := rfl
  rw [List.cons_append, lexM_quiet hs, lexM_note a _ _ _ ha]
  cases r with
  | nil => rw [lexM, lexM]; rfl
  | cons c r =>
    obtain rfl := hr c rfl
    rw [lexM_step (m := .gap) (x := ([⟨false, at_ + 1 + a.length, row, []⟩], .gap, row + 1)) rfl, lexM_step (m := .note) (x := ([⟨false, at_ + 1 + a.length, row, []⟩], .gap, row + 1)) rfl]
/-- How many bytes of a word a text begins with. -/
theorem wordRun : ∀ (l : List UInt8), ∃ w r, l = w ++ r ∧ (∀ c ∈ w, wordB c = true) ∧ (∀ c, r.head? = some c → wordB c = false)
  | [] => ⟨[], [], rfl, (fun c h => by cases h), fun c h => by cases h⟩
  | c :: l => by
    by_cases hc : wordB c = true
    · obtain ⟨w, r, h1, h2, h3⟩ := wordRun l
      refine ⟨c :: w, r, by rw [h1]; rfl, fun x hx => ?_, h3⟩
      rcases List.mem_cons.1 hx with rfl | hx
      · exact hc
      · exact h2 x hx
    · refine ⟨[], c :: l, rfl, (fun c h => by cases h), fun x hx => ?_⟩
      obtain rfl : c = x := by simpa using hx
      exact Bool.eq_false_iff.2 hc
/-- How many bytes a text has ahead of where its first line ends. -/
theorem noteRun : ∀ (l : List UInt8), ∃ a r, l = a ++ r ∧ (∀ c ∈ a, c ≠ 10) ∧ (∀ c, r.head? = some c → c = 10)
  | [] => ⟨[], [], rfl, (fun c h => by cases h), fun c h => by cases h⟩
  | c :: l => by
    by_cases hc : c = 10
    · refine ⟨[], c :: l, rfl, (fun c h => by cases h), fun x hx => ?_⟩
      obtain rfl : c = x := by simpa using hx
      exact hc
    · obtain ⟨a, r, h1, h2, h3⟩ := noteRun l
      refine ⟨c :: a, r, by rw [h1]; rfl, fun x hx => ?_, h3⟩
      rcases List.mem_cons.1 hx with rfl | hx
      · exact hc
      · exact h2 x hx
/-- The tokens are no more than the bytes and one; their ends no more than that. -/
theorem lexM_count : ∀ (l : List UInt8) (m : Md) (at_ row : Nat) (ts : List Tk), lexM m at_ row l = .inr ts → ts.length ≤ l.length + 1 + (m.flush row).length ∧ (m.flush row).length ≤ 1 := by
  intro l
  induction l with
  | nil =>
    intro m at_ row ts h
    rw [lexM] at h
    cases h
    have : (m.flush row).length ≤ 1 := by cases m <;> simp [Md.flush]
    exact ⟨by simp; omega, this⟩
  | cons c l ih =>
    intro m at_ row ts h
    have h1 : (m.flush row).length ≤ 1 := by cases m <;> simp [Md.flush]
    refine ⟨?_, h1⟩
    cases hs : stepL at_ row c m with
    | none => rw [lexM_none hs] at h; cases h
    | some x =>
      rw [lexM_step hs] at h
      cases hx : lexM x.2.1 (at_ + 1) x.2.2 l with
      | inl e => rw [hx] at h; cases h
      | inr us =>
        rw [hx] at h
        cases h
        obtain ⟨i1, i2⟩ := ih _ _ _ _ hx
        rw [List.length_append]
        rcases step_cases hs with ⟨st, acc, rfl, _, rfl⟩ | ⟨m', hm', rfl⟩ | ⟨_, rfl⟩
        · simp [Md.flush] at i1 ⊢; omega
        · rcases hm' with rfl | rfl | ⟨rfl, _⟩ <;> simp [Md.flush] at i1 ⊢ <;> omega
        · simp [Md.flush] at i1 ⊢; omega
end Go.Proofs.YtoagfmonfgagbaaGreatDoor
