/-
  strings.SplitN and strings.Cut, told by lists of bytes; a slice of texts handed back. Conditions: what the program's text has laid (Env).
-/
import Derived.Test.YtjegeiaabkheiaaGreatDoorEach
namespace Go.Proofs.YtjegeiaabkheiaaGreatDoor
open Go.RowKit
set_option maxRecDepth 100000

/-- A sign ahead of the first piece. -/
def onHead (b : UInt8) : List (List UInt8) → List (List UInt8)
  | [] => [[b]]
  | x :: xs => (b :: x) :: xs
/-- The pieces between a sign, so many cuts at most. -/
def splN (c : UInt8) : List UInt8 → Nat → List (List UInt8)
  | l, 0 => [l]
  | [], _ + 1 => [[]]
  | b :: r, k + 1 => if b = c then [] :: splN c r k else onHead b (splN c r (k + 1))
theorem splN_zero (c : UInt8) (l : List UInt8) : splN c l 0 = [l] := by cases l <;> rfl
theorem splN_ne (c : UInt8) : ∀ (l : List UInt8) (k : Nat), splN c l k ≠ []
  | l, 0 => by rw [splN_zero]; simp
  | [], k + 1 => by simp [splN]
  | b :: r, k + 1 => by
    unfold splN
    split
    · simp
    · cases splN c r (k + 1) <;> simp [onHead]
theorem splN_len (c : UInt8) : ∀ (l : List UInt8) (k : Nat), (splN c l k).length ≤ k + 1
  | l, 0 => by rw [splN_zero]; simp
  | [], k + 1 => by simp [splN]
  | b :: r, k + 1 => by
    unfold splN
    split
    · have := splN_len c r k; simp; omega
    · have := splN_len c r (k + 1)
      cases h : splN c r (k + 1) with
      | nil => simp [onHead]
      | cons x xs => rw [h] at this; simpa [onHead] using this
theorem splN_ge (c : UInt8) : ∀ (l : List UInt8) (k k' : Nat), l.length ≤ k → l.length ≤ k' → splN c l k = splN c l k'
  | [], k, k', _, _ => by cases k <;> cases k' <;> simp [splN]
  | b :: r, 0, _, h, _ => by simp at h
  | b :: r, _, 0, _, h => by simp at h
  | b :: r, k + 1, k' + 1, h, h' => by
    simp only [List.length_cons] at h h'
    simp only [splN]
    rw [splN_ge c r k k' (by omega) (by omega)]
    cases r with
    | nil => simp [splN]
    | cons b' r' => rw [splN_ge c (b' :: r') (k + 1) (k' + 1) (by omega) (by omega)]
theorem splN_mem_len (c : UInt8) : ∀ (l : List UInt8) (k : Nat), ∀ x ∈ splN c l k, x.length ≤ l.length
  | l, 0, x, h => by rw [splN_zero] at h; obtain rfl := List.mem_singleton.1 h; exact Nat.le_refl _
  | [], k + 1, x, h => by obtain rfl := List.mem_singleton.1 h; exact Nat.le_refl _
  | b :: r, k + 1, x, h => by
    unfold splN at h
    split at h
    · rcases List.mem_cons.1 h with rfl | h
      · simp
      · have := splN_mem_len c r k x h; simp; omega
    · have ih := splN_mem_len c r (k + 1)
      cases hs : splN c r (k + 1) with
      | nil => rw [hs] at h; simp [onHead] at h; subst h; simp
      | cons y ys =>
        rw [hs] at h ih
        rcases List.mem_cons.1 h with rfl | h
        · have := ih y (by simp); simp; omega
        · have := ih x (by simp [h]); simp; omega
theorem index_one (c : UInt8) : ∀ l : List UInt8, Lib.index l [c] = if c ∈ l then ((l.takeWhile (· ≠ c)).length : Int) else -1
  | [] => by simp [Lib.index]
  | b :: r => by
    unfold Lib.index
    by_cases hb : c = b
    · subst hb; simp
    · have hb' : b ≠ c := fun e => hb e.symm
      have : [c].isPrefixOf (b :: r) = false := by show (c == b && List.isPrefixOf [] r) = false; rw [beq_eq_false_iff_ne.2 hb]; rfl
      rw [this, index_one c r]
      by_cases hm : c ∈ r
      · rw [if_pos hm, if_pos (List.mem_cons_of_mem _ hm)]
        have h0 : ((((r.takeWhile (· ≠ c)).length : Int)) == -1) = false := by rw [beq_eq_false_iff_ne]; omega
        rw [h0]
        simp [hb']
      · rw [if_neg hm, if_neg (show ¬ c ∈ b :: r from fun h => (List.mem_cons.1 h).elim hb hm)]
        simp
theorem splN_cons (c b : UInt8) (r : List UInt8) (k : Nat) : splN c (b :: r) (k + 1) = if b = c then [] :: splN c r k else onHead b (splN c r (k + 1)) := rfl
theorem splN_cut (c : UInt8) (k : Nat) : ∀ l : List UInt8, splN c l (k + 1) = if c ∈ l then (l.takeWhile (· ≠ c)) :: splN c (l.drop ((l.takeWhile (· ≠ c)).length + 1)) k else [l]
  | [] => by simp [splN]
  | b :: r => by
    rw [splN_cons]
    by_cases hb : b = c
    · subst hb; simp
    · rw [if_neg hb, splN_cut c k r]
      have hb' : ¬ c = b := fun e => hb e.symm
      by_cases hm : c ∈ r
      · rw [if_pos hm, if_pos (List.mem_cons_of_mem _ hm)]
        simp [onHead, hb]
      · rw [if_neg hm, if_neg (by simp [hb', hm])]
        simp [onHead]
theorem takeWhile_take {l : List UInt8} {p : UInt8 → Bool} : l.takeWhile p = l.take (l.takeWhile p).length := by
  induction l with
  | nil => rfl
  | cons b r ih =>
    rw [List.takeWhile_cons]
    split
    · rw [List.length_cons, List.take_succ_cons, ← ih]
    · rfl
theorem splitB_list (c : UInt8) : ∀ (k : Nat) (s : ByteArray), (Lib.splitB ⟨#[c]⟩ 0 k s).map (fun x => x.data.toList) = splN c s.data.toList k
  | 0, s => by rw [Lib.splitB_zero, splN_zero]; rfl
  | k + 1, s => by
    have hi : Lib.indexB s ⟨#[c]⟩ = Lib.index s.data.toList [c] := rfl
    rw [splN_cut]
    unfold Lib.splitB
    rw [hi, index_one]
    by_cases hm : c ∈ s.data.toList
    · rw [if_pos hm, if_pos hm]
      have h0 : ((((s.data.toList.takeWhile (· ≠ c)).length : Int)) == -1) = false := by rw [beq_eq_false_iff_ne]; omega
      rw [h0]
      simp only [Bool.false_eq_true, if_false, List.map_cons, splitB_list c k]
      have e1 : (s.extract 0 ((((s.data.toList.takeWhile (· ≠ c)).length : Int)).toNat + 0)).data.toList = s.data.toList.takeWhile (· ≠ c) := by
        rw [ByteArray.data_extract, Array.toList_extract, List.extract_eq_take_drop]
        conv => rhs; rw [takeWhile_take]
        simp
      have e2 : (s.extract ((((s.data.toList.takeWhile (· ≠ c)).length : Int)).toNat + (ByteArray.mk #[c]).size) s.size).data.toList = s.data.toList.drop ((s.data.toList.takeWhile (· ≠ c)).length + 1) := by
        rw [ByteArray.data_extract, Array.toList_extract, List.extract_eq_take_drop]
        have hsz : s.size = s.data.toList.length := Lib.size_eq s
        rw [show (ByteArray.mk #[c]).size = 1 from rfl, Int.toNat_natCast, hsz, ← List.length_drop, List.take_length]
      rw [e1, e2]
    · rw [if_neg hm, if_neg hm]
      rfl

/-- strings.SplitN by one sign. -/
theorem splitN_any (c : UInt8) (n : Nat) (hn : 1 ≤ n) (hn2 : n ≤ 1000) (s : ByteArray) (hs : s.size < 4294967281) {w : World} (hE : Env w) :
    Calls Tryz.prog 46 #[.string s, .string ⟨#[c]⟩, .int .i64 n] w fun e w' => ∃ (b : Nat) (xs : List ByteArray) (cap : Nat), e = .returned (.slice (some ⟨b, 0, none⟩) xs.length cap) ∧ xs.length ≤ cap ∧ cap ≤ 1000 ∧ xs.map (fun x => x.data.toList) = splN c s.data.toList (n - 1) ∧ Ss w' b xs ∧ Below w.heap.size w w' := by
  obtain ⟨m, hm⟩ := hE.maxLen
  refine (Tryz.strings_SplitN s ⟨#[c]⟩ n m w hs hm (Nat.le_refl _) hn (by omega)).mono fun e w' ⟨he, hw⟩ => ?_
  have hl : s.data.toList.length = s.size := (Lib.size_eq s).symm
  have hx : (Lib.splitB ⟨#[c]⟩ 0 (min n (s.size + 1) - 1) s).map (fun x => x.data.toList) = splN c s.data.toList (n - 1) := by
    rw [splitB_list]
    by_cases h : n ≤ s.size + 1
    · rw [Nat.min_eq_left h]
    · rw [Nat.min_eq_right (by omega)]
      exact splN_ge c _ _ _ (by omega) (by omega)
  have hlen : (Lib.splitB ⟨#[c]⟩ 0 (min n (s.size + 1) - 1) s).length ≤ min n (s.size + 1) := by
    have h1 := congrArg List.length (splitB_list c (min n (s.size + 1) - 1) s)
    rw [List.length_map] at h1
    have h2 := splN_len c s.data.toList (min n (s.size + 1) - 1)
    have h3 : 1 ≤ min n (s.size + 1) := by omega
    omega
  subst hw
  refine ⟨_, _, _, he, hlen, by omega, hx, ⟨fun i x hi => ?_, by simp⟩, (Below.refl _ _).alloc (Nat.le_refl _) _⟩
  rw [World.cell?_alloc_at _ _ _ _ rfl]
  unfold Lib.cellsOf
  have hi' := (List.getElem?_eq_some_iff.1 hi).1
  rw [List.getElem?_toArray, List.getElem?_append_left (by simpa using hi'), List.getElem?_map, hi]
  rfl

/-- strings.Cut. -/
theorem cut_any (s sep : ByteArray) (hs : s.size < 4294967281) {w : World} (hE : Env w) :
    Calls Tryz.prog 32 #[.string s, .string sep] w fun e w' => e = .returned (.tuple #[.string ⟨(Lib.cut s.data.toList sep.data.toList).1.toArray⟩, .string ⟨(Lib.cut s.data.toList sep.data.toList).2.1.toArray⟩, .bool (Lib.cut s.data.toList sep.data.toList).2.2]) ∧ Below w.heap.size w w' := by
  obtain ⟨m, hm⟩ := hE.maxLen
  refine (Tryz.strings_Cut s sep m w hs hm).mono fun e w' ⟨he, n, hw⟩ => ⟨he, ?_⟩
  subst hw
  exact Joins.below_draws _ _ _
theorem cut_len (l sep : List UInt8) : (Lib.cut l sep).1.length ≤ l.length ∧ (Lib.cut l sep).2.1.length ≤ l.length := by
  unfold Lib.cut
  split <;> simp <;> omega
end Go.Proofs.YtjegeiaabkheiaaGreatDoor
