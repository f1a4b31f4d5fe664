/-
  Words with blanks between, put together, and what they are told as. Pure. No conditions.
-/
import Derived.Test.YtiggfoghogecjaaPurL18
namespace Go.Proofs.Ytiggfoghogecjaa

/-- What may stand in a word, of the first 40 bytes. -/
def cleanW (x : List UInt8) : List UInt8 := (x.take 40).filter wordB
theorem cleanW_word (x : List UInt8) : ∀ c ∈ cleanW x, wordB c = true := fun _ hc => (List.mem_filter.1 hc).2
theorem cleanW_len (x : List UInt8) : (cleanW x).length ≤ 40 := by
  have h1 := List.length_filter_le wordB (x.take 40)
  have h2 := List.length_take_le 40 x
  unfold cleanW
  omega
/-- Each behind a blank. -/
def joinW (b : List UInt8) (ws : List (List UInt8)) : List UInt8 := ws.flatMap (b ++ ·)
theorem joinW_snoc (b : List UInt8) (ws : List (List UInt8)) (w : List UInt8) : joinW b (ws ++ [w]) = joinW b ws ++ b ++ w := by simp [joinW]
theorem joinW_len (b : List UInt8) : ∀ (ws : List (List UInt8)), (∀ w ∈ ws, w.length ≤ 40) → b.length ≤ 3 → (joinW b ws).length ≤ ws.length * 43
  | [], _, _ => Nat.zero_le _
  | w :: ws, h, hb => by
    have ih := joinW_len b ws (fun w hw => h w (List.mem_cons_of_mem _ hw)) hb
    have h1 := h w (List.mem_cons_self ..)
    have e : joinW b (w :: ws) = (b ++ w) ++ joinW b ws := by simp [joinW]
    rw [e, List.length_append, List.length_append, List.length_cons]
    omega
/-- Those that have a byte. -/
def fullW (ws : List (List UInt8)) : List (List UInt8) := ws.filter fun w => !w.isEmpty
theorem fullW_snoc (ws : List (List UInt8)) (w : List UInt8) : fullW (ws ++ [w]) = if w = [] then fullW ws else fullW ws ++ [w] := by
  unfold fullW
  rw [List.filter_append]
  by_cases h : w = []
  · subst h; simp
  · rw [if_neg h]
    cases w with
    | nil => exact absurd rfl h
    | cons _ _ => rfl
theorem fullW_len (ws : List (List UInt8)) : (fullW ws).length ≤ ws.length := List.length_filter_le ..
theorem head_joinW (b : List UInt8) (hb : b ≠ []) (ws : List (List UInt8)) : (joinW b ws ++ b).head? = b.head? := by
  cases b with
  | nil => exact absurd rfl hb
  | cons c b =>
    cases ws with
    | nil => rfl
    | cons w ws => simp [joinW]
theorem blank_word {c : UInt8} (h : blankB c = true) : wordB c = false := by
  rw [Bool.eq_false_iff]
  intro hw
  rw [(wordB_not hw).1] at h
  cases h
theorem lexM_words (b : List UInt8) (hb : b ≠ []) (hbl : ∀ c ∈ b, blankB c = true) : ∀ (ws : List (List UInt8)), (∀ w ∈ ws, ∀ c ∈ w, wordB c = true) → ∀ at_ row, ∃ ts, lexM .gap at_ row (joinW b ws ++ b) = .inr ts ∧ ts.length = (fullW ws).length + 1 ∧ ∀ (i : Nat) u, (fullW ws)[i]? = some u → ∃ p, ts[i]? = some ⟨true, p, row, u⟩
  | [], _, at_, row => by
    have h1 := lexM_blanks b at_ row [] hbl
    rw [List.append_nil, lexM_end] at h1
    exact ⟨_, h1, rfl, fun i u h => by cases h⟩
  | w :: ws, hw, at_, row => by
    have e : joinW b (w :: ws) ++ b = b ++ (w ++ (joinW b ws ++ b)) := by simp [joinW]
    have hws := fun w hw' => hw w (List.mem_cons_of_mem _ hw')
    rw [e, lexM_blanks b at_ row _ hbl]
    by_cases h0 : w = []
    · subst h0
      exact lexM_words b hb hbl ws hws (at_ + b.length) row
    · obtain ⟨ts, h1, h2, h3⟩ := lexM_words b hb hbl ws hws (at_ + b.length + w.length) row
      have hr : ∀ c, (joinW b ws ++ b).head? = some c → wordB c = false := fun c hc => by
        rw [head_joinW b hb ws] at hc
        exact blank_word (hbl c (List.mem_of_head? hc))
      have hf : fullW (w :: ws) = w :: fullW ws := by
        cases w with
        | nil => exact absurd rfl h0
        | cons _ _ => rfl
      refine ⟨⟨true, at_ + b.length, row, w⟩ :: ts, ?_, ?_, fun i u hu => ?_⟩
      · rw [lexM_whole h0 (hw w (List.mem_cons_self ..)) _ _ _ hr, h1]
        rfl
      · rw [hf, List.length_cons, List.length_cons, h2]
      · rw [hf] at hu
        cases i with
        | zero =>
          obtain rfl : w = u := by simpa using hu
          exact ⟨_, rfl⟩
        | succ i =>
          obtain ⟨p, hp⟩ := h3 i u (by simpa using hu)
          exact ⟨p, by simpa using hp⟩
end Go.Proofs.Ytiggfoghogecjaa
