/-
  stockadeplay.Name as a value: whatever comes of a text is a name. No conditions.
-/
import Derived.Test.YthhfmjdknoplkaaGreatDoorPk12
namespace Go.Proofs.YthhfmjdknoplkaaGreatDoor
open Go.RowKit
set_option maxRecDepth 100000

/-- A text as it grows: a byte that may stand there, or not. -/
def nmTakes (out : List UInt8) (c : UInt8) : Prop := (c = 46 ∧ out ≠ [] ∧ out.getLast? ≠ some 46) ∨ sign c
instance (out : List UInt8) (c : UInt8) : Decidable (nmTakes out c) := by unfold nmTakes; infer_instance
def nmStep (out : List UInt8) (c : UInt8) : List UInt8 := if nmTakes out c then out ++ [c] else out
def nmRun : List UInt8 → List UInt8 → List UInt8
  | [], out => out
  | c :: r, out => if 60 ≤ out.length then out else nmRun r (nmStep out c)
def trimDot (out : List UInt8) : List UInt8 := if out.getLast? = some 46 then out.dropLast else out
def playN (s : List UInt8) : List UInt8 := trimDot (nmRun s [])
theorem nmRun_full {out : List UInt8} (h : 60 ≤ out.length) : ∀ s, nmRun s out = out
  | [] => rfl
  | c :: r => by unfold nmRun; rw [if_pos h]

/-- Labels of signs, with dots between, and perhaps one behind. -/
def NmOk (out : List UInt8) : Prop := ∃ (ls : List (List UInt8)) (d : Bool), out = joinD ls ++ (if d then [46] else []) ∧ (∀ x ∈ ls, x ≠ [] ∧ ∀ c ∈ x, sign c) ∧ (d = true → ls ≠ [])
theorem joinD_snoc : ∀ (ls : List (List UInt8)) (x : List UInt8), ls ≠ [] → joinD (ls ++ [x]) = joinD ls ++ 46 :: x
  | [], _, h => absurd rfl h
  | [y], x, _ => rfl
  | y :: z :: r, x, _ => by
    show joinD (y :: ((z :: r) ++ [x])) = _
    rw [joinD_cons y (by simp), joinD_snoc (z :: r) x (by simp), joinD_cons y (by simp)]
    simp
theorem joinD_more : ∀ (ls : List (List UInt8)) (x y : List UInt8), joinD (ls ++ [x ++ y]) = joinD (ls ++ [x]) ++ y
  | [], x, y => rfl
  | z :: r, x, y => by
    show joinD (z :: (r ++ [x ++ y])) = joinD (z :: (r ++ [x])) ++ y
    rw [joinD_cons z (by simp), joinD_cons z (by simp), joinD_more r x y]
    simp
theorem sign_ne {c : UInt8} (h : sign c) : c ≠ 46 := fun e => h.2.2.1 (by rw [e]; rfl)
theorem join_last : ∀ (ls : List (List UInt8)), ls ≠ [] → (∀ x ∈ ls, x ≠ [] ∧ ∀ c ∈ x, sign c) → ∃ c, (joinD ls).getLast? = some c ∧ sign c
  | [], h, _ => absurd rfl h
  | [x], _, hx => by
    obtain ⟨h1, h2⟩ := hx x (by simp)
    refine ⟨x.getLast h1, List.getLast?_eq_some_getLast h1, h2 _ (List.getLast_mem h1)⟩
  | x :: y :: r, _, hx => by
    obtain ⟨c, hc, hs⟩ := join_last (y :: r) (by simp) (fun z hz => hx z (List.mem_cons_of_mem _ hz))
    refine ⟨c, ?_, hs⟩
    rw [joinD_cons x (by simp), List.getLast?_append, List.getLast?_cons, hc]
    rfl
theorem nmOk_step {out : List UInt8} (h : NmOk out) (c : UInt8) : NmOk (nmStep out c) := by
  unfold nmStep
  by_cases ht : nmTakes out c
  · rw [if_pos ht]
    obtain ⟨ls, d, rfl, hx, hd⟩ := h
    rcases ht with ⟨rfl, hne, hl⟩ | hs
    · cases d with
      | true => exact absurd (by simp) hl
      | false => exact ⟨ls, true, by simp, hx, fun _ e => hne (by rw [e]; rfl)⟩
    · cases d with
      | true =>
        refine ⟨ls ++ [[c]], false, ?_, fun x hm => ?_, fun h => by cases h⟩
        · rw [joinD_snoc ls [c] (hd rfl)]
          simp
        · rcases List.mem_append.1 hm with hm | hm
          · exact hx x hm
          · obtain rfl := List.mem_singleton.1 hm
            exact ⟨by simp, fun b hb => by obtain rfl := List.mem_singleton.1 hb; exact hs⟩
      | false =>
        cases hls : ls with
        | nil => exact ⟨[[c]], false, rfl, fun x hm => by
            obtain rfl := List.mem_singleton.1 hm
            exact ⟨by simp, fun b hb => by obtain rfl := List.mem_singleton.1 hb; exact hs⟩, fun h => by cases h⟩
        | cons y r =>
          rw [← hls]
          have hne : ls ≠ [] := by rw [hls]; simp
          obtain ⟨pre, z, hpz⟩ : ∃ pre z, ls = pre ++ [z] := ⟨ls.dropLast, ls.getLast hne, (List.dropLast_concat_getLast hne).symm⟩
          refine ⟨pre ++ [z ++ [c]], false, ?_, fun x hm => ?_, fun h => by cases h⟩
          · rw [joinD_more, hpz]
            simp
          · rcases List.mem_append.1 hm with hm | hm
            · exact hx x (by rw [hpz]; exact List.mem_append_left _ hm)
            · obtain rfl := List.mem_singleton.1 hm
              have hz := hx z (by rw [hpz]; simp)
              refine ⟨by simp, fun b hb => ?_⟩
              rcases List.mem_append.1 hb with hb | hb
              · exact hz.2 b hb
              · obtain rfl := List.mem_singleton.1 hb; exact hs
  · rw [if_neg ht]
    exact h
theorem nmOk_run : ∀ (s out : List UInt8), NmOk out → NmOk (nmRun s out)
  | [], out, h => h
  | c :: r, out, h => by
    unfold nmRun
    split
    · exact h
    · exact nmOk_run r _ (nmOk_step h c)
theorem nmStep_len (out : List UInt8) (c : UInt8) : (nmStep out c).length ≤ out.length + 1 := by
  unfold nmStep
  split
  · simp
  · omega
theorem nmRun_len : ∀ (s out : List UInt8), out.length ≤ 60 → (nmRun s out).length ≤ 60
  | [], out, h => h
  | c :: r, out, h => by
    unfold nmRun
    split
    · exact h
    · have := nmStep_len out c
      exact nmRun_len r _ (by omega)
/-- Whatever comes of it: so many labels of signs, with dots between. -/
theorem playN_form (s : List UInt8) : ∃ ls : List (List UInt8), playN s = joinD ls ∧ (∀ x ∈ ls, x ≠ [] ∧ ∀ c ∈ x, sign c) ∧ (joinD ls).length ≤ 60 := by
  have h60 := nmRun_len s [] (by simp)
  obtain ⟨ls, d, ho, hx, hd⟩ := nmOk_run s [] ⟨[], false, rfl, (fun x h => by cases h), (fun h => by cases h)⟩
  unfold playN trimDot
  cases d with
  | true =>
    rw [if_pos rfl] at ho
    rw [ho] at h60 ⊢
    rw [if_pos (by simp), List.dropLast_concat]
    exact ⟨ls, rfl, hx, by rw [List.length_append] at h60; omega⟩
  | false =>
    rw [if_neg (by decide), List.append_nil] at ho
    rw [ho] at h60 ⊢
    by_cases hls : ls = []
    · rw [hls]
      exact ⟨[], rfl, (fun x h => by cases h), by simp [joinD]⟩
    · obtain ⟨c, hc, hs⟩ := join_last ls hls hx
      rw [hc, if_neg (fun e => sign_ne hs (Option.some.inj e))]
      exact ⟨ls, rfl, hx, h60⟩
theorem join_labs {ls : List (List UInt8)} (hx : ∀ x ∈ ls, x ≠ [] ∧ ∀ c ∈ x, sign c) : labsN (joinD ls) = ls :=
  labsN_joinD fun x h => ⟨fun hm => (hx x h).2 46 hm |>.2.2.1 rfl, (hx x h).1⟩
theorem mem_le_join : ∀ (ls : List (List UInt8)) (x : List UInt8), x ∈ ls → x.length ≤ (joinD ls).length
  | [], _, h => by cases h
  | [y], x, h => by obtain rfl := List.mem_singleton.1 h; exact Nat.le_refl _
  | y :: z :: r, x, h => by
    rw [joinD_cons y (by simp), List.length_append, List.length_cons]
    rcases List.mem_cons.1 h with rfl | h
    · omega
    · have := mem_le_join (z :: r) x h; omega
/-- It is a name, of sixty bytes at most. -/
theorem join_right {ls : List (List UInt8)} (hx : ∀ x ∈ ls, x ≠ [] ∧ ∀ c ∈ x, sign c) (h : (joinD ls).length ≤ 62) : rightN (joinD ls) := by
  unfold rightN
  rw [join_labs hx]
  refine ⟨fun x hm => ⟨(hx x hm).2, ?_, ?_⟩, ?_⟩
  · have := List.length_pos_iff.2 (hx x hm).1; omega
  · have := mem_le_join ls x hm; omega
  · cases hls : ls with
    | nil => decide
    | cons y r =>
      rw [← hls]
      have := joinD_length ls (by rw [hls]; simp)
      omega
theorem playN_right (s : List UInt8) : rightN (playN s) ∧ (playN s).length ≤ 60 := by
  obtain ⟨ls, e, hx, h⟩ := playN_form s
  rw [e]
  exact ⟨join_right hx (by omega), h⟩
theorem labsN_signs {l : List UInt8} (h : rightN l) : ∀ x ∈ labsN l, x ≠ [] ∧ ∀ c ∈ x, sign c := fun x hm => ⟨labOk_ne (h.1 x hm), (h.1 x hm).1⟩
end Go.Proofs.YthhfmjdknoplkaaGreatDoor
