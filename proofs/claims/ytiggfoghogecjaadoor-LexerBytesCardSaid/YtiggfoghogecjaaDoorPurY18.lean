/-
  One byte turned in a text; a text of blanks. Pure. No conditions.
-/
import Derived.Test.YtiggfoghogecjaaDoorPurL18
namespace Go.Proofs.YtiggfoghogecjaaDoor

def base20 : List UInt8 := [97, 108, 108, 111, 119, 32, 110, 97, 109, 101, 32, 97, 46, 98, 32, 116, 99, 112, 32, 53]
theorem base_fine : ∀ x ∈ base20, fineB x = true ∧ x ≠ 35 ∧ x ≠ 10 := by decide
theorem bytes_bad {p : Nat} (hp : p < 20) {c : UInt8} (hc : fineB c = false) : lexM .gap 0 1 (base20.set p c) = .inl p := by
  have hlen : base20.length = 20 := rfl
  rw [List.set_eq_take_append_cons_drop, if_pos (by omega)]
  have h := lexM_bad (base20.take p) .gap 0 1 c (base20.drop (p + 1)) (fun x hx => by
    have := base_fine x (List.mem_of_mem_take hx)
    exact ⟨this.1, this.2.1⟩) (fun h => by cases h) hc
  rw [h, List.length_take, Nat.min_eq_left (by omega), Nat.zero_add]
theorem bytes_set {p : Nat} {c x : UInt8} (hx : x ∈ base20.set p c) : x ∈ base20 ∨ x = c := List.mem_or_eq_of_mem_set hx
theorem bytes_fine (p : Nat) {c : UInt8} (hc : fineB c = true) : ∃ ts, lexM .gap 0 1 (base20.set p c) = .inr ts :=
  lexM_fine _ _ _ _ fun x hx => by
    rcases bytes_set hx with h | rfl
    · exact (base_fine x h).1
    · exact hc
theorem bytes_note (p : Nat) {c : UInt8} (hc : fineB c = true ∨ c ≠ 10) : ∃ ts, lexM .gap 0 1 (35 :: base20.set p c) = .inr ts := by
  by_cases h10 : c = 10
  · have hf : fineB c = true := by
      rcases hc with h | h
      · exact h
      · exact absurd h10 h
    refine lexM_fine _ _ _ _ fun x hx => ?_
    rcases List.mem_cons.1 hx with rfl | hx
    · decide
    · rcases bytes_set hx with h | rfl
      · exact (base_fine x h).1
      · exact hf
  · have hs : stepL 0 1 35 .gap = some ([], .note, 1) := rfl
    rw [lexM_quiet hs]
    exact ⟨_, lexM_note_end _ _ _ fun x hx => by
      rcases bytes_set hx with h | rfl
      · exact (base_fine x h).2.2
      · exact h10⟩
theorem blanks_all (n : Nat) : lexM .gap 0 1 (List.replicate n 32) = .inr [⟨false, n, 1, []⟩] := by
  have h := lexM_blanks (List.replicate n 32) 0 1 [] (fun c hc => by
    rw [List.eq_of_mem_replicate hc]
    decide)
  rw [List.append_nil, lexM_end, List.length_replicate, Nat.zero_add] at h
  exact h
/-- What may be, by its number. -/
theorem fine_num (c : UInt8) : fineB c = true ↔ c.toNat = 9 ∨ c.toNat = 10 ∨ c.toNat = 13 ∨ (32 ≤ c.toNat ∧ c.toNat ≤ 126) := by
  have key : ∀ n : Nat, n < 256 → (fineB (UInt8.ofNat n) = true ↔ n = 9 ∨ n = 10 ∨ n = 13 ∨ (32 ≤ n ∧ n ≤ 126)) := by decide +kernel
  have h := key c.toNat c.toNat_lt
  rwa [UInt8.ofNat_toNat] at h
end Go.Proofs.YtiggfoghogecjaaDoor
