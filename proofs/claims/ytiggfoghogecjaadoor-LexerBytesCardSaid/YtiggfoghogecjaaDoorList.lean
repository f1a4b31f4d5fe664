/-
  PLAIN: a chain of errors is the only one at its value; no fault stands in it twice. No conditions.
-/
import Derived.Test.YtiggfoghogecjaaDoorErr
namespace Go.Proofs.YtiggfoghogecjaaDoor
open Go.RowKit

/-- The outermost fault, as errors.As hands it on. -/
def fp : List (Nat × Int) → Value
  | [] => .pointer none
  | p :: _ => .pointer (some ⟨p.1, 0, none⟩)

theorem Chain.only {w : World} {d : Nat} {v : Value} {fs : List (Nat × Int)} {c : Option Int} (h : Chain w d v fs c) : ∀ {d' : Nat} {fs' : List (Nat × Int)} {c' : Option Int}, Chain w d' v fs' c' → fs = fs' ∧ c = c' := by
  induction h with
  | errno n => intro d' fs' c' h'; cases h'; exact ⟨rfl, rfl⟩
  | fault d b at_ v fs c hh h0 h1 h ih =>
    intro d' fs' c' h'
    cases h' with
    | fault d2 _ at2 v2 fs2 _ gg g0 g1 g =>
      have e0 : at_ = at2 := by have := h0.symm.trans g0; simpa using this
      have e1 : v = v2 := Option.some.inj (h1.symm.trans g1)
      subst e0; subst e1
      obtain ⟨rfl, rfl⟩ := ih g
      exact ⟨rfl, rfl⟩

/-- What the outermost fault holds: its place, and an error with the other faults. -/
theorem Chain.next {w : World} {d : Nat} {v : Value} {p : Nat × Int} {fs : List (Nat × Int)} {c : Option Int} (h : Chain w d v (p :: fs) c) : ∃ d' v', w.heap[p.1]? = some (.cells #[.int .i64 p.2, v'] 54 (0, 0)) ∧ w.cell? ⟨p.1, 0, none⟩ = some (.int .i64 p.2) ∧ w.cell? ⟨p.1, 1, none⟩ = some v' ∧ Chain w d' v' fs c := by
  generalize hl : p :: fs = l at h
  induction h with
  | errno n => cases hl
  | fault d b at_ v fs c hh h0 h1 h ih => cases hl; exact ⟨_, _, hh, h0, h1, h⟩

theorem Chain.drop {w : World} {d : Nat} {v : Value} {fs : List (Nat × Int)} {c : Option Int} (h : Chain w d v fs c) : ∀ i, ∃ d' v', Chain w d' v' (fs.drop i) c := by
  induction fs generalizing d v with
  | nil => intro i; exact ⟨d, v, by simpa using h⟩
  | cons p fs ih =>
    intro i
    cases i with
    | zero => exact ⟨d, v, h⟩
    | succ i =>
      obtain ⟨d', v', _, _, _, h'⟩ := h.next
      simpa using ih h' i

/-- No fault stands in an error twice. -/
theorem Chain.apart {w : World} {d : Nat} {v : Value} {fs : List (Nat × Int)} {c : Option Int} (h : Chain w d v fs c) (i j : Nat) (hij : i < j) (p q : Nat × Int) (s t : List (Nat × Int)) (hi : fs.drop i = p :: s) (hj : fs.drop j = q :: t) : p.1 ≠ q.1 := by
  intro e
  obtain ⟨d1, v1, c1⟩ := h.drop i
  obtain ⟨d2, v2, c2⟩ := h.drop j
  rw [hi] at c1
  rw [hj] at c2
  obtain ⟨d3, v3, _, _, a1, c3⟩ := c1.next
  obtain ⟨d4, v4, _, _, b1, c4⟩ := c2.next
  rw [e] at a1
  have hv : v3 = v4 := Option.some.inj (a1.symm.trans b1)
  subst hv
  obtain ⟨hs, _⟩ := c3.only c4
  have l1 := congrArg List.length hi
  have l2 := congrArg List.length hj
  rw [hs] at l1
  simp only [List.length_drop, List.length_cons] at l1 l2
  omega
end Go.Proofs.YtiggfoghogecjaaDoor
