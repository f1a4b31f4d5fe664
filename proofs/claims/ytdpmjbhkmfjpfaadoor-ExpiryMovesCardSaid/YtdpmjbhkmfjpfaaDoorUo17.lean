/-
  A row of times of the call's own. No conditions.
-/
import Derived.Test.YtdpmjbhkmfjpfaaDoorSq17
import Derived.Test.YtdpmjbhkmfjpfaaDoorMh17
import Derived.Laws.OwnMore
import Derived.Deep.AppendLies
namespace Go.Proofs.YtdpmjbhkmfjpfaaDoor
open Go.RowKit
set_option maxRecDepth 100000

def uvC (f : List Int) : List Value := f.map fun t => .int .u64 t
theorem uvC_get (f : List Int) {j : Nat} (h : j < f.length) : (uvC f)[j]? = some (.int .u64 (f.getD j 0)) := by
  unfold uvC
  rw [List.getElem?_map, List.getElem?_eq_getElem h, List.getD_eq_getElem?_getD, List.getElem?_eq_getElem h]
  rfl
theorem uvC_one (f : List Int) : ∀ u ∈ uvC f, u.oneCell' = true := by
  intro u hu
  obtain ⟨x, _, rfl⟩ := List.mem_map.1 hu
  rfl
/-- A row of the call's own: in block b. -/
def UO (w : World) (b c : Nat) (f : List Int) : Prop := w.ownsRow 0 30 1 (.slice (some ⟨b, 0, none⟩) f.length c) f.length (uvC f)
theorem UO.lt {w : World} {b c : Nat} {f : List Int} (h : UO w b c f) : b < w.heap.size := (World.ownsRow.lt h b rfl).2
theorem UO.kept {w w' : World} {b c : Nat} {f : List Int} (h : UO w b c f) (hk : w'.heap[b]? = w.heap[b]?) : UO w' b c f := by
  refine ⟨h.1, ?_⟩
  rcases h.2 with ⟨e, _⟩ | ⟨g, cap, cur, e, h3, h4, h5⟩
  · cases e
  · cases e
    exact .inr ⟨b, c, cur, rfl, h3, hk.trans h4, h5⟩
theorem UO.cap {w : World} {b c : Nat} {f : List Int} (h : UO w b c f) : f.length ≤ c := by
  rcases h.2 with ⟨e, _⟩ | ⟨g, cap, cur, e, h3, h4, h5, _⟩
  · cases e
  · cases e
    exact h5
theorem UO.at_ {w : World} {b c : Nat} {f : List Int} (h : UO w b c f) {j : Nat} (hj : j < f.length) : w.cell? ⟨b, j, none⟩ = some (.int .u64 (f.getD j 0)) ∧ w.frozen? ⟨b, j, none⟩ = false := by
  refine ⟨?_, World.ownsRow.frozenAt h j⟩
  rw [World.ownsRow.cellAt h j (by omega)]
  exact uvC_get f hj
theorem UO.set {w : World} {b c : Nat} {f : List Int} (h : UO w b c f) (j : Nat) (t : Int) : UO (w.setCell ⟨b, j, none⟩ (.int .u64 t)) b c (f.set j t) := by
  have h2 := (World.ownsRow.stored h j (.int .u64 t)).1
  unfold UO uvC
  rw [List.length_set, List.map_set]
  exact h2
end Go.Proofs.YtdpmjbhkmfjpfaaDoor
