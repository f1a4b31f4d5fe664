/-
  Boxes as steps of a drawn region: what tells an error, addresses; loads behind a guard; bytes stand where a block is written that holds none; numbers cut by a remainder. No conditions.
-/
import Derived.Test.YtpojiimcdknafabGreatDoorZ11
import Derived.Test.YtpojiimcdknafabGreatDoorZ23
import Derived.Test.YtpojiimcdknafabGreatDoorZ07
namespace Go.Proofs.YtpojiimcdknafabGreatDoor
open Go.RowKit
set_option maxRecDepth 100000

/-- Bytes stand, where a block is written that holds none. -/
theorem Bs.farCells {w w' : World} {g : Nat} {cs : Array Value} {T : TypeId} {A : Option Addr} {n c : Nat} {l : List UInt8} (h : Bs w A n c l) (hg : w.heap[g]? = some (.cells cs T (0, 0))) (hcs : ∀ (j : Nat) (x : Int), cs[j]? ≠ some (.int .u8 x)) (hh : ∀ k, k ≠ g → w'.heap[k]? = w.heap[k]?) : Bs w' A n c l := by
  refine ⟨h.len, h.cap, h.max, h.none_, fun h0 => ?_⟩
  obtain ⟨b, off, rfl, hc⟩ := h.here h0
  have hne : b ≠ g := by
    intro e
    subst e
    have hx := hc 0 (l[0]'(by have := h.len; omega)) (List.getElem?_eq_getElem _)
    rw [cell_of_row w b (off + 0) _ _ _ hg] at hx
    exact hcs _ _ hx
  exact ⟨b, off, rfl, fun i x hx => (World.cell?_of_block (hh b hne)).trans (hc i x hx)⟩
theorem num_mod8 (a : Int) (m : Int) (h0 : 0 < m) (h1 : m ≤ 1000000) : 0 ≤ wrap64 ((IntKind.u64.wrap a).tmod m) ∧ wrap64 ((IntKind.u64.wrap a).tmod m) < m := by
  have h : IntKind.u64.wrap a = a % 18446744073709551616 := rfl
  have h2 : 0 ≤ IntKind.u64.wrap a := by rw [h]; omega
  rw [Int.tmod_eq_emod_of_nonneg h2]
  have h3 := Int.emod_nonneg (IntKind.u64.wrap a) (show m ≠ 0 by omega)
  have h4 := Int.emod_lt_of_pos (IntKind.u64.wrap a) h0
  generalize IntKind.u64.wrap a % m = x at h3 h4
  unfold wrap64
  omega
end Go.Proofs.YtpojiimcdknafabGreatDoor
