/-
  fault.Wrap; the handle's condition in later worlds. Conditions: the error is a chain.
-/
import Derived.Test.YtdpmjbhkmfjpfaaDoorAs
import Derived.Test.YtdpmjbhkmfjpfaaDoorList
namespace Go.Proofs.YtdpmjbhkmfjpfaaDoor
open Go.RowKit Go.Extern.Stop Go.Stop Go.Extern

theorem Handle.later {w w' : World} {B : Nat} (hb : Below B w w') (hB : w.heap.size ≤ B) (h : Handle w) : Handle w' := by
  have hlt : 0 < w.heap.size := lt_of_cell h
  exact (hb.cell (p := ⟨0, 0, none⟩) (by show (0 : Nat) < B; omega)).trans h

theorem ret_val {a b : Value} (h : a = b) : Ending.returned a = .returned b := by rw [h]

end Go.Proofs.YtdpmjbhkmfjpfaaDoor
