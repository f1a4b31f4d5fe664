/-
  fault.Wrap; the handle's condition in later worlds. Conditions: the error is a chain.
-/
import Derived.Test.YtiggfoghogecjaaDoorAs
import Derived.Test.YtiggfoghogecjaaDoorList
namespace Go.Proofs.YtiggfoghogecjaaDoor
open Go.RowKit Go.Extern.Stop Go.Stop Go.Extern

theorem Handle.later {w w' : World} {B : Nat} (hb : Below B w w') (hB : w.heap.size ≤ B) (h : Handle w) : Handle w' := by
  have hlt : 0 < w.heap.size := lt_of_cell h
  exact (hb.cell (p := ⟨0, 0, none⟩) (by show (0 : Nat) < B; omega)).trans h

theorem ret_val {a b : Value} (h : a = b) : Ending.returned a = .returned b := by rw [h]

theorem wrap_nil (at_ : Value) (w : World) : Calls Tryd.prog 14 #[at_, .nilIface] w fun e w' => e = .returned .nilIface ∧ w = w' := by
  go_enter Tryd.func14, Tryd.ntmps14
  go_wp2
  go_ret
  exact ⟨rfl, rfl⟩
/-- Wrap of an error: a new fault in a block of its own. -/
theorem wrap_some (at_ : Int) (T : TypeId) (x : Value) (w : World) : Calls Tryd.prog 14 #[.int .i64 at_, .iface T x] w fun e w' =>
    e = .returned (.iface 48 (.pointer (some ⟨w.heap.size, 0, none⟩))) ∧ w.alloc (.cells #[.int .i64 at_, .iface T x] 54) = w' := by
  go_enter Tryd.func14, Tryd.ntmps14
  go_wp2
  go_ret
  exact ⟨rfl, rfl⟩
/-- A fault around a chain is a chain. -/
theorem Chain.wrapped {w : World} {d : Nat} {v : Value} {fs : List (Nat × Int)} {c : Option Int} (h : Chain w d v fs c) (at_ : Int) : Chain (w.alloc (.cells #[.int .i64 at_, v] 54)) (d + 1) (.iface 48 (.pointer (some ⟨w.heap.size, 0, none⟩))) ((w.heap.size, at_) :: fs) c :=
  .fault d w.heap.size at_ v fs c (by show (w.heap.push _)[w.heap.size]? = _; exact Array.getElem?_push_size) (by simp) (by simp) (h.later ((Below.refl w.heap.size w).alloc (Nat.le_refl _) _) (Nat.le_refl _))
end Go.Proofs.YtiggfoghogecjaaDoor
