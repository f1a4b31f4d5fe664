/-
  errors.As and errors.as at the targets *api.Errno and **api.Fault, over any chain of faults, joins and numbers. Conditions: errors.errorType holds the handle of the type error; the target's cell is there and not frozen.
-/
import Derived.Test.YtiggfoghogecjaaDoorAsFacts
import Derived.Deep.LoopGhost
import Derived.Lib.Hide
import Derived.Outline
namespace Go.Proofs.YtiggfoghogecjaaDoor
open Go.RowKit Go.Extern.Stop Go.Stop Go.Extern

/-- An error in memory: numbers, faults, joins of one. d: how deep; fs: the faults in it, outermost first (block, place); c: the number in it. -/
inductive Chain (w : World) : Nat → Value → List (Nat × Int) → Option Int → Prop
  | errno (n : Int) : Chain w 0 (.iface 28 (.int .i64 n)) [] (some n)
  | fault (d b : Nat) (at_ : Int) (v : Value) (fs : List (Nat × Int)) (c : Option Int) : w.heap[b]? = some (.cells #[.int .i64 at_, v] 54 (0, 0)) → w.cell? ⟨b, 0, none⟩ = some (.int .i64 at_) → w.cell? ⟨b, 1, none⟩ = some v → Chain w d v fs c → Chain w (d + 1) (.iface 48 (.pointer (some ⟨b, 0, none⟩))) ((b, at_) :: fs) c

theorem lt_of_cell {w : World} {b o : Nat} {p : Option Nat} {v : Value} (h : w.cell? ⟨b, o, p⟩ = some v) : b < w.heap.size := by
  rcases Nat.lt_or_ge b w.heap.size with h' | h'
  · exact h'
  · simp [World.cell?, Array.getElem?_eq_none h'] at h
theorem cell_far (w : World) (p a : Addr) (v : Value) (h : p.block ≠ a.block) : (w.setCell p v).cell? a = w.cell? a :=
  World.cell?_of_block (w := w) (Below.heap_setCell w p v a.block (fun e => h e.symm))

theorem Chain.held {w : World} {d : Nat} {v : Value} {fs : List (Nat × Int)} {c : Option Int} (h : Chain w d v fs c) : ∃ T x, v = .iface T x := by
  cases h with
  | errno n => exact ⟨_, _, rfl⟩
  | fault d b at_ v fs c hh h0 h1 h => exact ⟨_, _, rfl⟩

/-- What was an error is that error in every later world. -/
theorem Chain.later {w w' : World} {B : Nat} (hb : Below B w w') (hB : w.heap.size ≤ B) {d : Nat} {v : Value} {fs : List (Nat × Int)} {c : Option Int} (h : Chain w d v fs c) : Chain w' d v fs c := by
  induction h with
  | errno n => exact .errno n
  | fault d b at_ v fs c hh h0 h1 h ih =>
    have hlt := lt_of_cell h0
    exact .fault d b at_ v fs c ((hb.block b (by omega)).trans hh) ((hb.cell (p := ⟨b, 0, none⟩) (by show b < B; omega)).trans h0) ((hb.cell (p := ⟨b, 1, none⟩) (by show b < B; omega)).trans h1) ih

/-- (*Fault).Unwrap, (*joinError).Unwrap. -/
theorem unF (b : Nat) (v : Value) (w : World) (h1 : w.cell? ⟨b, 1, none⟩ = some v) : Calls Tryd.prog 57 #[.pointer (some ⟨b, 0, none⟩)] w fun e w' => e = .returned v ∧ w = w' := by
  go_enter Tryd.func57, Tryd.ntmps57
  go_wp2
  go_ret
  exact ⟨rfl, rfl⟩
end Go.Proofs.YtiggfoghogecjaaDoor
