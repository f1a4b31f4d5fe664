/-
  What tells an error stands, where another kind of block is written. No conditions.
-/
import Derived.Test.YthhfmjdknoplkaaGreatDoorTell
import Derived.Test.YthhfmjdknoplkaaGreatDoorOctOk
namespace Go.Proofs.YthhfmjdknoplkaaGreatDoor
open Go.RowKit
set_option maxRecDepth 100000

/-- What tells an error stands, where another kind of block is written. -/
theorem Faults.far {w w' : World} {g : Nat} {cs : Array Value} {T : TypeId} (hg : w.heap[g]? = some (.cells cs T (0, 0))) (hT : T ≠ 63) (hh : ∀ k, k ≠ g → w'.heap[k]? = w.heap[k]?) {d : Nat} {v : Value} {fs : List (Nat × Int)} {n : Int} (h : Faults w d v fs n) : Faults w' d v fs n := by
  induction h with
  | errno n => exact .errno n
  | fault d b at_ v fs c h1 h2 h3 _ ih =>
    have hb : b ≠ g := by
      intro e
      subst e
      rw [hg] at h1
      injection h1 with h1
      injection h1 with _ h1 _
      exact hT h1
    exact .fault d b at_ v fs c ((hh b hb).trans h1) ((World.cell?_of_block (w := w) (hh b hb)).trans h2) ((World.cell?_of_block (w := w) (hh b hb)).trans h3) ih
theorem Tells.far {w w' : World} {g : Nat} {cs : Array Value} {T : TypeId} {v : Value} {f : Fl} (h : Tells w v f) (hg : w.heap[g]? = some (.cells cs T (0, 0))) (hT : T ≠ 63) (hh : ∀ k, k ≠ g → w'.heap[k]? = w.heap[k]?) : Tells w' v f := by
  rcases h with h | ⟨h0, d, fs, h1, h2⟩
  · exact .inl h
  · exact .inr ⟨h0, d, fs, h1.far hg hT hh, h2⟩
theorem Tells.held' {w : World} {v : Value} {f : Fl} (h : Tells w v f) (hc : f.code ≠ 0) : ∃ T x, v = .iface T x := by
  rcases h with ⟨h0, _⟩ | ⟨h0, d, fs, h1, _⟩
  · exact absurd h0 hc
  · exact h1.chain.held
theorem Tells.none' {w : World} {v : Value} {f : Fl} (h : Tells w v f) (hc : f.code = 0) : v = .nilIface := by
  rcases h with ⟨_, h⟩ | ⟨h0, _⟩
  · exact h
  · exact absurd hc h0
/-- errors.Is at what tells an error. -/
theorem Is_told {w : World} {v : Value} {f : Fl} (h : Tells w v f) (hc : f.code ≠ 0) (x : Int) : Calls Tryz.prog 21 #[v, .iface 29 (.int .i64 x)] w fun e w' => e = .returned (.bool (f.code == x)) ∧ w = w' := by
  rcases h with ⟨h, _⟩ | ⟨_, d, fs, h, _⟩
  · exact absurd h hc
  · exact Is_any h
end Go.Proofs.YthhfmjdknoplkaaGreatDoor
