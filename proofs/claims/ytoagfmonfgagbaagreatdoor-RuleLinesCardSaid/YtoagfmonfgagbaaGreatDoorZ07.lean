/-
  
-/
import Derived.LaidEql
import Derived.RowKitTokens
import Derived.Stop.Asserts
import Derived.Test.YtoagfmonfgagbaaGreatDoorProg
import Derived.WalkKit
import Derived.Deep.LoopGhost
import Derived.Lib.Hide
import Derived.Outline
namespace Go.Proofs.YtoagfmonfgagbaaGreatDoor
open Go.RowKit Go.Extern.Stop Go.Stop Go.Extern
inductive Chain (w : World) : Nat → Value → List (Nat × Int) → Option Int → Prop
  | errno (n : Int) : Chain w 0 (.iface 37 (.int .i64 n)) [] (some n)
  | other (p : Addr) : Chain w 0 (.iface 238 (.pointer (some p))) [] none
  | fault (d b : Nat) (at_ : Int) (v : Value) (fs : List (Nat × Int)) (c : Option Int) : w.heap[b]? = some (.cells #[.int .i64 at_, v] 90 (0, 0)) → w.cell? ⟨b, 0, none⟩ = some (.int .i64 at_) → w.cell? ⟨b, 1, none⟩ = some v → Chain w d v fs c → Chain w (d + 1) (.iface 84 (.pointer (some ⟨b, 0, none⟩))) ((b, at_) :: fs) c
theorem lt_of_cell {w : World} {b o : Nat} {p : Option Nat} {v : Value} (h : w.cell? ⟨b, o, p⟩ = some v) : b < w.heap.size := by
  rcases Nat.lt_or_ge b w.heap.size with h' | h'
  · exact h'
  · simp [World.cell?, Array.getElem?_eq_none h'] at h
theorem Chain.held {w : World} {d : Nat} {v : Value} {fs : List (Nat × Int)} {c : Option Int} (h : Chain w d v fs c) : ∃ T x, v = .iface T x := by
  cases h with
  | errno n => exact ⟨_, _, rfl⟩
  | other p => exact ⟨_, _, rfl⟩
  | fault d b at_ v fs c hh h0 h1 h => exact ⟨_, _, rfl⟩
theorem Chain.later {w w' : World} {B : Nat} (hb : Below B w w') (hB : w.heap.size ≤ B) {d : Nat} {v : Value} {fs : List (Nat × Int)} {c : Option Int} (h : Chain w d v fs c) : Chain w' d v fs c := by
  induction h with
  | errno n => exact .errno n
  | other p => exact .other p
  | fault d b at_ v fs c hh h0 h1 h ih =>
    have hlt := lt_of_cell h0
    exact .fault d b at_ v fs c ((hb.block b (by omega)).trans hh) ((hb.cell (p := ⟨b, 0, none⟩) (by show b < B; omega)).trans h0) ((hb.cell (p := ⟨b, 1, none⟩) (by show b < B; omega)).trans h1) ih
end Go.Proofs.YtoagfmonfgagbaaGreatDoor

namespace Go.Proofs.YtoagfmonfgagbaaGreatDoor
open Go.RowKit Go.Extern.Stop Go.Stop Go.Extern
def AsWorld (hit : Option Value) (t : Addr) (w w' : World) : Prop :=
  match hit with
  | some x => ∃ w1, Below w.heap.size w w1 ∧ w' = w1.setCell t x
  | none => Below w.heap.size w w'
end Go.Proofs.YtoagfmonfgagbaaGreatDoor

namespace Go.Proofs.YtoagfmonfgagbaaGreatDoor
open Go.RowKit Go.Extern.Stop Go.Stop Go.Extern
def Handle (w : World) : Prop := w.cell? ⟨0, 0, none⟩ = some (.iface 144 (.agg #[.pointer (some ⟨10, 29, none⟩)]))
theorem AsWorld.later {hit : Option Value} {t : Addr} {w w1 : World} {w' : World} (hb : Below w.heap.size w w1) (h : AsWorld hit t w1 w') : AsWorld hit t w w' := by
  cases hit with
  | none => exact hb.trans (Below.mono h hb.size)
  | some x => obtain ⟨w2, hb1, hw⟩ := h; exact ⟨w2, hb.trans (hb1.mono hb.size), hw⟩
end Go.Proofs.YtoagfmonfgagbaaGreatDoor

namespace Go.Proofs.YtoagfmonfgagbaaGreatDoor
open Go.RowKit Go.Extern.Stop Go.Stop Go.Extern
inductive Faults (w : World) : Nat → Value → List (Nat × Int) → Int → Prop
  | errno (n : Int) : Faults w 0 (.iface 37 (.int .i64 n)) [] n
  | fault (d b : Nat) (at_ : Int) (v : Value) (fs : List (Nat × Int)) (n : Int) : w.heap[b]? = some (.cells #[.int .i64 at_, v] 90 (0, 0)) → w.cell? ⟨b, 0, none⟩ = some (.int .i64 at_) → w.cell? ⟨b, 1, none⟩ = some v → Faults w d v fs n → Faults w (d + 1) (.iface 84 (.pointer (some ⟨b, 0, none⟩))) ((b, at_) :: fs) n
theorem Faults.chain {w : World} {d : Nat} {v : Value} {fs : List (Nat × Int)} {n : Int} (h : Faults w d v fs n) : Chain w d v fs (some n) := by
  induction h with
  | errno n => exact .errno n
  | fault d b at_ v fs n hh h0 h1 h ih => exact .fault d b at_ v fs _ hh h0 h1 ih
theorem Faults.later {w w' : World} {B : Nat} (hb : Below B w w') (hB : w.heap.size ≤ B) {d : Nat} {v : Value} {fs : List (Nat × Int)} {n : Int} (h : Faults w d v fs n) : Faults w' d v fs n := by
  induction h with
  | errno n => exact .errno n
  | fault d b at_ v fs c hh h0 h1 h ih =>
    have hlt := lt_of_cell h0
    exact .fault d b at_ v fs c ((hb.block b (by omega)).trans hh) ((hb.cell (p := ⟨b, 0, none⟩) (by show b < B; omega)).trans h0) ((hb.cell (p := ⟨b, 1, none⟩) (by show b < B; omega)).trans h1) ih
end Go.Proofs.YtoagfmonfgagbaaGreatDoor

namespace Go.Proofs.YtoagfmonfgagbaaGreatDoor
open Go.RowKit
theorem Chain.only {w : World} {d : Nat} {v : Value} {fs : List (Nat × Int)} {c : Option Int} (h : Chain w d v fs c) : ∀ {d' : Nat} {fs' : List (Nat × Int)} {c' : Option Int}, Chain w d' v fs' c' → fs = fs' ∧ c = c' := by
  induction h with
  | errno n => intro d' fs' c' h'; cases h'; exact ⟨rfl, rfl⟩
  | other p => intro d' fs' c' h'; cases h'; exact ⟨rfl, rfl⟩
  | fault d b at_ v fs c hh h0 h1 h ih =>
    intro d' fs' c' h'
    cases h' with
    | fault d2 _ at2 v2 fs2 _ gg g0 g1 g =>
      have e0 : at_ = at2 := by have := h0.symm.trans g0; simpa using this
      have e1 : v = v2 := Option.some.inj (h1.symm.trans g1)
      subst e0; subst e1
      obtain ⟨rfl, rfl⟩ := ih g
      exact ⟨rfl, rfl⟩
theorem Chain.next {w : World} {d : Nat} {v : Value} {p : Nat × Int} {fs : List (Nat × Int)} {c : Option Int} (h : Chain w d v (p :: fs) c) : ∃ d' v', w.heap[p.1]? = some (.cells #[.int .i64 p.2, v'] 90 (0, 0)) ∧ w.cell? ⟨p.1, 0, none⟩ = some (.int .i64 p.2) ∧ w.cell? ⟨p.1, 1, none⟩ = some v' ∧ Chain w d' v' fs c := by
  generalize hl : p :: fs = l at h
  induction h with
  | errno n => cases hl
  | other p => cases hl
  | fault d b at_ v fs c hh h0 h1 h ih => cases hl; exact ⟨_, _, hh, h0, h1, h⟩
theorem Chain.drop {w : World} {d : Nat} {v : Value} {fs : List (Nat × Int)} {c : Option Int} (h : Chain w d v fs c) : ∀ i, ∃ d' v', Chain w d' v' (fs.drop i) c := by
  induction fs generalizing d v with
  | nil => intro i; exact ⟨d, v, by simpa using h⟩
  | cons p fs ih =>
    intro i
    cases i with
    | zero => exact ⟨d, v, h⟩
    | succ i =>
      obtain ⟨d', v', _, _, _, h'⟩ := h.next
      simpa using ih h' i
theorem Chain.apart {w : World} {d : Nat} {v : Value} {fs : List (Nat × Int)} {c : Option Int} (h : Chain w d v fs c) (i j : Nat) (hij : i < j) (p q : Nat × Int) (s t : List (Nat × Int)) (hi : fs.drop i = p :: s) (hj : fs.drop j = q :: t) : p.1 ≠ q.1 := by
  intro e
  obtain ⟨d1, v1, c1⟩ := h.drop i
  obtain ⟨d2, v2, c2⟩ := h.drop j
  rw [hi] at c1
  rw [hj] at c2
  obtain ⟨d3, v3, _, _, a1, c3⟩ := c1.next
  obtain ⟨d4, v4, _, _, b1, c4⟩ := c2.next
  rw [e] at a1
  have hv : v3 = v4 := Option.some.inj (a1.symm.trans b1)
  subst hv
  obtain ⟨hs, _⟩ := c3.only c4
  have l1 := congrArg List.length hi
  have l2 := congrArg List.length hj
  rw [hs] at l1
  simp only [List.length_drop, List.length_cons] at l1 l2
  omega
end Go.Proofs.YtoagfmonfgagbaaGreatDoor

namespace Go.Proofs.YtoagfmonfgagbaaGreatDoor
open Go.RowKit Go.Extern.Stop Go.Stop Go.Extern
theorem Handle.later {w w' : World} {B : Nat} (hb : Below B w w') (hB : w.heap.size ≤ B) (h : Handle w) : Handle w' := by
  have hlt : 0 < w.heap.size := lt_of_cell h
  exact (hb.cell (p := ⟨0, 0, none⟩) (by show (0 : Nat) < B; omega)).trans h
theorem wrap_nil (at_ : Value) (w : World) : Calls Tryz.prog 43 #[at_, .nilIface] w fun e w' => e = .returned .nilIface ∧ w = w' := by
  go_enter Tryz.func43, Tryz.ntmps43
  go_wp2
  go_ret
  exact ⟨rfl, rfl⟩
theorem wrap_some (at_ : Int) (T : TypeId) (x : Value) (w : World) : Calls Tryz.prog 43 #[.int .i64 at_, .iface T x] w fun e w' =>
    e = .returned (.iface 84 (.pointer (some ⟨w.heap.size, 0, none⟩))) ∧ w.alloc (.cells #[.int .i64 at_, .iface T x] 90) = w' := by
  go_enter Tryz.func43, Tryz.ntmps43
  go_wp2
  go_ret
  exact ⟨rfl, rfl⟩
theorem Chain.wrapped {w : World} {d : Nat} {v : Value} {fs : List (Nat × Int)} {c : Option Int} (h : Chain w d v fs c) (at_ : Int) : Chain (w.alloc (.cells #[.int .i64 at_, v] 90)) (d + 1) (.iface 84 (.pointer (some ⟨w.heap.size, 0, none⟩))) ((w.heap.size, at_) :: fs) c :=
  .fault d w.heap.size at_ v fs c (by show (w.heap.push _)[w.heap.size]? = _; exact Array.getElem?_push_size) (by simp) (by simp) (h.later ((Below.refl w.heap.size w).alloc (Nat.le_refl _) _) (Nat.le_refl _))
end Go.Proofs.YtoagfmonfgagbaaGreatDoor
