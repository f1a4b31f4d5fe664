/-
  A queue of the call's own, one step after another; what is told of an id, found by stockadehelp.Is. Conditions: those of the queue; errors.errorType holds the handle of the type error.
-/
import Derived.Test.YtdpmjbhkmfjpfaaDoorTw17
import Derived.Test.YtdpmjbhkmfjpfaaDoorTell
namespace Go.Proofs.YtdpmjbhkmfjpfaaDoor
open Go.RowKit
set_option maxRecDepth 100000

/-- A queue of the call's own. -/
def Sq (cap : Nat) (w0 w : World) (g : Nat) (L : List En) : Prop := ∃ ob, QL w g ob cap L ∧ Lo w0.heap.size g ob ∧ Below w0.heap.size w0 w
theorem Sq.later {cap : Nat} {w0 w w' : World} {g : Nat} {L : List En} (h : Sq cap w0 w g L) (hb : Below w.heap.size w w') : Sq cap w0 w' g L := by
  obtain ⟨ob, h1, h2, h3⟩ := h
  exact ⟨ob, h1.later hb (Nat.le_refl _), h2, h3.trans (hb.mono h3.size)⟩
theorem Sq.below {cap : Nat} {w0 w : World} {g : Nat} {L : List En} (h : Sq cap w0 w g L) : Below w0.heap.size w0 w := by
  obtain ⟨_, _, _, h3⟩ := h
  exact h3
theorem Sq.uniq {cap : Nat} {w0 w : World} {g : Nat} {L : List En} (h : Sq cap w0 w g L) : Go.Proofs.YtdpmjbhkmfjpfaaDoor.uniq L := by
  obtain ⟨_, h1, _⟩ := h
  exact h1.uniq
/-- What lies in older blocks than the queue's, or in none of its own, stays. -/
theorem Sq.push {cap : Nat} {w0 w : World} {g : Nat} {L : List En} (h : Sq cap w0 w g L) (hbig : L.length ≤ 100000) (id t : Int) :
    Calls Tryd.prog 16 #[.pointer (some ⟨g, 0, none⟩), .int .i64 id, .int .u64 t] w fun e w' => e = .returned (resV id (pushE cap L id)) ∧ Sq cap w0 w' g (pushL cap L id t) := by
  obtain ⟨ob, h1, h2, h3⟩ := h
  exact (push_L h1 hbig id t).mono fun _ w' ⟨e1, ob', e2, e3, e4⟩ => ⟨e1, ob', e2, h2.fresh e4 h3.size, e3.lo h3 h2 h3.size⟩
theorem Sq.move {cap : Nat} {w0 w : World} {g : Nat} {L : List En} (h : Sq cap w0 w g L) (hbig : L.length ≤ 100000) (id t : Int) :
    Calls Tryd.prog 9 #[.pointer (some ⟨g, 0, none⟩), .int .i64 id, .int .u64 t] w fun e w' => e = .returned (resV id (hasC L id)) ∧ Sq cap w0 w' g (moveE L id t) := by
  obtain ⟨ob, h1, h2, h3⟩ := h
  exact (move_L h1 hbig id t).mono fun _ w' ⟨e1, ob', e2, e3, e4⟩ => ⟨e1, ob', e2, h2.fresh e4 h3.size, e3.lo h3 h2 h3.size⟩
theorem Sq.cancel {cap : Nat} {w0 w : World} {g : Nat} {L : List En} (h : Sq cap w0 w g L) (id : Int) :
    Calls Tryd.prog 11 #[.pointer (some ⟨g, 0, none⟩), .int .i64 id] w fun e w' => e = .returned (resV id (hasC L id)) ∧ Sq cap w0 w' g (cancelE L id) := by
  obtain ⟨ob, h1, h2, h3⟩ := h
  exact (cancel_L h1 id).mono fun _ w' ⟨e1, e2, e3⟩ => ⟨e1, ob, e2, h2, e3.lo h3 h2 h3.size⟩
theorem Sq.due {cap : Nat} {w0 w : World} {g : Nat} {L : List En} (h : Sq cap w0 w g L) (hbig : L.length ≤ 100000) (now : Int) :
    Calls Tryd.prog 14 #[.pointer (some ⟨g, 0, none⟩), .int .u64 now] w fun e w' => ∃ v, e = .returned v ∧ Sq cap w0 w' g (dueL now L).2 ∧ EO w' v (dueL now L).1 := by
  obtain ⟨ob, h1, h2, h3⟩ := h
  exact (due_L h1 (by omega) now).mono fun _ w' ⟨v, e1, e2, e3, _, e5⟩ => ⟨v, e1, ⟨ob, e2, h2, e5.lo h3 h2 h3.size⟩, e3⟩
/-- What is told of an id. -/
theorem told_res (w : World) (id n : Int) : Tells w (resV id n) ⟨n, 0, false⟩ := by
  unfold resV
  by_cases h : n = 0
  · rw [if_pos h]
    exact .inl ⟨h, rfl⟩
  · rw [if_neg h]
    exact .inr ⟨h, 1, [], ref_faults w id n, by simp [isFail]⟩
theorem is_res {w : World} (hg : Handle w) (id n : Int) : Calls Tryd.prog 8 #[resV id n, .agg #[.int .i64 n, .int .i64 0, .bool false]] w fun e w' => e = .returned (.bool true) ∧ Below w.heap.size w w' := is_told3 (told_res w id n) hg
theorem is_ref {w : World} (hg : Handle w) (id n : Int) (hn : n ≠ 0) : Calls Tryd.prog 8 #[refV id n, .agg #[.int .i64 n, .int .i64 0, .bool false]] w fun e w' => e = .returned (.bool true) ∧ Below w.heap.size w w' := by
  have h := is_res hg id n
  unfold resV at h
  rw [if_neg hn] at h
  exact h
theorem num_mod17 (a : Int) (m : Int) (h0 : 0 < m) (h1 : m ≤ 1000000) : 0 ≤ wrap64 ((IntKind.u64.wrap a).tmod m) ∧ wrap64 ((IntKind.u64.wrap a).tmod m) < m := by
  have h : IntKind.u64.wrap a = a % 18446744073709551616 := rfl
  have h2 : 0 ≤ IntKind.u64.wrap a := by rw [h]; omega
  rw [Int.tmod_eq_emod_of_nonneg h2]
  have h3 := Int.emod_nonneg (IntKind.u64.wrap a) (show m ≠ 0 by omega)
  have h4 := Int.emod_lt_of_pos (IntKind.u64.wrap a) h0
  generalize IntKind.u64.wrap a % m = x at h3 h4
  unfold wrap64
  omega
theorem heldV_nat {n : Nat} (h : n ≤ 1000) : heldV (n : Int) = n := by
  unfold heldV
  by_cases h0 : (n : Int) ≤ 0
  · rw [if_pos h0]; omega
  · rw [if_neg h0, if_neg (by omega)]; omega
end Go.Proofs.YtdpmjbhkmfjpfaaDoor
