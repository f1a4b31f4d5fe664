/-
  A queue by the plain list of what is in it, in whatever order; what is awake. Conditions: those of the queue.
-/
import Derived.Test.YtdpmjbhkmfjpfaaDoorQd17
namespace Go.Proofs.YtdpmjbhkmfjpfaaDoor
open Go.RowKit
set_option maxRecDepth 100000

def QL (w : World) (g : Nat) (ob : Option Nat) (cap : Nat) (L : List En) : Prop := ∃ xs, Qu w g ob cap xs ∧ xs.Perm L
theorem QL.later {B : Nat} {w w' : World} {g : Nat} {ob : Option Nat} {cap : Nat} {L : List En} (h : QL w g ob cap L) (hb : Below B w w') (hB : w.heap.size ≤ B) : QL w' g ob cap L := by
  obtain ⟨xs, h1, h2⟩ := h
  exact ⟨xs, h1.later hb hB, h2⟩
theorem QL.lt {w : World} {g : Nat} {ob : Option Nat} {cap : Nat} {L : List En} (h : QL w g ob cap L) : g < w.heap.size := by
  obtain ⟨xs, h1, _⟩ := h
  exact h1.lt
theorem QL.lto {w : World} {g : Nat} {ob : Option Nat} {cap : Nat} {L : List En} (h : QL w g ob cap L) {b : Nat} (hb : ob = some b) : b < w.heap.size := by
  obtain ⟨xs, h1, _⟩ := h
  exact h1.lto hb
theorem QL.apart {w : World} {g : Nat} {ob : Option Nat} {cap : Nat} {L : List En} (h : QL w g ob cap L) : ob ≠ some g := by
  obtain ⟨xs, h1, _⟩ := h
  exact h1.apart
theorem QL.uniq {w : World} {g : Nat} {ob : Option Nat} {cap : Nat} {L : List En} (h : QL w g ob cap L) : Go.Proofs.YtdpmjbhkmfjpfaaDoor.uniq L := by
  obtain ⟨xs, h1, h2⟩ := h
  exact h1.uniq.perm h2
theorem QL.keep {w w' : World} {g : Nat} {ob : Option Nat} {cap : Nat} {L : List En} (h : QL w g ob cap L) (hg : w'.heap[g]? = w.heap[g]?) (ho : ∀ b, ob = some b → w'.heap[b]? = w.heap[b]?) : QL w' g ob cap L := by
  obtain ⟨xs, h1, h2⟩ := h
  exact ⟨xs, h1.keep hg ho, h2⟩
theorem pushE_perm {cap : Nat} {l m : List En} (h : l.Perm m) (id : Int) : pushE cap l id = pushE cap m id := by
  unfold pushE
  rw [hasV_perm h, h.length_eq]
theorem pushL_perm {cap : Nat} {l m : List En} (h : l.Perm m) (id t : Int) : (pushL cap l id t).Perm (pushL cap m id t) := by
  unfold pushL
  rw [pushE_perm h]
  split
  · exact h.append_right _
  · exact h
theorem new_L (n : Int) (w : World) : Calls Tryd.prog 6 #[.int .i64 n] w fun e w' => e = .returned (.pointer (some ⟨w.heap.size, 0, none⟩)) ∧ QL w' w.heap.size none (heldV n) [] ∧ Below w.heap.size w w' :=
  (new_any n w).mono fun _ _ ⟨h1, h2, h3⟩ => ⟨h1, ⟨[], h2, .refl _⟩, h3⟩
theorem push_L {w : World} {g : Nat} {ob : Option Nat} {cap : Nat} {L : List En} (h : QL w g ob cap L) (hbig : L.length ≤ 100000) (id t : Int) : Calls Tryd.prog 16 #[.pointer (some ⟨g, 0, none⟩), .int .i64 id, .int .u64 t] w fun e w' =>
    e = .returned (resV id (pushE cap L id)) ∧ ∃ ob', QL w' g ob' cap (pushL cap L id t) ∧ Mv g ob w w' ∧ Fresh ob ob' w.heap.size := by
  obtain ⟨xs, h1, h2⟩ := h
  exact (push_any h1 (h2.length_eq ▸ hbig) id t).mono fun _ _ ⟨e1, ob', xs', e2, e3, e4, e5⟩ => ⟨pushE_perm h2 id ▸ e1, ob', ⟨xs', e2, e3.trans (pushL_perm h2 id t)⟩, e4, e5⟩
theorem len_L {w : World} {g : Nat} {ob : Option Nat} {cap : Nat} {L : List En} (h : QL w g ob cap L) : Calls Tryd.prog 21 #[.pointer (some ⟨g, 0, none⟩)] w fun e w' => e = .returned (.int .i64 L.length) ∧ w = w' := by
  obtain ⟨xs, h1, h2⟩ := h
  rw [← h2.length_eq]
  exact len_any h1
theorem next_L {w : World} {g : Nat} {ob : Option Nat} {cap : Nat} {L : List En} (h : QL w g ob cap L) : Calls Tryd.prog 18 #[.pointer (some ⟨g, 0, none⟩)] w fun e w' => e = .returned (nextR (nextV L)) ∧ Below w.heap.size w w' := by
  obtain ⟨xs, h1, h2⟩ := h
  rw [← nextV_perm h2]
  exact next_any h1
theorem at_L {w : World} {g : Nat} {ob : Option Nat} {cap : Nat} {L : List En} (h : QL w g ob cap L) (id : Int) : Calls Tryd.prog 20 #[.pointer (some ⟨g, 0, none⟩), .int .i64 id] w fun e w' => e = .returned (atR (atV L id)) ∧ Below w.heap.size w w' := by
  obtain ⟨xs, h1, h2⟩ := h
  rw [← atV_perm h1.uniq h2]
  exact at_any h1 id
theorem cancel_L {w : World} {g : Nat} {ob : Option Nat} {cap : Nat} {L : List En} (h : QL w g ob cap L) (id : Int) : Calls Tryd.prog 11 #[.pointer (some ⟨g, 0, none⟩), .int .i64 id] w fun e w' =>
    e = .returned (resV id (hasC L id)) ∧ QL w' g ob cap (cancelE L id) ∧ Mv g ob w w' := by
  obtain ⟨xs, h1, h2⟩ := h
  refine (cancel_any h1 id).mono fun _ _ ⟨e1, e2, e3⟩ => ⟨?_, ⟨_, e2, cancelE_perm h2 id⟩, e3⟩
  unfold hasC at e1 ⊢
  rw [← hasV_perm h2]
  exact e1
theorem move_L {w : World} {g : Nat} {ob : Option Nat} {cap : Nat} {L : List En} (h : QL w g ob cap L) (hbig : L.length ≤ 100000) (id t : Int) : Calls Tryd.prog 9 #[.pointer (some ⟨g, 0, none⟩), .int .i64 id, .int .u64 t] w fun e w' =>
    e = .returned (resV id (hasC L id)) ∧ ∃ ob', QL w' g ob' cap (moveE L id t) ∧ Mv g ob w w' ∧ Fresh ob ob' w.heap.size := by
  obtain ⟨xs, h1, h2⟩ := h
  refine (move_any h1 (h2.length_eq ▸ hbig) id t).mono fun _ _ ⟨e1, ob', xs', e2, e3, e4, e5⟩ => ⟨?_, ob', ⟨xs', e2, e3.trans (moveE_perm h2 id t)⟩, e4, e5⟩
  unfold hasC at e1 ⊢
  rw [← hasV_perm h2]
  exact e1
theorem due_L {w : World} {g : Nat} {ob : Option Nat} {cap : Nat} {L : List En} (h : QL w g ob cap L) (hbig : L.length ≤ 1000000) (now : Int) : Calls Tryd.prog 14 #[.pointer (some ⟨g, 0, none⟩), .int .u64 now] w fun e w' =>
    ∃ v', e = .returned v' ∧ QL w' g ob cap (dueL now L).2 ∧ EO w' v' (dueL now L).1 ∧ Fresh none v'.ownBlock w.heap.size ∧ Mv g ob w w' := by
  obtain ⟨xs, h1, h2⟩ := h
  obtain ⟨d1, d2⟩ := dueL_perm (now := now) h2
  exact (due_any h1 (h2.length_eq ▸ hbig) now).mono fun _ _ ⟨v', e1, e2, e3, e4, e5⟩ => ⟨v', e1, ⟨_, e2, d2⟩, d1 ▸ e3, e4, e5⟩
--<< awake
set_option maxHeartbeats 2000000 in
theorem awake17 (w : World) : Calls Tryd.prog 7 #[] w fun e w' => e = .returned (.bool true) ∧ Below w.heap.size w w' := by
  have K := Lib.hid (new_L 5 w)
  have q1 := eqlEn
  have eh : heldV 5 = 5 := by decide
  rw [eh] at K
  go_enter Tryd.func7, Tryd.ntmps7
  go_wp2_with (refine K.out.mono ?_; rintro e w1 ⟨rfl, h1, b1⟩)
  have K2 := Lib.hid (push_L h1 (by decide) 7 5)
  have e2 : pushE 5 [] 7 = 0 := by decide
  have e3 : pushL 5 [] 7 5 = [⟨7, 5⟩] := by decide
  rw [e2, e3] at K2
  have H1 := Lib.hid (And.intro h1 b1)
  clear h1 b1 e2 e3 eh K
  unfold resV at K2
  rw [if_pos rfl] at K2
  refine K2.out.mono ?_
  rintro e w2 ⟨rfl, ob, h2, m2, f2⟩
  have K3 := Lib.hid (push_L h2 (by decide) 3 5)
  have e2 : pushE 5 [⟨7, 5⟩] 3 = 0 := by decide
  have e3 : pushL 5 [⟨7, 5⟩] 3 5 = [⟨7, 5⟩, ⟨3, 5⟩] := by decide
  rw [e2, e3] at K3
  unfold resV at K3
  rw [if_pos rfl] at K3
  have H2 := Lib.hid (And.intro m2 f2)
  clear h2 m2 f2 e2 e3 K2
  go_wp2_with fail
  refine K3.out.mono ?_
  rintro e w3 ⟨rfl, ob2, h3, m3, f3⟩
  have K4 := Lib.hid (next_L h3)
  have e2 : nextV [⟨7, 5⟩, ⟨3, 5⟩] = some ⟨3, 5⟩ := by decide
  rw [e2] at K4
  unfold nextR at K4
  have H3 := Lib.hid (And.intro h3 (And.intro m3 f3))
  clear h3 m3 f3 e2 K3
  have hBB : Hid (∀ w', Below w3.heap.size w3 w' → Below w.heap.size w w') := fun w' hb => by
    have c1 := H1.out.2
    have c2 := Mv.below c1 H2.out.1 (Nat.le_refl _) (fun b hb => by cases hb) c1.size
    have f2 : ∀ b, ob = some b → w.heap.size ≤ b := fun b hb => by
      rcases H2.out.2 with h | ⟨b', h, hl⟩
      · rw [h] at hb; cases hb
      · rw [h] at hb; cases hb; exact Nat.le_trans c1.size hl
    have c3 := Mv.below c2 H3.out.2.1 (Nat.le_refl _) f2 c2.size
    exact c3.trans (hb.mono c3.size)
  have K5 := Lib.hid fun (w' : World) (hb : Below w3.heap.size w3 w') => len_L (H3.out.1.later hb (Nat.le_refl _))
  have hl : Hid (([⟨7, 5⟩, ⟨3, 5⟩] : List En).length = 2) := rfl
  go_wp2_with (refine K4.out.mono ?_; rintro e w4 ⟨rfl, b4⟩)
  have B4 := Lib.hid (b4.alloc b4.size (.cells #[.int .i64 3, .int .u64 5] 45))
  clear b4
  refine (K5.out _ B4.out).mono ?_
  rintro e w5 ⟨rfl, rfl⟩
  go_wp2_with fail
  go_ret
  exact ⟨rfl, hBB.out _ B4.out⟩
-->>
end Go.Proofs.YtdpmjbhkmfjpfaaDoor
