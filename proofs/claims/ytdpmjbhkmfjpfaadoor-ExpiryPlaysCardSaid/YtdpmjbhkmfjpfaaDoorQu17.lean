/-
  Package expiry's Queue: New, Len, find, put. Conditions: those of the queue.
-/
import Derived.Test.YtdpmjbhkmfjpfaaDoorRw17
import Derived.Test.YtdpmjbhkmfjpfaaDoorSe17
import Derived.Test.YtdpmjbhkmfjpfaaDoorIs
import Derived.Laws.ResultCell
namespace Go.Proofs.YtdpmjbhkmfjpfaaDoor
open Go.RowKit
set_option maxRecDepth 100000

/-- Two blocks alone may have turned. -/
structure Mv (g : Nat) (ob : Option Nat) (w w' : World) : Prop where
  os : w'.os = w.os
  tape : w'.tape = w.tape
  output : w'.output = w.output
  size : w.heap.size ≤ w'.heap.size
  block : ∀ k, k < w.heap.size → k ≠ g → some k ≠ ob → w'.heap[k]? = w.heap[k]?
/-- A row's block is what it was, or a new one. -/
def Fresh (ob ob' : Option Nat) (n : Nat) : Prop := ob' = ob ∨ ∃ b, ob' = some b ∧ n ≤ b
theorem Mv.refl (g : Nat) (ob : Option Nat) (w : World) : Mv g ob w w := ⟨rfl, rfl, rfl, Nat.le_refl _, fun _ _ _ _ => rfl⟩
theorem Fresh.refl (ob : Option Nat) (n : Nat) : Fresh ob ob n := .inl rfl
theorem Mv.trans {g : Nat} {ob ob' : Option Nat} {a b c : World} (h : Mv g ob a b) (k : Mv g ob' b c) (hf : Fresh ob ob' a.heap.size) : Mv g ob a c :=
  ⟨k.os.trans h.os, k.tape.trans h.tape, k.output.trans h.output, Nat.le_trans h.size k.size, fun i hi h1 h2 => (k.block i (Nat.lt_of_lt_of_le hi h.size) h1 (by
    rcases hf with rfl | ⟨b, rfl, hb⟩
    · exact h2
    · intro e
      cases e
      omega)).trans (h.block i hi h1 h2)⟩
theorem Fresh.trans {ob ob' ob'' : Option Nat} {n m : Nat} (h : Fresh ob ob' n) (k : Fresh ob' ob'' m) (hn : n ≤ m) : Fresh ob ob'' n := by
  rcases k with rfl | ⟨b, rfl, hb⟩
  · exact h
  · exact .inr ⟨b, rfl, by omega⟩
theorem Mv.of_below {g : Nat} {ob : Option Nat} {w w' : World} (h : Below w.heap.size w w') : Mv g ob w w' := ⟨h.os, h.tape, h.output, h.size, fun k hk _ _ => h.block k hk⟩
theorem Mv.below {g : Nat} {ob : Option Nat} {B : Nat} {w0 w w' : World} (hb : Below B w0 w) (h : Mv g ob w w') (hg : B ≤ g) (ho : ∀ b, ob = some b → B ≤ b) (hB : B ≤ w.heap.size) : Below B w0 w' :=
  ⟨h.os.trans hb.os, h.tape.trans hb.tape, h.output.trans hb.output, Nat.le_trans hb.size h.size, fun k hk => (h.block k (by omega) (by omega) (fun e => by have := ho k e.symm; omega)).trans (hb.block k hk)⟩
/-- A queue: room, and what is there, in order. -/
structure Qu (w : World) (g : Nat) (ob : Option Nat) (room : Int) (xs : List En) : Prop where
  here : ∃ v, w.heap[g]? = some (.cells #[.int .i64 room, v] 60 (0, 0)) ∧ EO w v xs ∧ v.ownBlock = ob
  apart : ob ≠ some g
  sorted : SortedE xs
  uniq : uniq xs
theorem Qu.keep {w w' : World} {g : Nat} {ob : Option Nat} {room : Int} {xs : List En} (h : Qu w g ob room xs) (hg : w'.heap[g]? = w.heap[g]?) (ho : ∀ b, ob = some b → w'.heap[b]? = w.heap[b]?) : Qu w' g ob room xs := by
  obtain ⟨⟨v, h1, h2, h3⟩, h4, h5, h6⟩ := h
  exact ⟨⟨v, hg.trans h1, h2.kept (fun b hb => ho b (h3 ▸ hb)), h3⟩, h4, h5, h6⟩
theorem Qu.lt {w : World} {g : Nat} {ob : Option Nat} {room : Int} {xs : List En} (h : Qu w g ob room xs) : g < w.heap.size := by
  obtain ⟨v, h1, _⟩ := h.here
  exact (Array.getElem?_eq_some_iff.1 h1).1
theorem Qu.lto {w : World} {g : Nat} {ob : Option Nat} {room : Int} {xs : List En} (h : Qu w g ob room xs) {b : Nat} (hb : ob = some b) : b < w.heap.size := by
  obtain ⟨v, h1, h2, h3⟩ := h.here
  exact h2.lt (h3.trans hb)
theorem Qu.later {B : Nat} {w w' : World} {g : Nat} {ob : Option Nat} {room : Int} {xs : List En} (h : Qu w g ob room xs) (hb : Below B w w') (hB : w.heap.size ≤ B) : Qu w' g ob room xs :=
  h.keep (hb.block g (Nat.lt_of_lt_of_le h.lt hB)) fun b e => hb.block b (Nat.lt_of_lt_of_le (h.lto e) hB)
/-- Its cells. -/
theorem Qu.open_ {w : World} {g : Nat} {ob : Option Nat} {room : Int} {xs : List En} (h : Qu w g ob room xs) : ∃ A c, w.cell? ⟨g, 0, none⟩ = some (.int .i64 room) ∧ w.cell? ⟨g, 1, none⟩ = some (.slice A xs.length c) ∧ EnS w A xs.length c xs ∧ EO w (.slice A xs.length c) xs ∧ (Value.slice A xs.length c).ownBlock = ob ∧ (A = none ∨ ∃ b, A = some ⟨b, 0, none⟩) ∧ w.heap[g]? = some (.cells #[.int .i64 room, .slice A xs.length c] 60 (0, 0)) := by
  obtain ⟨v, h1, h2, h3⟩ := h.here
  obtain ⟨A, c, rfl, hs, hA⟩ := EnS.of_own h2
  exact ⟨A, c, cell_of_row w g 0 _ _ _ h1, cell_of_row w g 1 _ _ _ h1, hs, h2, h3, hA, h1⟩
--<< new
theorem new_any (n : Int) (w : World) : Calls Tryd.prog 6 #[.int .i64 n] w fun e w' => e = .returned (.pointer (some ⟨w.heap.size, 0, none⟩)) ∧ Qu w' w.heap.size none (heldV n) [] ∧ Below w.heap.size w w' := by
  have hQ : ∀ r : Int, Qu (w.alloc (.cells #[.int .i64 r, .slice none 0 0] 60)) w.heap.size none r [] := fun r => ⟨⟨_, heap_alloc_new w _, EO.nil _, rfl⟩, by simp, List.Pairwise.nil, List.Pairwise.nil⟩
  have hB : ∀ r : Int, Below w.heap.size w (w.alloc (.cells #[.int .i64 r, .slice none 0 0] 60)) := fun r => (Below.refl _ _).alloc (Nat.le_refl _) _
  have HC := Lib.hid (And.intro hQ hB)
  clear hQ hB
  unfold heldV
  by_cases h1 : n ≤ 0
  · rw [if_pos h1]
    by_cases h0 : n = 0
    · subst h0
      go_enter Tryd.func6, Tryd.ntmps6
      go_wp2
      go_ret
      exact ⟨rfl, HC.out.1 _, HC.out.2 _⟩
    · have h3 : n < 0 := by omega
      go_enter Tryd.func6, Tryd.ntmps6
      go_wp2
      go_ret
      exact ⟨rfl, HC.out.1 _, HC.out.2 _⟩
  · rw [if_neg h1]
    by_cases h2 : 1000 < n
    · rw [if_pos h2]
      go_enter Tryd.func6, Tryd.ntmps6
      go_wp2
      all_goals (go_ret; first | exact ⟨rfl, HC.out.1 _, HC.out.2 _⟩ | omega)
    · rw [if_neg h2]
      have h3 : ((n.toNat : Nat) : Int) = n := by omega
      rw [h3]
      go_enter Tryd.func6, Tryd.ntmps6
      go_wp2
      all_goals (go_ret; first | exact ⟨rfl, HC.out.1 _, HC.out.2 _⟩ | omega)
-->>
--<< len
theorem len_nil (w : World) : Calls Tryd.prog 21 #[.pointer none] w fun e w' => e = .returned (.int .i64 0) ∧ w = w' := by
  go_enter Tryd.func21, Tryd.ntmps21
  go_wp2
  go_ret
  exact ⟨rfl, rfl⟩
theorem len_any {w : World} {g : Nat} {ob : Option Nat} {room : Int} {xs : List En} (h : Qu w g ob room xs) : Calls Tryd.prog 21 #[.pointer (some ⟨g, 0, none⟩)] w fun e w' => e = .returned (.int .i64 xs.length) ∧ w = w' := by
  obtain ⟨A, c, _, c1, _⟩ := h.open_
  go_enter Tryd.func21, Tryd.ntmps21
  go_wp2
  go_ret
  exact ⟨rfl, rfl⟩
-->>
/-- Which id may not be what was asked for, and why. -/
def refV (id n : Int) : Value := .iface 79 (.agg #[.int .i64 id, .iface 37 (.int .i64 n)])
theorem ref_faults (w : World) (id n : Int) : Faults w 1 (refV id n) [] n := .refusal 0 id _ [] n (.errno n)
--<< find
theorem box_new (w : World) (x : Value) (T : TypeId) : (w.alloc (.cells #[x] T)).cell? ⟨w.heap.size, 0, none⟩ = some x := by
  rw [World.cell?_alloc_at _ _ _ _ rfl]; rfl
set_option maxHeartbeats 1000000 in
theorem find_nil (id : Int) (w : World) : Calls Tryd.prog 25 #[.pointer none, .int .i64 id] w fun e w' => e = .returned (.tuple #[.int .i64 0, refV id 2]) ∧ Below w.heap.size w w' := by
  have b1 : Below w.heap.size w (w.alloc (.cells #[.int .i64 id] 3)) := (Below.refl _ _).alloc (Nat.le_refl _) _
  have c0 := box_new w (.int .i64 id) 3
  have hl : w.heap.size < (w.alloc (.cells #[.int .i64 id] 3)).heap.size := by simp
  obtain ⟨W, hW⟩ : ∃ W, w.alloc (.cells #[.int .i64 id] 3) = W := ⟨_, rfl⟩
  rw [hW] at b1 c0 hl
  have c1 : ∀ w', Below W.heap.size W w' → w'.cell? ⟨w.heap.size, 0, none⟩ = some (.int .i64 id) := fun w' hb => (hb.cell (p := ⟨w.heap.size, 0, none⟩) hl).trans c0
  have HB := Lib.hid b1
  have HW := Lib.hid hW
  clear b1 hW c0 hl
  go_enter Tryd.func25, Tryd.ntmps25
  go_wp2_with (rw [HW.out])
  have hS : Below W.heap.size W W.drew := below_of_drew (Below.refl _ _)
  refine rg_begin (fun w' => Below W.heap.size W w') 6 (by kernel_rfl) rfl ?_
  refine rg_take 0 (v := ?rv1) rfl (by kernel_rfl) (by kernel_rfl) (by kernel_rfl) (fun _ _ _ h => h) (by rfl) hS (fun w2 hw2 => ?ry1) ?rr1
  case ry1 => ((try dsimp only at hw2); go_simp <;> with_reducible rfl)
  simp only [Act.put, List.setIfInBounds_toArray, List.set_cons_zero, List.set_cons_succ]
  refine rg_take 1 (v := ?rv2) rfl (by kernel_rfl) (by kernel_rfl) (by kernel_rfl) (fun _ _ _ h => h) (by rfl) hS (fun w2 hw2 => ?ry2) ?rr2
  case ry2 => ((try dsimp only at hw2); go_simp <;> with_reducible rfl)
  simp only [Act.put, List.setIfInBounds_toArray, List.set_cons_zero, List.set_cons_succ]
  refine rg_take 2 (v := ?rv3) rfl (by kernel_rfl) (by kernel_rfl) (by kernel_rfl) (fun _ _ _ h => h) (by rfl) hS (fun w2 hw2 => ?ry3) ?rr3
  case ry3 => ((try dsimp only at hw2); go_simp <;> with_reducible rfl)
  simp only [Act.put, List.setIfInBounds_toArray, List.set_cons_zero, List.set_cons_succ]
  refine rg_take 3 (v := ?rv4) rfl (by kernel_rfl) (by kernel_rfl) (by kernel_rfl) (fun _ _ _ h => h) (by rfl) hS (fun w2 hw2 => ?ry4) ?rr4
  case ry4 => ((try dsimp only at hw2); go_simp <;> with_reducible rfl)
  simp only [Act.put, List.setIfInBounds_toArray, List.set_cons_zero, List.set_cons_succ]
  refine rg_take 4 (v := ?rv5) rfl (by kernel_rfl) (by kernel_rfl) (by kernel_rfl) (fun _ _ _ h => h) (by rfl) hS (fun w2 hw2 => ?ry5) ?rr5
  case ry5 => ((try dsimp only at hw2); go_simp <;> with_reducible rfl)
  simp only [Act.put, List.setIfInBounds_toArray, List.set_cons_zero, List.set_cons_succ]
  refine rg_take 5 (v := ?rv6) rfl (by kernel_rfl) (by kernel_rfl) (by kernel_rfl) (fun _ _ _ h => h) (by rfl) hS (fun w2 hw2 => ?ry6) ?rr6
  case ry6 => ((try dsimp only at hw2); go_simp <;> with_reducible rfl)
  simp only [Act.put, List.setIfInBounds_toArray, List.set_cons_zero, List.set_cons_succ]
  refine rg_done (by kernel_rfl) ?_
  go_wp2_with fail
  exact bodyPost_ret (v := .tuple #[.int .i64 0, refV id 2]) (by simp [results, Tryd.results25, go_sem, refV]) rfl ⟨rfl, HB.out.trans (hS.mono HB.out.size)⟩
set_option maxHeartbeats 2000000 in
theorem find_any {w : World} {g : Nat} {ob : Option Nat} {room : Int} {xs : List En} (h : Qu w g ob room xs) (id : Int) : Calls Tryd.prog 25 #[.pointer (some ⟨g, 0, none⟩), .int .i64 id] w fun e w' =>
    ((hasV xs id = false ∧ e = .returned (.tuple #[.int .i64 0, refV id 20])) ∨ ∃ (k : Nat) (x : En), hasV xs id = true ∧ xs[k]? = some x ∧ x.id = id ∧ e = .returned (.tuple #[.int .i64 k, .nilIface])) ∧ Below w.heap.size w w' := by
  obtain ⟨A, c, _, q1, hs, _⟩ := h.open_
  have b1 : Below w.heap.size w (w.alloc (.cells #[.int .i64 id] 3)) := (Below.refl _ _).alloc (Nat.le_refl _) _
  have c0 := box_new w (.int .i64 id) 3
  have hl : w.heap.size < (w.alloc (.cells #[.int .i64 id] 3)).heap.size := by simp
  obtain ⟨W, hW⟩ : ∃ W, w.alloc (.cells #[.int .i64 id] 3) = W := ⟨_, rfl⟩
  rw [hW] at b1 c0 hl
  have q2 : W.cell? ⟨g, 1, none⟩ = some (.slice A xs.length c) := (b1.cell (p := ⟨g, 1, none⟩) h.lt).trans q1
  have K := Lib.hid (index_any (hs.later b1 (Nat.le_refl _)) c0)
  have c1 : ∀ w', Below W.heap.size W w' → w'.cell? ⟨w.heap.size, 0, none⟩ = some (.int .i64 id) := fun w' hb => (hb.cell (p := ⟨w.heap.size, 0, none⟩) hl).trans c0
  have HB := Lib.hid b1
  have HW := Lib.hid hW
  clear b1 hW c0 hl q1 hs h
  rcases idxv_cases xs id with ⟨hi, hv⟩ | ⟨k, x, hi, hk, hx, hv⟩
  · rw [hi] at K
    have HV := Lib.hid hv
    clear hi hv
    go_enter Tryd.func25, Tryd.ntmps25
    go_wp2_with (first | (rw [HW.out]) | (refine K.out.mono ?_; rintro e w1 ⟨rfl, hb⟩))
    have HS := Lib.hid hb
    clear hb q2
    go_wp2_with fail
    have hS : Below W.heap.size W w1.drew := below_of_drew HS.out
    refine rg_begin (fun w' => Below W.heap.size W w') 6 (by kernel_rfl) rfl ?_
    refine rg_take 0 (v := ?rv7) rfl (by kernel_rfl) (by kernel_rfl) (by kernel_rfl) (fun _ _ _ h => h) (by rfl) hS (fun w2 hw2 => ?ry7) ?rr7
    case ry7 => ((try dsimp only at hw2); go_simp <;> with_reducible rfl)
    simp only [Act.put, List.setIfInBounds_toArray, List.set_cons_zero, List.set_cons_succ]
    refine rg_take 1 (v := ?rv8) rfl (by kernel_rfl) (by kernel_rfl) (by kernel_rfl) (fun _ _ _ h => h) (by rfl) hS (fun w2 hw2 => ?ry8) ?rr8
    case ry8 => ((try dsimp only at hw2); go_simp <;> with_reducible rfl)
    simp only [Act.put, List.setIfInBounds_toArray, List.set_cons_zero, List.set_cons_succ]
    refine rg_take 2 (v := ?rv9) rfl (by kernel_rfl) (by kernel_rfl) (by kernel_rfl) (fun _ _ _ h => h) (by rfl) hS (fun w2 hw2 => ?ry9) ?rr9
    case ry9 => ((try dsimp only at hw2); go_simp <;> with_reducible rfl)
    simp only [Act.put, List.setIfInBounds_toArray, List.set_cons_zero, List.set_cons_succ]
    refine rg_take 3 (v := ?rv10) rfl (by kernel_rfl) (by kernel_rfl) (by kernel_rfl) (fun _ _ _ h => h) (by rfl) hS (fun w2 hw2 => ?ry10) ?rr10
    case ry10 => ((try dsimp only at hw2); go_simp <;> with_reducible rfl)
    simp only [Act.put, List.setIfInBounds_toArray, List.set_cons_zero, List.set_cons_succ]
    refine rg_take 4 (v := ?rv11) rfl (by kernel_rfl) (by kernel_rfl) (by kernel_rfl) (fun _ _ _ h => h) (by rfl) hS (fun w2 hw2 => ?ry11) ?rr11
    case ry11 => ((try dsimp only at hw2); go_simp <;> with_reducible rfl)
    simp only [Act.put, List.setIfInBounds_toArray, List.set_cons_zero, List.set_cons_succ]
    refine rg_take 5 (v := ?rv12) rfl (by kernel_rfl) (by kernel_rfl) (by kernel_rfl) (fun _ _ _ h => h) (by rfl) hS (fun w2 hw2 => ?ry12) ?rr12
    case ry12 => ((try dsimp only at hw2); go_simp <;> with_reducible rfl)
    simp only [Act.put, List.setIfInBounds_toArray, List.set_cons_zero, List.set_cons_succ]
    refine rg_done (by kernel_rfl) ?_
    go_wp2_with fail
    exact bodyPost_ret (v := .tuple #[.int .i64 0, refV id 20]) (by simp [results, Tryd.results25, go_sem, refV]) rfl ⟨.inl ⟨HV.out, rfl⟩, HB.out.trans (hS.mono HB.out.size)⟩
  · rw [hi] at K
    have HV := Lib.hid (And.intro hv (And.intro hk hx))
    clear hi hv hk hx
    go_enter Tryd.func25, Tryd.ntmps25
    go_wp2_with (first | (rw [HW.out]) | (refine K.out.mono ?_; rintro e w1 ⟨rfl, hb⟩))
    have HS := Lib.hid hb
    clear hb q2
    go_wp2_with fail
    exact bodyPost_ret (v := .tuple #[.int .i64 (k : Int), .nilIface]) (by simp [results, Tryd.results25, go_sem]) rfl ⟨.inr ⟨k, x, HV.out.1, HV.out.2.1, HV.out.2.2, rfl⟩, HB.out.trans (HS.out.mono HB.out.size)⟩
-->>
end Go.Proofs.YtdpmjbhkmfjpfaaDoor
