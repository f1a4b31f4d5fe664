/-
  cmp.Or of two numbers, expiry.compare. No conditions.
-/
import Derived.Test.YtdpmjbhkmfjpfaaDoorEn17
import Derived.Deep.QuietTactic
import Derived.BigQuiet
import Derived.Test.YtdpmjbhkmfjpfaaDoorReg
namespace Go.Proofs.YtdpmjbhkmfjpfaaDoor
open Go.RowKit
set_option maxRecDepth 100000

theorem below_of_drew {B : Nat} {a w : World} (h : Below B a w) : Below B a w.drew := ⟨h.os, h.tape, h.output, h.size, h.block⟩
--<< or
theorem or_any (b : Nat) (x y : Int) (w : World) (h0 : w.cell? ⟨b, 0, none⟩ = some (.int .i64 x)) (h1 : w.cell? ⟨b, 1, none⟩ = some (.int .i64 y)) :
    Calls Tryd.prog 48 #[.slice (some ⟨b, 0, none⟩) 2 2] w fun e w' => e = .returned (.int .i64 (orv x y)) ∧ w = w' := by
  unfold orv
  by_cases hx : x = 0
  · rw [if_neg (by simpa using hx)]
    subst hx
    by_cases hy : y = 0
    · subst hy
      go_enter Tryd.func48, Tryd.ntmps48
      go_wp2_with fail
      refine wp_loop_rounds 3 ?_
      rw [rounds_succ]
      go_wp2_with fail
      rw [rounds_succ]
      go_wp2_with fail
      rw [rounds_succ]
      go_wp2_with fail
      go_ret
      exact ⟨rfl, rfl⟩
    · go_enter Tryd.func48, Tryd.ntmps48
      go_wp2_with fail
      refine wp_loop_rounds 2 ?_
      rw [rounds_succ]
      go_wp2_with fail
      rw [rounds_succ]
      go_wp2_with fail
      go_ret
      exact ⟨rfl, rfl⟩
  · rw [if_pos hx]
    go_enter Tryd.func48, Tryd.ntmps48
    go_wp2_with fail
    refine wp_loop_rounds 1 ?_
    rw [rounds_succ]
    go_wp2_with fail
    go_ret
    exact ⟨rfl, rfl⟩
-->>
theorem or_new (b : Nat) (x y : Int) (w : World) (T : TypeId) (hb : b = w.heap.size) : Calls Tryd.prog 48 #[.slice (some ⟨b, 0, none⟩) 2 2] (w.alloc (.cells #[.int .i64 x, .int .i64 y] T)).drew fun e w' => e = .returned (.int .i64 (orv x y)) ∧ (w.alloc (.cells #[.int .i64 x, .int .i64 y] T)).drew = w' := by
  subst hb
  exact or_any w.heap.size x y _ (by simp) (by simp)
--<< cmp
set_option maxHeartbeats 4000000 in
theorem compare_any (a b : En) (w : World) : Calls Tryd.prog 44 #[.agg #[.int .i64 a.id, .int .u64 a.at_], .agg #[.int .i64 b.id, .int .u64 b.at_]] w fun e w' => e = .returned (.int .i64 (orv (cmpv a.at_ b.at_) (cmpv a.id b.id))) ∧ Below w.heap.size w w' := by
  obtain ⟨i, t⟩ := a
  obtain ⟨j, s⟩ := b
  dsimp only
  obtain ⟨X, hX⟩ : ∃ X, X = cmpv t s := ⟨_, rfl⟩
  obtain ⟨Y, hY⟩ : ∃ Y, Y = cmpv i j := ⟨_, rfl⟩
  rw [← hX, ← hY]
  have HU : ∀ w1 : World, Hid (Calls Tryd.prog 49 #[.int .u64 t, .int .u64 s] w1 fun e w' => e = .returned (.int .i64 X) ∧ w1 = w') := fun w1 => by rw [hX]; exact cmp_u t s w1
  have HI : ∀ w1 : World, Hid (Calls Tryd.prog 50 #[.int .i64 i, .int .i64 j] w1 fun e w' => e = .returned (.int .i64 Y) ∧ w1 = w') := fun w1 => by rw [hY]; exact cmp_i i j w1
  clear hX hY
  have HU2 := Lib.hid (And.intro HU HI)
  clear HU HI
  obtain ⟨W, hW, c0, c1, c2, c3, hB⟩ : ∃ W, (w.alloc (.cells #[.int .i64 i, .int .u64 t] 45)).alloc (.cells #[.int .i64 j, .int .u64 s] 45) = W ∧ (∀ w', Below W.heap.size W w' → w'.cell? ⟨w.heap.size, 0, none⟩ = some (.int .i64 i)) ∧ (∀ w', Below W.heap.size W w' → w'.cell? ⟨w.heap.size, 1, none⟩ = some (.int .u64 t)) ∧ (∀ w', Below W.heap.size W w' → w'.cell? ⟨w.heap.size + 1, 0, none⟩ = some (.int .i64 j)) ∧ (∀ w', Below W.heap.size W w' → w'.cell? ⟨w.heap.size + 1, 1, none⟩ = some (.int .u64 s)) ∧ Below w.heap.size w W := by
    refine ⟨_, rfl, fun w' h => ?_, fun w' h => ?_, fun w' h => ?_, fun w' h => ?_, ((Below.refl _ w).alloc (Nat.le_refl _) _).alloc (by simp) _⟩
    · rw [h.cell (p := ⟨w.heap.size, 0, none⟩) (by simp; omega), World.cell?_alloc_lt _ _ ⟨w.heap.size, 0, none⟩ (by simp)]; simp
    · rw [h.cell (p := ⟨w.heap.size, 1, none⟩) (by simp; omega), World.cell?_alloc_lt _ _ ⟨w.heap.size, 1, none⟩ (by simp)]; simp
    · rw [h.cell (p := ⟨w.heap.size + 1, 0, none⟩) (by simp), World.cell?_alloc_at _ _ _ _ (by simp)]; simp
    · rw [h.cell (p := ⟨w.heap.size + 1, 1, none⟩) (by simp), World.cell?_alloc_at _ _ _ _ (by simp)]; simp
  have HB := Lib.hid hB
  clear hB
  have HW := Lib.hid hW
  clear hW
  go_enter Tryd.func44, Tryd.ntmps44
  go_wp2_with (rw [HW.out])
  clear HW
  have hS : Below W.heap.size W W.drew := below_of_drew (Below.refl _ _)
  refine rg_begin (fun w' => Below W.heap.size W w') 13 (by kernel_rfl) rfl ?_
  refine rg_take 0 (v := ?rv1) rfl (by kernel_rfl) (by kernel_rfl) (by kernel_rfl) (fun _ _ _ h => h) (by rfl) hS (fun w2 hw2 => ?ry1) ?rr1
  case ry1 => ((try dsimp only at hw2); go_simp <;> with_reducible rfl)
  simp only [Act.put, List.setIfInBounds_toArray, List.set_cons_zero, List.set_cons_succ]
  refine rg_take 2 (v := ?rv2) rfl (by kernel_rfl) (by kernel_rfl) (by kernel_rfl) (fun _ _ _ h => h) (by rfl) hS (fun w2 hw2 => ?ry2) ?rr2
  case ry2 => ((try dsimp only at hw2); go_simp <;> with_reducible rfl)
  simp only [Act.put, List.setIfInBounds_toArray, List.set_cons_zero, List.set_cons_succ]
  refine rg_take 5 (v := ?rv3) rfl (by kernel_rfl) (by kernel_rfl) (by kernel_rfl) (fun _ _ _ h => h) (by rfl) hS (fun w2 hw2 => ?ry3) ?rr3
  case ry3 => ((try dsimp only at hw2); go_simp <;> with_reducible rfl)
  simp only [Act.put, List.setIfInBounds_toArray, List.set_cons_zero, List.set_cons_succ]
  refine rg_take 7 (v := ?rv4) rfl (by kernel_rfl) (by kernel_rfl) (by kernel_rfl) (fun _ _ _ h => h) (by rfl) hS (fun w2 hw2 => ?ry4) ?rr4
  case ry4 => ((try dsimp only at hw2); go_simp <;> with_reducible rfl)
  simp only [Act.put, List.setIfInBounds_toArray, List.set_cons_zero, List.set_cons_succ]
  refine rg_take 1 (v := ?rv5) rfl (by kernel_rfl) (by kernel_rfl) (by kernel_rfl) (fun _ _ _ h => h) (by rfl) hS (fun w2 hw2 => ?ry5) ?rr5
  case ry5 => ((try dsimp only at hw2); go_simp <;> with_reducible rfl)
  simp only [Act.put, List.setIfInBounds_toArray, List.set_cons_zero, List.set_cons_succ]
  refine rg_take 3 (v := ?rv6) rfl (by kernel_rfl) (by kernel_rfl) (by kernel_rfl) (fun _ _ _ h => h) (by rfl) hS (fun w2 hw2 => ?ry6) ?rr6
  case ry6 => ((try dsimp only at hw2); go_simp <;> with_reducible rfl)
  simp only [Act.put, List.setIfInBounds_toArray, List.set_cons_zero, List.set_cons_succ]
  refine rg_take 6 (v := ?rv7) rfl (by kernel_rfl) (by kernel_rfl) (by kernel_rfl) (fun _ _ _ h => h) (by rfl) hS (fun w2 hw2 => ?ry7) ?rr7
  case ry7 => ((try dsimp only at hw2); go_simp <;> with_reducible rfl)
  simp only [Act.put, List.setIfInBounds_toArray, List.set_cons_zero, List.set_cons_succ]
  refine rg_take 8 (v := ?rv8) rfl (by kernel_rfl) (by kernel_rfl) (by kernel_rfl) (fun _ _ _ h => h) (by rfl) hS (fun w2 hw2 => ?ry8) ?rr8
  case ry8 => ((try dsimp only at hw2); go_simp <;> with_reducible rfl)
  simp only [Act.put, List.setIfInBounds_toArray, List.set_cons_zero, List.set_cons_succ]
  obtain ⟨W0, hW0⟩ : ∃ W0, W.drew = W0 := ⟨_, rfl⟩
  rw [hW0] at hS ⊢
  clear hW0
  refine rg_step 4 rfl (by kernel_rfl) (by rfl) (fun K hK => ?_)
  go_simp
  refine (HU2.out.1 _).out.mono ?_
  rintro e w1 ⟨rfl, rfl⟩
  refine hK.out _ _ hS ?_
  clear hK K
  try simp only [Act.put, List.setIfInBounds_toArray, List.set_cons_zero, List.set_cons_succ]
  refine rg_step 9 rfl (by kernel_rfl) (by rfl) (fun K hK => ?_)
  go_simp
  refine (HU2.out.2 _).out.mono ?_
  rintro e w1 ⟨rfl, rfl⟩
  refine hK.out _ _ hS ?_
  clear hK K
  try simp only [Act.put, List.setIfInBounds_toArray, List.set_cons_zero, List.set_cons_succ]
  refine rg_step 10 rfl (by kernel_rfl) (by rfl) (fun K hK => ?_)
  go_simp
  have hS2 := hS.alloc hS.size (.cells #[.int .i64 X, .int .i64 Y] 3)
  obtain ⟨Z, hZ⟩ : ∃ Z, Z = W0.heap.size := ⟨_, rfl⟩
  rw [← hZ]
  have HO := Lib.hid (or_any Z X Y (W0.alloc (.cells #[.int .i64 X, .int .i64 Y] 3)) (by rw [hZ]; simp) (by rw [hZ]; simp))
  obtain ⟨W1, hW1⟩ : ∃ W1, W0.alloc (.cells #[.int .i64 X, .int .i64 Y] 3) = W1 := ⟨_, rfl⟩
  rw [hW1] at HO hS2 ⊢
  clear hW1 hS hZ
  have hS := hS2
  clear hS2
  refine hK.out _ _ hS ?_
  clear hK K
  try simp only [Act.put, List.setIfInBounds_toArray, List.set_cons_zero, List.set_cons_succ]
  refine rg_step 11 rfl (by kernel_rfl) (by rfl) (fun K hK => ?_)
  go_simp
  refine HO.out.mono ?_
  rintro e w1 ⟨rfl, rfl⟩
  refine hK.out _ _ hS ?_
  clear hK K
  try simp only [Act.put, List.setIfInBounds_toArray, List.set_cons_zero, List.set_cons_succ]
  refine rg_take 12 (v := ?rv9) rfl (by kernel_rfl) (by kernel_rfl) (by kernel_rfl) (fun _ _ _ h => h) (by rfl) hS (fun w2 hw2 => ?ry9) ?rr9
  case ry9 => ((try dsimp only at hw2); go_simp <;> with_reducible rfl)
  simp only [Act.put, List.setIfInBounds_toArray, List.set_cons_zero, List.set_cons_succ]
  refine rg_done (by kernel_rfl) ?_
  go_wp2_with fail
  go_ret
  exact ⟨rfl, HB.out.trans (hS.mono HB.out.size)⟩
-->>
end Go.Proofs.YtdpmjbhkmfjpfaaDoor
