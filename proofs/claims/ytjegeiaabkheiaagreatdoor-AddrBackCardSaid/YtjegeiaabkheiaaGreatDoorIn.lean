/-
  Package addr's In. No conditions.
-/
import Derived.Test.YtjegeiaabkheiaaGreatDoorRNet
namespace Go.Proofs.YtjegeiaabkheiaaGreatDoor
open Go.RowKit
set_option maxRecDepth 100000

def inv (av : Bool) (bs : List UInt8) (pv : Bool) (ps : List UInt8) (n : Int) : Bool := rightv av bs && rightnetv pv ps n && (av == pv) && (firstv bs n.toNat == ps)
theorem rightnetv_bits {pv : Bool} {ps : List UInt8} {n : Int} (h : rightnetv pv ps n = true) : ∃ m : Nat, n = m ∧ m ≤ 128 := by
  unfold rightnetv at h
  simp only [Bool.and_eq_true, decide_eq_true_eq] at h
  have := wid_le pv
  exact ⟨n.toNat, by omega, by omega⟩

set_option maxHeartbeats 4000000 in
theorem In_any (av : Bool) (bs : List UInt8) (ha : bs.length = 16) (pv : Bool) (ps : List UInt8) (hp : ps.length = 16) (n : Int) (w : World) : Calls Tryz.prog 21 #[.agg (adv av bs), .agg (pxv pv ps n)] w fun e w' => e = .returned (.bool (inv av bs pv ps n)) ∧ Below w.heap.size w w' := by
  have A1 := Lib.hid ((AdBox.new w av ha).later ((Below.refl _ _).alloc (Nat.le_refl _) (.cells (pxv pv ps n) 26)) (Nat.le_refl _))
  have P1 := PxBox.new (w.alloc (.cells (adv av bs) 24)) pv n hp
  rw [World.size_alloc] at P1
  have P1 := Lib.hid P1
  have B1 := Lib.hid (((Below.refl w.heap.size w).alloc (Nat.le_refl _) (.cells (adv av bs) 24)).alloc (by simp) (.cells (pxv pv ps n) 26))
  cases hr : rightv av bs with
  | false =>
    have hres : inv av bs pv ps n = false := by unfold inv; rw [hr]; rfl
    rw [hres]
    clear hres
    go_enter Tryz.func21, Tryz.ntmps21
    go_wp2_with fail
    generalize hW : (w.alloc (.cells (adv av bs) 24)).alloc (.cells (pxv pv ps n) 26) = W at A1 P1 B1 ⊢
    clear hW
    have hcN : ∀ w', Below W.heap.size W w' → w'.cell? ⟨w.heap.size + 1, 17, none⟩ = some (.int .i64 n) := fun w' h => (P1.out.later h (Nat.le_refl _)).bits_cell
    have hcA : ∀ w', Below W.heap.size W w' → w'.cell? ⟨w.heap.size, 0, none⟩ = some (.bool av) := fun w' h => (A1.out.later h (Nat.le_refl _)).v6_cell
    have hcP : ∀ w', Below W.heap.size W w' → w'.cell? ⟨w.heap.size + 1, 0, none⟩ = some (.bool pv) := fun w' h => (P1.out.later h (Nat.le_refl _)).v6_cell
    have hS : Below W.heap.size W W.drew := (Below.refl _ _).drew
    refine rg_begin (fun w' => Below W.heap.size W w') 26 (by kernel_rfl) rfl ?_
    refine rg_load 0 rfl (by kernel_rfl) (by kernel_rfl) (by kernel_rfl) (w.heap.size) (0) ((adv av bs)) (fun _ _ _ h => h) (by rfl) 24 (.tmp 2) rfl rfl hS (fun w2 h2 => (A1.out.later h2 (Nat.le_refl _)).range) Tryz.underlying24 rfl (ad_size av ha) ?_
    simp only [Act.put, List.setIfInBounds_toArray, List.set_cons_zero, List.set_cons_succ]
    refine rg_step 1 rfl (by kernel_rfl) (by rfl) (fun K hK => ?_)
    go_simp
    refine (Right_any av bs ha _).mono ?_
    rw [hr]
    rintro e w1 ⟨rfl, b1⟩
    replace hS := hS.trans (b1.mono hS.size)
    clear b1
    refine hK.out _ _ hS ?_
    clear hK K
    try simp only [Act.put, List.setIfInBounds_toArray, List.set_cons_zero, List.set_cons_succ]
    refine rg_take 2 (v := ?rv1) rfl (by kernel_rfl) (by kernel_rfl) (by kernel_rfl) (fun _ _ _ h => h) (by rfl) hS (fun w2 hw2 => ?ry1) ?rr1
    case ry1 => ((try dsimp only at hw2); go_simp <;> with_reducible rfl)
    simp only [Act.put, List.setIfInBounds_toArray, List.set_cons_zero, List.set_cons_succ]
    refine rg_skip 3 rfl (by kernel_rfl) (by kernel_rfl) (by kernel_rfl) (fun _ _ _ h => h) (by rfl) hS ?_
    simp only [Act.put, List.setIfInBounds_toArray, List.set_cons_zero, List.set_cons_succ]
    refine rg_skip 4 rfl (by kernel_rfl) (by kernel_rfl) (by kernel_rfl) (fun _ _ _ h => h) (by rfl) hS ?_
    simp only [Act.put, List.setIfInBounds_toArray, List.set_cons_zero, List.set_cons_succ]
    refine rg_take 5 (v := ?rv2) rfl (by kernel_rfl) (by kernel_rfl) (by kernel_rfl) (fun _ _ _ h => h) (by rfl) hS (fun w2 hw2 => ?ry2) ?rr2
    case ry2 => ((try dsimp only at hw2); go_simp <;> with_reducible rfl)
    simp only [Act.put, List.setIfInBounds_toArray, List.set_cons_zero, List.set_cons_succ]
    refine rg_take 6 (v := ?rv3) rfl (by kernel_rfl) (by kernel_rfl) (by kernel_rfl) (fun _ _ _ h => h) (by rfl) hS (fun w2 hw2 => ?ry3) ?rr3
    case ry3 => ((try dsimp only at hw2); go_simp <;> with_reducible rfl)
    simp only [Act.put, List.setIfInBounds_toArray, List.set_cons_zero, List.set_cons_succ]
    refine rg_skip 7 rfl (by kernel_rfl) (by kernel_rfl) (by kernel_rfl) (fun _ _ _ h => h) (by rfl) hS ?_
    simp only [Act.put, List.setIfInBounds_toArray, List.set_cons_zero, List.set_cons_succ]
    refine rg_skip 9 rfl (by kernel_rfl) (by kernel_rfl) (by kernel_rfl) (fun _ _ _ h => h) (by rfl) hS ?_
    simp only [Act.put, List.setIfInBounds_toArray, List.set_cons_zero, List.set_cons_succ]
    refine rg_skip 8 rfl (by kernel_rfl) (by kernel_rfl) (by kernel_rfl) (fun _ _ _ h => h) (by rfl) hS ?_
    simp only [Act.put, List.setIfInBounds_toArray, List.set_cons_zero, List.set_cons_succ]
    refine rg_skip 10 rfl (by kernel_rfl) (by kernel_rfl) (by kernel_rfl) (fun _ _ _ h => h) (by rfl) hS ?_
    simp only [Act.put, List.setIfInBounds_toArray, List.set_cons_zero, List.set_cons_succ]
    refine rg_skip 11 rfl (by kernel_rfl) (by kernel_rfl) (by kernel_rfl) (fun _ _ _ h => h) (by rfl) hS ?_
    simp only [Act.put, List.setIfInBounds_toArray, List.set_cons_zero, List.set_cons_succ]
    refine rg_skip 12 rfl (by kernel_rfl) (by kernel_rfl) (by kernel_rfl) (fun _ _ _ h => h) (by rfl) hS ?_
    simp only [Act.put, List.setIfInBounds_toArray, List.set_cons_zero, List.set_cons_succ]
    refine rg_take 13 (v := ?rv4) rfl (by kernel_rfl) (by kernel_rfl) (by kernel_rfl) (fun _ _ _ h => h) (by rfl) hS (fun w2 hw2 => ?ry4) ?rr4
    case ry4 => ((try dsimp only at hw2); go_simp <;> with_reducible rfl)
    simp only [Act.put, List.setIfInBounds_toArray, List.set_cons_zero, List.set_cons_succ]
    refine rg_take 14 (v := ?rv5) rfl (by kernel_rfl) (by kernel_rfl) (by kernel_rfl) (fun _ _ _ h => h) (by rfl) hS (fun w2 hw2 => ?ry5) ?rr5
    case ry5 => ((try dsimp only at hw2); go_simp <;> with_reducible rfl)
    simp only [Act.put, List.setIfInBounds_toArray, List.set_cons_zero, List.set_cons_succ]
    refine rg_skip 15 rfl (by kernel_rfl) (by kernel_rfl) (by kernel_rfl) (fun _ _ _ h => h) (by rfl) hS ?_
    simp only [Act.put, List.setIfInBounds_toArray, List.set_cons_zero, List.set_cons_succ]
    refine rg_skip 17 rfl (by kernel_rfl) (by kernel_rfl) (by kernel_rfl) (fun _ _ _ h => h) (by rfl) hS ?_
    simp only [Act.put, List.setIfInBounds_toArray, List.set_cons_zero, List.set_cons_succ]
    refine rg_skip 20 rfl (by kernel_rfl) (by kernel_rfl) (by kernel_rfl) (fun _ _ _ h => h) (by rfl) hS ?_
    simp only [Act.put, List.setIfInBounds_toArray, List.set_cons_zero, List.set_cons_succ]
    refine rg_skip 16 rfl (by kernel_rfl) (by kernel_rfl) (by kernel_rfl) (fun _ _ _ h => h) (by rfl) hS ?_
    simp only [Act.put, List.setIfInBounds_toArray, List.set_cons_zero, List.set_cons_succ]
    refine rg_skip 18 rfl (by kernel_rfl) (by kernel_rfl) (by kernel_rfl) (fun _ _ _ h => h) (by rfl) hS ?_
    simp only [Act.put, List.setIfInBounds_toArray, List.set_cons_zero, List.set_cons_succ]
    refine rg_skip 21 rfl (by kernel_rfl) (by kernel_rfl) (by kernel_rfl) (fun _ _ _ h => h) (by rfl) hS ?_
    simp only [Act.put, List.setIfInBounds_toArray, List.set_cons_zero, List.set_cons_succ]
    refine rg_skip 22 rfl (by kernel_rfl) (by kernel_rfl) (by kernel_rfl) (fun _ _ _ h => h) (by rfl) hS ?_
    simp only [Act.put, List.setIfInBounds_toArray, List.set_cons_zero, List.set_cons_succ]
    refine rg_skip 19 rfl (by kernel_rfl) (by kernel_rfl) (by kernel_rfl) (fun _ _ _ h => h) (by rfl) hS ?_
    simp only [Act.put, List.setIfInBounds_toArray, List.set_cons_zero, List.set_cons_succ]
    refine rg_skip 23 rfl (by kernel_rfl) (by kernel_rfl) (by kernel_rfl) (fun _ _ _ h => h) (by rfl) hS ?_
    simp only [Act.put, List.setIfInBounds_toArray, List.set_cons_zero, List.set_cons_succ]
    refine rg_take 24 (v := ?rv6) rfl (by kernel_rfl) (by kernel_rfl) (by kernel_rfl) (fun _ _ _ h => h) (by rfl) hS (fun w2 hw2 => ?ry6) ?rr6
    case ry6 => ((try dsimp only at hw2); go_simp <;> with_reducible rfl)
    simp only [Act.put, List.setIfInBounds_toArray, List.set_cons_zero, List.set_cons_succ]
    refine rg_take 25 (v := ?rv7) rfl (by kernel_rfl) (by kernel_rfl) (by kernel_rfl) (fun _ _ _ h => h) (by rfl) hS (fun w2 hw2 => ?ry7) ?rr7
    case ry7 => ((try dsimp only at hw2); go_simp <;> with_reducible rfl)
    simp only [Act.put, List.setIfInBounds_toArray, List.set_cons_zero, List.set_cons_succ]
    refine rg_done (by kernel_rfl) ?_
    have H2 := Lib.hid (B1.out.trans (hS.mono B1.out.size))
    clear hS
    go_wp2_with fail
    go_ret
    exact ⟨rfl, H2.out⟩
  | true =>
    cases hrn : rightnetv pv ps n with
    | false =>
      have hres : inv av bs pv ps n = false := by unfold inv; rw [hr, hrn]; rfl
      rw [hres]
      clear hres
      go_enter Tryz.func21, Tryz.ntmps21
      go_wp2_with fail
      generalize hW : (w.alloc (.cells (adv av bs) 24)).alloc (.cells (pxv pv ps n) 26) = W at A1 P1 B1 ⊢
      clear hW
      have hcN : ∀ w', Below W.heap.size W w' → w'.cell? ⟨w.heap.size + 1, 17, none⟩ = some (.int .i64 n) := fun w' h => (P1.out.later h (Nat.le_refl _)).bits_cell
      have hcA : ∀ w', Below W.heap.size W w' → w'.cell? ⟨w.heap.size, 0, none⟩ = some (.bool av) := fun w' h => (A1.out.later h (Nat.le_refl _)).v6_cell
      have hcP : ∀ w', Below W.heap.size W w' → w'.cell? ⟨w.heap.size + 1, 0, none⟩ = some (.bool pv) := fun w' h => (P1.out.later h (Nat.le_refl _)).v6_cell
      have hS : Below W.heap.size W W.drew := (Below.refl _ _).drew
      refine rg_begin (fun w' => Below W.heap.size W w') 26 (by kernel_rfl) rfl ?_
      refine rg_load 0 rfl (by kernel_rfl) (by kernel_rfl) (by kernel_rfl) (w.heap.size) (0) ((adv av bs)) (fun _ _ _ h => h) (by rfl) 24 (.tmp 2) rfl rfl hS (fun w2 h2 => (A1.out.later h2 (Nat.le_refl _)).range) Tryz.underlying24 rfl (ad_size av ha) ?_
      simp only [Act.put, List.setIfInBounds_toArray, List.set_cons_zero, List.set_cons_succ]
      refine rg_step 1 rfl (by kernel_rfl) (by rfl) (fun K hK => ?_)
      go_simp
      refine (Right_any av bs ha _).mono ?_
      rw [hr]
      rintro e w1 ⟨rfl, b1⟩
      replace hS := hS.trans (b1.mono hS.size)
      clear b1
      refine hK.out _ _ hS ?_
      clear hK K
      try simp only [Act.put, List.setIfInBounds_toArray, List.set_cons_zero, List.set_cons_succ]
      refine rg_take 2 (v := ?rv8) rfl (by kernel_rfl) (by kernel_rfl) (by kernel_rfl) (fun _ _ _ h => h) (by rfl) hS (fun w2 hw2 => ?ry8) ?rr8
      case ry8 => ((try dsimp only at hw2); go_simp <;> with_reducible rfl)
      simp only [Act.put, List.setIfInBounds_toArray, List.set_cons_zero, List.set_cons_succ]
      refine rg_load 3 rfl (by kernel_rfl) (by kernel_rfl) (by kernel_rfl) (w.heap.size + 1) (0) ((pxv pv ps n)) (fun _ _ _ h => h) (by rfl) 26 (.tmp 3) rfl rfl hS (fun w2 h2 => (P1.out.later h2 (Nat.le_refl _)).range) Tryz.underlying26 rfl (px_size pv n hp) ?_
      simp only [Act.put, List.setIfInBounds_toArray, List.set_cons_zero, List.set_cons_succ]
      refine rg_step 4 rfl (by kernel_rfl) (by rfl) (fun K hK => ?_)
      go_simp
      refine (RightNet_any pv ps hp n _).mono ?_
      rw [hrn]
      rintro e w2 ⟨rfl, b2⟩
      replace hS := hS.trans (b2.mono hS.size)
      clear b2
      refine hK.out _ _ hS ?_
      clear hK K
      try simp only [Act.put, List.setIfInBounds_toArray, List.set_cons_zero, List.set_cons_succ]
      refine rg_take 5 (v := ?rv9) rfl (by kernel_rfl) (by kernel_rfl) (by kernel_rfl) (fun _ _ _ h => h) (by rfl) hS (fun w2 hw2 => ?ry9) ?rr9
      case ry9 => ((try dsimp only at hw2); go_simp <;> with_reducible rfl)
      simp only [Act.put, List.setIfInBounds_toArray, List.set_cons_zero, List.set_cons_succ]
      refine rg_take 6 (v := ?rv10) rfl (by kernel_rfl) (by kernel_rfl) (by kernel_rfl) (fun _ _ _ h => h) (by rfl) hS (fun w2 hw2 => ?ry10) ?rr10
      case ry10 => ((try dsimp only at hw2); go_simp <;> with_reducible rfl)
      simp only [Act.put, List.setIfInBounds_toArray, List.set_cons_zero, List.set_cons_succ]
      refine rg_skip 7 rfl (by kernel_rfl) (by kernel_rfl) (by kernel_rfl) (fun _ _ _ h => h) (by rfl) hS ?_
      simp only [Act.put, List.setIfInBounds_toArray, List.set_cons_zero, List.set_cons_succ]
      refine rg_skip 9 rfl (by kernel_rfl) (by kernel_rfl) (by kernel_rfl) (fun _ _ _ h => h) (by rfl) hS ?_
      simp only [Act.put, List.setIfInBounds_toArray, List.set_cons_zero, List.set_cons_succ]
      refine rg_skip 8 rfl (by kernel_rfl) (by kernel_rfl) (by kernel_rfl) (fun _ _ _ h => h) (by rfl) hS ?_
      simp only [Act.put, List.setIfInBounds_toArray, List.set_cons_zero, List.set_cons_succ]
      refine rg_skip 10 rfl (by kernel_rfl) (by kernel_rfl) (by kernel_rfl) (fun _ _ _ h => h) (by rfl) hS ?_
      simp only [Act.put, List.setIfInBounds_toArray, List.set_cons_zero, List.set_cons_succ]
      refine rg_skip 11 rfl (by kernel_rfl) (by kernel_rfl) (by kernel_rfl) (fun _ _ _ h => h) (by rfl) hS ?_
      simp only [Act.put, List.setIfInBounds_toArray, List.set_cons_zero, List.set_cons_succ]
      refine rg_skip 12 rfl (by kernel_rfl) (by kernel_rfl) (by kernel_rfl) (fun _ _ _ h => h) (by rfl) hS ?_
      simp only [Act.put, List.setIfInBounds_toArray, List.set_cons_zero, List.set_cons_succ]
      refine rg_take 13 (v := ?rv11) rfl (by kernel_rfl) (by kernel_rfl) (by kernel_rfl) (fun _ _ _ h => h) (by rfl) hS (fun w2 hw2 => ?ry11) ?rr11
      case ry11 => ((try dsimp only at hw2); go_simp <;> with_reducible rfl)
      simp only [Act.put, List.setIfInBounds_toArray, List.set_cons_zero, List.set_cons_succ]
      refine rg_take 14 (v := ?rv12) rfl (by kernel_rfl) (by kernel_rfl) (by kernel_rfl) (fun _ _ _ h => h) (by rfl) hS (fun w2 hw2 => ?ry12) ?rr12
      case ry12 => ((try dsimp only at hw2); go_simp <;> with_reducible rfl)
      simp only [Act.put, List.setIfInBounds_toArray, List.set_cons_zero, List.set_cons_succ]
      refine rg_skip 15 rfl (by kernel_rfl) (by kernel_rfl) (by kernel_rfl) (fun _ _ _ h => h) (by rfl) hS ?_
      simp only [Act.put, List.setIfInBounds_toArray, List.set_cons_zero, List.set_cons_succ]
      refine rg_skip 17 rfl (by kernel_rfl) (by kernel_rfl) (by kernel_rfl) (fun _ _ _ h => h) (by rfl) hS ?_
      simp only [Act.put, List.setIfInBounds_toArray, List.set_cons_zero, List.set_cons_succ]
      refine rg_skip 20 rfl (by kernel_rfl) (by kernel_rfl) (by kernel_rfl) (fun _ _ _ h => h) (by rfl) hS ?_
      simp only [Act.put, List.setIfInBounds_toArray, List.set_cons_zero, List.set_cons_succ]
      refine rg_skip 16 rfl (by kernel_rfl) (by kernel_rfl) (by kernel_rfl) (fun _ _ _ h => h) (by rfl) hS ?_
      simp only [Act.put, List.setIfInBounds_toArray, List.set_cons_zero, List.set_cons_succ]
      refine rg_skip 18 rfl (by kernel_rfl) (by kernel_rfl) (by kernel_rfl) (fun _ _ _ h => h) (by rfl) hS ?_
      simp only [Act.put, List.setIfInBounds_toArray, List.set_cons_zero, List.set_cons_succ]
      refine rg_skip 21 rfl (by kernel_rfl) (by kernel_rfl) (by kernel_rfl) (fun _ _ _ h => h) (by rfl) hS ?_
      simp only [Act.put, List.setIfInBounds_toArray, List.set_cons_zero, List.set_cons_succ]
      refine rg_skip 22 rfl (by kernel_rfl) (by kernel_rfl) (by kernel_rfl) (fun _ _ _ h => h) (by rfl) hS ?_
      simp only [Act.put, List.setIfInBounds_toArray, List.set_cons_zero, List.set_cons_succ]
      refine rg_skip 19 rfl (by kernel_rfl) (by kernel_rfl) (by kernel_rfl) (fun _ _ _ h => h) (by rfl) hS ?_
      simp only [Act.put, List.setIfInBounds_toArray, List.set_cons_zero, List.set_cons_succ]
      refine rg_skip 23 rfl (by kernel_rfl) (by kernel_rfl) (by kernel_rfl) (fun _ _ _ h => h) (by rfl) hS ?_
      simp only [Act.put, List.setIfInBounds_toArray, List.set_cons_zero, List.set_cons_succ]
      refine rg_take 24 (v := ?rv13) rfl (by kernel_rfl) (by kernel_rfl) (by kernel_rfl) (fun _ _ _ h => h) (by rfl) hS (fun w2 hw2 => ?ry13) ?rr13
      case ry13 => ((try dsimp only at hw2); go_simp <;> with_reducible rfl)
      simp only [Act.put, List.setIfInBounds_toArray, List.set_cons_zero, List.set_cons_succ]
      refine rg_take 25 (v := ?rv14) rfl (by kernel_rfl) (by kernel_rfl) (by kernel_rfl) (fun _ _ _ h => h) (by rfl) hS (fun w2 hw2 => ?ry14) ?rr14
      case ry14 => ((try dsimp only at hw2); go_simp <;> with_reducible rfl)
      simp only [Act.put, List.setIfInBounds_toArray, List.set_cons_zero, List.set_cons_succ]
      refine rg_done (by kernel_rfl) ?_
      have H2 := Lib.hid (B1.out.trans (hS.mono B1.out.size))
      clear hS
      go_wp2_with fail
      go_ret
      exact ⟨rfl, H2.out⟩
    | true =>
      by_cases hv : av = pv
      · subst hv
        obtain ⟨m, rfl, hm⟩ := rightnetv_bits hrn
        have heq := eql_arr (xs := firstv bs m) (ys := ps) (firstv_len bs m ▸ ha : (firstv bs m).length = 16) hp
        have hres : inv av bs av ps m = (firstv bs m == ps) := by unfold inv; rw [hr, hrn]; simp
        have hbb : (av == av) = true := by simp
        rw [hres]
        clear hres
        go_enter Tryz.func21, Tryz.ntmps21
        go_wp2_with fail
        generalize hW : (w.alloc (.cells (adv av bs) 24)).alloc (.cells (pxv av ps m) 26) = W at A1 P1 B1 ⊢
        clear hW
        have hcN : ∀ w', Below W.heap.size W w' → w'.cell? ⟨w.heap.size + 1, 17, none⟩ = some (.int .i64 m) := fun w' h => (P1.out.later h (Nat.le_refl _)).bits_cell
        have hcA : ∀ w', Below W.heap.size W w' → w'.cell? ⟨w.heap.size, 0, none⟩ = some (.bool av) := fun w' h => (A1.out.later h (Nat.le_refl _)).v6_cell
        have hcP : ∀ w', Below W.heap.size W w' → w'.cell? ⟨w.heap.size + 1, 0, none⟩ = some (.bool av) := fun w' h => (P1.out.later h (Nat.le_refl _)).v6_cell
        have hS : Below W.heap.size W W.drew := (Below.refl _ _).drew
        refine rg_begin (fun w' => Below W.heap.size W w') 26 (by kernel_rfl) rfl ?_
        refine rg_load 0 rfl (by kernel_rfl) (by kernel_rfl) (by kernel_rfl) (w.heap.size) (0) ((adv av bs)) (fun _ _ _ h => h) (by rfl) 24 (.tmp 2) rfl rfl hS (fun w2 h2 => (A1.out.later h2 (Nat.le_refl _)).range) Tryz.underlying24 rfl (ad_size av ha) ?_
        simp only [Act.put, List.setIfInBounds_toArray, List.set_cons_zero, List.set_cons_succ]
        refine rg_step 1 rfl (by kernel_rfl) (by rfl) (fun K hK => ?_)
        go_simp
        refine (Right_any av bs ha _).mono ?_
        rw [hr]
        rintro e w1 ⟨rfl, b1⟩
        replace hS := hS.trans (b1.mono hS.size)
        clear b1
        refine hK.out _ _ hS ?_
        clear hK K
        try simp only [Act.put, List.setIfInBounds_toArray, List.set_cons_zero, List.set_cons_succ]
        refine rg_take 2 (v := ?rv15) rfl (by kernel_rfl) (by kernel_rfl) (by kernel_rfl) (fun _ _ _ h => h) (by rfl) hS (fun w2 hw2 => ?ry15) ?rr15
        case ry15 => ((try dsimp only at hw2); go_simp <;> with_reducible rfl)
        simp only [Act.put, List.setIfInBounds_toArray, List.set_cons_zero, List.set_cons_succ]
        refine rg_load 3 rfl (by kernel_rfl) (by kernel_rfl) (by kernel_rfl) (w.heap.size + 1) (0) ((pxv av ps m)) (fun _ _ _ h => h) (by rfl) 26 (.tmp 3) rfl rfl hS (fun w2 h2 => (P1.out.later h2 (Nat.le_refl _)).range) Tryz.underlying26 rfl (px_size av m hp) ?_
        simp only [Act.put, List.setIfInBounds_toArray, List.set_cons_zero, List.set_cons_succ]
        refine rg_step 4 rfl (by kernel_rfl) (by rfl) (fun K hK => ?_)
        go_simp
        refine (RightNet_any av ps hp m _).mono ?_
        rw [hrn]
        rintro e w2 ⟨rfl, b2⟩
        replace hS := hS.trans (b2.mono hS.size)
        clear b2
        refine hK.out _ _ hS ?_
        clear hK K
        try simp only [Act.put, List.setIfInBounds_toArray, List.set_cons_zero, List.set_cons_succ]
        refine rg_take 5 (v := ?rv16) rfl (by kernel_rfl) (by kernel_rfl) (by kernel_rfl) (fun _ _ _ h => h) (by rfl) hS (fun w2 hw2 => ?ry16) ?rr16
        case ry16 => ((try dsimp only at hw2); go_simp <;> with_reducible rfl)
        simp only [Act.put, List.setIfInBounds_toArray, List.set_cons_zero, List.set_cons_succ]
        refine rg_take 6 (v := ?rv17) rfl (by kernel_rfl) (by kernel_rfl) (by kernel_rfl) (fun _ _ _ h => h) (by rfl) hS (fun w2 hw2 => ?ry17) ?rr17
        case ry17 => ((try dsimp only at hw2); go_simp <;> with_reducible rfl)
        simp only [Act.put, List.setIfInBounds_toArray, List.set_cons_zero, List.set_cons_succ]
        refine rg_take 7 (v := ?rv18) rfl (by kernel_rfl) (by kernel_rfl) (by kernel_rfl) (fun _ _ _ h => h) (by rfl) hS (fun w2 hw2 => ?ry18) ?rr18
        case ry18 => ((try dsimp only at hw2); go_simp <;> with_reducible rfl)
        simp only [Act.put, List.setIfInBounds_toArray, List.set_cons_zero, List.set_cons_succ]
        refine rg_take 9 (v := ?rv19) rfl (by kernel_rfl) (by kernel_rfl) (by kernel_rfl) (fun _ _ _ h => h) (by rfl) hS (fun w2 hw2 => ?ry19) ?rr19
        case ry19 => ((try dsimp only at hw2); go_simp <;> with_reducible rfl)
        simp only [Act.put, List.setIfInBounds_toArray, List.set_cons_zero, List.set_cons_succ]
        refine rg_take 8 (v := ?rv20) rfl (by kernel_rfl) (by kernel_rfl) (by kernel_rfl) (fun _ _ _ h => h) (by rfl) hS (fun w2 hw2 => ?ry20) ?rr20
        case ry20 => ((try dsimp only at hw2); go_simp <;> with_reducible rfl)
        simp only [Act.put, List.setIfInBounds_toArray, List.set_cons_zero, List.set_cons_succ]
        refine rg_take 10 (v := ?rv21) rfl (by kernel_rfl) (by kernel_rfl) (by kernel_rfl) (fun _ _ _ h => h) (by rfl) hS (fun w2 hw2 => ?ry21) ?rr21
        case ry21 => ((try dsimp only at hw2); go_simp <;> with_reducible rfl)
        simp only [Act.put, List.setIfInBounds_toArray, List.set_cons_zero, List.set_cons_succ]
        refine rg_take 11 (v := ?rv22) rfl (by kernel_rfl) (by kernel_rfl) (by kernel_rfl) (fun _ _ _ h => h) (by rfl) hS (fun w2 hw2 => ?ry22) ?rr22
        case ry22 => ((try dsimp only at hw2); go_simp <;> with_reducible rfl)
        simp only [Act.put, List.setIfInBounds_toArray, List.set_cons_zero, List.set_cons_succ]
        refine rg_take 12 (v := ?rv23) rfl (by kernel_rfl) (by kernel_rfl) (by kernel_rfl) (fun _ _ _ h => h) (by rfl) hS (fun w2 hw2 => ?ry23) ?rr23
        case ry23 => ((try dsimp only at hw2); go_simp <;> with_reducible rfl)
        simp only [Act.put, List.setIfInBounds_toArray, List.set_cons_zero, List.set_cons_succ]
        refine rg_take 13 (v := ?rv24) rfl (by kernel_rfl) (by kernel_rfl) (by kernel_rfl) (fun _ _ _ h => h) (by rfl) hS (fun w2 hw2 => ?ry24) ?rr24
        case ry24 => ((try dsimp only at hw2); go_simp <;> with_reducible rfl)
        simp only [Act.put, List.setIfInBounds_toArray, List.set_cons_zero, List.set_cons_succ]
        refine rg_take 14 (v := ?rv25) rfl (by kernel_rfl) (by kernel_rfl) (by kernel_rfl) (fun _ _ _ h => h) (by rfl) hS (fun w2 hw2 => ?ry25) ?rr25
        case ry25 => ((try dsimp only at hw2); go_simp <;> with_reducible rfl)
        simp only [Act.put, List.setIfInBounds_toArray, List.set_cons_zero, List.set_cons_succ]
        refine rg_take 15 (v := ?rv26) rfl (by kernel_rfl) (by kernel_rfl) (by kernel_rfl) (fun _ _ _ h => h) (by rfl) hS (fun w2 hw2 => ?ry26) ?rr26
        case ry26 => ((try dsimp only at hw2); go_simp <;> with_reducible rfl)
        simp only [Act.put, List.setIfInBounds_toArray, List.set_cons_zero, List.set_cons_succ]
        refine rg_take 17 (v := ?rv27) rfl (by kernel_rfl) (by kernel_rfl) (by kernel_rfl) (fun _ _ _ h => h) (by rfl) hS (fun w2 hw2 => ?ry27) ?rr27
        case ry27 => ((try dsimp only at hw2); go_simp <;> with_reducible rfl)
        simp only [Act.put, List.setIfInBounds_toArray, List.set_cons_zero, List.set_cons_succ]
        refine rg_take 20 (v := ?rv28) rfl (by kernel_rfl) (by kernel_rfl) (by kernel_rfl) (fun _ _ _ h => h) (by rfl) hS (fun w2 hw2 => ?ry28) ?rr28
        case ry28 => ((try dsimp only at hw2); go_simp <;> with_reducible rfl)
        simp only [Act.put, List.setIfInBounds_toArray, List.set_cons_zero, List.set_cons_succ]
        refine rg_load 16 rfl (by kernel_rfl) (by kernel_rfl) (by kernel_rfl) (w.heap.size) (1) ((bv bs).toArray) (fun _ _ _ h => h) (by rfl) 22 (.tmp 20) rfl rfl hS (fun w2 h2 => (A1.out.later h2 (Nat.le_refl _)).range1) Tryz.underlying22 rfl (arr_size ha) ?_
        simp only [Act.put, List.setIfInBounds_toArray, List.set_cons_zero, List.set_cons_succ]
        refine rg_take 18 (v := ?rv29) rfl (by kernel_rfl) (by kernel_rfl) (by kernel_rfl) (fun _ _ _ h => h) (by rfl) hS (fun w2 hw2 => ?ry29) ?rr29
        case ry29 => ((try dsimp only at hw2); go_simp <;> with_reducible rfl)
        simp only [Act.put, List.setIfInBounds_toArray, List.set_cons_zero, List.set_cons_succ]
        refine rg_take 21 (v := ?rv30) rfl (by kernel_rfl) (by kernel_rfl) (by kernel_rfl) (fun _ _ _ h => h) (by rfl) hS (fun w2 hw2 => ?ry30) ?rr30
        case ry30 => ((try dsimp only at hw2); go_simp <;> with_reducible rfl)
        simp only [Act.put, List.setIfInBounds_toArray, List.set_cons_zero, List.set_cons_succ]
        refine rg_load 22 rfl (by kernel_rfl) (by kernel_rfl) (by kernel_rfl) (w.heap.size + 1) (1) ((bv ps).toArray) (fun _ _ _ h => h) (by rfl) 22 (.tmp 26) rfl rfl hS (fun w2 h2 => (P1.out.later h2 (Nat.le_refl _)).range1) Tryz.underlying22 rfl (arr_size hp) ?_
        simp only [Act.put, List.setIfInBounds_toArray, List.set_cons_zero, List.set_cons_succ]
        refine rg_step 19 rfl (by kernel_rfl) (by rfl) (fun K hK => ?_)
        go_simp
        refine (first_any bs ha m hm _).mono ?_
        rintro e w3 ⟨rfl, b3⟩
        replace hS := hS.trans (b3.mono hS.size)
        clear b3
        refine hK.out _ _ hS ?_
        clear hK K
        try simp only [Act.put, List.setIfInBounds_toArray, List.set_cons_zero, List.set_cons_succ]
        refine rg_take 23 (v := ?rv31) rfl (by kernel_rfl) (by kernel_rfl) (by kernel_rfl) (fun _ _ _ h => h) (by rfl) hS (fun w2 hw2 => ?ry31) ?rr31
        case ry31 => ((try dsimp only at hw2); go_simp <;> with_reducible rfl)
        simp only [Act.put, List.setIfInBounds_toArray, List.set_cons_zero, List.set_cons_succ]
        refine rg_take 24 (v := ?rv32) rfl (by kernel_rfl) (by kernel_rfl) (by kernel_rfl) (fun _ _ _ h => h) (by rfl) hS (fun w2 hw2 => ?ry32) ?rr32
        case ry32 => ((try dsimp only at hw2); go_simp <;> with_reducible rfl)
        simp only [Act.put, List.setIfInBounds_toArray, List.set_cons_zero, List.set_cons_succ]
        refine rg_take 25 (v := ?rv33) rfl (by kernel_rfl) (by kernel_rfl) (by kernel_rfl) (fun _ _ _ h => h) (by rfl) hS (fun w2 hw2 => ?ry33) ?rr33
        case ry33 => ((try dsimp only at hw2); go_simp <;> with_reducible rfl)
        simp only [Act.put, List.setIfInBounds_toArray, List.set_cons_zero, List.set_cons_succ]
        refine rg_done (by kernel_rfl) ?_
        have H2 := Lib.hid (B1.out.trans (hS.mono B1.out.size))
        clear hS
        go_wp2_with fail
        go_ret
        exact ⟨rfl, H2.out⟩
      · have hbb : (av == pv) = false := by simpa using hv
        have hres : inv av bs pv ps n = false := by unfold inv; rw [hr, hrn, hbb]; rfl
        rw [hres]
        clear hres
        go_enter Tryz.func21, Tryz.ntmps21
        go_wp2_with fail
        generalize hW : (w.alloc (.cells (adv av bs) 24)).alloc (.cells (pxv pv ps n) 26) = W at A1 P1 B1 ⊢
        clear hW
        have hcN : ∀ w', Below W.heap.size W w' → w'.cell? ⟨w.heap.size + 1, 17, none⟩ = some (.int .i64 n) := fun w' h => (P1.out.later h (Nat.le_refl _)).bits_cell
        have hcA : ∀ w', Below W.heap.size W w' → w'.cell? ⟨w.heap.size, 0, none⟩ = some (.bool av) := fun w' h => (A1.out.later h (Nat.le_refl _)).v6_cell
        have hcP : ∀ w', Below W.heap.size W w' → w'.cell? ⟨w.heap.size + 1, 0, none⟩ = some (.bool pv) := fun w' h => (P1.out.later h (Nat.le_refl _)).v6_cell
        have hS : Below W.heap.size W W.drew := (Below.refl _ _).drew
        refine rg_begin (fun w' => Below W.heap.size W w') 26 (by kernel_rfl) rfl ?_
        refine rg_load 0 rfl (by kernel_rfl) (by kernel_rfl) (by kernel_rfl) (w.heap.size) (0) ((adv av bs)) (fun _ _ _ h => h) (by rfl) 24 (.tmp 2) rfl rfl hS (fun w2 h2 => (A1.out.later h2 (Nat.le_refl _)).range) Tryz.underlying24 rfl (ad_size av ha) ?_
        simp only [Act.put, List.setIfInBounds_toArray, List.set_cons_zero, List.set_cons_succ]
        refine rg_step 1 rfl (by kernel_rfl) (by rfl) (fun K hK => ?_)
        go_simp
        refine (Right_any av bs ha _).mono ?_
        rw [hr]
        rintro e w1 ⟨rfl, b1⟩
        replace hS := hS.trans (b1.mono hS.size)
        clear b1
        refine hK.out _ _ hS ?_
        clear hK K
        try simp only [Act.put, List.setIfInBounds_toArray, List.set_cons_zero, List.set_cons_succ]
        refine rg_take 2 (v := ?rv34) rfl (by kernel_rfl) (by kernel_rfl) (by kernel_rfl) (fun _ _ _ h => h) (by rfl) hS (fun w2 hw2 => ?ry34) ?rr34
        case ry34 => ((try dsimp only at hw2); go_simp <;> with_reducible rfl)
        simp only [Act.put, List.setIfInBounds_toArray, List.set_cons_zero, List.set_cons_succ]
        refine rg_load 3 rfl (by kernel_rfl) (by kernel_rfl) (by kernel_rfl) (w.heap.size + 1) (0) ((pxv pv ps n)) (fun _ _ _ h => h) (by rfl) 26 (.tmp 3) rfl rfl hS (fun w2 h2 => (P1.out.later h2 (Nat.le_refl _)).range) Tryz.underlying26 rfl (px_size pv n hp) ?_
        simp only [Act.put, List.setIfInBounds_toArray, List.set_cons_zero, List.set_cons_succ]
        refine rg_step 4 rfl (by kernel_rfl) (by rfl) (fun K hK => ?_)
        go_simp
        refine (RightNet_any pv ps hp n _).mono ?_
        rw [hrn]
        rintro e w2 ⟨rfl, b2⟩
        replace hS := hS.trans (b2.mono hS.size)
        clear b2
        refine hK.out _ _ hS ?_
        clear hK K
        try simp only [Act.put, List.setIfInBounds_toArray, List.set_cons_zero, List.set_cons_succ]
        refine rg_take 5 (v := ?rv35) rfl (by kernel_rfl) (by kernel_rfl) (by kernel_rfl) (fun _ _ _ h => h) (by rfl) hS (fun w2 hw2 => ?ry35) ?rr35
        case ry35 => ((try dsimp only at hw2); go_simp <;> with_reducible rfl)
        simp only [Act.put, List.setIfInBounds_toArray, List.set_cons_zero, List.set_cons_succ]
        refine rg_take 6 (v := ?rv36) rfl (by kernel_rfl) (by kernel_rfl) (by kernel_rfl) (fun _ _ _ h => h) (by rfl) hS (fun w2 hw2 => ?ry36) ?rr36
        case ry36 => ((try dsimp only at hw2); go_simp <;> with_reducible rfl)
        simp only [Act.put, List.setIfInBounds_toArray, List.set_cons_zero, List.set_cons_succ]
        refine rg_take 7 (v := ?rv37) rfl (by kernel_rfl) (by kernel_rfl) (by kernel_rfl) (fun _ _ _ h => h) (by rfl) hS (fun w2 hw2 => ?ry37) ?rr37
        case ry37 => ((try dsimp only at hw2); go_simp <;> with_reducible rfl)
        simp only [Act.put, List.setIfInBounds_toArray, List.set_cons_zero, List.set_cons_succ]
        refine rg_take 9 (v := ?rv38) rfl (by kernel_rfl) (by kernel_rfl) (by kernel_rfl) (fun _ _ _ h => h) (by rfl) hS (fun w2 hw2 => ?ry38) ?rr38
        case ry38 => ((try dsimp only at hw2); go_simp <;> with_reducible rfl)
        simp only [Act.put, List.setIfInBounds_toArray, List.set_cons_zero, List.set_cons_succ]
        refine rg_take 8 (v := ?rv39) rfl (by kernel_rfl) (by kernel_rfl) (by kernel_rfl) (fun _ _ _ h => h) (by rfl) hS (fun w2 hw2 => ?ry39) ?rr39
        case ry39 => ((try dsimp only at hw2); go_simp <;> with_reducible rfl)
        simp only [Act.put, List.setIfInBounds_toArray, List.set_cons_zero, List.set_cons_succ]
        refine rg_take 10 (v := ?rv40) rfl (by kernel_rfl) (by kernel_rfl) (by kernel_rfl) (fun _ _ _ h => h) (by rfl) hS (fun w2 hw2 => ?ry40) ?rr40
        case ry40 => ((try dsimp only at hw2); go_simp <;> with_reducible rfl)
        simp only [Act.put, List.setIfInBounds_toArray, List.set_cons_zero, List.set_cons_succ]
        refine rg_take 11 (v := ?rv41) rfl (by kernel_rfl) (by kernel_rfl) (by kernel_rfl) (fun _ _ _ h => h) (by rfl) hS (fun w2 hw2 => ?ry41) ?rr41
        case ry41 => ((try dsimp only at hw2); go_simp <;> with_reducible rfl)
        simp only [Act.put, List.setIfInBounds_toArray, List.set_cons_zero, List.set_cons_succ]
        refine rg_take 12 (v := ?rv42) rfl (by kernel_rfl) (by kernel_rfl) (by kernel_rfl) (fun _ _ _ h => h) (by rfl) hS (fun w2 hw2 => ?ry42) ?rr42
        case ry42 => ((try dsimp only at hw2); go_simp <;> with_reducible rfl)
        simp only [Act.put, List.setIfInBounds_toArray, List.set_cons_zero, List.set_cons_succ]
        refine rg_take 13 (v := ?rv43) rfl (by kernel_rfl) (by kernel_rfl) (by kernel_rfl) (fun _ _ _ h => h) (by rfl) hS (fun w2 hw2 => ?ry43) ?rr43
        case ry43 => ((try dsimp only at hw2); go_simp <;> with_reducible rfl)
        simp only [Act.put, List.setIfInBounds_toArray, List.set_cons_zero, List.set_cons_succ]
        refine rg_take 14 (v := ?rv44) rfl (by kernel_rfl) (by kernel_rfl) (by kernel_rfl) (fun _ _ _ h => h) (by rfl) hS (fun w2 hw2 => ?ry44) ?rr44
        case ry44 => ((try dsimp only at hw2); go_simp <;> with_reducible rfl)
        simp only [Act.put, List.setIfInBounds_toArray, List.set_cons_zero, List.set_cons_succ]
        refine rg_skip 15 rfl (by kernel_rfl) (by kernel_rfl) (by kernel_rfl) (fun _ _ _ h => h) (by rfl) hS ?_
        simp only [Act.put, List.setIfInBounds_toArray, List.set_cons_zero, List.set_cons_succ]
        refine rg_skip 17 rfl (by kernel_rfl) (by kernel_rfl) (by kernel_rfl) (fun _ _ _ h => h) (by rfl) hS ?_
        simp only [Act.put, List.setIfInBounds_toArray, List.set_cons_zero, List.set_cons_succ]
        refine rg_skip 20 rfl (by kernel_rfl) (by kernel_rfl) (by kernel_rfl) (fun _ _ _ h => h) (by rfl) hS ?_
        simp only [Act.put, List.setIfInBounds_toArray, List.set_cons_zero, List.set_cons_succ]
        refine rg_skip 16 rfl (by kernel_rfl) (by kernel_rfl) (by kernel_rfl) (fun _ _ _ h => h) (by rfl) hS ?_
        simp only [Act.put, List.setIfInBounds_toArray, List.set_cons_zero, List.set_cons_succ]
        refine rg_skip 18 rfl (by kernel_rfl) (by kernel_rfl) (by kernel_rfl) (fun _ _ _ h => h) (by rfl) hS ?_
        simp only [Act.put, List.setIfInBounds_toArray, List.set_cons_zero, List.set_cons_succ]
        refine rg_skip 21 rfl (by kernel_rfl) (by kernel_rfl) (by kernel_rfl) (fun _ _ _ h => h) (by rfl) hS ?_
        simp only [Act.put, List.setIfInBounds_toArray, List.set_cons_zero, List.set_cons_succ]
        refine rg_skip 22 rfl (by kernel_rfl) (by kernel_rfl) (by kernel_rfl) (fun _ _ _ h => h) (by rfl) hS ?_
        simp only [Act.put, List.setIfInBounds_toArray, List.set_cons_zero, List.set_cons_succ]
        refine rg_skip 19 rfl (by kernel_rfl) (by kernel_rfl) (by kernel_rfl) (fun _ _ _ h => h) (by rfl) hS ?_
        simp only [Act.put, List.setIfInBounds_toArray, List.set_cons_zero, List.set_cons_succ]
        refine rg_skip 23 rfl (by kernel_rfl) (by kernel_rfl) (by kernel_rfl) (fun _ _ _ h => h) (by rfl) hS ?_
        simp only [Act.put, List.setIfInBounds_toArray, List.set_cons_zero, List.set_cons_succ]
        refine rg_take 24 (v := ?rv45) rfl (by kernel_rfl) (by kernel_rfl) (by kernel_rfl) (fun _ _ _ h => h) (by rfl) hS (fun w2 hw2 => ?ry45) ?rr45
        case ry45 => ((try dsimp only at hw2); go_simp <;> with_reducible rfl)
        simp only [Act.put, List.setIfInBounds_toArray, List.set_cons_zero, List.set_cons_succ]
        refine rg_take 25 (v := ?rv46) rfl (by kernel_rfl) (by kernel_rfl) (by kernel_rfl) (fun _ _ _ h => h) (by rfl) hS (fun w2 hw2 => ?ry46) ?rr46
        case ry46 => ((try dsimp only at hw2); go_simp <;> with_reducible rfl)
        simp only [Act.put, List.setIfInBounds_toArray, List.set_cons_zero, List.set_cons_succ]
        refine rg_done (by kernel_rfl) ?_
        have H2 := Lib.hid (B1.out.trans (hS.mono B1.out.size))
        clear hS
        go_wp2_with fail
        go_ret
        exact ⟨rfl, H2.out⟩
end Go.Proofs.YtjegeiaabkheiaaGreatDoor
