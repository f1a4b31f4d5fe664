/-
  stockaderef01.Udp: the document's own answers on datagrams. Conditions: those of the slice; 2^47 bytes at most.
-/
import Derived.Test.YtkeggeiliachgaaDoorZ27
import Derived.Test.YtkeggeiliachgaaDoorZ26
import Derived.Test.YtkeggeiliachgaaDoorZ20
import Derived.Test.YtkeggeiliachgaaDoorZ04
import Derived.Test.YtkeggeiliachgaaDoorZ02
namespace Go.Proofs.YtkeggeiliachgaaDoor
open Go.RowKit
set_option maxRecDepth 100000

/-- What the reference of Parse hands back. -/
def ParUF (r : Dg × Fl) (w : World) (e : Ending) (w' : World) : Prop := ∃ A' n' c', e = .returned (.tuple #[.agg (dgv r.1 A' n' c'), .agg (flv r.2.code r.2.at_ r.2.placed)]) ∧ Bs w' A' n' c' r.1.pay ∧ Below w.heap.size w w'
set_option maxHeartbeats 4000000 in
theorem ref_udp {A : Option Addr} {n c : Nat} {l : List UInt8} {w : World} (hb : Bs w A n c l) (h47 : n ≤ 140737488350000) (sv dv : Bool) {sb db : List UInt8} (hsb : sb.length = 16) (hdb : db.length = 16) :
    Calls Tryd.prog 8 #[.slice A n c, .agg (adv sv sb), .agg (adv dv db)] w (ParUF (udpv sv (udpO (aheadL sv sb db 17) l) l n) w) := by
  have hl := hb.len
  have HB := Lib.hid hb
  have hcap := hb.cap
  have hmax := hb.max
  unfold maxLen at hmax
  have A1 := AdBox.new w sv hsb
  have B1 : Below w.heap.size w (w.alloc (.cells (adv sv sb) 25)) := (Below.refl _ _).alloc (Nat.le_refl _) _
  have A2 := AdBox.new (w.alloc (.cells (adv sv sb) 25)) dv hdb
  rw [World.size_alloc] at A2
  have B2 : Below (w.heap.size + 1) (w.alloc (.cells (adv sv sb) 25)) ((w.alloc (.cells (adv sv sb) 25)).alloc (.cells (adv dv db) 25)) := (Below.refl _ _).alloc (by simp) _
  have hA := And.intro (A1.later B2 (by simp)) (And.intro A2 (B1.trans (B2.mono (by omega))))
  obtain ⟨W, hW⟩ : ∃ W, (w.alloc (.cells (adv sv sb) 25)).alloc (.cells (adv dv db) 25) = W := ⟨_, rfl⟩
  rw [hW] at hA
  have HA := Lib.hid hA
  have HW := Lib.hid hW
  clear A1 B1 A2 B2 hA hW hb
  have kn := fun i (hi : i + 2 ≤ n) w1 (hb1 : Below w.heap.size w w1) => num_any (HB.out.later hb1 (Nat.le_refl _)) i 2 hi (by omega)
  have KN : Hid (∀ i, i + 2 ≤ n → ∀ w1, Below w.heap.size w w1 → Calls Tryd.prog 21 #[.slice A n c, .int .i64 i, .int .i64 (2 : Nat)] w1 fun e w' => e = .returned (.int .i64 (num2 l i)) ∧ w1 = w') := kn
  clear kn
  unfold udpv
  by_cases hs : n < 8
  · rw [if_pos hs]
    go_enter Tryd.func8, Tryd.ntmps8
    go_wp2_with (first
      | (rw [HW.out]; refine wpList_alloc_dg rfl rfl ?_; intro w1 a1 b1 z1; have H1 := Lib.hid (And.intro (HA.out.1.later b1 (Nat.le_refl _)) (And.intro (HA.out.2.1.later b1 (Nat.le_refl _)) (And.intro a1 (And.intro (HA.out.2.2.trans (b1.mono HA.out.2.2.size)) b1)))); clear a1 b1 z1)
      | (refine wpList_alloc_fl rfl rfl ?_; intro w2 a2 b2 z2; have H2 := Lib.hid (And.intro (H1.out.1.later b2 (Nat.le_refl _)) (And.intro (H1.out.2.1.later b2 (Nat.le_refl _)) (And.intro (H1.out.2.2.1.later b2 (Nat.le_refl _)) (And.intro a2 (H1.out.2.2.2.1.trans (b2.mono H1.out.2.2.2.1.size)))))); clear a2 b2 z2))
    refine (help_at 3 0 _).mono ?_
    rintro e w7 ⟨rfl, g7⟩
    have H7 := Lib.hid (And.intro (H2.out.2.2.1.later g7 (Nat.le_refl _)) (And.intro (H2.out.2.2.2.1.later g7 (Nat.le_refl _)) (H2.out.2.2.2.2.trans (g7.mono H2.out.2.2.2.2.size))))
    have hg : w.heap.size ≤ W.heap.size := HA.out.2.2.size
    have hg1 : W.heap.size < w1.heap.size := H1.out.2.2.1.lt
    have hg2 : w.heap.size ≤ w1.heap.size := by omega
    clear g7
    go_wp2_with (first
      | (refine wpList_store_dg rfl (.tmp 6) (.tmp 13) rfl .zero none 0 0 rfl rfl H7.out.1 ?_; intro w8 a8 o8 z8 b8; have H8 := Lib.hid (And.intro a8 (And.intro (H7.out.2.1.same (o8 _ (by omega))) (b8 w.heap.size w hg H7.out.2.2))); clear a8 o8 z8 b8)
      | (refine wpList_store_fl rfl (.tmp 7) (.tmp 14) rfl 3 0 true rfl rfl H8.out.2.1 ?_; intro w9 a9 o9 z9 b9; have H9 := Lib.hid (And.intro (H8.out.1.same (o9 _ (by omega))) (And.intro a9 (b9 w.heap.size w hg2 H8.out.2.2))); clear a9 o9 z9 b9))
    exact bodyPost_ret (results_dg_fl rfl _ rfl rfl H9.out.1 H9.out.2.1) rfl ⟨none, 0, 0, rfl, Bs.nil _, H9.out.2.2⟩
  rw [if_neg hs]
  obtain ⟨b0, off0, rfl, _⟩ := HB.out.here (by omega)
  unfold udpO
  have k4 := KN.out 4 (by omega)
  have hk16 := num2_lt l 4
  generalize num2 l 4 = k at k4 hk16 ⊢
  have K4 := Lib.hid k4
  clear k4
  by_cases h5 : k < 8
  · rw [if_pos (.inl h5)]
    have q5 : (k : Int) < 8 := by omega
    go_enter Tryd.func8, Tryd.ntmps8
    go_wp2_with (first
      | (rw [HW.out]; refine wpList_alloc_dg rfl rfl ?_; intro w1 a1 b1 z1; have H1 := Lib.hid (And.intro (HA.out.1.later b1 (Nat.le_refl _)) (And.intro (HA.out.2.1.later b1 (Nat.le_refl _)) (And.intro a1 (And.intro (HA.out.2.2.trans (b1.mono HA.out.2.2.size)) b1)))); clear a1 b1 z1)
      | (refine wpList_alloc_fl rfl rfl ?_; intro w2 a2 b2 z2; have H2 := Lib.hid (And.intro (H1.out.1.later b2 (Nat.le_refl _)) (And.intro (H1.out.2.1.later b2 (Nat.le_refl _)) (And.intro (H1.out.2.2.1.later b2 (Nat.le_refl _)) (And.intro a2 (H1.out.2.2.2.1.trans (b2.mono H1.out.2.2.2.1.size)))))); clear a2 b2 z2))
    refine (K4.out _ H2.out.2.2.2.2).mono ?_
    rintro e w' ⟨rfl, rfl⟩
    go_wp2_with fail
    refine (help_at 7 4 _).mono ?_
    rintro e w7 ⟨rfl, g7⟩
    have H7 := Lib.hid (And.intro (H2.out.2.2.1.later g7 (Nat.le_refl _)) (And.intro (H2.out.2.2.2.1.later g7 (Nat.le_refl _)) (H2.out.2.2.2.2.trans (g7.mono H2.out.2.2.2.2.size))))
    have hg : w.heap.size ≤ W.heap.size := HA.out.2.2.size
    have hg1 : W.heap.size < w1.heap.size := H1.out.2.2.1.lt
    have hg2 : w.heap.size ≤ w1.heap.size := by omega
    clear g7
    go_wp2_with (first
      | (refine wpList_store_dg rfl (.tmp 6) (.tmp 25) rfl .zero none 0 0 rfl rfl H7.out.1 ?_; intro w8 a8 o8 z8 b8; have H8 := Lib.hid (And.intro a8 (And.intro (H7.out.2.1.same (o8 _ (by omega))) (b8 w.heap.size w hg H7.out.2.2))); clear a8 o8 z8 b8)
      | (refine wpList_store_fl rfl (.tmp 7) (.tmp 26) rfl 7 4 true rfl rfl H8.out.2.1 ?_; intro w9 a9 o9 z9 b9; have H9 := Lib.hid (And.intro (H8.out.1.same (o9 _ (by omega))) (And.intro a9 (b9 w.heap.size w hg2 H8.out.2.2))); clear a9 o9 z9 b9))
    exact bodyPost_ret (results_dg_fl rfl _ rfl rfl H9.out.1 H9.out.2.1) rfl ⟨none, 0, 0, rfl, Bs.nil _, H9.out.2.2⟩
  have q5 : ¬ (k : Int) < 8 := by omega
  by_cases h6 : n < k
  · rw [if_pos (.inr h6)]
    have q6 : (n : Int) < (k : Int) := by omega
    go_enter Tryd.func8, Tryd.ntmps8
    go_wp2_with (first
      | (rw [HW.out]; refine wpList_alloc_dg rfl rfl ?_; intro w1 a1 b1 z1; have H1 := Lib.hid (And.intro (HA.out.1.later b1 (Nat.le_refl _)) (And.intro (HA.out.2.1.later b1 (Nat.le_refl _)) (And.intro a1 (And.intro (HA.out.2.2.trans (b1.mono HA.out.2.2.size)) b1)))); clear a1 b1 z1)
      | (refine wpList_alloc_fl rfl rfl ?_; intro w2 a2 b2 z2; have H2 := Lib.hid (And.intro (H1.out.1.later b2 (Nat.le_refl _)) (And.intro (H1.out.2.1.later b2 (Nat.le_refl _)) (And.intro (H1.out.2.2.1.later b2 (Nat.le_refl _)) (And.intro a2 (H1.out.2.2.2.1.trans (b2.mono H1.out.2.2.2.1.size)))))); clear a2 b2 z2))
    refine (K4.out _ H2.out.2.2.2.2).mono ?_
    rintro e w' ⟨rfl, rfl⟩
    go_wp2_with fail
    refine (help_at 7 4 _).mono ?_
    rintro e w7 ⟨rfl, g7⟩
    have H7 := Lib.hid (And.intro (H2.out.2.2.1.later g7 (Nat.le_refl _)) (And.intro (H2.out.2.2.2.1.later g7 (Nat.le_refl _)) (H2.out.2.2.2.2.trans (g7.mono H2.out.2.2.2.2.size))))
    have hg : w.heap.size ≤ W.heap.size := HA.out.2.2.size
    have hg1 : W.heap.size < w1.heap.size := H1.out.2.2.1.lt
    have hg2 : w.heap.size ≤ w1.heap.size := by omega
    clear g7
    go_wp2_with (first
      | (refine wpList_store_dg rfl (.tmp 6) (.tmp 25) rfl .zero none 0 0 rfl rfl H7.out.1 ?_; intro w8 a8 o8 z8 b8; have H8 := Lib.hid (And.intro a8 (And.intro (H7.out.2.1.same (o8 _ (by omega))) (b8 w.heap.size w hg H7.out.2.2))); clear a8 o8 z8 b8)
      | (refine wpList_store_fl rfl (.tmp 7) (.tmp 26) rfl 7 4 true rfl rfl H8.out.2.1 ?_; intro w9 a9 o9 z9 b9; have H9 := Lib.hid (And.intro (H8.out.1.same (o9 _ (by omega))) (And.intro a9 (b9 w.heap.size w hg2 H8.out.2.2))); clear a9 o9 z9 b9))
    exact bodyPost_ret (results_dg_fl rfl _ rfl rfl H9.out.1 H9.out.2.1) rfl ⟨none, 0, 0, rfl, Bs.nil _, H9.out.2.2⟩
  have q6 : ¬ (n : Int) < (k : Int) := by omega
  rw [if_neg (show ¬ (k < 8 ∨ n < k) by omega)]
  have hkn : k ≤ n := by omega
  have hk8 : 8 ≤ k := by omega
  have q7 : (k : Int) ≤ (c : Int) := by omega
  have q8 : (8 : Int) ≤ (k : Int) := by omega
  have ko := fun w1 (hb1 : Below w.heap.size w w1) => ref_over sv dv sb db hsb hdb 17 ((HB.out.first hkn).later hb1 (Nat.le_refl _)) (by omega)
  generalize cks (aheadL sv sb db 17 k ++ l.take k) = o at ko ⊢
  have KO := Lib.hid ko
  have k6 := KN.out 6 (by omega)
  obtain ⟨z, hz⟩ : ∃ z, num2 l 6 = z := ⟨_, rfl⟩
  have hbad : udpBad sv o l ↔ (z = 0 ∧ sv = true) ∨ (z ≠ 0 ∧ o ≠ 0) := by unfold udpBad; rw [hz]
  rw [hz] at k6
  clear hz
  have K6 := Lib.hid k6
  clear ko k6 h5 h6 hs
  by_cases h0 : z = 0
  · subst h0
    cases sv with
    | true =>
      rw [if_pos (hbad.2 (.inl ⟨rfl, rfl⟩))]
      go_enter Tryd.func8, Tryd.ntmps8
      go_wp2_with (first
        | (rw [HW.out]; refine wpList_alloc_dg rfl rfl ?_; intro w1 a1 b1 z1; have H1 := Lib.hid (And.intro (HA.out.1.later b1 (Nat.le_refl _)) (And.intro (HA.out.2.1.later b1 (Nat.le_refl _)) (And.intro a1 (And.intro (HA.out.2.2.trans (b1.mono HA.out.2.2.size)) b1)))); clear a1 b1 z1)
        | (refine wpList_alloc_fl rfl rfl ?_; intro w2 a2 b2 z2; have H2 := Lib.hid (And.intro (H1.out.1.later b2 (Nat.le_refl _)) (And.intro (H1.out.2.1.later b2 (Nat.le_refl _)) (And.intro (H1.out.2.2.1.later b2 (Nat.le_refl _)) (And.intro a2 (H1.out.2.2.2.1.trans (b2.mono H1.out.2.2.2.1.size)))))); clear a2 b2 z2))
      refine (K4.out _ H2.out.2.2.2.2).mono ?_
      rintro e w' ⟨rfl, rfl⟩
      go_wp2_with fail
      refine (K6.out _ H2.out.2.2.2.2).mono ?_
      rintro e w' ⟨rfl, rfl⟩
      go_wp2_with fail
      have rc : ∀ w', Below w2.heap.size w2 w' → w'.cell? ⟨w.heap.size, 0, none⟩ = some (.bool true) := fun w' h => (H2.out.1.later h (Nat.le_refl _)).v6_cell
      have hS : Below w2.heap.size w2 w2.drew := (Below.refl _ _).drew
      refine rg_begin (fun w' => Below w2.heap.size w2 w') 18 (by kernel_rfl) rfl ?_
      refine rg_take 0 (v := ?rv1) rfl (by kernel_rfl) (by kernel_rfl) (by kernel_rfl) (fun _ _ _ h => h) (by rfl) hS (fun w2 hw2 => ?ry1) ?rr1
      case ry1 => ((try dsimp only at hw2); go_simp <;> with_reducible rfl)
      simp only [Act.put, List.setIfInBounds_toArray, List.set_cons_zero, List.set_cons_succ]
      refine rg_take 1 (v := ?rv2) rfl (by kernel_rfl) (by kernel_rfl) (by kernel_rfl) (fun _ _ _ h => h) (by rfl) hS (fun w2 hw2 => ?ry2) ?rr2
      case ry2 => ((try dsimp only at hw2); go_simp <;> with_reducible rfl)
      simp only [Act.put, List.setIfInBounds_toArray, List.set_cons_zero, List.set_cons_succ]
      refine rg_take 2 (v := ?rv3) rfl (by kernel_rfl) (by kernel_rfl) (by kernel_rfl) (fun _ _ _ h => h) (by rfl) hS (fun w2 hw2 => ?ry3) ?rr3
      case ry3 => ((try dsimp only at hw2); go_simp <;> with_reducible rfl)
      simp only [Act.put, List.setIfInBounds_toArray, List.set_cons_zero, List.set_cons_succ]
      refine rg_take 3 (v := ?rv4) rfl (by kernel_rfl) (by kernel_rfl) (by kernel_rfl) (fun _ _ _ h => h) (by rfl) hS (fun w2 hw2 => ?ry4) ?rr4
      case ry4 => ((try dsimp only at hw2); go_simp <;> with_reducible rfl)
      simp only [Act.put, List.setIfInBounds_toArray, List.set_cons_zero, List.set_cons_succ]
      refine rg_take 4 (v := ?rv5) rfl (by kernel_rfl) (by kernel_rfl) (by kernel_rfl) (fun _ _ _ h => h) (by rfl) hS (fun w2 hw2 => ?ry5) ?rr5
      case ry5 => ((try dsimp only at hw2); go_simp <;> with_reducible rfl)
      simp only [Act.put, List.setIfInBounds_toArray, List.set_cons_zero, List.set_cons_succ]
      refine rg_take 5 (v := ?rv6) rfl (by kernel_rfl) (by kernel_rfl) (by kernel_rfl) (fun _ _ _ h => h) (by rfl) hS (fun w2 hw2 => ?ry6) ?rr6
      case ry6 => ((try dsimp only at hw2); go_simp <;> with_reducible rfl)
      simp only [Act.put, List.setIfInBounds_toArray, List.set_cons_zero, List.set_cons_succ]
      refine rg_skip 6 rfl (by kernel_rfl) (by kernel_rfl) (by kernel_rfl) (fun _ _ _ h => h) (by rfl) hS ?_
      simp only [Act.put, List.setIfInBounds_toArray, List.set_cons_zero, List.set_cons_succ]
      refine rg_skip 7 rfl (by kernel_rfl) (by kernel_rfl) (by kernel_rfl) (fun _ _ _ h => h) (by rfl) hS ?_
      simp only [Act.put, List.setIfInBounds_toArray, List.set_cons_zero, List.set_cons_succ]
      refine rg_skip 8 rfl (by kernel_rfl) (by kernel_rfl) (by kernel_rfl) (fun _ _ _ h => h) (by rfl) hS ?_
      simp only [Act.put, List.setIfInBounds_toArray, List.set_cons_zero, List.set_cons_succ]
      refine rg_skip 9 rfl (by kernel_rfl) (by kernel_rfl) (by kernel_rfl) (fun _ _ _ h => h) (by rfl) hS ?_
      simp only [Act.put, List.setIfInBounds_toArray, List.set_cons_zero, List.set_cons_succ]
      refine rg_skip 10 rfl (by kernel_rfl) (by kernel_rfl) (by kernel_rfl) (fun _ _ _ h => h) (by rfl) hS ?_
      simp only [Act.put, List.setIfInBounds_toArray, List.set_cons_zero, List.set_cons_succ]
      refine rg_skip 11 rfl (by kernel_rfl) (by kernel_rfl) (by kernel_rfl) (fun _ _ _ h => h) (by rfl) hS ?_
      simp only [Act.put, List.setIfInBounds_toArray, List.set_cons_zero, List.set_cons_succ]
      refine rg_skip 12 rfl (by kernel_rfl) (by kernel_rfl) (by kernel_rfl) (fun _ _ _ h => h) (by rfl) hS ?_
      simp only [Act.put, List.setIfInBounds_toArray, List.set_cons_zero, List.set_cons_succ]
      refine rg_skip 13 rfl (by kernel_rfl) (by kernel_rfl) (by kernel_rfl) (fun _ _ _ h => h) (by rfl) hS ?_
      simp only [Act.put, List.setIfInBounds_toArray, List.set_cons_zero, List.set_cons_succ]
      refine rg_skip 14 rfl (by kernel_rfl) (by kernel_rfl) (by kernel_rfl) (fun _ _ _ h => h) (by rfl) hS ?_
      simp only [Act.put, List.setIfInBounds_toArray, List.set_cons_zero, List.set_cons_succ]
      refine rg_skip 15 rfl (by kernel_rfl) (by kernel_rfl) (by kernel_rfl) (fun _ _ _ h => h) (by rfl) hS ?_
      simp only [Act.put, List.setIfInBounds_toArray, List.set_cons_zero, List.set_cons_succ]
      refine rg_skip 16 rfl (by kernel_rfl) (by kernel_rfl) (by kernel_rfl) (fun _ _ _ h => h) (by rfl) hS ?_
      simp only [Act.put, List.setIfInBounds_toArray, List.set_cons_zero, List.set_cons_succ]
      refine rg_take 17 (v := ?rv7) rfl (by kernel_rfl) (by kernel_rfl) (by kernel_rfl) (fun _ _ _ h => h) (by rfl) hS (fun w2 hw2 => ?ry7) ?rr7
      case ry7 => ((try dsimp only at hw2); go_simp <;> with_reducible rfl)
      simp only [Act.put, List.setIfInBounds_toArray, List.set_cons_zero, List.set_cons_succ]
      refine rg_done (by kernel_rfl) ?_
      have H3 := Lib.hid (And.intro (H2.out.2.2.1.later hS (Nat.le_refl _)) (And.intro (H2.out.2.2.2.1.later hS (Nat.le_refl _)) (H2.out.2.2.2.2.trans (hS.mono H2.out.2.2.2.2.size))))
      clear hS
      go_wp2_with fail
      refine (help_at 8 6 _).mono ?_
      rintro e w7 ⟨rfl, g7⟩
      have H7 := Lib.hid (And.intro (H3.out.1.later g7 (Nat.le_refl _)) (And.intro (H3.out.2.1.later g7 (Nat.le_refl _)) (H3.out.2.2.trans (g7.mono H3.out.2.2.size))))
      have hg : w.heap.size ≤ W.heap.size := HA.out.2.2.size
      have hg1 : W.heap.size < w1.heap.size := H1.out.2.2.1.lt
      have hg2 : w.heap.size ≤ w1.heap.size := by omega
      clear g7
      go_wp2_with (first
        | (refine wpList_store_dg rfl (.tmp 6) (.tmp 48) rfl .zero none 0 0 rfl rfl H7.out.1 ?_; intro w8 a8 o8 z8 b8; have H8 := Lib.hid (And.intro a8 (And.intro (H7.out.2.1.same (o8 _ (by omega))) (b8 w.heap.size w hg H7.out.2.2))); clear a8 o8 z8 b8)
        | (refine wpList_store_fl rfl (.tmp 7) (.tmp 49) rfl 8 6 true rfl rfl H8.out.2.1 ?_; intro w9 a9 o9 z9 b9; have H9 := Lib.hid (And.intro (H8.out.1.same (o9 _ (by omega))) (And.intro a9 (b9 w.heap.size w hg2 H8.out.2.2))); clear a9 o9 z9 b9))
      exact bodyPost_ret (results_dg_fl rfl _ rfl rfl H9.out.1 H9.out.2.1) rfl ⟨none, 0, 0, rfl, Bs.nil _, H9.out.2.2⟩
    | false =>
      rw [if_neg (fun h => by have := hbad.1 h; simp at this)]
      go_enter Tryd.func8, Tryd.ntmps8
      go_wp2_with (first
        | (rw [HW.out]; refine wpList_alloc_dg rfl rfl ?_; intro w1 a1 b1 z1; have H1 := Lib.hid (And.intro (HA.out.1.later b1 (Nat.le_refl _)) (And.intro (HA.out.2.1.later b1 (Nat.le_refl _)) (And.intro a1 (And.intro (HA.out.2.2.trans (b1.mono HA.out.2.2.size)) b1)))); clear a1 b1 z1)
        | (refine wpList_alloc_fl rfl rfl ?_; intro w2 a2 b2 z2; have H2 := Lib.hid (And.intro (H1.out.1.later b2 (Nat.le_refl _)) (And.intro (H1.out.2.1.later b2 (Nat.le_refl _)) (And.intro (H1.out.2.2.1.later b2 (Nat.le_refl _)) (And.intro a2 (H1.out.2.2.2.1.trans (b2.mono H1.out.2.2.2.1.size)))))); clear a2 b2 z2))
      refine (K4.out _ H2.out.2.2.2.2).mono ?_
      rintro e w' ⟨rfl, rfl⟩
      go_wp2_with fail
      refine (K6.out _ H2.out.2.2.2.2).mono ?_
      rintro e w' ⟨rfl, rfl⟩
      go_wp2_with fail
      have rc : ∀ w', Below w2.heap.size w2 w' → w'.cell? ⟨w.heap.size, 0, none⟩ = some (.bool false) := fun w' h => (H2.out.1.later h (Nat.le_refl _)).v6_cell
      have hS : Below w2.heap.size w2 w2.drew := (Below.refl _ _).drew
      refine rg_begin (fun w' => Below w2.heap.size w2 w') 18 (by kernel_rfl) rfl ?_
      refine rg_take 0 (v := ?rv8) rfl (by kernel_rfl) (by kernel_rfl) (by kernel_rfl) (fun _ _ _ h => h) (by rfl) hS (fun w2 hw2 => ?ry8) ?rr8
      case ry8 => ((try dsimp only at hw2); go_simp <;> with_reducible rfl)
      simp only [Act.put, List.setIfInBounds_toArray, List.set_cons_zero, List.set_cons_succ]
      refine rg_take 1 (v := ?rv9) rfl (by kernel_rfl) (by kernel_rfl) (by kernel_rfl) (fun _ _ _ h => h) (by rfl) hS (fun w2 hw2 => ?ry9) ?rr9
      case ry9 => ((try dsimp only at hw2); go_simp <;> with_reducible rfl)
      simp only [Act.put, List.setIfInBounds_toArray, List.set_cons_zero, List.set_cons_succ]
      refine rg_take 2 (v := ?rv10) rfl (by kernel_rfl) (by kernel_rfl) (by kernel_rfl) (fun _ _ _ h => h) (by rfl) hS (fun w2 hw2 => ?ry10) ?rr10
      case ry10 => ((try dsimp only at hw2); go_simp <;> with_reducible rfl)
      simp only [Act.put, List.setIfInBounds_toArray, List.set_cons_zero, List.set_cons_succ]
      refine rg_take 3 (v := ?rv11) rfl (by kernel_rfl) (by kernel_rfl) (by kernel_rfl) (fun _ _ _ h => h) (by rfl) hS (fun w2 hw2 => ?ry11) ?rr11
      case ry11 => ((try dsimp only at hw2); go_simp <;> with_reducible rfl)
      simp only [Act.put, List.setIfInBounds_toArray, List.set_cons_zero, List.set_cons_succ]
      refine rg_take 4 (v := ?rv12) rfl (by kernel_rfl) (by kernel_rfl) (by kernel_rfl) (fun _ _ _ h => h) (by rfl) hS (fun w2 hw2 => ?ry12) ?rr12
      case ry12 => ((try dsimp only at hw2); go_simp <;> with_reducible rfl)
      simp only [Act.put, List.setIfInBounds_toArray, List.set_cons_zero, List.set_cons_succ]
      refine rg_take 5 (v := ?rv13) rfl (by kernel_rfl) (by kernel_rfl) (by kernel_rfl) (fun _ _ _ h => h) (by rfl) hS (fun w2 hw2 => ?ry13) ?rr13
      case ry13 => ((try dsimp only at hw2); go_simp <;> with_reducible rfl)
      simp only [Act.put, List.setIfInBounds_toArray, List.set_cons_zero, List.set_cons_succ]
      refine rg_take 6 (v := ?rv14) rfl (by kernel_rfl) (by kernel_rfl) (by kernel_rfl) (fun _ _ _ h => h) (by rfl) hS (fun w2 hw2 => ?ry14) ?rr14
      case ry14 => ((try dsimp only at hw2); go_simp <;> with_reducible rfl)
      simp only [Act.put, List.setIfInBounds_toArray, List.set_cons_zero, List.set_cons_succ]
      refine rg_take 7 (v := ?rv15) rfl (by kernel_rfl) (by kernel_rfl) (by kernel_rfl) (fun _ _ _ h => h) (by rfl) hS (fun w2 hw2 => ?ry15) ?rr15
      case ry15 => ((try dsimp only at hw2); go_simp <;> with_reducible rfl)
      simp only [Act.put, List.setIfInBounds_toArray, List.set_cons_zero, List.set_cons_succ]
      refine rg_take 8 (v := ?rv16) rfl (by kernel_rfl) (by kernel_rfl) (by kernel_rfl) (fun _ _ _ h => h) (by rfl) hS (fun w2 hw2 => ?ry16) ?rr16
      case ry16 => ((try dsimp only at hw2); go_simp <;> with_reducible rfl)
      simp only [Act.put, List.setIfInBounds_toArray, List.set_cons_zero, List.set_cons_succ]
      refine rg_skip 9 rfl (by kernel_rfl) (by kernel_rfl) (by kernel_rfl) (fun _ _ _ h => h) (by rfl) hS ?_
      simp only [Act.put, List.setIfInBounds_toArray, List.set_cons_zero, List.set_cons_succ]
      refine rg_skip 10 rfl (by kernel_rfl) (by kernel_rfl) (by kernel_rfl) (fun _ _ _ h => h) (by rfl) hS ?_
      simp only [Act.put, List.setIfInBounds_toArray, List.set_cons_zero, List.set_cons_succ]
      refine rg_skip 11 rfl (by kernel_rfl) (by kernel_rfl) (by kernel_rfl) (fun _ _ _ h => h) (by rfl) hS ?_
      simp only [Act.put, List.setIfInBounds_toArray, List.set_cons_zero, List.set_cons_succ]
      refine rg_skip 12 rfl (by kernel_rfl) (by kernel_rfl) (by kernel_rfl) (fun _ _ _ h => h) (by rfl) hS ?_
      simp only [Act.put, List.setIfInBounds_toArray, List.set_cons_zero, List.set_cons_succ]
      refine rg_skip 13 rfl (by kernel_rfl) (by kernel_rfl) (by kernel_rfl) (fun _ _ _ h => h) (by rfl) hS ?_
      simp only [Act.put, List.setIfInBounds_toArray, List.set_cons_zero, List.set_cons_succ]
      refine rg_skip 14 rfl (by kernel_rfl) (by kernel_rfl) (by kernel_rfl) (fun _ _ _ h => h) (by rfl) hS ?_
      simp only [Act.put, List.setIfInBounds_toArray, List.set_cons_zero, List.set_cons_succ]
      refine rg_skip 15 rfl (by kernel_rfl) (by kernel_rfl) (by kernel_rfl) (fun _ _ _ h => h) (by rfl) hS ?_
      simp only [Act.put, List.setIfInBounds_toArray, List.set_cons_zero, List.set_cons_succ]
      refine rg_take 16 (v := ?rv17) rfl (by kernel_rfl) (by kernel_rfl) (by kernel_rfl) (fun _ _ _ h => h) (by rfl) hS (fun w2 hw2 => ?ry17) ?rr17
      case ry17 => ((try dsimp only at hw2); go_simp <;> with_reducible rfl)
      simp only [Act.put, List.setIfInBounds_toArray, List.set_cons_zero, List.set_cons_succ]
      refine rg_take 17 (v := ?rv18) rfl (by kernel_rfl) (by kernel_rfl) (by kernel_rfl) (fun _ _ _ h => h) (by rfl) hS (fun w2 hw2 => ?ry18) ?rr18
      case ry18 => ((try dsimp only at hw2); go_simp <;> with_reducible rfl)
      simp only [Act.put, List.setIfInBounds_toArray, List.set_cons_zero, List.set_cons_succ]
      refine rg_done (by kernel_rfl) ?_
      have H3 := Lib.hid (And.intro (H2.out.2.2.1.later hS (Nat.le_refl _)) (And.intro (H2.out.2.2.2.1.later hS (Nat.le_refl _)) (H2.out.2.2.2.2.trans (hS.mono H2.out.2.2.2.2.size))))
      clear hS
      obtain ⟨wx, hwx⟩ : ∃ wx, w2.drew = wx := ⟨_, rfl⟩
      rw [hwx] at H3 ⊢
      clear hwx
      have q3 : c = 8 ∨ ¬ c = 8 := by omega
      rcases q3 with q3 | q3
      · obtain rfl : c = 8 := q3
        obtain rfl : k = 8 := by omega
        obtain rfl : n = 8 := by omega
        have hp0 := Bs.empty w (some ⟨b0, off0, none⟩) (c := 0) (by unfold maxLen; omega) (by simp)
        have HP := Lib.hid hp0
        clear hp0
        go_wp2_with fail
        have hS : Below w.heap.size w wx.drew := H3.out.2.2.drew
        refine rg_begin (fun w' => Below w.heap.size w w') 12 (by kernel_rfl) rfl ?_
        refine rg_take 0 (v := ?rv19) rfl (by kernel_rfl) (by kernel_rfl) (by kernel_rfl) (fun _ _ _ h => h) (by rfl) hS (fun w2 hw2 => ?ry19) ?rr19
        case ry19 => ((try dsimp only at hw2); go_simp <;> with_reducible rfl)
        simp only [Act.put, List.setIfInBounds_toArray, List.set_cons_zero, List.set_cons_succ]
        refine rg_take 2 (v := ?rv20) rfl (by kernel_rfl) (by kernel_rfl) (by kernel_rfl) (fun _ _ _ h => h) (by rfl) hS (fun w2 hw2 => ?ry20) ?rr20
        case ry20 => ((try dsimp only at hw2); go_simp <;> with_reducible rfl)
        simp only [Act.put, List.setIfInBounds_toArray, List.set_cons_zero, List.set_cons_succ]
        refine rg_take 4 (v := ?rv21) rfl (by kernel_rfl) (by kernel_rfl) (by kernel_rfl) (fun _ _ _ h => h) (by rfl) hS (fun w2 hw2 => ?ry21) ?rr21
        case ry21 => ((try dsimp only at hw2); go_simp <;> with_reducible rfl)
        simp only [Act.put, List.setIfInBounds_toArray, List.set_cons_zero, List.set_cons_succ]
        refine rg_take 5 (v := ?rv22) rfl (by kernel_rfl) (by kernel_rfl) (by kernel_rfl) (fun _ _ _ h => h) (by rfl) hS (fun w2 hw2 => ?ry22) ?rr22
        case ry22 => ((try dsimp only at hw2); go_simp <;> with_reducible rfl)
        simp only [Act.put, List.setIfInBounds_toArray, List.set_cons_zero, List.set_cons_succ]
        refine rg_take 6 (v := ?rv23) rfl (by kernel_rfl) (by kernel_rfl) (by kernel_rfl) (fun _ _ _ h => h) (by rfl) hS (fun w2 hw2 => ?ry23) ?rr23
        case ry23 => ((try dsimp only at hw2); go_simp <;> with_reducible rfl)
        simp only [Act.put, List.setIfInBounds_toArray, List.set_cons_zero, List.set_cons_succ]
        refine rg_take 9 (v := ?rv24) rfl (by kernel_rfl) (by kernel_rfl) (by kernel_rfl) (fun _ _ _ h => h) (by rfl) hS (fun w2 hw2 => ?ry24) ?rr24
        case ry24 => ((try dsimp only at hw2); go_simp <;> with_reducible rfl)
        simp only [Act.put, List.setIfInBounds_toArray, List.set_cons_zero, List.set_cons_succ]
        refine rg_step 1 rfl (by kernel_rfl) (by rfl) (fun K hK => ?_)
        go_simp
        refine (KN.out 0 (by omega) _ hS).mono ?_
        rintro e w' ⟨rfl, rfl⟩
        refine hK.out _ _ hS ?_
        clear hK K
        try simp only [Act.put, List.setIfInBounds_toArray, List.set_cons_zero, List.set_cons_succ]
        refine rg_step 3 rfl (by kernel_rfl) (by rfl) (fun K hK => ?_)
        go_simp
        refine (KN.out 2 (by omega) _ hS).mono ?_
        rintro e w' ⟨rfl, rfl⟩
        refine hK.out _ _ hS ?_
        clear hK K
        try simp only [Act.put, List.setIfInBounds_toArray, List.set_cons_zero, List.set_cons_succ]
        refine rg_step 7 rfl (by kernel_rfl) (by rfl) (fun K hK => ?_)
        refine wp_append_bs (.const (.slice none 0 0)) (.tmp 56) 22 rfl wx.drew.heap.size 5 info5 Tryd.underlying22 _ 0 [] rfl (World.ownsRow_nil _ _ _ _) _ _ _ _ rfl (HP.out.later hS (Nat.le_refl _)) (by omega) (Nat.le_refl _) ?_
        intro v4 w4 o4 g4 _ _
        have b4 : Below wx.drew.heap.size wx.drew w4 := (Below.refl _ _).grown g4 (Nat.le_refl _) (fun q hq => by cases hq)
        obtain ⟨A4, c4, rfl, hB4⟩ := Bs.of_own o4
        replace hS : Below w.heap.size w w4 := hS.trans (b4.mono hS.size)
        have H4 := Lib.hid (And.intro (H3.out.1.later ((Below.refl wx.heap.size wx).drew.trans b4) (Nat.le_refl _)) (And.intro (H3.out.2.1.later ((Below.refl wx.heap.size wx).drew.trans b4) (Nat.le_refl _)) (And.intro o4 (show wx.heap.size ≤ wx.drew.heap.size from Nat.le_refl _))))
        clear o4 g4 b4 hB4
        refine hK.out _ _ hS ?_
        clear hK K
        try simp only [Act.put, List.setIfInBounds_toArray, List.set_cons_zero, List.set_cons_succ]
        refine rg_step 8 rfl (by kernel_rfl) (by rfl) (fun K hK => ?_)
        refine wp_build_dg (.tmp 51) (.tmp 53) (.tmp 57) rfl ⟨num2 l 0, num2 l 2, []⟩ A4 _ c4 rfl rfl rfl ?_
        refine hK.out _ _ hS ?_
        clear hK K
        try simp only [Act.put, List.setIfInBounds_toArray, List.set_cons_zero, List.set_cons_succ]
        refine rg_step 10 rfl (by kernel_rfl) (by rfl) (fun K hK => ?_)
        refine wp_store_dgF (.tmp 6) (.tmp 58) rfl ⟨num2 l 0, num2 l 2, []⟩ A4 _ c4 rfl rfl H4.out.1 ?_
        intro w5 a5 o5 b5
        have hlt1 : W.heap.size < w1.heap.size := H1.out.2.2.1.lt
        have hlt2 : w1.heap.size < wx.heap.size := H3.out.2.1.lt
        replace hS : Below w.heap.size w w5 := b5 _ _ HA.out.2.2.size hS
        have H5 := Lib.hid (And.intro a5 (And.intro (H4.out.2.1.same (o5 _ (by omega))) (And.intro (own_same' H4.out.2.2.1 fun j hj => o5 j (by have := H4.out.2.2.2; omega)) hlt2)))
        have hg2 : w.heap.size ≤ w1.heap.size := by have := HA.out.2.2.size; omega
        clear a5 o5 b5 hlt2
        refine hK.out _ _ hS ?_
        clear hK K
        simp only [Act.put]
        refine rg_step 11 rfl (by kernel_rfl) (by rfl) (fun K hK => ?_)
        refine wp_store_flF (.tmp 7) (.tmp 59) rfl 0 0 false rfl rfl H5.out.2.1 ?_
        intro w6 a6 o6 b6
        replace hS : Below w.heap.size w w6 := b6 _ _ hg2 hS
        have H6 := Lib.hid (And.intro (H5.out.1.same (o6 _ (by omega))) (And.intro a6 (And.intro (Bs.own_later H5.out.2.2.1 fun j hj => o6 j (by have := H5.out.2.2.2; have := H4.out.2.2.2; omega)) hS)))
        clear a6 o6 b6
        refine hK.out _ _ hS ?_
        clear hK K
        simp only [Act.put]
        refine rg_done (by kernel_rfl) ?_
        clear hS
        go_wp2_with fail
        exact bodyPost_ret (results_dg_fl rfl _ rfl rfl H6.out.1 H6.out.2.1) rfl ⟨A4, _, c4, rfl, H6.out.2.2.1, H6.out.2.2.2⟩
      · have hcut := (HB.out.first hkn).cut (i := 8) (k := k - 8) (by omega) (A' := some ⟨b0, off0 + 8, none⟩) (fun _ => by simp [add_plain]) (by simp)
        rw [List.take_of_length_le (by rw [List.length_drop, List.length_take]; omega)] at hcut
        have HP := Lib.hid hcut
        clear hcut
        go_wp2_with fail
        have hS : Below w.heap.size w wx.drew := H3.out.2.2.drew
        refine rg_begin (fun w' => Below w.heap.size w w') 12 (by kernel_rfl) rfl ?_
        refine rg_take 0 (v := ?rv25) rfl (by kernel_rfl) (by kernel_rfl) (by kernel_rfl) (fun _ _ _ h => h) (by rfl) hS (fun w2 hw2 => ?ry25) ?rr25
        case ry25 => ((try dsimp only at hw2); go_simp <;> with_reducible rfl)
        simp only [Act.put, List.setIfInBounds_toArray, List.set_cons_zero, List.set_cons_succ]
        refine rg_take 2 (v := ?rv26) rfl (by kernel_rfl) (by kernel_rfl) (by kernel_rfl) (fun _ _ _ h => h) (by rfl) hS (fun w2 hw2 => ?ry26) ?rr26
        case ry26 => ((try dsimp only at hw2); go_simp <;> with_reducible rfl)
        simp only [Act.put, List.setIfInBounds_toArray, List.set_cons_zero, List.set_cons_succ]
        refine rg_take 4 (v := ?rv27) rfl (by kernel_rfl) (by kernel_rfl) (by kernel_rfl) (fun _ _ _ h => h) (by rfl) hS (fun w2 hw2 => ?ry27) ?rr27
        case ry27 => ((try dsimp only at hw2); go_simp <;> with_reducible rfl)
        simp only [Act.put, List.setIfInBounds_toArray, List.set_cons_zero, List.set_cons_succ]
        refine rg_take 5 (v := ?rv28) rfl (by kernel_rfl) (by kernel_rfl) (by kernel_rfl) (fun _ _ _ h => h) (by rfl) hS (fun w2 hw2 => ?ry28) ?rr28
        case ry28 => ((try dsimp only at hw2); go_simp <;> with_reducible rfl)
        simp only [Act.put, List.setIfInBounds_toArray, List.set_cons_zero, List.set_cons_succ]
        refine rg_take 6 (v := ?rv29) rfl (by kernel_rfl) (by kernel_rfl) (by kernel_rfl) (fun _ _ _ h => h) (by rfl) hS (fun w2 hw2 => ?ry29) ?rr29
        case ry29 => ((try dsimp only at hw2); go_simp <;> with_reducible rfl)
        simp only [Act.put, List.setIfInBounds_toArray, List.set_cons_zero, List.set_cons_succ]
        refine rg_take 9 (v := ?rv30) rfl (by kernel_rfl) (by kernel_rfl) (by kernel_rfl) (fun _ _ _ h => h) (by rfl) hS (fun w2 hw2 => ?ry30) ?rr30
        case ry30 => ((try dsimp only at hw2); go_simp <;> with_reducible rfl)
        simp only [Act.put, List.setIfInBounds_toArray, List.set_cons_zero, List.set_cons_succ]
        refine rg_step 1 rfl (by kernel_rfl) (by rfl) (fun K hK => ?_)
        go_simp
        refine (KN.out 0 (by omega) _ hS).mono ?_
        rintro e w' ⟨rfl, rfl⟩
        refine hK.out _ _ hS ?_
        clear hK K
        try simp only [Act.put, List.setIfInBounds_toArray, List.set_cons_zero, List.set_cons_succ]
        refine rg_step 3 rfl (by kernel_rfl) (by rfl) (fun K hK => ?_)
        go_simp
        refine (KN.out 2 (by omega) _ hS).mono ?_
        rintro e w' ⟨rfl, rfl⟩
        refine hK.out _ _ hS ?_
        clear hK K
        try simp only [Act.put, List.setIfInBounds_toArray, List.set_cons_zero, List.set_cons_succ]
        refine rg_step 7 rfl (by kernel_rfl) (by rfl) (fun K hK => ?_)
        refine wp_append_bs (.const (.slice none 0 0)) (.tmp 56) 22 rfl wx.drew.heap.size 5 info5 Tryd.underlying22 _ 0 [] rfl (World.ownsRow_nil _ _ _ _) _ _ _ _ rfl (HP.out.later hS (Nat.le_refl _)) (by omega) (Nat.le_refl _) ?_
        intro v4 w4 o4 g4 _ _
        have b4 : Below wx.drew.heap.size wx.drew w4 := (Below.refl _ _).grown g4 (Nat.le_refl _) (fun q hq => by cases hq)
        obtain ⟨A4, c4, rfl, hB4⟩ := Bs.of_own o4
        replace hS : Below w.heap.size w w4 := hS.trans (b4.mono hS.size)
        have H4 := Lib.hid (And.intro (H3.out.1.later ((Below.refl wx.heap.size wx).drew.trans b4) (Nat.le_refl _)) (And.intro (H3.out.2.1.later ((Below.refl wx.heap.size wx).drew.trans b4) (Nat.le_refl _)) (And.intro o4 (show wx.heap.size ≤ wx.drew.heap.size from Nat.le_refl _))))
        clear o4 g4 b4 hB4
        refine hK.out _ _ hS ?_
        clear hK K
        try simp only [Act.put, List.setIfInBounds_toArray, List.set_cons_zero, List.set_cons_succ]
        refine rg_step 8 rfl (by kernel_rfl) (by rfl) (fun K hK => ?_)
        refine wp_build_dg (.tmp 51) (.tmp 53) (.tmp 57) rfl ⟨num2 l 0, num2 l 2, (l.take k).drop 8⟩ A4 _ c4 rfl rfl rfl ?_
        refine hK.out _ _ hS ?_
        clear hK K
        try simp only [Act.put, List.setIfInBounds_toArray, List.set_cons_zero, List.set_cons_succ]
        refine rg_step 10 rfl (by kernel_rfl) (by rfl) (fun K hK => ?_)
        refine wp_store_dgF (.tmp 6) (.tmp 58) rfl ⟨num2 l 0, num2 l 2, (l.take k).drop 8⟩ A4 _ c4 rfl rfl H4.out.1 ?_
        intro w5 a5 o5 b5
        have hlt1 : W.heap.size < w1.heap.size := H1.out.2.2.1.lt
        have hlt2 : w1.heap.size < wx.heap.size := H3.out.2.1.lt
        replace hS : Below w.heap.size w w5 := b5 _ _ HA.out.2.2.size hS
        have H5 := Lib.hid (And.intro a5 (And.intro (H4.out.2.1.same (o5 _ (by omega))) (And.intro (own_same' H4.out.2.2.1 fun j hj => o5 j (by have := H4.out.2.2.2; omega)) hlt2)))
        have hg2 : w.heap.size ≤ w1.heap.size := by have := HA.out.2.2.size; omega
        clear a5 o5 b5 hlt2
        refine hK.out _ _ hS ?_
        clear hK K
        simp only [Act.put]
        refine rg_step 11 rfl (by kernel_rfl) (by rfl) (fun K hK => ?_)
        refine wp_store_flF (.tmp 7) (.tmp 59) rfl 0 0 false rfl rfl H5.out.2.1 ?_
        intro w6 a6 o6 b6
        replace hS : Below w.heap.size w w6 := b6 _ _ hg2 hS
        have H6 := Lib.hid (And.intro (H5.out.1.same (o6 _ (by omega))) (And.intro a6 (And.intro (Bs.own_later H5.out.2.2.1 fun j hj => o6 j (by have := H5.out.2.2.2; have := H4.out.2.2.2; omega)) hS)))
        clear a6 o6 b6
        refine hK.out _ _ hS ?_
        clear hK K
        simp only [Act.put]
        refine rg_done (by kernel_rfl) ?_
        clear hS
        go_wp2_with fail
        exact bodyPost_ret (results_dg_fl rfl _ rfl rfl H6.out.1 H6.out.2.1) rfl ⟨A4, _, c4, rfl, H6.out.2.2.1, H6.out.2.2.2⟩
  have h0' : ¬ (z : Int) = 0 := by omega
  have hzb : ((z : Int) == 0) = false := beq_eq_false_iff_ne.2 h0'
  by_cases ho : o = 0
  · subst ho
    rw [if_neg (fun h => by have := hbad.1 h; simp [h0] at this)]
    go_enter Tryd.func8, Tryd.ntmps8
    go_wp2_with (first
      | (rw [HW.out]; refine wpList_alloc_dg rfl rfl ?_; intro w1 a1 b1 z1; have H1 := Lib.hid (And.intro (HA.out.1.later b1 (Nat.le_refl _)) (And.intro (HA.out.2.1.later b1 (Nat.le_refl _)) (And.intro a1 (And.intro (HA.out.2.2.trans (b1.mono HA.out.2.2.size)) b1)))); clear a1 b1 z1)
      | (refine wpList_alloc_fl rfl rfl ?_; intro w2 a2 b2 z2; have H2 := Lib.hid (And.intro (H1.out.1.later b2 (Nat.le_refl _)) (And.intro (H1.out.2.1.later b2 (Nat.le_refl _)) (And.intro (H1.out.2.2.1.later b2 (Nat.le_refl _)) (And.intro a2 (H1.out.2.2.2.1.trans (b2.mono H1.out.2.2.2.1.size)))))); clear a2 b2 z2))
    refine (K4.out _ H2.out.2.2.2.2).mono ?_
    rintro e w' ⟨rfl, rfl⟩
    go_wp2_with fail
    refine (K6.out _ H2.out.2.2.2.2).mono ?_
    rintro e w' ⟨rfl, rfl⟩
    go_wp2_with fail
    have hS : Below w2.heap.size w2 w2.drew := (Below.refl _ _).drew
    refine rg_begin (fun w' => Below w2.heap.size w2 w') 18 (by kernel_rfl) rfl ?_
    refine rg_take 0 (v := ?rv31) rfl (by kernel_rfl) (by kernel_rfl) (by kernel_rfl) (fun _ _ _ h => h) (by rfl) hS (fun w2 hw2 => ?ry31) ?rr31
    case ry31 => ((try dsimp only at hw2); go_simp <;> with_reducible rfl)
    simp only [Act.put, List.setIfInBounds_toArray, List.set_cons_zero, List.set_cons_succ]
    refine rg_take 1 (v := ?rv32) rfl (by kernel_rfl) (by kernel_rfl) (by kernel_rfl) (fun _ _ _ h => h) (by rfl) hS (fun w2 hw2 => ?ry32) ?rr32
    case ry32 => ((try dsimp only at hw2); go_simp <;> with_reducible rfl)
    simp only [Act.put, List.setIfInBounds_toArray, List.set_cons_zero, List.set_cons_succ]
    refine rg_skip 2 rfl (by kernel_rfl) (by kernel_rfl) (by kernel_rfl) (fun _ _ _ h => h) (by rfl) hS ?_
    simp only [Act.put, List.setIfInBounds_toArray, List.set_cons_zero, List.set_cons_succ]
    refine rg_skip 3 rfl (by kernel_rfl) (by kernel_rfl) (by kernel_rfl) (fun _ _ _ h => h) (by rfl) hS ?_
    simp only [Act.put, List.setIfInBounds_toArray, List.set_cons_zero, List.set_cons_succ]
    refine rg_take 4 (v := ?rv33) rfl (by kernel_rfl) (by kernel_rfl) (by kernel_rfl) (fun _ _ _ h => h) (by rfl) hS (fun w2 hw2 => ?ry33) ?rr33
    case ry33 => ((try dsimp only at hw2); go_simp <;> with_reducible rfl)
    simp only [Act.put, List.setIfInBounds_toArray, List.set_cons_zero, List.set_cons_succ]
    refine rg_take 5 (v := ?rv34) rfl (by kernel_rfl) (by kernel_rfl) (by kernel_rfl) (fun _ _ _ h => h) (by rfl) hS (fun w2 hw2 => ?ry34) ?rr34
    case ry34 => ((try dsimp only at hw2); go_simp <;> with_reducible rfl)
    simp only [Act.put, List.setIfInBounds_toArray, List.set_cons_zero, List.set_cons_succ]
    refine rg_take 6 (v := ?rv35) rfl (by kernel_rfl) (by kernel_rfl) (by kernel_rfl) (fun _ _ _ h => h) (by rfl) hS (fun w2 hw2 => ?ry35) ?rr35
    case ry35 => ((try dsimp only at hw2); go_simp <;> with_reducible rfl)
    simp only [Act.put, List.setIfInBounds_toArray, List.set_cons_zero, List.set_cons_succ]
    refine rg_take 7 (v := ?rv36) rfl (by kernel_rfl) (by kernel_rfl) (by kernel_rfl) (fun _ _ _ h => h) (by rfl) hS (fun w2 hw2 => ?ry36) ?rr36
    case ry36 => ((try dsimp only at hw2); go_simp <;> with_reducible rfl)
    simp only [Act.put, List.setIfInBounds_toArray, List.set_cons_zero, List.set_cons_succ]
    refine rg_take 8 (v := ?rv37) rfl (by kernel_rfl) (by kernel_rfl) (by kernel_rfl) (fun _ _ _ h => h) (by rfl) hS (fun w2 hw2 => ?ry37) ?rr37
    case ry37 => ((try dsimp only at hw2); go_simp <;> with_reducible rfl)
    simp only [Act.put, List.setIfInBounds_toArray, List.set_cons_zero, List.set_cons_succ]
    refine rg_load 9 rfl (by kernel_rfl) (by kernel_rfl) (by kernel_rfl) (w.heap.size) 0 (adv sv sb) (fun _ _ _ h => h) (by rfl) 25 (.tmp 4) rfl rfl hS (fun w2 h2 => (AdBox.later H2.out.1 h2 (Nat.le_refl _)).range) Tryd.underlying25 rfl (ad_size sv H2.out.1.2) ?_
    simp only [Act.put, List.setIfInBounds_toArray, List.set_cons_zero, List.set_cons_succ]
    refine rg_load 10 rfl (by kernel_rfl) (by kernel_rfl) (by kernel_rfl) ((w.heap.size+1)) 0 (adv dv db) (fun _ _ _ h => h) (by rfl) 25 (.tmp 5) rfl rfl hS (fun w2 h2 => (AdBox.later H2.out.2.1 h2 (Nat.le_refl _)).range) Tryd.underlying25 rfl (ad_size dv H2.out.2.1.2) ?_
    simp only [Act.put, List.setIfInBounds_toArray, List.set_cons_zero, List.set_cons_succ]
    refine rg_take 11 (v := ?rv38) rfl (by kernel_rfl) (by kernel_rfl) (by kernel_rfl) (fun _ _ _ h => h) (by rfl) hS (fun w2 hw2 => ?ry38) ?rr38
    case ry38 => ((try dsimp only at hw2); go_simp <;> with_reducible rfl)
    simp only [Act.put, List.setIfInBounds_toArray, List.set_cons_zero, List.set_cons_succ]
    refine rg_take 12 (v := ?rv39) rfl (by kernel_rfl) (by kernel_rfl) (by kernel_rfl) (fun _ _ _ h => h) (by rfl) hS (fun w2 hw2 => ?ry39) ?rr39
    case ry39 => ((try dsimp only at hw2); go_simp <;> with_reducible rfl)
    simp only [Act.put, List.setIfInBounds_toArray, List.set_cons_zero, List.set_cons_succ]
    refine rg_take 13 (v := ?rv40) rfl (by kernel_rfl) (by kernel_rfl) (by kernel_rfl) (fun _ _ _ h => h) (by rfl) hS (fun w2 hw2 => ?ry40) ?rr40
    case ry40 => ((try dsimp only at hw2); go_simp <;> with_reducible rfl)
    simp only [Act.put, List.setIfInBounds_toArray, List.set_cons_zero, List.set_cons_succ]
    refine rg_step 14 rfl (by kernel_rfl) (by rfl) (fun K hK => ?_)
    go_simp
    refine (KO.out _ (H2.out.2.2.2.2.trans (hS.mono H2.out.2.2.2.2.size))).mono ?_
    rintro e w3 ⟨rfl, g3⟩
    replace hS := hS.trans (g3.mono hS.size)
    clear g3
    refine hK.out _ _ hS ?_
    clear hK K
    try simp only [Act.put, List.setIfInBounds_toArray, List.set_cons_zero, List.set_cons_succ]
    refine rg_take 15 (v := ?rv41) rfl (by kernel_rfl) (by kernel_rfl) (by kernel_rfl) (fun _ _ _ h => h) (by rfl) hS (fun w2 hw2 => ?ry41) ?rr41
    case ry41 => ((try dsimp only at hw2); go_simp <;> with_reducible rfl)
    simp only [Act.put, List.setIfInBounds_toArray, List.set_cons_zero, List.set_cons_succ]
    refine rg_take 16 (v := ?rv42) rfl (by kernel_rfl) (by kernel_rfl) (by kernel_rfl) (fun _ _ _ h => h) (by rfl) hS (fun w2 hw2 => ?ry42) ?rr42
    case ry42 => ((try dsimp only at hw2); go_simp <;> with_reducible rfl)
    simp only [Act.put, List.setIfInBounds_toArray, List.set_cons_zero, List.set_cons_succ]
    refine rg_take 17 (v := ?rv43) rfl (by kernel_rfl) (by kernel_rfl) (by kernel_rfl) (fun _ _ _ h => h) (by rfl) hS (fun w2 hw2 => ?ry43) ?rr43
    case ry43 => ((try dsimp only at hw2); go_simp <;> with_reducible rfl)
    simp only [Act.put, List.setIfInBounds_toArray, List.set_cons_zero, List.set_cons_succ]
    refine rg_done (by kernel_rfl) ?_
    have H3 := Lib.hid (And.intro (H2.out.2.2.1.later hS (Nat.le_refl _)) (And.intro (H2.out.2.2.2.1.later hS (Nat.le_refl _)) (H2.out.2.2.2.2.trans (hS.mono H2.out.2.2.2.2.size))))
    clear hS
    obtain ⟨wx, hwx⟩ : ∃ wx, w3 = wx := ⟨_, rfl⟩
    rw [hwx] at H3 ⊢
    clear hwx
    have q3 : c = 8 ∨ ¬ c = 8 := by omega
    rcases q3 with q3 | q3
    · obtain rfl : c = 8 := q3
      obtain rfl : k = 8 := by omega
      obtain rfl : n = 8 := by omega
      have hp0 := Bs.empty w (some ⟨b0, off0, none⟩) (c := 0) (by unfold maxLen; omega) (by simp)
      have HP := Lib.hid hp0
      clear hp0
      go_wp2_with fail
      have hS : Below w.heap.size w wx.drew := H3.out.2.2.drew
      refine rg_begin (fun w' => Below w.heap.size w w') 12 (by kernel_rfl) rfl ?_
      refine rg_take 0 (v := ?rv44) rfl (by kernel_rfl) (by kernel_rfl) (by kernel_rfl) (fun _ _ _ h => h) (by rfl) hS (fun w2 hw2 => ?ry44) ?rr44
      case ry44 => ((try dsimp only at hw2); go_simp <;> with_reducible rfl)
      simp only [Act.put, List.setIfInBounds_toArray, List.set_cons_zero, List.set_cons_succ]
      refine rg_take 2 (v := ?rv45) rfl (by kernel_rfl) (by kernel_rfl) (by kernel_rfl) (fun _ _ _ h => h) (by rfl) hS (fun w2 hw2 => ?ry45) ?rr45
      case ry45 => ((try dsimp only at hw2); go_simp <;> with_reducible rfl)
      simp only [Act.put, List.setIfInBounds_toArray, List.set_cons_zero, List.set_cons_succ]
      refine rg_take 4 (v := ?rv46) rfl (by kernel_rfl) (by kernel_rfl) (by kernel_rfl) (fun _ _ _ h => h) (by rfl) hS (fun w2 hw2 => ?ry46) ?rr46
      case ry46 => ((try dsimp only at hw2); go_simp <;> with_reducible rfl)
      simp only [Act.put, List.setIfInBounds_toArray, List.set_cons_zero, List.set_cons_succ]
      refine rg_take 5 (v := ?rv47) rfl (by kernel_rfl) (by kernel_rfl) (by kernel_rfl) (fun _ _ _ h => h) (by rfl) hS (fun w2 hw2 => ?ry47) ?rr47
      case ry47 => ((try dsimp only at hw2); go_simp <;> with_reducible rfl)
      simp only [Act.put, List.setIfInBounds_toArray, List.set_cons_zero, List.set_cons_succ]
      refine rg_take 6 (v := ?rv48) rfl (by kernel_rfl) (by kernel_rfl) (by kernel_rfl) (fun _ _ _ h => h) (by rfl) hS (fun w2 hw2 => ?ry48) ?rr48
      case ry48 => ((try dsimp only at hw2); go_simp <;> with_reducible rfl)
      simp only [Act.put, List.setIfInBounds_toArray, List.set_cons_zero, List.set_cons_succ]
      refine rg_take 9 (v := ?rv49) rfl (by kernel_rfl) (by kernel_rfl) (by kernel_rfl) (fun _ _ _ h => h) (by rfl) hS (fun w2 hw2 => ?ry49) ?rr49
      case ry49 => ((try dsimp only at hw2); go_simp <;> with_reducible rfl)
      simp only [Act.put, List.setIfInBounds_toArray, List.set_cons_zero, List.set_cons_succ]
      refine rg_step 1 rfl (by kernel_rfl) (by rfl) (fun K hK => ?_)
      go_simp
      refine (KN.out 0 (by omega) _ hS).mono ?_
      rintro e w' ⟨rfl, rfl⟩
      refine hK.out _ _ hS ?_
      clear hK K
      try simp only [Act.put, List.setIfInBounds_toArray, List.set_cons_zero, List.set_cons_succ]
      refine rg_step 3 rfl (by kernel_rfl) (by rfl) (fun K hK => ?_)
      go_simp
      refine (KN.out 2 (by omega) _ hS).mono ?_
      rintro e w' ⟨rfl, rfl⟩
      refine hK.out _ _ hS ?_
      clear hK K
      try simp only [Act.put, List.setIfInBounds_toArray, List.set_cons_zero, List.set_cons_succ]
      refine rg_step 7 rfl (by kernel_rfl) (by rfl) (fun K hK => ?_)
      refine wp_append_bs (.const (.slice none 0 0)) (.tmp 56) 22 rfl wx.drew.heap.size 5 info5 Tryd.underlying22 _ 0 [] rfl (World.ownsRow_nil _ _ _ _) _ _ _ _ rfl (HP.out.later hS (Nat.le_refl _)) (by omega) (Nat.le_refl _) ?_
      intro v4 w4 o4 g4 _ _
      have b4 : Below wx.drew.heap.size wx.drew w4 := (Below.refl _ _).grown g4 (Nat.le_refl _) (fun q hq => by cases hq)
      obtain ⟨A4, c4, rfl, hB4⟩ := Bs.of_own o4
      replace hS : Below w.heap.size w w4 := hS.trans (b4.mono hS.size)
      have H4 := Lib.hid (And.intro (H3.out.1.later ((Below.refl wx.heap.size wx).drew.trans b4) (Nat.le_refl _)) (And.intro (H3.out.2.1.later ((Below.refl wx.heap.size wx).drew.trans b4) (Nat.le_refl _)) (And.intro o4 (show wx.heap.size ≤ wx.drew.heap.size from Nat.le_refl _))))
      clear o4 g4 b4 hB4
      refine hK.out _ _ hS ?_
      clear hK K
      try simp only [Act.put, List.setIfInBounds_toArray, List.set_cons_zero, List.set_cons_succ]
      refine rg_step 8 rfl (by kernel_rfl) (by rfl) (fun K hK => ?_)
      refine wp_build_dg (.tmp 51) (.tmp 53) (.tmp 57) rfl ⟨num2 l 0, num2 l 2, []⟩ A4 _ c4 rfl rfl rfl ?_
      refine hK.out _ _ hS ?_
      clear hK K
      try simp only [Act.put, List.setIfInBounds_toArray, List.set_cons_zero, List.set_cons_succ]
      refine rg_step 10 rfl (by kernel_rfl) (by rfl) (fun K hK => ?_)
      refine wp_store_dgF (.tmp 6) (.tmp 58) rfl ⟨num2 l 0, num2 l 2, []⟩ A4 _ c4 rfl rfl H4.out.1 ?_
      intro w5 a5 o5 b5
      have hlt1 : W.heap.size < w1.heap.size := H1.out.2.2.1.lt
      have hlt2 : w1.heap.size < wx.heap.size := H3.out.2.1.lt
      replace hS : Below w.heap.size w w5 := b5 _ _ HA.out.2.2.size hS
      have H5 := Lib.hid (And.intro a5 (And.intro (H4.out.2.1.same (o5 _ (by omega))) (And.intro (own_same' H4.out.2.2.1 fun j hj => o5 j (by have := H4.out.2.2.2; omega)) hlt2)))
      have hg2 : w.heap.size ≤ w1.heap.size := by have := HA.out.2.2.size; omega
      clear a5 o5 b5 hlt2
      refine hK.out _ _ hS ?_
      clear hK K
      simp only [Act.put]
      refine rg_step 11 rfl (by kernel_rfl) (by rfl) (fun K hK => ?_)
      refine wp_store_flF (.tmp 7) (.tmp 59) rfl 0 0 false rfl rfl H5.out.2.1 ?_
      intro w6 a6 o6 b6
      replace hS : Below w.heap.size w w6 := b6 _ _ hg2 hS
      have H6 := Lib.hid (And.intro (H5.out.1.same (o6 _ (by omega))) (And.intro a6 (And.intro (Bs.own_later H5.out.2.2.1 fun j hj => o6 j (by have := H5.out.2.2.2; have := H4.out.2.2.2; omega)) hS)))
      clear a6 o6 b6
      refine hK.out _ _ hS ?_
      clear hK K
      simp only [Act.put]
      refine rg_done (by kernel_rfl) ?_
      clear hS
      go_wp2_with fail
      exact bodyPost_ret (results_dg_fl rfl _ rfl rfl H6.out.1 H6.out.2.1) rfl ⟨A4, _, c4, rfl, H6.out.2.2.1, H6.out.2.2.2⟩
    · have hcut := (HB.out.first hkn).cut (i := 8) (k := k - 8) (by omega) (A' := some ⟨b0, off0 + 8, none⟩) (fun _ => by simp [add_plain]) (by simp)
      rw [List.take_of_length_le (by rw [List.length_drop, List.length_take]; omega)] at hcut
      have HP := Lib.hid hcut
      clear hcut
      go_wp2_with fail
      have hS : Below w.heap.size w wx.drew := H3.out.2.2.drew
      refine rg_begin (fun w' => Below w.heap.size w w') 12 (by kernel_rfl) rfl ?_
      refine rg_take 0 (v := ?rv50) rfl (by kernel_rfl) (by kernel_rfl) (by kernel_rfl) (fun _ _ _ h => h) (by rfl) hS (fun w2 hw2 => ?ry50) ?rr50
      case ry50 => ((try dsimp only at hw2); go_simp <;> with_reducible rfl)
      simp only [Act.put, List.setIfInBounds_toArray, List.set_cons_zero, List.set_cons_succ]
      refine rg_take 2 (v := ?rv51) rfl (by kernel_rfl) (by kernel_rfl) (by kernel_rfl) (fun _ _ _ h => h) (by rfl) hS (fun w2 hw2 => ?ry51) ?rr51
      case ry51 => ((try dsimp only at hw2); go_simp <;> with_reducible rfl)
      simp only [Act.put, List.setIfInBounds_toArray, List.set_cons_zero, List.set_cons_succ]
      refine rg_take 4 (v := ?rv52) rfl (by kernel_rfl) (by kernel_rfl) (by kernel_rfl) (fun _ _ _ h => h) (by rfl) hS (fun w2 hw2 => ?ry52) ?rr52
      case ry52 => ((try dsimp only at hw2); go_simp <;> with_reducible rfl)
      simp only [Act.put, List.setIfInBounds_toArray, List.set_cons_zero, List.set_cons_succ]
      refine rg_take 5 (v := ?rv53) rfl (by kernel_rfl) (by kernel_rfl) (by kernel_rfl) (fun _ _ _ h => h) (by rfl) hS (fun w2 hw2 => ?ry53) ?rr53
      case ry53 => ((try dsimp only at hw2); go_simp <;> with_reducible rfl)
      simp only [Act.put, List.setIfInBounds_toArray, List.set_cons_zero, List.set_cons_succ]
      refine rg_take 6 (v := ?rv54) rfl (by kernel_rfl) (by kernel_rfl) (by kernel_rfl) (fun _ _ _ h => h) (by rfl) hS (fun w2 hw2 => ?ry54) ?rr54
      case ry54 => ((try dsimp only at hw2); go_simp <;> with_reducible rfl)
      simp only [Act.put, List.setIfInBounds_toArray, List.set_cons_zero, List.set_cons_succ]
      refine rg_take 9 (v := ?rv55) rfl (by kernel_rfl) (by kernel_rfl) (by kernel_rfl) (fun _ _ _ h => h) (by rfl) hS (fun w2 hw2 => ?ry55) ?rr55
      case ry55 => ((try dsimp only at hw2); go_simp <;> with_reducible rfl)
      simp only [Act.put, List.setIfInBounds_toArray, List.set_cons_zero, List.set_cons_succ]
      refine rg_step 1 rfl (by kernel_rfl) (by rfl) (fun K hK => ?_)
      go_simp
      refine (KN.out 0 (by omega) _ hS).mono ?_
      rintro e w' ⟨rfl, rfl⟩
      refine hK.out _ _ hS ?_
      clear hK K
      try simp only [Act.put, List.setIfInBounds_toArray, List.set_cons_zero, List.set_cons_succ]
      refine rg_step 3 rfl (by kernel_rfl) (by rfl) (fun K hK => ?_)
      go_simp
      refine (KN.out 2 (by omega) _ hS).mono ?_
      rintro e w' ⟨rfl, rfl⟩
      refine hK.out _ _ hS ?_
      clear hK K
      try simp only [Act.put, List.setIfInBounds_toArray, List.set_cons_zero, List.set_cons_succ]
      refine rg_step 7 rfl (by kernel_rfl) (by rfl) (fun K hK => ?_)
      refine wp_append_bs (.const (.slice none 0 0)) (.tmp 56) 22 rfl wx.drew.heap.size 5 info5 Tryd.underlying22 _ 0 [] rfl (World.ownsRow_nil _ _ _ _) _ _ _ _ rfl (HP.out.later hS (Nat.le_refl _)) (by omega) (Nat.le_refl _) ?_
      intro v4 w4 o4 g4 _ _
      have b4 : Below wx.drew.heap.size wx.drew w4 := (Below.refl _ _).grown g4 (Nat.le_refl _) (fun q hq => by cases hq)
      obtain ⟨A4, c4, rfl, hB4⟩ := Bs.of_own o4
      replace hS : Below w.heap.size w w4 := hS.trans (b4.mono hS.size)
      have H4 := Lib.hid (And.intro (H3.out.1.later ((Below.refl wx.heap.size wx).drew.trans b4) (Nat.le_refl _)) (And.intro (H3.out.2.1.later ((Below.refl wx.heap.size wx).drew.trans b4) (Nat.le_refl _)) (And.intro o4 (show wx.heap.size ≤ wx.drew.heap.size from Nat.le_refl _))))
      clear o4 g4 b4 hB4
      refine hK.out _ _ hS ?_
      clear hK K
      try simp only [Act.put, List.setIfInBounds_toArray, List.set_cons_zero, List.set_cons_succ]
      refine rg_step 8 rfl (by kernel_rfl) (by rfl) (fun K hK => ?_)
      refine wp_build_dg (.tmp 51) (.tmp 53) (.tmp 57) rfl ⟨num2 l 0, num2 l 2, (l.take k).drop 8⟩ A4 _ c4 rfl rfl rfl ?_
      refine hK.out _ _ hS ?_
      clear hK K
      try simp only [Act.put, List.setIfInBounds_toArray, List.set_cons_zero, List.set_cons_succ]
      refine rg_step 10 rfl (by kernel_rfl) (by rfl) (fun K hK => ?_)
      refine wp_store_dgF (.tmp 6) (.tmp 58) rfl ⟨num2 l 0, num2 l 2, (l.take k).drop 8⟩ A4 _ c4 rfl rfl H4.out.1 ?_
      intro w5 a5 o5 b5
      have hlt1 : W.heap.size < w1.heap.size := H1.out.2.2.1.lt
      have hlt2 : w1.heap.size < wx.heap.size := H3.out.2.1.lt
      replace hS : Below w.heap.size w w5 := b5 _ _ HA.out.2.2.size hS
      have H5 := Lib.hid (And.intro a5 (And.intro (H4.out.2.1.same (o5 _ (by omega))) (And.intro (own_same' H4.out.2.2.1 fun j hj => o5 j (by have := H4.out.2.2.2; omega)) hlt2)))
      have hg2 : w.heap.size ≤ w1.heap.size := by have := HA.out.2.2.size; omega
      clear a5 o5 b5 hlt2
      refine hK.out _ _ hS ?_
      clear hK K
      simp only [Act.put]
      refine rg_step 11 rfl (by kernel_rfl) (by rfl) (fun K hK => ?_)
      refine wp_store_flF (.tmp 7) (.tmp 59) rfl 0 0 false rfl rfl H5.out.2.1 ?_
      intro w6 a6 o6 b6
      replace hS : Below w.heap.size w w6 := b6 _ _ hg2 hS
      have H6 := Lib.hid (And.intro (H5.out.1.same (o6 _ (by omega))) (And.intro a6 (And.intro (Bs.own_later H5.out.2.2.1 fun j hj => o6 j (by have := H5.out.2.2.2; have := H4.out.2.2.2; omega)) hS)))
      clear a6 o6 b6
      refine hK.out _ _ hS ?_
      clear hK K
      simp only [Act.put]
      refine rg_done (by kernel_rfl) ?_
      clear hS
      go_wp2_with fail
      exact bodyPost_ret (results_dg_fl rfl _ rfl rfl H6.out.1 H6.out.2.1) rfl ⟨A4, _, c4, rfl, H6.out.2.2.1, H6.out.2.2.2⟩
  · have ho' : ¬ (o : Int) = 0 := by omega
    rw [if_pos (hbad.2 (.inr ⟨h0, ho⟩))]
    go_enter Tryd.func8, Tryd.ntmps8
    go_wp2_with (first
      | (rw [HW.out]; refine wpList_alloc_dg rfl rfl ?_; intro w1 a1 b1 z1; have H1 := Lib.hid (And.intro (HA.out.1.later b1 (Nat.le_refl _)) (And.intro (HA.out.2.1.later b1 (Nat.le_refl _)) (And.intro a1 (And.intro (HA.out.2.2.trans (b1.mono HA.out.2.2.size)) b1)))); clear a1 b1 z1)
      | (refine wpList_alloc_fl rfl rfl ?_; intro w2 a2 b2 z2; have H2 := Lib.hid (And.intro (H1.out.1.later b2 (Nat.le_refl _)) (And.intro (H1.out.2.1.later b2 (Nat.le_refl _)) (And.intro (H1.out.2.2.1.later b2 (Nat.le_refl _)) (And.intro a2 (H1.out.2.2.2.1.trans (b2.mono H1.out.2.2.2.1.size)))))); clear a2 b2 z2))
    refine (K4.out _ H2.out.2.2.2.2).mono ?_
    rintro e w' ⟨rfl, rfl⟩
    go_wp2_with fail
    refine (K6.out _ H2.out.2.2.2.2).mono ?_
    rintro e w' ⟨rfl, rfl⟩
    go_wp2_with fail
    have hS : Below w2.heap.size w2 w2.drew := (Below.refl _ _).drew
    refine rg_begin (fun w' => Below w2.heap.size w2 w') 18 (by kernel_rfl) rfl ?_
    refine rg_take 0 (v := ?rv56) rfl (by kernel_rfl) (by kernel_rfl) (by kernel_rfl) (fun _ _ _ h => h) (by rfl) hS (fun w2 hw2 => ?ry56) ?rr56
    case ry56 => ((try dsimp only at hw2); go_simp <;> with_reducible rfl)
    simp only [Act.put, List.setIfInBounds_toArray, List.set_cons_zero, List.set_cons_succ]
    refine rg_take 1 (v := ?rv57) rfl (by kernel_rfl) (by kernel_rfl) (by kernel_rfl) (fun _ _ _ h => h) (by rfl) hS (fun w2 hw2 => ?ry57) ?rr57
    case ry57 => ((try dsimp only at hw2); go_simp <;> with_reducible rfl)
    simp only [Act.put, List.setIfInBounds_toArray, List.set_cons_zero, List.set_cons_succ]
    refine rg_skip 2 rfl (by kernel_rfl) (by kernel_rfl) (by kernel_rfl) (fun _ _ _ h => h) (by rfl) hS ?_
    simp only [Act.put, List.setIfInBounds_toArray, List.set_cons_zero, List.set_cons_succ]
    refine rg_skip 3 rfl (by kernel_rfl) (by kernel_rfl) (by kernel_rfl) (fun _ _ _ h => h) (by rfl) hS ?_
    simp only [Act.put, List.setIfInBounds_toArray, List.set_cons_zero, List.set_cons_succ]
    refine rg_take 4 (v := ?rv58) rfl (by kernel_rfl) (by kernel_rfl) (by kernel_rfl) (fun _ _ _ h => h) (by rfl) hS (fun w2 hw2 => ?ry58) ?rr58
    case ry58 => ((try dsimp only at hw2); go_simp <;> with_reducible rfl)
    simp only [Act.put, List.setIfInBounds_toArray, List.set_cons_zero, List.set_cons_succ]
    refine rg_take 5 (v := ?rv59) rfl (by kernel_rfl) (by kernel_rfl) (by kernel_rfl) (fun _ _ _ h => h) (by rfl) hS (fun w2 hw2 => ?ry59) ?rr59
    case ry59 => ((try dsimp only at hw2); go_simp <;> with_reducible rfl)
    simp only [Act.put, List.setIfInBounds_toArray, List.set_cons_zero, List.set_cons_succ]
    refine rg_take 6 (v := ?rv60) rfl (by kernel_rfl) (by kernel_rfl) (by kernel_rfl) (fun _ _ _ h => h) (by rfl) hS (fun w2 hw2 => ?ry60) ?rr60
    case ry60 => ((try dsimp only at hw2); go_simp <;> with_reducible rfl)
    simp only [Act.put, List.setIfInBounds_toArray, List.set_cons_zero, List.set_cons_succ]
    refine rg_take 7 (v := ?rv61) rfl (by kernel_rfl) (by kernel_rfl) (by kernel_rfl) (fun _ _ _ h => h) (by rfl) hS (fun w2 hw2 => ?ry61) ?rr61
    case ry61 => ((try dsimp only at hw2); go_simp <;> with_reducible rfl)
    simp only [Act.put, List.setIfInBounds_toArray, List.set_cons_zero, List.set_cons_succ]
    refine rg_take 8 (v := ?rv62) rfl (by kernel_rfl) (by kernel_rfl) (by kernel_rfl) (fun _ _ _ h => h) (by rfl) hS (fun w2 hw2 => ?ry62) ?rr62
    case ry62 => ((try dsimp only at hw2); go_simp <;> with_reducible rfl)
    simp only [Act.put, List.setIfInBounds_toArray, List.set_cons_zero, List.set_cons_succ]
    refine rg_load 9 rfl (by kernel_rfl) (by kernel_rfl) (by kernel_rfl) (w.heap.size) 0 (adv sv sb) (fun _ _ _ h => h) (by rfl) 25 (.tmp 4) rfl rfl hS (fun w2 h2 => (AdBox.later H2.out.1 h2 (Nat.le_refl _)).range) Tryd.underlying25 rfl (ad_size sv H2.out.1.2) ?_
    simp only [Act.put, List.setIfInBounds_toArray, List.set_cons_zero, List.set_cons_succ]
    refine rg_load 10 rfl (by kernel_rfl) (by kernel_rfl) (by kernel_rfl) ((w.heap.size+1)) 0 (adv dv db) (fun _ _ _ h => h) (by rfl) 25 (.tmp 5) rfl rfl hS (fun w2 h2 => (AdBox.later H2.out.2.1 h2 (Nat.le_refl _)).range) Tryd.underlying25 rfl (ad_size dv H2.out.2.1.2) ?_
    simp only [Act.put, List.setIfInBounds_toArray, List.set_cons_zero, List.set_cons_succ]
    refine rg_take 11 (v := ?rv63) rfl (by kernel_rfl) (by kernel_rfl) (by kernel_rfl) (fun _ _ _ h => h) (by rfl) hS (fun w2 hw2 => ?ry63) ?rr63
    case ry63 => ((try dsimp only at hw2); go_simp <;> with_reducible rfl)
    simp only [Act.put, List.setIfInBounds_toArray, List.set_cons_zero, List.set_cons_succ]
    refine rg_take 12 (v := ?rv64) rfl (by kernel_rfl) (by kernel_rfl) (by kernel_rfl) (fun _ _ _ h => h) (by rfl) hS (fun w2 hw2 => ?ry64) ?rr64
    case ry64 => ((try dsimp only at hw2); go_simp <;> with_reducible rfl)
    simp only [Act.put, List.setIfInBounds_toArray, List.set_cons_zero, List.set_cons_succ]
    refine rg_take 13 (v := ?rv65) rfl (by kernel_rfl) (by kernel_rfl) (by kernel_rfl) (fun _ _ _ h => h) (by rfl) hS (fun w2 hw2 => ?ry65) ?rr65
    case ry65 => ((try dsimp only at hw2); go_simp <;> with_reducible rfl)
    simp only [Act.put, List.setIfInBounds_toArray, List.set_cons_zero, List.set_cons_succ]
    refine rg_step 14 rfl (by kernel_rfl) (by rfl) (fun K hK => ?_)
    go_simp
    refine (KO.out _ (H2.out.2.2.2.2.trans (hS.mono H2.out.2.2.2.2.size))).mono ?_
    rintro e w3 ⟨rfl, g3⟩
    replace hS := hS.trans (g3.mono hS.size)
    clear g3
    refine hK.out _ _ hS ?_
    clear hK K
    try simp only [Act.put, List.setIfInBounds_toArray, List.set_cons_zero, List.set_cons_succ]
    refine rg_take 15 (v := ?rv66) rfl (by kernel_rfl) (by kernel_rfl) (by kernel_rfl) (fun _ _ _ h => h) (by rfl) hS (fun w2 hw2 => ?ry66) ?rr66
    case ry66 => ((try dsimp only at hw2); go_simp <;> with_reducible rfl)
    simp only [Act.put, List.setIfInBounds_toArray, List.set_cons_zero, List.set_cons_succ]
    refine rg_take 16 (v := ?rv67) rfl (by kernel_rfl) (by kernel_rfl) (by kernel_rfl) (fun _ _ _ h => h) (by rfl) hS (fun w2 hw2 => ?ry67) ?rr67
    case ry67 => ((try dsimp only at hw2); go_simp <;> with_reducible rfl)
    simp only [Act.put, List.setIfInBounds_toArray, List.set_cons_zero, List.set_cons_succ]
    refine rg_take 17 (v := ?rv68) rfl (by kernel_rfl) (by kernel_rfl) (by kernel_rfl) (fun _ _ _ h => h) (by rfl) hS (fun w2 hw2 => ?ry68) ?rr68
    case ry68 => ((try dsimp only at hw2); go_simp <;> with_reducible rfl)
    simp only [Act.put, List.setIfInBounds_toArray, List.set_cons_zero, List.set_cons_succ]
    refine rg_done (by kernel_rfl) ?_
    have H3 := Lib.hid (And.intro (H2.out.2.2.1.later hS (Nat.le_refl _)) (And.intro (H2.out.2.2.2.1.later hS (Nat.le_refl _)) (H2.out.2.2.2.2.trans (hS.mono H2.out.2.2.2.2.size))))
    clear hS
    go_wp2_with fail
    refine (help_at 8 6 _).mono ?_
    rintro e w7 ⟨rfl, g7⟩
    have H7 := Lib.hid (And.intro (H3.out.1.later g7 (Nat.le_refl _)) (And.intro (H3.out.2.1.later g7 (Nat.le_refl _)) (H3.out.2.2.trans (g7.mono H3.out.2.2.size))))
    have hg : w.heap.size ≤ W.heap.size := HA.out.2.2.size
    have hg1 : W.heap.size < w1.heap.size := H1.out.2.2.1.lt
    have hg2 : w.heap.size ≤ w1.heap.size := by omega
    clear g7
    go_wp2_with (first
      | (refine wpList_store_dg rfl (.tmp 6) (.tmp 48) rfl .zero none 0 0 rfl rfl H7.out.1 ?_; intro w8 a8 o8 z8 b8; have H8 := Lib.hid (And.intro a8 (And.intro (H7.out.2.1.same (o8 _ (by omega))) (b8 w.heap.size w hg H7.out.2.2))); clear a8 o8 z8 b8)
      | (refine wpList_store_fl rfl (.tmp 7) (.tmp 49) rfl 8 6 true rfl rfl H8.out.2.1 ?_; intro w9 a9 o9 z9 b9; have H9 := Lib.hid (And.intro (H8.out.1.same (o9 _ (by omega))) (And.intro a9 (b9 w.heap.size w hg2 H8.out.2.2))); clear a9 o9 z9 b9))
    exact bodyPost_ret (results_dg_fl rfl _ rfl rfl H9.out.1 H9.out.2.1) rfl ⟨none, 0, 0, rfl, Bs.nil _, H9.out.2.2⟩
end Go.Proofs.YtkeggeiliachgaaDoor
