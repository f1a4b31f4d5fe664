/-
  stockadelaw03.SumTells answers true, whatever is handed in. No conditions.
-/
import Derived.Test.YthkhbjjiffpkoaaAwake03
import Derived.Test.YthkhbjjiffpkoaaRefOver
namespace Go.Proofs.Ythkhbjjiffpkoaa
open Go.RowKit

theorem aheadL_even (v6 : Bool) {a b : List UInt8} (ha : a.length = 16) (hb : b.length = 16) (proto : Int) (n : Nat) : (aheadL v6 a b proto n).length % 2 = 0 := by cases v6 <;> simp [aheadL, putn_length, ha, hb]

set_option maxRecDepth 100000 in
set_option maxHeartbeats 4000000 in
theorem sumTells (v1 v2 : Bool) (a b : List UInt8) (ha : a.length = 16) (hb : b.length = 16) (proto : Int) {A : Option Addr} {n c : Nat} {l : List UInt8} {w : World} (hs : Bs w A n c l) : Calls Try.prog 3 #[.agg (adv v1 a), .agg (adv v2 b), .int .i64 proto, .slice A n c] w fun e w' => e = .returned (.bool true) ∧ Below w.heap.size w w' := by
  have hm := Nat.le_trans hs.cap hs.max
  unfold maxLen at hm
  have HB := Lib.hid hs
  clear hs
  have A1 := Lib.hid ((AdBox.new w v1 ha).later ((Below.refl _ _).alloc (Nat.le_refl _) (.cells (adv v2 b) 24)) (Nat.le_refl _))
  have A2 := AdBox.new (w.alloc (.cells (adv v1 a) 24)) v2 hb
  rw [World.size_alloc] at A2
  have A2 := Lib.hid A2
  have B2 := Lib.hid (((Below.refl _ w).alloc (Nat.le_refl _) (.cells (adv v1 a) 24)).alloc (by simp) (.cells (adv v2 b) 24))
  by_cases hbig : 3000 < n
  · go_enter Try.func3, Try.ntmps3
    go_wp2_with fail
    refine (awake03 _).mono ?_
    rintro e w1 ⟨rfl, h1⟩
    have H1 := Lib.hid (B2.out.trans (h1.mono B2.out.size))
    clear h1
    go_wp2_with fail
    go_ret
    exact ⟨rfl, H1.out⟩
  · obtain ⟨r, hr⟩ : ∃ r, cks l = r := ⟨_, rfl⟩
    obtain ⟨r2, hr2⟩ : ∃ r, cks (aheadL v1 a b proto n ++ l) = r := ⟨_, rfl⟩
    have hr3 : 65535 - fold (tot (aheadL v1 a b proto n) + tot l) = r2 := by rw [← hr2, cks_append _ _ (aheadL_even v1 ha hb proto n)]
    have HR := Lib.hid (And.intro hr (And.intro hr2 hr3))
    clear hr hr2 hr3
    go_enter Try.func3, Try.ntmps3
    go_wp2_with fail
    generalize hW : (w.alloc (Obj.cells (adv v1 a) 24)).alloc (Obj.cells (adv v2 b) 24) = W at A1 A2 B2 ⊢
    clear hW
    have hS : Below W.heap.size W W.drew := (Below.refl _ _).drew
    refine rg_begin (fun w' => Below W.heap.size W w') 22 (by kernel_rfl) rfl ?_
    refine rg_step 0 rfl (by kernel_rfl) (by rfl) (fun K hK => ?_)
    go_simp
    refine (awake03 _).mono ?_
    rintro e w1 ⟨rfl, b1⟩
    have hS1 := hS.trans b1
    clear hS b1
    have hS := hS1
    clear hS1
    refine hK.out _ _ hS ?_
    clear hK K
    try simp only [Act.put, List.setIfInBounds_toArray, List.set_cons_zero, List.set_cons_succ]
    refine rg_take 1 (v := ?rv1) rfl (by kernel_rfl) (by kernel_rfl) (by kernel_rfl) (fun _ _ _ h => h) (by rfl) hS (fun w2 hw2 => ?ry1) ?rr1
    case ry1 => ((try dsimp only at hw2); go_simp <;> with_reducible rfl)
    simp only [Act.put, List.setIfInBounds_toArray, List.set_cons_zero, List.set_cons_succ]
    refine rg_take 2 (v := ?rv2) rfl (by kernel_rfl) (by kernel_rfl) (by kernel_rfl) (fun _ _ _ h => h) (by rfl) hS (fun w2 hw2 => ?ry2) ?rr2
    case ry2 => ((try dsimp only at hw2); go_simp <;> with_reducible rfl)
    simp only [Act.put, List.setIfInBounds_toArray, List.set_cons_zero, List.set_cons_succ]
    refine rg_take 4 (v := ?rv3) rfl (by kernel_rfl) (by kernel_rfl) (by kernel_rfl) (fun _ _ _ h => h) (by rfl) hS (fun w2 hw2 => ?ry3) ?rr3
    case ry3 => ((try dsimp only at hw2); go_simp <;> with_reducible rfl)
    simp only [Act.put, List.setIfInBounds_toArray, List.set_cons_zero, List.set_cons_succ]
    refine rg_step 3 rfl (by kernel_rfl) (by rfl) (fun K hK => ?_)
    go_simp
    refine (of_any (HB.out.later (B2.out.trans (hS.mono B2.out.size)) (Nat.le_refl _)) (by omega)).mono ?_
    rintro e w2 ⟨rfl, b2⟩
    rw [HR.out.1]
    have hS1 := hS.trans (b2.mono hS.size)
    clear hS b2
    have hS := hS1
    clear hS1
    refine hK.out _ _ hS ?_
    clear hK K
    try simp only [Act.put, List.setIfInBounds_toArray, List.set_cons_zero, List.set_cons_succ]
    refine rg_step 5 rfl (by kernel_rfl) (by rfl) (fun K hK => ?_)
    go_simp
    refine (ref_sum (HB.out.later (B2.out.trans (hS.mono B2.out.size)) (Nat.le_refl _)) (by omega)).mono ?_
    rintro e w' ⟨rfl, rfl⟩
    rw [HR.out.1]
    refine hK.out _ _ hS ?_
    clear hK K
    try simp only [Act.put, List.setIfInBounds_toArray, List.set_cons_zero, List.set_cons_succ]
    refine rg_take 6 (v := ?rv4) rfl (by kernel_rfl) (by kernel_rfl) (by kernel_rfl) (fun _ _ _ h => h) (by rfl) hS (fun w2 hw2 => ?ry4) ?rr4
    case ry4 => ((try dsimp only at hw2); go_simp <;> with_reducible rfl)
    simp only [Act.put, List.setIfInBounds_toArray, List.set_cons_zero, List.set_cons_succ]
    refine rg_take 7 (v := ?rv5) rfl (by kernel_rfl) (by kernel_rfl) (by kernel_rfl) (fun _ _ _ h => h) (by rfl) hS (fun w2 hw2 => ?ry5) ?rr5
    case ry5 => ((try dsimp only at hw2); go_simp <;> with_reducible rfl)
    simp only [Act.put, List.setIfInBounds_toArray, List.set_cons_zero, List.set_cons_succ]
    refine rg_take 8 (v := ?rv6) rfl (by kernel_rfl) (by kernel_rfl) (by kernel_rfl) (fun _ _ _ h => h) (by rfl) hS (fun w2 hw2 => ?ry6) ?rr6
    case ry6 => ((try dsimp only at hw2); go_simp <;> with_reducible rfl)
    simp only [Act.put, List.setIfInBounds_toArray, List.set_cons_zero, List.set_cons_succ]
    refine rg_load 9 rfl (by kernel_rfl) (by kernel_rfl) (by kernel_rfl) (w.heap.size) 0 (adv v1 a) (fun _ _ _ h => h) (by rfl) 24 (.tmp 4) rfl rfl hS (fun w2 h2 => (AdBox.later A1.out h2 (Nat.le_refl _)).range) Try.underlying24 rfl (ad_size v1 A1.out.2) ?_
    simp only [Act.put, List.setIfInBounds_toArray, List.set_cons_zero, List.set_cons_succ]
    refine rg_load 10 rfl (by kernel_rfl) (by kernel_rfl) (by kernel_rfl) (w.heap.size + 1) 0 (adv v2 b) (fun _ _ _ h => h) (by rfl) 24 (.tmp 5) rfl rfl hS (fun w2 h2 => (AdBox.later A2.out h2 (Nat.le_refl _)).range) Try.underlying24 rfl (ad_size v2 A2.out.2) ?_
    simp only [Act.put, List.setIfInBounds_toArray, List.set_cons_zero, List.set_cons_succ]
    refine rg_take 11 (v := ?rv7) rfl (by kernel_rfl) (by kernel_rfl) (by kernel_rfl) (fun _ _ _ h => h) (by rfl) hS (fun w2 hw2 => ?ry7) ?rr7
    case ry7 => ((try dsimp only at hw2); go_simp <;> with_reducible rfl)
    simp only [Act.put, List.setIfInBounds_toArray, List.set_cons_zero, List.set_cons_succ]
    refine rg_take 12 (v := ?rv8) rfl (by kernel_rfl) (by kernel_rfl) (by kernel_rfl) (fun _ _ _ h => h) (by rfl) hS (fun w2 hw2 => ?ry8) ?rr8
    case ry8 => ((try dsimp only at hw2); go_simp <;> with_reducible rfl)
    simp only [Act.put, List.setIfInBounds_toArray, List.set_cons_zero, List.set_cons_succ]
    refine rg_load 14 rfl (by kernel_rfl) (by kernel_rfl) (by kernel_rfl) (w.heap.size) 0 (adv v1 a) (fun _ _ _ h => h) (by rfl) 24 (.tmp 4) rfl rfl hS (fun w2 h2 => (AdBox.later A1.out h2 (Nat.le_refl _)).range) Try.underlying24 rfl (ad_size v1 A1.out.2) ?_
    simp only [Act.put, List.setIfInBounds_toArray, List.set_cons_zero, List.set_cons_succ]
    refine rg_load 15 rfl (by kernel_rfl) (by kernel_rfl) (by kernel_rfl) (w.heap.size + 1) 0 (adv v2 b) (fun _ _ _ h => h) (by rfl) 24 (.tmp 5) rfl rfl hS (fun w2 h2 => (AdBox.later A2.out h2 (Nat.le_refl _)).range) Try.underlying24 rfl (ad_size v2 A2.out.2) ?_
    simp only [Act.put, List.setIfInBounds_toArray, List.set_cons_zero, List.set_cons_succ]
    refine rg_take 16 (v := ?rv9) rfl (by kernel_rfl) (by kernel_rfl) (by kernel_rfl) (fun _ _ _ h => h) (by rfl) hS (fun w2 hw2 => ?ry9) ?rr9
    case ry9 => ((try dsimp only at hw2); go_simp <;> with_reducible rfl)
    simp only [Act.put, List.setIfInBounds_toArray, List.set_cons_zero, List.set_cons_succ]
    refine rg_take 17 (v := ?rv10) rfl (by kernel_rfl) (by kernel_rfl) (by kernel_rfl) (fun _ _ _ h => h) (by rfl) hS (fun w2 hw2 => ?ry10) ?rr10
    case ry10 => ((try dsimp only at hw2); go_simp <;> with_reducible rfl)
    simp only [Act.put, List.setIfInBounds_toArray, List.set_cons_zero, List.set_cons_succ]
    refine rg_step 13 rfl (by kernel_rfl) (by rfl) (fun K hK => ?_)
    go_simp
    refine (over_any v1 v2 a b ha hb proto (HB.out.later (B2.out.trans (hS.mono B2.out.size)) (Nat.le_refl _)) (by omega)).mono ?_
    rintro e w3 ⟨rfl, b3⟩
    rw [HR.out.2.2]
    have hS1 := hS.trans (b3.mono hS.size)
    clear hS b3
    have hS := hS1
    clear hS1
    refine hK.out _ _ hS ?_
    clear hK K
    try simp only [Act.put, List.setIfInBounds_toArray, List.set_cons_zero, List.set_cons_succ]
    refine rg_step 18 rfl (by kernel_rfl) (by rfl) (fun K hK => ?_)
    go_simp
    refine (ref_over v1 v2 a b ha hb proto (HB.out.later (B2.out.trans (hS.mono B2.out.size)) (Nat.le_refl _)) (by omega)).mono ?_
    rintro e w4 ⟨rfl, b4⟩
    rw [HR.out.2.1]
    have hS1 := hS.trans (b4.mono hS.size)
    clear hS b4
    have hS := hS1
    clear hS1
    refine hK.out _ _ hS ?_
    clear hK K
    try simp only [Act.put, List.setIfInBounds_toArray, List.set_cons_zero, List.set_cons_succ]
    refine rg_take 19 (v := ?rv11) rfl (by kernel_rfl) (by kernel_rfl) (by kernel_rfl) (fun _ _ _ h => h) (by rfl) hS (fun w2 hw2 => ?ry11) ?rr11
    case ry11 => ((try dsimp only at hw2); go_simp <;> with_reducible rfl)
    simp only [Act.put, List.setIfInBounds_toArray, List.set_cons_zero, List.set_cons_succ]
    refine rg_take 20 (v := ?rv12) rfl (by kernel_rfl) (by kernel_rfl) (by kernel_rfl) (fun _ _ _ h => h) (by rfl) hS (fun w2 hw2 => ?ry12) ?rr12
    case ry12 => ((try dsimp only at hw2); go_simp <;> with_reducible rfl)
    simp only [Act.put, List.setIfInBounds_toArray, List.set_cons_zero, List.set_cons_succ]
    refine rg_take 21 (v := ?rv13) rfl (by kernel_rfl) (by kernel_rfl) (by kernel_rfl) (fun _ _ _ h => h) (by rfl) hS (fun w2 hw2 => ?ry13) ?rr13
    case ry13 => ((try dsimp only at hw2); go_simp <;> with_reducible rfl)
    simp only [Act.put, List.setIfInBounds_toArray, List.set_cons_zero, List.set_cons_succ]
    refine rg_done (by kernel_rfl) ?_
    have H5 := Lib.hid (B2.out.trans (hS.mono B2.out.size))
    clear hS
    go_wp2_with fail
    go_ret
    exact ⟨rfl, H5.out⟩
end Go.Proofs.Ythkhbjjiffpkoaa
