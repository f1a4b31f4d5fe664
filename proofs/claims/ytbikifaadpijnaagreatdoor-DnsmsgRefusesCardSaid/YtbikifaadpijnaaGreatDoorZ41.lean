/-
  Package record's RightRecord: whatever record. Conditions: those of the slice; names of up to a million bytes; what the program's text has laid.
  Package record's written, WriteQuestion, WriteRecord. Conditions: those of the slices; names of up to a million bytes; what the program's text has laid.
  stockadelaw13.awake answers true. Conditions: what the program's text has laid.
-/
import Derived.Test.YtbikifaadpijnaaGreatDoorZ40
import Derived.Test.YtbikifaadpijnaaGreatDoorZ36
import Derived.Test.YtbikifaadpijnaaGreatDoorZ27
import Derived.Test.YtbikifaadpijnaaGreatDoorZ25
namespace Go.Proofs.YtbikifaadpijnaaGreatDoor
open Go.RowKit
set_option maxRecDepth 100000

set_option maxHeartbeats 8000000 in
theorem rightR_any {r : Rc} (hk : r.ok) {A : Option Addr} {n c : Nat} {w : World} (hb : Bs w A n c r.data) (hn : r.name.length ≤ 1000000) (ht : r.target.length ≤ 1000000) (hE : Env w) : Calls Tryz.prog 62 #[.agg (rcv r A n c)] w fun e w' => e = .returned (.bool (decide (rightR r))) ∧ Below w.heap.size w w' := by
  have a1 := RcBox.new w hk A n c
  have b1 : Below w.heap.size w (w.alloc (.cells (rcv r A n c) 57)) := (Below.refl _ _).alloc (Nat.le_refl _) _
  obtain ⟨W, hW⟩ : ∃ W, w.alloc (.cells (rcv r A n c) 57) = W := ⟨_, rfl⟩
  rw [hW] at a1 b1
  have HA := Lib.hid (And.intro a1 b1)
  have HW := Lib.hid hW
  have HB := Lib.hid (And.intro hb hE)
  have d21 : ∀ w', Below W.heap.size W w' → w'.cell? ⟨w.heap.size, 21, none⟩ = some (.string (mkS r.target)) := fun w' h => (HA.out.1.later h (Nat.le_refl _)).target
  have d22 : ∀ w', Below W.heap.size W w' → w'.cell? ⟨w.heap.size, 22, none⟩ = some (.slice A n c) := fun w' h => (HA.out.1.later h (Nat.le_refl _)).data
  have KQ := fun w1 (g : Below W.heap.size W w1) => rightQ_any r.asks hn (hE.later (HA.out.2.trans (g.mono HA.out.2.size)) (Nat.le_refl _))
  have KT := fun w1 (g : Below W.heap.size W w1) => right_any (mkS r.target) (by rw [mkS_size]; exact ht) (hE.later (HA.out.2.trans (g.mono HA.out.2.size)) (Nat.le_refl _))
  rw [mkS_data] at KT
  have KA := fun w1 => Right_any r.v6 r.adr hk w1
  rw [rightv_dec r.v6 hk] at KA
  have hlen := hb.len
  clear a1 b1 hW hb hE
  have HK := Lib.hid hk
  unfold rightR
  by_cases h0 : rightQ r.asks
  case neg =>
    rw [decide_eq_false (show ¬ (rightQ r.asks ∧ rightA r.v6 r.adr ∧ rightN r.target ∧ r.data.length ≤ 1000 ∧ alikeV r (bareV r)) from fun h => h0 h.1)]
    rw [decide_eq_false h0] at KQ
    have KQ := Lib.hid KQ
    have KA := Lib.hid KA
    have KT := Lib.hid KT
    go_enter Tryz.func62, Tryz.ntmps62
    go_wp2_with fail
    rw [HW.out]
    have hS : Below W.heap.size W W.drew := (Below.refl _ _).drew
    refine rg_begin (fun w' => Below W.heap.size W w') 26 (by kernel_rfl) rfl ?_
    refine rg_load 0 rfl (by kernel_rfl) (by kernel_rfl) (by kernel_rfl) (w.heap.size) (0) ((rcv r A n c)) (fun _ _ _ h => h) (by rfl) 57 (.tmp 1) rfl rfl hS (fun w2 h2 => (RcBox.later HA.out.1 h2 (Nat.le_refl _)).range) Tryz.underlying57 rfl (rc_size HK.out A n c) ?_
    simp only [Act.put, List.setIfInBounds_toArray, List.set_cons_zero, List.set_cons_succ]
    refine rg_step 1 rfl (by kernel_rfl) (by rfl) (fun K hK => ?_)
    go_simp
    refine (asked_any HK.out A n c _).mono ?_
    rintro e w1 ⟨rfl, g1⟩
    replace hS := hS.trans (g1.mono hS.size)
    clear g1
    refine hK.out _ _ hS ?_
    clear hK K
    try simp only [Act.put, List.setIfInBounds_toArray, List.set_cons_zero, List.set_cons_succ]
    refine rg_step 2 rfl (by kernel_rfl) (by rfl) (fun K hK => ?_)
    go_simp
    refine (KQ.out _ hS).mono ?_
    rintro e w2 ⟨rfl, g2⟩
    replace hS := hS.trans (g2.mono hS.size)
    clear g2
    refine hK.out _ _ hS ?_
    clear hK K
    try simp only [Act.put, List.setIfInBounds_toArray, List.set_cons_zero, List.set_cons_succ]
    refine rg_take 3 (v := ?rv1) rfl (by kernel_rfl) (by kernel_rfl) (by kernel_rfl) (fun _ _ _ h => h) (by rfl) hS (fun w2 hw2 => ?ry1) ?rr1
    case ry1 => ((try dsimp only at hw2); go_simp <;> with_reducible rfl)
    simp only [Act.put, List.setIfInBounds_toArray, List.set_cons_zero, List.set_cons_succ]
    refine rg_skip 4 rfl (by kernel_rfl) (by kernel_rfl) (by kernel_rfl) (fun _ _ _ h => h) (by rfl) hS ?_
    simp only [Act.put, List.setIfInBounds_toArray, List.set_cons_zero, List.set_cons_succ]
    refine rg_skip 5 rfl (by kernel_rfl) (by kernel_rfl) (by kernel_rfl) (fun _ _ _ h => h) (by rfl) hS ?_
    simp only [Act.put, List.setIfInBounds_toArray, List.set_cons_zero, List.set_cons_succ]
    refine rg_skip 6 rfl (by kernel_rfl) (by kernel_rfl) (by kernel_rfl) (fun _ _ _ h => h) (by rfl) hS ?_
    simp only [Act.put, List.setIfInBounds_toArray, List.set_cons_zero, List.set_cons_succ]
    refine rg_take 7 (v := ?rv2) rfl (by kernel_rfl) (by kernel_rfl) (by kernel_rfl) (fun _ _ _ h => h) (by rfl) hS (fun w2 hw2 => ?ry2) ?rr2
    case ry2 => ((try dsimp only at hw2); go_simp <;> with_reducible rfl)
    simp only [Act.put, List.setIfInBounds_toArray, List.set_cons_zero, List.set_cons_succ]
    refine rg_take 8 (v := ?rv3) rfl (by kernel_rfl) (by kernel_rfl) (by kernel_rfl) (fun _ _ _ h => h) (by rfl) hS (fun w2 hw2 => ?ry3) ?rr3
    case ry3 => ((try dsimp only at hw2); go_simp <;> with_reducible rfl)
    simp only [Act.put, List.setIfInBounds_toArray, List.set_cons_zero, List.set_cons_succ]
    refine rg_skip 9 rfl (by kernel_rfl) (by kernel_rfl) (by kernel_rfl) (fun _ _ _ h => h) (by rfl) hS ?_
    simp only [Act.put, List.setIfInBounds_toArray, List.set_cons_zero, List.set_cons_succ]
    refine rg_skip 10 rfl (by kernel_rfl) (by kernel_rfl) (by kernel_rfl) (fun _ _ _ h => h) (by rfl) hS ?_
    simp only [Act.put, List.setIfInBounds_toArray, List.set_cons_zero, List.set_cons_succ]
    refine rg_skip 11 rfl (by kernel_rfl) (by kernel_rfl) (by kernel_rfl) (fun _ _ _ h => h) (by rfl) hS ?_
    simp only [Act.put, List.setIfInBounds_toArray, List.set_cons_zero, List.set_cons_succ]
    refine rg_take 12 (v := ?rv4) rfl (by kernel_rfl) (by kernel_rfl) (by kernel_rfl) (fun _ _ _ h => h) (by rfl) hS (fun w2 hw2 => ?ry4) ?rr4
    case ry4 => ((try dsimp only at hw2); go_simp <;> with_reducible rfl)
    simp only [Act.put, List.setIfInBounds_toArray, List.set_cons_zero, List.set_cons_succ]
    refine rg_take 13 (v := ?rv5) rfl (by kernel_rfl) (by kernel_rfl) (by kernel_rfl) (fun _ _ _ h => h) (by rfl) hS (fun w2 hw2 => ?ry5) ?rr5
    case ry5 => ((try dsimp only at hw2); go_simp <;> with_reducible rfl)
    simp only [Act.put, List.setIfInBounds_toArray, List.set_cons_zero, List.set_cons_succ]
    refine rg_skip 14 rfl (by kernel_rfl) (by kernel_rfl) (by kernel_rfl) (fun _ _ _ h => h) (by rfl) hS ?_
    simp only [Act.put, List.setIfInBounds_toArray, List.set_cons_zero, List.set_cons_succ]
    refine rg_skip 15 rfl (by kernel_rfl) (by kernel_rfl) (by kernel_rfl) (fun _ _ _ h => h) (by rfl) hS ?_
    simp only [Act.put, List.setIfInBounds_toArray, List.set_cons_zero, List.set_cons_succ]
    refine rg_skip 16 rfl (by kernel_rfl) (by kernel_rfl) (by kernel_rfl) (fun _ _ _ h => h) (by rfl) hS ?_
    simp only [Act.put, List.setIfInBounds_toArray, List.set_cons_zero, List.set_cons_succ]
    refine rg_skip 17 rfl (by kernel_rfl) (by kernel_rfl) (by kernel_rfl) (fun _ _ _ h => h) (by rfl) hS ?_
    simp only [Act.put, List.setIfInBounds_toArray, List.set_cons_zero, List.set_cons_succ]
    refine rg_take 18 (v := ?rv6) rfl (by kernel_rfl) (by kernel_rfl) (by kernel_rfl) (fun _ _ _ h => h) (by rfl) hS (fun w2 hw2 => ?ry6) ?rr6
    case ry6 => ((try dsimp only at hw2); go_simp <;> with_reducible rfl)
    simp only [Act.put, List.setIfInBounds_toArray, List.set_cons_zero, List.set_cons_succ]
    refine rg_take 19 (v := ?rv7) rfl (by kernel_rfl) (by kernel_rfl) (by kernel_rfl) (fun _ _ _ h => h) (by rfl) hS (fun w2 hw2 => ?ry7) ?rr7
    case ry7 => ((try dsimp only at hw2); go_simp <;> with_reducible rfl)
    simp only [Act.put, List.setIfInBounds_toArray, List.set_cons_zero, List.set_cons_succ]
    refine rg_skip 20 rfl (by kernel_rfl) (by kernel_rfl) (by kernel_rfl) (fun _ _ _ h => h) (by rfl) hS ?_
    simp only [Act.put, List.setIfInBounds_toArray, List.set_cons_zero, List.set_cons_succ]
    refine rg_skip 21 rfl (by kernel_rfl) (by kernel_rfl) (by kernel_rfl) (fun _ _ _ h => h) (by rfl) hS ?_
    simp only [Act.put, List.setIfInBounds_toArray, List.set_cons_zero, List.set_cons_succ]
    refine rg_skip 22 rfl (by kernel_rfl) (by kernel_rfl) (by kernel_rfl) (fun _ _ _ h => h) (by rfl) hS ?_
    simp only [Act.put, List.setIfInBounds_toArray, List.set_cons_zero, List.set_cons_succ]
    refine rg_skip 23 rfl (by kernel_rfl) (by kernel_rfl) (by kernel_rfl) (fun _ _ _ h => h) (by rfl) hS ?_
    simp only [Act.put, List.setIfInBounds_toArray, List.set_cons_zero, List.set_cons_succ]
    refine rg_take 24 (v := ?rv8) rfl (by kernel_rfl) (by kernel_rfl) (by kernel_rfl) (fun _ _ _ h => h) (by rfl) hS (fun w2 hw2 => ?ry8) ?rr8
    case ry8 => ((try dsimp only at hw2); go_simp <;> with_reducible rfl)
    simp only [Act.put, List.setIfInBounds_toArray, List.set_cons_zero, List.set_cons_succ]
    refine rg_take 25 (v := ?rv9) rfl (by kernel_rfl) (by kernel_rfl) (by kernel_rfl) (fun _ _ _ h => h) (by rfl) hS (fun w2 hw2 => ?ry9) ?rr9
    case ry9 => ((try dsimp only at hw2); go_simp <;> with_reducible rfl)
    simp only [Act.put, List.setIfInBounds_toArray, List.set_cons_zero, List.set_cons_succ]
    refine rg_done (by kernel_rfl) ?_
    have HS := Lib.hid (HA.out.2.trans (hS.mono HA.out.2.size))
    clear hS
    go_wp2_with fail
    go_ret
    exact ⟨rfl, HS.out⟩
  by_cases h1 : rightA r.v6 r.adr
  case neg =>
    rw [decide_eq_false (show ¬ (rightQ r.asks ∧ rightA r.v6 r.adr ∧ rightN r.target ∧ r.data.length ≤ 1000 ∧ alikeV r (bareV r)) from fun h => h1 h.2.1)]
    rw [decide_eq_true h0] at KQ
    rw [decide_eq_false h1] at KA
    have KQ := Lib.hid KQ
    have KA := Lib.hid KA
    have KT := Lib.hid KT
    go_enter Tryz.func62, Tryz.ntmps62
    go_wp2_with fail
    rw [HW.out]
    have hS : Below W.heap.size W W.drew := (Below.refl _ _).drew
    refine rg_begin (fun w' => Below W.heap.size W w') 26 (by kernel_rfl) rfl ?_
    refine rg_load 0 rfl (by kernel_rfl) (by kernel_rfl) (by kernel_rfl) (w.heap.size) (0) ((rcv r A n c)) (fun _ _ _ h => h) (by rfl) 57 (.tmp 1) rfl rfl hS (fun w2 h2 => (RcBox.later HA.out.1 h2 (Nat.le_refl _)).range) Tryz.underlying57 rfl (rc_size HK.out A n c) ?_
    simp only [Act.put, List.setIfInBounds_toArray, List.set_cons_zero, List.set_cons_succ]
    refine rg_step 1 rfl (by kernel_rfl) (by rfl) (fun K hK => ?_)
    go_simp
    refine (asked_any HK.out A n c _).mono ?_
    rintro e w1 ⟨rfl, g1⟩
    replace hS := hS.trans (g1.mono hS.size)
    clear g1
    refine hK.out _ _ hS ?_
    clear hK K
    try simp only [Act.put, List.setIfInBounds_toArray, List.set_cons_zero, List.set_cons_succ]
    refine rg_step 2 rfl (by kernel_rfl) (by rfl) (fun K hK => ?_)
    go_simp
    refine (KQ.out _ hS).mono ?_
    rintro e w2 ⟨rfl, g2⟩
    replace hS := hS.trans (g2.mono hS.size)
    clear g2
    refine hK.out _ _ hS ?_
    clear hK K
    try simp only [Act.put, List.setIfInBounds_toArray, List.set_cons_zero, List.set_cons_succ]
    refine rg_take 3 (v := ?rv10) rfl (by kernel_rfl) (by kernel_rfl) (by kernel_rfl) (fun _ _ _ h => h) (by rfl) hS (fun w2 hw2 => ?ry10) ?rr10
    case ry10 => ((try dsimp only at hw2); go_simp <;> with_reducible rfl)
    simp only [Act.put, List.setIfInBounds_toArray, List.set_cons_zero, List.set_cons_succ]
    refine rg_take 4 (v := ?rv11) rfl (by kernel_rfl) (by kernel_rfl) (by kernel_rfl) (fun _ _ _ h => h) (by rfl) hS (fun w2 hw2 => ?ry11) ?rr11
    case ry11 => ((try dsimp only at hw2); go_simp <;> with_reducible rfl)
    simp only [Act.put, List.setIfInBounds_toArray, List.set_cons_zero, List.set_cons_succ]
    refine rg_load 5 rfl (by kernel_rfl) (by kernel_rfl) (by kernel_rfl) (w.heap.size) (4) ((adv r.v6 r.adr)) (fun _ _ _ h => h) (by rfl) 55 (.tmp 7) rfl rfl hS (fun w2 h2 => (RcBox.later HA.out.1 h2 (Nat.le_refl _)).adrR) Tryz.underlying55 rfl (ad_size r.v6 HK.out) ?_
    simp only [Act.put, List.setIfInBounds_toArray, List.set_cons_zero, List.set_cons_succ]
    refine rg_step 6 rfl (by kernel_rfl) (by rfl) (fun K hK => ?_)
    go_simp
    refine (KA.out _).mono ?_
    rintro e w3 ⟨rfl, g3⟩
    replace hS := hS.trans (g3.mono hS.size)
    clear g3
    refine hK.out _ _ hS ?_
    clear hK K
    try simp only [Act.put, List.setIfInBounds_toArray, List.set_cons_zero, List.set_cons_succ]
    refine rg_take 7 (v := ?rv12) rfl (by kernel_rfl) (by kernel_rfl) (by kernel_rfl) (fun _ _ _ h => h) (by rfl) hS (fun w2 hw2 => ?ry12) ?rr12
    case ry12 => ((try dsimp only at hw2); go_simp <;> with_reducible rfl)
    simp only [Act.put, List.setIfInBounds_toArray, List.set_cons_zero, List.set_cons_succ]
    refine rg_take 8 (v := ?rv13) rfl (by kernel_rfl) (by kernel_rfl) (by kernel_rfl) (fun _ _ _ h => h) (by rfl) hS (fun w2 hw2 => ?ry13) ?rr13
    case ry13 => ((try dsimp only at hw2); go_simp <;> with_reducible rfl)
    simp only [Act.put, List.setIfInBounds_toArray, List.set_cons_zero, List.set_cons_succ]
    refine rg_skip 9 rfl (by kernel_rfl) (by kernel_rfl) (by kernel_rfl) (fun _ _ _ h => h) (by rfl) hS ?_
    simp only [Act.put, List.setIfInBounds_toArray, List.set_cons_zero, List.set_cons_succ]
    refine rg_skip 10 rfl (by kernel_rfl) (by kernel_rfl) (by kernel_rfl) (fun _ _ _ h => h) (by rfl) hS ?_
    simp only [Act.put, List.setIfInBounds_toArray, List.set_cons_zero, List.set_cons_succ]
    refine rg_skip 11 rfl (by kernel_rfl) (by kernel_rfl) (by kernel_rfl) (fun _ _ _ h => h) (by rfl) hS ?_
    simp only [Act.put, List.setIfInBounds_toArray, List.set_cons_zero, List.set_cons_succ]
    refine rg_take 12 (v := ?rv14) rfl (by kernel_rfl) (by kernel_rfl) (by kernel_rfl) (fun _ _ _ h => h) (by rfl) hS (fun w2 hw2 => ?ry14) ?rr14
    case ry14 => ((try dsimp only at hw2); go_simp <;> with_reducible rfl)
    simp only [Act.put, List.setIfInBounds_toArray, List.set_cons_zero, List.set_cons_succ]
    refine rg_take 13 (v := ?rv15) rfl (by kernel_rfl) (by kernel_rfl) (by kernel_rfl) (fun _ _ _ h => h) (by rfl) hS (fun w2 hw2 => ?ry15) ?rr15
    case ry15 => ((try dsimp only at hw2); go_simp <;> with_reducible rfl)
    simp only [Act.put, List.setIfInBounds_toArray, List.set_cons_zero, List.set_cons_succ]
    refine rg_skip 14 rfl (by kernel_rfl) (by kernel_rfl) (by kernel_rfl) (fun _ _ _ h => h) (by rfl) hS ?_
    simp only [Act.put, List.setIfInBounds_toArray, List.set_cons_zero, List.set_cons_succ]
    refine rg_skip 15 rfl (by kernel_rfl) (by kernel_rfl) (by kernel_rfl) (fun _ _ _ h => h) (by rfl) hS ?_
    simp only [Act.put, List.setIfInBounds_toArray, List.set_cons_zero, List.set_cons_succ]
    refine rg_skip 16 rfl (by kernel_rfl) (by kernel_rfl) (by kernel_rfl) (fun _ _ _ h => h) (by rfl) hS ?_
    simp only [Act.put, List.setIfInBounds_toArray, List.set_cons_zero, List.set_cons_succ]
    refine rg_skip 17 rfl (by kernel_rfl) (by kernel_rfl) (by kernel_rfl) (fun _ _ _ h => h) (by rfl) hS ?_
    simp only [Act.put, List.setIfInBounds_toArray, List.set_cons_zero, List.set_cons_succ]
    refine rg_take 18 (v := ?rv16) rfl (by kernel_rfl) (by kernel_rfl) (by kernel_rfl) (fun _ _ _ h => h) (by rfl) hS (fun w2 hw2 => ?ry16) ?rr16
    case ry16 => ((try dsimp only at hw2); go_simp <;> with_reducible rfl)
    simp only [Act.put, List.setIfInBounds_toArray, List.set_cons_zero, List.set_cons_succ]
    refine rg_take 19 (v := ?rv17) rfl (by kernel_rfl) (by kernel_rfl) (by kernel_rfl) (fun _ _ _ h => h) (by rfl) hS (fun w2 hw2 => ?ry17) ?rr17
    case ry17 => ((try dsimp only at hw2); go_simp <;> with_reducible rfl)
    simp only [Act.put, List.setIfInBounds_toArray, List.set_cons_zero, List.set_cons_succ]
    refine rg_skip 20 rfl (by kernel_rfl) (by kernel_rfl) (by kernel_rfl) (fun _ _ _ h => h) (by rfl) hS ?_
    simp only [Act.put, List.setIfInBounds_toArray, List.set_cons_zero, List.set_cons_succ]
    refine rg_skip 21 rfl (by kernel_rfl) (by kernel_rfl) (by kernel_rfl) (fun _ _ _ h => h) (by rfl) hS ?_
    simp only [Act.put, List.setIfInBounds_toArray, List.set_cons_zero, List.set_cons_succ]
    refine rg_skip 22 rfl (by kernel_rfl) (by kernel_rfl) (by kernel_rfl) (fun _ _ _ h => h) (by rfl) hS ?_
    simp only [Act.put, List.setIfInBounds_toArray, List.set_cons_zero, List.set_cons_succ]
    refine rg_skip 23 rfl (by kernel_rfl) (by kernel_rfl) (by kernel_rfl) (fun _ _ _ h => h) (by rfl) hS ?_
    simp only [Act.put, List.setIfInBounds_toArray, List.set_cons_zero, List.set_cons_succ]
    refine rg_take 24 (v := ?rv18) rfl (by kernel_rfl) (by kernel_rfl) (by kernel_rfl) (fun _ _ _ h => h) (by rfl) hS (fun w2 hw2 => ?ry18) ?rr18
    case ry18 => ((try dsimp only at hw2); go_simp <;> with_reducible rfl)
    simp only [Act.put, List.setIfInBounds_toArray, List.set_cons_zero, List.set_cons_succ]
    refine rg_take 25 (v := ?rv19) rfl (by kernel_rfl) (by kernel_rfl) (by kernel_rfl) (fun _ _ _ h => h) (by rfl) hS (fun w2 hw2 => ?ry19) ?rr19
    case ry19 => ((try dsimp only at hw2); go_simp <;> with_reducible rfl)
    simp only [Act.put, List.setIfInBounds_toArray, List.set_cons_zero, List.set_cons_succ]
    refine rg_done (by kernel_rfl) ?_
    have HS := Lib.hid (HA.out.2.trans (hS.mono HA.out.2.size))
    clear hS
    go_wp2_with fail
    go_ret
    exact ⟨rfl, HS.out⟩
  by_cases h2 : rightN r.target
  case neg =>
    rw [decide_eq_false (show ¬ (rightQ r.asks ∧ rightA r.v6 r.adr ∧ rightN r.target ∧ r.data.length ≤ 1000 ∧ alikeV r (bareV r)) from fun h => h2 h.2.2.1)]
    rw [decide_eq_true h0] at KQ
    rw [decide_eq_true h1] at KA
    rw [decide_eq_false h2] at KT
    have KQ := Lib.hid KQ
    have KA := Lib.hid KA
    have KT := Lib.hid KT
    go_enter Tryz.func62, Tryz.ntmps62
    go_wp2_with fail
    rw [HW.out]
    have hS : Below W.heap.size W W.drew := (Below.refl _ _).drew
    refine rg_begin (fun w' => Below W.heap.size W w') 26 (by kernel_rfl) rfl ?_
    refine rg_load 0 rfl (by kernel_rfl) (by kernel_rfl) (by kernel_rfl) (w.heap.size) (0) ((rcv r A n c)) (fun _ _ _ h => h) (by rfl) 57 (.tmp 1) rfl rfl hS (fun w2 h2 => (RcBox.later HA.out.1 h2 (Nat.le_refl _)).range) Tryz.underlying57 rfl (rc_size HK.out A n c) ?_
    simp only [Act.put, List.setIfInBounds_toArray, List.set_cons_zero, List.set_cons_succ]
    refine rg_step 1 rfl (by kernel_rfl) (by rfl) (fun K hK => ?_)
    go_simp
    refine (asked_any HK.out A n c _).mono ?_
    rintro e w1 ⟨rfl, g1⟩
    replace hS := hS.trans (g1.mono hS.size)
    clear g1
    refine hK.out _ _ hS ?_
    clear hK K
    try simp only [Act.put, List.setIfInBounds_toArray, List.set_cons_zero, List.set_cons_succ]
    refine rg_step 2 rfl (by kernel_rfl) (by rfl) (fun K hK => ?_)
    go_simp
    refine (KQ.out _ hS).mono ?_
    rintro e w2 ⟨rfl, g2⟩
    replace hS := hS.trans (g2.mono hS.size)
    clear g2
    refine hK.out _ _ hS ?_
    clear hK K
    try simp only [Act.put, List.setIfInBounds_toArray, List.set_cons_zero, List.set_cons_succ]
    refine rg_take 3 (v := ?rv20) rfl (by kernel_rfl) (by kernel_rfl) (by kernel_rfl) (fun _ _ _ h => h) (by rfl) hS (fun w2 hw2 => ?ry20) ?rr20
    case ry20 => ((try dsimp only at hw2); go_simp <;> with_reducible rfl)
    simp only [Act.put, List.setIfInBounds_toArray, List.set_cons_zero, List.set_cons_succ]
    refine rg_take 4 (v := ?rv21) rfl (by kernel_rfl) (by kernel_rfl) (by kernel_rfl) (fun _ _ _ h => h) (by rfl) hS (fun w2 hw2 => ?ry21) ?rr21
    case ry21 => ((try dsimp only at hw2); go_simp <;> with_reducible rfl)
    simp only [Act.put, List.setIfInBounds_toArray, List.set_cons_zero, List.set_cons_succ]
    refine rg_load 5 rfl (by kernel_rfl) (by kernel_rfl) (by kernel_rfl) (w.heap.size) (4) ((adv r.v6 r.adr)) (fun _ _ _ h => h) (by rfl) 55 (.tmp 7) rfl rfl hS (fun w2 h2 => (RcBox.later HA.out.1 h2 (Nat.le_refl _)).adrR) Tryz.underlying55 rfl (ad_size r.v6 HK.out) ?_
    simp only [Act.put, List.setIfInBounds_toArray, List.set_cons_zero, List.set_cons_succ]
    refine rg_step 6 rfl (by kernel_rfl) (by rfl) (fun K hK => ?_)
    go_simp
    refine (KA.out _).mono ?_
    rintro e w3 ⟨rfl, g3⟩
    replace hS := hS.trans (g3.mono hS.size)
    clear g3
    refine hK.out _ _ hS ?_
    clear hK K
    try simp only [Act.put, List.setIfInBounds_toArray, List.set_cons_zero, List.set_cons_succ]
    refine rg_take 7 (v := ?rv22) rfl (by kernel_rfl) (by kernel_rfl) (by kernel_rfl) (fun _ _ _ h => h) (by rfl) hS (fun w2 hw2 => ?ry22) ?rr22
    case ry22 => ((try dsimp only at hw2); go_simp <;> with_reducible rfl)
    simp only [Act.put, List.setIfInBounds_toArray, List.set_cons_zero, List.set_cons_succ]
    refine rg_take 8 (v := ?rv23) rfl (by kernel_rfl) (by kernel_rfl) (by kernel_rfl) (fun _ _ _ h => h) (by rfl) hS (fun w2 hw2 => ?ry23) ?rr23
    case ry23 => ((try dsimp only at hw2); go_simp <;> with_reducible rfl)
    simp only [Act.put, List.setIfInBounds_toArray, List.set_cons_zero, List.set_cons_succ]
    refine rg_take 9 (v := ?rv24) rfl (by kernel_rfl) (by kernel_rfl) (by kernel_rfl) (fun _ _ _ h => h) (by rfl) hS (fun w2 hw2 => ?ry24) ?rr24
    case ry24 => ((try dsimp only at hw2); go_simp <;> with_reducible rfl)
    simp only [Act.put, List.setIfInBounds_toArray, List.set_cons_zero, List.set_cons_succ]
    refine rg_take 10 (v := ?rv25) rfl (by kernel_rfl) (by kernel_rfl) (by kernel_rfl) (fun _ _ _ h => h) (by rfl) hS (fun w2 hw2 => ?ry25) ?rr25
    case ry25 => ((try dsimp only at hw2); go_simp <;> with_reducible rfl)
    simp only [Act.put, List.setIfInBounds_toArray, List.set_cons_zero, List.set_cons_succ]
    refine rg_step 11 rfl (by kernel_rfl) (by rfl) (fun K hK => ?_)
    go_simp
    refine (KT.out _ hS).mono ?_
    rintro e w4 ⟨rfl, g4⟩
    replace hS := hS.trans (g4.mono hS.size)
    clear g4
    refine hK.out _ _ hS ?_
    clear hK K
    try simp only [Act.put, List.setIfInBounds_toArray, List.set_cons_zero, List.set_cons_succ]
    refine rg_take 12 (v := ?rv26) rfl (by kernel_rfl) (by kernel_rfl) (by kernel_rfl) (fun _ _ _ h => h) (by rfl) hS (fun w2 hw2 => ?ry26) ?rr26
    case ry26 => ((try dsimp only at hw2); go_simp <;> with_reducible rfl)
    simp only [Act.put, List.setIfInBounds_toArray, List.set_cons_zero, List.set_cons_succ]
    refine rg_take 13 (v := ?rv27) rfl (by kernel_rfl) (by kernel_rfl) (by kernel_rfl) (fun _ _ _ h => h) (by rfl) hS (fun w2 hw2 => ?ry27) ?rr27
    case ry27 => ((try dsimp only at hw2); go_simp <;> with_reducible rfl)
    simp only [Act.put, List.setIfInBounds_toArray, List.set_cons_zero, List.set_cons_succ]
    refine rg_skip 14 rfl (by kernel_rfl) (by kernel_rfl) (by kernel_rfl) (fun _ _ _ h => h) (by rfl) hS ?_
    simp only [Act.put, List.setIfInBounds_toArray, List.set_cons_zero, List.set_cons_succ]
    refine rg_skip 15 rfl (by kernel_rfl) (by kernel_rfl) (by kernel_rfl) (fun _ _ _ h => h) (by rfl) hS ?_
    simp only [Act.put, List.setIfInBounds_toArray, List.set_cons_zero, List.set_cons_succ]
    refine rg_skip 16 rfl (by kernel_rfl) (by kernel_rfl) (by kernel_rfl) (fun _ _ _ h => h) (by rfl) hS ?_
    simp only [Act.put, List.setIfInBounds_toArray, List.set_cons_zero, List.set_cons_succ]
    refine rg_skip 17 rfl (by kernel_rfl) (by kernel_rfl) (by kernel_rfl) (fun _ _ _ h => h) (by rfl) hS ?_
    simp only [Act.put, List.setIfInBounds_toArray, List.set_cons_zero, List.set_cons_succ]
    refine rg_take 18 (v := ?rv28) rfl (by kernel_rfl) (by kernel_rfl) (by kernel_rfl) (fun _ _ _ h => h) (by rfl) hS (fun w2 hw2 => ?ry28) ?rr28
    case ry28 => ((try dsimp only at hw2); go_simp <;> with_reducible rfl)
    simp only [Act.put, List.setIfInBounds_toArray, List.set_cons_zero, List.set_cons_succ]
    refine rg_take 19 (v := ?rv29) rfl (by kernel_rfl) (by kernel_rfl) (by kernel_rfl) (fun _ _ _ h => h) (by rfl) hS (fun w2 hw2 => ?ry29) ?rr29
    case ry29 => ((try dsimp only at hw2); go_simp <;> with_reducible rfl)
    simp only [Act.put, List.setIfInBounds_toArray, List.set_cons_zero, List.set_cons_succ]
    refine rg_skip 20 rfl (by kernel_rfl) (by kernel_rfl) (by kernel_rfl) (fun _ _ _ h => h) (by rfl) hS ?_
    simp only [Act.put, List.setIfInBounds_toArray, List.set_cons_zero, List.set_cons_succ]
    refine rg_skip 21 rfl (by kernel_rfl) (by kernel_rfl) (by kernel_rfl) (fun _ _ _ h => h) (by rfl) hS ?_
    simp only [Act.put, List.setIfInBounds_toArray, List.set_cons_zero, List.set_cons_succ]
    refine rg_skip 22 rfl (by kernel_rfl) (by kernel_rfl) (by kernel_rfl) (fun _ _ _ h => h) (by rfl) hS ?_
    simp only [Act.put, List.setIfInBounds_toArray, List.set_cons_zero, List.set_cons_succ]
    refine rg_skip 23 rfl (by kernel_rfl) (by kernel_rfl) (by kernel_rfl) (fun _ _ _ h => h) (by rfl) hS ?_
    simp only [Act.put, List.setIfInBounds_toArray, List.set_cons_zero, List.set_cons_succ]
    refine rg_take 24 (v := ?rv30) rfl (by kernel_rfl) (by kernel_rfl) (by kernel_rfl) (fun _ _ _ h => h) (by rfl) hS (fun w2 hw2 => ?ry30) ?rr30
    case ry30 => ((try dsimp only at hw2); go_simp <;> with_reducible rfl)
    simp only [Act.put, List.setIfInBounds_toArray, List.set_cons_zero, List.set_cons_succ]
    refine rg_take 25 (v := ?rv31) rfl (by kernel_rfl) (by kernel_rfl) (by kernel_rfl) (fun _ _ _ h => h) (by rfl) hS (fun w2 hw2 => ?ry31) ?rr31
    case ry31 => ((try dsimp only at hw2); go_simp <;> with_reducible rfl)
    simp only [Act.put, List.setIfInBounds_toArray, List.set_cons_zero, List.set_cons_succ]
    refine rg_done (by kernel_rfl) ?_
    have HS := Lib.hid (HA.out.2.trans (hS.mono HA.out.2.size))
    clear hS
    go_wp2_with fail
    go_ret
    exact ⟨rfl, HS.out⟩
  by_cases h3 : r.data.length ≤ 1000
  case neg =>
    rw [decide_eq_false (show ¬ (rightQ r.asks ∧ rightA r.v6 r.adr ∧ rightN r.target ∧ r.data.length ≤ 1000 ∧ alikeV r (bareV r)) from fun h => h3 h.2.2.2.1)]
    rw [decide_eq_true h0] at KQ
    rw [decide_eq_true h1] at KA
    rw [decide_eq_true h2] at KT
    have q1000 : decide ((n : Int) ≤ 1000) = false := decide_eq_false (by omega)
    have KQ := Lib.hid KQ
    have KA := Lib.hid KA
    have KT := Lib.hid KT
    go_enter Tryz.func62, Tryz.ntmps62
    go_wp2_with fail
    rw [HW.out]
    have hS : Below W.heap.size W W.drew := (Below.refl _ _).drew
    refine rg_begin (fun w' => Below W.heap.size W w') 26 (by kernel_rfl) rfl ?_
    refine rg_load 0 rfl (by kernel_rfl) (by kernel_rfl) (by kernel_rfl) (w.heap.size) (0) ((rcv r A n c)) (fun _ _ _ h => h) (by rfl) 57 (.tmp 1) rfl rfl hS (fun w2 h2 => (RcBox.later HA.out.1 h2 (Nat.le_refl _)).range) Tryz.underlying57 rfl (rc_size HK.out A n c) ?_
    simp only [Act.put, List.setIfInBounds_toArray, List.set_cons_zero, List.set_cons_succ]
    refine rg_step 1 rfl (by kernel_rfl) (by rfl) (fun K hK => ?_)
    go_simp
    refine (asked_any HK.out A n c _).mono ?_
    rintro e w1 ⟨rfl, g1⟩
    replace hS := hS.trans (g1.mono hS.size)
    clear g1
    refine hK.out _ _ hS ?_
    clear hK K
    try simp only [Act.put, List.setIfInBounds_toArray, List.set_cons_zero, List.set_cons_succ]
    refine rg_step 2 rfl (by kernel_rfl) (by rfl) (fun K hK => ?_)
    go_simp
    refine (KQ.out _ hS).mono ?_
    rintro e w2 ⟨rfl, g2⟩
    replace hS := hS.trans (g2.mono hS.size)
    clear g2
    refine hK.out _ _ hS ?_
    clear hK K
    try simp only [Act.put, List.setIfInBounds_toArray, List.set_cons_zero, List.set_cons_succ]
    refine rg_take 3 (v := ?rv32) rfl (by kernel_rfl) (by kernel_rfl) (by kernel_rfl) (fun _ _ _ h => h) (by rfl) hS (fun w2 hw2 => ?ry32) ?rr32
    case ry32 => ((try dsimp only at hw2); go_simp <;> with_reducible rfl)
    simp only [Act.put, List.setIfInBounds_toArray, List.set_cons_zero, List.set_cons_succ]
    refine rg_take 4 (v := ?rv33) rfl (by kernel_rfl) (by kernel_rfl) (by kernel_rfl) (fun _ _ _ h => h) (by rfl) hS (fun w2 hw2 => ?ry33) ?rr33
    case ry33 => ((try dsimp only at hw2); go_simp <;> with_reducible rfl)
    simp only [Act.put, List.setIfInBounds_toArray, List.set_cons_zero, List.set_cons_succ]
    refine rg_load 5 rfl (by kernel_rfl) (by kernel_rfl) (by kernel_rfl) (w.heap.size) (4) ((adv r.v6 r.adr)) (fun _ _ _ h => h) (by rfl) 55 (.tmp 7) rfl rfl hS (fun w2 h2 => (RcBox.later HA.out.1 h2 (Nat.le_refl _)).adrR) Tryz.underlying55 rfl (ad_size r.v6 HK.out) ?_
    simp only [Act.put, List.setIfInBounds_toArray, List.set_cons_zero, List.set_cons_succ]
    refine rg_step 6 rfl (by kernel_rfl) (by rfl) (fun K hK => ?_)
    go_simp
    refine (KA.out _).mono ?_
    rintro e w3 ⟨rfl, g3⟩
    replace hS := hS.trans (g3.mono hS.size)
    clear g3
    refine hK.out _ _ hS ?_
    clear hK K
    try simp only [Act.put, List.setIfInBounds_toArray, List.set_cons_zero, List.set_cons_succ]
    refine rg_take 7 (v := ?rv34) rfl (by kernel_rfl) (by kernel_rfl) (by kernel_rfl) (fun _ _ _ h => h) (by rfl) hS (fun w2 hw2 => ?ry34) ?rr34
    case ry34 => ((try dsimp only at hw2); go_simp <;> with_reducible rfl)
    simp only [Act.put, List.setIfInBounds_toArray, List.set_cons_zero, List.set_cons_succ]
    refine rg_take 8 (v := ?rv35) rfl (by kernel_rfl) (by kernel_rfl) (by kernel_rfl) (fun _ _ _ h => h) (by rfl) hS (fun w2 hw2 => ?ry35) ?rr35
    case ry35 => ((try dsimp only at hw2); go_simp <;> with_reducible rfl)
    simp only [Act.put, List.setIfInBounds_toArray, List.set_cons_zero, List.set_cons_succ]
    refine rg_take 9 (v := ?rv36) rfl (by kernel_rfl) (by kernel_rfl) (by kernel_rfl) (fun _ _ _ h => h) (by rfl) hS (fun w2 hw2 => ?ry36) ?rr36
    case ry36 => ((try dsimp only at hw2); go_simp <;> with_reducible rfl)
    simp only [Act.put, List.setIfInBounds_toArray, List.set_cons_zero, List.set_cons_succ]
    refine rg_take 10 (v := ?rv37) rfl (by kernel_rfl) (by kernel_rfl) (by kernel_rfl) (fun _ _ _ h => h) (by rfl) hS (fun w2 hw2 => ?ry37) ?rr37
    case ry37 => ((try dsimp only at hw2); go_simp <;> with_reducible rfl)
    simp only [Act.put, List.setIfInBounds_toArray, List.set_cons_zero, List.set_cons_succ]
    refine rg_step 11 rfl (by kernel_rfl) (by rfl) (fun K hK => ?_)
    go_simp
    refine (KT.out _ hS).mono ?_
    rintro e w4 ⟨rfl, g4⟩
    replace hS := hS.trans (g4.mono hS.size)
    clear g4
    refine hK.out _ _ hS ?_
    clear hK K
    try simp only [Act.put, List.setIfInBounds_toArray, List.set_cons_zero, List.set_cons_succ]
    refine rg_take 12 (v := ?rv38) rfl (by kernel_rfl) (by kernel_rfl) (by kernel_rfl) (fun _ _ _ h => h) (by rfl) hS (fun w2 hw2 => ?ry38) ?rr38
    case ry38 => ((try dsimp only at hw2); go_simp <;> with_reducible rfl)
    simp only [Act.put, List.setIfInBounds_toArray, List.set_cons_zero, List.set_cons_succ]
    refine rg_take 13 (v := ?rv39) rfl (by kernel_rfl) (by kernel_rfl) (by kernel_rfl) (fun _ _ _ h => h) (by rfl) hS (fun w2 hw2 => ?ry39) ?rr39
    case ry39 => ((try dsimp only at hw2); go_simp <;> with_reducible rfl)
    simp only [Act.put, List.setIfInBounds_toArray, List.set_cons_zero, List.set_cons_succ]
    refine rg_take 14 (v := ?rv40) rfl (by kernel_rfl) (by kernel_rfl) (by kernel_rfl) (fun _ _ _ h => h) (by rfl) hS (fun w2 hw2 => ?ry40) ?rr40
    case ry40 => ((try dsimp only at hw2); go_simp <;> with_reducible rfl)
    simp only [Act.put, List.setIfInBounds_toArray, List.set_cons_zero, List.set_cons_succ]
    refine rg_take 15 (v := ?rv41) rfl (by kernel_rfl) (by kernel_rfl) (by kernel_rfl) (fun _ _ _ h => h) (by rfl) hS (fun w2 hw2 => ?ry41) ?rr41
    case ry41 => ((try dsimp only at hw2); go_simp <;> with_reducible rfl)
    simp only [Act.put, List.setIfInBounds_toArray, List.set_cons_zero, List.set_cons_succ]
    refine rg_take 16 (v := ?rv42) rfl (by kernel_rfl) (by kernel_rfl) (by kernel_rfl) (fun _ _ _ h => h) (by rfl) hS (fun w2 hw2 => ?ry42) ?rr42
    case ry42 => ((try dsimp only at hw2); go_simp <;> with_reducible rfl)
    simp only [Act.put, List.setIfInBounds_toArray, List.set_cons_zero, List.set_cons_succ]
    refine rg_take 17 (v := ?rv43) rfl (by kernel_rfl) (by kernel_rfl) (by kernel_rfl) (fun _ _ _ h => h) (by rfl) hS (fun w2 hw2 => ?ry43) ?rr43
    case ry43 => ((try dsimp only at hw2); go_simp <;> with_reducible rfl)
    simp only [Act.put, List.setIfInBounds_toArray, List.set_cons_zero, List.set_cons_succ]
    refine rg_take 18 (v := ?rv44) rfl (by kernel_rfl) (by kernel_rfl) (by kernel_rfl) (fun _ _ _ h => h) (by rfl) hS (fun w2 hw2 => ?ry44) ?rr44
    case ry44 => ((try dsimp only at hw2); go_simp <;> with_reducible rfl)
    simp only [Act.put, List.setIfInBounds_toArray, List.set_cons_zero, List.set_cons_succ]
    refine rg_take 19 (v := ?rv45) rfl (by kernel_rfl) (by kernel_rfl) (by kernel_rfl) (fun _ _ _ h => h) (by rfl) hS (fun w2 hw2 => ?ry45) ?rr45
    case ry45 => ((try dsimp only at hw2); go_simp <;> with_reducible rfl)
    simp only [Act.put, List.setIfInBounds_toArray, List.set_cons_zero, List.set_cons_succ]
    refine rg_skip 20 rfl (by kernel_rfl) (by kernel_rfl) (by kernel_rfl) (fun _ _ _ h => h) (by rfl) hS ?_
    simp only [Act.put, List.setIfInBounds_toArray, List.set_cons_zero, List.set_cons_succ]
    refine rg_skip 21 rfl (by kernel_rfl) (by kernel_rfl) (by kernel_rfl) (fun _ _ _ h => h) (by rfl) hS ?_
    simp only [Act.put, List.setIfInBounds_toArray, List.set_cons_zero, List.set_cons_succ]
    refine rg_skip 22 rfl (by kernel_rfl) (by kernel_rfl) (by kernel_rfl) (fun _ _ _ h => h) (by rfl) hS ?_
    simp only [Act.put, List.setIfInBounds_toArray, List.set_cons_zero, List.set_cons_succ]
    refine rg_skip 23 rfl (by kernel_rfl) (by kernel_rfl) (by kernel_rfl) (fun _ _ _ h => h) (by rfl) hS ?_
    simp only [Act.put, List.setIfInBounds_toArray, List.set_cons_zero, List.set_cons_succ]
    refine rg_take 24 (v := ?rv46) rfl (by kernel_rfl) (by kernel_rfl) (by kernel_rfl) (fun _ _ _ h => h) (by rfl) hS (fun w2 hw2 => ?ry46) ?rr46
    case ry46 => ((try dsimp only at hw2); go_simp <;> with_reducible rfl)
    simp only [Act.put, List.setIfInBounds_toArray, List.set_cons_zero, List.set_cons_succ]
    refine rg_take 25 (v := ?rv47) rfl (by kernel_rfl) (by kernel_rfl) (by kernel_rfl) (fun _ _ _ h => h) (by rfl) hS (fun w2 hw2 => ?ry47) ?rr47
    case ry47 => ((try dsimp only at hw2); go_simp <;> with_reducible rfl)
    simp only [Act.put, List.setIfInBounds_toArray, List.set_cons_zero, List.set_cons_succ]
    refine rg_done (by kernel_rfl) ?_
    have HS := Lib.hid (HA.out.2.trans (hS.mono HA.out.2.size))
    clear hS
    go_wp2_with fail
    go_ret
    exact ⟨rfl, HS.out⟩
  have hd : decide (rightQ r.asks ∧ rightA r.v6 r.adr ∧ rightN r.target ∧ r.data.length ≤ 1000 ∧ alikeV r (bareV r)) = decide (alikeV r (bareV r)) := by
    by_cases h4 : alikeV r (bareV r)
    · rw [decide_eq_true h4, decide_eq_true (And.intro h0 (And.intro h1 (And.intro h2 (And.intro h3 h4))))]
    · rw [decide_eq_false h4, decide_eq_false (fun h => h4 h.2.2.2.2)]
  rw [hd]
  rw [decide_eq_true h0] at KQ
  rw [decide_eq_true h1] at KA
  rw [decide_eq_true h2] at KT
  have q1000 : decide ((n : Int) ≤ 1000) = true := decide_eq_true (by omega)
  have KQ := Lib.hid KQ
  have KA := Lib.hid KA
  have KT := Lib.hid KT
  go_enter Tryz.func62, Tryz.ntmps62
  go_wp2_with fail
  rw [HW.out]
  have hS : Below W.heap.size W W.drew := (Below.refl _ _).drew
  refine rg_begin (fun w' => Below W.heap.size W w') 26 (by kernel_rfl) rfl ?_
  refine rg_load 0 rfl (by kernel_rfl) (by kernel_rfl) (by kernel_rfl) (w.heap.size) (0) ((rcv r A n c)) (fun _ _ _ h => h) (by rfl) 57 (.tmp 1) rfl rfl hS (fun w2 h2 => (RcBox.later HA.out.1 h2 (Nat.le_refl _)).range) Tryz.underlying57 rfl (rc_size HK.out A n c) ?_
  simp only [Act.put, List.setIfInBounds_toArray, List.set_cons_zero, List.set_cons_succ]
  refine rg_step 1 rfl (by kernel_rfl) (by rfl) (fun K hK => ?_)
  go_simp
  refine (asked_any HK.out A n c _).mono ?_
  rintro e w1 ⟨rfl, g1⟩
  replace hS := hS.trans (g1.mono hS.size)
  clear g1
  refine hK.out _ _ hS ?_
  clear hK K
  try simp only [Act.put, List.setIfInBounds_toArray, List.set_cons_zero, List.set_cons_succ]
  refine rg_step 2 rfl (by kernel_rfl) (by rfl) (fun K hK => ?_)
  go_simp
  refine (KQ.out _ hS).mono ?_
  rintro e w2 ⟨rfl, g2⟩
  replace hS := hS.trans (g2.mono hS.size)
  clear g2
  refine hK.out _ _ hS ?_
  clear hK K
  try simp only [Act.put, List.setIfInBounds_toArray, List.set_cons_zero, List.set_cons_succ]
  refine rg_take 3 (v := ?rv48) rfl (by kernel_rfl) (by kernel_rfl) (by kernel_rfl) (fun _ _ _ h => h) (by rfl) hS (fun w2 hw2 => ?ry48) ?rr48
  case ry48 => ((try dsimp only at hw2); go_simp <;> with_reducible rfl)
  simp only [Act.put, List.setIfInBounds_toArray, List.set_cons_zero, List.set_cons_succ]
  refine rg_take 4 (v := ?rv49) rfl (by kernel_rfl) (by kernel_rfl) (by kernel_rfl) (fun _ _ _ h => h) (by rfl) hS (fun w2 hw2 => ?ry49) ?rr49
  case ry49 => ((try dsimp only at hw2); go_simp <;> with_reducible rfl)
  simp only [Act.put, List.setIfInBounds_toArray, List.set_cons_zero, List.set_cons_succ]
  refine rg_load 5 rfl (by kernel_rfl) (by kernel_rfl) (by kernel_rfl) (w.heap.size) (4) ((adv r.v6 r.adr)) (fun _ _ _ h => h) (by rfl) 55 (.tmp 7) rfl rfl hS (fun w2 h2 => (RcBox.later HA.out.1 h2 (Nat.le_refl _)).adrR) Tryz.underlying55 rfl (ad_size r.v6 HK.out) ?_
  simp only [Act.put, List.setIfInBounds_toArray, List.set_cons_zero, List.set_cons_succ]
  refine rg_step 6 rfl (by kernel_rfl) (by rfl) (fun K hK => ?_)
  go_simp
  refine (KA.out _).mono ?_
  rintro e w3 ⟨rfl, g3⟩
  replace hS := hS.trans (g3.mono hS.size)
  clear g3
  refine hK.out _ _ hS ?_
  clear hK K
  try simp only [Act.put, List.setIfInBounds_toArray, List.set_cons_zero, List.set_cons_succ]
  refine rg_take 7 (v := ?rv50) rfl (by kernel_rfl) (by kernel_rfl) (by kernel_rfl) (fun _ _ _ h => h) (by rfl) hS (fun w2 hw2 => ?ry50) ?rr50
  case ry50 => ((try dsimp only at hw2); go_simp <;> with_reducible rfl)
  simp only [Act.put, List.setIfInBounds_toArray, List.set_cons_zero, List.set_cons_succ]
  refine rg_take 8 (v := ?rv51) rfl (by kernel_rfl) (by kernel_rfl) (by kernel_rfl) (fun _ _ _ h => h) (by rfl) hS (fun w2 hw2 => ?ry51) ?rr51
  case ry51 => ((try dsimp only at hw2); go_simp <;> with_reducible rfl)
  simp only [Act.put, List.setIfInBounds_toArray, List.set_cons_zero, List.set_cons_succ]
  refine rg_take 9 (v := ?rv52) rfl (by kernel_rfl) (by kernel_rfl) (by kernel_rfl) (fun _ _ _ h => h) (by rfl) hS (fun w2 hw2 => ?ry52) ?rr52
  case ry52 => ((try dsimp only at hw2); go_simp <;> with_reducible rfl)
  simp only [Act.put, List.setIfInBounds_toArray, List.set_cons_zero, List.set_cons_succ]
  refine rg_take 10 (v := ?rv53) rfl (by kernel_rfl) (by kernel_rfl) (by kernel_rfl) (fun _ _ _ h => h) (by rfl) hS (fun w2 hw2 => ?ry53) ?rr53
  case ry53 => ((try dsimp only at hw2); go_simp <;> with_reducible rfl)
  simp only [Act.put, List.setIfInBounds_toArray, List.set_cons_zero, List.set_cons_succ]
  refine rg_step 11 rfl (by kernel_rfl) (by rfl) (fun K hK => ?_)
  go_simp
  refine (KT.out _ hS).mono ?_
  rintro e w4 ⟨rfl, g4⟩
  replace hS := hS.trans (g4.mono hS.size)
  clear g4
  refine hK.out _ _ hS ?_
  clear hK K
  try simp only [Act.put, List.setIfInBounds_toArray, List.set_cons_zero, List.set_cons_succ]
  refine rg_take 12 (v := ?rv54) rfl (by kernel_rfl) (by kernel_rfl) (by kernel_rfl) (fun _ _ _ h => h) (by rfl) hS (fun w2 hw2 => ?ry54) ?rr54
  case ry54 => ((try dsimp only at hw2); go_simp <;> with_reducible rfl)
  simp only [Act.put, List.setIfInBounds_toArray, List.set_cons_zero, List.set_cons_succ]
  refine rg_take 13 (v := ?rv55) rfl (by kernel_rfl) (by kernel_rfl) (by kernel_rfl) (fun _ _ _ h => h) (by rfl) hS (fun w2 hw2 => ?ry55) ?rr55
  case ry55 => ((try dsimp only at hw2); go_simp <;> with_reducible rfl)
  simp only [Act.put, List.setIfInBounds_toArray, List.set_cons_zero, List.set_cons_succ]
  refine rg_take 14 (v := ?rv56) rfl (by kernel_rfl) (by kernel_rfl) (by kernel_rfl) (fun _ _ _ h => h) (by rfl) hS (fun w2 hw2 => ?ry56) ?rr56
  case ry56 => ((try dsimp only at hw2); go_simp <;> with_reducible rfl)
  simp only [Act.put, List.setIfInBounds_toArray, List.set_cons_zero, List.set_cons_succ]
  refine rg_take 15 (v := ?rv57) rfl (by kernel_rfl) (by kernel_rfl) (by kernel_rfl) (fun _ _ _ h => h) (by rfl) hS (fun w2 hw2 => ?ry57) ?rr57
  case ry57 => ((try dsimp only at hw2); go_simp <;> with_reducible rfl)
  simp only [Act.put, List.setIfInBounds_toArray, List.set_cons_zero, List.set_cons_succ]
  refine rg_take 16 (v := ?rv58) rfl (by kernel_rfl) (by kernel_rfl) (by kernel_rfl) (fun _ _ _ h => h) (by rfl) hS (fun w2 hw2 => ?ry58) ?rr58
  case ry58 => ((try dsimp only at hw2); go_simp <;> with_reducible rfl)
  simp only [Act.put, List.setIfInBounds_toArray, List.set_cons_zero, List.set_cons_succ]
  refine rg_take 17 (v := ?rv59) rfl (by kernel_rfl) (by kernel_rfl) (by kernel_rfl) (fun _ _ _ h => h) (by rfl) hS (fun w2 hw2 => ?ry59) ?rr59
  case ry59 => ((try dsimp only at hw2); go_simp <;> with_reducible rfl)
  simp only [Act.put, List.setIfInBounds_toArray, List.set_cons_zero, List.set_cons_succ]
  refine rg_take 18 (v := ?rv60) rfl (by kernel_rfl) (by kernel_rfl) (by kernel_rfl) (fun _ _ _ h => h) (by rfl) hS (fun w2 hw2 => ?ry60) ?rr60
  case ry60 => ((try dsimp only at hw2); go_simp <;> with_reducible rfl)
  simp only [Act.put, List.setIfInBounds_toArray, List.set_cons_zero, List.set_cons_succ]
  refine rg_take 19 (v := ?rv61) rfl (by kernel_rfl) (by kernel_rfl) (by kernel_rfl) (fun _ _ _ h => h) (by rfl) hS (fun w2 hw2 => ?ry61) ?rr61
  case ry61 => ((try dsimp only at hw2); go_simp <;> with_reducible rfl)
  simp only [Act.put, List.setIfInBounds_toArray, List.set_cons_zero, List.set_cons_succ]
  refine rg_load 20 rfl (by kernel_rfl) (by kernel_rfl) (by kernel_rfl) (w.heap.size) (0) ((rcv r A n c)) (fun _ _ _ h => h) (by rfl) 57 (.tmp 1) rfl rfl hS (fun w2 h2 => (RcBox.later HA.out.1 h2 (Nat.le_refl _)).range) Tryz.underlying57 rfl (rc_size HK.out A n c) ?_
  simp only [Act.put, List.setIfInBounds_toArray, List.set_cons_zero, List.set_cons_succ]
  refine rg_load 21 rfl (by kernel_rfl) (by kernel_rfl) (by kernel_rfl) (w.heap.size) (0) ((rcv r A n c)) (fun _ _ _ h => h) (by rfl) 57 (.tmp 1) rfl rfl hS (fun w2 h2 => (RcBox.later HA.out.1 h2 (Nat.le_refl _)).range) Tryz.underlying57 rfl (rc_size HK.out A n c) ?_
  simp only [Act.put, List.setIfInBounds_toArray, List.set_cons_zero, List.set_cons_succ]
  refine rg_step 22 rfl (by kernel_rfl) (by rfl) (fun K hK => ?_)
  go_simp
  refine (bare_any HK.out A n c _).mono ?_
  rintro e w5 ⟨A5, n5, c5, rfl, t5, g5⟩
  replace hS := hS.trans (g5.mono hS.size)
  have hbw := HB.out.1.later (HA.out.2.trans (hS.mono HA.out.2.size)) (Nat.le_refl _)
  have ka := Lib.hid (alike_any HK.out (bareV_ok HK.out) hbw (t5.bs hbw))
  clear g5 t5 hbw
  refine hK.out _ _ hS ?_
  clear hK K
  try simp only [Act.put, List.setIfInBounds_toArray, List.set_cons_zero, List.set_cons_succ]
  refine rg_step 23 rfl (by kernel_rfl) (by rfl) (fun K hK => ?_)
  go_simp
  refine ka.out.mono ?_
  rintro e w6 ⟨rfl, g6⟩
  replace hS := hS.trans (g6.mono hS.size)
  clear g6 ka
  refine hK.out _ _ hS ?_
  clear hK K
  try simp only [Act.put, List.setIfInBounds_toArray, List.set_cons_zero, List.set_cons_succ]
  refine rg_take 24 (v := ?rv62) rfl (by kernel_rfl) (by kernel_rfl) (by kernel_rfl) (fun _ _ _ h => h) (by rfl) hS (fun w2 hw2 => ?ry62) ?rr62
  case ry62 => ((try dsimp only at hw2); go_simp <;> with_reducible rfl)
  simp only [Act.put, List.setIfInBounds_toArray, List.set_cons_zero, List.set_cons_succ]
  refine rg_take 25 (v := ?rv63) rfl (by kernel_rfl) (by kernel_rfl) (by kernel_rfl) (fun _ _ _ h => h) (by rfl) hS (fun w2 hw2 => ?ry63) ?rr63
  case ry63 => ((try dsimp only at hw2); go_simp <;> with_reducible rfl)
  simp only [Act.put, List.setIfInBounds_toArray, List.set_cons_zero, List.set_cons_succ]
  refine rg_done (by kernel_rfl) ?_
  have HS := Lib.hid (HA.out.2.trans (hS.mono HA.out.2.size))
  clear hS
  go_wp2_with fail
  go_ret
  exact ⟨rfl, HS.out⟩
end Go.Proofs.YtbikifaadpijnaaGreatDoor

namespace Go.Proofs.YtbikifaadpijnaaGreatDoor
open Go.RowKit
set_option maxRecDepth 100000

set_option maxHeartbeats 2000000 in
/-- What a record bears, as bytes. -/
theorem written_any {r : Rc} (hk : r.ok) (hr : rightR r) {A : Option Addr} {n c : Nat} {w : World} (hb : Bs w A n c r.data) (hE : Env w) : Calls Tryz.prog 64 #[.agg (rcv r A n c)] w fun e w' => ∃ A' n' c', e = .returned (.tuple #[.slice A' n' c', .nilIface]) ∧ Bs w' A' n' c' (dataB r) ∧ Below w.heap.size w w' := by
  have a1 := RcBox.new w hk A n c
  have b1 : Below w.heap.size w (w.alloc (.cells (rcv r A n c) 57)) := (Below.refl _ _).alloc (Nat.le_refl _) _
  obtain ⟨W, hW⟩ : ∃ W, w.alloc (.cells (rcv r A n c) 57) = W := ⟨_, rfl⟩
  rw [hW] at a1 b1
  have HA := Lib.hid (And.intro a1 b1)
  have HW := Lib.hid hW
  have HB := Lib.hid (And.intro hb hE)
  have e21 := a1.target
  have e22 := a1.data
  have e1 := a1.kind
  have hc := alike_cases hr
  have htr := hr.2.2.1
  obtain ⟨name, kind, cls, ttl, v6, adr, target, data⟩ := r
  have hk' := hk
  unfold Rc.ok at hk'
  dsimp only at hc hk' e1 e21 e22 htr
  clear a1 b1 hW hb hE hr
  rcases hc with ⟨rfl, rfl, rfl, rfl⟩ | ⟨rfl, rfl, rfl, rfl⟩ | ⟨rfl, rfl, rfl, rfl⟩ | ⟨h28, h1, h5, rfl, rfl, rfl⟩
  · have e : dataB ⟨name, 28, cls, ttl, true, adr, [], []⟩ = adr := by
      show adr.take 16 = adr
      exact List.take_of_length_le (by omega)
    rw [e]
    clear e
    go_enter Tryz.func64, Tryz.ntmps64
    go_wp2_with (first | (refine wpList_load_rcAd rfl (.tmp 11) rfl rfl HA.out.1 ?_) | (rw [HW.out]))
    refine (widthR_any true adr hk' W).mono ?_
    rintro e w2 ⟨rfl, g2⟩
    rw [show widB true = 16 from rfl]
    have H2 := Lib.hid (And.intro (HA.out.1.later g2 (Nat.le_refl _)).adrB (HA.out.2.trans (g2.mono HA.out.2.size)))
    clear g2
    go_wp2_with fail
    go_ret2
    exact ⟨_, _, _, rfl, H2.out⟩
  · have e : dataB ⟨name, 1, cls, ttl, false, adr, [], []⟩ = adr.take 4 := rfl
    rw [e]
    clear e
    go_enter Tryz.func64, Tryz.ntmps64
    go_wp2_with (first | (refine wpList_load_rcAd rfl (.tmp 11) rfl rfl HA.out.1 ?_) | (rw [HW.out]))
    refine (widthR_any false adr hk' W).mono ?_
    rintro e w2 ⟨rfl, g2⟩
    rw [show widB false = 4 from rfl]
    have hB2 := (HA.out.1.later g2 (Nat.le_refl _)).adrB.cut (i := 0) (k := 4) (by omega) (A' := some ⟨w.heap.size, 5, none⟩) (fun _ => by simp [add_plain]) (by simp)
    rw [List.drop_zero] at hB2
    have H2 := Lib.hid (And.intro hB2 (HA.out.2.trans (g2.mono HA.out.2.size)))
    clear g2 hB2
    go_wp2_with fail
    go_ret2
    exact ⟨_, _, _, rfl, H2.out⟩
  · have e : dataB ⟨name, 5, cls, ttl, false, zero16, target, []⟩ = writeB target := rfl
    rw [e]
    clear e
    have hsz : target.length ≤ 1000000 := by
      have h1 := htr.2
      by_cases he : target = []
      · rw [he]; exact Nat.zero_le _
      · have := sizeL_labsN he; omega
    have KW := write_any (mkS target) (by rw [mkS_size]; exact hsz) (HB.out.2.later HA.out.2 (Nat.le_refl _))
    rw [mkS_data] at KW
    unfold writev writee at KW
    rw [if_pos htr, if_pos htr] at KW
    have K := Lib.hid KW
    clear KW
    go_enter Tryz.func64, Tryz.ntmps64
    go_wp2_with (rw [HW.out])
    refine K.out.mono ?_
    rintro e w2 ⟨A2, c2, v2, rfl, o2, t2, g2⟩
    obtain rfl := t2.none' rfl
    have H2 := Lib.hid (And.intro (Bs.own_later o2 fun _ _ => rfl) (HA.out.2.trans (g2.mono HA.out.2.size)))
    clear o2 t2 g2
    go_wp2_with fail
    go_ret2
    exact ⟨_, _, _, rfl, H2.out⟩
  · have e : dataB ⟨name, kind, cls, ttl, false, zero16, [], data⟩ = data := by
      unfold dataB
      dsimp only
      rw [if_neg (by omega), if_neg h5]
    rw [e]
    clear e
    go_enter Tryz.func64, Tryz.ntmps64
    go_wp2_with (rw [HW.out])
    go_ret2
    exact ⟨A, n, c, rfl, HB.out.1.later HA.out.2 (Nat.le_refl _), HA.out.2⟩
/-- What may be written is not long. -/
theorem right_len {s : List UInt8} (h : rightN s) : s.length ≤ 255 := by
  have h1 := h.2
  by_cases he : s = []
  · rw [he]; exact Nat.zero_le _
  · have := sizeL_labsN he; omega
theorem writeB_le {s : List UInt8} (h : rightN s) : (writeB s).length ≤ 255 := by
  have h1 := h.2
  unfold writeB
  rw [List.length_append, wireL_length]
  simp only [List.length_cons, List.length_nil]
  omega
set_option maxHeartbeats 4000000 in
/-- A question as it is written. -/
theorem writeQ_any (q : Qs) (hs : q.name.length ≤ 1000000) {w : World} (hE : Env w) : Calls Tryz.prog 29 #[.agg (qsv q)] w fun e w' =>
    ∃ A c v, e = .returned (.tuple #[.slice A (writeQv q).length c, v]) ∧ Bs w' A (writeQv q).length c (writeQv q) ∧ Tells w' v (writeQe q) ∧ Below w.heap.size w w' := by
  have a1 := QsBox.new w q
  have b1 : Below w.heap.size w (w.alloc (.cells (qsv q) 51)) := (Below.refl _ _).alloc (Nat.le_refl _) _
  obtain ⟨W, hW⟩ : ∃ W, w.alloc (.cells (qsv q) 51) = W := ⟨_, rfl⟩
  rw [hW] at a1 b1
  have HA := Lib.hid (And.intro a1 b1)
  have KQ := rightQ_any q hs (hE.later b1 (Nat.le_refl _))
  have HW := Lib.hid hW
  clear a1 b1 hW
  unfold writeQv writeQe
  by_cases hr : rightQ q
  · rw [if_pos hr, if_pos hr]
    rw [decide_eq_true hr] at KQ
    have KW := fun w1 (g : Below w.heap.size w w1) => write_any (mkS q.name) (by rw [mkS_size]; exact hs) (hE.later g (Nat.le_refl _))
    rw [mkS_data] at KW
    unfold writev writee at KW
    rw [if_pos hr.1, if_pos hr.1] at KW
    have hwl := writeB_le hr.1
    have hql : (writeQB q).length = (writeB q.name).length + 2 + 2 := by rw [writeQB_length]
    rw [hql]
    have hqe : (writeB q.name ++ putn q.kind 2) ++ putn q.cls 2 = writeQB q := by unfold writeQB; rw [List.append_assoc]
    obtain ⟨name, kind, cls⟩ := q
    dsimp only at KW hwl hqe hql ⊢
    rw [← hqe]
    have K := Lib.hid (And.intro KQ KW)
    have d1 : ∀ w', Below W.heap.size W w' → w'.cell? ⟨w.heap.size, 1, none⟩ = some (.int .i64 kind) := fun w' h => (HA.out.1.later h (Nat.le_refl _)).cell 1
    have d2 : ∀ w', Below W.heap.size W w' → w'.cell? ⟨w.heap.size, 2, none⟩ = some (.int .i64 cls) := fun w' h => (HA.out.1.later h (Nat.le_refl _)).cell 2
    have D1 := Lib.hid d1
    have D2 := Lib.hid d2
    clear KQ KW hr hE hqe hql d1 d2
    generalize writeB name = x at K hwl ⊢
    go_enter Tryz.func29, Tryz.ntmps29
    go_wp2_with (rw [HW.out]; refine wpList_load_qs rfl (.tmp 1) rfl rfl HA.out.1 ?_)
    refine K.out.1.mono ?_
    rintro e w2 ⟨rfl, g2⟩
    have H2 := Lib.hid (And.intro (HA.out.1.later g2 (Nat.le_refl _)) (And.intro g2 (HA.out.2.trans (g2.mono HA.out.2.size))))
    have e0 : w2.cell? ⟨w.heap.size, 0, none⟩ = some (.string (mkS name)) := H2.out.1.cell 0
    clear g2
    go_wp2_with fail
    refine (K.out.2 w2 H2.out.2.2).mono ?_
    rintro e w3 ⟨A3, c3, v3, rfl, o3, t3, g3⟩
    obtain rfl := t3.none' rfl
    have hb3 : Below W.heap.size W w3 := H2.out.2.1.trans (g3.mono H2.out.2.1.size)
    have H3 := Lib.hid (And.intro (Bs.own_later o3 fun _ _ => rfl) hb3)
    clear o3 t3 g3 e0 hb3
    have d1 := D1.out
    have d2 := D2.out
    go_wp2_with fail
    have hS : Below W.heap.size W w3.drew := H3.out.2.drew
    refine rg_begin (fun w' => Below W.heap.size W w') 9 (by kernel_rfl) rfl ?_
    refine rg_take 0 (v := ?rv1) rfl (by kernel_rfl) (by kernel_rfl) (by kernel_rfl) (fun _ _ _ h => h) (by rfl) hS (fun w2 hw2 => ?ry1) ?rr1
    case ry1 => ((try dsimp only at hw2); go_simp <;> with_reducible rfl)
    simp only [Act.put, List.setIfInBounds_toArray, List.set_cons_zero, List.set_cons_succ]
    refine rg_take 1 (v := ?rv2) rfl (by kernel_rfl) (by kernel_rfl) (by kernel_rfl) (fun _ _ _ h => h) (by rfl) hS (fun w2 hw2 => ?ry2) ?rr2
    case ry2 => ((try dsimp only at hw2); go_simp <;> with_reducible rfl)
    simp only [Act.put, List.setIfInBounds_toArray, List.set_cons_zero, List.set_cons_succ]
    refine rg_take 4 (v := ?rv3) rfl (by kernel_rfl) (by kernel_rfl) (by kernel_rfl) (fun _ _ _ h => h) (by rfl) hS (fun w2 hw2 => ?ry3) ?rr3
    case ry3 => ((try dsimp only at hw2); go_simp <;> with_reducible rfl)
    simp only [Act.put, List.setIfInBounds_toArray, List.set_cons_zero, List.set_cons_succ]
    refine rg_take 2 (v := ?rv4) rfl (by kernel_rfl) (by kernel_rfl) (by kernel_rfl) (fun _ _ _ h => h) (by rfl) hS (fun w2 hw2 => ?ry4) ?rr4
    case ry4 => ((try dsimp only at hw2); go_simp <;> with_reducible rfl)
    simp only [Act.put, List.setIfInBounds_toArray, List.set_cons_zero, List.set_cons_succ]
    refine rg_take 5 (v := ?rv5) rfl (by kernel_rfl) (by kernel_rfl) (by kernel_rfl) (fun _ _ _ h => h) (by rfl) hS (fun w2 hw2 => ?ry5) ?rr5
    case ry5 => ((try dsimp only at hw2); go_simp <;> with_reducible rfl)
    simp only [Act.put, List.setIfInBounds_toArray, List.set_cons_zero, List.set_cons_succ]
    refine rg_step 3 rfl (by kernel_rfl) (by rfl) (fun K hK => ?_)
    go_simp
    refine (put16_any (H3.out.1.later (Below.refl _ _).drew (Nat.le_refl _)) kind (by omega)).mono ?_
    rintro e w4 ⟨v4, rfl, o4, g4⟩
    obtain ⟨A4, c4, rfl, hB4⟩ := Bs.of_own o4
    replace hS := hS.trans (g4.mono hS.size)
    have H4 := Lib.hid hB4
    clear o4 g4 hB4
    refine hK.out _ _ hS ?_
    clear hK K
    try simp only [Act.put, List.setIfInBounds_toArray, List.set_cons_zero, List.set_cons_succ]
    refine rg_step 6 rfl (by kernel_rfl) (by rfl) (fun K hK => ?_)
    go_simp
    refine (put16_any H4.out cls (by omega)).mono ?_
    rintro e w5 ⟨v5, rfl, o5, g5⟩
    obtain ⟨A5, c5, rfl, hB5⟩ := Bs.of_own o5
    replace hS := hS.trans (g5.mono hS.size)
    have H5 := Lib.hid hB5
    clear o5 g5 hB5
    refine hK.out _ _ hS ?_
    clear hK K
    try simp only [Act.put, List.setIfInBounds_toArray, List.set_cons_zero, List.set_cons_succ]
    refine rg_take 7 (v := ?rv6) rfl (by kernel_rfl) (by kernel_rfl) (by kernel_rfl) (fun _ _ _ h => h) (by rfl) hS (fun w2 hw2 => ?ry6) ?rr6
    case ry6 => ((try dsimp only at hw2); go_simp <;> with_reducible rfl)
    simp only [Act.put, List.setIfInBounds_toArray, List.set_cons_zero, List.set_cons_succ]
    refine rg_take 8 (v := ?rv7) rfl (by kernel_rfl) (by kernel_rfl) (by kernel_rfl) (fun _ _ _ h => h) (by rfl) hS (fun w2 hw2 => ?ry7) ?rr7
    case ry7 => ((try dsimp only at hw2); go_simp <;> with_reducible rfl)
    simp only [Act.put, List.setIfInBounds_toArray, List.set_cons_zero, List.set_cons_succ]
    refine rg_done (by kernel_rfl) ?_
    have HS := Lib.hid (HA.out.2.trans (hS.mono HA.out.2.size))
    clear hS d1 d2
    go_wp2_with fail
    go_ret2
    exact ⟨A5, c5, .nilIface, rfl, H5.out, Tells.nil _ _ _, HS.out⟩
  · rw [if_neg hr, if_neg hr]
    rw [decide_eq_false hr] at KQ
    have K := Lib.hid KQ
    clear KQ hr hE
    go_enter Tryz.func29, Tryz.ntmps29
    go_wp2_with (rw [HW.out]; refine wpList_load_qs rfl (.tmp 1) rfl rfl HA.out.1 ?_)
    refine K.out.mono ?_
    rintro e w2 ⟨rfl, g2⟩
    have H2 := Lib.hid (HA.out.2.trans (g2.mono HA.out.2.size))
    clear g2
    go_wp2_with fail
    go_ret2
    exact ⟨none, 0, _, rfl, Bs.nil _, Tells.bare _ 1 (by decide) 0, H2.out⟩
set_option maxHeartbeats 4000000 in
/-- A record as it is written. -/
theorem writeR_any {r : Rc} (hk : r.ok) {A : Option Addr} {n c : Nat} {w : World} (hb : Bs w A n c r.data) (hn : r.name.length ≤ 1000000) (ht : r.target.length ≤ 1000000) (t0 : 0 ≤ r.ttl) (t1 : r.ttl < 4294967296) (hE : Env w) : Calls Tryz.prog 32 #[.agg (rcv r A n c)] w fun e w' =>
    ∃ A c v, e = .returned (.tuple #[.slice A (writeRv r).length c, v]) ∧ Bs w' A (writeRv r).length c (writeRv r) ∧ Tells w' v (writeRe r) ∧ Below w.heap.size w w' := by
  have a1 := RcBox.new w hk A n c
  have b1 : Below w.heap.size w (w.alloc (.cells (rcv r A n c) 57)) := (Below.refl _ _).alloc (Nat.le_refl _) _
  obtain ⟨W, hW⟩ : ∃ W, w.alloc (.cells (rcv r A n c) 57) = W := ⟨_, rfl⟩
  rw [hW] at a1 b1
  have HA := Lib.hid (And.intro a1 b1)
  have KR := rightR_any hk (hb.later b1 (Nat.le_refl _)) hn ht (hE.later b1 (Nat.le_refl _))
  have HW := Lib.hid hW
  clear a1 b1 hW
  unfold writeRv writeRe
  by_cases hr : rightR r
  · rw [if_pos hr, if_pos hr]
    rw [decide_eq_true hr] at KR
    have KW := fun w1 (g : Below w.heap.size w w1) => writeQ_any r.asks hn (hE.later g (Nat.le_refl _))
    unfold writeQv writeQe at KW
    rw [if_pos hr.1, if_pos hr.1] at KW
    have KD := fun w1 (g : Below w.heap.size w w1) => written_any hk hr (hb.later g (Nat.le_refl _)) (hE.later g (Nat.le_refl _))
    have hql : (writeQB r.asks).length ≤ 300 := by rw [writeQB_length]; have := writeB_le hr.1.1; omega
    have hdl := dataB_le hr
    have hrl : (writeRB r).length = (writeQB r.asks).length + 4 + 2 + (dataB r).length := by rw [writeRB_length]
    rw [hrl]
    have hre : ((writeQB r.asks ++ putn r.ttl 4) ++ putn ((dataB r).length : Nat) 2) ++ dataB r = writeRB r := by unfold writeRB; simp only [List.append_assoc]
    rw [← hre]
    have d3 : ∀ w', Below W.heap.size W w' → w'.cell? ⟨w.heap.size, 3, none⟩ = some (.int .u32 r.ttl) := fun w' h => (HA.out.1.later h (Nat.le_refl _)).ttl
    have D3 := Lib.hid d3
    have K := Lib.hid (And.intro KR (And.intro KW KD))
    have HK := Lib.hid hk
    clear KR KW KD hr hE hb hn ht hre hrl d3 hk
    generalize writeQB r.asks = x at K hql ⊢
    generalize dataB r = y at K hdl ⊢
    go_enter Tryz.func32, Tryz.ntmps32
    go_wp2_with (rw [HW.out]; refine wpList_load_rc rfl (.tmp 1) rfl rfl HA.out.1 ?_)
    refine K.out.1.mono ?_
    rintro e w2 ⟨rfl, g2⟩
    have H2 := Lib.hid (And.intro (HA.out.1.later g2 (Nat.le_refl _)) (And.intro g2 (HA.out.2.trans (g2.mono HA.out.2.size))))
    clear g2
    go_wp2_with (refine wpList_load_rc rfl (.tmp 1) rfl rfl H2.out.1 ?_)
    refine (asked_any HK.out A n c w2).mono ?_
    rintro e w3 ⟨rfl, g3⟩
    have H3 := Lib.hid (And.intro (H2.out.1.later g3 (Nat.le_refl _)) (And.intro (H2.out.2.1.trans (g3.mono H2.out.2.1.size)) (H2.out.2.2.trans (g3.mono H2.out.2.2.size))))
    clear g3
    go_wp2_with fail
    refine (K.out.2.1 w3 H3.out.2.2).mono ?_
    rintro e w4 ⟨A4, c4, v4, rfl, hB4, t4, g4⟩
    obtain rfl := t4.none' rfl
    have H4 := Lib.hid (And.intro (H3.out.1.later g4 (Nat.le_refl _)) (And.intro hB4 (And.intro (H3.out.2.1.trans (g4.mono H3.out.2.1.size)) (H3.out.2.2.trans (g4.mono H3.out.2.2.size)))))
    clear hB4 t4 g4
    go_wp2_with (refine wpList_load_rc rfl (.tmp 1) rfl rfl H4.out.1 ?_)
    refine (K.out.2.2 w4 H4.out.2.2.2).mono ?_
    rintro e w5 ⟨A5, n5, c5, rfl, hB5, g5⟩
    obtain rfl : n5 = y.length := hB5.len.symm
    have H5 := Lib.hid (And.intro (H4.out.2.1.later g5 (Nat.le_refl _)) (And.intro hB5 (And.intro (H4.out.2.2.1.trans (g5.mono H4.out.2.2.1.size)) (H4.out.2.2.2.trans (g5.mono H4.out.2.2.2.size)))))
    have e3 := D3.out w5 H5.out.2.2.1
    clear hB5 g5
    go_wp2_with fail
    refine (put32_any H5.out.1 r.ttl t0 t1 (by omega)).mono ?_
    rintro e w6 ⟨v6, rfl, o6, g6⟩
    obtain ⟨A6, c6, rfl, hB6⟩ := Bs.of_own o6
    have H6 := Lib.hid (And.intro hB6 (And.intro (H5.out.2.1.later g6 (Nat.le_refl _)) (H5.out.2.2.2.trans (g6.mono H5.out.2.2.2.size))))
    clear o6 g6 hB6 e3
    go_wp2_with fail
    refine (put16_any H6.out.1 (y.length : Nat) (by omega)).mono ?_
    rintro e w7 ⟨v7, rfl, o7, g7⟩
    obtain ⟨A7, c7, rfl, hB7⟩ := Bs.of_own o7
    have H7 := Lib.hid (And.intro hB7 (And.intro (H6.out.2.1.later g7 (Nat.le_refl _)) (H6.out.2.2.trans (g7.mono H6.out.2.2.size))))
    clear o7 g7 hB7
    have hp := pieces_new (w := w7) [⟨A7, x.length + 4 + 2, c7, (x ++ putn r.ttl 4) ++ putn (y.length : Nat) 2⟩, ⟨A5, y.length, c5, y⟩] (by simp only [List.mem_cons, List.not_mem_nil, or_false]; rintro p (rfl | rfl) <;> first | exact H7.out.1 | exact H7.out.2.1) #[.slice A7 (x.length + 4 + 2) c7, .slice A5 y.length c5] rfl 22
    have kc := concat_any w7.heap.size 2 2 _ _ rfl (by omega) hp (by simp [total]; omega)
    have HC := Lib.hid (And.intro kc (H7.out.2.2.alloc H7.out.2.2.size (.cells #[.slice A7 (x.length + 4 + 2) c7, .slice A5 y.length c5] 22)))
    clear hp kc
    go_wp2_with fail
    refine HC.out.1.mono ?_
    rintro e w8 ⟨v8, rfl, o8, g8⟩
    have o9 := o8
    simp only [flat, List.flatMap_cons, List.flatMap_nil, List.append_nil] at o9
    replace o9 := owns_n (n' := x.length + 4 + 2 + y.length) (by simp [total]) o9
    obtain ⟨A9, c9, rfl, hB9⟩ := Bs.of_own o9
    have H9 := Lib.hid (And.intro hB9 (HC.out.2.trans (g8.mono HC.out.2.size)))
    clear o8 o9 g8 hB9
    go_wp2_with fail
    go_ret2
    exact ⟨A9, c9, .nilIface, rfl, H9.out.1, Tells.nil _ _ _, H9.out.2⟩
  · rw [if_neg hr, if_neg hr]
    rw [decide_eq_false hr] at KR
    have K := Lib.hid KR
    clear KR hr hE hb
    go_enter Tryz.func32, Tryz.ntmps32
    go_wp2_with (rw [HW.out]; refine wpList_load_rc rfl (.tmp 1) rfl rfl HA.out.1 ?_)
    refine K.out.mono ?_
    rintro e w2 ⟨rfl, g2⟩
    have H2 := Lib.hid (HA.out.2.trans (g2.mono HA.out.2.size))
    clear g2
    go_wp2_with fail
    go_ret2
    exact ⟨none, 0, _, rfl, Bs.nil _, Tells.bare _ 1 (by decide) 0, H2.out⟩
end Go.Proofs.YtbikifaadpijnaaGreatDoor

namespace Go.Proofs.YtbikifaadpijnaaGreatDoor
open Go.RowKit
set_option maxRecDepth 100000

theorem awake_read : readQv [0, 0, 1, 0, 1] 5 0 = ⟨⟨[], 1, 1⟩, 5, fl0⟩ :=
  back_q (l := [0, 0, 1, 0, 1]) (n := 5) rfl (q := ⟨[], 1, 1⟩) (by decide +kernel) (at_ := 0) (rest := []) (by omega) (by decide +kernel)
theorem awake_right : rightR ⟨[], 9, 0, 0, false, zero16, [], []⟩ := by decide +kernel
end Go.Proofs.YtbikifaadpijnaaGreatDoor
