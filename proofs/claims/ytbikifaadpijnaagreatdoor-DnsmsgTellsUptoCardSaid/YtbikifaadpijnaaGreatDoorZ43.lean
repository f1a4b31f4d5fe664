/-
  stockaderef12.RightRecord: the document's own answer where the type has a name, or none of these; then for whatever record. Conditions: those of the slice; names of 2,000 bytes at most.
  stockaderef12.data: the document's own answer. Conditions: those of the slice; a million bytes at most.
  stockaderef12.data where the type has a name. Conditions: those of the slice; a million bytes at most.
  stockaderef12.data where the type has no form of its own. Conditions: those of the slice; a million bytes at most.
  stockaderef12.data: the document's own answer, whatever the type. Conditions: those of the slice; a million bytes at most.
  The document's Write of a name that may be one: a row of the call's own. No conditions.
  stockaderef12.WriteQuestion: the document's own answer. Conditions: a name of 2,000 bytes at most.
-/
import Derived.Test.YtbikifaadpijnaaGreatDoorZ42
import Derived.Test.YtbikifaadpijnaaGreatDoorZ40
import Derived.Test.YtbikifaadpijnaaGreatDoorZ26
import Derived.Test.YtbikifaadpijnaaGreatDoorZ11
import Derived.Test.YtbikifaadpijnaaGreatDoorZ41
import Derived.Test.YtbikifaadpijnaaGreatDoorZ31
import Derived.Test.YtbikifaadpijnaaGreatDoorZ19
namespace Go.Proofs.YtbikifaadpijnaaGreatDoor
open Go.RowKit
set_option maxRecDepth 100000

theorem run_build_ad0 (w : World) : (Instr.build 55 #[]).run Tryz.prog w = .ok (.agg (adv false zero16)) w := by kernel_rfl
theorem wp_build_ad0 {o : Oper} {a : Act} {w : World} {K : Act → World → Prop} {Q : Exit → Act → World → Prop} (ho : o.op = .build 55 #[])
    (h : K (a.put o.dst (.agg (adv false zero16))) w) : o.wp Tryz.prog a w K Q := by
  have hrun := run_build_ad0 w
  unfold Oper.wp execOp
  simp only [ho, Sem.run_bind, Sem.run_pure, Result.andThen_ok, List.map_toArray, List.map_nil, hrun]
  exact h
set_option maxHeartbeats 8000000 in
theorem ref_rightR_name {r : Rc} (hk : r.ok) (hkd : r.kind = 5) {A : Option Addr} {n c : Nat} {w : World} (hb : Bs w A n c r.data) (hn : r.name.length ≤ 10000) (ht : r.target.length ≤ 10000) (h0 : rightN r.name) (h1 : shortI r.kind) (h2 : shortI r.cls) : Calls Tryz.prog 68 #[.agg (rcv r A n c)] w fun e w' => e = .returned (.bool (decide (rightR r))) ∧ Below w.heap.size w w' := by
  have a1 := RcBox.new w hk A n c
  have b1 : Below w.heap.size w (w.alloc (.cells (rcv r A n c) 57)) := (Below.refl _ _).alloc (Nat.le_refl _) _
  obtain ⟨W, hW⟩ : ∃ W, w.alloc (.cells (rcv r A n c) 57) = W := ⟨_, rfl⟩
  rw [hW] at a1 b1
  have HA := Lib.hid (And.intro a1 b1)
  have HW := Lib.hid hW
  have d0 : ∀ w', Below W.heap.size W w' → w'.cell? ⟨w.heap.size, 0, none⟩ = some (.string (mkS r.name)) := fun w' h => (HA.out.1.later h (Nat.le_refl _)).name
  have d1 : ∀ w', Below W.heap.size W w' → w'.cell? ⟨w.heap.size, 1, none⟩ = some (.int .i64 r.kind) := fun w' h => (HA.out.1.later h (Nat.le_refl _)).kind
  have d2 : ∀ w', Below W.heap.size W w' → w'.cell? ⟨w.heap.size, 2, none⟩ = some (.int .i64 r.cls) := fun w' h => (HA.out.1.later h (Nat.le_refl _)).cls
  have d4 : ∀ w', Below W.heap.size W w' → w'.cell? ⟨w.heap.size, 4, none⟩ = some (.bool r.v6) := fun w' h => (HA.out.1.later h (Nat.le_refl _)).v6
  have d21 : ∀ w', Below W.heap.size W w' → w'.cell? ⟨w.heap.size, 21, none⟩ = some (.string (mkS r.target)) := fun w' h => (HA.out.1.later h (Nat.le_refl _)).target
  have d22 : ∀ w', Below W.heap.size W w' → w'.cell? ⟨w.heap.size, 22, none⟩ = some (.slice A n c) := fun w' h => (HA.out.1.later h (Nat.le_refl _)).data
  have KA := fun w1 => refRight_any r.v6 r.adr hk w1
  rw [rightv_dec r.v6 hk] at KA
  have KT := fun w1 => ref_right (mkS r.target) (by rw [mkS_size]; exact ht) w1
  rw [mkS_data] at KT
  have KN := fun w1 => ref_right (mkS r.name) (by rw [mkS_size]; exact hn) w1
  rw [mkS_data] at KN
  have hlen := hb.len
  have heq := eql_ad r.v6 false hk (show zero16.length = 16 from rfl)
  have hef : ¬ (r.v6 = false ∧ r.adr = zero16) → ((r.v6 == false) && (r.adr == zero16)) = false := fun h => by
    cases hv : (r.v6 == false) && (r.adr == zero16) with
    | false => rfl
    | true =>
      rw [Bool.and_eq_true, beq_iff_eq, beq_iff_eq] at hv
      exact absurd hv h
  have het : (r.v6 = false ∧ r.adr = zero16) → ((r.v6 == false) && (r.adr == zero16)) = true := fun h => by
    rw [h.1, h.2, beq_self_eq_true, beq_self_eq_true]; rfl
  rw [decide_eq_true h0] at KN
  clear a1 b1 hW hb
  rw [hkd] at d1 h1
  have hc : rightR r → r.v6 = false ∧ r.adr = zero16 ∧ r.data = [] := fun h => by
    rcases alike_cases h with x | x | x | x
    · omega
    · omega
    · exact x.2
    · omega
  by_cases hq : rightN r.target
  case neg =>
    rw [decide_eq_false (show ¬ rightR r from fun h => hq h.2.2.1)]
    rw [decide_eq_false hq] at KT
    clear hef het heq
    have KN := Lib.hid KN
    have KA := Lib.hid KA
    have KT := Lib.hid KT
    have D0 := Lib.hid d0
    have D1 := Lib.hid d1
    have D2 := Lib.hid d2
    have D4 := Lib.hid d4
    have D21 := Lib.hid d21
    have D22 := Lib.hid d22
    have e0 := d0 W (Below.refl _ _)
    rw [← HW.out] at e0
    clear d0 d1 d2 d4 d21 d22
    go_enter Tryz.func68, Tryz.ntmps68
    go_wp2_with fail
    rw [HW.out]
    refine (KN.out _).mono ?_
    rintro e w1 ⟨rfl, g1⟩
    have G1 := Lib.hid g1
    have e1 := D1.out w1 g1
    have e2 := D2.out w1 g1
    clear g1
    go_wp2_with fail
    refine (two_any _ _).mono ?_
    rintro e w2 ⟨rfl, rfl⟩
    rw [decide_eq_true h1]
    go_wp2_with fail
    refine (two_any _ _).mono ?_
    rintro e w2 ⟨rfl, rfl⟩
    rw [decide_eq_true h2]
    have f21 := D21.out w1 G1.out
    go_wp2_with fail
    refine (KT.out _).mono ?_
    rintro e w3 ⟨rfl, g3⟩
    have G3 := Lib.hid (G1.out.trans (g3.mono G1.out.size))
    have R3 := Lib.hid (HA.out.1.later G3.out (Nat.le_refl _))
    have f22 := D22.out w3 G3.out
    clear g3 e1 e2 f21
    go_wp2_with fail
    go_ret
    exact ⟨rfl, HA.out.2.trans (G3.out.mono HA.out.2.size)⟩
  rw [decide_eq_true hq] at KT
  by_cases ha : r.v6 = false ∧ r.adr = zero16
  case neg =>
    rw [decide_eq_false (show ¬ rightR r from fun h => ha ⟨(hc h).1, (hc h).2.1⟩)]
    rw [hef ha] at heq
    clear hef het ha
    have KN := Lib.hid KN
    have KA := Lib.hid KA
    have KT := Lib.hid KT
    have D0 := Lib.hid d0
    have D1 := Lib.hid d1
    have D2 := Lib.hid d2
    have D4 := Lib.hid d4
    have D21 := Lib.hid d21
    have D22 := Lib.hid d22
    have e0 := d0 W (Below.refl _ _)
    rw [← HW.out] at e0
    clear d0 d1 d2 d4 d21 d22
    go_enter Tryz.func68, Tryz.ntmps68
    go_wp2_with fail
    rw [HW.out]
    refine (KN.out _).mono ?_
    rintro e w1 ⟨rfl, g1⟩
    have G1 := Lib.hid g1
    have e1 := D1.out w1 g1
    have e2 := D2.out w1 g1
    clear g1
    go_wp2_with fail
    refine (two_any _ _).mono ?_
    rintro e w2 ⟨rfl, rfl⟩
    rw [decide_eq_true h1]
    go_wp2_with fail
    refine (two_any _ _).mono ?_
    rintro e w2 ⟨rfl, rfl⟩
    rw [decide_eq_true h2]
    have f21 := D21.out w1 G1.out
    go_wp2_with fail
    refine (KT.out _).mono ?_
    rintro e w3 ⟨rfl, g3⟩
    have G3 := Lib.hid (G1.out.trans (g3.mono G1.out.size))
    have R3 := Lib.hid (HA.out.1.later G3.out (Nat.le_refl _))
    have f22 := D22.out w3 G3.out
    clear g3 e1 e2 f21
    go_wp2_with (first | (refine wpList_wanted (by rfl) (wp_load_rcAd (.tmp 53) rfl rfl R3.out ?_)) | (refine wpList_wanted (by rfl) (wp_build_ad0 rfl ?_)))
    go_ret
    exact ⟨rfl, HA.out.2.trans (G3.out.mono HA.out.2.size)⟩
  rw [het ha] at heq
  clear hef het
  by_cases hz : n = 0
  case neg =>
    rw [decide_eq_false (show ¬ rightR r from fun h => hz (by rw [← hlen, (hc h).2.2]; rfl))]
    have hzz : ((n : Int) == 0) = false := by rw [beq_eq_false_iff_ne]; omega
    clear hq ha
    have KN := Lib.hid KN
    have KA := Lib.hid KA
    have KT := Lib.hid KT
    have D0 := Lib.hid d0
    have D1 := Lib.hid d1
    have D2 := Lib.hid d2
    have D4 := Lib.hid d4
    have D21 := Lib.hid d21
    have D22 := Lib.hid d22
    have e0 := d0 W (Below.refl _ _)
    rw [← HW.out] at e0
    clear d0 d1 d2 d4 d21 d22
    go_enter Tryz.func68, Tryz.ntmps68
    go_wp2_with fail
    rw [HW.out]
    refine (KN.out _).mono ?_
    rintro e w1 ⟨rfl, g1⟩
    have G1 := Lib.hid g1
    have e1 := D1.out w1 g1
    have e2 := D2.out w1 g1
    clear g1
    go_wp2_with fail
    refine (two_any _ _).mono ?_
    rintro e w2 ⟨rfl, rfl⟩
    rw [decide_eq_true h1]
    go_wp2_with fail
    refine (two_any _ _).mono ?_
    rintro e w2 ⟨rfl, rfl⟩
    rw [decide_eq_true h2]
    have f21 := D21.out w1 G1.out
    go_wp2_with fail
    refine (KT.out _).mono ?_
    rintro e w3 ⟨rfl, g3⟩
    have G3 := Lib.hid (G1.out.trans (g3.mono G1.out.size))
    have R3 := Lib.hid (HA.out.1.later G3.out (Nat.le_refl _))
    have f22 := D22.out w3 G3.out
    clear g3 e1 e2 f21
    go_wp2_with (first | (refine wpList_wanted (by rfl) (wp_load_rcAd (.tmp 53) rfl rfl R3.out ?_)) | (refine wpList_wanted (by rfl) (wp_build_ad0 rfl ?_)))
    go_ret
    exact ⟨rfl, HA.out.2.trans (G3.out.mono HA.out.2.size)⟩
  have hd0 : r.data = [] := List.length_eq_zero_iff.1 (by omega)
  have hR : rightR r := ⟨⟨h0, (by show shortI r.kind; rw [hkd]; exact h1), h2⟩, (by rw [ha.2]; intro _; rfl), hq, (by rw [hd0]; decide), (by unfold alikeV bareV; rw [if_neg (by omega), if_neg (by omega), if_pos hkd]; exact ⟨⟨ha.1, ha.2⟩, rfl, hd0⟩)⟩
  rw [decide_eq_true hR]
  rw [hz] at d22
  clear hz hR hd0 hc hlen hq ha
  have KN := Lib.hid KN
  have KA := Lib.hid KA
  have KT := Lib.hid KT
  have D0 := Lib.hid d0
  have D1 := Lib.hid d1
  have D2 := Lib.hid d2
  have D4 := Lib.hid d4
  have D21 := Lib.hid d21
  have D22 := Lib.hid d22
  have e0 := d0 W (Below.refl _ _)
  rw [← HW.out] at e0
  clear d0 d1 d2 d4 d21 d22
  go_enter Tryz.func68, Tryz.ntmps68
  go_wp2_with fail
  rw [HW.out]
  refine (KN.out _).mono ?_
  rintro e w1 ⟨rfl, g1⟩
  have G1 := Lib.hid g1
  have e1 := D1.out w1 g1
  have e2 := D2.out w1 g1
  clear g1
  go_wp2_with fail
  refine (two_any _ _).mono ?_
  rintro e w2 ⟨rfl, rfl⟩
  rw [decide_eq_true h1]
  go_wp2_with fail
  refine (two_any _ _).mono ?_
  rintro e w2 ⟨rfl, rfl⟩
  rw [decide_eq_true h2]
  have f21 := D21.out w1 G1.out
  go_wp2_with fail
  refine (KT.out _).mono ?_
  rintro e w3 ⟨rfl, g3⟩
  have G3 := Lib.hid (G1.out.trans (g3.mono G1.out.size))
  have R3 := Lib.hid (HA.out.1.later G3.out (Nat.le_refl _))
  have f22 := D22.out w3 G3.out
  clear g3 e1 e2 f21
  go_wp2_with (first | (refine wpList_wanted (by rfl) (wp_load_rcAd (.tmp 53) rfl rfl R3.out ?_)) | (refine wpList_wanted (by rfl) (wp_build_ad0 rfl ?_)))
  go_ret
  exact ⟨rfl, HA.out.2.trans (G3.out.mono HA.out.2.size)⟩
set_option maxHeartbeats 8000000 in
theorem ref_rightR_else {r : Rc} (hk : r.ok) (hkd : r.kind ≠ 28 ∧ r.kind ≠ 1 ∧ r.kind ≠ 5) {A : Option Addr} {n c : Nat} {w : World} (hb : Bs w A n c r.data) (hn : r.name.length ≤ 10000) (ht : r.target.length ≤ 10000) (h0 : rightN r.name) (h1 : shortI r.kind) (h2 : shortI r.cls) : Calls Tryz.prog 68 #[.agg (rcv r A n c)] w fun e w' => e = .returned (.bool (decide (rightR r))) ∧ Below w.heap.size w w' := by
  have a1 := RcBox.new w hk A n c
  have b1 : Below w.heap.size w (w.alloc (.cells (rcv r A n c) 57)) := (Below.refl _ _).alloc (Nat.le_refl _) _
  obtain ⟨W, hW⟩ : ∃ W, w.alloc (.cells (rcv r A n c) 57) = W := ⟨_, rfl⟩
  rw [hW] at a1 b1
  have HA := Lib.hid (And.intro a1 b1)
  have HW := Lib.hid hW
  have d0 : ∀ w', Below W.heap.size W w' → w'.cell? ⟨w.heap.size, 0, none⟩ = some (.string (mkS r.name)) := fun w' h => (HA.out.1.later h (Nat.le_refl _)).name
  have d1 : ∀ w', Below W.heap.size W w' → w'.cell? ⟨w.heap.size, 1, none⟩ = some (.int .i64 r.kind) := fun w' h => (HA.out.1.later h (Nat.le_refl _)).kind
  have d2 : ∀ w', Below W.heap.size W w' → w'.cell? ⟨w.heap.size, 2, none⟩ = some (.int .i64 r.cls) := fun w' h => (HA.out.1.later h (Nat.le_refl _)).cls
  have d4 : ∀ w', Below W.heap.size W w' → w'.cell? ⟨w.heap.size, 4, none⟩ = some (.bool r.v6) := fun w' h => (HA.out.1.later h (Nat.le_refl _)).v6
  have d21 : ∀ w', Below W.heap.size W w' → w'.cell? ⟨w.heap.size, 21, none⟩ = some (.string (mkS r.target)) := fun w' h => (HA.out.1.later h (Nat.le_refl _)).target
  have d22 : ∀ w', Below W.heap.size W w' → w'.cell? ⟨w.heap.size, 22, none⟩ = some (.slice A n c) := fun w' h => (HA.out.1.later h (Nat.le_refl _)).data
  have KA := fun w1 => refRight_any r.v6 r.adr hk w1
  rw [rightv_dec r.v6 hk] at KA
  have KT := fun w1 => ref_right (mkS r.target) (by rw [mkS_size]; exact ht) w1
  rw [mkS_data] at KT
  have KN := fun w1 => ref_right (mkS r.name) (by rw [mkS_size]; exact hn) w1
  rw [mkS_data] at KN
  have hlen := hb.len
  have heq := eql_ad r.v6 false hk (show zero16.length = 16 from rfl)
  have hef : ¬ (r.v6 = false ∧ r.adr = zero16) → ((r.v6 == false) && (r.adr == zero16)) = false := fun h => by
    cases hv : (r.v6 == false) && (r.adr == zero16) with
    | false => rfl
    | true =>
      rw [Bool.and_eq_true, beq_iff_eq, beq_iff_eq] at hv
      exact absurd hv h
  have het : (r.v6 = false ∧ r.adr = zero16) → ((r.v6 == false) && (r.adr == zero16)) = true := fun h => by
    rw [h.1, h.2, beq_self_eq_true, beq_self_eq_true]; rfl
  rw [decide_eq_true h0] at KN
  clear a1 b1 hW hb
  obtain ⟨k28, k1, k5⟩ := hkd
  have hc : rightR r → r.v6 = false ∧ r.adr = zero16 ∧ r.target = [] := fun h => by
    rcases alike_cases h with x | x | x | x
    · exact absurd x.1 k28
    · exact absurd x.1 k1
    · exact absurd x.1 k5
    · exact x.2.2.2
  by_cases ha : r.v6 = false ∧ r.adr = zero16
  case neg =>
    rw [decide_eq_false (show ¬ rightR r from fun h => ha ⟨(hc h).1, (hc h).2.1⟩)]
    rw [hef ha] at heq
    clear hef het ha
    have KN := Lib.hid KN
    have KA := Lib.hid KA
    have KT := Lib.hid KT
    have D0 := Lib.hid d0
    have D1 := Lib.hid d1
    have D2 := Lib.hid d2
    have D4 := Lib.hid d4
    have D21 := Lib.hid d21
    have D22 := Lib.hid d22
    have e0 := d0 W (Below.refl _ _)
    rw [← HW.out] at e0
    clear d0 d1 d2 d4 d21 d22
    go_enter Tryz.func68, Tryz.ntmps68
    go_wp2_with fail
    rw [HW.out]
    refine (KN.out _).mono ?_
    rintro e w1 ⟨rfl, g1⟩
    have G1 := Lib.hid g1
    have e1 := D1.out w1 g1
    have e2 := D2.out w1 g1
    clear g1
    go_wp2_with fail
    refine (two_any _ _).mono ?_
    rintro e w2 ⟨rfl, rfl⟩
    rw [decide_eq_true h1]
    go_wp2_with fail
    refine (two_any _ _).mono ?_
    rintro e w2 ⟨rfl, rfl⟩
    rw [decide_eq_true h2]
    have R1 := Lib.hid (HA.out.1.later G1.out (Nat.le_refl _))
    have f21 := D21.out w1 G1.out
    have f22 := D22.out w1 G1.out
    go_wp2_with (first | (refine wpList_load_rcAd rfl (.tmp 64) rfl rfl R1.out ?_) | (refine wpList_wanted (by rfl) (wp_build_ad0 rfl ?_)))
    go_ret
    exact ⟨rfl, HA.out.2.trans (G1.out.mono HA.out.2.size)⟩
  rw [het ha] at heq
  clear hef het
  by_cases hq : r.target = []
  case neg =>
    have he := mkS_full hq
    rw [decide_eq_false (show ¬ rightR r from fun h => hq (hc h).2.2)]
    clear ha
    have KN := Lib.hid KN
    have KA := Lib.hid KA
    have KT := Lib.hid KT
    have D0 := Lib.hid d0
    have D1 := Lib.hid d1
    have D2 := Lib.hid d2
    have D4 := Lib.hid d4
    have D21 := Lib.hid d21
    have D22 := Lib.hid d22
    have e0 := d0 W (Below.refl _ _)
    rw [← HW.out] at e0
    clear d0 d1 d2 d4 d21 d22
    go_enter Tryz.func68, Tryz.ntmps68
    go_wp2_with fail
    rw [HW.out]
    refine (KN.out _).mono ?_
    rintro e w1 ⟨rfl, g1⟩
    have G1 := Lib.hid g1
    have e1 := D1.out w1 g1
    have e2 := D2.out w1 g1
    clear g1
    go_wp2_with fail
    refine (two_any _ _).mono ?_
    rintro e w2 ⟨rfl, rfl⟩
    rw [decide_eq_true h1]
    go_wp2_with fail
    refine (two_any _ _).mono ?_
    rintro e w2 ⟨rfl, rfl⟩
    rw [decide_eq_true h2]
    have R1 := Lib.hid (HA.out.1.later G1.out (Nat.le_refl _))
    have f21 := D21.out w1 G1.out
    have f22 := D22.out w1 G1.out
    go_wp2_with (first | (refine wpList_load_rcAd rfl (.tmp 64) rfl rfl R1.out ?_) | (refine wpList_wanted (by rfl) (wp_build_ad0 rfl ?_)))
    go_ret
    exact ⟨rfl, HA.out.2.trans (G1.out.mono HA.out.2.size)⟩
  have he := mkS_nil hq
  by_cases hz : n ≤ 1000
  case neg =>
    rw [decide_eq_false (show ¬ rightR r from fun h => hz (by rw [← hlen]; exact h.2.2.2.1))]
    have hz2 : ¬ (n : Int) ≤ 1000 := by omega
    clear hq ha
    have KN := Lib.hid KN
    have KA := Lib.hid KA
    have KT := Lib.hid KT
    have D0 := Lib.hid d0
    have D1 := Lib.hid d1
    have D2 := Lib.hid d2
    have D4 := Lib.hid d4
    have D21 := Lib.hid d21
    have D22 := Lib.hid d22
    have e0 := d0 W (Below.refl _ _)
    rw [← HW.out] at e0
    clear d0 d1 d2 d4 d21 d22
    go_enter Tryz.func68, Tryz.ntmps68
    go_wp2_with fail
    rw [HW.out]
    refine (KN.out _).mono ?_
    rintro e w1 ⟨rfl, g1⟩
    have G1 := Lib.hid g1
    have e1 := D1.out w1 g1
    have e2 := D2.out w1 g1
    clear g1
    go_wp2_with fail
    refine (two_any _ _).mono ?_
    rintro e w2 ⟨rfl, rfl⟩
    rw [decide_eq_true h1]
    go_wp2_with fail
    refine (two_any _ _).mono ?_
    rintro e w2 ⟨rfl, rfl⟩
    rw [decide_eq_true h2]
    have R1 := Lib.hid (HA.out.1.later G1.out (Nat.le_refl _))
    have f21 := D21.out w1 G1.out
    have f22 := D22.out w1 G1.out
    go_wp2_with (first | (refine wpList_load_rcAd rfl (.tmp 64) rfl rfl R1.out ?_) | (refine wpList_wanted (by rfl) (wp_build_ad0 rfl ?_)))
    go_ret
    exact ⟨congrArg (fun b => Ending.returned (Value.bool b)) (decide_eq_false (by omega)), HA.out.2.trans (G1.out.mono HA.out.2.size)⟩
  have hR : rightR r := ⟨⟨h0, h1, h2⟩, (by rw [ha.2]; intro _; rfl), (by rw [hq]; decide), (by omega), (by unfold alikeV bareV; rw [if_neg k28, if_neg k1, if_neg k5]; exact ⟨⟨ha.1, ha.2⟩, hq, rfl⟩)⟩
  rw [decide_eq_true hR]
  have hz2 : (n : Int) ≤ 1000 := by omega
  clear hR hc hq ha
  have KN := Lib.hid KN
  have KA := Lib.hid KA
  have KT := Lib.hid KT
  have D0 := Lib.hid d0
  have D1 := Lib.hid d1
  have D2 := Lib.hid d2
  have D4 := Lib.hid d4
  have D21 := Lib.hid d21
  have D22 := Lib.hid d22
  have e0 := d0 W (Below.refl _ _)
  rw [← HW.out] at e0
  clear d0 d1 d2 d4 d21 d22
  go_enter Tryz.func68, Tryz.ntmps68
  go_wp2_with fail
  rw [HW.out]
  refine (KN.out _).mono ?_
  rintro e w1 ⟨rfl, g1⟩
  have G1 := Lib.hid g1
  have e1 := D1.out w1 g1
  have e2 := D2.out w1 g1
  clear g1
  go_wp2_with fail
  refine (two_any _ _).mono ?_
  rintro e w2 ⟨rfl, rfl⟩
  rw [decide_eq_true h1]
  go_wp2_with fail
  refine (two_any _ _).mono ?_
  rintro e w2 ⟨rfl, rfl⟩
  rw [decide_eq_true h2]
  have R1 := Lib.hid (HA.out.1.later G1.out (Nat.le_refl _))
  have f21 := D21.out w1 G1.out
  have f22 := D22.out w1 G1.out
  go_wp2_with (first | (refine wpList_load_rcAd rfl (.tmp 64) rfl rfl R1.out ?_) | (refine wpList_wanted (by rfl) (wp_build_ad0 rfl ?_)))
  go_ret
  exact ⟨rfl, HA.out.2.trans (G1.out.mono HA.out.2.size)⟩
set_option maxHeartbeats 8000000 in
theorem ref_rightR_not {r : Rc} (hk : r.ok) (hqq : ¬ rightQ r.asks) {A : Option Addr} {n c : Nat} {w : World} (hb : Bs w A n c r.data) (hn : r.name.length ≤ 10000) : Calls Tryz.prog 68 #[.agg (rcv r A n c)] w fun e w' => e = .returned (.bool (decide (rightR r))) ∧ Below w.heap.size w w' := by
  have a1 := RcBox.new w hk A n c
  have b1 : Below w.heap.size w (w.alloc (.cells (rcv r A n c) 57)) := (Below.refl _ _).alloc (Nat.le_refl _) _
  obtain ⟨W, hW⟩ : ∃ W, w.alloc (.cells (rcv r A n c) 57) = W := ⟨_, rfl⟩
  rw [hW] at a1 b1
  have HA := Lib.hid (And.intro a1 b1)
  have HW := Lib.hid hW
  have d0 : ∀ w', Below W.heap.size W w' → w'.cell? ⟨w.heap.size, 0, none⟩ = some (.string (mkS r.name)) := fun w' h => (HA.out.1.later h (Nat.le_refl _)).name
  have d1 : ∀ w', Below W.heap.size W w' → w'.cell? ⟨w.heap.size, 1, none⟩ = some (.int .i64 r.kind) := fun w' h => (HA.out.1.later h (Nat.le_refl _)).kind
  have d2 : ∀ w', Below W.heap.size W w' → w'.cell? ⟨w.heap.size, 2, none⟩ = some (.int .i64 r.cls) := fun w' h => (HA.out.1.later h (Nat.le_refl _)).cls
  have KN := fun w1 => ref_right (mkS r.name) (by rw [mkS_size]; exact hn) w1
  rw [mkS_data] at KN
  have hlen := hb.len
  clear a1 b1 hW hb
  by_cases h0 : rightN r.name
  case neg =>
    rw [decide_eq_false (show ¬ rightR r from fun h => h0 h.1.1)]
    rw [decide_eq_false h0] at KN
    have KN := Lib.hid KN
    have D0 := Lib.hid d0
    have D1 := Lib.hid d1
    have D2 := Lib.hid d2
    have e0 := d0 W (Below.refl _ _)
    rw [← HW.out] at e0
    clear d0 d1 d2
    go_enter Tryz.func68, Tryz.ntmps68
    go_wp2_with fail
    rw [HW.out]
    refine (KN.out _).mono ?_
    rintro e w1 ⟨rfl, g1⟩
    have G1 := Lib.hid g1
    have e1 := D1.out w1 g1
    have e2 := D2.out w1 g1
    clear g1
    go_wp2_with fail
    go_ret
    exact ⟨rfl, HA.out.2.trans (G1.out.mono HA.out.2.size)⟩
  by_cases h1 : shortI r.kind
  case neg =>
    rw [decide_eq_false (show ¬ rightR r from fun h => h1 h.1.2.1)]
    rw [decide_eq_true h0] at KN
    have KN := Lib.hid KN
    have D0 := Lib.hid d0
    have D1 := Lib.hid d1
    have D2 := Lib.hid d2
    have e0 := d0 W (Below.refl _ _)
    rw [← HW.out] at e0
    clear d0 d1 d2
    go_enter Tryz.func68, Tryz.ntmps68
    go_wp2_with fail
    rw [HW.out]
    refine (KN.out _).mono ?_
    rintro e w1 ⟨rfl, g1⟩
    have G1 := Lib.hid g1
    have e1 := D1.out w1 g1
    have e2 := D2.out w1 g1
    clear g1
    go_wp2_with fail
    refine (two_any _ _).mono ?_
    rintro e w2 ⟨rfl, rfl⟩
    rw [decide_eq_false h1]
    go_wp2_with fail
    go_ret
    exact ⟨rfl, HA.out.2.trans (G1.out.mono HA.out.2.size)⟩
  by_cases h2 : shortI r.cls
  case neg =>
    rw [decide_eq_false (show ¬ rightR r from fun h => h2 h.1.2.2)]
    rw [decide_eq_true h0] at KN
    have KN := Lib.hid KN
    have D0 := Lib.hid d0
    have D1 := Lib.hid d1
    have D2 := Lib.hid d2
    have e0 := d0 W (Below.refl _ _)
    rw [← HW.out] at e0
    clear d0 d1 d2
    go_enter Tryz.func68, Tryz.ntmps68
    go_wp2_with fail
    rw [HW.out]
    refine (KN.out _).mono ?_
    rintro e w1 ⟨rfl, g1⟩
    have G1 := Lib.hid g1
    have e1 := D1.out w1 g1
    have e2 := D2.out w1 g1
    clear g1
    go_wp2_with fail
    refine (two_any _ _).mono ?_
    rintro e w2 ⟨rfl, rfl⟩
    rw [decide_eq_true h1]
    go_wp2_with fail
    refine (two_any _ _).mono ?_
    rintro e w2 ⟨rfl, rfl⟩
    rw [decide_eq_false h2]
    go_wp2_with fail
    go_ret
    exact ⟨rfl, HA.out.2.trans (G1.out.mono HA.out.2.size)⟩
  exact absurd ⟨h0, h1, h2⟩ hqq
set_option maxHeartbeats 8000000 in
theorem ref_rightR {r : Rc} (hk : r.ok) {A : Option Addr} {n c : Nat} {w : World} (hb : Bs w A n c r.data) (hn : r.name.length ≤ 10000) (ht : r.target.length ≤ 10000) : Calls Tryz.prog 68 #[.agg (rcv r A n c)] w fun e w' => e = .returned (.bool (decide (rightR r))) ∧ Below w.heap.size w w' := by
  by_cases k28 : r.kind = 28
  · exact ref_rightR_addr hk (.inl k28) hb hn ht
  by_cases k1 : r.kind = 1
  · exact ref_rightR_addr hk (.inr k1) hb hn ht
  by_cases hq : rightQ r.asks
  case neg => exact ref_rightR_not hk hq hb hn
  obtain ⟨h0, h1, h2⟩ := hq
  by_cases k5 : r.kind = 5
  · exact ref_rightR_name hk k5 hb hn ht h0 h1 h2
  · exact ref_rightR_else hk ⟨k28, k1, k5⟩ hb hn ht h0 h1 h2
end Go.Proofs.YtbikifaadpijnaaGreatDoor

namespace Go.Proofs.YtbikifaadpijnaaGreatDoor
open Go.RowKit
set_option maxRecDepth 100000

theorem size_ref (v6 : Bool) (bs : List UInt8) (hl : bs.length = 16) (w : World) : Calls Tryz.prog 69 #[.agg (adv v6 bs)] w fun e w' => e = .returned (.int .i64 (wid v6)) ∧ Below w.heap.size w w' := by
  have a1 := AdBox.new w v6 hl
  have b1 : Below w.heap.size w (w.alloc (.cells (adv v6 bs) 55)) := (Below.refl _ _).alloc (Nat.le_refl _) _
  have c1 := a1.v6_cell
  have H1 := Lib.hid b1
  generalize hW : w.alloc (.cells (adv v6 bs) 55) = W at c1 H1
  clear a1 b1
  cases v6
  · go_enter Tryz.func69, Tryz.ntmps69
    go_wp2
    go_ret
    exact ⟨rfl, H1.out⟩
  · go_enter Tryz.func69, Tryz.ntmps69
    go_wp2
    go_ret
    exact ⟨rfl, H1.out⟩
theorem RcBox.putB {w : World} {g : Nat} {r : Rc} {A : Option Addr} {n c : Nat} (H : RcBox w g r A n c) {j : Nat} (hj : j < 16) (x : UInt8) : RcBox (w.setCell ⟨g, 5 + j, none⟩ (.int .u8 x.toNat)) g { r with adr := r.adr.set j x } A n c := by
  have e : w.setCell ⟨g, 5 + j, none⟩ (.int .u8 x.toNat) = w.setRow g (rcv { r with adr := r.adr.set j x } A n c) := by
    rw [setCell_eq_setRow w g (5 + j) _ _ _ (.int .u8 x.toNat) H.1]
    congr 1
    apply Array.toList_inj.1
    rw [Array.toList_setIfInBounds, rcv_front, rcv_front, List.set_append_right _ _ (by simp), List.set_append_left _ _ (by simp [bv_length]; have := H.2; unfold Rc.ok at this; omega)]
    simp [bv, List.map_set]
  rw [e]
  exact ⟨setRow_heap w g _ _ _ _ H.1, by have := H.2; unfold Rc.ok at *; simpa using this⟩
theorem RcBox.there {w : World} {g : Nat} {r : Rc} {A : Option Addr} {n c : Nat} (H : RcBox w g r A n c) {j : Nat} (hj : j < 16) : ∃ x : UInt8, w.cell? ⟨g, 5 + j, none⟩ = some (.int .u8 x.toNat) := by
  have hk := H.2
  unfold Rc.ok at hk
  have hx : r.adr[j]? = some (r.adr[j]'(by omega)) := List.getElem?_eq_getElem _
  refine ⟨r.adr[j]'(by omega), H.bR j _ ?_⟩
  unfold bv
  rw [List.getElem?_map, hx]
  rfl
theorem RcBox.farB {w : World} {g : Nat} {r : Rc} {A : Option Addr} {n c : Nat} (H : RcBox w g r A n c) {p : Addr} (hp : p.block ≠ g) (v : Value) : RcBox (w.setCell p v) g r A n c := H.same (Below.heap_setCell w p v g (fun e => hp e.symm))
theorem FlBox.farB {w : World} {g : Nat} {c a : Int} {q : Bool} (H : FlBox w g c a q) {p : Addr} (hp : p.block ≠ g) (v : Value) : FlBox (w.setCell p v) g c a q := H.same (Below.heap_setCell w p v g (fun e => hp e.symm))
/-- What the reference hands back. -/
def RefD (x : Rc × Fl) (w : World) (e : Ending) (w' : World) : Prop := ∃ A' n' c', e = .returned (.tuple #[.agg (rcv x.1 A' n' c'), .agg (flv x.2.code x.2.at_ x.2.placed)]) ∧ Bs w' A' n' c' x.1.data ∧ Ow w.heap.size A' ∧ Below w.heap.size w w'
theorem ow_none (b : Nat) : Ow b none := fun _ h => by cases h
set_option maxHeartbeats 8000000 in
theorem ref_data6 {A : Option Addr} {n c : Nat} {l : List UInt8} {w : World} (hb : Bs w A n c l) (hn : n ≤ 1000000) (q : Qs) (t : Int) (p k : Nat) (hk : p + 2 + k ≤ n) (hq : q.kind = 28) : Calls Tryz.prog 91 #[.slice A n c, .agg (rcv (q.asRc t) none 0 0), .int .i64 ((p : Int) + 2), .int .i64 k] w (RefD (dataV l n (q.asRc t) p k) w) := by
  have a1 := RcBox.new w (asRc_ok q t) none 0 0
  have b1 : Below w.heap.size w (w.alloc (.cells (rcv (q.asRc t) none 0 0) 57)) := (Below.refl _ _).alloc (Nat.le_refl _) _
  obtain ⟨W, hW⟩ : ∃ W, w.alloc (.cells (rcv (q.asRc t) none 0 0) 57) = W := ⟨_, rfl⟩
  rw [hW] at a1 b1
  have HA := Lib.hid (And.intro a1 b1)
  have HW := Lib.hid hW
  have HL1 := Lib.hid a1.lt
  have HB := Lib.hid hb
  have hcap := hb.cap
  have hmax := hb.max
  have hlen := hb.len
  unfold maxLen at hmax
  clear a1 b1 hW hb
  obtain ⟨Z, hZ⟩ : ∃ Z, Value.agg (rcv .zero none 0 0) = Z := ⟨_, rfl⟩
  have HZ := Lib.hid hZ
  clear hZ
  unfold dataV RefD
  obtain ⟨nm, kd, cl⟩ := q
  have hkd : (Qs.asRc ⟨nm, kd, cl⟩ t).kind = kd := rfl
  rw [hkd]
  clear hkd
  dsimp only at hq
  subst hq
  rw [if_pos rfl]
  by_cases hw : k = 16
  case neg =>
    rw [if_pos hw]
    have hw2 : ¬ (k : Int) = 16 := by omega
    go_enter Tryz.func91, Tryz.ntmps91
    go_wp2_with (first
      | (refine wpList_alloc_fl rfl rfl ?_; intro w3 a3 b3 z3; have H3 := Lib.hid (And.intro (H2.out.1.later b3 (Nat.le_refl _)) (And.intro (H2.out.2.1.later b3 (Nat.le_refl _)) (And.intro a3 (H2.out.2.2.trans (b3.mono H2.out.2.2.size))))); have HL2 := Lib.hid H2.out.2.1.lt; clear a3 b3 z3)
      | (rw [HW.out]; refine wpList_alloc_rc rfl rfl ?_; intro w2 a2 b2 z2; have H2 := Lib.hid (And.intro (HA.out.1.later b2 (Nat.le_refl _)) (And.intro a2 (HA.out.2.trans (b2.mono HA.out.2.size)))); clear a2 b2 z2))
    refine (help_at 7 _ _).mono ?_
    rintro e w4 ⟨rfl, b4⟩
    have H4 := Lib.hid (And.intro (H3.out.1.later b4 (Nat.le_refl _)) (And.intro (H3.out.2.1.later b4 (Nat.le_refl _)) (And.intro (H3.out.2.2.1.later b4 (Nat.le_refl _)) (H3.out.2.2.2.trans (b4.mono H3.out.2.2.2.size)))))
    have HL3 := Lib.hid H4.out.2.2.1.lt
    clear b4
    go_wp2_with (first
      | (refine wpList_store_fl rfl (.tmp 10) (.tmp 17) rfl 7 p true rfl rfl H5.out.2.2.2.1 ?_; intro w6 a6 o6 z6 g6; have H6 := Lib.hid (And.intro (H5.out.1.same (o6 _ (Nat.ne_of_lt (Nat.lt_trans HL1.out (Nat.lt_trans HL2.out HL3.out))))) (And.intro (H5.out.2.1.same (o6 _ (Nat.ne_of_lt (Nat.lt_trans HL2.out HL3.out)))) (And.intro (H5.out.2.2.1.same (o6 _ (Nat.ne_of_lt HL3.out))) (And.intro a6 (g6 w.heap.size w (Nat.le_of_lt (Nat.lt_trans HL1.out (Nat.lt_trans HL2.out HL3.out))) H5.out.2.2.2.2))))); (have e1 : w6.cell? ⟨w.heap.size, 1, none⟩ = some (.int .i64 28) := H6.out.1.kind); clear a6 o6 z6 g6)
      | (refine wpList_alloc_fl rfl rfl ?_; intro w5 a5 b5 z5; have H5 := Lib.hid (And.intro (H4.out.1.later b5 (Nat.le_refl _)) (And.intro (H4.out.2.1.later b5 (Nat.le_refl _)) (And.intro (H4.out.2.2.1.later b5 (Nat.le_refl _)) (And.intro a5 (H4.out.2.2.2.trans (b5.mono H4.out.2.2.2.size)))))); clear a5 b5 z5)
      | (refine wpList_putV6_rc rfl (.tmp 35) (.tmp 33) rfl true rfl rfl H6.out.1 ?_; intro w7 a7 o7 z7 g7; have H7 := Lib.hid (And.intro (show RcBox w7 w.heap.size { (Qs.asRc ⟨nm, 28, cl⟩ t) with v6 := true } none 0 0 from a7) (And.intro (H6.out.2.1.same (o7 _ (Ne.symm (Nat.ne_of_lt HL1.out)))) (And.intro (H6.out.2.2.1.same (o7 _ (Ne.symm (Nat.ne_of_lt (Nat.lt_trans HL1.out HL2.out))))) (And.intro (H6.out.2.2.2.1.same (o7 _ (Ne.symm (Nat.ne_of_lt (Nat.lt_trans HL1.out (Nat.lt_trans HL2.out HL3.out)))))) (g7 w.heap.size w (Nat.le_refl _) H6.out.2.2.2.2))))); clear a7 o7 z7 g7)
      | (refine wpList_load_rcAd rfl (.tmp 37) rfl rfl H7.out.1 ?_))
    refine (size_ref true zero16 rfl _).mono ?_
    rintro e w8 ⟨rfl, b8⟩
    rw [show ((wid true : Nat) : Int) = 128 from rfl]
    have H8 := Lib.hid (And.intro (H7.out.1.later b8 (Nat.le_refl _)) (And.intro (H7.out.2.1.later b8 (Nat.le_refl _)) (And.intro (H7.out.2.2.1.later b8 (Nat.le_refl _)) (And.intro (H7.out.2.2.2.1.later b8 (Nat.le_refl _)) (H7.out.2.2.2.2.trans (b8.mono H7.out.2.2.2.2.size))))))
    clear b8 e1
    go_wp2_with fail
    have hS : FlBox w8.drew (w4.heap.size) 7 p true := H8.out.2.2.2.1
    refine rg_begin (fun w' => FlBox w' (w4.heap.size) 7 p true) 4 (by kernel_rfl) rfl ?_
    refine rg_load 1 rfl (by kernel_rfl) (by kernel_rfl) (by kernel_rfl) (w4.heap.size) (0) ((flv 7 p true)) (fun _ _ _ h => h) (by rfl) 36 (.tmp 10) rfl rfl hS (fun w2 h2 => (FlBox.range h2)) Tryz.underlying36 rfl (fl_size _ _ _) ?_
    simp only [Act.put, List.setIfInBounds_toArray, List.set_cons_zero, List.set_cons_succ]
    refine rg_step 0 rfl (by kernel_rfl) (by rfl) (fun K hK => ?_)
    refine wp_build_rcZ Z HZ.out rfl ?_
    refine hK.out _ _ hS ?_
    clear hK K
    try simp only [Act.put, List.setIfInBounds_toArray, List.set_cons_zero, List.set_cons_succ]
    refine rg_step 2 rfl (by kernel_rfl) (by rfl) (fun K hK => ?_)
    refine wp_store_rc (.tmp 8) (.tmp 42) rfl .zero none 0 0 rfl HZ.out.symm Rc.zero_ok (H8.out.2.1) ?_
    intro x4 a4 o4 z4 g4
    clear z4
    replace hS : FlBox x4 (w4.heap.size) 7 p true := FlBox.same hS (o4 _ (Ne.symm (Nat.ne_of_lt (Nat.lt_trans HL2.out HL3.out))))
    have HX4 := Lib.hid (And.intro a4 (And.intro (FlBox.same (H8.out.2.2.1) (o4 _ (Ne.symm (Nat.ne_of_lt HL2.out)))) (g4 w.heap.size w (Nat.le_of_lt HL1.out) (Below.drew (H8.out.2.2.2.2)))))
    clear a4 o4 g4
    refine hK.out _ _ hS ?_
    clear hK K
    simp only [Act.put]
    refine rg_step 3 rfl (by kernel_rfl) (by rfl) (fun K hK => ?_)
    refine wp_store_flF (.tmp 9) (.tmp 43) rfl (7) (p) (true) rfl rfl HX4.out.2.1 ?_
    intro x5 a5 o5 g5
    replace hS : FlBox x5 (w4.heap.size) 7 p true := FlBox.same hS (o5 _ (Ne.symm (Nat.ne_of_lt HL3.out)))
    have HX5 := Lib.hid (And.intro (RcBox.same HX4.out.1 (o5 _ (Ne.symm (Ne.symm (Nat.ne_of_lt HL2.out))))) (And.intro a5 (g5 w.heap.size w (Nat.le_of_lt (Nat.lt_trans HL1.out HL2.out)) HX4.out.2.2)))
    clear a5 o5 g5
    refine hK.out _ _ hS ?_
    clear hK K
    simp only [Act.put]
    refine rg_done (by kernel_rfl) ?_
    go_wp2_with fail
    exact bodyPost_ret (results_rcFl _ rfl rfl rfl HX5.out.1 HX5.out.2.1) rfl ⟨none, 0, 0, rfl, Bs.nil _, ow_none _, HX5.out.2.2⟩
  subst hw
  rw [if_neg (by simp)]
  go_enter Tryz.func91, Tryz.ntmps91
  go_wp2_with (first
    | (refine wpList_alloc_fl rfl rfl ?_; intro w3 a3 b3 z3; have H3 := Lib.hid (And.intro (H2.out.1.later b3 (Nat.le_refl _)) (And.intro (H2.out.2.1.later b3 (Nat.le_refl _)) (And.intro a3 (H2.out.2.2.trans (b3.mono H2.out.2.2.size))))); have HL2 := Lib.hid H2.out.2.1.lt; clear a3 b3 z3)
    | (rw [HW.out]; refine wpList_alloc_rc rfl rfl ?_; intro w2 a2 b2 z2; have H2 := Lib.hid (And.intro (HA.out.1.later b2 (Nat.le_refl _)) (And.intro a2 (HA.out.2.trans (b2.mono HA.out.2.size)))); clear a2 b2 z2))
  refine (help_at 7 _ _).mono ?_
  rintro e w4 ⟨rfl, b4⟩
  have H4 := Lib.hid (And.intro (H3.out.1.later b4 (Nat.le_refl _)) (And.intro (H3.out.2.1.later b4 (Nat.le_refl _)) (And.intro (H3.out.2.2.1.later b4 (Nat.le_refl _)) (H3.out.2.2.2.trans (b4.mono H3.out.2.2.2.size)))))
  have HL3 := Lib.hid H4.out.2.2.1.lt
  clear b4
  go_wp2_with (first
    | (refine wpList_store_fl rfl (.tmp 10) (.tmp 17) rfl 7 p true rfl rfl H5.out.2.2.2.1 ?_; intro w6 a6 o6 z6 g6; have H6 := Lib.hid (And.intro (H5.out.1.same (o6 _ (Nat.ne_of_lt (Nat.lt_trans HL1.out (Nat.lt_trans HL2.out HL3.out))))) (And.intro (H5.out.2.1.same (o6 _ (Nat.ne_of_lt (Nat.lt_trans HL2.out HL3.out)))) (And.intro (H5.out.2.2.1.same (o6 _ (Nat.ne_of_lt HL3.out))) (And.intro a6 (g6 w.heap.size w (Nat.le_of_lt (Nat.lt_trans HL1.out (Nat.lt_trans HL2.out HL3.out))) H5.out.2.2.2.2))))); (have e1 : w6.cell? ⟨w.heap.size, 1, none⟩ = some (.int .i64 28) := H6.out.1.kind); clear a6 o6 z6 g6)
    | (refine wpList_alloc_fl rfl rfl ?_; intro w5 a5 b5 z5; have H5 := Lib.hid (And.intro (H4.out.1.later b5 (Nat.le_refl _)) (And.intro (H4.out.2.1.later b5 (Nat.le_refl _)) (And.intro (H4.out.2.2.1.later b5 (Nat.le_refl _)) (And.intro a5 (H4.out.2.2.2.trans (b5.mono H4.out.2.2.2.size)))))); clear a5 b5 z5)
      | (refine wpList_putV6_rc rfl (.tmp 35) (.tmp 33) rfl true rfl rfl H6.out.1 ?_; intro w7 a7 o7 z7 g7; have H7 := Lib.hid (And.intro (show RcBox w7 w.heap.size { (Qs.asRc ⟨nm, 28, cl⟩ t) with v6 := true } none 0 0 from a7) (And.intro (H6.out.2.1.same (o7 _ (Ne.symm (Nat.ne_of_lt HL1.out)))) (And.intro (H6.out.2.2.1.same (o7 _ (Ne.symm (Nat.ne_of_lt (Nat.lt_trans HL1.out HL2.out))))) (And.intro (H6.out.2.2.2.1.same (o7 _ (Ne.symm (Nat.ne_of_lt (Nat.lt_trans HL1.out (Nat.lt_trans HL2.out HL3.out)))))) (g7 w.heap.size w (Nat.le_refl _) H6.out.2.2.2.2))))); clear a7 o7 z7 g7)
      | (refine wpList_load_rcAd rfl (.tmp 37) rfl rfl H7.out.1 ?_))
  refine (size_ref true zero16 rfl _).mono ?_
  rintro e w8 ⟨rfl, b8⟩
  rw [show ((wid true : Nat) : Int) = 128 from rfl]
  have H8 := Lib.hid (And.intro (H7.out.1.later b8 (Nat.le_refl _)) (And.intro (H7.out.2.1.later b8 (Nat.le_refl _)) (And.intro (H7.out.2.2.1.later b8 (Nat.le_refl _)) (And.intro (H7.out.2.2.2.1.later b8 (Nat.le_refl _)) (H7.out.2.2.2.2.trans (b8.mono H7.out.2.2.2.2.size))))))
  clear b8 e1
  go_wp2_with fail
  go_loopw [11] (fun i' wr => ∃ j : Nat, j ≤ 16 ∧ i' = .int .i64 j ∧ RcBox wr w.heap.size { (Qs.asRc ⟨nm, 28, cl⟩ t) with v6 := true, adr := filled l (p + 2) j } none 0 0 ∧ RcBox wr W.heap.size .zero none 0 0 ∧ FlBox wr w2.heap.size 0 0 false ∧ Below w.heap.size w wr) (fun i' _ => 16 - (intOf i').toNat)
  case atStart => exact ⟨0, by omega, rfl, by rw [show filled l (p + 2) 0 = zero16 by simp [filled, zero16]]; exact H8.out.1, H8.out.2.1, H8.out.2.2.1, H8.out.2.2.2.2⟩
  case round =>
    obtain ⟨j, h16, rfl, a1, a2, a3, hbe⟩ := hrel
    by_cases hlt : j < 16
    · obtain ⟨x0, hc⟩ := a1.there (j := j) (by omega)
      have hf := a1.frozen (5 + j)
      obtain ⟨x, hx⟩ : ∃ x, l[p + 2 + j]? = some x := ⟨l[p + 2 + j]'(by omega), List.getElem?_eq_getElem _⟩
      obtain ⟨b, off, rfl, hcb⟩ := (HB.out.later hbe (Nat.le_refl _)).here (by omega)
      have hcx := hcb (p + 2 + j) x hx
      have a4 := a1.putB (j := j) (by omega) x
      dsimp only at a4
      rw [filled_set' (by omega) (by omega) hx] at a4
      have H9 := Lib.hid (And.intro a4 (And.intro (a2.farB (p := ⟨w.heap.size, 5 + j, none⟩) (Nat.ne_of_lt HL1.out) (.int .u8 x.toNat)) (And.intro (a3.farB (p := ⟨w.heap.size, 5 + j, none⟩) (Nat.ne_of_lt (Nat.lt_trans HL1.out HL2.out)) (.int .u8 x.toNat)) (hbe.setCell (p := ⟨w.heap.size, 5 + j, none⟩) (Nat.le_refl _) (.int .u8 x.toNat)))))
      clear a1 a2 a3 a4 hbe hcb
      go_wp2_with fail
      go_roundw
      case rel => exact ⟨j + 1, by omega, by go_num, H9.out⟩
      case measure => simp [intOf]; omega
    · obtain rfl : j = 16 := by omega
      obtain ⟨R, hR⟩ : ∃ R : Rc, R = { (Qs.asRc ⟨nm, 28, cl⟩ t) with v6 := true, adr := filled l (p + 2) 16 } := ⟨_, rfl⟩
      rw [← hR] at a1
      have H9 := Lib.hid (And.intro a1 (And.intro a2 (And.intro a3 hbe)))
      have HR := Lib.hid (And.intro hR a1.2)
      clear a1 a2 a3 hbe hR
      go_wp2_with (first
        | (refine wpList_store_fl rfl (.tmp 9) (.tmp 83) rfl 0 0 false rfl rfl H20.out.2.1 ?_; intro w21 a21 o21 z21 g21; have H21 := Lib.hid (And.intro (H20.out.1.same (o21 _ (Nat.ne_of_lt HL2.out))) (And.intro a21 (And.intro o21 (g21 w.heap.size w (Nat.le_of_lt (Nat.lt_trans HL1.out HL2.out)) H20.out.2.2.2)))); clear a21 o21 z21 g21)
        | (refine wpList_store_rc rfl (.tmp 8) (.tmp 82) rfl R none 0 0 rfl rfl HR.out.2 H9.out.2.1 ?_; intro w20 a20 o20 z20 g20; have H20 := Lib.hid (And.intro a20 (And.intro (H9.out.2.2.1.same (o20 _ (Ne.symm (Nat.ne_of_lt HL2.out)))) (And.intro o20 (g20 w.heap.size w (Nat.le_of_lt HL1.out) H9.out.2.2.2)))); clear a20 o20 z20 g20)
        | (refine wpList_load_rc rfl (.tmp 5) rfl rfl H9.out.1 ?_))
      refine bodyPost_ret (results_rcFl _ rfl rfl rfl H21.out.1 H21.out.2.1) rfl ⟨none, 0, 0, ?_, Bs.nil _, ow_none _, H21.out.2.2.2⟩
      rw [HR.out.1]
      rw [filled_all]
      rfl
set_option maxHeartbeats 8000000 in
theorem ref_data4 {A : Option Addr} {n c : Nat} {l : List UInt8} {w : World} (hb : Bs w A n c l) (hn : n ≤ 1000000) (q : Qs) (t : Int) (p k : Nat) (hk : p + 2 + k ≤ n) (hq : q.kind = 1) : Calls Tryz.prog 91 #[.slice A n c, .agg (rcv (q.asRc t) none 0 0), .int .i64 ((p : Int) + 2), .int .i64 k] w (RefD (dataV l n (q.asRc t) p k) w) := by
  have a1 := RcBox.new w (asRc_ok q t) none 0 0
  have b1 : Below w.heap.size w (w.alloc (.cells (rcv (q.asRc t) none 0 0) 57)) := (Below.refl _ _).alloc (Nat.le_refl _) _
  obtain ⟨W, hW⟩ : ∃ W, w.alloc (.cells (rcv (q.asRc t) none 0 0) 57) = W := ⟨_, rfl⟩
  rw [hW] at a1 b1
  have HA := Lib.hid (And.intro a1 b1)
  have HW := Lib.hid hW
  have HL1 := Lib.hid a1.lt
  have HB := Lib.hid hb
  have hcap := hb.cap
  have hmax := hb.max
  have hlen := hb.len
  unfold maxLen at hmax
  clear a1 b1 hW hb
  obtain ⟨Z, hZ⟩ : ∃ Z, Value.agg (rcv .zero none 0 0) = Z := ⟨_, rfl⟩
  have HZ := Lib.hid hZ
  clear hZ
  unfold dataV RefD
  obtain ⟨nm, kd, cl⟩ := q
  have hkd : (Qs.asRc ⟨nm, kd, cl⟩ t).kind = kd := rfl
  rw [hkd]
  clear hkd
  dsimp only at hq
  subst hq
  rw [if_neg (by decide), if_pos rfl]
  by_cases hw : k = 4
  case neg =>
    rw [if_pos hw]
    have hw2 : ¬ (k : Int) = 4 := by omega
    go_enter Tryz.func91, Tryz.ntmps91
    go_wp2_with (first
      | (refine wpList_alloc_fl rfl rfl ?_; intro w3 a3 b3 z3; have H3 := Lib.hid (And.intro (H2.out.1.later b3 (Nat.le_refl _)) (And.intro (H2.out.2.1.later b3 (Nat.le_refl _)) (And.intro a3 (H2.out.2.2.trans (b3.mono H2.out.2.2.size))))); have HL2 := Lib.hid H2.out.2.1.lt; clear a3 b3 z3)
      | (rw [HW.out]; refine wpList_alloc_rc rfl rfl ?_; intro w2 a2 b2 z2; have H2 := Lib.hid (And.intro (HA.out.1.later b2 (Nat.le_refl _)) (And.intro a2 (HA.out.2.trans (b2.mono HA.out.2.size)))); clear a2 b2 z2))
    refine (help_at 7 _ _).mono ?_
    rintro e w4 ⟨rfl, b4⟩
    have H4 := Lib.hid (And.intro (H3.out.1.later b4 (Nat.le_refl _)) (And.intro (H3.out.2.1.later b4 (Nat.le_refl _)) (And.intro (H3.out.2.2.1.later b4 (Nat.le_refl _)) (H3.out.2.2.2.trans (b4.mono H3.out.2.2.2.size)))))
    have HL3 := Lib.hid H4.out.2.2.1.lt
    clear b4
    go_wp2_with (first
      | (refine wpList_store_fl rfl (.tmp 10) (.tmp 17) rfl 7 p true rfl rfl H5.out.2.2.2.1 ?_; intro w6 a6 o6 z6 g6; have H6 := Lib.hid (And.intro (H5.out.1.same (o6 _ (Nat.ne_of_lt (Nat.lt_trans HL1.out (Nat.lt_trans HL2.out HL3.out))))) (And.intro (H5.out.2.1.same (o6 _ (Nat.ne_of_lt (Nat.lt_trans HL2.out HL3.out)))) (And.intro (H5.out.2.2.1.same (o6 _ (Nat.ne_of_lt HL3.out))) (And.intro a6 (g6 w.heap.size w (Nat.le_of_lt (Nat.lt_trans HL1.out (Nat.lt_trans HL2.out HL3.out))) H5.out.2.2.2.2))))); (have e1 : w6.cell? ⟨w.heap.size, 1, none⟩ = some (.int .i64 1) := H6.out.1.kind); clear a6 o6 z6 g6)
      | (refine wpList_alloc_fl rfl rfl ?_; intro w5 a5 b5 z5; have H5 := Lib.hid (And.intro (H4.out.1.later b5 (Nat.le_refl _)) (And.intro (H4.out.2.1.later b5 (Nat.le_refl _)) (And.intro (H4.out.2.2.1.later b5 (Nat.le_refl _)) (And.intro a5 (H4.out.2.2.2.trans (b5.mono H4.out.2.2.2.size)))))); clear a5 b5 z5)
      | (refine wpList_putV6_rc rfl (.tmp 35) (.tmp 33) rfl false rfl rfl H6.out.1 ?_; intro w7 a7 o7 z7 g7; have H7 := Lib.hid (And.intro (show RcBox w7 w.heap.size { (Qs.asRc ⟨nm, 1, cl⟩ t) with v6 := false } none 0 0 from a7) (And.intro (H6.out.2.1.same (o7 _ (Ne.symm (Nat.ne_of_lt HL1.out)))) (And.intro (H6.out.2.2.1.same (o7 _ (Ne.symm (Nat.ne_of_lt (Nat.lt_trans HL1.out HL2.out))))) (And.intro (H6.out.2.2.2.1.same (o7 _ (Ne.symm (Nat.ne_of_lt (Nat.lt_trans HL1.out (Nat.lt_trans HL2.out HL3.out)))))) (g7 w.heap.size w (Nat.le_refl _) H6.out.2.2.2.2))))); clear a7 o7 z7 g7)
      | (refine wpList_load_rcAd rfl (.tmp 37) rfl rfl H7.out.1 ?_))
    refine (size_ref false zero16 rfl _).mono ?_
    rintro e w8 ⟨rfl, b8⟩
    rw [show ((wid false : Nat) : Int) = 32 from rfl]
    have H8 := Lib.hid (And.intro (H7.out.1.later b8 (Nat.le_refl _)) (And.intro (H7.out.2.1.later b8 (Nat.le_refl _)) (And.intro (H7.out.2.2.1.later b8 (Nat.le_refl _)) (And.intro (H7.out.2.2.2.1.later b8 (Nat.le_refl _)) (H7.out.2.2.2.2.trans (b8.mono H7.out.2.2.2.2.size))))))
    clear b8 e1
    go_wp2_with fail
    have hS : FlBox w8.drew (w4.heap.size) 7 p true := H8.out.2.2.2.1
    refine rg_begin (fun w' => FlBox w' (w4.heap.size) 7 p true) 4 (by kernel_rfl) rfl ?_
    refine rg_load 1 rfl (by kernel_rfl) (by kernel_rfl) (by kernel_rfl) (w4.heap.size) (0) ((flv 7 p true)) (fun _ _ _ h => h) (by rfl) 36 (.tmp 10) rfl rfl hS (fun w2 h2 => (FlBox.range h2)) Tryz.underlying36 rfl (fl_size _ _ _) ?_
    simp only [Act.put, List.setIfInBounds_toArray, List.set_cons_zero, List.set_cons_succ]
    refine rg_step 0 rfl (by kernel_rfl) (by rfl) (fun K hK => ?_)
    refine wp_build_rcZ Z HZ.out rfl ?_
    refine hK.out _ _ hS ?_
    clear hK K
    try simp only [Act.put, List.setIfInBounds_toArray, List.set_cons_zero, List.set_cons_succ]
    refine rg_step 2 rfl (by kernel_rfl) (by rfl) (fun K hK => ?_)
    refine wp_store_rc (.tmp 8) (.tmp 42) rfl .zero none 0 0 rfl HZ.out.symm Rc.zero_ok (H8.out.2.1) ?_
    intro x4 a4 o4 z4 g4
    clear z4
    replace hS : FlBox x4 (w4.heap.size) 7 p true := FlBox.same hS (o4 _ (Ne.symm (Nat.ne_of_lt (Nat.lt_trans HL2.out HL3.out))))
    have HX4 := Lib.hid (And.intro a4 (And.intro (FlBox.same (H8.out.2.2.1) (o4 _ (Ne.symm (Nat.ne_of_lt HL2.out)))) (g4 w.heap.size w (Nat.le_of_lt HL1.out) (Below.drew (H8.out.2.2.2.2)))))
    clear a4 o4 g4
    refine hK.out _ _ hS ?_
    clear hK K
    simp only [Act.put]
    refine rg_step 3 rfl (by kernel_rfl) (by rfl) (fun K hK => ?_)
    refine wp_store_flF (.tmp 9) (.tmp 43) rfl (7) (p) (true) rfl rfl HX4.out.2.1 ?_
    intro x5 a5 o5 g5
    replace hS : FlBox x5 (w4.heap.size) 7 p true := FlBox.same hS (o5 _ (Ne.symm (Nat.ne_of_lt HL3.out)))
    have HX5 := Lib.hid (And.intro (RcBox.same HX4.out.1 (o5 _ (Ne.symm (Ne.symm (Nat.ne_of_lt HL2.out))))) (And.intro a5 (g5 w.heap.size w (Nat.le_of_lt (Nat.lt_trans HL1.out HL2.out)) HX4.out.2.2)))
    clear a5 o5 g5
    refine hK.out _ _ hS ?_
    clear hK K
    simp only [Act.put]
    refine rg_done (by kernel_rfl) ?_
    go_wp2_with fail
    exact bodyPost_ret (results_rcFl _ rfl rfl rfl HX5.out.1 HX5.out.2.1) rfl ⟨none, 0, 0, rfl, Bs.nil _, ow_none _, HX5.out.2.2⟩
  subst hw
  rw [if_neg (by simp)]
  go_enter Tryz.func91, Tryz.ntmps91
  go_wp2_with (first
    | (refine wpList_alloc_fl rfl rfl ?_; intro w3 a3 b3 z3; have H3 := Lib.hid (And.intro (H2.out.1.later b3 (Nat.le_refl _)) (And.intro (H2.out.2.1.later b3 (Nat.le_refl _)) (And.intro a3 (H2.out.2.2.trans (b3.mono H2.out.2.2.size))))); have HL2 := Lib.hid H2.out.2.1.lt; clear a3 b3 z3)
    | (rw [HW.out]; refine wpList_alloc_rc rfl rfl ?_; intro w2 a2 b2 z2; have H2 := Lib.hid (And.intro (HA.out.1.later b2 (Nat.le_refl _)) (And.intro a2 (HA.out.2.trans (b2.mono HA.out.2.size)))); clear a2 b2 z2))
  refine (help_at 7 _ _).mono ?_
  rintro e w4 ⟨rfl, b4⟩
  have H4 := Lib.hid (And.intro (H3.out.1.later b4 (Nat.le_refl _)) (And.intro (H3.out.2.1.later b4 (Nat.le_refl _)) (And.intro (H3.out.2.2.1.later b4 (Nat.le_refl _)) (H3.out.2.2.2.trans (b4.mono H3.out.2.2.2.size)))))
  have HL3 := Lib.hid H4.out.2.2.1.lt
  clear b4
  go_wp2_with (first
    | (refine wpList_store_fl rfl (.tmp 10) (.tmp 17) rfl 7 p true rfl rfl H5.out.2.2.2.1 ?_; intro w6 a6 o6 z6 g6; have H6 := Lib.hid (And.intro (H5.out.1.same (o6 _ (Nat.ne_of_lt (Nat.lt_trans HL1.out (Nat.lt_trans HL2.out HL3.out))))) (And.intro (H5.out.2.1.same (o6 _ (Nat.ne_of_lt (Nat.lt_trans HL2.out HL3.out)))) (And.intro (H5.out.2.2.1.same (o6 _ (Nat.ne_of_lt HL3.out))) (And.intro a6 (g6 w.heap.size w (Nat.le_of_lt (Nat.lt_trans HL1.out (Nat.lt_trans HL2.out HL3.out))) H5.out.2.2.2.2))))); (have e1 : w6.cell? ⟨w.heap.size, 1, none⟩ = some (.int .i64 1) := H6.out.1.kind); clear a6 o6 z6 g6)
    | (refine wpList_alloc_fl rfl rfl ?_; intro w5 a5 b5 z5; have H5 := Lib.hid (And.intro (H4.out.1.later b5 (Nat.le_refl _)) (And.intro (H4.out.2.1.later b5 (Nat.le_refl _)) (And.intro (H4.out.2.2.1.later b5 (Nat.le_refl _)) (And.intro a5 (H4.out.2.2.2.trans (b5.mono H4.out.2.2.2.size)))))); clear a5 b5 z5)
      | (refine wpList_putV6_rc rfl (.tmp 35) (.tmp 33) rfl false rfl rfl H6.out.1 ?_; intro w7 a7 o7 z7 g7; have H7 := Lib.hid (And.intro (show RcBox w7 w.heap.size { (Qs.asRc ⟨nm, 1, cl⟩ t) with v6 := false } none 0 0 from a7) (And.intro (H6.out.2.1.same (o7 _ (Ne.symm (Nat.ne_of_lt HL1.out)))) (And.intro (H6.out.2.2.1.same (o7 _ (Ne.symm (Nat.ne_of_lt (Nat.lt_trans HL1.out HL2.out))))) (And.intro (H6.out.2.2.2.1.same (o7 _ (Ne.symm (Nat.ne_of_lt (Nat.lt_trans HL1.out (Nat.lt_trans HL2.out HL3.out)))))) (g7 w.heap.size w (Nat.le_refl _) H6.out.2.2.2.2))))); clear a7 o7 z7 g7)
      | (refine wpList_load_rcAd rfl (.tmp 37) rfl rfl H7.out.1 ?_))
  refine (size_ref false zero16 rfl _).mono ?_
  rintro e w8 ⟨rfl, b8⟩
  rw [show ((wid false : Nat) : Int) = 32 from rfl]
  have H8 := Lib.hid (And.intro (H7.out.1.later b8 (Nat.le_refl _)) (And.intro (H7.out.2.1.later b8 (Nat.le_refl _)) (And.intro (H7.out.2.2.1.later b8 (Nat.le_refl _)) (And.intro (H7.out.2.2.2.1.later b8 (Nat.le_refl _)) (H7.out.2.2.2.2.trans (b8.mono H7.out.2.2.2.2.size))))))
  clear b8 e1
  go_wp2_with fail
  go_loopw [11] (fun i' wr => ∃ j : Nat, j ≤ 4 ∧ i' = .int .i64 j ∧ RcBox wr w.heap.size { (Qs.asRc ⟨nm, 1, cl⟩ t) with v6 := false, adr := filled l (p + 2) j } none 0 0 ∧ RcBox wr W.heap.size .zero none 0 0 ∧ FlBox wr w2.heap.size 0 0 false ∧ Below w.heap.size w wr) (fun i' _ => 4 - (intOf i').toNat)
  case atStart => exact ⟨0, by omega, rfl, by rw [show filled l (p + 2) 0 = zero16 by simp [filled, zero16]]; exact H8.out.1, H8.out.2.1, H8.out.2.2.1, H8.out.2.2.2.2⟩
  case round =>
    obtain ⟨j, h16, rfl, a1, a2, a3, hbe⟩ := hrel
    by_cases hlt : j < 4
    · obtain ⟨x0, hc⟩ := a1.there (j := j) (by omega)
      have hf := a1.frozen (5 + j)
      obtain ⟨x, hx⟩ : ∃ x, l[p + 2 + j]? = some x := ⟨l[p + 2 + j]'(by omega), List.getElem?_eq_getElem _⟩
      obtain ⟨b, off, rfl, hcb⟩ := (HB.out.later hbe (Nat.le_refl _)).here (by omega)
      have hcx := hcb (p + 2 + j) x hx
      have a4 := a1.putB (j := j) (by omega) x
      dsimp only at a4
      rw [filled_set' (by omega) (by omega) hx] at a4
      have H9 := Lib.hid (And.intro a4 (And.intro (a2.farB (p := ⟨w.heap.size, 5 + j, none⟩) (Nat.ne_of_lt HL1.out) (.int .u8 x.toNat)) (And.intro (a3.farB (p := ⟨w.heap.size, 5 + j, none⟩) (Nat.ne_of_lt (Nat.lt_trans HL1.out HL2.out)) (.int .u8 x.toNat)) (hbe.setCell (p := ⟨w.heap.size, 5 + j, none⟩) (Nat.le_refl _) (.int .u8 x.toNat)))))
      clear a1 a2 a3 a4 hbe hcb
      go_wp2_with fail
      go_roundw
      case rel => exact ⟨j + 1, by omega, by go_num, H9.out⟩
      case measure => simp [intOf]; omega
    · obtain rfl : j = 4 := by omega
      obtain ⟨R, hR⟩ : ∃ R : Rc, R = { (Qs.asRc ⟨nm, 1, cl⟩ t) with v6 := false, adr := filled l (p + 2) 4 } := ⟨_, rfl⟩
      rw [← hR] at a1
      have H9 := Lib.hid (And.intro a1 (And.intro a2 (And.intro a3 hbe)))
      have HR := Lib.hid (And.intro hR a1.2)
      clear a1 a2 a3 hbe hR
      go_wp2_with (first
        | (refine wpList_store_fl rfl (.tmp 9) (.tmp 83) rfl 0 0 false rfl rfl H20.out.2.1 ?_; intro w21 a21 o21 z21 g21; have H21 := Lib.hid (And.intro (H20.out.1.same (o21 _ (Nat.ne_of_lt HL2.out))) (And.intro a21 (And.intro o21 (g21 w.heap.size w (Nat.le_of_lt (Nat.lt_trans HL1.out HL2.out)) H20.out.2.2.2)))); clear a21 o21 z21 g21)
        | (refine wpList_store_rc rfl (.tmp 8) (.tmp 82) rfl R none 0 0 rfl rfl HR.out.2 H9.out.2.1 ?_; intro w20 a20 o20 z20 g20; have H20 := Lib.hid (And.intro a20 (And.intro (H9.out.2.2.1.same (o20 _ (Ne.symm (Nat.ne_of_lt HL2.out)))) (And.intro o20 (g20 w.heap.size w (Nat.le_of_lt HL1.out) H9.out.2.2.2)))); clear a20 o20 z20 g20)
        | (refine wpList_load_rc rfl (.tmp 5) rfl rfl H9.out.1 ?_))
      refine bodyPost_ret (results_rcFl _ rfl rfl rfl H21.out.1 H21.out.2.1) rfl ⟨none, 0, 0, ?_, Bs.nil _, ow_none _, H21.out.2.2.2⟩
      rw [HR.out.1]
      rfl
end Go.Proofs.YtbikifaadpijnaaGreatDoor

namespace Go.Proofs.YtbikifaadpijnaaGreatDoor
open Go.RowKit
set_option maxRecDepth 100000

set_option maxHeartbeats 8000000 in
theorem ref_data5 {A : Option Addr} {n c : Nat} {l : List UInt8} {w : World} (hb : Bs w A n c l) (hn : n ≤ 1000000) (q : Qs) (t : Int) (p k : Nat) (hk : p + 2 + k ≤ n) (hq : q.kind = 5) : Calls Tryz.prog 91 #[.slice A n c, .agg (rcv (q.asRc t) none 0 0), .int .i64 ((p : Int) + 2), .int .i64 k] w (RefD (dataV l n (q.asRc t) p k) w) := by
  have a1 := RcBox.new w (asRc_ok q t) none 0 0
  have b1 : Below w.heap.size w (w.alloc (.cells (rcv (q.asRc t) none 0 0) 57)) := (Below.refl _ _).alloc (Nat.le_refl _) _
  obtain ⟨W, hW⟩ : ∃ W, w.alloc (.cells (rcv (q.asRc t) none 0 0) 57) = W := ⟨_, rfl⟩
  rw [hW] at a1 b1
  have HA := Lib.hid (And.intro a1 b1)
  have HW := Lib.hid hW
  have HL1 := Lib.hid a1.lt
  have HB := Lib.hid hb
  have hcap := hb.cap
  have hmax := hb.max
  have hlen := hb.len
  unfold maxLen at hmax
  clear a1 b1 hW hb
  obtain ⟨Z, hZ⟩ : ∃ Z, Value.agg (rcv .zero none 0 0) = Z := ⟨_, rfl⟩
  have HZ := Lib.hid hZ
  clear hZ
  unfold dataV RefD
  obtain ⟨nm, kd, cl⟩ := q
  have hkd : (Qs.asRc ⟨nm, kd, cl⟩ t).kind = kd := rfl
  rw [hkd]
  clear hkd
  dsimp only at hq
  subst hq
  rw [if_neg (by decide), if_neg (by decide), if_pos rfl]
  have KR := fun (w1 : World) (hw1 : Below w.heap.size w w1) => ref_read (HB.out.later hw1 (Nat.le_refl _)) hn ((p : Int) + 2) (by omega)
  obtain ⟨d, hd⟩ : ∃ d, readv l n ((p : Int) + 2) = d := ⟨_, rfl⟩
  rw [hd] at KR ⊢
  obtain ⟨dm, dx, ⟨fc, fa, fp⟩⟩ := d
  have KR := Lib.hid (show ∀ w1, Below w.heap.size w w1 → Calls Tryz.prog 54 #[.slice A n c, .int .i64 ((p : Int) + 2)] w1 fun e w' => e = .returned (.tuple #[.string (mkS dm), .int .i64 dx, .agg (flv fc fa fp)]) ∧ Below w1.heap.size w1 w' from KR)
  have hdx := hd
  by_cases hc : fc = 0
  case neg =>
    have hnv : nameV ⟨dm, dx, ⟨fc, fa, fp⟩⟩ p k = ([], ⟨fc, fa, fp⟩) := by unfold nameV; rw [if_pos hc]
    rw [hnv]
    dsimp only
    rw [if_pos hc]
    have hcb : (fc != 0) = true := by rw [bne_iff_ne]; exact hc
    clear hdx hd
    go_enter Tryz.func91, Tryz.ntmps91
    go_wp2_with (first
      | (refine wpList_alloc_fl rfl rfl ?_; intro w3 a3 b3 z3; have H3 := Lib.hid (And.intro (H2.out.1.later b3 (Nat.le_refl _)) (And.intro (H2.out.2.1.later b3 (Nat.le_refl _)) (And.intro a3 (H2.out.2.2.trans (b3.mono H2.out.2.2.size))))); have HL2 := Lib.hid H2.out.2.1.lt; clear a3 b3 z3)
      | (rw [HW.out]; refine wpList_alloc_rc rfl rfl ?_; intro w2 a2 b2 z2; have H2 := Lib.hid (And.intro (HA.out.1.later b2 (Nat.le_refl _)) (And.intro a2 (HA.out.2.trans (b2.mono HA.out.2.size)))); clear a2 b2 z2))
    refine (help_at 7 _ _).mono ?_
    rintro e w4 ⟨rfl, b4⟩
    have H4 := Lib.hid (And.intro (H3.out.1.later b4 (Nat.le_refl _)) (And.intro (H3.out.2.1.later b4 (Nat.le_refl _)) (And.intro (H3.out.2.2.1.later b4 (Nat.le_refl _)) (H3.out.2.2.2.trans (b4.mono H3.out.2.2.2.size)))))
    have HL3 := Lib.hid H4.out.2.2.1.lt
    clear b4
    go_wp2_with (first
      | (refine wpList_store_fl rfl (.tmp 10) (.tmp 17) rfl 7 p true rfl rfl H5.out.2.2.2.1 ?_; intro w6 a6 o6 z6 g6; have H6 := Lib.hid (And.intro (H5.out.1.same (o6 _ (Nat.ne_of_lt (Nat.lt_trans HL1.out (Nat.lt_trans HL2.out HL3.out))))) (And.intro (H5.out.2.1.same (o6 _ (Nat.ne_of_lt (Nat.lt_trans HL2.out HL3.out)))) (And.intro (H5.out.2.2.1.same (o6 _ (Nat.ne_of_lt HL3.out))) (And.intro a6 (g6 w.heap.size w (Nat.le_of_lt (Nat.lt_trans HL1.out (Nat.lt_trans HL2.out HL3.out))) H5.out.2.2.2.2))))); (have e1 : w6.cell? ⟨w.heap.size, 1, none⟩ = some (.int .i64 5) := H6.out.1.kind); clear a6 o6 z6 g6)
      | (refine wpList_alloc_fl rfl rfl ?_; intro w5 a5 b5 z5; have H5 := Lib.hid (And.intro (H4.out.1.later b5 (Nat.le_refl _)) (And.intro (H4.out.2.1.later b5 (Nat.le_refl _)) (And.intro (H4.out.2.2.1.later b5 (Nat.le_refl _)) (And.intro a5 (H4.out.2.2.2.trans (b5.mono H4.out.2.2.2.size)))))); clear a5 b5 z5))
    refine (KR.out w6 H6.out.2.2.2.2).mono ?_
    rintro e w7 ⟨rfl, b7⟩
    have H7 := Lib.hid (And.intro (H6.out.1.later b7 (Nat.le_refl _)) (And.intro (H6.out.2.1.later b7 (Nat.le_refl _)) (And.intro (H6.out.2.2.1.later b7 (Nat.le_refl _)) (And.intro (H6.out.2.2.2.1.later b7 (Nat.le_refl _)) (H6.out.2.2.2.2.trans (b7.mono H6.out.2.2.2.2.size))))))
    have HL4 := Lib.hid H7.out.2.2.2.1.lt
    clear b7 e1
    go_wp2_with (first
      | (refine wpList_store_fl rfl (.tmp 14) (.tmp 67) rfl fc fa fp rfl rfl H8.out.2.2.2.2.1 ?_; intro w9 a9 o9 z9 g9; have H9 := Lib.hid (And.intro (H8.out.1.same (o9 _ (Nat.ne_of_lt (Nat.lt_trans (Nat.lt_trans HL1.out (Nat.lt_trans HL2.out HL3.out)) HL4.out)))) (And.intro (H8.out.2.1.same (o9 _ (Nat.ne_of_lt (Nat.lt_trans (Nat.lt_trans HL2.out HL3.out) HL4.out)))) (And.intro (H8.out.2.2.1.same (o9 _ (Nat.ne_of_lt (Nat.lt_trans HL3.out HL4.out)))) (And.intro (H8.out.2.2.2.1.same (o9 _ (Nat.ne_of_lt HL4.out))) (And.intro (g9 w.heap.size w (Nat.le_of_lt (Nat.lt_trans (Nat.lt_trans HL1.out (Nat.lt_trans HL2.out HL3.out)) HL4.out)) H8.out.2.2.2.2.2) a9))))); have e9 := fl_head a9; clear a9 o9 z9 g9)
      | (refine wpList_alloc_fl rfl rfl ?_; intro w8 a8 b8 z8; have H8 := Lib.hid (And.intro (H7.out.1.later b8 (Nat.le_refl _)) (And.intro (H7.out.2.1.later b8 (Nat.le_refl _)) (And.intro (H7.out.2.2.1.later b8 (Nat.le_refl _)) (And.intro (H7.out.2.2.2.1.later b8 (Nat.le_refl _)) (And.intro a8 (H7.out.2.2.2.2.trans (b8.mono H7.out.2.2.2.2.size))))))); clear a8 b8 z8))
    have hS : FlBox w9.drew (w7.heap.size) fc fa fp := H9.out.2.2.2.2.2
    refine rg_begin (fun w' => FlBox w' (w7.heap.size) fc fa fp) 4 (by kernel_rfl) rfl ?_
    refine rg_load 1 rfl (by kernel_rfl) (by kernel_rfl) (by kernel_rfl) (w7.heap.size) (0) ((flv fc fa fp)) (fun _ _ _ h => h) (by rfl) 36 (.tmp 14) rfl rfl hS (fun w2 h2 => (FlBox.range h2)) Tryz.underlying36 rfl (fl_size _ _ _) ?_
    simp only [Act.put, List.setIfInBounds_toArray, List.set_cons_zero, List.set_cons_succ]
    refine rg_step 0 rfl (by kernel_rfl) (by rfl) (fun K hK => ?_)
    refine wp_build_rcZ Z HZ.out rfl ?_
    refine hK.out _ _ hS ?_
    clear hK K
    try simp only [Act.put, List.setIfInBounds_toArray, List.set_cons_zero, List.set_cons_succ]
    refine rg_step 2 rfl (by kernel_rfl) (by rfl) (fun K hK => ?_)
    refine wp_store_rc (.tmp 8) (.tmp 71) rfl .zero none 0 0 rfl HZ.out.symm Rc.zero_ok (H9.out.2.1) ?_
    intro x4 a4 o4 z4 g4
    clear z4
    replace hS : FlBox x4 (w7.heap.size) fc fa fp := FlBox.same hS (o4 _ (Ne.symm (Nat.ne_of_lt (Nat.lt_trans (Nat.lt_trans HL2.out HL3.out) HL4.out))))
    have HX4 := Lib.hid (And.intro a4 (And.intro (FlBox.same (H9.out.2.2.1) (o4 _ (Ne.symm (Nat.ne_of_lt HL2.out)))) (g4 w.heap.size w (Nat.le_of_lt HL1.out) (Below.drew (H9.out.2.2.2.2.1)))))
    clear a4 o4 g4
    refine hK.out _ _ hS ?_
    clear hK K
    simp only [Act.put]
    refine rg_step 3 rfl (by kernel_rfl) (by rfl) (fun K hK => ?_)
    refine wp_store_flF (.tmp 9) (.tmp 72) rfl (fc) (fa) (fp) rfl rfl HX4.out.2.1 ?_
    intro x5 a5 o5 g5
    replace hS : FlBox x5 (w7.heap.size) fc fa fp := FlBox.same hS (o5 _ (Ne.symm (Nat.ne_of_lt (Nat.lt_trans HL3.out HL4.out))))
    have HX5 := Lib.hid (And.intro (RcBox.same HX4.out.1 (o5 _ (Ne.symm (Ne.symm (Nat.ne_of_lt HL2.out))))) (And.intro a5 (g5 w.heap.size w (Nat.le_of_lt (Nat.lt_trans HL1.out HL2.out)) HX4.out.2.2)))
    clear a5 o5 g5
    refine hK.out _ _ hS ?_
    clear hK K
    simp only [Act.put]
    refine rg_done (by kernel_rfl) ?_
    go_wp2_with fail
    exact bodyPost_ret (results_rcFl _ rfl rfl rfl HX5.out.1 HX5.out.2.1) rfl ⟨none, 0, 0, rfl, Bs.nil _, ow_none _, HX5.out.2.2⟩
  have hnx := readv_next (l := l) (n := n) (at_ := (p : Int) + 2) (by rw [hd]; exact hc)
  rw [hd] at hnx
  obtain ⟨hle, hf⟩ := hnx
  dsimp only at hle hf
  obtain ⟨rfl, rfl, rfl⟩ : fc = 0 ∧ fa = 0 ∧ fp = false := by cases hf; exact ⟨rfl, rfl, rfl⟩
  clear hf hc hdx hd
  by_cases hx : dx = p + 2 + k
  case neg =>
    have hnv : nameV ⟨dm, dx, ⟨0, 0, false⟩⟩ p k = ([], ⟨7, p, true⟩) := by unfold nameV; rw [if_neg (by simp), if_pos hx]
    rw [hnv]
    dsimp only
    rw [if_pos (by simp)]
    clear hnv
    have hx2 : ¬ (dx : Int) = (p : Int) + 2 + k := by omega
    go_enter Tryz.func91, Tryz.ntmps91
    go_wp2_with (first
      | (refine wpList_alloc_fl rfl rfl ?_; intro w3 a3 b3 z3; have H3 := Lib.hid (And.intro (H2.out.1.later b3 (Nat.le_refl _)) (And.intro (H2.out.2.1.later b3 (Nat.le_refl _)) (And.intro a3 (H2.out.2.2.trans (b3.mono H2.out.2.2.size))))); have HL2 := Lib.hid H2.out.2.1.lt; clear a3 b3 z3)
      | (rw [HW.out]; refine wpList_alloc_rc rfl rfl ?_; intro w2 a2 b2 z2; have H2 := Lib.hid (And.intro (HA.out.1.later b2 (Nat.le_refl _)) (And.intro a2 (HA.out.2.trans (b2.mono HA.out.2.size)))); clear a2 b2 z2))
    refine (help_at 7 _ _).mono ?_
    rintro e w4 ⟨rfl, b4⟩
    have H4 := Lib.hid (And.intro (H3.out.1.later b4 (Nat.le_refl _)) (And.intro (H3.out.2.1.later b4 (Nat.le_refl _)) (And.intro (H3.out.2.2.1.later b4 (Nat.le_refl _)) (H3.out.2.2.2.trans (b4.mono H3.out.2.2.2.size)))))
    have HL3 := Lib.hid H4.out.2.2.1.lt
    clear b4
    go_wp2_with (first
      | (refine wpList_store_fl rfl (.tmp 10) (.tmp 17) rfl 7 p true rfl rfl H5.out.2.2.2.1 ?_; intro w6 a6 o6 z6 g6; have H6 := Lib.hid (And.intro (H5.out.1.same (o6 _ (Nat.ne_of_lt (Nat.lt_trans HL1.out (Nat.lt_trans HL2.out HL3.out))))) (And.intro (H5.out.2.1.same (o6 _ (Nat.ne_of_lt (Nat.lt_trans HL2.out HL3.out)))) (And.intro (H5.out.2.2.1.same (o6 _ (Nat.ne_of_lt HL3.out))) (And.intro a6 (g6 w.heap.size w (Nat.le_of_lt (Nat.lt_trans HL1.out (Nat.lt_trans HL2.out HL3.out))) H5.out.2.2.2.2))))); (have e1 : w6.cell? ⟨w.heap.size, 1, none⟩ = some (.int .i64 5) := H6.out.1.kind); clear a6 o6 z6 g6)
      | (refine wpList_alloc_fl rfl rfl ?_; intro w5 a5 b5 z5; have H5 := Lib.hid (And.intro (H4.out.1.later b5 (Nat.le_refl _)) (And.intro (H4.out.2.1.later b5 (Nat.le_refl _)) (And.intro (H4.out.2.2.1.later b5 (Nat.le_refl _)) (And.intro a5 (H4.out.2.2.2.trans (b5.mono H4.out.2.2.2.size)))))); clear a5 b5 z5))
    refine (KR.out w6 H6.out.2.2.2.2).mono ?_
    rintro e w7 ⟨rfl, b7⟩
    have H7 := Lib.hid (And.intro (H6.out.1.later b7 (Nat.le_refl _)) (And.intro (H6.out.2.1.later b7 (Nat.le_refl _)) (And.intro (H6.out.2.2.1.later b7 (Nat.le_refl _)) (And.intro (H6.out.2.2.2.1.later b7 (Nat.le_refl _)) (H6.out.2.2.2.2.trans (b7.mono H6.out.2.2.2.2.size))))))
    have HL4 := Lib.hid H7.out.2.2.2.1.lt
    clear b7 e1
    go_wp2_with (first
      | (refine wpList_store_fl rfl (.tmp 14) (.tmp 67) rfl 0 0 false rfl rfl H8.out.2.2.2.2.1 ?_; intro w9 a9 o9 z9 g9; have H9 := Lib.hid (And.intro (H8.out.1.same (o9 _ (Nat.ne_of_lt (Nat.lt_trans (Nat.lt_trans HL1.out (Nat.lt_trans HL2.out HL3.out)) HL4.out)))) (And.intro (H8.out.2.1.same (o9 _ (Nat.ne_of_lt (Nat.lt_trans (Nat.lt_trans HL2.out HL3.out) HL4.out)))) (And.intro (H8.out.2.2.1.same (o9 _ (Nat.ne_of_lt (Nat.lt_trans HL3.out HL4.out)))) (And.intro (H8.out.2.2.2.1.same (o9 _ (Nat.ne_of_lt HL4.out))) (And.intro (g9 w.heap.size w (Nat.le_of_lt (Nat.lt_trans (Nat.lt_trans HL1.out (Nat.lt_trans HL2.out HL3.out)) HL4.out)) H8.out.2.2.2.2.2) a9))))); have e9 := fl_head a9; clear a9 o9 z9 g9)
      | (refine wpList_alloc_fl rfl rfl ?_; intro w8 a8 b8 z8; have H8 := Lib.hid (And.intro (H7.out.1.later b8 (Nat.le_refl _)) (And.intro (H7.out.2.1.later b8 (Nat.le_refl _)) (And.intro (H7.out.2.2.1.later b8 (Nat.le_refl _)) (And.intro (H7.out.2.2.2.1.later b8 (Nat.le_refl _)) (And.intro a8 (H7.out.2.2.2.2.trans (b8.mono H7.out.2.2.2.2.size))))))); clear a8 b8 z8))
    have hS : FlBox w9.drew (w4.heap.size) 7 p true := H9.out.2.2.2.1
    refine rg_begin (fun w' => FlBox w' (w4.heap.size) 7 p true) 4 (by kernel_rfl) rfl ?_
    refine rg_load 1 rfl (by kernel_rfl) (by kernel_rfl) (by kernel_rfl) (w4.heap.size) (0) ((flv 7 p true)) (fun _ _ _ h => h) (by rfl) 36 (.tmp 10) rfl rfl hS (fun w2 h2 => (FlBox.range h2)) Tryz.underlying36 rfl (fl_size _ _ _) ?_
    simp only [Act.put, List.setIfInBounds_toArray, List.set_cons_zero, List.set_cons_succ]
    refine rg_step 0 rfl (by kernel_rfl) (by rfl) (fun K hK => ?_)
    refine wp_build_rcZ Z HZ.out rfl ?_
    refine hK.out _ _ hS ?_
    clear hK K
    try simp only [Act.put, List.setIfInBounds_toArray, List.set_cons_zero, List.set_cons_succ]
    refine rg_step 2 rfl (by kernel_rfl) (by rfl) (fun K hK => ?_)
    refine wp_store_rc (.tmp 8) (.tmp 78) rfl .zero none 0 0 rfl HZ.out.symm Rc.zero_ok (H9.out.2.1) ?_
    intro x4 a4 o4 z4 g4
    clear z4
    replace hS : FlBox x4 (w4.heap.size) 7 p true := FlBox.same hS (o4 _ (Ne.symm (Nat.ne_of_lt (Nat.lt_trans HL2.out HL3.out))))
    have HX4 := Lib.hid (And.intro a4 (And.intro (FlBox.same (H9.out.2.2.1) (o4 _ (Ne.symm (Nat.ne_of_lt HL2.out)))) (g4 w.heap.size w (Nat.le_of_lt HL1.out) (Below.drew (H9.out.2.2.2.2.1)))))
    clear a4 o4 g4
    refine hK.out _ _ hS ?_
    clear hK K
    simp only [Act.put]
    refine rg_step 3 rfl (by kernel_rfl) (by rfl) (fun K hK => ?_)
    refine wp_store_flF (.tmp 9) (.tmp 79) rfl (7) (p) (true) rfl rfl HX4.out.2.1 ?_
    intro x5 a5 o5 g5
    replace hS : FlBox x5 (w4.heap.size) 7 p true := FlBox.same hS (o5 _ (Ne.symm (Nat.ne_of_lt HL3.out)))
    have HX5 := Lib.hid (And.intro (RcBox.same HX4.out.1 (o5 _ (Ne.symm (Ne.symm (Nat.ne_of_lt HL2.out))))) (And.intro a5 (g5 w.heap.size w (Nat.le_of_lt (Nat.lt_trans HL1.out HL2.out)) HX4.out.2.2)))
    clear a5 o5 g5
    refine hK.out _ _ hS ?_
    clear hK K
    simp only [Act.put]
    refine rg_done (by kernel_rfl) ?_
    go_wp2_with fail
    exact bodyPost_ret (results_rcFl _ rfl rfl rfl HX5.out.1 HX5.out.2.1) rfl ⟨none, 0, 0, rfl, Bs.nil _, ow_none _, HX5.out.2.2⟩
  have hnv : nameV ⟨dm, dx, ⟨0, 0, false⟩⟩ p k = (dm, fl0) := by unfold nameV; rw [if_neg (by simp), if_neg (fun h => h hx)]
  rw [hnv]
  dsimp only
  rw [if_neg (by simp [fl0])]
  clear hnv
  subst hx
  go_enter Tryz.func91, Tryz.ntmps91
  go_wp2_with (first
    | (refine wpList_alloc_fl rfl rfl ?_; intro w3 a3 b3 z3; have H3 := Lib.hid (And.intro (H2.out.1.later b3 (Nat.le_refl _)) (And.intro (H2.out.2.1.later b3 (Nat.le_refl _)) (And.intro a3 (H2.out.2.2.trans (b3.mono H2.out.2.2.size))))); have HL2 := Lib.hid H2.out.2.1.lt; clear a3 b3 z3)
    | (rw [HW.out]; refine wpList_alloc_rc rfl rfl ?_; intro w2 a2 b2 z2; have H2 := Lib.hid (And.intro (HA.out.1.later b2 (Nat.le_refl _)) (And.intro a2 (HA.out.2.trans (b2.mono HA.out.2.size)))); clear a2 b2 z2))
  refine (help_at 7 _ _).mono ?_
  rintro e w4 ⟨rfl, b4⟩
  have H4 := Lib.hid (And.intro (H3.out.1.later b4 (Nat.le_refl _)) (And.intro (H3.out.2.1.later b4 (Nat.le_refl _)) (And.intro (H3.out.2.2.1.later b4 (Nat.le_refl _)) (H3.out.2.2.2.trans (b4.mono H3.out.2.2.2.size)))))
  have HL3 := Lib.hid H4.out.2.2.1.lt
  clear b4
  go_wp2_with (first
    | (refine wpList_store_fl rfl (.tmp 10) (.tmp 17) rfl 7 p true rfl rfl H5.out.2.2.2.1 ?_; intro w6 a6 o6 z6 g6; have H6 := Lib.hid (And.intro (H5.out.1.same (o6 _ (Nat.ne_of_lt (Nat.lt_trans HL1.out (Nat.lt_trans HL2.out HL3.out))))) (And.intro (H5.out.2.1.same (o6 _ (Nat.ne_of_lt (Nat.lt_trans HL2.out HL3.out)))) (And.intro (H5.out.2.2.1.same (o6 _ (Nat.ne_of_lt HL3.out))) (And.intro a6 (g6 w.heap.size w (Nat.le_of_lt (Nat.lt_trans HL1.out (Nat.lt_trans HL2.out HL3.out))) H5.out.2.2.2.2))))); (have e1 : w6.cell? ⟨w.heap.size, 1, none⟩ = some (.int .i64 5) := H6.out.1.kind); clear a6 o6 z6 g6)
    | (refine wpList_alloc_fl rfl rfl ?_; intro w5 a5 b5 z5; have H5 := Lib.hid (And.intro (H4.out.1.later b5 (Nat.le_refl _)) (And.intro (H4.out.2.1.later b5 (Nat.le_refl _)) (And.intro (H4.out.2.2.1.later b5 (Nat.le_refl _)) (And.intro a5 (H4.out.2.2.2.trans (b5.mono H4.out.2.2.2.size)))))); clear a5 b5 z5))
  refine (KR.out w6 H6.out.2.2.2.2).mono ?_
  rintro e w7 ⟨rfl, b7⟩
  have H7 := Lib.hid (And.intro (H6.out.1.later b7 (Nat.le_refl _)) (And.intro (H6.out.2.1.later b7 (Nat.le_refl _)) (And.intro (H6.out.2.2.1.later b7 (Nat.le_refl _)) (And.intro (H6.out.2.2.2.1.later b7 (Nat.le_refl _)) (H6.out.2.2.2.2.trans (b7.mono H6.out.2.2.2.2.size))))))
  have HL4 := Lib.hid H7.out.2.2.2.1.lt
  clear b7 e1
  go_wp2_with (first
    | (refine wpList_store_fl rfl (.tmp 14) (.tmp 67) rfl 0 0 false rfl rfl H8.out.2.2.2.2.1 ?_; intro w9 a9 o9 z9 g9; have H9 := Lib.hid (And.intro (H8.out.1.same (o9 _ (Nat.ne_of_lt (Nat.lt_trans (Nat.lt_trans HL1.out (Nat.lt_trans HL2.out HL3.out)) HL4.out)))) (And.intro (H8.out.2.1.same (o9 _ (Nat.ne_of_lt (Nat.lt_trans (Nat.lt_trans HL2.out HL3.out) HL4.out)))) (And.intro (H8.out.2.2.1.same (o9 _ (Nat.ne_of_lt (Nat.lt_trans HL3.out HL4.out)))) (And.intro (H8.out.2.2.2.1.same (o9 _ (Nat.ne_of_lt HL4.out))) (And.intro (g9 w.heap.size w (Nat.le_of_lt (Nat.lt_trans (Nat.lt_trans HL1.out (Nat.lt_trans HL2.out HL3.out)) HL4.out)) H8.out.2.2.2.2.2) a9))))); have e9 := fl_head a9; clear a9 o9 z9 g9)
    | (refine wpList_alloc_fl rfl rfl ?_; intro w8 a8 b8 z8; have H8 := Lib.hid (And.intro (H7.out.1.later b8 (Nat.le_refl _)) (And.intro (H7.out.2.1.later b8 (Nat.le_refl _)) (And.intro (H7.out.2.2.1.later b8 (Nat.le_refl _)) (And.intro (H7.out.2.2.2.1.later b8 (Nat.le_refl _)) (And.intro a8 (H7.out.2.2.2.2.trans (b8.mono H7.out.2.2.2.2.size))))))); clear a8 b8 z8)
      | (refine wpList_store_fl rfl (.tmp 9) (.tmp 83) rfl 0 0 false rfl rfl H20.out.2.1 ?_; intro w21 a21 o21 z21 g21; have H21 := Lib.hid (And.intro (H20.out.1.same (o21 _ (Nat.ne_of_lt HL2.out))) (And.intro a21 (g21 w.heap.size w (Nat.le_of_lt (Nat.lt_trans HL1.out HL2.out)) H20.out.2.2))); clear a21 o21 z21 g21)
      | (refine wpList_store_rc rfl (.tmp 8) (.tmp 82) rfl { (Qs.asRc ⟨nm, 5, cl⟩ t) with target := dm } none 0 0 rfl rfl rfl H10.out.2.1 ?_; intro w20 a20 o20 z20 g20; have H20 := Lib.hid (And.intro a20 (And.intro (H10.out.2.2.1.same (o20 _ (Ne.symm (Nat.ne_of_lt HL2.out)))) (g20 w.heap.size w (Nat.le_of_lt HL1.out) H10.out.2.2.2))); clear a20 o20 z20 g20)
      | (refine wpList_load_rc rfl (.tmp 5) rfl rfl H10.out.1 ?_)
      | (refine wpList_putTarget_rc rfl (.tmp 81) (.tmp 80) rfl dm rfl rfl H9.out.1 ?_; intro w10 a10 o10 z10 g10; have H10 := Lib.hid (And.intro (show RcBox w10 w.heap.size { (Qs.asRc ⟨nm, 5, cl⟩ t) with target := dm } none 0 0 from a10) (And.intro (H9.out.2.1.same (o10 _ (Ne.symm (Nat.ne_of_lt HL1.out)))) (And.intro (H9.out.2.2.1.same (o10 _ (Ne.symm (Nat.ne_of_lt (Nat.lt_trans HL1.out HL2.out))))) (g10 w.heap.size w (Nat.le_refl _) H9.out.2.2.2.2.1)))); clear a10 o10 z10 g10))
  exact bodyPost_ret (results_rcFl _ rfl rfl rfl H21.out.1 H21.out.2.1) rfl ⟨none, 0, 0, rfl, Bs.nil _, ow_none _, H21.out.2.2⟩
end Go.Proofs.YtbikifaadpijnaaGreatDoor

namespace Go.Proofs.YtbikifaadpijnaaGreatDoor
open Go.RowKit
set_option maxRecDepth 100000

set_option maxHeartbeats 8000000 in
theorem ref_data0 {A : Option Addr} {n c : Nat} {l : List UInt8} {w : World} (hb : Bs w A n c l) (hn : n ≤ 1000000) (q : Qs) (t : Int) (p k : Nat) (hk : p + 2 + k ≤ n) (hq : q.kind ≠ 28 ∧ q.kind ≠ 1 ∧ q.kind ≠ 5) : Calls Tryz.prog 91 #[.slice A n c, .agg (rcv (q.asRc t) none 0 0), .int .i64 ((p : Int) + 2), .int .i64 k] w (RefD (dataV l n (q.asRc t) p k) w) := by
  have a1 := RcBox.new w (asRc_ok q t) none 0 0
  have b1 : Below w.heap.size w (w.alloc (.cells (rcv (q.asRc t) none 0 0) 57)) := (Below.refl _ _).alloc (Nat.le_refl _) _
  obtain ⟨W, hW⟩ : ∃ W, w.alloc (.cells (rcv (q.asRc t) none 0 0) 57) = W := ⟨_, rfl⟩
  rw [hW] at a1 b1
  have HA := Lib.hid (And.intro a1 b1)
  have HW := Lib.hid hW
  have HL1 := Lib.hid a1.lt
  have HB := Lib.hid hb
  have hcap := hb.cap
  have hmax := hb.max
  have hlen := hb.len
  unfold maxLen at hmax
  clear a1 b1 hW hb
  obtain ⟨Z, hZ⟩ : ∃ Z, Value.agg (rcv .zero none 0 0) = Z := ⟨_, rfl⟩
  have HZ := Lib.hid hZ
  clear hZ
  unfold dataV RefD
  obtain ⟨nm, kd, cl⟩ := q
  have hkd : (Qs.asRc ⟨nm, kd, cl⟩ t).kind = kd := rfl
  rw [hkd]
  clear hkd
  dsimp only at hq
  obtain ⟨k28, k1, k5⟩ := hq
  rw [if_neg k28, if_neg k1, if_neg k5]
  obtain ⟨ab, ao, hA, _⟩ := HB.out.here (by omega)
  subst hA
  obtain ⟨R, hR⟩ : ∃ R : List UInt8, R = (l.drop (p + 2)).take k := ⟨_, rfl⟩
  have HRL := Lib.hid hR
  by_cases hcp : c = p + 2
  case pos =>
    obtain rfl : k = 0 := by omega
    subst hcp
    go_enter Tryz.func91, Tryz.ntmps91
    go_wp2_with (first
      | (refine wpList_alloc_fl rfl rfl ?_; intro w3 a3 b3 z3; have H3 := Lib.hid (And.intro (H2.out.1.later b3 (Nat.le_refl _)) (And.intro (H2.out.2.1.later b3 (Nat.le_refl _)) (And.intro a3 (H2.out.2.2.trans (b3.mono H2.out.2.2.size))))); have HL2 := Lib.hid H2.out.2.1.lt; clear a3 b3 z3)
      | (rw [HW.out]; refine wpList_alloc_rc rfl rfl ?_; intro w2 a2 b2 z2; have H2 := Lib.hid (And.intro (HA.out.1.later b2 (Nat.le_refl _)) (And.intro a2 (HA.out.2.trans (b2.mono HA.out.2.size)))); clear a2 b2 z2))
    refine (help_at 7 _ _).mono ?_
    rintro e w4 ⟨rfl, b4⟩
    have H4 := Lib.hid (And.intro (H3.out.1.later b4 (Nat.le_refl _)) (And.intro (H3.out.2.1.later b4 (Nat.le_refl _)) (And.intro (H3.out.2.2.1.later b4 (Nat.le_refl _)) (H3.out.2.2.2.trans (b4.mono H3.out.2.2.2.size)))))
    have HL3 := Lib.hid H4.out.2.2.1.lt
    clear b4
    go_wp2_with (first
      | (refine wpList_store_fl rfl (.tmp 10) (.tmp 17) rfl 7 p true rfl rfl H5.out.2.2.2.1 ?_; intro w6 a6 o6 z6 g6; have H6 := Lib.hid (And.intro (H5.out.1.same (o6 _ (Nat.ne_of_lt (Nat.lt_trans HL1.out (Nat.lt_trans HL2.out HL3.out))))) (And.intro (H5.out.2.1.same (o6 _ (Nat.ne_of_lt (Nat.lt_trans HL2.out HL3.out)))) (And.intro (H5.out.2.2.1.same (o6 _ (Nat.ne_of_lt HL3.out))) (And.intro a6 (g6 w.heap.size w (Nat.le_of_lt (Nat.lt_trans HL1.out (Nat.lt_trans HL2.out HL3.out))) H5.out.2.2.2.2))))); (have e1 : w6.cell? ⟨w.heap.size, 1, none⟩ = some (.int .i64 kd) := H6.out.1.kind); have HC := Lib.hid (show Bs w6 (some ⟨ab, ao, none⟩) 0 (p + 2 - (p + 2)) R from by rw [HRL.out]; exact (HB.out.later H6.out.2.2.2.2 (Nat.le_refl _)).cut (i := p + 2) (k := 0) (by omega) (fun h => absurd h (by omega)) (fun h => by cases h)); have HL6 := Lib.hid H6.out.2.2.2.1.lt; clear a6 o6 z6 g6)
      | (refine wpList_alloc_fl rfl rfl ?_; intro w5 a5 b5 z5; have H5 := Lib.hid (And.intro (H4.out.1.later b5 (Nat.le_refl _)) (And.intro (H4.out.2.1.later b5 (Nat.le_refl _)) (And.intro (H4.out.2.2.1.later b5 (Nat.le_refl _)) (And.intro a5 (H4.out.2.2.2.trans (b5.mono H4.out.2.2.2.size)))))); clear a5 b5 z5)
      | (refine wpList_store_fl rfl (.tmp 9) (.tmp 83) rfl 0 0 false rfl rfl H20.out.2.1 ?_; intro w21 a21 o21 z21 g21; have H21 := Lib.hid (And.intro (H20.out.1.same (o21 _ (Nat.ne_of_lt HL2.out))) (And.intro a21 (And.intro (H20.out.2.2.1.farBlk (fun a ha => Nat.ne_of_gt (Nat.lt_of_lt_of_le (Nat.lt_trans HL3.out HL6.out) (H10.out.2.2.2.2.2 a ha))) o21) (g21 w.heap.size w (Nat.le_of_lt (Nat.lt_trans HL1.out HL2.out)) H20.out.2.2.2)))); clear a21 o21 z21 g21)
      | (refine wpList_store_rc rfl (.tmp 8) (.tmp 82) rfl { (Qs.asRc ⟨nm, kd, cl⟩ t) with data := R } A9 0 c9 rfl rfl rfl H10.out.2.1 ?_; intro w20 a20 o20 z20 g20; have H20 := Lib.hid (And.intro a20 (And.intro (H10.out.2.2.1.same (o20 _ (Ne.symm (Nat.ne_of_lt HL2.out)))) (And.intro (H10.out.2.2.2.2.1.farBlk (fun a ha => Nat.ne_of_gt (Nat.lt_of_lt_of_le (Nat.lt_trans HL2.out (Nat.lt_trans HL3.out HL6.out)) (H10.out.2.2.2.2.2 a ha))) o20) (g20 w.heap.size w (Nat.le_of_lt HL1.out) H10.out.2.2.2.1)))); clear a20 o20 z20 g20)
      | (refine wpList_load_rc rfl (.tmp 5) rfl rfl H10.out.1 ?_)
      | (refine wpList_putData_rc rfl (.tmp 27) (.tmp 26) rfl R A9 0 c9 rfl rfl H9.out.1 ?_; intro w10 a10 o10 z10 g10; have H10 := Lib.hid (And.intro (show RcBox w10 w.heap.size { (Qs.asRc ⟨nm, kd, cl⟩ t) with data := R } A9 0 c9 from a10) (And.intro (H9.out.2.1.same (o10 _ (Ne.symm (Nat.ne_of_lt HL1.out)))) (And.intro (H9.out.2.2.1.same (o10 _ (Ne.symm (Nat.ne_of_lt (Nat.lt_trans HL1.out HL2.out))))) (And.intro (g10 w.heap.size w (Nat.le_refl _) H9.out.2.2.2.1) (And.intro (H9.out.2.2.2.2.1.farBlk (fun a ha => Nat.ne_of_gt (Nat.lt_of_lt_of_le (Nat.lt_trans (Nat.lt_trans HL1.out (Nat.lt_trans HL2.out HL3.out)) HL6.out) (H9.out.2.2.2.2.2 a ha))) o10) H9.out.2.2.2.2.2))))); clear a10 o10 z10 g10)
      | (at_builtin; refine wpList_append_bs rfl (.const (.slice none 0 0)) (.tmp 25) 22 rfl w6.heap.size 5 info5 Tryz.underlying22 _ 0 [] rfl (World.ownsRow_nil _ _ _ _) (some ⟨ab, ao, none⟩) 0 (p + 2 - (p + 2)) R rfl HC.out (by omega) (Nat.le_refl _) ?_; intro v9 w9 o9 g9 n9 m9; have b9 : Below w6.heap.size w6 w9 := (Below.refl _ w6).grown g9 (Nat.le_refl _) (fun x hx => by cases hx); (have p9 := owns_n (n' := 0) (by omega) o9); rw [List.nil_append] at p9; obtain ⟨A9, c9, rfl, B9⟩ := Bs.of_own p9; have H9 := Lib.hid (And.intro (H6.out.1.later b9 (Nat.le_refl _)) (And.intro (H6.out.2.1.later b9 (Nat.le_refl _)) (And.intro (H6.out.2.2.1.later b9 (Nat.le_refl _)) (And.intro (H6.out.2.2.2.2.trans (b9.mono H6.out.2.2.2.2.size)) (And.intro B9 (own_ow p9)))))); clear o9 p9 g9 n9 m9 b9 B9))
    exact bodyPost_ret (results_rcFl _ rfl rfl rfl H21.out.1 H21.out.2.1) rfl ⟨A9, 0, c9, by rw [HRL.out]; rfl, by have hz := H21.out.2.2.1; rw [HRL.out] at hz; exact hz, (fun a ha => Nat.le_of_lt (Nat.lt_of_lt_of_le (Nat.lt_trans (Nat.lt_trans HL1.out (Nat.lt_trans HL2.out HL3.out)) HL6.out) (H10.out.2.2.2.2.2 a ha))), H21.out.2.2.2⟩
  have hck : ¬ c = p + 2 := hcp
  go_enter Tryz.func91, Tryz.ntmps91
  go_wp2_with (first
    | (refine wpList_alloc_fl rfl rfl ?_; intro w3 a3 b3 z3; have H3 := Lib.hid (And.intro (H2.out.1.later b3 (Nat.le_refl _)) (And.intro (H2.out.2.1.later b3 (Nat.le_refl _)) (And.intro a3 (H2.out.2.2.trans (b3.mono H2.out.2.2.size))))); have HL2 := Lib.hid H2.out.2.1.lt; clear a3 b3 z3)
    | (rw [HW.out]; refine wpList_alloc_rc rfl rfl ?_; intro w2 a2 b2 z2; have H2 := Lib.hid (And.intro (HA.out.1.later b2 (Nat.le_refl _)) (And.intro a2 (HA.out.2.trans (b2.mono HA.out.2.size)))); clear a2 b2 z2))
  refine (help_at 7 _ _).mono ?_
  rintro e w4 ⟨rfl, b4⟩
  have H4 := Lib.hid (And.intro (H3.out.1.later b4 (Nat.le_refl _)) (And.intro (H3.out.2.1.later b4 (Nat.le_refl _)) (And.intro (H3.out.2.2.1.later b4 (Nat.le_refl _)) (H3.out.2.2.2.trans (b4.mono H3.out.2.2.2.size)))))
  have HL3 := Lib.hid H4.out.2.2.1.lt
  clear b4
  go_wp2_with (first
    | (refine wpList_store_fl rfl (.tmp 10) (.tmp 17) rfl 7 p true rfl rfl H5.out.2.2.2.1 ?_; intro w6 a6 o6 z6 g6; have H6 := Lib.hid (And.intro (H5.out.1.same (o6 _ (Nat.ne_of_lt (Nat.lt_trans HL1.out (Nat.lt_trans HL2.out HL3.out))))) (And.intro (H5.out.2.1.same (o6 _ (Nat.ne_of_lt (Nat.lt_trans HL2.out HL3.out)))) (And.intro (H5.out.2.2.1.same (o6 _ (Nat.ne_of_lt HL3.out))) (And.intro a6 (g6 w.heap.size w (Nat.le_of_lt (Nat.lt_trans HL1.out (Nat.lt_trans HL2.out HL3.out))) H5.out.2.2.2.2))))); (have e1 : w6.cell? ⟨w.heap.size, 1, none⟩ = some (.int .i64 kd) := H6.out.1.kind); have HC := Lib.hid (show Bs w6 (some ⟨ab, ao + (p + 2), none⟩) (p + 2 + k - (p + 2)) (c - (p + 2)) R from by rw [HRL.out, show p + 2 + k - (p + 2) = k by omega]; exact (HB.out.later H6.out.2.2.2.2 (Nat.le_refl _)).cut (i := p + 2) (k := k) (by omega) (fun _ => by simp [Addr.add]) (fun h => by cases h)); have HL6 := Lib.hid H6.out.2.2.2.1.lt; clear a6 o6 z6 g6)
    | (refine wpList_alloc_fl rfl rfl ?_; intro w5 a5 b5 z5; have H5 := Lib.hid (And.intro (H4.out.1.later b5 (Nat.le_refl _)) (And.intro (H4.out.2.1.later b5 (Nat.le_refl _)) (And.intro (H4.out.2.2.1.later b5 (Nat.le_refl _)) (And.intro a5 (H4.out.2.2.2.trans (b5.mono H4.out.2.2.2.size)))))); clear a5 b5 z5)
      | (refine wpList_store_fl rfl (.tmp 9) (.tmp 83) rfl 0 0 false rfl rfl H20.out.2.1 ?_; intro w21 a21 o21 z21 g21; have H21 := Lib.hid (And.intro (H20.out.1.same (o21 _ (Nat.ne_of_lt HL2.out))) (And.intro a21 (And.intro (H20.out.2.2.1.farBlk (fun a ha => Nat.ne_of_gt (Nat.lt_of_lt_of_le (Nat.lt_trans HL3.out HL6.out) (H10.out.2.2.2.2.2 a ha))) o21) (g21 w.heap.size w (Nat.le_of_lt (Nat.lt_trans HL1.out HL2.out)) H20.out.2.2.2)))); clear a21 o21 z21 g21)
      | (refine wpList_store_rc rfl (.tmp 8) (.tmp 82) rfl { (Qs.asRc ⟨nm, kd, cl⟩ t) with data := R } A9 k c9 rfl rfl rfl H10.out.2.1 ?_; intro w20 a20 o20 z20 g20; have H20 := Lib.hid (And.intro a20 (And.intro (H10.out.2.2.1.same (o20 _ (Ne.symm (Nat.ne_of_lt HL2.out)))) (And.intro (H10.out.2.2.2.2.1.farBlk (fun a ha => Nat.ne_of_gt (Nat.lt_of_lt_of_le (Nat.lt_trans HL2.out (Nat.lt_trans HL3.out HL6.out)) (H10.out.2.2.2.2.2 a ha))) o20) (g20 w.heap.size w (Nat.le_of_lt HL1.out) H10.out.2.2.2.1)))); clear a20 o20 z20 g20)
      | (refine wpList_load_rc rfl (.tmp 5) rfl rfl H10.out.1 ?_)
      | (refine wpList_putData_rc rfl (.tmp 27) (.tmp 26) rfl R A9 k c9 rfl rfl H9.out.1 ?_; intro w10 a10 o10 z10 g10; have H10 := Lib.hid (And.intro (show RcBox w10 w.heap.size { (Qs.asRc ⟨nm, kd, cl⟩ t) with data := R } A9 k c9 from a10) (And.intro (H9.out.2.1.same (o10 _ (Ne.symm (Nat.ne_of_lt HL1.out)))) (And.intro (H9.out.2.2.1.same (o10 _ (Ne.symm (Nat.ne_of_lt (Nat.lt_trans HL1.out HL2.out))))) (And.intro (g10 w.heap.size w (Nat.le_refl _) H9.out.2.2.2.1) (And.intro (H9.out.2.2.2.2.1.farBlk (fun a ha => Nat.ne_of_gt (Nat.lt_of_lt_of_le (Nat.lt_trans (Nat.lt_trans HL1.out (Nat.lt_trans HL2.out HL3.out)) HL6.out) (H9.out.2.2.2.2.2 a ha))) o10) H9.out.2.2.2.2.2))))); clear a10 o10 z10 g10)
      | (at_builtin; refine wpList_append_bs rfl (.const (.slice none 0 0)) (.tmp 25) 22 rfl w6.heap.size 5 info5 Tryz.underlying22 _ 0 [] rfl (World.ownsRow_nil _ _ _ _) (some ⟨ab, ao + (p + 2), none⟩) (p + 2 + k - (p + 2)) (c - (p + 2)) R rfl HC.out (by omega) (Nat.le_refl _) ?_; intro v9 w9 o9 g9 n9 m9; have b9 : Below w6.heap.size w6 w9 := (Below.refl _ w6).grown g9 (Nat.le_refl _) (fun x hx => by cases hx); (have p9 := owns_n (n' := k) (by omega) o9); rw [List.nil_append] at p9; obtain ⟨A9, c9, rfl, B9⟩ := Bs.of_own p9; have H9 := Lib.hid (And.intro (H6.out.1.later b9 (Nat.le_refl _)) (And.intro (H6.out.2.1.later b9 (Nat.le_refl _)) (And.intro (H6.out.2.2.1.later b9 (Nat.le_refl _)) (And.intro (H6.out.2.2.2.2.trans (b9.mono H6.out.2.2.2.2.size)) (And.intro B9 (own_ow p9)))))); clear o9 p9 g9 n9 m9 b9 B9))
  exact bodyPost_ret (results_rcFl _ rfl rfl rfl H21.out.1 H21.out.2.1) rfl ⟨A9, k, c9, by rw [HRL.out]; rfl, by have hz := H21.out.2.2.1; rw [HRL.out] at hz; exact hz, (fun a ha => Nat.le_of_lt (Nat.lt_of_lt_of_le (Nat.lt_trans (Nat.lt_trans HL1.out (Nat.lt_trans HL2.out HL3.out)) HL6.out) (H10.out.2.2.2.2.2 a ha))), H21.out.2.2.2⟩
end Go.Proofs.YtbikifaadpijnaaGreatDoor

namespace Go.Proofs.YtbikifaadpijnaaGreatDoor
open Go.RowKit
set_option maxRecDepth 100000

theorem ref_data {A : Option Addr} {n c : Nat} {l : List UInt8} {w : World} (hb : Bs w A n c l) (hn : n ≤ 1000000) (q : Qs) (t : Int) (p k : Nat) (hk : p + 2 + k ≤ n) : Calls Tryz.prog 91 #[.slice A n c, .agg (rcv (q.asRc t) none 0 0), .int .i64 ((p : Int) + 2), .int .i64 k] w (RefD (dataV l n (q.asRc t) p k) w) := by
  by_cases k28 : q.kind = 28
  · exact ref_data6 hb hn q t p k hk k28
  by_cases k1 : q.kind = 1
  · exact ref_data4 hb hn q t p k hk k1
  by_cases k5 : q.kind = 5
  · exact ref_data5 hb hn q t p k hk k5
  · exact ref_data0 hb hn q t p k hk ⟨k28, k1, k5⟩
end Go.Proofs.YtbikifaadpijnaaGreatDoor

namespace Go.Proofs.YtbikifaadpijnaaGreatDoor
open Go.RowKit
set_option maxRecDepth 100000

theorem ref_write_row {S : List UInt8} (h : rightN S) (w : World) : Calls Tryz.prog 67 #[.string (mkS S)] w fun e w' => ∃ A c, e = .returned (.tuple #[.slice A (writeB S).length c, .agg (flv 0 0 false)]) ∧ w'.ownsRow w.heap.size 5 1 (.slice A (writeB S).length c) (writeB S).length (bv (writeB S)) ∧ Below w.heap.size w w' := by
  have hl := right_len h
  have k := ref_write_own (mkS S) (by rw [mkS_size]; omega) w
  rw [mkS_data] at k
  unfold writev writee at k
  rw [if_pos h, if_pos h] at k
  exact k
theorem ref_write_right {S : List UInt8} (h : rightN S) (w : World) : Calls Tryz.prog 67 #[.string (mkS S)] w fun e w' => ∃ A c, e = .returned (.tuple #[.slice A (writeB S).length c, .agg (flv 0 0 false)]) ∧ Bs w' A (writeB S).length c (writeB S) ∧ Below w.heap.size w w' := by
  have hl := right_len h
  have k := ref_write (mkS S) (by rw [mkS_size]; omega) w
  rw [mkS_data] at k
  unfold writev writee at k
  rw [if_pos h, if_pos h] at k
  exact k
end Go.Proofs.YtbikifaadpijnaaGreatDoor

namespace Go.Proofs.YtbikifaadpijnaaGreatDoor
open Go.RowKit
set_option maxRecDepth 100000

theorem exec_build_flZ {o : Oper} {ev : Operand → Value} {w : World} (ho : o.op = .build 36 #[]) : (execOp ev o).run Tryz.prog w = .ok (.value (.agg (flv 0 0 false))) w := by
  have hrun : (Instr.build 36 #[]).run Tryz.prog w = .ok (.agg (flv 0 0 false)) w := by kernel_rfl
  unfold execOp
  simp only [ho, Sem.run_bind, Sem.run_pure, Result.andThen_ok, List.map_toArray, List.map_nil, hrun]
theorem put_bs {A : Option Addr} {n c : Nat} {l : List UInt8} {w : World} (hb : Bs w A n c l) (v : Int) (k : Nat) (hk : k ≤ 4) (h47 : n ≤ 140737488350000) : Calls Tryz.prog 36 #[.slice A n c, .int .i64 v, .int .i64 k] w fun e w' => ∃ A' c', e = .returned (.slice A' (n + k) c') ∧ Bs w' A' (n + k) c' (l ++ putn v k) ∧ w'.ownsRow w.heap.size 5 1 (.slice A' (n + k) c') (n + k) (bv (l ++ putn v k)) ∧ Below w.heap.size w w' := by
  refine (ref_put hb v k hk h47).mono ?_
  rintro e w' ⟨v', rfl, o, b⟩
  obtain ⟨A', c', rfl, B⟩ := Bs.of_own o
  exact ⟨A', c', rfl, B, o, b⟩
theorem ow_none13 (b : Nat) : Ow b none := fun _ h => by cases h
/-- What the references hand back. -/
def RefB (l : List UInt8) (f : Fl) (w : World) (e : Ending) (w' : World) : Prop := ∃ A' n' c', e = .returned (.tuple #[.slice A' n' c', .agg (flv f.code f.at_ f.placed)]) ∧ Bs w' A' n' c' l ∧ Ow w.heap.size A' ∧ Below w.heap.size w w'
set_option maxHeartbeats 8000000 in
theorem ref_writeQ (q : Qs) (hs : q.name.length ≤ 10000) (w : World) : Calls Tryz.prog 37 #[.agg (qsv q)] w (RefB (writeQv q) (writeQe q) w) := by
  have a1 := QsBox.new w q
  have b1 : Below w.heap.size w (w.alloc (.cells (qsv q) 51)) := (Below.refl _ _).alloc (Nat.le_refl _) _
  obtain ⟨W, hW⟩ : ∃ W, w.alloc (.cells (qsv q) 51) = W := ⟨_, rfl⟩
  rw [hW] at a1 b1
  have HA := Lib.hid (And.intro a1 b1)
  have HW := Lib.hid hW
  have HL1 := Lib.hid (QsBox.lt a1)
  clear a1 b1 hW
  unfold RefB writeQv writeQe
  by_cases h0 : rightN q.name
  case neg =>
    have hr : ¬ rightQ q := fun h => h0 h.1
    rw [if_neg hr, if_neg hr]
    have KW := Lib.hid (fun w1 => show Calls Tryz.prog 67 #[.string (mkS q.name)] w1 fun e w' => ∃ A c, e = .returned (.tuple #[.slice A 0 c, .agg (flv 13 0 false)]) ∧ Bs w' A 0 c [] ∧ Below w1.heap.size w1 w' by
      have k := ref_write (mkS q.name) (by rw [mkS_size]; exact hs) w1
      rw [mkS_data] at k
      unfold writev writee at k
      rw [if_neg h0, if_neg h0] at k
      exact k)
    go_enter Tryz.func37, Tryz.ntmps37
    go_wp2_with (rw [HW.out]; refine wpList_alloc_fl rfl rfl ?_; intro w2 a2 b2 z2; have H2 := Lib.hid (And.intro (HA.out.1.later b2 (Nat.le_refl _)) (And.intro a2 (HA.out.2.trans (b2.mono HA.out.2.size)))); (have d0 : w2.cell? ⟨w.heap.size, 0, none⟩ = some (.string (mkS q.name)) := H2.out.1.cell 0); clear a2 b2 z2)
    refine (KW.out w2).mono ?_
    rintro e w3 ⟨A3, c3, rfl, B3, b3⟩
    have H3 := Lib.hid (And.intro (H2.out.1.later b3 (Nat.le_refl _)) (And.intro (H2.out.2.1.later b3 (Nat.le_refl _)) (And.intro (H2.out.2.2.trans (b3.mono H2.out.2.2.size)) b3)))
    have HL2 := Lib.hid (FlBox.lt H3.out.2.1)
    have HOW := Lib.hid B3
    clear b3 d0 B3
    go_wp2_with (first
      | (refine wpList_store_fl rfl (.tmp 5) (.tmp 11) rfl 13 0 false rfl rfl H4.out.2.2.1 ?_; intro w5 a5 o5 z5 g5; have H5 := Lib.hid (And.intro (H4.out.1.same (o5 _ (Nat.ne_of_lt (Nat.lt_trans HL1.out HL2.out)))) (And.intro (H4.out.2.1.same (o5 _ (Nat.ne_of_lt HL2.out))) (And.intro a5 (And.intro (g5 w.heap.size w (Nat.le_of_lt (Nat.lt_trans HL1.out HL2.out)) H4.out.2.2.2.1) o5)))); have e0 := fl_head a5; (have d1 : w5.cell? ⟨w.heap.size, 1, none⟩ = some (.int .i64 q.kind) := H5.out.1.cell 1); (have d2 : w5.cell? ⟨w.heap.size, 2, none⟩ = some (.int .i64 q.cls) := H5.out.1.cell 2); clear a5 o5 z5 g5)
      | (refine wpList_alloc_fl rfl rfl ?_; intro w4 a4 b4 z4; have H4 := Lib.hid (And.intro (H3.out.1.later b4 (Nat.le_refl _)) (And.intro (H3.out.2.1.later b4 (Nat.le_refl _)) (And.intro a4 (And.intro (H3.out.2.2.1.trans (b4.mono H3.out.2.2.1.size)) b4)))); clear a4 b4 z4))
    refine (help_bare 1 _).mono ?_
    rintro e w9 ⟨rfl, b9⟩
    have H9 := Lib.hid (And.intro (H5.out.2.1.later b9 (Nat.le_refl _)) (H5.out.2.2.2.1.trans (b9.mono H5.out.2.2.2.1.size)))
    clear b9
    go_wp2_with (refine wpList_store_fl rfl (.tmp 3) (.tmp 27) rfl 1 0 false rfl rfl H9.out.1 ?_; intro w10 a10 o10 z10 g10; have H10 := Lib.hid (And.intro a10 (g10 w.heap.size w (Nat.le_of_lt HL1.out) H9.out.2)); clear a10 o10 z10 g10)
    exact bodyPost_ret (results_tmp_fl rfl _ rfl H10.out.1) rfl ⟨none, 0, 0, rfl, Bs.nil _, ow_none13 _, H10.out.2⟩
  have KW := Lib.hid (fun w1 => ref_write_right h0 w1)
  have hwl := writeB_le h0
  by_cases h1 : shortI q.kind
  case neg =>
    have hr : ¬ rightQ q := fun h => h1 h.2.1
    rw [if_neg hr, if_neg hr]
    go_enter Tryz.func37, Tryz.ntmps37
    go_wp2_with (rw [HW.out]; refine wpList_alloc_fl rfl rfl ?_; intro w2 a2 b2 z2; have H2 := Lib.hid (And.intro (HA.out.1.later b2 (Nat.le_refl _)) (And.intro a2 (HA.out.2.trans (b2.mono HA.out.2.size)))); (have d0 : w2.cell? ⟨w.heap.size, 0, none⟩ = some (.string (mkS q.name)) := H2.out.1.cell 0); clear a2 b2 z2)
    refine (KW.out w2).mono ?_
    rintro e w3 ⟨A3, c3, rfl, B3, b3⟩
    have H3 := Lib.hid (And.intro (H2.out.1.later b3 (Nat.le_refl _)) (And.intro (H2.out.2.1.later b3 (Nat.le_refl _)) (And.intro (H2.out.2.2.trans (b3.mono H2.out.2.2.size)) b3)))
    have HL2 := Lib.hid (FlBox.lt H3.out.2.1)
    have HOW := Lib.hid B3
    clear b3 d0 B3
    go_wp2_with (first
      | (refine wpList_store_fl rfl (.tmp 5) (.tmp 11) rfl 0 0 false rfl rfl H4.out.2.2.1 ?_; intro w5 a5 o5 z5 g5; have H5 := Lib.hid (And.intro (H4.out.1.same (o5 _ (Nat.ne_of_lt (Nat.lt_trans HL1.out HL2.out)))) (And.intro (H4.out.2.1.same (o5 _ (Nat.ne_of_lt HL2.out))) (And.intro a5 (And.intro (g5 w.heap.size w (Nat.le_of_lt (Nat.lt_trans HL1.out HL2.out)) H4.out.2.2.2.1) o5)))); have e0 := fl_head a5; (have d1 : w5.cell? ⟨w.heap.size, 1, none⟩ = some (.int .i64 q.kind) := H5.out.1.cell 1); (have d2 : w5.cell? ⟨w.heap.size, 2, none⟩ = some (.int .i64 q.cls) := H5.out.1.cell 2); clear a5 o5 z5 g5)
      | (refine wpList_alloc_fl rfl rfl ?_; intro w4 a4 b4 z4; have H4 := Lib.hid (And.intro (H3.out.1.later b4 (Nat.le_refl _)) (And.intro (H3.out.2.1.later b4 (Nat.le_refl _)) (And.intro a4 (And.intro (H3.out.2.2.1.trans (b4.mono H3.out.2.2.1.size)) b4)))); clear a4 b4 z4))
    refine (two_any _ _).mono ?_
    rintro e w6 ⟨rfl, rfl⟩
    rw [decide_eq_false h1]
    go_wp2_with fail
    refine (help_bare 1 _).mono ?_
    rintro e w9 ⟨rfl, b9⟩
    have H9 := Lib.hid (And.intro (H5.out.2.1.later b9 (Nat.le_refl _)) (H5.out.2.2.2.1.trans (b9.mono H5.out.2.2.2.1.size)))
    clear b9
    go_wp2_with (refine wpList_store_fl rfl (.tmp 3) (.tmp 27) rfl 1 0 false rfl rfl H9.out.1 ?_; intro w10 a10 o10 z10 g10; have H10 := Lib.hid (And.intro a10 (g10 w.heap.size w (Nat.le_of_lt HL1.out) H9.out.2)); clear a10 o10 z10 g10)
    exact bodyPost_ret (results_tmp_fl rfl _ rfl H10.out.1) rfl ⟨none, 0, 0, rfl, Bs.nil _, ow_none13 _, H10.out.2⟩
  by_cases h2 : shortI q.cls
  case neg =>
    have hr : ¬ rightQ q := fun h => h2 h.2.2
    rw [if_neg hr, if_neg hr]
    go_enter Tryz.func37, Tryz.ntmps37
    go_wp2_with (rw [HW.out]; refine wpList_alloc_fl rfl rfl ?_; intro w2 a2 b2 z2; have H2 := Lib.hid (And.intro (HA.out.1.later b2 (Nat.le_refl _)) (And.intro a2 (HA.out.2.trans (b2.mono HA.out.2.size)))); (have d0 : w2.cell? ⟨w.heap.size, 0, none⟩ = some (.string (mkS q.name)) := H2.out.1.cell 0); clear a2 b2 z2)
    refine (KW.out w2).mono ?_
    rintro e w3 ⟨A3, c3, rfl, B3, b3⟩
    have H3 := Lib.hid (And.intro (H2.out.1.later b3 (Nat.le_refl _)) (And.intro (H2.out.2.1.later b3 (Nat.le_refl _)) (And.intro (H2.out.2.2.trans (b3.mono H2.out.2.2.size)) b3)))
    have HL2 := Lib.hid (FlBox.lt H3.out.2.1)
    have HOW := Lib.hid B3
    clear b3 d0 B3
    go_wp2_with (first
      | (refine wpList_store_fl rfl (.tmp 5) (.tmp 11) rfl 0 0 false rfl rfl H4.out.2.2.1 ?_; intro w5 a5 o5 z5 g5; have H5 := Lib.hid (And.intro (H4.out.1.same (o5 _ (Nat.ne_of_lt (Nat.lt_trans HL1.out HL2.out)))) (And.intro (H4.out.2.1.same (o5 _ (Nat.ne_of_lt HL2.out))) (And.intro a5 (And.intro (g5 w.heap.size w (Nat.le_of_lt (Nat.lt_trans HL1.out HL2.out)) H4.out.2.2.2.1) o5)))); have e0 := fl_head a5; (have d1 : w5.cell? ⟨w.heap.size, 1, none⟩ = some (.int .i64 q.kind) := H5.out.1.cell 1); (have d2 : w5.cell? ⟨w.heap.size, 2, none⟩ = some (.int .i64 q.cls) := H5.out.1.cell 2); clear a5 o5 z5 g5)
      | (refine wpList_alloc_fl rfl rfl ?_; intro w4 a4 b4 z4; have H4 := Lib.hid (And.intro (H3.out.1.later b4 (Nat.le_refl _)) (And.intro (H3.out.2.1.later b4 (Nat.le_refl _)) (And.intro a4 (And.intro (H3.out.2.2.1.trans (b4.mono H3.out.2.2.1.size)) b4)))); clear a4 b4 z4))
    refine (two_any _ _).mono ?_
    rintro e w6 ⟨rfl, rfl⟩
    rw [decide_eq_true h1]
    go_wp2_with fail
    refine (two_any _ _).mono ?_
    rintro e w6 ⟨rfl, rfl⟩
    rw [decide_eq_false h2]
    go_wp2_with fail
    refine (help_bare 1 _).mono ?_
    rintro e w9 ⟨rfl, b9⟩
    have H9 := Lib.hid (And.intro (H5.out.2.1.later b9 (Nat.le_refl _)) (H5.out.2.2.2.1.trans (b9.mono H5.out.2.2.2.1.size)))
    clear b9
    go_wp2_with (refine wpList_store_fl rfl (.tmp 3) (.tmp 27) rfl 1 0 false rfl rfl H9.out.1 ?_; intro w10 a10 o10 z10 g10; have H10 := Lib.hid (And.intro a10 (g10 w.heap.size w (Nat.le_of_lt HL1.out) H9.out.2)); clear a10 o10 z10 g10)
    exact bodyPost_ret (results_tmp_fl rfl _ rfl H10.out.1) rfl ⟨none, 0, 0, rfl, Bs.nil _, ow_none13 _, H10.out.2⟩
  have hr : rightQ q := ⟨h0, h1, h2⟩
  rw [if_pos hr, if_pos hr]
  obtain ⟨N, hN⟩ : ∃ N, (writeB q.name).length = N := ⟨_, rfl⟩
  rw [hN] at KW hwl
  have HN := Lib.hid hN
  clear hN hr
  go_enter Tryz.func37, Tryz.ntmps37
  go_wp2_with (rw [HW.out]; refine wpList_alloc_fl rfl rfl ?_; intro w2 a2 b2 z2; have H2 := Lib.hid (And.intro (HA.out.1.later b2 (Nat.le_refl _)) (And.intro a2 (HA.out.2.trans (b2.mono HA.out.2.size)))); (have d0 : w2.cell? ⟨w.heap.size, 0, none⟩ = some (.string (mkS q.name)) := H2.out.1.cell 0); clear a2 b2 z2)
  refine (KW.out w2).mono ?_
  rintro e w3 ⟨A3, c3, rfl, B3, b3⟩
  have H3 := Lib.hid (And.intro (H2.out.1.later b3 (Nat.le_refl _)) (And.intro (H2.out.2.1.later b3 (Nat.le_refl _)) (And.intro (H2.out.2.2.trans (b3.mono H2.out.2.2.size)) b3)))
  have HL2 := Lib.hid (FlBox.lt H3.out.2.1)
  have HOW := Lib.hid B3
  clear b3 d0 B3
  go_wp2_with (first
    | (refine wpList_store_fl rfl (.tmp 5) (.tmp 11) rfl 0 0 false rfl rfl H4.out.2.2.1 ?_; intro w5 a5 o5 z5 g5; have H5 := Lib.hid (And.intro (H4.out.1.same (o5 _ (Nat.ne_of_lt (Nat.lt_trans HL1.out HL2.out)))) (And.intro (H4.out.2.1.same (o5 _ (Nat.ne_of_lt HL2.out))) (And.intro a5 (And.intro (g5 w.heap.size w (Nat.le_of_lt (Nat.lt_trans HL1.out HL2.out)) H4.out.2.2.2.1) o5)))); have e0 := fl_head a5; (have d1 : w5.cell? ⟨w.heap.size, 1, none⟩ = some (.int .i64 q.kind) := H5.out.1.cell 1); (have d2 : w5.cell? ⟨w.heap.size, 2, none⟩ = some (.int .i64 q.cls) := H5.out.1.cell 2); clear a5 o5 z5 g5)
    | (refine wpList_alloc_fl rfl rfl ?_; intro w4 a4 b4 z4; have H4 := Lib.hid (And.intro (H3.out.1.later b4 (Nat.le_refl _)) (And.intro (H3.out.2.1.later b4 (Nat.le_refl _)) (And.intro a4 (And.intro (H3.out.2.2.1.trans (b4.mono H3.out.2.2.1.size)) b4)))); clear a4 b4 z4))
  refine (two_any _ _).mono ?_
  rintro e w6 ⟨rfl, rfl⟩
  rw [decide_eq_true h1]
  go_wp2_with fail
  refine (two_any _ _).mono ?_
  rintro e w6 ⟨rfl, rfl⟩
  rw [decide_eq_true h2]
  clear d1 d2
  go_wp2_with fail
  have HB5 := Lib.hid (show Bs w5.drew A3 N c3 (writeB q.name) from HOW.out.keep (fun b o hb => World.cell?_of_block ((H5.out.2.2.2.2 b (Nat.ne_of_lt hb)).trans (H4.out.2.2.2.2.block b hb))))
  have hS : QsBox w5.drew w.heap.size q := H5.out.1
  have r1 : ∀ w', QsBox w' w.heap.size q → w'.cell? ⟨w.heap.size, 1, none⟩ = some (.int .i64 q.kind) := fun w' h => h.cell 1
  have r2 : ∀ w', QsBox w' w.heap.size q → w'.cell? ⟨w.heap.size, 2, none⟩ = some (.int .i64 q.cls) := fun w' h => h.cell 2
  refine rg_begin (fun w' => QsBox w' w.heap.size q) 10 (by kernel_rfl) rfl ?_
  refine rg_take 0 (v := ?rv1) rfl (by kernel_rfl) (by kernel_rfl) (by kernel_rfl) (fun _ _ _ h => h) (by rfl) hS (fun w2 hw2 => ?ry1) ?rr1
  case ry1 => ((try dsimp only at hw2); go_simp <;> with_reducible rfl)
  simp only [Act.put, List.setIfInBounds_toArray, List.set_cons_zero, List.set_cons_succ]
  refine rg_take 1 (v := ?rv2) rfl (by kernel_rfl) (by kernel_rfl) (by kernel_rfl) (fun _ _ _ h => h) (by rfl) hS (fun w2 hw2 => ?ry2) ?rr2
  case ry2 => ((try dsimp only at hw2); go_simp <;> with_reducible rfl)
  simp only [Act.put, List.setIfInBounds_toArray, List.set_cons_zero, List.set_cons_succ]
  refine rg_take 4 (v := ?rv3) rfl (by kernel_rfl) (by kernel_rfl) (by kernel_rfl) (fun _ _ _ h => h) (by rfl) hS (fun w2 hw2 => ?ry3) ?rr3
  case ry3 => ((try dsimp only at hw2); go_simp <;> with_reducible rfl)
  simp only [Act.put, List.setIfInBounds_toArray, List.set_cons_zero, List.set_cons_succ]
  refine rg_take 2 (v := ?rv4) rfl (by kernel_rfl) (by kernel_rfl) (by kernel_rfl) (fun _ _ _ h => h) (by rfl) hS (fun w2 hw2 => ?ry4) ?rr4
  case ry4 => ((try dsimp only at hw2); go_simp <;> with_reducible rfl)
  simp only [Act.put, List.setIfInBounds_toArray, List.set_cons_zero, List.set_cons_succ]
  refine rg_take 5 (v := ?rv5) rfl (by kernel_rfl) (by kernel_rfl) (by kernel_rfl) (fun _ _ _ h => h) (by rfl) hS (fun w2 hw2 => ?ry5) ?rr5
  case ry5 => ((try dsimp only at hw2); go_simp <;> with_reducible rfl)
  simp only [Act.put, List.setIfInBounds_toArray, List.set_cons_zero, List.set_cons_succ]
  refine rg_take 7 (v := .agg (flv 0 0 false)) rfl (by kernel_rfl) (by kernel_rfl) (by kernel_rfl) (fun _ _ _ h => h) (by rfl) hS (fun w2 hw2 => exec_build_flZ rfl) ?_
  simp only [Act.put, List.setIfInBounds_toArray, List.set_cons_zero, List.set_cons_succ]
  refine rg_step 3 rfl (by kernel_rfl) (by rfl) (fun K hK => ?_)
  go_simp
  refine (put_bs HB5.out q.kind 2 (by omega) (by omega)).mono ?_
  rintro e w7 ⟨A7, c7, rfl, B7, _, b7⟩
  have H7 := Lib.hid (And.intro ((show FlBox w5.drew W.heap.size 0 0 false from H5.out.2.1).later b7 (Nat.le_refl _)) (And.intro B7 ((Below.drew H5.out.2.2.2.1).trans (b7.mono (Below.drew H5.out.2.2.2.1).size))))
  replace hS := QsBox.later hS b7 (Nat.le_refl _)
  clear B7 b7
  refine hK.out _ _ hS ?_
  clear hK K
  try simp only [Act.put, List.setIfInBounds_toArray, List.set_cons_zero, List.set_cons_succ]
  refine rg_step 6 rfl (by kernel_rfl) (by rfl) (fun K hK => ?_)
  go_simp
  refine (put_bs H7.out.2.1 q.cls 2 (by omega) (by omega)).mono ?_
  rintro e w8 ⟨A8, c8, rfl, B8, O8, b8⟩
  have H8 := Lib.hid (And.intro (H7.out.1.later b8 (Nat.le_refl _)) (And.intro B8 (And.intro (H7.out.2.2.trans (b8.mono H7.out.2.2.size)) (own_ow O8))))
  have HL7 := Lib.hid (FlBox.lt H7.out.1)
  replace hS := QsBox.later hS b8 (Nat.le_refl _)
  clear B8 b8 O8
  refine hK.out _ _ hS ?_
  clear hK K
  try simp only [Act.put, List.setIfInBounds_toArray, List.set_cons_zero, List.set_cons_succ]
  refine rg_take 8 (v := ?rv6) rfl (by kernel_rfl) (by kernel_rfl) (by kernel_rfl) (fun _ _ _ h => h) (by rfl) hS (fun w2 hw2 => ?ry6) ?rr6
  case ry6 => ((try dsimp only at hw2); go_simp <;> with_reducible rfl)
  simp only [Act.put, List.setIfInBounds_toArray, List.set_cons_zero, List.set_cons_succ]
  refine rg_step 9 rfl (by kernel_rfl) (by rfl) (fun K hK => ?_)
  refine wp_store_flF (.tmp 3) (.tmp 35) rfl 0 0 false rfl rfl H8.out.1 ?_
  intro w9 a9 o9 g9
  replace hS := QsBox.same hS (o9 _ (Nat.ne_of_lt HL1.out))
  have H9 := Lib.hid (And.intro a9 (And.intro (H8.out.2.1.farBlk (fun a ha => Nat.ne_of_gt (Nat.lt_of_lt_of_le HL7.out (H8.out.2.2.2 a ha))) o9) (g9 w.heap.size w (Nat.le_of_lt HL1.out) H8.out.2.2.1)))
  clear a9 o9 g9
  refine hK.out _ _ hS ?_
  clear hK K
  simp only [Act.put]
  refine rg_done (by kernel_rfl) ?_
  clear hS r1 r2
  go_wp2_with fail
  refine bodyPost_ret (results_tmp_fl rfl _ rfl H9.out.1) rfl ⟨A8, N + 2 + 2, c8, rfl, ?_, (fun a ha => Nat.le_of_lt (Nat.lt_of_lt_of_le (Nat.lt_trans HL1.out HL7.out) (H8.out.2.2.2 a ha))), H9.out.2.2⟩
  have hz := H9.out.2.1
  rw [List.append_assoc] at hz
  exact hz
end Go.Proofs.YtbikifaadpijnaaGreatDoor
