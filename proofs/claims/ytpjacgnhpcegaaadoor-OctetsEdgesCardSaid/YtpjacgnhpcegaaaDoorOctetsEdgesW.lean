/-
  stockadelaw02.OctetsEdges answers true, whatever the numbers. Conditions: errors.errorType holds the handle of the type error.
-/
import Derived.Test.YtpjacgnhpcegaaaDoorRef
import Derived.Test.YtpjacgnhpcegaaaDoorAwake02
import Derived.Deep.OwnRows
namespace Go.Proofs.YtpjacgnhpcegaaaDoor
open Go.RowKit

theorem num_mod (a : Int) (m : Int) (h0 : 0 < m) (h1 : m ≤ 1000000) : 0 ≤ wrap64 ((IntKind.u64.wrap a).tmod m) ∧ wrap64 ((IntKind.u64.wrap a).tmod m) < m := by
  have h : IntKind.u64.wrap a = a % 18446744073709551616 := rfl
  have h2 : 0 ≤ IntKind.u64.wrap a := by rw [h]; omega
  rw [Int.tmod_eq_emod_of_nonneg h2]
  have h3 := Int.emod_nonneg (IntKind.u64.wrap a) (show m ≠ 0 by omega)
  have h4 := Int.emod_lt_of_pos (IntKind.u64.wrap a) h0
  generalize IntKind.u64.wrap a % m = x at h3 h4
  unfold wrap64
  omega

set_option maxRecDepth 100000 in
set_option maxHeartbeats 4000000 in
theorem octetsEdges {w : World} (n0 k0 : Int) (hg : Handle w) : Calls Tryd.prog 5 #[.int .i64 n0, .int .i64 k0] w fun e w' => e = .returned (.bool true) ∧ Below w.heap.size w w' := by
  have HG := Lib.hid hg
  have m1 := num_mod n0 50 (by omega) (by omega)
  have m2 := num_mod k0 1000 (by omega) (by omega)
  have hmk := fun (n : Nat) (hn : n ≤ 1000000) (w : World) => run_make_row' (P := Tryd.prog) 22 5 (.int .u8 0) 1 Tryd.underlying22 info5 rfl .i64 .i64 n (by omega) (by omega) w
  have HMK := Lib.hid hmk
  clear hg hmk
  go_enter Tryd.func5, Tryd.ntmps5
  go_wp2_with fail
  generalize wrap64 ((IntKind.u64.wrap n0).tmod 50) = x at m1 ⊢
  obtain ⟨n, rfl⟩ := Int.eq_ofNat_of_zero_le m1.1
  rw [HMK.out n (by omega)]
  go_wp2_with fail
  generalize wrap64 ((IntKind.u64.wrap k0).tmod 1000) = y at m2 ⊢
  obtain ⟨m2, m3⟩ := m2
  have m1 : n < 50 := by omega
  rcases (show n < 1 ∨ n = 1 ∨ 2 ≤ n by omega) with hn | hn | hn
  · have hb2 : decide ((n : Int) < 2) = true := by simp; omega
    have hb0 : ((n : Int) == 0) = true := by simp; omega
    have S1 := Lib.hid (And.intro ((HG.out).later ((Below.refl _ w).alloc (Nat.le_refl _) (.cells (madeCells #[.int .u8 0] n) 5)) (Nat.le_refl _)) (And.intro (Bs.lit w (List.replicate n 0) n (by simp) (by unfold maxLen; omega) (madeCells #[.int .u8 0] n) (by rw [toList_madeCells_one]; simp [bv]) 5) ((Below.refl w.heap.size w).alloc (Below.refl w.heap.size w).size (.cells (madeCells #[.int .u8 0] n) 5))))
    refine (u16_any (S1.out.2.1) ((n : Int) - 2) (by omega)).mono ?_
    rintro e w2 ⟨v1, rfl, t1, b2⟩
    rw [show needOf n ((n : Int) - 2) 2 = ⟨1, 0, false⟩ from by unfold needOf; rw [if_pos (by omega)]] at t1
    have S2 := Lib.hid (And.intro ((S1.out.1).later b2 (Nat.le_refl _)) (And.intro ((S1.out.2.1).later b2 (Nat.le_refl _)) (And.intro (t1) ((S1.out.2.2).trans (b2.mono (S1.out.2.2).size)))))
    clear b2 t1
    go_wp2_with fail
    refine (u16_any (S2.out.2.1) ((n : Int) - 1) (by omega)).mono ?_
    rintro e w3 ⟨v2, rfl, t2, b3⟩
    rw [show needOf n ((n : Int) - 1) 2 = ⟨1, 0, false⟩ from by unfold needOf; rw [if_pos (by omega)]] at t2
    have S3 := Lib.hid (And.intro ((S2.out.1).later b3 (Nat.le_refl _)) (And.intro ((S2.out.2.1).later b3 (Nat.le_refl _)) (And.intro ((S2.out.2.2.1).later b3 (Nat.le_refl _)) (And.intro (t2) ((S2.out.2.2.2).trans (b3.mono (S2.out.2.2.2).size))))))
    clear b3 t2
    go_wp2_with fail
    refine (u32_any (S3.out.2.1) _ (by omega)).mono ?_
    rintro e w4 ⟨v3, rfl, t3, b4⟩
    rw [show needOf n (-1 - y) 4 = ⟨1, 0, false⟩ from by unfold needOf; rw [if_pos (by omega)]] at t3
    have S4 := Lib.hid (And.intro ((S3.out.1).later b4 (Nat.le_refl _)) (And.intro ((S3.out.2.1).later b4 (Nat.le_refl _)) (And.intro ((S3.out.2.2.1).later b4 (Nat.le_refl _)) (And.intro ((S3.out.2.2.2.1).later b4 (Nat.le_refl _)) (And.intro (t3) ((S3.out.2.2.2.2).trans (b4.mono (S3.out.2.2.2.2).size)))))))
    clear b4 t3
    go_wp2_with fail
    refine (part_any (S4.out.2.1) 0 _ (by omega) (by omega) (by omega)).mono ?_
    rintro e w5 ⟨A4, n4, m4, v4, rfl, q4, t4, b5⟩
    rw [show needOf n 0 (-1 - y) = ⟨1, 0, false⟩ from by unfold needOf; rw [if_pos (by omega)]] at t4
    have S5 := Lib.hid (And.intro ((S4.out.1).later b5 (Nat.le_refl _)) (And.intro ((S4.out.2.1).later b5 (Nat.le_refl _)) (And.intro ((S4.out.2.2.1).later b5 (Nat.le_refl _)) (And.intro ((S4.out.2.2.2.1).later b5 (Nat.le_refl _)) (And.intro ((S4.out.2.2.2.2.1).later b5 (Nat.le_refl _)) (And.intro (t4) ((S4.out.2.2.2.2.2).trans (b5.mono (S4.out.2.2.2.2.2).size))))))))
    clear b5 t4 q4
    go_wp2_with fail
    refine (part_of_cut (cut_ok (S5.out.2.1) n 0 (by omega)) (by omega)).mono ?_
    rintro e w6 ⟨v5, rfl, o5, b6⟩
    obtain ⟨A5, m5, rfl, hB5⟩ := Bs.of_own o5
    have S6 := Lib.hid (And.intro ((S5.out.1).later b6 (Nat.le_refl _)) (And.intro ((S5.out.2.1).later b6 (Nat.le_refl _)) (And.intro ((S5.out.2.2.1).later b6 (Nat.le_refl _)) (And.intro ((S5.out.2.2.2.1).later b6 (Nat.le_refl _)) (And.intro ((S5.out.2.2.2.2.1).later b6 (Nat.le_refl _)) (And.intro ((S5.out.2.2.2.2.2.1).later b6 (Nat.le_refl _)) ((S5.out.2.2.2.2.2.2).trans (b6.mono (S5.out.2.2.2.2.2.2).size))))))))
    clear b6 o5 hB5
    go_wp2_with fail
    refine (is_some (S6.out.2.2.1) (by decide) _).mono ?_
    rintro e w7 ⟨rfl, b7⟩
    have S7 := Lib.hid (And.intro ((S6.out.1).later b7 (Nat.le_refl _)) (And.intro ((S6.out.2.1).later b7 (Nat.le_refl _)) (And.intro ((S6.out.2.2.1).later b7 (Nat.le_refl _)) (And.intro ((S6.out.2.2.2.1).later b7 (Nat.le_refl _)) (And.intro ((S6.out.2.2.2.2.1).later b7 (Nat.le_refl _)) (And.intro ((S6.out.2.2.2.2.2.1).later b7 (Nat.le_refl _)) ((S6.out.2.2.2.2.2.2).trans (b7.mono (S6.out.2.2.2.2.2.2).size))))))))
    clear b7 
    go_wp2_with fail
    refine (help_bare 1 _).mono ?_
    rintro e w8 ⟨rfl, b8⟩
    have S8 := Lib.hid (And.intro ((S7.out.1).later b8 (Nat.le_refl _)) (And.intro ((S7.out.2.1).later b8 (Nat.le_refl _)) (And.intro ((S7.out.2.2.1).later b8 (Nat.le_refl _)) (And.intro ((S7.out.2.2.2.1).later b8 (Nat.le_refl _)) (And.intro ((S7.out.2.2.2.2.1).later b8 (Nat.le_refl _)) (And.intro ((S7.out.2.2.2.2.2.1).later b8 (Nat.le_refl _)) ((S7.out.2.2.2.2.2.2).trans (b8.mono (S7.out.2.2.2.2.2.2).size))))))))
    clear b8 
    go_wp2_with fail
    refine (is_told3 (S8.out.2.2.1) (S8.out.1)).mono ?_
    rintro e w9 ⟨rfl, b9⟩
    have S9 := Lib.hid (And.intro ((S8.out.1).later b9 (Nat.le_refl _)) (And.intro ((S8.out.2.1).later b9 (Nat.le_refl _)) (And.intro ((S8.out.2.2.1).later b9 (Nat.le_refl _)) (And.intro ((S8.out.2.2.2.1).later b9 (Nat.le_refl _)) (And.intro ((S8.out.2.2.2.2.1).later b9 (Nat.le_refl _)) (And.intro ((S8.out.2.2.2.2.2.1).later b9 (Nat.le_refl _)) ((S8.out.2.2.2.2.2.2).trans (b9.mono (S8.out.2.2.2.2.2.2).size))))))))
    clear b9 
    go_wp2_with fail
    refine (help_at 3 ((n : Int) - 1) _).mono ?_
    rintro e w10 ⟨rfl, b10⟩
    have S10 := Lib.hid (And.intro ((S9.out.1).later b10 (Nat.le_refl _)) (And.intro ((S9.out.2.2.2.1).later b10 (Nat.le_refl _)) (And.intro ((S9.out.2.2.2.2.1).later b10 (Nat.le_refl _)) (And.intro ((S9.out.2.2.2.2.2.1).later b10 (Nat.le_refl _)) ((S9.out.2.2.2.2.2.2).trans (b10.mono (S9.out.2.2.2.2.2.2).size))))))
    clear b10 
    go_wp2_with fail
    refine (help_bare 1 _).mono ?_
    rintro e wz ⟨rfl, bz⟩
    have hx := Box.behind bz
    have hy := hx.put 1 0 false
    obtain ⟨_, _, _, f0, f1, f2, hz⟩ := boxed3 bz
    obtain ⟨d0, d1, d2⟩ := hx.cells
    have hq : Below w10.heap.size w10 (((wz.setCell ⟨w10.heap.size, 0, none⟩ (.int .i64 1)).setCell ⟨w10.heap.size, 1, none⟩ (.int .i64 0)).setCell ⟨w10.heap.size, 2, none⟩ (.bool false)) := ((hz.setCell (p := ⟨w10.heap.size, 0, none⟩) (Nat.le_refl _) _).setCell (p := ⟨w10.heap.size, 1, none⟩) (Nat.le_refl _) _).setCell (p := ⟨w10.heap.size, 2, none⟩) (Nat.le_refl _) _
    have S11 := Lib.hid (And.intro ((S10.out.1).later hq (Nat.le_refl _)) (And.intro ((S10.out.2.1).later hq (Nat.le_refl _)) (And.intro ((S10.out.2.2.1).later hq (Nat.le_refl _)) (And.intro ((S10.out.2.2.2.1).later hq (Nat.le_refl _)) (And.intro (hy) ((S10.out.2.2.2.2).trans (hq.mono (S10.out.2.2.2.2).size)))))))
    clear hx hy hz hq bz
    go_wp2_with fail
    clear d0 d1 d2 f0 f1 f2
    refine (awake02 _).mono ?_
    rintro e w12 ⟨rfl, b12⟩
    have S12 := Lib.hid (And.intro ((S11.out.1).later b12 (Nat.le_refl _)) (And.intro ((S11.out.2.1).later b12 (Nat.le_refl _)) (And.intro ((S11.out.2.2.1).later b12 (Nat.le_refl _)) (And.intro ((S11.out.2.2.2.1).later b12 (Nat.le_refl _)) (And.intro ((S11.out.2.2.2.2.1).later b12 (Nat.le_refl _)) ((S11.out.2.2.2.2.2).trans (b12.mono (S11.out.2.2.2.2.2).size)))))))
    clear b12 
    obtain ⟨d0, d1, d2⟩ := (S12.out.2.2.2.2.1).cells
    go_wp2_with fail
    refine (is_told3 (S12.out.2.1) (S12.out.1)).mono ?_
    rintro e w13 ⟨rfl, b13⟩
    clear d0 d1 d2
    have S13 := Lib.hid (And.intro ((S12.out.1).later b13 (Nat.le_refl _)) (And.intro ((S12.out.2.1).later b13 (Nat.le_refl _)) (And.intro ((S12.out.2.2.1).later b13 (Nat.le_refl _)) (And.intro ((S12.out.2.2.2.1).later b13 (Nat.le_refl _)) (And.intro ((S12.out.2.2.2.2.1).later b13 (Nat.le_refl _)) ((S12.out.2.2.2.2.2).trans (b13.mono (S12.out.2.2.2.2.2).size)))))))
    clear b13 
    go_wp2_with fail
    refine (help_bare 1 _).mono ?_
    rintro e w14 ⟨rfl, b14⟩
    have S14 := Lib.hid (And.intro ((S13.out.1).later b14 (Nat.le_refl _)) (And.intro ((S13.out.2.1).later b14 (Nat.le_refl _)) (And.intro ((S13.out.2.2.1).later b14 (Nat.le_refl _)) (And.intro ((S13.out.2.2.2.1).later b14 (Nat.le_refl _)) (And.intro ((S13.out.2.2.2.2.1).later b14 (Nat.le_refl _)) ((S13.out.2.2.2.2.2).trans (b14.mono (S13.out.2.2.2.2.2).size)))))))
    clear b14 
    go_wp2_with fail
    refine (is_told3 (S14.out.2.2.1) (S14.out.1)).mono ?_
    rintro e w15 ⟨rfl, b15⟩
    have S15 := Lib.hid (And.intro ((S14.out.1).later b15 (Nat.le_refl _)) (And.intro ((S14.out.2.1).later b15 (Nat.le_refl _)) (And.intro ((S14.out.2.2.1).later b15 (Nat.le_refl _)) (And.intro ((S14.out.2.2.2.1).later b15 (Nat.le_refl _)) (And.intro ((S14.out.2.2.2.2.1).later b15 (Nat.le_refl _)) ((S14.out.2.2.2.2.2).trans (b15.mono (S14.out.2.2.2.2.2).size)))))))
    clear b15 
    go_wp2_with fail
    refine (help_bare 1 _).mono ?_
    rintro e w16 ⟨rfl, b16⟩
    have S16 := Lib.hid (And.intro ((S15.out.1).later b16 (Nat.le_refl _)) (And.intro ((S15.out.2.1).later b16 (Nat.le_refl _)) (And.intro ((S15.out.2.2.1).later b16 (Nat.le_refl _)) (And.intro ((S15.out.2.2.2.1).later b16 (Nat.le_refl _)) (And.intro ((S15.out.2.2.2.2.1).later b16 (Nat.le_refl _)) ((S15.out.2.2.2.2.2).trans (b16.mono (S15.out.2.2.2.2.2).size)))))))
    clear b16 
    go_wp2_with fail
    refine (is_told3 (S16.out.2.2.2.1) (S16.out.1)).mono ?_
    rintro e w17 ⟨rfl, b17⟩
    have S17 := Lib.hid (And.intro ((S16.out.1).later b17 (Nat.le_refl _)) (And.intro ((S16.out.2.1).later b17 (Nat.le_refl _)) (And.intro ((S16.out.2.2.1).later b17 (Nat.le_refl _)) (And.intro ((S16.out.2.2.2.1).later b17 (Nat.le_refl _)) (And.intro ((S16.out.2.2.2.2.1).later b17 (Nat.le_refl _)) ((S16.out.2.2.2.2.2).trans (b17.mono (S16.out.2.2.2.2.2).size)))))))
    clear b17 
    go_wp2_with fail
    go_ret
    exact ⟨rfl, (S17.out.2.2.2.2.2)⟩
  · have hn1 : 1 ≤ n := by omega
    have hn2 : n ≤ 1 := by omega
    clear hn
    have hb2 : decide ((n : Int) < 2) = true := by simp; omega
    have hb0 : ((n : Int) == 0) = false := by simp; omega
    have S1 := Lib.hid (And.intro ((HG.out).later ((Below.refl _ w).alloc (Nat.le_refl _) (.cells (madeCells #[.int .u8 0] n) 5)) (Nat.le_refl _)) (And.intro (Bs.lit w (List.replicate n 0) n (by simp) (by unfold maxLen; omega) (madeCells #[.int .u8 0] n) (by rw [toList_madeCells_one]; simp [bv]) 5) ((Below.refl w.heap.size w).alloc (Below.refl w.heap.size w).size (.cells (madeCells #[.int .u8 0] n) 5))))
    refine (u16_any (S1.out.2.1) ((n : Int) - 2) (by omega)).mono ?_
    rintro e w2 ⟨v1, rfl, t1, b2⟩
    rw [show needOf n ((n : Int) - 2) 2 = ⟨1, 0, false⟩ from by unfold needOf; rw [if_pos (by omega)]] at t1
    have S2 := Lib.hid (And.intro ((S1.out.1).later b2 (Nat.le_refl _)) (And.intro ((S1.out.2.1).later b2 (Nat.le_refl _)) (And.intro (t1) ((S1.out.2.2).trans (b2.mono (S1.out.2.2).size)))))
    clear b2 t1
    go_wp2_with fail
    refine (u16_any (S2.out.2.1) ((n : Int) - 1) (by omega)).mono ?_
    rintro e w3 ⟨v2, rfl, t2, b3⟩
    rw [show needOf n ((n : Int) - 1) 2 = ⟨3, ((n : Int) - 1), true⟩ from by unfold needOf; rw [if_neg (by omega), if_pos (by omega)]] at t2
    have S3 := Lib.hid (And.intro ((S2.out.1).later b3 (Nat.le_refl _)) (And.intro ((S2.out.2.1).later b3 (Nat.le_refl _)) (And.intro ((S2.out.2.2.1).later b3 (Nat.le_refl _)) (And.intro (t2) ((S2.out.2.2.2).trans (b3.mono (S2.out.2.2.2).size))))))
    clear b3 t2
    go_wp2_with fail
    refine (u32_any (S3.out.2.1) _ (by omega)).mono ?_
    rintro e w4 ⟨v3, rfl, t3, b4⟩
    rw [show needOf n (-1 - y) 4 = ⟨1, 0, false⟩ from by unfold needOf; rw [if_pos (by omega)]] at t3
    have S4 := Lib.hid (And.intro ((S3.out.1).later b4 (Nat.le_refl _)) (And.intro ((S3.out.2.1).later b4 (Nat.le_refl _)) (And.intro ((S3.out.2.2.1).later b4 (Nat.le_refl _)) (And.intro ((S3.out.2.2.2.1).later b4 (Nat.le_refl _)) (And.intro (t3) ((S3.out.2.2.2.2).trans (b4.mono (S3.out.2.2.2.2).size)))))))
    clear b4 t3
    go_wp2_with fail
    refine (part_any (S4.out.2.1) 0 _ (by omega) (by omega) (by omega)).mono ?_
    rintro e w5 ⟨A4, n4, m4, v4, rfl, q4, t4, b5⟩
    rw [show needOf n 0 (-1 - y) = ⟨1, 0, false⟩ from by unfold needOf; rw [if_pos (by omega)]] at t4
    have S5 := Lib.hid (And.intro ((S4.out.1).later b5 (Nat.le_refl _)) (And.intro ((S4.out.2.1).later b5 (Nat.le_refl _)) (And.intro ((S4.out.2.2.1).later b5 (Nat.le_refl _)) (And.intro ((S4.out.2.2.2.1).later b5 (Nat.le_refl _)) (And.intro ((S4.out.2.2.2.2.1).later b5 (Nat.le_refl _)) (And.intro (t4) ((S4.out.2.2.2.2.2).trans (b5.mono (S4.out.2.2.2.2.2).size))))))))
    clear b5 t4 q4
    go_wp2_with fail
    refine (part_of_cut (cut_ok (S5.out.2.1) n 0 (by omega)) (by omega)).mono ?_
    rintro e w6 ⟨v5, rfl, o5, b6⟩
    obtain ⟨A5, m5, rfl, hB5⟩ := Bs.of_own o5
    have S6 := Lib.hid (And.intro ((S5.out.1).later b6 (Nat.le_refl _)) (And.intro ((S5.out.2.1).later b6 (Nat.le_refl _)) (And.intro ((S5.out.2.2.1).later b6 (Nat.le_refl _)) (And.intro ((S5.out.2.2.2.1).later b6 (Nat.le_refl _)) (And.intro ((S5.out.2.2.2.2.1).later b6 (Nat.le_refl _)) (And.intro ((S5.out.2.2.2.2.2.1).later b6 (Nat.le_refl _)) ((S5.out.2.2.2.2.2.2).trans (b6.mono (S5.out.2.2.2.2.2.2).size))))))))
    clear b6 o5 hB5
    go_wp2_with fail
    refine (is_some (S6.out.2.2.1) (by decide) _).mono ?_
    rintro e w7 ⟨rfl, b7⟩
    have S7 := Lib.hid (And.intro ((S6.out.1).later b7 (Nat.le_refl _)) (And.intro ((S6.out.2.1).later b7 (Nat.le_refl _)) (And.intro ((S6.out.2.2.1).later b7 (Nat.le_refl _)) (And.intro ((S6.out.2.2.2.1).later b7 (Nat.le_refl _)) (And.intro ((S6.out.2.2.2.2.1).later b7 (Nat.le_refl _)) (And.intro ((S6.out.2.2.2.2.2.1).later b7 (Nat.le_refl _)) ((S6.out.2.2.2.2.2.2).trans (b7.mono (S6.out.2.2.2.2.2.2).size))))))))
    clear b7 
    go_wp2_with fail
    refine (help_bare 1 _).mono ?_
    rintro e w8 ⟨rfl, b8⟩
    have S8 := Lib.hid (And.intro ((S7.out.1).later b8 (Nat.le_refl _)) (And.intro ((S7.out.2.1).later b8 (Nat.le_refl _)) (And.intro ((S7.out.2.2.1).later b8 (Nat.le_refl _)) (And.intro ((S7.out.2.2.2.1).later b8 (Nat.le_refl _)) (And.intro ((S7.out.2.2.2.2.1).later b8 (Nat.le_refl _)) (And.intro ((S7.out.2.2.2.2.2.1).later b8 (Nat.le_refl _)) ((S7.out.2.2.2.2.2.2).trans (b8.mono (S7.out.2.2.2.2.2.2).size))))))))
    clear b8 
    go_wp2_with fail
    refine (is_told3 (S8.out.2.2.1) (S8.out.1)).mono ?_
    rintro e w9 ⟨rfl, b9⟩
    have S9 := Lib.hid (And.intro ((S8.out.1).later b9 (Nat.le_refl _)) (And.intro ((S8.out.2.1).later b9 (Nat.le_refl _)) (And.intro ((S8.out.2.2.1).later b9 (Nat.le_refl _)) (And.intro ((S8.out.2.2.2.1).later b9 (Nat.le_refl _)) (And.intro ((S8.out.2.2.2.2.1).later b9 (Nat.le_refl _)) (And.intro ((S8.out.2.2.2.2.2.1).later b9 (Nat.le_refl _)) ((S8.out.2.2.2.2.2.2).trans (b9.mono (S8.out.2.2.2.2.2.2).size))))))))
    clear b9 
    go_wp2_with fail
    refine (help_at 3 ((n : Int) - 1) _).mono ?_
    rintro e w10 ⟨rfl, b10⟩
    have S10 := Lib.hid (And.intro ((S9.out.1).later b10 (Nat.le_refl _)) (And.intro ((S9.out.2.2.2.1).later b10 (Nat.le_refl _)) (And.intro ((S9.out.2.2.2.2.1).later b10 (Nat.le_refl _)) (And.intro ((S9.out.2.2.2.2.2.1).later b10 (Nat.le_refl _)) ((S9.out.2.2.2.2.2.2).trans (b10.mono (S9.out.2.2.2.2.2.2).size))))))
    clear b10 
    have S11 := Lib.hid (And.intro ((S10.out.1).later ((Below.refl _ w10).alloc (Nat.le_refl _) (.cells #[.int .i64 3, .int .i64 ((n : Int) - 1), .bool true] 32)) (Nat.le_refl _)) (And.intro ((S10.out.2.1).later ((Below.refl _ w10).alloc (Nat.le_refl _) (.cells #[.int .i64 3, .int .i64 ((n : Int) - 1), .bool true] 32)) (Nat.le_refl _)) (And.intro ((S10.out.2.2.1).later ((Below.refl _ w10).alloc (Nat.le_refl _) (.cells #[.int .i64 3, .int .i64 ((n : Int) - 1), .bool true] 32)) (Nat.le_refl _)) (And.intro ((S10.out.2.2.2.1).later ((Below.refl _ w10).alloc (Nat.le_refl _) (.cells #[.int .i64 3, .int .i64 ((n : Int) - 1), .bool true] 32)) (Nat.le_refl _)) (And.intro (Box.new w10 3 ((n : Int) - 1) true) ((S10.out.2.2.2.2).alloc (S10.out.2.2.2.2).size (.cells #[.int .i64 3, .int .i64 ((n : Int) - 1), .bool true] 32)))))))
    go_wp2_with fail
    refine (awake02 _).mono ?_
    rintro e w12 ⟨rfl, b12⟩
    have S12 := Lib.hid (And.intro ((S11.out.1).later b12 (Nat.le_refl _)) (And.intro ((S11.out.2.1).later b12 (Nat.le_refl _)) (And.intro ((S11.out.2.2.1).later b12 (Nat.le_refl _)) (And.intro ((S11.out.2.2.2.1).later b12 (Nat.le_refl _)) (And.intro ((S11.out.2.2.2.2.1).later b12 (Nat.le_refl _)) ((S11.out.2.2.2.2.2).trans (b12.mono (S11.out.2.2.2.2.2).size)))))))
    clear b12 
    obtain ⟨d0, d1, d2⟩ := (S12.out.2.2.2.2.1).cells
    go_wp2_with fail
    refine (is_told3 (S12.out.2.1) (S12.out.1)).mono ?_
    rintro e w13 ⟨rfl, b13⟩
    clear d0 d1 d2
    have S13 := Lib.hid (And.intro ((S12.out.1).later b13 (Nat.le_refl _)) (And.intro ((S12.out.2.1).later b13 (Nat.le_refl _)) (And.intro ((S12.out.2.2.1).later b13 (Nat.le_refl _)) (And.intro ((S12.out.2.2.2.1).later b13 (Nat.le_refl _)) (And.intro ((S12.out.2.2.2.2.1).later b13 (Nat.le_refl _)) ((S12.out.2.2.2.2.2).trans (b13.mono (S12.out.2.2.2.2.2).size)))))))
    clear b13 
    go_wp2_with fail
    refine (help_bare 1 _).mono ?_
    rintro e w14 ⟨rfl, b14⟩
    have S14 := Lib.hid (And.intro ((S13.out.1).later b14 (Nat.le_refl _)) (And.intro ((S13.out.2.1).later b14 (Nat.le_refl _)) (And.intro ((S13.out.2.2.1).later b14 (Nat.le_refl _)) (And.intro ((S13.out.2.2.2.1).later b14 (Nat.le_refl _)) (And.intro ((S13.out.2.2.2.2.1).later b14 (Nat.le_refl _)) ((S13.out.2.2.2.2.2).trans (b14.mono (S13.out.2.2.2.2.2).size)))))))
    clear b14 
    go_wp2_with fail
    refine (is_told3 (S14.out.2.2.1) (S14.out.1)).mono ?_
    rintro e w15 ⟨rfl, b15⟩
    have S15 := Lib.hid (And.intro ((S14.out.1).later b15 (Nat.le_refl _)) (And.intro ((S14.out.2.1).later b15 (Nat.le_refl _)) (And.intro ((S14.out.2.2.1).later b15 (Nat.le_refl _)) (And.intro ((S14.out.2.2.2.1).later b15 (Nat.le_refl _)) (And.intro ((S14.out.2.2.2.2.1).later b15 (Nat.le_refl _)) ((S14.out.2.2.2.2.2).trans (b15.mono (S14.out.2.2.2.2.2).size)))))))
    clear b15 
    go_wp2_with fail
    refine (help_bare 1 _).mono ?_
    rintro e w16 ⟨rfl, b16⟩
    have S16 := Lib.hid (And.intro ((S15.out.1).later b16 (Nat.le_refl _)) (And.intro ((S15.out.2.1).later b16 (Nat.le_refl _)) (And.intro ((S15.out.2.2.1).later b16 (Nat.le_refl _)) (And.intro ((S15.out.2.2.2.1).later b16 (Nat.le_refl _)) (And.intro ((S15.out.2.2.2.2.1).later b16 (Nat.le_refl _)) ((S15.out.2.2.2.2.2).trans (b16.mono (S15.out.2.2.2.2.2).size)))))))
    clear b16 
    go_wp2_with fail
    refine (is_told3 (S16.out.2.2.2.1) (S16.out.1)).mono ?_
    rintro e w17 ⟨rfl, b17⟩
    have S17 := Lib.hid (And.intro ((S16.out.1).later b17 (Nat.le_refl _)) (And.intro ((S16.out.2.1).later b17 (Nat.le_refl _)) (And.intro ((S16.out.2.2.1).later b17 (Nat.le_refl _)) (And.intro ((S16.out.2.2.2.1).later b17 (Nat.le_refl _)) (And.intro ((S16.out.2.2.2.2.1).later b17 (Nat.le_refl _)) ((S16.out.2.2.2.2.2).trans (b17.mono (S16.out.2.2.2.2.2).size)))))))
    clear b17 
    go_wp2_with fail
    go_ret
    exact ⟨rfl, (S17.out.2.2.2.2.2)⟩
  · have hb2 : decide ((n : Int) < 2) = false := by simp; omega
    have hb0 : ((n : Int) == 0) = false := by simp; omega
    have S1 := Lib.hid (And.intro ((HG.out).later ((Below.refl _ w).alloc (Nat.le_refl _) (.cells (madeCells #[.int .u8 0] n) 5)) (Nat.le_refl _)) (And.intro (Bs.lit w (List.replicate n 0) n (by simp) (by unfold maxLen; omega) (madeCells #[.int .u8 0] n) (by rw [toList_madeCells_one]; simp [bv]) 5) ((Below.refl w.heap.size w).alloc (Below.refl w.heap.size w).size (.cells (madeCells #[.int .u8 0] n) 5))))
    refine (u16_any (S1.out.2.1) ((n : Int) - 2) (by omega)).mono ?_
    rintro e w2 ⟨v1, rfl, t1, b2⟩
    rw [show needOf n ((n : Int) - 2) 2 = ⟨0, 0, false⟩ from by unfold needOf; rw [if_neg (by omega), if_neg (by omega)]] at t1
    have S2 := Lib.hid (And.intro ((S1.out.1).later b2 (Nat.le_refl _)) (And.intro ((S1.out.2.1).later b2 (Nat.le_refl _)) (And.intro (t1) ((S1.out.2.2).trans (b2.mono (S1.out.2.2).size)))))
    clear b2 t1
    go_wp2_with fail
    refine (u16_any (S2.out.2.1) ((n : Int) - 1) (by omega)).mono ?_
    rintro e w3 ⟨v2, rfl, t2, b3⟩
    rw [show needOf n ((n : Int) - 1) 2 = ⟨3, ((n : Int) - 1), true⟩ from by unfold needOf; rw [if_neg (by omega), if_pos (by omega)]] at t2
    have S3 := Lib.hid (And.intro ((S2.out.1).later b3 (Nat.le_refl _)) (And.intro ((S2.out.2.1).later b3 (Nat.le_refl _)) (And.intro ((S2.out.2.2.1).later b3 (Nat.le_refl _)) (And.intro (t2) ((S2.out.2.2.2).trans (b3.mono (S2.out.2.2.2).size))))))
    clear b3 t2
    go_wp2_with fail
    refine (u32_any (S3.out.2.1) _ (by omega)).mono ?_
    rintro e w4 ⟨v3, rfl, t3, b4⟩
    rw [show needOf n (-1 - y) 4 = ⟨1, 0, false⟩ from by unfold needOf; rw [if_pos (by omega)]] at t3
    have S4 := Lib.hid (And.intro ((S3.out.1).later b4 (Nat.le_refl _)) (And.intro ((S3.out.2.1).later b4 (Nat.le_refl _)) (And.intro ((S3.out.2.2.1).later b4 (Nat.le_refl _)) (And.intro ((S3.out.2.2.2.1).later b4 (Nat.le_refl _)) (And.intro (t3) ((S3.out.2.2.2.2).trans (b4.mono (S3.out.2.2.2.2).size)))))))
    clear b4 t3
    go_wp2_with fail
    refine (part_any (S4.out.2.1) 0 _ (by omega) (by omega) (by omega)).mono ?_
    rintro e w5 ⟨A4, n4, m4, v4, rfl, q4, t4, b5⟩
    rw [show needOf n 0 (-1 - y) = ⟨1, 0, false⟩ from by unfold needOf; rw [if_pos (by omega)]] at t4
    have S5 := Lib.hid (And.intro ((S4.out.1).later b5 (Nat.le_refl _)) (And.intro ((S4.out.2.1).later b5 (Nat.le_refl _)) (And.intro ((S4.out.2.2.1).later b5 (Nat.le_refl _)) (And.intro ((S4.out.2.2.2.1).later b5 (Nat.le_refl _)) (And.intro ((S4.out.2.2.2.2.1).later b5 (Nat.le_refl _)) (And.intro (t4) ((S4.out.2.2.2.2.2).trans (b5.mono (S4.out.2.2.2.2.2).size))))))))
    clear b5 t4 q4
    go_wp2_with fail
    refine (part_of_cut (cut_ok (S5.out.2.1) n 0 (by omega)) (by omega)).mono ?_
    rintro e w6 ⟨v5, rfl, o5, b6⟩
    obtain ⟨A5, m5, rfl, hB5⟩ := Bs.of_own o5
    have S6 := Lib.hid (And.intro ((S5.out.1).later b6 (Nat.le_refl _)) (And.intro ((S5.out.2.1).later b6 (Nat.le_refl _)) (And.intro ((S5.out.2.2.1).later b6 (Nat.le_refl _)) (And.intro ((S5.out.2.2.2.1).later b6 (Nat.le_refl _)) (And.intro ((S5.out.2.2.2.2.1).later b6 (Nat.le_refl _)) (And.intro ((S5.out.2.2.2.2.2.1).later b6 (Nat.le_refl _)) ((S5.out.2.2.2.2.2.2).trans (b6.mono (S5.out.2.2.2.2.2.2).size))))))))
    clear b6 o5 hB5
    go_wp2_with fail
    refine (is_told3 (S6.out.2.2.1) (S6.out.1)).mono ?_
    rintro e w7 ⟨rfl, b7⟩
    have S7 := Lib.hid (And.intro ((S6.out.1).later b7 (Nat.le_refl _)) (And.intro ((S6.out.2.1).later b7 (Nat.le_refl _)) (And.intro ((S6.out.2.2.1).later b7 (Nat.le_refl _)) (And.intro ((S6.out.2.2.2.1).later b7 (Nat.le_refl _)) (And.intro ((S6.out.2.2.2.2.1).later b7 (Nat.le_refl _)) (And.intro ((S6.out.2.2.2.2.2.1).later b7 (Nat.le_refl _)) ((S6.out.2.2.2.2.2.2).trans (b7.mono (S6.out.2.2.2.2.2.2).size))))))))
    clear b7 
    go_wp2_with fail
    refine (help_at 3 ((n : Int) - 1) _).mono ?_
    rintro e w8 ⟨rfl, b8⟩
    have S8 := Lib.hid (And.intro ((S7.out.1).later b8 (Nat.le_refl _)) (And.intro ((S7.out.2.2.2.1).later b8 (Nat.le_refl _)) (And.intro ((S7.out.2.2.2.2.1).later b8 (Nat.le_refl _)) (And.intro ((S7.out.2.2.2.2.2.1).later b8 (Nat.le_refl _)) ((S7.out.2.2.2.2.2.2).trans (b8.mono (S7.out.2.2.2.2.2.2).size))))))
    clear b8 
    have S9 := Lib.hid (And.intro ((S8.out.1).later ((Below.refl _ w8).alloc (Nat.le_refl _) (.cells #[.int .i64 3, .int .i64 ((n : Int) - 1), .bool true] 32)) (Nat.le_refl _)) (And.intro ((S8.out.2.1).later ((Below.refl _ w8).alloc (Nat.le_refl _) (.cells #[.int .i64 3, .int .i64 ((n : Int) - 1), .bool true] 32)) (Nat.le_refl _)) (And.intro ((S8.out.2.2.1).later ((Below.refl _ w8).alloc (Nat.le_refl _) (.cells #[.int .i64 3, .int .i64 ((n : Int) - 1), .bool true] 32)) (Nat.le_refl _)) (And.intro ((S8.out.2.2.2.1).later ((Below.refl _ w8).alloc (Nat.le_refl _) (.cells #[.int .i64 3, .int .i64 ((n : Int) - 1), .bool true] 32)) (Nat.le_refl _)) (And.intro (Box.new w8 3 ((n : Int) - 1) true) ((S8.out.2.2.2.2).alloc (S8.out.2.2.2.2).size (.cells #[.int .i64 3, .int .i64 ((n : Int) - 1), .bool true] 32)))))))
    go_wp2_with fail
    refine (awake02 _).mono ?_
    rintro e w10 ⟨rfl, b10⟩
    have S10 := Lib.hid (And.intro ((S9.out.1).later b10 (Nat.le_refl _)) (And.intro ((S9.out.2.1).later b10 (Nat.le_refl _)) (And.intro ((S9.out.2.2.1).later b10 (Nat.le_refl _)) (And.intro ((S9.out.2.2.2.1).later b10 (Nat.le_refl _)) (And.intro ((S9.out.2.2.2.2.1).later b10 (Nat.le_refl _)) ((S9.out.2.2.2.2.2).trans (b10.mono (S9.out.2.2.2.2.2).size)))))))
    clear b10 
    obtain ⟨d0, d1, d2⟩ := (S10.out.2.2.2.2.1).cells
    go_wp2_with fail
    refine (is_told3 (S10.out.2.1) (S10.out.1)).mono ?_
    rintro e w11 ⟨rfl, b11⟩
    clear d0 d1 d2
    have S11 := Lib.hid (And.intro ((S10.out.1).later b11 (Nat.le_refl _)) (And.intro ((S10.out.2.1).later b11 (Nat.le_refl _)) (And.intro ((S10.out.2.2.1).later b11 (Nat.le_refl _)) (And.intro ((S10.out.2.2.2.1).later b11 (Nat.le_refl _)) (And.intro ((S10.out.2.2.2.2.1).later b11 (Nat.le_refl _)) ((S10.out.2.2.2.2.2).trans (b11.mono (S10.out.2.2.2.2.2).size)))))))
    clear b11 
    go_wp2_with fail
    refine (help_bare 1 _).mono ?_
    rintro e w12 ⟨rfl, b12⟩
    have S12 := Lib.hid (And.intro ((S11.out.1).later b12 (Nat.le_refl _)) (And.intro ((S11.out.2.1).later b12 (Nat.le_refl _)) (And.intro ((S11.out.2.2.1).later b12 (Nat.le_refl _)) (And.intro ((S11.out.2.2.2.1).later b12 (Nat.le_refl _)) (And.intro ((S11.out.2.2.2.2.1).later b12 (Nat.le_refl _)) ((S11.out.2.2.2.2.2).trans (b12.mono (S11.out.2.2.2.2.2).size)))))))
    clear b12 
    go_wp2_with fail
    refine (is_told3 (S12.out.2.2.1) (S12.out.1)).mono ?_
    rintro e w13 ⟨rfl, b13⟩
    have S13 := Lib.hid (And.intro ((S12.out.1).later b13 (Nat.le_refl _)) (And.intro ((S12.out.2.1).later b13 (Nat.le_refl _)) (And.intro ((S12.out.2.2.1).later b13 (Nat.le_refl _)) (And.intro ((S12.out.2.2.2.1).later b13 (Nat.le_refl _)) (And.intro ((S12.out.2.2.2.2.1).later b13 (Nat.le_refl _)) ((S12.out.2.2.2.2.2).trans (b13.mono (S12.out.2.2.2.2.2).size)))))))
    clear b13 
    go_wp2_with fail
    refine (help_bare 1 _).mono ?_
    rintro e w14 ⟨rfl, b14⟩
    have S14 := Lib.hid (And.intro ((S13.out.1).later b14 (Nat.le_refl _)) (And.intro ((S13.out.2.1).later b14 (Nat.le_refl _)) (And.intro ((S13.out.2.2.1).later b14 (Nat.le_refl _)) (And.intro ((S13.out.2.2.2.1).later b14 (Nat.le_refl _)) (And.intro ((S13.out.2.2.2.2.1).later b14 (Nat.le_refl _)) ((S13.out.2.2.2.2.2).trans (b14.mono (S13.out.2.2.2.2.2).size)))))))
    clear b14 
    go_wp2_with fail
    refine (is_told3 (S14.out.2.2.2.1) (S14.out.1)).mono ?_
    rintro e w15 ⟨rfl, b15⟩
    have S15 := Lib.hid (And.intro ((S14.out.1).later b15 (Nat.le_refl _)) (And.intro ((S14.out.2.1).later b15 (Nat.le_refl _)) (And.intro ((S14.out.2.2.1).later b15 (Nat.le_refl _)) (And.intro ((S14.out.2.2.2.1).later b15 (Nat.le_refl _)) (And.intro ((S14.out.2.2.2.2.1).later b15 (Nat.le_refl _)) ((S14.out.2.2.2.2.2).trans (b15.mono (S14.out.2.2.2.2.2).size)))))))
    clear b15 
    go_wp2_with fail
    go_ret
    exact ⟨rfl, (S15.out.2.2.2.2.2)⟩
end Go.Proofs.YtpjacgnhpcegaaaDoor
