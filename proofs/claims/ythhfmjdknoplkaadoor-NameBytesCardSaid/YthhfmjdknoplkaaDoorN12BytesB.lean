/-
  stockadelaw12.NameBytes answers true, whatever is handed in. Conditions: what the program's text has laid (internal/bytealg.MaxLen holds an int; errors.errorType holds the handle of the type error).
-/
import Derived.Test.YthhfmjdknoplkaaDoorN12BytesN
import Derived.Deep.DeepCutAuto
import Derived.IntWalk
namespace Go.Proofs.YthhfmjdknoplkaaDoor
open Go.RowKit
set_option maxRecDepth 100000

set_option maxHeartbeats 3000000 in
theorem nameBytes_bad (c : UInt8) (hc : ¬ sign (lowB c)) (s : ByteArray) (hs : s.size ≤ 9223372036854775807) {w : World} (hE : Env w) (hg : Handle w) : Calls Tryd.prog 7 #[.int .u8 c.toNat, .string s] w fun e w' => e = .returned (.bool true) ∧ Below w.heap.size w w' := by
  have KP := Lib.hid (playName_any s hs w)
  obtain ⟨ls0, hform, hls0, hl0⟩ := playN_form s.data.toList
  have h60 : (playN s.data.toList).length ≤ 60 := (playN_right s.data.toList).2
  have hfull : rightN (97 :: playN s.data.toList) := head_right (show sign 97 by decide) h60 ⟨ls0, hform, hls0⟩
  clear hform hls0 hl0
  generalize playN s.data.toList = p at KP h60 hfull
  have hps : (mkS p).size = p.length := mkS_size p
  have HE := Lib.hid hE
  have HG := Lib.hid hg
  obtain ⟨f, f2, f3, f4, f5, hcs, ⟨g1, g2⟩, ⟨g3, g4⟩, ⟨g5, g6⟩, ⟨g7, g8⟩⟩ := byte_names h60 hfull
  have KR : ∀ (x : ByteArray) (d : Bool), x.size ≤ 1000 → decide (rightN x.data.toList) = d → ∀ w1, Below w.heap.size w w1 → Calls Tryd.prog 16 #[.string x] w1 fun e w' => e = .returned (.bool d) ∧ Below w1.heap.size w1 w' := fun x d hl hd w1 hb => by
    have h := right_any x (by omega) (hE.later hb (Nat.le_refl _))
    rw [hd] at h
    exact h
  have R1 := Lib.hid (KR (mkS [c]) (decide (sign c)) (by rw [mkS_size]; simp) (by rw [mkS_data]; exact decide_eq_decide.2 (right_one c)))
  have R2 := Lib.hid (KR f true g1 (decide_eq_true g2))
  have R3 := Lib.hid (KR f2 false g3 (decide_eq_false g4))
  have R4 := Lib.hid (KR f3 false g5 (decide_eq_false g6))
  have R5 := Lib.hid (KR f5 false g7 (decide_eq_false g8))
  have m1 : ¬ 9223372036854775807 < 1 + p.length := by omega
  have HC := Lib.hid hcs
  clear KR hE hg hfull hcs g1 g2 g3 g4 g5 g6 g7 g8
  have HH := Lib.hid hc
  clear hc
  have hx := c.toNat_lt
  go_enter Tryd.func7, Tryd.ntmps7
  go_wp2_with fail
  refine KP.out.mono ?_
  rintro e w1 ⟨rfl, b1⟩
  have L1 := Bs.lit w1 [c] 1 rfl (by unfold maxLen; omega) #[.int .u8 c.toNat] rfl 5
  have B1 : Below w1.heap.size w1 (w1.alloc (.cells #[.int .u8 c.toNat] 5)) := (Below.refl _ _).alloc (Nat.le_refl _) _
  have y1 := L1.convert (P := Tryd.prog) 22 5 9 Tryd.underlying22 Tryd.underlying5 Tryd.underlying9
  have H2 := Lib.hid (b1.trans (B1.mono b1.size))
  clear b1 L1 B1
  go_upto_region 3 with fail
  clear y1
  generalize w1.alloc (.cells #[.int .u8 c.toNat] 5) = W2 at H2 ⊢
  go_cut [6] (fun s wx => s = .bool (decide (sign c)) ∧ wx = W2)
  case first =>
    rcases (show c.toNat < 33 ∨ (33 ≤ c.toNat ∧ 126 < c.toNat) ∨ (33 ≤ c.toNat ∧ c.toNat ≤ 126 ∧ c.toNat = 46) ∨ (33 ≤ c.toNat ∧ c.toNat ≤ 126 ∧ c.toNat ≠ 46 ∧ c.toNat < 65) ∨ (33 ≤ c.toNat ∧ c.toNat ≤ 126 ∧ c.toNat ≠ 46 ∧ ¬ c.toNat < 65) by omega) with d1 | ⟨d1, d2⟩ | ⟨d1, d2, d3⟩ | ⟨d1, d2, d3, d4⟩ | ⟨d1, d2, d3, d4⟩
    · have e1 : decide (sign c) = false := decide_eq_false (by unfold sign; omega)
      have E1 := Lib.hid e1
      clear e1
      go_wp2_with fail
      go_meet
      rw [E1.out]
      exact ⟨rfl, rfl⟩
    · have e1 : decide (sign c) = false := decide_eq_false (by unfold sign; omega)
      have E1 := Lib.hid e1
      clear e1
      go_wp2_with fail
      go_meet
      rw [E1.out]
      exact ⟨rfl, rfl⟩
    · have e1 : decide (sign c) = false := decide_eq_false (by unfold sign; omega)
      have E1 := Lib.hid e1
      clear e1
      go_wp2_with fail
      go_meet
      rw [E1.out]
      exact ⟨rfl, rfl⟩
    · have e1 : decide (sign c) = true := decide_eq_true (by unfold sign; omega)
      have E1 := Lib.hid e1
      have d5 : ((c.toNat : Int) != 46) = true := by rw [bne_iff_ne]; omega
      clear e1 d3
      go_wp2_with fail
      go_meet
      rw [E1.out]
      exact ⟨rfl, rfl⟩
    · have e1 : decide (sign c) = (decide ((c.toNat : Int) < 65) || decide (90 < (c.toNat : Int))) := by
        rw [Bool.eq_iff_iff, Bool.or_eq_true, decide_eq_true_iff, decide_eq_true_iff, decide_eq_true_iff]
        unfold sign
        omega
      have E1 := Lib.hid e1
      have d5 : ((c.toNat : Int) != 46) = true := by rw [bne_iff_ne]; omega
      clear e1 d3
      go_wp2_with fail
      go_meet
      rw [E1.out]
      exact ⟨rfl, rfl⟩
  case rest =>
  obtain ⟨rfl, hwc⟩ := hcut
  rw [hwc]
  clear hwc
  have L2 := Bs.lit W2 [1, c, 0] 3 rfl (by unfold maxLen; omega) #[.int .u8 1, .int .u8 c.toNat, .int .u8 0] rfl 5
  have B2 : Below W2.heap.size W2 (W2.alloc (.cells #[.int .u8 1, .int .u8 c.toNat, .int .u8 0] 5)) := (Below.refl _ _).alloc (Nat.le_refl _) _
  have K2 := Lib.hid (read_no L2 (by omega) ((0 : Nat) : Int) (by omega) ((one_read c (l := [1, c, 0]) rfl).trans (if_neg HH.out)) (by decide))
  have H3 := Lib.hid (H2.out.trans (B2.mono H2.out.size))
  clear L2 B2
  go_wp2_with fail
  refine K2.out.mono ?_
  rintro e w3 ⟨T, x, rfl, t3, b3⟩
  have H4 := Lib.hid (H3.out.trans (b3.mono H3.out.size))
  have T3 := Lib.hid t3
  clear b3 t3
  go_upto_region 6 with fail
  obtain ⟨u, hu⟩ : ∃ u, decide (capB c) = u := ⟨_, rfl⟩
  have HU := Lib.hid hu
  clear hu
  go_cut [11] (fun s wx => s = .bool u ∧ wx = w3)
  case first =>
    by_cases d1 : 65 ≤ c.toNat
    · have e1 : u = decide ((c.toNat : Int) ≤ 90) := by rw [← HU.out]; exact decide_eq_decide.2 (by unfold capB; omega)
      have E1 := Lib.hid e1
      clear e1
      go_wp2_with fail
      go_meet
      rw [E1.out]
      exact ⟨rfl, rfl⟩
    · have e1 : u = false := by rw [← HU.out]; exact decide_eq_false (by unfold capB; omega)
      have E1 := Lib.hid e1
      clear e1
      go_wp2_with fail
      go_meet
      rw [E1.out]
      exact ⟨rfl, rfl⟩
  case rest =>
  obtain ⟨rfl, hwc⟩ := hcut
  rw [hwc]
  clear hwc
  have e1 : u = false := by rw [← HU.out]; exact decide_eq_false (fun h => HH.out (by rw [(lowB_cap h).1]; exact (lowB_cap h).2))
  have e2 : decide (sign c) = false := decide_eq_false (fun h => HH.out (by rw [lowB_not h.2.2.2]; exact h))
  rw [e2] at R1
  rw [e2]
  clear HU
  subst e1
  clear e2
  have H3 := H4
  obtain ⟨c1, c2, c3, c4, c5, m2, m3, m4, m5⟩ := HC.out
  go_wp2_with fail
  refine (awake12 (HE.out.later H3.out (Nat.le_refl _))).mono ?_
  rintro e v4 ⟨rfl, bv4⟩
  have G4 := Lib.hid (H3.out.trans (bv4.mono H3.out.size))
  have T4 := Lib.hid (T3.out.later bv4 (Nat.le_refl _))
  clear bv4
  go_wp2_with fail
  refine (R1.out v4 G4.out).mono ?_
  rintro e v5 ⟨rfl, bv5⟩
  have G5 := Lib.hid (G4.out.trans (bv5.mono G4.out.size))
  have T5 := Lib.hid (T4.out.later bv5 (Nat.le_refl _))
  clear bv5
  go_wp2_with fail
  refine (help_at 12 0 v5).mono ?_
  rintro e v10 ⟨rfl, b10⟩
  have T10 := Lib.hid (T5.out.later b10 (Nat.le_refl _))
  have G10 := Lib.hid (G5.out.trans (b10.mono G5.out.size))
  clear b10
  go_wp2_with fail
  refine (is_told3 T10.out (HG.out.later G10.out (Nat.le_refl _))).mono ?_
  rintro e v11 ⟨rfl, b11⟩
  have G11 := Lib.hid (G10.out.trans (b11.mono G10.out.size))
  clear b11
  go_wp2_with fail
  refine (R2.out v11 G11.out).mono ?_
  rintro e v6 ⟨rfl, bv6⟩
  have G6 := Lib.hid (G11.out.trans (bv6.mono G11.out.size))
  clear bv6
  go_wp2_with fail
  refine (R3.out v6 G6.out).mono ?_
  rintro e v7 ⟨rfl, bv7⟩
  have G7 := Lib.hid (G6.out.trans (bv7.mono G6.out.size))
  clear bv7
  go_wp2_with fail
  refine (R4.out v7 G7.out).mono ?_
  rintro e v8 ⟨rfl, bv8⟩
  have G8 := Lib.hid (G7.out.trans (bv8.mono G7.out.size))
  clear bv8
  go_wp2_with fail
  refine (R5.out v8 G8.out).mono ?_
  rintro e v9 ⟨rfl, bv9⟩
  have G9 := Lib.hid (G8.out.trans (bv9.mono G8.out.size))
  clear bv9
  go_wp2_with fail
  go_ret
  exact ⟨rfl, G9.out⟩
end Go.Proofs.YthhfmjdknoplkaaDoor
