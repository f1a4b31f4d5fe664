/-
  stockadelaw04.AddrTexts answers true. Conditions: what the program's text has laid (Env).
-/
import Derived.Test.YtcdomcccdbdmhaaDoorTxS
import Derived.Test.YtcdomcccdbdmhaaDoorEqA
import Derived.Test.YtcdomcccdbdmhaaDoorDigits
import Derived.Test.YtcdomcccdbdmhaaDoorAwake04
import Derived.Deep.Cut
namespace Go.Proofs.YtcdomcccdbdmhaaDoor
open Go.RowKit
set_option maxRecDepth 100000

/-- Four bytes ahead of twelve zeros. -/
def quad (a b c d : UInt8) : List UInt8 := [a, b, c, d, 0, 0, 0, 0, 0, 0, 0, 0, 0, 0, 0, 0]
theorem dig (x : UInt8) (w : World) : ∃ J : ByteArray, J = mkS (Lib.decDigits x.toNat) ∧ J.size ≤ 256 ∧ Calls Tryd.prog 4 #[.int .i64 x.toNat] w fun e w' => e = .returned (.string J) ∧ Below w.heap.size w w' := by
  have := x.toNat_lt
  have h2 := dec_len6 x.toNat
  exact ⟨_, rfl, by rw [Lib.size_eq, mkS_data]; omega, digits_any x.toNat (by omega) w⟩

theorem mk8_all (x : UInt8) : x &&& mk8 8 = x := by
  have h : ∀ y : Fin 256, UInt8.ofNat y.1 &&& mk8 8 = UInt8.ofNat y.1 := by decide +kernel
  have h2 := h ⟨x.toNat, x.toNat_lt⟩
  rwa [show UInt8.ofNat x.toNat = x from UInt8.ofNat_toNat] at h2
theorem quad_right (a b c d : UInt8) : rightv false (quad a b c d) = true := by
  have z : ∀ k, (0 : UInt8) &&& mk8 k = 0 := fun k => UInt8.zero_and
  show (quad a b c d == firstv (quad a b c d) 32) = true
  rw [beq_iff_eq]
  simp [quad, firstv, List.mapIdx_cons, mk8_all]
theorem quad_text (a b c d : UInt8) : mkS (Lib.decDigits a.toNat) ++ ⟨#[46]⟩ ++ mkS (Lib.decDigits b.toNat) ++ ⟨#[46]⟩ ++ mkS (Lib.decDigits c.toNat) ++ ⟨#[46]⟩ ++ mkS (Lib.decDigits d.toNat) = mkS (textv false (quad a b c d)) := by
  unfold textv
  rw [quad_right]
  apply bytes_inj'
  simp only [ByteArray.data_append, Array.toList_append, mkS_data, if_true, Bool.false_eq_true, if_false]
  simp [text4v, quad, Lib.join]

set_option maxHeartbeats 4000000 in
theorem addrTexts0 (a b c d : UInt8) (at_ n_ : Int) {w : World} (hE : Env w) : Calls Tryd.prog 3 #[.int .u8 a.toNat, .int .u8 b.toNat, .int .u8 c.toNat, .int .u8 d.toNat, .int .i64 at_, .int .i64 n_] w fun e w' => e = .returned (.bool true) ∧ Below w.heap.size w w' := by
  have HE := Lib.hid hE
  clear hE
  have ra := a.toNat_lt
  have rb := b.toNat_lt
  have rc := c.toNat_lt
  have rd := d.toNat_lt
  have ia : IntKind.i64.wrap (a.toNat : Int) = a.toNat := IntWalk.i64_in _ (by omega)
  have ib : IntKind.i64.wrap (b.toNat : Int) = b.toNat := IntWalk.i64_in _ (by omega)
  have ic : IntKind.i64.wrap (c.toNat : Int) = c.toNat := IntWalk.i64_in _ (by omega)
  have id_ : IntKind.i64.wrap (d.toNat : Int) = d.toNat := IntWalk.i64_in _ (by omega)
  go_enter Tryd.func3, Tryd.ntmps3
  go_wp2_with (first
    | (refine wpList_alloc_ad rfl rfl ?_; intro w1 a1 b1 z1; have H1 := Lib.hid (And.intro a1 b1); clear a1 b1 z1)
    | (refine wpList_store_ad rfl (.tmp 13) (.tmp 25) rfl false (quad a b c d) rfl rfl rfl H1.out.1 ?_; intro w2 a2 o2 z2 b2; have H2 := Lib.hid (And.intro a2 (b2 _ _ (Nat.le_refl _) H1.out.2)); clear a2 o2 z2 b2))
  obtain ⟨J0, e0, z0, k0⟩ := dig a w2
  have E0 := Lib.hid e0
  have n0 : (9223372036854775807 < J0.size + 1) = False := eq_false (by omega)
  clear e0
  refine k0.mono ?_
  rintro e w3 ⟨rfl, b3⟩
  have H3 := Lib.hid (And.intro (H2.out.1.later b3 (Nat.le_refl _)) (H2.out.2.trans (b3.mono H2.out.2.size)))
  clear b3 k0
  go_wp2_with fail
  obtain ⟨J1, e1, z1, k1⟩ := dig b w3
  have E1 := Lib.hid e1
  have n1 : (9223372036854775807 < J0.size + 1 + J1.size) = False := eq_false (by omega)
  have n1' : (9223372036854775807 < J0.size + 1 + J1.size + 1) = False := eq_false (by omega)
  clear e1
  refine k1.mono ?_
  rintro e w4 ⟨rfl, b4⟩
  have H4 := Lib.hid (And.intro (H3.out.1.later b4 (Nat.le_refl _)) (H3.out.2.trans (b4.mono H3.out.2.size)))
  clear b4 k1
  go_wp2_with fail
  obtain ⟨J2, e2, z2, k2⟩ := dig c w4
  have E2 := Lib.hid e2
  have n2 : (9223372036854775807 < J0.size + 1 + J1.size + 1 + J2.size) = False := eq_false (by omega)
  have n2' : (9223372036854775807 < J0.size + 1 + J1.size + 1 + J2.size + 1) = False := eq_false (by omega)
  clear e2
  refine k2.mono ?_
  rintro e w5 ⟨rfl, b5⟩
  have H5 := Lib.hid (And.intro (H4.out.1.later b5 (Nat.le_refl _)) (H4.out.2.trans (b5.mono H4.out.2.size)))
  clear b5 k2
  go_wp2_with fail
  obtain ⟨J3, e3, z3, k3⟩ := dig d w5
  have E3 := Lib.hid e3
  have n3 : (9223372036854775807 < J0.size + 1 + J1.size + 1 + J2.size + 1 + J3.size) = False := eq_false (by omega)
  clear e3
  refine k3.mono ?_
  rintro e w6 ⟨rfl, b6⟩
  have H6 := Lib.hid (And.intro (H5.out.1.later b6 (Nat.le_refl _)) (H5.out.2.trans (b6.mono H5.out.2.size)))
  clear b6 k3 ia ib ic id_ ra rb rc rd
  go_upto_region 4 with (fail)
  obtain ⟨q1, q2⟩ := num_mod4 at_ 8 (by omega) (by omega)
  obtain ⟨q3, q4⟩ := num_mod4 n_ 9 (by omega) (by omega)
  obtain ⟨A, hA⟩ : ∃ A : Nat, wrap64 ((IntKind.u64.wrap at_).tmod 8) = (A : Int) := ⟨_, (Int.toNat_of_nonneg q1).symm⟩
  obtain ⟨M, hM⟩ : ∃ M : Nat, wrap64 ((IntKind.u64.wrap n_).tmod 9) = (M : Int) := ⟨_, (Int.toNat_of_nonneg q3).symm⟩
  rw [hA] at q1 q2 ⊢
  rw [hM] at q3 q4 ⊢
  obtain ⟨S, hS⟩ : ∃ S, J0 ++ { data := #[46] } ++ J1 ++ { data := #[46] } ++ J2 ++ { data := #[46] } ++ J3 = S := ⟨_, rfl⟩
  rw [hS]
  have HS := Lib.hid hS
  clear hA hM n0 n1 n1' n2 n2' n3 z0 z1 z2 z3 hS
  go_upto_region 5 with (fail)
  obtain ⟨N, hN⟩ : ∃ N : Nat, min (M : Int) (8 - A) = (N : Int) := ⟨_, (Int.toNat_of_nonneg (by omega)).symm⟩
  rw [hN]
  have hN8 : A + N ≤ 8 := by omega
  clear hN
  go_wp2_with (first
    | (refine wpList_alloc_ad rfl rfl ?_; intro w7 a7 b7 z7; have H7 := Lib.hid (And.intro a7 (And.intro b7 z7)); clear a7 b7 z7)
    | (refine wpList_store_ad rfl (.tmp 15) (.tmp 56) rfl true (List.replicate 16 0) rfl rfl rfl H7.out.1 ?_; intro w8 a8 o8 z8 b8; have B8 := b8 _ _ (Nat.le_refl _) H7.out.2.1; have H8 := Lib.hid (And.intro a8 (And.intro (H6.out.1.later B8 (Nat.le_refl _)) (H6.out.2.trans (B8.mono H6.out.2.size)))); clear a8 o8 z8 b8 B8))
  have ng : w6.heap.size ≠ w.heap.size := by have := H6.out.1.lt; omega
  go_loopw [16, 17] (fun s i wr => ∃ k : Nat, ∃ T : ByteArray, i = .int .i64 k ∧ k ≤ 8 ∧ s = .string T ∧ T.data.toList = st A N k ∧ Hid (AdBox wr w6.heap.size true (bt A N k) ∧ AdBox wr w.heap.size false (quad a b c d) ∧ Below w.heap.size w wr)) (fun _ i _ => 8 - (intOf i).toNat)
  case atStart => exact ⟨0, ⟨#[]⟩, rfl, by omega, rfl, rfl, Lib.hid ⟨H8.out.1, H8.out.2.1, H8.out.2.2⟩⟩
  case round =>
    obtain ⟨k, T, rfl, hk8, rfl, hT, hh⟩ := hrel
    have hTl := st_len A N k
    rw [← hT, ← Lib.size_eq] at hTl
    by_cases hlt : k < 8
    · have p0 : (k : Int) < 8 := by omega
      have hodd := bt_odd_all ⟨A, by omega⟩ ⟨N, by omega⟩ ⟨k, hlt⟩
      have hst : st A N (k + 1) = if A ≤ k ∧ k < A + N then (if 1 < N then (if k = A then st A N k ++ [58, 58] else st A N k) else sep (st A N k) ++ [48]) else sep (st A N k) ++ [102] := rfl
      have hbt : bt A N (k + 1) = if A ≤ k ∧ k < A + N then bt A N k else (bt A N k).set (2 * k + 1) 15 := rfl
      have hc := hh.out.1.there (2 * k + 1) (by omega)
      have hc0 : wr.cell? ⟨w6.heap.size, 1 + (2 * k + 1), none⟩ = some (.int .u8 0) := by
        obtain ⟨x, hx, hx2⟩ := hc
        obtain rfl : x = 0 := Option.some.inj (hx.symm.trans hodd)
        exact hx2
      clear hc
      by_cases hin : A ≤ k ∧ k < A + N
      · rw [if_pos hin] at hst hbt
        have p1 : (A : Int) ≤ k := by omega
        have p2 : (k : Int) < A + N := by omega
        by_cases h1 : 1 < N
        · rw [if_pos h1] at hst
          have p3 : (1 : Int) < N := by omega
          by_cases ha : k = A
          · rw [if_pos ha] at hst
            subst ha
            have nT : (9223372036854775807 < T.size + 2) = False := eq_false (by omega)
            have HC := Lib.hid (And.intro hst (And.intro hbt hT))
            clear hst hbt hT hodd hin h1
            go_wp2_with fail
            go_roundw
            case rel =>
              refine ⟨k + 1, _, by go_num, by omega, rfl, ?_, ?_⟩
              · rw [ByteArray.data_append, Array.toList_append, HC.out.2.2, HC.out.1]
              · rw [HC.out.2.1]; exact hh
            case measure => simp [intOf]; omega
          · rw [if_neg ha] at hst
            have p4 : ((k : Int) = A) = False := eq_false (by omega)
            have HC := Lib.hid (And.intro hst (And.intro hbt hT))
            clear hst hbt hT hodd hin h1
            go_wp2_with fail
            go_roundw
            case rel =>
              refine ⟨k + 1, _, by go_num, by omega, rfl, ?_, ?_⟩
              · rw [HC.out.2.2, HC.out.1]
              · rw [HC.out.2.1]; exact hh
            case measure => simp [intOf]; omega
        · rw [if_neg h1] at hst
          have p3 : ¬ (1 : Int) < N := by omega
          have HC := Lib.hid (And.intro hst (And.intro hbt hT))
          clear hst hbt hT hodd hin h1
          by_cases hemp : T.toList = []
          · have nT : (9223372036854775807 < T.size + 1) = False := eq_false (by omega)
            go_wp2_with fail
            go_roundw
            case rel =>
              refine ⟨k + 1, _, by go_num, by omega, rfl, ?_, by rw [HC.out.2.1]; exact hh⟩
              rw [ByteArray.data_append, Array.toList_append, HC.out.2.2, HC.out.1, sep_a HC.out.2.2 hemp]
            case measure => simp [intOf]; omega
          · have hsz : T.size ≠ 0 := fun h => hemp (by rw [ByteArray.toList_eq]; exact List.eq_nil_of_length_eq_zero (by rw [← Lib.size_eq]; exact h))
            have nT : (9223372036854775807 < T.size + 1) = False := eq_false (by omega)
            have nT2 : (9223372036854775807 < T.size + 1 + 1) = False := eq_false (by omega)
            have i1 : (1 : Int) ≤ T.size := by omega
            have i2 : (T.size : Int) - 1 < T.size := by omega
            go_wp2_with fail
            · rename_i hway
              go_roundw
              case rel =>
                refine ⟨k + 1, _, by go_num, by omega, rfl, ?_, by rw [HC.out.2.1]; exact hh⟩
                rw [ByteArray.data_append, ByteArray.data_append, Array.toList_append, Array.toList_append, HC.out.2.2, HC.out.1, sep_b HC.out.2.2 hway]
              case measure => simp [intOf]; omega
            · rename_i hway
              go_roundw
              case rel =>
                refine ⟨k + 1, _, by go_num, by omega, rfl, ?_, by rw [HC.out.2.1]; exact hh⟩
                rw [ByteArray.data_append, Array.toList_append, HC.out.2.2, HC.out.1, sep_c HC.out.2.2 hemp hway]
              case measure => simp [intOf]; omega
      · rw [if_neg hin] at hst hbt
        have hf := hh.out.1.frozen (1 + (2 * k + 1))
        have a3 := hh.out.1.put (2 * k + 1) 15
        rw [← hbt] at a3
        have a4 := hh.out.2.1.far (p := ⟨w6.heap.size, 1 + (2 * k + 1), none⟩) (fun h => ng h.symm) (.int .u8 (15 : UInt8).toNat)
        have b4 := hh.out.2.2.setCell (p := ⟨w6.heap.size, 1 + (2 * k + 1), none⟩) (by show w.heap.size ≤ w6.heap.size; have := H6.out.1.lt; omega) (.int .u8 (15 : UInt8).toNat)
        have HH := Lib.hid (And.intro a3 (And.intro a4 b4))
        have HC := Lib.hid (And.intro hst (And.intro hbt hT))
        rcases (show k < A ∨ A + N ≤ k by omega) with hx | hx
        · have p1 : ¬ (A : Int) ≤ k := by omega
          clear hst hbt hT hodd hin a3 a4 b4 hx
          by_cases hemp : T.toList = []
          · have nT : (9223372036854775807 < T.size + 1) = False := eq_false (by omega)
            go_wp2_with fail
            go_roundw
            case rel =>
              refine ⟨k + 1, _, by go_num, by omega, rfl, ?_, HH⟩
              rw [ByteArray.data_append, Array.toList_append, HC.out.2.2, HC.out.1, sep_a HC.out.2.2 hemp]
            case measure => simp [intOf]; omega
          · have hsz : T.size ≠ 0 := fun h => hemp (by rw [ByteArray.toList_eq]; exact List.eq_nil_of_length_eq_zero (by rw [← Lib.size_eq]; exact h))
            have nT : (9223372036854775807 < T.size + 1) = False := eq_false (by omega)
            have nT2 : (9223372036854775807 < T.size + 1 + 1) = False := eq_false (by omega)
            have i1 : (1 : Int) ≤ T.size := by omega
            have i2 : (T.size : Int) - 1 < T.size := by omega
            go_wp2_with fail
            · rename_i hway
              go_roundw
              case rel =>
                refine ⟨k + 1, _, by go_num, by omega, rfl, ?_, HH⟩
                rw [ByteArray.data_append, ByteArray.data_append, Array.toList_append, Array.toList_append, HC.out.2.2, HC.out.1, sep_b HC.out.2.2 hway]
              case measure => simp [intOf]; omega
            · rename_i hway
              go_roundw
              case rel =>
                refine ⟨k + 1, _, by go_num, by omega, rfl, ?_, HH⟩
                rw [ByteArray.data_append, Array.toList_append, HC.out.2.2, HC.out.1, sep_c HC.out.2.2 hemp hway]
              case measure => simp [intOf]; omega
        · have p1 : (A : Int) ≤ k := by omega
          have p2 : ¬ (k : Int) < A + N := by omega
          clear hst hbt hT hodd hin a3 a4 b4 hx
          by_cases hemp : T.toList = []
          · have nT : (9223372036854775807 < T.size + 1) = False := eq_false (by omega)
            go_wp2_with fail
            go_roundw
            case rel =>
              refine ⟨k + 1, _, by go_num, by omega, rfl, ?_, HH⟩
              rw [ByteArray.data_append, Array.toList_append, HC.out.2.2, HC.out.1, sep_a HC.out.2.2 hemp]
            case measure => simp [intOf]; omega
          · have hsz : T.size ≠ 0 := fun h => hemp (by rw [ByteArray.toList_eq]; exact List.eq_nil_of_length_eq_zero (by rw [← Lib.size_eq]; exact h))
            have nT : (9223372036854775807 < T.size + 1) = False := eq_false (by omega)
            have nT2 : (9223372036854775807 < T.size + 1 + 1) = False := eq_false (by omega)
            have i1 : (1 : Int) ≤ T.size := by omega
            have i2 : (T.size : Int) - 1 < T.size := by omega
            go_wp2_with fail
            · rename_i hway
              go_roundw
              case rel =>
                refine ⟨k + 1, _, by go_num, by omega, rfl, ?_, HH⟩
                rw [ByteArray.data_append, ByteArray.data_append, Array.toList_append, Array.toList_append, HC.out.2.2, HC.out.1, sep_b HC.out.2.2 hway]
              case measure => simp [intOf]; omega
            · rename_i hway
              go_roundw
              case rel =>
                refine ⟨k + 1, _, by go_num, by omega, rfl, ?_, HH⟩
                rw [ByteArray.data_append, Array.toList_append, HC.out.2.2, HC.out.1, sep_c HC.out.2.2 hemp hway]
              case measure => simp [intOf]; omega
    · have hd8 : k = 8 := by omega
      subst hd8
      have p0 : ¬ ((8 : Nat) : Int) < 8 := by omega
      obtain ⟨tx1, tx2⟩ := tx_ok (a := A) (n := N) (by omega) hN8
      have KP := Parse_any T (by omega) (HE.out.later hh.out.2.2 (Nat.le_refl _))
      rw [hT, tx1] at KP
      have hJ : T = mkS (textv true (bt A N 8)) := bytes_inj' (by rw [hT, mkS_data, tx2])
      have hl := bt_len A N 8
      generalize bt A N 8 = B at *
      have HKP := Lib.hid KP
      have HC := Lib.hid hJ
      clear hT tx1 tx2 KP hJ
      go_wp2_with fail
      refine HKP.out.mono ?_
      rintro e x1 ⟨d1, _, rfl⟩
      have G1 := Lib.hid (And.intro (hh.out.1.later d1 (Nat.le_refl _)) (And.intro (hh.out.2.1.later d1 (Nat.le_refl _)) (hh.out.2.2.trans (d1.mono hh.out.2.2.size))))
      clear d1
      go_wp2_with (first
        | (refine wpList_alloc_ad rfl rfl ?_; intro x2 c2 d2 z2; have G2 := Lib.hid (And.intro c2 d2); clear c2 d2 z2)
        | (refine wpList_store_ad rfl (.tmp 18) (.tmp 109) rfl true B rfl rfl hl G2.out.1 ?_; intro x3 c3 o3 z3 d3; have D3 := d3 _ _ (Nat.le_refl _) G2.out.2; have G3 := Lib.hid (And.intro c3 (And.intro (G1.out.1.later D3 (Nat.le_refl _)) (And.intro (G1.out.2.1.later D3 (Nat.le_refl _)) (G1.out.2.2.trans (D3.mono G1.out.2.2.size))))); clear c3 o3 z3 d3 D3))
      refine (awake04 (HE.out.later G3.out.2.2.2 (Nat.le_refl _))).mono ?_
      rintro e x4 ⟨rfl, d4⟩
      have G4 := Lib.hid (And.intro (G3.out.1.later d4 (Nat.le_refl _)) (And.intro (G3.out.2.1.later d4 (Nat.le_refl _)) (And.intro (G3.out.2.2.1.later d4 (Nat.le_refl _)) (G3.out.2.2.2.trans (d4.mono G3.out.2.2.2.size)))))
      clear d4
      have hS : S = mkS (textv false (quad a b c d)) := by rw [← HS.out, E0.out, E1.out, E2.out, E3.out]; exact quad_text a b c d
      have HSS := Lib.hid hS
      clear hS
      go_wp2_with (refine wpList_load_row_w rfl 24 (.tmp 13) rfl w.heap.size 0 rfl (adv false (quad a b c d)) _ G4.out.2.2.1.range Tryd.underlying24 rfl (ad_size false rfl) ?_)
      have KT := Text_any false (quad a b c d) rfl (HE.out.later G4.out.2.2.2 (Nat.le_refl _))
      rw [← HSS.out] at KT
      refine KT.mono ?_
      rintro e x5 ⟨rfl, d5⟩
      have G5 := Lib.hid (And.intro (G4.out.1.later d5 (Nat.le_refl _)) (And.intro (G4.out.2.1.later d5 (Nat.le_refl _)) (G4.out.2.2.2.trans (d5.mono G4.out.2.2.2.size))))
      clear d5 KT
      go_wp2_with (refine wpList_load_row_w rfl 24 (.tmp 15) rfl w6.heap.size 0 rfl (adv true B) _ G5.out.2.1.range Tryd.underlying24 rfl (ad_size true hl) ?_)
      have KT := Text_any true B hl (HE.out.later G5.out.2.2 (Nat.le_refl _))
      rw [← HC.out] at KT
      refine KT.mono ?_
      rintro e x6 ⟨rfl, d6⟩
      have G6 := Lib.hid (And.intro (G5.out.1.later d6 (Nat.le_refl _)) (And.intro (G5.out.2.1.later d6 (Nat.le_refl _)) (G5.out.2.2.trans (d6.mono G5.out.2.2.size))))
      clear d6 KT
      have heq : ∀ w, (binOp .eql 24 (.agg (adv true B)) (.agg (adv true B))).run Tryd.prog w = .ok (.bool true) w := fun w => by
        rw [eql_ad true true hl hl w]; simp
      go_wp2_with (first
        | (refine wpList_load_row_w rfl 24 (.tmp 18) rfl x1.heap.size 0 rfl (adv true B) _ G6.out.1.range Tryd.underlying24 rfl (ad_size true hl) ?_)
        | (refine wpList_load_row_w rfl 24 (.tmp 15) rfl w6.heap.size 0 rfl (adv true B) _ G6.out.2.1.range Tryd.underlying24 rfl (ad_size true hl) ?_))
      go_ret
      exact ⟨rfl, G6.out.2.2⟩
theorem addrTexts {n0 n1 n2 n3 n4 n5 : Int} (r0 : 0 ≤ n0 ∧ n0 < 256) (r1 : 0 ≤ n1 ∧ n1 < 256) (r2 : 0 ≤ n2 ∧ n2 < 256) (r3 : 0 ≤ n3 ∧ n3 < 256) {w : World} (hE : Env w) : Calls Tryd.prog 3 #[.int .u8 n0, .int .u8 n1, .int .u8 n2, .int .u8 n3, .int .i64 n4, .int .i64 n5] w fun e w' => e = .returned (.bool true) ∧ Below w.heap.size w w' := by
  have byte : ∀ {n : Int}, 0 ≤ n ∧ n < 256 → ∃ x : UInt8, n = x.toNat := fun {n} h => ⟨UInt8.ofNat n.toNat, by rw [UInt8.toNat_ofNat']; omega⟩
  obtain ⟨a, rfl⟩ := byte r0
  obtain ⟨b, rfl⟩ := byte r1
  obtain ⟨c, rfl⟩ := byte r2
  obtain ⟨d, rfl⟩ := byte r3
  exact addrTexts0 a b c d n4 n5 hE
end Go.Proofs.YtcdomcccdbdmhaaDoor
