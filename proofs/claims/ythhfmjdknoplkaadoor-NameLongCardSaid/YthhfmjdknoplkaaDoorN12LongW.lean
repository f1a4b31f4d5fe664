/-
  stockadelaw12.NameLong answers true, whatever is handed in. Conditions: what the program's text has laid (internal/bytealg.MaxLen holds an int; errors.errorType holds the handle of the type error).
-/
import Derived.Test.YthhfmjdknoplkaaDoorN12ShortW
import Derived.Deep.DeepCutAuto
import Derived.IntWalk
namespace Go.Proofs.YthhfmjdknoplkaaDoor
open Go.RowKit
set_option maxRecDepth 100000

set_option maxHeartbeats 1000000 in
/-- stockadehelp.Code of what tells an error. -/
theorem help_code {v : Value} {f : Fl} {w : World} (h : Tells w v f) (hc : f.code ≠ 0) (hg : Handle w) : Calls Tryd.prog 17 #[v] w fun e w' => e = .returned (.int .i64 f.code) ∧ Below w.heap.size w w' := by
  rcases h with ⟨h0, _⟩ | ⟨_, d, fs, hf, _⟩
  · exact absurd h0 hc
  · have hb : Below w.heap.size w (w.alloc (.cells #[.int .i64 0] 35)) := (Below.refl _ _).alloc (Nat.le_refl _) _
    have k3 := (As_E (hf.later hb (Nat.le_refl _)).chain (hg.later hb (Nat.le_refl _)) (t := ⟨w.heap.size, 0, none⟩) (old := .int .i64 0) (by simp) (by simp)).mono (R' := fun e w' => e = .returned (.bool true) ∧ Below w.heap.size w w' ∧ w'.cell? ⟨w.heap.size, 0, none⟩ = some (.int .i64 f.code)) (by
      rintro e w' ⟨he, w1, h1, rfl⟩
      refine ⟨he, (hb.trans (h1.mono hb.size)).setCell (p := ⟨w.heap.size, 0, none⟩) (Nat.le_refl _) _, ?_⟩
      exact World.cell?_setCell_same' _ _ _ (by rw [h1.cell (p := ⟨w.heap.size, 0, none⟩) (by simp)]; simp))
    have K3 := Lib.hid k3
    clear k3 hb hf hg hc
    go_enter Tryd.func17, Tryd.ntmps17
    go_wp2_with fail
    refine K3.out.mono ?_
    rintro e w1 ⟨rfl, b1, c1⟩
    have H1 := Lib.hid b1
    clear b1
    go_wp2_with fail
    go_ret
    exact ⟨rfl, H1.out⟩

def xs (n : Nat) : List UInt8 := List.replicate n 120
theorem xs_next (n : Nat) : mkS (xs n) ++ ⟨#[120]⟩ = mkS (xs (n + 1)) := by
  unfold xs
  rw [List.replicate_succ']
  exact mkS_append _ [120]
theorem longL_next (n size : Nat) : longL (n + 1) size = longL n size ++ [xs size] := by unfold longL xs; exact List.replicate_succ'
theorem long_name (n size : Nat) : mkS (joinD (longL (n + 1) size)) ++ ⟨#[46]⟩ = mkS (joinD (longL (n + 1) size) ++ [46]) ∧ mkS (joinD (longL (n + 1) size) ++ [46]) ++ mkS (xs size) = mkS (joinD (longL (n + 2) size)) := by
  refine ⟨mkS_append _ [46], ?_⟩
  rw [mkS_append, longL_next (n + 1), joinD_snoc _ _ (by unfold longL; simp)]
  simp
theorem long_one (size : Nat) : joinD (longL 1 size) = xs size := rfl
theorem long_len {n size : Nat} (hn : n ≤ 130) (h : size ≤ 70) : (joinD (longL n size)).length ≤ 9230 ∧ sizeL (longL n size) ≤ 9230 := by
  have h1 : n * (size + 1) ≤ 130 * 71 := Nat.mul_le_mul hn (by omega)
  have h2 := longL_size n size
  refine ⟨?_, by omega⟩
  by_cases h0 : longL n size = []
  · rw [h0]; simp [joinD]
  · have := joinD_length _ h0; omega
theorem long_wire (n size : Nat) : wireL (longL (n + 1) size) = wireL (longL n size) ++ [UInt8.ofNat size] ++ xs size := by
  rw [longL_next, wireL_snoc]
  unfold xs
  rw [List.length_replicate]
set_option maxHeartbeats 3000000 in
theorem nameLong (n size : Int) {w : World} (hE : Env w) (hg : Handle w) : Calls Tryd.prog 5 #[.int .i64 n, .int .i64 size] w fun e w' => e = .returned (.bool true) ∧ Below w.heap.size w w' := by
  have HE := Lib.hid hE
  have HG := Lib.hid hg
  obtain ⟨i0, hi, hz0, hz1, hz2⟩ := info_parts info5
  have HI := Lib.hid (And.intro hi (And.intro hz0 (And.intro hz1 hz2)))
  clear hE hg hi hz0 hz1 hz2
  obtain ⟨q1, q2⟩ := num_modS size 70 (by omega) (by omega)
  obtain ⟨q3, q4⟩ := num_modS n 130 (by omega) (by omega)
  go_enter Tryd.func5, Tryd.ntmps5
  go_upto_region 3 with fail
  generalize wrap64 ((IntKind.u64.wrap size).tmod 70) = z at q1 q2 ⊢
  generalize wrap64 ((IntKind.u64.wrap n).tmod 130) = k at q3 q4 ⊢
  obtain ⟨z, rfl⟩ := Int.eq_ofNat_of_zero_le q1
  obtain ⟨k, rfl⟩ := Int.eq_ofNat_of_zero_le q3
  rw [show (1 : Int) + (z : Int) = ((z + 1 : Nat) : Int) by omega, show (1 : Int) + (k : Int) = ((k + 1 : Nat) : Int) by omega]
  obtain ⟨Z, hZ⟩ : ∃ Z, z + 1 = Z := ⟨_, rfl⟩
  obtain ⟨N, hN⟩ : ∃ N, k + 1 = N := ⟨_, rfl⟩
  rw [hZ, hN]
  have hz1 : 1 ≤ Z := by omega
  have hz70 : Z ≤ 70 := by omega
  have hn1 : 1 ≤ N := by omega
  have hn130 : N ≤ 130 := by omega
  clear q1 q2 q3 q4 hZ hN
  go_wp2_with fail
  go_loop [5, 6] (fun o i => ∃ j : Nat, j ≤ Z ∧ i = .int .i64 j ∧ o = .string (mkS (xs j))) (fun _ i => Z - (intOf i).toNat)
  case atStart => exact ⟨0, Nat.zero_le _, rfl, rfl⟩
  case round =>
    obtain ⟨j, hj, rfl, rfl⟩ := hrel
    by_cases hlt : j < Z
    · have hx := xs_next j
      have hs : (mkS (xs j)).size = j := by rw [mkS_size]; unfold xs; exact List.length_replicate
      have hm : ¬ 9223372036854775807 < j + 1 := by omega
      go_wp2_with fail
      exact ⟨⟨j + 1, hlt, by go_num, rfl⟩, by simp [intOf]; omega⟩
    · obtain rfl : j = Z := by omega
      have hxs : (mkS (xs j)).size = j := by rw [mkS_size]; unfold xs; exact List.length_replicate
      go_wp2_with fail
      go_loopw [7, 8, 9] (fun s b i wr => ∃ m : Nat, m ≤ N ∧ i = .int .i64 m ∧ s = .string (mkS (joinD (longL (max m 1) j))) ∧ wr.ownsRow w.heap.size 5 1 b (sizeL (longL m j)) (bv (wireL (longL m j))) ∧ Below w.heap.size w wr) (fun _ _ i _ => N - (intOf i).toNat)
      case atStart => exact ⟨0, Nat.zero_le _, rfl, rfl, World.ownsRow_nil _ _ _ _, Below.refl _ _⟩
      case round =>
        obtain ⟨m, hm, rfl, rfl, ho, hbe⟩ := hrel
        have hll := long_len (n := m) (by omega) hz70
        by_cases hlt2 : m < N
        · have HO := Lib.hid (And.intro ho hbe)
          have HW := Lib.hid (long_wire m j)
          have hsz := hll.2
          clear ho hbe
          rcases Nat.eq_zero_or_pos m with h0 | h0
          · subst h0
            go_wp2_with (first
              | (at_builtin; refine wpList_append_bs rfl (.tmp 45) (.tmp 48) 22 rfl w.heap.size 5 info5 Tryd.underlying22 _ 0 (wireL (longL 0 j)) rfl (HO.out.1.alloc _) _ 1 1 [UInt8.ofNat j] rfl (by exact Bs.lit _ [UInt8.ofNat j] 1 rfl (by unfold maxLen; omega) _ (by simp [bv] <;> omega) _) (by omega) (by have := HO.out.2.size; simp; omega) ?_; intro v3 w3 o3 g3 n3 m3; have H3 := Lib.hid (And.intro o3 g3); clear o3 g3 n3 m3)
              | (at_builtin; refine Lib.wpList_append_own_string _ rfl (.tmp 49) (.tmp 50) 22 9 rfl w.heap.size 5 i0 Tryd.underlying22 Tryd.underlying9 HI.out.1 HI.out.2.1 HI.out.2.2.1 HI.out.2.2.2 _ _ _ rfl H3.out.1 (mkS (xs j)) rfl (by unfold maxLen; simp only [hxs]; omega) (by simp only [hxs]; omega) (by have := HO.out.2.size; have := H3.out.2.size; simp at this; omega) ?_; intro v4 w4 o4 g4 n4; have H4 := Lib.hid (And.intro o4 g4); clear o4 g4 n4))
            have hb3 : Below w.heap.size w w3 := (HO.out.2.alloc HO.out.2.size _).grown H3.out.2 (by have := HO.out.2.size; simp; omega) (fun q hq => (HO.out.1.lt q hq).1)
            have hb4 : Below w.heap.size w w4 := hb3.grown H4.out.2 hb3.size (fun q hq => (H3.out.1.lt q hq).1)
            have o5 : w4.ownsRow w.heap.size 5 1 v4 (sizeL (longL (0 + 1) j)) (bv (wireL (longL (0 + 1) j))) := by
              have o4 := H4.out.1
              rw [strCells_bv, mkS_data, ← bv_append, hxs] at o4
              rw [HW.out]
              exact owns_n (by rw [longL_size]; omega) o4
            refine ⟨⟨1, by omega, by go_num, rfl, o5, hb4⟩, by simp [intOf]; omega⟩
          · obtain ⟨m, rfl⟩ : ∃ m', m = m' + 1 := ⟨m - 1, by omega⟩
            rw [show max (m + 1) 1 = m + 1 by omega]
            obtain ⟨c1, c2⟩ := long_name m j
            have hjl := hll.1
            have hs1 : (mkS (joinD (longL (m + 1) j))).size = (joinD (longL (m + 1) j)).length := mkS_size _
            have hs2 : (mkS (joinD (longL (m + 1) j) ++ [46])).size = (joinD (longL (m + 1) j)).length + 1 := by rw [mkS_size]; simp
            have hm1 : ¬ 9223372036854775807 < (joinD (longL (m + 1) j)).length + 1 := by omega
            have hm2 : ¬ 9223372036854775807 < (joinD (longL (m + 1) j)).length + 1 + j := by omega
            clear hll hjl
            go_wp2_with (first
              | (at_builtin; refine wpList_append_bs rfl (.tmp 45) (.tmp 48) 22 rfl w.heap.size 5 info5 Tryd.underlying22 _ _ (wireL (longL (m + 1) j)) rfl (HO.out.1.alloc _) _ 1 1 [UInt8.ofNat j] rfl (by exact Bs.lit _ [UInt8.ofNat j] 1 rfl (by unfold maxLen; omega) _ (by simp [bv] <;> omega) _) (by omega) (by have := HO.out.2.size; simp; omega) ?_; intro v3 w3 o3 g3 n3 m3; have H3 := Lib.hid (And.intro o3 g3); clear o3 g3 n3 m3)
              | (at_builtin; refine Lib.wpList_append_own_string _ rfl (.tmp 49) (.tmp 50) 22 9 rfl w.heap.size 5 i0 Tryd.underlying22 Tryd.underlying9 HI.out.1 HI.out.2.1 HI.out.2.2.1 HI.out.2.2.2 _ _ _ rfl H3.out.1 (mkS (xs j)) rfl (by unfold maxLen; simp only [hxs]; omega) (by simp only [hxs]; omega) (by have := HO.out.2.size; have := H3.out.2.size; simp at this; omega) ?_; intro v4 w4 o4 g4 n4; have H4 := Lib.hid (And.intro o4 g4); clear o4 g4 n4))
            have hb3 : Below w.heap.size w w3 := (HO.out.2.alloc HO.out.2.size _).grown H3.out.2 (by have := HO.out.2.size; simp; omega) (fun q hq => (HO.out.1.lt q hq).1)
            have hb4 : Below w.heap.size w w4 := hb3.grown H4.out.2 hb3.size (fun q hq => (H3.out.1.lt q hq).1)
            have o5 : w4.ownsRow w.heap.size 5 1 v4 (sizeL (longL ((m + 1) + 1) j)) (bv (wireL (longL ((m + 1) + 1) j))) := by
              have o4 := H4.out.1
              rw [strCells_bv, mkS_data, ← bv_append, hxs] at o4
              rw [HW.out]
              exact owns_n (by rw [longL_size, longL_size, Nat.succ_mul (m + 1)]; omega) o4
            refine ⟨⟨m + 1 + 1, by omega, by go_num, by rw [show max (m + 1 + 1) 1 = m + 2 by omega], o5, hb4⟩, by simp [intOf]; omega⟩
        · obtain rfl : m = N := by omega
          rw [show max m 1 = m by omega]
          obtain ⟨S, hS⟩ : ∃ S, joinD (longL m j) = S := ⟨_, rfl⟩
          obtain ⟨M, hM⟩ : ∃ M, sizeL (longL m j) = M := ⟨_, rfl⟩
          have hMs : (m : Int) * ((j : Int) + 1) = (M : Int) := by
            rw [← hM, longL_size]
            push_cast
            rfl
          rw [hM] at ho hll
          rw [hS] at hll ⊢
          have hright : rightN S ↔ longOk m j := by rw [← hS]; exact longL_right hn1 hz1
          have hread := long_read hn1 hz1 hz70 (l := wireL (longL m j) ++ [0]) rfl (m := M + 1) (by rw [List.length_append, wireL_length, hM]; rfl)
          rw [hS] at hread
          have hlok : longOk m j ↔ j ≤ 63 ∧ M + 1 ≤ 255 := by unfold longOk; rw [← hM, longL_size]
          have hM9 : M ≤ 9230 := hll.2
          have hS9 : S.length ≤ 9230 := hll.1
          have HO := Lib.hid (And.intro ho hbe)
          have HR := Lib.hid (And.intro hright (And.intro hread hlok))
          have KW := Lib.hid (fun w1 (hb : Below w.heap.size w w1) => write_any (mkS S) (by rw [mkS_size]; omega) (HE.out.later hb (Nat.le_refl _)))
          have KR := Lib.hid (fun w1 (hb : Below w.heap.size w w1) => right_any (mkS S) (by rw [mkS_size]; omega) (HE.out.later hb (Nat.le_refl _)))
          rw [mkS_data] at KW KR
          clear ho hbe hright hread hlok hll hS hM hlt
          go_upto_region 17 with (at_builtin; refine wpList_append_bs rfl (.tmp 52) (.tmp 53) 22 rfl w.heap.size 5 info5 Tryd.underlying22 _ M (wireL (longL m j)) rfl (HO.out.1.alloc _) _ 1 1 [0] rfl (by exact Bs.lit _ [0] 1 rfl (by unfold maxLen; omega) _ rfl _) (by omega) (by have := HO.out.2.size; simp; omega) ?_; intro v3 w3 o3 g3 n3 m3; have H3 := Lib.hid (And.intro o3 g3); clear o3 g3 n3 m3)
          have hb3 : Below w.heap.size w w3 := (HO.out.2.alloc HO.out.2.size _).grown H3.out.2 (by have := HO.out.2.size; simp; omega) (fun q hq => (HO.out.1.lt q hq).1)
          obtain ⟨A3, c3, rfl, hB3⟩ := Bs.of_own H3.out.1
          have hcap := hB3.cap
          have hmax := hB3.max
          unfold maxLen at hmax
          have H4 := Lib.hid (And.intro hB3 hb3)
          clear hb3 hB3
          rcases (show 63 < j ∨ (j ≤ 63 ∧ M + 1 ≤ 255) ∨ (j ≤ 63 ∧ 255 < M + 1) by omega) with d1 | ⟨d1, d2⟩ | ⟨d1, d2⟩
          · have hno : ¬ longOk m j := fun h => by have := HR.out.2.2.1 h; omega
            obtain ⟨cd, pl, hrd, hc1, hc2⟩ := HR.out.2.1.2 hno
            have hcd : cd ≠ 0 := by rcases hc1 with rfl | rfl <;> decide
            have hnr : ¬ rightN S := fun h => hno (HR.out.1.1 h)
            rw [decide_eq_false hnr] at KR
            rw [show writee S = ⟨13, 0, false⟩ from if_neg hnr] at KW
            clear hno hnr hc1 hc2
            go_wp2_with fail
            refine (KW.out w3 H4.out.2).mono ?_
            rintro e w4 ⟨A4, c4, v4, rfl, _, t4, b4⟩
            obtain ⟨T4, x4, rfl⟩ := Tells.held' t4 (show (13 : Int) ≠ 0 by decide)
            have H5 := Lib.hid (And.intro (H4.out.1.later b4 (Nat.le_refl _)) (H4.out.2.trans (b4.mono H4.out.2.size)))
            clear t4 b4
            go_wp2_with fail
            refine (read_no H5.out.1 (by omega) 0 (by omega) hrd hcd).mono ?_
            rintro e w5 ⟨T5, x5, rfl, t5, b5⟩
            have H6 := Lib.hid (And.intro t5 (H5.out.2.trans (b5.mono H5.out.2.size)))
            clear t5 b5
            go_wp2_with fail
            refine (awake12 (HE.out.later H6.out.2 (Nat.le_refl _))).mono ?_
            rintro e w6 ⟨rfl, b6⟩
            have H7 := Lib.hid (H6.out.2.trans (b6.mono H6.out.2.size))
            clear b6
            go_wp2_with fail
            refine (KR.out w6 H7.out).mono ?_
            rintro e w7 ⟨rfl, b7⟩
            have H8 := Lib.hid (H7.out.trans (b7.mono H7.out.size))
            clear b7
            go_wp2_with fail
            go_ret
            exact ⟨rfl, H8.out⟩
          · have hok : longOk m j := HR.out.2.2.2 ⟨d1, d2⟩
            have hrd := HR.out.2.1.1 hok
            have hri := HR.out.1.2 hok
            rw [decide_eq_true hri] at KR
            rw [show writee S = ⟨0, 0, false⟩ from if_pos hri] at KW
            clear hok hri
            go_wp2_with fail
            refine (KW.out w3 H4.out.2).mono ?_
            rintro e w4 ⟨A4, c4, v4, rfl, _, t4, b4⟩
            obtain rfl := Tells.none' t4 rfl
            have H5 := Lib.hid (And.intro (H4.out.1.later b4 (Nat.le_refl _)) (H4.out.2.trans (b4.mono H4.out.2.size)))
            clear t4 b4
            go_wp2_with fail
            refine (read_fine H5.out.1 (by omega) 0 (by omega) hrd).mono ?_
            rintro e w5 ⟨rfl, b5⟩
            have H6 := Lib.hid (H5.out.2.trans (b5.mono H5.out.2.size))
            clear b5
            go_wp2_with fail
            refine (awake12 (HE.out.later H6.out (Nat.le_refl _))).mono ?_
            rintro e w6 ⟨rfl, b6⟩
            have H7 := Lib.hid (H6.out.trans (b6.mono H6.out.size))
            clear b6
            go_wp2_with fail
            refine (KR.out w6 H7.out).mono ?_
            rintro e w7 ⟨rfl, b7⟩
            have H8 := Lib.hid (H7.out.trans (b7.mono H7.out.size))
            clear b7
            go_wp2_with fail
            go_ret
            exact ⟨rfl, H8.out⟩
          · have hno : ¬ longOk m j := fun h => by have := HR.out.2.2.1 h; omega
            obtain ⟨cd, pl, hrd, hc1, hc2⟩ := HR.out.2.1.2 hno
            obtain rfl := hc2 d1
            have hnr : ¬ rightN S := fun h => hno (HR.out.1.1 h)
            rw [decide_eq_false hnr] at KR
            rw [show writee S = ⟨13, 0, false⟩ from if_neg hnr] at KW
            clear hno hnr hc1 hc2
            go_wp2_with fail
            refine (KW.out w3 H4.out.2).mono ?_
            rintro e w4 ⟨A4, c4, v4, rfl, _, t4, b4⟩
            obtain ⟨T4, x4, rfl⟩ := Tells.held' t4 (show (13 : Int) ≠ 0 by decide)
            have H5 := Lib.hid (And.intro (H4.out.1.later b4 (Nat.le_refl _)) (H4.out.2.trans (b4.mono H4.out.2.size)))
            clear t4 b4
            go_wp2_with fail
            refine (read_no H5.out.1 (by omega) 0 (by omega) hrd (by decide)).mono ?_
            rintro e w5 ⟨T5, x5, rfl, t5, b5⟩
            have H6 := Lib.hid (And.intro t5 (H5.out.2.trans (b5.mono H5.out.2.size)))
            clear t5 b5
            go_wp2_with fail
            refine (awake12 (HE.out.later H6.out.2 (Nat.le_refl _))).mono ?_
            rintro e w6 ⟨rfl, b6⟩
            have H7 := Lib.hid (And.intro (H6.out.1.later b6 (Nat.le_refl _)) (H6.out.2.trans (b6.mono H6.out.2.size)))
            clear b6
            go_wp2_with fail
            refine (KR.out w6 H7.out.2).mono ?_
            rintro e w7 ⟨rfl, b7⟩
            have H8 := Lib.hid (And.intro (H7.out.1.later b7 (Nat.le_refl _)) (H7.out.2.trans (b7.mono H7.out.2.size)))
            clear b7
            go_wp2_with fail
            refine (help_code H8.out.1 (show (13 : Int) ≠ 0 by decide) (HG.out.later H8.out.2 (Nat.le_refl _))).mono ?_
            rintro e w8 ⟨rfl, b8⟩
            have H9 := Lib.hid (H8.out.2.trans (b8.mono H8.out.2.size))
            clear b8
            go_wp2_with fail
            go_ret
            exact ⟨rfl, H9.out⟩
end Go.Proofs.YthhfmjdknoplkaaDoor
