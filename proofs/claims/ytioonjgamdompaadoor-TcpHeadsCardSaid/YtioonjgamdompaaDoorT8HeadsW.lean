/-
  stockadelaw08.TcpHeads answers true, whatever is handed in. Conditions: those of the slice; errors.errorType holds the handle of the type error.
-/
import Derived.Test.YtioonjgamdompaaDoorT8Opt
import Derived.Test.YtioonjgamdompaaDoorReg
import Derived.Deep.DeepCutAuto
import Derived.IntWalk
namespace Go.Proofs.YtioonjgamdompaaDoor
open Go.RowKit
set_option maxRecDepth 100000

set_option maxHeartbeats 16000000 in
theorem tcpHeads {B : Option Addr} {m d : Nat} {s : Sg} {w : World} (hp : Bs w B m d s.pay) (hq : 0 ≤ s.seq ∧ s.seq < 4294967296) (hk : 0 ≤ s.ack ∧ s.ack < 4294967296) (fours other : Int) (hg : Handle w) :
    Calls Tryd.prog 5 #[.agg (sgv s B m d), .int .i64 fours, .int .i64 other] w fun e w' => e = .returned (.bool true) ∧ Below w.heap.size w w' := by
  have hm2 := Nat.le_trans hp.cap hp.max
  have hpl := hp.len
  unfold maxLen at hm2
  have HB := Lib.hid (And.intro hp hg)
  clear hp hg
  have s0 := SgBox.new w s B m d
  have b0 : Below w.heap.size w (w.alloc (.cells (sgv s B m d) 28)) := (Below.refl _ _).alloc (Nat.le_refl _) _
  obtain ⟨W, hW⟩ : ∃ W, w.alloc (.cells (sgv s B m d) 28) = W := ⟨_, rfl⟩
  rw [hW] at s0 b0
  have HA := Lib.hid (And.intro s0 b0)
  obtain ⟨sp, dp, seq, ack, fl, pay⟩ := s
  unfold sgv at hW
  dsimp only at hW hq hk hpl
  have HW := Lib.hid hW
  have d0 := s0.cell 0
  have d1 := s0.cell 1
  have d4 := s0.cell 4
  have d5 := s0.cell 5
  dsimp only [sgv] at d0 d1 d4 d5
  simp only [List.getElem?_toArray, List.getElem?_cons_zero, List.getElem?_cons_succ] at d0 d1 d4 d5
  have f0 := s0.frozen 0
  have f1 := s0.frozen 1
  have f4 := s0.frozen 4
  clear s0 b0 hW
  rw [show sgv ⟨sp, dp, seq, ack, fl, pay⟩ B m d = #[.int .i64 sp, .int .i64 dp, .int .u32 seq, .int .u32 ack, .int .i64 fl, .slice B m d] from rfl]
  by_cases hbig : 500 < m
  · have hqd : decide ((500 : Int) < (m : Int)) = true := decide_eq_true (by omega)
    go_enter Tryd.func5, Tryd.ntmps5
    go_wp2_with fail
    rw [HW.out]
    refine (awake08 _).mono ?_
    rintro e w1 ⟨rfl, b1⟩
    have H1 := Lib.hid (HA.out.2.trans (b1.mono HA.out.2.size))
    clear b1
    go_wp2_with fail
    go_ret
    exact ⟨rfl, H1.out⟩
  have hqd : decide ((500 : Int) < (m : Int)) = false := decide_eq_false (by omega)
  obtain ⟨p1, p2⟩ := num_mod8 sp 65536 (by omega) (by omega)
  obtain ⟨p3, p4⟩ := num_mod8 dp 65536 (by omega) (by omega)
  obtain ⟨p5, p6⟩ := num_mod8 fl 64 (by omega) (by omega)
  obtain ⟨p7, p8⟩ := num_mod8 fours 10 (by omega) (by omega)
  obtain ⟨p9, p10⟩ := num_mod8 other 16 (by omega) (by omega)
  go_enter Tryd.func5, Tryd.ntmps5
  go_upto_region 3 with fail
  rw [HW.out]
  go_upto_region 5 with fail
  clear d0 d1 d4 d5 f0 f1 f4
  generalize wrap64 ((IntKind.u64.wrap sp).tmod 65536) = sp1 at p1 p2 ⊢
  generalize wrap64 ((IntKind.u64.wrap dp).tmod 65536) = dp1 at p3 p4 ⊢
  generalize wrap64 ((IntKind.u64.wrap fl).tmod 64) = fl1 at p5 p6 ⊢
  generalize wrap64 ((IntKind.u64.wrap fours).tmod 10) = fr at p7 p8 ⊢
  generalize wrap64 ((IntKind.u64.wrap other).tmod 16) = oth at p9 p10 ⊢
  obtain ⟨fn, rfl⟩ := Int.eq_ofNat_of_zero_le p7
  obtain ⟨zn, rfl⟩ := Int.eq_ofNat_of_zero_le p9
  have x1 := ((HA.out.1.putSp sp1).putDp dp1).putFl fl1
  have hB := ((HA.out.2.setCell (p := ⟨w.heap.size, 0, none⟩) (Nat.le_refl _) (.int .i64 sp1)).setCell (p := ⟨w.heap.size, 1, none⟩) (Nat.le_refl _) (.int .i64 dp1)).setCell (p := ⟨w.heap.size, 4, none⟩) (Nat.le_refl _) (.int .i64 fl1)
  generalize ((W.setCell ⟨w.heap.size, 0, none⟩ (.int .i64 sp1)).setCell ⟨w.heap.size, 1, none⟩ (.int .i64 dp1)).setCell ⟨w.heap.size, 4, none⟩ (.int .i64 fl1) = W6 at x1 hB ⊢
  have H4 := Lib.hid (And.intro x1 hB)
  clear x1 hB
  have hmt : mayT ⟨sp1, dp1, seq, ack, fl1, pay⟩ := ⟨⟨p1, by dsimp only; omega⟩, ⟨p3, by dsimp only; omega⟩, ⟨p5, by dsimp only; omega⟩, by dsimp only; omega⟩
  have HM := Lib.hid hmt
  have k3 := fun w1 (b : Below w.heap.size w w1) => build_ok (s := ⟨sp1, dp1, seq, ack, fl1, pay⟩) hmt (HB.out.1.later b (Nat.le_refl _)) hq hk false false (sb := zad) (db := zad) rfl rfl
  obtain ⟨ah, hah⟩ : ∃ ah, aheadL false zad zad 6 (20 + m) = ah := ⟨_, rfl⟩
  rw [hah] at k3
  obtain ⟨N0, hN0⟩ : ∃ N0, 20 + m = N0 := ⟨_, rfl⟩
  rw [hN0] at k3
  have K3 := Lib.hid k3
  have HQ := Lib.hid (And.intro hq hk)
  clear k3 hmt hah hq hk p1 p2 p3 p4 p5 p6
  have u1 : (20 : Int) ≤ (N0 : Int) := by omega
  have HN0 := Lib.hid hN0
  have hN1 : 20 ≤ N0 ∧ N0 ≤ 520 := by omega
  clear hN0
  go_wp2_with (refine wpList_load_sg rfl (.tmp 3) rfl rfl H4.out.1 ?_)
  refine (K3.out _ H4.out.2).mono ?_
  rintro e w7 ⟨A7, c7, rfl, q7, b7⟩
  obtain ⟨xb, xo, rfl, _⟩ := q7.here (by omega)
  have hcap7 := q7.cap
  have u2 : (20 : Int) ≤ (c7 : Int) := by omega
  have H7 := Lib.hid (And.intro (H4.out.1.later b7 (Nat.le_refl _)) (And.intro (q7) (H4.out.2.trans (b7.mono H4.out.2.size))))
  clear q7 b7
  go_wp2_with fail
  refine (awake08 _).mono ?_
  rintro e w8 ⟨rfl, b8⟩
  have H8 := Lib.hid (And.intro (H7.out.1.later b8 (Nat.le_refl _)) (And.intro (H7.out.2.1.later b8 (Nat.le_refl _)) (H7.out.2.2.trans (b8.mono H7.out.2.2.size))))
  clear b8
  go_upto_region 8 with fail
  obtain ⟨NY, hNY⟩ : ∃ NY, NY = 20 + 4 * (fn + 1) + m := ⟨_, rfl⟩
  go_cut [9] (fun s wx => ∃ g cap, s = .slice (some ⟨g, 0, none⟩) NY cap ∧ wx.ownsRow w8.heap.size 5 1 (.slice (some ⟨g, 0, none⟩) NY cap) NY (bv ((tcpB ah ⟨sp1, dp1, seq, ack, fl1, pay⟩).take 20 ++ List.replicate (4 * (fn + 1)) 0 ++ (tcpB ah ⟨sp1, dp1, seq, ack, fl1, pay⟩).drop 20)) ∧ Below w8.heap.size w8 wx)
  case first =>
    have hx20 := H8.out.2.1.first (k := 20) (by omega)
    have HX20 := Lib.hid hx20
    have hNY2 := HN0.out
    have HNY := Lib.hid (show 20 + 4 * (fn + 1) + (N0 - 20) = NY by omega)
    have hl := H8.out.2.1.len
    clear hx20 hNY hNY2
    rcases (show c7 = 20 ∨ ¬ c7 = 20 by omega) with q3 | q3
    · obtain rfl : N0 = 20 := by omega
      obtain rfl : c7 = 20 := q3
      have hp0 := Bs.empty w8 (some ⟨xb, xo, none⟩) (c := 0) (by unfold maxLen; omega) (by simp)
      rw [show ([] : List UInt8) = (tcpB ah ⟨sp1, dp1, seq, ack, fl1, pay⟩).drop 20 from (List.drop_of_length_le (by omega)).symm] at hp0
      have HP := Lib.hid hp0
      clear hp0 hl
      have hS : Below w8.heap.size w8 w8.drew := (Below.refl _ _).drew
      have hD : Below w8.heap.size w8 w8.drew := (Below.refl _ _).drew
      refine rg_begin (fun w' => Below w8.heap.size w8 w') 10 (by kernel_rfl) rfl ?_
      refine rg_take 0 (v := ?rv1) rfl (by kernel_rfl) (by kernel_rfl) (by kernel_rfl) (fun _ _ _ h => h) (by rfl) hS (fun w2 hw2 => ?ry1) ?rr1
      case ry1 => ((try dsimp only at hw2); go_simp <;> with_reducible rfl)
      simp only [Act.put, List.setIfInBounds_toArray, List.set_cons_zero, List.set_cons_succ]
      refine rg_take 3 (v := ?rv2) rfl (by kernel_rfl) (by kernel_rfl) (by kernel_rfl) (fun _ _ _ h => h) (by rfl) hS (fun w2 hw2 => ?ry2) ?rr2
      case ry2 => ((try dsimp only at hw2); go_simp <;> with_reducible rfl)
      simp only [Act.put, List.setIfInBounds_toArray, List.set_cons_zero, List.set_cons_succ]
      refine rg_take 6 (v := ?rv3) rfl (by kernel_rfl) (by kernel_rfl) (by kernel_rfl) (fun _ _ _ h => h) (by rfl) hS (fun w2 hw2 => ?ry3) ?rr3
      case ry3 => ((try dsimp only at hw2); go_simp <;> with_reducible rfl)
      simp only [Act.put, List.setIfInBounds_toArray, List.set_cons_zero, List.set_cons_succ]
      refine rg_take 1 (v := ?rv4) rfl (by kernel_rfl) (by kernel_rfl) (by kernel_rfl) (fun _ _ _ h => h) (by rfl) hS (fun w2 hw2 => ?ry4) ?rr4
      case ry4 => ((try dsimp only at hw2); go_simp <;> with_reducible rfl)
      simp only [Act.put, List.setIfInBounds_toArray, List.set_cons_zero, List.set_cons_succ]
      refine rg_take 4 (v := ?rv5) rfl (by kernel_rfl) (by kernel_rfl) (by kernel_rfl) (fun _ _ _ h => h) (by rfl) hS (fun w2 hw2 => ?ry5) ?rr5
      case ry5 => ((try dsimp only at hw2); go_simp <;> with_reducible rfl)
      simp only [Act.put, List.setIfInBounds_toArray, List.set_cons_zero, List.set_cons_succ]
      refine rg_take 7 (v := ?rv6) rfl (by kernel_rfl) (by kernel_rfl) (by kernel_rfl) (fun _ _ _ h => h) (by rfl) hS (fun w2 hw2 => ?ry6) ?rr6
      case ry6 => ((try dsimp only at hw2); go_simp <;> with_reducible rfl)
      simp only [Act.put, List.setIfInBounds_toArray, List.set_cons_zero, List.set_cons_succ]
      refine rg_step 2 rfl (by kernel_rfl) (by rfl) (fun K hK => ?_)
      refine wp_append_bs (.const (.slice none 0 0)) (.tmp 62) 22 rfl w8.heap.size 5 info5 Tryd.underlying22 _ 0 [] rfl (World.ownsRow_nil _ _ _ _) _ 20 _ _ rfl (HX20.out.later hS (Nat.le_refl _)) (by omega) hS.size ?_
      intro v9 w9 o9 g9 _ _
      replace hS : Below w8.heap.size w8 w9 := hS.grown g9 hS.size (fun x hx => by cases hx)
      clear g9
      refine hK.out _ _ hS ?_
      clear hK K
      try simp only [Act.put, List.setIfInBounds_toArray, List.set_cons_zero, List.set_cons_succ]
      refine rg_step 5 rfl (by kernel_rfl) (by rfl) (fun K hK => ?_)
      refine wp_append_zeros (.tmp 63) (.tmp 65) 22 3 rfl w8.heap.size Tryd.underlying22 Tryd.underlying3 info5 rfl o9 (by omega) (4 * (fn + 1)) (congrArg (Value.int IntKind.i64) (show IntKind.i64.wrap (4 * (1 + (fn : Int))) = ((4 * (fn + 1) : Nat) : Int) by rw [IntKind.wrap_i64]; omega)) (by omega) (by omega) hS.size ?_
      intro v10 w10 o10 g10
      replace hS : Below w8.heap.size w8 w10 := hS.grown g10 hS.size (fun x hx => (o9.lt x hx).1)
      clear o9 g10
      refine hK.out _ _ hS ?_
      clear hK K
      try simp only [Act.put, List.setIfInBounds_toArray, List.set_cons_zero, List.set_cons_succ]
      refine rg_step 8 rfl (by kernel_rfl) (by rfl) (fun K hK => ?_)
      refine wp_append_bs (.tmp 66) (.tmp 68) 22 rfl w8.heap.size 5 info5 Tryd.underlying22 _ _ _ rfl o10 _ _ _ _ rfl (HP.out.later hS (Nat.le_refl _)) (by omega) hS.size ?_
      intro v11 w11 o11 g11 _ _
      replace hS : Below w8.heap.size w8 w11 := hS.grown g11 hS.size (fun x hx => (o10.lt x hx).1)
      clear o10 g11
      rw [List.nil_append] at o11
      replace o11 := owns_n (n' := NY) (by have := HNY.out; omega) o11
      obtain ⟨gy, cy, rfl, _, _⟩ := o11.form (by have := HNY.out; omega)
      refine hK.out _ _ hS ?_
      clear hK K
      try simp only [Act.put, List.setIfInBounds_toArray, List.set_cons_zero, List.set_cons_succ]
      refine rg_take 9 (v := ?rv7) rfl (by kernel_rfl) (by kernel_rfl) (by kernel_rfl) (fun _ _ _ h => h) (by rfl) hS (fun w2 hw2 => ?ry7) ?rr7
      case ry7 => ((try dsimp only at hw2); go_simp <;> with_reducible rfl)
      simp only [Act.put, List.setIfInBounds_toArray, List.set_cons_zero, List.set_cons_succ]
      refine rg_done (by kernel_rfl) ?_
      go_wp2_with fail
      go_meet
      exact ⟨gy, cy, rfl, o11, hS⟩
    · have hcut := H8.out.2.1.cut (i := 20) (k := N0 - 20) (by omega) (A' := some ⟨xb, xo + 20, none⟩) (fun _ => by simp [add_plain]) (by simp)
      rw [List.take_of_length_le (by rw [List.length_drop, hl]; exact Nat.le_refl _)] at hcut
      have HP := Lib.hid hcut
      clear hcut hl
      have hS : Below w8.heap.size w8 w8.drew := (Below.refl _ _).drew
      have hD : Below w8.heap.size w8 w8.drew := (Below.refl _ _).drew
      refine rg_begin (fun w' => Below w8.heap.size w8 w') 10 (by kernel_rfl) rfl ?_
      refine rg_take 0 (v := ?rv8) rfl (by kernel_rfl) (by kernel_rfl) (by kernel_rfl) (fun _ _ _ h => h) (by rfl) hS (fun w2 hw2 => ?ry8) ?rr8
      case ry8 => ((try dsimp only at hw2); go_simp <;> with_reducible rfl)
      simp only [Act.put, List.setIfInBounds_toArray, List.set_cons_zero, List.set_cons_succ]
      refine rg_take 3 (v := ?rv9) rfl (by kernel_rfl) (by kernel_rfl) (by kernel_rfl) (fun _ _ _ h => h) (by rfl) hS (fun w2 hw2 => ?ry9) ?rr9
      case ry9 => ((try dsimp only at hw2); go_simp <;> with_reducible rfl)
      simp only [Act.put, List.setIfInBounds_toArray, List.set_cons_zero, List.set_cons_succ]
      refine rg_take 6 (v := ?rv10) rfl (by kernel_rfl) (by kernel_rfl) (by kernel_rfl) (fun _ _ _ h => h) (by rfl) hS (fun w2 hw2 => ?ry10) ?rr10
      case ry10 => ((try dsimp only at hw2); go_simp <;> with_reducible rfl)
      simp only [Act.put, List.setIfInBounds_toArray, List.set_cons_zero, List.set_cons_succ]
      refine rg_take 1 (v := ?rv11) rfl (by kernel_rfl) (by kernel_rfl) (by kernel_rfl) (fun _ _ _ h => h) (by rfl) hS (fun w2 hw2 => ?ry11) ?rr11
      case ry11 => ((try dsimp only at hw2); go_simp <;> with_reducible rfl)
      simp only [Act.put, List.setIfInBounds_toArray, List.set_cons_zero, List.set_cons_succ]
      refine rg_take 4 (v := ?rv12) rfl (by kernel_rfl) (by kernel_rfl) (by kernel_rfl) (fun _ _ _ h => h) (by rfl) hS (fun w2 hw2 => ?ry12) ?rr12
      case ry12 => ((try dsimp only at hw2); go_simp <;> with_reducible rfl)
      simp only [Act.put, List.setIfInBounds_toArray, List.set_cons_zero, List.set_cons_succ]
      refine rg_take 7 (v := ?rv13) rfl (by kernel_rfl) (by kernel_rfl) (by kernel_rfl) (fun _ _ _ h => h) (by rfl) hS (fun w2 hw2 => ?ry13) ?rr13
      case ry13 => ((try dsimp only at hw2); go_simp <;> with_reducible rfl)
      simp only [Act.put, List.setIfInBounds_toArray, List.set_cons_zero, List.set_cons_succ]
      refine rg_step 2 rfl (by kernel_rfl) (by rfl) (fun K hK => ?_)
      refine wp_append_bs (.const (.slice none 0 0)) (.tmp 62) 22 rfl w8.heap.size 5 info5 Tryd.underlying22 _ 0 [] rfl (World.ownsRow_nil _ _ _ _) _ 20 _ _ rfl (HX20.out.later hS (Nat.le_refl _)) (by omega) hS.size ?_
      intro v9 w9 o9 g9 _ _
      replace hS : Below w8.heap.size w8 w9 := hS.grown g9 hS.size (fun x hx => by cases hx)
      clear g9
      refine hK.out _ _ hS ?_
      clear hK K
      try simp only [Act.put, List.setIfInBounds_toArray, List.set_cons_zero, List.set_cons_succ]
      refine rg_step 5 rfl (by kernel_rfl) (by rfl) (fun K hK => ?_)
      refine wp_append_zeros (.tmp 63) (.tmp 65) 22 3 rfl w8.heap.size Tryd.underlying22 Tryd.underlying3 info5 rfl o9 (by omega) (4 * (fn + 1)) (congrArg (Value.int IntKind.i64) (show IntKind.i64.wrap (4 * (1 + (fn : Int))) = ((4 * (fn + 1) : Nat) : Int) by rw [IntKind.wrap_i64]; omega)) (by omega) (by omega) hS.size ?_
      intro v10 w10 o10 g10
      replace hS : Below w8.heap.size w8 w10 := hS.grown g10 hS.size (fun x hx => (o9.lt x hx).1)
      clear o9 g10
      refine hK.out _ _ hS ?_
      clear hK K
      try simp only [Act.put, List.setIfInBounds_toArray, List.set_cons_zero, List.set_cons_succ]
      refine rg_step 8 rfl (by kernel_rfl) (by rfl) (fun K hK => ?_)
      refine wp_append_bs (.tmp 66) (.tmp 68) 22 rfl w8.heap.size 5 info5 Tryd.underlying22 _ _ _ rfl o10 _ _ _ _ rfl (HP.out.later hS (Nat.le_refl _)) (by omega) hS.size ?_
      intro v11 w11 o11 g11 _ _
      replace hS : Below w8.heap.size w8 w11 := hS.grown g11 hS.size (fun x hx => (o10.lt x hx).1)
      clear o10 g11
      rw [List.nil_append] at o11
      replace o11 := owns_n (n' := NY) (by have := HNY.out; omega) o11
      obtain ⟨gy, cy, rfl, _, _⟩ := o11.form (by have := HNY.out; omega)
      refine hK.out _ _ hS ?_
      clear hK K
      try simp only [Act.put, List.setIfInBounds_toArray, List.set_cons_zero, List.set_cons_succ]
      refine rg_take 9 (v := ?rv14) rfl (by kernel_rfl) (by kernel_rfl) (by kernel_rfl) (fun _ _ _ h => h) (by rfl) hS (fun w2 hw2 => ?ry14) ?rr14
      case ry14 => ((try dsimp only at hw2); go_simp <;> with_reducible rfl)
      simp only [Act.put, List.setIfInBounds_toArray, List.set_cons_zero, List.set_cons_succ]
      refine rg_done (by kernel_rfl) ?_
      go_wp2_with fail
      go_meet
      exact ⟨gy, cy, rfl, o11, hS⟩
  case rest =>
  obtain ⟨gy, cy, rfl, ho, hB⟩ := hcut
  obtain ⟨W9, rfl⟩ : ∃ W9, W9 = wc := ⟨_, rfl⟩
  obtain ⟨Y0, hY0⟩ : ∃ Y0, Y0 = (tcpB ah ⟨sp1, dp1, seq, ack, fl1, pay⟩).take 20 ++ List.replicate (4 * (fn + 1)) 0 ++ (tcpB ah ⟨sp1, dp1, seq, ack, fl1, pay⟩).drop 20 := ⟨_, rfl⟩
  rw [← hY0] at ho
  have HY0 := Lib.hid (And.intro hY0 hNY)
  have hNY2 : 24 ≤ NY ∧ NY ≤ 1000 := by omega
  have u3 : (12 : Int) < (NY : Int) := by omega
  obtain ⟨⟨py, _, hcy⟩, hfy⟩ := own_cell ho (j := 12) (by omega)
  have HO := Lib.hid (And.intro ho hB)
  clear hY0 hNY ho hB
  have u4 : (12 : Int) < (N0 : Int) := by omega
  go_wp2_with fail
  obtain ⟨s1, s2⟩ := own_put HO.out.1 HO.out.2 (Nat.le_refl _) 12 (.int .u8 ((5 + (1 + (fn : Int))) * 16)) (UInt8.ofNat (16 * (5 + (fn + 1)))) (congrArg (Value.int IntKind.u8) (by simp only [UInt8.toNat_ofNat']; omega))
  obtain ⟨_, _, e9, hB9⟩ := Bs.of_own s1
  cases e9
  have H9 := Lib.hid (And.intro (H8.out.1.later s2 (Nat.le_refl _)) (And.intro (H8.out.2.1.later s2 (Nat.le_refl _)) (And.intro (hB9) (H8.out.2.2.trans (s2.mono H8.out.2.2.size)))))
  clear s1 s2 hB9 hcy hfy
  refine (mended_any H9.out.2.2.1 (by omega) false false (sb := zad) (db := zad) rfl rfl).mono ?_
  rintro e w11 ⟨A11, c11, rfl, q11, b11⟩
  have H11 := Lib.hid (And.intro (H9.out.1.later b11 (Nat.le_refl _)) (And.intro (H9.out.2.1.later b11 (Nat.le_refl _)) (And.intro (q11) (H9.out.2.2.2.trans (b11.mono H9.out.2.2.2.size)))))
  clear q11 b11
  go_wp2_with fail
  refine (parse_opts HM.out HQ.out.1 HQ.out.2 ah (f := fn + 1) (by omega) (v := UInt8.ofNat (16 * (5 + (fn + 1)))) (by simp only [UInt8.toNat_ofNat']; omega) HY0.out.1 (by dsimp only; have := HY0.out.2; omega) H11.out.2.2.1).mono ?_
  rintro e w12 ⟨A12, n12, c12, v12, rfl, q12, t12, b12⟩
  obtain rfl := Tells.none' t12 rfl
  have H12 := Lib.hid (And.intro (H11.out.1.later b12 (Nat.le_refl _)) (And.intro (H11.out.2.1.later b12 (Nat.le_refl _)) (And.intro (q12) (H11.out.2.2.2.trans (b12.mono H11.out.2.2.2.size)))))
  clear q12 t12 b12
  go_wp2_with (first
    | (refine wpList_alloc_sg rfl rfl ?_; intro w13 a13 b13 z13; have H13 := Lib.hid (And.intro a13 b13); clear a13 b13 z13)
    | (refine wpList_store_sg rfl (.tmp 10) (.tmp 84) rfl ⟨sp1, dp1, seq, ack, fl1, pay⟩ A12 n12 c12 rfl rfl H13.out.1 ?_; intro w14 a14 o14 z14 b14; have bb := b14 _ _ (Nat.le_refl _) H13.out.2; have H14 := Lib.hid (And.intro (H12.out.1.later bb (Nat.le_refl _)) (And.intro (H12.out.2.1.later bb (Nat.le_refl _)) (And.intro (H12.out.2.2.1.later bb (Nat.le_refl _)) (And.intro (a14) (H12.out.2.2.2.trans (bb.mono H12.out.2.2.2.size)))))); clear a14 o14 z14 b14 bb)
    | (at_builtin; refine wpList_append_bs rfl (.const (.slice none 0 0)) (.tmp 86) 22 rfl w14.heap.size 5 info5 Tryd.underlying22 _ 0 [] rfl (World.ownsRow_nil _ _ _ _) _ N0 c7 _ rfl H14.out.2.1 (by omega) (Nat.le_refl _) ?_; intro v15 w15 o15 g15 _ _; have b15 : Below w14.heap.size w14 w15 := (Below.refl _ w14).grown g15 (Nat.le_refl _) (fun x hx => by cases hx); replace o15 := owns_n (n' := N0) (by omega) o15; rw [List.nil_append] at o15; obtain ⟨gw, cw, rfl, _, _⟩ := o15.form (by omega); obtain ⟨⟨pw, _, hcw⟩, hfw⟩ := own_cell o15 (j := 12) (by omega); obtain ⟨s1, s2⟩ := own_put o15 b15 (Nat.le_refl _) 12 (.int .u8 ((zn : Int) * 16)) (UInt8.ofNat (16 * zn)) (congrArg (Value.int IntKind.u8) (by simp only [UInt8.toNat_ofNat']; omega)); have H15 := Lib.hid (And.intro s1 s2); clear o15 g15 b15 s1 s2))
  obtain ⟨_, _, e15, hB15⟩ := Bs.of_own H15.out.1
  cases e15
  have s16 := H15.out.2
  have H16 := Lib.hid (And.intro (H14.out.1.later s16 (Nat.le_refl _)) (And.intro (H14.out.2.1.later s16 (Nat.le_refl _)) (And.intro (H14.out.2.2.1.later s16 (Nat.le_refl _)) (And.intro (H14.out.2.2.2.1.later s16 (Nat.le_refl _)) (And.intro (hB15) (H14.out.2.2.2.2.trans (s16.mono H14.out.2.2.2.2.size)))))))
  clear hB15 s16 hcw hfw
  refine (mended_any H16.out.2.2.2.2.1 (by omega) false false (sb := zad) (db := zad) rfl rfl).mono ?_
  rintro e w17 ⟨A17, c17, rfl, q17, b17⟩
  have H17 := Lib.hid (And.intro (H16.out.1.later b17 (Nat.le_refl _)) (And.intro (H16.out.2.1.later b17 (Nat.le_refl _)) (And.intro (H16.out.2.2.1.later b17 (Nat.le_refl _)) (And.intro (H16.out.2.2.2.1.later b17 (Nat.le_refl _)) (And.intro (q17) (H16.out.2.2.2.2.2.trans (b17.mono H16.out.2.2.2.2.2.size)))))))
  clear q17 b17
  go_wp2_with fail
  refine (parse_other HM.out ah (f := zn) (v := UInt8.ofNat (16 * zn)) (by simp only [UInt8.toNat_ofNat']; omega) (by dsimp only; have := HN0.out; omega) H17.out.2.2.2.2.1).mono ?_
  rintro e w18 ⟨sg, A18, n18, c18, v18, rfl, t18, b18⟩
  by_cases h5 : zn < 5
  · rw [if_pos (.inl h5)] at t18
    have h5d : decide ((zn : Int) < 5) = true := decide_eq_true (by omega)
    clear h5
    obtain ⟨T18, x18, rfl⟩ := Tells.held' t18 (by simp)
    have H18 := Lib.hid (And.intro (H17.out.1.later b18 (Nat.le_refl _)) (And.intro (H17.out.2.1.later b18 (Nat.le_refl _)) (And.intro (H17.out.2.2.1.later b18 (Nat.le_refl _)) (And.intro (H17.out.2.2.2.1.later b18 (Nat.le_refl _)) (And.intro (t18) (H17.out.2.2.2.2.2.trans (b18.mono H17.out.2.2.2.2.2.size)))))))
    clear t18 b18
    go_wp2_with (first
      | (refine wpList_alloc_sg rfl rfl ?_; intro w19 a19 b19 z19; have H19 := Lib.hid (And.intro a19 b19); clear a19 b19 z19)
      | (refine wpList_store_sg rfl (.tmp 13) (.tmp 101) rfl sg A18 n18 c18 rfl rfl H19.out.1 ?_; intro w20 a20 o20 z20 b20; have bb := b20 _ _ (Nat.le_refl _) H19.out.2; have H20 := Lib.hid (And.intro (H18.out.1.later bb (Nat.le_refl _)) (And.intro (H18.out.2.1.later bb (Nat.le_refl _)) (And.intro (H18.out.2.2.1.later bb (Nat.le_refl _)) (And.intro (H18.out.2.2.2.1.later bb (Nat.le_refl _)) (And.intro (H18.out.2.2.2.2.1.later bb (Nat.le_refl _)) (H18.out.2.2.2.2.2.trans (bb.mono H18.out.2.2.2.2.2.size))))))); clear a20 o20 z20 b20 bb)
      | (refine wpList_load_sg_w (by rfl) (.tmp 10) rfl rfl H20.out.2.2.2.1 ?_)
      | (refine wpList_load_sg_w (by rfl) (.tmp 3) rfl rfl H20.out.1 ?_))
    refine (segment_same (s := ⟨sp1, dp1, seq, ack, fl1, pay⟩) H20.out.2.2.1 (HB.out.1.later H20.out.2.2.2.2.2 (Nat.le_refl _))).mono ?_
    rintro e w21 ⟨rfl, b21⟩
    have H21 := Lib.hid (And.intro (H20.out.1.later b21 (Nat.le_refl _)) (And.intro (H20.out.2.1.later b21 (Nat.le_refl _)) (And.intro (H20.out.2.2.1.later b21 (Nat.le_refl _)) (And.intro (H20.out.2.2.2.1.later b21 (Nat.le_refl _)) (And.intro (H20.out.2.2.2.2.1.later b21 (Nat.le_refl _)) (H20.out.2.2.2.2.2.trans (b21.mono H20.out.2.2.2.2.2.size)))))))
    clear b21
    go_wp2_with fail
    refine (help_at 7 12 _).mono ?_
    rintro e w22 ⟨rfl, b22⟩
    have H22 := Lib.hid (And.intro (H21.out.1.later b22 (Nat.le_refl _)) (And.intro (H21.out.2.1.later b22 (Nat.le_refl _)) (And.intro (H21.out.2.2.1.later b22 (Nat.le_refl _)) (And.intro (H21.out.2.2.2.1.later b22 (Nat.le_refl _)) (And.intro (H21.out.2.2.2.2.1.later b22 (Nat.le_refl _)) (H21.out.2.2.2.2.2.trans (b22.mono H21.out.2.2.2.2.2.size)))))))
    clear b22
    go_wp2_with fail
    refine (is_told3 H22.out.2.2.2.2.1 (Handle.later H22.out.2.2.2.2.2 (Nat.le_refl _) HB.out.2)).mono ?_
    rintro e w23 ⟨rfl, b23⟩
    have H23 := Lib.hid (And.intro (H22.out.1.later b23 (Nat.le_refl _)) (And.intro (H22.out.2.1.later b23 (Nat.le_refl _)) (And.intro (H22.out.2.2.1.later b23 (Nat.le_refl _)) (And.intro (H22.out.2.2.2.1.later b23 (Nat.le_refl _)) (And.intro (H22.out.2.2.2.2.1.later b23 (Nat.le_refl _)) (H22.out.2.2.2.2.2.trans (b23.mono H22.out.2.2.2.2.2.size)))))))
    clear b23
    go_wp2_with fail
    go_ret
    exact ⟨rfl, H23.out.2.2.2.2.2⟩
  have h5d : decide ((zn : Int) < 5) = false := decide_eq_false (by omega)
  by_cases h6 : N0 < 4 * zn
  · rw [if_pos (.inr h6)] at t18
    have h6d : decide ((N0 : Int) < 4 * (zn : Int)) = true := decide_eq_true (by omega)
    clear h5 h6
    obtain ⟨T18, x18, rfl⟩ := Tells.held' t18 (by simp)
    have H18 := Lib.hid (And.intro (H17.out.1.later b18 (Nat.le_refl _)) (And.intro (H17.out.2.1.later b18 (Nat.le_refl _)) (And.intro (H17.out.2.2.1.later b18 (Nat.le_refl _)) (And.intro (H17.out.2.2.2.1.later b18 (Nat.le_refl _)) (And.intro (t18) (H17.out.2.2.2.2.2.trans (b18.mono H17.out.2.2.2.2.2.size)))))))
    clear t18 b18
    go_wp2_with (first
      | (refine wpList_alloc_sg rfl rfl ?_; intro w19 a19 b19 z19; have H19 := Lib.hid (And.intro a19 b19); clear a19 b19 z19)
      | (refine wpList_store_sg rfl (.tmp 13) (.tmp 101) rfl sg A18 n18 c18 rfl rfl H19.out.1 ?_; intro w20 a20 o20 z20 b20; have bb := b20 _ _ (Nat.le_refl _) H19.out.2; have H20 := Lib.hid (And.intro (H18.out.1.later bb (Nat.le_refl _)) (And.intro (H18.out.2.1.later bb (Nat.le_refl _)) (And.intro (H18.out.2.2.1.later bb (Nat.le_refl _)) (And.intro (H18.out.2.2.2.1.later bb (Nat.le_refl _)) (And.intro (H18.out.2.2.2.2.1.later bb (Nat.le_refl _)) (H18.out.2.2.2.2.2.trans (bb.mono H18.out.2.2.2.2.2.size))))))); clear a20 o20 z20 b20 bb)
      | (refine wpList_load_sg_w (by rfl) (.tmp 10) rfl rfl H20.out.2.2.2.1 ?_)
      | (refine wpList_load_sg_w (by rfl) (.tmp 3) rfl rfl H20.out.1 ?_))
    refine (segment_same (s := ⟨sp1, dp1, seq, ack, fl1, pay⟩) H20.out.2.2.1 (HB.out.1.later H20.out.2.2.2.2.2 (Nat.le_refl _))).mono ?_
    rintro e w21 ⟨rfl, b21⟩
    have H21 := Lib.hid (And.intro (H20.out.1.later b21 (Nat.le_refl _)) (And.intro (H20.out.2.1.later b21 (Nat.le_refl _)) (And.intro (H20.out.2.2.1.later b21 (Nat.le_refl _)) (And.intro (H20.out.2.2.2.1.later b21 (Nat.le_refl _)) (And.intro (H20.out.2.2.2.2.1.later b21 (Nat.le_refl _)) (H20.out.2.2.2.2.2.trans (b21.mono H20.out.2.2.2.2.2.size)))))))
    clear b21
    go_wp2_with fail
    refine (help_at 7 12 _).mono ?_
    rintro e w22 ⟨rfl, b22⟩
    have H22 := Lib.hid (And.intro (H21.out.1.later b22 (Nat.le_refl _)) (And.intro (H21.out.2.1.later b22 (Nat.le_refl _)) (And.intro (H21.out.2.2.1.later b22 (Nat.le_refl _)) (And.intro (H21.out.2.2.2.1.later b22 (Nat.le_refl _)) (And.intro (H21.out.2.2.2.2.1.later b22 (Nat.le_refl _)) (H21.out.2.2.2.2.2.trans (b22.mono H21.out.2.2.2.2.2.size)))))))
    clear b22
    go_wp2_with fail
    refine (is_told3 H22.out.2.2.2.2.1 (Handle.later H22.out.2.2.2.2.2 (Nat.le_refl _) HB.out.2)).mono ?_
    rintro e w23 ⟨rfl, b23⟩
    have H23 := Lib.hid (And.intro (H22.out.1.later b23 (Nat.le_refl _)) (And.intro (H22.out.2.1.later b23 (Nat.le_refl _)) (And.intro (H22.out.2.2.1.later b23 (Nat.le_refl _)) (And.intro (H22.out.2.2.2.1.later b23 (Nat.le_refl _)) (And.intro (H22.out.2.2.2.2.1.later b23 (Nat.le_refl _)) (H22.out.2.2.2.2.2.trans (b23.mono H22.out.2.2.2.2.2.size)))))))
    clear b23
    go_wp2_with fail
    go_ret
    exact ⟨rfl, H23.out.2.2.2.2.2⟩
  · rw [if_neg (show ¬ (zn < 5 ∨ N0 < 4 * zn) by omega)] at t18
    have h6d : decide ((N0 : Int) < 4 * (zn : Int)) = false := decide_eq_false (by omega)
    clear h5 h6
    obtain rfl := Tells.none' t18 rfl
    have H18 := Lib.hid (And.intro (H17.out.1.later b18 (Nat.le_refl _)) (And.intro (H17.out.2.1.later b18 (Nat.le_refl _)) (And.intro (H17.out.2.2.1.later b18 (Nat.le_refl _)) (And.intro (H17.out.2.2.2.1.later b18 (Nat.le_refl _)) (H17.out.2.2.2.2.2.trans (b18.mono H17.out.2.2.2.2.2.size))))))
    clear t18 b18
    go_wp2_with (first
      | (refine wpList_alloc_sg rfl rfl ?_; intro w19 a19 b19 z19; have H19 := Lib.hid (And.intro a19 b19); clear a19 b19 z19)
      | (refine wpList_store_sg rfl (.tmp 13) (.tmp 101) rfl sg A18 n18 c18 rfl rfl H19.out.1 ?_; intro w20 a20 o20 z20 b20; have bb := b20 _ _ (Nat.le_refl _) H19.out.2; have H20 := Lib.hid (And.intro (H18.out.1.later bb (Nat.le_refl _)) (And.intro (H18.out.2.1.later bb (Nat.le_refl _)) (And.intro (H18.out.2.2.1.later bb (Nat.le_refl _)) (And.intro (H18.out.2.2.2.1.later bb (Nat.le_refl _)) (H18.out.2.2.2.2.trans (bb.mono H18.out.2.2.2.2.size)))))); clear a20 o20 z20 b20 bb)
      | (refine wpList_load_sg_w (by rfl) (.tmp 10) rfl rfl H20.out.2.2.2.1 ?_)
      | (refine wpList_load_sg_w (by rfl) (.tmp 3) rfl rfl H20.out.1 ?_))
    refine (segment_same (s := ⟨sp1, dp1, seq, ack, fl1, pay⟩) H20.out.2.2.1 (HB.out.1.later H20.out.2.2.2.2 (Nat.le_refl _))).mono ?_
    rintro e w21 ⟨rfl, b21⟩
    have H21 := Lib.hid (And.intro (H20.out.1.later b21 (Nat.le_refl _)) (And.intro (H20.out.2.1.later b21 (Nat.le_refl _)) (And.intro (H20.out.2.2.1.later b21 (Nat.le_refl _)) (And.intro (H20.out.2.2.2.1.later b21 (Nat.le_refl _)) (H20.out.2.2.2.2.trans (b21.mono H20.out.2.2.2.2.size))))))
    clear b21
    go_wp2_with fail
    go_ret
    exact ⟨rfl, H21.out.2.2.2.2⟩
end Go.Proofs.YtioonjgamdompaaDoor
