/-
  stockadelaw14.DnsmsgRefuses answers true, whatever is handed in. Conditions: errors.errorType holds the handle of the type error; what the program's text has laid (internal/bytealg.MaxLen holds an int).
-/
import Derived.Test.YtbikifaadpijnaaGreatDoorZ49
import Derived.IntWalk
import Derived.Deep.DeepCutAuto
import Derived.Deep.CutBlock
namespace Go.Proofs.YtbikifaadpijnaaGreatDoor
open Go.RowKit
set_option maxRecDepth 100000

/-- What a way leaves. -/
def WayM (g B : Nat) (w : World) (v : Value) (wx : World) : Prop := ∃ (c : Int) (m' : Ms) (aq aa au ae : Sl), v = .int .i64 c ∧ (c = 1 ∨ c = 4) ∧ MsBox wx g m'.h aq aa au ae ∧ MsM 0 wx aq aa au ae m' ∧ MsOk m' ∧ (aq.n ≤ 1000000000000 ∧ aa.n ≤ 1000000000000 ∧ au.n ≤ 1000000000000 ∧ ae.n ≤ 1000000000000) ∧ (writeMe m' = ⟨c, 0, false⟩ ∧ writeMv m' = []) ∧ Below B w wx
set_option maxHeartbeats 16000000 in
theorem dnsmsgRefuses {sq sa su se : Sl} {m : Ms} {w : World} (hm : MsM 0 w sq sa su se m) (ha : ArgM m) (what nn : Int) (hE : Env w) (hg : Handle w) : Calls Tryz.prog 4 #[.agg (msv m.h sq sa su se), .int .i64 what, .int .i64 nn] w fun e w' => e = .returned (.bool true) ∧ Below w.heap.size w w' := by
  have a1 := MsBox.new w m.h sq sa su se
  have b1 : Below w.heap.size w (w.alloc (.cells (msv m.h sq sa su se) 26)) := (Below.refl _ _).alloc (Nat.le_refl _) _
  obtain ⟨W, hW⟩ : ∃ W, w.alloc (.cells (msv m.h sq sa su se) 26) = W := ⟨_, rfl⟩
  rw [hW] at a1 b1
  have HW := Lib.hid hW
  have HA := Lib.hid (And.intro a1 b1)
  have HM := Lib.hid (And.intro hm ha)
  have HE := Lib.hid (And.intro hE hg)
  have hww := a1.lt
  clear a1 b1 hW hm ha hE hg
  obtain ⟨z, hz7, ez⟩ : ∃ z : Int, (z = 0 ∨ z = 1 ∨ z = 2 ∨ z = 3 ∨ z = 4 ∨ z = 5 ∨ z = 6) ∧ (IntKind.u64.wrap what).tmod 7 = z := by
    obtain ⟨k, hk, ek⟩ := tmod_below what (m := 7) (by omega) (by omega)
    exact ⟨(k : Int), by omega, ek⟩
  obtain ⟨p, hp, ep0⟩ := num_below nn (m := 10) (by omega) (by omega)
  have ep : wrap64 ((IntKind.u64.wrap nn).tmod 10) = (p : Int) := ep0
  clear ep0
  go_enter Tryz.func4, Tryz.ntmps4
  go_wp2_with (first
    | (refine wpList_load_ms rfl (.tmp 3) rfl rfl HA.out.1 ?_)
    | (rw [HW.out]))
  refine (playM_own (HM.out.1.later HA.out.2 (Nat.le_refl _)) HM.out.2).mono ?_
  rintro e w2 ⟨tq, ta, tu, te, x, rfl, hx, mx, b2, ext⟩
  have HX := Lib.hid (play_right hx)
  obtain ⟨ba, nha, bu, nhu, be, nhe, bq, ra, ru, re, oq, hzz, hbq⟩ := ext.ex
  have hbe : W.heap.size ≤ be := re.low_
  have hbb : be ≤ bq := hzz.2.2.1
  have hqn : (x.qs.length ≤ 4 ∧ x.ex.length ≤ 8) ∧ tq.n ≤ 1000000000000 ∧ ta.n ≤ 1000000000000 ∧ tu.n ≤ 1000000000000 ∧ te.n ≤ 1000000000000 := by
    have y0 := mx.qs.len
    have y1 := mx.an.len
    have y2 := mx.au.len
    have y3 := mx.ex.len
    have z0 := hx.qs.1
    have z1 := hx.an.1
    have z2 := hx.au.1
    have z3 := hx.ex.1
    exact ⟨⟨by omega, by omega⟩, by omega, by omega, by omega, by omega⟩
  have HQN := Lib.hid hqn
  have HZZ := Lib.hid hzz
  have H2 := Lib.hid (And.intro (HA.out.1.later b2 (Nat.le_refl _)) (And.intro mx (HA.out.2.trans (b2.mono HA.out.2.size))))
  have HR := Lib.hid (And.intro (And.intro ra ru) (And.intro re oq))
  clear b2 mx hx ext ra ru re oq hzz hqn
  go_upto_block 0 with (first
    | (refine wpList_store_ms rfl (.tmp 3) (.tmp 12) rfl x.h tq ta tu te rfl rfl H2.out.1 ?_; intro w3 a3 o3 z3 g3; have H3 := Lib.hid (And.intro a3 (And.intro (show MsM W.heap.size w3 tq ta tu te x from ⟨H2.out.2.1.qs.away fun k hk => o3 k (by omega), H2.out.2.1.an.away fun k hk => o3 k (by omega), H2.out.2.1.au.away fun k hk => o3 k (by omega), H2.out.2.1.ex.away fun k hk => o3 k (by omega)⟩) (g3 _ _ (Nat.le_refl _) H2.out.2.2))); have HR3 := Lib.hid (And.intro (And.intro (HR.out.1.1.away fun k hk => o3 k (by omega)) (HR.out.1.2.away fun k hk => o3 k (by omega))) (And.intro (HR.out.2.1.away fun k hk => o3 k (by omega)) (own_moved HR.out.2.2 fun b hb => o3 b (by have := (World.ownsRow.lt HR.out.2.2 b hb).1; omega)))); have hbq3 := Nat.le_trans hbq (g3 0 _ (Nat.zero_le _) (Below.refl 0 _)).size; clear a3 o3 z3 g3))
  try simp only [Act.put, List.setIfInBounds_toArray, List.set_cons_zero, List.set_cons_succ]
  try simp only [ez]
  clear ez
  go_cut [7] (WayM w.heap.size w.heap.size w)
  case first =>
    rcases hz7 with hz | hz | hz | hz | hz | hz | hz
    all_goals subst hz
    · skip
      --<< w0
      go_wp2_with (refine wpList_putN_ms rfl 3 (.tmp 36) (.const (.int .i64 (65536))) rfl 0 (65536) rfl rfl (by kernel_rfl) { x.h with id := 65536 } H3.out.1 (by decide) rfl ?_; intro w4 a4 o4 g4; have H4 := Lib.hid (And.intro a4 (And.intro (show MsM 0 w4 tq ta tu te ⟨{ x.h with id := 65536 }, x.qs, x.an, x.au, x.ex⟩ from ⟨(H3.out.2.1.qs.away fun k hk => o4 k (by omega)).low (Nat.zero_le _), (H3.out.2.1.an.away fun k hk => o4 k (by omega)).low (Nat.zero_le _), (H3.out.2.1.au.away fun k hk => o4 k (by omega)).low (Nat.zero_le _), (H3.out.2.1.ex.away fun k hk => o4 k (by omega)).low (Nat.zero_le _)⟩) (g4 _ _ (Nat.le_refl _) H3.out.2.2))); clear a4 o4 g4)
      go_meet
      exact ⟨1, ⟨{ x.h with id := 65536 }, x.qs, x.an, x.au, x.ex⟩, tq, ta, tu, te, rfl, Or.inl rfl, H4.out.1, H4.out.2.1, ⟨HX.out.2.2.2.qs, HX.out.2.2.2.rs⟩, HQN.out.2, wr_h (fun h => absurd h.1.2 (show ¬ (65536 : Int) ≤ 65535 by decide)), H4.out.2.2⟩
      -->>
    · skip
      --<< w1
      go_wp2_with (refine wpList_putN_ms rfl 3 (.tmp 39) (.const (.int .i64 (16))) rfl 2 (16) rfl rfl (by kernel_rfl) { x.h with opcode := 16 } H3.out.1 (by decide) rfl ?_; intro w4 a4 o4 g4; have H4 := Lib.hid (And.intro a4 (And.intro (show MsM 0 w4 tq ta tu te ⟨{ x.h with opcode := 16 }, x.qs, x.an, x.au, x.ex⟩ from ⟨(H3.out.2.1.qs.away fun k hk => o4 k (by omega)).low (Nat.zero_le _), (H3.out.2.1.an.away fun k hk => o4 k (by omega)).low (Nat.zero_le _), (H3.out.2.1.au.away fun k hk => o4 k (by omega)).low (Nat.zero_le _), (H3.out.2.1.ex.away fun k hk => o4 k (by omega)).low (Nat.zero_le _)⟩) (g4 _ _ (Nat.le_refl _) H3.out.2.2))); clear a4 o4 g4)
      go_meet
      exact ⟨1, ⟨{ x.h with opcode := 16 }, x.qs, x.an, x.au, x.ex⟩, tq, ta, tu, te, rfl, Or.inl rfl, H4.out.1, H4.out.2.1, ⟨HX.out.2.2.2.qs, HX.out.2.2.2.rs⟩, HQN.out.2, wr_h (fun h => absurd h.2.1.2 (show ¬ (16 : Int) ≤ 15 by decide)), H4.out.2.2⟩
      -->>
    · skip
      --<< w2
      go_wp2_with (refine wpList_putN_ms rfl 3 (.tmp 42) (.const (.int .i64 (-1))) rfl 3 (-1) rfl rfl (by kernel_rfl) { x.h with code := -1 } H3.out.1 (by decide) rfl ?_; intro w4 a4 o4 g4; have H4 := Lib.hid (And.intro a4 (And.intro (show MsM 0 w4 tq ta tu te ⟨{ x.h with code := -1 }, x.qs, x.an, x.au, x.ex⟩ from ⟨(H3.out.2.1.qs.away fun k hk => o4 k (by omega)).low (Nat.zero_le _), (H3.out.2.1.an.away fun k hk => o4 k (by omega)).low (Nat.zero_le _), (H3.out.2.1.au.away fun k hk => o4 k (by omega)).low (Nat.zero_le _), (H3.out.2.1.ex.away fun k hk => o4 k (by omega)).low (Nat.zero_le _)⟩) (g4 _ _ (Nat.le_refl _) H3.out.2.2))); clear a4 o4 g4)
      go_meet
      exact ⟨1, ⟨{ x.h with code := -1 }, x.qs, x.an, x.au, x.ex⟩, tq, ta, tu, te, rfl, Or.inl rfl, H4.out.1, H4.out.2.1, ⟨HX.out.2.2.2.qs, HX.out.2.2.2.rs⟩, HQN.out.2, wr_h (fun h => absurd h.2.2.2.1 (show ¬ (0 : Int) ≤ -1 by decide)), H4.out.2.2⟩
      -->>
    · skip
      --<< w3
      go_wp2_with (refine wpList_putN_ms rfl 3 (.tmp 45) (.const (.int .i64 (128))) rfl 4 (128) rfl rfl (by kernel_rfl) { x.h with flags := 128 } H3.out.1 (by decide) rfl ?_; intro w4 a4 o4 g4; have H4 := Lib.hid (And.intro a4 (And.intro (show MsM 0 w4 tq ta tu te ⟨{ x.h with flags := 128 }, x.qs, x.an, x.au, x.ex⟩ from ⟨(H3.out.2.1.qs.away fun k hk => o4 k (by omega)).low (Nat.zero_le _), (H3.out.2.1.an.away fun k hk => o4 k (by omega)).low (Nat.zero_le _), (H3.out.2.1.au.away fun k hk => o4 k (by omega)).low (Nat.zero_le _), (H3.out.2.1.ex.away fun k hk => o4 k (by omega)).low (Nat.zero_le _)⟩) (g4 _ _ (Nat.le_refl _) H3.out.2.2))); clear a4 o4 g4)
      go_meet
      exact ⟨1, ⟨{ x.h with flags := 128 }, x.qs, x.an, x.au, x.ex⟩, tq, ta, tu, te, rfl, Or.inl rfl, H4.out.1, H4.out.2.1, ⟨HX.out.2.2.2.qs, HX.out.2.2.2.rs⟩, HQN.out.2, wr_h (fun h => absurd h.2.2.1.2 (show ¬ (128 : Int) ≤ 127 by decide)), H4.out.2.2⟩
      -->>
    · skip
      --<< w4
      have k5 : w3.cell? ⟨w.heap.size, 5, none⟩ = some (.slice tq.A tq.n tq.c) := H3.out.1.cell 5
      go_wp2_with (first
        | (refine wpList_lit1 rfl 23 51 (.tmp 50) rfl (qsv qdot) rfl infoQ rfl (by decide) (by decide) Tryz.underlying23 ?_; have b5 : Below w3.heap.size w3 (w3.alloc (.cells (qsv qdot) 51)) := (Below.refl _ _).alloc (Nat.le_refl _) _; have hbq5 := Nat.le_trans hbq3 b5.size; have H5 := Lib.hid (And.intro (And.intro (QsBox.new w3 qdot) (H3.out.1.later b5 (Nat.le_refl _))) (And.intro (H3.out.2.2.trans (b5.mono H3.out.2.2.size)) (And.intro (And.intro (HR3.out.1.1.later b5 (Nat.le_refl _)) (HR3.out.1.2.later b5 (Nat.le_refl _))) (And.intro (HR3.out.2.1.later b5 (Nat.le_refl _)) (own_kept HR3.out.2.2 b5))))); clear b5; generalize w3.alloc (.cells (qsv qdot) 51) = w5 at H5 hbq5 ⊢)
        | (at_builtin; refine wpList_push_qs rfl (.tmp 49) (.tmp 51) rfl bq (.slice tq.A tq.n tq.c) x.qs rfl H5.out.2.2.2.2 rfl H5.out.1.1 (by have := HQN.out.1.1; omega) hbq5 ?_; intro v6 w6 o6 g6; have f6 : ∀ k, k < bq → k < w5.heap.size → w6.heap[k]? = w5.heap[k]? := (fun k h1 h2 => g6.block k h2 (fun e => by have := (World.ownsRow.lt H5.out.2.2.2.2 k e.symm).1; omega)); have b6 := H5.out.2.1.grown g6 H5.out.2.1.size (fun q hq => by have := (World.ownsRow.lt H5.out.2.2.2.2 q hq).1; omega); obtain ⟨A6, c6, rfl, s6⟩ := QsS.of_own o6; obtain ⟨n6, hn6⟩ : ∃ n, (x.qs ++ [qdot]).length = n := ⟨_, rfl⟩; rw [hn6] at s6 ⊢; have HN6 := Lib.hid hn6; have H6 := Lib.hid (And.intro (H5.out.1.2.same (f6 _ (by omega) H5.out.1.2.lt)) (And.intro b6 (And.intro s6 (And.intro (H5.out.2.2.1.1.moved fun k _ h2 h3 => f6 k (by have := HZZ.out.2.2.2.1; omega) h3) (And.intro (H5.out.2.2.1.2.moved fun k _ h2 h3 => f6 k (by have := HZZ.out.2.2.2.2.1; omega) h3) (H5.out.2.2.2.1.moved fun k _ h2 h3 => f6 k (by have := HZZ.out.2.2.2.2.2; omega) h3)))))); clear o6 g6 f6 b6 s6 hn6)
        | (refine wpList_putS_ms rfl 23 (.tmp 53) (.tmp 52) rfl 5 ⟨A6, n6, c6⟩ rfl rfl (by kernel_rfl) H6.out.1 (by decide) (sq' := ⟨A6, n6, c6⟩) (sa' := ta) (su' := tu) (se' := te) rfl ?_; intro w7 a7 o7 g7; have H7 := Lib.hid (And.intro a7 (And.intro (show MsM 0 w7 ⟨A6, n6, c6⟩ ta tu te ⟨x.h, x.qs ++ [qdot], x.an, x.au, x.ex⟩ from ⟨(H6.out.2.2.1.away fun k hk => o7 k (by omega)).low (Nat.zero_le _), ((H6.out.2.2.2.1.away fun k hk => o7 k (by omega)).rcs).low (Nat.zero_le _), ((H6.out.2.2.2.2.1.away fun k hk => o7 k (by omega)).rcs).low (Nat.zero_le _), ((H6.out.2.2.2.2.2.away fun k hk => o7 k (by omega)).rcs).low (Nat.zero_le _)⟩) (g7 _ _ (Nat.le_refl _) H6.out.2.1))); clear a7 o7 g7))
      go_meet
      refine ⟨1, ⟨x.h, x.qs ++ [qdot], x.an, x.au, x.ex⟩, ⟨A6, n6, c6⟩, ta, tu, te, rfl, Or.inl rfl, H7.out.1, H7.out.2.1, ⟨fun q hq => ?_, HX.out.2.2.2.rs⟩, ⟨?_, HQN.out.2.2⟩, wr_q (q := qdot) (by simp) qdot_no, H7.out.2.2⟩
      · rcases List.mem_append.1 hq with h | h
        · exact HX.out.2.2.2.qs q h
        · rw [List.mem_singleton.1 h]; decide
      · have := HQN.out.1.1
        have hn := HN6.out
        rw [List.length_append] at hn
        have hn : x.qs.length + 1 = n6 := hn
        show n6 ≤ _
        omega
      -->>
    · skip
      --<< w5
      have k8 : w3.cell? ⟨w.heap.size, 8, none⟩ = some (.slice te.A te.n te.c) := H3.out.1.cell 8
      obtain ⟨_, ds, hro, hro1, _⟩ := HR3.out.2.1
      have HRO := Lib.hid (And.intro hro hro1)
      clear hro hro1
      go_wp2_with (first
        | (refine wpList_build_rneg rfl rfl ?_)
        | (refine wpList_lit1 rfl 24 57 (.tmp 58) rfl (rcv rneg none 0 0) rfl infoR (rcv_size rneg_ok _ _ _) (by decide) (by decide) Tryz.underlying24 ?_; have b5 : Below w3.heap.size w3 (w3.alloc (.cells (rcv rneg none 0 0) 57)) := (Below.refl _ _).alloc (Nat.le_refl _) _; have hbq5 := Nat.le_trans hbq3 b5.size; have H5 := Lib.hid (And.intro (And.intro (RcBox.new w3 rneg_ok none 0 0) (H3.out.1.later b5 (Nat.le_refl _))) (And.intro (H3.out.2.2.trans (b5.mono H3.out.2.2.size)) (And.intro (And.intro (HR3.out.1.1.later b5 (Nat.le_refl _)) (HR3.out.1.2.later b5 (Nat.le_refl _))) (And.intro (HRO.out.1.later b5) (own_kept HR3.out.2.2 b5))))); clear b5; generalize w3.alloc (.cells (rcv rneg none 0 0) 57) = w5 at H5 hbq5 ⊢)
        | (at_builtin; refine wpList_push_rc rfl (.tmp 57) (.tmp 59) rfl be (.slice te.A te.n te.c) x.ex ds rfl H5.out.2.2.2.1 (d := .zero) rfl H5.out.1.1 (Bs.nil _) (fun h => absurd h (by decide)) (by have := HQN.out.1.2; omega) (by omega) ?_; intro v6 w6 o6 g6; have f6 : ∀ k, (k < be ∨ bq ≤ k) → k < w5.heap.size → w6.heap[k]? = w5.heap[k]? := (fun k h1 h2 => g6.block k h2 (fun e => by have q1 := (World.ownsRow.lt H5.out.2.2.2.1.own k e.symm).1; have q2 := HRO.out.2 k e.symm; have q3 := HZZ.out.2.2.2.2.2; omega)); have b6 := H5.out.2.1.grown g6 H5.out.2.1.size (fun q hq => by have := (World.ownsRow.lt H5.out.2.2.2.1.own q hq).1; omega); obtain ⟨A6, c6, rfl, s6⟩ := RcS.of_own o6 hbe; obtain ⟨n6, hn6⟩ : ∃ n, (x.ex ++ [rneg]).length = n := ⟨_, rfl⟩; rw [hn6] at s6 ⊢; have HN6 := Lib.hid hn6; have H6 := Lib.hid (And.intro (H5.out.1.2.same (f6 _ (by omega) H5.out.1.2.lt)) (And.intro b6 (And.intro s6 (And.intro (H5.out.2.2.1.1.moved fun k _ h2 h3 => f6 k (by have := HZZ.out.1; omega) h3) (And.intro (H5.out.2.2.1.2.moved fun k _ h2 h3 => f6 k (by have := HZZ.out.2.1; omega) h3) (own_moved H5.out.2.2.2.2 fun b hb => f6 b (Or.inr (World.ownsRow.lt H5.out.2.2.2.2 b hb).1) (World.ownsRow.lt H5.out.2.2.2.2 b hb).2)))))); clear o6 g6 f6 b6 s6 hn6)
        | (refine wpList_putS_ms rfl 24 (.tmp 61) (.tmp 60) rfl 8 ⟨A6, n6, c6⟩ rfl rfl (by kernel_rfl) H6.out.1 (by decide) (sq' := tq) (sa' := ta) (su' := tu) (se' := ⟨A6, n6, c6⟩) rfl ?_; intro w7 a7 o7 g7; obtain ⟨A7, c7, e7, s7⟩ := QsS.of_own (own_moved H6.out.2.2.2.2.2 fun b hb => o7 b (by have := (World.ownsRow.lt H6.out.2.2.2.2.2 b hb).1; omega)); have s7 : QsS bq w7 tq.A tq.n tq.c x.qs := (by injection e7 with y1 y2 y3; rw [y1, y2, y3]; exact s7); have H7 := Lib.hid (And.intro a7 (And.intro (show MsM 0 w7 tq ta tu ⟨A6, n6, c6⟩ ⟨x.h, x.qs, x.an, x.au, x.ex ++ [rneg]⟩ from ⟨s7.low (Nat.zero_le _), ((H6.out.2.2.2.1.away fun k hk => o7 k (by omega)).rcs).low (Nat.zero_le _), ((H6.out.2.2.2.2.1.away fun k hk => o7 k (by omega)).rcs).low (Nat.zero_le _), (H6.out.2.2.1.away fun k hk => o7 k (by omega)).low (Nat.zero_le _)⟩) (g7 _ _ (Nat.le_refl _) H6.out.2.1))); clear a7 o7 g7 e7 s7))
      go_meet
      have erc : recs ⟨x.h, x.qs, x.an, x.au, x.ex ++ [rneg]⟩ = recs x ++ [rneg] := by simp [recs]
      refine ⟨1, ⟨x.h, x.qs, x.an, x.au, x.ex ++ [rneg]⟩, tq, ta, tu, ⟨A6, n6, c6⟩, rfl, Or.inl rfl, H7.out.1, H7.out.2.1, ⟨HX.out.2.2.2.qs, fun r hr => ?_⟩, ⟨HQN.out.2.1, HQN.out.2.2.1, HQN.out.2.2.2.1, ?_⟩, wr_r (r := rneg) (by rw [erc]; simp) rneg_no, H7.out.2.2⟩
      · rw [erc] at hr
        rcases List.mem_append.1 hr with h | h
        · exact HX.out.2.2.2.rs r h
        · rw [List.mem_singleton.1 h]; exact ⟨⟨by decide, by decide⟩, by decide, by decide⟩
      · have := HQN.out.1.2
        have hn := HN6.out
        rw [List.length_append] at hn
        have hn : x.ex.length + 1 = n6 := hn
        show n6 ≤ _
        omega
      -->>
    · skip
      --<< w6
      go_wp2_with (refine wpList_store_ms rfl (.tmp 3) (.tmp 16) rfl Mh.zero .zero .zero .zero .zero rfl rfl H3.out.1 ?_; intro w4 a4 o4 z4 g4; have H4 := Lib.hid (And.intro a4 (g4 _ _ (Nat.le_refl _) H3.out.2.2)); clear a4 o4 z4 g4)
      simp only [ep]
      have EP := Lib.hid ep
      clear ep
      go_loopw [8] (fun i wr => ∃ j : Nat, j ≤ 4 + p ∧ i = .int .i64 j ∧ ∃ A c ds, MsBox wr w.heap.size Mh.zero .zero ⟨A, j, c⟩ .zero .zero ∧ RcO (w.heap.size + 1) wr (w.heap.size + 1) (.slice A j c) (List.replicate j r99) ds ∧ Below w.heap.size w wr) (fun i _ => 4 + p - (intOf i).toNat)
      case atStart => exact ⟨0, by omega, rfl, none, 0, [], H4.out.1, RcO.nil _ _ _, H4.out.2⟩
      case round =>
        obtain ⟨j, hj, rfl, A, c, ds, hM, hR, hB⟩ := hrel
        by_cases hjk : j < 4 + p
        · have hS : True := trivial
          replace hM := hM.later (Below.refl _ wr).drew (Nat.le_refl _)
          replace hR := hR.later (Below.refl _ wr).drew
          replace hB := hB.drew
          have hjl : (List.replicate j r99).length ≤ 1000000 := by rw [List.length_replicate]; omega
          have HJL := Lib.hid hjl
          clear hjl
          go_wp2_with fail
          refine rg_begin (fun _ => True) 8 (by kernel_rfl) rfl ?_
          refine rg_take 0 (v := ?rv1) rfl (by kernel_rfl) (by kernel_rfl) (by kernel_rfl) (fun _ _ _ h => h) (by rfl) hS (fun w2 hw2 => ?ry1) ?rr1
          case ry1 => ((try dsimp only at hw2); go_simp <;> with_reducible rfl)
          simp only [Act.put, List.setIfInBounds_toArray, List.set_cons_zero, List.set_cons_succ]
          refine rg_any [1, 2] (by kernel_rfl) (by simp) ?_
          refine rg_or 1 rfl (by rfl) (fun K hK => ?_) ?_
          · have kg : wr.drew.cell? ⟨w.heap.size, 6, none⟩ = some (.slice A j c) := hM.cell 6
            go_simp
            clear kg
            refine hK.out _ _ hS ?_
            clear hK K
            try simp only [Act.put, List.setIfInBounds_toArray, List.set_cons_zero, List.set_cons_succ]
            refine rg_step 2 rfl (by kernel_rfl) (by rfl) (fun K hK => ?_)
            refine wp_make1000 rfl ?_
            intro v1_1 hD bK
            obtain ⟨bm, hbm⟩ : ∃ b, wr.drew.heap.size = b := ⟨_, rfl⟩
            have hne : some bm ≠ (Value.slice A j c).ownBlock := fun e => by have := (World.ownsRow.lt hR.own bm e.symm).2; omega
            have hlo : w.heap.size + 1 ≤ bm := by have := hM.lt; omega
            replace hM := hM.later bK (Nat.le_refl _)
            replace hR := hR.later bK
            replace hB := hB.trans (bK.mono hB.size)
            rw [hbm] at hD ⊢
            clear bK hbm
            refine hK.out _ _ hS ?_
            clear hK K
            try simp only [Act.put, List.setIfInBounds_toArray, List.set_cons_zero, List.set_cons_succ]
            refine rg_step 3 rfl (by kernel_rfl) (by rfl) (fun K hK => ?_)
            refine wp_build_r99 (.tmp 29) rfl rfl ?_
            obtain ⟨Y, hY⟩ : ∃ Y : Value, Value.agg (rcv r99 (some ⟨bm, 0, none⟩) 1000 1000) = Y := ⟨_, rfl⟩
            rw [hY]
            have HY := Lib.hid hY
            clear hY
            refine hK.out _ _ hS ?_
            clear hK K
            try simp only [Act.put, List.setIfInBounds_toArray, List.set_cons_zero, List.set_cons_succ]
            refine rg_step 4 rfl (by kernel_rfl) (by rfl) (fun K hK => ?_)
            refine wp_lit1 24 57 (.tmp 30) rfl (rcv r99 (some ⟨bm, 0, none⟩) 1000 1000) HY.out.symm infoR (rcv_size r99_ok _ _ _) (by decide) (by decide) Tryz.underlying24 ?_
            have bK : Below v1_1.heap.size v1_1 (v1_1.alloc (.cells (rcv r99 (some ⟨bm, 0, none⟩) 1000 1000) 57)) := (Below.refl _ _).alloc (Nat.le_refl _) _
            have hC := RcBox.new v1_1 r99_ok (some ⟨bm, 0, none⟩) 1000 1000
            obtain ⟨v3_1, hu⟩ : ∃ u, v1_1.alloc (.cells (rcv r99 (some ⟨bm, 0, none⟩) 1000 1000) 57) = u := ⟨_, rfl⟩
            rw [hu] at bK hC ⊢
            clear hu
            replace hD := hD.later bK (Nat.le_refl _)
            replace hM := hM.later bK (Nat.le_refl _)
            replace hR := hR.later bK
            replace hB := hB.trans (bK.mono hB.size)
            clear bK
            refine hK.out _ _ hS ?_
            clear hK K
            try simp only [Act.put, List.setIfInBounds_toArray, List.set_cons_zero, List.set_cons_succ]
            refine rg_step 5 rfl (by kernel_rfl) (by rfl) (fun K hK => ?_)
            refine wp_push_rc (.tmp 28) (.tmp 31) rfl (w.heap.size + 1) (.slice A j c) _ ds rfl hR (d := ⟨some ⟨bm, 0, none⟩, 1000, 1000⟩) rfl hC hD (fun _ a ha => by cases ha; exact ⟨hne, hlo⟩) HJL.out hM.lt ?_
            intro v9 u9 R9 g9
            have hsz := (World.ownsRow.lt hR.own)
            have hM9 := hM.same (g9.block w.heap.size hM.lt (fun e => by have := (hsz _ e.symm).1; omega))
            have hB9 := hB.grown g9 hB.size (fun q hq => by have := (hsz q hq).1; omega)
            rw [← List.replicate_succ'] at R9
            obtain ⟨A9, c9, hv9, _⟩ := RcS.of_own R9 (Nat.le_refl _)
            rw [List.length_replicate] at hv9
            subst hv9
            have H9 := Lib.hid (And.intro R9 (And.intro hM9 hB9))
            clear R9 hM9 hB9 hsz g9 hC hD hne hlo
            refine hK.out _ _ hS ?_
            clear hK K
            try simp only [Act.put, List.setIfInBounds_toArray, List.set_cons_zero, List.set_cons_succ]
            refine rg_take 6 (v := ?rv2) rfl (by kernel_rfl) (by kernel_rfl) (by kernel_rfl) (fun _ _ _ h => h) (by rfl) hS (fun w2 hw2 => ?ry2) ?rr2
            case ry2 => ((try dsimp only at hw2); go_simp <;> with_reducible rfl)
            simp only [Act.put, List.setIfInBounds_toArray, List.set_cons_zero, List.set_cons_succ]
            refine rg_step 7 rfl (by kernel_rfl) (by rfl) (fun K hK => ?_)
            refine wp_put_ms 24 (.tmp 33) (.tmp 32) rfl 6 ⟨A9, j + 1, c9⟩ rfl rfl (by kernel_rfl) H9.out.2.1 (by decide) (sq' := .zero) (sa' := ⟨A9, j + 1, c9⟩) (su' := .zero) (se' := .zero) rfl ?_
            intro u10 a10 o10 g10
            have R10 := H9.out.1.moved (fun b hb => o10 b (by have := (World.ownsRow.lt H9.out.1.own b hb).1; omega)) (fun i r s hr hs hn a ha => o10 a.block (by have := ((H9.out.1.dat i r s hr hs).2 hn a ha).2; omega))
            have H10 := Lib.hid (And.intro a10 (And.intro R10 (g10 _ _ (Nat.le_refl _) H9.out.2.2)))
            clear a10 R10 o10 g10
            refine hK.out _ _ hS ?_
            clear hK K
            simp only [Act.put]
            refine rg_done (by kernel_rfl) ?_
            go_wp2_with fail
            refine ⟨⟨j + 1, by omega, by go_num, A9, c9, _, H10.out.1, H10.out.2.1, H10.out.2.2⟩, by simp [intOf]; omega⟩
          refine rg_or 2 rfl (by rfl) (fun K hK => ?_) ?_
          · refine wp_make1000 rfl ?_
            intro v0_0 hD bK
            obtain ⟨bm, hbm⟩ : ∃ b, wr.drew.heap.size = b := ⟨_, rfl⟩
            have hne : some bm ≠ (Value.slice A j c).ownBlock := fun e => by have := (World.ownsRow.lt hR.own bm e.symm).2; omega
            have hlo : w.heap.size + 1 ≤ bm := by have := hM.lt; omega
            replace hM := hM.later bK (Nat.le_refl _)
            replace hR := hR.later bK
            replace hB := hB.trans (bK.mono hB.size)
            rw [hbm] at hD ⊢
            clear bK hbm
            refine hK.out _ _ hS ?_
            clear hK K
            try simp only [Act.put, List.setIfInBounds_toArray, List.set_cons_zero, List.set_cons_succ]
            refine rg_any [1, 3] (by kernel_rfl) (by simp) ?_
            refine rg_or 1 rfl (by rfl) (fun K hK => ?_) ?_
            · have kg : v0_0.cell? ⟨w.heap.size, 6, none⟩ = some (.slice A j c) := hM.cell 6
              go_simp
              clear kg
              refine hK.out _ _ hS ?_
              clear hK K
              try simp only [Act.put, List.setIfInBounds_toArray, List.set_cons_zero, List.set_cons_succ]
              refine rg_step 3 rfl (by kernel_rfl) (by rfl) (fun K hK => ?_)
              refine wp_build_r99 (.tmp 29) rfl rfl ?_
              obtain ⟨Y, hY⟩ : ∃ Y : Value, Value.agg (rcv r99 (some ⟨bm, 0, none⟩) 1000 1000) = Y := ⟨_, rfl⟩
              rw [hY]
              have HY := Lib.hid hY
              clear hY
              refine hK.out _ _ hS ?_
              clear hK K
              try simp only [Act.put, List.setIfInBounds_toArray, List.set_cons_zero, List.set_cons_succ]
              refine rg_step 4 rfl (by kernel_rfl) (by rfl) (fun K hK => ?_)
              refine wp_lit1 24 57 (.tmp 30) rfl (rcv r99 (some ⟨bm, 0, none⟩) 1000 1000) HY.out.symm infoR (rcv_size r99_ok _ _ _) (by decide) (by decide) Tryz.underlying24 ?_
              have bK : Below v0_0.heap.size v0_0 (v0_0.alloc (.cells (rcv r99 (some ⟨bm, 0, none⟩) 1000 1000) 57)) := (Below.refl _ _).alloc (Nat.le_refl _) _
              have hC := RcBox.new v0_0 r99_ok (some ⟨bm, 0, none⟩) 1000 1000
              obtain ⟨v3_1, hu⟩ : ∃ u, v0_0.alloc (.cells (rcv r99 (some ⟨bm, 0, none⟩) 1000 1000) 57) = u := ⟨_, rfl⟩
              rw [hu] at bK hC ⊢
              clear hu
              replace hD := hD.later bK (Nat.le_refl _)
              replace hM := hM.later bK (Nat.le_refl _)
              replace hR := hR.later bK
              replace hB := hB.trans (bK.mono hB.size)
              clear bK
              refine hK.out _ _ hS ?_
              clear hK K
              try simp only [Act.put, List.setIfInBounds_toArray, List.set_cons_zero, List.set_cons_succ]
              refine rg_step 5 rfl (by kernel_rfl) (by rfl) (fun K hK => ?_)
              refine wp_push_rc (.tmp 28) (.tmp 31) rfl (w.heap.size + 1) (.slice A j c) _ ds rfl hR (d := ⟨some ⟨bm, 0, none⟩, 1000, 1000⟩) rfl hC hD (fun _ a ha => by cases ha; exact ⟨hne, hlo⟩) HJL.out hM.lt ?_
              intro v9 u9 R9 g9
              have hsz := (World.ownsRow.lt hR.own)
              have hM9 := hM.same (g9.block w.heap.size hM.lt (fun e => by have := (hsz _ e.symm).1; omega))
              have hB9 := hB.grown g9 hB.size (fun q hq => by have := (hsz q hq).1; omega)
              rw [← List.replicate_succ'] at R9
              obtain ⟨A9, c9, hv9, _⟩ := RcS.of_own R9 (Nat.le_refl _)
              rw [List.length_replicate] at hv9
              subst hv9
              have H9 := Lib.hid (And.intro R9 (And.intro hM9 hB9))
              clear R9 hM9 hB9 hsz g9 hC hD hne hlo
              refine hK.out _ _ hS ?_
              clear hK K
              try simp only [Act.put, List.setIfInBounds_toArray, List.set_cons_zero, List.set_cons_succ]
              refine rg_take 6 (v := ?rv3) rfl (by kernel_rfl) (by kernel_rfl) (by kernel_rfl) (fun _ _ _ h => h) (by rfl) hS (fun w2 hw2 => ?ry3) ?rr3
              case ry3 => ((try dsimp only at hw2); go_simp <;> with_reducible rfl)
              simp only [Act.put, List.setIfInBounds_toArray, List.set_cons_zero, List.set_cons_succ]
              refine rg_step 7 rfl (by kernel_rfl) (by rfl) (fun K hK => ?_)
              refine wp_put_ms 24 (.tmp 33) (.tmp 32) rfl 6 ⟨A9, j + 1, c9⟩ rfl rfl (by kernel_rfl) H9.out.2.1 (by decide) (sq' := .zero) (sa' := ⟨A9, j + 1, c9⟩) (su' := .zero) (se' := .zero) rfl ?_
              intro u10 a10 o10 g10
              have R10 := H9.out.1.moved (fun b hb => o10 b (by have := (World.ownsRow.lt H9.out.1.own b hb).1; omega)) (fun i r s hr hs hn a ha => o10 a.block (by have := ((H9.out.1.dat i r s hr hs).2 hn a ha).2; omega))
              have H10 := Lib.hid (And.intro a10 (And.intro R10 (g10 _ _ (Nat.le_refl _) H9.out.2.2)))
              clear a10 R10 o10 g10
              refine hK.out _ _ hS ?_
              clear hK K
              simp only [Act.put]
              refine rg_done (by kernel_rfl) ?_
              go_wp2_with fail
              refine ⟨⟨j + 1, by omega, by go_num, A9, c9, _, H10.out.1, H10.out.2.1, H10.out.2.2⟩, by simp [intOf]; omega⟩
            refine rg_or 3 rfl (by rfl) (fun K hK => ?_) ?_
            · refine wp_build_r99 (.tmp 29) rfl rfl ?_
              obtain ⟨Y, hY⟩ : ∃ Y : Value, Value.agg (rcv r99 (some ⟨bm, 0, none⟩) 1000 1000) = Y := ⟨_, rfl⟩
              rw [hY]
              have HY := Lib.hid hY
              clear hY
              refine hK.out _ _ hS ?_
              clear hK K
              try simp only [Act.put, List.setIfInBounds_toArray, List.set_cons_zero, List.set_cons_succ]
              refine rg_any [1, 4] (by kernel_rfl) (by simp) ?_
              refine rg_or 1 rfl (by rfl) (fun K hK => ?_) ?_
              · have kg : v0_0.cell? ⟨w.heap.size, 6, none⟩ = some (.slice A j c) := hM.cell 6
                go_simp
                clear kg
                refine hK.out _ _ hS ?_
                clear hK K
                try simp only [Act.put, List.setIfInBounds_toArray, List.set_cons_zero, List.set_cons_succ]
                refine rg_step 4 rfl (by kernel_rfl) (by rfl) (fun K hK => ?_)
                refine wp_lit1 24 57 (.tmp 30) rfl (rcv r99 (some ⟨bm, 0, none⟩) 1000 1000) HY.out.symm infoR (rcv_size r99_ok _ _ _) (by decide) (by decide) Tryz.underlying24 ?_
                have bK : Below v0_0.heap.size v0_0 (v0_0.alloc (.cells (rcv r99 (some ⟨bm, 0, none⟩) 1000 1000) 57)) := (Below.refl _ _).alloc (Nat.le_refl _) _
                have hC := RcBox.new v0_0 r99_ok (some ⟨bm, 0, none⟩) 1000 1000
                obtain ⟨v3_1, hu⟩ : ∃ u, v0_0.alloc (.cells (rcv r99 (some ⟨bm, 0, none⟩) 1000 1000) 57) = u := ⟨_, rfl⟩
                rw [hu] at bK hC ⊢
                clear hu
                replace hD := hD.later bK (Nat.le_refl _)
                replace hM := hM.later bK (Nat.le_refl _)
                replace hR := hR.later bK
                replace hB := hB.trans (bK.mono hB.size)
                clear bK
                refine hK.out _ _ hS ?_
                clear hK K
                try simp only [Act.put, List.setIfInBounds_toArray, List.set_cons_zero, List.set_cons_succ]
                refine rg_step 5 rfl (by kernel_rfl) (by rfl) (fun K hK => ?_)
                refine wp_push_rc (.tmp 28) (.tmp 31) rfl (w.heap.size + 1) (.slice A j c) _ ds rfl hR (d := ⟨some ⟨bm, 0, none⟩, 1000, 1000⟩) rfl hC hD (fun _ a ha => by cases ha; exact ⟨hne, hlo⟩) HJL.out hM.lt ?_
                intro v9 u9 R9 g9
                have hsz := (World.ownsRow.lt hR.own)
                have hM9 := hM.same (g9.block w.heap.size hM.lt (fun e => by have := (hsz _ e.symm).1; omega))
                have hB9 := hB.grown g9 hB.size (fun q hq => by have := (hsz q hq).1; omega)
                rw [← List.replicate_succ'] at R9
                obtain ⟨A9, c9, hv9, _⟩ := RcS.of_own R9 (Nat.le_refl _)
                rw [List.length_replicate] at hv9
                subst hv9
                have H9 := Lib.hid (And.intro R9 (And.intro hM9 hB9))
                clear R9 hM9 hB9 hsz g9 hC hD hne hlo
                refine hK.out _ _ hS ?_
                clear hK K
                try simp only [Act.put, List.setIfInBounds_toArray, List.set_cons_zero, List.set_cons_succ]
                refine rg_take 6 (v := ?rv4) rfl (by kernel_rfl) (by kernel_rfl) (by kernel_rfl) (fun _ _ _ h => h) (by rfl) hS (fun w2 hw2 => ?ry4) ?rr4
                case ry4 => ((try dsimp only at hw2); go_simp <;> with_reducible rfl)
                simp only [Act.put, List.setIfInBounds_toArray, List.set_cons_zero, List.set_cons_succ]
                refine rg_step 7 rfl (by kernel_rfl) (by rfl) (fun K hK => ?_)
                refine wp_put_ms 24 (.tmp 33) (.tmp 32) rfl 6 ⟨A9, j + 1, c9⟩ rfl rfl (by kernel_rfl) H9.out.2.1 (by decide) (sq' := .zero) (sa' := ⟨A9, j + 1, c9⟩) (su' := .zero) (se' := .zero) rfl ?_
                intro u10 a10 o10 g10
                have R10 := H9.out.1.moved (fun b hb => o10 b (by have := (World.ownsRow.lt H9.out.1.own b hb).1; omega)) (fun i r s hr hs hn a ha => o10 a.block (by have := ((H9.out.1.dat i r s hr hs).2 hn a ha).2; omega))
                have H10 := Lib.hid (And.intro a10 (And.intro R10 (g10 _ _ (Nat.le_refl _) H9.out.2.2)))
                clear a10 R10 o10 g10
                refine hK.out _ _ hS ?_
                clear hK K
                simp only [Act.put]
                refine rg_done (by kernel_rfl) ?_
                go_wp2_with fail
                refine ⟨⟨j + 1, by omega, by go_num, A9, c9, _, H10.out.1, H10.out.2.1, H10.out.2.2⟩, by simp [intOf]; omega⟩
              refine rg_or 4 rfl (by rfl) (fun K hK => ?_) ?_
              · refine wp_lit1 24 57 (.tmp 30) rfl (rcv r99 (some ⟨bm, 0, none⟩) 1000 1000) HY.out.symm infoR (rcv_size r99_ok _ _ _) (by decide) (by decide) Tryz.underlying24 ?_
                have bK : Below v0_0.heap.size v0_0 (v0_0.alloc (.cells (rcv r99 (some ⟨bm, 0, none⟩) 1000 1000) 57)) := (Below.refl _ _).alloc (Nat.le_refl _) _
                have hC := RcBox.new v0_0 r99_ok (some ⟨bm, 0, none⟩) 1000 1000
                obtain ⟨v2_0, hu⟩ : ∃ u, v0_0.alloc (.cells (rcv r99 (some ⟨bm, 0, none⟩) 1000 1000) 57) = u := ⟨_, rfl⟩
                rw [hu] at bK hC ⊢
                clear hu
                replace hD := hD.later bK (Nat.le_refl _)
                replace hM := hM.later bK (Nat.le_refl _)
                replace hR := hR.later bK
                replace hB := hB.trans (bK.mono hB.size)
                clear bK
                refine hK.out _ _ hS ?_
                clear hK K
                try simp only [Act.put, List.setIfInBounds_toArray, List.set_cons_zero, List.set_cons_succ]
                refine rg_step 1 rfl (by kernel_rfl) (by rfl) (fun K hK => ?_)
                have kg : v2_0.cell? ⟨w.heap.size, 6, none⟩ = some (.slice A j c) := hM.cell 6
                go_simp
                clear kg
                refine hK.out _ _ hS ?_
                clear hK K
                try simp only [Act.put, List.setIfInBounds_toArray, List.set_cons_zero, List.set_cons_succ]
                refine rg_step 5 rfl (by kernel_rfl) (by rfl) (fun K hK => ?_)
                refine wp_push_rc (.tmp 28) (.tmp 31) rfl (w.heap.size + 1) (.slice A j c) _ ds rfl hR (d := ⟨some ⟨bm, 0, none⟩, 1000, 1000⟩) rfl hC hD (fun _ a ha => by cases ha; exact ⟨hne, hlo⟩) HJL.out hM.lt ?_
                intro v9 u9 R9 g9
                have hsz := (World.ownsRow.lt hR.own)
                have hM9 := hM.same (g9.block w.heap.size hM.lt (fun e => by have := (hsz _ e.symm).1; omega))
                have hB9 := hB.grown g9 hB.size (fun q hq => by have := (hsz q hq).1; omega)
                rw [← List.replicate_succ'] at R9
                obtain ⟨A9, c9, hv9, _⟩ := RcS.of_own R9 (Nat.le_refl _)
                rw [List.length_replicate] at hv9
                subst hv9
                have H9 := Lib.hid (And.intro R9 (And.intro hM9 hB9))
                clear R9 hM9 hB9 hsz g9 hC hD hne hlo
                refine hK.out _ _ hS ?_
                clear hK K
                try simp only [Act.put, List.setIfInBounds_toArray, List.set_cons_zero, List.set_cons_succ]
                refine rg_take 6 (v := ?rv5) rfl (by kernel_rfl) (by kernel_rfl) (by kernel_rfl) (fun _ _ _ h => h) (by rfl) hS (fun w2 hw2 => ?ry5) ?rr5
                case ry5 => ((try dsimp only at hw2); go_simp <;> with_reducible rfl)
                simp only [Act.put, List.setIfInBounds_toArray, List.set_cons_zero, List.set_cons_succ]
                refine rg_step 7 rfl (by kernel_rfl) (by rfl) (fun K hK => ?_)
                refine wp_put_ms 24 (.tmp 33) (.tmp 32) rfl 6 ⟨A9, j + 1, c9⟩ rfl rfl (by kernel_rfl) H9.out.2.1 (by decide) (sq' := .zero) (sa' := ⟨A9, j + 1, c9⟩) (su' := .zero) (se' := .zero) rfl ?_
                intro u10 a10 o10 g10
                have R10 := H9.out.1.moved (fun b hb => o10 b (by have := (World.ownsRow.lt H9.out.1.own b hb).1; omega)) (fun i r s hr hs hn a ha => o10 a.block (by have := ((H9.out.1.dat i r s hr hs).2 hn a ha).2; omega))
                have H10 := Lib.hid (And.intro a10 (And.intro R10 (g10 _ _ (Nat.le_refl _) H9.out.2.2)))
                clear a10 R10 o10 g10
                refine hK.out _ _ hS ?_
                clear hK K
                simp only [Act.put]
                refine rg_done (by kernel_rfl) ?_
                go_wp2_with fail
                refine ⟨⟨j + 1, by omega, by go_num, A9, c9, _, H10.out.1, H10.out.2.1, H10.out.2.2⟩, by simp [intOf]; omega⟩
              exact AllReadyH.nil
            exact AllReadyH.nil
          exact AllReadyH.nil
        · obtain rfl : j = 4 + p := by omega
          have hbig := m99_big (k := 4 + p) (by omega) (by omega)
          have H5 := Lib.hid (And.intro hM (And.intro hR (And.intro hB hbig)))
          clear hM hR hB hbig
          go_wp2_with fail
          go_meet
          obtain ⟨A', c', e, hs⟩ := RcS.of_own H5.out.2.1 (Nat.le_refl _)
          have hs : RcS (w.heap.size + 1) wr A (4 + p) c (List.replicate (4 + p) r99) := by
            injection e with y1 y2 y3
            rw [y1, y3]
            rw [List.length_replicate] at hs
            exact hs
          exact ⟨4, m99 (4 + p), .zero, ⟨A, 4 + p, c⟩, .zero, .zero, rfl, Or.inr rfl, H5.out.1, ⟨QsS.nil _ _, hs.low (Nat.zero_le _), RcS.nil _ _, RcS.nil _ _⟩, H5.out.2.2.2.2.2, ⟨by decide, by show 4 + p ≤ _; omega, by decide, by decide⟩, ⟨H5.out.2.2.2.1, H5.out.2.2.2.2.1⟩, H5.out.2.2.1⟩
      -->>
  case rest =>
  obtain ⟨c, m', aq, aa, au, ae, rfl, hc, hb, hM, hK, hN, ⟨hwe, hwv⟩, hbe'⟩ := hcut
  have KW := writeM_any hM hK hN (Env.later HE.out.1 hbe' (Nat.le_refl _))
  rw [hwe, hwv] at KW
  unfold WriteR at KW
  have KW := Lib.hid KW
  have hc0 : c ≠ 0 := by omega
  have H8 := Lib.hid (And.intro hb hbe')
  clear hc hb hM hK hN hwe hwv hbe' ep hp hz7
  go_wp2_with (refine wpList_load_ms rfl (.tmp 3) rfl rfl H8.out.1 ?_)
  refine KW.out.mono ?_
  rintro e w9 ⟨B, bn, bc, v9, rfl, hB, t9, b9⟩
  obtain ⟨T9, x9, rfl⟩ := Tells.held' t9 hc0
  obtain rfl : bn = 0 := hB.len.symm
  have H9 := Lib.hid (And.intro t9 (H8.out.2.trans (b9.mono H8.out.2.size)))
  clear t9 b9 hB KW
  go_wp2_with fail
  refine (awake14 (Env.later HE.out.1 H9.out.2 (Nat.le_refl _)) (Handle.later H9.out.2 (Nat.le_refl _) HE.out.2)).mono ?_
  rintro e w10 ⟨rfl, b10⟩
  have H10 := Lib.hid (And.intro (H9.out.1.later b10 (Nat.le_refl _)) (H9.out.2.trans (b10.mono H9.out.2.size)))
  clear b10
  go_wp2_with fail
  refine (help_bare c _).mono ?_
  rintro e w11 ⟨rfl, b11⟩
  have H11 := Lib.hid (And.intro (H10.out.1.later b11 (Nat.le_refl _)) (H10.out.2.trans (b11.mono H10.out.2.size)))
  clear b11
  go_wp2_with fail
  refine (is_told3 H11.out.1 (Handle.later H11.out.2 (Nat.le_refl _) HE.out.2)).mono ?_
  rintro e w12 ⟨rfl, b12⟩
  have H12 := Lib.hid (H11.out.2.trans (b12.mono H11.out.2.size))
  clear b12
  go_wp2_with fail
  go_ret
  exact ⟨rfl, H12.out⟩
end Go.Proofs.YtbikifaadpijnaaGreatDoor
