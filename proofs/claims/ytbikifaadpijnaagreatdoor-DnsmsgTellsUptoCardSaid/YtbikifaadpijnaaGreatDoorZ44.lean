/-
  stockaderef12.ReadRecord: the document's own answer. Conditions: those of the slice; a million bytes at most.
  stockaderef12.WriteRecord: the document's own answer. Conditions: those of the slice; names of 2,000 bytes at most.
-/
import Derived.Test.YtbikifaadpijnaaGreatDoorZ43
import Derived.Test.YtbikifaadpijnaaGreatDoorZ41
namespace Go.Proofs.YtbikifaadpijnaaGreatDoor
open Go.RowKit
set_option maxRecDepth 100000

theorem dataV_fl {l : List UInt8} {n : Nat} {r : Rc} {p k : Nat} (h : (dataV l n r p k).2.code = 0) : (dataV l n r p k).2 = fl0 := by
  unfold dataV at h ⊢
  by_cases h28 : r.kind = 28
  · rw [if_pos h28] at h ⊢
    by_cases hk : k ≠ 16
    · rw [if_pos hk] at h; exact absurd h (by simp)
    · rw [if_neg hk]
  rw [if_neg h28] at h ⊢
  by_cases h1 : r.kind = 1
  · rw [if_pos h1] at h ⊢
    by_cases hk : k ≠ 4
    · rw [if_pos hk] at h; exact absurd h (by simp)
    · rw [if_neg hk]
  rw [if_neg h1] at h ⊢
  by_cases h5 : r.kind = 5
  · rw [if_pos h5] at h ⊢
    by_cases hk : (nameV (readv l n ((p : Int) + 2)) p k).2.code ≠ 0
    · rw [if_pos hk] at h; exact absurd h hk
    · rw [if_neg hk]
  rw [if_neg h5]
/-- What the reference hands back. -/
def RefRr (r : Rr) (w : World) (e : Ending) (w' : World) : Prop := ∃ A' n' c', e = .returned (.tuple #[.agg (rcv r.r A' n' c'), .int .i64 r.next, .agg (flv r.f.code r.f.at_ r.f.placed)]) ∧ Bs w' A' n' c' r.r.data ∧ Ow w.heap.size A' ∧ Below w.heap.size w w'
set_option maxHeartbeats 8000000 in
theorem ref_readR {A : Option Addr} {n c : Nat} {l : List UInt8} {w : World} (hb : Bs w A n c l) (hn : n ≤ 1000000) (at_ : Int) (ha : at_ ≤ 9223372036854775807) : Calls Tryz.prog 56 #[.slice A n c, .int .i64 at_] w (RefRr (readRv l n at_) w) := by
  unfold readRv readRq
  have HB := Lib.hid hb
  have KQ := fun (w1 : World) (hw1 : Below w.heap.size w w1) => ref_readQ (hb.later hw1 (Nat.le_refl _)) hn at_ ha
  have hnx := readQ_next (l := l) (n := n) (at_ := at_)
  obtain ⟨d, hd⟩ : ∃ d, readQv l n at_ = d := ⟨_, rfl⟩
  rw [hd] at KQ hnx ⊢
  obtain ⟨q, nx, ⟨fc, fa, fp⟩⟩ := d
  dsimp only at hnx ⊢
  obtain ⟨Z, hZ⟩ : ∃ Z, Value.agg (rcv .zero none 0 0) = Z := ⟨_, rfl⟩
  have HZ := Lib.hid hZ
  have KQ := Lib.hid (show ∀ w1, Below w.heap.size w w1 → Calls Tryz.prog 24 #[.slice A n c, .int .i64 at_] w1 fun e w' => e = .returned (.tuple #[.agg (qsv q), .int .i64 nx, .agg (flv fc fa fp)]) ∧ Below w1.heap.size w1 w' from KQ)
  have hcap := hb.cap
  have hmax := hb.max
  unfold maxLen at hmax
  clear hd hZ hb
  unfold RefRr
  by_cases hc : fc = 0
  case neg =>
    rw [if_pos hc]
    have hcb : (fc != 0) = true := by rw [bne_iff_ne]; exact hc
    clear hnx
    go_enter Tryz.func56, Tryz.ntmps56
    go_wp2_with (first
      | (refine wpList_alloc_rc rfl rfl ?_; intro w1 a1 b1 z1; have H1 := Lib.hid (And.intro a1 b1); clear a1 b1 z1)
      | (refine wpList_alloc_fl rfl rfl ?_; intro w2 a2 b2 z2; have H2 := Lib.hid (And.intro (H1.out.1.later b2 (Nat.le_refl _)) (And.intro a2 (H1.out.2.trans (b2.mono H1.out.2.size)))); have HG1 := Lib.hid H1.out.1.lt; clear a2 b2 z2))
    refine (KQ.out w2 H2.out.2.2).mono ?_
    rintro e w3 ⟨rfl, b3⟩
    have H3 := Lib.hid (And.intro (H2.out.1.later b3 (Nat.le_refl _)) (And.intro (H2.out.2.1.later b3 (Nat.le_refl _)) (H2.out.2.2.trans (b3.mono H2.out.2.2.size))))
    have HG2 := Lib.hid H3.out.2.1.lt
    clear b3
    go_wp2_with (first
      | (refine wpList_store_fl rfl (.tmp 9) (.tmp 19) rfl fc fa fp rfl rfl H6.out.2.2.2.1 ?_; intro w7 a7 o7 z7 g7; have H7 := Lib.hid (And.intro (H6.out.1.same (o7 _ (Nat.ne_of_lt (Nat.lt_trans HG1.out (Nat.lt_trans HG2.out HG3.out))))) (And.intro (H6.out.2.1.same (o7 _ (Nat.ne_of_lt (Nat.lt_trans HG2.out HG3.out)))) (And.intro (H6.out.2.2.1.same (o7 _ (Nat.ne_of_lt HG3.out))) (And.intro a7 (g7 w.heap.size w (Nat.le_of_lt (Nat.lt_trans HG1.out (Nat.lt_trans HG2.out HG3.out))) H6.out.2.2.2.2))))); have e0 := fl_head a7; clear a7 o7 z7 g7)
      | (refine wpList_store_qs rfl (.tmp 7) (.tmp 17) rfl q rfl rfl H5.out.2.2.1 ?_; intro w6 a6 o6 z6 g6; have H6 := Lib.hid (And.intro (H5.out.1.same (o6 _ (Nat.ne_of_lt (Nat.lt_trans HG1.out HG2.out)))) (And.intro (H5.out.2.1.same (o6 _ (Nat.ne_of_lt HG2.out))) (And.intro a6 (And.intro (H5.out.2.2.2.1.same (o6 _ (Ne.symm (Nat.ne_of_lt HG3.out)))) (g6 w.heap.size w (Nat.le_of_lt (Nat.lt_trans HG1.out HG2.out)) H5.out.2.2.2.2))))); clear a6 o6 z6 g6)
      | (refine wpList_alloc_fl rfl rfl ?_; intro w5 a5 b5 z5; have H5 := Lib.hid (And.intro (H4.out.1.later b5 (Nat.le_refl _)) (And.intro (H4.out.2.1.later b5 (Nat.le_refl _)) (And.intro (H4.out.2.2.1.later b5 (Nat.le_refl _)) (And.intro a5 (H4.out.2.2.2.trans (b5.mono H4.out.2.2.2.size)))))); have HG3 := Lib.hid H4.out.2.2.1.lt; clear a5 b5 z5)
      | (refine wpList_alloc_qs rfl rfl ?_; intro w4 a4 b4 z4; have H4 := Lib.hid (And.intro (H3.out.1.later b4 (Nat.le_refl _)) (And.intro (H3.out.2.1.later b4 (Nat.le_refl _)) (And.intro a4 (H3.out.2.2.trans (b4.mono H3.out.2.2.size))))); clear a4 b4 z4))
    have hS : FlBox w7.drew (w4.heap.size) fc fa fp := H7.out.2.2.2.1
    refine rg_begin (fun w' => FlBox w' (w4.heap.size) fc fa fp) 5 (by kernel_rfl) rfl ?_
    refine rg_load 1 rfl (by kernel_rfl) (by kernel_rfl) (by kernel_rfl) (w4.heap.size) (0) ((flv fc fa fp)) (fun _ _ _ h => h) (by rfl) 36 (.tmp 9) rfl rfl hS (fun w2 h2 => (FlBox.range h2)) Tryz.underlying36 rfl (fl_size _ _ _) ?_
    simp only [Act.put, List.setIfInBounds_toArray, List.set_cons_zero, List.set_cons_succ]
    refine rg_step 0 rfl (by kernel_rfl) (by rfl) (fun K hK => ?_)
    refine wp_build_rcZ Z HZ.out rfl ?_
    refine hK.out _ _ hS ?_
    clear hK K
    try simp only [Act.put, List.setIfInBounds_toArray, List.set_cons_zero, List.set_cons_succ]
    refine rg_step 2 rfl (by kernel_rfl) (by rfl) (fun K hK => ?_)
    refine wp_store_rc (.tmp 4) (.tmp 23) rfl .zero none 0 0 rfl HZ.out.symm Rc.zero_ok (H7.out.1) ?_
    intro x4 a4 o4 z4 g4
    clear z4
    replace hS : FlBox x4 (w4.heap.size) fc fa fp := FlBox.same hS (o4 _ (Ne.symm (Nat.ne_of_lt (Nat.lt_trans HG1.out (Nat.lt_trans HG2.out HG3.out)))))
    have HX4 := Lib.hid (And.intro a4 (And.intro (FlBox.same (H7.out.2.1) (o4 _ (Ne.symm (Nat.ne_of_lt HG1.out)))) (g4 w.heap.size w (Nat.le_refl _) (Below.drew (H7.out.2.2.2.2)))))
    clear a4 o4 g4
    refine hK.out _ _ hS ?_
    clear hK K
    simp only [Act.put]
    refine rg_take 3 (v := ?rv1) rfl (by kernel_rfl) (by kernel_rfl) (by kernel_rfl) (fun _ _ _ h => h) (by rfl) hS (fun w2 hw2 => ?ry1) ?rr1
    case ry1 => ((try dsimp only at hw2); go_simp <;> with_reducible rfl)
    simp only [Act.put, List.setIfInBounds_toArray, List.set_cons_zero, List.set_cons_succ]
    refine rg_step 4 rfl (by kernel_rfl) (by rfl) (fun K hK => ?_)
    refine wp_store_flF (.tmp 6) (.tmp 24) rfl (fc) (fa) (fp) rfl rfl HX4.out.2.1 ?_
    intro x5 a5 o5 g5
    replace hS : FlBox x5 (w4.heap.size) fc fa fp := FlBox.same hS (o5 _ (Ne.symm (Nat.ne_of_lt (Nat.lt_trans HG2.out HG3.out))))
    have HX5 := Lib.hid (And.intro (RcBox.same HX4.out.1 (o5 _ (Ne.symm (Ne.symm (Nat.ne_of_lt HG1.out))))) (And.intro a5 (g5 w.heap.size w (Nat.le_of_lt HG1.out) HX4.out.2.2)))
    clear a5 o5 g5
    refine hK.out _ _ hS ?_
    clear hK K
    simp only [Act.put]
    refine rg_done (by kernel_rfl) ?_
    go_wp2_with fail
    exact bodyPost_ret (results_rcF _ rfl rfl rfl HX5.out.1 HX5.out.2.1) rfl ⟨none, 0, 0, rfl, Bs.nil _, ow_none _, HX5.out.2.2⟩
  rw [if_neg (by rw [hc]; simp)]
  obtain ⟨hle, hf⟩ := hnx hc
  obtain ⟨rfl, rfl, rfl⟩ : fc = 0 ∧ fa = 0 ∧ fp = false := by cases hf; exact ⟨rfl, rfl, rfl⟩
  clear hf hc hnx
  by_cases q4 : n < nx + 4
  case pos =>
    rw [if_pos q4]
    go_enter Tryz.func56, Tryz.ntmps56
    go_wp2_with (first
      | (refine wpList_alloc_rc rfl rfl ?_; intro w1 a1 b1 z1; have H1 := Lib.hid (And.intro a1 b1); clear a1 b1 z1)
      | (refine wpList_alloc_fl rfl rfl ?_; intro w2 a2 b2 z2; have H2 := Lib.hid (And.intro (H1.out.1.later b2 (Nat.le_refl _)) (And.intro a2 (H1.out.2.trans (b2.mono H1.out.2.size)))); have HG1 := Lib.hid H1.out.1.lt; clear a2 b2 z2))
    refine (KQ.out w2 H2.out.2.2).mono ?_
    rintro e w3 ⟨rfl, b3⟩
    have H3 := Lib.hid (And.intro (H2.out.1.later b3 (Nat.le_refl _)) (And.intro (H2.out.2.1.later b3 (Nat.le_refl _)) (H2.out.2.2.trans (b3.mono H2.out.2.2.size))))
    have HG2 := Lib.hid H3.out.2.1.lt
    clear b3
    go_wp2_with (first
      | (refine wpList_store_fl rfl (.tmp 9) (.tmp 19) rfl 0 0 false rfl rfl H6.out.2.2.2.1 ?_; intro w7 a7 o7 z7 g7; have H7 := Lib.hid (And.intro (H6.out.1.same (o7 _ (Nat.ne_of_lt (Nat.lt_trans HG1.out (Nat.lt_trans HG2.out HG3.out))))) (And.intro (H6.out.2.1.same (o7 _ (Nat.ne_of_lt (Nat.lt_trans HG2.out HG3.out)))) (And.intro (H6.out.2.2.1.same (o7 _ (Nat.ne_of_lt HG3.out))) (And.intro a7 (g7 w.heap.size w (Nat.le_of_lt (Nat.lt_trans HG1.out (Nat.lt_trans HG2.out HG3.out))) H6.out.2.2.2.2))))); have e0 := fl_head a7; clear a7 o7 z7 g7)
      | (refine wpList_store_qs rfl (.tmp 7) (.tmp 17) rfl q rfl rfl H5.out.2.2.1 ?_; intro w6 a6 o6 z6 g6; have H6 := Lib.hid (And.intro (H5.out.1.same (o6 _ (Nat.ne_of_lt (Nat.lt_trans HG1.out HG2.out)))) (And.intro (H5.out.2.1.same (o6 _ (Nat.ne_of_lt HG2.out))) (And.intro a6 (And.intro (H5.out.2.2.2.1.same (o6 _ (Ne.symm (Nat.ne_of_lt HG3.out)))) (g6 w.heap.size w (Nat.le_of_lt (Nat.lt_trans HG1.out HG2.out)) H5.out.2.2.2.2))))); clear a6 o6 z6 g6)
      | (refine wpList_alloc_fl rfl rfl ?_; intro w5 a5 b5 z5; have H5 := Lib.hid (And.intro (H4.out.1.later b5 (Nat.le_refl _)) (And.intro (H4.out.2.1.later b5 (Nat.le_refl _)) (And.intro (H4.out.2.2.1.later b5 (Nat.le_refl _)) (And.intro a5 (H4.out.2.2.2.trans (b5.mono H4.out.2.2.2.size)))))); have HG3 := Lib.hid H4.out.2.2.1.lt; clear a5 b5 z5)
      | (refine wpList_alloc_qs rfl rfl ?_; intro w4 a4 b4 z4; have H4 := Lib.hid (And.intro (H3.out.1.later b4 (Nat.le_refl _)) (And.intro (H3.out.2.1.later b4 (Nat.le_refl _)) (And.intro a4 (H3.out.2.2.trans (b4.mono H3.out.2.2.size))))); clear a4 b4 z4))
    refine (ref32_not (HB.out.later H7.out.2.2.2.2 (Nat.le_refl _)) nx rfl (by omega) q4).mono ?_
    rintro e w10 ⟨z10, rfl, b10⟩
    have H10 := Lib.hid (And.intro (H7.out.1.later b10 (Nat.le_refl _)) (And.intro (H7.out.2.1.later b10 (Nat.le_refl _)) (And.intro (H7.out.2.2.1.later b10 (Nat.le_refl _)) (And.intro (H7.out.2.2.2.1.later b10 (Nat.le_refl _)) (H7.out.2.2.2.2.trans (b10.mono H7.out.2.2.2.2.size))))))
    clear b10
    go_wp2_with (refine wpList_store_fl rfl (.tmp 9) (.tmp 30) rfl 3 nx true rfl rfl H10.out.2.2.2.1 ?_; intro y10 a5 o5 z5 g5; have H11 := Lib.hid (And.intro (H10.out.1.same (o5 _ (Nat.ne_of_lt (Nat.lt_trans HG1.out (Nat.lt_trans HG2.out HG3.out))))) (And.intro (H10.out.2.1.same (o5 _ (Nat.ne_of_lt (Nat.lt_trans HG2.out HG3.out)))) (And.intro (H10.out.2.2.1.same (o5 _ (Nat.ne_of_lt HG3.out))) (And.intro a5 (g5 w.heap.size w (Nat.le_of_lt (Nat.lt_trans HG1.out (Nat.lt_trans HG2.out HG3.out))) H10.out.2.2.2.2))))); have e10 := fl_head a5; clear a5 o5 z5 g5)
    have hS : FlBox y10.drew (w4.heap.size) 3 nx true := H11.out.2.2.2.1
    refine rg_begin (fun w' => FlBox w' (w4.heap.size) 3 nx true) 5 (by kernel_rfl) rfl ?_
    refine rg_load 1 rfl (by kernel_rfl) (by kernel_rfl) (by kernel_rfl) (w4.heap.size) (0) ((flv 3 nx true)) (fun _ _ _ h => h) (by rfl) 36 (.tmp 9) rfl rfl hS (fun w2 h2 => (FlBox.range h2)) Tryz.underlying36 rfl (fl_size _ _ _) ?_
    simp only [Act.put, List.setIfInBounds_toArray, List.set_cons_zero, List.set_cons_succ]
    refine rg_step 0 rfl (by kernel_rfl) (by rfl) (fun K hK => ?_)
    refine wp_build_rcZ Z HZ.out rfl ?_
    refine hK.out _ _ hS ?_
    clear hK K
    try simp only [Act.put, List.setIfInBounds_toArray, List.set_cons_zero, List.set_cons_succ]
    refine rg_step 2 rfl (by kernel_rfl) (by rfl) (fun K hK => ?_)
    refine wp_store_rc (.tmp 4) (.tmp 34) rfl .zero none 0 0 rfl HZ.out.symm Rc.zero_ok (H11.out.1) ?_
    intro x4 a4 o4 z4 g4
    clear z4
    replace hS : FlBox x4 (w4.heap.size) 3 nx true := FlBox.same hS (o4 _ (Ne.symm (Nat.ne_of_lt (Nat.lt_trans HG1.out (Nat.lt_trans HG2.out HG3.out)))))
    have HX4 := Lib.hid (And.intro a4 (And.intro (FlBox.same (H11.out.2.1) (o4 _ (Ne.symm (Nat.ne_of_lt HG1.out)))) (g4 w.heap.size w (Nat.le_refl _) (Below.drew (H11.out.2.2.2.2)))))
    clear a4 o4 g4
    refine hK.out _ _ hS ?_
    clear hK K
    simp only [Act.put]
    refine rg_take 3 (v := ?rv2) rfl (by kernel_rfl) (by kernel_rfl) (by kernel_rfl) (fun _ _ _ h => h) (by rfl) hS (fun w2 hw2 => ?ry2) ?rr2
    case ry2 => ((try dsimp only at hw2); go_simp <;> with_reducible rfl)
    simp only [Act.put, List.setIfInBounds_toArray, List.set_cons_zero, List.set_cons_succ]
    refine rg_step 4 rfl (by kernel_rfl) (by rfl) (fun K hK => ?_)
    refine wp_store_flF (.tmp 6) (.tmp 35) rfl (3) (nx) (true) rfl rfl HX4.out.2.1 ?_
    intro x5 a5 o5 g5
    replace hS : FlBox x5 (w4.heap.size) 3 nx true := FlBox.same hS (o5 _ (Ne.symm (Nat.ne_of_lt (Nat.lt_trans HG2.out HG3.out))))
    have HX5 := Lib.hid (And.intro (RcBox.same HX4.out.1 (o5 _ (Ne.symm (Ne.symm (Nat.ne_of_lt HG1.out))))) (And.intro a5 (g5 w.heap.size w (Nat.le_of_lt HG1.out) HX4.out.2.2)))
    clear a5 o5 g5
    refine hK.out _ _ hS ?_
    clear hK K
    simp only [Act.put]
    refine rg_done (by kernel_rfl) ?_
    go_wp2_with fail
    exact bodyPost_ret (results_rcF _ rfl rfl rfl HX5.out.1 HX5.out.2.1) rfl ⟨none, 0, 0, rfl, Bs.nil _, ow_none _, HX5.out.2.2⟩
  rw [if_neg q4]
  by_cases q6 : n < nx + 6
  case pos =>
    rw [if_pos (show n < nx + 6 + (if n < nx + 6 then 0 else num2 l (nx + 4)) by omega)]
    go_enter Tryz.func56, Tryz.ntmps56
    go_wp2_with (first
      | (refine wpList_alloc_rc rfl rfl ?_; intro w1 a1 b1 z1; have H1 := Lib.hid (And.intro a1 b1); clear a1 b1 z1)
      | (refine wpList_alloc_fl rfl rfl ?_; intro w2 a2 b2 z2; have H2 := Lib.hid (And.intro (H1.out.1.later b2 (Nat.le_refl _)) (And.intro a2 (H1.out.2.trans (b2.mono H1.out.2.size)))); have HG1 := Lib.hid H1.out.1.lt; clear a2 b2 z2))
    refine (KQ.out w2 H2.out.2.2).mono ?_
    rintro e w3 ⟨rfl, b3⟩
    have H3 := Lib.hid (And.intro (H2.out.1.later b3 (Nat.le_refl _)) (And.intro (H2.out.2.1.later b3 (Nat.le_refl _)) (H2.out.2.2.trans (b3.mono H2.out.2.2.size))))
    have HG2 := Lib.hid H3.out.2.1.lt
    clear b3
    go_wp2_with (first
      | (refine wpList_store_fl rfl (.tmp 9) (.tmp 19) rfl 0 0 false rfl rfl H6.out.2.2.2.1 ?_; intro w7 a7 o7 z7 g7; have H7 := Lib.hid (And.intro (H6.out.1.same (o7 _ (Nat.ne_of_lt (Nat.lt_trans HG1.out (Nat.lt_trans HG2.out HG3.out))))) (And.intro (H6.out.2.1.same (o7 _ (Nat.ne_of_lt (Nat.lt_trans HG2.out HG3.out)))) (And.intro (H6.out.2.2.1.same (o7 _ (Nat.ne_of_lt HG3.out))) (And.intro a7 (g7 w.heap.size w (Nat.le_of_lt (Nat.lt_trans HG1.out (Nat.lt_trans HG2.out HG3.out))) H6.out.2.2.2.2))))); have e0 := fl_head a7; clear a7 o7 z7 g7)
      | (refine wpList_store_qs rfl (.tmp 7) (.tmp 17) rfl q rfl rfl H5.out.2.2.1 ?_; intro w6 a6 o6 z6 g6; have H6 := Lib.hid (And.intro (H5.out.1.same (o6 _ (Nat.ne_of_lt (Nat.lt_trans HG1.out HG2.out)))) (And.intro (H5.out.2.1.same (o6 _ (Nat.ne_of_lt HG2.out))) (And.intro a6 (And.intro (H5.out.2.2.2.1.same (o6 _ (Ne.symm (Nat.ne_of_lt HG3.out)))) (g6 w.heap.size w (Nat.le_of_lt (Nat.lt_trans HG1.out HG2.out)) H5.out.2.2.2.2))))); clear a6 o6 z6 g6)
      | (refine wpList_alloc_fl rfl rfl ?_; intro w5 a5 b5 z5; have H5 := Lib.hid (And.intro (H4.out.1.later b5 (Nat.le_refl _)) (And.intro (H4.out.2.1.later b5 (Nat.le_refl _)) (And.intro (H4.out.2.2.1.later b5 (Nat.le_refl _)) (And.intro a5 (H4.out.2.2.2.trans (b5.mono H4.out.2.2.2.size)))))); have HG3 := Lib.hid H4.out.2.2.1.lt; clear a5 b5 z5)
      | (refine wpList_alloc_qs rfl rfl ?_; intro w4 a4 b4 z4; have H4 := Lib.hid (And.intro (H3.out.1.later b4 (Nat.le_refl _)) (And.intro (H3.out.2.1.later b4 (Nat.le_refl _)) (And.intro a4 (H3.out.2.2.trans (b4.mono H3.out.2.2.size))))); clear a4 b4 z4))
    refine (ref32_there (HB.out.later H7.out.2.2.2.2 (Nat.le_refl _)) nx rfl (by omega)).mono ?_
    rintro e w10 ⟨rfl, b10⟩
    have H10 := Lib.hid (And.intro (H7.out.1.later b10 (Nat.le_refl _)) (And.intro (H7.out.2.1.later b10 (Nat.le_refl _)) (And.intro (H7.out.2.2.1.later b10 (Nat.le_refl _)) (And.intro (H7.out.2.2.2.1.later b10 (Nat.le_refl _)) (H7.out.2.2.2.2.trans (b10.mono H7.out.2.2.2.2.size))))))
    clear b10
    go_wp2_with (refine wpList_store_fl rfl (.tmp 9) (.tmp 30) rfl 0 0 false rfl rfl H10.out.2.2.2.1 ?_; intro y10 a5 o5 z5 g5; have H11 := Lib.hid (And.intro (H10.out.1.same (o5 _ (Nat.ne_of_lt (Nat.lt_trans HG1.out (Nat.lt_trans HG2.out HG3.out))))) (And.intro (H10.out.2.1.same (o5 _ (Nat.ne_of_lt (Nat.lt_trans HG2.out HG3.out)))) (And.intro (H10.out.2.2.1.same (o5 _ (Nat.ne_of_lt HG3.out))) (And.intro a5 (g5 w.heap.size w (Nat.le_of_lt (Nat.lt_trans HG1.out (Nat.lt_trans HG2.out HG3.out))) H10.out.2.2.2.2))))); have e10 := fl_head a5; clear a5 o5 z5 g5)
    refine (ref16_not (HB.out.later H11.out.2.2.2.2 (Nat.le_refl _)) (nx + 4) (by omega) (by omega) (by omega)).mono ?_
    rintro e w12 ⟨z12, rfl, b12⟩
    have H12 := Lib.hid (And.intro (H11.out.1.later b12 (Nat.le_refl _)) (And.intro (H11.out.2.1.later b12 (Nat.le_refl _)) (And.intro (H11.out.2.2.1.later b12 (Nat.le_refl _)) (And.intro (H11.out.2.2.2.1.later b12 (Nat.le_refl _)) (H11.out.2.2.2.2.trans (b12.mono H11.out.2.2.2.2.size))))))
    clear b12
    go_wp2_with (refine wpList_store_fl rfl (.tmp 9) (.tmp 42) rfl 3 (nx + 4 : Nat) true rfl rfl H12.out.2.2.2.1 ?_; intro y12 a5 o5 z5 g5; have H13 := Lib.hid (And.intro (H12.out.1.same (o5 _ (Nat.ne_of_lt (Nat.lt_trans HG1.out (Nat.lt_trans HG2.out HG3.out))))) (And.intro (H12.out.2.1.same (o5 _ (Nat.ne_of_lt (Nat.lt_trans HG2.out HG3.out)))) (And.intro (H12.out.2.2.1.same (o5 _ (Nat.ne_of_lt HG3.out))) (And.intro a5 (g5 w.heap.size w (Nat.le_of_lt (Nat.lt_trans HG1.out (Nat.lt_trans HG2.out HG3.out))) H12.out.2.2.2.2))))); have e12 := fl_head a5; clear a5 o5 z5 g5)
    have hS : FlBox y12.drew (w4.heap.size) 3 (nx + 4 : Nat) true := H13.out.2.2.2.1
    refine rg_begin (fun w' => FlBox w' (w4.heap.size) 3 (nx + 4 : Nat) true) 5 (by kernel_rfl) rfl ?_
    refine rg_load 1 rfl (by kernel_rfl) (by kernel_rfl) (by kernel_rfl) (w4.heap.size) (0) ((flv 3 (nx + 4 : Nat) true)) (fun _ _ _ h => h) (by rfl) 36 (.tmp 9) rfl rfl hS (fun w2 h2 => (FlBox.range h2)) Tryz.underlying36 rfl (fl_size _ _ _) ?_
    simp only [Act.put, List.setIfInBounds_toArray, List.set_cons_zero, List.set_cons_succ]
    refine rg_step 0 rfl (by kernel_rfl) (by rfl) (fun K hK => ?_)
    refine wp_build_rcZ Z HZ.out rfl ?_
    refine hK.out _ _ hS ?_
    clear hK K
    try simp only [Act.put, List.setIfInBounds_toArray, List.set_cons_zero, List.set_cons_succ]
    refine rg_step 2 rfl (by kernel_rfl) (by rfl) (fun K hK => ?_)
    refine wp_store_rc (.tmp 4) (.tmp 46) rfl .zero none 0 0 rfl HZ.out.symm Rc.zero_ok (H13.out.1) ?_
    intro x4 a4 o4 z4 g4
    clear z4
    replace hS : FlBox x4 (w4.heap.size) 3 (nx + 4 : Nat) true := FlBox.same hS (o4 _ (Ne.symm (Nat.ne_of_lt (Nat.lt_trans HG1.out (Nat.lt_trans HG2.out HG3.out)))))
    have HX4 := Lib.hid (And.intro a4 (And.intro (FlBox.same (H13.out.2.1) (o4 _ (Ne.symm (Nat.ne_of_lt HG1.out)))) (g4 w.heap.size w (Nat.le_refl _) (Below.drew (H13.out.2.2.2.2)))))
    clear a4 o4 g4
    refine hK.out _ _ hS ?_
    clear hK K
    simp only [Act.put]
    refine rg_take 3 (v := ?rv3) rfl (by kernel_rfl) (by kernel_rfl) (by kernel_rfl) (fun _ _ _ h => h) (by rfl) hS (fun w2 hw2 => ?ry3) ?rr3
    case ry3 => ((try dsimp only at hw2); go_simp <;> with_reducible rfl)
    simp only [Act.put, List.setIfInBounds_toArray, List.set_cons_zero, List.set_cons_succ]
    refine rg_step 4 rfl (by kernel_rfl) (by rfl) (fun K hK => ?_)
    refine wp_store_flF (.tmp 6) (.tmp 47) rfl (3) ((nx + 4 : Nat)) (true) rfl rfl HX4.out.2.1 ?_
    intro x5 a5 o5 g5
    replace hS : FlBox x5 (w4.heap.size) 3 (nx + 4 : Nat) true := FlBox.same hS (o5 _ (Ne.symm (Nat.ne_of_lt (Nat.lt_trans HG2.out HG3.out))))
    have HX5 := Lib.hid (And.intro (RcBox.same HX4.out.1 (o5 _ (Ne.symm (Ne.symm (Nat.ne_of_lt HG1.out))))) (And.intro a5 (g5 w.heap.size w (Nat.le_of_lt HG1.out) HX4.out.2.2)))
    clear a5 o5 g5
    refine hK.out _ _ hS ?_
    clear hK K
    simp only [Act.put]
    refine rg_done (by kernel_rfl) ?_
    go_wp2_with fail
    exact bodyPost_ret (results_rcF _ rfl rfl rfl HX5.out.1 HX5.out.2.1) rfl ⟨none, 0, 0, rfl, Bs.nil _, ow_none _, HX5.out.2.2⟩
  rw [if_neg q6]
  have hkl := num2_lt l (nx + 4)
  obtain ⟨k, hk⟩ : ∃ k, num2 l (nx + 4) = k := ⟨_, rfl⟩
  have hkk := ref16_there (w := w) HB.out (nx + 4) rfl (by omega)
  clear hkk
  have K16 := Lib.hid (fun (w1 : World) (hw1 : Below w.heap.size w w1) (i : Int) (hi : i = (nx + 4 : Nat)) => (ref16_there (HB.out.later hw1 (Nat.le_refl _)) (nx + 4) hi (by omega)))
  rw [hk] at hkl K16 ⊢
  clear hk
  by_cases qk : n < nx + 6 + k
  case pos =>
    rw [if_pos qk]
    have qk2 : (n : Int) - nx - 6 < k := by omega
    go_enter Tryz.func56, Tryz.ntmps56
    go_wp2_with (first
      | (refine wpList_alloc_rc rfl rfl ?_; intro w1 a1 b1 z1; have H1 := Lib.hid (And.intro a1 b1); clear a1 b1 z1)
      | (refine wpList_alloc_fl rfl rfl ?_; intro w2 a2 b2 z2; have H2 := Lib.hid (And.intro (H1.out.1.later b2 (Nat.le_refl _)) (And.intro a2 (H1.out.2.trans (b2.mono H1.out.2.size)))); have HG1 := Lib.hid H1.out.1.lt; clear a2 b2 z2))
    refine (KQ.out w2 H2.out.2.2).mono ?_
    rintro e w3 ⟨rfl, b3⟩
    have H3 := Lib.hid (And.intro (H2.out.1.later b3 (Nat.le_refl _)) (And.intro (H2.out.2.1.later b3 (Nat.le_refl _)) (H2.out.2.2.trans (b3.mono H2.out.2.2.size))))
    have HG2 := Lib.hid H3.out.2.1.lt
    clear b3
    go_wp2_with (first
      | (refine wpList_store_fl rfl (.tmp 9) (.tmp 19) rfl 0 0 false rfl rfl H6.out.2.2.2.1 ?_; intro w7 a7 o7 z7 g7; have H7 := Lib.hid (And.intro (H6.out.1.same (o7 _ (Nat.ne_of_lt (Nat.lt_trans HG1.out (Nat.lt_trans HG2.out HG3.out))))) (And.intro (H6.out.2.1.same (o7 _ (Nat.ne_of_lt (Nat.lt_trans HG2.out HG3.out)))) (And.intro (H6.out.2.2.1.same (o7 _ (Nat.ne_of_lt HG3.out))) (And.intro a7 (g7 w.heap.size w (Nat.le_of_lt (Nat.lt_trans HG1.out (Nat.lt_trans HG2.out HG3.out))) H6.out.2.2.2.2))))); have e0 := fl_head a7; clear a7 o7 z7 g7)
      | (refine wpList_store_qs rfl (.tmp 7) (.tmp 17) rfl q rfl rfl H5.out.2.2.1 ?_; intro w6 a6 o6 z6 g6; have H6 := Lib.hid (And.intro (H5.out.1.same (o6 _ (Nat.ne_of_lt (Nat.lt_trans HG1.out HG2.out)))) (And.intro (H5.out.2.1.same (o6 _ (Nat.ne_of_lt HG2.out))) (And.intro a6 (And.intro (H5.out.2.2.2.1.same (o6 _ (Ne.symm (Nat.ne_of_lt HG3.out)))) (g6 w.heap.size w (Nat.le_of_lt (Nat.lt_trans HG1.out HG2.out)) H5.out.2.2.2.2))))); clear a6 o6 z6 g6)
      | (refine wpList_alloc_fl rfl rfl ?_; intro w5 a5 b5 z5; have H5 := Lib.hid (And.intro (H4.out.1.later b5 (Nat.le_refl _)) (And.intro (H4.out.2.1.later b5 (Nat.le_refl _)) (And.intro (H4.out.2.2.1.later b5 (Nat.le_refl _)) (And.intro a5 (H4.out.2.2.2.trans (b5.mono H4.out.2.2.2.size)))))); have HG3 := Lib.hid H4.out.2.2.1.lt; clear a5 b5 z5)
      | (refine wpList_alloc_qs rfl rfl ?_; intro w4 a4 b4 z4; have H4 := Lib.hid (And.intro (H3.out.1.later b4 (Nat.le_refl _)) (And.intro (H3.out.2.1.later b4 (Nat.le_refl _)) (And.intro a4 (H3.out.2.2.trans (b4.mono H3.out.2.2.size))))); clear a4 b4 z4))
    refine (ref32_there (HB.out.later H7.out.2.2.2.2 (Nat.le_refl _)) nx rfl (by omega)).mono ?_
    rintro e w10 ⟨rfl, b10⟩
    have H10 := Lib.hid (And.intro (H7.out.1.later b10 (Nat.le_refl _)) (And.intro (H7.out.2.1.later b10 (Nat.le_refl _)) (And.intro (H7.out.2.2.1.later b10 (Nat.le_refl _)) (And.intro (H7.out.2.2.2.1.later b10 (Nat.le_refl _)) (H7.out.2.2.2.2.trans (b10.mono H7.out.2.2.2.2.size))))))
    clear b10
    go_wp2_with (refine wpList_store_fl rfl (.tmp 9) (.tmp 30) rfl 0 0 false rfl rfl H10.out.2.2.2.1 ?_; intro y10 a5 o5 z5 g5; have H11 := Lib.hid (And.intro (H10.out.1.same (o5 _ (Nat.ne_of_lt (Nat.lt_trans HG1.out (Nat.lt_trans HG2.out HG3.out))))) (And.intro (H10.out.2.1.same (o5 _ (Nat.ne_of_lt (Nat.lt_trans HG2.out HG3.out)))) (And.intro (H10.out.2.2.1.same (o5 _ (Nat.ne_of_lt HG3.out))) (And.intro a5 (g5 w.heap.size w (Nat.le_of_lt (Nat.lt_trans HG1.out (Nat.lt_trans HG2.out HG3.out))) H10.out.2.2.2.2))))); have e10 := fl_head a5; clear a5 o5 z5 g5)
    refine (K16.out _ H11.out.2.2.2.2 _ (by omega)).mono ?_
    rintro e w12 ⟨rfl, b12⟩
    have H12 := Lib.hid (And.intro (H11.out.1.later b12 (Nat.le_refl _)) (And.intro (H11.out.2.1.later b12 (Nat.le_refl _)) (And.intro (H11.out.2.2.1.later b12 (Nat.le_refl _)) (And.intro (H11.out.2.2.2.1.later b12 (Nat.le_refl _)) (H11.out.2.2.2.2.trans (b12.mono H11.out.2.2.2.2.size))))))
    clear b12
    go_wp2_with (refine wpList_store_fl rfl (.tmp 9) (.tmp 42) rfl 0 0 false rfl rfl H12.out.2.2.2.1 ?_; intro y12 a5 o5 z5 g5; have H13 := Lib.hid (And.intro (H12.out.1.same (o5 _ (Nat.ne_of_lt (Nat.lt_trans HG1.out (Nat.lt_trans HG2.out HG3.out))))) (And.intro (H12.out.2.1.same (o5 _ (Nat.ne_of_lt (Nat.lt_trans HG2.out HG3.out)))) (And.intro (H12.out.2.2.1.same (o5 _ (Nat.ne_of_lt HG3.out))) (And.intro a5 (g5 w.heap.size w (Nat.le_of_lt (Nat.lt_trans HG1.out (Nat.lt_trans HG2.out HG3.out))) H12.out.2.2.2.2))))); have e12 := fl_head a5; clear a5 o5 z5 g5)
    rw [show (nx : Int) + 4 = ((nx + 4 : Nat) : Int) by omega]
    refine (help_at 3 _ _).mono ?_
    rintro e w14 ⟨rfl, b14⟩
    have H14 := Lib.hid (And.intro (H13.out.1.later b14 (Nat.le_refl _)) (And.intro (H13.out.2.1.later b14 (Nat.le_refl _)) (And.intro (H13.out.2.2.1.later b14 (Nat.le_refl _)) (And.intro (H13.out.2.2.2.1.later b14 (Nat.le_refl _)) (H13.out.2.2.2.2.trans (b14.mono H13.out.2.2.2.2.size))))))
    clear b14
    go_wp2_with (first
      | (refine wpList_store_fl rfl (.tmp 6) (.tmp 58) rfl 3 (nx + 4 : Nat) true rfl rfl H15.out.2.1 ?_; intro w16 a16 o16 z16 g16; have H16 := Lib.hid (And.intro (H15.out.1.same (o16 _ (Nat.ne_of_lt HG1.out))) (And.intro a16 (g16 w.heap.size w (Nat.le_of_lt HG1.out) H15.out.2.2))); clear a16 o16 z16 g16)
      | (refine wpList_store_rc rfl (.tmp 4) (.tmp 55) rfl .zero none 0 0 rfl rfl Rc.zero_ok H14.out.1 ?_; intro w15 a15 o15 z15 g15; have H15 := Lib.hid (And.intro a15 (And.intro (H14.out.2.1.same (o15 _ (Ne.symm (Nat.ne_of_lt HG1.out)))) (g15 w.heap.size w (Nat.le_refl _) H14.out.2.2.2.2))); clear a15 o15 z15 g15))
    exact bodyPost_ret (results_rcF _ rfl rfl rfl H16.out.1 H16.out.2.1) rfl ⟨none, 0, 0, rfl, Bs.nil _, ow_none _, H16.out.2.2⟩
  rw [if_neg qk]
  have qk2 : ¬ (n : Int) - nx - 6 < k := by omega
  have KD := fun (w1 : World) (hw1 : Below w.heap.size w w1) => ref_data (HB.out.later hw1 (Nat.le_refl _)) hn q (num4 l nx : Nat) (nx + 4) k (by omega)
  have hfl := dataV_fl (l := l) (n := n) (r := q.asRc (num4 l nx : Nat)) (p := nx + 4) (k := k)
  have hok : (dataV l n (q.asRc (num4 l nx : Nat)) (nx + 4) k).1.ok := dataV_ok l n q _ (nx + 4) k (by rw [List.length_take, List.length_drop, HB.out.len]; omega)
  obtain ⟨x, hx⟩ : ∃ x, dataV l n (q.asRc (num4 l nx : Nat)) (nx + 4) k = x := ⟨_, rfl⟩
  rw [hx] at KD hok hfl ⊢
  clear hx
  obtain ⟨x, ⟨gc, ga, gp⟩⟩ := x
  dsimp only at hok hfl ⊢
  have HOK := Lib.hid hok
  clear hok
  obtain ⟨tv, htv⟩ : ∃ tv : Int, ((num4 l nx : Nat) : Int) = tv := ⟨_, rfl⟩
  have K32 := Lib.hid (fun (w1 : World) (hw1 : Below w.heap.size w w1) (i : Int) (hi : i = (nx : Nat)) => (ref32_there (HB.out.later hw1 (Nat.le_refl _)) nx hi (by omega)))
  rw [htv] at KD K32
  have KD := Lib.hid (show ∀ w1, Below w.heap.size w w1 → Calls Tryz.prog 91 #[.slice A n c, .agg (rcv (q.asRc tv) none 0 0), .int .i64 (((nx + 4 : Nat) : Int) + 2), .int .i64 k] w1 fun e w' => ∃ A' n' c', e = .returned (.tuple #[.agg (rcv x A' n' c'), .agg (flv gc ga gp)]) ∧ Bs w' A' n' c' x.data ∧ Ow w1.heap.size A' ∧ Below w1.heap.size w1 w' from KD)
  clear htv
  by_cases hg : gc = 0
  case neg =>
    rw [if_pos hg]
    have hcb : (gc != 0) = true := by rw [bne_iff_ne]; exact hg
    go_enter Tryz.func56, Tryz.ntmps56
    go_wp2_with (first
      | (refine wpList_alloc_rc rfl rfl ?_; intro w1 a1 b1 z1; have H1 := Lib.hid (And.intro a1 b1); clear a1 b1 z1)
      | (refine wpList_alloc_fl rfl rfl ?_; intro w2 a2 b2 z2; have H2 := Lib.hid (And.intro (H1.out.1.later b2 (Nat.le_refl _)) (And.intro a2 (H1.out.2.trans (b2.mono H1.out.2.size)))); have HG1 := Lib.hid H1.out.1.lt; clear a2 b2 z2))
    refine (KQ.out w2 H2.out.2.2).mono ?_
    rintro e w3 ⟨rfl, b3⟩
    have H3 := Lib.hid (And.intro (H2.out.1.later b3 (Nat.le_refl _)) (And.intro (H2.out.2.1.later b3 (Nat.le_refl _)) (H2.out.2.2.trans (b3.mono H2.out.2.2.size))))
    have HG2 := Lib.hid H3.out.2.1.lt
    clear b3
    go_wp2_with (first
      | (refine wpList_store_fl rfl (.tmp 9) (.tmp 19) rfl 0 0 false rfl rfl H6.out.2.2.2.1 ?_; intro w7 a7 o7 z7 g7; have H7 := Lib.hid (And.intro (H6.out.1.same (o7 _ (Nat.ne_of_lt (Nat.lt_trans HG1.out (Nat.lt_trans HG2.out HG3.out))))) (And.intro (H6.out.2.1.same (o7 _ (Nat.ne_of_lt (Nat.lt_trans HG2.out HG3.out)))) (And.intro (H6.out.2.2.1.same (o7 _ (Nat.ne_of_lt HG3.out))) (And.intro a7 (g7 w.heap.size w (Nat.le_of_lt (Nat.lt_trans HG1.out (Nat.lt_trans HG2.out HG3.out))) H6.out.2.2.2.2))))); have e0 := fl_head a7; clear a7 o7 z7 g7)
      | (refine wpList_store_qs rfl (.tmp 7) (.tmp 17) rfl q rfl rfl H5.out.2.2.1 ?_; intro w6 a6 o6 z6 g6; have H6 := Lib.hid (And.intro (H5.out.1.same (o6 _ (Nat.ne_of_lt (Nat.lt_trans HG1.out HG2.out)))) (And.intro (H5.out.2.1.same (o6 _ (Nat.ne_of_lt HG2.out))) (And.intro a6 (And.intro (H5.out.2.2.2.1.same (o6 _ (Ne.symm (Nat.ne_of_lt HG3.out)))) (g6 w.heap.size w (Nat.le_of_lt (Nat.lt_trans HG1.out HG2.out)) H5.out.2.2.2.2))))); clear a6 o6 z6 g6)
      | (refine wpList_alloc_fl rfl rfl ?_; intro w5 a5 b5 z5; have H5 := Lib.hid (And.intro (H4.out.1.later b5 (Nat.le_refl _)) (And.intro (H4.out.2.1.later b5 (Nat.le_refl _)) (And.intro (H4.out.2.2.1.later b5 (Nat.le_refl _)) (And.intro a5 (H4.out.2.2.2.trans (b5.mono H4.out.2.2.2.size)))))); have HG3 := Lib.hid H4.out.2.2.1.lt; clear a5 b5 z5)
      | (refine wpList_alloc_qs rfl rfl ?_; intro w4 a4 b4 z4; have H4 := Lib.hid (And.intro (H3.out.1.later b4 (Nat.le_refl _)) (And.intro (H3.out.2.1.later b4 (Nat.le_refl _)) (And.intro a4 (H3.out.2.2.trans (b4.mono H3.out.2.2.size))))); clear a4 b4 z4))
    refine (K32.out _ H7.out.2.2.2.2 _ rfl).mono ?_
    rintro e w10 ⟨rfl, b10⟩
    have H10 := Lib.hid (And.intro (H7.out.1.later b10 (Nat.le_refl _)) (And.intro (H7.out.2.1.later b10 (Nat.le_refl _)) (And.intro (H7.out.2.2.1.later b10 (Nat.le_refl _)) (And.intro (H7.out.2.2.2.1.later b10 (Nat.le_refl _)) (H7.out.2.2.2.2.trans (b10.mono H7.out.2.2.2.2.size))))))
    clear b10
    go_wp2_with (refine wpList_store_fl rfl (.tmp 9) (.tmp 30) rfl 0 0 false rfl rfl H10.out.2.2.2.1 ?_; intro y10 a5 o5 z5 g5; have H11 := Lib.hid (And.intro (H10.out.1.same (o5 _ (Nat.ne_of_lt (Nat.lt_trans HG1.out (Nat.lt_trans HG2.out HG3.out))))) (And.intro (H10.out.2.1.same (o5 _ (Nat.ne_of_lt (Nat.lt_trans HG2.out HG3.out)))) (And.intro (H10.out.2.2.1.same (o5 _ (Nat.ne_of_lt HG3.out))) (And.intro a5 (g5 w.heap.size w (Nat.le_of_lt (Nat.lt_trans HG1.out (Nat.lt_trans HG2.out HG3.out))) H10.out.2.2.2.2))))); have e10 := fl_head a5; clear a5 o5 z5 g5)
    refine (K16.out _ H11.out.2.2.2.2 _ (by omega)).mono ?_
    rintro e w12 ⟨rfl, b12⟩
    have H12 := Lib.hid (And.intro (H11.out.1.later b12 (Nat.le_refl _)) (And.intro (H11.out.2.1.later b12 (Nat.le_refl _)) (And.intro (H11.out.2.2.1.later b12 (Nat.le_refl _)) (And.intro (H11.out.2.2.2.1.later b12 (Nat.le_refl _)) (H11.out.2.2.2.2.trans (b12.mono H11.out.2.2.2.2.size))))))
    clear b12
    go_wp2_with (first
      | (refine wpList_store_fl rfl (.tmp 9) (.tmp 42) rfl 0 0 false rfl rfl H12.out.2.2.2.1 ?_; intro y12 a5 o5 z5 g5; have H13 := Lib.hid (And.intro (H12.out.1.same (o5 _ (Nat.ne_of_lt (Nat.lt_trans HG1.out (Nat.lt_trans HG2.out HG3.out))))) (And.intro (H12.out.2.1.same (o5 _ (Nat.ne_of_lt (Nat.lt_trans HG2.out HG3.out)))) (And.intro (H12.out.2.2.1.same (o5 _ (Nat.ne_of_lt HG3.out))) (And.intro a5 (g5 w.heap.size w (Nat.le_of_lt (Nat.lt_trans HG1.out (Nat.lt_trans HG2.out HG3.out))) H12.out.2.2.2.2))))); have e12 := fl_head a5; (have u0 : y12.cell? ⟨w3.heap.size, 0, none⟩ = some (.string (mkS q.name)) := H13.out.2.2.1.cell 0); (have u1 : y12.cell? ⟨w3.heap.size, 1, none⟩ = some (.int .i64 q.kind) := H13.out.2.2.1.cell 1); (have u2 : y12.cell? ⟨w3.heap.size, 2, none⟩ = some (.int .i64 q.cls) := H13.out.2.2.1.cell 2); clear a5 o5 z5 g5)
      | (refine wpList_build_rc4 rfl (.tmp 62) (.tmp 64) (.tmp 66) (.tmp 67) rfl q.name q.kind q.cls tv rfl rfl rfl rfl ?_))
    rw [show (nx : Int) + 6 = ((nx + 4 : Nat) : Int) + 2 by omega]
    refine (KD.out _ H13.out.2.2.2.2).mono ?_
    rintro e w14 ⟨A14, n14, c14, rfl, B14, O14, b14⟩
    have H14 := Lib.hid (And.intro (And.intro (H13.out.1.later b14 (Nat.le_refl _)) (And.intro (H13.out.2.1.later b14 (Nat.le_refl _)) (And.intro (H13.out.2.2.1.later b14 (Nat.le_refl _)) (And.intro (H13.out.2.2.2.1.later b14 (Nat.le_refl _)) (H13.out.2.2.2.2.trans (b14.mono H13.out.2.2.2.2.size)))))) (And.intro B14 O14))
    have HG4 := Lib.hid (Nat.lt_of_lt_of_le H13.out.2.2.2.1.lt b14.size)
    have HG5 := Lib.hid H13.out.2.2.2.1.lt
    clear b14 B14 O14 e10 e12 u0 u1 u2
    go_wp2_with (first
      | (refine wpList_store_fl rfl (.tmp 9) (.tmp 74) rfl gc ga gp rfl rfl H16.out.2.2.1 ?_; intro w17 a17 o17 z17 g17; have H17 := Lib.hid (And.intro (H16.out.1.same (o17 _ (Nat.ne_of_lt (Nat.lt_trans HG1.out (Nat.lt_trans HG2.out HG3.out))))) (And.intro (H16.out.2.1.same (o17 _ (Nat.ne_of_lt (Nat.lt_trans HG2.out HG3.out)))) (And.intro a17 (And.intro (H16.out.2.2.2.1.same (o17 _ (Ne.symm (Nat.ne_of_lt HG4.out)))) (And.intro (H16.out.2.2.2.2.1.farBlk (fun a ha => Nat.ne_of_gt (Nat.lt_of_lt_of_le HG5.out (H14.out.2.2 a ha))) o17) (g17 w.heap.size w (Nat.le_of_lt (Nat.lt_trans HG1.out (Nat.lt_trans HG2.out HG3.out))) H16.out.2.2.2.2.2)))))); have e17 := fl_head a17; clear a17 o17 z17 g17)
      | (refine wpList_store_rc rfl (.tmp 12) (.tmp 73) rfl x A14 n14 c14 rfl rfl HOK.out H15.out.2.2.2.1 ?_; intro w16 a16 o16 z16 g16; have H16 := Lib.hid (And.intro (H15.out.1.same (o16 _ (Nat.ne_of_lt (Nat.lt_trans (Nat.lt_trans HG1.out (Nat.lt_trans HG2.out HG3.out)) HG4.out)))) (And.intro (H15.out.2.1.same (o16 _ (Nat.ne_of_lt (Nat.lt_trans (Nat.lt_trans HG2.out HG3.out) HG4.out)))) (And.intro (H15.out.2.2.1.same (o16 _ (Nat.ne_of_lt HG4.out))) (And.intro a16 (And.intro (H14.out.2.1.keep (fun b o hb => World.cell?_of_block ((o16 b (Nat.ne_of_lt hb)).trans (HB15.out.block b hb)))) (g16 w.heap.size w (Nat.le_of_lt (Nat.lt_trans (Nat.lt_trans HG1.out (Nat.lt_trans HG2.out HG3.out)) HG4.out)) H15.out.2.2.2.2)))))); clear a16 o16 z16 g16)
      | (refine wpList_alloc_rc rfl rfl ?_; intro w15 a15 b15 z15; have H15 := Lib.hid (And.intro (H14.out.1.1.later b15 (Nat.le_refl _)) (And.intro (H14.out.1.2.1.later b15 (Nat.le_refl _)) (And.intro (H14.out.1.2.2.2.1.later b15 (Nat.le_refl _)) (And.intro a15 (H14.out.1.2.2.2.2.trans (b15.mono H14.out.1.2.2.2.2.size)))))); have HB15 := Lib.hid b15; clear a15 b15 z15))
    have hS : FlBox w17.drew (w4.heap.size) gc ga gp := H17.out.2.2.1
    refine rg_begin (fun w' => FlBox w' (w4.heap.size) gc ga gp) 5 (by kernel_rfl) rfl ?_
    refine rg_load 1 rfl (by kernel_rfl) (by kernel_rfl) (by kernel_rfl) (w4.heap.size) (0) ((flv gc ga gp)) (fun _ _ _ h => h) (by rfl) 36 (.tmp 9) rfl rfl hS (fun w2 h2 => (FlBox.range h2)) Tryz.underlying36 rfl (fl_size _ _ _) ?_
    simp only [Act.put, List.setIfInBounds_toArray, List.set_cons_zero, List.set_cons_succ]
    refine rg_step 0 rfl (by kernel_rfl) (by rfl) (fun K hK => ?_)
    refine wp_build_rcZ Z HZ.out rfl ?_
    refine hK.out _ _ hS ?_
    clear hK K
    try simp only [Act.put, List.setIfInBounds_toArray, List.set_cons_zero, List.set_cons_succ]
    refine rg_step 2 rfl (by kernel_rfl) (by rfl) (fun K hK => ?_)
    refine wp_store_rc (.tmp 4) (.tmp 78) rfl .zero none 0 0 rfl HZ.out.symm Rc.zero_ok (H17.out.1) ?_
    intro x4 a4 o4 z4 g4
    clear z4
    replace hS : FlBox x4 (w4.heap.size) gc ga gp := FlBox.same hS (o4 _ (Ne.symm (Nat.ne_of_lt (Nat.lt_trans HG1.out (Nat.lt_trans HG2.out HG3.out)))))
    have HX4 := Lib.hid (And.intro a4 (And.intro (FlBox.same (H17.out.2.1) (o4 _ (Ne.symm (Nat.ne_of_lt HG1.out)))) (g4 w.heap.size w (Nat.le_refl _) (Below.drew (H17.out.2.2.2.2.2)))))
    clear a4 o4 g4
    refine hK.out _ _ hS ?_
    clear hK K
    simp only [Act.put]
    refine rg_take 3 (v := ?rv4) rfl (by kernel_rfl) (by kernel_rfl) (by kernel_rfl) (fun _ _ _ h => h) (by rfl) hS (fun w2 hw2 => ?ry4) ?rr4
    case ry4 => ((try dsimp only at hw2); go_simp <;> with_reducible rfl)
    simp only [Act.put, List.setIfInBounds_toArray, List.set_cons_zero, List.set_cons_succ]
    refine rg_step 4 rfl (by kernel_rfl) (by rfl) (fun K hK => ?_)
    refine wp_store_flF (.tmp 6) (.tmp 79) rfl (gc) (ga) (gp) rfl rfl HX4.out.2.1 ?_
    intro x5 a5 o5 g5
    replace hS : FlBox x5 (w4.heap.size) gc ga gp := FlBox.same hS (o5 _ (Ne.symm (Nat.ne_of_lt (Nat.lt_trans HG2.out HG3.out))))
    have HX5 := Lib.hid (And.intro (RcBox.same HX4.out.1 (o5 _ (Ne.symm (Ne.symm (Nat.ne_of_lt HG1.out))))) (And.intro a5 (g5 w.heap.size w (Nat.le_of_lt HG1.out) HX4.out.2.2)))
    clear a5 o5 g5
    refine hK.out _ _ hS ?_
    clear hK K
    simp only [Act.put]
    refine rg_done (by kernel_rfl) ?_
    go_wp2_with fail
    exact bodyPost_ret (results_rcF _ rfl rfl rfl HX5.out.1 HX5.out.2.1) rfl ⟨none, 0, 0, rfl, Bs.nil _, ow_none _, HX5.out.2.2⟩
  rw [if_neg (by rw [hg]; simp)]
  obtain ⟨rfl, rfl, rfl⟩ : gc = 0 ∧ ga = 0 ∧ gp = false := by cases hfl hg; exact ⟨rfl, rfl, rfl⟩
  clear hfl hg
  go_enter Tryz.func56, Tryz.ntmps56
  go_wp2_with (first
    | (refine wpList_alloc_rc rfl rfl ?_; intro w1 a1 b1 z1; have H1 := Lib.hid (And.intro a1 b1); clear a1 b1 z1)
    | (refine wpList_alloc_fl rfl rfl ?_; intro w2 a2 b2 z2; have H2 := Lib.hid (And.intro (H1.out.1.later b2 (Nat.le_refl _)) (And.intro a2 (H1.out.2.trans (b2.mono H1.out.2.size)))); have HG1 := Lib.hid H1.out.1.lt; clear a2 b2 z2))
  refine (KQ.out w2 H2.out.2.2).mono ?_
  rintro e w3 ⟨rfl, b3⟩
  have H3 := Lib.hid (And.intro (H2.out.1.later b3 (Nat.le_refl _)) (And.intro (H2.out.2.1.later b3 (Nat.le_refl _)) (H2.out.2.2.trans (b3.mono H2.out.2.2.size))))
  have HG2 := Lib.hid H3.out.2.1.lt
  clear b3
  go_wp2_with (first
    | (refine wpList_store_fl rfl (.tmp 9) (.tmp 19) rfl 0 0 false rfl rfl H6.out.2.2.2.1 ?_; intro w7 a7 o7 z7 g7; have H7 := Lib.hid (And.intro (H6.out.1.same (o7 _ (Nat.ne_of_lt (Nat.lt_trans HG1.out (Nat.lt_trans HG2.out HG3.out))))) (And.intro (H6.out.2.1.same (o7 _ (Nat.ne_of_lt (Nat.lt_trans HG2.out HG3.out)))) (And.intro (H6.out.2.2.1.same (o7 _ (Nat.ne_of_lt HG3.out))) (And.intro a7 (g7 w.heap.size w (Nat.le_of_lt (Nat.lt_trans HG1.out (Nat.lt_trans HG2.out HG3.out))) H6.out.2.2.2.2))))); have e0 := fl_head a7; clear a7 o7 z7 g7)
    | (refine wpList_store_qs rfl (.tmp 7) (.tmp 17) rfl q rfl rfl H5.out.2.2.1 ?_; intro w6 a6 o6 z6 g6; have H6 := Lib.hid (And.intro (H5.out.1.same (o6 _ (Nat.ne_of_lt (Nat.lt_trans HG1.out HG2.out)))) (And.intro (H5.out.2.1.same (o6 _ (Nat.ne_of_lt HG2.out))) (And.intro a6 (And.intro (H5.out.2.2.2.1.same (o6 _ (Ne.symm (Nat.ne_of_lt HG3.out)))) (g6 w.heap.size w (Nat.le_of_lt (Nat.lt_trans HG1.out HG2.out)) H5.out.2.2.2.2))))); clear a6 o6 z6 g6)
    | (refine wpList_alloc_fl rfl rfl ?_; intro w5 a5 b5 z5; have H5 := Lib.hid (And.intro (H4.out.1.later b5 (Nat.le_refl _)) (And.intro (H4.out.2.1.later b5 (Nat.le_refl _)) (And.intro (H4.out.2.2.1.later b5 (Nat.le_refl _)) (And.intro a5 (H4.out.2.2.2.trans (b5.mono H4.out.2.2.2.size)))))); have HG3 := Lib.hid H4.out.2.2.1.lt; clear a5 b5 z5)
    | (refine wpList_alloc_qs rfl rfl ?_; intro w4 a4 b4 z4; have H4 := Lib.hid (And.intro (H3.out.1.later b4 (Nat.le_refl _)) (And.intro (H3.out.2.1.later b4 (Nat.le_refl _)) (And.intro a4 (H3.out.2.2.trans (b4.mono H3.out.2.2.size))))); clear a4 b4 z4))
  refine (K32.out _ H7.out.2.2.2.2 _ rfl).mono ?_
  rintro e w10 ⟨rfl, b10⟩
  have H10 := Lib.hid (And.intro (H7.out.1.later b10 (Nat.le_refl _)) (And.intro (H7.out.2.1.later b10 (Nat.le_refl _)) (And.intro (H7.out.2.2.1.later b10 (Nat.le_refl _)) (And.intro (H7.out.2.2.2.1.later b10 (Nat.le_refl _)) (H7.out.2.2.2.2.trans (b10.mono H7.out.2.2.2.2.size))))))
  clear b10
  go_wp2_with (refine wpList_store_fl rfl (.tmp 9) (.tmp 30) rfl 0 0 false rfl rfl H10.out.2.2.2.1 ?_; intro y10 a5 o5 z5 g5; have H11 := Lib.hid (And.intro (H10.out.1.same (o5 _ (Nat.ne_of_lt (Nat.lt_trans HG1.out (Nat.lt_trans HG2.out HG3.out))))) (And.intro (H10.out.2.1.same (o5 _ (Nat.ne_of_lt (Nat.lt_trans HG2.out HG3.out)))) (And.intro (H10.out.2.2.1.same (o5 _ (Nat.ne_of_lt HG3.out))) (And.intro a5 (g5 w.heap.size w (Nat.le_of_lt (Nat.lt_trans HG1.out (Nat.lt_trans HG2.out HG3.out))) H10.out.2.2.2.2))))); have e10 := fl_head a5; clear a5 o5 z5 g5)
  refine (K16.out _ H11.out.2.2.2.2 _ (by omega)).mono ?_
  rintro e w12 ⟨rfl, b12⟩
  have H12 := Lib.hid (And.intro (H11.out.1.later b12 (Nat.le_refl _)) (And.intro (H11.out.2.1.later b12 (Nat.le_refl _)) (And.intro (H11.out.2.2.1.later b12 (Nat.le_refl _)) (And.intro (H11.out.2.2.2.1.later b12 (Nat.le_refl _)) (H11.out.2.2.2.2.trans (b12.mono H11.out.2.2.2.2.size))))))
  clear b12
  go_wp2_with (first
    | (refine wpList_store_fl rfl (.tmp 9) (.tmp 42) rfl 0 0 false rfl rfl H12.out.2.2.2.1 ?_; intro y12 a5 o5 z5 g5; have H13 := Lib.hid (And.intro (H12.out.1.same (o5 _ (Nat.ne_of_lt (Nat.lt_trans HG1.out (Nat.lt_trans HG2.out HG3.out))))) (And.intro (H12.out.2.1.same (o5 _ (Nat.ne_of_lt (Nat.lt_trans HG2.out HG3.out)))) (And.intro (H12.out.2.2.1.same (o5 _ (Nat.ne_of_lt HG3.out))) (And.intro a5 (g5 w.heap.size w (Nat.le_of_lt (Nat.lt_trans HG1.out (Nat.lt_trans HG2.out HG3.out))) H12.out.2.2.2.2))))); have e12 := fl_head a5; (have u0 : y12.cell? ⟨w3.heap.size, 0, none⟩ = some (.string (mkS q.name)) := H13.out.2.2.1.cell 0); (have u1 : y12.cell? ⟨w3.heap.size, 1, none⟩ = some (.int .i64 q.kind) := H13.out.2.2.1.cell 1); (have u2 : y12.cell? ⟨w3.heap.size, 2, none⟩ = some (.int .i64 q.cls) := H13.out.2.2.1.cell 2); clear a5 o5 z5 g5)
    | (refine wpList_build_rc4 rfl (.tmp 62) (.tmp 64) (.tmp 66) (.tmp 67) rfl q.name q.kind q.cls tv rfl rfl rfl rfl ?_))
  rw [show (nx : Int) + 6 = ((nx + 4 : Nat) : Int) + 2 by omega]
  refine (KD.out _ H13.out.2.2.2.2).mono ?_
  rintro e w14 ⟨A14, n14, c14, rfl, B14, O14, b14⟩
  have H14 := Lib.hid (And.intro (And.intro (H13.out.1.later b14 (Nat.le_refl _)) (And.intro (H13.out.2.1.later b14 (Nat.le_refl _)) (And.intro (H13.out.2.2.1.later b14 (Nat.le_refl _)) (And.intro (H13.out.2.2.2.1.later b14 (Nat.le_refl _)) (H13.out.2.2.2.2.trans (b14.mono H13.out.2.2.2.2.size)))))) (And.intro B14 O14))
  have HG4 := Lib.hid (Nat.lt_of_lt_of_le H13.out.2.2.2.1.lt b14.size)
  have HG5 := Lib.hid H13.out.2.2.2.1.lt
  clear b14 B14 O14 e10 e12 u0 u1 u2
  go_wp2_with (first
    | (refine wpList_store_fl rfl (.tmp 9) (.tmp 74) rfl 0 0 false rfl rfl H16.out.2.2.1 ?_; intro w17 a17 o17 z17 g17; have H17 := Lib.hid (And.intro (H16.out.1.same (o17 _ (Nat.ne_of_lt (Nat.lt_trans HG1.out (Nat.lt_trans HG2.out HG3.out))))) (And.intro (H16.out.2.1.same (o17 _ (Nat.ne_of_lt (Nat.lt_trans HG2.out HG3.out)))) (And.intro a17 (And.intro (H16.out.2.2.2.1.same (o17 _ (Ne.symm (Nat.ne_of_lt HG4.out)))) (And.intro (H16.out.2.2.2.2.1.farBlk (fun a ha => Nat.ne_of_gt (Nat.lt_of_lt_of_le HG5.out (H14.out.2.2 a ha))) o17) (g17 w.heap.size w (Nat.le_of_lt (Nat.lt_trans HG1.out (Nat.lt_trans HG2.out HG3.out))) H16.out.2.2.2.2.2)))))); have e17 := fl_head a17; clear a17 o17 z17 g17)
    | (refine wpList_store_rc rfl (.tmp 12) (.tmp 73) rfl x A14 n14 c14 rfl rfl HOK.out H15.out.2.2.2.1 ?_; intro w16 a16 o16 z16 g16; have H16 := Lib.hid (And.intro (H15.out.1.same (o16 _ (Nat.ne_of_lt (Nat.lt_trans (Nat.lt_trans HG1.out (Nat.lt_trans HG2.out HG3.out)) HG4.out)))) (And.intro (H15.out.2.1.same (o16 _ (Nat.ne_of_lt (Nat.lt_trans (Nat.lt_trans HG2.out HG3.out) HG4.out)))) (And.intro (H15.out.2.2.1.same (o16 _ (Nat.ne_of_lt HG4.out))) (And.intro a16 (And.intro (H14.out.2.1.keep (fun b o hb => World.cell?_of_block ((o16 b (Nat.ne_of_lt hb)).trans (HB15.out.block b hb)))) (g16 w.heap.size w (Nat.le_of_lt (Nat.lt_trans (Nat.lt_trans HG1.out (Nat.lt_trans HG2.out HG3.out)) HG4.out)) H15.out.2.2.2.2)))))); clear a16 o16 z16 g16)
    | (refine wpList_alloc_rc rfl rfl ?_; intro w15 a15 b15 z15; have H15 := Lib.hid (And.intro (H14.out.1.1.later b15 (Nat.le_refl _)) (And.intro (H14.out.1.2.1.later b15 (Nat.le_refl _)) (And.intro (H14.out.1.2.2.2.1.later b15 (Nat.le_refl _)) (And.intro a15 (H14.out.1.2.2.2.2.trans (b15.mono H14.out.1.2.2.2.2.size)))))); have HB15 := Lib.hid b15; clear a15 b15 z15))
  obtain ⟨X, hX⟩ : ∃ X, rcv x A14 n14 c14 = X := ⟨_, rfl⟩
  have HX := Lib.hid hX
  clear hX
  have hS : RcBox w17.drew w14.heap.size x A14 n14 c14 ∧ FlBox w17.drew w4.heap.size 0 0 false := And.intro H17.out.2.2.2.1 H17.out.2.2.1
  refine rg_begin (fun w' => RcBox w' w14.heap.size x A14 n14 c14 ∧ FlBox w' w4.heap.size 0 0 false) 9 (by kernel_rfl) rfl ?_
  refine rg_load 0 rfl (by kernel_rfl) (by kernel_rfl) (by kernel_rfl) (w14.heap.size) (0) (X) (fun _ _ _ h => h) (by rfl) 57 (.tmp 12) rfl rfl hS (fun w2 h2 => HX.out ▸ h2.1.range) Tryz.underlying57 rfl (HX.out ▸ rc_size HOK.out _ _ _) ?_
  simp only [Act.put, List.setIfInBounds_toArray, List.set_cons_zero, List.set_cons_succ]
  refine rg_take 1 (v := ?rv5) rfl (by kernel_rfl) (by kernel_rfl) (by kernel_rfl) (fun _ _ _ h => h) (by rfl) hS (fun w2 hw2 => ?ry5) ?rr5
  case ry5 => ((try dsimp only at hw2); go_simp <;> with_reducible rfl)
  simp only [Act.put, List.setIfInBounds_toArray, List.set_cons_zero, List.set_cons_succ]
  refine rg_take 3 (v := ?rv6) rfl (by kernel_rfl) (by kernel_rfl) (by kernel_rfl) (fun _ _ _ h => h) (by rfl) hS (fun w2 hw2 => ?ry6) ?rr6
  case ry6 => ((try dsimp only at hw2); go_simp <;> with_reducible rfl)
  simp only [Act.put, List.setIfInBounds_toArray, List.set_cons_zero, List.set_cons_succ]
  refine rg_load 5 rfl (by kernel_rfl) (by kernel_rfl) (by kernel_rfl) (w4.heap.size) (0) ((flv 0 0 false)) (fun _ _ _ h => h) (by rfl) 36 (.tmp 9) rfl rfl hS (fun w2 h2 => (FlBox.range h2.2)) Tryz.underlying36 rfl (fl_size _ _ _) ?_
  simp only [Act.put, List.setIfInBounds_toArray, List.set_cons_zero, List.set_cons_succ]
  refine rg_take 2 (v := ?rv7) rfl (by kernel_rfl) (by kernel_rfl) (by kernel_rfl) (fun _ _ _ h => h) (by rfl) hS (fun w2 hw2 => ?ry7) ?rr7
  case ry7 => ((try dsimp only at hw2); go_simp <;> with_reducible rfl)
  simp only [Act.put, List.setIfInBounds_toArray, List.set_cons_zero, List.set_cons_succ]
  refine rg_take 4 (v := ?rv8) rfl (by kernel_rfl) (by kernel_rfl) (by kernel_rfl) (fun _ _ _ h => h) (by rfl) hS (fun w2 hw2 => ?ry8) ?rr8
  case ry8 => ((try dsimp only at hw2); go_simp <;> with_reducible rfl)
  simp only [Act.put, List.setIfInBounds_toArray, List.set_cons_zero, List.set_cons_succ]
  refine rg_step 6 rfl (by kernel_rfl) (by rfl) (fun K hK => ?_)
  refine wp_store_rc (.tmp 4) (.tmp 80) rfl x A14 n14 c14 rfl (by rw [HX.out]; rfl) HOK.out (H17.out.1) ?_
  intro x4 a4 o4 z4 g4
  clear z4
  replace hS := And.intro (RcBox.same hS.1 (o4 _ (Ne.symm (Nat.ne_of_lt (Nat.lt_trans (Nat.lt_trans HG1.out (Nat.lt_trans HG2.out HG3.out)) HG4.out))))) (FlBox.same hS.2 (o4 _ (Ne.symm (Nat.ne_of_lt (Nat.lt_trans HG1.out (Nat.lt_trans HG2.out HG3.out))))))
  have HX4 := Lib.hid (And.intro a4 (And.intro (FlBox.same (H17.out.2.1) (o4 _ (Ne.symm (Nat.ne_of_lt HG1.out)))) (And.intro (H17.out.2.2.2.2.1.drewN 1 |>.farBlk (fun a ha => Nat.ne_of_gt (Nat.lt_of_lt_of_le (Nat.lt_trans (Nat.lt_trans HG1.out (Nat.lt_trans HG2.out HG3.out)) HG5.out) (H14.out.2.2 a ha))) o4) (g4 w.heap.size w (Nat.le_refl _) (Below.drew H17.out.2.2.2.2.2)))))
  clear a4 o4 g4
  refine hK.out _ _ hS ?_
  clear hK K
  simp only [Act.put]
  refine rg_take 7 (v := ?rv9) rfl (by kernel_rfl) (by kernel_rfl) (by kernel_rfl) (fun _ _ _ h => h) (by rfl) hS (fun w2 hw2 => ?ry9) ?rr9
  case ry9 => ((try dsimp only at hw2); go_simp <;> with_reducible rfl)
  simp only [Act.put, List.setIfInBounds_toArray, List.set_cons_zero, List.set_cons_succ]
  refine rg_step 8 rfl (by kernel_rfl) (by rfl) (fun K hK => ?_)
  refine wp_store_flF (.tmp 6) (.tmp 85) rfl 0 0 false rfl rfl HX4.out.2.1 ?_
  intro x5 a5 o5 g5
  replace hS := And.intro (RcBox.same hS.1 (o5 _ (Ne.symm (Nat.ne_of_lt (Nat.lt_trans (Nat.lt_trans HG2.out HG3.out) HG4.out))))) (FlBox.same hS.2 (o5 _ (Ne.symm (Nat.ne_of_lt (Nat.lt_trans HG2.out HG3.out)))))
  have HX5 := Lib.hid (And.intro (RcBox.same HX4.out.1 (o5 _ (Nat.ne_of_lt HG1.out))) (And.intro a5 (And.intro (HX4.out.2.2.1.farBlk (fun a ha => Nat.ne_of_gt (Nat.lt_of_lt_of_le (Nat.lt_trans (Nat.lt_trans HG2.out HG3.out) HG5.out) (H14.out.2.2 a ha))) o5) (g5 w.heap.size w (Nat.le_of_lt HG1.out) HX4.out.2.2.2))))
  clear a5 o5 g5
  refine hK.out _ _ hS ?_
  clear hK K
  simp only [Act.put]
  refine rg_done (by kernel_rfl) ?_
  go_wp2_with fail
  refine bodyPost_ret (results_rcF _ rfl rfl rfl HX5.out.1 HX5.out.2.1) rfl ⟨A14, n14, c14, ?_, HX5.out.2.2.1, (fun a ha => Nat.le_of_lt (Nat.lt_of_lt_of_le (Nat.lt_trans (Nat.lt_trans HG1.out (Nat.lt_trans HG2.out HG3.out)) HG5.out) (H14.out.2.2 a ha))), HX5.out.2.2.2⟩
  show Ending.returned (.tuple #[.agg (rcv x A14 n14 c14), .int .i64 (IntKind.i64.wrap (IntKind.i64.wrap ((nx : Int) + 6) + k)), .agg (flv 0 0 false)]) = _
  rw [show IntKind.i64.wrap ((nx : Int) + 6) = (nx : Int) + 6 by rw [IntKind.wrap_i64]; omega, show IntKind.i64.wrap ((nx : Int) + 6 + k) = ((nx + 6 + k : Nat) : Int) by rw [IntKind.wrap_i64]; omega]
  rfl
end Go.Proofs.YtbikifaadpijnaaGreatDoor

namespace Go.Proofs.YtbikifaadpijnaaGreatDoor
open Go.RowKit
set_option maxRecDepth 100000

theorem ref_writeQ_ok {q : Qs} (h : rightQ q) (hs : q.name.length ≤ 10000) (w : World) : Calls Tryz.prog 37 #[.agg (qsv q)] w fun e w' => ∃ A' c', e = .returned (.tuple #[.slice A' (writeQB q).length c', .agg (flv 0 0 false)]) ∧ Bs w' A' (writeQB q).length c' (writeQB q) ∧ Ow w.heap.size A' ∧ Below w.heap.size w w' := by
  have k := ref_writeQ q hs w
  unfold RefB writeQv writeQe at k
  rw [if_pos h, if_pos h] at k
  refine k.mono ?_
  rintro e w' ⟨A', n', c', rfl, B, O, b⟩
  obtain rfl := B.len
  exact ⟨A', c', rfl, B, O, b⟩
set_option maxHeartbeats 8000000 in
theorem ref_writeR {r : Rc} (hk : r.ok) {A : Option Addr} {n c : Nat} {w : World} (hb : Bs w A n c r.data) (hn : r.name.length ≤ 10000) (ht : r.target.length ≤ 10000) (t0 : 0 ≤ r.ttl) (t1 : r.ttl < 4294967296) : Calls Tryz.prog 38 #[.agg (rcv r A n c)] w (RefB (writeRv r) (writeRe r) w) := by
  have a1 := RcBox.new w hk A n c
  have b1 : Below w.heap.size w (w.alloc (.cells (rcv r A n c) 57)) := (Below.refl _ _).alloc (Nat.le_refl _) _
  obtain ⟨W, hW⟩ : ∃ W, w.alloc (.cells (rcv r A n c) 57) = W := ⟨_, rfl⟩
  rw [hW] at a1 b1
  have HA := Lib.hid (And.intro a1 b1)
  have HW := Lib.hid hW
  have HL1 := Lib.hid (RcBox.lt a1)
  have KR := fun (w1 : World) (hw1 : Below w.heap.size w w1) => ref_rightR hk (hb.later hw1 (Nat.le_refl _)) hn ht
  have HB := Lib.hid hb
  clear a1 b1 hW hb
  unfold RefB writeRv writeRe
  by_cases hr : rightR r
  case neg =>
    rw [if_neg hr, if_neg hr]
    rw [decide_eq_false hr] at KR
    have KR := Lib.hid KR
    clear hr
    --<< no
    go_enter Tryz.func38, Tryz.ntmps38
    go_wp2_with (first
      | (refine wpList_load_rc rfl (.tmp 1) rfl rfl H2.out.1 ?_)
      | (rw [HW.out]; refine wpList_alloc_fl rfl rfl ?_; intro w2 a2 b2 z2; have H2 := Lib.hid (And.intro (HA.out.1.later b2 (Nat.le_refl _)) (And.intro a2 (HA.out.2.trans (b2.mono HA.out.2.size)))); clear a2 b2 z2))
    refine (KR.out w2 H2.out.2.2).mono ?_
    rintro e w3 ⟨rfl, b3⟩
    have H3 := Lib.hid (And.intro (H2.out.1.later b3 (Nat.le_refl _)) (And.intro (H2.out.2.1.later b3 (Nat.le_refl _)) (H2.out.2.2.trans (b3.mono H2.out.2.2.size))))
    clear b3
    go_wp2_with fail
    refine (help_bare 1 _).mono ?_
    rintro e w9 ⟨rfl, b9⟩
    have H9 := Lib.hid (And.intro (H3.out.2.1.later b9 (Nat.le_refl _)) (H3.out.2.2.trans (b9.mono H3.out.2.2.size)))
    clear b9
    go_wp2_with (refine wpList_store_fl rfl (.tmp 3) (.tmp 10) rfl 1 0 false rfl rfl H9.out.1 ?_; intro w10 a10 o10 z10 g10; have H10 := Lib.hid (And.intro a10 (g10 w.heap.size w (Nat.le_of_lt HL1.out) H9.out.2)); clear a10 o10 z10 g10)
    exact bodyPost_ret (results_tmp_fl rfl _ rfl H10.out.1) rfl ⟨none, 0, 0, rfl, Bs.nil _, ow_none _, H10.out.2⟩
    -->>
  rw [if_pos hr, if_pos hr]
  rw [decide_eq_true hr] at KR
  have KR := Lib.hid KR
  have KW := Lib.hid (fun w1 => ref_writeQ_ok (q := r.asks) hr.1 hn w1)
  have hwl := writeB_le hr.1.1
  have hql := writeQB_length r.asks
  have hnm : r.asks.name = r.name := rfl
  rw [hnm] at hwl hql
  have hqb : (writeQB r.asks).length ≤ 259 := by omega
  obtain ⟨N, hN⟩ : ∃ N, (writeQB r.asks).length = N := ⟨_, rfl⟩
  rw [hN] at KW hqb
  have HN := Lib.hid hN
  have htr := hr.2.2.1
  have hdl := hr.2.2.2.1
  have hal := alike_cases hr
  have hlen := HB.out.len
  clear hwl hql hnm hN hr
  by_cases k28 : r.kind = 28
  case pos =>
    --<< k28
    have hv : r.v6 = true := by
      rcases hal with x | x | x | x
      · exact x.2.1
      · omega
      · omega
      · omega
    have hdt : dataB r = r.adr.take 16 := by unfold dataB; rw [if_pos (by omega), hv]; rfl
    clear hal
    have HK := Lib.hid k28
    clear k28
    go_enter Tryz.func38, Tryz.ntmps38
    go_wp2_with (first
      | (refine wpList_load_rc rfl (.tmp 1) rfl rfl H2.out.1 ?_)
      | (rw [HW.out]; refine wpList_alloc_fl rfl rfl ?_; intro w2 a2 b2 z2; have H2 := Lib.hid (And.intro (HA.out.1.later b2 (Nat.le_refl _)) (And.intro a2 (HA.out.2.trans (b2.mono HA.out.2.size)))); clear a2 b2 z2))
    refine (KR.out w2 H2.out.2.2).mono ?_
    rintro e w3 ⟨rfl, b3⟩
    have H3 := Lib.hid (And.intro (H2.out.1.later b3 (Nat.le_refl _)) (And.intro (H2.out.2.1.later b3 (Nat.le_refl _)) (H2.out.2.2.trans (b3.mono H2.out.2.2.size))))
    clear b3
    have e0 := H3.out.1.name
    have e1 := H3.out.1.kind
    have e2 := H3.out.1.cls
    go_wp2_with (refine wpList_build_qs rfl (.tmp 13) (.tmp 15) (.tmp 17) rfl r.asks rfl rfl rfl ?_)
    refine (KW.out w3).mono ?_
    rintro e w4 ⟨A4, c4, rfl, B4, O4, b4⟩
    have H4 := Lib.hid (And.intro (H3.out.1.later b4 (Nat.le_refl _)) (And.intro (H3.out.2.1.later b4 (Nat.le_refl _)) (And.intro B4 (H3.out.2.2.trans (b4.mono H3.out.2.2.size)))))
    have HL2 := Lib.hid (FlBox.lt H4.out.2.1)
    clear B4 O4 b4 e0 e1 e2
    go_wp2_with (first
        | (refine wpList_store_fl rfl (.tmp 5) (.tmp 21) rfl 0 0 false rfl rfl H5.out.2.2.1 ?_; intro w6 a6 o6 z6 g6; have H6 := Lib.hid (And.intro (H5.out.1.same (o6 _ (Nat.ne_of_lt (Nat.lt_trans HL1.out HL2.out)))) (And.intro (H5.out.2.1.same (o6 _ (Nat.ne_of_lt HL2.out))) (And.intro (H4.out.2.2.1.keep (fun b o hb => World.cell?_of_block ((o6 b (Nat.ne_of_lt hb)).trans (HB5.out.block b hb)))) (g6 w.heap.size w (Nat.le_of_lt (Nat.lt_trans HL1.out HL2.out)) H5.out.2.2.2)))); have f1 := H6.out.1.kind; rw [HK.out] at f1; have f2 := H6.out.1.ttl; have f3 := H6.out.1.target; have f4 := H6.out.1.data; clear a6 o6 z6 g6)
        | (refine wpList_alloc_fl rfl rfl ?_; intro w5 a5 b5 z5; have H5 := Lib.hid (And.intro (H4.out.1.later b5 (Nat.le_refl _)) (And.intro (H4.out.2.1.later b5 (Nat.le_refl _)) (And.intro a5 (H4.out.2.2.2.trans (b5.mono H4.out.2.2.2.size))))); have HB5 := Lib.hid b5; clear a5 b5 z5)
        | (refine wpList_load_rcAd rfl (.tmp 31) rfl rfl H6.out.1 ?_; rw [hv]))
    refine (size_ref true r.adr hk _).mono ?_
    rintro e w8 ⟨rfl, b8⟩
    rw [show ((wid true : Nat) : Int) = 128 from rfl]
    have H8 := Lib.hid (And.intro (H6.out.1.later b8 (Nat.le_refl _)) (And.intro (H6.out.2.1.later b8 (Nat.le_refl _)) (And.intro (H6.out.2.2.1.later b8 (Nat.le_refl _)) (H6.out.2.2.2.trans (b8.mono H6.out.2.2.2.size)))))
    have f2 := H8.out.1.ttl
    clear b8
    go_wp2_with fail
    have HX := Lib.hid (show Bs w8 (some ⟨w.heap.size, 5, none⟩) 16 (16) (dataB r) from by rw [hdt]; exact H8.out.1.adrB.cut (i := 0) (k := 16) (by omega) (fun _ => rfl) (fun h => by cases h))
    refine (put_bs H8.out.2.2.1 r.ttl 4 (by omega) (by omega)).mono ?_
    rintro e w20 ⟨A20, c20, rfl, B20, O20, b20⟩
    have H20 := Lib.hid (And.intro (H8.out.2.1.later b20 (Nat.le_refl _)) (And.intro B20 (And.intro (HX.out.later b20 (Nat.le_refl _)) (H8.out.2.2.2.trans (b20.mono H8.out.2.2.2.size)))))
    clear B20 O20 b20
    go_wp2_with fail
    refine (put_bs H20.out.2.1 ((16 : Nat) : Int) 2 (by omega) (by omega)).mono ?_
    rintro e w21 ⟨A21, c21, rfl, B21, O21, b21⟩
    have HG := Lib.hid (FlBox.lt H20.out.1)
    have H21 := Lib.hid (And.intro (H20.out.1.later b21 (Nat.le_refl _)) (And.intro O21 (And.intro (H20.out.2.2.1.later b21 (Nat.le_refl _)) (And.intro (H20.out.2.2.2.trans (b21.mono H20.out.2.2.2.size)) b21.size))))
    clear B21 O21 b21
    go_wp2_with (first
      | (refine wpList_store_fl rfl (.tmp 3) (.tmp 54) rfl 0 0 false rfl rfl H22.out.1 ?_; intro w23 a23 o23 z23 g23; have H23 := Lib.hid (And.intro a23 (And.intro (H22.out.2.1.farBlk (fun a ha => Nat.ne_of_gt (Nat.lt_of_lt_of_le HG.out (H22.out.2.2.1 a ha))) o23) (g23 w.heap.size w (Nat.le_of_lt HL1.out) H22.out.2.2.2))); clear a23 o23 z23 g23)
      | (at_builtin; refine wpList_append_bs rfl (.tmp 51) (.tmp 52) 22 rfl w20.heap.size 5 info5 Tryz.underlying22 (.slice A21 (N + 4 + 2) c21) (N + 4 + 2) _ rfl H21.out.2.1 (some ⟨w.heap.size, 5, none⟩) 16 (16) (dataB r) rfl H21.out.2.2.1 (by omega) H21.out.2.2.2.2 ?_; intro v22 w22 o22 g22 n22 m22; have b22 : Below w.heap.size w w22 := H21.out.2.2.2.1.grown g22 H21.out.2.2.2.1.size (fun q hq => Nat.le_trans (Nat.le_of_lt (Nat.lt_trans HL1.out HG.out)) (H21.out.2.1.lt q hq).1); obtain ⟨A22, c22, rfl, B22⟩ := Bs.of_own o22; have H22 := Lib.hid (And.intro (H21.out.1.same (g22.block _ (Nat.lt_of_lt_of_le HG.out H21.out.2.2.2.2) (fun hq => absurd (H21.out.2.1.lt _ hq.symm).1 (Nat.not_le_of_lt HG.out)))) (And.intro B22 (And.intro (own_ow o22) b22))); clear o22 g22 n22 m22 b22 B22))
    refine bodyPost_ret (results_tmp_fl rfl _ rfl H23.out.1) rfl ⟨A22, _, c22, rfl, ?_, (fun a ha => Nat.le_of_lt (Nat.lt_of_lt_of_le (Nat.lt_trans HL1.out HG.out) (H22.out.2.2.1 a ha))), H23.out.2.2⟩
    have hz := H23.out.2.1
    unfold writeRB
    rw [← HX.out.len] at hz
    rw [List.append_assoc, List.append_assoc] at hz
    rw [HX.out.len] at hz ⊢
    exact hz
    -->>
  by_cases k1 : r.kind = 1
  case pos =>
    --<< k1
    have hv : r.v6 = false := by
      rcases hal with x | x | x | x
      · omega
      · exact x.2.1
      · omega
      · omega
    have hdt : dataB r = r.adr.take 4 := by unfold dataB; rw [if_pos (by omega), hv]; rfl
    clear hal
    have HK := Lib.hid k1
    clear k1
    go_enter Tryz.func38, Tryz.ntmps38
    go_wp2_with (first
      | (refine wpList_load_rc rfl (.tmp 1) rfl rfl H2.out.1 ?_)
      | (rw [HW.out]; refine wpList_alloc_fl rfl rfl ?_; intro w2 a2 b2 z2; have H2 := Lib.hid (And.intro (HA.out.1.later b2 (Nat.le_refl _)) (And.intro a2 (HA.out.2.trans (b2.mono HA.out.2.size)))); clear a2 b2 z2))
    refine (KR.out w2 H2.out.2.2).mono ?_
    rintro e w3 ⟨rfl, b3⟩
    have H3 := Lib.hid (And.intro (H2.out.1.later b3 (Nat.le_refl _)) (And.intro (H2.out.2.1.later b3 (Nat.le_refl _)) (H2.out.2.2.trans (b3.mono H2.out.2.2.size))))
    clear b3
    have e0 := H3.out.1.name
    have e1 := H3.out.1.kind
    have e2 := H3.out.1.cls
    go_wp2_with (refine wpList_build_qs rfl (.tmp 13) (.tmp 15) (.tmp 17) rfl r.asks rfl rfl rfl ?_)
    refine (KW.out w3).mono ?_
    rintro e w4 ⟨A4, c4, rfl, B4, O4, b4⟩
    have H4 := Lib.hid (And.intro (H3.out.1.later b4 (Nat.le_refl _)) (And.intro (H3.out.2.1.later b4 (Nat.le_refl _)) (And.intro B4 (H3.out.2.2.trans (b4.mono H3.out.2.2.size)))))
    have HL2 := Lib.hid (FlBox.lt H4.out.2.1)
    clear B4 O4 b4 e0 e1 e2
    go_wp2_with (first
        | (refine wpList_store_fl rfl (.tmp 5) (.tmp 21) rfl 0 0 false rfl rfl H5.out.2.2.1 ?_; intro w6 a6 o6 z6 g6; have H6 := Lib.hid (And.intro (H5.out.1.same (o6 _ (Nat.ne_of_lt (Nat.lt_trans HL1.out HL2.out)))) (And.intro (H5.out.2.1.same (o6 _ (Nat.ne_of_lt HL2.out))) (And.intro (H4.out.2.2.1.keep (fun b o hb => World.cell?_of_block ((o6 b (Nat.ne_of_lt hb)).trans (HB5.out.block b hb)))) (g6 w.heap.size w (Nat.le_of_lt (Nat.lt_trans HL1.out HL2.out)) H5.out.2.2.2)))); have f1 := H6.out.1.kind; rw [HK.out] at f1; have f2 := H6.out.1.ttl; have f3 := H6.out.1.target; have f4 := H6.out.1.data; clear a6 o6 z6 g6)
        | (refine wpList_alloc_fl rfl rfl ?_; intro w5 a5 b5 z5; have H5 := Lib.hid (And.intro (H4.out.1.later b5 (Nat.le_refl _)) (And.intro (H4.out.2.1.later b5 (Nat.le_refl _)) (And.intro a5 (H4.out.2.2.2.trans (b5.mono H4.out.2.2.2.size))))); have HB5 := Lib.hid b5; clear a5 b5 z5)
        | (refine wpList_load_rcAd rfl (.tmp 31) rfl rfl H6.out.1 ?_; rw [hv]))
    refine (size_ref false r.adr hk _).mono ?_
    rintro e w8 ⟨rfl, b8⟩
    rw [show ((wid false : Nat) : Int) = 32 from rfl]
    have H8 := Lib.hid (And.intro (H6.out.1.later b8 (Nat.le_refl _)) (And.intro (H6.out.2.1.later b8 (Nat.le_refl _)) (And.intro (H6.out.2.2.1.later b8 (Nat.le_refl _)) (H6.out.2.2.2.trans (b8.mono H6.out.2.2.2.size)))))
    have f2 := H8.out.1.ttl
    clear b8
    go_wp2_with fail
    have HX := Lib.hid (show Bs w8 (some ⟨w.heap.size, 5, none⟩) 4 (16) (dataB r) from by rw [hdt]; exact H8.out.1.adrB.cut (i := 0) (k := 4) (by omega) (fun _ => rfl) (fun h => by cases h))
    refine (put_bs H8.out.2.2.1 r.ttl 4 (by omega) (by omega)).mono ?_
    rintro e w20 ⟨A20, c20, rfl, B20, O20, b20⟩
    have H20 := Lib.hid (And.intro (H8.out.2.1.later b20 (Nat.le_refl _)) (And.intro B20 (And.intro (HX.out.later b20 (Nat.le_refl _)) (H8.out.2.2.2.trans (b20.mono H8.out.2.2.2.size)))))
    clear B20 O20 b20
    go_wp2_with fail
    refine (put_bs H20.out.2.1 ((4 : Nat) : Int) 2 (by omega) (by omega)).mono ?_
    rintro e w21 ⟨A21, c21, rfl, B21, O21, b21⟩
    have HG := Lib.hid (FlBox.lt H20.out.1)
    have H21 := Lib.hid (And.intro (H20.out.1.later b21 (Nat.le_refl _)) (And.intro O21 (And.intro (H20.out.2.2.1.later b21 (Nat.le_refl _)) (And.intro (H20.out.2.2.2.trans (b21.mono H20.out.2.2.2.size)) b21.size))))
    clear B21 O21 b21
    go_wp2_with (first
      | (refine wpList_store_fl rfl (.tmp 3) (.tmp 54) rfl 0 0 false rfl rfl H22.out.1 ?_; intro w23 a23 o23 z23 g23; have H23 := Lib.hid (And.intro a23 (And.intro (H22.out.2.1.farBlk (fun a ha => Nat.ne_of_gt (Nat.lt_of_lt_of_le HG.out (H22.out.2.2.1 a ha))) o23) (g23 w.heap.size w (Nat.le_of_lt HL1.out) H22.out.2.2.2))); clear a23 o23 z23 g23)
      | (at_builtin; refine wpList_append_bs rfl (.tmp 51) (.tmp 52) 22 rfl w20.heap.size 5 info5 Tryz.underlying22 (.slice A21 (N + 4 + 2) c21) (N + 4 + 2) _ rfl H21.out.2.1 (some ⟨w.heap.size, 5, none⟩) 4 (16) (dataB r) rfl H21.out.2.2.1 (by omega) H21.out.2.2.2.2 ?_; intro v22 w22 o22 g22 n22 m22; have b22 : Below w.heap.size w w22 := H21.out.2.2.2.1.grown g22 H21.out.2.2.2.1.size (fun q hq => Nat.le_trans (Nat.le_of_lt (Nat.lt_trans HL1.out HG.out)) (H21.out.2.1.lt q hq).1); obtain ⟨A22, c22, rfl, B22⟩ := Bs.of_own o22; have H22 := Lib.hid (And.intro (H21.out.1.same (g22.block _ (Nat.lt_of_lt_of_le HG.out H21.out.2.2.2.2) (fun hq => absurd (H21.out.2.1.lt _ hq.symm).1 (Nat.not_le_of_lt HG.out)))) (And.intro B22 (And.intro (own_ow o22) b22))); clear o22 g22 n22 m22 b22 B22))
    refine bodyPost_ret (results_tmp_fl rfl _ rfl H23.out.1) rfl ⟨A22, _, c22, rfl, ?_, (fun a ha => Nat.le_of_lt (Nat.lt_of_lt_of_le (Nat.lt_trans HL1.out HG.out) (H22.out.2.2.1 a ha))), H23.out.2.2⟩
    have hz := H23.out.2.1
    unfold writeRB
    rw [← HX.out.len] at hz
    rw [List.append_assoc, List.append_assoc] at hz
    rw [HX.out.len] at hz ⊢
    exact hz
    -->>
  by_cases k5 : r.kind = 5
  case pos =>
    --<< k5
    have hdt : dataB r = writeB r.target := by unfold dataB; rw [if_neg (by omega), if_pos k5]
    have hwt := writeB_le htr
    obtain ⟨M, hM⟩ : ∃ M, (writeB r.target).length = M := ⟨_, rfl⟩
    have KT := fun w1 => ref_write_right htr w1
    rw [hM] at hwt KT
    have KT := Lib.hid KT
    have HM := Lib.hid hM
    clear hM
    clear hal
    have HK := Lib.hid k5
    clear k5
    go_enter Tryz.func38, Tryz.ntmps38
    go_wp2_with (first
      | (refine wpList_load_rc rfl (.tmp 1) rfl rfl H2.out.1 ?_)
      | (rw [HW.out]; refine wpList_alloc_fl rfl rfl ?_; intro w2 a2 b2 z2; have H2 := Lib.hid (And.intro (HA.out.1.later b2 (Nat.le_refl _)) (And.intro a2 (HA.out.2.trans (b2.mono HA.out.2.size)))); clear a2 b2 z2))
    refine (KR.out w2 H2.out.2.2).mono ?_
    rintro e w3 ⟨rfl, b3⟩
    have H3 := Lib.hid (And.intro (H2.out.1.later b3 (Nat.le_refl _)) (And.intro (H2.out.2.1.later b3 (Nat.le_refl _)) (H2.out.2.2.trans (b3.mono H2.out.2.2.size))))
    clear b3
    have e0 := H3.out.1.name
    have e1 := H3.out.1.kind
    have e2 := H3.out.1.cls
    go_wp2_with (refine wpList_build_qs rfl (.tmp 13) (.tmp 15) (.tmp 17) rfl r.asks rfl rfl rfl ?_)
    refine (KW.out w3).mono ?_
    rintro e w4 ⟨A4, c4, rfl, B4, O4, b4⟩
    have H4 := Lib.hid (And.intro (H3.out.1.later b4 (Nat.le_refl _)) (And.intro (H3.out.2.1.later b4 (Nat.le_refl _)) (And.intro B4 (H3.out.2.2.trans (b4.mono H3.out.2.2.size)))))
    have HL2 := Lib.hid (FlBox.lt H4.out.2.1)
    clear B4 O4 b4 e0 e1 e2
    go_wp2_with (first
        | (refine wpList_store_fl rfl (.tmp 5) (.tmp 21) rfl 0 0 false rfl rfl H5.out.2.2.1 ?_; intro w6 a6 o6 z6 g6; have H6 := Lib.hid (And.intro (H5.out.1.same (o6 _ (Nat.ne_of_lt (Nat.lt_trans HL1.out HL2.out)))) (And.intro (H5.out.2.1.same (o6 _ (Nat.ne_of_lt HL2.out))) (And.intro (H4.out.2.2.1.keep (fun b o hb => World.cell?_of_block ((o6 b (Nat.ne_of_lt hb)).trans (HB5.out.block b hb)))) (g6 w.heap.size w (Nat.le_of_lt (Nat.lt_trans HL1.out HL2.out)) H5.out.2.2.2)))); have f1 := H6.out.1.kind; rw [HK.out] at f1; have f2 := H6.out.1.ttl; have f3 := H6.out.1.target; have f4 := H6.out.1.data; clear a6 o6 z6 g6)
        | (refine wpList_alloc_fl rfl rfl ?_; intro w5 a5 b5 z5; have H5 := Lib.hid (And.intro (H4.out.1.later b5 (Nat.le_refl _)) (And.intro (H4.out.2.1.later b5 (Nat.le_refl _)) (And.intro a5 (H4.out.2.2.2.trans (b5.mono H4.out.2.2.2.size))))); have HB5 := Lib.hid b5; clear a5 b5 z5))
    refine (KT.out _).mono ?_
    rintro e w8 ⟨A8, c8, rfl, B8, b8⟩
    have H8 := Lib.hid (And.intro (H6.out.1.later b8 (Nat.le_refl _)) (And.intro (H6.out.2.1.later b8 (Nat.le_refl _)) (And.intro (H6.out.2.2.1.later b8 (Nat.le_refl _)) (H6.out.2.2.2.trans (b8.mono H6.out.2.2.2.size)))))
    have HB8 := Lib.hid B8
    have f5 := H8.out.1.ttl
    clear b8 B8
    go_wp2_with fail
    have HX := Lib.hid (show Bs w8 A8 M (c8) (dataB r) from by rw [hdt]; exact HB8.out)
    refine (put_bs H8.out.2.2.1 r.ttl 4 (by omega) (by omega)).mono ?_
    rintro e w20 ⟨A20, c20, rfl, B20, O20, b20⟩
    have H20 := Lib.hid (And.intro (H8.out.2.1.later b20 (Nat.le_refl _)) (And.intro B20 (And.intro (HX.out.later b20 (Nat.le_refl _)) (H8.out.2.2.2.trans (b20.mono H8.out.2.2.2.size)))))
    clear B20 O20 b20
    go_wp2_with fail
    refine (put_bs H20.out.2.1 ((M : Nat) : Int) 2 (by omega) (by omega)).mono ?_
    rintro e w21 ⟨A21, c21, rfl, B21, O21, b21⟩
    have HG := Lib.hid (FlBox.lt H20.out.1)
    have H21 := Lib.hid (And.intro (H20.out.1.later b21 (Nat.le_refl _)) (And.intro O21 (And.intro (H20.out.2.2.1.later b21 (Nat.le_refl _)) (And.intro (H20.out.2.2.2.trans (b21.mono H20.out.2.2.2.size)) b21.size))))
    clear B21 O21 b21
    go_wp2_with (first
      | (refine wpList_store_fl rfl (.tmp 3) (.tmp 54) rfl 0 0 false rfl rfl H22.out.1 ?_; intro w23 a23 o23 z23 g23; have H23 := Lib.hid (And.intro a23 (And.intro (H22.out.2.1.farBlk (fun a ha => Nat.ne_of_gt (Nat.lt_of_lt_of_le HG.out (H22.out.2.2.1 a ha))) o23) (g23 w.heap.size w (Nat.le_of_lt HL1.out) H22.out.2.2.2))); clear a23 o23 z23 g23)
      | (at_builtin; refine wpList_append_bs rfl (.tmp 51) (.tmp 52) 22 rfl w20.heap.size 5 info5 Tryz.underlying22 (.slice A21 (N + 4 + 2) c21) (N + 4 + 2) _ rfl H21.out.2.1 A8 M (c8) (dataB r) rfl H21.out.2.2.1 (by omega) H21.out.2.2.2.2 ?_; intro v22 w22 o22 g22 n22 m22; have b22 : Below w.heap.size w w22 := H21.out.2.2.2.1.grown g22 H21.out.2.2.2.1.size (fun q hq => Nat.le_trans (Nat.le_of_lt (Nat.lt_trans HL1.out HG.out)) (H21.out.2.1.lt q hq).1); obtain ⟨A22, c22, rfl, B22⟩ := Bs.of_own o22; have H22 := Lib.hid (And.intro (H21.out.1.same (g22.block _ (Nat.lt_of_lt_of_le HG.out H21.out.2.2.2.2) (fun hq => absurd (H21.out.2.1.lt _ hq.symm).1 (Nat.not_le_of_lt HG.out)))) (And.intro B22 (And.intro (own_ow o22) b22))); clear o22 g22 n22 m22 b22 B22))
    refine bodyPost_ret (results_tmp_fl rfl _ rfl H23.out.1) rfl ⟨A22, _, c22, rfl, ?_, (fun a ha => Nat.le_of_lt (Nat.lt_of_lt_of_le (Nat.lt_trans HL1.out HG.out) (H22.out.2.2.1 a ha))), H23.out.2.2⟩
    have hz := H23.out.2.1
    unfold writeRB
    rw [← HX.out.len] at hz
    rw [List.append_assoc, List.append_assoc] at hz
    rw [HX.out.len] at hz ⊢
    exact hz
    -->>
  --<< ke
  have hdt : dataB r = r.data := by unfold dataB; rw [if_neg (by omega), if_neg k5]
  clear hal
  go_enter Tryz.func38, Tryz.ntmps38
  go_wp2_with (first
    | (refine wpList_load_rc rfl (.tmp 1) rfl rfl H2.out.1 ?_)
    | (rw [HW.out]; refine wpList_alloc_fl rfl rfl ?_; intro w2 a2 b2 z2; have H2 := Lib.hid (And.intro (HA.out.1.later b2 (Nat.le_refl _)) (And.intro a2 (HA.out.2.trans (b2.mono HA.out.2.size)))); clear a2 b2 z2))
  refine (KR.out w2 H2.out.2.2).mono ?_
  rintro e w3 ⟨rfl, b3⟩
  have H3 := Lib.hid (And.intro (H2.out.1.later b3 (Nat.le_refl _)) (And.intro (H2.out.2.1.later b3 (Nat.le_refl _)) (H2.out.2.2.trans (b3.mono H2.out.2.2.size))))
  clear b3
  have e0 := H3.out.1.name
  have e1 := H3.out.1.kind
  have e2 := H3.out.1.cls
  go_wp2_with (refine wpList_build_qs rfl (.tmp 13) (.tmp 15) (.tmp 17) rfl r.asks rfl rfl rfl ?_)
  refine (KW.out w3).mono ?_
  rintro e w4 ⟨A4, c4, rfl, B4, O4, b4⟩
  have H4 := Lib.hid (And.intro (H3.out.1.later b4 (Nat.le_refl _)) (And.intro (H3.out.2.1.later b4 (Nat.le_refl _)) (And.intro B4 (H3.out.2.2.trans (b4.mono H3.out.2.2.size)))))
  have HL2 := Lib.hid (FlBox.lt H4.out.2.1)
  clear B4 O4 b4 e0 e1 e2
  go_wp2_with (first
      | (refine wpList_store_fl rfl (.tmp 5) (.tmp 21) rfl 0 0 false rfl rfl H5.out.2.2.1 ?_; intro w6 a6 o6 z6 g6; have H6 := Lib.hid (And.intro (H5.out.1.same (o6 _ (Nat.ne_of_lt (Nat.lt_trans HL1.out HL2.out)))) (And.intro (H5.out.2.1.same (o6 _ (Nat.ne_of_lt HL2.out))) (And.intro (H4.out.2.2.1.keep (fun b o hb => World.cell?_of_block ((o6 b (Nat.ne_of_lt hb)).trans (HB5.out.block b hb)))) (g6 w.heap.size w (Nat.le_of_lt (Nat.lt_trans HL1.out HL2.out)) H5.out.2.2.2)))); have f1 := H6.out.1.kind; have f2 := H6.out.1.ttl; have f3 := H6.out.1.target; have f4 := H6.out.1.data; clear a6 o6 z6 g6)
      | (refine wpList_alloc_fl rfl rfl ?_; intro w5 a5 b5 z5; have H5 := Lib.hid (And.intro (H4.out.1.later b5 (Nat.le_refl _)) (And.intro (H4.out.2.1.later b5 (Nat.le_refl _)) (And.intro a5 (H4.out.2.2.2.trans (b5.mono H4.out.2.2.2.size))))); have HB5 := Lib.hid b5; clear a5 b5 z5))
  have HX := Lib.hid (show Bs w6 A n (c) (dataB r) from by rw [hdt]; exact HB.out.later H6.out.2.2.2 (Nat.le_refl _))
  refine (put_bs H6.out.2.2.1 r.ttl 4 (by omega) (by omega)).mono ?_
  rintro e w20 ⟨A20, c20, rfl, B20, O20, b20⟩
  have H20 := Lib.hid (And.intro (H6.out.2.1.later b20 (Nat.le_refl _)) (And.intro B20 (And.intro (HX.out.later b20 (Nat.le_refl _)) (H6.out.2.2.2.trans (b20.mono H6.out.2.2.2.size)))))
  clear B20 O20 b20
  go_wp2_with fail
  refine (put_bs H20.out.2.1 ((n : Nat) : Int) 2 (by omega) (by omega)).mono ?_
  rintro e w21 ⟨A21, c21, rfl, B21, O21, b21⟩
  have HG := Lib.hid (FlBox.lt H20.out.1)
  have H21 := Lib.hid (And.intro (H20.out.1.later b21 (Nat.le_refl _)) (And.intro O21 (And.intro (H20.out.2.2.1.later b21 (Nat.le_refl _)) (And.intro (H20.out.2.2.2.trans (b21.mono H20.out.2.2.2.size)) b21.size))))
  clear B21 O21 b21
  go_wp2_with (first
    | (refine wpList_store_fl rfl (.tmp 3) (.tmp 54) rfl 0 0 false rfl rfl H22.out.1 ?_; intro w23 a23 o23 z23 g23; have H23 := Lib.hid (And.intro a23 (And.intro (H22.out.2.1.farBlk (fun a ha => Nat.ne_of_gt (Nat.lt_of_lt_of_le HG.out (H22.out.2.2.1 a ha))) o23) (g23 w.heap.size w (Nat.le_of_lt HL1.out) H22.out.2.2.2))); clear a23 o23 z23 g23)
    | (at_builtin; refine wpList_append_bs rfl (.tmp 51) (.tmp 52) 22 rfl w20.heap.size 5 info5 Tryz.underlying22 (.slice A21 (N + 4 + 2) c21) (N + 4 + 2) _ rfl H21.out.2.1 A n (c) (dataB r) rfl H21.out.2.2.1 (by omega) H21.out.2.2.2.2 ?_; intro v22 w22 o22 g22 n22 m22; have b22 : Below w.heap.size w w22 := H21.out.2.2.2.1.grown g22 H21.out.2.2.2.1.size (fun q hq => Nat.le_trans (Nat.le_of_lt (Nat.lt_trans HL1.out HG.out)) (H21.out.2.1.lt q hq).1); obtain ⟨A22, c22, rfl, B22⟩ := Bs.of_own o22; have H22 := Lib.hid (And.intro (H21.out.1.same (g22.block _ (Nat.lt_of_lt_of_le HG.out H21.out.2.2.2.2) (fun hq => absurd (H21.out.2.1.lt _ hq.symm).1 (Nat.not_le_of_lt HG.out)))) (And.intro B22 (And.intro (own_ow o22) b22))); clear o22 g22 n22 m22 b22 B22))
  refine bodyPost_ret (results_tmp_fl rfl _ rfl H23.out.1) rfl ⟨A22, _, c22, rfl, ?_, (fun a ha => Nat.le_of_lt (Nat.lt_of_lt_of_le (Nat.lt_trans HL1.out HG.out) (H22.out.2.2.1 a ha))), H23.out.2.2⟩
  have hz := H23.out.2.1
  unfold writeRB
  rw [← HX.out.len] at hz
  rw [List.append_assoc, List.append_assoc] at hz
  rw [HX.out.len] at hz ⊢
  exact hz
  -->>
end Go.Proofs.YtbikifaadpijnaaGreatDoor
