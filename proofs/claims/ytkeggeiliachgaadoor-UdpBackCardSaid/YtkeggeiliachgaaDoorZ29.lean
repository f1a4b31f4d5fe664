/-
  stockadelaw09.UdpBack answers true, whatever is handed in. Conditions: those of the slices; errors.errorType holds the handle of the type error.
-/
import Derived.Test.YtkeggeiliachgaaDoorZ28
import Derived.Test.YtkeggeiliachgaaDoorZ19
import Derived.Test.YtkeggeiliachgaaDoorZ07
import Derived.Deep.DeepCutAuto
import Derived.IntWalk
namespace Go.Proofs.YtkeggeiliachgaaDoor
open Go.RowKit
set_option maxRecDepth 100000

set_option maxHeartbeats 16000000 in
theorem udpBack {B E : Option Addr} {m d k ce : Nat} {s : Dg} {ml : List UInt8} {w : World} (hp : Bs w B m d s.pay) (he : Bs w E k ce ml) (sv dv v6 : Bool) {sb db : List UInt8} (hsb : sb.length = 16) (hdb : db.length = 16) (hg : Handle w) :
    Calls Tryd.prog 4 #[.agg (dgv s B m d), .agg (adv sv sb), .agg (adv dv db), .bool v6, .slice E k ce] w fun e w' => e = .returned (.bool true) ∧ Below w.heap.size w w' := by
  have hm2 := Nat.le_trans hp.cap hp.max
  have hm3 := Nat.le_trans he.cap he.max
  have hpl := hp.len
  have hel := he.len
  unfold maxLen at hm2 hm3
  have HB := Lib.hid (And.intro hp (And.intro he hg))
  clear hp he hg
  have s0 := DgBox.new w s B m d
  have b0 : Below w.heap.size w (w.alloc (.cells (dgv s B m d) 27)) := (Below.refl _ _).alloc (Nat.le_refl _) _
  obtain ⟨W1, hW1⟩ : ∃ W1, w.alloc (.cells (dgv s B m d) 27) = W1 := ⟨_, rfl⟩
  have z1 : W1.heap.size = w.heap.size + 1 := by rw [← hW1, World.size_alloc]
  rw [hW1] at s0 b0
  have a1 := AdBox.new W1 sv hsb
  have b1 : Below W1.heap.size W1 (W1.alloc (.cells (adv sv sb) 25)) := (Below.refl _ _).alloc (Nat.le_refl _) _
  obtain ⟨W2, hW2⟩ : ∃ W2, W1.alloc (.cells (adv sv sb) 25) = W2 := ⟨_, rfl⟩
  have z2 : W2.heap.size = w.heap.size + 1 + 1 := by rw [← hW2, World.size_alloc, z1]
  rw [hW2] at a1 b1
  have a2 := AdBox.new W2 dv hdb
  have b2 : Below W2.heap.size W2 (W2.alloc (.cells (adv dv db) 25)) := (Below.refl _ _).alloc (Nat.le_refl _) _
  obtain ⟨W, hW⟩ : ∃ W, W2.alloc (.cells (adv dv db) 25) = W := ⟨_, rfl⟩
  rw [hW] at a2 b2
  have hA := And.intro ((s0.later b1 (Nat.le_refl _)).later b2 (Nat.le_refl _)) (And.intro (a1.later b2 (Nat.le_refl _)) (And.intro a2 ((b0.trans (b1.mono (by omega))).trans (b2.mono (by omega)))))
  rw [z1, z2] at hA
  have HA := Lib.hid hA
  have HW : Hid (((w.alloc (.cells (dgv s B m d) 27)).alloc (.cells (adv sv sb) 25)).alloc (.cells (adv dv db) 25) = W) := by rw [hW1, hW2, hW]; exact Lib.hid rfl
  clear s0 b0 a1 b1 a2 b2 hA hW1 hW2 hW z1 z2 W1 W2
  obtain ⟨sp, dp, pay⟩ := s
  unfold dgv at HW
  dsimp only at HW hpl
  rw [show dgv ⟨sp, dp, pay⟩ B m d = #[.int .i64 sp, .int .i64 dp, .slice B m d] from rfl]
  by_cases hbig : 1500 < m
  · have hqd : decide ((1500 : Int) < (m : Int)) = true := decide_eq_true (by omega)
    go_enter Tryd.func4, Tryd.ntmps4
    go_wp2_with fail
    rw [HW.out]
    refine (awake09 _).mono ?_
    rintro e w1 ⟨rfl, b1⟩
    have H1 := Lib.hid (HA.out.2.2.2.trans (b1.mono HA.out.2.2.2.size))
    clear b1
    go_wp2_with fail
    go_ret
    exact ⟨rfl, H1.out⟩
  have hqd : decide ((1500 : Int) < (m : Int)) = false := decide_eq_false (by omega)
  by_cases hbig2 : 100 < k
  · have hqe : decide ((100 : Int) < (k : Int)) = true := decide_eq_true (by omega)
    go_enter Tryd.func4, Tryd.ntmps4
    go_wp2_with fail
    rw [HW.out]
    refine (awake09 _).mono ?_
    rintro e w1 ⟨rfl, b1⟩
    have H1 := Lib.hid (HA.out.2.2.2.trans (b1.mono HA.out.2.2.2.size))
    clear b1
    go_wp2_with fail
    go_ret
    exact ⟨rfl, H1.out⟩
  have hqe : decide ((100 : Int) < (k : Int)) = false := decide_eq_false (by omega)
  obtain ⟨p1, p2⟩ := num_mod8 sp 65536 (by omega) (by omega)
  obtain ⟨p3, p4⟩ := num_mod8 dp 65536 (by omega) (by omega)
  go_enter Tryd.func4, Tryd.ntmps4
  go_upto_region 3 with fail
  rw [HW.out]
  go_cut [33] (fun _ wx => DgBox wx w.heap.size ⟨sp, dp, pay⟩ B m d ∧ AdBox wx (w.heap.size + 1) v6 (norm v6 sb) ∧ AdBox wx (w.heap.size + 1 + 1) v6 (norm v6 db) ∧ Below w.heap.size w wx)
  case first =>
    have hS : Below w.heap.size w W.drew := HA.out.2.2.2.drew
    have SG : DgBox W.drew w.heap.size ⟨sp, dp, pay⟩ B m d := HA.out.1.later (Below.refl _ _).drew (Nat.le_refl _)
    have P1 : AdBox W.drew (w.heap.size + 1) sv sb := HA.out.2.1.later (Below.refl _ _).drew (Nat.le_refl _)
    have P2 : AdBox W.drew (w.heap.size + 1 + 1) dv db := HA.out.2.2.1.later (Below.refl _ _).drew (Nat.le_refl _)
    refine rg_begin (fun w' => Below w.heap.size w w') 8 (by kernel_rfl) rfl ?_
    obtain ⟨W0, hW0⟩ : ∃ W0, W.drew = W0 := ⟨_, rfl⟩
    rw [hW0] at hS SG P1 P2 ⊢
    clear hW0
    refine rg_take 1 (v := ?rv1) rfl (by kernel_rfl) (by kernel_rfl) (by kernel_rfl) (fun _ _ _ h => h) (by rfl) hS (fun w2 hw2 => ?ry1) ?rr1
    case ry1 => ((try dsimp only at hw2); go_simp <;> with_reducible rfl)
    simp only [Act.put, List.setIfInBounds_toArray, List.set_cons_zero, List.set_cons_succ]
    refine rg_take 4 (v := ?rv2) rfl (by kernel_rfl) (by kernel_rfl) (by kernel_rfl) (fun _ _ _ h => h) (by rfl) hS (fun w2 hw2 => ?ry2) ?rr2
    case ry2 => ((try dsimp only at hw2); go_simp <;> with_reducible rfl)
    simp only [Act.put, List.setIfInBounds_toArray, List.set_cons_zero, List.set_cons_succ]
    refine rg_any [0, 3] (by kernel_rfl) (by simp) ?_
    refine rg_or 0 rfl (by rfl) (fun K hK => ?_) ?_
    · refine wp_load_ad (.tmp 6) rfl rfl P1 ?_
      refine hK.out _ _ hS ?_
      clear hK K
      try simp only [Act.put, List.setIfInBounds_toArray, List.set_cons_zero, List.set_cons_succ]
      refine rg_any [2, 3] (by kernel_rfl) (by simp) ?_
      refine rg_or 2 rfl (by rfl) (fun K hK => ?_) ?_
      · go_simp
        refine (play_addr sv v6 sb hsb _).mono ?_
        rintro e u2 ⟨rfl, bK⟩
        replace SG := SG.later bK (Nat.le_refl _)
        replace P1 := P1.later bK (Nat.le_refl _)
        replace P2 := P2.later bK (Nat.le_refl _)
        replace hS := hS.trans (bK.mono hS.size)
        clear bK
        refine hK.out _ _ hS ?_
        clear hK K
        try simp only [Act.put, List.setIfInBounds_toArray, List.set_cons_zero, List.set_cons_succ]
        refine rg_step 3 rfl (by kernel_rfl) (by rfl) (fun K hK => ?_)
        refine wp_load_ad (.tmp 7) rfl rfl P2 ?_
        refine hK.out _ _ hS ?_
        clear hK K
        try simp only [Act.put, List.setIfInBounds_toArray, List.set_cons_zero, List.set_cons_succ]
        refine rg_step 5 rfl (by kernel_rfl) (by rfl) (fun K hK => ?_)
        go_simp
        refine (play_addr dv v6 db hdb _).mono ?_
        rintro e u4 ⟨rfl, bK⟩
        replace SG := SG.later bK (Nat.le_refl _)
        replace P1 := P1.later bK (Nat.le_refl _)
        replace P2 := P2.later bK (Nat.le_refl _)
        replace hS := hS.trans (bK.mono hS.size)
        clear bK
        refine hK.out _ _ hS ?_
        clear hK K
        try simp only [Act.put, List.setIfInBounds_toArray, List.set_cons_zero, List.set_cons_succ]
        refine rg_step 6 rfl (by kernel_rfl) (by rfl) (fun K hK => ?_)
        refine wp_store_adF (.tmp 6) (.tmp 30) rfl rfl rfl (norm_len v6 hsb) P1 ?_
        intro x6 N6 far keep
        replace SG := SG.same (far _ (by omega))
        replace P2 := P2.same (far _ (by omega))
        replace hS := keep _ _ (by omega) hS
        clear P1 far keep
        have P1 := N6
        clear N6
        refine hK.out _ _ hS ?_
        clear hK K
        simp only [Act.put]
        refine rg_step 7 rfl (by kernel_rfl) (by rfl) (fun K hK => ?_)
        refine wp_store_adF (.tmp 7) (.tmp 33) rfl rfl rfl (norm_len v6 hdb) P2 ?_
        intro x7 N7 far keep
        replace SG := SG.same (far _ (by omega))
        replace P1 := P1.same (far _ (by omega))
        replace hS := keep _ _ (by omega) hS
        clear P2 far keep
        have P2 := N7
        clear N7
        refine hK.out _ _ hS ?_
        clear hK K
        simp only [Act.put]
        refine rg_done (by kernel_rfl) ?_
        go_wp2_with fail
        go_meet
        exact ⟨SG, P1, P2, hS⟩
      refine rg_or 3 rfl (by rfl) (fun K hK => ?_) ?_
      · refine wp_load_ad (.tmp 7) rfl rfl P2 ?_
        refine hK.out _ _ hS ?_
        clear hK K
        try simp only [Act.put, List.setIfInBounds_toArray, List.set_cons_zero, List.set_cons_succ]
        refine rg_step 2 rfl (by kernel_rfl) (by rfl) (fun K hK => ?_)
        go_simp
        refine (play_addr sv v6 sb hsb _).mono ?_
        rintro e u6 ⟨rfl, bK⟩
        replace SG := SG.later bK (Nat.le_refl _)
        replace P1 := P1.later bK (Nat.le_refl _)
        replace P2 := P2.later bK (Nat.le_refl _)
        replace hS := hS.trans (bK.mono hS.size)
        clear bK
        refine hK.out _ _ hS ?_
        clear hK K
        try simp only [Act.put, List.setIfInBounds_toArray, List.set_cons_zero, List.set_cons_succ]
        refine rg_step 5 rfl (by kernel_rfl) (by rfl) (fun K hK => ?_)
        go_simp
        refine (play_addr dv v6 db hdb _).mono ?_
        rintro e u7 ⟨rfl, bK⟩
        replace SG := SG.later bK (Nat.le_refl _)
        replace P1 := P1.later bK (Nat.le_refl _)
        replace P2 := P2.later bK (Nat.le_refl _)
        replace hS := hS.trans (bK.mono hS.size)
        clear bK
        refine hK.out _ _ hS ?_
        clear hK K
        try simp only [Act.put, List.setIfInBounds_toArray, List.set_cons_zero, List.set_cons_succ]
        refine rg_step 6 rfl (by kernel_rfl) (by rfl) (fun K hK => ?_)
        refine wp_store_adF (.tmp 6) (.tmp 30) rfl rfl rfl (norm_len v6 hsb) P1 ?_
        intro x6 N6 far keep
        replace SG := SG.same (far _ (by omega))
        replace P2 := P2.same (far _ (by omega))
        replace hS := keep _ _ (by omega) hS
        clear P1 far keep
        have P1 := N6
        clear N6
        refine hK.out _ _ hS ?_
        clear hK K
        simp only [Act.put]
        refine rg_step 7 rfl (by kernel_rfl) (by rfl) (fun K hK => ?_)
        refine wp_store_adF (.tmp 7) (.tmp 33) rfl rfl rfl (norm_len v6 hdb) P2 ?_
        intro x7 N7 far keep
        replace SG := SG.same (far _ (by omega))
        replace P1 := P1.same (far _ (by omega))
        replace hS := keep _ _ (by omega) hS
        clear P2 far keep
        have P2 := N7
        clear N7
        refine hK.out _ _ hS ?_
        clear hK K
        simp only [Act.put]
        refine rg_done (by kernel_rfl) ?_
        go_wp2_with fail
        go_meet
        exact ⟨SG, P1, P2, hS⟩
      exact AllReadyH.nil
    refine rg_or 3 rfl (by rfl) (fun K hK => ?_) ?_
    · refine wp_load_ad (.tmp 7) rfl rfl P2 ?_
      refine hK.out _ _ hS ?_
      clear hK K
      try simp only [Act.put, List.setIfInBounds_toArray, List.set_cons_zero, List.set_cons_succ]
      refine rg_step 0 rfl (by kernel_rfl) (by rfl) (fun K hK => ?_)
      refine wp_load_ad (.tmp 6) rfl rfl P1 ?_
      refine hK.out _ _ hS ?_
      clear hK K
      try simp only [Act.put, List.setIfInBounds_toArray, List.set_cons_zero, List.set_cons_succ]
      refine rg_step 2 rfl (by kernel_rfl) (by rfl) (fun K hK => ?_)
      go_simp
      refine (play_addr sv v6 sb hsb _).mono ?_
      rintro e u10 ⟨rfl, bK⟩
      replace SG := SG.later bK (Nat.le_refl _)
      replace P1 := P1.later bK (Nat.le_refl _)
      replace P2 := P2.later bK (Nat.le_refl _)
      replace hS := hS.trans (bK.mono hS.size)
      clear bK
      refine hK.out _ _ hS ?_
      clear hK K
      try simp only [Act.put, List.setIfInBounds_toArray, List.set_cons_zero, List.set_cons_succ]
      refine rg_step 5 rfl (by kernel_rfl) (by rfl) (fun K hK => ?_)
      go_simp
      refine (play_addr dv v6 db hdb _).mono ?_
      rintro e u11 ⟨rfl, bK⟩
      replace SG := SG.later bK (Nat.le_refl _)
      replace P1 := P1.later bK (Nat.le_refl _)
      replace P2 := P2.later bK (Nat.le_refl _)
      replace hS := hS.trans (bK.mono hS.size)
      clear bK
      refine hK.out _ _ hS ?_
      clear hK K
      try simp only [Act.put, List.setIfInBounds_toArray, List.set_cons_zero, List.set_cons_succ]
      refine rg_step 6 rfl (by kernel_rfl) (by rfl) (fun K hK => ?_)
      refine wp_store_adF (.tmp 6) (.tmp 30) rfl rfl rfl (norm_len v6 hsb) P1 ?_
      intro x6 N6 far keep
      replace SG := SG.same (far _ (by omega))
      replace P2 := P2.same (far _ (by omega))
      replace hS := keep _ _ (by omega) hS
      clear P1 far keep
      have P1 := N6
      clear N6
      refine hK.out _ _ hS ?_
      clear hK K
      simp only [Act.put]
      refine rg_step 7 rfl (by kernel_rfl) (by rfl) (fun K hK => ?_)
      refine wp_store_adF (.tmp 7) (.tmp 33) rfl rfl rfl (norm_len v6 hdb) P2 ?_
      intro x7 N7 far keep
      replace SG := SG.same (far _ (by omega))
      replace P1 := P1.same (far _ (by omega))
      replace hS := keep _ _ (by omega) hS
      clear P2 far keep
      have P2 := N7
      clear N7
      refine hK.out _ _ hS ?_
      clear hK K
      simp only [Act.put]
      refine rg_done (by kernel_rfl) ?_
      go_wp2_with fail
      go_meet
      exact ⟨SG, P1, P2, hS⟩
    exact AllReadyH.nil
  case rest =>
  obtain ⟨x1, x2, x3, hB⟩ := hcut
  obtain ⟨W5, rfl⟩ : ∃ W5, W5 = wc := ⟨_, rfl⟩
  have d0 := x1.cell 0
  have d1 := x1.cell 1
  dsimp only [dgv] at d0 d1
  simp only [List.getElem?_toArray, List.getElem?_cons_zero, List.getElem?_cons_succ] at d0 d1
  have f0 := x1.frozen 0
  have f1 := x1.frozen 1
  have H3 := Lib.hid (And.intro x1 (And.intro x2 (And.intro x3 hB)))
  clear x1 x2 x3 hB
  go_upto_region 5 with fail
  generalize wrap64 ((IntKind.u64.wrap sp).tmod 65536) = sp1 at p1 p2 ⊢
  generalize wrap64 ((IntKind.u64.wrap dp).tmod 65536) = dp1 at p3 p4 ⊢
  have x1 := (H3.out.1.putSp sp1).putDp dp1
  have x2 := (H3.out.2.1.far (p := ⟨w.heap.size, 0, none⟩) (by simp) (.int .i64 sp1)).far (p := ⟨w.heap.size, 1, none⟩) (by simp) (.int .i64 dp1)
  have x3 := (H3.out.2.2.1.far (p := ⟨w.heap.size, 0, none⟩) (by simp; omega) (.int .i64 sp1)).far (p := ⟨w.heap.size, 1, none⟩) (by simp; omega) (.int .i64 dp1)
  have hB := (H3.out.2.2.2.setCell (p := ⟨w.heap.size, 0, none⟩) (Nat.le_refl _) (.int .i64 sp1)).setCell (p := ⟨w.heap.size, 1, none⟩) (Nat.le_refl _) (.int .i64 dp1)
  generalize (W5.setCell ⟨w.heap.size, 0, none⟩ (.int .i64 sp1)).setCell ⟨w.heap.size, 1, none⟩ (.int .i64 dp1) = W6 at x1 x2 x3 hB ⊢
  have H4 := Lib.hid (And.intro x1 (And.intro x2 (And.intro x3 hB)))
  clear x1 x2 x3 hB d0 d1 f0 f1
  have hmt : mayD ⟨sp1, dp1, pay⟩ := ⟨⟨p1, by dsimp only; omega⟩, ⟨p3, by dsimp only; omega⟩, by dsimp only; omega⟩
  obtain ⟨N0, hN0⟩ : ∃ N0, N0 = 8 + m := ⟨_, rfl⟩
  have k3 := fun w1 (b : Below w.heap.size w w1) => buildU_ok (s := ⟨sp1, dp1, pay⟩) hmt (HB.out.1.later b (Nat.le_refl _)) v6 v6 (norm_len v6 hsb) (norm_len v6 hdb)
  have k5 := fun (w1 : World) (A1 : Option Addr) (n1 c1 : Nat) (b : Bs w1 A1 n1 c1 (udpB (aheadL v6 (norm v6 sb) (norm v6 db) 17 (8 + m)) ⟨sp1, dp1, pay⟩ ++ ml)) => parseU_built (dv := v6) (norm_len v6 hsb) (norm_len v6 hdb) hmt (show 8 + m = 8 + (⟨sp1, dp1, pay⟩ : Dg).pay.length by dsimp only; omega) (by omega) b
  have k6 := fun (w1 : World) (A1 : Option Addr) (c1 : Nat) (b : Bs w1 A1 (8 + m) c1 (((udpB (aheadL v6 (norm v6 sb) (norm v6 db) 17 (8 + m)) ⟨sp1, dp1, pay⟩).set 6 0).set 7 0)) => parseU_none (sv := v6) (dv := v6) (norm_len v6 hsb) (norm_len v6 hdb) hmt (show 8 + m = 8 + (⟨sp1, dp1, pay⟩ : Dg).pay.length by dsimp only; omega) b
  generalize udpB (aheadL v6 (norm v6 sb) (norm v6 db) 17 (8 + m)) ⟨sp1, dp1, pay⟩ = tb at k3 k5 k6
  rw [← hN0] at k3 k6
  unfold ParU at k5 k6
  have K3 := Lib.hid k3
  have K5 := Lib.hid k5
  have K6 := Lib.hid k6
  have hN2 : (N0 : Int) = 8 + (m : Int) := by omega
  have HN0 := Lib.hid hN0
  have hN8 : 8 ≤ N0 ∧ N0 ≤ 1508 := by omega
  clear k3 k5 k6 hmt p1 p2 p3 p4 hN0
  go_wp2_with (first
    | (refine wpList_load_dg rfl (.tmp 5) rfl rfl H4.out.1 ?_)
    | (refine wpList_load_ad rfl (.tmp 6) rfl rfl H4.out.2.1 ?_)
    | (refine wpList_load_ad rfl (.tmp 7) rfl rfl H4.out.2.2.1 ?_))
  refine (K3.out _ H4.out.2.2.2).mono ?_
  rintro e w7 ⟨A7, c7, rfl, q7, b7⟩
  have H7 := Lib.hid (And.intro (H4.out.1.later b7 (Nat.le_refl _)) (And.intro (H4.out.2.1.later b7 (Nat.le_refl _)) (And.intro (H4.out.2.2.1.later b7 (Nat.le_refl _)) (And.intro (q7) (H4.out.2.2.2.trans (b7.mono H4.out.2.2.2.size))))))
  clear q7 b7
  go_wp2_with fail
  refine (awake09 _).mono ?_
  rintro e w8 ⟨rfl, b8⟩
  have H8 := Lib.hid (And.intro (H7.out.1.later b8 (Nat.le_refl _)) (And.intro (H7.out.2.1.later b8 (Nat.le_refl _)) (And.intro (H7.out.2.2.1.later b8 (Nat.le_refl _)) (And.intro (H7.out.2.2.2.1.later b8 (Nat.le_refl _)) (H7.out.2.2.2.2.trans (b8.mono H7.out.2.2.2.2.size))))))
  clear b8
  have d2 : w8.cell? ⟨w.heap.size, 2, none⟩ = some (.slice B m d) := H8.out.1.cell 2
  go_upto_region 8 with fail
  clear d2
  go_cut [13, 14] (fun p v wx => ∃ (g : Nat) (A5 : Option Addr) (n5 c5 : Nat), p = .pointer (some ⟨g, 0, none⟩) ∧ v = .nilIface ∧ DgBox wx g ⟨sp1, dp1, pay⟩ A5 n5 c5 ∧ Bs wx A5 n5 c5 pay ∧ Below w8.heap.size w8 wx)
  case first =>
    have hS : Below w8.heap.size w8 w8.drew := (Below.refl _ _).drew
    refine rg_begin (fun w' => Below w8.heap.size w8 w') 13 (by kernel_rfl) rfl ?_
    obtain ⟨W0, hW0⟩ : ∃ W0, w8.drew = W0 := ⟨_, rfl⟩
    rw [hW0] at hS ⊢
    clear hW0
    refine rg_take 0 (v := ?rv3) rfl (by kernel_rfl) (by kernel_rfl) (by kernel_rfl) (fun _ _ _ h => h) (by rfl) hS (fun w2 hw2 => ?ry3) ?rr3
    case ry3 => ((try dsimp only at hw2); go_simp <;> with_reducible rfl)
    simp only [Act.put, List.setIfInBounds_toArray, List.set_cons_zero, List.set_cons_succ]
    refine rg_take 2 (v := ?rv4) rfl (by kernel_rfl) (by kernel_rfl) (by kernel_rfl) (fun _ _ _ h => h) (by rfl) hS (fun w2 hw2 => ?ry4) ?rr4
    case ry4 => ((try dsimp only at hw2); go_simp <;> with_reducible rfl)
    simp only [Act.put, List.setIfInBounds_toArray, List.set_cons_zero, List.set_cons_succ]
    refine rg_load 4 rfl (by kernel_rfl) (by kernel_rfl) (by kernel_rfl) ((w.heap.size+1)) 0 (adv v6 (norm v6 sb)) (fun _ _ _ h => h) (by rfl) 25 (.tmp 6) rfl rfl hS (fun w2 h2 => (AdBox.later H8.out.2.1 h2 (Nat.le_refl _)).range) Tryd.underlying25 rfl (ad_size v6 H8.out.2.1.2) ?_
    simp only [Act.put, List.setIfInBounds_toArray, List.set_cons_zero, List.set_cons_succ]
    refine rg_load 5 rfl (by kernel_rfl) (by kernel_rfl) (by kernel_rfl) ((w.heap.size+1+1)) 0 (adv v6 (norm v6 db)) (fun _ _ _ h => h) (by rfl) 25 (.tmp 7) rfl rfl hS (fun w2 h2 => (AdBox.later H8.out.2.2.1 h2 (Nat.le_refl _)).range) Tryd.underlying25 rfl (ad_size v6 H8.out.2.2.1.2) ?_
    simp only [Act.put, List.setIfInBounds_toArray, List.set_cons_zero, List.set_cons_succ]
    refine rg_any [1, 10] (by kernel_rfl) (by simp) ?_
    refine rg_or 1 rfl (by rfl) (fun K hK => ?_) ?_
    · refine wp_append_bs (.const (.slice none 0 0)) (.tmp 69) 22 rfl _ 5 info5 Tryd.underlying22 _ 0 [] rfl (World.ownsRow_nil _ _ _ _) _ N0 c7 tb rfl (H8.out.2.2.2.1.later hS (Nat.le_refl _)) (by omega) (Nat.le_refl _) ?_
      intro v1 u1 O gr _ _
      have bK := (Below.refl _ _).grown gr (Nat.le_refl _) (fun q hq => by cases hq)
      have hWb := hS.size
      replace O := owns_n (n' := N0) (by omega) O
      rw [List.nil_append] at O
      obtain ⟨gx, cx, rfl, hx1, hx2⟩ := O.form (by omega)
      clear gr
      replace hS := hS.trans (bK.mono hS.size)
      clear bK
      refine hK.out _ _ hS ?_
      clear hK K
      try simp only [Act.put, List.setIfInBounds_toArray, List.set_cons_zero, List.set_cons_succ]
      refine rg_any [3, 10] (by kernel_rfl) (by simp) ?_
      refine rg_or 3 rfl (by rfl) (fun K hK => ?_) ?_
      · refine wp_append_bs (.tmp 70) (.tmp 71) 22 rfl _ 5 info5 Tryd.underlying22 _ _ _ rfl O E k ce ml rfl ((HB.out.2.1.later H8.out.2.2.2.2 (Nat.le_refl _)).later hS (Nat.le_refl _)) (by omega) (by have := O.lt _ rfl; omega) ?_
        intro v2 u2 o2 gr _ _
        replace hS := hS.grown gr hS.size (fun q hq => Nat.le_trans hWb (O.lt q hq).1)
        obtain ⟨Am, cm, rfl, M⟩ := Bs.of_own o2
        clear O o2 gr hx1 hx2 hWb
        refine hK.out _ _ hS ?_
        clear hK K
        try simp only [Act.put, List.setIfInBounds_toArray, List.set_cons_zero, List.set_cons_succ]
        refine rg_any [6, 10] (by kernel_rfl) (by simp) ?_
        refine rg_or 6 rfl (by rfl) (fun K hK => ?_) ?_
        · go_simp
          refine (K5.out _ _ _ _ M).mono ?_
          rintro e u3 ⟨Ap, np, cp, vp, rfl, Q, T, bK⟩
          obtain rfl := Tells.none' T rfl
          clear T
          replace M := M.later bK (Nat.le_refl _)
          replace hS := hS.trans (bK.mono hS.size)
          clear bK
          clear M
          refine hK.out _ _ hS ?_
          clear hK K
          try simp only [Act.put, List.setIfInBounds_toArray, List.set_cons_zero, List.set_cons_succ]
          refine rg_take 7 (v := ?rv5) rfl (by kernel_rfl) (by kernel_rfl) (by kernel_rfl) (fun _ _ _ h => h) (by rfl) hS (fun w2 hw2 => ?ry5) ?rr5
          case ry5 => ((try dsimp only at hw2); go_simp <;> with_reducible rfl)
          simp only [Act.put, List.setIfInBounds_toArray, List.set_cons_zero, List.set_cons_succ]
          refine rg_take 8 (v := ?rv6) rfl (by kernel_rfl) (by kernel_rfl) (by kernel_rfl) (fun _ _ _ h => h) (by rfl) hS (fun w2 hw2 => ?ry6) ?rr6
          case ry6 => ((try dsimp only at hw2); go_simp <;> with_reducible rfl)
          simp only [Act.put, List.setIfInBounds_toArray, List.set_cons_zero, List.set_cons_succ]
          refine rg_take 9 (v := ?rv7) rfl (by kernel_rfl) (by kernel_rfl) (by kernel_rfl) (fun _ _ _ h => h) (by rfl) hS (fun w2 hw2 => ?ry7) ?rr7
          case ry7 => ((try dsimp only at hw2); go_simp <;> with_reducible rfl)
          simp only [Act.put, List.setIfInBounds_toArray, List.set_cons_zero, List.set_cons_succ]
          refine rg_step 10 rfl (by kernel_rfl) (by rfl) (fun K hK => ?_)
          refine wp_alloc_dgF rfl ?_
          intro u4 G bK
          have lG := hS.size
          replace Q := Q.later bK (Nat.le_refl _)
          replace hS := hS.trans (bK.mono hS.size)
          clear bK
          refine hK.out _ _ hS ?_
          clear hK K
          try simp only [Act.put, List.setIfInBounds_toArray, List.set_cons_zero, List.set_cons_succ]
          refine rg_step 11 rfl (by kernel_rfl) (by rfl) (fun K hK => ?_)
          refine wp_store_dgF (.tmp 13) (.tmp 76) rfl ⟨sp1, dp1, pay⟩ Ap np cp rfl rfl G ?_
          intro ux G2 far keep
          have Q2 := Q.farDg G far
          replace hS := keep _ _ lG hS
          clear G Q far keep
          refine hK.out _ _ hS ?_
          clear hK K
          simp only [Act.put]
          refine rg_take 12 (v := ?rv8) rfl (by kernel_rfl) (by kernel_rfl) (by kernel_rfl) (fun _ _ _ h => h) (by rfl) hS (fun w2 hw2 => ?ry8) ?rr8
          case ry8 => ((try dsimp only at hw2); go_simp <;> with_reducible rfl)
          simp only [Act.put, List.setIfInBounds_toArray, List.set_cons_zero, List.set_cons_succ]
          refine rg_done (by kernel_rfl) ?_
          go_wp2_with fail
          go_meet
          exact ⟨_, Ap, np, cp, rfl, rfl, G2, Q2, hS⟩
        refine rg_or 10 rfl (by rfl) (fun K hK => ?_) ?_
        · refine wp_alloc_dgF rfl ?_
          intro u5 G bK
          have lG := hS.size
          replace M := M.later bK (Nat.le_refl _)
          replace hS := hS.trans (bK.mono hS.size)
          clear bK
          refine hK.out _ _ hS ?_
          clear hK K
          try simp only [Act.put, List.setIfInBounds_toArray, List.set_cons_zero, List.set_cons_succ]
          refine rg_step 6 rfl (by kernel_rfl) (by rfl) (fun K hK => ?_)
          go_simp
          refine (K5.out _ _ _ _ M).mono ?_
          rintro e u6 ⟨Ap, np, cp, vp, rfl, Q, T, bK⟩
          obtain rfl := Tells.none' T rfl
          clear T
          replace M := M.later bK (Nat.le_refl _)
          replace G := G.later bK (Nat.le_refl _)
          replace hS := hS.trans (bK.mono hS.size)
          clear bK
          clear M
          refine hK.out _ _ hS ?_
          clear hK K
          try simp only [Act.put, List.setIfInBounds_toArray, List.set_cons_zero, List.set_cons_succ]
          refine rg_take 7 (v := ?rv9) rfl (by kernel_rfl) (by kernel_rfl) (by kernel_rfl) (fun _ _ _ h => h) (by rfl) hS (fun w2 hw2 => ?ry9) ?rr9
          case ry9 => ((try dsimp only at hw2); go_simp <;> with_reducible rfl)
          simp only [Act.put, List.setIfInBounds_toArray, List.set_cons_zero, List.set_cons_succ]
          refine rg_take 8 (v := ?rv10) rfl (by kernel_rfl) (by kernel_rfl) (by kernel_rfl) (fun _ _ _ h => h) (by rfl) hS (fun w2 hw2 => ?ry10) ?rr10
          case ry10 => ((try dsimp only at hw2); go_simp <;> with_reducible rfl)
          simp only [Act.put, List.setIfInBounds_toArray, List.set_cons_zero, List.set_cons_succ]
          refine rg_take 9 (v := ?rv11) rfl (by kernel_rfl) (by kernel_rfl) (by kernel_rfl) (fun _ _ _ h => h) (by rfl) hS (fun w2 hw2 => ?ry11) ?rr11
          case ry11 => ((try dsimp only at hw2); go_simp <;> with_reducible rfl)
          simp only [Act.put, List.setIfInBounds_toArray, List.set_cons_zero, List.set_cons_succ]
          refine rg_step 11 rfl (by kernel_rfl) (by rfl) (fun K hK => ?_)
          refine wp_store_dgF (.tmp 13) (.tmp 76) rfl ⟨sp1, dp1, pay⟩ Ap np cp rfl rfl G ?_
          intro ux G2 far keep
          have Q2 := Q.farDg G far
          replace hS := keep _ _ lG hS
          clear G Q far keep
          refine hK.out _ _ hS ?_
          clear hK K
          simp only [Act.put]
          refine rg_take 12 (v := ?rv12) rfl (by kernel_rfl) (by kernel_rfl) (by kernel_rfl) (fun _ _ _ h => h) (by rfl) hS (fun w2 hw2 => ?ry12) ?rr12
          case ry12 => ((try dsimp only at hw2); go_simp <;> with_reducible rfl)
          simp only [Act.put, List.setIfInBounds_toArray, List.set_cons_zero, List.set_cons_succ]
          refine rg_done (by kernel_rfl) ?_
          go_wp2_with fail
          go_meet
          exact ⟨_, Ap, np, cp, rfl, rfl, G2, Q2, hS⟩
        exact AllReadyH.nil
      refine rg_or 10 rfl (by rfl) (fun K hK => ?_) ?_
      · refine wp_alloc_dgF rfl ?_
        intro u7 G bK
        have lG := hS.size
        have neG := (Nat.ne_of_lt (O.lt _ rfl).2).symm
        replace O := own_kept O bK
        replace hS := hS.trans (bK.mono hS.size)
        clear bK
        refine hK.out _ _ hS ?_
        clear hK K
        try simp only [Act.put, List.setIfInBounds_toArray, List.set_cons_zero, List.set_cons_succ]
        refine rg_step 3 rfl (by kernel_rfl) (by rfl) (fun K hK => ?_)
        refine wp_append_bs (.tmp 70) (.tmp 71) 22 rfl _ 5 info5 Tryd.underlying22 _ _ _ rfl O E k ce ml rfl ((HB.out.2.1.later H8.out.2.2.2.2 (Nat.le_refl _)).later hS (Nat.le_refl _)) (by omega) (by have := O.lt _ rfl; omega) ?_
        intro v2 u8 o2 gr _ _
        replace G := G.same (gr.block _ G.lt (fun h => neG (Option.some.inj h)))
        clear neG
        replace hS := hS.grown gr hS.size (fun q hq => Nat.le_trans hWb (O.lt q hq).1)
        obtain ⟨Am, cm, rfl, M⟩ := Bs.of_own o2
        clear O o2 gr hx1 hx2 hWb
        refine hK.out _ _ hS ?_
        clear hK K
        try simp only [Act.put, List.setIfInBounds_toArray, List.set_cons_zero, List.set_cons_succ]
        refine rg_step 6 rfl (by kernel_rfl) (by rfl) (fun K hK => ?_)
        go_simp
        refine (K5.out _ _ _ _ M).mono ?_
        rintro e u9 ⟨Ap, np, cp, vp, rfl, Q, T, bK⟩
        obtain rfl := Tells.none' T rfl
        clear T
        replace G := G.later bK (Nat.le_refl _)
        replace M := M.later bK (Nat.le_refl _)
        replace hS := hS.trans (bK.mono hS.size)
        clear bK
        clear M
        refine hK.out _ _ hS ?_
        clear hK K
        try simp only [Act.put, List.setIfInBounds_toArray, List.set_cons_zero, List.set_cons_succ]
        refine rg_take 7 (v := ?rv13) rfl (by kernel_rfl) (by kernel_rfl) (by kernel_rfl) (fun _ _ _ h => h) (by rfl) hS (fun w2 hw2 => ?ry13) ?rr13
        case ry13 => ((try dsimp only at hw2); go_simp <;> with_reducible rfl)
        simp only [Act.put, List.setIfInBounds_toArray, List.set_cons_zero, List.set_cons_succ]
        refine rg_take 8 (v := ?rv14) rfl (by kernel_rfl) (by kernel_rfl) (by kernel_rfl) (fun _ _ _ h => h) (by rfl) hS (fun w2 hw2 => ?ry14) ?rr14
        case ry14 => ((try dsimp only at hw2); go_simp <;> with_reducible rfl)
        simp only [Act.put, List.setIfInBounds_toArray, List.set_cons_zero, List.set_cons_succ]
        refine rg_take 9 (v := ?rv15) rfl (by kernel_rfl) (by kernel_rfl) (by kernel_rfl) (fun _ _ _ h => h) (by rfl) hS (fun w2 hw2 => ?ry15) ?rr15
        case ry15 => ((try dsimp only at hw2); go_simp <;> with_reducible rfl)
        simp only [Act.put, List.setIfInBounds_toArray, List.set_cons_zero, List.set_cons_succ]
        refine rg_step 11 rfl (by kernel_rfl) (by rfl) (fun K hK => ?_)
        refine wp_store_dgF (.tmp 13) (.tmp 76) rfl ⟨sp1, dp1, pay⟩ Ap np cp rfl rfl G ?_
        intro ux G2 far keep
        have Q2 := Q.farDg G far
        replace hS := keep _ _ lG hS
        clear G Q far keep
        refine hK.out _ _ hS ?_
        clear hK K
        simp only [Act.put]
        refine rg_take 12 (v := ?rv16) rfl (by kernel_rfl) (by kernel_rfl) (by kernel_rfl) (fun _ _ _ h => h) (by rfl) hS (fun w2 hw2 => ?ry16) ?rr16
        case ry16 => ((try dsimp only at hw2); go_simp <;> with_reducible rfl)
        simp only [Act.put, List.setIfInBounds_toArray, List.set_cons_zero, List.set_cons_succ]
        refine rg_done (by kernel_rfl) ?_
        go_wp2_with fail
        go_meet
        exact ⟨_, Ap, np, cp, rfl, rfl, G2, Q2, hS⟩
      exact AllReadyH.nil
    refine rg_or 10 rfl (by rfl) (fun K hK => ?_) ?_
    · refine wp_alloc_dgF rfl ?_
      intro u10 G bK
      have lG := hS.size
      replace hS := hS.trans (bK.mono hS.size)
      clear bK
      refine hK.out _ _ hS ?_
      clear hK K
      try simp only [Act.put, List.setIfInBounds_toArray, List.set_cons_zero, List.set_cons_succ]
      refine rg_step 1 rfl (by kernel_rfl) (by rfl) (fun K hK => ?_)
      refine wp_append_bs (.const (.slice none 0 0)) (.tmp 69) 22 rfl _ 5 info5 Tryd.underlying22 _ 0 [] rfl (World.ownsRow_nil _ _ _ _) _ N0 c7 tb rfl (H8.out.2.2.2.1.later hS (Nat.le_refl _)) (by omega) (Nat.le_refl _) ?_
      intro v1 u11 O gr _ _
      have bK := (Below.refl _ _).grown gr (Nat.le_refl _) (fun q hq => by cases hq)
      have hWb := hS.size
      replace O := owns_n (n' := N0) (by omega) O
      rw [List.nil_append] at O
      obtain ⟨gx, cx, rfl, hx1, hx2⟩ := O.form (by omega)
      clear gr
      have neG := Nat.ne_of_lt (Nat.lt_of_lt_of_le G.lt hx1)
      replace G := G.later bK (Nat.le_refl _)
      replace hS := hS.trans (bK.mono hS.size)
      clear bK
      refine hK.out _ _ hS ?_
      clear hK K
      try simp only [Act.put, List.setIfInBounds_toArray, List.set_cons_zero, List.set_cons_succ]
      refine rg_step 3 rfl (by kernel_rfl) (by rfl) (fun K hK => ?_)
      refine wp_append_bs (.tmp 70) (.tmp 71) 22 rfl _ 5 info5 Tryd.underlying22 _ _ _ rfl O E k ce ml rfl ((HB.out.2.1.later H8.out.2.2.2.2 (Nat.le_refl _)).later hS (Nat.le_refl _)) (by omega) (by have := O.lt _ rfl; omega) ?_
      intro v2 u12 o2 gr _ _
      replace G := G.same (gr.block _ G.lt (fun h => neG (Option.some.inj h)))
      clear neG
      replace hS := hS.grown gr hS.size (fun q hq => Nat.le_trans hWb (O.lt q hq).1)
      obtain ⟨Am, cm, rfl, M⟩ := Bs.of_own o2
      clear O o2 gr hx1 hx2 hWb
      refine hK.out _ _ hS ?_
      clear hK K
      try simp only [Act.put, List.setIfInBounds_toArray, List.set_cons_zero, List.set_cons_succ]
      refine rg_step 6 rfl (by kernel_rfl) (by rfl) (fun K hK => ?_)
      go_simp
      refine (K5.out _ _ _ _ M).mono ?_
      rintro e u13 ⟨Ap, np, cp, vp, rfl, Q, T, bK⟩
      obtain rfl := Tells.none' T rfl
      clear T
      replace G := G.later bK (Nat.le_refl _)
      replace M := M.later bK (Nat.le_refl _)
      replace hS := hS.trans (bK.mono hS.size)
      clear bK
      clear M
      refine hK.out _ _ hS ?_
      clear hK K
      try simp only [Act.put, List.setIfInBounds_toArray, List.set_cons_zero, List.set_cons_succ]
      refine rg_take 7 (v := ?rv17) rfl (by kernel_rfl) (by kernel_rfl) (by kernel_rfl) (fun _ _ _ h => h) (by rfl) hS (fun w2 hw2 => ?ry17) ?rr17
      case ry17 => ((try dsimp only at hw2); go_simp <;> with_reducible rfl)
      simp only [Act.put, List.setIfInBounds_toArray, List.set_cons_zero, List.set_cons_succ]
      refine rg_take 8 (v := ?rv18) rfl (by kernel_rfl) (by kernel_rfl) (by kernel_rfl) (fun _ _ _ h => h) (by rfl) hS (fun w2 hw2 => ?ry18) ?rr18
      case ry18 => ((try dsimp only at hw2); go_simp <;> with_reducible rfl)
      simp only [Act.put, List.setIfInBounds_toArray, List.set_cons_zero, List.set_cons_succ]
      refine rg_take 9 (v := ?rv19) rfl (by kernel_rfl) (by kernel_rfl) (by kernel_rfl) (fun _ _ _ h => h) (by rfl) hS (fun w2 hw2 => ?ry19) ?rr19
      case ry19 => ((try dsimp only at hw2); go_simp <;> with_reducible rfl)
      simp only [Act.put, List.setIfInBounds_toArray, List.set_cons_zero, List.set_cons_succ]
      refine rg_step 11 rfl (by kernel_rfl) (by rfl) (fun K hK => ?_)
      refine wp_store_dgF (.tmp 13) (.tmp 76) rfl ⟨sp1, dp1, pay⟩ Ap np cp rfl rfl G ?_
      intro ux G2 far keep
      have Q2 := Q.farDg G far
      replace hS := keep _ _ lG hS
      clear G Q far keep
      refine hK.out _ _ hS ?_
      clear hK K
      simp only [Act.put]
      refine rg_take 12 (v := ?rv20) rfl (by kernel_rfl) (by kernel_rfl) (by kernel_rfl) (fun _ _ _ h => h) (by rfl) hS (fun w2 hw2 => ?ry20) ?rr20
      case ry20 => ((try dsimp only at hw2); go_simp <;> with_reducible rfl)
      simp only [Act.put, List.setIfInBounds_toArray, List.set_cons_zero, List.set_cons_succ]
      refine rg_done (by kernel_rfl) ?_
      go_wp2_with fail
      go_meet
      exact ⟨_, Ap, np, cp, rfl, rfl, G2, Q2, hS⟩
    exact AllReadyH.nil
  case rest =>
  obtain ⟨g13, A5, n5, c5, rfl, rfl, x1, x2, hB⟩ := hcut
  obtain ⟨W9, rfl⟩ : ∃ W9, W9 = wc := ⟨_, rfl⟩
  have H9 := Lib.hid (And.intro (H8.out.1.later hB (Nat.le_refl _)) (And.intro (H8.out.2.1.later hB (Nat.le_refl _)) (And.intro (H8.out.2.2.1.later hB (Nat.le_refl _)) (And.intro (H8.out.2.2.2.1.later hB (Nat.le_refl _)) (And.intro (x1) (And.intro (x2) (H8.out.2.2.2.2.trans (hB.mono H8.out.2.2.2.2.size))))))))
  clear x1 x2 hB
  have u1 : (6 : Int) < (N0 : Int) := by omega
  have u2 : (7 : Int) < (N0 : Int) := by omega
  go_upto_region 11 with (at_builtin; refine wpList_append_bs rfl (.const (.slice none 0 0)) (.tmp 78) 22 rfl W9.heap.size 5 info5 Tryd.underlying22 _ 0 [] rfl (World.ownsRow_nil _ _ _ _) _ N0 c7 _ rfl H9.out.2.2.2.1 (by omega) (Nat.le_refl _) ?_; intro v15 w15 o15 g15 _ _; have b15 : Below W9.heap.size W9 w15 := (Below.refl _ W9).grown g15 (Nat.le_refl _) (fun x hx => by cases hx); replace o15 := owns_n (n' := N0) (by omega) o15; rw [List.nil_append] at o15; obtain ⟨gw, cw, rfl, _, _⟩ := o15.form (by omega); obtain ⟨⟨p6, _, hc6⟩, hf6⟩ := own_cell o15 (j := 6) (by omega); obtain ⟨⟨p7, _, hc7⟩, hf7⟩ := own_cell o15 (j := 7) (by omega); obtain ⟨s1, s2⟩ := own_put o15 b15 (Nat.le_refl _) 6 (.int .u8 0) 0 rfl; obtain ⟨s3, s4⟩ := own_put s1 s2 (Nat.le_refl _) 7 (.int .u8 0) 0 rfl; have H15 := Lib.hid (And.intro s3 s4); clear o15 g15 b15 s1 s2 s3 s4)
  generalize (w15.setCell ⟨gw, 6, none⟩ (.int .u8 0)).setCell ⟨gw, 7, none⟩ (.int .u8 0) = w16 at H15 ⊢
  obtain ⟨_, _, e15, hB15⟩ := Bs.of_own H15.out.1
  cases e15
  have s16 := H15.out.2
  have H16 := Lib.hid (And.intro (H9.out.1.later s16 (Nat.le_refl _)) (And.intro (H9.out.2.1.later s16 (Nat.le_refl _)) (And.intro (H9.out.2.2.1.later s16 (Nat.le_refl _)) (And.intro (H9.out.2.2.2.1.later s16 (Nat.le_refl _)) (And.intro (H9.out.2.2.2.2.1.later s16 (Nat.le_refl _)) (And.intro (H9.out.2.2.2.2.2.1.later s16 (Nat.le_refl _)) (And.intro (hB15) (H9.out.2.2.2.2.2.2.trans (s16.mono H9.out.2.2.2.2.2.2.size)))))))))
  clear hB15 s16 hc6 hf6 hc7 hf7
  go_wp2_with (first
    | (refine wpList_load_ad rfl (.tmp 6) rfl rfl H16.out.2.1 ?_)
    | (refine wpList_load_ad rfl (.tmp 7) rfl rfl H16.out.2.2.1 ?_))
  have k7 := K6.out _ _ _ H16.out.2.2.2.2.2.2.1
  clear K6
  by_cases hv : v6 = true
  · rw [if_pos hv] at k7
    subst hv
    refine k7.mono ?_
    rintro e w17 ⟨A17, n17, c17, v17, rfl, q17, t17, b17⟩
    obtain ⟨T17, x17, rfl⟩ := Tells.held' t17 (by simp)
    have H17 := Lib.hid (And.intro (H16.out.1.later b17 (Nat.le_refl _)) (And.intro (H16.out.2.1.later b17 (Nat.le_refl _)) (And.intro (H16.out.2.2.1.later b17 (Nat.le_refl _)) (And.intro (H16.out.2.2.2.1.later b17 (Nat.le_refl _)) (And.intro (H16.out.2.2.2.2.1.later b17 (Nat.le_refl _)) (And.intro (H16.out.2.2.2.2.2.1.later b17 (Nat.le_refl _)) (And.intro (t17) (H16.out.2.2.2.2.2.2.2.trans (b17.mono H16.out.2.2.2.2.2.2.2.size)))))))))
    clear k7 q17 b17 t17
    go_wp2_with (first
      | (refine wpList_alloc_dg rfl rfl ?_; intro w18 a18 b18 z18; have H18 := Lib.hid (And.intro a18 b18); clear a18 b18 z18)
      | (refine wpList_store_dg rfl (.tmp 16) (.tmp 89) rfl .zero A17 n17 c17 rfl rfl H18.out.1 ?_; intro w19 a19 o19 z19 b19; have bb := b19 _ _ (Nat.le_refl _) H18.out.2; have H19 := Lib.hid (And.intro (H17.out.1.later bb (Nat.le_refl _)) (And.intro (H17.out.2.1.later bb (Nat.le_refl _)) (And.intro (H17.out.2.2.1.later bb (Nat.le_refl _)) (And.intro (H17.out.2.2.2.1.later bb (Nat.le_refl _)) (And.intro (H17.out.2.2.2.2.1.later bb (Nat.le_refl _)) (And.intro (H17.out.2.2.2.2.2.1.later bb (Nat.le_refl _)) (And.intro (H17.out.2.2.2.2.2.2.1.later bb (Nat.le_refl _)) (And.intro (a19) (H17.out.2.2.2.2.2.2.2.trans (bb.mono H17.out.2.2.2.2.2.2.2.size)))))))))); clear a19 o19 z19 b19 bb)
      | (refine wpList_load_dg_w (by rfl) (.tmp 13) rfl rfl H19.out.2.2.2.2.1 ?_)
      | (refine wpList_load_dg_w (by rfl) (.tmp 5) rfl rfl H19.out.1 ?_))
    refine (datagram_same (s := ⟨sp1, dp1, pay⟩) H19.out.2.2.2.2.2.1 (HB.out.1.later H19.out.2.2.2.2.2.2.2.2 (Nat.le_refl _))).mono ?_
    rintro e w20 ⟨rfl, b20⟩
    have H20 := Lib.hid (And.intro (H19.out.1.later b20 (Nat.le_refl _)) (And.intro (H19.out.2.1.later b20 (Nat.le_refl _)) (And.intro (H19.out.2.2.1.later b20 (Nat.le_refl _)) (And.intro (H19.out.2.2.2.1.later b20 (Nat.le_refl _)) (And.intro (H19.out.2.2.2.2.1.later b20 (Nat.le_refl _)) (And.intro (H19.out.2.2.2.2.2.1.later b20 (Nat.le_refl _)) (And.intro (H19.out.2.2.2.2.2.2.1.later b20 (Nat.le_refl _)) (And.intro (H19.out.2.2.2.2.2.2.2.1.later b20 (Nat.le_refl _)) (H19.out.2.2.2.2.2.2.2.2.trans (b20.mono H19.out.2.2.2.2.2.2.2.2.size))))))))))
    clear b20
    go_wp2_with fail
    refine (help_at 8 6 _).mono ?_
    rintro e w21 ⟨rfl, b21⟩
    have H21 := Lib.hid (And.intro (H20.out.1.later b21 (Nat.le_refl _)) (And.intro (H20.out.2.1.later b21 (Nat.le_refl _)) (And.intro (H20.out.2.2.1.later b21 (Nat.le_refl _)) (And.intro (H20.out.2.2.2.1.later b21 (Nat.le_refl _)) (And.intro (H20.out.2.2.2.2.1.later b21 (Nat.le_refl _)) (And.intro (H20.out.2.2.2.2.2.1.later b21 (Nat.le_refl _)) (And.intro (H20.out.2.2.2.2.2.2.1.later b21 (Nat.le_refl _)) (And.intro (H20.out.2.2.2.2.2.2.2.1.later b21 (Nat.le_refl _)) (H20.out.2.2.2.2.2.2.2.2.trans (b21.mono H20.out.2.2.2.2.2.2.2.2.size))))))))))
    clear b21
    go_wp2_with fail
    refine (is_told3 H21.out.2.2.2.2.2.2.1 (Handle.later H21.out.2.2.2.2.2.2.2.2 (Nat.le_refl _) HB.out.2.2)).mono ?_
    rintro e w22 ⟨rfl, b22⟩
    have H22 := Lib.hid (And.intro (H21.out.1.later b22 (Nat.le_refl _)) (And.intro (H21.out.2.1.later b22 (Nat.le_refl _)) (And.intro (H21.out.2.2.1.later b22 (Nat.le_refl _)) (And.intro (H21.out.2.2.2.1.later b22 (Nat.le_refl _)) (And.intro (H21.out.2.2.2.2.1.later b22 (Nat.le_refl _)) (And.intro (H21.out.2.2.2.2.2.1.later b22 (Nat.le_refl _)) (And.intro (H21.out.2.2.2.2.2.2.1.later b22 (Nat.le_refl _)) (And.intro (H21.out.2.2.2.2.2.2.2.1.later b22 (Nat.le_refl _)) (H21.out.2.2.2.2.2.2.2.2.trans (b22.mono H21.out.2.2.2.2.2.2.2.2.size))))))))))
    clear b22
    go_wp2_with fail
    go_ret
    exact ⟨rfl, H22.out.2.2.2.2.2.2.2.2⟩
  · rw [if_neg hv] at k7
    obtain rfl : v6 = false := by simpa using hv
    refine k7.mono ?_
    rintro e w17 ⟨A17, n17, c17, v17, rfl, q17, t17, b17⟩
    obtain rfl := Tells.none' t17 rfl
    have H17 := Lib.hid (And.intro (H16.out.1.later b17 (Nat.le_refl _)) (And.intro (H16.out.2.1.later b17 (Nat.le_refl _)) (And.intro (H16.out.2.2.1.later b17 (Nat.le_refl _)) (And.intro (H16.out.2.2.2.1.later b17 (Nat.le_refl _)) (And.intro (H16.out.2.2.2.2.1.later b17 (Nat.le_refl _)) (And.intro (H16.out.2.2.2.2.2.1.later b17 (Nat.le_refl _)) (And.intro (q17) (H16.out.2.2.2.2.2.2.2.trans (b17.mono H16.out.2.2.2.2.2.2.2.size)))))))))
    clear k7 q17 b17 t17
    go_wp2_with (first
      | (refine wpList_alloc_dg rfl rfl ?_; intro w18 a18 b18 z18; have H18 := Lib.hid (And.intro a18 b18); clear a18 b18 z18)
      | (refine wpList_store_dg rfl (.tmp 16) (.tmp 89) rfl ⟨sp1, dp1, pay⟩ A17 n17 c17 rfl rfl H18.out.1 ?_; intro w19 a19 o19 z19 b19; have bb := b19 _ _ (Nat.le_refl _) H18.out.2; have H19 := Lib.hid (And.intro (H17.out.1.later bb (Nat.le_refl _)) (And.intro (H17.out.2.1.later bb (Nat.le_refl _)) (And.intro (H17.out.2.2.1.later bb (Nat.le_refl _)) (And.intro (H17.out.2.2.2.1.later bb (Nat.le_refl _)) (And.intro (H17.out.2.2.2.2.1.later bb (Nat.le_refl _)) (And.intro (H17.out.2.2.2.2.2.1.later bb (Nat.le_refl _)) (And.intro (H17.out.2.2.2.2.2.2.1.later bb (Nat.le_refl _)) (And.intro (a19) (H17.out.2.2.2.2.2.2.2.trans (bb.mono H17.out.2.2.2.2.2.2.2.size)))))))))); clear a19 o19 z19 b19 bb)
      | (refine wpList_load_dg_w (by rfl) (.tmp 13) rfl rfl H19.out.2.2.2.2.1 ?_)
      | (refine wpList_load_dg_w (by rfl) (.tmp 5) rfl rfl H19.out.1 ?_))
    refine (datagram_same (s := ⟨sp1, dp1, pay⟩) H19.out.2.2.2.2.2.1 (HB.out.1.later H19.out.2.2.2.2.2.2.2.2 (Nat.le_refl _))).mono ?_
    rintro e w20 ⟨rfl, b20⟩
    have H20 := Lib.hid (And.intro (H19.out.1.later b20 (Nat.le_refl _)) (And.intro (H19.out.2.1.later b20 (Nat.le_refl _)) (And.intro (H19.out.2.2.1.later b20 (Nat.le_refl _)) (And.intro (H19.out.2.2.2.1.later b20 (Nat.le_refl _)) (And.intro (H19.out.2.2.2.2.1.later b20 (Nat.le_refl _)) (And.intro (H19.out.2.2.2.2.2.1.later b20 (Nat.le_refl _)) (And.intro (H19.out.2.2.2.2.2.2.1.later b20 (Nat.le_refl _)) (And.intro (H19.out.2.2.2.2.2.2.2.1.later b20 (Nat.le_refl _)) (H19.out.2.2.2.2.2.2.2.2.trans (b20.mono H19.out.2.2.2.2.2.2.2.2.size))))))))))
    clear b20
    go_wp2_with (first
      | (refine wpList_load_dg_w (by rfl) (.tmp 16) rfl rfl H20.out.2.2.2.2.2.2.2.1 ?_)
      | (refine wpList_load_dg_w (by rfl) (.tmp 5) rfl rfl H20.out.1 ?_))
    refine (datagram_same (s := ⟨sp1, dp1, pay⟩) H20.out.2.2.2.2.2.2.1 (HB.out.1.later H20.out.2.2.2.2.2.2.2.2 (Nat.le_refl _))).mono ?_
    rintro e w21 ⟨rfl, b21⟩
    have H21 := Lib.hid (And.intro (H20.out.1.later b21 (Nat.le_refl _)) (And.intro (H20.out.2.1.later b21 (Nat.le_refl _)) (And.intro (H20.out.2.2.1.later b21 (Nat.le_refl _)) (And.intro (H20.out.2.2.2.1.later b21 (Nat.le_refl _)) (And.intro (H20.out.2.2.2.2.1.later b21 (Nat.le_refl _)) (And.intro (H20.out.2.2.2.2.2.1.later b21 (Nat.le_refl _)) (And.intro (H20.out.2.2.2.2.2.2.1.later b21 (Nat.le_refl _)) (And.intro (H20.out.2.2.2.2.2.2.2.1.later b21 (Nat.le_refl _)) (H20.out.2.2.2.2.2.2.2.2.trans (b21.mono H20.out.2.2.2.2.2.2.2.2.size))))))))))
    clear b21
    go_wp2_with fail
    go_ret
    exact ⟨rfl, H21.out.2.2.2.2.2.2.2.2⟩
end Go.Proofs.YtkeggeiliachgaaDoor
