/-
  stockadelaw08.TcpBack answers true, whatever is handed in. Conditions: those of the slice; errors.errorType holds the handle of the type error.
-/
import Derived.Test.YtioonjgamdompaaDoorT8Ok
import Derived.Test.YtioonjgamdompaaDoorPlayAddr
import Derived.Test.YtioonjgamdompaaDoorReg
import Derived.Deep.DeepCutAuto
import Derived.IntWalk
namespace Go.Proofs.YtioonjgamdompaaDoor
open Go.RowKit
set_option maxRecDepth 100000

set_option maxHeartbeats 16000000 in
theorem tcpBack {B : Option Addr} {m d : Nat} {s : Sg} {w : World} (hp : Bs w B m d s.pay) (hq : 0 ≤ s.seq ∧ s.seq < 4294967296) (hk : 0 ≤ s.ack ∧ s.ack < 4294967296) (sv dv v6 ov : Bool) {sb db ob : List UInt8} (hsb : sb.length = 16) (hdb : db.length = 16) (hob : ob.length = 16) (hg : Handle w) :
    Calls Tryd.prog 4 #[.agg (sgv s B m d), .agg (adv sv sb), .agg (adv dv db), .bool v6, .agg (adv ov ob)] w fun e w' => e = .returned (.bool true) ∧ Below w.heap.size w w' := by
  have hm2 := Nat.le_trans hp.cap hp.max
  have hpl := hp.len
  unfold maxLen at hm2
  have HB := Lib.hid (And.intro hp hg)
  clear hp hg
  have s0 := SgBox.new w s B m d
  have b0 : Below w.heap.size w (w.alloc (.cells (sgv s B m d) 28)) := (Below.refl _ _).alloc (Nat.le_refl _) _
  obtain ⟨W1, hW1⟩ : ∃ W1, w.alloc (.cells (sgv s B m d) 28) = W1 := ⟨_, rfl⟩
  have z1 : W1.heap.size = w.heap.size + 1 := by rw [← hW1, World.size_alloc]
  rw [hW1] at s0 b0
  have a1 := AdBox.new W1 sv hsb
  have b1 : Below W1.heap.size W1 (W1.alloc (.cells (adv sv sb) 25)) := (Below.refl _ _).alloc (Nat.le_refl _) _
  obtain ⟨W2, hW2⟩ : ∃ W2, W1.alloc (.cells (adv sv sb) 25) = W2 := ⟨_, rfl⟩
  have z2 : W2.heap.size = w.heap.size + 1 + 1 := by rw [← hW2, World.size_alloc, z1]
  rw [hW2] at a1 b1
  have a2 := AdBox.new W2 dv hdb
  have b2 : Below W2.heap.size W2 (W2.alloc (.cells (adv dv db) 25)) := (Below.refl _ _).alloc (Nat.le_refl _) _
  obtain ⟨W3, hW3⟩ : ∃ W3, W2.alloc (.cells (adv dv db) 25) = W3 := ⟨_, rfl⟩
  have z3 : W3.heap.size = w.heap.size + 1 + 1 + 1 := by rw [← hW3, World.size_alloc, z2]
  rw [hW3] at a2 b2
  have a3 := AdBox.new W3 ov hob
  have b3 : Below W3.heap.size W3 (W3.alloc (.cells (adv ov ob) 25)) := (Below.refl _ _).alloc (Nat.le_refl _) _
  obtain ⟨W, hW⟩ : ∃ W, W3.alloc (.cells (adv ov ob) 25) = W := ⟨_, rfl⟩
  rw [hW] at a3 b3
  have hA := And.intro (((s0.later b1 (Nat.le_refl _)).later b2 (Nat.le_refl _)).later b3 (Nat.le_refl _)) (And.intro ((a1.later b2 (Nat.le_refl _)).later b3 (Nat.le_refl _)) (And.intro (a2.later b3 (Nat.le_refl _)) (And.intro a3 (((b0.trans (b1.mono (by omega))).trans (b2.mono (by omega))).trans (b3.mono (by omega))))))
  rw [z1, z2, z3] at hA
  have HA := Lib.hid hA
  have HW : Hid ((((w.alloc (.cells (sgv s B m d) 28)).alloc (.cells (adv sv sb) 25)).alloc (.cells (adv dv db) 25)).alloc (.cells (adv ov ob) 25) = W) := by rw [hW1, hW2, hW3, hW]; exact Lib.hid rfl
  clear s0 b0 a1 b1 a2 b2 a3 b3 hA hW1 hW2 hW3 hW z1 z2 z3 W1 W2 W3
  obtain ⟨sp, dp, seq, ack, fl, pay⟩ := s
  unfold sgv at HW
  dsimp only at HW hq hk hpl
  rw [show sgv ⟨sp, dp, seq, ack, fl, pay⟩ B m d = #[.int .i64 sp, .int .i64 dp, .int .u32 seq, .int .u32 ack, .int .i64 fl, .slice B m d] from rfl]
  by_cases hbig : 1500 < m
  · have hqd : decide ((1500 : Int) < (m : Int)) = true := decide_eq_true (by omega)
    go_enter Tryd.func4, Tryd.ntmps4
    go_wp2_with fail
    rw [HW.out]
    refine (awake08 _).mono ?_
    rintro e w1 ⟨rfl, b1⟩
    have H1 := Lib.hid (HA.out.2.2.2.2.trans (b1.mono HA.out.2.2.2.2.size))
    clear b1
    go_wp2_with fail
    go_ret
    exact ⟨rfl, H1.out⟩
  have hqd : decide ((1500 : Int) < (m : Int)) = false := decide_eq_false (by omega)
  obtain ⟨p1, p2⟩ := num_mod8 sp 65536 (by omega) (by omega)
  obtain ⟨p3, p4⟩ := num_mod8 dp 65536 (by omega) (by omega)
  obtain ⟨p5, p6⟩ := num_mod8 fl 64 (by omega) (by omega)
  go_enter Tryd.func4, Tryd.ntmps4
  go_upto_region 3 with fail
  rw [HW.out]
  go_cut [30] (fun _ wx => SgBox wx w.heap.size ⟨sp, dp, seq, ack, fl, pay⟩ B m d ∧ AdBox wx (w.heap.size + 1) v6 (norm v6 sb) ∧ AdBox wx (w.heap.size + 1 + 1) v6 (norm v6 db) ∧ AdBox wx (w.heap.size + 1 + 1 + 1) v6 (norm v6 ob) ∧ Below w.heap.size w wx)
  case first =>
    have hS : Below w.heap.size w W.drew := HA.out.2.2.2.2.drew
    have SG : SgBox W.drew w.heap.size ⟨sp, dp, seq, ack, fl, pay⟩ B m d := HA.out.1.later (Below.refl _ _).drew (Nat.le_refl _)
    have P1 : AdBox W.drew (w.heap.size + 1) sv sb := HA.out.2.1.later (Below.refl _ _).drew (Nat.le_refl _)
    have P2 : AdBox W.drew (w.heap.size + 1 + 1) dv db := HA.out.2.2.1.later (Below.refl _ _).drew (Nat.le_refl _)
    have P3 : AdBox W.drew (w.heap.size + 1 + 1 + 1) ov ob := HA.out.2.2.2.1.later (Below.refl _ _).drew (Nat.le_refl _)
    refine rg_begin (fun w' => Below w.heap.size w w') 12 (by kernel_rfl) rfl ?_
    obtain ⟨W0, hW0⟩ : ∃ W0, W.drew = W0 := ⟨_, rfl⟩
    rw [hW0] at hS SG P1 P2 P3 ⊢
    clear hW0
    refine rg_take 1 (v := ?rv1) rfl (by kernel_rfl) (by kernel_rfl) (by kernel_rfl) (fun _ _ _ h => h) (by rfl) hS (fun w2 hw2 => ?ry1) ?rr1
    case ry1 => ((try dsimp only at hw2); go_simp <;> with_reducible rfl)
    simp only [Act.put, List.setIfInBounds_toArray, List.set_cons_zero, List.set_cons_succ]
    refine rg_take 4 (v := ?rv2) rfl (by kernel_rfl) (by kernel_rfl) (by kernel_rfl) (fun _ _ _ h => h) (by rfl) hS (fun w2 hw2 => ?ry2) ?rr2
    case ry2 => ((try dsimp only at hw2); go_simp <;> with_reducible rfl)
    simp only [Act.put, List.setIfInBounds_toArray, List.set_cons_zero, List.set_cons_succ]
    refine rg_take 7 (v := ?rv3) rfl (by kernel_rfl) (by kernel_rfl) (by kernel_rfl) (fun _ _ _ h => h) (by rfl) hS (fun w2 hw2 => ?ry3) ?rr3
    case ry3 => ((try dsimp only at hw2); go_simp <;> with_reducible rfl)
    simp only [Act.put, List.setIfInBounds_toArray, List.set_cons_zero, List.set_cons_succ]
    refine rg_any [0, 3, 6] (by kernel_rfl) (by simp) ?_
    refine rg_or 0 rfl (by rfl) (fun K hK => ?_) ?_
    · refine wp_load_ad (.tmp 6) rfl rfl P1 ?_
      refine hK.out _ _ hS ?_
      clear hK K
      try simp only [Act.put, List.setIfInBounds_toArray, List.set_cons_zero, List.set_cons_succ]
      refine rg_any [2, 3, 6] (by kernel_rfl) (by simp) ?_
      refine rg_or 2 rfl (by rfl) (fun K hK => ?_) ?_
      · go_simp
        refine (play_addr sv v6 sb hsb _).mono ?_
        rintro e u2 ⟨rfl, bK⟩
        replace SG := SG.later bK (Nat.le_refl _)
        replace P1 := P1.later bK (Nat.le_refl _)
        replace P2 := P2.later bK (Nat.le_refl _)
        replace P3 := P3.later bK (Nat.le_refl _)
        replace hS := hS.trans (bK.mono hS.size)
        clear bK
        refine hK.out _ _ hS ?_
        clear hK K
        try simp only [Act.put, List.setIfInBounds_toArray, List.set_cons_zero, List.set_cons_succ]
        refine rg_any [3, 6] (by kernel_rfl) (by simp) ?_
        refine rg_or 3 rfl (by rfl) (fun K hK => ?_) ?_
        · refine wp_load_ad (.tmp 7) rfl rfl P2 ?_
          refine hK.out _ _ hS ?_
          clear hK K
          try simp only [Act.put, List.setIfInBounds_toArray, List.set_cons_zero, List.set_cons_succ]
          refine rg_any [5, 6] (by kernel_rfl) (by simp) ?_
          refine rg_or 5 rfl (by rfl) (fun K hK => ?_) ?_
          · go_simp
            refine (play_addr dv v6 db hdb _).mono ?_
            rintro e u4 ⟨rfl, bK⟩
            replace SG := SG.later bK (Nat.le_refl _)
            replace P1 := P1.later bK (Nat.le_refl _)
            replace P2 := P2.later bK (Nat.le_refl _)
            replace P3 := P3.later bK (Nat.le_refl _)
            replace hS := hS.trans (bK.mono hS.size)
            clear bK
            refine hK.out _ _ hS ?_
            clear hK K
            try simp only [Act.put, List.setIfInBounds_toArray, List.set_cons_zero, List.set_cons_succ]
            refine rg_step 6 rfl (by kernel_rfl) (by rfl) (fun K hK => ?_)
            refine wp_load_ad (.tmp 9) rfl rfl P3 ?_
            refine hK.out _ _ hS ?_
            clear hK K
            try simp only [Act.put, List.setIfInBounds_toArray, List.set_cons_zero, List.set_cons_succ]
            refine rg_step 8 rfl (by kernel_rfl) (by rfl) (fun K hK => ?_)
            go_simp
            refine (play_addr ov v6 ob hob _).mono ?_
            rintro e u6 ⟨rfl, bK⟩
            replace SG := SG.later bK (Nat.le_refl _)
            replace P1 := P1.later bK (Nat.le_refl _)
            replace P2 := P2.later bK (Nat.le_refl _)
            replace P3 := P3.later bK (Nat.le_refl _)
            replace hS := hS.trans (bK.mono hS.size)
            clear bK
            refine hK.out _ _ hS ?_
            clear hK K
            try simp only [Act.put, List.setIfInBounds_toArray, List.set_cons_zero, List.set_cons_succ]
            refine rg_step 9 rfl (by kernel_rfl) (by rfl) (fun K hK => ?_)
            refine wp_store_adF (.tmp 6) (.tmp 24) rfl rfl rfl (norm_len v6 hsb) P1 ?_
            intro x9 N9 far keep
            replace SG := SG.same (far _ (by omega))
            replace P2 := P2.same (far _ (by omega))
            replace P3 := P3.same (far _ (by omega))
            replace hS := keep _ _ (by omega) hS
            clear P1 far keep
            have P1 := N9
            clear N9
            refine hK.out _ _ hS ?_
            clear hK K
            simp only [Act.put]
            refine rg_step 10 rfl (by kernel_rfl) (by rfl) (fun K hK => ?_)
            refine wp_store_adF (.tmp 7) (.tmp 27) rfl rfl rfl (norm_len v6 hdb) P2 ?_
            intro x10 N10 far keep
            replace SG := SG.same (far _ (by omega))
            replace P1 := P1.same (far _ (by omega))
            replace P3 := P3.same (far _ (by omega))
            replace hS := keep _ _ (by omega) hS
            clear P2 far keep
            have P2 := N10
            clear N10
            refine hK.out _ _ hS ?_
            clear hK K
            simp only [Act.put]
            refine rg_step 11 rfl (by kernel_rfl) (by rfl) (fun K hK => ?_)
            refine wp_store_adF (.tmp 9) (.tmp 30) rfl rfl rfl (norm_len v6 hob) P3 ?_
            intro x11 N11 far keep
            replace SG := SG.same (far _ (by omega))
            replace P1 := P1.same (far _ (by omega))
            replace P2 := P2.same (far _ (by omega))
            replace hS := keep _ _ (by omega) hS
            clear P3 far keep
            have P3 := N11
            clear N11
            refine hK.out _ _ hS ?_
            clear hK K
            simp only [Act.put]
            refine rg_done (by kernel_rfl) ?_
            go_wp2_with fail
            go_meet
            exact ⟨SG, P1, P2, P3, hS⟩
          refine rg_or 6 rfl (by rfl) (fun K hK => ?_) ?_
          · refine wp_load_ad (.tmp 9) rfl rfl P3 ?_
            refine hK.out _ _ hS ?_
            clear hK K
            try simp only [Act.put, List.setIfInBounds_toArray, List.set_cons_zero, List.set_cons_succ]
            refine rg_step 5 rfl (by kernel_rfl) (by rfl) (fun K hK => ?_)
            go_simp
            refine (play_addr dv v6 db hdb _).mono ?_
            rintro e u8 ⟨rfl, bK⟩
            replace SG := SG.later bK (Nat.le_refl _)
            replace P1 := P1.later bK (Nat.le_refl _)
            replace P2 := P2.later bK (Nat.le_refl _)
            replace P3 := P3.later bK (Nat.le_refl _)
            replace hS := hS.trans (bK.mono hS.size)
            clear bK
            refine hK.out _ _ hS ?_
            clear hK K
            try simp only [Act.put, List.setIfInBounds_toArray, List.set_cons_zero, List.set_cons_succ]
            refine rg_step 8 rfl (by kernel_rfl) (by rfl) (fun K hK => ?_)
            go_simp
            refine (play_addr ov v6 ob hob _).mono ?_
            rintro e u9 ⟨rfl, bK⟩
            replace SG := SG.later bK (Nat.le_refl _)
            replace P1 := P1.later bK (Nat.le_refl _)
            replace P2 := P2.later bK (Nat.le_refl _)
            replace P3 := P3.later bK (Nat.le_refl _)
            replace hS := hS.trans (bK.mono hS.size)
            clear bK
            refine hK.out _ _ hS ?_
            clear hK K
            try simp only [Act.put, List.setIfInBounds_toArray, List.set_cons_zero, List.set_cons_succ]
            refine rg_step 9 rfl (by kernel_rfl) (by rfl) (fun K hK => ?_)
            refine wp_store_adF (.tmp 6) (.tmp 24) rfl rfl rfl (norm_len v6 hsb) P1 ?_
            intro x9 N9 far keep
            replace SG := SG.same (far _ (by omega))
            replace P2 := P2.same (far _ (by omega))
            replace P3 := P3.same (far _ (by omega))
            replace hS := keep _ _ (by omega) hS
            clear P1 far keep
            have P1 := N9
            clear N9
            refine hK.out _ _ hS ?_
            clear hK K
            simp only [Act.put]
            refine rg_step 10 rfl (by kernel_rfl) (by rfl) (fun K hK => ?_)
            refine wp_store_adF (.tmp 7) (.tmp 27) rfl rfl rfl (norm_len v6 hdb) P2 ?_
            intro x10 N10 far keep
            replace SG := SG.same (far _ (by omega))
            replace P1 := P1.same (far _ (by omega))
            replace P3 := P3.same (far _ (by omega))
            replace hS := keep _ _ (by omega) hS
            clear P2 far keep
            have P2 := N10
            clear N10
            refine hK.out _ _ hS ?_
            clear hK K
            simp only [Act.put]
            refine rg_step 11 rfl (by kernel_rfl) (by rfl) (fun K hK => ?_)
            refine wp_store_adF (.tmp 9) (.tmp 30) rfl rfl rfl (norm_len v6 hob) P3 ?_
            intro x11 N11 far keep
            replace SG := SG.same (far _ (by omega))
            replace P1 := P1.same (far _ (by omega))
            replace P2 := P2.same (far _ (by omega))
            replace hS := keep _ _ (by omega) hS
            clear P3 far keep
            have P3 := N11
            clear N11
            refine hK.out _ _ hS ?_
            clear hK K
            simp only [Act.put]
            refine rg_done (by kernel_rfl) ?_
            go_wp2_with fail
            go_meet
            exact ⟨SG, P1, P2, P3, hS⟩
          exact AllReadyH.nil
        refine rg_or 6 rfl (by rfl) (fun K hK => ?_) ?_
        · refine wp_load_ad (.tmp 9) rfl rfl P3 ?_
          refine hK.out _ _ hS ?_
          clear hK K
          try simp only [Act.put, List.setIfInBounds_toArray, List.set_cons_zero, List.set_cons_succ]
          refine rg_step 3 rfl (by kernel_rfl) (by rfl) (fun K hK => ?_)
          refine wp_load_ad (.tmp 7) rfl rfl P2 ?_
          refine hK.out _ _ hS ?_
          clear hK K
          try simp only [Act.put, List.setIfInBounds_toArray, List.set_cons_zero, List.set_cons_succ]
          refine rg_step 5 rfl (by kernel_rfl) (by rfl) (fun K hK => ?_)
          go_simp
          refine (play_addr dv v6 db hdb _).mono ?_
          rintro e u12 ⟨rfl, bK⟩
          replace SG := SG.later bK (Nat.le_refl _)
          replace P1 := P1.later bK (Nat.le_refl _)
          replace P2 := P2.later bK (Nat.le_refl _)
          replace P3 := P3.later bK (Nat.le_refl _)
          replace hS := hS.trans (bK.mono hS.size)
          clear bK
          refine hK.out _ _ hS ?_
          clear hK K
          try simp only [Act.put, List.setIfInBounds_toArray, List.set_cons_zero, List.set_cons_succ]
          refine rg_step 8 rfl (by kernel_rfl) (by rfl) (fun K hK => ?_)
          go_simp
          refine (play_addr ov v6 ob hob _).mono ?_
          rintro e u13 ⟨rfl, bK⟩
          replace SG := SG.later bK (Nat.le_refl _)
          replace P1 := P1.later bK (Nat.le_refl _)
          replace P2 := P2.later bK (Nat.le_refl _)
          replace P3 := P3.later bK (Nat.le_refl _)
          replace hS := hS.trans (bK.mono hS.size)
          clear bK
          refine hK.out _ _ hS ?_
          clear hK K
          try simp only [Act.put, List.setIfInBounds_toArray, List.set_cons_zero, List.set_cons_succ]
          refine rg_step 9 rfl (by kernel_rfl) (by rfl) (fun K hK => ?_)
          refine wp_store_adF (.tmp 6) (.tmp 24) rfl rfl rfl (norm_len v6 hsb) P1 ?_
          intro x9 N9 far keep
          replace SG := SG.same (far _ (by omega))
          replace P2 := P2.same (far _ (by omega))
          replace P3 := P3.same (far _ (by omega))
          replace hS := keep _ _ (by omega) hS
          clear P1 far keep
          have P1 := N9
          clear N9
          refine hK.out _ _ hS ?_
          clear hK K
          simp only [Act.put]
          refine rg_step 10 rfl (by kernel_rfl) (by rfl) (fun K hK => ?_)
          refine wp_store_adF (.tmp 7) (.tmp 27) rfl rfl rfl (norm_len v6 hdb) P2 ?_
          intro x10 N10 far keep
          replace SG := SG.same (far _ (by omega))
          replace P1 := P1.same (far _ (by omega))
          replace P3 := P3.same (far _ (by omega))
          replace hS := keep _ _ (by omega) hS
          clear P2 far keep
          have P2 := N10
          clear N10
          refine hK.out _ _ hS ?_
          clear hK K
          simp only [Act.put]
          refine rg_step 11 rfl (by kernel_rfl) (by rfl) (fun K hK => ?_)
          refine wp_store_adF (.tmp 9) (.tmp 30) rfl rfl rfl (norm_len v6 hob) P3 ?_
          intro x11 N11 far keep
          replace SG := SG.same (far _ (by omega))
          replace P1 := P1.same (far _ (by omega))
          replace P2 := P2.same (far _ (by omega))
          replace hS := keep _ _ (by omega) hS
          clear P3 far keep
          have P3 := N11
          clear N11
          refine hK.out _ _ hS ?_
          clear hK K
          simp only [Act.put]
          refine rg_done (by kernel_rfl) ?_
          go_wp2_with fail
          go_meet
          exact ⟨SG, P1, P2, P3, hS⟩
        exact AllReadyH.nil
      refine rg_or 3 rfl (by rfl) (fun K hK => ?_) ?_
      · refine wp_load_ad (.tmp 7) rfl rfl P2 ?_
        refine hK.out _ _ hS ?_
        clear hK K
        try simp only [Act.put, List.setIfInBounds_toArray, List.set_cons_zero, List.set_cons_succ]
        refine rg_any [2, 6] (by kernel_rfl) (by simp) ?_
        refine rg_or 2 rfl (by rfl) (fun K hK => ?_) ?_
        · go_simp
          refine (play_addr sv v6 sb hsb _).mono ?_
          rintro e u15 ⟨rfl, bK⟩
          replace SG := SG.later bK (Nat.le_refl _)
          replace P1 := P1.later bK (Nat.le_refl _)
          replace P2 := P2.later bK (Nat.le_refl _)
          replace P3 := P3.later bK (Nat.le_refl _)
          replace hS := hS.trans (bK.mono hS.size)
          clear bK
          refine hK.out _ _ hS ?_
          clear hK K
          try simp only [Act.put, List.setIfInBounds_toArray, List.set_cons_zero, List.set_cons_succ]
          refine rg_any [5, 6] (by kernel_rfl) (by simp) ?_
          refine rg_or 5 rfl (by rfl) (fun K hK => ?_) ?_
          · go_simp
            refine (play_addr dv v6 db hdb _).mono ?_
            rintro e u16 ⟨rfl, bK⟩
            replace SG := SG.later bK (Nat.le_refl _)
            replace P1 := P1.later bK (Nat.le_refl _)
            replace P2 := P2.later bK (Nat.le_refl _)
            replace P3 := P3.later bK (Nat.le_refl _)
            replace hS := hS.trans (bK.mono hS.size)
            clear bK
            refine hK.out _ _ hS ?_
            clear hK K
            try simp only [Act.put, List.setIfInBounds_toArray, List.set_cons_zero, List.set_cons_succ]
            refine rg_step 6 rfl (by kernel_rfl) (by rfl) (fun K hK => ?_)
            refine wp_load_ad (.tmp 9) rfl rfl P3 ?_
            refine hK.out _ _ hS ?_
            clear hK K
            try simp only [Act.put, List.setIfInBounds_toArray, List.set_cons_zero, List.set_cons_succ]
            refine rg_step 8 rfl (by kernel_rfl) (by rfl) (fun K hK => ?_)
            go_simp
            refine (play_addr ov v6 ob hob _).mono ?_
            rintro e u18 ⟨rfl, bK⟩
            replace SG := SG.later bK (Nat.le_refl _)
            replace P1 := P1.later bK (Nat.le_refl _)
            replace P2 := P2.later bK (Nat.le_refl _)
            replace P3 := P3.later bK (Nat.le_refl _)
            replace hS := hS.trans (bK.mono hS.size)
            clear bK
            refine hK.out _ _ hS ?_
            clear hK K
            try simp only [Act.put, List.setIfInBounds_toArray, List.set_cons_zero, List.set_cons_succ]
            refine rg_step 9 rfl (by kernel_rfl) (by rfl) (fun K hK => ?_)
            refine wp_store_adF (.tmp 6) (.tmp 24) rfl rfl rfl (norm_len v6 hsb) P1 ?_
            intro x9 N9 far keep
            replace SG := SG.same (far _ (by omega))
            replace P2 := P2.same (far _ (by omega))
            replace P3 := P3.same (far _ (by omega))
            replace hS := keep _ _ (by omega) hS
            clear P1 far keep
            have P1 := N9
            clear N9
            refine hK.out _ _ hS ?_
            clear hK K
            simp only [Act.put]
            refine rg_step 10 rfl (by kernel_rfl) (by rfl) (fun K hK => ?_)
            refine wp_store_adF (.tmp 7) (.tmp 27) rfl rfl rfl (norm_len v6 hdb) P2 ?_
            intro x10 N10 far keep
            replace SG := SG.same (far _ (by omega))
            replace P1 := P1.same (far _ (by omega))
            replace P3 := P3.same (far _ (by omega))
            replace hS := keep _ _ (by omega) hS
            clear P2 far keep
            have P2 := N10
            clear N10
            refine hK.out _ _ hS ?_
            clear hK K
            simp only [Act.put]
            refine rg_step 11 rfl (by kernel_rfl) (by rfl) (fun K hK => ?_)
            refine wp_store_adF (.tmp 9) (.tmp 30) rfl rfl rfl (norm_len v6 hob) P3 ?_
            intro x11 N11 far keep
            replace SG := SG.same (far _ (by omega))
            replace P1 := P1.same (far _ (by omega))
            replace P2 := P2.same (far _ (by omega))
            replace hS := keep _ _ (by omega) hS
            clear P3 far keep
            have P3 := N11
            clear N11
            refine hK.out _ _ hS ?_
            clear hK K
            simp only [Act.put]
            refine rg_done (by kernel_rfl) ?_
            go_wp2_with fail
            go_meet
            exact ⟨SG, P1, P2, P3, hS⟩
          refine rg_or 6 rfl (by rfl) (fun K hK => ?_) ?_
          · refine wp_load_ad (.tmp 9) rfl rfl P3 ?_
            refine hK.out _ _ hS ?_
            clear hK K
            try simp only [Act.put, List.setIfInBounds_toArray, List.set_cons_zero, List.set_cons_succ]
            refine rg_step 5 rfl (by kernel_rfl) (by rfl) (fun K hK => ?_)
            go_simp
            refine (play_addr dv v6 db hdb _).mono ?_
            rintro e u20 ⟨rfl, bK⟩
            replace SG := SG.later bK (Nat.le_refl _)
            replace P1 := P1.later bK (Nat.le_refl _)
            replace P2 := P2.later bK (Nat.le_refl _)
            replace P3 := P3.later bK (Nat.le_refl _)
            replace hS := hS.trans (bK.mono hS.size)
            clear bK
            refine hK.out _ _ hS ?_
            clear hK K
            try simp only [Act.put, List.setIfInBounds_toArray, List.set_cons_zero, List.set_cons_succ]
            refine rg_step 8 rfl (by kernel_rfl) (by rfl) (fun K hK => ?_)
            go_simp
            refine (play_addr ov v6 ob hob _).mono ?_
            rintro e u21 ⟨rfl, bK⟩
            replace SG := SG.later bK (Nat.le_refl _)
            replace P1 := P1.later bK (Nat.le_refl _)
            replace P2 := P2.later bK (Nat.le_refl _)
            replace P3 := P3.later bK (Nat.le_refl _)
            replace hS := hS.trans (bK.mono hS.size)
            clear bK
            refine hK.out _ _ hS ?_
            clear hK K
            try simp only [Act.put, List.setIfInBounds_toArray, List.set_cons_zero, List.set_cons_succ]
            refine rg_step 9 rfl (by kernel_rfl) (by rfl) (fun K hK => ?_)
            refine wp_store_adF (.tmp 6) (.tmp 24) rfl rfl rfl (norm_len v6 hsb) P1 ?_
            intro x9 N9 far keep
            replace SG := SG.same (far _ (by omega))
            replace P2 := P2.same (far _ (by omega))
            replace P3 := P3.same (far _ (by omega))
            replace hS := keep _ _ (by omega) hS
            clear P1 far keep
            have P1 := N9
            clear N9
            refine hK.out _ _ hS ?_
            clear hK K
            simp only [Act.put]
            refine rg_step 10 rfl (by kernel_rfl) (by rfl) (fun K hK => ?_)
            refine wp_store_adF (.tmp 7) (.tmp 27) rfl rfl rfl (norm_len v6 hdb) P2 ?_
            intro x10 N10 far keep
            replace SG := SG.same (far _ (by omega))
            replace P1 := P1.same (far _ (by omega))
            replace P3 := P3.same (far _ (by omega))
            replace hS := keep _ _ (by omega) hS
            clear P2 far keep
            have P2 := N10
            clear N10
            refine hK.out _ _ hS ?_
            clear hK K
            simp only [Act.put]
            refine rg_step 11 rfl (by kernel_rfl) (by rfl) (fun K hK => ?_)
            refine wp_store_adF (.tmp 9) (.tmp 30) rfl rfl rfl (norm_len v6 hob) P3 ?_
            intro x11 N11 far keep
            replace SG := SG.same (far _ (by omega))
            replace P1 := P1.same (far _ (by omega))
            replace P2 := P2.same (far _ (by omega))
            replace hS := keep _ _ (by omega) hS
            clear P3 far keep
            have P3 := N11
            clear N11
            refine hK.out _ _ hS ?_
            clear hK K
            simp only [Act.put]
            refine rg_done (by kernel_rfl) ?_
            go_wp2_with fail
            go_meet
            exact ⟨SG, P1, P2, P3, hS⟩
          exact AllReadyH.nil
        refine rg_or 6 rfl (by rfl) (fun K hK => ?_) ?_
        · refine wp_load_ad (.tmp 9) rfl rfl P3 ?_
          refine hK.out _ _ hS ?_
          clear hK K
          try simp only [Act.put, List.setIfInBounds_toArray, List.set_cons_zero, List.set_cons_succ]
          refine rg_step 2 rfl (by kernel_rfl) (by rfl) (fun K hK => ?_)
          go_simp
          refine (play_addr sv v6 sb hsb _).mono ?_
          rintro e u23 ⟨rfl, bK⟩
          replace SG := SG.later bK (Nat.le_refl _)
          replace P1 := P1.later bK (Nat.le_refl _)
          replace P2 := P2.later bK (Nat.le_refl _)
          replace P3 := P3.later bK (Nat.le_refl _)
          replace hS := hS.trans (bK.mono hS.size)
          clear bK
          refine hK.out _ _ hS ?_
          clear hK K
          try simp only [Act.put, List.setIfInBounds_toArray, List.set_cons_zero, List.set_cons_succ]
          refine rg_step 5 rfl (by kernel_rfl) (by rfl) (fun K hK => ?_)
          go_simp
          refine (play_addr dv v6 db hdb _).mono ?_
          rintro e u24 ⟨rfl, bK⟩
          replace SG := SG.later bK (Nat.le_refl _)
          replace P1 := P1.later bK (Nat.le_refl _)
          replace P2 := P2.later bK (Nat.le_refl _)
          replace P3 := P3.later bK (Nat.le_refl _)
          replace hS := hS.trans (bK.mono hS.size)
          clear bK
          refine hK.out _ _ hS ?_
          clear hK K
          try simp only [Act.put, List.setIfInBounds_toArray, List.set_cons_zero, List.set_cons_succ]
          refine rg_step 8 rfl (by kernel_rfl) (by rfl) (fun K hK => ?_)
          go_simp
          refine (play_addr ov v6 ob hob _).mono ?_
          rintro e u25 ⟨rfl, bK⟩
          replace SG := SG.later bK (Nat.le_refl _)
          replace P1 := P1.later bK (Nat.le_refl _)
          replace P2 := P2.later bK (Nat.le_refl _)
          replace P3 := P3.later bK (Nat.le_refl _)
          replace hS := hS.trans (bK.mono hS.size)
          clear bK
          refine hK.out _ _ hS ?_
          clear hK K
          try simp only [Act.put, List.setIfInBounds_toArray, List.set_cons_zero, List.set_cons_succ]
          refine rg_step 9 rfl (by kernel_rfl) (by rfl) (fun K hK => ?_)
          refine wp_store_adF (.tmp 6) (.tmp 24) rfl rfl rfl (norm_len v6 hsb) P1 ?_
          intro x9 N9 far keep
          replace SG := SG.same (far _ (by omega))
          replace P2 := P2.same (far _ (by omega))
          replace P3 := P3.same (far _ (by omega))
          replace hS := keep _ _ (by omega) hS
          clear P1 far keep
          have P1 := N9
          clear N9
          refine hK.out _ _ hS ?_
          clear hK K
          simp only [Act.put]
          refine rg_step 10 rfl (by kernel_rfl) (by rfl) (fun K hK => ?_)
          refine wp_store_adF (.tmp 7) (.tmp 27) rfl rfl rfl (norm_len v6 hdb) P2 ?_
          intro x10 N10 far keep
          replace SG := SG.same (far _ (by omega))
          replace P1 := P1.same (far _ (by omega))
          replace P3 := P3.same (far _ (by omega))
          replace hS := keep _ _ (by omega) hS
          clear P2 far keep
          have P2 := N10
          clear N10
          refine hK.out _ _ hS ?_
          clear hK K
          simp only [Act.put]
          refine rg_step 11 rfl (by kernel_rfl) (by rfl) (fun K hK => ?_)
          refine wp_store_adF (.tmp 9) (.tmp 30) rfl rfl rfl (norm_len v6 hob) P3 ?_
          intro x11 N11 far keep
          replace SG := SG.same (far _ (by omega))
          replace P1 := P1.same (far _ (by omega))
          replace P2 := P2.same (far _ (by omega))
          replace hS := keep _ _ (by omega) hS
          clear P3 far keep
          have P3 := N11
          clear N11
          refine hK.out _ _ hS ?_
          clear hK K
          simp only [Act.put]
          refine rg_done (by kernel_rfl) ?_
          go_wp2_with fail
          go_meet
          exact ⟨SG, P1, P2, P3, hS⟩
        exact AllReadyH.nil
      refine rg_or 6 rfl (by rfl) (fun K hK => ?_) ?_
      · refine wp_load_ad (.tmp 9) rfl rfl P3 ?_
        refine hK.out _ _ hS ?_
        clear hK K
        try simp only [Act.put, List.setIfInBounds_toArray, List.set_cons_zero, List.set_cons_succ]
        refine rg_any [2, 3] (by kernel_rfl) (by simp) ?_
        refine rg_or 2 rfl (by rfl) (fun K hK => ?_) ?_
        · go_simp
          refine (play_addr sv v6 sb hsb _).mono ?_
          rintro e u27 ⟨rfl, bK⟩
          replace SG := SG.later bK (Nat.le_refl _)
          replace P1 := P1.later bK (Nat.le_refl _)
          replace P2 := P2.later bK (Nat.le_refl _)
          replace P3 := P3.later bK (Nat.le_refl _)
          replace hS := hS.trans (bK.mono hS.size)
          clear bK
          refine hK.out _ _ hS ?_
          clear hK K
          try simp only [Act.put, List.setIfInBounds_toArray, List.set_cons_zero, List.set_cons_succ]
          refine rg_step 3 rfl (by kernel_rfl) (by rfl) (fun K hK => ?_)
          refine wp_load_ad (.tmp 7) rfl rfl P2 ?_
          refine hK.out _ _ hS ?_
          clear hK K
          try simp only [Act.put, List.setIfInBounds_toArray, List.set_cons_zero, List.set_cons_succ]
          refine rg_step 5 rfl (by kernel_rfl) (by rfl) (fun K hK => ?_)
          go_simp
          refine (play_addr dv v6 db hdb _).mono ?_
          rintro e u29 ⟨rfl, bK⟩
          replace SG := SG.later bK (Nat.le_refl _)
          replace P1 := P1.later bK (Nat.le_refl _)
          replace P2 := P2.later bK (Nat.le_refl _)
          replace P3 := P3.later bK (Nat.le_refl _)
          replace hS := hS.trans (bK.mono hS.size)
          clear bK
          refine hK.out _ _ hS ?_
          clear hK K
          try simp only [Act.put, List.setIfInBounds_toArray, List.set_cons_zero, List.set_cons_succ]
          refine rg_step 8 rfl (by kernel_rfl) (by rfl) (fun K hK => ?_)
          go_simp
          refine (play_addr ov v6 ob hob _).mono ?_
          rintro e u30 ⟨rfl, bK⟩
          replace SG := SG.later bK (Nat.le_refl _)
          replace P1 := P1.later bK (Nat.le_refl _)
          replace P2 := P2.later bK (Nat.le_refl _)
          replace P3 := P3.later bK (Nat.le_refl _)
          replace hS := hS.trans (bK.mono hS.size)
          clear bK
          refine hK.out _ _ hS ?_
          clear hK K
          try simp only [Act.put, List.setIfInBounds_toArray, List.set_cons_zero, List.set_cons_succ]
          refine rg_step 9 rfl (by kernel_rfl) (by rfl) (fun K hK => ?_)
          refine wp_store_adF (.tmp 6) (.tmp 24) rfl rfl rfl (norm_len v6 hsb) P1 ?_
          intro x9 N9 far keep
          replace SG := SG.same (far _ (by omega))
          replace P2 := P2.same (far _ (by omega))
          replace P3 := P3.same (far _ (by omega))
          replace hS := keep _ _ (by omega) hS
          clear P1 far keep
          have P1 := N9
          clear N9
          refine hK.out _ _ hS ?_
          clear hK K
          simp only [Act.put]
          refine rg_step 10 rfl (by kernel_rfl) (by rfl) (fun K hK => ?_)
          refine wp_store_adF (.tmp 7) (.tmp 27) rfl rfl rfl (norm_len v6 hdb) P2 ?_
          intro x10 N10 far keep
          replace SG := SG.same (far _ (by omega))
          replace P1 := P1.same (far _ (by omega))
          replace P3 := P3.same (far _ (by omega))
          replace hS := keep _ _ (by omega) hS
          clear P2 far keep
          have P2 := N10
          clear N10
          refine hK.out _ _ hS ?_
          clear hK K
          simp only [Act.put]
          refine rg_step 11 rfl (by kernel_rfl) (by rfl) (fun K hK => ?_)
          refine wp_store_adF (.tmp 9) (.tmp 30) rfl rfl rfl (norm_len v6 hob) P3 ?_
          intro x11 N11 far keep
          replace SG := SG.same (far _ (by omega))
          replace P1 := P1.same (far _ (by omega))
          replace P2 := P2.same (far _ (by omega))
          replace hS := keep _ _ (by omega) hS
          clear P3 far keep
          have P3 := N11
          clear N11
          refine hK.out _ _ hS ?_
          clear hK K
          simp only [Act.put]
          refine rg_done (by kernel_rfl) ?_
          go_wp2_with fail
          go_meet
          exact ⟨SG, P1, P2, P3, hS⟩
        refine rg_or 3 rfl (by rfl) (fun K hK => ?_) ?_
        · refine wp_load_ad (.tmp 7) rfl rfl P2 ?_
          refine hK.out _ _ hS ?_
          clear hK K
          try simp only [Act.put, List.setIfInBounds_toArray, List.set_cons_zero, List.set_cons_succ]
          refine rg_step 2 rfl (by kernel_rfl) (by rfl) (fun K hK => ?_)
          go_simp
          refine (play_addr sv v6 sb hsb _).mono ?_
          rintro e u32 ⟨rfl, bK⟩
          replace SG := SG.later bK (Nat.le_refl _)
          replace P1 := P1.later bK (Nat.le_refl _)
          replace P2 := P2.later bK (Nat.le_refl _)
          replace P3 := P3.later bK (Nat.le_refl _)
          replace hS := hS.trans (bK.mono hS.size)
          clear bK
          refine hK.out _ _ hS ?_
          clear hK K
          try simp only [Act.put, List.setIfInBounds_toArray, List.set_cons_zero, List.set_cons_succ]
          refine rg_step 5 rfl (by kernel_rfl) (by rfl) (fun K hK => ?_)
          go_simp
          refine (play_addr dv v6 db hdb _).mono ?_
          rintro e u33 ⟨rfl, bK⟩
          replace SG := SG.later bK (Nat.le_refl _)
          replace P1 := P1.later bK (Nat.le_refl _)
          replace P2 := P2.later bK (Nat.le_refl _)
          replace P3 := P3.later bK (Nat.le_refl _)
          replace hS := hS.trans (bK.mono hS.size)
          clear bK
          refine hK.out _ _ hS ?_
          clear hK K
          try simp only [Act.put, List.setIfInBounds_toArray, List.set_cons_zero, List.set_cons_succ]
          refine rg_step 8 rfl (by kernel_rfl) (by rfl) (fun K hK => ?_)
          go_simp
          refine (play_addr ov v6 ob hob _).mono ?_
          rintro e u34 ⟨rfl, bK⟩
          replace SG := SG.later bK (Nat.le_refl _)
          replace P1 := P1.later bK (Nat.le_refl _)
          replace P2 := P2.later bK (Nat.le_refl _)
          replace P3 := P3.later bK (Nat.le_refl _)
          replace hS := hS.trans (bK.mono hS.size)
          clear bK
          refine hK.out _ _ hS ?_
          clear hK K
          try simp only [Act.put, List.setIfInBounds_toArray, List.set_cons_zero, List.set_cons_succ]
          refine rg_step 9 rfl (by kernel_rfl) (by rfl) (fun K hK => ?_)
          refine wp_store_adF (.tmp 6) (.tmp 24) rfl rfl rfl (norm_len v6 hsb) P1 ?_
          intro x9 N9 far keep
          replace SG := SG.same (far _ (by omega))
          replace P2 := P2.same (far _ (by omega))
          replace P3 := P3.same (far _ (by omega))
          replace hS := keep _ _ (by omega) hS
          clear P1 far keep
          have P1 := N9
          clear N9
          refine hK.out _ _ hS ?_
          clear hK K
          simp only [Act.put]
          refine rg_step 10 rfl (by kernel_rfl) (by rfl) (fun K hK => ?_)
          refine wp_store_adF (.tmp 7) (.tmp 27) rfl rfl rfl (norm_len v6 hdb) P2 ?_
          intro x10 N10 far keep
          replace SG := SG.same (far _ (by omega))
          replace P1 := P1.same (far _ (by omega))
          replace P3 := P3.same (far _ (by omega))
          replace hS := keep _ _ (by omega) hS
          clear P2 far keep
          have P2 := N10
          clear N10
          refine hK.out _ _ hS ?_
          clear hK K
          simp only [Act.put]
          refine rg_step 11 rfl (by kernel_rfl) (by rfl) (fun K hK => ?_)
          refine wp_store_adF (.tmp 9) (.tmp 30) rfl rfl rfl (norm_len v6 hob) P3 ?_
          intro x11 N11 far keep
          replace SG := SG.same (far _ (by omega))
          replace P1 := P1.same (far _ (by omega))
          replace P2 := P2.same (far _ (by omega))
          replace hS := keep _ _ (by omega) hS
          clear P3 far keep
          have P3 := N11
          clear N11
          refine hK.out _ _ hS ?_
          clear hK K
          simp only [Act.put]
          refine rg_done (by kernel_rfl) ?_
          go_wp2_with fail
          go_meet
          exact ⟨SG, P1, P2, P3, hS⟩
        exact AllReadyH.nil
      exact AllReadyH.nil
    refine rg_or 3 rfl (by rfl) (fun K hK => ?_) ?_
    · refine wp_load_ad (.tmp 7) rfl rfl P2 ?_
      refine hK.out _ _ hS ?_
      clear hK K
      try simp only [Act.put, List.setIfInBounds_toArray, List.set_cons_zero, List.set_cons_succ]
      refine rg_any [0, 6] (by kernel_rfl) (by simp) ?_
      refine rg_or 0 rfl (by rfl) (fun K hK => ?_) ?_
      · refine wp_load_ad (.tmp 6) rfl rfl P1 ?_
        refine hK.out _ _ hS ?_
        clear hK K
        try simp only [Act.put, List.setIfInBounds_toArray, List.set_cons_zero, List.set_cons_succ]
        refine rg_any [2, 6] (by kernel_rfl) (by simp) ?_
        refine rg_or 2 rfl (by rfl) (fun K hK => ?_) ?_
        · go_simp
          refine (play_addr sv v6 sb hsb _).mono ?_
          rintro e u37 ⟨rfl, bK⟩
          replace SG := SG.later bK (Nat.le_refl _)
          replace P1 := P1.later bK (Nat.le_refl _)
          replace P2 := P2.later bK (Nat.le_refl _)
          replace P3 := P3.later bK (Nat.le_refl _)
          replace hS := hS.trans (bK.mono hS.size)
          clear bK
          refine hK.out _ _ hS ?_
          clear hK K
          try simp only [Act.put, List.setIfInBounds_toArray, List.set_cons_zero, List.set_cons_succ]
          refine rg_any [5, 6] (by kernel_rfl) (by simp) ?_
          refine rg_or 5 rfl (by rfl) (fun K hK => ?_) ?_
          · go_simp
            refine (play_addr dv v6 db hdb _).mono ?_
            rintro e u38 ⟨rfl, bK⟩
            replace SG := SG.later bK (Nat.le_refl _)
            replace P1 := P1.later bK (Nat.le_refl _)
            replace P2 := P2.later bK (Nat.le_refl _)
            replace P3 := P3.later bK (Nat.le_refl _)
            replace hS := hS.trans (bK.mono hS.size)
            clear bK
            refine hK.out _ _ hS ?_
            clear hK K
            try simp only [Act.put, List.setIfInBounds_toArray, List.set_cons_zero, List.set_cons_succ]
            refine rg_step 6 rfl (by kernel_rfl) (by rfl) (fun K hK => ?_)
            refine wp_load_ad (.tmp 9) rfl rfl P3 ?_
            refine hK.out _ _ hS ?_
            clear hK K
            try simp only [Act.put, List.setIfInBounds_toArray, List.set_cons_zero, List.set_cons_succ]
            refine rg_step 8 rfl (by kernel_rfl) (by rfl) (fun K hK => ?_)
            go_simp
            refine (play_addr ov v6 ob hob _).mono ?_
            rintro e u40 ⟨rfl, bK⟩
            replace SG := SG.later bK (Nat.le_refl _)
            replace P1 := P1.later bK (Nat.le_refl _)
            replace P2 := P2.later bK (Nat.le_refl _)
            replace P3 := P3.later bK (Nat.le_refl _)
            replace hS := hS.trans (bK.mono hS.size)
            clear bK
            refine hK.out _ _ hS ?_
            clear hK K
            try simp only [Act.put, List.setIfInBounds_toArray, List.set_cons_zero, List.set_cons_succ]
            refine rg_step 9 rfl (by kernel_rfl) (by rfl) (fun K hK => ?_)
            refine wp_store_adF (.tmp 6) (.tmp 24) rfl rfl rfl (norm_len v6 hsb) P1 ?_
            intro x9 N9 far keep
            replace SG := SG.same (far _ (by omega))
            replace P2 := P2.same (far _ (by omega))
            replace P3 := P3.same (far _ (by omega))
            replace hS := keep _ _ (by omega) hS
            clear P1 far keep
            have P1 := N9
            clear N9
            refine hK.out _ _ hS ?_
            clear hK K
            simp only [Act.put]
            refine rg_step 10 rfl (by kernel_rfl) (by rfl) (fun K hK => ?_)
            refine wp_store_adF (.tmp 7) (.tmp 27) rfl rfl rfl (norm_len v6 hdb) P2 ?_
            intro x10 N10 far keep
            replace SG := SG.same (far _ (by omega))
            replace P1 := P1.same (far _ (by omega))
            replace P3 := P3.same (far _ (by omega))
            replace hS := keep _ _ (by omega) hS
            clear P2 far keep
            have P2 := N10
            clear N10
            refine hK.out _ _ hS ?_
            clear hK K
            simp only [Act.put]
            refine rg_step 11 rfl (by kernel_rfl) (by rfl) (fun K hK => ?_)
            refine wp_store_adF (.tmp 9) (.tmp 30) rfl rfl rfl (norm_len v6 hob) P3 ?_
            intro x11 N11 far keep
            replace SG := SG.same (far _ (by omega))
            replace P1 := P1.same (far _ (by omega))
            replace P2 := P2.same (far _ (by omega))
            replace hS := keep _ _ (by omega) hS
            clear P3 far keep
            have P3 := N11
            clear N11
            refine hK.out _ _ hS ?_
            clear hK K
            simp only [Act.put]
            refine rg_done (by kernel_rfl) ?_
            go_wp2_with fail
            go_meet
            exact ⟨SG, P1, P2, P3, hS⟩
          refine rg_or 6 rfl (by rfl) (fun K hK => ?_) ?_
          · refine wp_load_ad (.tmp 9) rfl rfl P3 ?_
            refine hK.out _ _ hS ?_
            clear hK K
            try simp only [Act.put, List.setIfInBounds_toArray, List.set_cons_zero, List.set_cons_succ]
            refine rg_step 5 rfl (by kernel_rfl) (by rfl) (fun K hK => ?_)
            go_simp
            refine (play_addr dv v6 db hdb _).mono ?_
            rintro e u42 ⟨rfl, bK⟩
            replace SG := SG.later bK (Nat.le_refl _)
            replace P1 := P1.later bK (Nat.le_refl _)
            replace P2 := P2.later bK (Nat.le_refl _)
            replace P3 := P3.later bK (Nat.le_refl _)
            replace hS := hS.trans (bK.mono hS.size)
            clear bK
            refine hK.out _ _ hS ?_
            clear hK K
            try simp only [Act.put, List.setIfInBounds_toArray, List.set_cons_zero, List.set_cons_succ]
            refine rg_step 8 rfl (by kernel_rfl) (by rfl) (fun K hK => ?_)
            go_simp
            refine (play_addr ov v6 ob hob _).mono ?_
            rintro e u43 ⟨rfl, bK⟩
            replace SG := SG.later bK (Nat.le_refl _)
            replace P1 := P1.later bK (Nat.le_refl _)
            replace P2 := P2.later bK (Nat.le_refl _)
            replace P3 := P3.later bK (Nat.le_refl _)
            replace hS := hS.trans (bK.mono hS.size)
            clear bK
            refine hK.out _ _ hS ?_
            clear hK K
            try simp only [Act.put, List.setIfInBounds_toArray, List.set_cons_zero, List.set_cons_succ]
            refine rg_step 9 rfl (by kernel_rfl) (by rfl) (fun K hK => ?_)
            refine wp_store_adF (.tmp 6) (.tmp 24) rfl rfl rfl (norm_len v6 hsb) P1 ?_
            intro x9 N9 far keep
            replace SG := SG.same (far _ (by omega))
            replace P2 := P2.same (far _ (by omega))
            replace P3 := P3.same (far _ (by omega))
            replace hS := keep _ _ (by omega) hS
            clear P1 far keep
            have P1 := N9
            clear N9
            refine hK.out _ _ hS ?_
            clear hK K
            simp only [Act.put]
            refine rg_step 10 rfl (by kernel_rfl) (by rfl) (fun K hK => ?_)
            refine wp_store_adF (.tmp 7) (.tmp 27) rfl rfl rfl (norm_len v6 hdb) P2 ?_
            intro x10 N10 far keep
            replace SG := SG.same (far _ (by omega))
            replace P1 := P1.same (far _ (by omega))
            replace P3 := P3.same (far _ (by omega))
            replace hS := keep _ _ (by omega) hS
            clear P2 far keep
            have P2 := N10
            clear N10
            refine hK.out _ _ hS ?_
            clear hK K
            simp only [Act.put]
            refine rg_step 11 rfl (by kernel_rfl) (by rfl) (fun K hK => ?_)
            refine wp_store_adF (.tmp 9) (.tmp 30) rfl rfl rfl (norm_len v6 hob) P3 ?_
            intro x11 N11 far keep
            replace SG := SG.same (far _ (by omega))
            replace P1 := P1.same (far _ (by omega))
            replace P2 := P2.same (far _ (by omega))
            replace hS := keep _ _ (by omega) hS
            clear P3 far keep
            have P3 := N11
            clear N11
            refine hK.out _ _ hS ?_
            clear hK K
            simp only [Act.put]
            refine rg_done (by kernel_rfl) ?_
            go_wp2_with fail
            go_meet
            exact ⟨SG, P1, P2, P3, hS⟩
          exact AllReadyH.nil
        refine rg_or 6 rfl (by rfl) (fun K hK => ?_) ?_
        · refine wp_load_ad (.tmp 9) rfl rfl P3 ?_
          refine hK.out _ _ hS ?_
          clear hK K
          try simp only [Act.put, List.setIfInBounds_toArray, List.set_cons_zero, List.set_cons_succ]
          refine rg_step 2 rfl (by kernel_rfl) (by rfl) (fun K hK => ?_)
          go_simp
          refine (play_addr sv v6 sb hsb _).mono ?_
          rintro e u45 ⟨rfl, bK⟩
          replace SG := SG.later bK (Nat.le_refl _)
          replace P1 := P1.later bK (Nat.le_refl _)
          replace P2 := P2.later bK (Nat.le_refl _)
          replace P3 := P3.later bK (Nat.le_refl _)
          replace hS := hS.trans (bK.mono hS.size)
          clear bK
          refine hK.out _ _ hS ?_
          clear hK K
          try simp only [Act.put, List.setIfInBounds_toArray, List.set_cons_zero, List.set_cons_succ]
          refine rg_step 5 rfl (by kernel_rfl) (by rfl) (fun K hK => ?_)
          go_simp
          refine (play_addr dv v6 db hdb _).mono ?_
          rintro e u46 ⟨rfl, bK⟩
          replace SG := SG.later bK (Nat.le_refl _)
          replace P1 := P1.later bK (Nat.le_refl _)
          replace P2 := P2.later bK (Nat.le_refl _)
          replace P3 := P3.later bK (Nat.le_refl _)
          replace hS := hS.trans (bK.mono hS.size)
          clear bK
          refine hK.out _ _ hS ?_
          clear hK K
          try simp only [Act.put, List.setIfInBounds_toArray, List.set_cons_zero, List.set_cons_succ]
          refine rg_step 8 rfl (by kernel_rfl) (by rfl) (fun K hK => ?_)
          go_simp
          refine (play_addr ov v6 ob hob _).mono ?_
          rintro e u47 ⟨rfl, bK⟩
          replace SG := SG.later bK (Nat.le_refl _)
          replace P1 := P1.later bK (Nat.le_refl _)
          replace P2 := P2.later bK (Nat.le_refl _)
          replace P3 := P3.later bK (Nat.le_refl _)
          replace hS := hS.trans (bK.mono hS.size)
          clear bK
          refine hK.out _ _ hS ?_
          clear hK K
          try simp only [Act.put, List.setIfInBounds_toArray, List.set_cons_zero, List.set_cons_succ]
          refine rg_step 9 rfl (by kernel_rfl) (by rfl) (fun K hK => ?_)
          refine wp_store_adF (.tmp 6) (.tmp 24) rfl rfl rfl (norm_len v6 hsb) P1 ?_
          intro x9 N9 far keep
          replace SG := SG.same (far _ (by omega))
          replace P2 := P2.same (far _ (by omega))
          replace P3 := P3.same (far _ (by omega))
          replace hS := keep _ _ (by omega) hS
          clear P1 far keep
          have P1 := N9
          clear N9
          refine hK.out _ _ hS ?_
          clear hK K
          simp only [Act.put]
          refine rg_step 10 rfl (by kernel_rfl) (by rfl) (fun K hK => ?_)
          refine wp_store_adF (.tmp 7) (.tmp 27) rfl rfl rfl (norm_len v6 hdb) P2 ?_
          intro x10 N10 far keep
          replace SG := SG.same (far _ (by omega))
          replace P1 := P1.same (far _ (by omega))
          replace P3 := P3.same (far _ (by omega))
          replace hS := keep _ _ (by omega) hS
          clear P2 far keep
          have P2 := N10
          clear N10
          refine hK.out _ _ hS ?_
          clear hK K
          simp only [Act.put]
          refine rg_step 11 rfl (by kernel_rfl) (by rfl) (fun K hK => ?_)
          refine wp_store_adF (.tmp 9) (.tmp 30) rfl rfl rfl (norm_len v6 hob) P3 ?_
          intro x11 N11 far keep
          replace SG := SG.same (far _ (by omega))
          replace P1 := P1.same (far _ (by omega))
          replace P2 := P2.same (far _ (by omega))
          replace hS := keep _ _ (by omega) hS
          clear P3 far keep
          have P3 := N11
          clear N11
          refine hK.out _ _ hS ?_
          clear hK K
          simp only [Act.put]
          refine rg_done (by kernel_rfl) ?_
          go_wp2_with fail
          go_meet
          exact ⟨SG, P1, P2, P3, hS⟩
        exact AllReadyH.nil
      refine rg_or 6 rfl (by rfl) (fun K hK => ?_) ?_
      · refine wp_load_ad (.tmp 9) rfl rfl P3 ?_
        refine hK.out _ _ hS ?_
        clear hK K
        try simp only [Act.put, List.setIfInBounds_toArray, List.set_cons_zero, List.set_cons_succ]
        refine rg_step 0 rfl (by kernel_rfl) (by rfl) (fun K hK => ?_)
        refine wp_load_ad (.tmp 6) rfl rfl P1 ?_
        refine hK.out _ _ hS ?_
        clear hK K
        try simp only [Act.put, List.setIfInBounds_toArray, List.set_cons_zero, List.set_cons_succ]
        refine rg_step 2 rfl (by kernel_rfl) (by rfl) (fun K hK => ?_)
        go_simp
        refine (play_addr sv v6 sb hsb _).mono ?_
        rintro e u50 ⟨rfl, bK⟩
        replace SG := SG.later bK (Nat.le_refl _)
        replace P1 := P1.later bK (Nat.le_refl _)
        replace P2 := P2.later bK (Nat.le_refl _)
        replace P3 := P3.later bK (Nat.le_refl _)
        replace hS := hS.trans (bK.mono hS.size)
        clear bK
        refine hK.out _ _ hS ?_
        clear hK K
        try simp only [Act.put, List.setIfInBounds_toArray, List.set_cons_zero, List.set_cons_succ]
        refine rg_step 5 rfl (by kernel_rfl) (by rfl) (fun K hK => ?_)
        go_simp
        refine (play_addr dv v6 db hdb _).mono ?_
        rintro e u51 ⟨rfl, bK⟩
        replace SG := SG.later bK (Nat.le_refl _)
        replace P1 := P1.later bK (Nat.le_refl _)
        replace P2 := P2.later bK (Nat.le_refl _)
        replace P3 := P3.later bK (Nat.le_refl _)
        replace hS := hS.trans (bK.mono hS.size)
        clear bK
        refine hK.out _ _ hS ?_
        clear hK K
        try simp only [Act.put, List.setIfInBounds_toArray, List.set_cons_zero, List.set_cons_succ]
        refine rg_step 8 rfl (by kernel_rfl) (by rfl) (fun K hK => ?_)
        go_simp
        refine (play_addr ov v6 ob hob _).mono ?_
        rintro e u52 ⟨rfl, bK⟩
        replace SG := SG.later bK (Nat.le_refl _)
        replace P1 := P1.later bK (Nat.le_refl _)
        replace P2 := P2.later bK (Nat.le_refl _)
        replace P3 := P3.later bK (Nat.le_refl _)
        replace hS := hS.trans (bK.mono hS.size)
        clear bK
        refine hK.out _ _ hS ?_
        clear hK K
        try simp only [Act.put, List.setIfInBounds_toArray, List.set_cons_zero, List.set_cons_succ]
        refine rg_step 9 rfl (by kernel_rfl) (by rfl) (fun K hK => ?_)
        refine wp_store_adF (.tmp 6) (.tmp 24) rfl rfl rfl (norm_len v6 hsb) P1 ?_
        intro x9 N9 far keep
        replace SG := SG.same (far _ (by omega))
        replace P2 := P2.same (far _ (by omega))
        replace P3 := P3.same (far _ (by omega))
        replace hS := keep _ _ (by omega) hS
        clear P1 far keep
        have P1 := N9
        clear N9
        refine hK.out _ _ hS ?_
        clear hK K
        simp only [Act.put]
        refine rg_step 10 rfl (by kernel_rfl) (by rfl) (fun K hK => ?_)
        refine wp_store_adF (.tmp 7) (.tmp 27) rfl rfl rfl (norm_len v6 hdb) P2 ?_
        intro x10 N10 far keep
        replace SG := SG.same (far _ (by omega))
        replace P1 := P1.same (far _ (by omega))
        replace P3 := P3.same (far _ (by omega))
        replace hS := keep _ _ (by omega) hS
        clear P2 far keep
        have P2 := N10
        clear N10
        refine hK.out _ _ hS ?_
        clear hK K
        simp only [Act.put]
        refine rg_step 11 rfl (by kernel_rfl) (by rfl) (fun K hK => ?_)
        refine wp_store_adF (.tmp 9) (.tmp 30) rfl rfl rfl (norm_len v6 hob) P3 ?_
        intro x11 N11 far keep
        replace SG := SG.same (far _ (by omega))
        replace P1 := P1.same (far _ (by omega))
        replace P2 := P2.same (far _ (by omega))
        replace hS := keep _ _ (by omega) hS
        clear P3 far keep
        have P3 := N11
        clear N11
        refine hK.out _ _ hS ?_
        clear hK K
        simp only [Act.put]
        refine rg_done (by kernel_rfl) ?_
        go_wp2_with fail
        go_meet
        exact ⟨SG, P1, P2, P3, hS⟩
      exact AllReadyH.nil
    refine rg_or 6 rfl (by rfl) (fun K hK => ?_) ?_
    · refine wp_load_ad (.tmp 9) rfl rfl P3 ?_
      refine hK.out _ _ hS ?_
      clear hK K
      try simp only [Act.put, List.setIfInBounds_toArray, List.set_cons_zero, List.set_cons_succ]
      refine rg_any [0, 3] (by kernel_rfl) (by simp) ?_
      refine rg_or 0 rfl (by rfl) (fun K hK => ?_) ?_
      · refine wp_load_ad (.tmp 6) rfl rfl P1 ?_
        refine hK.out _ _ hS ?_
        clear hK K
        try simp only [Act.put, List.setIfInBounds_toArray, List.set_cons_zero, List.set_cons_succ]
        refine rg_any [2, 3] (by kernel_rfl) (by simp) ?_
        refine rg_or 2 rfl (by rfl) (fun K hK => ?_) ?_
        · go_simp
          refine (play_addr sv v6 sb hsb _).mono ?_
          rintro e u55 ⟨rfl, bK⟩
          replace SG := SG.later bK (Nat.le_refl _)
          replace P1 := P1.later bK (Nat.le_refl _)
          replace P2 := P2.later bK (Nat.le_refl _)
          replace P3 := P3.later bK (Nat.le_refl _)
          replace hS := hS.trans (bK.mono hS.size)
          clear bK
          refine hK.out _ _ hS ?_
          clear hK K
          try simp only [Act.put, List.setIfInBounds_toArray, List.set_cons_zero, List.set_cons_succ]
          refine rg_step 3 rfl (by kernel_rfl) (by rfl) (fun K hK => ?_)
          refine wp_load_ad (.tmp 7) rfl rfl P2 ?_
          refine hK.out _ _ hS ?_
          clear hK K
          try simp only [Act.put, List.setIfInBounds_toArray, List.set_cons_zero, List.set_cons_succ]
          refine rg_step 5 rfl (by kernel_rfl) (by rfl) (fun K hK => ?_)
          go_simp
          refine (play_addr dv v6 db hdb _).mono ?_
          rintro e u57 ⟨rfl, bK⟩
          replace SG := SG.later bK (Nat.le_refl _)
          replace P1 := P1.later bK (Nat.le_refl _)
          replace P2 := P2.later bK (Nat.le_refl _)
          replace P3 := P3.later bK (Nat.le_refl _)
          replace hS := hS.trans (bK.mono hS.size)
          clear bK
          refine hK.out _ _ hS ?_
          clear hK K
          try simp only [Act.put, List.setIfInBounds_toArray, List.set_cons_zero, List.set_cons_succ]
          refine rg_step 8 rfl (by kernel_rfl) (by rfl) (fun K hK => ?_)
          go_simp
          refine (play_addr ov v6 ob hob _).mono ?_
          rintro e u58 ⟨rfl, bK⟩
          replace SG := SG.later bK (Nat.le_refl _)
          replace P1 := P1.later bK (Nat.le_refl _)
          replace P2 := P2.later bK (Nat.le_refl _)
          replace P3 := P3.later bK (Nat.le_refl _)
          replace hS := hS.trans (bK.mono hS.size)
          clear bK
          refine hK.out _ _ hS ?_
          clear hK K
          try simp only [Act.put, List.setIfInBounds_toArray, List.set_cons_zero, List.set_cons_succ]
          refine rg_step 9 rfl (by kernel_rfl) (by rfl) (fun K hK => ?_)
          refine wp_store_adF (.tmp 6) (.tmp 24) rfl rfl rfl (norm_len v6 hsb) P1 ?_
          intro x9 N9 far keep
          replace SG := SG.same (far _ (by omega))
          replace P2 := P2.same (far _ (by omega))
          replace P3 := P3.same (far _ (by omega))
          replace hS := keep _ _ (by omega) hS
          clear P1 far keep
          have P1 := N9
          clear N9
          refine hK.out _ _ hS ?_
          clear hK K
          simp only [Act.put]
          refine rg_step 10 rfl (by kernel_rfl) (by rfl) (fun K hK => ?_)
          refine wp_store_adF (.tmp 7) (.tmp 27) rfl rfl rfl (norm_len v6 hdb) P2 ?_
          intro x10 N10 far keep
          replace SG := SG.same (far _ (by omega))
          replace P1 := P1.same (far _ (by omega))
          replace P3 := P3.same (far _ (by omega))
          replace hS := keep _ _ (by omega) hS
          clear P2 far keep
          have P2 := N10
          clear N10
          refine hK.out _ _ hS ?_
          clear hK K
          simp only [Act.put]
          refine rg_step 11 rfl (by kernel_rfl) (by rfl) (fun K hK => ?_)
          refine wp_store_adF (.tmp 9) (.tmp 30) rfl rfl rfl (norm_len v6 hob) P3 ?_
          intro x11 N11 far keep
          replace SG := SG.same (far _ (by omega))
          replace P1 := P1.same (far _ (by omega))
          replace P2 := P2.same (far _ (by omega))
          replace hS := keep _ _ (by omega) hS
          clear P3 far keep
          have P3 := N11
          clear N11
          refine hK.out _ _ hS ?_
          clear hK K
          simp only [Act.put]
          refine rg_done (by kernel_rfl) ?_
          go_wp2_with fail
          go_meet
          exact ⟨SG, P1, P2, P3, hS⟩
        refine rg_or 3 rfl (by rfl) (fun K hK => ?_) ?_
        · refine wp_load_ad (.tmp 7) rfl rfl P2 ?_
          refine hK.out _ _ hS ?_
          clear hK K
          try simp only [Act.put, List.setIfInBounds_toArray, List.set_cons_zero, List.set_cons_succ]
          refine rg_step 2 rfl (by kernel_rfl) (by rfl) (fun K hK => ?_)
          go_simp
          refine (play_addr sv v6 sb hsb _).mono ?_
          rintro e u60 ⟨rfl, bK⟩
          replace SG := SG.later bK (Nat.le_refl _)
          replace P1 := P1.later bK (Nat.le_refl _)
          replace P2 := P2.later bK (Nat.le_refl _)
          replace P3 := P3.later bK (Nat.le_refl _)
          replace hS := hS.trans (bK.mono hS.size)
          clear bK
          refine hK.out _ _ hS ?_
          clear hK K
          try simp only [Act.put, List.setIfInBounds_toArray, List.set_cons_zero, List.set_cons_succ]
          refine rg_step 5 rfl (by kernel_rfl) (by rfl) (fun K hK => ?_)
          go_simp
          refine (play_addr dv v6 db hdb _).mono ?_
          rintro e u61 ⟨rfl, bK⟩
          replace SG := SG.later bK (Nat.le_refl _)
          replace P1 := P1.later bK (Nat.le_refl _)
          replace P2 := P2.later bK (Nat.le_refl _)
          replace P3 := P3.later bK (Nat.le_refl _)
          replace hS := hS.trans (bK.mono hS.size)
          clear bK
          refine hK.out _ _ hS ?_
          clear hK K
          try simp only [Act.put, List.setIfInBounds_toArray, List.set_cons_zero, List.set_cons_succ]
          refine rg_step 8 rfl (by kernel_rfl) (by rfl) (fun K hK => ?_)
          go_simp
          refine (play_addr ov v6 ob hob _).mono ?_
          rintro e u62 ⟨rfl, bK⟩
          replace SG := SG.later bK (Nat.le_refl _)
          replace P1 := P1.later bK (Nat.le_refl _)
          replace P2 := P2.later bK (Nat.le_refl _)
          replace P3 := P3.later bK (Nat.le_refl _)
          replace hS := hS.trans (bK.mono hS.size)
          clear bK
          refine hK.out _ _ hS ?_
          clear hK K
          try simp only [Act.put, List.setIfInBounds_toArray, List.set_cons_zero, List.set_cons_succ]
          refine rg_step 9 rfl (by kernel_rfl) (by rfl) (fun K hK => ?_)
          refine wp_store_adF (.tmp 6) (.tmp 24) rfl rfl rfl (norm_len v6 hsb) P1 ?_
          intro x9 N9 far keep
          replace SG := SG.same (far _ (by omega))
          replace P2 := P2.same (far _ (by omega))
          replace P3 := P3.same (far _ (by omega))
          replace hS := keep _ _ (by omega) hS
          clear P1 far keep
          have P1 := N9
          clear N9
          refine hK.out _ _ hS ?_
          clear hK K
          simp only [Act.put]
          refine rg_step 10 rfl (by kernel_rfl) (by rfl) (fun K hK => ?_)
          refine wp_store_adF (.tmp 7) (.tmp 27) rfl rfl rfl (norm_len v6 hdb) P2 ?_
          intro x10 N10 far keep
          replace SG := SG.same (far _ (by omega))
          replace P1 := P1.same (far _ (by omega))
          replace P3 := P3.same (far _ (by omega))
          replace hS := keep _ _ (by omega) hS
          clear P2 far keep
          have P2 := N10
          clear N10
          refine hK.out _ _ hS ?_
          clear hK K
          simp only [Act.put]
          refine rg_step 11 rfl (by kernel_rfl) (by rfl) (fun K hK => ?_)
          refine wp_store_adF (.tmp 9) (.tmp 30) rfl rfl rfl (norm_len v6 hob) P3 ?_
          intro x11 N11 far keep
          replace SG := SG.same (far _ (by omega))
          replace P1 := P1.same (far _ (by omega))
          replace P2 := P2.same (far _ (by omega))
          replace hS := keep _ _ (by omega) hS
          clear P3 far keep
          have P3 := N11
          clear N11
          refine hK.out _ _ hS ?_
          clear hK K
          simp only [Act.put]
          refine rg_done (by kernel_rfl) ?_
          go_wp2_with fail
          go_meet
          exact ⟨SG, P1, P2, P3, hS⟩
        exact AllReadyH.nil
      refine rg_or 3 rfl (by rfl) (fun K hK => ?_) ?_
      · refine wp_load_ad (.tmp 7) rfl rfl P2 ?_
        refine hK.out _ _ hS ?_
        clear hK K
        try simp only [Act.put, List.setIfInBounds_toArray, List.set_cons_zero, List.set_cons_succ]
        refine rg_step 0 rfl (by kernel_rfl) (by rfl) (fun K hK => ?_)
        refine wp_load_ad (.tmp 6) rfl rfl P1 ?_
        refine hK.out _ _ hS ?_
        clear hK K
        try simp only [Act.put, List.setIfInBounds_toArray, List.set_cons_zero, List.set_cons_succ]
        refine rg_step 2 rfl (by kernel_rfl) (by rfl) (fun K hK => ?_)
        go_simp
        refine (play_addr sv v6 sb hsb _).mono ?_
        rintro e u65 ⟨rfl, bK⟩
        replace SG := SG.later bK (Nat.le_refl _)
        replace P1 := P1.later bK (Nat.le_refl _)
        replace P2 := P2.later bK (Nat.le_refl _)
        replace P3 := P3.later bK (Nat.le_refl _)
        replace hS := hS.trans (bK.mono hS.size)
        clear bK
        refine hK.out _ _ hS ?_
        clear hK K
        try simp only [Act.put, List.setIfInBounds_toArray, List.set_cons_zero, List.set_cons_succ]
        refine rg_step 5 rfl (by kernel_rfl) (by rfl) (fun K hK => ?_)
        go_simp
        refine (play_addr dv v6 db hdb _).mono ?_
        rintro e u66 ⟨rfl, bK⟩
        replace SG := SG.later bK (Nat.le_refl _)
        replace P1 := P1.later bK (Nat.le_refl _)
        replace P2 := P2.later bK (Nat.le_refl _)
        replace P3 := P3.later bK (Nat.le_refl _)
        replace hS := hS.trans (bK.mono hS.size)
        clear bK
        refine hK.out _ _ hS ?_
        clear hK K
        try simp only [Act.put, List.setIfInBounds_toArray, List.set_cons_zero, List.set_cons_succ]
        refine rg_step 8 rfl (by kernel_rfl) (by rfl) (fun K hK => ?_)
        go_simp
        refine (play_addr ov v6 ob hob _).mono ?_
        rintro e u67 ⟨rfl, bK⟩
        replace SG := SG.later bK (Nat.le_refl _)
        replace P1 := P1.later bK (Nat.le_refl _)
        replace P2 := P2.later bK (Nat.le_refl _)
        replace P3 := P3.later bK (Nat.le_refl _)
        replace hS := hS.trans (bK.mono hS.size)
        clear bK
        refine hK.out _ _ hS ?_
        clear hK K
        try simp only [Act.put, List.setIfInBounds_toArray, List.set_cons_zero, List.set_cons_succ]
        refine rg_step 9 rfl (by kernel_rfl) (by rfl) (fun K hK => ?_)
        refine wp_store_adF (.tmp 6) (.tmp 24) rfl rfl rfl (norm_len v6 hsb) P1 ?_
        intro x9 N9 far keep
        replace SG := SG.same (far _ (by omega))
        replace P2 := P2.same (far _ (by omega))
        replace P3 := P3.same (far _ (by omega))
        replace hS := keep _ _ (by omega) hS
        clear P1 far keep
        have P1 := N9
        clear N9
        refine hK.out _ _ hS ?_
        clear hK K
        simp only [Act.put]
        refine rg_step 10 rfl (by kernel_rfl) (by rfl) (fun K hK => ?_)
        refine wp_store_adF (.tmp 7) (.tmp 27) rfl rfl rfl (norm_len v6 hdb) P2 ?_
        intro x10 N10 far keep
        replace SG := SG.same (far _ (by omega))
        replace P1 := P1.same (far _ (by omega))
        replace P3 := P3.same (far _ (by omega))
        replace hS := keep _ _ (by omega) hS
        clear P2 far keep
        have P2 := N10
        clear N10
        refine hK.out _ _ hS ?_
        clear hK K
        simp only [Act.put]
        refine rg_step 11 rfl (by kernel_rfl) (by rfl) (fun K hK => ?_)
        refine wp_store_adF (.tmp 9) (.tmp 30) rfl rfl rfl (norm_len v6 hob) P3 ?_
        intro x11 N11 far keep
        replace SG := SG.same (far _ (by omega))
        replace P1 := P1.same (far _ (by omega))
        replace P2 := P2.same (far _ (by omega))
        replace hS := keep _ _ (by omega) hS
        clear P3 far keep
        have P3 := N11
        clear N11
        refine hK.out _ _ hS ?_
        clear hK K
        simp only [Act.put]
        refine rg_done (by kernel_rfl) ?_
        go_wp2_with fail
        go_meet
        exact ⟨SG, P1, P2, P3, hS⟩
      exact AllReadyH.nil
    exact AllReadyH.nil
  case rest =>
  obtain ⟨x1, x2, x3, x4, hB⟩ := hcut
  obtain ⟨W5, rfl⟩ : ∃ W5, W5 = wc := ⟨_, rfl⟩
  have d0 := x1.cell 0
  have d1 := x1.cell 1
  have d4 := x1.cell 4
  dsimp only [sgv] at d0 d1 d4
  simp only [List.getElem?_toArray, List.getElem?_cons_zero, List.getElem?_cons_succ] at d0 d1 d4
  have f0 := x1.frozen 0
  have f1 := x1.frozen 1
  have f4 := x1.frozen 4
  have H3 := Lib.hid (And.intro x1 (And.intro x2 (And.intro x3 (And.intro x4 hB))))
  clear x1 x2 x3 x4 hB
  go_upto_region 5 with fail
  generalize wrap64 ((IntKind.u64.wrap sp).tmod 65536) = sp1 at p1 p2 ⊢
  generalize wrap64 ((IntKind.u64.wrap dp).tmod 65536) = dp1 at p3 p4 ⊢
  generalize wrap64 ((IntKind.u64.wrap fl).tmod 64) = fl1 at p5 p6 ⊢
  have x1 := ((H3.out.1.putSp sp1).putDp dp1).putFl fl1
  have x2 := ((H3.out.2.1.far (p := ⟨w.heap.size, 0, none⟩) (by simp) (.int .i64 sp1)).far (p := ⟨w.heap.size, 1, none⟩) (by simp) (.int .i64 dp1)).far (p := ⟨w.heap.size, 4, none⟩) (by simp) (.int .i64 fl1)
  have x3 := ((H3.out.2.2.1.far (p := ⟨w.heap.size, 0, none⟩) (by simp; omega) (.int .i64 sp1)).far (p := ⟨w.heap.size, 1, none⟩) (by simp; omega) (.int .i64 dp1)).far (p := ⟨w.heap.size, 4, none⟩) (by simp; omega) (.int .i64 fl1)
  have x4 := ((H3.out.2.2.2.1.far (p := ⟨w.heap.size, 0, none⟩) (by simp; omega) (.int .i64 sp1)).far (p := ⟨w.heap.size, 1, none⟩) (by simp; omega) (.int .i64 dp1)).far (p := ⟨w.heap.size, 4, none⟩) (by simp; omega) (.int .i64 fl1)
  have hB := ((H3.out.2.2.2.2.setCell (p := ⟨w.heap.size, 0, none⟩) (Nat.le_refl _) (.int .i64 sp1)).setCell (p := ⟨w.heap.size, 1, none⟩) (Nat.le_refl _) (.int .i64 dp1)).setCell (p := ⟨w.heap.size, 4, none⟩) (Nat.le_refl _) (.int .i64 fl1)
  generalize ((W5.setCell ⟨w.heap.size, 0, none⟩ (.int .i64 sp1)).setCell ⟨w.heap.size, 1, none⟩ (.int .i64 dp1)).setCell ⟨w.heap.size, 4, none⟩ (.int .i64 fl1) = W6 at x1 x2 x3 x4 hB ⊢
  have H4 := Lib.hid (And.intro x1 (And.intro x2 (And.intro x3 (And.intro x4 hB))))
  clear x1 x2 x3 x4 hB d0 d1 d4 f0 f1 f4
  have hmt : mayT ⟨sp1, dp1, seq, ack, fl1, pay⟩ := ⟨⟨p1, by dsimp only; omega⟩, ⟨p3, by dsimp only; omega⟩, ⟨p5, by dsimp only; omega⟩, by dsimp only; omega⟩
  have k3 := fun w1 (b : Below w.heap.size w w1) => build_ok (s := ⟨sp1, dp1, seq, ack, fl1, pay⟩) hmt (HB.out.1.later b (Nat.le_refl _)) hq hk v6 v6 (norm_len v6 hsb) (norm_len v6 hdb)
  have k5 := fun (w1 : World) (A1 : Option Addr) (c1 : Nat) (b : Bs w1 A1 (20 + m) c1 (tcpB (aheadL v6 (norm v6 sb) (norm v6 db) 6 (20 + m)) ⟨sp1, dp1, seq, ack, fl1, pay⟩)) => parse_built (dv := v6) (norm_len v6 hsb) (norm_len v6 hdb) hmt hq hk (show 20 + m = 20 + (⟨sp1, dp1, seq, ack, fl1, pay⟩ : Sg).pay.length by dsimp only; omega) rfl b
  have k6 := fun (w1 : World) (A1 : Option Addr) (c1 : Nat) (b : Bs w1 A1 (20 + m) c1 (tcpB (aheadL v6 (norm v6 sb) (norm v6 db) 6 (20 + m)) ⟨sp1, dp1, seq, ack, fl1, pay⟩)) => parse_else (sv := v6) (dv := v6) (norm_len v6 hob) (norm_len v6 hdb) hmt hq hk _ (show 20 + m = 20 + (⟨sp1, dp1, seq, ack, fl1, pay⟩ : Sg).pay.length by dsimp only; omega) b
  generalize cks (aheadL v6 (norm v6 ob) (norm v6 db) 6 (20 + m) ++ tcpB (aheadL v6 (norm v6 sb) (norm v6 db) 6 (20 + m)) ⟨sp1, dp1, seq, ack, fl1, pay⟩) = oo at k6
  generalize tcpB (aheadL v6 (norm v6 sb) (norm v6 db) 6 (20 + m)) ⟨sp1, dp1, seq, ack, fl1, pay⟩ = tb at k3 k5 k6
  unfold ParT at k5 k6
  have K3 := Lib.hid k3
  have K5 := Lib.hid k5
  clear k3 k5 hmt p1 p2 p3 p4 p5 p6 hq hk
  go_wp2_with (first
    | (refine wpList_load_sg rfl (.tmp 5) rfl rfl H4.out.1 ?_)
    | (refine wpList_load_ad rfl (.tmp 6) rfl rfl H4.out.2.1 ?_)
    | (refine wpList_load_ad rfl (.tmp 7) rfl rfl H4.out.2.2.1 ?_))
  refine (K3.out _ H4.out.2.2.2.2).mono ?_
  rintro e w7 ⟨A7, c7, rfl, q7, b7⟩
  have H7 := Lib.hid (And.intro (H4.out.1.later b7 (Nat.le_refl _)) (And.intro (H4.out.2.1.later b7 (Nat.le_refl _)) (And.intro (H4.out.2.2.1.later b7 (Nat.le_refl _)) (And.intro (H4.out.2.2.2.1.later b7 (Nat.le_refl _)) (And.intro (q7) (H4.out.2.2.2.2.trans (b7.mono H4.out.2.2.2.2.size)))))))
  clear q7 b7
  go_wp2_with (first
    | (refine wpList_load_ad rfl (.tmp 6) rfl rfl H7.out.2.1 ?_)
    | (refine wpList_load_ad rfl (.tmp 7) rfl rfl H7.out.2.2.1 ?_))
  refine (K5.out _ _ _ H7.out.2.2.2.2.1).mono ?_
  rintro e w8 ⟨A8, n8, c8, v8, rfl, q8, t8, b8⟩
  obtain rfl := Tells.none' t8 rfl
  have H8 := Lib.hid (And.intro (H7.out.1.later b8 (Nat.le_refl _)) (And.intro (H7.out.2.1.later b8 (Nat.le_refl _)) (And.intro (H7.out.2.2.1.later b8 (Nat.le_refl _)) (And.intro (H7.out.2.2.2.1.later b8 (Nat.le_refl _)) (And.intro (H7.out.2.2.2.2.1.later b8 (Nat.le_refl _)) (And.intro (q8) (H7.out.2.2.2.2.2.trans (b8.mono H7.out.2.2.2.2.2.size))))))))
  clear q8 b8 t8
  go_wp2_with (first
    | (refine wpList_alloc_sg rfl rfl ?_; intro w9 a9 b9 z9; have H9 := Lib.hid (And.intro a9 b9); clear a9 b9 z9)
    | (refine wpList_store_sg rfl (.tmp 13) (.tmp 61) rfl ⟨sp1, dp1, seq, ack, fl1, pay⟩ A8 n8 c8 rfl rfl H9.out.1 ?_; intro w10 a10 o10 z10 b10; have bb := b10 _ _ (Nat.le_refl _) H9.out.2; have H10 := Lib.hid (And.intro (H8.out.1.later bb (Nat.le_refl _)) (And.intro (H8.out.2.1.later bb (Nat.le_refl _)) (And.intro (H8.out.2.2.1.later bb (Nat.le_refl _)) (And.intro (H8.out.2.2.2.1.later bb (Nat.le_refl _)) (And.intro (H8.out.2.2.2.2.1.later bb (Nat.le_refl _)) (And.intro (H8.out.2.2.2.2.2.1.later bb (Nat.le_refl _)) (And.intro (a10) (H8.out.2.2.2.2.2.2.trans (bb.mono H8.out.2.2.2.2.2.2.size))))))))); clear a10 o10 z10 b10 bb)
    | (refine wpList_load_ad rfl (.tmp 9) rfl rfl H10.out.2.2.2.1 ?_)
    | (refine wpList_load_ad rfl (.tmp 7) rfl rfl H10.out.2.2.1 ?_))
  have k7 := k6 _ _ _ H10.out.2.2.2.2.1
  clear k6
  by_cases ho : oo ≠ 0
  · rw [if_pos ho] at k7
    refine k7.mono ?_
    rintro e w11 ⟨A11, n11, c11, v11, rfl, q11, t11, b11⟩
    obtain ⟨T11, x11, rfl⟩ := Tells.held' t11 (by simp)
    have H11 := Lib.hid (And.intro (H10.out.1.later b11 (Nat.le_refl _)) (And.intro (H10.out.2.1.later b11 (Nat.le_refl _)) (And.intro (H10.out.2.2.1.later b11 (Nat.le_refl _)) (And.intro (H10.out.2.2.2.1.later b11 (Nat.le_refl _)) (And.intro (H10.out.2.2.2.2.1.later b11 (Nat.le_refl _)) (And.intro (H10.out.2.2.2.2.2.1.later b11 (Nat.le_refl _)) (And.intro (H10.out.2.2.2.2.2.2.1.later b11 (Nat.le_refl _)) (And.intro (t11) (H10.out.2.2.2.2.2.2.2.trans (b11.mono H10.out.2.2.2.2.2.2.2.size))))))))))
    clear k7 q11 b11 t11
    go_wp2_with (first
      | (refine wpList_alloc_sg rfl rfl ?_; intro w12 a12 b12 z12; have H12 := Lib.hid (And.intro a12 b12); clear a12 b12 z12)
      | (refine wpList_store_sg rfl (.tmp 15) (.tmp 68) rfl .zero A11 n11 c11 rfl rfl H12.out.1 ?_; intro w13 a13 o13 z13 b13; have bb := b13 _ _ (Nat.le_refl _) H12.out.2; have H13 := Lib.hid (And.intro (H11.out.1.later bb (Nat.le_refl _)) (And.intro (H11.out.2.1.later bb (Nat.le_refl _)) (And.intro (H11.out.2.2.1.later bb (Nat.le_refl _)) (And.intro (H11.out.2.2.2.1.later bb (Nat.le_refl _)) (And.intro (H11.out.2.2.2.2.1.later bb (Nat.le_refl _)) (And.intro (H11.out.2.2.2.2.2.1.later bb (Nat.le_refl _)) (And.intro (H11.out.2.2.2.2.2.2.1.later bb (Nat.le_refl _)) (And.intro (H11.out.2.2.2.2.2.2.2.1.later bb (Nat.le_refl _)) (And.intro (a13) (H11.out.2.2.2.2.2.2.2.2.trans (bb.mono H11.out.2.2.2.2.2.2.2.2.size))))))))))); clear a13 o13 z13 b13 bb))
    refine (awake08 _).mono ?_
    rintro e w14 ⟨rfl, b14⟩
    have H14 := Lib.hid (And.intro (H13.out.1.later b14 (Nat.le_refl _)) (And.intro (H13.out.2.1.later b14 (Nat.le_refl _)) (And.intro (H13.out.2.2.1.later b14 (Nat.le_refl _)) (And.intro (H13.out.2.2.2.1.later b14 (Nat.le_refl _)) (And.intro (H13.out.2.2.2.2.1.later b14 (Nat.le_refl _)) (And.intro (H13.out.2.2.2.2.2.1.later b14 (Nat.le_refl _)) (And.intro (H13.out.2.2.2.2.2.2.1.later b14 (Nat.le_refl _)) (And.intro (H13.out.2.2.2.2.2.2.2.1.later b14 (Nat.le_refl _)) (And.intro (H13.out.2.2.2.2.2.2.2.2.1.later b14 (Nat.le_refl _)) (H13.out.2.2.2.2.2.2.2.2.2.trans (b14.mono H13.out.2.2.2.2.2.2.2.2.2.size)))))))))))
    clear b14
    go_wp2_with (first
      | (refine wpList_load_sg_w (by rfl) (.tmp 13) rfl rfl H14.out.2.2.2.2.2.2.1 ?_)
      | (refine wpList_load_sg_w (by rfl) (.tmp 5) rfl rfl H14.out.1 ?_))
    refine (segment_same (s := ⟨sp1, dp1, seq, ack, fl1, pay⟩) H14.out.2.2.2.2.2.1 (HB.out.1.later H14.out.2.2.2.2.2.2.2.2.2 (Nat.le_refl _))).mono ?_
    rintro e w15 ⟨rfl, b15⟩
    have H15 := Lib.hid (And.intro (H14.out.1.later b15 (Nat.le_refl _)) (And.intro (H14.out.2.1.later b15 (Nat.le_refl _)) (And.intro (H14.out.2.2.1.later b15 (Nat.le_refl _)) (And.intro (H14.out.2.2.2.1.later b15 (Nat.le_refl _)) (And.intro (H14.out.2.2.2.2.1.later b15 (Nat.le_refl _)) (And.intro (H14.out.2.2.2.2.2.1.later b15 (Nat.le_refl _)) (And.intro (H14.out.2.2.2.2.2.2.1.later b15 (Nat.le_refl _)) (And.intro (H14.out.2.2.2.2.2.2.2.1.later b15 (Nat.le_refl _)) (And.intro (H14.out.2.2.2.2.2.2.2.2.1.later b15 (Nat.le_refl _)) (H14.out.2.2.2.2.2.2.2.2.2.trans (b15.mono H14.out.2.2.2.2.2.2.2.2.2.size)))))))))))
    clear b15
    go_wp2_with fail
    refine (help_at 8 16 _).mono ?_
    rintro e w16 ⟨rfl, b16⟩
    have H16 := Lib.hid (And.intro (H15.out.1.later b16 (Nat.le_refl _)) (And.intro (H15.out.2.1.later b16 (Nat.le_refl _)) (And.intro (H15.out.2.2.1.later b16 (Nat.le_refl _)) (And.intro (H15.out.2.2.2.1.later b16 (Nat.le_refl _)) (And.intro (H15.out.2.2.2.2.1.later b16 (Nat.le_refl _)) (And.intro (H15.out.2.2.2.2.2.1.later b16 (Nat.le_refl _)) (And.intro (H15.out.2.2.2.2.2.2.1.later b16 (Nat.le_refl _)) (And.intro (H15.out.2.2.2.2.2.2.2.1.later b16 (Nat.le_refl _)) (And.intro (H15.out.2.2.2.2.2.2.2.2.1.later b16 (Nat.le_refl _)) (H15.out.2.2.2.2.2.2.2.2.2.trans (b16.mono H15.out.2.2.2.2.2.2.2.2.2.size)))))))))))
    clear b16
    go_wp2_with fail
    refine (is_told3 H16.out.2.2.2.2.2.2.2.1 (Handle.later H16.out.2.2.2.2.2.2.2.2.2 (Nat.le_refl _) HB.out.2)).mono ?_
    rintro e w17 ⟨rfl, b17⟩
    have H17 := Lib.hid (And.intro (H16.out.1.later b17 (Nat.le_refl _)) (And.intro (H16.out.2.1.later b17 (Nat.le_refl _)) (And.intro (H16.out.2.2.1.later b17 (Nat.le_refl _)) (And.intro (H16.out.2.2.2.1.later b17 (Nat.le_refl _)) (And.intro (H16.out.2.2.2.2.1.later b17 (Nat.le_refl _)) (And.intro (H16.out.2.2.2.2.2.1.later b17 (Nat.le_refl _)) (And.intro (H16.out.2.2.2.2.2.2.1.later b17 (Nat.le_refl _)) (And.intro (H16.out.2.2.2.2.2.2.2.1.later b17 (Nat.le_refl _)) (And.intro (H16.out.2.2.2.2.2.2.2.2.1.later b17 (Nat.le_refl _)) (H16.out.2.2.2.2.2.2.2.2.2.trans (b17.mono H16.out.2.2.2.2.2.2.2.2.2.size)))))))))))
    clear b17
    go_wp2_with fail
    go_ret
    exact ⟨rfl, H17.out.2.2.2.2.2.2.2.2.2⟩
  · rw [if_neg ho] at k7
    refine k7.mono ?_
    rintro e w11 ⟨A11, n11, c11, v11, rfl, q11, t11, b11⟩
    obtain rfl := Tells.none' t11 rfl
    have H11 := Lib.hid (And.intro (H10.out.1.later b11 (Nat.le_refl _)) (And.intro (H10.out.2.1.later b11 (Nat.le_refl _)) (And.intro (H10.out.2.2.1.later b11 (Nat.le_refl _)) (And.intro (H10.out.2.2.2.1.later b11 (Nat.le_refl _)) (And.intro (H10.out.2.2.2.2.1.later b11 (Nat.le_refl _)) (And.intro (H10.out.2.2.2.2.2.1.later b11 (Nat.le_refl _)) (And.intro (H10.out.2.2.2.2.2.2.1.later b11 (Nat.le_refl _)) (And.intro (q11) (H10.out.2.2.2.2.2.2.2.trans (b11.mono H10.out.2.2.2.2.2.2.2.size))))))))))
    clear k7 q11 b11 t11
    go_wp2_with (first
      | (refine wpList_alloc_sg rfl rfl ?_; intro w12 a12 b12 z12; have H12 := Lib.hid (And.intro a12 b12); clear a12 b12 z12)
      | (refine wpList_store_sg rfl (.tmp 15) (.tmp 68) rfl ⟨sp1, dp1, seq, ack, fl1, pay⟩ A11 n11 c11 rfl rfl H12.out.1 ?_; intro w13 a13 o13 z13 b13; have bb := b13 _ _ (Nat.le_refl _) H12.out.2; have H13 := Lib.hid (And.intro (H11.out.1.later bb (Nat.le_refl _)) (And.intro (H11.out.2.1.later bb (Nat.le_refl _)) (And.intro (H11.out.2.2.1.later bb (Nat.le_refl _)) (And.intro (H11.out.2.2.2.1.later bb (Nat.le_refl _)) (And.intro (H11.out.2.2.2.2.1.later bb (Nat.le_refl _)) (And.intro (H11.out.2.2.2.2.2.1.later bb (Nat.le_refl _)) (And.intro (H11.out.2.2.2.2.2.2.1.later bb (Nat.le_refl _)) (And.intro (H11.out.2.2.2.2.2.2.2.1.later bb (Nat.le_refl _)) (And.intro (a13) (H11.out.2.2.2.2.2.2.2.2.trans (bb.mono H11.out.2.2.2.2.2.2.2.2.size))))))))))); clear a13 o13 z13 b13 bb))
    refine (awake08 _).mono ?_
    rintro e w14 ⟨rfl, b14⟩
    have H14 := Lib.hid (And.intro (H13.out.1.later b14 (Nat.le_refl _)) (And.intro (H13.out.2.1.later b14 (Nat.le_refl _)) (And.intro (H13.out.2.2.1.later b14 (Nat.le_refl _)) (And.intro (H13.out.2.2.2.1.later b14 (Nat.le_refl _)) (And.intro (H13.out.2.2.2.2.1.later b14 (Nat.le_refl _)) (And.intro (H13.out.2.2.2.2.2.1.later b14 (Nat.le_refl _)) (And.intro (H13.out.2.2.2.2.2.2.1.later b14 (Nat.le_refl _)) (And.intro (H13.out.2.2.2.2.2.2.2.1.later b14 (Nat.le_refl _)) (And.intro (H13.out.2.2.2.2.2.2.2.2.1.later b14 (Nat.le_refl _)) (H13.out.2.2.2.2.2.2.2.2.2.trans (b14.mono H13.out.2.2.2.2.2.2.2.2.2.size)))))))))))
    clear b14
    go_wp2_with (first
      | (refine wpList_load_sg_w (by rfl) (.tmp 13) rfl rfl H14.out.2.2.2.2.2.2.1 ?_)
      | (refine wpList_load_sg_w (by rfl) (.tmp 5) rfl rfl H14.out.1 ?_))
    refine (segment_same (s := ⟨sp1, dp1, seq, ack, fl1, pay⟩) H14.out.2.2.2.2.2.1 (HB.out.1.later H14.out.2.2.2.2.2.2.2.2.2 (Nat.le_refl _))).mono ?_
    rintro e w15 ⟨rfl, b15⟩
    have H15 := Lib.hid (And.intro (H14.out.1.later b15 (Nat.le_refl _)) (And.intro (H14.out.2.1.later b15 (Nat.le_refl _)) (And.intro (H14.out.2.2.1.later b15 (Nat.le_refl _)) (And.intro (H14.out.2.2.2.1.later b15 (Nat.le_refl _)) (And.intro (H14.out.2.2.2.2.1.later b15 (Nat.le_refl _)) (And.intro (H14.out.2.2.2.2.2.1.later b15 (Nat.le_refl _)) (And.intro (H14.out.2.2.2.2.2.2.1.later b15 (Nat.le_refl _)) (And.intro (H14.out.2.2.2.2.2.2.2.1.later b15 (Nat.le_refl _)) (And.intro (H14.out.2.2.2.2.2.2.2.2.1.later b15 (Nat.le_refl _)) (H14.out.2.2.2.2.2.2.2.2.2.trans (b15.mono H14.out.2.2.2.2.2.2.2.2.2.size)))))))))))
    clear b15
    go_wp2_with (first
      | (refine wpList_load_sg_w (by rfl) (.tmp 15) rfl rfl H15.out.2.2.2.2.2.2.2.2.1 ?_)
      | (refine wpList_load_sg_w (by rfl) (.tmp 5) rfl rfl H15.out.1 ?_))
    refine (segment_same (s := ⟨sp1, dp1, seq, ack, fl1, pay⟩) H15.out.2.2.2.2.2.2.2.1 (HB.out.1.later H15.out.2.2.2.2.2.2.2.2.2 (Nat.le_refl _))).mono ?_
    rintro e w16 ⟨rfl, b16⟩
    have H16 := Lib.hid (And.intro (H15.out.1.later b16 (Nat.le_refl _)) (And.intro (H15.out.2.1.later b16 (Nat.le_refl _)) (And.intro (H15.out.2.2.1.later b16 (Nat.le_refl _)) (And.intro (H15.out.2.2.2.1.later b16 (Nat.le_refl _)) (And.intro (H15.out.2.2.2.2.1.later b16 (Nat.le_refl _)) (And.intro (H15.out.2.2.2.2.2.1.later b16 (Nat.le_refl _)) (And.intro (H15.out.2.2.2.2.2.2.1.later b16 (Nat.le_refl _)) (And.intro (H15.out.2.2.2.2.2.2.2.1.later b16 (Nat.le_refl _)) (And.intro (H15.out.2.2.2.2.2.2.2.2.1.later b16 (Nat.le_refl _)) (H15.out.2.2.2.2.2.2.2.2.2.trans (b16.mono H15.out.2.2.2.2.2.2.2.2.2.size)))))))))))
    clear b16
    go_wp2_with fail
    go_ret
    exact ⟨rfl, H16.out.2.2.2.2.2.2.2.2.2⟩
end Go.Proofs.YtioonjgamdompaaDoor
