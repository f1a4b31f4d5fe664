/-
  stockadelaw09.UdpTells answers true, whatever is handed in. Conditions: those of the slices; errors.errorType holds the handle of the type error.
-/
import Derived.Test.YtkeggeiliachgaaDoorZ28
import Derived.Test.YtkeggeiliachgaaDoorZ30
import Derived.Test.YtkeggeiliachgaaDoorZ07
import Derived.Deep.DeepCutAuto
namespace Go.Proofs.YtkeggeiliachgaaDoor
open Go.RowKit
set_option maxRecDepth 100000

theorem hat {r : Dg × Fl} : r = (r.1, ⟨r.2.code, r.2.at_, r.2.placed⟩) := rfl
set_option maxHeartbeats 16000000 in
theorem udpTells {A B : Option Addr} {n c m d : Nat} {l : List UInt8} {s : Dg} {w : World} (hb : Bs w A n c l) (sv dv : Bool) {sb db : List UInt8} (hsb : sb.length = 16) (hdb : db.length = 16) (hp : Bs w B m d s.pay) (hg : Handle w) :
    Calls Tryd.prog 3 #[.slice A n c, .agg (adv sv sb), .agg (adv dv db), .agg (dgv s B m d)] w fun e w' => e = .returned (.bool true) ∧ Below w.heap.size w w' := by
  have hm := Nat.le_trans hb.cap hb.max
  have hm2 := Nat.le_trans hp.cap hp.max
  unfold maxLen at hm hm2
  have HB := Lib.hid (And.intro hb (And.intro hp hg))
  clear hb hp hg
  have a1 := AdBox.new w sv hsb
  have b0 : Below w.heap.size w (w.alloc (.cells (adv sv sb) 25)) := (Below.refl _ _).alloc (Nat.le_refl _) _
  have a2 := AdBox.new (w.alloc (.cells (adv sv sb) 25)) dv hdb
  have b1 := Below.alloc (Below.refl (w.alloc (.cells (adv sv sb) 25)).heap.size _) (Nat.le_refl _) (.cells (adv dv db) 25)
  have s0 := DgBox.new ((w.alloc (.cells (adv sv sb) 25)).alloc (.cells (adv dv db) 25)) s B m d
  have b2 := Below.alloc (Below.refl ((w.alloc (.cells (adv sv sb) 25)).alloc (.cells (adv dv db) 25)).heap.size _) (Nat.le_refl _) (.cells (dgv s B m d) 27)
  have hA := And.intro ((a1.later b1 (Nat.le_refl _)).later b2 (Nat.le_refl _)) (And.intro (a2.later b2 (Nat.le_refl _)) (And.intro s0 (b0.trans ((b1.mono b0.size).trans (b2.mono (Nat.le_trans b0.size b1.size))))))
  simp only [World.size_alloc] at hA
  obtain ⟨W, hW⟩ : ∃ W, ((w.alloc (.cells (adv sv sb) 25)).alloc (.cells (adv dv db) 25)).alloc (.cells (dgv s B m d) 27) = W := ⟨_, rfl⟩
  rw [hW] at hA
  have HA := Lib.hid hA
  clear b0 s0 a1 b1 a2 b2 hA
  have K1 : Hid (∀ w1, Below w.heap.size w w1 → n ≤ 2000 → Calls Tryd.prog 7 #[.slice A n c, .agg (adv sv sb), .agg (adv dv db)] w1 (ParU (udpv sv (udpO (aheadL sv sb db 17) l) l n) w1)) := fun w1 b h => parse_udp (HB.out.1.later b (Nat.le_refl _)) (by omega) sv dv hsb hdb
  have K2 : Hid (∀ w1, Below w.heap.size w w1 → n ≤ 2000 → Calls Tryd.prog 8 #[.slice A n c, .agg (adv sv sb), .agg (adv dv db)] w1 (ParUF (udpv sv (udpO (aheadL sv sb db 17) l) l n) w1)) := fun w1 b h => ref_udp (HB.out.1.later b (Nat.le_refl _)) (by omega) sv dv hsb hdb
  have K3 : Hid (∀ w1, Below w.heap.size w w1 → Calls Tryd.prog 10 #[.agg (dgv s B m d), .agg (adv sv sb), .agg (adv dv db)] w1 (BldU (aheadL sv sb db 17 (8 + m)) s w1)) := fun w1 b => build_udp (HB.out.2.1.later b (Nat.le_refl _)) sv dv hsb hdb
  have K4 : Hid (∀ w1, Below w.heap.size w w1 → Calls Tryd.prog 11 #[.agg (dgv s B m d), .agg (adv sv sb), .agg (adv dv db)] w1 (BldUF (aheadL sv sb db 17 (8 + m)) s w1)) := fun w1 b => ref_build_udp (HB.out.2.1.later b (Nat.le_refl _)) sv dv hsb hdb
  have KM : Hid (∀ w1, Below w.heap.size w w1 → n ≤ 2000 → Calls Tryd.prog 9 #[.slice A n c, .agg (adv sv sb), .agg (adv dv db)] w1 fun e w' => ∃ A' c', e = .returned (.slice A' n c') ∧ Bs w' A' n c' (mendU (aheadL sv sb db 17) l n) ∧ Below w1.heap.size w1 w') := fun w1 b h => mendedU_any (HB.out.1.later b (Nat.le_refl _)) (by omega) sv dv hsb hdb
  have K5 : Hid (∀ (w1 : World) (A1 : Option Addr) (c1 : Nat), Bs w1 A1 n c1 (mendU (aheadL sv sb db 17) l n) → n ≤ 2000 → Calls Tryd.prog 7 #[.slice A1 n c1, .agg (adv sv sb), .agg (adv dv db)] w1 (ParU (udpv sv (udpO (aheadL sv sb db 17) (mendU (aheadL sv sb db 17) l n)) (mendU (aheadL sv sb db 17) l n) n) w1)) := fun w1 A1 c1 b h => parse_udp b (by omega) sv dv hsb hdb
  have K6 : Hid (∀ (w1 : World) (A1 : Option Addr) (c1 : Nat), Bs w1 A1 n c1 (mendU (aheadL sv sb db 17) l n) → n ≤ 2000 → Calls Tryd.prog 8 #[.slice A1 n c1, .agg (adv sv sb), .agg (adv dv db)] w1 (ParUF (udpv sv (udpO (aheadL sv sb db 17) (mendU (aheadL sv sb db 17) l n)) (mendU (aheadL sv sb db 17) l n) n) w1)) := fun w1 A1 c1 b h => ref_udp b (by omega) sv dv hsb hdb
  unfold ParU at K1 K5
  unfold ParUF at K2 K6
  unfold BldU at K3
  unfold BldUF at K4
  generalize udpv sv (udpO (aheadL sv sb db 17) l) l n = r at K1 K2
  generalize udpv sv (udpO (aheadL sv sb db 17) (mendU (aheadL sv sb db 17) l n)) (mendU (aheadL sv sb db 17) l n) n = r2 at K5 K6
  generalize mendU (aheadL sv sb db 17) l n = ml at KM K5 K6
  generalize bldu (aheadL sv sb db 17 (8 + m)) s = bl at K3 K4
  generalize bldue s = be at K3 K4
  obtain ⟨h0, fc, fa, fp⟩ := r
  obtain ⟨h2, ec, ea, ep⟩ := r2
  obtain ⟨gc, ga, gp⟩ := be
  dsimp only at K1 K2 K3 K4 K5 K6
  obtain ⟨sp, dp, pay⟩ := s
  unfold dgv at hW
  dsimp only at hW
  have HW := Lib.hid hW
  clear hW
  rw [show dgv ⟨sp, dp, pay⟩ B m d = #[.int .i64 sp, .int .i64 dp, .slice B m d] from rfl]
  by_cases hbig : 2000 < n
  · have hqd : decide ((2000 : Int) < (n : Int)) = true := decide_eq_true (by omega)
    go_enter Tryd.func3, Tryd.ntmps3
    go_wp2_with fail
    rw [HW.out]
    refine (awake09 _).mono ?_
    rintro e w1 ⟨rfl, b1⟩
    have H1 := Lib.hid (HA.out.2.2.2.trans (b1.mono HA.out.2.2.2.size))
    clear b1
    go_wp2_with fail
    go_ret
    exact ⟨rfl, H1.out⟩
  have hqd : decide ((2000 : Int) < (n : Int)) = false := decide_eq_false (by omega)
  by_cases hbig2 : 2000 < m
  · have hqe : decide ((2000 : Int) < (m : Int)) = true := decide_eq_true (by omega)
    go_enter Tryd.func3, Tryd.ntmps3
    go_wp2_with fail
    rw [HW.out]
    refine (awake09 _).mono ?_
    rintro e w1 ⟨rfl, b1⟩
    have H1 := Lib.hid (HA.out.2.2.2.trans (b1.mono HA.out.2.2.2.size))
    clear b1
    go_wp2_with fail
    go_ret
    exact ⟨rfl, H1.out⟩
  have hqe : decide ((2000 : Int) < (m : Int)) = false := decide_eq_false (by omega)
  have hn2 : n ≤ 2000 := by omega
  clear hbig hbig2
  go_enter Tryd.func3, Tryd.ntmps3
  go_wp2_with (first
    | (rw [HW.out]; refine wpList_load_ad rfl (.tmp 5) rfl rfl HA.out.1 ?_)
    | (refine wpList_load_ad rfl (.tmp 6) rfl rfl HA.out.2.1 ?_))
  refine (K1.out _ HA.out.2.2.2 hn2).mono ?_
  rintro e w2 ⟨A1, n1, c1, v2, rfl, q2, t2, b2⟩
  have H2 := Lib.hid (And.intro (HA.out.1.later b2 (Nat.le_refl _)) (And.intro (HA.out.2.1.later b2 (Nat.le_refl _)) (And.intro (HA.out.2.2.1.later b2 (Nat.le_refl _)) (And.intro (q2) (And.intro (t2) (HA.out.2.2.2.trans (b2.mono HA.out.2.2.2.size)))))))
  clear b2 t2 q2
  go_wp2_with (first
    | (refine wpList_alloc_dg rfl rfl ?_; intro w3 a3 b3 z3; have H3 := Lib.hid (And.intro a3 b3); clear a3 b3 z3)
    | (refine wpList_store_dg rfl (.tmp 9) (.tmp 36) rfl h0 A1 n1 c1 rfl rfl H3.out.1 ?_; intro w4 a4 o4 z4 b4; have bb := b4 _ _ (Nat.le_refl _) H3.out.2; have H4 := Lib.hid (And.intro (H2.out.1.later bb (Nat.le_refl _)) (And.intro (H2.out.2.1.later bb (Nat.le_refl _)) (And.intro (H2.out.2.2.1.later bb (Nat.le_refl _)) (And.intro (H2.out.2.2.2.1.later bb (Nat.le_refl _)) (And.intro (H2.out.2.2.2.2.1.later bb (Nat.le_refl _)) (And.intro (a4) (H2.out.2.2.2.2.2.trans (bb.mono H2.out.2.2.2.2.2.size)))))))); clear a4 o4 z4 b4 bb)
    | (refine wpList_load_ad rfl (.tmp 5) rfl rfl H4.out.1 ?_)
    | (refine wpList_load_ad rfl (.tmp 6) rfl rfl H4.out.2.1 ?_))
  refine (K2.out _ H4.out.2.2.2.2.2.2 hn2).mono ?_
  rintro e w5 ⟨A3, n3, c3, rfl, q5, b5⟩
  have H5 := Lib.hid (And.intro (H4.out.1.later b5 (Nat.le_refl _)) (And.intro (H4.out.2.1.later b5 (Nat.le_refl _)) (And.intro (H4.out.2.2.1.later b5 (Nat.le_refl _)) (And.intro (H4.out.2.2.2.1.later b5 (Nat.le_refl _)) (And.intro (H4.out.2.2.2.2.1.later b5 (Nat.le_refl _)) (And.intro (H4.out.2.2.2.2.2.1.later b5 (Nat.le_refl _)) (And.intro (q5) (H4.out.2.2.2.2.2.2.trans (b5.mono H4.out.2.2.2.2.2.2.size)))))))))
  clear b5 q5
  go_upto_region 5 with (first
    | (refine wpList_alloc_dg rfl rfl ?_; intro w6 a6 b6 z6; have H6 := Lib.hid (And.intro a6 b6); clear a6 b6 z6)
    | (refine wpList_alloc_fl rfl rfl ?_; intro w7 a7 b7 z7; have H7 := Lib.hid (And.intro (H6.out.1.later b7 (Nat.le_refl _)) (And.intro a7 (H6.out.2.trans (b7.mono H6.out.2.size)))); clear a7 b7 z7)
    | (refine wpList_store_dg rfl (.tmp 11) (.tmp 43) rfl h0 A3 n3 c3 rfl rfl H7.out.1 ?_; intro w8 a8 o8 z8 b8; have H8 := Lib.hid (And.intro a8 (And.intro (H7.out.2.1.same (o8 _ (Nat.ne_of_lt H6.out.1.lt).symm)) (b8 w5.heap.size w5 (Nat.le_refl _) H7.out.2.2))); clear a8 o8 z8 b8)
    | (refine wpList_store_fl rfl (.tmp 12) (.tmp 44) rfl fc fa fp rfl rfl H8.out.2.1 ?_; intro w9 a9 o9 z9 b9; have bb := b9 w5.heap.size w5 H6.out.2.size H8.out.2.2; have H9 := Lib.hid (And.intro (H5.out.1.later bb (Nat.le_refl _)) (And.intro (H5.out.2.1.later bb (Nat.le_refl _)) (And.intro (H5.out.2.2.1.later bb (Nat.le_refl _)) (And.intro (H5.out.2.2.2.1.later bb (Nat.le_refl _)) (And.intro (H5.out.2.2.2.2.1.later bb (Nat.le_refl _)) (And.intro (H5.out.2.2.2.2.2.1.later bb (Nat.le_refl _)) (And.intro (H5.out.2.2.2.2.2.2.1.later bb (Nat.le_refl _)) (And.intro (H8.out.1.same (o9 _ (Nat.ne_of_lt H6.out.1.lt))) (And.intro (a9) (H5.out.2.2.2.2.2.2.2.trans (bb.mono H5.out.2.2.2.2.2.2.2.size))))))))))); clear a9 o9 z9 b9 bb))
  simp only [Act.put, List.setIfInBounds_toArray, List.set_cons_zero, List.set_cons_succ]
  go_cut [13, 14] (fun p v wx => ∃ (g : Nat) (A5 : Option Addr) (n5 c5 : Nat), p = .pointer (some ⟨g, 0, none⟩) ∧ DgBox wx g h2 A5 n5 c5 ∧ Bs wx A5 n5 c5 h2.pay ∧ Tells wx v ⟨ec, ea, ep⟩ ∧ Below w9.heap.size w9 wx)
  case first =>
    have hS : Below w9.heap.size w9 w9.drew := (Below.refl _ _).drew
    refine rg_begin (fun w' => Below w9.heap.size w9 w') 13 (by kernel_rfl) rfl ?_
    obtain ⟨W0, hW0⟩ : ∃ W0, w9.drew = W0 := ⟨_, rfl⟩
    rw [hW0] at hS ⊢
    clear hW0
    refine rg_take 0 (v := ?rv1) rfl (by kernel_rfl) (by kernel_rfl) (by kernel_rfl) (fun _ _ _ h => h) (by rfl) hS (fun w2 hw2 => ?ry1) ?rr1
    case ry1 => ((try dsimp only at hw2); go_simp <;> with_reducible rfl)
    simp only [Act.put, List.setIfInBounds_toArray, List.set_cons_zero, List.set_cons_succ]
    refine rg_load 1 rfl (by kernel_rfl) (by kernel_rfl) (by kernel_rfl) (w.heap.size) 0 (adv sv sb) (fun _ _ _ h => h) (by rfl) 25 (.tmp 5) rfl rfl hS (fun w2 h2 => (AdBox.later H9.out.1 h2 (Nat.le_refl _)).range) Tryd.underlying25 rfl (ad_size sv H9.out.1.2) ?_
    simp only [Act.put, List.setIfInBounds_toArray, List.set_cons_zero, List.set_cons_succ]
    refine rg_load 2 rfl (by kernel_rfl) (by kernel_rfl) (by kernel_rfl) ((w.heap.size+1)) 0 (adv dv db) (fun _ _ _ h => h) (by rfl) 25 (.tmp 6) rfl rfl hS (fun w2 h2 => (AdBox.later H9.out.2.1 h2 (Nat.le_refl _)).range) Tryd.underlying25 rfl (ad_size dv H9.out.2.1.2) ?_
    simp only [Act.put, List.setIfInBounds_toArray, List.set_cons_zero, List.set_cons_succ]
    refine rg_load 4 rfl (by kernel_rfl) (by kernel_rfl) (by kernel_rfl) (w.heap.size) 0 (adv sv sb) (fun _ _ _ h => h) (by rfl) 25 (.tmp 5) rfl rfl hS (fun w2 h2 => (AdBox.later H9.out.1 h2 (Nat.le_refl _)).range) Tryd.underlying25 rfl (ad_size sv H9.out.1.2) ?_
    simp only [Act.put, List.setIfInBounds_toArray, List.set_cons_zero, List.set_cons_succ]
    refine rg_load 5 rfl (by kernel_rfl) (by kernel_rfl) (by kernel_rfl) ((w.heap.size+1)) 0 (adv dv db) (fun _ _ _ h => h) (by rfl) 25 (.tmp 6) rfl rfl hS (fun w2 h2 => (AdBox.later H9.out.2.1 h2 (Nat.le_refl _)).range) Tryd.underlying25 rfl (ad_size dv H9.out.2.1.2) ?_
    simp only [Act.put, List.setIfInBounds_toArray, List.set_cons_zero, List.set_cons_succ]
    refine rg_any [3, 10] (by kernel_rfl) (by simp) ?_
    refine rg_or 3 rfl (by rfl) (fun K hK => ?_) ?_
    · go_simp
      refine (KM.out _ (H9.out.2.2.2.2.2.2.2.2.2.trans (hS.mono H9.out.2.2.2.2.2.2.2.2.2.size)) hn2).mono ?_
      rintro e u1 ⟨Am, cm, rfl, M, bK⟩
      replace hS := hS.trans (bK.mono hS.size)
      clear bK
      refine hK.out _ _ hS ?_
      clear hK K
      try simp only [Act.put, List.setIfInBounds_toArray, List.set_cons_zero, List.set_cons_succ]
      refine rg_any [6, 10] (by kernel_rfl) (by simp) ?_
      refine rg_or 6 rfl (by rfl) (fun K hK => ?_) ?_
      · go_simp
        refine (K5.out _ _ _ M hn2).mono ?_
        rintro e u2 ⟨Ap, np, cp, vp, rfl, Q, T, bK⟩
        replace M := M.later bK (Nat.le_refl _)
        replace hS := hS.trans (bK.mono hS.size)
        clear bK
        clear M
        refine hK.out _ _ hS ?_
        clear hK K
        try simp only [Act.put, List.setIfInBounds_toArray, List.set_cons_zero, List.set_cons_succ]
        refine rg_take 7 (v := ?rv2) rfl (by kernel_rfl) (by kernel_rfl) (by kernel_rfl) (fun _ _ _ h => h) (by rfl) hS (fun w2 hw2 => ?ry2) ?rr2
        case ry2 => ((try dsimp only at hw2); go_simp <;> with_reducible rfl)
        simp only [Act.put, List.setIfInBounds_toArray, List.set_cons_zero, List.set_cons_succ]
        refine rg_take 8 (v := ?rv3) rfl (by kernel_rfl) (by kernel_rfl) (by kernel_rfl) (fun _ _ _ h => h) (by rfl) hS (fun w2 hw2 => ?ry3) ?rr3
        case ry3 => ((try dsimp only at hw2); go_simp <;> with_reducible rfl)
        simp only [Act.put, List.setIfInBounds_toArray, List.set_cons_zero, List.set_cons_succ]
        refine rg_take 9 (v := ?rv4) rfl (by kernel_rfl) (by kernel_rfl) (by kernel_rfl) (fun _ _ _ h => h) (by rfl) hS (fun w2 hw2 => ?ry4) ?rr4
        case ry4 => ((try dsimp only at hw2); go_simp <;> with_reducible rfl)
        simp only [Act.put, List.setIfInBounds_toArray, List.set_cons_zero, List.set_cons_succ]
        refine rg_step 10 rfl (by kernel_rfl) (by rfl) (fun K hK => ?_)
        refine wp_alloc_dgF rfl ?_
        intro u3 G bK
        have lG := hS.size
        replace Q := Q.later bK (Nat.le_refl _)
        replace T := T.later bK (Nat.le_refl _)
        replace hS := hS.trans (bK.mono hS.size)
        clear bK
        refine hK.out _ _ hS ?_
        clear hK K
        try simp only [Act.put, List.setIfInBounds_toArray, List.set_cons_zero, List.set_cons_succ]
        refine rg_step 11 rfl (by kernel_rfl) (by rfl) (fun K hK => ?_)
        refine wp_store_dgF (.tmp 13) (.tmp 53) rfl h2 Ap np cp rfl rfl G ?_
        intro ux G2 far keep
        have Q2 := Q.farDg G far
        have T2 := T.farDg G far
        replace hS := keep _ _ lG hS
        clear G Q T far keep
        refine hK.out _ _ hS ?_
        clear hK K
        simp only [Act.put]
        refine rg_take 12 (v := ?rv5) rfl (by kernel_rfl) (by kernel_rfl) (by kernel_rfl) (fun _ _ _ h => h) (by rfl) hS (fun w2 hw2 => ?ry5) ?rr5
        case ry5 => ((try dsimp only at hw2); go_simp <;> with_reducible rfl)
        simp only [Act.put, List.setIfInBounds_toArray, List.set_cons_zero, List.set_cons_succ]
        refine rg_done (by kernel_rfl) ?_
        go_wp2_with fail
        go_meet
        exact ⟨_, Ap, np, cp, rfl, G2, Q2, T2, hS⟩
      refine rg_or 10 rfl (by rfl) (fun K hK => ?_) ?_
      · refine wp_alloc_dgF rfl ?_
        intro u4 G bK
        have lG := hS.size
        replace M := M.later bK (Nat.le_refl _)
        replace hS := hS.trans (bK.mono hS.size)
        clear bK
        refine hK.out _ _ hS ?_
        clear hK K
        try simp only [Act.put, List.setIfInBounds_toArray, List.set_cons_zero, List.set_cons_succ]
        refine rg_step 6 rfl (by kernel_rfl) (by rfl) (fun K hK => ?_)
        go_simp
        refine (K5.out _ _ _ M hn2).mono ?_
        rintro e u5 ⟨Ap, np, cp, vp, rfl, Q, T, bK⟩
        replace M := M.later bK (Nat.le_refl _)
        replace G := G.later bK (Nat.le_refl _)
        replace hS := hS.trans (bK.mono hS.size)
        clear bK
        clear M
        refine hK.out _ _ hS ?_
        clear hK K
        try simp only [Act.put, List.setIfInBounds_toArray, List.set_cons_zero, List.set_cons_succ]
        refine rg_take 7 (v := ?rv6) rfl (by kernel_rfl) (by kernel_rfl) (by kernel_rfl) (fun _ _ _ h => h) (by rfl) hS (fun w2 hw2 => ?ry6) ?rr6
        case ry6 => ((try dsimp only at hw2); go_simp <;> with_reducible rfl)
        simp only [Act.put, List.setIfInBounds_toArray, List.set_cons_zero, List.set_cons_succ]
        refine rg_take 8 (v := ?rv7) rfl (by kernel_rfl) (by kernel_rfl) (by kernel_rfl) (fun _ _ _ h => h) (by rfl) hS (fun w2 hw2 => ?ry7) ?rr7
        case ry7 => ((try dsimp only at hw2); go_simp <;> with_reducible rfl)
        simp only [Act.put, List.setIfInBounds_toArray, List.set_cons_zero, List.set_cons_succ]
        refine rg_take 9 (v := ?rv8) rfl (by kernel_rfl) (by kernel_rfl) (by kernel_rfl) (fun _ _ _ h => h) (by rfl) hS (fun w2 hw2 => ?ry8) ?rr8
        case ry8 => ((try dsimp only at hw2); go_simp <;> with_reducible rfl)
        simp only [Act.put, List.setIfInBounds_toArray, List.set_cons_zero, List.set_cons_succ]
        refine rg_step 11 rfl (by kernel_rfl) (by rfl) (fun K hK => ?_)
        refine wp_store_dgF (.tmp 13) (.tmp 53) rfl h2 Ap np cp rfl rfl G ?_
        intro ux G2 far keep
        have Q2 := Q.farDg G far
        have T2 := T.farDg G far
        replace hS := keep _ _ lG hS
        clear G Q T far keep
        refine hK.out _ _ hS ?_
        clear hK K
        simp only [Act.put]
        refine rg_take 12 (v := ?rv9) rfl (by kernel_rfl) (by kernel_rfl) (by kernel_rfl) (fun _ _ _ h => h) (by rfl) hS (fun w2 hw2 => ?ry9) ?rr9
        case ry9 => ((try dsimp only at hw2); go_simp <;> with_reducible rfl)
        simp only [Act.put, List.setIfInBounds_toArray, List.set_cons_zero, List.set_cons_succ]
        refine rg_done (by kernel_rfl) ?_
        go_wp2_with fail
        go_meet
        exact ⟨_, Ap, np, cp, rfl, G2, Q2, T2, hS⟩
      exact AllReadyH.nil
    refine rg_or 10 rfl (by rfl) (fun K hK => ?_) ?_
    · refine wp_alloc_dgF rfl ?_
      intro u6 G bK
      have lG := hS.size
      replace hS := hS.trans (bK.mono hS.size)
      clear bK
      refine hK.out _ _ hS ?_
      clear hK K
      try simp only [Act.put, List.setIfInBounds_toArray, List.set_cons_zero, List.set_cons_succ]
      refine rg_step 3 rfl (by kernel_rfl) (by rfl) (fun K hK => ?_)
      go_simp
      refine (KM.out _ (H9.out.2.2.2.2.2.2.2.2.2.trans (hS.mono H9.out.2.2.2.2.2.2.2.2.2.size)) hn2).mono ?_
      rintro e u7 ⟨Am, cm, rfl, M, bK⟩
      replace G := G.later bK (Nat.le_refl _)
      replace hS := hS.trans (bK.mono hS.size)
      clear bK
      refine hK.out _ _ hS ?_
      clear hK K
      try simp only [Act.put, List.setIfInBounds_toArray, List.set_cons_zero, List.set_cons_succ]
      refine rg_step 6 rfl (by kernel_rfl) (by rfl) (fun K hK => ?_)
      go_simp
      refine (K5.out _ _ _ M hn2).mono ?_
      rintro e u8 ⟨Ap, np, cp, vp, rfl, Q, T, bK⟩
      replace G := G.later bK (Nat.le_refl _)
      replace M := M.later bK (Nat.le_refl _)
      replace hS := hS.trans (bK.mono hS.size)
      clear bK
      clear M
      refine hK.out _ _ hS ?_
      clear hK K
      try simp only [Act.put, List.setIfInBounds_toArray, List.set_cons_zero, List.set_cons_succ]
      refine rg_take 7 (v := ?rv10) rfl (by kernel_rfl) (by kernel_rfl) (by kernel_rfl) (fun _ _ _ h => h) (by rfl) hS (fun w2 hw2 => ?ry10) ?rr10
      case ry10 => ((try dsimp only at hw2); go_simp <;> with_reducible rfl)
      simp only [Act.put, List.setIfInBounds_toArray, List.set_cons_zero, List.set_cons_succ]
      refine rg_take 8 (v := ?rv11) rfl (by kernel_rfl) (by kernel_rfl) (by kernel_rfl) (fun _ _ _ h => h) (by rfl) hS (fun w2 hw2 => ?ry11) ?rr11
      case ry11 => ((try dsimp only at hw2); go_simp <;> with_reducible rfl)
      simp only [Act.put, List.setIfInBounds_toArray, List.set_cons_zero, List.set_cons_succ]
      refine rg_take 9 (v := ?rv12) rfl (by kernel_rfl) (by kernel_rfl) (by kernel_rfl) (fun _ _ _ h => h) (by rfl) hS (fun w2 hw2 => ?ry12) ?rr12
      case ry12 => ((try dsimp only at hw2); go_simp <;> with_reducible rfl)
      simp only [Act.put, List.setIfInBounds_toArray, List.set_cons_zero, List.set_cons_succ]
      refine rg_step 11 rfl (by kernel_rfl) (by rfl) (fun K hK => ?_)
      refine wp_store_dgF (.tmp 13) (.tmp 53) rfl h2 Ap np cp rfl rfl G ?_
      intro ux G2 far keep
      have Q2 := Q.farDg G far
      have T2 := T.farDg G far
      replace hS := keep _ _ lG hS
      clear G Q T far keep
      refine hK.out _ _ hS ?_
      clear hK K
      simp only [Act.put]
      refine rg_take 12 (v := ?rv13) rfl (by kernel_rfl) (by kernel_rfl) (by kernel_rfl) (fun _ _ _ h => h) (by rfl) hS (fun w2 hw2 => ?ry13) ?rr13
      case ry13 => ((try dsimp only at hw2); go_simp <;> with_reducible rfl)
      simp only [Act.put, List.setIfInBounds_toArray, List.set_cons_zero, List.set_cons_succ]
      refine rg_done (by kernel_rfl) ?_
      go_wp2_with fail
      go_meet
      exact ⟨_, Ap, np, cp, rfl, G2, Q2, T2, hS⟩
    exact AllReadyH.nil
  case rest =>
  obtain ⟨g13, A5, n5, c5, rfl, x1, x2, x3, hB⟩ := hcut
  obtain ⟨W5, rfl⟩ : ∃ W5, W5 = wc := ⟨_, rfl⟩
  have H10 := Lib.hid (And.intro (H9.out.1.later hB (Nat.le_refl _)) (And.intro (H9.out.2.1.later hB (Nat.le_refl _)) (And.intro (H9.out.2.2.1.later hB (Nat.le_refl _)) (And.intro (H9.out.2.2.2.1.later hB (Nat.le_refl _)) (And.intro (H9.out.2.2.2.2.1.later hB (Nat.le_refl _)) (And.intro (H9.out.2.2.2.2.2.1.later hB (Nat.le_refl _)) (And.intro (H9.out.2.2.2.2.2.2.1.later hB (Nat.le_refl _)) (And.intro (H9.out.2.2.2.2.2.2.2.1.later hB (Nat.le_refl _)) (And.intro (H9.out.2.2.2.2.2.2.2.2.1.later hB (Nat.le_refl _)) (And.intro (x1) (And.intro (x2) (And.intro (x3) (H9.out.2.2.2.2.2.2.2.2.2.trans (hB.mono H9.out.2.2.2.2.2.2.2.2.2.size))))))))))))))
  clear x1 x2 x3 hB
  go_upto_region 6 with fail
  go_cut [15, 16] (fun p q wx => ∃ (g k : Nat) (A6 : Option Addr) (n6 c6 : Nat), p = .pointer (some ⟨g, 0, none⟩) ∧ q = .pointer (some ⟨k, 0, none⟩) ∧ DgBox wx g h2 A6 n6 c6 ∧ Bs wx A6 n6 c6 h2.pay ∧ FlBox wx k ec ea ep ∧ Below W5.heap.size W5 wx)
  case first =>
    have hS : Below W5.heap.size W5 W5.drew := (Below.refl _ _).drew
    refine rg_begin (fun w' => Below W5.heap.size W5 w') 14 (by kernel_rfl) rfl ?_
    obtain ⟨W0, hW0⟩ : ∃ W0, W5.drew = W0 := ⟨_, rfl⟩
    rw [hW0] at hS ⊢
    clear hW0
    refine rg_take 0 (v := ?rv14) rfl (by kernel_rfl) (by kernel_rfl) (by kernel_rfl) (fun _ _ _ h => h) (by rfl) hS (fun w2 hw2 => ?ry14) ?rr14
    case ry14 => ((try dsimp only at hw2); go_simp <;> with_reducible rfl)
    simp only [Act.put, List.setIfInBounds_toArray, List.set_cons_zero, List.set_cons_succ]
    refine rg_load 1 rfl (by kernel_rfl) (by kernel_rfl) (by kernel_rfl) (w.heap.size) 0 (adv sv sb) (fun _ _ _ h => h) (by rfl) 25 (.tmp 5) rfl rfl hS (fun w2 h2 => (AdBox.later H10.out.1 h2 (Nat.le_refl _)).range) Tryd.underlying25 rfl (ad_size sv H10.out.1.2) ?_
    simp only [Act.put, List.setIfInBounds_toArray, List.set_cons_zero, List.set_cons_succ]
    refine rg_load 2 rfl (by kernel_rfl) (by kernel_rfl) (by kernel_rfl) ((w.heap.size+1)) 0 (adv dv db) (fun _ _ _ h => h) (by rfl) 25 (.tmp 6) rfl rfl hS (fun w2 h2 => (AdBox.later H10.out.2.1 h2 (Nat.le_refl _)).range) Tryd.underlying25 rfl (ad_size dv H10.out.2.1.2) ?_
    simp only [Act.put, List.setIfInBounds_toArray, List.set_cons_zero, List.set_cons_succ]
    refine rg_load 4 rfl (by kernel_rfl) (by kernel_rfl) (by kernel_rfl) (w.heap.size) 0 (adv sv sb) (fun _ _ _ h => h) (by rfl) 25 (.tmp 5) rfl rfl hS (fun w2 h2 => (AdBox.later H10.out.1 h2 (Nat.le_refl _)).range) Tryd.underlying25 rfl (ad_size sv H10.out.1.2) ?_
    simp only [Act.put, List.setIfInBounds_toArray, List.set_cons_zero, List.set_cons_succ]
    refine rg_load 5 rfl (by kernel_rfl) (by kernel_rfl) (by kernel_rfl) ((w.heap.size+1)) 0 (adv dv db) (fun _ _ _ h => h) (by rfl) 25 (.tmp 6) rfl rfl hS (fun w2 h2 => (AdBox.later H10.out.2.1 h2 (Nat.le_refl _)).range) Tryd.underlying25 rfl (ad_size dv H10.out.2.1.2) ?_
    simp only [Act.put, List.setIfInBounds_toArray, List.set_cons_zero, List.set_cons_succ]
    refine rg_any [3, 10, 11] (by kernel_rfl) (by simp) ?_
    refine rg_or 3 rfl (by rfl) (fun K hK => ?_) ?_
    · go_simp
      refine (KM.out _ (H10.out.2.2.2.2.2.2.2.2.2.2.2.2.trans (hS.mono H10.out.2.2.2.2.2.2.2.2.2.2.2.2.size)) hn2).mono ?_
      rintro e u1 ⟨Am, cm, rfl, M, bK⟩
      replace hS := hS.trans (bK.mono hS.size)
      clear bK
      refine hK.out _ _ hS ?_
      clear hK K
      try simp only [Act.put, List.setIfInBounds_toArray, List.set_cons_zero, List.set_cons_succ]
      refine rg_any [6, 10, 11] (by kernel_rfl) (by simp) ?_
      refine rg_or 6 rfl (by rfl) (fun K hK => ?_) ?_
      · go_simp
        refine (K6.out _ _ _ M hn2).mono ?_
        rintro e u2 ⟨Ap, np, cp, rfl, Q, bK⟩
        replace M := M.later bK (Nat.le_refl _)
        replace hS := hS.trans (bK.mono hS.size)
        clear bK
        clear M
        refine hK.out _ _ hS ?_
        clear hK K
        try simp only [Act.put, List.setIfInBounds_toArray, List.set_cons_zero, List.set_cons_succ]
        refine rg_take 7 (v := ?rv15) rfl (by kernel_rfl) (by kernel_rfl) (by kernel_rfl) (fun _ _ _ h => h) (by rfl) hS (fun w2 hw2 => ?ry15) ?rr15
        case ry15 => ((try dsimp only at hw2); go_simp <;> with_reducible rfl)
        simp only [Act.put, List.setIfInBounds_toArray, List.set_cons_zero, List.set_cons_succ]
        refine rg_take 8 (v := ?rv16) rfl (by kernel_rfl) (by kernel_rfl) (by kernel_rfl) (fun _ _ _ h => h) (by rfl) hS (fun w2 hw2 => ?ry16) ?rr16
        case ry16 => ((try dsimp only at hw2); go_simp <;> with_reducible rfl)
        simp only [Act.put, List.setIfInBounds_toArray, List.set_cons_zero, List.set_cons_succ]
        refine rg_take 9 (v := ?rv17) rfl (by kernel_rfl) (by kernel_rfl) (by kernel_rfl) (fun _ _ _ h => h) (by rfl) hS (fun w2 hw2 => ?ry17) ?rr17
        case ry17 => ((try dsimp only at hw2); go_simp <;> with_reducible rfl)
        simp only [Act.put, List.setIfInBounds_toArray, List.set_cons_zero, List.set_cons_succ]
        refine rg_any [10, 11] (by kernel_rfl) (by simp) ?_
        refine rg_or 10 rfl (by rfl) (fun K hK => ?_) ?_
        · refine wp_alloc_dgF rfl ?_
          intro u3 G bK
          have lG := hS.size
          replace Q := Q.later bK (Nat.le_refl _)
          replace hS := hS.trans (bK.mono hS.size)
          clear bK
          refine hK.out _ _ hS ?_
          clear hK K
          try simp only [Act.put, List.setIfInBounds_toArray, List.set_cons_zero, List.set_cons_succ]
          refine rg_step 11 rfl (by kernel_rfl) (by rfl) (fun K hK => ?_)
          refine wp_alloc_flF rfl ?_
          intro u4 F bK
          have lF := hS.size
          have neGF := Nat.ne_of_lt G.lt
          replace Q := Q.later bK (Nat.le_refl _)
          replace G := G.later bK (Nat.le_refl _)
          replace hS := hS.trans (bK.mono hS.size)
          clear bK
          refine hK.out _ _ hS ?_
          clear hK K
          try simp only [Act.put, List.setIfInBounds_toArray, List.set_cons_zero, List.set_cons_succ]
          have neGK : _ ≠ _ := neGF
          refine rg_step 12 rfl (by kernel_rfl) (by rfl) (fun K hK => ?_)
          refine wp_store_dgF (.tmp 15) (.tmp 63) rfl h2 Ap np cp rfl rfl G ?_
          intro ux G2 far keep
          have Q2 := Q.farDg G far
          have F2 := F.same (far _ neGK.symm)
          replace hS := keep _ _ lG hS
          clear G Q F far keep
          refine hK.out _ _ hS ?_
          clear hK K
          simp only [Act.put]
          refine rg_step 13 rfl (by kernel_rfl) (by rfl) (fun K hK => ?_)
          refine wp_store_flF (.tmp 16) (.tmp 64) rfl ec ea ep rfl rfl F2 ?_
          intro uy F3 far keep
          have G3 := G2.same (far _ neGK)
          have Q3 := Q2.farFl F2 far
          replace hS := keep _ _ lF hS
          clear G2 Q2 F2 far keep
          refine hK.out _ _ hS ?_
          clear hK K
          simp only [Act.put]
          refine rg_done (by kernel_rfl) ?_
          go_wp2_with fail
          go_meet
          exact ⟨_, _, Ap, np, cp, rfl, rfl, G3, Q3, F3, hS⟩
        refine rg_or 11 rfl (by rfl) (fun K hK => ?_) ?_
        · refine wp_alloc_flF rfl ?_
          intro u5 F bK
          have lF := hS.size
          replace Q := Q.later bK (Nat.le_refl _)
          replace hS := hS.trans (bK.mono hS.size)
          clear bK
          refine hK.out _ _ hS ?_
          clear hK K
          try simp only [Act.put, List.setIfInBounds_toArray, List.set_cons_zero, List.set_cons_succ]
          refine rg_step 10 rfl (by kernel_rfl) (by rfl) (fun K hK => ?_)
          refine wp_alloc_dgF rfl ?_
          intro u6 G bK
          have lG := hS.size
          have neFG := Nat.ne_of_lt F.lt
          replace Q := Q.later bK (Nat.le_refl _)
          replace F := F.later bK (Nat.le_refl _)
          replace hS := hS.trans (bK.mono hS.size)
          clear bK
          refine hK.out _ _ hS ?_
          clear hK K
          try simp only [Act.put, List.setIfInBounds_toArray, List.set_cons_zero, List.set_cons_succ]
          have neGK : _ ≠ _ := neFG.symm
          refine rg_step 12 rfl (by kernel_rfl) (by rfl) (fun K hK => ?_)
          refine wp_store_dgF (.tmp 15) (.tmp 63) rfl h2 Ap np cp rfl rfl G ?_
          intro ux G2 far keep
          have Q2 := Q.farDg G far
          have F2 := F.same (far _ neGK.symm)
          replace hS := keep _ _ lG hS
          clear G Q F far keep
          refine hK.out _ _ hS ?_
          clear hK K
          simp only [Act.put]
          refine rg_step 13 rfl (by kernel_rfl) (by rfl) (fun K hK => ?_)
          refine wp_store_flF (.tmp 16) (.tmp 64) rfl ec ea ep rfl rfl F2 ?_
          intro uy F3 far keep
          have G3 := G2.same (far _ neGK)
          have Q3 := Q2.farFl F2 far
          replace hS := keep _ _ lF hS
          clear G2 Q2 F2 far keep
          refine hK.out _ _ hS ?_
          clear hK K
          simp only [Act.put]
          refine rg_done (by kernel_rfl) ?_
          go_wp2_with fail
          go_meet
          exact ⟨_, _, Ap, np, cp, rfl, rfl, G3, Q3, F3, hS⟩
        exact AllReadyH.nil
      refine rg_or 10 rfl (by rfl) (fun K hK => ?_) ?_
      · refine wp_alloc_dgF rfl ?_
        intro u7 G bK
        have lG := hS.size
        replace M := M.later bK (Nat.le_refl _)
        replace hS := hS.trans (bK.mono hS.size)
        clear bK
        refine hK.out _ _ hS ?_
        clear hK K
        try simp only [Act.put, List.setIfInBounds_toArray, List.set_cons_zero, List.set_cons_succ]
        refine rg_any [6, 11] (by kernel_rfl) (by simp) ?_
        refine rg_or 6 rfl (by rfl) (fun K hK => ?_) ?_
        · go_simp
          refine (K6.out _ _ _ M hn2).mono ?_
          rintro e u8 ⟨Ap, np, cp, rfl, Q, bK⟩
          replace M := M.later bK (Nat.le_refl _)
          replace G := G.later bK (Nat.le_refl _)
          replace hS := hS.trans (bK.mono hS.size)
          clear bK
          clear M
          refine hK.out _ _ hS ?_
          clear hK K
          try simp only [Act.put, List.setIfInBounds_toArray, List.set_cons_zero, List.set_cons_succ]
          refine rg_take 7 (v := ?rv18) rfl (by kernel_rfl) (by kernel_rfl) (by kernel_rfl) (fun _ _ _ h => h) (by rfl) hS (fun w2 hw2 => ?ry18) ?rr18
          case ry18 => ((try dsimp only at hw2); go_simp <;> with_reducible rfl)
          simp only [Act.put, List.setIfInBounds_toArray, List.set_cons_zero, List.set_cons_succ]
          refine rg_take 8 (v := ?rv19) rfl (by kernel_rfl) (by kernel_rfl) (by kernel_rfl) (fun _ _ _ h => h) (by rfl) hS (fun w2 hw2 => ?ry19) ?rr19
          case ry19 => ((try dsimp only at hw2); go_simp <;> with_reducible rfl)
          simp only [Act.put, List.setIfInBounds_toArray, List.set_cons_zero, List.set_cons_succ]
          refine rg_take 9 (v := ?rv20) rfl (by kernel_rfl) (by kernel_rfl) (by kernel_rfl) (fun _ _ _ h => h) (by rfl) hS (fun w2 hw2 => ?ry20) ?rr20
          case ry20 => ((try dsimp only at hw2); go_simp <;> with_reducible rfl)
          simp only [Act.put, List.setIfInBounds_toArray, List.set_cons_zero, List.set_cons_succ]
          refine rg_step 11 rfl (by kernel_rfl) (by rfl) (fun K hK => ?_)
          refine wp_alloc_flF rfl ?_
          intro u9 F bK
          have lF := hS.size
          have neGF := Nat.ne_of_lt G.lt
          replace G := G.later bK (Nat.le_refl _)
          replace Q := Q.later bK (Nat.le_refl _)
          replace hS := hS.trans (bK.mono hS.size)
          clear bK
          refine hK.out _ _ hS ?_
          clear hK K
          try simp only [Act.put, List.setIfInBounds_toArray, List.set_cons_zero, List.set_cons_succ]
          have neGK : _ ≠ _ := neGF
          refine rg_step 12 rfl (by kernel_rfl) (by rfl) (fun K hK => ?_)
          refine wp_store_dgF (.tmp 15) (.tmp 63) rfl h2 Ap np cp rfl rfl G ?_
          intro ux G2 far keep
          have Q2 := Q.farDg G far
          have F2 := F.same (far _ neGK.symm)
          replace hS := keep _ _ lG hS
          clear G Q F far keep
          refine hK.out _ _ hS ?_
          clear hK K
          simp only [Act.put]
          refine rg_step 13 rfl (by kernel_rfl) (by rfl) (fun K hK => ?_)
          refine wp_store_flF (.tmp 16) (.tmp 64) rfl ec ea ep rfl rfl F2 ?_
          intro uy F3 far keep
          have G3 := G2.same (far _ neGK)
          have Q3 := Q2.farFl F2 far
          replace hS := keep _ _ lF hS
          clear G2 Q2 F2 far keep
          refine hK.out _ _ hS ?_
          clear hK K
          simp only [Act.put]
          refine rg_done (by kernel_rfl) ?_
          go_wp2_with fail
          go_meet
          exact ⟨_, _, Ap, np, cp, rfl, rfl, G3, Q3, F3, hS⟩
        refine rg_or 11 rfl (by rfl) (fun K hK => ?_) ?_
        · refine wp_alloc_flF rfl ?_
          intro u10 F bK
          have lF := hS.size
          have neGF := Nat.ne_of_lt G.lt
          replace M := M.later bK (Nat.le_refl _)
          replace G := G.later bK (Nat.le_refl _)
          replace hS := hS.trans (bK.mono hS.size)
          clear bK
          refine hK.out _ _ hS ?_
          clear hK K
          try simp only [Act.put, List.setIfInBounds_toArray, List.set_cons_zero, List.set_cons_succ]
          refine rg_step 6 rfl (by kernel_rfl) (by rfl) (fun K hK => ?_)
          go_simp
          refine (K6.out _ _ _ M hn2).mono ?_
          rintro e u11 ⟨Ap, np, cp, rfl, Q, bK⟩
          replace M := M.later bK (Nat.le_refl _)
          replace G := G.later bK (Nat.le_refl _)
          replace F := F.later bK (Nat.le_refl _)
          replace hS := hS.trans (bK.mono hS.size)
          clear bK
          clear M
          refine hK.out _ _ hS ?_
          clear hK K
          try simp only [Act.put, List.setIfInBounds_toArray, List.set_cons_zero, List.set_cons_succ]
          refine rg_take 7 (v := ?rv21) rfl (by kernel_rfl) (by kernel_rfl) (by kernel_rfl) (fun _ _ _ h => h) (by rfl) hS (fun w2 hw2 => ?ry21) ?rr21
          case ry21 => ((try dsimp only at hw2); go_simp <;> with_reducible rfl)
          simp only [Act.put, List.setIfInBounds_toArray, List.set_cons_zero, List.set_cons_succ]
          refine rg_take 8 (v := ?rv22) rfl (by kernel_rfl) (by kernel_rfl) (by kernel_rfl) (fun _ _ _ h => h) (by rfl) hS (fun w2 hw2 => ?ry22) ?rr22
          case ry22 => ((try dsimp only at hw2); go_simp <;> with_reducible rfl)
          simp only [Act.put, List.setIfInBounds_toArray, List.set_cons_zero, List.set_cons_succ]
          refine rg_take 9 (v := ?rv23) rfl (by kernel_rfl) (by kernel_rfl) (by kernel_rfl) (fun _ _ _ h => h) (by rfl) hS (fun w2 hw2 => ?ry23) ?rr23
          case ry23 => ((try dsimp only at hw2); go_simp <;> with_reducible rfl)
          simp only [Act.put, List.setIfInBounds_toArray, List.set_cons_zero, List.set_cons_succ]
          have neGK : _ ≠ _ := neGF
          refine rg_step 12 rfl (by kernel_rfl) (by rfl) (fun K hK => ?_)
          refine wp_store_dgF (.tmp 15) (.tmp 63) rfl h2 Ap np cp rfl rfl G ?_
          intro ux G2 far keep
          have Q2 := Q.farDg G far
          have F2 := F.same (far _ neGK.symm)
          replace hS := keep _ _ lG hS
          clear G Q F far keep
          refine hK.out _ _ hS ?_
          clear hK K
          simp only [Act.put]
          refine rg_step 13 rfl (by kernel_rfl) (by rfl) (fun K hK => ?_)
          refine wp_store_flF (.tmp 16) (.tmp 64) rfl ec ea ep rfl rfl F2 ?_
          intro uy F3 far keep
          have G3 := G2.same (far _ neGK)
          have Q3 := Q2.farFl F2 far
          replace hS := keep _ _ lF hS
          clear G2 Q2 F2 far keep
          refine hK.out _ _ hS ?_
          clear hK K
          simp only [Act.put]
          refine rg_done (by kernel_rfl) ?_
          go_wp2_with fail
          go_meet
          exact ⟨_, _, Ap, np, cp, rfl, rfl, G3, Q3, F3, hS⟩
        exact AllReadyH.nil
      refine rg_or 11 rfl (by rfl) (fun K hK => ?_) ?_
      · refine wp_alloc_flF rfl ?_
        intro u12 F bK
        have lF := hS.size
        replace M := M.later bK (Nat.le_refl _)
        replace hS := hS.trans (bK.mono hS.size)
        clear bK
        refine hK.out _ _ hS ?_
        clear hK K
        try simp only [Act.put, List.setIfInBounds_toArray, List.set_cons_zero, List.set_cons_succ]
        refine rg_any [6, 10] (by kernel_rfl) (by simp) ?_
        refine rg_or 6 rfl (by rfl) (fun K hK => ?_) ?_
        · go_simp
          refine (K6.out _ _ _ M hn2).mono ?_
          rintro e u13 ⟨Ap, np, cp, rfl, Q, bK⟩
          replace M := M.later bK (Nat.le_refl _)
          replace F := F.later bK (Nat.le_refl _)
          replace hS := hS.trans (bK.mono hS.size)
          clear bK
          clear M
          refine hK.out _ _ hS ?_
          clear hK K
          try simp only [Act.put, List.setIfInBounds_toArray, List.set_cons_zero, List.set_cons_succ]
          refine rg_take 7 (v := ?rv24) rfl (by kernel_rfl) (by kernel_rfl) (by kernel_rfl) (fun _ _ _ h => h) (by rfl) hS (fun w2 hw2 => ?ry24) ?rr24
          case ry24 => ((try dsimp only at hw2); go_simp <;> with_reducible rfl)
          simp only [Act.put, List.setIfInBounds_toArray, List.set_cons_zero, List.set_cons_succ]
          refine rg_take 8 (v := ?rv25) rfl (by kernel_rfl) (by kernel_rfl) (by kernel_rfl) (fun _ _ _ h => h) (by rfl) hS (fun w2 hw2 => ?ry25) ?rr25
          case ry25 => ((try dsimp only at hw2); go_simp <;> with_reducible rfl)
          simp only [Act.put, List.setIfInBounds_toArray, List.set_cons_zero, List.set_cons_succ]
          refine rg_take 9 (v := ?rv26) rfl (by kernel_rfl) (by kernel_rfl) (by kernel_rfl) (fun _ _ _ h => h) (by rfl) hS (fun w2 hw2 => ?ry26) ?rr26
          case ry26 => ((try dsimp only at hw2); go_simp <;> with_reducible rfl)
          simp only [Act.put, List.setIfInBounds_toArray, List.set_cons_zero, List.set_cons_succ]
          refine rg_step 10 rfl (by kernel_rfl) (by rfl) (fun K hK => ?_)
          refine wp_alloc_dgF rfl ?_
          intro u14 G bK
          have lG := hS.size
          have neFG := Nat.ne_of_lt F.lt
          replace F := F.later bK (Nat.le_refl _)
          replace Q := Q.later bK (Nat.le_refl _)
          replace hS := hS.trans (bK.mono hS.size)
          clear bK
          refine hK.out _ _ hS ?_
          clear hK K
          try simp only [Act.put, List.setIfInBounds_toArray, List.set_cons_zero, List.set_cons_succ]
          have neGK : _ ≠ _ := neFG.symm
          refine rg_step 12 rfl (by kernel_rfl) (by rfl) (fun K hK => ?_)
          refine wp_store_dgF (.tmp 15) (.tmp 63) rfl h2 Ap np cp rfl rfl G ?_
          intro ux G2 far keep
          have Q2 := Q.farDg G far
          have F2 := F.same (far _ neGK.symm)
          replace hS := keep _ _ lG hS
          clear G Q F far keep
          refine hK.out _ _ hS ?_
          clear hK K
          simp only [Act.put]
          refine rg_step 13 rfl (by kernel_rfl) (by rfl) (fun K hK => ?_)
          refine wp_store_flF (.tmp 16) (.tmp 64) rfl ec ea ep rfl rfl F2 ?_
          intro uy F3 far keep
          have G3 := G2.same (far _ neGK)
          have Q3 := Q2.farFl F2 far
          replace hS := keep _ _ lF hS
          clear G2 Q2 F2 far keep
          refine hK.out _ _ hS ?_
          clear hK K
          simp only [Act.put]
          refine rg_done (by kernel_rfl) ?_
          go_wp2_with fail
          go_meet
          exact ⟨_, _, Ap, np, cp, rfl, rfl, G3, Q3, F3, hS⟩
        refine rg_or 10 rfl (by rfl) (fun K hK => ?_) ?_
        · refine wp_alloc_dgF rfl ?_
          intro u15 G bK
          have lG := hS.size
          have neFG := Nat.ne_of_lt F.lt
          replace M := M.later bK (Nat.le_refl _)
          replace F := F.later bK (Nat.le_refl _)
          replace hS := hS.trans (bK.mono hS.size)
          clear bK
          refine hK.out _ _ hS ?_
          clear hK K
          try simp only [Act.put, List.setIfInBounds_toArray, List.set_cons_zero, List.set_cons_succ]
          refine rg_step 6 rfl (by kernel_rfl) (by rfl) (fun K hK => ?_)
          go_simp
          refine (K6.out _ _ _ M hn2).mono ?_
          rintro e u16 ⟨Ap, np, cp, rfl, Q, bK⟩
          replace M := M.later bK (Nat.le_refl _)
          replace F := F.later bK (Nat.le_refl _)
          replace G := G.later bK (Nat.le_refl _)
          replace hS := hS.trans (bK.mono hS.size)
          clear bK
          clear M
          refine hK.out _ _ hS ?_
          clear hK K
          try simp only [Act.put, List.setIfInBounds_toArray, List.set_cons_zero, List.set_cons_succ]
          refine rg_take 7 (v := ?rv27) rfl (by kernel_rfl) (by kernel_rfl) (by kernel_rfl) (fun _ _ _ h => h) (by rfl) hS (fun w2 hw2 => ?ry27) ?rr27
          case ry27 => ((try dsimp only at hw2); go_simp <;> with_reducible rfl)
          simp only [Act.put, List.setIfInBounds_toArray, List.set_cons_zero, List.set_cons_succ]
          refine rg_take 8 (v := ?rv28) rfl (by kernel_rfl) (by kernel_rfl) (by kernel_rfl) (fun _ _ _ h => h) (by rfl) hS (fun w2 hw2 => ?ry28) ?rr28
          case ry28 => ((try dsimp only at hw2); go_simp <;> with_reducible rfl)
          simp only [Act.put, List.setIfInBounds_toArray, List.set_cons_zero, List.set_cons_succ]
          refine rg_take 9 (v := ?rv29) rfl (by kernel_rfl) (by kernel_rfl) (by kernel_rfl) (fun _ _ _ h => h) (by rfl) hS (fun w2 hw2 => ?ry29) ?rr29
          case ry29 => ((try dsimp only at hw2); go_simp <;> with_reducible rfl)
          simp only [Act.put, List.setIfInBounds_toArray, List.set_cons_zero, List.set_cons_succ]
          have neGK : _ ≠ _ := neFG.symm
          refine rg_step 12 rfl (by kernel_rfl) (by rfl) (fun K hK => ?_)
          refine wp_store_dgF (.tmp 15) (.tmp 63) rfl h2 Ap np cp rfl rfl G ?_
          intro ux G2 far keep
          have Q2 := Q.farDg G far
          have F2 := F.same (far _ neGK.symm)
          replace hS := keep _ _ lG hS
          clear G Q F far keep
          refine hK.out _ _ hS ?_
          clear hK K
          simp only [Act.put]
          refine rg_step 13 rfl (by kernel_rfl) (by rfl) (fun K hK => ?_)
          refine wp_store_flF (.tmp 16) (.tmp 64) rfl ec ea ep rfl rfl F2 ?_
          intro uy F3 far keep
          have G3 := G2.same (far _ neGK)
          have Q3 := Q2.farFl F2 far
          replace hS := keep _ _ lF hS
          clear G2 Q2 F2 far keep
          refine hK.out _ _ hS ?_
          clear hK K
          simp only [Act.put]
          refine rg_done (by kernel_rfl) ?_
          go_wp2_with fail
          go_meet
          exact ⟨_, _, Ap, np, cp, rfl, rfl, G3, Q3, F3, hS⟩
        exact AllReadyH.nil
      exact AllReadyH.nil
    refine rg_or 10 rfl (by rfl) (fun K hK => ?_) ?_
    · refine wp_alloc_dgF rfl ?_
      intro u17 G bK
      have lG := hS.size
      replace hS := hS.trans (bK.mono hS.size)
      clear bK
      refine hK.out _ _ hS ?_
      clear hK K
      try simp only [Act.put, List.setIfInBounds_toArray, List.set_cons_zero, List.set_cons_succ]
      refine rg_any [3, 11] (by kernel_rfl) (by simp) ?_
      refine rg_or 3 rfl (by rfl) (fun K hK => ?_) ?_
      · go_simp
        refine (KM.out _ (H10.out.2.2.2.2.2.2.2.2.2.2.2.2.trans (hS.mono H10.out.2.2.2.2.2.2.2.2.2.2.2.2.size)) hn2).mono ?_
        rintro e u18 ⟨Am, cm, rfl, M, bK⟩
        replace G := G.later bK (Nat.le_refl _)
        replace hS := hS.trans (bK.mono hS.size)
        clear bK
        refine hK.out _ _ hS ?_
        clear hK K
        try simp only [Act.put, List.setIfInBounds_toArray, List.set_cons_zero, List.set_cons_succ]
        refine rg_any [6, 11] (by kernel_rfl) (by simp) ?_
        refine rg_or 6 rfl (by rfl) (fun K hK => ?_) ?_
        · go_simp
          refine (K6.out _ _ _ M hn2).mono ?_
          rintro e u19 ⟨Ap, np, cp, rfl, Q, bK⟩
          replace G := G.later bK (Nat.le_refl _)
          replace M := M.later bK (Nat.le_refl _)
          replace hS := hS.trans (bK.mono hS.size)
          clear bK
          clear M
          refine hK.out _ _ hS ?_
          clear hK K
          try simp only [Act.put, List.setIfInBounds_toArray, List.set_cons_zero, List.set_cons_succ]
          refine rg_take 7 (v := ?rv30) rfl (by kernel_rfl) (by kernel_rfl) (by kernel_rfl) (fun _ _ _ h => h) (by rfl) hS (fun w2 hw2 => ?ry30) ?rr30
          case ry30 => ((try dsimp only at hw2); go_simp <;> with_reducible rfl)
          simp only [Act.put, List.setIfInBounds_toArray, List.set_cons_zero, List.set_cons_succ]
          refine rg_take 8 (v := ?rv31) rfl (by kernel_rfl) (by kernel_rfl) (by kernel_rfl) (fun _ _ _ h => h) (by rfl) hS (fun w2 hw2 => ?ry31) ?rr31
          case ry31 => ((try dsimp only at hw2); go_simp <;> with_reducible rfl)
          simp only [Act.put, List.setIfInBounds_toArray, List.set_cons_zero, List.set_cons_succ]
          refine rg_take 9 (v := ?rv32) rfl (by kernel_rfl) (by kernel_rfl) (by kernel_rfl) (fun _ _ _ h => h) (by rfl) hS (fun w2 hw2 => ?ry32) ?rr32
          case ry32 => ((try dsimp only at hw2); go_simp <;> with_reducible rfl)
          simp only [Act.put, List.setIfInBounds_toArray, List.set_cons_zero, List.set_cons_succ]
          refine rg_step 11 rfl (by kernel_rfl) (by rfl) (fun K hK => ?_)
          refine wp_alloc_flF rfl ?_
          intro u20 F bK
          have lF := hS.size
          have neGF := Nat.ne_of_lt G.lt
          replace G := G.later bK (Nat.le_refl _)
          replace Q := Q.later bK (Nat.le_refl _)
          replace hS := hS.trans (bK.mono hS.size)
          clear bK
          refine hK.out _ _ hS ?_
          clear hK K
          try simp only [Act.put, List.setIfInBounds_toArray, List.set_cons_zero, List.set_cons_succ]
          have neGK : _ ≠ _ := neGF
          refine rg_step 12 rfl (by kernel_rfl) (by rfl) (fun K hK => ?_)
          refine wp_store_dgF (.tmp 15) (.tmp 63) rfl h2 Ap np cp rfl rfl G ?_
          intro ux G2 far keep
          have Q2 := Q.farDg G far
          have F2 := F.same (far _ neGK.symm)
          replace hS := keep _ _ lG hS
          clear G Q F far keep
          refine hK.out _ _ hS ?_
          clear hK K
          simp only [Act.put]
          refine rg_step 13 rfl (by kernel_rfl) (by rfl) (fun K hK => ?_)
          refine wp_store_flF (.tmp 16) (.tmp 64) rfl ec ea ep rfl rfl F2 ?_
          intro uy F3 far keep
          have G3 := G2.same (far _ neGK)
          have Q3 := Q2.farFl F2 far
          replace hS := keep _ _ lF hS
          clear G2 Q2 F2 far keep
          refine hK.out _ _ hS ?_
          clear hK K
          simp only [Act.put]
          refine rg_done (by kernel_rfl) ?_
          go_wp2_with fail
          go_meet
          exact ⟨_, _, Ap, np, cp, rfl, rfl, G3, Q3, F3, hS⟩
        refine rg_or 11 rfl (by rfl) (fun K hK => ?_) ?_
        · refine wp_alloc_flF rfl ?_
          intro u21 F bK
          have lF := hS.size
          have neGF := Nat.ne_of_lt G.lt
          replace G := G.later bK (Nat.le_refl _)
          replace M := M.later bK (Nat.le_refl _)
          replace hS := hS.trans (bK.mono hS.size)
          clear bK
          refine hK.out _ _ hS ?_
          clear hK K
          try simp only [Act.put, List.setIfInBounds_toArray, List.set_cons_zero, List.set_cons_succ]
          refine rg_step 6 rfl (by kernel_rfl) (by rfl) (fun K hK => ?_)
          go_simp
          refine (K6.out _ _ _ M hn2).mono ?_
          rintro e u22 ⟨Ap, np, cp, rfl, Q, bK⟩
          replace G := G.later bK (Nat.le_refl _)
          replace M := M.later bK (Nat.le_refl _)
          replace F := F.later bK (Nat.le_refl _)
          replace hS := hS.trans (bK.mono hS.size)
          clear bK
          clear M
          refine hK.out _ _ hS ?_
          clear hK K
          try simp only [Act.put, List.setIfInBounds_toArray, List.set_cons_zero, List.set_cons_succ]
          refine rg_take 7 (v := ?rv33) rfl (by kernel_rfl) (by kernel_rfl) (by kernel_rfl) (fun _ _ _ h => h) (by rfl) hS (fun w2 hw2 => ?ry33) ?rr33
          case ry33 => ((try dsimp only at hw2); go_simp <;> with_reducible rfl)
          simp only [Act.put, List.setIfInBounds_toArray, List.set_cons_zero, List.set_cons_succ]
          refine rg_take 8 (v := ?rv34) rfl (by kernel_rfl) (by kernel_rfl) (by kernel_rfl) (fun _ _ _ h => h) (by rfl) hS (fun w2 hw2 => ?ry34) ?rr34
          case ry34 => ((try dsimp only at hw2); go_simp <;> with_reducible rfl)
          simp only [Act.put, List.setIfInBounds_toArray, List.set_cons_zero, List.set_cons_succ]
          refine rg_take 9 (v := ?rv35) rfl (by kernel_rfl) (by kernel_rfl) (by kernel_rfl) (fun _ _ _ h => h) (by rfl) hS (fun w2 hw2 => ?ry35) ?rr35
          case ry35 => ((try dsimp only at hw2); go_simp <;> with_reducible rfl)
          simp only [Act.put, List.setIfInBounds_toArray, List.set_cons_zero, List.set_cons_succ]
          have neGK : _ ≠ _ := neGF
          refine rg_step 12 rfl (by kernel_rfl) (by rfl) (fun K hK => ?_)
          refine wp_store_dgF (.tmp 15) (.tmp 63) rfl h2 Ap np cp rfl rfl G ?_
          intro ux G2 far keep
          have Q2 := Q.farDg G far
          have F2 := F.same (far _ neGK.symm)
          replace hS := keep _ _ lG hS
          clear G Q F far keep
          refine hK.out _ _ hS ?_
          clear hK K
          simp only [Act.put]
          refine rg_step 13 rfl (by kernel_rfl) (by rfl) (fun K hK => ?_)
          refine wp_store_flF (.tmp 16) (.tmp 64) rfl ec ea ep rfl rfl F2 ?_
          intro uy F3 far keep
          have G3 := G2.same (far _ neGK)
          have Q3 := Q2.farFl F2 far
          replace hS := keep _ _ lF hS
          clear G2 Q2 F2 far keep
          refine hK.out _ _ hS ?_
          clear hK K
          simp only [Act.put]
          refine rg_done (by kernel_rfl) ?_
          go_wp2_with fail
          go_meet
          exact ⟨_, _, Ap, np, cp, rfl, rfl, G3, Q3, F3, hS⟩
        exact AllReadyH.nil
      refine rg_or 11 rfl (by rfl) (fun K hK => ?_) ?_
      · refine wp_alloc_flF rfl ?_
        intro u23 F bK
        have lF := hS.size
        have neGF := Nat.ne_of_lt G.lt
        replace G := G.later bK (Nat.le_refl _)
        replace hS := hS.trans (bK.mono hS.size)
        clear bK
        refine hK.out _ _ hS ?_
        clear hK K
        try simp only [Act.put, List.setIfInBounds_toArray, List.set_cons_zero, List.set_cons_succ]
        refine rg_step 3 rfl (by kernel_rfl) (by rfl) (fun K hK => ?_)
        go_simp
        refine (KM.out _ (H10.out.2.2.2.2.2.2.2.2.2.2.2.2.trans (hS.mono H10.out.2.2.2.2.2.2.2.2.2.2.2.2.size)) hn2).mono ?_
        rintro e u24 ⟨Am, cm, rfl, M, bK⟩
        replace G := G.later bK (Nat.le_refl _)
        replace F := F.later bK (Nat.le_refl _)
        replace hS := hS.trans (bK.mono hS.size)
        clear bK
        refine hK.out _ _ hS ?_
        clear hK K
        try simp only [Act.put, List.setIfInBounds_toArray, List.set_cons_zero, List.set_cons_succ]
        refine rg_step 6 rfl (by kernel_rfl) (by rfl) (fun K hK => ?_)
        go_simp
        refine (K6.out _ _ _ M hn2).mono ?_
        rintro e u25 ⟨Ap, np, cp, rfl, Q, bK⟩
        replace G := G.later bK (Nat.le_refl _)
        replace F := F.later bK (Nat.le_refl _)
        replace M := M.later bK (Nat.le_refl _)
        replace hS := hS.trans (bK.mono hS.size)
        clear bK
        clear M
        refine hK.out _ _ hS ?_
        clear hK K
        try simp only [Act.put, List.setIfInBounds_toArray, List.set_cons_zero, List.set_cons_succ]
        refine rg_take 7 (v := ?rv36) rfl (by kernel_rfl) (by kernel_rfl) (by kernel_rfl) (fun _ _ _ h => h) (by rfl) hS (fun w2 hw2 => ?ry36) ?rr36
        case ry36 => ((try dsimp only at hw2); go_simp <;> with_reducible rfl)
        simp only [Act.put, List.setIfInBounds_toArray, List.set_cons_zero, List.set_cons_succ]
        refine rg_take 8 (v := ?rv37) rfl (by kernel_rfl) (by kernel_rfl) (by kernel_rfl) (fun _ _ _ h => h) (by rfl) hS (fun w2 hw2 => ?ry37) ?rr37
        case ry37 => ((try dsimp only at hw2); go_simp <;> with_reducible rfl)
        simp only [Act.put, List.setIfInBounds_toArray, List.set_cons_zero, List.set_cons_succ]
        refine rg_take 9 (v := ?rv38) rfl (by kernel_rfl) (by kernel_rfl) (by kernel_rfl) (fun _ _ _ h => h) (by rfl) hS (fun w2 hw2 => ?ry38) ?rr38
        case ry38 => ((try dsimp only at hw2); go_simp <;> with_reducible rfl)
        simp only [Act.put, List.setIfInBounds_toArray, List.set_cons_zero, List.set_cons_succ]
        have neGK : _ ≠ _ := neGF
        refine rg_step 12 rfl (by kernel_rfl) (by rfl) (fun K hK => ?_)
        refine wp_store_dgF (.tmp 15) (.tmp 63) rfl h2 Ap np cp rfl rfl G ?_
        intro ux G2 far keep
        have Q2 := Q.farDg G far
        have F2 := F.same (far _ neGK.symm)
        replace hS := keep _ _ lG hS
        clear G Q F far keep
        refine hK.out _ _ hS ?_
        clear hK K
        simp only [Act.put]
        refine rg_step 13 rfl (by kernel_rfl) (by rfl) (fun K hK => ?_)
        refine wp_store_flF (.tmp 16) (.tmp 64) rfl ec ea ep rfl rfl F2 ?_
        intro uy F3 far keep
        have G3 := G2.same (far _ neGK)
        have Q3 := Q2.farFl F2 far
        replace hS := keep _ _ lF hS
        clear G2 Q2 F2 far keep
        refine hK.out _ _ hS ?_
        clear hK K
        simp only [Act.put]
        refine rg_done (by kernel_rfl) ?_
        go_wp2_with fail
        go_meet
        exact ⟨_, _, Ap, np, cp, rfl, rfl, G3, Q3, F3, hS⟩
      exact AllReadyH.nil
    refine rg_or 11 rfl (by rfl) (fun K hK => ?_) ?_
    · refine wp_alloc_flF rfl ?_
      intro u26 F bK
      have lF := hS.size
      replace hS := hS.trans (bK.mono hS.size)
      clear bK
      refine hK.out _ _ hS ?_
      clear hK K
      try simp only [Act.put, List.setIfInBounds_toArray, List.set_cons_zero, List.set_cons_succ]
      refine rg_any [3, 10] (by kernel_rfl) (by simp) ?_
      refine rg_or 3 rfl (by rfl) (fun K hK => ?_) ?_
      · go_simp
        refine (KM.out _ (H10.out.2.2.2.2.2.2.2.2.2.2.2.2.trans (hS.mono H10.out.2.2.2.2.2.2.2.2.2.2.2.2.size)) hn2).mono ?_
        rintro e u27 ⟨Am, cm, rfl, M, bK⟩
        replace F := F.later bK (Nat.le_refl _)
        replace hS := hS.trans (bK.mono hS.size)
        clear bK
        refine hK.out _ _ hS ?_
        clear hK K
        try simp only [Act.put, List.setIfInBounds_toArray, List.set_cons_zero, List.set_cons_succ]
        refine rg_any [6, 10] (by kernel_rfl) (by simp) ?_
        refine rg_or 6 rfl (by rfl) (fun K hK => ?_) ?_
        · go_simp
          refine (K6.out _ _ _ M hn2).mono ?_
          rintro e u28 ⟨Ap, np, cp, rfl, Q, bK⟩
          replace F := F.later bK (Nat.le_refl _)
          replace M := M.later bK (Nat.le_refl _)
          replace hS := hS.trans (bK.mono hS.size)
          clear bK
          clear M
          refine hK.out _ _ hS ?_
          clear hK K
          try simp only [Act.put, List.setIfInBounds_toArray, List.set_cons_zero, List.set_cons_succ]
          refine rg_take 7 (v := ?rv39) rfl (by kernel_rfl) (by kernel_rfl) (by kernel_rfl) (fun _ _ _ h => h) (by rfl) hS (fun w2 hw2 => ?ry39) ?rr39
          case ry39 => ((try dsimp only at hw2); go_simp <;> with_reducible rfl)
          simp only [Act.put, List.setIfInBounds_toArray, List.set_cons_zero, List.set_cons_succ]
          refine rg_take 8 (v := ?rv40) rfl (by kernel_rfl) (by kernel_rfl) (by kernel_rfl) (fun _ _ _ h => h) (by rfl) hS (fun w2 hw2 => ?ry40) ?rr40
          case ry40 => ((try dsimp only at hw2); go_simp <;> with_reducible rfl)
          simp only [Act.put, List.setIfInBounds_toArray, List.set_cons_zero, List.set_cons_succ]
          refine rg_take 9 (v := ?rv41) rfl (by kernel_rfl) (by kernel_rfl) (by kernel_rfl) (fun _ _ _ h => h) (by rfl) hS (fun w2 hw2 => ?ry41) ?rr41
          case ry41 => ((try dsimp only at hw2); go_simp <;> with_reducible rfl)
          simp only [Act.put, List.setIfInBounds_toArray, List.set_cons_zero, List.set_cons_succ]
          refine rg_step 10 rfl (by kernel_rfl) (by rfl) (fun K hK => ?_)
          refine wp_alloc_dgF rfl ?_
          intro u29 G bK
          have lG := hS.size
          have neFG := Nat.ne_of_lt F.lt
          replace F := F.later bK (Nat.le_refl _)
          replace Q := Q.later bK (Nat.le_refl _)
          replace hS := hS.trans (bK.mono hS.size)
          clear bK
          refine hK.out _ _ hS ?_
          clear hK K
          try simp only [Act.put, List.setIfInBounds_toArray, List.set_cons_zero, List.set_cons_succ]
          have neGK : _ ≠ _ := neFG.symm
          refine rg_step 12 rfl (by kernel_rfl) (by rfl) (fun K hK => ?_)
          refine wp_store_dgF (.tmp 15) (.tmp 63) rfl h2 Ap np cp rfl rfl G ?_
          intro ux G2 far keep
          have Q2 := Q.farDg G far
          have F2 := F.same (far _ neGK.symm)
          replace hS := keep _ _ lG hS
          clear G Q F far keep
          refine hK.out _ _ hS ?_
          clear hK K
          simp only [Act.put]
          refine rg_step 13 rfl (by kernel_rfl) (by rfl) (fun K hK => ?_)
          refine wp_store_flF (.tmp 16) (.tmp 64) rfl ec ea ep rfl rfl F2 ?_
          intro uy F3 far keep
          have G3 := G2.same (far _ neGK)
          have Q3 := Q2.farFl F2 far
          replace hS := keep _ _ lF hS
          clear G2 Q2 F2 far keep
          refine hK.out _ _ hS ?_
          clear hK K
          simp only [Act.put]
          refine rg_done (by kernel_rfl) ?_
          go_wp2_with fail
          go_meet
          exact ⟨_, _, Ap, np, cp, rfl, rfl, G3, Q3, F3, hS⟩
        refine rg_or 10 rfl (by rfl) (fun K hK => ?_) ?_
        · refine wp_alloc_dgF rfl ?_
          intro u30 G bK
          have lG := hS.size
          have neFG := Nat.ne_of_lt F.lt
          replace F := F.later bK (Nat.le_refl _)
          replace M := M.later bK (Nat.le_refl _)
          replace hS := hS.trans (bK.mono hS.size)
          clear bK
          refine hK.out _ _ hS ?_
          clear hK K
          try simp only [Act.put, List.setIfInBounds_toArray, List.set_cons_zero, List.set_cons_succ]
          refine rg_step 6 rfl (by kernel_rfl) (by rfl) (fun K hK => ?_)
          go_simp
          refine (K6.out _ _ _ M hn2).mono ?_
          rintro e u31 ⟨Ap, np, cp, rfl, Q, bK⟩
          replace F := F.later bK (Nat.le_refl _)
          replace M := M.later bK (Nat.le_refl _)
          replace G := G.later bK (Nat.le_refl _)
          replace hS := hS.trans (bK.mono hS.size)
          clear bK
          clear M
          refine hK.out _ _ hS ?_
          clear hK K
          try simp only [Act.put, List.setIfInBounds_toArray, List.set_cons_zero, List.set_cons_succ]
          refine rg_take 7 (v := ?rv42) rfl (by kernel_rfl) (by kernel_rfl) (by kernel_rfl) (fun _ _ _ h => h) (by rfl) hS (fun w2 hw2 => ?ry42) ?rr42
          case ry42 => ((try dsimp only at hw2); go_simp <;> with_reducible rfl)
          simp only [Act.put, List.setIfInBounds_toArray, List.set_cons_zero, List.set_cons_succ]
          refine rg_take 8 (v := ?rv43) rfl (by kernel_rfl) (by kernel_rfl) (by kernel_rfl) (fun _ _ _ h => h) (by rfl) hS (fun w2 hw2 => ?ry43) ?rr43
          case ry43 => ((try dsimp only at hw2); go_simp <;> with_reducible rfl)
          simp only [Act.put, List.setIfInBounds_toArray, List.set_cons_zero, List.set_cons_succ]
          refine rg_take 9 (v := ?rv44) rfl (by kernel_rfl) (by kernel_rfl) (by kernel_rfl) (fun _ _ _ h => h) (by rfl) hS (fun w2 hw2 => ?ry44) ?rr44
          case ry44 => ((try dsimp only at hw2); go_simp <;> with_reducible rfl)
          simp only [Act.put, List.setIfInBounds_toArray, List.set_cons_zero, List.set_cons_succ]
          have neGK : _ ≠ _ := neFG.symm
          refine rg_step 12 rfl (by kernel_rfl) (by rfl) (fun K hK => ?_)
          refine wp_store_dgF (.tmp 15) (.tmp 63) rfl h2 Ap np cp rfl rfl G ?_
          intro ux G2 far keep
          have Q2 := Q.farDg G far
          have F2 := F.same (far _ neGK.symm)
          replace hS := keep _ _ lG hS
          clear G Q F far keep
          refine hK.out _ _ hS ?_
          clear hK K
          simp only [Act.put]
          refine rg_step 13 rfl (by kernel_rfl) (by rfl) (fun K hK => ?_)
          refine wp_store_flF (.tmp 16) (.tmp 64) rfl ec ea ep rfl rfl F2 ?_
          intro uy F3 far keep
          have G3 := G2.same (far _ neGK)
          have Q3 := Q2.farFl F2 far
          replace hS := keep _ _ lF hS
          clear G2 Q2 F2 far keep
          refine hK.out _ _ hS ?_
          clear hK K
          simp only [Act.put]
          refine rg_done (by kernel_rfl) ?_
          go_wp2_with fail
          go_meet
          exact ⟨_, _, Ap, np, cp, rfl, rfl, G3, Q3, F3, hS⟩
        exact AllReadyH.nil
      refine rg_or 10 rfl (by rfl) (fun K hK => ?_) ?_
      · refine wp_alloc_dgF rfl ?_
        intro u32 G bK
        have lG := hS.size
        have neFG := Nat.ne_of_lt F.lt
        replace F := F.later bK (Nat.le_refl _)
        replace hS := hS.trans (bK.mono hS.size)
        clear bK
        refine hK.out _ _ hS ?_
        clear hK K
        try simp only [Act.put, List.setIfInBounds_toArray, List.set_cons_zero, List.set_cons_succ]
        refine rg_step 3 rfl (by kernel_rfl) (by rfl) (fun K hK => ?_)
        go_simp
        refine (KM.out _ (H10.out.2.2.2.2.2.2.2.2.2.2.2.2.trans (hS.mono H10.out.2.2.2.2.2.2.2.2.2.2.2.2.size)) hn2).mono ?_
        rintro e u33 ⟨Am, cm, rfl, M, bK⟩
        replace F := F.later bK (Nat.le_refl _)
        replace G := G.later bK (Nat.le_refl _)
        replace hS := hS.trans (bK.mono hS.size)
        clear bK
        refine hK.out _ _ hS ?_
        clear hK K
        try simp only [Act.put, List.setIfInBounds_toArray, List.set_cons_zero, List.set_cons_succ]
        refine rg_step 6 rfl (by kernel_rfl) (by rfl) (fun K hK => ?_)
        go_simp
        refine (K6.out _ _ _ M hn2).mono ?_
        rintro e u34 ⟨Ap, np, cp, rfl, Q, bK⟩
        replace F := F.later bK (Nat.le_refl _)
        replace G := G.later bK (Nat.le_refl _)
        replace M := M.later bK (Nat.le_refl _)
        replace hS := hS.trans (bK.mono hS.size)
        clear bK
        clear M
        refine hK.out _ _ hS ?_
        clear hK K
        try simp only [Act.put, List.setIfInBounds_toArray, List.set_cons_zero, List.set_cons_succ]
        refine rg_take 7 (v := ?rv45) rfl (by kernel_rfl) (by kernel_rfl) (by kernel_rfl) (fun _ _ _ h => h) (by rfl) hS (fun w2 hw2 => ?ry45) ?rr45
        case ry45 => ((try dsimp only at hw2); go_simp <;> with_reducible rfl)
        simp only [Act.put, List.setIfInBounds_toArray, List.set_cons_zero, List.set_cons_succ]
        refine rg_take 8 (v := ?rv46) rfl (by kernel_rfl) (by kernel_rfl) (by kernel_rfl) (fun _ _ _ h => h) (by rfl) hS (fun w2 hw2 => ?ry46) ?rr46
        case ry46 => ((try dsimp only at hw2); go_simp <;> with_reducible rfl)
        simp only [Act.put, List.setIfInBounds_toArray, List.set_cons_zero, List.set_cons_succ]
        refine rg_take 9 (v := ?rv47) rfl (by kernel_rfl) (by kernel_rfl) (by kernel_rfl) (fun _ _ _ h => h) (by rfl) hS (fun w2 hw2 => ?ry47) ?rr47
        case ry47 => ((try dsimp only at hw2); go_simp <;> with_reducible rfl)
        simp only [Act.put, List.setIfInBounds_toArray, List.set_cons_zero, List.set_cons_succ]
        have neGK : _ ≠ _ := neFG.symm
        refine rg_step 12 rfl (by kernel_rfl) (by rfl) (fun K hK => ?_)
        refine wp_store_dgF (.tmp 15) (.tmp 63) rfl h2 Ap np cp rfl rfl G ?_
        intro ux G2 far keep
        have Q2 := Q.farDg G far
        have F2 := F.same (far _ neGK.symm)
        replace hS := keep _ _ lG hS
        clear G Q F far keep
        refine hK.out _ _ hS ?_
        clear hK K
        simp only [Act.put]
        refine rg_step 13 rfl (by kernel_rfl) (by rfl) (fun K hK => ?_)
        refine wp_store_flF (.tmp 16) (.tmp 64) rfl ec ea ep rfl rfl F2 ?_
        intro uy F3 far keep
        have G3 := G2.same (far _ neGK)
        have Q3 := Q2.farFl F2 far
        replace hS := keep _ _ lF hS
        clear G2 Q2 F2 far keep
        refine hK.out _ _ hS ?_
        clear hK K
        simp only [Act.put]
        refine rg_done (by kernel_rfl) ?_
        go_wp2_with fail
        go_meet
        exact ⟨_, _, Ap, np, cp, rfl, rfl, G3, Q3, F3, hS⟩
      exact AllReadyH.nil
    exact AllReadyH.nil
  case rest =>
  obtain ⟨g15, g16, A6, n6, c6, rfl, rfl, x1, x2, x3, hB⟩ := hcut
  obtain ⟨W6, rfl⟩ : ∃ W6, W6 = wc := ⟨_, rfl⟩
  have H11 := Lib.hid (And.intro (H10.out.1.later hB (Nat.le_refl _)) (And.intro (H10.out.2.1.later hB (Nat.le_refl _)) (And.intro (H10.out.2.2.1.later hB (Nat.le_refl _)) (And.intro (H10.out.2.2.2.1.later hB (Nat.le_refl _)) (And.intro (H10.out.2.2.2.2.1.later hB (Nat.le_refl _)) (And.intro (H10.out.2.2.2.2.2.1.later hB (Nat.le_refl _)) (And.intro (H10.out.2.2.2.2.2.2.1.later hB (Nat.le_refl _)) (And.intro (H10.out.2.2.2.2.2.2.2.1.later hB (Nat.le_refl _)) (And.intro (H10.out.2.2.2.2.2.2.2.2.1.later hB (Nat.le_refl _)) (And.intro (H10.out.2.2.2.2.2.2.2.2.2.1.later hB (Nat.le_refl _)) (And.intro (H10.out.2.2.2.2.2.2.2.2.2.2.1.later hB (Nat.le_refl _)) (And.intro (H10.out.2.2.2.2.2.2.2.2.2.2.2.1.later hB (Nat.le_refl _)) (And.intro (x1) (And.intro (x2) (And.intro (x3) (H10.out.2.2.2.2.2.2.2.2.2.2.2.2.trans (hB.mono H10.out.2.2.2.2.2.2.2.2.2.2.2.2.size)))))))))))))))))
  clear x1 x2 x3 hB
  go_wp2_with (first
    | (refine wpList_load_dg rfl (.tmp 7) rfl rfl H11.out.2.2.1 ?_)
    | (refine wpList_load_ad rfl (.tmp 5) rfl rfl H11.out.1 ?_)
    | (refine wpList_load_ad rfl (.tmp 6) rfl rfl H11.out.2.1 ?_))
  refine (K3.out _ H11.out.2.2.2.2.2.2.2.2.2.2.2.2.2.2.2).mono ?_
  rintro e w12 ⟨A7, n7, c7, v12, rfl, q12, t12, b12⟩
  have H12 := Lib.hid (And.intro (H11.out.1.later b12 (Nat.le_refl _)) (And.intro (H11.out.2.1.later b12 (Nat.le_refl _)) (And.intro (H11.out.2.2.1.later b12 (Nat.le_refl _)) (And.intro (H11.out.2.2.2.1.later b12 (Nat.le_refl _)) (And.intro (H11.out.2.2.2.2.1.later b12 (Nat.le_refl _)) (And.intro (H11.out.2.2.2.2.2.1.later b12 (Nat.le_refl _)) (And.intro (H11.out.2.2.2.2.2.2.1.later b12 (Nat.le_refl _)) (And.intro (H11.out.2.2.2.2.2.2.2.1.later b12 (Nat.le_refl _)) (And.intro (H11.out.2.2.2.2.2.2.2.2.1.later b12 (Nat.le_refl _)) (And.intro (H11.out.2.2.2.2.2.2.2.2.2.1.later b12 (Nat.le_refl _)) (And.intro (H11.out.2.2.2.2.2.2.2.2.2.2.1.later b12 (Nat.le_refl _)) (And.intro (H11.out.2.2.2.2.2.2.2.2.2.2.2.1.later b12 (Nat.le_refl _)) (And.intro (H11.out.2.2.2.2.2.2.2.2.2.2.2.2.1.later b12 (Nat.le_refl _)) (And.intro (H11.out.2.2.2.2.2.2.2.2.2.2.2.2.2.1.later b12 (Nat.le_refl _)) (And.intro (H11.out.2.2.2.2.2.2.2.2.2.2.2.2.2.2.1.later b12 (Nat.le_refl _)) (And.intro (q12) (And.intro (t12) (H11.out.2.2.2.2.2.2.2.2.2.2.2.2.2.2.2.trans (b12.mono H11.out.2.2.2.2.2.2.2.2.2.2.2.2.2.2.2.size)))))))))))))))))))
  clear q12 t12 b12
  go_wp2_with (first
    | (refine wpList_load_dg rfl (.tmp 7) rfl rfl H12.out.2.2.1 ?_)
    | (refine wpList_load_ad rfl (.tmp 5) rfl rfl H12.out.1 ?_)
    | (refine wpList_load_ad rfl (.tmp 6) rfl rfl H12.out.2.1 ?_))
  refine (K4.out _ H12.out.2.2.2.2.2.2.2.2.2.2.2.2.2.2.2.2.2).mono ?_
  rintro e w13 ⟨A8, n8, c8, rfl, q13, b13⟩
  have H13 := Lib.hid (And.intro (H12.out.1.later b13 (Nat.le_refl _)) (And.intro (H12.out.2.1.later b13 (Nat.le_refl _)) (And.intro (H12.out.2.2.1.later b13 (Nat.le_refl _)) (And.intro (H12.out.2.2.2.1.later b13 (Nat.le_refl _)) (And.intro (H12.out.2.2.2.2.1.later b13 (Nat.le_refl _)) (And.intro (H12.out.2.2.2.2.2.1.later b13 (Nat.le_refl _)) (And.intro (H12.out.2.2.2.2.2.2.1.later b13 (Nat.le_refl _)) (And.intro (H12.out.2.2.2.2.2.2.2.1.later b13 (Nat.le_refl _)) (And.intro (H12.out.2.2.2.2.2.2.2.2.1.later b13 (Nat.le_refl _)) (And.intro (H12.out.2.2.2.2.2.2.2.2.2.1.later b13 (Nat.le_refl _)) (And.intro (H12.out.2.2.2.2.2.2.2.2.2.2.1.later b13 (Nat.le_refl _)) (And.intro (H12.out.2.2.2.2.2.2.2.2.2.2.2.1.later b13 (Nat.le_refl _)) (And.intro (H12.out.2.2.2.2.2.2.2.2.2.2.2.2.1.later b13 (Nat.le_refl _)) (And.intro (H12.out.2.2.2.2.2.2.2.2.2.2.2.2.2.1.later b13 (Nat.le_refl _)) (And.intro (H12.out.2.2.2.2.2.2.2.2.2.2.2.2.2.2.1.later b13 (Nat.le_refl _)) (And.intro (H12.out.2.2.2.2.2.2.2.2.2.2.2.2.2.2.2.1.later b13 (Nat.le_refl _)) (And.intro (H12.out.2.2.2.2.2.2.2.2.2.2.2.2.2.2.2.2.1.later b13 (Nat.le_refl _)) (And.intro (q13) (H12.out.2.2.2.2.2.2.2.2.2.2.2.2.2.2.2.2.2.trans (b13.mono H12.out.2.2.2.2.2.2.2.2.2.2.2.2.2.2.2.2.2.size))))))))))))))))))))
  clear q13 b13
  go_wp2_with (first
    | (refine wpList_alloc_fl rfl rfl ?_; intro w14 a14 b14 z14; have H14 := Lib.hid (And.intro a14 b14); clear a14 b14 z14)
    | (refine wpList_store_fl rfl (.tmp 20) (.tmp 78) rfl gc ga gp rfl rfl H14.out.1 ?_; intro w15 a15 o15 z15 b15; have bb := b15 _ _ (Nat.le_refl _) H14.out.2; have H15 := Lib.hid (And.intro (H13.out.1.later bb (Nat.le_refl _)) (And.intro (H13.out.2.1.later bb (Nat.le_refl _)) (And.intro (H13.out.2.2.1.later bb (Nat.le_refl _)) (And.intro (H13.out.2.2.2.1.later bb (Nat.le_refl _)) (And.intro (H13.out.2.2.2.2.1.later bb (Nat.le_refl _)) (And.intro (H13.out.2.2.2.2.2.1.later bb (Nat.le_refl _)) (And.intro (H13.out.2.2.2.2.2.2.1.later bb (Nat.le_refl _)) (And.intro (H13.out.2.2.2.2.2.2.2.1.later bb (Nat.le_refl _)) (And.intro (H13.out.2.2.2.2.2.2.2.2.1.later bb (Nat.le_refl _)) (And.intro (H13.out.2.2.2.2.2.2.2.2.2.1.later bb (Nat.le_refl _)) (And.intro (H13.out.2.2.2.2.2.2.2.2.2.2.1.later bb (Nat.le_refl _)) (And.intro (H13.out.2.2.2.2.2.2.2.2.2.2.2.1.later bb (Nat.le_refl _)) (And.intro (H13.out.2.2.2.2.2.2.2.2.2.2.2.2.1.later bb (Nat.le_refl _)) (And.intro (H13.out.2.2.2.2.2.2.2.2.2.2.2.2.2.1.later bb (Nat.le_refl _)) (And.intro (H13.out.2.2.2.2.2.2.2.2.2.2.2.2.2.2.1.later bb (Nat.le_refl _)) (And.intro (H13.out.2.2.2.2.2.2.2.2.2.2.2.2.2.2.2.1.later bb (Nat.le_refl _)) (And.intro (H13.out.2.2.2.2.2.2.2.2.2.2.2.2.2.2.2.2.1.later bb (Nat.le_refl _)) (And.intro (H13.out.2.2.2.2.2.2.2.2.2.2.2.2.2.2.2.2.2.1.later bb (Nat.le_refl _)) (And.intro (a15) (H13.out.2.2.2.2.2.2.2.2.2.2.2.2.2.2.2.2.2.2.trans (bb.mono H13.out.2.2.2.2.2.2.2.2.2.2.2.2.2.2.2.2.2.2.size))))))))))))))))))))); clear a15 o15 z15 b15 bb))
  refine (awake09 _).mono ?_
  rintro e w16 ⟨rfl, b16⟩
  have H16 := Lib.hid (And.intro (H15.out.1.later b16 (Nat.le_refl _)) (And.intro (H15.out.2.1.later b16 (Nat.le_refl _)) (And.intro (H15.out.2.2.1.later b16 (Nat.le_refl _)) (And.intro (H15.out.2.2.2.1.later b16 (Nat.le_refl _)) (And.intro (H15.out.2.2.2.2.1.later b16 (Nat.le_refl _)) (And.intro (H15.out.2.2.2.2.2.1.later b16 (Nat.le_refl _)) (And.intro (H15.out.2.2.2.2.2.2.1.later b16 (Nat.le_refl _)) (And.intro (H15.out.2.2.2.2.2.2.2.1.later b16 (Nat.le_refl _)) (And.intro (H15.out.2.2.2.2.2.2.2.2.1.later b16 (Nat.le_refl _)) (And.intro (H15.out.2.2.2.2.2.2.2.2.2.1.later b16 (Nat.le_refl _)) (And.intro (H15.out.2.2.2.2.2.2.2.2.2.2.1.later b16 (Nat.le_refl _)) (And.intro (H15.out.2.2.2.2.2.2.2.2.2.2.2.1.later b16 (Nat.le_refl _)) (And.intro (H15.out.2.2.2.2.2.2.2.2.2.2.2.2.1.later b16 (Nat.le_refl _)) (And.intro (H15.out.2.2.2.2.2.2.2.2.2.2.2.2.2.1.later b16 (Nat.le_refl _)) (And.intro (H15.out.2.2.2.2.2.2.2.2.2.2.2.2.2.2.1.later b16 (Nat.le_refl _)) (And.intro (H15.out.2.2.2.2.2.2.2.2.2.2.2.2.2.2.2.1.later b16 (Nat.le_refl _)) (And.intro (H15.out.2.2.2.2.2.2.2.2.2.2.2.2.2.2.2.2.1.later b16 (Nat.le_refl _)) (And.intro (H15.out.2.2.2.2.2.2.2.2.2.2.2.2.2.2.2.2.2.1.later b16 (Nat.le_refl _)) (And.intro (H15.out.2.2.2.2.2.2.2.2.2.2.2.2.2.2.2.2.2.2.1.later b16 (Nat.le_refl _)) (H15.out.2.2.2.2.2.2.2.2.2.2.2.2.2.2.2.2.2.2.2.trans (b16.mono H15.out.2.2.2.2.2.2.2.2.2.2.2.2.2.2.2.2.2.2.2.size)))))))))))))))))))))
  clear b16
  go_wp2_with (first
    | (refine wpList_load_dg_w (by rfl) (.tmp 9) rfl rfl H16.out.2.2.2.2.2.1 ?_)
    | (refine wpList_load_dg_w (by rfl) (.tmp 11) rfl rfl H16.out.2.2.2.2.2.2.2.1 ?_))
  refine (datagram_same H16.out.2.2.2.1 H16.out.2.2.2.2.2.2.1).mono ?_
  rintro e w17 ⟨rfl, bk⟩
  have H17 := Lib.hid (And.intro (H16.out.1.later bk (Nat.le_refl _)) (And.intro (H16.out.2.1.later bk (Nat.le_refl _)) (And.intro (H16.out.2.2.1.later bk (Nat.le_refl _)) (And.intro (H16.out.2.2.2.1.later bk (Nat.le_refl _)) (And.intro (H16.out.2.2.2.2.1.later bk (Nat.le_refl _)) (And.intro (H16.out.2.2.2.2.2.1.later bk (Nat.le_refl _)) (And.intro (H16.out.2.2.2.2.2.2.1.later bk (Nat.le_refl _)) (And.intro (H16.out.2.2.2.2.2.2.2.1.later bk (Nat.le_refl _)) (And.intro (H16.out.2.2.2.2.2.2.2.2.1.later bk (Nat.le_refl _)) (And.intro (H16.out.2.2.2.2.2.2.2.2.2.1.later bk (Nat.le_refl _)) (And.intro (H16.out.2.2.2.2.2.2.2.2.2.2.1.later bk (Nat.le_refl _)) (And.intro (H16.out.2.2.2.2.2.2.2.2.2.2.2.1.later bk (Nat.le_refl _)) (And.intro (H16.out.2.2.2.2.2.2.2.2.2.2.2.2.1.later bk (Nat.le_refl _)) (And.intro (H16.out.2.2.2.2.2.2.2.2.2.2.2.2.2.1.later bk (Nat.le_refl _)) (And.intro (H16.out.2.2.2.2.2.2.2.2.2.2.2.2.2.2.1.later bk (Nat.le_refl _)) (And.intro (H16.out.2.2.2.2.2.2.2.2.2.2.2.2.2.2.2.1.later bk (Nat.le_refl _)) (And.intro (H16.out.2.2.2.2.2.2.2.2.2.2.2.2.2.2.2.2.1.later bk (Nat.le_refl _)) (And.intro (H16.out.2.2.2.2.2.2.2.2.2.2.2.2.2.2.2.2.2.1.later bk (Nat.le_refl _)) (And.intro (H16.out.2.2.2.2.2.2.2.2.2.2.2.2.2.2.2.2.2.2.1.later bk (Nat.le_refl _)) (H16.out.2.2.2.2.2.2.2.2.2.2.2.2.2.2.2.2.2.2.2.trans (bk.mono H16.out.2.2.2.2.2.2.2.2.2.2.2.2.2.2.2.2.2.2.2.size)))))))))))))))))))))
  clear bk
  go_wp2_with (refine wpList_load_fl_w' (by rfl) (.tmp 12) rfl rfl H17.out.2.2.2.2.2.2.2.2.1 ?_)
  refine (is_told3 H17.out.2.2.2.2.1 (Handle.later H17.out.2.2.2.2.2.2.2.2.2.2.2.2.2.2.2.2.2.2.2 (Nat.le_refl _) HB.out.2.2)).mono ?_
  rintro e w18 ⟨rfl, bk⟩
  have H18 := Lib.hid (And.intro (H17.out.1.later bk (Nat.le_refl _)) (And.intro (H17.out.2.1.later bk (Nat.le_refl _)) (And.intro (H17.out.2.2.1.later bk (Nat.le_refl _)) (And.intro (H17.out.2.2.2.1.later bk (Nat.le_refl _)) (And.intro (H17.out.2.2.2.2.1.later bk (Nat.le_refl _)) (And.intro (H17.out.2.2.2.2.2.1.later bk (Nat.le_refl _)) (And.intro (H17.out.2.2.2.2.2.2.1.later bk (Nat.le_refl _)) (And.intro (H17.out.2.2.2.2.2.2.2.1.later bk (Nat.le_refl _)) (And.intro (H17.out.2.2.2.2.2.2.2.2.1.later bk (Nat.le_refl _)) (And.intro (H17.out.2.2.2.2.2.2.2.2.2.1.later bk (Nat.le_refl _)) (And.intro (H17.out.2.2.2.2.2.2.2.2.2.2.1.later bk (Nat.le_refl _)) (And.intro (H17.out.2.2.2.2.2.2.2.2.2.2.2.1.later bk (Nat.le_refl _)) (And.intro (H17.out.2.2.2.2.2.2.2.2.2.2.2.2.1.later bk (Nat.le_refl _)) (And.intro (H17.out.2.2.2.2.2.2.2.2.2.2.2.2.2.1.later bk (Nat.le_refl _)) (And.intro (H17.out.2.2.2.2.2.2.2.2.2.2.2.2.2.2.1.later bk (Nat.le_refl _)) (And.intro (H17.out.2.2.2.2.2.2.2.2.2.2.2.2.2.2.2.1.later bk (Nat.le_refl _)) (And.intro (H17.out.2.2.2.2.2.2.2.2.2.2.2.2.2.2.2.2.1.later bk (Nat.le_refl _)) (And.intro (H17.out.2.2.2.2.2.2.2.2.2.2.2.2.2.2.2.2.2.1.later bk (Nat.le_refl _)) (And.intro (H17.out.2.2.2.2.2.2.2.2.2.2.2.2.2.2.2.2.2.2.1.later bk (Nat.le_refl _)) (H17.out.2.2.2.2.2.2.2.2.2.2.2.2.2.2.2.2.2.2.2.trans (bk.mono H17.out.2.2.2.2.2.2.2.2.2.2.2.2.2.2.2.2.2.2.2.size)))))))))))))))))))))
  clear bk
  go_wp2_with (first
    | (refine wpList_load_dg_w (by rfl) (.tmp 13) rfl rfl H18.out.2.2.2.2.2.2.2.2.2.1 ?_)
    | (refine wpList_load_dg_w (by rfl) (.tmp 15) rfl rfl H18.out.2.2.2.2.2.2.2.2.2.2.2.2.1 ?_))
  refine (datagram_same H18.out.2.2.2.2.2.2.2.2.2.2.1 H18.out.2.2.2.2.2.2.2.2.2.2.2.2.2.1).mono ?_
  rintro e w19 ⟨rfl, bk⟩
  have H19 := Lib.hid (And.intro (H18.out.1.later bk (Nat.le_refl _)) (And.intro (H18.out.2.1.later bk (Nat.le_refl _)) (And.intro (H18.out.2.2.1.later bk (Nat.le_refl _)) (And.intro (H18.out.2.2.2.1.later bk (Nat.le_refl _)) (And.intro (H18.out.2.2.2.2.1.later bk (Nat.le_refl _)) (And.intro (H18.out.2.2.2.2.2.1.later bk (Nat.le_refl _)) (And.intro (H18.out.2.2.2.2.2.2.1.later bk (Nat.le_refl _)) (And.intro (H18.out.2.2.2.2.2.2.2.1.later bk (Nat.le_refl _)) (And.intro (H18.out.2.2.2.2.2.2.2.2.1.later bk (Nat.le_refl _)) (And.intro (H18.out.2.2.2.2.2.2.2.2.2.1.later bk (Nat.le_refl _)) (And.intro (H18.out.2.2.2.2.2.2.2.2.2.2.1.later bk (Nat.le_refl _)) (And.intro (H18.out.2.2.2.2.2.2.2.2.2.2.2.1.later bk (Nat.le_refl _)) (And.intro (H18.out.2.2.2.2.2.2.2.2.2.2.2.2.1.later bk (Nat.le_refl _)) (And.intro (H18.out.2.2.2.2.2.2.2.2.2.2.2.2.2.1.later bk (Nat.le_refl _)) (And.intro (H18.out.2.2.2.2.2.2.2.2.2.2.2.2.2.2.1.later bk (Nat.le_refl _)) (And.intro (H18.out.2.2.2.2.2.2.2.2.2.2.2.2.2.2.2.1.later bk (Nat.le_refl _)) (And.intro (H18.out.2.2.2.2.2.2.2.2.2.2.2.2.2.2.2.2.1.later bk (Nat.le_refl _)) (And.intro (H18.out.2.2.2.2.2.2.2.2.2.2.2.2.2.2.2.2.2.1.later bk (Nat.le_refl _)) (And.intro (H18.out.2.2.2.2.2.2.2.2.2.2.2.2.2.2.2.2.2.2.1.later bk (Nat.le_refl _)) (H18.out.2.2.2.2.2.2.2.2.2.2.2.2.2.2.2.2.2.2.2.trans (bk.mono H18.out.2.2.2.2.2.2.2.2.2.2.2.2.2.2.2.2.2.2.2.size)))))))))))))))))))))
  clear bk
  go_wp2_with (refine wpList_load_fl_w' (by rfl) (.tmp 16) rfl rfl H19.out.2.2.2.2.2.2.2.2.2.2.2.2.2.2.1 ?_)
  refine (is_told3 H19.out.2.2.2.2.2.2.2.2.2.2.2.1 (Handle.later H19.out.2.2.2.2.2.2.2.2.2.2.2.2.2.2.2.2.2.2.2 (Nat.le_refl _) HB.out.2.2)).mono ?_
  rintro e w20 ⟨rfl, bk⟩
  have H20 := Lib.hid (And.intro (H19.out.1.later bk (Nat.le_refl _)) (And.intro (H19.out.2.1.later bk (Nat.le_refl _)) (And.intro (H19.out.2.2.1.later bk (Nat.le_refl _)) (And.intro (H19.out.2.2.2.1.later bk (Nat.le_refl _)) (And.intro (H19.out.2.2.2.2.1.later bk (Nat.le_refl _)) (And.intro (H19.out.2.2.2.2.2.1.later bk (Nat.le_refl _)) (And.intro (H19.out.2.2.2.2.2.2.1.later bk (Nat.le_refl _)) (And.intro (H19.out.2.2.2.2.2.2.2.1.later bk (Nat.le_refl _)) (And.intro (H19.out.2.2.2.2.2.2.2.2.1.later bk (Nat.le_refl _)) (And.intro (H19.out.2.2.2.2.2.2.2.2.2.1.later bk (Nat.le_refl _)) (And.intro (H19.out.2.2.2.2.2.2.2.2.2.2.1.later bk (Nat.le_refl _)) (And.intro (H19.out.2.2.2.2.2.2.2.2.2.2.2.1.later bk (Nat.le_refl _)) (And.intro (H19.out.2.2.2.2.2.2.2.2.2.2.2.2.1.later bk (Nat.le_refl _)) (And.intro (H19.out.2.2.2.2.2.2.2.2.2.2.2.2.2.1.later bk (Nat.le_refl _)) (And.intro (H19.out.2.2.2.2.2.2.2.2.2.2.2.2.2.2.1.later bk (Nat.le_refl _)) (And.intro (H19.out.2.2.2.2.2.2.2.2.2.2.2.2.2.2.2.1.later bk (Nat.le_refl _)) (And.intro (H19.out.2.2.2.2.2.2.2.2.2.2.2.2.2.2.2.2.1.later bk (Nat.le_refl _)) (And.intro (H19.out.2.2.2.2.2.2.2.2.2.2.2.2.2.2.2.2.2.1.later bk (Nat.le_refl _)) (And.intro (H19.out.2.2.2.2.2.2.2.2.2.2.2.2.2.2.2.2.2.2.1.later bk (Nat.le_refl _)) (H19.out.2.2.2.2.2.2.2.2.2.2.2.2.2.2.2.2.2.2.2.trans (bk.mono H19.out.2.2.2.2.2.2.2.2.2.2.2.2.2.2.2.2.2.2.2.size)))))))))))))))))))))
  clear bk
  go_wp2_with fail
  refine (bytes_same H20.out.2.2.2.2.2.2.2.2.2.2.2.2.2.2.2.1 H20.out.2.2.2.2.2.2.2.2.2.2.2.2.2.2.2.2.2.1).mono ?_
  rintro e w' ⟨rfl, rfl⟩
  go_wp2_with (refine wpList_load_fl_w' (by rfl) (.tmp 20) rfl rfl H20.out.2.2.2.2.2.2.2.2.2.2.2.2.2.2.2.2.2.2.1 ?_)
  refine (is_told3 H20.out.2.2.2.2.2.2.2.2.2.2.2.2.2.2.2.2.1 (Handle.later H20.out.2.2.2.2.2.2.2.2.2.2.2.2.2.2.2.2.2.2.2 (Nat.le_refl _) HB.out.2.2)).mono ?_
  rintro e w21 ⟨rfl, bk⟩
  have H21 := Lib.hid (And.intro (H20.out.1.later bk (Nat.le_refl _)) (And.intro (H20.out.2.1.later bk (Nat.le_refl _)) (And.intro (H20.out.2.2.1.later bk (Nat.le_refl _)) (And.intro (H20.out.2.2.2.1.later bk (Nat.le_refl _)) (And.intro (H20.out.2.2.2.2.1.later bk (Nat.le_refl _)) (And.intro (H20.out.2.2.2.2.2.1.later bk (Nat.le_refl _)) (And.intro (H20.out.2.2.2.2.2.2.1.later bk (Nat.le_refl _)) (And.intro (H20.out.2.2.2.2.2.2.2.1.later bk (Nat.le_refl _)) (And.intro (H20.out.2.2.2.2.2.2.2.2.1.later bk (Nat.le_refl _)) (And.intro (H20.out.2.2.2.2.2.2.2.2.2.1.later bk (Nat.le_refl _)) (And.intro (H20.out.2.2.2.2.2.2.2.2.2.2.1.later bk (Nat.le_refl _)) (And.intro (H20.out.2.2.2.2.2.2.2.2.2.2.2.1.later bk (Nat.le_refl _)) (And.intro (H20.out.2.2.2.2.2.2.2.2.2.2.2.2.1.later bk (Nat.le_refl _)) (And.intro (H20.out.2.2.2.2.2.2.2.2.2.2.2.2.2.1.later bk (Nat.le_refl _)) (And.intro (H20.out.2.2.2.2.2.2.2.2.2.2.2.2.2.2.1.later bk (Nat.le_refl _)) (And.intro (H20.out.2.2.2.2.2.2.2.2.2.2.2.2.2.2.2.1.later bk (Nat.le_refl _)) (And.intro (H20.out.2.2.2.2.2.2.2.2.2.2.2.2.2.2.2.2.1.later bk (Nat.le_refl _)) (And.intro (H20.out.2.2.2.2.2.2.2.2.2.2.2.2.2.2.2.2.2.1.later bk (Nat.le_refl _)) (And.intro (H20.out.2.2.2.2.2.2.2.2.2.2.2.2.2.2.2.2.2.2.1.later bk (Nat.le_refl _)) (H20.out.2.2.2.2.2.2.2.2.2.2.2.2.2.2.2.2.2.2.2.trans (bk.mono H20.out.2.2.2.2.2.2.2.2.2.2.2.2.2.2.2.2.2.2.2.size)))))))))))))))))))))
  clear bk
  go_wp2_with fail
  go_ret
  exact ⟨rfl, H21.out.2.2.2.2.2.2.2.2.2.2.2.2.2.2.2.2.2.2.2⟩
end Go.Proofs.YtkeggeiliachgaaDoor
