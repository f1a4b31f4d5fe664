/-
  stockadeplay.Record: a record that may be written. Conditions: those of the slices; names of up to a million bytes.
-/
import Derived.Test.YtbikifaadpijnaaGreatDoorZ41
import Derived.Test.YtbikifaadpijnaaGreatDoorZ38
import Derived.Test.YtbikifaadpijnaaGreatDoorZ30
import Derived.Deep.DeepCutAuto
namespace Go.Proofs.YtbikifaadpijnaaGreatDoor
open Go.RowKit
set_option maxRecDepth 100000

/-- What stockadeplay.Record hands back: a record that may be written, of that time. -/
structure Plays (ttl : Int) (x : Rc) : Prop where
  ok : x.ok
  right : rightR x
  time : x.ttl = ttl
  name : x.name.length ≤ 60
  target : x.target.length ≤ 60
  data : x.data.length ≤ 40
theorem right_nil : rightN [] := by decide +kernel
theorem plays_addr {name : List UInt8} {kp cp ttl : Int} {v6 : Bool} {a : List UInt8} (ha : a.length = 16) (h0 : 0 ≤ cp) (h1 : cp < 65536) (hk : kp = 28 ∧ v6 = true ∨ kp = 1 ∧ v6 = false) : Plays ttl ⟨playN name, kp, cp, ttl, v6, norm v6 a, [], []⟩ := by
  have hr := playN_right name
  have hks : shortI kp := by unfold shortI; omega
  have hcs : shortI cp := by unfold shortI; omega
  refine ⟨norm_len v6 ha, ⟨⟨hr.1, hks, hcs⟩, norm_rightA v6 ha, right_nil, Nat.zero_le _, ?_⟩, rfl, hr.2, Nat.zero_le _, Nat.zero_le _⟩
  rcases hk with ⟨rfl, rfl⟩ | ⟨rfl, rfl⟩
  · exact ⟨⟨rfl, rfl⟩, rfl, rfl⟩
  · exact ⟨⟨rfl, rfl⟩, rfl, rfl⟩
theorem plays_name {name target : List UInt8} {cp ttl : Int} (h0 : 0 ≤ cp) (h1 : cp < 65536) : Plays ttl ⟨playN name, 5, cp, ttl, false, zero16, playN target, []⟩ := by
  have hr := playN_right name
  have ht := playN_right target
  have hks : shortI 5 := by unfold shortI; omega
  have hcs : shortI cp := by unfold shortI; omega
  exact ⟨rfl, ⟨⟨hr.1, hks, hcs⟩, zeros_rightA _, ht.1, Nat.zero_le _, ⟨rfl, rfl⟩, rfl, rfl⟩, rfl, hr.2, ht.2, Nat.zero_le _⟩
theorem plays_data {name data : List UInt8} {kp cp ttl : Int} (h28 : kp ≠ 28) (hk1 : kp ≠ 1) (h5 : kp ≠ 5) (k0 : 0 ≤ kp) (k1 : kp < 65536) (h0 : 0 ≤ cp) (h1 : cp < 65536) (hd : data.length ≤ 40) : Plays ttl ⟨playN name, kp, cp, ttl, false, zero16, [], data⟩ := by
  have hr := playN_right name
  have hks : shortI kp := by unfold shortI; omega
  have hcs : shortI cp := by unfold shortI; omega
  refine ⟨rfl, ⟨⟨hr.1, hks, hcs⟩, zeros_rightA _, right_nil, Nat.le_trans hd (by omega), ?_⟩, rfl, hr.2, Nat.zero_le _, hd⟩
  unfold alikeV bareV
  dsimp only
  rw [if_neg h28, if_neg hk1, if_neg h5]
  exact ⟨⟨rfl, rfl⟩, rfl, rfl⟩
theorem port_below (v : Int) (w : World) : Calls Tryz.prog 45 #[.int .i64 v] w fun e w' => e = .returned (.int .i64 (wrap64 ((IntKind.u64.wrap v).tmod 65536))) ∧ Below w.heap.size w w' := by
  refine (port_any v w).mono ?_
  rintro e w' ⟨he, rfl⟩
  exact ⟨he, Below.refl _ _⟩
set_option maxHeartbeats 2000000 in
theorem playR_any {r : Rc} (hk : r.ok) {A : Option Addr} {n c : Nat} {w : World} (hb : Bs w A n c r.data) (hns : r.name.length ≤ 9223372036854775807) (hts : r.target.length ≤ 9223372036854775807) : Calls Tryz.prog 80 #[.agg (rcv r A n c)] w fun e w' =>
    ∃ x A' n' c', e = .returned (.agg (rcv x A' n' c')) ∧ Plays r.ttl x ∧ Bs w' A' n' c' x.data ∧ Ow w.heap.size A' ∧ Below w.heap.size w w' := by
  have a1 := RcBox.new w hk A n c
  have b1 : Below w.heap.size w (w.alloc (.cells (rcv r A n c) 57)) := (Below.refl _ _).alloc (Nat.le_refl _) _
  obtain ⟨W, hW⟩ : ∃ W, w.alloc (.cells (rcv r A n c) 57) = W := ⟨_, rfl⟩
  rw [hW] at a1 b1
  have HA := Lib.hid (And.intro a1 b1)
  have HW := Lib.hid hW
  have HB := Lib.hid hb
  have hle : w.heap.size ≤ W.heap.size := b1.size
  have hlen := hb.len
  have hcap := hb.cap
  have hmax := hb.max
  unfold maxLen at hmax
  clear a1 b1 hW hb
  obtain ⟨name, kind, cls, ttl, v6, adr, target, data⟩ := r
  dsimp only at hns hts hlen ⊢
  obtain ⟨q1, q2⟩ := num_mod8 kind 65536 (by omega) (by omega)
  obtain ⟨q3, q4⟩ := num_mod8 cls 65536 (by omega) (by omega)
  obtain ⟨kp, hkp⟩ : ∃ kp, wrap64 ((IntKind.u64.wrap kind).tmod 65536) = kp := ⟨_, rfl⟩
  obtain ⟨cp, hcp⟩ : ∃ cp, wrap64 ((IntKind.u64.wrap cls).tmod 65536) = cp := ⟨_, rfl⟩
  have KN := fun w1 => playName_any (mkS name) (by rw [mkS_size]; exact hns) w1
  rw [mkS_data] at KN
  have port_k := fun w1 => port_below kind w1
  have port_c := fun w1 => port_below cls w1
  rw [hkp] at q1 q2 port_k
  rw [hcp] at q3 q4 port_c
  obtain ⟨X, hX⟩ : ∃ X : Rc, X = ⟨playN name, kp, cp, ttl, false, zero16, [], []⟩ := ⟨_, rfl⟩
  have HX := Lib.hid hX
  clear hX
  go_enter Tryz.func80, Tryz.ntmps80
  go_upto_region 1 with (rw [HW.out]; refine wpList_alloc_rc rfl rfl ?_; intro w1 a1 g1 z1; have H1 := Lib.hid (And.intro (HA.out.1.later g1 (Nat.le_refl _)) (And.intro a1 (And.intro g1 (HA.out.2.trans (g1.mono HA.out.2.size))))); clear a1 g1 z1)
  simp only [Act.put, List.setIfInBounds_toArray, List.set_cons_zero, List.set_cons_succ]
  go_cut [3] (fun p wx => ∃ g : Nat, p = .pointer (some ⟨g, 0, none⟩) ∧ w1.heap.size ≤ g ∧ RcBox wx g X none 0 0 ∧ Below w1.heap.size w1 wx)
  case first =>
    have d0 : ∀ w', Below w1.heap.size w1 w' → w'.cell? ⟨w.heap.size, 0, none⟩ = some (.string (mkS name)) := fun w' h => (H1.out.1.later h (Nat.le_refl _)).name
    have d1 : ∀ w', Below w1.heap.size w1 w' → w'.cell? ⟨w.heap.size, 1, none⟩ = some (.int .i64 kind) := fun w' h => (H1.out.1.later h (Nat.le_refl _)).kind
    have d2 : ∀ w', Below w1.heap.size w1 w' → w'.cell? ⟨w.heap.size, 2, none⟩ = some (.int .i64 cls) := fun w' h => (H1.out.1.later h (Nat.le_refl _)).cls
    have d3 : ∀ w', Below w1.heap.size w1 w' → w'.cell? ⟨w.heap.size, 3, none⟩ = some (.int .u32 ttl) := fun w' h => (H1.out.1.later h (Nat.le_refl _)).ttl
    have hS : Below w1.heap.size w1 w1.drew := (Below.refl _ _).drew
    refine rg_begin (fun w' => Below w1.heap.size w1 w') 14 (by kernel_rfl) rfl ?_
    obtain ⟨W0, hW0⟩ : ∃ W0, w1.drew = W0 := ⟨_, rfl⟩
    rw [hW0] at hS ⊢
    clear hW0
    refine rg_take 0 (v := ?rv1) rfl (by kernel_rfl) (by kernel_rfl) (by kernel_rfl) (fun _ _ _ h => h) (by rfl) hS (fun w2 hw2 => ?ry1) ?rr1
    case ry1 => ((try dsimp only at hw2); go_simp <;> with_reducible rfl)
    simp only [Act.put, List.setIfInBounds_toArray, List.set_cons_zero, List.set_cons_succ]
    refine rg_take 3 (v := ?rv2) rfl (by kernel_rfl) (by kernel_rfl) (by kernel_rfl) (fun _ _ _ h => h) (by rfl) hS (fun w2 hw2 => ?ry2) ?rr2
    case ry2 => ((try dsimp only at hw2); go_simp <;> with_reducible rfl)
    simp only [Act.put, List.setIfInBounds_toArray, List.set_cons_zero, List.set_cons_succ]
    refine rg_take 6 (v := ?rv3) rfl (by kernel_rfl) (by kernel_rfl) (by kernel_rfl) (fun _ _ _ h => h) (by rfl) hS (fun w2 hw2 => ?ry3) ?rr3
    case ry3 => ((try dsimp only at hw2); go_simp <;> with_reducible rfl)
    simp only [Act.put, List.setIfInBounds_toArray, List.set_cons_zero, List.set_cons_succ]
    refine rg_take 9 (v := ?rv4) rfl (by kernel_rfl) (by kernel_rfl) (by kernel_rfl) (fun _ _ _ h => h) (by rfl) hS (fun w2 hw2 => ?ry4) ?rr4
    case ry4 => ((try dsimp only at hw2); go_simp <;> with_reducible rfl)
    simp only [Act.put, List.setIfInBounds_toArray, List.set_cons_zero, List.set_cons_succ]
    refine rg_take 1 (v := ?rv5) rfl (by kernel_rfl) (by kernel_rfl) (by kernel_rfl) (fun _ _ _ h => h) (by rfl) hS (fun w2 hw2 => ?ry5) ?rr5
    case ry5 => ((try dsimp only at hw2); go_simp <;> with_reducible rfl)
    simp only [Act.put, List.setIfInBounds_toArray, List.set_cons_zero, List.set_cons_succ]
    refine rg_take 4 (v := ?rv6) rfl (by kernel_rfl) (by kernel_rfl) (by kernel_rfl) (fun _ _ _ h => h) (by rfl) hS (fun w2 hw2 => ?ry6) ?rr6
    case ry6 => ((try dsimp only at hw2); go_simp <;> with_reducible rfl)
    simp only [Act.put, List.setIfInBounds_toArray, List.set_cons_zero, List.set_cons_succ]
    refine rg_take 7 (v := ?rv7) rfl (by kernel_rfl) (by kernel_rfl) (by kernel_rfl) (fun _ _ _ h => h) (by rfl) hS (fun w2 hw2 => ?ry7) ?rr7
    case ry7 => ((try dsimp only at hw2); go_simp <;> with_reducible rfl)
    simp only [Act.put, List.setIfInBounds_toArray, List.set_cons_zero, List.set_cons_succ]
    refine rg_take 10 (v := ?rv8) rfl (by kernel_rfl) (by kernel_rfl) (by kernel_rfl) (fun _ _ _ h => h) (by rfl) hS (fun w2 hw2 => ?ry8) ?rr8
    case ry8 => ((try dsimp only at hw2); go_simp <;> with_reducible rfl)
    simp only [Act.put, List.setIfInBounds_toArray, List.set_cons_zero, List.set_cons_succ]
    clear d0 d1 d2 d3
    refine rg_any [2, 12] (by kernel_rfl) (by simp) ?_
    refine rg_or 2 rfl (by rfl) (fun K hK => ?_) ?_
    · go_simp
      refine (KN _).mono ?_
      rintro e u1 ⟨rfl, bK⟩
      replace hS := hS.trans (bK.mono hS.size)
      clear bK
      refine hK.out _ _ hS ?_
      clear hK K
      try simp only [Act.put, List.setIfInBounds_toArray, List.set_cons_zero, List.set_cons_succ]
      refine rg_any [5, 12] (by kernel_rfl) (by simp) ?_
      refine rg_or 5 rfl (by rfl) (fun K hK => ?_) ?_
      · go_simp
        refine (port_k _).mono ?_
        rintro e u2 ⟨rfl, bK⟩
        replace hS := hS.trans (bK.mono hS.size)
        clear bK
        refine hK.out _ _ hS ?_
        clear hK K
        try simp only [Act.put, List.setIfInBounds_toArray, List.set_cons_zero, List.set_cons_succ]
        refine rg_any [8, 12] (by kernel_rfl) (by simp) ?_
        refine rg_or 8 rfl (by rfl) (fun K hK => ?_) ?_
        · go_simp
          refine (port_c _).mono ?_
          rintro e u3 ⟨rfl, bK⟩
          replace hS := hS.trans (bK.mono hS.size)
          clear bK
          refine hK.out _ _ hS ?_
          clear hK K
          try simp only [Act.put, List.setIfInBounds_toArray, List.set_cons_zero, List.set_cons_succ]
          refine rg_any [11, 12] (by kernel_rfl) (by simp) ?_
          refine rg_or 11 rfl (by rfl) (fun K hK => ?_) ?_
          · refine wp_build_rc4 (.tmp 6) (.tmp 9) (.tmp 12) (.tmp 14) rfl (playN name) kp cp ttl rfl rfl rfl rfl ?_
            rw [← HX.out]
            refine hK.out _ _ hS ?_
            clear hK K
            try simp only [Act.put, List.setIfInBounds_toArray, List.set_cons_zero, List.set_cons_succ]
            refine rg_step 12 rfl (by kernel_rfl) (by rfl) (fun K hK => ?_)
            refine wp_alloc_rc rfl ?_
            intro u5 F bK _
            have lF := hS.size
            replace hS := hS.trans (bK.mono hS.size)
            clear bK
            refine hK.out _ _ hS ?_
            clear hK K
            try simp only [Act.put, List.setIfInBounds_toArray, List.set_cons_zero, List.set_cons_succ]
            refine rg_step 13 rfl (by kernel_rfl) (by rfl) (fun K hK => ?_)
            refine wp_store_rc (.tmp 3) (.tmp 15) rfl X none 0 0 rfl rfl (HX.out ▸ rfl) F ?_
            intro x F2 o2 z2 g2
            replace hS := g2 _ _ lF hS
            refine hK.out _ _ hS ?_
            clear hK K
            simp only [Act.put]
            refine rg_done (by kernel_rfl) ?_
            go_wp2_with fail
            go_meet
            exact ⟨_, rfl, lF, F2, hS⟩
          refine rg_or 12 rfl (by rfl) (fun K hK => ?_) ?_
          · refine wp_alloc_rc rfl ?_
            intro u6 F bK _
            have lF := hS.size
            replace hS := hS.trans (bK.mono hS.size)
            clear bK
            refine hK.out _ _ hS ?_
            clear hK K
            try simp only [Act.put, List.setIfInBounds_toArray, List.set_cons_zero, List.set_cons_succ]
            refine rg_step 11 rfl (by kernel_rfl) (by rfl) (fun K hK => ?_)
            refine wp_build_rc4 (.tmp 6) (.tmp 9) (.tmp 12) (.tmp 14) rfl (playN name) kp cp ttl rfl rfl rfl rfl ?_
            rw [← HX.out]
            refine hK.out _ _ hS ?_
            clear hK K
            try simp only [Act.put, List.setIfInBounds_toArray, List.set_cons_zero, List.set_cons_succ]
            refine rg_step 13 rfl (by kernel_rfl) (by rfl) (fun K hK => ?_)
            refine wp_store_rc (.tmp 3) (.tmp 15) rfl X none 0 0 rfl rfl (HX.out ▸ rfl) F ?_
            intro x F2 o2 z2 g2
            replace hS := g2 _ _ lF hS
            refine hK.out _ _ hS ?_
            clear hK K
            simp only [Act.put]
            refine rg_done (by kernel_rfl) ?_
            go_wp2_with fail
            go_meet
            exact ⟨_, rfl, lF, F2, hS⟩
          exact AllReadyH.nil
        refine rg_or 12 rfl (by rfl) (fun K hK => ?_) ?_
        · refine wp_alloc_rc rfl ?_
          intro u8 F bK _
          have lF := hS.size
          replace hS := hS.trans (bK.mono hS.size)
          clear bK
          refine hK.out _ _ hS ?_
          clear hK K
          try simp only [Act.put, List.setIfInBounds_toArray, List.set_cons_zero, List.set_cons_succ]
          refine rg_step 8 rfl (by kernel_rfl) (by rfl) (fun K hK => ?_)
          go_simp
          refine (port_c _).mono ?_
          rintro e u9 ⟨rfl, bK⟩
          replace F := F.later bK (Nat.le_refl _)
          replace hS := hS.trans (bK.mono hS.size)
          clear bK
          refine hK.out _ _ hS ?_
          clear hK K
          try simp only [Act.put, List.setIfInBounds_toArray, List.set_cons_zero, List.set_cons_succ]
          refine rg_step 11 rfl (by kernel_rfl) (by rfl) (fun K hK => ?_)
          refine wp_build_rc4 (.tmp 6) (.tmp 9) (.tmp 12) (.tmp 14) rfl (playN name) kp cp ttl rfl rfl rfl rfl ?_
          rw [← HX.out]
          refine hK.out _ _ hS ?_
          clear hK K
          try simp only [Act.put, List.setIfInBounds_toArray, List.set_cons_zero, List.set_cons_succ]
          refine rg_step 13 rfl (by kernel_rfl) (by rfl) (fun K hK => ?_)
          refine wp_store_rc (.tmp 3) (.tmp 15) rfl X none 0 0 rfl rfl (HX.out ▸ rfl) F ?_
          intro x F2 o2 z2 g2
          replace hS := g2 _ _ lF hS
          refine hK.out _ _ hS ?_
          clear hK K
          simp only [Act.put]
          refine rg_done (by kernel_rfl) ?_
          go_wp2_with fail
          go_meet
          exact ⟨_, rfl, lF, F2, hS⟩
        exact AllReadyH.nil
      refine rg_or 12 rfl (by rfl) (fun K hK => ?_) ?_
      · refine wp_alloc_rc rfl ?_
        intro u11 F bK _
        have lF := hS.size
        replace hS := hS.trans (bK.mono hS.size)
        clear bK
        refine hK.out _ _ hS ?_
        clear hK K
        try simp only [Act.put, List.setIfInBounds_toArray, List.set_cons_zero, List.set_cons_succ]
        refine rg_step 5 rfl (by kernel_rfl) (by rfl) (fun K hK => ?_)
        go_simp
        refine (port_k _).mono ?_
        rintro e u12 ⟨rfl, bK⟩
        replace F := F.later bK (Nat.le_refl _)
        replace hS := hS.trans (bK.mono hS.size)
        clear bK
        refine hK.out _ _ hS ?_
        clear hK K
        try simp only [Act.put, List.setIfInBounds_toArray, List.set_cons_zero, List.set_cons_succ]
        refine rg_step 8 rfl (by kernel_rfl) (by rfl) (fun K hK => ?_)
        go_simp
        refine (port_c _).mono ?_
        rintro e u13 ⟨rfl, bK⟩
        replace F := F.later bK (Nat.le_refl _)
        replace hS := hS.trans (bK.mono hS.size)
        clear bK
        refine hK.out _ _ hS ?_
        clear hK K
        try simp only [Act.put, List.setIfInBounds_toArray, List.set_cons_zero, List.set_cons_succ]
        refine rg_step 11 rfl (by kernel_rfl) (by rfl) (fun K hK => ?_)
        refine wp_build_rc4 (.tmp 6) (.tmp 9) (.tmp 12) (.tmp 14) rfl (playN name) kp cp ttl rfl rfl rfl rfl ?_
        rw [← HX.out]
        refine hK.out _ _ hS ?_
        clear hK K
        try simp only [Act.put, List.setIfInBounds_toArray, List.set_cons_zero, List.set_cons_succ]
        refine rg_step 13 rfl (by kernel_rfl) (by rfl) (fun K hK => ?_)
        refine wp_store_rc (.tmp 3) (.tmp 15) rfl X none 0 0 rfl rfl (HX.out ▸ rfl) F ?_
        intro x F2 o2 z2 g2
        replace hS := g2 _ _ lF hS
        refine hK.out _ _ hS ?_
        clear hK K
        simp only [Act.put]
        refine rg_done (by kernel_rfl) ?_
        go_wp2_with fail
        go_meet
        exact ⟨_, rfl, lF, F2, hS⟩
      exact AllReadyH.nil
    refine rg_or 12 rfl (by rfl) (fun K hK => ?_) ?_
    · refine wp_alloc_rc rfl ?_
      intro u15 F bK _
      have lF := hS.size
      replace hS := hS.trans (bK.mono hS.size)
      clear bK
      refine hK.out _ _ hS ?_
      clear hK K
      try simp only [Act.put, List.setIfInBounds_toArray, List.set_cons_zero, List.set_cons_succ]
      refine rg_step 2 rfl (by kernel_rfl) (by rfl) (fun K hK => ?_)
      go_simp
      refine (KN _).mono ?_
      rintro e u16 ⟨rfl, bK⟩
      replace F := F.later bK (Nat.le_refl _)
      replace hS := hS.trans (bK.mono hS.size)
      clear bK
      refine hK.out _ _ hS ?_
      clear hK K
      try simp only [Act.put, List.setIfInBounds_toArray, List.set_cons_zero, List.set_cons_succ]
      refine rg_step 5 rfl (by kernel_rfl) (by rfl) (fun K hK => ?_)
      go_simp
      refine (port_k _).mono ?_
      rintro e u17 ⟨rfl, bK⟩
      replace F := F.later bK (Nat.le_refl _)
      replace hS := hS.trans (bK.mono hS.size)
      clear bK
      refine hK.out _ _ hS ?_
      clear hK K
      try simp only [Act.put, List.setIfInBounds_toArray, List.set_cons_zero, List.set_cons_succ]
      refine rg_step 8 rfl (by kernel_rfl) (by rfl) (fun K hK => ?_)
      go_simp
      refine (port_c _).mono ?_
      rintro e u18 ⟨rfl, bK⟩
      replace F := F.later bK (Nat.le_refl _)
      replace hS := hS.trans (bK.mono hS.size)
      clear bK
      refine hK.out _ _ hS ?_
      clear hK K
      try simp only [Act.put, List.setIfInBounds_toArray, List.set_cons_zero, List.set_cons_succ]
      refine rg_step 11 rfl (by kernel_rfl) (by rfl) (fun K hK => ?_)
      refine wp_build_rc4 (.tmp 6) (.tmp 9) (.tmp 12) (.tmp 14) rfl (playN name) kp cp ttl rfl rfl rfl rfl ?_
      rw [← HX.out]
      refine hK.out _ _ hS ?_
      clear hK K
      try simp only [Act.put, List.setIfInBounds_toArray, List.set_cons_zero, List.set_cons_succ]
      refine rg_step 13 rfl (by kernel_rfl) (by rfl) (fun K hK => ?_)
      refine wp_store_rc (.tmp 3) (.tmp 15) rfl X none 0 0 rfl rfl (HX.out ▸ rfl) F ?_
      intro x F2 o2 z2 g2
      replace hS := g2 _ _ lF hS
      refine hK.out _ _ hS ?_
      clear hK K
      simp only [Act.put]
      refine rg_done (by kernel_rfl) ?_
      go_wp2_with fail
      go_meet
      exact ⟨_, rfl, lF, F2, hS⟩
    exact AllReadyH.nil
  case rest =>
    obtain ⟨g, rfl, hgl, x1, x2⟩ := hcut
    rw [HX.out] at x1
    clear HX
    obtain ⟨W5, rfl⟩ : ∃ W5, W5 = wc := ⟨_, rfl⟩
    have hWg : W.heap.size < g := Nat.lt_of_lt_of_le H1.out.2.1.lt hgl
    have hwg : w.heap.size < g := Nat.lt_of_le_of_lt hle hWg
    have x3 := H1.out.2.2.2.trans (x2.mono H1.out.2.2.2.size)
    have x0 := H1.out.1.later x2 (Nat.le_refl _)
    have x4 := H1.out.2.1.later x2 (Nat.le_refl _)
    have e1 : W5.cell? ⟨g, 1, none⟩ = some (.int .i64 kp) := x1.kind
    have e21 : W5.cell? ⟨w.heap.size, 21, none⟩ = some (.string (mkS target)) := x0.target
    have e22 : W5.cell? ⟨w.heap.size, 22, none⟩ = some (.slice A n c) := x0.data
    have hgW := x1.lt
    have hW5 : W.heap.size < W5.heap.size := by omega
    have H5 := Lib.hid (And.intro x0 (And.intro x4 (And.intro x1 x3)))
    clear x0 x1 x2 x3 x4
    by_cases h28 : kp = 28
    · clear hkp
      subst h28
      clear e21 e22
      go_wp2_with (refine wpList_load_rcAd rfl (.tmp 30) rfl rfl H5.out.1 ?_)
      refine (play_addr v6 true adr hk _).mono ?_
      rintro e w6 ⟨rfl, b6⟩
      have H6 := Lib.hid (And.intro (H5.out.2.1.later b6 (Nat.le_refl _)) (And.intro (H5.out.2.2.1.later b6 (Nat.le_refl _)) (H5.out.2.2.2.trans (b6.mono H5.out.2.2.2.size))))
      clear b6 e1
      go_wp2_with (first
        | (refine wpList_store_rc rfl (.tmp 2) (.tmp 43) rfl ⟨playN name, 28, cp, ttl, true, norm true adr, [], []⟩ none 0 0 rfl rfl (norm_len true hk) H7.out.1 ?_; intro w8 a8 o8 z8 g8; have H8 := Lib.hid (And.intro a8 (g8 w.heap.size w hle H7.out.2.2)); clear a8 o8 z8 g8)
        | (refine wpList_load_rc rfl (.tmp 3) rfl rfl H7.out.2.1 ?_)
        | (refine wpList_store_rcAd rfl (.tmp 36) (.tmp 35) rfl rfl rfl (norm_len true hk) H6.out.2.1 ?_; intro w7 a7 o7 z7 g7; have H7 := Lib.hid (And.intro (H6.out.1.same (o7 _ (Nat.ne_of_lt hWg))) (And.intro (show RcBox w7 g ⟨playN name, 28, cp, ttl, true, norm true adr, [], []⟩ none 0 0 from a7) (g7 w.heap.size w (Nat.le_of_lt hwg) H6.out.2.2))); clear a7 o7 z7 g7))
      exact bodyPost_ret (results_cell_row rfl _ _ W.heap.size 57 _ (0, 0) _ rfl H8.out.1.1 Tryz.underlying57 rfl (rc_size H8.out.1.2 _ _ _)) rfl ⟨⟨playN name, 28, cp, ttl, true, norm true adr, [], []⟩, none, 0, 0, rfl, plays_addr hk q3 q4 (.inl ⟨rfl, rfl⟩), Bs.nil _, (fun a ha => by cases ha), H8.out.2⟩
    by_cases h1 : kp = 1
    · clear hkp h28
      subst h1
      clear e21 e22
      go_wp2_with (refine wpList_load_rcAd rfl (.tmp 30) rfl rfl H5.out.1 ?_)
      refine (play_addr v6 false adr hk _).mono ?_
      rintro e w6 ⟨rfl, b6⟩
      have H6 := Lib.hid (And.intro (H5.out.2.1.later b6 (Nat.le_refl _)) (And.intro (H5.out.2.2.1.later b6 (Nat.le_refl _)) (H5.out.2.2.2.trans (b6.mono H5.out.2.2.2.size))))
      clear b6 e1
      go_wp2_with (first
        | (refine wpList_store_rc rfl (.tmp 2) (.tmp 43) rfl ⟨playN name, 1, cp, ttl, false, norm false adr, [], []⟩ none 0 0 rfl rfl (norm_len false hk) H7.out.1 ?_; intro w8 a8 o8 z8 g8; have H8 := Lib.hid (And.intro a8 (g8 w.heap.size w hle H7.out.2.2)); clear a8 o8 z8 g8)
        | (refine wpList_load_rc rfl (.tmp 3) rfl rfl H7.out.2.1 ?_)
        | (refine wpList_store_rcAd rfl (.tmp 36) (.tmp 35) rfl rfl rfl (norm_len false hk) H6.out.2.1 ?_; intro w7 a7 o7 z7 g7; have H7 := Lib.hid (And.intro (H6.out.1.same (o7 _ (Nat.ne_of_lt hWg))) (And.intro (show RcBox w7 g ⟨playN name, 1, cp, ttl, false, norm false adr, [], []⟩ none 0 0 from a7) (g7 w.heap.size w (Nat.le_of_lt hwg) H6.out.2.2))); clear a7 o7 z7 g7))
      exact bodyPost_ret (results_cell_row rfl _ _ W.heap.size 57 _ (0, 0) _ rfl H8.out.1.1 Tryz.underlying57 rfl (rc_size H8.out.1.2 _ _ _)) rfl ⟨⟨playN name, 1, cp, ttl, false, norm false adr, [], []⟩, none, 0, 0, rfl, plays_addr hk q3 q4 (.inr ⟨rfl, rfl⟩), Bs.nil _, (fun a ha => by cases ha), H8.out.2⟩
    by_cases h5 : kp = 5
    · clear hkp h28 h1
      subst h5
      clear e22
      go_wp2_with fail
      refine (playName_any (mkS target) (by rw [mkS_size]; exact hts) _).mono ?_
      rw [mkS_data]
      rintro e w6 ⟨rfl, b6⟩
      have H6 := Lib.hid (And.intro (H5.out.2.1.later b6 (Nat.le_refl _)) (And.intro (H5.out.2.2.1.later b6 (Nat.le_refl _)) (H5.out.2.2.2.trans (b6.mono H5.out.2.2.2.size))))
      clear b6 e1 e21
      go_wp2_with (first
        | (refine wpList_store_rc rfl (.tmp 2) (.tmp 43) rfl ⟨playN name, 5, cp, ttl, false, zero16, playN target, []⟩ none 0 0 rfl rfl rfl H7.out.1 ?_; intro w8 a8 o8 z8 g8; have H8 := Lib.hid (And.intro a8 (g8 w.heap.size w hle H7.out.2.2)); clear a8 o8 z8 g8)
        | (refine wpList_load_rc rfl (.tmp 3) rfl rfl H7.out.2.1 ?_)
        | (refine wpList_putTarget_rc rfl (.tmp 42) (.tmp 41) rfl (playN target) rfl rfl H6.out.2.1 ?_; intro w7 a7 o7 z7 g7; have H7 := Lib.hid (And.intro (H6.out.1.same (o7 _ (Nat.ne_of_lt hWg))) (And.intro (show RcBox w7 g ⟨playN name, 5, cp, ttl, false, zero16, playN target, []⟩ none 0 0 from a7) (g7 w.heap.size w (Nat.le_of_lt hwg) H6.out.2.2))); clear a7 o7 z7 g7))
      exact bodyPost_ret (results_cell_row rfl _ _ W.heap.size 57 _ (0, 0) _ rfl H8.out.1.1 Tryz.underlying57 rfl (rc_size H8.out.1.2 _ _ _)) rfl ⟨⟨playN name, 5, cp, ttl, false, zero16, playN target, []⟩, none, 0, 0, rfl, plays_name q3 q4, Bs.nil _, (fun a ha => by cases ha), H8.out.2⟩
    · obtain ⟨k, hkn⟩ : ∃ k : Nat, min (n : Int) 40 = (k : Int) := ⟨min n 40, by omega⟩
      have hk40 : k ≤ 40 := by omega
      have hkn2 : k ≤ n := by omega
      have u1 : (k : Int) ≤ (c : Int) := by omega
      have hcut := HB.out.cut (i := 0) (k := k) (by omega) (A' := A) (fun _ => by cases A <;> simp [Addr.add]) (fun h => h)
      rw [List.drop_zero, Nat.sub_zero] at hcut
      have hdl : (data.take k).length ≤ 40 := by rw [List.length_take]; omega
      have HC := Lib.hid hcut
      clear hcut hkp e21
      go_wp2_with (first
        | (refine wpList_store_rc rfl (.tmp 2) (.tmp 43) rfl ⟨playN name, kp, cp, ttl, false, zero16, [], data.take k⟩ A6 k c6 rfl rfl rfl H7.out.1 ?_; intro w8 a8 o8 z8 g8; have H8 := Lib.hid (And.intro a8 (And.intro (H7.out.2.2.1.farBlk (fun a ha => Nat.ne_of_gt (Nat.lt_of_lt_of_le hW5 (H6.out.2.2.1.2 a ha))) o8) (g8 w.heap.size w hle H7.out.2.2.2))); clear a8 o8 z8 g8)
        | (refine wpList_load_rc rfl (.tmp 3) rfl rfl H7.out.2.1 ?_)
        | (refine wpList_putData_rc rfl (.tmp 26) (.tmp 25) rfl (data.take k) A6 k c6 rfl rfl H6.out.2.1 ?_; intro w7 a7 o7 z7 g7; have H7 := Lib.hid (And.intro (H6.out.1.same (o7 _ (Nat.ne_of_lt hWg))) (And.intro (show RcBox w7 g ⟨playN name, kp, cp, ttl, false, zero16, [], data.take k⟩ A6 k c6 from a7) (And.intro (H6.out.2.2.1.1.farBlk (fun a ha => Nat.ne_of_gt (Nat.lt_of_lt_of_le hgW (H6.out.2.2.1.2 a ha))) o7) (g7 w.heap.size w (Nat.le_of_lt hwg) H6.out.2.2.2.2)))); clear a7 o7 z7 g7)
        | (at_builtin; refine wpList_append_bs rfl (.const (.slice none 0 0)) (.tmp 24) 22 rfl W5.heap.size 5 info5 Tryz.underlying22 _ 0 [] rfl (World.ownsRow_nil _ _ _ _) A k c (data.take k) rfl (HC.out.later H5.out.2.2.2 (Nat.le_refl _)) (by omega) (Nat.le_refl _) ?_; intro v6' w6 o6 g6 n6 m6; have b6 : Below W5.heap.size W5 w6 := (Below.refl _ W5).grown g6 (Nat.le_refl _) (fun x hx => by cases hx); (have o6' := owns_n (n' := k) (by omega) o6); rw [List.nil_append] at o6'; obtain ⟨A6, c6, rfl, hB6⟩ := Bs.of_own o6'; have H6 := Lib.hid (And.intro (H5.out.2.1.later b6 (Nat.le_refl _)) (And.intro (H5.out.2.2.1.later b6 (Nat.le_refl _)) (And.intro (And.intro hB6 (own_ow o6')) (And.intro b6 (H5.out.2.2.2.trans (b6.mono H5.out.2.2.2.size)))))); clear o6 g6 n6 m6 b6 o6' hB6))
      exact bodyPost_ret (results_cell_row rfl _ _ W.heap.size 57 _ (0, 0) _ rfl H8.out.1.1 Tryz.underlying57 rfl (rc_size H8.out.1.2 _ _ _)) rfl ⟨⟨playN name, kp, cp, ttl, false, zero16, [], data.take k⟩, A6, k, c6, rfl, plays_data h28 h1 h5 q1 q2 q3 q4 hdl, H8.out.2.1, (fun a ha => Nat.le_trans H5.out.2.2.2.size (H6.out.2.2.1.2 a ha)), H8.out.2.2⟩
end Go.Proofs.YtbikifaadpijnaaGreatDoor
