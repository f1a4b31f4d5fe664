/-
  stockadeplay.Record: a record that may be written. Conditions: those of the slices; names of up to a million bytes.
  stockadelaw13.RecordClasses answers true, whatever is handed in. Conditions: those of the slice; what the program's text has laid (internal/bytealg.MaxLen holds an int; errors.errorType holds the handle of the type error).
  stockadelaw13.RecordRefuses answers true, whatever is handed in. Conditions: those of the slice; what the program's text has laid (internal/bytealg.MaxLen holds an int; errors.errorType holds the handle of the type error).
-/
import Derived.Test.YtddnfbkmhgflbaaGreatDoorZ44
import Derived.Test.YtddnfbkmhgflbaaGreatDoorZ39
import Derived.Test.YtddnfbkmhgflbaaGreatDoorZ32
import Derived.Deep.DeepCutAuto
import Derived.Test.YtddnfbkmhgflbaaGreatDoorZ26
import Derived.IntWalk
namespace Go.Proofs.YtddnfbkmhgflbaaGreatDoor
open Go.RowKit
set_option maxRecDepth 100000

/-- What stockadeplay.Record hands back: a record that may be written, of that time. -/
structure Plays (ttl : Int) (x : Rc) : Prop where
  ok : x.ok
  right : rightR x
  time : x.ttl = ttl
  name : x.name.length ≤ 60
  target : x.target.length ≤ 60
  data : x.data.length ≤ 40
theorem right_nil : rightN [] := by decide +kernel
theorem plays_addr {name : List UInt8} {kp cp ttl : Int} {v6 : Bool} {a : List UInt8} (ha : a.length = 16) (h0 : 0 ≤ cp) (h1 : cp < 65536) (hk : kp = 28 ∧ v6 = true ∨ kp = 1 ∧ v6 = false) : Plays ttl ⟨playN name, kp, cp, ttl, v6, norm v6 a, [], []⟩ := by
  have hr := playN_right name
  have hks : shortI kp := by unfold shortI; omega
  have hcs : shortI cp := by unfold shortI; omega
  refine ⟨norm_len v6 ha, ⟨⟨hr.1, hks, hcs⟩, norm_rightA v6 ha, right_nil, Nat.zero_le _, ?_⟩, rfl, hr.2, Nat.zero_le _, Nat.zero_le _⟩
  rcases hk with ⟨rfl, rfl⟩ | ⟨rfl, rfl⟩
  · exact ⟨⟨rfl, rfl⟩, rfl, rfl⟩
  · exact ⟨⟨rfl, rfl⟩, rfl, rfl⟩
theorem plays_name {name target : List UInt8} {cp ttl : Int} (h0 : 0 ≤ cp) (h1 : cp < 65536) : Plays ttl ⟨playN name, 5, cp, ttl, false, zero16, playN target, []⟩ := by
  have hr := playN_right name
  have ht := playN_right target
  have hks : shortI 5 := by unfold shortI; omega
  have hcs : shortI cp := by unfold shortI; omega
  exact ⟨rfl, ⟨⟨hr.1, hks, hcs⟩, zeros_rightA _, ht.1, Nat.zero_le _, ⟨rfl, rfl⟩, rfl, rfl⟩, rfl, hr.2, ht.2, Nat.zero_le _⟩
theorem plays_data {name data : List UInt8} {kp cp ttl : Int} (h28 : kp ≠ 28) (hk1 : kp ≠ 1) (h5 : kp ≠ 5) (k0 : 0 ≤ kp) (k1 : kp < 65536) (h0 : 0 ≤ cp) (h1 : cp < 65536) (hd : data.length ≤ 40) : Plays ttl ⟨playN name, kp, cp, ttl, false, zero16, [], data⟩ := by
  have hr := playN_right name
  have hks : shortI kp := by unfold shortI; omega
  have hcs : shortI cp := by unfold shortI; omega
  refine ⟨rfl, ⟨⟨hr.1, hks, hcs⟩, zeros_rightA _, right_nil, Nat.le_trans hd (by omega), ?_⟩, rfl, hr.2, Nat.zero_le _, hd⟩
  unfold alikeV bareV
  dsimp only
  rw [if_neg h28, if_neg hk1, if_neg h5]
  exact ⟨⟨rfl, rfl⟩, rfl, rfl⟩
theorem port_below (v : Int) (w : World) : Calls Tryz.prog 56 #[.int .i64 v] w fun e w' => e = .returned (.int .i64 (wrap64 ((IntKind.u64.wrap v).tmod 65536))) ∧ Below w.heap.size w w' := by
  refine (port_any v w).mono ?_
  rintro e w' ⟨he, rfl⟩
  exact ⟨he, Below.refl _ _⟩
set_option maxHeartbeats 2000000 in
theorem playR_any {r : Rc} (hk : r.ok) {A : Option Addr} {n c : Nat} {w : World} (hb : Bs w A n c r.data) (hns : r.name.length ≤ 9223372036854775807) (hts : r.target.length ≤ 9223372036854775807) : Calls Tryz.prog 23 #[.agg (rcv r A n c)] w fun e w' =>
    ∃ x A' n' c', e = .returned (.agg (rcv x A' n' c')) ∧ Plays r.ttl x ∧ Bs w' A' n' c' x.data ∧ Ow w.heap.size A' ∧ Below w.heap.size w w' := by
  have a1 := RcBox.new w hk A n c
  have b1 : Below w.heap.size w (w.alloc (.cells (rcv r A n c) 28)) := (Below.refl _ _).alloc (Nat.le_refl _) _
  obtain ⟨W, hW⟩ : ∃ W, w.alloc (.cells (rcv r A n c) 28) = W := ⟨_, rfl⟩
  rw [hW] at a1 b1
  have HA := Lib.hid (And.intro a1 b1)
  have HW := Lib.hid hW
  have HB := Lib.hid hb
  have hle : w.heap.size ≤ W.heap.size := b1.size
  have hlen := hb.len
  have hcap := hb.cap
  have hmax := hb.max
  unfold maxLen at hmax
  clear a1 b1 hW hb
  obtain ⟨name, kind, cls, ttl, v6, adr, target, data⟩ := r
  dsimp only at hns hts hlen ⊢
  obtain ⟨q1, q2⟩ := num_mod8 kind 65536 (by omega) (by omega)
  obtain ⟨q3, q4⟩ := num_mod8 cls 65536 (by omega) (by omega)
  obtain ⟨kp, hkp⟩ : ∃ kp, wrap64 ((IntKind.u64.wrap kind).tmod 65536) = kp := ⟨_, rfl⟩
  obtain ⟨cp, hcp⟩ : ∃ cp, wrap64 ((IntKind.u64.wrap cls).tmod 65536) = cp := ⟨_, rfl⟩
  have KN := fun w1 => playName_any (mkS name) (by rw [mkS_size]; exact hns) w1
  rw [mkS_data] at KN
  have port_k := fun w1 => port_below kind w1
  have port_c := fun w1 => port_below cls w1
  rw [hkp] at q1 q2 port_k
  rw [hcp] at q3 q4 port_c
  obtain ⟨X, hX⟩ : ∃ X : Rc, X = ⟨playN name, kp, cp, ttl, false, zero16, [], []⟩ := ⟨_, rfl⟩
  have HX := Lib.hid hX
  clear hX
  go_enter Tryz.func23, Tryz.ntmps23
  go_upto_region 1 with (rw [HW.out]; refine wpList_alloc_rc rfl rfl ?_; intro w1 a1 g1 z1; have H1 := Lib.hid (And.intro (HA.out.1.later g1 (Nat.le_refl _)) (And.intro a1 (And.intro g1 (HA.out.2.trans (g1.mono HA.out.2.size))))); clear a1 g1 z1)
  simp only [Act.put, List.setIfInBounds_toArray, List.set_cons_zero, List.set_cons_succ]
  go_cut [3] (fun p wx => ∃ g : Nat, p = .pointer (some ⟨g, 0, none⟩) ∧ w1.heap.size ≤ g ∧ RcBox wx g X none 0 0 ∧ Below w1.heap.size w1 wx)
  case first =>
    have d0 : ∀ w', Below w1.heap.size w1 w' → w'.cell? ⟨w.heap.size, 0, none⟩ = some (.string (mkS name)) := fun w' h => (H1.out.1.later h (Nat.le_refl _)).name
    have d1 : ∀ w', Below w1.heap.size w1 w' → w'.cell? ⟨w.heap.size, 1, none⟩ = some (.int .i64 kind) := fun w' h => (H1.out.1.later h (Nat.le_refl _)).kind
    have d2 : ∀ w', Below w1.heap.size w1 w' → w'.cell? ⟨w.heap.size, 2, none⟩ = some (.int .i64 cls) := fun w' h => (H1.out.1.later h (Nat.le_refl _)).cls
    have d3 : ∀ w', Below w1.heap.size w1 w' → w'.cell? ⟨w.heap.size, 3, none⟩ = some (.int .u32 ttl) := fun w' h => (H1.out.1.later h (Nat.le_refl _)).ttl
    have hS : Below w1.heap.size w1 w1.drew := (Below.refl _ _).drew
    refine rg_begin (fun w' => Below w1.heap.size w1 w') 14 (by kernel_rfl) rfl ?_
    obtain ⟨W0, hW0⟩ : ∃ W0, w1.drew = W0 := ⟨_, rfl⟩
    rw [hW0] at hS ⊢
    clear hW0
    refine rg_take 0 (v := ?rv1) rfl (by kernel_rfl) (by kernel_rfl) (by kernel_rfl) (fun _ _ _ h => h) (by rfl) hS (fun w2 hw2 => ?ry1) ?rr1
    case ry1 => ((try dsimp only at hw2); go_simp <;> with_reducible rfl)
    simp only [Act.put, List.setIfInBounds_toArray, List.set_cons_zero, List.set_cons_succ]
    refine rg_take 3 (v := ?rv2) rfl (by kernel_rfl) (by kernel_rfl) (by kernel_rfl) (fun _ _ _ h => h) (by rfl) hS (fun w2 hw2 => ?ry2) ?rr2
    case ry2 => ((try dsimp only at hw2); go_simp <;> with_reducible rfl)
    simp only [Act.put, List.setIfInBounds_toArray, List.set_cons_zero, List.set_cons_succ]
    refine rg_take 6 (v := ?rv3) rfl (by kernel_rfl) (by kernel_rfl) (by kernel_rfl) (fun _ _ _ h => h) (by rfl) hS (fun w2 hw2 => ?ry3) ?rr3
    case ry3 => ((try dsimp only at hw2); go_simp <;> with_reducible rfl)
    simp only [Act.put, List.setIfInBounds_toArray, List.set_cons_zero, List.set_cons_succ]
    refine rg_take 9 (v := ?rv4) rfl (by kernel_rfl) (by kernel_rfl) (by kernel_rfl) (fun _ _ _ h => h) (by rfl) hS (fun w2 hw2 => ?ry4) ?rr4
    case ry4 => ((try dsimp only at hw2); go_simp <;> with_reducible rfl)
    simp only [Act.put, List.setIfInBounds_toArray, List.set_cons_zero, List.set_cons_succ]
    refine rg_take 1 (v := ?rv5) rfl (by kernel_rfl) (by kernel_rfl) (by kernel_rfl) (fun _ _ _ h => h) (by rfl) hS (fun w2 hw2 => ?ry5) ?rr5
    case ry5 => ((try dsimp only at hw2); go_simp <;> with_reducible rfl)
    simp only [Act.put, List.setIfInBounds_toArray, List.set_cons_zero, List.set_cons_succ]
    refine rg_take 4 (v := ?rv6) rfl (by kernel_rfl) (by kernel_rfl) (by kernel_rfl) (fun _ _ _ h => h) (by rfl) hS (fun w2 hw2 => ?ry6) ?rr6
    case ry6 => ((try dsimp only at hw2); go_simp <;> with_reducible rfl)
    simp only [Act.put, List.setIfInBounds_toArray, List.set_cons_zero, List.set_cons_succ]
    refine rg_take 7 (v := ?rv7) rfl (by kernel_rfl) (by kernel_rfl) (by kernel_rfl) (fun _ _ _ h => h) (by rfl) hS (fun w2 hw2 => ?ry7) ?rr7
    case ry7 => ((try dsimp only at hw2); go_simp <;> with_reducible rfl)
    simp only [Act.put, List.setIfInBounds_toArray, List.set_cons_zero, List.set_cons_succ]
    refine rg_take 10 (v := ?rv8) rfl (by kernel_rfl) (by kernel_rfl) (by kernel_rfl) (fun _ _ _ h => h) (by rfl) hS (fun w2 hw2 => ?ry8) ?rr8
    case ry8 => ((try dsimp only at hw2); go_simp <;> with_reducible rfl)
    simp only [Act.put, List.setIfInBounds_toArray, List.set_cons_zero, List.set_cons_succ]
    clear d0 d1 d2 d3
    refine rg_any [2, 12] (by kernel_rfl) (by simp) ?_
    refine rg_or 2 rfl (by rfl) (fun K hK => ?_) ?_
    · go_simp
      refine (KN _).mono ?_
      rintro e u1 ⟨rfl, bK⟩
      replace hS := hS.trans (bK.mono hS.size)
      clear bK
      refine hK.out _ _ hS ?_
      clear hK K
      try simp only [Act.put, List.setIfInBounds_toArray, List.set_cons_zero, List.set_cons_succ]
      refine rg_any [5, 12] (by kernel_rfl) (by simp) ?_
      refine rg_or 5 rfl (by rfl) (fun K hK => ?_) ?_
      · go_simp
        refine (port_k _).mono ?_
        rintro e u2 ⟨rfl, bK⟩
        replace hS := hS.trans (bK.mono hS.size)
        clear bK
        refine hK.out _ _ hS ?_
        clear hK K
        try simp only [Act.put, List.setIfInBounds_toArray, List.set_cons_zero, List.set_cons_succ]
        refine rg_any [8, 12] (by kernel_rfl) (by simp) ?_
        refine rg_or 8 rfl (by rfl) (fun K hK => ?_) ?_
        · go_simp
          refine (port_c _).mono ?_
          rintro e u3 ⟨rfl, bK⟩
          replace hS := hS.trans (bK.mono hS.size)
          clear bK
          refine hK.out _ _ hS ?_
          clear hK K
          try simp only [Act.put, List.setIfInBounds_toArray, List.set_cons_zero, List.set_cons_succ]
          refine rg_any [11, 12] (by kernel_rfl) (by simp) ?_
          refine rg_or 11 rfl (by rfl) (fun K hK => ?_) ?_
          · refine wp_build_rc4 (.tmp 6) (.tmp 9) (.tmp 12) (.tmp 14) rfl (playN name) kp cp ttl rfl rfl rfl rfl ?_
            rw [← HX.out]
            refine hK.out _ _ hS ?_
            clear hK K
            try simp only [Act.put, List.setIfInBounds_toArray, List.set_cons_zero, List.set_cons_succ]
            refine rg_step 12 rfl (by kernel_rfl) (by rfl) (fun K hK => ?_)
            refine wp_alloc_rc rfl ?_
            intro u5 F bK _
            have lF := hS.size
            replace hS := hS.trans (bK.mono hS.size)
            clear bK
            refine hK.out _ _ hS ?_
            clear hK K
            try simp only [Act.put, List.setIfInBounds_toArray, List.set_cons_zero, List.set_cons_succ]
            refine rg_step 13 rfl (by kernel_rfl) (by rfl) (fun K hK => ?_)
            refine wp_store_rc (.tmp 3) (.tmp 15) rfl X none 0 0 rfl rfl (HX.out ▸ rfl) F ?_
            intro x F2 o2 z2 g2
            replace hS := g2 _ _ lF hS
            refine hK.out _ _ hS ?_
            clear hK K
            simp only [Act.put]
            refine rg_done (by kernel_rfl) ?_
            go_wp2_with fail
            go_meet
            exact ⟨_, rfl, lF, F2, hS⟩
          refine rg_or 12 rfl (by rfl) (fun K hK => ?_) ?_
          · refine wp_alloc_rc rfl ?_
            intro u6 F bK _
            have lF := hS.size
            replace hS := hS.trans (bK.mono hS.size)
            clear bK
            refine hK.out _ _ hS ?_
            clear hK K
            try simp only [Act.put, List.setIfInBounds_toArray, List.set_cons_zero, List.set_cons_succ]
            refine rg_step 11 rfl (by kernel_rfl) (by rfl) (fun K hK => ?_)
            refine wp_build_rc4 (.tmp 6) (.tmp 9) (.tmp 12) (.tmp 14) rfl (playN name) kp cp ttl rfl rfl rfl rfl ?_
            rw [← HX.out]
            refine hK.out _ _ hS ?_
            clear hK K
            try simp only [Act.put, List.setIfInBounds_toArray, List.set_cons_zero, List.set_cons_succ]
            refine rg_step 13 rfl (by kernel_rfl) (by rfl) (fun K hK => ?_)
            refine wp_store_rc (.tmp 3) (.tmp 15) rfl X none 0 0 rfl rfl (HX.out ▸ rfl) F ?_
            intro x F2 o2 z2 g2
            replace hS := g2 _ _ lF hS
            refine hK.out _ _ hS ?_
            clear hK K
            simp only [Act.put]
            refine rg_done (by kernel_rfl) ?_
            go_wp2_with fail
            go_meet
            exact ⟨_, rfl, lF, F2, hS⟩
          exact AllReadyH.nil
        refine rg_or 12 rfl (by rfl) (fun K hK => ?_) ?_
        · refine wp_alloc_rc rfl ?_
          intro u8 F bK _
          have lF := hS.size
          replace hS := hS.trans (bK.mono hS.size)
          clear bK
          refine hK.out _ _ hS ?_
          clear hK K
          try simp only [Act.put, List.setIfInBounds_toArray, List.set_cons_zero, List.set_cons_succ]
          refine rg_step 8 rfl (by kernel_rfl) (by rfl) (fun K hK => ?_)
          go_simp
          refine (port_c _).mono ?_
          rintro e u9 ⟨rfl, bK⟩
          replace F := F.later bK (Nat.le_refl _)
          replace hS := hS.trans (bK.mono hS.size)
          clear bK
          refine hK.out _ _ hS ?_
          clear hK K
          try simp only [Act.put, List.setIfInBounds_toArray, List.set_cons_zero, List.set_cons_succ]
          refine rg_step 11 rfl (by kernel_rfl) (by rfl) (fun K hK => ?_)
          refine wp_build_rc4 (.tmp 6) (.tmp 9) (.tmp 12) (.tmp 14) rfl (playN name) kp cp ttl rfl rfl rfl rfl ?_
          rw [← HX.out]
          refine hK.out _ _ hS ?_
          clear hK K
          try simp only [Act.put, List.setIfInBounds_toArray, List.set_cons_zero, List.set_cons_succ]
          refine rg_step 13 rfl (by kernel_rfl) (by rfl) (fun K hK => ?_)
          refine wp_store_rc (.tmp 3) (.tmp 15) rfl X none 0 0 rfl rfl (HX.out ▸ rfl) F ?_
          intro x F2 o2 z2 g2
          replace hS := g2 _ _ lF hS
          refine hK.out _ _ hS ?_
          clear hK K
          simp only [Act.put]
          refine rg_done (by kernel_rfl) ?_
          go_wp2_with fail
          go_meet
          exact ⟨_, rfl, lF, F2, hS⟩
        exact AllReadyH.nil
      refine rg_or 12 rfl (by rfl) (fun K hK => ?_) ?_
      · refine wp_alloc_rc rfl ?_
        intro u11 F bK _
        have lF := hS.size
        replace hS := hS.trans (bK.mono hS.size)
        clear bK
        refine hK.out _ _ hS ?_
        clear hK K
        try simp only [Act.put, List.setIfInBounds_toArray, List.set_cons_zero, List.set_cons_succ]
        refine rg_step 5 rfl (by kernel_rfl) (by rfl) (fun K hK => ?_)
        go_simp
        refine (port_k _).mono ?_
        rintro e u12 ⟨rfl, bK⟩
        replace F := F.later bK (Nat.le_refl _)
        replace hS := hS.trans (bK.mono hS.size)
        clear bK
        refine hK.out _ _ hS ?_
        clear hK K
        try simp only [Act.put, List.setIfInBounds_toArray, List.set_cons_zero, List.set_cons_succ]
        refine rg_step 8 rfl (by kernel_rfl) (by rfl) (fun K hK => ?_)
        go_simp
        refine (port_c _).mono ?_
        rintro e u13 ⟨rfl, bK⟩
        replace F := F.later bK (Nat.le_refl _)
        replace hS := hS.trans (bK.mono hS.size)
        clear bK
        refine hK.out _ _ hS ?_
        clear hK K
        try simp only [Act.put, List.setIfInBounds_toArray, List.set_cons_zero, List.set_cons_succ]
        refine rg_step 11 rfl (by kernel_rfl) (by rfl) (fun K hK => ?_)
        refine wp_build_rc4 (.tmp 6) (.tmp 9) (.tmp 12) (.tmp 14) rfl (playN name) kp cp ttl rfl rfl rfl rfl ?_
        rw [← HX.out]
        refine hK.out _ _ hS ?_
        clear hK K
        try simp only [Act.put, List.setIfInBounds_toArray, List.set_cons_zero, List.set_cons_succ]
        refine rg_step 13 rfl (by kernel_rfl) (by rfl) (fun K hK => ?_)
        refine wp_store_rc (.tmp 3) (.tmp 15) rfl X none 0 0 rfl rfl (HX.out ▸ rfl) F ?_
        intro x F2 o2 z2 g2
        replace hS := g2 _ _ lF hS
        refine hK.out _ _ hS ?_
        clear hK K
        simp only [Act.put]
        refine rg_done (by kernel_rfl) ?_
        go_wp2_with fail
        go_meet
        exact ⟨_, rfl, lF, F2, hS⟩
      exact AllReadyH.nil
    refine rg_or 12 rfl (by rfl) (fun K hK => ?_) ?_
    · refine wp_alloc_rc rfl ?_
      intro u15 F bK _
      have lF := hS.size
      replace hS := hS.trans (bK.mono hS.size)
      clear bK
      refine hK.out _ _ hS ?_
      clear hK K
      try simp only [Act.put, List.setIfInBounds_toArray, List.set_cons_zero, List.set_cons_succ]
      refine rg_step 2 rfl (by kernel_rfl) (by rfl) (fun K hK => ?_)
      go_simp
      refine (KN _).mono ?_
      rintro e u16 ⟨rfl, bK⟩
      replace F := F.later bK (Nat.le_refl _)
      replace hS := hS.trans (bK.mono hS.size)
      clear bK
      refine hK.out _ _ hS ?_
      clear hK K
      try simp only [Act.put, List.setIfInBounds_toArray, List.set_cons_zero, List.set_cons_succ]
      refine rg_step 5 rfl (by kernel_rfl) (by rfl) (fun K hK => ?_)
      go_simp
      refine (port_k _).mono ?_
      rintro e u17 ⟨rfl, bK⟩
      replace F := F.later bK (Nat.le_refl _)
      replace hS := hS.trans (bK.mono hS.size)
      clear bK
      refine hK.out _ _ hS ?_
      clear hK K
      try simp only [Act.put, List.setIfInBounds_toArray, List.set_cons_zero, List.set_cons_succ]
      refine rg_step 8 rfl (by kernel_rfl) (by rfl) (fun K hK => ?_)
      go_simp
      refine (port_c _).mono ?_
      rintro e u18 ⟨rfl, bK⟩
      replace F := F.later bK (Nat.le_refl _)
      replace hS := hS.trans (bK.mono hS.size)
      clear bK
      refine hK.out _ _ hS ?_
      clear hK K
      try simp only [Act.put, List.setIfInBounds_toArray, List.set_cons_zero, List.set_cons_succ]
      refine rg_step 11 rfl (by kernel_rfl) (by rfl) (fun K hK => ?_)
      refine wp_build_rc4 (.tmp 6) (.tmp 9) (.tmp 12) (.tmp 14) rfl (playN name) kp cp ttl rfl rfl rfl rfl ?_
      rw [← HX.out]
      refine hK.out _ _ hS ?_
      clear hK K
      try simp only [Act.put, List.setIfInBounds_toArray, List.set_cons_zero, List.set_cons_succ]
      refine rg_step 13 rfl (by kernel_rfl) (by rfl) (fun K hK => ?_)
      refine wp_store_rc (.tmp 3) (.tmp 15) rfl X none 0 0 rfl rfl (HX.out ▸ rfl) F ?_
      intro x F2 o2 z2 g2
      replace hS := g2 _ _ lF hS
      refine hK.out _ _ hS ?_
      clear hK K
      simp only [Act.put]
      refine rg_done (by kernel_rfl) ?_
      go_wp2_with fail
      go_meet
      exact ⟨_, rfl, lF, F2, hS⟩
    exact AllReadyH.nil
  case rest =>
    obtain ⟨g, rfl, hgl, x1, x2⟩ := hcut
    rw [HX.out] at x1
    clear HX
    obtain ⟨W5, rfl⟩ : ∃ W5, W5 = wc := ⟨_, rfl⟩
    have hWg : W.heap.size < g := Nat.lt_of_lt_of_le H1.out.2.1.lt hgl
    have hwg : w.heap.size < g := Nat.lt_of_le_of_lt hle hWg
    have x3 := H1.out.2.2.2.trans (x2.mono H1.out.2.2.2.size)
    have x0 := H1.out.1.later x2 (Nat.le_refl _)
    have x4 := H1.out.2.1.later x2 (Nat.le_refl _)
    have e1 : W5.cell? ⟨g, 1, none⟩ = some (.int .i64 kp) := x1.kind
    have e21 : W5.cell? ⟨w.heap.size, 21, none⟩ = some (.string (mkS target)) := x0.target
    have e22 : W5.cell? ⟨w.heap.size, 22, none⟩ = some (.slice A n c) := x0.data
    have hgW := x1.lt
    have hW5 : W.heap.size < W5.heap.size := by omega
    have H5 := Lib.hid (And.intro x0 (And.intro x4 (And.intro x1 x3)))
    clear x0 x1 x2 x3 x4
    by_cases h28 : kp = 28
    · clear hkp
      subst h28
      clear e21 e22
      go_wp2_with (refine wpList_load_rcAd rfl (.tmp 30) rfl rfl H5.out.1 ?_)
      refine (play_addr v6 true adr hk _).mono ?_
      rintro e w6 ⟨rfl, b6⟩
      have H6 := Lib.hid (And.intro (H5.out.2.1.later b6 (Nat.le_refl _)) (And.intro (H5.out.2.2.1.later b6 (Nat.le_refl _)) (H5.out.2.2.2.trans (b6.mono H5.out.2.2.2.size))))
      clear b6 e1
      go_wp2_with (first
        | (refine wpList_store_rc rfl (.tmp 2) (.tmp 43) rfl ⟨playN name, 28, cp, ttl, true, norm true adr, [], []⟩ none 0 0 rfl rfl (norm_len true hk) H7.out.1 ?_; intro w8 a8 o8 z8 g8; have H8 := Lib.hid (And.intro a8 (g8 w.heap.size w hle H7.out.2.2)); clear a8 o8 z8 g8)
        | (refine wpList_load_rc rfl (.tmp 3) rfl rfl H7.out.2.1 ?_)
        | (refine wpList_store_rcAd rfl (.tmp 36) (.tmp 35) rfl rfl rfl (norm_len true hk) H6.out.2.1 ?_; intro w7 a7 o7 z7 g7; have H7 := Lib.hid (And.intro (H6.out.1.same (o7 _ (Nat.ne_of_lt hWg))) (And.intro (show RcBox w7 g ⟨playN name, 28, cp, ttl, true, norm true adr, [], []⟩ none 0 0 from a7) (g7 w.heap.size w (Nat.le_of_lt hwg) H6.out.2.2))); clear a7 o7 z7 g7))
      exact bodyPost_ret (results_cell_row rfl _ _ W.heap.size 28 _ (0, 0) _ rfl H8.out.1.1 Tryz.underlying28 rfl (rc_size H8.out.1.2 _ _ _)) rfl ⟨⟨playN name, 28, cp, ttl, true, norm true adr, [], []⟩, none, 0, 0, rfl, plays_addr hk q3 q4 (.inl ⟨rfl, rfl⟩), Bs.nil _, (fun a ha => by cases ha), H8.out.2⟩
    by_cases h1 : kp = 1
    · clear hkp h28
      subst h1
      clear e21 e22
      go_wp2_with (refine wpList_load_rcAd rfl (.tmp 30) rfl rfl H5.out.1 ?_)
      refine (play_addr v6 false adr hk _).mono ?_
      rintro e w6 ⟨rfl, b6⟩
      have H6 := Lib.hid (And.intro (H5.out.2.1.later b6 (Nat.le_refl _)) (And.intro (H5.out.2.2.1.later b6 (Nat.le_refl _)) (H5.out.2.2.2.trans (b6.mono H5.out.2.2.2.size))))
      clear b6 e1
      go_wp2_with (first
        | (refine wpList_store_rc rfl (.tmp 2) (.tmp 43) rfl ⟨playN name, 1, cp, ttl, false, norm false adr, [], []⟩ none 0 0 rfl rfl (norm_len false hk) H7.out.1 ?_; intro w8 a8 o8 z8 g8; have H8 := Lib.hid (And.intro a8 (g8 w.heap.size w hle H7.out.2.2)); clear a8 o8 z8 g8)
        | (refine wpList_load_rc rfl (.tmp 3) rfl rfl H7.out.2.1 ?_)
        | (refine wpList_store_rcAd rfl (.tmp 36) (.tmp 35) rfl rfl rfl (norm_len false hk) H6.out.2.1 ?_; intro w7 a7 o7 z7 g7; have H7 := Lib.hid (And.intro (H6.out.1.same (o7 _ (Nat.ne_of_lt hWg))) (And.intro (show RcBox w7 g ⟨playN name, 1, cp, ttl, false, norm false adr, [], []⟩ none 0 0 from a7) (g7 w.heap.size w (Nat.le_of_lt hwg) H6.out.2.2))); clear a7 o7 z7 g7))
      exact bodyPost_ret (results_cell_row rfl _ _ W.heap.size 28 _ (0, 0) _ rfl H8.out.1.1 Tryz.underlying28 rfl (rc_size H8.out.1.2 _ _ _)) rfl ⟨⟨playN name, 1, cp, ttl, false, norm false adr, [], []⟩, none, 0, 0, rfl, plays_addr hk q3 q4 (.inr ⟨rfl, rfl⟩), Bs.nil _, (fun a ha => by cases ha), H8.out.2⟩
    by_cases h5 : kp = 5
    · clear hkp h28 h1
      subst h5
      clear e22
      go_wp2_with fail
      refine (playName_any (mkS target) (by rw [mkS_size]; exact hts) _).mono ?_
      rw [mkS_data]
      rintro e w6 ⟨rfl, b6⟩
      have H6 := Lib.hid (And.intro (H5.out.2.1.later b6 (Nat.le_refl _)) (And.intro (H5.out.2.2.1.later b6 (Nat.le_refl _)) (H5.out.2.2.2.trans (b6.mono H5.out.2.2.2.size))))
      clear b6 e1 e21
      go_wp2_with (first
        | (refine wpList_store_rc rfl (.tmp 2) (.tmp 43) rfl ⟨playN name, 5, cp, ttl, false, zero16, playN target, []⟩ none 0 0 rfl rfl rfl H7.out.1 ?_; intro w8 a8 o8 z8 g8; have H8 := Lib.hid (And.intro a8 (g8 w.heap.size w hle H7.out.2.2)); clear a8 o8 z8 g8)
        | (refine wpList_load_rc rfl (.tmp 3) rfl rfl H7.out.2.1 ?_)
        | (refine wpList_putTarget_rc rfl (.tmp 42) (.tmp 41) rfl (playN target) rfl rfl H6.out.2.1 ?_; intro w7 a7 o7 z7 g7; have H7 := Lib.hid (And.intro (H6.out.1.same (o7 _ (Nat.ne_of_lt hWg))) (And.intro (show RcBox w7 g ⟨playN name, 5, cp, ttl, false, zero16, playN target, []⟩ none 0 0 from a7) (g7 w.heap.size w (Nat.le_of_lt hwg) H6.out.2.2))); clear a7 o7 z7 g7))
      exact bodyPost_ret (results_cell_row rfl _ _ W.heap.size 28 _ (0, 0) _ rfl H8.out.1.1 Tryz.underlying28 rfl (rc_size H8.out.1.2 _ _ _)) rfl ⟨⟨playN name, 5, cp, ttl, false, zero16, playN target, []⟩, none, 0, 0, rfl, plays_name q3 q4, Bs.nil _, (fun a ha => by cases ha), H8.out.2⟩
    · obtain ⟨k, hkn⟩ : ∃ k : Nat, min (n : Int) 40 = (k : Int) := ⟨min n 40, by omega⟩
      have hk40 : k ≤ 40 := by omega
      have hkn2 : k ≤ n := by omega
      have u1 : (k : Int) ≤ (c : Int) := by omega
      have hcut := HB.out.cut (i := 0) (k := k) (by omega) (A' := A) (fun _ => by cases A <;> simp [Addr.add]) (fun h => h)
      rw [List.drop_zero, Nat.sub_zero] at hcut
      have hdl : (data.take k).length ≤ 40 := by rw [List.length_take]; omega
      have HC := Lib.hid hcut
      clear hcut hkp e21
      go_wp2_with (first
        | (refine wpList_store_rc rfl (.tmp 2) (.tmp 43) rfl ⟨playN name, kp, cp, ttl, false, zero16, [], data.take k⟩ A6 k c6 rfl rfl rfl H7.out.1 ?_; intro w8 a8 o8 z8 g8; have H8 := Lib.hid (And.intro a8 (And.intro (H7.out.2.2.1.farBlk (fun a ha => Nat.ne_of_gt (Nat.lt_of_lt_of_le hW5 (H6.out.2.2.1.2 a ha))) o8) (g8 w.heap.size w hle H7.out.2.2.2))); clear a8 o8 z8 g8)
        | (refine wpList_load_rc rfl (.tmp 3) rfl rfl H7.out.2.1 ?_)
        | (refine wpList_putData_rc rfl (.tmp 26) (.tmp 25) rfl (data.take k) A6 k c6 rfl rfl H6.out.2.1 ?_; intro w7 a7 o7 z7 g7; have H7 := Lib.hid (And.intro (H6.out.1.same (o7 _ (Nat.ne_of_lt hWg))) (And.intro (show RcBox w7 g ⟨playN name, kp, cp, ttl, false, zero16, [], data.take k⟩ A6 k c6 from a7) (And.intro (H6.out.2.2.1.1.farBlk (fun a ha => Nat.ne_of_gt (Nat.lt_of_lt_of_le hgW (H6.out.2.2.1.2 a ha))) o7) (g7 w.heap.size w (Nat.le_of_lt hwg) H6.out.2.2.2.2)))); clear a7 o7 z7 g7)
        | (at_builtin; refine wpList_append_bs rfl (.const (.slice none 0 0)) (.tmp 24) 22 rfl W5.heap.size 5 info5 Tryz.underlying22 _ 0 [] rfl (World.ownsRow_nil _ _ _ _) A k c (data.take k) rfl (HC.out.later H5.out.2.2.2 (Nat.le_refl _)) (by omega) (Nat.le_refl _) ?_; intro v6' w6 o6 g6 n6 m6; have b6 : Below W5.heap.size W5 w6 := (Below.refl _ W5).grown g6 (Nat.le_refl _) (fun x hx => by cases hx); (have o6' := owns_n (n' := k) (by omega) o6); rw [List.nil_append] at o6'; obtain ⟨A6, c6, rfl, hB6⟩ := Bs.of_own o6'; have H6 := Lib.hid (And.intro (H5.out.2.1.later b6 (Nat.le_refl _)) (And.intro (H5.out.2.2.1.later b6 (Nat.le_refl _)) (And.intro (And.intro hB6 (own_ow o6')) (And.intro b6 (H5.out.2.2.2.trans (b6.mono H5.out.2.2.2.size)))))); clear o6 g6 n6 m6 b6 o6' hB6))
      exact bodyPost_ret (results_cell_row rfl _ _ W.heap.size 28 _ (0, 0) _ rfl H8.out.1.1 Tryz.underlying28 rfl (rc_size H8.out.1.2 _ _ _)) rfl ⟨⟨playN name, kp, cp, ttl, false, zero16, [], data.take k⟩, A6, k, c6, rfl, plays_data h28 h1 h5 q1 q2 q3 q4 hdl, H8.out.2.1, (fun a ha => Nat.le_trans H5.out.2.2.2.size (H6.out.2.2.1.2 a ha)), H8.out.2.2⟩
end Go.Proofs.YtddnfbkmhgflbaaGreatDoor

namespace Go.Proofs.YtddnfbkmhgflbaaGreatDoor
open Go.RowKit
set_option maxRecDepth 100000

theorem class_right {k c : Nat} (hk : k < 65536) (hc : c < 65536) (h1 : ¬ k = 1) (h28 : ¬ k = 28) (h5 : ¬ k = 5) (ttl : Int) {l : List UInt8} (hl : l.length ≤ 500) : rightR ⟨[120], k, c, ttl, false, zero16, [], l⟩ := by
  have hks : shortI (k : Int) := by unfold shortI; omega
  have hcs : shortI (c : Int) := by unfold shortI; omega
  refine ⟨⟨right_x, hks, hcs⟩, zeros_rightA _, (by decide +kernel : rightN []), Nat.le_trans hl (by omega), ?_⟩
  unfold alikeV bareV
  dsimp only
  rw [if_neg (by omega), if_neg (by omega), if_neg (by omega)]
  exact ⟨⟨rfl, rfl⟩, rfl, rfl⟩
/-- The thirteen bytes ahead of what it bears. -/
def clsB (k c ttl n : Int) : List UInt8 := [1, 120, 0] ++ (putn k 2 ++ putn c 2) ++ (putn ttl 4 ++ putn n 2)
theorem class_bytes {k c n : Nat} (h1 : ¬ k = 1) (h28 : ¬ k = 28) (h5 : ¬ k = 5) (ttl : Int) {l : List UInt8} (hl : l.length = n) : clsB k c ttl n ++ l = writeRB ⟨[120], k, c, ttl, false, zero16, [], l⟩ := by
  have e : dataB ⟨[120], k, c, ttl, false, zero16, [], l⟩ = l := by
    unfold dataB
    dsimp only
    rw [if_neg (by omega), if_neg (by omega)]
  unfold writeRB writeQB
  rw [e, hl]
  unfold clsB
  simp only [List.append_assoc]
  rfl
theorem class_read {k c n : Nat} (hk : k < 65536) (hc : c < 65536) (h1 : ¬ k = 1) (h28 : ¬ k = 28) (h5 : ¬ k = 5) {ttl : Int} (t0 : 0 ≤ ttl) (t1 : ttl < 4294967296) {l : List UInt8} (hl : l.length = n) (h500 : n ≤ 500) :
    readRv (clsB k c ttl n ++ l) (13 + n) 0 = ⟨⟨[120], k, c, ttl, false, zero16, [], l⟩, 13 + n, fl0⟩ ∧ readQv (clsB k c ttl n ++ l) (13 + n) 0 = ⟨⟨[120], k, c⟩, 7, fl0⟩ := by
  have hr := class_right hk hc h1 h28 h5 ttl (l := l) (by omega)
  have hb := class_bytes (c := c) h1 h28 h5 ttl hl
  have hlen : (clsB k c ttl n ++ l).length = 13 + n := by rw [List.length_append, hl]; rfl
  constructor
  · have h := back_r hlen hr rfl t0 t1 (at_ := 0) (rest := []) (by omega) (by rw [List.drop_zero, List.append_nil]; exact hb)
    rw [← hb, hlen, Nat.zero_add] at h
    exact h
  · have h := back_q hlen (q := ⟨[120], k, c⟩) hr.1 (at_ := 0) (rest := (putn ttl 4 ++ putn (n : Nat) 2) ++ l) (by omega) (by
      rw [List.drop_zero]
      unfold clsB writeQB
      simp only [List.append_assoc]
      rfl)
    exact h
set_option maxHeartbeats 8000000 in
theorem recordClasses (kind cls : Int) {A : Option Addr} {n c : Nat} {l : List UInt8} {w : World} (hb : Bs w A n c l) (ttl : Int) (t0 : 0 ≤ ttl) (t1 : ttl < 4294967296) (hE : Env w) (hg : Handle w) :
    Calls Tryz.prog 8 #[.int .i64 kind, .int .i64 cls, .slice A n c, .int .u32 ttl] w fun e w' => e = .returned (.bool true) ∧ Below w.heap.size w w' := by
  have HB := Lib.hid hb
  have HE := Lib.hid (And.intro hE hg)
  have hlen := hb.len
  have hcap := hb.cap
  have hmax := hb.max
  unfold maxLen at hmax
  obtain ⟨q1, q2⟩ := num_mod8 kind 65536 (by omega) (by omega)
  obtain ⟨q3, q4⟩ := num_mod8 cls 65536 (by omega) (by omega)
  obtain ⟨k, hk⟩ : ∃ k : Nat, wrap64 ((IntKind.u64.wrap kind).tmod 65536) = (k : Int) := ⟨(wrap64 ((IntKind.u64.wrap kind).tmod 65536)).toNat, by omega⟩
  obtain ⟨d, hd⟩ : ∃ d : Nat, wrap64 ((IntKind.u64.wrap cls).tmod 65536) = (d : Int) := ⟨(wrap64 ((IntKind.u64.wrap cls).tmod 65536)).toNat, by omega⟩
  rw [hk] at q1 q2
  rw [hd] at q3 q4
  clear hb hE hg
  by_cases hn : 500 < n
  · have hqn : decide ((500 : Int) < (n : Int)) = true := decide_eq_true (by omega)
    go_enter Tryz.func8, Tryz.ntmps8
    go_wp2_with fail
    refine (awake13 HE.out.1).mono ?_
    rintro e w1 ⟨rfl, b1⟩
    have H1 := Lib.hid b1
    clear b1
    go_wp2_with fail
    go_ret
    exact ⟨rfl, H1.out⟩
  have hqn : decide ((500 : Int) < (n : Int)) = false := decide_eq_false (by omega)
  by_cases h1 : k = 1
  · subst h1
    go_enter Tryz.func8, Tryz.ntmps8
    go_wp2_with fail
    refine (awake13 HE.out.1).mono ?_
    rintro e w1 ⟨rfl, b1⟩
    have H1 := Lib.hid b1
    clear b1
    go_wp2_with fail
    go_ret
    exact ⟨rfl, H1.out⟩
  by_cases h28 : k = 28
  · subst h28
    go_enter Tryz.func8, Tryz.ntmps8
    go_wp2_with fail
    refine (awake13 HE.out.1).mono ?_
    rintro e w1 ⟨rfl, b1⟩
    have H1 := Lib.hid b1
    clear b1
    go_wp2_with fail
    go_ret
    exact ⟨rfl, H1.out⟩
  by_cases h5 : k = 5
  · subst h5
    go_enter Tryz.func8, Tryz.ntmps8
    go_wp2_with fail
    refine (awake13 HE.out.1).mono ?_
    rintro e w1 ⟨rfl, b1⟩
    have H1 := Lib.hid b1
    clear b1
    go_wp2_with fail
    go_ret
    exact ⟨rfl, H1.out⟩
  have u1 : ((k : Int) == 1) = false := beq_eq_false_iff_ne.2 (by omega)
  have u28 : ((k : Int) == 28) = false := beq_eq_false_iff_ne.2 (by omega)
  have u5 : ((k : Int) == 5) = false := beq_eq_false_iff_ne.2 (by omega)
  obtain ⟨hr, hq⟩ := class_read (c := d) (by omega : k < 65536) (by omega) h1 h28 h5 t0 t1 hlen (by omega)
  have HR := Lib.hid (And.intro hr hq)
  have hlit : (#[Value.int IntKind.u8 1, Value.int IntKind.u8 120, Value.int IntKind.u8 0, Value.int IntKind.u8 ((k : Int) / 256 % 256), Value.int IntKind.u8 ((k : Int) % 256), Value.int IntKind.u8 ((d : Int) / 256 % 256), Value.int IntKind.u8 ((d : Int) % 256), Value.int IntKind.u8 (ttl / 16777216 % 256), Value.int IntKind.u8 (ttl / 65536 % 256), Value.int IntKind.u8 (ttl / 256 % 256), Value.int IntKind.u8 (ttl % 256), Value.int IntKind.u8 ((n : Int) / 256), Value.int IntKind.u8 ((n : Int) % 256)] : Array Value).toList = bv (clsB k d ttl n) := by
    simp [clsB, putn, bv]
    omega
  have O0 := World.ownsRow_lit (base := w.heap.size) (e := 5) (size := 1) w #[Value.int IntKind.u8 1, Value.int IntKind.u8 120, Value.int IntKind.u8 0, Value.int IntKind.u8 ((k : Int) / 256 % 256), Value.int IntKind.u8 ((k : Int) % 256), Value.int IntKind.u8 ((d : Int) / 256 % 256), Value.int IntKind.u8 ((d : Int) % 256), Value.int IntKind.u8 (ttl / 16777216 % 256), Value.int IntKind.u8 (ttl / 65536 % 256), Value.int IntKind.u8 (ttl / 256 % 256), Value.int IntKind.u8 (ttl % 256), Value.int IntKind.u8 ((n : Int) / 256), Value.int IntKind.u8 ((n : Int) % 256)] 13 (Nat.le_refl _) (by unfold maxLen; omega) rfl
  rw [hlit] at O0
  have H0 := Lib.hid (And.intro O0 ((Below.refl w.heap.size w).alloc (Nat.le_refl _) (.cells #[Value.int IntKind.u8 1, Value.int IntKind.u8 120, Value.int IntKind.u8 0, Value.int IntKind.u8 ((k : Int) / 256 % 256), Value.int IntKind.u8 ((k : Int) % 256), Value.int IntKind.u8 ((d : Int) / 256 % 256), Value.int IntKind.u8 ((d : Int) % 256), Value.int IntKind.u8 (ttl / 16777216 % 256), Value.int IntKind.u8 (ttl / 65536 % 256), Value.int IntKind.u8 (ttl / 256 % 256), Value.int IntKind.u8 (ttl % 256), Value.int IntKind.u8 ((n : Int) / 256), Value.int IntKind.u8 ((n : Int) % 256)] 5)))
  have h500 : n ≤ 500 := by omega
  have H5 := Lib.hid h500
  have HL := Lib.hid hlen
  have heq := eql_qs ⟨[120], k, d⟩
  clear hr hq h1 h28 h5 t0 t1 q1 q2 q3 q4 hlen hcap hmax hlit O0 h500
  go_enter Tryz.func8, Tryz.ntmps8
  go_upto_region 5 with fail
  generalize w.alloc (.cells #[Value.int IntKind.u8 1, Value.int IntKind.u8 120, Value.int IntKind.u8 0, Value.int IntKind.u8 ((k : Int) / 256 % 256), Value.int IntKind.u8 ((k : Int) % 256), Value.int IntKind.u8 ((d : Int) / 256 % 256), Value.int IntKind.u8 ((d : Int) % 256), Value.int IntKind.u8 (ttl / 16777216 % 256), Value.int IntKind.u8 (ttl / 65536 % 256), Value.int IntKind.u8 (ttl / 256 % 256), Value.int IntKind.u8 (ttl % 256), Value.int IntKind.u8 ((n : Int) / 256), Value.int IntKind.u8 ((n : Int) % 256)] 5) = W0 at H0 ⊢
  go_wp2_with (at_builtin; refine wpList_append_bs rfl (.tmp 70) (.tmp 71) 22 rfl w.heap.size 5 info5 Tryz.underlying22 _ 13 (clsB k d ttl n) rfl H0.out.1 A n c l rfl (HB.out.later H0.out.2 (Nat.le_refl _)) (by omega) H0.out.2.size ?_; intro v1 w1 o1 g1 n1 m1; obtain ⟨A1, c1, rfl, hB1⟩ := Bs.of_own o1; have H1 := Lib.hid (And.intro hB1 (H0.out.2.grown g1 H0.out.2.size (fun q hq => (H0.out.1.lt q hq).1))); clear o1 g1 n1 m1 hB1)
  have kr := readR_any H1.out.1 (by have := H5.out; omega) 0 (by omega) (HE.out.2.later H1.out.2 (Nat.le_refl _))
  rw [HR.out.1] at kr
  unfold ReadRR at kr
  have KR := Lib.hid kr
  clear kr
  refine KR.out.mono ?_
  rintro e w2 ⟨A2, n2, c2, v2, rfl, hB2, t2, b2⟩
  obtain rfl := t2.none' rfl
  have H2 := Lib.hid (And.intro (H1.out.1.later b2 (Nat.le_refl _)) (And.intro hB2 (H1.out.2.trans (b2.mono H1.out.2.size))))
  clear hB2 t2 b2
  go_wp2_with (first
    | (refine wpList_store_rc rfl (.tmp 13) (.tmp 83) rfl ⟨[120], k, d, ttl, false, zero16, [], l⟩ A n c rfl rfl rfl H5a.out.2.1 ?_; intro w6 a6 f6 z6 g6; have H6 := Lib.hid (And.intro (H5a.out.1.same (f6 _ (Nat.ne_of_lt H4.out.1.lt))) (And.intro a6 (And.intro (H4.out.2.1.later (g6 w4.heap.size w4 (Nat.le_refl _) H5a.out.2.2.1) (Nat.le_refl _)) (And.intro (H4.out.2.2.1.later (g6 w4.heap.size w4 (Nat.le_refl _) H5a.out.2.2.1) (Nat.le_refl _)) (g6 w.heap.size w H4.out.2.2.2.size H5a.out.2.2.2))))); clear a6 f6 z6 g6)
    | (refine wpList_build_rc6 rfl (.const (.string ⟨#[120]⟩)) (.tmp 79) (.tmp 80) (.tmp 81) (.tmp 82) rfl [120] k d ttl A n c l rfl rfl rfl rfl rfl ?_)
    | (have q4 := H4.out.2.2.2; refine wpList_alloc_rc rfl rfl ?_; intro w5 a5 g5 z5; have H5a := Lib.hid (And.intro (H4.out.1.later g5 (Nat.le_refl _)) (And.intro a5 (And.intro g5 (q4.trans (g5.mono q4.size))))); clear a5 g5 z5 q4)
    | (refine wpList_store_rc rfl (.tmp 10) (.tmp 76) rfl ⟨[120], k, d, ttl, false, zero16, [], l⟩ A2 n2 c2 rfl rfl rfl H3.out.1 ?_; intro w4 a4 f4 z4 g4; have H4 := Lib.hid (And.intro a4 (And.intro (H2.out.1.later (g4 w2.heap.size w2 (Nat.le_refl _) H3.out.2.1) (Nat.le_refl _)) (And.intro (H2.out.2.1.later (g4 w2.heap.size w2 (Nat.le_refl _) H3.out.2.1) (Nat.le_refl _)) (g4 w.heap.size w H2.out.2.2.size H3.out.2.2)))); clear a4 f4 z4 g4)
    | (refine wpList_alloc_rc rfl rfl ?_; intro w3 a3 g3 z3; have H3 := Lib.hid (And.intro a3 (And.intro g3 (H2.out.2.2.trans (g3.mono H2.out.2.2.size)))); clear a3 g3 z3))
  have kq := readQ_any H6.out.2.2.1 (by have := H5.out; omega) 0 (by omega)
  rw [HR.out.2] at kq
  unfold ReadQR at kq
  have KQ := Lib.hid kq
  clear kq
  refine KQ.out.mono ?_
  rintro e w7 ⟨v7, rfl, t7, b7⟩
  obtain rfl := t7.none' rfl
  have H7 := Lib.hid (And.intro (H6.out.1.later b7 (Nat.le_refl _)) (And.intro (H6.out.2.1.later b7 (Nat.le_refl _)) (And.intro (H6.out.2.2.2.1.later b7 (Nat.le_refl _)) (H6.out.2.2.2.2.trans (b7.mono H6.out.2.2.2.2.size)))))
  clear t7 b7
  go_wp2_with (first
    | (refine wpList_store_qs rfl (.tmp 14) (.tmp 87) rfl ⟨[120], k, d⟩ rfl rfl H8.out.2.2.1 ?_; intro w9 a9 f9 z9 g9; have H9 := Lib.hid (And.intro (H7.out.1.later (g9 w7.heap.size w7 (Nat.le_refl _) H8.out.2.2.2.1) (Nat.le_refl _)) (And.intro (H7.out.2.1.later (g9 w7.heap.size w7 (Nat.le_refl _) H8.out.2.2.2.1) (Nat.le_refl _)) (And.intro (H7.out.2.2.1.later (g9 w7.heap.size w7 (Nat.le_refl _) H8.out.2.2.2.1) (Nat.le_refl _)) (And.intro a9 (g9 w.heap.size w H7.out.2.2.2.size H8.out.2.2.2.2))))); clear a9 f9 z9 g9)
    | (have q7 := H7.out.2.2.2; refine wpList_alloc_qs rfl rfl ?_; intro w8 a8 g8 z8; have H8 := Lib.hid (And.intro trivial (And.intro trivial (And.intro a8 (And.intro g8 (q7.trans (g8.mono q7.size)))))); clear a8 g8 z8 q7))
  refine (awake13 (HE.out.1.later H9.out.2.2.2.2 (Nat.le_refl _))).mono ?_
  rintro e w10 ⟨rfl, b10⟩
  have H10 := Lib.hid (And.intro (H9.out.1.later b10 (Nat.le_refl _)) (And.intro (H9.out.2.1.later b10 (Nat.le_refl _)) (And.intro (H9.out.2.2.1.later b10 (Nat.le_refl _)) (And.intro (H9.out.2.2.2.1.later b10 (Nat.le_refl _)) (H9.out.2.2.2.2.trans (b10.mono H9.out.2.2.2.2.size))))))
  clear b10
  go_wp2_with (first
    | (refine wpList_wanted (by rfl) (wp_load_rc (.tmp 10) rfl rfl H10.out.1 ?_))
    | (refine wpList_wanted (by rfl) (wp_load_rc (.tmp 13) rfl rfl H10.out.2.1 ?_)))
  refine (record_same (r := ⟨[120], k, d, ttl, false, zero16, [], l⟩) rfl H10.out.2.2.1 (HB.out.later H10.out.2.2.2.2 (Nat.le_refl _))).mono ?_
  rintro e w11 ⟨rfl, b11⟩
  have H11 := Lib.hid (And.intro (H10.out.2.2.2.1.later b11 (Nat.le_refl _)) (H10.out.2.2.2.2.trans (b11.mono H10.out.2.2.2.2.size)))
  clear b11
  go_wp2_with (first
    | (refine wpList_load_qs_w (by rfl) (.tmp 14) rfl rfl H11.out.1 ?_)
    | (refine wpList_wanted (by rfl) (wp_build_qs (.const (.string ⟨#[120]⟩)) (.tmp 112) (.tmp 113) rfl ⟨[120], k, d⟩ rfl rfl rfl ?_)))
  go_ret
  exact ⟨rfl, H11.out.2⟩
end Go.Proofs.YtddnfbkmhgflbaaGreatDoor

namespace Go.Proofs.YtddnfbkmhgflbaaGreatDoor
open Go.RowKit
set_option maxRecDepth 100000

set_option maxHeartbeats 8000000 in
theorem recordRefuses {r : Rc} (hk : r.ok) {A : Option Addr} {n c : Nat} {w : World} (hb : Bs w A n c r.data) (hns : r.name.length ≤ 9223372036854775807) (hts : r.target.length ≤ 9223372036854775807) (t0 : 0 ≤ r.ttl) (t1 : r.ttl < 4294967296) (what : Int) (hE : Env w) (hg : Handle w) :
    Calls Tryz.prog 6 #[.agg (rcv r A n c), .int .i64 what] w fun e w' => e = .returned (.bool true) ∧ Below w.heap.size w w' := by
  have a1 := RcBox.new w hk A n c
  have b1 : Below w.heap.size w (w.alloc (.cells (rcv r A n c) 28)) := (Below.refl _ _).alloc (Nat.le_refl _) _
  obtain ⟨W, hW⟩ : ∃ W, w.alloc (.cells (rcv r A n c) 28) = W := ⟨_, rfl⟩
  rw [hW] at a1 b1
  have HA := Lib.hid (And.intro a1 b1)
  have HW := Lib.hid hW
  have HE := Lib.hid (And.intro hE hg)
  have KP := Lib.hid (playR_any hk (hb.later b1 (Nat.le_refl _)) hns hts)
  have hle : w.heap.size < W.heap.size := a1.lt
  clear a1 b1 hW hb hE hg
  have hi : ∃ i : Int, (IntKind.u64.wrap what).tmod 6 = i ∧ 0 ≤ i ∧ i < 6 := by
    have h : IntKind.u64.wrap what = what % 18446744073709551616 := rfl
    have h2 : 0 ≤ IntKind.u64.wrap what := by rw [h]; omega
    refine ⟨_, rfl, ?_⟩
    rw [Int.tmod_eq_emod_of_nonneg h2]
    omega
  obtain ⟨i, hi, i0, i6⟩ := hi
  rcases (show i = 0 ∨ i = 1 ∨ i = 2 ∨ i = 3 ∨ i = 4 ∨ i = 5 by omega) with rfl | rfl | rfl | rfl | rfl | rfl
  · clear i0 i6
    go_enter Tryz.func6, Tryz.ntmps6
    go_wp2_with (rw [HW.out]; refine wpList_load_rc rfl (.tmp 2) rfl rfl HA.out.1 ?_)
    refine KP.out.mono ?_
    rintro e w2 ⟨x, A2, n2, c2, rfl, hx, hB2, o2, b2⟩
    have H2 := Lib.hid (And.intro (HA.out.1.later b2 (Nat.le_refl _)) (And.intro (And.intro hB2 (show ∀ a, A2 = some a → a.block ≠ w.heap.size from fun a ha => Nat.ne_of_gt (Nat.lt_of_lt_of_le hle (o2 a ha)))) (HA.out.2.trans (b2.mono HA.out.2.size))))
    have HX := Lib.hid hx
    clear hB2 o2 b2 hx
    go_wp2_with (refine wpList_store_rc rfl (.tmp 2) (.tmp 8) rfl x A2 n2 c2 rfl rfl HX.out.ok H2.out.1 ?_; intro w3 a3 f3 z3 g3; have H3 := Lib.hid (And.intro a3 (And.intro (H2.out.2.1.1.farBlk H2.out.2.1.2 f3) (g3 w.heap.size w (Nat.le_refl _) H2.out.2.2))); clear a3 f3 z3 g3)
    refine (awake13 (HE.out.1.later H3.out.2.2 (Nat.le_refl _))).mono ?_
    rintro e w4 ⟨rfl, b4⟩
    have H4 := Lib.hid (And.intro (H3.out.1.later b4 (Nat.le_refl _)) (And.intro (H3.out.2.1.later b4 (Nat.le_refl _)) (H3.out.2.2.trans (b4.mono H3.out.2.2.size))))
    clear b4
    go_wp2_with (refine wpList_wanted (by rfl) (wp_load_rc (.tmp 2) rfl rfl H4.out.1 ?_))
    have kr := rightR_any HX.out.ok H4.out.2.1 (Nat.le_trans HX.out.name (by omega)) (Nat.le_trans HX.out.target (by omega)) (HE.out.1.later H4.out.2.2 (Nat.le_refl _))
    rw [decide_eq_true HX.out.right] at kr
    refine kr.mono ?_
    clear kr
    rintro e w5 ⟨rfl, b5⟩
    have H5 := Lib.hid (And.intro (H4.out.1.later b5 (Nat.le_refl _)) (And.intro (H4.out.2.1.later b5 (Nat.le_refl _)) (H4.out.2.2.trans (b5.mono H4.out.2.2.size))))
    clear b5
    obtain ⟨y, hy⟩ : ∃ y : Rc, y = { x with name := [65] } := ⟨_, rfl⟩
    have hyk : y.ok := by rw [hy]; exact HX.out.ok
    have hyn : ¬ rightR y := by rw [hy]; exact fun h => not_right_A h.1.1
    have hyl : y.name.length ≤ 1000000 := by rw [hy]; exact (by decide : ([65] : List UInt8).length ≤ 1000000)
    have hyt : y.target.length ≤ 1000000 := by rw [hy]; exact Nat.le_trans HX.out.target (by omega)
    have hy0 : 0 ≤ y.ttl := by rw [hy]; show 0 ≤ x.ttl; rw [HX.out.time]; exact t0
    have hy1 : y.ttl < 4294967296 := by rw [hy]; show x.ttl < 4294967296; rw [HX.out.time]; exact t1
    have HY := Lib.hid hy
    have HYN := Lib.hid hyn
    clear hy hyn
    go_wp2_with (first
      | (refine wpList_load_rc rfl (.tmp 2) rfl rfl S0.out.1 ?_)
      | (refine wpList_putName_rc rfl (.tmp 26) (.const (.string ⟨#[65]⟩)) rfl [65] rfl rfl H5.out.1 ?_; intro s0 a f z g; have S0 := Lib.hid (And.intro (show RcBox s0 w.heap.size y A2 n2 c2 by rw [HY.out]; exact a) (And.intro (show Bs s0 A2 n2 c2 y.data by rw [HY.out]; exact ((H5.out.2.1.farBlk H2.out.2.1.2 f))) (g w.heap.size w (Nat.le_refl _) H5.out.2.2))); clear a f z g))
    have kw := writeR_any hyk S0.out.2.1 hyl hyt hy0 hy1 (HE.out.1.later S0.out.2.2 (Nat.le_refl _))
    unfold writeRv writeRe at kw
    rw [if_neg HYN.out, if_neg HYN.out] at kw
    refine kw.mono ?_
    clear kw
    rintro e w7 ⟨A7, c7, v7, rfl, hB7, t7, b7⟩
    obtain ⟨T, u, rfl⟩ := t7.held' (by decide)
    have H7 := Lib.hid (And.intro (S0.out.1.later b7 (Nat.le_refl _)) (And.intro (S0.out.2.1.later b7 (Nat.le_refl _)) (And.intro t7 (S0.out.2.2.trans (b7.mono S0.out.2.2.size)))))
    clear hB7 t7 b7
    go_wp2_with (refine wpList_load_rc rfl (.tmp 2) rfl rfl H7.out.1 ?_)
    have kr := rightR_any hyk H7.out.2.1 hyl hyt (HE.out.1.later H7.out.2.2.2 (Nat.le_refl _))
    rw [decide_eq_false HYN.out] at kr
    refine kr.mono ?_
    clear kr
    rintro e w8 ⟨rfl, b8⟩
    have H8 := Lib.hid (And.intro (H7.out.2.2.1.later b8 (Nat.le_refl _)) (H7.out.2.2.2.trans (b8.mono H7.out.2.2.2.size)))
    clear b8
    go_wp2_with fail
    refine (help_bare 1 w8).mono ?_
    rintro e w9 ⟨rfl, b9⟩
    have H9 := Lib.hid (And.intro (H8.out.1.later b9 (Nat.le_refl _)) (H8.out.2.trans (b9.mono H8.out.2.size)))
    clear b9
    go_wp2_with fail
    refine (is_told3 H9.out.1 (HE.out.2.later H9.out.2 (Nat.le_refl _))).mono ?_
    rintro e w10 ⟨rfl, b10⟩
    have H10 := Lib.hid (H9.out.2.trans (b10.mono H9.out.2.size))
    clear b10
    go_wp2_with fail
    go_ret
    exact ⟨rfl, H10.out⟩
  · clear i0 i6
    go_enter Tryz.func6, Tryz.ntmps6
    go_wp2_with (rw [HW.out]; refine wpList_load_rc rfl (.tmp 2) rfl rfl HA.out.1 ?_)
    refine KP.out.mono ?_
    rintro e w2 ⟨x, A2, n2, c2, rfl, hx, hB2, o2, b2⟩
    have H2 := Lib.hid (And.intro (HA.out.1.later b2 (Nat.le_refl _)) (And.intro (And.intro hB2 (show ∀ a, A2 = some a → a.block ≠ w.heap.size from fun a ha => Nat.ne_of_gt (Nat.lt_of_lt_of_le hle (o2 a ha)))) (HA.out.2.trans (b2.mono HA.out.2.size))))
    have HX := Lib.hid hx
    clear hB2 o2 b2 hx
    go_wp2_with (refine wpList_store_rc rfl (.tmp 2) (.tmp 8) rfl x A2 n2 c2 rfl rfl HX.out.ok H2.out.1 ?_; intro w3 a3 f3 z3 g3; have H3 := Lib.hid (And.intro a3 (And.intro (H2.out.2.1.1.farBlk H2.out.2.1.2 f3) (g3 w.heap.size w (Nat.le_refl _) H2.out.2.2))); clear a3 f3 z3 g3)
    refine (awake13 (HE.out.1.later H3.out.2.2 (Nat.le_refl _))).mono ?_
    rintro e w4 ⟨rfl, b4⟩
    have H4 := Lib.hid (And.intro (H3.out.1.later b4 (Nat.le_refl _)) (And.intro (H3.out.2.1.later b4 (Nat.le_refl _)) (H3.out.2.2.trans (b4.mono H3.out.2.2.size))))
    clear b4
    go_wp2_with (refine wpList_wanted (by rfl) (wp_load_rc (.tmp 2) rfl rfl H4.out.1 ?_))
    have kr := rightR_any HX.out.ok H4.out.2.1 (Nat.le_trans HX.out.name (by omega)) (Nat.le_trans HX.out.target (by omega)) (HE.out.1.later H4.out.2.2 (Nat.le_refl _))
    rw [decide_eq_true HX.out.right] at kr
    refine kr.mono ?_
    clear kr
    rintro e w5 ⟨rfl, b5⟩
    have H5 := Lib.hid (And.intro (H4.out.1.later b5 (Nat.le_refl _)) (And.intro (H4.out.2.1.later b5 (Nat.le_refl _)) (H4.out.2.2.trans (b5.mono H4.out.2.2.size))))
    clear b5
    obtain ⟨y, hy⟩ : ∃ y : Rc, y = { x with kind := 65536 } := ⟨_, rfl⟩
    have hyk : y.ok := by rw [hy]; exact HX.out.ok
    have hyn : ¬ rightR y := by rw [hy]; exact fun h => absurd h.1.2.1.2 (by show ¬ (65536 : Int) ≤ 65535; omega)
    have hyl : y.name.length ≤ 1000000 := by rw [hy]; exact Nat.le_trans HX.out.name (by omega)
    have hyt : y.target.length ≤ 1000000 := by rw [hy]; exact Nat.le_trans HX.out.target (by omega)
    have hy0 : 0 ≤ y.ttl := by rw [hy]; show 0 ≤ x.ttl; rw [HX.out.time]; exact t0
    have hy1 : y.ttl < 4294967296 := by rw [hy]; show x.ttl < 4294967296; rw [HX.out.time]; exact t1
    have HY := Lib.hid hy
    have HYN := Lib.hid hyn
    clear hy hyn
    go_wp2_with (first
      | (refine wpList_load_rc rfl (.tmp 2) rfl rfl S0.out.1 ?_)
      | (refine wpList_putKind_rc rfl (.tmp 29) (.const (.int .i64 65536)) rfl 65536 rfl rfl H5.out.1 ?_; intro s0 a f z g; have S0 := Lib.hid (And.intro (show RcBox s0 w.heap.size y A2 n2 c2 by rw [HY.out]; exact a) (And.intro (show Bs s0 A2 n2 c2 y.data by rw [HY.out]; exact ((H5.out.2.1.farBlk H2.out.2.1.2 f))) (g w.heap.size w (Nat.le_refl _) H5.out.2.2))); clear a f z g))
    have kw := writeR_any hyk S0.out.2.1 hyl hyt hy0 hy1 (HE.out.1.later S0.out.2.2 (Nat.le_refl _))
    unfold writeRv writeRe at kw
    rw [if_neg HYN.out, if_neg HYN.out] at kw
    refine kw.mono ?_
    clear kw
    rintro e w7 ⟨A7, c7, v7, rfl, hB7, t7, b7⟩
    obtain ⟨T, u, rfl⟩ := t7.held' (by decide)
    have H7 := Lib.hid (And.intro (S0.out.1.later b7 (Nat.le_refl _)) (And.intro (S0.out.2.1.later b7 (Nat.le_refl _)) (And.intro t7 (S0.out.2.2.trans (b7.mono S0.out.2.2.size)))))
    clear hB7 t7 b7
    go_wp2_with (refine wpList_load_rc rfl (.tmp 2) rfl rfl H7.out.1 ?_)
    have kr := rightR_any hyk H7.out.2.1 hyl hyt (HE.out.1.later H7.out.2.2.2 (Nat.le_refl _))
    rw [decide_eq_false HYN.out] at kr
    refine kr.mono ?_
    clear kr
    rintro e w8 ⟨rfl, b8⟩
    have H8 := Lib.hid (And.intro (H7.out.2.2.1.later b8 (Nat.le_refl _)) (H7.out.2.2.2.trans (b8.mono H7.out.2.2.2.size)))
    clear b8
    go_wp2_with fail
    refine (help_bare 1 w8).mono ?_
    rintro e w9 ⟨rfl, b9⟩
    have H9 := Lib.hid (And.intro (H8.out.1.later b9 (Nat.le_refl _)) (H8.out.2.trans (b9.mono H8.out.2.size)))
    clear b9
    go_wp2_with fail
    refine (is_told3 H9.out.1 (HE.out.2.later H9.out.2 (Nat.le_refl _))).mono ?_
    rintro e w10 ⟨rfl, b10⟩
    have H10 := Lib.hid (H9.out.2.trans (b10.mono H9.out.2.size))
    clear b10
    go_wp2_with fail
    go_ret
    exact ⟨rfl, H10.out⟩
  · clear i0 i6
    go_enter Tryz.func6, Tryz.ntmps6
    go_wp2_with (rw [HW.out]; refine wpList_load_rc rfl (.tmp 2) rfl rfl HA.out.1 ?_)
    refine KP.out.mono ?_
    rintro e w2 ⟨x, A2, n2, c2, rfl, hx, hB2, o2, b2⟩
    have H2 := Lib.hid (And.intro (HA.out.1.later b2 (Nat.le_refl _)) (And.intro (And.intro hB2 (show ∀ a, A2 = some a → a.block ≠ w.heap.size from fun a ha => Nat.ne_of_gt (Nat.lt_of_lt_of_le hle (o2 a ha)))) (HA.out.2.trans (b2.mono HA.out.2.size))))
    have HX := Lib.hid hx
    clear hB2 o2 b2 hx
    go_wp2_with (refine wpList_store_rc rfl (.tmp 2) (.tmp 8) rfl x A2 n2 c2 rfl rfl HX.out.ok H2.out.1 ?_; intro w3 a3 f3 z3 g3; have H3 := Lib.hid (And.intro a3 (And.intro (H2.out.2.1.1.farBlk H2.out.2.1.2 f3) (g3 w.heap.size w (Nat.le_refl _) H2.out.2.2))); clear a3 f3 z3 g3)
    refine (awake13 (HE.out.1.later H3.out.2.2 (Nat.le_refl _))).mono ?_
    rintro e w4 ⟨rfl, b4⟩
    have H4 := Lib.hid (And.intro (H3.out.1.later b4 (Nat.le_refl _)) (And.intro (H3.out.2.1.later b4 (Nat.le_refl _)) (H3.out.2.2.trans (b4.mono H3.out.2.2.size))))
    clear b4
    go_wp2_with (refine wpList_wanted (by rfl) (wp_load_rc (.tmp 2) rfl rfl H4.out.1 ?_))
    have kr := rightR_any HX.out.ok H4.out.2.1 (Nat.le_trans HX.out.name (by omega)) (Nat.le_trans HX.out.target (by omega)) (HE.out.1.later H4.out.2.2 (Nat.le_refl _))
    rw [decide_eq_true HX.out.right] at kr
    refine kr.mono ?_
    clear kr
    rintro e w5 ⟨rfl, b5⟩
    have H5 := Lib.hid (And.intro (H4.out.1.later b5 (Nat.le_refl _)) (And.intro (H4.out.2.1.later b5 (Nat.le_refl _)) (H4.out.2.2.trans (b5.mono H4.out.2.2.size))))
    clear b5
    obtain ⟨y, hy⟩ : ∃ y : Rc, y = { x with cls := -1 } := ⟨_, rfl⟩
    have hyk : y.ok := by rw [hy]; exact HX.out.ok
    have hyn : ¬ rightR y := by rw [hy]; exact fun h => absurd h.1.2.2.1 (by show ¬ (0 : Int) ≤ -1; omega)
    have hyl : y.name.length ≤ 1000000 := by rw [hy]; exact Nat.le_trans HX.out.name (by omega)
    have hyt : y.target.length ≤ 1000000 := by rw [hy]; exact Nat.le_trans HX.out.target (by omega)
    have hy0 : 0 ≤ y.ttl := by rw [hy]; show 0 ≤ x.ttl; rw [HX.out.time]; exact t0
    have hy1 : y.ttl < 4294967296 := by rw [hy]; show x.ttl < 4294967296; rw [HX.out.time]; exact t1
    have HY := Lib.hid hy
    have HYN := Lib.hid hyn
    clear hy hyn
    go_wp2_with (first
      | (refine wpList_load_rc rfl (.tmp 2) rfl rfl S0.out.1 ?_)
      | (refine wpList_putCls_rc rfl (.tmp 32) (.const (.int .i64 (-1))) rfl (-1) rfl rfl H5.out.1 ?_; intro s0 a f z g; have S0 := Lib.hid (And.intro (show RcBox s0 w.heap.size y A2 n2 c2 by rw [HY.out]; exact a) (And.intro (show Bs s0 A2 n2 c2 y.data by rw [HY.out]; exact ((H5.out.2.1.farBlk H2.out.2.1.2 f))) (g w.heap.size w (Nat.le_refl _) H5.out.2.2))); clear a f z g))
    have kw := writeR_any hyk S0.out.2.1 hyl hyt hy0 hy1 (HE.out.1.later S0.out.2.2 (Nat.le_refl _))
    unfold writeRv writeRe at kw
    rw [if_neg HYN.out, if_neg HYN.out] at kw
    refine kw.mono ?_
    clear kw
    rintro e w7 ⟨A7, c7, v7, rfl, hB7, t7, b7⟩
    obtain ⟨T, u, rfl⟩ := t7.held' (by decide)
    have H7 := Lib.hid (And.intro (S0.out.1.later b7 (Nat.le_refl _)) (And.intro (S0.out.2.1.later b7 (Nat.le_refl _)) (And.intro t7 (S0.out.2.2.trans (b7.mono S0.out.2.2.size)))))
    clear hB7 t7 b7
    go_wp2_with (refine wpList_load_rc rfl (.tmp 2) rfl rfl H7.out.1 ?_)
    have kr := rightR_any hyk H7.out.2.1 hyl hyt (HE.out.1.later H7.out.2.2.2 (Nat.le_refl _))
    rw [decide_eq_false HYN.out] at kr
    refine kr.mono ?_
    clear kr
    rintro e w8 ⟨rfl, b8⟩
    have H8 := Lib.hid (And.intro (H7.out.2.2.1.later b8 (Nat.le_refl _)) (H7.out.2.2.2.trans (b8.mono H7.out.2.2.2.size)))
    clear b8
    go_wp2_with fail
    refine (help_bare 1 w8).mono ?_
    rintro e w9 ⟨rfl, b9⟩
    have H9 := Lib.hid (And.intro (H8.out.1.later b9 (Nat.le_refl _)) (H8.out.2.trans (b9.mono H8.out.2.size)))
    clear b9
    go_wp2_with fail
    refine (is_told3 H9.out.1 (HE.out.2.later H9.out.2 (Nat.le_refl _))).mono ?_
    rintro e w10 ⟨rfl, b10⟩
    have H10 := Lib.hid (H9.out.2.trans (b10.mono H9.out.2.size))
    clear b10
    go_wp2_with fail
    go_ret
    exact ⟨rfl, H10.out⟩
  · clear i0 i6
    go_enter Tryz.func6, Tryz.ntmps6
    go_wp2_with (rw [HW.out]; refine wpList_load_rc rfl (.tmp 2) rfl rfl HA.out.1 ?_)
    refine KP.out.mono ?_
    rintro e w2 ⟨x, A2, n2, c2, rfl, hx, hB2, o2, b2⟩
    have H2 := Lib.hid (And.intro (HA.out.1.later b2 (Nat.le_refl _)) (And.intro (And.intro hB2 (show ∀ a, A2 = some a → a.block ≠ w.heap.size from fun a ha => Nat.ne_of_gt (Nat.lt_of_lt_of_le hle (o2 a ha)))) (HA.out.2.trans (b2.mono HA.out.2.size))))
    have HX := Lib.hid hx
    clear hB2 o2 b2 hx
    go_wp2_with (refine wpList_store_rc rfl (.tmp 2) (.tmp 8) rfl x A2 n2 c2 rfl rfl HX.out.ok H2.out.1 ?_; intro w3 a3 f3 z3 g3; have H3 := Lib.hid (And.intro a3 (And.intro (H2.out.2.1.1.farBlk H2.out.2.1.2 f3) (g3 w.heap.size w (Nat.le_refl _) H2.out.2.2))); clear a3 f3 z3 g3)
    refine (awake13 (HE.out.1.later H3.out.2.2 (Nat.le_refl _))).mono ?_
    rintro e w4 ⟨rfl, b4⟩
    have H4 := Lib.hid (And.intro (H3.out.1.later b4 (Nat.le_refl _)) (And.intro (H3.out.2.1.later b4 (Nat.le_refl _)) (H3.out.2.2.trans (b4.mono H3.out.2.2.size))))
    clear b4
    go_wp2_with (refine wpList_wanted (by rfl) (wp_load_rc (.tmp 2) rfl rfl H4.out.1 ?_))
    have kr := rightR_any HX.out.ok H4.out.2.1 (Nat.le_trans HX.out.name (by omega)) (Nat.le_trans HX.out.target (by omega)) (HE.out.1.later H4.out.2.2 (Nat.le_refl _))
    rw [decide_eq_true HX.out.right] at kr
    refine kr.mono ?_
    clear kr
    rintro e w5 ⟨rfl, b5⟩
    have H5 := Lib.hid (And.intro (H4.out.1.later b5 (Nat.le_refl _)) (And.intro (H4.out.2.1.later b5 (Nat.le_refl _)) (H4.out.2.2.trans (b5.mono H4.out.2.2.size))))
    clear b5
    obtain ⟨y, hy⟩ : ∃ y : Rc, y = { x with kind := 1, target := [120] } := ⟨_, rfl⟩
    have hyk : y.ok := by rw [hy]; exact HX.out.ok
    have hyn : ¬ rightR y := by rw [hy]; exact fun h => by cases (show ([120] : List UInt8) = [] from h.2.2.2.2.2.1)
    have hyl : y.name.length ≤ 1000000 := by rw [hy]; exact Nat.le_trans HX.out.name (by omega)
    have hyt : y.target.length ≤ 1000000 := by rw [hy]; exact (by decide : ([120] : List UInt8).length ≤ 1000000)
    have hy0 : 0 ≤ y.ttl := by rw [hy]; show 0 ≤ x.ttl; rw [HX.out.time]; exact t0
    have hy1 : y.ttl < 4294967296 := by rw [hy]; show x.ttl < 4294967296; rw [HX.out.time]; exact t1
    have HY := Lib.hid hy
    have HYN := Lib.hid hyn
    clear hy hyn
    go_wp2_with (first
      | (refine wpList_load_rc rfl (.tmp 2) rfl rfl S1.out.1 ?_)
      | (refine wpList_putTarget_rc rfl (.tmp 36) (.const (.string ⟨#[120]⟩)) rfl [120] rfl rfl S0.out.1 ?_; intro s1 a f z g; have S1 := Lib.hid (And.intro (show RcBox s1 w.heap.size y A2 n2 c2 by rw [HY.out]; exact a) (And.intro (show Bs s1 A2 n2 c2 y.data by rw [HY.out]; exact ((S0.out.2.1.farBlk H2.out.2.1.2 f))) (g w.heap.size w (Nat.le_refl _) S0.out.2.2))); clear a f z g)
      | (refine wpList_putKind_rc rfl (.tmp 35) (.const (.int .i64 1)) rfl 1 rfl rfl H5.out.1 ?_; intro s0 a f z g; have S0 := Lib.hid (And.intro a (And.intro (H5.out.2.1.farBlk H2.out.2.1.2 f) (g w.heap.size w (Nat.le_refl _) H5.out.2.2))); clear a f z g))
    have kw := writeR_any hyk S1.out.2.1 hyl hyt hy0 hy1 (HE.out.1.later S1.out.2.2 (Nat.le_refl _))
    unfold writeRv writeRe at kw
    rw [if_neg HYN.out, if_neg HYN.out] at kw
    refine kw.mono ?_
    clear kw
    rintro e w7 ⟨A7, c7, v7, rfl, hB7, t7, b7⟩
    obtain ⟨T, u, rfl⟩ := t7.held' (by decide)
    have H7 := Lib.hid (And.intro (S1.out.1.later b7 (Nat.le_refl _)) (And.intro (S1.out.2.1.later b7 (Nat.le_refl _)) (And.intro t7 (S1.out.2.2.trans (b7.mono S1.out.2.2.size)))))
    clear hB7 t7 b7
    go_wp2_with (refine wpList_load_rc rfl (.tmp 2) rfl rfl H7.out.1 ?_)
    have kr := rightR_any hyk H7.out.2.1 hyl hyt (HE.out.1.later H7.out.2.2.2 (Nat.le_refl _))
    rw [decide_eq_false HYN.out] at kr
    refine kr.mono ?_
    clear kr
    rintro e w8 ⟨rfl, b8⟩
    have H8 := Lib.hid (And.intro (H7.out.2.2.1.later b8 (Nat.le_refl _)) (H7.out.2.2.2.trans (b8.mono H7.out.2.2.2.size)))
    clear b8
    go_wp2_with fail
    refine (help_bare 1 w8).mono ?_
    rintro e w9 ⟨rfl, b9⟩
    have H9 := Lib.hid (And.intro (H8.out.1.later b9 (Nat.le_refl _)) (H8.out.2.trans (b9.mono H8.out.2.size)))
    clear b9
    go_wp2_with fail
    refine (is_told3 H9.out.1 (HE.out.2.later H9.out.2 (Nat.le_refl _))).mono ?_
    rintro e w10 ⟨rfl, b10⟩
    have H10 := Lib.hid (H9.out.2.trans (b10.mono H9.out.2.size))
    clear b10
    go_wp2_with fail
    go_ret
    exact ⟨rfl, H10.out⟩
  · clear i0 i6
    go_enter Tryz.func6, Tryz.ntmps6
    go_wp2_with (rw [HW.out]; refine wpList_load_rc rfl (.tmp 2) rfl rfl HA.out.1 ?_)
    refine KP.out.mono ?_
    rintro e w2 ⟨x, A2, n2, c2, rfl, hx, hB2, o2, b2⟩
    have H2 := Lib.hid (And.intro (HA.out.1.later b2 (Nat.le_refl _)) (And.intro (And.intro hB2 (show ∀ a, A2 = some a → a.block ≠ w.heap.size from fun a ha => Nat.ne_of_gt (Nat.lt_of_lt_of_le hle (o2 a ha)))) (HA.out.2.trans (b2.mono HA.out.2.size))))
    have HX := Lib.hid hx
    clear hB2 o2 b2 hx
    go_wp2_with (refine wpList_store_rc rfl (.tmp 2) (.tmp 8) rfl x A2 n2 c2 rfl rfl HX.out.ok H2.out.1 ?_; intro w3 a3 f3 z3 g3; have H3 := Lib.hid (And.intro a3 (And.intro (H2.out.2.1.1.farBlk H2.out.2.1.2 f3) (g3 w.heap.size w (Nat.le_refl _) H2.out.2.2))); clear a3 f3 z3 g3)
    refine (awake13 (HE.out.1.later H3.out.2.2 (Nat.le_refl _))).mono ?_
    rintro e w4 ⟨rfl, b4⟩
    have H4 := Lib.hid (And.intro (H3.out.1.later b4 (Nat.le_refl _)) (And.intro (H3.out.2.1.later b4 (Nat.le_refl _)) (H3.out.2.2.trans (b4.mono H3.out.2.2.size))))
    clear b4
    go_wp2_with (refine wpList_wanted (by rfl) (wp_load_rc (.tmp 2) rfl rfl H4.out.1 ?_))
    have kr := rightR_any HX.out.ok H4.out.2.1 (Nat.le_trans HX.out.name (by omega)) (Nat.le_trans HX.out.target (by omega)) (HE.out.1.later H4.out.2.2 (Nat.le_refl _))
    rw [decide_eq_true HX.out.right] at kr
    refine kr.mono ?_
    clear kr
    rintro e w5 ⟨rfl, b5⟩
    have H5 := Lib.hid (And.intro (H4.out.1.later b5 (Nat.le_refl _)) (And.intro (H4.out.2.1.later b5 (Nat.le_refl _)) (H4.out.2.2.trans (b5.mono H4.out.2.2.size))))
    clear b5
    obtain ⟨y, hy⟩ : ∃ y : Rc, y = { x with kind := 5, v6 := true, adr := zero16 } := ⟨_, rfl⟩
    have hyk : y.ok := by rw [hy]; exact (rfl : zero16.length = 16)
    have hyn : ¬ rightR y := by rw [hy]; exact fun h => by cases (show true = false from h.2.2.2.2.1.1)
    have hyl : y.name.length ≤ 1000000 := by rw [hy]; exact Nat.le_trans HX.out.name (by omega)
    have hyt : y.target.length ≤ 1000000 := by rw [hy]; exact Nat.le_trans HX.out.target (by omega)
    have hy0 : 0 ≤ y.ttl := by rw [hy]; show 0 ≤ x.ttl; rw [HX.out.time]; exact t0
    have hy1 : y.ttl < 4294967296 := by rw [hy]; show x.ttl < 4294967296; rw [HX.out.time]; exact t1
    have HY := Lib.hid hy
    have HYN := Lib.hid hyn
    clear hy hyn
    go_wp2_with (first
      | (refine wpList_load_rc rfl (.tmp 2) rfl rfl S1.out.1 ?_)
      | (refine wpList_store_rcAd rfl (.tmp 41) (.tmp 39) rfl (v := true) (bs := zero16) rfl rfl rfl S0.out.1 ?_; intro s1 a f z g; have S1 := Lib.hid (And.intro (show RcBox s1 w.heap.size y A2 n2 c2 by rw [HY.out]; exact a) (And.intro (show Bs s1 A2 n2 c2 y.data by rw [HY.out]; exact ((S0.out.2.1.farBlk H2.out.2.1.2 f))) (g w.heap.size w (Nat.le_refl _) S0.out.2.2))); clear a f z g)
      | (refine wpList_putKind_rc rfl (.tmp 40) (.const (.int .i64 5)) rfl 5 rfl rfl H5.out.1 ?_; intro s0 a f z g; have S0 := Lib.hid (And.intro a (And.intro (H5.out.2.1.farBlk H2.out.2.1.2 f) (g w.heap.size w (Nat.le_refl _) H5.out.2.2))); clear a f z g))
    have kw := writeR_any hyk S1.out.2.1 hyl hyt hy0 hy1 (HE.out.1.later S1.out.2.2 (Nat.le_refl _))
    unfold writeRv writeRe at kw
    rw [if_neg HYN.out, if_neg HYN.out] at kw
    refine kw.mono ?_
    clear kw
    rintro e w7 ⟨A7, c7, v7, rfl, hB7, t7, b7⟩
    obtain ⟨T, u, rfl⟩ := t7.held' (by decide)
    have H7 := Lib.hid (And.intro (S1.out.1.later b7 (Nat.le_refl _)) (And.intro (S1.out.2.1.later b7 (Nat.le_refl _)) (And.intro t7 (S1.out.2.2.trans (b7.mono S1.out.2.2.size)))))
    clear hB7 t7 b7
    go_wp2_with (refine wpList_load_rc rfl (.tmp 2) rfl rfl H7.out.1 ?_)
    have kr := rightR_any hyk H7.out.2.1 hyl hyt (HE.out.1.later H7.out.2.2.2 (Nat.le_refl _))
    rw [decide_eq_false HYN.out] at kr
    refine kr.mono ?_
    clear kr
    rintro e w8 ⟨rfl, b8⟩
    have H8 := Lib.hid (And.intro (H7.out.2.2.1.later b8 (Nat.le_refl _)) (H7.out.2.2.2.trans (b8.mono H7.out.2.2.2.size)))
    clear b8
    go_wp2_with fail
    refine (help_bare 1 w8).mono ?_
    rintro e w9 ⟨rfl, b9⟩
    have H9 := Lib.hid (And.intro (H8.out.1.later b9 (Nat.le_refl _)) (H8.out.2.trans (b9.mono H8.out.2.size)))
    clear b9
    go_wp2_with fail
    refine (is_told3 H9.out.1 (HE.out.2.later H9.out.2 (Nat.le_refl _))).mono ?_
    rintro e w10 ⟨rfl, b10⟩
    have H10 := Lib.hid (H9.out.2.trans (b10.mono H9.out.2.size))
    clear b10
    go_wp2_with fail
    go_ret
    exact ⟨rfl, H10.out⟩
  · clear i0 i6
    go_enter Tryz.func6, Tryz.ntmps6
    go_wp2_with (rw [HW.out]; refine wpList_load_rc rfl (.tmp 2) rfl rfl HA.out.1 ?_)
    refine KP.out.mono ?_
    rintro e w2 ⟨x, A2, n2, c2, rfl, hx, hB2, o2, b2⟩
    have H2 := Lib.hid (And.intro (HA.out.1.later b2 (Nat.le_refl _)) (And.intro (And.intro hB2 (show ∀ a, A2 = some a → a.block ≠ w.heap.size from fun a ha => Nat.ne_of_gt (Nat.lt_of_lt_of_le hle (o2 a ha)))) (HA.out.2.trans (b2.mono HA.out.2.size))))
    have HX := Lib.hid hx
    clear hB2 o2 b2 hx
    go_wp2_with (refine wpList_store_rc rfl (.tmp 2) (.tmp 8) rfl x A2 n2 c2 rfl rfl HX.out.ok H2.out.1 ?_; intro w3 a3 f3 z3 g3; have H3 := Lib.hid (And.intro a3 (And.intro (H2.out.2.1.1.farBlk H2.out.2.1.2 f3) (g3 w.heap.size w (Nat.le_refl _) H2.out.2.2))); clear a3 f3 z3 g3)
    refine (awake13 (HE.out.1.later H3.out.2.2 (Nat.le_refl _))).mono ?_
    rintro e w4 ⟨rfl, b4⟩
    have H4 := Lib.hid (And.intro (H3.out.1.later b4 (Nat.le_refl _)) (And.intro (H3.out.2.1.later b4 (Nat.le_refl _)) (H3.out.2.2.trans (b4.mono H3.out.2.2.size))))
    clear b4
    go_wp2_with (refine wpList_wanted (by rfl) (wp_load_rc (.tmp 2) rfl rfl H4.out.1 ?_))
    have kr := rightR_any HX.out.ok H4.out.2.1 (Nat.le_trans HX.out.name (by omega)) (Nat.le_trans HX.out.target (by omega)) (HE.out.1.later H4.out.2.2 (Nat.le_refl _))
    rw [decide_eq_true HX.out.right] at kr
    refine kr.mono ?_
    clear kr
    rintro e w5 ⟨rfl, b5⟩
    have H5 := Lib.hid (And.intro (H4.out.1.later b5 (Nat.le_refl _)) (And.intro (H4.out.2.1.later b5 (Nat.le_refl _)) (H4.out.2.2.trans (b5.mono H4.out.2.2.size))))
    clear b5
    obtain ⟨y, hy⟩ : ∃ y : Rc, y = { x with kind := 28, v6 := false, adr := zero16, target := [], data := [] } := ⟨_, rfl⟩
    have hyk : y.ok := by rw [hy]; exact (rfl : zero16.length = 16)
    have hyn : ¬ rightR y := by rw [hy]; exact fun h => by cases (show false = true from h.2.2.2.2.1.1)
    have hyl : y.name.length ≤ 1000000 := by rw [hy]; exact Nat.le_trans HX.out.name (by omega)
    have hyt : y.target.length ≤ 1000000 := by rw [hy]; exact Nat.zero_le _
    have hy0 : 0 ≤ y.ttl := by rw [hy]; show 0 ≤ x.ttl; rw [HX.out.time]; exact t0
    have hy1 : y.ttl < 4294967296 := by rw [hy]; show x.ttl < 4294967296; rw [HX.out.time]; exact t1
    have HY := Lib.hid hy
    have HYN := Lib.hid hyn
    clear hy hyn
    go_wp2_with (first
      | (refine wpList_load_rc rfl (.tmp 2) rfl rfl S3.out.1 ?_)
      | (refine wpList_putData_rc rfl (.tmp 23) (.const (.slice none 0 0)) rfl [] none 0 0 rfl rfl S2.out.1 ?_; intro s3 a f z g; have S3 := Lib.hid (And.intro (show RcBox s3 w.heap.size y none 0 0 by rw [HY.out]; exact a) (And.intro (show Bs s3 none 0 0 y.data by rw [HY.out]; exact Bs.nil _) (g w.heap.size w (Nat.le_refl _) S2.out.2.2))); clear a f z g)
      | (refine wpList_putTarget_rc rfl (.tmp 22) (.const (.string ⟨#[]⟩)) rfl [] rfl rfl S1.out.1 ?_; intro s2 a f z g; have S2 := Lib.hid (And.intro a (And.intro (S1.out.2.1.farBlk H2.out.2.1.2 f) (g w.heap.size w (Nat.le_refl _) S1.out.2.2))); clear a f z g)
      | (refine wpList_store_rcAd rfl (.tmp 21) (.tmp 19) rfl (v := false) (bs := zero16) rfl rfl rfl S0.out.1 ?_; intro s1 a f z g; have S1 := Lib.hid (And.intro a (And.intro (S0.out.2.1.farBlk H2.out.2.1.2 f) (g w.heap.size w (Nat.le_refl _) S0.out.2.2))); clear a f z g)
      | (refine wpList_putKind_rc rfl (.tmp 20) (.const (.int .i64 28)) rfl 28 rfl rfl H5.out.1 ?_; intro s0 a f z g; have S0 := Lib.hid (And.intro a (And.intro (H5.out.2.1.farBlk H2.out.2.1.2 f) (g w.heap.size w (Nat.le_refl _) H5.out.2.2))); clear a f z g))
    have kw := writeR_any hyk S3.out.2.1 hyl hyt hy0 hy1 (HE.out.1.later S3.out.2.2 (Nat.le_refl _))
    unfold writeRv writeRe at kw
    rw [if_neg HYN.out, if_neg HYN.out] at kw
    refine kw.mono ?_
    clear kw
    rintro e w7 ⟨A7, c7, v7, rfl, hB7, t7, b7⟩
    obtain ⟨T, u, rfl⟩ := t7.held' (by decide)
    have H7 := Lib.hid (And.intro (S3.out.1.later b7 (Nat.le_refl _)) (And.intro (S3.out.2.1.later b7 (Nat.le_refl _)) (And.intro t7 (S3.out.2.2.trans (b7.mono S3.out.2.2.size)))))
    clear hB7 t7 b7
    go_wp2_with (refine wpList_load_rc rfl (.tmp 2) rfl rfl H7.out.1 ?_)
    have kr := rightR_any hyk H7.out.2.1 hyl hyt (HE.out.1.later H7.out.2.2.2 (Nat.le_refl _))
    rw [decide_eq_false HYN.out] at kr
    refine kr.mono ?_
    clear kr
    rintro e w8 ⟨rfl, b8⟩
    have H8 := Lib.hid (And.intro (H7.out.2.2.1.later b8 (Nat.le_refl _)) (H7.out.2.2.2.trans (b8.mono H7.out.2.2.2.size)))
    clear b8
    go_wp2_with fail
    refine (help_bare 1 w8).mono ?_
    rintro e w9 ⟨rfl, b9⟩
    have H9 := Lib.hid (And.intro (H8.out.1.later b9 (Nat.le_refl _)) (H8.out.2.trans (b9.mono H8.out.2.size)))
    clear b9
    go_wp2_with fail
    refine (is_told3 H9.out.1 (HE.out.2.later H9.out.2 (Nat.le_refl _))).mono ?_
    rintro e w10 ⟨rfl, b10⟩
    have H10 := Lib.hid (H9.out.2.trans (b10.mono H9.out.2.size))
    clear b10
    go_wp2_with fail
    go_ret
    exact ⟨rfl, H10.out⟩
end Go.Proofs.YtddnfbkmhgflbaaGreatDoor
