/-
  stockadelaw03.SumOver answers true, whatever is handed in. No conditions.
-/
import Derived.Test.YthkhbjjiffpkoaaSumTellsW
import Derived.Test.YthkhbjjiffpkoaaPlayAddr
namespace Go.Proofs.Ythkhbjjiffpkoaa
open Go.RowKit

/-- What the law itself thinks ahead. -/
def lawAhead (z : Bool) (a b : List UInt8) (n : Nat) : List UInt8 :=
  if z then a ++ b ++ [0, 0, UInt8.ofNat (n / 256), UInt8.ofNat (n % 256), 0, 0, 0, 17] else a.take 4 ++ b.take 4 ++ [0, 17, UInt8.ofNat (n / 256), UInt8.ofNat (n % 256)]
theorem lawAhead_eq (z : Bool) (a b : List UInt8) (n : Nat) (hn : n ≤ 1000) : lawAhead z a b n = aheadL z a b 17 n := by
  have h0 : ((n : Int) % 256).toNat = n % 256 := by omega
  have h1 : ((n : Int) / 256 % 256).toNat = n / 256 := by omega
  have h2 : ((n : Int) / 65536 % 256).toNat = 0 := by omega
  have h3 : ((n : Int) / 16777216 % 256).toNat = 0 := by omega
  cases z <;> simp [lawAhead, aheadL, putn, h0, h1, h2, h3]
theorem ahead_swap (z : Bool) {a b : List UInt8} (ha : a.length = 16) (hb : b.length = 16) (p : Int) (n : Nat) : tot (aheadL z a b p n) = tot (aheadL z b a p n) := by
  have la := abytes_len z ha
  have lb := abytes_len z hb
  have e1 : (abytes z a).length % 2 = 0 := by rw [la]; split <;> rfl
  have e2 : (abytes z b).length % 2 = 0 := by rw [lb]; split <;> rfl
  have e3 : (abytes z a ++ abytes z b).length % 2 = 0 := by rw [List.length_append]; omega
  have e4 : (abytes z b ++ abytes z a).length % 2 = 0 := by rw [List.length_append]; omega
  rw [aheadL_eq, aheadL_eq, tot_append _ _ e3, tot_append _ _ e4, tot_append _ _ e1, tot_append _ _ e2]
  omega

set_option maxRecDepth 100000 in
set_option maxHeartbeats 4000000 in
theorem sumOver (v1 v2 z : Bool) (a b : List UInt8) (ha : a.length = 16) (hb : b.length = 16) {A : Option Addr} {n c : Nat} {l : List UInt8} {w : World} (hs : Bs w A n c l) : Calls Try.prog 6 #[.agg (adv v1 a), .agg (adv v2 b), .bool z, .slice A n c] w fun e w' => e = .returned (.bool true) ∧ Below w.heap.size w w' := by
  have hm := Nat.le_trans hs.cap hs.max
  unfold maxLen at hm
  have HB := Lib.hid hs
  clear hs
  have A1 := Lib.hid ((AdBox.new w v1 ha).later ((Below.refl _ _).alloc (Nat.le_refl _) (.cells (adv v2 b) 24)) (Nat.le_refl _))
  have A2 := AdBox.new (w.alloc (.cells (adv v1 a) 24)) v2 hb
  rw [World.size_alloc] at A2
  have A2 := Lib.hid A2
  have B2 := Lib.hid (((Below.refl _ w).alloc (Nat.le_refl _) (.cells (adv v1 a) 24)).alloc (by simp) (.cells (adv v2 b) 24))
  by_cases hbig : 1000 < n
  · go_enter Try.func6, Try.ntmps6
    go_wp2_with fail
    refine (awake03 _).mono ?_
    rintro e w1 ⟨rfl, h1⟩
    have H1 := Lib.hid (B2.out.trans (h1.mono B2.out.size))
    clear h1
    go_wp2_with fail
    go_ret
    exact ⟨rfl, H1.out⟩
  · go_enter Try.func6, Try.ntmps6
    go_wp2_with fail
    generalize hW : (w.alloc (Obj.cells (adv v1 a) 24)).alloc (Obj.cells (adv v2 b) 24) = W at A1 A2 B2 ⊢
    clear hW
    have hS : Below W.heap.size W W.drew := (Below.refl _ _).drew
    refine rg_cut (fun a' w' => ∃ g9 g10, a' = { tmps := #[.agg (adv v1 a), .agg (adv v2 b), .bool z, .slice A n c, .pointer (some ⟨w.heap.size, 0, none⟩), .pointer (some ⟨w.heap.size + 1, 0, none⟩), undef, undef, .bool false, .pointer (some ⟨g9, 0, none⟩), .pointer (some ⟨g10, 0, none⟩), undef, .slice A n c, .int .i64 n, .bool (decide (1000 < (n : Int))), undef, .agg (adv v1 a), .bool z, .agg (adv z (norm z a)), .agg (adv v2 b), .bool z, .agg (adv z (norm z b)), undef, undef, undef, undef, undef, undef, undef, undef, undef, undef, undef, undef, undef, undef, undef, undef, undef, undef, undef, undef, undef, undef, undef, undef, undef, undef, undef, undef, undef, undef, undef, undef, undef, undef, undef, undef, undef, undef, undef, undef, undef, undef, undef, undef, undef, undef, undef, undef, undef, undef, undef, undef, undef, undef, undef, undef, undef], defers := [] } ∧ AdBox w' g9 z (norm z a) ∧ AdBox w' g10 z (norm z b) ∧ Below W.heap.size W w') ?_ ?_
    · refine rg_begin (fun w' => Below W.heap.size W w') 10 (by kernel_rfl) rfl ?_
      refine rg_load 0 rfl (by kernel_rfl) (by kernel_rfl) (by kernel_rfl) (w.heap.size) 0 (adv v1 a) (fun _ _ _ h => h) (by rfl) 24 (.tmp 4) rfl rfl hS (fun w2 h2 => (AdBox.later A1.out h2 (Nat.le_refl _)).range) Try.underlying24 rfl (ad_size v1 A1.out.2) ?_
      simp only [Act.put, List.setIfInBounds_toArray, List.set_cons_zero, List.set_cons_succ]
      refine rg_load 3 rfl (by kernel_rfl) (by kernel_rfl) (by kernel_rfl) (w.heap.size + 1) 0 (adv v2 b) (fun _ _ _ h => h) (by rfl) 24 (.tmp 5) rfl rfl hS (fun w2 h2 => (AdBox.later A2.out h2 (Nat.le_refl _)).range) Try.underlying24 rfl (ad_size v2 A2.out.2) ?_
      simp only [Act.put, List.setIfInBounds_toArray, List.set_cons_zero, List.set_cons_succ]
      refine rg_take 1 (v := ?rv1) rfl (by kernel_rfl) (by kernel_rfl) (by kernel_rfl) (fun _ _ _ h => h) (by rfl) hS (fun w2 hw2 => ?ry1) ?rr1
      case ry1 => ((try dsimp only at hw2); go_simp <;> with_reducible rfl)
      simp only [Act.put, List.setIfInBounds_toArray, List.set_cons_zero, List.set_cons_succ]
      refine rg_take 4 (v := ?rv2) rfl (by kernel_rfl) (by kernel_rfl) (by kernel_rfl) (fun _ _ _ h => h) (by rfl) hS (fun w2 hw2 => ?ry2) ?rr2
      case ry2 => ((try dsimp only at hw2); go_simp <;> with_reducible rfl)
      simp only [Act.put, List.setIfInBounds_toArray, List.set_cons_zero, List.set_cons_succ]
      obtain ⟨W0, hW0⟩ : ∃ W0, W.drew = W0 := ⟨_, rfl⟩
      rw [hW0] at hS ⊢
      clear hW0
      refine rg_any [2, 6, 7] (by kernel_rfl) (by simp) ?_
      refine rg_or 2 rfl (by rfl) (fun K hK => ?_) ?_
      · go_simp
        refine (play_addr v1 z a ha _).mono ?_
        rintro e u1 ⟨rfl, bK⟩
        have hS2 := hS.trans (bK.mono hS.size)
        clear bK hS
        have hS := hS2
        clear hS2
        refine hK.out _ _ hS ?_
        clear hK K
        try simp only [Act.put, List.setIfInBounds_toArray, List.set_cons_zero, List.set_cons_succ]
        refine rg_any [5, 6, 7] (by kernel_rfl) (by simp) ?_
        refine rg_or 5 rfl (by rfl) (fun K hK => ?_) ?_
        · go_simp
          refine (play_addr v2 z b hb _).mono ?_
          rintro e u2 ⟨rfl, bK⟩
          have hS2 := hS.trans (bK.mono hS.size)
          clear bK hS
          have hS := hS2
          clear hS2
          refine hK.out _ _ hS ?_
          clear hK K
          try simp only [Act.put, List.setIfInBounds_toArray, List.set_cons_zero, List.set_cons_succ]
          refine rg_any [6, 7] (by kernel_rfl) (by simp) ?_
          refine rg_or 6 rfl (by rfl) (fun K hK => ?_) ?_
          · refine wp_alloc_ad rfl ?_
            intro u3 F9 bK _
            have hl9 := hS.size
            have hS2 := hS.trans (bK.mono hS.size)
            clear bK hS
            have hS := hS2
            clear hS2
            refine hK.out _ _ hS ?_
            clear hK K
            try simp only [Act.put, List.setIfInBounds_toArray, List.set_cons_zero, List.set_cons_succ]
            refine rg_step 7 rfl (by kernel_rfl) (by rfl) (fun K hK => ?_)
            refine wp_alloc_ad rfl ?_
            intro u4 F10 bK _
            have hl10 := hS.size
            have hne : u2.heap.size ≠ u3.heap.size := Nat.ne_of_lt F9.lt
            replace F9 := F9.later bK (Nat.le_refl _)
            have hS2 := hS.trans (bK.mono hS.size)
            clear bK hS
            have hS := hS2
            clear hS2
            refine hK.out _ _ hS ?_
            clear hK K
            try simp only [Act.put, List.setIfInBounds_toArray, List.set_cons_zero, List.set_cons_succ]
            refine rg_step 8 rfl (by kernel_rfl) (by rfl) (fun K hK => ?_)
            refine wp_store_ad (.tmp 9) (.tmp 18) rfl rfl rfl (norm_len z ha) F9 ?_
            intro u5 F9b far keep
            replace F10 := far _ _ _ hne.symm F10
            replace F9 := F9b
            replace hS := keep _ _ hl9 hS
            clear far keep
            refine hK.out _ _ hS ?_
            clear hK K
            try simp only [Act.put]
            refine rg_step 9 rfl (by kernel_rfl) (by rfl) (fun K hK => ?_)
            refine wp_store_ad (.tmp 10) (.tmp 21) rfl rfl rfl (norm_len z hb) F10 ?_
            intro u6 F10b far keep
            replace F9 := far _ _ _ hne F9
            replace F10 := F10b
            replace hS := keep _ _ hl10 hS
            clear far keep
            refine hK.out _ _ hS ?_
            clear hK K
            try simp only [Act.put]
            refine rg_done (by kernel_rfl) ?_
            exact ⟨_, _, rfl, F9, F10, hS⟩
          refine rg_or 7 rfl (by rfl) (fun K hK => ?_) ?_
          · refine wp_alloc_ad rfl ?_
            intro u7 F10 bK _
            have hl10 := hS.size
            have hS2 := hS.trans (bK.mono hS.size)
            clear bK hS
            have hS := hS2
            clear hS2
            refine hK.out _ _ hS ?_
            clear hK K
            try simp only [Act.put, List.setIfInBounds_toArray, List.set_cons_zero, List.set_cons_succ]
            refine rg_step 6 rfl (by kernel_rfl) (by rfl) (fun K hK => ?_)
            refine wp_alloc_ad rfl ?_
            intro u8 F9 bK _
            have hl9 := hS.size
            have hne : u7.heap.size ≠ u2.heap.size := (Nat.ne_of_lt F10.lt).symm
            replace F10 := F10.later bK (Nat.le_refl _)
            have hS2 := hS.trans (bK.mono hS.size)
            clear bK hS
            have hS := hS2
            clear hS2
            refine hK.out _ _ hS ?_
            clear hK K
            try simp only [Act.put, List.setIfInBounds_toArray, List.set_cons_zero, List.set_cons_succ]
            refine rg_step 8 rfl (by kernel_rfl) (by rfl) (fun K hK => ?_)
            refine wp_store_ad (.tmp 9) (.tmp 18) rfl rfl rfl (norm_len z ha) F9 ?_
            intro u9 F9b far keep
            replace F10 := far _ _ _ hne.symm F10
            replace F9 := F9b
            replace hS := keep _ _ hl9 hS
            clear far keep
            refine hK.out _ _ hS ?_
            clear hK K
            try simp only [Act.put]
            refine rg_step 9 rfl (by kernel_rfl) (by rfl) (fun K hK => ?_)
            refine wp_store_ad (.tmp 10) (.tmp 21) rfl rfl rfl (norm_len z hb) F10 ?_
            intro u10 F10b far keep
            replace F9 := far _ _ _ hne F9
            replace F10 := F10b
            replace hS := keep _ _ hl10 hS
            clear far keep
            refine hK.out _ _ hS ?_
            clear hK K
            try simp only [Act.put]
            refine rg_done (by kernel_rfl) ?_
            exact ⟨_, _, rfl, F9, F10, hS⟩
          exact AllReadyH.nil
        refine rg_or 6 rfl (by rfl) (fun K hK => ?_) ?_
        · refine wp_alloc_ad rfl ?_
          intro u11 F9 bK _
          have hl9 := hS.size
          have hS2 := hS.trans (bK.mono hS.size)
          clear bK hS
          have hS := hS2
          clear hS2
          refine hK.out _ _ hS ?_
          clear hK K
          try simp only [Act.put, List.setIfInBounds_toArray, List.set_cons_zero, List.set_cons_succ]
          refine rg_any [5, 7] (by kernel_rfl) (by simp) ?_
          refine rg_or 5 rfl (by rfl) (fun K hK => ?_) ?_
          · go_simp
            refine (play_addr v2 z b hb _).mono ?_
            rintro e u12 ⟨rfl, bK⟩
            have hS2 := hS.trans (bK.mono hS.size)
            replace F9 := F9.later bK (Nat.le_refl _)
            clear bK hS
            have hS := hS2
            clear hS2
            refine hK.out _ _ hS ?_
            clear hK K
            try simp only [Act.put, List.setIfInBounds_toArray, List.set_cons_zero, List.set_cons_succ]
            refine rg_step 7 rfl (by kernel_rfl) (by rfl) (fun K hK => ?_)
            refine wp_alloc_ad rfl ?_
            intro u13 F10 bK _
            have hl10 := hS.size
            have hne : u1.heap.size ≠ u12.heap.size := Nat.ne_of_lt F9.lt
            replace F9 := F9.later bK (Nat.le_refl _)
            have hS2 := hS.trans (bK.mono hS.size)
            clear bK hS
            have hS := hS2
            clear hS2
            refine hK.out _ _ hS ?_
            clear hK K
            try simp only [Act.put, List.setIfInBounds_toArray, List.set_cons_zero, List.set_cons_succ]
            refine rg_step 8 rfl (by kernel_rfl) (by rfl) (fun K hK => ?_)
            refine wp_store_ad (.tmp 9) (.tmp 18) rfl rfl rfl (norm_len z ha) F9 ?_
            intro u14 F9b far keep
            replace F10 := far _ _ _ hne.symm F10
            replace F9 := F9b
            replace hS := keep _ _ hl9 hS
            clear far keep
            refine hK.out _ _ hS ?_
            clear hK K
            try simp only [Act.put]
            refine rg_step 9 rfl (by kernel_rfl) (by rfl) (fun K hK => ?_)
            refine wp_store_ad (.tmp 10) (.tmp 21) rfl rfl rfl (norm_len z hb) F10 ?_
            intro u15 F10b far keep
            replace F9 := far _ _ _ hne F9
            replace F10 := F10b
            replace hS := keep _ _ hl10 hS
            clear far keep
            refine hK.out _ _ hS ?_
            clear hK K
            try simp only [Act.put]
            refine rg_done (by kernel_rfl) ?_
            exact ⟨_, _, rfl, F9, F10, hS⟩
          refine rg_or 7 rfl (by rfl) (fun K hK => ?_) ?_
          · refine wp_alloc_ad rfl ?_
            intro u16 F10 bK _
            have hl10 := hS.size
            have hne : u1.heap.size ≠ u11.heap.size := Nat.ne_of_lt F9.lt
            replace F9 := F9.later bK (Nat.le_refl _)
            have hS2 := hS.trans (bK.mono hS.size)
            clear bK hS
            have hS := hS2
            clear hS2
            refine hK.out _ _ hS ?_
            clear hK K
            try simp only [Act.put, List.setIfInBounds_toArray, List.set_cons_zero, List.set_cons_succ]
            refine rg_step 5 rfl (by kernel_rfl) (by rfl) (fun K hK => ?_)
            go_simp
            refine (play_addr v2 z b hb _).mono ?_
            rintro e u17 ⟨rfl, bK⟩
            have hS2 := hS.trans (bK.mono hS.size)
            replace F9 := F9.later bK (Nat.le_refl _)
            replace F10 := F10.later bK (Nat.le_refl _)
            clear bK hS
            have hS := hS2
            clear hS2
            refine hK.out _ _ hS ?_
            clear hK K
            try simp only [Act.put, List.setIfInBounds_toArray, List.set_cons_zero, List.set_cons_succ]
            refine rg_step 8 rfl (by kernel_rfl) (by rfl) (fun K hK => ?_)
            refine wp_store_ad (.tmp 9) (.tmp 18) rfl rfl rfl (norm_len z ha) F9 ?_
            intro u18 F9b far keep
            replace F10 := far _ _ _ hne.symm F10
            replace F9 := F9b
            replace hS := keep _ _ hl9 hS
            clear far keep
            refine hK.out _ _ hS ?_
            clear hK K
            try simp only [Act.put]
            refine rg_step 9 rfl (by kernel_rfl) (by rfl) (fun K hK => ?_)
            refine wp_store_ad (.tmp 10) (.tmp 21) rfl rfl rfl (norm_len z hb) F10 ?_
            intro u19 F10b far keep
            replace F9 := far _ _ _ hne F9
            replace F10 := F10b
            replace hS := keep _ _ hl10 hS
            clear far keep
            refine hK.out _ _ hS ?_
            clear hK K
            try simp only [Act.put]
            refine rg_done (by kernel_rfl) ?_
            exact ⟨_, _, rfl, F9, F10, hS⟩
          exact AllReadyH.nil
        refine rg_or 7 rfl (by rfl) (fun K hK => ?_) ?_
        · refine wp_alloc_ad rfl ?_
          intro u20 F10 bK _
          have hl10 := hS.size
          have hS2 := hS.trans (bK.mono hS.size)
          clear bK hS
          have hS := hS2
          clear hS2
          refine hK.out _ _ hS ?_
          clear hK K
          try simp only [Act.put, List.setIfInBounds_toArray, List.set_cons_zero, List.set_cons_succ]
          refine rg_any [5, 6] (by kernel_rfl) (by simp) ?_
          refine rg_or 5 rfl (by rfl) (fun K hK => ?_) ?_
          · go_simp
            refine (play_addr v2 z b hb _).mono ?_
            rintro e u21 ⟨rfl, bK⟩
            have hS2 := hS.trans (bK.mono hS.size)
            replace F10 := F10.later bK (Nat.le_refl _)
            clear bK hS
            have hS := hS2
            clear hS2
            refine hK.out _ _ hS ?_
            clear hK K
            try simp only [Act.put, List.setIfInBounds_toArray, List.set_cons_zero, List.set_cons_succ]
            refine rg_step 6 rfl (by kernel_rfl) (by rfl) (fun K hK => ?_)
            refine wp_alloc_ad rfl ?_
            intro u22 F9 bK _
            have hl9 := hS.size
            have hne : u21.heap.size ≠ u1.heap.size := (Nat.ne_of_lt F10.lt).symm
            replace F10 := F10.later bK (Nat.le_refl _)
            have hS2 := hS.trans (bK.mono hS.size)
            clear bK hS
            have hS := hS2
            clear hS2
            refine hK.out _ _ hS ?_
            clear hK K
            try simp only [Act.put, List.setIfInBounds_toArray, List.set_cons_zero, List.set_cons_succ]
            refine rg_step 8 rfl (by kernel_rfl) (by rfl) (fun K hK => ?_)
            refine wp_store_ad (.tmp 9) (.tmp 18) rfl rfl rfl (norm_len z ha) F9 ?_
            intro u23 F9b far keep
            replace F10 := far _ _ _ hne.symm F10
            replace F9 := F9b
            replace hS := keep _ _ hl9 hS
            clear far keep
            refine hK.out _ _ hS ?_
            clear hK K
            try simp only [Act.put]
            refine rg_step 9 rfl (by kernel_rfl) (by rfl) (fun K hK => ?_)
            refine wp_store_ad (.tmp 10) (.tmp 21) rfl rfl rfl (norm_len z hb) F10 ?_
            intro u24 F10b far keep
            replace F9 := far _ _ _ hne F9
            replace F10 := F10b
            replace hS := keep _ _ hl10 hS
            clear far keep
            refine hK.out _ _ hS ?_
            clear hK K
            try simp only [Act.put]
            refine rg_done (by kernel_rfl) ?_
            exact ⟨_, _, rfl, F9, F10, hS⟩
          refine rg_or 6 rfl (by rfl) (fun K hK => ?_) ?_
          · refine wp_alloc_ad rfl ?_
            intro u25 F9 bK _
            have hl9 := hS.size
            have hne : u20.heap.size ≠ u1.heap.size := (Nat.ne_of_lt F10.lt).symm
            replace F10 := F10.later bK (Nat.le_refl _)
            have hS2 := hS.trans (bK.mono hS.size)
            clear bK hS
            have hS := hS2
            clear hS2
            refine hK.out _ _ hS ?_
            clear hK K
            try simp only [Act.put, List.setIfInBounds_toArray, List.set_cons_zero, List.set_cons_succ]
            refine rg_step 5 rfl (by kernel_rfl) (by rfl) (fun K hK => ?_)
            go_simp
            refine (play_addr v2 z b hb _).mono ?_
            rintro e u26 ⟨rfl, bK⟩
            have hS2 := hS.trans (bK.mono hS.size)
            replace F9 := F9.later bK (Nat.le_refl _)
            replace F10 := F10.later bK (Nat.le_refl _)
            clear bK hS
            have hS := hS2
            clear hS2
            refine hK.out _ _ hS ?_
            clear hK K
            try simp only [Act.put, List.setIfInBounds_toArray, List.set_cons_zero, List.set_cons_succ]
            refine rg_step 8 rfl (by kernel_rfl) (by rfl) (fun K hK => ?_)
            refine wp_store_ad (.tmp 9) (.tmp 18) rfl rfl rfl (norm_len z ha) F9 ?_
            intro u27 F9b far keep
            replace F10 := far _ _ _ hne.symm F10
            replace F9 := F9b
            replace hS := keep _ _ hl9 hS
            clear far keep
            refine hK.out _ _ hS ?_
            clear hK K
            try simp only [Act.put]
            refine rg_step 9 rfl (by kernel_rfl) (by rfl) (fun K hK => ?_)
            refine wp_store_ad (.tmp 10) (.tmp 21) rfl rfl rfl (norm_len z hb) F10 ?_
            intro u28 F10b far keep
            replace F9 := far _ _ _ hne F9
            replace F10 := F10b
            replace hS := keep _ _ hl10 hS
            clear far keep
            refine hK.out _ _ hS ?_
            clear hK K
            try simp only [Act.put]
            refine rg_done (by kernel_rfl) ?_
            exact ⟨_, _, rfl, F9, F10, hS⟩
          exact AllReadyH.nil
        exact AllReadyH.nil
      refine rg_or 6 rfl (by rfl) (fun K hK => ?_) ?_
      · refine wp_alloc_ad rfl ?_
        intro u29 F9 bK _
        have hl9 := hS.size
        have hS2 := hS.trans (bK.mono hS.size)
        clear bK hS
        have hS := hS2
        clear hS2
        refine hK.out _ _ hS ?_
        clear hK K
        try simp only [Act.put, List.setIfInBounds_toArray, List.set_cons_zero, List.set_cons_succ]
        refine rg_any [2, 7] (by kernel_rfl) (by simp) ?_
        refine rg_or 2 rfl (by rfl) (fun K hK => ?_) ?_
        · go_simp
          refine (play_addr v1 z a ha _).mono ?_
          rintro e u30 ⟨rfl, bK⟩
          have hS2 := hS.trans (bK.mono hS.size)
          replace F9 := F9.later bK (Nat.le_refl _)
          clear bK hS
          have hS := hS2
          clear hS2
          refine hK.out _ _ hS ?_
          clear hK K
          try simp only [Act.put, List.setIfInBounds_toArray, List.set_cons_zero, List.set_cons_succ]
          refine rg_any [5, 7] (by kernel_rfl) (by simp) ?_
          refine rg_or 5 rfl (by rfl) (fun K hK => ?_) ?_
          · go_simp
            refine (play_addr v2 z b hb _).mono ?_
            rintro e u31 ⟨rfl, bK⟩
            have hS2 := hS.trans (bK.mono hS.size)
            replace F9 := F9.later bK (Nat.le_refl _)
            clear bK hS
            have hS := hS2
            clear hS2
            refine hK.out _ _ hS ?_
            clear hK K
            try simp only [Act.put, List.setIfInBounds_toArray, List.set_cons_zero, List.set_cons_succ]
            refine rg_step 7 rfl (by kernel_rfl) (by rfl) (fun K hK => ?_)
            refine wp_alloc_ad rfl ?_
            intro u32 F10 bK _
            have hl10 := hS.size
            have hne : W0.heap.size ≠ u31.heap.size := Nat.ne_of_lt F9.lt
            replace F9 := F9.later bK (Nat.le_refl _)
            have hS2 := hS.trans (bK.mono hS.size)
            clear bK hS
            have hS := hS2
            clear hS2
            refine hK.out _ _ hS ?_
            clear hK K
            try simp only [Act.put, List.setIfInBounds_toArray, List.set_cons_zero, List.set_cons_succ]
            refine rg_step 8 rfl (by kernel_rfl) (by rfl) (fun K hK => ?_)
            refine wp_store_ad (.tmp 9) (.tmp 18) rfl rfl rfl (norm_len z ha) F9 ?_
            intro u33 F9b far keep
            replace F10 := far _ _ _ hne.symm F10
            replace F9 := F9b
            replace hS := keep _ _ hl9 hS
            clear far keep
            refine hK.out _ _ hS ?_
            clear hK K
            try simp only [Act.put]
            refine rg_step 9 rfl (by kernel_rfl) (by rfl) (fun K hK => ?_)
            refine wp_store_ad (.tmp 10) (.tmp 21) rfl rfl rfl (norm_len z hb) F10 ?_
            intro u34 F10b far keep
            replace F9 := far _ _ _ hne F9
            replace F10 := F10b
            replace hS := keep _ _ hl10 hS
            clear far keep
            refine hK.out _ _ hS ?_
            clear hK K
            try simp only [Act.put]
            refine rg_done (by kernel_rfl) ?_
            exact ⟨_, _, rfl, F9, F10, hS⟩
          refine rg_or 7 rfl (by rfl) (fun K hK => ?_) ?_
          · refine wp_alloc_ad rfl ?_
            intro u35 F10 bK _
            have hl10 := hS.size
            have hne : W0.heap.size ≠ u30.heap.size := Nat.ne_of_lt F9.lt
            replace F9 := F9.later bK (Nat.le_refl _)
            have hS2 := hS.trans (bK.mono hS.size)
            clear bK hS
            have hS := hS2
            clear hS2
            refine hK.out _ _ hS ?_
            clear hK K
            try simp only [Act.put, List.setIfInBounds_toArray, List.set_cons_zero, List.set_cons_succ]
            refine rg_step 5 rfl (by kernel_rfl) (by rfl) (fun K hK => ?_)
            go_simp
            refine (play_addr v2 z b hb _).mono ?_
            rintro e u36 ⟨rfl, bK⟩
            have hS2 := hS.trans (bK.mono hS.size)
            replace F9 := F9.later bK (Nat.le_refl _)
            replace F10 := F10.later bK (Nat.le_refl _)
            clear bK hS
            have hS := hS2
            clear hS2
            refine hK.out _ _ hS ?_
            clear hK K
            try simp only [Act.put, List.setIfInBounds_toArray, List.set_cons_zero, List.set_cons_succ]
            refine rg_step 8 rfl (by kernel_rfl) (by rfl) (fun K hK => ?_)
            refine wp_store_ad (.tmp 9) (.tmp 18) rfl rfl rfl (norm_len z ha) F9 ?_
            intro u37 F9b far keep
            replace F10 := far _ _ _ hne.symm F10
            replace F9 := F9b
            replace hS := keep _ _ hl9 hS
            clear far keep
            refine hK.out _ _ hS ?_
            clear hK K
            try simp only [Act.put]
            refine rg_step 9 rfl (by kernel_rfl) (by rfl) (fun K hK => ?_)
            refine wp_store_ad (.tmp 10) (.tmp 21) rfl rfl rfl (norm_len z hb) F10 ?_
            intro u38 F10b far keep
            replace F9 := far _ _ _ hne F9
            replace F10 := F10b
            replace hS := keep _ _ hl10 hS
            clear far keep
            refine hK.out _ _ hS ?_
            clear hK K
            try simp only [Act.put]
            refine rg_done (by kernel_rfl) ?_
            exact ⟨_, _, rfl, F9, F10, hS⟩
          exact AllReadyH.nil
        refine rg_or 7 rfl (by rfl) (fun K hK => ?_) ?_
        · refine wp_alloc_ad rfl ?_
          intro u39 F10 bK _
          have hl10 := hS.size
          have hne : W0.heap.size ≠ u29.heap.size := Nat.ne_of_lt F9.lt
          replace F9 := F9.later bK (Nat.le_refl _)
          have hS2 := hS.trans (bK.mono hS.size)
          clear bK hS
          have hS := hS2
          clear hS2
          refine hK.out _ _ hS ?_
          clear hK K
          try simp only [Act.put, List.setIfInBounds_toArray, List.set_cons_zero, List.set_cons_succ]
          refine rg_step 2 rfl (by kernel_rfl) (by rfl) (fun K hK => ?_)
          go_simp
          refine (play_addr v1 z a ha _).mono ?_
          rintro e u40 ⟨rfl, bK⟩
          have hS2 := hS.trans (bK.mono hS.size)
          replace F9 := F9.later bK (Nat.le_refl _)
          replace F10 := F10.later bK (Nat.le_refl _)
          clear bK hS
          have hS := hS2
          clear hS2
          refine hK.out _ _ hS ?_
          clear hK K
          try simp only [Act.put, List.setIfInBounds_toArray, List.set_cons_zero, List.set_cons_succ]
          refine rg_step 5 rfl (by kernel_rfl) (by rfl) (fun K hK => ?_)
          go_simp
          refine (play_addr v2 z b hb _).mono ?_
          rintro e u41 ⟨rfl, bK⟩
          have hS2 := hS.trans (bK.mono hS.size)
          replace F9 := F9.later bK (Nat.le_refl _)
          replace F10 := F10.later bK (Nat.le_refl _)
          clear bK hS
          have hS := hS2
          clear hS2
          refine hK.out _ _ hS ?_
          clear hK K
          try simp only [Act.put, List.setIfInBounds_toArray, List.set_cons_zero, List.set_cons_succ]
          refine rg_step 8 rfl (by kernel_rfl) (by rfl) (fun K hK => ?_)
          refine wp_store_ad (.tmp 9) (.tmp 18) rfl rfl rfl (norm_len z ha) F9 ?_
          intro u42 F9b far keep
          replace F10 := far _ _ _ hne.symm F10
          replace F9 := F9b
          replace hS := keep _ _ hl9 hS
          clear far keep
          refine hK.out _ _ hS ?_
          clear hK K
          try simp only [Act.put]
          refine rg_step 9 rfl (by kernel_rfl) (by rfl) (fun K hK => ?_)
          refine wp_store_ad (.tmp 10) (.tmp 21) rfl rfl rfl (norm_len z hb) F10 ?_
          intro u43 F10b far keep
          replace F9 := far _ _ _ hne F9
          replace F10 := F10b
          replace hS := keep _ _ hl10 hS
          clear far keep
          refine hK.out _ _ hS ?_
          clear hK K
          try simp only [Act.put]
          refine rg_done (by kernel_rfl) ?_
          exact ⟨_, _, rfl, F9, F10, hS⟩
        exact AllReadyH.nil
      refine rg_or 7 rfl (by rfl) (fun K hK => ?_) ?_
      · refine wp_alloc_ad rfl ?_
        intro u44 F10 bK _
        have hl10 := hS.size
        have hS2 := hS.trans (bK.mono hS.size)
        clear bK hS
        have hS := hS2
        clear hS2
        refine hK.out _ _ hS ?_
        clear hK K
        try simp only [Act.put, List.setIfInBounds_toArray, List.set_cons_zero, List.set_cons_succ]
        refine rg_any [2, 6] (by kernel_rfl) (by simp) ?_
        refine rg_or 2 rfl (by rfl) (fun K hK => ?_) ?_
        · go_simp
          refine (play_addr v1 z a ha _).mono ?_
          rintro e u45 ⟨rfl, bK⟩
          have hS2 := hS.trans (bK.mono hS.size)
          replace F10 := F10.later bK (Nat.le_refl _)
          clear bK hS
          have hS := hS2
          clear hS2
          refine hK.out _ _ hS ?_
          clear hK K
          try simp only [Act.put, List.setIfInBounds_toArray, List.set_cons_zero, List.set_cons_succ]
          refine rg_any [5, 6] (by kernel_rfl) (by simp) ?_
          refine rg_or 5 rfl (by rfl) (fun K hK => ?_) ?_
          · go_simp
            refine (play_addr v2 z b hb _).mono ?_
            rintro e u46 ⟨rfl, bK⟩
            have hS2 := hS.trans (bK.mono hS.size)
            replace F10 := F10.later bK (Nat.le_refl _)
            clear bK hS
            have hS := hS2
            clear hS2
            refine hK.out _ _ hS ?_
            clear hK K
            try simp only [Act.put, List.setIfInBounds_toArray, List.set_cons_zero, List.set_cons_succ]
            refine rg_step 6 rfl (by kernel_rfl) (by rfl) (fun K hK => ?_)
            refine wp_alloc_ad rfl ?_
            intro u47 F9 bK _
            have hl9 := hS.size
            have hne : u46.heap.size ≠ W0.heap.size := (Nat.ne_of_lt F10.lt).symm
            replace F10 := F10.later bK (Nat.le_refl _)
            have hS2 := hS.trans (bK.mono hS.size)
            clear bK hS
            have hS := hS2
            clear hS2
            refine hK.out _ _ hS ?_
            clear hK K
            try simp only [Act.put, List.setIfInBounds_toArray, List.set_cons_zero, List.set_cons_succ]
            refine rg_step 8 rfl (by kernel_rfl) (by rfl) (fun K hK => ?_)
            refine wp_store_ad (.tmp 9) (.tmp 18) rfl rfl rfl (norm_len z ha) F9 ?_
            intro u48 F9b far keep
            replace F10 := far _ _ _ hne.symm F10
            replace F9 := F9b
            replace hS := keep _ _ hl9 hS
            clear far keep
            refine hK.out _ _ hS ?_
            clear hK K
            try simp only [Act.put]
            refine rg_step 9 rfl (by kernel_rfl) (by rfl) (fun K hK => ?_)
            refine wp_store_ad (.tmp 10) (.tmp 21) rfl rfl rfl (norm_len z hb) F10 ?_
            intro u49 F10b far keep
            replace F9 := far _ _ _ hne F9
            replace F10 := F10b
            replace hS := keep _ _ hl10 hS
            clear far keep
            refine hK.out _ _ hS ?_
            clear hK K
            try simp only [Act.put]
            refine rg_done (by kernel_rfl) ?_
            exact ⟨_, _, rfl, F9, F10, hS⟩
          refine rg_or 6 rfl (by rfl) (fun K hK => ?_) ?_
          · refine wp_alloc_ad rfl ?_
            intro u50 F9 bK _
            have hl9 := hS.size
            have hne : u45.heap.size ≠ W0.heap.size := (Nat.ne_of_lt F10.lt).symm
            replace F10 := F10.later bK (Nat.le_refl _)
            have hS2 := hS.trans (bK.mono hS.size)
            clear bK hS
            have hS := hS2
            clear hS2
            refine hK.out _ _ hS ?_
            clear hK K
            try simp only [Act.put, List.setIfInBounds_toArray, List.set_cons_zero, List.set_cons_succ]
            refine rg_step 5 rfl (by kernel_rfl) (by rfl) (fun K hK => ?_)
            go_simp
            refine (play_addr v2 z b hb _).mono ?_
            rintro e u51 ⟨rfl, bK⟩
            have hS2 := hS.trans (bK.mono hS.size)
            replace F9 := F9.later bK (Nat.le_refl _)
            replace F10 := F10.later bK (Nat.le_refl _)
            clear bK hS
            have hS := hS2
            clear hS2
            refine hK.out _ _ hS ?_
            clear hK K
            try simp only [Act.put, List.setIfInBounds_toArray, List.set_cons_zero, List.set_cons_succ]
            refine rg_step 8 rfl (by kernel_rfl) (by rfl) (fun K hK => ?_)
            refine wp_store_ad (.tmp 9) (.tmp 18) rfl rfl rfl (norm_len z ha) F9 ?_
            intro u52 F9b far keep
            replace F10 := far _ _ _ hne.symm F10
            replace F9 := F9b
            replace hS := keep _ _ hl9 hS
            clear far keep
            refine hK.out _ _ hS ?_
            clear hK K
            try simp only [Act.put]
            refine rg_step 9 rfl (by kernel_rfl) (by rfl) (fun K hK => ?_)
            refine wp_store_ad (.tmp 10) (.tmp 21) rfl rfl rfl (norm_len z hb) F10 ?_
            intro u53 F10b far keep
            replace F9 := far _ _ _ hne F9
            replace F10 := F10b
            replace hS := keep _ _ hl10 hS
            clear far keep
            refine hK.out _ _ hS ?_
            clear hK K
            try simp only [Act.put]
            refine rg_done (by kernel_rfl) ?_
            exact ⟨_, _, rfl, F9, F10, hS⟩
          exact AllReadyH.nil
        refine rg_or 6 rfl (by rfl) (fun K hK => ?_) ?_
        · refine wp_alloc_ad rfl ?_
          intro u54 F9 bK _
          have hl9 := hS.size
          have hne : u44.heap.size ≠ W0.heap.size := (Nat.ne_of_lt F10.lt).symm
          replace F10 := F10.later bK (Nat.le_refl _)
          have hS2 := hS.trans (bK.mono hS.size)
          clear bK hS
          have hS := hS2
          clear hS2
          refine hK.out _ _ hS ?_
          clear hK K
          try simp only [Act.put, List.setIfInBounds_toArray, List.set_cons_zero, List.set_cons_succ]
          refine rg_step 2 rfl (by kernel_rfl) (by rfl) (fun K hK => ?_)
          go_simp
          refine (play_addr v1 z a ha _).mono ?_
          rintro e u55 ⟨rfl, bK⟩
          have hS2 := hS.trans (bK.mono hS.size)
          replace F9 := F9.later bK (Nat.le_refl _)
          replace F10 := F10.later bK (Nat.le_refl _)
          clear bK hS
          have hS := hS2
          clear hS2
          refine hK.out _ _ hS ?_
          clear hK K
          try simp only [Act.put, List.setIfInBounds_toArray, List.set_cons_zero, List.set_cons_succ]
          refine rg_step 5 rfl (by kernel_rfl) (by rfl) (fun K hK => ?_)
          go_simp
          refine (play_addr v2 z b hb _).mono ?_
          rintro e u56 ⟨rfl, bK⟩
          have hS2 := hS.trans (bK.mono hS.size)
          replace F9 := F9.later bK (Nat.le_refl _)
          replace F10 := F10.later bK (Nat.le_refl _)
          clear bK hS
          have hS := hS2
          clear hS2
          refine hK.out _ _ hS ?_
          clear hK K
          try simp only [Act.put, List.setIfInBounds_toArray, List.set_cons_zero, List.set_cons_succ]
          refine rg_step 8 rfl (by kernel_rfl) (by rfl) (fun K hK => ?_)
          refine wp_store_ad (.tmp 9) (.tmp 18) rfl rfl rfl (norm_len z ha) F9 ?_
          intro u57 F9b far keep
          replace F10 := far _ _ _ hne.symm F10
          replace F9 := F9b
          replace hS := keep _ _ hl9 hS
          clear far keep
          refine hK.out _ _ hS ?_
          clear hK K
          try simp only [Act.put]
          refine rg_step 9 rfl (by kernel_rfl) (by rfl) (fun K hK => ?_)
          refine wp_store_ad (.tmp 10) (.tmp 21) rfl rfl rfl (norm_len z hb) F10 ?_
          intro u58 F10b far keep
          replace F9 := far _ _ _ hne F9
          replace F10 := F10b
          replace hS := keep _ _ hl10 hS
          clear far keep
          refine hK.out _ _ hS ?_
          clear hK K
          try simp only [Act.put]
          refine rg_done (by kernel_rfl) ?_
          exact ⟨_, _, rfl, F9, F10, hS⟩
        exact AllReadyH.nil
      exact AllReadyH.nil
    · rintro a' w4 ⟨g9, g10, rfl, F9, F10, hS4⟩
      have H4 := Lib.hid (And.intro F9 (And.intro F10 (B2.out.trans (hS4.mono B2.out.size))))
      clear F9 F10 hS4 hS
      obtain ⟨r, hr⟩ : ∃ r, 65535 - fold (tot (aheadL z (norm z a) (norm z b) 17 n) + tot l) = r := ⟨_, rfl⟩
      have hr2 : 65535 - fold (tot (aheadL z (norm z b) (norm z a) 17 n) + tot l) = r := by rw [ahead_swap z (norm_len z hb) (norm_len z ha)]; exact hr
      have hr3 : cks (lawAhead z (norm z a) (norm z b) n ++ l) = r := by rw [lawAhead_eq z _ _ n (by omega), cks_append _ _ (aheadL_even z (norm_len z ha) (norm_len z hb) 17 n)]; exact hr
      have HR := Lib.hid (And.intro hr (And.intro hr2 hr3))
      clear hr hr2 hr3
      cases z
      · go_wp2_with (first
          | (at_builtin; refine wpList_append_bs rfl (.const (.slice none 0 0)) (.tmp 23) 25 rfl w4.heap.size 5 info5 Try.underlying25 (.slice none 0 0) 0 [] rfl (World.ownsRow_nil _ _ _ _) _ 4 16 _ rfl (H4.out.1.bytes4) (by omega) (Nat.le_refl _) ?_; intro v5 w5 o5 g5 _ _; have H5 := Lib.hid (And.intro o5 ((Below.refl w4.heap.size w4).grown g5 (Nat.le_refl _) (fun q hq => by cases hq))); clear o5 g5)
          | (at_builtin; refine wpList_append_bs rfl (.tmp 25) (.tmp 27) 25 rfl w4.heap.size 5 info5 Try.underlying25 _ _ _ rfl (H5.out.1) _ 4 16 _ rfl ((H4.out.2.1.later H5.out.2 (Nat.le_refl _)).bytes4) (by omega) (H5.out.2.size) ?_; intro v6 w6 o6 g6 _ _; have H6 := Lib.hid (And.intro o6 ((H5.out.2).grown g6 (H5.out.2.size) (fun q hq => (World.ownsRow.lt (H5.out.1) q hq).1))); have o6x := own_kept H6.out.1 ((Below.refl w6.heap.size w6).alloc (Nat.le_refl _) (.cells #[.int .u8 0, .int .u8 17, .int .u8 ((n : Int) / 256), .int .u8 ((n : Int) % 256)] 5)); have H6x := Lib.hid (And.intro o6x (H6.out.2.alloc H6.out.2.size (.cells #[.int .u8 0, .int .u8 17, .int .u8 ((n : Int) / 256), .int .u8 ((n : Int) % 256)] 5))); clear o6x; clear o6 g6)
          | (at_builtin; refine wpList_append_bs rfl (.tmp 46) (.tmp 54) 25 rfl w4.heap.size 5 info5 Try.underlying25 _ _ _ rfl (H6x.out.1) _ 4 4 _ rfl (Bs.lit w6 [0, 17, UInt8.ofNat (n / 256), UInt8.ofNat (n % 256)] 4 rfl (by unfold maxLen; omega) _ (by simp [bv]; omega) _) (by omega) (H6x.out.2.size) ?_; intro v7 w7 o7 g7 _ _; have H7 := Lib.hid (And.intro o7 ((H6x.out.2).grown g7 (H6x.out.2.size) (fun q hq => (World.ownsRow.lt (H6x.out.1) q hq).1))); clear o7 g7))
        have hL : [] ++ (norm false a).take 4 ++ (norm false b).take 4 ++ [0, 17, UInt8.ofNat (n / 256), UInt8.ofNat (n % 256)] = lawAhead false (norm false a) (norm false b) n := rfl
        have ho := H7.out.1
        rw [hL] at ho
        have H8 := Lib.hid (And.intro (owns_n (n' := 12) (by omega) ho) H7.out.2)
        clear ho hL
        have hS := H8.out.2.drew
        have ox := own_kept H8.out.1 (Below.refl _ _).drew
        have HX := Lib.hid ox
        clear ox
        refine rg_begin (fun w' => Below w4.heap.size w4 w') 24 (by kernel_rfl) rfl ?_
        refine rg_step 0 rfl (by kernel_rfl) (by rfl) (fun K hK => ?_)
        go_simp
        refine (awake03 _).mono ?_
        rintro e y1 ⟨rfl, b1⟩
        have HX1 := Lib.hid (own_kept HX.out b1)
        replace hS := hS.trans (b1.mono hS.size)
        clear b1
        refine hK.out _ _ hS ?_
        clear hK K
        try simp only [Act.put, List.setIfInBounds_toArray, List.set_cons_zero, List.set_cons_succ]
        refine rg_take 1 (v := ?rv3) rfl (by kernel_rfl) (by kernel_rfl) (by kernel_rfl) (fun _ _ _ h => h) (by rfl) hS (fun w2 hw2 => ?ry3) ?rr3
        case ry3 => ((try dsimp only at hw2); go_simp <;> with_reducible rfl)
        simp only [Act.put, List.setIfInBounds_toArray, List.set_cons_zero, List.set_cons_succ]
        refine rg_load 2 rfl (by kernel_rfl) (by kernel_rfl) (by kernel_rfl) (g9) 0 (adv false (norm false a)) (fun _ _ _ h => h) (by rfl) 24 (.tmp 9) rfl rfl hS (fun w2 h2 => (AdBox.later H4.out.1 h2 (Nat.le_refl _)).range) Try.underlying24 rfl (ad_size false H4.out.1.2) ?_
        simp only [Act.put, List.setIfInBounds_toArray, List.set_cons_zero, List.set_cons_succ]
        refine rg_load 3 rfl (by kernel_rfl) (by kernel_rfl) (by kernel_rfl) (g10) 0 (adv false (norm false b)) (fun _ _ _ h => h) (by rfl) 24 (.tmp 10) rfl rfl hS (fun w2 h2 => (AdBox.later H4.out.2.1 h2 (Nat.le_refl _)).range) Try.underlying24 rfl (ad_size false H4.out.2.1.2) ?_
        simp only [Act.put, List.setIfInBounds_toArray, List.set_cons_zero, List.set_cons_succ]
        refine rg_take 4 (v := ?rv4) rfl (by kernel_rfl) (by kernel_rfl) (by kernel_rfl) (fun _ _ _ h => h) (by rfl) hS (fun w2 hw2 => ?ry4) ?rr4
        case ry4 => ((try dsimp only at hw2); go_simp <;> with_reducible rfl)
        simp only [Act.put, List.setIfInBounds_toArray, List.set_cons_zero, List.set_cons_succ]
        refine rg_load 6 rfl (by kernel_rfl) (by kernel_rfl) (by kernel_rfl) (g10) 0 (adv false (norm false b)) (fun _ _ _ h => h) (by rfl) 24 (.tmp 10) rfl rfl hS (fun w2 h2 => (AdBox.later H4.out.2.1 h2 (Nat.le_refl _)).range) Try.underlying24 rfl (ad_size false H4.out.2.1.2) ?_
        simp only [Act.put, List.setIfInBounds_toArray, List.set_cons_zero, List.set_cons_succ]
        refine rg_load 7 rfl (by kernel_rfl) (by kernel_rfl) (by kernel_rfl) (g9) 0 (adv false (norm false a)) (fun _ _ _ h => h) (by rfl) 24 (.tmp 9) rfl rfl hS (fun w2 h2 => (AdBox.later H4.out.1 h2 (Nat.le_refl _)).range) Try.underlying24 rfl (ad_size false H4.out.1.2) ?_
        simp only [Act.put, List.setIfInBounds_toArray, List.set_cons_zero, List.set_cons_succ]
        refine rg_take 8 (v := ?rv5) rfl (by kernel_rfl) (by kernel_rfl) (by kernel_rfl) (fun _ _ _ h => h) (by rfl) hS (fun w2 hw2 => ?ry5) ?rr5
        case ry5 => ((try dsimp only at hw2); go_simp <;> with_reducible rfl)
        simp only [Act.put, List.setIfInBounds_toArray, List.set_cons_zero, List.set_cons_succ]
        refine rg_step 5 rfl (by kernel_rfl) (by rfl) (fun K hK => ?_)
        go_simp
        refine (over_any false false (norm false a) (norm false b) (norm_len false ha) (norm_len false hb) 17 (HB.out.later (H4.out.2.2.trans (hS.mono H4.out.2.2.size)) (Nat.le_refl _)) (by omega)).mono ?_
        rintro e y2 ⟨rfl, b2⟩
        rw [HR.out.1]
        have HX2 := Lib.hid (own_kept HX1.out b2)
        replace hS := hS.trans (b2.mono hS.size)
        clear b2
        refine hK.out _ _ hS ?_
        clear hK K
        try simp only [Act.put, List.setIfInBounds_toArray, List.set_cons_zero, List.set_cons_succ]
        refine rg_step 9 rfl (by kernel_rfl) (by rfl) (fun K hK => ?_)
        go_simp
        refine (over_any false false (norm false b) (norm false a) (norm_len false hb) (norm_len false ha) 17 (HB.out.later (H4.out.2.2.trans (hS.mono H4.out.2.2.size)) (Nat.le_refl _)) (by omega)).mono ?_
        rintro e y3 ⟨rfl, b3⟩
        rw [HR.out.2.1]
        have HX3 := Lib.hid (own_kept HX2.out b3)
        replace hS := hS.trans (b3.mono hS.size)
        clear b3
        refine hK.out _ _ hS ?_
        clear hK K
        try simp only [Act.put, List.setIfInBounds_toArray, List.set_cons_zero, List.set_cons_succ]
        refine rg_take 10 (v := ?rv6) rfl (by kernel_rfl) (by kernel_rfl) (by kernel_rfl) (fun _ _ _ h => h) (by rfl) hS (fun w2 hw2 => ?ry6) ?rr6
        case ry6 => ((try dsimp only at hw2); go_simp <;> with_reducible rfl)
        simp only [Act.put, List.setIfInBounds_toArray, List.set_cons_zero, List.set_cons_succ]
        refine rg_take 11 (v := ?rv7) rfl (by kernel_rfl) (by kernel_rfl) (by kernel_rfl) (fun _ _ _ h => h) (by rfl) hS (fun w2 hw2 => ?ry7) ?rr7
        case ry7 => ((try dsimp only at hw2); go_simp <;> with_reducible rfl)
        simp only [Act.put, List.setIfInBounds_toArray, List.set_cons_zero, List.set_cons_succ]
        refine rg_take 12 (v := ?rv8) rfl (by kernel_rfl) (by kernel_rfl) (by kernel_rfl) (fun _ _ _ h => h) (by rfl) hS (fun w2 hw2 => ?ry8) ?rr8
        case ry8 => ((try dsimp only at hw2); go_simp <;> with_reducible rfl)
        simp only [Act.put, List.setIfInBounds_toArray, List.set_cons_zero, List.set_cons_succ]
        refine rg_load 13 rfl (by kernel_rfl) (by kernel_rfl) (by kernel_rfl) (g9) 0 (adv false (norm false a)) (fun _ _ _ h => h) (by rfl) 24 (.tmp 9) rfl rfl hS (fun w2 h2 => (AdBox.later H4.out.1 h2 (Nat.le_refl _)).range) Try.underlying24 rfl (ad_size false H4.out.1.2) ?_
        simp only [Act.put, List.setIfInBounds_toArray, List.set_cons_zero, List.set_cons_succ]
        refine rg_load 14 rfl (by kernel_rfl) (by kernel_rfl) (by kernel_rfl) (g10) 0 (adv false (norm false b)) (fun _ _ _ h => h) (by rfl) 24 (.tmp 10) rfl rfl hS (fun w2 h2 => (AdBox.later H4.out.2.1 h2 (Nat.le_refl _)).range) Try.underlying24 rfl (ad_size false H4.out.2.1.2) ?_
        simp only [Act.put, List.setIfInBounds_toArray, List.set_cons_zero, List.set_cons_succ]
        refine rg_take 15 (v := ?rv9) rfl (by kernel_rfl) (by kernel_rfl) (by kernel_rfl) (fun _ _ _ h => h) (by rfl) hS (fun w2 hw2 => ?ry9) ?rr9
        case ry9 => ((try dsimp only at hw2); go_simp <;> with_reducible rfl)
        simp only [Act.put, List.setIfInBounds_toArray, List.set_cons_zero, List.set_cons_succ]
        refine rg_take 17 (v := ?rv10) rfl (by kernel_rfl) (by kernel_rfl) (by kernel_rfl) (fun _ _ _ h => h) (by rfl) hS (fun w2 hw2 => ?ry10) ?rr10
        case ry10 => ((try dsimp only at hw2); go_simp <;> with_reducible rfl)
        simp only [Act.put, List.setIfInBounds_toArray, List.set_cons_zero, List.set_cons_succ]
        refine rg_take 18 (v := ?rv11) rfl (by kernel_rfl) (by kernel_rfl) (by kernel_rfl) (fun _ _ _ h => h) (by rfl) hS (fun w2 hw2 => ?ry11) ?rr11
        case ry11 => ((try dsimp only at hw2); go_simp <;> with_reducible rfl)
        simp only [Act.put, List.setIfInBounds_toArray, List.set_cons_zero, List.set_cons_succ]
        refine rg_step 16 rfl (by kernel_rfl) (by rfl) (fun K hK => ?_)
        go_simp
        refine (over_any false false (norm false a) (norm false b) (norm_len false ha) (norm_len false hb) 17 (HB.out.later (H4.out.2.2.trans (hS.mono H4.out.2.2.size)) (Nat.le_refl _)) (by omega)).mono ?_
        rintro e y4 ⟨rfl, b4⟩
        rw [HR.out.1]
        have HX4 := Lib.hid (own_kept HX3.out b4)
        replace hS := hS.trans (b4.mono hS.size)
        clear b4
        refine hK.out _ _ hS ?_
        clear hK K
        try simp only [Act.put, List.setIfInBounds_toArray, List.set_cons_zero, List.set_cons_succ]
        refine rg_step 19 rfl (by kernel_rfl) (by rfl) (fun K hK => ?_)
        refine wp_append_bs (.tmp 73) (.tmp 74) 25 rfl w4.heap.size 5 info5 Try.underlying25 _ _ _ rfl HX4.out _ _ _ _ rfl (HB.out.later (H4.out.2.2.trans (hS.mono H4.out.2.2.size)) (Nat.le_refl _)) (by omega) hS.size ?_
        intro v5 y5 o5 g5 _ _
        replace hS := hS.grown g5 hS.size (fun q hq => (HX4.out.lt q hq).1)
        obtain ⟨AX, cx, rfl, BX⟩ := Bs.of_own o5
        have HBX := Lib.hid BX
        clear o5 g5 BX
        refine hK.out _ _ hS ?_
        clear hK K
        try simp only [Act.put, List.setIfInBounds_toArray, List.set_cons_zero, List.set_cons_succ]
        refine rg_step 20 rfl (by kernel_rfl) (by rfl) (fun K hK => ?_)
        go_simp
        refine (of_any HBX.out (by omega)).mono ?_
        rintro e y6 ⟨rfl, b6⟩
        rw [HR.out.2.2]
        replace hS := hS.trans (b6.mono hS.size)
        clear b6
        refine hK.out _ _ hS ?_
        clear hK K
        try simp only [Act.put, List.setIfInBounds_toArray, List.set_cons_zero, List.set_cons_succ]
        refine rg_take 21 (v := ?rv12) rfl (by kernel_rfl) (by kernel_rfl) (by kernel_rfl) (fun _ _ _ h => h) (by rfl) hS (fun w2 hw2 => ?ry12) ?rr12
        case ry12 => ((try dsimp only at hw2); go_simp <;> with_reducible rfl)
        simp only [Act.put, List.setIfInBounds_toArray, List.set_cons_zero, List.set_cons_succ]
        refine rg_take 22 (v := ?rv13) rfl (by kernel_rfl) (by kernel_rfl) (by kernel_rfl) (fun _ _ _ h => h) (by rfl) hS (fun w2 hw2 => ?ry13) ?rr13
        case ry13 => ((try dsimp only at hw2); go_simp <;> with_reducible rfl)
        simp only [Act.put, List.setIfInBounds_toArray, List.set_cons_zero, List.set_cons_succ]
        refine rg_take 23 (v := ?rv14) rfl (by kernel_rfl) (by kernel_rfl) (by kernel_rfl) (fun _ _ _ h => h) (by rfl) hS (fun w2 hw2 => ?ry14) ?rr14
        case ry14 => ((try dsimp only at hw2); go_simp <;> with_reducible rfl)
        simp only [Act.put, List.setIfInBounds_toArray, List.set_cons_zero, List.set_cons_succ]
        refine rg_done (by kernel_rfl) ?_
        have H9 := Lib.hid (H4.out.2.2.trans (hS.mono H4.out.2.2.size))
        clear hS
        go_wp2_with fail
        go_ret
        exact ⟨rfl, H9.out⟩
      · go_wp2_with (first
          | (at_builtin; refine wpList_append_bs rfl (.const (.slice none 0 0)) (.tmp 23) 25 rfl w4.heap.size 5 info5 Try.underlying25 (.slice none 0 0) 0 [] rfl (World.ownsRow_nil _ _ _ _) _ 4 16 _ rfl (H4.out.1.bytes4) (by omega) (Nat.le_refl _) ?_; intro v5 w5 o5 g5 _ _; have H5 := Lib.hid (And.intro o5 ((Below.refl w4.heap.size w4).grown g5 (Nat.le_refl _) (fun q hq => by cases hq))); clear o5 g5)
          | (at_builtin; refine wpList_append_bs rfl (.tmp 25) (.tmp 27) 25 rfl w4.heap.size 5 info5 Try.underlying25 _ _ _ rfl (H5.out.1) _ 4 16 _ rfl ((H4.out.2.1.later H5.out.2 (Nat.le_refl _)).bytes4) (by omega) (H5.out.2.size) ?_; intro v6 w6 o6 g6 _ _; have H6 := Lib.hid (And.intro o6 ((H5.out.2).grown g6 (H5.out.2.size) (fun q hq => (World.ownsRow.lt (H5.out.1) q hq).1))); clear o6 g6))
        have hS := H6.out.2.drew
        refine rg_begin (fun w' => Below w4.heap.size w4 w') 7 (by kernel_rfl) rfl ?_
        refine rg_take 0 (v := ?rv15) rfl (by kernel_rfl) (by kernel_rfl) (by kernel_rfl) (fun _ _ _ h => h) (by rfl) hS (fun w2 hw2 => ?ry15) ?rr15
        case ry15 => ((try dsimp only at hw2); go_simp <;> with_reducible rfl)
        simp only [Act.put, List.setIfInBounds_toArray, List.set_cons_zero, List.set_cons_succ]
        refine rg_take 1 (v := ?rv16) rfl (by kernel_rfl) (by kernel_rfl) (by kernel_rfl) (fun _ _ _ h => h) (by rfl) hS (fun w2 hw2 => ?ry16) ?rr16
        case ry16 => ((try dsimp only at hw2); go_simp <;> with_reducible rfl)
        simp only [Act.put, List.setIfInBounds_toArray, List.set_cons_zero, List.set_cons_succ]
        refine rg_take 3 (v := ?rv17) rfl (by kernel_rfl) (by kernel_rfl) (by kernel_rfl) (fun _ _ _ h => h) (by rfl) hS (fun w2 hw2 => ?ry17) ?rr17
        case ry17 => ((try dsimp only at hw2); go_simp <;> with_reducible rfl)
        simp only [Act.put, List.setIfInBounds_toArray, List.set_cons_zero, List.set_cons_succ]
        refine rg_take 4 (v := ?rv18) rfl (by kernel_rfl) (by kernel_rfl) (by kernel_rfl) (fun _ _ _ h => h) (by rfl) hS (fun w2 hw2 => ?ry18) ?rr18
        case ry18 => ((try dsimp only at hw2); go_simp <;> with_reducible rfl)
        simp only [Act.put, List.setIfInBounds_toArray, List.set_cons_zero, List.set_cons_succ]
        refine rg_step 2 rfl (by kernel_rfl) (by rfl) (fun K hK => ?_)
        refine wp_append_bs (.const (.slice none 0 0)) (.tmp 31) 25 rfl w4.heap.size 5 info5 Try.underlying25 (.slice none 0 0) 0 [] rfl (World.ownsRow_nil _ _ _ _) _ 16 16 _ rfl (H4.out.1.later hS (Nat.le_refl _)).bytes (by omega) hS.size ?_
        intro v7 w7 o7 g7 _ _
        replace hS := hS.grown g7 hS.size (fun q hq => by cases hq)
        have H7 := Lib.hid o7
        clear o7 g7
        refine hK.out _ _ hS ?_
        clear hK K
        try simp only [Act.put, List.setIfInBounds_toArray, List.set_cons_zero, List.set_cons_succ]
        refine rg_step 5 rfl (by kernel_rfl) (by rfl) (fun K hK => ?_)
        refine wp_append_bs (.tmp 32) (.tmp 34) 25 rfl w4.heap.size 5 info5 Try.underlying25 _ _ _ rfl H7.out _ 16 16 _ rfl (H4.out.2.1.later hS (Nat.le_refl _)).bytes (by omega) hS.size ?_
        intro v8 w8 o8 g8 _ _
        replace hS := hS.grown g8 hS.size (fun q hq => (H7.out.lt q hq).1)
        have o8x := own_kept o8 ((Below.refl w8.heap.size w8).alloc (Nat.le_refl _) (.cells #[.int .u8 0, .int .u8 0, .int .u8 ((n : Int) / 256), .int .u8 ((n : Int) % 256), .int .u8 0, .int .u8 0, .int .u8 0, .int .u8 17] 5))
        have H8x := Lib.hid (And.intro o8x (hS.alloc hS.size (.cells #[.int .u8 0, .int .u8 0, .int .u8 ((n : Int) / 256), .int .u8 ((n : Int) % 256), .int .u8 0, .int .u8 0, .int .u8 0, .int .u8 17] 5)))
        clear o8 g8 o8x
        refine hK.out _ _ hS ?_
        clear hK K
        try simp only [Act.put, List.setIfInBounds_toArray, List.set_cons_zero, List.set_cons_succ]
        refine rg_take 6 (v := ?rv19) rfl (by kernel_rfl) (by kernel_rfl) (by kernel_rfl) (fun _ _ _ h => h) (by rfl) hS (fun w2 hw2 => ?ry19) ?rr19
        case ry19 => ((try dsimp only at hw2); go_simp <;> with_reducible rfl)
        simp only [Act.put, List.setIfInBounds_toArray, List.set_cons_zero, List.set_cons_succ]
        refine rg_done (by kernel_rfl) ?_
        clear hS
        go_wp2_with (at_builtin; refine wpList_append_bs rfl (.tmp 36) (.tmp 44) 25 rfl w4.heap.size 5 info5 Try.underlying25 _ _ _ rfl H8x.out.1 _ 8 8 _ rfl (Bs.lit w8 [0, 0, UInt8.ofNat (n / 256), UInt8.ofNat (n % 256), 0, 0, 0, 17] 8 rfl (by unfold maxLen; omega) _ (by simp [bv]; omega) _) (by omega) H8x.out.2.size ?_; intro v9 w9 o9 g9' _ _; have H9 := Lib.hid (And.intro o9 (H8x.out.2.grown g9' H8x.out.2.size (fun q hq => (H8x.out.1.lt q hq).1))); clear o9 g9')
        have hL : [] ++ norm true a ++ norm true b ++ [0, 0, UInt8.ofNat (n / 256), UInt8.ofNat (n % 256), 0, 0, 0, 17] = lawAhead true (norm true a) (norm true b) n := rfl
        have ho := H9.out.1
        rw [hL] at ho
        have H8 := Lib.hid (And.intro (owns_n (n' := 40) (by omega) ho) H9.out.2)
        clear ho hL
        have hS := H8.out.2.drew
        have ox := own_kept H8.out.1 (Below.refl _ _).drew
        have HX := Lib.hid ox
        clear ox
        refine rg_begin (fun w' => Below w4.heap.size w4 w') 24 (by kernel_rfl) rfl ?_
        refine rg_step 0 rfl (by kernel_rfl) (by rfl) (fun K hK => ?_)
        go_simp
        refine (awake03 _).mono ?_
        rintro e y1 ⟨rfl, b1⟩
        have HX1 := Lib.hid (own_kept HX.out b1)
        replace hS := hS.trans (b1.mono hS.size)
        clear b1
        refine hK.out _ _ hS ?_
        clear hK K
        try simp only [Act.put, List.setIfInBounds_toArray, List.set_cons_zero, List.set_cons_succ]
        refine rg_take 1 (v := ?rv20) rfl (by kernel_rfl) (by kernel_rfl) (by kernel_rfl) (fun _ _ _ h => h) (by rfl) hS (fun w2 hw2 => ?ry20) ?rr20
        case ry20 => ((try dsimp only at hw2); go_simp <;> with_reducible rfl)
        simp only [Act.put, List.setIfInBounds_toArray, List.set_cons_zero, List.set_cons_succ]
        refine rg_load 2 rfl (by kernel_rfl) (by kernel_rfl) (by kernel_rfl) (g9) 0 (adv true (norm true a)) (fun _ _ _ h => h) (by rfl) 24 (.tmp 9) rfl rfl hS (fun w2 h2 => (AdBox.later H4.out.1 h2 (Nat.le_refl _)).range) Try.underlying24 rfl (ad_size true H4.out.1.2) ?_
        simp only [Act.put, List.setIfInBounds_toArray, List.set_cons_zero, List.set_cons_succ]
        refine rg_load 3 rfl (by kernel_rfl) (by kernel_rfl) (by kernel_rfl) (g10) 0 (adv true (norm true b)) (fun _ _ _ h => h) (by rfl) 24 (.tmp 10) rfl rfl hS (fun w2 h2 => (AdBox.later H4.out.2.1 h2 (Nat.le_refl _)).range) Try.underlying24 rfl (ad_size true H4.out.2.1.2) ?_
        simp only [Act.put, List.setIfInBounds_toArray, List.set_cons_zero, List.set_cons_succ]
        refine rg_take 4 (v := ?rv21) rfl (by kernel_rfl) (by kernel_rfl) (by kernel_rfl) (fun _ _ _ h => h) (by rfl) hS (fun w2 hw2 => ?ry21) ?rr21
        case ry21 => ((try dsimp only at hw2); go_simp <;> with_reducible rfl)
        simp only [Act.put, List.setIfInBounds_toArray, List.set_cons_zero, List.set_cons_succ]
        refine rg_load 6 rfl (by kernel_rfl) (by kernel_rfl) (by kernel_rfl) (g10) 0 (adv true (norm true b)) (fun _ _ _ h => h) (by rfl) 24 (.tmp 10) rfl rfl hS (fun w2 h2 => (AdBox.later H4.out.2.1 h2 (Nat.le_refl _)).range) Try.underlying24 rfl (ad_size true H4.out.2.1.2) ?_
        simp only [Act.put, List.setIfInBounds_toArray, List.set_cons_zero, List.set_cons_succ]
        refine rg_load 7 rfl (by kernel_rfl) (by kernel_rfl) (by kernel_rfl) (g9) 0 (adv true (norm true a)) (fun _ _ _ h => h) (by rfl) 24 (.tmp 9) rfl rfl hS (fun w2 h2 => (AdBox.later H4.out.1 h2 (Nat.le_refl _)).range) Try.underlying24 rfl (ad_size true H4.out.1.2) ?_
        simp only [Act.put, List.setIfInBounds_toArray, List.set_cons_zero, List.set_cons_succ]
        refine rg_take 8 (v := ?rv22) rfl (by kernel_rfl) (by kernel_rfl) (by kernel_rfl) (fun _ _ _ h => h) (by rfl) hS (fun w2 hw2 => ?ry22) ?rr22
        case ry22 => ((try dsimp only at hw2); go_simp <;> with_reducible rfl)
        simp only [Act.put, List.setIfInBounds_toArray, List.set_cons_zero, List.set_cons_succ]
        refine rg_step 5 rfl (by kernel_rfl) (by rfl) (fun K hK => ?_)
        go_simp
        refine (over_any true true (norm true a) (norm true b) (norm_len true ha) (norm_len true hb) 17 (HB.out.later (H4.out.2.2.trans (hS.mono H4.out.2.2.size)) (Nat.le_refl _)) (by omega)).mono ?_
        rintro e y2 ⟨rfl, b2⟩
        rw [HR.out.1]
        have HX2 := Lib.hid (own_kept HX1.out b2)
        replace hS := hS.trans (b2.mono hS.size)
        clear b2
        refine hK.out _ _ hS ?_
        clear hK K
        try simp only [Act.put, List.setIfInBounds_toArray, List.set_cons_zero, List.set_cons_succ]
        refine rg_step 9 rfl (by kernel_rfl) (by rfl) (fun K hK => ?_)
        go_simp
        refine (over_any true true (norm true b) (norm true a) (norm_len true hb) (norm_len true ha) 17 (HB.out.later (H4.out.2.2.trans (hS.mono H4.out.2.2.size)) (Nat.le_refl _)) (by omega)).mono ?_
        rintro e y3 ⟨rfl, b3⟩
        rw [HR.out.2.1]
        have HX3 := Lib.hid (own_kept HX2.out b3)
        replace hS := hS.trans (b3.mono hS.size)
        clear b3
        refine hK.out _ _ hS ?_
        clear hK K
        try simp only [Act.put, List.setIfInBounds_toArray, List.set_cons_zero, List.set_cons_succ]
        refine rg_take 10 (v := ?rv23) rfl (by kernel_rfl) (by kernel_rfl) (by kernel_rfl) (fun _ _ _ h => h) (by rfl) hS (fun w2 hw2 => ?ry23) ?rr23
        case ry23 => ((try dsimp only at hw2); go_simp <;> with_reducible rfl)
        simp only [Act.put, List.setIfInBounds_toArray, List.set_cons_zero, List.set_cons_succ]
        refine rg_take 11 (v := ?rv24) rfl (by kernel_rfl) (by kernel_rfl) (by kernel_rfl) (fun _ _ _ h => h) (by rfl) hS (fun w2 hw2 => ?ry24) ?rr24
        case ry24 => ((try dsimp only at hw2); go_simp <;> with_reducible rfl)
        simp only [Act.put, List.setIfInBounds_toArray, List.set_cons_zero, List.set_cons_succ]
        refine rg_take 12 (v := ?rv25) rfl (by kernel_rfl) (by kernel_rfl) (by kernel_rfl) (fun _ _ _ h => h) (by rfl) hS (fun w2 hw2 => ?ry25) ?rr25
        case ry25 => ((try dsimp only at hw2); go_simp <;> with_reducible rfl)
        simp only [Act.put, List.setIfInBounds_toArray, List.set_cons_zero, List.set_cons_succ]
        refine rg_load 13 rfl (by kernel_rfl) (by kernel_rfl) (by kernel_rfl) (g9) 0 (adv true (norm true a)) (fun _ _ _ h => h) (by rfl) 24 (.tmp 9) rfl rfl hS (fun w2 h2 => (AdBox.later H4.out.1 h2 (Nat.le_refl _)).range) Try.underlying24 rfl (ad_size true H4.out.1.2) ?_
        simp only [Act.put, List.setIfInBounds_toArray, List.set_cons_zero, List.set_cons_succ]
        refine rg_load 14 rfl (by kernel_rfl) (by kernel_rfl) (by kernel_rfl) (g10) 0 (adv true (norm true b)) (fun _ _ _ h => h) (by rfl) 24 (.tmp 10) rfl rfl hS (fun w2 h2 => (AdBox.later H4.out.2.1 h2 (Nat.le_refl _)).range) Try.underlying24 rfl (ad_size true H4.out.2.1.2) ?_
        simp only [Act.put, List.setIfInBounds_toArray, List.set_cons_zero, List.set_cons_succ]
        refine rg_take 15 (v := ?rv26) rfl (by kernel_rfl) (by kernel_rfl) (by kernel_rfl) (fun _ _ _ h => h) (by rfl) hS (fun w2 hw2 => ?ry26) ?rr26
        case ry26 => ((try dsimp only at hw2); go_simp <;> with_reducible rfl)
        simp only [Act.put, List.setIfInBounds_toArray, List.set_cons_zero, List.set_cons_succ]
        refine rg_take 17 (v := ?rv27) rfl (by kernel_rfl) (by kernel_rfl) (by kernel_rfl) (fun _ _ _ h => h) (by rfl) hS (fun w2 hw2 => ?ry27) ?rr27
        case ry27 => ((try dsimp only at hw2); go_simp <;> with_reducible rfl)
        simp only [Act.put, List.setIfInBounds_toArray, List.set_cons_zero, List.set_cons_succ]
        refine rg_take 18 (v := ?rv28) rfl (by kernel_rfl) (by kernel_rfl) (by kernel_rfl) (fun _ _ _ h => h) (by rfl) hS (fun w2 hw2 => ?ry28) ?rr28
        case ry28 => ((try dsimp only at hw2); go_simp <;> with_reducible rfl)
        simp only [Act.put, List.setIfInBounds_toArray, List.set_cons_zero, List.set_cons_succ]
        refine rg_step 16 rfl (by kernel_rfl) (by rfl) (fun K hK => ?_)
        go_simp
        refine (over_any true true (norm true a) (norm true b) (norm_len true ha) (norm_len true hb) 17 (HB.out.later (H4.out.2.2.trans (hS.mono H4.out.2.2.size)) (Nat.le_refl _)) (by omega)).mono ?_
        rintro e y4 ⟨rfl, b4⟩
        rw [HR.out.1]
        have HX4 := Lib.hid (own_kept HX3.out b4)
        replace hS := hS.trans (b4.mono hS.size)
        clear b4
        refine hK.out _ _ hS ?_
        clear hK K
        try simp only [Act.put, List.setIfInBounds_toArray, List.set_cons_zero, List.set_cons_succ]
        refine rg_step 19 rfl (by kernel_rfl) (by rfl) (fun K hK => ?_)
        refine wp_append_bs (.tmp 73) (.tmp 74) 25 rfl w4.heap.size 5 info5 Try.underlying25 _ _ _ rfl HX4.out _ _ _ _ rfl (HB.out.later (H4.out.2.2.trans (hS.mono H4.out.2.2.size)) (Nat.le_refl _)) (by omega) hS.size ?_
        intro v5 y5 o5 g5 _ _
        replace hS := hS.grown g5 hS.size (fun q hq => (HX4.out.lt q hq).1)
        obtain ⟨AX, cx, rfl, BX⟩ := Bs.of_own o5
        have HBX := Lib.hid BX
        clear o5 g5 BX
        refine hK.out _ _ hS ?_
        clear hK K
        try simp only [Act.put, List.setIfInBounds_toArray, List.set_cons_zero, List.set_cons_succ]
        refine rg_step 20 rfl (by kernel_rfl) (by rfl) (fun K hK => ?_)
        go_simp
        refine (of_any HBX.out (by omega)).mono ?_
        rintro e y6 ⟨rfl, b6⟩
        rw [HR.out.2.2]
        replace hS := hS.trans (b6.mono hS.size)
        clear b6
        refine hK.out _ _ hS ?_
        clear hK K
        try simp only [Act.put, List.setIfInBounds_toArray, List.set_cons_zero, List.set_cons_succ]
        refine rg_take 21 (v := ?rv29) rfl (by kernel_rfl) (by kernel_rfl) (by kernel_rfl) (fun _ _ _ h => h) (by rfl) hS (fun w2 hw2 => ?ry29) ?rr29
        case ry29 => ((try dsimp only at hw2); go_simp <;> with_reducible rfl)
        simp only [Act.put, List.setIfInBounds_toArray, List.set_cons_zero, List.set_cons_succ]
        refine rg_take 22 (v := ?rv30) rfl (by kernel_rfl) (by kernel_rfl) (by kernel_rfl) (fun _ _ _ h => h) (by rfl) hS (fun w2 hw2 => ?ry30) ?rr30
        case ry30 => ((try dsimp only at hw2); go_simp <;> with_reducible rfl)
        simp only [Act.put, List.setIfInBounds_toArray, List.set_cons_zero, List.set_cons_succ]
        refine rg_take 23 (v := ?rv31) rfl (by kernel_rfl) (by kernel_rfl) (by kernel_rfl) (fun _ _ _ h => h) (by rfl) hS (fun w2 hw2 => ?ry31) ?rr31
        case ry31 => ((try dsimp only at hw2); go_simp <;> with_reducible rfl)
        simp only [Act.put, List.setIfInBounds_toArray, List.set_cons_zero, List.set_cons_succ]
        refine rg_done (by kernel_rfl) ?_
        have H9 := Lib.hid (H4.out.2.2.trans (hS.mono H4.out.2.2.size))
        clear hS
        go_wp2_with fail
        go_ret
        exact ⟨rfl, H9.out⟩
end Go.Proofs.Ythkhbjjiffpkoaa
