/-
  stockadelaw04.AddrNets answers true, whatever is handed in. Conditions: what the program's text has laid (Env).
-/
import Derived.Test.YtjegeiaabkheiaaGreatDoorPlayNet
import Derived.Test.YtjegeiaabkheiaaGreatDoorAwake04
namespace Go.Proofs.YtjegeiaabkheiaaGreatDoor
open Go.RowKit
set_option maxRecDepth 100000

theorem PxBox.clr {w : World} {g : Nat} {v6 : Bool} {X : List UInt8} {m j b : Nat} {N : Int} {x : UInt8} (h : PxBox w g v6 (clrv X m j) N) (hb16 : b < 16) (hx : (clrv X m j)[b]? = some x) (hb8 : j / 8 = b) (hmj : m ≤ j) (q : Nat) (hq : j % 8 = q) (c : Int) (hc : c = ((2 ^ (7 - q) : Nat) : Int)) :
    PxBox (w.setCell ⟨g, 1 + b, none⟩ (.int .u8 (bits .andNot .u8 (x.toNat : Int) c))) g v6 (clrv X m (j + 1)) N := by
  rw [andnot_u8 x q (by omega) c hc, ← clr_byte hx hb8 hq hmj]
  refine ⟨?_, by rw [List.length_set]; exact h.2⟩
  rw [setCell_eq_setRow w g (1 + b) _ _ _ _ h.1]
  have hs : (pxv v6 (clrv X m j) N).setIfInBounds (1 + b) (.int .u8 ((x &&& ~~~ (UInt8.ofNat (2 ^ (7 - q)))).toNat : Int)) = pxv v6 ((clrv X m j).set b (x &&& ~~~ (UInt8.ofNat (2 ^ (7 - q))))) N := by
    simp only [pxv, bv, Nat.add_comm 1 b, List.setIfInBounds_toArray, List.set_cons_succ, List.map_set]
    rw [List.set_append_left _ _ (by rw [List.length_map, h.2]; exact hb16)]
  rw [hs]
  exact setRow_heap w g _ _ _ _ h.1
theorem PxBox.there {w : World} {g : Nat} {v6 : Bool} {bs : List UInt8} {n : Int} (h : PxBox w g v6 bs n) (i : Nat) (hi : i < 16) : ∃ x : UInt8, bs[i]? = some x ∧ w.cell? ⟨g, 1 + i, none⟩ = some (.int .u8 x.toNat) := by
  have hl := h.2
  refine ⟨bs[i]'(by omega), List.getElem?_eq_getElem (by omega), ?_⟩
  have hg : (bv bs).toArray.toList[i]? = some (.int .u8 (bs[i]'(by omega)).toNat) := by
    show (bv bs)[i]? = _
    unfold bv
    rw [List.getElem?_map, List.getElem?_eq_getElem (by omega)]
    rfl
  exact h.range1 i _ hg
theorem PxBox.frozen {w : World} {g : Nat} {v6 : Bool} {bs : List UInt8} {n : Int} (h : PxBox w g v6 bs n) (i : Nat) : w.frozen? ⟨g, i, none⟩ = false := by simp [World.frozen?, h.1]

theorem right_first (v6 : Bool) (bs : List UInt8) {n : Nat} (hn : n ≤ wid v6) : rightv v6 (firstv bs n) = true := by
  unfold rightv
  rw [first_fix hn, beq_self_eq_true]
theorem rightnet_first (v6 : Bool) (bs : List UInt8) {n : Nat} (hn : n ≤ wid v6) : rightnetv v6 (firstv bs n) n = true := by
  unfold rightnetv
  rw [right_first v6 bs hn, Int.toNat_natCast, first_fix (Nat.le_refl _), beq_self_eq_true, decide_eq_true (by omega), decide_eq_true (by omega)]
  rfl
theorem in_first (v6 : Bool) (bs : List UInt8) {n m : Nat} (hnm : n ≤ m) (hm : m ≤ wid v6) : inv v6 (firstv bs m) v6 (firstv bs n) n = true := by
  unfold inv
  rw [right_first v6 bs hm, rightnet_first v6 bs (Nat.le_trans hnm hm), Int.toNat_natCast, first_cut hnm, beq_self_eq_true, beq_self_eq_true]
  rfl
theorem in_wider (v6 : Bool) {xs bs : List UInt8} {n m : Nat} (hnm : n ≤ m) (hm : m ≤ wid v6) (h : inv v6 xs v6 (firstv bs m) m = true) : inv v6 xs v6 (firstv bs n) n = true := by
  unfold inv at h ⊢
  simp only [Bool.and_eq_true] at h
  obtain ⟨⟨⟨h1, h2⟩, h3⟩, h4⟩ := h
  rw [Int.toNat_natCast] at h4 ⊢
  have h5 : firstv xs n = firstv bs n := by
    rw [← first_cut (bs := xs) hnm, eq_of_beq h4, first_cut hnm]
  rw [h1, rightnet_first v6 bs (Nat.le_trans hnm hm), beq_self_eq_true, h5, beq_self_eq_true]
  rfl
theorem in_other (v6 : Bool) (xs bs : List UInt8) (n : Int) : inv (!v6) xs v6 bs n = false := by
  unfold inv
  rw [show ((!v6) == v6) = false by cases v6 <;> rfl, Bool.and_false, Bool.false_and]

set_option maxHeartbeats 16000000 in
theorem addrNets {av pv : Bool} {xs ps : List UInt8} (ha : xs.length = 16) (hp : ps.length = 16) (n wider : Int) {w : World} (hE : Env w) : Calls Tryz.prog 5 #[.agg (adv av xs), .agg (pxv pv ps n), .int .i64 wider] w fun e w' => e = .returned (.bool true) ∧ Below w.heap.size w w' := by
  have HE := Lib.hid hE
  have A1 := Lib.hid ((AdBox.new w av ha).later ((Below.refl _ _).alloc (Nat.le_refl _) (.cells (pxv pv ps n) 26)) (Nat.le_refl _))
  have P1 := PxBox.new (w.alloc (.cells (adv av xs) 24)) pv n hp
  rw [World.size_alloc] at P1
  have P1 := Lib.hid P1
  have B1 := Lib.hid (((Below.refl w.heap.size w).alloc (Nat.le_refl _) (.cells (adv av xs) 24)).alloc (by simp) (.cells (pxv pv ps n) 26))
  clear hE
  go_enter Tryz.func5, Tryz.ntmps5
  go_wp2_with (refine wpList_load_px rfl (.tmp 4) rfl rfl P1.out ?_)
  generalize hW : (w.alloc (.cells (adv av xs) 24)).alloc (.cells (pxv pv ps n) 26) = W0 at A1 P1 B1 ⊢
  clear hW
  refine (play_net pv ps hp n _).mono ?_
  rintro e w1 ⟨m, hm, rfl, b1⟩
  have hfm : (firstv ps m).length = 16 := by rw [firstv_len, hp]
  have H1 := Lib.hid (And.intro (A1.out.later b1 (Nat.le_refl _)) (And.intro (P1.out.later b1 (Nat.le_refl _)) (B1.out.trans (b1.mono B1.out.size))))
  clear b1
  go_wp2_with (first
    | (refine wpList_store_px rfl (.tmp 4) (.tmp 11) rfl pv (firstv ps m) m rfl rfl hfm H1.out.2.1 ?_; intro w2 a2 o2 z2 b2; have H2 := Lib.hid (And.intro (H1.out.1.same (o2 _ (Nat.ne_of_lt (Nat.lt_succ_self _)))) (And.intro a2 (b2 w.heap.size w (Nat.le_succ _) H1.out.2.2))); have c2 := H2.out.2.1.v6_cell; clear a2 o2 z2 b2)
    | (refine wpList_load_ad rfl (.tmp 3) rfl rfl H2.out.1 ?_))
  refine (play_addr av pv xs ha _).mono ?_
  rw [norm_first pv ha]
  rintro e w3 ⟨rfl, b3⟩
  have hwl := wid_le pv
  have hfa : (firstv xs (wid pv)).length = 16 := by rw [firstv_len, ha]
  have H3 := Lib.hid (And.intro (H2.out.1.later b3 (Nat.le_refl _)) (And.intro (H2.out.2.1.later b3 (Nat.le_refl _)) (H2.out.2.2.trans (b3.mono H2.out.2.2.size))))
  obtain ⟨q1, q2⟩ := num_mod4 wider ((m : Int) + 1) (by omega) (by omega)
  have hsz := adv_size pv hfm
  have hsz2 := pxv_size pv 0 hfm
  have hfo := fold_px pv hfm
  have hse := set_px pv hfm 0 (wrap64 ((IntKind.u64.wrap wider).tmod ((m : Int) + 1)))
  clear b3 c2
  go_wp2_with (first
    | (refine wpList_store_ad rfl (.tmp 3) (.tmp 16) rfl pv (firstv xs (wid pv)) rfl rfl hfa H3.out.1 ?_; intro w4 a4 o4 z4 b4; have H4 := Lib.hid (And.intro a4 (And.intro (H3.out.2.1.same (o4 _ (Nat.ne_of_gt (Nat.lt_succ_self _)))) (b4 w.heap.size w (Nat.le_refl _) H3.out.2.2))); have c4 := H4.out.2.1.bits_cell; clear a4 o4 z4 b4)
    | (refine wpList_load_row_w rfl 24 (.tmp 25) rfl (w.heap.size + 1) 0 rfl (adv pv (firstv ps m)) _ H4.out.2.1.range0 Tryz.underlying24 rfl (ad_size pv hfm) ?_)
    | (refine wpList_alloc_px rfl rfl ?_; intro w5 a5 b5 z5; have H5 := Lib.hid (And.intro (H4.out.1.later b5 (Nat.le_refl _)) (And.intro (H4.out.2.1.later b5 (Nat.le_refl _)) (And.intro a5 (And.intro (H4.out.2.2.trans (b5.mono H4.out.2.2.size)) (And.intro H4.out.1.lt H4.out.2.1.lt))))); clear a5 b5 z5)
    | (refine wpList_store_px rfl (.tmp 8) (.tmp 28) rfl pv (firstv ps m) (wrap64 ((IntKind.u64.wrap wider).tmod ((m : Int) + 1))) rfl rfl hfm H5.out.2.2.1 ?_; intro w6 a6 o6 z6 b6; have H6 := Lib.hid (And.intro (H5.out.1.same (o6 _ (Nat.ne_of_lt H5.out.2.2.2.2.1))) (And.intro (H5.out.2.1.same (o6 _ (Nat.ne_of_lt H5.out.2.2.2.2.2))) (And.intro a6 (And.intro (b6 w.heap.size w H4.out.2.2.size H5.out.2.2.2.1) H5.out.2.2.2.2)))); clear a6 o6 z6 b6))
  generalize wrap64 ((IntKind.u64.wrap wider).tmod ((m : Int) + 1)) = y at q1 q2 H6 ⊢
  obtain ⟨k, rfl⟩ := Int.eq_ofNat_of_zero_le q1
  have hk : k ≤ m := by omega
  clear q1 q2 hsz hsz2 hfo hse c4
  obtain ⟨W, hW⟩ : ∃ W, wid pv = W := ⟨_, rfl⟩
  obtain ⟨X, hX⟩ : ∃ X, firstv ps m = X := ⟨_, rfl⟩
  have hWm : m ≤ W := by omega
  have hfix : firstv X W = X := by rw [← hX, first_fix hWm]
  have hres : firstv X k = firstv ps k := by rw [← hX, first_cut hk]
  rw [hX] at H6 hfm ⊢
  have HX := Lib.hid (And.intro hfix (And.intro hres (And.intro hW hX)))
  have hg1 : w.heap.size ≠ w4.heap.size := by have := H6.out.2.2.2.2.1; omega
  have hg2 : w.heap.size + 1 ≠ w4.heap.size := by have := H6.out.2.2.2.2.2; omega
  have hg3 : w.heap.size ≤ w4.heap.size := H4.out.2.2.size
  have hW128 : W ≤ 128 := by omega
  clear hfix hres hX hW
  go_wp2_with fail
  go_loopw [9] (fun i wr => ∃ j : Nat, k ≤ j ∧ j ≤ W ∧ i = .int .i64 j ∧ AdBox wr w.heap.size pv (firstv xs (wid pv)) ∧ PxBox wr (w.heap.size + 1) pv X m ∧ PxBox wr w4.heap.size pv (clrv X k j) k ∧ Below w.heap.size w wr) (fun i _ => W - (intOf i).toNat)
  case atStart => exact ⟨k, Nat.le_refl _, by omega, rfl, H6.out.1, H6.out.2.1, by rw [clrv_start]; exact H6.out.2.2.1, H6.out.2.2.2.1⟩
  case round =>
    obtain ⟨j, hkj, hjW, rfl, hba, hbp, hbv, hb⟩ := hrel
    have hcl : (clrv X k j).length = 16 := by rw [clrv_len, hfm]
    have hsz := fun w => size_any pv X hfm w
    rw [HX.out.2.2.1] at hsz
    have HJ := Lib.hid (And.intro hba (And.intro hbp (And.intro hbv (And.intro hb hsz))))
    clear hba hbp hbv hb hsz
    by_cases hlt : j < W
    · have hlt' : (j : Int) < (W : Int) := by omega
      obtain ⟨b, hb8⟩ : ∃ b, j / 8 = b := ⟨_, rfl⟩
      have hb16 : b < 16 := by omega
      have i1 : (j : Int) / 8 = (b : Int) := by omega
      go_wp2_with (refine wpList_load_row_w rfl 24 (.tmp 31) rfl (w.heap.size + 1) 0 rfl (adv pv X) _ HJ.out.2.1.range0 Tryz.underlying24 rfl (ad_size pv hfm) ?_)
      refine (HJ.out.2.2.2.2 _).mono ?_
      rintro e w7 ⟨rfl, b7⟩
      have H7 := Lib.hid (And.intro (HJ.out.1.later b7 (Nat.le_refl _)) (And.intro (HJ.out.2.1.later b7 (Nat.le_refl _)) (And.intro (HJ.out.2.2.1.later b7 (Nat.le_refl _)) (HJ.out.2.2.2.1.trans (b7.mono HJ.out.2.2.2.1.size)))))
      clear b7
      obtain ⟨x, hx, hc⟩ := H7.out.2.2.1.there b hb16
      have hf := H7.out.2.2.1.frozen (1 + b)
      rcases (show j % 8 = 0 ∨ j % 8 = 1 ∨ j % 8 = 2 ∨ j % 8 = 3 ∨ j % 8 = 4 ∨ j % 8 = 5 ∨ j % 8 = 6 ∨ j % 8 = 7 by omega) with hq | hq | hq | hq | hq | hq | hq | hq
      · have i2 : (j : Int) % 8 = 0 := by omega
        have H8 := Lib.hid (And.intro (H7.out.1.far (p := ⟨w4.heap.size, 1 + b, none⟩) hg1 (.int .u8 (bits .andNot .u8 (x.toNat : Int) 128))) (And.intro (H7.out.2.1.far (p := ⟨w4.heap.size, 1 + b, none⟩) hg2 (.int .u8 (bits .andNot .u8 (x.toNat : Int) 128))) (And.intro (H7.out.2.2.1.clr hb16 hx hb8 hkj 0 hq 128 rfl) (H7.out.2.2.2.setCell (p := ⟨w4.heap.size, 1 + b, none⟩) hg3 (.int .u8 (bits .andNot .u8 (x.toNat : Int) 128))))))
        go_wp2_with fail
        go_roundw
        case rel => exact ⟨j + 1, by omega, by omega, by go_num, H8.out.1, H8.out.2.1, H8.out.2.2.1, H8.out.2.2.2⟩
        case measure => simp [intOf]; omega
      · have i2 : (j : Int) % 8 = 1 := by omega
        have H8 := Lib.hid (And.intro (H7.out.1.far (p := ⟨w4.heap.size, 1 + b, none⟩) hg1 (.int .u8 (bits .andNot .u8 (x.toNat : Int) 64))) (And.intro (H7.out.2.1.far (p := ⟨w4.heap.size, 1 + b, none⟩) hg2 (.int .u8 (bits .andNot .u8 (x.toNat : Int) 64))) (And.intro (H7.out.2.2.1.clr hb16 hx hb8 hkj 1 hq 64 rfl) (H7.out.2.2.2.setCell (p := ⟨w4.heap.size, 1 + b, none⟩) hg3 (.int .u8 (bits .andNot .u8 (x.toNat : Int) 64))))))
        go_wp2_with fail
        go_roundw
        case rel => exact ⟨j + 1, by omega, by omega, by go_num, H8.out.1, H8.out.2.1, H8.out.2.2.1, H8.out.2.2.2⟩
        case measure => simp [intOf]; omega
      · have i2 : (j : Int) % 8 = 2 := by omega
        have H8 := Lib.hid (And.intro (H7.out.1.far (p := ⟨w4.heap.size, 1 + b, none⟩) hg1 (.int .u8 (bits .andNot .u8 (x.toNat : Int) 32))) (And.intro (H7.out.2.1.far (p := ⟨w4.heap.size, 1 + b, none⟩) hg2 (.int .u8 (bits .andNot .u8 (x.toNat : Int) 32))) (And.intro (H7.out.2.2.1.clr hb16 hx hb8 hkj 2 hq 32 rfl) (H7.out.2.2.2.setCell (p := ⟨w4.heap.size, 1 + b, none⟩) hg3 (.int .u8 (bits .andNot .u8 (x.toNat : Int) 32))))))
        go_wp2_with fail
        go_roundw
        case rel => exact ⟨j + 1, by omega, by omega, by go_num, H8.out.1, H8.out.2.1, H8.out.2.2.1, H8.out.2.2.2⟩
        case measure => simp [intOf]; omega
      · have i2 : (j : Int) % 8 = 3 := by omega
        have H8 := Lib.hid (And.intro (H7.out.1.far (p := ⟨w4.heap.size, 1 + b, none⟩) hg1 (.int .u8 (bits .andNot .u8 (x.toNat : Int) 16))) (And.intro (H7.out.2.1.far (p := ⟨w4.heap.size, 1 + b, none⟩) hg2 (.int .u8 (bits .andNot .u8 (x.toNat : Int) 16))) (And.intro (H7.out.2.2.1.clr hb16 hx hb8 hkj 3 hq 16 rfl) (H7.out.2.2.2.setCell (p := ⟨w4.heap.size, 1 + b, none⟩) hg3 (.int .u8 (bits .andNot .u8 (x.toNat : Int) 16))))))
        go_wp2_with fail
        go_roundw
        case rel => exact ⟨j + 1, by omega, by omega, by go_num, H8.out.1, H8.out.2.1, H8.out.2.2.1, H8.out.2.2.2⟩
        case measure => simp [intOf]; omega
      · have i2 : (j : Int) % 8 = 4 := by omega
        have H8 := Lib.hid (And.intro (H7.out.1.far (p := ⟨w4.heap.size, 1 + b, none⟩) hg1 (.int .u8 (bits .andNot .u8 (x.toNat : Int) 8))) (And.intro (H7.out.2.1.far (p := ⟨w4.heap.size, 1 + b, none⟩) hg2 (.int .u8 (bits .andNot .u8 (x.toNat : Int) 8))) (And.intro (H7.out.2.2.1.clr hb16 hx hb8 hkj 4 hq 8 rfl) (H7.out.2.2.2.setCell (p := ⟨w4.heap.size, 1 + b, none⟩) hg3 (.int .u8 (bits .andNot .u8 (x.toNat : Int) 8))))))
        go_wp2_with fail
        go_roundw
        case rel => exact ⟨j + 1, by omega, by omega, by go_num, H8.out.1, H8.out.2.1, H8.out.2.2.1, H8.out.2.2.2⟩
        case measure => simp [intOf]; omega
      · have i2 : (j : Int) % 8 = 5 := by omega
        have H8 := Lib.hid (And.intro (H7.out.1.far (p := ⟨w4.heap.size, 1 + b, none⟩) hg1 (.int .u8 (bits .andNot .u8 (x.toNat : Int) 4))) (And.intro (H7.out.2.1.far (p := ⟨w4.heap.size, 1 + b, none⟩) hg2 (.int .u8 (bits .andNot .u8 (x.toNat : Int) 4))) (And.intro (H7.out.2.2.1.clr hb16 hx hb8 hkj 5 hq 4 rfl) (H7.out.2.2.2.setCell (p := ⟨w4.heap.size, 1 + b, none⟩) hg3 (.int .u8 (bits .andNot .u8 (x.toNat : Int) 4))))))
        go_wp2_with fail
        go_roundw
        case rel => exact ⟨j + 1, by omega, by omega, by go_num, H8.out.1, H8.out.2.1, H8.out.2.2.1, H8.out.2.2.2⟩
        case measure => simp [intOf]; omega
      · have i2 : (j : Int) % 8 = 6 := by omega
        have H8 := Lib.hid (And.intro (H7.out.1.far (p := ⟨w4.heap.size, 1 + b, none⟩) hg1 (.int .u8 (bits .andNot .u8 (x.toNat : Int) 2))) (And.intro (H7.out.2.1.far (p := ⟨w4.heap.size, 1 + b, none⟩) hg2 (.int .u8 (bits .andNot .u8 (x.toNat : Int) 2))) (And.intro (H7.out.2.2.1.clr hb16 hx hb8 hkj 6 hq 2 rfl) (H7.out.2.2.2.setCell (p := ⟨w4.heap.size, 1 + b, none⟩) hg3 (.int .u8 (bits .andNot .u8 (x.toNat : Int) 2))))))
        go_wp2_with fail
        go_roundw
        case rel => exact ⟨j + 1, by omega, by omega, by go_num, H8.out.1, H8.out.2.1, H8.out.2.2.1, H8.out.2.2.2⟩
        case measure => simp [intOf]; omega
      · have i2 : (j : Int) % 8 = 7 := by omega
        have H8 := Lib.hid (And.intro (H7.out.1.far (p := ⟨w4.heap.size, 1 + b, none⟩) hg1 (.int .u8 (bits .andNot .u8 (x.toNat : Int) 1))) (And.intro (H7.out.2.1.far (p := ⟨w4.heap.size, 1 + b, none⟩) hg2 (.int .u8 (bits .andNot .u8 (x.toNat : Int) 1))) (And.intro (H7.out.2.2.1.clr hb16 hx hb8 hkj 7 hq 1 rfl) (H7.out.2.2.2.setCell (p := ⟨w4.heap.size, 1 + b, none⟩) hg3 (.int .u8 (bits .andNot .u8 (x.toNat : Int) 1))))))
        go_wp2_with fail
        go_roundw
        case rel => exact ⟨j + 1, by omega, by omega, by go_num, H8.out.1, H8.out.2.1, H8.out.2.2.1, H8.out.2.2.2⟩
        case measure => simp [intOf]; omega
    · obtain rfl : j = W := by omega
      go_wp2_with (refine wpList_load_row_w rfl 24 (.tmp 31) rfl (w.heap.size + 1) 0 rfl (adv pv X) _ HJ.out.2.1.range0 Tryz.underlying24 rfl (ad_size pv hfm) ?_)
      refine (HJ.out.2.2.2.2 _).mono ?_
      rintro e w7 ⟨rfl, b7⟩
      have hv7 := HJ.out.2.2.1.later b7 (Nat.le_refl _)
      rw [clrv_end HX.out.1 (show k ≤ j by omega), HX.out.2.1] at hv7
      have H7 := Lib.hid (And.intro (HJ.out.1.later b7 (Nat.le_refl _)) (And.intro (HJ.out.2.1.later b7 (Nat.le_refl _)) (And.intro hv7 (HJ.out.2.2.2.1.trans (b7.mono HJ.out.2.2.2.1.size)))))
      have hfv : (firstv ps k).length = 16 := by rw [firstv_len, hp]
      clear b7 hv7 hlt
      go_wp2_with fail
      have hXe := HX.out.2.2.2
      have HR := Lib.hid (And.intro (rightnet_first pv ps (show k ≤ wid pv by rw [HX.out.2.2.1]; omega)) (And.intro (show inv pv X pv X m = true by rw [← hXe]; exact in_first pv ps (Nat.le_refl _) hm) (And.intro (show inv pv X pv (firstv ps k) k = true by rw [← hXe]; exact in_first pv ps hk hm) (in_other pv (norm (!pv) (firstv xs (wid pv))) X m))))
      cases hin : inv pv (firstv xs (wid pv)) pv X m with
      | true =>
        have HI2 := Lib.hid (show inv pv (firstv xs (wid pv)) pv (firstv ps k) k = true from in_wider pv hk hm (by rw [hXe]; exact hin))
        have HI := Lib.hid hin
        clear hin hXe
        have hS : Below w7.heap.size w7 w7.drew := (Below.refl _ _).drew
        have hcA : ∀ w', Below w7.heap.size w7 w' → w'.cell? ⟨w.heap.size, 0, none⟩ = some (.bool pv) := fun w' h => (H7.out.1.later h (Nat.le_refl _)).v6_cell
        refine rg_begin (fun w' => Below w7.heap.size w7 w') 39 (by kernel_rfl) rfl ?_
        refine rg_step 0 rfl (by kernel_rfl) (by rfl) (fun K hK => ?_)
        go_simp
        refine (awake04 (HE.out.later (H7.out.2.2.2.trans (hS.mono H7.out.2.2.2.size)) (Nat.le_refl _))).mono ?_
        rintro e y1 ⟨rfl, b1⟩
        replace hS := hS.trans (b1.mono hS.size)
        clear b1
        refine hK.out _ _ hS ?_
        clear hK K
        try simp only [Act.put, List.setIfInBounds_toArray, List.set_cons_zero, List.set_cons_succ]
        refine rg_take 1 (v := ?rv1) rfl (by kernel_rfl) (by kernel_rfl) (by kernel_rfl) (fun _ _ _ h => h) (by rfl) hS (fun w2 hw2 => ?ry1) ?rr1
        case ry1 => ((try dsimp only at hw2); go_simp <;> with_reducible rfl)
        simp only [Act.put, List.setIfInBounds_toArray, List.set_cons_zero, List.set_cons_succ]
        refine rg_load 2 rfl (by kernel_rfl) (by kernel_rfl) (by kernel_rfl) (w4.heap.size) (0) ((pxv pv (firstv ps k) k)) (fun _ _ _ h => h) (by rfl) 26 (.tmp 8) rfl rfl hS (fun w2 h2 => (H7.out.2.2.1.later h2 (Nat.le_refl _)).range) Tryz.underlying26 rfl (px_size pv k hfv) ?_
        simp only [Act.put, List.setIfInBounds_toArray, List.set_cons_zero, List.set_cons_succ]
        refine rg_step 3 rfl (by kernel_rfl) (by rfl) (fun K hK => ?_)
        go_simp
        refine (RightNet_any pv (firstv ps k) hfv k _).mono ?_
        rw [HR.out.1]
        rintro e y2 ⟨rfl, b2⟩
        replace hS := hS.trans (b2.mono hS.size)
        clear b2
        refine hK.out _ _ hS ?_
        clear hK K
        try simp only [Act.put, List.setIfInBounds_toArray, List.set_cons_zero, List.set_cons_succ]
        refine rg_take 4 (v := ?rv2) rfl (by kernel_rfl) (by kernel_rfl) (by kernel_rfl) (fun _ _ _ h => h) (by rfl) hS (fun w2 hw2 => ?ry2) ?rr2
        case ry2 => ((try dsimp only at hw2); go_simp <;> with_reducible rfl)
        simp only [Act.put, List.setIfInBounds_toArray, List.set_cons_zero, List.set_cons_succ]
        refine rg_take 5 (v := ?rv3) rfl (by kernel_rfl) (by kernel_rfl) (by kernel_rfl) (fun _ _ _ h => h) (by rfl) hS (fun w2 hw2 => ?ry3) ?rr3
        case ry3 => ((try dsimp only at hw2); go_simp <;> with_reducible rfl)
        simp only [Act.put, List.setIfInBounds_toArray, List.set_cons_zero, List.set_cons_succ]
        refine rg_take 6 (v := ?rv4) rfl (by kernel_rfl) (by kernel_rfl) (by kernel_rfl) (fun _ _ _ h => h) (by rfl) hS (fun w2 hw2 => ?ry4) ?rr4
        case ry4 => ((try dsimp only at hw2); go_simp <;> with_reducible rfl)
        simp only [Act.put, List.setIfInBounds_toArray, List.set_cons_zero, List.set_cons_succ]
        refine rg_load 8 rfl (by kernel_rfl) (by kernel_rfl) (by kernel_rfl) (w.heap.size + 1) (0) ((pxv pv X m)) (fun _ _ _ h => h) (by rfl) 26 (.tmp 4) rfl rfl hS (fun w2 h2 => (H7.out.2.1.later h2 (Nat.le_refl _)).range) Tryz.underlying26 rfl (px_size pv m hfm) ?_
        simp only [Act.put, List.setIfInBounds_toArray, List.set_cons_zero, List.set_cons_succ]
        refine rg_load 7 rfl (by kernel_rfl) (by kernel_rfl) (by kernel_rfl) (w.heap.size + 1) (0) ((adv pv X)) (fun _ _ _ h => h) (by rfl) 24 (.tmp 58) rfl rfl hS (fun w2 h2 => (H7.out.2.1.later h2 (Nat.le_refl _)).range0) Tryz.underlying24 rfl (ad_size pv hfm) ?_
        simp only [Act.put, List.setIfInBounds_toArray, List.set_cons_zero, List.set_cons_succ]
        refine rg_step 9 rfl (by kernel_rfl) (by rfl) (fun K hK => ?_)
        go_simp
        refine (In_any pv X hfm pv X hfm m _).mono ?_
        rw [HR.out.2.1]
        rintro e y3 ⟨rfl, b3⟩
        replace hS := hS.trans (b3.mono hS.size)
        clear b3
        refine hK.out _ _ hS ?_
        clear hK K
        try simp only [Act.put, List.setIfInBounds_toArray, List.set_cons_zero, List.set_cons_succ]
        refine rg_take 10 (v := ?rv5) rfl (by kernel_rfl) (by kernel_rfl) (by kernel_rfl) (fun _ _ _ h => h) (by rfl) hS (fun w2 hw2 => ?ry5) ?rr5
        case ry5 => ((try dsimp only at hw2); go_simp <;> with_reducible rfl)
        simp only [Act.put, List.setIfInBounds_toArray, List.set_cons_zero, List.set_cons_succ]
        refine rg_take 11 (v := ?rv6) rfl (by kernel_rfl) (by kernel_rfl) (by kernel_rfl) (fun _ _ _ h => h) (by rfl) hS (fun w2 hw2 => ?ry6) ?rr6
        case ry6 => ((try dsimp only at hw2); go_simp <;> with_reducible rfl)
        simp only [Act.put, List.setIfInBounds_toArray, List.set_cons_zero, List.set_cons_succ]
        refine rg_take 12 (v := ?rv7) rfl (by kernel_rfl) (by kernel_rfl) (by kernel_rfl) (fun _ _ _ h => h) (by rfl) hS (fun w2 hw2 => ?ry7) ?rr7
        case ry7 => ((try dsimp only at hw2); go_simp <;> with_reducible rfl)
        simp only [Act.put, List.setIfInBounds_toArray, List.set_cons_zero, List.set_cons_succ]
        refine rg_load 14 rfl (by kernel_rfl) (by kernel_rfl) (by kernel_rfl) (w4.heap.size) (0) ((pxv pv (firstv ps k) k)) (fun _ _ _ h => h) (by rfl) 26 (.tmp 8) rfl rfl hS (fun w2 h2 => (H7.out.2.2.1.later h2 (Nat.le_refl _)).range) Tryz.underlying26 rfl (px_size pv k hfv) ?_
        simp only [Act.put, List.setIfInBounds_toArray, List.set_cons_zero, List.set_cons_succ]
        refine rg_load 13 rfl (by kernel_rfl) (by kernel_rfl) (by kernel_rfl) (w.heap.size + 1) (0) ((adv pv X)) (fun _ _ _ h => h) (by rfl) 24 (.tmp 64) rfl rfl hS (fun w2 h2 => (H7.out.2.1.later h2 (Nat.le_refl _)).range0) Tryz.underlying24 rfl (ad_size pv hfm) ?_
        simp only [Act.put, List.setIfInBounds_toArray, List.set_cons_zero, List.set_cons_succ]
        refine rg_step 15 rfl (by kernel_rfl) (by rfl) (fun K hK => ?_)
        go_simp
        refine (In_any pv X hfm pv (firstv ps k) hfv k _).mono ?_
        rw [HR.out.2.2.1]
        rintro e y4 ⟨rfl, b4⟩
        replace hS := hS.trans (b4.mono hS.size)
        clear b4
        refine hK.out _ _ hS ?_
        clear hK K
        try simp only [Act.put, List.setIfInBounds_toArray, List.set_cons_zero, List.set_cons_succ]
        refine rg_take 16 (v := ?rv8) rfl (by kernel_rfl) (by kernel_rfl) (by kernel_rfl) (fun _ _ _ h => h) (by rfl) hS (fun w2 hw2 => ?ry8) ?rr8
        case ry8 => ((try dsimp only at hw2); go_simp <;> with_reducible rfl)
        simp only [Act.put, List.setIfInBounds_toArray, List.set_cons_zero, List.set_cons_succ]
        refine rg_take 17 (v := ?rv9) rfl (by kernel_rfl) (by kernel_rfl) (by kernel_rfl) (fun _ _ _ h => h) (by rfl) hS (fun w2 hw2 => ?ry9) ?rr9
        case ry9 => ((try dsimp only at hw2); go_simp <;> with_reducible rfl)
        simp only [Act.put, List.setIfInBounds_toArray, List.set_cons_zero, List.set_cons_succ]
        refine rg_load 18 rfl (by kernel_rfl) (by kernel_rfl) (by kernel_rfl) (w.heap.size) 0 (adv pv (firstv xs (wid pv))) (fun _ _ _ h => h) (by rfl) 24 (.tmp 3) rfl rfl hS (fun w2 h2 => (AdBox.later H7.out.1 h2 (Nat.le_refl _)).range) Tryz.underlying24 rfl (ad_size pv H7.out.1.2) ?_
        simp only [Act.put, List.setIfInBounds_toArray, List.set_cons_zero, List.set_cons_succ]
        refine rg_load 19 rfl (by kernel_rfl) (by kernel_rfl) (by kernel_rfl) (w.heap.size + 1) (0) ((pxv pv X m)) (fun _ _ _ h => h) (by rfl) 26 (.tmp 4) rfl rfl hS (fun w2 h2 => (H7.out.2.1.later h2 (Nat.le_refl _)).range) Tryz.underlying26 rfl (px_size pv m hfm) ?_
        simp only [Act.put, List.setIfInBounds_toArray, List.set_cons_zero, List.set_cons_succ]
        refine rg_step 20 rfl (by kernel_rfl) (by rfl) (fun K hK => ?_)
        go_simp
        refine (In_any pv (firstv xs (wid pv)) hfa pv X hfm m _).mono ?_
        rw [HI.out]
        rintro e y5 ⟨rfl, b5⟩
        replace hS := hS.trans (b5.mono hS.size)
        clear b5
        refine hK.out _ _ hS ?_
        clear hK K
        try simp only [Act.put, List.setIfInBounds_toArray, List.set_cons_zero, List.set_cons_succ]
        refine rg_take 21 (v := ?rv10) rfl (by kernel_rfl) (by kernel_rfl) (by kernel_rfl) (fun _ _ _ h => h) (by rfl) hS (fun w2 hw2 => ?ry10) ?rr10
        case ry10 => ((try dsimp only at hw2); go_simp <;> with_reducible rfl)
        simp only [Act.put, List.setIfInBounds_toArray, List.set_cons_zero, List.set_cons_succ]
        refine rg_take 22 (v := ?rv11) rfl (by kernel_rfl) (by kernel_rfl) (by kernel_rfl) (fun _ _ _ h => h) (by rfl) hS (fun w2 hw2 => ?ry11) ?rr11
        case ry11 => ((try dsimp only at hw2); go_simp <;> with_reducible rfl)
        simp only [Act.put, List.setIfInBounds_toArray, List.set_cons_zero, List.set_cons_succ]
        refine rg_load 23 rfl (by kernel_rfl) (by kernel_rfl) (by kernel_rfl) (w.heap.size) 0 (adv pv (firstv xs (wid pv))) (fun _ _ _ h => h) (by rfl) 24 (.tmp 3) rfl rfl hS (fun w2 h2 => (AdBox.later H7.out.1 h2 (Nat.le_refl _)).range) Tryz.underlying24 rfl (ad_size pv H7.out.1.2) ?_
        simp only [Act.put, List.setIfInBounds_toArray, List.set_cons_zero, List.set_cons_succ]
        refine rg_load 24 rfl (by kernel_rfl) (by kernel_rfl) (by kernel_rfl) (w4.heap.size) (0) ((pxv pv (firstv ps k) k)) (fun _ _ _ h => h) (by rfl) 26 (.tmp 8) rfl rfl hS (fun w2 h2 => (H7.out.2.2.1.later h2 (Nat.le_refl _)).range) Tryz.underlying26 rfl (px_size pv k hfv) ?_
        simp only [Act.put, List.setIfInBounds_toArray, List.set_cons_zero, List.set_cons_succ]
        refine rg_step 25 rfl (by kernel_rfl) (by rfl) (fun K hK => ?_)
        go_simp
        refine (In_any pv (firstv xs (wid pv)) hfa pv (firstv ps k) hfv k _).mono ?_
        rw [HI2.out]
        rintro e y6 ⟨rfl, b6⟩
        replace hS := hS.trans (b6.mono hS.size)
        clear b6
        refine hK.out _ _ hS ?_
        clear hK K
        try simp only [Act.put, List.setIfInBounds_toArray, List.set_cons_zero, List.set_cons_succ]
        refine rg_take 26 (v := ?rv12) rfl (by kernel_rfl) (by kernel_rfl) (by kernel_rfl) (fun _ _ _ h => h) (by rfl) hS (fun w2 hw2 => ?ry12) ?rr12
        case ry12 => ((try dsimp only at hw2); go_simp <;> with_reducible rfl)
        simp only [Act.put, List.setIfInBounds_toArray, List.set_cons_zero, List.set_cons_succ]
        refine rg_take 27 (v := ?rv13) rfl (by kernel_rfl) (by kernel_rfl) (by kernel_rfl) (fun _ _ _ h => h) (by rfl) hS (fun w2 hw2 => ?ry13) ?rr13
        case ry13 => ((try dsimp only at hw2); go_simp <;> with_reducible rfl)
        simp only [Act.put, List.setIfInBounds_toArray, List.set_cons_zero, List.set_cons_succ]
        refine rg_take 28 (v := ?rv14) rfl (by kernel_rfl) (by kernel_rfl) (by kernel_rfl) (fun _ _ _ h => h) (by rfl) hS (fun w2 hw2 => ?ry14) ?rr14
        case ry14 => ((try dsimp only at hw2); go_simp <;> with_reducible rfl)
        simp only [Act.put, List.setIfInBounds_toArray, List.set_cons_zero, List.set_cons_succ]
        refine rg_load 29 rfl (by kernel_rfl) (by kernel_rfl) (by kernel_rfl) (w.heap.size) 0 (adv pv (firstv xs (wid pv))) (fun _ _ _ h => h) (by rfl) 24 (.tmp 3) rfl rfl hS (fun w2 h2 => (AdBox.later H7.out.1 h2 (Nat.le_refl _)).range) Tryz.underlying24 rfl (ad_size pv H7.out.1.2) ?_
        simp only [Act.put, List.setIfInBounds_toArray, List.set_cons_zero, List.set_cons_succ]
        refine rg_take 30 (v := ?rv15) rfl (by kernel_rfl) (by kernel_rfl) (by kernel_rfl) (fun _ _ _ h => h) (by rfl) hS (fun w2 hw2 => ?ry15) ?rr15
        case ry15 => ((try dsimp only at hw2); go_simp <;> with_reducible rfl)
        simp only [Act.put, List.setIfInBounds_toArray, List.set_cons_zero, List.set_cons_succ]
        refine rg_load 34 rfl (by kernel_rfl) (by kernel_rfl) (by kernel_rfl) (w.heap.size + 1) (0) ((pxv pv X m)) (fun _ _ _ h => h) (by rfl) 26 (.tmp 4) rfl rfl hS (fun w2 h2 => (H7.out.2.1.later h2 (Nat.le_refl _)).range) Tryz.underlying26 rfl (px_size pv m hfm) ?_
        simp only [Act.put, List.setIfInBounds_toArray, List.set_cons_zero, List.set_cons_succ]
        refine rg_take 31 (v := ?rv16) rfl (by kernel_rfl) (by kernel_rfl) (by kernel_rfl) (fun _ _ _ h => h) (by rfl) hS (fun w2 hw2 => ?ry16) ?rr16
        case ry16 => ((try dsimp only at hw2); go_simp <;> with_reducible rfl)
        simp only [Act.put, List.setIfInBounds_toArray, List.set_cons_zero, List.set_cons_succ]
        refine rg_take 32 (v := ?rv17) rfl (by kernel_rfl) (by kernel_rfl) (by kernel_rfl) (fun _ _ _ h => h) (by rfl) hS (fun w2 hw2 => ?ry17) ?rr17
        case ry17 => ((try dsimp only at hw2); go_simp <;> with_reducible rfl)
        simp only [Act.put, List.setIfInBounds_toArray, List.set_cons_zero, List.set_cons_succ]
        refine rg_step 33 rfl (by kernel_rfl) (by rfl) (fun K hK => ?_)
        go_simp
        refine (play_addr pv (!pv) (firstv xs (wid pv)) hfa _).mono ?_
        rintro e y7 ⟨rfl, b7⟩
        replace hS := hS.trans (b7.mono hS.size)
        clear b7
        refine hK.out _ _ hS ?_
        clear hK K
        try simp only [Act.put, List.setIfInBounds_toArray, List.set_cons_zero, List.set_cons_succ]
        refine rg_step 35 rfl (by kernel_rfl) (by rfl) (fun K hK => ?_)
        go_simp
        refine (In_any (!pv) (norm (!pv) (firstv xs (wid pv))) (norm_len (!pv) hfa) pv X hfm m _).mono ?_
        rw [HR.out.2.2.2]
        rintro e y8 ⟨rfl, b8⟩
        replace hS := hS.trans (b8.mono hS.size)
        clear b8
        refine hK.out _ _ hS ?_
        clear hK K
        try simp only [Act.put, List.setIfInBounds_toArray, List.set_cons_zero, List.set_cons_succ]
        refine rg_take 36 (v := ?rv18) rfl (by kernel_rfl) (by kernel_rfl) (by kernel_rfl) (fun _ _ _ h => h) (by rfl) hS (fun w2 hw2 => ?ry18) ?rr18
        case ry18 => ((try dsimp only at hw2); go_simp <;> with_reducible rfl)
        simp only [Act.put, List.setIfInBounds_toArray, List.set_cons_zero, List.set_cons_succ]
        refine rg_take 37 (v := ?rv19) rfl (by kernel_rfl) (by kernel_rfl) (by kernel_rfl) (fun _ _ _ h => h) (by rfl) hS (fun w2 hw2 => ?ry19) ?rr19
        case ry19 => ((try dsimp only at hw2); go_simp <;> with_reducible rfl)
        simp only [Act.put, List.setIfInBounds_toArray, List.set_cons_zero, List.set_cons_succ]
        refine rg_take 38 (v := ?rv20) rfl (by kernel_rfl) (by kernel_rfl) (by kernel_rfl) (fun _ _ _ h => h) (by rfl) hS (fun w2 hw2 => ?ry20) ?rr20
        case ry20 => ((try dsimp only at hw2); go_simp <;> with_reducible rfl)
        simp only [Act.put, List.setIfInBounds_toArray, List.set_cons_zero, List.set_cons_succ]
        refine rg_done (by kernel_rfl) ?_
        have H9 := Lib.hid (H7.out.2.2.2.trans (hS.mono H7.out.2.2.2.size))
        clear hS hcA
        go_wp2_with fail
        go_ret
        exact ⟨rfl, H9.out⟩
      | false =>
        have HI := Lib.hid hin
        clear hin hXe
        have hS : Below w7.heap.size w7 w7.drew := (Below.refl _ _).drew
        have hcA : ∀ w', Below w7.heap.size w7 w' → w'.cell? ⟨w.heap.size, 0, none⟩ = some (.bool pv) := fun w' h => (H7.out.1.later h (Nat.le_refl _)).v6_cell
        refine rg_begin (fun w' => Below w7.heap.size w7 w') 39 (by kernel_rfl) rfl ?_
        refine rg_step 0 rfl (by kernel_rfl) (by rfl) (fun K hK => ?_)
        go_simp
        refine (awake04 (HE.out.later (H7.out.2.2.2.trans (hS.mono H7.out.2.2.2.size)) (Nat.le_refl _))).mono ?_
        rintro e y1 ⟨rfl, b1⟩
        replace hS := hS.trans (b1.mono hS.size)
        clear b1
        refine hK.out _ _ hS ?_
        clear hK K
        try simp only [Act.put, List.setIfInBounds_toArray, List.set_cons_zero, List.set_cons_succ]
        refine rg_take 1 (v := ?rv21) rfl (by kernel_rfl) (by kernel_rfl) (by kernel_rfl) (fun _ _ _ h => h) (by rfl) hS (fun w2 hw2 => ?ry21) ?rr21
        case ry21 => ((try dsimp only at hw2); go_simp <;> with_reducible rfl)
        simp only [Act.put, List.setIfInBounds_toArray, List.set_cons_zero, List.set_cons_succ]
        refine rg_load 2 rfl (by kernel_rfl) (by kernel_rfl) (by kernel_rfl) (w4.heap.size) (0) ((pxv pv (firstv ps k) k)) (fun _ _ _ h => h) (by rfl) 26 (.tmp 8) rfl rfl hS (fun w2 h2 => (H7.out.2.2.1.later h2 (Nat.le_refl _)).range) Tryz.underlying26 rfl (px_size pv k hfv) ?_
        simp only [Act.put, List.setIfInBounds_toArray, List.set_cons_zero, List.set_cons_succ]
        refine rg_step 3 rfl (by kernel_rfl) (by rfl) (fun K hK => ?_)
        go_simp
        refine (RightNet_any pv (firstv ps k) hfv k _).mono ?_
        rw [HR.out.1]
        rintro e y2 ⟨rfl, b2⟩
        replace hS := hS.trans (b2.mono hS.size)
        clear b2
        refine hK.out _ _ hS ?_
        clear hK K
        try simp only [Act.put, List.setIfInBounds_toArray, List.set_cons_zero, List.set_cons_succ]
        refine rg_take 4 (v := ?rv22) rfl (by kernel_rfl) (by kernel_rfl) (by kernel_rfl) (fun _ _ _ h => h) (by rfl) hS (fun w2 hw2 => ?ry22) ?rr22
        case ry22 => ((try dsimp only at hw2); go_simp <;> with_reducible rfl)
        simp only [Act.put, List.setIfInBounds_toArray, List.set_cons_zero, List.set_cons_succ]
        refine rg_take 5 (v := ?rv23) rfl (by kernel_rfl) (by kernel_rfl) (by kernel_rfl) (fun _ _ _ h => h) (by rfl) hS (fun w2 hw2 => ?ry23) ?rr23
        case ry23 => ((try dsimp only at hw2); go_simp <;> with_reducible rfl)
        simp only [Act.put, List.setIfInBounds_toArray, List.set_cons_zero, List.set_cons_succ]
        refine rg_take 6 (v := ?rv24) rfl (by kernel_rfl) (by kernel_rfl) (by kernel_rfl) (fun _ _ _ h => h) (by rfl) hS (fun w2 hw2 => ?ry24) ?rr24
        case ry24 => ((try dsimp only at hw2); go_simp <;> with_reducible rfl)
        simp only [Act.put, List.setIfInBounds_toArray, List.set_cons_zero, List.set_cons_succ]
        refine rg_load 8 rfl (by kernel_rfl) (by kernel_rfl) (by kernel_rfl) (w.heap.size + 1) (0) ((pxv pv X m)) (fun _ _ _ h => h) (by rfl) 26 (.tmp 4) rfl rfl hS (fun w2 h2 => (H7.out.2.1.later h2 (Nat.le_refl _)).range) Tryz.underlying26 rfl (px_size pv m hfm) ?_
        simp only [Act.put, List.setIfInBounds_toArray, List.set_cons_zero, List.set_cons_succ]
        refine rg_load 7 rfl (by kernel_rfl) (by kernel_rfl) (by kernel_rfl) (w.heap.size + 1) (0) ((adv pv X)) (fun _ _ _ h => h) (by rfl) 24 (.tmp 58) rfl rfl hS (fun w2 h2 => (H7.out.2.1.later h2 (Nat.le_refl _)).range0) Tryz.underlying24 rfl (ad_size pv hfm) ?_
        simp only [Act.put, List.setIfInBounds_toArray, List.set_cons_zero, List.set_cons_succ]
        refine rg_step 9 rfl (by kernel_rfl) (by rfl) (fun K hK => ?_)
        go_simp
        refine (In_any pv X hfm pv X hfm m _).mono ?_
        rw [HR.out.2.1]
        rintro e y3 ⟨rfl, b3⟩
        replace hS := hS.trans (b3.mono hS.size)
        clear b3
        refine hK.out _ _ hS ?_
        clear hK K
        try simp only [Act.put, List.setIfInBounds_toArray, List.set_cons_zero, List.set_cons_succ]
        refine rg_take 10 (v := ?rv25) rfl (by kernel_rfl) (by kernel_rfl) (by kernel_rfl) (fun _ _ _ h => h) (by rfl) hS (fun w2 hw2 => ?ry25) ?rr25
        case ry25 => ((try dsimp only at hw2); go_simp <;> with_reducible rfl)
        simp only [Act.put, List.setIfInBounds_toArray, List.set_cons_zero, List.set_cons_succ]
        refine rg_take 11 (v := ?rv26) rfl (by kernel_rfl) (by kernel_rfl) (by kernel_rfl) (fun _ _ _ h => h) (by rfl) hS (fun w2 hw2 => ?ry26) ?rr26
        case ry26 => ((try dsimp only at hw2); go_simp <;> with_reducible rfl)
        simp only [Act.put, List.setIfInBounds_toArray, List.set_cons_zero, List.set_cons_succ]
        refine rg_take 12 (v := ?rv27) rfl (by kernel_rfl) (by kernel_rfl) (by kernel_rfl) (fun _ _ _ h => h) (by rfl) hS (fun w2 hw2 => ?ry27) ?rr27
        case ry27 => ((try dsimp only at hw2); go_simp <;> with_reducible rfl)
        simp only [Act.put, List.setIfInBounds_toArray, List.set_cons_zero, List.set_cons_succ]
        refine rg_load 14 rfl (by kernel_rfl) (by kernel_rfl) (by kernel_rfl) (w4.heap.size) (0) ((pxv pv (firstv ps k) k)) (fun _ _ _ h => h) (by rfl) 26 (.tmp 8) rfl rfl hS (fun w2 h2 => (H7.out.2.2.1.later h2 (Nat.le_refl _)).range) Tryz.underlying26 rfl (px_size pv k hfv) ?_
        simp only [Act.put, List.setIfInBounds_toArray, List.set_cons_zero, List.set_cons_succ]
        refine rg_load 13 rfl (by kernel_rfl) (by kernel_rfl) (by kernel_rfl) (w.heap.size + 1) (0) ((adv pv X)) (fun _ _ _ h => h) (by rfl) 24 (.tmp 64) rfl rfl hS (fun w2 h2 => (H7.out.2.1.later h2 (Nat.le_refl _)).range0) Tryz.underlying24 rfl (ad_size pv hfm) ?_
        simp only [Act.put, List.setIfInBounds_toArray, List.set_cons_zero, List.set_cons_succ]
        refine rg_step 15 rfl (by kernel_rfl) (by rfl) (fun K hK => ?_)
        go_simp
        refine (In_any pv X hfm pv (firstv ps k) hfv k _).mono ?_
        rw [HR.out.2.2.1]
        rintro e y4 ⟨rfl, b4⟩
        replace hS := hS.trans (b4.mono hS.size)
        clear b4
        refine hK.out _ _ hS ?_
        clear hK K
        try simp only [Act.put, List.setIfInBounds_toArray, List.set_cons_zero, List.set_cons_succ]
        refine rg_take 16 (v := ?rv28) rfl (by kernel_rfl) (by kernel_rfl) (by kernel_rfl) (fun _ _ _ h => h) (by rfl) hS (fun w2 hw2 => ?ry28) ?rr28
        case ry28 => ((try dsimp only at hw2); go_simp <;> with_reducible rfl)
        simp only [Act.put, List.setIfInBounds_toArray, List.set_cons_zero, List.set_cons_succ]
        refine rg_take 17 (v := ?rv29) rfl (by kernel_rfl) (by kernel_rfl) (by kernel_rfl) (fun _ _ _ h => h) (by rfl) hS (fun w2 hw2 => ?ry29) ?rr29
        case ry29 => ((try dsimp only at hw2); go_simp <;> with_reducible rfl)
        simp only [Act.put, List.setIfInBounds_toArray, List.set_cons_zero, List.set_cons_succ]
        refine rg_load 18 rfl (by kernel_rfl) (by kernel_rfl) (by kernel_rfl) (w.heap.size) 0 (adv pv (firstv xs (wid pv))) (fun _ _ _ h => h) (by rfl) 24 (.tmp 3) rfl rfl hS (fun w2 h2 => (AdBox.later H7.out.1 h2 (Nat.le_refl _)).range) Tryz.underlying24 rfl (ad_size pv H7.out.1.2) ?_
        simp only [Act.put, List.setIfInBounds_toArray, List.set_cons_zero, List.set_cons_succ]
        refine rg_load 19 rfl (by kernel_rfl) (by kernel_rfl) (by kernel_rfl) (w.heap.size + 1) (0) ((pxv pv X m)) (fun _ _ _ h => h) (by rfl) 26 (.tmp 4) rfl rfl hS (fun w2 h2 => (H7.out.2.1.later h2 (Nat.le_refl _)).range) Tryz.underlying26 rfl (px_size pv m hfm) ?_
        simp only [Act.put, List.setIfInBounds_toArray, List.set_cons_zero, List.set_cons_succ]
        refine rg_step 20 rfl (by kernel_rfl) (by rfl) (fun K hK => ?_)
        go_simp
        refine (In_any pv (firstv xs (wid pv)) hfa pv X hfm m _).mono ?_
        rw [HI.out]
        rintro e y5 ⟨rfl, b5⟩
        replace hS := hS.trans (b5.mono hS.size)
        clear b5
        refine hK.out _ _ hS ?_
        clear hK K
        try simp only [Act.put, List.setIfInBounds_toArray, List.set_cons_zero, List.set_cons_succ]
        refine rg_take 21 (v := ?rv30) rfl (by kernel_rfl) (by kernel_rfl) (by kernel_rfl) (fun _ _ _ h => h) (by rfl) hS (fun w2 hw2 => ?ry30) ?rr30
        case ry30 => ((try dsimp only at hw2); go_simp <;> with_reducible rfl)
        simp only [Act.put, List.setIfInBounds_toArray, List.set_cons_zero, List.set_cons_succ]
        refine rg_take 22 (v := ?rv31) rfl (by kernel_rfl) (by kernel_rfl) (by kernel_rfl) (fun _ _ _ h => h) (by rfl) hS (fun w2 hw2 => ?ry31) ?rr31
        case ry31 => ((try dsimp only at hw2); go_simp <;> with_reducible rfl)
        simp only [Act.put, List.setIfInBounds_toArray, List.set_cons_zero, List.set_cons_succ]
        refine rg_skip 23 rfl (by kernel_rfl) (by kernel_rfl) (by kernel_rfl) (fun _ _ _ h => h) (by rfl) hS ?_
        simp only [Act.put, List.setIfInBounds_toArray, List.set_cons_zero, List.set_cons_succ]
        refine rg_skip 24 rfl (by kernel_rfl) (by kernel_rfl) (by kernel_rfl) (fun _ _ _ h => h) (by rfl) hS ?_
        simp only [Act.put, List.setIfInBounds_toArray, List.set_cons_zero, List.set_cons_succ]
        refine rg_skip 25 rfl (by kernel_rfl) (by kernel_rfl) (by kernel_rfl) (fun _ _ _ h => h) (by rfl) hS ?_
        simp only [Act.put, List.setIfInBounds_toArray, List.set_cons_zero, List.set_cons_succ]
        refine rg_take 26 (v := ?rv32) rfl (by kernel_rfl) (by kernel_rfl) (by kernel_rfl) (fun _ _ _ h => h) (by rfl) hS (fun w2 hw2 => ?ry32) ?rr32
        case ry32 => ((try dsimp only at hw2); go_simp <;> with_reducible rfl)
        simp only [Act.put, List.setIfInBounds_toArray, List.set_cons_zero, List.set_cons_succ]
        refine rg_take 27 (v := ?rv33) rfl (by kernel_rfl) (by kernel_rfl) (by kernel_rfl) (fun _ _ _ h => h) (by rfl) hS (fun w2 hw2 => ?ry33) ?rr33
        case ry33 => ((try dsimp only at hw2); go_simp <;> with_reducible rfl)
        simp only [Act.put, List.setIfInBounds_toArray, List.set_cons_zero, List.set_cons_succ]
        refine rg_take 28 (v := ?rv34) rfl (by kernel_rfl) (by kernel_rfl) (by kernel_rfl) (fun _ _ _ h => h) (by rfl) hS (fun w2 hw2 => ?ry34) ?rr34
        case ry34 => ((try dsimp only at hw2); go_simp <;> with_reducible rfl)
        simp only [Act.put, List.setIfInBounds_toArray, List.set_cons_zero, List.set_cons_succ]
        refine rg_load 29 rfl (by kernel_rfl) (by kernel_rfl) (by kernel_rfl) (w.heap.size) 0 (adv pv (firstv xs (wid pv))) (fun _ _ _ h => h) (by rfl) 24 (.tmp 3) rfl rfl hS (fun w2 h2 => (AdBox.later H7.out.1 h2 (Nat.le_refl _)).range) Tryz.underlying24 rfl (ad_size pv H7.out.1.2) ?_
        simp only [Act.put, List.setIfInBounds_toArray, List.set_cons_zero, List.set_cons_succ]
        refine rg_take 30 (v := ?rv35) rfl (by kernel_rfl) (by kernel_rfl) (by kernel_rfl) (fun _ _ _ h => h) (by rfl) hS (fun w2 hw2 => ?ry35) ?rr35
        case ry35 => ((try dsimp only at hw2); go_simp <;> with_reducible rfl)
        simp only [Act.put, List.setIfInBounds_toArray, List.set_cons_zero, List.set_cons_succ]
        refine rg_load 34 rfl (by kernel_rfl) (by kernel_rfl) (by kernel_rfl) (w.heap.size + 1) (0) ((pxv pv X m)) (fun _ _ _ h => h) (by rfl) 26 (.tmp 4) rfl rfl hS (fun w2 h2 => (H7.out.2.1.later h2 (Nat.le_refl _)).range) Tryz.underlying26 rfl (px_size pv m hfm) ?_
        simp only [Act.put, List.setIfInBounds_toArray, List.set_cons_zero, List.set_cons_succ]
        refine rg_take 31 (v := ?rv36) rfl (by kernel_rfl) (by kernel_rfl) (by kernel_rfl) (fun _ _ _ h => h) (by rfl) hS (fun w2 hw2 => ?ry36) ?rr36
        case ry36 => ((try dsimp only at hw2); go_simp <;> with_reducible rfl)
        simp only [Act.put, List.setIfInBounds_toArray, List.set_cons_zero, List.set_cons_succ]
        refine rg_take 32 (v := ?rv37) rfl (by kernel_rfl) (by kernel_rfl) (by kernel_rfl) (fun _ _ _ h => h) (by rfl) hS (fun w2 hw2 => ?ry37) ?rr37
        case ry37 => ((try dsimp only at hw2); go_simp <;> with_reducible rfl)
        simp only [Act.put, List.setIfInBounds_toArray, List.set_cons_zero, List.set_cons_succ]
        refine rg_step 33 rfl (by kernel_rfl) (by rfl) (fun K hK => ?_)
        go_simp
        refine (play_addr pv (!pv) (firstv xs (wid pv)) hfa _).mono ?_
        rintro e y6 ⟨rfl, b6⟩
        replace hS := hS.trans (b6.mono hS.size)
        clear b6
        refine hK.out _ _ hS ?_
        clear hK K
        try simp only [Act.put, List.setIfInBounds_toArray, List.set_cons_zero, List.set_cons_succ]
        refine rg_step 35 rfl (by kernel_rfl) (by rfl) (fun K hK => ?_)
        go_simp
        refine (In_any (!pv) (norm (!pv) (firstv xs (wid pv))) (norm_len (!pv) hfa) pv X hfm m _).mono ?_
        rw [HR.out.2.2.2]
        rintro e y7 ⟨rfl, b7⟩
        replace hS := hS.trans (b7.mono hS.size)
        clear b7
        refine hK.out _ _ hS ?_
        clear hK K
        try simp only [Act.put, List.setIfInBounds_toArray, List.set_cons_zero, List.set_cons_succ]
        refine rg_take 36 (v := ?rv38) rfl (by kernel_rfl) (by kernel_rfl) (by kernel_rfl) (fun _ _ _ h => h) (by rfl) hS (fun w2 hw2 => ?ry38) ?rr38
        case ry38 => ((try dsimp only at hw2); go_simp <;> with_reducible rfl)
        simp only [Act.put, List.setIfInBounds_toArray, List.set_cons_zero, List.set_cons_succ]
        refine rg_take 37 (v := ?rv39) rfl (by kernel_rfl) (by kernel_rfl) (by kernel_rfl) (fun _ _ _ h => h) (by rfl) hS (fun w2 hw2 => ?ry39) ?rr39
        case ry39 => ((try dsimp only at hw2); go_simp <;> with_reducible rfl)
        simp only [Act.put, List.setIfInBounds_toArray, List.set_cons_zero, List.set_cons_succ]
        refine rg_take 38 (v := ?rv40) rfl (by kernel_rfl) (by kernel_rfl) (by kernel_rfl) (fun _ _ _ h => h) (by rfl) hS (fun w2 hw2 => ?ry40) ?rr40
        case ry40 => ((try dsimp only at hw2); go_simp <;> with_reducible rfl)
        simp only [Act.put, List.setIfInBounds_toArray, List.set_cons_zero, List.set_cons_succ]
        refine rg_done (by kernel_rfl) ?_
        have H9 := Lib.hid (H7.out.2.2.2.trans (hS.mono H7.out.2.2.2.size))
        clear hS hcA
        go_wp2_with fail
        go_ret
        exact ⟨rfl, H9.out⟩
end Go.Proofs.YtjegeiaabkheiaaGreatDoor
