/-
  stockadeplay.Net: a net that is right. No conditions.
-/
import Derived.Test.YtjegeiaabkheiaaGreatDoorMask
import Derived.Test.YtjegeiaabkheiaaGreatDoorPxL
import Derived.Test.YtjegeiaabkheiaaGreatDoorTxF
namespace Go.Proofs.YtjegeiaabkheiaaGreatDoor
open Go.RowKit
set_option maxRecDepth 100000

theorem andnot_all : ∀ x : Fin 256, ∀ q : Fin 8, bits .andNot .u8 (x.val : Int) ((2 ^ (7 - q.val) : Nat) : Int) = (((UInt8.ofNat x.val &&& ~~~ (UInt8.ofNat (2 ^ (7 - q.val)))).toNat : Nat) : Int) := by decide +kernel
theorem andnot_u8 (x : UInt8) (q : Nat) (hq : q < 8) (c : Int) (hc : c = ((2 ^ (7 - q) : Nat) : Int)) : bits .andNot .u8 (x.toNat : Int) c = (((x &&& ~~~ (UInt8.ofNat (2 ^ (7 - q)))).toNat : Nat) : Int) := by
  subst hc
  have h := andnot_all ⟨x.toNat, x.toNat_lt⟩ ⟨q, hq⟩
  simp only [UInt8.ofNat_toNat] at h
  exact h
theorem clr_byte {X : List UInt8} {m j b q : Nat} {x : UInt8} (hx : (clrv X m j)[b]? = some x) (hb8 : j / 8 = b) (hq : j % 8 = q) (hmj : m ≤ j) : (clrv X m j).set b (x &&& ~~~ (UInt8.ofNat (2 ^ (7 - q)))) = clrv X m (j + 1) := by
  have hj : j = 8 * b + q := by omega
  subst hj
  exact clrv_step hmj (by omega) hx
theorem AdBox.clr {w : World} {g : Nat} {v6 : Bool} {X : List UInt8} {m j b : Nat} {x : UInt8} (h : AdBox w g v6 (clrv X m j)) (hx : (clrv X m j)[b]? = some x) (hb8 : j / 8 = b) (hmj : m ≤ j) (q : Nat) (hq : j % 8 = q) (c : Int) (hc : c = ((2 ^ (7 - q) : Nat) : Int)) :
    AdBox (w.setCell ⟨g, 1 + b, none⟩ (.int .u8 (bits .andNot .u8 (x.toNat : Int) c))) g v6 (clrv X m (j + 1)) := by
  rw [andnot_u8 x q (by omega) c hc, ← clr_byte hx hb8 hq hmj]
  exact h.put b _
theorem PxBox.far {w : World} {g : Nat} {v6 : Bool} {bs : List UInt8} {n : Int} (h : PxBox w g v6 bs n) {p : Addr} (hp : g ≠ p.block) (v : Value) : PxBox (w.setCell p v) g v6 bs n := ⟨(Below.heap_setCell w p v g hp).trans h.1, h.2⟩

set_option maxHeartbeats 4000000 in
theorem play_net (v6 : Bool) (bs : List UInt8) (hl : bs.length = 16) (n : Int) (w : World) : Calls Tryz.prog 24 #[.agg (pxv v6 bs n)] w fun e w' =>
    ∃ m : Nat, m ≤ wid v6 ∧ e = .returned (.agg (pxv v6 (firstv bs m) m)) ∧ Below w.heap.size w w' := by
  have P1 := Lib.hid (PxBox.new w v6 n hl)
  have B1 := Lib.hid ((Below.refl w.heap.size w).alloc (Nat.le_refl _) (.cells (pxv v6 bs n) 26))
  go_enter Tryz.func24, Tryz.ntmps24
  go_wp2_with (first
    | (refine wpList_alloc_px rfl rfl ?_; intro w2 a2 b2 z2; rw [World.size_alloc] at a2; have H2 := Lib.hid (And.intro (P1.out.later b2 (Nat.le_refl _)) (And.intro a2 (B1.out.trans (b2.mono B1.out.size)))); have c0 := H2.out.1.v6_cell; clear a2 b2 z2)
    | (refine wpList_load_row_w rfl 24 (.tmp 6) rfl w.heap.size 0 rfl (adv v6 bs) _ H2.out.1.range0 Tryz.underlying24 rfl (ad_size v6 hl) ?_))
  refine (play_addr v6 v6 bs hl _).mono ?_
  rw [norm_first v6 hl]
  rintro e w3 ⟨rfl, b3⟩
  have hwl := wid_le v6
  have hfl : (firstv bs (wid v6)).length = 16 := by rw [firstv_len, hl]
  have hlt2 := H2.out.2.1.lt
  have H3 := Lib.hid (And.intro (H2.out.1.later b3 (Nat.le_refl _)) (And.intro (H2.out.2.1.later b3 (Nat.le_refl _)) (H2.out.2.2.trans (b3.mono H2.out.2.2.size))))
  clear b3 c0 hlt2
  go_wp2_with (first
    | (refine wpList_alloc_ad rfl rfl ?_; intro w4 a4 b4 z4; have H4 := Lib.hid (And.intro (H3.out.1.later b4 (Nat.le_refl _)) (And.intro (H3.out.2.1.later b4 (Nat.le_refl _)) (And.intro a4 (And.intro (H3.out.2.2.trans (b4.mono H3.out.2.2.size)) (And.intro H3.out.1.lt H3.out.2.1.lt))))); clear a4 b4 z4)
    | (refine wpList_store_ad rfl (.tmp 3) (.tmp 11) rfl v6 (firstv bs (wid v6)) rfl rfl hfl H4.out.2.2.1 ?_; intro w5 a5 o5 z5 b5; have H5 := Lib.hid (And.intro (H4.out.1.same (o5 _ (Nat.ne_of_lt H4.out.2.2.2.2.1))) (And.intro (H4.out.2.1.same (o5 _ (Nat.ne_of_lt H4.out.2.2.2.2.2))) (And.intro a5 (And.intro (b5 w.heap.size w H3.out.2.2.size H4.out.2.2.2.1) H4.out.2.2.2.2)))); clear a5 o5 z5 b5))
  simp only [Act.put, List.setIfInBounds_toArray, List.set_cons_zero, List.set_cons_succ]
  obtain ⟨W, hW⟩ : ∃ W, wid v6 = W := ⟨_, rfl⟩
  obtain ⟨X, hX⟩ : ∃ X, firstv bs W = X := ⟨_, rfl⟩
  rw [hW] at H5 hwl hfl ⊢
  rw [hX] at H5 hfl ⊢
  have hcN : ∀ w', Below w5.heap.size w5 w' → w'.cell? ⟨w.heap.size, 17, none⟩ = some (.int .i64 n) := fun w' h => (H5.out.1.later h (Nat.le_refl _)).bits_cell
  obtain ⟨q1, q2⟩ := num_mod4 n ((W : Int) + 1) (by omega) (by omega)
  have i1 : IntKind.i64.wrap ((W : Int) + 1) = (W : Int) + 1 := IntWalk.i64_in _ (by omega)
  have i2 : IntKind.u64.wrap ((W : Int) + 1) = (W : Int) + 1 := by show ((W : Int) + 1) % 18446744073709551616 = _; omega
  have i3 : ¬ (W : Int) + 1 = 0 := by omega
  have hS : Below w5.heap.size w5 w5.drew := (Below.refl _ _).drew
  refine rg_begin (fun w' => Below w5.heap.size w5 w') 10 (by kernel_rfl) rfl ?_
  refine rg_take 0 (v := ?rv1) rfl (by kernel_rfl) (by kernel_rfl) (by kernel_rfl) (fun _ _ _ h => h) (by rfl) hS (fun w2 hw2 => ?ry1) ?rr1
  case ry1 => ((try dsimp only at hw2); go_simp <;> with_reducible rfl)
  simp only [Act.put, List.setIfInBounds_toArray, List.set_cons_zero, List.set_cons_succ]
  refine rg_load 3 rfl (by kernel_rfl) (by kernel_rfl) (by kernel_rfl) (w3.heap.size) 0 (adv v6 X) (fun _ _ _ h => h) (by rfl) 24 (.tmp 3) rfl rfl hS (fun w2 h2 => (AdBox.later H5.out.2.2.1 h2 (Nat.le_refl _)).range) Tryz.underlying24 rfl (ad_size v6 H5.out.2.2.1.2) ?_
  simp only [Act.put, List.setIfInBounds_toArray, List.set_cons_zero, List.set_cons_succ]
  refine rg_take 1 (v := ?rv2) rfl (by kernel_rfl) (by kernel_rfl) (by kernel_rfl) (fun _ _ _ h => h) (by rfl) hS (fun w2 hw2 => ?ry2) ?rr2
  case ry2 => ((try dsimp only at hw2); go_simp <;> with_reducible rfl)
  simp only [Act.put, List.setIfInBounds_toArray, List.set_cons_zero, List.set_cons_succ]
  refine rg_take 2 (v := ?rv3) rfl (by kernel_rfl) (by kernel_rfl) (by kernel_rfl) (fun _ _ _ h => h) (by rfl) hS (fun w2 hw2 => ?ry3) ?rr3
  case ry3 => ((try dsimp only at hw2); go_simp <;> with_reducible rfl)
  simp only [Act.put, List.setIfInBounds_toArray, List.set_cons_zero, List.set_cons_succ]
  refine rg_step 4 rfl (by kernel_rfl) (by rfl) (fun K hK => ?_)
  go_simp
  refine (size_any v6 X hfl _).mono ?_
  rw [hW]
  rintro e w6 ⟨rfl, b6⟩
  replace hS := hS.trans (b6.mono hS.size)
  clear b6
  refine hK.out _ _ hS ?_
  clear hK K
  try simp only [Act.put, List.setIfInBounds_toArray, List.set_cons_zero, List.set_cons_succ]
  refine rg_take 5 (v := ?rv4) rfl (by kernel_rfl) (by kernel_rfl) (by kernel_rfl) (fun _ _ _ h => h) (by rfl) hS (fun w2 hw2 => ?ry4) ?rr4
  case ry4 => ((try dsimp only at hw2); go_simp <;> with_reducible rfl)
  simp only [Act.put, List.setIfInBounds_toArray, List.set_cons_zero, List.set_cons_succ]
  refine rg_take 6 (v := ?rv5) rfl (by kernel_rfl) (by kernel_rfl) (by kernel_rfl) (fun _ _ _ h => h) (by rfl) hS (fun w2 hw2 => ?ry5) ?rr5
  case ry5 => ((try dsimp only at hw2); go_simp <;> with_reducible rfl)
  simp only [Act.put, List.setIfInBounds_toArray, List.set_cons_zero, List.set_cons_succ]
  refine rg_take 7 (v := ?rv6) rfl (by kernel_rfl) (by kernel_rfl) (by kernel_rfl) (fun _ _ _ h => h) (by rfl) hS (fun w2 hw2 => ?ry6) ?rr6
  case ry6 => ((try dsimp only at hw2); go_simp <;> with_reducible rfl)
  simp only [Act.put, List.setIfInBounds_toArray, List.set_cons_zero, List.set_cons_succ]
  refine rg_take 8 (v := ?rv7) rfl (by kernel_rfl) (by kernel_rfl) (by kernel_rfl) (fun _ _ _ h => h) (by rfl) hS (fun w2 hw2 => ?ry7) ?rr7
  case ry7 => ((try dsimp only at hw2); go_simp <;> with_reducible rfl)
  simp only [Act.put, List.setIfInBounds_toArray, List.set_cons_zero, List.set_cons_succ]
  refine rg_take 9 (v := ?rv8) rfl (by kernel_rfl) (by kernel_rfl) (by kernel_rfl) (fun _ _ _ h => h) (by rfl) hS (fun w2 hw2 => ?ry8) ?rr8
  case ry8 => ((try dsimp only at hw2); go_simp <;> with_reducible rfl)
  simp only [Act.put, List.setIfInBounds_toArray, List.set_cons_zero, List.set_cons_succ]
  refine rg_done (by kernel_rfl) ?_
  have H6 := Lib.hid (And.intro (H5.out.2.1.later hS (Nat.le_refl _)) (And.intro (H5.out.2.2.1.later hS (Nat.le_refl _)) (H5.out.2.2.2.1.trans (hS.mono H5.out.2.2.2.1.size))))
  clear hS hcN i1 i2 i3
  rw [show IntKind.i64.wrap ((IntKind.u64.wrap n).tmod ((W : Int) + 1)) = wrap64 ((IntKind.u64.wrap n).tmod ((W : Int) + 1)) from (IntKind.wrap_i64 _).trans (by unfold wrap64; rfl)]
  generalize wrap64 ((IntKind.u64.wrap n).tmod ((W : Int) + 1)) = y at q1 q2 ⊢
  obtain ⟨m, rfl⟩ := Int.eq_ofNat_of_zero_le q1
  have hm : m ≤ W := by omega
  have hfix : firstv X W = X := by rw [← hX, first_fix (Nat.le_refl _)]
  have hres : firstv X m = firstv bs m := by rw [← hX, first_cut hm]
  have HX := Lib.hid (And.intro hfix (And.intro hres (And.intro hW H5.out.2.2.2.2)))
  have hg1 : w.heap.size + 1 ≠ w3.heap.size := by have := H5.out.2.2.2.2.2; omega
  have hg2 : w.heap.size ≤ w3.heap.size := H3.out.2.2.size
  clear q1 q2 hfix hres hX hW
  go_wp2_with fail
  go_loopw [5] (fun i wr => ∃ j : Nat, m ≤ j ∧ j ≤ W ∧ i = .int .i64 j ∧ PxBox wr (w.heap.size + 1) false (List.replicate 16 0) 0 ∧ AdBox wr w3.heap.size v6 (clrv X m j) ∧ Below w.heap.size w wr) (fun i _ => W - (intOf i).toNat)
  case atStart => exact ⟨m, Nat.le_refl _, hm, rfl, H6.out.1, by rw [clrv_start]; exact H6.out.2.1, H6.out.2.2⟩
  case round =>
    obtain ⟨j, hmj, hjW, rfl, hp, ha, hb⟩ := hrel
    have hcl : (clrv X m j).length = 16 := by rw [clrv_len, hfl]
    have hsz := fun w => size_any v6 (clrv X m j) hcl w
    rw [HX.out.2.2.1] at hsz
    have HJ := Lib.hid (And.intro hp (And.intro ha (And.intro hb hsz)))
    clear hp ha hb hsz
    by_cases hlt : j < W
    · have hlt' : (j : Int) < (W : Int) := by omega
      obtain ⟨b, hb8⟩ : ∃ b, j / 8 = b := ⟨_, rfl⟩
      have hb16 : b < 16 := by omega
      have i1 : (j : Int) / 8 = (b : Int) := by omega
      go_wp2_with (refine wpList_load_ad rfl (.tmp 3) rfl rfl HJ.out.2.1 ?_)
      refine (HJ.out.2.2.2 _).mono ?_
      rintro e w7 ⟨rfl, b7⟩
      have H7 := Lib.hid (And.intro (HJ.out.1.later b7 (Nat.le_refl _)) (And.intro (HJ.out.2.1.later b7 (Nat.le_refl _)) (HJ.out.2.2.1.trans (b7.mono HJ.out.2.2.1.size))))
      clear b7
      obtain ⟨x, hx, hc⟩ := H7.out.2.1.there b hb16
      have hf := H7.out.2.1.frozen (1 + b)
      rcases (show j % 8 = 0 ∨ j % 8 = 1 ∨ j % 8 = 2 ∨ j % 8 = 3 ∨ j % 8 = 4 ∨ j % 8 = 5 ∨ j % 8 = 6 ∨ j % 8 = 7 by omega) with hq | hq | hq | hq | hq | hq | hq | hq
      · have i2 : (j : Int) % 8 = 0 := by omega
        have H8 := Lib.hid (And.intro (H7.out.1.far (p := ⟨w3.heap.size, 1 + b, none⟩) hg1 (.int .u8 (bits .andNot .u8 (x.toNat : Int) 128))) (And.intro (H7.out.2.1.clr hx hb8 hmj 0 hq 128 rfl) (H7.out.2.2.setCell (p := ⟨w3.heap.size, 1 + b, none⟩) hg2 (.int .u8 (bits .andNot .u8 (x.toNat : Int) 128)))))
        go_wp2_with fail
        exact ⟨⟨j + 1, by omega, by omega, by go_num, H8.out.1, H8.out.2.1, H8.out.2.2⟩, by simp [intOf]; omega⟩
      · have i2 : (j : Int) % 8 = 1 := by omega
        have H8 := Lib.hid (And.intro (H7.out.1.far (p := ⟨w3.heap.size, 1 + b, none⟩) hg1 (.int .u8 (bits .andNot .u8 (x.toNat : Int) 64))) (And.intro (H7.out.2.1.clr hx hb8 hmj 1 hq 64 rfl) (H7.out.2.2.setCell (p := ⟨w3.heap.size, 1 + b, none⟩) hg2 (.int .u8 (bits .andNot .u8 (x.toNat : Int) 64)))))
        go_wp2_with fail
        exact ⟨⟨j + 1, by omega, by omega, by go_num, H8.out.1, H8.out.2.1, H8.out.2.2⟩, by simp [intOf]; omega⟩
      · have i2 : (j : Int) % 8 = 2 := by omega
        have H8 := Lib.hid (And.intro (H7.out.1.far (p := ⟨w3.heap.size, 1 + b, none⟩) hg1 (.int .u8 (bits .andNot .u8 (x.toNat : Int) 32))) (And.intro (H7.out.2.1.clr hx hb8 hmj 2 hq 32 rfl) (H7.out.2.2.setCell (p := ⟨w3.heap.size, 1 + b, none⟩) hg2 (.int .u8 (bits .andNot .u8 (x.toNat : Int) 32)))))
        go_wp2_with fail
        exact ⟨⟨j + 1, by omega, by omega, by go_num, H8.out.1, H8.out.2.1, H8.out.2.2⟩, by simp [intOf]; omega⟩
      · have i2 : (j : Int) % 8 = 3 := by omega
        have H8 := Lib.hid (And.intro (H7.out.1.far (p := ⟨w3.heap.size, 1 + b, none⟩) hg1 (.int .u8 (bits .andNot .u8 (x.toNat : Int) 16))) (And.intro (H7.out.2.1.clr hx hb8 hmj 3 hq 16 rfl) (H7.out.2.2.setCell (p := ⟨w3.heap.size, 1 + b, none⟩) hg2 (.int .u8 (bits .andNot .u8 (x.toNat : Int) 16)))))
        go_wp2_with fail
        exact ⟨⟨j + 1, by omega, by omega, by go_num, H8.out.1, H8.out.2.1, H8.out.2.2⟩, by simp [intOf]; omega⟩
      · have i2 : (j : Int) % 8 = 4 := by omega
        have H8 := Lib.hid (And.intro (H7.out.1.far (p := ⟨w3.heap.size, 1 + b, none⟩) hg1 (.int .u8 (bits .andNot .u8 (x.toNat : Int) 8))) (And.intro (H7.out.2.1.clr hx hb8 hmj 4 hq 8 rfl) (H7.out.2.2.setCell (p := ⟨w3.heap.size, 1 + b, none⟩) hg2 (.int .u8 (bits .andNot .u8 (x.toNat : Int) 8)))))
        go_wp2_with fail
        exact ⟨⟨j + 1, by omega, by omega, by go_num, H8.out.1, H8.out.2.1, H8.out.2.2⟩, by simp [intOf]; omega⟩
      · have i2 : (j : Int) % 8 = 5 := by omega
        have H8 := Lib.hid (And.intro (H7.out.1.far (p := ⟨w3.heap.size, 1 + b, none⟩) hg1 (.int .u8 (bits .andNot .u8 (x.toNat : Int) 4))) (And.intro (H7.out.2.1.clr hx hb8 hmj 5 hq 4 rfl) (H7.out.2.2.setCell (p := ⟨w3.heap.size, 1 + b, none⟩) hg2 (.int .u8 (bits .andNot .u8 (x.toNat : Int) 4)))))
        go_wp2_with fail
        exact ⟨⟨j + 1, by omega, by omega, by go_num, H8.out.1, H8.out.2.1, H8.out.2.2⟩, by simp [intOf]; omega⟩
      · have i2 : (j : Int) % 8 = 6 := by omega
        have H8 := Lib.hid (And.intro (H7.out.1.far (p := ⟨w3.heap.size, 1 + b, none⟩) hg1 (.int .u8 (bits .andNot .u8 (x.toNat : Int) 2))) (And.intro (H7.out.2.1.clr hx hb8 hmj 6 hq 2 rfl) (H7.out.2.2.setCell (p := ⟨w3.heap.size, 1 + b, none⟩) hg2 (.int .u8 (bits .andNot .u8 (x.toNat : Int) 2)))))
        go_wp2_with fail
        exact ⟨⟨j + 1, by omega, by omega, by go_num, H8.out.1, H8.out.2.1, H8.out.2.2⟩, by simp [intOf]; omega⟩
      · have i2 : (j : Int) % 8 = 7 := by omega
        have H8 := Lib.hid (And.intro (H7.out.1.far (p := ⟨w3.heap.size, 1 + b, none⟩) hg1 (.int .u8 (bits .andNot .u8 (x.toNat : Int) 1))) (And.intro (H7.out.2.1.clr hx hb8 hmj 7 hq 1 rfl) (H7.out.2.2.setCell (p := ⟨w3.heap.size, 1 + b, none⟩) hg2 (.int .u8 (bits .andNot .u8 (x.toNat : Int) 1)))))
        go_wp2_with fail
        exact ⟨⟨j + 1, by omega, by omega, by go_num, H8.out.1, H8.out.2.1, H8.out.2.2⟩, by simp [intOf]; omega⟩
    · obtain rfl : j = W := by omega
      go_wp2_with (refine wpList_load_ad rfl (.tmp 3) rfl rfl HJ.out.2.1 ?_)
      refine (HJ.out.2.2.2 _).mono ?_
      rintro e w7 ⟨rfl, b7⟩
      have ha7 := HJ.out.2.1.later b7 (Nat.le_refl _)
      rw [clrv_end HX.out.1 hm, HX.out.2.1] at ha7
      have hfl2 : (firstv bs m).length = 16 := by rw [firstv_len, hl]
      have H7 := Lib.hid (And.intro (HJ.out.1.later b7 (Nat.le_refl _)) (And.intro ha7 (HJ.out.2.2.1.trans (b7.mono HJ.out.2.2.1.size))))
      have hsz := adv_size v6 hfl2
      have hsz2 := pxv_size v6 0 hfl2
      have hfo := fold_px v6 hfl2
      have hse := set_px v6 hfl2 0
      clear b7 ha7
      go_wp2_with (first
        | (refine wpList_load_ad rfl (.tmp 3) rfl rfl H7.out.2.1 ?_)
        | (refine wpList_store_px rfl (.tmp 2) (.tmp 45) rfl v6 (firstv bs m) m rfl rfl hfl2 H7.out.1 ?_; intro w8 a8 o8 z8 b8; have H8 := Lib.hid (And.intro a8 (b8 w.heap.size w (Nat.le_succ _) H7.out.2.2)); clear a8 o8 z8 b8))
      exact bodyPost_ret (v := .agg (pxv v6 (firstv bs m) m)) (results_cell_row rfl _ _ (w.heap.size + 1) 26 _ (0, 0) _ rfl H8.out.1.1 Tryz.underlying26 rfl (px_size v6 m hfl2)) rfl ⟨m, by rw [HX.out.2.2.1]; exact hm, rfl, H8.out.2⟩
end Go.Proofs.YtjegeiaabkheiaaGreatDoor
