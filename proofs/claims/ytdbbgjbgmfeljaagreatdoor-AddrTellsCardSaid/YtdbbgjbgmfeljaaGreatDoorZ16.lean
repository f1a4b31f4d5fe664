/-
  stockaderef01: RightNet, In: the document's own answers on nets, bit by bit. No conditions.
  stockaderef01: In: the document's own answers, bit by bit. No conditions.
-/
import Derived.Test.YtdbbgjbgmfeljaaGreatDoorZ15
namespace Go.Proofs.YtdbbgjbgmfeljaaGreatDoor
open Go.RowKit
set_option maxRecDepth 100000

theorem bit_zero : ∀ b : Fin 256, ∀ k : Fin 9, (UInt8.ofNat b.val &&& mk8 k.val = UInt8.ofNat b.val) ↔ (∀ j : Fin 8, k.val ≤ j.val → b.val / 2 ^ (7 - j.val) % 2 = 0) := by decide +kernel
theorem bit_mask : ∀ b : Fin 256, ∀ k : Fin 9, ∀ j : Fin 8, (UInt8.ofNat b.val &&& mk8 k.val).toNat / 2 ^ (7 - j.val) % 2 = if j.val < k.val then b.val / 2 ^ (7 - j.val) % 2 else 0 := by decide +kernel
theorem bit_sum : ∀ b : Fin 256, b.val = b.val / 128 % 2 * 128 + b.val / 64 % 2 * 64 + b.val / 32 % 2 * 32 + b.val / 16 % 2 * 16 + b.val / 8 % 2 * 8 + b.val / 4 % 2 * 4 + b.val / 2 % 2 * 2 + b.val / 1 % 2 * 1 := by decide +kernel
theorem byte_ext {x y : UInt8} (h : ∀ j, j < 8 → x.toNat / 2 ^ (7 - j) % 2 = y.toNat / 2 ^ (7 - j) % 2) : x = y := by
  apply UInt8.toNat_inj.1
  have h0 := h 0 (by omega); have h1 := h 1 (by omega); have h2 := h 2 (by omega); have h3 := h 3 (by omega)
  have h4 := h 4 (by omega); have h5 := h 5 (by omega); have h6 := h 6 (by omega); have h7 := h 7 (by omega)
  have hx : x.toNat = _ := bit_sum ⟨x.toNat, x.toNat_lt⟩
  have hy : y.toNat = _ := bit_sum ⟨y.toNat, y.toNat_lt⟩
  simp only at hx hy
  rw [hx, hy]
  simp only [show (2 : Nat) ^ (7 - 0) = 128 from rfl, show (2 : Nat) ^ (7 - 1) = 64 from rfl, show (2 : Nat) ^ (7 - 2) = 32 from rfl, show (2 : Nat) ^ (7 - 3) = 16 from rfl, show (2 : Nat) ^ (7 - 4) = 8 from rfl, show (2 : Nat) ^ (7 - 5) = 4 from rfl, show (2 : Nat) ^ (7 - 6) = 2 from rfl, show (2 : Nat) ^ (7 - 7) = 1 from rfl] at h0 h1 h2 h3 h4 h5 h6 h7
  rw [h0, h1, h2, h3, h4, h5, h6, h7]
theorem mask_bit (x : UInt8) {k j : Nat} (hk : k ≤ 8) (hj : j < 8) : (x &&& mk8 k).toNat / 2 ^ (7 - j) % 2 = if j < k then x.toNat / 2 ^ (7 - j) % 2 else 0 := by
  have h := bit_mask ⟨x.toNat, x.toNat_lt⟩ ⟨k, by omega⟩ ⟨j, hj⟩
  simp only [UInt8.ofNat_toNat] at h
  exact h
theorem mask_zero (x : UInt8) {k : Nat} (hk : k ≤ 8) : x &&& mk8 k = x ↔ ∀ j, j < 8 → k ≤ j → x.toNat / 2 ^ (7 - j) % 2 = 0 := by
  have h := bit_zero ⟨x.toNat, x.toNat_lt⟩ ⟨k, by omega⟩
  simp only [UInt8.ofNat_toNat] at h
  rw [h]
  exact ⟨fun h j hj => h ⟨j, hj⟩, fun h j => h j.val j.isLt⟩
theorem bitv_at {bs : List UInt8} {i j : Nat} {b : UInt8} (hb : bs[i]? = some b) (hj : j < 8) : bitv bs (8 * i + j) = b.toNat / 2 ^ (7 - j) % 2 := by
  unfold bitv
  rw [show (8 * i + j) / 8 = i by omega, show (8 * i + j) % 8 = j by omega]
  simp [List.getD, hb]
theorem first_fix_iff {bs : List UInt8} (hl : bs.length = 16) (n : Nat) : firstv bs n = bs ↔ ∀ i, n ≤ i → i < 128 → bitv bs i = 0 := by
  constructor
  · intro h i hi h128
    obtain ⟨b, hb⟩ : ∃ b, bs[i / 8]? = some b := ⟨bs[i / 8]'(by omega), List.getElem?_eq_getElem _⟩
    have h1 : (firstv bs n)[i / 8]? = some b := by rw [h, hb]
    rw [firstv_get, hb] at h1
    have h2 : b &&& mk8 (min (n - 8 * (i / 8)) 8) = b := Option.some.inj h1
    have h3 := (mask_zero b (by omega)).1 h2 (i % 8) (by omega) (by omega)
    have h4 := bitv_at hb (show i % 8 < 8 by omega)
    rw [show 8 * (i / 8) + i % 8 = i by omega] at h4
    rw [h4, h3]
  · intro h
    apply List.ext_getElem?
    intro i
    rw [firstv_get]
    cases hb : bs[i]? with
    | none => rfl
    | some b =>
      have hi := (List.getElem?_eq_some_iff.1 hb).1
      show some (b &&& mk8 (min (n - 8 * i) 8)) = some b
      rw [(mask_zero b (by omega)).2 (fun j hj hk => by rw [← bitv_at hb hj]; exact h (8 * i + j) (by omega) (by omega))]
theorem first_same_iff {as_ bs : List UInt8} (ha : as_.length = 16) (hb : bs.length = 16) {n : Nat} (hn : n ≤ 128) : firstv as_ n = firstv bs n ↔ ∀ i, i < n → bitv as_ i = bitv bs i := by
  constructor
  · intro h i hi
    obtain ⟨x, hx⟩ : ∃ b, as_[i / 8]? = some b := ⟨as_[i / 8]'(by omega), List.getElem?_eq_getElem _⟩
    obtain ⟨y, hy⟩ : ∃ b, bs[i / 8]? = some b := ⟨bs[i / 8]'(by omega), List.getElem?_eq_getElem _⟩
    have h1 : (firstv as_ n)[i / 8]? = (firstv bs n)[i / 8]? := by rw [h]
    rw [firstv_get, firstv_get, hx, hy] at h1
    have h2 : x &&& mk8 (min (n - 8 * (i / 8)) 8) = y &&& mk8 (min (n - 8 * (i / 8)) 8) := Option.some.inj h1
    have h3 := mask_bit x (k := min (n - 8 * (i / 8)) 8) (j := i % 8) (by omega) (by omega)
    have h4 := mask_bit y (k := min (n - 8 * (i / 8)) 8) (j := i % 8) (by omega) (by omega)
    rw [h2, h4, if_pos (by omega), if_pos (by omega)] at h3
    have h5 := bitv_at hx (show i % 8 < 8 by omega)
    have h6 := bitv_at hy (show i % 8 < 8 by omega)
    rw [show 8 * (i / 8) + i % 8 = i by omega] at h5 h6
    rw [h5, h6, h3]
  · intro h
    apply List.ext_getElem?
    intro i
    rw [firstv_get, firstv_get]
    by_cases hi : i < 16
    · obtain ⟨x, hx⟩ : ∃ b, as_[i]? = some b := ⟨as_[i]'(by omega), List.getElem?_eq_getElem _⟩
      obtain ⟨y, hy⟩ : ∃ b, bs[i]? = some b := ⟨bs[i]'(by omega), List.getElem?_eq_getElem _⟩
      rw [hx, hy]
      simp only [Option.map_some]
      congr 1
      refine byte_ext (fun j hj => ?_)
      rw [mask_bit x (by omega) hj, mask_bit y (by omega) hj]
      by_cases hk : j < min (n - 8 * i) 8
      · rw [if_pos hk, if_pos hk, ← bitv_at hx hj, ← bitv_at hy hj]
        exact h (8 * i + j) (by omega)
      · rw [if_neg hk, if_neg hk]
    · rw [List.getElem?_eq_none (by omega), List.getElem?_eq_none (by omega)]
theorem rightnet_bits {v6 : Bool} {bs : List UInt8} (hl : bs.length = 16) {n : Nat} (hr : rightv v6 bs = true) (hn : n ≤ wid v6) : rightnetv v6 bs n = true ↔ ∀ i, n ≤ i → i < 128 → bitv bs i = 0 := by
  rw [← first_fix_iff hl]
  unfold rightnetv
  rw [hr, Int.toNat_natCast, decide_eq_true (show (0 : Int) ≤ n by omega), decide_eq_true (show (n : Int) ≤ wid v6 by omega)]
  simp only [Bool.true_and, beq_iff_eq]
  exact ⟨Eq.symm, Eq.symm⟩

set_option maxHeartbeats 4000000 in
theorem refRightNet_any (v6 : Bool) (bs : List UInt8) (hl : bs.length = 16) (n : Int) (w : World) : Calls Tryz.prog 15 #[.agg (pxv v6 bs n)] w fun e w' => e = .returned (.bool (rightnetv v6 bs n)) ∧ Below w.heap.size w w' := by
  have P1 := Lib.hid (PxBox.new w v6 n hl)
  have B1 := Lib.hid ((Below.refl w.heap.size w).alloc (Nat.le_refl _) (.cells (pxv v6 bs n) 26))
  cases hr : rightv v6 bs with
  | false =>
    have hres : rightnetv v6 bs n = false := by unfold rightnetv; rw [hr]; rfl
    rw [hres]
    clear hres
    go_enter Tryz.func15, Tryz.ntmps15
    go_wp2_with fail
    generalize hW : w.alloc (.cells (pxv v6 bs n) 26) = W at P1 B1 ⊢
    clear hW
    have hS : Below W.heap.size W W.drew := (Below.refl _ _).drew
    refine rg_begin (fun w' => Below W.heap.size W w') 17 (by kernel_rfl) rfl ?_
    refine rg_take 0 (v := ?rv1) rfl (by kernel_rfl) (by kernel_rfl) (by kernel_rfl) (fun _ _ _ h => h) (by rfl) hS (fun w2 hw2 => ?ry1) ?rr1
    case ry1 => ((try dsimp only at hw2); go_simp <;> with_reducible rfl)
    simp only [Act.put, List.setIfInBounds_toArray, List.set_cons_zero, List.set_cons_succ]
    refine rg_load 1 rfl (by kernel_rfl) (by kernel_rfl) (by kernel_rfl) (w.heap.size) (0) ((adv v6 bs)) (fun _ _ _ h => h) (by rfl) 24 (.tmp 4) rfl rfl hS (fun w2 h2 => (P1.out.later h2 (Nat.le_refl _)).range0) Tryz.underlying24 rfl (ad_size v6 hl) ?_
    simp only [Act.put, List.setIfInBounds_toArray, List.set_cons_zero, List.set_cons_succ]
    refine rg_step 2 rfl (by kernel_rfl) (by rfl) (fun K hK => ?_)
    go_simp
    refine (refRight_any v6 bs hl _).mono ?_
    rw [hr]
    rintro e w1 ⟨rfl, b1⟩
    replace hS := hS.trans (b1.mono hS.size)
    clear b1
    refine hK.out _ _ hS ?_
    clear hK K
    try simp only [Act.put, List.setIfInBounds_toArray, List.set_cons_zero, List.set_cons_succ]
    refine rg_take 3 (v := ?rv2) rfl (by kernel_rfl) (by kernel_rfl) (by kernel_rfl) (fun _ _ _ h => h) (by rfl) hS (fun w2 hw2 => ?ry2) ?rr2
    case ry2 => ((try dsimp only at hw2); go_simp <;> with_reducible rfl)
    simp only [Act.put, List.setIfInBounds_toArray, List.set_cons_zero, List.set_cons_succ]
    refine rg_take 4 (v := ?rv3) rfl (by kernel_rfl) (by kernel_rfl) (by kernel_rfl) (fun _ _ _ h => h) (by rfl) hS (fun w2 hw2 => ?ry3) ?rr3
    case ry3 => ((try dsimp only at hw2); go_simp <;> with_reducible rfl)
    simp only [Act.put, List.setIfInBounds_toArray, List.set_cons_zero, List.set_cons_succ]
    refine rg_skip 5 rfl (by kernel_rfl) (by kernel_rfl) (by kernel_rfl) (fun _ _ _ h => h) (by rfl) hS ?_
    simp only [Act.put, List.setIfInBounds_toArray, List.set_cons_zero, List.set_cons_succ]
    refine rg_skip 6 rfl (by kernel_rfl) (by kernel_rfl) (by kernel_rfl) (fun _ _ _ h => h) (by rfl) hS ?_
    simp only [Act.put, List.setIfInBounds_toArray, List.set_cons_zero, List.set_cons_succ]
    refine rg_skip 7 rfl (by kernel_rfl) (by kernel_rfl) (by kernel_rfl) (fun _ _ _ h => h) (by rfl) hS ?_
    simp only [Act.put, List.setIfInBounds_toArray, List.set_cons_zero, List.set_cons_succ]
    refine rg_take 8 (v := ?rv4) rfl (by kernel_rfl) (by kernel_rfl) (by kernel_rfl) (fun _ _ _ h => h) (by rfl) hS (fun w2 hw2 => ?ry4) ?rr4
    case ry4 => ((try dsimp only at hw2); go_simp <;> with_reducible rfl)
    simp only [Act.put, List.setIfInBounds_toArray, List.set_cons_zero, List.set_cons_succ]
    refine rg_take 9 (v := ?rv5) rfl (by kernel_rfl) (by kernel_rfl) (by kernel_rfl) (fun _ _ _ h => h) (by rfl) hS (fun w2 hw2 => ?ry5) ?rr5
    case ry5 => ((try dsimp only at hw2); go_simp <;> with_reducible rfl)
    simp only [Act.put, List.setIfInBounds_toArray, List.set_cons_zero, List.set_cons_succ]
    refine rg_skip 10 rfl (by kernel_rfl) (by kernel_rfl) (by kernel_rfl) (fun _ _ _ h => h) (by rfl) hS ?_
    simp only [Act.put, List.setIfInBounds_toArray, List.set_cons_zero, List.set_cons_succ]
    refine rg_skip 11 rfl (by kernel_rfl) (by kernel_rfl) (by kernel_rfl) (fun _ _ _ h => h) (by rfl) hS ?_
    simp only [Act.put, List.setIfInBounds_toArray, List.set_cons_zero, List.set_cons_succ]
    refine rg_skip 12 rfl (by kernel_rfl) (by kernel_rfl) (by kernel_rfl) (fun _ _ _ h => h) (by rfl) hS ?_
    simp only [Act.put, List.setIfInBounds_toArray, List.set_cons_zero, List.set_cons_succ]
    refine rg_skip 13 rfl (by kernel_rfl) (by kernel_rfl) (by kernel_rfl) (fun _ _ _ h => h) (by rfl) hS ?_
    simp only [Act.put, List.setIfInBounds_toArray, List.set_cons_zero, List.set_cons_succ]
    refine rg_skip 14 rfl (by kernel_rfl) (by kernel_rfl) (by kernel_rfl) (fun _ _ _ h => h) (by rfl) hS ?_
    simp only [Act.put, List.setIfInBounds_toArray, List.set_cons_zero, List.set_cons_succ]
    refine rg_skip 15 rfl (by kernel_rfl) (by kernel_rfl) (by kernel_rfl) (fun _ _ _ h => h) (by rfl) hS ?_
    simp only [Act.put, List.setIfInBounds_toArray, List.set_cons_zero, List.set_cons_succ]
    refine rg_take 16 (v := ?rv6) rfl (by kernel_rfl) (by kernel_rfl) (by kernel_rfl) (fun _ _ _ h => h) (by rfl) hS (fun w2 hw2 => ?ry6) ?rr6
    case ry6 => ((try dsimp only at hw2); go_simp <;> with_reducible rfl)
    simp only [Act.put, List.setIfInBounds_toArray, List.set_cons_zero, List.set_cons_succ]
    refine rg_done (by kernel_rfl) ?_
    have H2 := Lib.hid (B1.out.trans (hS.mono B1.out.size))
    clear hS
    go_wp2_with fail
    go_ret
    exact ⟨rfl, H2.out⟩
  | true =>
    by_cases h0 : 0 ≤ n
    · have hd0 : decide (n < 0) = false := decide_eq_false (by omega)
      by_cases h1 : n ≤ wid v6
      · have hd1 : decide ((wid v6 : Int) < n) = false := decide_eq_false (by omega)
        obtain ⟨m, rfl⟩ : ∃ m : Nat, n = m := ⟨n.toNat, by omega⟩
        have hwl := wid_le v6
        have hm : m ≤ 128 := by omega
        have hd1n : decide (wid v6 < m) = false := decide_eq_false (by omega)
        have hbits := rightnet_bits hl hr (show m ≤ wid v6 by omega)
        have HBI := Lib.hid hbits
        clear hbits
        go_enter Tryz.func15, Tryz.ntmps15
        go_wp2_with fail
        generalize hW : w.alloc (.cells (pxv v6 bs m) 26) = W at P1 B1 ⊢
        clear hW
        have hcB : ∀ w', Below W.heap.size W w' → w'.cell? ⟨w.heap.size, 17, none⟩ = some (.int .i64 m) := fun w' h => (P1.out.later h (Nat.le_refl _)).bits_cell
        have hS : Below W.heap.size W W.drew := (Below.refl _ _).drew
        refine rg_begin (fun w' => Below W.heap.size W w') 17 (by kernel_rfl) rfl ?_
        refine rg_take 0 (v := ?rv7) rfl (by kernel_rfl) (by kernel_rfl) (by kernel_rfl) (fun _ _ _ h => h) (by rfl) hS (fun w2 hw2 => ?ry7) ?rr7
        case ry7 => ((try dsimp only at hw2); go_simp <;> with_reducible rfl)
        simp only [Act.put, List.setIfInBounds_toArray, List.set_cons_zero, List.set_cons_succ]
        refine rg_load 1 rfl (by kernel_rfl) (by kernel_rfl) (by kernel_rfl) (w.heap.size) (0) ((adv v6 bs)) (fun _ _ _ h => h) (by rfl) 24 (.tmp 4) rfl rfl hS (fun w2 h2 => (P1.out.later h2 (Nat.le_refl _)).range0) Tryz.underlying24 rfl (ad_size v6 hl) ?_
        simp only [Act.put, List.setIfInBounds_toArray, List.set_cons_zero, List.set_cons_succ]
        refine rg_step 2 rfl (by kernel_rfl) (by rfl) (fun K hK => ?_)
        go_simp
        refine (refRight_any v6 bs hl _).mono ?_
        rw [hr]
        rintro e w1 ⟨rfl, b1⟩
        replace hS := hS.trans (b1.mono hS.size)
        clear b1
        refine hK.out _ _ hS ?_
        clear hK K
        try simp only [Act.put, List.setIfInBounds_toArray, List.set_cons_zero, List.set_cons_succ]
        refine rg_take 3 (v := ?rv8) rfl (by kernel_rfl) (by kernel_rfl) (by kernel_rfl) (fun _ _ _ h => h) (by rfl) hS (fun w2 hw2 => ?ry8) ?rr8
        case ry8 => ((try dsimp only at hw2); go_simp <;> with_reducible rfl)
        simp only [Act.put, List.setIfInBounds_toArray, List.set_cons_zero, List.set_cons_succ]
        refine rg_take 4 (v := ?rv9) rfl (by kernel_rfl) (by kernel_rfl) (by kernel_rfl) (fun _ _ _ h => h) (by rfl) hS (fun w2 hw2 => ?ry9) ?rr9
        case ry9 => ((try dsimp only at hw2); go_simp <;> with_reducible rfl)
        simp only [Act.put, List.setIfInBounds_toArray, List.set_cons_zero, List.set_cons_succ]
        refine rg_take 5 (v := ?rv10) rfl (by kernel_rfl) (by kernel_rfl) (by kernel_rfl) (fun _ _ _ h => h) (by rfl) hS (fun w2 hw2 => ?ry10) ?rr10
        case ry10 => ((try dsimp only at hw2); go_simp <;> with_reducible rfl)
        simp only [Act.put, List.setIfInBounds_toArray, List.set_cons_zero, List.set_cons_succ]
        refine rg_take 6 (v := ?rv11) rfl (by kernel_rfl) (by kernel_rfl) (by kernel_rfl) (fun _ _ _ h => h) (by rfl) hS (fun w2 hw2 => ?ry11) ?rr11
        case ry11 => ((try dsimp only at hw2); go_simp <;> with_reducible rfl)
        simp only [Act.put, List.setIfInBounds_toArray, List.set_cons_zero, List.set_cons_succ]
        refine rg_take 7 (v := ?rv12) rfl (by kernel_rfl) (by kernel_rfl) (by kernel_rfl) (fun _ _ _ h => h) (by rfl) hS (fun w2 hw2 => ?ry12) ?rr12
        case ry12 => ((try dsimp only at hw2); go_simp <;> with_reducible rfl)
        simp only [Act.put, List.setIfInBounds_toArray, List.set_cons_zero, List.set_cons_succ]
        refine rg_take 8 (v := ?rv13) rfl (by kernel_rfl) (by kernel_rfl) (by kernel_rfl) (fun _ _ _ h => h) (by rfl) hS (fun w2 hw2 => ?ry13) ?rr13
        case ry13 => ((try dsimp only at hw2); go_simp <;> with_reducible rfl)
        simp only [Act.put, List.setIfInBounds_toArray, List.set_cons_zero, List.set_cons_succ]
        refine rg_take 9 (v := ?rv14) rfl (by kernel_rfl) (by kernel_rfl) (by kernel_rfl) (fun _ _ _ h => h) (by rfl) hS (fun w2 hw2 => ?ry14) ?rr14
        case ry14 => ((try dsimp only at hw2); go_simp <;> with_reducible rfl)
        simp only [Act.put, List.setIfInBounds_toArray, List.set_cons_zero, List.set_cons_succ]
        refine rg_take 10 (v := ?rv15) rfl (by kernel_rfl) (by kernel_rfl) (by kernel_rfl) (fun _ _ _ h => h) (by rfl) hS (fun w2 hw2 => ?ry15) ?rr15
        case ry15 => ((try dsimp only at hw2); go_simp <;> with_reducible rfl)
        simp only [Act.put, List.setIfInBounds_toArray, List.set_cons_zero, List.set_cons_succ]
        refine rg_take 11 (v := ?rv16) rfl (by kernel_rfl) (by kernel_rfl) (by kernel_rfl) (fun _ _ _ h => h) (by rfl) hS (fun w2 hw2 => ?ry16) ?rr16
        case ry16 => ((try dsimp only at hw2); go_simp <;> with_reducible rfl)
        simp only [Act.put, List.setIfInBounds_toArray, List.set_cons_zero, List.set_cons_succ]
        refine rg_take 12 (v := ?rv17) rfl (by kernel_rfl) (by kernel_rfl) (by kernel_rfl) (fun _ _ _ h => h) (by rfl) hS (fun w2 hw2 => ?ry17) ?rr17
        case ry17 => ((try dsimp only at hw2); go_simp <;> with_reducible rfl)
        simp only [Act.put, List.setIfInBounds_toArray, List.set_cons_zero, List.set_cons_succ]
        refine rg_load 13 rfl (by kernel_rfl) (by kernel_rfl) (by kernel_rfl) (w.heap.size) (0) ((adv v6 bs)) (fun _ _ _ h => h) (by rfl) 24 (.tmp 16) rfl rfl hS (fun w2 h2 => (P1.out.later h2 (Nat.le_refl _)).range0) Tryz.underlying24 rfl (ad_size v6 hl) ?_
        simp only [Act.put, List.setIfInBounds_toArray, List.set_cons_zero, List.set_cons_succ]
        refine rg_step 14 rfl (by kernel_rfl) (by rfl) (fun K hK => ?_)
        go_simp
        refine (size_any v6 bs hl _).mono ?_
        rintro e w2 ⟨rfl, b2⟩
        replace hS := hS.trans (b2.mono hS.size)
        clear b2
        refine hK.out _ _ hS ?_
        clear hK K
        try simp only [Act.put, List.setIfInBounds_toArray, List.set_cons_zero, List.set_cons_succ]
        refine rg_take 15 (v := ?rv18) rfl (by kernel_rfl) (by kernel_rfl) (by kernel_rfl) (fun _ _ _ h => h) (by rfl) hS (fun w2 hw2 => ?ry18) ?rr18
        case ry18 => ((try dsimp only at hw2); go_simp <;> with_reducible rfl)
        simp only [Act.put, List.setIfInBounds_toArray, List.set_cons_zero, List.set_cons_succ]
        refine rg_take 16 (v := ?rv19) rfl (by kernel_rfl) (by kernel_rfl) (by kernel_rfl) (fun _ _ _ h => h) (by rfl) hS (fun w2 hw2 => ?ry19) ?rr19
        case ry19 => ((try dsimp only at hw2); go_simp <;> with_reducible rfl)
        simp only [Act.put, List.setIfInBounds_toArray, List.set_cons_zero, List.set_cons_succ]
        refine rg_done (by kernel_rfl) ?_
        have H2 := Lib.hid (And.intro (P1.out.later hS (Nat.le_refl _)) (B1.out.trans (hS.mono B1.out.size)))
        have cB := hcB _ hS
        clear hS hcB
        go_wp2_with fail
        clear cB
        go_loopw [3] (fun i wr => ∃ j : Nat, m ≤ j ∧ j ≤ 128 ∧ i = .int .i64 j ∧ PxBox wr w.heap.size v6 bs m ∧ Below w.heap.size w wr ∧ ∀ k, m ≤ k → k < j → bitv bs k = 0) (fun i _ => 128 - (intOf i).toNat)
        case atStart => exact ⟨m, Nat.le_refl _, hm, rfl, H2.out.1, H2.out.2, fun k h1 h2 => by omega⟩
        case round =>
          obtain ⟨j, hmj, hj, rfl, hp, hb, hz⟩ := hrel
          have HJ := Lib.hid (And.intro hp (And.intro hb hz))
          clear hp hb hz
          by_cases hlt : j < 128
          · have hlt' : (j : Int) < 128 := by omega
            go_wp2_with (refine wpList_load_row_w rfl 24 (.tmp 27) rfl w.heap.size 0 rfl (adv v6 bs) _ HJ.out.1.range0 Tryz.underlying24 rfl (ad_size v6 hl) ?_)
            refine (bit_any v6 bs hl j hlt _).mono ?_
            rintro e w3 ⟨rfl, b3⟩
            have H3 := Lib.hid (And.intro (HJ.out.1.later b3 (Nat.le_refl _)) (HJ.out.2.1.trans (b3.mono HJ.out.2.1.size)))
            clear b3
            by_cases hbz : bitv bs j = 0
            · rw [hbz]
              have HBZ := Lib.hid hbz
              clear hbz
              go_wp2_with fail
              go_roundw
              case rel =>
                refine ⟨j + 1, by omega, by omega, by go_num, H3.out.1, H3.out.2, fun k h1 h2 => ?_⟩
                by_cases hk : k = j
                · rw [hk]; exact HBZ.out
                · exact HJ.out.2.2 k h1 (by omega)
              case measure => simp [intOf]; omega
            · have hres : rightnetv v6 bs m = false := by
                cases hc : rightnetv v6 bs m with
                | false => rfl
                | true => exact absurd (HBI.out.1 hc j hmj hlt) hbz
              have HRES := Lib.hid hres
              generalize bitv bs j = bz at hbz ⊢
              clear hres
              go_wp2_with fail
              go_ret
              exact ⟨by rw [HRES.out]; rfl, H3.out.2⟩
          · obtain rfl : j = 128 := by omega
            have HRES := Lib.hid (HBI.out.2 (fun i h1 h2 => HJ.out.2.2 i h1 h2))
            go_wp2_with fail
            go_ret
            exact ⟨by rw [HRES.out]; rfl, HJ.out.2.1⟩
      · have hd1 : decide ((wid v6 : Int) < n) = true := decide_eq_true (by omega)
        have hres : rightnetv v6 bs n = false := by unfold rightnetv; rw [hr, decide_eq_false h1]; simp
        rw [hres]
        clear hres
        go_enter Tryz.func15, Tryz.ntmps15
        go_wp2_with fail
        generalize hW : w.alloc (.cells (pxv v6 bs n) 26) = W at P1 B1 ⊢
        clear hW
        have hcB : ∀ w', Below W.heap.size W w' → w'.cell? ⟨w.heap.size, 17, none⟩ = some (.int .i64 n) := fun w' h => (P1.out.later h (Nat.le_refl _)).bits_cell
        have hS : Below W.heap.size W W.drew := (Below.refl _ _).drew
        refine rg_begin (fun w' => Below W.heap.size W w') 17 (by kernel_rfl) rfl ?_
        refine rg_take 0 (v := ?rv20) rfl (by kernel_rfl) (by kernel_rfl) (by kernel_rfl) (fun _ _ _ h => h) (by rfl) hS (fun w2 hw2 => ?ry20) ?rr20
        case ry20 => ((try dsimp only at hw2); go_simp <;> with_reducible rfl)
        simp only [Act.put, List.setIfInBounds_toArray, List.set_cons_zero, List.set_cons_succ]
        refine rg_load 1 rfl (by kernel_rfl) (by kernel_rfl) (by kernel_rfl) (w.heap.size) (0) ((adv v6 bs)) (fun _ _ _ h => h) (by rfl) 24 (.tmp 4) rfl rfl hS (fun w2 h2 => (P1.out.later h2 (Nat.le_refl _)).range0) Tryz.underlying24 rfl (ad_size v6 hl) ?_
        simp only [Act.put, List.setIfInBounds_toArray, List.set_cons_zero, List.set_cons_succ]
        refine rg_step 2 rfl (by kernel_rfl) (by rfl) (fun K hK => ?_)
        go_simp
        refine (refRight_any v6 bs hl _).mono ?_
        rw [hr]
        rintro e w1 ⟨rfl, b1⟩
        replace hS := hS.trans (b1.mono hS.size)
        clear b1
        refine hK.out _ _ hS ?_
        clear hK K
        try simp only [Act.put, List.setIfInBounds_toArray, List.set_cons_zero, List.set_cons_succ]
        refine rg_take 3 (v := ?rv21) rfl (by kernel_rfl) (by kernel_rfl) (by kernel_rfl) (fun _ _ _ h => h) (by rfl) hS (fun w2 hw2 => ?ry21) ?rr21
        case ry21 => ((try dsimp only at hw2); go_simp <;> with_reducible rfl)
        simp only [Act.put, List.setIfInBounds_toArray, List.set_cons_zero, List.set_cons_succ]
        refine rg_take 4 (v := ?rv22) rfl (by kernel_rfl) (by kernel_rfl) (by kernel_rfl) (fun _ _ _ h => h) (by rfl) hS (fun w2 hw2 => ?ry22) ?rr22
        case ry22 => ((try dsimp only at hw2); go_simp <;> with_reducible rfl)
        simp only [Act.put, List.setIfInBounds_toArray, List.set_cons_zero, List.set_cons_succ]
        refine rg_take 5 (v := ?rv23) rfl (by kernel_rfl) (by kernel_rfl) (by kernel_rfl) (fun _ _ _ h => h) (by rfl) hS (fun w2 hw2 => ?ry23) ?rr23
        case ry23 => ((try dsimp only at hw2); go_simp <;> with_reducible rfl)
        simp only [Act.put, List.setIfInBounds_toArray, List.set_cons_zero, List.set_cons_succ]
        refine rg_take 6 (v := ?rv24) rfl (by kernel_rfl) (by kernel_rfl) (by kernel_rfl) (fun _ _ _ h => h) (by rfl) hS (fun w2 hw2 => ?ry24) ?rr24
        case ry24 => ((try dsimp only at hw2); go_simp <;> with_reducible rfl)
        simp only [Act.put, List.setIfInBounds_toArray, List.set_cons_zero, List.set_cons_succ]
        refine rg_take 7 (v := ?rv25) rfl (by kernel_rfl) (by kernel_rfl) (by kernel_rfl) (fun _ _ _ h => h) (by rfl) hS (fun w2 hw2 => ?ry25) ?rr25
        case ry25 => ((try dsimp only at hw2); go_simp <;> with_reducible rfl)
        simp only [Act.put, List.setIfInBounds_toArray, List.set_cons_zero, List.set_cons_succ]
        refine rg_take 8 (v := ?rv26) rfl (by kernel_rfl) (by kernel_rfl) (by kernel_rfl) (fun _ _ _ h => h) (by rfl) hS (fun w2 hw2 => ?ry26) ?rr26
        case ry26 => ((try dsimp only at hw2); go_simp <;> with_reducible rfl)
        simp only [Act.put, List.setIfInBounds_toArray, List.set_cons_zero, List.set_cons_succ]
        refine rg_take 9 (v := ?rv27) rfl (by kernel_rfl) (by kernel_rfl) (by kernel_rfl) (fun _ _ _ h => h) (by rfl) hS (fun w2 hw2 => ?ry27) ?rr27
        case ry27 => ((try dsimp only at hw2); go_simp <;> with_reducible rfl)
        simp only [Act.put, List.setIfInBounds_toArray, List.set_cons_zero, List.set_cons_succ]
        refine rg_take 10 (v := ?rv28) rfl (by kernel_rfl) (by kernel_rfl) (by kernel_rfl) (fun _ _ _ h => h) (by rfl) hS (fun w2 hw2 => ?ry28) ?rr28
        case ry28 => ((try dsimp only at hw2); go_simp <;> with_reducible rfl)
        simp only [Act.put, List.setIfInBounds_toArray, List.set_cons_zero, List.set_cons_succ]
        refine rg_take 11 (v := ?rv29) rfl (by kernel_rfl) (by kernel_rfl) (by kernel_rfl) (fun _ _ _ h => h) (by rfl) hS (fun w2 hw2 => ?ry29) ?rr29
        case ry29 => ((try dsimp only at hw2); go_simp <;> with_reducible rfl)
        simp only [Act.put, List.setIfInBounds_toArray, List.set_cons_zero, List.set_cons_succ]
        refine rg_take 12 (v := ?rv30) rfl (by kernel_rfl) (by kernel_rfl) (by kernel_rfl) (fun _ _ _ h => h) (by rfl) hS (fun w2 hw2 => ?ry30) ?rr30
        case ry30 => ((try dsimp only at hw2); go_simp <;> with_reducible rfl)
        simp only [Act.put, List.setIfInBounds_toArray, List.set_cons_zero, List.set_cons_succ]
        refine rg_load 13 rfl (by kernel_rfl) (by kernel_rfl) (by kernel_rfl) (w.heap.size) (0) ((adv v6 bs)) (fun _ _ _ h => h) (by rfl) 24 (.tmp 16) rfl rfl hS (fun w2 h2 => (P1.out.later h2 (Nat.le_refl _)).range0) Tryz.underlying24 rfl (ad_size v6 hl) ?_
        simp only [Act.put, List.setIfInBounds_toArray, List.set_cons_zero, List.set_cons_succ]
        refine rg_step 14 rfl (by kernel_rfl) (by rfl) (fun K hK => ?_)
        go_simp
        refine (size_any v6 bs hl _).mono ?_
        rintro e w2 ⟨rfl, b2⟩
        replace hS := hS.trans (b2.mono hS.size)
        clear b2
        refine hK.out _ _ hS ?_
        clear hK K
        try simp only [Act.put, List.setIfInBounds_toArray, List.set_cons_zero, List.set_cons_succ]
        refine rg_take 15 (v := ?rv31) rfl (by kernel_rfl) (by kernel_rfl) (by kernel_rfl) (fun _ _ _ h => h) (by rfl) hS (fun w2 hw2 => ?ry31) ?rr31
        case ry31 => ((try dsimp only at hw2); go_simp <;> with_reducible rfl)
        simp only [Act.put, List.setIfInBounds_toArray, List.set_cons_zero, List.set_cons_succ]
        refine rg_take 16 (v := ?rv32) rfl (by kernel_rfl) (by kernel_rfl) (by kernel_rfl) (fun _ _ _ h => h) (by rfl) hS (fun w2 hw2 => ?ry32) ?rr32
        case ry32 => ((try dsimp only at hw2); go_simp <;> with_reducible rfl)
        simp only [Act.put, List.setIfInBounds_toArray, List.set_cons_zero, List.set_cons_succ]
        refine rg_done (by kernel_rfl) ?_
        have H2 := Lib.hid (B1.out.trans (hS.mono B1.out.size))
        clear hS
        go_wp2_with fail
        go_ret
        exact ⟨rfl, H2.out⟩
    · have hd0 : decide (n < 0) = true := decide_eq_true (by omega)
      have hres : rightnetv v6 bs n = false := by unfold rightnetv; rw [hr, decide_eq_false h0]; rfl
      rw [hres]
      clear hres
      go_enter Tryz.func15, Tryz.ntmps15
      go_wp2_with fail
      generalize hW : w.alloc (.cells (pxv v6 bs n) 26) = W at P1 B1 ⊢
      clear hW
      have hcB : ∀ w', Below W.heap.size W w' → w'.cell? ⟨w.heap.size, 17, none⟩ = some (.int .i64 n) := fun w' h => (P1.out.later h (Nat.le_refl _)).bits_cell
      have hS : Below W.heap.size W W.drew := (Below.refl _ _).drew
      refine rg_begin (fun w' => Below W.heap.size W w') 17 (by kernel_rfl) rfl ?_
      refine rg_take 0 (v := ?rv33) rfl (by kernel_rfl) (by kernel_rfl) (by kernel_rfl) (fun _ _ _ h => h) (by rfl) hS (fun w2 hw2 => ?ry33) ?rr33
      case ry33 => ((try dsimp only at hw2); go_simp <;> with_reducible rfl)
      simp only [Act.put, List.setIfInBounds_toArray, List.set_cons_zero, List.set_cons_succ]
      refine rg_load 1 rfl (by kernel_rfl) (by kernel_rfl) (by kernel_rfl) (w.heap.size) (0) ((adv v6 bs)) (fun _ _ _ h => h) (by rfl) 24 (.tmp 4) rfl rfl hS (fun w2 h2 => (P1.out.later h2 (Nat.le_refl _)).range0) Tryz.underlying24 rfl (ad_size v6 hl) ?_
      simp only [Act.put, List.setIfInBounds_toArray, List.set_cons_zero, List.set_cons_succ]
      refine rg_step 2 rfl (by kernel_rfl) (by rfl) (fun K hK => ?_)
      go_simp
      refine (refRight_any v6 bs hl _).mono ?_
      rw [hr]
      rintro e w1 ⟨rfl, b1⟩
      replace hS := hS.trans (b1.mono hS.size)
      clear b1
      refine hK.out _ _ hS ?_
      clear hK K
      try simp only [Act.put, List.setIfInBounds_toArray, List.set_cons_zero, List.set_cons_succ]
      refine rg_take 3 (v := ?rv34) rfl (by kernel_rfl) (by kernel_rfl) (by kernel_rfl) (fun _ _ _ h => h) (by rfl) hS (fun w2 hw2 => ?ry34) ?rr34
      case ry34 => ((try dsimp only at hw2); go_simp <;> with_reducible rfl)
      simp only [Act.put, List.setIfInBounds_toArray, List.set_cons_zero, List.set_cons_succ]
      refine rg_take 4 (v := ?rv35) rfl (by kernel_rfl) (by kernel_rfl) (by kernel_rfl) (fun _ _ _ h => h) (by rfl) hS (fun w2 hw2 => ?ry35) ?rr35
      case ry35 => ((try dsimp only at hw2); go_simp <;> with_reducible rfl)
      simp only [Act.put, List.setIfInBounds_toArray, List.set_cons_zero, List.set_cons_succ]
      refine rg_take 5 (v := ?rv36) rfl (by kernel_rfl) (by kernel_rfl) (by kernel_rfl) (fun _ _ _ h => h) (by rfl) hS (fun w2 hw2 => ?ry36) ?rr36
      case ry36 => ((try dsimp only at hw2); go_simp <;> with_reducible rfl)
      simp only [Act.put, List.setIfInBounds_toArray, List.set_cons_zero, List.set_cons_succ]
      refine rg_take 6 (v := ?rv37) rfl (by kernel_rfl) (by kernel_rfl) (by kernel_rfl) (fun _ _ _ h => h) (by rfl) hS (fun w2 hw2 => ?ry37) ?rr37
      case ry37 => ((try dsimp only at hw2); go_simp <;> with_reducible rfl)
      simp only [Act.put, List.setIfInBounds_toArray, List.set_cons_zero, List.set_cons_succ]
      refine rg_take 7 (v := ?rv38) rfl (by kernel_rfl) (by kernel_rfl) (by kernel_rfl) (fun _ _ _ h => h) (by rfl) hS (fun w2 hw2 => ?ry38) ?rr38
      case ry38 => ((try dsimp only at hw2); go_simp <;> with_reducible rfl)
      simp only [Act.put, List.setIfInBounds_toArray, List.set_cons_zero, List.set_cons_succ]
      refine rg_take 8 (v := ?rv39) rfl (by kernel_rfl) (by kernel_rfl) (by kernel_rfl) (fun _ _ _ h => h) (by rfl) hS (fun w2 hw2 => ?ry39) ?rr39
      case ry39 => ((try dsimp only at hw2); go_simp <;> with_reducible rfl)
      simp only [Act.put, List.setIfInBounds_toArray, List.set_cons_zero, List.set_cons_succ]
      refine rg_take 9 (v := ?rv40) rfl (by kernel_rfl) (by kernel_rfl) (by kernel_rfl) (fun _ _ _ h => h) (by rfl) hS (fun w2 hw2 => ?ry40) ?rr40
      case ry40 => ((try dsimp only at hw2); go_simp <;> with_reducible rfl)
      simp only [Act.put, List.setIfInBounds_toArray, List.set_cons_zero, List.set_cons_succ]
      refine rg_skip 10 rfl (by kernel_rfl) (by kernel_rfl) (by kernel_rfl) (fun _ _ _ h => h) (by rfl) hS ?_
      simp only [Act.put, List.setIfInBounds_toArray, List.set_cons_zero, List.set_cons_succ]
      refine rg_skip 11 rfl (by kernel_rfl) (by kernel_rfl) (by kernel_rfl) (fun _ _ _ h => h) (by rfl) hS ?_
      simp only [Act.put, List.setIfInBounds_toArray, List.set_cons_zero, List.set_cons_succ]
      refine rg_skip 12 rfl (by kernel_rfl) (by kernel_rfl) (by kernel_rfl) (fun _ _ _ h => h) (by rfl) hS ?_
      simp only [Act.put, List.setIfInBounds_toArray, List.set_cons_zero, List.set_cons_succ]
      refine rg_skip 13 rfl (by kernel_rfl) (by kernel_rfl) (by kernel_rfl) (fun _ _ _ h => h) (by rfl) hS ?_
      simp only [Act.put, List.setIfInBounds_toArray, List.set_cons_zero, List.set_cons_succ]
      refine rg_skip 14 rfl (by kernel_rfl) (by kernel_rfl) (by kernel_rfl) (fun _ _ _ h => h) (by rfl) hS ?_
      simp only [Act.put, List.setIfInBounds_toArray, List.set_cons_zero, List.set_cons_succ]
      refine rg_skip 15 rfl (by kernel_rfl) (by kernel_rfl) (by kernel_rfl) (fun _ _ _ h => h) (by rfl) hS ?_
      simp only [Act.put, List.setIfInBounds_toArray, List.set_cons_zero, List.set_cons_succ]
      refine rg_take 16 (v := ?rv41) rfl (by kernel_rfl) (by kernel_rfl) (by kernel_rfl) (fun _ _ _ h => h) (by rfl) hS (fun w2 hw2 => ?ry41) ?rr41
      case ry41 => ((try dsimp only at hw2); go_simp <;> with_reducible rfl)
      simp only [Act.put, List.setIfInBounds_toArray, List.set_cons_zero, List.set_cons_succ]
      refine rg_done (by kernel_rfl) ?_
      have H2 := Lib.hid (B1.out.trans (hS.mono B1.out.size))
      clear hS
      go_wp2_with fail
      go_ret
      exact ⟨rfl, H2.out⟩
end Go.Proofs.YtdbbgjbgmfeljaaGreatDoor

namespace Go.Proofs.YtdbbgjbgmfeljaaGreatDoor
open Go.RowKit
set_option maxRecDepth 100000

theorem inv_bits {v6 : Bool} {as_ ps : List UInt8} (ha : as_.length = 16) (hp : ps.length = 16) {n : Nat} (hn : n ≤ 128) (hr : rightv v6 as_ = true) (hrn : rightnetv v6 ps n = true) : inv v6 as_ v6 ps n = true ↔ ∀ i, i < n → bitv as_ i = bitv ps i := by
  have hfix : firstv ps n = ps := by
    unfold rightnetv at hrn
    simp only [Bool.and_eq_true] at hrn
    have := eq_of_beq hrn.2
    rw [Int.toNat_natCast] at this
    exact this.symm
  rw [← first_same_iff ha hp hn, hfix]
  unfold inv
  rw [hr, hrn, beq_self_eq_true, Int.toNat_natCast]
  simp

set_option maxHeartbeats 4000000 in
theorem refIn_any (av : Bool) (xs : List UInt8) (ha : xs.length = 16) (pv : Bool) (ps : List UInt8) (hp : ps.length = 16) (n : Int) (w : World) : Calls Tryz.prog 19 #[.agg (adv av xs), .agg (pxv pv ps n)] w fun e w' => e = .returned (.bool (inv av xs pv ps n)) ∧ Below w.heap.size w w' := by
  have A1 := Lib.hid ((AdBox.new w av ha).later ((Below.refl _ _).alloc (Nat.le_refl _) (.cells (pxv pv ps n) 26)) (Nat.le_refl _))
  have P1 := PxBox.new (w.alloc (.cells (adv av xs) 24)) pv n hp
  rw [World.size_alloc] at P1
  have P1 := Lib.hid P1
  have B1 := Lib.hid (((Below.refl w.heap.size w).alloc (Nat.le_refl _) (.cells (adv av xs) 24)).alloc (by simp) (.cells (pxv pv ps n) 26))
  cases hr : rightv av xs with
  | false =>
    have hres : inv av xs pv ps n = false := by unfold inv; rw [hr]; rfl
    rw [hres]
    clear hres
    go_enter Tryz.func19, Tryz.ntmps19
    go_wp2_with (refine wpList_load_ad rfl (.tmp 2) rfl rfl A1.out ?_)
    refine (refRight_any av xs ha _).mono ?_
    rw [hr]
    rintro e w1 ⟨rfl, b1⟩
    have H1 := Lib.hid (B1.out.trans (b1.mono B1.out.size))
    clear b1
    go_wp2_with fail
    go_ret
    exact ⟨rfl, H1.out⟩
  | true =>
    cases hrn : rightnetv pv ps n with
    | false =>
      have hres : inv av xs pv ps n = false := by unfold inv; rw [hr, hrn]; rfl
      rw [hres]
      clear hres
      go_enter Tryz.func19, Tryz.ntmps19
      go_wp2_with (refine wpList_load_ad rfl (.tmp 2) rfl rfl A1.out ?_)
      refine (refRight_any av xs ha _).mono ?_
      rw [hr]
      rintro e w1 ⟨rfl, b1⟩
      have H1 := Lib.hid (And.intro (P1.out.later b1 (Nat.le_refl _)) (B1.out.trans (b1.mono B1.out.size)))
      clear b1
      go_wp2_with (refine wpList_load_row_w (by rfl) 26 (.tmp 3) rfl (w.heap.size + 1) 0 rfl (pxv pv ps n) _ H1.out.1.range Tryz.underlying26 rfl (px_size pv n hp) ?_)
      refine (refRightNet_any pv ps hp n _).mono ?_
      rw [hrn]
      rintro e w2 ⟨rfl, b2⟩
      have H2 := Lib.hid (H1.out.2.trans (b2.mono H1.out.2.size))
      clear b2
      go_wp2_with fail
      go_ret
      exact ⟨rfl, H2.out⟩
    | true =>
      obtain ⟨m, rfl, hm⟩ := rightnetv_bits hrn
      by_cases hv : av = pv
      · subst hv
        have HBI := Lib.hid (inv_bits ha hp hm hr hrn)
        go_enter Tryz.func19, Tryz.ntmps19
        go_wp2_with (refine wpList_load_ad rfl (.tmp 2) rfl rfl A1.out ?_)
        refine (refRight_any av xs ha _).mono ?_
        rw [hr]
        rintro e w1 ⟨rfl, b1⟩
        have H1 := Lib.hid (And.intro (A1.out.later b1 (Nat.le_refl _)) (And.intro (P1.out.later b1 (Nat.le_refl _)) (B1.out.trans (b1.mono B1.out.size))))
        clear b1
        go_wp2_with (refine wpList_load_row_w (by rfl) 26 (.tmp 3) rfl (w.heap.size + 1) 0 rfl (pxv av ps m) _ H1.out.2.1.range Tryz.underlying26 rfl (px_size av m hp) ?_)
        refine (refRightNet_any av ps hp m _).mono ?_
        rw [hrn]
        rintro e w2 ⟨rfl, b2⟩
        have H2 := Lib.hid (And.intro (H1.out.1.later b2 (Nat.le_refl _)) (And.intro (H1.out.2.1.later b2 (Nat.le_refl _)) (H1.out.2.2.trans (b2.mono H1.out.2.2.size))))
        have c0 := H2.out.1.v6_cell
        have c1 := H2.out.2.1.v6_cell
        clear b2
        go_wp2_with fail
        clear c0 c1
        go_loopw [5] (fun i wr => ∃ j : Nat, j ≤ m ∧ i = .int .i64 j ∧ AdBox wr w.heap.size av xs ∧ PxBox wr (w.heap.size + 1) av ps m ∧ Below w.heap.size w wr ∧ ∀ k, k < j → bitv xs k = bitv ps k) (fun i _ => m - (intOf i).toNat)
        case atStart => exact ⟨0, Nat.zero_le _, rfl, H2.out.1, H2.out.2.1, H2.out.2.2, fun k h => absurd h (Nat.not_lt_zero k)⟩
        case round =>
          obtain ⟨j, hj, rfl, hba, hbp, hb, hz⟩ := hrel
          have HJ := Lib.hid (And.intro hba (And.intro hbp (And.intro hb hz)))
          have cN := hbp.bits_cell
          clear hba hbp hb hz
          by_cases hlt : j < m
          · have hlt' : (j : Int) < (m : Int) := by omega
            go_wp2_with fail
            clear cN
            have hS : Below wr.heap.size wr wr.drew := (Below.refl _ _).drew
            refine rg_begin (fun w' => Below wr.heap.size wr w') 8 (by kernel_rfl) rfl ?_
            refine rg_load 0 rfl (by kernel_rfl) (by kernel_rfl) (by kernel_rfl) (w.heap.size) 0 (adv av xs) (fun _ _ _ h => h) (by rfl) 24 (.tmp 2) rfl rfl hS (fun w2 h2 => (AdBox.later HJ.out.1 h2 (Nat.le_refl _)).range) Tryz.underlying24 rfl (ad_size av HJ.out.1.2) ?_
            simp only [Act.put, List.setIfInBounds_toArray, List.set_cons_zero, List.set_cons_succ]
            refine rg_take 1 (v := ?rv1) rfl (by kernel_rfl) (by kernel_rfl) (by kernel_rfl) (fun _ _ _ h => h) (by rfl) hS (fun w2 hw2 => ?ry1) ?rr1
            case ry1 => ((try dsimp only at hw2); go_simp <;> with_reducible rfl)
            simp only [Act.put, List.setIfInBounds_toArray, List.set_cons_zero, List.set_cons_succ]
            refine rg_take 3 (v := ?rv2) rfl (by kernel_rfl) (by kernel_rfl) (by kernel_rfl) (fun _ _ _ h => h) (by rfl) hS (fun w2 hw2 => ?ry2) ?rr2
            case ry2 => ((try dsimp only at hw2); go_simp <;> with_reducible rfl)
            simp only [Act.put, List.setIfInBounds_toArray, List.set_cons_zero, List.set_cons_succ]
            refine rg_take 5 (v := ?rv3) rfl (by kernel_rfl) (by kernel_rfl) (by kernel_rfl) (fun _ _ _ h => h) (by rfl) hS (fun w2 hw2 => ?ry3) ?rr3
            case ry3 => ((try dsimp only at hw2); go_simp <;> with_reducible rfl)
            simp only [Act.put, List.setIfInBounds_toArray, List.set_cons_zero, List.set_cons_succ]
            refine rg_load 4 rfl (by kernel_rfl) (by kernel_rfl) (by kernel_rfl) (w.heap.size + 1) (0) ((adv av ps)) (fun _ _ _ h => h) (by rfl) 24 (.tmp 31) rfl rfl hS (fun w2 h2 => (HJ.out.2.1.later h2 (Nat.le_refl _)).range0) Tryz.underlying24 rfl (ad_size av hp) ?_
            simp only [Act.put, List.setIfInBounds_toArray, List.set_cons_zero, List.set_cons_succ]
            refine rg_step 2 rfl (by kernel_rfl) (by rfl) (fun K hK => ?_)
            go_simp
            refine (bit_any av xs ha j (by omega) _).mono ?_
            rintro e w3 ⟨rfl, b3⟩
            replace hS := hS.trans (b3.mono hS.size)
            clear b3
            refine hK.out _ _ hS ?_
            clear hK K
            try simp only [Act.put, List.setIfInBounds_toArray, List.set_cons_zero, List.set_cons_succ]
            refine rg_step 6 rfl (by kernel_rfl) (by rfl) (fun K hK => ?_)
            go_simp
            refine (bit_any av ps hp j (by omega) _).mono ?_
            rintro e w4 ⟨rfl, b4⟩
            replace hS := hS.trans (b4.mono hS.size)
            clear b4
            refine hK.out _ _ hS ?_
            clear hK K
            try simp only [Act.put, List.setIfInBounds_toArray, List.set_cons_zero, List.set_cons_succ]
            refine rg_take 7 (v := ?rv4) rfl (by kernel_rfl) (by kernel_rfl) (by kernel_rfl) (fun _ _ _ h => h) (by rfl) hS (fun w2 hw2 => ?ry4) ?rr4
            case ry4 => ((try dsimp only at hw2); go_simp <;> with_reducible rfl)
            simp only [Act.put, List.setIfInBounds_toArray, List.set_cons_zero, List.set_cons_succ]
            refine rg_done (by kernel_rfl) ?_
            have H3 := Lib.hid (And.intro (HJ.out.1.later hS (Nat.le_refl _)) (And.intro (HJ.out.2.1.later hS (Nat.le_refl _)) (HJ.out.2.2.1.trans (hS.mono HJ.out.2.2.1.size))))
            clear hS
            by_cases hbz : bitv xs j = bitv ps j
            · rw [hbz]
              have HBZ := Lib.hid hbz
              clear hbz
              go_wp2_with fail
              go_roundw
              case rel =>
                refine ⟨j + 1, by omega, by go_num, H3.out.1, H3.out.2.1, H3.out.2.2, fun k h2 => ?_⟩
                by_cases hk : k = j
                · rw [hk]; exact HBZ.out
                · exact HJ.out.2.2.2 k (by omega)
              case measure => simp [intOf]; omega
            · have hres : inv av xs av ps m = false := by
                cases hc : inv av xs av ps m with
                | false => rfl
                | true => exact absurd (HBI.out.1 hc j hlt) hbz
              have HRES := Lib.hid hres
              clear hres
              have hbz1 : ((bitv xs j : Int) == (bitv ps j : Int)) = false := by simp; omega
              have hbz2 : ((bitv xs j : Int) != (bitv ps j : Int)) = true := by simp; omega
              go_wp2_with fail
              go_ret
              exact ⟨by rw [HRES.out]; rfl, H3.out.2.2⟩
          · obtain rfl : j = m := by omega
            have HRES := Lib.hid (HBI.out.2 (fun i h => HJ.out.2.2.2 i h))
            go_wp2_with fail
            go_ret
            exact ⟨by rw [HRES.out]; rfl, HJ.out.2.2.1⟩
      · have hres : inv av xs pv ps m = false := by unfold inv; rw [show (av == pv) = false by simp [hv], Bool.and_false, Bool.false_and]
        have hpv : pv = !av := by cases av <;> cases pv <;> simp_all
        rw [hres]
        subst hpv
        clear hres hv
        go_enter Tryz.func19, Tryz.ntmps19
        go_wp2_with (refine wpList_load_ad rfl (.tmp 2) rfl rfl A1.out ?_)
        refine (refRight_any av xs ha _).mono ?_
        rw [hr]
        rintro e w1 ⟨rfl, b1⟩
        have H1 := Lib.hid (And.intro (A1.out.later b1 (Nat.le_refl _)) (And.intro (P1.out.later b1 (Nat.le_refl _)) (B1.out.trans (b1.mono B1.out.size))))
        clear b1
        go_wp2_with (refine wpList_load_row_w (by rfl) 26 (.tmp 3) rfl (w.heap.size + 1) 0 rfl (pxv (!av) ps m) _ H1.out.2.1.range Tryz.underlying26 rfl (px_size (!av) m hp) ?_)
        refine (refRightNet_any (!av) ps hp m _).mono ?_
        rw [hrn]
        rintro e w2 ⟨rfl, b2⟩
        have H2 := Lib.hid (And.intro (H1.out.1.later b2 (Nat.le_refl _)) (And.intro (H1.out.2.1.later b2 (Nat.le_refl _)) (H1.out.2.2.trans (b2.mono H1.out.2.2.size))))
        have c0 := H2.out.1.v6_cell
        have c1 := H2.out.2.1.v6_cell
        clear b2
        cases av
        all_goals
          go_wp2_with fail
          go_ret
          exact ⟨rfl, H2.out.2.2⟩
end Go.Proofs.YtdbbgjbgmfeljaaGreatDoor
