/-
  Package addr's TextNet. Conditions: what the program's text has laid (Env).
-/
import Derived.Test.YtjegeiaabkheiaaGreatDoorTxF
import Derived.Test.YtjegeiaabkheiaaGreatDoorPxL
namespace Go.Proofs.YtjegeiaabkheiaaGreatDoor
open Go.RowKit
set_option maxRecDepth 100000

theorem hex4_len (v : Nat) : (hex4 v).length ≤ 4 := by
  unfold hex4
  split
  · simp
  · split
    · simp
    · split <;> simp
theorem dec3_len (v : Nat) : (dec3 v).length ≤ 3 := by
  unfold dec3
  split
  · simp
  · split <;> simp
theorem textv_len (v6 : Bool) (bs : List UInt8) : (textv v6 bs).length ≤ 10000 := by
  rw [textv_f]
  have hw : (w6 bs).length = 8 := by simp [w6]
  have h6 : ∀ x ∈ w6 bs, x.length ≤ 100 := fun x hx => by
    unfold w6 at hx
    obtain ⟨i, _, rfl⟩ := List.mem_map.1 hx
    have := hex4_len (grp bs i)
    omega
  unfold textf
  split
  · split
    · unfold text6f
      split
      · have := join_len (sep := [58]) (by simp) (w6 bs) h6
        omega
      · have h1 := join_len (sep := [58]) (by simp) ((w6 bs).take (longestv (z6 bs)).1) (fun x hx => h6 x (List.mem_of_mem_take hx))
        have h2 := join_len (sep := [58]) (by simp) ((w6 bs).drop (longestv (z6 bs)).2) (fun x hx => h6 x (List.mem_of_mem_drop hx))
        have h3 : ((w6 bs).take (longestv (z6 bs)).1).length ≤ 8 := by rw [List.length_take, hw]; omega
        have h4 : ((w6 bs).drop (longestv (z6 bs)).2).length ≤ 8 := by rw [List.length_drop, hw]; omega
        rw [List.length_append, List.length_append]
        simp only [List.length_cons, List.length_nil]
        omega
    · have h1 := join_len (sep := [46]) (by simp) ((bs.take 4).map fun b => dec3 b.toNat) (fun x hx => by
        obtain ⟨i, _, rfl⟩ := List.mem_map.1 hx
        have := dec3_len i.toNat
        omega)
      have h2 : ((bs.take 4).map fun b => dec3 b.toNat).length ≤ 4 := by rw [List.length_map, List.length_take]; omega
      omega
  · simp
/-- A net as text. -/
def textnetv (v6 : Bool) (bs : List UInt8) (n : Int) : List UInt8 := if rightnetv v6 bs n then textv v6 bs ++ [47] ++ Lib.decDigits n.toNat else []

set_option maxHeartbeats 1000000 in
theorem TextNet_any (v6 : Bool) (bs : List UInt8) (hl : bs.length = 16) (n : Int) {w : World} (hE : Env w) : Calls Tryz.prog 19 #[.agg (pxv v6 bs n)] w fun e w' => e = .returned (.string (mkS (textnetv v6 bs n))) ∧ Below w.heap.size w w' := by
  have HE := Lib.hid hE
  have P1 := Lib.hid (PxBox.new w v6 n hl)
  have B1 := Lib.hid ((Below.refl w.heap.size w).alloc (Nat.le_refl _) (.cells (pxv v6 bs n) 26))
  clear hE
  have hR := RightNet_any v6 bs hl n
  cases hr : rightnetv v6 bs n with
  | false =>
    have hres : mkS (textnetv v6 bs n) = ⟨#[]⟩ := by unfold textnetv; rw [hr]; rfl
    rw [hres]
    rw [hr] at hR
    have HR := Lib.hid hR
    clear hres hR hr
    go_enter Tryz.func19, Tryz.ntmps19
    go_wp2_with (refine wpList_load_px rfl (.tmp 1) rfl rfl P1.out ?_)
    refine (HR.out _).mono ?_
    rintro e w1 ⟨rfl, b1⟩
    have H2 := Lib.hid (B1.out.trans (b1.mono B1.out.size))
    clear b1
    go_wp2_with fail
    go_ret
    exact ⟨rfl, H2.out⟩
  | true =>
    have hres : textnetv v6 bs n = textv v6 bs ++ [47] ++ Lib.decDigits n.toNat := by unfold textnetv; rw [hr]; rfl
    have hn : 0 ≤ n ∧ n ≤ 128 := by
      unfold rightnetv at hr
      simp only [Bool.and_eq_true, decide_eq_true_eq] at hr
      have := wid_le v6
      omega
    obtain ⟨k, rfl⟩ : ∃ k : Nat, n = k := ⟨n.toNat, by omega⟩
    have ht := textv_len v6 bs
    have hd := dec3_len k
    rw [← dec3_eq (n := k) (by omega)] at hd
    rw [hr] at hR
    have HR := Lib.hid hR
    obtain ⟨J, hJ⟩ : ∃ J, mkS (textv v6 bs) = J := ⟨_, rfl⟩
    obtain ⟨D, hD⟩ : ∃ D, mkS (Lib.decDigits k) = D := ⟨_, rfl⟩
    have hJd : J.data.toList = textv v6 bs := by rw [← hJ, mkS_data]
    have hDd : D.data.toList = Lib.decDigits k := by rw [← hD, mkS_data]
    have hJs : J.size ≤ 10000 := by rw [Lib.size_eq, hJd]; exact ht
    have hDs : D.size ≤ 3 := by rw [Lib.size_eq, hDd]; exact hd
    have hfin : mkS (textnetv v6 bs k) = J ++ ⟨#[47]⟩ ++ D := bytes_inj' (by
      rw [mkS_data, hres, ByteArray.data_append, ByteArray.data_append, Array.toList_append, Array.toList_append, hJd, hDd, Int.toNat_natCast])
    have HF := Lib.hid hfin
    have KT : ∀ w1, Below w.heap.size w w1 → Hid (Calls Tryz.prog 15 #[.agg (adv v6 bs)] w1 fun e w' => e = .returned (.string J) ∧ Below w1.heap.size w1 w') := fun w1 hb => by
      have := Text_any v6 bs hl (HE.out.later hb (Nat.le_refl _))
      rw [hJ] at this
      exact this
    have KI : ∀ w1, Below w.heap.size w w1 → Hid (Calls Tryz.prog 45 #[.int .i64 k] w1 fun e w' => e = .returned (.string D) ∧ Below w1.heap.size w1 w') := fun w1 hb => by
      have := itoa_any k (by omega) (HE.out.later hb (Nat.le_refl _))
      rw [hD] at this
      exact this
    have HK := Lib.hid (And.intro KT KI)
    have n1 : (9223372036854775807 < J.size + 1) = False := eq_false (by omega)
    have n2 : (9223372036854775807 < J.size + 1 + D.size) = False := eq_false (by omega)
    clear hres hn ht hd hr hR hJ hD hJd hDd hJs hDs hfin KT KI
    rw [HF.out]
    go_enter Tryz.func19, Tryz.ntmps19
    go_wp2_with (refine wpList_load_px rfl (.tmp 1) rfl rfl P1.out ?_)
    refine (HR.out _).mono ?_
    rintro e w1 ⟨rfl, b1⟩
    have H2 := Lib.hid (And.intro (P1.out.later b1 (Nat.le_refl _)) (B1.out.trans (b1.mono B1.out.size)))
    clear b1
    go_wp2_with fail
    have hcB : ∀ w', Below w1.heap.size w1 w' → w'.cell? ⟨w.heap.size, 17, none⟩ = some (.int .i64 k) := fun w' h => (H2.out.1.later h (Nat.le_refl _)).bits_cell
    have hS : Below w1.heap.size w1 w1.drew := (Below.refl _ _).drew
    have hB : Below w.heap.size w w1.drew := H2.out.2.drew
    refine rg_begin (fun w' => Below w1.heap.size w1 w') 9 (by kernel_rfl) rfl ?_
    refine rg_take 0 (v := ?rv1) rfl (by kernel_rfl) (by kernel_rfl) (by kernel_rfl) (fun _ _ _ h => h) (by rfl) hS (fun w2 hw2 => ?ry1) ?rr1
    case ry1 => ((try dsimp only at hw2); go_simp <;> with_reducible rfl)
    simp only [Act.put, List.setIfInBounds_toArray, List.set_cons_zero, List.set_cons_succ]
    refine rg_take 4 (v := ?rv2) rfl (by kernel_rfl) (by kernel_rfl) (by kernel_rfl) (fun _ _ _ h => h) (by rfl) hS (fun w2 hw2 => ?ry2) ?rr2
    case ry2 => ((try dsimp only at hw2); go_simp <;> with_reducible rfl)
    simp only [Act.put, List.setIfInBounds_toArray, List.set_cons_zero, List.set_cons_succ]
    refine rg_load 1 rfl (by kernel_rfl) (by kernel_rfl) (by kernel_rfl) (w.heap.size) (0) ((adv v6 bs)) (fun _ _ _ h => h) (by rfl) 24 (.tmp 6) rfl rfl hS (fun w2 h2 => (H2.out.1.later h2 (Nat.le_refl _)).range0) Tryz.underlying24 rfl (ad_size v6 hl) ?_
    simp only [Act.put, List.setIfInBounds_toArray, List.set_cons_zero, List.set_cons_succ]
    refine rg_take 5 (v := ?rv3) rfl (by kernel_rfl) (by kernel_rfl) (by kernel_rfl) (fun _ _ _ h => h) (by rfl) hS (fun w2 hw2 => ?ry3) ?rr3
    case ry3 => ((try dsimp only at hw2); go_simp <;> with_reducible rfl)
    simp only [Act.put, List.setIfInBounds_toArray, List.set_cons_zero, List.set_cons_succ]
    refine rg_step 2 rfl (by kernel_rfl) (by rfl) (fun K hK => ?_)
    go_simp
    refine (HK.out.1 _ hB).out.mono ?_
    rintro e w2 ⟨rfl, b2⟩
    replace hS := hS.trans (b2.mono hS.size)
    replace hB := hB.trans (b2.mono hB.size)
    clear b2
    refine hK.out _ _ hS ?_
    clear hK K
    try simp only [Act.put, List.setIfInBounds_toArray, List.set_cons_zero, List.set_cons_succ]
    refine rg_take 3 (v := ?rv4) rfl (by kernel_rfl) (by kernel_rfl) (by kernel_rfl) (fun _ _ _ h => h) (by rfl) hS (fun w2 hw2 => ?ry4) ?rr4
    case ry4 => ((try dsimp only at hw2); go_simp <;> with_reducible rfl)
    simp only [Act.put, List.setIfInBounds_toArray, List.set_cons_zero, List.set_cons_succ]
    refine rg_step 6 rfl (by kernel_rfl) (by rfl) (fun K hK => ?_)
    go_simp
    refine (HK.out.2 _ hB).out.mono ?_
    rintro e w3 ⟨rfl, b3⟩
    replace hS := hS.trans (b3.mono hS.size)
    replace hB := hB.trans (b3.mono hB.size)
    clear b3
    refine hK.out _ _ hS ?_
    clear hK K
    try simp only [Act.put, List.setIfInBounds_toArray, List.set_cons_zero, List.set_cons_succ]
    refine rg_take 7 (v := ?rv5) rfl (by kernel_rfl) (by kernel_rfl) (by kernel_rfl) (fun _ _ _ h => h) (by rfl) hS (fun w2 hw2 => ?ry5) ?rr5
    case ry5 => ((try dsimp only at hw2); go_simp <;> with_reducible rfl)
    simp only [Act.put, List.setIfInBounds_toArray, List.set_cons_zero, List.set_cons_succ]
    refine rg_take 8 (v := ?rv6) rfl (by kernel_rfl) (by kernel_rfl) (by kernel_rfl) (fun _ _ _ h => h) (by rfl) hS (fun w2 hw2 => ?ry6) ?rr6
    case ry6 => ((try dsimp only at hw2); go_simp <;> with_reducible rfl)
    simp only [Act.put, List.setIfInBounds_toArray, List.set_cons_zero, List.set_cons_succ]
    refine rg_done (by kernel_rfl) ?_
    have H3 := Lib.hid hB
    clear hS hB hcB
    go_wp2_with fail
    go_ret
    exact ⟨rfl, H3.out⟩
end Go.Proofs.YtjegeiaabkheiaaGreatDoor
