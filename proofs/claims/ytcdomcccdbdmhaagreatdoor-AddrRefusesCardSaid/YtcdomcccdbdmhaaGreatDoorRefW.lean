/-
  stockadelaw04.AddrRefuses answers true. Conditions: what the program's text has laid (Env, Handle).
-/
import Derived.Test.YtcdomcccdbdmhaaGreatDoorRefT
import Derived.Deep.Cut
namespace Go.Proofs.YtcdomcccdbdmhaaGreatDoor
open Go.RowKit
set_option maxRecDepth 100000

set_option maxHeartbeats 4000000 in
theorem addrRefuses (n : Int) {w : World} (hE : Env w) (hg : Handle w) : Calls Tryz.prog 6 #[.int .i64 n] w fun e w' => e = .returned (.bool true) ∧ Below w.heap.size w w' := by
  have HE := Lib.hid (And.intro hE hg)
  clear hE hg
  obtain ⟨q1, q2⟩ := num_mod4 n 15 (by omega) (by omega)
  go_enter Tryz.func6, Tryz.ntmps6
  go_upto_region 5 with (fail)
  obtain ⟨k, hk⟩ : ∃ k : Nat, wrap64 ((IntKind.u64.wrap n).tmod 15) = (k : Int) := ⟨_, (Int.toNat_of_nonneg q1).symm⟩
  rw [hk] at q1 q2 ⊢
  clear hk
  refine three_rows (sv (bsv noAd)) (sv (bsv yesAd)) (sv (bsv noNet)) (by kernel_rfl) (by kernel_rfl) (by kernel_rfl) ?_
  intro W r0 r1 r2 b0
  obtain ⟨l, hl⟩ : ∃ l, noAd[k]? = some l := ⟨_, List.getElem?_eq_getElem (by show k < 15; omega)⟩
  obtain ⟨m, hm⟩ : ∃ m, yesAd[k]? = some m := ⟨_, List.getElem?_eq_getElem (by show k < 15; omega)⟩
  obtain ⟨z, hz⟩ : ∃ z, noNet[k % 10]? = some z := ⟨_, List.getElem?_eq_getElem (by show k % 10 < 10; omega)⟩
  have c0 := r0.cell (bsv_at hl)
  have KL := Parse_any (mkS l) (by rw [mkS_size]; have := noAd_len l (List.mem_of_getElem? hl); omega) (HE.out.1.later b0 (Nat.le_refl _))
  rw [mkS_data, noAd_all l (List.mem_of_getElem? hl)] at KL
  have HKL := Lib.hid KL
  have HR := Lib.hid (And.intro r1 (And.intro r2 (And.intro b0 (And.intro hm hz))))
  clear r0 r1 r2 b0 KL hl hm hz
  go_wp2_with fail
  refine HKL.out.mono ?_
  rintro e w1 ⟨b1, rfl⟩
  have H1 := Lib.hid (And.intro (HR.out.1.later b1 (Nat.le_refl _)) (And.intro (HR.out.2.1.later b1 (Nat.le_refl _)) (HR.out.2.2.1.trans (b1.mono HR.out.2.2.1.size))))
  clear b1 c0
  go_wp2_with (first
    | (refine wpList_alloc_ad rfl rfl ?_; intro w2 a2 b2 z2; have H2 := Lib.hid (And.intro a2 b2); clear a2 b2 z2)
    | (refine wpList_store_ad rfl (.tmp 7) (.tmp 29) rfl false (List.replicate 16 0) rfl rfl rfl H2.out.1 ?_; intro w3 a3 o3 z3 b3; have B3 := b3 _ _ (Nat.le_refl _) H2.out.2; have H3 := Lib.hid (And.intro (H1.out.1.later B3 (Nat.le_refl _)) (And.intro (H1.out.2.1.later B3 (Nat.le_refl _)) (H1.out.2.2.trans (B3.mono H1.out.2.2.size)))); have c1 := H3.out.1.cell (bsv_at HR.out.2.2.2.1); clear a3 o3 z3 b3 B3))
  have hmm := List.mem_of_getElem? HR.out.2.2.2.1
  have hok := yesAd_ok m hmm
  have htx := yesAd_txt m hmm
  have KM := Parse_any (mkS m) (by rw [mkS_size]; have := yesAd_len m hmm; omega) (HE.out.1.later H3.out.2.2 (Nat.le_refl _))
  rw [mkS_data] at KM
  unfold yesOk at hok
  unfold txtLen at htx
  cases hp : parsev m with
  | none => rw [hp] at hok; exact absurd hok (by simp)
  | some x =>
  obtain ⟨v6, bs⟩ := x
  rw [hp] at hok htx KM
  simp only [Bool.and_eq_true, decide_eq_true_eq] at htx
  obtain ⟨ht100, hbs⟩ := htx
  simp only [beq_iff_eq] at hok
  rw [← textv_f] at hok ht100
  have HKM := Lib.hid KM
  have HOK := Lib.hid hok
  clear KM hok hp hmm
  refine HKM.out.mono ?_
  rintro e w4 ⟨b4, _, rfl⟩
  have H4 := Lib.hid (And.intro (H3.out.2.1.later b4 (Nat.le_refl _)) (H3.out.2.2.trans (b4.mono H3.out.2.2.size)))
  clear b4 c1
  go_wp2_with (first
    | (refine wpList_alloc_ad rfl rfl ?_; intro w5 a5 b5 z5; have H5 := Lib.hid (And.intro a5 b5); clear a5 b5 z5)
    | (refine wpList_store_ad rfl (.tmp 9) (.tmp 37) rfl v6 bs rfl rfl hbs H5.out.1 ?_; intro w6 a6 o6 z6 b6; have B6 := b6 _ _ (Nat.le_refl _) H5.out.2; have H6 := Lib.hid (And.intro a6 (And.intro (H4.out.1.later B6 (Nat.le_refl _)) (H4.out.2.trans (B6.mono H4.out.2.size)))); have c2 := H6.out.2.1.cell (bsv_at HR.out.2.2.2.2); clear a6 o6 z6 b6 B6))
  have KZ := ParseNet_any (mkS z) (by rw [mkS_size]; have := noNet_len z (List.mem_of_getElem? HR.out.2.2.2.2); omega) (HE.out.1.later H6.out.2.2 (Nat.le_refl _))
  rw [mkS_data, noNet_all z (List.mem_of_getElem? HR.out.2.2.2.2)] at KZ
  have HKZ := Lib.hid KZ
  clear KZ
  refine HKZ.out.mono ?_
  rintro e w7 ⟨b7, rfl⟩
  have H7 := Lib.hid (And.intro (H6.out.1.later b7 (Nat.le_refl _)) (H6.out.2.2.trans (b7.mono H6.out.2.2.size)))
  clear b7 c2
  go_wp2_with (first
    | (refine wpList_alloc_px rfl rfl ?_; intro w8 a8 b8 z8; have H8 := Lib.hid (And.intro a8 b8); clear a8 b8 z8)
    | (refine wpList_store_px rfl (.tmp 11) (.tmp 46) rfl false (List.replicate 16 0) 0 rfl rfl rfl H8.out.1 ?_; intro w9 a9 o9 z9 b9; have B9 := b9 _ _ (Nat.le_refl _) H8.out.2; have H9 := Lib.hid (And.intro (H7.out.1.later B9 (Nat.le_refl _)) (H7.out.2.trans (B9.mono H7.out.2.size))); clear a9 o9 z9 b9 B9)
    | (refine wpList_load_ad rfl (.tmp 9) rfl rfl H9.out.1 ?_))
  have KT := Text_any v6 bs hbs (HE.out.1.later H9.out.2 (Nat.le_refl _))
  obtain ⟨J, hJ⟩ : ∃ J, mkS (textv v6 bs) = J := ⟨_, rfl⟩
  have hJd : J.data.toList = textv v6 bs := by rw [← hJ, mkS_data]
  have hJs : J.size ≤ 100 := by rw [← hJ, mkS_size]; exact ht100
  rw [hJ] at KT
  have HKT := Lib.hid KT
  have HJD := Lib.hid hJd
  clear KT hJ hJd ht100
  refine HKT.out.mono ?_
  rintro e w10 ⟨rfl, b10⟩
  have H10 := Lib.hid (And.intro (H9.out.1.later b10 (Nat.le_refl _)) (H9.out.2.trans (b10.mono H9.out.2.size)))
  clear b10
  have nJ : (9223372036854775807 < J.size + 2) = False := eq_false (by omega)
  have KN := ParseNet_any (J ++ ⟨#[47, 48]⟩) (by rw [ByteArray.size_append]; show J.size + 2 < _; omega) (HE.out.1.later H10.out.2 (Nat.le_refl _))
  rw [ByteArray.data_append, Array.toList_append, HJD.out, show (ByteArray.mk #[47, 48]).data.toList = [47, 48] from rfl, HOK.out] at KN
  have HKN := Lib.hid KN
  clear KN
  have heq := eql_ad v6 v6 hbs (b := List.replicate 16 0) rfl
  have hadz : adv v6 (List.replicate 16 0) = #[Value.bool v6, Value.int IntKind.u8 0, Value.int IntKind.u8 0, Value.int IntKind.u8 0, Value.int IntKind.u8 0, Value.int IntKind.u8 0, Value.int IntKind.u8 0, Value.int IntKind.u8 0, Value.int IntKind.u8 0, Value.int IntKind.u8 0, Value.int IntKind.u8 0, Value.int IntKind.u8 0, Value.int IntKind.u8 0, Value.int IntKind.u8 0, Value.int IntKind.u8 0, Value.int IntKind.u8 0, Value.int IntKind.u8 0] := rfl
  rw [hadz] at heq
  clear hadz
  by_cases hzz : bs = List.replicate 16 0
  · rw [if_pos hzz] at HKN
    have heq' : ∀ w, (binOp .eql 24 (.agg (adv v6 bs)) (.agg #[Value.bool v6, Value.int IntKind.u8 0, Value.int IntKind.u8 0, Value.int IntKind.u8 0, Value.int IntKind.u8 0, Value.int IntKind.u8 0, Value.int IntKind.u8 0, Value.int IntKind.u8 0, Value.int IntKind.u8 0, Value.int IntKind.u8 0, Value.int IntKind.u8 0, Value.int IntKind.u8 0, Value.int IntKind.u8 0, Value.int IntKind.u8 0, Value.int IntKind.u8 0, Value.int IntKind.u8 0, Value.int IntKind.u8 0])).run Tryz.prog w = .ok (.bool true) w := fun w => by
      rw [heq w, show ((v6 == v6) && (bs == List.replicate 16 0)) = true by rw [hzz]; simp]
    clear hzz
    clear heq
    go_wp2_with fail
    refine HKN.out.mono ?_
    rintro e w11 ⟨b11, _, rfl⟩
    have H11 := Lib.hid (And.intro (H10.out.1.later b11 (Nat.le_refl _)) (H10.out.2.trans (b11.mono H10.out.2.size)))
    clear b11
    go_wp2_with (first
      | (refine wpList_alloc_px rfl rfl ?_; intro w12 a12 b12 z12; have H12 := Lib.hid (And.intro a12 b12); clear a12 b12 z12)
      | (refine wpList_store_px rfl (.tmp 13) (.tmp 53) rfl v6 bs 0 rfl rfl hbs H12.out.1 ?_; intro w13 a13 o13 z13 b13; have B13 := b13 _ _ (Nat.le_refl _) H12.out.2; have H13 := Lib.hid (And.intro (H11.out.1.later B13 (Nat.le_refl _)) (And.intro (H11.out.2.trans (B13.mono H11.out.2.size)) a13)); have c9 := H13.out.1.v6_cell; clear a13 o13 z13 b13 B13)
      | (refine wpList_load_ad rfl (.tmp 9) rfl rfl H13.out.1 ?_))
    refine (awake04 (HE.out.1.later H13.out.2.1 (Nat.le_refl _))).mono ?_
    rintro e w14 ⟨rfl, b14⟩
    have H14 := Lib.hid (And.intro (H13.out.2.1.trans (b14.mono H13.out.2.1.size)) (H13.out.2.2.later b14 (Nat.le_refl _)))
    clear b14 c9 heq'
    go_wp2_with fail
    refine (help_bare 17 _).mono ?_
    rintro e w15 ⟨rfl, b15⟩
    have H15 := Lib.hid (And.intro (H14.out.1.trans (b15.mono H14.out.1.size)) (H14.out.2.later b15 (Nat.le_refl _)))
    clear b15
    go_wp2_with fail
    refine (is_told3 (Tells.bare w15 17 (by decide) 0) (HE.out.2.later H15.out.1 (Nat.le_refl _))).mono ?_
    rintro e w16 ⟨rfl, b16⟩
    have H16 := Lib.hid (And.intro (H15.out.1.trans (b16.mono H15.out.1.size)) (H15.out.2.later b16 (Nat.le_refl _)))
    clear b16
    go_wp2_with fail
    refine (help_bare 17 _).mono ?_
    rintro e w17 ⟨rfl, b17⟩
    have H17 := Lib.hid (And.intro (H16.out.1.trans (b17.mono H16.out.1.size)) (H16.out.2.later b17 (Nat.le_refl _)))
    clear b17
    go_wp2_with fail
    refine (is_told3 (Tells.bare w17 17 (by decide) 0) (HE.out.2.later H17.out.1 (Nat.le_refl _))).mono ?_
    rintro e w18 ⟨rfl, b18⟩
    have H18 := Lib.hid (And.intro (H17.out.1.trans (b18.mono H17.out.1.size)) (H17.out.2.later b18 (Nat.le_refl _)))
    have c18 := H18.out.2.bits_cell
    clear b18
    go_wp2_with fail
    go_ret
    exact ⟨rfl, H18.out.1⟩
  · rw [if_neg hzz] at HKN
    have heq' : ∀ w, (binOp .eql 24 (.agg (adv v6 bs)) (.agg #[Value.bool v6, Value.int IntKind.u8 0, Value.int IntKind.u8 0, Value.int IntKind.u8 0, Value.int IntKind.u8 0, Value.int IntKind.u8 0, Value.int IntKind.u8 0, Value.int IntKind.u8 0, Value.int IntKind.u8 0, Value.int IntKind.u8 0, Value.int IntKind.u8 0, Value.int IntKind.u8 0, Value.int IntKind.u8 0, Value.int IntKind.u8 0, Value.int IntKind.u8 0, Value.int IntKind.u8 0, Value.int IntKind.u8 0])).run Tryz.prog w = .ok (.bool false) w := fun w => by
      rw [heq w, show ((v6 == v6) && (bs == List.replicate 16 0)) = false by rw [beq_eq_false_iff_ne.2 hzz, Bool.and_false]]
    clear hzz
    clear heq
    go_wp2_with fail
    refine HKN.out.mono ?_
    rintro e w11 ⟨b11, rfl⟩
    have H11 := Lib.hid (And.intro (H10.out.1.later b11 (Nat.le_refl _)) (H10.out.2.trans (b11.mono H10.out.2.size)))
    clear b11
    go_wp2_with (first
      | (refine wpList_alloc_px rfl rfl ?_; intro w12 a12 b12 z12; have H12 := Lib.hid (And.intro a12 b12); clear a12 b12 z12)
      | (refine wpList_store_px rfl (.tmp 13) (.tmp 53) rfl false (List.replicate 16 0) 0 rfl rfl rfl H12.out.1 ?_; intro w13 a13 o13 z13 b13; have B13 := b13 _ _ (Nat.le_refl _) H12.out.2; have H13 := Lib.hid (And.intro (H11.out.1.later B13 (Nat.le_refl _)) (And.intro (H11.out.2.trans (B13.mono H11.out.2.size)) a13)); have c9 := H13.out.1.v6_cell; clear a13 o13 z13 b13 B13)
      | (refine wpList_load_ad rfl (.tmp 9) rfl rfl H13.out.1 ?_))
    refine (awake04 (HE.out.1.later H13.out.2.1 (Nat.le_refl _))).mono ?_
    rintro e w14 ⟨rfl, b14⟩
    have H14 := Lib.hid (And.intro (H13.out.2.1.trans (b14.mono H13.out.2.1.size)) (H13.out.2.2.later b14 (Nat.le_refl _)))
    clear b14 c9 heq'
    go_wp2_with fail
    refine (help_bare 17 _).mono ?_
    rintro e w15 ⟨rfl, b15⟩
    have H15 := Lib.hid (And.intro (H14.out.1.trans (b15.mono H14.out.1.size)) (H14.out.2.later b15 (Nat.le_refl _)))
    clear b15
    go_wp2_with fail
    refine (is_told3 (Tells.bare w15 17 (by decide) 0) (HE.out.2.later H15.out.1 (Nat.le_refl _))).mono ?_
    rintro e w16 ⟨rfl, b16⟩
    have H16 := Lib.hid (And.intro (H15.out.1.trans (b16.mono H15.out.1.size)) (H15.out.2.later b16 (Nat.le_refl _)))
    clear b16
    go_wp2_with fail
    refine (help_bare 17 _).mono ?_
    rintro e w17 ⟨rfl, b17⟩
    have H17 := Lib.hid (And.intro (H16.out.1.trans (b17.mono H16.out.1.size)) (H16.out.2.later b17 (Nat.le_refl _)))
    clear b17
    go_wp2_with fail
    refine (is_told3 (Tells.bare w17 17 (by decide) 0) (HE.out.2.later H17.out.1 (Nat.le_refl _))).mono ?_
    rintro e w18 ⟨rfl, b18⟩
    have H18 := Lib.hid (And.intro (H17.out.1.trans (b18.mono H17.out.1.size)) (H17.out.2.later b18 (Nat.le_refl _)))
    have c18 := H18.out.2.bits_cell
    clear b18
    go_wp2_with fail
    go_ret
    exact ⟨rfl, H18.out.1⟩
end Go.Proofs.YtcdomcccdbdmhaaGreatDoor
