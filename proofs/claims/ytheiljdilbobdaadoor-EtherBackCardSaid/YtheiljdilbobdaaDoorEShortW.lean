/-
  stockadelaw05.EtherShort answers true, whatever the numbers. Conditions: errors.errorType holds the handle of the type error.
-/
import Derived.Test.YtheiljdilbobdaaDoorAwake05
import Derived.Test.YtheiljdilbobdaaDoorTell
namespace Go.Proofs.YtheiljdilbobdaaDoor
open Go.RowKit

/-- What a frame of twelve bytes, some tags and a kind answers, cut ahead of its kind's end: too short, at the place of the kind. -/
theorem short_all : ∀ t : Fin 3, ∀ c : Fin 22, ∀ j : Fin 3, c.val < 14 + 4 * t.val → (j.val = 0 ∨ 10 + 4 * j.val ≤ c.val) → c.val < 14 + 4 * j.val →
    (etherv ((headv 2048 (([7, 8] : List Int).take t.val)).take c.val) c.val).2.2.code = 3 ∧ (etherv ((headv 2048 (([7, 8] : List Int).take t.val)).take c.val) c.val).2.2.at_ = 12 + 4 * (j.val : Int) ∧ (etherv ((headv 2048 (([7, 8] : List Int).take t.val)).take c.val) c.val).2.2.placed = true := by decide +kernel
theorem may_all : ∀ t : Fin 3, mayBuild 2048 (([7, 8] : List Int).take t.val) 0 := by decide +kernel
theorem big_all : ∀ i : Fin 6, (etherv (List.replicate (1997 + i.val) 0) (1997 + i.val)).2.2.code = (if i.val ≤ 3 then 0 else 4) ∧ (4 ≤ i.val → (etherv (List.replicate (1997 + i.val) 0) (1997 + i.val)).2.2.placed = false ∧ (etherv (List.replicate (1997 + i.val) 0) (1997 + i.val)).2.2.at_ = 0) := by decide +kernel
/-- The first bytes of a slice. -/
theorem Bs.head {w : World} {A : Option Addr} {n c k : Nat} {l : List UInt8} (h : Bs w A n c l) (hk : k ≤ n) : Bs w A k c (l.take k) :=
  ⟨by rw [List.length_take, h.len]; omega, Nat.le_trans hk h.cap, h.max, h.none_, fun h0 => by
    obtain ⟨b, off, e, hc⟩ := h.here (by omega)
    refine ⟨b, off, e, fun i x hx => hc i x ?_⟩
    rw [List.getElem?_take] at hx
    split at hx
    · exact hx
    · cases hx⟩
theorem head_len (kind : Int) (zs : List Int) : (headv kind zs).length = 14 + 4 * zs.length := by simp [headv, zero12, tagsv_length, putn_length]; omega

set_option maxRecDepth 100000 in
set_option maxHeartbeats 4000000 in
theorem etherShort {w : World} (t0 c0 n0 : Int) (hg : Handle w) : Calls Tryd.prog 5 #[.int .i64 t0, .int .i64 c0, .int .i64 n0] w fun e w' => e = .returned (.bool true) ∧ Below w.heap.size w w' := by
  have HG := Lib.hid hg
  have m1 := num_mod5 t0 3 (by omega) (by omega)
  have m3 := num_mod5 n0 6 (by omega) (by omega)
  obtain ⟨i0, hi, hz0, hz1, hz2⟩ := info_parts info5
  have HI := Lib.hid (And.intro hi (And.intro hz0 (And.intro hz1 hz2)))
  clear hg hi hz0 hz1 hz2
  go_enter Tryd.func5, Tryd.ntmps5
  go_wp2_with fail
  generalize wrap64 ((IntKind.u64.wrap t0).tmod 3) = x at m1 ⊢
  obtain ⟨t, rfl⟩ := Int.eq_ofNat_of_zero_le m1.1
  have m1 : t < 3 := by omega
  have hz : Zs (w.alloc (.cells #[.int .i64 7, .int .i64 8] 3)) (some ⟨w.heap.size, 0, none⟩) t (([7, 8] : List Int).take t) := by
    refine ⟨by simp; omega, by unfold maxLen; omega, fun i z hi => ?_⟩
    rw [List.getElem?_take] at hi
    split at hi
    · match i, hi with
      | 0, hi => obtain rfl := Option.some.inj hi.symm; exact ⟨_, _, rfl, by simp⟩
      | 1, hi => obtain rfl := Option.some.inj hi.symm; exact ⟨_, _, rfl, by simp⟩
      | i + 2, hi => simp at hi
    · cases hi
  have k1 := build_ether (d := 2) 2048 hz (Bs.nil _)
  have K1 := Lib.hid (And.intro k1 ((Below.refl w.heap.size w).alloc (Nat.le_refl _) (.cells #[.int .i64 7, .int .i64 8] 3)))
  clear hz k1
  go_wp2_with fail
  simp only [Int.toNat_natCast]
  refine K1.out.1.mono ?_
  rintro e w1 ⟨A1, n1, d1, v1, rfl, hb1, t1, b1⟩
  have hmay := may_all ⟨t, m1⟩
  rw [(build_yes hmay).1] at hb1
  rw [(build_yes (l := []) hmay).2] at t1
  obtain rfl := t1.none_ rfl
  have hn1 : 14 + 4 * t = n1 := by rw [← hb1.len, List.length_append, head_len]; simp; omega
  subst hn1
  rw [List.append_nil] at hb1
  have H1 := Lib.hid (And.intro hb1 (K1.out.2.trans (b1.mono K1.out.2.size)))
  clear hb1 t1 b1 hmay
  go_wp2_with fail
  refine (awake05 _).mono ?_
  rintro e w2 ⟨rfl, b2⟩
  have H2 := Lib.hid (And.intro (H1.out.1.later b2 (Nat.le_refl _)) (H1.out.2.trans (b2.mono H1.out.2.size)))
  clear b2
  obtain ⟨q1, q2⟩ := num_mod5 c0 (14 + 4 * (t : Int)) (by omega) (by omega)
  have hcap := H2.out.1.cap
  have q3 : wrap64 ((IntKind.u64.wrap c0).tmod (14 + 4 * (t : Int))) ≤ (d1 : Int) := by omega
  go_wp2_with fail
  generalize wrap64 ((IntKind.u64.wrap c0).tmod (14 + 4 * (t : Int))) = y at q1 q2 q3 ⊢
  obtain ⟨c, rfl⟩ := Int.eq_ofNat_of_zero_le q1
  simp only [Int.toNat_natCast]
  have hct : c < 14 + 4 * t := by omega
  refine (parse_ether (H2.out.1.head (show c ≤ 14 + 4 * t by omega))).mono ?_
  rintro e w3 ⟨v3, rfl, t3, b3⟩
  have H3 := Lib.hid (And.intro t3 (H2.out.2.trans (b3.mono H2.out.2.size)))
  clear t3 b3 q1 q2 q3
  go_wp2_with fail
  go_loop [13] (fun a => ∃ j : Nat, j < 3 ∧ a = .int .i64 (12 + 4 * (j : Int)) ∧ (j = 0 ∨ 10 + 4 * j ≤ c)) (fun a => 100 - (intOf a).toNat)
  case atStart => exact ⟨0, by omega, rfl, Or.inl rfl⟩
  case round =>
    obtain ⟨j, hj, rfl, hjc⟩ := hrel
    by_cases hlt : 14 + 4 * j ≤ c
    · have hd : (12 : Int) + 4 * (j : Int) + 2 ≤ (c : Int) := by omega
      go_wp2_with fail
      go_round
      case rel => exact ⟨j + 1, by omega, by go_num, Or.inr (by omega)⟩
      case measure => simp [intOf]; omega
    · have hd : ¬ (12 : Int) + 4 * (j : Int) + 2 ≤ (c : Int) := by omega
      have hsh := short_all ⟨t, m1⟩ ⟨c, by omega⟩ ⟨j, hj⟩ hct hjc (by show c < 14 + 4 * j; omega)
      have t3 := H3.out.1
      obtain ⟨f, hf⟩ : ∃ f, (etherv ((headv 2048 (([7, 8] : List Int).take t)).take c) c).2.2 = f := ⟨_, rfl⟩
      simp only [hf] at t3 hsh
      obtain ⟨fc, fa, fp⟩ := f
      obtain ⟨rfl, rfl, rfl⟩ := hsh
      have H4 := Lib.hid (And.intro t3 H3.out.2)
      clear t3 hf
      go_wp2_with fail
      generalize wrap64 ((IntKind.u64.wrap n0).tmod 6) = y at m3 ⊢
      obtain ⟨i, rfl⟩ := Int.eq_ofNat_of_zero_le m3.1
      have m3 : i < 6 := by omega
      obtain ⟨w5, hrun, o5, g5⟩ := run_make_full (P := Tryd.prog) w3 w.heap.size 22 5 i0 _ 1 Tryd.underlying22 HI.out.1 HI.out.2.1 HI.out.2.2.1 .i64 .i64 (1997 + i) (by rw [HI.out.2.2.2]; omega) (by unfold maxLen; omega) H4.out.2.size
      rw [show (1997 : Int) + (i : Int) = ((1997 + i : Nat) : Int) by omega, hrun]
      have hz : (madeCells (Value.int IntKind.u8 0).cells ((1997 + i) * 1)).toList = bv (List.replicate (1997 + i) 0) := by
        rw [Nat.mul_one, show (Value.int IntKind.u8 0).cells = #[.int .u8 0] from rfl, toList_madeCells_one]; simp [bv]
      rw [hz] at o5
      obtain ⟨A5, c5, e5, hB5⟩ := Bs.of_own o5
      cases e5
      have H5 := Lib.hid (And.intro hB5 (And.intro (H4.out.1.later (below_of_grown g5) (Nat.le_refl _)) (H4.out.2.trans ((below_of_grown g5).mono H4.out.2.size))))
      clear hrun o5 g5 hz hB5
      go_wp2_with fail
      refine (parse_ether H5.out.1).mono ?_
      rintro e w6 ⟨v6, rfl, t6, b6⟩
      have hbig := big_all ⟨i, m3⟩
      have H6 := Lib.hid (And.intro (H5.out.2.1.later b6 (Nat.le_refl _)) (H5.out.2.2.trans (b6.mono H5.out.2.2.size)))
      obtain ⟨f, hf⟩ : ∃ f, (etherv (List.replicate (1997 + i) 0) (1997 + i)).2.2 = f := ⟨_, rfl⟩
      simp only [hf] at t6 hbig
      obtain ⟨fc, fa, fp⟩ := f
      have HT := Lib.hid (And.intro t6 hbig)
      clear t6 b6 hbig hf
      go_wp2_with fail
      refine (help_at 3 (12 + 4 * (j : Int)) _).mono ?_
      rintro e w7 ⟨rfl, b7⟩
      have H7 := Lib.hid (And.intro (H6.out.1.later b7 (Nat.le_refl _)) (H6.out.2.trans (b7.mono H6.out.2.size)))
      have HT7 := Lib.hid (And.intro (HT.out.1.later b7 (Nat.le_refl _)) HT.out.2)
      clear b7
      go_wp2_with fail
      refine (is_told3 H7.out.1 (HG.out.later H7.out.2 (Nat.le_refl _))).mono ?_
      rintro e w8 ⟨rfl, b8⟩
      have H8 := Lib.hid (H7.out.2.trans (b8.mono H7.out.2.size))
      have HT8 := Lib.hid (And.intro (HT7.out.1.later b8 (Nat.le_refl _)) HT7.out.2)
      clear b8
      by_cases hi3 : i ≤ 3
      · obtain rfl : fc = 0 := by have := HT8.out.2.1; rw [if_pos hi3] at this; exact this
        obtain rfl := HT8.out.1.none_ rfl
        have hd1 : ¬ (2000 : Int) < 1997 + (i : Int) := by omega
        have hd2 : (1997 : Int) + (i : Int) ≤ 2000 := by omega
        go_wp2_with fail
        go_ret
        exact ⟨rfl, H8.out⟩
      · obtain rfl : fc = 4 := by have := HT8.out.2.1; rw [if_neg hi3] at this; exact this
        obtain ⟨rfl, rfl⟩ := HT8.out.2.2 (show 4 ≤ i by omega)
        have hd1 : (2000 : Int) < 1997 + (i : Int) := by omega
        go_wp2_with fail
        refine (help_bare 4 _).mono ?_
        rintro e w9 ⟨rfl, b9⟩
        have H9 := Lib.hid (And.intro (HT8.out.1.later b9 (Nat.le_refl _)) (H8.out.trans (b9.mono H8.out.size)))
        clear b9
        go_wp2_with fail
        refine (is_told3 H9.out.1 (HG.out.later H9.out.2 (Nat.le_refl _))).mono ?_
        rintro e w10 ⟨rfl, b10⟩
        have H10 := Lib.hid (H9.out.2.trans (b10.mono H9.out.2.size))
        clear b10
        go_wp2_with fail
        go_ret
        exact ⟨rfl, H10.out⟩
end Go.Proofs.YtheiljdilbobdaaDoor
