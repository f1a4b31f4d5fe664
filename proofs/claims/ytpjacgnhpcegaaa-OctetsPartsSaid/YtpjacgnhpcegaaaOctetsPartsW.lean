/-
  stockadelaw02.OctetsParts answers true, whatever is handed in. No conditions.
-/
import Derived.Test.YtpjacgnhpcegaaaOctOk
import Derived.Test.YtpjacgnhpcegaaaAwake02
namespace Go.Proofs.Ytpjacgnhpcegaaa
open Go.RowKit

theorem num_mod' (a : Int) (m : Int) (h0 : 0 ≤ m) (h1 : m ≤ 1000) : 0 ≤ wrap64 ((IntKind.u64.wrap a).tmod (m + 1)) ∧ wrap64 ((IntKind.u64.wrap a).tmod (m + 1)) ≤ m := by
  have h : IntKind.u64.wrap a = a % 18446744073709551616 := rfl
  have h2 : 0 ≤ IntKind.u64.wrap a := by rw [h]; omega
  rw [Int.tmod_eq_emod_of_nonneg h2]
  have h3 := Int.emod_nonneg (IntKind.u64.wrap a) (show m + 1 ≠ 0 by omega)
  have h4 := Int.emod_lt_of_pos (IntKind.u64.wrap a) (show 0 < m + 1 by omega)
  generalize IntKind.u64.wrap a % (m + 1) = x at h3 h4
  unfold wrap64
  omega
theorem xor_byte (x : UInt8) : bits .xor .u8 (x.toNat : Int) 1 = ((x ^^^ 1).toNat : Int) := by
  rw [show (1 : Int) = ((1 : Nat) : Int) from rfl, u8_xor_nat _ _ x.toNat_lt (by omega), UInt8.toNat_xor]
  rfl

set_option maxRecDepth 100000 in
set_option maxHeartbeats 4000000 in
theorem octetsParts {A : Option Addr} {n c : Nat} {l : List UInt8} {w : World} (hb : Bs w A n c l) (a0 k0 i0 j0 : Int) : Calls Try.prog 3 #[.slice A n c, .int .i64 a0, .int .i64 k0, .int .i64 i0, .int .i64 j0] w fun e w' => e = .returned (.bool true) ∧ Below w.heap.size w w' := by
  have hm := Nat.le_trans hb.cap hb.max
  unfold maxLen at hm
  have HB := Lib.hid hb
  clear hb
  by_cases hbig : 300 < n
  · go_enter Try.func3, Try.ntmps3
    go_wp2_with fail
    refine (awake02 _).mono ?_
    rintro e w1 ⟨rfl, h1⟩
    have H1 := Lib.hid h1
    clear h1
    go_wp2_with fail
    go_ret
    exact ⟨rfl, H1.out⟩
  · obtain ⟨q1, q2⟩ := num_mod' a0 (n : Int) (by omega) (by omega)
    obtain ⟨q3, q4⟩ := num_mod' k0 ((n : Int) - wrap64 ((IntKind.u64.wrap a0).tmod ((n : Int) + 1))) (by omega) (by omega)
    go_enter Try.func3, Try.ntmps3
    go_wp2_with fail
    generalize wrap64 ((IntKind.u64.wrap a0).tmod ((n : Int) + 1)) = x1 at q1 q2 q3 q4 ⊢
    generalize wrap64 ((IntKind.u64.wrap k0).tmod ((n : Int) - x1 + 1)) = x2 at q3 q4 ⊢
    obtain ⟨a, rfl⟩ := Int.eq_ofNat_of_zero_le q1
    obtain ⟨k, rfl⟩ := Int.eq_ofNat_of_zero_le q3
    have hak : a + k ≤ n := by omega
    have hn300 : n ≤ 300 := by omega
    clear q1 q2 q3 q4 hbig
    refine (part_of_cut (cut_ok HB.out a k hak) (by omega)).mono ?_
    rintro e w1 ⟨v1, rfl, o1, b1⟩
    obtain ⟨A1, c1, rfl, hB1⟩ := Bs.of_own o1
    have H1 := Lib.hid (And.intro hB1 (And.intro o1 b1))
    clear o1 hB1 b1
    obtain ⟨q1, q2⟩ := num_mod' i0 (k : Int) (by omega) (by omega)
    obtain ⟨q3, q4⟩ := num_mod' j0 ((k : Int) - wrap64 ((IntKind.u64.wrap i0).tmod ((k : Int) + 1))) (by omega) (by omega)
    go_wp2_with fail
    generalize wrap64 ((IntKind.u64.wrap i0).tmod ((k : Int) + 1)) = x1 at q1 q2 q3 q4 ⊢
    generalize wrap64 ((IntKind.u64.wrap j0).tmod ((k : Int) - x1 + 1)) = x2 at q3 q4 ⊢
    obtain ⟨i, rfl⟩ := Int.eq_ofNat_of_zero_le q1
    obtain ⟨m, rfl⟩ := Int.eq_ofNat_of_zero_le q3
    have him : i + m ≤ k := by omega
    clear q1 q2 q3 q4
    refine (part_of_cut (cut_ok H1.out.1 i m him) (by omega)).mono ?_
    rintro e w2 ⟨v2, rfl, o2, b2⟩
    obtain ⟨A2, c2, rfl, hB2⟩ := Bs.of_own o2
    have hl2 : (((l.drop a).take k).drop i).take m = (l.drop (a + i)).take m := by
      rw [List.drop_take, List.drop_drop, List.take_take, Nat.min_eq_left (by omega)]
    rw [hl2] at hB2
    have H2 := Lib.hid (And.intro hB2 (H1.out.2.2.trans (b2.mono H1.out.2.2.size)))
    have H12 := Lib.hid b2
    clear o2 hB2 b2 hl2
    go_wp2_with fail
    rw [show ((a : Int) + (i : Int)) = ((a + i : Nat) : Int) by omega]
    refine (part_of_cut (cut_ok (HB.out.later H2.out.2 (Nat.le_refl _)) (a + i) m (by omega)) (by omega)).mono ?_
    rintro e w3 ⟨v3, rfl, o3, b3⟩
    obtain ⟨A3, c3, rfl, hB3⟩ := Bs.of_own o3
    have H3 := Lib.hid (And.intro hB3 (And.intro o3 (And.intro (H2.out.1.later b3 (Nat.le_refl _)) (H2.out.2.trans (b3.mono H2.out.2.size)))))
    have ox : w3.ownsRow w.heap.size 5 1 (.slice A1 k c1) k (bv ((l.drop a).take k)) :=
      own_kept (own_kept H1.out.2.1 H12.out) b3
    have H4 := Lib.hid ox
    have HZ := Lib.hid (And.intro H12.out.size b3)
    clear o3 hB3 b3 ox
    go_wp2_with fail
    refine (bytes_same H3.out.2.2.1 H3.out.1).mono ?_
    rintro e w' ⟨rfl, rfl⟩
    go_wp2_with fail
    go_loopw [18] (fun s wr => ∃ (j : Nat) (xs : List UInt8), j ≤ k ∧ s = .int .i64 j ∧ wr.ownsRow w.heap.size 5 1 (.slice A1 k c1) k (bv xs) ∧ w3.grownBy wr (Value.slice A1 k c1).ownBlock) (fun s _ => k - (intOf s).toNat)
    case atStart => exact ⟨0, _, Nat.zero_le _, rfl, H4.out, World.grownBy.refl _ _⟩
    case round =>
      obtain ⟨j, xs, hj, rfl, ho, hgr⟩ := hrel
      have hxl : xs.length = k := by have := ho.1; rw [bv_length] at this; omega
      by_cases hlt : j < k
      · obtain ⟨g, cap, hv, _, _⟩ := ho.form (by omega)
        obtain ⟨rfl, rfl⟩ : A1 = some ⟨g, 0, none⟩ ∧ c1 = cap := by injection hv with h1 h2 h3; exact ⟨h1, h3⟩
        have hc := ho.cellAt j (by omega)
        have hf := ho.frozenAt j
        obtain ⟨y, hy⟩ : ∃ y, xs[j]? = some y := ⟨xs[j]'(by omega), List.getElem?_eq_getElem (by omega)⟩
        have hx : (bv xs)[j]? = some (Value.int .u8 y.toNat) := by unfold bv; rw [List.getElem?_map, hy]; rfl
        rw [hx] at hc
        have hst := ho.stored j (.int .u8 ((y ^^^ 1 : UInt8)).toNat)
        rw [show (bv xs).set j (.int .u8 ((y ^^^ 1 : UInt8)).toNat) = bv (xs.set j (y ^^^ 1)) from by unfold bv; rw [List.map_set]] at hst
        have HS := Lib.hid (And.intro hst hgr)
        have HXO := Lib.hid (xor_byte y)
        clear hst ho hgr hx hv hxl hy
        go_wp2_with fail
        rw [HXO.out]
        go_roundw
        case rel => exact ⟨j + 1, _, hlt, by go_num, HS.out.1.1, HS.out.2.trans HS.out.1.2⟩
        case measure => simp [intOf]; omega
      · have H5 := Lib.hid (And.intro ho hgr)
        clear ho hgr hxl
        have hb5 : Below w.heap.size w wr := H3.out.2.2.2.grown H5.out.2 H3.out.2.2.2.size (fun q hq => (H4.out.lt q hq).1)
        have hz5 : Bs wr A3 m c3 ((l.drop (a + i)).take m) := by
          obtain ⟨A', c', e', h⟩ := Bs.of_own (World.ownsRow.kept H3.out.2.1 H5.out.2 (by
            rcases hb : (Value.slice A3 m c3).ownBlock with _ | g3
            · exact .inl rfl
            · refine .inr fun h => ?_
              have h1 := (H3.out.2.1.lt g3 hb).1
              have h2 := (H1.out.2.1.lt g3 h.symm).2
              have h3 := HZ.out.1
              omega))
          injection e' with e1 e2 e3
          subst e1; subst e3
          exact h
        have H6 := Lib.hid (And.intro hb5 hz5)
        clear hb5 hz5
        go_wp2_with fail
        rw [show ((a : Int) + (i : Int)) = ((a + i : Nat) : Int) by omega]
        refine (part_of_cut (cut_ok (HB.out.later H6.out.1 (Nat.le_refl _)) (a + i) m (by omega)) (by omega)).mono ?_
        rintro e w7 ⟨v7, rfl, o7, b7⟩
        obtain ⟨A7, c7, rfl, hB7⟩ := Bs.of_own o7
        have H7 := Lib.hid (And.intro hB7 (And.intro (H6.out.2.later b7 (Nat.le_refl _)) (H6.out.1.trans (b7.mono H6.out.1.size))))
        clear o7 hB7 b7
        go_wp2_with fail
        refine (awake02 _).mono ?_
        rintro e w8 ⟨rfl, b8⟩
        have H8 := Lib.hid (And.intro (H7.out.1.later b8 (Nat.le_refl _)) (And.intro (H7.out.2.1.later b8 (Nat.le_refl _)) (H7.out.2.2.trans (b8.mono H7.out.2.2.size))))
        clear b8
        go_wp2_with fail
        refine (bytes_same H8.out.1 H8.out.2.1).mono ?_
        rintro e w' ⟨rfl, rfl⟩
        go_wp2_with fail
        go_ret
        exact ⟨rfl, H8.out.2.2⟩
end Go.Proofs.Ytpjacgnhpcegaaa
