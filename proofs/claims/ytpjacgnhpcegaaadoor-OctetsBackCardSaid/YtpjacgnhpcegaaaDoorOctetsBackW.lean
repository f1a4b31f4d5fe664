/-
  stockadelaw02.OctetsBack answers true, whatever is handed in. Conditions: errors.errorType holds the handle of the type error.
-/
import Derived.Test.YtpjacgnhpcegaaaDoorRef
import Derived.Test.YtpjacgnhpcegaaaDoorAwake02
namespace Go.Proofs.YtpjacgnhpcegaaaDoor
open Go.RowKit

theorem be_put2 (v : Int) : (be (putn v 2) : Int) = v % 65536 := by
  have h1 := byte_cell (v / 256)
  have h0 := byte_cell v
  have e1 : (2 : Int) ^ (8 * 1) = 256 := rfl
  have e0 : (2 : Int) ^ (8 * 0) = 1 := rfl
  simp only [putn, be, List.foldl_cons, List.foldl_nil, e1, e0, Int.ediv_one, Nat.zero_mul, Nat.zero_add, Int.natCast_add, Int.natCast_mul, h1, h0]
  omega
theorem be_put4 (v : Int) : (be (putn v 4) : Int) = v % 4294967296 := by
  have h3 := byte_cell (v / 16777216)
  have h2 := byte_cell (v / 65536)
  have h1 := byte_cell (v / 256)
  have h0 := byte_cell v
  have e3 : (2 : Int) ^ (8 * 3) = 16777216 := rfl
  have e2 : (2 : Int) ^ (8 * 2) = 65536 := rfl
  have e1 : (2 : Int) ^ (8 * 1) = 256 := rfl
  have e0 : (2 : Int) ^ (8 * 0) = 1 := rfl
  simp only [putn, be, List.foldl_cons, List.foldl_nil, e3, e2, e1, e0, Int.ediv_one, Nat.zero_mul, Nat.zero_add, Int.natCast_add, Int.natCast_mul, h3, h2, h1, h0]
  omega

set_option maxRecDepth 100000 in
set_option maxHeartbeats 2000000 in
theorem octetsBack {A : Option Addr} {n c : Nat} {l : List UInt8} {w : World} (hb : Bs w A n c l) (v q : Int) (h0 : 0 ≤ q) (h32 : q < 4294967296) (hg : Handle w) : Calls Tryd.prog 4 #[.slice A n c, .int .i64 v, .int .u32 q] w fun e w' => e = .returned (.bool true) ∧ Below w.heap.size w w' := by
  have hm := Nat.le_trans hb.cap hb.max
  unfold maxLen at hm
  have HG := Lib.hid hg
  have HB := Lib.hid hb
  clear hg hb
  by_cases hbig : 300 < n
  · go_enter Tryd.func4, Tryd.ntmps4
    go_wp2_with fail
    refine (awake02 _).mono ?_
    rintro e w1 ⟨rfl, h1⟩
    have H1 := Lib.hid h1
    clear h1
    go_wp2_with fail
    go_ret
    exact ⟨rfl, H1.out⟩
  · go_enter Tryd.func4, Tryd.ntmps4
    go_wp2_with fail
    refine (put16_any HB.out v (by omega)).mono ?_
    rintro e w1 ⟨v1, rfl, o1, b1⟩
    obtain ⟨A1, c1, rfl, hB1⟩ := Bs.of_own o1
    have H1 := Lib.hid (And.intro hB1 b1)
    clear o1 hB1 b1
    go_wp2_with fail
    refine (put32_any H1.out.1 q h0 h32 (by omega)).mono ?_
    rintro e w2 ⟨v2, rfl, o2, b2⟩
    obtain ⟨A2, c2, rfl, hB2⟩ := Bs.of_own o2
    have H2 := Lib.hid (And.intro hB2 (H1.out.2.trans (b2.mono H1.out.2.size)))
    clear o2 hB2 b2
    go_wp2_with fail
    have hl := HB.out.len
    have e1 : ((l ++ putn v 2 ++ putn q 4).drop n).take 2 = putn v 2 := by
      rw [List.append_assoc, List.drop_left' hl, List.take_left' (putn_length _ _)]
    have e2 : ((l ++ putn v 2 ++ putn q 4).drop (n + 2)).take 4 = putn q 4 := by
      rw [List.drop_left' (by rw [List.length_append, putn_length, hl]), List.take_of_length_le (by rw [putn_length]; omega)]
    have e3 : ((l ++ putn v 2 ++ putn q 4).drop 0).take n = l := by
      rw [List.drop_zero, List.append_assoc, List.take_left' hl]
    have k1 := u16_ok H2.out.1 n (by omega)
    rw [e1] at k1
    have k2 := u32_ok H2.out.1 (n + 2) (by omega)
    rw [e2] at k2
    have k3 := part_of_cut (cut_ok H2.out.1 0 n (by omega)) (by omega)
    rw [e3] at k3
    have hn : needOf (n + 2 + 4) ((n : Int) + 3) 4 = ⟨3, (n : Int) + 3, true⟩ := by
      unfold needOf
      rw [if_neg (by omega), if_pos (by omega)]
    have p1 : (be (putn v 2) : Int) = wrap64 ((IntKind.u64.wrap v).tmod 65536) := by
      rw [be_put2, IntKind.wrap_u64, Int.tmod_eq_emod_of_nonneg (by omega)]
      unfold wrap64
      omega
    have p2 : (be (putn q 4) : Int) = q := by rw [be_put4]; omega
    rw [p1] at k1
    rw [p2] at k2
    have K1 := Lib.hid k1
    have K2 := Lib.hid k2
    have K3 := Lib.hid k3
    have HN := Lib.hid hn
    clear hl e1 e2 e3 k1 k2 k3 hn p1 p2
    refine K1.out.mono ?_
    rintro e w' ⟨rfl, rfl⟩
    go_wp2_with fail
    refine K2.out.mono ?_
    rintro e w' ⟨rfl, rfl⟩
    go_wp2_with fail
    refine K3.out.mono ?_
    rintro e w3 ⟨v3, rfl, o3, b3⟩
    obtain ⟨A3, c3, rfl, hB3⟩ := Bs.of_own o3
    have H3 := Lib.hid (And.intro hB3 (And.intro (H2.out.1.later b3 (Nat.le_refl _)) (H2.out.2.trans (b3.mono H2.out.2.size))))
    clear o3 hB3 b3
    go_wp2_with fail
    refine (u32_any H3.out.2.1 ((n : Int) + 3) (by omega)).mono ?_
    rintro e w4 ⟨v4, rfl, t4, b4⟩
    rw [HN.out] at t4
    have H4 := Lib.hid (And.intro t4 (And.intro (H3.out.1.later b4 (Nat.le_refl _)) (H3.out.2.2.trans (b4.mono H3.out.2.2.size))))
    clear t4 b4
    go_wp2_with fail
    refine (awake02 _).mono ?_
    rintro e w5 ⟨rfl, b5⟩
    have H5 := Lib.hid (And.intro (H4.out.1.later b5 (Nat.le_refl _)) (And.intro (H4.out.2.1.later b5 (Nat.le_refl _)) (H4.out.2.2.trans (b5.mono H4.out.2.2.size))))
    clear b5
    go_wp2_with fail
    refine (bytes_same H5.out.2.1 (HB.out.later H5.out.2.2 (Nat.le_refl _))).mono ?_
    rintro e w' ⟨rfl, rfl⟩
    go_wp2_with fail
    refine (help_at 3 ((n : Int) + 3) _).mono ?_
    rintro e w6 ⟨rfl, b6⟩
    have H6 := Lib.hid (And.intro (H5.out.1.later b6 (Nat.le_refl _)) (H5.out.2.2.trans (b6.mono H5.out.2.2.size)))
    clear b6
    go_wp2_with fail
    refine (is_told H6.out.1 (HG.out.later H6.out.2 (Nat.le_refl _))).mono ?_
    rintro e w7 ⟨rfl, b7⟩
    have H7 := Lib.hid (H6.out.2.trans (b7.mono H6.out.2.size))
    clear b7
    go_wp2_with fail
    go_ret
    refine ⟨?_, H7.out⟩
    show Ending.returned (Value.bool ((n : Int) + 2 + 4 == (n : Int) + 6)) = _
    rw [beq_iff_eq.2 (by omega : (n : Int) + 2 + 4 = (n : Int) + 6)]
end Go.Proofs.YtpjacgnhpcegaaaDoor
