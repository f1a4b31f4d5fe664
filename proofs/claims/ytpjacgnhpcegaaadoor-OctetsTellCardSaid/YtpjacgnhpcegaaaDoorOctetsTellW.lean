/-
  stockadelaw02.OctetsTell answers true, whatever is handed in. Conditions: errors.errorType holds the handle of the type error.
-/
import Derived.Test.YtpjacgnhpcegaaaDoorRef
import Derived.Test.YtpjacgnhpcegaaaDoorAwake02
namespace Go.Proofs.YtpjacgnhpcegaaaDoor
open Go.RowKit

set_option maxRecDepth 100000 in
set_option maxHeartbeats 4000000 in
theorem octetsTell {A : Option Addr} {n c : Nat} {l : List UInt8} {w : World} (hb : Bs w A n c l) (at_ k v : Int) (h63 : at_ ≤ 9223372036854775807) (k63 : k ≤ 9223372036854775807) (h0 : 0 ≤ v) (h32 : v < 4294967296) (hg : Handle w) : Calls Tryd.prog 3 #[.slice A n c, .int .i64 at_, .int .i64 k, .int .u32 v] w fun e w' => e = .returned (.bool true) ∧ Below w.heap.size w w' := by
  have hm := Nat.le_trans hb.cap hb.max
  unfold maxLen at hm
  have HG := Lib.hid hg
  have HB := Lib.hid hb
  clear hg hb
  by_cases hbig : 1000 < n
  · go_enter Tryd.func3, Tryd.ntmps3
    go_wp2_with fail
    refine (awake02 _).mono ?_
    rintro e w1 ⟨rfl, h1⟩
    have H1 := Lib.hid h1
    clear h1
    go_wp2_with fail
    go_ret
    exact ⟨rfl, H1.out⟩
  · have H63 := Lib.hid (And.intro h63 k63)
    obtain ⟨⟨c1, a1, p1⟩, e1⟩ : ∃ f, needOf n at_ 2 = f := ⟨_, rfl⟩
    obtain ⟨⟨c2, a2, p2⟩, e2⟩ : ∃ f, needOf n at_ 4 = f := ⟨_, rfl⟩
    obtain ⟨⟨c3, a3, p3⟩, e3⟩ : ∃ f, needOf n at_ k = f := ⟨_, rfl⟩
    have E1 := Lib.hid e1
    have E2 := Lib.hid e2
    have E3 := Lib.hid e3
    clear e1 e2 e3 h63 k63
    go_enter Tryd.func3, Tryd.ntmps3
    go_wp2_with fail
    refine (own_any (HB.out) 71 (by omega)).mono ?_
    rintro e w1 ⟨rfl, f1, b1⟩
    have S1 := Lib.hid (And.intro ((HB.out).later b1 (Nat.le_refl _)) (And.intro ((HG.out).later b1 (Nat.le_refl _)) (And.intro (f1) ((Below.refl w.heap.size w).trans (b1.mono (Below.refl w.heap.size w).size)))))
    clear b1 f1
    go_wp2_with fail
    refine (u16_any ((S1.out.2.2.1).bs (S1.out.1).len (by unfold maxLen; omega)) at_ H63.out.1).mono ?_
    rintro e w2 ⟨v2, rfl, t2, b2⟩
    rw [E1.out] at t2
    have S2 := Lib.hid (And.intro ((S1.out.1).later b2 (Nat.le_refl _)) (And.intro ((S1.out.2.1).later b2 (Nat.le_refl _)) (And.intro ((S1.out.2.2.1).later b2 (Nat.le_refl _)) (And.intro (t2) ((S1.out.2.2.2).trans (b2.mono (S1.out.2.2.2).size))))))
    clear b2 t2
    go_wp2_with fail
    refine ((ref_u16 (S2.out.1) at_ H63.out.1)).mono ?_
    rintro e w3 ⟨rfl, b3⟩
    rw [E1.out, Fl.v]
    simp only []
    have S3 := Lib.hid (And.intro ((S2.out.1).later b3 (Nat.le_refl _)) (And.intro ((S2.out.2.1).later b3 (Nat.le_refl _)) (And.intro ((S2.out.2.2.1).later b3 (Nat.le_refl _)) (And.intro ((S2.out.2.2.2.1).later b3 (Nat.le_refl _)) ((S2.out.2.2.2.2).trans (b3.mono (S2.out.2.2.2.2).size))))))
    clear b3 
    have S4 := Lib.hid (And.intro ((S3.out.1).later ((Below.refl _ w3).alloc (Nat.le_refl _) (.cells #[.int .i64 c1, .int .i64 a1, .bool p1] 32)) (Nat.le_refl _)) (And.intro ((S3.out.2.1).later ((Below.refl _ w3).alloc (Nat.le_refl _) (.cells #[.int .i64 c1, .int .i64 a1, .bool p1] 32)) (Nat.le_refl _)) (And.intro ((S3.out.2.2.1).later ((Below.refl _ w3).alloc (Nat.le_refl _) (.cells #[.int .i64 c1, .int .i64 a1, .bool p1] 32)) (Nat.le_refl _)) (And.intro ((S3.out.2.2.2.1).later ((Below.refl _ w3).alloc (Nat.le_refl _) (.cells #[.int .i64 c1, .int .i64 a1, .bool p1] 32)) (Nat.le_refl _)) (And.intro (Box.new w3 c1 a1 p1) ((S3.out.2.2.2.2).alloc (S3.out.2.2.2.2).size (.cells #[.int .i64 c1, .int .i64 a1, .bool p1] 32)))))))
    go_wp2_with fail
    refine (u32_any ((S4.out.2.2.1).bs (S4.out.1).len (by unfold maxLen; omega)) at_ H63.out.1).mono ?_
    rintro e w5 ⟨v5, rfl, t5, b5⟩
    rw [E2.out] at t5
    have S5 := Lib.hid (And.intro ((S4.out.1).later b5 (Nat.le_refl _)) (And.intro ((S4.out.2.1).later b5 (Nat.le_refl _)) (And.intro ((S4.out.2.2.1).later b5 (Nat.le_refl _)) (And.intro ((S4.out.2.2.2.1).later b5 (Nat.le_refl _)) (And.intro ((S4.out.2.2.2.2.1).later b5 (Nat.le_refl _)) (And.intro (t5) ((S4.out.2.2.2.2.2).trans (b5.mono (S4.out.2.2.2.2.2).size))))))))
    clear b5 t5
    go_wp2_with fail
    refine ((ref_u32 (S5.out.1) at_ H63.out.1)).mono ?_
    rintro e w6 ⟨rfl, b6⟩
    rw [E2.out, Fl.v]
    simp only []
    have S6 := Lib.hid (And.intro ((S5.out.1).later b6 (Nat.le_refl _)) (And.intro ((S5.out.2.1).later b6 (Nat.le_refl _)) (And.intro ((S5.out.2.2.1).later b6 (Nat.le_refl _)) (And.intro ((S5.out.2.2.2.1).later b6 (Nat.le_refl _)) (And.intro ((S5.out.2.2.2.2.1).later b6 (Nat.le_refl _)) (And.intro ((S5.out.2.2.2.2.2.1).later b6 (Nat.le_refl _)) ((S5.out.2.2.2.2.2.2).trans (b6.mono (S5.out.2.2.2.2.2.2).size))))))))
    clear b6 
    have S7 := Lib.hid (And.intro ((S6.out.1).later ((Below.refl _ w6).alloc (Nat.le_refl _) (.cells #[.int .i64 c2, .int .i64 a2, .bool p2] 32)) (Nat.le_refl _)) (And.intro ((S6.out.2.1).later ((Below.refl _ w6).alloc (Nat.le_refl _) (.cells #[.int .i64 c2, .int .i64 a2, .bool p2] 32)) (Nat.le_refl _)) (And.intro ((S6.out.2.2.1).later ((Below.refl _ w6).alloc (Nat.le_refl _) (.cells #[.int .i64 c2, .int .i64 a2, .bool p2] 32)) (Nat.le_refl _)) (And.intro ((S6.out.2.2.2.1).later ((Below.refl _ w6).alloc (Nat.le_refl _) (.cells #[.int .i64 c2, .int .i64 a2, .bool p2] 32)) (Nat.le_refl _)) (And.intro ((S6.out.2.2.2.2.1).later ((Below.refl _ w6).alloc (Nat.le_refl _) (.cells #[.int .i64 c2, .int .i64 a2, .bool p2] 32)) (Nat.le_refl _)) (And.intro ((S6.out.2.2.2.2.2.1).later ((Below.refl _ w6).alloc (Nat.le_refl _) (.cells #[.int .i64 c2, .int .i64 a2, .bool p2] 32)) (Nat.le_refl _)) (And.intro (Box.new w6 c2 a2 p2) ((S6.out.2.2.2.2.2.2).alloc (S6.out.2.2.2.2.2.2).size (.cells #[.int .i64 c2, .int .i64 a2, .bool p2] 32)))))))))
    go_wp2_with fail
    refine (part_any ((S7.out.2.2.1).bs (S7.out.1).len (by unfold maxLen; omega)) at_ k H63.out.1 H63.out.2 (by omega)).mono ?_
    rintro e w8 ⟨A8, n8, m8, v8, rfl, q8, t8, b8⟩
    rw [E3.out] at t8
    have S8 := Lib.hid (And.intro ((S7.out.1).later b8 (Nat.le_refl _)) (And.intro ((S7.out.2.1).later b8 (Nat.le_refl _)) (And.intro ((S7.out.2.2.1).later b8 (Nat.le_refl _)) (And.intro ((S7.out.2.2.2.1).later b8 (Nat.le_refl _)) (And.intro ((S7.out.2.2.2.2.1).later b8 (Nat.le_refl _)) (And.intro ((S7.out.2.2.2.2.2.1).later b8 (Nat.le_refl _)) (And.intro ((S7.out.2.2.2.2.2.2.1).later b8 (Nat.le_refl _)) (And.intro (q8) (And.intro (t8) ((S7.out.2.2.2.2.2.2.2).trans (b8.mono (S7.out.2.2.2.2.2.2.2).size)))))))))))
    clear b8 q8 t8
    go_wp2_with fail
    refine ((ref_part (S8.out.1) at_ k H63.out.1 H63.out.2 (by omega))).mono ?_
    rintro e w9 ⟨A9, n9, m9, rfl, q9, b9⟩
    rw [E3.out, Fl.v]
    simp only []
    have S9 := Lib.hid (And.intro ((S8.out.1).later b9 (Nat.le_refl _)) (And.intro ((S8.out.2.1).later b9 (Nat.le_refl _)) (And.intro ((S8.out.2.2.1).later b9 (Nat.le_refl _)) (And.intro ((S8.out.2.2.2.1).later b9 (Nat.le_refl _)) (And.intro ((S8.out.2.2.2.2.1).later b9 (Nat.le_refl _)) (And.intro ((S8.out.2.2.2.2.2.1).later b9 (Nat.le_refl _)) (And.intro ((S8.out.2.2.2.2.2.2.1).later b9 (Nat.le_refl _)) (And.intro ((S8.out.2.2.2.2.2.2.2.1).later b9 (Nat.le_refl _)) (And.intro ((S8.out.2.2.2.2.2.2.2.2.1).later b9 (Nat.le_refl _)) (And.intro (q9) ((S8.out.2.2.2.2.2.2.2.2.2).trans (b9.mono (S8.out.2.2.2.2.2.2.2.2.2).size))))))))))))
    clear b9 q9
    have S10 := Lib.hid (And.intro ((S9.out.1).later ((Below.refl _ w9).alloc (Nat.le_refl _) (.cells #[.int .i64 c3, .int .i64 a3, .bool p3] 32)) (Nat.le_refl _)) (And.intro ((S9.out.2.1).later ((Below.refl _ w9).alloc (Nat.le_refl _) (.cells #[.int .i64 c3, .int .i64 a3, .bool p3] 32)) (Nat.le_refl _)) (And.intro ((S9.out.2.2.1).later ((Below.refl _ w9).alloc (Nat.le_refl _) (.cells #[.int .i64 c3, .int .i64 a3, .bool p3] 32)) (Nat.le_refl _)) (And.intro ((S9.out.2.2.2.1).later ((Below.refl _ w9).alloc (Nat.le_refl _) (.cells #[.int .i64 c3, .int .i64 a3, .bool p3] 32)) (Nat.le_refl _)) (And.intro ((S9.out.2.2.2.2.1).later ((Below.refl _ w9).alloc (Nat.le_refl _) (.cells #[.int .i64 c3, .int .i64 a3, .bool p3] 32)) (Nat.le_refl _)) (And.intro ((S9.out.2.2.2.2.2.1).later ((Below.refl _ w9).alloc (Nat.le_refl _) (.cells #[.int .i64 c3, .int .i64 a3, .bool p3] 32)) (Nat.le_refl _)) (And.intro ((S9.out.2.2.2.2.2.2.1).later ((Below.refl _ w9).alloc (Nat.le_refl _) (.cells #[.int .i64 c3, .int .i64 a3, .bool p3] 32)) (Nat.le_refl _)) (And.intro ((S9.out.2.2.2.2.2.2.2.1).later ((Below.refl _ w9).alloc (Nat.le_refl _) (.cells #[.int .i64 c3, .int .i64 a3, .bool p3] 32)) (Nat.le_refl _)) (And.intro ((S9.out.2.2.2.2.2.2.2.2.1).later ((Below.refl _ w9).alloc (Nat.le_refl _) (.cells #[.int .i64 c3, .int .i64 a3, .bool p3] 32)) (Nat.le_refl _)) (And.intro ((S9.out.2.2.2.2.2.2.2.2.2.1).later ((Below.refl _ w9).alloc (Nat.le_refl _) (.cells #[.int .i64 c3, .int .i64 a3, .bool p3] 32)) (Nat.le_refl _)) (And.intro (Box.new w9 c3 a3 p3) ((S9.out.2.2.2.2.2.2.2.2.2.2).alloc (S9.out.2.2.2.2.2.2.2.2.2.2).size (.cells #[.int .i64 c3, .int .i64 a3, .bool p3] 32)))))))))))))
    go_wp2_with fail
    refine (awake02 _).mono ?_
    rintro e w11 ⟨rfl, b11⟩
    have S11 := Lib.hid (And.intro ((S10.out.1).later b11 (Nat.le_refl _)) (And.intro ((S10.out.2.1).later b11 (Nat.le_refl _)) (And.intro ((S10.out.2.2.1).later b11 (Nat.le_refl _)) (And.intro ((S10.out.2.2.2.1).later b11 (Nat.le_refl _)) (And.intro ((S10.out.2.2.2.2.1).later b11 (Nat.le_refl _)) (And.intro ((S10.out.2.2.2.2.2.1).later b11 (Nat.le_refl _)) (And.intro ((S10.out.2.2.2.2.2.2.1).later b11 (Nat.le_refl _)) (And.intro ((S10.out.2.2.2.2.2.2.2.1).later b11 (Nat.le_refl _)) (And.intro ((S10.out.2.2.2.2.2.2.2.2.1).later b11 (Nat.le_refl _)) (And.intro ((S10.out.2.2.2.2.2.2.2.2.2.1).later b11 (Nat.le_refl _)) (And.intro ((S10.out.2.2.2.2.2.2.2.2.2.2.1).later b11 (Nat.le_refl _)) ((S10.out.2.2.2.2.2.2.2.2.2.2.2).trans (b11.mono (S10.out.2.2.2.2.2.2.2.2.2.2.2).size)))))))))))))
    clear b11 
    obtain ⟨d0, d1, d2⟩ := (S11.out.2.2.2.2.1).cells
    go_wp2_with fail
    refine (is_told3 (S11.out.2.2.2.1) (S11.out.2.1)).mono ?_
    rintro e w12 ⟨rfl, b12⟩
    clear d0 d1 d2
    have S12 := Lib.hid (And.intro ((S11.out.1).later b12 (Nat.le_refl _)) (And.intro ((S11.out.2.1).later b12 (Nat.le_refl _)) (And.intro ((S11.out.2.2.1).later b12 (Nat.le_refl _)) (And.intro ((S11.out.2.2.2.1).later b12 (Nat.le_refl _)) (And.intro ((S11.out.2.2.2.2.1).later b12 (Nat.le_refl _)) (And.intro ((S11.out.2.2.2.2.2.1).later b12 (Nat.le_refl _)) (And.intro ((S11.out.2.2.2.2.2.2.1).later b12 (Nat.le_refl _)) (And.intro ((S11.out.2.2.2.2.2.2.2.1).later b12 (Nat.le_refl _)) (And.intro ((S11.out.2.2.2.2.2.2.2.2.1).later b12 (Nat.le_refl _)) (And.intro ((S11.out.2.2.2.2.2.2.2.2.2.1).later b12 (Nat.le_refl _)) (And.intro ((S11.out.2.2.2.2.2.2.2.2.2.2.1).later b12 (Nat.le_refl _)) ((S11.out.2.2.2.2.2.2.2.2.2.2.2).trans (b12.mono (S11.out.2.2.2.2.2.2.2.2.2.2.2).size)))))))))))))
    clear b12 
    obtain ⟨d0, d1, d2⟩ := (S12.out.2.2.2.2.2.2.1).cells
    go_wp2_with fail
    refine (is_told3 (S12.out.2.2.2.2.2.1) (S12.out.2.1)).mono ?_
    rintro e w13 ⟨rfl, b13⟩
    clear d0 d1 d2
    have S13 := Lib.hid (And.intro ((S12.out.1).later b13 (Nat.le_refl _)) (And.intro ((S12.out.2.1).later b13 (Nat.le_refl _)) (And.intro ((S12.out.2.2.1).later b13 (Nat.le_refl _)) (And.intro ((S12.out.2.2.2.1).later b13 (Nat.le_refl _)) (And.intro ((S12.out.2.2.2.2.1).later b13 (Nat.le_refl _)) (And.intro ((S12.out.2.2.2.2.2.1).later b13 (Nat.le_refl _)) (And.intro ((S12.out.2.2.2.2.2.2.1).later b13 (Nat.le_refl _)) (And.intro ((S12.out.2.2.2.2.2.2.2.1).later b13 (Nat.le_refl _)) (And.intro ((S12.out.2.2.2.2.2.2.2.2.1).later b13 (Nat.le_refl _)) (And.intro ((S12.out.2.2.2.2.2.2.2.2.2.1).later b13 (Nat.le_refl _)) (And.intro ((S12.out.2.2.2.2.2.2.2.2.2.2.1).later b13 (Nat.le_refl _)) ((S12.out.2.2.2.2.2.2.2.2.2.2.2).trans (b13.mono (S12.out.2.2.2.2.2.2.2.2.2.2.2).size)))))))))))))
    clear b13 
    go_wp2_with fail
    refine (bytes_same (S13.out.2.2.2.2.2.2.2.1) (S13.out.2.2.2.2.2.2.2.2.2.1)).mono ?_
    rintro e w' ⟨rfl, rfl⟩
    obtain ⟨d0, d1, d2⟩ := (S13.out.2.2.2.2.2.2.2.2.2.2.1).cells
    go_wp2_with fail
    refine (is_told3 (S13.out.2.2.2.2.2.2.2.2.1) (S13.out.2.1)).mono ?_
    rintro e w14 ⟨rfl, b14⟩
    clear d0 d1 d2
    have S14 := Lib.hid (And.intro ((S13.out.1).later b14 (Nat.le_refl _)) (And.intro ((S13.out.2.1).later b14 (Nat.le_refl _)) (And.intro ((S13.out.2.2.1).later b14 (Nat.le_refl _)) (And.intro ((S13.out.2.2.2.1).later b14 (Nat.le_refl _)) (And.intro ((S13.out.2.2.2.2.1).later b14 (Nat.le_refl _)) (And.intro ((S13.out.2.2.2.2.2.1).later b14 (Nat.le_refl _)) (And.intro ((S13.out.2.2.2.2.2.2.1).later b14 (Nat.le_refl _)) (And.intro ((S13.out.2.2.2.2.2.2.2.1).later b14 (Nat.le_refl _)) (And.intro ((S13.out.2.2.2.2.2.2.2.2.1).later b14 (Nat.le_refl _)) (And.intro ((S13.out.2.2.2.2.2.2.2.2.2.1).later b14 (Nat.le_refl _)) (And.intro ((S13.out.2.2.2.2.2.2.2.2.2.2.1).later b14 (Nat.le_refl _)) ((S13.out.2.2.2.2.2.2.2.2.2.2.2).trans (b14.mono (S13.out.2.2.2.2.2.2.2.2.2.2.2).size)))))))))))))
    clear b14 
    go_wp2_with fail
    refine (put16_any ((S14.out.2.2.1).bs (S14.out.1).len (by unfold maxLen; omega)) k (by omega)).mono ?_
    rintro e w15 ⟨v14, rfl, o14, b15⟩
    obtain ⟨A14, m14, rfl, hB⟩ := Bs.of_own o14
    have S15 := Lib.hid (And.intro ((S14.out.1).later b15 (Nat.le_refl _)) (And.intro ((S14.out.2.1).later b15 (Nat.le_refl _)) (And.intro ((S14.out.2.2.1).later b15 (Nat.le_refl _)) (And.intro ((S14.out.2.2.2.1).later b15 (Nat.le_refl _)) (And.intro ((S14.out.2.2.2.2.1).later b15 (Nat.le_refl _)) (And.intro ((S14.out.2.2.2.2.2.1).later b15 (Nat.le_refl _)) (And.intro ((S14.out.2.2.2.2.2.2.1).later b15 (Nat.le_refl _)) (And.intro ((S14.out.2.2.2.2.2.2.2.1).later b15 (Nat.le_refl _)) (And.intro ((S14.out.2.2.2.2.2.2.2.2.1).later b15 (Nat.le_refl _)) (And.intro ((S14.out.2.2.2.2.2.2.2.2.2.1).later b15 (Nat.le_refl _)) (And.intro ((S14.out.2.2.2.2.2.2.2.2.2.2.1).later b15 (Nat.le_refl _)) (And.intro (hB) ((S14.out.2.2.2.2.2.2.2.2.2.2.2).trans (b15.mono (S14.out.2.2.2.2.2.2.2.2.2.2.2).size))))))))))))))
    clear b15 o14 hB
    go_wp2_with fail
    refine (ref_put (S15.out.1) k 2 (by omega) (by omega)).mono ?_
    rintro e w16 ⟨v15, rfl, o15, b16⟩
    obtain ⟨A15, m15, rfl, hB⟩ := Bs.of_own o15
    have S16 := Lib.hid (And.intro ((S15.out.1).later b16 (Nat.le_refl _)) (And.intro ((S15.out.2.1).later b16 (Nat.le_refl _)) (And.intro ((S15.out.2.2.1).later b16 (Nat.le_refl _)) (And.intro ((S15.out.2.2.2.1).later b16 (Nat.le_refl _)) (And.intro ((S15.out.2.2.2.2.1).later b16 (Nat.le_refl _)) (And.intro ((S15.out.2.2.2.2.2.1).later b16 (Nat.le_refl _)) (And.intro ((S15.out.2.2.2.2.2.2.1).later b16 (Nat.le_refl _)) (And.intro ((S15.out.2.2.2.2.2.2.2.1).later b16 (Nat.le_refl _)) (And.intro ((S15.out.2.2.2.2.2.2.2.2.1).later b16 (Nat.le_refl _)) (And.intro ((S15.out.2.2.2.2.2.2.2.2.2.1).later b16 (Nat.le_refl _)) (And.intro ((S15.out.2.2.2.2.2.2.2.2.2.2.1).later b16 (Nat.le_refl _)) (And.intro ((S15.out.2.2.2.2.2.2.2.2.2.2.2.1).later b16 (Nat.le_refl _)) (And.intro (hB) ((S15.out.2.2.2.2.2.2.2.2.2.2.2.2).trans (b16.mono (S15.out.2.2.2.2.2.2.2.2.2.2.2.2).size)))))))))))))))
    clear b16 o15 hB
    go_wp2_with fail
    refine (bytes_same (S16.out.2.2.2.2.2.2.2.2.2.2.2.1) (S16.out.2.2.2.2.2.2.2.2.2.2.2.2.1)).mono ?_
    rintro e w' ⟨rfl, rfl⟩
    go_wp2_with fail
    refine (put32_any ((S16.out.2.2.1).bs (S16.out.1).len (by unfold maxLen; omega)) v h0 h32 (by omega)).mono ?_
    rintro e w17 ⟨v16, rfl, o16, b17⟩
    obtain ⟨A16, m16, rfl, hB⟩ := Bs.of_own o16
    have S17 := Lib.hid (And.intro ((S16.out.1).later b17 (Nat.le_refl _)) (And.intro ((S16.out.2.1).later b17 (Nat.le_refl _)) (And.intro ((S16.out.2.2.1).later b17 (Nat.le_refl _)) (And.intro (hB) ((S16.out.2.2.2.2.2.2.2.2.2.2.2.2.2).trans (b17.mono (S16.out.2.2.2.2.2.2.2.2.2.2.2.2.2).size))))))
    clear b17 o16 hB
    go_wp2_with fail
    refine (ref_put (S17.out.1) v 4 (by omega) (by omega)).mono ?_
    rintro e w18 ⟨v17, rfl, o17, b18⟩
    obtain ⟨A17, m17, rfl, hB⟩ := Bs.of_own o17
    have S18 := Lib.hid (And.intro ((S17.out.1).later b18 (Nat.le_refl _)) (And.intro ((S17.out.2.1).later b18 (Nat.le_refl _)) (And.intro ((S17.out.2.2.1).later b18 (Nat.le_refl _)) (And.intro ((S17.out.2.2.2.1).later b18 (Nat.le_refl _)) (And.intro (hB) ((S17.out.2.2.2.2).trans (b18.mono (S17.out.2.2.2.2).size)))))))
    clear b18 o17 hB
    go_wp2_with fail
    refine (bytes_same (S18.out.2.2.2.1) (S18.out.2.2.2.2.1)).mono ?_
    rintro e w' ⟨rfl, rfl⟩
    go_wp2_with fail
    refine (kept_any (S18.out.2.2.1) (S18.out.1) (by omega)).mono ?_
    rintro e w19 ⟨rfl, b19⟩
    have S19 := Lib.hid (And.intro ((S18.out.1).later b19 (Nat.le_refl _)) (And.intro ((S18.out.2.1).later b19 (Nat.le_refl _)) (And.intro ((S18.out.2.2.1).later b19 (Nat.le_refl _)) (And.intro ((S18.out.2.2.2.1).later b19 (Nat.le_refl _)) (And.intro ((S18.out.2.2.2.2.1).later b19 (Nat.le_refl _)) ((S18.out.2.2.2.2.2).trans (b19.mono (S18.out.2.2.2.2.2).size)))))))
    clear b19 
    go_wp2_with fail
    go_ret
    exact ⟨rfl, (S19.out.2.2.2.2.2)⟩
end Go.Proofs.YtpjacgnhpcegaaaDoor
