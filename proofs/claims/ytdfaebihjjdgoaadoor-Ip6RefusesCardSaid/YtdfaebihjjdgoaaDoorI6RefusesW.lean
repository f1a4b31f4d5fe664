/-
  stockadelaw07.Ip6Refuses answers true, whatever is handed in. Conditions: those of the slice; errors.errorType holds the handle of the type error.
-/
import Derived.Test.YtdfaebihjjdgoaaDoorAwake07
namespace Go.Proofs.YtdfaebihjjdgoaaDoor
open Go.RowKit
set_option maxRecDepth 100000

theorem mod8 (a : Int) : (IntKind.u64.wrap a).tmod 8 = 0 ∨ (IntKind.u64.wrap a).tmod 8 = 1 ∨ (IntKind.u64.wrap a).tmod 8 = 2 ∨ (IntKind.u64.wrap a).tmod 8 = 3 ∨ (IntKind.u64.wrap a).tmod 8 = 4 ∨ (IntKind.u64.wrap a).tmod 8 = 5 ∨ (IntKind.u64.wrap a).tmod 8 = 6 ∨ (IntKind.u64.wrap a).tmod 8 = 7 := by
  have h : IntKind.u64.wrap a = a % 18446744073709551616 := rfl
  have h2 : 0 ≤ IntKind.u64.wrap a := by rw [h]; omega
  rw [Int.tmod_eq_emod_of_nonneg h2]
  omega
theorem no_case {sv dv : Bool} {proto : Int} {ks : List Int} {n : Nat} (h : sv = false ∨ dv = false ∨ (proto < 0 ∨ 255 < proto) ∨ ext proto ∨ 8 < ks.length ∨ ∃ i k, ks[i]? = some k ∧ (ext k → k = 0 ∧ i ≠ 0)) : ¬ may6 sv dv proto ks n := by
  intro hm
  obtain ⟨h1, h2, h3, h4, h5, h6, _⟩ := hm
  rcases h with h | h | h | h | h | ⟨i, k, hi, hk⟩
  · rw [h] at h1; cases h1
  · rw [h] at h2; cases h2
  · omega
  · exact h4 h
  · omega
  · obtain ⟨hx, h0⟩ := h6 i k hi
    obtain ⟨e, hn⟩ := hk hx
    exact hn (h0 e)

set_option maxHeartbeats 4000000 in
theorem ip6Refuses {A : Option Addr} {n c : Nat} {l : List UInt8} {w : World} (hb : Bs w A n c l) (what : Int) (hg : Handle w) : Calls Tryd.prog 5 #[.int .i64 what, .slice A n c] w fun e w' => e = .returned (.bool true) ∧ Below w.heap.size w w' := by
  have hm := Nat.le_trans hb.cap hb.max
  unfold maxLen at hm
  have HG := Lib.hid hg
  have HB := Lib.hid hb
  clear hb hg
  by_cases hbig : 500 < n
  · have hq : (500 : Int) < (n : Int) := by omega
    go_enter Tryd.func5, Tryd.ntmps5
    go_wp2_with fail
    refine (awake07 _).mono ?_
    rintro e w1 ⟨rfl, h1⟩
    have H1 := Lib.hid h1
    clear h1
    go_wp2_with fail
    go_ret
    exact ⟨rfl, H1.out⟩
  have hq : ¬ (500 : Int) < (n : Int) := by omega
  rcases mod8 what with hc | hc | hc | hc | hc | hc | hc | hc
  · have HNO := Lib.hid (no_case (sv := false) (dv := true) (proto := 17) (ks := []) (n := n) (.inl rfl))
    go_enter Tryd.func5, Tryd.ntmps5
    go_wp2_with (first
      | (refine wpList_load_ad rfl (.tmp 5) rfl rfl HF.out.1 ?_)
      | (refine wpList_load_ad rfl (.tmp 6) rfl rfl HF.out.2.1 ?_)
      | (refine wpList_store_ad rfl (.tmp 5) (.tmp 22) rfl false z16' rfl rfl rfl H4.out.1 ?_; intro w5 a5 o5 z5 b5; have HF := Lib.hid (And.intro a5 (And.intro (H4.out.2.1.same (o5 _ (Ne.symm (Nat.ne_of_lt H1.out.1.lt)))) (b5 w.heap.size w (Nat.le_refl _) H4.out.2.2))); clear a5 o5 z5 b5)
      | (refine wpList_store_ad rfl (.tmp 6) (.tmp 16) rfl true z16' rfl rfl rfl H3.out.2.1 ?_; intro w4 a4 o4 z4 b4; have H4 := Lib.hid (And.intro (H3.out.1.same (o4 _ (Nat.ne_of_lt H1.out.1.lt))) (And.intro a4 (b4 w.heap.size w H1.out.2.size H3.out.2.2))); clear a4 o4 z4 b4)
      | (refine wpList_store_ad rfl (.tmp 5) (.tmp 15) rfl true z16' rfl rfl rfl H2.out.1 ?_; intro w3 a3 o3 z3 b3; have H3 := Lib.hid (And.intro a3 (And.intro (H2.out.2.1.same (o3 _ (Ne.symm (Nat.ne_of_lt H1.out.1.lt)))) (b3 w.heap.size w (Nat.le_refl _) H2.out.2.2))); clear a3 o3 z3 b3)
      | (have hq1 := H1.out.2; refine wpList_alloc_ad rfl rfl ?_; intro w2 a2 b2 z2; have H2 := Lib.hid (And.intro (H1.out.1.later b2 (Nat.le_refl _)) (And.intro a2 (H1.out.2.trans (b2.mono H1.out.2.size)))); clear a2 b2 z2 hq1)
      | (refine wpList_alloc_ad rfl rfl ?_; intro w1 a1 b1 z1; have H1 := Lib.hid (And.intro a1 b1); clear a1 b1 z1))
    have B5 := Lib.hid HF.out.2.2
    refine (build_ip6 false true (sb := z16') (db := z16') rfl rfl 17 (zs := []) (Gs.nil _) (HB.out.later B5.out (Nat.le_refl _))).mono ?_
    rintro e w6 ⟨A1, n1, c1, v1, rfl, q1, t1, b1⟩
    rw [(build_no6 HNO.out _ _ _).1] at q1
    rw [(build_no6 HNO.out [] [] []).2] at t1
    obtain rfl : 0 = n1 := q1.len
    have H6 := Lib.hid (And.intro t1 (B5.out.trans (b1.mono B5.out.size)))
    clear q1 t1 b1
    go_wp2_with fail
    refine (awake07 _).mono ?_
    rintro e w7 ⟨rfl, b7⟩
    have H7 := Lib.hid (And.intro (H6.out.1.later b7 (Nat.le_refl _)) (H6.out.2.trans (b7.mono H6.out.2.size)))
    clear b7
    go_wp2_with fail
    refine (help_bare 1 _).mono ?_
    rintro e w8 ⟨rfl, b8⟩
    have H8 := Lib.hid (And.intro (H7.out.1.later b8 (Nat.le_refl _)) (H7.out.2.trans (b8.mono H7.out.2.size)))
    clear b8
    go_wp2_with fail
    refine (is_told3 H8.out.1 (HG.out.later H8.out.2 (Nat.le_refl _))).mono ?_
    rintro e w9 ⟨rfl, b9⟩
    have H9 := Lib.hid (H8.out.2.trans (b9.mono H8.out.2.size))
    clear b9
    go_wp2_with fail
    go_ret
    exact ⟨rfl, H9.out⟩
  · have HNO := Lib.hid (no_case (sv := true) (dv := false) (proto := 17) (ks := []) (n := n) (.inr (.inl rfl)))
    go_enter Tryd.func5, Tryd.ntmps5
    go_wp2_with (first
      | (refine wpList_load_ad rfl (.tmp 5) rfl rfl HF.out.1 ?_)
      | (refine wpList_load_ad rfl (.tmp 6) rfl rfl HF.out.2.1 ?_)
      | (refine wpList_store_ad rfl (.tmp 6) (.tmp 25) rfl false z16' rfl rfl rfl H4.out.2.1 ?_; intro w5 a5 o5 z5 b5; have HF := Lib.hid (And.intro (H4.out.1.same (o5 _ (Nat.ne_of_lt H1.out.1.lt))) (And.intro a5 (b5 w.heap.size w H1.out.2.size H4.out.2.2))); clear a5 o5 z5 b5)
      | (refine wpList_store_ad rfl (.tmp 6) (.tmp 16) rfl true z16' rfl rfl rfl H3.out.2.1 ?_; intro w4 a4 o4 z4 b4; have H4 := Lib.hid (And.intro (H3.out.1.same (o4 _ (Nat.ne_of_lt H1.out.1.lt))) (And.intro a4 (b4 w.heap.size w H1.out.2.size H3.out.2.2))); clear a4 o4 z4 b4)
      | (refine wpList_store_ad rfl (.tmp 5) (.tmp 15) rfl true z16' rfl rfl rfl H2.out.1 ?_; intro w3 a3 o3 z3 b3; have H3 := Lib.hid (And.intro a3 (And.intro (H2.out.2.1.same (o3 _ (Ne.symm (Nat.ne_of_lt H1.out.1.lt)))) (b3 w.heap.size w (Nat.le_refl _) H2.out.2.2))); clear a3 o3 z3 b3)
      | (have hq1 := H1.out.2; refine wpList_alloc_ad rfl rfl ?_; intro w2 a2 b2 z2; have H2 := Lib.hid (And.intro (H1.out.1.later b2 (Nat.le_refl _)) (And.intro a2 (H1.out.2.trans (b2.mono H1.out.2.size)))); clear a2 b2 z2 hq1)
      | (refine wpList_alloc_ad rfl rfl ?_; intro w1 a1 b1 z1; have H1 := Lib.hid (And.intro a1 b1); clear a1 b1 z1))
    have B5 := Lib.hid HF.out.2.2
    refine (build_ip6 true false (sb := z16') (db := z16') rfl rfl 17 (zs := []) (Gs.nil _) (HB.out.later B5.out (Nat.le_refl _))).mono ?_
    rintro e w6 ⟨A1, n1, c1, v1, rfl, q1, t1, b1⟩
    rw [(build_no6 HNO.out _ _ _).1] at q1
    rw [(build_no6 HNO.out [] [] []).2] at t1
    obtain rfl : 0 = n1 := q1.len
    have H6 := Lib.hid (And.intro t1 (B5.out.trans (b1.mono B5.out.size)))
    clear q1 t1 b1
    go_wp2_with fail
    refine (awake07 _).mono ?_
    rintro e w7 ⟨rfl, b7⟩
    have H7 := Lib.hid (And.intro (H6.out.1.later b7 (Nat.le_refl _)) (H6.out.2.trans (b7.mono H6.out.2.size)))
    clear b7
    go_wp2_with fail
    refine (help_bare 1 _).mono ?_
    rintro e w8 ⟨rfl, b8⟩
    have H8 := Lib.hid (And.intro (H7.out.1.later b8 (Nat.le_refl _)) (H7.out.2.trans (b8.mono H7.out.2.size)))
    clear b8
    go_wp2_with fail
    refine (is_told3 H8.out.1 (HG.out.later H8.out.2 (Nat.le_refl _))).mono ?_
    rintro e w9 ⟨rfl, b9⟩
    have H9 := Lib.hid (H8.out.2.trans (b9.mono H8.out.2.size))
    clear b9
    go_wp2_with fail
    go_ret
    exact ⟨rfl, H9.out⟩
  · have HNO := Lib.hid (no_case (sv := true) (dv := true) (proto := 60) (ks := []) (n := n) (.inr (.inr (.inr (.inl (by decide))))))
    go_enter Tryd.func5, Tryd.ntmps5
    go_wp2_with (first
      | (refine wpList_load_ad rfl (.tmp 5) rfl rfl H4.out.1 ?_)
      | (refine wpList_load_ad rfl (.tmp 6) rfl rfl H4.out.2.1 ?_)
      | (refine wpList_store_ad rfl (.tmp 6) (.tmp 16) rfl true z16' rfl rfl rfl H3.out.2.1 ?_; intro w4 a4 o4 z4 b4; have H4 := Lib.hid (And.intro (H3.out.1.same (o4 _ (Nat.ne_of_lt H1.out.1.lt))) (And.intro a4 (b4 w.heap.size w H1.out.2.size H3.out.2.2))); clear a4 o4 z4 b4)
      | (refine wpList_store_ad rfl (.tmp 5) (.tmp 15) rfl true z16' rfl rfl rfl H2.out.1 ?_; intro w3 a3 o3 z3 b3; have H3 := Lib.hid (And.intro a3 (And.intro (H2.out.2.1.same (o3 _ (Ne.symm (Nat.ne_of_lt H1.out.1.lt)))) (b3 w.heap.size w (Nat.le_refl _) H2.out.2.2))); clear a3 o3 z3 b3)
      | (have hq1 := H1.out.2; refine wpList_alloc_ad rfl rfl ?_; intro w2 a2 b2 z2; have H2 := Lib.hid (And.intro (H1.out.1.later b2 (Nat.le_refl _)) (And.intro a2 (H1.out.2.trans (b2.mono H1.out.2.size)))); clear a2 b2 z2 hq1)
      | (refine wpList_alloc_ad rfl rfl ?_; intro w1 a1 b1 z1; have H1 := Lib.hid (And.intro a1 b1); clear a1 b1 z1))
    have B5 := Lib.hid H4.out.2.2
    refine (build_ip6 true true (sb := z16') (db := z16') rfl rfl 60 (zs := []) (Gs.nil _) (HB.out.later B5.out (Nat.le_refl _))).mono ?_
    rintro e w6 ⟨A1, n1, c1, v1, rfl, q1, t1, b1⟩
    rw [(build_no6 HNO.out _ _ _).1] at q1
    rw [(build_no6 HNO.out [] [] []).2] at t1
    obtain rfl : 0 = n1 := q1.len
    have H6 := Lib.hid (And.intro t1 (B5.out.trans (b1.mono B5.out.size)))
    clear q1 t1 b1
    go_wp2_with fail
    refine (awake07 _).mono ?_
    rintro e w7 ⟨rfl, b7⟩
    have H7 := Lib.hid (And.intro (H6.out.1.later b7 (Nat.le_refl _)) (H6.out.2.trans (b7.mono H6.out.2.size)))
    clear b7
    go_wp2_with fail
    refine (help_bare 1 _).mono ?_
    rintro e w8 ⟨rfl, b8⟩
    have H8 := Lib.hid (And.intro (H7.out.1.later b8 (Nat.le_refl _)) (H7.out.2.trans (b8.mono H7.out.2.size)))
    clear b8
    go_wp2_with fail
    refine (is_told3 H8.out.1 (HG.out.later H8.out.2 (Nat.le_refl _))).mono ?_
    rintro e w9 ⟨rfl, b9⟩
    have H9 := Lib.hid (H8.out.2.trans (b9.mono H8.out.2.size))
    clear b9
    go_wp2_with fail
    go_ret
    exact ⟨rfl, H9.out⟩
  · have HNO := Lib.hid (no_case (sv := true) (dv := true) (proto := 256) (ks := []) (n := n) (.inr (.inr (.inl (by omega)))))
    go_enter Tryd.func5, Tryd.ntmps5
    go_wp2_with (first
      | (refine wpList_load_ad rfl (.tmp 5) rfl rfl H4.out.1 ?_)
      | (refine wpList_load_ad rfl (.tmp 6) rfl rfl H4.out.2.1 ?_)
      | (refine wpList_store_ad rfl (.tmp 6) (.tmp 16) rfl true z16' rfl rfl rfl H3.out.2.1 ?_; intro w4 a4 o4 z4 b4; have H4 := Lib.hid (And.intro (H3.out.1.same (o4 _ (Nat.ne_of_lt H1.out.1.lt))) (And.intro a4 (b4 w.heap.size w H1.out.2.size H3.out.2.2))); clear a4 o4 z4 b4)
      | (refine wpList_store_ad rfl (.tmp 5) (.tmp 15) rfl true z16' rfl rfl rfl H2.out.1 ?_; intro w3 a3 o3 z3 b3; have H3 := Lib.hid (And.intro a3 (And.intro (H2.out.2.1.same (o3 _ (Ne.symm (Nat.ne_of_lt H1.out.1.lt)))) (b3 w.heap.size w (Nat.le_refl _) H2.out.2.2))); clear a3 o3 z3 b3)
      | (have hq1 := H1.out.2; refine wpList_alloc_ad rfl rfl ?_; intro w2 a2 b2 z2; have H2 := Lib.hid (And.intro (H1.out.1.later b2 (Nat.le_refl _)) (And.intro a2 (H1.out.2.trans (b2.mono H1.out.2.size)))); clear a2 b2 z2 hq1)
      | (refine wpList_alloc_ad rfl rfl ?_; intro w1 a1 b1 z1; have H1 := Lib.hid (And.intro a1 b1); clear a1 b1 z1))
    have B5 := Lib.hid H4.out.2.2
    refine (build_ip6 true true (sb := z16') (db := z16') rfl rfl 256 (zs := []) (Gs.nil _) (HB.out.later B5.out (Nat.le_refl _))).mono ?_
    rintro e w6 ⟨A1, n1, c1, v1, rfl, q1, t1, b1⟩
    rw [(build_no6 HNO.out _ _ _).1] at q1
    rw [(build_no6 HNO.out [] [] []).2] at t1
    obtain rfl : 0 = n1 := q1.len
    have H6 := Lib.hid (And.intro t1 (B5.out.trans (b1.mono B5.out.size)))
    clear q1 t1 b1
    go_wp2_with fail
    refine (awake07 _).mono ?_
    rintro e w7 ⟨rfl, b7⟩
    have H7 := Lib.hid (And.intro (H6.out.1.later b7 (Nat.le_refl _)) (H6.out.2.trans (b7.mono H6.out.2.size)))
    clear b7
    go_wp2_with fail
    refine (help_bare 1 _).mono ?_
    rintro e w8 ⟨rfl, b8⟩
    have H8 := Lib.hid (And.intro (H7.out.1.later b8 (Nat.le_refl _)) (H7.out.2.trans (b8.mono H7.out.2.size)))
    clear b8
    go_wp2_with fail
    refine (is_told3 H8.out.1 (HG.out.later H8.out.2 (Nat.le_refl _))).mono ?_
    rintro e w9 ⟨rfl, b9⟩
    have H9 := Lib.hid (H8.out.2.trans (b9.mono H8.out.2.size))
    clear b9
    go_wp2_with fail
    go_ret
    exact ⟨rfl, H9.out⟩
  · have HNO := Lib.hid (no_case (sv := true) (dv := true) (proto := 17) (ks := [60, 0]) (n := n) (.inr (.inr (.inr (.inr (.inr ⟨1, 0, rfl, fun _ => ⟨rfl, by omega⟩⟩))))))
    go_enter Tryd.func5, Tryd.ntmps5
    go_wp2_with (first
      | (refine wpList_load_ad rfl (.tmp 5) rfl rfl (H4.out.1.later ((Below.refl _ w4).alloc (Nat.le_refl _) _) (Nat.le_refl _)) ?_)
      | (refine wpList_load_ad rfl (.tmp 6) rfl rfl (H4.out.2.1.later ((Below.refl _ w4).alloc (Nat.le_refl _) _) (Nat.le_refl _)) ?_)
      | (refine wpList_store_ad rfl (.tmp 6) (.tmp 16) rfl true z16' rfl rfl rfl H3.out.2.1 ?_; intro w4 a4 o4 z4 b4; have H4 := Lib.hid (And.intro (H3.out.1.same (o4 _ (Nat.ne_of_lt H1.out.1.lt))) (And.intro a4 (b4 w.heap.size w H1.out.2.size H3.out.2.2))); clear a4 o4 z4 b4)
      | (refine wpList_store_ad rfl (.tmp 5) (.tmp 15) rfl true z16' rfl rfl rfl H2.out.1 ?_; intro w3 a3 o3 z3 b3; have H3 := Lib.hid (And.intro a3 (And.intro (H2.out.2.1.same (o3 _ (Ne.symm (Nat.ne_of_lt H1.out.1.lt)))) (b3 w.heap.size w (Nat.le_refl _) H2.out.2.2))); clear a3 o3 z3 b3)
      | (have hq1 := H1.out.2; refine wpList_alloc_ad rfl rfl ?_; intro w2 a2 b2 z2; have H2 := Lib.hid (And.intro (H1.out.1.later b2 (Nat.le_refl _)) (And.intro a2 (H1.out.2.trans (b2.mono H1.out.2.size)))); clear a2 b2 z2 hq1)
      | (refine wpList_alloc_ad rfl rfl ?_; intro w1 a1 b1 z1; have H1 := Lib.hid (And.intro a1 b1); clear a1 b1 z1))
    have B5 := Lib.hid (H4.out.2.2.alloc H4.out.2.2.size (.cells #[.int .i64 60, .int .i64 0] 3))
    refine (build_ip6 true true (sb := z16') (db := z16') rfl rfl 17 (zs := [60, 0]) (Gs.lit w4 (zv [60, 0]) 2 rfl (by unfold maxLen; omega) #[.int .i64 60, .int .i64 0] rfl 3) (HB.out.later B5.out (Nat.le_refl _))).mono ?_
    rintro e w6 ⟨A1, n1, c1, v1, rfl, q1, t1, b1⟩
    rw [(build_no6 HNO.out _ _ _).1] at q1
    rw [(build_no6 HNO.out [] [] []).2] at t1
    obtain rfl : 0 = n1 := q1.len
    have H6 := Lib.hid (And.intro t1 (B5.out.trans (b1.mono B5.out.size)))
    clear q1 t1 b1
    go_wp2_with fail
    refine (awake07 _).mono ?_
    rintro e w7 ⟨rfl, b7⟩
    have H7 := Lib.hid (And.intro (H6.out.1.later b7 (Nat.le_refl _)) (H6.out.2.trans (b7.mono H6.out.2.size)))
    clear b7
    go_wp2_with fail
    refine (help_bare 1 _).mono ?_
    rintro e w8 ⟨rfl, b8⟩
    have H8 := Lib.hid (And.intro (H7.out.1.later b8 (Nat.le_refl _)) (H7.out.2.trans (b8.mono H7.out.2.size)))
    clear b8
    go_wp2_with fail
    refine (is_told3 H8.out.1 (HG.out.later H8.out.2 (Nat.le_refl _))).mono ?_
    rintro e w9 ⟨rfl, b9⟩
    have H9 := Lib.hid (H8.out.2.trans (b9.mono H8.out.2.size))
    clear b9
    go_wp2_with fail
    go_ret
    exact ⟨rfl, H9.out⟩
  · have HNO := Lib.hid (no_case (sv := true) (dv := true) (proto := 17) (ks := [17]) (n := n) (.inr (.inr (.inr (.inr (.inr ⟨0, 17, rfl, fun h => absurd h (by decide)⟩))))))
    go_enter Tryd.func5, Tryd.ntmps5
    go_wp2_with (first
      | (refine wpList_load_ad rfl (.tmp 5) rfl rfl (H4.out.1.later ((Below.refl _ w4).alloc (Nat.le_refl _) _) (Nat.le_refl _)) ?_)
      | (refine wpList_load_ad rfl (.tmp 6) rfl rfl (H4.out.2.1.later ((Below.refl _ w4).alloc (Nat.le_refl _) _) (Nat.le_refl _)) ?_)
      | (refine wpList_store_ad rfl (.tmp 6) (.tmp 16) rfl true z16' rfl rfl rfl H3.out.2.1 ?_; intro w4 a4 o4 z4 b4; have H4 := Lib.hid (And.intro (H3.out.1.same (o4 _ (Nat.ne_of_lt H1.out.1.lt))) (And.intro a4 (b4 w.heap.size w H1.out.2.size H3.out.2.2))); clear a4 o4 z4 b4)
      | (refine wpList_store_ad rfl (.tmp 5) (.tmp 15) rfl true z16' rfl rfl rfl H2.out.1 ?_; intro w3 a3 o3 z3 b3; have H3 := Lib.hid (And.intro a3 (And.intro (H2.out.2.1.same (o3 _ (Ne.symm (Nat.ne_of_lt H1.out.1.lt)))) (b3 w.heap.size w (Nat.le_refl _) H2.out.2.2))); clear a3 o3 z3 b3)
      | (have hq1 := H1.out.2; refine wpList_alloc_ad rfl rfl ?_; intro w2 a2 b2 z2; have H2 := Lib.hid (And.intro (H1.out.1.later b2 (Nat.le_refl _)) (And.intro a2 (H1.out.2.trans (b2.mono H1.out.2.size)))); clear a2 b2 z2 hq1)
      | (refine wpList_alloc_ad rfl rfl ?_; intro w1 a1 b1 z1; have H1 := Lib.hid (And.intro a1 b1); clear a1 b1 z1))
    have B5 := Lib.hid (H4.out.2.2.alloc H4.out.2.2.size (.cells #[.int .i64 17] 3))
    refine (build_ip6 true true (sb := z16') (db := z16') rfl rfl 17 (zs := [17]) (Gs.lit w4 (zv [17]) 1 rfl (by unfold maxLen; omega) #[.int .i64 17] rfl 3) (HB.out.later B5.out (Nat.le_refl _))).mono ?_
    rintro e w6 ⟨A1, n1, c1, v1, rfl, q1, t1, b1⟩
    rw [(build_no6 HNO.out _ _ _).1] at q1
    rw [(build_no6 HNO.out [] [] []).2] at t1
    obtain rfl : 0 = n1 := q1.len
    have H6 := Lib.hid (And.intro t1 (B5.out.trans (b1.mono B5.out.size)))
    clear q1 t1 b1
    go_wp2_with fail
    refine (awake07 _).mono ?_
    rintro e w7 ⟨rfl, b7⟩
    have H7 := Lib.hid (And.intro (H6.out.1.later b7 (Nat.le_refl _)) (H6.out.2.trans (b7.mono H6.out.2.size)))
    clear b7
    go_wp2_with fail
    refine (help_bare 1 _).mono ?_
    rintro e w8 ⟨rfl, b8⟩
    have H8 := Lib.hid (And.intro (H7.out.1.later b8 (Nat.le_refl _)) (H7.out.2.trans (b8.mono H7.out.2.size)))
    clear b8
    go_wp2_with fail
    refine (is_told3 H8.out.1 (HG.out.later H8.out.2 (Nat.le_refl _))).mono ?_
    rintro e w9 ⟨rfl, b9⟩
    have H9 := Lib.hid (H8.out.2.trans (b9.mono H8.out.2.size))
    clear b9
    go_wp2_with fail
    go_ret
    exact ⟨rfl, H9.out⟩
  · have HNO := Lib.hid (no_case (sv := true) (dv := true) (proto := 17) (ks := [60, 60, 60, 60, 60, 60, 60, 60, 60]) (n := n) (.inr (.inr (.inr (.inr (.inl (by decide)))))))
    go_enter Tryd.func5, Tryd.ntmps5
    go_wp2_with (first
      | (refine wpList_load_ad rfl (.tmp 5) rfl rfl (H4.out.1.later ((Below.refl _ w4).alloc (Nat.le_refl _) _) (Nat.le_refl _)) ?_)
      | (refine wpList_load_ad rfl (.tmp 6) rfl rfl (H4.out.2.1.later ((Below.refl _ w4).alloc (Nat.le_refl _) _) (Nat.le_refl _)) ?_)
      | (refine wpList_store_ad rfl (.tmp 6) (.tmp 16) rfl true z16' rfl rfl rfl H3.out.2.1 ?_; intro w4 a4 o4 z4 b4; have H4 := Lib.hid (And.intro (H3.out.1.same (o4 _ (Nat.ne_of_lt H1.out.1.lt))) (And.intro a4 (b4 w.heap.size w H1.out.2.size H3.out.2.2))); clear a4 o4 z4 b4)
      | (refine wpList_store_ad rfl (.tmp 5) (.tmp 15) rfl true z16' rfl rfl rfl H2.out.1 ?_; intro w3 a3 o3 z3 b3; have H3 := Lib.hid (And.intro a3 (And.intro (H2.out.2.1.same (o3 _ (Ne.symm (Nat.ne_of_lt H1.out.1.lt)))) (b3 w.heap.size w (Nat.le_refl _) H2.out.2.2))); clear a3 o3 z3 b3)
      | (have hq1 := H1.out.2; refine wpList_alloc_ad rfl rfl ?_; intro w2 a2 b2 z2; have H2 := Lib.hid (And.intro (H1.out.1.later b2 (Nat.le_refl _)) (And.intro a2 (H1.out.2.trans (b2.mono H1.out.2.size)))); clear a2 b2 z2 hq1)
      | (refine wpList_alloc_ad rfl rfl ?_; intro w1 a1 b1 z1; have H1 := Lib.hid (And.intro a1 b1); clear a1 b1 z1))
    have B5 := Lib.hid (H4.out.2.2.alloc H4.out.2.2.size (.cells #[.int .i64 60, .int .i64 60, .int .i64 60, .int .i64 60, .int .i64 60, .int .i64 60, .int .i64 60, .int .i64 60, .int .i64 60] 3))
    refine (build_ip6 true true (sb := z16') (db := z16') rfl rfl 17 (zs := [60, 60, 60, 60, 60, 60, 60, 60, 60]) (Gs.lit w4 (zv [60, 60, 60, 60, 60, 60, 60, 60, 60]) 9 rfl (by unfold maxLen; omega) #[.int .i64 60, .int .i64 60, .int .i64 60, .int .i64 60, .int .i64 60, .int .i64 60, .int .i64 60, .int .i64 60, .int .i64 60] rfl 3) (HB.out.later B5.out (Nat.le_refl _))).mono ?_
    rintro e w6 ⟨A1, n1, c1, v1, rfl, q1, t1, b1⟩
    rw [(build_no6 HNO.out _ _ _).1] at q1
    rw [(build_no6 HNO.out [] [] []).2] at t1
    obtain rfl : 0 = n1 := q1.len
    have H6 := Lib.hid (And.intro t1 (B5.out.trans (b1.mono B5.out.size)))
    clear q1 t1 b1
    go_wp2_with fail
    refine (awake07 _).mono ?_
    rintro e w7 ⟨rfl, b7⟩
    have H7 := Lib.hid (And.intro (H6.out.1.later b7 (Nat.le_refl _)) (H6.out.2.trans (b7.mono H6.out.2.size)))
    clear b7
    go_wp2_with fail
    refine (help_bare 1 _).mono ?_
    rintro e w8 ⟨rfl, b8⟩
    have H8 := Lib.hid (And.intro (H7.out.1.later b8 (Nat.le_refl _)) (H7.out.2.trans (b8.mono H7.out.2.size)))
    clear b8
    go_wp2_with fail
    refine (is_told3 H8.out.1 (HG.out.later H8.out.2 (Nat.le_refl _))).mono ?_
    rintro e w9 ⟨rfl, b9⟩
    have H9 := Lib.hid (H8.out.2.trans (b9.mono H8.out.2.size))
    clear b9
    go_wp2_with fail
    go_ret
    exact ⟨rfl, H9.out⟩
  · have HNO := Lib.hid (no_case (sv := true) (dv := true) (proto := (-1)) (ks := []) (n := n) (.inr (.inr (.inl (by omega)))))
    go_enter Tryd.func5, Tryd.ntmps5
    go_wp2_with (first
      | (refine wpList_load_ad rfl (.tmp 5) rfl rfl H4.out.1 ?_)
      | (refine wpList_load_ad rfl (.tmp 6) rfl rfl H4.out.2.1 ?_)
      | (refine wpList_store_ad rfl (.tmp 6) (.tmp 16) rfl true z16' rfl rfl rfl H3.out.2.1 ?_; intro w4 a4 o4 z4 b4; have H4 := Lib.hid (And.intro (H3.out.1.same (o4 _ (Nat.ne_of_lt H1.out.1.lt))) (And.intro a4 (b4 w.heap.size w H1.out.2.size H3.out.2.2))); clear a4 o4 z4 b4)
      | (refine wpList_store_ad rfl (.tmp 5) (.tmp 15) rfl true z16' rfl rfl rfl H2.out.1 ?_; intro w3 a3 o3 z3 b3; have H3 := Lib.hid (And.intro a3 (And.intro (H2.out.2.1.same (o3 _ (Ne.symm (Nat.ne_of_lt H1.out.1.lt)))) (b3 w.heap.size w (Nat.le_refl _) H2.out.2.2))); clear a3 o3 z3 b3)
      | (have hq1 := H1.out.2; refine wpList_alloc_ad rfl rfl ?_; intro w2 a2 b2 z2; have H2 := Lib.hid (And.intro (H1.out.1.later b2 (Nat.le_refl _)) (And.intro a2 (H1.out.2.trans (b2.mono H1.out.2.size)))); clear a2 b2 z2 hq1)
      | (refine wpList_alloc_ad rfl rfl ?_; intro w1 a1 b1 z1; have H1 := Lib.hid (And.intro a1 b1); clear a1 b1 z1))
    have B5 := Lib.hid H4.out.2.2
    refine (build_ip6 true true (sb := z16') (db := z16') rfl rfl (-1) (zs := []) (Gs.nil _) (HB.out.later B5.out (Nat.le_refl _))).mono ?_
    rintro e w6 ⟨A1, n1, c1, v1, rfl, q1, t1, b1⟩
    rw [(build_no6 HNO.out _ _ _).1] at q1
    rw [(build_no6 HNO.out [] [] []).2] at t1
    obtain rfl : 0 = n1 := q1.len
    have H6 := Lib.hid (And.intro t1 (B5.out.trans (b1.mono B5.out.size)))
    clear q1 t1 b1
    go_wp2_with fail
    refine (awake07 _).mono ?_
    rintro e w7 ⟨rfl, b7⟩
    have H7 := Lib.hid (And.intro (H6.out.1.later b7 (Nat.le_refl _)) (H6.out.2.trans (b7.mono H6.out.2.size)))
    clear b7
    go_wp2_with fail
    refine (help_bare 1 _).mono ?_
    rintro e w8 ⟨rfl, b8⟩
    have H8 := Lib.hid (And.intro (H7.out.1.later b8 (Nat.le_refl _)) (H7.out.2.trans (b8.mono H7.out.2.size)))
    clear b8
    go_wp2_with fail
    refine (is_told3 H8.out.1 (HG.out.later H8.out.2 (Nat.le_refl _))).mono ?_
    rintro e w9 ⟨rfl, b9⟩
    have H9 := Lib.hid (H8.out.2.trans (b9.mono H8.out.2.size))
    clear b9
    go_wp2_with fail
    go_ret
    exact ⟨rfl, H9.out⟩
end Go.Proofs.YtdfaebihjjdgoaaDoor
