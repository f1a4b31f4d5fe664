/-
  ChainTells: where any name leads in any message is what the document tells. Conditions: those of the slice.
-/
import Derived.Test.YtdpjfcdfopmoaaaAw15
import Derived.Test.YtdpjfcdfopmoaaaRf15
namespace Go.Proofs.Ytdpjfcdfopmoaaa
open Go.RowKit
set_option maxRecDepth 100000

theorem msg_size {v0 v1 v2 v3 v4 v5 v6 v7 v8 : Value} : (Try.prog.info? 25).map (·.size) = some (#[v0, v1, v2, v3, v4, v5, v6, v7, v8] : Array Value).size := by
  show _ = some 9
  kernel_rfl
set_option maxHeartbeats 4000000 in
theorem chainTells {A : Option Addr} {n c : Nat} {xs : List Rk} {w : World} (hb : Rks w A n c xs) (v0 v1 v2 v3 v4 v5 v7 v8 : Value) (s : ByteArray) : Calls Try.prog 3 #[.agg #[v0, v1, v2, v3, v4, v5, .slice A n c, v7, v8], .string s] w fun e w' => e = .returned (.bool true) ∧ Below w.heap.size w w' := by
  obtain ⟨W, hW⟩ : ∃ W, w.alloc (.cells #[v0, v1, v2, v3, v4, v5, .slice A n c, v7, v8] 25) = W := ⟨_, rfl⟩
  have hm : W.heap[w.heap.size]? = some (.cells #[v0, v1, v2, v3, v4, v5, .slice A n c, v7, v8] 25 (0, 0)) := by rw [← hW]; exact heap_alloc_last w _
  have b1 : Below w.heap.size w W := by rw [← hW]; exact (Below.refl _ _).alloc (Nat.le_refl _) _
  have e6 : W.cell? ⟨w.heap.size, 6, none⟩ = some (.slice A n c) := by rw [cell_of_row W w.heap.size 6 _ _ _ hm]; rfl
  have HW := Lib.hid hW
  have HM := Lib.hid (And.intro hm b1)
  have HB := Lib.hid (hb.later b1 (Nat.le_refl _))
  clear hb hW hm b1
  by_cases h80 : 80 < n
  · go_enter Try.func3, Try.ntmps3
    go_wp2_with (rw [HW.out])
    refine (awake15 W).mono ?_
    rintro e w1 ⟨rfl, b1⟩
    have H1 := Lib.hid (HM.out.2.trans (b1.mono HM.out.2.size))
    clear b1
    go_wp2_with fail
    go_ret
    exact ⟨rfl, H1.out⟩
  · by_cases h300 : 300 < s.size
    · go_enter Try.func3, Try.ntmps3
      go_wp2_with (rw [HW.out])
      refine (awake15 W).mono ?_
      rintro e w1 ⟨rfl, b1⟩
      have H1 := Lib.hid (HM.out.2.trans (b1.mono HM.out.2.size))
      clear b1
      go_wp2_with fail
      go_ret
      exact ⟨rfl, H1.out⟩
    · have hn : n ≤ 1000000 := by omega
      go_enter Try.func3, Try.ntmps3
      go_wp2_with (first
        | (rw [HW.out])
        | (refine wpList_load_row rfl 25 (.tmp 2) rfl w.heap.size rfl 25 #[v0, v1, v2, v3, v4, v5, .slice A n c, v7, v8] (0, 0) _ HM.out.1 Try.underlying25 rfl msg_size ?_))
      refine (follow_any HB.out hn v0 v1 v2 v3 v4 v5 v7 v8 s).mono ?_
      rintro e w1 ⟨B, m, d, C, k, f, rfl, hF, hG, b1⟩
      have hm1 := (b1.block _ (lt_of_block HM.out.1)).trans HM.out.1
      have H1 := Lib.hid (And.intro hF (And.intro hG (And.intro (HM.out.2.trans (b1.mono HM.out.2.size)) (HB.out.later b1 (Nat.le_refl _)))))
      have HM1 := Lib.hid hm1
      clear hF hG b1 hm1
      go_wp2_with (refine wpList_load_row rfl 25 (.tmp 2) rfl w.heap.size rfl 25 #[v0, v1, v2, v3, v4, v5, .slice A n c, v7, v8] (0, 0) _ HM1.out Try.underlying25 rfl msg_size ?_)
      refine (refFollow_any H1.out.2.2.2 hn v0 v1 v2 v3 v4 v5 v7 v8 s).mono ?_
      rintro e w2 ⟨B2, m2, d2, C2, k2, f2, rfl, hF, hG, b2⟩
      obtain rfl : m2 = m := hF.len.symm.trans H1.out.1.len
      obtain rfl : k2 = k := by
        have h1 := hG.len
        have h2 := H1.out.2.1.len
        exact h1.symm.trans h2
      have H2 := Lib.hid (And.intro (And.intro (H1.out.1.later b2 (Nat.le_refl _)) hF) (And.intro (And.intro (H1.out.2.1.later b2 (Nat.le_refl _)) hG) (H1.out.2.2.1.trans (b2.mono H1.out.2.2.1.size))))
      clear hF hG b2
      go_wp2_with fail
      refine (awake15 w2).mono ?_
      rintro e w3 ⟨rfl, b3⟩
      have H3 := Lib.hid b3
      clear b3
      go_wp2_with fail
      refine (plainF_same (H2.out.1.1.later H3.out (Nat.le_refl _)) (H2.out.1.2.later H3.out (Nat.le_refl _))).mono ?_
      rintro e w4 ⟨rfl, b4⟩
      have H4 := Lib.hid (H3.out.trans (b4.mono H3.out.size))
      clear b4
      go_wp2_with fail
      refine (plainT_same (H2.out.2.1.1.later H4.out (Nat.le_refl _)) (H2.out.2.1.2.later H4.out (Nat.le_refl _))).mono ?_
      rintro e w5 ⟨rfl, b5⟩
      have H5 := Lib.hid (H4.out.trans (b5.mono H4.out.size))
      clear b5
      go_wp2_with fail
      go_ret
      exact ⟨rfl, H2.out.2.2.trans (H5.out.mono H2.out.2.2.size)⟩
end Go.Proofs.Ytdpjfcdfopmoaaa
