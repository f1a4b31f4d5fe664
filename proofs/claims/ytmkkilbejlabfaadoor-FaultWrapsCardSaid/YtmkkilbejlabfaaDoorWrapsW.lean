/-
  stockadelaw01.FaultWraps answers true, whatever the numbers. Conditions: errors.errorType holds the handle of the type error.
-/
import Derived.Test.YtmkkilbejlabfaaDoorError
namespace Go.Proofs.YtmkkilbejlabfaaDoor
open Go.RowKit Go.Extern.Stop Go.Stop Go.Extern

set_option maxRecDepth 100000 in
set_option maxHeartbeats 1000000 in
theorem wraps {w : World} (at_ code_ : Int) (hg : Handle w) : Calls Tryd.prog 3 #[.int .i64 at_, .int .i64 code_] w fun e w' => e = .returned (.bool true) ∧ Below w.heap.size w w' := by
  have HG := Lib.hid hg
  clear hg
  have hx := num21 code_
  go_enter Tryd.func3, Tryd.ntmps3
  go_wp2_with fail
  generalize wrap64 (IntKind.u64.wrap (1 + (IntKind.u64.wrap code_).tmod 21)) = x at hx ⊢
  have HX := Lib.hid hx
  clear hx
  have K1 := Lib.hid (wrap at_ (Faults.errno (w := w) x))
  refine K1.out.mono ?_
  rintro e w1 ⟨b1, rfl, h1, c1⟩
  have C1 := Lib.hid c1
  have H1 := Lib.hid h1
  have K2 : Hid (Calls Tryd.prog 8 #[.iface 44 (.pointer (some ⟨b1, 0, none⟩))] w1 fun e w' => e = .returned (.tuple #[.int .i64 at_, .bool true]) ∧ Below w1.heap.size w1 w') := place c1.chain (HG.out.later h1 (Nat.le_refl _))
  clear h1 c1
  go_wp2_with fail
  refine K2.out.mono ?_
  rintro e w2 ⟨rfl, h2⟩
  have H2 := Lib.hid (H1.out.trans (h2.mono H1.out.size))
  have C2 := Lib.hid (C1.out.later h2 (Nat.le_refl _))
  have K3 : Hid (Calls Tryd.prog 8 #[.iface 22 (.int .i64 x)] w2 fun e w' => e = .returned (.tuple #[.int .i64 0, .bool false]) ∧ Below w2.heap.size w2 w') := place (Chain.errno x) (HG.out.later H2.out (Nat.le_refl _))
  clear h2
  go_wp2_with fail
  refine K3.out.mono ?_
  rintro e w3 ⟨rfl, h3⟩
  have H3 := Lib.hid (H2.out.trans (h3.mono H2.out.size))
  have C3 := Lib.hid (C2.out.later h3 (Nat.le_refl _))
  have K4 := Lib.hid (awake (HG.out.later H3.out (Nat.le_refl _)))
  clear h3
  go_wp2_with fail
  refine K4.out.mono ?_
  rintro e w4 ⟨rfl, h4⟩
  have H4 := Lib.hid (H3.out.trans (h4.mono H3.out.size))
  have C4 := Lib.hid (C3.out.later h4 (Nat.le_refl _))
  clear h4
  go_wp2_with fail
  refine (help_at x at_ _).mono ?_
  rintro e w5 ⟨rfl, h5⟩
  have H5 := Lib.hid (H4.out.trans (h5.mono H4.out.size))
  have C5 := Lib.hid (C4.out.later h5 (Nat.le_refl _))
  have k6 := help_is x at_ true (by have := HX.out; omega) C5.out (HG.out.later H5.out (Nat.le_refl _))
  rw [show isFail x [(b1, at_)] x at_ true = true by simp [isFail]] at k6
  have K6 := Lib.hid k6
  clear h5 k6
  go_wp2_with fail
  refine K6.out.mono ?_
  rintro e w6 ⟨rfl, h6⟩
  have H6 := Lib.hid (H5.out.trans (h6.mono H5.out.size))
  have C6 := Lib.hid (C5.out.later h6 (Nat.le_refl _))
  have k7 := Is_any (x := x) C6.out
  rw [show (x == x) = true by simp] at k7
  have K7 := Lib.hid k7
  clear h6 k7
  go_wp2_with fail
  refine K7.out.mono ?_
  rintro e w7 ⟨rfl, rfl⟩
  have K8 : Hid (Calls Tryd.prog 13 #[.iface 44 (.pointer (some ⟨b1, 0, none⟩))] w6 fun e w' => e = .returned (.int .i64 x) ∧ Below w6.heap.size w6 w') := code C6.out.chain (HG.out.later H6.out (Nat.le_refl _))
  go_wp2_with fail
  refine K8.out.mono ?_
  rintro e w8 ⟨rfl, h8⟩
  have H8 := Lib.hid (H6.out.trans (h8.mono H6.out.size))
  have K9 : Hid (Calls Tryd.prog 13 #[.iface 22 (.int .i64 x)] w8 fun e w' => e = .returned (.int .i64 x) ∧ Below w8.heap.size w8 w') := code (Chain.errno x) (HG.out.later H8.out (Nat.le_refl _))
  clear h8
  go_wp2_with fail
  refine K9.out.mono ?_
  rintro e w9 ⟨rfl, h9⟩
  have H9 := Lib.hid (H8.out.trans (h9.mono H8.out.size))
  clear h9
  go_wp2_with fail
  refine (wrap_nil _ _).mono ?_
  rintro e w10 ⟨rfl, rfl⟩
  have K11 := Lib.hid (code_nil (HG.out.later H9.out (Nat.le_refl _)))
  go_wp2_with fail
  refine K11.out.mono ?_
  rintro e w11 ⟨rfl, h11⟩
  have H11 := Lib.hid (H9.out.trans (h11.mono H9.out.size))
  clear h11
  go_wp2_with fail
  go_ret
  exact ⟨rfl, H11.out⟩
end Go.Proofs.YtmkkilbejlabfaaDoor
