/-
  stockadelaw01.FaultTexts answers true, whatever the numbers. Conditions: errors.errorType holds the handle of the type error.
-/
import Derived.Test.YtmkkilbejlabfaaDoorError
namespace Go.Proofs.YtmkkilbejlabfaaDoor
open Go.RowKit Go.Extern.Stop Go.Stop Go.Extern

/-- '==' of two bools. -/
theorem eql_bool (a b : Bool) (w : World) : (binOp .eql 4 (.bool a) (.bool b)).run Tryd.prog w = .ok (.bool (a == b)) w := by
  have h : ∀ d : Nat, (Op.equalIn (d + 1) 4 (.bool a) (.bool b)).run Tryd.prog w = .ok (a == b) w := fun d => by
    simp [Op.equalIn, run_underlying Tryd.underlying4]
  have h2 : (Op.equal 4 (.bool a) (.bool b)).run Tryd.prog w = .ok (a == b) w := h 9999
  simp only [binOp]
  simp [h2]

set_option maxRecDepth 100000 in
set_option maxHeartbeats 1000000 in
theorem texts {w : World} (at_ a b : Int) (hg : Handle w) : Calls Tryd.prog 6 #[.int .i64 at_, .int .i64 a, .int .i64 b] w fun e w' => e = .returned (.bool true) ∧ Below w.heap.size w w' := by
  have HG := Lib.hid hg
  clear hg
  have hx := num21 a
  have hm := mErF
  go_enter Tryd.func6, Tryd.ntmps6
  go_wp2_with fail
  generalize wrap64 (IntKind.u64.wrap (1 + (IntKind.u64.wrap a).tmod 21)) = x at hx ⊢
  generalize wrap64 (IntKind.u64.wrap (1 + (IntKind.u64.wrap b).tmod 21)) = y
  have HX := Lib.hid hx
  clear hx
  have he := eql_bool
  have K1 := Lib.hid (wrap at_ (Faults.errno (w := w) x))
  refine K1.out.mono ?_
  rintro e w1 ⟨b1, rfl, h1, c1⟩
  have C1 := Lib.hid c1
  have H1 := Lib.hid h1
  have K2 := Lib.hid (awake (HG.out.later h1 (Nat.le_refl _)))
  clear h1 c1
  go_wp2_with fail
  refine K2.out.mono ?_
  rintro e w2 ⟨rfl, h2⟩
  have H2 := Lib.hid (H1.out.trans (h2.mono H1.out.size))
  have C2 := Lib.hid (C1.out.later h2 (Nat.le_refl _))
  have K3 := Lib.hid (Is_any (x := y) C2.out)
  clear h2
  go_wp2_with fail
  refine K3.out.mono ?_
  rintro e w3 ⟨rfl, rfl⟩
  have K4 := Lib.hid (deep at_ C2.out (HG.out.later H2.out (Nat.le_refl _)))
  go_wp2_with fail
  refine K4.out.mono ?_
  rintro e w4 ⟨b4, rfl, h4, c4⟩
  have H4 := Lib.hid (H2.out.trans (h4.mono H2.out.size))
  have C4 := Lib.hid (C2.out.later h4 (Nat.le_refl _))
  have k5 := Is_any (x := x) c4
  rw [show (x == x) = true by simp] at k5
  have K5 := Lib.hid k5
  clear h4 c4 k5
  go_wp2_with fail
  refine K5.out.mono ?_
  rintro e w5 ⟨rfl, rfl⟩
  have K6 : Hid (Calls Tryd.prog 13 #[.iface 44 (.pointer (some ⟨b1, 0, none⟩))] w4 fun e w' => e = .returned (.int .i64 x) ∧ Below w4.heap.size w4 w') := code C4.out.chain (HG.out.later H4.out (Nat.le_refl _))
  go_wp2_with fail
  refine K6.out.mono ?_
  rintro e w6 ⟨rfl, h6⟩
  have H6 := Lib.hid (H4.out.trans (h6.mono H4.out.size))
  have K7 := Lib.hid (fault_text HX.out.1 HX.out.2 (C4.out.later h6 (Nat.le_refl _)))
  clear h6
  go_wp2_with fail
  refine K7.out.mono ?_
  rintro e w7 ⟨s, rfl, hs, h7⟩
  have H7 := Lib.hid (H6.out.trans (h7.mono H6.out.size))
  clear h7
  go_wp2_with fail
  go_ret
  exact ⟨rfl, H7.out⟩
end Go.Proofs.YtmkkilbejlabfaaDoor
