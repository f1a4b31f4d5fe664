/-
  stockadelaw01.awake answers true. Conditions: errors.errorType holds the handle of the type error.
-/
import Derived.Test.YtmkkilbejlabfaaDoorHelp
namespace Go.Proofs.YtmkkilbejlabfaaDoor
open Go.RowKit Go.Extern.Stop Go.Stop Go.Extern

theorem Faults.wrapped {w : World} {d : Nat} {v : Value} {fs : List (Nat × Int)} {n : Int} (h : Faults w d v fs n) (at_ : Int) : Faults (w.alloc (.cells #[.int .i64 at_, v] 46)) (d + 1) (.iface 44 (.pointer (some ⟨w.heap.size, 0, none⟩))) ((w.heap.size, at_) :: fs) n :=
  .fault d w.heap.size at_ v fs n (by show (w.heap.push _)[w.heap.size]? = _; exact Array.getElem?_push_size) (by simp) (by simp) (h.later ((Below.refl w.heap.size w).alloc (Nat.le_refl _) _) (Nat.le_refl _))
theorem Chain.faults1 {w : World} {v : Value} {p : Nat × Int} {n : Int} (h : Chain w 1 (.iface 44 v) [p] (some n)) : Faults w 1 (.iface 44 v) [p] n := by
  cases h with
  | fault d b at_ v fs c hh h0 h1 h =>
    cases h with
    | errno n => exact .fault 0 b at_ _ [] n hh h0 h1 (.errno n)

/-- Wrap, told as a chain: what it hands back, in what world. -/
theorem wrap {d : Nat} {v : Value} {fs : List (Nat × Int)} {n : Int} {w : World} (at_ : Int) (h : Faults w d v fs n) : Calls Tryd.prog 7 #[.int .i64 at_, v] w fun e w' =>
    ∃ b, e = .returned (.iface 44 (.pointer (some ⟨b, 0, none⟩))) ∧ Below w.heap.size w w' ∧ Faults w' (d + 1) (.iface 44 (.pointer (some ⟨b, 0, none⟩))) ((b, at_) :: fs) n := by
  obtain ⟨T, x, rfl⟩ := h.chain.held
  refine (wrap_some at_ T x w).mono ?_
  rintro e w' ⟨rfl, rfl⟩
  exact ⟨_, rfl, (Below.refl _ _).alloc (Nat.le_refl _) _, h.wrapped at_⟩
/-- Deeper, told as a chain. -/
theorem deep {d : Nat} {v : Value} {fs : List (Nat × Int)} {n : Int} {w : World} (by_ : Int) (h : Faults w d v fs n) (hg : Handle w) : Calls Tryd.prog 14 #[.int .i64 by_, v] w fun e w' =>
    ∃ b, e = .returned (.iface 44 (.pointer (some ⟨b, 0, none⟩))) ∧ Below w.heap.size w w' ∧ Faults w' 1 (.iface 44 (.pointer (some ⟨b, 0, none⟩))) [(b, wrap64 (by_ + (placeOf fs).1))] n :=
  (deeper by_ h.chain hg).mono fun _ _ ⟨b, he, hb, hc⟩ => ⟨b, he, hb, hc.faults1⟩

set_option maxRecDepth 100000 in
set_option maxHeartbeats 1000000 in
theorem awake {w : World} (hg : Handle w) : Calls Tryd.prog 9 #[] w fun e w' => e = .returned (.bool true) ∧ Below w.heap.size w w' := by
  have HG := Lib.hid hg
  have K1 := Lib.hid (wrap 4 (Faults.errno (w := w) 3))
  clear hg
  go_enter Tryd.func9, Tryd.ntmps9
  go_wp2_with fail
  refine K1.out.mono ?_
  rintro e w1 ⟨b1, rfl, h1, c1⟩
  have K2 := Lib.hid (deep 10 c1 (HG.out.later h1 (Nat.le_refl _)))
  have H1 := Lib.hid h1
  clear h1 c1
  go_wp2_with fail
  refine K2.out.mono ?_
  rintro e w2 ⟨b2, rfl, h2, c2⟩
  have h2' := H1.out.trans (h2.mono H1.out.size)
  rw [show wrap64 (10 + (placeOf [(b1, 4)]).1) = 14 from (by show wrap64 (10 + 4) = 14; decide +kernel)] at c2
  have K3 : Hid (Calls Tryd.prog 8 #[.iface 44 (.pointer (some ⟨b2, 0, none⟩))] w2 fun e w' => e = .returned (.tuple #[.int .i64 14, .bool true]) ∧ Below w2.heap.size w2 w') := place c2.chain (HG.out.later h2' (Nat.le_refl _))
  have H2 := Lib.hid h2'
  clear h2 c2 h2'
  go_wp2_with fail
  refine K3.out.mono ?_
  rintro e w3 ⟨rfl, h3⟩
  have H3 := Lib.hid (H2.out.trans (h3.mono H2.out.size))
  clear h3
  have K4 := Lib.hid (wrap 1 (Faults.errno (w := w3) 8))
  go_wp2_with fail
  refine K4.out.mono ?_
  rintro e w4 ⟨b4, rfl, h4, c4⟩
  have h4' := H3.out.trans (h4.mono H3.out.size)
  have K5 : Hid (Calls Tryd.prog 13 #[.iface 44 (.pointer (some ⟨b4, 0, none⟩))] w4 fun e w' => e = .returned (.int .i64 8) ∧ Below w4.heap.size w4 w') := code c4.chain (HG.out.later h4' (Nat.le_refl _))
  have H4 := Lib.hid h4'
  clear h4 c4 h4'
  go_wp2_with fail
  refine K5.out.mono ?_
  rintro e w5 ⟨rfl, h5⟩
  have H5 := Lib.hid (H4.out.trans (h5.mono H4.out.size))
  clear h5
  go_wp2_with fail
  go_ret
  exact ⟨rfl, H5.out⟩
end Go.Proofs.YtmkkilbejlabfaaDoor
