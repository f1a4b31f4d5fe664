/-
  stockadelaw01.FaultNests answers true, whatever the numbers. Conditions: errors.errorType holds the handle of the type error; the slice's cells are there.
-/
import Derived.Test.YtmkkilbejlabfaaDoorJoin
import Derived.Test.YtmkkilbejlabfaaDoorTextsW
namespace Go.Proofs.YtmkkilbejlabfaaDoor
open Go.RowKit Go.Extern.Stop Go.Stop Go.Extern

theorem new_error (s : ByteArray) (w : World) : Calls Tryd.prog 16 #[.string s] w fun e w' => ∃ p, e = .returned (.iface 60 (.pointer (some p))) ∧ Below w.heap.size w w' := by
  go_enter Tryd.func16, Tryd.ntmps16
  go_wp2
  go_ret
  exact ⟨_, rfl, (Below.refl _ _).alloc (Nat.le_refl _) _⟩

/-- What holds at the loop's head: the error is a chain, its outermost fault is the last one that was wrapped. -/
def NestRel (w : World) (x : Int) (len k : Nat) (f l a i : Value) (wr : World) : Prop :=
  ∃ (m : Nat) (d : Nat) (fs : List (Nat × Int)), k = 31 - m ∧ m ≤ 30 ∧ m ≤ len ∧ i = .int .i64 (m : Int) ∧ l = .int .i64 (placeOf fs).1 ∧ a = .bool (placeOf fs).2 ∧ Chain wr d f fs (some x) ∧ Below w.heap.size w wr

set_option maxRecDepth 100000 in
set_option maxHeartbeats 2000000 in
theorem nests {w : World} (code_ : Int) (ad : Option Addr) (zs : List Int) (cap : Nat) (hm : zs.length ≤ maxLen) (hcell : ∀ i, i < zs.length → ∃ b off, ad = some ⟨b, off, none⟩ ∧ w.cell? ⟨b, off + i, none⟩ = some (.int .i64 (zs.getD i 0))) (hg : Handle w) :
    Calls Tryd.prog 5 #[.slice ad zs.length cap, .int .i64 code_] w fun e w' => e = .returned (.bool true) ∧ Below w.heap.size w w' := by
  have HG := Lib.hid hg
  have HC := Lib.hid hcell
  clear hg hcell
  unfold maxLen at hm
  have he := eql_bool
  go_enter Tryd.func5, Tryd.ntmps5
  go_wp2_with fail
  generalize wrap64 (IntKind.u64.wrap (1 + (IntKind.u64.wrap code_).tmod 21)) = x
  go_loopg [6, 7, 8, 9] 31 (fun k f l a i wr => NestRel w x zs.length k f l a i wr)
  case atStart => exact ⟨0, 0, [], rfl, by omega, by omega, rfl, rfl, rfl, .errno x, Below.refl _ _⟩
  case round =>
    obtain ⟨m, d, fs, hk, hm30, hml, rfl, rfl, rfl, hf, hb⟩ := hrel
    obtain ⟨T, xv, rfl⟩ := hf.held
    have HF := Lib.hid hf
    have HB := Lib.hid hb
    have HK := Lib.hid hk
    by_cases hlt : m < zs.length ∧ m < 30
    · obtain ⟨hlt, h30⟩ := hlt
      obtain ⟨b, off, rfl, hc⟩ := HC.out m hlt
      have hc1 : wr.cell? ⟨b, off + m, none⟩ = some (.int .i64 (zs.getD m 0)) := (hb.cell (p := ⟨b, off + m, none⟩) (lt_of_cell hc)).trans hc
      clear hf hb hk hc
      by_cases h3 : zs[m].tmod 3 = 0
      · have h3b : (zs[m].tmod 3 == 0) = true := by simp [h3]
        clear h3
        have k1 := join_one (w := wr.alloc (.cells #[.iface T xv] 25)) (b := wr.heap.size) (T := T) (x := xv) (cap := 1) (by simp)
        have K1 := Lib.hid k1
        clear k1
        go_wp2_with fail
        refine K1.out.mono ?_
        rintro e w1 ⟨j, s, c, rfl, h1, g1, g2⟩
        have ha : Below wr.heap.size wr (wr.alloc (.cells #[.iface T xv] 25)) := (Below.refl _ _).alloc (Nat.le_refl _) _
        have H1 := Lib.hid (HB.out.trans ((ha.trans (h1.mono ha.size)).mono HB.out.size))
        have C1 := Lib.hid (Chain.join d j s c (.iface T xv) fs (some x) g1 g2 (HF.out.later (ha.trans (h1.mono ha.size)) (Nat.le_refl _)))
        clear h1 g1 g2 ha
        go_wp2_with fail
        go_roundg (gk - 1)
        case measure => have := HK.out; omega
        case rel => exact ⟨m + 1, _, fs, by have := HK.out; omega, by omega, by omega, by go_num, rfl, rfl, C1.out, H1.out⟩
      · have h3b : (zs[m].tmod 3 == 0) = false := by simp [h3]
        clear h3
        have hc2 : ∀ w1 : World, Below wr.heap.size wr w1 → w1.cell? ⟨b, off + m, none⟩ = some (.int .i64 (zs.getD m 0)) := fun w1 h => (h.cell (p := ⟨b, off + m, none⟩) (lt_of_cell hc1)).trans hc1
        have HC2 := Lib.hid hc2
        clear hc2
        go_wp2_with fail
        refine (wrap_some _ _ _ _).mono ?_
        rintro e w1 ⟨rfl, rfl⟩
        have ha : Below wr.heap.size wr (wr.alloc (.cells #[.int .i64 zs[m], .iface T xv] 46)) := (Below.refl _ _).alloc (Nat.le_refl _) _
        have hc3 := HC2.out _ ha
        have H1 := Lib.hid (HB.out.trans (ha.mono HB.out.size))
        have C1 := Lib.hid (Chain.wrapped HF.out zs[m])
        clear ha
        go_wp2_with fail
        go_roundg (gk - 1)
        case measure => have := HK.out; omega
        case rel => exact ⟨m + 1, _, _, by have := HK.out; omega, by omega, by omega, by go_num, rfl, rfl, C1.out, H1.out⟩
    · have hend : (m < zs.length ∧ ¬ m < 30) ∨ ¬ m < zs.length := by omega
      have K1 := Lib.hid (place hf (HG.out.later hb (Nat.le_refl _)))
      clear hf hb hk hlt
      rcases hend with ⟨hl1, h30⟩ | hl1
      all_goals
        go_wp2_with fail
        refine K1.out.mono ?_
        rintro e w1 ⟨rfl, h1⟩
        have H1 := Lib.hid (HB.out.trans (h1.mono HB.out.size))
        have C1 := Lib.hid (HF.out.later h1 (Nat.le_refl _))
        clear h1
        go_wp2_with fail
        refine (new_error _ _).mono ?_
        rintro e w2 ⟨p, rfl, h2⟩
        have H2 := Lib.hid (H1.out.trans (h2.mono H1.out.size))
        have C2 := Lib.hid (C1.out.later h2 (Nat.le_refl _))
        have K3 : Hid (Calls Tryd.prog 8 #[.iface 60 (.pointer (some p))] w2 fun e w' => e = .returned (.tuple #[.int .i64 0, .bool false]) ∧ Below w2.heap.size w2 w') := place (Chain.other p) (HG.out.later H2.out (Nat.le_refl _))
        clear h2
        go_wp2_with fail
        refine K3.out.mono ?_
        rintro e w3 ⟨rfl, h3⟩
        have H3 := Lib.hid (H2.out.trans (h3.mono H2.out.size))
        have C3 := Lib.hid (C2.out.later h3 (Nat.le_refl _))
        have K4 := Lib.hid (awake (HG.out.later H3.out (Nat.le_refl _)))
        clear h3
        go_wp2_with fail
        refine K4.out.mono ?_
        rintro e w4 ⟨rfl, h4⟩
        have H4 := Lib.hid (H3.out.trans (h4.mono H3.out.size))
        have C4 := Lib.hid (C3.out.later h4 (Nat.le_refl _))
        have K5 : Hid (Calls Tryd.prog 13 #[.iface T xv] w4 fun e w' => e = .returned (.int .i64 x) ∧ Below w4.heap.size w4 w') := code C4.out (HG.out.later H4.out (Nat.le_refl _))
        clear h4
        go_wp2_with fail
        refine K5.out.mono ?_
        rintro e w5 ⟨rfl, h5⟩
        have H5 := Lib.hid (H4.out.trans (h5.mono H4.out.size))
        have K6 : Hid (Calls Tryd.prog 13 #[.iface 60 (.pointer (some p))] w5 fun e w' => e = .returned (.int .i64 0) ∧ Below w5.heap.size w5 w') := code (Chain.other p) (HG.out.later H5.out (Nat.le_refl _))
        clear h5
        go_wp2_with fail
        refine K6.out.mono ?_
        rintro e w6 ⟨rfl, h6⟩
        have H6 := Lib.hid (H5.out.trans (h6.mono H5.out.size))
        clear h6
        go_wp2_with fail
        go_ret
        exact ⟨rfl, H6.out⟩
end Go.Proofs.YtmkkilbejlabfaaDoor
