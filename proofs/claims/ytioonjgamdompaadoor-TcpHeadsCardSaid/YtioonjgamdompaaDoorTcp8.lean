/-
  Package tcp's isPort, number16, number32, headOf. Conditions: those of the slice; 2^47 bytes at most.
-/
import Derived.Test.YtioonjgamdompaaDoorSeg
import Derived.Test.YtioonjgamdompaaDoorNeed
import Derived.Test.YtioonjgamdompaaDoorOver
namespace Go.Proofs.YtioonjgamdompaaDoor
open Go.RowKit
set_option maxRecDepth 100000

theorem isPort_any (v : Int) (w : World) : Calls Tryd.prog 25 #[.int .i64 v] w fun e w' => e = .returned (.bool (decide (0 ≤ v ∧ v ≤ 65535))) ∧ w = w' := by
  by_cases h0 : 0 ≤ v
  · by_cases h1 : v ≤ 65535
    · rw [decide_eq_true (⟨h0, h1⟩ : 0 ≤ v ∧ v ≤ 65535)]
      go_enter Tryd.func25, Tryd.ntmps25
      go_wp2
      go_ret
      exact ⟨rfl, rfl⟩
    · rw [decide_eq_false (show ¬ (0 ≤ v ∧ v ≤ 65535) from fun h => h1 h.2)]
      go_enter Tryd.func25, Tryd.ntmps25
      go_wp2
      go_ret
      exact ⟨rfl, rfl⟩
  · rw [decide_eq_false (show ¬ (0 ≤ v ∧ v ≤ 65535) from fun h => h0 h.1)]
    go_enter Tryd.func25, Tryd.ntmps25
    go_wp2
    go_ret
    exact ⟨rfl, rfl⟩
theorem number16_any {A : Option Addr} {n c : Nat} {l : List UInt8} {w : World} (hb : Bs w A n c l) (i : Nat) (hi : i + 2 ≤ n) : Calls Tryd.prog 20 #[.slice A n c, .int .i64 i] w fun e w' => e = .returned (.int .i64 (num2 l i)) ∧ w = w' := by
  have k := Lib.hid (u16_ok hb i hi)
  unfold num2
  clear hb
  go_enter Tryd.func20, Tryd.ntmps20
  go_wp2_with fail
  refine k.out.mono ?_
  rintro e w' ⟨rfl, rfl⟩
  go_wp2_with fail
  go_ret
  exact ⟨rfl, rfl⟩
theorem number32_any {A : Option Addr} {n c : Nat} {l : List UInt8} {w : World} (hb : Bs w A n c l) (i : Nat) (hi : i + 4 ≤ n) : Calls Tryd.prog 21 #[.slice A n c, .int .i64 i] w fun e w' => e = .returned (.int .u32 (num4 l i)) ∧ w = w' := by
  have k := Lib.hid (u32_ok hb i hi)
  unfold num4
  clear hb
  go_enter Tryd.func21, Tryd.ntmps21
  go_wp2_with fail
  refine k.out.mono ?_
  rintro e w' ⟨rfl, rfl⟩
  go_wp2_with fail
  go_ret
  exact ⟨rfl, rfl⟩

/-- The head, or why there is none. -/
def headv (l : List UInt8) (n : Nat) : List UInt8 × Fl :=
  if n < 20 then ([], ⟨3, 0, true⟩)
  else if bat l 12 / 16 < 5 ∨ n < 4 * (bat l 12 / 16) then ([], ⟨7, 12, true⟩)
  else (l.take (4 * (bat l 12 / 16)), ⟨0, 0, false⟩)
set_option maxHeartbeats 2000000 in
theorem headOf_any {A : Option Addr} {n c : Nat} {l : List UInt8} {w : World} (hb : Bs w A n c l) (h47 : n ≤ 140737488350000) : Calls Tryd.prog 17 #[.slice A n c] w fun e w' =>
    ∃ A' n' c' v, e = .returned (.tuple #[.slice A' n' c', v]) ∧ Bs w' A' n' c' (headv l n).1 ∧ Tells w' v (headv l n).2 ∧ Below w.heap.size w w' := by
  have hl := hb.len
  have HB := Lib.hid hb
  clear hb
  unfold headv
  by_cases hs : n < 20
  · rw [if_pos hs]
    have k1 := part_any HB.out (0 : Nat) (20 : Nat) (by omega) (by omega) h47
    rw [need_short (by omega) (by omega)] at k1
    have K1 := Lib.hid k1
    clear k1
    go_enter Tryd.func17, Tryd.ntmps17
    go_wp2_with fail
    refine K1.out.mono ?_
    rintro e w2 ⟨A2, n2, c2, v2, rfl, g1, g2, g3⟩
    obtain ⟨T, x, rfl⟩ := Tells.held' g2 (by simp)
    have H2 := Lib.hid (And.intro g2 g3)
    clear g1 g2 g3
    go_wp2_with fail
    go_ret2
    exact ⟨none, 0, 0, .iface T x, rfl, Bs.nil _, H2.out⟩
  rw [if_neg hs]
  have k1 := part_any HB.out (0 : Nat) (20 : Nat) (by omega) (by omega) h47
  rw [need_there (by omega), part_there (by omega), List.drop_zero] at k1
  have K1 := Lib.hid k1
  clear k1
  obtain ⟨x, hx0, hxb⟩ := get_part hl (i := 0) (k := 20) (by omega) (j := 12) (by omega)
  rw [List.drop_zero] at hx0
  rw [Nat.zero_add] at hxb
  rw [← hxb]
  have hxl := x.toNat_lt
  have HX := Lib.hid hx0
  clear hx0 hxb
  have he : ((4 * (x.toNat / 16) : Nat) : Int) = (x.toNat : Int) / 16 * 4 := by omega
  by_cases h5 : x.toNat / 16 < 5
  · rw [if_pos (.inl h5)]
    have k2 := fun w1 (hb1 : Below w.heap.size w w1) => part_any (HB.out.later hb1 (Nat.le_refl _)) (0 : Nat) ((4 * (x.toNat / 16) : Nat) : Int) (by omega) (by omega) h47
    rw [need_there (by omega), part_there (by omega), he] at k2
    have K2 := Lib.hid k2
    have hq : (x.toNat : Int) / 16 * 4 < 20 := by omega
    clear k2 h5 he
    go_enter Tryd.func17, Tryd.ntmps17
    go_wp2_with fail
    refine K1.out.mono ?_
    rintro e w2 ⟨A2, n2, c2, v2, rfl, g1, g2, g3⟩
    obtain rfl := Tells.none' g2 rfl
    obtain ⟨bb, of2, rfl, hc2⟩ := g1.here (by rw [← g1.len, List.length_take]; omega)
    have hc0 := hc2 12 x HX.out
    have hn2 : n2 = 20 := by rw [← g1.len, List.length_take]; omega
    subst hn2
    have H2 := Lib.hid g3
    clear g1 g2 g3 hc2
    go_wp2_with fail
    refine (K2.out _ H2.out).mono ?_
    rintro e w3 ⟨A3, n3, c3, v3, rfl, g1, g2, g3⟩
    obtain rfl := Tells.none' g2 rfl
    have H3 := Lib.hid (H2.out.trans (g3.mono H2.out.size))
    clear g1 g2 g3
    go_wp2_with fail
    refine (wrap_told (a := 0) 12 (Tells.bare _ 7 (by decide) 0) (by decide)).mono ?_
    rintro e w4 ⟨v4, rfl, g1, g2⟩
    have H4 := Lib.hid (And.intro g1 (H3.out.trans (g2.mono H3.out.size)))
    clear g1 g2
    go_wp2_with fail
    go_ret2
    exact ⟨none, 0, 0, v4, rfl, Bs.nil _, H4.out⟩
  have hq : ¬ (x.toNat : Int) / 16 * 4 < 20 := by omega
  by_cases h6 : n < 4 * (x.toNat / 16)
  · rw [if_pos (.inr h6)]
    have k2 := fun w1 (hb1 : Below w.heap.size w w1) => part_any (HB.out.later hb1 (Nat.le_refl _)) (0 : Nat) ((4 * (x.toNat / 16) : Nat) : Int) (by omega) (by omega) h47
    rw [need_short (by omega) (by omega), he] at k2
    have K2 := Lib.hid k2
    clear k2 h5 h6 he
    go_enter Tryd.func17, Tryd.ntmps17
    go_wp2_with fail
    refine K1.out.mono ?_
    rintro e w2 ⟨A2, n2, c2, v2, rfl, g1, g2, g3⟩
    obtain rfl := Tells.none' g2 rfl
    obtain ⟨bb, of2, rfl, hc2⟩ := g1.here (by rw [← g1.len, List.length_take]; omega)
    have hc0 := hc2 12 x HX.out
    have hn2 : n2 = 20 := by rw [← g1.len, List.length_take]; omega
    subst hn2
    have H2 := Lib.hid g3
    clear g1 g2 g3 hc2
    go_wp2_with fail
    refine (K2.out _ H2.out).mono ?_
    rintro e w3 ⟨A3, n3, c3, v3, rfl, g1, g2, g3⟩
    have k4 := Is_told g2 (by simp) 3
    obtain ⟨T3, x3, rfl⟩ := Tells.held' g2 (by simp)
    have H3 := Lib.hid (H2.out.trans (g3.mono H2.out.size))
    have K4 := Lib.hid k4
    clear g1 g2 g3 k4
    go_wp2_with fail
    refine K4.out.mono ?_
    rintro e w' ⟨rfl, rfl⟩
    go_wp2_with fail
    refine (wrap_told (a := 0) 12 (Tells.bare _ 7 (by decide) 0) (by decide)).mono ?_
    rintro e w4 ⟨v4, rfl, g1, g2⟩
    have H4 := Lib.hid (And.intro g1 (H3.out.trans (g2.mono H3.out.size)))
    clear g1 g2
    go_wp2_with fail
    go_ret2
    exact ⟨none, 0, 0, v4, rfl, Bs.nil _, H4.out⟩
  · rw [if_neg (show ¬ (x.toNat / 16 < 5 ∨ n < 4 * (x.toNat / 16)) by omega)]
    have k2 := fun w1 (hb1 : Below w.heap.size w w1) => part_any (HB.out.later hb1 (Nat.le_refl _)) (0 : Nat) ((4 * (x.toNat / 16) : Nat) : Int) (by omega) (by omega) h47
    rw [need_there (by omega), part_there (by omega), he, List.drop_zero] at k2
    have K2 := Lib.hid k2
    clear k2 h5 h6 he
    go_enter Tryd.func17, Tryd.ntmps17
    go_wp2_with fail
    refine K1.out.mono ?_
    rintro e w2 ⟨A2, n2, c2, v2, rfl, g1, g2, g3⟩
    obtain rfl := Tells.none' g2 rfl
    obtain ⟨bb, of2, rfl, hc2⟩ := g1.here (by rw [← g1.len, List.length_take]; omega)
    have hc0 := hc2 12 x HX.out
    have hn2 : n2 = 20 := by rw [← g1.len, List.length_take]; omega
    subst hn2
    have H2 := Lib.hid g3
    clear g1 g2 g3 hc2
    go_wp2_with fail
    refine (K2.out _ H2.out).mono ?_
    rintro e w3 ⟨A3, n3, c3, v3, rfl, g1, g2, g3⟩
    obtain rfl := Tells.none' g2 rfl
    have H3 := Lib.hid (And.intro g1 (H2.out.trans (g3.mono H2.out.size)))
    clear g1 g2 g3
    go_wp2_with fail
    refine (Is_nil _ _ _).mono ?_
    rintro e w' ⟨rfl, rfl⟩
    go_wp2_with fail
    go_ret2
    exact ⟨A3, n3, c3, .nilIface, rfl, H3.out.1, Tells.nil _ _ _, H3.out.2⟩
end Go.Proofs.YtioonjgamdompaaDoor
