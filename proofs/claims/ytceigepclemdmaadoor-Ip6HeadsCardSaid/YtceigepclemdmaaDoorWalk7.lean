/-
  Package ip6's headAt, behindHeads: the heads behind the first one, one by one. Conditions: those of the slice; 2^47 bytes at most.
-/
import Derived.Test.YtceigepclemdmaaDoorSm7
namespace Go.Proofs.YtceigepclemdmaaDoor
open Go.RowKit
set_option maxRecDepth 100000

theorem need_short {n i k : Nat} (h : n < i + k) (h0 : 0 < k) : needOf n i k = ⟨3, i, true⟩ := by
  unfold needOf
  rw [if_neg (by omega), if_pos (by omega)]
theorem need_there {n i k : Nat} (h : i + k ≤ n) : needOf n i k = ⟨0, 0, false⟩ := by
  unfold needOf
  rw [if_neg (by omega), if_neg (by omega)]
theorem part_there {l : List UInt8} {n i k : Nat} (h : i + k ≤ n) : partAt l n i k = (l.drop i).take k := by
  unfold partAt
  rw [need_there h, if_pos rfl, Int.toNat_natCast, Int.toNat_natCast]
theorem get_part {l : List UInt8} {n i k j : Nat} (hl : l.length = n) (h : i + k ≤ n) (hj : j < k) : ∃ x, ((l.drop i).take k)[j]? = some x ∧ x.toNat = bat l (i + j) := by
  have hlt : i + j < l.length := by omega
  refine ⟨l[i + j], ?_, (bat_get (List.getElem?_eq_getElem hlt)).symm⟩
  rw [List.getElem?_take, if_pos hj, List.getElem?_drop, List.getElem?_eq_getElem hlt]

theorem Tells.held' {w : World} {v : Value} {f : Fl} (h : Tells w v f) (hc : f.code ≠ 0) : ∃ T x, v = .iface T x := by
  rcases h with ⟨h0, _⟩ | ⟨h0, d, fs, h1, _⟩
  · exact absurd h0 hc
  · exact h1.chain.held
theorem Tells.none' {w : World} {v : Value} {f : Fl} (h : Tells w v f) (hc : f.code = 0) : v = .nilIface := by
  rcases h with ⟨_, h⟩ | ⟨h0, _⟩
  · exact h
  · exact absurd hc h0
/-- What headAt hands back. -/
def HeadR (l : List UInt8) (n : Nat) (kind : Int) (i : Nat) (w : World) (e : Ending) (w' : World) : Prop :=
  ∃ A' n' c' v, e = .returned (.tuple #[.slice A' n' c', v]) ∧ Tells w' v (stepv l n kind i) ∧ Below w.heap.size w w' ∧ ((stepv l n kind i).code = 0 → n' = hsz l kind i ∧ Bs w' A' n' c' ((l.drop i).take n') ∧ 8 ≤ n' ∧ i + n' ≤ n)
set_option maxHeartbeats 1000000 in
theorem headAt_any {A : Option Addr} {n c : Nat} {l : List UInt8} {w : World} (hb : Bs w A n c l) (h47 : n ≤ 140737488350000) (i : Nat) (hi : i ≤ 140737488350000) (kind : Int) : Calls Tryd.prog 37 #[.slice A n c, .int .i64 i, .int .i64 kind] w (HeadR l n kind i w) := by
  have hl := hb.len
  have HB := Lib.hid hb
  have k1 := part_any hb i (8 : Nat) (by omega) (by omega) h47
  clear hb
  rw [show ((8 : Nat) : Int) = 8 from rfl] at k1
  by_cases hs : n < i + 8
  · have hst : stepv l n kind i = ⟨3, i, true⟩ := by unfold stepv; rw [if_pos (.inl hs)]
    unfold HeadR
    rw [hst]
    rw [show (8 : Int) = ((8 : Nat) : Int) from rfl, need_short hs (by omega)] at k1
    have K1 := Lib.hid k1
    clear k1 hst hs
    go_enter Tryd.func37, Tryd.ntmps37
    go_wp2_with fail
    refine K1.out.mono ?_
    rintro e w1 ⟨A1, n1, c1, v1, rfl, h1, h2, h3⟩
    obtain ⟨T, x, rfl⟩ := Tells.held' h2 (by simp)
    have H1 := Lib.hid (And.intro h2 h3)
    clear h1 h2 h3
    go_wp2_with fail
    go_ret2
    exact ⟨_, _, _, _, rfl, H1.out.1, H1.out.2, fun h => absurd h (by simp)⟩
  · have hs8 : i + 8 ≤ n := by omega
    rw [show (8 : Int) = ((8 : Nat) : Int) from rfl, need_there hs8, part_there hs8] at k1
    have K1 := Lib.hid k1
    clear k1
    by_cases hk : kind = 44
    · subst hk
      have hz : hsz l 44 i = 8 := if_pos rfl
      by_cases hf : fragv l i
      · have hst : stepv l n 44 i = ⟨9, i, true⟩ := by unfold stepv; rw [if_neg (by rw [hz]; omega), if_pos ⟨rfl, hf⟩]
        unfold HeadR
        rw [hst]
        unfold fragv at hf
        clear hst hs hz
        go_enter Tryd.func37, Tryd.ntmps37
        go_wp2_with fail
        refine K1.out.mono ?_
        rintro e w1 ⟨A1, n1, c1, v1, rfl, h1, h2, h3⟩
        obtain rfl := Tells.none' h2 rfl
        have hn1 : n1 = 8 := by rw [← h1.len, List.length_take, List.length_drop, hl]; omega
        subst hn1
        have hq := num_any6 h1 2 (by omega)
        rw [num2_take (by omega), num2_drop] at hq
        have H1 := Lib.hid h3
        have HQ := Lib.hid hq
        clear h1 h2 h3 hq
        go_wp2_with fail
        refine HQ.out.mono ?_
        rintro e w' ⟨rfl, rfl⟩
        go_wp2_with fail
        refine (wrap_told (a := 0) i (Tells.bare w1 9 (by decide) 0) (by decide)).mono ?_
        rintro e w2 ⟨v2, rfl, h1, h2⟩
        have H2 := Lib.hid (And.intro h1 (H1.out.trans (h2.mono H1.out.size)))
        clear h1 h2
        go_wp2_with fail
        go_ret2
        exact ⟨_, _, _, _, rfl, H2.out.1, H2.out.2, fun h => absurd h (by simp)⟩
      · have hst : stepv l n 44 i = ⟨0, 0, false⟩ := by unfold stepv; rw [if_neg (by rw [hz]; omega), if_neg (fun h => hf h.2)]
        unfold HeadR
        rw [hst, hz]
        unfold fragv at hf
        have hf := Decidable.not_not.1 hf
        clear hst hs hz
        go_enter Tryd.func37, Tryd.ntmps37
        go_wp2_with fail
        refine K1.out.mono ?_
        rintro e w1 ⟨A1, n1, c1, v1, rfl, h1, h2, h3⟩
        obtain rfl := Tells.none' h2 rfl
        have hn1 : n1 = 8 := by rw [← h1.len, List.length_take, List.length_drop, hl]; omega
        subst hn1
        have hq := num_any6 h1 2 (by omega)
        rw [num2_take (by omega), num2_drop] at hq
        have H1 := Lib.hid (And.intro h3 h1)
        have HQ := Lib.hid hq
        clear h1 h2 h3 hq
        go_wp2_with fail
        refine HQ.out.mono ?_
        rintro e w' ⟨rfl, rfl⟩
        go_wp2_with fail
        go_ret2
        exact ⟨_, _, _, _, rfl, Tells.nil _ _ _, H1.out.1, fun _ => ⟨rfl, H1.out.2, by omega, by omega⟩⟩
    · have hz : hsz l kind i = 8 + 8 * bat l (i + 1) := if_neg hk
      obtain ⟨x, hx, hxb⟩ := get_part hl hs8 (j := 1) (by omega)
      rw [← hxb] at hz
      have hxl := x.toNat_lt
      have HX := Lib.hid hx
      clear hx hxb
      by_cases hbig : n < i + (8 + 8 * x.toNat)
      · have hst : stepv l n kind i = ⟨3, i, true⟩ := by unfold stepv; rw [if_pos (.inr (by rw [hz]; exact hbig))]
        unfold HeadR
        rw [hst]
        clear hst hs hz
        go_enter Tryd.func37, Tryd.ntmps37
        go_wp2_with fail
        refine K1.out.mono ?_
        rintro e w1 ⟨A1, n1, c1, v1, rfl, h1, h2, h3⟩
        obtain rfl := Tells.none' h2 rfl
        have hn1 : n1 = 8 := by rw [← h1.len, List.length_take, List.length_drop, hl]; omega
        subst hn1
        obtain ⟨b, off, rfl, hc⟩ := h1.here (by omega)
        have hc1 := hc 1 x HX.out
        have k2 := part_any (HB.out.later h3 (Nat.le_refl _)) i (8 + 8 * x.toNat : Nat) (by omega) (by omega) h47
        rw [need_short hbig (by omega), show ((8 + 8 * x.toNat : Nat) : Int) = 8 + 8 * (x.toNat : Int) by omega] at k2
        have H1 := Lib.hid h3
        have K2 := Lib.hid k2
        clear h1 h2 h3 hc k2
        go_wp2_with fail
        refine K2.out.mono ?_
        rintro e w2 ⟨A2, n2, c2, v2, rfl, h1, h2, h3⟩
        have H2 := Lib.hid (And.intro h2 (H1.out.trans (h3.mono H1.out.size)))
        clear h1 h2 h3
        go_wp2_with fail
        go_ret2
        exact ⟨_, _, _, _, rfl, H2.out.1, H2.out.2, fun h => absurd h (by simp)⟩
      · have hst : stepv l n kind i = ⟨0, 0, false⟩ := by unfold stepv; rw [if_neg (by rw [hz]; omega), if_neg (fun h => hk h.1)]
        unfold HeadR
        rw [hst, hz]
        clear hst hs hz
        have hbig' : i + (8 + 8 * x.toNat) ≤ n := by omega
        go_enter Tryd.func37, Tryd.ntmps37
        go_wp2_with fail
        refine K1.out.mono ?_
        rintro e w1 ⟨A1, n1, c1, v1, rfl, h1, h2, h3⟩
        obtain rfl := Tells.none' h2 rfl
        have hn1 : n1 = 8 := by rw [← h1.len, List.length_take, List.length_drop, hl]; omega
        subst hn1
        obtain ⟨b, off, rfl, hc⟩ := h1.here (by omega)
        have hc1 := hc 1 x HX.out
        have k2 := part_any (HB.out.later h3 (Nat.le_refl _)) i (8 + 8 * x.toNat : Nat) (by omega) (by omega) h47
        rw [need_there hbig', part_there hbig', show ((8 + 8 * x.toNat : Nat) : Int) = 8 + 8 * (x.toNat : Int) by omega] at k2
        have H1 := Lib.hid h3
        have K2 := Lib.hid k2
        clear h1 h2 h3 hc k2
        go_wp2_with fail
        refine K2.out.mono ?_
        rintro e w2 ⟨A2, n2, c2, v2, rfl, h1, h2, h3⟩
        have hn2 : n2 = 8 + 8 * x.toNat := by rw [← h1.len, List.length_take, List.length_drop, hl]; omega
        subst hn2
        obtain rfl := Tells.none' h2 rfl
        have H2 := Lib.hid (And.intro h1 (H1.out.trans (h3.mono H1.out.size)))
        clear h1 h2 h3
        go_wp2_with fail
        go_ret2
        exact ⟨_, _, _, _, rfl, Tells.nil _ _ _, H2.out.2, fun _ => ⟨rfl, H2.out.1, by omega, hbig'⟩⟩
end Go.Proofs.YtceigepclemdmaaDoor
