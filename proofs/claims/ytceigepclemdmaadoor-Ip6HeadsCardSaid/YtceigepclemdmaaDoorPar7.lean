/-
  Package ip6's Parse: who sends what to whom, or why there is none. Conditions: those of the slice; 2^47 bytes at most.
-/
import Derived.Test.YtceigepclemdmaaDoorBeh7
import Derived.Test.YtceigepclemdmaaDoorAd7
import Derived.Test.YtceigepclemdmaaDoorHd
namespace Go.Proofs.YtceigepclemdmaaDoor
open Go.RowKit
set_option maxRecDepth 100000

theorem walk_take {l : List UInt8} {to : Nat} : ∀ (t : Nat) (k : Int) (i : Nat), walk (l.take to) to t k i = walk l to t k i := by
  have hs : ∀ (k : Int) (i : Nat), stepv (l.take to) to k i = stepv l to k i := by
    intro k i
    unfold stepv
    by_cases h8 : to < i + 8
    · rw [if_pos (.inl h8), if_pos (.inl h8)]
    · have hz : hsz (l.take to) k i = hsz l k i := by
        unfold hsz
        rw [bat_take (show i + 1 < to by omega)]
      have hf : fragv (l.take to) i = fragv l i := by
        unfold fragv
        rw [num2_take (show i + 2 + 2 ≤ to by omega)]
      rw [hz]
      by_cases hb : to < i + hsz l k i
      · rw [if_pos (.inr hb), if_pos (.inr hb)]
      · rw [if_neg (show ¬ (to < i + 8 ∨ to < i + hsz l k i) by omega), if_neg (show ¬ (to < i + 8 ∨ to < i + hsz l k i) by omega)]
        by_cases hk : k = 44 ∧ fragv l i
        · rw [if_pos (by rw [hf]; exact hk), if_pos hk]
        · rw [if_neg (by rw [hf]; exact hk), if_neg hk]
  intro t
  induction t with
  | zero => intro k i; rfl
  | succ t ih =>
    intro k i
    show (if _ then _ else _) = (if _ then _ else _)
    by_cases hx : ext k
    · rw [if_pos hx, if_pos hx]
      by_cases h0 : k = 0 ∧ t ≠ 7
      · rw [if_pos h0, if_pos h0]
      · rw [if_neg h0, if_neg h0, hs]
        by_cases hc : (stepv l to k i).code ≠ 0
        · rw [if_pos hc, if_pos hc]
        · rw [if_neg hc, if_neg hc]
          have h8 : ¬ to < i + 8 := by
            intro h
            exact hc (by unfold stepv; rw [if_pos (.inl h)]; simp)
          have hz : hsz (l.take to) k i = hsz l k i := by
            unfold hsz
            rw [bat_take (show i + 1 < to by omega)]
          rw [hz, bat_take (show i < to by omega), ih]
    · rw [if_neg hx, if_neg hx]
theorem Bs.head' {w : World} {A : Option Addr} {n c k : Nat} {l : List UInt8} (h : Bs w A n c l) (hk : k ≤ n) : Bs w A k c (l.take k) :=
  ⟨by rw [List.length_take, h.len]; omega, Nat.le_trans hk h.cap, h.max, h.none_, fun h0 => by
    obtain ⟨b, off, e, hc⟩ := h.here (by omega)
    refine ⟨b, off, e, fun i x hx => hc i x ?_⟩
    rw [List.getElem?_take] at hx
    split at hx
    · exact hx
    · cases hx⟩

/-- What Parse hands back. -/
def ParR (r : Hd × Fl) (w : World) (e : Ending) (w' : World) : Prop := ∃ v, e = .returned (.tuple #[.agg (hdv r.1), v]) ∧ Tells w' v r.2 ∧ Below w.heap.size w w'
set_option maxHeartbeats 2000000 in
theorem parse_ip6 {A : Option Addr} {n c : Nat} {l : List UInt8} {w : World} (hb : Bs w A n c l) (h47 : n ≤ 140737488350000) : Calls Tryd.prog 7 #[.slice A n c] w (ParR (ip6v l n) w) := by
  have hl := hb.len
  have HB := Lib.hid hb
  have hcap := hb.cap
  have hmax := hb.max
  unfold maxLen at hmax
  clear hb
  unfold ip6v
  by_cases hs : n < 40
  · rw [if_pos hs]
    go_enter Tryd.func7, Tryd.ntmps7
    go_wp2_with (refine wpList_alloc_hd rfl rfl ?_; intro w1 a1 b1 z1; have H1 := Lib.hid (And.intro a1 b1); clear a1 b1 z1)
    have k1 := part_any (HB.out.later H1.out.2 (Nat.le_refl _)) (0 : Nat) (40 : Nat) (by omega) (by omega) h47
    rw [need_short (by omega) (by omega)] at k1
    refine k1.mono ?_
    rintro e w2 ⟨A2, n2, c2, v2, rfl, g1, g2, g3⟩
    obtain ⟨T, x, rfl⟩ := Tells.held' g2 (by simp)
    have H2 := Lib.hid (And.intro (H1.out.1.later g3 (Nat.le_refl _)) (And.intro g2 (H1.out.2.trans (g3.mono H1.out.2.size))))
    clear g1 g2 g3 k1
    go_wp2_with (refine wpList_store_hd rfl (.tmp 2) (.tmp 17) rfl .zero rfl rfl hd_zero_ok H2.out.1 ?_; intro w3 a3 o3 z3 b3; have H3 := Lib.hid (And.intro a3 (And.intro (b3 w.heap.size w (Nat.le_refl _) H2.out.2.2) (H2.out.2.1.farHd H2.out.1 o3))); clear a3 o3 z3 b3)
    exact bodyPost_ret (results_hd_tmp rfl _ rfl H3.out.1) rfl ⟨.iface T x, rfl, H3.out.2.2, H3.out.2.1⟩
  rw [if_neg hs]
  have hs : 40 ≤ n := by omega
  have k1 : ∀ w1, Below w.heap.size w w1 → _ := fun w1 hb1 => part_any (HB.out.later hb1 (Nat.le_refl _)) (0 : Nat) (40 : Nat) (by omega) (by omega) h47
  rw [need_there (by omega), part_there (by omega), List.drop_zero] at k1
  have K1 := Lib.hid k1
  clear k1
  obtain ⟨x, hx0, hxb⟩ := get_part hl (i := 0) (k := 40) (by omega) (j := 0) (by omega)
  rw [List.drop_zero] at hx0
  rw [← hxb]
  have hxl := x.toNat_lt
  have HX := Lib.hid hx0
  clear hx0 hxb
  by_cases hv : ¬ x.toNat / 16 = 6
  · rw [if_pos hv]
    have hv' : ¬ (x.toNat : Int) / 16 = 6 := by omega
    clear hv
    go_enter Tryd.func7, Tryd.ntmps7
    go_wp2_with (refine wpList_alloc_hd rfl rfl ?_; intro w1 a1 b1 z1; have H1 := Lib.hid (And.intro a1 b1); clear a1 b1 z1)
    refine (K1.out _ H1.out.2).mono ?_
    rintro e w2 ⟨A2, n2, c2, v2, rfl, g1, g2, g3⟩
    obtain rfl := Tells.none' g2 rfl
    obtain ⟨bb, of2, rfl, hc2⟩ := g1.here (by rw [← g1.len, List.length_take]; omega)
    have hc0 := hc2 0 x HX.out
    rw [Nat.add_zero] at hc0
    have hn2 : n2 = 40 := by rw [← g1.len, List.length_take]; omega
    subst hn2
    have H2 := Lib.hid (And.intro (H1.out.1.later g3 (Nat.le_refl _)) (H1.out.2.trans (g3.mono H1.out.2.size)))
    clear g1 g2 g3 hc2
    go_wp2_with fail
    refine (wrap_told (a := 0) 0 (Tells.bare w2 6 (by decide) 0) (by decide)).mono ?_
    rintro e w3 ⟨v3, rfl, g1, g2⟩
    have H3 := Lib.hid (And.intro (H2.out.1.later g2 (Nat.le_refl _)) (And.intro g1 (H2.out.2.trans (g2.mono H2.out.2.size))))
    clear g1 g2
    go_wp2_with (refine wpList_store_hd rfl (.tmp 2) (.tmp 24) rfl .zero rfl rfl hd_zero_ok H3.out.1 ?_; intro w4 a3 o3 z3 b3; have H4 := Lib.hid (And.intro a3 (And.intro (b3 w.heap.size w (Nat.le_refl _) H3.out.2.2) (H3.out.2.1.farHd H3.out.1 o3))); clear a3 o3 z3 b3)
    exact bodyPost_ret (results_hd_tmp rfl _ rfl H4.out.1) rfl ⟨v3, rfl, H4.out.2.2, H4.out.2.1⟩
  rw [if_neg hv]
  have hv' : (x.toNat : Int) / 16 = 6 := by omega
  clear hv
  by_cases hsz : n < 40 + num2 l 4
  · rw [if_pos hsz]
    have hq : (n : Int) - 40 < (num2 l 4 : Int) := by omega
    have hnl := num2_lt l 4
    have HN : Hid (∀ (w1 : World) (A1 : Option Addr) (c1 : Nat), Bs w1 A1 40 c1 (l.take 40) → Calls Tryd.prog 19 #[.slice A1 40 c1, .int .i64 4] w1 fun e w' => e = .returned (.int .i64 (num2 l 4)) ∧ w1 = w') := fun w1 A1 c1 h => by
      have := num_any6 h 4 (by omega)
      rw [num2_take (by omega)] at this
      exact this
    generalize num2 l 4 = m at hq hnl hsz HN
    clear hsz
    go_enter Tryd.func7, Tryd.ntmps7
    go_wp2_with (refine wpList_alloc_hd rfl rfl ?_; intro w1 a1 b1 z1; have H1 := Lib.hid (And.intro a1 b1); clear a1 b1 z1)
    refine (K1.out _ H1.out.2).mono ?_
    rintro e w2 ⟨A2, n2, c2, v2, rfl, g1, g2, g3⟩
    obtain rfl := Tells.none' g2 rfl
    obtain ⟨bb, of2, rfl, hc2⟩ := g1.here (by rw [← g1.len, List.length_take]; omega)
    have hc0 := hc2 0 x HX.out
    rw [Nat.add_zero] at hc0
    have hn2 : n2 = 40 := by rw [← g1.len, List.length_take]; omega
    subst hn2
    have H2 := Lib.hid (And.intro (H1.out.1.later g3 (Nat.le_refl _)) (And.intro (H1.out.2.trans (g3.mono H1.out.2.size)) (HN.out _ _ _ g1)))
    clear g1 g2 g3 hc2
    go_wp2_with fail
    refine H2.out.2.2.mono ?_
    rintro e w' ⟨rfl, rfl⟩
    go_wp2_with fail
    refine (wrap_told (a := 0) 4 (Tells.bare w2 7 (by decide) 0) (by decide)).mono ?_
    rintro e w3 ⟨v3, rfl, g1, g2⟩
    have H3 := Lib.hid (And.intro (H2.out.1.later g2 (Nat.le_refl _)) (And.intro g1 (H2.out.2.1.trans (g2.mono H2.out.2.1.size))))
    clear g1 g2
    go_wp2_with (refine wpList_store_hd rfl (.tmp 2) (.tmp 34) rfl .zero rfl rfl hd_zero_ok H3.out.1 ?_; intro w4 a3 o3 z3 b3; have H4 := Lib.hid (And.intro a3 (And.intro (b3 w.heap.size w (Nat.le_refl _) H3.out.2.2) (H3.out.2.1.farHd H3.out.1 o3))); clear a3 o3 z3 b3)
    exact bodyPost_ret (results_hd_tmp rfl _ rfl H4.out.1) rfl ⟨v3, rfl, H4.out.2.2, H4.out.2.1⟩
  rw [if_neg hsz]
  have hq : ¬ (n : Int) - 40 < (num2 l 4 : Int) := by omega
  have hnl := num2_lt l 4
  have HN : Hid (∀ (w1 : World) (A1 : Option Addr) (c1 : Nat), Bs w1 A1 40 c1 (l.take 40) → Calls Tryd.prog 19 #[.slice A1 40 c1, .int .i64 4] w1 fun e w' => e = .returned (.int .i64 (num2 l 4)) ∧ w1 = w') := fun w1 A1 c1 h => by
    have := num_any6 h 4 (by omega)
    rw [num2_take (by omega)] at this
    exact this
  have HK : Hid (∀ w1, Below w.heap.size w w1 → Calls Tryd.prog 20 #[.slice A (40 + num2 l 4) c] w1 fun e w' => ∃ v, e = .returned (.tuple #[.int .i64 (walk l (40 + num2 l 4) 8 (bat l 6) 40).1, .int .i64 ((walk l (40 + num2 l 4) 8 (bat l 6) 40).2.1 : Nat), v]) ∧ Tells w' v (walk l (40 + num2 l 4) 8 (bat l 6) 40).2.2 ∧ Below w1.heap.size w1 w') := fun w1 hb1 => by
    have := behind_any ((HB.out.head' (k := 40 + num2 l 4) (by omega)).later hb1 (Nat.le_refl _)) (by omega) (by omega)
    rw [walk_take, bat_take (show 6 < 40 + num2 l 4 by omega)] at this
    exact this
  obtain ⟨⟨kd, ia, fl⟩, hr⟩ : ∃ r, walk l (40 + num2 l 4) 8 (bat l 6) 40 = r := ⟨_, rfl⟩
  rw [hr] at HK ⊢
  have hq2 : (40 : Int) + (num2 l 4 : Int) ≤ (c : Int) := by omega
  generalize num2 l 4 = m at hq hnl hsz HN HK hq2
  clear hr
  by_cases hf : fl.code ≠ 0
  · rw [if_pos hf]
    go_enter Tryd.func7, Tryd.ntmps7
    go_wp2_with (refine wpList_alloc_hd rfl rfl ?_; intro w1 a1 b1 z1; have H1 := Lib.hid (And.intro a1 b1); clear a1 b1 z1)
    refine (K1.out _ H1.out.2).mono ?_
    rintro e w2 ⟨A2, n2, c2, v2, rfl, g1, g2, g3⟩
    obtain rfl := Tells.none' g2 rfl
    obtain ⟨bb, of2, rfl, hc2⟩ := g1.here (by rw [← g1.len, List.length_take]; omega)
    have hc0 := hc2 0 x HX.out
    rw [Nat.add_zero] at hc0
    have hn2 : n2 = 40 := by rw [← g1.len, List.length_take]; omega
    subst hn2
    have H2 := Lib.hid (And.intro (H1.out.1.later g3 (Nat.le_refl _)) (And.intro (H1.out.2.trans (g3.mono H1.out.2.size)) (HN.out _ _ _ g1)))
    clear g1 g2 g3 hc2
    go_wp2_with fail
    refine H2.out.2.2.mono ?_
    rintro e w' ⟨rfl, rfl⟩
    go_wp2_with fail
    refine (HK.out _ H2.out.2.1).mono ?_
    rintro e w3 ⟨v3, rfl, g1, g2⟩
    obtain ⟨T, xv, rfl⟩ := Tells.held' g1 hf
    have H3 := Lib.hid (And.intro (H2.out.1.later g2 (Nat.le_refl _)) (And.intro g1 (H2.out.2.1.trans (g2.mono H2.out.2.1.size))))
    clear g1 g2
    go_wp2_with (refine wpList_store_hd rfl (.tmp 2) (.tmp 49) rfl .zero rfl rfl hd_zero_ok H3.out.1 ?_; intro w4 a3 o3 z3 b3; have H4 := Lib.hid (And.intro a3 (And.intro (b3 w.heap.size w (Nat.le_refl _) H3.out.2.2) (H3.out.2.1.farHd H3.out.1 o3))); clear a3 o3 z3 b3)
    exact bodyPost_ret (results_hd_tmp rfl _ rfl H4.out.1) rfl ⟨.iface T xv, rfl, H4.out.2.2, H4.out.2.1⟩
  · rw [if_neg hf]
    have hf : fl.code = 0 := Decidable.not_not.1 hf
    have HAd : Hid (∀ (w1 : World) (A1 : Option Addr) (c1 : Nat), Bs w1 A1 40 c1 (l.take 40) → (Calls Tryd.prog 21 #[.slice A1 40 c1, .int .i64 8] w1 fun e w' => e = .returned (.agg (adv true ((l.drop 8).take 16))) ∧ Below w1.heap.size w1 w') ∧ (Calls Tryd.prog 21 #[.slice A1 40 c1, .int .i64 24] w1 fun e w' => e = .returned (.agg (adv true ((l.drop 24).take 16))) ∧ Below w1.heap.size w1 w')) := fun w1 A1 c1 h => by
      have h8 := address_any h 8 (by omega)
      have h24 := address_any h 24 (by omega)
      rw [List.drop_take, List.take_take] at h8 h24
      exact ⟨h8, h24⟩
    go_enter Tryd.func7, Tryd.ntmps7
    go_wp2_with (refine wpList_alloc_hd rfl rfl ?_; intro w1 a1 b1 z1; have H1 := Lib.hid (And.intro a1 b1); clear a1 b1 z1)
    refine (K1.out _ H1.out.2).mono ?_
    rintro e w2 ⟨A2, n2, c2, v2, rfl, g1, g2, g3⟩
    obtain rfl := Tells.none' g2 rfl
    obtain ⟨bb, of2, rfl, hc2⟩ := g1.here (by rw [← g1.len, List.length_take]; omega)
    have hc0 := hc2 0 x HX.out
    rw [Nat.add_zero] at hc0
    have hn2 : n2 = 40 := by rw [← g1.len, List.length_take]; omega
    subst hn2
    have H2 := Lib.hid (And.intro (H1.out.1.later g3 (Nat.le_refl _)) (And.intro (H1.out.2.trans (g3.mono H1.out.2.size)) (And.intro (HN.out _ _ _ g1) g1)))
    clear g1 g2 g3 hc2
    go_wp2_with fail
    refine H2.out.2.2.1.mono ?_
    rintro e w' ⟨rfl, rfl⟩
    go_wp2_with fail
    refine (HK.out _ H2.out.2.1).mono ?_
    rintro e w3 ⟨v3, rfl, g1, g2⟩
    obtain rfl := Tells.none' g1 hf
    have H3 := Lib.hid (And.intro (H2.out.1.later g2 (Nat.le_refl _)) (And.intro (H2.out.2.2.2.later g2 (Nat.le_refl _)) (H2.out.2.1.trans (g2.mono H2.out.2.1.size))))
    clear g1 g2
    go_wp2_with fail
    refine (HAd.out _ _ _ H3.out.2.1).1.mono ?_
    rintro e w4 ⟨rfl, g1⟩
    have H4 := Lib.hid (And.intro (H3.out.1.later g1 (Nat.le_refl _)) (And.intro (H3.out.2.1.later g1 (Nat.le_refl _)) (H3.out.2.2.trans (g1.mono H3.out.2.2.size))))
    clear g1
    go_wp2_with fail
    refine (HAd.out _ _ _ H4.out.2.1).2.mono ?_
    rintro e w5 ⟨rfl, g1⟩
    have H5 := Lib.hid (And.intro (H4.out.1.later g1 (Nat.le_refl _)) (H4.out.2.2.trans (g1.mono H4.out.2.2.size)))
    clear g1
    have hl1 : ((l.drop 8).take 16).length = 16 := by rw [List.length_take, List.length_drop]; omega
    have hl2 : ((l.drop 24).take 16).length = 16 := by rw [List.length_take, List.length_drop]; omega
    go_wp2_with (first
      | (refine wpList_build_hd rfl (.tmp 52) (.tmp 54) (.tmp 55) (.tmp 56) (.tmp 57) rfl true rfl rfl rfl rfl rfl hl1 hl2 ?_)
      | (refine wpList_store_hd rfl (.tmp 2) (.tmp 58) rfl ⟨true, (l.drop 8).take 16, (l.drop 24).take 16, kd, ia, 40 + (m : Int)⟩ rfl rfl ⟨hl1, hl2⟩ H5.out.1 ?_; intro w6 a3 o3 z3 b3; have H6 := Lib.hid (And.intro a3 (b3 w.heap.size w (Nat.le_refl _) H5.out.2)); clear a3 o3 z3 b3))
    exact bodyPost_ret (results_hd_tmp rfl _ rfl H6.out.1) rfl ⟨.nilIface, rfl, Tells.nil _ _ _, H6.out.2⟩
end Go.Proofs.YtceigepclemdmaaDoor
