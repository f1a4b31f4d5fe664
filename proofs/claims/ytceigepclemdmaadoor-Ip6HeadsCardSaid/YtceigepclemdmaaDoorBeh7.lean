/-
  Package ip6's behindHeads: the kind behind all heads. Conditions: those of the slice, forty bytes at least; 2^47 bytes at most.
-/
import Derived.Test.YtceigepclemdmaaDoorWalk7
namespace Go.Proofs.YtceigepclemdmaaDoor
open Go.RowKit
set_option maxRecDepth 100000

set_option maxHeartbeats 2000000 in
theorem behind_any {A : Option Addr} {n c : Nat} {l : List UInt8} {w : World} (hb : Bs w A n c l) (h40 : 40 ≤ n) (h47 : n ≤ 140737488350000) : Calls Tryd.prog 20 #[.slice A n c] w fun e w' =>
    ∃ v, e = .returned (.tuple #[.int .i64 (walk l n 8 (bat l 6) 40).1, .int .i64 ((walk l n 8 (bat l 6) 40).2.1 : Nat), v]) ∧ Tells w' v (walk l n 8 (bat l 6) 40).2.2 ∧ Below w.heap.size w w' := by
  have hl := hb.len
  have HB := Lib.hid hb
  obtain ⟨r, hr⟩ : ∃ r, walk l n 8 (bat l 6) 40 = r := ⟨_, rfl⟩
  rw [hr]
  obtain ⟨b0, off, rfl, hc⟩ := hb.here (by omega)
  have hlt6 : 6 < l.length := by omega
  have hc6 := hc 6 l[6] (List.getElem?_eq_getElem hlt6)
  have hb6 := bat_get (List.getElem?_eq_getElem hlt6)
  generalize l[6] = x6 at hc6 hb6
  have hx6 := x6.toNat_lt
  rw [hb6] at hr
  have HR := Lib.hid hr
  clear hb hc hr hb6 hlt6
  go_enter Tryd.func20, Tryd.ntmps20
  go_wp2_with fail
  go_loopw [5, 6, 7] (fun k a b wr => ∃ (j i : Nat) (kd : Int), k = .int .i64 kd ∧ a = .int .i64 i ∧ b = .int .i64 j ∧ j ≤ 8 ∧ i ≤ n ∧ (0 ≤ kd ∧ kd < 256) ∧ Hid (walk l n (8 - j) kd i = r) ∧ Below w.heap.size w wr) (fun _ _ b _ => 9 - (intOf b).toNat)
  case atStart => exact ⟨0, 40, x6.toNat, rfl, rfl, rfl, by omega, h40, by omega, HR.out, Below.refl _ _⟩
  case round =>
    obtain ⟨j, i, kd, rfl, rfl, rfl, hj, hi, hkd, hw, hb⟩ := hrel
    have HI := isHead_any kd
    by_cases hx : ext kd
    · rw [decide_eq_true hx] at HI
      have HI := Lib.hid HI
      by_cases ho : kd = 0 ∧ 0 < j
      · obtain ⟨rfl, hj0⟩ := ho
        have ht := turn_any 0 j
        rw [turnv_first (by omega), show ev 10 = .iface 34 (.int .i64 10) from rfl] at ht
        have HT := Lib.hid ht
        have HE := Lib.hid (And.intro ((walk_order (l := l) (to := n) (i := i) (t := 8 - j) (by omega)).symm.trans hw.out) hb)
        clear ht hw hb hx hkd
        go_wp2_with fail
        refine (HI.out _).mono ?_
        rintro e w' ⟨rfl, rfl⟩
        go_wp2_with fail
        refine (HT.out _).mono ?_
        rintro e w' ⟨rfl, rfl⟩
        go_wp2_with fail
        refine (wrap_told (a := 0) i (Tells.bare _ 10 (by decide) 0) (by decide)).mono ?_
        rintro e w2 ⟨v2, rfl, h1, h2⟩
        have H2 := Lib.hid (And.intro h1 (HE.out.2.trans (h2.mono HE.out.2.size)))
        clear h1 h2
        go_wp2_with fail
        rw [← HE.out.1]
        exact bodyPost_ret (v := .tuple #[.int .i64 0, .int .i64 0, v2]) (by simp [results, Tryd.results20, go_sem]) rfl ⟨_, rfl, H2.out⟩
      by_cases hd : 8 ≤ j
      · obtain rfl : j = 8 := by omega
        have h0 : kd ≠ 0 := fun h => ho ⟨h, by omega⟩
        have ht := turn_any kd (8 : Nat)
        rw [turnv_deep hx h0 (by omega), show ev 11 = .iface 34 (.int .i64 11) from rfl] at ht
        have HT := Lib.hid ht
        have HE := Lib.hid (And.intro ((walk_deep (l := l) (to := n) (i := i) hx h0).symm.trans hw.out) hb)
        clear ht hw hb hx hkd h0 ho
        go_wp2_with fail
        refine (HI.out _).mono ?_
        rintro e w' ⟨rfl, rfl⟩
        go_wp2_with fail
        refine (HT.out _).mono ?_
        rintro e w' ⟨rfl, rfl⟩
        go_wp2_with fail
        refine (wrap_told (a := 0) i (Tells.bare _ 11 (by decide) 0) (by decide)).mono ?_
        rintro e w2 ⟨v2, rfl, h1, h2⟩
        have H2 := Lib.hid (And.intro h1 (HE.out.2.trans (h2.mono HE.out.2.size)))
        clear h1 h2
        go_wp2_with fail
        rw [← HE.out.1]
        exact bodyPost_ret (v := .tuple #[.int .i64 0, .int .i64 0, v2]) (by simp [results, Tryd.results20, go_sem]) rfl ⟨_, rfl, H2.out⟩
      · obtain ⟨t, ht8⟩ : ∃ t, 8 - j = t + 1 := ⟨8 - j - 1, by omega⟩
        have h0 : kd = 0 → t = 7 := fun h => by
          have : ¬ 0 < j := fun hh => ho ⟨h, hh⟩
          omega
        have ht := turn_any kd j
        have htv : turnv kd j = 0 := by
          by_cases hk0 : kd = 0
          · subst hk0
            exact turnv_zero (by have := h0 rfl; omega)
          · exact turnv_ok hx hk0 (by omega)
        rw [htv, show ev 0 = .nilIface from rfl] at ht
        have HT := Lib.hid ht
        have hh := headAt_any (HB.out.later hb (Nat.le_refl _)) h47 i (by omega) kd
        have HH := Lib.hid (And.intro hh hb)
        have hw' := hw.out
        rw [ht8] at hw'
        by_cases hs : (stepv l n kd i).code = 0
        · have hw2 := (walk_step (l := l) (to := n) hx h0 hs).symm.trans hw'
          have HW := Lib.hid (And.intro hw2 hs)
          clear ht hw hb hx ho hh hw' hw2 hs htv
          go_wp2_with fail
          refine (HI.out _).mono ?_
          rintro e w' ⟨rfl, rfl⟩
          go_wp2_with fail
          refine (HT.out _).mono ?_
          rintro e w' ⟨rfl, rfl⟩
          go_wp2_with fail
          refine HH.out.1.mono ?_
          rintro e w2 ⟨A2, n2, c2, v2, rfl, t2, b2, g2⟩
          obtain rfl := Tells.none' t2 HW.out.2
          obtain ⟨e2, hb2, h8, hto⟩ := g2 HW.out.2
          obtain ⟨bb, of2, rfl, hc2⟩ := hb2.here (by omega)
          obtain ⟨x, hx, hxb⟩ := get_part hl hto (j := 0) (by omega)
          have hc0 := hc2 0 x hx
          rw [Nat.add_zero] at hxb hc0
          have hxl := x.toNat_lt
          have hw3 := HW.out.1
          rw [← e2, ← hxb, show t = 8 - (j + 1) by omega] at hw3
          have H2 := Lib.hid (And.intro hw3 (HH.out.2.trans (b2.mono HH.out.2.size)))
          clear t2 b2 g2 hb2 hc2 hx hxb hw3 e2
          go_wp2_with fail
          exact ⟨⟨j + 1, i + n2, x.toNat, by go_num, by go_num, by go_num, by omega, hto, by omega, H2.out.1, H2.out.2⟩, by simp [intOf]; omega⟩
        · have hw2 := (walk_bad (l := l) (to := n) hx h0 hs).symm.trans hw'
          have HW := Lib.hid (And.intro hw2 hs)
          clear ht hw hb hx ho hh hw' hw2 hs htv
          go_wp2_with fail
          refine (HI.out _).mono ?_
          rintro e w' ⟨rfl, rfl⟩
          go_wp2_with fail
          refine (HT.out _).mono ?_
          rintro e w' ⟨rfl, rfl⟩
          go_wp2_with fail
          refine HH.out.1.mono ?_
          rintro e w2 ⟨A2, n2, c2, v2, rfl, t2, b2, g2⟩
          obtain ⟨T, xv, rfl⟩ := Tells.held' t2 HW.out.2
          have H2 := Lib.hid (And.intro t2 (HH.out.2.trans (b2.mono HH.out.2.size)))
          clear t2 b2 g2
          go_wp2_with fail
          rw [← HW.out.1]
          exact bodyPost_ret (v := .tuple #[.int .i64 0, .int .i64 0, .iface T xv]) (by simp [results, Tryd.results20, go_sem]) rfl ⟨_, rfl, H2.out⟩
    · rw [decide_eq_false hx] at HI
      have HI := Lib.hid HI
      have HE := Lib.hid (And.intro ((walk_end (l := l) (to := n) (i := i) (t := 8 - j) hx).symm.trans hw.out) hb)
      clear hw hb hx
      go_wp2_with fail
      refine (HI.out _).mono ?_
      rintro e w' ⟨rfl, rfl⟩
      go_wp2_with fail
      rw [← HE.out.1]
      exact bodyPost_ret (v := .tuple #[.int .i64 kd, .int .i64 i, .nilIface]) (by simp [results, Tryd.results20, go_sem]) rfl ⟨_, rfl, Tells.nil _ _ _, HE.out.2⟩
end Go.Proofs.YtceigepclemdmaaDoor
