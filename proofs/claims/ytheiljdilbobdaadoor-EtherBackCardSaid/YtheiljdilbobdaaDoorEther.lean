/-
  ether.kindAt, Parse: the kind at a place, and the place behind it, of any frame, or why there is none. Conditions: those of the slice.
-/
import Derived.Test.YtheiljdilbobdaaDoorOctE
namespace Go.Proofs.YtheiljdilbobdaaDoor
open Go.RowKit

/-- errors.Is of what is told. -/
theorem Is_told {w : World} {v : Value} {f : Fl} (h : Tells w v f) (x : Int) (hx : x ≠ 0) : Calls Tryd.prog 18 #[v, .iface 30 (.int .i64 x)] w fun e w' => e = .returned (.bool (f.code == x)) ∧ w = w' := by
  rcases h with ⟨h0, rfl⟩ | ⟨h0, d, fs, h1, h2⟩
  · rw [h0, show ((0 : Int) == x) = false by simp; omega]
    exact Is_nil _ _ w
  · exact Is_any h1

/-- The kind at a place, or why there is none; one of a tag is too deep. -/
def kindv (l : List UInt8) (n : Nat) (at_ : Int) : Int × Fl := if numAt l n at_ 2 = 33024 then (0, ⟨11, at_, true⟩) else ((numAt l n at_ 2 : Nat), needOf n at_ 2)
theorem kind_any {A : Option Addr} {n c : Nat} {l : List UInt8} {w : World} (hb : Bs w A n c l) (at_ : Int) (h63 : at_ ≤ 9223372036854775807) : Calls Tryd.prog 17 #[.slice A n c, .int .i64 at_] w fun e w' =>
    ∃ v, e = .returned (.tuple #[.int .i64 (kindv l n at_).1, v]) ∧ Tells w' v (kindv l n at_).2 ∧ Below w.heap.size w w' := by
  have H := Lib.hid (u16_any hb at_ h63)
  unfold kindv
  clear hb
  by_cases hk : numAt l n at_ 2 = 33024
  · rw [if_pos hk]
    rw [hk] at H
    clear hk
    go_enter Tryd.func17, Tryd.ntmps17
    go_wp2_with fail
    refine H.out.mono ?_
    rintro e w1 ⟨v, rfl, h1, h2⟩
    have H1 := Lib.hid h2
    clear h1 h2
    go_wp2_with fail
    refine (wrap_told (a := 0) at_ (Tells.bare w1 11 (by decide) 0) (by decide)).mono ?_
    rintro e w2 ⟨v2, rfl, h1, h2⟩
    have H2 := Lib.hid (And.intro h1 (H1.out.trans (h2.mono H1.out.size)))
    clear h1 h2
    go_wp2_with fail
    go_ret2
    exact ⟨_, rfl, H2.out⟩
  · rw [if_neg hk]
    have hk' : ¬ ((numAt l n at_ 2 : Nat) : Int) = 33024 := by omega
    generalize numAt l n at_ 2 = m at H hk' ⊢
    clear hk
    go_enter Tryd.func17, Tryd.ntmps17
    go_wp2_with fail
    refine H.out.mono ?_
    rintro e w1 ⟨v, rfl, h1, h2⟩
    have H1 := Lib.hid (And.intro h1 h2)
    clear h1 h2
    go_wp2_with fail
    go_ret2
    exact ⟨_, rfl, H1.out⟩

/-- What Parse answers from a place on, with so many tags left. -/
def etherAt (l : List UInt8) (n : Nat) : Nat → Int → Int × Int × Fl
  | 0, at_ => if (kindv l n at_).2.code = 0 then ((kindv l n at_).1, at_ + 2, ⟨0, 0, false⟩) else (0, 0, (kindv l n at_).2)
  | t + 1, at_ => if (kindv l n at_).2.code = 11 then etherAt l n t (at_ + 4) else if (kindv l n at_).2.code = 0 then ((kindv l n at_).1, at_ + 2, ⟨0, 0, false⟩) else (0, 0, (kindv l n at_).2)
def etherv (l : List UInt8) (n : Nat) : Int × Int × Fl := if 2000 < n then (0, 0, ⟨4, 0, false⟩) else etherAt l n 2 12

theorem Tells.held {w : World} {v : Value} {f : Fl} (h : Tells w v f) (hc : f.code ≠ 0) : ∃ T x, v = .iface T x := by
  rcases h with ⟨h0, _⟩ | ⟨h0, d, fs, h1, _⟩
  · exact absurd h0 hc
  · exact h1.chain.held
theorem Tells.none_ {w : World} {v : Value} {f : Fl} (h : Tells w v f) (hc : f.code = 0) : v = .nilIface := by
  rcases h with ⟨_, h⟩ | ⟨h0, _⟩
  · exact h
  · exact absurd hc h0

set_option maxRecDepth 100000 in
set_option maxHeartbeats 1000000 in
theorem parse_ether {A : Option Addr} {n c : Nat} {l : List UInt8} {w : World} (hb : Bs w A n c l) : Calls Tryd.prog 8 #[.slice A n c] w fun e w' =>
    ∃ v, e = .returned (.tuple #[.int .i64 (etherv l n).1, .int .i64 (etherv l n).2.1, v]) ∧ Tells w' v (etherv l n).2.2 ∧ Below w.heap.size w w' := by
  have hm := Nat.le_trans hb.cap hb.max
  unfold maxLen at hm
  have HB := Lib.hid hb
  clear hb
  unfold etherv
  by_cases hbig : 2000 < n
  · rw [if_pos hbig]
    go_enter Tryd.func8, Tryd.ntmps8
    go_wp2_with fail
    exact bodyPost_ret (v := .tuple #[.int .i64 0, .int .i64 0, .iface 30 (.int .i64 4)]) (by simp [results, Tryd.results8, go_sem]) rfl ⟨_, rfl, Tells.bare _ 4 (by decide) 0, Below.refl _ _⟩
  · rw [if_neg hbig]
    go_enter Tryd.func8, Tryd.ntmps8
    go_wp2_with fail
    refine (kind_any HB.out 12 (by omega)).mono ?_
    rintro e w1 ⟨v1, rfl, h1, h2⟩
    have H1 := Lib.hid (And.intro h1 h2)
    clear h1 h2
    go_wp2_with fail
    go_loopw [5, 6, 7, 8] (fun a k e t wr => ∃ j : Nat, j ≤ 2 ∧ t = .int .i64 j ∧ a = .int .i64 (12 + 4 * (j : Int)) ∧ k = .int .i64 (kindv l n (12 + 4 * (j : Int))).1 ∧ Tells wr e (kindv l n (12 + 4 * (j : Int))).2 ∧ etherAt l n 2 12 = etherAt l n (2 - j) (12 + 4 * (j : Int)) ∧ Below w.heap.size w wr) (fun _ _ _ t _ => 2 - (intOf t).toNat)
    case atStart => exact ⟨0, by omega, rfl, rfl, rfl, H1.out.1, rfl, H1.out.2⟩
    case round =>
      obtain ⟨j, hj, rfl, rfl, rfl, ht, he, hb⟩ := hrel
      by_cases hlt : j < 2
      · obtain ⟨r, hr⟩ : ∃ r, 2 - j = r + 1 := ⟨2 - j - 1, by omega⟩
        have hI := Is_told ht 11 (by decide)
        by_cases hc : (kindv l n (12 + 4 * (j : Int))).2.code = 11
        · rw [show ((kindv l n (12 + 4 * (j : Int))).2.code == 11) = true by simp [hc]] at hI
          have hs : etherAt l n (2 - j) (12 + 4 * (j : Int)) = etherAt l n (2 - (j + 1)) (12 + 4 * (j : Int) + 4) := by
            rw [hr, show 2 - (j + 1) = r by omega]
            show (if _ then _ else _) = _
            rw [if_pos hc]
          have HS := Lib.hid (And.intro (he.trans hs) (And.intro hI hb))
          clear hs hI hb hc ht hr he
          go_wp2_with fail
          refine HS.out.2.1.mono ?_
          rintro e w' ⟨rfl, rfl⟩
          go_wp2_with fail
          refine (kind_any (HB.out.later HS.out.2.2 (Nat.le_refl _)) _ (by omega)).mono ?_
          rintro e w2 ⟨v2, rfl, h1, h2⟩
          have H2 := Lib.hid (And.intro h1 (HS.out.2.2.trans (h2.mono HS.out.2.2.size)))
          clear h1 h2
          go_wp2_with fail
          have h4 : (12 : Int) + 4 * ((j + 1 : Nat) : Int) = 12 + 4 * (j : Int) + 4 := by omega
          exact ⟨⟨j + 1, by omega, by go_num, by rw [h4], by rw [h4], by rw [h4]; exact H2.out.1, by rw [h4]; exact HS.out.1, H2.out.2⟩, by simp [intOf]; omega⟩
        · rw [show ((kindv l n (12 + 4 * (j : Int))).2.code == 11) = false by simp [hc]] at hI
          rcases Decidable.em ((kindv l n (12 + 4 * (j : Int))).2.code = 0) with h0 | h0
          · obtain rfl := ht.none_ h0
            have hend : etherAt l n (2 - j) (12 + 4 * (j : Int)) = ((kindv l n (12 + 4 * (j : Int))).1, (12 + 4 * (j : Int)) + 2, ⟨0, 0, false⟩) := by rw [hr]; show (if _ then _ else _) = _; rw [if_neg hc, if_pos h0]
            have HE := Lib.hid (And.intro (he.trans hend) (And.intro hI hb))
            clear hend hI hb h0 ht hc he
            go_wp2_with fail
            refine HE.out.2.1.mono ?_
            rintro e w' ⟨rfl, rfl⟩
            go_wp2_with fail
            rw [HE.out.1]
            exact bodyPost_ret (v := .tuple #[.int .i64 (kindv l n (12 + 4 * (j : Int))).1, .int .i64 (12 + 4 * (j : Int) + 2), .nilIface]) (by simp [results, Tryd.results8, go_sem]) rfl ⟨_, rfl, Tells.nil _ _ _, HE.out.2.2⟩
          · obtain ⟨T, x, rfl⟩ := ht.held h0
            have hend : etherAt l n (2 - j) (12 + 4 * (j : Int)) = (0, 0, (kindv l n (12 + 4 * (j : Int))).2) := by rw [hr]; show (if _ then _ else _) = _; rw [if_neg hc, if_neg h0]
            have HE := Lib.hid (And.intro (he.trans hend) (And.intro hI (And.intro ht hb)))
            clear hend hI hb h0 ht hc he
            go_wp2_with fail
            refine HE.out.2.1.mono ?_
            rintro e w' ⟨rfl, rfl⟩
            go_wp2_with fail
            rw [HE.out.1]
            exact bodyPost_ret (v := .tuple #[.int .i64 0, .int .i64 0, .iface T x]) (by simp [results, Tryd.results8, go_sem]) rfl ⟨_, rfl, HE.out.2.2.1, HE.out.2.2.2⟩
      · obtain rfl : j = 2 := by omega
        have hI : True := trivial
        have hc : True := trivial
        rcases Decidable.em ((kindv l n (12 + 4 * ((2 : Nat) : Int))).2.code = 0) with h0 | h0
        · obtain rfl := ht.none_ h0
          have hend : etherAt l n (2 - 2) (12 + 4 * ((2 : Nat) : Int)) = ((kindv l n (12 + 4 * ((2 : Nat) : Int))).1, (12 + 4 * ((2 : Nat) : Int)) + 2, ⟨0, 0, false⟩) := by show (if _ then _ else _) = _; rw [if_pos h0]
          have HE := Lib.hid (And.intro (he.trans hend) (And.intro hI hb))
          clear hend hI hb h0 ht hc he
          go_wp2_with fail
          rw [HE.out.1]
          exact bodyPost_ret (v := .tuple #[.int .i64 (kindv l n (12 + 4 * ((2 : Nat) : Int))).1, .int .i64 (12 + 4 * ((2 : Nat) : Int) + 2), .nilIface]) (by simp [results, Tryd.results8, go_sem]) rfl ⟨_, rfl, Tells.nil _ _ _, HE.out.2.2⟩
        · obtain ⟨T, x, rfl⟩ := ht.held h0
          have hend : etherAt l n (2 - 2) (12 + 4 * ((2 : Nat) : Int)) = (0, 0, (kindv l n (12 + 4 * ((2 : Nat) : Int))).2) := by show (if _ then _ else _) = _; rw [if_neg h0]
          have HE := Lib.hid (And.intro (he.trans hend) (And.intro hI (And.intro ht hb)))
          clear hend hI hb h0 ht hc he
          go_wp2_with fail
          rw [HE.out.1]
          exact bodyPost_ret (v := .tuple #[.int .i64 0, .int .i64 0, .iface T x]) (by simp [results, Tryd.results8, go_sem]) rfl ⟨_, rfl, HE.out.2.2.1, HE.out.2.2.2⟩
end Go.Proofs.YtheiljdilbobdaaDoor
