/-
  stockadelaw03.SumChecks answers true, whatever is handed in. No conditions.
-/
import Derived.Test.YthkhbjjiffpkoaaAwake03
import Derived.Test.YthkhbjjiffpkoaaPut
namespace Go.Proofs.Ythkhbjjiffpkoaa
open Go.RowKit

/-- int(uint(a) % uint(m)), m from 1 on. -/
theorem num_rem (a : Int) (m : Int) (h0 : 0 < m) (h1 : m ≤ 10000) : 0 ≤ wrap64 ((IntKind.u64.wrap a).tmod m) ∧ wrap64 ((IntKind.u64.wrap a).tmod m) < m := by
  have h : IntKind.u64.wrap a = a % 18446744073709551616 := rfl
  have h2 : 0 ≤ IntKind.u64.wrap a := by rw [h]; omega
  rw [Int.tmod_eq_emod_of_nonneg h2]
  have h3 := Int.emod_nonneg (IntKind.u64.wrap a) (show m ≠ 0 by omega)
  have h4 := Int.emod_lt_of_pos (IntKind.u64.wrap a) h0
  generalize IntKind.u64.wrap a % m = x at h3 h4
  unfold wrap64
  omega

/-- A pair in a row of the call's own. -/
theorem pair_at {w : World} {base n : Nat} {e : TypeId} {g cap : Nat} {l : List UInt8} (o : w.ownsRow base e 1 (.slice (some ⟨g, 0, none⟩) n cap) n (bv l)) (j : Nat) (hj : j + 1 < n) :
    ∃ p q, l[j]? = some p ∧ l[j + 1]? = some q ∧ w.cell? ⟨g, j, none⟩ = some (.int .u8 p.toNat) ∧ w.cell? ⟨g, j + 1, none⟩ = some (.int .u8 q.toNat) ∧ w.frozen? ⟨g, j, none⟩ = false ∧ w.frozen? ⟨g, j + 1, none⟩ = false := by
  have hl : l.length = n := by have := o.1; rw [bv_length] at this; omega
  have hp : l[j]? = some (l[j]'(by omega)) := List.getElem?_eq_getElem (by omega)
  have hq : l[j + 1]? = some (l[j + 1]'(by omega)) := List.getElem?_eq_getElem (by omega)
  exact ⟨_, _, hp, hq, (o.cellAt j (by omega)).trans (bv_at hp), (o.cellAt (j + 1) (by omega)).trans (bv_at hq), o.frozenAt j, o.frozenAt (j + 1)⟩

/-- A pair stored there. -/
theorem pair_set {w w0 : World} {base n : Nat} {e : TypeId} {g cap : Nat} {l : List UInt8} (o : w.ownsRow base e 1 (.slice (some ⟨g, 0, none⟩) n cap) n (bv l)) (hb : Below base w0 w) (j : Nat) (u v : Value) (x y : UInt8) (hu : u = .int .u8 x.toNat) (hv : v = .int .u8 y.toNat) :
    ((w.setCell ⟨g, j, none⟩ u).setCell ⟨g, j + 1, none⟩ v).ownsRow base e 1 (.slice (some ⟨g, 0, none⟩) n cap) n (bv ((l.set j x).set (j + 1) y)) ∧ Below base w0 ((w.setCell ⟨g, j, none⟩ u).setCell ⟨g, j + 1, none⟩ v) := by
  subst hu hv
  have hg : base ≤ g := (o.lt g rfl).1
  have o1 := (o.stored j (.int .u8 x.toNat)).1
  rw [bv_set] at o1
  have o2 := (o1.stored (j + 1) (.int .u8 y.toNat)).1
  rw [bv_set] at o2
  exact ⟨o2, (hb.setCell (p := ⟨g, j, none⟩) hg _).setCell (p := ⟨g, j + 1, none⟩) hg _⟩
theorem back_sum {a s : Nat} (h : a ≤ 65535) (hs : 65535 - a = s) : a + s = 65535 := by omega
theorem cks_own (l : List UInt8) (j : Nat) (p q x y : UInt8) (hj : j % 2 = 0) (hp : l[j]? = some p) (hq : l[j + 1]? = some q) (s : Nat) (hs : cks ((l.set j 0).set (j + 1) 0) = s) (hx : x.toNat * 256 + y.toNat = s) : cks ((((l.set j 0).set (j + 1) 0).set j x).set (j + 1) y) = 0 := by
  obtain ⟨h1, _⟩ := List.getElem?_eq_some_iff.1 hp
  obtain ⟨h2, _⟩ := List.getElem?_eq_some_iff.1 hq
  have h3 : ((l.set j 0).set (j + 1) 0)[j]? = some 0 := by rw [List.getElem?_set_ne (by omega), List.getElem?_set_self h1]
  have h4 : ((l.set j 0).set (j + 1) 0)[j + 1]? = some 0 := List.getElem?_set_self (by rw [List.length_set]; exact h2)
  have h5 := tot_set _ j 0 0 x y hj h3 h4
  generalize (l.set j 0).set (j + 1) 0 = m at h5 hs ⊢
  have h6 := fold_le (tot m)
  unfold cks at hs ⊢
  have h7 : tot ((m.set j x).set (j + 1) y) = tot m + s := by simp at h5; omega
  have h8 : fold (tot m + s) = 65535 := by
    rw [← fold_fold, back_sum h6 hs]
    exact fold_small (Nat.le_refl _)
  rw [h7, h8]

set_option maxRecDepth 100000 in
set_option maxHeartbeats 4000000 in
theorem sumChecks {A : Option Addr} {n c : Nat} {l : List UInt8} {w : World} (hb : Bs w A n c l) (a0 : Int) : Calls Try.prog 4 #[.slice A n c, .int .i64 a0] w fun e w' => e = .returned (.bool true) ∧ Below w.heap.size w w' := by
  have hm := Nat.le_trans hb.cap hb.max
  unfold maxLen at hm
  have HB := Lib.hid hb
  clear hb
  by_cases hbig : n < 2
  · go_enter Try.func4, Try.ntmps4
    go_wp2_with fail
    refine (awake03 _).mono ?_
    rintro e w1 ⟨rfl, h1⟩
    have H1 := Lib.hid h1
    clear h1
    go_wp2_with fail
    go_ret
    exact ⟨rfl, H1.out⟩
  · by_cases hbig2 : 2000 < n
    · go_enter Try.func4, Try.ntmps4
      go_wp2_with fail
      refine (awake03 _).mono ?_
      rintro e w1 ⟨rfl, h1⟩
      have H1 := Lib.hid h1
      clear h1
      go_wp2_with fail
      go_ret
      exact ⟨rfl, H1.out⟩
    · obtain ⟨q1, q2⟩ := num_rem a0 ((n : Int) / 2) (by omega) (by omega)
      go_enter Try.func4, Try.ntmps4
      go_wp2_with (at_builtin; refine wpList_append_bs rfl (.const (.slice none 0 0)) (.tmp 25) 25 rfl w.heap.size 5 info5 Try.underlying25 _ 0 [] rfl (World.ownsRow_nil _ _ _ _) _ _ _ _ rfl HB.out (by omega) (Nat.le_refl _) ?_; intro v3 w3 o3 g3 _ _; have o4 := owns_n (n' := n) (by omega) o3; rw [List.nil_append] at o4; obtain ⟨g, cap, rfl, _, _⟩ := o4.form (by omega); generalize wrap64 ((IntKind.u64.wrap a0).tmod ((n : Int) / 2)) = x1 at q1 q2 ⊢; obtain ⟨i, rfl⟩ := Int.eq_ofNat_of_zero_le q1; obtain ⟨p, q, hp, hq, hc1, hc2, hf1, hf2⟩ := pair_at o4 (i * 2) (by omega); have H3 := Lib.hid (And.intro o4 (And.intro ((Below.refl w.heap.size w).grown g3 (Nat.le_refl _) (fun q hq => by cases hq)) (And.intro hp hq))); clear o3 g3 o4 hp hq)
      obtain ⟨o4, b4⟩ := pair_set H3.out.1 H3.out.2.1 (i * 2) (.int .u8 0) (.int .u8 0) 0 0 rfl rfl
      obtain ⟨A4, c4, e4, hB4⟩ := Bs.of_own o4
      cases e4
      have H4 := Lib.hid (And.intro o4 b4)
      obtain ⟨s, hs⟩ : ∃ s, cks ((l.set (i * 2) 0).set (i * 2 + 1) 0) = s := ⟨_, rfl⟩
      have qs : s ≤ 65535 := by rw [← hs]; exact cks_le _
      refine (of_any hB4 (by omega)).mono ?_
      rintro e w5 ⟨rfl, b5⟩
      rw [hs]
      have o5 := own_kept H4.out.1 b5
      obtain ⟨p', q', _, _, hd1, hd2, hg1, hg2⟩ := pair_at o5 (i * 2) (by omega)
      have H5 := Lib.hid (And.intro o5 (And.intro (H4.out.2.trans (b5.mono H4.out.2.size)) hs))
      clear o4 b4 o5 b5 hs hB4 hc1 hc2 hf1 hf2
      go_wp2_with fail
      have hx : (UInt8.ofNat (s / 256)).toNat = s / 256 := by simp only [UInt8.toNat_ofNat']; omega
      have hy : (UInt8.ofNat (s % 256)).toNat = s % 256 := by simp only [UInt8.toNat_ofNat']; omega
      obtain ⟨o6, b6⟩ := pair_set H5.out.1 H5.out.2.1 (i * 2) (.int .u8 ((s : Int) / 256)) (.int .u8 ((s : Int) % 256)) (UInt8.ofNat (s / 256)) (UInt8.ofNat (s % 256)) (by rw [hx]; rfl) (by rw [hy]; rfl)
      have hcks := cks_own l (i * 2) p q (UInt8.ofNat (s / 256)) (UInt8.ofNat (s % 256)) (by omega) H3.out.2.2.1 H3.out.2.2.2 s H5.out.2.2 (by rw [hx, hy]; omega)
      have H6 := Lib.hid (And.intro o6 (And.intro b6 hcks))
      clear hx hy o6 b6 hcks hd1 hd2 hg1 hg2
      refine (awake03 _).mono ?_
      rintro e w7 ⟨rfl, b7⟩
      obtain ⟨A7, c7, e7, hB7⟩ := Bs.of_own (own_kept H6.out.1 b7)
      cases e7
      have H7 := Lib.hid (And.intro hB7 (H6.out.2.1.trans (b7.mono H6.out.2.1.size)))
      clear b7 hB7
      go_wp2_with fail
      refine (of_any H7.out.1 (by omega)).mono ?_
      rintro e w8 ⟨rfl, b8⟩
      rw [H6.out.2.2]
      have H8 := Lib.hid (H7.out.2.trans (b8.mono H7.out.2.size))
      have qd : decide ((s : Int) ≤ 65535) = true := decide_eq_true (by omega)
      clear b8
      go_wp2_with fail
      go_ret
      exact ⟨rfl, H8.out⟩
end Go.Proofs.Ythkhbjjiffpkoaa
