/-
  stockaderef01.Ip6: the document's own answers on packets of version 6. Conditions: those of the slice; 100,000 bytes at most.
-/
import Derived.Test.YtceigepclemdmaaDoorRefS7
import Derived.Test.YtceigepclemdmaaDoorRef
import Derived.Test.YtceigepclemdmaaDoorPar7
namespace Go.Proofs.YtceigepclemdmaaDoor
open Go.RowKit
set_option maxRecDepth 100000

theorem Bs.at' {w : World} {b off n c : Nat} {l : List UInt8} (h : Bs w (some ⟨b, off, none⟩) n c l) {i : Nat} {x : UInt8} (hx : l[i]? = some x) : w.cell? ⟨b, off + i, none⟩ = some (.int .u8 x.toNat) := by
  have hlt := (List.getElem?_eq_some_iff.1 hx).1
  obtain ⟨b', off', e, hc⟩ := h.here (by have := h.len; omega)
  cases e
  exact hc i x hx
theorem bat_some {l : List UInt8} {i n : Nat} (hl : l.length = n) (hi : i < n) : ∃ x, l[i]? = some x ∧ bat l i = x.toNat := by
  obtain ⟨x, hx⟩ : ∃ x, l[i]? = some x := ⟨l[i]'(by omega), List.getElem?_eq_getElem _⟩
  exact ⟨x, hx, bat_get hx⟩
theorem hsz_44 (l : List UInt8) (i : Nat) : hsz l 44 i = 8 := if_pos rfl
theorem hsz_ne (l : List UInt8) {k : Int} (h : k ≠ 44) (i : Nat) : hsz l k i = 8 + 8 * bat l (i + 1) := if_neg h
theorem stepv_short {l : List UInt8} {to i : Nat} {k : Int} (h : to < i + 8) : stepv l to k i = ⟨3, i, true⟩ := by unfold stepv; rw [if_pos (.inl h)]
theorem stepv_cut {l : List UInt8} {to i : Nat} {k : Int} (h : to < i + hsz l k i) : stepv l to k i = ⟨3, i, true⟩ := by unfold stepv; rw [if_pos (.inr h)]
theorem stepv_frag {l : List UInt8} {to i : Nat} (h8 : i + 8 ≤ to) (h : fragv l i) : stepv l to 44 i = ⟨9, i, true⟩ := by unfold stepv; rw [if_neg (by rw [hsz_44]; omega), if_pos ⟨rfl, h⟩]
theorem stepv_ok {l : List UInt8} {to i : Nat} {k : Int} (h8 : i + 8 ≤ to) (hz : i + hsz l k i ≤ to) (hf : ¬ (k = 44 ∧ fragv l i)) : stepv l to k i = ⟨0, 0, false⟩ := by unfold stepv; rw [if_neg (by omega), if_neg hf]

/-- What such a reference answers: a head, and which error. -/
def RefR (r : Hd × Fl) (w : World) (e : Ending) (w' : World) : Prop := e = .returned (.tuple #[.agg (hdv r.1), .agg (flv r.2.code r.2.at_ r.2.placed)]) ∧ Below w.heap.size w w'

set_option maxHeartbeats 16000000 in
theorem ref_ip6 {A : Option Addr} {n c : Nat} {l : List UInt8} {w : World} (hb : Bs w A n c l) (h2 : n ≤ 100000) : Calls Tryd.prog 8 #[.slice A n c] w (RefR (ip6v l n) w) := by
  have hm := Nat.le_trans hb.cap hb.max
  unfold maxLen at hm
  have hl := hb.len
  unfold ip6v
  by_cases hs : n < 40
  · rw [if_pos hs]
    have hs' : (n : Int) < 40 := by omega
    clear hb
    go_enter Tryd.func8, Tryd.ntmps8
    go_wp2_with (first
      | (refine wpList_alloc_hd rfl rfl ?_; intro w1 a1 b1 z1; have H1 := Lib.hid (And.intro a1 b1); clear a1 b1 z1)
      | (refine wpList_alloc_fl rfl rfl ?_; intro w2 a2 b2 z2; have H2 := Lib.hid (And.intro (H1.out.1.later b2 (Nat.le_refl _)) (And.intro a2 (H1.out.2.trans (b2.mono H1.out.2.size)))); clear a2 b2 z2))
    refine (help_at 3 0 _).mono ?_
    rintro e w3 ⟨rfl, b3⟩
    have H3 := Lib.hid (And.intro (H2.out.1.later b3 (Nat.le_refl _)) (And.intro (H2.out.2.1.later b3 (Nat.le_refl _)) (H2.out.2.2.trans (b3.mono H2.out.2.2.size))))
    clear b3
    have hne : w.heap.size ≠ w1.heap.size := Nat.ne_of_lt H1.out.1.lt
    go_wp2_with (first
      | (refine wpList_store_hd rfl (.tmp 2) (.tmp 14) rfl .zero rfl rfl hd_zero_ok H3.out.1 ?_; intro w4 a4 o4 z4 b4; have H4 := Lib.hid (And.intro a4 (And.intro (H3.out.2.1.same (o4 _ hne.symm)) (b4 w.heap.size w (Nat.le_refl _) H3.out.2.2))); clear a4 o4 z4 b4)
      | (refine wpList_store_fl rfl (.tmp 3) (.tmp 15) rfl 3 0 true rfl rfl H4.out.2.1 ?_; intro w5 a5 o5 z5 b5; have H5 := Lib.hid (And.intro (H4.out.1.same (o5 _ hne)) (And.intro a5 (b5 w.heap.size w H1.out.2.size H4.out.2.2))); clear a5 o5 z5 b5))
    exact bodyPost_ret (results_hd_fl rfl _ rfl rfl H5.out.1 H5.out.2.1) rfl ⟨rfl, H5.out.2.2⟩
  rw [if_neg hs]
  have hs : 40 ≤ n := by omega
  have hs' : ¬ (n : Int) < 40 := by omega
  obtain ⟨b, off, rfl, _⟩ := hb.here (by omega)
  have HB := Lib.hid hb
  clear hb
  obtain ⟨x, hx0, hxb⟩ := bat_some hl (i := 0) (by omega)
  obtain ⟨x6, hx6, hxb6⟩ := bat_some hl (i := 6) (by omega)
  rw [hxb]
  have hxl := x.toNat_lt
  have hx6l := x6.toNat_lt
  have HX := Lib.hid (And.intro hx0 (And.intro hx6 hxb6))
  clear hx0 hxb hx6 hxb6
  have HN : Hid (∀ w1, Below w.heap.size w w1 → Calls Tryd.prog 22 #[.slice (some ⟨b, off, none⟩) n c, .int .i64 4, .int .i64 2] w1 fun e w' => e = .returned (.int .i64 (num2 l 4)) ∧ w1 = w') := fun w1 h => num_any (HB.out.later h (Nat.le_refl _)) 4 2 (by omega) (by omega)
  by_cases hv : ¬ x.toNat / 16 = 6
  · rw [if_pos hv]
    have hv' : ¬ (x.toNat : Int) / 16 = 6 := by omega
    clear hv
    go_enter Tryd.func8, Tryd.ntmps8
    go_wp2_with (first
      | (refine wpList_alloc_hd rfl rfl ?_; intro w1 a1 b1 z1; have H1 := Lib.hid (And.intro a1 b1); clear a1 b1 z1)
      | (refine wpList_alloc_fl rfl rfl ?_; intro w2 a2 b2 z2; have H2 := Lib.hid (And.intro (H1.out.1.later b2 (Nat.le_refl _)) (And.intro a2 (H1.out.2.trans (b2.mono H1.out.2.size)))); have hc0 := (HB.out.later H2.out.2.2 (Nat.le_refl _)).at' HX.out.1; rw [Nat.add_zero] at hc0; clear a2 b2 z2))
    refine (help_at 6 0 _).mono ?_
    rintro e w3 ⟨rfl, b3⟩
    have H3 := Lib.hid (And.intro (H2.out.1.later b3 (Nat.le_refl _)) (And.intro (H2.out.2.1.later b3 (Nat.le_refl _)) (H2.out.2.2.trans (b3.mono H2.out.2.2.size))))
    clear b3
    have hne : w.heap.size ≠ w1.heap.size := Nat.ne_of_lt H1.out.1.lt
    go_wp2_with (first
      | (refine wpList_store_hd rfl (.tmp 2) (.tmp 22) rfl .zero rfl rfl hd_zero_ok H3.out.1 ?_; intro w4 a4 o4 z4 b4; have H4 := Lib.hid (And.intro a4 (And.intro (H3.out.2.1.same (o4 _ hne.symm)) (b4 w.heap.size w (Nat.le_refl _) H3.out.2.2))); clear a4 o4 z4 b4)
      | (refine wpList_store_fl rfl (.tmp 3) (.tmp 23) rfl 6 0 true rfl rfl H4.out.2.1 ?_; intro w5 a5 o5 z5 b5; have H5 := Lib.hid (And.intro (H4.out.1.same (o5 _ hne)) (And.intro a5 (b5 w.heap.size w H1.out.2.size H4.out.2.2))); clear a5 o5 z5 b5))
    exact bodyPost_ret (results_hd_fl rfl _ rfl rfl H5.out.1 H5.out.2.1) rfl ⟨rfl, H5.out.2.2⟩
  rw [if_neg hv]
  have hv' : (x.toNat : Int) / 16 = 6 := by omega
  clear hv
  have hnl := num2_lt l 4
  by_cases hsz : n < 40 + num2 l 4
  · rw [if_pos hsz]
    have hq : (n : Int) - 40 < (num2 l 4 : Int) := by omega
    generalize num2 l 4 = m at hq hnl hsz HN
    clear hsz
    go_enter Tryd.func8, Tryd.ntmps8
    go_wp2_with (first
      | (refine wpList_alloc_hd rfl rfl ?_; intro w1 a1 b1 z1; have H1 := Lib.hid (And.intro a1 b1); clear a1 b1 z1)
      | (refine wpList_alloc_fl rfl rfl ?_; intro w2 a2 b2 z2; have H2 := Lib.hid (And.intro (H1.out.1.later b2 (Nat.le_refl _)) (And.intro a2 (H1.out.2.trans (b2.mono H1.out.2.size)))); have hc0 := (HB.out.later H2.out.2.2 (Nat.le_refl _)).at' HX.out.1; rw [Nat.add_zero] at hc0; clear a2 b2 z2))
    refine (HN.out _ H2.out.2.2).mono ?_
    rintro e w' ⟨rfl, rfl⟩
    go_wp2_with fail
    refine (help_at 7 4 _).mono ?_
    rintro e w3 ⟨rfl, b3⟩
    have H3 := Lib.hid (And.intro (H2.out.1.later b3 (Nat.le_refl _)) (And.intro (H2.out.2.1.later b3 (Nat.le_refl _)) (H2.out.2.2.trans (b3.mono H2.out.2.2.size))))
    clear b3
    have hne : w.heap.size ≠ w1.heap.size := Nat.ne_of_lt H1.out.1.lt
    go_wp2_with (first
      | (refine wpList_store_hd rfl (.tmp 2) (.tmp 31) rfl .zero rfl rfl hd_zero_ok H3.out.1 ?_; intro w4 a4 o4 z4 b4; have H4 := Lib.hid (And.intro a4 (And.intro (H3.out.2.1.same (o4 _ hne.symm)) (b4 w.heap.size w (Nat.le_refl _) H3.out.2.2))); clear a4 o4 z4 b4)
      | (refine wpList_store_fl rfl (.tmp 3) (.tmp 32) rfl 7 4 true rfl rfl H4.out.2.1 ?_; intro w5 a5 o5 z5 b5; have H5 := Lib.hid (And.intro (H4.out.1.same (o5 _ hne)) (And.intro a5 (b5 w.heap.size w H1.out.2.size H4.out.2.2))); clear a5 o5 z5 b5))
    exact bodyPost_ret (results_hd_fl rfl _ rfl rfl H5.out.1 H5.out.2.1) rfl ⟨rfl, H5.out.2.2⟩
  rw [if_neg hsz]
  have hq : ¬ (n : Int) - 40 < (num2 l 4 : Int) := by omega
  have hto : 40 + num2 l 4 ≤ n := by omega
  obtain ⟨r, hr⟩ : ∃ r, walk l (40 + num2 l 4) 8 (bat l 6) 40 = r := ⟨_, rfl⟩
  rw [hr]
  rw [HX.out.2.2] at hr
  generalize num2 l 4 = m at hq hnl hsz HN hr hto ⊢
  obtain ⟨q, hq0⟩ : ∃ q, (if r.2.2.code ≠ 0 then ((Hd.zero, r.2.2) : Hd × Fl) else (⟨true, (l.drop 8).take 16, (l.drop 24).take 16, r.1, r.2.1, ((40 + m : Nat) : Int)⟩, ⟨0, 0, false⟩)) = q := ⟨_, rfl⟩
  rw [hq0]
  have HQ := Lib.hid hq0
  clear hq0
  have HR := Lib.hid hr
  have hl1 : ((l.drop 8).take 16).length = 16 := by rw [List.length_take, List.length_drop]; omega
  have hl2 : ((l.drop 24).take 16).length = 16 := by rw [List.length_take, List.length_drop]; omega
  have HF : Hid (∀ (w1 : World) (i : Nat), i + 4 ≤ n → Below w.heap.size w w1 → Calls Tryd.prog 22 #[.slice (some ⟨b, off, none⟩) n c, .int .i64 ((i : Int) + 2), .int .i64 2] w1 fun e w' => e = .returned (.int .i64 (num2 l (i + 2))) ∧ w1 = w') := fun w1 i hi h => num_any (HB.out.later h (Nat.le_refl _)) (i + 2) 2 (by omega) (by omega)
  clear hsz hr
  go_enter Tryd.func8, Tryd.ntmps8
  go_wp2_with (first
      | (refine wpList_alloc_hd rfl rfl ?_; intro w1 a1 b1 z1; have H1 := Lib.hid (And.intro a1 b1); clear a1 b1 z1)
      | (refine wpList_alloc_fl rfl rfl ?_; intro w2 a2 b2 z2; have H2 := Lib.hid (And.intro (H1.out.1.later b2 (Nat.le_refl _)) (And.intro a2 (H1.out.2.trans (b2.mono H1.out.2.size)))); have hc0 := (HB.out.later H2.out.2.2 (Nat.le_refl _)).at' HX.out.1; rw [Nat.add_zero] at hc0; clear a2 b2 z2))
  refine (HN.out _ H2.out.2.2).mono ?_
  rintro e w' ⟨rfl, rfl⟩
  go_wp2_with fail
  refine (HN.out _ H2.out.2.2).mono ?_
  rintro e w' ⟨rfl, rfl⟩
  have hc6 := (HB.out.later H2.out.2.2 (Nat.le_refl _)).at' HX.out.2.1
  have hne : w.heap.size ≠ w1.heap.size := Nat.ne_of_lt H1.out.1.lt
  have hle : w.heap.size ≤ w1.heap.size := H1.out.2.size
  go_wp2_with fail
  clear hc6 hc0
  go_loopw [5, 6, 7] (fun k i t wr => ∃ (j : Nat) (k' : Int) (i' : Nat), j ≤ 8 ∧ k = .int .i64 k' ∧ i = .int .i64 i' ∧ t = .int .i64 j ∧ 40 ≤ i' ∧ i' ≤ 40 + m ∧ r = walk l (40 + m) (8 - j) k' i' ∧ HdBox wr w.heap.size .zero ∧ FlBox wr w1.heap.size 0 0 false ∧ Below w.heap.size w wr) (fun _ _ t _ => 8 - (intOf t).toNat)
  case atStart => exact ⟨0, _, 40, by omega, rfl, rfl, rfl, by omega, by omega, HR.out.symm, H2.out.1, H2.out.2.1, H2.out.2.2⟩
  case round =>
    obtain ⟨j, k, i, hj, rfl, rfl, rfl, hi1, hi2, he, a1, a2, hb⟩ := hrel
    have KX := fun w => ref_extends k w
    by_cases hx : ¬ ext k
    · rw [decide_eq_false hx] at KX
      have he := he.trans (walk_end hx)
      have HS := Lib.hid (And.intro he (And.intro a1 (And.intro a2 hb)))
      have KX := Lib.hid KX
      clear he a1 a2 hb hx
      go_wp2_with fail
      refine (KX.out _).mono ?_
      rintro e w' ⟨rfl, rfl⟩
      go_wp2_with fail
      refine (ref_addr6 (HB.out.later HS.out.2.2.2 (Nat.le_refl _)) 8 (by omega)).mono ?_
      rintro e w4 ⟨rfl, b4⟩
      have H4 := Lib.hid (And.intro (HS.out.2.1.later b4 (Nat.le_refl _)) (And.intro (HS.out.2.2.1.later b4 (Nat.le_refl _)) (HS.out.2.2.2.trans (b4.mono HS.out.2.2.2.size))))
      clear b4
      go_wp2_with fail
      refine (ref_addr6 (HB.out.later H4.out.2.2 (Nat.le_refl _)) 24 (by omega)).mono ?_
      rintro e w5 ⟨rfl, b5⟩
      have H5 := Lib.hid (And.intro (H4.out.1.later b5 (Nat.le_refl _)) (And.intro (H4.out.2.1.later b5 (Nat.le_refl _)) (H4.out.2.2.trans (b5.mono H4.out.2.2.size))))
      clear b5
      go_wp2_with (first
        | (refine wpList_build_hd rfl (.tmp 116) (.tmp 118) (.tmp 119) (.tmp 120) (.tmp 121) rfl true rfl rfl rfl rfl rfl hl1 hl2 ?_)
        | (refine wpList_store_hd rfl (.tmp 2) (.tmp 122) rfl ⟨true, (l.drop 8).take 16, (l.drop 24).take 16, k, i, 40 + (m : Int)⟩ rfl rfl ⟨hl1, hl2⟩ H5.out.1 ?_; intro w6 a6 o6 z6 b6; have H6 := Lib.hid (And.intro a6 (And.intro (H5.out.2.1.same (o6 _ hne.symm)) (b6 w.heap.size w (Nat.le_refl _) H5.out.2.2))); clear a6 o6 z6 b6)
        | (refine wpList_store_fl rfl (.tmp 3) (.tmp 123) rfl 0 0 false rfl rfl H6.out.2.1 ?_; intro w7 a7 o7 z7 b7; have H7 := Lib.hid (And.intro (H6.out.1.same (o7 _ hne)) (And.intro a7 (b7 w.heap.size w hle H6.out.2.2))); clear a7 o7 z7 b7))
      exact bodyPost_ret (results_hd_fl rfl _ rfl rfl H7.out.1 H7.out.2.1) rfl (by rw [← HQ.out, HS.out.1, if_neg (fun h => h rfl)]; exact ⟨rfl, H7.out.2.2⟩)
    have hx := Decidable.not_not.1 hx
    rw [decide_eq_true hx] at KX
    have KX := Lib.hid KX
    have hba := HB.out.later hb (Nat.le_refl _)
    by_cases h8 : i + 8 ≤ 40 + m
    · obtain ⟨y, hy, hyb⟩ := bat_some hl (i := i + 1) (by omega)
      obtain ⟨z, hz, hzb⟩ := bat_some hl (i := i) (by omega)
      have hyl := y.toNat_lt
      have hzl := z.toNat_lt
      have HY := Lib.hid hy
      have HZ := Lib.hid hz
      have hq8 : (i : Int) + 8 ≤ 40 + (m : Int) := by omega
      have hq8d : decide ((i : Int) + 8 ≤ 40 + (m : Int)) = true := decide_eq_true hq8
      have hq8e : decide ((40 : Int) + (m : Int) < (i : Int) + 8) = false := decide_eq_false (by omega)
      clear hy hz
      by_cases hk44 : k = 44
      · subst hk44
        by_cases hj8 : j = 8
        · subst hj8
          have he := he.trans (walk_deep hx (by decide))
          have HS := Lib.hid (And.intro he (And.intro a1 (And.intro a2 hb)))
          clear he a1 a2 hba hx
          go_wp2_with fail
          refine (KX.out _).mono ?_
          rintro e w' ⟨rfl, rfl⟩
          go_wp2_with (first
            | (refine wpList_alloc_fl rfl rfl ?_; intro w3 a3 b3 z3; have H3 := Lib.hid (And.intro a3 b3); clear a3 b3 z3)
            | (refine wpList_store_fl rfl (.tmp 8) (.tmp 44) rfl 0 0 false rfl rfl H3.out.1 ?_; intro w4 a4 o4 z4 b4; have bb := b4 _ _ (Nat.le_refl _) H3.out.2; have H4 := Lib.hid (And.intro a4 (And.intro (HS.out.2.1.later bb (Nat.le_refl _)) (And.intro (HS.out.2.2.1.later bb (Nat.le_refl _)) (HS.out.2.2.2.trans (bb.mono HS.out.2.2.2.size))))); clear a4 o4 z4 b4 bb))
          refine (help_at 11 i _).mono ?_
          rintro e w5 ⟨rfl, b5⟩
          have H5 := Lib.hid (And.intro (H4.out.1.later b5 (Nat.le_refl _)) (And.intro (H4.out.2.1.later b5 (Nat.le_refl _)) (And.intro (H4.out.2.2.1.later b5 (Nat.le_refl _)) (H4.out.2.2.2.trans (b5.mono H4.out.2.2.2.size)))))
          have hg3 : w.heap.size ≤ wr.heap.size := HS.out.2.2.2.size
          have hn1 : w.heap.size ≠ wr.heap.size := Nat.ne_of_lt HS.out.2.1.lt
          have hn2 : w1.heap.size ≠ wr.heap.size := Nat.ne_of_lt HS.out.2.2.1.lt
          clear b5
          go_wp2_with (refine wpList_store_fl rfl (.tmp 8) (.tmp 74) rfl 11 i true rfl rfl H5.out.1 ?_; intro w6 a6 o6 z6 b6; have c6 : w6.cell? ⟨wr.heap.size, 0, none⟩ = some (.int .i64 11) := FlBox.cell a6 0; have H6 := Lib.hid (And.intro a6 (And.intro (H5.out.2.1.same (o6 _ hn1)) (And.intro (H5.out.2.2.1.same (o6 _ hn2)) (b6 w.heap.size w hg3 H5.out.2.2.2)))); clear a6 o6 z6 b6)
          have hS : Below w.heap.size w w6.drew ∧ FlBox w6.drew wr.heap.size 11 i true := ⟨H6.out.2.2.2.drew, H6.out.1.later (Below.refl _ _).drew (Nat.le_refl _)⟩
          have E1 : HdBox w6.drew w.heap.size .zero := H6.out.2.1.later (Below.refl _ _).drew (Nat.le_refl _)
          have E2 : FlBox w6.drew w1.heap.size 0 0 false := H6.out.2.2.1.later (Below.refl _ _).drew (Nat.le_refl _)
          refine rg_begin (fun w' => Below w.heap.size w w' ∧ FlBox w' wr.heap.size 11 i true) 4 (by kernel_rfl) rfl ?_
          refine rg_take 0 (v := ?rv1) rfl (by kernel_rfl) (by kernel_rfl) (by kernel_rfl) (fun _ _ _ h => h) (by rfl) hS (fun w2 hw2 => ?ry1) ?rr1
          case ry1 => ((try dsimp only at hw2); go_simp <;> with_reducible rfl)
          simp only [Act.put, List.setIfInBounds_toArray, List.set_cons_zero, List.set_cons_succ]
          refine rg_load 1 rfl (by kernel_rfl) (by kernel_rfl) (by kernel_rfl) (wr.heap.size) (0) ((flv 11 i true)) (fun _ _ _ h => h) (by rfl) 36 (.tmp 8) rfl rfl hS (fun w2 h2 => h2.2.range) Tryd.underlying36 rfl (fl_size _ _ _) ?_
          simp only [Act.put, List.setIfInBounds_toArray, List.set_cons_zero, List.set_cons_succ]
          refine rg_step 2 rfl (by kernel_rfl) (by rfl) (fun K hK => ?_)
          refine wp_store_hdF (.tmp 2) (.tmp 105) rfl .zero rfl rfl hd_zero_ok E1 ?_
          intro w7 a7 o7 b7
          replace hS := And.intro (b7 _ _ (Nat.le_refl _) hS.1) (hS.2.same (o7 _ hn1.symm))
          replace E2 := E2.same (o7 _ hne.symm)
          clear E1 o7 b7
          refine hK.out _ _ hS ?_
          clear hK K
          try simp only [Act.put]
          refine rg_step 3 rfl (by kernel_rfl) (by rfl) (fun K hK => ?_)
          refine wp_store_flF (.tmp 3) (.tmp 106) rfl 11 i true rfl rfl E2 ?_
          intro w8 a8 o8 b8
          replace hS := And.intro (b8 _ _ hle hS.1) (hS.2.same (o8 _ hn2.symm))
          replace a7 := a7.same (o8 _ hne)
          clear o8 b8
          refine hK.out _ _ hS ?_
          clear hK K
          try simp only [Act.put]
          refine rg_done (by kernel_rfl) ?_
          have H8 := Lib.hid (And.intro a7 (And.intro a8 hS.1))
          clear a7 a8 hS
          go_wp2_with fail
          exact bodyPost_ret (results_hd_fl rfl _ rfl rfl H8.out.1 H8.out.2.1) rfl (by rw [← HQ.out, HS.out.1, if_pos (show (11 : Int) ≠ 0 by decide)]; exact ⟨rfl, H8.out.2.2⟩)
        · rw [show 8 - j = (7 - j) + 1 by omega] at he
          have hj8i : ¬ (8 : Int) ≤ (j : Int) := by omega
          by_cases hfr : fragv l i
          · have hst := stepv_frag (l := l) h8 hfr
            have hfg : bits .and .i64 ((num2 l (i + 2) : Nat) : Int) 65529 ≠ 0 := hfr
            clear hfr
            have he := he.trans ((walk_bad hx (fun h => by cases h) (by rw [hst]; show (9 : Int) ≠ 0; decide)).trans (by rw [hst]))
            have HS := Lib.hid (And.intro he (And.intro a1 (And.intro a2 hb)))
            clear he a1 a2 hba hx
            go_wp2_with fail
            refine (KX.out _).mono ?_
            rintro e w' ⟨rfl, rfl⟩
            go_wp2_with (first
              | (refine wpList_alloc_fl rfl rfl ?_; intro w3 a3 b3 z3; have H3 := Lib.hid (And.intro a3 b3); clear a3 b3 z3)
              | (refine wpList_store_fl rfl (.tmp 8) (.tmp 44) rfl 0 0 false rfl rfl H3.out.1 ?_; intro w4 a4 o4 z4 b4; have bb := b4 _ _ (Nat.le_refl _) H3.out.2; have H4 := Lib.hid (And.intro a4 (And.intro (HS.out.2.1.later bb (Nat.le_refl _)) (And.intro (HS.out.2.2.1.later bb (Nat.le_refl _)) (HS.out.2.2.2.trans (bb.mono HS.out.2.2.2.size))))); clear a4 o4 z4 b4 bb))
            refine (HF.out _ i (by omega) H4.out.2.2.2).mono ?_
            rintro e w' ⟨rfl, rfl⟩
            go_wp2_with fail
            refine (help_at 9 i _).mono ?_
            rintro e w5 ⟨rfl, b5⟩
            have H5 := Lib.hid (And.intro (H4.out.1.later b5 (Nat.le_refl _)) (And.intro (H4.out.2.1.later b5 (Nat.le_refl _)) (And.intro (H4.out.2.2.1.later b5 (Nat.le_refl _)) (H4.out.2.2.2.trans (b5.mono H4.out.2.2.2.size)))))
            have hg3 : w.heap.size ≤ wr.heap.size := HS.out.2.2.2.size
            have hn1 : w.heap.size ≠ wr.heap.size := Nat.ne_of_lt HS.out.2.1.lt
            have hn2 : w1.heap.size ≠ wr.heap.size := Nat.ne_of_lt HS.out.2.2.1.lt
            clear b5
            go_wp2_with (refine wpList_store_fl rfl (.tmp 8) (.tmp 101) rfl 9 i true rfl rfl H5.out.1 ?_; intro w6 a6 o6 z6 b6; have c6 : w6.cell? ⟨wr.heap.size, 0, none⟩ = some (.int .i64 9) := FlBox.cell a6 0; have H6 := Lib.hid (And.intro a6 (And.intro (H5.out.2.1.same (o6 _ hn1)) (And.intro (H5.out.2.2.1.same (o6 _ hn2)) (b6 w.heap.size w hg3 H5.out.2.2.2)))); clear a6 o6 z6 b6)
            have hS : Below w.heap.size w w6.drew ∧ FlBox w6.drew wr.heap.size 9 i true := ⟨H6.out.2.2.2.drew, H6.out.1.later (Below.refl _ _).drew (Nat.le_refl _)⟩
            have E1 : HdBox w6.drew w.heap.size .zero := H6.out.2.1.later (Below.refl _ _).drew (Nat.le_refl _)
            have E2 : FlBox w6.drew w1.heap.size 0 0 false := H6.out.2.2.1.later (Below.refl _ _).drew (Nat.le_refl _)
            refine rg_begin (fun w' => Below w.heap.size w w' ∧ FlBox w' wr.heap.size 9 i true) 4 (by kernel_rfl) rfl ?_
            refine rg_take 0 (v := ?rv2) rfl (by kernel_rfl) (by kernel_rfl) (by kernel_rfl) (fun _ _ _ h => h) (by rfl) hS (fun w2 hw2 => ?ry2) ?rr2
            case ry2 => ((try dsimp only at hw2); go_simp <;> with_reducible rfl)
            simp only [Act.put, List.setIfInBounds_toArray, List.set_cons_zero, List.set_cons_succ]
            refine rg_load 1 rfl (by kernel_rfl) (by kernel_rfl) (by kernel_rfl) (wr.heap.size) (0) ((flv 9 i true)) (fun _ _ _ h => h) (by rfl) 36 (.tmp 8) rfl rfl hS (fun w2 h2 => h2.2.range) Tryd.underlying36 rfl (fl_size _ _ _) ?_
            simp only [Act.put, List.setIfInBounds_toArray, List.set_cons_zero, List.set_cons_succ]
            refine rg_step 2 rfl (by kernel_rfl) (by rfl) (fun K hK => ?_)
            refine wp_store_hdF (.tmp 2) (.tmp 105) rfl .zero rfl rfl hd_zero_ok E1 ?_
            intro w7 a7 o7 b7
            replace hS := And.intro (b7 _ _ (Nat.le_refl _) hS.1) (hS.2.same (o7 _ hn1.symm))
            replace E2 := E2.same (o7 _ hne.symm)
            clear E1 o7 b7
            refine hK.out _ _ hS ?_
            clear hK K
            try simp only [Act.put]
            refine rg_step 3 rfl (by kernel_rfl) (by rfl) (fun K hK => ?_)
            refine wp_store_flF (.tmp 3) (.tmp 106) rfl 9 i true rfl rfl E2 ?_
            intro w8 a8 o8 b8
            replace hS := And.intro (b8 _ _ hle hS.1) (hS.2.same (o8 _ hn2.symm))
            replace a7 := a7.same (o8 _ hne)
            clear o8 b8
            refine hK.out _ _ hS ?_
            clear hK K
            try simp only [Act.put]
            refine rg_done (by kernel_rfl) ?_
            have H8 := Lib.hid (And.intro a7 (And.intro a8 hS.1))
            clear a7 a8 hS
            go_wp2_with fail
            exact bodyPost_ret (results_hd_fl rfl _ rfl rfl H8.out.1 H8.out.2.1) rfl (by rw [← HQ.out, HS.out.1, if_pos (show (9 : Int) ≠ 0 by decide)]; exact ⟨rfl, H8.out.2.2⟩)
          · have hst := stepv_ok (l := l) (k := 44) h8 (by rw [hsz_44]; omega) (fun h => hfr h.2)
            have hfg : bits .and .i64 ((num2 l (i + 2) : Nat) : Int) 65529 = 0 := Decidable.not_not.1 hfr
            clear hfr
            have he := he.trans ((walk_step hx (fun h => by cases h) (by rw [hst])).trans (by rw [hsz_44]))
            rw [hzb] at he
            have HS := Lib.hid (And.intro he (And.intro a1 (And.intro a2 hb)))
            have HI := Lib.hid hzl
            clear he a1 a2 hba hx
            go_wp2_with fail
            refine (KX.out _).mono ?_
            rintro e w' ⟨rfl, rfl⟩
            go_wp2_with (first
              | (refine wpList_alloc_fl rfl rfl ?_; intro w3 a3 b3 z3; have H3 := Lib.hid (And.intro a3 b3); clear a3 b3 z3)
              | (refine wpList_store_fl rfl (.tmp 8) (.tmp 44) rfl 0 0 false rfl rfl H3.out.1 ?_; intro w4 a4 o4 z4 b4; have bb := b4 _ _ (Nat.le_refl _) H3.out.2; have H4 := Lib.hid (And.intro a4 (And.intro (HS.out.2.1.later bb (Nat.le_refl _)) (And.intro (HS.out.2.2.1.later bb (Nat.le_refl _)) (HS.out.2.2.2.trans (bb.mono HS.out.2.2.2.size))))); have c4 : w4.cell? ⟨wr.heap.size, 0, none⟩ = some (.int .i64 0) := FlBox.cell a4 0; have hcz := (HB.out.later H4.out.2.2.2 (Nat.le_refl _)).at' HZ.out; clear a4 o4 z4 b4 bb))
            refine (HF.out _ i (by omega) H4.out.2.2.2).mono ?_
            rintro e w' ⟨rfl, rfl⟩
            go_wp2_with fail
            exact ⟨⟨j + 1, (z.toNat : Int), i + (8), by omega, rfl, by go_num, by go_num, by omega, by omega, by rw [show 8 - (j + 1) = 7 - j by omega]; exact HS.out.1, H4.out.2.1, H4.out.2.2.1, H4.out.2.2.2⟩, by simp [intOf] <;> omega⟩
      · have hk44b : (k == 44) = false := by simpa using hk44
        have hk44c : (k != 44) = true := by simpa using hk44
        by_cases hk0 : k = 0
        · subst hk0
          by_cases hj0 : j = 0
          · subst hj0
            by_cases hfit : i + (8 + 8 * y.toNat) ≤ 40 + m
            · have hst := stepv_ok (l := l) (k := 0) h8 (by rw [hsz_ne l hk44, hyb]; omega) (fun h => hk44 h.1)
              have hfd : decide ((40 : Int) + (m : Int) < (i : Int) + (8 + 8 * (y.toNat : Int))) = false := decide_eq_false (by omega)
              have he := he.trans ((walk_step (t := 7) hx (fun _ => rfl) (by rw [hst])).trans (by rw [hsz_ne l hk44, hyb]))
              rw [hzb] at he
              have HS := Lib.hid (And.intro he (And.intro a1 (And.intro a2 hb)))
              have HI := Lib.hid hzl
              clear he a1 a2 hba hx
              go_wp2_with fail
              refine (KX.out _).mono ?_
              rintro e w' ⟨rfl, rfl⟩
              go_wp2_with (first
                | (refine wpList_alloc_fl rfl rfl ?_; intro w3 a3 b3 z3; have H3 := Lib.hid (And.intro a3 b3); clear a3 b3 z3)
                | (refine wpList_store_fl rfl (.tmp 8) (.tmp 44) rfl 0 0 false rfl rfl H3.out.1 ?_; intro w4 a4 o4 z4 b4; have bb := b4 _ _ (Nat.le_refl _) H3.out.2; have H4 := Lib.hid (And.intro a4 (And.intro (HS.out.2.1.later bb (Nat.le_refl _)) (And.intro (HS.out.2.2.1.later bb (Nat.le_refl _)) (HS.out.2.2.2.trans (bb.mono HS.out.2.2.2.size))))); have c4 : w4.cell? ⟨wr.heap.size, 0, none⟩ = some (.int .i64 0) := FlBox.cell a4 0; have hcz := (HB.out.later H4.out.2.2.2 (Nat.le_refl _)).at' HZ.out; have hcx := (HB.out.later H4.out.2.2.2 (Nat.le_refl _)).at' HY.out; clear a4 o4 z4 b4 bb))
              exact ⟨⟨0 + 1, (z.toNat : Int), i + (8 + 8 * y.toNat), by omega, rfl, by go_num, by go_num, by omega, by omega, by rw [show 8 - (0 + 1) = 7 - 0 by omega]; exact HS.out.1, H4.out.2.1, H4.out.2.2.1, H4.out.2.2.2⟩, by simp [intOf] <;> omega⟩
            · have hst := stepv_cut (l := l) (k := 0) (to := 40 + m) (i := i) (by rw [hsz_ne l hk44, hyb]; omega)
              have hfd : decide ((40 : Int) + (m : Int) < (i : Int) + (8 + 8 * (y.toNat : Int))) = true := decide_eq_true (by omega)
              have he := he.trans ((walk_bad (t := 7) hx (fun _ => rfl) (by rw [hst]; show (3 : Int) ≠ 0; decide)).trans (by rw [hst]))
              have HS := Lib.hid (And.intro he (And.intro a1 (And.intro a2 hb)))
              clear he a1 a2 hba hx
              go_wp2_with fail
              refine (KX.out _).mono ?_
              rintro e w' ⟨rfl, rfl⟩
              go_wp2_with (first
                | (refine wpList_alloc_fl rfl rfl ?_; intro w3 a3 b3 z3; have H3 := Lib.hid (And.intro a3 b3); clear a3 b3 z3)
                | (refine wpList_store_fl rfl (.tmp 8) (.tmp 44) rfl 0 0 false rfl rfl H3.out.1 ?_; intro w4 a4 o4 z4 b4; have bb := b4 _ _ (Nat.le_refl _) H3.out.2; have H4 := Lib.hid (And.intro a4 (And.intro (HS.out.2.1.later bb (Nat.le_refl _)) (And.intro (HS.out.2.2.1.later bb (Nat.le_refl _)) (HS.out.2.2.2.trans (bb.mono HS.out.2.2.2.size))))); have hcx := (HB.out.later H4.out.2.2.2 (Nat.le_refl _)).at' HY.out; clear a4 o4 z4 b4 bb))
              refine (help_at 3 i _).mono ?_
              rintro e w5 ⟨rfl, b5⟩
              have H5 := Lib.hid (And.intro (H4.out.1.later b5 (Nat.le_refl _)) (And.intro (H4.out.2.1.later b5 (Nat.le_refl _)) (And.intro (H4.out.2.2.1.later b5 (Nat.le_refl _)) (H4.out.2.2.2.trans (b5.mono H4.out.2.2.2.size)))))
              have hg3 : w.heap.size ≤ wr.heap.size := HS.out.2.2.2.size
              have hn1 : w.heap.size ≠ wr.heap.size := Nat.ne_of_lt HS.out.2.1.lt
              have hn2 : w1.heap.size ≠ wr.heap.size := Nat.ne_of_lt HS.out.2.2.1.lt
              clear b5
              go_wp2_with (refine wpList_store_fl rfl (.tmp 8) (.tmp 88) rfl 3 i true rfl rfl H5.out.1 ?_; intro w6 a6 o6 z6 b6; have c6 : w6.cell? ⟨wr.heap.size, 0, none⟩ = some (.int .i64 3) := FlBox.cell a6 0; have H6 := Lib.hid (And.intro a6 (And.intro (H5.out.2.1.same (o6 _ hn1)) (And.intro (H5.out.2.2.1.same (o6 _ hn2)) (b6 w.heap.size w hg3 H5.out.2.2.2)))); clear a6 o6 z6 b6)
              have hS : Below w.heap.size w w6.drew ∧ FlBox w6.drew wr.heap.size 3 i true := ⟨H6.out.2.2.2.drew, H6.out.1.later (Below.refl _ _).drew (Nat.le_refl _)⟩
              have E1 : HdBox w6.drew w.heap.size .zero := H6.out.2.1.later (Below.refl _ _).drew (Nat.le_refl _)
              have E2 : FlBox w6.drew w1.heap.size 0 0 false := H6.out.2.2.1.later (Below.refl _ _).drew (Nat.le_refl _)
              refine rg_begin (fun w' => Below w.heap.size w w' ∧ FlBox w' wr.heap.size 3 i true) 4 (by kernel_rfl) rfl ?_
              refine rg_take 0 (v := ?rv3) rfl (by kernel_rfl) (by kernel_rfl) (by kernel_rfl) (fun _ _ _ h => h) (by rfl) hS (fun w2 hw2 => ?ry3) ?rr3
              case ry3 => ((try dsimp only at hw2); go_simp <;> with_reducible rfl)
              simp only [Act.put, List.setIfInBounds_toArray, List.set_cons_zero, List.set_cons_succ]
              refine rg_load 1 rfl (by kernel_rfl) (by kernel_rfl) (by kernel_rfl) (wr.heap.size) (0) ((flv 3 i true)) (fun _ _ _ h => h) (by rfl) 36 (.tmp 8) rfl rfl hS (fun w2 h2 => h2.2.range) Tryd.underlying36 rfl (fl_size _ _ _) ?_
              simp only [Act.put, List.setIfInBounds_toArray, List.set_cons_zero, List.set_cons_succ]
              refine rg_step 2 rfl (by kernel_rfl) (by rfl) (fun K hK => ?_)
              refine wp_store_hdF (.tmp 2) (.tmp 105) rfl .zero rfl rfl hd_zero_ok E1 ?_
              intro w7 a7 o7 b7
              replace hS := And.intro (b7 _ _ (Nat.le_refl _) hS.1) (hS.2.same (o7 _ hn1.symm))
              replace E2 := E2.same (o7 _ hne.symm)
              clear E1 o7 b7
              refine hK.out _ _ hS ?_
              clear hK K
              try simp only [Act.put]
              refine rg_step 3 rfl (by kernel_rfl) (by rfl) (fun K hK => ?_)
              refine wp_store_flF (.tmp 3) (.tmp 106) rfl 3 i true rfl rfl E2 ?_
              intro w8 a8 o8 b8
              replace hS := And.intro (b8 _ _ hle hS.1) (hS.2.same (o8 _ hn2.symm))
              replace a7 := a7.same (o8 _ hne)
              clear o8 b8
              refine hK.out _ _ hS ?_
              clear hK K
              try simp only [Act.put]
              refine rg_done (by kernel_rfl) ?_
              have H8 := Lib.hid (And.intro a7 (And.intro a8 hS.1))
              clear a7 a8 hS
              go_wp2_with fail
              exact bodyPost_ret (results_hd_fl rfl _ rfl rfl H8.out.1 H8.out.2.1) rfl (by rw [← HQ.out, HS.out.1, if_pos (show (3 : Int) ≠ 0 by decide)]; exact ⟨rfl, H8.out.2.2⟩)
          · have hj0i : (0 : Int) < (j : Int) := by omega
            have hj0d : decide ((0 : Int) < (j : Int)) = true := decide_eq_true hj0i
            have he := he.trans (walk_order (by omega))
            have HS := Lib.hid (And.intro he (And.intro a1 (And.intro a2 hb)))
            clear he a1 a2 hba hx
            go_wp2_with fail
            refine (KX.out _).mono ?_
            rintro e w' ⟨rfl, rfl⟩
            go_wp2_with (first
              | (refine wpList_alloc_fl rfl rfl ?_; intro w3 a3 b3 z3; have H3 := Lib.hid (And.intro a3 b3); clear a3 b3 z3)
              | (refine wpList_store_fl rfl (.tmp 8) (.tmp 44) rfl 0 0 false rfl rfl H3.out.1 ?_; intro w4 a4 o4 z4 b4; have bb := b4 _ _ (Nat.le_refl _) H3.out.2; have H4 := Lib.hid (And.intro a4 (And.intro (HS.out.2.1.later bb (Nat.le_refl _)) (And.intro (HS.out.2.2.1.later bb (Nat.le_refl _)) (HS.out.2.2.2.trans (bb.mono HS.out.2.2.2.size))))); have hcx := (HB.out.later H4.out.2.2.2 (Nat.le_refl _)).at' HY.out; clear a4 o4 z4 b4 bb))
            refine (help_at 10 i _).mono ?_
            rintro e w5 ⟨rfl, b5⟩
            have H5 := Lib.hid (And.intro (H4.out.1.later b5 (Nat.le_refl _)) (And.intro (H4.out.2.1.later b5 (Nat.le_refl _)) (And.intro (H4.out.2.2.1.later b5 (Nat.le_refl _)) (H4.out.2.2.2.trans (b5.mono H4.out.2.2.2.size)))))
            have hg3 : w.heap.size ≤ wr.heap.size := HS.out.2.2.2.size
            have hn1 : w.heap.size ≠ wr.heap.size := Nat.ne_of_lt HS.out.2.1.lt
            have hn2 : w1.heap.size ≠ wr.heap.size := Nat.ne_of_lt HS.out.2.2.1.lt
            clear b5
            go_wp2_with (refine wpList_store_fl rfl (.tmp 8) (.tmp 69) rfl 10 i true rfl rfl H5.out.1 ?_; intro w6 a6 o6 z6 b6; have c6 : w6.cell? ⟨wr.heap.size, 0, none⟩ = some (.int .i64 10) := FlBox.cell a6 0; have H6 := Lib.hid (And.intro a6 (And.intro (H5.out.2.1.same (o6 _ hn1)) (And.intro (H5.out.2.2.1.same (o6 _ hn2)) (b6 w.heap.size w hg3 H5.out.2.2.2)))); clear a6 o6 z6 b6)
            have hS : Below w.heap.size w w6.drew ∧ FlBox w6.drew wr.heap.size 10 i true := ⟨H6.out.2.2.2.drew, H6.out.1.later (Below.refl _ _).drew (Nat.le_refl _)⟩
            have E1 : HdBox w6.drew w.heap.size .zero := H6.out.2.1.later (Below.refl _ _).drew (Nat.le_refl _)
            have E2 : FlBox w6.drew w1.heap.size 0 0 false := H6.out.2.2.1.later (Below.refl _ _).drew (Nat.le_refl _)
            refine rg_begin (fun w' => Below w.heap.size w w' ∧ FlBox w' wr.heap.size 10 i true) 4 (by kernel_rfl) rfl ?_
            refine rg_take 0 (v := ?rv4) rfl (by kernel_rfl) (by kernel_rfl) (by kernel_rfl) (fun _ _ _ h => h) (by rfl) hS (fun w2 hw2 => ?ry4) ?rr4
            case ry4 => ((try dsimp only at hw2); go_simp <;> with_reducible rfl)
            simp only [Act.put, List.setIfInBounds_toArray, List.set_cons_zero, List.set_cons_succ]
            refine rg_load 1 rfl (by kernel_rfl) (by kernel_rfl) (by kernel_rfl) (wr.heap.size) (0) ((flv 10 i true)) (fun _ _ _ h => h) (by rfl) 36 (.tmp 8) rfl rfl hS (fun w2 h2 => h2.2.range) Tryd.underlying36 rfl (fl_size _ _ _) ?_
            simp only [Act.put, List.setIfInBounds_toArray, List.set_cons_zero, List.set_cons_succ]
            refine rg_step 2 rfl (by kernel_rfl) (by rfl) (fun K hK => ?_)
            refine wp_store_hdF (.tmp 2) (.tmp 105) rfl .zero rfl rfl hd_zero_ok E1 ?_
            intro w7 a7 o7 b7
            replace hS := And.intro (b7 _ _ (Nat.le_refl _) hS.1) (hS.2.same (o7 _ hn1.symm))
            replace E2 := E2.same (o7 _ hne.symm)
            clear E1 o7 b7
            refine hK.out _ _ hS ?_
            clear hK K
            try simp only [Act.put]
            refine rg_step 3 rfl (by kernel_rfl) (by rfl) (fun K hK => ?_)
            refine wp_store_flF (.tmp 3) (.tmp 106) rfl 10 i true rfl rfl E2 ?_
            intro w8 a8 o8 b8
            replace hS := And.intro (b8 _ _ hle hS.1) (hS.2.same (o8 _ hn2.symm))
            replace a7 := a7.same (o8 _ hne)
            clear o8 b8
            refine hK.out _ _ hS ?_
            clear hK K
            try simp only [Act.put]
            refine rg_done (by kernel_rfl) ?_
            have H8 := Lib.hid (And.intro a7 (And.intro a8 hS.1))
            clear a7 a8 hS
            go_wp2_with fail
            exact bodyPost_ret (results_hd_fl rfl _ rfl rfl H8.out.1 H8.out.2.1) rfl (by rw [← HQ.out, HS.out.1, if_pos (show (10 : Int) ≠ 0 by decide)]; exact ⟨rfl, H8.out.2.2⟩)
        · have hk0b : (k == 0) = false := by simpa using hk0
          by_cases hj8 : j = 8
          · subst hj8
            have he := he.trans (walk_deep hx hk0)
            have HS := Lib.hid (And.intro he (And.intro a1 (And.intro a2 hb)))
            clear he a1 a2 hba hx
            go_wp2_with fail
            refine (KX.out _).mono ?_
            rintro e w' ⟨rfl, rfl⟩
            go_wp2_with (first
              | (refine wpList_alloc_fl rfl rfl ?_; intro w3 a3 b3 z3; have H3 := Lib.hid (And.intro a3 b3); clear a3 b3 z3)
              | (refine wpList_store_fl rfl (.tmp 8) (.tmp 44) rfl 0 0 false rfl rfl H3.out.1 ?_; intro w4 a4 o4 z4 b4; have bb := b4 _ _ (Nat.le_refl _) H3.out.2; have H4 := Lib.hid (And.intro a4 (And.intro (HS.out.2.1.later bb (Nat.le_refl _)) (And.intro (HS.out.2.2.1.later bb (Nat.le_refl _)) (HS.out.2.2.2.trans (bb.mono HS.out.2.2.2.size))))); have hcx := (HB.out.later H4.out.2.2.2 (Nat.le_refl _)).at' HY.out; clear a4 o4 z4 b4 bb))
            refine (help_at 11 i _).mono ?_
            rintro e w5 ⟨rfl, b5⟩
            have H5 := Lib.hid (And.intro (H4.out.1.later b5 (Nat.le_refl _)) (And.intro (H4.out.2.1.later b5 (Nat.le_refl _)) (And.intro (H4.out.2.2.1.later b5 (Nat.le_refl _)) (H4.out.2.2.2.trans (b5.mono H4.out.2.2.2.size)))))
            have hg3 : w.heap.size ≤ wr.heap.size := HS.out.2.2.2.size
            have hn1 : w.heap.size ≠ wr.heap.size := Nat.ne_of_lt HS.out.2.1.lt
            have hn2 : w1.heap.size ≠ wr.heap.size := Nat.ne_of_lt HS.out.2.2.1.lt
            clear b5
            go_wp2_with (refine wpList_store_fl rfl (.tmp 8) (.tmp 74) rfl 11 i true rfl rfl H5.out.1 ?_; intro w6 a6 o6 z6 b6; have c6 : w6.cell? ⟨wr.heap.size, 0, none⟩ = some (.int .i64 11) := FlBox.cell a6 0; have H6 := Lib.hid (And.intro a6 (And.intro (H5.out.2.1.same (o6 _ hn1)) (And.intro (H5.out.2.2.1.same (o6 _ hn2)) (b6 w.heap.size w hg3 H5.out.2.2.2)))); clear a6 o6 z6 b6)
            have hS : Below w.heap.size w w6.drew ∧ FlBox w6.drew wr.heap.size 11 i true := ⟨H6.out.2.2.2.drew, H6.out.1.later (Below.refl _ _).drew (Nat.le_refl _)⟩
            have E1 : HdBox w6.drew w.heap.size .zero := H6.out.2.1.later (Below.refl _ _).drew (Nat.le_refl _)
            have E2 : FlBox w6.drew w1.heap.size 0 0 false := H6.out.2.2.1.later (Below.refl _ _).drew (Nat.le_refl _)
            refine rg_begin (fun w' => Below w.heap.size w w' ∧ FlBox w' wr.heap.size 11 i true) 4 (by kernel_rfl) rfl ?_
            refine rg_take 0 (v := ?rv5) rfl (by kernel_rfl) (by kernel_rfl) (by kernel_rfl) (fun _ _ _ h => h) (by rfl) hS (fun w2 hw2 => ?ry5) ?rr5
            case ry5 => ((try dsimp only at hw2); go_simp <;> with_reducible rfl)
            simp only [Act.put, List.setIfInBounds_toArray, List.set_cons_zero, List.set_cons_succ]
            refine rg_load 1 rfl (by kernel_rfl) (by kernel_rfl) (by kernel_rfl) (wr.heap.size) (0) ((flv 11 i true)) (fun _ _ _ h => h) (by rfl) 36 (.tmp 8) rfl rfl hS (fun w2 h2 => h2.2.range) Tryd.underlying36 rfl (fl_size _ _ _) ?_
            simp only [Act.put, List.setIfInBounds_toArray, List.set_cons_zero, List.set_cons_succ]
            refine rg_step 2 rfl (by kernel_rfl) (by rfl) (fun K hK => ?_)
            refine wp_store_hdF (.tmp 2) (.tmp 105) rfl .zero rfl rfl hd_zero_ok E1 ?_
            intro w7 a7 o7 b7
            replace hS := And.intro (b7 _ _ (Nat.le_refl _) hS.1) (hS.2.same (o7 _ hn1.symm))
            replace E2 := E2.same (o7 _ hne.symm)
            clear E1 o7 b7
            refine hK.out _ _ hS ?_
            clear hK K
            try simp only [Act.put]
            refine rg_step 3 rfl (by kernel_rfl) (by rfl) (fun K hK => ?_)
            refine wp_store_flF (.tmp 3) (.tmp 106) rfl 11 i true rfl rfl E2 ?_
            intro w8 a8 o8 b8
            replace hS := And.intro (b8 _ _ hle hS.1) (hS.2.same (o8 _ hn2.symm))
            replace a7 := a7.same (o8 _ hne)
            clear o8 b8
            refine hK.out _ _ hS ?_
            clear hK K
            try simp only [Act.put]
            refine rg_done (by kernel_rfl) ?_
            have H8 := Lib.hid (And.intro a7 (And.intro a8 hS.1))
            clear a7 a8 hS
            go_wp2_with fail
            exact bodyPost_ret (results_hd_fl rfl _ rfl rfl H8.out.1 H8.out.2.1) rfl (by rw [← HQ.out, HS.out.1, if_pos (show (11 : Int) ≠ 0 by decide)]; exact ⟨rfl, H8.out.2.2⟩)
          · rw [show 8 - j = (7 - j) + 1 by omega] at he
            have hj8i : ¬ (8 : Int) ≤ (j : Int) := by omega
            by_cases hfit : i + (8 + 8 * y.toNat) ≤ 40 + m
            · have hst := stepv_ok (l := l) (k := k) h8 (by rw [hsz_ne l hk44, hyb]; omega) (fun h => hk44 h.1)
              have hfd : decide ((40 : Int) + (m : Int) < (i : Int) + (8 + 8 * (y.toNat : Int))) = false := decide_eq_false (by omega)
              have he := he.trans ((walk_step hx (fun h => absurd h hk0) (by rw [hst])).trans (by rw [hsz_ne l hk44, hyb]))
              rw [hzb] at he
              have HS := Lib.hid (And.intro he (And.intro a1 (And.intro a2 hb)))
              have HI := Lib.hid hzl
              clear he a1 a2 hba hx
              go_wp2_with fail
              refine (KX.out _).mono ?_
              rintro e w' ⟨rfl, rfl⟩
              go_wp2_with (first
                | (refine wpList_alloc_fl rfl rfl ?_; intro w3 a3 b3 z3; have H3 := Lib.hid (And.intro a3 b3); clear a3 b3 z3)
                | (refine wpList_store_fl rfl (.tmp 8) (.tmp 44) rfl 0 0 false rfl rfl H3.out.1 ?_; intro w4 a4 o4 z4 b4; have bb := b4 _ _ (Nat.le_refl _) H3.out.2; have H4 := Lib.hid (And.intro a4 (And.intro (HS.out.2.1.later bb (Nat.le_refl _)) (And.intro (HS.out.2.2.1.later bb (Nat.le_refl _)) (HS.out.2.2.2.trans (bb.mono HS.out.2.2.2.size))))); have c4 : w4.cell? ⟨wr.heap.size, 0, none⟩ = some (.int .i64 0) := FlBox.cell a4 0; have hcz := (HB.out.later H4.out.2.2.2 (Nat.le_refl _)).at' HZ.out; have hcx := (HB.out.later H4.out.2.2.2 (Nat.le_refl _)).at' HY.out; clear a4 o4 z4 b4 bb))
              exact ⟨⟨j + 1, (z.toNat : Int), i + (8 + 8 * y.toNat), by omega, rfl, by go_num, by go_num, by omega, by omega, by rw [show 8 - (j + 1) = 7 - j by omega]; exact HS.out.1, H4.out.2.1, H4.out.2.2.1, H4.out.2.2.2⟩, by simp [intOf] <;> omega⟩
            · have hst := stepv_cut (l := l) (k := k) (to := 40 + m) (i := i) (by rw [hsz_ne l hk44, hyb]; omega)
              have hfd : decide ((40 : Int) + (m : Int) < (i : Int) + (8 + 8 * (y.toNat : Int))) = true := decide_eq_true (by omega)
              have he := he.trans ((walk_bad hx (fun h => absurd h hk0) (by rw [hst]; show (3 : Int) ≠ 0; decide)).trans (by rw [hst]))
              have HS := Lib.hid (And.intro he (And.intro a1 (And.intro a2 hb)))
              clear he a1 a2 hba hx
              go_wp2_with fail
              refine (KX.out _).mono ?_
              rintro e w' ⟨rfl, rfl⟩
              go_wp2_with (first
                | (refine wpList_alloc_fl rfl rfl ?_; intro w3 a3 b3 z3; have H3 := Lib.hid (And.intro a3 b3); clear a3 b3 z3)
                | (refine wpList_store_fl rfl (.tmp 8) (.tmp 44) rfl 0 0 false rfl rfl H3.out.1 ?_; intro w4 a4 o4 z4 b4; have bb := b4 _ _ (Nat.le_refl _) H3.out.2; have H4 := Lib.hid (And.intro a4 (And.intro (HS.out.2.1.later bb (Nat.le_refl _)) (And.intro (HS.out.2.2.1.later bb (Nat.le_refl _)) (HS.out.2.2.2.trans (bb.mono HS.out.2.2.2.size))))); have hcx := (HB.out.later H4.out.2.2.2 (Nat.le_refl _)).at' HY.out; clear a4 o4 z4 b4 bb))
              refine (help_at 3 i _).mono ?_
              rintro e w5 ⟨rfl, b5⟩
              have H5 := Lib.hid (And.intro (H4.out.1.later b5 (Nat.le_refl _)) (And.intro (H4.out.2.1.later b5 (Nat.le_refl _)) (And.intro (H4.out.2.2.1.later b5 (Nat.le_refl _)) (H4.out.2.2.2.trans (b5.mono H4.out.2.2.2.size)))))
              have hg3 : w.heap.size ≤ wr.heap.size := HS.out.2.2.2.size
              have hn1 : w.heap.size ≠ wr.heap.size := Nat.ne_of_lt HS.out.2.1.lt
              have hn2 : w1.heap.size ≠ wr.heap.size := Nat.ne_of_lt HS.out.2.2.1.lt
              clear b5
              go_wp2_with (refine wpList_store_fl rfl (.tmp 8) (.tmp 88) rfl 3 i true rfl rfl H5.out.1 ?_; intro w6 a6 o6 z6 b6; have c6 : w6.cell? ⟨wr.heap.size, 0, none⟩ = some (.int .i64 3) := FlBox.cell a6 0; have H6 := Lib.hid (And.intro a6 (And.intro (H5.out.2.1.same (o6 _ hn1)) (And.intro (H5.out.2.2.1.same (o6 _ hn2)) (b6 w.heap.size w hg3 H5.out.2.2.2)))); clear a6 o6 z6 b6)
              have hS : Below w.heap.size w w6.drew ∧ FlBox w6.drew wr.heap.size 3 i true := ⟨H6.out.2.2.2.drew, H6.out.1.later (Below.refl _ _).drew (Nat.le_refl _)⟩
              have E1 : HdBox w6.drew w.heap.size .zero := H6.out.2.1.later (Below.refl _ _).drew (Nat.le_refl _)
              have E2 : FlBox w6.drew w1.heap.size 0 0 false := H6.out.2.2.1.later (Below.refl _ _).drew (Nat.le_refl _)
              refine rg_begin (fun w' => Below w.heap.size w w' ∧ FlBox w' wr.heap.size 3 i true) 4 (by kernel_rfl) rfl ?_
              refine rg_take 0 (v := ?rv6) rfl (by kernel_rfl) (by kernel_rfl) (by kernel_rfl) (fun _ _ _ h => h) (by rfl) hS (fun w2 hw2 => ?ry6) ?rr6
              case ry6 => ((try dsimp only at hw2); go_simp <;> with_reducible rfl)
              simp only [Act.put, List.setIfInBounds_toArray, List.set_cons_zero, List.set_cons_succ]
              refine rg_load 1 rfl (by kernel_rfl) (by kernel_rfl) (by kernel_rfl) (wr.heap.size) (0) ((flv 3 i true)) (fun _ _ _ h => h) (by rfl) 36 (.tmp 8) rfl rfl hS (fun w2 h2 => h2.2.range) Tryd.underlying36 rfl (fl_size _ _ _) ?_
              simp only [Act.put, List.setIfInBounds_toArray, List.set_cons_zero, List.set_cons_succ]
              refine rg_step 2 rfl (by kernel_rfl) (by rfl) (fun K hK => ?_)
              refine wp_store_hdF (.tmp 2) (.tmp 105) rfl .zero rfl rfl hd_zero_ok E1 ?_
              intro w7 a7 o7 b7
              replace hS := And.intro (b7 _ _ (Nat.le_refl _) hS.1) (hS.2.same (o7 _ hn1.symm))
              replace E2 := E2.same (o7 _ hne.symm)
              clear E1 o7 b7
              refine hK.out _ _ hS ?_
              clear hK K
              try simp only [Act.put]
              refine rg_step 3 rfl (by kernel_rfl) (by rfl) (fun K hK => ?_)
              refine wp_store_flF (.tmp 3) (.tmp 106) rfl 3 i true rfl rfl E2 ?_
              intro w8 a8 o8 b8
              replace hS := And.intro (b8 _ _ hle hS.1) (hS.2.same (o8 _ hn2.symm))
              replace a7 := a7.same (o8 _ hne)
              clear o8 b8
              refine hK.out _ _ hS ?_
              clear hK K
              try simp only [Act.put]
              refine rg_done (by kernel_rfl) ?_
              have H8 := Lib.hid (And.intro a7 (And.intro a8 hS.1))
              clear a7 a8 hS
              go_wp2_with fail
              exact bodyPost_ret (results_hd_fl rfl _ rfl rfl H8.out.1 H8.out.2.1) rfl (by rw [← HQ.out, HS.out.1, if_pos (show (3 : Int) ≠ 0 by decide)]; exact ⟨rfl, H8.out.2.2⟩)
    · have hst := fun k => stepv_short (l := l) (to := 40 + m) (i := i) (k := k) (by omega)
      have hq8 : ¬ (i : Int) + 8 ≤ 40 + (m : Int) := by omega
      have hq8d : decide ((i : Int) + 8 ≤ 40 + (m : Int)) = false := decide_eq_false hq8
      have hq8e : decide ((40 : Int) + (m : Int) < (i : Int) + 8) = true := decide_eq_true (by omega)
      by_cases hk0 : k = 0
      · subst hk0
        by_cases hj0 : j = 0
        · subst hj0
          have he := he.trans ((walk_bad (t := 7) hx (fun _ => rfl) (by rw [hst]; show (3 : Int) ≠ 0; decide)).trans (by rw [hst]))
          have HS := Lib.hid (And.intro he (And.intro a1 (And.intro a2 hb)))
          clear he a1 a2 hba hx
          go_wp2_with fail
          refine (KX.out _).mono ?_
          rintro e w' ⟨rfl, rfl⟩
          go_wp2_with (first
            | (refine wpList_alloc_fl rfl rfl ?_; intro w3 a3 b3 z3; have H3 := Lib.hid (And.intro a3 b3); clear a3 b3 z3)
            | (refine wpList_store_fl rfl (.tmp 8) (.tmp 44) rfl 0 0 false rfl rfl H3.out.1 ?_; intro w4 a4 o4 z4 b4; have bb := b4 _ _ (Nat.le_refl _) H3.out.2; have H4 := Lib.hid (And.intro a4 (And.intro (HS.out.2.1.later bb (Nat.le_refl _)) (And.intro (HS.out.2.2.1.later bb (Nat.le_refl _)) (HS.out.2.2.2.trans (bb.mono HS.out.2.2.2.size))))); clear a4 o4 z4 b4 bb))
          refine (help_at 3 i _).mono ?_
          rintro e w5 ⟨rfl, b5⟩
          have H5 := Lib.hid (And.intro (H4.out.1.later b5 (Nat.le_refl _)) (And.intro (H4.out.2.1.later b5 (Nat.le_refl _)) (And.intro (H4.out.2.2.1.later b5 (Nat.le_refl _)) (H4.out.2.2.2.trans (b5.mono H4.out.2.2.2.size)))))
          have hg3 : w.heap.size ≤ wr.heap.size := HS.out.2.2.2.size
          have hn1 : w.heap.size ≠ wr.heap.size := Nat.ne_of_lt HS.out.2.1.lt
          have hn2 : w1.heap.size ≠ wr.heap.size := Nat.ne_of_lt HS.out.2.2.1.lt
          clear b5
          go_wp2_with (refine wpList_store_fl rfl (.tmp 8) (.tmp 88) rfl 3 i true rfl rfl H5.out.1 ?_; intro w6 a6 o6 z6 b6; have c6 : w6.cell? ⟨wr.heap.size, 0, none⟩ = some (.int .i64 3) := FlBox.cell a6 0; have H6 := Lib.hid (And.intro a6 (And.intro (H5.out.2.1.same (o6 _ hn1)) (And.intro (H5.out.2.2.1.same (o6 _ hn2)) (b6 w.heap.size w hg3 H5.out.2.2.2)))); clear a6 o6 z6 b6)
          have hS : Below w.heap.size w w6.drew ∧ FlBox w6.drew wr.heap.size 3 i true := ⟨H6.out.2.2.2.drew, H6.out.1.later (Below.refl _ _).drew (Nat.le_refl _)⟩
          have E1 : HdBox w6.drew w.heap.size .zero := H6.out.2.1.later (Below.refl _ _).drew (Nat.le_refl _)
          have E2 : FlBox w6.drew w1.heap.size 0 0 false := H6.out.2.2.1.later (Below.refl _ _).drew (Nat.le_refl _)
          refine rg_begin (fun w' => Below w.heap.size w w' ∧ FlBox w' wr.heap.size 3 i true) 4 (by kernel_rfl) rfl ?_
          refine rg_take 0 (v := ?rv7) rfl (by kernel_rfl) (by kernel_rfl) (by kernel_rfl) (fun _ _ _ h => h) (by rfl) hS (fun w2 hw2 => ?ry7) ?rr7
          case ry7 => ((try dsimp only at hw2); go_simp <;> with_reducible rfl)
          simp only [Act.put, List.setIfInBounds_toArray, List.set_cons_zero, List.set_cons_succ]
          refine rg_load 1 rfl (by kernel_rfl) (by kernel_rfl) (by kernel_rfl) (wr.heap.size) (0) ((flv 3 i true)) (fun _ _ _ h => h) (by rfl) 36 (.tmp 8) rfl rfl hS (fun w2 h2 => h2.2.range) Tryd.underlying36 rfl (fl_size _ _ _) ?_
          simp only [Act.put, List.setIfInBounds_toArray, List.set_cons_zero, List.set_cons_succ]
          refine rg_step 2 rfl (by kernel_rfl) (by rfl) (fun K hK => ?_)
          refine wp_store_hdF (.tmp 2) (.tmp 105) rfl .zero rfl rfl hd_zero_ok E1 ?_
          intro w7 a7 o7 b7
          replace hS := And.intro (b7 _ _ (Nat.le_refl _) hS.1) (hS.2.same (o7 _ hn1.symm))
          replace E2 := E2.same (o7 _ hne.symm)
          clear E1 o7 b7
          refine hK.out _ _ hS ?_
          clear hK K
          try simp only [Act.put]
          refine rg_step 3 rfl (by kernel_rfl) (by rfl) (fun K hK => ?_)
          refine wp_store_flF (.tmp 3) (.tmp 106) rfl 3 i true rfl rfl E2 ?_
          intro w8 a8 o8 b8
          replace hS := And.intro (b8 _ _ hle hS.1) (hS.2.same (o8 _ hn2.symm))
          replace a7 := a7.same (o8 _ hne)
          clear o8 b8
          refine hK.out _ _ hS ?_
          clear hK K
          try simp only [Act.put]
          refine rg_done (by kernel_rfl) ?_
          have H8 := Lib.hid (And.intro a7 (And.intro a8 hS.1))
          clear a7 a8 hS
          go_wp2_with fail
          exact bodyPost_ret (results_hd_fl rfl _ rfl rfl H8.out.1 H8.out.2.1) rfl (by rw [← HQ.out, HS.out.1, if_pos (show (3 : Int) ≠ 0 by decide)]; exact ⟨rfl, H8.out.2.2⟩)
        · have hj0i : (0 : Int) < (j : Int) := by omega
          have hj0d : decide ((0 : Int) < (j : Int)) = true := decide_eq_true hj0i
          have he := he.trans (walk_order (by omega))
          have HS := Lib.hid (And.intro he (And.intro a1 (And.intro a2 hb)))
          clear he a1 a2 hba hx
          go_wp2_with fail
          refine (KX.out _).mono ?_
          rintro e w' ⟨rfl, rfl⟩
          go_wp2_with (first
            | (refine wpList_alloc_fl rfl rfl ?_; intro w3 a3 b3 z3; have H3 := Lib.hid (And.intro a3 b3); clear a3 b3 z3)
            | (refine wpList_store_fl rfl (.tmp 8) (.tmp 44) rfl 0 0 false rfl rfl H3.out.1 ?_; intro w4 a4 o4 z4 b4; have bb := b4 _ _ (Nat.le_refl _) H3.out.2; have H4 := Lib.hid (And.intro a4 (And.intro (HS.out.2.1.later bb (Nat.le_refl _)) (And.intro (HS.out.2.2.1.later bb (Nat.le_refl _)) (HS.out.2.2.2.trans (bb.mono HS.out.2.2.2.size))))); clear a4 o4 z4 b4 bb))
          refine (help_at 10 i _).mono ?_
          rintro e w5 ⟨rfl, b5⟩
          have H5 := Lib.hid (And.intro (H4.out.1.later b5 (Nat.le_refl _)) (And.intro (H4.out.2.1.later b5 (Nat.le_refl _)) (And.intro (H4.out.2.2.1.later b5 (Nat.le_refl _)) (H4.out.2.2.2.trans (b5.mono H4.out.2.2.2.size)))))
          have hg3 : w.heap.size ≤ wr.heap.size := HS.out.2.2.2.size
          have hn1 : w.heap.size ≠ wr.heap.size := Nat.ne_of_lt HS.out.2.1.lt
          have hn2 : w1.heap.size ≠ wr.heap.size := Nat.ne_of_lt HS.out.2.2.1.lt
          clear b5
          go_wp2_with (refine wpList_store_fl rfl (.tmp 8) (.tmp 69) rfl 10 i true rfl rfl H5.out.1 ?_; intro w6 a6 o6 z6 b6; have c6 : w6.cell? ⟨wr.heap.size, 0, none⟩ = some (.int .i64 10) := FlBox.cell a6 0; have H6 := Lib.hid (And.intro a6 (And.intro (H5.out.2.1.same (o6 _ hn1)) (And.intro (H5.out.2.2.1.same (o6 _ hn2)) (b6 w.heap.size w hg3 H5.out.2.2.2)))); clear a6 o6 z6 b6)
          have hS : Below w.heap.size w w6.drew ∧ FlBox w6.drew wr.heap.size 10 i true := ⟨H6.out.2.2.2.drew, H6.out.1.later (Below.refl _ _).drew (Nat.le_refl _)⟩
          have E1 : HdBox w6.drew w.heap.size .zero := H6.out.2.1.later (Below.refl _ _).drew (Nat.le_refl _)
          have E2 : FlBox w6.drew w1.heap.size 0 0 false := H6.out.2.2.1.later (Below.refl _ _).drew (Nat.le_refl _)
          refine rg_begin (fun w' => Below w.heap.size w w' ∧ FlBox w' wr.heap.size 10 i true) 4 (by kernel_rfl) rfl ?_
          refine rg_take 0 (v := ?rv8) rfl (by kernel_rfl) (by kernel_rfl) (by kernel_rfl) (fun _ _ _ h => h) (by rfl) hS (fun w2 hw2 => ?ry8) ?rr8
          case ry8 => ((try dsimp only at hw2); go_simp <;> with_reducible rfl)
          simp only [Act.put, List.setIfInBounds_toArray, List.set_cons_zero, List.set_cons_succ]
          refine rg_load 1 rfl (by kernel_rfl) (by kernel_rfl) (by kernel_rfl) (wr.heap.size) (0) ((flv 10 i true)) (fun _ _ _ h => h) (by rfl) 36 (.tmp 8) rfl rfl hS (fun w2 h2 => h2.2.range) Tryd.underlying36 rfl (fl_size _ _ _) ?_
          simp only [Act.put, List.setIfInBounds_toArray, List.set_cons_zero, List.set_cons_succ]
          refine rg_step 2 rfl (by kernel_rfl) (by rfl) (fun K hK => ?_)
          refine wp_store_hdF (.tmp 2) (.tmp 105) rfl .zero rfl rfl hd_zero_ok E1 ?_
          intro w7 a7 o7 b7
          replace hS := And.intro (b7 _ _ (Nat.le_refl _) hS.1) (hS.2.same (o7 _ hn1.symm))
          replace E2 := E2.same (o7 _ hne.symm)
          clear E1 o7 b7
          refine hK.out _ _ hS ?_
          clear hK K
          try simp only [Act.put]
          refine rg_step 3 rfl (by kernel_rfl) (by rfl) (fun K hK => ?_)
          refine wp_store_flF (.tmp 3) (.tmp 106) rfl 10 i true rfl rfl E2 ?_
          intro w8 a8 o8 b8
          replace hS := And.intro (b8 _ _ hle hS.1) (hS.2.same (o8 _ hn2.symm))
          replace a7 := a7.same (o8 _ hne)
          clear o8 b8
          refine hK.out _ _ hS ?_
          clear hK K
          try simp only [Act.put]
          refine rg_done (by kernel_rfl) ?_
          have H8 := Lib.hid (And.intro a7 (And.intro a8 hS.1))
          clear a7 a8 hS
          go_wp2_with fail
          exact bodyPost_ret (results_hd_fl rfl _ rfl rfl H8.out.1 H8.out.2.1) rfl (by rw [← HQ.out, HS.out.1, if_pos (show (10 : Int) ≠ 0 by decide)]; exact ⟨rfl, H8.out.2.2⟩)
      · have hk0b : (k == 0) = false := by simpa using hk0
        by_cases hj8 : j = 8
        · subst hj8
          have he := he.trans (walk_deep hx hk0)
          have HS := Lib.hid (And.intro he (And.intro a1 (And.intro a2 hb)))
          clear he a1 a2 hba hx
          go_wp2_with fail
          refine (KX.out _).mono ?_
          rintro e w' ⟨rfl, rfl⟩
          go_wp2_with (first
            | (refine wpList_alloc_fl rfl rfl ?_; intro w3 a3 b3 z3; have H3 := Lib.hid (And.intro a3 b3); clear a3 b3 z3)
            | (refine wpList_store_fl rfl (.tmp 8) (.tmp 44) rfl 0 0 false rfl rfl H3.out.1 ?_; intro w4 a4 o4 z4 b4; have bb := b4 _ _ (Nat.le_refl _) H3.out.2; have H4 := Lib.hid (And.intro a4 (And.intro (HS.out.2.1.later bb (Nat.le_refl _)) (And.intro (HS.out.2.2.1.later bb (Nat.le_refl _)) (HS.out.2.2.2.trans (bb.mono HS.out.2.2.2.size))))); clear a4 o4 z4 b4 bb))
          refine (help_at 11 i _).mono ?_
          rintro e w5 ⟨rfl, b5⟩
          have H5 := Lib.hid (And.intro (H4.out.1.later b5 (Nat.le_refl _)) (And.intro (H4.out.2.1.later b5 (Nat.le_refl _)) (And.intro (H4.out.2.2.1.later b5 (Nat.le_refl _)) (H4.out.2.2.2.trans (b5.mono H4.out.2.2.2.size)))))
          have hg3 : w.heap.size ≤ wr.heap.size := HS.out.2.2.2.size
          have hn1 : w.heap.size ≠ wr.heap.size := Nat.ne_of_lt HS.out.2.1.lt
          have hn2 : w1.heap.size ≠ wr.heap.size := Nat.ne_of_lt HS.out.2.2.1.lt
          clear b5
          go_wp2_with (refine wpList_store_fl rfl (.tmp 8) (.tmp 74) rfl 11 i true rfl rfl H5.out.1 ?_; intro w6 a6 o6 z6 b6; have c6 : w6.cell? ⟨wr.heap.size, 0, none⟩ = some (.int .i64 11) := FlBox.cell a6 0; have H6 := Lib.hid (And.intro a6 (And.intro (H5.out.2.1.same (o6 _ hn1)) (And.intro (H5.out.2.2.1.same (o6 _ hn2)) (b6 w.heap.size w hg3 H5.out.2.2.2)))); clear a6 o6 z6 b6)
          have hS : Below w.heap.size w w6.drew ∧ FlBox w6.drew wr.heap.size 11 i true := ⟨H6.out.2.2.2.drew, H6.out.1.later (Below.refl _ _).drew (Nat.le_refl _)⟩
          have E1 : HdBox w6.drew w.heap.size .zero := H6.out.2.1.later (Below.refl _ _).drew (Nat.le_refl _)
          have E2 : FlBox w6.drew w1.heap.size 0 0 false := H6.out.2.2.1.later (Below.refl _ _).drew (Nat.le_refl _)
          refine rg_begin (fun w' => Below w.heap.size w w' ∧ FlBox w' wr.heap.size 11 i true) 4 (by kernel_rfl) rfl ?_
          refine rg_take 0 (v := ?rv9) rfl (by kernel_rfl) (by kernel_rfl) (by kernel_rfl) (fun _ _ _ h => h) (by rfl) hS (fun w2 hw2 => ?ry9) ?rr9
          case ry9 => ((try dsimp only at hw2); go_simp <;> with_reducible rfl)
          simp only [Act.put, List.setIfInBounds_toArray, List.set_cons_zero, List.set_cons_succ]
          refine rg_load 1 rfl (by kernel_rfl) (by kernel_rfl) (by kernel_rfl) (wr.heap.size) (0) ((flv 11 i true)) (fun _ _ _ h => h) (by rfl) 36 (.tmp 8) rfl rfl hS (fun w2 h2 => h2.2.range) Tryd.underlying36 rfl (fl_size _ _ _) ?_
          simp only [Act.put, List.setIfInBounds_toArray, List.set_cons_zero, List.set_cons_succ]
          refine rg_step 2 rfl (by kernel_rfl) (by rfl) (fun K hK => ?_)
          refine wp_store_hdF (.tmp 2) (.tmp 105) rfl .zero rfl rfl hd_zero_ok E1 ?_
          intro w7 a7 o7 b7
          replace hS := And.intro (b7 _ _ (Nat.le_refl _) hS.1) (hS.2.same (o7 _ hn1.symm))
          replace E2 := E2.same (o7 _ hne.symm)
          clear E1 o7 b7
          refine hK.out _ _ hS ?_
          clear hK K
          try simp only [Act.put]
          refine rg_step 3 rfl (by kernel_rfl) (by rfl) (fun K hK => ?_)
          refine wp_store_flF (.tmp 3) (.tmp 106) rfl 11 i true rfl rfl E2 ?_
          intro w8 a8 o8 b8
          replace hS := And.intro (b8 _ _ hle hS.1) (hS.2.same (o8 _ hn2.symm))
          replace a7 := a7.same (o8 _ hne)
          clear o8 b8
          refine hK.out _ _ hS ?_
          clear hK K
          try simp only [Act.put]
          refine rg_done (by kernel_rfl) ?_
          have H8 := Lib.hid (And.intro a7 (And.intro a8 hS.1))
          clear a7 a8 hS
          go_wp2_with fail
          exact bodyPost_ret (results_hd_fl rfl _ rfl rfl H8.out.1 H8.out.2.1) rfl (by rw [← HQ.out, HS.out.1, if_pos (show (11 : Int) ≠ 0 by decide)]; exact ⟨rfl, H8.out.2.2⟩)
        · rw [show 8 - j = (7 - j) + 1 by omega] at he
          have hj8i : ¬ (8 : Int) ≤ (j : Int) := by omega
          have he := he.trans ((walk_bad hx (fun h => absurd h hk0) (by rw [hst]; show (3 : Int) ≠ 0; decide)).trans (by rw [hst]))
          have HS := Lib.hid (And.intro he (And.intro a1 (And.intro a2 hb)))
          clear he a1 a2 hba hx
          go_wp2_with fail
          refine (KX.out _).mono ?_
          rintro e w' ⟨rfl, rfl⟩
          go_wp2_with (first
            | (refine wpList_alloc_fl rfl rfl ?_; intro w3 a3 b3 z3; have H3 := Lib.hid (And.intro a3 b3); clear a3 b3 z3)
            | (refine wpList_store_fl rfl (.tmp 8) (.tmp 44) rfl 0 0 false rfl rfl H3.out.1 ?_; intro w4 a4 o4 z4 b4; have bb := b4 _ _ (Nat.le_refl _) H3.out.2; have H4 := Lib.hid (And.intro a4 (And.intro (HS.out.2.1.later bb (Nat.le_refl _)) (And.intro (HS.out.2.2.1.later bb (Nat.le_refl _)) (HS.out.2.2.2.trans (bb.mono HS.out.2.2.2.size))))); clear a4 o4 z4 b4 bb))
          refine (help_at 3 i _).mono ?_
          rintro e w5 ⟨rfl, b5⟩
          have H5 := Lib.hid (And.intro (H4.out.1.later b5 (Nat.le_refl _)) (And.intro (H4.out.2.1.later b5 (Nat.le_refl _)) (And.intro (H4.out.2.2.1.later b5 (Nat.le_refl _)) (H4.out.2.2.2.trans (b5.mono H4.out.2.2.2.size)))))
          have hg3 : w.heap.size ≤ wr.heap.size := HS.out.2.2.2.size
          have hn1 : w.heap.size ≠ wr.heap.size := Nat.ne_of_lt HS.out.2.1.lt
          have hn2 : w1.heap.size ≠ wr.heap.size := Nat.ne_of_lt HS.out.2.2.1.lt
          clear b5
          go_wp2_with (refine wpList_store_fl rfl (.tmp 8) (.tmp 88) rfl 3 i true rfl rfl H5.out.1 ?_; intro w6 a6 o6 z6 b6; have c6 : w6.cell? ⟨wr.heap.size, 0, none⟩ = some (.int .i64 3) := FlBox.cell a6 0; have H6 := Lib.hid (And.intro a6 (And.intro (H5.out.2.1.same (o6 _ hn1)) (And.intro (H5.out.2.2.1.same (o6 _ hn2)) (b6 w.heap.size w hg3 H5.out.2.2.2)))); clear a6 o6 z6 b6)
          have hS : Below w.heap.size w w6.drew ∧ FlBox w6.drew wr.heap.size 3 i true := ⟨H6.out.2.2.2.drew, H6.out.1.later (Below.refl _ _).drew (Nat.le_refl _)⟩
          have E1 : HdBox w6.drew w.heap.size .zero := H6.out.2.1.later (Below.refl _ _).drew (Nat.le_refl _)
          have E2 : FlBox w6.drew w1.heap.size 0 0 false := H6.out.2.2.1.later (Below.refl _ _).drew (Nat.le_refl _)
          refine rg_begin (fun w' => Below w.heap.size w w' ∧ FlBox w' wr.heap.size 3 i true) 4 (by kernel_rfl) rfl ?_
          refine rg_take 0 (v := ?rv10) rfl (by kernel_rfl) (by kernel_rfl) (by kernel_rfl) (fun _ _ _ h => h) (by rfl) hS (fun w2 hw2 => ?ry10) ?rr10
          case ry10 => ((try dsimp only at hw2); go_simp <;> with_reducible rfl)
          simp only [Act.put, List.setIfInBounds_toArray, List.set_cons_zero, List.set_cons_succ]
          refine rg_load 1 rfl (by kernel_rfl) (by kernel_rfl) (by kernel_rfl) (wr.heap.size) (0) ((flv 3 i true)) (fun _ _ _ h => h) (by rfl) 36 (.tmp 8) rfl rfl hS (fun w2 h2 => h2.2.range) Tryd.underlying36 rfl (fl_size _ _ _) ?_
          simp only [Act.put, List.setIfInBounds_toArray, List.set_cons_zero, List.set_cons_succ]
          refine rg_step 2 rfl (by kernel_rfl) (by rfl) (fun K hK => ?_)
          refine wp_store_hdF (.tmp 2) (.tmp 105) rfl .zero rfl rfl hd_zero_ok E1 ?_
          intro w7 a7 o7 b7
          replace hS := And.intro (b7 _ _ (Nat.le_refl _) hS.1) (hS.2.same (o7 _ hn1.symm))
          replace E2 := E2.same (o7 _ hne.symm)
          clear E1 o7 b7
          refine hK.out _ _ hS ?_
          clear hK K
          try simp only [Act.put]
          refine rg_step 3 rfl (by kernel_rfl) (by rfl) (fun K hK => ?_)
          refine wp_store_flF (.tmp 3) (.tmp 106) rfl 3 i true rfl rfl E2 ?_
          intro w8 a8 o8 b8
          replace hS := And.intro (b8 _ _ hle hS.1) (hS.2.same (o8 _ hn2.symm))
          replace a7 := a7.same (o8 _ hne)
          clear o8 b8
          refine hK.out _ _ hS ?_
          clear hK K
          try simp only [Act.put]
          refine rg_done (by kernel_rfl) ?_
          have H8 := Lib.hid (And.intro a7 (And.intro a8 hS.1))
          clear a7 a8 hS
          go_wp2_with fail
          exact bodyPost_ret (results_hd_fl rfl _ rfl rfl H8.out.1 H8.out.2.1) rfl (by rw [← HQ.out, HS.out.1, if_pos (show (3 : Int) ≠ 0 by decide)]; exact ⟨rfl, H8.out.2.2⟩)
end Go.Proofs.YtceigepclemdmaaDoor
