/-
  stockaderef01.Ether: the document's own answers. Conditions: those of the slice.
-/
import Derived.Test.YtheiljdilbobdaaDoorEther
import Derived.Test.YtheiljdilbobdaaDoorBuild
import Derived.Test.YtheiljdilbobdaaDoorRef
namespace Go.Proofs.YtheiljdilbobdaaDoor
open Go.RowKit

/-- A box of an error, and one more that is made beside it: both, in a world that is a letter. -/
theorem boxed2 {w1 : World} {g : Nat} {c a : Int} {b : Bool} (h : Box w1 g ⟨c, a, b⟩) (a' b' c' : Value) (U : TypeId) : ∃ W, w1.alloc (.cells #[a', b', c'] U) = W ∧
    W.cell? ⟨g, 0, none⟩ = some (.int .i64 c) ∧ W.cell? ⟨g, 1, none⟩ = some (.int .i64 a) ∧ W.cell? ⟨g, 2, none⟩ = some (.bool b) ∧
      W.frozen? ⟨g, 0, none⟩ = false ∧ W.frozen? ⟨g, 1, none⟩ = false ∧ W.frozen? ⟨g, 2, none⟩ = false ∧
    W.cell? ⟨w1.heap.size, 0, none⟩ = some a' ∧ W.cell? ⟨w1.heap.size, 1, none⟩ = some b' ∧ W.cell? ⟨w1.heap.size, 2, none⟩ = some c' ∧ g ≠ w1.heap.size ∧ Below w1.heap.size w1 W := by
  have hlt : g < w1.heap.size := (Array.getElem?_eq_some_iff.1 h).1
  have hb : Below w1.heap.size w1 (w1.alloc (.cells #[a', b', c'] U)) := (Below.refl _ _).alloc (Nat.le_refl _) _
  have h2 := h.later hb (Nat.le_refl _)
  obtain ⟨c0, c1, c2⟩ := h2.cells
  have hf : ∀ i, (w1.alloc (.cells #[a', b', c'] U)).frozen? ⟨g, i, none⟩ = false := fun i => by
    unfold Box at h2
    simp [World.frozen?, h2]
  exact ⟨_, rfl, c0, c1, c2, hf 0, hf 1, hf 2, by simp, by simp, by simp, by omega, hb⟩

theorem Box.frozen {w : World} {g : Nat} {f : Fl} (h : Box w g f) (i : Nat) : w.frozen? ⟨g, i, none⟩ = false := by
  unfold Box at h
  simp [World.frozen?, h]
theorem below_set3 {B : Nat} {w w' : World} (h : Below B w w') {g : Nat} (hg : B ≤ g) (x y z : Value) : Below B w (((w'.setCell ⟨g, 0, none⟩ x).setCell ⟨g, 1, none⟩ y).setCell ⟨g, 2, none⟩ z) :=
  ((h.setCell (p := ⟨g, 0, none⟩) hg x).setCell (p := ⟨g, 1, none⟩) hg y).setCell (p := ⟨g, 2, none⟩) hg z
theorem kindv_tag {l : List UInt8} {n : Nat} {at_ : Int} (h : numAt l n at_ 2 = 33024) : kindv l n at_ = (0, ⟨11, at_, true⟩) := if_pos h
theorem kindv_else {l : List UInt8} {n : Nat} {at_ : Int} (h : ¬ numAt l n at_ 2 = 33024) : kindv l n at_ = (((numAt l n at_ 2 : Nat) : Int), needOf n at_ 2) := if_neg h
theorem numAt_none {l : List UInt8} {n : Nat} {at_ : Int} (h : (needOf n at_ 2).code ≠ 0) : numAt l n at_ 2 = 0 := if_neg h
theorem needOf_code {n : Nat} {at_ : Int} (h0 : 0 ≤ at_) (h : (needOf n at_ 2).code ≠ 0) : (needOf n at_ 2).code = 3 := by
  unfold needOf at h ⊢
  rw [if_neg (by omega)] at h ⊢
  split at h
  · rw [if_pos (by assumption)]
  · exact absurd rfl h
theorem etherAt_short {l : List UInt8} {n : Nat} {at_ : Int} (t : Nat) (h0 : 0 ≤ at_) (h : (needOf n at_ 2).code ≠ 0) : etherAt l n t at_ = (0, 0, needOf n at_ 2) := by
  have hk := kindv_else (l := l) (n := n) (at_ := at_) (by rw [numAt_none h]; omega)
  have h3 := needOf_code h0 h
  cases t with
  | zero => unfold etherAt; rw [hk, if_neg h]
  | succ t => unfold etherAt; rw [hk, if_neg (by show ¬ (needOf n at_ 2).code = 11; omega), if_neg h]
theorem etherAt_kind {l : List UInt8} {n : Nat} {at_ : Int} (t : Nat) (h : (needOf n at_ 2).code = 0) (hk : ¬ numAt l n at_ 2 = 33024) : etherAt l n t at_ = (((numAt l n at_ 2 : Nat) : Int), at_ + 2, ⟨0, 0, false⟩) := by
  have hk := kindv_else hk
  cases t with
  | zero => unfold etherAt; rw [hk, if_pos h]
  | succ t => unfold etherAt; rw [hk, if_neg (by show ¬ (needOf n at_ 2).code = 11; omega), if_pos h]
theorem etherAt_deep {l : List UInt8} {n : Nat} {at_ : Int} (hk : numAt l n at_ 2 = 33024) : etherAt l n 0 at_ = (0, 0, ⟨11, at_, true⟩) := by
  unfold etherAt; rw [kindv_tag hk, if_neg (by show ¬ (11 : Int) = 0; omega)]
theorem etherAt_tag {l : List UInt8} {n : Nat} {at_ : Int} (t : Nat) (hk : numAt l n at_ 2 = 33024) : etherAt l n (t + 1) at_ = etherAt l n t (at_ + 4) := by
  rw [etherAt, kindv_tag hk, if_pos rfl]

theorem etherAt_tag2 {l : List UInt8} {n : Nat} {at_ : Int} {t t' : Nat} (ht : t = t' + 1) (hk : numAt l n at_ 2 = 33024) : etherAt l n t at_ = etherAt l n t' (at_ + 4) := by
  rw [ht]; exact etherAt_tag _ hk

set_option maxRecDepth 100000 in
set_option maxHeartbeats 2000000 in
theorem ref_ether {A : Option Addr} {n c : Nat} {l : List UInt8} {w : World} (hb : Bs w A n c l) : Calls Tryd.prog 9 #[.slice A n c] w fun e w' =>
    e = .returned (.tuple #[.int .i64 (etherv l n).1, .int .i64 (etherv l n).2.1, (etherv l n).2.2.v]) ∧ Below w.heap.size w w' := by
  have hm := Nat.le_trans hb.cap hb.max
  unfold maxLen at hm
  have HB := Lib.hid hb
  clear hb
  unfold etherv
  by_cases hbig : 2000 < n
  · rw [if_pos hbig]
    have hb0 : Below w.heap.size w (w.alloc (.cells #[.int .i64 0, .int .i64 0, .bool false] 32)) := (Below.refl _ _).alloc (Nat.le_refl _) _
    clear hb0
    go_enter Tryd.func9, Tryd.ntmps9
    go_wp2_with fail
    refine (help_bare 4 _).mono ?_
    rintro e w1 ⟨rfl, h1⟩
    obtain ⟨c0, c1, c2, f0, f1, f2, hb⟩ := boxed3 h1
    have HB := Lib.hid hb
    clear h1 hb
    go_wp2_with fail
    exact bodyPost_ret (v := .tuple #[.int .i64 0, .int .i64 0, .agg #[.int .i64 4, .int .i64 0, .bool false]]) (by simp [results, Tryd.results9, go_sem, c0, c1, c2]) rfl ⟨rfl, ((HB.out.setCell (p := ⟨w.heap.size, 0, none⟩) (Nat.le_refl _) _).setCell (p := ⟨w.heap.size, 1, none⟩) (Nat.le_refl _) _).setCell (p := ⟨w.heap.size, 2, none⟩) (Nat.le_refl _) _⟩
  · rw [if_neg hbig]
    have H0 := Lib.hid (And.intro (Box.new w 0 0 false) ((Below.refl _ w).alloc (Nat.le_refl _) (.cells #[.int .i64 0, .int .i64 0, .bool false] 32)))
    go_enter Tryd.func9, Tryd.ntmps9
    go_wp2_with fail
    go_loopw [5, 6] (fun a t wr => ∃ j : Nat, j ≤ 2 ∧ t = .int .i64 j ∧ a = .int .i64 (12 + 4 * (j : Int)) ∧ etherAt l n 2 12 = etherAt l n (2 - j) (12 + 4 * (j : Int)) ∧ Box wr w.heap.size ⟨0, 0, false⟩ ∧ Below w.heap.size w wr) (fun _ t _ => 2 - (intOf t).toNat)
    case atStart => exact ⟨0, by omega, rfl, rfl, rfl, H0.out.1, H0.out.2⟩
    case round =>
      obtain ⟨j, hj, rfl, rfl, he, hx, hb⟩ := hrel
      have hu := ref_u16 (HB.out.later hb (Nat.le_refl _)) (12 + 4 * (j : Int)) (by omega)
      by_cases hs : (needOf n (12 + 4 * (j : Int)) 2).code = 0
      · rw [needOf_none hs] at hu
        by_cases hk : numAt l n (12 + 4 * (j : Int)) 2 = 33024
        · rw [hk] at hu
          by_cases hj2 : j = 2
          · subst hj2
            have he := he.trans (etherAt_deep hk)
            have HS := Lib.hid (And.intro hu (And.intro he (And.intro hx hb)))
            clear hu he hx hb hs hk
            unfold Fl.v at HS
            go_wp2_with fail
            refine HS.out.1.mono ?_
            rintro e w2 ⟨rfl, b2⟩
            have HX2 := Lib.hid (And.intro (HS.out.2.2.1.later b2 (Nat.le_refl _)) (HS.out.2.2.2.trans (b2.mono HS.out.2.2.2.size)))
            clear b2
            go_wp2_with fail
            refine (help_at 11 20 _).mono ?_
            rintro e w3 ⟨rfl, b3⟩
            have B3 := ((Below.refl w2.heap.size w2).alloc (Nat.le_refl _) (.cells #[.int .i64 0, .int .i64 0, .bool false] 32)).trans (b3.mono (by simp))
            have HX3 := HX2.out.1.later B3 (Nat.le_refl _)
            have HB3 := Lib.hid (HX2.out.2.trans (B3.mono HX2.out.2.size))
            obtain ⟨c0, c1, c2⟩ := HX3.cells
            have f0 := HX3.frozen 0
            have f1 := HX3.frozen 1
            have f2 := HX3.frozen 2
            clear b3 B3 HX3
            go_wp2_with fail
            exact bodyPost_ret (v := .tuple #[.int .i64 0, .int .i64 0, .agg #[.int .i64 11, .int .i64 20, .bool true]]) (by simp [results, Tryd.results9, go_sem, c0, c1, c2]) rfl ⟨by rw [HS.out.2.1]; rfl, below_set3 HB3.out (Nat.le_refl _) _ _ _⟩
          · have he := he.trans (etherAt_tag2 (show 2 - j = (2 - (j + 1)) + 1 by omega) hk)
            have HS := Lib.hid (And.intro hu (And.intro he (And.intro hx hb)))
            have hj3 : ¬ (2 : Int) ≤ (j : Int) := by omega
            clear hu he hx hb hs hk
            unfold Fl.v at HS
            go_wp2_with fail
            refine HS.out.1.mono ?_
            rintro e w2 ⟨rfl, b2⟩
            have HX2 := Lib.hid (And.intro (HS.out.2.2.1.later b2 (Nat.le_refl _)) (HS.out.2.2.2.trans (b2.mono HS.out.2.2.2.size)))
            clear b2
            go_wp2_with fail
            have h4 : (12 : Int) + 4 * ((j + 1 : Nat) : Int) = 12 + 4 * (j : Int) + 4 := by omega
            exact ⟨⟨j + 1, by omega, by go_num, by rw [h4], by rw [h4]; exact HS.out.2.1, HX2.out.1.later ((Below.refl _ w2).alloc (Nat.le_refl _) _) (Nat.le_refl _), HX2.out.2.alloc HX2.out.2.size _⟩, by simp [intOf]; omega⟩
        · have he := he.trans (etherAt_kind _ hs hk)
          have hk' : ¬ ((numAt l n (12 + 4 * (j : Int)) 2 : Nat) : Int) = 33024 := by omega
          generalize numAt l n (12 + 4 * (j : Int)) 2 = m at hu he hk'
          have HS := Lib.hid (And.intro hu (And.intro he (And.intro hx hb)))
          clear hu he hx hb hs hk
          unfold Fl.v at HS
          go_wp2_with fail
          refine HS.out.1.mono ?_
          rintro e w2 ⟨rfl, b2⟩
          obtain ⟨W, hW, c0, c1, c2, f0, f1, f2, d0, d1, d2, hne, hb⟩ := boxed2 (HS.out.2.2.1.later b2 (Nat.le_refl _)) (.int .i64 0) (.int .i64 0) (.bool false) 32
          have HW := Lib.hid hW
          have HWB := Lib.hid ((HS.out.2.2.2.trans (b2.mono HS.out.2.2.2.size)).trans (hb.mono (HS.out.2.2.2.trans (b2.mono HS.out.2.2.2.size)).size))
          have hne' := Ne.symm hne
          clear hW hb b2
          go_wp2_with fail
          rw [HW.out]
          go_region_held3 (fun w' => w'.cell? ⟨w2.heap.size, 0, none⟩ = some (.int .i64 0) ∧ w'.cell? ⟨w2.heap.size, 1, none⟩ = some (.int .i64 0) ∧ w'.cell? ⟨w2.heap.size, 2, none⟩ = some (.bool false)) (go_keep) (fail)
          go_wp2
          exact bodyPost_ret (v := .tuple #[.int .i64 m, .int .i64 (12 + 4 * (j : Int) + 2), .agg #[.int .i64 0, .int .i64 0, .bool false]]) (by simp [results, Tryd.results9, go_sem, c0, c1, c2]; exact IntWalk.i64_in _ (by omega)) rfl ⟨by rw [HS.out.2.1]; rfl, below_set3 HWB.out.drew (Nat.le_refl _) _ _ _⟩
      · have he := he.trans (etherAt_short _ (by omega) hs)
        rw [numAt_none hs] at hu
        generalize needOf n (12 + 4 * (j : Int)) 2 = f at hu he hs
        obtain ⟨fc, fa, fp⟩ := f
        have hne0 : (fc != 0) = true := by simpa using hs
        have HS := Lib.hid (And.intro hu (And.intro he (And.intro hx hb)))
        clear hu he hx hb hs
        unfold Fl.v at HS
        go_wp2_with fail
        refine HS.out.1.mono ?_
        rintro e w2 ⟨rfl, b2⟩
        obtain ⟨W, hW, c0, c1, c2, f0, f1, f2, d0, d1, d2, hne, hb⟩ := boxed2 (HS.out.2.2.1.later b2 (Nat.le_refl _)) (.int .i64 fc) (.int .i64 fa) (.bool fp) 32
        have HW := Lib.hid hW
        have HWB := Lib.hid ((HS.out.2.2.2.trans (b2.mono HS.out.2.2.2.size)).trans (hb.mono (HS.out.2.2.2.trans (b2.mono HS.out.2.2.2.size)).size))
        have hne' := Ne.symm hne
        clear hW hb b2
        go_wp2_with fail
        rw [HW.out]
        go_region_held3 (fun w' => w'.cell? ⟨w2.heap.size, 0, none⟩ = some (.int .i64 fc) ∧ w'.cell? ⟨w2.heap.size, 1, none⟩ = some (.int .i64 fa) ∧ w'.cell? ⟨w2.heap.size, 2, none⟩ = some (.bool fp)) (go_keep) (fail)
        go_wp2
        exact bodyPost_ret (v := .tuple #[.int .i64 0, .int .i64 0, .agg #[.int .i64 fc, .int .i64 fa, .bool fp]]) (by simp [results, Tryd.results9, go_sem, c0, c1, c2]) rfl ⟨by rw [HS.out.2.1]; rfl, below_set3 HWB.out.drew (Nat.le_refl _) _ _ _⟩
end Go.Proofs.YtheiljdilbobdaaDoor
