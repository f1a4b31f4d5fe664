/-
  stockaderef01: extends, addr (of version 6): small ones of the references. Conditions: those of the slice, and that sixteen bytes are there.
-/
import Derived.Test.YtceigepclemdmaaDoorFlH
import Derived.Test.YtceigepclemdmaaDoorSpec7
namespace Go.Proofs.YtceigepclemdmaaDoor
open Go.RowKit
set_option maxRecDepth 100000

theorem ref_extends (k : Int) (w : World) : Calls Tryd.prog 23 #[.int .i64 k] w fun e w' => e = .returned (.bool (decide (ext k))) ∧ w = w' := by
  rcases (show k = 0 ∨ k = 43 ∨ k = 60 ∨ k = 44 ∨ ¬ (k = 0 ∨ k = 43 ∨ k = 60 ∨ k = 44) by omega) with rfl | rfl | rfl | rfl | h
  · rw [decide_eq_true (show ext 0 by unfold ext; omega)]
    go_enter Tryd.func23, Tryd.ntmps23
    go_wp2
    go_ret
    exact ⟨rfl, rfl⟩
  · rw [decide_eq_true (show ext 43 by unfold ext; omega)]
    go_enter Tryd.func23, Tryd.ntmps23
    go_wp2
    go_ret
    exact ⟨rfl, rfl⟩
  · rw [decide_eq_true (show ext 60 by unfold ext; omega)]
    go_enter Tryd.func23, Tryd.ntmps23
    go_wp2
    go_ret
    exact ⟨rfl, rfl⟩
  · rw [decide_eq_true (show ext 44 by unfold ext; omega)]
    go_enter Tryd.func23, Tryd.ntmps23
    go_wp2
    go_ret
    exact ⟨rfl, rfl⟩
  · rw [decide_eq_false (show ¬ ext k from h)]
    have h0 : (k == 0) = false := by simp; omega
    have h1 : (k == 43) = false := by simp; omega
    have h2 : (k == 60) = false := by simp; omega
    have h3 : (k == 44) = false := by simp; omega
    clear h
    go_enter Tryd.func23, Tryd.ntmps23
    go_wp2
    go_ret
    exact ⟨rfl, rfl⟩

/-- Sixteen bytes, filled up to a place. -/
def filled (l : List UInt8) (i j : Nat) : List UInt8 := (l.drop i).take j ++ List.replicate (16 - j) 0
theorem filled_length {l : List UInt8} {i j : Nat} (hl : i + 16 ≤ l.length) (hj : j ≤ 16) : (filled l i j).length = 16 := by
  unfold filled
  rw [List.length_append, List.length_take, List.length_drop, List.length_replicate]
  omega
theorem filled_set {l : List UInt8} {i j : Nat} {x : UInt8} (hl : i + 16 ≤ l.length) (hj : j < 16) (hx : l[i + j]? = some x) : (filled l i j).set j x = filled l i (j + 1) := by
  unfold filled
  have ht : ((l.drop i).take j).length = j := by rw [List.length_take, List.length_drop]; omega
  rw [List.set_append_right _ _ (by rw [ht]; exact Nat.le_refl _), ht, Nat.sub_self, List.take_add_one, List.getElem?_drop, hx, show 16 - j = (16 - (j + 1)) + 1 by omega, List.replicate_succ]
  simp
theorem filled_all (l : List UInt8) (i : Nat) : filled l i 16 = (l.drop i).take 16 := by simp [filled]

set_option maxHeartbeats 1000000 in
theorem ref_addr6 {A : Option Addr} {n c : Nat} {l : List UInt8} {w : World} (hb : Bs w A n c l) (i : Nat) (hi : i + 16 ≤ n) : Calls Tryd.prog 24 #[.slice A n c, .int .i64 i, .bool true] w fun e w' =>
    e = .returned (.agg (adv true ((l.drop i).take 16))) ∧ Below w.heap.size w w' := by
  have hm := Nat.le_trans hb.cap hb.max
  unfold maxLen at hm
  have hl := hb.len
  have HB := Lib.hid hb
  clear hb
  go_enter Tryd.func24, Tryd.ntmps24
  go_wp2_with (first
    | (refine wpList_store_ad rfl (.tmp 7) (.tmp 11) rfl true (List.replicate 16 0) rfl rfl rfl H2.out.2.1 ?_; intro w3 a3 o3 z3 b3; have H3 := Lib.hid (And.intro (H1.out.1.later (b3 _ _ (Nat.le_refl _) H2.out.2.2.2) (Nat.le_refl _)) (And.intro a3 (b3 w.heap.size w H1.out.2.size H2.out.2.2.1))); clear a3 o3 z3 b3)
    | (have hq := H1.out.2; refine wpList_alloc_ad rfl rfl ?_; intro w2 a2 b2 z2; have H2 := Lib.hid (And.intro (H1.out.1.later b2 (Nat.le_refl _)) (And.intro a2 (And.intro (H1.out.2.trans (b2.mono H1.out.2.size)) b2))); clear a2 b2 z2 hq)
    | (refine wpList_alloc_ad rfl rfl ?_; intro w1 a1 b1 z1; have H1 := Lib.hid (And.intro a1 b1); clear a1 b1 z1))
  have hg1 : w.heap.size ≠ w1.heap.size := Nat.ne_of_lt H1.out.1.lt
  have hle : w.heap.size ≤ w1.heap.size := H1.out.2.size
  go_loopw [9] (fun i' wr => ∃ j : Nat, j ≤ 16 ∧ i' = .int .i64 j ∧ AdBox wr w.heap.size false (List.replicate 16 0) ∧ AdBox wr w1.heap.size true (filled l i j) ∧ Below w.heap.size w wr) (fun i' _ => 16 - (intOf i').toNat)
  case atStart => exact ⟨0, by omega, rfl, H3.out.1, by rw [show filled l i 0 = List.replicate 16 0 by simp [filled]]; exact H3.out.2.1, H3.out.2.2⟩
  case round =>
    obtain ⟨j, h16, rfl, a1, a2, hb⟩ := hrel
    by_cases hlt : j < 16
    · obtain ⟨x0, _, hc⟩ := a2.there j hlt
      have hf := a2.frozen (1 + j)
      obtain ⟨x, hx⟩ : ∃ x, l[i + j]? = some x := ⟨l[i + j]'(by omega), List.getElem?_eq_getElem _⟩
      obtain ⟨b, off, rfl, hcb⟩ := (HB.out.later hb (Nat.le_refl _)).here (by omega)
      have hcx := hcb (i + j) x hx
      have a3 := a2.put j x
      rw [filled_set (by omega) hlt hx] at a3
      have H4 := Lib.hid (And.intro (a1.far (p := ⟨w1.heap.size, 1 + j, none⟩) (by simpa using hg1) (.int .u8 x.toNat)) (And.intro a3 (hb.setCell (p := ⟨w1.heap.size, 1 + j, none⟩) hle (.int .u8 x.toNat))))
      clear a1 a2 a3 hb hcb
      go_wp2_with fail
      go_roundw
      case rel => exact ⟨j + 1, by omega, by go_num, H4.out⟩
      case measure => simp [intOf]; omega
    · obtain rfl : j = 16 := by omega
      rw [filled_all] at a2
      have H4 := Lib.hid (And.intro a1 (And.intro a2 hb))
      clear a1 a2 hb
      go_wp2_with (first
        | (refine wpList_load_ad rfl (.tmp 7) rfl rfl H4.out.2.1 ?_)
        | (refine wpList_store_row rfl 25 (.tmp 6) (.tmp 27) rfl w.heap.size _ rfl rfl 25 _ H4.out.1.1 (ad_size _ H4.out.2.1.2) (by rw [adv_size _ H4.out.1.2, adv_size _ H4.out.2.1.2]) (adv_one _ _) ?_))
      exact bodyPost_ret (v := .agg (adv true ((l.drop i).take 16))) (results_cell_row rfl _ _ w.heap.size 25 _ (0, 0) _ rfl (setRow_heap _ _ _ _ _ _ H4.out.1.1) Tryd.underlying25 rfl (ad_size _ H4.out.2.1.2)) rfl ⟨rfl, below_setRow H4.out.2.2 (Nat.le_refl _) _⟩
end Go.Proofs.YtceigepclemdmaaDoor
