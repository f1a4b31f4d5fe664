/-
  Bytes at places, numbers of two and of four bytes there; a byte turned. No conditions.
  stockadehelp.Bytes; Plain and Same at bytes; Own and Kept at bytes. Conditions: those of the slices; 2^47 bytes at most.
-/
import Derived.Test.YtbikifaadpijnaaGreatDoorZ19
import Derived.Test.YtbikifaadpijnaaGreatDoorZ20
import Derived.OwnWalk
import Derived.BigQuiet
import Derived.Deep.QuietTactic
namespace Go.Proofs.YtbikifaadpijnaaGreatDoor
open Go.RowKit
set_option maxRecDepth 100000

/-- The byte at a place. -/
def bat (l : List UInt8) (i : Nat) : Nat := (l.getD i 0).toNat
theorem bat_lt (l : List UInt8) (i : Nat) : bat l i < 256 := (l.getD i 0).toNat_lt
theorem bat_take {l : List UInt8} {t i : Nat} (h : i < t) : bat (l.take t) i = bat l i := by unfold bat List.getD; rw [List.getElem?_take, if_pos h]
theorem bat_drop (l : List UInt8) (k i : Nat) : bat (l.drop k) i = bat l (k + i) := by unfold bat List.getD; rw [List.getElem?_drop]
theorem bat_get {l : List UInt8} {i : Nat} {x : UInt8} (h : l[i]? = some x) : bat l i = x.toNat := by unfold bat List.getD; rw [h]; rfl
theorem bat_some {l : List UInt8} {i n : Nat} (hl : l.length = n) (hi : i < n) : ∃ x, l[i]? = some x ∧ bat l i = x.toNat := by
  obtain ⟨x, hx⟩ : ∃ x, l[i]? = some x := ⟨l[i]'(by omega), List.getElem?_eq_getElem _⟩
  exact ⟨x, hx, bat_get hx⟩
theorem bat_same {l : List UInt8} {i : Nat} (x : UInt8) (h : i < l.length) : bat (l.set i x) i = x.toNat := by
  unfold bat List.getD
  rw [List.getElem?_set_self h]
  rfl
theorem bat_ne {l : List UInt8} {i j : Nat} (x : UInt8) (h : i ≠ j) : bat (l.set i x) j = bat l j := by
  unfold bat List.getD
  rw [List.getElem?_set_ne h]
/-- The number of two bytes at a place, of four. -/
def num2 (l : List UInt8) (i : Nat) : Nat := be ((l.drop i).take 2)
def num4 (l : List UInt8) (i : Nat) : Nat := be ((l.drop i).take 4)
theorem num2_lt (l : List UInt8) (i : Nat) : num2 l i < 65536 := by
  unfold num2
  match (l.drop i).take 2, List.length_take_le 2 (l.drop i) with
  | [], _ => simp [be]
  | [a], _ => have := a.toNat_lt; simp [be]; omega
  | [a, b], _ => have := a.toNat_lt; have := b.toNat_lt; simp [be]; omega
  | a :: b :: c :: r, h => simp at h
theorem num4_lt (l : List UInt8) (i : Nat) : num4 l i < 4294967296 := by
  unfold num4
  match (l.drop i).take 4, List.length_take_le 4 (l.drop i) with
  | [], _ => simp [be]
  | [a], _ => have := a.toNat_lt; simp [be]; omega
  | [a, b], _ => have := a.toNat_lt; have := b.toNat_lt; simp [be]; omega
  | [a, b, c], _ => have := a.toNat_lt; have := b.toNat_lt; have := c.toNat_lt; simp [be]; omega
  | [a, b, c, d], _ => have := a.toNat_lt; have := b.toNat_lt; have := c.toNat_lt; have := d.toNat_lt; simp [be]; omega
  | a :: b :: c :: d :: e :: r, h => simp at h
theorem num2_take {l : List UInt8} {t i : Nat} (h : i + 2 ≤ t) : num2 (l.take t) i = num2 l i := by
  unfold num2
  rw [List.drop_take, List.take_take, Nat.min_eq_left (by omega)]
theorem num4_take {l : List UInt8} {t i : Nat} (h : i + 4 ≤ t) : num4 (l.take t) i = num4 l i := by
  unfold num4
  rw [List.drop_take, List.take_take, Nat.min_eq_left (by omega)]
theorem num2_drop (l : List UInt8) (k i : Nat) : num2 (l.drop k) i = num2 l (k + i) := by unfold num2; rw [List.drop_drop]
theorem num2_bat {l : List UInt8} {i : Nat} (h : i + 2 ≤ l.length) : num2 l i = bat l i * 256 + bat l (i + 1) := by
  obtain ⟨x, hx⟩ : ∃ x, l[i]? = some x := ⟨l[i]'(by omega), List.getElem?_eq_getElem _⟩
  obtain ⟨y, hy⟩ : ∃ y, l[i + 1]? = some y := ⟨l[i + 1]'(by omega), List.getElem?_eq_getElem _⟩
  rw [bat_get hx, bat_get hy]
  unfold num2
  have h1 : l.drop i = x :: y :: l.drop (i + 2) := by
    rw [List.drop_eq_getElem_cons (by omega : i < l.length), List.drop_eq_getElem_cons (by omega : i + 1 < l.length)]
    rw [List.getElem?_eq_getElem (by omega : i < l.length)] at hx
    rw [List.getElem?_eq_getElem (by omega : i + 1 < l.length)] at hy
    rw [Option.some.inj hx, Option.some.inj hy]
  rw [h1]
  simp [be]
theorem get_part {l : List UInt8} {n i k j : Nat} (hl : l.length = n) (h : i + k ≤ n) (hj : j < k) : ∃ x, ((l.drop i).take k)[j]? = some x ∧ x.toNat = bat l (i + j) := by
  have hlt : i + j < l.length := by omega
  refine ⟨l[i + j], ?_, (bat_get (List.getElem?_eq_getElem hlt)).symm⟩
  rw [List.getElem?_take, if_pos hj, List.getElem?_drop, List.getElem?_eq_getElem hlt]
/-- The byte of a number. -/
def ub (z : Int) : UInt8 := UInt8.ofNat (z % 256).toNat
theorem ub_cell (z : Int) : ((ub z).toNat : Int) = z % 256 := byte_cell z
theorem ub_in {z : Int} (h : 0 ≤ z ∧ z ≤ 255) : ((ub z).toNat : Int) = z := by rw [ub_cell]; omega
theorem ex16 {bs : List UInt8} (h : bs.length = 16) : ∃ a0 a1 a2 a3 a4 a5 a6 a7 a8 a9 a10 a11 a12 a13 a14 a15, bs = [a0, a1, a2, a3, a4, a5, a6, a7, a8, a9, a10, a11, a12, a13, a14, a15] := by
  match bs, h with
  | [a0, a1, a2, a3, a4, a5, a6, a7, a8, a9, a10, a11, a12, a13, a14, a15], _ => exact ⟨_, _, _, _, _, _, _, _, _, _, _, _, _, _, _, _, rfl⟩
end Go.Proofs.YtbikifaadpijnaaGreatDoor

namespace Go.Proofs.YtbikifaadpijnaaGreatDoor
open Go.RowKit

theorem bytes_eq {A B : Option Addr} {n c m d : Nat} {l k : List UInt8} {w : World} (ha : Bs w A n c l) (hb : Bs w B m d k) : Calls Tryz.prog 14 #[.slice A n c, .slice B m d] w fun e w' => e = .returned (.bool (l == k)) ∧ w = w' := by
  have y1 := ha.convert (P := Tryz.prog) 22 5 9 Tryz.underlying22 Tryz.underlying5 Tryz.underlying9
  have y2 := hb.convert (P := Tryz.prog) 22 5 9 Tryz.underlying22 Tryz.underlying5 Tryz.underlying9
  clear ha hb
  go_enter Tryz.func14, Tryz.ntmps14
  go_wp2
  go_ret
  exact ⟨rfl, rfl⟩
theorem bytes_same {A B : Option Addr} {n c m d : Nat} {l : List UInt8} {w : World} (ha : Bs w A n c l) (hb : Bs w B m d l) : Calls Tryz.prog 14 #[.slice A n c, .slice B m d] w fun e w' => e = .returned (.bool true) ∧ w = w' := by
  have h := bytes_eq ha hb
  rw [beq_self_eq_true] at h
  exact h
/-- A block that holds some bytes, and something behind them, up to a place. -/
def Filled (w : World) (g n : Nat) (l : List UInt8) (fill : Int) (k : Nat) : Prop :=
  ∃ cur : Array Value, w.heap[g]? = some (.cells cur 5 (0, 0)) ∧ cur.size = n + 3 ∧ (∀ (j : Nat) (x : UInt8), l[j]? = some x → cur[j]? = some (.int .u8 x.toNat)) ∧ ∀ j, n ≤ j → j < k → cur[j]? = some (.int .u8 fill)
abbrev Owned (w : World) (g n : Nat) (l : List UInt8) (fill : Int) : Prop := Filled w g n l fill (n + 3)
theorem Filled.later {w w' : World} {B g n k : Nat} {l : List UInt8} {fill : Int} (h : Filled w g n l fill k) (hb : Below B w w') (hB : w.heap.size ≤ B) : Filled w' g n l fill k := by
  obtain ⟨cur, h1, h2⟩ := h
  have hlt : g < w.heap.size := (Array.getElem?_eq_some_iff.1 h1).1
  exact ⟨cur, (hb.block g (by omega)).trans h1, h2⟩
theorem Filled.bs {w : World} {g n k : Nat} {l : List UInt8} {fill : Int} (h : Filled w g n l fill k) (hl : l.length = n) (hn : n + 3 ≤ maxLen) : Bs w (some ⟨g, 0, none⟩) n (n + 3) l := by
  obtain ⟨cur, h1, h2, h3, h4⟩ := h
  exact ⟨hl, by omega, hn, (fun h => by cases h), fun _ => ⟨g, 0, rfl, fun i x hx => by rw [cell_of_row w g (0 + i) cur _ (0, 0) h1, Nat.zero_add]; exact h3 i x hx⟩⟩
theorem Filled.cell {w : World} {g n k : Nat} {l : List UInt8} {fill : Int} (h : Filled w g n l fill k) (j : Nat) (hj : n ≤ j) (hj2 : j < k) : w.cell? ⟨g, j, none⟩ = some (.int .u8 fill) := by
  obtain ⟨cur, h1, h2, h3, h4⟩ := h
  rw [cell_of_row w g j cur _ (0, 0) h1]
  exact h4 j hj hj2
theorem Filled.free {w : World} {g n k : Nat} {l : List UInt8} {fill : Int} (h : Filled w g n l fill k) (j : Nat) (hj : j < n + 3) : (∃ u, w.cell? ⟨g, j, none⟩ = some u) ∧ w.frozen? ⟨g, j, none⟩ = false := by
  obtain ⟨cur, h1, h2, h3, h4⟩ := h
  rw [cell_of_row w g j cur _ (0, 0) h1]
  exact ⟨⟨cur[j]'(by omega), Array.getElem?_eq_getElem (by omega)⟩, by simp [World.frozen?, h1]⟩
theorem Filled.put {w : World} {g n k : Nat} {l : List UInt8} {fill : Int} (h : Filled w g n l fill k) (hl : l.length = n) (hk : n ≤ k) (hk3 : k < n + 3) : Filled (w.setCell ⟨g, k, none⟩ (.int .u8 fill)) g n l fill (k + 1) := by
  obtain ⟨cur, h1, h2, h3, h4⟩ := h
  refine ⟨cur.setIfInBounds k (.int .u8 fill), ?_, by simpa using h2, fun j x hx => ?_, fun j hj hj2 => ?_⟩
  · simp [World.setCell, Array.getElem?_modify, h1]
  · have := (List.getElem?_eq_some_iff.1 hx).1
    rw [Array.getElem?_setIfInBounds, if_neg (by omega)]
    exact h3 j x hx
  · rw [Array.getElem?_setIfInBounds]
    by_cases e : k = j
    · subst e; simp; omega
    · rw [if_neg e]; exact h4 j hj (by omega)
theorem below_of_grown {w w' : World} (h : w.grownBy w' none) : Below w.heap.size w w' := ⟨h.os, h.tape, h.output, h.size, fun i hi => h.block i hi (by simp)⟩
theorem Bs.cells_of {w w' : World} {A : Option Addr} {n c : Nat} {l : List UInt8} (h : Bs w A n c l) (hb : Below w.heap.size w w') : ∀ ad, A = some ad → ∀ j u, (bv l)[j]? = some u → w'.cell? (ad.add j) = some u := by
  intro ad hA j u hj
  obtain ⟨x, hx, rfl⟩ := bv_get hj
  obtain ⟨b, off, e0, hc⟩ := (h.later hb (Nat.le_refl _)).here (by have := h.len; have := (List.getElem?_eq_some_iff.1 hx).1; omega)
  obtain rfl := Option.some.inj (hA.symm.trans e0)
  rw [add_plain]
  exact hc j x hx

set_option maxRecDepth 100000 in
set_option maxHeartbeats 1000000 in
theorem own_any {A : Option Addr} {n c : Nat} {l : List UInt8} {w : World} (hb : Bs w A n c l) (fill : Int) (h47 : n ≤ 140737488350000) : Calls Tryz.prog 7 #[.slice A n c, .int .u8 fill] w fun e w' =>
    e = .returned (.slice (some ⟨w.heap.size, 0, none⟩) n (n + 3)) ∧ Owned w' w.heap.size n l fill ∧ Below w.heap.size w w' := by
  obtain ⟨i0, hi, hz, hz1, hz2⟩ := info_parts info5
  have HB := Lib.hid hb
  have HI := Lib.hid (And.intro hi (And.intro hz (And.intro hz1 hz2)))
  clear hb hi hz hz1 hz2
  go_enter Tryz.func7, Tryz.ntmps7
  go_wp2_with (first
    | (refine wpList_make_own _ rfl (.const (.int .i64 0)) (.tmp 10) 22 rfl w.heap.size 5 i0 _ 1 Tryz.underlying22 HI.out.1 HI.out.2.1 HI.out.2.2.1 .i64 .i64 _ (n + 3) rfl rfl (by simp) (by rw [HI.out.2.2.2]; omega) (by unfold maxLen; omega) (Nat.le_refl _) ?_; intro w1 o1 g1; have H1 := Lib.hid (And.intro o1 g1); clear o1 g1)
    | (at_builtin; refine wpList_append_fits_any _ rfl (.tmp 12) (.tmp 13) 22 rfl w.heap.size 5 i0 1 Tryz.underlying22 HI.out.1 HI.out.2.2.1 w.heap.size 0 (n + 3) [] rfl H1.out.1 A n c (bv l) rfl (by rw [bv_length, HB.out.len]; omega) (fun h => ⟨by have := HB.out.none_ h; have := HB.out.cap; omega, HB.out.none_ h⟩) (HB.out.cells_of (below_of_grown H1.out.2)) (bv_one l) (by omega) ?_; intro w2 o2 g2; have H2 := Lib.hid (And.intro o2 g2); clear o2 g2))
  have F2 : Filled w2 w.heap.size n l fill n := by
    have ho := H2.out.1
    have hc := ho.cells (g := w.heap.size) rfl
    obtain ⟨_, h⟩ := ho
    rcases h with ⟨h, _⟩ | ⟨g, cap, cur, e1, _, h1, _, _, h2, _⟩
    · cases h
    · cases e1
      refine ⟨cur, h1, by omega, fun j x hx => ?_, fun j hj hj2 => by omega⟩
      have := hc j (.int .u8 x.toNat) (by simp only [List.nil_append]; unfold bv; rw [List.getElem?_map, hx]; rfl)
      rw [add_plain, Nat.zero_add, cell_of_row w2 _ j cur _ (0, 0) h1] at this
      exact this
  have B2 : Below w.heap.size w w2 := (below_of_grown H1.out.2).grown H2.out.2 H1.out.2.size (fun q hq => Nat.le_of_eq (Option.some.inj hq))
  have H3 := Lib.hid (And.intro F2 B2)
  clear F2 B2
  go_loopw [7] (fun i wr => ∃ k : Nat, n ≤ k ∧ k ≤ n + 3 ∧ i = .int .i64 k ∧ Filled wr w.heap.size n l fill k ∧ Below w.heap.size w wr) (fun i _ => n + 3 - (intOf i).toNat)
  case atStart => exact ⟨n, Nat.le_refl _, by omega, rfl, H3.out.1, H3.out.2⟩
  case round =>
    obtain ⟨k, hk1, hk2, rfl, hf, hb⟩ := hrel
    by_cases hlt : k < n + 3
    · obtain ⟨⟨u, hu⟩, hfz⟩ := hf.free k hlt
      have HF := Lib.hid (And.intro (hf.put HB.out.len hk1 hlt) (hb.setCell (p := ⟨w.heap.size, k, none⟩) (Nat.le_refl _) (.int .u8 fill)))
      clear hf hb
      go_wp2
      go_roundw
      case rel => exact ⟨k + 1, by omega, by omega, by go_num, HF.out.1, HF.out.2⟩
      case measure => simp [intOf]; omega
    · obtain rfl : k = n + 3 := by omega
      have HF := Lib.hid (And.intro hf hb)
      clear hf hb
      go_wp2
      go_ret
      exact ⟨rfl, HF.out.1, HF.out.2⟩
theorem plain1 (x y : UInt8) (w : World) : Calls Tryz.prog 79 #[.int .u8 x.toNat, .int .u8 y.toNat] w fun e w' => e = .returned (.bool ((x.toNat : Int) == (y.toNat : Int))) ∧ w' = w := by
  go_enter Tryz.func79, Tryz.ntmps79
  go_wp2
  go_ret
  exact ⟨rfl, rfl⟩

set_option maxRecDepth 100000 in
set_option maxHeartbeats 1000000 in
theorem same_same {A B : Option Addr} {n c d : Nat} {l : List UInt8} {w : World} (ha : Bs w A n c l) (hb : Bs w B n d l) : Calls Tryz.prog 78 #[.slice A n c, .slice B n d, .func (.func 79) #[] #[]] w fun e w' => e = .returned (.bool true) ∧ ∃ k, w.drewN k = w' := by
  have hm := Nat.le_trans ha.cap ha.max
  unfold maxLen at hm
  have HA := Lib.hid (And.intro ha hb)
  clear ha hb
  go_enter Tryz.func78, Tryz.ntmps78
  go_wp2
  go_loopw [7] (fun i wr => ∃ k q : Nat, k ≤ n ∧ i = .int .i64 k ∧ w.drewN q = wr) (fun i _ => n - (intOf i).toNat)
  case atStart => exact ⟨0, 0, Nat.zero_le _, rfl, rfl⟩
  case round =>
    obtain ⟨k, q, hk, rfl, rfl⟩ := hrel
    by_cases hlt : k < n
    · obtain ⟨b, o, rfl, h1⟩ := (HA.out.1.drewN q).get hlt
      obtain ⟨b', o', rfl, h2⟩ := (HA.out.2.drewN q).get hlt
      generalize l[k]'(by rw [HA.out.1.len]; exact hlt) = x at h1 h2
      have hx : ((x.toNat : Int) == (x.toNat : Int)) = true := by simp
      have HX := Lib.hid hx
      clear hx
      generalize hw : w.drewN q = wr at h1 h2 ⊢
      have HW := Lib.hid hw
      clear hw
      have g0 : (0 : Int) ≤ (k : Int) := by omega
      have g1 : (k : Int) < (n : Int) := by omega
      go_wp2_with fail
      go_quiet ((go_at_call 79; exact Calls.quiet_of_same (plain1 _ _ _)))
      go_wp2_with fail
      exact ⟨⟨k + 1, q + nq, hlt, by go_num, by rw [← HW.out, World.drewN_drewN]⟩, by simp [intOf]; omega⟩
    · go_wp2
      go_ret
      exact ⟨rfl, q, rfl⟩

set_option maxRecDepth 100000 in
set_option maxHeartbeats 1000000 in
theorem plain_same {A B : Option Addr} {n c d : Nat} {l : List UInt8} {w : World} (ha : Bs w A n c l) (hb : Bs w B n d l) : Calls Tryz.prog 44 #[.slice A n c, .slice B n d] w fun e w' => e = .returned (.bool true) ∧ ∃ k, w.drewN k = w' := by
  have H := Lib.hid (same_same ha hb)
  clear ha hb
  go_enter Tryz.func44, Tryz.ntmps44
  go_wp2_with fail
  refine H.out.mono ?_
  rintro e w' ⟨rfl, k, rfl⟩
  go_wp2_with fail
  go_ret
  exact ⟨rfl, k, rfl⟩

set_option maxRecDepth 100000 in
set_option maxHeartbeats 1000000 in
theorem kept_any {A : Option Addr} {g n c : Nat} {l : List UInt8} {fill : Int} {w : World} (ho : Owned w g n l fill) (hb : Bs w A n c l) (h47 : n ≤ 140737488350000) : Calls Tryz.prog 15 #[.slice (some ⟨g, 0, none⟩) n (n + 3), .slice A n c, .int .u8 fill] w fun e w' => e = .returned (.bool true) ∧ Below w.heap.size w w' := by
  have H := Lib.hid (plain_same (ho.bs hb.len (by unfold maxLen; omega)) hb)
  have hff : (fill != fill) = false := by simp
  have HO := Lib.hid ho
  clear ho hb
  go_enter Tryz.func15, Tryz.ntmps15
  go_wp2_with fail
  refine H.out.mono ?_
  rintro e w' ⟨rfl, q0, rfl⟩
  go_wp2_with fail
  go_loop [8] (fun i => ∃ k : Nat, n ≤ k ∧ k ≤ n + 3 ∧ i = .int .i64 k) (fun i => n + 3 - (intOf i).toNat)
  case atStart => exact ⟨n, Nat.le_refl _, by omega, rfl⟩
  case round =>
    obtain ⟨k, hk, hk2, rfl⟩ := hrel
    by_cases hlt : k < n + 3
    · have hc := HO.out.cell k hk hlt
      have hc' : (w.drewN q0).cell? ⟨g, k, none⟩ = some (.int .u8 fill) := hc
      clear hc
      go_wp2_with fail
      go_round
      case rel => exact ⟨k + 1, by omega, by omega, by go_num⟩
      case measure => simp [intOf]; omega
    · go_wp2_with fail
      go_ret
      exact ⟨rfl, ⟨rfl, rfl, rfl, Nat.le_refl _, fun _ _ => rfl⟩⟩
end Go.Proofs.YtbikifaadpijnaaGreatDoor
