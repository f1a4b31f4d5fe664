/-
  The first so many bits of sixteen bytes, once more: cut twice, cleared bit by bit. No conditions.
-/
import Derived.Test.YtjegeiaabkheiaaGreatDoorPlayAddr
import Derived.Test.YtjegeiaabkheiaaGreatDoorRNet
import Derived.Test.YtjegeiaabkheiaaGreatDoorRight
namespace Go.Proofs.YtjegeiaabkheiaaGreatDoor
open Go.RowKit
set_option maxRecDepth 100000

theorem mk_and : ∀ p q : Fin 9, mk8 p.val &&& mk8 q.val = mk8 (min p.val q.val) := by decide +kernel
theorem mk_clr : ∀ p q : Fin 9, p.val ≤ q.val → mk8 q.val &&& (mk8 p.val ||| ~~~ mk8 q.val) = mk8 p.val := by decide +kernel
theorem mk_full : ∀ p : Fin 9, mk8 p.val ||| ~~~ mk8 p.val = 255 := by decide +kernel
theorem mk_step : ∀ p q : Fin 8, p.val ≤ q.val → (mk8 p.val ||| ~~~ mk8 q.val) &&& ~~~ (UInt8.ofNat (2 ^ (7 - q.val))) = mk8 p.val ||| ~~~ mk8 (q.val + 1) := by decide +kernel
theorem mk_and' (p q : Nat) (hp : p ≤ 8) (hq : q ≤ 8) : mk8 p &&& mk8 q = mk8 (min p q) := mk_and ⟨p, by omega⟩ ⟨q, by omega⟩

theorem firstv_get (bs : List UInt8) (n i : Nat) : (firstv bs n)[i]? = (bs[i]?).map fun b => b &&& mk8 (min (n - 8 * i) 8) := by simp [firstv]
theorem firstv_twice (bs : List UInt8) (n m : Nat) : firstv (firstv bs n) m = firstv bs (min n m) := by
  apply List.ext_getElem?
  intro i
  rw [firstv_get, firstv_get, firstv_get, Option.map_map]
  congr 1
  funext b
  show b &&& mk8 (min (n - 8 * i) 8) &&& mk8 (min (m - 8 * i) 8) = _
  rw [UInt8.and_assoc, mk_and' _ _ (by omega) (by omega)]
  congr 2
  omega
theorem firstv_all {bs : List UInt8} (h : bs.length ≤ 16) : firstv bs 128 = bs := by
  apply List.ext_getElem?
  intro i
  rw [firstv_get]
  cases hb : bs[i]? with
  | none => rfl
  | some b =>
    have hi := (List.getElem?_eq_some_iff.1 hb).1
    show some (b &&& mk8 (min (128 - 8 * i) 8)) = some b
    rw [show min (128 - 8 * i) 8 = 8 by omega, show mk8 8 = 255 from rfl, show (255 : UInt8) = -1 from rfl, UInt8.and_neg_one]
theorem norm_first (v6 : Bool) {bs : List UInt8} (h : bs.length = 16) : norm v6 bs = firstv bs (wid v6) := by
  cases v6 with
  | true => exact (firstv_all (Nat.le_of_eq h)).symm
  | false =>
    apply List.ext_getElem?
    intro i
    rw [firstv_get]
    show (bs.take 4 ++ List.replicate 12 0)[i]? = (bs[i]?).map fun b => b &&& mk8 (min (32 - 8 * i) 8)
    by_cases h4 : i < 4
    · rw [List.getElem?_append_left (by rw [List.length_take]; omega), List.getElem?_take, if_pos h4, List.getElem?_eq_getElem (by omega)]
      simp only [Option.map_some]
      rw [show min (32 - 8 * i) 8 = 8 by omega, show mk8 8 = 255 from rfl, show (255 : UInt8) = -1 from rfl, UInt8.and_neg_one]
    · rw [List.getElem?_append_right (by rw [List.length_take]; omega), List.length_take, List.getElem?_replicate]
      by_cases h16 : i < 16
      · rw [if_pos (by omega), List.getElem?_eq_getElem (by omega)]
        simp only [Option.map_some]
        rw [show min (32 - 8 * i) 8 = 0 by omega, show mk8 0 = 0 from rfl, UInt8.and_zero]
      · rw [if_neg (by omega), List.getElem?_eq_none (by omega)]
        rfl

/-- The bits from one place on are cleared, up to another. -/
def clrv (bs : List UInt8) (n i : Nat) : List UInt8 := bs.mapIdx fun j b => b &&& (mk8 (min (n - 8 * j) 8) ||| ~~~ mk8 (min (i - 8 * j) 8))
theorem clrv_len (bs : List UInt8) (n i : Nat) : (clrv bs n i).length = bs.length := by simp [clrv]
theorem clrv_get (bs : List UInt8) (n i j : Nat) : (clrv bs n i)[j]? = (bs[j]?).map fun b => b &&& (mk8 (min (n - 8 * j) 8) ||| ~~~ mk8 (min (i - 8 * j) 8)) := by simp [clrv]
theorem clrv_start (bs : List UInt8) (n : Nat) : clrv bs n n = bs := by
  apply List.ext_getElem?
  intro j
  rw [clrv_get]
  cases bs[j]? with
  | none => rfl
  | some b =>
    simp only [Option.map_some]
    rw [mk_full ⟨min (n - 8 * j) 8, by omega⟩, show (255 : UInt8) = -1 from rfl, UInt8.and_neg_one]
theorem clrv_end {bs : List UInt8} {n W : Nat} (h : firstv bs W = bs) (hn : n ≤ W) : clrv bs n W = firstv bs n := by
  apply List.ext_getElem?
  intro j
  rw [clrv_get, firstv_get]
  conv => lhs; rw [← h]
  rw [firstv_get, Option.map_map]
  congr 1
  funext b
  show b &&& mk8 (min (W - 8 * j) 8) &&& (mk8 (min (n - 8 * j) 8) ||| ~~~ mk8 (min (W - 8 * j) 8)) = b &&& mk8 (min (n - 8 * j) 8)
  rw [UInt8.and_assoc, mk_clr ⟨min (n - 8 * j) 8, by omega⟩ ⟨min (W - 8 * j) 8, by omega⟩ (by simp only; omega)]
theorem clrv_step {bs : List UInt8} {n j q : Nat} {b : UInt8} (hn : n ≤ 8 * j + q) (hq : q < 8) (hb : (clrv bs n (8 * j + q))[j]? = some b) : (clrv bs n (8 * j + q)).set j (b &&& ~~~ (UInt8.ofNat (2 ^ (7 - q)))) = clrv bs n (8 * j + q + 1) := by
  apply List.ext_getElem?
  intro k
  rw [List.getElem?_set, clrv_get, clrv_get]
  rw [clrv_get] at hb
  by_cases hk : j = k
  · subst hk
    rw [if_pos rfl]
    cases hbs : bs[j]? with
    | none => rw [hbs] at hb; cases hb
    | some x =>
      rw [hbs] at hb
      have hx : x &&& (mk8 (min (n - 8 * j) 8) ||| ~~~ mk8 (min (8 * j + q - 8 * j) 8)) = b := Option.some.inj hb
      have hlt : j < (clrv bs n (8 * j + q)).length := by rw [clrv_len]; exact (List.getElem?_eq_some_iff.1 hbs).1
      rw [if_pos hlt, ← hx, UInt8.and_assoc, show min (8 * j + q - 8 * j) 8 = q by omega]
      show some _ = some _
      have hm := mk_step ⟨min (n - 8 * j) 8, by omega⟩ ⟨q, hq⟩ (by simp only; omega)
      simp only at hm
      rw [hm, show min (8 * j + q + 1 - 8 * j) 8 = q + 1 by omega]
  · rw [if_neg hk]
    congr 1
    funext b
    rcases Nat.lt_or_gt_of_ne hk with h | h
    · rw [show min (8 * j + q - 8 * k) 8 = 0 by omega, show min (8 * j + q + 1 - 8 * k) 8 = 0 by omega]
    · rw [show min (8 * j + q - 8 * k) 8 = 8 by omega, show min (8 * j + q + 1 - 8 * k) 8 = 8 by omega]
theorem first_fix {bs : List UInt8} {n W : Nat} (hn : n ≤ W) : firstv (firstv bs n) W = firstv bs n := by rw [firstv_twice, Nat.min_eq_left hn]
theorem first_cut {bs : List UInt8} {n m : Nat} (hn : n ≤ m) : firstv (firstv bs m) n = firstv bs n := by rw [firstv_twice, Nat.min_eq_right hn]

theorem size_any (v6 : Bool) (bs : List UInt8) (hl : bs.length = 16) (w : World) : Calls Tryz.prog 25 #[.agg (adv v6 bs)] w fun e w' => e = .returned (.int .i64 (wid v6)) ∧ Below w.heap.size w w' := by
  have a1 := AdBox.new w v6 hl
  have b1 : Below w.heap.size w (w.alloc (.cells (adv v6 bs) 24)) := (Below.refl _ _).alloc (Nat.le_refl _) _
  have c1 := a1.v6_cell
  have H1 := Lib.hid b1
  generalize hW : w.alloc (.cells (adv v6 bs) 24) = W at c1 H1
  clear a1 b1
  cases v6
  · go_enter Tryz.func25, Tryz.ntmps25
    go_wp2
    go_ret
    exact ⟨rfl, H1.out⟩
  · go_enter Tryz.func25, Tryz.ntmps25
    go_wp2
    go_ret
    exact ⟨rfl, H1.out⟩
end Go.Proofs.YtjegeiaabkheiaaGreatDoor
