/-
  The text of an address, reckoned without a recursion on a number. No conditions.
-/
import Derived.Test.YtjegeiaabkheiaaGreatDoorTextA
namespace Go.Proofs.YtjegeiaabkheiaaGreatDoor
open Go.RowKit
set_option maxRecDepth 100000

/-- The digits of small numbers, without a recursion on the number. -/
def dec3 (n : Nat) : List UInt8 := if n < 10 then [UInt8.ofNat (48 + n)] else if n < 100 then [UInt8.ofNat (48 + n / 10), UInt8.ofNat (48 + n % 10)] else [UInt8.ofNat (48 + n / 100), UInt8.ofNat (48 + n / 10 % 10), UInt8.ofNat (48 + n % 10)]
theorem dec3_eq {n : Nat} (h : n < 1000) : Lib.decDigits n = dec3 n := by
  have hd : ∀ m, Lib.decDigits m = if m < 10 then [UInt8.ofNat (48 + m)] else Lib.decDigits (m / 10) ++ [UInt8.ofNat (48 + m % 10)] := fun m => by
    rw [Lib.decDigits]; split <;> rfl
  unfold dec3
  rw [hd n]
  split
  · rfl
  · rw [hd (n / 10)]
    by_cases h2 : n < 100
    · rw [if_pos (by omega), if_pos h2]; rfl
    · rw [if_neg (by omega), if_neg h2, hd (n / 10 / 10), if_pos (by omega), Nat.div_div_eq_div_mul]; rfl
def hex4 (v : Nat) : List UInt8 := if v < 16 then [hd v] else if v < 256 then [hd (v / 16), hd (v % 16)] else if v < 4096 then [hd (v / 256), hd (v / 16 % 16), hd (v % 16)] else [hd (v / 4096), hd (v / 256 % 16), hd (v / 16 % 16), hd (v % 16)]
theorem hex4_eq {v : Nat} (h : v < 65536) : hexL v = hex4 v := by
  have hh : ∀ m, hexL m = if m < 16 then [hd m] else hexL (m / 16) ++ [hd (m % 16)] := fun m => by
    rw [hexL]; split <;> rfl
  unfold hex4
  rw [hh v]
  split
  · rfl
  · rw [hh (v / 16)]
    by_cases h2 : v < 256
    · rw [if_pos (by omega), if_pos h2]; rfl
    · rw [if_neg (by omega), if_neg h2, hh (v / 16 / 16)]
      by_cases h3 : v < 4096
      · rw [if_pos (by omega), if_pos h3, Nat.div_div_eq_div_mul]; rfl
      · rw [if_neg (by omega), if_neg h3, hh (v / 16 / 16 / 16), if_pos (by omega)]; simp [Nat.div_div_eq_div_mul]
/-- The texts again, so reckoned. -/
def w6 (bs : List UInt8) : List (List UInt8) := (List.range 8).map fun i => hex4 (grp bs i)
def z6 (bs : List UInt8) : List Bool := (w6 bs).map fun l => decide (l = [48])
def text6f (bs : List UInt8) : List UInt8 :=
  if (longestv (z6 bs)).1 = (longestv (z6 bs)).2 then Lib.join (w6 bs) [58]
  else Lib.join ((w6 bs).take (longestv (z6 bs)).1) [58] ++ [58, 58] ++ Lib.join ((w6 bs).drop (longestv (z6 bs)).2) [58]
def textf (v6 : Bool) (bs : List UInt8) : List UInt8 := if rightv v6 bs then (if v6 then text6f bs else Lib.join ((bs.take 4).map fun b => dec3 b.toNat) [46]) else []
theorem words6_f (bs : List UInt8) : (words6 bs).map (fun x => x.data.toList) = w6 bs := by
  unfold words6 w6
  rw [List.map_map]
  apply List.map_congr_left
  intro i _
  show (mkS (hexL (grp bs i))).data.toList = _
  rw [mkS_data, hex4_eq (grp_lt bs i)]
theorem words6_z (bs : List UInt8) : (words6 bs).map isZ = z6 bs := by
  unfold z6
  rw [← words6_f, List.map_map]
  apply List.map_congr_left
  intro x _
  show decide (x = mkS [48]) = decide (x.data.toList = [48])
  rw [decide_eq_decide]
  exact ⟨fun h => by rw [h, mkS_data], fun h => bytes_inj' (h.trans (mkS_data [48]).symm)⟩
theorem textv_f (v6 : Bool) (bs : List UInt8) : textv v6 bs = textf v6 bs := by
  unfold textv textf
  have h6 : text6v bs = text6f bs := by
    unfold text6v text6f
    rw [words6_z, List.map_take, List.map_drop, words6_f]
  have h4 : text4v bs = Lib.join ((bs.take 4).map fun b => dec3 b.toNat) [46] := by
    unfold text4v
    congr 1
    apply List.map_congr_left
    intro b _
    have : b.toNat < 256 := b.toNat_lt
    exact dec3_eq (by omega)
  rw [h6, h4]
theorem num_mod4 (a : Int) (m : Int) (h0 : 0 < m) (h1 : m ≤ 1000000) : 0 ≤ wrap64 ((IntKind.u64.wrap a).tmod m) ∧ wrap64 ((IntKind.u64.wrap a).tmod m) < m := by
  have h2 : 0 ≤ IntKind.u64.wrap a := by rw [IntKind.wrap_u64]; omega
  rw [Int.tmod_eq_emod_of_nonneg h2]
  have h3 := Int.emod_nonneg (IntKind.u64.wrap a) (show m ≠ 0 by omega)
  have h4 := Int.emod_lt_of_pos (IntKind.u64.wrap a) h0
  generalize IntKind.u64.wrap a % m = x at h3 h4
  unfold wrap64
  omega
end Go.Proofs.YtjegeiaabkheiaaGreatDoor
