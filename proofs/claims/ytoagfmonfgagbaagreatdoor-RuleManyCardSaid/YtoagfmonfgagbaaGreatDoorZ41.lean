/-
  bytes.Clone, slices.Grow of nil, slices.Concat, at slices of bytes. Conditions: 2^47 bytes at most.
  octets.Put16, Put32: the bytes of a number behind some. Conditions: 2^47 bytes at most.
  octets.cut: the stretch of a slice, or why there is none. No conditions beyond the slice's own.
  octets.number, octets.stretch. Conditions: those of the slice.
  Bytes at places, numbers of two and of four bytes there; a byte turned. No conditions.
-/
import Derived.Test.YtoagfmonfgagbaaGreatDoorZ19
import Derived.Test.YtoagfmonfgagbaaGreatDoorChecked
import Derived.WalkKit
import Derived.Deep.LoopGhost
import Derived.Outline
import Derived.Lib.AppendZeros
import Derived.Lib.SliceRun
import Derived.Test.YtoagfmonfgagbaaGreatDoorZ18
import Derived.BigQuiet
import Derived.Deep.QuietTactic
import Derived.Test.YtoagfmonfgagbaaGreatDoorZ17
namespace Go.Proofs.YtoagfmonfgagbaaGreatDoor
open Go.RowKit

theorem info5 : (Tryz.prog.info? 5).map (fun i => (i.zero, i.size, i.bytes)) = some (some (Value.int IntKind.u8 0), 1, 1) := by kernel_rfl



end Go.Proofs.YtoagfmonfgagbaaGreatDoor

namespace Go.Proofs.YtoagfmonfgagbaaGreatDoor
open Go.RowKit

/-- The lowest bytes of a number, so many, the highest first. -/
def putn (v : Int) : Nat → List UInt8
  | 0 => []
  | n + 1 => UInt8.ofNat ((v / 2 ^ (8 * n)) % 256).toNat :: putn v n
theorem putn_length (v : Int) (n : Nat) : (putn v n).length = n := by
  induction n with
  | zero => rfl
  | succ n ih => simp [putn, ih]
theorem byte_cell (x : Int) : ((UInt8.ofNat (x % 256).toNat).toNat : Int) = x % 256 := by
  have h : (x % 256).toNat < 256 := by omega
  simp only [UInt8.toNat_ofNat']
  omega

end Go.Proofs.YtoagfmonfgagbaaGreatDoor

namespace Go.Proofs.YtoagfmonfgagbaaGreatDoor
open Go.RowKit




end Go.Proofs.YtoagfmonfgagbaaGreatDoor

namespace Go.Proofs.YtoagfmonfgagbaaGreatDoor
open Go.RowKit

/-- The number of some bytes, the highest first. -/
def be (l : List UInt8) : Nat := l.foldl (fun v x => v * 256 + x.toNat) 0
theorem be_snoc (l : List UInt8) (x : UInt8) : be (l ++ [x]) = be l * 256 + x.toNat := by simp [be]
theorem be_take {l : List UInt8} {k : Nat} (h : k < l.length) : be (l.take (k + 1)) = be (l.take k) * 256 + (l[k]).toNat := by
  rw [List.take_succ_eq_append_getElem h, be_snoc]

theorem ret_u32 {a b : Int} (h : a = b) : Ending.returned (.int .u32 a) = .returned (.int .u32 b) := by rw [h]

end Go.Proofs.YtoagfmonfgagbaaGreatDoor

namespace Go.Proofs.YtoagfmonfgagbaaGreatDoor
open Go.RowKit
set_option maxRecDepth 100000

/-- The byte at a place. -/
def bat (l : List UInt8) (i : Nat) : Nat := (l.getD i 0).toNat
theorem bat_lt (l : List UInt8) (i : Nat) : bat l i < 256 := (l.getD i 0).toNat_lt
theorem bat_take {l : List UInt8} {t i : Nat} (h : i < t) : bat (l.take t) i = bat l i := by unfold bat List.getD; rw [List.getElem?_take, if_pos h]
theorem bat_drop (l : List UInt8) (k i : Nat) : bat (l.drop k) i = bat l (k + i) := by unfold bat List.getD; rw [List.getElem?_drop]
theorem bat_get {l : List UInt8} {i : Nat} {x : UInt8} (h : l[i]? = some x) : bat l i = x.toNat := by unfold bat List.getD; rw [h]; rfl
theorem bat_some {l : List UInt8} {i n : Nat} (hl : l.length = n) (hi : i < n) : ∃ x, l[i]? = some x ∧ bat l i = x.toNat := by
  obtain ⟨x, hx⟩ : ∃ x, l[i]? = some x := ⟨l[i]'(by omega), List.getElem?_eq_getElem _⟩
  exact ⟨x, hx, bat_get hx⟩
theorem bat_same {l : List UInt8} {i : Nat} (x : UInt8) (h : i < l.length) : bat (l.set i x) i = x.toNat := by
  unfold bat List.getD
  rw [List.getElem?_set_self h]
  rfl
theorem bat_ne {l : List UInt8} {i j : Nat} (x : UInt8) (h : i ≠ j) : bat (l.set i x) j = bat l j := by
  unfold bat List.getD
  rw [List.getElem?_set_ne h]
/-- The number of two bytes at a place, of four. -/
def num2 (l : List UInt8) (i : Nat) : Nat := be ((l.drop i).take 2)
def num4 (l : List UInt8) (i : Nat) : Nat := be ((l.drop i).take 4)
theorem num2_lt (l : List UInt8) (i : Nat) : num2 l i < 65536 := by
  unfold num2
  match (l.drop i).take 2, List.length_take_le 2 (l.drop i) with
  | [], _ => simp [be]
  | [a], _ => have := a.toNat_lt; simp [be]; omega
  | [a, b], _ => have := a.toNat_lt; have := b.toNat_lt; simp [be]; omega
  | a :: b :: c :: r, h => simp at h
theorem num4_lt (l : List UInt8) (i : Nat) : num4 l i < 4294967296 := by
  unfold num4
  match (l.drop i).take 4, List.length_take_le 4 (l.drop i) with
  | [], _ => simp [be]
  | [a], _ => have := a.toNat_lt; simp [be]; omega
  | [a, b], _ => have := a.toNat_lt; have := b.toNat_lt; simp [be]; omega
  | [a, b, c], _ => have := a.toNat_lt; have := b.toNat_lt; have := c.toNat_lt; simp [be]; omega
  | [a, b, c, d], _ => have := a.toNat_lt; have := b.toNat_lt; have := c.toNat_lt; have := d.toNat_lt; simp [be]; omega
  | a :: b :: c :: d :: e :: r, h => simp at h
theorem num2_take {l : List UInt8} {t i : Nat} (h : i + 2 ≤ t) : num2 (l.take t) i = num2 l i := by
  unfold num2
  rw [List.drop_take, List.take_take, Nat.min_eq_left (by omega)]
theorem num4_take {l : List UInt8} {t i : Nat} (h : i + 4 ≤ t) : num4 (l.take t) i = num4 l i := by
  unfold num4
  rw [List.drop_take, List.take_take, Nat.min_eq_left (by omega)]
theorem num2_drop (l : List UInt8) (k i : Nat) : num2 (l.drop k) i = num2 l (k + i) := by unfold num2; rw [List.drop_drop]
theorem num2_bat {l : List UInt8} {i : Nat} (h : i + 2 ≤ l.length) : num2 l i = bat l i * 256 + bat l (i + 1) := by
  obtain ⟨x, hx⟩ : ∃ x, l[i]? = some x := ⟨l[i]'(by omega), List.getElem?_eq_getElem _⟩
  obtain ⟨y, hy⟩ : ∃ y, l[i + 1]? = some y := ⟨l[i + 1]'(by omega), List.getElem?_eq_getElem _⟩
  rw [bat_get hx, bat_get hy]
  unfold num2
  have h1 : l.drop i = x :: y :: l.drop (i + 2) := by
    rw [List.drop_eq_getElem_cons (by omega : i < l.length), List.drop_eq_getElem_cons (by omega : i + 1 < l.length)]
    rw [List.getElem?_eq_getElem (by omega : i < l.length)] at hx
    rw [List.getElem?_eq_getElem (by omega : i + 1 < l.length)] at hy
    rw [Option.some.inj hx, Option.some.inj hy]
  rw [h1]
  simp [be]
theorem get_part {l : List UInt8} {n i k j : Nat} (hl : l.length = n) (h : i + k ≤ n) (hj : j < k) : ∃ x, ((l.drop i).take k)[j]? = some x ∧ x.toNat = bat l (i + j) := by
  have hlt : i + j < l.length := by omega
  refine ⟨l[i + j], ?_, (bat_get (List.getElem?_eq_getElem hlt)).symm⟩
  rw [List.getElem?_take, if_pos hj, List.getElem?_drop, List.getElem?_eq_getElem hlt]
/-- The byte of a number. -/
def ub (z : Int) : UInt8 := UInt8.ofNat (z % 256).toNat
theorem ub_cell (z : Int) : ((ub z).toNat : Int) = z % 256 := byte_cell z
theorem ub_in {z : Int} (h : 0 ≤ z ∧ z ≤ 255) : ((ub z).toNat : Int) = z := by rw [ub_cell]; omega
theorem ex16 {bs : List UInt8} (h : bs.length = 16) : ∃ a0 a1 a2 a3 a4 a5 a6 a7 a8 a9 a10 a11 a12 a13 a14 a15, bs = [a0, a1, a2, a3, a4, a5, a6, a7, a8, a9, a10, a11, a12, a13, a14, a15] := by
  match bs, h with
  | [a0, a1, a2, a3, a4, a5, a6, a7, a8, a9, a10, a11, a12, a13, a14, a15], _ => exact ⟨_, _, _, _, _, _, _, _, _, _, _, _, _, _, _, _, rfl⟩
end Go.Proofs.YtoagfmonfgagbaaGreatDoor
