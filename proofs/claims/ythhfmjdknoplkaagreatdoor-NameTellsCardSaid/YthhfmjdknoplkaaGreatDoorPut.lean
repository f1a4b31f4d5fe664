/-
  octets.Put16, Put32: the bytes of a number behind some. Conditions: 2^47 bytes at most.
-/
import Derived.Test.YthhfmjdknoplkaaGreatDoorClone
namespace Go.Proofs.YthhfmjdknoplkaaGreatDoor
open Go.RowKit

/-- The lowest bytes of a number, so many, the highest first. -/
def putn (v : Int) : Nat → List UInt8
  | 0 => []
  | n + 1 => UInt8.ofNat ((v / 2 ^ (8 * n)) % 256).toNat :: putn v n
theorem putn_length (v : Int) (n : Nat) : (putn v n).length = n := by
  induction n with
  | zero => rfl
  | succ n ih => simp [putn, ih]
theorem byte_cell (x : Int) : ((UInt8.ofNat (x % 256).toNat).toNat : Int) = x % 256 := by
  have h : (x % 256).toNat < 256 := by omega
  simp only [UInt8.toNat_ofNat']
  omega

end Go.Proofs.YthhfmjdknoplkaaGreatDoor
