/-
  Whether so many bytes are there, at places that are no negative ones. No conditions.
-/
import Derived.Test.YthhfmjdknoplkaaGreatDoorOctE
namespace Go.Proofs.YthhfmjdknoplkaaGreatDoor
open Go.RowKit
set_option maxRecDepth 100000

theorem need_short {n i k : Nat} (h : n < i + k) (h0 : 0 < k) : needOf n i k = ⟨3, i, true⟩ := by
  unfold needOf
  rw [if_neg (by omega), if_pos (by omega)]
theorem need_there {n i k : Nat} (h : i + k ≤ n) : needOf n i k = ⟨0, 0, false⟩ := by
  unfold needOf
  rw [if_neg (by omega), if_neg (by omega)]
theorem part_there {l : List UInt8} {n i k : Nat} (h : i + k ≤ n) : partAt l n i k = (l.drop i).take k := by
  unfold partAt
  rw [need_there h, if_pos rfl, Int.toNat_natCast, Int.toNat_natCast]
end Go.Proofs.YthhfmjdknoplkaaGreatDoor
