/-
  stockaderef01: need, Num, U16, U32, Part, Put: the document's own answers. Conditions: those of the slice; 2^47 bytes at most.
-/
import Derived.Test.YthhfmjdknoplkaaGreatDoorOctE
import Derived.Test.YthhfmjdknoplkaaGreatDoorPut
import Derived.Test.YthhfmjdknoplkaaGreatDoorRefPut
import Derived.Deep.RegionHeld3
import Derived.RegionTactic
import Derived.Deep.RegionWith
import Derived.IntWalk
namespace Go.Proofs.YthhfmjdknoplkaaGreatDoor
open Go.RowKit

/-- Num, where so many bytes are there. -/
theorem num_any {A : Option Addr} {n c : Nat} {l : List UInt8} {w : World} (hb : Bs w A n c l) (at_ k : Nat) (hk : at_ + k ≤ n) (h4 : k ≤ 7) : Calls Tryz.prog 29 #[.slice A n c, .int .i64 at_, .int .i64 k] w fun e w' =>
    e = .returned (.int .i64 (be ((l.drop at_).take k) : Nat)) ∧ w = w' := by
  have hm := Nat.le_trans hb.cap hb.max
  unfold maxLen at hm
  have HB := Lib.hid hb
  clear hb
  go_enter Tryz.func29, Tryz.ntmps29
  go_wp2
  go_loop [7, 8] (fun v i => ∃ j : Nat, j ≤ k ∧ i = .int .i64 j ∧ v = .int .i64 (be ((l.drop at_).take j) : Nat)) (fun _ i => k - (intOf i).toNat)
  case atStart => exact ⟨0, Nat.zero_le _, rfl, rfl⟩
  case round =>
    obtain ⟨j, hj, rfl, rfl⟩ := hrel
    by_cases hlt : j < k
    · obtain ⟨b, off, rfl, hc⟩ := HB.out.get (k := at_ + j) (by omega)
      have hlen : j < (l.drop at_).length := by rw [List.length_drop, HB.out.len]; omega
      have hx := be_take hlen
      rw [List.getElem_drop] at hx
      generalize l[at_ + j]'(by rw [HB.out.len]; omega) = x at hc hx
      have hlt7 := be_take_lt (l.drop at_) j
      have hp : (256 : Nat) ^ j ≤ 256 ^ 6 := Nat.pow_le_pow_right (by omega) (by omega)
      have hx2 := x.toNat_lt
      have HX := Lib.hid hx
      have hbd : be ((l.drop at_).take j) < 281474976710656 := by omega
      clear hx hlen hp hlt7
      generalize be ((l.drop at_).take j) = m at HX hbd ⊢
      have hor := i64_or_byte m x.toNat (by omega) hx2
      have HO := Lib.hid hor
      clear hor
      go_wp2
      refine ⟨⟨j + 1, hlt, by go_num, ?_⟩, by simp [intOf]; omega⟩
      rw [HO.out, HX.out]
      go_num
    · go_wp2
      go_ret
      obtain rfl : j = k := by omega
      exact ⟨rfl, rfl⟩

end Go.Proofs.YthhfmjdknoplkaaGreatDoor
