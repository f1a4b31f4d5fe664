/-
  octets.number, octets.stretch. Conditions: those of the slice.
-/
import Derived.Test.YthhfmjdknoplkaaGreatDoorCut
import Derived.Test.YthhfmjdknoplkaaGreatDoorBits
namespace Go.Proofs.YthhfmjdknoplkaaGreatDoor
open Go.RowKit

/-- The number of some bytes, the highest first. -/
def be (l : List UInt8) : Nat := l.foldl (fun v x => v * 256 + x.toNat) 0
theorem be_snoc (l : List UInt8) (x : UInt8) : be (l ++ [x]) = be l * 256 + x.toNat := by simp [be]
theorem be_take {l : List UInt8} {k : Nat} (h : k < l.length) : be (l.take (k + 1)) = be (l.take k) * 256 + (l[k]).toNat := by
  rw [List.take_succ_eq_append_getElem h, be_snoc]

theorem ret_u32 {a b : Int} (h : a = b) : Ending.returned (.int .u32 a) = .returned (.int .u32 b) := by rw [h]

set_option maxHeartbeats 400000 in
theorem number_any {A : Option Addr} {n c : Nat} {l : List UInt8} {w : World} (hb : Bs w A n c l) : Calls Tryz.prog 62 #[.slice A n c] w fun e w' => e = .returned (.int .u32 (be l % 4294967296 : Nat)) ∧ w = w' := by
  have hl := hb.len
  have hm := Nat.le_trans hb.cap hb.max
  unfold maxLen at hm
  have HB := Lib.hid hb
  have HL := Lib.hid hl
  clear hb hl
  go_enter Tryz.func62, Tryz.ntmps62
  go_wp2
  go_loop [3, 8] (fun v i => ∃ k : Nat, k ≤ n ∧ i = .int .i64 k ∧ v = .int .u32 (be (l.take k) % 4294967296 : Nat)) (fun _ i => n - (intOf i).toNat)
  case atStart => exact ⟨0, Nat.zero_le _, rfl, rfl⟩
  case round =>
    obtain ⟨k, hk, rfl, rfl⟩ := hrel
    by_cases hlt : k < n
    · obtain ⟨b, off, rfl, hc⟩ := HB.out.get hlt
      generalize hx : (l[k]'(by rw [HB.out.len]; exact hlt)) = x at hc
      have hx' := be_take (l := l) (k := k) (by rw [HB.out.len]; exact hlt)
      rw [hx] at hx'
      have HX := Lib.hid hx'
      clear hx hx'
      go_wp2
      refine ⟨⟨k + 1, hlt, by go_num, ?_⟩, by simp [intOf]; omega⟩
      rw [u32_or_byte _ _ x.toNat_lt, HX.out]
    · go_wp2
      go_ret
      obtain rfl : k = n := by omega
      exact ⟨ret_u32 (by rw [List.take_of_length_le (by rw [HB.out.len]; omega)]), rfl⟩
end Go.Proofs.YthhfmjdknoplkaaGreatDoor
