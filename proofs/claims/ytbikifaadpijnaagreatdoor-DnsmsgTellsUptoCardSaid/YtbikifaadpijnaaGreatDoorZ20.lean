/-
  octets.cut: the stretch of a slice, or why there is none. No conditions beyond the slice's own.
  octets.number, octets.stretch. Conditions: those of the slice.
-/
import Derived.Test.YtbikifaadpijnaaGreatDoorChecked
import Derived.Test.YtbikifaadpijnaaGreatDoorZ04
import Derived.WalkKit
import Derived.Deep.LoopGhost
import Derived.Outline
import Derived.BigQuiet
import Derived.Deep.QuietTactic
import Derived.Test.YtbikifaadpijnaaGreatDoorZ01
namespace Go.Proofs.YtbikifaadpijnaaGreatDoor
open Go.RowKit

theorem cut_bad (A : Option Addr) (n c : Nat) (at_ k : Int) (w : World) (hb : at_ < 0 ∨ 0 ≤ at_ ∧ k < 0) : Calls Tryz.prog 105 #[.slice A n c, .int .i64 at_, .int .i64 k] w fun e w' =>
    e = .returned (.tuple #[.slice none 0 0, .iface 34 (.int .i64 1)]) ∧ w = w' := by
  rcases hb with h | ⟨h0, h⟩
  · go_enter Tryz.func105, Tryz.ntmps105
    go_wp2
    go_ret2
    exact ⟨rfl, rfl⟩
  · go_enter Tryz.func105, Tryz.ntmps105
    go_wp2
    go_ret2
    exact ⟨rfl, rfl⟩

set_option maxHeartbeats 400000 in
theorem cut_ok {A : Option Addr} {n c : Nat} {l : List UInt8} {w : World} (hb : Bs w A n c l) (at_ k : Nat) (hk : at_ + k ≤ n) : Calls Tryz.prog 105 #[.slice A n c, .int .i64 at_, .int .i64 k] w fun e w' =>
    ∃ A' c', e = .returned (.tuple #[.slice A' k c', .nilIface]) ∧ w = w' ∧ Bs w A' k c' ((l.drop at_).take k) := by
  have hc := hb.cap
  have hm := hb.max
  have hx := hb.cut (i := at_) (k := k) hk (A' := A.map (·.add at_)) (fun _ => rfl) (by cases A <;> simp)
  unfold maxLen at hm
  have HX := Lib.hid hx
  clear hb hx
  go_enter Tryz.func105, Tryz.ntmps105
  go_wp2
  · go_ret2
    obtain rfl : k = 0 := by omega
    exact ⟨_, _, rfl, rfl, Bs.empty_of HX.out _ (Nat.zero_le _) (fun _ => rfl)⟩
  · go_ret2
    exact ⟨_, _, rfl, rfl, HX.out⟩

set_option maxHeartbeats 400000 in
/-- Of no byte, behind the end. -/
theorem cut_zero {A : Option Addr} {n c : Nat} {l : List UInt8} {w : World} (hb : Bs w A n c l) (at_ : Nat) (h63 : at_ ≤ 9223372036854775807) (hk : n < at_) : Calls Tryz.prog 105 #[.slice A n c, .int .i64 at_, .int .i64 0] w fun e w' =>
    ∃ A' c', e = .returned (.tuple #[.slice A' 0 c', .nilIface]) ∧ w = w' ∧ Bs w A' 0 c' [] := by
  have hc := hb.cap
  have hm := hb.max
  have HN := Lib.hid hb.none_
  unfold maxLen at hm
  clear hb
  go_enter Tryz.func105, Tryz.ntmps105
  go_wp2
  · go_ret2
    exact ⟨_, _, rfl, rfl, Bs.empty _ _ (by unfold maxLen; omega) (fun _ => rfl)⟩
  · go_ret2
    exact ⟨_, _, rfl, rfl, Bs.empty _ _ (by unfold maxLen; omega) (fun h => by have := HN.out (by cases A <;> simp_all); omega)⟩

set_option maxHeartbeats 400000 in
theorem cut_short {A : Option Addr} {n c : Nat} {l : List UInt8} {w : World} (hb : Bs w A n c l) (at_ k : Nat) (h63 : at_ ≤ 9223372036854775807) (k63 : k ≤ 9223372036854775807) (h0 : 0 < k) (hk : n < at_ + k) : Calls Tryz.prog 105 #[.slice A n c, .int .i64 at_, .int .i64 k] w fun e w' =>
    e = .returned (.tuple #[.slice none 0 0, .iface 34 (.int .i64 3)]) ∧ w = w' := by
  have hc := hb.cap
  have hm := hb.max
  unfold maxLen at hm
  clear hb
  by_cases hle : at_ ≤ n
  · go_enter Tryz.func105, Tryz.ntmps105
    go_wp2
    all_goals
      go_ret2
      exact ⟨rfl, rfl⟩
  · go_enter Tryz.func105, Tryz.ntmps105
    go_wp2
    all_goals
      go_ret2
      exact ⟨rfl, rfl⟩
end Go.Proofs.YtbikifaadpijnaaGreatDoor

namespace Go.Proofs.YtbikifaadpijnaaGreatDoor
open Go.RowKit

/-- The number of some bytes, the highest first. -/
def be (l : List UInt8) : Nat := l.foldl (fun v x => v * 256 + x.toNat) 0
theorem be_snoc (l : List UInt8) (x : UInt8) : be (l ++ [x]) = be l * 256 + x.toNat := by simp [be]
theorem be_take {l : List UInt8} {k : Nat} (h : k < l.length) : be (l.take (k + 1)) = be (l.take k) * 256 + (l[k]).toNat := by
  rw [List.take_succ_eq_append_getElem h, be_snoc]

theorem ret_u32 {a b : Int} (h : a = b) : Ending.returned (.int .u32 a) = .returned (.int .u32 b) := by rw [h]

set_option maxHeartbeats 400000 in
theorem number_any {A : Option Addr} {n c : Nat} {l : List UInt8} {w : World} (hb : Bs w A n c l) : Calls Tryz.prog 82 #[.slice A n c] w fun e w' => e = .returned (.int .u32 (be l % 4294967296 : Nat)) ∧ w = w' := by
  have hl := hb.len
  have hm := Nat.le_trans hb.cap hb.max
  unfold maxLen at hm
  have HB := Lib.hid hb
  have HL := Lib.hid hl
  clear hb hl
  go_enter Tryz.func82, Tryz.ntmps82
  go_wp2
  go_loop [3, 8] (fun v i => ∃ k : Nat, k ≤ n ∧ i = .int .i64 k ∧ v = .int .u32 (be (l.take k) % 4294967296 : Nat)) (fun _ i => n - (intOf i).toNat)
  case atStart => exact ⟨0, Nat.zero_le _, rfl, rfl⟩
  case round =>
    obtain ⟨k, hk, rfl, rfl⟩ := hrel
    by_cases hlt : k < n
    · obtain ⟨b, off, rfl, hc⟩ := HB.out.get hlt
      generalize hx : (l[k]'(by rw [HB.out.len]; exact hlt)) = x at hc
      have hx' := be_take (l := l) (k := k) (by rw [HB.out.len]; exact hlt)
      rw [hx] at hx'
      have HX := Lib.hid hx'
      clear hx hx'
      go_wp2
      refine ⟨⟨k + 1, hlt, by go_num, ?_⟩, by simp [intOf]; omega⟩
      rw [u32_or_byte _ _ x.toNat_lt, HX.out]
    · go_wp2
      go_ret
      obtain rfl : k = n := by omega
      exact ⟨ret_u32 (by rw [List.take_of_length_le (by rw [HB.out.len]; omega)]), rfl⟩
end Go.Proofs.YtbikifaadpijnaaGreatDoor
