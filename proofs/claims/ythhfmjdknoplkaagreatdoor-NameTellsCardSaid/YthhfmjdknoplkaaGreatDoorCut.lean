/-
  octets.cut: the stretch of a slice, or why there is none. No conditions beyond the slice's own.
-/
import Derived.Test.YthhfmjdknoplkaaGreatDoorChecked
import Derived.Test.YthhfmjdknoplkaaGreatDoorBy
import Derived.WalkKit
import Derived.Deep.LoopGhost
import Derived.Outline
import Derived.BigQuiet
import Derived.Deep.QuietTactic
namespace Go.Proofs.YthhfmjdknoplkaaGreatDoor
open Go.RowKit

theorem cut_bad (A : Option Addr) (n c : Nat) (at_ k : Int) (w : World) (hb : at_ < 0 ∨ 0 ≤ at_ ∧ k < 0) : Calls Tryz.prog 72 #[.slice A n c, .int .i64 at_, .int .i64 k] w fun e w' =>
    e = .returned (.tuple #[.slice none 0 0, .iface 29 (.int .i64 1)]) ∧ w = w' := by
  rcases hb with h | ⟨h0, h⟩
  · go_enter Tryz.func72, Tryz.ntmps72
    go_wp2
    go_ret2
    exact ⟨rfl, rfl⟩
  · go_enter Tryz.func72, Tryz.ntmps72
    go_wp2
    go_ret2
    exact ⟨rfl, rfl⟩

set_option maxHeartbeats 400000 in
theorem cut_ok {A : Option Addr} {n c : Nat} {l : List UInt8} {w : World} (hb : Bs w A n c l) (at_ k : Nat) (hk : at_ + k ≤ n) : Calls Tryz.prog 72 #[.slice A n c, .int .i64 at_, .int .i64 k] w fun e w' =>
    ∃ A' c', e = .returned (.tuple #[.slice A' k c', .nilIface]) ∧ w = w' ∧ Bs w A' k c' ((l.drop at_).take k) := by
  have hc := hb.cap
  have hm := hb.max
  have hx := hb.cut (i := at_) (k := k) hk (A' := A.map (·.add at_)) (fun _ => rfl) (by cases A <;> simp)
  unfold maxLen at hm
  have HX := Lib.hid hx
  clear hb hx
  go_enter Tryz.func72, Tryz.ntmps72
  go_wp2
  · go_ret2
    obtain rfl : k = 0 := by omega
    exact ⟨_, _, rfl, rfl, Bs.empty_of HX.out _ (Nat.zero_le _) (fun _ => rfl)⟩
  · go_ret2
    exact ⟨_, _, rfl, rfl, HX.out⟩

set_option maxHeartbeats 400000 in
/-- Of no byte, behind the end. -/
theorem cut_zero {A : Option Addr} {n c : Nat} {l : List UInt8} {w : World} (hb : Bs w A n c l) (at_ : Nat) (h63 : at_ ≤ 9223372036854775807) (hk : n < at_) : Calls Tryz.prog 72 #[.slice A n c, .int .i64 at_, .int .i64 0] w fun e w' =>
    ∃ A' c', e = .returned (.tuple #[.slice A' 0 c', .nilIface]) ∧ w = w' ∧ Bs w A' 0 c' [] := by
  have hc := hb.cap
  have hm := hb.max
  have HN := Lib.hid hb.none_
  unfold maxLen at hm
  clear hb
  go_enter Tryz.func72, Tryz.ntmps72
  go_wp2
  · go_ret2
    exact ⟨_, _, rfl, rfl, Bs.empty _ _ (by unfold maxLen; omega) (fun _ => rfl)⟩
  · go_ret2
    exact ⟨_, _, rfl, rfl, Bs.empty _ _ (by unfold maxLen; omega) (fun h => by have := HN.out (by cases A <;> simp_all); omega)⟩

set_option maxHeartbeats 400000 in
theorem cut_short {A : Option Addr} {n c : Nat} {l : List UInt8} {w : World} (hb : Bs w A n c l) (at_ k : Nat) (h63 : at_ ≤ 9223372036854775807) (k63 : k ≤ 9223372036854775807) (h0 : 0 < k) (hk : n < at_ + k) : Calls Tryz.prog 72 #[.slice A n c, .int .i64 at_, .int .i64 k] w fun e w' =>
    e = .returned (.tuple #[.slice none 0 0, .iface 29 (.int .i64 3)]) ∧ w = w' := by
  have hc := hb.cap
  have hm := hb.max
  unfold maxLen at hm
  clear hb
  by_cases hle : at_ ≤ n
  · go_enter Tryz.func72, Tryz.ntmps72
    go_wp2
    all_goals
      go_ret2
      exact ⟨rfl, rfl⟩
  · go_enter Tryz.func72, Tryz.ntmps72
    go_wp2
    all_goals
      go_ret2
      exact ⟨rfl, rfl⟩
end Go.Proofs.YthhfmjdknoplkaaGreatDoor
