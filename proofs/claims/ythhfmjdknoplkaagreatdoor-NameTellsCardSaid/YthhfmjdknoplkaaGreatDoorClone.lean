/-
  bytes.Clone, slices.Grow of nil, slices.Concat, at slices of bytes. Conditions: 2^47 bytes at most.
-/
import Derived.Test.YthhfmjdknoplkaaGreatDoorApp
import Derived.Test.YthhfmjdknoplkaaGreatDoorChecked
import Derived.WalkKit
import Derived.Deep.LoopGhost
import Derived.Outline
import Derived.Lib.AppendZeros
import Derived.Lib.SliceRun
namespace Go.Proofs.YthhfmjdknoplkaaGreatDoor
open Go.RowKit

theorem info5 : (Tryz.prog.info? 5).map (fun i => (i.zero, i.size, i.bytes)) = some (some (Value.int IntKind.u8 0), 1, 1) := by kernel_rfl

set_option maxRecDepth 100000 in
set_option maxHeartbeats 400000 in
theorem clone_any {A : Option Addr} {n c : Nat} {l : List UInt8} {w : World} (hb : Bs w A n c l) (h47 : n ≤ 140737488355328) : Calls Tryz.prog 60 #[.slice A n c] w fun e w' =>
    ∃ v', e = .returned v' ∧ w'.ownsRow w.heap.size 5 1 v' n (bv l) ∧ Below w.heap.size w w' := by
  have q22 : ∀ (w : World) (a : Option Addr) (n c n' c' : Nat), (binOp .eql 22 (.slice a n c) (.slice none n' c')).run Tryz.prog w = .ok (.bool a.isNone) w := fun w a n c n' c' => Lib.run_eql_slice_nil w _ _ a n c n' c' Tryz.underlying22
  cases A with
  | none =>
    obtain rfl := hb.none_ rfl
    obtain rfl : n = 0 := by have := hb.cap; omega
    obtain rfl := List.eq_nil_of_length_eq_zero hb.len
    go_enter Tryz.func60, Tryz.ntmps60
    go_wp2
    go_ret
    exact ⟨_, rfl, World.ownsRow_nil _ _ _ _, Below.refl _ _⟩
  | some ad =>
    have HB := Lib.hid hb
    clear hb
    go_enter Tryz.func60, Tryz.ntmps60
    go_wp2_with (at_builtin; refine wpList_append_bs rfl (.tmp 5) (.tmp 6) 22 rfl w.heap.size 5 info5 Tryz.underlying22 _ 0 [] rfl (World.ownsRow_made w #[] 0 (Nat.le_refl _) (Nat.zero_le _) rfl) (some ad) n c l rfl (HB.out.later ((Below.refl w.heap.size w).alloc (Nat.le_refl _) _) (Nat.le_refl _)) (by omega) (by simp) ?_; intro v1 w1 hown hg hnil hat)
    go_wp2
    go_ret
    exact ⟨v1, rfl, by simpa using hown, ((Below.refl _ w).alloc (Nat.le_refl _) _).grown hg (by simp) (fun k hk => Nat.le_of_eq (Option.some.inj hk))⟩


end Go.Proofs.YthhfmjdknoplkaaGreatDoor
