/-
  stockadehelp.Bytes; Plain and Same at bytes; Own and Kept at bytes. Conditions: those of the slices; 2^47 bytes at most.
-/
import Derived.Test.YtceigepclemdmaaClone
import Derived.OwnWalk
import Derived.BigQuiet
import Derived.Deep.QuietTactic
namespace Go.Proofs.Ytceigepclemdmaa
open Go.RowKit

theorem bytes_eq {A B : Option Addr} {n c m d : Nat} {l k : List UInt8} {w : World} (ha : Bs w A n c l) (hb : Bs w B m d k) : Calls Try.prog 9 #[.slice A n c, .slice B m d] w fun e w' => e = .returned (.bool (l == k)) ∧ w = w' := by
  have y1 := ha.convert (P := Try.prog) 26 5 9 Try.underlying26 Try.underlying5 Try.underlying9
  have y2 := hb.convert (P := Try.prog) 26 5 9 Try.underlying26 Try.underlying5 Try.underlying9
  clear ha hb
  go_enter Try.func9, Try.ntmps9
  go_wp2
  go_ret
  exact ⟨rfl, rfl⟩
theorem bytes_same {A B : Option Addr} {n c m d : Nat} {l : List UInt8} {w : World} (ha : Bs w A n c l) (hb : Bs w B m d l) : Calls Try.prog 9 #[.slice A n c, .slice B m d] w fun e w' => e = .returned (.bool true) ∧ w = w' := by
  have h := bytes_eq ha hb
  rw [beq_self_eq_true] at h
  exact h
end Go.Proofs.Ytceigepclemdmaa
