/-
  stockadehelp.Bytes; Plain and Same at bytes; Own and Kept at bytes. Conditions: those of the slices; 2^47 bytes at most.
-/
import Derived.Test.YtioonjgamdompaaDoorClone
import Derived.OwnWalk
import Derived.BigQuiet
import Derived.Deep.QuietTactic
namespace Go.Proofs.YtioonjgamdompaaDoor
open Go.RowKit

theorem bytes_eq {A B : Option Addr} {n c m d : Nat} {l k : List UInt8} {w : World} (ha : Bs w A n c l) (hb : Bs w B m d k) : Calls Tryd.prog 14 #[.slice A n c, .slice B m d] w fun e w' => e = .returned (.bool (l == k)) ∧ w = w' := by
  have y1 := ha.convert (P := Tryd.prog) 22 5 9 Tryd.underlying22 Tryd.underlying5 Tryd.underlying9
  have y2 := hb.convert (P := Tryd.prog) 22 5 9 Tryd.underlying22 Tryd.underlying5 Tryd.underlying9
  clear ha hb
  go_enter Tryd.func14, Tryd.ntmps14
  go_wp2
  go_ret
  exact ⟨rfl, rfl⟩
theorem bytes_same {A B : Option Addr} {n c m d : Nat} {l : List UInt8} {w : World} (ha : Bs w A n c l) (hb : Bs w B m d l) : Calls Tryd.prog 14 #[.slice A n c, .slice B m d] w fun e w' => e = .returned (.bool true) ∧ w = w' := by
  have h := bytes_eq ha hb
  rw [beq_self_eq_true] at h
  exact h
end Go.Proofs.YtioonjgamdompaaDoor
