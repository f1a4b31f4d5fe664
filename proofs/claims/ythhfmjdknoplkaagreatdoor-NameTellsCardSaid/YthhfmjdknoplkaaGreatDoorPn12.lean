/-
  stockadeplay.Name: whatever comes of a text is a name. Conditions: the text's length is an int.
-/
import Derived.Test.YthhfmjdknoplkaaGreatDoorWr12
namespace Go.Proofs.YthhfmjdknoplkaaGreatDoor
open Go.RowKit
set_option maxRecDepth 100000

theorem nmRun_step {l out : List UInt8} {k : Nat} {c : UInt8} (hk : l[k]? = some c) (h60 : out.length < 60) : nmRun (l.drop k) out = nmRun (l.drop (k + 1)) (nmStep out c) := by
  rw [drop_at hk]
  conv => lhs; unfold nmRun
  rw [if_neg (by omega)]
theorem last_at {out : List UInt8} {m : Nat} (h : out.length = m + 1) : ∃ y, out[m]? = some y ∧ out.getLast? = some y := by
  have h1 : out[m]? = some (out[m]'(by omega)) := List.getElem?_eq_getElem _
  refine ⟨_, h1, ?_⟩
  rw [List.getLast?_eq_getElem?, show out.length - 1 = m by omega]
  exact h1
end Go.Proofs.YthhfmjdknoplkaaGreatDoor
