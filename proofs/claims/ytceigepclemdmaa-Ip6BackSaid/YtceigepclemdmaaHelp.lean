/-
  stockadehelp.At and stockadehelp.Is at an error that is a chain of faults down to a number. Conditions: errors.errorType holds the handle of the type error.
-/
import Derived.Test.YtceigepclemdmaaWrap
import Derived.Test.YtceigepclemdmaaIs
import Derived.Deep.QuietTactic
import Derived.BigQuiet
namespace Go.Proofs.Ytceigepclemdmaa
open Go.RowKit Go.Extern.Stop Go.Stop Go.Extern

/-- Is an error just that one? -/
def isFail (n : Int) (fs : List (Nat × Int)) (code at_ : Int) (placed : Bool) : Bool :=
  (n == code) && (match fs with | [] => !placed | p :: _ => placed && (p.2 == at_))

theorem below_drewN {B : Nat} {a w : World} (h : Below B a w) (n : Nat) : Below B a (w.drewN n) := ⟨h.os, h.tape, h.output, h.size, h.block⟩
end Go.Proofs.Ytceigepclemdmaa
