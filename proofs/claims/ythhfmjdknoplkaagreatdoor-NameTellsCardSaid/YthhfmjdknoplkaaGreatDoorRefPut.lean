/-
  stockaderef01.Put. Conditions: those of the slice; 2^47 bytes at most.
-/
import Derived.Test.YthhfmjdknoplkaaGreatDoorPut
namespace Go.Proofs.YthhfmjdknoplkaaGreatDoor
open Go.RowKit

end Go.Proofs.YthhfmjdknoplkaaGreatDoor
