/-
  
-/
import Derived.Test.YtoagfmonfgagbaaGreatDoorChecked
import Derived.RowKit
namespace Go.Proofs.YtoagfmonfgagbaaGreatDoor
open Go.RowKit
theorem infoStr : (Tryz.prog.info? 9).map (fun i => (i.zero, i.size, i.bytes)) = some (some (Value.string ByteArray.empty), 1, 16) := by kernel_rfl
end Go.Proofs.YtoagfmonfgagbaaGreatDoor
