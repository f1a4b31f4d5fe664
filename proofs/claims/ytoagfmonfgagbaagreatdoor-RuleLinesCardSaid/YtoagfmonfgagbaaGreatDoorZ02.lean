/-
  
-/
import Derived.Lib.Strings
import Derived.Lib.ConvBytes
namespace Go.Proofs.YtoagfmonfgagbaaGreatDoor
def mkS (l : List UInt8) : ByteArray := ⟨l.toArray⟩
theorem mkS_data (l : List UInt8) : (mkS l).data.toList = l := by simp [mkS]
theorem mkS_back (s : ByteArray) : mkS s.data.toList = s := by simp [mkS]
theorem mkS_size (l : List UInt8) : (mkS l).size = l.length := by rw [Lib.size_eq, mkS_data]
end Go.Proofs.YtoagfmonfgagbaaGreatDoor
