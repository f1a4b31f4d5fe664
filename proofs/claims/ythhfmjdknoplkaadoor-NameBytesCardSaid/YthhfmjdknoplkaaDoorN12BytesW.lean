/-
  stockadelaw12.NameBytes answers true, whatever is handed in. Conditions: what the program's text has laid.
-/
import Derived.Test.YthhfmjdknoplkaaDoorN12BytesA
import Derived.Test.YthhfmjdknoplkaaDoorN12BytesB
namespace Go.Proofs.YthhfmjdknoplkaaDoor
open Go.RowKit
theorem nameBytes (c : Int) (hc : 0 ≤ c ∧ c ≤ 255) (s : ByteArray) (hs : s.size ≤ 9223372036854775807) {w : World} (hE : Env w) (hg : Handle w) : Calls Tryd.prog 7 #[.int .u8 c, .string s] w fun e w' => e = .returned (.bool true) ∧ Below w.heap.size w w' := by
  obtain ⟨y, hy⟩ : ∃ y : UInt8, c = (y.toNat : Int) := ⟨UInt8.ofNat c.toNat, by simp only [UInt8.toNat_ofNat']; omega⟩
  subst hy
  by_cases h1 : sign (lowB y)
  · exact nameBytes_fine y h1 s hs hE hg
  · exact nameBytes_bad y h1 s hs hE hg
end Go.Proofs.YthhfmjdknoplkaaDoor
