/-
  stockadelaw09.UdpLengths at a byte that is handed in as a number. Conditions: those of the slice; errors.errorType holds the handle of the type error.
-/
import Derived.Test.YtkeggeiliachgaaDoorZ31
namespace Go.Proofs.YtkeggeiliachgaaDoor
open Go.RowKit

theorem udpLengths_byte {B : Option Addr} {m d : Nat} {s : Dg} {w : World} (hp : Bs w B m d s.pay) (n at_ b : Int) (hb : 0 ≤ b ∧ b ≤ 255) (hg : Handle w) :
    Calls Tryd.prog 5 #[.agg (dgv s B m d), .int .i64 n, .int .i64 at_, .int .u8 b] w fun e w' => e = .returned (.bool true) ∧ Below w.heap.size w w' := by
  obtain ⟨y, hy⟩ : ∃ y : UInt8, b = (y.toNat : Int) := ⟨UInt8.ofNat b.toNat, by simp only [UInt8.toNat_ofNat']; omega⟩
  subst hy
  exact udpLengths hp n at_ y hg
end Go.Proofs.YtkeggeiliachgaaDoor
