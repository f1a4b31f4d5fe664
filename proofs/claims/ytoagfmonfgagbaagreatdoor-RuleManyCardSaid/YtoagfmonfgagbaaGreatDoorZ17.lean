/-
  PLAIN: a byte put behind a number by '|'. No conditions.
  A text out of its bytes. Of no program. No conditions.
-/
import Derived.Laws.BitsAllLaws
import Derived.Laws.BitsLemmas
import Derived.Lib.Strings
import Derived.Lib.ConvBytes
namespace Go.Proofs.YtoagfmonfgagbaaGreatDoor

/-- A u32, eight bits up, with a byte. -/
theorem u32_or_byte (m x : Nat) (hx : x < 256) : bits .or .u32 ((m : Int) % 4294967296 * 256 % 4294967296) ((x : Int) % 4294967296) = ((m * 256 + x) % 4294967296 : Nat) := by
  have h1 : ((m : Int) % 4294967296 * 256 % 4294967296) = ((m % 16777216 * 256 : Nat) : Int) := by omega
  have h2 : ((x : Int) % 4294967296) = (x : Nat) := by omega
  rw [h1, h2, u32_or_nat _ _ (by omega) (by omega), nat_join 8 _ _ (by omega) (by simpa using hx)]
  omega
theorem u32_or_byte' (m x : Nat) (hx : x < 256) : bits .or .u32 ((m : Int) % 4294967296 * 256 % 4294967296) (x : Int) = ((m * 256 + x) % 4294967296 : Nat) := by
  rw [← u32_or_byte m x hx]
  congr 1
  omega
theorem ofInt_i64' (a : Nat) (ha : a < 9223372036854775808) : (BitVec.ofInt 64 (a : Int)).toNat = a := by
  rw [BitVec.ofInt_natCast, BitVec.toNat_ofNat]; exact Nat.mod_eq_of_lt (by omega)
theorem i64_or_nat' (a b : Nat) (ha : a < 9223372036854775808) (hb : b < 9223372036854775808) : bits .or .i64 (a : Int) (b : Int) = ((a ||| b : Nat) : Int) := by
  have hx : a ||| b < 2 ^ 63 := Nat.or_lt_two_pow (by omega) (by omega)
  show IntKind.i64.wrap ((BitVec.ofInt 64 (a : Int) ||| BitVec.ofInt 64 (b : Int)).toNat : Int) = _
  rw [BitVec.toNat_or, ofInt_i64' a ha, ofInt_i64' b hb, IntKind.wrap_i64]
  omega
theorem i64_and_nat' (a b : Nat) (ha : a < 9223372036854775808) (hb : b < 9223372036854775808) : bits .and .i64 (a : Int) (b : Int) = ((a &&& b : Nat) : Int) := by
  have hx : a &&& b < 2 ^ 63 := Nat.and_lt_two_pow _ (by omega)
  show IntKind.i64.wrap ((BitVec.ofInt 64 (a : Int) &&& BitVec.ofInt 64 (b : Int)).toNat : Int) = _
  rw [BitVec.toNat_and, ofInt_i64' a ha, ofInt_i64' b hb, IntKind.wrap_i64]
  omega
/-- An int of few bytes, eight bits up, with a byte. -/
theorem i64_or_byte (m x : Nat) (hm : m < 36028797018963968) (hx : x < 256) : bits .or .i64 ((m : Int) * 256) (x : Int) = (m : Int) * 256 + x := by
  rw [show ((m : Int) * 256) = ((m * 256 : Nat) : Int) by omega, i64_or_nat' _ _ (by omega) (by omega), nat_join 8 _ _ (by omega) (by simpa using hx)]
  omega
end Go.Proofs.YtoagfmonfgagbaaGreatDoor

namespace Go.Proofs.YtoagfmonfgagbaaGreatDoor

/-- A text out of its bytes. -/
def mkS (l : List UInt8) : ByteArray := ⟨l.toArray⟩
theorem mkS_data (l : List UInt8) : (mkS l).data.toList = l := by simp [mkS]
theorem mkS_back (s : ByteArray) : mkS s.data.toList = s := by simp [mkS]
theorem mkS_size (l : List UInt8) : (mkS l).size = l.length := by rw [Lib.size_eq, mkS_data]
end Go.Proofs.YtoagfmonfgagbaaGreatDoor
