/-
  
-/
import Derived.Lib.Strings
import Derived.Lib.Hide
import Derived.Lib.ItoaNum
import Derived.Lib.Join
import Derived.Lib.IndexMore
namespace Go.Proofs.YtoagfmonfgagbaaGreatDoor
def dg (c : UInt8) : Nat := if 48 ≤ c.toNat ∧ c.toNat ≤ 57 then c.toNat - 48 else if 97 ≤ c.toNat ∧ c.toNat ≤ 122 then c.toNat - 87 else if 65 ≤ c.toNat ∧ c.toNat ≤ 90 then c.toNat - 55 else 99
def puGo (B : Nat) : Nat → List UInt8 → Option Nat
  | n, [] => some n
  | n, c :: r => if dg c < B then puGo B (n * B + dg c) r else none
def pu (B : Nat) (l : List UInt8) : Option Nat := if l = [] then none else puGo B 0 l
def numv (B most : Nat) (l : List UInt8) : Option Nat := if most < l.length then none else pu B l
def decv (l : List UInt8) : Option Nat := if 1 < l.length ∧ l.head? = some 48 then none else numv 10 3 l
def octetv (l : List UInt8) : Option Nat := (decv l).bind fun n => if 255 < n then none else some n
def groupv (l : List UInt8) : Option Nat := numv 16 4 l
theorem puGo_lt {B : Nat} (hB : 0 < B) : ∀ (l : List UInt8) {n m : Nat}, puGo B n l = some m → m < (n + 1) * B ^ l.length
  | [], n, m, h => by
    obtain rfl : n = m := by simpa [puGo] using h
    simp
  | c :: r, n, m, h => by
    unfold puGo at h
    split at h
    · rename_i hc
      have h1 := puGo_lt hB r h
      have h2 : n * B + dg c + 1 ≤ (n + 1) * B := by rw [Nat.add_mul]; omega
      calc m < (n * B + dg c + 1) * B ^ r.length := h1
        _ ≤ (n + 1) * B * B ^ r.length := Nat.mul_le_mul_right _ h2
        _ = (n + 1) * B ^ (c :: r).length := by rw [List.length_cons, Nat.pow_succ, Nat.mul_assoc, Nat.mul_comm B]
    · cases h
theorem pu_lt {B m : Nat} (hB : 0 < B) {l : List UInt8} (h : pu B l = some m) : m < B ^ l.length := by
  unfold pu at h
  split at h
  · cases h
  · have := puGo_lt hB l h; simpa using this
theorem numv_lt {B k m : Nat} (hB : 1 < B) {l : List UInt8} (h : numv B k l = some m) : m < B ^ k := by
  unfold numv at h
  split at h
  · cases h
  · exact Nat.lt_of_lt_of_le (pu_lt (by omega) h) (Nat.pow_le_pow_right (by omega) (by omega))
theorem decv_lt {m : Nat} {l : List UInt8} (h : decv l = some m) : m < 1000 := by
  unfold decv at h
  split at h
  · cases h
  · exact numv_lt (B := 10) (k := 3) (by omega) h
theorem octetv_lt {m : Nat} {l : List UInt8} (h : octetv l = some m) : m < 256 := by
  unfold octetv at h
  cases hd : decv l with
  | none => rw [hd] at h; cases h
  | some n =>
    rw [hd] at h
    simp only [Option.bind_some] at h
    split at h
    · cases h
    · obtain rfl := Option.some.inj h; omega
theorem groupv_lt {m : Nat} {l : List UInt8} (h : groupv l = some m) : m < 65536 := numv_lt (B := 16) (k := 4) (by omega) h
end Go.Proofs.YtoagfmonfgagbaaGreatDoor
