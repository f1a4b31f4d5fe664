/-
  PLAIN: a byte put behind a number by '|'. No conditions.
  PLAIN: the numbers of two bytes of a list added; what goes above 65,535 added below. No conditions.
  PLAIN: a byte turned by another one. No conditions.
-/
import Derived.Laws.BitsAllLaws
import Derived.Laws.BitsLemmas
namespace Go.Proofs.YtkeggeiliachgaaDoor

/-- A u32, eight bits up, with a byte. -/
theorem u32_or_byte (m x : Nat) (hx : x < 256) : bits .or .u32 ((m : Int) % 4294967296 * 256 % 4294967296) ((x : Int) % 4294967296) = ((m * 256 + x) % 4294967296 : Nat) := by
  have h1 : ((m : Int) % 4294967296 * 256 % 4294967296) = ((m % 16777216 * 256 : Nat) : Int) := by omega
  have h2 : ((x : Int) % 4294967296) = (x : Nat) := by omega
  rw [h1, h2, u32_or_nat _ _ (by omega) (by omega), nat_join 8 _ _ (by omega) (by simpa using hx)]
  omega
theorem u32_or_byte' (m x : Nat) (hx : x < 256) : bits .or .u32 ((m : Int) % 4294967296 * 256 % 4294967296) (x : Int) = ((m * 256 + x) % 4294967296 : Nat) := by
  rw [← u32_or_byte m x hx]
  congr 1
  omega
theorem ofInt_i64' (a : Nat) (ha : a < 9223372036854775808) : (BitVec.ofInt 64 (a : Int)).toNat = a := by
  rw [BitVec.ofInt_natCast, BitVec.toNat_ofNat]; exact Nat.mod_eq_of_lt (by omega)
theorem i64_or_nat' (a b : Nat) (ha : a < 9223372036854775808) (hb : b < 9223372036854775808) : bits .or .i64 (a : Int) (b : Int) = ((a ||| b : Nat) : Int) := by
  have hx : a ||| b < 2 ^ 63 := Nat.or_lt_two_pow (by omega) (by omega)
  show IntKind.i64.wrap ((BitVec.ofInt 64 (a : Int) ||| BitVec.ofInt 64 (b : Int)).toNat : Int) = _
  rw [BitVec.toNat_or, ofInt_i64' a ha, ofInt_i64' b hb, IntKind.wrap_i64]
  omega
theorem i64_and_nat' (a b : Nat) (ha : a < 9223372036854775808) (hb : b < 9223372036854775808) : bits .and .i64 (a : Int) (b : Int) = ((a &&& b : Nat) : Int) := by
  have hx : a &&& b < 2 ^ 63 := Nat.and_lt_two_pow _ (by omega)
  show IntKind.i64.wrap ((BitVec.ofInt 64 (a : Int) &&& BitVec.ofInt 64 (b : Int)).toNat : Int) = _
  rw [BitVec.toNat_and, ofInt_i64' a ha, ofInt_i64' b hb, IntKind.wrap_i64]
  omega
/-- An int of few bytes, eight bits up, with a byte. -/
theorem i64_or_byte (m x : Nat) (hm : m < 36028797018963968) (hx : x < 256) : bits .or .i64 ((m : Int) * 256) (x : Int) = (m : Int) * 256 + x := by
  rw [show ((m : Int) * 256) = ((m * 256 : Nat) : Int) by omega, i64_or_nat' _ _ (by omega) (by omega), nat_join 8 _ _ (by omega) (by simpa using hx)]
  omega
end Go.Proofs.YtkeggeiliachgaaDoor

namespace Go.Proofs.YtkeggeiliachgaaDoor

/-- All numbers of two bytes, a byte 0 behind where one is alone. -/
def tot : List UInt8 → Nat
  | [] => 0
  | [x] => x.toNat * 256
  | x :: y :: r => x.toNat * 256 + y.toNat + tot r
/-- What goes above two bytes, added below, again and again. -/
def fold (t : Nat) : Nat := if t = 0 then 0 else (t - 1) % 65535 + 1
/-- The sum of some bytes. -/
def cks (l : List UInt8) : Nat := 65535 - fold (tot l)

theorem fold_le (t : Nat) : fold t ≤ 65535 := by unfold fold; split <;> omega
theorem fold_small {t : Nat} (h : t ≤ 65535) : fold t = t := by unfold fold; split <;> omega
theorem fold_step {t : Nat} (h : 65535 < t) : fold (t / 65536 + t % 65536) = fold t := by
  unfold fold; rw [if_neg (by omega), if_neg (by omega)]; omega
theorem fold_sub {v x : Nat} (hv : v ≤ 65535) (hx : x ≤ 65535) (h : 65535 < v + x) : fold (v + x) = v + x - 65535 := by
  unfold fold; rw [if_neg (by omega)]; omega
theorem fold_fold (a b : Nat) : fold (fold a + b) = fold (a + b) := by
  unfold fold; repeat' split
  all_goals omega
theorem fold_fold' (a b : Nat) : fold (a + fold b) = fold (a + b) := by rw [Nat.add_comm, fold_fold, Nat.add_comm]
theorem cks_le (l : List UInt8) : cks l ≤ 65535 := Nat.sub_le _ _
theorem cks_nil : cks [] = 65535 := rfl

theorem tot_append : ∀ (a b : List UInt8), a.length % 2 = 0 → tot (a ++ b) = tot a + tot b
  | [], b, _ => by simp [tot]
  | [x], b, h => by simp at h
  | x :: y :: r, b, h => by
    rw [List.cons_append, List.cons_append, tot, tot, tot_append r b (by simp at h; omega)]
    omega
theorem tot_le : ∀ (l : List UInt8), tot l ≤ 65535 * l.length
  | [] => by simp [tot]
  | [x] => by have := x.toNat_lt; simp [tot]; omega
  | x :: y :: r => by have := x.toNat_lt; have := y.toNat_lt; have := tot_le r; simp [tot]; omega
/-- Two bytes more. -/
theorem tot_take2 (l : List UInt8) (k : Nat) (x y : UInt8) (hk : k % 2 = 0) (hx : l[k]? = some x) (hy : l[k + 1]? = some y) : tot (l.take (k + 2)) = tot (l.take k) + (x.toNat * 256 + y.toNat) := by
  have h1 := (List.getElem?_eq_some_iff.1 hx).1
  have h2 := (List.getElem?_eq_some_iff.1 hy).1
  obtain ⟨_, e1⟩ := List.getElem?_eq_some_iff.1 hx
  obtain ⟨_, e2⟩ := List.getElem?_eq_some_iff.1 hy
  rw [show k + 2 = k + 1 + 1 from rfl, List.take_succ_eq_append_getElem h2, List.take_succ_eq_append_getElem h1, List.append_assoc, tot_append _ _ (by rw [List.length_take]; omega), e1, e2]
  simp [tot]
/-- The last byte, alone. -/
theorem tot_take1 (l : List UInt8) (k : Nat) (x : UInt8) (hk : k % 2 = 0) (hl : l.length = k + 1) (hx : l[k]? = some x) : tot l = tot (l.take k) + x.toNat * 256 := by
  obtain ⟨h1, e1⟩ := List.getElem?_eq_some_iff.1 hx
  conv => lhs; rw [← List.take_of_length_le (i := k + 1) (l := l) (by omega), List.take_succ_eq_append_getElem h1, tot_append _ _ (by rw [List.length_take]; omega), e1]
  simp [tot]
/-- A pair, what is ahead of it, and what is behind. -/
theorem tot_split (l : List UInt8) (j : Nat) (p q : UInt8) (hj : j % 2 = 0) (hp : l[j]? = some p) (hq : l[j + 1]? = some q) : tot l = tot (l.take j) + (p.toNat * 256 + q.toNat) + tot (l.drop (j + 2)) := by
  obtain ⟨h2, _⟩ := List.getElem?_eq_some_iff.1 hq
  rw [← tot_take2 l j p q hj hp hq]
  conv => lhs; rw [← List.take_append_drop (j + 2) l]
  exact tot_append _ _ (by rw [List.length_take]; omega)
/-- A pair in place of another. -/
theorem tot_set (l : List UInt8) (j : Nat) (p q x y : UInt8) (hj : j % 2 = 0) (hp : l[j]? = some p) (hq : l[j + 1]? = some q) : tot ((l.set j x).set (j + 1) y) + (p.toNat * 256 + q.toNat) = tot l + (x.toNat * 256 + y.toNat) := by
  obtain ⟨h1, _⟩ := List.getElem?_eq_some_iff.1 hp
  obtain ⟨h2, _⟩ := List.getElem?_eq_some_iff.1 hq
  have hx : ((l.set j x).set (j + 1) y)[j]? = some x := by rw [List.getElem?_set_ne (by omega), List.getElem?_set_self h1]
  have hy : ((l.set j x).set (j + 1) y)[j + 1]? = some y := List.getElem?_set_self (by rw [List.length_set]; exact h2)
  rw [tot_split _ j x y hj hx hy, tot_split l j p q hj hp hq, List.take_set_of_le (by omega), List.take_set_of_le (by omega), List.drop_set_of_lt (by omega), List.drop_set_of_lt (by omega)]
  omega
set_option maxRecDepth 10000 in
/-- The first byte of a pair in place of another. -/
theorem tot_set1 (l : List UInt8) (j : Nat) (p q x : UInt8) (hj : j % 2 = 0) (hp : l[j]? = some p) (hq : l[j + 1]? = some q) : tot (l.set j x) + p.toNat * 256 = tot l + x.toNat * 256 := by
  have h := tot_set l j p q x q hj hp hq
  have e : (l.set j x).set (j + 1) q = l.set j x := by
    obtain ⟨h2, _⟩ := List.getElem?_eq_some_iff.1 hq
    apply List.ext_getElem?
    intro i
    rw [List.getElem?_set]
    split
    · subst_vars
      rw [List.getElem?_set_ne (by omega), if_pos (by rw [List.length_set]; exact h2), hq]
    · rfl
  rw [e] at h
  generalize tot (l.set j x) = a at h ⊢
  generalize tot l = b at h ⊢
  generalize x.toNat = u at h ⊢
  generalize p.toNat = v at h ⊢
  generalize q.toNat = z at h
  omega
/-- A byte 0 behind. -/
theorem tot_zero : ∀ (l : List UInt8), tot (l ++ [0]) = tot l
  | [] => by simp [tot]
  | [x] => by simp [tot]
  | x :: y :: r => by simp [tot, tot_zero r]
theorem fold_zero {t : Nat} : fold t = 0 ↔ t = 0 := by unfold fold; split <;> omega
/-- Totals that are one turned by less than all are told from each other. -/
theorem fold_ne {a b : Nat} (h : a < b) (hb : b < a + 65535) : fold a ≠ fold b := by
  unfold fold; repeat' split
  all_goals omega
/-- The sum of two parts. -/
theorem cks_append (a b : List UInt8) (h : a.length % 2 = 0) : cks (a ++ b) = 65535 - fold (tot a + tot b) := by unfold cks; rw [tot_append a b h]
end Go.Proofs.YtkeggeiliachgaaDoor

namespace Go.Proofs.YtkeggeiliachgaaDoor

theorem xor_ne (p y : UInt8) (h : y ≠ 0) : p ^^^ y ≠ p := by
  intro e
  apply h
  have : p ^^^ (p ^^^ y) = p ^^^ p := by rw [e]
  rwa [← UInt8.xor_assoc, UInt8.xor_self, UInt8.zero_xor] at this
theorem xor_u8 (x y : UInt8) : bits .xor .u8 (x.toNat : Int) (y.toNat : Int) = ((x ^^^ y).toNat : Int) := by
  rw [u8_xor_nat _ _ x.toNat_lt y.toNat_lt, UInt8.toNat_xor]
end Go.Proofs.YtkeggeiliachgaaDoor
