/-
  The texts and addresses that stockadelaw04.AddrTexts makes: eight groups, a run of them 0, the others 15. No conditions.
-/
import Derived.Test.YtcdomcccdbdmhaaDoorTxF
import Derived.Test.YtcdomcccdbdmhaaDoorParse
namespace Go.Proofs.YtcdomcccdbdmhaaDoor
open Go.RowKit
set_option maxRecDepth 100000

/-- A colon behind a text that is not empty and has none at its end. -/
def sep (s : List UInt8) : List UInt8 := if s ≠ [] ∧ s.getLast? ≠ some 58 then s ++ [58] else s
/-- The text behind so many groups. -/
def st (a n : Nat) : Nat → List UInt8
  | 0 => []
  | i + 1 => if a ≤ i ∧ i < a + n then (if 1 < n then (if i = a then st a n i ++ [58, 58] else st a n i) else sep (st a n i) ++ [48]) else sep (st a n i) ++ [102]
/-- The bytes behind so many groups. -/
def bt (a n : Nat) : Nat → List UInt8
  | 0 => List.replicate 16 0
  | i + 1 => if a ≤ i ∧ i < a + n then bt a n i else (bt a n i).set (2 * i + 1) 15
theorem bt_len (a n : Nat) : ∀ i, (bt a n i).length = 16
  | 0 => rfl
  | i + 1 => by
    unfold bt
    split
    · exact bt_len a n i
    · rw [List.length_set]; exact bt_len a n i
theorem sep_len (s : List UInt8) : (sep s).length ≤ s.length + 1 := by unfold sep; split <;> simp
theorem st_len (a n : Nat) : ∀ i, (st a n i).length ≤ 2 * i
  | 0 => by simp [st]
  | i + 1 => by
    have h := st_len a n i
    have h2 := sep_len (st a n i)
    unfold st
    split
    · split
      · split
        · simp; omega
        · omega
      · simp; omega
    · simp; omega
/-- What the law asks. -/
def txOk (a n : Nat) : Bool := parsev (st a n 8) == some (true, bt a n 8) && textf true (bt a n 8) == st a n 8
theorem txOk_all : ∀ a : Fin 8, ∀ n : Fin 9, a.1 + n.1 ≤ 8 → txOk a.1 n.1 = true := by decide +kernel
theorem tx_ok {a n : Nat} (h1 : a < 8) (h2 : a + n ≤ 8) : parsev (st a n 8) = some (true, bt a n 8) ∧ textv true (bt a n 8) = st a n 8 := by
  have h := txOk_all ⟨a, h1⟩ ⟨n, by omega⟩ h2
  unfold txOk at h
  simp only [Bool.and_eq_true, beq_iff_eq] at h
  exact ⟨h.1, (textv_f _ _).trans h.2⟩
theorem bt_odd_all : ∀ a : Fin 8, ∀ n : Fin 9, ∀ i : Fin 8, (bt a.1 n.1 i.1)[2 * i.1 + 1]? = some 0 := by decide +kernel
theorem sep_last {T : ByteArray} {l : List UInt8} (hT : T.data.toList = l) (h : T.size - 1 < T.size) : l.getLast? = some T[T.size - 1] := by
  subst hT
  rw [List.getLast?_eq_getElem?, Array.getElem?_toList, Array.length_toList]
  exact Array.getElem?_eq_getElem _
theorem sep_a {T : ByteArray} {l : List UInt8} (hT : T.data.toList = l) (h : T.toList = []) : sep l = l := by
  rw [ByteArray.toList_eq, hT] at h
  subst h
  rfl
theorem sep_b {T : ByteArray} {l : List UInt8} (hT : T.data.toList = l) {p : T.size - 1 < T.size} (h : (!T.toList.isEmpty) = true ∧ (((T[T.size - 1]'p).toNat : Int) != 58) = true) : sep l = l ++ [58] := by
  obtain ⟨h1, h2⟩ := h
  rw [ByteArray.toList_eq, hT] at h1
  unfold sep
  rw [if_pos]
  refine ⟨fun h => by rw [h] at h1; simp at h1, ?_⟩
  rw [sep_last hT p]
  intro h3
  rw [Option.some.inj h3] at h2
  simp at h2
theorem sep_c {T : ByteArray} {l : List UInt8} (hT : T.data.toList = l) (h0 : ¬ T.toList = []) {p : T.size - 1 < T.size} (h : (!T.toList.isEmpty) = false ∨ (((T[T.size - 1]'p).toNat : Int) != 58) = false) : sep l = l := by
  rw [ByteArray.toList_eq, hT] at h h0
  rcases h with h | h
  · exact absurd (by simpa using h) h0
  · unfold sep
    rw [if_neg]
    rintro ⟨_, h3⟩
    apply h3
    rw [sep_last hT p]
    have h4 : ((T[T.size - 1]'p).toNat : Int) = 58 := by simpa using h
    exact congrArg some (UInt8.toNat_inj.1 (by rw [show (58 : UInt8).toNat = 58 from rfl]; omega))
end Go.Proofs.YtcdomcccdbdmhaaDoor
