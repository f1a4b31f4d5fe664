/-
  What is built, read. No conditions.
-/
import Derived.Test.YtceigepclemdmaaDoorSpec7
namespace Go.Proofs.YtceigepclemdmaaDoor
open Go.RowKit
set_option maxRecDepth 100000

theorem first40_length {a b : List UInt8} (ha : a.length = 16) (hb : b.length = 16) (proto : Int) (ks : List Int) (n : Nat) : (first40 a b proto ks n).length = 40 := by
  simp [first40, putn_length, ha, hb]
theorem first40_cons (a b : List UInt8) (proto : Int) (ks : List Int) (n : Nat) : first40 a b proto ks n = [96, 0, 0, 0] ++ putn ((8 * ks.length + n : Nat) : Int) 2 ++ ([ub (firstk ks proto), 64] ++ a ++ b) := by
  simp [first40]
theorem be_put (v : Nat) (hv : v ≤ 65535) : be (putn (v : Int) 2) = v := by
  have h1 := byte_cell ((v : Int) / 256)
  have h0 := byte_cell (v : Int)
  have e1 : (2 : Int) ^ (8 * 1) = 256 := rfl
  have e0 : (2 : Int) ^ (8 * 0) = 1 := rfl
  have hb : (be (putn (v : Int) 2) : Int) = v := by
    simp only [putn, be, List.foldl_cons, List.foldl_nil, e1, e0, Int.ediv_one, Nat.zero_mul, Nat.zero_add, Int.natCast_add, Int.natCast_mul, h1, h0]
    omega
  omega
theorem headsv_drop (r : List UInt8) : ∀ (i : Nat) (hs : List Int), i ≤ hs.length → (headsv hs ++ r).drop (8 * i) = headsv (hs.drop i) ++ r
  | 0, hs, _ => rfl
  | i + 1, [], h => by simp at h
  | i + 1, k :: hs, h => by
    rw [show 8 * (i + 1) = 8 + 8 * i by omega, ← List.drop_drop, show (headsv (k :: hs) ++ r).drop 8 = headsv hs ++ r from rfl, headsv_drop r i hs (by simpa using h)]
    rfl
section
variable {a b : List UInt8} (ha : a.length = 16) (hb : b.length = 16) (proto : Int) (ks : List Int) (n : Nat) (r : List UInt8)
/-- The packet, what stands behind its first forty bytes laid open. -/
def pk (a b : List UInt8) (proto : Int) (ks : List Int) (n : Nat) (r : List UInt8) : List UInt8 := first40 a b proto ks n ++ (headsv ((ks ++ [proto]).drop 1) ++ r)
theorem pk_built (l more : List UInt8) : built6 a b proto ks n l ++ more = pk a b proto ks n (l ++ more) := by simp [built6, pk]
theorem pk_zero : bat (pk a b proto ks n r) 0 = 96 := rfl
theorem pk_kind : bat (pk a b proto ks n r) 6 = (ub (firstk ks proto)).toNat := by
  unfold pk
  rw [first40_cons]
  rfl
theorem pk_size (h : 8 * ks.length + n ≤ 65535) : num2 (pk a b proto ks n r) 4 = 8 * ks.length + n := by
  unfold pk
  rw [first40_cons]
  exact be_put _ h
theorem pk_drop8 : (pk a b proto ks n r).drop 8 = a ++ (b ++ (headsv ((ks ++ [proto]).drop 1) ++ r)) := by
  unfold pk
  rw [first40_cons]
  have h : ∀ (x y z : List UInt8) (p q u : UInt8), (([96, 0, 0, 0] ++ [p, q] ++ ([u, 64] ++ x ++ y)) ++ z).drop 8 = (x ++ y) ++ z := fun _ _ _ _ _ _ => rfl
  exact (h a b _ _ _ _).trans (List.append_assoc _ _ _)
include ha in
theorem pk_src : ((pk a b proto ks n r).drop 8).take 16 = a := by
  rw [pk_drop8, List.take_left' ha]
include ha hb in
theorem pk_dst : ((pk a b proto ks n r).drop 24).take 16 = b := by
  have h : (pk a b proto ks n r).drop 24 = ((pk a b proto ks n r).drop 8).drop 16 := by rw [List.drop_drop]
  rw [h, pk_drop8, List.drop_left' ha, List.take_left' hb]
include ha hb in
theorem pk_drop40 : (pk a b proto ks n r).drop 40 = headsv ((ks ++ [proto]).drop 1) ++ r := by
  unfold pk
  rw [List.drop_left' (first40_length ha hb proto ks n)]
include ha hb in
theorem pk_length : (pk a b proto ks n r).length = 40 + 8 * ks.length + r.length := by
  unfold pk
  rw [List.length_append, List.length_append, first40_length ha hb, headsv_length]
  simp
  omega
include ha hb in
/-- The head at a place. -/
theorem pk_head {i : Nat} {z : Int} (hz : (ks ++ [proto])[i + 1]? = some z) : ∃ t, (pk a b proto ks n r).drop (40 + 8 * i) = ub z :: 0 :: 0 :: 0 :: 0 :: 0 :: 0 :: 0 :: t := by
  have hlt := (List.getElem?_eq_some_iff.1 hz).1
  rw [← List.drop_drop, pk_drop40 ha hb, headsv_drop r i _ (by rw [List.length_drop]; omega), List.drop_drop]
  have hd : (ks ++ [proto]).drop (1 + i) = z :: (ks ++ [proto]).drop (1 + i + 1) := by
    rw [Nat.add_comm 1 i]
    have := List.drop_eq_getElem_cons hlt
    rw [this]
    congr 1
    exact (List.getElem?_eq_some_iff.1 hz).2
  rw [hd]
  exact ⟨_, rfl⟩
include ha hb in
theorem pk_next {i : Nat} {z : Int} (hz : (ks ++ [proto])[i + 1]? = some z) : bat (pk a b proto ks n r) (40 + 8 * i) = (ub z).toNat ∧ bat (pk a b proto ks n r) (40 + 8 * i + 1) = 0 ∧ num2 (pk a b proto ks n r) (40 + 8 * i + 2) = 0 := by
  obtain ⟨t, ht⟩ := pk_head ha hb proto ks n r hz
  refine ⟨?_, ?_, ?_⟩
  · rw [← Nat.add_zero (40 + 8 * i), ← bat_drop, ht]; rfl
  · rw [← bat_drop, ht]; rfl
  · rw [← num2_drop, ht]; rfl
end
theorem ub_in {z : Int} (h : 0 ≤ z ∧ z ≤ 255) : ((ub z).toNat : Int) = z := by rw [ub_cell]; omega
theorem ext_in {z : Int} (h : ext z) : 0 ≤ z ∧ z ≤ 255 := by unfold ext at h; omega
/-- The kinds, one behind the other, the protocol last. -/
def kindK (ks : List Int) (proto : Int) (i : Nat) : Int := (ks ++ [proto]).getD i 0
theorem kindK_get {ks : List Int} {proto : Int} {i : Nat} (h : i ≤ ks.length) : (ks ++ [proto])[i]? = some (kindK ks proto i) := by
  unfold kindK List.getD
  rw [List.getElem?_eq_getElem (by simp; omega)]
  rfl
theorem kindK_lt {ks : List Int} {proto : Int} {i : Nat} (h : i < ks.length) : ks[i]? = some (kindK ks proto i) := by
  rw [← kindK_get (Nat.le_of_lt h), List.getElem?_append_left h]
theorem kindK_last (ks : List Int) (proto : Int) : kindK ks proto ks.length = proto := by
  unfold kindK List.getD
  rw [List.getElem?_append_right (Nat.le_refl _)]
  simp
theorem kindK_first (ks : List Int) (proto : Int) : kindK ks proto 0 = firstk ks proto := rfl
theorem kindK_in {sv dv : Bool} {ks : List Int} {proto : Int} {n i : Nat} (hm : may6 sv dv proto ks n) (h : i ≤ ks.length) : 0 ≤ kindK ks proto i ∧ kindK ks proto i ≤ 255 := by
  rcases Nat.lt_or_ge i ks.length with h1 | h1
  · exact ext_in (hm.2.2.2.2.2.1 i _ (kindK_lt h1)).1
  · obtain rfl : i = ks.length := by omega
    rw [kindK_last]
    exact hm.2.2.1
theorem frag_zero {l : List UInt8} {i : Nat} (h : num2 l (i + 2) = 0) : ¬ fragv l i := by
  unfold fragv
  rw [h]
  exact fun h => h (by decide +kernel)

theorem ip6v_built {sv dv : Bool} {a b : List UInt8} (ha : a.length = 16) (hb : b.length = 16) {proto : Int} {ks : List Int} {n : Nat} {r : List UInt8} (hm : may6 sv dv proto ks n) {N : Nat} (hN : N = 40 + 8 * ks.length + r.length) (hr : n ≤ r.length) :
    ip6v (pk a b proto ks n r) N = (⟨true, a, b, proto, (40 + 8 * ks.length : Nat), (40 + (8 * ks.length + n) : Nat)⟩, ⟨0, 0, false⟩) := by
  have hfit := hm.2.2.2.2.2.2
  have hs := pk_size (a := a) (b := b) proto ks n r hfit
  have hk0 : ((bat (pk a b proto ks n r) 6 : Nat) : Int) = kindK ks proto 0 := by
    rw [pk_kind, kindK_first]
    exact ub_in (kindK_in hm (Nat.zero_le _))
  have hw : walk (pk a b proto ks n r) (40 + (8 * ks.length + n)) 8 (bat (pk a b proto ks n r) 6) 40 = (proto, 40 + 8 * ks.length, ⟨0, 0, false⟩) := by
    rw [hk0, walk_on (kindK ks proto) ks.length hm.2.2.2.2.1 ?_, kindK_last, walk_end hm.2.2.2.1]
    intro i hi
    have hki := hm.2.2.2.2.2.1 i _ (kindK_lt (proto := proto) hi)
    obtain ⟨h1, h2, h3⟩ := pk_next ha hb proto ks n r (kindK_get (proto := proto) (i := i + 1) hi)
    refine ⟨hki.1, hki.2, ?_, ?_, by omega, ?_⟩
    · unfold hsz
      rw [h2]
      split <;> rfl
    · exact fun h => frag_zero h3 h.2
    · rw [h1]
      exact ub_in (kindK_in hm hi)
  unfold ip6v
  rw [if_neg (by omega), if_neg (by rw [pk_zero]; omega), hs, if_neg (by omega), hw, if_neg (by simp), pk_src ha, pk_dst ha hb]
theorem ip6v_built_more {sv dv : Bool} {a b : List UInt8} (ha : a.length = 16) (hb : b.length = 16) {proto : Int} {ks : List Int} {n : Nat} {l : List UInt8} (hm : may6 sv dv proto ks n) (hl : l.length = n) (more : List UInt8) {N : Nat} (hN : N = 40 + 8 * ks.length + n + more.length) :
    ip6v (built6 a b proto ks n l ++ more) N = (⟨true, a, b, proto, (40 + 8 * ks.length : Nat), (40 + (8 * ks.length + n) : Nat)⟩, ⟨0, 0, false⟩) := by
  rw [pk_built]
  exact ip6v_built ha hb hm (by rw [List.length_append, hl]; omega) (by rw [List.length_append, hl]; omega)
theorem built6_length {a b : List UInt8} (ha : a.length = 16) (hb : b.length = 16) (proto : Int) (ks : List Int) {n : Nat} {l : List UInt8} (hl : l.length = n) : (built6 a b proto ks n l).length = 40 + 8 * ks.length + n := by
  rw [← List.append_nil (built6 a b proto ks n l), pk_built, pk_length ha hb, List.append_nil, hl]
theorem ip6v_built_self {sv dv : Bool} {a b : List UInt8} (ha : a.length = 16) (hb : b.length = 16) {proto : Int} {ks : List Int} {n : Nat} {l : List UInt8} (hm : may6 sv dv proto ks n) (hl : l.length = n) {N : Nat} (hN : N = 40 + 8 * ks.length + n) :
    ip6v (built6 a b proto ks n l) N = (⟨true, a, b, proto, (40 + 8 * ks.length : Nat), (40 + (8 * ks.length + n) : Nat)⟩, ⟨0, 0, false⟩) := by
  have h := ip6v_built_more ha hb hm hl [] (N := N) (by simpa using hN)
  rw [List.append_nil] at h
  exact h
end Go.Proofs.YtceigepclemdmaaDoor
