/-
  Segments put right; with options, with another length of the head. No conditions.
-/
import Derived.Test.YtioonjgamdompaaDoorSpec8
namespace Go.Proofs.YtioonjgamdompaaDoor
open Go.RowKit
set_option maxRecDepth 100000

theorem num4_bat {l : List UInt8} {i : Nat} (h : i + 4 ≤ l.length) : num4 l i = ((bat l i * 256 + bat l (i + 1)) * 256 + bat l (i + 2)) * 256 + bat l (i + 3) := by
  obtain ⟨x, hx⟩ : ∃ x, l[i]? = some x := ⟨l[i]'(by omega), List.getElem?_eq_getElem _⟩
  obtain ⟨y, hy⟩ : ∃ y, l[i + 1]? = some y := ⟨l[i + 1]'(by omega), List.getElem?_eq_getElem _⟩
  obtain ⟨u, hu⟩ : ∃ u, l[i + 2]? = some u := ⟨l[i + 2]'(by omega), List.getElem?_eq_getElem _⟩
  obtain ⟨v, hv⟩ : ∃ v, l[i + 3]? = some v := ⟨l[i + 3]'(by omega), List.getElem?_eq_getElem _⟩
  rw [bat_get hx, bat_get hy, bat_get hu, bat_get hv]
  unfold num4
  have h1 : l.drop i = x :: y :: u :: v :: l.drop (i + 4) := by
    rw [List.drop_eq_getElem_cons (by omega : i < l.length), List.drop_eq_getElem_cons (by omega : i + 1 < l.length), List.drop_eq_getElem_cons (by omega : i + 2 < l.length), List.drop_eq_getElem_cons (by omega : i + 3 < l.length)]
    rw [List.getElem?_eq_getElem (by omega : i < l.length)] at hx
    rw [List.getElem?_eq_getElem (by omega : i + 1 < l.length)] at hy
    rw [List.getElem?_eq_getElem (by omega : i + 2 < l.length)] at hu
    rw [List.getElem?_eq_getElem (by omega : i + 3 < l.length)] at hv
    rw [Option.some.inj hx, Option.some.inj hy, Option.some.inj hu, Option.some.inj hv]
  rw [h1]
  simp [be]
/-- Two bytes put right. -/
def mendAt (ah l : List UInt8) (j : Nat) : List UInt8 :=
  (l.set j (UInt8.ofNat (cks (ah ++ ((l.set j 0).set (j + 1) 0)) / 256))).set (j + 1) (UInt8.ofNat (cks (ah ++ ((l.set j 0).set (j + 1) 0)) % 256))
theorem mendAt_length (ah l : List UInt8) (j : Nat) : (mendAt ah l j).length = l.length := by unfold mendAt; rw [List.length_set, List.length_set]
theorem mendAt_sum (ah l : List UInt8) (hev : ah.length % 2 = 0) (j : Nat) (hj : j % 2 = 0) (hjl : j + 1 < l.length) : cks (ah ++ mendAt ah l j) = 0 := cks_mend ah l hev j hj hjl _ rfl
theorem mendAt_bat (ah l : List UInt8) {j k : Nat} (h1 : j ≠ k) (h2 : j + 1 ≠ k) : bat (mendAt ah l j) k = bat l k := by unfold mendAt; rw [bat_ne _ h2, bat_ne _ h1]
theorem mendAt_drop (ah l : List UInt8) {j k : Nat} (h : j + 1 < k) : (mendAt ah l j).drop k = l.drop k := by
  unfold mendAt
  rw [List.drop_set_of_lt (by omega), List.drop_set_of_lt (by omega)]
/-- What is told of a head, by its bytes. -/
theorem head_same {l y : List UInt8} (hl : 20 ≤ l.length) (hy : 20 ≤ y.length) (h : ∀ j, j < 12 ∨ j = 13 → bat y j = bat l j) :
    num2 y 0 = num2 l 0 ∧ num2 y 2 = num2 l 2 ∧ num4 y 4 = num4 l 4 ∧ num4 y 8 = num4 l 8 ∧ bat y 13 = bat l 13 := by
  refine ⟨?_, ?_, ?_, ?_, h 13 (.inr rfl)⟩
  · rw [num2_bat (by omega), num2_bat (by omega), h 0 (by omega), h (0 + 1) (by omega)]
  · rw [num2_bat (by omega), num2_bat (by omega), h 2 (by omega), h (2 + 1) (by omega)]
  · rw [num4_bat (by omega), num4_bat (by omega), h 4 (by omega), h (4 + 1) (by omega), h (4 + 2) (by omega), h (4 + 3) (by omega)]
  · rw [num4_bat (by omega), num4_bat (by omega), h 8 (by omega), h (8 + 1) (by omega), h (8 + 2) (by omega), h (8 + 3) (by omega)]
/-- With options behind its head, its length and its sum put right. -/
theorem tcpv_opts {s : Sg} (hm : mayT s) (hq : 0 ≤ s.seq ∧ s.seq < 4294967296) (hk : 0 ≤ s.ack ∧ s.ack < 4294967296) (ah ah' : List UInt8) {f : Nat} (hf : 1 ≤ f ∧ f ≤ 10) {v : UInt8} (hv : v.toNat = 16 * (5 + f)) {y0 : List UInt8} (hy0 : y0 = (tcpB ah s).take 20 ++ List.replicate (4 * f) 0 ++ (tcpB ah s).drop 20) {N : Nat} (hN : N = 20 + 4 * f + s.pay.length) :
    tcpv 0 (mendAt ah' (y0.set 12 v) 16) N = (s, ⟨0, 0, false⟩) := by
  have hBl := tcpB_length ah s
  have ht : ((tcpB ah s).take 20).length = 20 := by rw [List.length_take]; omega
  have hyl : y0.length = N := by rw [hy0, List.length_append, List.length_append, ht, List.length_replicate, List.length_drop]; omega
  have hlow : ∀ j, j < 20 → bat y0 j = bat (tcpB ah s) j := fun j hj => by
    unfold bat List.getD
    rw [hy0, List.append_assoc, List.getElem?_append_left (by omega), List.getElem?_take, if_pos hj]
  obtain ⟨e0, e2, e4, e8, e13⟩ := head_same (l := tcpB ah s) (y := mendAt ah' (y0.set 12 v) 16) (by omega) (by rw [mendAt_length, List.length_set]; omega) (fun j hj => by rw [mendAt_bat _ _ (by omega) (by omega), bat_ne v (by omega), hlow j (by omega)])
  have e12 : bat (mendAt ah' (y0.set 12 v) 16) 12 = 16 * (5 + f) := by rw [mendAt_bat _ _ (by omega) (by omega), bat_same v (by omega), hv]
  obtain ⟨h1, h2, h3, h4, h5, h6⟩ := tcpH_told hm hq hk (UInt8.ofNat (tcpK ah s / 256)) (UInt8.ofNat (tcpK ah s % 256)) s.pay
  have g1 : (num2 (tcpB ah s) 0 : Int) = s.sp := h1
  have g2 : (num2 (tcpB ah s) 2 : Int) = s.dp := h2
  have g3 : (num4 (tcpB ah s) 4 : Int) = s.seq := h3
  have g4 : (num4 (tcpB ah s) 8 : Int) = s.ack := h4
  have g6 : ((bat (tcpB ah s) 13 % 64 : Nat) : Int) = s.fl := h6
  have hdiv : 16 * (5 + f) / 16 = 5 + f := by omega
  have hd : (mendAt ah' (y0.set 12 v) 16).drop (4 * (5 + f)) = s.pay := by
    rw [mendAt_drop _ _ (by omega), List.drop_set_of_lt (by omega), hy0, List.drop_left' (by rw [List.length_append, ht, List.length_replicate]; omega)]
    unfold tcpB
    exact List.drop_left' (tcpH_length s _ _)
  unfold tcpv
  rw [if_neg (by omega), e12, hdiv, if_neg (by omega), if_neg (fun h => h rfl), e0, e2, e4, e8, e13, g1, g2, g3, g4, g6, hd]
/-- With another length of the head, its sum put right. -/
theorem tcpv_other {s : Sg} (ah ah' : List UInt8) {f : Nat} {v : UInt8} (hv : v.toNat = 16 * f) {N : Nat} (hN : N = 20 + s.pay.length) :
    (tcpv 0 (mendAt ah' ((tcpB ah s).set 12 v) 16) N).2 = if f < 5 ∨ N < 4 * f then ⟨7, 12, true⟩ else ⟨0, 0, false⟩ := by
  have hBl := tcpB_length ah s
  have e12 : bat (mendAt ah' ((tcpB ah s).set 12 v) 16) 12 = 16 * f := by rw [mendAt_bat _ _ (by omega) (by omega), bat_same v (by omega), hv]
  have hdiv : 16 * f / 16 = f := by omega
  unfold tcpv
  rw [if_neg (by omega), e12, hdiv]
  by_cases h : f < 5 ∨ N < 4 * f
  · rw [if_pos h, if_pos h]
  · rw [if_neg h, if_neg h, if_neg (fun h => h rfl)]
end Go.Proofs.YtioonjgamdompaaDoor
