/-
  Segments as values: what tcp's Parse answers, what Build answers. No conditions.
-/
import Derived.Test.YtioonjgamdompaaDoorBat
import Derived.Test.YtioonjgamdompaaDoorPut
import Derived.Test.YtioonjgamdompaaDoorTell
import Derived.Test.YtioonjgamdompaaDoorTot
namespace Go.Proofs.YtioonjgamdompaaDoor
open Go.RowKit
set_option maxRecDepth 100000

/-- A segment. -/
structure Sg where
  sp : Int
  dp : Int
  seq : Int
  ack : Int
  fl : Int
  pay : List UInt8
def Sg.zero : Sg := ⟨0, 0, 0, 0, 0, []⟩
/-- What Parse answers: the sum over the addresses, and the bytes. -/
def tcpv (o : Nat) (l : List UInt8) (n : Nat) : Sg × Fl :=
  if n < 20 then (.zero, ⟨3, 0, true⟩)
  else if bat l 12 / 16 < 5 ∨ n < 4 * (bat l 12 / 16) then (.zero, ⟨7, 12, true⟩)
  else if o ≠ 0 then (.zero, ⟨8, 16, true⟩)
  else (⟨num2 l 0, num2 l 2, num4 l 4, num4 l 8, (bat l 13 % 64 : Nat), l.drop (4 * (bat l 12 / 16))⟩, ⟨0, 0, false⟩)
/-- May that be built? -/
def mayT (s : Sg) : Prop := (0 ≤ s.sp ∧ s.sp ≤ 65535) ∧ (0 ≤ s.dp ∧ s.dp ≤ 65535) ∧ (0 ≤ s.fl ∧ s.fl ≤ 63) ∧ s.pay.length ≤ 65515
instance (s : Sg) : Decidable (mayT s) := by unfold mayT; infer_instance
/-- The head, with two bytes as its sum. -/
def tcpH (s : Sg) (x y : UInt8) : List UInt8 := putn s.sp 2 ++ putn s.dp 2 ++ putn s.seq 4 ++ putn s.ack 4 ++ [80, ub s.fl, 4, 0, x, y, 0, 0]
theorem tcpH_length (s : Sg) (x y : UInt8) : (tcpH s x y).length = 20 := by simp [tcpH, putn_length]
theorem tcpH_cons (s : Sg) (x y : UInt8) (r : List UInt8) : ∃ a0 a1 b0 b1 c0 c1 c2 c3 d0 d1 d2 d3, putn s.sp 2 = [a0, a1] ∧ putn s.dp 2 = [b0, b1] ∧ putn s.seq 4 = [c0, c1, c2, c3] ∧ putn s.ack 4 = [d0, d1, d2, d3] ∧
    tcpH s x y ++ r = a0 :: a1 :: b0 :: b1 :: c0 :: c1 :: c2 :: c3 :: d0 :: d1 :: d2 :: d3 :: 80 :: ub s.fl :: 4 :: 0 :: x :: y :: 0 :: 0 :: r :=
  ⟨_, _, _, _, _, _, _, _, _, _, _, _, rfl, rfl, rfl, rfl, rfl⟩
theorem tcpH_set (s : Sg) (x y u v : UInt8) (r : List UInt8) : (((tcpH s x y ++ r).set 16 u).set 17 v) = tcpH s u v ++ r := by
  obtain ⟨_, _, _, _, _, _, _, _, _, _, _, _, e1, e2, e3, e4, h⟩ := tcpH_cons s x y r
  rw [h]
  unfold tcpH
  rw [e1, e2, e3, e4]
  rfl
theorem be_put2 {v : Int} (h : 0 ≤ v ∧ v ≤ 65535) : (be (putn v 2) : Int) = v := by
  have h1 := byte_cell (v / 256)
  have h0 := byte_cell v
  have e1 : (2 : Int) ^ (8 * 1) = 256 := rfl
  have e0 : (2 : Int) ^ (8 * 0) = 1 := rfl
  simp only [putn, be, List.foldl_cons, List.foldl_nil, e1, e0, Int.ediv_one, Nat.zero_mul, Nat.zero_add, Int.natCast_add, Int.natCast_mul, h1, h0]
  omega
theorem be_put4 {v : Int} (h : 0 ≤ v ∧ v < 4294967296) : (be (putn v 4) : Int) = v := by
  have h3 := byte_cell (v / 16777216)
  have h2 := byte_cell (v / 65536)
  have h1 := byte_cell (v / 256)
  have h0 := byte_cell v
  have e3 : (2 : Int) ^ (8 * 3) = 16777216 := rfl
  have e2 : (2 : Int) ^ (8 * 2) = 65536 := rfl
  have e1 : (2 : Int) ^ (8 * 1) = 256 := rfl
  have e0 : (2 : Int) ^ (8 * 0) = 1 := rfl
  simp only [putn, be, List.foldl_cons, List.foldl_nil, e3, e2, e1, e0, Int.ediv_one, Nat.zero_mul, Nat.zero_add, Int.natCast_add, Int.natCast_mul, h3, h2, h1, h0]
  omega
/-- What is told of the head of what was built. -/
theorem tcpH_told {s : Sg} (hm : mayT s) (hq : 0 ≤ s.seq ∧ s.seq < 4294967296) (hk : 0 ≤ s.ack ∧ s.ack < 4294967296) (x y : UInt8) (r : List UInt8) :
    (num2 (tcpH s x y ++ r) 0 : Int) = s.sp ∧ (num2 (tcpH s x y ++ r) 2 : Int) = s.dp ∧ (num4 (tcpH s x y ++ r) 4 : Int) = s.seq ∧ (num4 (tcpH s x y ++ r) 8 : Int) = s.ack ∧ bat (tcpH s x y ++ r) 12 = 80 ∧ ((bat (tcpH s x y ++ r) 13 % 64 : Nat) : Int) = s.fl := by
  obtain ⟨h1, h2, h3, h4⟩ := hm
  refine ⟨?_, ?_, ?_, ?_, rfl, ?_⟩
  · exact (congrArg (fun l : List UInt8 => (be l : Int)) (show ((tcpH s x y ++ r).drop 0).take 2 = putn s.sp 2 from rfl)).trans (be_put2 h1)
  · exact (congrArg (fun l : List UInt8 => (be l : Int)) (show ((tcpH s x y ++ r).drop 2).take 2 = putn s.dp 2 from rfl)).trans (be_put2 h2)
  · exact (congrArg (fun l : List UInt8 => (be l : Int)) (show ((tcpH s x y ++ r).drop 4).take 4 = putn s.seq 4 from rfl)).trans (be_put4 hq)
  · exact (congrArg (fun l : List UInt8 => (be l : Int)) (show ((tcpH s x y ++ r).drop 8).take 4 = putn s.ack 4 from rfl)).trans (be_put4 hk)
  · have hb : bat (tcpH s x y ++ r) 13 = (ub s.fl).toNat := rfl
    have hu := ub_cell s.fl
    rw [hb]
    omega
/-- The sum of a segment whose own sum counts as 0. -/
def tcpK (ah : List UInt8) (s : Sg) : Nat := cks (ah ++ (tcpH s 0 0 ++ s.pay))
/-- What is built, behind what is thought ahead of it. -/
def tcpB (ah : List UInt8) (s : Sg) : List UInt8 := tcpH s (UInt8.ofNat (tcpK ah s / 256)) (UInt8.ofNat (tcpK ah s % 256)) ++ s.pay
theorem tcpB_length (ah : List UInt8) (s : Sg) : (tcpB ah s).length = 20 + s.pay.length := by unfold tcpB; rw [List.length_append, tcpH_length]
/-- Two bytes turned into a sum: then all is 0. -/
theorem cks_mend (ah l : List UInt8) (hev : ah.length % 2 = 0) (j : Nat) (hj : j % 2 = 0) (hjl : j + 1 < l.length) (k : Nat) (hk : cks (ah ++ ((l.set j 0).set (j + 1) 0)) = k) :
    cks (ah ++ ((l.set j (UInt8.ofNat (k / 256))).set (j + 1) (UInt8.ofNat (k % 256)))) = 0 := by
  have hk1 : k ≤ 65535 := by rw [← hk]; exact cks_le _
  have hx : (UInt8.ofNat (k / 256)).toNat = k / 256 := by simp only [UInt8.toNat_ofNat']; omega
  have hy : (UInt8.ofNat (k % 256)).toNat = k % 256 := by simp only [UInt8.toNat_ofNat']; omega
  obtain ⟨p, hp⟩ : ∃ p, l[j]? = some p := ⟨l[j]'(by omega), List.getElem?_eq_getElem _⟩
  obtain ⟨q, hq⟩ : ∃ q, l[j + 1]? = some q := ⟨l[j + 1]'(by omega), List.getElem?_eq_getElem _⟩
  have t0 := tot_set l j p q 0 0 hj hp hq
  have t1 := tot_set l j p q (UInt8.ofNat (k / 256)) (UInt8.ofNat (k % 256)) hj hp hq
  rw [cks_append _ _ hev] at hk ⊢
  rw [hx, hy] at t1
  have z0 : (0 : UInt8).toNat = 0 := rfl
  rw [z0] at t0
  have hk2 : k / 256 * 256 + k % 256 = k := by omega
  rw [hk2] at t1
  have hT : tot ah + tot ((l.set j (UInt8.ofNat (k / 256))).set (j + 1) (UInt8.ofNat (k % 256))) = (tot ah + tot ((l.set j 0).set (j + 1) 0)) + k := by omega
  rw [hT]
  have hf := fold_fold (tot ah + tot ((l.set j 0).set (j + 1) 0)) k
  have hle := fold_le (tot ah + tot ((l.set j 0).set (j + 1) 0))
  generalize fold (tot ah + tot ((l.set j 0).set (j + 1) 0)) = f at hk hf hle
  rw [← hf, show f + k = 65535 by omega]
  rfl
theorem tcpB_sum (ah : List UInt8) (hev : ah.length % 2 = 0) (s : Sg) : cks (ah ++ tcpB ah s) = 0 := by
  have h := cks_mend ah (tcpH s 0 0 ++ s.pay) hev 16 (by omega) (by rw [List.length_append, tcpH_length]; omega) (tcpK ah s) (by rw [tcpH_set]; rfl)
  rw [tcpH_set] at h
  exact h
/-- What is built, or put right, is parsed, if its sum over some addresses is so. -/
theorem tcpv_built {s : Sg} (hm : mayT s) (hq : 0 ≤ s.seq ∧ s.seq < 4294967296) (hk : 0 ≤ s.ack ∧ s.ack < 4294967296) (ah : List UInt8) (o : Nat) {n : Nat} (hn : n = 20 + s.pay.length) : tcpv o (tcpB ah s) n = if o ≠ 0 then (.zero, ⟨8, 16, true⟩) else (s, ⟨0, 0, false⟩) := by
  obtain ⟨h1, h2, h3, h4, h5, h6⟩ := tcpH_told hm hq hk (UInt8.ofNat (tcpK ah s / 256)) (UInt8.ofNat (tcpK ah s % 256)) s.pay
  unfold tcpv
  rw [if_neg (by omega), show bat (tcpB ah s) 12 = 80 from h5, if_neg (by omega)]
  split
  · rfl
  · have hd : (tcpB ah s).drop 20 = s.pay := by unfold tcpB; exact List.drop_left' (tcpH_length s _ _)
    have e1 : (num2 (tcpB ah s) 0 : Int) = s.sp := h1
    have e2 : (num2 (tcpB ah s) 2 : Int) = s.dp := h2
    have e3 : (num4 (tcpB ah s) 4 : Int) = s.seq := h3
    have e4 : (num4 (tcpB ah s) 8 : Int) = s.ack := h4
    have e6 : ((bat (tcpB ah s) 13 % 64 : Nat) : Int) = s.fl := h6
    rw [e1, e2, e3, e4, e6, show 4 * (80 / 16) = 20 from rfl, hd]
end Go.Proofs.YtioonjgamdompaaDoor
