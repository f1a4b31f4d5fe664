/-
  Packets of version 6 as values: what Parse answers, what Build answers. No conditions.
-/
import Derived.Test.YtceigepclemdmaaDoorOctE
import Derived.Test.YtceigepclemdmaaDoorPut
namespace Go.Proofs.YtceigepclemdmaaDoor
open Go.RowKit

/-- The byte at a place. -/
def bat (l : List UInt8) (i : Nat) : Nat := (l.getD i 0).toNat
theorem bat_lt (l : List UInt8) (i : Nat) : bat l i < 256 := (l.getD i 0).toNat_lt
theorem bat_take {l : List UInt8} {t i : Nat} (h : i < t) : bat (l.take t) i = bat l i := by unfold bat List.getD; rw [List.getElem?_take, if_pos h]
theorem bat_drop (l : List UInt8) (k i : Nat) : bat (l.drop k) i = bat l (k + i) := by unfold bat List.getD; rw [List.getElem?_drop]
theorem bat_get {l : List UInt8} {i : Nat} {x : UInt8} (h : l[i]? = some x) : bat l i = x.toNat := by unfold bat List.getD; rw [h]; rfl
/-- A kind of a head. -/
def ext (k : Int) : Prop := k = 0 ∨ k = 43 ∨ k = 60 ∨ k = 44
instance (k : Int) : Decidable (ext k) := by unfold ext; infer_instance
/-- The number of two bytes at a place. -/
def num2 (l : List UInt8) (i : Nat) : Nat := be ((l.drop i).take 2)
/-- A part of a packet. -/
def fragv (l : List UInt8) (i : Nat) : Prop := ¬ bits .and .i64 (num2 l (i + 2)) 65529 = 0
instance (l : List UInt8) (i : Nat) : Decidable (fragv l i) := by unfold fragv; infer_instance
/-- How long the head at a place is. -/
def hsz (l : List UInt8) (kind : Int) (i : Nat) : Nat := if kind = 44 then 8 else 8 + 8 * bat l (i + 1)
/-- What is wrong with the head at a place. -/
def stepv (l : List UInt8) (to : Nat) (kind : Int) (i : Nat) : Fl :=
  if to < i + 8 ∨ to < i + hsz l kind i then ⟨3, i, true⟩ else if kind = 44 ∧ fragv l i then ⟨9, i, true⟩ else ⟨0, 0, false⟩
/-- The kind behind all heads, its place, with so many heads left. -/
def walk (l : List UInt8) (to : Nat) : Nat → Int → Nat → Int × Nat × Fl
  | 0, kind, i => if ext kind then (0, 0, ⟨if kind = 0 then 10 else 11, i, true⟩) else (kind, i, ⟨0, 0, false⟩)
  | t + 1, kind, i => if ext kind then (if kind = 0 ∧ t ≠ 7 then (0, 0, ⟨10, i, true⟩) else if (stepv l to kind i).code ≠ 0 then (0, 0, stepv l to kind i) else walk l to t (bat l i) (i + hsz l kind i)) else (kind, i, ⟨0, 0, false⟩)
structure Hd where
  v6 : Bool
  src : List UInt8
  dst : List UInt8
  proto : Int
  from_ : Int
  to : Int
def z16' : List UInt8 := List.replicate 16 0
def Hd.zero : Hd := ⟨false, z16', z16', 0, 0, 0⟩
def Hd.ok (h : Hd) : Prop := h.src.length = 16 ∧ h.dst.length = 16
/-- What Parse answers. -/
def ip6v (l : List UInt8) (n : Nat) : Hd × Fl :=
  if n < 40 then (.zero, ⟨3, 0, true⟩)
  else if ¬ bat l 0 / 16 = 6 then (.zero, ⟨6, 0, true⟩)
  else if n < 40 + num2 l 4 then (.zero, ⟨7, 4, true⟩)
  else if (walk l (40 + num2 l 4) 8 (bat l 6) 40).2.2.code ≠ 0 then (.zero, (walk l (40 + num2 l 4) 8 (bat l 6) 40).2.2)
  else (⟨true, (l.drop 8).take 16, (l.drop 24).take 16, (walk l (40 + num2 l 4) 8 (bat l 6) 40).1, (walk l (40 + num2 l 4) 8 (bat l 6) 40).2.1, (40 + num2 l 4 : Nat)⟩, ⟨0, 0, false⟩)
theorem ip6v_ok {l : List UInt8} {n : Nat} (hl : l.length = n) : (ip6v l n).1.ok := by
  unfold ip6v
  split
  · exact ⟨rfl, rfl⟩
  split
  · exact ⟨rfl, rfl⟩
  split
  · exact ⟨rfl, rfl⟩
  split
  · exact ⟨rfl, rfl⟩
  · constructor
    · show ((l.drop 8).take 16).length = 16
      rw [List.length_take, List.length_drop]; omega
    · show ((l.drop 24).take 16).length = 16
      rw [List.length_take, List.length_drop]; omega

theorem num2_lt (l : List UInt8) (i : Nat) : num2 l i < 65536 := by
  unfold num2
  match (l.drop i).take 2, List.length_take_le 2 (l.drop i) with
  | [], _ => simp [be]
  | [a], _ => have := a.toNat_lt; simp [be]; omega
  | [a, b], _ => have := a.toNat_lt; have := b.toNat_lt; simp [be]; omega
  | a :: b :: c :: r, h => simp at h
theorem num2_take {l : List UInt8} {t i : Nat} (h : i + 2 ≤ t) : num2 (l.take t) i = num2 l i := by
  unfold num2
  rw [List.drop_take, List.take_take, Nat.min_eq_left (by omega)]
theorem num2_drop (l : List UInt8) (k i : Nat) : num2 (l.drop k) i = num2 l (k + i) := by unfold num2; rw [List.drop_drop]

/-- So many heads in a row, each of which fits: the walk goes on behind them. -/
theorem walk_on {l : List UInt8} {to : Nat} (K : Nat → Int) (m : Nat) (hm : m ≤ 8) (hstep : ∀ i, i < m → ext (K i) ∧ (K i = 0 → i = 0) ∧ hsz l (K i) (40 + 8 * i) = 8 ∧ ¬ (K i = 44 ∧ fragv l (40 + 8 * i)) ∧ 48 + 8 * i ≤ to ∧ (bat l (40 + 8 * i) : Int) = K (i + 1)) :
    walk l to 8 (K 0) 40 = walk l to (8 - m) (K m) (40 + 8 * m) := by
  induction m with
  | zero => rfl
  | succ m ih =>
    rw [ih (by omega) (fun i hi => hstep i (by omega))]
    obtain ⟨h1, h2, h3, h4, h5, h6⟩ := hstep m (by omega)
    have hs : stepv l to (K m) (40 + 8 * m) = ⟨0, 0, false⟩ := by
      unfold stepv
      rw [if_neg (by rw [h3]; omega), if_neg h4]
    rw [show 8 - m = (8 - (m + 1)) + 1 by omega]
    show (if _ then _ else _) = _
    rw [if_pos h1, if_neg (by intro h; have := h2 h.1; omega), hs, if_neg (by simp), h3, h6, show 40 + 8 * m + 8 = 40 + 8 * (m + 1) by omega]
theorem walk_end {l : List UInt8} {to i t : Nat} {k : Int} (h : ¬ ext k) : walk l to t k i = (k, i, ⟨0, 0, false⟩) := by
  cases t <;> (show (if _ then _ else _) = _) <;> rw [if_neg h]
theorem walk_order {l : List UInt8} {to i t : Nat} (h : t ≠ 8) : walk l to t 0 i = (0, 0, ⟨10, i, true⟩) := by
  cases t with
  | zero => show (if _ then _ else _) = _; rw [if_pos (show ext 0 from .inl rfl)]; rfl
  | succ t => show (if _ then _ else _) = _; rw [if_pos (show ext 0 from .inl rfl), if_pos ⟨rfl, by omega⟩]
theorem walk_deep {l : List UInt8} {to i : Nat} {k : Int} (h : ext k) (h0 : k ≠ 0) : walk l to 0 k i = (0, 0, ⟨11, i, true⟩) := by
  show (if _ then _ else _) = _
  rw [if_pos h, if_neg h0]
theorem walk_bad {l : List UInt8} {to i t : Nat} {k : Int} (h : ext k) (h0 : k = 0 → t = 7) (hs : (stepv l to k i).code ≠ 0) : walk l to (t + 1) k i = (0, 0, stepv l to k i) := by
  show (if _ then _ else _) = _
  rw [if_pos h, if_neg (fun h => h.2 (h0 h.1)), if_pos hs]
theorem walk_step {l : List UInt8} {to i t : Nat} {k : Int} (h : ext k) (h0 : k = 0 → t = 7) (hs : (stepv l to k i).code = 0) : walk l to (t + 1) k i = walk l to t (bat l i) (i + hsz l k i) := by
  show (if _ then _ else _) = _
  rw [if_pos h, if_neg (fun h => h.2 (h0 h.1)), if_neg (fun h => h hs)]

/-- The byte of a number. -/
def ub (z : Int) : UInt8 := UInt8.ofNat (z % 256).toNat
theorem ub_cell (z : Int) : ((ub z).toNat : Int) = z % 256 := byte_cell z
/-- May that be built? -/
def may6 (sv dv : Bool) (proto : Int) (ks : List Int) (n : Nat) : Prop :=
  sv = true ∧ dv = true ∧ (0 ≤ proto ∧ proto ≤ 255) ∧ ¬ ext proto ∧ ks.length ≤ 8 ∧ (∀ (i : Nat) (k : Int), ks[i]? = some k → ext k ∧ (k = 0 → i = 0)) ∧ 8 * ks.length + n ≤ 65535
/-- Heads, each by the kind of the next one. -/
def headsv (ks : List Int) : List UInt8 := ks.flatMap fun k => ub k :: List.replicate 7 0
theorem headsv_length (ks : List Int) : (headsv ks).length = 8 * ks.length := by
  induction ks with
  | nil => rfl
  | cons k ks ih => rw [show headsv (k :: ks) = (ub k :: List.replicate 7 0) ++ headsv ks from rfl, List.length_append, ih]; simp; omega
theorem headsv_take {ks : List Int} {k : Nat} {z : Int} (h : ks[k]? = some z) : headsv (ks.take (k + 1)) = headsv (ks.take k) ++ (ub z :: List.replicate 7 0) := by
  rw [List.take_add_one, h]; simp [headsv, List.flatMap_append]
/-- The first kind of some, behind them one. -/
def firstk (ks : List Int) (p : Int) : Int := (ks ++ [p]).getD 0 0
/-- What is built. -/
def first40 (a b : List UInt8) (proto : Int) (ks : List Int) (n : Nat) : List UInt8 := [96, 0, 0, 0] ++ putn ((8 * ks.length + n : Nat) : Int) 2 ++ [ub (firstk ks proto), 64] ++ a ++ b
def built6 (a b : List UInt8) (proto : Int) (ks : List Int) (n : Nat) (l : List UInt8) : List UInt8 := first40 a b proto ks n ++ headsv ((ks ++ [proto]).drop 1) ++ l
end Go.Proofs.YtceigepclemdmaaDoor
