/-
  Slices of bytes that read as a list, nil included, whatever the program. No conditions.
  A row of bytes of the call's own: kept, written at a place, copied into. No conditions.
-/
import Derived.Below
import Derived.Laws.OwnMore
import Derived.Deep.AppendLies
import Derived.Deep.Draws
import Derived.Laws.BytesArg
import Derived.Maps.AppendAt
import Derived.OwnWalk
import Derived.RowKit
import Derived.Lib.Hide
import Derived.Laws.CopyOwn
namespace Go.Proofs.YtoagfmonfgagbaaGreatDoor
open Go.RowKit

/-- The cells of some bytes. -/
def bv (l : List UInt8) : List Value := l.map fun x => .int .u8 x.toNat
theorem bv_length (l : List UInt8) : (bv l).length = l.length := by simp [bv]
theorem bv_append (l m : List UInt8) : bv (l ++ m) = bv l ++ bv m := by simp [bv]
theorem bv_get {l : List UInt8} {i : Nat} {u : Value} (h : (bv l)[i]? = some u) : ∃ x, l[i]? = some x ∧ u = .int .u8 x.toNat := by
  unfold bv at h
  rw [List.getElem?_map] at h
  cases hx : l[i]? with
  | none => rw [hx] at h; simp at h
  | some x => rw [hx] at h; exact ⟨x, rfl, by simpa using h.symm⟩
theorem bv_at {l : List UInt8} {i : Nat} {x : UInt8} (h : l[i]? = some x) : (bv l)[i]? = some (.int .u8 x.toNat) := by simp [bv, h]
theorem bv_set (l : List UInt8) (i : Nat) (x : UInt8) : (bv l).set i (.int .u8 x.toNat) = bv (l.set i x) := by simp [bv, List.map_set]
theorem bv_one (l : List UInt8) : ∀ u ∈ bv l, u.oneCell' = true := by
  intro u hu
  obtain ⟨x, _, rfl⟩ := List.mem_map.1 hu
  rfl

/-- A slice of bytes, nil included: what it reads. -/
structure Bs (w : World) (A : Option Addr) (n c : Nat) (l : List UInt8) : Prop where
  len : l.length = n
  cap : n ≤ c
  max : c ≤ maxLen
  none_ : A = none → c = 0
  here : 0 < n → ∃ b off, A = some ⟨b, off, none⟩ ∧ ∀ i x, l[i]? = some x → w.cell? ⟨b, off + i, none⟩ = some (.int .u8 x.toNat)

theorem lt_of_cell' {w : World} {a : Addr} {v : Value} (h : w.cell? a = some v) : a.block < w.heap.size := by
  rcases Nat.lt_or_ge a.block w.heap.size with h' | h'
  · exact h'
  · simp [World.cell?, Array.getElem?_eq_none h'] at h

theorem add_plain (b o i : Nat) : (⟨b, o, none⟩ : Addr).add i = ⟨b, o + i, none⟩ := by unfold Addr.add; split <;> simp_all

section
variable {w w' : World} {A : Option Addr} {n c : Nat} {l : List UInt8}
theorem Bs.nil (w : World) : Bs w none 0 0 [] := ⟨rfl, Nat.le_refl _, Nat.zero_le _, fun _ => rfl, fun h => absurd h (by omega)⟩
theorem Bs.empty (w : World) (A : Option Addr) {c : Nat} (hc : c ≤ maxLen) (hn : A = none → c = 0) : Bs w A 0 c [] := ⟨rfl, Nat.zero_le _, hc, hn, fun h => absurd h (by omega)⟩
theorem Bs.keep (h : Bs w A n c l) (hk : ∀ b o, b < w.heap.size → w'.cell? ⟨b, o, none⟩ = w.cell? ⟨b, o, none⟩) : Bs w' A n c l :=
  ⟨h.len, h.cap, h.max, h.none_, fun hn => by
    obtain ⟨b, off, hA, hc⟩ := h.here hn
    refine ⟨b, off, hA, fun i x hx => ?_⟩
    have h1 := hc i x hx
    rw [hk b _ (lt_of_cell' h1), h1]⟩
theorem Bs.later {B : Nat} (h : Bs w A n c l) (hb : Below B w w') (hB : w.heap.size ≤ B) : Bs w' A n c l :=
  h.keep fun b o hlt => hb.cell (p := ⟨b, o, none⟩) (by show b < B; omega)
theorem Bs.drewN (h : Bs w A n c l) (k : Nat) : Bs (w.drewN k) A n c l := ⟨h.len, h.cap, h.max, h.none_, h.here⟩
/-- A store elsewhere. -/
theorem Bs.far {b off : Nat} {p : Addr} (h : Bs w (some ⟨b, off, none⟩) n c l) (hp : p.block ≠ b) (v : Value) : Bs (w.setCell p v) (some ⟨b, off, none⟩) n c l :=
  ⟨h.len, h.cap, h.max, h.none_, fun hn => by
    obtain ⟨b', off', e0, hc⟩ := h.here hn
    cases e0
    exact ⟨b, off, rfl, fun i x hx => (World.cell?_of_block (w := w) (Below.heap_setCell w p v b (fun e => hp e.symm))).trans (hc i x hx)⟩⟩
/-- The address, the cell, where there is a byte. -/
theorem Bs.get {k : Nat} (h : Bs w A n c l) (hk : k < n) : ∃ b off, A = some ⟨b, off, none⟩ ∧ w.cell? ⟨b, off + k, none⟩ = some (.int .u8 (l[k]'(by have := h.len; omega)).toNat) := by
  obtain ⟨b, off, hA, hc⟩ := h.here (by omega)
  exact ⟨b, off, hA, hc k _ (List.getElem?_eq_getElem (by have := h.len; omega))⟩
theorem Bs.of_own {base : Nat} {e : TypeId} {v : Value} (h : w.ownsRow base e 1 v n (bv l)) : ∃ A c, v = .slice A n c ∧ Bs w A n c l := by
  have hl : l.length = n := by have := h.1; rw [bv_length] at this; omega
  rcases h.2 with ⟨rfl, rfl⟩ | ⟨g, cap, cur, rfl, hb, hh, hc, hm, _, _⟩
  · obtain rfl := List.eq_nil_of_length_eq_zero hl
    exact ⟨none, 0, rfl, Bs.nil w⟩
  · refine ⟨_, _, rfl, hl, hc, hm, (fun h => by cases h), fun hn => ⟨g, 0, rfl, fun i x hx => ?_⟩⟩
    have := h.cells (g := g) rfl i (.int .u8 x.toNat) (by unfold bv; rw [List.getElem?_map, hx]; rfl)
    rw [add_plain] at this
    exact this
/-- A part of a slice, as the model cuts it. -/
theorem Bs.cut (h : Bs w A n c l) {i k : Nat} (hi : i + k ≤ n) {A' : Option Addr} (hA : 0 < k → A' = A.map (fun a => a.add i)) (hn : A' = none → A = none) : Bs w A' k (c - i) ((l.drop i).take k) := by
  refine ⟨?_, ?_, ?_, fun h0 => by have := h.none_ (hn h0); omega, fun hk => ?_⟩
  · rw [List.length_take, List.length_drop, h.len]; omega
  · have := h.cap; omega
  · have := h.max; omega
  · obtain ⟨b, off, rfl, hc⟩ := h.here (by omega)
    refine ⟨b, off + i, by rw [hA hk]; simp [add_plain], fun j x hx => ?_⟩
    rw [List.getElem?_take] at hx
    split at hx
    · rw [List.getElem?_drop] at hx
      have := hc _ _ hx
      rw [Nat.add_assoc]
      exact this
    · cases hx
theorem Bs.empty_of {c' : Nat} (h : Bs w A 0 c l) (B : Option Addr) (hc : c' ≤ c) (hn : B = none → c' = 0) : Bs w B 0 c' l := ⟨h.len, Nat.zero_le _, Nat.le_trans hc h.max, hn, fun hn => absurd hn (by omega)⟩
/-- A row of a later base is one of an earlier one. -/
theorem owns_base {base base' : Nat} {e : TypeId} {size : Nat} {v : Value} {xs : List Value} (h : w.ownsRow base e size v n xs) (hb : base' ≤ base) : w.ownsRow base' e size v n xs := by
  refine ⟨h.1, ?_⟩
  rcases h.2 with h | ⟨g, cap, cur, e1, h1, h2⟩
  · exact .inl h
  · exact .inr ⟨g, cap, cur, e1, Nat.le_trans hb h1, h2⟩
theorem owns_n {base : Nat} {e : TypeId} {size n' : Nat} {v : Value} {xs : List Value} (hn : n = n') (h : w.ownsRow base e size v n xs) : w.ownsRow base e size v n' xs := hn ▸ h
theorem own_kept {base : Nat} {e : TypeId} {size : Nat} {v : Value} {xs : List Value} (h : w.ownsRow base e size v n xs) (hb : Below w.heap.size w w') : w'.ownsRow base e size v n xs :=
  World.ownsRow.kept (row := none) h ⟨hb.os, hb.tape, hb.output, hb.size, fun i hi _ => hb.block i hi⟩ (by cases v.ownBlock <;> simp)
/-- string(b) -/
theorem Bs.convert {P : Program} (h : Bs w A n c l) (src e dst : TypeId) (hs : P.underlying src = some (.slice e)) (he : P.underlying e = some (.int .u8)) (hd : P.underlying dst = some .string) :
    (convert src dst (.slice A n c)).run P w = .ok (.string ⟨l.toArray⟩) w := by
  have hl := h.len
  rcases Nat.eq_zero_or_pos n with hn | hn
  · subst hn
    obtain rfl := List.eq_nil_of_length_eq_zero hl
    rw [run_convert_bytes_string w src dst e A 0 c hs he hd]
    cases A with
    | none => simp [Conv.bytesToString]; rfl
    | some a =>
      rw [run_bytesToString w a 0 c [] (by simpa using run_loadCells_list (P := P) w a [] (by intro j v hj; simp at hj))]
      rfl
  · obtain ⟨b, off, rfl, hc⟩ := h.here hn
    have hlen : (l.map fun x => (x.toNat : Int)).length = n := by simpa using hl
    rw [run_convert_bytes_arg (P := P) w src e hs he b off n c (l.map fun x => (x.toNat : Int)) hlen (fun i hi => by
      have hli : i < l.length := by omega
      rw [hc i l[i] (List.getElem?_eq_getElem hli)]
      simp [List.getD, hli]) dst hd]
    congr 2
    unfold strOfNums
    rw [List.map_map]
    congr 2
    conv => rhs; rw [← List.map_id l]
    apply List.map_congr_left
    intro x _
    simp
end
end Go.Proofs.YtoagfmonfgagbaaGreatDoor

namespace Go.Proofs.YtoagfmonfgagbaaGreatDoor
open Go.RowKit
set_option maxRecDepth 100000

theorem own_same' {w w' : World} {base n size : Nat} {e : TypeId} {v : Value} {xs : List Value} (h : w.ownsRow base e size v n xs) (hh : ∀ k, base ≤ k → w'.heap[k]? = w.heap[k]?) : w'.ownsRow base e size v n xs := by
  refine ⟨h.1, ?_⟩
  rcases h.2 with h | ⟨g, cap, cur, e1, h1, h2, h3⟩
  · exact .inl h
  · exact .inr ⟨g, cap, cur, e1, h1, (hh g h1).trans h2, h3⟩
/-- What the call owns reads as it did, where no block of its is written. -/
theorem Bs.own_later {w w' : World} {base : Nat} {e : TypeId} {A : Option Addr} {n c : Nat} {l : List UInt8} (h : w.ownsRow base e 1 (.slice A n c) n (bv l)) (hh : ∀ k, base ≤ k → w'.heap[k]? = w.heap[k]?) : Bs w' A n c l := by
  obtain ⟨A', c', e1, hB⟩ := Bs.of_own (own_same' h hh)
  injection e1 with e1 _ e2
  subst e1 e2
  exact hB
/-- A byte stored. -/
theorem own_put {w w0 : World} {base n : Nat} {e : TypeId} {g cap : Nat} {l : List UInt8} (o : w.ownsRow base e 1 (.slice (some ⟨g, 0, none⟩) n cap) n (bv l)) {B : Nat} (hb : Below B w0 w) (hB : B ≤ base) (j : Nat) (u : Value) (x : UInt8) (hu : u = .int .u8 x.toNat) :
    (w.setCell ⟨g, j, none⟩ u).ownsRow base e 1 (.slice (some ⟨g, 0, none⟩) n cap) n (bv (l.set j x)) ∧ Below B w0 (w.setCell ⟨g, j, none⟩ u) := by
  subst hu
  have hg : base ≤ g := (o.lt g rfl).1
  have o1 := (o.stored j (.int .u8 x.toNat)).1
  rw [bv_set] at o1
  exact ⟨o1, hb.setCell (p := ⟨g, j, none⟩) (Nat.le_trans hB hg) _⟩
theorem own_cell {w : World} {base n : Nat} {e : TypeId} {g cap : Nat} {l : List UInt8} (o : w.ownsRow base e 1 (.slice (some ⟨g, 0, none⟩) n cap) n (bv l)) {j : Nat} (hj : j < n) : (∃ p : UInt8, l[j]? = some p ∧ w.cell? ⟨g, j, none⟩ = some (.int .u8 p.toNat)) ∧ w.frozen? ⟨g, j, none⟩ = false := by
  have hl : l.length = n := by have := o.1; rw [bv_length] at this; omega
  have hp : l[j]? = some (l[j]'(by omega)) := List.getElem?_eq_getElem (by omega)
  exact ⟨⟨_, hp, (o.cellAt j (by omega)).trans (bv_at hp)⟩, o.frozenAt j⟩
/-- Some bytes copied into the row, from a place on. -/
theorem wp_copy_own {P : Program} {o : Oper} {a : Act} {w : World} {K : Act → World → Prop} {Q : Exit → Act → World → Prop} (d s : Operand) (T : TypeId) (ho : o.op = .call { callee := .builtin .copy, args := #[d, s], argTypes := #[T, T] }) {e : TypeId} (hu : P.underlying T = some (.slice e)) (he : (P.info? e).map (·.size) = some 1)
    {base g N cap i : Nat} {xs : List UInt8} (o1 : w.ownsRow base e 1 (.slice (some ⟨g, 0, none⟩) N cap) N (bv xs)) {dl dc : Nat} (hd : a.eval d = .slice (some ⟨g, i, none⟩) dl dc) {A : Option Addr} {m c : Nat} {ys : List UInt8} (hs : a.eval s = .slice A m c) (hb : Bs w A m c ys) (hm : 0 < m) (hml : m ≤ dl) (hfit : i + m ≤ N)
    (h : ∀ w', w'.ownsRow base e 1 (.slice (some ⟨g, 0, none⟩) N cap) N (bv (xs.take i ++ (ys ++ xs.drop (i + m)))) → (∀ k, k ≠ g → w'.heap[k]? = w.heap[k]?) → (∀ B w0, B ≤ base → Below B w0 w → Below B w0 w') → K (a.put o.dst (goInt m)) w') : o.wp P a w K Q := by
  obtain ⟨b, off, rfl, hc⟩ := hb.here hm
  have hxl : xs.length = N := by have := o1.1; rw [bv_length] at this; omega
  obtain ⟨g', cap', cur, e1, h1, h2, h3, h4, h5, h6⟩ : ∃ (g' cap' : Nat) (cur : Array Value), Value.slice (some ⟨g, 0, none⟩) N cap = .slice (some ⟨g', 0, none⟩) N cap' ∧ base ≤ g' ∧ w.heap[g']? = some (.cells cur e (0, 0)) ∧ N ≤ cap' ∧ cap' ≤ maxLen ∧ cur.size = cap' * 1 ∧ cur.toList.take (N * 1) = bv xs := by
    rcases o1.2 with ⟨h, _⟩ | h
    · cases h
    · exact h
  injection e1 with e1 _ e2
  injection e1 with e1
  injection e1 with e1
  subst e1 e2
  rw [Nat.mul_one] at h5 h6
  have hlen : (bv ys).length = m := by rw [bv_length, hb.len]
  have hrun := run_copy_row (P := P) w T T o.type e g i dl dc ⟨b, off, none⟩ m c cur e (bv ys) hu he h2 (by rw [hlen]; exact (Nat.min_eq_left hml).symm) (fun j u hj => by
    obtain ⟨y, hy, rfl⟩ := bv_get hj
    rw [add_plain]; exact hc j y hy) (by rw [hlen]; omega) (bv_one _)
  rw [hlen] at hrun
  unfold Oper.wp execOp
  simp only [ho, resolve, invoke, builtin, Sem.run_bind, Sem.run_pure, Result.andThen_ok, List.map_toArray, List.map_cons, List.map_nil, hd, hs, hrun]
  have hcl : cur.toList.length = cap := by rw [Array.length_toList, h5]
  refine h _ ⟨?_, .inr ⟨g, cap, _, rfl, h1, setRow_heap w g cur _ e _ h2, h3, h4, ?_, ?_⟩⟩ (fun k hk => setRow_other w g k _ hk) (fun B w0 hB hb => below_setRow hb (Nat.le_trans hB h1) _)
  · rw [bv_length, List.length_append, List.length_append, List.length_take, List.length_drop, hb.len]; omega
  · simp only [List.size_toArray, List.length_append, List.length_take, List.length_drop, hcl, hlen]; omega
  · have e1 : cur.toList = bv xs ++ cur.toList.drop N := by rw [← h6, List.take_append_drop]
    rw [Nat.mul_one]
    rw [List.append_assoc]
    show (cur.toList.take i ++ (bv ys ++ cur.toList.drop (i + m))).take N = _
    have e2 : cur.toList.take i = bv (xs.take i) := by
      rw [e1, List.take_append_of_le_length (by rw [bv_length]; omega)]
      simp [bv, List.map_take]
    have e3 : cur.toList.drop (i + m) = bv (xs.drop (i + m)) ++ cur.toList.drop N := by
      rw [e1, List.drop_append_of_le_length (by rw [bv_length]; omega), ← e1]
      simp [bv, List.map_drop]
    rw [e2, e3, ← List.append_assoc, ← List.append_assoc, ← bv_append, ← bv_append]
    have hl2 : (bv (xs.take i ++ ys ++ xs.drop (i + m))).length = N := by rw [bv_length, List.length_append, List.length_append, List.length_take, List.length_drop, hb.len]; omega
    rw [← List.append_assoc, List.take_left' hl2]
end Go.Proofs.YtoagfmonfgagbaaGreatDoor
