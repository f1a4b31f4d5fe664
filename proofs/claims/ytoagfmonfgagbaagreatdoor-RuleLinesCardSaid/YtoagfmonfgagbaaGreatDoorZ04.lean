/-
  
-/
import Derived.Below
import Derived.Laws.OwnMore
import Derived.Deep.AppendLies
import Derived.Deep.Draws
import Derived.Laws.BytesArg
import Derived.Maps.AppendAt
import Derived.OwnWalk
import Derived.RowKit
import Derived.Lib.Hide
namespace Go.Proofs.YtoagfmonfgagbaaGreatDoor
open Go.RowKit
def bv (l : List UInt8) : List Value := l.map fun x => .int .u8 x.toNat
theorem bv_length (l : List UInt8) : (bv l).length = l.length := by simp [bv]
theorem bv_append (l m : List UInt8) : bv (l ++ m) = bv l ++ bv m := by simp [bv]
theorem bv_get {l : List UInt8} {i : Nat} {u : Value} (h : (bv l)[i]? = some u) : ∃ x, l[i]? = some x ∧ u = .int .u8 x.toNat := by
  unfold bv at h
  rw [List.getElem?_map] at h
  cases hx : l[i]? with
  | none => rw [hx] at h; simp at h
  | some x => rw [hx] at h; exact ⟨x, rfl, by simpa using h.symm⟩
theorem bv_at {l : List UInt8} {i : Nat} {x : UInt8} (h : l[i]? = some x) : (bv l)[i]? = some (.int .u8 x.toNat) := by simp [bv, h]
theorem bv_set (l : List UInt8) (i : Nat) (x : UInt8) : (bv l).set i (.int .u8 x.toNat) = bv (l.set i x) := by simp [bv, List.map_set]
theorem bv_one (l : List UInt8) : ∀ u ∈ bv l, u.oneCell' = true := by
  intro u hu
  obtain ⟨x, _, rfl⟩ := List.mem_map.1 hu
  rfl
structure Bs (w : World) (A : Option Addr) (n c : Nat) (l : List UInt8) : Prop where
  len : l.length = n
  cap : n ≤ c
  max : c ≤ maxLen
  none_ : A = none → c = 0
  here : 0 < n → ∃ b off, A = some ⟨b, off, none⟩ ∧ ∀ i x, l[i]? = some x → w.cell? ⟨b, off + i, none⟩ = some (.int .u8 x.toNat)
theorem lt_of_cell' {w : World} {a : Addr} {v : Value} (h : w.cell? a = some v) : a.block < w.heap.size := by
  rcases Nat.lt_or_ge a.block w.heap.size with h' | h'
  · exact h'
  · simp [World.cell?, Array.getElem?_eq_none h'] at h
theorem add_plain (b o i : Nat) : (⟨b, o, none⟩ : Addr).add i = ⟨b, o + i, none⟩ := by unfold Addr.add; split <;> simp_all
section
variable {w w' : World} {A : Option Addr} {n c : Nat} {l : List UInt8}
theorem Bs.nil (w : World) : Bs w none 0 0 [] := ⟨rfl, Nat.le_refl _, Nat.zero_le _, fun _ => rfl, fun h => absurd h (by omega)⟩
theorem Bs.empty (w : World) (A : Option Addr) {c : Nat} (hc : c ≤ maxLen) (hn : A = none → c = 0) : Bs w A 0 c [] := ⟨rfl, Nat.zero_le _, hc, hn, fun h => absurd h (by omega)⟩
theorem Bs.keep (h : Bs w A n c l) (hk : ∀ b o, b < w.heap.size → w'.cell? ⟨b, o, none⟩ = w.cell? ⟨b, o, none⟩) : Bs w' A n c l :=
  ⟨h.len, h.cap, h.max, h.none_, fun hn => by
    obtain ⟨b, off, hA, hc⟩ := h.here hn
    refine ⟨b, off, hA, fun i x hx => ?_⟩
    have h1 := hc i x hx
    rw [hk b _ (lt_of_cell' h1), h1]⟩
theorem Bs.later {B : Nat} (h : Bs w A n c l) (hb : Below B w w') (hB : w.heap.size ≤ B) : Bs w' A n c l :=
  h.keep fun b o hlt => hb.cell (p := ⟨b, o, none⟩) (by show b < B; omega)
theorem Bs.drewN (h : Bs w A n c l) (k : Nat) : Bs (w.drewN k) A n c l := ⟨h.len, h.cap, h.max, h.none_, h.here⟩
theorem Bs.far {b off : Nat} {p : Addr} (h : Bs w (some ⟨b, off, none⟩) n c l) (hp : p.block ≠ b) (v : Value) : Bs (w.setCell p v) (some ⟨b, off, none⟩) n c l :=
  ⟨h.len, h.cap, h.max, h.none_, fun hn => by
    obtain ⟨b', off', e0, hc⟩ := h.here hn
    cases e0
    exact ⟨b, off, rfl, fun i x hx => (World.cell?_of_block (w := w) (Below.heap_setCell w p v b (fun e => hp e.symm))).trans (hc i x hx)⟩⟩
theorem Bs.get {k : Nat} (h : Bs w A n c l) (hk : k < n) : ∃ b off, A = some ⟨b, off, none⟩ ∧ w.cell? ⟨b, off + k, none⟩ = some (.int .u8 (l[k]'(by have := h.len; omega)).toNat) := by
  obtain ⟨b, off, hA, hc⟩ := h.here (by omega)
  exact ⟨b, off, hA, hc k _ (List.getElem?_eq_getElem (by have := h.len; omega))⟩
theorem Bs.of_own {base : Nat} {e : TypeId} {v : Value} (h : w.ownsRow base e 1 v n (bv l)) : ∃ A c, v = .slice A n c ∧ Bs w A n c l := by
  have hl : l.length = n := by have := h.1; rw [bv_length] at this; omega
  rcases h.2 with ⟨rfl, rfl⟩ | ⟨g, cap, cur, rfl, hb, hh, hc, hm, _, _⟩
  · obtain rfl := List.eq_nil_of_length_eq_zero hl
    exact ⟨none, 0, rfl, Bs.nil w⟩
  · refine ⟨_, _, rfl, hl, hc, hm, (fun h => by cases h), fun hn => ⟨g, 0, rfl, fun i x hx => ?_⟩⟩
    have := h.cells (g := g) rfl i (.int .u8 x.toNat) (by unfold bv; rw [List.getElem?_map, hx]; rfl)
    rw [add_plain] at this
    exact this
theorem Bs.cut (h : Bs w A n c l) {i k : Nat} (hi : i + k ≤ n) {A' : Option Addr} (hA : 0 < k → A' = A.map (fun a => a.add i)) (hn : A' = none → A = none) : Bs w A' k (c - i) ((l.drop i).take k) := by
  refine ⟨?_, ?_, ?_, fun h0 => by have := h.none_ (hn h0); omega, fun hk => ?_⟩
  · rw [List.length_take, List.length_drop, h.len]; omega
  · have := h.cap; omega
  · have := h.max; omega
  · obtain ⟨b, off, rfl, hc⟩ := h.here (by omega)
    refine ⟨b, off + i, by rw [hA hk]; simp [add_plain], fun j x hx => ?_⟩
    rw [List.getElem?_take] at hx
    split at hx
    · rw [List.getElem?_drop] at hx
      have := hc _ _ hx
      rw [Nat.add_assoc]
      exact this
    · cases hx
theorem owns_base {base base' : Nat} {e : TypeId} {size : Nat} {v : Value} {xs : List Value} (h : w.ownsRow base e size v n xs) (hb : base' ≤ base) : w.ownsRow base' e size v n xs := by
  refine ⟨h.1, ?_⟩
  rcases h.2 with h | ⟨g, cap, cur, e1, h1, h2⟩
  · exact .inl h
  · exact .inr ⟨g, cap, cur, e1, Nat.le_trans hb h1, h2⟩
theorem own_kept {base : Nat} {e : TypeId} {size : Nat} {v : Value} {xs : List Value} (h : w.ownsRow base e size v n xs) (hb : Below w.heap.size w w') : w'.ownsRow base e size v n xs :=
  World.ownsRow.kept (row := none) h ⟨hb.os, hb.tape, hb.output, hb.size, fun i hi _ => hb.block i hi⟩ (by cases v.ownBlock <;> simp)
theorem Bs.convert {P : Program} (h : Bs w A n c l) (src e dst : TypeId) (hs : P.underlying src = some (.slice e)) (he : P.underlying e = some (.int .u8)) (hd : P.underlying dst = some .string) :
    (convert src dst (.slice A n c)).run P w = .ok (.string ⟨l.toArray⟩) w := by
  have hl := h.len
  rcases Nat.eq_zero_or_pos n with hn | hn
  · subst hn
    obtain rfl := List.eq_nil_of_length_eq_zero hl
    rw [run_convert_bytes_string w src dst e A 0 c hs he hd]
    cases A with
    | none => simp [Conv.bytesToString]; rfl
    | some a =>
      rw [run_bytesToString w a 0 c [] (by simpa using run_loadCells_list (P := P) w a [] (by intro j v hj; simp at hj))]
      rfl
  · obtain ⟨b, off, rfl, hc⟩ := h.here hn
    have hlen : (l.map fun x => (x.toNat : Int)).length = n := by simpa using hl
    rw [run_convert_bytes_arg (P := P) w src e hs he b off n c (l.map fun x => (x.toNat : Int)) hlen (fun i hi => by
      have hli : i < l.length := by omega
      rw [hc i l[i] (List.getElem?_eq_getElem hli)]
      simp [List.getD, hli]) dst hd]
    congr 2
    unfold strOfNums
    rw [List.map_map]
    congr 2
    conv => rhs; rw [← List.map_id l]
    apply List.map_congr_left
    intro x _
    simp
end
end Go.Proofs.YtoagfmonfgagbaaGreatDoor
