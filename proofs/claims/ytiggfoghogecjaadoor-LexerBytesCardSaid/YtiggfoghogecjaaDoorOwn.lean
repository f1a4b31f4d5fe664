/-
  A row of bytes of the call's own: kept, written at a place, copied into. No conditions.
-/
import Derived.Test.YtiggfoghogecjaaDoorBy
import Derived.Laws.CopyOwn
namespace Go.Proofs.YtiggfoghogecjaaDoor
open Go.RowKit
set_option maxRecDepth 100000

theorem own_same' {w w' : World} {base n size : Nat} {e : TypeId} {v : Value} {xs : List Value} (h : w.ownsRow base e size v n xs) (hh : ∀ k, base ≤ k → w'.heap[k]? = w.heap[k]?) : w'.ownsRow base e size v n xs := by
  refine ⟨h.1, ?_⟩
  rcases h.2 with h | ⟨g, cap, cur, e1, h1, h2, h3⟩
  · exact .inl h
  · exact .inr ⟨g, cap, cur, e1, h1, (hh g h1).trans h2, h3⟩
/-- What the call owns reads as it did, where no block of its is written. -/
theorem Bs.own_later {w w' : World} {base : Nat} {e : TypeId} {A : Option Addr} {n c : Nat} {l : List UInt8} (h : w.ownsRow base e 1 (.slice A n c) n (bv l)) (hh : ∀ k, base ≤ k → w'.heap[k]? = w.heap[k]?) : Bs w' A n c l := by
  obtain ⟨A', c', e1, hB⟩ := Bs.of_own (own_same' h hh)
  injection e1 with e1 _ e2
  subst e1 e2
  exact hB
/-- A byte stored. -/
theorem own_put {w w0 : World} {base n : Nat} {e : TypeId} {g cap : Nat} {l : List UInt8} (o : w.ownsRow base e 1 (.slice (some ⟨g, 0, none⟩) n cap) n (bv l)) {B : Nat} (hb : Below B w0 w) (hB : B ≤ base) (j : Nat) (u : Value) (x : UInt8) (hu : u = .int .u8 x.toNat) :
    (w.setCell ⟨g, j, none⟩ u).ownsRow base e 1 (.slice (some ⟨g, 0, none⟩) n cap) n (bv (l.set j x)) ∧ Below B w0 (w.setCell ⟨g, j, none⟩ u) := by
  subst hu
  have hg : base ≤ g := (o.lt g rfl).1
  have o1 := (o.stored j (.int .u8 x.toNat)).1
  rw [bv_set] at o1
  exact ⟨o1, hb.setCell (p := ⟨g, j, none⟩) (Nat.le_trans hB hg) _⟩
theorem own_cell {w : World} {base n : Nat} {e : TypeId} {g cap : Nat} {l : List UInt8} (o : w.ownsRow base e 1 (.slice (some ⟨g, 0, none⟩) n cap) n (bv l)) {j : Nat} (hj : j < n) : (∃ p : UInt8, l[j]? = some p ∧ w.cell? ⟨g, j, none⟩ = some (.int .u8 p.toNat)) ∧ w.frozen? ⟨g, j, none⟩ = false := by
  have hl : l.length = n := by have := o.1; rw [bv_length] at this; omega
  have hp : l[j]? = some (l[j]'(by omega)) := List.getElem?_eq_getElem (by omega)
  exact ⟨⟨_, hp, (o.cellAt j (by omega)).trans (bv_at hp)⟩, o.frozenAt j⟩
/-- Some bytes copied into the row, from a place on. -/
theorem wp_copy_own {P : Program} {o : Oper} {a : Act} {w : World} {K : Act → World → Prop} {Q : Exit → Act → World → Prop} (d s : Operand) (T : TypeId) (ho : o.op = .call { callee := .builtin .copy, args := #[d, s], argTypes := #[T, T] }) {e : TypeId} (hu : P.underlying T = some (.slice e)) (he : (P.info? e).map (·.size) = some 1)
    {base g N cap i : Nat} {xs : List UInt8} (o1 : w.ownsRow base e 1 (.slice (some ⟨g, 0, none⟩) N cap) N (bv xs)) {dl dc : Nat} (hd : a.eval d = .slice (some ⟨g, i, none⟩) dl dc) {A : Option Addr} {m c : Nat} {ys : List UInt8} (hs : a.eval s = .slice A m c) (hb : Bs w A m c ys) (hm : 0 < m) (hml : m ≤ dl) (hfit : i + m ≤ N)
    (h : ∀ w', w'.ownsRow base e 1 (.slice (some ⟨g, 0, none⟩) N cap) N (bv (xs.take i ++ (ys ++ xs.drop (i + m)))) → (∀ k, k ≠ g → w'.heap[k]? = w.heap[k]?) → (∀ B w0, B ≤ base → Below B w0 w → Below B w0 w') → K (a.put o.dst (goInt m)) w') : o.wp P a w K Q := by
  obtain ⟨b, off, rfl, hc⟩ := hb.here hm
  have hxl : xs.length = N := by have := o1.1; rw [bv_length] at this; omega
  obtain ⟨g', cap', cur, e1, h1, h2, h3, h4, h5, h6⟩ : ∃ (g' cap' : Nat) (cur : Array Value), Value.slice (some ⟨g, 0, none⟩) N cap = .slice (some ⟨g', 0, none⟩) N cap' ∧ base ≤ g' ∧ w.heap[g']? = some (.cells cur e (0, 0)) ∧ N ≤ cap' ∧ cap' ≤ maxLen ∧ cur.size = cap' * 1 ∧ cur.toList.take (N * 1) = bv xs := by
    rcases o1.2 with ⟨h, _⟩ | h
    · cases h
    · exact h
  injection e1 with e1 _ e2
  injection e1 with e1
  injection e1 with e1
  subst e1 e2
  rw [Nat.mul_one] at h5 h6
  have hlen : (bv ys).length = m := by rw [bv_length, hb.len]
  have hrun := run_copy_row (P := P) w T T o.type e g i dl dc ⟨b, off, none⟩ m c cur e (bv ys) hu he h2 (by rw [hlen]; exact (Nat.min_eq_left hml).symm) (fun j u hj => by
    obtain ⟨y, hy, rfl⟩ := bv_get hj
    rw [add_plain]; exact hc j y hy) (by rw [hlen]; omega) (bv_one _)
  rw [hlen] at hrun
  unfold Oper.wp execOp
  simp only [ho, resolve, invoke, builtin, Sem.run_bind, Sem.run_pure, Result.andThen_ok, List.map_toArray, List.map_cons, List.map_nil, hd, hs, hrun]
  have hcl : cur.toList.length = cap := by rw [Array.length_toList, h5]
  refine h _ ⟨?_, .inr ⟨g, cap, _, rfl, h1, setRow_heap w g cur _ e _ h2, h3, h4, ?_, ?_⟩⟩ (fun k hk => setRow_other w g k _ hk) (fun B w0 hB hb => below_setRow hb (Nat.le_trans hB h1) _)
  · rw [bv_length, List.length_append, List.length_append, List.length_take, List.length_drop, hb.len]; omega
  · simp only [List.size_toArray, List.length_append, List.length_take, List.length_drop, hcl, hlen]; omega
  · have e1 : cur.toList = bv xs ++ cur.toList.drop N := by rw [← h6, List.take_append_drop]
    rw [Nat.mul_one]
    rw [List.append_assoc]
    show (cur.toList.take i ++ (bv ys ++ cur.toList.drop (i + m))).take N = _
    have e2 : cur.toList.take i = bv (xs.take i) := by
      rw [e1, List.take_append_of_le_length (by rw [bv_length]; omega)]
      simp [bv, List.map_take]
    have e3 : cur.toList.drop (i + m) = bv (xs.drop (i + m)) ++ cur.toList.drop N := by
      rw [e1, List.drop_append_of_le_length (by rw [bv_length]; omega), ← e1]
      simp [bv, List.map_drop]
    rw [e2, e3, ← List.append_assoc, ← List.append_assoc, ← bv_append, ← bv_append]
    have hl2 : (bv (xs.take i ++ ys ++ xs.drop (i + m))).length = N := by rw [bv_length, List.length_append, List.length_append, List.length_take, List.length_drop, hb.len]; omega
    rw [← List.append_assoc, List.take_left' hl2]
end Go.Proofs.YtiggfoghogecjaaDoor
