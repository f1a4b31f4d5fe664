/-
  A struct stored into a part of a block that is known whole. No conditions.
-/
import Derived.Test.YtiggfoghogecjaaDoorReg
import Derived.Laws.CopyOwn
import Derived.Deep.MidRow
namespace Go.Proofs.YtiggfoghogecjaaDoor
open Go.RowKit

/-- A row with a part of it in place of another. -/
def splice (cs : Array Value) (o : Nat) (vs : Array Value) : Array Value := (cs.toList.take o ++ (vs.toList ++ cs.toList.drop (o + vs.size))).toArray
theorem splice_size {cs vs : Array Value} {o : Nat} (h : o + vs.size ≤ cs.size) : (splice cs o vs).size = cs.size := by
  unfold splice
  simp only [List.size_toArray, List.length_append, List.length_take, List.length_drop, Array.length_toList]
  omega
theorem setCells_eq_setRow (g : Nat) (t : TypeId) (fr : Nat × Nat) : ∀ (vs : List Value) (o : Nat) (w : World) (cs : List Value), w.heap[g]? = some (.cells cs.toArray t fr) → vs ≠ [] → o + vs.length ≤ cs.length →
    w.setCells g o vs = w.setRow g (cs.take o ++ (vs ++ cs.drop (o + vs.length))).toArray
  | [], _, _, _, _, h, _ => absurd rfl h
  | [v], o, w, cs, hg, _, hl => by
    simp only [World.setCells, List.length_cons, List.length_nil] at hl ⊢
    rw [setCell_eq_setRow w g o _ _ _ v hg]
    congr 1
    rw [List.setIfInBounds_toArray, List.set_eq_take_append_cons_drop, if_pos (by omega)]
    simp
  | v :: v2 :: r, o, w, cs, hg, _, hl => by
    have hl' : o + (r.length + 2) ≤ cs.length := by simpa using hl
    rw [World.setCells]
    have hc := setCell_eq_setRow w g o _ _ _ v hg
    have hg2 : (w.setCell ⟨g, o, none⟩ v).heap[g]? = some (.cells (cs.set o v).toArray t fr) := by
      rw [hc, List.setIfInBounds_toArray]
      exact setRow_heap w g _ _ _ _ hg
    rw [setCells_eq_setRow g t fr (v2 :: r) (o + 1) _ (cs.set o v) hg2 (by simp) (by rw [List.length_set]; simp; omega), hc, setRow_setRow]
    congr 1
    have h1 : (cs.set o v).take (o + 1) = cs.take o ++ [v] := by
      rw [List.set_eq_take_append_cons_drop, if_pos (by omega), List.take_append, List.take_of_length_le (by rw [List.length_take]; omega), List.length_take, Nat.min_eq_left (by omega), Nat.add_sub_cancel_left]
      rfl
    have h2 : (cs.set o v).drop (o + 1 + (v2 :: r).length) = cs.drop (o + (v :: v2 :: r).length) := by
      rw [List.drop_set_of_lt (by simp; omega)]
      congr 1
      simp
      omega
    rw [h1, h2]
    simp
variable {P : Program} {o : Oper} {a : Act} {w : World} {Q : Exit → Act → World → Prop}
theorem wp_store_in {K : Act → World → Prop} (ty : TypeId) (x y : Operand) (ho : o.op = .store ty x y) (g i : Nat) (vs : Array Value) (hx : a.eval x = .pointer (some ⟨g, i, none⟩)) (hy : a.eval y = .agg vs) {cs : Array Value} {t : TypeId} (hg : w.heap[g]? = some (.cells cs t (0, 0)))
    (hfit : i + vs.size ≤ cs.size) (h0 : 0 < vs.size) (hi : (P.info? ty).map (·.size) = some vs.size) (h1 : vs.all (·.oneCell') = true) (h : K (a.put o.dst undef) (w.setRow g (splice cs i vs))) : o.wp P a w K Q := by
  refine wp_store_mid ty x y ho g i vs hx hy (fun j hj => ⟨?_, ?_⟩) hi h1 ?_
  · rw [cell_of_row w g (i + j) _ _ _ hg]
    exact Option.isSome_iff_exists.2 ⟨_, Array.getElem?_eq_getElem (by omega)⟩
  · simp [World.frozen?, hg]
  · have e := setCells_eq_setRow g t (0, 0) vs.toList i w cs.toList (by simpa using hg) (fun e => by simp [← Array.length_toList, e] at h0) (by simpa using hfit)
    rw [e]
    simpa [splice] using h
theorem wpList_store_in {ops : Array Oper} {rest : List Oper} (hgd : o.guard = none) (ty : TypeId) (x y : Operand) (ho : o.op = .store ty x y) (g i : Nat) (vs : Array Value) (hx : a.eval x = .pointer (some ⟨g, i, none⟩)) (hy : a.eval y = .agg vs) {cs : Array Value} {t : TypeId} (hg : w.heap[g]? = some (.cells cs t (0, 0)))
    (hfit : i + vs.size ≤ cs.size) (h0 : 0 < vs.size) (hi : (P.info? ty).map (·.size) = some vs.size) (h1 : vs.all (·.oneCell') = true) (h : wpList P ops Q rest (a.put o.dst undef) (w.setRow g (splice cs i vs))) : wpList P ops Q (o :: rest) a w :=
  wpList_plain hgd fun _ hK => wp_store_in ty x y ho g i vs hx hy hg hfit h0 hi h1 (hK _ _ h)
end Go.Proofs.YtiggfoghogecjaaDoor
