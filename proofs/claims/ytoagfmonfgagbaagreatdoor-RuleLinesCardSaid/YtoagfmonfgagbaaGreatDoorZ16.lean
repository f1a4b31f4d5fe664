/-
  
-/
import Derived.WalkKit
import Derived.OrdersHeld
import Derived.Deep.MidRow
import Derived.Deep.RegionHeld
import Derived.Laws.CopyOwn
namespace Go.Proofs.YtoagfmonfgagbaaGreatDoor
open Go.RowKit
def Kp (S : World → Prop) (w : World) : Prop := S w
section
variable {P : Program} {ops : Array Oper} {Q : Exit → Act → World → Prop} {S : World → Prop} {fuel : Nat} {listed : Array Bool} {a : Act} {w : World}
theorem rg_at {i : Nat} {oi : Oper} {rest : List Oper} (hd : ops.toList.drop i = oi :: rest) : ops[i]? = some oi := by
  rw [← Array.getElem?_toList]
  have h : (ops.toList.drop i)[0]? = some oi := by rw [hd]; rfl
  rw [List.getElem?_drop] at h
  simpa using h
theorem rg_begin (S : World → Prop) (n : Nat) {id : Nat} (hm : P.follows .mixedOrders = true) (hn : ops.size = n) (h : wpAnyH P .any ops Q S n (Array.replicate n false) a w.drew) : (Code.region id ops true).wp P Q a w := wp_region_held hm (by rw [hn]; exact h)
theorem rg_take (i : Nat) {oi : Oper} {rest : List Oper} {v : Value} (hd : ops.toList.drop i = oi :: rest) (hs : Region.noSelect ops = true) (hf : Region.free .any ops listed i = true) (hr : (Region.ready .any ops listed).contains i = true)
    (hQ : ∀ c a w, Q (.panic c) (a.put oi.dst v) w → Q (.panic c) a w) (hw : Region.wanted oi (yielded ops a.tmps) = true) (hS : S w) (hy : ∀ w, S w → (execOp a.eval oi).run P w = .ok (.value v) w)
    (h : wpAnyH P .any ops Q S fuel (listed.setIfInBounds i true) (a.put oi.dst v) w) : wpAnyH P .any ops Q S (fuel + 1) listed a w :=
  wpAnyH_take (rg_at hd) hs hf hr hQ (.inl ⟨hw, hy⟩) hS h
theorem rg_skip (i : Nat) {oi : Oper} {rest : List Oper} (hd : ops.toList.drop i = oi :: rest) (hs : Region.noSelect ops = true) (hf : Region.free .any ops listed i = true) (hr : (Region.ready .any ops listed).contains i = true)
    (hQ : ∀ c a w, Q (.panic c) (a.put oi.dst undef) w → Q (.panic c) a w) (hw : Region.wanted oi (yielded ops a.tmps) = false) (hS : S w)
    (h : wpAnyH P .any ops Q S fuel (listed.setIfInBounds i true) (a.put oi.dst undef) w) : wpAnyH P .any ops Q S (fuel + 1) listed a w :=
  wpAnyH_take (rg_at hd) hs hf hr hQ (.inr ⟨hw, rfl⟩) hS h
theorem rg_load (i : Nat) {oi : Oper} {rest : List Oper} (hd : ops.toList.drop i = oi :: rest) (hs : Region.noSelect ops = true) (hf : Region.free .any ops listed i = true) (hr : (Region.ready .any ops listed).contains i = true)
    (b o : Nat) (cs : Array Value) (hQ : ∀ c a w, Q (.panic c) (a.put oi.dst (.agg cs)) w → Q (.panic c) a w) (hw : Region.wanted oi (yielded ops a.tmps) = true) (ty : TypeId) (x : Operand) (ho : oi.op = .load ty x)
    (hx : a.eval x = .pointer (some ⟨b, o, none⟩)) (hS : S w) (hc : ∀ w, S w → w.rangeAt b o cs.toList) {d : TypeDesc} (hu : P.underlying ty = some d) (hd' : d.isRow = true) (hi : (P.info? ty).map (·.size) = some cs.size)
    (h : wpAnyH P .any ops Q S fuel (listed.setIfInBounds i true) (a.put oi.dst (.agg cs)) w) : wpAnyH P .any ops Q S (fuel + 1) listed a w := by
  have hy := yieldsIf_load_mid (P := P) (S := S) hw ty x ho b o hx cs.toList d hc hu hd' (by simpa using hi)
  rw [Array.toArray_toList] at hy
  exact wpAnyH_take (rg_at hd) hs hf hr hQ hy hS h
theorem rg_step (i : Nat) {oi : Oper} {rest : List Oper} (hd : ops.toList.drop i = oi :: rest) (hr : Region.ready .any ops listed = [i]) (hw : Region.wanted oi (yielded ops a.tmps) = true)
    (h : ∀ K' : Act → World → Prop, Shut (∀ a w, S w → wpAnyH P .any ops Q S fuel (listed.setIfInBounds i true) a w → K' a w) → Oper.wp P oi a w K' Q) : wpAnyH P .any ops Q S (fuel + 1) listed a w := by
  refine wpAnyH_ready hr (by simp) (AllReadyH.cons (rg_at hd) (fun K' hK => ?_) AllReadyH.nil)
  rw [if_pos hw]
  exact h K' (fun a w hS hW => hK a w hS (fun _ => hW))
theorem rg_any (rs : List Nat) (hr : Region.ready .any ops listed = rs) (hne : rs ≠ []) (h : AllReadyH P .any ops Q S fuel listed a w rs) : wpAnyH P .any ops Q S (fuel + 1) listed a w := wpAnyH_ready hr hne h
theorem rg_or (i : Nat) {oi : Oper} {rest : List Oper} {rs : List Nat} (hd : ops.toList.drop i = oi :: rest) (hw : Region.wanted oi (yielded ops a.tmps) = true)
    (h : ∀ K' : Act → World → Prop, Shut (∀ a w, S w → wpAnyH P .any ops Q S fuel (listed.setIfInBounds i true) a w → K' a w) → Oper.wp P oi a w K' Q) (hs : AllReadyH P .any ops Q S fuel listed a w rs) : AllReadyH P .any ops Q S fuel listed a w (i :: rs) := by
  refine AllReadyH.cons (rg_at hd) (fun K' hK => ?_) hs
  rw [if_pos hw]
  exact h K' (fun a w hS hW => hK a w hS (fun _ => hW))
theorem rg_done {listed : Array Bool} (hr : Region.ready .any ops listed = []) (h : Q .normal a w) : wpAnyH P .any ops Q S fuel listed a w := wpAnyH_done hr h fuel
end
end Go.Proofs.YtoagfmonfgagbaaGreatDoor

namespace Go.Proofs.YtoagfmonfgagbaaGreatDoor
open Go.RowKit
def splice (cs : Array Value) (o : Nat) (vs : Array Value) : Array Value := (cs.toList.take o ++ (vs.toList ++ cs.toList.drop (o + vs.size))).toArray
theorem setCells_eq_setRow (g : Nat) (t : TypeId) (fr : Nat × Nat) : ∀ (vs : List Value) (o : Nat) (w : World) (cs : List Value), w.heap[g]? = some (.cells cs.toArray t fr) → vs ≠ [] → o + vs.length ≤ cs.length →
    w.setCells g o vs = w.setRow g (cs.take o ++ (vs ++ cs.drop (o + vs.length))).toArray
  | [], _, _, _, _, h, _ => absurd rfl h
  | [v], o, w, cs, hg, _, hl => by
    simp only [World.setCells, List.length_cons, List.length_nil] at hl ⊢
    rw [setCell_eq_setRow w g o _ _ _ v hg]
    congr 1
    rw [List.setIfInBounds_toArray, List.set_eq_take_append_cons_drop, if_pos (by omega)]
    simp
  | v :: v2 :: r, o, w, cs, hg, _, hl => by
    have hl' : o + (r.length + 2) ≤ cs.length := by simpa using hl
    rw [World.setCells]
    have hc := setCell_eq_setRow w g o _ _ _ v hg
    have hg2 : (w.setCell ⟨g, o, none⟩ v).heap[g]? = some (.cells (cs.set o v).toArray t fr) := by
      rw [hc, List.setIfInBounds_toArray]
      exact setRow_heap w g _ _ _ _ hg
    rw [setCells_eq_setRow g t fr (v2 :: r) (o + 1) _ (cs.set o v) hg2 (by simp) (by rw [List.length_set]; simp; omega), hc, setRow_setRow]
    congr 1
    have h1 : (cs.set o v).take (o + 1) = cs.take o ++ [v] := by
      rw [List.set_eq_take_append_cons_drop, if_pos (by omega), List.take_append, List.take_of_length_le (by rw [List.length_take]; omega), List.length_take, Nat.min_eq_left (by omega), Nat.add_sub_cancel_left]
      rfl
    have h2 : (cs.set o v).drop (o + 1 + (v2 :: r).length) = cs.drop (o + (v :: v2 :: r).length) := by
      rw [List.drop_set_of_lt (by simp; omega)]
      congr 1
      simp
      omega
    rw [h1, h2]
    simp
variable {P : Program} {o : Oper} {a : Act} {w : World} {Q : Exit → Act → World → Prop}
theorem wp_store_in {K : Act → World → Prop} (ty : TypeId) (x y : Operand) (ho : o.op = .store ty x y) (g i : Nat) (vs : Array Value) (hx : a.eval x = .pointer (some ⟨g, i, none⟩)) (hy : a.eval y = .agg vs) {cs : Array Value} {t : TypeId} (hg : w.heap[g]? = some (.cells cs t (0, 0)))
    (hfit : i + vs.size ≤ cs.size) (h0 : 0 < vs.size) (hi : (P.info? ty).map (·.size) = some vs.size) (h1 : vs.all (·.oneCell') = true) (h : K (a.put o.dst undef) (w.setRow g (splice cs i vs))) : o.wp P a w K Q := by
  refine wp_store_mid ty x y ho g i vs hx hy (fun j hj => ⟨?_, ?_⟩) hi h1 ?_
  · rw [cell_of_row w g (i + j) _ _ _ hg]
    exact Option.isSome_iff_exists.2 ⟨_, Array.getElem?_eq_getElem (by omega)⟩
  · simp [World.frozen?, hg]
  · have e := setCells_eq_setRow g t (0, 0) vs.toList i w cs.toList (by simpa using hg) (fun e => by simp [← Array.length_toList, e] at h0) (by simpa using hfit)
    rw [e]
    simpa [splice] using h
theorem wpList_store_in {ops : Array Oper} {rest : List Oper} (hgd : o.guard = none) (ty : TypeId) (x y : Operand) (ho : o.op = .store ty x y) (g i : Nat) (vs : Array Value) (hx : a.eval x = .pointer (some ⟨g, i, none⟩)) (hy : a.eval y = .agg vs) {cs : Array Value} {t : TypeId} (hg : w.heap[g]? = some (.cells cs t (0, 0)))
    (hfit : i + vs.size ≤ cs.size) (h0 : 0 < vs.size) (hi : (P.info? ty).map (·.size) = some vs.size) (h1 : vs.all (·.oneCell') = true) (h : wpList P ops Q rest (a.put o.dst undef) (w.setRow g (splice cs i vs))) : wpList P ops Q (o :: rest) a w :=
  wpList_plain hgd fun _ hK => wp_store_in ty x y ho g i vs hx hy hg hfit h0 hi h1 (hK _ _ h)
end Go.Proofs.YtoagfmonfgagbaaGreatDoor
