/-
  Boxes as steps of a drawn region: what tells an error, addresses; loads behind a guard; bytes stand where a block is written that holds none; numbers cut by a remainder. No conditions.
-/
import Derived.Test.YtbikifaadpijnaaGreatDoorZ11
import Derived.Test.YtbikifaadpijnaaGreatDoorZ23
import Derived.Test.YtbikifaadpijnaaGreatDoorZ07
namespace Go.Proofs.YtbikifaadpijnaaGreatDoor
open Go.RowKit
set_option maxRecDepth 100000

theorem wp_alloc_flF {o : Oper} {a : Act} {w : World} {K : Act → World → Prop} {Q : Exit → Act → World → Prop} (ho : o.op = .alloc 36)
    (h : ∀ w', FlBox w' w.heap.size 0 0 false → Below w.heap.size w w' → K (a.put o.dst (.pointer (some ⟨w.heap.size, 0, none⟩))) w') : o.wp Tryz.prog a w K Q := by
  have h1 := h (w.alloc (.cells (flv 0 0 false) 36)) (FlBox.new w 0 0 false) ((Below.refl _ w).alloc (Nat.le_refl _) _)
  obtain ⟨dst, op, ty, pos, after, guard⟩ := o
  simp only at ho
  subst ho
  go_simp
  exact h1
theorem wpList_load_fl_w' {ops : Array Oper} {rest : List Oper} {o : Oper} {a : Act} {w : World} {Q : Exit → Act → World → Prop} (hw : Region.wanted o (yielded ops a.tmps) = true) (x : Operand) (ho : o.op = .load 36 x) {g : Nat} {c i : Int} {p : Bool}
    (hx : a.eval x = .pointer (some ⟨g, 0, none⟩)) (hA : FlBox w g c i p) (h : wpList Tryz.prog ops Q rest (a.put o.dst (.agg (flv c i p))) w) : wpList Tryz.prog ops Q (o :: rest) a w := by
  have h1 := wp_load_flF (o := o) (a := a) (w := w) (K := wpList Tryz.prog ops Q rest) (Q := Q) x ho hx hA h
  unfold wpList
  rw [if_pos hw]
  exact .inl h1
/-- Bytes stand, where a block is written that holds none. -/
theorem Bs.farCells {w w' : World} {g : Nat} {cs : Array Value} {T : TypeId} {A : Option Addr} {n c : Nat} {l : List UInt8} (h : Bs w A n c l) (hg : w.heap[g]? = some (.cells cs T (0, 0))) (hcs : ∀ (j : Nat) (x : Int), cs[j]? ≠ some (.int .u8 x)) (hh : ∀ k, k ≠ g → w'.heap[k]? = w.heap[k]?) : Bs w' A n c l := by
  refine ⟨h.len, h.cap, h.max, h.none_, fun h0 => ?_⟩
  obtain ⟨b, off, rfl, hc⟩ := h.here h0
  have hne : b ≠ g := by
    intro e
    subst e
    have hx := hc 0 (l[0]'(by have := h.len; omega)) (List.getElem?_eq_getElem _)
    rw [cell_of_row w b (off + 0) _ _ _ hg] at hx
    exact hcs _ _ hx
  exact ⟨b, off, rfl, fun i x hx => (World.cell?_of_block (hh b hne)).trans (hc i x hx)⟩
theorem Bs.farFl {w w' : World} {g : Nat} {e i : Int} {p : Bool} {A : Option Addr} {n c : Nat} {l : List UInt8} (h : Bs w A n c l) (hg : FlBox w g e i p) (hh : ∀ k, k ≠ g → w'.heap[k]? = w.heap[k]?) : Bs w' A n c l :=
  h.farCells hg (fun j x => by
    match j with
    | 0 | 1 | 2 => simp [flv]
    | j + 3 => simp [flv]) hh
theorem num_mod8 (a : Int) (m : Int) (h0 : 0 < m) (h1 : m ≤ 1000000) : 0 ≤ wrap64 ((IntKind.u64.wrap a).tmod m) ∧ wrap64 ((IntKind.u64.wrap a).tmod m) < m := by
  have h : IntKind.u64.wrap a = a % 18446744073709551616 := rfl
  have h2 : 0 ≤ IntKind.u64.wrap a := by rw [h]; omega
  rw [Int.tmod_eq_emod_of_nonneg h2]
  have h3 := Int.emod_nonneg (IntKind.u64.wrap a) (show m ≠ 0 by omega)
  have h4 := Int.emod_lt_of_pos (IntKind.u64.wrap a) h0
  generalize IntKind.u64.wrap a % m = x at h3 h4
  unfold wrap64
  omega
theorem wp_load_ad {o : Oper} {a : Act} {w : World} {K : Act → World → Prop} {Q : Exit → Act → World → Prop} (x : Operand) (ho : o.op = .load 55 x) {g : Nat} {v6 : Bool} {bs : List UInt8} (hx : a.eval x = .pointer (some ⟨g, 0, none⟩)) (hA : AdBox w g v6 bs)
    (h : K (a.put o.dst (.agg (adv v6 bs))) w) : o.wp Tryz.prog a w K Q :=
  wp_load_mid (P := Tryz.prog) 55 x ho g 0 hx (adv v6 bs).toList _ hA.range Tryz.underlying55 rfl (by simpa using ad_size v6 hA.2) (by simpa using h)
theorem wp_store_adF {o : Oper} {a : Act} {w : World} {K : Act → World → Prop} {Q : Exit → Act → World → Prop} (x y : Operand) (ho : o.op = .store 55 x y) {g : Nat} {v6 v0 : Bool} {bs b0 : List UInt8}
    (hx : a.eval x = .pointer (some ⟨g, 0, none⟩)) (hy : a.eval y = .agg (adv v6 bs)) (hl : bs.length = 16) (hA : AdBox w g v0 b0)
    (h : ∀ w', AdBox w' g v6 bs → (∀ k, k ≠ g → w'.heap[k]? = w.heap[k]?) → (∀ B w0, B ≤ g → Below B w0 w → Below B w0 w') → K (a.put o.dst undef) w') : o.wp Tryz.prog a w K Q :=
  wp_store_row 55 x y ho g (adv v6 bs) hx hy 55 _ hA.1 (ad_size v6 hl) (by rw [adv_size v0 hA.2, adv_size v6 hl]) (adv_one v6 bs)
    (h _ ⟨setRow_heap w g _ _ _ _ hA.1, hl⟩ (fun k hk => setRow_other w g k _ hk) (fun _ _ hB hb => below_setRow hb hB _))
end Go.Proofs.YtbikifaadpijnaaGreatDoor
