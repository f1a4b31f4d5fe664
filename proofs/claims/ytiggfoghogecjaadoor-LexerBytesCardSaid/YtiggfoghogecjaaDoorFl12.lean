/-
  A box that tells an error (stockadehelp.Fail) in a plain region: made, stored into, loaded, behind a guard too. No conditions.
-/
import Derived.WalkKit
import Derived.Laws.Tables
import Derived.Laws.Rows
import Derived.Laws.CopyOwn
import Derived.Deep.MidRow
import Derived.Deep.WholeRow
import Derived.Test.YtiggfoghogecjaaDoorTell
namespace Go.Proofs.YtiggfoghogecjaaDoor
open Go.RowKit
set_option maxRecDepth 100000

def flv (c a : Int) (p : Bool) : Array Value := #[.int .i64 c, .int .i64 a, .bool p]
def FlBox (w : World) (g : Nat) (c a : Int) (p : Bool) : Prop := w.heap[g]? = some (.cells (flv c a p) 30 (0, 0))
theorem FlBox.lt {w : World} {g : Nat} {c a : Int} {p : Bool} (h : FlBox w g c a p) : g < w.heap.size := (Array.getElem?_eq_some_iff.1 h).1
theorem FlBox.later {w w' : World} {B g : Nat} {c a : Int} {p : Bool} (h : FlBox w g c a p) (hb : Below B w w') (hB : w.heap.size ≤ B) : FlBox w' g c a p := by
  have hlt := FlBox.lt h
  exact (hb.block g (by omega)).trans h
theorem FlBox.new (w : World) (c a : Int) (p : Bool) : FlBox (w.alloc (.cells (flv c a p) 30)) w.heap.size c a p := heap_alloc_last w _
theorem FlBox.same {w w' : World} {g : Nat} {c a : Int} {p : Bool} (h : FlBox w g c a p) (hh : w'.heap[g]? = w.heap[g]?) : FlBox w' g c a p := hh.trans h
theorem FlBox.cell {w : World} {g : Nat} {c a : Int} {p : Bool} (h : FlBox w g c a p) (j : Nat) : w.cell? ⟨g, j, none⟩ = (flv c a p)[j]? := cell_of_row w g j _ _ _ h
theorem FlBox.range {w : World} {g : Nat} {c a : Int} {p : Bool} (h : FlBox w g c a p) : w.rangeAt g 0 (flv c a p).toList := fun j v hj => by
  rw [cell_of_row w g (0 + j) _ _ _ h, Nat.zero_add, ← Array.getElem?_toList]; exact hj
theorem fl_size (c a : Int) (p : Bool) : (Tryd.prog.info? 30).map (·.size) = some (flv c a p).size := by
  show _ = some 3
  kernel_rfl
theorem fl_one (c a : Int) (p : Bool) : (flv c a p).all (·.oneCell') = true := by simp [flv, Value.oneCell']
theorem wpList_alloc_fl {ops : Array Oper} {rest : List Oper} {o : Oper} {a : Act} {w : World} {Q : Exit → Act → World → Prop} (hgd : o.guard = none) (ho : o.op = .alloc 30)
    (h : ∀ w', FlBox w' w.heap.size 0 0 false → Below w.heap.size w w' → w'.heap.size = w.heap.size + 1 → wpList Tryd.prog ops Q rest (a.put o.dst (.pointer (some ⟨w.heap.size, 0, none⟩))) w') : wpList Tryd.prog ops Q (o :: rest) a w :=
  wpList_plain hgd fun _ hK => by
    have h1 := hK _ _ (h (w.alloc (.cells (flv 0 0 false) 30)) (FlBox.new w 0 0 false) ((Below.refl _ w).alloc (Nat.le_refl _) _) (by simp))
    obtain ⟨dst, op, ty, pos, after, guard⟩ := o
    simp only at ho
    subst ho
    go_simp
    exact h1
theorem wpList_store_fl {ops : Array Oper} {rest : List Oper} {o : Oper} {a : Act} {w : World} {Q : Exit → Act → World → Prop} (hgd : o.guard = none) (x y : Operand) (ho : o.op = .store 30 x y) {g : Nat} (c i : Int) (p : Bool) {c0 i0 : Int} {p0 : Bool}
    (hx : a.eval x = .pointer (some ⟨g, 0, none⟩)) (hy : a.eval y = .agg (flv c i p)) (hA : FlBox w g c0 i0 p0)
    (h : ∀ w', FlBox w' g c i p → (∀ k, k ≠ g → w'.heap[k]? = w.heap[k]?) → w'.heap.size = w.heap.size → (∀ B w0, B ≤ g → Below B w0 w → Below B w0 w') → wpList Tryd.prog ops Q rest (a.put o.dst undef) w') : wpList Tryd.prog ops Q (o :: rest) a w :=
  wpList_store_row hgd 30 x y ho g (flv c i p) hx hy 30 _ hA (fl_size c i p) rfl (fl_one c i p)
    (h _ (setRow_heap w g _ _ _ _ hA) (fun k hk => setRow_other w g k _ hk) (size_setRow w g _) (fun _ _ hB hb => below_setRow hb hB _))
theorem wpList_load_fl {ops : Array Oper} {rest : List Oper} {o : Oper} {a : Act} {w : World} {Q : Exit → Act → World → Prop} (hgd : o.guard = none) (x : Operand) (ho : o.op = .load 30 x) {g : Nat} {c i : Int} {p : Bool} (hx : a.eval x = .pointer (some ⟨g, 0, none⟩)) (hA : FlBox w g c i p)
    (h : wpList Tryd.prog ops Q rest (a.put o.dst (.agg (flv c i p))) w) : wpList Tryd.prog ops Q (o :: rest) a w :=
  wpList_load_row hgd 30 x ho g hx 30 (flv c i p) (0, 0) _ hA Tryd.underlying30 rfl (fl_size c i p) h
theorem wp_load_flF {o : Oper} {a : Act} {w : World} {K : Act → World → Prop} {Q : Exit → Act → World → Prop} (x : Operand) (ho : o.op = .load 30 x) {g : Nat} {c i : Int} {p : Bool} (hx : a.eval x = .pointer (some ⟨g, 0, none⟩)) (hA : FlBox w g c i p)
    (h : K (a.put o.dst (.agg (flv c i p))) w) : o.wp Tryd.prog a w K Q :=
  wp_load_mid (P := Tryd.prog) 30 x ho g 0 hx (flv c i p).toList _ hA.range Tryd.underlying30 rfl (by simpa using fl_size c i p) (by simpa using h)
theorem wpList_load_fl_w' {ops : Array Oper} {rest : List Oper} {o : Oper} {a : Act} {w : World} {Q : Exit → Act → World → Prop} (hw : Region.wanted o (yielded ops a.tmps) = true) (x : Operand) (ho : o.op = .load 30 x) {g : Nat} {c i : Int} {p : Bool}
    (hx : a.eval x = .pointer (some ⟨g, 0, none⟩)) (hA : FlBox w g c i p) (h : wpList Tryd.prog ops Q rest (a.put o.dst (.agg (flv c i p))) w) : wpList Tryd.prog ops Q (o :: rest) a w := by
  have h1 := wp_load_flF (o := o) (a := a) (w := w) (K := wpList Tryd.prog ops Q rest) (Q := Q) x ho hx hA h
  unfold wpList
  rw [if_pos hw]
  exact .inl h1
end Go.Proofs.YtiggfoghogecjaaDoor
