/-
  A box that tells an error (stockadehelp.Fail): made, stored into, loaded; handed back beside a value. No conditions.
  A slice's first elements, whether the slice is nil or not: the operation's value. No conditions.
-/
import Derived.Test.YtkeggeiliachgaaDoorZ06
import Derived.Test.YtkeggeiliachgaaDoorZ07
import Derived.Test.YtkeggeiliachgaaDoorZ02
namespace Go.Proofs.YtkeggeiliachgaaDoor
open Go.RowKit
set_option maxRecDepth 100000

def flv (c a : Int) (p : Bool) : Array Value := #[.int .i64 c, .int .i64 a, .bool p]
def FlBox (w : World) (g : Nat) (c a : Int) (p : Bool) : Prop := w.heap[g]? = some (.cells (flv c a p) 35 (0, 0))
theorem FlBox.lt {w : World} {g : Nat} {c a : Int} {p : Bool} (h : FlBox w g c a p) : g < w.heap.size := (Array.getElem?_eq_some_iff.1 h).1
theorem FlBox.later {w w' : World} {B g : Nat} {c a : Int} {p : Bool} (h : FlBox w g c a p) (hb : Below B w w') (hB : w.heap.size ≤ B) : FlBox w' g c a p := by
  have hlt := FlBox.lt h
  exact (hb.block g (by omega)).trans h
theorem FlBox.new (w : World) (c a : Int) (p : Bool) : FlBox (w.alloc (.cells (flv c a p) 35)) w.heap.size c a p := heap_alloc_last w _
theorem FlBox.same {w w' : World} {g : Nat} {c a : Int} {p : Bool} (h : FlBox w g c a p) (hh : w'.heap[g]? = w.heap[g]?) : FlBox w' g c a p := hh.trans h
theorem FlBox.cell {w : World} {g : Nat} {c a : Int} {p : Bool} (h : FlBox w g c a p) (j : Nat) : w.cell? ⟨g, j, none⟩ = (flv c a p)[j]? := cell_of_row w g j _ _ _ h
theorem FlBox.range {w : World} {g : Nat} {c a : Int} {p : Bool} (h : FlBox w g c a p) : w.rangeAt g 0 (flv c a p).toList := fun j v hj => by
  rw [cell_of_row w g (0 + j) _ _ _ h, Nat.zero_add, ← Array.getElem?_toList]; exact hj
theorem fl_size (c a : Int) (p : Bool) : (Tryd.prog.info? 35).map (·.size) = some (flv c a p).size := by
  show _ = some 3
  kernel_rfl
theorem fl_one (c a : Int) (p : Bool) : (flv c a p).all (·.oneCell') = true := by simp [flv, Value.oneCell']
theorem wpList_alloc_fl {ops : Array Oper} {rest : List Oper} {o : Oper} {a : Act} {w : World} {Q : Exit → Act → World → Prop} (hgd : o.guard = none) (ho : o.op = .alloc 35)
    (h : ∀ w', FlBox w' w.heap.size 0 0 false → Below w.heap.size w w' → w'.heap.size = w.heap.size + 1 → wpList Tryd.prog ops Q rest (a.put o.dst (.pointer (some ⟨w.heap.size, 0, none⟩))) w') : wpList Tryd.prog ops Q (o :: rest) a w :=
  wpList_plain hgd fun _ hK => by
    have h1 := hK _ _ (h (w.alloc (.cells (flv 0 0 false) 35)) (FlBox.new w 0 0 false) ((Below.refl _ w).alloc (Nat.le_refl _) _) (by simp))
    obtain ⟨dst, op, ty, pos, after, guard⟩ := o
    simp only at ho
    subst ho
    go_simp
    exact h1
theorem wpList_store_fl {ops : Array Oper} {rest : List Oper} {o : Oper} {a : Act} {w : World} {Q : Exit → Act → World → Prop} (hgd : o.guard = none) (x y : Operand) (ho : o.op = .store 35 x y) {g : Nat} (c i : Int) (p : Bool) {c0 i0 : Int} {p0 : Bool}
    (hx : a.eval x = .pointer (some ⟨g, 0, none⟩)) (hy : a.eval y = .agg (flv c i p)) (hA : FlBox w g c0 i0 p0)
    (h : ∀ w', FlBox w' g c i p → (∀ k, k ≠ g → w'.heap[k]? = w.heap[k]?) → w'.heap.size = w.heap.size → (∀ B w0, B ≤ g → Below B w0 w → Below B w0 w') → wpList Tryd.prog ops Q rest (a.put o.dst undef) w') : wpList Tryd.prog ops Q (o :: rest) a w :=
  wpList_store_row hgd 35 x y ho g (flv c i p) hx hy 35 _ hA (fl_size c i p) rfl (fl_one c i p)
    (h _ (setRow_heap w g _ _ _ _ hA) (fun k hk => setRow_other w g k _ hk) (size_setRow w g _) (fun _ _ hB hb => below_setRow hb hB _))
theorem results_cell_cell {fn : Func} {p u : Tmp} {ty ty2 : TypeId} (h : fn.results = #[.cell p ty, .cell u ty2]) (tmps : Array Value) (P : Program) (w : World) :
    (results fn tmps).run P w =
      ((asAddr (tmps.getD p undef)).run P w).andThen fun a w₁ => ((loadVar ty a).run P w₁).andThen fun v w₂ => ((asAddr (tmps.getD u undef)).run P w₂).andThen fun a' w₃ => ((loadVar ty2 a').run P w₃).andThen fun v' w₄ => .ok (.tuple #[v, v']) w₄ := by
  simp only [results, h]
  simp [Sem.run_bind, Result.andThen]
theorem results_tmp_cell {fn : Func} {p u : Tmp} {ty2 : TypeId} (h : fn.results = #[.tmp p, .cell u ty2]) (tmps : Array Value) (P : Program) (w : World) :
    (results fn tmps).run P w = ((asAddr (tmps.getD u undef)).run P w).andThen fun a' w₃ => ((loadVar ty2 a').run P w₃).andThen fun v' w₄ => .ok (.tuple #[tmps.getD p undef, v']) w₄ := by
  simp only [results, h]
  simp [Sem.run_bind, Result.andThen]
theorem results_tmp_fl {fn : Func} {p u : Tmp} (h : fn.results = #[.tmp p, .cell u 35]) (tmps : Array Value) {w : World} {k : Nat} {c i : Int} {b : Bool} (hu : tmps.getD u undef = .pointer (some ⟨k, 0, none⟩)) (hF : FlBox w k c i b) : (results fn tmps).run Tryd.prog w = .ok (.tuple #[tmps.getD p undef, .agg (flv c i b)]) w := by
  rw [results_tmp_cell h, hu]
  simp [asAddr, run_loadVar_row w k 35 35 (flv c i b) (0, 0) _ hF Tryd.underlying35 rfl (fl_size c i b)]
theorem wpList_load_fl {ops : Array Oper} {rest : List Oper} {o : Oper} {a : Act} {w : World} {Q : Exit → Act → World → Prop} (hgd : o.guard = none) (x : Operand) (ho : o.op = .load 35 x) {g : Nat} {c i : Int} {p : Bool} (hx : a.eval x = .pointer (some ⟨g, 0, none⟩)) (hA : FlBox w g c i p)
    (h : wpList Tryd.prog ops Q rest (a.put o.dst (.agg (flv c i p))) w) : wpList Tryd.prog ops Q (o :: rest) a w :=
  wpList_load_row hgd 35 x ho g hx 35 (flv c i p) (0, 0) _ hA Tryd.underlying35 rfl (fl_size c i p) h
theorem wp_load_flF {o : Oper} {a : Act} {w : World} {K : Act → World → Prop} {Q : Exit → Act → World → Prop} (x : Operand) (ho : o.op = .load 35 x) {g : Nat} {c i : Int} {p : Bool} (hx : a.eval x = .pointer (some ⟨g, 0, none⟩)) (hA : FlBox w g c i p)
    (h : K (a.put o.dst (.agg (flv c i p))) w) : o.wp Tryd.prog a w K Q :=
  wp_load_mid (P := Tryd.prog) 35 x ho g 0 hx (flv c i p).toList _ hA.range Tryd.underlying35 rfl (by simpa using fl_size c i p) (by simpa using h)
theorem wp_store_flF {o : Oper} {a : Act} {w : World} {K : Act → World → Prop} {Q : Exit → Act → World → Prop} (x y : Operand) (ho : o.op = .store 35 x y) {g : Nat} (c i : Int) (p : Bool) {c0 i0 : Int} {p0 : Bool}
    (hx : a.eval x = .pointer (some ⟨g, 0, none⟩)) (hy : a.eval y = .agg (flv c i p)) (hA : FlBox w g c0 i0 p0)
    (h : ∀ w', FlBox w' g c i p → (∀ k, k ≠ g → w'.heap[k]? = w.heap[k]?) → (∀ B w0, B ≤ g → Below B w0 w → Below B w0 w') → K (a.put o.dst undef) w') : o.wp Tryd.prog a w K Q :=
  wp_store_row 35 x y ho g (flv c i p) hx hy 35 _ hA (fl_size c i p) rfl (fl_one c i p)
    (h _ (setRow_heap w g _ _ _ _ hA) (fun k hk => setRow_other w g k _ hk) (fun _ _ hB hb => below_setRow hb hB _))
end Go.Proofs.YtkeggeiliachgaaDoor

namespace Go.Proofs.YtkeggeiliachgaaDoor
open Go.RowKit

theorem slice_first (B : Option Addr) (m d k : Nat) (w : World) (hk : k ≤ d) : (Instr.sliceAt 22 (.slice B m d) none (some (.int .i64 k)) none).run Tryd.prog w = .ok (.slice B k d) w := by
  have h1 : (k : Int) ≤ (d : Int) := by omega
  cases B <;> go_simp
theorem exec_slice_first {f : Operand → Value} {o : Oper} (x y : Operand) (ho : o.op = .slice 22 x none (some y) none) {B : Option Addr} {m d k : Nat} (hx : f x = .slice B m d) (hy : f y = .int .i64 k) (hk : k ≤ d) (w : World) : (execOp f o).run Tryd.prog w = .ok (.value (.slice B k d)) w := by
  have h := slice_first B m d k w hk
  unfold execOp
  simp only [ho, Option.map, hx, hy, Sem.run_bind, Sem.run_pure, h, Result.andThen_ok]
end Go.Proofs.YtkeggeiliachgaaDoor
