/-
  An api.Segment as a value, and in a box. No conditions.
-/
import Derived.Test.YtioonjgamdompaaDoorSpec8
import Derived.Test.YtioonjgamdompaaDoorAdrL
import Derived.Test.YtioonjgamdompaaDoorFl
import Derived.Test.YtioonjgamdompaaDoorFar
import Derived.Test.YtioonjgamdompaaDoorOwn
namespace Go.Proofs.YtioonjgamdompaaDoor
open Go.RowKit
set_option maxRecDepth 100000

/-- The cells of a segment. -/
def sgv (s : Sg) (A : Option Addr) (n c : Nat) : Array Value := #[.int .i64 s.sp, .int .i64 s.dp, .int .u32 s.seq, .int .u32 s.ack, .int .i64 s.fl, .slice A n c]
/-- A block that holds a segment. -/
def SgBox (w : World) (g : Nat) (s : Sg) (A : Option Addr) (n c : Nat) : Prop := w.heap[g]? = some (.cells (sgv s A n c) 28 (0, 0))
section
variable {w w' : World} {g : Nat} {s : Sg} {A : Option Addr} {n c : Nat}
theorem SgBox.lt (H : SgBox w g s A n c) : g < w.heap.size := (Array.getElem?_eq_some_iff.1 H).1
theorem SgBox.later {B : Nat} (H : SgBox w g s A n c) (hb : Below B w w') (hB : w.heap.size ≤ B) : SgBox w' g s A n c := (hb.block g (by have := H.lt; omega)).trans H
theorem SgBox.same (H : SgBox w g s A n c) (hh : w'.heap[g]? = w.heap[g]?) : SgBox w' g s A n c := hh.trans H
theorem SgBox.new (w : World) (s : Sg) (A : Option Addr) (n c : Nat) : SgBox (w.alloc (.cells (sgv s A n c) 28)) w.heap.size s A n c := heap_alloc_last w _
theorem SgBox.range (H : SgBox w g s A n c) : w.rangeAt g 0 (sgv s A n c).toList := fun j v hj => by
  rw [cell_of_row w g (0 + j) _ _ _ H, Nat.zero_add, ← Array.getElem?_toList]; exact hj
theorem SgBox.cell (H : SgBox w g s A n c) (j : Nat) : w.cell? ⟨g, j, none⟩ = (sgv s A n c)[j]? := cell_of_row w g j _ _ _ H
end
theorem sg_size (s : Sg) (A : Option Addr) (n c : Nat) : (Tryd.prog.info? 28).map (·.size) = some (sgv s A n c).size := by
  show _ = some 6
  kernel_rfl
theorem sg_one (s : Sg) (A : Option Addr) (n c : Nat) : (sgv s A n c).all (·.oneCell') = true := by simp [sgv, Value.oneCell']
section
variable {ops : Array Oper} {rest : List Oper} {o : Oper} {a : Act} {w : World} {Q : Exit → Act → World → Prop}
theorem wpList_alloc_sg (hgd : o.guard = none) (ho : o.op = .alloc 28)
    (h : ∀ w', SgBox w' w.heap.size .zero none 0 0 → Below w.heap.size w w' → w'.heap.size = w.heap.size + 1 → wpList Tryd.prog ops Q rest (a.put o.dst (.pointer (some ⟨w.heap.size, 0, none⟩))) w') : wpList Tryd.prog ops Q (o :: rest) a w :=
  wpList_plain hgd fun _ hK => by
    have h1 := hK _ _ (h (w.alloc (.cells (sgv .zero none 0 0) 28)) (SgBox.new w _ _ _ _) ((Below.refl _ w).alloc (Nat.le_refl _) _) (by simp))
    obtain ⟨dst, op, ty, pos, after, guard⟩ := o
    simp only at ho
    subst ho
    unfold sgv Sg.zero at h1
    go_simp
    exact h1
theorem wpList_store_sg (hgd : o.guard = none) (x y : Operand) (ho : o.op = .store 28 x y) {g : Nat} (s : Sg) (A : Option Addr) (n c : Nat) {s0 : Sg} {A0 : Option Addr} {n0 c0 : Nat}
    (hx : a.eval x = .pointer (some ⟨g, 0, none⟩)) (hy : a.eval y = .agg (sgv s A n c)) (hA : SgBox w g s0 A0 n0 c0)
    (h : ∀ w', SgBox w' g s A n c → (∀ k, k ≠ g → w'.heap[k]? = w.heap[k]?) → w'.heap.size = w.heap.size → (∀ B w0, B ≤ g → Below B w0 w → Below B w0 w') → wpList Tryd.prog ops Q rest (a.put o.dst undef) w') : wpList Tryd.prog ops Q (o :: rest) a w :=
  wpList_store_row hgd 28 x y ho g (sgv s A n c) hx hy 28 _ hA (sg_size s A n c) rfl (sg_one s A n c)
    (h _ (setRow_heap w g _ _ _ _ hA) (fun k hk => setRow_other w g k _ hk) (size_setRow w g _) (fun _ _ hB hb => below_setRow hb hB _))
theorem wpList_load_sg (hgd : o.guard = none) (x : Operand) (ho : o.op = .load 28 x) {g : Nat} {s : Sg} {A : Option Addr} {n c : Nat} (hx : a.eval x = .pointer (some ⟨g, 0, none⟩)) (hA : SgBox w g s A n c)
    (h : wpList Tryd.prog ops Q rest (a.put o.dst (.agg (sgv s A n c))) w) : wpList Tryd.prog ops Q (o :: rest) a w :=
  wpList_load_row hgd 28 x ho g hx 28 (sgv s A n c) (0, 0) _ hA Tryd.underlying28 rfl (sg_size s A n c) h
theorem run_build_sg (s : Sg) (A : Option Addr) (n c : Nat) (w : World) :
    (Instr.build 28 #[(0, .int .i64 s.sp), (1, .int .i64 s.dp), (2, .int .u32 s.seq), (3, .int .u32 s.ack), (4, .int .i64 s.fl), (5, .slice A n c)]).run Tryd.prog w = .ok (.agg (sgv s A n c)) w := by kernel_rfl
theorem wp_build_sg {K : Act → World → Prop} (x0 x1 x2 x3 x4 x5 : Operand) (ho : o.op = .build 28 #[(0, x0), (1, x1), (2, x2), (3, x3), (4, x4), (5, x5)]) (s : Sg) (A : Option Addr) (n c : Nat) (h0 : a.eval x0 = .int .i64 s.sp) (h1 : a.eval x1 = .int .i64 s.dp) (h2 : a.eval x2 = .int .u32 s.seq) (h3 : a.eval x3 = .int .u32 s.ack) (h4 : a.eval x4 = .int .i64 s.fl) (h5 : a.eval x5 = .slice A n c)
    (h : K (a.put o.dst (.agg (sgv s A n c))) w) : o.wp Tryd.prog a w K Q := by
  have hrun := run_build_sg s A n c w
  unfold Oper.wp execOp
  simp only [ho, Sem.run_bind, Sem.run_pure, Result.andThen_ok, List.map_toArray, List.map_cons, List.map_nil, h0, h1, h2, h3, h4, h5, hrun]
  exact h
/-- A segment built of its parts. -/
theorem wpList_build_sg (hgd : o.guard = none) (x0 x1 x2 x3 x4 x5 : Operand) (ho : o.op = .build 28 #[(0, x0), (1, x1), (2, x2), (3, x3), (4, x4), (5, x5)]) (s : Sg) (A : Option Addr) (n c : Nat) (h0 : a.eval x0 = .int .i64 s.sp) (h1 : a.eval x1 = .int .i64 s.dp) (h2 : a.eval x2 = .int .u32 s.seq) (h3 : a.eval x3 = .int .u32 s.ack) (h4 : a.eval x4 = .int .i64 s.fl) (h5 : a.eval x5 = .slice A n c)
    (h : wpList Tryd.prog ops Q rest (a.put o.dst (.agg (sgv s A n c))) w) : wpList Tryd.prog ops Q (o :: rest) a w :=
  wpList_plain hgd fun _ hK => by
    have hrun := run_build_sg s A n c w
    unfold Oper.wp execOp
    simp only [ho, Sem.run_bind, Sem.run_pure, Result.andThen_ok, List.map_toArray, List.map_cons, List.map_nil, h0, h1, h2, h3, h4, h5, hrun]
    exact hK _ _ h
end
theorem results_sg_tmp {fn : Func} {p u : Tmp} (h : fn.results = #[.cell p 28, .tmp u]) (tmps : Array Value) {w : World} {g : Nat} {s : Sg} {A : Option Addr} {n c : Nat} (hp : tmps.getD p undef = .pointer (some ⟨g, 0, none⟩)) (hA : SgBox w g s A n c) :
    (results fn tmps).run Tryd.prog w = .ok (.tuple #[.agg (sgv s A n c), tmps.getD u undef]) w := by
  rw [results_cell_tmp h, hp]
  simp [asAddr, run_loadVar_row w g 28 28 (sgv s A n c) (0, 0) _ hA Tryd.underlying28 rfl (sg_size s A n c)]
theorem results_sg_fl {fn : Func} {p u : Tmp} (h : fn.results = #[.cell p 28, .cell u 36]) (tmps : Array Value) {w : World} {g k : Nat} {s : Sg} {A : Option Addr} {n e : Nat} {c i : Int} {b : Bool} (hp : tmps.getD p undef = .pointer (some ⟨g, 0, none⟩)) (hu : tmps.getD u undef = .pointer (some ⟨k, 0, none⟩))
    (hA : SgBox w g s A n e) (hF : FlBox w k c i b) : (results fn tmps).run Tryd.prog w = .ok (.tuple #[.agg (sgv s A n e), .agg (flv c i b)]) w := by
  rw [results_cell_cell h, hp, hu]
  simp [asAddr, run_loadVar_row w g 28 28 (sgv s A n e) (0, 0) _ hA Tryd.underlying28 rfl (sg_size s A n e), run_loadVar_row w k 36 36 (flv c i b) (0, 0) _ hF Tryd.underlying36 rfl (fl_size c i b)]
theorem wp_load_sgF {o : Oper} {a : Act} {w : World} {K : Act → World → Prop} {Q : Exit → Act → World → Prop} (x : Operand) (ho : o.op = .load 28 x) {g : Nat} {s : Sg} {A : Option Addr} {n c : Nat} (hx : a.eval x = .pointer (some ⟨g, 0, none⟩)) (hA : SgBox w g s A n c)
    (h : K (a.put o.dst (.agg (sgv s A n c))) w) : o.wp Tryd.prog a w K Q :=
  wp_load_mid (P := Tryd.prog) 28 x ho g 0 hx (sgv s A n c).toList _ hA.range Tryd.underlying28 rfl (by simpa using sg_size s A n c) (by simpa using h)
/-- A store into a box, as a step of a drawn region. -/
theorem wp_store_sgF {o : Oper} {a : Act} {w : World} {K : Act → World → Prop} {Q : Exit → Act → World → Prop} (x y : Operand) (ho : o.op = .store 28 x y) {g : Nat} (s : Sg) (A : Option Addr) (n c : Nat) {s0 : Sg} {A0 : Option Addr} {n0 c0 : Nat}
    (hx : a.eval x = .pointer (some ⟨g, 0, none⟩)) (hy : a.eval y = .agg (sgv s A n c)) (hA : SgBox w g s0 A0 n0 c0)
    (h : ∀ w', SgBox w' g s A n c → (∀ k, k ≠ g → w'.heap[k]? = w.heap[k]?) → (∀ B w0, B ≤ g → Below B w0 w → Below B w0 w') → K (a.put o.dst undef) w') : o.wp Tryd.prog a w K Q :=
  wp_store_row 28 x y ho g (sgv s A n c) hx hy 28 _ hA (sg_size s A n c) rfl (sg_one s A n c)
    (h _ (setRow_heap w g _ _ _ _ hA) (fun k hk => setRow_other w g k _ hk) (fun _ _ hB hb => below_setRow hb hB _))
theorem wp_alloc_sgF {o : Oper} {a : Act} {w : World} {K : Act → World → Prop} {Q : Exit → Act → World → Prop} (ho : o.op = .alloc 28)
    (h : ∀ w', SgBox w' w.heap.size .zero none 0 0 → Below w.heap.size w w' → K (a.put o.dst (.pointer (some ⟨w.heap.size, 0, none⟩))) w') : o.wp Tryd.prog a w K Q := by
  have h1 := h (w.alloc (.cells (sgv .zero none 0 0) 28)) (SgBox.new w _ _ _ _) ((Below.refl _ w).alloc (Nat.le_refl _) _)
  obtain ⟨dst, op, ty, pos, after, guard⟩ := o
  simp only at ho
  subst ho
  unfold sgv Sg.zero at h1
  go_simp
  exact h1
theorem wp_alloc_flF {o : Oper} {a : Act} {w : World} {K : Act → World → Prop} {Q : Exit → Act → World → Prop} (ho : o.op = .alloc 36)
    (h : ∀ w', FlBox w' w.heap.size 0 0 false → Below w.heap.size w w' → K (a.put o.dst (.pointer (some ⟨w.heap.size, 0, none⟩))) w') : o.wp Tryd.prog a w K Q := by
  have h1 := h (w.alloc (.cells (flv 0 0 false) 36)) (FlBox.new w 0 0 false) ((Below.refl _ w).alloc (Nat.le_refl _) _)
  obtain ⟨dst, op, ty, pos, after, guard⟩ := o
  simp only at ho
  subst ho
  go_simp
  exact h1
theorem wpList_load_sg_w {ops : Array Oper} {rest : List Oper} {o : Oper} {a : Act} {w : World} {Q : Exit → Act → World → Prop} (hw : Region.wanted o (yielded ops a.tmps) = true) (x : Operand) (ho : o.op = .load 28 x) {g : Nat} {s : Sg} {A : Option Addr} {n c : Nat}
    (hx : a.eval x = .pointer (some ⟨g, 0, none⟩)) (hA : SgBox w g s A n c) (h : wpList Tryd.prog ops Q rest (a.put o.dst (.agg (sgv s A n c))) w) : wpList Tryd.prog ops Q (o :: rest) a w := by
  have h1 := wp_load_sgF (o := o) (a := a) (w := w) (K := wpList Tryd.prog ops Q rest) (Q := Q) x ho hx hA h
  unfold wpList
  rw [if_pos hw]
  exact .inl h1
theorem wpList_load_fl_w' {ops : Array Oper} {rest : List Oper} {o : Oper} {a : Act} {w : World} {Q : Exit → Act → World → Prop} (hw : Region.wanted o (yielded ops a.tmps) = true) (x : Operand) (ho : o.op = .load 36 x) {g : Nat} {c i : Int} {p : Bool}
    (hx : a.eval x = .pointer (some ⟨g, 0, none⟩)) (hA : FlBox w g c i p) (h : wpList Tryd.prog ops Q rest (a.put o.dst (.agg (flv c i p))) w) : wpList Tryd.prog ops Q (o :: rest) a w := by
  have h1 := wp_load_flF (o := o) (a := a) (w := w) (K := wpList Tryd.prog ops Q rest) (Q := Q) x ho hx hA h
  unfold wpList
  rw [if_pos hw]
  exact .inl h1
/-- Bytes stand, where a block is written that holds none. -/
theorem Bs.farCells {w w' : World} {g : Nat} {cs : Array Value} {T : TypeId} {A : Option Addr} {n c : Nat} {l : List UInt8} (h : Bs w A n c l) (hg : w.heap[g]? = some (.cells cs T (0, 0))) (hcs : ∀ (j : Nat) (x : Int), cs[j]? ≠ some (.int .u8 x)) (hh : ∀ k, k ≠ g → w'.heap[k]? = w.heap[k]?) : Bs w' A n c l := by
  refine ⟨h.len, h.cap, h.max, h.none_, fun h0 => ?_⟩
  obtain ⟨b, off, rfl, hc⟩ := h.here h0
  have hne : b ≠ g := by
    intro e
    subst e
    have hx := hc 0 (l[0]'(by have := h.len; omega)) (List.getElem?_eq_getElem _)
    rw [cell_of_row w b (off + 0) _ _ _ hg] at hx
    exact hcs _ _ hx
  exact ⟨b, off, rfl, fun i x hx => (World.cell?_of_block (hh b hne)).trans (hc i x hx)⟩
theorem Bs.farSg {w w' : World} {g : Nat} {s : Sg} {A B : Option Addr} {n c m d : Nat} {l : List UInt8} (h : Bs w A n c l) (hg : SgBox w g s B m d) (hh : ∀ k, k ≠ g → w'.heap[k]? = w.heap[k]?) : Bs w' A n c l :=
  h.farCells hg (fun j x => by
    match j with
    | 0 | 1 | 2 | 3 | 4 | 5 => simp [sgv]
    | j + 6 => simp [sgv]) hh
theorem Bs.farFl {w w' : World} {g : Nat} {e i : Int} {p : Bool} {A : Option Addr} {n c : Nat} {l : List UInt8} (h : Bs w A n c l) (hg : FlBox w g e i p) (hh : ∀ k, k ≠ g → w'.heap[k]? = w.heap[k]?) : Bs w' A n c l :=
  h.farCells hg (fun j x => by
    match j with
    | 0 | 1 | 2 => simp [flv]
    | j + 3 => simp [flv]) hh
theorem flag_i64 : ∀ x : Fin 256, bits BinOp.and IntKind.i64 (IntKind.i64.wrap ((x.val : Nat) : Int)) 63 = ((x.val % 64 : Nat) : Int) := by decide +kernel
theorem flag_u8 : ∀ x : Fin 256, bits BinOp.and IntKind.u8 ((x.val : Nat) : Int) 63 = ((x.val % 64 : Nat) : Int) := by decide +kernel
theorem Tells.farSg {w w' : World} {g : Nat} {s : Sg} {A : Option Addr} {n c : Nat} {v : Value} {f : Fl} (h : Tells w v f) (hg : SgBox w g s A n c) (hh : ∀ k, k ≠ g → w'.heap[k]? = w.heap[k]?) : Tells w' v f := h.far hg (by decide) hh
end Go.Proofs.YtioonjgamdompaaDoor
