/-
  Boxes as steps of a drawn region: what tells an error, addresses; loads behind a guard; bytes stand where a block is written that holds none; numbers cut by a remainder. No conditions.
  An api.Datagram as a value, and in a box. No conditions.
-/
import Derived.Test.YtkeggeiliachgaaDoorZ08
import Derived.Test.YtkeggeiliachgaaDoorZ18
import Derived.Test.YtkeggeiliachgaaDoorZ04
import Derived.Test.YtkeggeiliachgaaDoorZ06
namespace Go.Proofs.YtkeggeiliachgaaDoor
open Go.RowKit
set_option maxRecDepth 100000

theorem wp_alloc_flF {o : Oper} {a : Act} {w : World} {K : Act → World → Prop} {Q : Exit → Act → World → Prop} (ho : o.op = .alloc 35)
    (h : ∀ w', FlBox w' w.heap.size 0 0 false → Below w.heap.size w w' → K (a.put o.dst (.pointer (some ⟨w.heap.size, 0, none⟩))) w') : o.wp Tryd.prog a w K Q := by
  have h1 := h (w.alloc (.cells (flv 0 0 false) 35)) (FlBox.new w 0 0 false) ((Below.refl _ w).alloc (Nat.le_refl _) _)
  obtain ⟨dst, op, ty, pos, after, guard⟩ := o
  simp only at ho
  subst ho
  go_simp
  exact h1
theorem wpList_load_fl_w' {ops : Array Oper} {rest : List Oper} {o : Oper} {a : Act} {w : World} {Q : Exit → Act → World → Prop} (hw : Region.wanted o (yielded ops a.tmps) = true) (x : Operand) (ho : o.op = .load 35 x) {g : Nat} {c i : Int} {p : Bool}
    (hx : a.eval x = .pointer (some ⟨g, 0, none⟩)) (hA : FlBox w g c i p) (h : wpList Tryd.prog ops Q rest (a.put o.dst (.agg (flv c i p))) w) : wpList Tryd.prog ops Q (o :: rest) a w := by
  have h1 := wp_load_flF (o := o) (a := a) (w := w) (K := wpList Tryd.prog ops Q rest) (Q := Q) x ho hx hA h
  unfold wpList
  rw [if_pos hw]
  exact .inl h1
/-- Bytes stand, where a block is written that holds none. -/
theorem Bs.farCells {w w' : World} {g : Nat} {cs : Array Value} {T : TypeId} {A : Option Addr} {n c : Nat} {l : List UInt8} (h : Bs w A n c l) (hg : w.heap[g]? = some (.cells cs T (0, 0))) (hcs : ∀ (j : Nat) (x : Int), cs[j]? ≠ some (.int .u8 x)) (hh : ∀ k, k ≠ g → w'.heap[k]? = w.heap[k]?) : Bs w' A n c l := by
  refine ⟨h.len, h.cap, h.max, h.none_, fun h0 => ?_⟩
  obtain ⟨b, off, rfl, hc⟩ := h.here h0
  have hne : b ≠ g := by
    intro e
    subst e
    have hx := hc 0 (l[0]'(by have := h.len; omega)) (List.getElem?_eq_getElem _)
    rw [cell_of_row w b (off + 0) _ _ _ hg] at hx
    exact hcs _ _ hx
  exact ⟨b, off, rfl, fun i x hx => (World.cell?_of_block (hh b hne)).trans (hc i x hx)⟩
theorem Bs.farFl {w w' : World} {g : Nat} {e i : Int} {p : Bool} {A : Option Addr} {n c : Nat} {l : List UInt8} (h : Bs w A n c l) (hg : FlBox w g e i p) (hh : ∀ k, k ≠ g → w'.heap[k]? = w.heap[k]?) : Bs w' A n c l :=
  h.farCells hg (fun j x => by
    match j with
    | 0 | 1 | 2 => simp [flv]
    | j + 3 => simp [flv]) hh
theorem num_mod8 (a : Int) (m : Int) (h0 : 0 < m) (h1 : m ≤ 1000000) : 0 ≤ wrap64 ((IntKind.u64.wrap a).tmod m) ∧ wrap64 ((IntKind.u64.wrap a).tmod m) < m := by
  have h : IntKind.u64.wrap a = a % 18446744073709551616 := rfl
  have h2 : 0 ≤ IntKind.u64.wrap a := by rw [h]; omega
  rw [Int.tmod_eq_emod_of_nonneg h2]
  have h3 := Int.emod_nonneg (IntKind.u64.wrap a) (show m ≠ 0 by omega)
  have h4 := Int.emod_lt_of_pos (IntKind.u64.wrap a) h0
  generalize IntKind.u64.wrap a % m = x at h3 h4
  unfold wrap64
  omega
theorem wp_load_ad {o : Oper} {a : Act} {w : World} {K : Act → World → Prop} {Q : Exit → Act → World → Prop} (x : Operand) (ho : o.op = .load 25 x) {g : Nat} {v6 : Bool} {bs : List UInt8} (hx : a.eval x = .pointer (some ⟨g, 0, none⟩)) (hA : AdBox w g v6 bs)
    (h : K (a.put o.dst (.agg (adv v6 bs))) w) : o.wp Tryd.prog a w K Q :=
  wp_load_mid (P := Tryd.prog) 25 x ho g 0 hx (adv v6 bs).toList _ hA.range Tryd.underlying25 rfl (by simpa using ad_size v6 hA.2) (by simpa using h)
theorem wp_store_adF {o : Oper} {a : Act} {w : World} {K : Act → World → Prop} {Q : Exit → Act → World → Prop} (x y : Operand) (ho : o.op = .store 25 x y) {g : Nat} {v6 v0 : Bool} {bs b0 : List UInt8}
    (hx : a.eval x = .pointer (some ⟨g, 0, none⟩)) (hy : a.eval y = .agg (adv v6 bs)) (hl : bs.length = 16) (hA : AdBox w g v0 b0)
    (h : ∀ w', AdBox w' g v6 bs → (∀ k, k ≠ g → w'.heap[k]? = w.heap[k]?) → (∀ B w0, B ≤ g → Below B w0 w → Below B w0 w') → K (a.put o.dst undef) w') : o.wp Tryd.prog a w K Q :=
  wp_store_row 25 x y ho g (adv v6 bs) hx hy 25 _ hA.1 (ad_size v6 hl) (by rw [adv_size v0 hA.2, adv_size v6 hl]) (adv_one v6 bs)
    (h _ ⟨setRow_heap w g _ _ _ _ hA.1, hl⟩ (fun k hk => setRow_other w g k _ hk) (fun _ _ hB hb => below_setRow hb hB _))
end Go.Proofs.YtkeggeiliachgaaDoor

namespace Go.Proofs.YtkeggeiliachgaaDoor
open Go.RowKit
set_option maxRecDepth 100000

/-- The cells. -/
def dgv (s : Dg) (A : Option Addr) (n : Nat) (c : Nat) : Array Value := #[.int .i64 s.sp, .int .i64 s.dp, .slice A n c]
/-- A block that holds them. -/
def DgBox (w : World) (g : Nat) (s : Dg) (A : Option Addr) (n : Nat) (c : Nat) : Prop := w.heap[g]? = some (.cells (dgv s A n c) 27 (0, 0))
section
variable {w w' : World} {g : Nat} {s : Dg} {A : Option Addr} {n : Nat} {c : Nat}
theorem DgBox.lt (H : DgBox w g s A n c) : g < w.heap.size := (Array.getElem?_eq_some_iff.1 H).1
theorem DgBox.later {B : Nat} (H : DgBox w g s A n c) (hb : Below B w w') (hB : w.heap.size ≤ B) : DgBox w' g s A n c := (hb.block g (by have := H.lt; omega)).trans H
theorem DgBox.same (H : DgBox w g s A n c) (hh : w'.heap[g]? = w.heap[g]?) : DgBox w' g s A n c := hh.trans H
theorem DgBox.new (w : World) (s : Dg) (A : Option Addr) (n : Nat) (c : Nat) : DgBox (w.alloc (.cells (dgv s A n c) 27)) w.heap.size s A n c := heap_alloc_last w _
theorem DgBox.range (H : DgBox w g s A n c) : w.rangeAt g 0 (dgv s A n c).toList := fun j v hj => by
  rw [cell_of_row w g (0 + j) _ _ _ H, Nat.zero_add, ← Array.getElem?_toList]; exact hj
theorem DgBox.cell (H : DgBox w g s A n c) (j : Nat) : w.cell? ⟨g, j, none⟩ = (dgv s A n c)[j]? := cell_of_row w g j _ _ _ H
theorem DgBox.frozen (H : DgBox w g s A n c) (j : Nat) : w.frozen? ⟨g, j, none⟩ = false := by unfold DgBox at H; simp [World.frozen?, H]
end
theorem dg_size (s : Dg) (A : Option Addr) (n : Nat) (c : Nat) : (Tryd.prog.info? 27).map (·.size) = some (dgv s A n c).size := by
  show _ = some 3
  kernel_rfl
theorem dg_one (s : Dg) (A : Option Addr) (n : Nat) (c : Nat) : (dgv s A n c).all (·.oneCell') = true := by simp [dgv, Value.oneCell']
section
variable {ops : Array Oper} {rest : List Oper} {o : Oper} {a : Act} {w : World} {Q : Exit → Act → World → Prop}
theorem wpList_alloc_dg (hgd : o.guard = none) (ho : o.op = .alloc 27)
    (h : ∀ w', DgBox w' w.heap.size .zero none 0 0 → Below w.heap.size w w' → w'.heap.size = w.heap.size + 1 → wpList Tryd.prog ops Q rest (a.put o.dst (.pointer (some ⟨w.heap.size, 0, none⟩))) w') : wpList Tryd.prog ops Q (o :: rest) a w :=
  wpList_plain hgd fun _ hK => by
    have h1 := hK _ _ (h (w.alloc (.cells (dgv .zero none 0 0) 27)) (DgBox.new w _ _ _ _) ((Below.refl _ w).alloc (Nat.le_refl _) _) (by simp))
    obtain ⟨dst, op, ty, pos, after, guard⟩ := o
    simp only at ho
    subst ho
    unfold dgv Dg.zero at h1
    go_simp
    exact h1
theorem wpList_store_dg (hgd : o.guard = none) (x y : Operand) (ho : o.op = .store 27 x y) {g : Nat} (s : Dg) (A : Option Addr) (n : Nat) (c : Nat) {s0 : Dg} {A0 : Option Addr} {n0 : Nat} {c0 : Nat}
    (hx : a.eval x = .pointer (some ⟨g, 0, none⟩)) (hy : a.eval y = .agg (dgv s A n c)) (hA : DgBox w g s0 A0 n0 c0)
    (h : ∀ w', DgBox w' g s A n c → (∀ k, k ≠ g → w'.heap[k]? = w.heap[k]?) → w'.heap.size = w.heap.size → (∀ B w0, B ≤ g → Below B w0 w → Below B w0 w') → wpList Tryd.prog ops Q rest (a.put o.dst undef) w') : wpList Tryd.prog ops Q (o :: rest) a w :=
  wpList_store_row hgd 27 x y ho g (dgv s A n c) hx hy 27 _ hA (dg_size s A n c) rfl (dg_one s A n c)
    (h _ (setRow_heap w g _ _ _ _ hA) (fun k hk => setRow_other w g k _ hk) (size_setRow w g _) (fun _ _ hB hb => below_setRow hb hB _))
theorem wpList_load_dg (hgd : o.guard = none) (x : Operand) (ho : o.op = .load 27 x) {g : Nat} {s : Dg} {A : Option Addr} {n : Nat} {c : Nat} (hx : a.eval x = .pointer (some ⟨g, 0, none⟩)) (hA : DgBox w g s A n c)
    (h : wpList Tryd.prog ops Q rest (a.put o.dst (.agg (dgv s A n c))) w) : wpList Tryd.prog ops Q (o :: rest) a w :=
  wpList_load_row hgd 27 x ho g hx 27 (dgv s A n c) (0, 0) _ hA Tryd.underlying27 rfl (dg_size s A n c) h
theorem run_build_dg (s : Dg) (A : Option Addr) (n : Nat) (c : Nat) (w : World) : (Instr.build 27 #[(0, .int .i64 s.sp), (1, .int .i64 s.dp), (2, .slice A n c)]).run Tryd.prog w = .ok (.agg (dgv s A n c)) w := by kernel_rfl
/-- Built of all its parts. -/
theorem wp_build_dg {K : Act → World → Prop} (x0 x1 x2 : Operand) (ho : o.op = .build 27 #[(0, x0), (1, x1), (2, x2)]) (s : Dg) (A : Option Addr) (n : Nat) (c : Nat) (h0 : a.eval x0 = .int .i64 s.sp) (h1 : a.eval x1 = .int .i64 s.dp) (h2 : a.eval x2 = .slice A n c)
    (h : K (a.put o.dst (.agg (dgv s A n c))) w) : o.wp Tryd.prog a w K Q := by
  have hrun := run_build_dg s A n c w
  unfold Oper.wp execOp
  simp only [ho, Sem.run_bind, Sem.run_pure, Result.andThen_ok, List.map_toArray, List.map_cons, List.map_nil, h0, h1, h2, hrun]
  exact h
theorem wpList_build_dg (hgd : o.guard = none) (x0 x1 x2 : Operand) (ho : o.op = .build 27 #[(0, x0), (1, x1), (2, x2)]) (s : Dg) (A : Option Addr) (n : Nat) (c : Nat) (h0 : a.eval x0 = .int .i64 s.sp) (h1 : a.eval x1 = .int .i64 s.dp) (h2 : a.eval x2 = .slice A n c)
    (h : wpList Tryd.prog ops Q rest (a.put o.dst (.agg (dgv s A n c))) w) : wpList Tryd.prog ops Q (o :: rest) a w :=
  wpList_plain hgd fun _ hK => wp_build_dg x0 x1 x2 ho s A n c h0 h1 h2 (hK _ _ h)
end
theorem results_dg_tmp {fn : Func} {p u : Tmp} (h : fn.results = #[.cell p 27, .tmp u]) (tmps : Array Value) {w : World} {g : Nat} {s : Dg} {A : Option Addr} {n : Nat} {c : Nat} (hp : tmps.getD p undef = .pointer (some ⟨g, 0, none⟩)) (hA : DgBox w g s A n c) :
    (results fn tmps).run Tryd.prog w = .ok (.tuple #[.agg (dgv s A n c), tmps.getD u undef]) w := by
  rw [results_cell_tmp h, hp]
  simp [asAddr, run_loadVar_row w g 27 27 (dgv s A n c) (0, 0) _ hA Tryd.underlying27 rfl (dg_size s A n c)]
theorem results_dg_fl {fn : Func} {p u : Tmp} (h : fn.results = #[.cell p 27, .cell u 35]) (tmps : Array Value) {w : World} {g k : Nat} {s : Dg} {A : Option Addr} {n : Nat} {c : Nat} {fc fa : Int} {fp : Bool} (hp : tmps.getD p undef = .pointer (some ⟨g, 0, none⟩)) (hu : tmps.getD u undef = .pointer (some ⟨k, 0, none⟩))
    (hA : DgBox w g s A n c) (hF : FlBox w k fc fa fp) : (results fn tmps).run Tryd.prog w = .ok (.tuple #[.agg (dgv s A n c), .agg (flv fc fa fp)]) w := by
  rw [results_cell_cell h, hp, hu]
  simp [asAddr, run_loadVar_row w g 27 27 (dgv s A n c) (0, 0) _ hA Tryd.underlying27 rfl (dg_size s A n c), run_loadVar_row w k 35 35 (flv fc fa fp) (0, 0) _ hF Tryd.underlying35 rfl (fl_size fc fa fp)]
section
variable {o : Oper} {a : Act} {w : World} {K : Act → World → Prop} {Q : Exit → Act → World → Prop}
theorem wp_load_dgF (x : Operand) (ho : o.op = .load 27 x) {g : Nat} {s : Dg} {A : Option Addr} {n : Nat} {c : Nat} (hx : a.eval x = .pointer (some ⟨g, 0, none⟩)) (hA : DgBox w g s A n c)
    (h : K (a.put o.dst (.agg (dgv s A n c))) w) : o.wp Tryd.prog a w K Q :=
  wp_load_mid (P := Tryd.prog) 27 x ho g 0 hx (dgv s A n c).toList _ hA.range Tryd.underlying27 rfl (by simpa using dg_size s A n c) (by simpa using h)
theorem wp_store_dgF (x y : Operand) (ho : o.op = .store 27 x y) {g : Nat} (s : Dg) (A : Option Addr) (n : Nat) (c : Nat) {s0 : Dg} {A0 : Option Addr} {n0 : Nat} {c0 : Nat}
    (hx : a.eval x = .pointer (some ⟨g, 0, none⟩)) (hy : a.eval y = .agg (dgv s A n c)) (hA : DgBox w g s0 A0 n0 c0)
    (h : ∀ w', DgBox w' g s A n c → (∀ k, k ≠ g → w'.heap[k]? = w.heap[k]?) → (∀ B w0, B ≤ g → Below B w0 w → Below B w0 w') → K (a.put o.dst undef) w') : o.wp Tryd.prog a w K Q :=
  wp_store_row 27 x y ho g (dgv s A n c) hx hy 27 _ hA (dg_size s A n c) rfl (dg_one s A n c)
    (h _ (setRow_heap w g _ _ _ _ hA) (fun k hk => setRow_other w g k _ hk) (fun _ _ hB hb => below_setRow hb hB _))
theorem wp_alloc_dgF (ho : o.op = .alloc 27)
    (h : ∀ w', DgBox w' w.heap.size .zero none 0 0 → Below w.heap.size w w' → K (a.put o.dst (.pointer (some ⟨w.heap.size, 0, none⟩))) w') : o.wp Tryd.prog a w K Q := by
  have h1 := h (w.alloc (.cells (dgv .zero none 0 0) 27)) (DgBox.new w _ _ _ _) ((Below.refl _ w).alloc (Nat.le_refl _) _)
  obtain ⟨dst, op, ty, pos, after, guard⟩ := o
  simp only at ho
  subst ho
  unfold dgv Dg.zero at h1
  go_simp
  exact h1
end
theorem wpList_load_dg_w {ops : Array Oper} {rest : List Oper} {o : Oper} {a : Act} {w : World} {Q : Exit → Act → World → Prop} (hw : Region.wanted o (yielded ops a.tmps) = true) (x : Operand) (ho : o.op = .load 27 x) {g : Nat} {s : Dg} {A : Option Addr} {n : Nat} {c : Nat}
    (hx : a.eval x = .pointer (some ⟨g, 0, none⟩)) (hA : DgBox w g s A n c) (h : wpList Tryd.prog ops Q rest (a.put o.dst (.agg (dgv s A n c))) w) : wpList Tryd.prog ops Q (o :: rest) a w := by
  have h1 := wp_load_dgF (o := o) (a := a) (w := w) (K := wpList Tryd.prog ops Q rest) (Q := Q) x ho hx hA h
  unfold wpList
  rw [if_pos hw]
  exact .inl h1
theorem Bs.farDg {w w' : World} {g : Nat} {s : Dg} {A1 : Option Addr} {n1 : Nat} {c1 : Nat} {B : Option Addr} {m d : Nat} {l : List UInt8} (h : Bs w B m d l) (hg : DgBox w g s A1 n1 c1) (hh : ∀ k, k ≠ g → w'.heap[k]? = w.heap[k]?) : Bs w' B m d l :=
  h.farCells hg (fun j x => by
    match j with
    | 0 | 1 | 2 => simp [dgv]
    | j + 3 => simp [dgv]) hh
theorem Tells.farDg {w w' : World} {g : Nat} {s : Dg} {A : Option Addr} {n : Nat} {c : Nat} {v : Value} {f : Fl} (h : Tells w v f) (hg : DgBox w g s A n c) (hh : ∀ k, k ≠ g → w'.heap[k]? = w.heap[k]?) : Tells w' v f := h.far hg (by decide) hh
end Go.Proofs.YtkeggeiliachgaaDoor
