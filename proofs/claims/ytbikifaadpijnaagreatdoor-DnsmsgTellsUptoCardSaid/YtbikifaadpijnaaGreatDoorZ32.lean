/-
  The numbers of a head as a value, and in a box. No conditions.
  An api.Message as a value, and in a box. No conditions.
-/
import Derived.Test.YtbikifaadpijnaaGreatDoorZ25
import Derived.Test.YtbikifaadpijnaaGreatDoorZ09
import Derived.Test.YtbikifaadpijnaaGreatDoorZ31
namespace Go.Proofs.YtbikifaadpijnaaGreatDoor
open Go.RowKit
set_option maxRecDepth 100000

/-- The cells. -/
def hdv (hn : Nat → Int) : Array Value := #[.int .i64 (hn 0), .int .i64 (hn 1), .int .i64 (hn 2), .int .i64 (hn 3), .int .i64 (hn 4), .int .i64 (hn 5)]
/-- A block that holds them. -/
def HxBox (w : World) (g : Nat) (hn : Nat → Int) : Prop := w.heap[g]? = some (.cells (hdv hn) 61 (0, 0))
section
variable {w w' : World} {g : Nat} {hn : Nat → Int}
theorem HxBox.lt (H : HxBox w g hn) : g < w.heap.size := (Array.getElem?_eq_some_iff.1 H).1
theorem HxBox.later {B : Nat} (H : HxBox w g hn) (hb : Below B w w') (hB : w.heap.size ≤ B) : HxBox w' g hn := (hb.block g (by have := H.lt; omega)).trans H
theorem HxBox.same (H : HxBox w g hn) (hh : w'.heap[g]? = w.heap[g]?) : HxBox w' g hn := hh.trans H
theorem HxBox.new (w : World) (hn : Nat → Int) : HxBox (w.alloc (.cells (hdv hn) 61)) w.heap.size hn := heap_alloc_last w _
theorem HxBox.range (H : HxBox w g hn) : w.rangeAt g 0 (hdv hn).toList := fun j v hj => by
  rw [cell_of_row w g (0 + j) _ _ _ H, Nat.zero_add, ← Array.getElem?_toList]; exact hj
theorem HxBox.cell (H : HxBox w g hn) (j : Nat) : w.cell? ⟨g, j, none⟩ = (hdv hn)[j]? := cell_of_row w g j _ _ _ H
theorem HxBox.frozen (H : HxBox w g hn) (j : Nat) : w.frozen? ⟨g, j, none⟩ = false := by unfold HxBox at H; simp [World.frozen?, H]
end
theorem hd_size (hn : Nat → Int) : (Tryz.prog.info? 61).map (·.size) = some (hdv hn).size := by
  show _ = some 6
  kernel_rfl
theorem hd_one (hn : Nat → Int) : (hdv hn).all (·.oneCell') = true := by simp [hdv, Value.oneCell']
section
variable {ops : Array Oper} {rest : List Oper} {o : Oper} {a : Act} {w : World} {Q : Exit → Act → World → Prop}
theorem wpList_alloc_hd (hgd : o.guard = none) (ho : o.op = .alloc 61)
    (h : ∀ w', HxBox w' w.heap.size (fun _ => 0) → Below w.heap.size w w' → w'.heap.size = w.heap.size + 1 → wpList Tryz.prog ops Q rest (a.put o.dst (.pointer (some ⟨w.heap.size, 0, none⟩))) w') : wpList Tryz.prog ops Q (o :: rest) a w :=
  wpList_plain hgd fun _ hK => by
    have h1 := hK _ _ (h (w.alloc (.cells (hdv (fun _ => 0)) 61)) (HxBox.new w _) ((Below.refl _ w).alloc (Nat.le_refl _) _) (by simp))
    obtain ⟨dst, op, ty, pos, after, guard⟩ := o
    simp only at ho
    subst ho
    unfold hdv  at h1
    go_simp
    exact h1
theorem wpList_store_hd (hgd : o.guard = none) (x y : Operand) (ho : o.op = .store 61 x y) {g : Nat} (hn : Nat → Int) {hn0 : Nat → Int}
    (hx : a.eval x = .pointer (some ⟨g, 0, none⟩)) (hy : a.eval y = .agg (hdv hn)) (hA : HxBox w g hn0)
    (h : ∀ w', HxBox w' g hn → (∀ k, k ≠ g → w'.heap[k]? = w.heap[k]?) → w'.heap.size = w.heap.size → (∀ B w0, B ≤ g → Below B w0 w → Below B w0 w') → wpList Tryz.prog ops Q rest (a.put o.dst undef) w') : wpList Tryz.prog ops Q (o :: rest) a w :=
  wpList_store_row hgd 61 x y ho g (hdv hn) hx hy 61 _ hA (hd_size hn) rfl (hd_one hn)
    (h _ (setRow_heap w g _ _ _ _ hA) (fun k hk => setRow_other w g k _ hk) (size_setRow w g _) (fun _ _ hB hb => below_setRow hb hB _))
theorem wpList_load_hd (hgd : o.guard = none) (x : Operand) (ho : o.op = .load 61 x) {g : Nat} {hn : Nat → Int} (hx : a.eval x = .pointer (some ⟨g, 0, none⟩)) (hA : HxBox w g hn)
    (h : wpList Tryz.prog ops Q rest (a.put o.dst (.agg (hdv hn))) w) : wpList Tryz.prog ops Q (o :: rest) a w :=
  wpList_load_row hgd 61 x ho g hx 61 (hdv hn) (0, 0) _ hA Tryz.underlying61 rfl (hd_size hn) h
theorem run_build_hd (hn : Nat → Int) (w : World) : (Instr.build 61 #[(0, .int .i64 (hn 0)), (1, .int .i64 (hn 1)), (2, .int .i64 (hn 2)), (3, .int .i64 (hn 3)), (4, .int .i64 (hn 4)), (5, .int .i64 (hn 5))]).run Tryz.prog w = .ok (.agg (hdv hn)) w := by kernel_rfl
/-- Built of all its parts. -/
theorem wp_build_hd {K : Act → World → Prop} (x0 x1 x2 x3 x4 x5 : Operand) (ho : o.op = .build 61 #[(0, x0), (1, x1), (2, x2), (3, x3), (4, x4), (5, x5)]) (hn : Nat → Int) (h0 : a.eval x0 = .int .i64 (hn 0)) (h1 : a.eval x1 = .int .i64 (hn 1)) (h2 : a.eval x2 = .int .i64 (hn 2)) (h3 : a.eval x3 = .int .i64 (hn 3)) (h4 : a.eval x4 = .int .i64 (hn 4)) (h5 : a.eval x5 = .int .i64 (hn 5))
    (h : K (a.put o.dst (.agg (hdv hn))) w) : o.wp Tryz.prog a w K Q := by
  have hrun := run_build_hd hn w
  unfold Oper.wp execOp
  simp only [ho, Sem.run_bind, Sem.run_pure, Result.andThen_ok, List.map_toArray, List.map_cons, List.map_nil, h0, h1, h2, h3, h4, h5, hrun]
  exact h
theorem wpList_build_hd (hgd : o.guard = none) (x0 x1 x2 x3 x4 x5 : Operand) (ho : o.op = .build 61 #[(0, x0), (1, x1), (2, x2), (3, x3), (4, x4), (5, x5)]) (hn : Nat → Int) (h0 : a.eval x0 = .int .i64 (hn 0)) (h1 : a.eval x1 = .int .i64 (hn 1)) (h2 : a.eval x2 = .int .i64 (hn 2)) (h3 : a.eval x3 = .int .i64 (hn 3)) (h4 : a.eval x4 = .int .i64 (hn 4)) (h5 : a.eval x5 = .int .i64 (hn 5))
    (h : wpList Tryz.prog ops Q rest (a.put o.dst (.agg (hdv hn))) w) : wpList Tryz.prog ops Q (o :: rest) a w :=
  wpList_plain hgd fun _ hK => wp_build_hd x0 x1 x2 x3 x4 x5 ho hn h0 h1 h2 h3 h4 h5 (hK _ _ h)
end
theorem results_hd_tmp {fn : Func} {p u : Tmp} (h : fn.results = #[.cell p 61, .tmp u]) (tmps : Array Value) {w : World} {g : Nat} {hn : Nat → Int} (hp : tmps.getD p undef = .pointer (some ⟨g, 0, none⟩)) (hA : HxBox w g hn) :
    (results fn tmps).run Tryz.prog w = .ok (.tuple #[.agg (hdv hn), tmps.getD u undef]) w := by
  rw [results_cell_tmp h, hp]
  simp [asAddr, run_loadVar_row w g 61 61 (hdv hn) (0, 0) _ hA Tryz.underlying61 rfl (hd_size hn)]
section
variable {o : Oper} {a : Act} {w : World} {K : Act → World → Prop} {Q : Exit → Act → World → Prop}
theorem wp_load_hdF (x : Operand) (ho : o.op = .load 61 x) {g : Nat} {hn : Nat → Int} (hx : a.eval x = .pointer (some ⟨g, 0, none⟩)) (hA : HxBox w g hn)
    (h : K (a.put o.dst (.agg (hdv hn))) w) : o.wp Tryz.prog a w K Q :=
  wp_load_mid (P := Tryz.prog) 61 x ho g 0 hx (hdv hn).toList _ hA.range Tryz.underlying61 rfl (by simpa using hd_size hn) (by simpa using h)
theorem wp_store_hdF (x y : Operand) (ho : o.op = .store 61 x y) {g : Nat} (hn : Nat → Int) {hn0 : Nat → Int}
    (hx : a.eval x = .pointer (some ⟨g, 0, none⟩)) (hy : a.eval y = .agg (hdv hn)) (hA : HxBox w g hn0)
    (h : ∀ w', HxBox w' g hn → (∀ k, k ≠ g → w'.heap[k]? = w.heap[k]?) → (∀ B w0, B ≤ g → Below B w0 w → Below B w0 w') → K (a.put o.dst undef) w') : o.wp Tryz.prog a w K Q :=
  wp_store_row 61 x y ho g (hdv hn) hx hy 61 _ hA (hd_size hn) rfl (hd_one hn)
    (h _ (setRow_heap w g _ _ _ _ hA) (fun k hk => setRow_other w g k _ hk) (fun _ _ hB hb => below_setRow hb hB _))
theorem wp_alloc_hdF (ho : o.op = .alloc 61)
    (h : ∀ w', HxBox w' w.heap.size (fun _ => 0) → Below w.heap.size w w' → K (a.put o.dst (.pointer (some ⟨w.heap.size, 0, none⟩))) w') : o.wp Tryz.prog a w K Q := by
  have h1 := h (w.alloc (.cells (hdv (fun _ => 0)) 61)) (HxBox.new w _) ((Below.refl _ w).alloc (Nat.le_refl _) _)
  obtain ⟨dst, op, ty, pos, after, guard⟩ := o
  simp only at ho
  subst ho
  unfold hdv  at h1
  go_simp
  exact h1
end
theorem wpList_load_hd_w {ops : Array Oper} {rest : List Oper} {o : Oper} {a : Act} {w : World} {Q : Exit → Act → World → Prop} (hw : Region.wanted o (yielded ops a.tmps) = true) (x : Operand) (ho : o.op = .load 61 x) {g : Nat} {hn : Nat → Int}
    (hx : a.eval x = .pointer (some ⟨g, 0, none⟩)) (hA : HxBox w g hn) (h : wpList Tryz.prog ops Q rest (a.put o.dst (.agg (hdv hn))) w) : wpList Tryz.prog ops Q (o :: rest) a w := by
  have h1 := wp_load_hdF (o := o) (a := a) (w := w) (K := wpList Tryz.prog ops Q rest) (Q := Q) x ho hx hA h
  unfold wpList
  rw [if_pos hw]
  exact .inl h1
theorem Bs.farHx {w w' : World} {g : Nat} {hn : Nat → Int} {B : Option Addr} {m d : Nat} {l : List UInt8} (h : Bs w B m d l) (hg : HxBox w g hn) (hh : ∀ k, k ≠ g → w'.heap[k]? = w.heap[k]?) : Bs w' B m d l :=
  h.farCells hg (fun j x => by
    match j with
    | 0 | 1 | 2 | 3 | 4 | 5 => simp [hdv]
    | j + 6 => simp [hdv]) hh
theorem Tells.farHx {w w' : World} {g : Nat} {hn : Nat → Int} {v : Value} {f : Fl} (h : Tells w v f) (hg : HxBox w g hn) (hh : ∀ k, k ≠ g → w'.heap[k]? = w.heap[k]?) : Tells w' v f := h.far hg (by decide) hh
end Go.Proofs.YtbikifaadpijnaaGreatDoor

namespace Go.Proofs.YtbikifaadpijnaaGreatDoor
open Go.RowKit
set_option maxRecDepth 100000

/-- The cells. -/
def msv (mh : Mh) (sq : Sl) (sa : Sl) (su : Sl) (se : Sl) : Array Value := #[.int .i64 mh.id, .bool mh.reply, .int .i64 mh.opcode, .int .i64 mh.code, .int .i64 mh.flags, .slice sq.A sq.n sq.c, .slice sa.A sa.n sa.c, .slice su.A su.n su.c, .slice se.A se.n se.c]
/-- A block that holds them. -/
def MsBox (w : World) (g : Nat) (mh : Mh) (sq : Sl) (sa : Sl) (su : Sl) (se : Sl) : Prop := w.heap[g]? = some (.cells (msv mh sq sa su se) 26 (0, 0))
section
variable {w w' : World} {g : Nat} {mh : Mh} {sq : Sl} {sa : Sl} {su : Sl} {se : Sl}
theorem MsBox.lt (H : MsBox w g mh sq sa su se) : g < w.heap.size := (Array.getElem?_eq_some_iff.1 H).1
theorem MsBox.later {B : Nat} (H : MsBox w g mh sq sa su se) (hb : Below B w w') (hB : w.heap.size ≤ B) : MsBox w' g mh sq sa su se := (hb.block g (by have := H.lt; omega)).trans H
theorem MsBox.same (H : MsBox w g mh sq sa su se) (hh : w'.heap[g]? = w.heap[g]?) : MsBox w' g mh sq sa su se := hh.trans H
theorem MsBox.new (w : World) (mh : Mh) (sq : Sl) (sa : Sl) (su : Sl) (se : Sl) : MsBox (w.alloc (.cells (msv mh sq sa su se) 26)) w.heap.size mh sq sa su se := heap_alloc_last w _
theorem MsBox.range (H : MsBox w g mh sq sa su se) : w.rangeAt g 0 (msv mh sq sa su se).toList := fun j v hj => by
  rw [cell_of_row w g (0 + j) _ _ _ H, Nat.zero_add, ← Array.getElem?_toList]; exact hj
theorem MsBox.cell (H : MsBox w g mh sq sa su se) (j : Nat) : w.cell? ⟨g, j, none⟩ = (msv mh sq sa su se)[j]? := cell_of_row w g j _ _ _ H
theorem MsBox.frozen (H : MsBox w g mh sq sa su se) (j : Nat) : w.frozen? ⟨g, j, none⟩ = false := by unfold MsBox at H; simp [World.frozen?, H]
end
theorem ms_size (mh : Mh) (sq : Sl) (sa : Sl) (su : Sl) (se : Sl) : (Tryz.prog.info? 26).map (·.size) = some (msv mh sq sa su se).size := by
  show _ = some 9
  kernel_rfl
theorem ms_one (mh : Mh) (sq : Sl) (sa : Sl) (su : Sl) (se : Sl) : (msv mh sq sa su se).all (·.oneCell') = true := by simp [msv, Value.oneCell']
section
variable {ops : Array Oper} {rest : List Oper} {o : Oper} {a : Act} {w : World} {Q : Exit → Act → World → Prop}
theorem wpList_alloc_ms (hgd : o.guard = none) (ho : o.op = .alloc 26)
    (h : ∀ w', MsBox w' w.heap.size .zero .zero .zero .zero .zero → Below w.heap.size w w' → w'.heap.size = w.heap.size + 1 → wpList Tryz.prog ops Q rest (a.put o.dst (.pointer (some ⟨w.heap.size, 0, none⟩))) w') : wpList Tryz.prog ops Q (o :: rest) a w :=
  wpList_plain hgd fun _ hK => by
    have h1 := hK _ _ (h (w.alloc (.cells (msv .zero .zero .zero .zero .zero) 26)) (MsBox.new w _ _ _ _ _) ((Below.refl _ w).alloc (Nat.le_refl _) _) (by simp))
    obtain ⟨dst, op, ty, pos, after, guard⟩ := o
    simp only at ho
    subst ho
    unfold msv Mh.zero Sl.zero at h1
    go_simp
    exact h1
theorem wpList_store_ms (hgd : o.guard = none) (x y : Operand) (ho : o.op = .store 26 x y) {g : Nat} (mh : Mh) (sq : Sl) (sa : Sl) (su : Sl) (se : Sl) {mh0 : Mh} {sq0 : Sl} {sa0 : Sl} {su0 : Sl} {se0 : Sl}
    (hx : a.eval x = .pointer (some ⟨g, 0, none⟩)) (hy : a.eval y = .agg (msv mh sq sa su se)) (hA : MsBox w g mh0 sq0 sa0 su0 se0)
    (h : ∀ w', MsBox w' g mh sq sa su se → (∀ k, k ≠ g → w'.heap[k]? = w.heap[k]?) → w'.heap.size = w.heap.size → (∀ B w0, B ≤ g → Below B w0 w → Below B w0 w') → wpList Tryz.prog ops Q rest (a.put o.dst undef) w') : wpList Tryz.prog ops Q (o :: rest) a w :=
  wpList_store_row hgd 26 x y ho g (msv mh sq sa su se) hx hy 26 _ hA (ms_size mh sq sa su se) rfl (ms_one mh sq sa su se)
    (h _ (setRow_heap w g _ _ _ _ hA) (fun k hk => setRow_other w g k _ hk) (size_setRow w g _) (fun _ _ hB hb => below_setRow hb hB _))
theorem wpList_load_ms (hgd : o.guard = none) (x : Operand) (ho : o.op = .load 26 x) {g : Nat} {mh : Mh} {sq : Sl} {sa : Sl} {su : Sl} {se : Sl} (hx : a.eval x = .pointer (some ⟨g, 0, none⟩)) (hA : MsBox w g mh sq sa su se)
    (h : wpList Tryz.prog ops Q rest (a.put o.dst (.agg (msv mh sq sa su se))) w) : wpList Tryz.prog ops Q (o :: rest) a w :=
  wpList_load_row hgd 26 x ho g hx 26 (msv mh sq sa su se) (0, 0) _ hA Tryz.underlying26 rfl (ms_size mh sq sa su se) h
theorem run_build_ms (mh : Mh) (sq : Sl) (sa : Sl) (su : Sl) (se : Sl) (w : World) : (Instr.build 26 #[(0, .int .i64 mh.id), (1, .bool mh.reply), (2, .int .i64 mh.opcode), (3, .int .i64 mh.code), (4, .int .i64 mh.flags), (5, .slice sq.A sq.n sq.c), (6, .slice sa.A sa.n sa.c), (7, .slice su.A su.n su.c), (8, .slice se.A se.n se.c)]).run Tryz.prog w = .ok (.agg (msv mh sq sa su se)) w := by kernel_rfl
/-- Built of all its parts. -/
theorem wp_build_ms {K : Act → World → Prop} (x0 x1 x2 x3 x4 x5 x6 x7 x8 : Operand) (ho : o.op = .build 26 #[(0, x0), (1, x1), (2, x2), (3, x3), (4, x4), (5, x5), (6, x6), (7, x7), (8, x8)]) (mh : Mh) (sq : Sl) (sa : Sl) (su : Sl) (se : Sl) (h0 : a.eval x0 = .int .i64 mh.id) (h1 : a.eval x1 = .bool mh.reply) (h2 : a.eval x2 = .int .i64 mh.opcode) (h3 : a.eval x3 = .int .i64 mh.code) (h4 : a.eval x4 = .int .i64 mh.flags) (h5 : a.eval x5 = .slice sq.A sq.n sq.c) (h6 : a.eval x6 = .slice sa.A sa.n sa.c) (h7 : a.eval x7 = .slice su.A su.n su.c) (h8 : a.eval x8 = .slice se.A se.n se.c)
    (h : K (a.put o.dst (.agg (msv mh sq sa su se))) w) : o.wp Tryz.prog a w K Q := by
  have hrun := run_build_ms mh sq sa su se w
  unfold Oper.wp execOp
  simp only [ho, Sem.run_bind, Sem.run_pure, Result.andThen_ok, List.map_toArray, List.map_cons, List.map_nil, h0, h1, h2, h3, h4, h5, h6, h7, h8, hrun]
  exact h
theorem wpList_build_ms (hgd : o.guard = none) (x0 x1 x2 x3 x4 x5 x6 x7 x8 : Operand) (ho : o.op = .build 26 #[(0, x0), (1, x1), (2, x2), (3, x3), (4, x4), (5, x5), (6, x6), (7, x7), (8, x8)]) (mh : Mh) (sq : Sl) (sa : Sl) (su : Sl) (se : Sl) (h0 : a.eval x0 = .int .i64 mh.id) (h1 : a.eval x1 = .bool mh.reply) (h2 : a.eval x2 = .int .i64 mh.opcode) (h3 : a.eval x3 = .int .i64 mh.code) (h4 : a.eval x4 = .int .i64 mh.flags) (h5 : a.eval x5 = .slice sq.A sq.n sq.c) (h6 : a.eval x6 = .slice sa.A sa.n sa.c) (h7 : a.eval x7 = .slice su.A su.n su.c) (h8 : a.eval x8 = .slice se.A se.n se.c)
    (h : wpList Tryz.prog ops Q rest (a.put o.dst (.agg (msv mh sq sa su se))) w) : wpList Tryz.prog ops Q (o :: rest) a w :=
  wpList_plain hgd fun _ hK => wp_build_ms x0 x1 x2 x3 x4 x5 x6 x7 x8 ho mh sq sa su se h0 h1 h2 h3 h4 h5 h6 h7 h8 (hK _ _ h)
end
theorem results_ms_tmp {fn : Func} {p u : Tmp} (h : fn.results = #[.cell p 26, .tmp u]) (tmps : Array Value) {w : World} {g : Nat} {mh : Mh} {sq : Sl} {sa : Sl} {su : Sl} {se : Sl} (hp : tmps.getD p undef = .pointer (some ⟨g, 0, none⟩)) (hA : MsBox w g mh sq sa su se) :
    (results fn tmps).run Tryz.prog w = .ok (.tuple #[.agg (msv mh sq sa su se), tmps.getD u undef]) w := by
  rw [results_cell_tmp h, hp]
  simp [asAddr, run_loadVar_row w g 26 26 (msv mh sq sa su se) (0, 0) _ hA Tryz.underlying26 rfl (ms_size mh sq sa su se)]
theorem results_ms_fl {fn : Func} {p u : Tmp} (h : fn.results = #[.cell p 26, .cell u 36]) (tmps : Array Value) {w : World} {g k : Nat} {mh : Mh} {sq : Sl} {sa : Sl} {su : Sl} {se : Sl} {fc fa : Int} {fp : Bool} (hp : tmps.getD p undef = .pointer (some ⟨g, 0, none⟩)) (hu : tmps.getD u undef = .pointer (some ⟨k, 0, none⟩))
    (hA : MsBox w g mh sq sa su se) (hF : FlBox w k fc fa fp) : (results fn tmps).run Tryz.prog w = .ok (.tuple #[.agg (msv mh sq sa su se), .agg (flv fc fa fp)]) w := by
  rw [results_cell_cell h, hp, hu]
  simp [asAddr, run_loadVar_row w g 26 26 (msv mh sq sa su se) (0, 0) _ hA Tryz.underlying26 rfl (ms_size mh sq sa su se), run_loadVar_row w k 36 36 (flv fc fa fp) (0, 0) _ hF Tryz.underlying36 rfl (fl_size fc fa fp)]
section
variable {o : Oper} {a : Act} {w : World} {K : Act → World → Prop} {Q : Exit → Act → World → Prop}
theorem wp_load_msF (x : Operand) (ho : o.op = .load 26 x) {g : Nat} {mh : Mh} {sq : Sl} {sa : Sl} {su : Sl} {se : Sl} (hx : a.eval x = .pointer (some ⟨g, 0, none⟩)) (hA : MsBox w g mh sq sa su se)
    (h : K (a.put o.dst (.agg (msv mh sq sa su se))) w) : o.wp Tryz.prog a w K Q :=
  wp_load_mid (P := Tryz.prog) 26 x ho g 0 hx (msv mh sq sa su se).toList _ hA.range Tryz.underlying26 rfl (by simpa using ms_size mh sq sa su se) (by simpa using h)
theorem wp_store_msF (x y : Operand) (ho : o.op = .store 26 x y) {g : Nat} (mh : Mh) (sq : Sl) (sa : Sl) (su : Sl) (se : Sl) {mh0 : Mh} {sq0 : Sl} {sa0 : Sl} {su0 : Sl} {se0 : Sl}
    (hx : a.eval x = .pointer (some ⟨g, 0, none⟩)) (hy : a.eval y = .agg (msv mh sq sa su se)) (hA : MsBox w g mh0 sq0 sa0 su0 se0)
    (h : ∀ w', MsBox w' g mh sq sa su se → (∀ k, k ≠ g → w'.heap[k]? = w.heap[k]?) → (∀ B w0, B ≤ g → Below B w0 w → Below B w0 w') → K (a.put o.dst undef) w') : o.wp Tryz.prog a w K Q :=
  wp_store_row 26 x y ho g (msv mh sq sa su se) hx hy 26 _ hA (ms_size mh sq sa su se) rfl (ms_one mh sq sa su se)
    (h _ (setRow_heap w g _ _ _ _ hA) (fun k hk => setRow_other w g k _ hk) (fun _ _ hB hb => below_setRow hb hB _))
theorem wp_alloc_msF (ho : o.op = .alloc 26)
    (h : ∀ w', MsBox w' w.heap.size .zero .zero .zero .zero .zero → Below w.heap.size w w' → K (a.put o.dst (.pointer (some ⟨w.heap.size, 0, none⟩))) w') : o.wp Tryz.prog a w K Q := by
  have h1 := h (w.alloc (.cells (msv .zero .zero .zero .zero .zero) 26)) (MsBox.new w _ _ _ _ _) ((Below.refl _ w).alloc (Nat.le_refl _) _)
  obtain ⟨dst, op, ty, pos, after, guard⟩ := o
  simp only at ho
  subst ho
  unfold msv Mh.zero Sl.zero at h1
  go_simp
  exact h1
end
theorem wpList_load_ms_w {ops : Array Oper} {rest : List Oper} {o : Oper} {a : Act} {w : World} {Q : Exit → Act → World → Prop} (hw : Region.wanted o (yielded ops a.tmps) = true) (x : Operand) (ho : o.op = .load 26 x) {g : Nat} {mh : Mh} {sq : Sl} {sa : Sl} {su : Sl} {se : Sl}
    (hx : a.eval x = .pointer (some ⟨g, 0, none⟩)) (hA : MsBox w g mh sq sa su se) (h : wpList Tryz.prog ops Q rest (a.put o.dst (.agg (msv mh sq sa su se))) w) : wpList Tryz.prog ops Q (o :: rest) a w := by
  have h1 := wp_load_msF (o := o) (a := a) (w := w) (K := wpList Tryz.prog ops Q rest) (Q := Q) x ho hx hA h
  unfold wpList
  rw [if_pos hw]
  exact .inl h1
theorem Bs.farMs {w w' : World} {g : Nat} {mh : Mh} {sq : Sl} {sa : Sl} {su : Sl} {se : Sl} {B : Option Addr} {m d : Nat} {l : List UInt8} (h : Bs w B m d l) (hg : MsBox w g mh sq sa su se) (hh : ∀ k, k ≠ g → w'.heap[k]? = w.heap[k]?) : Bs w' B m d l :=
  h.farCells hg (fun j x => by
    match j with
    | 0 | 1 | 2 | 3 | 4 | 5 | 6 | 7 | 8 => simp [msv]
    | j + 9 => simp [msv]) hh
theorem Tells.farMs {w w' : World} {g : Nat} {mh : Mh} {sq : Sl} {sa : Sl} {su : Sl} {se : Sl} {v : Value} {f : Fl} (h : Tells w v f) (hg : MsBox w g mh sq sa su se) (hh : ∀ k, k ≠ g → w'.heap[k]? = w.heap[k]?) : Tells w' v f := h.far hg (by decide) hh
end Go.Proofs.YtbikifaadpijnaaGreatDoor
