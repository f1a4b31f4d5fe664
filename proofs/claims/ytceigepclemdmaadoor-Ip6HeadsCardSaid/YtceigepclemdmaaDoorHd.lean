/-
  An api.Head as a value, and in a box. No conditions.
-/
import Derived.Test.YtceigepclemdmaaDoorSpec7
import Derived.Test.YtceigepclemdmaaDoorAdrL
import Derived.Test.YtceigepclemdmaaDoorTell
namespace Go.Proofs.YtceigepclemdmaaDoor
open Go.RowKit
set_option maxRecDepth 100000

/-- The cells of a head. -/
def hdv (h : Hd) : Array Value := (adv h.v6 h.src).append ((adv h.v6 h.dst).append #[.int .i64 h.proto, .int .i64 h.from_, .int .i64 h.to])
theorem ex16 {bs : List UInt8} (h : bs.length = 16) : ∃ a0 a1 a2 a3 a4 a5 a6 a7 a8 a9 a10 a11 a12 a13 a14 a15, bs = [a0, a1, a2, a3, a4, a5, a6, a7, a8, a9, a10, a11, a12, a13, a14, a15] := by
  match bs, h with
  | [a0, a1, a2, a3, a4, a5, a6, a7, a8, a9, a10, a11, a12, a13, a14, a15], _ => exact ⟨_, _, _, _, _, _, _, _, _, _, _, _, _, _, _, _, rfl⟩
theorem hdv_list (h : Hd) : (hdv h).toList = (.bool h.v6 :: bv h.src) ++ ((.bool h.v6 :: bv h.dst) ++ [.int .i64 h.proto, .int .i64 h.from_, .int .i64 h.to]) := by
  simp [hdv, adv]
theorem hdv_size {h : Hd} (hk : h.ok) : (hdv h).size = 37 := by
  rw [← Array.length_toList, hdv_list]
  simp [bv_length, hk.1, hk.2]
theorem hdv_one (h : Hd) : (hdv h).all (·.oneCell') = true :=
  Array.all_eq_true_iff_forall_mem.2 fun v hv => by
    rw [← Array.mem_toList_iff, hdv_list] at hv
    rcases List.mem_append.1 hv with hv | hv
    · rcases List.mem_cons.1 hv with rfl | hv
      · rfl
      · exact bv_one _ v hv
    · rcases List.mem_append.1 hv with hv | hv
      · rcases List.mem_cons.1 hv with rfl | hv
        · rfl
        · exact bv_one _ v hv
      · simp only [List.mem_cons, List.not_mem_nil, or_false] at hv
        rcases hv with rfl | rfl | rfl <;> rfl
/-- A block that holds a head. -/
def HdBox (w : World) (g : Nat) (h : Hd) : Prop := w.heap[g]? = some (.cells (hdv h) 29 (0, 0)) ∧ h.ok
section
variable {w w' : World} {g : Nat} {h : Hd}
theorem HdBox.lt (H : HdBox w g h) : g < w.heap.size := (Array.getElem?_eq_some_iff.1 H.1).1
theorem HdBox.later {B : Nat} (H : HdBox w g h) (hb : Below B w w') (hB : w.heap.size ≤ B) : HdBox w' g h := ⟨(hb.block g (by have := H.lt; omega)).trans H.1, H.2⟩
theorem HdBox.same (H : HdBox w g h) (hh : w'.heap[g]? = w.heap[g]?) : HdBox w' g h := ⟨hh.trans H.1, H.2⟩
theorem HdBox.new (w : World) (hk : h.ok) : HdBox (w.alloc (.cells (hdv h) 29)) w.heap.size h := ⟨heap_alloc_last w _, hk⟩
theorem HdBox.range (H : HdBox w g h) : w.rangeAt g 0 (hdv h).toList := fun j v hj => by
  rw [cell_of_row w g (0 + j) _ _ _ H.1, Nat.zero_add, ← Array.getElem?_toList]; exact hj
theorem HdBox.cell (H : HdBox w g h) {j : Nat} {v : Value} (hj : (hdv h).toList[j]? = some v) : w.cell? ⟨g, j, none⟩ = some v := by
  rw [cell_of_row w g j _ _ _ H.1, ← Array.getElem?_toList]; exact hj
theorem HdBox.proto (H : HdBox w g h) : w.cell? ⟨g, 34, none⟩ = some (.int .i64 h.proto) := H.cell (by
  obtain ⟨_, _, _, _, _, _, _, _, _, _, _, _, _, _, _, _, e1⟩ := ex16 H.2.1
  obtain ⟨_, _, _, _, _, _, _, _, _, _, _, _, _, _, _, _, e2⟩ := ex16 H.2.2
  rw [hdv_list, e1, e2]; rfl)
theorem HdBox.from_ (H : HdBox w g h) : w.cell? ⟨g, 35, none⟩ = some (.int .i64 h.from_) := H.cell (by
  obtain ⟨_, _, _, _, _, _, _, _, _, _, _, _, _, _, _, _, e1⟩ := ex16 H.2.1
  obtain ⟨_, _, _, _, _, _, _, _, _, _, _, _, _, _, _, _, e2⟩ := ex16 H.2.2
  rw [hdv_list, e1, e2]; rfl)
theorem HdBox.to (H : HdBox w g h) : w.cell? ⟨g, 36, none⟩ = some (.int .i64 h.to) := H.cell (by
  obtain ⟨_, _, _, _, _, _, _, _, _, _, _, _, _, _, _, _, e1⟩ := ex16 H.2.1
  obtain ⟨_, _, _, _, _, _, _, _, _, _, _, _, _, _, _, _, e2⟩ := ex16 H.2.2
  rw [hdv_list, e1, e2]; rfl)
end
theorem hd_size {h : Hd} (hk : h.ok) : (Tryd.prog.info? 29).map (·.size) = some (hdv h).size := by rw [hdv_size hk]; kernel_rfl
theorem hd_zero_ok : Hd.zero.ok := ⟨rfl, rfl⟩
/-- Nothing, as the model writes it. -/
def hd0 : Array Value := #[.bool false, .int .u8 0, .int .u8 0, .int .u8 0, .int .u8 0, .int .u8 0, .int .u8 0, .int .u8 0, .int .u8 0, .int .u8 0, .int .u8 0, .int .u8 0, .int .u8 0, .int .u8 0, .int .u8 0, .int .u8 0, .int .u8 0, .bool false, .int .u8 0, .int .u8 0, .int .u8 0, .int .u8 0, .int .u8 0, .int .u8 0, .int .u8 0, .int .u8 0, .int .u8 0, .int .u8 0, .int .u8 0, .int .u8 0, .int .u8 0, .int .u8 0, .int .u8 0, .int .u8 0, .int .i64 0, .int .i64 0, .int .i64 0]
theorem hd0_eq : hdv .zero = hd0 := by kernel_rfl
/-- What tells an error stands, where another kind of block is written. -/
theorem Faults.far {w w' : World} {g : Nat} {cs : Array Value} {T : TypeId} (hg : w.heap[g]? = some (.cells cs T (0, 0))) (hT : T ≠ 74) (hh : ∀ k, k ≠ g → w'.heap[k]? = w.heap[k]?) {d : Nat} {v : Value} {fs : List (Nat × Int)} {n : Int} (h : Faults w d v fs n) : Faults w' d v fs n := by
  induction h with
  | errno n => exact .errno n
  | fault d b at_ v fs c h1 h2 h3 _ ih =>
    have hb : b ≠ g := by
      intro e
      subst e
      rw [hg] at h1
      injection h1 with h1
      injection h1 with _ h1 _
      exact hT h1
    exact .fault d b at_ v fs c ((hh b hb).trans h1) ((World.cell?_of_block (w := w) (hh b hb)).trans h2) ((World.cell?_of_block (w := w) (hh b hb)).trans h3) ih
theorem Tells.far {w w' : World} {g : Nat} {cs : Array Value} {T : TypeId} {v : Value} {f : Fl} (h : Tells w v f) (hg : w.heap[g]? = some (.cells cs T (0, 0))) (hT : T ≠ 74) (hh : ∀ k, k ≠ g → w'.heap[k]? = w.heap[k]?) : Tells w' v f := by
  rcases h with h | ⟨h0, d, fs, h1, h2⟩
  · exact .inl h
  · exact .inr ⟨h0, d, fs, h1.far hg hT hh, h2⟩
theorem Tells.farHd {w w' : World} {g : Nat} {h' : Hd} {v : Value} {f : Fl} (h : Tells w v f) (hg : HdBox w g h') (hh : ∀ k, k ≠ g → w'.heap[k]? = w.heap[k]?) : Tells w' v f := h.far hg.1 (by decide) hh
variable {ops : Array Oper} {rest : List Oper} {o : Oper} {a : Act} {w : World} {Q : Exit → Act → World → Prop}
theorem wpList_alloc_hd (hgd : o.guard = none) (ho : o.op = .alloc 29)
    (h : ∀ w', HdBox w' w.heap.size .zero → Below w.heap.size w w' → w'.heap.size = w.heap.size + 1 → wpList Tryd.prog ops Q rest (a.put o.dst (.pointer (some ⟨w.heap.size, 0, none⟩))) w') : wpList Tryd.prog ops Q (o :: rest) a w :=
  wpList_plain hgd fun _ hK => by
    have h1 := hK _ _ (h (w.alloc (.cells (hdv .zero) 29)) (HdBox.new w hd_zero_ok) ((Below.refl _ w).alloc (Nat.le_refl _) _) (by simp))
    rw [hd0_eq] at h1
    unfold hd0 at h1
    obtain ⟨dst, op, ty, pos, after, guard⟩ := o
    simp only at ho
    subst ho
    go_simp
    exact h1
theorem wpList_store_hd (hgd : o.guard = none) (x y : Operand) (ho : o.op = .store 29 x y) {g : Nat} (h' : Hd) {h0 : Hd}
    (hx : a.eval x = .pointer (some ⟨g, 0, none⟩)) (hy : a.eval y = .agg (hdv h')) (hk : h'.ok) (hA : HdBox w g h0)
    (h : ∀ w', HdBox w' g h' → (∀ k, k ≠ g → w'.heap[k]? = w.heap[k]?) → w'.heap.size = w.heap.size → (∀ B w0, B ≤ g → Below B w0 w → Below B w0 w') → wpList Tryd.prog ops Q rest (a.put o.dst undef) w') : wpList Tryd.prog ops Q (o :: rest) a w :=
  wpList_store_row hgd 29 x y ho g (hdv h') hx hy 29 _ hA.1 (hd_size hk) (by rw [hdv_size hA.2, hdv_size hk]) (hdv_one h')
    (h _ ⟨setRow_heap w g _ _ _ _ hA.1, hk⟩ (fun k hk => setRow_other w g k _ hk) (size_setRow w g _) (fun B w0 hB hb => below_setRow hb hB _))
theorem wpList_load_hd (hgd : o.guard = none) (x : Operand) (ho : o.op = .load 29 x) {g : Nat} {h' : Hd} (hx : a.eval x = .pointer (some ⟨g, 0, none⟩)) (hA : HdBox w g h')
    (h : wpList Tryd.prog ops Q rest (a.put o.dst (.agg (hdv h'))) w) : wpList Tryd.prog ops Q (o :: rest) a w :=
  wpList_load_row hgd 29 x ho g hx 29 (hdv h') (0, 0) _ hA.1 Tryd.underlying29 rfl (hd_size hA.2) h
theorem run_build_hd (v6 : Bool) {s d : List UInt8} (hs : s.length = 16) (hd : d.length = 16) (p f t : Int) (w : World) :
    (Instr.build 29 #[(0, .agg (adv v6 s)), (1, .agg (adv v6 d)), (2, .int .i64 p), (3, .int .i64 f), (4, .int .i64 t)]).run Tryd.prog w = .ok (.agg (hdv ⟨v6, s, d, p, f, t⟩)) w := by
  obtain ⟨_, _, _, _, _, _, _, _, _, _, _, _, _, _, _, _, rfl⟩ := ex16 hs
  obtain ⟨_, _, _, _, _, _, _, _, _, _, _, _, _, _, _, _, rfl⟩ := ex16 hd
  kernel_rfl
/-- A head built of its parts. -/
theorem wpList_build_hd (hgd : o.guard = none) (x0 x1 x2 x3 x4 : Operand) (ho : o.op = .build 29 #[(0, x0), (1, x1), (2, x2), (3, x3), (4, x4)]) (v6 : Bool) {s d : List UInt8} {p f t : Int} (h0 : a.eval x0 = .agg (adv v6 s)) (h1 : a.eval x1 = .agg (adv v6 d)) (h2 : a.eval x2 = .int .i64 p) (h3 : a.eval x3 = .int .i64 f) (h4 : a.eval x4 = .int .i64 t) (hs : s.length = 16) (hd : d.length = 16)
    (h : wpList Tryd.prog ops Q rest (a.put o.dst (.agg (hdv ⟨v6, s, d, p, f, t⟩))) w) : wpList Tryd.prog ops Q (o :: rest) a w :=
  wpList_plain hgd fun _ hK => by
    have hrun := run_build_hd v6 hs hd p f t w
    unfold Oper.wp execOp
    simp only [ho, Sem.run_bind, Sem.run_pure, Result.andThen_ok, List.map_toArray, List.map_cons, List.map_nil, h0, h1, h2, h3, h4, hrun]
    exact hK _ _ h
theorem results_hd_tmp {fn : Func} {p u : Tmp} (h : fn.results = #[.cell p 29, .tmp u]) (tmps : Array Value) {w : World} {g : Nat} {h' : Hd} (hp : tmps.getD p undef = .pointer (some ⟨g, 0, none⟩)) (hA : HdBox w g h') :
    (results fn tmps).run Tryd.prog w = .ok (.tuple #[.agg (hdv h'), tmps.getD u undef]) w := by
  rw [results_cell_tmp h, hp]
  simp [asAddr, run_loadVar_row w g 29 29 (hdv h') (0, 0) _ hA.1 Tryd.underlying29 rfl (hd_size hA.2)]
end Go.Proofs.YtceigepclemdmaaDoor
