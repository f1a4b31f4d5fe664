/-
  A net's box in a plain region: made, stored into, loaded, handed back beside an error. No conditions.
-/
import Derived.Test.YtjegeiaabkheiaaGreatDoorRNet
namespace Go.Proofs.YtjegeiaabkheiaaGreatDoor
open Go.RowKit
set_option maxRecDepth 100000

theorem explicit16 {bs : List UInt8} (h : bs.length = 16) : ∃ a0 a1 a2 a3 a4 a5 a6 a7 a8 a9 a10 a11 a12 a13 a14 a15, bs = [a0, a1, a2, a3, a4, a5, a6, a7, a8, a9, a10, a11, a12, a13, a14, a15] := by
  match bs, h with
  | [a0, a1, a2, a3, a4, a5, a6, a7, a8, a9, a10, a11, a12, a13, a14, a15], _ => exact ⟨_, _, _, _, _, _, _, _, _, _, _, _, _, _, _, _, rfl⟩
theorem pxv_one (v6 : Bool) (bs : List UInt8) (n : Int) : (pxv v6 bs n).all (·.oneCell') = true :=
  Array.all_eq_true_iff_forall_mem.2 fun v hv => by
    simp only [pxv, List.mem_toArray, List.mem_cons, List.mem_append, List.mem_nil_iff, or_false] at hv
    rcases hv with rfl | hv | rfl
    · rfl
    · exact bv_one bs v hv
    · rfl
theorem px_zero : pxv false (List.replicate 16 0) 0 = #[Value.bool false, Value.int IntKind.u8 0, Value.int IntKind.u8 0, Value.int IntKind.u8 0, Value.int IntKind.u8 0, Value.int IntKind.u8 0, Value.int IntKind.u8 0, Value.int IntKind.u8 0, Value.int IntKind.u8 0, Value.int IntKind.u8 0, Value.int IntKind.u8 0, Value.int IntKind.u8 0, Value.int IntKind.u8 0, Value.int IntKind.u8 0, Value.int IntKind.u8 0, Value.int IntKind.u8 0, Value.int IntKind.u8 0, Value.int IntKind.i64 0] := rfl
/-- An address put into a net, as the model builds it. -/
theorem fold_px (v6 : Bool) {bs : List UInt8} (h : bs.length = 16) : Array.foldl (fun (cs : Array Value) (x : Value × Nat) => cs.setIfInBounds x.snd x.fst) #[Value.bool false, Value.int IntKind.u8 0, Value.int IntKind.u8 0, Value.int IntKind.u8 0, Value.int IntKind.u8 0, Value.int IntKind.u8 0, Value.int IntKind.u8 0, Value.int IntKind.u8 0, Value.int IntKind.u8 0, Value.int IntKind.u8 0, Value.int IntKind.u8 0, Value.int IntKind.u8 0, Value.int IntKind.u8 0, Value.int IntKind.u8 0, Value.int IntKind.u8 0, Value.int IntKind.u8 0, Value.int IntKind.u8 0, Value.int IntKind.i64 0] (adv v6 bs).zipIdx 0 17 = pxv v6 bs 0 := by
  obtain ⟨_, _, _, _, _, _, _, _, _, _, _, _, _, _, _, _, rfl⟩ := explicit16 h
  kernel_rfl
theorem set_px (v6 : Bool) {bs : List UInt8} (h : bs.length = 16) (n m : Int) : (pxv v6 bs n).setIfInBounds 17 (.int .i64 m) = pxv v6 bs m := by
  obtain ⟨_, _, _, _, _, _, _, _, _, _, _, _, _, _, _, _, rfl⟩ := explicit16 h
  kernel_rfl
theorem wpList_alloc_px {ops : Array Oper} {rest : List Oper} {o : Oper} {a : Act} {w : World} {Q : Exit → Act → World → Prop} (hgd : o.guard = none) (ho : o.op = .alloc 26)
    (h : ∀ w', PxBox w' w.heap.size false (List.replicate 16 0) 0 → Below w.heap.size w w' → w'.heap.size = w.heap.size + 1 → wpList Tryz.prog ops Q rest (a.put o.dst (.pointer (some ⟨w.heap.size, 0, none⟩))) w') : wpList Tryz.prog ops Q (o :: rest) a w :=
  wpList_plain hgd fun _ hK => by
    have h1 := hK _ _ (h (w.alloc (.cells (pxv false (List.replicate 16 0) 0) 26)) (PxBox.new w false 0 rfl) ((Below.refl _ w).alloc (Nat.le_refl _) _) (by simp))
    rw [px_zero] at h1
    obtain ⟨dst, op, ty, pos, after, guard⟩ := o
    simp only at ho
    subst ho
    go_simp
    exact h1
theorem wpList_store_px {ops : Array Oper} {rest : List Oper} {o : Oper} {a : Act} {w : World} {Q : Exit → Act → World → Prop} (hgd : o.guard = none) (x y : Operand) (ho : o.op = .store 26 x y) {g : Nat} (v6 : Bool) (bs : List UInt8) (n : Int) {v0 : Bool} {b0 : List UInt8} {n0 : Int}
    (hx : a.eval x = .pointer (some ⟨g, 0, none⟩)) (hy : a.eval y = .agg (pxv v6 bs n)) (hl : bs.length = 16) (hA : PxBox w g v0 b0 n0)
    (h : ∀ w', PxBox w' g v6 bs n → (∀ k, k ≠ g → w'.heap[k]? = w.heap[k]?) → w'.heap.size = w.heap.size → (∀ B w0, B ≤ g → Below B w0 w → Below B w0 w') → wpList Tryz.prog ops Q rest (a.put o.dst undef) w') : wpList Tryz.prog ops Q (o :: rest) a w :=
  wpList_store_row hgd 26 x y ho g (pxv v6 bs n) hx hy 26 _ hA.1 (px_size v6 n hl) (by rw [pxv_size v0 n0 hA.2, pxv_size v6 n hl]) (pxv_one v6 bs n)
    (h _ ⟨setRow_heap w g _ _ _ _ hA.1, hl⟩ (fun k hk => setRow_other w g k _ hk) (size_setRow w g _) (fun B w0 hB hb => below_setRow hb hB _))
theorem wpList_load_px {ops : Array Oper} {rest : List Oper} {o : Oper} {a : Act} {w : World} {Q : Exit → Act → World → Prop} (hgd : o.guard = none) (x : Operand) (ho : o.op = .load 26 x) {g : Nat} {v6 : Bool} {bs : List UInt8} {n : Int}
    (hx : a.eval x = .pointer (some ⟨g, 0, none⟩)) (hA : PxBox w g v6 bs n) (h : wpList Tryz.prog ops Q rest (a.put o.dst (.agg (pxv v6 bs n))) w) : wpList Tryz.prog ops Q (o :: rest) a w :=
  wpList_load_row hgd 26 x ho g hx 26 (pxv v6 bs n) (0, 0) _ hA.1 Tryz.underlying26 rfl (px_size v6 n hA.2) h
/-- .. behind a guard that lets it. -/
theorem wpList_load_row_w {ops : Array Oper} {rest : List Oper} {o : Oper} {a : Act} {w : World} {Q : Exit → Act → World → Prop} (hw : Region.wanted o (yielded ops a.tmps) = true) (ty : TypeId) (x : Operand) (ho : o.op = .load ty x) (b off : Nat) (hx : a.eval x = .pointer (some ⟨b, off, none⟩)) (cs : Array Value) (d : TypeDesc) (hc : w.rangeAt b off cs.toList)
    (hu : Tryz.prog.underlying ty = some d) (hd : d.isRow = true) (hi : (Tryz.prog.info? ty).map (·.size) = some cs.size) (h : wpList Tryz.prog ops Q rest (a.put o.dst (.agg cs)) w) : wpList Tryz.prog ops Q (o :: rest) a w := by
  have h1 := wp_load_mid (P := Tryz.prog) (op := o) (a := a) (w := w) (K := wpList Tryz.prog ops Q rest) (Q := Q) ty x ho b off hx cs.toList d hc hu hd (by simpa using hi) (by simpa using h)
  unfold wpList
  rw [if_pos hw]
  exact .inl h1
theorem PxBox.same {w w' : World} {g : Nat} {v6 : Bool} {bs : List UInt8} {n : Int} (h : PxBox w g v6 bs n) (hh : w'.heap[g]? = w.heap[g]?) : PxBox w' g v6 bs n := ⟨hh.trans h.1, h.2⟩
theorem results_px_tmp {fn : Func} {p u : Tmp} (h : fn.results = #[.cell p 26, .tmp u]) (tmps : Array Value) {w : World} {g : Nat} {v6 : Bool} {bs : List UInt8} {n : Int} (hp : tmps.getD p undef = .pointer (some ⟨g, 0, none⟩)) (hA : PxBox w g v6 bs n) :
    (results fn tmps).run Tryz.prog w = .ok (.tuple #[.agg (pxv v6 bs n), tmps.getD u undef]) w := by
  rw [results_cell_tmp h, hp]
  simp [asAddr, run_loadVar_row w g 26 26 (pxv v6 bs n) (0, 0) _ hA.1 Tryz.underlying26 rfl (px_size v6 n hA.2)]
end Go.Proofs.YtjegeiaabkheiaaGreatDoor
