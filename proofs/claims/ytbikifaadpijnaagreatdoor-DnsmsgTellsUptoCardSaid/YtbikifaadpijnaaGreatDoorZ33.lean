/-
  An api.Question as a value, and in a box. No conditions.
  An api.Record as a value, and in a box. No conditions.
  Three results, the first of which is a struct. No conditions.
-/
import Derived.Test.YtbikifaadpijnaaGreatDoorZ25
import Derived.Test.YtbikifaadpijnaaGreatDoorZ30
import Derived.Test.YtbikifaadpijnaaGreatDoorZ09
import Derived.Test.YtbikifaadpijnaaGreatDoorZ31
import Derived.Test.YtbikifaadpijnaaGreatDoorZ23
import Derived.Test.YtbikifaadpijnaaGreatDoorZ13
namespace Go.Proofs.YtbikifaadpijnaaGreatDoor
open Go.RowKit
set_option maxRecDepth 100000

/-- The cells. -/
def qsv (q : Qs) : Array Value := #[.string (mkS q.name), .int .i64 q.kind, .int .i64 q.cls]
/-- A block that holds them. -/
def QsBox (w : World) (g : Nat) (q : Qs) : Prop := w.heap[g]? = some (.cells (qsv q) 51 (0, 0))
section
variable {w w' : World} {g : Nat} {q : Qs}
theorem QsBox.lt (H : QsBox w g q) : g < w.heap.size := (Array.getElem?_eq_some_iff.1 H).1
theorem QsBox.later {B : Nat} (H : QsBox w g q) (hb : Below B w w') (hB : w.heap.size ≤ B) : QsBox w' g q := (hb.block g (by have := H.lt; omega)).trans H
theorem QsBox.same (H : QsBox w g q) (hh : w'.heap[g]? = w.heap[g]?) : QsBox w' g q := hh.trans H
theorem QsBox.new (w : World) (q : Qs) : QsBox (w.alloc (.cells (qsv q) 51)) w.heap.size q := heap_alloc_last w _
theorem QsBox.range (H : QsBox w g q) : w.rangeAt g 0 (qsv q).toList := fun j v hj => by
  rw [cell_of_row w g (0 + j) _ _ _ H, Nat.zero_add, ← Array.getElem?_toList]; exact hj
theorem QsBox.cell (H : QsBox w g q) (j : Nat) : w.cell? ⟨g, j, none⟩ = (qsv q)[j]? := cell_of_row w g j _ _ _ H
theorem QsBox.frozen (H : QsBox w g q) (j : Nat) : w.frozen? ⟨g, j, none⟩ = false := by unfold QsBox at H; simp [World.frozen?, H]
end
theorem qs_size (q : Qs) : (Tryz.prog.info? 51).map (·.size) = some (qsv q).size := by
  show _ = some 3
  kernel_rfl
theorem qs_one (q : Qs) : (qsv q).all (·.oneCell') = true := by simp [qsv, Value.oneCell']
section
variable {ops : Array Oper} {rest : List Oper} {o : Oper} {a : Act} {w : World} {Q : Exit → Act → World → Prop}
theorem wpList_alloc_qs (hgd : o.guard = none) (ho : o.op = .alloc 51)
    (h : ∀ w', QsBox w' w.heap.size .zero → Below w.heap.size w w' → w'.heap.size = w.heap.size + 1 → wpList Tryz.prog ops Q rest (a.put o.dst (.pointer (some ⟨w.heap.size, 0, none⟩))) w') : wpList Tryz.prog ops Q (o :: rest) a w :=
  wpList_plain hgd fun _ hK => by
    have h1 := hK _ _ (h (w.alloc (.cells (qsv .zero) 51)) (QsBox.new w _) ((Below.refl _ w).alloc (Nat.le_refl _) _) (by simp))
    obtain ⟨dst, op, ty, pos, after, guard⟩ := o
    simp only at ho
    subst ho
    unfold qsv Qs.zero at h1
    go_simp
    exact h1
theorem wpList_store_qs (hgd : o.guard = none) (x y : Operand) (ho : o.op = .store 51 x y) {g : Nat} (q : Qs) {q0 : Qs}
    (hx : a.eval x = .pointer (some ⟨g, 0, none⟩)) (hy : a.eval y = .agg (qsv q)) (hA : QsBox w g q0)
    (h : ∀ w', QsBox w' g q → (∀ k, k ≠ g → w'.heap[k]? = w.heap[k]?) → w'.heap.size = w.heap.size → (∀ B w0, B ≤ g → Below B w0 w → Below B w0 w') → wpList Tryz.prog ops Q rest (a.put o.dst undef) w') : wpList Tryz.prog ops Q (o :: rest) a w :=
  wpList_store_row hgd 51 x y ho g (qsv q) hx hy 51 _ hA (qs_size q) rfl (qs_one q)
    (h _ (setRow_heap w g _ _ _ _ hA) (fun k hk => setRow_other w g k _ hk) (size_setRow w g _) (fun _ _ hB hb => below_setRow hb hB _))
theorem wpList_load_qs (hgd : o.guard = none) (x : Operand) (ho : o.op = .load 51 x) {g : Nat} {q : Qs} (hx : a.eval x = .pointer (some ⟨g, 0, none⟩)) (hA : QsBox w g q)
    (h : wpList Tryz.prog ops Q rest (a.put o.dst (.agg (qsv q))) w) : wpList Tryz.prog ops Q (o :: rest) a w :=
  wpList_load_row hgd 51 x ho g hx 51 (qsv q) (0, 0) _ hA Tryz.underlying51 rfl (qs_size q) h
theorem run_build_qs (q : Qs) (w : World) : (Instr.build 51 #[(0, .string (mkS q.name)), (1, .int .i64 q.kind), (2, .int .i64 q.cls)]).run Tryz.prog w = .ok (.agg (qsv q)) w := by kernel_rfl
/-- Built of all its parts. -/
theorem wp_build_qs {K : Act → World → Prop} (x0 x1 x2 : Operand) (ho : o.op = .build 51 #[(0, x0), (1, x1), (2, x2)]) (q : Qs) (h0 : a.eval x0 = .string (mkS q.name)) (h1 : a.eval x1 = .int .i64 q.kind) (h2 : a.eval x2 = .int .i64 q.cls)
    (h : K (a.put o.dst (.agg (qsv q))) w) : o.wp Tryz.prog a w K Q := by
  have hrun := run_build_qs q w
  unfold Oper.wp execOp
  simp only [ho, Sem.run_bind, Sem.run_pure, Result.andThen_ok, List.map_toArray, List.map_cons, List.map_nil, h0, h1, h2, hrun]
  exact h
theorem wpList_build_qs (hgd : o.guard = none) (x0 x1 x2 : Operand) (ho : o.op = .build 51 #[(0, x0), (1, x1), (2, x2)]) (q : Qs) (h0 : a.eval x0 = .string (mkS q.name)) (h1 : a.eval x1 = .int .i64 q.kind) (h2 : a.eval x2 = .int .i64 q.cls)
    (h : wpList Tryz.prog ops Q rest (a.put o.dst (.agg (qsv q))) w) : wpList Tryz.prog ops Q (o :: rest) a w :=
  wpList_plain hgd fun _ hK => wp_build_qs x0 x1 x2 ho q h0 h1 h2 (hK _ _ h)
end
theorem results_qs_tmp {fn : Func} {p u : Tmp} (h : fn.results = #[.cell p 51, .tmp u]) (tmps : Array Value) {w : World} {g : Nat} {q : Qs} (hp : tmps.getD p undef = .pointer (some ⟨g, 0, none⟩)) (hA : QsBox w g q) :
    (results fn tmps).run Tryz.prog w = .ok (.tuple #[.agg (qsv q), tmps.getD u undef]) w := by
  rw [results_cell_tmp h, hp]
  simp [asAddr, run_loadVar_row w g 51 51 (qsv q) (0, 0) _ hA Tryz.underlying51 rfl (qs_size q)]
theorem results_qs_fl {fn : Func} {p u : Tmp} (h : fn.results = #[.cell p 51, .cell u 36]) (tmps : Array Value) {w : World} {g k : Nat} {q : Qs} {fc fa : Int} {fp : Bool} (hp : tmps.getD p undef = .pointer (some ⟨g, 0, none⟩)) (hu : tmps.getD u undef = .pointer (some ⟨k, 0, none⟩))
    (hA : QsBox w g q) (hF : FlBox w k fc fa fp) : (results fn tmps).run Tryz.prog w = .ok (.tuple #[.agg (qsv q), .agg (flv fc fa fp)]) w := by
  rw [results_cell_cell h, hp, hu]
  simp [asAddr, run_loadVar_row w g 51 51 (qsv q) (0, 0) _ hA Tryz.underlying51 rfl (qs_size q), run_loadVar_row w k 36 36 (flv fc fa fp) (0, 0) _ hF Tryz.underlying36 rfl (fl_size fc fa fp)]
section
variable {o : Oper} {a : Act} {w : World} {K : Act → World → Prop} {Q : Exit → Act → World → Prop}
theorem wp_load_qsF (x : Operand) (ho : o.op = .load 51 x) {g : Nat} {q : Qs} (hx : a.eval x = .pointer (some ⟨g, 0, none⟩)) (hA : QsBox w g q)
    (h : K (a.put o.dst (.agg (qsv q))) w) : o.wp Tryz.prog a w K Q :=
  wp_load_mid (P := Tryz.prog) 51 x ho g 0 hx (qsv q).toList _ hA.range Tryz.underlying51 rfl (by simpa using qs_size q) (by simpa using h)
theorem wp_store_qsF (x y : Operand) (ho : o.op = .store 51 x y) {g : Nat} (q : Qs) {q0 : Qs}
    (hx : a.eval x = .pointer (some ⟨g, 0, none⟩)) (hy : a.eval y = .agg (qsv q)) (hA : QsBox w g q0)
    (h : ∀ w', QsBox w' g q → (∀ k, k ≠ g → w'.heap[k]? = w.heap[k]?) → (∀ B w0, B ≤ g → Below B w0 w → Below B w0 w') → K (a.put o.dst undef) w') : o.wp Tryz.prog a w K Q :=
  wp_store_row 51 x y ho g (qsv q) hx hy 51 _ hA (qs_size q) rfl (qs_one q)
    (h _ (setRow_heap w g _ _ _ _ hA) (fun k hk => setRow_other w g k _ hk) (fun _ _ hB hb => below_setRow hb hB _))
theorem wp_alloc_qsF (ho : o.op = .alloc 51)
    (h : ∀ w', QsBox w' w.heap.size .zero → Below w.heap.size w w' → K (a.put o.dst (.pointer (some ⟨w.heap.size, 0, none⟩))) w') : o.wp Tryz.prog a w K Q := by
  have h1 := h (w.alloc (.cells (qsv .zero) 51)) (QsBox.new w _) ((Below.refl _ w).alloc (Nat.le_refl _) _)
  obtain ⟨dst, op, ty, pos, after, guard⟩ := o
  simp only at ho
  subst ho
  unfold qsv Qs.zero at h1
  go_simp
  exact h1
end
theorem wpList_load_qs_w {ops : Array Oper} {rest : List Oper} {o : Oper} {a : Act} {w : World} {Q : Exit → Act → World → Prop} (hw : Region.wanted o (yielded ops a.tmps) = true) (x : Operand) (ho : o.op = .load 51 x) {g : Nat} {q : Qs}
    (hx : a.eval x = .pointer (some ⟨g, 0, none⟩)) (hA : QsBox w g q) (h : wpList Tryz.prog ops Q rest (a.put o.dst (.agg (qsv q))) w) : wpList Tryz.prog ops Q (o :: rest) a w := by
  have h1 := wp_load_qsF (o := o) (a := a) (w := w) (K := wpList Tryz.prog ops Q rest) (Q := Q) x ho hx hA h
  unfold wpList
  rw [if_pos hw]
  exact .inl h1
theorem Bs.farQs {w w' : World} {g : Nat} {q : Qs} {B : Option Addr} {m d : Nat} {l : List UInt8} (h : Bs w B m d l) (hg : QsBox w g q) (hh : ∀ k, k ≠ g → w'.heap[k]? = w.heap[k]?) : Bs w' B m d l :=
  h.farCells hg (fun j x => by
    match j with
    | 0 | 1 | 2 => simp [qsv]
    | j + 3 => simp [qsv]) hh
theorem Tells.farQs {w w' : World} {g : Nat} {q : Qs} {v : Value} {f : Fl} (h : Tells w v f) (hg : QsBox w g q) (hh : ∀ k, k ≠ g → w'.heap[k]? = w.heap[k]?) : Tells w' v f := h.far hg (by decide) hh
end Go.Proofs.YtbikifaadpijnaaGreatDoor

namespace Go.Proofs.YtbikifaadpijnaaGreatDoor
open Go.RowKit
set_option maxRecDepth 100000

/-- The cells. -/
def rcv (r : Rc) (A : Option Addr) (n c : Nat) : Array Value := (#[.string (mkS r.name), .int .i64 r.kind, .int .i64 r.cls, .int .u32 r.ttl] : Array Value).append ((adv r.v6 r.adr).append #[.string (mkS r.target), .slice A n c])
theorem rcv_list (r : Rc) (A : Option Addr) (n c : Nat) : (rcv r A n c).toList = [.string (mkS r.name), .int .i64 r.kind, .int .i64 r.cls, .int .u32 r.ttl] ++ ((.bool r.v6 :: bv r.adr) ++ [.string (mkS r.target), .slice A n c]) := by
  simp [rcv, adv]
theorem rcv_size {r : Rc} (hk : r.ok) (A : Option Addr) (n c : Nat) : (rcv r A n c).size = 23 := by
  unfold Rc.ok at hk
  rw [← Array.length_toList, rcv_list]
  simp [bv_length, hk]
theorem rcv_one (r : Rc) (A : Option Addr) (n c : Nat) : (rcv r A n c).all (·.oneCell') = true :=
  Array.all_eq_true_iff_forall_mem.2 fun v hv => by
    rw [← Array.mem_toList_iff, rcv_list] at hv
    rcases List.mem_append.1 hv with hv | hv
    · simp only [List.mem_cons, List.not_mem_nil, or_false] at hv
      rcases hv with rfl | rfl | rfl | rfl <;> rfl
    · rcases List.mem_append.1 hv with hv | hv
      · rcases List.mem_cons.1 hv with rfl | hv
        · rfl
        · exact bv_one _ v hv
      · simp only [List.mem_cons, List.not_mem_nil, or_false] at hv
        rcases hv with rfl | rfl <;> rfl
/-- A block that holds them. -/
def RcBox (w : World) (g : Nat) (r : Rc) (A : Option Addr) (n c : Nat) : Prop := w.heap[g]? = some (.cells (rcv r A n c) 57 (0, 0)) ∧ r.ok
section
variable {w w' : World} {g : Nat} {r : Rc} {A : Option Addr} {n c : Nat}
theorem RcBox.lt (H : RcBox w g r A n c) : g < w.heap.size := (Array.getElem?_eq_some_iff.1 H.1).1
theorem RcBox.later {B : Nat} (H : RcBox w g r A n c) (hb : Below B w w') (hB : w.heap.size ≤ B) : RcBox w' g r A n c := ⟨(hb.block g (by have := H.lt; omega)).trans H.1, H.2⟩
theorem RcBox.same (H : RcBox w g r A n c) (hh : w'.heap[g]? = w.heap[g]?) : RcBox w' g r A n c := ⟨hh.trans H.1, H.2⟩
theorem RcBox.new (w : World) (hk : r.ok) (A : Option Addr) (n c : Nat) : RcBox (w.alloc (.cells (rcv r A n c) 57)) w.heap.size r A n c := ⟨heap_alloc_last w _, hk⟩
theorem RcBox.range (H : RcBox w g r A n c) : w.rangeAt g 0 (rcv r A n c).toList := fun j v hj => by
  rw [cell_of_row w g (0 + j) _ _ _ H.1, Nat.zero_add, ← Array.getElem?_toList]; exact hj
theorem RcBox.cellL (H : RcBox w g r A n c) {j : Nat} {v : Value} (hj : (rcv r A n c).toList[j]? = some v) : w.cell? ⟨g, j, none⟩ = some v := by
  rw [cell_of_row w g j _ _ _ H.1, ← Array.getElem?_toList]; exact hj
theorem RcBox.name (H : RcBox w g r A n c) : w.cell? ⟨g, 0, none⟩ = some (.string (mkS r.name)) := H.cellL (by rw [rcv_list]; rfl)
theorem RcBox.kind (H : RcBox w g r A n c) : w.cell? ⟨g, 1, none⟩ = some (.int .i64 r.kind) := H.cellL (by rw [rcv_list]; rfl)
theorem RcBox.cls (H : RcBox w g r A n c) : w.cell? ⟨g, 2, none⟩ = some (.int .i64 r.cls) := H.cellL (by rw [rcv_list]; rfl)
theorem RcBox.ttl (H : RcBox w g r A n c) : w.cell? ⟨g, 3, none⟩ = some (.int .u32 r.ttl) := H.cellL (by rw [rcv_list]; rfl)
theorem RcBox.v6 (H : RcBox w g r A n c) : w.cell? ⟨g, 4, none⟩ = some (.bool r.v6) := H.cellL (by rw [rcv_list]; rfl)
theorem RcBox.target (H : RcBox w g r A n c) : w.cell? ⟨g, 21, none⟩ = some (.string (mkS r.target)) := H.cellL (by
  obtain ⟨_, _, _, _, _, _, _, _, _, _, _, _, _, _, _, _, e1⟩ := ex16 H.2
  rw [rcv_list, e1]; rfl)
theorem RcBox.data (H : RcBox w g r A n c) : w.cell? ⟨g, 22, none⟩ = some (.slice A n c) := H.cellL (by
  obtain ⟨_, _, _, _, _, _, _, _, _, _, _, _, _, _, _, _, e1⟩ := ex16 H.2
  rw [rcv_list, e1]; rfl)
theorem RcBox.frozen (H : RcBox w g r A n c) (j : Nat) : w.frozen? ⟨g, j, none⟩ = false := by simp [World.frozen?, H.1]
theorem RcBox.adrR (H : RcBox w g r A n c) : w.rangeAt g 4 (adv r.v6 r.adr).toList := fun j v hj => by
  have h1 := H.range (4 + j) v (by
    rw [rcv_list, List.getElem?_append_right (by simp)]
    simp only [List.length_cons, List.length_nil, Nat.add_sub_cancel_left]
    rw [List.getElem?_append_left]
    · simpa [adv] using hj
    · have := (List.getElem?_eq_some_iff.1 hj).1
      simpa [adv] using this)
  rw [Nat.zero_add] at h1
  exact h1
theorem RcBox.bR (H : RcBox w g r A n c) : w.rangeAt g 5 (bv r.adr) := fun j v hj => by
  have h1 := H.adrR (1 + j) v (by
    rw [show (adv r.v6 r.adr).toList = .bool r.v6 :: bv r.adr by simp [adv], Nat.add_comm 1 j, List.getElem?_cons_succ]
    exact hj)
  rw [show 4 + (1 + j) = 5 + j by omega] at h1
  exact h1
/-- The bytes of its address, as a slice. -/
theorem RcBox.adrB (H : RcBox w g r A n c) : Bs w (some ⟨g, 5, none⟩) 16 16 r.adr :=
  ⟨H.2, Nat.le_refl _, by unfold maxLen; omega, (fun h => by cases h), fun _ => ⟨g, 5, rfl, fun i x hx => H.bR i (.int .u8 x.toNat) (bv_at hx)⟩⟩
end
theorem rcv_front (r : Rc) (A : Option Addr) (n c : Nat) : (rcv r A n c).toList = ([.string (mkS r.name), .int .i64 r.kind, .int .i64 r.cls, .int .u32 r.ttl] ++ [.bool r.v6]) ++ (bv r.adr ++ [.string (mkS r.target), .slice A n c]) := by rw [rcv_list]; simp
section
variable {w : World} {g : Nat} {r : Rc} {A : Option Addr} {n c : Nat}
/-- Bytes copied over the beginning of its address. -/
theorem rcv_laid (hk : r.ok) {xs : List UInt8} (hx : xs.length ≤ 16) : ((rcv r A n c).toList.take 5 ++ bv xs ++ (rcv r A n c).toList.drop (5 + (bv xs).length)).toArray = rcv { r with adr := xs ++ r.adr.drop xs.length } A n c := by
  unfold Rc.ok at hk
  apply Array.toList_inj.1
  have e5 : (rcv r A n c).toList.take 5 = [.string (mkS r.name), .int .i64 r.kind, .int .i64 r.cls, .int .u32 r.ttl] ++ [.bool r.v6] := by rw [rcv_front]; exact List.take_left' rfl
  have ed : (rcv r A n c).toList.drop (5 + (bv xs).length) = (bv r.adr).drop xs.length ++ [.string (mkS r.target), .slice A n c] := by
    rw [← List.drop_drop, rcv_front]
    show List.drop (bv xs).length (bv r.adr ++ [.string (mkS r.target), .slice A n c]) = _
    rw [List.drop_append_of_le_length (by rw [bv_length, bv_length]; omega), bv_length]
  rw [e5, ed, rcv_front]
  simp [bv]
end
theorem rc_size {r : Rc} (hk : r.ok) (A : Option Addr) (n c : Nat) : (Tryz.prog.info? 57).map (·.size) = some (rcv r A n c).size := by rw [rcv_size hk]; kernel_rfl
/-- Nothing, as the model writes it. -/
def rc0 : Array Value := #[.string ⟨#[]⟩, .int .i64 0, .int .i64 0, .int .u32 0, .bool false, .int .u8 0, .int .u8 0, .int .u8 0, .int .u8 0, .int .u8 0, .int .u8 0, .int .u8 0, .int .u8 0, .int .u8 0, .int .u8 0, .int .u8 0, .int .u8 0, .int .u8 0, .int .u8 0, .int .u8 0, .int .u8 0, .string ⟨#[]⟩, .slice none 0 0]
theorem rc0_eq : rcv .zero none 0 0 = rc0 := by kernel_rfl
theorem Tells.farRc {w w' : World} {g : Nat} {r : Rc} {A : Option Addr} {n c : Nat} {v : Value} {f : Fl} (h : Tells w v f) (hg : RcBox w g r A n c) (hh : ∀ k, k ≠ g → w'.heap[k]? = w.heap[k]?) : Tells w' v f := h.far hg.1 (by decide) hh
section
variable {ops : Array Oper} {rest : List Oper} {o : Oper} {a : Act} {w : World} {Q : Exit → Act → World → Prop}
theorem wp_alloc_rc {K : Act → World → Prop} (ho : o.op = .alloc 57)
    (h : ∀ w', RcBox w' w.heap.size .zero none 0 0 → Below w.heap.size w w' → w'.heap.size = w.heap.size + 1 → K (a.put o.dst (.pointer (some ⟨w.heap.size, 0, none⟩))) w') : o.wp Tryz.prog a w K Q := by
  have h1 := h (w.alloc (.cells (rcv .zero none 0 0) 57)) (RcBox.new w Rc.zero_ok _ _ _) ((Below.refl _ w).alloc (Nat.le_refl _) _) (by simp)
  rw [rc0_eq] at h1
  unfold rc0 at h1
  obtain ⟨dst, op, ty, pos, after, guard⟩ := o
  simp only at ho
  subst ho
  go_simp
  exact h1
theorem wpList_alloc_rc (hgd : o.guard = none) (ho : o.op = .alloc 57)
    (h : ∀ w', RcBox w' w.heap.size .zero none 0 0 → Below w.heap.size w w' → w'.heap.size = w.heap.size + 1 → wpList Tryz.prog ops Q rest (a.put o.dst (.pointer (some ⟨w.heap.size, 0, none⟩))) w') : wpList Tryz.prog ops Q (o :: rest) a w :=
  wpList_plain hgd fun _ hK => wp_alloc_rc ho fun w' h1 h2 h3 => hK _ _ (h w' h1 h2 h3)
theorem wp_store_rc {K : Act → World → Prop} (x y : Operand) (ho : o.op = .store 57 x y) {g : Nat} (r : Rc) (A : Option Addr) (n c : Nat) {r0 : Rc} {A0 : Option Addr} {n0 c0 : Nat}
    (hx : a.eval x = .pointer (some ⟨g, 0, none⟩)) (hy : a.eval y = .agg (rcv r A n c)) (hk : r.ok) (hA : RcBox w g r0 A0 n0 c0)
    (h : ∀ w', RcBox w' g r A n c → (∀ k, k ≠ g → w'.heap[k]? = w.heap[k]?) → w'.heap.size = w.heap.size → (∀ B w0, B ≤ g → Below B w0 w → Below B w0 w') → K (a.put o.dst undef) w') : o.wp Tryz.prog a w K Q :=
  wp_store_row 57 x y ho g (rcv r A n c) hx hy 57 _ hA.1 (rc_size hk _ _ _) (by rw [rcv_size hA.2, rcv_size hk]) (rcv_one r A n c)
    (h _ ⟨setRow_heap w g _ _ _ _ hA.1, hk⟩ (fun k hk => setRow_other w g k _ hk) (size_setRow w g _) (fun B w0 hB hb => below_setRow hb hB _))
theorem wpList_store_rc (hgd : o.guard = none) (x y : Operand) (ho : o.op = .store 57 x y) {g : Nat} (r : Rc) (A : Option Addr) (n c : Nat) {r0 : Rc} {A0 : Option Addr} {n0 c0 : Nat}
    (hx : a.eval x = .pointer (some ⟨g, 0, none⟩)) (hy : a.eval y = .agg (rcv r A n c)) (hk : r.ok) (hA : RcBox w g r0 A0 n0 c0)
    (h : ∀ w', RcBox w' g r A n c → (∀ k, k ≠ g → w'.heap[k]? = w.heap[k]?) → w'.heap.size = w.heap.size → (∀ B w0, B ≤ g → Below B w0 w → Below B w0 w') → wpList Tryz.prog ops Q rest (a.put o.dst undef) w') : wpList Tryz.prog ops Q (o :: rest) a w :=
  wpList_plain hgd fun _ hK => wp_store_rc x y ho r A n c hx hy hk hA fun w' h1 h2 h3 h4 => hK _ _ (h w' h1 h2 h3 h4)
theorem wp_load_rc {K : Act → World → Prop} (x : Operand) (ho : o.op = .load 57 x) {g : Nat} {r : Rc} {A : Option Addr} {n c : Nat} (hx : a.eval x = .pointer (some ⟨g, 0, none⟩)) (hA : RcBox w g r A n c)
    (h : K (a.put o.dst (.agg (rcv r A n c))) w) : o.wp Tryz.prog a w K Q :=
  wp_load_mid (P := Tryz.prog) 57 x ho g 0 hx (rcv r A n c).toList _ hA.range Tryz.underlying57 rfl (by simpa using rc_size hA.2 A n c) (by simpa using h)
theorem wpList_load_rc (hgd : o.guard = none) (x : Operand) (ho : o.op = .load 57 x) {g : Nat} {r : Rc} {A : Option Addr} {n c : Nat} (hx : a.eval x = .pointer (some ⟨g, 0, none⟩)) (hA : RcBox w g r A n c)
    (h : wpList Tryz.prog ops Q rest (a.put o.dst (.agg (rcv r A n c))) w) : wpList Tryz.prog ops Q (o :: rest) a w :=
  wpList_load_row hgd 57 x ho g hx 57 (rcv r A n c) (0, 0) _ hA.1 Tryz.underlying57 rfl (rc_size hA.2 _ _ _) h
/-- Its address, loaded. -/
theorem wp_load_rcAd {K : Act → World → Prop} (x : Operand) (ho : o.op = .load 55 x) {g : Nat} {r : Rc} {A : Option Addr} {n c : Nat} (hx : a.eval x = .pointer (some ⟨g, 4, none⟩)) (hA : RcBox w g r A n c)
    (h : K (a.put o.dst (.agg (adv r.v6 r.adr))) w) : o.wp Tryz.prog a w K Q :=
  wp_load_mid (P := Tryz.prog) 55 x ho g 4 hx (adv r.v6 r.adr).toList _ hA.adrR Tryz.underlying55 rfl (by simpa using ad_size r.v6 hA.2) (by simpa using h)
theorem wpList_load_rcAd (hgd : o.guard = none) (x : Operand) (ho : o.op = .load 55 x) {g : Nat} {r : Rc} {A : Option Addr} {n c : Nat} (hx : a.eval x = .pointer (some ⟨g, 4, none⟩)) (hA : RcBox w g r A n c)
    (h : wpList Tryz.prog ops Q rest (a.put o.dst (.agg (adv r.v6 r.adr))) w) : wpList Tryz.prog ops Q (o :: rest) a w :=
  wpList_plain hgd fun _ hK => wp_load_rcAd x ho hx hA (hK _ _ h)
/-- The bytes of its address, loaded. -/
theorem wp_load_rcB {K : Act → World → Prop} (x : Operand) (ho : o.op = .load 53 x) {g : Nat} {r : Rc} {A : Option Addr} {n c : Nat} (hx : a.eval x = .pointer (some ⟨g, 5, none⟩)) (hA : RcBox w g r A n c)
    (h : K (a.put o.dst (.agg (bv r.adr).toArray)) w) : o.wp Tryz.prog a w K Q :=
  wp_load_mid (P := Tryz.prog) 53 x ho g 5 hx (bv r.adr) _ hA.bR Tryz.underlying53 rfl (by
    rw [bv_length, show r.adr.length = 16 from hA.2]
    kernel_rfl) h
theorem wpList_load_rcB (hgd : o.guard = none) (x : Operand) (ho : o.op = .load 53 x) {g : Nat} {r : Rc} {A : Option Addr} {n c : Nat} (hx : a.eval x = .pointer (some ⟨g, 5, none⟩)) (hA : RcBox w g r A n c)
    (h : wpList Tryz.prog ops Q rest (a.put o.dst (.agg (bv r.adr).toArray)) w) : wpList Tryz.prog ops Q (o :: rest) a w :=
  wpList_plain hgd fun _ hK => wp_load_rcB x ho hx hA (hK _ _ h)
/-- The bytes of its address, stored. -/
theorem wp_store_rcB {K : Act → World → Prop} (x y : Operand) (ho : o.op = .store 53 x y) {g : Nat} {bs : List UInt8} {r : Rc} {A : Option Addr} {n c : Nat}
    (hx : a.eval x = .pointer (some ⟨g, 5, none⟩)) (hy : a.eval y = .agg (bv bs).toArray) (hk : bs.length = 16) (hA : RcBox w g r A n c)
    (h : ∀ w', RcBox w' g { r with adr := bs } A n c → (∀ k, k ≠ g → w'.heap[k]? = w.heap[k]?) → w'.heap.size = w.heap.size → (∀ B w0, B ≤ g → Below B w0 w → Below B w0 w') → K (a.put o.dst undef) w') : o.wp Tryz.prog a w K Q := by
  have e : splice (rcv r A n c) 5 (bv bs).toArray = rcv { r with adr := bs } A n c := by
    have h1 := rcv_laid (A := A) (n := n) (c := c) hA.2 (xs := bs) (by omega)
    have e0 : r.adr.drop bs.length = [] := List.drop_of_length_le (by rw [show r.adr.length = 16 from hA.2]; omega)
    rw [e0, List.append_nil] at h1
    rw [← h1]
    unfold splice
    rw [List.append_assoc]
    rfl
  refine wp_store_in 53 x y ho g 5 (bv bs).toArray hx hy hA.1 (by rw [rcv_size hA.2, List.size_toArray, bv_length]; omega) (by rw [List.size_toArray, bv_length]; omega) (by
    rw [List.size_toArray, bv_length, hk]
    kernel_rfl) (by
    rw [Array.all_eq_true_iff_forall_mem]
    intro v hv
    exact bv_one _ v (by simpa using hv)) ?_
  rw [e]
  exact h _ ⟨setRow_heap w g _ _ _ _ hA.1, hk⟩ (fun k hk => setRow_other w g k _ hk) (size_setRow w g _) (fun B w0 hB hb => below_setRow hb hB _)
theorem wpList_store_rcB (hgd : o.guard = none) (x y : Operand) (ho : o.op = .store 53 x y) {g : Nat} {bs : List UInt8} {r : Rc} {A : Option Addr} {n c : Nat}
    (hx : a.eval x = .pointer (some ⟨g, 5, none⟩)) (hy : a.eval y = .agg (bv bs).toArray) (hk : bs.length = 16) (hA : RcBox w g r A n c)
    (h : ∀ w', RcBox w' g { r with adr := bs } A n c → (∀ k, k ≠ g → w'.heap[k]? = w.heap[k]?) → w'.heap.size = w.heap.size → (∀ B w0, B ≤ g → Below B w0 w → Below B w0 w') → wpList Tryz.prog ops Q rest (a.put o.dst undef) w') : wpList Tryz.prog ops Q (o :: rest) a w :=
  wpList_plain hgd fun _ hK => wp_store_rcB x y ho hx hy hk hA fun w' h1 h2 h3 h4 => hK _ _ (h w' h1 h2 h3 h4)
/-- An address, stored into it. -/
theorem wp_store_rcAd {K : Act → World → Prop} (x y : Operand) (ho : o.op = .store 55 x y) {g : Nat} {v : Bool} {bs : List UInt8} {r : Rc} {A : Option Addr} {n c : Nat}
    (hx : a.eval x = .pointer (some ⟨g, 4, none⟩)) (hy : a.eval y = .agg (adv v bs)) (hk : bs.length = 16) (hA : RcBox w g r A n c)
    (h : ∀ w', RcBox w' g { r with v6 := v, adr := bs } A n c → (∀ k, k ≠ g → w'.heap[k]? = w.heap[k]?) → w'.heap.size = w.heap.size → (∀ B w0, B ≤ g → Below B w0 w → Below B w0 w') → K (a.put o.dst undef) w') : o.wp Tryz.prog a w K Q := by
  have e : splice (rcv r A n c) 4 (adv v bs) = rcv { r with v6 := v, adr := bs } A n c := by
    have ha : (adv v bs).toList = .bool v :: bv bs := by simp [adv]
    have hl : (bv r.adr).length = 16 := by rw [bv_length]; exact hA.2
    apply Array.toList_inj.1
    unfold splice
    rw [adv_size v hk, rcv_list, rcv_list, ha]
    simp [hl]
  refine wp_store_in 55 x y ho g 4 (adv v bs) hx hy hA.1 (by rw [rcv_size hA.2, adv_size v hk]; omega) (by rw [adv_size v hk]; omega) (ad_size v hk) (adv_one v bs) ?_
  rw [e]
  exact h _ ⟨setRow_heap w g _ _ _ _ hA.1, hk⟩ (fun k hk => setRow_other w g k _ hk) (size_setRow w g _) (fun B w0 hB hb => below_setRow hb hB _)
theorem wpList_store_rcAd (hgd : o.guard = none) (x y : Operand) (ho : o.op = .store 55 x y) {g : Nat} {v : Bool} {bs : List UInt8} {r : Rc} {A : Option Addr} {n c : Nat}
    (hx : a.eval x = .pointer (some ⟨g, 4, none⟩)) (hy : a.eval y = .agg (adv v bs)) (hk : bs.length = 16) (hA : RcBox w g r A n c)
    (h : ∀ w', RcBox w' g { r with v6 := v, adr := bs } A n c → (∀ k, k ≠ g → w'.heap[k]? = w.heap[k]?) → w'.heap.size = w.heap.size → (∀ B w0, B ≤ g → Below B w0 w → Below B w0 w') → wpList Tryz.prog ops Q rest (a.put o.dst undef) w') : wpList Tryz.prog ops Q (o :: rest) a w :=
  wpList_plain hgd fun _ hK => wp_store_rcAd x y ho hx hy hk hA fun w' h1 h2 h3 h4 => hK _ _ (h w' h1 h2 h3 h4)
/-- A value of one cell, stored into the midst of a block. -/
theorem run_storeVar_cell {P : Program} (w : World) (g j : Nat) (ty : TypeId) (v : Value) {cs : Array Value} {t : TypeId} (hg : w.heap[g]? = some (.cells cs t (0, 0))) (hj : j < cs.size) (hi : (P.info? ty).map (·.size) = some 1) (h1 : v.oneCell' = true) :
    (storeVar ty ⟨g, j, none⟩ v).run P w = .ok () (w.setCell ⟨g, j, none⟩ v) := by
  have hc : v.cells = #[v] := by cases v <;> first | rfl | cases h1
  have hcell : w.cell? ⟨g, j, none⟩ = some cs[j] := by
    rw [cell_of_row w g j _ _ _ hg]
    exact Array.getElem?_eq_getElem hj
  have hfr : w.frozen? ⟨g, j, none⟩ = false := by simp [World.frozen?, hg]
  have hst : (store ((⟨g, j, none⟩ : Addr).add 0) v).run P w = .ok () (w.setCell ⟨g, j, none⟩ v) := by
    rw [add_plain, run_store P w _ v _ h1, Nat.add_zero, hcell]
    simp [hfr]
  cases hq : P.info? ty with
  | none => simp [hq] at hi
  | some i =>
    have hs : i.size = 1 := by simpa [hq] using hi
    simp [storeVar, sizeOf, typeInfo, hq, hc, hs, storeCells, hst]
theorem wp_put_rc {K : Act → World → Prop} (ty : TypeId) (x y : Operand) (ho : o.op = .store ty x y) {g : Nat} (j : Nat) (v : Value) (hx : a.eval x = .pointer (some ⟨g, j, none⟩)) (hy : a.eval y = v) (hi : (Tryz.prog.info? ty).map (·.size) = some 1) (h1 : v.oneCell' = true)
    {r r' : Rc} {A A' : Option Addr} {n c n' c' : Nat} (hA : RcBox w g r A n c) (hk : r'.ok) (hj : j < 23) (hset : (rcv r A n c).toList.set j v = (rcv r' A' n' c').toList)
    (h : ∀ w', RcBox w' g r' A' n' c' → (∀ k, k ≠ g → w'.heap[k]? = w.heap[k]?) → w'.heap.size = w.heap.size → (∀ B w0, B ≤ g → Below B w0 w → Below B w0 w') → K (a.put o.dst undef) w') : o.wp Tryz.prog a w K Q := by
  have e : w.setCell ⟨g, j, none⟩ v = w.setRow g (rcv r' A' n' c') := by
    rw [setCell_eq_setRow w g j _ _ _ v hA.1]
    congr 1
    exact Array.toList_inj.1 (by rw [Array.toList_setIfInBounds]; exact hset)
  have hrun := run_storeVar_cell (P := Tryz.prog) w g j ty v hA.1 (by rw [rcv_size hA.2]; exact hj) hi h1
  unfold Oper.wp execOp
  simp only [ho, hx, hy, Instr.storeAt, Instr.sureAddr, Sem.run_bind, Sem.run_pure, Result.andThen_ok, hrun]
  rw [e]
  exact h _ ⟨setRow_heap w g _ _ _ _ hA.1, hk⟩ (fun k hk => setRow_other w g k _ hk) (size_setRow w g _) (fun B w0 hB hb => below_setRow hb hB _)
/-- Its parts, stored. -/
theorem wpList_putV6_rc (hgd : o.guard = none) (x y : Operand) (ho : o.op = .store 4 x y) {g : Nat} (v : Bool) (hx : a.eval x = .pointer (some ⟨g, 4, none⟩)) (hy : a.eval y = .bool v) {r : Rc} {A : Option Addr} {n c : Nat} (hA : RcBox w g r A n c)
    (h : ∀ w', RcBox w' g { r with v6 := v } A n c → (∀ k, k ≠ g → w'.heap[k]? = w.heap[k]?) → w'.heap.size = w.heap.size → (∀ B w0, B ≤ g → Below B w0 w → Below B w0 w') → wpList Tryz.prog ops Q rest (a.put o.dst undef) w') : wpList Tryz.prog ops Q (o :: rest) a w :=
  wpList_plain hgd fun _ hK => wp_put_rc 4 x y ho 4 (.bool v) hx hy (by kernel_rfl) rfl hA (r' := { r with v6 := v }) hA.2 (by omega) (by rw [rcv_list, rcv_list]; rfl) fun w' q1 q2 q3 q4 => hK _ _ (h w' q1 q2 q3 q4)
theorem wpList_putTarget_rc (hgd : o.guard = none) (x y : Operand) (ho : o.op = .store 9 x y) {g : Nat} (v : List UInt8) (hx : a.eval x = .pointer (some ⟨g, 21, none⟩)) (hy : a.eval y = .string (mkS v)) {r : Rc} {A : Option Addr} {n c : Nat} (hA : RcBox w g r A n c)
    (h : ∀ w', RcBox w' g { r with target := v } A n c → (∀ k, k ≠ g → w'.heap[k]? = w.heap[k]?) → w'.heap.size = w.heap.size → (∀ B w0, B ≤ g → Below B w0 w → Below B w0 w') → wpList Tryz.prog ops Q rest (a.put o.dst undef) w') : wpList Tryz.prog ops Q (o :: rest) a w :=
  wpList_plain hgd fun _ hK => wp_put_rc 9 x y ho 21 (.string (mkS v)) hx hy (by kernel_rfl) rfl hA (r' := { r with target := v }) hA.2 (by omega) (by
    obtain ⟨_, _, _, _, _, _, _, _, _, _, _, _, _, _, _, _, e1⟩ := ex16 hA.2
    rw [rcv_list, rcv_list, e1]
    rfl) fun w' q1 q2 q3 q4 => hK _ _ (h w' q1 q2 q3 q4)
theorem wpList_putData_rc (hgd : o.guard = none) (x y : Operand) (ho : o.op = .store 22 x y) {g : Nat} (l : List UInt8) (A' : Option Addr) (n' c' : Nat) (hx : a.eval x = .pointer (some ⟨g, 22, none⟩)) (hy : a.eval y = .slice A' n' c') {r : Rc} {A : Option Addr} {n c : Nat} (hA : RcBox w g r A n c)
    (h : ∀ w', RcBox w' g { r with data := l } A' n' c' → (∀ k, k ≠ g → w'.heap[k]? = w.heap[k]?) → w'.heap.size = w.heap.size → (∀ B w0, B ≤ g → Below B w0 w → Below B w0 w') → wpList Tryz.prog ops Q rest (a.put o.dst undef) w') : wpList Tryz.prog ops Q (o :: rest) a w :=
  wpList_plain hgd fun _ hK => wp_put_rc 22 x y ho 22 (.slice A' n' c') hx hy (by kernel_rfl) rfl hA (r' := { r with data := l }) hA.2 (by omega) (by
    obtain ⟨_, _, _, _, _, _, _, _, _, _, _, _, _, _, _, _, e1⟩ := ex16 hA.2
    rw [rcv_list, rcv_list, e1]
    rfl) fun w' q1 q2 q3 q4 => hK _ _ (h w' q1 q2 q3 q4)
theorem wpList_putName_rc (hgd : o.guard = none) (x y : Operand) (ho : o.op = .store 9 x y) {g : Nat} (v : List UInt8) (hx : a.eval x = .pointer (some ⟨g, 0, none⟩)) (hy : a.eval y = .string (mkS v)) {r : Rc} {A : Option Addr} {n c : Nat} (hA : RcBox w g r A n c)
    (h : ∀ w', RcBox w' g { r with name := v } A n c → (∀ k, k ≠ g → w'.heap[k]? = w.heap[k]?) → w'.heap.size = w.heap.size → (∀ B w0, B ≤ g → Below B w0 w → Below B w0 w') → wpList Tryz.prog ops Q rest (a.put o.dst undef) w') : wpList Tryz.prog ops Q (o :: rest) a w :=
  wpList_plain hgd fun _ hK => wp_put_rc 9 x y ho 0 (.string (mkS v)) hx hy (by kernel_rfl) rfl hA (r' := { r with name := v }) hA.2 (by omega) (by rw [rcv_list, rcv_list]; rfl) fun w' q1 q2 q3 q4 => hK _ _ (h w' q1 q2 q3 q4)
theorem wpList_putKind_rc (hgd : o.guard = none) (x y : Operand) (ho : o.op = .store 3 x y) {g : Nat} (v : Int) (hx : a.eval x = .pointer (some ⟨g, 1, none⟩)) (hy : a.eval y = .int .i64 v) {r : Rc} {A : Option Addr} {n c : Nat} (hA : RcBox w g r A n c)
    (h : ∀ w', RcBox w' g { r with kind := v } A n c → (∀ k, k ≠ g → w'.heap[k]? = w.heap[k]?) → w'.heap.size = w.heap.size → (∀ B w0, B ≤ g → Below B w0 w → Below B w0 w') → wpList Tryz.prog ops Q rest (a.put o.dst undef) w') : wpList Tryz.prog ops Q (o :: rest) a w :=
  wpList_plain hgd fun _ hK => wp_put_rc 3 x y ho 1 (.int .i64 v) hx hy (by kernel_rfl) rfl hA (r' := { r with kind := v }) hA.2 (by omega) (by rw [rcv_list, rcv_list]; rfl) fun w' q1 q2 q3 q4 => hK _ _ (h w' q1 q2 q3 q4)
theorem wpList_putCls_rc (hgd : o.guard = none) (x y : Operand) (ho : o.op = .store 3 x y) {g : Nat} (v : Int) (hx : a.eval x = .pointer (some ⟨g, 2, none⟩)) (hy : a.eval y = .int .i64 v) {r : Rc} {A : Option Addr} {n c : Nat} (hA : RcBox w g r A n c)
    (h : ∀ w', RcBox w' g { r with cls := v } A n c → (∀ k, k ≠ g → w'.heap[k]? = w.heap[k]?) → w'.heap.size = w.heap.size → (∀ B w0, B ≤ g → Below B w0 w → Below B w0 w') → wpList Tryz.prog ops Q rest (a.put o.dst undef) w') : wpList Tryz.prog ops Q (o :: rest) a w :=
  wpList_plain hgd fun _ hK => wp_put_rc 3 x y ho 2 (.int .i64 v) hx hy (by kernel_rfl) rfl hA (r' := { r with cls := v }) hA.2 (by omega) (by rw [rcv_list, rcv_list]; rfl) fun w' q1 q2 q3 q4 => hK _ _ (h w' q1 q2 q3 q4)
theorem results_rc_tmp {fn : Func} {p u : Tmp} (h : fn.results = #[.cell p 57, .tmp u]) (tmps : Array Value) {g : Nat} {r : Rc} {A : Option Addr} {n c : Nat} (hp : tmps.getD p undef = .pointer (some ⟨g, 0, none⟩)) (hA : RcBox w g r A n c) :
    (results fn tmps).run Tryz.prog w = .ok (.tuple #[.agg (rcv r A n c), tmps.getD u undef]) w := by
  rw [results_cell_tmp h, hp]
  simp [asAddr, run_loadVar_row w g 57 57 (rcv r A n c) (0, 0) _ hA.1 Tryz.underlying57 rfl (rc_size hA.2 _ _ _)]
end
end Go.Proofs.YtbikifaadpijnaaGreatDoor

namespace Go.Proofs.YtbikifaadpijnaaGreatDoor
open Go.RowKit
set_option maxRecDepth 100000

theorem results_cell_tmp_tmp {fn : Func} {p u v : Tmp} {ty : TypeId} (h : fn.results = #[.cell p ty, .tmp u, .tmp v]) (tmps : Array Value) (P : Program) (w : World) :
    (results fn tmps).run P w = ((asAddr (tmps.getD p undef)).run P w).andThen fun a w₁ => ((loadVar ty a).run P w₁).andThen fun x w₂ => .ok (.tuple #[x, tmps.getD u undef, tmps.getD v undef]) w₂ := by
  simp only [results, h]
  simp [Sem.run_bind, Result.andThen]
theorem results_cell_tmp_cell {fn : Func} {p u v : Tmp} {ty ty2 : TypeId} (h : fn.results = #[.cell p ty, .tmp u, .cell v ty2]) (tmps : Array Value) (P : Program) (w : World) :
    (results fn tmps).run P w = ((asAddr (tmps.getD p undef)).run P w).andThen fun a w₁ => ((loadVar ty a).run P w₁).andThen fun x w₂ => ((asAddr (tmps.getD v undef)).run P w₂).andThen fun b w₃ => ((loadVar ty2 b).run P w₃).andThen fun y w₄ => .ok (.tuple #[x, tmps.getD u undef, y]) w₄ := by
  simp only [results, h]
  simp [Sem.run_bind, Result.andThen]
section
variable {fn : Func} {p u v : Tmp} (tmps : Array Value) {w : World} {g k : Nat}
theorem results_qs3 (h : fn.results = #[.cell p 51, .tmp u, .tmp v]) {q : Qs} (hp : tmps.getD p undef = .pointer (some ⟨g, 0, none⟩)) (hA : QsBox w g q) : (results fn tmps).run Tryz.prog w = .ok (.tuple #[.agg (qsv q), tmps.getD u undef, tmps.getD v undef]) w := by
  rw [results_cell_tmp_tmp h, hp]
  simp [asAddr, run_loadVar_row w g 51 51 (qsv q) (0, 0) _ hA Tryz.underlying51 rfl (qs_size q)]
theorem results_rc3 (h : fn.results = #[.cell p 57, .tmp u, .tmp v]) {r : Rc} {A : Option Addr} {n c : Nat} (hp : tmps.getD p undef = .pointer (some ⟨g, 0, none⟩)) (hA : RcBox w g r A n c) : (results fn tmps).run Tryz.prog w = .ok (.tuple #[.agg (rcv r A n c), tmps.getD u undef, tmps.getD v undef]) w := by
  rw [results_cell_tmp_tmp h, hp]
  simp [asAddr, run_loadVar_row w g 57 57 (rcv r A n c) (0, 0) _ hA.1 Tryz.underlying57 rfl (rc_size hA.2 A n c)]
theorem results_qsF (h : fn.results = #[.cell p 51, .tmp u, .cell v 36]) {q : Qs} {fc fa : Int} {fp : Bool} (hp : tmps.getD p undef = .pointer (some ⟨g, 0, none⟩)) (hv : tmps.getD v undef = .pointer (some ⟨k, 0, none⟩)) (hA : QsBox w g q) (hF : FlBox w k fc fa fp) :
    (results fn tmps).run Tryz.prog w = .ok (.tuple #[.agg (qsv q), tmps.getD u undef, .agg (flv fc fa fp)]) w := by
  rw [results_cell_tmp_cell h, hp, hv]
  simp [asAddr, run_loadVar_row w g 51 51 (qsv q) (0, 0) _ hA Tryz.underlying51 rfl (qs_size q), run_loadVar_row w k 36 36 (flv fc fa fp) (0, 0) _ hF Tryz.underlying36 rfl (fl_size fc fa fp)]
theorem results_rcF (h : fn.results = #[.cell p 57, .tmp u, .cell v 36]) {r : Rc} {A : Option Addr} {n c : Nat} {fc fa : Int} {fp : Bool} (hp : tmps.getD p undef = .pointer (some ⟨g, 0, none⟩)) (hv : tmps.getD v undef = .pointer (some ⟨k, 0, none⟩)) (hA : RcBox w g r A n c) (hF : FlBox w k fc fa fp) :
    (results fn tmps).run Tryz.prog w = .ok (.tuple #[.agg (rcv r A n c), tmps.getD u undef, .agg (flv fc fa fp)]) w := by
  rw [results_cell_tmp_cell h, hp, hv]
  simp [asAddr, run_loadVar_row w g 57 57 (rcv r A n c) (0, 0) _ hA.1 Tryz.underlying57 rfl (rc_size hA.2 A n c), run_loadVar_row w k 36 36 (flv fc fa fp) (0, 0) _ hF Tryz.underlying36 rfl (fl_size fc fa fp)]
theorem results_rcFl (h : fn.results = #[.cell p 57, .cell v 36]) {r : Rc} {A : Option Addr} {n c : Nat} {fc fa : Int} {fp : Bool} (hp : tmps.getD p undef = .pointer (some ⟨g, 0, none⟩)) (hv : tmps.getD v undef = .pointer (some ⟨k, 0, none⟩)) (hA : RcBox w g r A n c) (hF : FlBox w k fc fa fp) :
    (results fn tmps).run Tryz.prog w = .ok (.tuple #[.agg (rcv r A n c), .agg (flv fc fa fp)]) w := by
  rw [results_cell_cell h, hp, hv]
  simp [asAddr, run_loadVar_row w g 57 57 (rcv r A n c) (0, 0) _ hA.1 Tryz.underlying57 rfl (rc_size hA.2 A n c), run_loadVar_row w k 36 36 (flv fc fa fp) (0, 0) _ hF Tryz.underlying36 rfl (fl_size fc fa fp)]
end
end Go.Proofs.YtbikifaadpijnaaGreatDoor
