/-
  '==' of two addresses. No conditions.
  '==' of two nets. No conditions.
  A box that tells an error (stockadehelp.Fail) in a plain region: made, stored into, loaded; handed back beside an address, beside a net. No conditions.
  Package addr's In. No conditions.
  stockaderef01: Right, Bit: the document's own answers on addresses. No conditions.
-/
import Derived.Test.YtdbbgjbgmfeljaaGreatDoorZ14
import Derived.Laws.StructEq
namespace Go.Proofs.YtdbbgjbgmfeljaaGreatDoor
open Go.RowKit
set_option maxRecDepth 100000

theorem part_v6 (v : Bool) {a : List UInt8} (ha : a.length = 16) (w : World) : (part 4 (adv v a) 0).run Tryz.prog w = .ok (.bool v) w := by
  obtain ⟨_, _, _, _, _, _, _, _, _, _, _, _, _, _, _, _, rfl⟩ := explicit16 ha
  kernel_rfl
theorem part_b (v : Bool) {a : List UInt8} (ha : a.length = 16) (w : World) : (part 22 (adv v a) 1).run Tryz.prog w = .ok (.agg (bv a).toArray) w := by
  obtain ⟨_, _, _, _, _, _, _, _, _, _, _, _, _, _, _, _, rfl⟩ := explicit16 ha
  kernel_rfl
theorem fields_ad : ∃ f g : Field, (Tryz.prog.fieldsOf 24).toList = [f, g] ∧ (f.name ≠ "_") ∧ (g.name ≠ "_") ∧ f.type = 4 ∧ f.offset = 0 ∧ g.type = 22 ∧ g.offset = 1 := by
  refine ⟨(Tryz.prog.fieldsOf 24).toList.head!, (Tryz.prog.fieldsOf 24).toList.tail.head!, by kernel_rfl, ?_, ?_, by kernel_rfl, by kernel_rfl, by kernel_rfl, by kernel_rfl⟩
  · exact of_decide_eq_true (by kernel_rfl)
  · exact of_decide_eq_true (by kernel_rfl)
theorem eqIn_ad (d : Nat) (v u : Bool) {a b : List UInt8} (ha : a.length = 16) (hb : b.length = 16) (w : World) : (Op.equalIn (d + 3) 24 (.agg (adv v a)) (.agg (adv u b))).run Tryz.prog w = .ok ((v == u) && (a == b)) w := by
  rw [run_equalIn_struct w (d + 2) 24 _ _ (by kernel_rfl) (by kernel_rfl)]
  obtain ⟨f, g, hf, h1, h2, h3, h4, h5, h6⟩ := fields_ad
  rw [hf]
  have e1 : (Op.equalIn (d + 2) 4 (.bool v) (.bool u)).run Tryz.prog w = .ok (v == u) w := by
    simp [Op.equalIn, run_underlying Tryz.underlying4]
  have e2 : (Op.equalIn (d + 2) 22 (.agg (bv a).toArray) (.agg (bv b).toArray)).run Tryz.prog w = .ok (a == b) w :=
    run_equalIn_bytes w d 22 5 16 Tryz.underlying22 Tryz.underlying5 (fun w => by kernel_rfl) a b ha hb
  simp only [Op.eqFields, if_pos h1, if_pos h2, h3, h4, h5, h6, Sem.run_bind, part_v6 v ha, part_v6 u hb, part_b v ha, part_b u hb, e1, e2, Result.andThen_ok, Sem.run_ite, Sem.run_pure]
  cases v <;> cases u <;> cases (a == b) <;> rfl
theorem eql_ad (v u : Bool) {a b : List UInt8} (ha : a.length = 16) (hb : b.length = 16) (w : World) : (binOp .eql 24 (.agg (adv v a)) (.agg (adv u b))).run Tryz.prog w = .ok (.bool ((v == u) && (a == b))) w := by
  rw [run_eql_struct]
  have h := eqIn_ad 9997 v u ha hb w
  rw [show (10000 : Nat) = 9997 + 3 from rfl] at *
  simp only [h]
  rfl
end Go.Proofs.YtdbbgjbgmfeljaaGreatDoor

namespace Go.Proofs.YtdbbgjbgmfeljaaGreatDoor
open Go.RowKit
set_option maxRecDepth 100000

theorem part_ad (v : Bool) {a : List UInt8} (ha : a.length = 16) (n : Int) (w : World) : (part 24 (pxv v a n) 0).run Tryz.prog w = .ok (.agg (adv v a)) w := by
  obtain ⟨_, _, _, _, _, _, _, _, _, _, _, _, _, _, _, _, rfl⟩ := explicit16 ha
  kernel_rfl
theorem part_n (v : Bool) {a : List UInt8} (ha : a.length = 16) (n : Int) (w : World) : (part 3 (pxv v a n) 17).run Tryz.prog w = .ok (.int .i64 n) w := by
  obtain ⟨_, _, _, _, _, _, _, _, _, _, _, _, _, _, _, _, rfl⟩ := explicit16 ha
  kernel_rfl
theorem fields_px : ∃ f g : Field, (Tryz.prog.fieldsOf 26).toList = [f, g] ∧ (f.name ≠ "_") ∧ (g.name ≠ "_") ∧ f.type = 24 ∧ f.offset = 0 ∧ g.type = 3 ∧ g.offset = 17 := by
  refine ⟨(Tryz.prog.fieldsOf 26).toList.head!, (Tryz.prog.fieldsOf 26).toList.tail.head!, by kernel_rfl, ?_, ?_, by kernel_rfl, by kernel_rfl, by kernel_rfl, by kernel_rfl⟩
  · exact of_decide_eq_true (by kernel_rfl)
  · exact of_decide_eq_true (by kernel_rfl)
theorem eqIn_px (d : Nat) (v u : Bool) {a b : List UInt8} (ha : a.length = 16) (hb : b.length = 16) (n m : Int) (w : World) : (Op.equalIn (d + 4) 26 (.agg (pxv v a n)) (.agg (pxv u b m))).run Tryz.prog w = .ok ((v == u) && (a == b) && (n == m)) w := by
  rw [run_equalIn_struct w (d + 3) 26 _ _ (by kernel_rfl) (by kernel_rfl)]
  obtain ⟨f, g, hf, h1, h2, h3, h4, h5, h6⟩ := fields_px
  rw [hf]
  have e1 := eqIn_ad d v u ha hb w
  have e2 : (Op.equalIn (d + 3) 3 (.int .i64 n) (.int .i64 m)).run Tryz.prog w = .ok (n == m) w := by
    simp [Op.equalIn, run_underlying Tryz.underlying3]
  simp only [Op.eqFields, if_pos h1, if_pos h2, h3, h4, h5, h6, Sem.run_bind, part_ad v ha, part_ad u hb, part_n v ha, part_n u hb, e1, e2, Result.andThen_ok, Sem.run_ite, Sem.run_pure]
  cases ((v == u) && (a == b)) <;> cases (n == m) <;> rfl
theorem eql_px (v u : Bool) {a b : List UInt8} (ha : a.length = 16) (hb : b.length = 16) (n m : Int) (w : World) : (binOp .eql 26 (.agg (pxv v a n)) (.agg (pxv u b m))).run Tryz.prog w = .ok (.bool ((v == u) && (a == b) && (n == m))) w := by
  rw [run_eql_struct]
  have h := eqIn_px 9996 v u ha hb n m w
  rw [show (10000 : Nat) = 9996 + 4 from rfl] at *
  simp only [h]
  rfl
end Go.Proofs.YtdbbgjbgmfeljaaGreatDoor

namespace Go.Proofs.YtdbbgjbgmfeljaaGreatDoor
open Go.RowKit
set_option maxRecDepth 100000

def flv (c a : Int) (p : Bool) : Array Value := #[.int .i64 c, .int .i64 a, .bool p]
def FlBox (w : World) (g : Nat) (c a : Int) (p : Bool) : Prop := w.heap[g]? = some (.cells (flv c a p) 34 (0, 0))
theorem FlBox.lt {w : World} {g : Nat} {c a : Int} {p : Bool} (h : FlBox w g c a p) : g < w.heap.size := (Array.getElem?_eq_some_iff.1 h).1
theorem FlBox.later {w w' : World} {B g : Nat} {c a : Int} {p : Bool} (h : FlBox w g c a p) (hb : Below B w w') (hB : w.heap.size ≤ B) : FlBox w' g c a p := by
  have hlt := FlBox.lt h
  exact (hb.block g (by omega)).trans h
theorem FlBox.new (w : World) (c a : Int) (p : Bool) : FlBox (w.alloc (.cells (flv c a p) 34)) w.heap.size c a p := heap_alloc_last w _
theorem FlBox.same {w w' : World} {g : Nat} {c a : Int} {p : Bool} (h : FlBox w g c a p) (hh : w'.heap[g]? = w.heap[g]?) : FlBox w' g c a p := hh.trans h
theorem FlBox.cell {w : World} {g : Nat} {c a : Int} {p : Bool} (h : FlBox w g c a p) (j : Nat) : w.cell? ⟨g, j, none⟩ = (flv c a p)[j]? := cell_of_row w g j _ _ _ h
theorem FlBox.range {w : World} {g : Nat} {c a : Int} {p : Bool} (h : FlBox w g c a p) : w.rangeAt g 0 (flv c a p).toList := fun j v hj => by
  rw [cell_of_row w g (0 + j) _ _ _ h, Nat.zero_add, ← Array.getElem?_toList]; exact hj
theorem fl_size (c a : Int) (p : Bool) : (Tryz.prog.info? 34).map (·.size) = some (flv c a p).size := by
  show _ = some 3
  kernel_rfl
theorem fl_one (c a : Int) (p : Bool) : (flv c a p).all (·.oneCell') = true := by simp [flv, Value.oneCell']
theorem wpList_alloc_fl {ops : Array Oper} {rest : List Oper} {o : Oper} {a : Act} {w : World} {Q : Exit → Act → World → Prop} (hgd : o.guard = none) (ho : o.op = .alloc 34)
    (h : ∀ w', FlBox w' w.heap.size 0 0 false → Below w.heap.size w w' → w'.heap.size = w.heap.size + 1 → wpList Tryz.prog ops Q rest (a.put o.dst (.pointer (some ⟨w.heap.size, 0, none⟩))) w') : wpList Tryz.prog ops Q (o :: rest) a w :=
  wpList_plain hgd fun _ hK => by
    have h1 := hK _ _ (h (w.alloc (.cells (flv 0 0 false) 34)) (FlBox.new w 0 0 false) ((Below.refl _ w).alloc (Nat.le_refl _) _) (by simp))
    obtain ⟨dst, op, ty, pos, after, guard⟩ := o
    simp only at ho
    subst ho
    go_simp
    exact h1
theorem wpList_store_fl {ops : Array Oper} {rest : List Oper} {o : Oper} {a : Act} {w : World} {Q : Exit → Act → World → Prop} (hgd : o.guard = none) (x y : Operand) (ho : o.op = .store 34 x y) {g : Nat} (c i : Int) (p : Bool) {c0 i0 : Int} {p0 : Bool}
    (hx : a.eval x = .pointer (some ⟨g, 0, none⟩)) (hy : a.eval y = .agg (flv c i p)) (hA : FlBox w g c0 i0 p0)
    (h : ∀ w', FlBox w' g c i p → (∀ k, k ≠ g → w'.heap[k]? = w.heap[k]?) → w'.heap.size = w.heap.size → (∀ B w0, B ≤ g → Below B w0 w → Below B w0 w') → wpList Tryz.prog ops Q rest (a.put o.dst undef) w') : wpList Tryz.prog ops Q (o :: rest) a w :=
  wpList_store_row hgd 34 x y ho g (flv c i p) hx hy 34 _ hA (fl_size c i p) rfl (fl_one c i p)
    (h _ (setRow_heap w g _ _ _ _ hA) (fun k hk => setRow_other w g k _ hk) (size_setRow w g _) (fun _ _ hB hb => below_setRow hb hB _))
theorem results_cell_cell {fn : Func} {p u : Tmp} {ty ty2 : TypeId} (h : fn.results = #[.cell p ty, .cell u ty2]) (tmps : Array Value) (P : Program) (w : World) :
    (results fn tmps).run P w =
      ((asAddr (tmps.getD p undef)).run P w).andThen fun a w₁ => ((loadVar ty a).run P w₁).andThen fun v w₂ => ((asAddr (tmps.getD u undef)).run P w₂).andThen fun a' w₃ => ((loadVar ty2 a').run P w₃).andThen fun v' w₄ => .ok (.tuple #[v, v']) w₄ := by
  simp only [results, h]
  simp [Sem.run_bind, Result.andThen]
theorem results_ad_fl {fn : Func} {p u : Tmp} (h : fn.results = #[.cell p 24, .cell u 34]) (tmps : Array Value) {w : World} {g k : Nat} {v6 : Bool} {bs : List UInt8} {c i : Int} {b : Bool} (hp : tmps.getD p undef = .pointer (some ⟨g, 0, none⟩)) (hu : tmps.getD u undef = .pointer (some ⟨k, 0, none⟩))
    (hA : AdBox w g v6 bs) (hF : FlBox w k c i b) : (results fn tmps).run Tryz.prog w = .ok (.tuple #[.agg (adv v6 bs), .agg (flv c i b)]) w := by
  rw [results_cell_cell h, hp, hu]
  simp [asAddr, run_loadVar_row w g 24 24 (adv v6 bs) (0, 0) _ hA.1 Tryz.underlying24 rfl (ad_size v6 hA.2), run_loadVar_row w k 34 34 (flv c i b) (0, 0) _ hF Tryz.underlying34 rfl (fl_size c i b)]
theorem results_px_fl {fn : Func} {p u : Tmp} (h : fn.results = #[.cell p 26, .cell u 34]) (tmps : Array Value) {w : World} {g k : Nat} {v6 : Bool} {bs : List UInt8} {n c i : Int} {b : Bool} (hp : tmps.getD p undef = .pointer (some ⟨g, 0, none⟩)) (hu : tmps.getD u undef = .pointer (some ⟨k, 0, none⟩))
    (hA : PxBox w g v6 bs n) (hF : FlBox w k c i b) : (results fn tmps).run Tryz.prog w = .ok (.tuple #[.agg (pxv v6 bs n), .agg (flv c i b)]) w := by
  rw [results_cell_cell h, hp, hu]
  simp [asAddr, run_loadVar_row w g 26 26 (pxv v6 bs n) (0, 0) _ hA.1 Tryz.underlying26 rfl (px_size v6 n hA.2), run_loadVar_row w k 34 34 (flv c i b) (0, 0) _ hF Tryz.underlying34 rfl (fl_size c i b)]
theorem wp_alloc_px {o : Oper} {a : Act} {w : World} {K : Act → World → Prop} {Q : Exit → Act → World → Prop} (ho : o.op = .alloc 26)
    (h : ∀ w', PxBox w' w.heap.size false (List.replicate 16 0) 0 → Below w.heap.size w w' → K (a.put o.dst (.pointer (some ⟨w.heap.size, 0, none⟩))) w') : o.wp Tryz.prog a w K Q := by
  have h1 := h (w.alloc (.cells (pxv false (List.replicate 16 0) 0) 26)) (PxBox.new w false 0 rfl) ((Below.refl _ w).alloc (Nat.le_refl _) _)
  rw [px_zero] at h1
  obtain ⟨dst, op, ty, pos, after, guard⟩ := o
  simp only at ho
  subst ho
  go_simp
  exact h1
theorem wp_store_pxF {o : Oper} {a : Act} {w : World} {K : Act → World → Prop} {Q : Exit → Act → World → Prop} (x y : Operand) (ho : o.op = .store 26 x y) {g : Nat} {v6 v0 : Bool} {bs b0 : List UInt8} {n n0 : Int}
    (hx : a.eval x = .pointer (some ⟨g, 0, none⟩)) (hy : a.eval y = .agg (pxv v6 bs n)) (hl : bs.length = 16) (hA : PxBox w g v0 b0 n0)
    (h : ∀ w', PxBox w' g v6 bs n → (∀ k, k ≠ g → w'.heap[k]? = w.heap[k]?) → (∀ B w0, B ≤ g → Below B w0 w → Below B w0 w') → K (a.put o.dst undef) w') : o.wp Tryz.prog a w K Q :=
  wp_store_row 26 x y ho g (pxv v6 bs n) hx hy 26 _ hA.1 (px_size v6 n hl) (by rw [pxv_size v0 n0 hA.2, pxv_size v6 n hl]) (pxv_one v6 bs n)
    (h _ ⟨setRow_heap w g _ _ _ _ hA.1, hl⟩ (fun k hk => setRow_other w g k _ hk) (fun _ _ hB hb => below_setRow hb hB _))
end Go.Proofs.YtdbbgjbgmfeljaaGreatDoor

namespace Go.Proofs.YtdbbgjbgmfeljaaGreatDoor
open Go.RowKit
set_option maxRecDepth 100000

def inv (av : Bool) (bs : List UInt8) (pv : Bool) (ps : List UInt8) (n : Int) : Bool := rightv av bs && rightnetv pv ps n && (av == pv) && (firstv bs n.toNat == ps)
theorem rightnetv_bits {pv : Bool} {ps : List UInt8} {n : Int} (h : rightnetv pv ps n = true) : ∃ m : Nat, n = m ∧ m ≤ 128 := by
  unfold rightnetv at h
  simp only [Bool.and_eq_true, decide_eq_true_eq] at h
  have := wid_le pv
  exact ⟨n.toNat, by omega, by omega⟩

set_option maxHeartbeats 4000000 in
theorem In_any (av : Bool) (bs : List UInt8) (ha : bs.length = 16) (pv : Bool) (ps : List UInt8) (hp : ps.length = 16) (n : Int) (w : World) : Calls Tryz.prog 18 #[.agg (adv av bs), .agg (pxv pv ps n)] w fun e w' => e = .returned (.bool (inv av bs pv ps n)) ∧ Below w.heap.size w w' := by
  have A1 := Lib.hid ((AdBox.new w av ha).later ((Below.refl _ _).alloc (Nat.le_refl _) (.cells (pxv pv ps n) 26)) (Nat.le_refl _))
  have P1 := PxBox.new (w.alloc (.cells (adv av bs) 24)) pv n hp
  rw [World.size_alloc] at P1
  have P1 := Lib.hid P1
  have B1 := Lib.hid (((Below.refl w.heap.size w).alloc (Nat.le_refl _) (.cells (adv av bs) 24)).alloc (by simp) (.cells (pxv pv ps n) 26))
  cases hr : rightv av bs with
  | false =>
    have hres : inv av bs pv ps n = false := by unfold inv; rw [hr]; rfl
    rw [hres]
    clear hres
    go_enter Tryz.func18, Tryz.ntmps18
    go_wp2_with fail
    generalize hW : (w.alloc (.cells (adv av bs) 24)).alloc (.cells (pxv pv ps n) 26) = W at A1 P1 B1 ⊢
    clear hW
    have hcN : ∀ w', Below W.heap.size W w' → w'.cell? ⟨w.heap.size + 1, 17, none⟩ = some (.int .i64 n) := fun w' h => (P1.out.later h (Nat.le_refl _)).bits_cell
    have hcA : ∀ w', Below W.heap.size W w' → w'.cell? ⟨w.heap.size, 0, none⟩ = some (.bool av) := fun w' h => (A1.out.later h (Nat.le_refl _)).v6_cell
    have hcP : ∀ w', Below W.heap.size W w' → w'.cell? ⟨w.heap.size + 1, 0, none⟩ = some (.bool pv) := fun w' h => (P1.out.later h (Nat.le_refl _)).v6_cell
    have hS : Below W.heap.size W W.drew := (Below.refl _ _).drew
    refine rg_begin (fun w' => Below W.heap.size W w') 26 (by kernel_rfl) rfl ?_
    refine rg_load 0 rfl (by kernel_rfl) (by kernel_rfl) (by kernel_rfl) (w.heap.size) (0) ((adv av bs)) (fun _ _ _ h => h) (by rfl) 24 (.tmp 2) rfl rfl hS (fun w2 h2 => (A1.out.later h2 (Nat.le_refl _)).range) Tryz.underlying24 rfl (ad_size av ha) ?_
    simp only [Act.put, List.setIfInBounds_toArray, List.set_cons_zero, List.set_cons_succ]
    refine rg_step 1 rfl (by kernel_rfl) (by rfl) (fun K hK => ?_)
    go_simp
    refine (Right_any av bs ha _).mono ?_
    rw [hr]
    rintro e w1 ⟨rfl, b1⟩
    replace hS := hS.trans (b1.mono hS.size)
    clear b1
    refine hK.out _ _ hS ?_
    clear hK K
    try simp only [Act.put, List.setIfInBounds_toArray, List.set_cons_zero, List.set_cons_succ]
    refine rg_take 2 (v := ?rv1) rfl (by kernel_rfl) (by kernel_rfl) (by kernel_rfl) (fun _ _ _ h => h) (by rfl) hS (fun w2 hw2 => ?ry1) ?rr1
    case ry1 => ((try dsimp only at hw2); go_simp <;> with_reducible rfl)
    simp only [Act.put, List.setIfInBounds_toArray, List.set_cons_zero, List.set_cons_succ]
    refine rg_skip 3 rfl (by kernel_rfl) (by kernel_rfl) (by kernel_rfl) (fun _ _ _ h => h) (by rfl) hS ?_
    simp only [Act.put, List.setIfInBounds_toArray, List.set_cons_zero, List.set_cons_succ]
    refine rg_skip 4 rfl (by kernel_rfl) (by kernel_rfl) (by kernel_rfl) (fun _ _ _ h => h) (by rfl) hS ?_
    simp only [Act.put, List.setIfInBounds_toArray, List.set_cons_zero, List.set_cons_succ]
    refine rg_take 5 (v := ?rv2) rfl (by kernel_rfl) (by kernel_rfl) (by kernel_rfl) (fun _ _ _ h => h) (by rfl) hS (fun w2 hw2 => ?ry2) ?rr2
    case ry2 => ((try dsimp only at hw2); go_simp <;> with_reducible rfl)
    simp only [Act.put, List.setIfInBounds_toArray, List.set_cons_zero, List.set_cons_succ]
    refine rg_take 6 (v := ?rv3) rfl (by kernel_rfl) (by kernel_rfl) (by kernel_rfl) (fun _ _ _ h => h) (by rfl) hS (fun w2 hw2 => ?ry3) ?rr3
    case ry3 => ((try dsimp only at hw2); go_simp <;> with_reducible rfl)
    simp only [Act.put, List.setIfInBounds_toArray, List.set_cons_zero, List.set_cons_succ]
    refine rg_skip 7 rfl (by kernel_rfl) (by kernel_rfl) (by kernel_rfl) (fun _ _ _ h => h) (by rfl) hS ?_
    simp only [Act.put, List.setIfInBounds_toArray, List.set_cons_zero, List.set_cons_succ]
    refine rg_skip 9 rfl (by kernel_rfl) (by kernel_rfl) (by kernel_rfl) (fun _ _ _ h => h) (by rfl) hS ?_
    simp only [Act.put, List.setIfInBounds_toArray, List.set_cons_zero, List.set_cons_succ]
    refine rg_skip 8 rfl (by kernel_rfl) (by kernel_rfl) (by kernel_rfl) (fun _ _ _ h => h) (by rfl) hS ?_
    simp only [Act.put, List.setIfInBounds_toArray, List.set_cons_zero, List.set_cons_succ]
    refine rg_skip 10 rfl (by kernel_rfl) (by kernel_rfl) (by kernel_rfl) (fun _ _ _ h => h) (by rfl) hS ?_
    simp only [Act.put, List.setIfInBounds_toArray, List.set_cons_zero, List.set_cons_succ]
    refine rg_skip 11 rfl (by kernel_rfl) (by kernel_rfl) (by kernel_rfl) (fun _ _ _ h => h) (by rfl) hS ?_
    simp only [Act.put, List.setIfInBounds_toArray, List.set_cons_zero, List.set_cons_succ]
    refine rg_skip 12 rfl (by kernel_rfl) (by kernel_rfl) (by kernel_rfl) (fun _ _ _ h => h) (by rfl) hS ?_
    simp only [Act.put, List.setIfInBounds_toArray, List.set_cons_zero, List.set_cons_succ]
    refine rg_take 13 (v := ?rv4) rfl (by kernel_rfl) (by kernel_rfl) (by kernel_rfl) (fun _ _ _ h => h) (by rfl) hS (fun w2 hw2 => ?ry4) ?rr4
    case ry4 => ((try dsimp only at hw2); go_simp <;> with_reducible rfl)
    simp only [Act.put, List.setIfInBounds_toArray, List.set_cons_zero, List.set_cons_succ]
    refine rg_take 14 (v := ?rv5) rfl (by kernel_rfl) (by kernel_rfl) (by kernel_rfl) (fun _ _ _ h => h) (by rfl) hS (fun w2 hw2 => ?ry5) ?rr5
    case ry5 => ((try dsimp only at hw2); go_simp <;> with_reducible rfl)
    simp only [Act.put, List.setIfInBounds_toArray, List.set_cons_zero, List.set_cons_succ]
    refine rg_skip 15 rfl (by kernel_rfl) (by kernel_rfl) (by kernel_rfl) (fun _ _ _ h => h) (by rfl) hS ?_
    simp only [Act.put, List.setIfInBounds_toArray, List.set_cons_zero, List.set_cons_succ]
    refine rg_skip 17 rfl (by kernel_rfl) (by kernel_rfl) (by kernel_rfl) (fun _ _ _ h => h) (by rfl) hS ?_
    simp only [Act.put, List.setIfInBounds_toArray, List.set_cons_zero, List.set_cons_succ]
    refine rg_skip 20 rfl (by kernel_rfl) (by kernel_rfl) (by kernel_rfl) (fun _ _ _ h => h) (by rfl) hS ?_
    simp only [Act.put, List.setIfInBounds_toArray, List.set_cons_zero, List.set_cons_succ]
    refine rg_skip 16 rfl (by kernel_rfl) (by kernel_rfl) (by kernel_rfl) (fun _ _ _ h => h) (by rfl) hS ?_
    simp only [Act.put, List.setIfInBounds_toArray, List.set_cons_zero, List.set_cons_succ]
    refine rg_skip 18 rfl (by kernel_rfl) (by kernel_rfl) (by kernel_rfl) (fun _ _ _ h => h) (by rfl) hS ?_
    simp only [Act.put, List.setIfInBounds_toArray, List.set_cons_zero, List.set_cons_succ]
    refine rg_skip 21 rfl (by kernel_rfl) (by kernel_rfl) (by kernel_rfl) (fun _ _ _ h => h) (by rfl) hS ?_
    simp only [Act.put, List.setIfInBounds_toArray, List.set_cons_zero, List.set_cons_succ]
    refine rg_skip 22 rfl (by kernel_rfl) (by kernel_rfl) (by kernel_rfl) (fun _ _ _ h => h) (by rfl) hS ?_
    simp only [Act.put, List.setIfInBounds_toArray, List.set_cons_zero, List.set_cons_succ]
    refine rg_skip 19 rfl (by kernel_rfl) (by kernel_rfl) (by kernel_rfl) (fun _ _ _ h => h) (by rfl) hS ?_
    simp only [Act.put, List.setIfInBounds_toArray, List.set_cons_zero, List.set_cons_succ]
    refine rg_skip 23 rfl (by kernel_rfl) (by kernel_rfl) (by kernel_rfl) (fun _ _ _ h => h) (by rfl) hS ?_
    simp only [Act.put, List.setIfInBounds_toArray, List.set_cons_zero, List.set_cons_succ]
    refine rg_take 24 (v := ?rv6) rfl (by kernel_rfl) (by kernel_rfl) (by kernel_rfl) (fun _ _ _ h => h) (by rfl) hS (fun w2 hw2 => ?ry6) ?rr6
    case ry6 => ((try dsimp only at hw2); go_simp <;> with_reducible rfl)
    simp only [Act.put, List.setIfInBounds_toArray, List.set_cons_zero, List.set_cons_succ]
    refine rg_take 25 (v := ?rv7) rfl (by kernel_rfl) (by kernel_rfl) (by kernel_rfl) (fun _ _ _ h => h) (by rfl) hS (fun w2 hw2 => ?ry7) ?rr7
    case ry7 => ((try dsimp only at hw2); go_simp <;> with_reducible rfl)
    simp only [Act.put, List.setIfInBounds_toArray, List.set_cons_zero, List.set_cons_succ]
    refine rg_done (by kernel_rfl) ?_
    have H2 := Lib.hid (B1.out.trans (hS.mono B1.out.size))
    clear hS
    go_wp2_with fail
    go_ret
    exact ⟨rfl, H2.out⟩
  | true =>
    cases hrn : rightnetv pv ps n with
    | false =>
      have hres : inv av bs pv ps n = false := by unfold inv; rw [hr, hrn]; rfl
      rw [hres]
      clear hres
      go_enter Tryz.func18, Tryz.ntmps18
      go_wp2_with fail
      generalize hW : (w.alloc (.cells (adv av bs) 24)).alloc (.cells (pxv pv ps n) 26) = W at A1 P1 B1 ⊢
      clear hW
      have hcN : ∀ w', Below W.heap.size W w' → w'.cell? ⟨w.heap.size + 1, 17, none⟩ = some (.int .i64 n) := fun w' h => (P1.out.later h (Nat.le_refl _)).bits_cell
      have hcA : ∀ w', Below W.heap.size W w' → w'.cell? ⟨w.heap.size, 0, none⟩ = some (.bool av) := fun w' h => (A1.out.later h (Nat.le_refl _)).v6_cell
      have hcP : ∀ w', Below W.heap.size W w' → w'.cell? ⟨w.heap.size + 1, 0, none⟩ = some (.bool pv) := fun w' h => (P1.out.later h (Nat.le_refl _)).v6_cell
      have hS : Below W.heap.size W W.drew := (Below.refl _ _).drew
      refine rg_begin (fun w' => Below W.heap.size W w') 26 (by kernel_rfl) rfl ?_
      refine rg_load 0 rfl (by kernel_rfl) (by kernel_rfl) (by kernel_rfl) (w.heap.size) (0) ((adv av bs)) (fun _ _ _ h => h) (by rfl) 24 (.tmp 2) rfl rfl hS (fun w2 h2 => (A1.out.later h2 (Nat.le_refl _)).range) Tryz.underlying24 rfl (ad_size av ha) ?_
      simp only [Act.put, List.setIfInBounds_toArray, List.set_cons_zero, List.set_cons_succ]
      refine rg_step 1 rfl (by kernel_rfl) (by rfl) (fun K hK => ?_)
      go_simp
      refine (Right_any av bs ha _).mono ?_
      rw [hr]
      rintro e w1 ⟨rfl, b1⟩
      replace hS := hS.trans (b1.mono hS.size)
      clear b1
      refine hK.out _ _ hS ?_
      clear hK K
      try simp only [Act.put, List.setIfInBounds_toArray, List.set_cons_zero, List.set_cons_succ]
      refine rg_take 2 (v := ?rv8) rfl (by kernel_rfl) (by kernel_rfl) (by kernel_rfl) (fun _ _ _ h => h) (by rfl) hS (fun w2 hw2 => ?ry8) ?rr8
      case ry8 => ((try dsimp only at hw2); go_simp <;> with_reducible rfl)
      simp only [Act.put, List.setIfInBounds_toArray, List.set_cons_zero, List.set_cons_succ]
      refine rg_load 3 rfl (by kernel_rfl) (by kernel_rfl) (by kernel_rfl) (w.heap.size + 1) (0) ((pxv pv ps n)) (fun _ _ _ h => h) (by rfl) 26 (.tmp 3) rfl rfl hS (fun w2 h2 => (P1.out.later h2 (Nat.le_refl _)).range) Tryz.underlying26 rfl (px_size pv n hp) ?_
      simp only [Act.put, List.setIfInBounds_toArray, List.set_cons_zero, List.set_cons_succ]
      refine rg_step 4 rfl (by kernel_rfl) (by rfl) (fun K hK => ?_)
      go_simp
      refine (RightNet_any pv ps hp n _).mono ?_
      rw [hrn]
      rintro e w2 ⟨rfl, b2⟩
      replace hS := hS.trans (b2.mono hS.size)
      clear b2
      refine hK.out _ _ hS ?_
      clear hK K
      try simp only [Act.put, List.setIfInBounds_toArray, List.set_cons_zero, List.set_cons_succ]
      refine rg_take 5 (v := ?rv9) rfl (by kernel_rfl) (by kernel_rfl) (by kernel_rfl) (fun _ _ _ h => h) (by rfl) hS (fun w2 hw2 => ?ry9) ?rr9
      case ry9 => ((try dsimp only at hw2); go_simp <;> with_reducible rfl)
      simp only [Act.put, List.setIfInBounds_toArray, List.set_cons_zero, List.set_cons_succ]
      refine rg_take 6 (v := ?rv10) rfl (by kernel_rfl) (by kernel_rfl) (by kernel_rfl) (fun _ _ _ h => h) (by rfl) hS (fun w2 hw2 => ?ry10) ?rr10
      case ry10 => ((try dsimp only at hw2); go_simp <;> with_reducible rfl)
      simp only [Act.put, List.setIfInBounds_toArray, List.set_cons_zero, List.set_cons_succ]
      refine rg_skip 7 rfl (by kernel_rfl) (by kernel_rfl) (by kernel_rfl) (fun _ _ _ h => h) (by rfl) hS ?_
      simp only [Act.put, List.setIfInBounds_toArray, List.set_cons_zero, List.set_cons_succ]
      refine rg_skip 9 rfl (by kernel_rfl) (by kernel_rfl) (by kernel_rfl) (fun _ _ _ h => h) (by rfl) hS ?_
      simp only [Act.put, List.setIfInBounds_toArray, List.set_cons_zero, List.set_cons_succ]
      refine rg_skip 8 rfl (by kernel_rfl) (by kernel_rfl) (by kernel_rfl) (fun _ _ _ h => h) (by rfl) hS ?_
      simp only [Act.put, List.setIfInBounds_toArray, List.set_cons_zero, List.set_cons_succ]
      refine rg_skip 10 rfl (by kernel_rfl) (by kernel_rfl) (by kernel_rfl) (fun _ _ _ h => h) (by rfl) hS ?_
      simp only [Act.put, List.setIfInBounds_toArray, List.set_cons_zero, List.set_cons_succ]
      refine rg_skip 11 rfl (by kernel_rfl) (by kernel_rfl) (by kernel_rfl) (fun _ _ _ h => h) (by rfl) hS ?_
      simp only [Act.put, List.setIfInBounds_toArray, List.set_cons_zero, List.set_cons_succ]
      refine rg_skip 12 rfl (by kernel_rfl) (by kernel_rfl) (by kernel_rfl) (fun _ _ _ h => h) (by rfl) hS ?_
      simp only [Act.put, List.setIfInBounds_toArray, List.set_cons_zero, List.set_cons_succ]
      refine rg_take 13 (v := ?rv11) rfl (by kernel_rfl) (by kernel_rfl) (by kernel_rfl) (fun _ _ _ h => h) (by rfl) hS (fun w2 hw2 => ?ry11) ?rr11
      case ry11 => ((try dsimp only at hw2); go_simp <;> with_reducible rfl)
      simp only [Act.put, List.setIfInBounds_toArray, List.set_cons_zero, List.set_cons_succ]
      refine rg_take 14 (v := ?rv12) rfl (by kernel_rfl) (by kernel_rfl) (by kernel_rfl) (fun _ _ _ h => h) (by rfl) hS (fun w2 hw2 => ?ry12) ?rr12
      case ry12 => ((try dsimp only at hw2); go_simp <;> with_reducible rfl)
      simp only [Act.put, List.setIfInBounds_toArray, List.set_cons_zero, List.set_cons_succ]
      refine rg_skip 15 rfl (by kernel_rfl) (by kernel_rfl) (by kernel_rfl) (fun _ _ _ h => h) (by rfl) hS ?_
      simp only [Act.put, List.setIfInBounds_toArray, List.set_cons_zero, List.set_cons_succ]
      refine rg_skip 17 rfl (by kernel_rfl) (by kernel_rfl) (by kernel_rfl) (fun _ _ _ h => h) (by rfl) hS ?_
      simp only [Act.put, List.setIfInBounds_toArray, List.set_cons_zero, List.set_cons_succ]
      refine rg_skip 20 rfl (by kernel_rfl) (by kernel_rfl) (by kernel_rfl) (fun _ _ _ h => h) (by rfl) hS ?_
      simp only [Act.put, List.setIfInBounds_toArray, List.set_cons_zero, List.set_cons_succ]
      refine rg_skip 16 rfl (by kernel_rfl) (by kernel_rfl) (by kernel_rfl) (fun _ _ _ h => h) (by rfl) hS ?_
      simp only [Act.put, List.setIfInBounds_toArray, List.set_cons_zero, List.set_cons_succ]
      refine rg_skip 18 rfl (by kernel_rfl) (by kernel_rfl) (by kernel_rfl) (fun _ _ _ h => h) (by rfl) hS ?_
      simp only [Act.put, List.setIfInBounds_toArray, List.set_cons_zero, List.set_cons_succ]
      refine rg_skip 21 rfl (by kernel_rfl) (by kernel_rfl) (by kernel_rfl) (fun _ _ _ h => h) (by rfl) hS ?_
      simp only [Act.put, List.setIfInBounds_toArray, List.set_cons_zero, List.set_cons_succ]
      refine rg_skip 22 rfl (by kernel_rfl) (by kernel_rfl) (by kernel_rfl) (fun _ _ _ h => h) (by rfl) hS ?_
      simp only [Act.put, List.setIfInBounds_toArray, List.set_cons_zero, List.set_cons_succ]
      refine rg_skip 19 rfl (by kernel_rfl) (by kernel_rfl) (by kernel_rfl) (fun _ _ _ h => h) (by rfl) hS ?_
      simp only [Act.put, List.setIfInBounds_toArray, List.set_cons_zero, List.set_cons_succ]
      refine rg_skip 23 rfl (by kernel_rfl) (by kernel_rfl) (by kernel_rfl) (fun _ _ _ h => h) (by rfl) hS ?_
      simp only [Act.put, List.setIfInBounds_toArray, List.set_cons_zero, List.set_cons_succ]
      refine rg_take 24 (v := ?rv13) rfl (by kernel_rfl) (by kernel_rfl) (by kernel_rfl) (fun _ _ _ h => h) (by rfl) hS (fun w2 hw2 => ?ry13) ?rr13
      case ry13 => ((try dsimp only at hw2); go_simp <;> with_reducible rfl)
      simp only [Act.put, List.setIfInBounds_toArray, List.set_cons_zero, List.set_cons_succ]
      refine rg_take 25 (v := ?rv14) rfl (by kernel_rfl) (by kernel_rfl) (by kernel_rfl) (fun _ _ _ h => h) (by rfl) hS (fun w2 hw2 => ?ry14) ?rr14
      case ry14 => ((try dsimp only at hw2); go_simp <;> with_reducible rfl)
      simp only [Act.put, List.setIfInBounds_toArray, List.set_cons_zero, List.set_cons_succ]
      refine rg_done (by kernel_rfl) ?_
      have H2 := Lib.hid (B1.out.trans (hS.mono B1.out.size))
      clear hS
      go_wp2_with fail
      go_ret
      exact ⟨rfl, H2.out⟩
    | true =>
      by_cases hv : av = pv
      · subst hv
        obtain ⟨m, rfl, hm⟩ := rightnetv_bits hrn
        have heq := eql_arr (xs := firstv bs m) (ys := ps) (firstv_len bs m ▸ ha : (firstv bs m).length = 16) hp
        have hres : inv av bs av ps m = (firstv bs m == ps) := by unfold inv; rw [hr, hrn]; simp
        have hbb : (av == av) = true := by simp
        rw [hres]
        clear hres
        go_enter Tryz.func18, Tryz.ntmps18
        go_wp2_with fail
        generalize hW : (w.alloc (.cells (adv av bs) 24)).alloc (.cells (pxv av ps m) 26) = W at A1 P1 B1 ⊢
        clear hW
        have hcN : ∀ w', Below W.heap.size W w' → w'.cell? ⟨w.heap.size + 1, 17, none⟩ = some (.int .i64 m) := fun w' h => (P1.out.later h (Nat.le_refl _)).bits_cell
        have hcA : ∀ w', Below W.heap.size W w' → w'.cell? ⟨w.heap.size, 0, none⟩ = some (.bool av) := fun w' h => (A1.out.later h (Nat.le_refl _)).v6_cell
        have hcP : ∀ w', Below W.heap.size W w' → w'.cell? ⟨w.heap.size + 1, 0, none⟩ = some (.bool av) := fun w' h => (P1.out.later h (Nat.le_refl _)).v6_cell
        have hS : Below W.heap.size W W.drew := (Below.refl _ _).drew
        refine rg_begin (fun w' => Below W.heap.size W w') 26 (by kernel_rfl) rfl ?_
        refine rg_load 0 rfl (by kernel_rfl) (by kernel_rfl) (by kernel_rfl) (w.heap.size) (0) ((adv av bs)) (fun _ _ _ h => h) (by rfl) 24 (.tmp 2) rfl rfl hS (fun w2 h2 => (A1.out.later h2 (Nat.le_refl _)).range) Tryz.underlying24 rfl (ad_size av ha) ?_
        simp only [Act.put, List.setIfInBounds_toArray, List.set_cons_zero, List.set_cons_succ]
        refine rg_step 1 rfl (by kernel_rfl) (by rfl) (fun K hK => ?_)
        go_simp
        refine (Right_any av bs ha _).mono ?_
        rw [hr]
        rintro e w1 ⟨rfl, b1⟩
        replace hS := hS.trans (b1.mono hS.size)
        clear b1
        refine hK.out _ _ hS ?_
        clear hK K
        try simp only [Act.put, List.setIfInBounds_toArray, List.set_cons_zero, List.set_cons_succ]
        refine rg_take 2 (v := ?rv15) rfl (by kernel_rfl) (by kernel_rfl) (by kernel_rfl) (fun _ _ _ h => h) (by rfl) hS (fun w2 hw2 => ?ry15) ?rr15
        case ry15 => ((try dsimp only at hw2); go_simp <;> with_reducible rfl)
        simp only [Act.put, List.setIfInBounds_toArray, List.set_cons_zero, List.set_cons_succ]
        refine rg_load 3 rfl (by kernel_rfl) (by kernel_rfl) (by kernel_rfl) (w.heap.size + 1) (0) ((pxv av ps m)) (fun _ _ _ h => h) (by rfl) 26 (.tmp 3) rfl rfl hS (fun w2 h2 => (P1.out.later h2 (Nat.le_refl _)).range) Tryz.underlying26 rfl (px_size av m hp) ?_
        simp only [Act.put, List.setIfInBounds_toArray, List.set_cons_zero, List.set_cons_succ]
        refine rg_step 4 rfl (by kernel_rfl) (by rfl) (fun K hK => ?_)
        go_simp
        refine (RightNet_any av ps hp m _).mono ?_
        rw [hrn]
        rintro e w2 ⟨rfl, b2⟩
        replace hS := hS.trans (b2.mono hS.size)
        clear b2
        refine hK.out _ _ hS ?_
        clear hK K
        try simp only [Act.put, List.setIfInBounds_toArray, List.set_cons_zero, List.set_cons_succ]
        refine rg_take 5 (v := ?rv16) rfl (by kernel_rfl) (by kernel_rfl) (by kernel_rfl) (fun _ _ _ h => h) (by rfl) hS (fun w2 hw2 => ?ry16) ?rr16
        case ry16 => ((try dsimp only at hw2); go_simp <;> with_reducible rfl)
        simp only [Act.put, List.setIfInBounds_toArray, List.set_cons_zero, List.set_cons_succ]
        refine rg_take 6 (v := ?rv17) rfl (by kernel_rfl) (by kernel_rfl) (by kernel_rfl) (fun _ _ _ h => h) (by rfl) hS (fun w2 hw2 => ?ry17) ?rr17
        case ry17 => ((try dsimp only at hw2); go_simp <;> with_reducible rfl)
        simp only [Act.put, List.setIfInBounds_toArray, List.set_cons_zero, List.set_cons_succ]
        refine rg_take 7 (v := ?rv18) rfl (by kernel_rfl) (by kernel_rfl) (by kernel_rfl) (fun _ _ _ h => h) (by rfl) hS (fun w2 hw2 => ?ry18) ?rr18
        case ry18 => ((try dsimp only at hw2); go_simp <;> with_reducible rfl)
        simp only [Act.put, List.setIfInBounds_toArray, List.set_cons_zero, List.set_cons_succ]
        refine rg_take 9 (v := ?rv19) rfl (by kernel_rfl) (by kernel_rfl) (by kernel_rfl) (fun _ _ _ h => h) (by rfl) hS (fun w2 hw2 => ?ry19) ?rr19
        case ry19 => ((try dsimp only at hw2); go_simp <;> with_reducible rfl)
        simp only [Act.put, List.setIfInBounds_toArray, List.set_cons_zero, List.set_cons_succ]
        refine rg_take 8 (v := ?rv20) rfl (by kernel_rfl) (by kernel_rfl) (by kernel_rfl) (fun _ _ _ h => h) (by rfl) hS (fun w2 hw2 => ?ry20) ?rr20
        case ry20 => ((try dsimp only at hw2); go_simp <;> with_reducible rfl)
        simp only [Act.put, List.setIfInBounds_toArray, List.set_cons_zero, List.set_cons_succ]
        refine rg_take 10 (v := ?rv21) rfl (by kernel_rfl) (by kernel_rfl) (by kernel_rfl) (fun _ _ _ h => h) (by rfl) hS (fun w2 hw2 => ?ry21) ?rr21
        case ry21 => ((try dsimp only at hw2); go_simp <;> with_reducible rfl)
        simp only [Act.put, List.setIfInBounds_toArray, List.set_cons_zero, List.set_cons_succ]
        refine rg_take 11 (v := ?rv22) rfl (by kernel_rfl) (by kernel_rfl) (by kernel_rfl) (fun _ _ _ h => h) (by rfl) hS (fun w2 hw2 => ?ry22) ?rr22
        case ry22 => ((try dsimp only at hw2); go_simp <;> with_reducible rfl)
        simp only [Act.put, List.setIfInBounds_toArray, List.set_cons_zero, List.set_cons_succ]
        refine rg_take 12 (v := ?rv23) rfl (by kernel_rfl) (by kernel_rfl) (by kernel_rfl) (fun _ _ _ h => h) (by rfl) hS (fun w2 hw2 => ?ry23) ?rr23
        case ry23 => ((try dsimp only at hw2); go_simp <;> with_reducible rfl)
        simp only [Act.put, List.setIfInBounds_toArray, List.set_cons_zero, List.set_cons_succ]
        refine rg_take 13 (v := ?rv24) rfl (by kernel_rfl) (by kernel_rfl) (by kernel_rfl) (fun _ _ _ h => h) (by rfl) hS (fun w2 hw2 => ?ry24) ?rr24
        case ry24 => ((try dsimp only at hw2); go_simp <;> with_reducible rfl)
        simp only [Act.put, List.setIfInBounds_toArray, List.set_cons_zero, List.set_cons_succ]
        refine rg_take 14 (v := ?rv25) rfl (by kernel_rfl) (by kernel_rfl) (by kernel_rfl) (fun _ _ _ h => h) (by rfl) hS (fun w2 hw2 => ?ry25) ?rr25
        case ry25 => ((try dsimp only at hw2); go_simp <;> with_reducible rfl)
        simp only [Act.put, List.setIfInBounds_toArray, List.set_cons_zero, List.set_cons_succ]
        refine rg_take 15 (v := ?rv26) rfl (by kernel_rfl) (by kernel_rfl) (by kernel_rfl) (fun _ _ _ h => h) (by rfl) hS (fun w2 hw2 => ?ry26) ?rr26
        case ry26 => ((try dsimp only at hw2); go_simp <;> with_reducible rfl)
        simp only [Act.put, List.setIfInBounds_toArray, List.set_cons_zero, List.set_cons_succ]
        refine rg_take 17 (v := ?rv27) rfl (by kernel_rfl) (by kernel_rfl) (by kernel_rfl) (fun _ _ _ h => h) (by rfl) hS (fun w2 hw2 => ?ry27) ?rr27
        case ry27 => ((try dsimp only at hw2); go_simp <;> with_reducible rfl)
        simp only [Act.put, List.setIfInBounds_toArray, List.set_cons_zero, List.set_cons_succ]
        refine rg_take 20 (v := ?rv28) rfl (by kernel_rfl) (by kernel_rfl) (by kernel_rfl) (fun _ _ _ h => h) (by rfl) hS (fun w2 hw2 => ?ry28) ?rr28
        case ry28 => ((try dsimp only at hw2); go_simp <;> with_reducible rfl)
        simp only [Act.put, List.setIfInBounds_toArray, List.set_cons_zero, List.set_cons_succ]
        refine rg_load 16 rfl (by kernel_rfl) (by kernel_rfl) (by kernel_rfl) (w.heap.size) (1) ((bv bs).toArray) (fun _ _ _ h => h) (by rfl) 22 (.tmp 20) rfl rfl hS (fun w2 h2 => (A1.out.later h2 (Nat.le_refl _)).range1) Tryz.underlying22 rfl (arr_size ha) ?_
        simp only [Act.put, List.setIfInBounds_toArray, List.set_cons_zero, List.set_cons_succ]
        refine rg_take 18 (v := ?rv29) rfl (by kernel_rfl) (by kernel_rfl) (by kernel_rfl) (fun _ _ _ h => h) (by rfl) hS (fun w2 hw2 => ?ry29) ?rr29
        case ry29 => ((try dsimp only at hw2); go_simp <;> with_reducible rfl)
        simp only [Act.put, List.setIfInBounds_toArray, List.set_cons_zero, List.set_cons_succ]
        refine rg_take 21 (v := ?rv30) rfl (by kernel_rfl) (by kernel_rfl) (by kernel_rfl) (fun _ _ _ h => h) (by rfl) hS (fun w2 hw2 => ?ry30) ?rr30
        case ry30 => ((try dsimp only at hw2); go_simp <;> with_reducible rfl)
        simp only [Act.put, List.setIfInBounds_toArray, List.set_cons_zero, List.set_cons_succ]
        refine rg_load 22 rfl (by kernel_rfl) (by kernel_rfl) (by kernel_rfl) (w.heap.size + 1) (1) ((bv ps).toArray) (fun _ _ _ h => h) (by rfl) 22 (.tmp 26) rfl rfl hS (fun w2 h2 => (P1.out.later h2 (Nat.le_refl _)).range1) Tryz.underlying22 rfl (arr_size hp) ?_
        simp only [Act.put, List.setIfInBounds_toArray, List.set_cons_zero, List.set_cons_succ]
        refine rg_step 19 rfl (by kernel_rfl) (by rfl) (fun K hK => ?_)
        go_simp
        refine (first_any bs ha m hm _).mono ?_
        rintro e w3 ⟨rfl, b3⟩
        replace hS := hS.trans (b3.mono hS.size)
        clear b3
        refine hK.out _ _ hS ?_
        clear hK K
        try simp only [Act.put, List.setIfInBounds_toArray, List.set_cons_zero, List.set_cons_succ]
        refine rg_take 23 (v := ?rv31) rfl (by kernel_rfl) (by kernel_rfl) (by kernel_rfl) (fun _ _ _ h => h) (by rfl) hS (fun w2 hw2 => ?ry31) ?rr31
        case ry31 => ((try dsimp only at hw2); go_simp <;> with_reducible rfl)
        simp only [Act.put, List.setIfInBounds_toArray, List.set_cons_zero, List.set_cons_succ]
        refine rg_take 24 (v := ?rv32) rfl (by kernel_rfl) (by kernel_rfl) (by kernel_rfl) (fun _ _ _ h => h) (by rfl) hS (fun w2 hw2 => ?ry32) ?rr32
        case ry32 => ((try dsimp only at hw2); go_simp <;> with_reducible rfl)
        simp only [Act.put, List.setIfInBounds_toArray, List.set_cons_zero, List.set_cons_succ]
        refine rg_take 25 (v := ?rv33) rfl (by kernel_rfl) (by kernel_rfl) (by kernel_rfl) (fun _ _ _ h => h) (by rfl) hS (fun w2 hw2 => ?ry33) ?rr33
        case ry33 => ((try dsimp only at hw2); go_simp <;> with_reducible rfl)
        simp only [Act.put, List.setIfInBounds_toArray, List.set_cons_zero, List.set_cons_succ]
        refine rg_done (by kernel_rfl) ?_
        have H2 := Lib.hid (B1.out.trans (hS.mono B1.out.size))
        clear hS
        go_wp2_with fail
        go_ret
        exact ⟨rfl, H2.out⟩
      · have hbb : (av == pv) = false := by simpa using hv
        have hres : inv av bs pv ps n = false := by unfold inv; rw [hr, hrn, hbb]; rfl
        rw [hres]
        clear hres
        go_enter Tryz.func18, Tryz.ntmps18
        go_wp2_with fail
        generalize hW : (w.alloc (.cells (adv av bs) 24)).alloc (.cells (pxv pv ps n) 26) = W at A1 P1 B1 ⊢
        clear hW
        have hcN : ∀ w', Below W.heap.size W w' → w'.cell? ⟨w.heap.size + 1, 17, none⟩ = some (.int .i64 n) := fun w' h => (P1.out.later h (Nat.le_refl _)).bits_cell
        have hcA : ∀ w', Below W.heap.size W w' → w'.cell? ⟨w.heap.size, 0, none⟩ = some (.bool av) := fun w' h => (A1.out.later h (Nat.le_refl _)).v6_cell
        have hcP : ∀ w', Below W.heap.size W w' → w'.cell? ⟨w.heap.size + 1, 0, none⟩ = some (.bool pv) := fun w' h => (P1.out.later h (Nat.le_refl _)).v6_cell
        have hS : Below W.heap.size W W.drew := (Below.refl _ _).drew
        refine rg_begin (fun w' => Below W.heap.size W w') 26 (by kernel_rfl) rfl ?_
        refine rg_load 0 rfl (by kernel_rfl) (by kernel_rfl) (by kernel_rfl) (w.heap.size) (0) ((adv av bs)) (fun _ _ _ h => h) (by rfl) 24 (.tmp 2) rfl rfl hS (fun w2 h2 => (A1.out.later h2 (Nat.le_refl _)).range) Tryz.underlying24 rfl (ad_size av ha) ?_
        simp only [Act.put, List.setIfInBounds_toArray, List.set_cons_zero, List.set_cons_succ]
        refine rg_step 1 rfl (by kernel_rfl) (by rfl) (fun K hK => ?_)
        go_simp
        refine (Right_any av bs ha _).mono ?_
        rw [hr]
        rintro e w1 ⟨rfl, b1⟩
        replace hS := hS.trans (b1.mono hS.size)
        clear b1
        refine hK.out _ _ hS ?_
        clear hK K
        try simp only [Act.put, List.setIfInBounds_toArray, List.set_cons_zero, List.set_cons_succ]
        refine rg_take 2 (v := ?rv34) rfl (by kernel_rfl) (by kernel_rfl) (by kernel_rfl) (fun _ _ _ h => h) (by rfl) hS (fun w2 hw2 => ?ry34) ?rr34
        case ry34 => ((try dsimp only at hw2); go_simp <;> with_reducible rfl)
        simp only [Act.put, List.setIfInBounds_toArray, List.set_cons_zero, List.set_cons_succ]
        refine rg_load 3 rfl (by kernel_rfl) (by kernel_rfl) (by kernel_rfl) (w.heap.size + 1) (0) ((pxv pv ps n)) (fun _ _ _ h => h) (by rfl) 26 (.tmp 3) rfl rfl hS (fun w2 h2 => (P1.out.later h2 (Nat.le_refl _)).range) Tryz.underlying26 rfl (px_size pv n hp) ?_
        simp only [Act.put, List.setIfInBounds_toArray, List.set_cons_zero, List.set_cons_succ]
        refine rg_step 4 rfl (by kernel_rfl) (by rfl) (fun K hK => ?_)
        go_simp
        refine (RightNet_any pv ps hp n _).mono ?_
        rw [hrn]
        rintro e w2 ⟨rfl, b2⟩
        replace hS := hS.trans (b2.mono hS.size)
        clear b2
        refine hK.out _ _ hS ?_
        clear hK K
        try simp only [Act.put, List.setIfInBounds_toArray, List.set_cons_zero, List.set_cons_succ]
        refine rg_take 5 (v := ?rv35) rfl (by kernel_rfl) (by kernel_rfl) (by kernel_rfl) (fun _ _ _ h => h) (by rfl) hS (fun w2 hw2 => ?ry35) ?rr35
        case ry35 => ((try dsimp only at hw2); go_simp <;> with_reducible rfl)
        simp only [Act.put, List.setIfInBounds_toArray, List.set_cons_zero, List.set_cons_succ]
        refine rg_take 6 (v := ?rv36) rfl (by kernel_rfl) (by kernel_rfl) (by kernel_rfl) (fun _ _ _ h => h) (by rfl) hS (fun w2 hw2 => ?ry36) ?rr36
        case ry36 => ((try dsimp only at hw2); go_simp <;> with_reducible rfl)
        simp only [Act.put, List.setIfInBounds_toArray, List.set_cons_zero, List.set_cons_succ]
        refine rg_take 7 (v := ?rv37) rfl (by kernel_rfl) (by kernel_rfl) (by kernel_rfl) (fun _ _ _ h => h) (by rfl) hS (fun w2 hw2 => ?ry37) ?rr37
        case ry37 => ((try dsimp only at hw2); go_simp <;> with_reducible rfl)
        simp only [Act.put, List.setIfInBounds_toArray, List.set_cons_zero, List.set_cons_succ]
        refine rg_take 9 (v := ?rv38) rfl (by kernel_rfl) (by kernel_rfl) (by kernel_rfl) (fun _ _ _ h => h) (by rfl) hS (fun w2 hw2 => ?ry38) ?rr38
        case ry38 => ((try dsimp only at hw2); go_simp <;> with_reducible rfl)
        simp only [Act.put, List.setIfInBounds_toArray, List.set_cons_zero, List.set_cons_succ]
        refine rg_take 8 (v := ?rv39) rfl (by kernel_rfl) (by kernel_rfl) (by kernel_rfl) (fun _ _ _ h => h) (by rfl) hS (fun w2 hw2 => ?ry39) ?rr39
        case ry39 => ((try dsimp only at hw2); go_simp <;> with_reducible rfl)
        simp only [Act.put, List.setIfInBounds_toArray, List.set_cons_zero, List.set_cons_succ]
        refine rg_take 10 (v := ?rv40) rfl (by kernel_rfl) (by kernel_rfl) (by kernel_rfl) (fun _ _ _ h => h) (by rfl) hS (fun w2 hw2 => ?ry40) ?rr40
        case ry40 => ((try dsimp only at hw2); go_simp <;> with_reducible rfl)
        simp only [Act.put, List.setIfInBounds_toArray, List.set_cons_zero, List.set_cons_succ]
        refine rg_take 11 (v := ?rv41) rfl (by kernel_rfl) (by kernel_rfl) (by kernel_rfl) (fun _ _ _ h => h) (by rfl) hS (fun w2 hw2 => ?ry41) ?rr41
        case ry41 => ((try dsimp only at hw2); go_simp <;> with_reducible rfl)
        simp only [Act.put, List.setIfInBounds_toArray, List.set_cons_zero, List.set_cons_succ]
        refine rg_take 12 (v := ?rv42) rfl (by kernel_rfl) (by kernel_rfl) (by kernel_rfl) (fun _ _ _ h => h) (by rfl) hS (fun w2 hw2 => ?ry42) ?rr42
        case ry42 => ((try dsimp only at hw2); go_simp <;> with_reducible rfl)
        simp only [Act.put, List.setIfInBounds_toArray, List.set_cons_zero, List.set_cons_succ]
        refine rg_take 13 (v := ?rv43) rfl (by kernel_rfl) (by kernel_rfl) (by kernel_rfl) (fun _ _ _ h => h) (by rfl) hS (fun w2 hw2 => ?ry43) ?rr43
        case ry43 => ((try dsimp only at hw2); go_simp <;> with_reducible rfl)
        simp only [Act.put, List.setIfInBounds_toArray, List.set_cons_zero, List.set_cons_succ]
        refine rg_take 14 (v := ?rv44) rfl (by kernel_rfl) (by kernel_rfl) (by kernel_rfl) (fun _ _ _ h => h) (by rfl) hS (fun w2 hw2 => ?ry44) ?rr44
        case ry44 => ((try dsimp only at hw2); go_simp <;> with_reducible rfl)
        simp only [Act.put, List.setIfInBounds_toArray, List.set_cons_zero, List.set_cons_succ]
        refine rg_skip 15 rfl (by kernel_rfl) (by kernel_rfl) (by kernel_rfl) (fun _ _ _ h => h) (by rfl) hS ?_
        simp only [Act.put, List.setIfInBounds_toArray, List.set_cons_zero, List.set_cons_succ]
        refine rg_skip 17 rfl (by kernel_rfl) (by kernel_rfl) (by kernel_rfl) (fun _ _ _ h => h) (by rfl) hS ?_
        simp only [Act.put, List.setIfInBounds_toArray, List.set_cons_zero, List.set_cons_succ]
        refine rg_skip 20 rfl (by kernel_rfl) (by kernel_rfl) (by kernel_rfl) (fun _ _ _ h => h) (by rfl) hS ?_
        simp only [Act.put, List.setIfInBounds_toArray, List.set_cons_zero, List.set_cons_succ]
        refine rg_skip 16 rfl (by kernel_rfl) (by kernel_rfl) (by kernel_rfl) (fun _ _ _ h => h) (by rfl) hS ?_
        simp only [Act.put, List.setIfInBounds_toArray, List.set_cons_zero, List.set_cons_succ]
        refine rg_skip 18 rfl (by kernel_rfl) (by kernel_rfl) (by kernel_rfl) (fun _ _ _ h => h) (by rfl) hS ?_
        simp only [Act.put, List.setIfInBounds_toArray, List.set_cons_zero, List.set_cons_succ]
        refine rg_skip 21 rfl (by kernel_rfl) (by kernel_rfl) (by kernel_rfl) (fun _ _ _ h => h) (by rfl) hS ?_
        simp only [Act.put, List.setIfInBounds_toArray, List.set_cons_zero, List.set_cons_succ]
        refine rg_skip 22 rfl (by kernel_rfl) (by kernel_rfl) (by kernel_rfl) (fun _ _ _ h => h) (by rfl) hS ?_
        simp only [Act.put, List.setIfInBounds_toArray, List.set_cons_zero, List.set_cons_succ]
        refine rg_skip 19 rfl (by kernel_rfl) (by kernel_rfl) (by kernel_rfl) (fun _ _ _ h => h) (by rfl) hS ?_
        simp only [Act.put, List.setIfInBounds_toArray, List.set_cons_zero, List.set_cons_succ]
        refine rg_skip 23 rfl (by kernel_rfl) (by kernel_rfl) (by kernel_rfl) (fun _ _ _ h => h) (by rfl) hS ?_
        simp only [Act.put, List.setIfInBounds_toArray, List.set_cons_zero, List.set_cons_succ]
        refine rg_take 24 (v := ?rv45) rfl (by kernel_rfl) (by kernel_rfl) (by kernel_rfl) (fun _ _ _ h => h) (by rfl) hS (fun w2 hw2 => ?ry45) ?rr45
        case ry45 => ((try dsimp only at hw2); go_simp <;> with_reducible rfl)
        simp only [Act.put, List.setIfInBounds_toArray, List.set_cons_zero, List.set_cons_succ]
        refine rg_take 25 (v := ?rv46) rfl (by kernel_rfl) (by kernel_rfl) (by kernel_rfl) (fun _ _ _ h => h) (by rfl) hS (fun w2 hw2 => ?ry46) ?rr46
        case ry46 => ((try dsimp only at hw2); go_simp <;> with_reducible rfl)
        simp only [Act.put, List.setIfInBounds_toArray, List.set_cons_zero, List.set_cons_succ]
        refine rg_done (by kernel_rfl) ?_
        have H2 := Lib.hid (B1.out.trans (hS.mono B1.out.size))
        clear hS
        go_wp2_with fail
        go_ret
        exact ⟨rfl, H2.out⟩
end Go.Proofs.YtdbbgjbgmfeljaaGreatDoor

namespace Go.Proofs.YtdbbgjbgmfeljaaGreatDoor
open Go.RowKit
set_option maxRecDepth 100000

theorem right_yes {bs : List UInt8} (hl : bs.length = 16) (h : ∀ (i : Nat) (x : UInt8), 4 ≤ i → bs[i]? = some x → x = 0) : rightv false bs = true := by
  unfold rightv
  rw [show wid false = 32 from rfl, show firstv bs 32 = norm false bs from (norm_first false hl).symm]
  have : norm false bs = bs := by
    show bs.take 4 ++ List.replicate 12 0 = bs
    apply List.ext_getElem?
    intro i
    by_cases h4 : i < 4
    · rw [List.getElem?_append_left (by rw [List.length_take]; omega), List.getElem?_take, if_pos h4]
    · rw [List.getElem?_append_right (by rw [List.length_take]; omega), List.length_take, List.getElem?_replicate]
      by_cases h16 : i < 16
      · rw [if_pos (by omega), List.getElem?_eq_getElem (by omega), h i bs[i] (by omega) (List.getElem?_eq_getElem (by omega))]
      · rw [if_neg (by omega), List.getElem?_eq_none (by omega)]
  rw [this, beq_self_eq_true]
theorem right_no {bs : List UInt8} {i : Nat} {x : UInt8} (h4 : 4 ≤ i) (hx : bs[i]? = some x) (h0 : x ≠ 0) : rightv false bs = false := by
  cases hr : rightv false bs with
  | false => rfl
  | true =>
    unfold rightv at hr
    have h1 := eq_of_beq hr
    rw [show wid false = 32 from rfl] at h1
    rw [h1, firstv_get] at hx
    cases hb : bs[i]? with
    | none => rw [hb] at hx; cases hx
    | some b =>
      rw [hb] at hx
      have h2 : b &&& mk8 (min (32 - 8 * i) 8) = x := Option.some.inj hx
      rw [show min (32 - 8 * i) 8 = 0 by omega, show mk8 0 = 0 from rfl, UInt8.and_zero] at h2
      exact absurd h2.symm h0

set_option maxHeartbeats 1000000 in
theorem refRight_any (v6 : Bool) (bs : List UInt8) (hl : bs.length = 16) (w : World) : Calls Tryz.prog 11 #[.agg (adv v6 bs)] w fun e w' => e = .returned (.bool (rightv v6 bs)) ∧ Below w.heap.size w w' := by
  have A1 := AdBox.new w v6 hl
  have B1 : Below w.heap.size w (w.alloc (.cells (adv v6 bs) 24)) := (Below.refl _ _).alloc (Nat.le_refl _) _
  have c0 := A1.v6_cell
  have H1 := Lib.hid (And.intro A1 B1)
  clear A1 B1
  generalize hW : w.alloc (.cells (adv v6 bs) 24) = W at c0 H1
  cases v6 with
  | true =>
    have hr : rightv true bs = true := by unfold rightv; rw [show wid true = 128 from rfl, firstv_all (by omega), beq_self_eq_true]
    rw [hr]
    clear hr
    go_enter Tryz.func11, Tryz.ntmps11
    go_wp2_with fail
    go_loop [3] (fun i => ∃ j : Nat, 4 ≤ j ∧ j ≤ 16 ∧ i = .int .i64 j) (fun i => 16 - (intOf i).toNat)
    case atStart => exact ⟨4, by omega, by omega, rfl⟩
    case round =>
      obtain ⟨j, h4, h16, rfl⟩ := hrel
      by_cases hlt : j < 16
      · go_wp2_with fail
        go_round
        case rel => exact ⟨j + 1, by omega, by omega, by go_num⟩
        case measure => simp [intOf]; omega
      · obtain rfl : j = 16 := by omega
        go_wp2_with fail
        go_ret
        exact ⟨rfl, H1.out.2⟩
  | false =>
    go_enter Tryz.func11, Tryz.ntmps11
    go_wp2_with fail
    go_loop [3] (fun i => ∃ j : Nat, 4 ≤ j ∧ j ≤ 16 ∧ i = .int .i64 j ∧ ∀ (k : Nat) (x : UInt8), 4 ≤ k → k < j → bs[k]? = some x → x = 0) (fun i => 16 - (intOf i).toNat)
    case atStart => exact ⟨4, by omega, by omega, rfl, fun k x h1 h2 => by omega⟩
    case round =>
      obtain ⟨j, h4, h16, rfl, hz⟩ := hrel
      have HZ := Lib.hid hz
      clear hz
      by_cases hlt : j < 16
      · obtain ⟨x, hx, hc⟩ := H1.out.1.there j hlt
        by_cases hx0 : x = 0
        · subst hx0
          have hc0 : W.cell? ⟨w.heap.size, 1 + j, none⟩ = some (.int .u8 0) := hc
          clear hc
          have HX := Lib.hid hx
          clear hx
          go_wp2_with fail
          go_round
          case rel =>
            refine ⟨j + 1, by omega, by omega, by go_num, fun k x h1 h2 h3 => ?_⟩
            by_cases hk : k = j
            · subst hk; exact (Option.some.inj (HX.out.symm.trans h3)).symm
            · exact HZ.out k x h1 (by omega) h3
          case measure => simp [intOf]; omega
        · have hr := right_no h4 hx hx0
          have hn0 : ¬ (x.toNat : Int) = 0 := fun h => hx0 (by
            have h2 : x.toNat = 0 := by omega
            exact UInt8.toNat_inj.1 h2)
          have HR := Lib.hid hr
          clear hr hx
          go_wp2_with fail
          go_ret
          exact ⟨by rw [HR.out]; rfl, H1.out.2⟩
      · obtain rfl : j = 16 := by omega
        have hr := right_yes hl (fun i x h4 hx => HZ.out i x h4 (by have := (List.getElem?_eq_some_iff.1 hx).1; omega) hx)
        have HR := Lib.hid hr
        clear hr
        go_wp2_with fail
        go_ret
        exact ⟨by rw [HR.out]; rfl, H1.out.2⟩

/-- A bit of sixteen bytes, from the first one on. -/
def bitv (bs : List UInt8) (i : Nat) : Nat := (bs.getD (i / 8) 0).toNat / 2 ^ (7 - i % 8) % 2
theorem and1 : ∀ y : Fin 256, bits .and .i64 (y.val : Int) 1 = ((y.val % 2 : Nat) : Int) := by decide +kernel
theorem and1' (x : UInt8) (k : Nat) : bits .and .i64 ((x.toNat / 2 ^ k : Nat) : Int) 1 = ((x.toNat / 2 ^ k % 2 : Nat) : Int) :=
  and1 ⟨x.toNat / 2 ^ k, Nat.lt_of_le_of_lt (Nat.div_le_self _ _) x.toNat_lt⟩
set_option maxHeartbeats 1000000 in
theorem bit_any (v6 : Bool) (bs : List UInt8) (hl : bs.length = 16) (i : Nat) (hi : i < 128) (w : World) : Calls Tryz.prog 39 #[.agg (adv v6 bs), .int .i64 i] w fun e w' => e = .returned (.int .i64 (bitv bs i)) ∧ Below w.heap.size w w' := by
  have A1 := AdBox.new w v6 hl
  have B1 : Below w.heap.size w (w.alloc (.cells (adv v6 bs) 24)) := (Below.refl _ _).alloc (Nat.le_refl _) _
  obtain ⟨b, hb8⟩ : ∃ b, i / 8 = b := ⟨_, rfl⟩
  have hb16 : b < 16 := by omega
  have i1 : (i : Int) / 8 = (b : Int) := by omega
  obtain ⟨x, hx, hc⟩ := A1.there b hb16
  have H1 := Lib.hid B1
  have hbit : bitv bs i = x.toNat / 2 ^ (7 - i % 8) % 2 := by
    unfold bitv
    rw [hb8]
    simp [List.getD, hx]
  have hx2 := x.toNat_lt
  clear A1 B1
  generalize hW : w.alloc (.cells (adv v6 bs) 24) = W at hc H1
  rcases (show i % 8 = 0 ∨ i % 8 = 1 ∨ i % 8 = 2 ∨ i % 8 = 3 ∨ i % 8 = 4 ∨ i % 8 = 5 ∨ i % 8 = 6 ∨ i % 8 = 7 by omega) with hq | hq | hq | hq | hq | hq | hq | hq
  · have i2 : (i : Int) % 8 = 0 := by omega
    have ha := and1' x (7 - 0)
    have HA := Lib.hid ha
    clear ha
    rw [hq] at hbit
    have HB := Lib.hid hbit
    clear hbit hq
    go_enter Tryz.func39, Tryz.ntmps39
    go_wp2_with fail
    go_ret
    rw [HB.out]
    refine ⟨?_, H1.out⟩
    rw [← HA.out]
    first
      | rfl
      | (rw [show (2 : Nat) ^ (7 - 7) = 1 from rfl, Nat.div_one]; rfl)
  · have i2 : (i : Int) % 8 = 1 := by omega
    have ha := and1' x (7 - 1)
    have HA := Lib.hid ha
    clear ha
    rw [hq] at hbit
    have HB := Lib.hid hbit
    clear hbit hq
    go_enter Tryz.func39, Tryz.ntmps39
    go_wp2_with fail
    go_ret
    rw [HB.out]
    refine ⟨?_, H1.out⟩
    rw [← HA.out]
    first
      | rfl
      | (rw [show (2 : Nat) ^ (7 - 7) = 1 from rfl, Nat.div_one]; rfl)
  · have i2 : (i : Int) % 8 = 2 := by omega
    have ha := and1' x (7 - 2)
    have HA := Lib.hid ha
    clear ha
    rw [hq] at hbit
    have HB := Lib.hid hbit
    clear hbit hq
    go_enter Tryz.func39, Tryz.ntmps39
    go_wp2_with fail
    go_ret
    rw [HB.out]
    refine ⟨?_, H1.out⟩
    rw [← HA.out]
    first
      | rfl
      | (rw [show (2 : Nat) ^ (7 - 7) = 1 from rfl, Nat.div_one]; rfl)
  · have i2 : (i : Int) % 8 = 3 := by omega
    have ha := and1' x (7 - 3)
    have HA := Lib.hid ha
    clear ha
    rw [hq] at hbit
    have HB := Lib.hid hbit
    clear hbit hq
    go_enter Tryz.func39, Tryz.ntmps39
    go_wp2_with fail
    go_ret
    rw [HB.out]
    refine ⟨?_, H1.out⟩
    rw [← HA.out]
    first
      | rfl
      | (rw [show (2 : Nat) ^ (7 - 7) = 1 from rfl, Nat.div_one]; rfl)
  · have i2 : (i : Int) % 8 = 4 := by omega
    have ha := and1' x (7 - 4)
    have HA := Lib.hid ha
    clear ha
    rw [hq] at hbit
    have HB := Lib.hid hbit
    clear hbit hq
    go_enter Tryz.func39, Tryz.ntmps39
    go_wp2_with fail
    go_ret
    rw [HB.out]
    refine ⟨?_, H1.out⟩
    rw [← HA.out]
    first
      | rfl
      | (rw [show (2 : Nat) ^ (7 - 7) = 1 from rfl, Nat.div_one]; rfl)
  · have i2 : (i : Int) % 8 = 5 := by omega
    have ha := and1' x (7 - 5)
    have HA := Lib.hid ha
    clear ha
    rw [hq] at hbit
    have HB := Lib.hid hbit
    clear hbit hq
    go_enter Tryz.func39, Tryz.ntmps39
    go_wp2_with fail
    go_ret
    rw [HB.out]
    refine ⟨?_, H1.out⟩
    rw [← HA.out]
    first
      | rfl
      | (rw [show (2 : Nat) ^ (7 - 7) = 1 from rfl, Nat.div_one]; rfl)
  · have i2 : (i : Int) % 8 = 6 := by omega
    have ha := and1' x (7 - 6)
    have HA := Lib.hid ha
    clear ha
    rw [hq] at hbit
    have HB := Lib.hid hbit
    clear hbit hq
    go_enter Tryz.func39, Tryz.ntmps39
    go_wp2_with fail
    go_ret
    rw [HB.out]
    refine ⟨?_, H1.out⟩
    rw [← HA.out]
    first
      | rfl
      | (rw [show (2 : Nat) ^ (7 - 7) = 1 from rfl, Nat.div_one]; rfl)
  · have i2 : (i : Int) % 8 = 7 := by omega
    have ha := and1' x (7 - 7)
    have HA := Lib.hid ha
    clear ha
    rw [hq] at hbit
    have HB := Lib.hid hbit
    clear hbit hq
    go_enter Tryz.func39, Tryz.ntmps39
    go_wp2_with fail
    go_ret
    rw [HB.out]
    refine ⟨?_, H1.out⟩
    rw [← HA.out]
    first
      | rfl
      | (rw [show (2 : Nat) ^ (7 - 7) = 1 from rfl, Nat.div_one]; rfl)
end Go.Proofs.YtdbbgjbgmfeljaaGreatDoor
