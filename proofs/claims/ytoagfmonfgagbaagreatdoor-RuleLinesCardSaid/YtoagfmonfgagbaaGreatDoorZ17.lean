/-
  
-/
import Derived.Test.YtoagfmonfgagbaaGreatDoorZ04
import Derived.Test.YtoagfmonfgagbaaGreatDoorChecked
import Derived.Deep.MidRow
import Derived.Deep.WholeRow
import Derived.Laws.CopyOwn
import Derived.Deep.RegionHeld3
import Derived.RegionTactic
import Derived.Deep.RegionWith
import Derived.IntWalk
import Derived.BigQuiet
import Derived.Deep.QuietTactic
import Derived.Laws.ResultCell
namespace Go.Proofs.YtoagfmonfgagbaaGreatDoor
open Go.RowKit
def adv (v6 : Bool) (bs : List UInt8) : Array Value := (Value.bool v6 :: bv bs).toArray
theorem adv_size (v6 : Bool) {bs : List UInt8} (h : bs.length = 16) : (adv v6 bs).size = 17 := by simp [adv, bv_length, h]
def AdBox (w : World) (g : Nat) (v6 : Bool) (bs : List UInt8) : Prop := w.heap[g]? = some (.cells (adv v6 bs) 51 (0, 0)) ∧ bs.length = 16
theorem AdBox.later {w w' : World} {B g : Nat} {v6 : Bool} {bs : List UInt8} (h : AdBox w g v6 bs) (hb : Below B w w') (hB : w.heap.size ≤ B) : AdBox w' g v6 bs := by
  have hlt : g < w.heap.size := (Array.getElem?_eq_some_iff.1 h.1).1
  exact ⟨(hb.block g (by omega)).trans h.1, h.2⟩
theorem AdBox.lt {w : World} {g : Nat} {v6 : Bool} {bs : List UInt8} (h : AdBox w g v6 bs) : g < w.heap.size := (Array.getElem?_eq_some_iff.1 h.1).1
theorem AdBox.new (w : World) (v6 : Bool) {bs : List UInt8} (h : bs.length = 16) : AdBox (w.alloc (.cells (adv v6 bs) 51)) w.heap.size v6 bs := ⟨heap_alloc_last w _, h⟩
theorem AdBox.v6_cell {w : World} {g : Nat} {v6 : Bool} {bs : List UInt8} (h : AdBox w g v6 bs) : w.cell? ⟨g, 0, none⟩ = some (.bool v6) := by
  rw [cell_of_row w g 0 _ _ _ h.1]; rfl
theorem AdBox.bytes {w : World} {g : Nat} {v6 : Bool} {bs : List UInt8} (h : AdBox w g v6 bs) : Bs w (some ⟨g, 1, none⟩) 16 16 bs := by
  refine ⟨h.2, Nat.le_refl _, by unfold maxLen; omega, (fun h => by cases h), fun _ => ⟨g, 1, rfl, fun i x hx => ?_⟩⟩
  rw [cell_of_row w g (1 + i) _ _ _ h.1]
  simp only [adv, Nat.add_comm 1 i, List.getElem?_toArray, List.getElem?_cons_succ]
  unfold bv
  rw [List.getElem?_map, hx]; rfl
theorem AdBox.load {w : World} {g : Nat} {v6 : Bool} {bs : List UInt8} (h : AdBox w g v6 bs) : (Instr.loadAt 51 (.pointer (some ⟨g, 0, none⟩))).run Tryz.prog w = .ok (.agg (adv v6 bs)) w := by
  simp only [Instr.loadAt, Instr.sureAddr, Sem.run_bind, Sem.run_pure, Result.andThen_ok, run_loadVar_row w g _ 51 (adv v6 bs) (0, 0) _ h.1 Tryz.underlying51 rfl (by rw [adv_size v6 h.2]; kernel_rfl)]
theorem adv_set (v6 : Bool) (bs : List UInt8) (i : Nat) (x : UInt8) : (adv v6 bs).setIfInBounds (1 + i) (.int .u8 x.toNat) = adv v6 (bs.set i x) := by
  simp [adv, bv, Nat.add_comm 1 i, List.map_set]
theorem adv_set0 (v6 v : Bool) (bs : List UInt8) : (adv v6 bs).setIfInBounds 0 (.bool v) = adv v bs := by simp [adv]
theorem adv_one (v6 : Bool) (bs : List UInt8) : (adv v6 bs).all (·.oneCell') = true :=
  Array.all_eq_true_iff_forall_mem.2 fun v hv => by
    simp only [adv, List.mem_toArray, List.mem_cons] at hv
    rcases hv with rfl | hv
    · rfl
    · exact bv_one bs v hv
theorem AdBox.put {w : World} {g : Nat} {v6 : Bool} {bs : List UInt8} (h : AdBox w g v6 bs) (i : Nat) (x : UInt8) : AdBox (w.setCell ⟨g, 1 + i, none⟩ (.int .u8 x.toNat)) g v6 (bs.set i x) := by
  rw [setCell_eq_setRow w g (1 + i) _ _ _ _ h.1, adv_set]
  exact ⟨setRow_heap w g _ _ _ _ h.1, by rw [List.length_set]; exact h.2⟩
theorem AdBox.put0 {w : World} {g : Nat} {v6 : Bool} {bs : List UInt8} (h : AdBox w g v6 bs) (v : Bool) : AdBox (w.setCell ⟨g, 0, none⟩ (.bool v)) g v bs := by
  rw [setCell_eq_setRow w g 0 _ _ _ _ h.1, adv_set0]
  exact ⟨setRow_heap w g _ _ _ _ h.1, h.2⟩
theorem AdBox.far {w : World} {g : Nat} {v6 : Bool} {bs : List UInt8} (h : AdBox w g v6 bs) {p : Addr} (hp : g ≠ p.block) (v : Value) : AdBox (w.setCell p v) g v6 bs := ⟨(Below.heap_setCell w p v g hp).trans h.1, h.2⟩
theorem AdBox.frozen {w : World} {g : Nat} {v6 : Bool} {bs : List UInt8} (h : AdBox w g v6 bs) (i : Nat) : w.frozen? ⟨g, i, none⟩ = false := by simp [World.frozen?, h.1]
theorem AdBox.there {w : World} {g : Nat} {v6 : Bool} {bs : List UInt8} (h : AdBox w g v6 bs) (i : Nat) (hi : i < 16) : ∃ x : UInt8, bs[i]? = some x ∧ w.cell? ⟨g, 1 + i, none⟩ = some (.int .u8 x.toNat) := by
  have hl := h.2
  refine ⟨bs[i]'(by omega), List.getElem?_eq_getElem (by omega), ?_⟩
  obtain ⟨b, off, e, hc⟩ := h.bytes.get hi
  cases e
  exact hc
theorem ad_zero : (Tryz.prog.info? 51).map (·.size) = some 17 := by kernel_rfl
theorem ad_size (v6 : Bool) {bs : List UInt8} (h : bs.length = 16) : (Tryz.prog.info? 51).map (·.size) = some (adv v6 bs).size := by rw [adv_size v6 h]; exact ad_zero
theorem AdBox.range {w : World} {g : Nat} {v6 : Bool} {bs : List UInt8} (h : AdBox w g v6 bs) : w.rangeAt g 0 (adv v6 bs).toList := fun j v hj => by
  rw [cell_of_row w g (0 + j) _ _ _ h.1, Nat.zero_add, ← Array.getElem?_toList]; exact hj
theorem wpList_load_ad {w : World} {ops : Array Oper} {rest : List Oper} {o : Oper} {a : Act} {Q : Exit → Act → World → Prop} (hgd : o.guard = none) (x : Operand) (ho : o.op = .load 51 x) {g : Nat} {v6 : Bool} {bs : List UInt8}
    (hx : a.eval x = .pointer (some ⟨g, 0, none⟩)) (hA : AdBox w g v6 bs) (h : wpList Tryz.prog ops Q rest (a.put o.dst (.agg (adv v6 bs))) w) : wpList Tryz.prog ops Q (o :: rest) a w :=
  wpList_load_row hgd 51 x ho g hx 51 (adv v6 bs) (0, 0) _ hA.1 Tryz.underlying51 rfl (by rw [adv_size v6 hA.2]; kernel_rfl) h
theorem wp_alloc_ad {o : Oper} {a : Act} {w : World} {K : Act → World → Prop} {Q : Exit → Act → World → Prop} (ho : o.op = .alloc 51)
    (h : ∀ w', AdBox w' w.heap.size false (List.replicate 16 0) → Below w.heap.size w w' → w.heap.size < w'.heap.size → K (a.put o.dst (.pointer (some ⟨w.heap.size, 0, none⟩))) w') : o.wp Tryz.prog a w K Q := by
  have hz : adv false (List.replicate 16 0) = #[Value.bool false, Value.int IntKind.u8 0, Value.int IntKind.u8 0, Value.int IntKind.u8 0, Value.int IntKind.u8 0, Value.int IntKind.u8 0, Value.int IntKind.u8 0, Value.int IntKind.u8 0, Value.int IntKind.u8 0, Value.int IntKind.u8 0, Value.int IntKind.u8 0, Value.int IntKind.u8 0, Value.int IntKind.u8 0, Value.int IntKind.u8 0, Value.int IntKind.u8 0, Value.int IntKind.u8 0, Value.int IntKind.u8 0] := rfl
  have h1 := h (w.alloc (.cells (adv false (List.replicate 16 0)) 51)) (AdBox.new w false rfl) ((Below.refl _ w).alloc (Nat.le_refl _) _) (by simp)
  rw [hz] at h1
  obtain ⟨dst, op, ty, pos, after, guard⟩ := o
  simp only at ho
  subst ho
  go_simp
  exact h1
end Go.Proofs.YtoagfmonfgagbaaGreatDoor

namespace Go.Proofs.YtoagfmonfgagbaaGreatDoor
open Go.RowKit
set_option maxRecDepth 100000
theorem wpList_alloc_ad {ops : Array Oper} {rest : List Oper} {o : Oper} {a : Act} {w : World} {Q : Exit → Act → World → Prop} (hgd : o.guard = none) (ho : o.op = .alloc 51)
    (h : ∀ w', AdBox w' w.heap.size false (List.replicate 16 0) → Below w.heap.size w w' → w'.heap.size = w.heap.size + 1 → wpList Tryz.prog ops Q rest (a.put o.dst (.pointer (some ⟨w.heap.size, 0, none⟩))) w') : wpList Tryz.prog ops Q (o :: rest) a w :=
  wpList_plain hgd fun _ hK => by
    have hz : adv false (List.replicate 16 0) = #[Value.bool false, Value.int IntKind.u8 0, Value.int IntKind.u8 0, Value.int IntKind.u8 0, Value.int IntKind.u8 0, Value.int IntKind.u8 0, Value.int IntKind.u8 0, Value.int IntKind.u8 0, Value.int IntKind.u8 0, Value.int IntKind.u8 0, Value.int IntKind.u8 0, Value.int IntKind.u8 0, Value.int IntKind.u8 0, Value.int IntKind.u8 0, Value.int IntKind.u8 0, Value.int IntKind.u8 0, Value.int IntKind.u8 0] := rfl
    have h1 := hK _ _ (h (w.alloc (.cells (adv false (List.replicate 16 0)) 51)) (AdBox.new w false rfl) ((Below.refl _ w).alloc (Nat.le_refl _) _) (by simp))
    rw [hz] at h1
    obtain ⟨dst, op, ty, pos, after, guard⟩ := o
    simp only at ho
    subst ho
    go_simp
    exact h1
theorem wpList_store_ad {ops : Array Oper} {rest : List Oper} {o : Oper} {a : Act} {w : World} {Q : Exit → Act → World → Prop} (hgd : o.guard = none) (x y : Operand) (ho : o.op = .store 51 x y) {g : Nat} (v6 : Bool) (bs : List UInt8) {v0 : Bool} {b0 : List UInt8}
    (hx : a.eval x = .pointer (some ⟨g, 0, none⟩)) (hy : a.eval y = .agg (adv v6 bs)) (hl : bs.length = 16) (hA : AdBox w g v0 b0)
    (h : ∀ w', AdBox w' g v6 bs → (∀ k, k ≠ g → w'.heap[k]? = w.heap[k]?) → w'.heap.size = w.heap.size → (∀ B w0, B ≤ g → Below B w0 w → Below B w0 w') → wpList Tryz.prog ops Q rest (a.put o.dst undef) w') : wpList Tryz.prog ops Q (o :: rest) a w :=
  wpList_store_row hgd 51 x y ho g (adv v6 bs) hx hy 51 _ hA.1 (ad_size v6 hl) (by rw [adv_size v0 hA.2, adv_size v6 hl]) (adv_one v6 bs)
    (h _ ⟨setRow_heap w g _ _ _ _ hA.1, hl⟩ (fun k hk => setRow_other w g k _ hk) (size_setRow w g _) (fun B w0 hB hb => below_setRow hb hB _))
theorem AdBox.same {w w' : World} {g : Nat} {v6 : Bool} {bs : List UInt8} (h : AdBox w g v6 bs) (hh : w'.heap[g]? = w.heap[g]?) : AdBox w' g v6 bs := ⟨hh.trans h.1, h.2⟩
theorem results_ad_tmp {fn : Func} {p u : Tmp} (h : fn.results = #[.cell p 51, .tmp u]) (tmps : Array Value) {w : World} {g : Nat} {v6 : Bool} {bs : List UInt8} (hp : tmps.getD p undef = .pointer (some ⟨g, 0, none⟩)) (hA : AdBox w g v6 bs) :
    (results fn tmps).run Tryz.prog w = .ok (.tuple #[.agg (adv v6 bs), tmps.getD u undef]) w := by
  rw [results_cell_tmp h, hp]
  simp [asAddr, run_loadVar_row w g 51 51 (adv v6 bs) (0, 0) _ hA.1 Tryz.underlying51 rfl (ad_size v6 hA.2)]
end Go.Proofs.YtoagfmonfgagbaaGreatDoor
