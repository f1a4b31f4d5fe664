/-
  An address's box in a plain region: made, stored into, handed back beside an error. No conditions.
-/
import Derived.Test.YtbikifaadpijnaaGreatDoorZ08
import Derived.Laws.ResultCell
namespace Go.Proofs.YtbikifaadpijnaaGreatDoor
open Go.RowKit
set_option maxRecDepth 100000

theorem z16 : (List.replicate 16 (0 : UInt8)).length = 16 := rfl
theorem wpList_alloc_ad {ops : Array Oper} {rest : List Oper} {o : Oper} {a : Act} {w : World} {Q : Exit → Act → World → Prop} (hgd : o.guard = none) (ho : o.op = .alloc 55)
    (h : ∀ w', AdBox w' w.heap.size false (List.replicate 16 0) → Below w.heap.size w w' → w'.heap.size = w.heap.size + 1 → wpList Tryz.prog ops Q rest (a.put o.dst (.pointer (some ⟨w.heap.size, 0, none⟩))) w') : wpList Tryz.prog ops Q (o :: rest) a w :=
  wpList_plain hgd fun _ hK => by
    have hz : adv false (List.replicate 16 0) = #[Value.bool false, Value.int IntKind.u8 0, Value.int IntKind.u8 0, Value.int IntKind.u8 0, Value.int IntKind.u8 0, Value.int IntKind.u8 0, Value.int IntKind.u8 0, Value.int IntKind.u8 0, Value.int IntKind.u8 0, Value.int IntKind.u8 0, Value.int IntKind.u8 0, Value.int IntKind.u8 0, Value.int IntKind.u8 0, Value.int IntKind.u8 0, Value.int IntKind.u8 0, Value.int IntKind.u8 0, Value.int IntKind.u8 0] := rfl
    have h1 := hK _ _ (h (w.alloc (.cells (adv false (List.replicate 16 0)) 55)) (AdBox.new w false rfl) ((Below.refl _ w).alloc (Nat.le_refl _) _) (by simp))
    rw [hz] at h1
    obtain ⟨dst, op, ty, pos, after, guard⟩ := o
    simp only at ho
    subst ho
    go_simp
    exact h1
theorem wpList_store_ad {ops : Array Oper} {rest : List Oper} {o : Oper} {a : Act} {w : World} {Q : Exit → Act → World → Prop} (hgd : o.guard = none) (x y : Operand) (ho : o.op = .store 55 x y) {g : Nat} (v6 : Bool) (bs : List UInt8) {v0 : Bool} {b0 : List UInt8}
    (hx : a.eval x = .pointer (some ⟨g, 0, none⟩)) (hy : a.eval y = .agg (adv v6 bs)) (hl : bs.length = 16) (hA : AdBox w g v0 b0)
    (h : ∀ w', AdBox w' g v6 bs → (∀ k, k ≠ g → w'.heap[k]? = w.heap[k]?) → w'.heap.size = w.heap.size → (∀ B w0, B ≤ g → Below B w0 w → Below B w0 w') → wpList Tryz.prog ops Q rest (a.put o.dst undef) w') : wpList Tryz.prog ops Q (o :: rest) a w :=
  wpList_store_row hgd 55 x y ho g (adv v6 bs) hx hy 55 _ hA.1 (ad_size v6 hl) (by rw [adv_size v0 hA.2, adv_size v6 hl]) (adv_one v6 bs)
    (h _ ⟨setRow_heap w g _ _ _ _ hA.1, hl⟩ (fun k hk => setRow_other w g k _ hk) (size_setRow w g _) (fun B w0 hB hb => below_setRow hb hB _))
theorem AdBox.same {w w' : World} {g : Nat} {v6 : Bool} {bs : List UInt8} (h : AdBox w g v6 bs) (hh : w'.heap[g]? = w.heap[g]?) : AdBox w' g v6 bs := ⟨hh.trans h.1, h.2⟩
theorem results_ad_tmp {fn : Func} {p u : Tmp} (h : fn.results = #[.cell p 55, .tmp u]) (tmps : Array Value) {w : World} {g : Nat} {v6 : Bool} {bs : List UInt8} (hp : tmps.getD p undef = .pointer (some ⟨g, 0, none⟩)) (hA : AdBox w g v6 bs) :
    (results fn tmps).run Tryz.prog w = .ok (.tuple #[.agg (adv v6 bs), tmps.getD u undef]) w := by
  rw [results_cell_tmp h, hp]
  simp [asAddr, run_loadVar_row w g 55 55 (adv v6 bs) (0, 0) _ hA.1 Tryz.underlying55 rfl (ad_size v6 hA.2)]
end Go.Proofs.YtbikifaadpijnaaGreatDoor
