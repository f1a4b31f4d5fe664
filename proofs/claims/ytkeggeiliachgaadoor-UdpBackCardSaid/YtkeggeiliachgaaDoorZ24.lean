/-
  An api.Datagram among the arguments. No conditions.
-/
import Derived.Test.YtkeggeiliachgaaDoorZ13
import Derived.Test.YtkeggeiliachgaaDoorZ21
namespace Go.Proofs.YtkeggeiliachgaaDoor
open Go.ChangeShapes Go.WideShapes Go.RowKit
set_option maxRecDepth 100000

theorem cells_dg : Tryd.prog.cellsOf 27 = 3 := by kernel_rfl
theorem three_cells {cs : List Value} (hlen : cs.length = 3) {v0 v1 v2 : Value} (h0 : (cs.drop 0).take 1 = [v0]) (h1 : (cs.drop 1).take 1 = [v1]) (h2 : (cs.drop 2).take 1 = [v2]) : cs = [v0, v1, v2] := by
  match cs, hlen with
  | [a0, a1, a2], _ => simp_all
theorem dgram_of {H : Type} {enc : TypeId × Value → H} {W : World} {base : Nat} {v : Value} {d : DataW H} {ps : List MemPlace} (hv : Value.okWide Tryd.prog W .any base 27 v) (h : DataW.Trod enc Tryd.prog W 0 (fun _ => true) true 27 v d ps) :
    ∃ (s : Dg) (A : Option Addr) (n c : Nat), v = .agg (dgv s A n c) ∧ Bs W A n c s.pay ∧ (-9223372036854775808 ≤ s.sp ∧ s.sp ≤ 9223372036854775807) ∧ (-9223372036854775808 ≤ s.dp ∧ s.dp ≤ 9223372036854775807) := by
  obtain ⟨cs, rfl, _⟩ := okWide_struct Tryd.underlying27 hv
  obtain ⟨fuel, hf⟩ := h
  have e0 : (Value.cells (.agg cs)).toList = cs.toList := by simp [Value.cells]
  rw [e0] at hf
  obtain ⟨xs, m, _, _, hlen, hxl, hg⟩ := DataW.trod_struct Tryd.underlying27 hf
  rw [cells_dg] at hlen
  have hx3 : xs.length = 3 := hxl
  obtain ⟨y0, y1, y2, rfl⟩ : ∃ y0 y1 y2, xs = [y0, y1, y2] := by
    match xs, hx3 with
    | [y0, y1, y2], _ => exact ⟨_, _, _, rfl⟩
  have h0 : DataW.trod enc Tryd.prog W 0 (fun _ => true) true m 3 ((cs.toList.drop 0).take (Tryd.prog.cellsOf 3)) = some y0 := hg 0 _ rfl
  have h1 : DataW.trod enc Tryd.prog W 0 (fun _ => true) true m 3 ((cs.toList.drop 1).take (Tryd.prog.cellsOf 3)) = some y1 := hg 1 _ rfl
  have h2 : DataW.trod enc Tryd.prog W 0 (fun _ => true) true m 22 ((cs.toList.drop 2).take (Tryd.prog.cellsOf 22)) = some y2 := hg 2 _ rfl
  rw [cells_i64] at h0 h1
  rw [cells_bs] at h2
  obtain ⟨z0, q0, _, w0⟩ := DataW.trod_int Tryd.underlying3 h0
  obtain ⟨z1, q1, _, w1⟩ := DataW.trod_int Tryd.underlying3 h1
  obtain ⟨A, n, c, l, q2, hb⟩ := bytes_cells h2
  have hcs := three_cells hlen q0 q1 q2
  refine ⟨⟨z0, z1, l⟩, A, n, c, ?_, hb, i64_range w0, i64_range w1⟩
  congr 1
  apply Array.toList_inj.1
  rw [hcs]
  rfl
end Go.Proofs.YtkeggeiliachgaaDoor
