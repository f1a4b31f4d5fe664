/-
  An api.Segment among the arguments. No conditions.
-/
import Derived.Test.YtioonjgamdompaaDoorKitC
import Derived.Test.YtioonjgamdompaaDoorSeg
namespace Go.Proofs.YtioonjgamdompaaDoor
open Go.ChangeShapes Go.WideShapes Go.RowKit
set_option maxRecDepth 100000

/-- Cells that read as a slice of bytes. -/
theorem bytes_cells {H : Type} {enc : TypeId × Value → H} {W : World} {fuel : Nat} {cs : List Value} {x : DataW H × List MemPlace} (h : DataW.trod enc Tryd.prog W 0 (fun _ => true) true fuel 22 cs = some x) :
    ∃ (A : Option Addr) (n c : Nat) (l : List UInt8), cs = [.slice A n c] ∧ Bs W A n c l := by
  rcases open_ints Tryd.underlying22 Tryd.underlying5 (by kernel_rfl) h with ⟨hcs, _⟩ | ⟨a, len, cap, zs, hcs, _, hl, hm, hz, _, hcell, hr⟩
  · exact ⟨none, 0, 0, [], hcs, Bs.nil W⟩
  · simp only [if_true] at hz
    have hlen : ((zs.take len).map fun z => UInt8.ofNat z.toNat).length = len := by rw [List.length_map, List.length_take, hz]; omega
    refine ⟨some a, len, cap, (zs.take len).map fun z => UInt8.ofNat z.toNat, hcs, hlen, hl, hm, (fun h => by cases h), fun h0 => ?_⟩
    obtain ⟨b, off, rfl, hc⟩ := ints_at hcell (by omega)
    refine ⟨b, off, rfl, fun i x hx => ?_⟩
    have hi : i < len := by have := (List.getElem?_eq_some_iff.1 hx).1; omega
    rw [hc i (by omega)]
    have hg : zs[i]? = some (zs[i]'(by omega)) := List.getElem?_eq_getElem (by omega)
    rw [List.getElem?_map, List.getElem?_take, if_pos hi, hg] at hx
    obtain rfl := Option.some.inj hx
    have hw := hr (zs[i]'(by omega)) (List.getElem_mem _)
    have hw := u8_range hw
    congr 2
    simp [List.getD, hg]
    omega
theorem cells_sg : Tryd.prog.cellsOf 28 = 6 := by kernel_rfl
theorem cells_i64 : Tryd.prog.cellsOf 3 = 1 := by kernel_rfl
theorem cells_u32 : Tryd.prog.cellsOf 26 = 1 := by kernel_rfl
theorem cells_bs : Tryd.prog.cellsOf 22 = 1 := by kernel_rfl
theorem six_cells {cs : List Value} (hlen : cs.length = 6) {v0 v1 v2 v3 v4 v5 : Value} (h0 : (cs.drop 0).take 1 = [v0]) (h1 : (cs.drop 1).take 1 = [v1]) (h2 : (cs.drop 2).take 1 = [v2]) (h3 : (cs.drop 3).take 1 = [v3]) (h4 : (cs.drop 4).take 1 = [v4]) (h5 : (cs.drop 5).take 1 = [v5]) : cs = [v0, v1, v2, v3, v4, v5] := by
  match cs, hlen with
  | [a0, a1, a2, a3, a4, a5], _ => simp_all
theorem seg_of {H : Type} {enc : TypeId × Value → H} {W : World} {base : Nat} {v : Value} {d : DataW H} {ps : List MemPlace} (hv : Value.okWide Tryd.prog W .any base 28 v) (h : DataW.Trod enc Tryd.prog W 0 (fun _ => true) true 28 v d ps) :
    ∃ (s : Sg) (A : Option Addr) (n c : Nat), v = .agg (sgv s A n c) ∧ Bs W A n c s.pay ∧ (0 ≤ s.seq ∧ s.seq < 4294967296) ∧ (0 ≤ s.ack ∧ s.ack < 4294967296) ∧ (-9223372036854775808 ≤ s.sp ∧ s.sp ≤ 9223372036854775807) ∧ (-9223372036854775808 ≤ s.dp ∧ s.dp ≤ 9223372036854775807) ∧ (-9223372036854775808 ≤ s.fl ∧ s.fl ≤ 9223372036854775807) := by
  obtain ⟨cs, rfl, _⟩ := okWide_struct Tryd.underlying28 hv
  obtain ⟨fuel, hf⟩ := h
  have e0 : (Value.cells (.agg cs)).toList = cs.toList := by simp [Value.cells]
  rw [e0] at hf
  obtain ⟨xs, m, _, _, hlen, hxl, hg⟩ := DataW.trod_struct Tryd.underlying28 hf
  rw [cells_sg] at hlen
  have hx6 : xs.length = 6 := hxl
  obtain ⟨y0, y1, y2, y3, y4, y5, rfl⟩ : ∃ y0 y1 y2 y3 y4 y5, xs = [y0, y1, y2, y3, y4, y5] := by
    match xs, hx6 with
    | [y0, y1, y2, y3, y4, y5], _ => exact ⟨_, _, _, _, _, _, rfl⟩
  have h0 : DataW.trod enc Tryd.prog W 0 (fun _ => true) true m 3 ((cs.toList.drop 0).take (Tryd.prog.cellsOf 3)) = some y0 := hg 0 _ rfl
  have h1 : DataW.trod enc Tryd.prog W 0 (fun _ => true) true m 3 ((cs.toList.drop 1).take (Tryd.prog.cellsOf 3)) = some y1 := hg 1 _ rfl
  have h2 : DataW.trod enc Tryd.prog W 0 (fun _ => true) true m 26 ((cs.toList.drop 2).take (Tryd.prog.cellsOf 26)) = some y2 := hg 2 _ rfl
  have h3 : DataW.trod enc Tryd.prog W 0 (fun _ => true) true m 26 ((cs.toList.drop 3).take (Tryd.prog.cellsOf 26)) = some y3 := hg 3 _ rfl
  have h4 : DataW.trod enc Tryd.prog W 0 (fun _ => true) true m 3 ((cs.toList.drop 4).take (Tryd.prog.cellsOf 3)) = some y4 := hg 4 _ rfl
  have h5 : DataW.trod enc Tryd.prog W 0 (fun _ => true) true m 22 ((cs.toList.drop 5).take (Tryd.prog.cellsOf 22)) = some y5 := hg 5 _ rfl
  rw [cells_i64] at h0 h1 h4
  rw [cells_u32] at h2 h3
  rw [cells_bs] at h5
  obtain ⟨z0, q0, _, w0⟩ := DataW.trod_int Tryd.underlying3 h0
  obtain ⟨z1, q1, _, w1⟩ := DataW.trod_int Tryd.underlying3 h1
  obtain ⟨z2, q2, _, w2⟩ := DataW.trod_int Tryd.underlying26 h2
  obtain ⟨z3, q3, _, w3⟩ := DataW.trod_int Tryd.underlying26 h3
  obtain ⟨z4, q4, _, w4⟩ := DataW.trod_int Tryd.underlying3 h4
  obtain ⟨A, n, c, l, q5, hb⟩ := bytes_cells h5
  have hcs := six_cells hlen q0 q1 q2 q3 q4 q5
  have r2 := u32_range w2
  have r3 := u32_range w3
  refine ⟨⟨z0, z1, z2, z3, z4, l⟩, A, n, c, ?_, hb, ⟨r2.1, by dsimp only; omega⟩, ⟨r3.1, by dsimp only; omega⟩, i64_range w0, i64_range w1, i64_range w4⟩
  congr 1
  apply Array.toList_inj.1
  rw [hcs]
  rfl
end Go.Proofs.YtioonjgamdompaaDoor
