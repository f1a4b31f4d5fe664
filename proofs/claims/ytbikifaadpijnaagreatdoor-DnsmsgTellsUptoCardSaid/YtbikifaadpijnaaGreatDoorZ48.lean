/-
  An api.Record, and an api.Question, among the arguments. No conditions.
-/
import Derived.Test.YtbikifaadpijnaaGreatDoorZ34
import Derived.Test.YtbikifaadpijnaaGreatDoorZ18
import Derived.Test.YtbikifaadpijnaaGreatDoorZ33
namespace Go.Proofs.YtbikifaadpijnaaGreatDoor
open Go.ChangeShapes Go.WideShapes Go.RowKit
set_option maxRecDepth 100000

theorem cells_rc : Tryz.prog.cellsOf 57 = 23 := by kernel_rfl
theorem cells_qs : Tryz.prog.cellsOf 51 = 3 := by kernel_rfl
theorem cells_u32 : Tryz.prog.cellsOf 52 = 1 := by kernel_rfl
theorem cells_str : Tryz.prog.cellsOf 9 = 1 := by kernel_rfl
theorem record_of {H : Type} {enc : TypeId × Value → H} {W : World} {base : Nat} {v : Value} {d : DataW H} {ps : List MemPlace} (hv : Value.okWide Tryz.prog W .any base 57 v) (h : DataW.Trod enc Tryz.prog W 0 (fun _ => true) true 57 v d ps) :
    ∃ (r : Rc) (A : Option Addr) (n c : Nat), v = .agg (rcv r A n c) ∧ r.ok ∧ Bs W A n c r.data ∧ (0 ≤ r.ttl ∧ r.ttl < 4294967296) ∧ r.name.length ≤ maxLen ∧ r.target.length ≤ maxLen := by
  obtain ⟨cs, rfl, _⟩ := okWide_struct Tryz.underlying57 hv
  obtain ⟨fuel, hf⟩ := h
  have e0 : (Value.cells (.agg cs)).toList = cs.toList := by simp [Value.cells]
  rw [e0] at hf
  obtain ⟨xs, m, _, _, hlen, hxl, hg⟩ := DataW.trod_struct Tryz.underlying57 hf
  rw [cells_rc] at hlen
  obtain ⟨l, hl⟩ : ∃ l, cs.toList = l := ⟨_, rfl⟩
  rw [hl] at hlen hg
  have hx7 : xs.length = 7 := hxl
  obtain ⟨y0, y1, y2, y3, y4, y5, y6, rfl⟩ : ∃ y0 y1 y2 y3 y4 y5 y6, xs = [y0, y1, y2, y3, y4, y5, y6] := by
    match xs, hx7 with
    | [y0, y1, y2, y3, y4, y5, y6], _ => exact ⟨_, _, _, _, _, _, _, rfl⟩
  have g0 : DataW.trod enc Tryz.prog W 0 (fun _ => true) true m 9 ((l.drop 0).take (Tryz.prog.cellsOf 9)) = some y0 := hg 0 _ rfl
  have g1 : DataW.trod enc Tryz.prog W 0 (fun _ => true) true m 3 ((l.drop 1).take (Tryz.prog.cellsOf 3)) = some y1 := hg 1 _ rfl
  have g2 : DataW.trod enc Tryz.prog W 0 (fun _ => true) true m 3 ((l.drop 2).take (Tryz.prog.cellsOf 3)) = some y2 := hg 2 _ rfl
  have g3 : DataW.trod enc Tryz.prog W 0 (fun _ => true) true m 52 ((l.drop 3).take (Tryz.prog.cellsOf 52)) = some y3 := hg 3 _ rfl
  have g4 : DataW.trod enc Tryz.prog W 0 (fun _ => true) true m 55 ((l.drop 4).take (Tryz.prog.cellsOf 55)) = some y4 := hg 4 _ rfl
  have g5 : DataW.trod enc Tryz.prog W 0 (fun _ => true) true m 9 ((l.drop 21).take (Tryz.prog.cellsOf 9)) = some y5 := hg 5 _ rfl
  have g6 : DataW.trod enc Tryz.prog W 0 (fun _ => true) true m 22 ((l.drop 22).take (Tryz.prog.cellsOf 22)) = some y6 := hg 6 _ rfl
  rw [cells_str, List.drop_zero] at g0
  rw [cells_str] at g5
  rw [cells_i64] at g1 g2
  rw [cells_u32] at g3
  rw [cells_ad] at g4
  rw [cells_bs] at g6
  obtain ⟨s0, e0, _, r0⟩ := DataW.trod_string Tryz.underlying9 g0
  obtain ⟨z1, e1, _, _⟩ := DataW.trod_int Tryz.underlying3 g1
  obtain ⟨z2, e2, _, _⟩ := DataW.trod_int Tryz.underlying3 g2
  obtain ⟨z3, e3, _, r3⟩ := DataW.trod_int Tryz.underlying52 g3
  obtain ⟨v6, b, e4, hb4⟩ := ad_cells g4
  obtain ⟨s5, e5, _, r5⟩ := DataW.trod_string Tryz.underlying9 g5
  obtain ⟨A, n, c, k, e6, hb⟩ := bytes_cells g6
  have q3 := u32_range r3
  refine ⟨⟨s0.data.toList, z1, z2, z3, v6, b, s5.data.toList, k⟩, A, n, c, ?_, hb4, hb, ⟨q3.1, by dsimp only; omega⟩, by dsimp only; rw [← Lib.size_eq]; exact r0, by dsimp only; rw [← Lib.size_eq]; exact r5⟩
  congr 1
  apply Array.toList_inj.1
  have d0 : l = l.take 1 ++ l.drop 1 := (List.take_append_drop 1 l).symm
  have d1 : l.drop 1 = (l.drop 1).take 1 ++ l.drop 2 := by rw [← List.drop_drop (i := 1) (j := 1), List.take_append_drop]
  have d2 : l.drop 2 = (l.drop 2).take 1 ++ l.drop 3 := by rw [← List.drop_drop (i := 1) (j := 2), List.take_append_drop]
  have d3 : l.drop 3 = (l.drop 3).take 1 ++ l.drop 4 := by rw [← List.drop_drop (i := 1) (j := 3), List.take_append_drop]
  have d4 : l.drop 4 = (l.drop 4).take 17 ++ l.drop 21 := by rw [← List.drop_drop (i := 17) (j := 4), List.take_append_drop]
  have d5 : l.drop 21 = (l.drop 21).take 1 ++ l.drop 22 := by rw [← List.drop_drop (i := 1) (j := 21), List.take_append_drop]
  have d6 : l.drop 22 = (l.drop 22).take 1 := (List.take_of_length_le (by rw [List.length_drop]; omega)).symm
  rw [hl, d0, d1, d2, d3, d4, d5, d6, e0, e1, e2, e3, e4, e5, e6, rcv_list]
  dsimp only
  rw [mkS_back, mkS_back]
  simp
theorem question_of {H : Type} {enc : TypeId × Value → H} {W : World} {base : Nat} {v : Value} {d : DataW H} {ps : List MemPlace} (hv : Value.okWide Tryz.prog W .any base 51 v) (h : DataW.Trod enc Tryz.prog W 0 (fun _ => true) true 51 v d ps) :
    ∃ q : Qs, v = .agg (qsv q) ∧ q.name.length ≤ maxLen := by
  obtain ⟨cs, rfl, _⟩ := okWide_struct Tryz.underlying51 hv
  obtain ⟨fuel, hf⟩ := h
  have e0 : (Value.cells (.agg cs)).toList = cs.toList := by simp [Value.cells]
  rw [e0] at hf
  obtain ⟨xs, m, _, _, hlen, hxl, hg⟩ := DataW.trod_struct Tryz.underlying51 hf
  rw [cells_qs] at hlen
  obtain ⟨l, hl⟩ : ∃ l, cs.toList = l := ⟨_, rfl⟩
  rw [hl] at hlen hg
  have hx3 : xs.length = 3 := hxl
  obtain ⟨y0, y1, y2, rfl⟩ : ∃ y0 y1 y2, xs = [y0, y1, y2] := by
    match xs, hx3 with
    | [y0, y1, y2], _ => exact ⟨_, _, _, rfl⟩
  have g0 : DataW.trod enc Tryz.prog W 0 (fun _ => true) true m 9 ((l.drop 0).take (Tryz.prog.cellsOf 9)) = some y0 := hg 0 _ rfl
  have g1 : DataW.trod enc Tryz.prog W 0 (fun _ => true) true m 3 ((l.drop 1).take (Tryz.prog.cellsOf 3)) = some y1 := hg 1 _ rfl
  have g2 : DataW.trod enc Tryz.prog W 0 (fun _ => true) true m 3 ((l.drop 2).take (Tryz.prog.cellsOf 3)) = some y2 := hg 2 _ rfl
  rw [cells_str, List.drop_zero] at g0
  rw [cells_i64] at g1 g2
  obtain ⟨s0, e0, _, r0⟩ := DataW.trod_string Tryz.underlying9 g0
  obtain ⟨z1, e1, _, _⟩ := DataW.trod_int Tryz.underlying3 g1
  obtain ⟨z2, e2, _, _⟩ := DataW.trod_int Tryz.underlying3 g2
  refine ⟨⟨s0.data.toList, z1, z2⟩, ?_, by dsimp only; rw [← Lib.size_eq]; exact r0⟩
  congr 1
  apply Array.toList_inj.1
  have d0 : l = l.take 1 ++ l.drop 1 := (List.take_append_drop 1 l).symm
  have d1 : l.drop 1 = (l.drop 1).take 1 ++ l.drop 2 := by rw [← List.drop_drop (i := 1) (j := 1), List.take_append_drop]
  have d2 : l.drop 2 = (l.drop 2).take 1 := (List.take_of_length_le (by rw [List.length_drop]; omega)).symm
  rw [hl, d0, d1, d2, e0, e1, e2]
  unfold qsv
  dsimp only
  rw [mkS_back]
  rfl
end Go.Proofs.YtbikifaadpijnaaGreatDoor
