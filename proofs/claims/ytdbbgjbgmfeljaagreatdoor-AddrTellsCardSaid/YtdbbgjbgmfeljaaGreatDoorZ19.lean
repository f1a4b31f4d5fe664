/-
  An api.Prefix among the arguments. No conditions.
-/
import Derived.Test.YtdbbgjbgmfeljaaGreatDoorZ18
import Derived.Test.YtdbbgjbgmfeljaaGreatDoorZ14
import Derived.ChangeMaps5
namespace Go.Proofs.YtdbbgjbgmfeljaaGreatDoor
open Go.ChangeShapes Go.WideShapes Go.RowKit
set_option maxRecDepth 100000

theorem cells_px : Tryz.prog.cellsOf 26 = 18 := by kernel_rfl
theorem cells_int : Tryz.prog.cellsOf 3 = 1 := by kernel_rfl
theorem px_of {H : Type} {enc : TypeId × Value → H} {W : World} {base : Nat} {v : Value} {d : DataW H} {ps : List MemPlace} (hv : Value.okWide Tryz.prog W .any base 26 v) (h : DataW.Trod enc Tryz.prog W 0 (fun _ => true) true 26 v d ps) :
    ∃ (v6 : Bool) (bs : List UInt8) (n : Int), v = .agg (pxv v6 bs n) ∧ bs.length = 16 := by
  obtain ⟨cs, rfl, _⟩ := okWide_struct Tryz.underlying26 hv
  obtain ⟨fuel, hf⟩ := h
  obtain ⟨xs, n, _, _, hlen, hxl, hg⟩ := DataW.trod_struct Tryz.underlying26 hf
  rw [cells_px] at hlen
  have hx2 : xs.length = 2 := hxl
  obtain ⟨y0, y1, rfl⟩ : ∃ y0 y1, xs = [y0, y1] := by
    match xs, hx2 with
    | [y0, y1], _ => exact ⟨_, _, rfl⟩
  have h1 : (Value.cells (.agg cs)).toList = cs.toList := by simp [Value.cells]
  rw [h1] at hlen hg
  have g0 : DataW.trod enc Tryz.prog W 0 (fun _ => true) true n 24 ((cs.toList.drop 0).take (Tryz.prog.cellsOf 24)) = some y0 := hg 0 _ rfl
  have g1 : DataW.trod enc Tryz.prog W 0 (fun _ => true) true n 3 ((cs.toList.drop 17).take (Tryz.prog.cellsOf 3)) = some y1 := hg 1 _ rfl
  rw [cells_ad, List.drop_zero] at g0
  rw [cells_int] at g1
  obtain ⟨v6, bs, e0, hl⟩ := ad_cells g0
  obtain ⟨z, e1, _, _⟩ := DataW.trod_int Tryz.underlying3 g1
  refine ⟨v6, bs, z, ?_, hl⟩
  congr 1
  apply Array.toList_inj.1
  have h2 : cs.toList.drop 17 = (cs.toList.drop 17).take 1 := (List.take_of_length_le (by rw [List.length_drop]; omega)).symm
  rw [← List.take_append_drop 17 cs.toList, h2, e0, e1]
  simp [pxv]
end Go.Proofs.YtdbbgjbgmfeljaaGreatDoor
