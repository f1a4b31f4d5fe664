/-
  
-/
import Derived.Test.YtoagfmonfgagbaaGreatDoorZ09
import Derived.Test.YtoagfmonfgagbaaGreatDoorZ17
namespace Go.Proofs.YtoagfmonfgagbaaGreatDoor
open Go.ChangeShapes Go.WideShapes Go.RowKit
set_option maxRecDepth 100000
def cellByte : Value → UInt8
  | .int .u8 z => UInt8.ofNat z.toNat
  | _ => 0
theorem cellByte_int {z : Int} (h : 0 ≤ z ∧ z ≤ 255) : Value.int .u8 ((cellByte (.int .u8 z)).toNat : Int) = .int .u8 z := by
  have h1 : (UInt8.ofNat z.toNat).toNat = z.toNat := by simp only [UInt8.toNat_ofNat']; omega
  show Value.int .u8 ((UInt8.ofNat z.toNat).toNat : Int) = _
  rw [h1, show ((z.toNat : Nat) : Int) = z by omega]
theorem cells_ad : Tryz.prog.cellsOf 51 = 17 := by kernel_rfl
theorem cells_bool : Tryz.prog.cellsOf 4 = 1 := by kernel_rfl
theorem cells_arr : Tryz.prog.cellsOf 49 = 16 := by kernel_rfl
theorem cells_u8 : Tryz.prog.cellsOf 5 = 1 := by kernel_rfl
theorem ad_cells {H : Type} {enc : TypeId × Value → H} {W : World} {fuel : Nat} {cs : List Value} {x : DataW H × List MemPlace} (h : DataW.trod enc Tryz.prog W 0 (fun _ => true) true fuel 51 cs = some x) :
    ∃ (v6 : Bool) (bs : List UInt8), cs = .bool v6 :: bv bs ∧ bs.length = 16 := by
  obtain ⟨xs, n, _, _, hlen, hxl, hf⟩ := DataW.trod_struct Tryz.underlying51 h
  rw [cells_ad] at hlen
  have hx2 : xs.length = 2 := hxl
  obtain ⟨y0, y1, rfl⟩ : ∃ y0 y1, xs = [y0, y1] := by
    match xs, hx2 with
    | [y0, y1], _ => exact ⟨_, _, rfl⟩
  have h0 : DataW.trod enc Tryz.prog W 0 (fun _ => true) true n 4 ((cs.drop 0).take (Tryz.prog.cellsOf 4)) = some y0 := hf 0 _ rfl
  have h1 : DataW.trod enc Tryz.prog W 0 (fun _ => true) true n 49 ((cs.drop 1).take (Tryz.prog.cellsOf 49)) = some y1 := hf 1 _ rfl
  rw [cells_bool] at h0
  rw [cells_arr] at h1
  obtain ⟨b, e0, _⟩ := DataW.trod_bool Tryz.underlying4 h0
  obtain ⟨ys, m, _, _, hlen1, hyl, hg⟩ := DataW.trod_array Tryz.underlying49 h1
  have hat : ∀ i, i < 16 → ∃ z : Int, cs[1 + i]? = some (.int .u8 z) ∧ 0 ≤ z ∧ z ≤ 255 := by
    intro i hi
    have hgi := hg i hi
    rw [List.getElem?_eq_getElem (show i < ys.length by omega), cells_u8] at hgi
    obtain ⟨z, ez, _, hw⟩ := DataW.trod_int Tryz.underlying5 hgi
    refine ⟨z, ?_, u8_range hw⟩
    have : ((((cs.drop 1).take 16).drop (i * 1)).take 1)[0]? = some (.int .u8 z) := by rw [ez]; rfl
    rw [List.getElem?_take, if_pos (by omega), List.getElem?_drop, List.getElem?_take, if_pos (by omega), List.getElem?_drop] at this
    simpa using this
  have hb : cs[0]? = some (.bool b) := by
    have : ((cs.drop 0).take 1)[0]? = some (.bool b) := by rw [e0]; rfl
    rw [List.getElem?_take, if_pos (by omega), List.getElem?_drop] at this
    simpa using this
  refine ⟨b, (cs.drop 1).map cellByte, ?_, by rw [List.length_map, List.length_drop, hlen]⟩
  apply List.ext_getElem?
  intro i
  match i with
  | 0 => rw [hb]; rfl
  | i + 1 =>
    rw [List.getElem?_cons_succ]
    unfold bv
    rw [List.getElem?_map, List.getElem?_map, List.getElem?_drop, Nat.add_comm i 1]
    by_cases hi : i < 16
    · obtain ⟨z, hz, hr⟩ := hat i hi
      rw [hz]
      simp only [Option.map_some]
      rw [cellByte_int hr]
    · rw [List.getElem?_eq_none (by omega)]; rfl
end Go.Proofs.YtoagfmonfgagbaaGreatDoor
