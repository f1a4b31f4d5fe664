/-
  A slice of booleans among the arguments, as a slice that reads as a list. No conditions.
-/
import Derived.Test.YtdpmjbhkmfjpfaaDoorKitC
import Derived.Test.YtdpmjbhkmfjpfaaDoorGs
namespace Go.Proofs.YtdpmjbhkmfjpfaaDoor
open Go.ChangeShapes Go.WideShapes Go.RowKit

def boolOf {H : Type} (y : DataW H × List MemPlace) : Bool := match y.1 with | .lit (.bool b) => b | _ => false
def uv (us : List Bool) : List Value := us.map Value.bool
set_option maxRecDepth 100000 in
theorem bools_of {H : Type} {enc : TypeId × Value → H} {W : World} {base : Nat} {v : Value} {d : DataW H} {ps : List MemPlace} (hv : Value.okWide Tryd.prog W .any base 57 v) (h : DataW.Trod enc Tryd.prog W 0 (fun _ => true) true 57 v d ps) :
    ∃ (A : Option Addr) (n c : Nat) (us : List Bool), v = .slice A n c ∧ Gs W A n c (uv us) := by
  obtain ⟨a0, len, cap, rfl⟩ := okWide_slice Tryd.underlying57 hv
  obtain ⟨fuel, hf⟩ := h
  rcases DataW.trod_slice Tryd.underlying57 hf with ⟨hcs, _⟩ | ⟨a, len', cap', elems, rest, n, _, hcs, _, _, hl, hm, hlen, hel, _, _⟩
  · simp [Value.cells] at hcs
    obtain ⟨rfl, rfl, rfl⟩ := hcs
    exact ⟨none, 0, 0, [], rfl, Gs.nil W⟩
  · simp [Value.cells] at hcs
    obtain ⟨rfl, rfl, rfl⟩ := hcs
    have hc : Tryd.prog.cellsOf 4 = 1 := by kernel_rfl
    have each : ∀ i y, elems[i]? = some y → W.cell? (a.add i) = some (.bool (boolOf y)) := fun i y hy => by
      have hi : i < len := by rw [← hlen]; exact (List.getElem?_eq_some_iff.1 hy).1
      have hb := hel i hi
      rw [hc, Nat.mul_one, hy, Option.bind_eq_some_iff] at hb
      obtain ⟨cs', hcs, hy'⟩ := hb
      obtain ⟨b, rfl, rfl⟩ := DataW.trod_bool Tryd.underlying4 hy'
      exact cell_of_cells?_one hcs
    refine ⟨some a, len, cap, elems.map boolOf, rfl, by unfold uv; rw [List.length_map, List.length_map, hlen], hl, hm, (fun h => by cases h), fun h0 => ?_⟩
    obtain ⟨b, off, spot⟩ := a
    have hspot : spot = none := by
      obtain ⟨y, hy⟩ : ∃ y, elems[0]? = some y := ⟨elems[0]'(by omega), List.getElem?_eq_getElem _⟩
      simpa [Addr.add] using World.cell?_spot (each 0 y hy)
    subst hspot
    refine ⟨b, off, rfl, fun i x hx => ?_⟩
    unfold uv at hx
    rw [List.map_map, List.getElem?_map] at hx
    cases hy : elems[i]? with
    | none => rw [hy] at hx; cases hx
    | some y =>
      rw [hy] at hx
      obtain rfl := Option.some.inj hx
      rw [← Go.WideShapes.add_plain]
      exact each i y hy
end Go.Proofs.YtdpmjbhkmfjpfaaDoor
