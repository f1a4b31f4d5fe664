/-
  A slice of ints among the arguments, as a slice that reads as a list. No conditions.
-/
import Derived.Test.YtceigepclemdmaaDoorKitC
import Derived.Test.YtceigepclemdmaaDoorCatZ
namespace Go.Proofs.YtceigepclemdmaaDoor
open Go.ChangeShapes Go.WideShapes Go.RowKit

set_option maxRecDepth 100000 in
theorem gs_of {H : Type} {enc : TypeId × Value → H} {W : World} {base : Nat} {v : Value} {d : DataW H} {ps : List MemPlace} (hv : Value.okWide Tryd.prog W .any base 26 v) (h : DataW.Trod enc Tryd.prog W 0 (fun _ => true) true 26 v d ps) :
    ∃ (A : Option Addr) (n c : Nat) (zs : List Int), v = .slice A n c ∧ Gs W A n c (zv zs) := by
  obtain ⟨a0, len, cap, rfl⟩ := okWide_slice Tryd.underlying26 hv
  obtain ⟨fuel, hf⟩ := h
  rcases open_ints Tryd.underlying26 Tryd.underlying3 (by kernel_rfl) hf with ⟨hcs, _⟩ | ⟨a, len', cap', zs, hcs, _, hl, hm, hz, _, hcell, hr⟩
  · simp [Value.cells] at hcs
    obtain ⟨rfl, rfl, rfl⟩ := hcs
    exact ⟨none, 0, 0, [], rfl, Gs.nil W⟩
  · simp [Value.cells] at hcs
    obtain ⟨rfl, rfl, rfl⟩ := hcs
    simp only [if_true] at hz
    have hlen : (zv (zs.take len)).length = len := by rw [zv_length, List.length_take, hz]; omega
    refine ⟨some a, len, cap, zs.take len, rfl, hlen, hl, hm, (fun h => by cases h), fun h0 => ?_⟩
    obtain ⟨b, off, rfl, hc⟩ := ints_at hcell (by omega)
    refine ⟨b, off, rfl, fun i x hx => ?_⟩
    have hi : i < len := by have := (List.getElem?_eq_some_iff.1 hx).1; omega
    rw [hc i (by omega)]
    have hg : zs[i]? = some (zs[i]'(by omega)) := List.getElem?_eq_getElem (by omega)
    unfold zv at hx
    rw [List.getElem?_map, List.getElem?_take, if_pos hi, hg] at hx
    obtain rfl := Option.some.inj hx
    simp [List.getD, hg]
end Go.Proofs.YtceigepclemdmaaDoor
