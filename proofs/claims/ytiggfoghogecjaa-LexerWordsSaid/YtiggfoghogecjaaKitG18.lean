/-
  A slice of texts among the arguments, as a slice that reads as a list. No conditions.
-/
import Derived.Test.YtiggfoghogecjaaKitC
import Derived.Test.YtiggfoghogecjaaGs
import Derived.SliceStrings
namespace Go.Proofs.Ytiggfoghogecjaa
open Go.ChangeShapes Go.WideShapes Go.RowKit

set_option maxRecDepth 100000 in
theorem strs_of {H : Type} {enc : TypeId × Value → H} {W : World} {base : Nat} {v : Value} {d : DataW H} {ps : List MemPlace} (hv : Value.okWide Try.prog W .any base 33 v) (h : DataW.Trod enc Try.prog W 0 (fun _ => true) true 33 v d ps) :
    ∃ (A : Option Addr) (n c : Nat) (xs : List ByteArray), v = .slice A n c ∧ Gs W A n c (sv xs) ∧ ∀ x ∈ xs, x.size ≤ maxLen := by
  obtain ⟨a0, len, cap, rfl⟩ := okWide_slice Try.underlying33 hv
  obtain ⟨fuel, hf⟩ := h
  rcases open_strings Try.underlying33 Try.underlying9 (by kernel_rfl) hf with ⟨hcs, _⟩ | ⟨a, len', cap', ss, hcs, _, hl, hm, hz, _, hcell, hr⟩
  · simp [Value.cells] at hcs
    obtain ⟨rfl, rfl, rfl⟩ := hcs
    exact ⟨none, 0, 0, [], rfl, Gs.nil W, fun x h => by cases h⟩
  · simp [Value.cells] at hcs
    obtain ⟨rfl, rfl, rfl⟩ := hcs
    simp only [if_true] at hz
    have hlen : (sv (ss.take len)).length = len := by unfold sv; rw [List.length_map, List.length_take, hz]; omega
    refine ⟨some a, len, cap, ss.take len, rfl, ⟨hlen, hl, hm, (fun h => by cases h), fun h0 => ?_⟩, fun x hx => hr x (List.mem_of_mem_take hx)⟩
    obtain ⟨b, off, spot⟩ := a
    have hspot : spot = none := by
      simpa [Addr.add] using World.cell?_spot (hcell 0 (by omega))
    subst hspot
    refine ⟨b, off, rfl, fun i x hx => ?_⟩
    have hi : i < len := by have := (List.getElem?_eq_some_iff.1 hx).1; omega
    have h1 := hcell i (by omega)
    rw [add_plain] at h1
    rw [h1]
    have hg : ss[i]? = some (ss[i]'(by omega)) := List.getElem?_eq_getElem (by omega)
    unfold sv at hx
    rw [List.getElem?_map, List.getElem?_take, if_pos hi, hg] at hx
    obtain rfl := Option.some.inj hx
    simp [List.getD, hg]
end Go.Proofs.Ytiggfoghogecjaa
