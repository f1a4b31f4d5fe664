/-
  What is asked of a queue, among the arguments. No conditions.
-/
import Derived.Test.YtdpmjbhkmfjpfaaDoorKitC
import Derived.Test.YtdpmjbhkmfjpfaaDoorPl17
import Derived.ProofKit
namespace Go.Proofs.YtdpmjbhkmfjpfaaDoor
open Go.ChangeShapes Go.WideShapes Go.RowKit
set_option maxRecDepth 100000

theorem o17_i64 : Tryd.prog.cellsOf 3 = 1 := by kernel_rfl
theorem o17_u64 : Tryd.prog.cellsOf 30 = 1 := by kernel_rfl
theorem o17_op : Tryd.prog.cellsOf 32 = 3 := by kernel_rfl
theorem at17 {W : World} {a : Addr} {n : Nat} {cs : List Value} (h : W.cells? 0 a n = some cs) (hn : 0 < n) : ∃ b off, a = ⟨b, off, none⟩ ∧ W.rangeAt b off cs := by
  obtain ⟨_, h1, h2⟩ := World.cells?_some h
  have h0 := h2 0 hn
  rw [List.getElem?_eq_getElem (by omega)] at h0
  have hs : a.spot = none := by simpa [Addr.add] using World.cell?_spot h0
  obtain ⟨b, off, spot⟩ := a
  simp only at hs
  subst hs
  refine ⟨b, off, rfl, fun j v hj => ?_⟩
  have hlt := (List.getElem?_eq_some_iff.1 hj).1
  have h3 := h2 j (by omega)
  rw [Go.WideShapes.add_plain] at h3
  rw [h3]
  exact hj
theorem op_cells {H : Type} {enc : TypeId × Value → H} {W : World} {fuel : Nat} {l : List Value} {y : DataW H × List MemPlace} (hf : DataW.trod enc Tryd.prog W 0 (fun _ => true) true fuel 32 l = some y) :
    ∃ o : Op17, l = [.int .i64 o.kind, .int .i64 o.id, .int .u64 o.at_] := by
  obtain ⟨xs, m, _, _, hlen, hxl, hg⟩ := DataW.trod_struct Tryd.underlying32 hf
  rw [o17_op] at hlen
  have hx3 : xs.length = 3 := hxl
  obtain ⟨y0, y1, y2, rfl⟩ : ∃ y0 y1 y2, xs = [y0, y1, y2] := by
    match xs, hx3 with
    | [y0, y1, y2], _ => exact ⟨_, _, _, rfl⟩
  have g0 : DataW.trod enc Tryd.prog W 0 (fun _ => true) true m 3 ((l.drop 0).take (Tryd.prog.cellsOf 3)) = some y0 := hg 0 _ rfl
  have g1 : DataW.trod enc Tryd.prog W 0 (fun _ => true) true m 3 ((l.drop 1).take (Tryd.prog.cellsOf 3)) = some y1 := hg 1 _ rfl
  have g2 : DataW.trod enc Tryd.prog W 0 (fun _ => true) true m 30 ((l.drop 2).take (Tryd.prog.cellsOf 30)) = some y2 := hg 2 _ rfl
  rw [o17_i64, List.drop_zero] at g0
  rw [o17_i64] at g1
  rw [o17_u64] at g2
  obtain ⟨z0, e0, _, _⟩ := DataW.trod_int Tryd.underlying3 g0
  obtain ⟨z1, e1, _, _⟩ := DataW.trod_int Tryd.underlying3 g1
  obtain ⟨z2, e2, _, _⟩ := DataW.trod_int Tryd.underlying30 g2
  refine ⟨⟨z0, z1, z2⟩, ?_⟩
  have d0 : l = l.take 1 ++ l.drop 1 := (List.take_append_drop 1 l).symm
  have d1 : l.drop 1 = (l.drop 1).take 1 ++ l.drop 2 := by rw [← List.drop_drop (i := 1) (j := 1), List.take_append_drop]
  have d2 : l.drop 2 = (l.drop 2).take 1 := (List.take_of_length_le (by rw [List.length_drop]; omega)).symm
  rw [d0, d1, d2, e0, e1, e2]
  rfl
theorem ops_cells {H : Type} {enc : TypeId × Value → H} {W : World} {fuel : Nat} {l : List Value} {y : DataW H × List MemPlace} (h : DataW.trod enc Tryd.prog W 0 (fun _ => true) true fuel 22 l = some y) :
    ∃ (A : Option Addr) (n c : Nat) (os : List Op17), l = [.slice A n c] ∧ OpS W A n c os := by
  rcases DataW.trod_slice Tryd.underlying22 h with ⟨hcs, _⟩ | ⟨a, len, cap, elems, rest, m, _, hcs, _, _, hl, hm, hlen, hel, _, _⟩
  · exact ⟨none, 0, 0, [], hcs, rfl, Nat.le_refl _, Nat.zero_le _, fun i o h => by cases h⟩
  have hE : ∀ i : Fin len, ∃ o : Op17, ∃ b off, a.add (i.1 * 3) = ⟨b, off, none⟩ ∧ W.rangeAt b off [.int .i64 o.kind, .int .i64 o.id, .int .u64 o.at_] := fun i => by
    have hb := hel i.1 i.2
    rw [o17_op, List.getElem?_eq_getElem (by rw [hlen]; exact i.2), Option.bind_eq_some_iff] at hb
    obtain ⟨cs, hcs, hy⟩ := hb
    obtain ⟨o, rfl⟩ := op_cells hy
    exact ⟨o, at17 hcs (by decide)⟩
  obtain ⟨f, hf⟩ : ∃ f : Fin len → Op17, ∀ i, ∃ b off, a.add (i.1 * 3) = ⟨b, off, none⟩ ∧ W.rangeAt b off [.int .i64 (f i).kind, .int .i64 (f i).id, .int .u64 (f i).at_] := ⟨fun i => Classical.choose (hE i), fun i => Classical.choose_spec (hE i)⟩
  refine ⟨some a, len, cap, List.ofFn f, hcs, by simp, hl, hm, fun i o ho => ?_⟩
  have hi : i < len := by have := (List.getElem?_eq_some_iff.1 ho).1; simpa using this
  rw [List.getElem?_ofFn, dif_pos hi] at ho
  cases ho
  obtain ⟨b0, o0, h0, _⟩ := hf ⟨0, by omega⟩
  obtain ⟨b, off, h1, h2⟩ := hf ⟨i, hi⟩
  have ha : a = ⟨b0, o0, none⟩ := by
    rw [Nat.zero_mul] at h0
    simpa [Addr.add] using h0
  subst ha
  rw [Go.WideShapes.add_plain] at h1
  cases h1
  exact ⟨b0, o0, rfl, h2, lt_of_cell' (h2 0 _ rfl)⟩
theorem ops_of {H : Type} {enc : TypeId × Value → H} {W : World} {base : Nat} {v : Value} {d : DataW H} {ps : List MemPlace} (hv : Value.okWide Tryd.prog W .any base 22 v) (h : DataW.Trod enc Tryd.prog W 0 (fun _ => true) true 22 v d ps) :
    ∃ (A : Option Addr) (n c : Nat) (os : List Op17), v = .slice A n c ∧ OpS W A n c os := by
  obtain ⟨a0, len, cap, rfl⟩ := okWide_slice Tryd.underlying22 hv
  obtain ⟨fuel, hf⟩ := h
  obtain ⟨A, n, c, os, he, hs⟩ := ops_cells hf
  simp [Value.cells] at he
  obtain ⟨rfl, rfl, rfl⟩ := he
  exact ⟨_, _, _, os, rfl, hs⟩
end Go.Proofs.YtdpmjbhkmfjpfaaDoor
