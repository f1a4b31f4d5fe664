/-
  An api.Message among the arguments, as package chain reads it. No conditions.
-/
import Derived.Test.YtdpjfcdfopmoaaaKitC
import Derived.Test.YtdpjfcdfopmoaaaKitA
import Derived.Test.YtdpjfcdfopmoaaaRk15
import Derived.ProofKit
namespace Go.Proofs.Ytdpjfcdfopmoaaa
open Go.ChangeShapes Go.WideShapes Go.RowKit
set_option maxRecDepth 100000

theorem k15_rc : Try.prog.cellsOf 42 = 23 := by kernel_rfl
theorem k15_u32 : Try.prog.cellsOf 35 = 1 := by kernel_rfl
theorem k15_str : Try.prog.cellsOf 9 = 1 := by kernel_rfl
theorem k15_i64 : Try.prog.cellsOf 3 = 1 := by kernel_rfl
theorem k15_bs : Try.prog.cellsOf 40 = 1 := by kernel_rfl
theorem k15_ms : Try.prog.cellsOf 25 = 9 := by kernel_rfl
theorem k15_qsl : Try.prog.cellsOf 22 = 1 := by kernel_rfl
theorem k15_rcl : Try.prog.cellsOf 23 = 1 := by kernel_rfl
theorem slice15 {H : Type} {enc : TypeId × Value → H} {W : World} {fuel : Nat} {t e : TypeId} (hu : Try.prog.underlying t = some (.slice e)) {l : List Value} {y : DataW H × List MemPlace} (h : DataW.trod enc Try.prog W 0 (fun _ => true) true fuel t l = some y) : ∃ v, l = [v] ∧ v.oneCell' = true := by
  rcases DataW.trod_slice hu h with ⟨hcs, _⟩ | ⟨a, len, cap, elems, rest, m, _, hcs, _, _, hl, hm, hlen, hel, _, _⟩
  · exact ⟨_, hcs, rfl⟩
  · exact ⟨_, hcs, rfl⟩
theorem record15 {H : Type} {enc : TypeId × Value → H} {W : World} {fuel : Nat} {l : List Value} {y : DataW H × List MemPlace} (hf : DataW.trod enc Try.prog W 0 (fun _ => true) true fuel 42 l = some y) : ∃ r : Rk, l = (rkv r).toList ∧ r.ok := by
  obtain ⟨xs, m, _, _, hlen, hxl, hg⟩ := DataW.trod_struct Try.underlying42 hf
  rw [k15_rc] at hlen
  have hx7 : xs.length = 7 := hxl
  obtain ⟨y0, y1, y2, y3, y4, y5, y6, rfl⟩ : ∃ y0 y1 y2 y3 y4 y5 y6, xs = [y0, y1, y2, y3, y4, y5, y6] := by
    match xs, hx7 with
    | [y0, y1, y2, y3, y4, y5, y6], _ => exact ⟨_, _, _, _, _, _, _, rfl⟩
  have g0 : DataW.trod enc Try.prog W 0 (fun _ => true) true m 9 ((l.drop 0).take (Try.prog.cellsOf 9)) = some y0 := hg 0 _ rfl
  have g1 : DataW.trod enc Try.prog W 0 (fun _ => true) true m 3 ((l.drop 1).take (Try.prog.cellsOf 3)) = some y1 := hg 1 _ rfl
  have g2 : DataW.trod enc Try.prog W 0 (fun _ => true) true m 3 ((l.drop 2).take (Try.prog.cellsOf 3)) = some y2 := hg 2 _ rfl
  have g3 : DataW.trod enc Try.prog W 0 (fun _ => true) true m 35 ((l.drop 3).take (Try.prog.cellsOf 35)) = some y3 := hg 3 _ rfl
  have g4 : DataW.trod enc Try.prog W 0 (fun _ => true) true m 34 ((l.drop 4).take (Try.prog.cellsOf 34)) = some y4 := hg 4 _ rfl
  have g5 : DataW.trod enc Try.prog W 0 (fun _ => true) true m 9 ((l.drop 21).take (Try.prog.cellsOf 9)) = some y5 := hg 5 _ rfl
  have g6 : DataW.trod enc Try.prog W 0 (fun _ => true) true m 40 ((l.drop 22).take (Try.prog.cellsOf 40)) = some y6 := hg 6 _ rfl
  rw [k15_str, List.drop_zero] at g0
  rw [k15_str] at g5
  rw [k15_i64] at g1 g2
  rw [k15_u32] at g3
  rw [cells_ad] at g4
  rw [k15_bs] at g6
  obtain ⟨s0, e0, _, _⟩ := DataW.trod_string Try.underlying9 g0
  obtain ⟨z1, e1, _, _⟩ := DataW.trod_int Try.underlying3 g1
  obtain ⟨z2, e2, _, _⟩ := DataW.trod_int Try.underlying3 g2
  obtain ⟨z3, e3, _, _⟩ := DataW.trod_int Try.underlying35 g3
  obtain ⟨v6, b, e4, hb4⟩ := ad_cells g4
  obtain ⟨s5, e5, _, _⟩ := DataW.trod_string Try.underlying9 g5
  obtain ⟨v, e6, hv⟩ := slice15 Try.underlying40 g6
  refine ⟨⟨s0, z1, z2, z3, v6, b, s5, v⟩, ?_, hb4, hv⟩
  have d0 : l = l.take 1 ++ l.drop 1 := (List.take_append_drop 1 l).symm
  have d1 : l.drop 1 = (l.drop 1).take 1 ++ l.drop 2 := by rw [← List.drop_drop (i := 1) (j := 1), List.take_append_drop]
  have d2 : l.drop 2 = (l.drop 2).take 1 ++ l.drop 3 := by rw [← List.drop_drop (i := 1) (j := 2), List.take_append_drop]
  have d3 : l.drop 3 = (l.drop 3).take 1 ++ l.drop 4 := by rw [← List.drop_drop (i := 1) (j := 3), List.take_append_drop]
  have d4 : l.drop 4 = (l.drop 4).take 17 ++ l.drop 21 := by rw [← List.drop_drop (i := 17) (j := 4), List.take_append_drop]
  have d5 : l.drop 21 = (l.drop 21).take 1 ++ l.drop 22 := by rw [← List.drop_drop (i := 1) (j := 21), List.take_append_drop]
  have d6 : l.drop 22 = (l.drop 22).take 1 := (List.take_of_length_le (by rw [List.length_drop]; omega)).symm
  rw [d0, d1, d2, d3, d4, d5, d6, e0, e1, e2, e3, e4, e5, e6, rkv_list]
  simp
theorem at15 {W : World} {a : Addr} {n : Nat} {cs : List Value} (h : W.cells? 0 a n = some cs) (hn : 0 < n) : ∃ b off, a = ⟨b, off, none⟩ ∧ W.rangeAt b off cs := by
  obtain ⟨_, h1, h2⟩ := World.cells?_some h
  have h0 := h2 0 hn
  rw [List.getElem?_eq_getElem (by omega)] at h0
  have hs : a.spot = none := by simpa [Addr.add] using World.cell?_spot h0
  obtain ⟨b, off, spot⟩ := a
  simp only at hs
  subst hs
  refine ⟨b, off, rfl, fun j v hj => ?_⟩
  have hlt := (List.getElem?_eq_some_iff.1 hj).1
  have h3 := h2 j (by omega)
  rw [Go.WideShapes.add_plain] at h3
  rw [h3]
  exact hj
theorem zero15 {a : Addr} {b off : Nat} (h : a.add 0 = ⟨b, off, none⟩) : a = ⟨b, off, none⟩ := by simpa [Addr.add] using h
theorem add15 {b0 o0 i b off : Nat} (h : (⟨b0, o0, none⟩ : Addr).add i = ⟨b, off, none⟩) : b = b0 ∧ off = o0 + i := by
  rw [Go.WideShapes.add_plain] at h
  cases h
  exact ⟨rfl, rfl⟩
theorem records15 {H : Type} {enc : TypeId × Value → H} {W : World} {fuel : Nat} {l : List Value} {y : DataW H × List MemPlace} (h : DataW.trod enc Try.prog W 0 (fun _ => true) true fuel 23 l = some y) :
    ∃ A n c xs, l = [.slice A n c] ∧ Rks W A n c xs := by
  rcases DataW.trod_slice Try.underlying23 h with ⟨hcs, _⟩ | ⟨a, len, cap, elems, rest, m, _, hcs, _, _, hl, hm, hlen, hel, _, _⟩
  · exact ⟨none, 0, 0, [], hcs, Rks.nil _⟩
  rw [k15_rc] at hel
  have hE : ∀ i : Fin len, ∃ r : Rk, (∃ b off, a.add (i.1 * 23) = ⟨b, off, none⟩ ∧ W.rangeAt b off (rkv r).toList) ∧ r.ok := fun i => by
    have hb := hel i.1 i.2
    rw [List.getElem?_eq_getElem (by rw [hlen]; exact i.2), Option.bind_eq_some_iff] at hb
    obtain ⟨cs, hcs, hy⟩ := hb
    obtain ⟨r, rfl, hok⟩ := record15 hy
    exact ⟨r, at15 hcs (by decide), hok⟩
  clear hel h
  obtain ⟨f, hf⟩ : ∃ f : Fin len → Rk, ∀ i : Fin len, (∃ b off, a.add (i.1 * 23) = ⟨b, off, none⟩ ∧ W.rangeAt b off (rkv (f i)).toList) ∧ (f i).ok := ⟨fun i => Classical.choose (hE i), fun i => Classical.choose_spec (hE i)⟩
  refine ⟨some a, len, cap, List.ofFn f, hcs, ⟨by simp, hl, hm, (fun h => by cases h), fun r hr => ?_, fun i r hr => ?_⟩⟩
  · obtain ⟨i, rfl⟩ := List.mem_ofFn.1 hr
    exact (hf i).2
  · have hi : i < len := by have := (List.getElem?_eq_some_iff.1 hr).1; simpa using this
    rw [List.getElem?_ofFn, dif_pos hi] at hr
    cases hr
    obtain ⟨⟨b0, o0, ha0, _⟩, _⟩ := hf ⟨0, by omega⟩
    have ha1 := zero15 (show a.add 0 = _ by rw [← ha0, Nat.zero_mul])
    subst ha1
    obtain ⟨⟨b, off, ha, hra⟩, _⟩ := hf ⟨i, hi⟩
    obtain ⟨rfl, rfl⟩ := add15 ha
    exact ⟨b, o0, rfl, hra⟩
theorem chain_of {H : Type} {enc : TypeId × Value → H} {W : World} {base : Nat} {v : Value} {d : DataW H} {ps : List MemPlace} (hv : Value.okWide Try.prog W .any base 25 v) (h : DataW.Trod enc Try.prog W 0 (fun _ => true) true 25 v d ps) :
    ∃ v0 v1 v2 v3 v4 v5 A n c v7 v8 xs, v = .agg #[v0, v1, v2, v3, v4, v5, .slice A n c, v7, v8] ∧ Rks W A n c xs := by
  obtain ⟨cs, rfl, _⟩ := okWide_struct Try.underlying25 hv
  obtain ⟨fuel, hf⟩ := h
  have e0 : (Value.cells (.agg cs)).toList = cs.toList := by simp [Value.cells]
  rw [e0] at hf
  obtain ⟨xs, m, _, _, hlen, hxl, hg⟩ := DataW.trod_struct Try.underlying25 hf
  rw [k15_ms] at hlen
  obtain ⟨l, hl⟩ : ∃ l, cs.toList = l := ⟨_, rfl⟩
  rw [hl] at hlen hg
  have hx9 : xs.length = 9 := hxl
  obtain ⟨y0, y1, y2, y3, y4, y5, y6, y7, y8, rfl⟩ : ∃ y0 y1 y2 y3 y4 y5 y6 y7 y8, xs = [y0, y1, y2, y3, y4, y5, y6, y7, y8] := by
    match xs, hx9 with
    | [y0, y1, y2, y3, y4, y5, y6, y7, y8], _ => exact ⟨_, _, _, _, _, _, _, _, _, rfl⟩
  have g0 : DataW.trod enc Try.prog W 0 (fun _ => true) true m 3 ((l.drop 0).take (Try.prog.cellsOf 3)) = some y0 := hg 0 _ rfl
  have g1 : DataW.trod enc Try.prog W 0 (fun _ => true) true m 4 ((l.drop 1).take (Try.prog.cellsOf 4)) = some y1 := hg 1 _ rfl
  have g2 : DataW.trod enc Try.prog W 0 (fun _ => true) true m 3 ((l.drop 2).take (Try.prog.cellsOf 3)) = some y2 := hg 2 _ rfl
  have g3 : DataW.trod enc Try.prog W 0 (fun _ => true) true m 3 ((l.drop 3).take (Try.prog.cellsOf 3)) = some y3 := hg 3 _ rfl
  have g4 : DataW.trod enc Try.prog W 0 (fun _ => true) true m 3 ((l.drop 4).take (Try.prog.cellsOf 3)) = some y4 := hg 4 _ rfl
  have g5 : DataW.trod enc Try.prog W 0 (fun _ => true) true m 22 ((l.drop 5).take (Try.prog.cellsOf 22)) = some y5 := hg 5 _ rfl
  have g6 : DataW.trod enc Try.prog W 0 (fun _ => true) true m 23 ((l.drop 6).take (Try.prog.cellsOf 23)) = some y6 := hg 6 _ rfl
  have g7 : DataW.trod enc Try.prog W 0 (fun _ => true) true m 23 ((l.drop 7).take (Try.prog.cellsOf 23)) = some y7 := hg 7 _ rfl
  have g8 : DataW.trod enc Try.prog W 0 (fun _ => true) true m 23 ((l.drop 8).take (Try.prog.cellsOf 23)) = some y8 := hg 8 _ rfl
  rw [k15_i64, List.drop_zero] at g0
  rw [cells_bool] at g1
  rw [k15_i64] at g2 g3 g4
  rw [k15_qsl] at g5
  rw [k15_rcl] at g6 g7 g8
  obtain ⟨z0, e0, _, _⟩ := DataW.trod_int Try.underlying3 g0
  obtain ⟨z1, e1, _⟩ := DataW.trod_bool Try.underlying4 g1
  obtain ⟨z2, e2, _, _⟩ := DataW.trod_int Try.underlying3 g2
  obtain ⟨z3, e3, _, _⟩ := DataW.trod_int Try.underlying3 g3
  obtain ⟨z4, e4, _, _⟩ := DataW.trod_int Try.underlying3 g4
  obtain ⟨v5, e5, _⟩ := slice15 Try.underlying22 g5
  obtain ⟨A, n, c, an, e6, ha⟩ := records15 g6
  obtain ⟨v7, e7, _⟩ := slice15 Try.underlying23 g7
  obtain ⟨v8, e8, _⟩ := slice15 Try.underlying23 g8
  have d0 : l = l.take 1 ++ l.drop 1 := (List.take_append_drop 1 l).symm
  have d1 : l.drop 1 = (l.drop 1).take 1 ++ l.drop 2 := by rw [← List.drop_drop (i := 1) (j := 1), List.take_append_drop]
  have d2 : l.drop 2 = (l.drop 2).take 1 ++ l.drop 3 := by rw [← List.drop_drop (i := 1) (j := 2), List.take_append_drop]
  have d3 : l.drop 3 = (l.drop 3).take 1 ++ l.drop 4 := by rw [← List.drop_drop (i := 1) (j := 3), List.take_append_drop]
  have d4 : l.drop 4 = (l.drop 4).take 1 ++ l.drop 5 := by rw [← List.drop_drop (i := 1) (j := 4), List.take_append_drop]
  have d5 : l.drop 5 = (l.drop 5).take 1 ++ l.drop 6 := by rw [← List.drop_drop (i := 1) (j := 5), List.take_append_drop]
  have d6 : l.drop 6 = (l.drop 6).take 1 ++ l.drop 7 := by rw [← List.drop_drop (i := 1) (j := 6), List.take_append_drop]
  have d7 : l.drop 7 = (l.drop 7).take 1 ++ l.drop 8 := by rw [← List.drop_drop (i := 1) (j := 7), List.take_append_drop]
  have d8 : l.drop 8 = (l.drop 8).take 1 := (List.take_of_length_le (by rw [List.length_drop]; omega)).symm
  refine ⟨.int .i64 z0, .bool z1, .int .i64 z2, .int .i64 z3, .int .i64 z4, v5, A, n, c, v7, v8, an, congrArg Value.agg (Array.toList_inj.1 ?_), ha⟩
  rw [hl, d0, d1, d2, d3, d4, d5, d6, d7, d8, e0, e1, e2, e3, e4, e5, e6, e7, e8]
  rfl
end Go.Proofs.Ytdpjfcdfopmoaaa
