/-
  An api.Message among the arguments. No conditions.
-/
import Derived.Test.YtbikifaadpijnaaGreatDoorZ48
import Derived.Test.YtbikifaadpijnaaGreatDoorZ46
import Derived.Test.YtbikifaadpijnaaGreatDoorZ25
namespace Go.Proofs.YtbikifaadpijnaaGreatDoor
open Go.ChangeShapes Go.WideShapes Go.RowKit
set_option maxRecDepth 100000

--<< r
theorem record_cells {H : Type} {enc : TypeId × Value → H} {W : World} {fuel : Nat} {l : List Value} {y : DataW H × List MemPlace} (hf : DataW.trod enc Tryz.prog W 0 (fun _ => true) true fuel 57 l = some y) :
    ∃ (r : Rc) (A : Option Addr) (n c : Nat), l = (rcv r A n c).toList ∧ r.ok ∧ Bs W A n c r.data ∧ (0 ≤ r.ttl ∧ r.ttl < 4294967296) ∧ r.name.length ≤ maxLen ∧ r.target.length ≤ maxLen := by
  obtain ⟨xs, m, _, _, hlen, hxl, hg⟩ := DataW.trod_struct Tryz.underlying57 hf
  rw [cells_rc] at hlen
  have hx7 : xs.length = 7 := hxl
  obtain ⟨y0, y1, y2, y3, y4, y5, y6, rfl⟩ : ∃ y0 y1 y2 y3 y4 y5 y6, xs = [y0, y1, y2, y3, y4, y5, y6] := by
    match xs, hx7 with
    | [y0, y1, y2, y3, y4, y5, y6], _ => exact ⟨_, _, _, _, _, _, _, rfl⟩
  have g0 : DataW.trod enc Tryz.prog W 0 (fun _ => true) true m 9 ((l.drop 0).take (Tryz.prog.cellsOf 9)) = some y0 := hg 0 _ rfl
  have g1 : DataW.trod enc Tryz.prog W 0 (fun _ => true) true m 3 ((l.drop 1).take (Tryz.prog.cellsOf 3)) = some y1 := hg 1 _ rfl
  have g2 : DataW.trod enc Tryz.prog W 0 (fun _ => true) true m 3 ((l.drop 2).take (Tryz.prog.cellsOf 3)) = some y2 := hg 2 _ rfl
  have g3 : DataW.trod enc Tryz.prog W 0 (fun _ => true) true m 52 ((l.drop 3).take (Tryz.prog.cellsOf 52)) = some y3 := hg 3 _ rfl
  have g4 : DataW.trod enc Tryz.prog W 0 (fun _ => true) true m 55 ((l.drop 4).take (Tryz.prog.cellsOf 55)) = some y4 := hg 4 _ rfl
  have g5 : DataW.trod enc Tryz.prog W 0 (fun _ => true) true m 9 ((l.drop 21).take (Tryz.prog.cellsOf 9)) = some y5 := hg 5 _ rfl
  have g6 : DataW.trod enc Tryz.prog W 0 (fun _ => true) true m 22 ((l.drop 22).take (Tryz.prog.cellsOf 22)) = some y6 := hg 6 _ rfl
  rw [cells_str, List.drop_zero] at g0
  rw [cells_str] at g5
  rw [cells_i64] at g1 g2
  rw [cells_u32] at g3
  rw [cells_ad] at g4
  rw [cells_bs] at g6
  obtain ⟨s0, e0, _, r0⟩ := DataW.trod_string Tryz.underlying9 g0
  obtain ⟨z1, e1, _, _⟩ := DataW.trod_int Tryz.underlying3 g1
  obtain ⟨z2, e2, _, _⟩ := DataW.trod_int Tryz.underlying3 g2
  obtain ⟨z3, e3, _, r3⟩ := DataW.trod_int Tryz.underlying52 g3
  obtain ⟨v6, b, e4, hb4⟩ := ad_cells g4
  obtain ⟨s5, e5, _, r5⟩ := DataW.trod_string Tryz.underlying9 g5
  obtain ⟨A, n, c, k, e6, hb⟩ := bytes_cells g6
  have q3 := u32_range r3
  refine ⟨⟨s0.data.toList, z1, z2, z3, v6, b, s5.data.toList, k⟩, A, n, c, ?_, hb4, hb, ⟨q3.1, by dsimp only; omega⟩, by dsimp only; rw [← Lib.size_eq]; exact r0, by dsimp only; rw [← Lib.size_eq]; exact r5⟩
  have d0 : l = l.take 1 ++ l.drop 1 := (List.take_append_drop 1 l).symm
  have d1 : l.drop 1 = (l.drop 1).take 1 ++ l.drop 2 := by rw [← List.drop_drop (i := 1) (j := 1), List.take_append_drop]
  have d2 : l.drop 2 = (l.drop 2).take 1 ++ l.drop 3 := by rw [← List.drop_drop (i := 1) (j := 2), List.take_append_drop]
  have d3 : l.drop 3 = (l.drop 3).take 1 ++ l.drop 4 := by rw [← List.drop_drop (i := 1) (j := 3), List.take_append_drop]
  have d4 : l.drop 4 = (l.drop 4).take 17 ++ l.drop 21 := by rw [← List.drop_drop (i := 17) (j := 4), List.take_append_drop]
  have d5 : l.drop 21 = (l.drop 21).take 1 ++ l.drop 22 := by rw [← List.drop_drop (i := 1) (j := 21), List.take_append_drop]
  have d6 : l.drop 22 = (l.drop 22).take 1 := (List.take_of_length_le (by rw [List.length_drop]; omega)).symm
  rw [d0, d1, d2, d3, d4, d5, d6, e0, e1, e2, e3, e4, e5, e6, rcv_list]
  dsimp only
  rw [mkS_back, mkS_back]
  simp
-->>
--<< q
theorem question_cells {H : Type} {enc : TypeId × Value → H} {W : World} {fuel : Nat} {l : List Value} {y : DataW H × List MemPlace} (hf : DataW.trod enc Tryz.prog W 0 (fun _ => true) true fuel 51 l = some y) :
    ∃ q : Qs, l = (qsv q).toList ∧ q.name.length ≤ maxLen := by
  obtain ⟨xs, m, _, _, hlen, hxl, hg⟩ := DataW.trod_struct Tryz.underlying51 hf
  rw [cells_qs] at hlen
  have hx3 : xs.length = 3 := hxl
  obtain ⟨y0, y1, y2, rfl⟩ : ∃ y0 y1 y2, xs = [y0, y1, y2] := by
    match xs, hx3 with
    | [y0, y1, y2], _ => exact ⟨_, _, _, rfl⟩
  have g0 : DataW.trod enc Tryz.prog W 0 (fun _ => true) true m 9 ((l.drop 0).take (Tryz.prog.cellsOf 9)) = some y0 := hg 0 _ rfl
  have g1 : DataW.trod enc Tryz.prog W 0 (fun _ => true) true m 3 ((l.drop 1).take (Tryz.prog.cellsOf 3)) = some y1 := hg 1 _ rfl
  have g2 : DataW.trod enc Tryz.prog W 0 (fun _ => true) true m 3 ((l.drop 2).take (Tryz.prog.cellsOf 3)) = some y2 := hg 2 _ rfl
  rw [cells_str, List.drop_zero] at g0
  rw [cells_i64] at g1 g2
  obtain ⟨s0, e0, _, r0⟩ := DataW.trod_string Tryz.underlying9 g0
  obtain ⟨z1, e1, _, _⟩ := DataW.trod_int Tryz.underlying3 g1
  obtain ⟨z2, e2, _, _⟩ := DataW.trod_int Tryz.underlying3 g2
  refine ⟨⟨s0.data.toList, z1, z2⟩, ?_, by dsimp only; rw [← Lib.size_eq]; exact r0⟩
  have d0 : l = l.take 1 ++ l.drop 1 := (List.take_append_drop 1 l).symm
  have d1 : l.drop 1 = (l.drop 1).take 1 ++ l.drop 2 := by rw [← List.drop_drop (i := 1) (j := 1), List.take_append_drop]
  have d2 : l.drop 2 = (l.drop 2).take 1 := (List.take_of_length_le (by rw [List.length_drop]; omega)).symm
  rw [d0, d1, d2, e0, e1, e2]
  unfold qsv
  dsimp only
  rw [mkS_back]
  rfl
-->>
theorem cells_at {W : World} {a : Addr} {n : Nat} {cs : List Value} (h : W.cells? 0 a n = some cs) (hn : 0 < n) : ∃ b off, a = ⟨b, off, none⟩ ∧ W.rangeAt b off cs := by
  obtain ⟨_, h1, h2⟩ := World.cells?_some h
  have h0 := h2 0 hn
  rw [List.getElem?_eq_getElem (by omega)] at h0
  have hs : a.spot = none := by simpa [Addr.add] using World.cell?_spot h0
  obtain ⟨b, off, spot⟩ := a
  simp only at hs
  subst hs
  refine ⟨b, off, rfl, fun j v hj => ?_⟩
  have hlt := (List.getElem?_eq_some_iff.1 hj).1
  have h3 := h2 j (by omega)
  rw [Go.WideShapes.add_plain] at h3
  rw [h3]
  exact hj
theorem add_zero_of {a : Addr} {b off : Nat} (h : a.add 0 = ⟨b, off, none⟩) : a = ⟨b, off, none⟩ := by simpa [Addr.add] using h
theorem add_of {b0 o0 i b off : Nat} (h : (⟨b0, o0, none⟩ : Addr).add i = ⟨b, off, none⟩) : b = b0 ∧ off = o0 + i := by
  rw [Go.WideShapes.add_plain] at h
  cases h
  exact ⟨rfl, rfl⟩
/-- A record at a place. -/
def RcAt (W : World) (a : Addr) (r : Rc) : Prop := ∃ (B : Option Addr) (k d : Nat), (∃ b off, a = ⟨b, off, none⟩ ∧ W.rangeAt b off (rcv r B k d).toList) ∧ r.ok ∧ Bs W B k d r.data ∧ Rec1 r
theorem rcAt_cells {H : Type} {enc : TypeId × Value → H} {W : World} {fuel : Nat} {a : Addr} {cs : List Value} {y : DataW H × List MemPlace} (hcs : W.cells? 0 a 23 = some cs) (hy : DataW.trod enc Tryz.prog W 0 (fun _ => true) true fuel 57 cs = some y) : ∃ r, RcAt W a r := by
  obtain ⟨r, B, k, d, e, ok, hB, ht, h1, h2⟩ := record_cells hy
  obtain ⟨b, off, ha, hr⟩ := cells_at hcs (by decide)
  rw [e] at hr
  unfold maxLen at h1 h2
  exact ⟨r, B, k, d, ⟨b, off, ha, hr⟩, ok, hB, ht, by omega, by omega⟩
theorem RcAt.here {W : World} {b0 o0 i : Nat} {r : Rc} (h : RcAt W ((⟨b0, o0, none⟩ : Addr).add (i * 23)) r) : ∃ b off B k m, some (⟨b0, o0, none⟩ : Addr) = some ⟨b, off, none⟩ ∧ W.rangeAt b (off + i * 23) (rcv r B k m).toList ∧ Bs W B k m r.data ∧ 0 ≤ b ∧ (0 < k → ∀ a, B = some a → 0 ≤ a.block) := by
  obtain ⟨B, k, d, ⟨b, off, ha, hra⟩, _, hB, _⟩ := h
  obtain ⟨rfl, rfl⟩ := add_of ha
  exact ⟨b, o0, B, k, d, rfl, hra, hB, Nat.zero_le _, fun _ _ _ => Nat.zero_le _⟩
theorem RcAt.ok {W : World} {a : Addr} {r : Rc} (h : RcAt W a r) : r.ok ∧ Rec1 r ∧ ∃ b off, a = ⟨b, off, none⟩ := by
  obtain ⟨B, k, d, ⟨b, off, ha, hra⟩, ok, hB, h1⟩ := h
  exact ⟨ok, h1, b, off, ha⟩
theorem records_cells {H : Type} {enc : TypeId × Value → H} {W : World} {fuel : Nat} {l : List Value} {y : DataW H × List MemPlace} (h : DataW.trod enc Tryz.prog W 0 (fun _ => true) true fuel 24 l = some y) :
    ∃ (s : Sl) (xs : List Rc), l = [.slice s.A s.n s.c] ∧ RcS 0 W s.A s.n s.c xs ∧ ∀ r ∈ xs, Rec1 r := by
  rcases DataW.trod_slice Tryz.underlying24 h with ⟨hcs, _⟩ | ⟨a, len, cap, elems, rest, m, _, hcs, _, _, hl, hm, hlen, hel, _, _⟩
  · exact ⟨.zero, [], hcs, RcS.nil _ _, fun r h => by cases h⟩
  rw [cells_rc] at hel
  have hE : ∀ i : Fin len, ∃ r : Rc, RcAt W (a.add (i.1 * 23)) r := fun i => by
    have hb := hel i.1 i.2
    rw [List.getElem?_eq_getElem (by rw [hlen]; exact i.2), Option.bind_eq_some_iff] at hb
    obtain ⟨cs, hcs, hy⟩ := hb
    exact rcAt_cells hcs hy
  clear hel h
  obtain ⟨f, hf⟩ : ∃ f : Fin len → Rc, ∀ i : Fin len, RcAt W (a.add (i.1 * 23)) (f i) := ⟨fun i => Classical.choose (hE i), fun i => Classical.choose_spec (hE i)⟩
  refine ⟨⟨some a, len, cap⟩, List.ofFn f, hcs, ⟨by simp, hl, hm, (fun h => by cases h), fun r hr => ?_, fun i r hr => ?_⟩, fun r hr => ?_⟩
  · obtain ⟨i, rfl⟩ := List.mem_ofFn.1 hr
    exact (hf i).ok.1
  · have hi : i < len := by have := (List.getElem?_eq_some_iff.1 hr).1; simpa using this
    rw [List.getElem?_ofFn, dif_pos hi] at hr
    cases hr
    obtain ⟨_, _, b0, o0, ha0⟩ := (hf ⟨0, by omega⟩).ok
    have ha1 := add_zero_of (show a.add 0 = _ by rw [← ha0, Nat.zero_mul])
    subst ha1
    exact (hf ⟨i, hi⟩).here
  · obtain ⟨i, rfl⟩ := List.mem_ofFn.1 hr
    exact (hf i).ok.2.1
theorem questions_cells {H : Type} {enc : TypeId × Value → H} {W : World} {fuel : Nat} {l : List Value} {y : DataW H × List MemPlace} (h : DataW.trod enc Tryz.prog W 0 (fun _ => true) true fuel 23 l = some y) :
    ∃ (s : Sl) (xs : List Qs), l = [.slice s.A s.n s.c] ∧ QsS 0 W s.A s.n s.c xs ∧ ∀ q ∈ xs, q.name.length ≤ 9223372036854775807 := by
  rcases DataW.trod_slice Tryz.underlying23 h with ⟨hcs, _⟩ | ⟨a, len, cap, elems, rest, m, _, hcs, _, _, hl, hm, hlen, hel, _, _⟩
  · exact ⟨.zero, [], hcs, QsS.nil _ _, fun r h => by cases h⟩
  have hE : ∀ i : Fin len, ∃ q : Qs, (∃ b off, a.add (i.1 * 3) = ⟨b, off, none⟩ ∧ W.rangeAt b off (qsv q).toList) ∧ q.name.length ≤ 9223372036854775807 := fun i => by
    have hb := hel i.1 i.2
    rw [cells_qs, List.getElem?_eq_getElem (by rw [hlen]; exact i.2), Option.bind_eq_some_iff] at hb
    obtain ⟨cs, hcs, hy⟩ := hb
    obtain ⟨q, rfl, h1⟩ := question_cells hy
    unfold maxLen at h1
    exact ⟨q, cells_at hcs (by decide), by omega⟩
  obtain ⟨f, hf⟩ : ∃ f : Fin len → Qs, ∀ i, (∃ b off, a.add (i.1 * 3) = ⟨b, off, none⟩ ∧ W.rangeAt b off (qsv (f i)).toList) ∧ (f i).name.length ≤ 9223372036854775807 := ⟨fun i => Classical.choose (hE i), fun i => Classical.choose_spec (hE i)⟩
  refine ⟨⟨some a, len, cap⟩, List.ofFn f, hcs, ⟨by simp, hl, hm, (fun h => by cases h), fun i q hq => ?_⟩, fun q hq => ?_⟩
  · have hi : i < len := by have := (List.getElem?_eq_some_iff.1 hq).1; simpa using this
    rw [List.getElem?_ofFn, dif_pos hi] at hq
    cases hq
    obtain ⟨⟨b0, o0, ha0, _⟩, _⟩ := hf ⟨0, by omega⟩
    have ha1 := add_zero_of (show a.add 0 = _ by rw [← ha0, Nat.zero_mul])
    subst ha1
    obtain ⟨⟨b, off, ha, hra⟩, _⟩ := hf ⟨i, hi⟩
    obtain ⟨rfl, rfl⟩ := add_of ha
    exact ⟨b, o0, rfl, hra, Nat.zero_le _⟩
  · obtain ⟨i, rfl⟩ := List.mem_ofFn.1 hq
    exact (hf i).2
theorem cells_ms : Tryz.prog.cellsOf 26 = 9 := by kernel_rfl
theorem cells_qsl : Tryz.prog.cellsOf 23 = 1 := by kernel_rfl
theorem cells_rcl : Tryz.prog.cellsOf 24 = 1 := by kernel_rfl
theorem message_of {H : Type} {enc : TypeId × Value → H} {W : World} {base : Nat} {v : Value} {d : DataW H} {ps : List MemPlace} (hv : Value.okWide Tryz.prog W .any base 26 v) (h : DataW.Trod enc Tryz.prog W 0 (fun _ => true) true 26 v d ps) :
    ∃ (sq sa su se : Sl) (m : Ms), v = .agg (msv m.h sq sa su se) ∧ MsM 0 W sq sa su se m ∧ ArgM m := by
  obtain ⟨cs, rfl, _⟩ := okWide_struct Tryz.underlying26 hv
  obtain ⟨fuel, hf⟩ := h
  have e0 : (Value.cells (.agg cs)).toList = cs.toList := by simp [Value.cells]
  rw [e0] at hf
  obtain ⟨xs, m, _, _, hlen, hxl, hg⟩ := DataW.trod_struct Tryz.underlying26 hf
  rw [cells_ms] at hlen
  obtain ⟨l, hl⟩ : ∃ l, cs.toList = l := ⟨_, rfl⟩
  rw [hl] at hlen hg
  have hx9 : xs.length = 9 := hxl
  obtain ⟨y0, y1, y2, y3, y4, y5, y6, y7, y8, rfl⟩ : ∃ y0 y1 y2 y3 y4 y5 y6 y7 y8, xs = [y0, y1, y2, y3, y4, y5, y6, y7, y8] := by
    match xs, hx9 with
    | [y0, y1, y2, y3, y4, y5, y6, y7, y8], _ => exact ⟨_, _, _, _, _, _, _, _, _, rfl⟩
  have g0 : DataW.trod enc Tryz.prog W 0 (fun _ => true) true m 3 ((l.drop 0).take (Tryz.prog.cellsOf 3)) = some y0 := hg 0 _ rfl
  have g1 : DataW.trod enc Tryz.prog W 0 (fun _ => true) true m 4 ((l.drop 1).take (Tryz.prog.cellsOf 4)) = some y1 := hg 1 _ rfl
  have g2 : DataW.trod enc Tryz.prog W 0 (fun _ => true) true m 3 ((l.drop 2).take (Tryz.prog.cellsOf 3)) = some y2 := hg 2 _ rfl
  have g3 : DataW.trod enc Tryz.prog W 0 (fun _ => true) true m 3 ((l.drop 3).take (Tryz.prog.cellsOf 3)) = some y3 := hg 3 _ rfl
  have g4 : DataW.trod enc Tryz.prog W 0 (fun _ => true) true m 3 ((l.drop 4).take (Tryz.prog.cellsOf 3)) = some y4 := hg 4 _ rfl
  have g5 : DataW.trod enc Tryz.prog W 0 (fun _ => true) true m 23 ((l.drop 5).take (Tryz.prog.cellsOf 23)) = some y5 := hg 5 _ rfl
  have g6 : DataW.trod enc Tryz.prog W 0 (fun _ => true) true m 24 ((l.drop 6).take (Tryz.prog.cellsOf 24)) = some y6 := hg 6 _ rfl
  have g7 : DataW.trod enc Tryz.prog W 0 (fun _ => true) true m 24 ((l.drop 7).take (Tryz.prog.cellsOf 24)) = some y7 := hg 7 _ rfl
  have g8 : DataW.trod enc Tryz.prog W 0 (fun _ => true) true m 24 ((l.drop 8).take (Tryz.prog.cellsOf 24)) = some y8 := hg 8 _ rfl
  rw [cells_i64, List.drop_zero] at g0
  rw [cells_bool] at g1
  rw [cells_i64] at g2 g3 g4
  rw [cells_qsl] at g5
  rw [cells_rcl] at g6 g7 g8
  obtain ⟨z0, e0, _, _⟩ := DataW.trod_int Tryz.underlying3 g0
  obtain ⟨z1, e1, _⟩ := DataW.trod_bool Tryz.underlying4 g1
  obtain ⟨z2, e2, _, _⟩ := DataW.trod_int Tryz.underlying3 g2
  obtain ⟨z3, e3, _, _⟩ := DataW.trod_int Tryz.underlying3 g3
  obtain ⟨z4, e4, _, _⟩ := DataW.trod_int Tryz.underlying3 g4
  obtain ⟨sq, qs, e5, hq, kq⟩ := questions_cells g5
  obtain ⟨sa, an, e6, ha, ka⟩ := records_cells g6
  obtain ⟨su, au, e7, hu, ku⟩ := records_cells g7
  obtain ⟨se, ex, e8, he, ke⟩ := records_cells g8
  refine ⟨sq, sa, su, se, ⟨⟨z0, z1, z2, z3, z4⟩, qs, an, au, ex⟩, ?_, ⟨hq, ha, hu, he⟩, ⟨kq, ka, ku, ke⟩⟩
  congr 1
  apply Array.toList_inj.1
  have d0 : l = l.take 1 ++ l.drop 1 := (List.take_append_drop 1 l).symm
  have d1 : l.drop 1 = (l.drop 1).take 1 ++ l.drop 2 := by rw [← List.drop_drop (i := 1) (j := 1), List.take_append_drop]
  have d2 : l.drop 2 = (l.drop 2).take 1 ++ l.drop 3 := by rw [← List.drop_drop (i := 1) (j := 2), List.take_append_drop]
  have d3 : l.drop 3 = (l.drop 3).take 1 ++ l.drop 4 := by rw [← List.drop_drop (i := 1) (j := 3), List.take_append_drop]
  have d4 : l.drop 4 = (l.drop 4).take 1 ++ l.drop 5 := by rw [← List.drop_drop (i := 1) (j := 4), List.take_append_drop]
  have d5 : l.drop 5 = (l.drop 5).take 1 ++ l.drop 6 := by rw [← List.drop_drop (i := 1) (j := 5), List.take_append_drop]
  have d6 : l.drop 6 = (l.drop 6).take 1 ++ l.drop 7 := by rw [← List.drop_drop (i := 1) (j := 6), List.take_append_drop]
  have d7 : l.drop 7 = (l.drop 7).take 1 ++ l.drop 8 := by rw [← List.drop_drop (i := 1) (j := 7), List.take_append_drop]
  have d8 : l.drop 8 = (l.drop 8).take 1 := (List.take_of_length_le (by rw [List.length_drop]; omega)).symm
  rw [hl, d0, d1, d2, d3, d4, d5, d6, d7, d8, e0, e1, e2, e3, e4, e5, e6, e7, e8]
  rfl
end Go.Proofs.YtbikifaadpijnaaGreatDoor
