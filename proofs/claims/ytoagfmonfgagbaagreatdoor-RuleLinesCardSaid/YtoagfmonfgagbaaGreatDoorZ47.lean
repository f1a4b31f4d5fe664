/-
  
-/
import Derived.Test.YtoagfmonfgagbaaGreatDoorZ20
import Derived.Test.YtoagfmonfgagbaaGreatDoorZ09
import Derived.Test.YtoagfmonfgagbaaGreatDoorZ46
import Derived.ProofKit
import Derived.ChangeMaps5
namespace Go.Proofs.YtoagfmonfgagbaaGreatDoor
open Go.ChangeShapes Go.WideShapes Go.RowKit
set_option maxRecDepth 100000
theorem k19_rw : Tryz.prog.cellsOf 55 = 24 := by kernel_rfl
theorem k19_ad : Tryz.prog.cellsOf 51 = 17 := by kernel_rfl
theorem k19_px : Tryz.prog.cellsOf 53 = 18 := by kernel_rfl
theorem k19_str : Tryz.prog.cellsOf 9 = 1 := by kernel_rfl
theorem k19_i64 : Tryz.prog.cellsOf 3 = 1 := by kernel_rfl
theorem k19_b : Tryz.prog.cellsOf 4 = 1 := by kernel_rfl
theorem k19_rs : Tryz.prog.cellsOf 25 = 2 := by kernel_rfl
theorem k19_as : Tryz.prog.cellsOf 22 = 1 := by kernel_rfl
theorem k19_us : Tryz.prog.cellsOf 23 = 1 := by kernel_rfl
theorem px_cells19 {H : Type} {enc : TypeId × Value → H} {W : World} {fuel : Nat} {l : List Value} {y : DataW H × List MemPlace} (hf : DataW.trod enc Tryz.prog W 0 (fun _ => true) true fuel 53 l = some y) : ∃ (v6 : Bool) (bs : List UInt8) (n : Int), l = (pxv v6 bs n).toList ∧ bs.length = 16 := by
  obtain ⟨xs, n, _, _, hlen, hxl, hg⟩ := DataW.trod_struct Tryz.underlying53 hf
  rw [k19_px] at hlen
  have hx2 : xs.length = 2 := hxl
  obtain ⟨y0, y1, rfl⟩ : ∃ y0 y1, xs = [y0, y1] := by
    match xs, hx2 with
    | [y0, y1], _ => exact ⟨_, _, rfl⟩
  have g0 : DataW.trod enc Tryz.prog W 0 (fun _ => true) true n 51 ((l.drop 0).take (Tryz.prog.cellsOf 51)) = some y0 := hg 0 _ rfl
  have g1 : DataW.trod enc Tryz.prog W 0 (fun _ => true) true n 3 ((l.drop 17).take (Tryz.prog.cellsOf 3)) = some y1 := hg 1 _ rfl
  rw [k19_ad, List.drop_zero] at g0
  rw [k19_i64] at g1
  obtain ⟨v6, bs, e0, hl⟩ := ad_cells g0
  obtain ⟨z, e1, _, _⟩ := DataW.trod_int Tryz.underlying3 g1
  refine ⟨v6, bs, z, ?_, hl⟩
  have h2 : l.drop 17 = (l.drop 17).take 1 := (List.take_of_length_le (by rw [List.length_drop]; omega)).symm
  rw [← List.take_append_drop 17 l, h2, e0, e1]
  simp [pxv]
theorem addr_cell19 {H : Type} {enc : TypeId × Value → H} {W : World} {fuel : Nat} {l : List Value} {y : DataW H × List MemPlace} (hf : DataW.trod enc Tryz.prog W 0 (fun _ => true) true fuel 51 l = some y) : ∃ r : Ad19, l = (a9v r).toList ∧ A9ok r := by
  obtain ⟨v6, bs, e, hl⟩ := ad_cells hf
  refine ⟨(v6, bs), ?_, hl⟩
  rw [e]
  simp [a9v, adv]
theorem rule_cell19 {H : Type} {enc : TypeId × Value → H} {W : World} {fuel : Nat} {l : List Value} {y : DataW H × List MemPlace} (hf : DataW.trod enc Tryz.prog W 0 (fun _ => true) true fuel 55 l = some y) : ∃ r : Rw, l = (rwv r).toList ∧ r.ok ∧ r.name.length ≤ 9223372036854775807 := by
  obtain ⟨xs, m, _, _, hlen, hxl, hg⟩ := DataW.trod_struct Tryz.underlying55 hf
  rw [k19_rw] at hlen
  have hx7 : xs.length = 7 := hxl
  obtain ⟨y0, y1, y2, y3, y4, y5, y6, rfl⟩ : ∃ y0 y1 y2 y3 y4 y5 y6, xs = [y0, y1, y2, y3, y4, y5, y6] := by
    match xs, hx7 with
    | [y0, y1, y2, y3, y4, y5, y6], _ => exact ⟨_, _, _, _, _, _, _, rfl⟩
  have g0 : DataW.trod enc Tryz.prog W 0 (fun _ => true) true m 4 ((l.drop 0).take (Tryz.prog.cellsOf 4)) = some y0 := hg 0 _ rfl
  have g1 : DataW.trod enc Tryz.prog W 0 (fun _ => true) true m 9 ((l.drop 1).take (Tryz.prog.cellsOf 9)) = some y1 := hg 1 _ rfl
  have g2 : DataW.trod enc Tryz.prog W 0 (fun _ => true) true m 4 ((l.drop 2).take (Tryz.prog.cellsOf 4)) = some y2 := hg 2 _ rfl
  have g3 : DataW.trod enc Tryz.prog W 0 (fun _ => true) true m 53 ((l.drop 3).take (Tryz.prog.cellsOf 53)) = some y3 := hg 3 _ rfl
  have g4 : DataW.trod enc Tryz.prog W 0 (fun _ => true) true m 3 ((l.drop 21).take (Tryz.prog.cellsOf 3)) = some y4 := hg 4 _ rfl
  have g5 : DataW.trod enc Tryz.prog W 0 (fun _ => true) true m 3 ((l.drop 22).take (Tryz.prog.cellsOf 3)) = some y5 := hg 5 _ rfl
  have g6 : DataW.trod enc Tryz.prog W 0 (fun _ => true) true m 3 ((l.drop 23).take (Tryz.prog.cellsOf 3)) = some y6 := hg 6 _ rfl
  rw [k19_b, List.drop_zero] at g0
  rw [k19_str] at g1
  rw [k19_b] at g2
  rw [k19_px] at g3
  rw [k19_i64] at g4 g5 g6
  obtain ⟨z0, e0, _⟩ := DataW.trod_bool Tryz.underlying4 g0
  obtain ⟨s1, e1, _, r1⟩ := DataW.trod_string Tryz.underlying9 g1
  obtain ⟨z2, e2, _⟩ := DataW.trod_bool Tryz.underlying4 g2
  obtain ⟨v6, b, n, e3, hb3⟩ := px_cells19 g3
  obtain ⟨z4, e4, _, _⟩ := DataW.trod_int Tryz.underlying3 g4
  obtain ⟨z5, e5, _, _⟩ := DataW.trod_int Tryz.underlying3 g5
  obtain ⟨z6, e6, _, _⟩ := DataW.trod_int Tryz.underlying3 g6
  refine ⟨⟨z0, s1.data.toList, z2, v6, b, n, z4, z5, z6⟩, ?_, hb3, by dsimp only; rw [← Lib.size_eq]; exact r1⟩
  have d0 : l = l.take 1 ++ l.drop 1 := (List.take_append_drop 1 l).symm
  have d1 : l.drop 1 = (l.drop 1).take 1 ++ l.drop 2 := by rw [← List.drop_drop (i := 1) (j := 1), List.take_append_drop]
  have d2 : l.drop 2 = (l.drop 2).take 1 ++ l.drop 3 := by rw [← List.drop_drop (i := 1) (j := 2), List.take_append_drop]
  have d3 : l.drop 3 = (l.drop 3).take 18 ++ l.drop 21 := by rw [← List.drop_drop (i := 18) (j := 3), List.take_append_drop]
  have d4 : l.drop 21 = (l.drop 21).take 1 ++ l.drop 22 := by rw [← List.drop_drop (i := 1) (j := 21), List.take_append_drop]
  have d5 : l.drop 22 = (l.drop 22).take 1 ++ l.drop 23 := by rw [← List.drop_drop (i := 1) (j := 22), List.take_append_drop]
  have d6 : l.drop 23 = (l.drop 23).take 1 := (List.take_of_length_le (by rw [List.length_drop]; omega)).symm
  rw [d0, d1, d2, d3, d4, d5, d6, e0, e1, e2, e3, e4, e5, e6, rwv_list]
  simp [mkS_back]
theorem at19k {W : World} {a : Addr} {n : Nat} {cs : List Value} (h : W.cells? 0 a n = some cs) (hn : 0 < n) : ∃ b off, a = ⟨b, off, none⟩ ∧ W.rangeAt b off cs := by
  obtain ⟨_, h1, h2⟩ := World.cells?_some h
  have h0 := h2 0 hn
  rw [List.getElem?_eq_getElem (by omega)] at h0
  have hs : a.spot = none := by simpa [Addr.add] using World.cell?_spot h0
  obtain ⟨b, off, spot⟩ := a
  simp only at hs
  subst hs
  refine ⟨b, off, rfl, fun j v hj => ?_⟩
  have hlt := (List.getElem?_eq_some_iff.1 hj).1
  have h3 := h2 j (by omega)
  rw [Go.WideShapes.add_plain] at h3
  rw [h3]
  exact hj
theorem zero19k {a : Addr} {b off : Nat} (h : a.add 0 = ⟨b, off, none⟩) : a = ⟨b, off, none⟩ := by simpa [Addr.add] using h
theorem add19k {b0 o0 i b off : Nat} (h : (⟨b0, o0, none⟩ : Addr).add i = ⟨b, off, none⟩) : b = b0 ∧ off = o0 + i := by
  rw [Go.WideShapes.add_plain] at h
  cases h
  exact ⟨rfl, rfl⟩
theorem addrs19 {H : Type} {enc : TypeId × Value → H} {W : World} {fuel : Nat} {l : List Value} {y : DataW H × List MemPlace} (h : DataW.trod enc Tryz.prog W 0 (fun _ => true) true fuel 22 l = some y) :
    ∃ A n c xs, l = [.slice A n c] ∧ A9S W A n c xs := by
  rcases DataW.trod_slice Tryz.underlying22 h with ⟨hcs, _⟩ | ⟨a, len, cap, elems, rest, m, _, hcs, _, _, hl, hm, hlen, hel, _, _⟩
  · exact ⟨none, 0, 0, [], hcs, A9S.nil _⟩
  rw [k19_ad] at hel
  have hE : ∀ i : Fin len, ∃ r, (∃ b off, a.add (i.1 * 17) = ⟨b, off, none⟩ ∧ W.rangeAt b off (a9v r).toList) ∧ A9ok r := fun i => by
    have hb := hel i.1 i.2
    rw [List.getElem?_eq_getElem (by rw [hlen]; exact i.2), Option.bind_eq_some_iff] at hb
    obtain ⟨cs, hcs, hy⟩ := hb
    obtain ⟨r, rfl, hok⟩ := addr_cell19 hy
    exact ⟨r, at19k hcs (by decide), hok⟩
  clear hel h
  obtain ⟨f, hf⟩ : ∃ f : Fin len → _, ∀ i : Fin len, (∃ b off, a.add (i.1 * 17) = ⟨b, off, none⟩ ∧ W.rangeAt b off (a9v (f i)).toList) ∧ A9ok (f i) := ⟨fun i => Classical.choose (hE i), fun i => Classical.choose_spec (hE i)⟩
  have hok : ∀ r ∈ List.ofFn f, A9ok r := fun r hr => by
    obtain ⟨i, rfl⟩ := List.mem_ofFn.1 hr
    exact (hf i).2
  have hst : A9S W (some a) len cap (List.ofFn f) := ⟨by simp, hl, hm, (fun h => by cases h), (fun r hr => hok r hr), fun i r hr => by
    have hi : i < len := by have := (List.getElem?_eq_some_iff.1 hr).1; simpa using this
    rw [List.getElem?_ofFn, dif_pos hi] at hr
    cases hr
    obtain ⟨⟨b0, o0, ha0, _⟩, _⟩ := hf ⟨0, by omega⟩
    have ha1 := zero19k (show a.add 0 = _ by rw [← ha0, Nat.zero_mul])
    subst ha1
    obtain ⟨⟨b, off, ha, hra⟩, _⟩ := hf ⟨i, hi⟩
    obtain ⟨rfl, rfl⟩ := add19k ha
    exact ⟨b, o0, rfl, hra⟩⟩
  exact ⟨some a, len, cap, List.ofFn f, hcs, hst⟩
theorem rules19k {H : Type} {enc : TypeId × Value → H} {W : World} {fuel : Nat} {l : List Value} {y : DataW H × List MemPlace} (h : DataW.trod enc Tryz.prog W 0 (fun _ => true) true fuel 23 l = some y) :
    ∃ A n c xs, l = [.slice A n c] ∧ RwS W A n c xs ∧ ∀ r ∈ xs, r.name.length ≤ 9223372036854775807 := by
  rcases DataW.trod_slice Tryz.underlying23 h with ⟨hcs, _⟩ | ⟨a, len, cap, elems, rest, m, _, hcs, _, _, hl, hm, hlen, hel, _, _⟩
  · exact ⟨none, 0, 0, [], hcs, RwS.nil _, fun r hr => by cases hr⟩
  rw [k19_rw] at hel
  have hE : ∀ i : Fin len, ∃ r, (∃ b off, a.add (i.1 * 24) = ⟨b, off, none⟩ ∧ W.rangeAt b off (rwv r).toList) ∧ (r.ok ∧ r.name.length ≤ 9223372036854775807) := fun i => by
    have hb := hel i.1 i.2
    rw [List.getElem?_eq_getElem (by rw [hlen]; exact i.2), Option.bind_eq_some_iff] at hb
    obtain ⟨cs, hcs, hy⟩ := hb
    obtain ⟨r, rfl, hok⟩ := rule_cell19 hy
    exact ⟨r, at19k hcs (by decide), hok⟩
  clear hel h
  obtain ⟨f, hf⟩ : ∃ f : Fin len → _, ∀ i : Fin len, (∃ b off, a.add (i.1 * 24) = ⟨b, off, none⟩ ∧ W.rangeAt b off (rwv (f i)).toList) ∧ ((f i).ok ∧ (f i).name.length ≤ 9223372036854775807) := ⟨fun i => Classical.choose (hE i), fun i => Classical.choose_spec (hE i)⟩
  have hok : ∀ r ∈ List.ofFn f, (r.ok ∧ r.name.length ≤ 9223372036854775807) := fun r hr => by
    obtain ⟨i, rfl⟩ := List.mem_ofFn.1 hr
    exact (hf i).2
  have hst : RwS W (some a) len cap (List.ofFn f) := ⟨by simp, hl, hm, (fun h => by cases h), (fun r hr => (hok r hr).1), fun i r hr => by
    have hi : i < len := by have := (List.getElem?_eq_some_iff.1 hr).1; simpa using this
    rw [List.getElem?_ofFn, dif_pos hi] at hr
    cases hr
    obtain ⟨⟨b0, o0, ha0, _⟩, _⟩ := hf ⟨0, by omega⟩
    have ha1 := zero19k (show a.add 0 = _ by rw [← ha0, Nat.zero_mul])
    subst ha1
    obtain ⟨⟨b, off, ha, hra⟩, _⟩ := hf ⟨i, hi⟩
    obtain ⟨rfl, rfl⟩ := add19k ha
    exact ⟨b, o0, rfl, hra⟩⟩
  exact ⟨some a, len, cap, List.ofFn f, hcs, hst, fun r hr => (hok r hr).2⟩
theorem rules_of {H : Type} {enc : TypeId × Value → H} {W : World} {base : Nat} {v : Value} {d : DataW H} {ps : List MemPlace} (hv : Value.okWide Tryz.prog W .any base 25 v) (h : DataW.Trod enc Tryz.prog W 0 (fun _ => true) true 25 v d ps) :
    ∃ A1 n1 c1 ss A2 n2 c2 us, v = .agg (rsv (.slice A1 n1 c1) (.slice A2 n2 c2)) ∧ A9S W A1 n1 c1 ss ∧ RwS W A2 n2 c2 us ∧ ∀ r ∈ us, r.name.length ≤ 9223372036854775807 := by
  obtain ⟨cs, rfl, _⟩ := okWide_struct Tryz.underlying25 hv
  obtain ⟨fuel, hf⟩ := h
  have e0 : (Value.cells (.agg cs)).toList = cs.toList := by simp [Value.cells]
  rw [e0] at hf
  obtain ⟨xs, m, _, _, hlen, hxl, hg⟩ := DataW.trod_struct Tryz.underlying25 hf
  rw [k19_rs] at hlen
  obtain ⟨l, hl⟩ : ∃ l, cs.toList = l := ⟨_, rfl⟩
  rw [hl] at hlen hg
  have hx2 : xs.length = 2 := hxl
  obtain ⟨y0, y1, rfl⟩ : ∃ y0 y1, xs = [y0, y1] := by
    match xs, hx2 with
    | [y0, y1], _ => exact ⟨_, _, rfl⟩
  have g0 : DataW.trod enc Tryz.prog W 0 (fun _ => true) true m 22 ((l.drop 0).take (Tryz.prog.cellsOf 22)) = some y0 := hg 0 _ rfl
  have g1 : DataW.trod enc Tryz.prog W 0 (fun _ => true) true m 23 ((l.drop 1).take (Tryz.prog.cellsOf 23)) = some y1 := hg 1 _ rfl
  rw [k19_as, List.drop_zero] at g0
  rw [k19_us] at g1
  obtain ⟨A1, n1, c1, ss, e0, h0⟩ := addrs19 g0
  obtain ⟨A2, n2, c2, us, e1, h1, h2⟩ := rules19k g1
  refine ⟨A1, n1, c1, ss, A2, n2, c2, us, congrArg Value.agg (Array.toList_inj.1 ?_), h0, h1, h2⟩
  have d0 : l = l.take 1 ++ l.drop 1 := (List.take_append_drop 1 l).symm
  have d1 : l.drop 1 = (l.drop 1).take 1 := (List.take_of_length_le (by rw [List.length_drop]; omega)).symm
  rw [hl, d0, d1, e0, e1]
  rfl
end Go.Proofs.YtoagfmonfgagbaaGreatDoor
