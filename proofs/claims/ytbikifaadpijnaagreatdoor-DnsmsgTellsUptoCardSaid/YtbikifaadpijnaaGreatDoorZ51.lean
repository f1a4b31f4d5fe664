/-
  An api.Message among the arguments, with how much it holds: for bounded statements. No conditions.
-/
import Derived.Test.YtbikifaadpijnaaGreatDoorZ50
import Derived.Test.YtbikifaadpijnaaGreatDoorZ46
import Derived.Test.YtbikifaadpijnaaGreatDoorRows
import Derived.Stop.Joined
import Derived.Deep.DeepHandedRow
namespace Go.Proofs.YtbikifaadpijnaaGreatDoor
open Go.ChangeShapes Go.WideShapes Go.RowKit
set_option maxRecDepth 100000

theorem bulk_one {H : Type} (d : DataW H) : 1 ≤ Rows.uptoBulk d := by
  cases d with
  | lit l => cases l <;> simp [Rows.uptoBulk]
  | _ => simp [Rows.uptoBulk]
theorem bulk_len {H : Type} : ∀ (l : List (DataW H)), l.length ≤ Rows.uptoBulkAll l
  | [] => by simp [Rows.uptoBulkAll]
  | d :: l => by
    have h1 := bulk_one d
    have h2 := bulk_len l
    simp only [Rows.uptoBulkAll, List.length_cons]
    omega
theorem bytes_bulk {H : Type} {enc : TypeId × Value → H} {W : World} {fuel : Nat} {cs : List Value} {x : DataW H × List MemPlace} (h : DataW.trod enc Tryz.prog W 0 (fun _ => true) true fuel 22 cs = some x) {A : Option Addr} {n c : Nat} (hc : cs = [.slice A n c]) : n + 1 ≤ Rows.uptoBulk x.1 := by
  rcases DataW.trod_slice Tryz.underlying22 h with ⟨hcs, _⟩ | ⟨a, len, cap, elems, rest, m, _, hcs, hx, _, _, _, hlen, _, _, _⟩
  · rw [hc] at hcs
    cases hcs
    exact bulk_one _
  · rw [hc] at hcs
    cases hcs
    rw [hx]
    have h1 := bulk_len (elems.map (·.1))
    rw [List.length_map, hlen] at h1
    simp only [Rows.uptoBulk]
    omega
theorem sumR_append (xs ys : List Rc) : sumR (xs ++ ys) = sumR xs + sumR ys := by simp [sumR]
theorem sumR_bulk {H : Type} : ∀ (xs : List Rc) (ds : List (DataW H)), xs.length = ds.length → (∀ (i : Nat) r d, xs[i]? = some r → ds[i]? = some d → r.name.length + r.target.length + r.data.length + 8 ≤ Rows.uptoBulk d) → sumR xs + 8 * xs.length ≤ Rows.uptoBulkAll ds
  | [], [], _, _ => by simp [sumR, Rows.uptoBulkAll]
  | [], _ :: _, h, _ => by simp at h
  | _ :: _, [], h, _ => by simp at h
  | x :: xs, d :: ds, h, hp => by
    have h0 := hp 0 x d rfl rfl
    have h1 := sumR_bulk xs ds (by simpa using h) (fun i r d hr hd => hp (i + 1) r d hr hd)
    have e : sumR (x :: xs) = (x.name.length + x.target.length + x.data.length) + sumR xs := by simp [sumR]
    rw [e]
    simp only [Rows.uptoBulkAll, List.length_cons]
    omega
theorem sumQ_bulk {H : Type} : ∀ (xs : List Qs) (ds : List (DataW H)), xs.length = ds.length → (∀ (i : Nat) q d, xs[i]? = some q → ds[i]? = some d → q.name.length + 1 ≤ Rows.uptoBulk d) → sumQ xs + xs.length ≤ Rows.uptoBulkAll ds
  | [], [], _, _ => by simp [sumQ, Rows.uptoBulkAll]
  | [], _ :: _, h, _ => by simp at h
  | _ :: _, [], h, _ => by simp at h
  | x :: xs, d :: ds, h, hp => by
    have h0 := hp 0 x d rfl rfl
    have h1 := sumQ_bulk xs ds (by simpa using h) (fun i r d hr hd => hp (i + 1) r d hr hd)
    have e : sumQ (x :: xs) = x.name.length + sumQ xs := by simp [sumQ]
    rw [e]
    simp only [Rows.uptoBulkAll, List.length_cons]
    omega
theorem record_cellsB {H : Type} {enc : TypeId × Value → H} {W : World} {fuel : Nat} {l : List Value} {y : DataW H × List MemPlace} (hf : DataW.trod enc Tryz.prog W 0 (fun _ => true) true fuel 57 l = some y) :
    ∃ (r : Rc) (A : Option Addr) (n c : Nat), l = (rcv r A n c).toList ∧ r.ok ∧ Bs W A n c r.data ∧ (0 ≤ r.ttl ∧ r.ttl < 4294967296) ∧ r.name.length ≤ maxLen ∧ r.target.length ≤ maxLen ∧ r.name.length + r.target.length + r.data.length + 8 ≤ Rows.uptoBulk y.1 := by
  obtain ⟨xs, m, _, hd, hlen, hxl, hg⟩ := DataW.trod_struct Tryz.underlying57 hf
  rw [cells_rc] at hlen
  have hx7 : xs.length = 7 := hxl
  obtain ⟨y0, y1, y2, y3, y4, y5, y6, rfl⟩ : ∃ y0 y1 y2 y3 y4 y5 y6, xs = [y0, y1, y2, y3, y4, y5, y6] := by
    match xs, hx7 with
    | [y0, y1, y2, y3, y4, y5, y6], _ => exact ⟨_, _, _, _, _, _, _, rfl⟩
  have g0 : DataW.trod enc Tryz.prog W 0 (fun _ => true) true m 9 ((l.drop 0).take (Tryz.prog.cellsOf 9)) = some y0 := hg 0 _ rfl
  have g1 : DataW.trod enc Tryz.prog W 0 (fun _ => true) true m 3 ((l.drop 1).take (Tryz.prog.cellsOf 3)) = some y1 := hg 1 _ rfl
  have g2 : DataW.trod enc Tryz.prog W 0 (fun _ => true) true m 3 ((l.drop 2).take (Tryz.prog.cellsOf 3)) = some y2 := hg 2 _ rfl
  have g3 : DataW.trod enc Tryz.prog W 0 (fun _ => true) true m 52 ((l.drop 3).take (Tryz.prog.cellsOf 52)) = some y3 := hg 3 _ rfl
  have g4 : DataW.trod enc Tryz.prog W 0 (fun _ => true) true m 55 ((l.drop 4).take (Tryz.prog.cellsOf 55)) = some y4 := hg 4 _ rfl
  have g5 : DataW.trod enc Tryz.prog W 0 (fun _ => true) true m 9 ((l.drop 21).take (Tryz.prog.cellsOf 9)) = some y5 := hg 5 _ rfl
  have g6 : DataW.trod enc Tryz.prog W 0 (fun _ => true) true m 22 ((l.drop 22).take (Tryz.prog.cellsOf 22)) = some y6 := hg 6 _ rfl
  rw [cells_str, List.drop_zero] at g0
  rw [cells_str] at g5
  rw [cells_i64] at g1 g2
  rw [cells_u32] at g3
  rw [cells_ad] at g4
  rw [cells_bs] at g6
  obtain ⟨s0, e0, y0e, r0⟩ := DataW.trod_string Tryz.underlying9 g0
  obtain ⟨z1, e1, _, _⟩ := DataW.trod_int Tryz.underlying3 g1
  obtain ⟨z2, e2, _, _⟩ := DataW.trod_int Tryz.underlying3 g2
  obtain ⟨z3, e3, _, r3⟩ := DataW.trod_int Tryz.underlying52 g3
  obtain ⟨v6, b, e4, hb4⟩ := ad_cells g4
  obtain ⟨s5, e5, y5e, r5⟩ := DataW.trod_string Tryz.underlying9 g5
  obtain ⟨A, n, c, k, e6, hb⟩ := bytes_cells g6
  have q3 := u32_range r3
  have hn6 := bytes_bulk g6 e6
  have hbulk : s0.data.toList.length + s5.data.toList.length + k.length + 8 ≤ Rows.uptoBulk y.1 := by
    have b1 := bulk_one y1.1
    have b2 := bulk_one y2.1
    have b3 := bulk_one y3.1
    have b4 := bulk_one y4.1
    have hk6 := hb.len
    rw [hd, y0e, y5e]
    simp only [List.map_cons, List.map_nil, Rows.uptoBulk, Rows.uptoBulkAll]
    omega
  refine ⟨⟨s0.data.toList, z1, z2, z3, v6, b, s5.data.toList, k⟩, A, n, c, ?_, hb4, hb, ⟨q3.1, by dsimp only; omega⟩, by dsimp only; rw [← Lib.size_eq]; exact r0, by dsimp only; rw [← Lib.size_eq]; exact r5, hbulk⟩
  have d0 : l = l.take 1 ++ l.drop 1 := (List.take_append_drop 1 l).symm
  have d1 : l.drop 1 = (l.drop 1).take 1 ++ l.drop 2 := by rw [← List.drop_drop (i := 1) (j := 1), List.take_append_drop]
  have d2 : l.drop 2 = (l.drop 2).take 1 ++ l.drop 3 := by rw [← List.drop_drop (i := 1) (j := 2), List.take_append_drop]
  have d3 : l.drop 3 = (l.drop 3).take 1 ++ l.drop 4 := by rw [← List.drop_drop (i := 1) (j := 3), List.take_append_drop]
  have d4 : l.drop 4 = (l.drop 4).take 17 ++ l.drop 21 := by rw [← List.drop_drop (i := 17) (j := 4), List.take_append_drop]
  have d5 : l.drop 21 = (l.drop 21).take 1 ++ l.drop 22 := by rw [← List.drop_drop (i := 1) (j := 21), List.take_append_drop]
  have d6 : l.drop 22 = (l.drop 22).take 1 := (List.take_of_length_le (by rw [List.length_drop]; omega)).symm
  rw [d0, d1, d2, d3, d4, d5, d6, e0, e1, e2, e3, e4, e5, e6, rcv_list]
  dsimp only
  rw [mkS_back, mkS_back]
  simp
theorem question_cellsB {H : Type} {enc : TypeId × Value → H} {W : World} {fuel : Nat} {l : List Value} {y : DataW H × List MemPlace} (hf : DataW.trod enc Tryz.prog W 0 (fun _ => true) true fuel 51 l = some y) :
    ∃ q : Qs, l = (qsv q).toList ∧ q.name.length ≤ maxLen ∧ q.name.length + 1 ≤ Rows.uptoBulk y.1 := by
  obtain ⟨xs, m, _, hd, hlen, hxl, hg⟩ := DataW.trod_struct Tryz.underlying51 hf
  rw [cells_qs] at hlen
  have hx3 : xs.length = 3 := hxl
  obtain ⟨y0, y1, y2, rfl⟩ : ∃ y0 y1 y2, xs = [y0, y1, y2] := by
    match xs, hx3 with
    | [y0, y1, y2], _ => exact ⟨_, _, _, rfl⟩
  have g0 : DataW.trod enc Tryz.prog W 0 (fun _ => true) true m 9 ((l.drop 0).take (Tryz.prog.cellsOf 9)) = some y0 := hg 0 _ rfl
  have g1 : DataW.trod enc Tryz.prog W 0 (fun _ => true) true m 3 ((l.drop 1).take (Tryz.prog.cellsOf 3)) = some y1 := hg 1 _ rfl
  have g2 : DataW.trod enc Tryz.prog W 0 (fun _ => true) true m 3 ((l.drop 2).take (Tryz.prog.cellsOf 3)) = some y2 := hg 2 _ rfl
  rw [cells_str, List.drop_zero] at g0
  rw [cells_i64] at g1 g2
  obtain ⟨s0, e0, y0e, r0⟩ := DataW.trod_string Tryz.underlying9 g0
  obtain ⟨z1, e1, _, _⟩ := DataW.trod_int Tryz.underlying3 g1
  obtain ⟨z2, e2, _, _⟩ := DataW.trod_int Tryz.underlying3 g2
  have hbulk : s0.data.toList.length + 1 ≤ Rows.uptoBulk y.1 := by
    rw [hd, y0e]
    simp only [List.map_cons, List.map_nil, Rows.uptoBulk, Rows.uptoBulkAll]
    omega
  refine ⟨⟨s0.data.toList, z1, z2⟩, ?_, by dsimp only; rw [← Lib.size_eq]; exact r0, hbulk⟩
  have d0 : l = l.take 1 ++ l.drop 1 := (List.take_append_drop 1 l).symm
  have d1 : l.drop 1 = (l.drop 1).take 1 ++ l.drop 2 := by rw [← List.drop_drop (i := 1) (j := 1), List.take_append_drop]
  have d2 : l.drop 2 = (l.drop 2).take 1 := (List.take_of_length_le (by rw [List.length_drop]; omega)).symm
  rw [d0, d1, d2, e0, e1, e2]
  unfold qsv
  dsimp only
  rw [mkS_back]
  rfl
theorem rcAt_cellsB {H : Type} {enc : TypeId × Value → H} {W : World} {fuel : Nat} {a : Addr} {cs : List Value} {y : DataW H × List MemPlace} (hcs : W.cells? 0 a 23 = some cs) (hy : DataW.trod enc Tryz.prog W 0 (fun _ => true) true fuel 57 cs = some y) : ∃ r, RcAt W a r ∧ r.name.length + r.target.length + r.data.length + 8 ≤ Rows.uptoBulk y.1 := by
  obtain ⟨r, B, k, d, e, ok, hB, ht, h1, h2, h3⟩ := record_cellsB hy
  obtain ⟨b, off, ha, hr⟩ := cells_at hcs (by decide)
  rw [e] at hr
  unfold maxLen at h1 h2
  exact ⟨r, ⟨B, k, d, ⟨b, off, ha, hr⟩, ok, hB, ht, by omega, by omega⟩, h3⟩
theorem records_cellsB {H : Type} {enc : TypeId × Value → H} {W : World} {fuel : Nat} {l : List Value} {y : DataW H × List MemPlace} (h : DataW.trod enc Tryz.prog W 0 (fun _ => true) true fuel 24 l = some y) :
    ∃ (s : Sl) (xs : List Rc), l = [.slice s.A s.n s.c] ∧ RcS 0 W s.A s.n s.c xs ∧ (∀ r ∈ xs, Rec1 r) ∧ sumR xs + 8 * xs.length ≤ Rows.uptoBulk y.1 := by
  rcases DataW.trod_slice Tryz.underlying24 h with ⟨hcs, _⟩ | ⟨a, len, cap, elems, rest, m, _, hcs, hyv, _, hl, hm, hlen, hel, _, _⟩
  · exact ⟨.zero, [], hcs, RcS.nil _ _, (fun r h => by cases h), by simp [sumR]⟩
  rw [cells_rc] at hel
  have hE : ∀ i : Fin len, ∃ r : Rc, RcAt W (a.add (i.1 * 23)) r ∧ ∀ e, elems[i.1]? = some e → r.name.length + r.target.length + r.data.length + 8 ≤ Rows.uptoBulk e.1 := fun i => by
    have hb := hel i.1 i.2
    rw [List.getElem?_eq_getElem (by rw [hlen]; exact i.2), Option.bind_eq_some_iff] at hb
    obtain ⟨cs, hcs, hy⟩ := hb
    obtain ⟨r, h1, h2⟩ := rcAt_cellsB hcs hy
    refine ⟨r, h1, fun e he => ?_⟩
    rw [List.getElem?_eq_getElem (by rw [hlen]; exact i.2)] at he
    rw [← Option.some.inj he]
    exact h2
  clear hel h
  obtain ⟨f, hf0⟩ : ∃ f : Fin len → Rc, ∀ i : Fin len, RcAt W (a.add (i.1 * 23)) (f i) ∧ ∀ e, elems[i.1]? = some e → (f i).name.length + (f i).target.length + (f i).data.length + 8 ≤ Rows.uptoBulk e.1 := ⟨fun i => Classical.choose (hE i), fun i => Classical.choose_spec (hE i)⟩
  have hf : ∀ i : Fin len, RcAt W (a.add (i.1 * 23)) (f i) := fun i => (hf0 i).1
  refine ⟨⟨some a, len, cap⟩, List.ofFn f, hcs, ⟨by simp, hl, hm, (fun h => by cases h), fun r hr => ?_, fun i r hr => ?_⟩, fun r hr => ?_, ?_⟩
  · obtain ⟨i, rfl⟩ := List.mem_ofFn.1 hr
    exact (hf i).ok.1
  · have hi : i < len := by have := (List.getElem?_eq_some_iff.1 hr).1; simpa using this
    rw [List.getElem?_ofFn, dif_pos hi] at hr
    cases hr
    obtain ⟨_, _, b0, o0, ha0⟩ := (hf ⟨0, by omega⟩).ok
    have ha1 := add_zero_of (show a.add 0 = _ by rw [← ha0, Nat.zero_mul])
    subst ha1
    exact (hf ⟨i, hi⟩).here
  · obtain ⟨i, rfl⟩ := List.mem_ofFn.1 hr
    exact (hf i).ok.2.1
  · have h := sumR_bulk (List.ofFn f) (elems.map (·.1)) (by simp [hlen]) (fun i r d hr hd => by
      have hi : i < len := by have := (List.getElem?_eq_some_iff.1 hr).1; simpa using this
      rw [List.getElem?_ofFn, dif_pos hi] at hr
      cases hr
      rw [List.getElem?_map] at hd
      cases he : elems[i]? with
      | none => rw [he] at hd; simp at hd
      | some e =>
        rw [he] at hd
        simp only [Option.map_some, Option.some.injEq] at hd
        rw [← hd]
        exact (hf0 ⟨i, hi⟩).2 e he)
    rw [hyv]
    simp only [Rows.uptoBulk]
    omega
theorem questions_cellsB {H : Type} {enc : TypeId × Value → H} {W : World} {fuel : Nat} {l : List Value} {y : DataW H × List MemPlace} (h : DataW.trod enc Tryz.prog W 0 (fun _ => true) true fuel 23 l = some y) :
    ∃ (s : Sl) (xs : List Qs), l = [.slice s.A s.n s.c] ∧ QsS 0 W s.A s.n s.c xs ∧ (∀ q ∈ xs, q.name.length ≤ 9223372036854775807) ∧ sumQ xs + xs.length ≤ Rows.uptoBulk y.1 := by
  rcases DataW.trod_slice Tryz.underlying23 h with ⟨hcs, _⟩ | ⟨a, len, cap, elems, rest, m, _, hcs, hyv, _, hl, hm, hlen, hel, _, _⟩
  · exact ⟨.zero, [], hcs, QsS.nil _ _, (fun r h => by cases h), by simp [sumQ]⟩
  have hE : ∀ i : Fin len, ∃ q : Qs, (∃ b off, a.add (i.1 * 3) = ⟨b, off, none⟩ ∧ W.rangeAt b off (qsv q).toList) ∧ q.name.length ≤ 9223372036854775807 ∧ ∀ e, elems[i.1]? = some e → q.name.length + 1 ≤ Rows.uptoBulk e.1 := fun i => by
    have hb := hel i.1 i.2
    rw [cells_qs, List.getElem?_eq_getElem (by rw [hlen]; exact i.2), Option.bind_eq_some_iff] at hb
    obtain ⟨cs, hcs, hy⟩ := hb
    obtain ⟨q, rfl, h1, h2⟩ := question_cellsB hy
    unfold maxLen at h1
    refine ⟨q, cells_at hcs (by decide), by omega, fun e he => ?_⟩
    rw [List.getElem?_eq_getElem (by rw [hlen]; exact i.2)] at he
    rw [← Option.some.inj he]
    exact h2
  obtain ⟨f, hf⟩ : ∃ f : Fin len → Qs, ∀ i, (∃ b off, a.add (i.1 * 3) = ⟨b, off, none⟩ ∧ W.rangeAt b off (qsv (f i)).toList) ∧ (f i).name.length ≤ 9223372036854775807 ∧ ∀ e, elems[i.1]? = some e → (f i).name.length + 1 ≤ Rows.uptoBulk e.1 := ⟨fun i => Classical.choose (hE i), fun i => Classical.choose_spec (hE i)⟩
  refine ⟨⟨some a, len, cap⟩, List.ofFn f, hcs, ⟨by simp, hl, hm, (fun h => by cases h), fun i q hq => ?_⟩, fun q hq => ?_, ?_⟩
  · have hi : i < len := by have := (List.getElem?_eq_some_iff.1 hq).1; simpa using this
    rw [List.getElem?_ofFn, dif_pos hi] at hq
    cases hq
    obtain ⟨⟨b0, o0, ha0, _⟩, _⟩ := hf ⟨0, by omega⟩
    have ha1 := add_zero_of (show a.add 0 = _ by rw [← ha0, Nat.zero_mul])
    subst ha1
    obtain ⟨⟨b, off, ha, hra⟩, _⟩ := hf ⟨i, hi⟩
    obtain ⟨rfl, rfl⟩ := add_of ha
    exact ⟨b, o0, rfl, hra, Nat.zero_le _⟩
  · obtain ⟨i, rfl⟩ := List.mem_ofFn.1 hq
    exact (hf i).2.1
  · have h := sumQ_bulk (List.ofFn f) (elems.map (·.1)) (by simp [hlen]) (fun i r d hr hd => by
      have hi : i < len := by have := (List.getElem?_eq_some_iff.1 hr).1; simpa using this
      rw [List.getElem?_ofFn, dif_pos hi] at hr
      cases hr
      rw [List.getElem?_map] at hd
      cases he : elems[i]? with
      | none => rw [he] at hd; simp at hd
      | some e =>
        rw [he] at hd
        simp only [Option.map_some, Option.some.injEq] at hd
        rw [← hd]
        exact (hf ⟨i, hi⟩).2.2 e he)
    rw [hyv]
    simp only [Rows.uptoBulk]
    omega
theorem message_ofB {H : Type} {enc : TypeId × Value → H} {W : World} {base : Nat} {v : Value} {d : DataW H} {ps : List MemPlace} (hv : Value.okWide Tryz.prog W .any base 26 v) (h : DataW.Trod enc Tryz.prog W 0 (fun _ => true) true 26 v d ps) :
    ∃ (sq sa su se : Sl) (m : Ms), v = .agg (msv m.h sq sa su se) ∧ MsM 0 W sq sa su se m ∧ ArgM m ∧ sumR (recs m) + 8 * (recs m).length + (sumQ m.qs + m.qs.length) ≤ Rows.uptoBulk d := by
  obtain ⟨cs, rfl, _⟩ := okWide_struct Tryz.underlying26 hv
  obtain ⟨fuel, hf⟩ := h
  have e0 : (Value.cells (.agg cs)).toList = cs.toList := by simp [Value.cells]
  rw [e0] at hf
  obtain ⟨xs, m, _, hd, hlen, hxl, hg⟩ := DataW.trod_struct Tryz.underlying26 hf
  rw [cells_ms] at hlen
  obtain ⟨l, hl⟩ : ∃ l, cs.toList = l := ⟨_, rfl⟩
  rw [hl] at hlen hg
  have hx9 : xs.length = 9 := hxl
  obtain ⟨y0, y1, y2, y3, y4, y5, y6, y7, y8, rfl⟩ : ∃ y0 y1 y2 y3 y4 y5 y6 y7 y8, xs = [y0, y1, y2, y3, y4, y5, y6, y7, y8] := by
    match xs, hx9 with
    | [y0, y1, y2, y3, y4, y5, y6, y7, y8], _ => exact ⟨_, _, _, _, _, _, _, _, _, rfl⟩
  have g0 : DataW.trod enc Tryz.prog W 0 (fun _ => true) true m 3 ((l.drop 0).take (Tryz.prog.cellsOf 3)) = some y0 := hg 0 _ rfl
  have g1 : DataW.trod enc Tryz.prog W 0 (fun _ => true) true m 4 ((l.drop 1).take (Tryz.prog.cellsOf 4)) = some y1 := hg 1 _ rfl
  have g2 : DataW.trod enc Tryz.prog W 0 (fun _ => true) true m 3 ((l.drop 2).take (Tryz.prog.cellsOf 3)) = some y2 := hg 2 _ rfl
  have g3 : DataW.trod enc Tryz.prog W 0 (fun _ => true) true m 3 ((l.drop 3).take (Tryz.prog.cellsOf 3)) = some y3 := hg 3 _ rfl
  have g4 : DataW.trod enc Tryz.prog W 0 (fun _ => true) true m 3 ((l.drop 4).take (Tryz.prog.cellsOf 3)) = some y4 := hg 4 _ rfl
  have g5 : DataW.trod enc Tryz.prog W 0 (fun _ => true) true m 23 ((l.drop 5).take (Tryz.prog.cellsOf 23)) = some y5 := hg 5 _ rfl
  have g6 : DataW.trod enc Tryz.prog W 0 (fun _ => true) true m 24 ((l.drop 6).take (Tryz.prog.cellsOf 24)) = some y6 := hg 6 _ rfl
  have g7 : DataW.trod enc Tryz.prog W 0 (fun _ => true) true m 24 ((l.drop 7).take (Tryz.prog.cellsOf 24)) = some y7 := hg 7 _ rfl
  have g8 : DataW.trod enc Tryz.prog W 0 (fun _ => true) true m 24 ((l.drop 8).take (Tryz.prog.cellsOf 24)) = some y8 := hg 8 _ rfl
  rw [cells_i64, List.drop_zero] at g0
  rw [cells_bool] at g1
  rw [cells_i64] at g2 g3 g4
  rw [cells_qsl] at g5
  rw [cells_rcl] at g6 g7 g8
  obtain ⟨z0, e0, _, _⟩ := DataW.trod_int Tryz.underlying3 g0
  obtain ⟨z1, e1, _⟩ := DataW.trod_bool Tryz.underlying4 g1
  obtain ⟨z2, e2, _, _⟩ := DataW.trod_int Tryz.underlying3 g2
  obtain ⟨z3, e3, _, _⟩ := DataW.trod_int Tryz.underlying3 g3
  obtain ⟨z4, e4, _, _⟩ := DataW.trod_int Tryz.underlying3 g4
  obtain ⟨sq, qs, e5, hq, kq, bq⟩ := questions_cellsB g5
  obtain ⟨sa, an, e6, ha, ka, ba⟩ := records_cellsB g6
  obtain ⟨su, au, e7, hu, ku, bu⟩ := records_cellsB g7
  obtain ⟨se, ex, e8, he, ke, be⟩ := records_cellsB g8
  refine ⟨sq, sa, su, se, ⟨⟨z0, z1, z2, z3, z4⟩, qs, an, au, ex⟩, ?_, ⟨hq, ha, hu, he⟩, ⟨kq, ka, ku, ke⟩, ?_⟩
  rotate_left
  · obtain rfl : d = .agg [y0.1, y1.1, y2.1, y3.1, y4.1, y5.1, y6.1, y7.1, y8.1] := (Prod.mk.inj hd).1
    have e : recs ⟨⟨z0, z1, z2, z3, z4⟩, qs, an, au, ex⟩ = an ++ (au ++ ex) := rfl
    rw [e, sumR_append, sumR_append, List.length_append, List.length_append]
    simp only [Rows.uptoBulk, Rows.uptoBulkAll]
    omega
  congr 1
  apply Array.toList_inj.1
  have d0 : l = l.take 1 ++ l.drop 1 := (List.take_append_drop 1 l).symm
  have d1 : l.drop 1 = (l.drop 1).take 1 ++ l.drop 2 := by rw [← List.drop_drop (i := 1) (j := 1), List.take_append_drop]
  have d2 : l.drop 2 = (l.drop 2).take 1 ++ l.drop 3 := by rw [← List.drop_drop (i := 1) (j := 2), List.take_append_drop]
  have d3 : l.drop 3 = (l.drop 3).take 1 ++ l.drop 4 := by rw [← List.drop_drop (i := 1) (j := 3), List.take_append_drop]
  have d4 : l.drop 4 = (l.drop 4).take 1 ++ l.drop 5 := by rw [← List.drop_drop (i := 1) (j := 4), List.take_append_drop]
  have d5 : l.drop 5 = (l.drop 5).take 1 ++ l.drop 6 := by rw [← List.drop_drop (i := 1) (j := 5), List.take_append_drop]
  have d6 : l.drop 6 = (l.drop 6).take 1 ++ l.drop 7 := by rw [← List.drop_drop (i := 1) (j := 6), List.take_append_drop]
  have d7 : l.drop 7 = (l.drop 7).take 1 ++ l.drop 8 := by rw [← List.drop_drop (i := 1) (j := 7), List.take_append_drop]
  have d8 : l.drop 8 = (l.drop 8).take 1 := (List.take_of_length_le (by rw [List.length_drop]; omega)).symm
  rw [hl, d0, d1, d2, d3, d4, d5, d6, d7, d8, e0, e1, e2, e3, e4, e5, e6, e7, e8]
  rfl
end Go.Proofs.YtbikifaadpijnaaGreatDoor
