/-
  An api.Record, and an api.Question, among the arguments, with the form's own reach: how long their texts may be. No conditions.
-/
import Derived.Test.YtpojiimcdknafaaGreatDoorZ49
import Derived.Test.YtpojiimcdknafaaGreatDoorZ50
import Derived.SizedLaws
namespace Go.Proofs.YtpojiimcdknafaaGreatDoor
open Go.ChangeShapes Go.WideShapes Go.RowKit
set_option maxRecDepth 100000

theorem wrap_and_sized {H : Type} {enc : TypeId × Value → H} {a : Assume} {C : Checked} {os : Os} {f : FuncId} {fn : Func} {s : ChangeSpec} {conds : List PathCond} {apart fresh handsOn again : Bool} {X : World → Array Value → Prop}
    (hX : ∀ (w w' : World) (args : Array Value), w.heap = w'.heap → X w args → X w' args)
    (own : ownKnob C.prog.godebug = none) (started : os.Started) (noInit : C.prog.inits.idxOf? f = none) (hfn : C.prog.funcs[f]? = some fn)
    (witness : ∃ (w : World) (tape : Tape) (i : Input), w.os = os ∧ (w.forCall tape i).Shaped C.prog ∧ i.vars = [] ∧ Input.okWide C.prog (w.forCall tape i) .any w.heap.size f i ∧
      ((s.pre enc C.prog fn conds apart (w.forCall tape i).memory i.args ∧ X (w.forCall tape i).memory i.args) ∧ sizedMet enc C.prog fn (OpenSpec.ofChange s) apart (w.forCall tape i).memory i.args) ∧ a.holds C.prog (lone (Frame.enter C.prog f i.args .normal) [] (w.forCall tape i)))
    (contract : ∀ (W : World) (base : Nat) (args : Array Value) (ds gs : List (DataW H)) (before : List MemPlace),
      (∀ (j : Nat) t v, fn.params[j]? = some t → args[j]? = some v → Value.okWide C.prog W .any base t v) →
      DataW.Whole enc C.prog fn.params.toList s.vars apart W args.toList ds gs before → X W args → W.ShapedOpen C.prog →
      (DataW.weightsEach C.prog (fn.params.toList ++ s.plain.varTypes C.prog) (ds ++ gs)).all (· ≤ reachBytes) = true →
      Calls C.prog f args W fun e W' => ∃ v, e = .returned v ∧ s.post enc C.prog fn apart fresh handsOn again W args v W') :
    ReturnsInHanded a C os f .any (fun w args => (s.pre enc C.prog fn conds apart w args ∧ X w args) ∧ sizedMet enc C.prog fn (OpenSpec.ofChange s) apart w args) (s.post enc C.prog fn apart fresh handsOn again) := by
  refine returnsInHanded_of_calls own started noInit witness ?_
  intro w tape i _ hsh _ hok hpre _
  obtain ⟨_, _, _, fn', hfn', _, _, _, _, hval⟩ := hok
  obtain rfl : fn' = fn := Option.some.inj (hfn'.symm.trans hfn)
  obtain ⟨⟨⟨ds, gs, before, hw, _⟩, hx⟩, hz⟩ := hpre
  refine (contract (w.forCall tape i) w.heap.size i.args ds gs before hval (DataW.Whole.of_heap (w' := w.forCall tape i) (by rfl) hw) (hX _ _ _ (by rfl) hx) hsh (hz.weights hw)).mono fun e W' ⟨v, he, hp⟩ => ?_
  subst he
  exact ChangeSpec.post_blind hp
theorem sized_at {H : Type} {ts : List TypeId} {ds : List (DataW H)} (h : (DataW.weightsEach Tryz.prog ts ds).all (· ≤ reachBytes) = true) (j : Nat) {t : TypeId} {d : DataW H} (ht : ts[j]? = some t) (hd : ds[j]? = some d) : ∀ x ∈ d.weights Tryz.prog t, x ≤ reachBytes := fun x hx => by
  simpa using List.all_eq_true.1 h x (DataW.weights_mem_each ht hd x hx)
theorem record_ofS {H : Type} {enc : TypeId × Value → H} {W : World} {base : Nat} {v : Value} {d : DataW H} {ps : List MemPlace} (hv : Value.okWide Tryz.prog W .any base 28 v) (h : DataW.Trod enc Tryz.prog W 0 (fun _ => true) true 28 v d ps) (hw : ∀ x ∈ d.weights Tryz.prog 28, x ≤ reachBytes) :
    ∃ (r : Rc) (A : Option Addr) (n c : Nat), v = .agg (rcv r A n c) ∧ r.ok ∧ Bs W A n c r.data ∧ (0 ≤ r.ttl ∧ r.ttl < 4294967296) ∧ r.name.length ≤ reachBytes ∧ r.target.length ≤ reachBytes := by
  obtain ⟨cs, rfl, _⟩ := okWide_struct Tryz.underlying28 hv
  obtain ⟨fuel, hf⟩ := h
  have e0 : (Value.cells (.agg cs)).toList = cs.toList := by simp [Value.cells]
  rw [e0] at hf
  obtain ⟨xs, m, _, hd, hlen, hxl, hg⟩ := DataW.trod_struct Tryz.underlying28 hf
  rw [cells_rc] at hlen
  obtain ⟨l, hl⟩ : ∃ l, cs.toList = l := ⟨_, rfl⟩
  rw [hl] at hlen hg
  have hx7 : xs.length = 7 := hxl
  obtain ⟨y0, y1, y2, y3, y4, y5, y6, rfl⟩ : ∃ y0 y1 y2 y3 y4 y5 y6, xs = [y0, y1, y2, y3, y4, y5, y6] := by
    match xs, hx7 with
    | [y0, y1, y2, y3, y4, y5, y6], _ => exact ⟨_, _, _, _, _, _, _, rfl⟩
  have g0 : DataW.trod enc Tryz.prog W 0 (fun _ => true) true m 9 ((l.drop 0).take (Tryz.prog.cellsOf 9)) = some y0 := hg 0 _ rfl
  have g1 : DataW.trod enc Tryz.prog W 0 (fun _ => true) true m 3 ((l.drop 1).take (Tryz.prog.cellsOf 3)) = some y1 := hg 1 _ rfl
  have g2 : DataW.trod enc Tryz.prog W 0 (fun _ => true) true m 3 ((l.drop 2).take (Tryz.prog.cellsOf 3)) = some y2 := hg 2 _ rfl
  have g3 : DataW.trod enc Tryz.prog W 0 (fun _ => true) true m 23 ((l.drop 3).take (Tryz.prog.cellsOf 23)) = some y3 := hg 3 _ rfl
  have g4 : DataW.trod enc Tryz.prog W 0 (fun _ => true) true m 26 ((l.drop 4).take (Tryz.prog.cellsOf 26)) = some y4 := hg 4 _ rfl
  have g5 : DataW.trod enc Tryz.prog W 0 (fun _ => true) true m 9 ((l.drop 21).take (Tryz.prog.cellsOf 9)) = some y5 := hg 5 _ rfl
  have g6 : DataW.trod enc Tryz.prog W 0 (fun _ => true) true m 22 ((l.drop 22).take (Tryz.prog.cellsOf 22)) = some y6 := hg 6 _ rfl
  rw [cells_str, List.drop_zero] at g0
  rw [cells_str] at g5
  rw [cells_i64] at g1 g2
  rw [cells_u32] at g3
  rw [cells_ad] at g4
  rw [cells_bs] at g6
  obtain ⟨s0, e0, y0e, _⟩ := DataW.trod_string Tryz.underlying9 g0
  obtain ⟨z1, e1, _, _⟩ := DataW.trod_int Tryz.underlying3 g1
  obtain ⟨z2, e2, _, _⟩ := DataW.trod_int Tryz.underlying3 g2
  obtain ⟨z3, e3, _, r3⟩ := DataW.trod_int Tryz.underlying23 g3
  obtain ⟨v6, b, e4, hb4⟩ := ad_cells g4
  obtain ⟨s5, e5, y5e, _⟩ := DataW.trod_string Tryz.underlying9 g5
  obtain ⟨A, n, c, k, e6, hb⟩ := bytes_cells g6
  have q3 := u32_range r3
  obtain rfl : d = .agg [y0.1, y1.1, y2.1, y3.1, y4.1, y5.1, y6.1] := (Prod.mk.inj hd).1
  have hws : ∀ x ∈ DataW.weightsEach Tryz.prog [9, 3, 3, 23, 26, 9, 22] [y0.1, y1.1, y2.1, y3.1, y4.1, y5.1, y6.1], x ≤ reachBytes := fun x hx => hw x (by
    unfold DataW.weights
    rw [Tryz.underlying28]
    exact hx)
  have r0 : s0.data.toList.length ≤ reachBytes := hws _ (DataW.weights_mem_each (j := 0) rfl (by rw [y0e]; rfl) _ (by simp [DataW.weights]))
  have r5 : s5.data.toList.length ≤ reachBytes := hws _ (DataW.weights_mem_each (j := 5) rfl (by rw [y5e]; rfl) _ (by simp [DataW.weights]))
  refine ⟨⟨s0.data.toList, z1, z2, z3, v6, b, s5.data.toList, k⟩, A, n, c, ?_, hb4, hb, ⟨q3.1, by dsimp only; omega⟩, r0, r5⟩
  congr 1
  apply Array.toList_inj.1
  have d0 : l = l.take 1 ++ l.drop 1 := (List.take_append_drop 1 l).symm
  have d1 : l.drop 1 = (l.drop 1).take 1 ++ l.drop 2 := by rw [← List.drop_drop (i := 1) (j := 1), List.take_append_drop]
  have d2 : l.drop 2 = (l.drop 2).take 1 ++ l.drop 3 := by rw [← List.drop_drop (i := 1) (j := 2), List.take_append_drop]
  have d3 : l.drop 3 = (l.drop 3).take 1 ++ l.drop 4 := by rw [← List.drop_drop (i := 1) (j := 3), List.take_append_drop]
  have d4 : l.drop 4 = (l.drop 4).take 17 ++ l.drop 21 := by rw [← List.drop_drop (i := 17) (j := 4), List.take_append_drop]
  have d5 : l.drop 21 = (l.drop 21).take 1 ++ l.drop 22 := by rw [← List.drop_drop (i := 1) (j := 21), List.take_append_drop]
  have d6 : l.drop 22 = (l.drop 22).take 1 := (List.take_of_length_le (by rw [List.length_drop]; omega)).symm
  rw [hl, d0, d1, d2, d3, d4, d5, d6, e0, e1, e2, e3, e4, e5, e6, rcv_list]
  dsimp only
  rw [mkS_back, mkS_back]
  simp
theorem question_ofS {H : Type} {enc : TypeId × Value → H} {W : World} {base : Nat} {v : Value} {d : DataW H} {ps : List MemPlace} (hv : Value.okWide Tryz.prog W .any base 30 v) (h : DataW.Trod enc Tryz.prog W 0 (fun _ => true) true 30 v d ps) (hw : ∀ x ∈ d.weights Tryz.prog 30, x ≤ reachBytes) :
    ∃ q : Qs, v = .agg (qsv q) ∧ q.name.length ≤ reachBytes := by
  obtain ⟨cs, rfl, _⟩ := okWide_struct Tryz.underlying30 hv
  obtain ⟨fuel, hf⟩ := h
  have e0 : (Value.cells (.agg cs)).toList = cs.toList := by simp [Value.cells]
  rw [e0] at hf
  obtain ⟨xs, m, _, hd, hlen, hxl, hg⟩ := DataW.trod_struct Tryz.underlying30 hf
  rw [cells_qs] at hlen
  obtain ⟨l, hl⟩ : ∃ l, cs.toList = l := ⟨_, rfl⟩
  rw [hl] at hlen hg
  have hx3 : xs.length = 3 := hxl
  obtain ⟨y0, y1, y2, rfl⟩ : ∃ y0 y1 y2, xs = [y0, y1, y2] := by
    match xs, hx3 with
    | [y0, y1, y2], _ => exact ⟨_, _, _, rfl⟩
  have g0 : DataW.trod enc Tryz.prog W 0 (fun _ => true) true m 9 ((l.drop 0).take (Tryz.prog.cellsOf 9)) = some y0 := hg 0 _ rfl
  have g1 : DataW.trod enc Tryz.prog W 0 (fun _ => true) true m 3 ((l.drop 1).take (Tryz.prog.cellsOf 3)) = some y1 := hg 1 _ rfl
  have g2 : DataW.trod enc Tryz.prog W 0 (fun _ => true) true m 3 ((l.drop 2).take (Tryz.prog.cellsOf 3)) = some y2 := hg 2 _ rfl
  rw [cells_str, List.drop_zero] at g0
  rw [cells_i64] at g1 g2
  obtain ⟨s0, e0, y0e, _⟩ := DataW.trod_string Tryz.underlying9 g0
  obtain ⟨z1, e1, _, _⟩ := DataW.trod_int Tryz.underlying3 g1
  obtain ⟨z2, e2, _, _⟩ := DataW.trod_int Tryz.underlying3 g2
  obtain rfl : d = .agg [y0.1, y1.1, y2.1] := (Prod.mk.inj hd).1
  have hws : ∀ x ∈ DataW.weightsEach Tryz.prog [9, 3, 3] [y0.1, y1.1, y2.1], x ≤ reachBytes := fun x hx => hw x (by
    unfold DataW.weights
    rw [Tryz.underlying30]
    exact hx)
  have r0 : s0.data.toList.length ≤ reachBytes := hws _ (DataW.weights_mem_each (j := 0) rfl (by rw [y0e]; rfl) _ (by simp [DataW.weights]))
  refine ⟨⟨s0.data.toList, z1, z2⟩, ?_, r0⟩
  congr 1
  apply Array.toList_inj.1
  have d0 : l = l.take 1 ++ l.drop 1 := (List.take_append_drop 1 l).symm
  have d1 : l.drop 1 = (l.drop 1).take 1 ++ l.drop 2 := by rw [← List.drop_drop (i := 1) (j := 1), List.take_append_drop]
  have d2 : l.drop 2 = (l.drop 2).take 1 := (List.take_of_length_le (by rw [List.length_drop]; omega)).symm
  rw [hl, d0, d1, d2, e0, e1, e2]
  unfold qsv
  dsimp only
  rw [mkS_back]
  rfl
end Go.Proofs.YtpojiimcdknafaaGreatDoor
