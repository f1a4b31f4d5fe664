/-
  
-/
import Derived.Test.YtoagfmonfgagbaaGreatDoorZ43
namespace Go.Proofs.YtoagfmonfgagbaaGreatDoor
open Go.RowKit
set_option maxRecDepth 100000
def Two19 (a b : Nat) (W w : World) : Prop := w.heap[a]? = W.heap[a]? ∧ w.heap[b]? = W.heap[b]?
theorem Two19.cell {a b : Nat} {W w : World} (h : Two19 a b W w) (o : Nat) {v : Value} (hv : W.cell? ⟨b, o, none⟩ = some v) : w.cell? ⟨b, o, none⟩ = some v := (World.cell?_of_block (w := W) h.2).trans hv
theorem range_block {w : World} {g : Nat} {cs : Array Value} {T : TypeId} (h : w.heap[g]? = some (.cells cs T (0, 0))) : w.rangeAt g 0 cs.toList := fun j v hj => by
  rw [cell_of_row w g (0 + j) _ _ _ h, Nat.zero_add, ← Array.getElem?_toList]; exact hj
theorem size_addr {cs : Array Value} (h : cs.size = 17) : (Tryz.prog.info? 51).map (·.size) = some cs.size := by rw [h]; kernel_rfl
section
variable {ops : Array Oper} {rest : List Oper} {o : Oper} {a : Act} {w : World} {Q : Exit → Act → World → Prop}
theorem zero_addr : (adv false (List.replicate 16 0)).size = 17 := by kernel_rfl
theorem wpList_alloc_addrc (hgd : o.guard = none) (ho : o.op = .alloc 51)
    (h : ∀ w', w'.heap[w.heap.size]? = some (.cells (adv false (List.replicate 16 0)) 51 (0, 0)) → Below w.heap.size w w' → w'.heap.size = w.heap.size + 1 → wpList Tryz.prog ops Q rest (a.put o.dst (.pointer (some ⟨w.heap.size, 0, none⟩))) w') : wpList Tryz.prog ops Q (o :: rest) a w :=
  wpList_alloc_ad hgd ho fun w' a1 b1 z1 => h w' a1.1 b1 z1
theorem wp_store_addrc {K : Act → World → Prop} (x y : Operand) (ho : o.op = .store 51 x y) {g : Nat} (cs : Array Value) (hn : cs.size = 17) (h1 : cs.all (·.oneCell') = true) {c0 : Array Value} (h0 : c0.size = 17)
    (hx : a.eval x = .pointer (some ⟨g, 0, none⟩)) (hy : a.eval y = .agg cs) (hA : w.heap[g]? = some (.cells c0 51 (0, 0)))
    (h : ∀ w', w'.heap[g]? = some (.cells cs 51 (0, 0)) → (∀ k, k ≠ g → w'.heap[k]? = w.heap[k]?) → w'.heap.size = w.heap.size → (∀ B w0, B ≤ g → Below B w0 w → Below B w0 w') → K (a.put o.dst undef) w') : o.wp Tryz.prog a w K Q :=
  wp_store_row 51 x y ho g cs hx hy 51 _ hA (size_addr hn) (by rw [h0, hn]) h1
    (h _ (setRow_heap w g _ _ _ _ hA) (fun k hk => setRow_other w g k _ hk) (size_setRow w g _) (fun B w0 hB hb => below_setRow hb hB _))
theorem wpList_store_addrc (hgd : o.guard = none) (x y : Operand) (ho : o.op = .store 51 x y) {g : Nat} (cs : Array Value) (hn : cs.size = 17) (h1 : cs.all (·.oneCell') = true) {c0 : Array Value} (h0 : c0.size = 17)
    (hx : a.eval x = .pointer (some ⟨g, 0, none⟩)) (hy : a.eval y = .agg cs) (hA : w.heap[g]? = some (.cells c0 51 (0, 0)))
    (h : ∀ w', w'.heap[g]? = some (.cells cs 51 (0, 0)) → (∀ k, k ≠ g → w'.heap[k]? = w.heap[k]?) → w'.heap.size = w.heap.size → (∀ B w0, B ≤ g → Below B w0 w → Below B w0 w') → wpList Tryz.prog ops Q rest (a.put o.dst undef) w') : wpList Tryz.prog ops Q (o :: rest) a w :=
  wpList_plain hgd fun _ hK => wp_store_addrc x y ho cs hn h1 h0 hx hy hA fun w' h1 h2 h3 h4 => hK _ _ (h w' h1 h2 h3 h4)
theorem results_addrc {fn : Func} {p u : Tmp} (h : fn.results = #[.cell p 51, .tmp u]) (tmps : Array Value) {w : World} {g : Nat} {cs : Array Value} (hn : cs.size = 17) (hp : tmps.getD p undef = .pointer (some ⟨g, 0, none⟩)) (hA : w.heap[g]? = some (.cells cs 51 (0, 0))) :
    (results fn tmps).run Tryz.prog w = .ok (.tuple #[.agg cs, tmps.getD u undef]) w := by
  rw [results_cell_tmp h, hp]
  simp [asAddr, run_loadVar_row w g 51 51 cs (0, 0) _ hA Tryz.underlying51 rfl (size_addr hn)]
end
theorem size_rule {cs : Array Value} (h : cs.size = 24) : (Tryz.prog.info? 55).map (·.size) = some cs.size := by rw [h]; kernel_rfl
section
variable {ops : Array Oper} {rest : List Oper} {o : Oper} {a : Act} {w : World} {Q : Exit → Act → World → Prop}
theorem zero_rule : (rwv rw0).size = 24 := by kernel_rfl
theorem wpList_alloc_rulec (hgd : o.guard = none) (ho : o.op = .alloc 55)
    (h : ∀ w', w'.heap[w.heap.size]? = some (.cells (rwv rw0) 55 (0, 0)) → Below w.heap.size w w' → w'.heap.size = w.heap.size + 1 → wpList Tryz.prog ops Q rest (a.put o.dst (.pointer (some ⟨w.heap.size, 0, none⟩))) w') : wpList Tryz.prog ops Q (o :: rest) a w :=
  wpList_alloc_rw hgd ho fun w' a1 b1 z1 => h w' a1.1 b1 z1
theorem wp_store_rulec {K : Act → World → Prop} (x y : Operand) (ho : o.op = .store 55 x y) {g : Nat} (cs : Array Value) (hn : cs.size = 24) (h1 : cs.all (·.oneCell') = true) {c0 : Array Value} (h0 : c0.size = 24)
    (hx : a.eval x = .pointer (some ⟨g, 0, none⟩)) (hy : a.eval y = .agg cs) (hA : w.heap[g]? = some (.cells c0 55 (0, 0)))
    (h : ∀ w', w'.heap[g]? = some (.cells cs 55 (0, 0)) → (∀ k, k ≠ g → w'.heap[k]? = w.heap[k]?) → w'.heap.size = w.heap.size → (∀ B w0, B ≤ g → Below B w0 w → Below B w0 w') → K (a.put o.dst undef) w') : o.wp Tryz.prog a w K Q :=
  wp_store_row 55 x y ho g cs hx hy 55 _ hA (size_rule hn) (by rw [h0, hn]) h1
    (h _ (setRow_heap w g _ _ _ _ hA) (fun k hk => setRow_other w g k _ hk) (size_setRow w g _) (fun B w0 hB hb => below_setRow hb hB _))
theorem wpList_store_rulec (hgd : o.guard = none) (x y : Operand) (ho : o.op = .store 55 x y) {g : Nat} (cs : Array Value) (hn : cs.size = 24) (h1 : cs.all (·.oneCell') = true) {c0 : Array Value} (h0 : c0.size = 24)
    (hx : a.eval x = .pointer (some ⟨g, 0, none⟩)) (hy : a.eval y = .agg cs) (hA : w.heap[g]? = some (.cells c0 55 (0, 0)))
    (h : ∀ w', w'.heap[g]? = some (.cells cs 55 (0, 0)) → (∀ k, k ≠ g → w'.heap[k]? = w.heap[k]?) → w'.heap.size = w.heap.size → (∀ B w0, B ≤ g → Below B w0 w → Below B w0 w') → wpList Tryz.prog ops Q rest (a.put o.dst undef) w') : wpList Tryz.prog ops Q (o :: rest) a w :=
  wpList_plain hgd fun _ hK => wp_store_rulec x y ho cs hn h1 h0 hx hy hA fun w' h1 h2 h3 h4 => hK _ _ (h w' h1 h2 h3 h4)
theorem results_rulec {fn : Func} {p u : Tmp} (h : fn.results = #[.cell p 55, .tmp u]) (tmps : Array Value) {w : World} {g : Nat} {cs : Array Value} (hn : cs.size = 24) (hp : tmps.getD p undef = .pointer (some ⟨g, 0, none⟩)) (hA : w.heap[g]? = some (.cells cs 55 (0, 0))) :
    (results fn tmps).run Tryz.prog w = .ok (.tuple #[.agg cs, tmps.getD u undef]) w := by
  rw [results_cell_tmp h, hp]
  simp [asAddr, run_loadVar_row w g 55 55 cs (0, 0) _ hA Tryz.underlying55 rfl (size_rule hn)]
end
theorem size_span {cs : Array Value} (h : cs.size = 2) : (Tryz.prog.info? 180).map (·.size) = some cs.size := by rw [h]; kernel_rfl
section
variable {ops : Array Oper} {rest : List Oper} {o : Oper} {a : Act} {w : World} {Q : Exit → Act → World → Prop}
theorem zero_span : (spv 0 0).size = 2 := by kernel_rfl
theorem wpList_alloc_spanc (hgd : o.guard = none) (ho : o.op = .alloc 180)
    (h : ∀ w', w'.heap[w.heap.size]? = some (.cells (spv 0 0) 180 (0, 0)) → Below w.heap.size w w' → w'.heap.size = w.heap.size + 1 → wpList Tryz.prog ops Q rest (a.put o.dst (.pointer (some ⟨w.heap.size, 0, none⟩))) w') : wpList Tryz.prog ops Q (o :: rest) a w :=
  wpList_alloc_sp hgd ho fun w' a1 b1 z1 => h w' a1 b1 z1
theorem wp_store_spanc {K : Act → World → Prop} (x y : Operand) (ho : o.op = .store 180 x y) {g : Nat} (cs : Array Value) (hn : cs.size = 2) (h1 : cs.all (·.oneCell') = true) {c0 : Array Value} (h0 : c0.size = 2)
    (hx : a.eval x = .pointer (some ⟨g, 0, none⟩)) (hy : a.eval y = .agg cs) (hA : w.heap[g]? = some (.cells c0 180 (0, 0)))
    (h : ∀ w', w'.heap[g]? = some (.cells cs 180 (0, 0)) → (∀ k, k ≠ g → w'.heap[k]? = w.heap[k]?) → w'.heap.size = w.heap.size → (∀ B w0, B ≤ g → Below B w0 w → Below B w0 w') → K (a.put o.dst undef) w') : o.wp Tryz.prog a w K Q :=
  wp_store_row 180 x y ho g cs hx hy 180 _ hA (size_span hn) (by rw [h0, hn]) h1
    (h _ (setRow_heap w g _ _ _ _ hA) (fun k hk => setRow_other w g k _ hk) (size_setRow w g _) (fun B w0 hB hb => below_setRow hb hB _))
theorem wpList_store_spanc (hgd : o.guard = none) (x y : Operand) (ho : o.op = .store 180 x y) {g : Nat} (cs : Array Value) (hn : cs.size = 2) (h1 : cs.all (·.oneCell') = true) {c0 : Array Value} (h0 : c0.size = 2)
    (hx : a.eval x = .pointer (some ⟨g, 0, none⟩)) (hy : a.eval y = .agg cs) (hA : w.heap[g]? = some (.cells c0 180 (0, 0)))
    (h : ∀ w', w'.heap[g]? = some (.cells cs 180 (0, 0)) → (∀ k, k ≠ g → w'.heap[k]? = w.heap[k]?) → w'.heap.size = w.heap.size → (∀ B w0, B ≤ g → Below B w0 w → Below B w0 w') → wpList Tryz.prog ops Q rest (a.put o.dst undef) w') : wpList Tryz.prog ops Q (o :: rest) a w :=
  wpList_plain hgd fun _ hK => wp_store_spanc x y ho cs hn h1 h0 hx hy hA fun w' h1 h2 h3 h4 => hK _ _ (h w' h1 h2 h3 h4)
theorem results_spanc {fn : Func} {p u : Tmp} (h : fn.results = #[.cell p 180, .tmp u]) (tmps : Array Value) {w : World} {g : Nat} {cs : Array Value} (hn : cs.size = 2) (hp : tmps.getD p undef = .pointer (some ⟨g, 0, none⟩)) (hA : w.heap[g]? = some (.cells cs 180 (0, 0))) :
    (results fn tmps).run Tryz.prog w = .ok (.tuple #[.agg cs, tmps.getD u undef]) w := by
  rw [results_cell_tmp h, hp]
  simp [asAddr, run_loadVar_row w g 180 180 cs (0, 0) _ hA Tryz.underlying180 rfl (size_span hn)]
end
theorem lt_blk {w : World} {g : Nat} {o : Obj} (h : w.heap[g]? = some o) : g < w.heap.size := (Array.getElem?_eq_some_iff.1 h).1
set_option maxHeartbeats 2000000 in
theorem read_another_none {q : Nat} {w : World} {x : Nat} {A : Option Addr} {c : Nat} {e : Int} (h : LnB w x A 0 c e) : Calls Tryz.prog 93 #[.pointer (some ⟨x, 0, none⟩), .func (.func 94) #[] #[.pointer (some ⟨q, 0, none⟩)]] w fun r w' => ∃ er, r = .returned (.tuple #[.agg (adv false (List.replicate 16 0)), er]) ∧ ErrN w' er 15 e ∧ Below w.heap.size w w' := by
  have K := Lib.hid (fun w1 (hb : Below w.heap.size w w1) => next_none19 (h.later hb))
  have HN := Lib.hid h
  clear h
  have hmx : Tryz.prog.follows .mixedOrders = true := by kernel_rfl
  go_enter Tryz.func93, Tryz.ntmps93
  go_wp2_with (refine wpList_alloc_addrc rfl rfl ?_; intro w0 a0 b0 z0; have H0 := Lib.hid (And.intro a0 (And.intro b0 z0)); clear a0 b0 z0)
  refine (K.out _ H0.out.2.1).mono ?_
  rintro r w1 ⟨rfl, b1⟩
  have bw1 := H0.out.2.1.trans (b1.mono H0.out.2.1.size)
  have q4 := (b1.block _ (lt_blk H0.out.1)).trans H0.out.1
  have H1 := Lib.hid (And.intro bw1 (And.intro q4 (HN.out.later bw1)))
  clear b1 bw1 q4
  go_wp2_with (first
    | (refine wpList_alloc_tk rfl rfl ?_; intro w2 a2 b2 z2; have H2 := Lib.hid (And.intro a2 (And.intro b2 z2)); clear a2 b2 z2)
    | (refine wpList_store_t4 rfl (.tmp 6) (.tmp 14) rfl tkZ rfl tkZ_one rfl rfl rfl H2.out.1 ?_; intro w3 a3 o3 z3 b3; have b4 := b3 w1.heap.size w1 (Nat.le_refl _) H2.out.2.1; have hq4 := (b4.block _ (lt_blk H1.out.2.1)).trans H1.out.2.1; have hl3 := H1.out.2.2.later b4; have H3 := Lib.hid (And.intro hq4 (And.intro hl3 (H1.out.1.trans (b4.mono H1.out.1.size)))); clear a3 o3 z3 b3 b4 hq4 hl3)
    | (have H3' := H3; refine wpList_alloc_addrc rfl rfl ?_; intro w4 a4 b4 z4; have hq4 := (b4.block _ (lt_blk H3'.out.1)).trans H3'.out.1; have hl4 := H3'.out.2.1.later b4; have hne : w.heap.size ≠ w3.heap.size := Nat.ne_of_lt (lt_blk H3'.out.1); have H4 := Lib.hid (And.intro a4 (And.intro hq4 (And.intro hl4 (And.intro hne (H3'.out.2.2.trans (b4.mono H3'.out.2.2.size)))))); clear a4 b4 z4 hq4 hl4 hne H3'))
  have hS : Two19 w3.heap.size x w4 w4.drew := ⟨rfl, rfl⟩
  have c1 : ∀ w', Two19 w3.heap.size x w4 w' → w'.cell? ⟨x, 1, none⟩ = some (.int .i64 e) := fun w' h => h.cell 1 H4.out.2.2.1.cell1
  refine rg_begin (fun w' => Two19 w3.heap.size x w4 w') 9 (by kernel_rfl) rfl ?_
  refine rg_load 0 rfl (by kernel_rfl) (by kernel_rfl) (by kernel_rfl) w3.heap.size 0 (adv false (List.replicate 16 0)) (fun _ _ _ h => h) (by rfl) 51 (.tmp 8) rfl rfl hS (fun w2 h2 => range_block (h2.1.trans H4.out.1)) Tryz.underlying51 rfl (size_addr zero_addr) ?_
  simp only [Act.put, List.setIfInBounds_toArray, List.set_cons_zero, List.set_cons_succ]
  refine rg_take 1 (v := ?rv1) rfl (by kernel_rfl) (by kernel_rfl) (by kernel_rfl) (fun _ _ _ h => h) (by rfl) hS (fun w2 hw2 => ?ry1) ?rr1
  case ry1 => ((try dsimp only at hw2); go_simp <;> with_reducible rfl)
  simp only [Act.put, List.setIfInBounds_toArray, List.set_cons_zero, List.set_cons_succ]
  refine rg_take 2 (v := ?rv2) rfl (by kernel_rfl) (by kernel_rfl) (by kernel_rfl) (fun _ _ _ h => h) (by rfl) hS (fun w2 hw2 => ?ry2) ?rr2
  case ry2 => ((try dsimp only at hw2); go_simp <;> with_reducible rfl)
  simp only [Act.put, List.setIfInBounds_toArray, List.set_cons_zero, List.set_cons_succ]
  refine rg_take 3 (v := ?rv3) rfl (by kernel_rfl) (by kernel_rfl) (by kernel_rfl) (fun _ _ _ h => h) (by rfl) hS (fun w2 hw2 => ?ry3) ?rr3
  case ry3 => ((try dsimp only at hw2); go_simp <;> with_reducible rfl)
  simp only [Act.put, List.setIfInBounds_toArray, List.set_cons_zero, List.set_cons_succ]
  refine rg_take 4 (v := ?rv4) rfl (by kernel_rfl) (by kernel_rfl) (by kernel_rfl) (fun _ _ _ h => h) (by rfl) hS (fun w2 hw2 => ?ry4) ?rr4
  case ry4 => ((try dsimp only at hw2); go_simp <;> with_reducible rfl)
  simp only [Act.put, List.setIfInBounds_toArray, List.set_cons_zero, List.set_cons_succ]
  refine rg_take 5 (v := ?rv5) rfl (by kernel_rfl) (by kernel_rfl) (by kernel_rfl) (fun _ _ _ h => h) (by rfl) hS (fun w2 hw2 => ?ry5) ?rr5
  case ry5 => ((try dsimp only at hw2); go_simp <;> with_reducible rfl)
  simp only [Act.put, List.setIfInBounds_toArray, List.set_cons_zero, List.set_cons_succ]
  refine rg_step 6 rfl (by kernel_rfl) (by rfl) (fun K hK => ?_)
  go_simp
  refine (wrap_some _ _ _ _).mono ?_
  rintro r w5 ⟨rfl, rfl⟩
  have b5 : Below w4.heap.size w4 (w4.drew.alloc (.cells #[.int .i64 e, .iface 37 (.int .i64 15)] 90)) := ((Below.refl _ _).drew).alloc (Nat.le_refl _) _
  have e5 : (w4.drew.alloc (.cells #[.int .i64 e, .iface 37 (.int .i64 15)] 90)).heap[w4.heap.size]? = some (.cells #[.int .i64 e, errV 15] 90 (0, 0)) := heap_alloc_last w4.drew _
  obtain ⟨w5, hw5⟩ : ∃ w5, w4.drew.alloc (.cells #[.int .i64 e, .iface 37 (.int .i64 15)] 90) = w5 := ⟨_, rfl⟩
  rw [hw5] at b5 e5 ⊢
  replace hS : Two19 w3.heap.size x w4 w5 := ⟨b5.block _ (lt_blk H4.out.1), b5.block _ H4.out.2.2.1.lt⟩
  refine hK.out _ _ hS ?_
  clear hK K
  try simp only [Act.put, List.setIfInBounds_toArray, List.set_cons_zero, List.set_cons_succ]
  refine rg_step 7 rfl (by kernel_rfl) (by rfl) (fun K hK => ?_)
  refine wp_store_addrc (.tmp 4) (.tmp 18) rfl (adv false (List.replicate 16 0)) zero_addr (by kernel_rfl) zero_addr rfl rfl ((b5.block _ (lt_blk H4.out.2.1)).trans H4.out.2.1) ?_
  intro w6 a6 o6 z6 b6
  have hxne : x ≠ w.heap.size := Nat.ne_of_lt HN.out.lt
  replace hS : Two19 w3.heap.size x w4 w6 := ⟨(o6 _ (Ne.symm H4.out.2.2.2.1)).trans hS.1, (o6 _ hxne).trans hS.2⟩
  refine hK.out _ _ hS ?_
  clear hK K
  simp only [Act.put]
  refine rg_take 8 (v := ?rv6) rfl (by kernel_rfl) (by kernel_rfl) (by kernel_rfl) (fun _ _ _ h => h) (by rfl) hS (fun w2 hw2 => ?ry6) ?rr6
  case ry6 => ((try dsimp only at hw2); go_simp <;> with_reducible rfl)
  simp only [Act.put, List.setIfInBounds_toArray, List.set_cons_zero, List.set_cons_succ]
  refine rg_done (by kernel_rfl) ?_
  have bb : Below w.heap.size w w6 := b6 _ _ (Nat.le_refl _) (H4.out.2.2.2.2.trans (b5.mono H4.out.2.2.2.2.size))
  have e6 := (o6 w4.heap.size (by have := lt_blk H4.out.2.1; omega)).trans e5
  have HE := Lib.hid (And.intro a6 (And.intro bb e6))
  clear hw5 e5 b5 z6 o6 b6 a6 bb e6 c1 hS hxne
  go_wp2_with fail
  exact bodyPost_ret (results_addrc rfl _ zero_addr rfl HE.out.1) rfl ⟨_, rfl, ⟨_, rfl, HE.out.2.2⟩, HE.out.2.1⟩
set_option maxHeartbeats 2000000 in
theorem read_another_ok {q : Nat} {w : World} {x : Nat} {A : Option Addr} {n c : Nat} {e : Int} (h : LnB w x A n c e) {t : Tk} {ts : List Tk} (hs : TkS w A n c (t :: ts)) {V : Array Value} (hV : V.size = 17) (hV1 : V.all (·.oneCell') = true) (K : ∀ w1, Fr (fun i => i = x) w w1 → Calls Tryz.prog 94 #[.string (mkS t.text), .pointer (some ⟨q, 0, none⟩)] w1 fun r w' => r = .returned (.tuple #[.agg V, .nilIface]) ∧ Below w1.heap.size w1 w') : Calls Tryz.prog 93 #[.pointer (some ⟨x, 0, none⟩), .func (.func 94) #[] #[.pointer (some ⟨q, 0, none⟩)]] w fun r w' => r = .returned (.tuple #[.agg V, .nilIface]) ∧ Step w w' x A n c e t ts := by
  have KN := Lib.hid (fun w1 (hb : Below w.heap.size w w1) => next_some19 (h.later hb) (hs.later hb (Nat.le_refl _)))
  have K := Lib.hid K
  have HN := Lib.hid (And.intro h.lt (And.intro hV hV1))
  clear h hs hV hV1
  have hmx : Tryz.prog.follows .mixedOrders = true := by kernel_rfl
  go_enter Tryz.func93, Tryz.ntmps93
  go_wp2_with (refine wpList_alloc_addrc rfl rfl ?_; intro w0 a0 b0 z0; have H0 := Lib.hid (And.intro a0 (And.intro b0 z0)); clear a0 b0 z0)
  refine (KN.out _ H0.out.2.1).mono ?_
  rintro r w1 ⟨rfl, hst0⟩
  have hst1 : Step w0 w1 x A n c e t ts := hst0
  have hxne : w.heap.size ≠ x := Nat.ne_of_gt HN.out.1
  have q4 := (hst1.fr.block _ (lt_blk H0.out.1) hxne).trans H0.out.1
  have H1 := Lib.hid (And.intro (hst1.ahead H0.out.2.1) q4)
  clear hst0 hst1 hxne q4
  go_wp2_with (first
    | (refine wpList_alloc_tk rfl rfl ?_; intro w2 a2 b2 z2; have H2 := Lib.hid (And.intro a2 (And.intro b2 z2)); clear a2 b2 z2)
    | (refine wpList_store_t4 rfl (.tmp 6) (.tmp 14) rfl (tkv t) (tkv_size t) (tkv_one t) rfl rfl rfl H2.out.1 ?_; intro w3 a3 o3 z3 b3; have b4 := b3 w1.heap.size w1 (Nat.le_refl _) H2.out.2.1; obtain ⟨f1, f3⟩ := tk_text a3; have hst := H1.out.1.later b4; have hq4 := (b4.block _ (lt_blk H1.out.2)).trans H1.out.2; have H3 := Lib.hid (And.intro a3 (And.intro hst (And.intro b4 hq4))); clear a3 b3 b4 hst o3 z3 hq4))
  refine (K.out w3 H3.out.2.1.fr).mono ?_
  rintro r w4 ⟨rfl, b4⟩
  have g1 := (b4.cell (p := ⟨w1.heap.size, 1, none⟩) (lt_cell f1)).trans f1
  have hq4 := (b4.block _ (lt_blk H3.out.2.2.2)).trans H3.out.2.2.2
  have hne : w.heap.size < w1.heap.size := lt_blk H1.out.2
  have H4 := Lib.hid (And.intro (H3.out.2.1.later b4) (And.intro hq4 (And.intro g1 hne)))
  clear b4 f1 f3 g1 hq4 hne
  go_wp2_with (first
    | (refine wpList_alloc_addrc rfl rfl ?_; intro w5 a5 b5 z5; have hst5 := H4.out.1.later b5; have hq5 := (b5.block _ (lt_blk H4.out.2.1)).trans H4.out.2.1; have g5 := (b5.cell (p := ⟨w1.heap.size, 1, none⟩) (lt_cell H4.out.2.2.1)).trans H4.out.2.2.1; have hlt5 : w.heap.size < w4.heap.size := lt_blk H4.out.2.1; have hlt6 : w1.heap.size < w4.heap.size := lt_cell H4.out.2.2.1; have H5 := Lib.hid (And.intro a5 (And.intro hst5 (And.intro hq5 (And.intro g5 (And.intro hlt5 hlt6))))); have H5x := Lib.hid b5; clear a5 b5 z5 hst5 hq5 g5 hlt5 hlt6)
    | (refine wpList_store_addrc rfl (.tmp 9) (.tmp 30) rfl V HN.out.2.1 HN.out.2.2 zero_addr rfl rfl H5.out.1 ?_; intro w6 a6 o6 z6 b6; have hst6 := H5.out.2.1.same w4.heap.size (Nat.le_of_lt H5.out.2.2.2.2.1) (by have := HN.out.1; have := H5.out.2.2.2.2.1; omega) o6 z6 b6; have hq6 := (o6 _ (Nat.ne_of_lt H5.out.2.2.2.2.1)).trans H5.out.2.2.1; have g6 := (World.cell?_of_block (w := w5) (a := ⟨w1.heap.size, 1, none⟩) (o6 _ (Nat.ne_of_lt H5.out.2.2.2.2.2))).trans H5.out.2.2.2.1; have H6 := Lib.hid (And.intro a6 (And.intro hst6 (And.intro hq6 g6))); clear a6 o6 z6 b6 hst6 hq6 g6))
  have hS : Two19 w4.heap.size w1.heap.size w6 w6.drew := ⟨rfl, rfl⟩
  have c1 : ∀ w', Two19 w4.heap.size w1.heap.size w6 w' → w'.cell? ⟨w1.heap.size, 1, none⟩ = some (.int .i64 t.at_) := fun w' h => h.cell 1 H6.out.2.2.2
  refine rg_begin (fun w' => Two19 w4.heap.size w1.heap.size w6 w') 7 (by kernel_rfl) rfl ?_
  refine rg_load 0 rfl (by kernel_rfl) (by kernel_rfl) (by kernel_rfl) w4.heap.size 0 V (fun _ _ _ h => h) (by rfl) 51 (.tmp 9) rfl rfl hS (fun w2 h2 => range_block (h2.1.trans H6.out.1)) Tryz.underlying51 rfl (size_addr HN.out.2.1) ?_
  simp only [Act.put, List.setIfInBounds_toArray, List.set_cons_zero, List.set_cons_succ]
  refine rg_take 1 (v := ?rv7) rfl (by kernel_rfl) (by kernel_rfl) (by kernel_rfl) (fun _ _ _ h => h) (by rfl) hS (fun w2 hw2 => ?ry7) ?rr7
  case ry7 => ((try dsimp only at hw2); go_simp <;> with_reducible rfl)
  simp only [Act.put, List.setIfInBounds_toArray, List.set_cons_zero, List.set_cons_succ]
  refine rg_take 2 (v := ?rv8) rfl (by kernel_rfl) (by kernel_rfl) (by kernel_rfl) (fun _ _ _ h => h) (by rfl) hS (fun w2 hw2 => ?ry8) ?rr8
  case ry8 => ((try dsimp only at hw2); go_simp <;> with_reducible rfl)
  simp only [Act.put, List.setIfInBounds_toArray, List.set_cons_zero, List.set_cons_succ]
  refine rg_take 3 (v := ?rv9) rfl (by kernel_rfl) (by kernel_rfl) (by kernel_rfl) (fun _ _ _ h => h) (by rfl) hS (fun w2 hw2 => ?ry9) ?rr9
  case ry9 => ((try dsimp only at hw2); go_simp <;> with_reducible rfl)
  simp only [Act.put, List.setIfInBounds_toArray, List.set_cons_zero, List.set_cons_succ]
  refine rg_step 4 rfl (by kernel_rfl) (by rfl) (fun K hK => ?_)
  go_simp
  refine (wrap_nil _ _).mono ?_
  rintro r w7 ⟨rfl, rfl⟩
  refine hK.out _ _ hS ?_
  clear hK K
  try simp only [Act.put, List.setIfInBounds_toArray, List.set_cons_zero, List.set_cons_succ]
  refine rg_step 5 rfl (by kernel_rfl) (by rfl) (fun K hK => ?_)
  refine wp_store_addrc (.tmp 4) (.tmp 32) rfl V HN.out.2.1 HN.out.2.2 zero_addr rfl rfl H6.out.2.2.1 ?_
  intro w8 a8 o8 z8 b8
  have l1 := H5.out.2.2.2.2.1
  have l2 := H4.out.2.2.2
  replace hS : Two19 w4.heap.size w1.heap.size w6 w8 := ⟨(o8 _ (by omega)).trans hS.1, (o8 _ (by omega)).trans hS.2⟩
  refine hK.out _ _ hS ?_
  clear hK K
  simp only [Act.put]
  refine rg_take 6 (v := ?rv10) rfl (by kernel_rfl) (by kernel_rfl) (by kernel_rfl) (fun _ _ _ h => h) (by rfl) hS (fun w2 hw2 => ?ry10) ?rr10
  case ry10 => ((try dsimp only at hw2); go_simp <;> with_reducible rfl)
  simp only [Act.put, List.setIfInBounds_toArray, List.set_cons_zero, List.set_cons_succ]
  refine rg_done (by kernel_rfl) ?_
  have hst8 := (H6.out.2.1.later ((Below.refl w6.heap.size w6).drew)).same w.heap.size (Nat.le_refl _) (Nat.ne_of_lt HN.out.1) o8 z8 b8
  have HE := Lib.hid (And.intro a8 hst8)
  clear hS c1 a8 o8 z8 b8 hst8 l1 l2
  go_wp2_with fail
  exact bodyPost_ret (results_addrc rfl _ HN.out.2.1 rfl HE.out.1) rfl ⟨rfl, HE.out.2⟩
set_option maxHeartbeats 2000000 in
theorem read_another_err {q : Nat} {w : World} {x : Nat} {A : Option Addr} {n c : Nat} {e : Int} (h : LnB w x A n c e) {t : Tk} {ts : List Tk} (hs : TkS w A n c (t :: ts)) {k : Int} {V : Array Value} (hV : V.size = 17) (hV1 : V.all (·.oneCell') = true) (K : ∀ w1, Fr (fun i => i = x) w w1 → Calls Tryz.prog 94 #[.string (mkS t.text), .pointer (some ⟨q, 0, none⟩)] w1 fun r w' => r = .returned (.tuple #[.agg V, errV k]) ∧ Below w1.heap.size w1 w') : Calls Tryz.prog 93 #[.pointer (some ⟨x, 0, none⟩), .func (.func 94) #[] #[.pointer (some ⟨q, 0, none⟩)]] w fun r w' => ∃ er, r = .returned (.tuple #[.agg V, er]) ∧ ErrN w' er k t.at_ ∧ Step w w' x A n c e t ts := by
  have KN := Lib.hid (fun w1 (hb : Below w.heap.size w w1) => next_some19 (h.later hb) (hs.later hb (Nat.le_refl _)))
  have K := Lib.hid K
  have HN := Lib.hid (And.intro h.lt (And.intro hV hV1))
  clear h hs hV hV1
  have hmx : Tryz.prog.follows .mixedOrders = true := by kernel_rfl
  go_enter Tryz.func93, Tryz.ntmps93
  go_wp2_with (refine wpList_alloc_addrc rfl rfl ?_; intro w0 a0 b0 z0; have H0 := Lib.hid (And.intro a0 (And.intro b0 z0)); clear a0 b0 z0)
  refine (KN.out _ H0.out.2.1).mono ?_
  rintro r w1 ⟨rfl, hst0⟩
  have hst1 : Step w0 w1 x A n c e t ts := hst0
  have hxne : w.heap.size ≠ x := Nat.ne_of_gt HN.out.1
  have q4 := (hst1.fr.block _ (lt_blk H0.out.1) hxne).trans H0.out.1
  have H1 := Lib.hid (And.intro (hst1.ahead H0.out.2.1) q4)
  clear hst0 hst1 hxne q4
  go_wp2_with (first
    | (refine wpList_alloc_tk rfl rfl ?_; intro w2 a2 b2 z2; have H2 := Lib.hid (And.intro a2 (And.intro b2 z2)); clear a2 b2 z2)
    | (refine wpList_store_t4 rfl (.tmp 6) (.tmp 14) rfl (tkv t) (tkv_size t) (tkv_one t) rfl rfl rfl H2.out.1 ?_; intro w3 a3 o3 z3 b3; have b4 := b3 w1.heap.size w1 (Nat.le_refl _) H2.out.2.1; obtain ⟨f1, f3⟩ := tk_text a3; have hst := H1.out.1.later b4; have hq4 := (b4.block _ (lt_blk H1.out.2)).trans H1.out.2; have H3 := Lib.hid (And.intro a3 (And.intro hst (And.intro b4 hq4))); clear a3 b3 b4 hst o3 z3 hq4))
  refine (K.out w3 H3.out.2.1.fr).mono ?_
  rintro r w4 ⟨rfl, b4⟩
  have g1 := (b4.cell (p := ⟨w1.heap.size, 1, none⟩) (lt_cell f1)).trans f1
  have hq4 := (b4.block _ (lt_blk H3.out.2.2.2)).trans H3.out.2.2.2
  have hne : w.heap.size < w1.heap.size := lt_blk H1.out.2
  have H4 := Lib.hid (And.intro (H3.out.2.1.later b4) (And.intro hq4 (And.intro g1 hne)))
  clear b4 f1 f3 g1 hq4 hne
  unfold errV
  go_wp2_with (first
    | (refine wpList_alloc_addrc rfl rfl ?_; intro w5 a5 b5 z5; have hst5 := H4.out.1.later b5; have hq5 := (b5.block _ (lt_blk H4.out.2.1)).trans H4.out.2.1; have g5 := (b5.cell (p := ⟨w1.heap.size, 1, none⟩) (lt_cell H4.out.2.2.1)).trans H4.out.2.2.1; have hlt5 : w.heap.size < w4.heap.size := lt_blk H4.out.2.1; have hlt6 : w1.heap.size < w4.heap.size := lt_cell H4.out.2.2.1; have H5 := Lib.hid (And.intro a5 (And.intro hst5 (And.intro hq5 (And.intro g5 (And.intro hlt5 hlt6))))); have H5x := Lib.hid b5; clear a5 b5 z5 hst5 hq5 g5 hlt5 hlt6)
    | (refine wpList_store_addrc rfl (.tmp 9) (.tmp 30) rfl V HN.out.2.1 HN.out.2.2 zero_addr rfl rfl H5.out.1 ?_; intro w6 a6 o6 z6 b6; have hst6 := H5.out.2.1.same w4.heap.size (Nat.le_of_lt H5.out.2.2.2.2.1) (by have := HN.out.1; have := H5.out.2.2.2.2.1; omega) o6 z6 b6; have hq6 := (o6 _ (Nat.ne_of_lt H5.out.2.2.2.2.1)).trans H5.out.2.2.1; have g6 := (World.cell?_of_block (w := w5) (a := ⟨w1.heap.size, 1, none⟩) (o6 _ (Nat.ne_of_lt H5.out.2.2.2.2.2))).trans H5.out.2.2.2.1; have H6 := Lib.hid (And.intro a6 (And.intro hst6 (And.intro hq6 g6))); clear a6 o6 z6 b6 hst6 hq6 g6))
  have hS : Two19 w4.heap.size w1.heap.size w6 w6.drew := ⟨rfl, rfl⟩
  have c1 : ∀ w', Two19 w4.heap.size w1.heap.size w6 w' → w'.cell? ⟨w1.heap.size, 1, none⟩ = some (.int .i64 t.at_) := fun w' h => h.cell 1 H6.out.2.2.2
  refine rg_begin (fun w' => Two19 w4.heap.size w1.heap.size w6 w') 7 (by kernel_rfl) rfl ?_
  refine rg_load 0 rfl (by kernel_rfl) (by kernel_rfl) (by kernel_rfl) w4.heap.size 0 V (fun _ _ _ h => h) (by rfl) 51 (.tmp 9) rfl rfl hS (fun w2 h2 => range_block (h2.1.trans H6.out.1)) Tryz.underlying51 rfl (size_addr HN.out.2.1) ?_
  simp only [Act.put, List.setIfInBounds_toArray, List.set_cons_zero, List.set_cons_succ]
  refine rg_take 1 (v := ?rv11) rfl (by kernel_rfl) (by kernel_rfl) (by kernel_rfl) (fun _ _ _ h => h) (by rfl) hS (fun w2 hw2 => ?ry11) ?rr11
  case ry11 => ((try dsimp only at hw2); go_simp <;> with_reducible rfl)
  simp only [Act.put, List.setIfInBounds_toArray, List.set_cons_zero, List.set_cons_succ]
  refine rg_take 2 (v := ?rv12) rfl (by kernel_rfl) (by kernel_rfl) (by kernel_rfl) (fun _ _ _ h => h) (by rfl) hS (fun w2 hw2 => ?ry12) ?rr12
  case ry12 => ((try dsimp only at hw2); go_simp <;> with_reducible rfl)
  simp only [Act.put, List.setIfInBounds_toArray, List.set_cons_zero, List.set_cons_succ]
  refine rg_take 3 (v := ?rv13) rfl (by kernel_rfl) (by kernel_rfl) (by kernel_rfl) (fun _ _ _ h => h) (by rfl) hS (fun w2 hw2 => ?ry13) ?rr13
  case ry13 => ((try dsimp only at hw2); go_simp <;> with_reducible rfl)
  simp only [Act.put, List.setIfInBounds_toArray, List.set_cons_zero, List.set_cons_succ]
  refine rg_step 4 rfl (by kernel_rfl) (by rfl) (fun K hK => ?_)
  go_simp
  refine (wrap_some _ _ _ _).mono ?_
  rintro r w7 ⟨rfl, rfl⟩
  have b7 : Below w6.heap.size w6 (w6.drew.alloc (.cells #[.int .i64 t.at_, .iface 37 (.int .i64 k)] 90)) := ((Below.refl _ _).drew).alloc (Nat.le_refl _) _
  have e7 : (w6.drew.alloc (.cells #[.int .i64 t.at_, .iface 37 (.int .i64 k)] 90)).heap[w6.heap.size]? = some (.cells #[.int .i64 t.at_, errV k] 90 (0, 0)) := heap_alloc_last w6.drew _
  obtain ⟨w7, hw7⟩ : ∃ w7, w6.drew.alloc (.cells #[.int .i64 t.at_, .iface 37 (.int .i64 k)] 90) = w7 := ⟨_, rfl⟩
  rw [hw7] at b7 e7 ⊢
  have hq7 := (b7.block _ (lt_blk H6.out.2.2.1)).trans H6.out.2.2.1
  replace hS : Two19 w4.heap.size w1.heap.size w6 w7 := ⟨b7.block _ (lt_blk H6.out.1), b7.block _ (lt_cell H6.out.2.2.2)⟩
  refine hK.out _ _ hS ?_
  clear hK K
  try simp only [Act.put, List.setIfInBounds_toArray, List.set_cons_zero, List.set_cons_succ]
  refine rg_step 5 rfl (by kernel_rfl) (by rfl) (fun K hK => ?_)
  refine wp_store_addrc (.tmp 4) (.tmp 32) rfl V HN.out.2.1 HN.out.2.2 zero_addr rfl rfl hq7 ?_
  intro w8 a8 o8 z8 b8
  have l1 := H5.out.2.2.2.2.1
  have l2 := H4.out.2.2.2
  replace hS : Two19 w4.heap.size w1.heap.size w6 w8 := ⟨(o8 _ (by omega)).trans hS.1, (o8 _ (by omega)).trans hS.2⟩
  refine hK.out _ _ hS ?_
  clear hK K
  simp only [Act.put]
  refine rg_take 6 (v := ?rv14) rfl (by kernel_rfl) (by kernel_rfl) (by kernel_rfl) (fun _ _ _ h => h) (by rfl) hS (fun w2 hw2 => ?ry14) ?rr14
  case ry14 => ((try dsimp only at hw2); go_simp <;> with_reducible rfl)
  simp only [Act.put, List.setIfInBounds_toArray, List.set_cons_zero, List.set_cons_succ]
  refine rg_done (by kernel_rfl) ?_
  have hst8 := (H6.out.2.1.later b7).same w.heap.size (Nat.le_refl _) (Nat.ne_of_lt HN.out.1) o8 z8 b8
  have e8 := (o8 w6.heap.size (by have := lt_blk H6.out.1; omega)).trans e7
  have HE := Lib.hid (And.intro a8 (And.intro hst8 e8))
  clear hS c1 a8 o8 z8 b8 hst8 e8 e7 b7 hw7 hq7 l1 l2
  go_wp2_with fail
  exact bodyPost_ret (results_addrc rfl _ HN.out.2.1 rfl HE.out.1) rfl ⟨_, rfl, ⟨_, rfl, HE.out.2.2⟩, HE.out.2.1⟩
set_option maxHeartbeats 2000000 in
theorem read_pattern_none {w : World} {x : Nat} {A : Option Addr} {c : Nat} {e : Int} (h : LnB w x A 0 c e) : Calls Tryz.prog 98 #[.pointer (some ⟨x, 0, none⟩), .func (.func 110) #[] #[]] w fun r w' => ∃ er, r = .returned (.tuple #[.agg (rwv rw0), er]) ∧ ErrN w' er 15 e ∧ Below w.heap.size w w' := by
  have K := Lib.hid (fun w1 (hb : Below w.heap.size w w1) => next_none19 (h.later hb))
  have HN := Lib.hid h
  clear h
  have hmx : Tryz.prog.follows .mixedOrders = true := by kernel_rfl
  go_enter Tryz.func98, Tryz.ntmps98
  go_wp2_with (refine wpList_alloc_rulec rfl rfl ?_; intro w0 a0 b0 z0; have H0 := Lib.hid (And.intro a0 (And.intro b0 z0)); clear a0 b0 z0)
  refine (K.out _ H0.out.2.1).mono ?_
  rintro r w1 ⟨rfl, b1⟩
  have bw1 := H0.out.2.1.trans (b1.mono H0.out.2.1.size)
  have q4 := (b1.block _ (lt_blk H0.out.1)).trans H0.out.1
  have H1 := Lib.hid (And.intro bw1 (And.intro q4 (HN.out.later bw1)))
  clear b1 bw1 q4
  go_wp2_with (first
    | (refine wpList_alloc_tk rfl rfl ?_; intro w2 a2 b2 z2; have H2 := Lib.hid (And.intro a2 (And.intro b2 z2)); clear a2 b2 z2)
    | (refine wpList_store_t4 rfl (.tmp 6) (.tmp 14) rfl tkZ rfl tkZ_one rfl rfl rfl H2.out.1 ?_; intro w3 a3 o3 z3 b3; have b4 := b3 w1.heap.size w1 (Nat.le_refl _) H2.out.2.1; have hq4 := (b4.block _ (lt_blk H1.out.2.1)).trans H1.out.2.1; have hl3 := H1.out.2.2.later b4; have H3 := Lib.hid (And.intro hq4 (And.intro hl3 (H1.out.1.trans (b4.mono H1.out.1.size)))); clear a3 o3 z3 b3 b4 hq4 hl3)
    | (have H3' := H3; refine wpList_alloc_rulec rfl rfl ?_; intro w4 a4 b4 z4; have hq4 := (b4.block _ (lt_blk H3'.out.1)).trans H3'.out.1; have hl4 := H3'.out.2.1.later b4; have hne : w.heap.size ≠ w3.heap.size := Nat.ne_of_lt (lt_blk H3'.out.1); have H4 := Lib.hid (And.intro a4 (And.intro hq4 (And.intro hl4 (And.intro hne (H3'.out.2.2.trans (b4.mono H3'.out.2.2.size)))))); clear a4 b4 z4 hq4 hl4 hne H3'))
  have hS : Two19 w3.heap.size x w4 w4.drew := ⟨rfl, rfl⟩
  have c1 : ∀ w', Two19 w3.heap.size x w4 w' → w'.cell? ⟨x, 1, none⟩ = some (.int .i64 e) := fun w' h => h.cell 1 H4.out.2.2.1.cell1
  refine rg_begin (fun w' => Two19 w3.heap.size x w4 w') 9 (by kernel_rfl) rfl ?_
  refine rg_load 0 rfl (by kernel_rfl) (by kernel_rfl) (by kernel_rfl) w3.heap.size 0 (rwv rw0) (fun _ _ _ h => h) (by rfl) 55 (.tmp 8) rfl rfl hS (fun w2 h2 => range_block (h2.1.trans H4.out.1)) Tryz.underlying55 rfl (size_rule zero_rule) ?_
  simp only [Act.put, List.setIfInBounds_toArray, List.set_cons_zero, List.set_cons_succ]
  refine rg_take 1 (v := ?rv15) rfl (by kernel_rfl) (by kernel_rfl) (by kernel_rfl) (fun _ _ _ h => h) (by rfl) hS (fun w2 hw2 => ?ry15) ?rr15
  case ry15 => ((try dsimp only at hw2); go_simp <;> with_reducible rfl)
  simp only [Act.put, List.setIfInBounds_toArray, List.set_cons_zero, List.set_cons_succ]
  refine rg_take 2 (v := ?rv16) rfl (by kernel_rfl) (by kernel_rfl) (by kernel_rfl) (fun _ _ _ h => h) (by rfl) hS (fun w2 hw2 => ?ry16) ?rr16
  case ry16 => ((try dsimp only at hw2); go_simp <;> with_reducible rfl)
  simp only [Act.put, List.setIfInBounds_toArray, List.set_cons_zero, List.set_cons_succ]
  refine rg_take 3 (v := ?rv17) rfl (by kernel_rfl) (by kernel_rfl) (by kernel_rfl) (fun _ _ _ h => h) (by rfl) hS (fun w2 hw2 => ?ry17) ?rr17
  case ry17 => ((try dsimp only at hw2); go_simp <;> with_reducible rfl)
  simp only [Act.put, List.setIfInBounds_toArray, List.set_cons_zero, List.set_cons_succ]
  refine rg_take 4 (v := ?rv18) rfl (by kernel_rfl) (by kernel_rfl) (by kernel_rfl) (fun _ _ _ h => h) (by rfl) hS (fun w2 hw2 => ?ry18) ?rr18
  case ry18 => ((try dsimp only at hw2); go_simp <;> with_reducible rfl)
  simp only [Act.put, List.setIfInBounds_toArray, List.set_cons_zero, List.set_cons_succ]
  refine rg_take 5 (v := ?rv19) rfl (by kernel_rfl) (by kernel_rfl) (by kernel_rfl) (fun _ _ _ h => h) (by rfl) hS (fun w2 hw2 => ?ry19) ?rr19
  case ry19 => ((try dsimp only at hw2); go_simp <;> with_reducible rfl)
  simp only [Act.put, List.setIfInBounds_toArray, List.set_cons_zero, List.set_cons_succ]
  refine rg_step 6 rfl (by kernel_rfl) (by rfl) (fun K hK => ?_)
  go_simp
  refine (wrap_some _ _ _ _).mono ?_
  rintro r w5 ⟨rfl, rfl⟩
  have b5 : Below w4.heap.size w4 (w4.drew.alloc (.cells #[.int .i64 e, .iface 37 (.int .i64 15)] 90)) := ((Below.refl _ _).drew).alloc (Nat.le_refl _) _
  have e5 : (w4.drew.alloc (.cells #[.int .i64 e, .iface 37 (.int .i64 15)] 90)).heap[w4.heap.size]? = some (.cells #[.int .i64 e, errV 15] 90 (0, 0)) := heap_alloc_last w4.drew _
  obtain ⟨w5, hw5⟩ : ∃ w5, w4.drew.alloc (.cells #[.int .i64 e, .iface 37 (.int .i64 15)] 90) = w5 := ⟨_, rfl⟩
  rw [hw5] at b5 e5 ⊢
  replace hS : Two19 w3.heap.size x w4 w5 := ⟨b5.block _ (lt_blk H4.out.1), b5.block _ H4.out.2.2.1.lt⟩
  refine hK.out _ _ hS ?_
  clear hK K
  try simp only [Act.put, List.setIfInBounds_toArray, List.set_cons_zero, List.set_cons_succ]
  refine rg_step 7 rfl (by kernel_rfl) (by rfl) (fun K hK => ?_)
  refine wp_store_rulec (.tmp 4) (.tmp 18) rfl (rwv rw0) zero_rule (by kernel_rfl) zero_rule rfl rfl ((b5.block _ (lt_blk H4.out.2.1)).trans H4.out.2.1) ?_
  intro w6 a6 o6 z6 b6
  have hxne : x ≠ w.heap.size := Nat.ne_of_lt HN.out.lt
  replace hS : Two19 w3.heap.size x w4 w6 := ⟨(o6 _ (Ne.symm H4.out.2.2.2.1)).trans hS.1, (o6 _ hxne).trans hS.2⟩
  refine hK.out _ _ hS ?_
  clear hK K
  simp only [Act.put]
  refine rg_take 8 (v := ?rv20) rfl (by kernel_rfl) (by kernel_rfl) (by kernel_rfl) (fun _ _ _ h => h) (by rfl) hS (fun w2 hw2 => ?ry20) ?rr20
  case ry20 => ((try dsimp only at hw2); go_simp <;> with_reducible rfl)
  simp only [Act.put, List.setIfInBounds_toArray, List.set_cons_zero, List.set_cons_succ]
  refine rg_done (by kernel_rfl) ?_
  have bb : Below w.heap.size w w6 := b6 _ _ (Nat.le_refl _) (H4.out.2.2.2.2.trans (b5.mono H4.out.2.2.2.2.size))
  have e6 := (o6 w4.heap.size (by have := lt_blk H4.out.2.1; omega)).trans e5
  have HE := Lib.hid (And.intro a6 (And.intro bb e6))
  clear hw5 e5 b5 z6 o6 b6 a6 bb e6 c1 hS hxne
  go_wp2_with fail
  exact bodyPost_ret (results_rulec rfl _ zero_rule rfl HE.out.1) rfl ⟨_, rfl, ⟨_, rfl, HE.out.2.2⟩, HE.out.2.1⟩
set_option maxHeartbeats 2000000 in
theorem read_pattern_ok {w : World} {x : Nat} {A : Option Addr} {n c : Nat} {e : Int} (h : LnB w x A n c e) {t : Tk} {ts : List Tk} (hs : TkS w A n c (t :: ts)) {V : Array Value} (hV : V.size = 24) (hV1 : V.all (·.oneCell') = true) (K : ∀ w1, Fr (fun i => i = x) w w1 → Calls Tryz.prog 110 #[.string (mkS t.text)] w1 fun r w' => r = .returned (.tuple #[.agg V, .nilIface]) ∧ Below w1.heap.size w1 w') : Calls Tryz.prog 98 #[.pointer (some ⟨x, 0, none⟩), .func (.func 110) #[] #[]] w fun r w' => r = .returned (.tuple #[.agg V, .nilIface]) ∧ Step w w' x A n c e t ts := by
  have KN := Lib.hid (fun w1 (hb : Below w.heap.size w w1) => next_some19 (h.later hb) (hs.later hb (Nat.le_refl _)))
  have K := Lib.hid K
  have HN := Lib.hid (And.intro h.lt (And.intro hV hV1))
  clear h hs hV hV1
  have hmx : Tryz.prog.follows .mixedOrders = true := by kernel_rfl
  go_enter Tryz.func98, Tryz.ntmps98
  go_wp2_with (refine wpList_alloc_rulec rfl rfl ?_; intro w0 a0 b0 z0; have H0 := Lib.hid (And.intro a0 (And.intro b0 z0)); clear a0 b0 z0)
  refine (KN.out _ H0.out.2.1).mono ?_
  rintro r w1 ⟨rfl, hst0⟩
  have hst1 : Step w0 w1 x A n c e t ts := hst0
  have hxne : w.heap.size ≠ x := Nat.ne_of_gt HN.out.1
  have q4 := (hst1.fr.block _ (lt_blk H0.out.1) hxne).trans H0.out.1
  have H1 := Lib.hid (And.intro (hst1.ahead H0.out.2.1) q4)
  clear hst0 hst1 hxne q4
  go_wp2_with (first
    | (refine wpList_alloc_tk rfl rfl ?_; intro w2 a2 b2 z2; have H2 := Lib.hid (And.intro a2 (And.intro b2 z2)); clear a2 b2 z2)
    | (refine wpList_store_t4 rfl (.tmp 6) (.tmp 14) rfl (tkv t) (tkv_size t) (tkv_one t) rfl rfl rfl H2.out.1 ?_; intro w3 a3 o3 z3 b3; have b4 := b3 w1.heap.size w1 (Nat.le_refl _) H2.out.2.1; obtain ⟨f1, f3⟩ := tk_text a3; have hst := H1.out.1.later b4; have hq4 := (b4.block _ (lt_blk H1.out.2)).trans H1.out.2; have H3 := Lib.hid (And.intro a3 (And.intro hst (And.intro b4 hq4))); clear a3 b3 b4 hst o3 z3 hq4))
  refine (K.out w3 H3.out.2.1.fr).mono ?_
  rintro r w4 ⟨rfl, b4⟩
  have g1 := (b4.cell (p := ⟨w1.heap.size, 1, none⟩) (lt_cell f1)).trans f1
  have hq4 := (b4.block _ (lt_blk H3.out.2.2.2)).trans H3.out.2.2.2
  have hne : w.heap.size < w1.heap.size := lt_blk H1.out.2
  have H4 := Lib.hid (And.intro (H3.out.2.1.later b4) (And.intro hq4 (And.intro g1 hne)))
  clear b4 f1 f3 g1 hq4 hne
  go_wp2_with (first
    | (refine wpList_alloc_rulec rfl rfl ?_; intro w5 a5 b5 z5; have hst5 := H4.out.1.later b5; have hq5 := (b5.block _ (lt_blk H4.out.2.1)).trans H4.out.2.1; have g5 := (b5.cell (p := ⟨w1.heap.size, 1, none⟩) (lt_cell H4.out.2.2.1)).trans H4.out.2.2.1; have hlt5 : w.heap.size < w4.heap.size := lt_blk H4.out.2.1; have hlt6 : w1.heap.size < w4.heap.size := lt_cell H4.out.2.2.1; have H5 := Lib.hid (And.intro a5 (And.intro hst5 (And.intro hq5 (And.intro g5 (And.intro hlt5 hlt6))))); have H5x := Lib.hid b5; clear a5 b5 z5 hst5 hq5 g5 hlt5 hlt6)
    | (refine wpList_store_rulec rfl (.tmp 9) (.tmp 30) rfl V HN.out.2.1 HN.out.2.2 zero_rule rfl rfl H5.out.1 ?_; intro w6 a6 o6 z6 b6; have hst6 := H5.out.2.1.same w4.heap.size (Nat.le_of_lt H5.out.2.2.2.2.1) (by have := HN.out.1; have := H5.out.2.2.2.2.1; omega) o6 z6 b6; have hq6 := (o6 _ (Nat.ne_of_lt H5.out.2.2.2.2.1)).trans H5.out.2.2.1; have g6 := (World.cell?_of_block (w := w5) (a := ⟨w1.heap.size, 1, none⟩) (o6 _ (Nat.ne_of_lt H5.out.2.2.2.2.2))).trans H5.out.2.2.2.1; have H6 := Lib.hid (And.intro a6 (And.intro hst6 (And.intro hq6 g6))); clear a6 o6 z6 b6 hst6 hq6 g6))
  have hS : Two19 w4.heap.size w1.heap.size w6 w6.drew := ⟨rfl, rfl⟩
  have c1 : ∀ w', Two19 w4.heap.size w1.heap.size w6 w' → w'.cell? ⟨w1.heap.size, 1, none⟩ = some (.int .i64 t.at_) := fun w' h => h.cell 1 H6.out.2.2.2
  refine rg_begin (fun w' => Two19 w4.heap.size w1.heap.size w6 w') 7 (by kernel_rfl) rfl ?_
  refine rg_load 0 rfl (by kernel_rfl) (by kernel_rfl) (by kernel_rfl) w4.heap.size 0 V (fun _ _ _ h => h) (by rfl) 55 (.tmp 9) rfl rfl hS (fun w2 h2 => range_block (h2.1.trans H6.out.1)) Tryz.underlying55 rfl (size_rule HN.out.2.1) ?_
  simp only [Act.put, List.setIfInBounds_toArray, List.set_cons_zero, List.set_cons_succ]
  refine rg_take 1 (v := ?rv21) rfl (by kernel_rfl) (by kernel_rfl) (by kernel_rfl) (fun _ _ _ h => h) (by rfl) hS (fun w2 hw2 => ?ry21) ?rr21
  case ry21 => ((try dsimp only at hw2); go_simp <;> with_reducible rfl)
  simp only [Act.put, List.setIfInBounds_toArray, List.set_cons_zero, List.set_cons_succ]
  refine rg_take 2 (v := ?rv22) rfl (by kernel_rfl) (by kernel_rfl) (by kernel_rfl) (fun _ _ _ h => h) (by rfl) hS (fun w2 hw2 => ?ry22) ?rr22
  case ry22 => ((try dsimp only at hw2); go_simp <;> with_reducible rfl)
  simp only [Act.put, List.setIfInBounds_toArray, List.set_cons_zero, List.set_cons_succ]
  refine rg_take 3 (v := ?rv23) rfl (by kernel_rfl) (by kernel_rfl) (by kernel_rfl) (fun _ _ _ h => h) (by rfl) hS (fun w2 hw2 => ?ry23) ?rr23
  case ry23 => ((try dsimp only at hw2); go_simp <;> with_reducible rfl)
  simp only [Act.put, List.setIfInBounds_toArray, List.set_cons_zero, List.set_cons_succ]
  refine rg_step 4 rfl (by kernel_rfl) (by rfl) (fun K hK => ?_)
  go_simp
  refine (wrap_nil _ _).mono ?_
  rintro r w7 ⟨rfl, rfl⟩
  refine hK.out _ _ hS ?_
  clear hK K
  try simp only [Act.put, List.setIfInBounds_toArray, List.set_cons_zero, List.set_cons_succ]
  refine rg_step 5 rfl (by kernel_rfl) (by rfl) (fun K hK => ?_)
  refine wp_store_rulec (.tmp 4) (.tmp 32) rfl V HN.out.2.1 HN.out.2.2 zero_rule rfl rfl H6.out.2.2.1 ?_
  intro w8 a8 o8 z8 b8
  have l1 := H5.out.2.2.2.2.1
  have l2 := H4.out.2.2.2
  replace hS : Two19 w4.heap.size w1.heap.size w6 w8 := ⟨(o8 _ (by omega)).trans hS.1, (o8 _ (by omega)).trans hS.2⟩
  refine hK.out _ _ hS ?_
  clear hK K
  simp only [Act.put]
  refine rg_take 6 (v := ?rv24) rfl (by kernel_rfl) (by kernel_rfl) (by kernel_rfl) (fun _ _ _ h => h) (by rfl) hS (fun w2 hw2 => ?ry24) ?rr24
  case ry24 => ((try dsimp only at hw2); go_simp <;> with_reducible rfl)
  simp only [Act.put, List.setIfInBounds_toArray, List.set_cons_zero, List.set_cons_succ]
  refine rg_done (by kernel_rfl) ?_
  have hst8 := (H6.out.2.1.later ((Below.refl w6.heap.size w6).drew)).same w.heap.size (Nat.le_refl _) (Nat.ne_of_lt HN.out.1) o8 z8 b8
  have HE := Lib.hid (And.intro a8 hst8)
  clear hS c1 a8 o8 z8 b8 hst8 l1 l2
  go_wp2_with fail
  exact bodyPost_ret (results_rulec rfl _ HN.out.2.1 rfl HE.out.1) rfl ⟨rfl, HE.out.2⟩
set_option maxHeartbeats 2000000 in
theorem read_pattern_err {w : World} {x : Nat} {A : Option Addr} {n c : Nat} {e : Int} (h : LnB w x A n c e) {t : Tk} {ts : List Tk} (hs : TkS w A n c (t :: ts)) {k : Int} {V : Array Value} (hV : V.size = 24) (hV1 : V.all (·.oneCell') = true) (K : ∀ w1, Fr (fun i => i = x) w w1 → Calls Tryz.prog 110 #[.string (mkS t.text)] w1 fun r w' => r = .returned (.tuple #[.agg V, errV k]) ∧ Below w1.heap.size w1 w') : Calls Tryz.prog 98 #[.pointer (some ⟨x, 0, none⟩), .func (.func 110) #[] #[]] w fun r w' => ∃ er, r = .returned (.tuple #[.agg V, er]) ∧ ErrN w' er k t.at_ ∧ Step w w' x A n c e t ts := by
  have KN := Lib.hid (fun w1 (hb : Below w.heap.size w w1) => next_some19 (h.later hb) (hs.later hb (Nat.le_refl _)))
  have K := Lib.hid K
  have HN := Lib.hid (And.intro h.lt (And.intro hV hV1))
  clear h hs hV hV1
  have hmx : Tryz.prog.follows .mixedOrders = true := by kernel_rfl
  go_enter Tryz.func98, Tryz.ntmps98
  go_wp2_with (refine wpList_alloc_rulec rfl rfl ?_; intro w0 a0 b0 z0; have H0 := Lib.hid (And.intro a0 (And.intro b0 z0)); clear a0 b0 z0)
  refine (KN.out _ H0.out.2.1).mono ?_
  rintro r w1 ⟨rfl, hst0⟩
  have hst1 : Step w0 w1 x A n c e t ts := hst0
  have hxne : w.heap.size ≠ x := Nat.ne_of_gt HN.out.1
  have q4 := (hst1.fr.block _ (lt_blk H0.out.1) hxne).trans H0.out.1
  have H1 := Lib.hid (And.intro (hst1.ahead H0.out.2.1) q4)
  clear hst0 hst1 hxne q4
  go_wp2_with (first
    | (refine wpList_alloc_tk rfl rfl ?_; intro w2 a2 b2 z2; have H2 := Lib.hid (And.intro a2 (And.intro b2 z2)); clear a2 b2 z2)
    | (refine wpList_store_t4 rfl (.tmp 6) (.tmp 14) rfl (tkv t) (tkv_size t) (tkv_one t) rfl rfl rfl H2.out.1 ?_; intro w3 a3 o3 z3 b3; have b4 := b3 w1.heap.size w1 (Nat.le_refl _) H2.out.2.1; obtain ⟨f1, f3⟩ := tk_text a3; have hst := H1.out.1.later b4; have hq4 := (b4.block _ (lt_blk H1.out.2)).trans H1.out.2; have H3 := Lib.hid (And.intro a3 (And.intro hst (And.intro b4 hq4))); clear a3 b3 b4 hst o3 z3 hq4))
  refine (K.out w3 H3.out.2.1.fr).mono ?_
  rintro r w4 ⟨rfl, b4⟩
  have g1 := (b4.cell (p := ⟨w1.heap.size, 1, none⟩) (lt_cell f1)).trans f1
  have hq4 := (b4.block _ (lt_blk H3.out.2.2.2)).trans H3.out.2.2.2
  have hne : w.heap.size < w1.heap.size := lt_blk H1.out.2
  have H4 := Lib.hid (And.intro (H3.out.2.1.later b4) (And.intro hq4 (And.intro g1 hne)))
  clear b4 f1 f3 g1 hq4 hne
  unfold errV
  go_wp2_with (first
    | (refine wpList_alloc_rulec rfl rfl ?_; intro w5 a5 b5 z5; have hst5 := H4.out.1.later b5; have hq5 := (b5.block _ (lt_blk H4.out.2.1)).trans H4.out.2.1; have g5 := (b5.cell (p := ⟨w1.heap.size, 1, none⟩) (lt_cell H4.out.2.2.1)).trans H4.out.2.2.1; have hlt5 : w.heap.size < w4.heap.size := lt_blk H4.out.2.1; have hlt6 : w1.heap.size < w4.heap.size := lt_cell H4.out.2.2.1; have H5 := Lib.hid (And.intro a5 (And.intro hst5 (And.intro hq5 (And.intro g5 (And.intro hlt5 hlt6))))); have H5x := Lib.hid b5; clear a5 b5 z5 hst5 hq5 g5 hlt5 hlt6)
    | (refine wpList_store_rulec rfl (.tmp 9) (.tmp 30) rfl V HN.out.2.1 HN.out.2.2 zero_rule rfl rfl H5.out.1 ?_; intro w6 a6 o6 z6 b6; have hst6 := H5.out.2.1.same w4.heap.size (Nat.le_of_lt H5.out.2.2.2.2.1) (by have := HN.out.1; have := H5.out.2.2.2.2.1; omega) o6 z6 b6; have hq6 := (o6 _ (Nat.ne_of_lt H5.out.2.2.2.2.1)).trans H5.out.2.2.1; have g6 := (World.cell?_of_block (w := w5) (a := ⟨w1.heap.size, 1, none⟩) (o6 _ (Nat.ne_of_lt H5.out.2.2.2.2.2))).trans H5.out.2.2.2.1; have H6 := Lib.hid (And.intro a6 (And.intro hst6 (And.intro hq6 g6))); clear a6 o6 z6 b6 hst6 hq6 g6))
  have hS : Two19 w4.heap.size w1.heap.size w6 w6.drew := ⟨rfl, rfl⟩
  have c1 : ∀ w', Two19 w4.heap.size w1.heap.size w6 w' → w'.cell? ⟨w1.heap.size, 1, none⟩ = some (.int .i64 t.at_) := fun w' h => h.cell 1 H6.out.2.2.2
  refine rg_begin (fun w' => Two19 w4.heap.size w1.heap.size w6 w') 7 (by kernel_rfl) rfl ?_
  refine rg_load 0 rfl (by kernel_rfl) (by kernel_rfl) (by kernel_rfl) w4.heap.size 0 V (fun _ _ _ h => h) (by rfl) 55 (.tmp 9) rfl rfl hS (fun w2 h2 => range_block (h2.1.trans H6.out.1)) Tryz.underlying55 rfl (size_rule HN.out.2.1) ?_
  simp only [Act.put, List.setIfInBounds_toArray, List.set_cons_zero, List.set_cons_succ]
  refine rg_take 1 (v := ?rv25) rfl (by kernel_rfl) (by kernel_rfl) (by kernel_rfl) (fun _ _ _ h => h) (by rfl) hS (fun w2 hw2 => ?ry25) ?rr25
  case ry25 => ((try dsimp only at hw2); go_simp <;> with_reducible rfl)
  simp only [Act.put, List.setIfInBounds_toArray, List.set_cons_zero, List.set_cons_succ]
  refine rg_take 2 (v := ?rv26) rfl (by kernel_rfl) (by kernel_rfl) (by kernel_rfl) (fun _ _ _ h => h) (by rfl) hS (fun w2 hw2 => ?ry26) ?rr26
  case ry26 => ((try dsimp only at hw2); go_simp <;> with_reducible rfl)
  simp only [Act.put, List.setIfInBounds_toArray, List.set_cons_zero, List.set_cons_succ]
  refine rg_take 3 (v := ?rv27) rfl (by kernel_rfl) (by kernel_rfl) (by kernel_rfl) (fun _ _ _ h => h) (by rfl) hS (fun w2 hw2 => ?ry27) ?rr27
  case ry27 => ((try dsimp only at hw2); go_simp <;> with_reducible rfl)
  simp only [Act.put, List.setIfInBounds_toArray, List.set_cons_zero, List.set_cons_succ]
  refine rg_step 4 rfl (by kernel_rfl) (by rfl) (fun K hK => ?_)
  go_simp
  refine (wrap_some _ _ _ _).mono ?_
  rintro r w7 ⟨rfl, rfl⟩
  have b7 : Below w6.heap.size w6 (w6.drew.alloc (.cells #[.int .i64 t.at_, .iface 37 (.int .i64 k)] 90)) := ((Below.refl _ _).drew).alloc (Nat.le_refl _) _
  have e7 : (w6.drew.alloc (.cells #[.int .i64 t.at_, .iface 37 (.int .i64 k)] 90)).heap[w6.heap.size]? = some (.cells #[.int .i64 t.at_, errV k] 90 (0, 0)) := heap_alloc_last w6.drew _
  obtain ⟨w7, hw7⟩ : ∃ w7, w6.drew.alloc (.cells #[.int .i64 t.at_, .iface 37 (.int .i64 k)] 90) = w7 := ⟨_, rfl⟩
  rw [hw7] at b7 e7 ⊢
  have hq7 := (b7.block _ (lt_blk H6.out.2.2.1)).trans H6.out.2.2.1
  replace hS : Two19 w4.heap.size w1.heap.size w6 w7 := ⟨b7.block _ (lt_blk H6.out.1), b7.block _ (lt_cell H6.out.2.2.2)⟩
  refine hK.out _ _ hS ?_
  clear hK K
  try simp only [Act.put, List.setIfInBounds_toArray, List.set_cons_zero, List.set_cons_succ]
  refine rg_step 5 rfl (by kernel_rfl) (by rfl) (fun K hK => ?_)
  refine wp_store_rulec (.tmp 4) (.tmp 32) rfl V HN.out.2.1 HN.out.2.2 zero_rule rfl rfl hq7 ?_
  intro w8 a8 o8 z8 b8
  have l1 := H5.out.2.2.2.2.1
  have l2 := H4.out.2.2.2
  replace hS : Two19 w4.heap.size w1.heap.size w6 w8 := ⟨(o8 _ (by omega)).trans hS.1, (o8 _ (by omega)).trans hS.2⟩
  refine hK.out _ _ hS ?_
  clear hK K
  simp only [Act.put]
  refine rg_take 6 (v := ?rv28) rfl (by kernel_rfl) (by kernel_rfl) (by kernel_rfl) (fun _ _ _ h => h) (by rfl) hS (fun w2 hw2 => ?ry28) ?rr28
  case ry28 => ((try dsimp only at hw2); go_simp <;> with_reducible rfl)
  simp only [Act.put, List.setIfInBounds_toArray, List.set_cons_zero, List.set_cons_succ]
  refine rg_done (by kernel_rfl) ?_
  have hst8 := (H6.out.2.1.later b7).same w.heap.size (Nat.le_refl _) (Nat.ne_of_lt HN.out.1) o8 z8 b8
  have e8 := (o8 w6.heap.size (by have := lt_blk H6.out.1; omega)).trans e7
  have HE := Lib.hid (And.intro a8 (And.intro hst8 e8))
  clear hS c1 a8 o8 z8 b8 hst8 e8 e7 b7 hw7 hq7 l1 l2
  go_wp2_with fail
  exact bodyPost_ret (results_rulec rfl _ HN.out.2.1 rfl HE.out.1) rfl ⟨_, rfl, ⟨_, rfl, HE.out.2.2⟩, HE.out.2.1⟩
set_option maxHeartbeats 2000000 in
theorem read_net_none {w : World} {x : Nat} {A : Option Addr} {c : Nat} {e : Int} (h : LnB w x A 0 c e) : Calls Tryz.prog 98 #[.pointer (some ⟨x, 0, none⟩), .func (.func 111) #[] #[]] w fun r w' => ∃ er, r = .returned (.tuple #[.agg (rwv rw0), er]) ∧ ErrN w' er 15 e ∧ Below w.heap.size w w' := by
  have K := Lib.hid (fun w1 (hb : Below w.heap.size w w1) => next_none19 (h.later hb))
  have HN := Lib.hid h
  clear h
  have hmx : Tryz.prog.follows .mixedOrders = true := by kernel_rfl
  go_enter Tryz.func98, Tryz.ntmps98
  go_wp2_with (refine wpList_alloc_rulec rfl rfl ?_; intro w0 a0 b0 z0; have H0 := Lib.hid (And.intro a0 (And.intro b0 z0)); clear a0 b0 z0)
  refine (K.out _ H0.out.2.1).mono ?_
  rintro r w1 ⟨rfl, b1⟩
  have bw1 := H0.out.2.1.trans (b1.mono H0.out.2.1.size)
  have q4 := (b1.block _ (lt_blk H0.out.1)).trans H0.out.1
  have H1 := Lib.hid (And.intro bw1 (And.intro q4 (HN.out.later bw1)))
  clear b1 bw1 q4
  go_wp2_with (first
    | (refine wpList_alloc_tk rfl rfl ?_; intro w2 a2 b2 z2; have H2 := Lib.hid (And.intro a2 (And.intro b2 z2)); clear a2 b2 z2)
    | (refine wpList_store_t4 rfl (.tmp 6) (.tmp 14) rfl tkZ rfl tkZ_one rfl rfl rfl H2.out.1 ?_; intro w3 a3 o3 z3 b3; have b4 := b3 w1.heap.size w1 (Nat.le_refl _) H2.out.2.1; have hq4 := (b4.block _ (lt_blk H1.out.2.1)).trans H1.out.2.1; have hl3 := H1.out.2.2.later b4; have H3 := Lib.hid (And.intro hq4 (And.intro hl3 (H1.out.1.trans (b4.mono H1.out.1.size)))); clear a3 o3 z3 b3 b4 hq4 hl3)
    | (have H3' := H3; refine wpList_alloc_rulec rfl rfl ?_; intro w4 a4 b4 z4; have hq4 := (b4.block _ (lt_blk H3'.out.1)).trans H3'.out.1; have hl4 := H3'.out.2.1.later b4; have hne : w.heap.size ≠ w3.heap.size := Nat.ne_of_lt (lt_blk H3'.out.1); have H4 := Lib.hid (And.intro a4 (And.intro hq4 (And.intro hl4 (And.intro hne (H3'.out.2.2.trans (b4.mono H3'.out.2.2.size)))))); clear a4 b4 z4 hq4 hl4 hne H3'))
  have hS : Two19 w3.heap.size x w4 w4.drew := ⟨rfl, rfl⟩
  have c1 : ∀ w', Two19 w3.heap.size x w4 w' → w'.cell? ⟨x, 1, none⟩ = some (.int .i64 e) := fun w' h => h.cell 1 H4.out.2.2.1.cell1
  refine rg_begin (fun w' => Two19 w3.heap.size x w4 w') 9 (by kernel_rfl) rfl ?_
  refine rg_load 0 rfl (by kernel_rfl) (by kernel_rfl) (by kernel_rfl) w3.heap.size 0 (rwv rw0) (fun _ _ _ h => h) (by rfl) 55 (.tmp 8) rfl rfl hS (fun w2 h2 => range_block (h2.1.trans H4.out.1)) Tryz.underlying55 rfl (size_rule zero_rule) ?_
  simp only [Act.put, List.setIfInBounds_toArray, List.set_cons_zero, List.set_cons_succ]
  refine rg_take 1 (v := ?rv29) rfl (by kernel_rfl) (by kernel_rfl) (by kernel_rfl) (fun _ _ _ h => h) (by rfl) hS (fun w2 hw2 => ?ry29) ?rr29
  case ry29 => ((try dsimp only at hw2); go_simp <;> with_reducible rfl)
  simp only [Act.put, List.setIfInBounds_toArray, List.set_cons_zero, List.set_cons_succ]
  refine rg_take 2 (v := ?rv30) rfl (by kernel_rfl) (by kernel_rfl) (by kernel_rfl) (fun _ _ _ h => h) (by rfl) hS (fun w2 hw2 => ?ry30) ?rr30
  case ry30 => ((try dsimp only at hw2); go_simp <;> with_reducible rfl)
  simp only [Act.put, List.setIfInBounds_toArray, List.set_cons_zero, List.set_cons_succ]
  refine rg_take 3 (v := ?rv31) rfl (by kernel_rfl) (by kernel_rfl) (by kernel_rfl) (fun _ _ _ h => h) (by rfl) hS (fun w2 hw2 => ?ry31) ?rr31
  case ry31 => ((try dsimp only at hw2); go_simp <;> with_reducible rfl)
  simp only [Act.put, List.setIfInBounds_toArray, List.set_cons_zero, List.set_cons_succ]
  refine rg_take 4 (v := ?rv32) rfl (by kernel_rfl) (by kernel_rfl) (by kernel_rfl) (fun _ _ _ h => h) (by rfl) hS (fun w2 hw2 => ?ry32) ?rr32
  case ry32 => ((try dsimp only at hw2); go_simp <;> with_reducible rfl)
  simp only [Act.put, List.setIfInBounds_toArray, List.set_cons_zero, List.set_cons_succ]
  refine rg_take 5 (v := ?rv33) rfl (by kernel_rfl) (by kernel_rfl) (by kernel_rfl) (fun _ _ _ h => h) (by rfl) hS (fun w2 hw2 => ?ry33) ?rr33
  case ry33 => ((try dsimp only at hw2); go_simp <;> with_reducible rfl)
  simp only [Act.put, List.setIfInBounds_toArray, List.set_cons_zero, List.set_cons_succ]
  refine rg_step 6 rfl (by kernel_rfl) (by rfl) (fun K hK => ?_)
  go_simp
  refine (wrap_some _ _ _ _).mono ?_
  rintro r w5 ⟨rfl, rfl⟩
  have b5 : Below w4.heap.size w4 (w4.drew.alloc (.cells #[.int .i64 e, .iface 37 (.int .i64 15)] 90)) := ((Below.refl _ _).drew).alloc (Nat.le_refl _) _
  have e5 : (w4.drew.alloc (.cells #[.int .i64 e, .iface 37 (.int .i64 15)] 90)).heap[w4.heap.size]? = some (.cells #[.int .i64 e, errV 15] 90 (0, 0)) := heap_alloc_last w4.drew _
  obtain ⟨w5, hw5⟩ : ∃ w5, w4.drew.alloc (.cells #[.int .i64 e, .iface 37 (.int .i64 15)] 90) = w5 := ⟨_, rfl⟩
  rw [hw5] at b5 e5 ⊢
  replace hS : Two19 w3.heap.size x w4 w5 := ⟨b5.block _ (lt_blk H4.out.1), b5.block _ H4.out.2.2.1.lt⟩
  refine hK.out _ _ hS ?_
  clear hK K
  try simp only [Act.put, List.setIfInBounds_toArray, List.set_cons_zero, List.set_cons_succ]
  refine rg_step 7 rfl (by kernel_rfl) (by rfl) (fun K hK => ?_)
  refine wp_store_rulec (.tmp 4) (.tmp 18) rfl (rwv rw0) zero_rule (by kernel_rfl) zero_rule rfl rfl ((b5.block _ (lt_blk H4.out.2.1)).trans H4.out.2.1) ?_
  intro w6 a6 o6 z6 b6
  have hxne : x ≠ w.heap.size := Nat.ne_of_lt HN.out.lt
  replace hS : Two19 w3.heap.size x w4 w6 := ⟨(o6 _ (Ne.symm H4.out.2.2.2.1)).trans hS.1, (o6 _ hxne).trans hS.2⟩
  refine hK.out _ _ hS ?_
  clear hK K
  simp only [Act.put]
  refine rg_take 8 (v := ?rv34) rfl (by kernel_rfl) (by kernel_rfl) (by kernel_rfl) (fun _ _ _ h => h) (by rfl) hS (fun w2 hw2 => ?ry34) ?rr34
  case ry34 => ((try dsimp only at hw2); go_simp <;> with_reducible rfl)
  simp only [Act.put, List.setIfInBounds_toArray, List.set_cons_zero, List.set_cons_succ]
  refine rg_done (by kernel_rfl) ?_
  have bb : Below w.heap.size w w6 := b6 _ _ (Nat.le_refl _) (H4.out.2.2.2.2.trans (b5.mono H4.out.2.2.2.2.size))
  have e6 := (o6 w4.heap.size (by have := lt_blk H4.out.2.1; omega)).trans e5
  have HE := Lib.hid (And.intro a6 (And.intro bb e6))
  clear hw5 e5 b5 z6 o6 b6 a6 bb e6 c1 hS hxne
  go_wp2_with fail
  exact bodyPost_ret (results_rulec rfl _ zero_rule rfl HE.out.1) rfl ⟨_, rfl, ⟨_, rfl, HE.out.2.2⟩, HE.out.2.1⟩
set_option maxHeartbeats 2000000 in
theorem read_net_ok {w : World} {x : Nat} {A : Option Addr} {n c : Nat} {e : Int} (h : LnB w x A n c e) {t : Tk} {ts : List Tk} (hs : TkS w A n c (t :: ts)) {V : Array Value} (hV : V.size = 24) (hV1 : V.all (·.oneCell') = true) (K : ∀ w1, Fr (fun i => i = x) w w1 → Calls Tryz.prog 111 #[.string (mkS t.text)] w1 fun r w' => r = .returned (.tuple #[.agg V, .nilIface]) ∧ Below w1.heap.size w1 w') : Calls Tryz.prog 98 #[.pointer (some ⟨x, 0, none⟩), .func (.func 111) #[] #[]] w fun r w' => r = .returned (.tuple #[.agg V, .nilIface]) ∧ Step w w' x A n c e t ts := by
  have KN := Lib.hid (fun w1 (hb : Below w.heap.size w w1) => next_some19 (h.later hb) (hs.later hb (Nat.le_refl _)))
  have K := Lib.hid K
  have HN := Lib.hid (And.intro h.lt (And.intro hV hV1))
  clear h hs hV hV1
  have hmx : Tryz.prog.follows .mixedOrders = true := by kernel_rfl
  go_enter Tryz.func98, Tryz.ntmps98
  go_wp2_with (refine wpList_alloc_rulec rfl rfl ?_; intro w0 a0 b0 z0; have H0 := Lib.hid (And.intro a0 (And.intro b0 z0)); clear a0 b0 z0)
  refine (KN.out _ H0.out.2.1).mono ?_
  rintro r w1 ⟨rfl, hst0⟩
  have hst1 : Step w0 w1 x A n c e t ts := hst0
  have hxne : w.heap.size ≠ x := Nat.ne_of_gt HN.out.1
  have q4 := (hst1.fr.block _ (lt_blk H0.out.1) hxne).trans H0.out.1
  have H1 := Lib.hid (And.intro (hst1.ahead H0.out.2.1) q4)
  clear hst0 hst1 hxne q4
  go_wp2_with (first
    | (refine wpList_alloc_tk rfl rfl ?_; intro w2 a2 b2 z2; have H2 := Lib.hid (And.intro a2 (And.intro b2 z2)); clear a2 b2 z2)
    | (refine wpList_store_t4 rfl (.tmp 6) (.tmp 14) rfl (tkv t) (tkv_size t) (tkv_one t) rfl rfl rfl H2.out.1 ?_; intro w3 a3 o3 z3 b3; have b4 := b3 w1.heap.size w1 (Nat.le_refl _) H2.out.2.1; obtain ⟨f1, f3⟩ := tk_text a3; have hst := H1.out.1.later b4; have hq4 := (b4.block _ (lt_blk H1.out.2)).trans H1.out.2; have H3 := Lib.hid (And.intro a3 (And.intro hst (And.intro b4 hq4))); clear a3 b3 b4 hst o3 z3 hq4))
  refine (K.out w3 H3.out.2.1.fr).mono ?_
  rintro r w4 ⟨rfl, b4⟩
  have g1 := (b4.cell (p := ⟨w1.heap.size, 1, none⟩) (lt_cell f1)).trans f1
  have hq4 := (b4.block _ (lt_blk H3.out.2.2.2)).trans H3.out.2.2.2
  have hne : w.heap.size < w1.heap.size := lt_blk H1.out.2
  have H4 := Lib.hid (And.intro (H3.out.2.1.later b4) (And.intro hq4 (And.intro g1 hne)))
  clear b4 f1 f3 g1 hq4 hne
  go_wp2_with (first
    | (refine wpList_alloc_rulec rfl rfl ?_; intro w5 a5 b5 z5; have hst5 := H4.out.1.later b5; have hq5 := (b5.block _ (lt_blk H4.out.2.1)).trans H4.out.2.1; have g5 := (b5.cell (p := ⟨w1.heap.size, 1, none⟩) (lt_cell H4.out.2.2.1)).trans H4.out.2.2.1; have hlt5 : w.heap.size < w4.heap.size := lt_blk H4.out.2.1; have hlt6 : w1.heap.size < w4.heap.size := lt_cell H4.out.2.2.1; have H5 := Lib.hid (And.intro a5 (And.intro hst5 (And.intro hq5 (And.intro g5 (And.intro hlt5 hlt6))))); have H5x := Lib.hid b5; clear a5 b5 z5 hst5 hq5 g5 hlt5 hlt6)
    | (refine wpList_store_rulec rfl (.tmp 9) (.tmp 30) rfl V HN.out.2.1 HN.out.2.2 zero_rule rfl rfl H5.out.1 ?_; intro w6 a6 o6 z6 b6; have hst6 := H5.out.2.1.same w4.heap.size (Nat.le_of_lt H5.out.2.2.2.2.1) (by have := HN.out.1; have := H5.out.2.2.2.2.1; omega) o6 z6 b6; have hq6 := (o6 _ (Nat.ne_of_lt H5.out.2.2.2.2.1)).trans H5.out.2.2.1; have g6 := (World.cell?_of_block (w := w5) (a := ⟨w1.heap.size, 1, none⟩) (o6 _ (Nat.ne_of_lt H5.out.2.2.2.2.2))).trans H5.out.2.2.2.1; have H6 := Lib.hid (And.intro a6 (And.intro hst6 (And.intro hq6 g6))); clear a6 o6 z6 b6 hst6 hq6 g6))
  have hS : Two19 w4.heap.size w1.heap.size w6 w6.drew := ⟨rfl, rfl⟩
  have c1 : ∀ w', Two19 w4.heap.size w1.heap.size w6 w' → w'.cell? ⟨w1.heap.size, 1, none⟩ = some (.int .i64 t.at_) := fun w' h => h.cell 1 H6.out.2.2.2
  refine rg_begin (fun w' => Two19 w4.heap.size w1.heap.size w6 w') 7 (by kernel_rfl) rfl ?_
  refine rg_load 0 rfl (by kernel_rfl) (by kernel_rfl) (by kernel_rfl) w4.heap.size 0 V (fun _ _ _ h => h) (by rfl) 55 (.tmp 9) rfl rfl hS (fun w2 h2 => range_block (h2.1.trans H6.out.1)) Tryz.underlying55 rfl (size_rule HN.out.2.1) ?_
  simp only [Act.put, List.setIfInBounds_toArray, List.set_cons_zero, List.set_cons_succ]
  refine rg_take 1 (v := ?rv35) rfl (by kernel_rfl) (by kernel_rfl) (by kernel_rfl) (fun _ _ _ h => h) (by rfl) hS (fun w2 hw2 => ?ry35) ?rr35
  case ry35 => ((try dsimp only at hw2); go_simp <;> with_reducible rfl)
  simp only [Act.put, List.setIfInBounds_toArray, List.set_cons_zero, List.set_cons_succ]
  refine rg_take 2 (v := ?rv36) rfl (by kernel_rfl) (by kernel_rfl) (by kernel_rfl) (fun _ _ _ h => h) (by rfl) hS (fun w2 hw2 => ?ry36) ?rr36
  case ry36 => ((try dsimp only at hw2); go_simp <;> with_reducible rfl)
  simp only [Act.put, List.setIfInBounds_toArray, List.set_cons_zero, List.set_cons_succ]
  refine rg_take 3 (v := ?rv37) rfl (by kernel_rfl) (by kernel_rfl) (by kernel_rfl) (fun _ _ _ h => h) (by rfl) hS (fun w2 hw2 => ?ry37) ?rr37
  case ry37 => ((try dsimp only at hw2); go_simp <;> with_reducible rfl)
  simp only [Act.put, List.setIfInBounds_toArray, List.set_cons_zero, List.set_cons_succ]
  refine rg_step 4 rfl (by kernel_rfl) (by rfl) (fun K hK => ?_)
  go_simp
  refine (wrap_nil _ _).mono ?_
  rintro r w7 ⟨rfl, rfl⟩
  refine hK.out _ _ hS ?_
  clear hK K
  try simp only [Act.put, List.setIfInBounds_toArray, List.set_cons_zero, List.set_cons_succ]
  refine rg_step 5 rfl (by kernel_rfl) (by rfl) (fun K hK => ?_)
  refine wp_store_rulec (.tmp 4) (.tmp 32) rfl V HN.out.2.1 HN.out.2.2 zero_rule rfl rfl H6.out.2.2.1 ?_
  intro w8 a8 o8 z8 b8
  have l1 := H5.out.2.2.2.2.1
  have l2 := H4.out.2.2.2
  replace hS : Two19 w4.heap.size w1.heap.size w6 w8 := ⟨(o8 _ (by omega)).trans hS.1, (o8 _ (by omega)).trans hS.2⟩
  refine hK.out _ _ hS ?_
  clear hK K
  simp only [Act.put]
  refine rg_take 6 (v := ?rv38) rfl (by kernel_rfl) (by kernel_rfl) (by kernel_rfl) (fun _ _ _ h => h) (by rfl) hS (fun w2 hw2 => ?ry38) ?rr38
  case ry38 => ((try dsimp only at hw2); go_simp <;> with_reducible rfl)
  simp only [Act.put, List.setIfInBounds_toArray, List.set_cons_zero, List.set_cons_succ]
  refine rg_done (by kernel_rfl) ?_
  have hst8 := (H6.out.2.1.later ((Below.refl w6.heap.size w6).drew)).same w.heap.size (Nat.le_refl _) (Nat.ne_of_lt HN.out.1) o8 z8 b8
  have HE := Lib.hid (And.intro a8 hst8)
  clear hS c1 a8 o8 z8 b8 hst8 l1 l2
  go_wp2_with fail
  exact bodyPost_ret (results_rulec rfl _ HN.out.2.1 rfl HE.out.1) rfl ⟨rfl, HE.out.2⟩
set_option maxHeartbeats 2000000 in
theorem read_net_err {w : World} {x : Nat} {A : Option Addr} {n c : Nat} {e : Int} (h : LnB w x A n c e) {t : Tk} {ts : List Tk} (hs : TkS w A n c (t :: ts)) {k : Int} {V : Array Value} (hV : V.size = 24) (hV1 : V.all (·.oneCell') = true) (K : ∀ w1, Fr (fun i => i = x) w w1 → Calls Tryz.prog 111 #[.string (mkS t.text)] w1 fun r w' => r = .returned (.tuple #[.agg V, errV k]) ∧ Below w1.heap.size w1 w') : Calls Tryz.prog 98 #[.pointer (some ⟨x, 0, none⟩), .func (.func 111) #[] #[]] w fun r w' => ∃ er, r = .returned (.tuple #[.agg V, er]) ∧ ErrN w' er k t.at_ ∧ Step w w' x A n c e t ts := by
  have KN := Lib.hid (fun w1 (hb : Below w.heap.size w w1) => next_some19 (h.later hb) (hs.later hb (Nat.le_refl _)))
  have K := Lib.hid K
  have HN := Lib.hid (And.intro h.lt (And.intro hV hV1))
  clear h hs hV hV1
  have hmx : Tryz.prog.follows .mixedOrders = true := by kernel_rfl
  go_enter Tryz.func98, Tryz.ntmps98
  go_wp2_with (refine wpList_alloc_rulec rfl rfl ?_; intro w0 a0 b0 z0; have H0 := Lib.hid (And.intro a0 (And.intro b0 z0)); clear a0 b0 z0)
  refine (KN.out _ H0.out.2.1).mono ?_
  rintro r w1 ⟨rfl, hst0⟩
  have hst1 : Step w0 w1 x A n c e t ts := hst0
  have hxne : w.heap.size ≠ x := Nat.ne_of_gt HN.out.1
  have q4 := (hst1.fr.block _ (lt_blk H0.out.1) hxne).trans H0.out.1
  have H1 := Lib.hid (And.intro (hst1.ahead H0.out.2.1) q4)
  clear hst0 hst1 hxne q4
  go_wp2_with (first
    | (refine wpList_alloc_tk rfl rfl ?_; intro w2 a2 b2 z2; have H2 := Lib.hid (And.intro a2 (And.intro b2 z2)); clear a2 b2 z2)
    | (refine wpList_store_t4 rfl (.tmp 6) (.tmp 14) rfl (tkv t) (tkv_size t) (tkv_one t) rfl rfl rfl H2.out.1 ?_; intro w3 a3 o3 z3 b3; have b4 := b3 w1.heap.size w1 (Nat.le_refl _) H2.out.2.1; obtain ⟨f1, f3⟩ := tk_text a3; have hst := H1.out.1.later b4; have hq4 := (b4.block _ (lt_blk H1.out.2)).trans H1.out.2; have H3 := Lib.hid (And.intro a3 (And.intro hst (And.intro b4 hq4))); clear a3 b3 b4 hst o3 z3 hq4))
  refine (K.out w3 H3.out.2.1.fr).mono ?_
  rintro r w4 ⟨rfl, b4⟩
  have g1 := (b4.cell (p := ⟨w1.heap.size, 1, none⟩) (lt_cell f1)).trans f1
  have hq4 := (b4.block _ (lt_blk H3.out.2.2.2)).trans H3.out.2.2.2
  have hne : w.heap.size < w1.heap.size := lt_blk H1.out.2
  have H4 := Lib.hid (And.intro (H3.out.2.1.later b4) (And.intro hq4 (And.intro g1 hne)))
  clear b4 f1 f3 g1 hq4 hne
  unfold errV
  go_wp2_with (first
    | (refine wpList_alloc_rulec rfl rfl ?_; intro w5 a5 b5 z5; have hst5 := H4.out.1.later b5; have hq5 := (b5.block _ (lt_blk H4.out.2.1)).trans H4.out.2.1; have g5 := (b5.cell (p := ⟨w1.heap.size, 1, none⟩) (lt_cell H4.out.2.2.1)).trans H4.out.2.2.1; have hlt5 : w.heap.size < w4.heap.size := lt_blk H4.out.2.1; have hlt6 : w1.heap.size < w4.heap.size := lt_cell H4.out.2.2.1; have H5 := Lib.hid (And.intro a5 (And.intro hst5 (And.intro hq5 (And.intro g5 (And.intro hlt5 hlt6))))); have H5x := Lib.hid b5; clear a5 b5 z5 hst5 hq5 g5 hlt5 hlt6)
    | (refine wpList_store_rulec rfl (.tmp 9) (.tmp 30) rfl V HN.out.2.1 HN.out.2.2 zero_rule rfl rfl H5.out.1 ?_; intro w6 a6 o6 z6 b6; have hst6 := H5.out.2.1.same w4.heap.size (Nat.le_of_lt H5.out.2.2.2.2.1) (by have := HN.out.1; have := H5.out.2.2.2.2.1; omega) o6 z6 b6; have hq6 := (o6 _ (Nat.ne_of_lt H5.out.2.2.2.2.1)).trans H5.out.2.2.1; have g6 := (World.cell?_of_block (w := w5) (a := ⟨w1.heap.size, 1, none⟩) (o6 _ (Nat.ne_of_lt H5.out.2.2.2.2.2))).trans H5.out.2.2.2.1; have H6 := Lib.hid (And.intro a6 (And.intro hst6 (And.intro hq6 g6))); clear a6 o6 z6 b6 hst6 hq6 g6))
  have hS : Two19 w4.heap.size w1.heap.size w6 w6.drew := ⟨rfl, rfl⟩
  have c1 : ∀ w', Two19 w4.heap.size w1.heap.size w6 w' → w'.cell? ⟨w1.heap.size, 1, none⟩ = some (.int .i64 t.at_) := fun w' h => h.cell 1 H6.out.2.2.2
  refine rg_begin (fun w' => Two19 w4.heap.size w1.heap.size w6 w') 7 (by kernel_rfl) rfl ?_
  refine rg_load 0 rfl (by kernel_rfl) (by kernel_rfl) (by kernel_rfl) w4.heap.size 0 V (fun _ _ _ h => h) (by rfl) 55 (.tmp 9) rfl rfl hS (fun w2 h2 => range_block (h2.1.trans H6.out.1)) Tryz.underlying55 rfl (size_rule HN.out.2.1) ?_
  simp only [Act.put, List.setIfInBounds_toArray, List.set_cons_zero, List.set_cons_succ]
  refine rg_take 1 (v := ?rv39) rfl (by kernel_rfl) (by kernel_rfl) (by kernel_rfl) (fun _ _ _ h => h) (by rfl) hS (fun w2 hw2 => ?ry39) ?rr39
  case ry39 => ((try dsimp only at hw2); go_simp <;> with_reducible rfl)
  simp only [Act.put, List.setIfInBounds_toArray, List.set_cons_zero, List.set_cons_succ]
  refine rg_take 2 (v := ?rv40) rfl (by kernel_rfl) (by kernel_rfl) (by kernel_rfl) (fun _ _ _ h => h) (by rfl) hS (fun w2 hw2 => ?ry40) ?rr40
  case ry40 => ((try dsimp only at hw2); go_simp <;> with_reducible rfl)
  simp only [Act.put, List.setIfInBounds_toArray, List.set_cons_zero, List.set_cons_succ]
  refine rg_take 3 (v := ?rv41) rfl (by kernel_rfl) (by kernel_rfl) (by kernel_rfl) (fun _ _ _ h => h) (by rfl) hS (fun w2 hw2 => ?ry41) ?rr41
  case ry41 => ((try dsimp only at hw2); go_simp <;> with_reducible rfl)
  simp only [Act.put, List.setIfInBounds_toArray, List.set_cons_zero, List.set_cons_succ]
  refine rg_step 4 rfl (by kernel_rfl) (by rfl) (fun K hK => ?_)
  go_simp
  refine (wrap_some _ _ _ _).mono ?_
  rintro r w7 ⟨rfl, rfl⟩
  have b7 : Below w6.heap.size w6 (w6.drew.alloc (.cells #[.int .i64 t.at_, .iface 37 (.int .i64 k)] 90)) := ((Below.refl _ _).drew).alloc (Nat.le_refl _) _
  have e7 : (w6.drew.alloc (.cells #[.int .i64 t.at_, .iface 37 (.int .i64 k)] 90)).heap[w6.heap.size]? = some (.cells #[.int .i64 t.at_, errV k] 90 (0, 0)) := heap_alloc_last w6.drew _
  obtain ⟨w7, hw7⟩ : ∃ w7, w6.drew.alloc (.cells #[.int .i64 t.at_, .iface 37 (.int .i64 k)] 90) = w7 := ⟨_, rfl⟩
  rw [hw7] at b7 e7 ⊢
  have hq7 := (b7.block _ (lt_blk H6.out.2.2.1)).trans H6.out.2.2.1
  replace hS : Two19 w4.heap.size w1.heap.size w6 w7 := ⟨b7.block _ (lt_blk H6.out.1), b7.block _ (lt_cell H6.out.2.2.2)⟩
  refine hK.out _ _ hS ?_
  clear hK K
  try simp only [Act.put, List.setIfInBounds_toArray, List.set_cons_zero, List.set_cons_succ]
  refine rg_step 5 rfl (by kernel_rfl) (by rfl) (fun K hK => ?_)
  refine wp_store_rulec (.tmp 4) (.tmp 32) rfl V HN.out.2.1 HN.out.2.2 zero_rule rfl rfl hq7 ?_
  intro w8 a8 o8 z8 b8
  have l1 := H5.out.2.2.2.2.1
  have l2 := H4.out.2.2.2
  replace hS : Two19 w4.heap.size w1.heap.size w6 w8 := ⟨(o8 _ (by omega)).trans hS.1, (o8 _ (by omega)).trans hS.2⟩
  refine hK.out _ _ hS ?_
  clear hK K
  simp only [Act.put]
  refine rg_take 6 (v := ?rv42) rfl (by kernel_rfl) (by kernel_rfl) (by kernel_rfl) (fun _ _ _ h => h) (by rfl) hS (fun w2 hw2 => ?ry42) ?rr42
  case ry42 => ((try dsimp only at hw2); go_simp <;> with_reducible rfl)
  simp only [Act.put, List.setIfInBounds_toArray, List.set_cons_zero, List.set_cons_succ]
  refine rg_done (by kernel_rfl) ?_
  have hst8 := (H6.out.2.1.later b7).same w.heap.size (Nat.le_refl _) (Nat.ne_of_lt HN.out.1) o8 z8 b8
  have e8 := (o8 w6.heap.size (by have := lt_blk H6.out.1; omega)).trans e7
  have HE := Lib.hid (And.intro a8 (And.intro hst8 e8))
  clear hS c1 a8 o8 z8 b8 hst8 e8 e7 b7 hw7 hq7 l1 l2
  go_wp2_with fail
  exact bodyPost_ret (results_rulec rfl _ HN.out.2.1 rfl HE.out.1) rfl ⟨_, rfl, ⟨_, rfl, HE.out.2.2⟩, HE.out.2.1⟩
set_option maxHeartbeats 2000000 in
theorem read_ports_none {w : World} {x : Nat} {A : Option Addr} {c : Nat} {e : Int} (h : LnB w x A 0 c e) : Calls Tryz.prog 101 #[.pointer (some ⟨x, 0, none⟩), .func (.func 102) #[] #[]] w fun r w' => ∃ er, r = .returned (.tuple #[.agg (spv 0 0), er]) ∧ ErrN w' er 15 e ∧ Below w.heap.size w w' := by
  have K := Lib.hid (fun w1 (hb : Below w.heap.size w w1) => next_none19 (h.later hb))
  have HN := Lib.hid h
  clear h
  have hmx : Tryz.prog.follows .mixedOrders = true := by kernel_rfl
  go_enter Tryz.func101, Tryz.ntmps101
  go_wp2_with (refine wpList_alloc_spanc rfl rfl ?_; intro w0 a0 b0 z0; have H0 := Lib.hid (And.intro a0 (And.intro b0 z0)); clear a0 b0 z0)
  refine (K.out _ H0.out.2.1).mono ?_
  rintro r w1 ⟨rfl, b1⟩
  have bw1 := H0.out.2.1.trans (b1.mono H0.out.2.1.size)
  have q4 := (b1.block _ (lt_blk H0.out.1)).trans H0.out.1
  have H1 := Lib.hid (And.intro bw1 (And.intro q4 (HN.out.later bw1)))
  clear b1 bw1 q4
  go_wp2_with (first
    | (refine wpList_alloc_tk rfl rfl ?_; intro w2 a2 b2 z2; have H2 := Lib.hid (And.intro a2 (And.intro b2 z2)); clear a2 b2 z2)
    | (refine wpList_store_t4 rfl (.tmp 6) (.tmp 14) rfl tkZ rfl tkZ_one rfl rfl rfl H2.out.1 ?_; intro w3 a3 o3 z3 b3; have b4 := b3 w1.heap.size w1 (Nat.le_refl _) H2.out.2.1; have hq4 := (b4.block _ (lt_blk H1.out.2.1)).trans H1.out.2.1; have hl3 := H1.out.2.2.later b4; have H3 := Lib.hid (And.intro hq4 (And.intro hl3 (H1.out.1.trans (b4.mono H1.out.1.size)))); clear a3 o3 z3 b3 b4 hq4 hl3)
    | (have H3' := H3; refine wpList_alloc_spanc rfl rfl ?_; intro w4 a4 b4 z4; have hq4 := (b4.block _ (lt_blk H3'.out.1)).trans H3'.out.1; have hl4 := H3'.out.2.1.later b4; have hne : w.heap.size ≠ w3.heap.size := Nat.ne_of_lt (lt_blk H3'.out.1); have H4 := Lib.hid (And.intro a4 (And.intro hq4 (And.intro hl4 (And.intro hne (H3'.out.2.2.trans (b4.mono H3'.out.2.2.size)))))); clear a4 b4 z4 hq4 hl4 hne H3'))
  have hS : Two19 w3.heap.size x w4 w4.drew := ⟨rfl, rfl⟩
  have c1 : ∀ w', Two19 w3.heap.size x w4 w' → w'.cell? ⟨x, 1, none⟩ = some (.int .i64 e) := fun w' h => h.cell 1 H4.out.2.2.1.cell1
  refine rg_begin (fun w' => Two19 w3.heap.size x w4 w') 9 (by kernel_rfl) rfl ?_
  refine rg_load 0 rfl (by kernel_rfl) (by kernel_rfl) (by kernel_rfl) w3.heap.size 0 (spv 0 0) (fun _ _ _ h => h) (by rfl) 180 (.tmp 8) rfl rfl hS (fun w2 h2 => range_block (h2.1.trans H4.out.1)) Tryz.underlying180 rfl (size_span zero_span) ?_
  simp only [Act.put, List.setIfInBounds_toArray, List.set_cons_zero, List.set_cons_succ]
  refine rg_take 1 (v := ?rv43) rfl (by kernel_rfl) (by kernel_rfl) (by kernel_rfl) (fun _ _ _ h => h) (by rfl) hS (fun w2 hw2 => ?ry43) ?rr43
  case ry43 => ((try dsimp only at hw2); go_simp <;> with_reducible rfl)
  simp only [Act.put, List.setIfInBounds_toArray, List.set_cons_zero, List.set_cons_succ]
  refine rg_take 2 (v := ?rv44) rfl (by kernel_rfl) (by kernel_rfl) (by kernel_rfl) (fun _ _ _ h => h) (by rfl) hS (fun w2 hw2 => ?ry44) ?rr44
  case ry44 => ((try dsimp only at hw2); go_simp <;> with_reducible rfl)
  simp only [Act.put, List.setIfInBounds_toArray, List.set_cons_zero, List.set_cons_succ]
  refine rg_take 3 (v := ?rv45) rfl (by kernel_rfl) (by kernel_rfl) (by kernel_rfl) (fun _ _ _ h => h) (by rfl) hS (fun w2 hw2 => ?ry45) ?rr45
  case ry45 => ((try dsimp only at hw2); go_simp <;> with_reducible rfl)
  simp only [Act.put, List.setIfInBounds_toArray, List.set_cons_zero, List.set_cons_succ]
  refine rg_take 4 (v := ?rv46) rfl (by kernel_rfl) (by kernel_rfl) (by kernel_rfl) (fun _ _ _ h => h) (by rfl) hS (fun w2 hw2 => ?ry46) ?rr46
  case ry46 => ((try dsimp only at hw2); go_simp <;> with_reducible rfl)
  simp only [Act.put, List.setIfInBounds_toArray, List.set_cons_zero, List.set_cons_succ]
  refine rg_take 5 (v := ?rv47) rfl (by kernel_rfl) (by kernel_rfl) (by kernel_rfl) (fun _ _ _ h => h) (by rfl) hS (fun w2 hw2 => ?ry47) ?rr47
  case ry47 => ((try dsimp only at hw2); go_simp <;> with_reducible rfl)
  simp only [Act.put, List.setIfInBounds_toArray, List.set_cons_zero, List.set_cons_succ]
  refine rg_step 6 rfl (by kernel_rfl) (by rfl) (fun K hK => ?_)
  go_simp
  refine (wrap_some _ _ _ _).mono ?_
  rintro r w5 ⟨rfl, rfl⟩
  have b5 : Below w4.heap.size w4 (w4.drew.alloc (.cells #[.int .i64 e, .iface 37 (.int .i64 15)] 90)) := ((Below.refl _ _).drew).alloc (Nat.le_refl _) _
  have e5 : (w4.drew.alloc (.cells #[.int .i64 e, .iface 37 (.int .i64 15)] 90)).heap[w4.heap.size]? = some (.cells #[.int .i64 e, errV 15] 90 (0, 0)) := heap_alloc_last w4.drew _
  obtain ⟨w5, hw5⟩ : ∃ w5, w4.drew.alloc (.cells #[.int .i64 e, .iface 37 (.int .i64 15)] 90) = w5 := ⟨_, rfl⟩
  rw [hw5] at b5 e5 ⊢
  replace hS : Two19 w3.heap.size x w4 w5 := ⟨b5.block _ (lt_blk H4.out.1), b5.block _ H4.out.2.2.1.lt⟩
  refine hK.out _ _ hS ?_
  clear hK K
  try simp only [Act.put, List.setIfInBounds_toArray, List.set_cons_zero, List.set_cons_succ]
  refine rg_step 7 rfl (by kernel_rfl) (by rfl) (fun K hK => ?_)
  refine wp_store_spanc (.tmp 4) (.tmp 18) rfl (spv 0 0) zero_span (by kernel_rfl) zero_span rfl rfl ((b5.block _ (lt_blk H4.out.2.1)).trans H4.out.2.1) ?_
  intro w6 a6 o6 z6 b6
  have hxne : x ≠ w.heap.size := Nat.ne_of_lt HN.out.lt
  replace hS : Two19 w3.heap.size x w4 w6 := ⟨(o6 _ (Ne.symm H4.out.2.2.2.1)).trans hS.1, (o6 _ hxne).trans hS.2⟩
  refine hK.out _ _ hS ?_
  clear hK K
  simp only [Act.put]
  refine rg_take 8 (v := ?rv48) rfl (by kernel_rfl) (by kernel_rfl) (by kernel_rfl) (fun _ _ _ h => h) (by rfl) hS (fun w2 hw2 => ?ry48) ?rr48
  case ry48 => ((try dsimp only at hw2); go_simp <;> with_reducible rfl)
  simp only [Act.put, List.setIfInBounds_toArray, List.set_cons_zero, List.set_cons_succ]
  refine rg_done (by kernel_rfl) ?_
  have bb : Below w.heap.size w w6 := b6 _ _ (Nat.le_refl _) (H4.out.2.2.2.2.trans (b5.mono H4.out.2.2.2.2.size))
  have e6 := (o6 w4.heap.size (by have := lt_blk H4.out.2.1; omega)).trans e5
  have HE := Lib.hid (And.intro a6 (And.intro bb e6))
  clear hw5 e5 b5 z6 o6 b6 a6 bb e6 c1 hS hxne
  go_wp2_with fail
  exact bodyPost_ret (results_spanc rfl _ zero_span rfl HE.out.1) rfl ⟨_, rfl, ⟨_, rfl, HE.out.2.2⟩, HE.out.2.1⟩
set_option maxHeartbeats 2000000 in
theorem read_ports_ok {w : World} {x : Nat} {A : Option Addr} {n c : Nat} {e : Int} (h : LnB w x A n c e) {t : Tk} {ts : List Tk} (hs : TkS w A n c (t :: ts)) {V : Array Value} (hV : V.size = 2) (hV1 : V.all (·.oneCell') = true) (K : ∀ w1, Fr (fun i => i = x) w w1 → Calls Tryz.prog 102 #[.string (mkS t.text)] w1 fun r w' => r = .returned (.tuple #[.agg V, .nilIface]) ∧ Below w1.heap.size w1 w') : Calls Tryz.prog 101 #[.pointer (some ⟨x, 0, none⟩), .func (.func 102) #[] #[]] w fun r w' => r = .returned (.tuple #[.agg V, .nilIface]) ∧ Step w w' x A n c e t ts := by
  have KN := Lib.hid (fun w1 (hb : Below w.heap.size w w1) => next_some19 (h.later hb) (hs.later hb (Nat.le_refl _)))
  have K := Lib.hid K
  have HN := Lib.hid (And.intro h.lt (And.intro hV hV1))
  clear h hs hV hV1
  have hmx : Tryz.prog.follows .mixedOrders = true := by kernel_rfl
  go_enter Tryz.func101, Tryz.ntmps101
  go_wp2_with (refine wpList_alloc_spanc rfl rfl ?_; intro w0 a0 b0 z0; have H0 := Lib.hid (And.intro a0 (And.intro b0 z0)); clear a0 b0 z0)
  refine (KN.out _ H0.out.2.1).mono ?_
  rintro r w1 ⟨rfl, hst0⟩
  have hst1 : Step w0 w1 x A n c e t ts := hst0
  have hxne : w.heap.size ≠ x := Nat.ne_of_gt HN.out.1
  have q4 := (hst1.fr.block _ (lt_blk H0.out.1) hxne).trans H0.out.1
  have H1 := Lib.hid (And.intro (hst1.ahead H0.out.2.1) q4)
  clear hst0 hst1 hxne q4
  go_wp2_with (first
    | (refine wpList_alloc_tk rfl rfl ?_; intro w2 a2 b2 z2; have H2 := Lib.hid (And.intro a2 (And.intro b2 z2)); clear a2 b2 z2)
    | (refine wpList_store_t4 rfl (.tmp 6) (.tmp 14) rfl (tkv t) (tkv_size t) (tkv_one t) rfl rfl rfl H2.out.1 ?_; intro w3 a3 o3 z3 b3; have b4 := b3 w1.heap.size w1 (Nat.le_refl _) H2.out.2.1; obtain ⟨f1, f3⟩ := tk_text a3; have hst := H1.out.1.later b4; have hq4 := (b4.block _ (lt_blk H1.out.2)).trans H1.out.2; have H3 := Lib.hid (And.intro a3 (And.intro hst (And.intro b4 hq4))); clear a3 b3 b4 hst o3 z3 hq4))
  refine (K.out w3 H3.out.2.1.fr).mono ?_
  rintro r w4 ⟨rfl, b4⟩
  have g1 := (b4.cell (p := ⟨w1.heap.size, 1, none⟩) (lt_cell f1)).trans f1
  have hq4 := (b4.block _ (lt_blk H3.out.2.2.2)).trans H3.out.2.2.2
  have hne : w.heap.size < w1.heap.size := lt_blk H1.out.2
  have H4 := Lib.hid (And.intro (H3.out.2.1.later b4) (And.intro hq4 (And.intro g1 hne)))
  clear b4 f1 f3 g1 hq4 hne
  go_wp2_with (first
    | (refine wpList_alloc_spanc rfl rfl ?_; intro w5 a5 b5 z5; have hst5 := H4.out.1.later b5; have hq5 := (b5.block _ (lt_blk H4.out.2.1)).trans H4.out.2.1; have g5 := (b5.cell (p := ⟨w1.heap.size, 1, none⟩) (lt_cell H4.out.2.2.1)).trans H4.out.2.2.1; have hlt5 : w.heap.size < w4.heap.size := lt_blk H4.out.2.1; have hlt6 : w1.heap.size < w4.heap.size := lt_cell H4.out.2.2.1; have H5 := Lib.hid (And.intro a5 (And.intro hst5 (And.intro hq5 (And.intro g5 (And.intro hlt5 hlt6))))); have H5x := Lib.hid b5; clear a5 b5 z5 hst5 hq5 g5 hlt5 hlt6)
    | (refine wpList_store_spanc rfl (.tmp 9) (.tmp 30) rfl V HN.out.2.1 HN.out.2.2 zero_span rfl rfl H5.out.1 ?_; intro w6 a6 o6 z6 b6; have hst6 := H5.out.2.1.same w4.heap.size (Nat.le_of_lt H5.out.2.2.2.2.1) (by have := HN.out.1; have := H5.out.2.2.2.2.1; omega) o6 z6 b6; have hq6 := (o6 _ (Nat.ne_of_lt H5.out.2.2.2.2.1)).trans H5.out.2.2.1; have g6 := (World.cell?_of_block (w := w5) (a := ⟨w1.heap.size, 1, none⟩) (o6 _ (Nat.ne_of_lt H5.out.2.2.2.2.2))).trans H5.out.2.2.2.1; have H6 := Lib.hid (And.intro a6 (And.intro hst6 (And.intro hq6 g6))); clear a6 o6 z6 b6 hst6 hq6 g6))
  have hS : Two19 w4.heap.size w1.heap.size w6 w6.drew := ⟨rfl, rfl⟩
  have c1 : ∀ w', Two19 w4.heap.size w1.heap.size w6 w' → w'.cell? ⟨w1.heap.size, 1, none⟩ = some (.int .i64 t.at_) := fun w' h => h.cell 1 H6.out.2.2.2
  refine rg_begin (fun w' => Two19 w4.heap.size w1.heap.size w6 w') 7 (by kernel_rfl) rfl ?_
  refine rg_load 0 rfl (by kernel_rfl) (by kernel_rfl) (by kernel_rfl) w4.heap.size 0 V (fun _ _ _ h => h) (by rfl) 180 (.tmp 9) rfl rfl hS (fun w2 h2 => range_block (h2.1.trans H6.out.1)) Tryz.underlying180 rfl (size_span HN.out.2.1) ?_
  simp only [Act.put, List.setIfInBounds_toArray, List.set_cons_zero, List.set_cons_succ]
  refine rg_take 1 (v := ?rv49) rfl (by kernel_rfl) (by kernel_rfl) (by kernel_rfl) (fun _ _ _ h => h) (by rfl) hS (fun w2 hw2 => ?ry49) ?rr49
  case ry49 => ((try dsimp only at hw2); go_simp <;> with_reducible rfl)
  simp only [Act.put, List.setIfInBounds_toArray, List.set_cons_zero, List.set_cons_succ]
  refine rg_take 2 (v := ?rv50) rfl (by kernel_rfl) (by kernel_rfl) (by kernel_rfl) (fun _ _ _ h => h) (by rfl) hS (fun w2 hw2 => ?ry50) ?rr50
  case ry50 => ((try dsimp only at hw2); go_simp <;> with_reducible rfl)
  simp only [Act.put, List.setIfInBounds_toArray, List.set_cons_zero, List.set_cons_succ]
  refine rg_take 3 (v := ?rv51) rfl (by kernel_rfl) (by kernel_rfl) (by kernel_rfl) (fun _ _ _ h => h) (by rfl) hS (fun w2 hw2 => ?ry51) ?rr51
  case ry51 => ((try dsimp only at hw2); go_simp <;> with_reducible rfl)
  simp only [Act.put, List.setIfInBounds_toArray, List.set_cons_zero, List.set_cons_succ]
  refine rg_step 4 rfl (by kernel_rfl) (by rfl) (fun K hK => ?_)
  go_simp
  refine (wrap_nil _ _).mono ?_
  rintro r w7 ⟨rfl, rfl⟩
  refine hK.out _ _ hS ?_
  clear hK K
  try simp only [Act.put, List.setIfInBounds_toArray, List.set_cons_zero, List.set_cons_succ]
  refine rg_step 5 rfl (by kernel_rfl) (by rfl) (fun K hK => ?_)
  refine wp_store_spanc (.tmp 4) (.tmp 32) rfl V HN.out.2.1 HN.out.2.2 zero_span rfl rfl H6.out.2.2.1 ?_
  intro w8 a8 o8 z8 b8
  have l1 := H5.out.2.2.2.2.1
  have l2 := H4.out.2.2.2
  replace hS : Two19 w4.heap.size w1.heap.size w6 w8 := ⟨(o8 _ (by omega)).trans hS.1, (o8 _ (by omega)).trans hS.2⟩
  refine hK.out _ _ hS ?_
  clear hK K
  simp only [Act.put]
  refine rg_take 6 (v := ?rv52) rfl (by kernel_rfl) (by kernel_rfl) (by kernel_rfl) (fun _ _ _ h => h) (by rfl) hS (fun w2 hw2 => ?ry52) ?rr52
  case ry52 => ((try dsimp only at hw2); go_simp <;> with_reducible rfl)
  simp only [Act.put, List.setIfInBounds_toArray, List.set_cons_zero, List.set_cons_succ]
  refine rg_done (by kernel_rfl) ?_
  have hst8 := (H6.out.2.1.later ((Below.refl w6.heap.size w6).drew)).same w.heap.size (Nat.le_refl _) (Nat.ne_of_lt HN.out.1) o8 z8 b8
  have HE := Lib.hid (And.intro a8 hst8)
  clear hS c1 a8 o8 z8 b8 hst8 l1 l2
  go_wp2_with fail
  exact bodyPost_ret (results_spanc rfl _ HN.out.2.1 rfl HE.out.1) rfl ⟨rfl, HE.out.2⟩
set_option maxHeartbeats 2000000 in
theorem read_ports_err {w : World} {x : Nat} {A : Option Addr} {n c : Nat} {e : Int} (h : LnB w x A n c e) {t : Tk} {ts : List Tk} (hs : TkS w A n c (t :: ts)) {k : Int} {V : Array Value} (hV : V.size = 2) (hV1 : V.all (·.oneCell') = true) (K : ∀ w1, Fr (fun i => i = x) w w1 → Calls Tryz.prog 102 #[.string (mkS t.text)] w1 fun r w' => r = .returned (.tuple #[.agg V, errV k]) ∧ Below w1.heap.size w1 w') : Calls Tryz.prog 101 #[.pointer (some ⟨x, 0, none⟩), .func (.func 102) #[] #[]] w fun r w' => ∃ er, r = .returned (.tuple #[.agg V, er]) ∧ ErrN w' er k t.at_ ∧ Step w w' x A n c e t ts := by
  have KN := Lib.hid (fun w1 (hb : Below w.heap.size w w1) => next_some19 (h.later hb) (hs.later hb (Nat.le_refl _)))
  have K := Lib.hid K
  have HN := Lib.hid (And.intro h.lt (And.intro hV hV1))
  clear h hs hV hV1
  have hmx : Tryz.prog.follows .mixedOrders = true := by kernel_rfl
  go_enter Tryz.func101, Tryz.ntmps101
  go_wp2_with (refine wpList_alloc_spanc rfl rfl ?_; intro w0 a0 b0 z0; have H0 := Lib.hid (And.intro a0 (And.intro b0 z0)); clear a0 b0 z0)
  refine (KN.out _ H0.out.2.1).mono ?_
  rintro r w1 ⟨rfl, hst0⟩
  have hst1 : Step w0 w1 x A n c e t ts := hst0
  have hxne : w.heap.size ≠ x := Nat.ne_of_gt HN.out.1
  have q4 := (hst1.fr.block _ (lt_blk H0.out.1) hxne).trans H0.out.1
  have H1 := Lib.hid (And.intro (hst1.ahead H0.out.2.1) q4)
  clear hst0 hst1 hxne q4
  go_wp2_with (first
    | (refine wpList_alloc_tk rfl rfl ?_; intro w2 a2 b2 z2; have H2 := Lib.hid (And.intro a2 (And.intro b2 z2)); clear a2 b2 z2)
    | (refine wpList_store_t4 rfl (.tmp 6) (.tmp 14) rfl (tkv t) (tkv_size t) (tkv_one t) rfl rfl rfl H2.out.1 ?_; intro w3 a3 o3 z3 b3; have b4 := b3 w1.heap.size w1 (Nat.le_refl _) H2.out.2.1; obtain ⟨f1, f3⟩ := tk_text a3; have hst := H1.out.1.later b4; have hq4 := (b4.block _ (lt_blk H1.out.2)).trans H1.out.2; have H3 := Lib.hid (And.intro a3 (And.intro hst (And.intro b4 hq4))); clear a3 b3 b4 hst o3 z3 hq4))
  refine (K.out w3 H3.out.2.1.fr).mono ?_
  rintro r w4 ⟨rfl, b4⟩
  have g1 := (b4.cell (p := ⟨w1.heap.size, 1, none⟩) (lt_cell f1)).trans f1
  have hq4 := (b4.block _ (lt_blk H3.out.2.2.2)).trans H3.out.2.2.2
  have hne : w.heap.size < w1.heap.size := lt_blk H1.out.2
  have H4 := Lib.hid (And.intro (H3.out.2.1.later b4) (And.intro hq4 (And.intro g1 hne)))
  clear b4 f1 f3 g1 hq4 hne
  unfold errV
  go_wp2_with (first
    | (refine wpList_alloc_spanc rfl rfl ?_; intro w5 a5 b5 z5; have hst5 := H4.out.1.later b5; have hq5 := (b5.block _ (lt_blk H4.out.2.1)).trans H4.out.2.1; have g5 := (b5.cell (p := ⟨w1.heap.size, 1, none⟩) (lt_cell H4.out.2.2.1)).trans H4.out.2.2.1; have hlt5 : w.heap.size < w4.heap.size := lt_blk H4.out.2.1; have hlt6 : w1.heap.size < w4.heap.size := lt_cell H4.out.2.2.1; have H5 := Lib.hid (And.intro a5 (And.intro hst5 (And.intro hq5 (And.intro g5 (And.intro hlt5 hlt6))))); have H5x := Lib.hid b5; clear a5 b5 z5 hst5 hq5 g5 hlt5 hlt6)
    | (refine wpList_store_spanc rfl (.tmp 9) (.tmp 30) rfl V HN.out.2.1 HN.out.2.2 zero_span rfl rfl H5.out.1 ?_; intro w6 a6 o6 z6 b6; have hst6 := H5.out.2.1.same w4.heap.size (Nat.le_of_lt H5.out.2.2.2.2.1) (by have := HN.out.1; have := H5.out.2.2.2.2.1; omega) o6 z6 b6; have hq6 := (o6 _ (Nat.ne_of_lt H5.out.2.2.2.2.1)).trans H5.out.2.2.1; have g6 := (World.cell?_of_block (w := w5) (a := ⟨w1.heap.size, 1, none⟩) (o6 _ (Nat.ne_of_lt H5.out.2.2.2.2.2))).trans H5.out.2.2.2.1; have H6 := Lib.hid (And.intro a6 (And.intro hst6 (And.intro hq6 g6))); clear a6 o6 z6 b6 hst6 hq6 g6))
  have hS : Two19 w4.heap.size w1.heap.size w6 w6.drew := ⟨rfl, rfl⟩
  have c1 : ∀ w', Two19 w4.heap.size w1.heap.size w6 w' → w'.cell? ⟨w1.heap.size, 1, none⟩ = some (.int .i64 t.at_) := fun w' h => h.cell 1 H6.out.2.2.2
  refine rg_begin (fun w' => Two19 w4.heap.size w1.heap.size w6 w') 7 (by kernel_rfl) rfl ?_
  refine rg_load 0 rfl (by kernel_rfl) (by kernel_rfl) (by kernel_rfl) w4.heap.size 0 V (fun _ _ _ h => h) (by rfl) 180 (.tmp 9) rfl rfl hS (fun w2 h2 => range_block (h2.1.trans H6.out.1)) Tryz.underlying180 rfl (size_span HN.out.2.1) ?_
  simp only [Act.put, List.setIfInBounds_toArray, List.set_cons_zero, List.set_cons_succ]
  refine rg_take 1 (v := ?rv53) rfl (by kernel_rfl) (by kernel_rfl) (by kernel_rfl) (fun _ _ _ h => h) (by rfl) hS (fun w2 hw2 => ?ry53) ?rr53
  case ry53 => ((try dsimp only at hw2); go_simp <;> with_reducible rfl)
  simp only [Act.put, List.setIfInBounds_toArray, List.set_cons_zero, List.set_cons_succ]
  refine rg_take 2 (v := ?rv54) rfl (by kernel_rfl) (by kernel_rfl) (by kernel_rfl) (fun _ _ _ h => h) (by rfl) hS (fun w2 hw2 => ?ry54) ?rr54
  case ry54 => ((try dsimp only at hw2); go_simp <;> with_reducible rfl)
  simp only [Act.put, List.setIfInBounds_toArray, List.set_cons_zero, List.set_cons_succ]
  refine rg_take 3 (v := ?rv55) rfl (by kernel_rfl) (by kernel_rfl) (by kernel_rfl) (fun _ _ _ h => h) (by rfl) hS (fun w2 hw2 => ?ry55) ?rr55
  case ry55 => ((try dsimp only at hw2); go_simp <;> with_reducible rfl)
  simp only [Act.put, List.setIfInBounds_toArray, List.set_cons_zero, List.set_cons_succ]
  refine rg_step 4 rfl (by kernel_rfl) (by rfl) (fun K hK => ?_)
  go_simp
  refine (wrap_some _ _ _ _).mono ?_
  rintro r w7 ⟨rfl, rfl⟩
  have b7 : Below w6.heap.size w6 (w6.drew.alloc (.cells #[.int .i64 t.at_, .iface 37 (.int .i64 k)] 90)) := ((Below.refl _ _).drew).alloc (Nat.le_refl _) _
  have e7 : (w6.drew.alloc (.cells #[.int .i64 t.at_, .iface 37 (.int .i64 k)] 90)).heap[w6.heap.size]? = some (.cells #[.int .i64 t.at_, errV k] 90 (0, 0)) := heap_alloc_last w6.drew _
  obtain ⟨w7, hw7⟩ : ∃ w7, w6.drew.alloc (.cells #[.int .i64 t.at_, .iface 37 (.int .i64 k)] 90) = w7 := ⟨_, rfl⟩
  rw [hw7] at b7 e7 ⊢
  have hq7 := (b7.block _ (lt_blk H6.out.2.2.1)).trans H6.out.2.2.1
  replace hS : Two19 w4.heap.size w1.heap.size w6 w7 := ⟨b7.block _ (lt_blk H6.out.1), b7.block _ (lt_cell H6.out.2.2.2)⟩
  refine hK.out _ _ hS ?_
  clear hK K
  try simp only [Act.put, List.setIfInBounds_toArray, List.set_cons_zero, List.set_cons_succ]
  refine rg_step 5 rfl (by kernel_rfl) (by rfl) (fun K hK => ?_)
  refine wp_store_spanc (.tmp 4) (.tmp 32) rfl V HN.out.2.1 HN.out.2.2 zero_span rfl rfl hq7 ?_
  intro w8 a8 o8 z8 b8
  have l1 := H5.out.2.2.2.2.1
  have l2 := H4.out.2.2.2
  replace hS : Two19 w4.heap.size w1.heap.size w6 w8 := ⟨(o8 _ (by omega)).trans hS.1, (o8 _ (by omega)).trans hS.2⟩
  refine hK.out _ _ hS ?_
  clear hK K
  simp only [Act.put]
  refine rg_take 6 (v := ?rv56) rfl (by kernel_rfl) (by kernel_rfl) (by kernel_rfl) (fun _ _ _ h => h) (by rfl) hS (fun w2 hw2 => ?ry56) ?rr56
  case ry56 => ((try dsimp only at hw2); go_simp <;> with_reducible rfl)
  simp only [Act.put, List.setIfInBounds_toArray, List.set_cons_zero, List.set_cons_succ]
  refine rg_done (by kernel_rfl) ?_
  have hst8 := (H6.out.2.1.later b7).same w.heap.size (Nat.le_refl _) (Nat.ne_of_lt HN.out.1) o8 z8 b8
  have e8 := (o8 w6.heap.size (by have := lt_blk H6.out.1; omega)).trans e7
  have HE := Lib.hid (And.intro a8 (And.intro hst8 e8))
  clear hS c1 a8 o8 z8 b8 hst8 e8 e7 b7 hw7 hq7 l1 l2
  go_wp2_with fail
  exact bodyPost_ret (results_spanc rfl _ HN.out.2.1 rfl HE.out.1) rfl ⟨_, rfl, ⟨_, rfl, HE.out.2.2⟩, HE.out.2.1⟩
end Go.Proofs.YtoagfmonfgagbaaGreatDoor

namespace Go.Proofs.YtoagfmonfgagbaaGreatDoor
open Go.RowKit
set_option maxRecDepth 100000
abbrev Nt19 := Bool × List UInt8 × Nat
abbrev Ru19 := Ru Nt19
abbrev Rs19 := Rls Ad19 Nt19
def rwR (x : Ru19) : Rw := rwOf x.allow x.pat x.proto x.low x.high
structure RB (w : World) (base g : Nat) (v1 v2 : Value) (r : Rs19) : Prop where
  box : w.heap[g]? = some (.cells #[v1, v2] 25 (0, 0))
  s : A9O w base v1 r.servers
  u : RwO w base v2 (r.rules.map rwR)
  n1 : v1.ownBlock ≠ some g
  n2 : v2.ownBlock ≠ some g
  n12 : ∀ b, v1.ownBlock = some b → v2.ownBlock ≠ some b
  base_g : base ≤ g
theorem RB.lt {w : World} {base g : Nat} {v1 v2 : Value} {r : Rs19} (h : RB w base g v1 v2 r) : g < w.heap.size := (Array.getElem?_eq_some_iff.1 h.box).1
def Sg (g : Nat) (v1 v2 : Value) (i : Nat) : Prop := i = g ∨ v1.ownBlock = some i ∨ v2.ownBlock = some i
theorem RB.keep {w w' : World} {base g : Nat} {v1 v2 : Value} {r : Rs19} (h : RB w base g v1 v2 r) (hk : ∀ k, k < w.heap.size → Sg g v1 v2 k → w'.heap[k]? = w.heap[k]?) : RB w' base g v1 v2 r :=
  ⟨(hk g h.lt (.inl rfl)).trans h.box, h.s.kept fun b hb => hk b (h.s.lt hb).2 (.inr (.inl hb)), h.u.kept fun b hb => hk b (h.u.lt hb).2 (.inr (.inr hb)), h.n1, h.n2, h.n12, h.base_g⟩
theorem RB.later {w w' : World} {base g : Nat} {v1 v2 : Value} {r : Rs19} (h : RB w base g v1 v2 r) (hb : Below w.heap.size w w') : RB w' base g v1 v2 r := h.keep fun k hk _ => hb.block k hk
theorem RB.sg_base {w : World} {base g : Nat} {v1 v2 : Value} {r : Rs19} (h : RB w base g v1 v2 r) {i : Nat} (hi : Sg g v1 v2 i) : base ≤ i := by
  rcases hi with rfl | hi | hi
  · exact h.base_g
  · exact (h.s.lt hi).1
  · exact (h.u.lt hi).1
theorem RB.sg_lt {w : World} {base g : Nat} {v1 v2 : Value} {r : Rs19} (h : RB w base g v1 v2 r) {i : Nat} (hi : Sg g v1 v2 i) : i < w.heap.size := by
  rcases hi with rfl | hi | hi
  · exact h.lt
  · exact (h.s.lt hi).2
  · exact (h.u.lt hi).2
theorem RB.cell0 {w : World} {base g : Nat} {v1 v2 : Value} {r : Rs19} (h : RB w base g v1 v2 r) : w.cell? ⟨g, 0, none⟩ = some v1 := cell_of_row w g 0 _ _ _ h.box
theorem RB.cell1 {w : World} {base g : Nat} {v1 v2 : Value} {r : Rs19} (h : RB w base g v1 v2 r) : w.cell? ⟨g, 1, none⟩ = some v2 := cell_of_row w g 1 _ _ _ h.box
theorem server1_19 {q g : Nat} {A : Option Addr} {n c : Nat} {xs : List Ad19} (s : ByteArray) (hs : s.size ≤ 1000000) {w : World} (hq : w.cell? ⟨q, 0, none⟩ = some (.pointer (some ⟨g, 0, none⟩))) (hg : w.cell? ⟨g, 0, none⟩ = some (.slice A n c)) (hb : A9S w A n c xs) (hE : Env19 w) :
    Calls Tryz.prog 94 #[.string s, .pointer (some ⟨q, 0, none⟩)] w (AnR (anotherV xs s.data.toList) w) := by
  have K : ∀ w1, Below w.heap.size w w1 → Hid (Calls Tryz.prog 95 #[.slice A n c, .string s] w1 (AnR (anotherV xs s.data.toList) w1)) := fun w1 h1 => another19 s hs (hb.later h1 (Nat.le_refl _)) (hE.later h1 (Nat.le_refl _))
  have K := Lib.hid K
  have lq := lt_cell hq
  have lg := lt_cell hg
  have HQ := Lib.hid (And.intro hq hg)
  clear hb hE hq hg
  generalize anotherV xs s.data.toList = r at K ⊢
  unfold AnR
  cases r with
  | inl k =>
    go_enter Tryz.func94, Tryz.ntmps94
    go_wp2_with (refine wpList_alloc_addrc rfl rfl ?_; intro w1 a1 b1 z1; have hq1 := (b1.cell (p := ⟨q, 0, none⟩) lq).trans HQ.out.1; have hg1 := (b1.cell (p := ⟨g, 0, none⟩) lg).trans HQ.out.2; have H1 := Lib.hid (And.intro a1 b1); clear a1 b1 z1)
    refine (K.out _ H1.out.2).out.mono ?_
    rintro e w2 ⟨b2, rfl⟩
    have H2 := Lib.hid (And.intro ((b2.block _ (lt_blk H1.out.1)).trans H1.out.1) (H1.out.2.trans (b2.mono H1.out.2.size)))
    clear b2
    unfold errV
    go_wp2_with (refine wpList_store_addrc rfl (.tmp 3) (.tmp 11) rfl (a9v a9z) rfl (by kernel_rfl) zero_addr rfl rfl H2.out.1 ?_; intro w3 a3 o3 z3 b3; have H3 := Lib.hid (And.intro a3 (b3 w.heap.size w (Nat.le_refl _) H2.out.2)); clear a3 o3 z3 b3)
    exact bodyPost_ret (results_addrc rfl _ rfl rfl H3.out.1) rfl ⟨H3.out.2, rfl⟩
  | inr x =>
    go_enter Tryz.func94, Tryz.ntmps94
    go_wp2_with (refine wpList_alloc_addrc rfl rfl ?_; intro w1 a1 b1 z1; have hq1 := (b1.cell (p := ⟨q, 0, none⟩) lq).trans HQ.out.1; have hg1 := (b1.cell (p := ⟨g, 0, none⟩) lg).trans HQ.out.2; have H1 := Lib.hid (And.intro a1 b1); clear a1 b1 z1)
    refine (K.out _ H1.out.2).out.mono ?_
    rintro e w2 ⟨b2, hx, rfl⟩
    have H2 := Lib.hid (And.intro ((b2.block _ (lt_blk H1.out.1)).trans H1.out.1) (And.intro (H1.out.2.trans (b2.mono H1.out.2.size)) hx))
    clear b2 hx
    go_wp2_with (refine wpList_store_addrc rfl (.tmp 3) (.tmp 11) rfl (a9v x) (a9v_size H2.out.2.2) (a9v_one H2.out.2.2) zero_addr rfl rfl H2.out.1 ?_; intro w3 a3 o3 z3 b3; have H3 := Lib.hid (And.intro a3 (b3 w.heap.size w (Nat.le_refl _) H2.out.2.1)); clear a3 o3 z3 b3)
    exact bodyPost_ret (results_addrc rfl _ (a9v_size H2.out.2.2) rfl H3.out.1) rfl ⟨H3.out.2, H2.out.2.2, rfl⟩
theorem RB.push1 {W1 W2 : World} {base g : Nat} {v1 v2 v1' : Value} {r : Rs19} {a : Ad19} (h : RB W1 base g v1 v2 r) (ho : A9O W2 base v1' (r.servers ++ [a])) (hgr : W1.grownBy W2 v1.ownBlock) (hf : v1'.ownBlock = v1.ownBlock ∨ v1'.ownBlock = some W1.heap.size) :
    RB (W2.setCell ⟨g, 0, none⟩ v1') base g v1' v2 ⟨r.servers ++ [a], r.rules⟩ ∧ Fr (Sg g v1 v2) W1 (W2.setCell ⟨g, 0, none⟩ v1') := by
  have hg : W2.heap[g]? = some (.cells #[v1, v2] 25 (0, 0)) := (hgr.block g h.lt (fun e => h.n1 e.symm)).trans h.box
  have hr : Row W2 g 25 [v1, v2] := hg
  have hfar : ∀ k, k ≠ g → (W2.setCell ⟨g, 0, none⟩ v1').heap[k]? = W2.heap[k]? := fun k hk => Below.heap_setCell W2 ⟨g, 0, none⟩ v1' k hk
  have m1 : v1'.ownBlock ≠ some g := by
    rcases hf with e | e
    · rw [e]; exact h.n1
    · rw [e]; intro h2; have := h.lt; cases h2; omega
  refine ⟨⟨hr.put 0 v1', ho.kept fun b hb => hfar b fun e => m1 (by rw [hb, e]), ?_, m1, h.n2, ?_, h.base_g⟩, ?_⟩
  · exact h.u.kept fun b hb => (hfar b fun e => h.n2 (by rw [hb, e])).trans (hgr.block b (h.u.lt hb).2 fun e => h.n12 b e.symm hb)
  · intro b hb hb2
    rcases hf with e | e
    · exact h.n12 b (by rw [← e]; exact hb) hb2
    · rw [e] at hb
      cases hb
      exact absurd (h.u.lt hb2).2 (Nat.lt_irrefl _)
  · exact ⟨hgr.os, hgr.tape, hgr.output, by rw [World.size_setCell]; exact hgr.size, fun k hk hs => (hfar k fun e => hs (.inl e)).trans (hgr.block k hk fun e => hs (.inr (.inl e.symm)))⟩
def St (x g : Nat) (v1 v2 : Value) (i : Nat) : Prop := i = x ∨ Sg g v1 v2 i
structure Pre (w : World) (base g x : Nat) (A : Option Addr) (n c e : Nat) (ts : List Tk) (v1 v2 : Value) (r : Rs19) : Prop where
  ln : LnB w x A n c e
  rb : RB w base g v1 v2 r
  xg : ¬ Sg g v1 v2 x
  bx : base ≤ x
  tk : ∀ w', Fr (St x g v1 v2) w w' → TkS w' A n c ts
  env : ∀ w', Fr (St x g v1 v2) w w' → Env19 w'
  sz : ∀ t ∈ ts, t.text.length ≤ 1000000
  big : r.servers.length ≤ 1000 ∧ r.rules.length ≤ 1000
theorem Pre.after {w w' : World} {base g x : Nat} {A : Option Addr} {n c e : Nat} {ts : List Tk} {v1 v2 : Value} {r : Rs19} (h : Pre w base g x A n c e ts v1 v2 r) (hb : Below w.heap.size w w') : Pre w' base g x A n c e ts v1 v2 r :=
  ⟨h.ln.later hb, h.rb.later hb, h.xg, h.bx, fun w2 h2 => h.tk w2 ((Fr.of_below hb).trans h2 fun _ _ e => e), fun w2 h2 => h.env w2 ((Fr.of_below hb).trans h2 fun _ _ e => e), h.sz, h.big⟩
theorem Pre.step {w w' : World} {base g x : Nat} {A : Option Addr} {n c e : Nat} {t : Tk} {ts : List Tk} {v1 v2 : Value} {r : Rs19} (h : Pre w base g x A n c e (t :: ts) v1 v2 r) (hs : Step w w' x A n c e t ts) : ∃ A', Pre w' base g x A' (n - 1) (c - 1) e ts v1 v2 r ∧ (∀ w2, TkS w2 A n c (t :: ts) → TkS w2 A' (n - 1) (c - 1) ts) := by
  obtain ⟨A', h1, h2, h3⟩ := hs
  have hf : ∀ w2, Fr (St x g v1 v2) w' w2 → Fr (St x g v1 v2) w w2 := fun w2 k => (h3.mono (S' := St x g v1 v2) fun i _ e => .inl e).trans k fun _ _ e => e
  exact ⟨A', ⟨h1, h.rb.keep fun k hk hs => h3.block k hk fun e => h.xg (e ▸ hs), h.xg, h.bx, fun w2 k => h2 w2 (h.tk w2 (hf w2 k)), fun w2 k => h.env w2 (hf w2 k), fun u hu => h.sz u (List.mem_cons_of_mem _ hu), h.big⟩, h2⟩
theorem Pre.now {w : World} {base g x : Nat} {A : Option Addr} {n c e : Nat} {ts : List Tk} {v1 v2 : Value} {r : Rs19} (h : Pre w base g x A n c e ts v1 v2 r) : TkS w A n c ts := h.tk w (Fr.refl _ _)
def Done (w : World) (base g x : Nat) (A : Option Addr) (n c e : Nat) (ts : List Tk) (v1 v2 : Value) (R : Sum (Int × Nat) (Rs19 × List Tk)) (res : Ending) (w' : World) : Prop := Fr (St x g v1 v2) w w' ∧ match R with
  | .inl (k, p) => ∃ er, res = .returned er ∧ ErrN w' er k p
  | .inr (r', ts') => res = .returned .nilIface ∧ ∃ A' n' c' v1' v2', LnB w' x A' n' c' e ∧ (∀ w2, TkS w2 A n c ts → TkS w2 A' n' c' ts') ∧ RB w' base g v1' v2' r' ∧ (∀ b, v1'.ownBlock = some b → v1.ownBlock = some b ∨ w.heap.size ≤ b) ∧ (∀ b, v2'.ownBlock = some b → v2.ownBlock = some b ∨ w.heap.size ≤ b)
theorem Done.err {w w' : World} {base g x : Nat} {A : Option Addr} {n c e : Nat} {ts : List Tk} {v1 v2 er : Value} {k : Int} {p : Nat} (hf : Fr (St x g v1 v2) w w') (he : ErrN w' er k p) : Done w base g x A n c e ts v1 v2 (.inl (k, p)) (.returned er) w' := ⟨hf, er, rfl, he⟩
theorem Done.ok {w w' : World} {base g x : Nat} {A A' : Option Addr} {n c e n' c' : Nat} {ts ts' : List Tk} {v1 v2 v1' v2' : Value} {r' : Rs19} (hf : Fr (St x g v1 v2) w w') (h1 : LnB w' x A' n' c' e) (h2 : ∀ w2, TkS w2 A n c ts → TkS w2 A' n' c' ts') (h3 : RB w' base g v1' v2' r') (h4 : ∀ b, v1'.ownBlock = some b → v1.ownBlock = some b ∨ w.heap.size ≤ b) (h5 : ∀ b, v2'.ownBlock = some b → v2.ownBlock = some b ∨ w.heap.size ≤ b) : Done w base g x A n c e ts v1 v2 (.inr (r', ts')) (.returned .nilIface) w' := ⟨hf, rfl, A', n', c', v1', v2', h1, h2, h3, h4, h5⟩
def serverP (r : Rs19) (e : Nat) : List Tk → Sum (Int × Nat) (Rs19 × List Tk)
  | [] => .inl (15, e)
  | a :: more => match anotherV r.servers a.text with
    | .inl k => .inl (k, a.at_)
    | .inr x => .inr (⟨r.servers ++ [x], r.rules⟩, more)
end Go.Proofs.YtoagfmonfgagbaaGreatDoor

namespace Go.Proofs.YtoagfmonfgagbaaGreatDoor
open Go.RowKit
set_option maxRecDepth 100000
set_option maxHeartbeats 2000000 in
theorem server19 {w : World} {base g x : Nat} {A : Option Addr} {n c e : Nat} {ts : List Tk} {v1 v2 : Value} {r : Rs19} (h : Pre w base g x A n c e ts v1 v2 r) :
    Calls Tryz.prog 78 #[.pointer (some ⟨x, 0, none⟩), .pointer (some ⟨g, 0, none⟩)] w (Done w base g x A n c e ts v1 v2 (serverP r e ts)) := by
  have hbox : Below w.heap.size w (w.alloc (.cells #[.pointer (some ⟨g, 0, none⟩)] 81)) := (Below.refl _ w).alloc (Nat.le_refl _) _
  have hq0 : (w.alloc (.cells #[.pointer (some ⟨g, 0, none⟩)] 81)).heap[w.heap.size]? = some (.cells #[.pointer (some ⟨g, 0, none⟩)] 81 (0, 0)) := heap_alloc_last w _
  obtain ⟨W, hW⟩ : ∃ W, w.alloc (.cells #[.pointer (some ⟨g, 0, none⟩)] 81) = W := ⟨_, rfl⟩
  rw [hW] at hbox hq0
  have hp := h.after hbox
  have hxq : x ≠ w.heap.size := Nat.ne_of_lt h.ln.lt
  have HW := Lib.hid hW
  have HP := Lib.hid (And.intro hp (And.intro hbox (And.intro hq0 (And.intro hxq h.rb))))
  clear hW hp hbox hq0 hxq
  obtain ⟨q, hq⟩ : ∃ q, w.heap.size = q := ⟨_, rfl⟩
  cases ts with
  | nil =>
    have hn := h.now.len
    obtain rfl : n = 0 := hn.symm
    have K := Lib.hid (read_another_none (q := w.heap.size) HP.out.1.ln)
    clear h hn hq
    go_enter Tryz.func78, Tryz.ntmps78
    go_wp2_with (rw [HW.out])
    refine K.out.mono ?_
    rintro r w1 ⟨er, rfl, he, b1⟩
    obtain ⟨ge, rfl, hge⟩ := he
    have H1 := Lib.hid (And.intro hge b1)
    clear hge b1
    go_wp2_with (first
      | (refine wpList_alloc_addrc rfl rfl ?_; intro w2 a2 b2 z2; have H2 := Lib.hid (And.intro a2 (And.intro b2 ((b2.block _ (lt_blk H1.out.1)).trans H1.out.1))); clear a2 b2 z2)
      | (refine wpList_store_addrc rfl (.tmp 5) (.tmp 11) rfl (adv false (List.replicate 16 0)) zero_addr (by kernel_rfl) zero_addr rfl rfl H2.out.1 ?_; intro w3 a3 o3 z3 b3; have b4 := b3 w1.heap.size w1 (Nat.le_refl _) H2.out.2.1; have H3 := Lib.hid (And.intro ((b4.block _ (lt_blk H1.out.1)).trans H1.out.1) (HP.out.2.1.trans ((H1.out.2.trans (b4.mono H1.out.2.size)).mono HP.out.2.1.size))); clear a3 o3 z3 b3 b4))
    go_ret
    exact Done.err (Fr.of_below H3.out.2) ⟨ge, rfl, H3.out.1⟩
  | cons t ts =>
    obtain ⟨A1, c1, hv1, hs1, _⟩ := A9S.of_own h.rb.s
    have K : ∀ w1, Fr (fun i => i = x) W w1 → Calls Tryz.prog 94 #[.string (mkS t.text), .pointer (some ⟨w.heap.size, 0, none⟩)] w1 (AnR (anotherV r.servers t.text) w1) := fun w1 hf => by
      have hq1 : w1.cell? ⟨w.heap.size, 0, none⟩ = some (.pointer (some ⟨g, 0, none⟩)) := cell_of_row w1 w.heap.size 0 _ _ _ ((hf.block _ (lt_blk HP.out.2.2.1) (Ne.symm HP.out.2.2.2.1)).trans HP.out.2.2.1)
      have hrb1 := HP.out.1.rb.keep (w' := w1) fun k hk hs => hf.block k hk fun e => HP.out.1.xg (e ▸ hs)
      obtain ⟨A2, c2, hv2, hs2, _⟩ := A9S.of_own hrb1.s
      have hg1 := hrb1.cell0
      rw [hv2] at hg1
      have := server1_19 (q := w.heap.size) (g := g) (mkS t.text) (by rw [mkS_size]; exact h.sz t (List.mem_cons_self ..)) hq1 hg1 hs2 (HP.out.1.env w1 (hf.mono fun i _ e => .inl e))
      rw [mkS_data] at this
      exact this
    clear hs1 hv1
    show Calls _ _ _ _ (Done w base g x A n c e (t :: ts) v1 v2 (match anotherV r.servers t.text with
      | .inl k => .inl (k, t.at_)
      | .inr y => .inr (⟨r.servers ++ [y], r.rules⟩, ts)))
    cases hr : anotherV r.servers t.text with
    | inl k =>
      rw [hr] at K
      have K2 := Lib.hid (read_another_err HP.out.1.ln HP.out.1.now (q := w.heap.size) (V := a9v a9z) (k := k) rfl (by kernel_rfl) fun w1 hf => (K w1 hf).mono fun _ _ h => ⟨h.2, h.1⟩)
      clear K hr hq h
      go_enter Tryz.func78, Tryz.ntmps78
      go_wp2_with (rw [HW.out])
      refine K2.out.mono ?_
      rintro r w1 ⟨er, rfl, he, hst⟩
      obtain ⟨ge, rfl, hge⟩ := he
      have H1 := Lib.hid (And.intro hge hst)
      clear hge hst
      go_wp2_with (first
        | (refine wpList_alloc_addrc rfl rfl ?_; intro w2 a2 b2 z2; have H2 := Lib.hid (And.intro a2 (And.intro b2 ((b2.block _ (lt_blk H1.out.1)).trans H1.out.1))); clear a2 b2 z2)
        | (refine wpList_store_addrc rfl (.tmp 5) (.tmp 11) rfl (a9v a9z) rfl (by kernel_rfl) zero_addr rfl rfl H2.out.1 ?_; intro w3 a3 o3 z3 b3; have b4 := b3 w1.heap.size w1 (Nat.le_refl _) H2.out.2.1; have H3 := Lib.hid (And.intro ((b4.block _ (lt_blk H1.out.1)).trans H1.out.1) (Step.ahead HP.out.2.1 (H1.out.2.later b4)).fr); clear a3 o3 z3 b3 b4))
      go_ret
      exact Done.err (H3.out.2.mono fun i _ e => .inl e) ⟨ge, rfl, H3.out.1⟩
    | inr y =>
      rw [hr] at K
      have hy : A9ok y := by
        have := anotherV_ok hr
        exact this
      have K2 := Lib.hid (read_another_ok HP.out.1.ln HP.out.1.now (q := w.heap.size) (V := a9v y) (a9v_size hy) (a9v_one hy) fun w1 hf => (K w1 hf).mono fun _ _ h => ⟨h.2.2, h.1⟩)
      have HY := Lib.hid hy
      clear K hr hq h hy
      have hmx : Tryz.prog.follows .mixedOrders = true := by kernel_rfl
      obtain ⟨A1, k1, hv1, _, _⟩ := A9S.of_own HP.out.2.2.2.2.s
      obtain ⟨m, hm⟩ : ∃ m, r.servers.length = m := ⟨_, rfl⟩
      rw [hm] at hv1
      subst hv1
      clear hm
      go_enter Tryz.func78, Tryz.ntmps78
      go_wp2_with (rw [HW.out])
      refine K2.out.mono ?_
      rintro r' w1 ⟨rfl, hst⟩
      obtain ⟨A', hp1, htl⟩ := HP.out.1.step hst
      have hq1 := (hst.fr.block _ (lt_blk HP.out.2.2.1) (Ne.symm HP.out.2.2.2.1)).trans HP.out.2.2.1
      have hlx : W.heap.size ≤ w1.heap.size := hst.fr.size
      have H1 := Lib.hid (And.intro hp1 (And.intro htl (And.intro hq1 (And.intro (Step.ahead HP.out.2.1 hst).fr hlx))))
      clear hst hp1 htl hq1 hlx
      go_wp2_with (first
        | (refine wpList_alloc_addrc rfl rfl ?_; intro w2 a2 b2 z2; have H2 := Lib.hid (And.intro a2 b2); clear a2 b2 z2)
        | (refine wpList_store_addrc rfl (.tmp 5) (.tmp 11) rfl (a9v y) (a9v_size HY.out) (a9v_one HY.out) zero_addr rfl rfl H2.out.1 ?_; intro w3 a3 o3 z3 b3; have b4 := b3 w1.heap.size w1 (Nat.le_refl _) H2.out.2; have H3 := Lib.hid (And.intro a3 (And.intro (H1.out.1.after b4) (And.intro ((b4.block _ (lt_blk H1.out.2.2.1)).trans H1.out.2.2.1) b4))); clear a3 o3 z3 b3 b4))
      have hS : Two19 w.heap.size w1.heap.size w3 w3.drew := ⟨rfl, rfl⟩
      have c0 : ∀ w', Two19 w.heap.size w1.heap.size w3 w' → w'.cell? ⟨w.heap.size, 0, none⟩ = some (.pointer (some ⟨g, 0, none⟩)) := fun w' h => cell_of_row w' w.heap.size 0 _ _ _ (h.1.trans H3.out.2.2.1)
      refine rg_begin (fun w' => Two19 w.heap.size w1.heap.size w3 w') 11 (by kernel_rfl) rfl ?_
      refine rg_take 0 (v := ?rv1) rfl (by kernel_rfl) (by kernel_rfl) (by kernel_rfl) (fun _ _ _ h => h) (by rfl) hS (fun w2 hw2 => ?ry1) ?rr1
      case ry1 => ((try dsimp only at hw2); go_simp <;> with_reducible rfl)
      simp only [Act.put, List.setIfInBounds_toArray, List.set_cons_zero, List.set_cons_succ]
      refine rg_take 1 (v := ?rv2) rfl (by kernel_rfl) (by kernel_rfl) (by kernel_rfl) (fun _ _ _ h => h) (by rfl) hS (fun w2 hw2 => ?ry2) ?rr2
      case ry2 => ((try dsimp only at hw2); go_simp <;> with_reducible rfl)
      simp only [Act.put, List.setIfInBounds_toArray, List.set_cons_zero, List.set_cons_succ]
      refine rg_load 5 rfl (by kernel_rfl) (by kernel_rfl) (by kernel_rfl) w1.heap.size 0 (a9v y) (fun _ _ _ h => h) (by rfl) 51 (.tmp 5) rfl rfl hS (fun w2 h2 => range_block (h2.2.trans H3.out.1)) Tryz.underlying51 rfl (size_addr (a9v_size HY.out)) ?_
      simp only [Act.put, List.setIfInBounds_toArray, List.set_cons_zero, List.set_cons_succ]
      refine rg_take 2 (v := ?rv3) rfl (by kernel_rfl) (by kernel_rfl) (by kernel_rfl) (fun _ _ _ h => h) (by rfl) hS (fun w2 hw2 => ?ry3) ?rr3
      case ry3 => ((try dsimp only at hw2); go_simp <;> with_reducible rfl)
      simp only [Act.put, List.setIfInBounds_toArray, List.set_cons_zero, List.set_cons_succ]
      refine rg_take 3 (v := ?rv4) rfl (by kernel_rfl) (by kernel_rfl) (by kernel_rfl) (fun _ _ _ h => h) (by rfl) hS (fun w2 hw2 => ?ry4) ?rr4
      case ry4 => ((try dsimp only at hw2); go_simp <;> with_reducible rfl)
      simp only [Act.put, List.setIfInBounds_toArray, List.set_cons_zero, List.set_cons_succ]
      clear c0
      refine rg_any [4, 6] (by kernel_rfl) (by simp) ?_
      refine rg_or 4 rfl (by rfl) (fun K hK => ?_) ?_
      · have q0 : w3.drew.cell? ⟨g, 0, none⟩ = some (.slice A1 m k1) := H3.out.2.1.rb.cell0
        go_simp
        refine hK.out _ _ hS ?_
        clear hK K q0
        refine rg_step 6 rfl (by kernel_rfl) (by rfl) (fun K hK => ?_)
        refine wp_lit_a9 (.tmp 21) rfl y HY.out rfl ?_
        have b4 : Below w3.heap.size w3 (w3.drew.alloc (.cells (a9v y) 51)) := ((Below.refl _ w3).drew).alloc (Nat.le_refl _) _
        have l4 : (w3.drew.alloc (.cells (a9v y) 51)).heap[w3.heap.size]? = some (.cells (a9v y) 51 (0, 0)) := heap_alloc_last w3.drew _
        have z4 : w3.drew.heap.size = w3.heap.size := rfl
        obtain ⟨w4, hw4⟩ : ∃ w4, w3.drew.alloc (.cells (a9v y) 51) = w4 := ⟨_, rfl⟩
        rw [z4, hw4]
        rw [hw4] at b4 l4
        clear hw4 z4
        replace hS : Two19 w.heap.size w1.heap.size w3 w4 := ⟨b4.block _ (lt_blk H3.out.2.2.1), b4.block _ (lt_blk H3.out.1)⟩
        refine hK.out _ _ hS ?_
        clear hK K
        simp only [Act.put, List.setIfInBounds_toArray, List.set_cons_zero, List.set_cons_succ]
        have hp4 := H3.out.2.1.after b4
        refine rg_step 7 rfl (by kernel_rfl) (by rfl) (fun K hK => ?_)
        refine wp_push_a9 (.tmp 20) (.tmp 22) rfl base (.slice A1 m k1) r.servers rfl hp4.rb.s (g := w3.heap.size) rfl (range_block l4) HY.out (by have := hp4.big.1; omega) (Nat.le_trans hp4.rb.base_g (Nat.le_of_lt hp4.rb.lt)) ?_
        intro v1' w5 ho hgr hfr
        obtain ⟨hrb, hfr5⟩ := hp4.rb.push1 ho hgr hfr
        have hsg : ∀ i, Sg g (.slice A1 m k1) v2 i → i < w.heap.size := fun i hi => HP.out.2.2.2.2.sg_lt hi
        have hgw : g < w.heap.size := hsg g (.inl rfl)
        have hw01 : w.heap.size < w1.heap.size := lt_blk H1.out.2.2.1
        replace hS : Two19 w.heap.size w1.heap.size w3 w5 := ⟨(hgr.block _ (Nat.lt_of_lt_of_le (lt_blk H3.out.2.2.1) b4.size) (fun e => absurd (hsg _ (.inr (.inl e.symm))) (Nat.lt_irrefl _))).trans hS.1, (hgr.block _ (Nat.lt_of_lt_of_le (lt_blk H3.out.1) b4.size) (fun e => absurd (hsg _ (.inr (.inl e.symm))) (by omega))).trans hS.2⟩
        have hg5 : w5.heap[g]? = some (.cells #[.slice A1 m k1, v2] 25 (0, 0)) := (hgr.block g hp4.rb.lt (fun e => hp4.rb.n1 e.symm)).trans hp4.rb.box
        obtain ⟨A2, k2, hv', _, _⟩ := A9S.of_own ho
        obtain ⟨m2, hm2⟩ : ∃ m2, (r.servers ++ [y]).length = m2 := ⟨_, rfl⟩
        rw [hm2] at hv'
        subst hv'
        have HF := Lib.hid (And.intro hrb (And.intro hfr5 (And.intro hfr b4)))
        clear hrb hfr5 hfr ho hm2 l4
        refine hK.out _ _ hS ?_
        clear hK K
        try simp only [Act.put, List.setIfInBounds_toArray, List.set_cons_zero, List.set_cons_succ]
        refine rg_take 8 (v := ?rv5) rfl (by kernel_rfl) (by kernel_rfl) (by kernel_rfl) (fun _ _ _ h => h) (by rfl) hS (fun w2 hw2 => ?ry5) ?rr5
        case ry5 => ((try dsimp only at hw2); go_simp <;> with_reducible rfl)
        simp only [Act.put, List.setIfInBounds_toArray, List.set_cons_zero, List.set_cons_succ]
        refine rg_take 9 (v := ?rv6) rfl (by kernel_rfl) (by kernel_rfl) (by kernel_rfl) (fun _ _ _ h => h) (by rfl) hS (fun w2 hw2 => ?ry6) ?rr6
        case ry6 => ((try dsimp only at hw2); go_simp <;> with_reducible rfl)
        simp only [Act.put, List.setIfInBounds_toArray, List.set_cons_zero, List.set_cons_succ]
        have q1 : w5.cell? ⟨g, 0, none⟩ = some (.slice A1 m k1) := cell_of_row w5 g 0 _ _ _ hg5
        have q2 : w5.frozen? ⟨g, 0, none⟩ = false := by simp [World.frozen?, hg5]
        refine rg_step 10 rfl (by kernel_rfl) (by rfl) (fun K hK => ?_)
        go_simp
        replace hS : Two19 w.heap.size w1.heap.size w3 (w5.setCell ⟨g, 0, none⟩ (.slice A2 m2 k2)) := ⟨(Below.heap_setCell _ _ _ _ (Nat.ne_of_gt hgw)).trans hS.1, (Below.heap_setCell _ _ _ _ (Nat.ne_of_gt (Nat.lt_trans hgw hw01))).trans hS.2⟩
        refine hK.out _ _ hS ?_
        clear hK K
        refine rg_done (by kernel_rfl) ?_
        have hall : Fr (St x g (.slice A1 m k1) v2) w (w5.setCell ⟨g, 0, none⟩ (.slice A2 m2 k2)) := by
          have f1 : Fr (St x g (.slice A1 m k1) v2) w w1 := H1.out.2.2.2.1.mono fun i _ e => .inl e
          have f3 : Fr (St x g (.slice A1 m k1) v2) w w4 := f1.trans (Fr.of_below (S := St x g (.slice A1 m k1) v2) (H3.out.2.2.2.trans (HF.out.2.2.2.mono H3.out.2.2.2.size))) fun _ _ e => e
          exact f3.trans HF.out.2.1 fun _ _ e => .inr e
        have hln : LnB (w5.setCell ⟨g, 0, none⟩ (.slice A2 m2 k2)) x A' (n - 1) (c - 1) e := LnB.same hp4.ln (HF.out.2.1.block x hp4.ln.lt hp4.xg)
        have hfresh : ∀ b, (Value.slice A2 m2 k2).ownBlock = some b → (Value.slice A1 m k1).ownBlock = some b ∨ w.heap.size ≤ b := fun b hb => by
          rcases HF.out.2.2.1 with e2 | e2
          · exact .inl (by rw [← e2]; exact hb)
          · rw [e2] at hb
            cases hb
            exact .inr (Nat.le_of_lt (Nat.lt_of_lt_of_le (lt_blk H3.out.2.2.1) HF.out.2.2.2.size))
        have HA := Lib.hid (And.intro hall (And.intro hln hfresh))
        clear hall hln hfresh hS q1 q2 hg5 hp4 hgr b4
        go_wp2_with fail
        go_ret
        exact Done.ok HA.out.1 HA.out.2.1 H1.out.2.1 HF.out.1 HA.out.2.2 fun b hb => .inl hb
      refine rg_or 6 rfl (by rfl) (fun K hK => ?_) AllReadyH.nil
      · refine wp_lit_a9 (.tmp 21) rfl y HY.out rfl ?_
        have b4 : Below w3.heap.size w3 (w3.drew.alloc (.cells (a9v y) 51)) := ((Below.refl _ w3).drew).alloc (Nat.le_refl _) _
        have l4 : (w3.drew.alloc (.cells (a9v y) 51)).heap[w3.heap.size]? = some (.cells (a9v y) 51 (0, 0)) := heap_alloc_last w3.drew _
        have z4 : w3.drew.heap.size = w3.heap.size := rfl
        obtain ⟨w4, hw4⟩ : ∃ w4, w3.drew.alloc (.cells (a9v y) 51) = w4 := ⟨_, rfl⟩
        rw [z4, hw4]
        rw [hw4] at b4 l4
        clear hw4 z4
        replace hS : Two19 w.heap.size w1.heap.size w3 w4 := ⟨b4.block _ (lt_blk H3.out.2.2.1), b4.block _ (lt_blk H3.out.1)⟩
        refine hK.out _ _ hS ?_
        clear hK K
        simp only [Act.put, List.setIfInBounds_toArray, List.set_cons_zero, List.set_cons_succ]
        have q0 : w4.cell? ⟨g, 0, none⟩ = some (.slice A1 m k1) := (H3.out.2.1.after b4).rb.cell0
        refine rg_step 4 rfl (by kernel_rfl) (by rfl) (fun K hK => ?_)
        go_simp
        refine hK.out _ _ hS ?_
        clear hK K q0
        have hp4 := H3.out.2.1.after b4
        refine rg_step 7 rfl (by kernel_rfl) (by rfl) (fun K hK => ?_)
        refine wp_push_a9 (.tmp 20) (.tmp 22) rfl base (.slice A1 m k1) r.servers rfl hp4.rb.s (g := w3.heap.size) rfl (range_block l4) HY.out (by have := hp4.big.1; omega) (Nat.le_trans hp4.rb.base_g (Nat.le_of_lt hp4.rb.lt)) ?_
        intro v1' w5 ho hgr hfr
        obtain ⟨hrb, hfr5⟩ := hp4.rb.push1 ho hgr hfr
        have hsg : ∀ i, Sg g (.slice A1 m k1) v2 i → i < w.heap.size := fun i hi => HP.out.2.2.2.2.sg_lt hi
        have hgw : g < w.heap.size := hsg g (.inl rfl)
        have hw01 : w.heap.size < w1.heap.size := lt_blk H1.out.2.2.1
        replace hS : Two19 w.heap.size w1.heap.size w3 w5 := ⟨(hgr.block _ (Nat.lt_of_lt_of_le (lt_blk H3.out.2.2.1) b4.size) (fun e => absurd (hsg _ (.inr (.inl e.symm))) (Nat.lt_irrefl _))).trans hS.1, (hgr.block _ (Nat.lt_of_lt_of_le (lt_blk H3.out.1) b4.size) (fun e => absurd (hsg _ (.inr (.inl e.symm))) (by omega))).trans hS.2⟩
        have hg5 : w5.heap[g]? = some (.cells #[.slice A1 m k1, v2] 25 (0, 0)) := (hgr.block g hp4.rb.lt (fun e => hp4.rb.n1 e.symm)).trans hp4.rb.box
        obtain ⟨A2, k2, hv', _, _⟩ := A9S.of_own ho
        obtain ⟨m2, hm2⟩ : ∃ m2, (r.servers ++ [y]).length = m2 := ⟨_, rfl⟩
        rw [hm2] at hv'
        subst hv'
        have HF := Lib.hid (And.intro hrb (And.intro hfr5 (And.intro hfr b4)))
        clear hrb hfr5 hfr ho hm2 l4
        refine hK.out _ _ hS ?_
        clear hK K
        try simp only [Act.put, List.setIfInBounds_toArray, List.set_cons_zero, List.set_cons_succ]
        refine rg_take 8 (v := ?rv7) rfl (by kernel_rfl) (by kernel_rfl) (by kernel_rfl) (fun _ _ _ h => h) (by rfl) hS (fun w2 hw2 => ?ry7) ?rr7
        case ry7 => ((try dsimp only at hw2); go_simp <;> with_reducible rfl)
        simp only [Act.put, List.setIfInBounds_toArray, List.set_cons_zero, List.set_cons_succ]
        refine rg_take 9 (v := ?rv8) rfl (by kernel_rfl) (by kernel_rfl) (by kernel_rfl) (fun _ _ _ h => h) (by rfl) hS (fun w2 hw2 => ?ry8) ?rr8
        case ry8 => ((try dsimp only at hw2); go_simp <;> with_reducible rfl)
        simp only [Act.put, List.setIfInBounds_toArray, List.set_cons_zero, List.set_cons_succ]
        have q1 : w5.cell? ⟨g, 0, none⟩ = some (.slice A1 m k1) := cell_of_row w5 g 0 _ _ _ hg5
        have q2 : w5.frozen? ⟨g, 0, none⟩ = false := by simp [World.frozen?, hg5]
        refine rg_step 10 rfl (by kernel_rfl) (by rfl) (fun K hK => ?_)
        go_simp
        replace hS : Two19 w.heap.size w1.heap.size w3 (w5.setCell ⟨g, 0, none⟩ (.slice A2 m2 k2)) := ⟨(Below.heap_setCell _ _ _ _ (Nat.ne_of_gt hgw)).trans hS.1, (Below.heap_setCell _ _ _ _ (Nat.ne_of_gt (Nat.lt_trans hgw hw01))).trans hS.2⟩
        refine hK.out _ _ hS ?_
        clear hK K
        refine rg_done (by kernel_rfl) ?_
        have hall : Fr (St x g (.slice A1 m k1) v2) w (w5.setCell ⟨g, 0, none⟩ (.slice A2 m2 k2)) := by
          have f1 : Fr (St x g (.slice A1 m k1) v2) w w1 := H1.out.2.2.2.1.mono fun i _ e => .inl e
          have f3 : Fr (St x g (.slice A1 m k1) v2) w w4 := f1.trans (Fr.of_below (S := St x g (.slice A1 m k1) v2) (H3.out.2.2.2.trans (HF.out.2.2.2.mono H3.out.2.2.2.size))) fun _ _ e => e
          exact f3.trans HF.out.2.1 fun _ _ e => .inr e
        have hln : LnB (w5.setCell ⟨g, 0, none⟩ (.slice A2 m2 k2)) x A' (n - 1) (c - 1) e := LnB.same hp4.ln (HF.out.2.1.block x hp4.ln.lt hp4.xg)
        have hfresh : ∀ b, (Value.slice A2 m2 k2).ownBlock = some b → (Value.slice A1 m k1).ownBlock = some b ∨ w.heap.size ≤ b := fun b hb => by
          rcases HF.out.2.2.1 with e2 | e2
          · exact .inl (by rw [← e2]; exact hb)
          · rw [e2] at hb
            cases hb
            exact .inr (Nat.le_of_lt (Nat.lt_of_lt_of_le (lt_blk H3.out.2.2.1) HF.out.2.2.2.size))
        have HA := Lib.hid (And.intro hall (And.intro hln hfresh))
        clear hall hln hfresh hS q1 q2 hg5 hp4 hgr b4
        go_wp2_with fail
        go_ret
        exact Done.ok HA.out.1 HA.out.2.1 H1.out.2.1 HF.out.1 HA.out.2.2 fun b hb => .inl hb
end Go.Proofs.YtoagfmonfgagbaaGreatDoor

namespace Go.Proofs.YtoagfmonfgagbaaGreatDoor
open Go.RowKit
set_option maxRecDepth 100000
def subjV (l : List UInt8) : Option Bool := if l = kwName then some true else if l = kwNet then some false else none
theorem subj_true {l : List UInt8} (h : subjV l = some true) : l = kwName := by
  unfold subjV at h
  split at h
  · assumption
  · split at h <;> cases h
theorem subj_false {l : List UInt8} (h : subjV l = some false) : l = kwNet := by
  unfold subjV at h
  split at h
  · cases h
  · split at h
    · assumption
    · cases h
theorem subject_name (w : World) : Calls Tryz.prog 97 #[.string (mkS kwName)] w fun e w' => e = .returned (.tuple #[.func (.func 110) #[] #[], .nilIface]) ∧ Below w.heap.size w w' := by
  go_enter Tryz.func97, Tryz.ntmps97
  have e1 : mkS kwName = ⟨#[110, 97, 109, 101]⟩ := rfl
  rw [e1]
  go_wp2_with fail
  go_ret2
  exact ⟨rfl, Below.refl _ _⟩
theorem subject_net (w : World) : Calls Tryz.prog 97 #[.string (mkS kwNet)] w fun e w' => e = .returned (.tuple #[.func (.func 111) #[] #[], .nilIface]) ∧ Below w.heap.size w w' := by
  go_enter Tryz.func97, Tryz.ntmps97
  have e1 : mkS kwNet = ⟨#[110, 101, 116]⟩ := rfl
  rw [e1]
  go_wp2_with fail
  go_ret2
  exact ⟨rfl, Below.refl _ _⟩
theorem subject_no (s : ByteArray) (h : subjV s.data.toList = none) (w : World) : Calls Tryz.prog 97 #[.string s] w fun e w' => e = .returned (.tuple #[.nilFunc, errV 15]) ∧ Below w.heap.size w w' := by
  have h1 : s.data.toList ≠ kwName := fun e => by unfold subjV at h; rw [if_pos e] at h; cases h
  have h2 : s.data.toList ≠ kwNet := fun e => by unfold subjV at h; rw [if_neg h1, if_pos e] at h; cases h
  have n1 : (s.toList == ([110, 97, 109, 101] : List UInt8)) = false := by rw [beq_eq_false_iff_ne, Lib.toList_data]; exact h1
  have n2 : (s.toList == ([110, 101, 116] : List UInt8)) = false := by rw [beq_eq_false_iff_ne, Lib.toList_data]; exact h2
  have n3 : (([110, 97, 109, 101] : List UInt8) == s.toList) = false := by rw [beq_eq_false_iff_ne, Lib.toList_data]; exact fun e => h1 e.symm
  have n4 : (([110, 101, 116] : List UInt8) == s.toList) = false := by rw [beq_eq_false_iff_ne, Lib.toList_data]; exact fun e => h2 e.symm
  clear h h1 h2
  go_enter Tryz.func97, Tryz.ntmps97
  go_wp2_with fail
  go_ret2
  exact ⟨rfl, Below.refl _ _⟩
theorem rwv_arr (r : Rw) : (rwv r) = (rwv r).toList.toArray := by simp
theorem RwBox.row {w : World} {g : Nat} {r : Rw} (h : RwBox w g r) : Row w g 55 (rwv r).toList := by
  unfold Row
  rw [← rwv_arr]
  exact h.1
theorem RwBox.of_row {w : World} {g : Nat} {r : Rw} (h : Row w g 55 (rwv r).toList) (hk : r.ok) : RwBox w g r := by
  unfold Row at h
  rw [← rwv_arr] at h
  exact ⟨h, hk⟩
theorem RwBox.put0 {w : World} {g : Nat} {r : Rw} (h : RwBox w g r) (b : Bool) : RwBox (w.setCell ⟨g, 0, none⟩ (.bool b)) g { r with allow := b } := by
  have h1 := h.row.put 0 (.bool b)
  refine RwBox.of_row ?_ h.2
  have e : (rwv r).toList.set 0 (.bool b) = (rwv { r with allow := b }).toList := by rw [rwv_list, rwv_list]; rfl
  rw [← e]
  exact h1
theorem RwBox.put21 {w : World} {g : Nat} {r : Rw} (h : RwBox w g r) (n : Int) : RwBox (w.setCell ⟨g, 21, none⟩ (.int .i64 n)) g { r with proto := n } := by
  have h1 := h.row.put 21 (.int .i64 n)
  refine RwBox.of_row ?_ h.2
  obtain ⟨_, _, _, _, _, _, _, _, _, _, _, _, _, _, _, _, e1⟩ := explicit16 h.2
  have e : (rwv r).toList.set 21 (.int .i64 n) = (rwv { r with proto := n }).toList := by rw [rwv_list, rwv_list, e1]; rfl
  rw [← e]
  exact h1
theorem RwBox.put22 {w : World} {g : Nat} {r : Rw} (h : RwBox w g r) (n : Int) : RwBox (w.setCell ⟨g, 22, none⟩ (.int .i64 n)) g { r with low := n } := by
  have h1 := h.row.put 22 (.int .i64 n)
  refine RwBox.of_row ?_ h.2
  obtain ⟨_, _, _, _, _, _, _, _, _, _, _, _, _, _, _, _, e1⟩ := explicit16 h.2
  have e : (rwv r).toList.set 22 (.int .i64 n) = (rwv { r with low := n }).toList := by rw [rwv_list, rwv_list, e1]; rfl
  rw [← e]
  exact h1
theorem RwBox.put23 {w : World} {g : Nat} {r : Rw} (h : RwBox w g r) (n : Int) : RwBox (w.setCell ⟨g, 23, none⟩ (.int .i64 n)) g { r with high := n } := by
  have h1 := h.row.put 23 (.int .i64 n)
  refine RwBox.of_row ?_ h.2
  obtain ⟨_, _, _, _, _, _, _, _, _, _, _, _, _, _, _, _, e1⟩ := explicit16 h.2
  have e : (rwv r).toList.set 23 (.int .i64 n) = (rwv { r with high := n }).toList := by rw [rwv_list, rwv_list, e1]; rfl
  rw [← e]
  exact h1
theorem RB.push2 {W1 W2 : World} {base g : Nat} {v1 v2 v2' : Value} {r : Rs19} {a : Ru19} (h : RB W1 base g v1 v2 r) (ho : RwO W2 base v2' (r.rules.map rwR ++ [rwR a])) (hgr : W1.grownBy W2 v2.ownBlock) (hf : v2'.ownBlock = v2.ownBlock ∨ v2'.ownBlock = some W1.heap.size) :
    RB (W2.setCell ⟨g, 1, none⟩ v2') base g v1 v2' ⟨r.servers, r.rules ++ [a]⟩ ∧ Fr (Sg g v1 v2) W1 (W2.setCell ⟨g, 1, none⟩ v2') := by
  have hg : W2.heap[g]? = some (.cells #[v1, v2] 25 (0, 0)) := (hgr.block g h.lt (fun e => h.n2 e.symm)).trans h.box
  have hr : Row W2 g 25 [v1, v2] := hg
  have hfar : ∀ k, k ≠ g → (W2.setCell ⟨g, 1, none⟩ v2').heap[k]? = W2.heap[k]? := fun k hk => Below.heap_setCell W2 ⟨g, 1, none⟩ v2' k hk
  have m1 : v2'.ownBlock ≠ some g := by
    rcases hf with e | e
    · rw [e]; exact h.n2
    · rw [e]; intro h2; have := h.lt; cases h2; omega
  have ho2 : RwO W2 base v2' ((r.rules ++ [a]).map rwR) := by rw [List.map_append]; exact ho
  refine ⟨⟨hr.put 1 v2', ?_, ho2.kept fun b hb => hfar b fun e => m1 (by rw [hb, e]), h.n1, m1, ?_, h.base_g⟩, ?_⟩
  · exact h.s.kept fun b hb => (hfar b fun e => h.n1 (by rw [hb, e])).trans (hgr.block b (h.s.lt hb).2 fun e => h.n12 b hb e.symm)
  · intro b hb hb2
    rcases hf with e | e
    · exact h.n12 b hb (by rw [← e]; exact hb2)
    · rw [e] at hb2
      cases hb2
      exact absurd (h.s.lt hb).2 (Nat.lt_irrefl _)
  · exact ⟨hgr.os, hgr.tape, hgr.output, by rw [World.size_setCell]; exact hgr.size, fun k hk hs => (hfar k fun e => hs (.inl e)).trans (hgr.block k hk fun e => hs (.inr (.inr e.symm)))⟩
theorem Pre.nil {w : World} {base g x : Nat} {A : Option Addr} {n c e : Nat} {v1 v2 : Value} {r : Rs19} (h : Pre w base g x A n c e [] v1 v2 r) : LnB w x A 0 c e := by
  have h1 := h.now.len
  have h2 : n = 0 := h1.symm
  have h3 := h.ln
  rw [h2] at h3
  exact h3
theorem Pre.far {w w' : World} {base g x : Nat} {A : Option Addr} {n c e : Nat} {ts : List Tk} {v1 v2 : Value} {r : Rs19} (h : Pre w base g x A n c e ts v1 v2 r) {b : Nat} (hb : Fr (fun i => i = b) w w') (hx : x ≠ b) (hs : ¬ Sg g v1 v2 b) (ht : ∀ w2, (∀ k, k < w.heap.size → ¬ St x g v1 v2 k → k ≠ b → w2.heap[k]? = w.heap[k]?) → TkS w2 A n c ts ∧ Env19 w2) : Pre w' base g x A n c e ts v1 v2 r :=
  ⟨h.ln.same (hb.block x h.ln.lt hx), h.rb.keep fun k hk hk2 => hb.block k hk fun e => hs (e ▸ hk2), h.xg, h.bx,
    fun w2 h2 => (ht w2 fun k hk h3 h4 => (h2.block k (Nat.lt_of_lt_of_le hk hb.size) h3).trans (hb.block k hk h4)).1,
    fun w2 h2 => (ht w2 fun k hk h3 h4 => (h2.block k (Nat.lt_of_lt_of_le hk hb.size) h3).trans (hb.block k hk h4)).2, h.sz, h.big⟩
def patP (b : Bool) (l : List UInt8) : Option (Sum (List UInt8 × Bool) Nt19) := if b then (patternV fx l).map .inl else (parsenetv l).map .inr
theorem parsenetv_len {l : List UInt8} {x : Nt19} (h : parsenetv l = some x) : x.2.1.length = 16 := by
  unfold parsenetv at h
  cases ha : parsev (Lib.cut l [47]).1 with
  | none => rw [ha] at h; cases h
  | some a =>
    cases hd : decv (Lib.cut l [47]).2.1 with
    | none => rw [ha, hd] at h; cases h
    | some n =>
      rw [ha, hd] at h
      simp only [Option.bind_some] at h
      split at h
      · cases h; exact parsev_len ha
      · cases h
theorem patP_ok {b : Bool} {l : List UInt8} {q : Sum (List UInt8 × Bool) Nt19} (h : patP b l = some q) : (rwOf false q 0 0 0).ok := by
  unfold patP at h
  cases b with
  | true =>
    simp only [if_true] at h
    cases hp : patternV fx l with
    | none => rw [hp] at h; cases h
    | some p => rw [hp] at h; cases h; rfl
  | false =>
    simp only [Bool.false_eq_true, if_false] at h
    cases hp : parsenetv l with
    | none => rw [hp] at h; cases h
    | some p => rw [hp] at h; cases h; exact parsenetv_len hp
def patK (b : Bool) : Int := if b then 13 else 17
def ruleP4 (r : Rs19) (allow : Bool) (e : Nat) (q : Sum (List UInt8 × Bool) Nt19) (n : Int) : List Tk → Sum (Int × Nat) (Rs19 × List Tk)
  | [] => .inl (15, e)
  | t :: ts => match portsV t.text with
    | none => .inl (16, t.at_)
    | some x => .inr (⟨r.servers, r.rules ++ [⟨allow, q, n, x.1, x.2⟩]⟩, ts)
def ruleP3 (r : Rs19) (allow : Bool) (e : Nat) (q : Sum (List UInt8 × Bool) Nt19) : List Tk → Sum (Int × Nat) (Rs19 × List Tk)
  | [] => .inl (15, e)
  | t :: ts => match protoV t.text with
    | none => .inl (15, t.at_)
    | some n => ruleP4 r allow e q n ts
def ruleP2 (r : Rs19) (allow : Bool) (e : Nat) (b : Bool) : List Tk → Sum (Int × Nat) (Rs19 × List Tk)
  | [] => .inl (15, e)
  | t :: ts => match patP b t.text with
    | none => .inl (patK b, t.at_)
    | some q => ruleP3 r allow e q ts
def ruleP (r : Rs19) (allow : Bool) (e : Nat) : List Tk → Sum (Int × Nat) (Rs19 × List Tk)
  | [] => .inl (15, e)
  | t :: ts => match subjV t.text with
    | none => .inl (15, t.at_)
    | some b => ruleP2 r allow e b ts
end Go.Proofs.YtoagfmonfgagbaaGreatDoor
