/-
  The document's own table of what ends when: place, Push, Cancel, Move. Conditions: those of the table.
-/
import Derived.Test.YtdpmjbhkmfjpfaaDoorLw17
import Derived.Test.YtdpmjbhkmfjpfaaDoorTell
import Derived.Great.BuildSlice
import Derived.Laws.AppendOwnNone
namespace Go.Proofs.YtdpmjbhkmfjpfaaDoor
open Go.RowKit
set_option maxRecDepth 100000

/-! ### boxes of what is told -/
def flA (c : Int) : Array Value := #[.int .i64 c, .int .i64 0, .bool false]
def FlB (w : World) (g : Nat) (c : Int) : Prop := w.heap[g]? = some (.cells (flA c) 39 (0, 0))
theorem FlB.lt {w : World} {g : Nat} {c : Int} (h : FlB w g c) : g < w.heap.size := (Array.getElem?_eq_some_iff.1 h).1
theorem FlB.later {w w' : World} {B g : Nat} {c : Int} (h : FlB w g c) (hb : Below B w w') (hB : w.heap.size ≤ B) : FlB w' g c := by
  have hlt := FlB.lt h
  exact (hb.block g (by omega)).trans h
theorem fl_sizeB (c : Int) : (Tryd.prog.info? 39).map (·.size) = some (flA c).size := by
  show _ = some 3
  kernel_rfl
theorem fl_oneB (c : Int) : (flA c).all (·.oneCell') = true := by simp [flA, Value.oneCell']
theorem wpList_alloc_flB {ops : Array Oper} {rest : List Oper} {o : Oper} {a : Act} {w : World} {Q : Exit → Act → World → Prop} (hgd : o.guard = none) (ho : o.op = .alloc 39)
    (h : ∀ w', FlB w' w.heap.size 0 → Below w.heap.size w w' → w'.heap.size = w.heap.size + 1 → wpList Tryd.prog ops Q rest (a.put o.dst (.pointer (some ⟨w.heap.size, 0, none⟩))) w') : wpList Tryd.prog ops Q (o :: rest) a w :=
  wpList_plain hgd fun _ hK => by
    have h1 := hK _ _ (h (w.alloc (.cells (flA 0) 39)) (heap_alloc_new w _) ((Below.refl _ w).alloc (Nat.le_refl _) _) (by simp))
    obtain ⟨dst, op, ty, pos, after, guard⟩ := o
    simp only at ho
    subst ho
    go_simp
    exact h1
theorem wpList_store_flB {ops : Array Oper} {rest : List Oper} {o : Oper} {a : Act} {w : World} {Q : Exit → Act → World → Prop} (hgd : o.guard = none) (x y : Operand) (ho : o.op = .store 39 x y) {g : Nat} (c : Int) {c0 : Int}
    (hx : a.eval x = .pointer (some ⟨g, 0, none⟩)) (hy : a.eval y = .agg (flA c)) (hA : FlB w g c0)
    (h : ∀ w', FlB w' g c → Mv g none w w' → w'.heap.size = w.heap.size → wpList Tryd.prog ops Q rest (a.put o.dst undef) w') : wpList Tryd.prog ops Q (o :: rest) a w :=
  wpList_store_row hgd 39 x y ho g (flA c) hx hy 39 _ hA (fl_sizeB c) rfl (fl_oneB c)
    (h _ (setRow_heap w g _ _ _ _ hA) ⟨rfl, rfl, rfl, Nat.le_of_eq (size_setRow w g _).symm, fun k _ hk _ => setRow_other w g k _ hk⟩ (size_setRow w g _))
theorem results_cell1 {fn : Func} {p : Tmp} {ty : TypeId} (h : fn.results = #[.cell p ty]) (tmps : Array Value) (P : Program) (w : World) :
    (results fn tmps).run P w = ((asAddr (tmps.getD p undef)).run P w).andThen fun a w₁ => (loadVar ty a).run P w₁ := by
  simp only [results, h]
  simp [Sem.run_bind, Result.andThen]
theorem results_flB {fn : Func} {p : Tmp} (h : fn.results = #[.cell p 39]) (tmps : Array Value) {w : World} {k : Nat} {c : Int} (hp : tmps.getD p undef = .pointer (some ⟨k, 0, none⟩)) (hF : FlB w k c) : (results fn tmps).run Tryd.prog w = .ok (.agg #[.int .i64 c, .int .i64 0, .bool false]) w := by
  have h2 := run_loadVar_row w k 39 39 (flA c) (0, 0) _ hF Tryd.underlying39 rfl (fl_sizeB c)
  rw [results_cell1 h, hp]
  simp [asAddr, h2, flA]
/-! ### rows put together -/
theorem EnS.src {w : World} {ad : Addr} {n c : Nat} {xs : List En} (h : EnS w (some ad) n c xs) : ∀ j u, (enC xs)[j]? = some u → w.cell? (ad.add j) = some u := fun j u hj => by
  have hj2 : j < xs.length * 2 := by rw [← enC_length]; exact (List.getElem?_eq_some_iff.1 hj).1
  obtain ⟨x, hx⟩ : ∃ x, xs[j / 2]? = some x := ⟨xs[j / 2]'(by omega), List.getElem?_eq_getElem _⟩
  obtain ⟨b', off, e, r1, r2⟩ := h.here _ _ hx
  cases e
  obtain ⟨g1, g2⟩ := enC_get hx
  rw [add_plain]
  rcases (show j = j / 2 * 2 ∨ j = j / 2 * 2 + 1 by omega) with e | e
  · rw [e, g1] at hj
    rw [e, ← Option.some.inj hj]
    exact r1
  · rw [e, g2] at hj
    rw [e, ← Option.some.inj hj, ← Nat.add_assoc]
    exact r2
theorem wp_cat_en {o : Oper} {a : Act} {w : World} {K : Act → World → Prop} {Q : Exit → Act → World → Prop} (s x : Operand)
    (ho : o.op = .call { callee := .builtin .append, args := #[s, x], argTypes := #[26, 26] }) (v : Value) (xs : List En) (hs : a.eval s = v) (hown : EO w v xs)
    (A : Option Addr) (n c : Nat) (ys : List En) (hx : a.eval x = .slice A n c) (hy : EnS w A n c ys) (hm : xs.length + n ≤ 10000000)
    (h : ∀ v' w', EO w' v' (xs ++ ys) → w.grownBy w' v.ownBlock → (v'.ownBlock = v.ownBlock ∨ v'.ownBlock = some w.heap.size) → K (a.put o.dst v') w') : o.wp Tryd.prog a w K Q := by
  obtain ⟨i, h1, h2, h3, h4⟩ := info_of17 infoEn
  cases A with
  | none =>
    obtain rfl := hy.none_ rfl
    obtain rfl : n = 0 := by have := hy.cap; omega
    obtain rfl := List.eq_nil_of_length_eq_zero hy.len
    have hrun := run_append_owned_none (P := Tryd.prog) (w := w) 0 26 o.type 45 i 2 Tryd.underlying26 h1 v xs.length _ hown
    unfold Oper.wp execOp
    simp only [ho, resolve, invoke, builtin, Sem.run_bind, Sem.run_pure, Result.andThen_ok, List.map_toArray, List.map_cons, List.map_nil, hs, hx, hrun]
    exact h v w (by rw [List.append_nil]; exact hown) ⟨rfl, rfl, rfl, Nat.le_refl _, fun _ _ _ => rfl⟩ (.inl rfl)
  | some ad =>
    have hlen := hy.len
    obtain ⟨v', w', hr, k2, k3, k4, k5⟩ := run_append_own_at (P := Tryd.prog) w 0 26 o.type 45 i _ 2 16 Tryd.underlying26 h1 h2 h3 h4 (by kernel_rfl) (by decide) v xs.length _ hown ad n c (enC ys) (by rw [enC_length, hlen]) hy.src (enC_one ys) (by unfold maxLen; omega) (by omega) (Nat.zero_le _)
    unfold Oper.wp execOp
    simp only [ho, resolve, invoke, builtin, Sem.run_bind, Sem.run_pure, Result.andThen_ok, List.map_toArray, List.map_cons, List.map_nil, hs, hx, hr]
    refine h v' w' ?_ k3 k5
    unfold EO
    rw [enC_append, List.length_append, hlen]
    exact k2
theorem wpList_cat_en {ops : Array Oper} {rest : List Oper} {o : Oper} {a : Act} {w : World} {Q : Exit → Act → World → Prop} (hgd : o.guard = none) (s x : Operand)
    (ho : o.op = .call { callee := .builtin .append, args := #[s, x], argTypes := #[26, 26] }) (v : Value) (xs : List En) (hs : a.eval s = v) (hown : EO w v xs)
    (A : Option Addr) (n c : Nat) (ys : List En) (hx : a.eval x = .slice A n c) (hy : EnS w A n c ys) (hm : xs.length + n ≤ 10000000)
    (h : ∀ v' w', EO w' v' (xs ++ ys) → w.grownBy w' v.ownBlock → (v'.ownBlock = v.ownBlock ∨ v'.ownBlock = some w.heap.size) → wpList Tryd.prog ops Q rest (a.put o.dst v') w') : wpList Tryd.prog ops Q (o :: rest) a w :=
  wpList_plain hgd fun _ hK => wp_cat_en s x ho v xs hs hown A n c ys hx hy hm fun v' w' h1 h2 h3 => hK _ _ (h v' w' h1 h2 h3)
/-- A slice literal of one entry. -/
theorem wpList_one17 {ops : Array Oper} {rest : List Oper} {o : Oper} {a : Act} {w : World} {Q : Exit → Act → World → Prop} (hgd : o.guard = none) (x : Operand) (ho : o.op = .buildSlice 26 1 #[(0, x)])
    (e : En) (hx : a.eval x = .agg #[.int .i64 e.id, .int .u64 e.at_])
    (h : ∀ w', EnS w' (some ⟨w.heap.size, 0, none⟩) 1 1 [e] → Below w.heap.size w w' → w'.heap.size = w.heap.size + 1 → wpList Tryd.prog ops Q rest (a.put o.dst (.slice (some ⟨w.heap.size, 0, none⟩) 1 1)) w') : wpList Tryd.prog ops Q (o :: rest) a w := by
  obtain ⟨i, h1, h2, h3, _⟩ := info_of17 infoEn
  refine wpList_buildSlice hgd 26 45 1 _ ho #[.int .i64 e.id, .int .u64 e.at_] i _ Tryd.underlying26 h1 h2 (by rw [h3]; omega) (by rw [h3]; omega) ?_ (h _ ⟨rfl, Nat.le_refl _, by decide, (fun h => by cases h), fun i x hx => ?_⟩ ((Below.refl _ w).alloc (Nat.le_refl _) _) (by simp))
  · have hf := Great.fill_whole (by decide : 0 < 2) [Value.agg #[.int .i64 e.id, .int .u64 e.at_]] ((Array.range (1 * i.size)).map ((Value.agg #[.int .i64 0, .int .u64 0]).cells[· % (Value.agg #[.int .i64 0, .int .u64 0]).cells.size]!)) (fun v hv => by
      obtain rfl := List.mem_singleton.1 hv
      rfl) (by simp [h3])
    rw [h3] at hf ⊢
    simp only [List.zipIdx, List.map_cons, List.map_nil, List.flatMap_cons, List.flatMap_nil, List.append_nil] at hf
    simp only [List.map_toArray, List.map_cons, List.map_nil, hx]
    rw [hf]
    simp [Value.cells]
  · match i, hx with
    | 0, hx =>
      obtain rfl : e = x := by simpa using hx
      refine ⟨_, 0, rfl, ?_, ?_⟩
      · exact cell_of_row _ _ 0 _ _ _ (heap_alloc_new w _)
      · exact cell_of_row _ _ 1 _ _ _ (heap_alloc_new w _)
    | i + 1, hx => simp at hx
/-! ### the table -/
structure Ed (w : World) (e : Nat) (ob : Option Nat) (N : Int) (ys : List En) : Prop where
  here : ∃ v, w.heap[e]? = some (.cells #[.int .i64 N, v] 28 (0, 0)) ∧ EO w v ys ∧ v.ownBlock = ob
  apart : ob ≠ some e
theorem Ed.keep {w w' : World} {e : Nat} {ob : Option Nat} {N : Int} {ys : List En} (h : Ed w e ob N ys) (hg : w'.heap[e]? = w.heap[e]?) (ho : ∀ b, ob = some b → w'.heap[b]? = w.heap[b]?) : Ed w' e ob N ys := by
  obtain ⟨⟨v, h1, h2, h3⟩, h4⟩ := h
  exact ⟨⟨v, hg.trans h1, h2.kept (fun b hb => ho b (h3 ▸ hb)), h3⟩, h4⟩
theorem Ed.lt {w : World} {e : Nat} {ob : Option Nat} {N : Int} {ys : List En} (h : Ed w e ob N ys) : e < w.heap.size := by
  obtain ⟨v, h1, _⟩ := h.here
  exact (Array.getElem?_eq_some_iff.1 h1).1
theorem Ed.lto {w : World} {e : Nat} {ob : Option Nat} {N : Int} {ys : List En} (h : Ed w e ob N ys) {b : Nat} (hb : ob = some b) : b < w.heap.size := by
  obtain ⟨v, h1, h2, h3⟩ := h.here
  exact h2.lt (h3.trans hb)
theorem Ed.later {B : Nat} {w w' : World} {e : Nat} {ob : Option Nat} {N : Int} {ys : List En} (h : Ed w e ob N ys) (hb : Below B w w') (hB : w.heap.size ≤ B) : Ed w' e ob N ys :=
  h.keep (hb.block e (Nat.lt_of_lt_of_le h.lt hB)) fun b e => hb.block b (Nat.lt_of_lt_of_le (h.lto e) hB)
theorem Ed.open_ {w : World} {e : Nat} {ob : Option Nat} {N : Int} {ys : List En} (h : Ed w e ob N ys) : ∃ A c, w.cell? ⟨e, 0, none⟩ = some (.int .i64 N) ∧ w.cell? ⟨e, 1, none⟩ = some (.slice A ys.length c) ∧ w.frozen? ⟨e, 1, none⟩ = false ∧ EnS w A ys.length c ys ∧ EO w (.slice A ys.length c) ys ∧ (Value.slice A ys.length c).ownBlock = ob ∧ (A = none ∨ ∃ b, A = some ⟨b, 0, none⟩) := by
  obtain ⟨v, h1, h2, h3⟩ := h.here
  obtain ⟨A, c, rfl, hs, hA⟩ := EnS.of_own h2
  exact ⟨A, c, cell_of_row w e 0 _ _ _ h1, cell_of_row w e 1 _ _ _ h1, by simp [World.frozen?, h1], hs, h2, h3, hA⟩
/-- A row's block is what it was, a new one, or none. -/
def Fr (ob ob' : Option Nat) (n : Nat) : Prop := ∀ b, ob' = some b → ob = some b ∨ n ≤ b
theorem Fr.refl (ob : Option Nat) (n : Nat) : Fr ob ob n := fun _ h => .inl h
theorem Ed.flat {w w' : World} {e : Nat} {ob : Option Nat} {N : Int} {ys : List En} (h : Ed w e ob N ys) (hb : Below w.heap.size w w') : Ed w' e ob N ys ∧ Mv e none w w' ∧ Fr ob ob w.heap.size := ⟨h.later hb (Nat.le_refl _), Mv.of_below hb, Fr.refl _ _⟩
theorem Mv.new {e k : Nat} {w w4 w5 : World} (h : Mv e none w w4) (h2 : Mv k none w4 w5) (hk : w.heap.size ≤ k) : Mv e none w w5 :=
  ⟨h2.os.trans h.os, h2.tape.trans h.tape, h2.output.trans h.output, Nat.le_trans h.size h2.size, fun i hi h1 _ => (h2.block i (Nat.lt_of_lt_of_le hi h.size) (by omega) (by simp)).trans (h.block i hi h1 (by simp))⟩
theorem below_of_new {k : Nat} {w w4 w5 : World} (h : Below w.heap.size w w4) (h2 : Mv k none w4 w5) (hk : w.heap.size ≤ k) : Below w.heap.size w w5 :=
  ⟨h2.os.trans h.os, h2.tape.trans h.tape, h2.output.trans h.output, Nat.le_trans h.size h2.size, fun i hi => (h2.block i (Nat.lt_of_lt_of_le hi h.size) (by omega) (by simp)).trans (h.block i hi)⟩
/-- Behind a row made anew, stored, and what is told put in its box. -/
theorem Ed.stored {w w1 w4 : World} {e : Nat} {ob : Option Nat} {N : Int} {ys zs : List En} {A : Option Addr} {n c : Nat} (h : Ed w e ob N ys) (h1 : Below w.heap.size w w1) (h4 : Below w1.heap.size w1 w4) (ho : EO w4 (.slice A n c) zs) (hf : ∀ b, (Value.slice A n c).ownBlock = some b → w1.heap.size ≤ b) :
    Ed (w4.setCell ⟨e, 1, none⟩ (.slice A n c)) e (Value.slice A n c).ownBlock N zs ∧ Mv e none w (w4.setCell ⟨e, 1, none⟩ (.slice A n c)) ∧ (∀ k, k ≠ e → (w4.setCell ⟨e, 1, none⟩ (.slice A n c)).heap[k]? = w4.heap[k]?) ∧ (w4.setCell ⟨e, 1, none⟩ (.slice A n c)).heap.size = w4.heap.size ∧ (w4.setCell ⟨e, 1, none⟩ (.slice A n c)).heap[e]? = some (.cells #[.int .i64 N, .slice A n c] 28 (0, 0)) := by
  have hb : Below w.heap.size w w4 := h1.trans (h4.mono h1.size)
  obtain ⟨v, hv, _⟩ := (h.later hb (Nat.le_refl _)).here
  have hlt := h.lt
  have hap : (Value.slice A n c).ownBlock ≠ some e := fun e2 => by
    have := hf _ e2
    have := h1.size
    omega
  have hset : w4.setCell ⟨e, 1, none⟩ (.slice A n c) = w4.setRow e #[.int .i64 N, .slice A n c] := by
    rw [setCell_eq_setRow w4 e 1 _ _ _ _ hv]
    rfl
  rw [hset]
  refine ⟨⟨⟨_, setRow_heap w4 e _ _ _ _ hv, ho.kept fun b hb2 => setRow_other w4 e b _ (fun e2 => hap (by rw [hb2, e2])), rfl⟩, hap⟩, ⟨hb.os, hb.tape, hb.output, by rw [size_setRow]; exact hb.size, fun k hk h1 _ => ?_⟩, fun k hk => setRow_other w4 e k _ hk, size_setRow _ _ _, setRow_heap w4 e _ _ _ _ hv⟩
  exact (setRow_other w4 e k _ h1).trans (hb.block k hk)
theorem Ed.fin {w w1 w4 w5 : World} {e k : Nat} {ob : Option Nat} {N : Int} {ys zs : List En} {A : Option Addr} {n c : Nat} (h : Ed w e ob N ys) (h1 : Below w.heap.size w w1) (h4 : Below w1.heap.size w1 w4) (ho : EO w4 (.slice A n c) zs) (hf : ∀ b, (Value.slice A n c).ownBlock = some b → w1.heap.size ≤ b) (hk : w.heap.size ≤ k) (hk1 : k < w1.heap.size)
    (h5 : Mv k none (w4.setCell ⟨e, 1, none⟩ (.slice A n c)) w5) : Ed w5 e (Value.slice A n c).ownBlock N zs ∧ Mv e none w w5 ∧ Fr ob (Value.slice A n c).ownBlock w.heap.size := by
  obtain ⟨a1, a2, a3, a4, _⟩ := h.stored h1 h4 ho hf
  have hlt := h.lt
  refine ⟨a1.keep (h5.block e a1.lt (by omega) (by simp)) fun b hb => h5.block b (a1.lto hb) (by have := hf b hb; omega) (by simp), a2.new h5 hk, fun b hb => .inr (Nat.le_trans h1.size (hf b hb))⟩
--<< place
set_option maxHeartbeats 2000000 in
theorem place_any {w : World} {e : Nat} {ob : Option Nat} {N : Int} {ys : List En} (h : Ed w e ob N ys) (hbig : ys.length ≤ 1000000) (id : Int) : Calls Tryd.prog 28 #[.pointer (some ⟨e, 0, none⟩), .int .i64 id] w fun ev w' => ev = .returned (.int .i64 (idxv ys id)) ∧ w = w' := by
  obtain ⟨A, c, _, q1, _, hs, _⟩ := h.open_
  obtain ⟨n, hn⟩ : ∃ n, n = ys.length := ⟨_, rfl⟩
  rw [← hn] at q1 hs hbig
  have HS := Lib.hid (And.intro hs hn)
  clear hs hn h
  go_enter Tryd.func28, Tryd.ntmps28
  go_wp2_with fail
  go_loopw [5] (fun i wr => ∃ k : Nat, k ≤ n ∧ i = .int .i64 k ∧ (∀ (j : Nat) (x : En), j < k → ys[j]? = some x → (x.id == id) = false) ∧ w = wr) (fun i _ => n - (intOf i).toNat)
  case atStart => exact ⟨0, Nat.zero_le _, rfl, fun j x h => absurd h (by omega), rfl⟩
  case round =>
    obtain ⟨k, hk, rfl, hall, rfl⟩ := hrel
    by_cases hkn : k < n
    · obtain ⟨x, hxk⟩ : ∃ x, ys[k]? = some x := ⟨ys[k]'(by rw [← HS.out.2]; exact hkn), List.getElem?_eq_getElem _⟩
      obtain ⟨b, off, rfl, r1, r2⟩ := HS.out.1.here k x hxk
      have HX := Lib.hid (And.intro hxk hall)
      clear hxk hall r2
      obtain ⟨xi, xt⟩ := x
      dsimp only at r1
      have hkn2 : (k : Int) < (n : Int) := by omega
      by_cases hid : xi = id
      · have hi := Lib.hid (idxv_at (id := id) HX.out.1 (by simpa using hid) HX.out.2)
        have hid2 : (xi == id) = true := by simpa using hid
        go_wp2_with fail
        go_ret
        exact ⟨by rw [hi.out]; rfl, rfl⟩
      · have hid2 : (xi == id) = false := by simpa using hid
        have HI := Lib.hid hid2
        clear hid
        go_wp2_with fail
        refine ⟨⟨k + 1, hkn, by go_num, fun j y hj hy => ?_, trivial⟩, by simp [intOf]; omega⟩
        by_cases hjk : j = k
        · subst hjk
          obtain rfl := Option.some.inj (HX.out.1.symm.trans hy)
          exact HI.out
        · exact HX.out.2 j y (by omega) hy
    · obtain rfl : k = n := by omega
      have hi := Lib.hid (idxv_no (id := id) fun j x hx => hall j x (by rw [HS.out.2]; exact (List.getElem?_eq_some_iff.1 hx).1) hx)
      clear hall hk hkn
      have hnn : ¬ ((k : Int) < (k : Int)) := by omega
      go_wp2_with fail
      go_ret
      exact ⟨by rw [hi.out]; rfl, rfl⟩
-->>
--<< held
theorem held_any (N : Int) (w : World) : Calls Tryd.prog 34 #[.int .i64 N] w fun ev w' => ev = .returned (.int .i64 (heldV N)) ∧ w = w' := by
  unfold heldV
  by_cases h1 : N ≤ 0
  · rw [if_pos h1]
    by_cases h0 : N = 0
    · subst h0
      go_enter Tryd.func34, Tryd.ntmps34
      go_wp2
      go_ret
      exact ⟨rfl, rfl⟩
    · have h3 : N < 0 := by omega
      go_enter Tryd.func34, Tryd.ntmps34
      go_wp2
      go_ret
      exact ⟨rfl, rfl⟩
  · rw [if_neg h1]
    by_cases h2 : 1000 < N
    · rw [if_pos h2]
      go_enter Tryd.func34, Tryd.ntmps34
      go_wp2
      all_goals (go_ret; first | exact ⟨rfl, rfl⟩ | omega)
    · rw [if_neg h2]
      have h3 : ((N.toNat : Nat) : Int) = N := by omega
      rw [h3]
      go_enter Tryd.func34, Tryd.ntmps34
      go_wp2
      all_goals (go_ret; first | exact ⟨rfl, rfl⟩ | omega)
-->>
end Go.Proofs.YtdpmjbhkmfjpfaaDoor
