/-
  What ends when, in memory: entries in boxes, in rows of the call's own; '==' of entries; cmp.Compare, cmp.Or, expiry.compare. No conditions.
-/
import Derived.Test.YtdpmjbhkmfjpfaaDoorBy
import Derived.Test.YtdpmjbhkmfjpfaaDoorPurE17
import Derived.Laws.StructEq
import Derived.Laws.ResultCell
import Derived.Maps.AppendAt
import Derived.Laws.CopyRow
import Derived.WalkKit
import Derived.Deep.RegionHeld
import Derived.Test.YtdpmjbhkmfjpfaaDoorProg
namespace Go.Proofs.YtdpmjbhkmfjpfaaDoor
open Go.RowKit
set_option maxRecDepth 100000

/-- Its cells. -/
def enA (e : En) : Array Value := #[.int .i64 e.id, .int .u64 e.at_]
def enC (xs : List En) : List Value := xs.flatMap fun e => [.int .i64 e.id, .int .u64 e.at_]
theorem enC_nil : enC [] = [] := rfl
theorem enC_cons (e : En) (xs : List En) : enC (e :: xs) = .int .i64 e.id :: .int .u64 e.at_ :: enC xs := rfl
theorem enC_append (xs ys : List En) : enC (xs ++ ys) = enC xs ++ enC ys := by simp [enC]
theorem enC_length (xs : List En) : (enC xs).length = xs.length * 2 := by
  induction xs with
  | nil => rfl
  | cons e xs ih => rw [enC_cons]; simp only [List.length_cons, ih]; omega
theorem enC_take : ∀ (xs : List En) (i : Nat), (enC xs).take (i * 2) = enC (xs.take i)
  | [], i => by simp [enC]
  | e :: xs, 0 => rfl
  | e :: xs, i + 1 => by
    rw [show (i + 1) * 2 = i * 2 + 1 + 1 by omega, enC_cons, List.take_succ_cons, List.take_succ_cons, enC_take xs i, List.take_succ_cons, enC_cons]
theorem enC_drop : ∀ (xs : List En) (i : Nat), (enC xs).drop (i * 2) = enC (xs.drop i)
  | [], i => by simp [enC]
  | e :: xs, 0 => rfl
  | e :: xs, i + 1 => by
    rw [show (i + 1) * 2 = i * 2 + 1 + 1 by omega, enC_cons, List.drop_succ_cons, List.drop_succ_cons, enC_drop xs i, List.drop_succ_cons]
theorem enC_one (xs : List En) : ∀ u ∈ enC xs, u.oneCell' = true := by
  intro u hu
  unfold enC at hu
  obtain ⟨e, _, he⟩ := List.mem_flatMap.1 hu
  simp only [List.mem_cons, List.not_mem_nil, or_false] at he
  rcases he with rfl | rfl <;> rfl
theorem enC_get : ∀ {xs : List En} {i : Nat} {e : En}, xs[i]? = some e → (enC xs)[i * 2]? = some (.int .i64 e.id) ∧ (enC xs)[i * 2 + 1]? = some (.int .u64 e.at_)
  | [], i, e, h => by simp at h
  | a :: xs, 0, e, h => by
    obtain rfl : a = e := by simpa using h
    exact ⟨rfl, rfl⟩
  | a :: xs, i + 1, e, h => by
    have h1 : xs[i]? = some e := by simpa using h
    have ih := enC_get h1
    rw [show (i + 1) * 2 = i * 2 + 1 + 1 by omega, enC_cons]
    exact ⟨by simpa using ih.1, by simpa using ih.2⟩
/-- What may be an entry. -/
def En.ok (e : En) : Prop := -9223372036854775808 ≤ e.id ∧ e.id ≤ 9223372036854775807 ∧ 0 ≤ e.at_ ∧ e.at_ ≤ 18446744073709551615

/-- A slice of entries, as it reads. -/
structure EnS (w : World) (A : Option Addr) (n c : Nat) (xs : List En) : Prop where
  len : xs.length = n
  cap : n ≤ c
  max : c ≤ maxLen
  none_ : A = none → c = 0
  here : ∀ (i : Nat) e, xs[i]? = some e → ∃ b off, A = some ⟨b, off, none⟩ ∧ w.cell? ⟨b, off + i * 2, none⟩ = some (.int .i64 e.id) ∧ w.cell? ⟨b, off + i * 2 + 1, none⟩ = some (.int .u64 e.at_)
theorem EnS.keep {w w' : World} {A : Option Addr} {n c : Nat} {xs : List En} (h : EnS w A n c xs) (hk : ∀ a : Addr, A = some a → w'.heap[a.block]? = w.heap[a.block]?) : EnS w' A n c xs :=
  ⟨h.len, h.cap, h.max, h.none_, fun i e he => by
    obtain ⟨b, off, rfl, h1, h2⟩ := h.here i e he
    have hb := hk _ rfl
    exact ⟨b, off, rfl, (World.cell?_of_block (w := w) (w' := w') (a := ⟨b, off + i * 2, none⟩) hb).trans h1, (World.cell?_of_block (w := w) (w' := w') (a := ⟨b, off + i * 2 + 1, none⟩) hb).trans h2⟩⟩
theorem EnS.later {B : Nat} {w w' : World} {A : Option Addr} {n c : Nat} {xs : List En} (h : EnS w A n c xs) (hb : Below B w w') (hB : w.heap.size ≤ B) : EnS w' A n c xs :=
  ⟨h.len, h.cap, h.max, h.none_, fun i e he => by
    obtain ⟨b, off, rfl, h1, h2⟩ := h.here i e he
    have hlt := lt_of_cell' h1
    exact ⟨b, off, rfl, (hb.cell (p := ⟨b, _, none⟩) (by show b < B; exact Nat.lt_of_lt_of_le hlt hB)).trans h1, (hb.cell (p := ⟨b, _, none⟩) (by show b < B; exact Nat.lt_of_lt_of_le hlt hB)).trans h2⟩⟩
theorem EnS.nil (w : World) : EnS w none 0 0 [] := ⟨rfl, Nat.le_refl _, Nat.zero_le _, fun _ => rfl, fun i q h => by cases h⟩
/-- A row of the call's own. -/
def EO (w : World) (v : Value) (xs : List En) : Prop := w.ownsRow 0 45 2 v xs.length (enC xs)
theorem EO.nil (w : World) : EO w (.slice none 0 0) [] := World.ownsRow_nil _ _ _ _
theorem EO.kept {w w' : World} {v : Value} {xs : List En} (h : EO w v xs) (hk : ∀ b, v.ownBlock = some b → w'.heap[b]? = w.heap[b]?) : EO w' v xs := by
  refine ⟨h.1, ?_⟩
  rcases h.2 with h2 | ⟨g, cap, cur, rfl, h3, h4, h5⟩
  · exact .inl h2
  · exact .inr ⟨g, cap, cur, rfl, h3, (hk g rfl).trans h4, h5⟩
theorem EO.lt {w : World} {v : Value} {xs : List En} (h : EO w v xs) {b : Nat} (hb : v.ownBlock = some b) : b < w.heap.size := (World.ownsRow.lt h b hb).2
/-- How it lies. -/
theorem EO.cases {w : World} {v : Value} {xs : List En} (h : EO w v xs) : (v = .slice none 0 0 ∧ xs = []) ∨ ∃ b c cur, v = .slice (some ⟨b, 0, none⟩) xs.length c ∧ w.heap[b]? = some (.cells cur 45 (0, 0)) ∧ xs.length ≤ c ∧ c ≤ maxLen ∧ cur.size = c * 2 ∧ cur.toList.take (xs.length * 2) = enC xs := by
  rcases h.2 with ⟨rfl, h0⟩ | ⟨g, cap, cur, rfl, _, h4, h5, h6, h7, h8⟩
  · exact .inl ⟨rfl, List.eq_nil_of_length_eq_zero h0⟩
  · exact .inr ⟨g, cap, cur, rfl, h4, h5, h6, h7, h8⟩
theorem EO.of {w : World} {b c : Nat} {cur : Array Value} {xs : List En} {n : Nat} (hb : w.heap[b]? = some (.cells cur 45 (0, 0))) (hn : xs.length = n) (hc : n ≤ c) (hm : c ≤ maxLen) (hs : cur.size = c * 2) (ht : cur.toList.take (n * 2) = enC xs) : EO w (.slice (some ⟨b, 0, none⟩) n c) xs := by
  subst hn
  exact ⟨enC_length xs, .inr ⟨b, c, cur, rfl, Nat.zero_le _, hb, hc, hm, hs, ht⟩⟩
theorem EnS.of_own {w : World} {v : Value} {xs : List En} (h : EO w v xs) : ∃ A c, v = .slice A xs.length c ∧ EnS w A xs.length c xs ∧ (A = none ∨ ∃ b, A = some ⟨b, 0, none⟩) := by
  rcases h.cases with ⟨rfl, rfl⟩ | ⟨b, c, cur, rfl, hb, hc, hm, hs, ht⟩
  · exact ⟨none, 0, rfl, EnS.nil w, .inl rfl⟩
  · refine ⟨_, _, rfl, ⟨rfl, hc, hm, (fun h => by cases h), fun i e he => ⟨b, 0, rfl, ?_⟩⟩, .inr ⟨b, rfl⟩⟩
    have hi : i < xs.length := (List.getElem?_eq_some_iff.1 he).1
    obtain ⟨h1, h2⟩ := enC_get he
    rw [← ht, List.getElem?_take, if_pos (by omega)] at h1 h2
    rw [Nat.zero_add, cell_of_row w b _ _ _ _ hb, cell_of_row w b _ _ _ _ hb, ← Array.getElem?_toList, ← Array.getElem?_toList]
    exact ⟨h1, h2⟩
theorem fields_en : ∃ f g : Field, (Tryd.prog.fieldsOf 45).toList = [f, g] ∧ (f.name ≠ "_") ∧ (g.name ≠ "_") ∧ f.type = 3 ∧ f.offset = 0 ∧ g.type = 30 ∧ g.offset = 1 := by
  refine ⟨(Tryd.prog.fieldsOf 45).toList.head!, (Tryd.prog.fieldsOf 45).toList.tail.head!, by kernel_rfl, ?_, ?_, by kernel_rfl, by kernel_rfl, by kernel_rfl, by kernel_rfl⟩
  · exact of_decide_eq_true (by kernel_rfl)
  · exact of_decide_eq_true (by kernel_rfl)
theorem part_id (x y : Int) (w : World) : (part 3 #[.int .i64 x, .int .u64 y] 0).run Tryd.prog w = .ok (.int .i64 x) w := by kernel_rfl
theorem part_at (x y : Int) (w : World) : (part 30 #[.int .i64 x, .int .u64 y] 1).run Tryd.prog w = .ok (.int .u64 y) w := by kernel_rfl
theorem eqIn_en (d : Nat) (i t j s : Int) (w : World) : (Op.equalIn (d + 3) 45 (.agg #[.int .i64 i, .int .u64 t]) (.agg #[.int .i64 j, .int .u64 s])).run Tryd.prog w = .ok ((i == j) && (t == s)) w := by
  rw [run_equalIn_struct w (d + 2) 45 _ _ (by kernel_rfl) (by kernel_rfl)]
  obtain ⟨f, g, hf, h1, h2, h3, h4, h5, h6⟩ := fields_en
  rw [hf]
  have e1 : (Op.equalIn (d + 2) 3 (.int .i64 i) (.int .i64 j)).run Tryd.prog w = .ok (i == j) w := by
    simp [Op.equalIn, run_underlying Tryd.underlying3]
  have e2 : (Op.equalIn (d + 2) 30 (.int .u64 t) (.int .u64 s)).run Tryd.prog w = .ok (t == s) w := by
    simp [Op.equalIn, run_underlying Tryd.underlying30]
  simp only [Op.eqFields, if_pos h1, if_pos h2, h3, h4, h5, h6, Sem.run_bind, part_id, part_at, e1, e2, Result.andThen_ok, Sem.run_ite, Sem.run_pure]
  cases (i == j) <;> cases (t == s) <;> rfl
/-- '==' of entries. -/
theorem eqlEn (i t j s : Int) (w : World) : (binOp .eql 45 (.agg #[.int .i64 i, .int .u64 t]) (.agg #[.int .i64 j, .int .u64 s])).run Tryd.prog w = .ok (.bool ((i == j) && (t == s))) w := by
  rw [run_eql_struct]
  have h1 := eqIn_en 9997 i t j s w
  rw [show (10000 : Nat) = 9997 + 3 from rfl] at *
  simp only [h1]
  rfl
/-! ### cmp.Compare, cmp.Or, expiry.compare -/
theorem nan_u (x : Int) (w : World) : Calls Tryd.prog 53 #[.int .u64 x] w fun e w' => e = .returned (.bool false) ∧ w = w' := by
  go_enter Tryd.func53, Tryd.ntmps53
  go_wp2
  all_goals (go_ret; first | exact ⟨by simp, rfl⟩ | exact ⟨rfl, rfl⟩)
theorem nan_i (x : Int) (w : World) : Calls Tryd.prog 54 #[.int .i64 x] w fun e w' => e = .returned (.bool false) ∧ w = w' := by
  go_enter Tryd.func54, Tryd.ntmps54
  go_wp2
  all_goals (go_ret; first | exact ⟨by simp, rfl⟩ | exact ⟨rfl, rfl⟩)
theorem cmp_u (x y : Int) (w : World) : Calls Tryd.prog 49 #[.int .u64 x, .int .u64 y] w fun e w' => e = .returned (.int .i64 (cmpv x y)) ∧ w = w' := by
  have K := Lib.hid (nan_u x w)
  have K2 := Lib.hid (nan_u y w)
  unfold cmpv
  go_enter Tryd.func49, Tryd.ntmps49
  go_wp2_with fail
  refine K.out.mono ?_
  rintro e w' ⟨rfl, rfl⟩
  go_wp2_with fail
  refine K2.out.mono ?_
  rintro e w' ⟨rfl, rfl⟩
  go_wp2_with fail
  all_goals (go_ret; exact ⟨rfl, rfl⟩)
theorem cmp_i (x y : Int) (w : World) : Calls Tryd.prog 50 #[.int .i64 x, .int .i64 y] w fun e w' => e = .returned (.int .i64 (cmpv x y)) ∧ w = w' := by
  have K := Lib.hid (nan_i x w)
  have K2 := Lib.hid (nan_i y w)
  unfold cmpv
  go_enter Tryd.func50, Tryd.ntmps50
  go_wp2_with fail
  refine K.out.mono ?_
  rintro e w' ⟨rfl, rfl⟩
  go_wp2_with fail
  refine K2.out.mono ?_
  rintro e w' ⟨rfl, rfl⟩
  go_wp2_with fail
  all_goals (go_ret; exact ⟨rfl, rfl⟩)
end Go.Proofs.YtdpmjbhkmfjpfaaDoor
