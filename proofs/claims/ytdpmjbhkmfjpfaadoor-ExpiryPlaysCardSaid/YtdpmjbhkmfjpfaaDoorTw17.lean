/-
  Two queues side by side; what was pushed one by one; slices of times as they read. Conditions: those of the queues.
-/
import Derived.Test.YtdpmjbhkmfjpfaaDoorLw17
namespace Go.Proofs.YtdpmjbhkmfjpfaaDoor
open Go.RowKit
set_option maxRecDepth 100000

/-- Blocks that do not meet. -/
def Dis (g1 : Nat) (ob1 : Option Nat) (g2 : Nat) (ob2 : Option Nat) : Prop := g1 ≠ g2 ∧ ob1 ≠ some g2 ∧ ob2 ≠ some g1 ∧ ∀ b, ob1 = some b → ob2 ≠ some b
theorem Dis.symm {g1 g2 : Nat} {ob1 ob2 : Option Nat} (h : Dis g1 ob1 g2 ob2) : Dis g2 ob2 g1 ob1 := ⟨fun e => h.1 e.symm, h.2.2.1, h.2.1, fun b hb h2 => h.2.2.2 b h2 hb⟩
/-- Blocks of the call's own. -/
def Lo (B g : Nat) (ob : Option Nat) : Prop := B ≤ g ∧ ∀ b, ob = some b → B ≤ b
theorem Lo.fresh {B g n : Nat} {ob ob' : Option Nat} (h : Lo B g ob) (hf : Fresh ob ob' n) (hn : B ≤ n) : Lo B g ob' := ⟨h.1, fun b hb => by
  rcases hf with rfl | ⟨b', rfl, hb'⟩
  · exact h.2 b hb
  · cases hb
    omega⟩
theorem Mv.lo {g : Nat} {ob : Option Nat} {B : Nat} {w0 w w' : World} (hb : Below B w0 w) (h : Mv g ob w w') (hl : Lo B g ob) (hB : B ≤ w.heap.size) : Below B w0 w' := Mv.below hb h hl.1 hl.2 hB
theorem Dis.fresh {w : World} {g1 g2 : Nat} {ob1 ob1' ob2 : Option Nat} (h : Dis g1 ob1 g2 ob2) (hf : Fresh ob1 ob1' w.heap.size) (hg : g2 < w.heap.size) (ho : ∀ b, ob2 = some b → b < w.heap.size) : Dis g1 ob1' g2 ob2 := by
  rcases hf with rfl | ⟨b', rfl, hb'⟩
  · exact h
  · exact ⟨h.1, fun e => by cases e; omega, h.2.2.1, fun b hb h2 => by cases hb; have := ho _ h2; omega⟩
theorem QL.other {w w' : World} {g1 g2 cap : Nat} {ob1 ob2 : Option Nat} {L : List En} (h : QL w g2 ob2 cap L) (hm : Mv g1 ob1 w w') (hd : Dis g1 ob1 g2 ob2) : QL w' g2 ob2 cap L :=
  h.keep (hm.block g2 h.lt (fun e => hd.1 e.symm) (fun e => hd.2.1 e.symm)) fun b hb => hm.block b (h.lto hb) (fun e => hd.2.2.1 (e ▸ hb)) (fun e => hd.2.2.2 b e.symm hb)
theorem EO.other {w w' : World} {v : Value} {xs : List En} {g : Nat} {ob : Option Nat} (h : EO w v xs) (hm : Mv g ob w w') (h1 : v.ownBlock ≠ some g) (h2 : ∀ b, v.ownBlock = some b → ob ≠ some b) : EO w' v xs :=
  h.kept fun b hb => hm.block b (h.lt hb) (fun e => h1 (e ▸ hb)) (fun e => h2 b hb e.symm)
/-- What was pushed one by one: so many. -/
def ents (l : List Int) (k : Nat) : List En := (List.range k).map fun (i : Nat) => (⟨(i : Int), l.getD i 0⟩ : En)
theorem ents_length (l : List Int) (k : Nat) : (ents l k).length = k := by simp [ents]
theorem ents_succ (l : List Int) (k : Nat) : ents l (k + 1) = ents l k ++ [⟨(k : Int), l.getD k 0⟩] := by simp [ents, List.range_succ]
theorem ents_mem {l : List Int} {k : Nat} {e : En} (h : e ∈ ents l k) : ∃ i : Nat, i < k ∧ e = ⟨(i : Int), l.getD i 0⟩ := by
  unfold ents at h
  obtain ⟨i, hi, rfl⟩ := List.mem_map.1 h
  exact ⟨i, List.mem_range.1 hi, rfl⟩
theorem ents_of {l : List Int} {k i : Nat} (h : i < k) : (⟨(i : Int), l.getD i 0⟩ : En) ∈ ents l k := List.mem_map.2 ⟨i, List.mem_range.2 h, rfl⟩
theorem ents_has {l : List Int} {k j : Nat} (h : k ≤ j) : hasV (ents l k) j = false := by
  refine Bool.eq_false_iff.2 fun h2 => ?_
  obtain ⟨e, he, h3⟩ := hasV_iff.1 h2
  obtain ⟨i, hi, rfl⟩ := ents_mem he
  dsimp only at h3
  omega
theorem ents_push {l : List Int} {k cap : Nat} (h : k < cap) : pushE cap (ents l k) k = 0 ∧ pushL cap (ents l k) k (l.getD k 0) = ents l (k + 1) := by
  have e : pushE cap (ents l k) k = 0 := by
    unfold pushE
    rw [ents_has (Nat.le_refl k), ents_length, if_neg (by simp), if_neg (by omega)]
  refine ⟨e, ?_⟩
  unfold pushL
  rw [if_pos e, ents_succ]
/-- A slice of times, as it reads. -/
structure Us (w : World) (A : Option Addr) (n c : Nat) (l : List Int) : Prop where
  len : l.length = n
  cap : n ≤ c
  max : c ≤ maxLen
  none_ : A = none → c = 0
  range : ∀ x ∈ l, 0 ≤ x ∧ x ≤ 18446744073709551615
  here : ∀ (i : Nat), i < n → ∃ b off, A = some ⟨b, off, none⟩ ∧ w.cell? ⟨b, off + i, none⟩ = some (.int .u64 (l.getD i 0))
theorem Us.later {B : Nat} {w w' : World} {A : Option Addr} {n c : Nat} {l : List Int} (h : Us w A n c l) (hb : Below B w w') (hB : w.heap.size ≤ B) : Us w' A n c l :=
  ⟨h.len, h.cap, h.max, h.none_, h.range, fun i hi => by
    obtain ⟨b, off, hA, h1⟩ := h.here i hi
    exact ⟨b, off, hA, (hb.cell (p := ⟨b, off + i, none⟩) (Nat.lt_of_lt_of_le (lt_of_cell' h1) hB)).trans h1⟩⟩
theorem Us.range_at {w : World} {A : Option Addr} {n c : Nat} {l : List Int} (h : Us w A n c l) (i : Nat) : 0 ≤ l.getD i 0 ∧ l.getD i 0 ≤ 18446744073709551615 := by
  rcases Nat.lt_or_ge i l.length with hi | hi
  · rw [List.getD_eq_getElem?_getD, List.getElem?_eq_getElem hi]
    exact h.range _ (List.getElem_mem hi)
  · rw [List.getD_eq_getElem?_getD, List.getElem?_eq_none hi]
    simp
/-- '!=' of entries. -/
theorem neqEn (i t j s : Int) (w : World) : (binOp .neq 45 (.agg #[.int .i64 i, .int .u64 t]) (.agg #[.int .i64 j, .int .u64 s])).run Tryd.prog w = .ok (.bool (!((i == j) && (t == s)))) w := by
  have h1 := eqIn_en 9997 i t j s w
  rw [show (9997 + 3 : Nat) = 10000 from rfl] at h1
  have h2 : (Op.equal 45 (.agg #[.int .i64 i, .int .u64 t]) (.agg #[.int .i64 j, .int .u64 s])).run Tryd.prog w = .ok ((i == j) && (t == s)) w := h1
  simp only [binOp]
  simp [h2]
/-- All that end by the last of all times. -/
theorem due_all {l : List En} (h : ∀ e ∈ l, e.at_ ≤ 18446744073709551615) : (dueL 18446744073709551615 l).1.Perm l ∧ (dueL 18446744073709551615 l).2 = [] := by
  obtain ⟨h1, h2, _⟩ := dueL_spec 18446744073709551615 l
  rw [List.filter_eq_self.2 fun e he => by simpa using h e he] at h2
  rw [h1]
  exact ⟨h2, List.filter_eq_nil_iff.2 fun e he => by have := h e he; simp; omega⟩
theorem due_step {l : List En} {now : Int} {e : En} {t : List En} (hu : uniq l) (h : (dueL now l).1 = e :: t) (hall : ∀ e ∈ l, e.at_ ≤ now) : nextV l = some e ∧ e ∈ l ∧ (dueL now (cancelE l e.id)).1 = t := by
  have hm : e ∈ l := by
    have := (dueL_spec now l).2.1.mem_iff (a := e)
    rw [h] at this
    exact (List.mem_filter.1 (this.1 (List.mem_cons_self ..))).1
  cases hn : nextV l with
  | none =>
    rw [nextV_none.1 hn] at hm
    cases hm
  | some e' =>
    obtain ⟨t', h1, h2, _⟩ := due_next hn (hall e' (nextV_mem hn).1)
    rw [h] at h1
    obtain ⟨rfl, rfl⟩ := List.cons.inj h1
    exact ⟨rfl, hm, by rw [cancelE_erase hu hm]; exact h2.symm⟩
theorem due_nil_of {l : List En} {now : Int} (h : (dueL now l).1 = []) (hall : ∀ e ∈ l, e.at_ ≤ now) : l = [] := by
  have h2 := (dueL_spec now l).2.1
  rw [h, List.filter_eq_self.2 fun e he => by simpa using hall e he] at h2
  exact List.nil_perm.1 h2
end Go.Proofs.YtdpmjbhkmfjpfaaDoor
