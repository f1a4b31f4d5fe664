/-
  Errors as the document tells them (number, place, whether there is one): what stockadehelp.Is says of them; stockadehelp.At, Bare; fault.Wrap told so. Conditions: errors.errorType holds the handle of the type error.
-/
import Derived.Test.YtiggfoghogecjaaDoorHelp
import Derived.WideLaws
namespace Go.Proofs.YtiggfoghogecjaaDoor
open Go.RowKit Go.Extern.Stop Go.Stop Go.Extern

theorem Faults.wrapped {w : World} {d : Nat} {v : Value} {fs : List (Nat × Int)} {n : Int} (h : Faults w d v fs n) (at_ : Int) : Faults (w.alloc (.cells #[.int .i64 at_, v] 54)) (d + 1) (.iface 48 (.pointer (some ⟨w.heap.size, 0, none⟩))) ((w.heap.size, at_) :: fs) n :=
  .fault d w.heap.size at_ v fs n (by show (w.heap.push _)[w.heap.size]? = _; exact Array.getElem?_push_size) (by simp) (by simp) (h.later ((Below.refl w.heap.size w).alloc (Nat.le_refl _) _) (Nat.le_refl _))
theorem Chain.faults1 {w : World} {v : Value} {p : Nat × Int} {n : Int} (h : Chain w 1 (.iface 48 v) [p] (some n)) : Faults w 1 (.iface 48 v) [p] n := by
  cases h with
  | fault d b at_ v fs c hh h0 h1 h =>
    cases h with
    | errno n => exact .fault 0 b at_ _ [] n hh h0 h1 (.errno n)

/-- Wrap, told as a chain: what it hands back, in what world. -/
theorem wrap {d : Nat} {v : Value} {fs : List (Nat × Int)} {n : Int} {w : World} (at_ : Int) (h : Faults w d v fs n) : Calls Tryd.prog 14 #[.int .i64 at_, v] w fun e w' =>
    ∃ b, e = .returned (.iface 48 (.pointer (some ⟨b, 0, none⟩))) ∧ Below w.heap.size w w' ∧ Faults w' (d + 1) (.iface 48 (.pointer (some ⟨b, 0, none⟩))) ((b, at_) :: fs) n := by
  obtain ⟨T, x, rfl⟩ := h.chain.held
  refine (wrap_some at_ T x w).mono ?_
  rintro e w' ⟨rfl, rfl⟩
  exact ⟨_, rfl, (Below.refl _ _).alloc (Nat.le_refl _) _, h.wrapped at_⟩

/-- How an error is told. -/
structure Fl where
  code : Int
  at_ : Int
  placed : Bool
def Fl.v (f : Fl) : Value := .agg #[.int .i64 f.code, .int .i64 f.at_, .bool f.placed]
def Fl.none_ : Fl := ⟨0, 0, false⟩
/-- An error in memory that is told so. -/
def Tells (w : World) (v : Value) (f : Fl) : Prop :=
  (f.code = 0 ∧ v = .nilIface) ∨ (f.code ≠ 0 ∧ ∃ d fs, Faults w d v fs f.code ∧ isFail f.code fs f.code f.at_ f.placed = true)
theorem Tells.later {w w' : World} {B : Nat} {v : Value} {f : Fl} (h : Tells w v f) (hb : Below B w w') (hB : w.heap.size ≤ B) : Tells w' v f := by
  rcases h with h | ⟨h0, d, fs, h1, h2⟩
  · exact .inl h
  · exact .inr ⟨h0, d, fs, h1.later hb hB, h2⟩
theorem Tells.bare (w : World) (n : Int) (hn : n ≠ 0) (a : Int) : Tells w (.iface 28 (.int .i64 n)) ⟨n, a, false⟩ := .inr ⟨hn, 0, [], .errno n, by simp [isFail]⟩
theorem Tells.nil (w : World) (a : Int) (b : Bool) : Tells w .nilIface ⟨0, a, b⟩ := .inl ⟨rfl, rfl⟩

set_option maxRecDepth 100000 in
theorem is_nil (a : Int) (b : Bool) (w : World) : Calls Tryd.prog 9 #[.nilIface, .agg #[.int .i64 0, .int .i64 a, .bool b]] w fun e w' => e = .returned (.bool true) ∧ Below w.heap.size w w' := by
  go_enter Tryd.func9, Tryd.ntmps9
  go_wp2
  go_ret
  exact ⟨rfl, (Below.refl _ _).alloc (Nat.le_refl _) _⟩
/-- What is told so, Is finds so. -/
theorem is_told {w : World} {v : Value} {f : Fl} (h : Tells w v f) (hg : Handle w) : Calls Tryd.prog 9 #[v, f.v] w fun e w' => e = .returned (.bool true) ∧ Below w.heap.size w w' := by
  obtain ⟨c, a, b⟩ := f
  rcases h with ⟨h0, h⟩ | ⟨h0, d, fs, h1, h2⟩
  · simp only at h0 h
    subst h0; subst h
    exact is_nil a b w
  · have h := help_is c a b h0 h1 hg
    rw [h2] at h
    exact h
theorem help_bare (n : Int) (w : World) : Calls Tryd.prog 10 #[.int .i64 n] w fun e w' => e = .returned (.agg #[.int .i64 n, .int .i64 0, .bool false]) ∧ Below w.heap.size w w' := by
  go_enter Tryd.func10, Tryd.ntmps10
  go_wp2
  exact bodyPost_ret (v := .agg #[.int .i64 n, .int .i64 0, .bool false]) (by simp [results, Tryd.results10, go_sem]) rfl ⟨rfl, (Below.refl _ _).alloc (Nat.le_refl _) _⟩
/-- A box of three cells, laid ahead of a call, behind it. -/
theorem boxed3 {w w1 : World} {a b c : Value} {T : TypeId} (h : Below (w.alloc (.cells #[a, b, c] T)).heap.size (w.alloc (.cells #[a, b, c] T)) w1) :
    w1.cell? ⟨w.heap.size, 0, none⟩ = some a ∧ w1.cell? ⟨w.heap.size, 1, none⟩ = some b ∧ w1.cell? ⟨w.heap.size, 2, none⟩ = some c ∧
      w1.frozen? ⟨w.heap.size, 0, none⟩ = false ∧ w1.frozen? ⟨w.heap.size, 1, none⟩ = false ∧ w1.frozen? ⟨w.heap.size, 2, none⟩ = false ∧ Below w.heap.size w w1 := by
  have hlt : w.heap.size < (w.alloc (.cells #[a, b, c] T)).heap.size := by simp
  refine ⟨?_, ?_, ?_, ?_, ?_, ?_, ((Below.refl _ w).alloc (Nat.le_refl _) _).trans (h.mono (by simp))⟩
  · rw [h.cell (p := ⟨w.heap.size, 0, none⟩) hlt]; simp
  · rw [h.cell (p := ⟨w.heap.size, 1, none⟩) hlt]; simp
  · rw [h.cell (p := ⟨w.heap.size, 2, none⟩) hlt]; simp
  · rw [h.frozen (p := ⟨w.heap.size, 0, none⟩) hlt]; simp
  · rw [h.frozen (p := ⟨w.heap.size, 1, none⟩) hlt]; simp
  · rw [h.frozen (p := ⟨w.heap.size, 2, none⟩) hlt]; simp

/-- A second box of three cells behind a first one: both, in a world that is a letter. -/
theorem boxed33 {w w1 : World} {a b c a' b' c' : Value} {T U : TypeId} (h : Below (w.alloc (.cells #[a, b, c] T)).heap.size (w.alloc (.cells #[a, b, c] T)) w1) : ∃ W, w1.alloc (.cells #[a', b', c'] U) = W ∧
    W.cell? ⟨w.heap.size, 0, none⟩ = some a ∧ W.cell? ⟨w.heap.size, 1, none⟩ = some b ∧ W.cell? ⟨w.heap.size, 2, none⟩ = some c ∧
      W.frozen? ⟨w.heap.size, 0, none⟩ = false ∧ W.frozen? ⟨w.heap.size, 1, none⟩ = false ∧ W.frozen? ⟨w.heap.size, 2, none⟩ = false ∧
    W.cell? ⟨w1.heap.size, 0, none⟩ = some a' ∧ W.cell? ⟨w1.heap.size, 1, none⟩ = some b' ∧ W.cell? ⟨w1.heap.size, 2, none⟩ = some c' ∧ w.heap.size ≠ w1.heap.size ∧ Below w.heap.size w W := by
  obtain ⟨c0, c1, c2, f0, f1, f2, hb⟩ := boxed3 h
  have hz : w.heap.size < w1.heap.size := lt_of_cell c0
  refine ⟨_, rfl, ?_, ?_, ?_, ?_, ?_, ?_, by simp, by simp, by simp, by omega, hb.alloc hb.size _⟩
  · rw [World.cell?_alloc_lt w1 _ ⟨w.heap.size, 0, none⟩ hz, c0]
  · rw [World.cell?_alloc_lt w1 _ ⟨w.heap.size, 1, none⟩ hz, c1]
  · rw [World.cell?_alloc_lt w1 _ ⟨w.heap.size, 2, none⟩ hz, c2]
  · rw [World.frozen?_alloc_old w1 _ ⟨w.heap.size, 0, none⟩ (by show w.heap.size ≠ w1.heap.size; omega), f0]
  · rw [World.frozen?_alloc_old w1 _ ⟨w.heap.size, 1, none⟩ (by show w.heap.size ≠ w1.heap.size; omega), f1]
  · rw [World.frozen?_alloc_old w1 _ ⟨w.heap.size, 2, none⟩ (by show w.heap.size ≠ w1.heap.size; omega), f2]

/-- An error as it is told, in a block of its own. -/
def Box (w : World) (g : Nat) (f : Fl) : Prop := w.heap[g]? = some (.cells #[.int .i64 f.code, .int .i64 f.at_, .bool f.placed] 30 (0, 0))
theorem Box.later {w w' : World} {B g : Nat} {f : Fl} (h : Box w g f) (hb : Below B w w') (hB : w.heap.size ≤ B) : Box w' g f := by
  have hlt : g < w.heap.size := (Array.getElem?_eq_some_iff.1 h).1
  exact (hb.block g (by omega)).trans h
theorem Box.new (w : World) (c a : Int) (b : Bool) : Box (w.alloc (.cells #[.int .i64 c, .int .i64 a, .bool b] 30)) w.heap.size ⟨c, a, b⟩ := heap_alloc_new w _
theorem Box.cells {w : World} {g : Nat} {c a : Int} {b : Bool} (h : Box w g ⟨c, a, b⟩) : w.cell? ⟨g, 0, none⟩ = some (.int .i64 c) ∧ w.cell? ⟨g, 1, none⟩ = some (.int .i64 a) ∧ w.cell? ⟨g, 2, none⟩ = some (.bool b) :=
  ⟨cell_of_row w g 0 _ _ (0, 0) h, cell_of_row w g 1 _ _ (0, 0) h, cell_of_row w g 2 _ _ (0, 0) h⟩
theorem is_told3 {w : World} {v : Value} {c a : Int} {b : Bool} (h : Tells w v ⟨c, a, b⟩) (hg : Handle w) : Calls Tryd.prog 9 #[v, .agg #[.int .i64 c, .int .i64 a, .bool b]] w fun e w' => e = .returned (.bool true) ∧ Below w.heap.size w w' := by
  have k := is_told h hg
  unfold Fl.v at k
  exact k

theorem Box.put {w : World} {g : Nat} {f : Fl} (h : Box w g f) (c a : Int) (b : Bool) : Box (((w.setCell ⟨g, 0, none⟩ (.int .i64 c)).setCell ⟨g, 1, none⟩ (.int .i64 a)).setCell ⟨g, 2, none⟩ (.bool b)) g ⟨c, a, b⟩ := by
  unfold Box at h ⊢
  simp [World.setCell, Array.getElem?_modify, h]
/-- A box laid ahead of a call, behind it. -/
theorem Box.behind {w w1 : World} {c a : Int} {b : Bool} (h : Below (w.alloc (.cells #[.int .i64 c, .int .i64 a, .bool b] 30)).heap.size (w.alloc (.cells #[.int .i64 c, .int .i64 a, .bool b] 30)) w1) : Box w1 w.heap.size ⟨c, a, b⟩ :=
  (Box.new w c a b).later h (Nat.le_refl _)
set_option maxRecDepth 100000 in
/-- Something is not nothing. -/
theorem is_some {w : World} {v : Value} {c a : Int} {b : Bool} (h : Tells w v ⟨c, a, b⟩) (hc : c ≠ 0) (w' : World) : Calls Tryd.prog 9 #[v, .agg #[.int .i64 0, .int .i64 0, .bool false]] w' fun e w'' => e = .returned (.bool false) ∧ Below w'.heap.size w' w'' := by
  rcases h with ⟨h0, _⟩ | ⟨h0, d, fs, h1, _⟩
  · exact absurd h0 hc
  · obtain ⟨T, x, rfl⟩ := h1.chain.held
    clear h1 h0 hc
    go_enter Tryd.func9, Tryd.ntmps9
    go_wp2
    go_ret
    exact ⟨rfl, (Below.refl _ _).alloc (Nat.le_refl _) _⟩
/-- Wrap, told: a place around what is told. -/
theorem wrap_told {w : World} {v : Value} {n a : Int} (at_ : Int) (h : Tells w v ⟨n, a, false⟩) (hn : n ≠ 0) : Calls Tryd.prog 14 #[.int .i64 at_, v] w fun e w' => ∃ v', e = .returned v' ∧ Tells w' v' ⟨n, at_, true⟩ ∧ Below w.heap.size w w' := by
  rcases h with ⟨h0, _⟩ | ⟨h0, d, fs, h1, h2⟩
  · exact absurd h0 hn
  · exact (wrap at_ h1).mono fun _ _ ⟨b, he, hb, hf⟩ => ⟨_, he, .inr ⟨h0, _, _, hf, by simp [isFail]⟩, hb⟩
end Go.Proofs.YtiggfoghogecjaaDoor
