/-
  
-/
import Derived.Test.YtoagfmonfgagbaaGreatDoorZ07
import Derived.Deep.QuietTactic
import Derived.BigQuiet
import Derived.WideLaws
namespace Go.Proofs.YtoagfmonfgagbaaGreatDoor
open Go.RowKit Go.Extern.Stop Go.Stop Go.Extern
def isFail (n : Int) (fs : List (Nat × Int)) (code at_ : Int) (placed : Bool) : Bool :=
  (n == code) && (match fs with | [] => !placed | p :: _ => placed && (p.2 == at_))
end Go.Proofs.YtoagfmonfgagbaaGreatDoor

namespace Go.Proofs.YtoagfmonfgagbaaGreatDoor
open Go.RowKit Go.Extern.Stop Go.Stop Go.Extern
theorem Faults.wrapped {w : World} {d : Nat} {v : Value} {fs : List (Nat × Int)} {n : Int} (h : Faults w d v fs n) (at_ : Int) : Faults (w.alloc (.cells #[.int .i64 at_, v] 90)) (d + 1) (.iface 84 (.pointer (some ⟨w.heap.size, 0, none⟩))) ((w.heap.size, at_) :: fs) n :=
  .fault d w.heap.size at_ v fs n (by show (w.heap.push _)[w.heap.size]? = _; exact Array.getElem?_push_size) (by simp) (by simp) (h.later ((Below.refl w.heap.size w).alloc (Nat.le_refl _) _) (Nat.le_refl _))
theorem wrap {d : Nat} {v : Value} {fs : List (Nat × Int)} {n : Int} {w : World} (at_ : Int) (h : Faults w d v fs n) : Calls Tryz.prog 43 #[.int .i64 at_, v] w fun e w' =>
    ∃ b, e = .returned (.iface 84 (.pointer (some ⟨b, 0, none⟩))) ∧ Below w.heap.size w w' ∧ Faults w' (d + 1) (.iface 84 (.pointer (some ⟨b, 0, none⟩))) ((b, at_) :: fs) n := by
  obtain ⟨T, x, rfl⟩ := h.chain.held
  refine (wrap_some at_ T x w).mono ?_
  rintro e w' ⟨rfl, rfl⟩
  exact ⟨_, rfl, (Below.refl _ _).alloc (Nat.le_refl _) _, h.wrapped at_⟩
structure Fl where
  code : Int
  at_ : Int
  placed : Bool
def Fl.v (f : Fl) : Value := .agg #[.int .i64 f.code, .int .i64 f.at_, .bool f.placed]
def Fl.none_ : Fl := ⟨0, 0, false⟩
def Tells (w : World) (v : Value) (f : Fl) : Prop :=
  (f.code = 0 ∧ v = .nilIface) ∨ (f.code ≠ 0 ∧ ∃ d fs, Faults w d v fs f.code ∧ isFail f.code fs f.code f.at_ f.placed = true)
theorem Tells.later {w w' : World} {B : Nat} {v : Value} {f : Fl} (h : Tells w v f) (hb : Below B w w') (hB : w.heap.size ≤ B) : Tells w' v f := by
  rcases h with h | ⟨h0, d, fs, h1, h2⟩
  · exact .inl h
  · exact .inr ⟨h0, d, fs, h1.later hb hB, h2⟩
theorem Tells.nil (w : World) (a : Int) (b : Bool) : Tells w .nilIface ⟨0, a, b⟩ := .inl ⟨rfl, rfl⟩
def Box (w : World) (g : Nat) (f : Fl) : Prop := w.heap[g]? = some (.cells #[.int .i64 f.code, .int .i64 f.at_, .bool f.placed] 43 (0, 0))
theorem Box.later {w w' : World} {B g : Nat} {f : Fl} (h : Box w g f) (hb : Below B w w') (hB : w.heap.size ≤ B) : Box w' g f := by
  have hlt : g < w.heap.size := (Array.getElem?_eq_some_iff.1 h).1
  exact (hb.block g (by omega)).trans h
theorem Box.new (w : World) (c a : Int) (b : Bool) : Box (w.alloc (.cells #[.int .i64 c, .int .i64 a, .bool b] 43)) w.heap.size ⟨c, a, b⟩ := heap_alloc_new w _
theorem Box.cells {w : World} {g : Nat} {c a : Int} {b : Bool} (h : Box w g ⟨c, a, b⟩) : w.cell? ⟨g, 0, none⟩ = some (.int .i64 c) ∧ w.cell? ⟨g, 1, none⟩ = some (.int .i64 a) ∧ w.cell? ⟨g, 2, none⟩ = some (.bool b) :=
  ⟨cell_of_row w g 0 _ _ (0, 0) h, cell_of_row w g 1 _ _ (0, 0) h, cell_of_row w g 2 _ _ (0, 0) h⟩
theorem Box.put {w : World} {g : Nat} {f : Fl} (h : Box w g f) (c a : Int) (b : Bool) : Box (((w.setCell ⟨g, 0, none⟩ (.int .i64 c)).setCell ⟨g, 1, none⟩ (.int .i64 a)).setCell ⟨g, 2, none⟩ (.bool b)) g ⟨c, a, b⟩ := by
  unfold Box at h ⊢
  simp [World.setCell, Array.getElem?_modify, h]
end Go.Proofs.YtoagfmonfgagbaaGreatDoor
