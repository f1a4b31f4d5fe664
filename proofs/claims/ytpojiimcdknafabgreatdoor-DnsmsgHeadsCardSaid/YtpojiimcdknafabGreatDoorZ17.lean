/-
  stockadehelp.At and stockadehelp.Is at an error that is a chain of faults down to a number. Conditions: errors.errorType holds the handle of the type error.
  Errors as the document tells them (number, place, whether there is one): what stockadehelp.Is says of them; stockadehelp.At, Bare; fault.Wrap told so. Conditions: errors.errorType holds the handle of the type error.
  fault.Deeper on an error that is told with its place. Conditions: errors.errorType holds the handle of the type error; the place stays an int.
-/
import Derived.Test.YtpojiimcdknafabGreatDoorZ16
import Derived.Deep.QuietTactic
import Derived.BigQuiet
import Derived.WideLaws
namespace Go.Proofs.YtpojiimcdknafabGreatDoor
open Go.RowKit Go.Extern.Stop Go.Stop Go.Extern

/-- Is an error just that one? -/
def isFail (n : Int) (fs : List (Nat × Int)) (code at_ : Int) (placed : Bool) : Bool :=
  (n == code) && (match fs with | [] => !placed | p :: _ => placed && (p.2 == at_))

theorem below_drewN {B : Nat} {a w : World} (h : Below B a w) (n : Nat) : Below B a (w.drewN n) := ⟨h.os, h.tape, h.output, h.size, h.block⟩
end Go.Proofs.YtpojiimcdknafabGreatDoor

namespace Go.Proofs.YtpojiimcdknafabGreatDoor
open Go.RowKit Go.Extern.Stop Go.Stop Go.Extern

theorem Faults.wrapped {w : World} {d : Nat} {v : Value} {fs : List (Nat × Int)} {n : Int} (h : Faults w d v fs n) (at_ : Int) : Faults (w.alloc (.cells #[.int .i64 at_, v] 68)) (d + 1) (.iface 66 (.pointer (some ⟨w.heap.size, 0, none⟩))) ((w.heap.size, at_) :: fs) n :=
  .fault d w.heap.size at_ v fs n (by show (w.heap.push _)[w.heap.size]? = _; exact Array.getElem?_push_size) (by simp) (by simp) (h.later ((Below.refl w.heap.size w).alloc (Nat.le_refl _) _) (Nat.le_refl _))
theorem Chain.faults1 {w : World} {v : Value} {p : Nat × Int} {n : Int} (h : Chain w 1 (.iface 66 v) [p] (some n)) : Faults w 1 (.iface 66 v) [p] n := by
  cases h with
  | fault d b at_ v fs c hh h0 h1 h =>
    cases h with
    | errno n => exact .fault 0 b at_ _ [] n hh h0 h1 (.errno n)

/-- Wrap, told as a chain: what it hands back, in what world. -/
theorem wrap {d : Nat} {v : Value} {fs : List (Nat × Int)} {n : Int} {w : World} (at_ : Int) (h : Faults w d v fs n) : Calls Tryz.prog 9 #[.int .i64 at_, v] w fun e w' =>
    ∃ b, e = .returned (.iface 66 (.pointer (some ⟨b, 0, none⟩))) ∧ Below w.heap.size w w' ∧ Faults w' (d + 1) (.iface 66 (.pointer (some ⟨b, 0, none⟩))) ((b, at_) :: fs) n := by
  obtain ⟨T, x, rfl⟩ := h.chain.held
  refine (wrap_some at_ T x w).mono ?_
  rintro e w' ⟨rfl, rfl⟩
  exact ⟨_, rfl, (Below.refl _ _).alloc (Nat.le_refl _) _, h.wrapped at_⟩

/-- How an error is told. -/
structure Fl where
  code : Int
  at_ : Int
  placed : Bool
def Fl.v (f : Fl) : Value := .agg #[.int .i64 f.code, .int .i64 f.at_, .bool f.placed]
def Fl.none_ : Fl := ⟨0, 0, false⟩
/-- An error in memory that is told so. -/
def Tells (w : World) (v : Value) (f : Fl) : Prop :=
  (f.code = 0 ∧ v = .nilIface) ∨ (f.code ≠ 0 ∧ ∃ d fs, Faults w d v fs f.code ∧ isFail f.code fs f.code f.at_ f.placed = true)
theorem Tells.later {w w' : World} {B : Nat} {v : Value} {f : Fl} (h : Tells w v f) (hb : Below B w w') (hB : w.heap.size ≤ B) : Tells w' v f := by
  rcases h with h | ⟨h0, d, fs, h1, h2⟩
  · exact .inl h
  · exact .inr ⟨h0, d, fs, h1.later hb hB, h2⟩
theorem Tells.bare (w : World) (n : Int) (hn : n ≠ 0) (a : Int) : Tells w (.iface 36 (.int .i64 n)) ⟨n, a, false⟩ := .inr ⟨hn, 0, [], .errno n, by simp [isFail]⟩
theorem Tells.nil (w : World) (a : Int) (b : Bool) : Tells w .nilIface ⟨0, a, b⟩ := .inl ⟨rfl, rfl⟩

/-- A box of three cells, laid ahead of a call, behind it. -/
theorem boxed3 {w w1 : World} {a b c : Value} {T : TypeId} (h : Below (w.alloc (.cells #[a, b, c] T)).heap.size (w.alloc (.cells #[a, b, c] T)) w1) :
    w1.cell? ⟨w.heap.size, 0, none⟩ = some a ∧ w1.cell? ⟨w.heap.size, 1, none⟩ = some b ∧ w1.cell? ⟨w.heap.size, 2, none⟩ = some c ∧
      w1.frozen? ⟨w.heap.size, 0, none⟩ = false ∧ w1.frozen? ⟨w.heap.size, 1, none⟩ = false ∧ w1.frozen? ⟨w.heap.size, 2, none⟩ = false ∧ Below w.heap.size w w1 := by
  have hlt : w.heap.size < (w.alloc (.cells #[a, b, c] T)).heap.size := by simp
  refine ⟨?_, ?_, ?_, ?_, ?_, ?_, ((Below.refl _ w).alloc (Nat.le_refl _) _).trans (h.mono (by simp))⟩
  · rw [h.cell (p := ⟨w.heap.size, 0, none⟩) hlt]; simp
  · rw [h.cell (p := ⟨w.heap.size, 1, none⟩) hlt]; simp
  · rw [h.cell (p := ⟨w.heap.size, 2, none⟩) hlt]; simp
  · rw [h.frozen (p := ⟨w.heap.size, 0, none⟩) hlt]; simp
  · rw [h.frozen (p := ⟨w.heap.size, 1, none⟩) hlt]; simp
  · rw [h.frozen (p := ⟨w.heap.size, 2, none⟩) hlt]; simp

/-- A second box of three cells behind a first one: both, in a world that is a letter. -/
theorem boxed33 {w w1 : World} {a b c a' b' c' : Value} {T U : TypeId} (h : Below (w.alloc (.cells #[a, b, c] T)).heap.size (w.alloc (.cells #[a, b, c] T)) w1) : ∃ W, w1.alloc (.cells #[a', b', c'] U) = W ∧
    W.cell? ⟨w.heap.size, 0, none⟩ = some a ∧ W.cell? ⟨w.heap.size, 1, none⟩ = some b ∧ W.cell? ⟨w.heap.size, 2, none⟩ = some c ∧
      W.frozen? ⟨w.heap.size, 0, none⟩ = false ∧ W.frozen? ⟨w.heap.size, 1, none⟩ = false ∧ W.frozen? ⟨w.heap.size, 2, none⟩ = false ∧
    W.cell? ⟨w1.heap.size, 0, none⟩ = some a' ∧ W.cell? ⟨w1.heap.size, 1, none⟩ = some b' ∧ W.cell? ⟨w1.heap.size, 2, none⟩ = some c' ∧ w.heap.size ≠ w1.heap.size ∧ Below w.heap.size w W := by
  obtain ⟨c0, c1, c2, f0, f1, f2, hb⟩ := boxed3 h
  have hz : w.heap.size < w1.heap.size := lt_of_cell c0
  refine ⟨_, rfl, ?_, ?_, ?_, ?_, ?_, ?_, by simp, by simp, by simp, by omega, hb.alloc hb.size _⟩
  · rw [World.cell?_alloc_lt w1 _ ⟨w.heap.size, 0, none⟩ hz, c0]
  · rw [World.cell?_alloc_lt w1 _ ⟨w.heap.size, 1, none⟩ hz, c1]
  · rw [World.cell?_alloc_lt w1 _ ⟨w.heap.size, 2, none⟩ hz, c2]
  · rw [World.frozen?_alloc_old w1 _ ⟨w.heap.size, 0, none⟩ (by show w.heap.size ≠ w1.heap.size; omega), f0]
  · rw [World.frozen?_alloc_old w1 _ ⟨w.heap.size, 1, none⟩ (by show w.heap.size ≠ w1.heap.size; omega), f1]
  · rw [World.frozen?_alloc_old w1 _ ⟨w.heap.size, 2, none⟩ (by show w.heap.size ≠ w1.heap.size; omega), f2]

/-- Wrap, told: a place around what is told. -/
theorem wrap_told {w : World} {v : Value} {n a : Int} (at_ : Int) (h : Tells w v ⟨n, a, false⟩) (hn : n ≠ 0) : Calls Tryz.prog 9 #[.int .i64 at_, v] w fun e w' => ∃ v', e = .returned v' ∧ Tells w' v' ⟨n, at_, true⟩ ∧ Below w.heap.size w w' := by
  rcases h with ⟨h0, _⟩ | ⟨h0, d, fs, h1, h2⟩
  · exact absurd h0 hn
  · exact (wrap at_ h1).mono fun _ _ ⟨b, he, hb, hf⟩ => ⟨_, he, .inr ⟨h0, _, _, hf, by simp [isFail]⟩, hb⟩
end Go.Proofs.YtpojiimcdknafabGreatDoor

namespace Go.Proofs.YtpojiimcdknafabGreatDoor
open Go.RowKit Go.Extern.Stop Go.Stop Go.Extern

theorem deeper_told {w : World} {v : Value} {f : Fl} (h : Tells w v f) (hf : f.code ≠ 0) (hp : f.placed = true) (by_ : Int) (h1 : -9223372036854775808 ≤ by_ + f.at_) (h2 : by_ + f.at_ ≤ 9223372036854775807) (hg : Handle w) :
    Calls Tryz.prog 58 #[.int .i64 by_, v] w fun e w' => ∃ v', e = .returned v' ∧ Tells w' v' ⟨f.code, by_ + f.at_, true⟩ ∧ Below w.heap.size w w' := by
  obtain ⟨c, at_, p⟩ := f
  dsimp only at hf hp h1 h2 ⊢
  subst hp
  rcases h with ⟨h0, _⟩ | ⟨_, d, fs, k1, k2⟩
  · exact absurd h0 hf
  · have hpl : (placeOf fs).1 = at_ := by
      cases fs with
      | nil => simp [isFail] at k2
      | cons q r =>
        simp [isFail] at k2
        exact k2
    refine (deeper by_ k1.chain hg).mono ?_
    rintro e w' ⟨b, rfl, hb, hc⟩
    rw [hpl, show wrap64 (by_ + at_) = by_ + at_ by unfold wrap64; omega] at hc
    exact ⟨_, rfl, .inr ⟨hf, 1, _, hc.faults1, by simp [isFail]⟩, hb⟩
end Go.Proofs.YtpojiimcdknafabGreatDoor
