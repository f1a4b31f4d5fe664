/-
  stockadehelp.At and stockadehelp.Is at an error that is a chain of faults down to a number. Conditions: errors.errorType holds the handle of the type error.
  Errors as the document tells them (number, place, whether there is one): what stockadehelp.Is says of them; stockadehelp.At, Bare; fault.Wrap told so. Conditions: errors.errorType holds the handle of the type error.
-/
import Derived.Test.YtoagfmonfgagbaaGreatDoorZ08
import Derived.Deep.QuietTactic
import Derived.BigQuiet
import Derived.WideLaws
namespace Go.Proofs.YtoagfmonfgagbaaGreatDoor
open Go.RowKit Go.Extern.Stop Go.Stop Go.Extern

theorem help_at (n at_ : Int) (w : World) : Calls Tryz.prog 16 #[.int .i64 n, .int .i64 at_] w fun e w' => e = .returned (.agg #[.int .i64 n, .int .i64 at_, .bool true]) ∧ Below w.heap.size w w' := by
  go_enter Tryz.func16, Tryz.ntmps16
  go_wp2
  exact bodyPost_ret (v := .agg #[.int .i64 n, .int .i64 at_, .bool true]) (by simp [results, Tryz.results16, go_sem]) rfl ⟨rfl, (Below.refl _ _).alloc (Nat.le_refl _) _⟩
/-- Is an error just that one? -/
def isFail (n : Int) (fs : List (Nat × Int)) (code at_ : Int) (placed : Bool) : Bool :=
  (n == code) && (match fs with | [] => !placed | p :: _ => placed && (p.2 == at_))

/-- The memory of stockadehelp.Is ahead of its calls. -/
def isWorld (w : World) (code at_ : Int) (placed : Bool) : World := ((w.alloc (.cells #[.int .i64 code, .int .i64 at_, .bool placed] 43)).alloc (.cells #[.int .i64 0] 37)).alloc (.cells #[.pointer none] 84)

theorem isWorld_size (w : World) (code at_ : Int) (placed : Bool) : (isWorld w code at_ placed).heap.size = w.heap.size + 1 + 1 + 1 := by simp [isWorld]
theorem isWorld_fail (w : World) (code at_ : Int) (placed : Bool) (i : Nat) : (isWorld w code at_ placed).cell? ⟨w.heap.size, i, none⟩ = #[Value.int .i64 code, .int .i64 at_, .bool placed][i]? := by
  unfold isWorld
  rw [World.cell?_alloc_past _ _ _ (by simp; omega), World.cell?_alloc_past _ _ _ (by simp), World.cell?_alloc_at _ _ _ _ rfl]
theorem isWorld_code (w : World) (code at_ : Int) (placed : Bool) : (isWorld w code at_ placed).cell? ⟨w.heap.size + 1, 0, none⟩ = some (.int .i64 0) := by
  unfold isWorld
  rw [World.cell?_alloc_past _ _ _ (by simp), World.cell?_alloc_at _ _ _ _ (by simp)]
  rfl
theorem isWorld_fault (w : World) (code at_ : Int) (placed : Bool) : (isWorld w code at_ placed).cell? ⟨w.heap.size + 1 + 1, 0, none⟩ = some (.pointer none) := by
  unfold isWorld
  rw [World.cell?_alloc_at _ _ _ _ (by simp)]
  rfl
theorem isWorld_free (w : World) (code at_ : Int) (placed : Bool) (k : Nat) (hk : k < 3) : (isWorld w code at_ placed).frozen? ⟨w.heap.size + k, 0, none⟩ = false := by
  unfold isWorld
  rcases k with _ | _ | _ | k
  · rw [World.frozen?_alloc_old _ _ _ (by simp; omega), World.frozen?_alloc_old _ _ _ (by simp)]; simp
  · rw [World.frozen?_alloc_old _ _ _ (by simp)]; simp
  · exact World.frozen?_alloc_at _ _ _ _ (by simp)
  · omega
theorem below_drewN {B : Nat} {a w : World} (h : Below B a w) (n : Nat) : Below B a (w.drewN n) := ⟨h.os, h.tape, h.output, h.size, h.block⟩
set_option maxRecDepth 100000 in
set_option maxHeartbeats 1000000 in
theorem help_is {d : Nat} {v : Value} {fs : List (Nat × Int)} {n : Int} {w : World} (code at_ : Int) (placed : Bool) (hz : code ≠ 0) (hc : Faults w d v fs n) (hg : Handle w) :
    Calls Tryz.prog 15 #[v, .agg #[.int .i64 code, .int .i64 at_, .bool placed]] w fun e w' => e = .returned (.bool (isFail n fs code at_ placed)) ∧ Below w.heap.size w w' := by
  have hz0 : (code == 0) = false := by simp [hz]
  have hb : Below w.heap.size w (isWorld w code at_ placed) := (((Below.refl _ _).alloc (Nat.le_refl _) _).alloc (by simp) _).alloc (by simp; omega) _
  have k1 := (As_E (hc.later hb (Nat.le_refl _)).chain (hg.later hb (Nat.le_refl _)) (t := ⟨w.heap.size + 1, 0, none⟩) (old := .int .i64 0) (isWorld_code _ _ _ _) (isWorld_free _ _ _ _ 1 (by omega))).mono (R' := fun e w' => e = .returned (.bool true) ∧ Below w.heap.size w w' ∧
      w'.cell? ⟨w.heap.size, 0, none⟩ = some (.int .i64 code) ∧ w'.cell? ⟨w.heap.size, 1, none⟩ = some (.int .i64 at_) ∧ w'.cell? ⟨w.heap.size, 2, none⟩ = some (.bool placed) ∧ w'.cell? ⟨w.heap.size + 1, 0, none⟩ = some (.int .i64 n) ∧ w'.cell? ⟨w.heap.size + 1 + 1, 0, none⟩ = some (.pointer none) ∧ w'.frozen? ⟨w.heap.size + 1 + 1, 0, none⟩ = false) (by
    rintro e w' ⟨he, w1, h1, rfl⟩
    have hs := isWorld_size w code at_ placed
    have cf : ∀ b o, b < w.heap.size + 3 → b ≠ w.heap.size + 1 → (w1.setCell ⟨w.heap.size + 1, 0, none⟩ (.int .i64 n)).cell? ⟨b, o, none⟩ = (isWorld w code at_ placed).cell? ⟨b, o, none⟩ := fun b o hlt hne => by
      rw [cell_far _ _ _ _ (fun e => hne e.symm)]
      exact h1.cell (p := ⟨b, o, none⟩) (by rw [hs]; exact hlt)
    refine ⟨he, (hb.trans (h1.mono hb.size)).setCell (p := ⟨w.heap.size + 1, 0, none⟩) (by simp) _, ?_, ?_, ?_, ?_, ?_, ?_⟩
    · rw [cf _ _ (by omega) (by omega), isWorld_fail]; rfl
    · rw [cf _ _ (by omega) (by omega), isWorld_fail]; rfl
    · rw [cf _ _ (by omega) (by omega), isWorld_fail]; rfl
    · exact World.cell?_setCell_same' _ _ _ (by rw [h1.cell (p := ⟨w.heap.size + 1, 0, none⟩) (by rw [hs]; simp), isWorld_code]; rfl)
    · rw [cf _ _ (by omega) (by omega)]; exact isWorld_fault _ _ _ _
    · rw [World.frozen?_setCell, h1.frozen (p := ⟨w.heap.size + 1 + 1, 0, none⟩) (by rw [hs]; simp)]; exact isWorld_free _ _ _ _ 2 (by omega))
  unfold isWorld at k1
  have K1 := Lib.hid k1
  have HC := Lib.hid hc
  have HG := Lib.hid hg
  clear k1 hb hc hg hz
  by_cases hn : n = code
  · subst hn
    have hne : (n != n) = false := by simp
    have HK2 : ∀ w1 : World, Below w.heap.size w w1 → Hid (Calls Tryz.prog 36 #[v, .iface 37 (.int .i64 n)] w1 fun e w' => e = .returned (.bool true) ∧ w1 = w') := fun w1 hb => by
      have h := Is_any (x := n) (HC.out.later hb (Nat.le_refl _))
      rw [show (n == n) = true by simp] at h
      exact h
    have HK3 : ∀ w1 : World, Below w.heap.size w w1 → w1.cell? ⟨w.heap.size + 1 + 1, 0, none⟩ = some (.pointer none) → w1.frozen? ⟨w.heap.size + 1 + 1, 0, none⟩ = false → Hid (Calls Tryz.prog 35 #[v, .iface 88 (.pointer (some ⟨w.heap.size + 1 + 1, 0, none⟩))] w1 (AsPost (fs.head?.map (fun p => .pointer (some ⟨p.1, 0, none⟩))) ⟨w.heap.size + 1 + 1, 0, none⟩ w1)) := fun w1 hb ht hf =>
      As_F (HC.out.later hb (Nat.le_refl _)).chain (HG.out.later hb (Nat.le_refl _)) ht hf
    have HKK := Lib.hid (And.intro HK2 HK3)
    clear HK2 HK3
    cases fs with
    | nil =>
      have ha : isFail n [] n at_ placed = !placed := by simp [isFail]
      rw [ha]
      clear ha
      go_enter Tryz.func15, Tryz.ntmps15
      go_wp2_with (go_at_call 35; refine K1.out.mono ?_; rintro e w1 ⟨rfl, h1, c0, c1, c2, c3, c4, f4⟩)
      refine (HKK.out.1 w1 h1).out.mono ?_
      rintro e w2 ⟨rfl, rfl⟩
      have k3 : Calls Tryz.prog 35 #[v, .iface 88 (.pointer (some ⟨w.heap.size + 1 + 1, 0, none⟩))] w1 (fun e w' => e = .returned (.bool false) ∧ Below w.heap.size w w' ∧ w'.cell? ⟨w.heap.size, 2, none⟩ = some (.bool placed)) := (HKK.out.2 w1 h1 c4 f4).out.mono (by
        rintro e w' ⟨he, hb⟩
        have hb : Below w1.heap.size w1 w' := hb
        exact ⟨he, h1.trans (hb.mono h1.size), (hb.cell (p := ⟨w.heap.size, 2, none⟩) (lt_of_cell c2)).trans c2⟩)
      have K3 := Lib.hid k3
      have H1 := Lib.hid (And.intro h1 (And.intro c0 (And.intro c1 (And.intro c2 (And.intro c3 (And.intro c4 f4))))))
      clear k3 h1 c0 c1 c2 c3 c4 f4
      go_wp2_with fail
      refine K3.out.mono ?_
      rintro e w2 ⟨rfl, h2, g2⟩
      go_wp2_with fail
      go_ret
      exact ⟨rfl, h2⟩
    | cons p fs =>
      have ha : isFail n (p :: fs) n at_ placed = (placed && (p.2 == at_)) := by simp [isFail]
      rw [ha]
      clear ha
      obtain ⟨_, _, _, hp0, _, _⟩ := HC.out.chain.next
      have HP0 := Lib.hid hp0
      clear hp0
      cases placed with
      | false =>
        rw [Bool.false_and]
        go_enter Tryz.func15, Tryz.ntmps15
        go_wp2_with (go_at_call 35; refine K1.out.mono ?_; rintro e w1 ⟨rfl, h1, c0, c1, c2, c3, c4, f4⟩)
        refine (HKK.out.1 w1 h1).out.mono ?_
        rintro e w2 ⟨rfl, rfl⟩
        have k3 : Calls Tryz.prog 35 #[v, .iface 88 (.pointer (some ⟨w.heap.size + 1 + 1, 0, none⟩))] w1 (fun e w' => e = .returned (.bool true) ∧ Below w.heap.size w w' ∧ w'.cell? ⟨w.heap.size, 2, none⟩ = some (.bool false)) := (HKK.out.2 w1 h1 c4 f4).out.mono (by
          rintro e w' ⟨he, w3, hb, rfl⟩
          refine ⟨he, (h1.trans (hb.mono h1.size)).setCell (p := ⟨w.heap.size + 1 + 1, 0, none⟩) (by simp; omega) _, ?_⟩
          rw [cell_far _ _ _ _ (by simp; omega)]
          exact (hb.cell (p := ⟨w.heap.size, 2, none⟩) (lt_of_cell c2)).trans c2)
        have K3 := Lib.hid k3
        have H1 := Lib.hid (And.intro h1 (And.intro c0 (And.intro c1 (And.intro c2 (And.intro c3 (And.intro c4 f4))))))
        clear k3 h1 c0 c1 c2 c3 c4 f4
        go_wp2_with fail
        refine K3.out.mono ?_
        rintro e w2 ⟨rfl, h2, g2⟩
        go_wp2_with fail
        go_quiet (fail)
        go_wp2_with fail
        go_ret
        exact ⟨rfl, below_drewN h2 _⟩
      | true =>
        rw [Bool.true_and]
        have hpw : p.1 < w.heap.size := lt_of_cell HP0.out
        go_enter Tryz.func15, Tryz.ntmps15
        go_wp2_with (go_at_call 35; refine K1.out.mono ?_; rintro e w1 ⟨rfl, h1, c0, c1, c2, c3, c4, f4⟩)
        refine (HKK.out.1 w1 h1).out.mono ?_
        rintro e w2 ⟨rfl, rfl⟩
        have k3 : Calls Tryz.prog 35 #[v, .iface 88 (.pointer (some ⟨w.heap.size + 1 + 1, 0, none⟩))] w1 (fun e w' => e = .returned (.bool true) ∧ Below w.heap.size w w' ∧ w'.cell? ⟨w.heap.size, 2, none⟩ = some (.bool true) ∧ w'.cell? ⟨w.heap.size, 1, none⟩ = some (.int .i64 at_) ∧ w'.cell? ⟨w.heap.size + 1 + 1, 0, none⟩ = some (.pointer (some ⟨p.1, 0, none⟩)) ∧ w'.cell? ⟨p.1, 0, none⟩ = some (.int .i64 p.2)) := (HKK.out.2 w1 h1 c4 f4).out.mono (by
          rintro e w' ⟨he, w3, hb, rfl⟩
          refine ⟨he, (h1.trans (hb.mono h1.size)).setCell (p := ⟨w.heap.size + 1 + 1, 0, none⟩) (by simp; omega) _, ?_, ?_, ?_, ?_⟩
          · rw [cell_far _ _ _ _ (by simp; omega)]
            exact (hb.cell (p := ⟨w.heap.size, 2, none⟩) (lt_of_cell c2)).trans c2
          · rw [cell_far _ _ _ _ (by simp; omega)]
            exact (hb.cell (p := ⟨w.heap.size, 1, none⟩) (lt_of_cell c1)).trans c1
          · exact World.cell?_setCell_same' _ _ _ (by rw [hb.cell (p := ⟨w.heap.size + 1 + 1, 0, none⟩) (lt_of_cell c4), c4]; rfl)
          · rw [cell_far _ _ _ _ (by simp; omega), hb.cell (p := ⟨p.1, 0, none⟩) (by have := h1.size; simp; omega), h1.cell (p := ⟨p.1, 0, none⟩) (by simp; omega)]
            exact HP0.out)
        have K3 := Lib.hid k3
        have H1 := Lib.hid (And.intro h1 (And.intro c0 (And.intro c1 (And.intro c2 (And.intro c3 (And.intro c4 f4))))))
        clear k3 h1 c0 c1 c2 c3 c4 f4 hpw
        go_wp2_with fail
        refine K3.out.mono ?_
        rintro e w2 ⟨rfl, h2, g2, g1, g4, g5⟩
        go_wp2_with fail
        go_quiet (fail)
        go_wp2_with fail
        go_ret
        exact ⟨rfl, below_drewN h2 _⟩
  · have hnc : (n == code) = false := by simp [hn]
    have hne : (n != code) = true := by simp [bne, hnc]
    have ha : isFail n fs code at_ placed = false := by simp [isFail, hnc]
    rw [ha]
    clear hn ha
    go_enter Tryz.func15, Tryz.ntmps15
    go_wp2_with (go_at_call 35; refine K1.out.mono ?_; rintro e w1 ⟨rfl, h1, c0, c1, c2, c3, c4, f4⟩)
    go_ret
    exact ⟨rfl, h1⟩
end Go.Proofs.YtoagfmonfgagbaaGreatDoor

namespace Go.Proofs.YtoagfmonfgagbaaGreatDoor
open Go.RowKit Go.Extern.Stop Go.Stop Go.Extern

theorem Faults.wrapped {w : World} {d : Nat} {v : Value} {fs : List (Nat × Int)} {n : Int} (h : Faults w d v fs n) (at_ : Int) : Faults (w.alloc (.cells #[.int .i64 at_, v] 90)) (d + 1) (.iface 84 (.pointer (some ⟨w.heap.size, 0, none⟩))) ((w.heap.size, at_) :: fs) n :=
  .fault d w.heap.size at_ v fs n (by show (w.heap.push _)[w.heap.size]? = _; exact Array.getElem?_push_size) (by simp) (by simp) (h.later ((Below.refl w.heap.size w).alloc (Nat.le_refl _) _) (Nat.le_refl _))
theorem Chain.faults1 {w : World} {v : Value} {p : Nat × Int} {n : Int} (h : Chain w 1 (.iface 84 v) [p] (some n)) : Faults w 1 (.iface 84 v) [p] n := by
  cases h with
  | fault d b at_ v fs c hh h0 h1 h =>
    cases h with
    | errno n => exact .fault 0 b at_ _ [] n hh h0 h1 (.errno n)

/-- Wrap, told as a chain: what it hands back, in what world. -/
theorem wrap {d : Nat} {v : Value} {fs : List (Nat × Int)} {n : Int} {w : World} (at_ : Int) (h : Faults w d v fs n) : Calls Tryz.prog 43 #[.int .i64 at_, v] w fun e w' =>
    ∃ b, e = .returned (.iface 84 (.pointer (some ⟨b, 0, none⟩))) ∧ Below w.heap.size w w' ∧ Faults w' (d + 1) (.iface 84 (.pointer (some ⟨b, 0, none⟩))) ((b, at_) :: fs) n := by
  obtain ⟨T, x, rfl⟩ := h.chain.held
  refine (wrap_some at_ T x w).mono ?_
  rintro e w' ⟨rfl, rfl⟩
  exact ⟨_, rfl, (Below.refl _ _).alloc (Nat.le_refl _) _, h.wrapped at_⟩

/-- How an error is told. -/
structure Fl where
  code : Int
  at_ : Int
  placed : Bool
def Fl.v (f : Fl) : Value := .agg #[.int .i64 f.code, .int .i64 f.at_, .bool f.placed]
def Fl.none_ : Fl := ⟨0, 0, false⟩
/-- An error in memory that is told so. -/
def Tells (w : World) (v : Value) (f : Fl) : Prop :=
  (f.code = 0 ∧ v = .nilIface) ∨ (f.code ≠ 0 ∧ ∃ d fs, Faults w d v fs f.code ∧ isFail f.code fs f.code f.at_ f.placed = true)
theorem Tells.later {w w' : World} {B : Nat} {v : Value} {f : Fl} (h : Tells w v f) (hb : Below B w w') (hB : w.heap.size ≤ B) : Tells w' v f := by
  rcases h with h | ⟨h0, d, fs, h1, h2⟩
  · exact .inl h
  · exact .inr ⟨h0, d, fs, h1.later hb hB, h2⟩
theorem Tells.bare (w : World) (n : Int) (hn : n ≠ 0) (a : Int) : Tells w (.iface 37 (.int .i64 n)) ⟨n, a, false⟩ := .inr ⟨hn, 0, [], .errno n, by simp [isFail]⟩
theorem Tells.nil (w : World) (a : Int) (b : Bool) : Tells w .nilIface ⟨0, a, b⟩ := .inl ⟨rfl, rfl⟩

set_option maxRecDepth 100000 in
theorem is_nil (a : Int) (b : Bool) (w : World) : Calls Tryz.prog 15 #[.nilIface, .agg #[.int .i64 0, .int .i64 a, .bool b]] w fun e w' => e = .returned (.bool true) ∧ Below w.heap.size w w' := by
  go_enter Tryz.func15, Tryz.ntmps15
  go_wp2
  go_ret
  exact ⟨rfl, (Below.refl _ _).alloc (Nat.le_refl _) _⟩
/-- What is told so, Is finds so. -/
theorem is_told {w : World} {v : Value} {f : Fl} (h : Tells w v f) (hg : Handle w) : Calls Tryz.prog 15 #[v, f.v] w fun e w' => e = .returned (.bool true) ∧ Below w.heap.size w w' := by
  obtain ⟨c, a, b⟩ := f
  rcases h with ⟨h0, h⟩ | ⟨h0, d, fs, h1, h2⟩
  · simp only at h0 h
    subst h0; subst h
    exact is_nil a b w
  · have h := help_is c a b h0 h1 hg
    rw [h2] at h
    exact h
/-- A box of three cells, laid ahead of a call, behind it. -/
theorem boxed3 {w w1 : World} {a b c : Value} {T : TypeId} (h : Below (w.alloc (.cells #[a, b, c] T)).heap.size (w.alloc (.cells #[a, b, c] T)) w1) :
    w1.cell? ⟨w.heap.size, 0, none⟩ = some a ∧ w1.cell? ⟨w.heap.size, 1, none⟩ = some b ∧ w1.cell? ⟨w.heap.size, 2, none⟩ = some c ∧
      w1.frozen? ⟨w.heap.size, 0, none⟩ = false ∧ w1.frozen? ⟨w.heap.size, 1, none⟩ = false ∧ w1.frozen? ⟨w.heap.size, 2, none⟩ = false ∧ Below w.heap.size w w1 := by
  have hlt : w.heap.size < (w.alloc (.cells #[a, b, c] T)).heap.size := by simp
  refine ⟨?_, ?_, ?_, ?_, ?_, ?_, ((Below.refl _ w).alloc (Nat.le_refl _) _).trans (h.mono (by simp))⟩
  · rw [h.cell (p := ⟨w.heap.size, 0, none⟩) hlt]; simp
  · rw [h.cell (p := ⟨w.heap.size, 1, none⟩) hlt]; simp
  · rw [h.cell (p := ⟨w.heap.size, 2, none⟩) hlt]; simp
  · rw [h.frozen (p := ⟨w.heap.size, 0, none⟩) hlt]; simp
  · rw [h.frozen (p := ⟨w.heap.size, 1, none⟩) hlt]; simp
  · rw [h.frozen (p := ⟨w.heap.size, 2, none⟩) hlt]; simp

/-- A second box of three cells behind a first one: both, in a world that is a letter. -/
theorem boxed33 {w w1 : World} {a b c a' b' c' : Value} {T U : TypeId} (h : Below (w.alloc (.cells #[a, b, c] T)).heap.size (w.alloc (.cells #[a, b, c] T)) w1) : ∃ W, w1.alloc (.cells #[a', b', c'] U) = W ∧
    W.cell? ⟨w.heap.size, 0, none⟩ = some a ∧ W.cell? ⟨w.heap.size, 1, none⟩ = some b ∧ W.cell? ⟨w.heap.size, 2, none⟩ = some c ∧
      W.frozen? ⟨w.heap.size, 0, none⟩ = false ∧ W.frozen? ⟨w.heap.size, 1, none⟩ = false ∧ W.frozen? ⟨w.heap.size, 2, none⟩ = false ∧
    W.cell? ⟨w1.heap.size, 0, none⟩ = some a' ∧ W.cell? ⟨w1.heap.size, 1, none⟩ = some b' ∧ W.cell? ⟨w1.heap.size, 2, none⟩ = some c' ∧ w.heap.size ≠ w1.heap.size ∧ Below w.heap.size w W := by
  obtain ⟨c0, c1, c2, f0, f1, f2, hb⟩ := boxed3 h
  have hz : w.heap.size < w1.heap.size := lt_of_cell c0
  refine ⟨_, rfl, ?_, ?_, ?_, ?_, ?_, ?_, by simp, by simp, by simp, by omega, hb.alloc hb.size _⟩
  · rw [World.cell?_alloc_lt w1 _ ⟨w.heap.size, 0, none⟩ hz, c0]
  · rw [World.cell?_alloc_lt w1 _ ⟨w.heap.size, 1, none⟩ hz, c1]
  · rw [World.cell?_alloc_lt w1 _ ⟨w.heap.size, 2, none⟩ hz, c2]
  · rw [World.frozen?_alloc_old w1 _ ⟨w.heap.size, 0, none⟩ (by show w.heap.size ≠ w1.heap.size; omega), f0]
  · rw [World.frozen?_alloc_old w1 _ ⟨w.heap.size, 1, none⟩ (by show w.heap.size ≠ w1.heap.size; omega), f1]
  · rw [World.frozen?_alloc_old w1 _ ⟨w.heap.size, 2, none⟩ (by show w.heap.size ≠ w1.heap.size; omega), f2]

/-- An error as it is told, in a block of its own. -/
def Box (w : World) (g : Nat) (f : Fl) : Prop := w.heap[g]? = some (.cells #[.int .i64 f.code, .int .i64 f.at_, .bool f.placed] 43 (0, 0))
theorem Box.later {w w' : World} {B g : Nat} {f : Fl} (h : Box w g f) (hb : Below B w w') (hB : w.heap.size ≤ B) : Box w' g f := by
  have hlt : g < w.heap.size := (Array.getElem?_eq_some_iff.1 h).1
  exact (hb.block g (by omega)).trans h
theorem Box.new (w : World) (c a : Int) (b : Bool) : Box (w.alloc (.cells #[.int .i64 c, .int .i64 a, .bool b] 43)) w.heap.size ⟨c, a, b⟩ := heap_alloc_new w _
theorem Box.cells {w : World} {g : Nat} {c a : Int} {b : Bool} (h : Box w g ⟨c, a, b⟩) : w.cell? ⟨g, 0, none⟩ = some (.int .i64 c) ∧ w.cell? ⟨g, 1, none⟩ = some (.int .i64 a) ∧ w.cell? ⟨g, 2, none⟩ = some (.bool b) :=
  ⟨cell_of_row w g 0 _ _ (0, 0) h, cell_of_row w g 1 _ _ (0, 0) h, cell_of_row w g 2 _ _ (0, 0) h⟩
theorem is_told3 {w : World} {v : Value} {c a : Int} {b : Bool} (h : Tells w v ⟨c, a, b⟩) (hg : Handle w) : Calls Tryz.prog 15 #[v, .agg #[.int .i64 c, .int .i64 a, .bool b]] w fun e w' => e = .returned (.bool true) ∧ Below w.heap.size w w' := by
  have k := is_told h hg
  unfold Fl.v at k
  exact k

theorem Box.put {w : World} {g : Nat} {f : Fl} (h : Box w g f) (c a : Int) (b : Bool) : Box (((w.setCell ⟨g, 0, none⟩ (.int .i64 c)).setCell ⟨g, 1, none⟩ (.int .i64 a)).setCell ⟨g, 2, none⟩ (.bool b)) g ⟨c, a, b⟩ := by
  unfold Box at h ⊢
  simp [World.setCell, Array.getElem?_modify, h]
/-- A box laid ahead of a call, behind it. -/
theorem Box.behind {w w1 : World} {c a : Int} {b : Bool} (h : Below (w.alloc (.cells #[.int .i64 c, .int .i64 a, .bool b] 43)).heap.size (w.alloc (.cells #[.int .i64 c, .int .i64 a, .bool b] 43)) w1) : Box w1 w.heap.size ⟨c, a, b⟩ :=
  (Box.new w c a b).later h (Nat.le_refl _)
set_option maxRecDepth 100000 in
/-- Something is not nothing. -/
theorem is_some {w : World} {v : Value} {c a : Int} {b : Bool} (h : Tells w v ⟨c, a, b⟩) (hc : c ≠ 0) (w' : World) : Calls Tryz.prog 15 #[v, .agg #[.int .i64 0, .int .i64 0, .bool false]] w' fun e w'' => e = .returned (.bool false) ∧ Below w'.heap.size w' w'' := by
  rcases h with ⟨h0, _⟩ | ⟨h0, d, fs, h1, _⟩
  · exact absurd h0 hc
  · obtain ⟨T, x, rfl⟩ := h1.chain.held
    clear h1 h0 hc
    go_enter Tryz.func15, Tryz.ntmps15
    go_wp2
    go_ret
    exact ⟨rfl, (Below.refl _ _).alloc (Nat.le_refl _) _⟩
/-- Wrap, told: a place around what is told. -/
theorem wrap_told {w : World} {v : Value} {n a : Int} (at_ : Int) (h : Tells w v ⟨n, a, false⟩) (hn : n ≠ 0) : Calls Tryz.prog 43 #[.int .i64 at_, v] w fun e w' => ∃ v', e = .returned v' ∧ Tells w' v' ⟨n, at_, true⟩ ∧ Below w.heap.size w w' := by
  rcases h with ⟨h0, _⟩ | ⟨h0, d, fs, h1, h2⟩
  · exact absurd h0 hn
  · exact (wrap at_ h1).mono fun _ _ ⟨b, he, hb, hf⟩ => ⟨_, he, .inr ⟨h0, _, _, hf, by simp [isFail]⟩, hb⟩
end Go.Proofs.YtoagfmonfgagbaaGreatDoor
