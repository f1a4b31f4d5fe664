/-
  Place, Code, Deeper of package fault. Conditions: the error is nil or a chain; errors.errorType holds the handle of the type error.
-/
import Derived.Test.YtmkkilbejlabfaaDoorCirc
import Derived.Defers
import Derived.Recover
namespace Go.Proofs.YtmkkilbejlabfaaDoor
open Go.RowKit Go.Extern.Stop Go.Stop Go.Extern

theorem place_idle (a b : Value) (w : World) : CallsD Tryd.prog 17 #[a, b] .returning w fun e u' w' => e = .returned (.tuple #[]) ∧ u' = .returning ∧ w = w' := by
  refine callsD_of_wpS Tryd.func17 rfl fun c₀ cs hu => ?_
  apply wpS_seq
  apply wpS_region
  simp [wpOpsS, go_sem, recoverD, hu, Tryd.ntmps17, Exit.thenS]
  refine wpS_cond (t := false) (by simp [Act.eval, Array.replicate]) ?_
  simp only [Bool.false_eq_true, if_false]
  refine wpS_of_wp (wp_skip ?_)
  cases c₀
  simp_all [bodyPostS, results, Tryd.results17]
theorem code_idle (a : Value) (w : World) : CallsD Tryd.prog 22 #[a] .returning w fun e u' w' => e = .returned (.tuple #[]) ∧ u' = .returning ∧ w = w' := by
  refine callsD_of_wpS Tryd.func22 rfl fun c₀ cs hu => ?_
  apply wpS_seq
  apply wpS_region
  simp [wpOpsS, go_sem, recoverD, hu, Tryd.ntmps22, Exit.thenS]
  refine wpS_cond (t := false) (by simp [Act.eval, Array.replicate]) ?_
  simp only [Bool.false_eq_true, if_false]
  refine wpS_of_wp (wp_skip ?_)
  cases c₀
  simp_all [bodyPostS, results, Tryd.results22]

/-- What Place says of the faults in an error. -/
def placeOf : List (Nat × Int) → Int × Bool
  | [] => (0, false)
  | p :: _ => (p.2, true)

set_option maxRecDepth 100000 in
set_option maxHeartbeats 400000 in
theorem place {d : Nat} {v : Value} {fs : List (Nat × Int)} {c : Option Int} {w : World} (hc : Chain w d v fs c) (hg : Handle w) : Calls Tryd.prog 8 #[v] w fun e w' => e = .returned (.tuple #[.int .i64 (placeOf fs).1, .bool (placeOf fs).2]) ∧ Below w.heap.size w w' := by
  have hb : Below w.heap.size w ((w.alloc (.cells #[.int .i64 0] 3)).alloc (.cells #[.bool false] 4)) := ((Below.refl _ _).alloc (Nat.le_refl _) _).alloc (by simp) _
  have hk := (outermost (hc.later hb (Nat.le_refl _)) (hg.later hb (Nat.le_refl _))).mono (R' := fun e w' => e = .returned (fp fs) ∧ Below w.heap.size w w' ∧ w'.cell? ⟨w.heap.size, 0, none⟩ = some (.int .i64 0) ∧ w'.cell? ⟨w.heap.size + 1, 0, none⟩ = some (.bool false) ∧ w'.frozen? ⟨w.heap.size, 0, none⟩ = false ∧ w'.frozen? ⟨w.heap.size + 1, 0, none⟩ = false) (by
    rintro e w' ⟨he, hb1⟩
    exact ⟨he, hb.trans (hb1.mono hb.size), by rw [hb1.cell (p := ⟨w.heap.size, 0, none⟩) (by simp; omega)]; simp, by rw [hb1.cell (p := ⟨w.heap.size + 1, 0, none⟩) (by simp)]; simp,
      by rw [hb1.frozen (p := ⟨w.heap.size, 0, none⟩) (by simp; omega)]; simp, by rw [hb1.frozen (p := ⟨w.heap.size + 1, 0, none⟩) (by simp)]; simp⟩)
  have hmf : ∀ (fn : Fn) (first cap : Array Value) (w : World), (Instr.makeFunc fn first cap).run Tryd.prog w = .ok (.func fn first cap) w := fun _ _ _ _ => rfl
  cases fs with
  | nil =>
    rw [show fp [] = Value.pointer none from rfl] at hk
    have HK := Lib.hid hk
    clear hk hb hc hg
    go_enter_defers Tryd.func8, Tryd.ntmps8
    go_wp2_with (go_at_call 18; refine HK.out.mono ?_; rintro e w' ⟨rfl, hp, c0, c1, f0, f1⟩)
    have r0 : ((w'.setCell ⟨w.heap.size, 0, none⟩ (.int .i64 0)).setCell ⟨w.heap.size + 1, 0, none⟩ (.bool false)).cell? ⟨w.heap.size, 0, none⟩ = some (.int .i64 0) := by
      rw [cell_far _ _ _ _ (by simp)]; exact World.cell?_setCell_same' _ _ _ (by rw [c0]; rfl)
    have r1 : ((w'.setCell ⟨w.heap.size, 0, none⟩ (.int .i64 0)).setCell ⟨w.heap.size + 1, 0, none⟩ (.bool false)).cell? ⟨w.heap.size + 1, 0, none⟩ = some (.bool false) :=
      World.cell?_setCell_same' _ _ _ (by rw [cell_far _ _ _ _ (by simp), c1]; rfl)
    have HP := Lib.hid ((hp.setCell (p := ⟨w.heap.size, 0, none⟩) (Nat.le_refl _) (.int .i64 0)).setCell (p := ⟨w.heap.size + 1, 0, none⟩) (by simp) (.bool false))
    refine leaves_cons (f := 17) (args := #[.pointer (some ⟨w.heap.size, 0, none⟩), .pointer (some ⟨w.heap.size + 1, 0, none⟩)]) (by simp) (by simp [go_sem]) ?_
    refine (place_idle _ _ _).mono ?_
    rintro e u' w'' ⟨rfl, rfl, rfl⟩
    simp [Leaves, settle, results, Tryd.results8, go_sem, r0, r1]
    exact ⟨⟨rfl, rfl⟩, HP.out⟩
  | cons p fs =>
    obtain ⟨d', v', _, h0, _, _⟩ := hc.next
    rw [show fp (p :: fs) = Value.pointer (some ⟨p.1, 0, none⟩) from rfl] at hk
    have HK := Lib.hid (hk.mono (R' := fun e w' => e = .returned (.pointer (some ⟨p.1, 0, none⟩)) ∧ Below w.heap.size w w' ∧ w'.cell? ⟨w.heap.size, 0, none⟩ = some (.int .i64 0) ∧ w'.cell? ⟨w.heap.size + 1, 0, none⟩ = some (.bool false) ∧ w'.frozen? ⟨w.heap.size, 0, none⟩ = false ∧ w'.frozen? ⟨w.heap.size + 1, 0, none⟩ = false ∧ w'.cell? ⟨p.1, 0, none⟩ = some (.int .i64 p.2)) (by
      rintro e w' ⟨he, hp, c0, c1, f0, f1⟩
      exact ⟨he, hp, c0, c1, f0, f1, (hp.cell (p := ⟨p.1, 0, none⟩) (lt_of_cell h0)).trans h0⟩))
    clear hk hb hc hg h0
    go_enter_defers Tryd.func8, Tryd.ntmps8
    go_wp2_with (go_at_call 18; refine HK.out.mono ?_; rintro e w' ⟨rfl, hp, c0, c1, f0, f1, h0⟩)
    have r0 : ((w'.setCell ⟨w.heap.size, 0, none⟩ (.int .i64 p.2)).setCell ⟨w.heap.size + 1, 0, none⟩ (.bool true)).cell? ⟨w.heap.size, 0, none⟩ = some (.int .i64 p.2) := by
      rw [cell_far _ _ _ _ (by simp)]; exact World.cell?_setCell_same' _ _ _ (by rw [c0]; rfl)
    have r1 : ((w'.setCell ⟨w.heap.size, 0, none⟩ (.int .i64 p.2)).setCell ⟨w.heap.size + 1, 0, none⟩ (.bool true)).cell? ⟨w.heap.size + 1, 0, none⟩ = some (.bool true) :=
      World.cell?_setCell_same' _ _ _ (by rw [cell_far _ _ _ _ (by simp), c1]; rfl)
    have HP := Lib.hid ((hp.setCell (p := ⟨w.heap.size, 0, none⟩) (Nat.le_refl _) (.int .i64 p.2)).setCell (p := ⟨w.heap.size + 1, 0, none⟩) (by simp) (.bool true))
    refine leaves_cons (f := 17) (args := #[.pointer (some ⟨w.heap.size, 0, none⟩), .pointer (some ⟨w.heap.size + 1, 0, none⟩)]) (by simp) (by simp [go_sem]) ?_
    refine (place_idle _ _ _).mono ?_
    rintro e u' w'' ⟨rfl, rfl, rfl⟩
    simp [Leaves, settle, results, Tryd.results8, go_sem, r0, r1]
    exact ⟨⟨rfl, rfl⟩, HP.out⟩

theorem place_nil (w : World) : Calls Tryd.prog 8 #[.nilIface] w fun e w' => e = .returned (.tuple #[.int .i64 0, .bool false]) ∧ Below w.heap.size w w' := by
  have hb : Below w.heap.size w ((w.alloc (.cells #[.int .i64 0] 3)).alloc (.cells #[.bool false] 4)) := ((Below.refl _ _).alloc (Nat.le_refl _) _).alloc (by simp) _
  have hk := (outermost_nil ((w.alloc (.cells #[.int .i64 0] 3)).alloc (.cells #[.bool false] 4))).mono (R' := fun e w' => e = .returned (.pointer none) ∧ Below w.heap.size w w' ∧ w'.cell? ⟨w.heap.size, 0, none⟩ = some (.int .i64 0) ∧ w'.cell? ⟨w.heap.size + 1, 0, none⟩ = some (.bool false) ∧ w'.frozen? ⟨w.heap.size, 0, none⟩ = false ∧ w'.frozen? ⟨w.heap.size + 1, 0, none⟩ = false) (by
    rintro e w' ⟨he, hb1⟩
    exact ⟨he, hb.trans (hb1.mono hb.size), by rw [hb1.cell (p := ⟨w.heap.size, 0, none⟩) (by simp; omega)]; simp, by rw [hb1.cell (p := ⟨w.heap.size + 1, 0, none⟩) (by simp)]; simp,
      by rw [hb1.frozen (p := ⟨w.heap.size, 0, none⟩) (by simp; omega)]; simp, by rw [hb1.frozen (p := ⟨w.heap.size + 1, 0, none⟩) (by simp)]; simp⟩)
  have hmf : ∀ (fn : Fn) (first cap : Array Value) (w : World), (Instr.makeFunc fn first cap).run Tryd.prog w = .ok (.func fn first cap) w := fun _ _ _ _ => rfl
  have HK := Lib.hid hk
  clear hk hb
  go_enter_defers Tryd.func8, Tryd.ntmps8
  go_wp2_with (go_at_call 18; refine HK.out.mono ?_; rintro e w' ⟨rfl, hp, c0, c1, f0, f1⟩)
  have r0 : ((w'.setCell ⟨w.heap.size, 0, none⟩ (.int .i64 0)).setCell ⟨w.heap.size + 1, 0, none⟩ (.bool false)).cell? ⟨w.heap.size, 0, none⟩ = some (.int .i64 0) := by
    rw [cell_far _ _ _ _ (by simp)]; exact World.cell?_setCell_same' _ _ _ (by rw [c0]; rfl)
  have r1 : ((w'.setCell ⟨w.heap.size, 0, none⟩ (.int .i64 0)).setCell ⟨w.heap.size + 1, 0, none⟩ (.bool false)).cell? ⟨w.heap.size + 1, 0, none⟩ = some (.bool false) :=
    World.cell?_setCell_same' _ _ _ (by rw [cell_far _ _ _ _ (by simp), c1]; rfl)
  have HP := Lib.hid ((hp.setCell (p := ⟨w.heap.size, 0, none⟩) (Nat.le_refl _) (.int .i64 0)).setCell (p := ⟨w.heap.size + 1, 0, none⟩) (by simp) (.bool false))
  refine leaves_cons (f := 17) (args := #[.pointer (some ⟨w.heap.size, 0, none⟩), .pointer (some ⟨w.heap.size + 1, 0, none⟩)]) (by simp) (by simp [go_sem]) ?_
  refine (place_idle _ _ _).mono ?_
  rintro e u' w'' ⟨rfl, rfl, rfl⟩
  simp [Leaves, settle, results, Tryd.results8, go_sem, r0, r1]
  exact HP.out

set_option maxRecDepth 100000 in
set_option maxHeartbeats 400000 in
theorem code {d : Nat} {v : Value} {fs : List (Nat × Int)} {c : Option Int} {w : World} (hc : Chain w d v fs c) (hg : Handle w) : Calls Tryd.prog 13 #[v] w fun e w' => e = .returned (.int .i64 (c.getD 0)) ∧ Below w.heap.size w w' := by
  have hb : Below w.heap.size w (w.alloc (.cells #[.int .i64 0] 22)) := (Below.refl _ _).alloc (Nat.le_refl _) _
  have hmf : ∀ (fn : Fn) (first cap : Array Value) (w : World), (Instr.makeFunc fn first cap).run Tryd.prog w = .ok (.func fn first cap) w := fun _ _ _ _ => rfl
  have K1 := Lib.hid (outermost (hc.later hb (Nat.le_refl _)) (hg.later hb (Nat.le_refl _)))
  have HC := Lib.hid hc
  have HG := Lib.hid hg
  have HB := Lib.hid hb
  clear hc hg hb
  go_enter_defers Tryd.func13, Tryd.ntmps13
  go_wp2_with fail
  refine K1.out.mono ?_
  rintro e w1 ⟨rfl, h1⟩
  have hb1 := HB.out.trans (h1.mono HB.out.size)
  have K2 := Lib.hid (circular (HC.out.later hb1 (Nat.le_refl _)) (HG.out.later hb1 (Nat.le_refl _)))
  have H1 := Lib.hid h1
  clear h1 hb1
  go_wp2_with fail
  refine K2.out.mono ?_
  rintro e w2 ⟨rfl, h2⟩
  have h12 := H1.out.trans (h2.mono H1.out.size)
  have hb2 := HB.out.trans (h12.mono HB.out.size)
  have t2 : w2.cell? ⟨w.heap.size, 0, none⟩ = some (.int .i64 0) := by rw [h12.cell (p := ⟨w.heap.size, 0, none⟩) (by simp)]; simp
  have z2 : w2.frozen? ⟨w.heap.size, 0, none⟩ = false := by rw [h12.frozen (p := ⟨w.heap.size, 0, none⟩) (by simp)]; simp
  have k3 := (As_E (HC.out.later hb2 (Nat.le_refl _)) (HG.out.later hb2 (Nat.le_refl _)) t2 z2).mono (R' := fun e w' => e = .returned (.bool c.isSome) ∧ Below w.heap.size w w' ∧ w'.cell? ⟨w.heap.size, 0, none⟩ = some (.int .i64 (c.getD 0)) ∧ w'.frozen? ⟨w.heap.size, 0, none⟩ = false) (by
    have hlt : w.heap.size < w2.heap.size := lt_of_cell t2
    rintro e w' ⟨he, hw⟩
    cases c with
    | none =>
      have hw : Below w2.heap.size w2 w' := hw
      exact ⟨he, hb2.trans (hw.mono hb2.size), by rw [hw.cell (p := ⟨w.heap.size, 0, none⟩) hlt]; exact t2, by rw [hw.frozen (p := ⟨w.heap.size, 0, none⟩) hlt]; exact z2⟩
    | some n =>
      obtain ⟨w3, h3, rfl⟩ := hw
      exact ⟨he, (hb2.trans (h3.mono hb2.size)).setCell (Nat.le_refl _) _, World.cell?_setCell_same' _ _ _ (by rw [h3.cell (p := ⟨w.heap.size, 0, none⟩) hlt, t2]; rfl), by rw [World.frozen?_setCell, h3.frozen (p := ⟨w.heap.size, 0, none⟩) hlt]; exact z2⟩)
  have K3 := Lib.hid k3
  clear h2 h12 hb2 t2 z2 k3
  cases c with
  | none =>
    go_wp2_with (go_at_call 19; refine K3.out.mono ?_; rintro e w3 ⟨rfl, hp, c0, f0⟩)
    have r0 : (w3.setCell ⟨w.heap.size, 0, none⟩ (.int .i64 0)).cell? ⟨w.heap.size, 0, none⟩ = some (.int .i64 0) := World.cell?_setCell_same' _ _ _ (by rw [c0]; rfl)
    have HP := Lib.hid (hp.setCell (p := ⟨w.heap.size, 0, none⟩) (Nat.le_refl _) (.int .i64 0))
    refine leaves_cons (f := 22) (args := #[.pointer (some ⟨w.heap.size, 0, none⟩)]) (by simp) (by simp [go_sem]) ?_
    refine (code_idle _ _).mono ?_
    rintro e u' w'' ⟨rfl, rfl, rfl⟩
    simp [Leaves, settle, results, Tryd.results13, go_sem, r0]
    exact HP.out
  | some n =>
    go_wp2_with (go_at_call 19; refine K3.out.mono ?_; rintro e w3 ⟨rfl, hp, c0, f0⟩)
    have r0 : (w3.setCell ⟨w.heap.size, 0, none⟩ (.int .i64 n)).cell? ⟨w.heap.size, 0, none⟩ = some (.int .i64 n) := World.cell?_setCell_same' _ _ _ (by rw [c0]; rfl)
    have HP := Lib.hid (hp.setCell (p := ⟨w.heap.size, 0, none⟩) (Nat.le_refl _) (.int .i64 n))
    refine leaves_cons (f := 22) (args := #[.pointer (some ⟨w.heap.size, 0, none⟩)]) (by simp) (by simp [go_sem]) ?_
    refine (code_idle _ _).mono ?_
    rintro e u' w'' ⟨rfl, rfl, rfl⟩
    simp [Leaves, settle, results, Tryd.results13, go_sem, r0]
    exact HP.out

theorem circular_nil {w : World} (hg : Handle w) : Calls Tryd.prog 23 #[.pointer none] w fun e w' => e = .returned (.bool false) ∧ Below w.heap.size w w' := by
  have h := circular (d := 0) (v := .iface 22 (.int .i64 0)) (fs := []) (c := some 0) (w := w) (Chain.errno 0) hg
  rw [show fp [] = Value.pointer none from rfl] at h
  exact h

set_option maxRecDepth 100000 in
set_option maxHeartbeats 400000 in
theorem code_nil {w : World} (hg : Handle w) : Calls Tryd.prog 13 #[.nilIface] w fun e w' => e = .returned (.int .i64 0) ∧ Below w.heap.size w w' := by
  have hb : Below w.heap.size w (w.alloc (.cells #[.int .i64 0] 22)) := (Below.refl _ _).alloc (Nat.le_refl _) _
  have hmf : ∀ (fn : Fn) (first cap : Array Value) (w : World), (Instr.makeFunc fn first cap).run Tryd.prog w = .ok (.func fn first cap) w := fun _ _ _ _ => rfl
  have K1 := Lib.hid (outermost_nil (w.alloc (.cells #[.int .i64 0] 22)))
  have HG := Lib.hid hg
  have HB := Lib.hid hb
  clear hg hb
  go_enter_defers Tryd.func13, Tryd.ntmps13
  go_wp2_with fail
  refine K1.out.mono ?_
  rintro e w1 ⟨rfl, h1⟩
  have hb1 := HB.out.trans (h1.mono HB.out.size)
  have K2 := Lib.hid (circular_nil (HG.out.later hb1 (Nat.le_refl _)))
  have H1 := Lib.hid h1
  clear h1 hb1
  go_wp2_with fail
  refine K2.out.mono ?_
  rintro e w2 ⟨rfl, h2⟩
  have h12 := H1.out.trans (h2.mono H1.out.size)
  have hp := HB.out.trans (h12.mono HB.out.size)
  have c0 : w2.cell? ⟨w.heap.size, 0, none⟩ = some (.int .i64 0) := by rw [h12.cell (p := ⟨w.heap.size, 0, none⟩) (by simp)]; simp
  have f0 : w2.frozen? ⟨w.heap.size, 0, none⟩ = false := by rw [h12.frozen (p := ⟨w.heap.size, 0, none⟩) (by simp)]; simp
  have H2 := Lib.hid hp
  clear h2 h12 hp
  go_wp2_with (go_at_call 19; refine (As_nil _ _).mono ?_; rintro e w3 ⟨rfl, rfl⟩)
  have r0 : (w2.setCell ⟨w.heap.size, 0, none⟩ (.int .i64 0)).cell? ⟨w.heap.size, 0, none⟩ = some (.int .i64 0) := World.cell?_setCell_same' _ _ _ (by rw [c0]; rfl)
  have HP := Lib.hid (H2.out.setCell (p := ⟨w.heap.size, 0, none⟩) (Nat.le_refl _) (.int .i64 0))
  refine leaves_cons (f := 22) (args := #[.pointer (some ⟨w.heap.size, 0, none⟩)]) (by simp) (by simp [go_sem]) ?_
  refine (code_idle _ _).mono ?_
  rintro e u' w'' ⟨rfl, rfl, rfl⟩
  simp [Leaves, settle, results, Tryd.results13, go_sem, r0]
  exact HP.out

theorem deeper_nil (by_ : Value) (w : World) : Calls Tryd.prog 14 #[by_, .nilIface] w fun e w' => e = .returned .nilIface ∧ w = w' := by
  go_enter Tryd.func14, Tryd.ntmps14
  go_wp2_with fail
  go_ret
  exact ⟨rfl, rfl⟩

/-- Deeper: a new fault with the number of the error, so much further. -/
theorem deeper {d : Nat} {v : Value} {fs : List (Nat × Int)} {c : Option Int} {w : World} (by_ : Int) (hc : Chain w d v fs c) (hg : Handle w) : Calls Tryd.prog 14 #[.int .i64 by_, v] w fun e w' =>
    ∃ b, e = .returned (.iface 44 (.pointer (some ⟨b, 0, none⟩))) ∧ Below w.heap.size w w' ∧ Chain w' 1 (.iface 44 (.pointer (some ⟨b, 0, none⟩))) [(b, wrap64 (by_ + (placeOf fs).1))] (some (c.getD 0)) := by
  obtain ⟨T, x, rfl⟩ := hc.held
  have K1 := Lib.hid (place hc hg)
  have HC := Lib.hid hc
  have HG := Lib.hid hg
  clear hc hg
  go_enter Tryd.func14, Tryd.ntmps14
  go_wp2_with fail
  refine K1.out.mono ?_
  rintro e w1 ⟨rfl, h1⟩
  have K2 := Lib.hid (code (HC.out.later h1 (Nat.le_refl _)) (HG.out.later h1 (Nat.le_refl _)))
  have H1 := Lib.hid h1
  clear h1
  go_wp2_with fail
  refine K2.out.mono ?_
  rintro e w2 ⟨rfl, h2⟩
  have H2 := Lib.hid (H1.out.trans (h2.mono H1.out.size))
  clear h2
  go_wp2_with (go_at_call 7; refine (wrap_some _ _ _ _).mono ?_; rintro e w3 ⟨rfl, rfl⟩)
  go_ret
  exact ⟨_, rfl, H2.out.alloc H2.out.size _, Chain.wrapped (Chain.errno _) _⟩
end Go.Proofs.YtmkkilbejlabfaaDoor
