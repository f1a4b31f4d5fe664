/-
  stockadehelp.At and stockadehelp.Is at an error that is a chain of faults down to a number. Conditions: errors.errorType holds the handle of the type error.
-/
import Derived.Test.YtiggfoghogecjaaDoorWrap
import Derived.Test.YtiggfoghogecjaaDoorIs
import Derived.Deep.QuietTactic
import Derived.BigQuiet
namespace Go.Proofs.YtiggfoghogecjaaDoor
open Go.RowKit Go.Extern.Stop Go.Stop Go.Extern

theorem help_at (n at_ : Int) (w : World) : Calls Tryd.prog 11 #[.int .i64 n, .int .i64 at_] w fun e w' => e = .returned (.agg #[.int .i64 n, .int .i64 at_, .bool true]) ∧ Below w.heap.size w w' := by
  go_enter Tryd.func11, Tryd.ntmps11
  go_wp2
  exact bodyPost_ret (v := .agg #[.int .i64 n, .int .i64 at_, .bool true]) (by simp [results, Tryd.results11, go_sem]) rfl ⟨rfl, (Below.refl _ _).alloc (Nat.le_refl _) _⟩
/-- Is an error just that one? -/
def isFail (n : Int) (fs : List (Nat × Int)) (code at_ : Int) (placed : Bool) : Bool :=
  (n == code) && (match fs with | [] => !placed | p :: _ => placed && (p.2 == at_))

/-- The memory of stockadehelp.Is ahead of its calls. -/
def isWorld (w : World) (code at_ : Int) (placed : Bool) : World := ((w.alloc (.cells #[.int .i64 code, .int .i64 at_, .bool placed] 30)).alloc (.cells #[.int .i64 0] 28)).alloc (.cells #[.pointer none] 48)

theorem isWorld_size (w : World) (code at_ : Int) (placed : Bool) : (isWorld w code at_ placed).heap.size = w.heap.size + 1 + 1 + 1 := by simp [isWorld]
theorem isWorld_fail (w : World) (code at_ : Int) (placed : Bool) (i : Nat) : (isWorld w code at_ placed).cell? ⟨w.heap.size, i, none⟩ = #[Value.int .i64 code, .int .i64 at_, .bool placed][i]? := by
  unfold isWorld
  rw [World.cell?_alloc_past _ _ _ (by simp; omega), World.cell?_alloc_past _ _ _ (by simp), World.cell?_alloc_at _ _ _ _ rfl]
theorem isWorld_code (w : World) (code at_ : Int) (placed : Bool) : (isWorld w code at_ placed).cell? ⟨w.heap.size + 1, 0, none⟩ = some (.int .i64 0) := by
  unfold isWorld
  rw [World.cell?_alloc_past _ _ _ (by simp), World.cell?_alloc_at _ _ _ _ (by simp)]
  rfl
theorem isWorld_fault (w : World) (code at_ : Int) (placed : Bool) : (isWorld w code at_ placed).cell? ⟨w.heap.size + 1 + 1, 0, none⟩ = some (.pointer none) := by
  unfold isWorld
  rw [World.cell?_alloc_at _ _ _ _ (by simp)]
  rfl
theorem isWorld_free (w : World) (code at_ : Int) (placed : Bool) (k : Nat) (hk : k < 3) : (isWorld w code at_ placed).frozen? ⟨w.heap.size + k, 0, none⟩ = false := by
  unfold isWorld
  rcases k with _ | _ | _ | k
  · rw [World.frozen?_alloc_old _ _ _ (by simp; omega), World.frozen?_alloc_old _ _ _ (by simp)]; simp
  · rw [World.frozen?_alloc_old _ _ _ (by simp)]; simp
  · exact World.frozen?_alloc_at _ _ _ _ (by simp)
  · omega
theorem below_drewN {B : Nat} {a w : World} (h : Below B a w) (n : Nat) : Below B a (w.drewN n) := ⟨h.os, h.tape, h.output, h.size, h.block⟩
set_option maxRecDepth 100000 in
set_option maxHeartbeats 1000000 in
theorem help_is {d : Nat} {v : Value} {fs : List (Nat × Int)} {n : Int} {w : World} (code at_ : Int) (placed : Bool) (hz : code ≠ 0) (hc : Faults w d v fs n) (hg : Handle w) :
    Calls Tryd.prog 9 #[v, .agg #[.int .i64 code, .int .i64 at_, .bool placed]] w fun e w' => e = .returned (.bool (isFail n fs code at_ placed)) ∧ Below w.heap.size w w' := by
  have hz0 : (code == 0) = false := by simp [hz]
  have hb : Below w.heap.size w (isWorld w code at_ placed) := (((Below.refl _ _).alloc (Nat.le_refl _) _).alloc (by simp) _).alloc (by simp; omega) _
  have k1 := (As_E (hc.later hb (Nat.le_refl _)).chain (hg.later hb (Nat.le_refl _)) (t := ⟨w.heap.size + 1, 0, none⟩) (old := .int .i64 0) (isWorld_code _ _ _ _) (isWorld_free _ _ _ _ 1 (by omega))).mono (R' := fun e w' => e = .returned (.bool true) ∧ Below w.heap.size w w' ∧
      w'.cell? ⟨w.heap.size, 0, none⟩ = some (.int .i64 code) ∧ w'.cell? ⟨w.heap.size, 1, none⟩ = some (.int .i64 at_) ∧ w'.cell? ⟨w.heap.size, 2, none⟩ = some (.bool placed) ∧ w'.cell? ⟨w.heap.size + 1, 0, none⟩ = some (.int .i64 n) ∧ w'.cell? ⟨w.heap.size + 1 + 1, 0, none⟩ = some (.pointer none) ∧ w'.frozen? ⟨w.heap.size + 1 + 1, 0, none⟩ = false) (by
    rintro e w' ⟨he, w1, h1, rfl⟩
    have hs := isWorld_size w code at_ placed
    have cf : ∀ b o, b < w.heap.size + 3 → b ≠ w.heap.size + 1 → (w1.setCell ⟨w.heap.size + 1, 0, none⟩ (.int .i64 n)).cell? ⟨b, o, none⟩ = (isWorld w code at_ placed).cell? ⟨b, o, none⟩ := fun b o hlt hne => by
      rw [cell_far _ _ _ _ (fun e => hne e.symm)]
      exact h1.cell (p := ⟨b, o, none⟩) (by rw [hs]; exact hlt)
    refine ⟨he, (hb.trans (h1.mono hb.size)).setCell (p := ⟨w.heap.size + 1, 0, none⟩) (by simp) _, ?_, ?_, ?_, ?_, ?_, ?_⟩
    · rw [cf _ _ (by omega) (by omega), isWorld_fail]; rfl
    · rw [cf _ _ (by omega) (by omega), isWorld_fail]; rfl
    · rw [cf _ _ (by omega) (by omega), isWorld_fail]; rfl
    · exact World.cell?_setCell_same' _ _ _ (by rw [h1.cell (p := ⟨w.heap.size + 1, 0, none⟩) (by rw [hs]; simp), isWorld_code]; rfl)
    · rw [cf _ _ (by omega) (by omega)]; exact isWorld_fault _ _ _ _
    · rw [World.frozen?_setCell, h1.frozen (p := ⟨w.heap.size + 1 + 1, 0, none⟩) (by rw [hs]; simp)]; exact isWorld_free _ _ _ _ 2 (by omega))
  unfold isWorld at k1
  have K1 := Lib.hid k1
  have HC := Lib.hid hc
  have HG := Lib.hid hg
  clear k1 hb hc hg hz
  by_cases hn : n = code
  · subst hn
    have hne : (n != n) = false := by simp
    have HK2 : ∀ w1 : World, Below w.heap.size w w1 → Hid (Calls Tryd.prog 19 #[v, .iface 28 (.int .i64 n)] w1 fun e w' => e = .returned (.bool true) ∧ w1 = w') := fun w1 hb => by
      have h := Is_any (x := n) (HC.out.later hb (Nat.le_refl _))
      rw [show (n == n) = true by simp] at h
      exact h
    have HK3 : ∀ w1 : World, Below w.heap.size w w1 → w1.cell? ⟨w.heap.size + 1 + 1, 0, none⟩ = some (.pointer none) → w1.frozen? ⟨w.heap.size + 1 + 1, 0, none⟩ = false → Hid (Calls Tryd.prog 18 #[v, .iface 52 (.pointer (some ⟨w.heap.size + 1 + 1, 0, none⟩))] w1 (AsPost (fs.head?.map (fun p => .pointer (some ⟨p.1, 0, none⟩))) ⟨w.heap.size + 1 + 1, 0, none⟩ w1)) := fun w1 hb ht hf =>
      As_F (HC.out.later hb (Nat.le_refl _)).chain (HG.out.later hb (Nat.le_refl _)) ht hf
    have HKK := Lib.hid (And.intro HK2 HK3)
    clear HK2 HK3
    cases fs with
    | nil =>
      have ha : isFail n [] n at_ placed = !placed := by simp [isFail]
      rw [ha]
      clear ha
      go_enter Tryd.func9, Tryd.ntmps9
      go_wp2_with (go_at_call 18; refine K1.out.mono ?_; rintro e w1 ⟨rfl, h1, c0, c1, c2, c3, c4, f4⟩)
      refine (HKK.out.1 w1 h1).out.mono ?_
      rintro e w2 ⟨rfl, rfl⟩
      have k3 : Calls Tryd.prog 18 #[v, .iface 52 (.pointer (some ⟨w.heap.size + 1 + 1, 0, none⟩))] w1 (fun e w' => e = .returned (.bool false) ∧ Below w.heap.size w w' ∧ w'.cell? ⟨w.heap.size, 2, none⟩ = some (.bool placed)) := (HKK.out.2 w1 h1 c4 f4).out.mono (by
        rintro e w' ⟨he, hb⟩
        have hb : Below w1.heap.size w1 w' := hb
        exact ⟨he, h1.trans (hb.mono h1.size), (hb.cell (p := ⟨w.heap.size, 2, none⟩) (lt_of_cell c2)).trans c2⟩)
      have K3 := Lib.hid k3
      have H1 := Lib.hid (And.intro h1 (And.intro c0 (And.intro c1 (And.intro c2 (And.intro c3 (And.intro c4 f4))))))
      clear k3 h1 c0 c1 c2 c3 c4 f4
      go_wp2_with fail
      refine K3.out.mono ?_
      rintro e w2 ⟨rfl, h2, g2⟩
      go_wp2_with fail
      go_ret
      exact ⟨rfl, h2⟩
    | cons p fs =>
      have ha : isFail n (p :: fs) n at_ placed = (placed && (p.2 == at_)) := by simp [isFail]
      rw [ha]
      clear ha
      obtain ⟨_, _, _, hp0, _, _⟩ := HC.out.chain.next
      have HP0 := Lib.hid hp0
      clear hp0
      cases placed with
      | false =>
        rw [Bool.false_and]
        go_enter Tryd.func9, Tryd.ntmps9
        go_wp2_with (go_at_call 18; refine K1.out.mono ?_; rintro e w1 ⟨rfl, h1, c0, c1, c2, c3, c4, f4⟩)
        refine (HKK.out.1 w1 h1).out.mono ?_
        rintro e w2 ⟨rfl, rfl⟩
        have k3 : Calls Tryd.prog 18 #[v, .iface 52 (.pointer (some ⟨w.heap.size + 1 + 1, 0, none⟩))] w1 (fun e w' => e = .returned (.bool true) ∧ Below w.heap.size w w' ∧ w'.cell? ⟨w.heap.size, 2, none⟩ = some (.bool false)) := (HKK.out.2 w1 h1 c4 f4).out.mono (by
          rintro e w' ⟨he, w3, hb, rfl⟩
          refine ⟨he, (h1.trans (hb.mono h1.size)).setCell (p := ⟨w.heap.size + 1 + 1, 0, none⟩) (by simp; omega) _, ?_⟩
          rw [cell_far _ _ _ _ (by simp; omega)]
          exact (hb.cell (p := ⟨w.heap.size, 2, none⟩) (lt_of_cell c2)).trans c2)
        have K3 := Lib.hid k3
        have H1 := Lib.hid (And.intro h1 (And.intro c0 (And.intro c1 (And.intro c2 (And.intro c3 (And.intro c4 f4))))))
        clear k3 h1 c0 c1 c2 c3 c4 f4
        go_wp2_with fail
        refine K3.out.mono ?_
        rintro e w2 ⟨rfl, h2, g2⟩
        go_wp2_with fail
        go_quiet (fail)
        go_wp2_with fail
        go_ret
        exact ⟨rfl, below_drewN h2 _⟩
      | true =>
        rw [Bool.true_and]
        have hpw : p.1 < w.heap.size := lt_of_cell HP0.out
        go_enter Tryd.func9, Tryd.ntmps9
        go_wp2_with (go_at_call 18; refine K1.out.mono ?_; rintro e w1 ⟨rfl, h1, c0, c1, c2, c3, c4, f4⟩)
        refine (HKK.out.1 w1 h1).out.mono ?_
        rintro e w2 ⟨rfl, rfl⟩
        have k3 : Calls Tryd.prog 18 #[v, .iface 52 (.pointer (some ⟨w.heap.size + 1 + 1, 0, none⟩))] w1 (fun e w' => e = .returned (.bool true) ∧ Below w.heap.size w w' ∧ w'.cell? ⟨w.heap.size, 2, none⟩ = some (.bool true) ∧ w'.cell? ⟨w.heap.size, 1, none⟩ = some (.int .i64 at_) ∧ w'.cell? ⟨w.heap.size + 1 + 1, 0, none⟩ = some (.pointer (some ⟨p.1, 0, none⟩)) ∧ w'.cell? ⟨p.1, 0, none⟩ = some (.int .i64 p.2)) := (HKK.out.2 w1 h1 c4 f4).out.mono (by
          rintro e w' ⟨he, w3, hb, rfl⟩
          refine ⟨he, (h1.trans (hb.mono h1.size)).setCell (p := ⟨w.heap.size + 1 + 1, 0, none⟩) (by simp; omega) _, ?_, ?_, ?_, ?_⟩
          · rw [cell_far _ _ _ _ (by simp; omega)]
            exact (hb.cell (p := ⟨w.heap.size, 2, none⟩) (lt_of_cell c2)).trans c2
          · rw [cell_far _ _ _ _ (by simp; omega)]
            exact (hb.cell (p := ⟨w.heap.size, 1, none⟩) (lt_of_cell c1)).trans c1
          · exact World.cell?_setCell_same' _ _ _ (by rw [hb.cell (p := ⟨w.heap.size + 1 + 1, 0, none⟩) (lt_of_cell c4), c4]; rfl)
          · rw [cell_far _ _ _ _ (by simp; omega), hb.cell (p := ⟨p.1, 0, none⟩) (by have := h1.size; simp; omega), h1.cell (p := ⟨p.1, 0, none⟩) (by simp; omega)]
            exact HP0.out)
        have K3 := Lib.hid k3
        have H1 := Lib.hid (And.intro h1 (And.intro c0 (And.intro c1 (And.intro c2 (And.intro c3 (And.intro c4 f4))))))
        clear k3 h1 c0 c1 c2 c3 c4 f4 hpw
        go_wp2_with fail
        refine K3.out.mono ?_
        rintro e w2 ⟨rfl, h2, g2, g1, g4, g5⟩
        go_wp2_with fail
        go_quiet (fail)
        go_wp2_with fail
        go_ret
        exact ⟨rfl, below_drewN h2 _⟩
  · have hnc : (n == code) = false := by simp [hn]
    have hne : (n != code) = true := by simp [bne, hnc]
    have ha : isFail n fs code at_ placed = false := by simp [isFail, hnc]
    rw [ha]
    clear hn ha
    go_enter Tryd.func9, Tryd.ntmps9
    go_wp2_with (go_at_call 18; refine K1.out.mono ?_; rintro e w1 ⟨rfl, h1, c0, c1, c2, c3, c4, f4⟩)
    go_ret
    exact ⟨rfl, h1⟩
end Go.Proofs.YtiggfoghogecjaaDoor
