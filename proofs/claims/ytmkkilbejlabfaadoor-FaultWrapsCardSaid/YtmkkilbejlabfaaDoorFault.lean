/-
  Wrap, outermost, inner, circular of package fault. Conditions: the error is a chain; errors.errorType holds the handle of the type error.
-/
import Derived.Test.YtmkkilbejlabfaaDoorAs
import Derived.Test.YtmkkilbejlabfaaDoorList
namespace Go.Proofs.YtmkkilbejlabfaaDoor
open Go.RowKit Go.Extern.Stop Go.Stop Go.Extern

theorem Handle.later {w w' : World} {B : Nat} (hb : Below B w w') (hB : w.heap.size ≤ B) (h : Handle w) : Handle w' := by
  have hlt : 0 < w.heap.size := lt_of_cell h
  exact (hb.cell (p := ⟨0, 0, none⟩) (by show (0 : Nat) < B; omega)).trans h

theorem ret_val {a b : Value} (h : a = b) : Ending.returned a = .returned b := by rw [h]

theorem wrap_nil (at_ : Value) (w : World) : Calls Tryd.prog 7 #[at_, .nilIface] w fun e w' => e = .returned .nilIface ∧ w = w' := by
  go_enter Tryd.func7, Tryd.ntmps7
  go_wp2
  go_ret
  exact ⟨rfl, rfl⟩
/-- Wrap of an error: a new fault in a block of its own. -/
theorem wrap_some (at_ : Int) (T : TypeId) (x : Value) (w : World) : Calls Tryd.prog 7 #[.int .i64 at_, .iface T x] w fun e w' =>
    e = .returned (.iface 44 (.pointer (some ⟨w.heap.size, 0, none⟩))) ∧ w.alloc (.cells #[.int .i64 at_, .iface T x] 46) = w' := by
  go_enter Tryd.func7, Tryd.ntmps7
  go_wp2
  go_ret
  exact ⟨rfl, rfl⟩
/-- A fault around a chain is a chain. -/
theorem Chain.wrapped {w : World} {d : Nat} {v : Value} {fs : List (Nat × Int)} {c : Option Int} (h : Chain w d v fs c) (at_ : Int) : Chain (w.alloc (.cells #[.int .i64 at_, v] 46)) (d + 1) (.iface 44 (.pointer (some ⟨w.heap.size, 0, none⟩))) ((w.heap.size, at_) :: fs) c :=
  .fault d w.heap.size at_ v fs c (by show (w.heap.push _)[w.heap.size]? = _; exact Array.getElem?_push_size) (by simp) (by simp) (h.later ((Below.refl w.heap.size w).alloc (Nat.le_refl _) _) (Nat.le_refl _))

theorem outermost_nil (w : World) : Calls Tryd.prog 18 #[.nilIface] w fun e w' => e = .returned (.pointer none) ∧ Below w.heap.size w w' := by
  go_enter Tryd.func18, Tryd.ntmps18
  go_wp2_with (go_at_call 19; refine (As_nil _ _).mono ?_; rintro e w' ⟨rfl, rfl⟩)
  go_ret
  exact ⟨rfl, (Below.refl _ _).alloc (Nat.le_refl _) _⟩

theorem outermost {d : Nat} {v : Value} {fs : List (Nat × Int)} {c : Option Int} {w : World} (hc : Chain w d v fs c) (hg : Handle w) : Calls Tryd.prog 18 #[v] w fun e w' => e = .returned (fp fs) ∧ Below w.heap.size w w' := by
  have hb : Below w.heap.size w (w.alloc (.cells #[.pointer none] 44)) := (Below.refl _ _).alloc (Nat.le_refl _) _
  have hk := As_F (hc.later hb (Nat.le_refl _)) (hg.later hb (Nat.le_refl _)) (t := ⟨w.heap.size, 0, none⟩) (old := .pointer none) (by simp) (by simp)
  have HB := Lib.hid hb
  cases fs with
  | nil =>
    have hk1 : Calls Tryd.prog 19 #[v, .iface 50 (.pointer (some ⟨w.heap.size, 0, none⟩))] (w.alloc (.cells #[.pointer none] 44)) (fun e w' => e = .returned (.bool false) ∧ Below (w.alloc (.cells #[.pointer none] 44)).heap.size (w.alloc (.cells #[.pointer none] 44)) w') := hk
    have HK := Lib.hid hk1
    clear hk hk1 hb hc hg
    go_enter Tryd.func18, Tryd.ntmps18
    go_wp2_with (go_at_call 19; refine HK.out.mono ?_; rintro e w' ⟨rfl, hp⟩)
    go_ret
    exact ⟨rfl, HB.out.trans (hp.mono HB.out.size)⟩
  | cons p fs =>
    have hk1 : Calls Tryd.prog 19 #[v, .iface 50 (.pointer (some ⟨w.heap.size, 0, none⟩))] (w.alloc (.cells #[.pointer none] 44)) (fun e w' => e = .returned (.bool true) ∧ Below w.heap.size w w' ∧ w'.cell? ⟨w.heap.size, 0, none⟩ = some (.pointer (some ⟨p.1, 0, none⟩))) := hk.mono (by
      rintro e w' ⟨he, w1, hb1, hw⟩
      refine ⟨he, ?_, ?_⟩
      · rw [hw]; exact (HB.out.trans (hb1.mono HB.out.size)).setCell (Nat.le_refl _) _
      · rw [hw]; exact World.cell?_setCell_same' _ _ _ (by rw [hb1.cell (p := ⟨w.heap.size, 0, none⟩) (by simp)]; simp))
    have HK := Lib.hid hk1
    clear hk hk1 hb hc hg
    go_enter Tryd.func18, Tryd.ntmps18
    go_wp2_with (go_at_call 19; refine HK.out.mono ?_; rintro e w' ⟨rfl, hp, hq⟩)
    go_ret
    exact ⟨rfl, hp⟩

theorem inner_nil (w : World) : Calls Tryd.prog 28 #[.pointer none] w fun e w' => e = .returned (.pointer none) ∧ Below w.heap.size w w' := by
  go_enter Tryd.func28, Tryd.ntmps28
  go_wp2_with fail
  go_ret
  exact ⟨rfl, Below.refl _ _⟩
/-- inner: the next fault. -/
theorem inner {d : Nat} {v : Value} {fs : List (Nat × Int)} {c : Option Int} {w : World} (hc : Chain w d v fs c) (hg : Handle w) : Calls Tryd.prog 28 #[fp fs] w fun e w' => e = .returned (fp fs.tail) ∧ Below w.heap.size w w' := by
  cases fs with
  | nil => exact inner_nil w
  | cons p fs =>
    obtain ⟨d', v', hh, h0, h1, h⟩ := hc.next
    have hk := outermost h hg
    have HK := Lib.hid hk
    clear hk hc hg h h0 hh
    show Calls Tryd.prog 28 #[.pointer (some ⟨p.1, 0, none⟩)] w _
    go_enter Tryd.func28, Tryd.ntmps28
    go_wp2_with (go_at_call 18; refine HK.out.mono ?_; rintro e w' ⟨rfl, hp⟩)
    go_ret
    exact ⟨rfl, hp⟩
end Go.Proofs.YtmkkilbejlabfaaDoor
