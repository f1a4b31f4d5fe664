/-
  errors.Join of one error. Conditions: the slice holds one error that is not nil.
-/
import Derived.Test.YtmkkilbejlabfaaDoorError
namespace Go.Proofs.YtmkkilbejlabfaaDoor
open Go.RowKit Go.Extern.Stop Go.Stop Go.Extern

/-- The memory of errors.Join ahead of its append: the room, the joinError, the one error. -/
def joinWorld (w : World) (v : Value) : World := ((w.alloc (.cells #[.nilIface] 25)).alloc (.cells #[.slice (some ⟨w.heap.size, 0, none⟩) 0 1] 59)).alloc (.cells #[v] 25)
theorem joinWorld_room (w : World) (v : Value) : (joinWorld w v).cell? ⟨w.heap.size, 0, none⟩ = some .nilIface := by
  unfold joinWorld
  rw [World.cell?_alloc_past _ _ _ (by simp; omega), World.cell?_alloc_past _ _ _ (by simp), World.cell?_alloc_at _ _ _ _ rfl]
  rfl
theorem joinWorld_roomF (w : World) (v : Value) : (joinWorld w v).frozen? ⟨w.heap.size, 0, none⟩ = false := by
  unfold joinWorld
  rw [World.frozen?_alloc_past _ _ _ (by simp; omega), World.frozen?_alloc_past _ _ _ (by simp), World.frozen?_alloc_at _ _ _ _ rfl]
theorem joinWorld_join (w : World) (v : Value) : (joinWorld w v).cell? ⟨w.heap.size + 1, 0, none⟩ = some (.slice (some ⟨w.heap.size, 0, none⟩) 0 1) := by
  unfold joinWorld
  rw [World.cell?_alloc_past _ _ _ (by simp), World.cell?_alloc_at _ _ _ _ (by simp)]
  rfl
theorem joinWorld_joinF (w : World) (v : Value) : (joinWorld w v).frozen? ⟨w.heap.size + 1, 0, none⟩ = false := by
  unfold joinWorld
  rw [World.frozen?_alloc_past _ _ _ (by simp), World.frozen?_alloc_at _ _ _ _ (by simp)]
theorem joinWorld_one (w : World) (v : Value) : (joinWorld w v).cell? ⟨w.heap.size + 1 + 1, 0, none⟩ = some v := by
  unfold joinWorld
  rw [World.cell?_alloc_at _ _ _ _ (by simp)]
  rfl

set_option maxRecDepth 100000 in
set_option maxHeartbeats 1000000 in
theorem join_one {w : World} {b : Nat} {T : TypeId} {x : Value} {cap : Nat} (hc : w.cell? ⟨b, 0, none⟩ = some (.iface T x)) : Calls Tryd.prog 15 #[.slice (some ⟨b, 0, none⟩) 1 cap] w fun e w' =>
    ∃ j s c, e = .returned (.iface 57 (.pointer (some ⟨j, 0, none⟩))) ∧ Below w.heap.size w w' ∧ w'.cell? ⟨j, 0, none⟩ = some (.slice (some ⟨s, 0, none⟩) 1 c) ∧ w'.cell? ⟨s, 0, none⟩ = some (.iface T x) := by
  have hmk : ∀ w, (Instr.makeSlice 56 (.int .i64 0) (.int .i64 1)).run Tryd.prog w = .ok (.slice (some ⟨w.heap.size, 0, none⟩) 0 1) (w.alloc (.cells #[.nilIface] 25)) := fun _ => by kernel_rfl
  have hbl := lt_of_cell hc
  have hc2 : ((w.alloc (.cells #[.nilIface] 25)).alloc (.cells #[.slice (some ⟨w.heap.size, 0, none⟩) 0 1] 59)).cell? ⟨b, 0, none⟩ = some (.iface T x) := by
    rw [World.cell?_alloc_past _ _ _ (by simp; omega), World.cell?_alloc_past _ _ _ hbl]; exact hc
  have J := Lib.hid (And.intro (joinWorld_room w (.iface T x)) (And.intro (joinWorld_roomF w (.iface T x)) (And.intro (joinWorld_join w (.iface T x)) (And.intro (joinWorld_joinF w (.iface T x)) (joinWorld_one w (.iface T x))))))
  have HB : Hid (Below w.heap.size w (joinWorld w (.iface T x))) := (((Below.refl _ _).alloc (Nat.le_refl _) _).alloc (by simp) _).alloc (by simp; omega) _
  obtain ⟨i0, hi⟩ := Option.isSome_iff_exists.1 (show (Tryd.prog.info? 25).isSome = true by kernel_rfl)
  have hz0 : (Tryd.prog.info? 25).map (·.zero) = some (some .nilIface) := by kernel_rfl
  have hz1 : (Tryd.prog.info? 25).map (·.size) = some 1 := by kernel_rfl
  have hz2 : (Tryd.prog.info? 25).map (·.bytes) = some 16 := by kernel_rfl
  rw [hi] at hz0 hz1 hz2
  replace hz0 : i0.zero = some .nilIface := by simpa using hz0
  replace hz1 : i0.size = 1 := by simpa using hz1
  replace hz2 : i0.bytes = 16 := by simpa using hz2
  have HI := Lib.hid (And.intro hi (And.intro hz0 (And.intro hz1 hz2)))
  have hS : ∀ a : Addr, a.block ≠ w.heap.size → ((joinWorld w (.iface T x)).setCells w.heap.size 0 [.iface T x]).cell? a = (joinWorld w (.iface T x)).cell? a := fun a ha => cell_far _ _ _ _ (fun e => ha e.symm)
  have s1 : ((joinWorld w (.iface T x)).setCells w.heap.size 0 [.iface T x]).cell? ⟨w.heap.size + 1, 0, none⟩ = some (.slice (some ⟨w.heap.size, 0, none⟩) 0 1) := by
    rw [hS _ (by simp)]; exact J.out.2.2.1
  have s2 : ((joinWorld w (.iface T x)).setCells w.heap.size 0 [.iface T x]).frozen? ⟨w.heap.size + 1, 0, none⟩ = false := by
    rw [World.frozen?_setCells]; exact J.out.2.2.2.1
  have s3 : ((joinWorld w (.iface T x)).setCells w.heap.size 0 [.iface T x]).cell? ⟨w.heap.size, 0, none⟩ = some (.iface T x) :=
    World.cell?_setCell_same' _ _ _ (by rw [J.out.1]; rfl)
  have HE : Hid (Below w.heap.size w (((joinWorld w (.iface T x)).setCells w.heap.size 0 [.iface T x]).setCell ⟨w.heap.size + 1, 0, none⟩ (.slice (some ⟨w.heap.size, 0, none⟩) 1 1))
      ∧ (((joinWorld w (.iface T x)).setCells w.heap.size 0 [.iface T x]).setCell ⟨w.heap.size + 1, 0, none⟩ (.slice (some ⟨w.heap.size, 0, none⟩) 1 1)).cell? ⟨w.heap.size + 1, 0, none⟩ = some (.slice (some ⟨w.heap.size, 0, none⟩) 1 1)
      ∧ (((joinWorld w (.iface T x)).setCells w.heap.size 0 [.iface T x]).setCell ⟨w.heap.size + 1, 0, none⟩ (.slice (some ⟨w.heap.size, 0, none⟩) 1 1)).cell? ⟨w.heap.size, 0, none⟩ = some (.iface T x)) :=
    ⟨(Below.setCell (p := ⟨w.heap.size, 0, none⟩) HB.out (Nat.le_refl _) _).setCell (p := ⟨w.heap.size + 1, 0, none⟩) (by simp) _, World.cell?_setCell_same' _ _ _ (by rw [s1]; rfl), by rw [cell_far _ _ _ _ (by simp)]; exact s3⟩
  clear hbl hi hz0 hz1 hz2 hS s3
  unfold joinWorld at J HE s1 s2
  clear HB
  go_enter Tryd.func15, Tryd.ntmps15
  go_wp2_with fail
  refine wp_loop_rounds 2 ?_
  rw [rounds_succ]
  go_wp2_with fail
  rw [rounds_succ]
  go_wp2_with fail
  refine wp_loop_rounds 2 ?_
  rw [rounds_succ]
  go_wp2_with (at_builtin; refine wpList_append_arg _ rfl (.tmp 38) (.tmp 40) 56 rfl 25 i0 .nilIface 1 16 Tryd.underlying56 HI.out.1 HI.out.2.1 HI.out.2.2.1 HI.out.2.2.2 rfl (by decide) w.heap.size 0 0 1 [] rfl rfl ?olds ⟨w.heap.size + 1 + 1, 0, none⟩ 1 1 [.iface T x] rfl rfl ?c1 ?c2 ?spare ?b1 ?b2 ?room ?grow)
  case olds => intro j u hj; simp at hj
  case c1 =>
    intro j u hj
    rcases j with _ | j
    · obtain rfl : Value.iface T x = u := by simpa using hj
      exact J.out.2.2.2.2
    · simp at hj
  case c2 => intro u hu; obtain rfl : u = .iface T x := by simpa using hu
             rfl
  case spare =>
    intro _ j hj
    obtain rfl : j = 0 := by simpa using hj
    exact ⟨by rw [J.out.1]; rfl, J.out.2.1⟩
  case b1 => decide
  case b2 => decide
  rw [rounds_succ]
  go_wp2_with fail
  go_ret
  exact ⟨_, _, _, rfl, HE.out.1, HE.out.2.1, HE.out.2.2⟩
end Go.Proofs.YtmkkilbejlabfaaDoor
