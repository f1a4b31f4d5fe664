/-
  Package expiry's Queue: Push, Move, Cancel, Next, At. Conditions: those of the queue.
-/
import Derived.Test.YtdpmjbhkmfjpfaaDoorQp17
namespace Go.Proofs.YtdpmjbhkmfjpfaaDoor
open Go.RowKit
set_option maxRecDepth 100000

/-- What is told of an id; nothing, where nothing is wrong. -/
def resV (id n : Int) : Value := if n = 0 then .nilIface else refV id n
def pushL (cap : Nat) (l : List En) (id t : Int) : List En := if pushE cap l id = 0 then l ++ [⟨id, t⟩] else l
def hasC (l : List En) (id : Int) : Int := if hasV l id then 0 else 20
theorem cancel_no {l : List En} {id : Int} (h : hasV l id = false) : cancelE l id = l := List.filter_eq_self.2 fun e he => by
  have : ¬ e.id = id := fun h2 => by rw [hasV_iff.2 ⟨e, he, h2⟩] at h; cases h
  simpa using this
theorem move_no {l : List En} {id t : Int} (h : hasV l id = false) : moveE l id t = l := by
  unfold moveE
  conv => rhs; rw [← List.map_id l]
  refine List.map_congr_left fun e he => if_neg fun h2 => ?_
  rw [hasV_iff.2 ⟨e, he, h2⟩] at h
  cases h
theorem has_cancel (l : List En) (id : Int) : hasV (cancelE l id) id = false := by
  refine Bool.eq_false_iff.2 fun h => ?_
  obtain ⟨e, he, h2⟩ := hasV_iff.1 h
  have := (List.mem_filter.1 he).2
  simp [h2] at this
theorem move_perm_put {l : List En} (hu : uniq l) {k : Nat} {e : En} (hk : l[k]? = some e) (t : Int) : (cancelE l e.id ++ [(⟨e.id, t⟩ : En)]).Perm (moveE l e.id t) := by
  rw [cancelE_idx hu hk, moveE_idx t hu hk, List.set_eq_take_append_cons_drop, if_pos (List.getElem?_eq_some_iff.1 hk).1, List.append_assoc]
  exact List.Perm.append_left _ (List.perm_append_comm (l₁ := l.drop (k + 1)) (l₂ := [(⟨e.id, t⟩ : En)]))
theorem sorted_cancel {l : List En} (h : SortedE l) (id : Int) : SortedE (cancelE l id) := sorted_sub h List.filter_sublist
theorem Qu.flat {w w' : World} {g : Nat} {ob : Option Nat} {room : Int} {xs : List En} (h : Qu w g ob room xs) (hb : Below w.heap.size w w') : Qu w' g ob room xs ∧ Mv g ob w w' ∧ Fresh ob ob w.heap.size := ⟨h.later hb (Nat.le_refl _), Mv.of_below hb, Fresh.refl _ _⟩
/-- One by one. -/
theorem mv_step {w w1 w2 : World} {g : Nat} {ob ob' : Option Nat} (h1 : Below w.heap.size w w1) (h2 : Mv g ob w1 w2) (h3 : Fresh ob ob' w1.heap.size) : Mv g ob w w2 ∧ Fresh ob ob' w.heap.size :=
  ⟨(Mv.of_below h1).trans h2 (.inl rfl), by
    rcases h3 with h | ⟨b, h, hb⟩
    · exact .inl h
    · exact .inr ⟨b, h, Nat.le_trans h1.size hb⟩⟩
--<< push
theorem push_nil (id t : Int) (w : World) : Calls Tryd.prog 16 #[.pointer none, .int .i64 id, .int .u64 t] w fun e w' => e = .returned (refV id 2) ∧ Below w.heap.size w w' := by
  have K := Lib.hid (find_nil id w)
  have K2 := Lib.hid fun w1 => Is_any (x := 20) (ref_faults w1 id 2)
  unfold refV at K K2 ⊢
  go_enter Tryd.func16, Tryd.ntmps16
  go_wp2_with fail
  refine K.out.mono ?_
  rintro e w1 ⟨rfl, hb⟩
  have HB := Lib.hid hb
  clear hb
  go_wp2_with fail
  refine (K2.out _).mono ?_
  rintro e w2 ⟨rfl, hb⟩
  have HB2 := Lib.hid (HB.out.trans (hb.mono HB.out.size))
  clear hb
  go_wp2_with fail
  go_ret
  exact ⟨rfl, HB2.out⟩
set_option maxHeartbeats 2000000 in
theorem push_any {w : World} {g : Nat} {ob : Option Nat} {cap : Nat} {xs : List En} (h : Qu w g ob cap xs) (hbig : xs.length ≤ 100000) (id t : Int) : Calls Tryd.prog 16 #[.pointer (some ⟨g, 0, none⟩), .int .i64 id, .int .u64 t] w fun e w' =>
    e = .returned (resV id (pushE cap xs id)) ∧ ∃ ob' xs', Qu w' g ob' cap xs' ∧ xs'.Perm (pushL cap xs id t) ∧ Mv g ob w w' ∧ Fresh ob ob' w.heap.size := by
  have K := Lib.hid (find_any h id)
  have HH := Lib.hid h
  clear h
  go_enter Tryd.func16, Tryd.ntmps16
  go_wp2_with fail
  refine K.out.mono ?_
  rintro e w1 ⟨⟨hv, rfl⟩ | ⟨k, x, hv, hk, hx, rfl⟩, hb⟩
  · have HV := Lib.hid hv
    have HB := Lib.hid hb
    have K2 := Lib.hid fun w1 => Is_any (x := 20) (ref_faults w1 id 20)
    clear hv hb
    unfold refV at K2 ⊢
    go_wp2_with fail
    refine (K2.out _).mono ?_
    rintro e w2 ⟨rfl, hb⟩
    have HB2 := Lib.hid (HB.out.trans (hb.mono HB.out.size))
    clear hb HB
    go_wp2_with fail
    obtain ⟨A, c, q0, q1, hs, _⟩ := (HH.out.later HB2.out (Nat.le_refl _)).open_
    have hlg : g < w2.heap.size := lt_of_cell' q0
    have c0 : ∀ w', Below w2.heap.size w2 w' → w'.cell? ⟨g, 0, none⟩ = some (.int .i64 (cap : Int)) := fun w' hb => (hb.cell (p := ⟨g, 0, none⟩) hlg).trans q0
    have c1 : ∀ w', Below w2.heap.size w2 w' → w'.cell? ⟨g, 1, none⟩ = some (.slice A xs.length c) := fun w' hb => (hb.cell (p := ⟨g, 1, none⟩) hlg).trans q1
    clear q0 q1 hlg hs
    have hS : Below w2.heap.size w2 w2.drew := below_of_drew (Below.refl _ _)
    refine rg_begin (fun w' => Below w2.heap.size w2 w') 11 (by kernel_rfl) rfl ?_
    refine rg_take 0 (v := ?rv1) rfl (by kernel_rfl) (by kernel_rfl) (by kernel_rfl) (fun _ _ _ h => h) (by rfl) hS (fun w2 hw2 => ?ry1) ?rr1
    case ry1 => ((try dsimp only at hw2); go_simp <;> with_reducible rfl)
    simp only [Act.put, List.setIfInBounds_toArray, List.set_cons_zero, List.set_cons_succ]
    refine rg_take 5 (v := ?rv2) rfl (by kernel_rfl) (by kernel_rfl) (by kernel_rfl) (fun _ _ _ h => h) (by rfl) hS (fun w2 hw2 => ?ry2) ?rr2
    case ry2 => ((try dsimp only at hw2); go_simp <;> with_reducible rfl)
    simp only [Act.put, List.setIfInBounds_toArray, List.set_cons_zero, List.set_cons_succ]
    refine rg_take 1 (v := ?rv3) rfl (by kernel_rfl) (by kernel_rfl) (by kernel_rfl) (fun _ _ _ h => h) (by rfl) hS (fun w2 hw2 => ?ry3) ?rr3
    case ry3 => ((try dsimp only at hw2); go_simp <;> with_reducible rfl)
    simp only [Act.put, List.setIfInBounds_toArray, List.set_cons_zero, List.set_cons_succ]
    refine rg_take 6 (v := ?rv4) rfl (by kernel_rfl) (by kernel_rfl) (by kernel_rfl) (fun _ _ _ h => h) (by rfl) hS (fun w2 hw2 => ?ry4) ?rr4
    case ry4 => ((try dsimp only at hw2); go_simp <;> with_reducible rfl)
    simp only [Act.put, List.setIfInBounds_toArray, List.set_cons_zero, List.set_cons_succ]
    refine rg_take 2 (v := ?rv5) rfl (by kernel_rfl) (by kernel_rfl) (by kernel_rfl) (fun _ _ _ h => h) (by rfl) hS (fun w2 hw2 => ?ry5) ?rr5
    case ry5 => ((try dsimp only at hw2); go_simp <;> with_reducible rfl)
    simp only [Act.put, List.setIfInBounds_toArray, List.set_cons_zero, List.set_cons_succ]
    refine rg_take 7 (v := ?rv6) rfl (by kernel_rfl) (by kernel_rfl) (by kernel_rfl) (fun _ _ _ h => h) (by rfl) hS (fun w2 hw2 => ?ry6) ?rr6
    case ry6 => ((try dsimp only at hw2); go_simp <;> with_reducible rfl)
    simp only [Act.put, List.setIfInBounds_toArray, List.set_cons_zero, List.set_cons_succ]
    refine rg_take 3 (v := ?rv7) rfl (by kernel_rfl) (by kernel_rfl) (by kernel_rfl) (fun _ _ _ h => h) (by rfl) hS (fun w2 hw2 => ?ry7) ?rr7
    case ry7 => ((try dsimp only at hw2); go_simp <;> with_reducible rfl)
    simp only [Act.put, List.setIfInBounds_toArray, List.set_cons_zero, List.set_cons_succ]
    refine rg_take 8 (v := ?rv8) rfl (by kernel_rfl) (by kernel_rfl) (by kernel_rfl) (fun _ _ _ h => h) (by rfl) hS (fun w2 hw2 => ?ry8) ?rr8
    case ry8 => ((try dsimp only at hw2); go_simp <;> with_reducible rfl)
    simp only [Act.put, List.setIfInBounds_toArray, List.set_cons_zero, List.set_cons_succ]
    refine rg_take 4 (v := ?rv9) rfl (by kernel_rfl) (by kernel_rfl) (by kernel_rfl) (fun _ _ _ h => h) (by rfl) hS (fun w2 hw2 => ?ry9) ?rr9
    case ry9 => ((try dsimp only at hw2); go_simp <;> with_reducible rfl)
    simp only [Act.put, List.setIfInBounds_toArray, List.set_cons_zero, List.set_cons_succ]
    refine rg_take 9 (v := ?rv10) rfl (by kernel_rfl) (by kernel_rfl) (by kernel_rfl) (fun _ _ _ h => h) (by rfl) hS (fun w2 hw2 => ?ry10) ?rr10
    case ry10 => ((try dsimp only at hw2); go_simp <;> with_reducible rfl)
    simp only [Act.put, List.setIfInBounds_toArray, List.set_cons_zero, List.set_cons_succ]
    refine rg_take 10 (v := ?rv11) rfl (by kernel_rfl) (by kernel_rfl) (by kernel_rfl) (fun _ _ _ h => h) (by rfl) hS (fun w2 hw2 => ?ry11) ?rr11
    case ry11 => ((try dsimp only at hw2); go_simp <;> with_reducible rfl)
    simp only [Act.put, List.setIfInBounds_toArray, List.set_cons_zero, List.set_cons_succ]
    refine rg_done (by kernel_rfl) ?_
    have HB3 := Lib.hid (HB2.out.trans (hS.mono HB2.out.size))
    clear hS c0 c1
    have hpe : pushE cap xs id = if cap ≤ xs.length then 18 else 0 := by unfold pushE; rw [HV.out]; rfl
    by_cases hfull : cap ≤ xs.length
    · rw [if_pos hfull] at hpe
      have HP := Lib.hid hpe
      clear hpe
      have hf2 : (cap : Int) ≤ (xs.length : Int) := by omega
      go_wp2_with fail
      go_ret
      refine ⟨by rw [HP.out]; rfl, ob, xs, HH.out.later HB3.out (Nat.le_refl _), ?_, Mv.of_below HB3.out, Fresh.refl _ _⟩
      unfold pushL
      rw [if_neg (by rw [HP.out]; decide)]
    · rw [if_neg hfull] at hpe
      have HP := Lib.hid hpe
      clear hpe
      have hf2 : ¬ ((cap : Int) ≤ (xs.length : Int)) := by omega
      have K3 := Lib.hid (put_any (HH.out.later HB3.out (Nat.le_refl _)) ⟨id, t⟩ HV.out hbig)
      go_wp2_with (refine K3.out.mono ?_; rintro e w3 ⟨rfl, ob', xs', hq, hp, hm, hf⟩)
      have HQ := Lib.hid (And.intro hq (And.intro hp (mv_step HB3.out hm hf)))
      clear hq hp hm hf
      go_wp2_with fail
      go_ret
      refine ⟨by rw [HP.out]; rfl, ob', xs', HQ.out.1, ?_, HQ.out.2.2.1, HQ.out.2.2.2⟩
      unfold pushL
      rw [if_pos HP.out]
      exact HQ.out.2.1
  · have HV := Lib.hid hv
    have HB := Lib.hid hb
    clear hv hb hk hx
    have hpe : Hid (pushE cap xs id = 19) := by unfold pushE; rw [HV.out]; rfl
    go_wp2_with fail
    go_ret
    refine ⟨by rw [hpe.out]; rfl, ob, xs, HH.out.later HB.out (Nat.le_refl _), ?_, Mv.of_below HB.out, Fresh.refl _ _⟩
    unfold pushL
    rw [if_neg (by rw [hpe.out]; decide)]
-->>
--<< cancel
theorem cancel_nil (id : Int) (w : World) : Calls Tryd.prog 11 #[.pointer none, .int .i64 id] w fun e w' => e = .returned (refV id 2) ∧ Below w.heap.size w w' := by
  have K := Lib.hid (find_nil id w)
  unfold refV at K ⊢
  go_enter Tryd.func11, Tryd.ntmps11
  go_wp2_with fail
  refine K.out.mono ?_
  rintro e w1 ⟨rfl, hb⟩
  have HB := Lib.hid hb
  clear hb
  go_wp2_with fail
  go_ret
  exact ⟨rfl, HB.out⟩
/-- Delete of one, as the queue's own row. -/
theorem delete_one {w w1 : World} {g : Nat} {ob : Option Nat} {room : Int} {xs : List En} (h : Qu w g ob room xs) (hb : Below w.heap.size w w1) {k : Nat} {x : En} (hk : xs[k]? = some x) :
    ∃ b c, (k : Int) < 9223372036854775807 ∧ w1.cell? ⟨g, 1, none⟩ = some (.slice (some ⟨b, 0, none⟩) xs.length c) ∧ Calls Tryd.prog 26 #[.slice (some ⟨b, 0, none⟩) xs.length c, .int .i64 k, .int .i64 ((k : Int) + 1)] w1 fun e w' => ∃ n', e = .returned (.slice (some ⟨b, 0, none⟩) n' c) ∧
      (∃ v, w'.cell? ⟨g, 1, none⟩ = some v) ∧ w'.frozen? ⟨g, 1, none⟩ = false ∧ Qu (w'.setCell ⟨g, 1, none⟩ (.slice (some ⟨b, 0, none⟩) n' c)) g ob room (cancelE xs x.id) ∧ Mv g ob w (w'.setCell ⟨g, 1, none⟩ (.slice (some ⟨b, 0, none⟩) n' c)) := by
  have hq := h.later hb (Nat.le_refl _)
  obtain ⟨A, c, q0, q1, hs, hEO, hob, hA, hg⟩ := hq.open_
  have hlt : k < xs.length := (List.getElem?_eq_some_iff.1 hk).1
  rcases hEO.cases with ⟨e, rfl⟩ | ⟨b, c', cur, e, hb2, hc, hm, hsz, ht⟩
  · simp at hlt
  · cases e
    refine ⟨b, c, by unfold maxLen at hm; omega, q1, ?_⟩
    have K := delete_any hb2 hc hm hsz ht (i := k) (j := k + 1) (by omega) hlt
    rw [show ((k + 1 : Nat) : Int) = (k : Int) + 1 by omega] at K
    refine K.mono ?_
    rintro e w' ⟨rfl, ho, hgr⟩
    have hob' : ob = some b := hob.symm
    subst hob'
    obtain ⟨v, hv⟩ := h.g1 hb hgr
    have hcc : xs.take k ++ xs.drop (k + 1) = cancelE xs x.id := (cancelE_idx h.uniq hk).symm
    rw [hcc] at ho
    obtain ⟨s1, s2, s3⟩ := h.stored hb hgr ho (.inl rfl) (sorted_cancel h.sorted _) (h.uniq.cancel _)
    exact ⟨_, rfl, ⟨v, cell_of_row w' g 1 _ _ _ hv⟩, by simp [World.frozen?, hv], s1, s2⟩
set_option maxHeartbeats 2000000 in
theorem cancel_any {w : World} {g : Nat} {ob : Option Nat} {room : Int} {xs : List En} (h : Qu w g ob room xs) (id : Int) : Calls Tryd.prog 11 #[.pointer (some ⟨g, 0, none⟩), .int .i64 id] w fun e w' =>
    e = .returned (resV id (hasC xs id)) ∧ Qu w' g ob room (cancelE xs id) ∧ Mv g ob w w' := by
  have K := Lib.hid (find_any h id)
  have HH := Lib.hid h
  clear h
  go_enter Tryd.func11, Tryd.ntmps11
  go_wp2_with fail
  refine K.out.mono ?_
  rintro e w1 ⟨⟨hv, rfl⟩ | ⟨k, x, hv, hk, hx, rfl⟩, hb⟩
  · have HV := Lib.hid hv
    have HB := Lib.hid hb
    clear hv hb
    unfold refV
    go_wp2_with fail
    go_ret
    refine ⟨by unfold hasC; rw [HV.out]; rfl, ?_, Mv.of_below HB.out⟩
    rw [cancel_no HV.out]
    exact HH.out.later HB.out (Nat.le_refl _)
  · subst hx
    obtain ⟨b, c, hkm, q1, kd⟩ := delete_one HH.out hb hk
    have KD := Lib.hid kd
    have HV := Lib.hid hv
    clear kd hv hk hb
    go_wp2_with (refine KD.out.mono ?_; rintro e w2 ⟨n', rfl, ⟨vq, e1⟩, e2, h3, h4⟩)
    have HQ := Lib.hid (And.intro h3 h4)
    clear h3 h4
    go_wp2_with fail
    go_ret
    exact ⟨by unfold hasC; rw [HV.out]; rfl, HQ.out.1, HQ.out.2⟩
-->>
--<< move
theorem move_nil (id t : Int) (w : World) : Calls Tryd.prog 9 #[.pointer none, .int .i64 id, .int .u64 t] w fun e w' => e = .returned (refV id 2) ∧ Below w.heap.size w w' := by
  have K := Lib.hid (find_nil id w)
  unfold refV at K ⊢
  go_enter Tryd.func9, Tryd.ntmps9
  go_wp2_with fail
  refine K.out.mono ?_
  rintro e w1 ⟨rfl, hb⟩
  have HB := Lib.hid hb
  clear hb
  go_wp2_with fail
  go_ret
  exact ⟨rfl, HB.out⟩
set_option maxHeartbeats 2000000 in
theorem move_any {w : World} {g : Nat} {ob : Option Nat} {room : Int} {xs : List En} (h : Qu w g ob room xs) (hbig : xs.length ≤ 100000) (id t : Int) : Calls Tryd.prog 9 #[.pointer (some ⟨g, 0, none⟩), .int .i64 id, .int .u64 t] w fun e w' =>
    e = .returned (resV id (hasC xs id)) ∧ ∃ ob' xs', Qu w' g ob' room xs' ∧ xs'.Perm (moveE xs id t) ∧ Mv g ob w w' ∧ Fresh ob ob' w.heap.size := by
  have K := Lib.hid (find_any h id)
  have HH := Lib.hid h
  clear h
  go_enter Tryd.func9, Tryd.ntmps9
  go_wp2_with fail
  refine K.out.mono ?_
  rintro e w1 ⟨⟨hv, rfl⟩ | ⟨k, x, hv, hk, hx, rfl⟩, hb⟩
  · have HV := Lib.hid hv
    have HB := Lib.hid hb
    clear hv hb
    unfold refV
    go_wp2_with fail
    go_ret
    refine ⟨by unfold hasC; rw [HV.out]; rfl, ob, xs, HH.out.later HB.out (Nat.le_refl _), ?_, Mv.of_below HB.out, Fresh.refl _ _⟩
    rw [move_no HV.out]
  · subst hx
    obtain ⟨b, c, hkm, q1, kd⟩ := delete_one HH.out hb hk
    have KD := Lib.hid kd
    have HV := Lib.hid (And.intro hv hk)
    clear kd hv hk hb
    go_wp2_with (refine KD.out.mono ?_; rintro e w2 ⟨n', rfl, ⟨vq, e1⟩, e2, h3, h4⟩)
    have HQ := Lib.hid (And.intro h3 h4)
    have K3 := Lib.hid (put_any h3 ⟨x.id, t⟩ (has_cancel xs x.id) (Nat.le_trans (List.length_filter_le _ _) hbig))
    clear h3 h4
    go_wp2_with (refine K3.out.mono ?_; rintro e w3 ⟨rfl, ob', xs', hq, hp, hm, hf⟩)
    have HR := Lib.hid (And.intro hq (And.intro hp (And.intro (HQ.out.2.trans hm (.inl rfl)) (Fresh.trans (Fresh.refl ob w.heap.size) hf HQ.out.2.size))))
    clear hq hp hm hf
    go_wp2_with fail
    go_ret
    exact ⟨by unfold hasC; rw [HV.out.1]; rfl, ob', xs', HR.out.1, HR.out.2.1.trans (move_perm_put HH.out.uniq HV.out.2 t), HR.out.2.2.1, HR.out.2.2.2⟩
-->>
end Go.Proofs.YtdpmjbhkmfjpfaaDoor
