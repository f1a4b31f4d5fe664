/-
  ExpiryDue: all go in order, by when they end, then by id, each once; what ends later stays. Conditions: those of the slice.
-/
import Derived.Test.YtdpmjbhkmfjpfaaTw17
import Derived.IntWalk
namespace Go.Proofs.Ytdpmjbhkmfjpfaa
open Go.RowKit
set_option maxRecDepth 100000

/-- A queue of the call's own. -/
def Sq (cap : Nat) (w0 w : World) (g : Nat) (L : List En) : Prop := ∃ ob, QL w g ob cap L ∧ Lo w0.heap.size g ob ∧ Below w0.heap.size w0 w
theorem Sq.later {cap : Nat} {w0 w w' : World} {g : Nat} {L : List En} (h : Sq cap w0 w g L) (hb : Below w.heap.size w w') : Sq cap w0 w' g L := by
  obtain ⟨ob, h1, h2, h3⟩ := h
  exact ⟨ob, h1.later hb (Nat.le_refl _), h2, h3.trans (hb.mono h3.size)⟩
theorem Sq.below {cap : Nat} {w0 w : World} {g : Nat} {L : List En} (h : Sq cap w0 w g L) : Below w0.heap.size w0 w := by
  obtain ⟨_, _, _, h3⟩ := h
  exact h3
theorem Sq.push {cap : Nat} {w0 w : World} {g : Nat} {L : List En} (h : Sq cap w0 w g L) (hbig : L.length ≤ 100000) {id t : Int} (hp : pushE cap L id = 0) :
    Calls Try.prog 7 #[.pointer (some ⟨g, 0, none⟩), .int .i64 id, .int .u64 t] w fun e w' => e = .returned .nilIface ∧ Sq cap w0 w' g (pushL cap L id t) := by
  obtain ⟨ob, h1, h2, h3⟩ := h
  exact (push_L h1 hbig id t).mono fun _ w' ⟨e1, ob', e2, e3, e4⟩ => ⟨by rw [e1, hp]; rfl, ob', e2, h2.fresh e4 h3.size, e3.lo h3 h2 h3.size⟩
theorem Sq.due {cap : Nat} {w0 w : World} {g : Nat} {L : List En} (h : Sq cap w0 w g L) (hbig : L.length ≤ 100000) (now : Int) :
    Calls Try.prog 8 #[.pointer (some ⟨g, 0, none⟩), .int .u64 now] w fun e w' => ∃ v, e = .returned v ∧ Sq cap w0 w' g (dueL now L).2 ∧ EO w' v (dueL now L).1 := by
  obtain ⟨ob, h1, h2, h3⟩ := h
  exact (due_L h1 (by omega) now).mono fun _ w' ⟨v, e1, e2, e3, _, e5⟩ => ⟨v, e1, ⟨ob, e2, h2, e5.lo h3 h2 h3.size⟩, e3⟩
theorem Sq.len {cap : Nat} {w0 w : World} {g : Nat} {L : List En} (h : Sq cap w0 w g L) : Calls Try.prog 9 #[.pointer (some ⟨g, 0, none⟩)] w fun e w' => e = .returned (.int .i64 L.length) ∧ w = w' := by
  obtain ⟨ob, h1, _⟩ := h
  exact len_L h1
/-- How many of those that were pushed so far end by then. -/
def cntL (l : List Int) (now : Int) (k : Nat) : Nat := ((ents l k).filter fun e => decide (e.at_ ≤ now)).length
theorem cntL_succ (l : List Int) (now : Int) (k : Nat) : cntL l now (k + 1) = if l.getD k 0 ≤ now then cntL l now k + 1 else cntL l now k := by
  unfold cntL
  rw [ents_succ, List.filter_append, List.length_append]
  by_cases h : l.getD k 0 ≤ now
  · rw [if_pos h, List.filter_cons_of_pos (by simpa using h)]; rfl
  · rw [if_neg h, List.filter_cons_of_neg (by simpa using h)]; rfl
theorem cntL_le (l : List Int) (now : Int) (k : Nat) : cntL l now k ≤ k := by
  unfold cntL
  have := List.length_filter_le (fun e : En => decide (e.at_ ≤ now)) (ents l k)
  rw [ents_length] at this
  exact this
theorem filter_two {α : Type} (p : α → Bool) : ∀ (l : List α), (l.filter p).length + (l.filter fun e => !p e).length = l.length
  | [] => rfl
  | a :: l => by
    have ih := filter_two p l
    cases h : p a with
    | true => rw [List.filter_cons_of_pos h, List.filter_cons_of_neg (by simp [h]), List.length_cons, List.length_cons]; omega
    | false => rw [List.filter_cons_of_neg (by simp [h]), List.filter_cons_of_pos (by simp [h]), List.length_cons, List.length_cons]; omega
theorem due_lens (l : List Int) (now : Int) (k : Nat) : (dueL now (ents l k)).1.length = cntL l now k ∧ (dueL now (ents l k)).2.length = k - cntL l now k := by
  obtain ⟨h1, h2, _⟩ := dueL_spec now (ents l k)
  refine ⟨h2.length_eq, ?_⟩
  rw [h1]
  have h3 := filter_two (fun e : En => decide (e.at_ ≤ now)) (ents l k)
  rw [ents_length] at h3
  have h4 : (ents l k).filter (fun e => decide (now < e.at_)) = (ents l k).filter (fun e => !decide (e.at_ ≤ now)) := by
    congr 1
    funext e
    by_cases h : e.at_ ≤ now
    · rw [decide_eq_true h, decide_eq_false (by omega)]; rfl
    · rw [decide_eq_false h, decide_eq_true (by omega)]; rfl
  rw [h4]
  unfold cntL
  omega
theorem ents_uniq (l : List Int) : ∀ k, uniq (ents l k)
  | 0 => List.Pairwise.nil
  | k + 1 => by
    rw [ents_succ]
    exact (ents_uniq l k).push (ents_has (Nat.le_refl k))
--<< walk
set_option maxHeartbeats 4000000 in
theorem expiryDue {A : Option Addr} {n c : Nat} {l : List Int} {w : World} (hu : Us w A n c l) (now : Int) : Calls Try.prog 3 #[.slice A n c, .int .u64 now] w fun e w' => e = .returned (.bool true) ∧ Below w.heap.size w w' := by
  have hcap := hu.cap
  have hmax := hu.max
  unfold maxLen at hmax
  have K1 := Lib.hid (new_L 1000 w)
  rw [show heldV 1000 = 1000 by decide] at K1
  have K3 := Lib.hid fun w1 => awake17 w1
  have HU := Lib.hid hu
  clear hu
  by_cases hn200 : 200 < n
  · have h2 : (200 : Int) < (n : Int) := by omega
    go_enter Try.func3, Try.ntmps3
    go_wp2_with (refine (K3.out w).mono ?_; rintro e w1 ⟨rfl, hb⟩)
    go_ret
    exact ⟨rfl, hb⟩
  · have h2 : ¬ ((200 : Int) < (n : Int)) := by omega
    go_enter Try.func3, Try.ntmps3
    go_wp2_with fail
    refine K1.out.mono ?_
    rintro e w1 ⟨rfl, h1, b1⟩
    have hSq : Sq 1000 w w1 w.heap.size [] := ⟨none, h1, ⟨Nat.le_refl _, fun b hb => by cases hb⟩, b1⟩
    obtain ⟨g, hg⟩ : ∃ g, g = w.heap.size := ⟨_, rfl⟩
    rw [← hg] at hSq ⊢
    have HS := Lib.hid hSq
    clear hSq h1 b1 hg K1
    go_wp2_with fail
    refine (K3.out w1).mono ?_
    rintro e w3 ⟨rfl, b3⟩
    have HS3 := Lib.hid (HS.out.later b3)
    clear b3 K3 HS
    go_wp2_with fail
    go_loopw [6, 7] (fun d i wr => ∃ k : Nat, k ≤ n ∧ d = .int .i64 (cntL l now k) ∧ i = .int .i64 k ∧ Sq 1000 w wr g (ents l k)) (fun _ i _ => n - (intOf i).toNat)
    case atStart => exact ⟨0, Nat.zero_le _, rfl, rfl, HS3.out⟩
    case round =>
      obtain ⟨k, hk, rfl, rfl, hst⟩ := hrel
      have HS := Lib.hid hst
      clear hst HS3
      by_cases hkn : k < n
      · obtain ⟨b, off, rfl, r1⟩ := (HU.out.later HS.out.below (Nat.le_refl _)).here k hkn
        have hpe := ents_push (l := l) (k := k) (cap := 1000) (by omega)
        have hlen := ents_length l k
        have KP := Lib.hid (HS.out.push (by omega) (t := l.getD k 0) hpe.1)
        rw [hpe.2] at KP
        have hct := cntL_succ l now k
        have hcl := cntL_le l now k
        have HX : Hid (∀ w1, Below w.heap.size w w1 → w1.cell? ⟨b, off + k, none⟩ = some (.int .u64 (l.getD k 0))) := fun w1 hb1 => by
          obtain ⟨b', off', e, r2⟩ := (HU.out.later hb1 (Nat.le_refl _)).here k hkn
          cases e
          exact r2
        obtain ⟨t, ht⟩ : ∃ t, t = l.getD k 0 := ⟨_, rfl⟩
        obtain ⟨ct, hctt⟩ : ∃ ct, ct = cntL l now k := ⟨_, rfl⟩
        rw [← ht, ← hctt] at hct
        rw [← ht] at r1 KP HX
        rw [← hctt] at hcl ⊢
        have HT := Lib.hid hct
        clear hpe hlen ht hct hctt
        go_wp2_with fail
        refine KP.out.mono ?_
        rintro e w4 ⟨rfl, s4⟩
        have H4 := Lib.hid s4
        have r1 := HX.out w4 s4.below
        clear s4
        by_cases hle : t ≤ now
        · rw [if_pos hle] at HT
          go_wp2_with fail
          refine ⟨⟨k + 1, hkn, by rw [HT.out]; go_num, by go_num, H4.out⟩, by simp [intOf]; omega⟩
        · rw [if_neg hle] at HT
          go_wp2_with fail
          refine ⟨⟨k + 1, hkn, by rw [HT.out], by go_num, H4.out⟩, by simp [intOf]; omega⟩
      · obtain rfl : k = n := by omega
        clear hkn
        obtain ⟨dl1, dl2⟩ := due_lens l now k
        have hcl := cntL_le l now k
        have KD := Lib.hid (HS.out.due (by rw [ents_length]; omega) now)
        have hD2 : Hid ((dueL now (ents l k)).1.Pairwise En.lt ∧ ∀ e ∈ (dueL now (ents l k)).1, e ∈ ents l k ∧ e.at_ ≤ now) := ⟨dueL_strict (ents_uniq l k), fun e he => by
          have h := (dueL_spec now (ents l k)).2.1.mem_iff.1 he
          exact ⟨(List.mem_filter.1 h).1, by simpa using (List.mem_filter.1 h).2⟩⟩
        have hL2 : Hid (∀ e ∈ (dueL now (ents l k)).2, e.at_ ≤ 18446744073709551615) := fun e he => by
          rw [(dueL_spec now (ents l k)).1] at he
          obtain ⟨i, _, rfl⟩ := ents_mem (List.mem_filter.1 he).1
          exact (HU.out.range_at i).2
        obtain ⟨d, hd⟩ : ∃ d, d = cntL l now k := ⟨_, rfl⟩
        obtain ⟨r, hr⟩ : ∃ r, r = k - d := ⟨_, rfl⟩
        obtain ⟨D, hD⟩ : ∃ D, D = (dueL now (ents l k)).1 := ⟨_, rfl⟩
        obtain ⟨L2, hL⟩ : ∃ L2, L2 = (dueL now (ents l k)).2 := ⟨_, rfl⟩
        rw [← hd] at dl1 dl2 hcl ⊢
        rw [← hD] at dl1 KD hD2
        rw [← hL] at dl2 KD hL2
        rw [← hr] at dl2
        have hsub : (k : Int) - (d : Int) = (r : Int) := by omega
        have HDL := Lib.hid (And.intro dl1 dl2)
        clear dl1 dl2 hd hD hL hr
        have hki : ¬ ((k : Int) < (k : Int)) := by omega
        go_wp2_with fail
        refine KD.out.mono ?_
        rintro e w4 ⟨v, rfl, s4, hEO⟩
        obtain ⟨AD, cD, rfl, hsD, hA⟩ := EnS.of_own hEO
        rw [HDL.out.1] at hsD ⊢
        have KL := Lib.hid s4.len
        rw [HDL.out.2] at KL
        have H4 := Lib.hid (And.intro s4 hsD)
        clear s4 hEO hsD hA
        go_wp2_with (refine KL.out.mono ?_; rintro e w5 ⟨rfl, rfl⟩)
        go_loopw [9] (fun i wr => ∃ j : Nat, j ≤ d ∧ i = .int .i64 j ∧ Below w4.heap.size w4 wr) (fun i _ => d - (intOf i).toNat)
        case atStart => exact ⟨0, Nat.zero_le _, rfl, Below.refl _ _⟩
        case round =>
          obtain ⟨j, hj, rfl, hbr⟩ := hrel
          have HBr := Lib.hid hbr
          by_cases hjd : j < d
          · obtain ⟨e, he⟩ : ∃ e, D[j]? = some e := ⟨D[j]'(by rw [HDL.out.1]; exact hjd), List.getElem?_eq_getElem _⟩
            have hem := hD2.out.2 e (List.mem_of_getElem? he)
            obtain ⟨⟨m, hm, rfl⟩, hle⟩ : (∃ m : Nat, m < k ∧ e = ⟨(m : Int), l.getD m 0⟩) ∧ e.at_ ≤ now := ⟨ents_mem hem.1, hem.2⟩
            dsimp only at hle
            obtain ⟨b, off, rfl, q1, q2⟩ := (H4.out.2.later hbr (Nat.le_refl _)).here j _ he
            have hbw : Below w.heap.size w wr := H4.out.1.below.trans (hbr.mono H4.out.1.below.size)
            obtain ⟨ub, uoff, rfl, q3⟩ := (HU.out.later hbw (Nat.le_refl _)).here m hm
            obtain ⟨t, ht⟩ : ∃ t, t = l.getD m 0 := ⟨_, rfl⟩
            rw [← ht] at he hle q2 q3
            dsimp only at q1 q2
            clear hem hbw ht
            obtain ⟨W, hW⟩ : ∃ W, wr.alloc (.cells #[.int .i64 (m : Int), .int .u64 t] 34) = W := ⟨_, rfl⟩
            have bW : Below wr.heap.size wr W := hW ▸ (Below.refl _ _).alloc (Nat.le_refl _) _
            have hbx : W.rangeAt wr.heap.size 0 [.int .i64 (m : Int), .int .u64 t] := hW ▸ range2_new wr _ _ _
            have lW : wr.heap.size < W.heap.size := by rw [← hW]; simp
            obtain ⟨Z, hZ⟩ : ∃ Z, Z = wr.heap.size := ⟨_, rfl⟩
            have hWB := Lib.hid (hbr.trans (bW.mono hbr.size))
            have lq1 := Nat.lt_of_lt_of_le (lt_of_cell' q2) bW.size
            have lq3 := Nat.lt_of_lt_of_le (lt_of_cell' q3) bW.size
            have x0 : ∀ w', Below W.heap.size W w' → w'.cell? ⟨Z, 0, none⟩ = some (.int .i64 (m : Int)) := fun w' hb => by rw [hZ]; exact (hb.cell (p := ⟨_, 0, none⟩) lW).trans (hbx 0 _ rfl)
            have x1 : ∀ w', Below W.heap.size W w' → w'.cell? ⟨Z, 1, none⟩ = some (.int .u64 t) := fun w' hb => by rw [hZ]; exact (hb.cell (p := ⟨_, 1, none⟩) lW).trans (hbx 1 _ rfl)
            have x3 : ∀ w', Below W.heap.size W w' → w'.cell? ⟨ub, uoff + m, none⟩ = some (.int .u64 t) := fun w' hb => (hb.cell (p := ⟨ub, uoff + m, none⟩) lq3).trans ((bW.cell (p := ⟨ub, uoff + m, none⟩) (lt_of_cell' q3)).trans q3)
            have hWe := Lib.hid hW
            have hjd2 : (j : Int) < (d : Int) := by omega
            have z2b : (m : Int) < (k : Int) := by omega
            have z3 : (t != t) = false := by simp
            rw [hZ] at x0 x1
            clear hZ hbx lW bW hW
            by_cases hj0 : j = 0
            · subst hj0
              clear lq1 lq3
              simp only [Nat.zero_mul, Nat.add_zero] at q1 q2
              go_wp2_with (rw [hWe.out])
              have z1 : ¬ ((m : Int) < 0) := by omega
              have z2 : ¬ ((k : Int) ≤ (m : Int)) := by omega
              have z4 : ¬ (now < t) := by omega
              have hS : Below W.heap.size W W.drew := below_of_drew (Below.refl _ _)
              refine rg_begin (fun w' => Below W.heap.size W w') 63 (by kernel_rfl) rfl ?_
              refine rg_take 0 (v := ?rv1) rfl (by kernel_rfl) (by kernel_rfl) (by kernel_rfl) (fun _ _ _ h => h) (by rfl) hS (fun w2 hw2 => ?ry1) ?rr1
              case ry1 => ((try dsimp only at hw2); go_simp <;> with_reducible rfl)
              simp only [Act.put, List.setIfInBounds_toArray, List.set_cons_zero, List.set_cons_succ]
              refine rg_take 1 (v := ?rv2) rfl (by kernel_rfl) (by kernel_rfl) (by kernel_rfl) (fun _ _ _ h => h) (by rfl) hS (fun w2 hw2 => ?ry2) ?rr2
              case ry2 => ((try dsimp only at hw2); go_simp <;> with_reducible rfl)
              simp only [Act.put, List.setIfInBounds_toArray, List.set_cons_zero, List.set_cons_succ]
              refine rg_take 2 (v := ?rv3) rfl (by kernel_rfl) (by kernel_rfl) (by kernel_rfl) (fun _ _ _ h => h) (by rfl) hS (fun w2 hw2 => ?ry3) ?rr3
              case ry3 => ((try dsimp only at hw2); go_simp <;> with_reducible rfl)
              simp only [Act.put, List.setIfInBounds_toArray, List.set_cons_zero, List.set_cons_succ]
              refine rg_take 3 (v := ?rv4) rfl (by kernel_rfl) (by kernel_rfl) (by kernel_rfl) (fun _ _ _ h => h) (by rfl) hS (fun w2 hw2 => ?ry4) ?rr4
              case ry4 => ((try dsimp only at hw2); go_simp <;> with_reducible rfl)
              simp only [Act.put, List.setIfInBounds_toArray, List.set_cons_zero, List.set_cons_succ]
              refine rg_take 4 (v := ?rv5) rfl (by kernel_rfl) (by kernel_rfl) (by kernel_rfl) (fun _ _ _ h => h) (by rfl) hS (fun w2 hw2 => ?ry5) ?rr5
              case ry5 => ((try dsimp only at hw2); go_simp <;> with_reducible rfl)
              simp only [Act.put, List.setIfInBounds_toArray, List.set_cons_zero, List.set_cons_succ]
              refine rg_take 5 (v := ?rv6) rfl (by kernel_rfl) (by kernel_rfl) (by kernel_rfl) (fun _ _ _ h => h) (by rfl) hS (fun w2 hw2 => ?ry6) ?rr6
              case ry6 => ((try dsimp only at hw2); go_simp <;> with_reducible rfl)
              simp only [Act.put, List.setIfInBounds_toArray, List.set_cons_zero, List.set_cons_succ]
              refine rg_take 6 (v := ?rv7) rfl (by kernel_rfl) (by kernel_rfl) (by kernel_rfl) (fun _ _ _ h => h) (by rfl) hS (fun w2 hw2 => ?ry7) ?rr7
              case ry7 => ((try dsimp only at hw2); go_simp <;> with_reducible rfl)
              simp only [Act.put, List.setIfInBounds_toArray, List.set_cons_zero, List.set_cons_succ]
              refine rg_take 7 (v := ?rv8) rfl (by kernel_rfl) (by kernel_rfl) (by kernel_rfl) (fun _ _ _ h => h) (by rfl) hS (fun w2 hw2 => ?ry8) ?rr8
              case ry8 => ((try dsimp only at hw2); go_simp <;> with_reducible rfl)
              simp only [Act.put, List.setIfInBounds_toArray, List.set_cons_zero, List.set_cons_succ]
              refine rg_take 8 (v := ?rv9) rfl (by kernel_rfl) (by kernel_rfl) (by kernel_rfl) (fun _ _ _ h => h) (by rfl) hS (fun w2 hw2 => ?ry9) ?rr9
              case ry9 => ((try dsimp only at hw2); go_simp <;> with_reducible rfl)
              simp only [Act.put, List.setIfInBounds_toArray, List.set_cons_zero, List.set_cons_succ]
              refine rg_take 9 (v := ?rv10) rfl (by kernel_rfl) (by kernel_rfl) (by kernel_rfl) (fun _ _ _ h => h) (by rfl) hS (fun w2 hw2 => ?ry10) ?rr10
              case ry10 => ((try dsimp only at hw2); go_simp <;> with_reducible rfl)
              simp only [Act.put, List.setIfInBounds_toArray, List.set_cons_zero, List.set_cons_succ]
              refine rg_take 10 (v := ?rv11) rfl (by kernel_rfl) (by kernel_rfl) (by kernel_rfl) (fun _ _ _ h => h) (by rfl) hS (fun w2 hw2 => ?ry11) ?rr11
              case ry11 => ((try dsimp only at hw2); go_simp <;> with_reducible rfl)
              simp only [Act.put, List.setIfInBounds_toArray, List.set_cons_zero, List.set_cons_succ]
              refine rg_take 11 (v := ?rv12) rfl (by kernel_rfl) (by kernel_rfl) (by kernel_rfl) (fun _ _ _ h => h) (by rfl) hS (fun w2 hw2 => ?ry12) ?rr12
              case ry12 => ((try dsimp only at hw2); go_simp <;> with_reducible rfl)
              simp only [Act.put, List.setIfInBounds_toArray, List.set_cons_zero, List.set_cons_succ]
              refine rg_take 12 (v := ?rv13) rfl (by kernel_rfl) (by kernel_rfl) (by kernel_rfl) (fun _ _ _ h => h) (by rfl) hS (fun w2 hw2 => ?ry13) ?rr13
              case ry13 => ((try dsimp only at hw2); go_simp <;> with_reducible rfl)
              simp only [Act.put, List.setIfInBounds_toArray, List.set_cons_zero, List.set_cons_succ]
              refine rg_take 13 (v := ?rv14) rfl (by kernel_rfl) (by kernel_rfl) (by kernel_rfl) (fun _ _ _ h => h) (by rfl) hS (fun w2 hw2 => ?ry14) ?rr14
              case ry14 => ((try dsimp only at hw2); go_simp <;> with_reducible rfl)
              simp only [Act.put, List.setIfInBounds_toArray, List.set_cons_zero, List.set_cons_succ]
              refine rg_take 14 (v := ?rv15) rfl (by kernel_rfl) (by kernel_rfl) (by kernel_rfl) (fun _ _ _ h => h) (by rfl) hS (fun w2 hw2 => ?ry15) ?rr15
              case ry15 => ((try dsimp only at hw2); go_simp <;> with_reducible rfl)
              simp only [Act.put, List.setIfInBounds_toArray, List.set_cons_zero, List.set_cons_succ]
              refine rg_take 15 (v := ?rv16) rfl (by kernel_rfl) (by kernel_rfl) (by kernel_rfl) (fun _ _ _ h => h) (by rfl) hS (fun w2 hw2 => ?ry16) ?rr16
              case ry16 => ((try dsimp only at hw2); go_simp <;> with_reducible rfl)
              simp only [Act.put, List.setIfInBounds_toArray, List.set_cons_zero, List.set_cons_succ]
              refine rg_take 16 (v := ?rv17) rfl (by kernel_rfl) (by kernel_rfl) (by kernel_rfl) (fun _ _ _ h => h) (by rfl) hS (fun w2 hw2 => ?ry17) ?rr17
              case ry17 => ((try dsimp only at hw2); go_simp <;> with_reducible rfl)
              simp only [Act.put, List.setIfInBounds_toArray, List.set_cons_zero, List.set_cons_succ]
              refine rg_take 17 (v := ?rv18) rfl (by kernel_rfl) (by kernel_rfl) (by kernel_rfl) (fun _ _ _ h => h) (by rfl) hS (fun w2 hw2 => ?ry18) ?rr18
              case ry18 => ((try dsimp only at hw2); go_simp <;> with_reducible rfl)
              simp only [Act.put, List.setIfInBounds_toArray, List.set_cons_zero, List.set_cons_succ]
              refine rg_take 18 (v := ?rv19) rfl (by kernel_rfl) (by kernel_rfl) (by kernel_rfl) (fun _ _ _ h => h) (by rfl) hS (fun w2 hw2 => ?ry19) ?rr19
              case ry19 => ((try dsimp only at hw2); go_simp <;> with_reducible rfl)
              simp only [Act.put, List.setIfInBounds_toArray, List.set_cons_zero, List.set_cons_succ]
              refine rg_take 19 (v := ?rv20) rfl (by kernel_rfl) (by kernel_rfl) (by kernel_rfl) (fun _ _ _ h => h) (by rfl) hS (fun w2 hw2 => ?ry20) ?rr20
              case ry20 => ((try dsimp only at hw2); go_simp <;> with_reducible rfl)
              simp only [Act.put, List.setIfInBounds_toArray, List.set_cons_zero, List.set_cons_succ]
              refine rg_take 20 (v := ?rv21) rfl (by kernel_rfl) (by kernel_rfl) (by kernel_rfl) (fun _ _ _ h => h) (by rfl) hS (fun w2 hw2 => ?ry21) ?rr21
              case ry21 => ((try dsimp only at hw2); go_simp <;> with_reducible rfl)
              simp only [Act.put, List.setIfInBounds_toArray, List.set_cons_zero, List.set_cons_succ]
              refine rg_take 21 (v := ?rv22) rfl (by kernel_rfl) (by kernel_rfl) (by kernel_rfl) (fun _ _ _ h => h) (by rfl) hS (fun w2 hw2 => ?ry22) ?rr22
              case ry22 => ((try dsimp only at hw2); go_simp <;> with_reducible rfl)
              simp only [Act.put, List.setIfInBounds_toArray, List.set_cons_zero, List.set_cons_succ]
              refine rg_take 22 (v := ?rv23) rfl (by kernel_rfl) (by kernel_rfl) (by kernel_rfl) (fun _ _ _ h => h) (by rfl) hS (fun w2 hw2 => ?ry23) ?rr23
              case ry23 => ((try dsimp only at hw2); go_simp <;> with_reducible rfl)
              simp only [Act.put, List.setIfInBounds_toArray, List.set_cons_zero, List.set_cons_succ]
              refine rg_take 23 (v := ?rv24) rfl (by kernel_rfl) (by kernel_rfl) (by kernel_rfl) (fun _ _ _ h => h) (by rfl) hS (fun w2 hw2 => ?ry24) ?rr24
              case ry24 => ((try dsimp only at hw2); go_simp <;> with_reducible rfl)
              simp only [Act.put, List.setIfInBounds_toArray, List.set_cons_zero, List.set_cons_succ]
              refine rg_take 24 (v := ?rv25) rfl (by kernel_rfl) (by kernel_rfl) (by kernel_rfl) (fun _ _ _ h => h) (by rfl) hS (fun w2 hw2 => ?ry25) ?rr25
              case ry25 => ((try dsimp only at hw2); go_simp <;> with_reducible rfl)
              simp only [Act.put, List.setIfInBounds_toArray, List.set_cons_zero, List.set_cons_succ]
              refine rg_take 25 (v := ?rv26) rfl (by kernel_rfl) (by kernel_rfl) (by kernel_rfl) (fun _ _ _ h => h) (by rfl) hS (fun w2 hw2 => ?ry26) ?rr26
              case ry26 => ((try dsimp only at hw2); go_simp <;> with_reducible rfl)
              simp only [Act.put, List.setIfInBounds_toArray, List.set_cons_zero, List.set_cons_succ]
              refine rg_take 26 (v := ?rv27) rfl (by kernel_rfl) (by kernel_rfl) (by kernel_rfl) (fun _ _ _ h => h) (by rfl) hS (fun w2 hw2 => ?ry27) ?rr27
              case ry27 => ((try dsimp only at hw2); go_simp <;> with_reducible rfl)
              simp only [Act.put, List.setIfInBounds_toArray, List.set_cons_zero, List.set_cons_succ]
              refine rg_take 27 (v := ?rv28) rfl (by kernel_rfl) (by kernel_rfl) (by kernel_rfl) (fun _ _ _ h => h) (by rfl) hS (fun w2 hw2 => ?ry28) ?rr28
              case ry28 => ((try dsimp only at hw2); go_simp <;> with_reducible rfl)
              simp only [Act.put, List.setIfInBounds_toArray, List.set_cons_zero, List.set_cons_succ]
              refine rg_take 28 (v := ?rv29) rfl (by kernel_rfl) (by kernel_rfl) (by kernel_rfl) (fun _ _ _ h => h) (by rfl) hS (fun w2 hw2 => ?ry29) ?rr29
              case ry29 => ((try dsimp only at hw2); go_simp <;> with_reducible rfl)
              simp only [Act.put, List.setIfInBounds_toArray, List.set_cons_zero, List.set_cons_succ]
              refine rg_take 29 (v := ?rv30) rfl (by kernel_rfl) (by kernel_rfl) (by kernel_rfl) (fun _ _ _ h => h) (by rfl) hS (fun w2 hw2 => ?ry30) ?rr30
              case ry30 => ((try dsimp only at hw2); go_simp <;> with_reducible rfl)
              simp only [Act.put, List.setIfInBounds_toArray, List.set_cons_zero, List.set_cons_succ]
              refine rg_skip 30 rfl (by kernel_rfl) (by kernel_rfl) (by kernel_rfl) (fun _ _ _ h => h) (by rfl) hS ?_
              simp only [Act.put, List.setIfInBounds_toArray, List.set_cons_zero, List.set_cons_succ]
              refine rg_skip 31 rfl (by kernel_rfl) (by kernel_rfl) (by kernel_rfl) (fun _ _ _ h => h) (by rfl) hS ?_
              simp only [Act.put, List.setIfInBounds_toArray, List.set_cons_zero, List.set_cons_succ]
              refine rg_skip 32 rfl (by kernel_rfl) (by kernel_rfl) (by kernel_rfl) (fun _ _ _ h => h) (by rfl) hS ?_
              simp only [Act.put, List.setIfInBounds_toArray, List.set_cons_zero, List.set_cons_succ]
              refine rg_skip 33 rfl (by kernel_rfl) (by kernel_rfl) (by kernel_rfl) (fun _ _ _ h => h) (by rfl) hS ?_
              simp only [Act.put, List.setIfInBounds_toArray, List.set_cons_zero, List.set_cons_succ]
              refine rg_skip 34 rfl (by kernel_rfl) (by kernel_rfl) (by kernel_rfl) (fun _ _ _ h => h) (by rfl) hS ?_
              simp only [Act.put, List.setIfInBounds_toArray, List.set_cons_zero, List.set_cons_succ]
              refine rg_skip 35 rfl (by kernel_rfl) (by kernel_rfl) (by kernel_rfl) (fun _ _ _ h => h) (by rfl) hS ?_
              simp only [Act.put, List.setIfInBounds_toArray, List.set_cons_zero, List.set_cons_succ]
              refine rg_skip 36 rfl (by kernel_rfl) (by kernel_rfl) (by kernel_rfl) (fun _ _ _ h => h) (by rfl) hS ?_
              simp only [Act.put, List.setIfInBounds_toArray, List.set_cons_zero, List.set_cons_succ]
              refine rg_skip 37 rfl (by kernel_rfl) (by kernel_rfl) (by kernel_rfl) (fun _ _ _ h => h) (by rfl) hS ?_
              simp only [Act.put, List.setIfInBounds_toArray, List.set_cons_zero, List.set_cons_succ]
              refine rg_skip 38 rfl (by kernel_rfl) (by kernel_rfl) (by kernel_rfl) (fun _ _ _ h => h) (by rfl) hS ?_
              simp only [Act.put, List.setIfInBounds_toArray, List.set_cons_zero, List.set_cons_succ]
              refine rg_skip 39 rfl (by kernel_rfl) (by kernel_rfl) (by kernel_rfl) (fun _ _ _ h => h) (by rfl) hS ?_
              simp only [Act.put, List.setIfInBounds_toArray, List.set_cons_zero, List.set_cons_succ]
              refine rg_skip 40 rfl (by kernel_rfl) (by kernel_rfl) (by kernel_rfl) (fun _ _ _ h => h) (by rfl) hS ?_
              simp only [Act.put, List.setIfInBounds_toArray, List.set_cons_zero, List.set_cons_succ]
              refine rg_skip 41 rfl (by kernel_rfl) (by kernel_rfl) (by kernel_rfl) (fun _ _ _ h => h) (by rfl) hS ?_
              simp only [Act.put, List.setIfInBounds_toArray, List.set_cons_zero, List.set_cons_succ]
              refine rg_skip 42 rfl (by kernel_rfl) (by kernel_rfl) (by kernel_rfl) (fun _ _ _ h => h) (by rfl) hS ?_
              simp only [Act.put, List.setIfInBounds_toArray, List.set_cons_zero, List.set_cons_succ]
              refine rg_skip 43 rfl (by kernel_rfl) (by kernel_rfl) (by kernel_rfl) (fun _ _ _ h => h) (by rfl) hS ?_
              simp only [Act.put, List.setIfInBounds_toArray, List.set_cons_zero, List.set_cons_succ]
              refine rg_skip 44 rfl (by kernel_rfl) (by kernel_rfl) (by kernel_rfl) (fun _ _ _ h => h) (by rfl) hS ?_
              simp only [Act.put, List.setIfInBounds_toArray, List.set_cons_zero, List.set_cons_succ]
              refine rg_skip 45 rfl (by kernel_rfl) (by kernel_rfl) (by kernel_rfl) (fun _ _ _ h => h) (by rfl) hS ?_
              simp only [Act.put, List.setIfInBounds_toArray, List.set_cons_zero, List.set_cons_succ]
              refine rg_skip 46 rfl (by kernel_rfl) (by kernel_rfl) (by kernel_rfl) (fun _ _ _ h => h) (by rfl) hS ?_
              simp only [Act.put, List.setIfInBounds_toArray, List.set_cons_zero, List.set_cons_succ]
              refine rg_skip 47 rfl (by kernel_rfl) (by kernel_rfl) (by kernel_rfl) (fun _ _ _ h => h) (by rfl) hS ?_
              simp only [Act.put, List.setIfInBounds_toArray, List.set_cons_zero, List.set_cons_succ]
              refine rg_skip 48 rfl (by kernel_rfl) (by kernel_rfl) (by kernel_rfl) (fun _ _ _ h => h) (by rfl) hS ?_
              simp only [Act.put, List.setIfInBounds_toArray, List.set_cons_zero, List.set_cons_succ]
              refine rg_skip 49 rfl (by kernel_rfl) (by kernel_rfl) (by kernel_rfl) (fun _ _ _ h => h) (by rfl) hS ?_
              simp only [Act.put, List.setIfInBounds_toArray, List.set_cons_zero, List.set_cons_succ]
              refine rg_skip 50 rfl (by kernel_rfl) (by kernel_rfl) (by kernel_rfl) (fun _ _ _ h => h) (by rfl) hS ?_
              simp only [Act.put, List.setIfInBounds_toArray, List.set_cons_zero, List.set_cons_succ]
              refine rg_skip 51 rfl (by kernel_rfl) (by kernel_rfl) (by kernel_rfl) (fun _ _ _ h => h) (by rfl) hS ?_
              simp only [Act.put, List.setIfInBounds_toArray, List.set_cons_zero, List.set_cons_succ]
              refine rg_skip 52 rfl (by kernel_rfl) (by kernel_rfl) (by kernel_rfl) (fun _ _ _ h => h) (by rfl) hS ?_
              simp only [Act.put, List.setIfInBounds_toArray, List.set_cons_zero, List.set_cons_succ]
              refine rg_skip 53 rfl (by kernel_rfl) (by kernel_rfl) (by kernel_rfl) (fun _ _ _ h => h) (by rfl) hS ?_
              simp only [Act.put, List.setIfInBounds_toArray, List.set_cons_zero, List.set_cons_succ]
              refine rg_skip 54 rfl (by kernel_rfl) (by kernel_rfl) (by kernel_rfl) (fun _ _ _ h => h) (by rfl) hS ?_
              simp only [Act.put, List.setIfInBounds_toArray, List.set_cons_zero, List.set_cons_succ]
              refine rg_skip 55 rfl (by kernel_rfl) (by kernel_rfl) (by kernel_rfl) (fun _ _ _ h => h) (by rfl) hS ?_
              simp only [Act.put, List.setIfInBounds_toArray, List.set_cons_zero, List.set_cons_succ]
              refine rg_skip 56 rfl (by kernel_rfl) (by kernel_rfl) (by kernel_rfl) (fun _ _ _ h => h) (by rfl) hS ?_
              simp only [Act.put, List.setIfInBounds_toArray, List.set_cons_zero, List.set_cons_succ]
              refine rg_skip 57 rfl (by kernel_rfl) (by kernel_rfl) (by kernel_rfl) (fun _ _ _ h => h) (by rfl) hS ?_
              simp only [Act.put, List.setIfInBounds_toArray, List.set_cons_zero, List.set_cons_succ]
              refine rg_skip 58 rfl (by kernel_rfl) (by kernel_rfl) (by kernel_rfl) (fun _ _ _ h => h) (by rfl) hS ?_
              simp only [Act.put, List.setIfInBounds_toArray, List.set_cons_zero, List.set_cons_succ]
              refine rg_skip 59 rfl (by kernel_rfl) (by kernel_rfl) (by kernel_rfl) (fun _ _ _ h => h) (by rfl) hS ?_
              simp only [Act.put, List.setIfInBounds_toArray, List.set_cons_zero, List.set_cons_succ]
              refine rg_skip 60 rfl (by kernel_rfl) (by kernel_rfl) (by kernel_rfl) (fun _ _ _ h => h) (by rfl) hS ?_
              simp only [Act.put, List.setIfInBounds_toArray, List.set_cons_zero, List.set_cons_succ]
              refine rg_take 61 (v := ?rv31) rfl (by kernel_rfl) (by kernel_rfl) (by kernel_rfl) (fun _ _ _ h => h) (by rfl) hS (fun w2 hw2 => ?ry31) ?rr31
              case ry31 => ((try dsimp only at hw2); go_simp <;> with_reducible rfl)
              simp only [Act.put, List.setIfInBounds_toArray, List.set_cons_zero, List.set_cons_succ]
              refine rg_take 62 (v := ?rv32) rfl (by kernel_rfl) (by kernel_rfl) (by kernel_rfl) (fun _ _ _ h => h) (by rfl) hS (fun w2 hw2 => ?ry32) ?rr32
              case ry32 => ((try dsimp only at hw2); go_simp <;> with_reducible rfl)
              simp only [Act.put, List.setIfInBounds_toArray, List.set_cons_zero, List.set_cons_succ]
              refine rg_done (by kernel_rfl) ?_
              have HB := Lib.hid (hWB.out.trans (hS.mono hWB.out.size))
              clear hS
              go_wp2_with fail
              exact ⟨⟨0 + 1, hjd, by go_num, HB.out⟩, by simp [intOf]; omega⟩
            · obtain ⟨p, hp⟩ : ∃ p, D[j - 1]? = some p := ⟨D[j - 1]'(by rw [HDL.out.1]; omega), List.getElem?_eq_getElem _⟩
              have hlt : En.lt p ⟨(m : Int), t⟩ := by
                obtain ⟨h1, e1⟩ := List.getElem?_eq_some_iff.1 hp
                obtain ⟨h2, e2⟩ := List.getElem?_eq_some_iff.1 he
                have h := List.pairwise_iff_getElem.1 hD2.out.1 (j - 1) j h1 h2 (by omega)
                rw [e1, e2] at h
                exact h
              obtain ⟨b', off', e2, p1, p2⟩ := (H4.out.2.later hbr (Nat.le_refl _)).here (j - 1) _ hp
              cases e2
              obtain ⟨pi, pt⟩ := p
              dsimp only at p1 p2
              have y1 : (j : Int) - 1 = ((j - 1 : Nat) : Int) := by omega
              have y2 : ((j - 1 : Nat) : Int) < (d : Int) := by omega
              obtain ⟨jp, hjp⟩ : ∃ jp, jp = j - 1 := ⟨_, rfl⟩
              rw [← hjp] at p1 p2 y1 y2
              have x4 : ∀ w', Below W.heap.size W w' → w'.cell? ⟨b, off + jp * 2, none⟩ = some (.int .i64 pi) := fun w' hb => (hb.cell (p := ⟨b, off + jp * 2, none⟩) lq1).trans ((hWe.out ▸ (((Below.refl _ wr).alloc (Nat.le_refl _) _).cell (p := ⟨b, off + jp * 2, none⟩) (lt_of_cell' p1))).trans p1)
              have x5 : ∀ w', Below W.heap.size W w' → w'.cell? ⟨b, off + jp * 2 + 1, none⟩ = some (.int .u64 pt) := fun w' hb => (hb.cell (p := ⟨b, off + jp * 2 + 1, none⟩) lq1).trans ((hWe.out ▸ (((Below.refl _ wr).alloc (Nat.le_refl _) _).cell (p := ⟨b, off + jp * 2 + 1, none⟩) (lt_of_cell' p2))).trans p2)
              unfold En.lt at hlt
              dsimp only at hlt
              clear lq1 lq3 hjp p1 p2
              rcases hlt with hlt | ⟨heq, hlt⟩
              · have y3o := hlt
                have y4 : (t == pt) = false := by simp; omega
                clear hlt
                go_wp2_with (rw [hWe.out])
                have z1 : ¬ ((m : Int) < 0) := by omega
                have z2 : ¬ ((k : Int) ≤ (m : Int)) := by omega
                have z4 : ¬ (now < t) := by omega
                have y3 : ¬ (t < pt) := by omega
                have y0 : (0 : Int) < (j : Int) := by omega
                have y0n : 0 < j := by omega
                have y6 : IntKind.i64.wrap (jp : Int) = (jp : Int) := by rw [IntKind.wrap_i64]; omega
                have hS : Below W.heap.size W W.drew := below_of_drew (Below.refl _ _)
                refine rg_begin (fun w' => Below W.heap.size W w') 63 (by kernel_rfl) rfl ?_
                refine rg_take 0 (v := ?rv33) rfl (by kernel_rfl) (by kernel_rfl) (by kernel_rfl) (fun _ _ _ h => h) (by rfl) hS (fun w2 hw2 => ?ry33) ?rr33
                case ry33 => ((try dsimp only at hw2); go_simp <;> with_reducible rfl)
                simp only [Act.put, List.setIfInBounds_toArray, List.set_cons_zero, List.set_cons_succ]
                refine rg_take 1 (v := ?rv34) rfl (by kernel_rfl) (by kernel_rfl) (by kernel_rfl) (fun _ _ _ h => h) (by rfl) hS (fun w2 hw2 => ?ry34) ?rr34
                case ry34 => ((try dsimp only at hw2); go_simp <;> with_reducible rfl)
                simp only [Act.put, List.setIfInBounds_toArray, List.set_cons_zero, List.set_cons_succ]
                refine rg_take 2 (v := ?rv35) rfl (by kernel_rfl) (by kernel_rfl) (by kernel_rfl) (fun _ _ _ h => h) (by rfl) hS (fun w2 hw2 => ?ry35) ?rr35
                case ry35 => ((try dsimp only at hw2); go_simp <;> with_reducible rfl)
                simp only [Act.put, List.setIfInBounds_toArray, List.set_cons_zero, List.set_cons_succ]
                refine rg_take 3 (v := ?rv36) rfl (by kernel_rfl) (by kernel_rfl) (by kernel_rfl) (fun _ _ _ h => h) (by rfl) hS (fun w2 hw2 => ?ry36) ?rr36
                case ry36 => ((try dsimp only at hw2); go_simp <;> with_reducible rfl)
                simp only [Act.put, List.setIfInBounds_toArray, List.set_cons_zero, List.set_cons_succ]
                refine rg_take 4 (v := ?rv37) rfl (by kernel_rfl) (by kernel_rfl) (by kernel_rfl) (fun _ _ _ h => h) (by rfl) hS (fun w2 hw2 => ?ry37) ?rr37
                case ry37 => ((try dsimp only at hw2); go_simp <;> with_reducible rfl)
                simp only [Act.put, List.setIfInBounds_toArray, List.set_cons_zero, List.set_cons_succ]
                refine rg_take 5 (v := ?rv38) rfl (by kernel_rfl) (by kernel_rfl) (by kernel_rfl) (fun _ _ _ h => h) (by rfl) hS (fun w2 hw2 => ?ry38) ?rr38
                case ry38 => ((try dsimp only at hw2); go_simp <;> with_reducible rfl)
                simp only [Act.put, List.setIfInBounds_toArray, List.set_cons_zero, List.set_cons_succ]
                refine rg_take 6 (v := ?rv39) rfl (by kernel_rfl) (by kernel_rfl) (by kernel_rfl) (fun _ _ _ h => h) (by rfl) hS (fun w2 hw2 => ?ry39) ?rr39
                case ry39 => ((try dsimp only at hw2); go_simp <;> with_reducible rfl)
                simp only [Act.put, List.setIfInBounds_toArray, List.set_cons_zero, List.set_cons_succ]
                refine rg_take 7 (v := ?rv40) rfl (by kernel_rfl) (by kernel_rfl) (by kernel_rfl) (fun _ _ _ h => h) (by rfl) hS (fun w2 hw2 => ?ry40) ?rr40
                case ry40 => ((try dsimp only at hw2); go_simp <;> with_reducible rfl)
                simp only [Act.put, List.setIfInBounds_toArray, List.set_cons_zero, List.set_cons_succ]
                refine rg_take 8 (v := ?rv41) rfl (by kernel_rfl) (by kernel_rfl) (by kernel_rfl) (fun _ _ _ h => h) (by rfl) hS (fun w2 hw2 => ?ry41) ?rr41
                case ry41 => ((try dsimp only at hw2); go_simp <;> with_reducible rfl)
                simp only [Act.put, List.setIfInBounds_toArray, List.set_cons_zero, List.set_cons_succ]
                refine rg_take 9 (v := ?rv42) rfl (by kernel_rfl) (by kernel_rfl) (by kernel_rfl) (fun _ _ _ h => h) (by rfl) hS (fun w2 hw2 => ?ry42) ?rr42
                case ry42 => ((try dsimp only at hw2); go_simp <;> with_reducible rfl)
                simp only [Act.put, List.setIfInBounds_toArray, List.set_cons_zero, List.set_cons_succ]
                refine rg_take 10 (v := ?rv43) rfl (by kernel_rfl) (by kernel_rfl) (by kernel_rfl) (fun _ _ _ h => h) (by rfl) hS (fun w2 hw2 => ?ry43) ?rr43
                case ry43 => ((try dsimp only at hw2); go_simp <;> with_reducible rfl)
                simp only [Act.put, List.setIfInBounds_toArray, List.set_cons_zero, List.set_cons_succ]
                refine rg_take 11 (v := ?rv44) rfl (by kernel_rfl) (by kernel_rfl) (by kernel_rfl) (fun _ _ _ h => h) (by rfl) hS (fun w2 hw2 => ?ry44) ?rr44
                case ry44 => ((try dsimp only at hw2); go_simp <;> with_reducible rfl)
                simp only [Act.put, List.setIfInBounds_toArray, List.set_cons_zero, List.set_cons_succ]
                refine rg_take 12 (v := ?rv45) rfl (by kernel_rfl) (by kernel_rfl) (by kernel_rfl) (fun _ _ _ h => h) (by rfl) hS (fun w2 hw2 => ?ry45) ?rr45
                case ry45 => ((try dsimp only at hw2); go_simp <;> with_reducible rfl)
                simp only [Act.put, List.setIfInBounds_toArray, List.set_cons_zero, List.set_cons_succ]
                refine rg_take 13 (v := ?rv46) rfl (by kernel_rfl) (by kernel_rfl) (by kernel_rfl) (fun _ _ _ h => h) (by rfl) hS (fun w2 hw2 => ?ry46) ?rr46
                case ry46 => ((try dsimp only at hw2); go_simp <;> with_reducible rfl)
                simp only [Act.put, List.setIfInBounds_toArray, List.set_cons_zero, List.set_cons_succ]
                refine rg_take 14 (v := ?rv47) rfl (by kernel_rfl) (by kernel_rfl) (by kernel_rfl) (fun _ _ _ h => h) (by rfl) hS (fun w2 hw2 => ?ry47) ?rr47
                case ry47 => ((try dsimp only at hw2); go_simp <;> with_reducible rfl)
                simp only [Act.put, List.setIfInBounds_toArray, List.set_cons_zero, List.set_cons_succ]
                refine rg_take 15 (v := ?rv48) rfl (by kernel_rfl) (by kernel_rfl) (by kernel_rfl) (fun _ _ _ h => h) (by rfl) hS (fun w2 hw2 => ?ry48) ?rr48
                case ry48 => ((try dsimp only at hw2); go_simp <;> with_reducible rfl)
                simp only [Act.put, List.setIfInBounds_toArray, List.set_cons_zero, List.set_cons_succ]
                refine rg_take 16 (v := ?rv49) rfl (by kernel_rfl) (by kernel_rfl) (by kernel_rfl) (fun _ _ _ h => h) (by rfl) hS (fun w2 hw2 => ?ry49) ?rr49
                case ry49 => ((try dsimp only at hw2); go_simp <;> with_reducible rfl)
                simp only [Act.put, List.setIfInBounds_toArray, List.set_cons_zero, List.set_cons_succ]
                refine rg_take 17 (v := ?rv50) rfl (by kernel_rfl) (by kernel_rfl) (by kernel_rfl) (fun _ _ _ h => h) (by rfl) hS (fun w2 hw2 => ?ry50) ?rr50
                case ry50 => ((try dsimp only at hw2); go_simp <;> with_reducible rfl)
                simp only [Act.put, List.setIfInBounds_toArray, List.set_cons_zero, List.set_cons_succ]
                refine rg_take 18 (v := ?rv51) rfl (by kernel_rfl) (by kernel_rfl) (by kernel_rfl) (fun _ _ _ h => h) (by rfl) hS (fun w2 hw2 => ?ry51) ?rr51
                case ry51 => ((try dsimp only at hw2); go_simp <;> with_reducible rfl)
                simp only [Act.put, List.setIfInBounds_toArray, List.set_cons_zero, List.set_cons_succ]
                refine rg_take 19 (v := ?rv52) rfl (by kernel_rfl) (by kernel_rfl) (by kernel_rfl) (fun _ _ _ h => h) (by rfl) hS (fun w2 hw2 => ?ry52) ?rr52
                case ry52 => ((try dsimp only at hw2); go_simp <;> with_reducible rfl)
                simp only [Act.put, List.setIfInBounds_toArray, List.set_cons_zero, List.set_cons_succ]
                refine rg_take 20 (v := ?rv53) rfl (by kernel_rfl) (by kernel_rfl) (by kernel_rfl) (fun _ _ _ h => h) (by rfl) hS (fun w2 hw2 => ?ry53) ?rr53
                case ry53 => ((try dsimp only at hw2); go_simp <;> with_reducible rfl)
                simp only [Act.put, List.setIfInBounds_toArray, List.set_cons_zero, List.set_cons_succ]
                refine rg_take 21 (v := ?rv54) rfl (by kernel_rfl) (by kernel_rfl) (by kernel_rfl) (fun _ _ _ h => h) (by rfl) hS (fun w2 hw2 => ?ry54) ?rr54
                case ry54 => ((try dsimp only at hw2); go_simp <;> with_reducible rfl)
                simp only [Act.put, List.setIfInBounds_toArray, List.set_cons_zero, List.set_cons_succ]
                refine rg_take 22 (v := ?rv55) rfl (by kernel_rfl) (by kernel_rfl) (by kernel_rfl) (fun _ _ _ h => h) (by rfl) hS (fun w2 hw2 => ?ry55) ?rr55
                case ry55 => ((try dsimp only at hw2); go_simp <;> with_reducible rfl)
                simp only [Act.put, List.setIfInBounds_toArray, List.set_cons_zero, List.set_cons_succ]
                refine rg_take 23 (v := ?rv56) rfl (by kernel_rfl) (by kernel_rfl) (by kernel_rfl) (fun _ _ _ h => h) (by rfl) hS (fun w2 hw2 => ?ry56) ?rr56
                case ry56 => ((try dsimp only at hw2); go_simp <;> with_reducible rfl)
                simp only [Act.put, List.setIfInBounds_toArray, List.set_cons_zero, List.set_cons_succ]
                refine rg_take 24 (v := ?rv57) rfl (by kernel_rfl) (by kernel_rfl) (by kernel_rfl) (fun _ _ _ h => h) (by rfl) hS (fun w2 hw2 => ?ry57) ?rr57
                case ry57 => ((try dsimp only at hw2); go_simp <;> with_reducible rfl)
                simp only [Act.put, List.setIfInBounds_toArray, List.set_cons_zero, List.set_cons_succ]
                refine rg_take 25 (v := ?rv58) rfl (by kernel_rfl) (by kernel_rfl) (by kernel_rfl) (fun _ _ _ h => h) (by rfl) hS (fun w2 hw2 => ?ry58) ?rr58
                case ry58 => ((try dsimp only at hw2); go_simp <;> with_reducible rfl)
                simp only [Act.put, List.setIfInBounds_toArray, List.set_cons_zero, List.set_cons_succ]
                refine rg_take 26 (v := ?rv59) rfl (by kernel_rfl) (by kernel_rfl) (by kernel_rfl) (fun _ _ _ h => h) (by rfl) hS (fun w2 hw2 => ?ry59) ?rr59
                case ry59 => ((try dsimp only at hw2); go_simp <;> with_reducible rfl)
                simp only [Act.put, List.setIfInBounds_toArray, List.set_cons_zero, List.set_cons_succ]
                refine rg_take 27 (v := ?rv60) rfl (by kernel_rfl) (by kernel_rfl) (by kernel_rfl) (fun _ _ _ h => h) (by rfl) hS (fun w2 hw2 => ?ry60) ?rr60
                case ry60 => ((try dsimp only at hw2); go_simp <;> with_reducible rfl)
                simp only [Act.put, List.setIfInBounds_toArray, List.set_cons_zero, List.set_cons_succ]
                refine rg_take 28 (v := ?rv61) rfl (by kernel_rfl) (by kernel_rfl) (by kernel_rfl) (fun _ _ _ h => h) (by rfl) hS (fun w2 hw2 => ?ry61) ?rr61
                case ry61 => ((try dsimp only at hw2); go_simp <;> with_reducible rfl)
                simp only [Act.put, List.setIfInBounds_toArray, List.set_cons_zero, List.set_cons_succ]
                refine rg_take 29 (v := ?rv62) rfl (by kernel_rfl) (by kernel_rfl) (by kernel_rfl) (fun _ _ _ h => h) (by rfl) hS (fun w2 hw2 => ?ry62) ?rr62
                case ry62 => ((try dsimp only at hw2); go_simp <;> with_reducible rfl)
                simp only [Act.put, List.setIfInBounds_toArray, List.set_cons_zero, List.set_cons_succ]
                refine rg_take 30 (v := ?rv63) rfl (by kernel_rfl) (by kernel_rfl) (by kernel_rfl) (fun _ _ _ h => h) (by rfl) hS (fun w2 hw2 => ?ry63) ?rr63
                case ry63 => ((try dsimp only at hw2); go_simp <;> with_reducible rfl)
                simp only [Act.put, List.setIfInBounds_toArray, List.set_cons_zero, List.set_cons_succ]
                refine rg_take 31 (v := ?rv64) rfl (by kernel_rfl) (by kernel_rfl) (by kernel_rfl) (fun _ _ _ h => h) (by rfl) hS (fun w2 hw2 => ?ry64) ?rr64
                case ry64 => ((try dsimp only at hw2); go_simp <;> with_reducible rfl)
                simp only [Act.put, List.setIfInBounds_toArray, List.set_cons_zero, List.set_cons_succ]
                refine rg_take 32 (v := ?rv65) rfl (by kernel_rfl) (by kernel_rfl) (by kernel_rfl) (fun _ _ _ h => h) (by rfl) hS (fun w2 hw2 => ?ry65) ?rr65
                case ry65 => ((try dsimp only at hw2); go_simp <;> with_reducible rfl)
                simp only [Act.put, List.setIfInBounds_toArray, List.set_cons_zero, List.set_cons_succ]
                refine rg_take 33 (v := ?rv66) rfl (by kernel_rfl) (by kernel_rfl) (by kernel_rfl) (fun _ _ _ h => h) (by rfl) hS (fun w2 hw2 => ?ry66) ?rr66
                case ry66 => ((try dsimp only at hw2); go_simp <;> with_reducible rfl)
                simp only [Act.put, List.setIfInBounds_toArray, List.set_cons_zero, List.set_cons_succ]
                refine rg_take 34 (v := ?rv67) rfl (by kernel_rfl) (by kernel_rfl) (by kernel_rfl) (fun _ _ _ h => h) (by rfl) hS (fun w2 hw2 => ?ry67) ?rr67
                case ry67 => ((try dsimp only at hw2); go_simp <;> with_reducible rfl)
                simp only [Act.put, List.setIfInBounds_toArray, List.set_cons_zero, List.set_cons_succ]
                refine rg_take 35 (v := ?rv68) rfl (by kernel_rfl) (by kernel_rfl) (by kernel_rfl) (fun _ _ _ h => h) (by rfl) hS (fun w2 hw2 => ?ry68) ?rr68
                case ry68 => ((try dsimp only at hw2); go_simp <;> with_reducible rfl)
                simp only [Act.put, List.setIfInBounds_toArray, List.set_cons_zero, List.set_cons_succ]
                refine rg_take 36 (v := ?rv69) rfl (by kernel_rfl) (by kernel_rfl) (by kernel_rfl) (fun _ _ _ h => h) (by rfl) hS (fun w2 hw2 => ?ry69) ?rr69
                case ry69 => ((try dsimp only at hw2); go_simp <;> with_reducible rfl)
                simp only [Act.put, List.setIfInBounds_toArray, List.set_cons_zero, List.set_cons_succ]
                refine rg_take 37 (v := ?rv70) rfl (by kernel_rfl) (by kernel_rfl) (by kernel_rfl) (fun _ _ _ h => h) (by rfl) hS (fun w2 hw2 => ?ry70) ?rr70
                case ry70 => ((try dsimp only at hw2); go_simp <;> with_reducible rfl)
                simp only [Act.put, List.setIfInBounds_toArray, List.set_cons_zero, List.set_cons_succ]
                refine rg_take 38 (v := ?rv71) rfl (by kernel_rfl) (by kernel_rfl) (by kernel_rfl) (fun _ _ _ h => h) (by rfl) hS (fun w2 hw2 => ?ry71) ?rr71
                case ry71 => ((try dsimp only at hw2); go_simp <;> with_reducible rfl)
                simp only [Act.put, List.setIfInBounds_toArray, List.set_cons_zero, List.set_cons_succ]
                refine rg_take 39 (v := ?rv72) rfl (by kernel_rfl) (by kernel_rfl) (by kernel_rfl) (fun _ _ _ h => h) (by rfl) hS (fun w2 hw2 => ?ry72) ?rr72
                case ry72 => ((try dsimp only at hw2); go_simp <;> with_reducible rfl)
                simp only [Act.put, List.setIfInBounds_toArray, List.set_cons_zero, List.set_cons_succ]
                refine rg_take 40 (v := ?rv73) rfl (by kernel_rfl) (by kernel_rfl) (by kernel_rfl) (fun _ _ _ h => h) (by rfl) hS (fun w2 hw2 => ?ry73) ?rr73
                case ry73 => ((try dsimp only at hw2); go_simp <;> with_reducible rfl)
                simp only [Act.put, List.setIfInBounds_toArray, List.set_cons_zero, List.set_cons_succ]
                refine rg_take 41 (v := ?rv74) rfl (by kernel_rfl) (by kernel_rfl) (by kernel_rfl) (fun _ _ _ h => h) (by rfl) hS (fun w2 hw2 => ?ry74) ?rr74
                case ry74 => ((try dsimp only at hw2); go_simp <;> with_reducible rfl)
                simp only [Act.put, List.setIfInBounds_toArray, List.set_cons_zero, List.set_cons_succ]
                refine rg_take 42 (v := ?rv75) rfl (by kernel_rfl) (by kernel_rfl) (by kernel_rfl) (fun _ _ _ h => h) (by rfl) hS (fun w2 hw2 => ?ry75) ?rr75
                case ry75 => ((try dsimp only at hw2); go_simp <;> with_reducible rfl)
                simp only [Act.put, List.setIfInBounds_toArray, List.set_cons_zero, List.set_cons_succ]
                refine rg_take 43 (v := ?rv76) rfl (by kernel_rfl) (by kernel_rfl) (by kernel_rfl) (fun _ _ _ h => h) (by rfl) hS (fun w2 hw2 => ?ry76) ?rr76
                case ry76 => ((try dsimp only at hw2); go_simp <;> with_reducible rfl)
                simp only [Act.put, List.setIfInBounds_toArray, List.set_cons_zero, List.set_cons_succ]
                refine rg_take 44 (v := ?rv77) rfl (by kernel_rfl) (by kernel_rfl) (by kernel_rfl) (fun _ _ _ h => h) (by rfl) hS (fun w2 hw2 => ?ry77) ?rr77
                case ry77 => ((try dsimp only at hw2); go_simp <;> with_reducible rfl)
                simp only [Act.put, List.setIfInBounds_toArray, List.set_cons_zero, List.set_cons_succ]
                refine rg_take 45 (v := ?rv78) rfl (by kernel_rfl) (by kernel_rfl) (by kernel_rfl) (fun _ _ _ h => h) (by rfl) hS (fun w2 hw2 => ?ry78) ?rr78
                case ry78 => ((try dsimp only at hw2); go_simp <;> with_reducible rfl)
                simp only [Act.put, List.setIfInBounds_toArray, List.set_cons_zero, List.set_cons_succ]
                refine rg_take 46 (v := ?rv79) rfl (by kernel_rfl) (by kernel_rfl) (by kernel_rfl) (fun _ _ _ h => h) (by rfl) hS (fun w2 hw2 => ?ry79) ?rr79
                case ry79 => ((try dsimp only at hw2); go_simp <;> with_reducible rfl)
                simp only [Act.put, List.setIfInBounds_toArray, List.set_cons_zero, List.set_cons_succ]
                refine rg_take 47 (v := ?rv80) rfl (by kernel_rfl) (by kernel_rfl) (by kernel_rfl) (fun _ _ _ h => h) (by rfl) hS (fun w2 hw2 => ?ry80) ?rr80
                case ry80 => ((try dsimp only at hw2); go_simp <;> with_reducible rfl)
                simp only [Act.put, List.setIfInBounds_toArray, List.set_cons_zero, List.set_cons_succ]
                refine rg_take 48 (v := ?rv81) rfl (by kernel_rfl) (by kernel_rfl) (by kernel_rfl) (fun _ _ _ h => h) (by rfl) hS (fun w2 hw2 => ?ry81) ?rr81
                case ry81 => ((try dsimp only at hw2); go_simp <;> with_reducible rfl)
                simp only [Act.put, List.setIfInBounds_toArray, List.set_cons_zero, List.set_cons_succ]
                refine rg_take 49 (v := ?rv82) rfl (by kernel_rfl) (by kernel_rfl) (by kernel_rfl) (fun _ _ _ h => h) (by rfl) hS (fun w2 hw2 => ?ry82) ?rr82
                case ry82 => ((try dsimp only at hw2); go_simp <;> with_reducible rfl)
                simp only [Act.put, List.setIfInBounds_toArray, List.set_cons_zero, List.set_cons_succ]
                refine rg_skip 50 rfl (by kernel_rfl) (by kernel_rfl) (by kernel_rfl) (fun _ _ _ h => h) (by rfl) hS ?_
                simp only [Act.put, List.setIfInBounds_toArray, List.set_cons_zero, List.set_cons_succ]
                refine rg_skip 51 rfl (by kernel_rfl) (by kernel_rfl) (by kernel_rfl) (fun _ _ _ h => h) (by rfl) hS ?_
                simp only [Act.put, List.setIfInBounds_toArray, List.set_cons_zero, List.set_cons_succ]
                refine rg_skip 52 rfl (by kernel_rfl) (by kernel_rfl) (by kernel_rfl) (fun _ _ _ h => h) (by rfl) hS ?_
                simp only [Act.put, List.setIfInBounds_toArray, List.set_cons_zero, List.set_cons_succ]
                refine rg_skip 53 rfl (by kernel_rfl) (by kernel_rfl) (by kernel_rfl) (fun _ _ _ h => h) (by rfl) hS ?_
                simp only [Act.put, List.setIfInBounds_toArray, List.set_cons_zero, List.set_cons_succ]
                refine rg_skip 54 rfl (by kernel_rfl) (by kernel_rfl) (by kernel_rfl) (fun _ _ _ h => h) (by rfl) hS ?_
                simp only [Act.put, List.setIfInBounds_toArray, List.set_cons_zero, List.set_cons_succ]
                refine rg_skip 55 rfl (by kernel_rfl) (by kernel_rfl) (by kernel_rfl) (fun _ _ _ h => h) (by rfl) hS ?_
                simp only [Act.put, List.setIfInBounds_toArray, List.set_cons_zero, List.set_cons_succ]
                refine rg_skip 56 rfl (by kernel_rfl) (by kernel_rfl) (by kernel_rfl) (fun _ _ _ h => h) (by rfl) hS ?_
                simp only [Act.put, List.setIfInBounds_toArray, List.set_cons_zero, List.set_cons_succ]
                refine rg_skip 57 rfl (by kernel_rfl) (by kernel_rfl) (by kernel_rfl) (fun _ _ _ h => h) (by rfl) hS ?_
                simp only [Act.put, List.setIfInBounds_toArray, List.set_cons_zero, List.set_cons_succ]
                refine rg_skip 58 rfl (by kernel_rfl) (by kernel_rfl) (by kernel_rfl) (fun _ _ _ h => h) (by rfl) hS ?_
                simp only [Act.put, List.setIfInBounds_toArray, List.set_cons_zero, List.set_cons_succ]
                refine rg_take 59 (v := ?rv83) rfl (by kernel_rfl) (by kernel_rfl) (by kernel_rfl) (fun _ _ _ h => h) (by rfl) hS (fun w2 hw2 => ?ry83) ?rr83
                case ry83 => ((try dsimp only at hw2); go_simp <;> with_reducible rfl)
                simp only [Act.put, List.setIfInBounds_toArray, List.set_cons_zero, List.set_cons_succ]
                refine rg_take 60 (v := ?rv84) rfl (by kernel_rfl) (by kernel_rfl) (by kernel_rfl) (fun _ _ _ h => h) (by rfl) hS (fun w2 hw2 => ?ry84) ?rr84
                case ry84 => ((try dsimp only at hw2); go_simp <;> with_reducible rfl)
                simp only [Act.put, List.setIfInBounds_toArray, List.set_cons_zero, List.set_cons_succ]
                refine rg_take 61 (v := ?rv85) rfl (by kernel_rfl) (by kernel_rfl) (by kernel_rfl) (fun _ _ _ h => h) (by rfl) hS (fun w2 hw2 => ?ry85) ?rr85
                case ry85 => ((try dsimp only at hw2); go_simp <;> with_reducible rfl)
                simp only [Act.put, List.setIfInBounds_toArray, List.set_cons_zero, List.set_cons_succ]
                refine rg_take 62 (v := ?rv86) rfl (by kernel_rfl) (by kernel_rfl) (by kernel_rfl) (fun _ _ _ h => h) (by rfl) hS (fun w2 hw2 => ?ry86) ?rr86
                case ry86 => ((try dsimp only at hw2); go_simp <;> with_reducible rfl)
                simp only [Act.put, List.setIfInBounds_toArray, List.set_cons_zero, List.set_cons_succ]
                refine rg_done (by kernel_rfl) ?_
                have HB := Lib.hid (hWB.out.trans (hS.mono hWB.out.size))
                clear hS
                go_wp2_with fail
                exact ⟨⟨j + 1, hjd, by go_num, HB.out⟩, by simp [intOf]; omega⟩
              · subst heq
                have y4 : (pt == pt) = true := by simp
                have y5o := hlt
                clear hlt
                go_wp2_with (rw [hWe.out])
                have z1 : ¬ ((m : Int) < 0) := by omega
                have z2 : ¬ ((k : Int) ≤ (m : Int)) := by omega
                have z4 : ¬ (now < pt) := by omega
                have y3 : ¬ (pt < pt) := by omega
                have y0 : (0 : Int) < (j : Int) := by omega
                have y0n : 0 < j := by omega
                have y6 : IntKind.i64.wrap (jp : Int) = (jp : Int) := by rw [IntKind.wrap_i64]; omega
                have y5 : ¬ ((m : Int) ≤ pi) := by omega
                have hS : Below W.heap.size W W.drew := below_of_drew (Below.refl _ _)
                refine rg_begin (fun w' => Below W.heap.size W w') 63 (by kernel_rfl) rfl ?_
                refine rg_take 0 (v := ?rv87) rfl (by kernel_rfl) (by kernel_rfl) (by kernel_rfl) (fun _ _ _ h => h) (by rfl) hS (fun w2 hw2 => ?ry87) ?rr87
                case ry87 => ((try dsimp only at hw2); go_simp <;> with_reducible rfl)
                simp only [Act.put, List.setIfInBounds_toArray, List.set_cons_zero, List.set_cons_succ]
                refine rg_take 1 (v := ?rv88) rfl (by kernel_rfl) (by kernel_rfl) (by kernel_rfl) (fun _ _ _ h => h) (by rfl) hS (fun w2 hw2 => ?ry88) ?rr88
                case ry88 => ((try dsimp only at hw2); go_simp <;> with_reducible rfl)
                simp only [Act.put, List.setIfInBounds_toArray, List.set_cons_zero, List.set_cons_succ]
                refine rg_take 2 (v := ?rv89) rfl (by kernel_rfl) (by kernel_rfl) (by kernel_rfl) (fun _ _ _ h => h) (by rfl) hS (fun w2 hw2 => ?ry89) ?rr89
                case ry89 => ((try dsimp only at hw2); go_simp <;> with_reducible rfl)
                simp only [Act.put, List.setIfInBounds_toArray, List.set_cons_zero, List.set_cons_succ]
                refine rg_take 3 (v := ?rv90) rfl (by kernel_rfl) (by kernel_rfl) (by kernel_rfl) (fun _ _ _ h => h) (by rfl) hS (fun w2 hw2 => ?ry90) ?rr90
                case ry90 => ((try dsimp only at hw2); go_simp <;> with_reducible rfl)
                simp only [Act.put, List.setIfInBounds_toArray, List.set_cons_zero, List.set_cons_succ]
                refine rg_take 4 (v := ?rv91) rfl (by kernel_rfl) (by kernel_rfl) (by kernel_rfl) (fun _ _ _ h => h) (by rfl) hS (fun w2 hw2 => ?ry91) ?rr91
                case ry91 => ((try dsimp only at hw2); go_simp <;> with_reducible rfl)
                simp only [Act.put, List.setIfInBounds_toArray, List.set_cons_zero, List.set_cons_succ]
                refine rg_take 5 (v := ?rv92) rfl (by kernel_rfl) (by kernel_rfl) (by kernel_rfl) (fun _ _ _ h => h) (by rfl) hS (fun w2 hw2 => ?ry92) ?rr92
                case ry92 => ((try dsimp only at hw2); go_simp <;> with_reducible rfl)
                simp only [Act.put, List.setIfInBounds_toArray, List.set_cons_zero, List.set_cons_succ]
                refine rg_take 6 (v := ?rv93) rfl (by kernel_rfl) (by kernel_rfl) (by kernel_rfl) (fun _ _ _ h => h) (by rfl) hS (fun w2 hw2 => ?ry93) ?rr93
                case ry93 => ((try dsimp only at hw2); go_simp <;> with_reducible rfl)
                simp only [Act.put, List.setIfInBounds_toArray, List.set_cons_zero, List.set_cons_succ]
                refine rg_take 7 (v := ?rv94) rfl (by kernel_rfl) (by kernel_rfl) (by kernel_rfl) (fun _ _ _ h => h) (by rfl) hS (fun w2 hw2 => ?ry94) ?rr94
                case ry94 => ((try dsimp only at hw2); go_simp <;> with_reducible rfl)
                simp only [Act.put, List.setIfInBounds_toArray, List.set_cons_zero, List.set_cons_succ]
                refine rg_take 8 (v := ?rv95) rfl (by kernel_rfl) (by kernel_rfl) (by kernel_rfl) (fun _ _ _ h => h) (by rfl) hS (fun w2 hw2 => ?ry95) ?rr95
                case ry95 => ((try dsimp only at hw2); go_simp <;> with_reducible rfl)
                simp only [Act.put, List.setIfInBounds_toArray, List.set_cons_zero, List.set_cons_succ]
                refine rg_take 9 (v := ?rv96) rfl (by kernel_rfl) (by kernel_rfl) (by kernel_rfl) (fun _ _ _ h => h) (by rfl) hS (fun w2 hw2 => ?ry96) ?rr96
                case ry96 => ((try dsimp only at hw2); go_simp <;> with_reducible rfl)
                simp only [Act.put, List.setIfInBounds_toArray, List.set_cons_zero, List.set_cons_succ]
                refine rg_take 10 (v := ?rv97) rfl (by kernel_rfl) (by kernel_rfl) (by kernel_rfl) (fun _ _ _ h => h) (by rfl) hS (fun w2 hw2 => ?ry97) ?rr97
                case ry97 => ((try dsimp only at hw2); go_simp <;> with_reducible rfl)
                simp only [Act.put, List.setIfInBounds_toArray, List.set_cons_zero, List.set_cons_succ]
                refine rg_take 11 (v := ?rv98) rfl (by kernel_rfl) (by kernel_rfl) (by kernel_rfl) (fun _ _ _ h => h) (by rfl) hS (fun w2 hw2 => ?ry98) ?rr98
                case ry98 => ((try dsimp only at hw2); go_simp <;> with_reducible rfl)
                simp only [Act.put, List.setIfInBounds_toArray, List.set_cons_zero, List.set_cons_succ]
                refine rg_take 12 (v := ?rv99) rfl (by kernel_rfl) (by kernel_rfl) (by kernel_rfl) (fun _ _ _ h => h) (by rfl) hS (fun w2 hw2 => ?ry99) ?rr99
                case ry99 => ((try dsimp only at hw2); go_simp <;> with_reducible rfl)
                simp only [Act.put, List.setIfInBounds_toArray, List.set_cons_zero, List.set_cons_succ]
                refine rg_take 13 (v := ?rv100) rfl (by kernel_rfl) (by kernel_rfl) (by kernel_rfl) (fun _ _ _ h => h) (by rfl) hS (fun w2 hw2 => ?ry100) ?rr100
                case ry100 => ((try dsimp only at hw2); go_simp <;> with_reducible rfl)
                simp only [Act.put, List.setIfInBounds_toArray, List.set_cons_zero, List.set_cons_succ]
                refine rg_take 14 (v := ?rv101) rfl (by kernel_rfl) (by kernel_rfl) (by kernel_rfl) (fun _ _ _ h => h) (by rfl) hS (fun w2 hw2 => ?ry101) ?rr101
                case ry101 => ((try dsimp only at hw2); go_simp <;> with_reducible rfl)
                simp only [Act.put, List.setIfInBounds_toArray, List.set_cons_zero, List.set_cons_succ]
                refine rg_take 15 (v := ?rv102) rfl (by kernel_rfl) (by kernel_rfl) (by kernel_rfl) (fun _ _ _ h => h) (by rfl) hS (fun w2 hw2 => ?ry102) ?rr102
                case ry102 => ((try dsimp only at hw2); go_simp <;> with_reducible rfl)
                simp only [Act.put, List.setIfInBounds_toArray, List.set_cons_zero, List.set_cons_succ]
                refine rg_take 16 (v := ?rv103) rfl (by kernel_rfl) (by kernel_rfl) (by kernel_rfl) (fun _ _ _ h => h) (by rfl) hS (fun w2 hw2 => ?ry103) ?rr103
                case ry103 => ((try dsimp only at hw2); go_simp <;> with_reducible rfl)
                simp only [Act.put, List.setIfInBounds_toArray, List.set_cons_zero, List.set_cons_succ]
                refine rg_take 17 (v := ?rv104) rfl (by kernel_rfl) (by kernel_rfl) (by kernel_rfl) (fun _ _ _ h => h) (by rfl) hS (fun w2 hw2 => ?ry104) ?rr104
                case ry104 => ((try dsimp only at hw2); go_simp <;> with_reducible rfl)
                simp only [Act.put, List.setIfInBounds_toArray, List.set_cons_zero, List.set_cons_succ]
                refine rg_take 18 (v := ?rv105) rfl (by kernel_rfl) (by kernel_rfl) (by kernel_rfl) (fun _ _ _ h => h) (by rfl) hS (fun w2 hw2 => ?ry105) ?rr105
                case ry105 => ((try dsimp only at hw2); go_simp <;> with_reducible rfl)
                simp only [Act.put, List.setIfInBounds_toArray, List.set_cons_zero, List.set_cons_succ]
                refine rg_take 19 (v := ?rv106) rfl (by kernel_rfl) (by kernel_rfl) (by kernel_rfl) (fun _ _ _ h => h) (by rfl) hS (fun w2 hw2 => ?ry106) ?rr106
                case ry106 => ((try dsimp only at hw2); go_simp <;> with_reducible rfl)
                simp only [Act.put, List.setIfInBounds_toArray, List.set_cons_zero, List.set_cons_succ]
                refine rg_take 20 (v := ?rv107) rfl (by kernel_rfl) (by kernel_rfl) (by kernel_rfl) (fun _ _ _ h => h) (by rfl) hS (fun w2 hw2 => ?ry107) ?rr107
                case ry107 => ((try dsimp only at hw2); go_simp <;> with_reducible rfl)
                simp only [Act.put, List.setIfInBounds_toArray, List.set_cons_zero, List.set_cons_succ]
                refine rg_take 21 (v := ?rv108) rfl (by kernel_rfl) (by kernel_rfl) (by kernel_rfl) (fun _ _ _ h => h) (by rfl) hS (fun w2 hw2 => ?ry108) ?rr108
                case ry108 => ((try dsimp only at hw2); go_simp <;> with_reducible rfl)
                simp only [Act.put, List.setIfInBounds_toArray, List.set_cons_zero, List.set_cons_succ]
                refine rg_take 22 (v := ?rv109) rfl (by kernel_rfl) (by kernel_rfl) (by kernel_rfl) (fun _ _ _ h => h) (by rfl) hS (fun w2 hw2 => ?ry109) ?rr109
                case ry109 => ((try dsimp only at hw2); go_simp <;> with_reducible rfl)
                simp only [Act.put, List.setIfInBounds_toArray, List.set_cons_zero, List.set_cons_succ]
                refine rg_take 23 (v := ?rv110) rfl (by kernel_rfl) (by kernel_rfl) (by kernel_rfl) (fun _ _ _ h => h) (by rfl) hS (fun w2 hw2 => ?ry110) ?rr110
                case ry110 => ((try dsimp only at hw2); go_simp <;> with_reducible rfl)
                simp only [Act.put, List.setIfInBounds_toArray, List.set_cons_zero, List.set_cons_succ]
                refine rg_take 24 (v := ?rv111) rfl (by kernel_rfl) (by kernel_rfl) (by kernel_rfl) (fun _ _ _ h => h) (by rfl) hS (fun w2 hw2 => ?ry111) ?rr111
                case ry111 => ((try dsimp only at hw2); go_simp <;> with_reducible rfl)
                simp only [Act.put, List.setIfInBounds_toArray, List.set_cons_zero, List.set_cons_succ]
                refine rg_take 25 (v := ?rv112) rfl (by kernel_rfl) (by kernel_rfl) (by kernel_rfl) (fun _ _ _ h => h) (by rfl) hS (fun w2 hw2 => ?ry112) ?rr112
                case ry112 => ((try dsimp only at hw2); go_simp <;> with_reducible rfl)
                simp only [Act.put, List.setIfInBounds_toArray, List.set_cons_zero, List.set_cons_succ]
                refine rg_take 26 (v := ?rv113) rfl (by kernel_rfl) (by kernel_rfl) (by kernel_rfl) (fun _ _ _ h => h) (by rfl) hS (fun w2 hw2 => ?ry113) ?rr113
                case ry113 => ((try dsimp only at hw2); go_simp <;> with_reducible rfl)
                simp only [Act.put, List.setIfInBounds_toArray, List.set_cons_zero, List.set_cons_succ]
                refine rg_take 27 (v := ?rv114) rfl (by kernel_rfl) (by kernel_rfl) (by kernel_rfl) (fun _ _ _ h => h) (by rfl) hS (fun w2 hw2 => ?ry114) ?rr114
                case ry114 => ((try dsimp only at hw2); go_simp <;> with_reducible rfl)
                simp only [Act.put, List.setIfInBounds_toArray, List.set_cons_zero, List.set_cons_succ]
                refine rg_take 28 (v := ?rv115) rfl (by kernel_rfl) (by kernel_rfl) (by kernel_rfl) (fun _ _ _ h => h) (by rfl) hS (fun w2 hw2 => ?ry115) ?rr115
                case ry115 => ((try dsimp only at hw2); go_simp <;> with_reducible rfl)
                simp only [Act.put, List.setIfInBounds_toArray, List.set_cons_zero, List.set_cons_succ]
                refine rg_take 29 (v := ?rv116) rfl (by kernel_rfl) (by kernel_rfl) (by kernel_rfl) (fun _ _ _ h => h) (by rfl) hS (fun w2 hw2 => ?ry116) ?rr116
                case ry116 => ((try dsimp only at hw2); go_simp <;> with_reducible rfl)
                simp only [Act.put, List.setIfInBounds_toArray, List.set_cons_zero, List.set_cons_succ]
                refine rg_take 30 (v := ?rv117) rfl (by kernel_rfl) (by kernel_rfl) (by kernel_rfl) (fun _ _ _ h => h) (by rfl) hS (fun w2 hw2 => ?ry117) ?rr117
                case ry117 => ((try dsimp only at hw2); go_simp <;> with_reducible rfl)
                simp only [Act.put, List.setIfInBounds_toArray, List.set_cons_zero, List.set_cons_succ]
                refine rg_take 31 (v := ?rv118) rfl (by kernel_rfl) (by kernel_rfl) (by kernel_rfl) (fun _ _ _ h => h) (by rfl) hS (fun w2 hw2 => ?ry118) ?rr118
                case ry118 => ((try dsimp only at hw2); go_simp <;> with_reducible rfl)
                simp only [Act.put, List.setIfInBounds_toArray, List.set_cons_zero, List.set_cons_succ]
                refine rg_take 32 (v := ?rv119) rfl (by kernel_rfl) (by kernel_rfl) (by kernel_rfl) (fun _ _ _ h => h) (by rfl) hS (fun w2 hw2 => ?ry119) ?rr119
                case ry119 => ((try dsimp only at hw2); go_simp <;> with_reducible rfl)
                simp only [Act.put, List.setIfInBounds_toArray, List.set_cons_zero, List.set_cons_succ]
                refine rg_take 33 (v := ?rv120) rfl (by kernel_rfl) (by kernel_rfl) (by kernel_rfl) (fun _ _ _ h => h) (by rfl) hS (fun w2 hw2 => ?ry120) ?rr120
                case ry120 => ((try dsimp only at hw2); go_simp <;> with_reducible rfl)
                simp only [Act.put, List.setIfInBounds_toArray, List.set_cons_zero, List.set_cons_succ]
                refine rg_take 34 (v := ?rv121) rfl (by kernel_rfl) (by kernel_rfl) (by kernel_rfl) (fun _ _ _ h => h) (by rfl) hS (fun w2 hw2 => ?ry121) ?rr121
                case ry121 => ((try dsimp only at hw2); go_simp <;> with_reducible rfl)
                simp only [Act.put, List.setIfInBounds_toArray, List.set_cons_zero, List.set_cons_succ]
                refine rg_take 35 (v := ?rv122) rfl (by kernel_rfl) (by kernel_rfl) (by kernel_rfl) (fun _ _ _ h => h) (by rfl) hS (fun w2 hw2 => ?ry122) ?rr122
                case ry122 => ((try dsimp only at hw2); go_simp <;> with_reducible rfl)
                simp only [Act.put, List.setIfInBounds_toArray, List.set_cons_zero, List.set_cons_succ]
                refine rg_take 36 (v := ?rv123) rfl (by kernel_rfl) (by kernel_rfl) (by kernel_rfl) (fun _ _ _ h => h) (by rfl) hS (fun w2 hw2 => ?ry123) ?rr123
                case ry123 => ((try dsimp only at hw2); go_simp <;> with_reducible rfl)
                simp only [Act.put, List.setIfInBounds_toArray, List.set_cons_zero, List.set_cons_succ]
                refine rg_take 37 (v := ?rv124) rfl (by kernel_rfl) (by kernel_rfl) (by kernel_rfl) (fun _ _ _ h => h) (by rfl) hS (fun w2 hw2 => ?ry124) ?rr124
                case ry124 => ((try dsimp only at hw2); go_simp <;> with_reducible rfl)
                simp only [Act.put, List.setIfInBounds_toArray, List.set_cons_zero, List.set_cons_succ]
                refine rg_take 38 (v := ?rv125) rfl (by kernel_rfl) (by kernel_rfl) (by kernel_rfl) (fun _ _ _ h => h) (by rfl) hS (fun w2 hw2 => ?ry125) ?rr125
                case ry125 => ((try dsimp only at hw2); go_simp <;> with_reducible rfl)
                simp only [Act.put, List.setIfInBounds_toArray, List.set_cons_zero, List.set_cons_succ]
                refine rg_take 39 (v := ?rv126) rfl (by kernel_rfl) (by kernel_rfl) (by kernel_rfl) (fun _ _ _ h => h) (by rfl) hS (fun w2 hw2 => ?ry126) ?rr126
                case ry126 => ((try dsimp only at hw2); go_simp <;> with_reducible rfl)
                simp only [Act.put, List.setIfInBounds_toArray, List.set_cons_zero, List.set_cons_succ]
                refine rg_take 40 (v := ?rv127) rfl (by kernel_rfl) (by kernel_rfl) (by kernel_rfl) (fun _ _ _ h => h) (by rfl) hS (fun w2 hw2 => ?ry127) ?rr127
                case ry127 => ((try dsimp only at hw2); go_simp <;> with_reducible rfl)
                simp only [Act.put, List.setIfInBounds_toArray, List.set_cons_zero, List.set_cons_succ]
                refine rg_take 41 (v := ?rv128) rfl (by kernel_rfl) (by kernel_rfl) (by kernel_rfl) (fun _ _ _ h => h) (by rfl) hS (fun w2 hw2 => ?ry128) ?rr128
                case ry128 => ((try dsimp only at hw2); go_simp <;> with_reducible rfl)
                simp only [Act.put, List.setIfInBounds_toArray, List.set_cons_zero, List.set_cons_succ]
                refine rg_take 42 (v := ?rv129) rfl (by kernel_rfl) (by kernel_rfl) (by kernel_rfl) (fun _ _ _ h => h) (by rfl) hS (fun w2 hw2 => ?ry129) ?rr129
                case ry129 => ((try dsimp only at hw2); go_simp <;> with_reducible rfl)
                simp only [Act.put, List.setIfInBounds_toArray, List.set_cons_zero, List.set_cons_succ]
                refine rg_take 43 (v := ?rv130) rfl (by kernel_rfl) (by kernel_rfl) (by kernel_rfl) (fun _ _ _ h => h) (by rfl) hS (fun w2 hw2 => ?ry130) ?rr130
                case ry130 => ((try dsimp only at hw2); go_simp <;> with_reducible rfl)
                simp only [Act.put, List.setIfInBounds_toArray, List.set_cons_zero, List.set_cons_succ]
                refine rg_take 44 (v := ?rv131) rfl (by kernel_rfl) (by kernel_rfl) (by kernel_rfl) (fun _ _ _ h => h) (by rfl) hS (fun w2 hw2 => ?ry131) ?rr131
                case ry131 => ((try dsimp only at hw2); go_simp <;> with_reducible rfl)
                simp only [Act.put, List.setIfInBounds_toArray, List.set_cons_zero, List.set_cons_succ]
                refine rg_take 45 (v := ?rv132) rfl (by kernel_rfl) (by kernel_rfl) (by kernel_rfl) (fun _ _ _ h => h) (by rfl) hS (fun w2 hw2 => ?ry132) ?rr132
                case ry132 => ((try dsimp only at hw2); go_simp <;> with_reducible rfl)
                simp only [Act.put, List.setIfInBounds_toArray, List.set_cons_zero, List.set_cons_succ]
                refine rg_take 46 (v := ?rv133) rfl (by kernel_rfl) (by kernel_rfl) (by kernel_rfl) (fun _ _ _ h => h) (by rfl) hS (fun w2 hw2 => ?ry133) ?rr133
                case ry133 => ((try dsimp only at hw2); go_simp <;> with_reducible rfl)
                simp only [Act.put, List.setIfInBounds_toArray, List.set_cons_zero, List.set_cons_succ]
                refine rg_take 47 (v := ?rv134) rfl (by kernel_rfl) (by kernel_rfl) (by kernel_rfl) (fun _ _ _ h => h) (by rfl) hS (fun w2 hw2 => ?ry134) ?rr134
                case ry134 => ((try dsimp only at hw2); go_simp <;> with_reducible rfl)
                simp only [Act.put, List.setIfInBounds_toArray, List.set_cons_zero, List.set_cons_succ]
                refine rg_take 48 (v := ?rv135) rfl (by kernel_rfl) (by kernel_rfl) (by kernel_rfl) (fun _ _ _ h => h) (by rfl) hS (fun w2 hw2 => ?ry135) ?rr135
                case ry135 => ((try dsimp only at hw2); go_simp <;> with_reducible rfl)
                simp only [Act.put, List.setIfInBounds_toArray, List.set_cons_zero, List.set_cons_succ]
                refine rg_take 49 (v := ?rv136) rfl (by kernel_rfl) (by kernel_rfl) (by kernel_rfl) (fun _ _ _ h => h) (by rfl) hS (fun w2 hw2 => ?ry136) ?rr136
                case ry136 => ((try dsimp only at hw2); go_simp <;> with_reducible rfl)
                simp only [Act.put, List.setIfInBounds_toArray, List.set_cons_zero, List.set_cons_succ]
                refine rg_take 50 (v := ?rv137) rfl (by kernel_rfl) (by kernel_rfl) (by kernel_rfl) (fun _ _ _ h => h) (by rfl) hS (fun w2 hw2 => ?ry137) ?rr137
                case ry137 => ((try dsimp only at hw2); go_simp <;> with_reducible rfl)
                simp only [Act.put, List.setIfInBounds_toArray, List.set_cons_zero, List.set_cons_succ]
                refine rg_take 51 (v := ?rv138) rfl (by kernel_rfl) (by kernel_rfl) (by kernel_rfl) (fun _ _ _ h => h) (by rfl) hS (fun w2 hw2 => ?ry138) ?rr138
                case ry138 => ((try dsimp only at hw2); go_simp <;> with_reducible rfl)
                simp only [Act.put, List.setIfInBounds_toArray, List.set_cons_zero, List.set_cons_succ]
                refine rg_take 52 (v := ?rv139) rfl (by kernel_rfl) (by kernel_rfl) (by kernel_rfl) (fun _ _ _ h => h) (by rfl) hS (fun w2 hw2 => ?ry139) ?rr139
                case ry139 => ((try dsimp only at hw2); go_simp <;> with_reducible rfl)
                simp only [Act.put, List.setIfInBounds_toArray, List.set_cons_zero, List.set_cons_succ]
                refine rg_take 53 (v := ?rv140) rfl (by kernel_rfl) (by kernel_rfl) (by kernel_rfl) (fun _ _ _ h => h) (by rfl) hS (fun w2 hw2 => ?ry140) ?rr140
                case ry140 => ((try dsimp only at hw2); go_simp <;> with_reducible rfl)
                simp only [Act.put, List.setIfInBounds_toArray, List.set_cons_zero, List.set_cons_succ]
                refine rg_take 54 (v := ?rv141) rfl (by kernel_rfl) (by kernel_rfl) (by kernel_rfl) (fun _ _ _ h => h) (by rfl) hS (fun w2 hw2 => ?ry141) ?rr141
                case ry141 => ((try dsimp only at hw2); go_simp <;> with_reducible rfl)
                simp only [Act.put, List.setIfInBounds_toArray, List.set_cons_zero, List.set_cons_succ]
                refine rg_take 55 (v := ?rv142) rfl (by kernel_rfl) (by kernel_rfl) (by kernel_rfl) (fun _ _ _ h => h) (by rfl) hS (fun w2 hw2 => ?ry142) ?rr142
                case ry142 => ((try dsimp only at hw2); go_simp <;> with_reducible rfl)
                simp only [Act.put, List.setIfInBounds_toArray, List.set_cons_zero, List.set_cons_succ]
                refine rg_take 56 (v := ?rv143) rfl (by kernel_rfl) (by kernel_rfl) (by kernel_rfl) (fun _ _ _ h => h) (by rfl) hS (fun w2 hw2 => ?ry143) ?rr143
                case ry143 => ((try dsimp only at hw2); go_simp <;> with_reducible rfl)
                simp only [Act.put, List.setIfInBounds_toArray, List.set_cons_zero, List.set_cons_succ]
                refine rg_take 57 (v := ?rv144) rfl (by kernel_rfl) (by kernel_rfl) (by kernel_rfl) (fun _ _ _ h => h) (by rfl) hS (fun w2 hw2 => ?ry144) ?rr144
                case ry144 => ((try dsimp only at hw2); go_simp <;> with_reducible rfl)
                simp only [Act.put, List.setIfInBounds_toArray, List.set_cons_zero, List.set_cons_succ]
                refine rg_take 58 (v := ?rv145) rfl (by kernel_rfl) (by kernel_rfl) (by kernel_rfl) (fun _ _ _ h => h) (by rfl) hS (fun w2 hw2 => ?ry145) ?rr145
                case ry145 => ((try dsimp only at hw2); go_simp <;> with_reducible rfl)
                simp only [Act.put, List.setIfInBounds_toArray, List.set_cons_zero, List.set_cons_succ]
                refine rg_take 59 (v := ?rv146) rfl (by kernel_rfl) (by kernel_rfl) (by kernel_rfl) (fun _ _ _ h => h) (by rfl) hS (fun w2 hw2 => ?ry146) ?rr146
                case ry146 => ((try dsimp only at hw2); go_simp <;> with_reducible rfl)
                simp only [Act.put, List.setIfInBounds_toArray, List.set_cons_zero, List.set_cons_succ]
                refine rg_take 60 (v := ?rv147) rfl (by kernel_rfl) (by kernel_rfl) (by kernel_rfl) (fun _ _ _ h => h) (by rfl) hS (fun w2 hw2 => ?ry147) ?rr147
                case ry147 => ((try dsimp only at hw2); go_simp <;> with_reducible rfl)
                simp only [Act.put, List.setIfInBounds_toArray, List.set_cons_zero, List.set_cons_succ]
                refine rg_take 61 (v := ?rv148) rfl (by kernel_rfl) (by kernel_rfl) (by kernel_rfl) (fun _ _ _ h => h) (by rfl) hS (fun w2 hw2 => ?ry148) ?rr148
                case ry148 => ((try dsimp only at hw2); go_simp <;> with_reducible rfl)
                simp only [Act.put, List.setIfInBounds_toArray, List.set_cons_zero, List.set_cons_succ]
                refine rg_take 62 (v := ?rv149) rfl (by kernel_rfl) (by kernel_rfl) (by kernel_rfl) (fun _ _ _ h => h) (by rfl) hS (fun w2 hw2 => ?ry149) ?rr149
                case ry149 => ((try dsimp only at hw2); go_simp <;> with_reducible rfl)
                simp only [Act.put, List.setIfInBounds_toArray, List.set_cons_zero, List.set_cons_succ]
                refine rg_done (by kernel_rfl) ?_
                have HB := Lib.hid (hWB.out.trans (hS.mono hWB.out.size))
                clear hS
                go_wp2_with fail
                exact ⟨⟨j + 1, hjd, by go_num, HB.out⟩, by simp [intOf]; omega⟩
          · obtain rfl : j = d := by omega
            have KD2 := Lib.hid ((H4.out.1.later hbr).due (by rw [HDL.out.2]; omega) 18446744073709551615)
            obtain ⟨da1, da2⟩ := due_all hL2.out
            have hlr : (dueL 18446744073709551615 L2).1.length = r := da1.length_eq.trans HDL.out.2
            rw [da2] at KD2
            have HLR := Lib.hid hlr
            clear da1 da2 hlr hbr
            go_wp2_with fail
            refine KD2.out.mono ?_
            rintro x w6 ⟨v2, rfl, s6, hEO6⟩
            obtain ⟨A6, c6, rfl, _, _⟩ := EnS.of_own hEO6
            rw [HLR.out]
            have KL2 := Lib.hid (show Calls Try.prog 9 #[.pointer (some ⟨g, 0, none⟩)] w6 fun e w' => e = .returned (.int .i64 0) ∧ w6 = w' from s6.len)
            have H6 := Lib.hid s6.below
            clear s6 hEO6
            go_wp2_with (refine KL2.out.mono ?_; rintro x w7 ⟨rfl, rfl⟩)
            go_ret
            exact ⟨rfl, H6.out⟩
-->>
end Go.Proofs.Ytdpmjbhkmfjpfaa
