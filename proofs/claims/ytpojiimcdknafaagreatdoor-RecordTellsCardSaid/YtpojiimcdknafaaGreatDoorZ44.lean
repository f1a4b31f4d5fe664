/-
  Package record's written, WriteQuestion, WriteRecord. Conditions: those of the slices; names of up to a million bytes; what the program's text has laid.
  stockadelaw13.awake answers true. Conditions: what the program's text has laid.
  stockaderef12.two, RightRecord: the document's own answer for whatever record. Conditions: those of the slice; names of 2,000 bytes at most.
  stockaderef12.RightRecord: the document's own answer where the type has a name, or none of these; then for whatever record. Conditions: those of the slice; names of 2,000 bytes at most.
  The document's Write of a name that may be one: a row of the call's own. No conditions.
-/
import Derived.Test.YtpojiimcdknafaaGreatDoorZ43
import Derived.Test.YtpojiimcdknafaaGreatDoorZ28
import Derived.Test.YtpojiimcdknafaaGreatDoorZ26
import Derived.Test.YtpojiimcdknafaaGreatDoorZ40
import Derived.Test.YtpojiimcdknafaaGreatDoorZ27
import Derived.Test.YtpojiimcdknafaaGreatDoorZ41
import Derived.Test.YtpojiimcdknafaaGreatDoorZ32
namespace Go.Proofs.YtpojiimcdknafaaGreatDoor
open Go.RowKit
set_option maxRecDepth 100000

set_option maxHeartbeats 2000000 in
/-- What a record bears, as bytes. -/
theorem written_any {r : Rc} (hk : r.ok) (hr : rightR r) {A : Option Addr} {n c : Nat} {w : World} (hb : Bs w A n c r.data) (hE : Env w) : Calls Tryz.prog 49 #[.agg (rcv r A n c)] w fun e w' => ∃ A' n' c', e = .returned (.tuple #[.slice A' n' c', .nilIface]) ∧ Bs w' A' n' c' (dataB r) ∧ Below w.heap.size w w' := by
  have a1 := RcBox.new w hk A n c
  have b1 : Below w.heap.size w (w.alloc (.cells (rcv r A n c) 28)) := (Below.refl _ _).alloc (Nat.le_refl _) _
  obtain ⟨W, hW⟩ : ∃ W, w.alloc (.cells (rcv r A n c) 28) = W := ⟨_, rfl⟩
  rw [hW] at a1 b1
  have HA := Lib.hid (And.intro a1 b1)
  have HW := Lib.hid hW
  have HB := Lib.hid (And.intro hb hE)
  have e21 := a1.target
  have e22 := a1.data
  have e1 := a1.kind
  have hc := alike_cases hr
  have htr := hr.2.2.1
  obtain ⟨name, kind, cls, ttl, v6, adr, target, data⟩ := r
  have hk' := hk
  unfold Rc.ok at hk'
  dsimp only at hc hk' e1 e21 e22 htr
  clear a1 b1 hW hb hE hr
  rcases hc with ⟨rfl, rfl, rfl, rfl⟩ | ⟨rfl, rfl, rfl, rfl⟩ | ⟨rfl, rfl, rfl, rfl⟩ | ⟨h28, h1, h5, rfl, rfl, rfl⟩
  · have e : dataB ⟨name, 28, cls, ttl, true, adr, [], []⟩ = adr := by
      show adr.take 16 = adr
      exact List.take_of_length_le (by omega)
    rw [e]
    clear e
    go_enter Tryz.func49, Tryz.ntmps49
    go_wp2_with (first | (refine wpList_load_rcAd rfl (.tmp 11) rfl rfl HA.out.1 ?_) | (rw [HW.out]))
    refine (widthR_any true adr hk' W).mono ?_
    rintro e w2 ⟨rfl, g2⟩
    rw [show widB true = 16 from rfl]
    have H2 := Lib.hid (And.intro (HA.out.1.later g2 (Nat.le_refl _)).adrB (HA.out.2.trans (g2.mono HA.out.2.size)))
    clear g2
    go_wp2_with fail
    go_ret2
    exact ⟨_, _, _, rfl, H2.out⟩
  · have e : dataB ⟨name, 1, cls, ttl, false, adr, [], []⟩ = adr.take 4 := rfl
    rw [e]
    clear e
    go_enter Tryz.func49, Tryz.ntmps49
    go_wp2_with (first | (refine wpList_load_rcAd rfl (.tmp 11) rfl rfl HA.out.1 ?_) | (rw [HW.out]))
    refine (widthR_any false adr hk' W).mono ?_
    rintro e w2 ⟨rfl, g2⟩
    rw [show widB false = 4 from rfl]
    have hB2 := (HA.out.1.later g2 (Nat.le_refl _)).adrB.cut (i := 0) (k := 4) (by omega) (A' := some ⟨w.heap.size, 5, none⟩) (fun _ => by simp [add_plain]) (by simp)
    rw [List.drop_zero] at hB2
    have H2 := Lib.hid (And.intro hB2 (HA.out.2.trans (g2.mono HA.out.2.size)))
    clear g2 hB2
    go_wp2_with fail
    go_ret2
    exact ⟨_, _, _, rfl, H2.out⟩
  · have e : dataB ⟨name, 5, cls, ttl, false, zero16, target, []⟩ = writeB target := rfl
    rw [e]
    clear e
    have hsz : target.length ≤ 1000000 := by
      have h1 := htr.2
      by_cases he : target = []
      · rw [he]; exact Nat.zero_le _
      · have := sizeL_labsN he; omega
    have KW := write_any (mkS target) (by rw [mkS_size]; exact hsz) (HB.out.2.later HA.out.2 (Nat.le_refl _))
    rw [mkS_data] at KW
    unfold writev writee at KW
    rw [if_pos htr, if_pos htr] at KW
    have K := Lib.hid KW
    clear KW
    go_enter Tryz.func49, Tryz.ntmps49
    go_wp2_with (rw [HW.out])
    refine K.out.mono ?_
    rintro e w2 ⟨A2, c2, v2, rfl, o2, t2, g2⟩
    obtain rfl := t2.none' rfl
    have H2 := Lib.hid (And.intro (Bs.own_later o2 fun _ _ => rfl) (HA.out.2.trans (g2.mono HA.out.2.size)))
    clear o2 t2 g2
    go_wp2_with fail
    go_ret2
    exact ⟨_, _, _, rfl, H2.out⟩
  · have e : dataB ⟨name, kind, cls, ttl, false, zero16, [], data⟩ = data := by
      unfold dataB
      dsimp only
      rw [if_neg (by omega), if_neg h5]
    rw [e]
    clear e
    go_enter Tryz.func49, Tryz.ntmps49
    go_wp2_with (rw [HW.out])
    go_ret2
    exact ⟨A, n, c, rfl, HB.out.1.later HA.out.2 (Nat.le_refl _), HA.out.2⟩
/-- What may be written is not long. -/
theorem right_len {s : List UInt8} (h : rightN s) : s.length ≤ 255 := by
  have h1 := h.2
  by_cases he : s = []
  · rw [he]; exact Nat.zero_le _
  · have := sizeL_labsN he; omega
theorem writeB_le {s : List UInt8} (h : rightN s) : (writeB s).length ≤ 255 := by
  have h1 := h.2
  unfold writeB
  rw [List.length_append, wireL_length]
  simp only [List.length_cons, List.length_nil]
  omega
set_option maxHeartbeats 4000000 in
/-- A question as it is written. -/
theorem writeQ_any (q : Qs) (hs : q.name.length ≤ 1000000) {w : World} (hE : Env w) : Calls Tryz.prog 16 #[.agg (qsv q)] w fun e w' =>
    ∃ A c v, e = .returned (.tuple #[.slice A (writeQv q).length c, v]) ∧ Bs w' A (writeQv q).length c (writeQv q) ∧ Tells w' v (writeQe q) ∧ Below w.heap.size w w' := by
  have a1 := QsBox.new w q
  have b1 : Below w.heap.size w (w.alloc (.cells (qsv q) 30)) := (Below.refl _ _).alloc (Nat.le_refl _) _
  obtain ⟨W, hW⟩ : ∃ W, w.alloc (.cells (qsv q) 30) = W := ⟨_, rfl⟩
  rw [hW] at a1 b1
  have HA := Lib.hid (And.intro a1 b1)
  have KQ := rightQ_any q hs (hE.later b1 (Nat.le_refl _))
  have HW := Lib.hid hW
  clear a1 b1 hW
  unfold writeQv writeQe
  by_cases hr : rightQ q
  · rw [if_pos hr, if_pos hr]
    rw [decide_eq_true hr] at KQ
    have KW := fun w1 (g : Below w.heap.size w w1) => write_any (mkS q.name) (by rw [mkS_size]; exact hs) (hE.later g (Nat.le_refl _))
    rw [mkS_data] at KW
    unfold writev writee at KW
    rw [if_pos hr.1, if_pos hr.1] at KW
    have hwl := writeB_le hr.1
    have hql : (writeQB q).length = (writeB q.name).length + 2 + 2 := by rw [writeQB_length]
    rw [hql]
    have hqe : (writeB q.name ++ putn q.kind 2) ++ putn q.cls 2 = writeQB q := by unfold writeQB; rw [List.append_assoc]
    obtain ⟨name, kind, cls⟩ := q
    dsimp only at KW hwl hqe hql ⊢
    rw [← hqe]
    have K := Lib.hid (And.intro KQ KW)
    have d1 : ∀ w', Below W.heap.size W w' → w'.cell? ⟨w.heap.size, 1, none⟩ = some (.int .i64 kind) := fun w' h => (HA.out.1.later h (Nat.le_refl _)).cell 1
    have d2 : ∀ w', Below W.heap.size W w' → w'.cell? ⟨w.heap.size, 2, none⟩ = some (.int .i64 cls) := fun w' h => (HA.out.1.later h (Nat.le_refl _)).cell 2
    have D1 := Lib.hid d1
    have D2 := Lib.hid d2
    clear KQ KW hr hE hqe hql d1 d2
    generalize writeB name = x at K hwl ⊢
    go_enter Tryz.func16, Tryz.ntmps16
    go_wp2_with (rw [HW.out]; refine wpList_load_qs rfl (.tmp 1) rfl rfl HA.out.1 ?_)
    refine K.out.1.mono ?_
    rintro e w2 ⟨rfl, g2⟩
    have H2 := Lib.hid (And.intro (HA.out.1.later g2 (Nat.le_refl _)) (And.intro g2 (HA.out.2.trans (g2.mono HA.out.2.size))))
    have e0 : w2.cell? ⟨w.heap.size, 0, none⟩ = some (.string (mkS name)) := H2.out.1.cell 0
    clear g2
    go_wp2_with fail
    refine (K.out.2 w2 H2.out.2.2).mono ?_
    rintro e w3 ⟨A3, c3, v3, rfl, o3, t3, g3⟩
    obtain rfl := t3.none' rfl
    have hb3 : Below W.heap.size W w3 := H2.out.2.1.trans (g3.mono H2.out.2.1.size)
    have H3 := Lib.hid (And.intro (Bs.own_later o3 fun _ _ => rfl) hb3)
    clear o3 t3 g3 e0 hb3
    have d1 := D1.out
    have d2 := D2.out
    go_wp2_with fail
    have hS : Below W.heap.size W w3.drew := H3.out.2.drew
    refine rg_begin (fun w' => Below W.heap.size W w') 9 (by kernel_rfl) rfl ?_
    refine rg_take 0 (v := ?rv1) rfl (by kernel_rfl) (by kernel_rfl) (by kernel_rfl) (fun _ _ _ h => h) (by rfl) hS (fun w2 hw2 => ?ry1) ?rr1
    case ry1 => ((try dsimp only at hw2); go_simp <;> with_reducible rfl)
    simp only [Act.put, List.setIfInBounds_toArray, List.set_cons_zero, List.set_cons_succ]
    refine rg_take 1 (v := ?rv2) rfl (by kernel_rfl) (by kernel_rfl) (by kernel_rfl) (fun _ _ _ h => h) (by rfl) hS (fun w2 hw2 => ?ry2) ?rr2
    case ry2 => ((try dsimp only at hw2); go_simp <;> with_reducible rfl)
    simp only [Act.put, List.setIfInBounds_toArray, List.set_cons_zero, List.set_cons_succ]
    refine rg_take 4 (v := ?rv3) rfl (by kernel_rfl) (by kernel_rfl) (by kernel_rfl) (fun _ _ _ h => h) (by rfl) hS (fun w2 hw2 => ?ry3) ?rr3
    case ry3 => ((try dsimp only at hw2); go_simp <;> with_reducible rfl)
    simp only [Act.put, List.setIfInBounds_toArray, List.set_cons_zero, List.set_cons_succ]
    refine rg_take 2 (v := ?rv4) rfl (by kernel_rfl) (by kernel_rfl) (by kernel_rfl) (fun _ _ _ h => h) (by rfl) hS (fun w2 hw2 => ?ry4) ?rr4
    case ry4 => ((try dsimp only at hw2); go_simp <;> with_reducible rfl)
    simp only [Act.put, List.setIfInBounds_toArray, List.set_cons_zero, List.set_cons_succ]
    refine rg_take 5 (v := ?rv5) rfl (by kernel_rfl) (by kernel_rfl) (by kernel_rfl) (fun _ _ _ h => h) (by rfl) hS (fun w2 hw2 => ?ry5) ?rr5
    case ry5 => ((try dsimp only at hw2); go_simp <;> with_reducible rfl)
    simp only [Act.put, List.setIfInBounds_toArray, List.set_cons_zero, List.set_cons_succ]
    refine rg_step 3 rfl (by kernel_rfl) (by rfl) (fun K hK => ?_)
    go_simp
    refine (put16_any (H3.out.1.later (Below.refl _ _).drew (Nat.le_refl _)) kind (by omega)).mono ?_
    rintro e w4 ⟨v4, rfl, o4, g4⟩
    obtain ⟨A4, c4, rfl, hB4⟩ := Bs.of_own o4
    replace hS := hS.trans (g4.mono hS.size)
    have H4 := Lib.hid hB4
    clear o4 g4 hB4
    refine hK.out _ _ hS ?_
    clear hK K
    try simp only [Act.put, List.setIfInBounds_toArray, List.set_cons_zero, List.set_cons_succ]
    refine rg_step 6 rfl (by kernel_rfl) (by rfl) (fun K hK => ?_)
    go_simp
    refine (put16_any H4.out cls (by omega)).mono ?_
    rintro e w5 ⟨v5, rfl, o5, g5⟩
    obtain ⟨A5, c5, rfl, hB5⟩ := Bs.of_own o5
    replace hS := hS.trans (g5.mono hS.size)
    have H5 := Lib.hid hB5
    clear o5 g5 hB5
    refine hK.out _ _ hS ?_
    clear hK K
    try simp only [Act.put, List.setIfInBounds_toArray, List.set_cons_zero, List.set_cons_succ]
    refine rg_take 7 (v := ?rv6) rfl (by kernel_rfl) (by kernel_rfl) (by kernel_rfl) (fun _ _ _ h => h) (by rfl) hS (fun w2 hw2 => ?ry6) ?rr6
    case ry6 => ((try dsimp only at hw2); go_simp <;> with_reducible rfl)
    simp only [Act.put, List.setIfInBounds_toArray, List.set_cons_zero, List.set_cons_succ]
    refine rg_take 8 (v := ?rv7) rfl (by kernel_rfl) (by kernel_rfl) (by kernel_rfl) (fun _ _ _ h => h) (by rfl) hS (fun w2 hw2 => ?ry7) ?rr7
    case ry7 => ((try dsimp only at hw2); go_simp <;> with_reducible rfl)
    simp only [Act.put, List.setIfInBounds_toArray, List.set_cons_zero, List.set_cons_succ]
    refine rg_done (by kernel_rfl) ?_
    have HS := Lib.hid (HA.out.2.trans (hS.mono HA.out.2.size))
    clear hS d1 d2
    go_wp2_with fail
    go_ret2
    exact ⟨A5, c5, .nilIface, rfl, H5.out, Tells.nil _ _ _, HS.out⟩
  · rw [if_neg hr, if_neg hr]
    rw [decide_eq_false hr] at KQ
    have K := Lib.hid KQ
    clear KQ hr hE
    go_enter Tryz.func16, Tryz.ntmps16
    go_wp2_with (rw [HW.out]; refine wpList_load_qs rfl (.tmp 1) rfl rfl HA.out.1 ?_)
    refine K.out.mono ?_
    rintro e w2 ⟨rfl, g2⟩
    have H2 := Lib.hid (HA.out.2.trans (g2.mono HA.out.2.size))
    clear g2
    go_wp2_with fail
    go_ret2
    exact ⟨none, 0, _, rfl, Bs.nil _, Tells.bare _ 1 (by decide) 0, H2.out⟩
set_option maxHeartbeats 4000000 in
/-- A record as it is written. -/
theorem writeR_any {r : Rc} (hk : r.ok) {A : Option Addr} {n c : Nat} {w : World} (hb : Bs w A n c r.data) (hn : r.name.length ≤ 1000000) (ht : r.target.length ≤ 1000000) (t0 : 0 ≤ r.ttl) (t1 : r.ttl < 4294967296) (hE : Env w) : Calls Tryz.prog 14 #[.agg (rcv r A n c)] w fun e w' =>
    ∃ A c v, e = .returned (.tuple #[.slice A (writeRv r).length c, v]) ∧ Bs w' A (writeRv r).length c (writeRv r) ∧ Tells w' v (writeRe r) ∧ Below w.heap.size w w' := by
  have a1 := RcBox.new w hk A n c
  have b1 : Below w.heap.size w (w.alloc (.cells (rcv r A n c) 28)) := (Below.refl _ _).alloc (Nat.le_refl _) _
  obtain ⟨W, hW⟩ : ∃ W, w.alloc (.cells (rcv r A n c) 28) = W := ⟨_, rfl⟩
  rw [hW] at a1 b1
  have HA := Lib.hid (And.intro a1 b1)
  have KR := rightR_any hk (hb.later b1 (Nat.le_refl _)) hn ht (hE.later b1 (Nat.le_refl _))
  have HW := Lib.hid hW
  clear a1 b1 hW
  unfold writeRv writeRe
  by_cases hr : rightR r
  · rw [if_pos hr, if_pos hr]
    rw [decide_eq_true hr] at KR
    have KW := fun w1 (g : Below w.heap.size w w1) => writeQ_any r.asks hn (hE.later g (Nat.le_refl _))
    unfold writeQv writeQe at KW
    rw [if_pos hr.1, if_pos hr.1] at KW
    have KD := fun w1 (g : Below w.heap.size w w1) => written_any hk hr (hb.later g (Nat.le_refl _)) (hE.later g (Nat.le_refl _))
    have hql : (writeQB r.asks).length ≤ 300 := by rw [writeQB_length]; have := writeB_le hr.1.1; omega
    have hdl := dataB_le hr
    have hrl : (writeRB r).length = (writeQB r.asks).length + 4 + 2 + (dataB r).length := by rw [writeRB_length]
    rw [hrl]
    have hre : ((writeQB r.asks ++ putn r.ttl 4) ++ putn ((dataB r).length : Nat) 2) ++ dataB r = writeRB r := by unfold writeRB; simp only [List.append_assoc]
    rw [← hre]
    have d3 : ∀ w', Below W.heap.size W w' → w'.cell? ⟨w.heap.size, 3, none⟩ = some (.int .u32 r.ttl) := fun w' h => (HA.out.1.later h (Nat.le_refl _)).ttl
    have D3 := Lib.hid d3
    have K := Lib.hid (And.intro KR (And.intro KW KD))
    have HK := Lib.hid hk
    clear KR KW KD hr hE hb hn ht hre hrl d3 hk
    generalize writeQB r.asks = x at K hql ⊢
    generalize dataB r = y at K hdl ⊢
    go_enter Tryz.func14, Tryz.ntmps14
    go_wp2_with (rw [HW.out]; refine wpList_load_rc rfl (.tmp 1) rfl rfl HA.out.1 ?_)
    refine K.out.1.mono ?_
    rintro e w2 ⟨rfl, g2⟩
    have H2 := Lib.hid (And.intro (HA.out.1.later g2 (Nat.le_refl _)) (And.intro g2 (HA.out.2.trans (g2.mono HA.out.2.size))))
    clear g2
    go_wp2_with (refine wpList_load_rc rfl (.tmp 1) rfl rfl H2.out.1 ?_)
    refine (asked_any HK.out A n c w2).mono ?_
    rintro e w3 ⟨rfl, g3⟩
    have H3 := Lib.hid (And.intro (H2.out.1.later g3 (Nat.le_refl _)) (And.intro (H2.out.2.1.trans (g3.mono H2.out.2.1.size)) (H2.out.2.2.trans (g3.mono H2.out.2.2.size))))
    clear g3
    go_wp2_with fail
    refine (K.out.2.1 w3 H3.out.2.2).mono ?_
    rintro e w4 ⟨A4, c4, v4, rfl, hB4, t4, g4⟩
    obtain rfl := t4.none' rfl
    have H4 := Lib.hid (And.intro (H3.out.1.later g4 (Nat.le_refl _)) (And.intro hB4 (And.intro (H3.out.2.1.trans (g4.mono H3.out.2.1.size)) (H3.out.2.2.trans (g4.mono H3.out.2.2.size)))))
    clear hB4 t4 g4
    go_wp2_with (refine wpList_load_rc rfl (.tmp 1) rfl rfl H4.out.1 ?_)
    refine (K.out.2.2 w4 H4.out.2.2.2).mono ?_
    rintro e w5 ⟨A5, n5, c5, rfl, hB5, g5⟩
    obtain rfl : n5 = y.length := hB5.len.symm
    have H5 := Lib.hid (And.intro (H4.out.2.1.later g5 (Nat.le_refl _)) (And.intro hB5 (And.intro (H4.out.2.2.1.trans (g5.mono H4.out.2.2.1.size)) (H4.out.2.2.2.trans (g5.mono H4.out.2.2.2.size)))))
    have e3 := D3.out w5 H5.out.2.2.1
    clear hB5 g5
    go_wp2_with fail
    refine (put32_any H5.out.1 r.ttl t0 t1 (by omega)).mono ?_
    rintro e w6 ⟨v6, rfl, o6, g6⟩
    obtain ⟨A6, c6, rfl, hB6⟩ := Bs.of_own o6
    have H6 := Lib.hid (And.intro hB6 (And.intro (H5.out.2.1.later g6 (Nat.le_refl _)) (H5.out.2.2.2.trans (g6.mono H5.out.2.2.2.size))))
    clear o6 g6 hB6 e3
    go_wp2_with fail
    refine (put16_any H6.out.1 (y.length : Nat) (by omega)).mono ?_
    rintro e w7 ⟨v7, rfl, o7, g7⟩
    obtain ⟨A7, c7, rfl, hB7⟩ := Bs.of_own o7
    have H7 := Lib.hid (And.intro hB7 (And.intro (H6.out.2.1.later g7 (Nat.le_refl _)) (H6.out.2.2.trans (g7.mono H6.out.2.2.size))))
    clear o7 g7 hB7
    have hp := pieces_new (w := w7) [⟨A7, x.length + 4 + 2, c7, (x ++ putn r.ttl 4) ++ putn (y.length : Nat) 2⟩, ⟨A5, y.length, c5, y⟩] (by simp only [List.mem_cons, List.not_mem_nil, or_false]; rintro p (rfl | rfl) <;> first | exact H7.out.1 | exact H7.out.2.1) #[.slice A7 (x.length + 4 + 2) c7, .slice A5 y.length c5] rfl 22
    have kc := concat_any w7.heap.size 2 2 _ _ rfl (by omega) hp (by simp [total]; omega)
    have HC := Lib.hid (And.intro kc (H7.out.2.2.alloc H7.out.2.2.size (.cells #[.slice A7 (x.length + 4 + 2) c7, .slice A5 y.length c5] 22)))
    clear hp kc
    go_wp2_with fail
    refine HC.out.1.mono ?_
    rintro e w8 ⟨v8, rfl, o8, g8⟩
    have o9 := o8
    simp only [flat, List.flatMap_cons, List.flatMap_nil, List.append_nil] at o9
    replace o9 := owns_n (n' := x.length + 4 + 2 + y.length) (by simp [total]) o9
    obtain ⟨A9, c9, rfl, hB9⟩ := Bs.of_own o9
    have H9 := Lib.hid (And.intro hB9 (HC.out.2.trans (g8.mono HC.out.2.size)))
    clear o8 o9 g8 hB9
    go_wp2_with fail
    go_ret2
    exact ⟨A9, c9, .nilIface, rfl, H9.out.1, Tells.nil _ _ _, H9.out.2⟩
  · rw [if_neg hr, if_neg hr]
    rw [decide_eq_false hr] at KR
    have K := Lib.hid KR
    clear KR hr hE hb
    go_enter Tryz.func14, Tryz.ntmps14
    go_wp2_with (rw [HW.out]; refine wpList_load_rc rfl (.tmp 1) rfl rfl HA.out.1 ?_)
    refine K.out.mono ?_
    rintro e w2 ⟨rfl, g2⟩
    have H2 := Lib.hid (HA.out.2.trans (g2.mono HA.out.2.size))
    clear g2
    go_wp2_with fail
    go_ret2
    exact ⟨none, 0, _, rfl, Bs.nil _, Tells.bare _ 1 (by decide) 0, H2.out⟩
end Go.Proofs.YtpojiimcdknafaaGreatDoor

namespace Go.Proofs.YtpojiimcdknafaaGreatDoor
open Go.RowKit
set_option maxRecDepth 100000

theorem awake_read : readQv [0, 0, 1, 0, 1] 5 0 = ⟨⟨[], 1, 1⟩, 5, fl0⟩ :=
  back_q (l := [0, 0, 1, 0, 1]) (n := 5) rfl (q := ⟨[], 1, 1⟩) (by decide +kernel) (at_ := 0) (rest := []) (by omega) (by decide +kernel)
theorem awake_right : rightR ⟨[], 9, 0, 0, false, zero16, [], []⟩ := by decide +kernel
set_option maxHeartbeats 2000000 in
theorem awake13 {w : World} (hE : Env w) : Calls Tryz.prog 9 #[] w fun e w' => e = .returned (.bool true) ∧ Below w.heap.size w w' := by
  have hB := Bs.lit w [0, 0, 1, 0, 1] 5 rfl (by unfold maxLen; omega) #[.int .u8 0, .int .u8 0, .int .u8 1, .int .u8 0, .int .u8 1] rfl 5
  have hW : Below w.heap.size w (w.alloc (.cells #[.int .u8 0, .int .u8 0, .int .u8 1, .int .u8 0, .int .u8 1] 5)) := (Below.refl _ _).alloc (Nat.le_refl _) _
  have K := readQ_any hB (by omega) 0 (by omega)
  rw [awake_read] at K
  unfold ReadQR at K
  have KR := fun w1 (g : Below w.heap.size w w1) => rightR_any (r := ⟨[], 9, 0, 0, false, zero16, [], []⟩) rfl (Bs.nil w1) (by decide) (by decide) (hE.later g (Nat.le_refl _))
  rw [decide_eq_true awake_right] at KR
  have HK := Lib.hid (And.intro K (And.intro hW KR))
  clear K hW hB KR hE
  go_enter Tryz.func9, Tryz.ntmps9
  go_wp2_with fail
  refine HK.out.1.mono ?_
  rintro e w1 ⟨v1, rfl, t1, b1⟩
  obtain rfl := t1.none' rfl
  have H1 := Lib.hid (HK.out.2.1.trans (b1.mono HK.out.2.1.size))
  clear t1 b1
  go_wp2_with (first
    | (refine wpList_wanted (by rfl) (wp_build_rc1 (.const (.int .i64 9)) rfl 9 rfl ?_))
    | (refine wpList_store_qs rfl (.tmp 1) (.tmp 7) rfl ⟨[], 1, 1⟩ rfl rfl H2.out.1 ?_; intro w3 a3 o3 z3 g3; have H3 := Lib.hid (And.intro a3 (g3 w.heap.size w H1.out.size H2.out.2)); (have e1 : w3.cell? ⟨w1.heap.size, 1, none⟩ = some (.int .i64 1) := H3.out.1.cell 1); clear a3 o3 z3 g3)
    | (refine wpList_alloc_qs rfl rfl ?_; intro w2 a2 g2 z2; have H2 := Lib.hid (And.intro a2 (H1.out.trans (g2.mono H1.out.size))); clear a2 g2 z2))
  refine (HK.out.2.2 w3 H3.out.2).mono ?_
  rintro e w4 ⟨rfl, b4⟩
  have H4 := Lib.hid (H3.out.2.trans (b4.mono H3.out.2.size))
  clear b4 e1
  go_wp2_with fail
  go_ret
  exact ⟨rfl, H4.out⟩
end Go.Proofs.YtpojiimcdknafaaGreatDoor

namespace Go.Proofs.YtpojiimcdknafaaGreatDoor
open Go.RowKit
set_option maxRecDepth 100000

theorem mkS_nil {l : List UInt8} (h : l = []) : (mkS l).toList.isEmpty = true := by rw [h, Lib.toList_data, mkS_data]; rfl
theorem mkS_full {l : List UInt8} (h : l ≠ []) : (mkS l).toList.isEmpty = false := by
  rw [Lib.toList_data, mkS_data]
  cases l with
  | nil => exact absurd rfl h
  | cons _ _ => rfl
theorem two_any (v : Int) (w : World) : Calls Tryz.prog 57 #[.int .i64 v] w fun e w' => e = .returned (.bool (decide (shortI v))) ∧ w = w' := by
  unfold shortI
  by_cases h0 : 0 ≤ v
  · by_cases h1 : v ≤ 65535
    · rw [decide_eq_true (⟨h0, h1⟩ : 0 ≤ v ∧ v ≤ 65535)]
      go_enter Tryz.func57, Tryz.ntmps57
      go_wp2
      go_ret
      exact ⟨rfl, rfl⟩
    · rw [decide_eq_false (show ¬ (0 ≤ v ∧ v ≤ 65535) from fun h => h1 h.2)]
      go_enter Tryz.func57, Tryz.ntmps57
      go_wp2
      go_ret
      exact ⟨rfl, rfl⟩
  · rw [decide_eq_false (show ¬ (0 ≤ v ∧ v ≤ 65535) from fun h => h0 h.1)]
    go_enter Tryz.func57, Tryz.ntmps57
    go_wp2
    go_ret
    exact ⟨rfl, rfl⟩
set_option maxHeartbeats 8000000 in
theorem ref_rightR_addr {r : Rc} (hk : r.ok) (hkd : r.kind = 28 ∨ r.kind = 1) {A : Option Addr} {n c : Nat} {w : World} (hb : Bs w A n c r.data) (hn : r.name.length ≤ 2000) (ht : r.target.length ≤ 2000) : Calls Tryz.prog 22 #[.agg (rcv r A n c)] w fun e w' => e = .returned (.bool (decide (rightR r))) ∧ Below w.heap.size w w' := by
  have a1 := RcBox.new w hk A n c
  have b1 : Below w.heap.size w (w.alloc (.cells (rcv r A n c) 28)) := (Below.refl _ _).alloc (Nat.le_refl _) _
  obtain ⟨W, hW⟩ : ∃ W, w.alloc (.cells (rcv r A n c) 28) = W := ⟨_, rfl⟩
  rw [hW] at a1 b1
  have HA := Lib.hid (And.intro a1 b1)
  have HW := Lib.hid hW
  have d0 : ∀ w', Below W.heap.size W w' → w'.cell? ⟨w.heap.size, 0, none⟩ = some (.string (mkS r.name)) := fun w' h => (HA.out.1.later h (Nat.le_refl _)).name
  have d1 : ∀ w', Below W.heap.size W w' → w'.cell? ⟨w.heap.size, 1, none⟩ = some (.int .i64 r.kind) := fun w' h => (HA.out.1.later h (Nat.le_refl _)).kind
  have d2 : ∀ w', Below W.heap.size W w' → w'.cell? ⟨w.heap.size, 2, none⟩ = some (.int .i64 r.cls) := fun w' h => (HA.out.1.later h (Nat.le_refl _)).cls
  have d4 : ∀ w', Below W.heap.size W w' → w'.cell? ⟨w.heap.size, 4, none⟩ = some (.bool r.v6) := fun w' h => (HA.out.1.later h (Nat.le_refl _)).v6
  have d21 : ∀ w', Below W.heap.size W w' → w'.cell? ⟨w.heap.size, 21, none⟩ = some (.string (mkS r.target)) := fun w' h => (HA.out.1.later h (Nat.le_refl _)).target
  have d22 : ∀ w', Below W.heap.size W w' → w'.cell? ⟨w.heap.size, 22, none⟩ = some (.slice A n c) := fun w' h => (HA.out.1.later h (Nat.le_refl _)).data
  have KA := fun w1 => refRight_any r.v6 r.adr hk w1
  rw [rightv_dec r.v6 hk] at KA
  have KT := fun w1 => ref_right (mkS r.target) (by rw [mkS_size]; exact ht) w1
  rw [mkS_data] at KT
  have KN := fun w1 => ref_right (mkS r.name) (by rw [mkS_size]; exact hn) w1
  rw [mkS_data] at KN
  have hlen := hb.len
  clear a1 b1 hW hb
  by_cases h0 : rightN r.name
  case neg =>
    rw [decide_eq_false (show ¬ rightR r from fun h => h0 h.1.1)]
    rw [decide_eq_false h0] at KN
    have KN := Lib.hid KN
    have D0 := Lib.hid d0
    have D1 := Lib.hid d1
    have D2 := Lib.hid d2
    have e0 := d0 W (Below.refl _ _)
    rw [← HW.out] at e0
    clear d0 d1 d2
    go_enter Tryz.func22, Tryz.ntmps22
    go_wp2_with fail
    rw [HW.out]
    refine (KN.out _).mono ?_
    rintro e w1 ⟨rfl, g1⟩
    have G1 := Lib.hid g1
    have e1 := D1.out w1 g1
    have e2 := D2.out w1 g1
    clear g1
    go_wp2_with fail
    go_ret
    exact ⟨rfl, HA.out.2.trans (G1.out.mono HA.out.2.size)⟩
  by_cases h1 : shortI r.kind
  case neg =>
    rw [decide_eq_false (show ¬ rightR r from fun h => h1 h.1.2.1)]
    rw [decide_eq_true h0] at KN
    have KN := Lib.hid KN
    have D0 := Lib.hid d0
    have D1 := Lib.hid d1
    have D2 := Lib.hid d2
    have e0 := d0 W (Below.refl _ _)
    rw [← HW.out] at e0
    clear d0 d1 d2
    go_enter Tryz.func22, Tryz.ntmps22
    go_wp2_with fail
    rw [HW.out]
    refine (KN.out _).mono ?_
    rintro e w1 ⟨rfl, g1⟩
    have G1 := Lib.hid g1
    have e1 := D1.out w1 g1
    have e2 := D2.out w1 g1
    clear g1
    go_wp2_with fail
    refine (two_any _ _).mono ?_
    rintro e w2 ⟨rfl, rfl⟩
    rw [decide_eq_false h1]
    go_wp2_with fail
    go_ret
    exact ⟨rfl, HA.out.2.trans (G1.out.mono HA.out.2.size)⟩
  by_cases h2 : shortI r.cls
  case neg =>
    rw [decide_eq_false (show ¬ rightR r from fun h => h2 h.1.2.2)]
    rw [decide_eq_true h0] at KN
    have KN := Lib.hid KN
    have D0 := Lib.hid d0
    have D1 := Lib.hid d1
    have D2 := Lib.hid d2
    have e0 := d0 W (Below.refl _ _)
    rw [← HW.out] at e0
    clear d0 d1 d2
    go_enter Tryz.func22, Tryz.ntmps22
    go_wp2_with fail
    rw [HW.out]
    refine (KN.out _).mono ?_
    rintro e w1 ⟨rfl, g1⟩
    have G1 := Lib.hid g1
    have e1 := D1.out w1 g1
    have e2 := D2.out w1 g1
    clear g1
    go_wp2_with fail
    refine (two_any _ _).mono ?_
    rintro e w2 ⟨rfl, rfl⟩
    rw [decide_eq_true h1]
    go_wp2_with fail
    refine (two_any _ _).mono ?_
    rintro e w2 ⟨rfl, rfl⟩
    rw [decide_eq_false h2]
    go_wp2_with fail
    go_ret
    exact ⟨rfl, HA.out.2.trans (G1.out.mono HA.out.2.size)⟩
  rw [decide_eq_true h0] at KN
  by_cases k28 : r.kind = 28
  · rw [k28] at d1 h1
    have hc : rightR r → r.v6 = true ∧ r.target = [] ∧ r.data = [] := fun h => by
      rcases alike_cases h with x | x | x | x
      · exact x.2
      · omega
      · omega
      · omega
    by_cases ha : rightA r.v6 r.adr
    case neg =>
      by_cases hv : r.v6 = true
      case pos =>
        rw [decide_eq_false (show ¬ rightR r from fun h => ha h.2.1)]
        rw [decide_eq_false ha] at KA
        rw [hv] at d4 KA
        have KN := Lib.hid KN
        have KA := Lib.hid KA
        have KT := Lib.hid KT
        have D0 := Lib.hid d0
        have D1 := Lib.hid d1
        have D2 := Lib.hid d2
        have D4 := Lib.hid d4
        have D21 := Lib.hid d21
        have D22 := Lib.hid d22
        have e0 := d0 W (Below.refl _ _)
        rw [← HW.out] at e0
        clear d0 d1 d2 d4 d21 d22
        go_enter Tryz.func22, Tryz.ntmps22
        go_wp2_with fail
        rw [HW.out]
        refine (KN.out _).mono ?_
        rintro e w1 ⟨rfl, g1⟩
        have G1 := Lib.hid g1
        have e1 := D1.out w1 g1
        have e2 := D2.out w1 g1
        clear g1
        go_wp2_with fail
        refine (two_any _ _).mono ?_
        rintro e w2 ⟨rfl, rfl⟩
        rw [decide_eq_true h1]
        go_wp2_with fail
        refine (two_any _ _).mono ?_
        rintro e w2 ⟨rfl, rfl⟩
        rw [decide_eq_true h2]
        have R1 := Lib.hid (HA.out.1.later G1.out (Nat.le_refl _))
        go_wp2_with (refine wpList_load_rcAd rfl (.tmp 24) rfl rfl R1.out ?_)
        refine (KA.out _).mono ?_
        rintro e w3 ⟨rfl, g3⟩
        have G3 := Lib.hid (G1.out.trans (g3.mono G1.out.size))
        have f1 := D1.out w3 G3.out
        have f4 := D4.out w3 G3.out
        have f21 := D21.out w3 G3.out
        have f22 := D22.out w3 G3.out
        clear g3 e1 e2
        go_wp2_with fail
        go_ret
        exact ⟨rfl, HA.out.2.trans (G3.out.mono HA.out.2.size)⟩
      replace hv := eq_false_of_ne_true hv
      rw [decide_eq_false (show ¬ rightR r from fun h => ha h.2.1)]
      rw [decide_eq_false ha] at KA
      rw [hv] at d4 KA
      have KN := Lib.hid KN
      have KA := Lib.hid KA
      have KT := Lib.hid KT
      have D0 := Lib.hid d0
      have D1 := Lib.hid d1
      have D2 := Lib.hid d2
      have D4 := Lib.hid d4
      have D21 := Lib.hid d21
      have D22 := Lib.hid d22
      have e0 := d0 W (Below.refl _ _)
      rw [← HW.out] at e0
      clear d0 d1 d2 d4 d21 d22
      go_enter Tryz.func22, Tryz.ntmps22
      go_wp2_with fail
      rw [HW.out]
      refine (KN.out _).mono ?_
      rintro e w1 ⟨rfl, g1⟩
      have G1 := Lib.hid g1
      have e1 := D1.out w1 g1
      have e2 := D2.out w1 g1
      clear g1
      go_wp2_with fail
      refine (two_any _ _).mono ?_
      rintro e w2 ⟨rfl, rfl⟩
      rw [decide_eq_true h1]
      go_wp2_with fail
      refine (two_any _ _).mono ?_
      rintro e w2 ⟨rfl, rfl⟩
      rw [decide_eq_true h2]
      have R1 := Lib.hid (HA.out.1.later G1.out (Nat.le_refl _))
      go_wp2_with (refine wpList_load_rcAd rfl (.tmp 24) rfl rfl R1.out ?_)
      refine (KA.out _).mono ?_
      rintro e w3 ⟨rfl, g3⟩
      have G3 := Lib.hid (G1.out.trans (g3.mono G1.out.size))
      have f1 := D1.out w3 G3.out
      have f4 := D4.out w3 G3.out
      have f21 := D21.out w3 G3.out
      have f22 := D22.out w3 G3.out
      clear g3 e1 e2
      go_wp2_with fail
      go_ret
      exact ⟨rfl, HA.out.2.trans (G3.out.mono HA.out.2.size)⟩
    rw [decide_eq_true ha] at KA
    by_cases hv : r.v6 = true
    case neg =>
      have hv2 : r.v6 = false := by cases hq : r.v6 <;> simp_all
      rw [decide_eq_false (show ¬ rightR r from fun h => hv (hc h).1)]
      rw [hv2] at d4 KA
      have KN := Lib.hid KN
      have KA := Lib.hid KA
      have KT := Lib.hid KT
      have D0 := Lib.hid d0
      have D1 := Lib.hid d1
      have D2 := Lib.hid d2
      have D4 := Lib.hid d4
      have D21 := Lib.hid d21
      have D22 := Lib.hid d22
      have e0 := d0 W (Below.refl _ _)
      rw [← HW.out] at e0
      clear d0 d1 d2 d4 d21 d22
      go_enter Tryz.func22, Tryz.ntmps22
      go_wp2_with fail
      rw [HW.out]
      refine (KN.out _).mono ?_
      rintro e w1 ⟨rfl, g1⟩
      have G1 := Lib.hid g1
      have e1 := D1.out w1 g1
      have e2 := D2.out w1 g1
      clear g1
      go_wp2_with fail
      refine (two_any _ _).mono ?_
      rintro e w2 ⟨rfl, rfl⟩
      rw [decide_eq_true h1]
      go_wp2_with fail
      refine (two_any _ _).mono ?_
      rintro e w2 ⟨rfl, rfl⟩
      rw [decide_eq_true h2]
      have R1 := Lib.hid (HA.out.1.later G1.out (Nat.le_refl _))
      go_wp2_with (refine wpList_load_rcAd rfl (.tmp 24) rfl rfl R1.out ?_)
      refine (KA.out _).mono ?_
      rintro e w3 ⟨rfl, g3⟩
      have G3 := Lib.hid (G1.out.trans (g3.mono G1.out.size))
      have f1 := D1.out w3 G3.out
      have f4 := D4.out w3 G3.out
      have f21 := D21.out w3 G3.out
      have f22 := D22.out w3 G3.out
      clear g3 e1 e2
      go_wp2_with fail
      go_ret
      exact ⟨rfl, HA.out.2.trans (G3.out.mono HA.out.2.size)⟩
    rw [hv] at d4 KA
    by_cases hq : r.target = []
    case neg =>
      have he := mkS_full hq
      rw [decide_eq_false (show ¬ rightR r from fun h => hq (hc h).2.1)]
      have KN := Lib.hid KN
      have KA := Lib.hid KA
      have KT := Lib.hid KT
      have D0 := Lib.hid d0
      have D1 := Lib.hid d1
      have D2 := Lib.hid d2
      have D4 := Lib.hid d4
      have D21 := Lib.hid d21
      have D22 := Lib.hid d22
      have e0 := d0 W (Below.refl _ _)
      rw [← HW.out] at e0
      clear d0 d1 d2 d4 d21 d22
      go_enter Tryz.func22, Tryz.ntmps22
      go_wp2_with fail
      rw [HW.out]
      refine (KN.out _).mono ?_
      rintro e w1 ⟨rfl, g1⟩
      have G1 := Lib.hid g1
      have e1 := D1.out w1 g1
      have e2 := D2.out w1 g1
      clear g1
      go_wp2_with fail
      refine (two_any _ _).mono ?_
      rintro e w2 ⟨rfl, rfl⟩
      rw [decide_eq_true h1]
      go_wp2_with fail
      refine (two_any _ _).mono ?_
      rintro e w2 ⟨rfl, rfl⟩
      rw [decide_eq_true h2]
      have R1 := Lib.hid (HA.out.1.later G1.out (Nat.le_refl _))
      go_wp2_with (refine wpList_load_rcAd rfl (.tmp 24) rfl rfl R1.out ?_)
      refine (KA.out _).mono ?_
      rintro e w3 ⟨rfl, g3⟩
      have G3 := Lib.hid (G1.out.trans (g3.mono G1.out.size))
      have f1 := D1.out w3 G3.out
      have f4 := D4.out w3 G3.out
      have f21 := D21.out w3 G3.out
      have f22 := D22.out w3 G3.out
      clear g3 e1 e2
      go_wp2_with fail
      go_ret
      exact ⟨rfl, HA.out.2.trans (G3.out.mono HA.out.2.size)⟩
    have he := mkS_nil hq
    by_cases hz : n = 0
    case neg =>
      rw [decide_eq_false (show ¬ rightR r from fun h => hz (by rw [← hlen, (hc h).2.2]; rfl))]
      have hzz : ((n : Int) == 0) = false := by rw [beq_eq_false_iff_ne]; omega
      clear hq
      have KN := Lib.hid KN
      have KA := Lib.hid KA
      have KT := Lib.hid KT
      have D0 := Lib.hid d0
      have D1 := Lib.hid d1
      have D2 := Lib.hid d2
      have D4 := Lib.hid d4
      have D21 := Lib.hid d21
      have D22 := Lib.hid d22
      have e0 := d0 W (Below.refl _ _)
      rw [← HW.out] at e0
      clear d0 d1 d2 d4 d21 d22
      go_enter Tryz.func22, Tryz.ntmps22
      go_wp2_with fail
      rw [HW.out]
      refine (KN.out _).mono ?_
      rintro e w1 ⟨rfl, g1⟩
      have G1 := Lib.hid g1
      have e1 := D1.out w1 g1
      have e2 := D2.out w1 g1
      clear g1
      go_wp2_with fail
      refine (two_any _ _).mono ?_
      rintro e w2 ⟨rfl, rfl⟩
      rw [decide_eq_true h1]
      go_wp2_with fail
      refine (two_any _ _).mono ?_
      rintro e w2 ⟨rfl, rfl⟩
      rw [decide_eq_true h2]
      have R1 := Lib.hid (HA.out.1.later G1.out (Nat.le_refl _))
      go_wp2_with (refine wpList_load_rcAd rfl (.tmp 24) rfl rfl R1.out ?_)
      refine (KA.out _).mono ?_
      rintro e w3 ⟨rfl, g3⟩
      have G3 := Lib.hid (G1.out.trans (g3.mono G1.out.size))
      have f1 := D1.out w3 G3.out
      have f4 := D4.out w3 G3.out
      have f21 := D21.out w3 G3.out
      have f22 := D22.out w3 G3.out
      clear g3 e1 e2
      go_wp2_with fail
      go_ret
      exact ⟨rfl, HA.out.2.trans (G3.out.mono HA.out.2.size)⟩
    have hd0 : r.data = [] := List.length_eq_zero_iff.1 (by omega)
    have hR : rightR r := ⟨⟨h0, (by show shortI r.kind; rw [k28]; exact h1), h2⟩, ha, (by rw [hq]; decide), (by rw [hd0]; decide), (by unfold alikeV bareV; rw [if_pos k28]; exact ⟨⟨hv, rfl⟩, hq, hd0⟩)⟩
    rw [decide_eq_true hR]
    rw [hz] at d22
    clear hz hR hd0 hc hlen hq
    have KN := Lib.hid KN
    have KA := Lib.hid KA
    have KT := Lib.hid KT
    have D0 := Lib.hid d0
    have D1 := Lib.hid d1
    have D2 := Lib.hid d2
    have D4 := Lib.hid d4
    have D21 := Lib.hid d21
    have D22 := Lib.hid d22
    have e0 := d0 W (Below.refl _ _)
    rw [← HW.out] at e0
    clear d0 d1 d2 d4 d21 d22
    go_enter Tryz.func22, Tryz.ntmps22
    go_wp2_with fail
    rw [HW.out]
    refine (KN.out _).mono ?_
    rintro e w1 ⟨rfl, g1⟩
    have G1 := Lib.hid g1
    have e1 := D1.out w1 g1
    have e2 := D2.out w1 g1
    clear g1
    go_wp2_with fail
    refine (two_any _ _).mono ?_
    rintro e w2 ⟨rfl, rfl⟩
    rw [decide_eq_true h1]
    go_wp2_with fail
    refine (two_any _ _).mono ?_
    rintro e w2 ⟨rfl, rfl⟩
    rw [decide_eq_true h2]
    have R1 := Lib.hid (HA.out.1.later G1.out (Nat.le_refl _))
    go_wp2_with (refine wpList_load_rcAd rfl (.tmp 24) rfl rfl R1.out ?_)
    refine (KA.out _).mono ?_
    rintro e w3 ⟨rfl, g3⟩
    have G3 := Lib.hid (G1.out.trans (g3.mono G1.out.size))
    have f1 := D1.out w3 G3.out
    have f4 := D4.out w3 G3.out
    have f21 := D21.out w3 G3.out
    have f22 := D22.out w3 G3.out
    clear g3 e1 e2
    go_wp2_with fail
    go_ret
    exact ⟨rfl, HA.out.2.trans (G3.out.mono HA.out.2.size)⟩
  by_cases k1 : r.kind = 1
  · rw [k1] at d1 h1
    have hc : rightR r → r.v6 = false ∧ r.target = [] ∧ r.data = [] := fun h => by
      rcases alike_cases h with x | x | x | x
      · omega
      · exact x.2
      · omega
      · omega
    by_cases ha : rightA r.v6 r.adr
    case neg =>
      by_cases hv : r.v6 = true
      case pos =>
        rw [decide_eq_false (show ¬ rightR r from fun h => ha h.2.1)]
        rw [decide_eq_false ha] at KA
        rw [hv] at d4 KA
        have KN := Lib.hid KN
        have KA := Lib.hid KA
        have KT := Lib.hid KT
        have D0 := Lib.hid d0
        have D1 := Lib.hid d1
        have D2 := Lib.hid d2
        have D4 := Lib.hid d4
        have D21 := Lib.hid d21
        have D22 := Lib.hid d22
        have e0 := d0 W (Below.refl _ _)
        rw [← HW.out] at e0
        clear d0 d1 d2 d4 d21 d22
        go_enter Tryz.func22, Tryz.ntmps22
        go_wp2_with fail
        rw [HW.out]
        refine (KN.out _).mono ?_
        rintro e w1 ⟨rfl, g1⟩
        have G1 := Lib.hid g1
        have e1 := D1.out w1 g1
        have e2 := D2.out w1 g1
        clear g1
        go_wp2_with fail
        refine (two_any _ _).mono ?_
        rintro e w2 ⟨rfl, rfl⟩
        rw [decide_eq_true h1]
        go_wp2_with fail
        refine (two_any _ _).mono ?_
        rintro e w2 ⟨rfl, rfl⟩
        rw [decide_eq_true h2]
        have R1 := Lib.hid (HA.out.1.later G1.out (Nat.le_refl _))
        go_wp2_with (refine wpList_load_rcAd rfl (.tmp 24) rfl rfl R1.out ?_)
        refine (KA.out _).mono ?_
        rintro e w3 ⟨rfl, g3⟩
        have G3 := Lib.hid (G1.out.trans (g3.mono G1.out.size))
        have f1 := D1.out w3 G3.out
        have f4 := D4.out w3 G3.out
        have f21 := D21.out w3 G3.out
        have f22 := D22.out w3 G3.out
        clear g3 e1 e2
        go_wp2_with fail
        go_ret
        exact ⟨rfl, HA.out.2.trans (G3.out.mono HA.out.2.size)⟩
      replace hv := eq_false_of_ne_true hv
      rw [decide_eq_false (show ¬ rightR r from fun h => ha h.2.1)]
      rw [decide_eq_false ha] at KA
      rw [hv] at d4 KA
      have KN := Lib.hid KN
      have KA := Lib.hid KA
      have KT := Lib.hid KT
      have D0 := Lib.hid d0
      have D1 := Lib.hid d1
      have D2 := Lib.hid d2
      have D4 := Lib.hid d4
      have D21 := Lib.hid d21
      have D22 := Lib.hid d22
      have e0 := d0 W (Below.refl _ _)
      rw [← HW.out] at e0
      clear d0 d1 d2 d4 d21 d22
      go_enter Tryz.func22, Tryz.ntmps22
      go_wp2_with fail
      rw [HW.out]
      refine (KN.out _).mono ?_
      rintro e w1 ⟨rfl, g1⟩
      have G1 := Lib.hid g1
      have e1 := D1.out w1 g1
      have e2 := D2.out w1 g1
      clear g1
      go_wp2_with fail
      refine (two_any _ _).mono ?_
      rintro e w2 ⟨rfl, rfl⟩
      rw [decide_eq_true h1]
      go_wp2_with fail
      refine (two_any _ _).mono ?_
      rintro e w2 ⟨rfl, rfl⟩
      rw [decide_eq_true h2]
      have R1 := Lib.hid (HA.out.1.later G1.out (Nat.le_refl _))
      go_wp2_with (refine wpList_load_rcAd rfl (.tmp 24) rfl rfl R1.out ?_)
      refine (KA.out _).mono ?_
      rintro e w3 ⟨rfl, g3⟩
      have G3 := Lib.hid (G1.out.trans (g3.mono G1.out.size))
      have f1 := D1.out w3 G3.out
      have f4 := D4.out w3 G3.out
      have f21 := D21.out w3 G3.out
      have f22 := D22.out w3 G3.out
      clear g3 e1 e2
      go_wp2_with fail
      go_ret
      exact ⟨rfl, HA.out.2.trans (G3.out.mono HA.out.2.size)⟩
    rw [decide_eq_true ha] at KA
    by_cases hv : r.v6 = false
    case neg =>
      have hv2 : r.v6 = true := by cases hq : r.v6 <;> simp_all
      rw [decide_eq_false (show ¬ rightR r from fun h => hv (hc h).1)]
      rw [hv2] at d4 KA
      have KN := Lib.hid KN
      have KA := Lib.hid KA
      have KT := Lib.hid KT
      have D0 := Lib.hid d0
      have D1 := Lib.hid d1
      have D2 := Lib.hid d2
      have D4 := Lib.hid d4
      have D21 := Lib.hid d21
      have D22 := Lib.hid d22
      have e0 := d0 W (Below.refl _ _)
      rw [← HW.out] at e0
      clear d0 d1 d2 d4 d21 d22
      go_enter Tryz.func22, Tryz.ntmps22
      go_wp2_with fail
      rw [HW.out]
      refine (KN.out _).mono ?_
      rintro e w1 ⟨rfl, g1⟩
      have G1 := Lib.hid g1
      have e1 := D1.out w1 g1
      have e2 := D2.out w1 g1
      clear g1
      go_wp2_with fail
      refine (two_any _ _).mono ?_
      rintro e w2 ⟨rfl, rfl⟩
      rw [decide_eq_true h1]
      go_wp2_with fail
      refine (two_any _ _).mono ?_
      rintro e w2 ⟨rfl, rfl⟩
      rw [decide_eq_true h2]
      have R1 := Lib.hid (HA.out.1.later G1.out (Nat.le_refl _))
      go_wp2_with (refine wpList_load_rcAd rfl (.tmp 24) rfl rfl R1.out ?_)
      refine (KA.out _).mono ?_
      rintro e w3 ⟨rfl, g3⟩
      have G3 := Lib.hid (G1.out.trans (g3.mono G1.out.size))
      have f1 := D1.out w3 G3.out
      have f4 := D4.out w3 G3.out
      have f21 := D21.out w3 G3.out
      have f22 := D22.out w3 G3.out
      clear g3 e1 e2
      go_wp2_with fail
      go_ret
      exact ⟨rfl, HA.out.2.trans (G3.out.mono HA.out.2.size)⟩
    rw [hv] at d4 KA
    by_cases hq : r.target = []
    case neg =>
      have he := mkS_full hq
      rw [decide_eq_false (show ¬ rightR r from fun h => hq (hc h).2.1)]
      have KN := Lib.hid KN
      have KA := Lib.hid KA
      have KT := Lib.hid KT
      have D0 := Lib.hid d0
      have D1 := Lib.hid d1
      have D2 := Lib.hid d2
      have D4 := Lib.hid d4
      have D21 := Lib.hid d21
      have D22 := Lib.hid d22
      have e0 := d0 W (Below.refl _ _)
      rw [← HW.out] at e0
      clear d0 d1 d2 d4 d21 d22
      go_enter Tryz.func22, Tryz.ntmps22
      go_wp2_with fail
      rw [HW.out]
      refine (KN.out _).mono ?_
      rintro e w1 ⟨rfl, g1⟩
      have G1 := Lib.hid g1
      have e1 := D1.out w1 g1
      have e2 := D2.out w1 g1
      clear g1
      go_wp2_with fail
      refine (two_any _ _).mono ?_
      rintro e w2 ⟨rfl, rfl⟩
      rw [decide_eq_true h1]
      go_wp2_with fail
      refine (two_any _ _).mono ?_
      rintro e w2 ⟨rfl, rfl⟩
      rw [decide_eq_true h2]
      have R1 := Lib.hid (HA.out.1.later G1.out (Nat.le_refl _))
      go_wp2_with (refine wpList_load_rcAd rfl (.tmp 24) rfl rfl R1.out ?_)
      refine (KA.out _).mono ?_
      rintro e w3 ⟨rfl, g3⟩
      have G3 := Lib.hid (G1.out.trans (g3.mono G1.out.size))
      have f1 := D1.out w3 G3.out
      have f4 := D4.out w3 G3.out
      have f21 := D21.out w3 G3.out
      have f22 := D22.out w3 G3.out
      clear g3 e1 e2
      go_wp2_with fail
      go_ret
      exact ⟨rfl, HA.out.2.trans (G3.out.mono HA.out.2.size)⟩
    have he := mkS_nil hq
    by_cases hz : n = 0
    case neg =>
      rw [decide_eq_false (show ¬ rightR r from fun h => hz (by rw [← hlen, (hc h).2.2]; rfl))]
      have hzz : ((n : Int) == 0) = false := by rw [beq_eq_false_iff_ne]; omega
      clear hq
      have KN := Lib.hid KN
      have KA := Lib.hid KA
      have KT := Lib.hid KT
      have D0 := Lib.hid d0
      have D1 := Lib.hid d1
      have D2 := Lib.hid d2
      have D4 := Lib.hid d4
      have D21 := Lib.hid d21
      have D22 := Lib.hid d22
      have e0 := d0 W (Below.refl _ _)
      rw [← HW.out] at e0
      clear d0 d1 d2 d4 d21 d22
      go_enter Tryz.func22, Tryz.ntmps22
      go_wp2_with fail
      rw [HW.out]
      refine (KN.out _).mono ?_
      rintro e w1 ⟨rfl, g1⟩
      have G1 := Lib.hid g1
      have e1 := D1.out w1 g1
      have e2 := D2.out w1 g1
      clear g1
      go_wp2_with fail
      refine (two_any _ _).mono ?_
      rintro e w2 ⟨rfl, rfl⟩
      rw [decide_eq_true h1]
      go_wp2_with fail
      refine (two_any _ _).mono ?_
      rintro e w2 ⟨rfl, rfl⟩
      rw [decide_eq_true h2]
      have R1 := Lib.hid (HA.out.1.later G1.out (Nat.le_refl _))
      go_wp2_with (refine wpList_load_rcAd rfl (.tmp 24) rfl rfl R1.out ?_)
      refine (KA.out _).mono ?_
      rintro e w3 ⟨rfl, g3⟩
      have G3 := Lib.hid (G1.out.trans (g3.mono G1.out.size))
      have f1 := D1.out w3 G3.out
      have f4 := D4.out w3 G3.out
      have f21 := D21.out w3 G3.out
      have f22 := D22.out w3 G3.out
      clear g3 e1 e2
      go_wp2_with fail
      go_ret
      exact ⟨rfl, HA.out.2.trans (G3.out.mono HA.out.2.size)⟩
    have hd0 : r.data = [] := List.length_eq_zero_iff.1 (by omega)
    have hR : rightR r := ⟨⟨h0, (by show shortI r.kind; rw [k1]; exact h1), h2⟩, ha, (by rw [hq]; decide), (by rw [hd0]; decide), (by unfold alikeV bareV; rw [if_neg k28, if_pos k1]; exact ⟨⟨hv, rfl⟩, hq, hd0⟩)⟩
    rw [decide_eq_true hR]
    rw [hz] at d22
    clear hz hR hd0 hc hlen hq
    have KN := Lib.hid KN
    have KA := Lib.hid KA
    have KT := Lib.hid KT
    have D0 := Lib.hid d0
    have D1 := Lib.hid d1
    have D2 := Lib.hid d2
    have D4 := Lib.hid d4
    have D21 := Lib.hid d21
    have D22 := Lib.hid d22
    have e0 := d0 W (Below.refl _ _)
    rw [← HW.out] at e0
    clear d0 d1 d2 d4 d21 d22
    go_enter Tryz.func22, Tryz.ntmps22
    go_wp2_with fail
    rw [HW.out]
    refine (KN.out _).mono ?_
    rintro e w1 ⟨rfl, g1⟩
    have G1 := Lib.hid g1
    have e1 := D1.out w1 g1
    have e2 := D2.out w1 g1
    clear g1
    go_wp2_with fail
    refine (two_any _ _).mono ?_
    rintro e w2 ⟨rfl, rfl⟩
    rw [decide_eq_true h1]
    go_wp2_with fail
    refine (two_any _ _).mono ?_
    rintro e w2 ⟨rfl, rfl⟩
    rw [decide_eq_true h2]
    have R1 := Lib.hid (HA.out.1.later G1.out (Nat.le_refl _))
    go_wp2_with (refine wpList_load_rcAd rfl (.tmp 24) rfl rfl R1.out ?_)
    refine (KA.out _).mono ?_
    rintro e w3 ⟨rfl, g3⟩
    have G3 := Lib.hid (G1.out.trans (g3.mono G1.out.size))
    have f1 := D1.out w3 G3.out
    have f4 := D4.out w3 G3.out
    have f21 := D21.out w3 G3.out
    have f22 := D22.out w3 G3.out
    clear g3 e1 e2
    go_wp2_with fail
    go_ret
    exact ⟨rfl, HA.out.2.trans (G3.out.mono HA.out.2.size)⟩
  rcases hkd with h | h
  · exact absurd h k28
  · exact absurd h k1
end Go.Proofs.YtpojiimcdknafaaGreatDoor

namespace Go.Proofs.YtpojiimcdknafaaGreatDoor
open Go.RowKit
set_option maxRecDepth 100000

theorem run_build_ad0 (w : World) : (Instr.build 26 #[]).run Tryz.prog w = .ok (.agg (adv false zero16)) w := by kernel_rfl
theorem wp_build_ad0 {o : Oper} {a : Act} {w : World} {K : Act → World → Prop} {Q : Exit → Act → World → Prop} (ho : o.op = .build 26 #[])
    (h : K (a.put o.dst (.agg (adv false zero16))) w) : o.wp Tryz.prog a w K Q := by
  have hrun := run_build_ad0 w
  unfold Oper.wp execOp
  simp only [ho, Sem.run_bind, Sem.run_pure, Result.andThen_ok, List.map_toArray, List.map_nil, hrun]
  exact h
set_option maxHeartbeats 8000000 in
theorem ref_rightR_name {r : Rc} (hk : r.ok) (hkd : r.kind = 5) {A : Option Addr} {n c : Nat} {w : World} (hb : Bs w A n c r.data) (hn : r.name.length ≤ 2000) (ht : r.target.length ≤ 2000) (h0 : rightN r.name) (h1 : shortI r.kind) (h2 : shortI r.cls) : Calls Tryz.prog 22 #[.agg (rcv r A n c)] w fun e w' => e = .returned (.bool (decide (rightR r))) ∧ Below w.heap.size w w' := by
  have a1 := RcBox.new w hk A n c
  have b1 : Below w.heap.size w (w.alloc (.cells (rcv r A n c) 28)) := (Below.refl _ _).alloc (Nat.le_refl _) _
  obtain ⟨W, hW⟩ : ∃ W, w.alloc (.cells (rcv r A n c) 28) = W := ⟨_, rfl⟩
  rw [hW] at a1 b1
  have HA := Lib.hid (And.intro a1 b1)
  have HW := Lib.hid hW
  have d0 : ∀ w', Below W.heap.size W w' → w'.cell? ⟨w.heap.size, 0, none⟩ = some (.string (mkS r.name)) := fun w' h => (HA.out.1.later h (Nat.le_refl _)).name
  have d1 : ∀ w', Below W.heap.size W w' → w'.cell? ⟨w.heap.size, 1, none⟩ = some (.int .i64 r.kind) := fun w' h => (HA.out.1.later h (Nat.le_refl _)).kind
  have d2 : ∀ w', Below W.heap.size W w' → w'.cell? ⟨w.heap.size, 2, none⟩ = some (.int .i64 r.cls) := fun w' h => (HA.out.1.later h (Nat.le_refl _)).cls
  have d4 : ∀ w', Below W.heap.size W w' → w'.cell? ⟨w.heap.size, 4, none⟩ = some (.bool r.v6) := fun w' h => (HA.out.1.later h (Nat.le_refl _)).v6
  have d21 : ∀ w', Below W.heap.size W w' → w'.cell? ⟨w.heap.size, 21, none⟩ = some (.string (mkS r.target)) := fun w' h => (HA.out.1.later h (Nat.le_refl _)).target
  have d22 : ∀ w', Below W.heap.size W w' → w'.cell? ⟨w.heap.size, 22, none⟩ = some (.slice A n c) := fun w' h => (HA.out.1.later h (Nat.le_refl _)).data
  have KA := fun w1 => refRight_any r.v6 r.adr hk w1
  rw [rightv_dec r.v6 hk] at KA
  have KT := fun w1 => ref_right (mkS r.target) (by rw [mkS_size]; exact ht) w1
  rw [mkS_data] at KT
  have KN := fun w1 => ref_right (mkS r.name) (by rw [mkS_size]; exact hn) w1
  rw [mkS_data] at KN
  have hlen := hb.len
  have heq := eql_ad r.v6 false hk (show zero16.length = 16 from rfl)
  have hef : ¬ (r.v6 = false ∧ r.adr = zero16) → ((r.v6 == false) && (r.adr == zero16)) = false := fun h => by
    cases hv : (r.v6 == false) && (r.adr == zero16) with
    | false => rfl
    | true =>
      rw [Bool.and_eq_true, beq_iff_eq, beq_iff_eq] at hv
      exact absurd hv h
  have het : (r.v6 = false ∧ r.adr = zero16) → ((r.v6 == false) && (r.adr == zero16)) = true := fun h => by
    rw [h.1, h.2, beq_self_eq_true, beq_self_eq_true]; rfl
  rw [decide_eq_true h0] at KN
  clear a1 b1 hW hb
  rw [hkd] at d1 h1
  have hc : rightR r → r.v6 = false ∧ r.adr = zero16 ∧ r.data = [] := fun h => by
    rcases alike_cases h with x | x | x | x
    · omega
    · omega
    · exact x.2
    · omega
  by_cases hq : rightN r.target
  case neg =>
    rw [decide_eq_false (show ¬ rightR r from fun h => hq h.2.2.1)]
    rw [decide_eq_false hq] at KT
    clear hef het heq
    have KN := Lib.hid KN
    have KA := Lib.hid KA
    have KT := Lib.hid KT
    have D0 := Lib.hid d0
    have D1 := Lib.hid d1
    have D2 := Lib.hid d2
    have D4 := Lib.hid d4
    have D21 := Lib.hid d21
    have D22 := Lib.hid d22
    have e0 := d0 W (Below.refl _ _)
    rw [← HW.out] at e0
    clear d0 d1 d2 d4 d21 d22
    go_enter Tryz.func22, Tryz.ntmps22
    go_wp2_with fail
    rw [HW.out]
    refine (KN.out _).mono ?_
    rintro e w1 ⟨rfl, g1⟩
    have G1 := Lib.hid g1
    have e1 := D1.out w1 g1
    have e2 := D2.out w1 g1
    clear g1
    go_wp2_with fail
    refine (two_any _ _).mono ?_
    rintro e w2 ⟨rfl, rfl⟩
    rw [decide_eq_true h1]
    go_wp2_with fail
    refine (two_any _ _).mono ?_
    rintro e w2 ⟨rfl, rfl⟩
    rw [decide_eq_true h2]
    have f21 := D21.out w1 G1.out
    go_wp2_with fail
    refine (KT.out _).mono ?_
    rintro e w3 ⟨rfl, g3⟩
    have G3 := Lib.hid (G1.out.trans (g3.mono G1.out.size))
    have R3 := Lib.hid (HA.out.1.later G3.out (Nat.le_refl _))
    have f22 := D22.out w3 G3.out
    clear g3 e1 e2 f21
    go_wp2_with fail
    go_ret
    exact ⟨rfl, HA.out.2.trans (G3.out.mono HA.out.2.size)⟩
  rw [decide_eq_true hq] at KT
  by_cases ha : r.v6 = false ∧ r.adr = zero16
  case neg =>
    rw [decide_eq_false (show ¬ rightR r from fun h => ha ⟨(hc h).1, (hc h).2.1⟩)]
    rw [hef ha] at heq
    clear hef het ha
    have KN := Lib.hid KN
    have KA := Lib.hid KA
    have KT := Lib.hid KT
    have D0 := Lib.hid d0
    have D1 := Lib.hid d1
    have D2 := Lib.hid d2
    have D4 := Lib.hid d4
    have D21 := Lib.hid d21
    have D22 := Lib.hid d22
    have e0 := d0 W (Below.refl _ _)
    rw [← HW.out] at e0
    clear d0 d1 d2 d4 d21 d22
    go_enter Tryz.func22, Tryz.ntmps22
    go_wp2_with fail
    rw [HW.out]
    refine (KN.out _).mono ?_
    rintro e w1 ⟨rfl, g1⟩
    have G1 := Lib.hid g1
    have e1 := D1.out w1 g1
    have e2 := D2.out w1 g1
    clear g1
    go_wp2_with fail
    refine (two_any _ _).mono ?_
    rintro e w2 ⟨rfl, rfl⟩
    rw [decide_eq_true h1]
    go_wp2_with fail
    refine (two_any _ _).mono ?_
    rintro e w2 ⟨rfl, rfl⟩
    rw [decide_eq_true h2]
    have f21 := D21.out w1 G1.out
    go_wp2_with fail
    refine (KT.out _).mono ?_
    rintro e w3 ⟨rfl, g3⟩
    have G3 := Lib.hid (G1.out.trans (g3.mono G1.out.size))
    have R3 := Lib.hid (HA.out.1.later G3.out (Nat.le_refl _))
    have f22 := D22.out w3 G3.out
    clear g3 e1 e2 f21
    go_wp2_with (first | (refine wpList_wanted (by rfl) (wp_load_rcAd (.tmp 53) rfl rfl R3.out ?_)) | (refine wpList_wanted (by rfl) (wp_build_ad0 rfl ?_)))
    go_ret
    exact ⟨rfl, HA.out.2.trans (G3.out.mono HA.out.2.size)⟩
  rw [het ha] at heq
  clear hef het
  by_cases hz : n = 0
  case neg =>
    rw [decide_eq_false (show ¬ rightR r from fun h => hz (by rw [← hlen, (hc h).2.2]; rfl))]
    have hzz : ((n : Int) == 0) = false := by rw [beq_eq_false_iff_ne]; omega
    clear hq ha
    have KN := Lib.hid KN
    have KA := Lib.hid KA
    have KT := Lib.hid KT
    have D0 := Lib.hid d0
    have D1 := Lib.hid d1
    have D2 := Lib.hid d2
    have D4 := Lib.hid d4
    have D21 := Lib.hid d21
    have D22 := Lib.hid d22
    have e0 := d0 W (Below.refl _ _)
    rw [← HW.out] at e0
    clear d0 d1 d2 d4 d21 d22
    go_enter Tryz.func22, Tryz.ntmps22
    go_wp2_with fail
    rw [HW.out]
    refine (KN.out _).mono ?_
    rintro e w1 ⟨rfl, g1⟩
    have G1 := Lib.hid g1
    have e1 := D1.out w1 g1
    have e2 := D2.out w1 g1
    clear g1
    go_wp2_with fail
    refine (two_any _ _).mono ?_
    rintro e w2 ⟨rfl, rfl⟩
    rw [decide_eq_true h1]
    go_wp2_with fail
    refine (two_any _ _).mono ?_
    rintro e w2 ⟨rfl, rfl⟩
    rw [decide_eq_true h2]
    have f21 := D21.out w1 G1.out
    go_wp2_with fail
    refine (KT.out _).mono ?_
    rintro e w3 ⟨rfl, g3⟩
    have G3 := Lib.hid (G1.out.trans (g3.mono G1.out.size))
    have R3 := Lib.hid (HA.out.1.later G3.out (Nat.le_refl _))
    have f22 := D22.out w3 G3.out
    clear g3 e1 e2 f21
    go_wp2_with (first | (refine wpList_wanted (by rfl) (wp_load_rcAd (.tmp 53) rfl rfl R3.out ?_)) | (refine wpList_wanted (by rfl) (wp_build_ad0 rfl ?_)))
    go_ret
    exact ⟨rfl, HA.out.2.trans (G3.out.mono HA.out.2.size)⟩
  have hd0 : r.data = [] := List.length_eq_zero_iff.1 (by omega)
  have hR : rightR r := ⟨⟨h0, (by show shortI r.kind; rw [hkd]; exact h1), h2⟩, (by rw [ha.2]; intro _; rfl), hq, (by rw [hd0]; decide), (by unfold alikeV bareV; rw [if_neg (by omega), if_neg (by omega), if_pos hkd]; exact ⟨⟨ha.1, ha.2⟩, rfl, hd0⟩)⟩
  rw [decide_eq_true hR]
  rw [hz] at d22
  clear hz hR hd0 hc hlen hq ha
  have KN := Lib.hid KN
  have KA := Lib.hid KA
  have KT := Lib.hid KT
  have D0 := Lib.hid d0
  have D1 := Lib.hid d1
  have D2 := Lib.hid d2
  have D4 := Lib.hid d4
  have D21 := Lib.hid d21
  have D22 := Lib.hid d22
  have e0 := d0 W (Below.refl _ _)
  rw [← HW.out] at e0
  clear d0 d1 d2 d4 d21 d22
  go_enter Tryz.func22, Tryz.ntmps22
  go_wp2_with fail
  rw [HW.out]
  refine (KN.out _).mono ?_
  rintro e w1 ⟨rfl, g1⟩
  have G1 := Lib.hid g1
  have e1 := D1.out w1 g1
  have e2 := D2.out w1 g1
  clear g1
  go_wp2_with fail
  refine (two_any _ _).mono ?_
  rintro e w2 ⟨rfl, rfl⟩
  rw [decide_eq_true h1]
  go_wp2_with fail
  refine (two_any _ _).mono ?_
  rintro e w2 ⟨rfl, rfl⟩
  rw [decide_eq_true h2]
  have f21 := D21.out w1 G1.out
  go_wp2_with fail
  refine (KT.out _).mono ?_
  rintro e w3 ⟨rfl, g3⟩
  have G3 := Lib.hid (G1.out.trans (g3.mono G1.out.size))
  have R3 := Lib.hid (HA.out.1.later G3.out (Nat.le_refl _))
  have f22 := D22.out w3 G3.out
  clear g3 e1 e2 f21
  go_wp2_with (first | (refine wpList_wanted (by rfl) (wp_load_rcAd (.tmp 53) rfl rfl R3.out ?_)) | (refine wpList_wanted (by rfl) (wp_build_ad0 rfl ?_)))
  go_ret
  exact ⟨rfl, HA.out.2.trans (G3.out.mono HA.out.2.size)⟩
set_option maxHeartbeats 8000000 in
theorem ref_rightR_else {r : Rc} (hk : r.ok) (hkd : r.kind ≠ 28 ∧ r.kind ≠ 1 ∧ r.kind ≠ 5) {A : Option Addr} {n c : Nat} {w : World} (hb : Bs w A n c r.data) (hn : r.name.length ≤ 2000) (ht : r.target.length ≤ 2000) (h0 : rightN r.name) (h1 : shortI r.kind) (h2 : shortI r.cls) : Calls Tryz.prog 22 #[.agg (rcv r A n c)] w fun e w' => e = .returned (.bool (decide (rightR r))) ∧ Below w.heap.size w w' := by
  have a1 := RcBox.new w hk A n c
  have b1 : Below w.heap.size w (w.alloc (.cells (rcv r A n c) 28)) := (Below.refl _ _).alloc (Nat.le_refl _) _
  obtain ⟨W, hW⟩ : ∃ W, w.alloc (.cells (rcv r A n c) 28) = W := ⟨_, rfl⟩
  rw [hW] at a1 b1
  have HA := Lib.hid (And.intro a1 b1)
  have HW := Lib.hid hW
  have d0 : ∀ w', Below W.heap.size W w' → w'.cell? ⟨w.heap.size, 0, none⟩ = some (.string (mkS r.name)) := fun w' h => (HA.out.1.later h (Nat.le_refl _)).name
  have d1 : ∀ w', Below W.heap.size W w' → w'.cell? ⟨w.heap.size, 1, none⟩ = some (.int .i64 r.kind) := fun w' h => (HA.out.1.later h (Nat.le_refl _)).kind
  have d2 : ∀ w', Below W.heap.size W w' → w'.cell? ⟨w.heap.size, 2, none⟩ = some (.int .i64 r.cls) := fun w' h => (HA.out.1.later h (Nat.le_refl _)).cls
  have d4 : ∀ w', Below W.heap.size W w' → w'.cell? ⟨w.heap.size, 4, none⟩ = some (.bool r.v6) := fun w' h => (HA.out.1.later h (Nat.le_refl _)).v6
  have d21 : ∀ w', Below W.heap.size W w' → w'.cell? ⟨w.heap.size, 21, none⟩ = some (.string (mkS r.target)) := fun w' h => (HA.out.1.later h (Nat.le_refl _)).target
  have d22 : ∀ w', Below W.heap.size W w' → w'.cell? ⟨w.heap.size, 22, none⟩ = some (.slice A n c) := fun w' h => (HA.out.1.later h (Nat.le_refl _)).data
  have KA := fun w1 => refRight_any r.v6 r.adr hk w1
  rw [rightv_dec r.v6 hk] at KA
  have KT := fun w1 => ref_right (mkS r.target) (by rw [mkS_size]; exact ht) w1
  rw [mkS_data] at KT
  have KN := fun w1 => ref_right (mkS r.name) (by rw [mkS_size]; exact hn) w1
  rw [mkS_data] at KN
  have hlen := hb.len
  have heq := eql_ad r.v6 false hk (show zero16.length = 16 from rfl)
  have hef : ¬ (r.v6 = false ∧ r.adr = zero16) → ((r.v6 == false) && (r.adr == zero16)) = false := fun h => by
    cases hv : (r.v6 == false) && (r.adr == zero16) with
    | false => rfl
    | true =>
      rw [Bool.and_eq_true, beq_iff_eq, beq_iff_eq] at hv
      exact absurd hv h
  have het : (r.v6 = false ∧ r.adr = zero16) → ((r.v6 == false) && (r.adr == zero16)) = true := fun h => by
    rw [h.1, h.2, beq_self_eq_true, beq_self_eq_true]; rfl
  rw [decide_eq_true h0] at KN
  clear a1 b1 hW hb
  obtain ⟨k28, k1, k5⟩ := hkd
  have hc : rightR r → r.v6 = false ∧ r.adr = zero16 ∧ r.target = [] := fun h => by
    rcases alike_cases h with x | x | x | x
    · exact absurd x.1 k28
    · exact absurd x.1 k1
    · exact absurd x.1 k5
    · exact x.2.2.2
  by_cases ha : r.v6 = false ∧ r.adr = zero16
  case neg =>
    rw [decide_eq_false (show ¬ rightR r from fun h => ha ⟨(hc h).1, (hc h).2.1⟩)]
    rw [hef ha] at heq
    clear hef het ha
    have KN := Lib.hid KN
    have KA := Lib.hid KA
    have KT := Lib.hid KT
    have D0 := Lib.hid d0
    have D1 := Lib.hid d1
    have D2 := Lib.hid d2
    have D4 := Lib.hid d4
    have D21 := Lib.hid d21
    have D22 := Lib.hid d22
    have e0 := d0 W (Below.refl _ _)
    rw [← HW.out] at e0
    clear d0 d1 d2 d4 d21 d22
    go_enter Tryz.func22, Tryz.ntmps22
    go_wp2_with fail
    rw [HW.out]
    refine (KN.out _).mono ?_
    rintro e w1 ⟨rfl, g1⟩
    have G1 := Lib.hid g1
    have e1 := D1.out w1 g1
    have e2 := D2.out w1 g1
    clear g1
    go_wp2_with fail
    refine (two_any _ _).mono ?_
    rintro e w2 ⟨rfl, rfl⟩
    rw [decide_eq_true h1]
    go_wp2_with fail
    refine (two_any _ _).mono ?_
    rintro e w2 ⟨rfl, rfl⟩
    rw [decide_eq_true h2]
    have R1 := Lib.hid (HA.out.1.later G1.out (Nat.le_refl _))
    have f21 := D21.out w1 G1.out
    have f22 := D22.out w1 G1.out
    go_wp2_with (first | (refine wpList_load_rcAd rfl (.tmp 64) rfl rfl R1.out ?_) | (refine wpList_wanted (by rfl) (wp_build_ad0 rfl ?_)))
    go_ret
    exact ⟨rfl, HA.out.2.trans (G1.out.mono HA.out.2.size)⟩
  rw [het ha] at heq
  clear hef het
  by_cases hq : r.target = []
  case neg =>
    have he := mkS_full hq
    rw [decide_eq_false (show ¬ rightR r from fun h => hq (hc h).2.2)]
    clear ha
    have KN := Lib.hid KN
    have KA := Lib.hid KA
    have KT := Lib.hid KT
    have D0 := Lib.hid d0
    have D1 := Lib.hid d1
    have D2 := Lib.hid d2
    have D4 := Lib.hid d4
    have D21 := Lib.hid d21
    have D22 := Lib.hid d22
    have e0 := d0 W (Below.refl _ _)
    rw [← HW.out] at e0
    clear d0 d1 d2 d4 d21 d22
    go_enter Tryz.func22, Tryz.ntmps22
    go_wp2_with fail
    rw [HW.out]
    refine (KN.out _).mono ?_
    rintro e w1 ⟨rfl, g1⟩
    have G1 := Lib.hid g1
    have e1 := D1.out w1 g1
    have e2 := D2.out w1 g1
    clear g1
    go_wp2_with fail
    refine (two_any _ _).mono ?_
    rintro e w2 ⟨rfl, rfl⟩
    rw [decide_eq_true h1]
    go_wp2_with fail
    refine (two_any _ _).mono ?_
    rintro e w2 ⟨rfl, rfl⟩
    rw [decide_eq_true h2]
    have R1 := Lib.hid (HA.out.1.later G1.out (Nat.le_refl _))
    have f21 := D21.out w1 G1.out
    have f22 := D22.out w1 G1.out
    go_wp2_with (first | (refine wpList_load_rcAd rfl (.tmp 64) rfl rfl R1.out ?_) | (refine wpList_wanted (by rfl) (wp_build_ad0 rfl ?_)))
    go_ret
    exact ⟨rfl, HA.out.2.trans (G1.out.mono HA.out.2.size)⟩
  have he := mkS_nil hq
  by_cases hz : n ≤ 1000
  case neg =>
    rw [decide_eq_false (show ¬ rightR r from fun h => hz (by rw [← hlen]; exact h.2.2.2.1))]
    have hz2 : ¬ (n : Int) ≤ 1000 := by omega
    clear hq ha
    have KN := Lib.hid KN
    have KA := Lib.hid KA
    have KT := Lib.hid KT
    have D0 := Lib.hid d0
    have D1 := Lib.hid d1
    have D2 := Lib.hid d2
    have D4 := Lib.hid d4
    have D21 := Lib.hid d21
    have D22 := Lib.hid d22
    have e0 := d0 W (Below.refl _ _)
    rw [← HW.out] at e0
    clear d0 d1 d2 d4 d21 d22
    go_enter Tryz.func22, Tryz.ntmps22
    go_wp2_with fail
    rw [HW.out]
    refine (KN.out _).mono ?_
    rintro e w1 ⟨rfl, g1⟩
    have G1 := Lib.hid g1
    have e1 := D1.out w1 g1
    have e2 := D2.out w1 g1
    clear g1
    go_wp2_with fail
    refine (two_any _ _).mono ?_
    rintro e w2 ⟨rfl, rfl⟩
    rw [decide_eq_true h1]
    go_wp2_with fail
    refine (two_any _ _).mono ?_
    rintro e w2 ⟨rfl, rfl⟩
    rw [decide_eq_true h2]
    have R1 := Lib.hid (HA.out.1.later G1.out (Nat.le_refl _))
    have f21 := D21.out w1 G1.out
    have f22 := D22.out w1 G1.out
    go_wp2_with (first | (refine wpList_load_rcAd rfl (.tmp 64) rfl rfl R1.out ?_) | (refine wpList_wanted (by rfl) (wp_build_ad0 rfl ?_)))
    go_ret
    exact ⟨congrArg (fun b => Ending.returned (Value.bool b)) (decide_eq_false (by omega)), HA.out.2.trans (G1.out.mono HA.out.2.size)⟩
  have hR : rightR r := ⟨⟨h0, h1, h2⟩, (by rw [ha.2]; intro _; rfl), (by rw [hq]; decide), (by omega), (by unfold alikeV bareV; rw [if_neg k28, if_neg k1, if_neg k5]; exact ⟨⟨ha.1, ha.2⟩, hq, rfl⟩)⟩
  rw [decide_eq_true hR]
  have hz2 : (n : Int) ≤ 1000 := by omega
  clear hR hc hq ha
  have KN := Lib.hid KN
  have KA := Lib.hid KA
  have KT := Lib.hid KT
  have D0 := Lib.hid d0
  have D1 := Lib.hid d1
  have D2 := Lib.hid d2
  have D4 := Lib.hid d4
  have D21 := Lib.hid d21
  have D22 := Lib.hid d22
  have e0 := d0 W (Below.refl _ _)
  rw [← HW.out] at e0
  clear d0 d1 d2 d4 d21 d22
  go_enter Tryz.func22, Tryz.ntmps22
  go_wp2_with fail
  rw [HW.out]
  refine (KN.out _).mono ?_
  rintro e w1 ⟨rfl, g1⟩
  have G1 := Lib.hid g1
  have e1 := D1.out w1 g1
  have e2 := D2.out w1 g1
  clear g1
  go_wp2_with fail
  refine (two_any _ _).mono ?_
  rintro e w2 ⟨rfl, rfl⟩
  rw [decide_eq_true h1]
  go_wp2_with fail
  refine (two_any _ _).mono ?_
  rintro e w2 ⟨rfl, rfl⟩
  rw [decide_eq_true h2]
  have R1 := Lib.hid (HA.out.1.later G1.out (Nat.le_refl _))
  have f21 := D21.out w1 G1.out
  have f22 := D22.out w1 G1.out
  go_wp2_with (first | (refine wpList_load_rcAd rfl (.tmp 64) rfl rfl R1.out ?_) | (refine wpList_wanted (by rfl) (wp_build_ad0 rfl ?_)))
  go_ret
  exact ⟨rfl, HA.out.2.trans (G1.out.mono HA.out.2.size)⟩
set_option maxHeartbeats 8000000 in
theorem ref_rightR_not {r : Rc} (hk : r.ok) (hqq : ¬ rightQ r.asks) {A : Option Addr} {n c : Nat} {w : World} (hb : Bs w A n c r.data) (hn : r.name.length ≤ 2000) : Calls Tryz.prog 22 #[.agg (rcv r A n c)] w fun e w' => e = .returned (.bool (decide (rightR r))) ∧ Below w.heap.size w w' := by
  have a1 := RcBox.new w hk A n c
  have b1 : Below w.heap.size w (w.alloc (.cells (rcv r A n c) 28)) := (Below.refl _ _).alloc (Nat.le_refl _) _
  obtain ⟨W, hW⟩ : ∃ W, w.alloc (.cells (rcv r A n c) 28) = W := ⟨_, rfl⟩
  rw [hW] at a1 b1
  have HA := Lib.hid (And.intro a1 b1)
  have HW := Lib.hid hW
  have d0 : ∀ w', Below W.heap.size W w' → w'.cell? ⟨w.heap.size, 0, none⟩ = some (.string (mkS r.name)) := fun w' h => (HA.out.1.later h (Nat.le_refl _)).name
  have d1 : ∀ w', Below W.heap.size W w' → w'.cell? ⟨w.heap.size, 1, none⟩ = some (.int .i64 r.kind) := fun w' h => (HA.out.1.later h (Nat.le_refl _)).kind
  have d2 : ∀ w', Below W.heap.size W w' → w'.cell? ⟨w.heap.size, 2, none⟩ = some (.int .i64 r.cls) := fun w' h => (HA.out.1.later h (Nat.le_refl _)).cls
  have KN := fun w1 => ref_right (mkS r.name) (by rw [mkS_size]; exact hn) w1
  rw [mkS_data] at KN
  have hlen := hb.len
  clear a1 b1 hW hb
  by_cases h0 : rightN r.name
  case neg =>
    rw [decide_eq_false (show ¬ rightR r from fun h => h0 h.1.1)]
    rw [decide_eq_false h0] at KN
    have KN := Lib.hid KN
    have D0 := Lib.hid d0
    have D1 := Lib.hid d1
    have D2 := Lib.hid d2
    have e0 := d0 W (Below.refl _ _)
    rw [← HW.out] at e0
    clear d0 d1 d2
    go_enter Tryz.func22, Tryz.ntmps22
    go_wp2_with fail
    rw [HW.out]
    refine (KN.out _).mono ?_
    rintro e w1 ⟨rfl, g1⟩
    have G1 := Lib.hid g1
    have e1 := D1.out w1 g1
    have e2 := D2.out w1 g1
    clear g1
    go_wp2_with fail
    go_ret
    exact ⟨rfl, HA.out.2.trans (G1.out.mono HA.out.2.size)⟩
  by_cases h1 : shortI r.kind
  case neg =>
    rw [decide_eq_false (show ¬ rightR r from fun h => h1 h.1.2.1)]
    rw [decide_eq_true h0] at KN
    have KN := Lib.hid KN
    have D0 := Lib.hid d0
    have D1 := Lib.hid d1
    have D2 := Lib.hid d2
    have e0 := d0 W (Below.refl _ _)
    rw [← HW.out] at e0
    clear d0 d1 d2
    go_enter Tryz.func22, Tryz.ntmps22
    go_wp2_with fail
    rw [HW.out]
    refine (KN.out _).mono ?_
    rintro e w1 ⟨rfl, g1⟩
    have G1 := Lib.hid g1
    have e1 := D1.out w1 g1
    have e2 := D2.out w1 g1
    clear g1
    go_wp2_with fail
    refine (two_any _ _).mono ?_
    rintro e w2 ⟨rfl, rfl⟩
    rw [decide_eq_false h1]
    go_wp2_with fail
    go_ret
    exact ⟨rfl, HA.out.2.trans (G1.out.mono HA.out.2.size)⟩
  by_cases h2 : shortI r.cls
  case neg =>
    rw [decide_eq_false (show ¬ rightR r from fun h => h2 h.1.2.2)]
    rw [decide_eq_true h0] at KN
    have KN := Lib.hid KN
    have D0 := Lib.hid d0
    have D1 := Lib.hid d1
    have D2 := Lib.hid d2
    have e0 := d0 W (Below.refl _ _)
    rw [← HW.out] at e0
    clear d0 d1 d2
    go_enter Tryz.func22, Tryz.ntmps22
    go_wp2_with fail
    rw [HW.out]
    refine (KN.out _).mono ?_
    rintro e w1 ⟨rfl, g1⟩
    have G1 := Lib.hid g1
    have e1 := D1.out w1 g1
    have e2 := D2.out w1 g1
    clear g1
    go_wp2_with fail
    refine (two_any _ _).mono ?_
    rintro e w2 ⟨rfl, rfl⟩
    rw [decide_eq_true h1]
    go_wp2_with fail
    refine (two_any _ _).mono ?_
    rintro e w2 ⟨rfl, rfl⟩
    rw [decide_eq_false h2]
    go_wp2_with fail
    go_ret
    exact ⟨rfl, HA.out.2.trans (G1.out.mono HA.out.2.size)⟩
  exact absurd ⟨h0, h1, h2⟩ hqq
set_option maxHeartbeats 8000000 in
theorem ref_rightR {r : Rc} (hk : r.ok) {A : Option Addr} {n c : Nat} {w : World} (hb : Bs w A n c r.data) (hn : r.name.length ≤ 2000) (ht : r.target.length ≤ 2000) : Calls Tryz.prog 22 #[.agg (rcv r A n c)] w fun e w' => e = .returned (.bool (decide (rightR r))) ∧ Below w.heap.size w w' := by
  by_cases k28 : r.kind = 28
  · exact ref_rightR_addr hk (.inl k28) hb hn ht
  by_cases k1 : r.kind = 1
  · exact ref_rightR_addr hk (.inr k1) hb hn ht
  by_cases hq : rightQ r.asks
  case neg => exact ref_rightR_not hk hq hb hn
  obtain ⟨h0, h1, h2⟩ := hq
  by_cases k5 : r.kind = 5
  · exact ref_rightR_name hk k5 hb hn ht h0 h1 h2
  · exact ref_rightR_else hk ⟨k28, k1, k5⟩ hb hn ht h0 h1 h2
end Go.Proofs.YtpojiimcdknafaaGreatDoor

namespace Go.Proofs.YtpojiimcdknafaaGreatDoor
open Go.RowKit
set_option maxRecDepth 100000

theorem ref_write_row {S : List UInt8} (h : rightN S) (w : World) : Calls Tryz.prog 36 #[.string (mkS S)] w fun e w' => ∃ A c, e = .returned (.tuple #[.slice A (writeB S).length c, .agg (flv 0 0 false)]) ∧ w'.ownsRow w.heap.size 5 1 (.slice A (writeB S).length c) (writeB S).length (bv (writeB S)) ∧ Below w.heap.size w w' := by
  have hl := right_len h
  have k := ref_write_own (mkS S) (by rw [mkS_size]; omega) w
  rw [mkS_data] at k
  unfold writev writee at k
  rw [if_pos h, if_pos h] at k
  exact k
theorem ref_write_right {S : List UInt8} (h : rightN S) (w : World) : Calls Tryz.prog 36 #[.string (mkS S)] w fun e w' => ∃ A c, e = .returned (.tuple #[.slice A (writeB S).length c, .agg (flv 0 0 false)]) ∧ Bs w' A (writeB S).length c (writeB S) ∧ Below w.heap.size w w' := by
  have hl := right_len h
  have k := ref_write (mkS S) (by rw [mkS_size]; omega) w
  rw [mkS_data] at k
  unfold writev writee at k
  rw [if_pos h, if_pos h] at k
  exact k
end Go.Proofs.YtpojiimcdknafaaGreatDoor
