/-
  Package record's written, WriteQuestion, WriteRecord. Conditions: those of the slices; names of up to a million bytes; what the program's text has laid.
  stockadelaw13.awake answers true. Conditions: what the program's text has laid.
  The document's Write of a name that may be one: a row of the call's own. No conditions.
  stockadelaw13.RecordPointers answers true, whatever is handed in. Conditions: what the program's text has laid (internal/bytealg.MaxLen holds an int; errors.errorType holds the handle of the type error).
-/
import Derived.Test.YtddnfbkmhgflbaaGreatDoorZ43
import Derived.Test.YtddnfbkmhgflbaaGreatDoorZ28
import Derived.Test.YtddnfbkmhgflbaaGreatDoorZ26
import Derived.Test.YtddnfbkmhgflbaaGreatDoorZ41
import Derived.Test.YtddnfbkmhgflbaaGreatDoorZ32
import Derived.Test.YtddnfbkmhgflbaaGreatDoorZ39
namespace Go.Proofs.YtddnfbkmhgflbaaGreatDoor
open Go.RowKit
set_option maxRecDepth 100000

set_option maxHeartbeats 2000000 in
/-- What a record bears, as bytes. -/
theorem written_any {r : Rc} (hk : r.ok) (hr : rightR r) {A : Option Addr} {n c : Nat} {w : World} (hb : Bs w A n c r.data) (hE : Env w) : Calls Tryz.prog 39 #[.agg (rcv r A n c)] w fun e w' => ∃ A' n' c', e = .returned (.tuple #[.slice A' n' c', .nilIface]) ∧ Bs w' A' n' c' (dataB r) ∧ Below w.heap.size w w' := by
  have a1 := RcBox.new w hk A n c
  have b1 : Below w.heap.size w (w.alloc (.cells (rcv r A n c) 28)) := (Below.refl _ _).alloc (Nat.le_refl _) _
  obtain ⟨W, hW⟩ : ∃ W, w.alloc (.cells (rcv r A n c) 28) = W := ⟨_, rfl⟩
  rw [hW] at a1 b1
  have HA := Lib.hid (And.intro a1 b1)
  have HW := Lib.hid hW
  have HB := Lib.hid (And.intro hb hE)
  have e21 := a1.target
  have e22 := a1.data
  have e1 := a1.kind
  have hc := alike_cases hr
  have htr := hr.2.2.1
  obtain ⟨name, kind, cls, ttl, v6, adr, target, data⟩ := r
  have hk' := hk
  unfold Rc.ok at hk'
  dsimp only at hc hk' e1 e21 e22 htr
  clear a1 b1 hW hb hE hr
  rcases hc with ⟨rfl, rfl, rfl, rfl⟩ | ⟨rfl, rfl, rfl, rfl⟩ | ⟨rfl, rfl, rfl, rfl⟩ | ⟨h28, h1, h5, rfl, rfl, rfl⟩
  · have e : dataB ⟨name, 28, cls, ttl, true, adr, [], []⟩ = adr := by
      show adr.take 16 = adr
      exact List.take_of_length_le (by omega)
    rw [e]
    clear e
    go_enter Tryz.func39, Tryz.ntmps39
    go_wp2_with (first | (refine wpList_load_rcAd rfl (.tmp 11) rfl rfl HA.out.1 ?_) | (rw [HW.out]))
    refine (widthR_any true adr hk' W).mono ?_
    rintro e w2 ⟨rfl, g2⟩
    rw [show widB true = 16 from rfl]
    have H2 := Lib.hid (And.intro (HA.out.1.later g2 (Nat.le_refl _)).adrB (HA.out.2.trans (g2.mono HA.out.2.size)))
    clear g2
    go_wp2_with fail
    go_ret2
    exact ⟨_, _, _, rfl, H2.out⟩
  · have e : dataB ⟨name, 1, cls, ttl, false, adr, [], []⟩ = adr.take 4 := rfl
    rw [e]
    clear e
    go_enter Tryz.func39, Tryz.ntmps39
    go_wp2_with (first | (refine wpList_load_rcAd rfl (.tmp 11) rfl rfl HA.out.1 ?_) | (rw [HW.out]))
    refine (widthR_any false adr hk' W).mono ?_
    rintro e w2 ⟨rfl, g2⟩
    rw [show widB false = 4 from rfl]
    have hB2 := (HA.out.1.later g2 (Nat.le_refl _)).adrB.cut (i := 0) (k := 4) (by omega) (A' := some ⟨w.heap.size, 5, none⟩) (fun _ => by simp [add_plain]) (by simp)
    rw [List.drop_zero] at hB2
    have H2 := Lib.hid (And.intro hB2 (HA.out.2.trans (g2.mono HA.out.2.size)))
    clear g2 hB2
    go_wp2_with fail
    go_ret2
    exact ⟨_, _, _, rfl, H2.out⟩
  · have e : dataB ⟨name, 5, cls, ttl, false, zero16, target, []⟩ = writeB target := rfl
    rw [e]
    clear e
    have hsz : target.length ≤ 1000000 := by
      have h1 := htr.2
      by_cases he : target = []
      · rw [he]; exact Nat.zero_le _
      · have := sizeL_labsN he; omega
    have KW := write_any (mkS target) (by rw [mkS_size]; exact hsz) (HB.out.2.later HA.out.2 (Nat.le_refl _))
    rw [mkS_data] at KW
    unfold writev writee at KW
    rw [if_pos htr, if_pos htr] at KW
    have K := Lib.hid KW
    clear KW
    go_enter Tryz.func39, Tryz.ntmps39
    go_wp2_with (rw [HW.out])
    refine K.out.mono ?_
    rintro e w2 ⟨A2, c2, v2, rfl, o2, t2, g2⟩
    obtain rfl := t2.none' rfl
    have H2 := Lib.hid (And.intro (Bs.own_later o2 fun _ _ => rfl) (HA.out.2.trans (g2.mono HA.out.2.size)))
    clear o2 t2 g2
    go_wp2_with fail
    go_ret2
    exact ⟨_, _, _, rfl, H2.out⟩
  · have e : dataB ⟨name, kind, cls, ttl, false, zero16, [], data⟩ = data := by
      unfold dataB
      dsimp only
      rw [if_neg (by omega), if_neg h5]
    rw [e]
    clear e
    go_enter Tryz.func39, Tryz.ntmps39
    go_wp2_with (rw [HW.out])
    go_ret2
    exact ⟨A, n, c, rfl, HB.out.1.later HA.out.2 (Nat.le_refl _), HA.out.2⟩
/-- What may be written is not long. -/
theorem right_len {s : List UInt8} (h : rightN s) : s.length ≤ 255 := by
  have h1 := h.2
  by_cases he : s = []
  · rw [he]; exact Nat.zero_le _
  · have := sizeL_labsN he; omega
theorem writeB_le {s : List UInt8} (h : rightN s) : (writeB s).length ≤ 255 := by
  have h1 := h.2
  unfold writeB
  rw [List.length_append, wireL_length]
  simp only [List.length_cons, List.length_nil]
  omega
set_option maxHeartbeats 4000000 in
/-- A question as it is written. -/
theorem writeQ_any (q : Qs) (hs : q.name.length ≤ 1000000) {w : World} (hE : Env w) : Calls Tryz.prog 16 #[.agg (qsv q)] w fun e w' =>
    ∃ A c v, e = .returned (.tuple #[.slice A (writeQv q).length c, v]) ∧ Bs w' A (writeQv q).length c (writeQv q) ∧ Tells w' v (writeQe q) ∧ Below w.heap.size w w' := by
  have a1 := QsBox.new w q
  have b1 : Below w.heap.size w (w.alloc (.cells (qsv q) 30)) := (Below.refl _ _).alloc (Nat.le_refl _) _
  obtain ⟨W, hW⟩ : ∃ W, w.alloc (.cells (qsv q) 30) = W := ⟨_, rfl⟩
  rw [hW] at a1 b1
  have HA := Lib.hid (And.intro a1 b1)
  have KQ := rightQ_any q hs (hE.later b1 (Nat.le_refl _))
  have HW := Lib.hid hW
  clear a1 b1 hW
  unfold writeQv writeQe
  by_cases hr : rightQ q
  · rw [if_pos hr, if_pos hr]
    rw [decide_eq_true hr] at KQ
    have KW := fun w1 (g : Below w.heap.size w w1) => write_any (mkS q.name) (by rw [mkS_size]; exact hs) (hE.later g (Nat.le_refl _))
    rw [mkS_data] at KW
    unfold writev writee at KW
    rw [if_pos hr.1, if_pos hr.1] at KW
    have hwl := writeB_le hr.1
    have hql : (writeQB q).length = (writeB q.name).length + 2 + 2 := by rw [writeQB_length]
    rw [hql]
    have hqe : (writeB q.name ++ putn q.kind 2) ++ putn q.cls 2 = writeQB q := by unfold writeQB; rw [List.append_assoc]
    obtain ⟨name, kind, cls⟩ := q
    dsimp only at KW hwl hqe hql ⊢
    rw [← hqe]
    have K := Lib.hid (And.intro KQ KW)
    have d1 : ∀ w', Below W.heap.size W w' → w'.cell? ⟨w.heap.size, 1, none⟩ = some (.int .i64 kind) := fun w' h => (HA.out.1.later h (Nat.le_refl _)).cell 1
    have d2 : ∀ w', Below W.heap.size W w' → w'.cell? ⟨w.heap.size, 2, none⟩ = some (.int .i64 cls) := fun w' h => (HA.out.1.later h (Nat.le_refl _)).cell 2
    have D1 := Lib.hid d1
    have D2 := Lib.hid d2
    clear KQ KW hr hE hqe hql d1 d2
    generalize writeB name = x at K hwl ⊢
    go_enter Tryz.func16, Tryz.ntmps16
    go_wp2_with (rw [HW.out]; refine wpList_load_qs rfl (.tmp 1) rfl rfl HA.out.1 ?_)
    refine K.out.1.mono ?_
    rintro e w2 ⟨rfl, g2⟩
    have H2 := Lib.hid (And.intro (HA.out.1.later g2 (Nat.le_refl _)) (And.intro g2 (HA.out.2.trans (g2.mono HA.out.2.size))))
    have e0 : w2.cell? ⟨w.heap.size, 0, none⟩ = some (.string (mkS name)) := H2.out.1.cell 0
    clear g2
    go_wp2_with fail
    refine (K.out.2 w2 H2.out.2.2).mono ?_
    rintro e w3 ⟨A3, c3, v3, rfl, o3, t3, g3⟩
    obtain rfl := t3.none' rfl
    have hb3 : Below W.heap.size W w3 := H2.out.2.1.trans (g3.mono H2.out.2.1.size)
    have H3 := Lib.hid (And.intro (Bs.own_later o3 fun _ _ => rfl) hb3)
    clear o3 t3 g3 e0 hb3
    have d1 := D1.out
    have d2 := D2.out
    go_wp2_with fail
    have hS : Below W.heap.size W w3.drew := H3.out.2.drew
    refine rg_begin (fun w' => Below W.heap.size W w') 9 (by kernel_rfl) rfl ?_
    refine rg_take 0 (v := ?rv1) rfl (by kernel_rfl) (by kernel_rfl) (by kernel_rfl) (fun _ _ _ h => h) (by rfl) hS (fun w2 hw2 => ?ry1) ?rr1
    case ry1 => ((try dsimp only at hw2); go_simp <;> with_reducible rfl)
    simp only [Act.put, List.setIfInBounds_toArray, List.set_cons_zero, List.set_cons_succ]
    refine rg_take 1 (v := ?rv2) rfl (by kernel_rfl) (by kernel_rfl) (by kernel_rfl) (fun _ _ _ h => h) (by rfl) hS (fun w2 hw2 => ?ry2) ?rr2
    case ry2 => ((try dsimp only at hw2); go_simp <;> with_reducible rfl)
    simp only [Act.put, List.setIfInBounds_toArray, List.set_cons_zero, List.set_cons_succ]
    refine rg_take 4 (v := ?rv3) rfl (by kernel_rfl) (by kernel_rfl) (by kernel_rfl) (fun _ _ _ h => h) (by rfl) hS (fun w2 hw2 => ?ry3) ?rr3
    case ry3 => ((try dsimp only at hw2); go_simp <;> with_reducible rfl)
    simp only [Act.put, List.setIfInBounds_toArray, List.set_cons_zero, List.set_cons_succ]
    refine rg_take 2 (v := ?rv4) rfl (by kernel_rfl) (by kernel_rfl) (by kernel_rfl) (fun _ _ _ h => h) (by rfl) hS (fun w2 hw2 => ?ry4) ?rr4
    case ry4 => ((try dsimp only at hw2); go_simp <;> with_reducible rfl)
    simp only [Act.put, List.setIfInBounds_toArray, List.set_cons_zero, List.set_cons_succ]
    refine rg_take 5 (v := ?rv5) rfl (by kernel_rfl) (by kernel_rfl) (by kernel_rfl) (fun _ _ _ h => h) (by rfl) hS (fun w2 hw2 => ?ry5) ?rr5
    case ry5 => ((try dsimp only at hw2); go_simp <;> with_reducible rfl)
    simp only [Act.put, List.setIfInBounds_toArray, List.set_cons_zero, List.set_cons_succ]
    refine rg_step 3 rfl (by kernel_rfl) (by rfl) (fun K hK => ?_)
    go_simp
    refine (put16_any (H3.out.1.later (Below.refl _ _).drew (Nat.le_refl _)) kind (by omega)).mono ?_
    rintro e w4 ⟨v4, rfl, o4, g4⟩
    obtain ⟨A4, c4, rfl, hB4⟩ := Bs.of_own o4
    replace hS := hS.trans (g4.mono hS.size)
    have H4 := Lib.hid hB4
    clear o4 g4 hB4
    refine hK.out _ _ hS ?_
    clear hK K
    try simp only [Act.put, List.setIfInBounds_toArray, List.set_cons_zero, List.set_cons_succ]
    refine rg_step 6 rfl (by kernel_rfl) (by rfl) (fun K hK => ?_)
    go_simp
    refine (put16_any H4.out cls (by omega)).mono ?_
    rintro e w5 ⟨v5, rfl, o5, g5⟩
    obtain ⟨A5, c5, rfl, hB5⟩ := Bs.of_own o5
    replace hS := hS.trans (g5.mono hS.size)
    have H5 := Lib.hid hB5
    clear o5 g5 hB5
    refine hK.out _ _ hS ?_
    clear hK K
    try simp only [Act.put, List.setIfInBounds_toArray, List.set_cons_zero, List.set_cons_succ]
    refine rg_take 7 (v := ?rv6) rfl (by kernel_rfl) (by kernel_rfl) (by kernel_rfl) (fun _ _ _ h => h) (by rfl) hS (fun w2 hw2 => ?ry6) ?rr6
    case ry6 => ((try dsimp only at hw2); go_simp <;> with_reducible rfl)
    simp only [Act.put, List.setIfInBounds_toArray, List.set_cons_zero, List.set_cons_succ]
    refine rg_take 8 (v := ?rv7) rfl (by kernel_rfl) (by kernel_rfl) (by kernel_rfl) (fun _ _ _ h => h) (by rfl) hS (fun w2 hw2 => ?ry7) ?rr7
    case ry7 => ((try dsimp only at hw2); go_simp <;> with_reducible rfl)
    simp only [Act.put, List.setIfInBounds_toArray, List.set_cons_zero, List.set_cons_succ]
    refine rg_done (by kernel_rfl) ?_
    have HS := Lib.hid (HA.out.2.trans (hS.mono HA.out.2.size))
    clear hS d1 d2
    go_wp2_with fail
    go_ret2
    exact ⟨A5, c5, .nilIface, rfl, H5.out, Tells.nil _ _ _, HS.out⟩
  · rw [if_neg hr, if_neg hr]
    rw [decide_eq_false hr] at KQ
    have K := Lib.hid KQ
    clear KQ hr hE
    go_enter Tryz.func16, Tryz.ntmps16
    go_wp2_with (rw [HW.out]; refine wpList_load_qs rfl (.tmp 1) rfl rfl HA.out.1 ?_)
    refine K.out.mono ?_
    rintro e w2 ⟨rfl, g2⟩
    have H2 := Lib.hid (HA.out.2.trans (g2.mono HA.out.2.size))
    clear g2
    go_wp2_with fail
    go_ret2
    exact ⟨none, 0, _, rfl, Bs.nil _, Tells.bare _ 1 (by decide) 0, H2.out⟩
set_option maxHeartbeats 4000000 in
/-- A record as it is written. -/
theorem writeR_any {r : Rc} (hk : r.ok) {A : Option Addr} {n c : Nat} {w : World} (hb : Bs w A n c r.data) (hn : r.name.length ≤ 1000000) (ht : r.target.length ≤ 1000000) (t0 : 0 ≤ r.ttl) (t1 : r.ttl < 4294967296) (hE : Env w) : Calls Tryz.prog 14 #[.agg (rcv r A n c)] w fun e w' =>
    ∃ A c v, e = .returned (.tuple #[.slice A (writeRv r).length c, v]) ∧ Bs w' A (writeRv r).length c (writeRv r) ∧ Tells w' v (writeRe r) ∧ Below w.heap.size w w' := by
  have a1 := RcBox.new w hk A n c
  have b1 : Below w.heap.size w (w.alloc (.cells (rcv r A n c) 28)) := (Below.refl _ _).alloc (Nat.le_refl _) _
  obtain ⟨W, hW⟩ : ∃ W, w.alloc (.cells (rcv r A n c) 28) = W := ⟨_, rfl⟩
  rw [hW] at a1 b1
  have HA := Lib.hid (And.intro a1 b1)
  have KR := rightR_any hk (hb.later b1 (Nat.le_refl _)) hn ht (hE.later b1 (Nat.le_refl _))
  have HW := Lib.hid hW
  clear a1 b1 hW
  unfold writeRv writeRe
  by_cases hr : rightR r
  · rw [if_pos hr, if_pos hr]
    rw [decide_eq_true hr] at KR
    have KW := fun w1 (g : Below w.heap.size w w1) => writeQ_any r.asks hn (hE.later g (Nat.le_refl _))
    unfold writeQv writeQe at KW
    rw [if_pos hr.1, if_pos hr.1] at KW
    have KD := fun w1 (g : Below w.heap.size w w1) => written_any hk hr (hb.later g (Nat.le_refl _)) (hE.later g (Nat.le_refl _))
    have hql : (writeQB r.asks).length ≤ 300 := by rw [writeQB_length]; have := writeB_le hr.1.1; omega
    have hdl := dataB_le hr
    have hrl : (writeRB r).length = (writeQB r.asks).length + 4 + 2 + (dataB r).length := by rw [writeRB_length]
    rw [hrl]
    have hre : ((writeQB r.asks ++ putn r.ttl 4) ++ putn ((dataB r).length : Nat) 2) ++ dataB r = writeRB r := by unfold writeRB; simp only [List.append_assoc]
    rw [← hre]
    have d3 : ∀ w', Below W.heap.size W w' → w'.cell? ⟨w.heap.size, 3, none⟩ = some (.int .u32 r.ttl) := fun w' h => (HA.out.1.later h (Nat.le_refl _)).ttl
    have D3 := Lib.hid d3
    have K := Lib.hid (And.intro KR (And.intro KW KD))
    have HK := Lib.hid hk
    clear KR KW KD hr hE hb hn ht hre hrl d3 hk
    generalize writeQB r.asks = x at K hql ⊢
    generalize dataB r = y at K hdl ⊢
    go_enter Tryz.func14, Tryz.ntmps14
    go_wp2_with (rw [HW.out]; refine wpList_load_rc rfl (.tmp 1) rfl rfl HA.out.1 ?_)
    refine K.out.1.mono ?_
    rintro e w2 ⟨rfl, g2⟩
    have H2 := Lib.hid (And.intro (HA.out.1.later g2 (Nat.le_refl _)) (And.intro g2 (HA.out.2.trans (g2.mono HA.out.2.size))))
    clear g2
    go_wp2_with (refine wpList_load_rc rfl (.tmp 1) rfl rfl H2.out.1 ?_)
    refine (asked_any HK.out A n c w2).mono ?_
    rintro e w3 ⟨rfl, g3⟩
    have H3 := Lib.hid (And.intro (H2.out.1.later g3 (Nat.le_refl _)) (And.intro (H2.out.2.1.trans (g3.mono H2.out.2.1.size)) (H2.out.2.2.trans (g3.mono H2.out.2.2.size))))
    clear g3
    go_wp2_with fail
    refine (K.out.2.1 w3 H3.out.2.2).mono ?_
    rintro e w4 ⟨A4, c4, v4, rfl, hB4, t4, g4⟩
    obtain rfl := t4.none' rfl
    have H4 := Lib.hid (And.intro (H3.out.1.later g4 (Nat.le_refl _)) (And.intro hB4 (And.intro (H3.out.2.1.trans (g4.mono H3.out.2.1.size)) (H3.out.2.2.trans (g4.mono H3.out.2.2.size)))))
    clear hB4 t4 g4
    go_wp2_with (refine wpList_load_rc rfl (.tmp 1) rfl rfl H4.out.1 ?_)
    refine (K.out.2.2 w4 H4.out.2.2.2).mono ?_
    rintro e w5 ⟨A5, n5, c5, rfl, hB5, g5⟩
    obtain rfl : n5 = y.length := hB5.len.symm
    have H5 := Lib.hid (And.intro (H4.out.2.1.later g5 (Nat.le_refl _)) (And.intro hB5 (And.intro (H4.out.2.2.1.trans (g5.mono H4.out.2.2.1.size)) (H4.out.2.2.2.trans (g5.mono H4.out.2.2.2.size)))))
    have e3 := D3.out w5 H5.out.2.2.1
    clear hB5 g5
    go_wp2_with fail
    refine (put32_any H5.out.1 r.ttl t0 t1 (by omega)).mono ?_
    rintro e w6 ⟨v6, rfl, o6, g6⟩
    obtain ⟨A6, c6, rfl, hB6⟩ := Bs.of_own o6
    have H6 := Lib.hid (And.intro hB6 (And.intro (H5.out.2.1.later g6 (Nat.le_refl _)) (H5.out.2.2.2.trans (g6.mono H5.out.2.2.2.size))))
    clear o6 g6 hB6 e3
    go_wp2_with fail
    refine (put16_any H6.out.1 (y.length : Nat) (by omega)).mono ?_
    rintro e w7 ⟨v7, rfl, o7, g7⟩
    obtain ⟨A7, c7, rfl, hB7⟩ := Bs.of_own o7
    have H7 := Lib.hid (And.intro hB7 (And.intro (H6.out.2.1.later g7 (Nat.le_refl _)) (H6.out.2.2.trans (g7.mono H6.out.2.2.size))))
    clear o7 g7 hB7
    have hp := pieces_new (w := w7) [⟨A7, x.length + 4 + 2, c7, (x ++ putn r.ttl 4) ++ putn (y.length : Nat) 2⟩, ⟨A5, y.length, c5, y⟩] (by simp only [List.mem_cons, List.not_mem_nil, or_false]; rintro p (rfl | rfl) <;> first | exact H7.out.1 | exact H7.out.2.1) #[.slice A7 (x.length + 4 + 2) c7, .slice A5 y.length c5] rfl 22
    have kc := concat_any w7.heap.size 2 2 _ _ rfl (by omega) hp (by simp [total]; omega)
    have HC := Lib.hid (And.intro kc (H7.out.2.2.alloc H7.out.2.2.size (.cells #[.slice A7 (x.length + 4 + 2) c7, .slice A5 y.length c5] 22)))
    clear hp kc
    go_wp2_with fail
    refine HC.out.1.mono ?_
    rintro e w8 ⟨v8, rfl, o8, g8⟩
    have o9 := o8
    simp only [flat, List.flatMap_cons, List.flatMap_nil, List.append_nil] at o9
    replace o9 := owns_n (n' := x.length + 4 + 2 + y.length) (by simp [total]) o9
    obtain ⟨A9, c9, rfl, hB9⟩ := Bs.of_own o9
    have H9 := Lib.hid (And.intro hB9 (HC.out.2.trans (g8.mono HC.out.2.size)))
    clear o8 o9 g8 hB9
    go_wp2_with fail
    go_ret2
    exact ⟨A9, c9, .nilIface, rfl, H9.out.1, Tells.nil _ _ _, H9.out.2⟩
  · rw [if_neg hr, if_neg hr]
    rw [decide_eq_false hr] at KR
    have K := Lib.hid KR
    clear KR hr hE hb
    go_enter Tryz.func14, Tryz.ntmps14
    go_wp2_with (rw [HW.out]; refine wpList_load_rc rfl (.tmp 1) rfl rfl HA.out.1 ?_)
    refine K.out.mono ?_
    rintro e w2 ⟨rfl, g2⟩
    have H2 := Lib.hid (HA.out.2.trans (g2.mono HA.out.2.size))
    clear g2
    go_wp2_with fail
    go_ret2
    exact ⟨none, 0, _, rfl, Bs.nil _, Tells.bare _ 1 (by decide) 0, H2.out⟩
end Go.Proofs.YtddnfbkmhgflbaaGreatDoor

namespace Go.Proofs.YtddnfbkmhgflbaaGreatDoor
open Go.RowKit
set_option maxRecDepth 100000

theorem awake_read : readQv [0, 0, 1, 0, 1] 5 0 = ⟨⟨[], 1, 1⟩, 5, fl0⟩ :=
  back_q (l := [0, 0, 1, 0, 1]) (n := 5) rfl (q := ⟨[], 1, 1⟩) (by decide +kernel) (at_ := 0) (rest := []) (by omega) (by decide +kernel)
theorem awake_right : rightR ⟨[], 9, 0, 0, false, zero16, [], []⟩ := by decide +kernel
set_option maxHeartbeats 2000000 in
theorem awake13 {w : World} (hE : Env w) : Calls Tryz.prog 9 #[] w fun e w' => e = .returned (.bool true) ∧ Below w.heap.size w w' := by
  have hB := Bs.lit w [0, 0, 1, 0, 1] 5 rfl (by unfold maxLen; omega) #[.int .u8 0, .int .u8 0, .int .u8 1, .int .u8 0, .int .u8 1] rfl 5
  have hW : Below w.heap.size w (w.alloc (.cells #[.int .u8 0, .int .u8 0, .int .u8 1, .int .u8 0, .int .u8 1] 5)) := (Below.refl _ _).alloc (Nat.le_refl _) _
  have K := readQ_any hB (by omega) 0 (by omega)
  rw [awake_read] at K
  unfold ReadQR at K
  have KR := fun w1 (g : Below w.heap.size w w1) => rightR_any (r := ⟨[], 9, 0, 0, false, zero16, [], []⟩) rfl (Bs.nil w1) (by decide) (by decide) (hE.later g (Nat.le_refl _))
  rw [decide_eq_true awake_right] at KR
  have HK := Lib.hid (And.intro K (And.intro hW KR))
  clear K hW hB KR hE
  go_enter Tryz.func9, Tryz.ntmps9
  go_wp2_with fail
  refine HK.out.1.mono ?_
  rintro e w1 ⟨v1, rfl, t1, b1⟩
  obtain rfl := t1.none' rfl
  have H1 := Lib.hid (HK.out.2.1.trans (b1.mono HK.out.2.1.size))
  clear t1 b1
  go_wp2_with (first
    | (refine wpList_wanted (by rfl) (wp_build_rc1 (.const (.int .i64 9)) rfl 9 rfl ?_))
    | (refine wpList_store_qs rfl (.tmp 1) (.tmp 7) rfl ⟨[], 1, 1⟩ rfl rfl H2.out.1 ?_; intro w3 a3 o3 z3 g3; have H3 := Lib.hid (And.intro a3 (g3 w.heap.size w H1.out.size H2.out.2)); (have e1 : w3.cell? ⟨w1.heap.size, 1, none⟩ = some (.int .i64 1) := H3.out.1.cell 1); clear a3 o3 z3 g3)
    | (refine wpList_alloc_qs rfl rfl ?_; intro w2 a2 g2 z2; have H2 := Lib.hid (And.intro a2 (H1.out.trans (g2.mono H1.out.size))); clear a2 g2 z2))
  refine (HK.out.2.2 w3 H3.out.2).mono ?_
  rintro e w4 ⟨rfl, b4⟩
  have H4 := Lib.hid (H3.out.2.trans (b4.mono H3.out.2.size))
  clear b4 e1
  go_wp2_with fail
  go_ret
  exact ⟨rfl, H4.out⟩
end Go.Proofs.YtddnfbkmhgflbaaGreatDoor

namespace Go.Proofs.YtddnfbkmhgflbaaGreatDoor
open Go.RowKit
set_option maxRecDepth 100000

theorem ref_write_row {S : List UInt8} (h : rightN S) (w : World) : Calls Tryz.prog 27 #[.string (mkS S)] w fun e w' => ∃ A c, e = .returned (.tuple #[.slice A (writeB S).length c, .agg (flv 0 0 false)]) ∧ w'.ownsRow w.heap.size 5 1 (.slice A (writeB S).length c) (writeB S).length (bv (writeB S)) ∧ Below w.heap.size w w' := by
  have hl := right_len h
  have k := ref_write_own (mkS S) (by rw [mkS_size]; omega) w
  rw [mkS_data] at k
  unfold writev writee at k
  rw [if_pos h, if_pos h] at k
  exact k
theorem ref_write_right {S : List UInt8} (h : rightN S) (w : World) : Calls Tryz.prog 27 #[.string (mkS S)] w fun e w' => ∃ A c, e = .returned (.tuple #[.slice A (writeB S).length c, .agg (flv 0 0 false)]) ∧ Bs w' A (writeB S).length c (writeB S) ∧ Below w.heap.size w w' := by
  have hl := right_len h
  have k := ref_write (mkS S) (by rw [mkS_size]; omega) w
  rw [mkS_data] at k
  unfold writev writee at k
  rw [if_pos h, if_pos h] at k
  exact k
end Go.Proofs.YtddnfbkmhgflbaaGreatDoor

namespace Go.Proofs.YtddnfbkmhgflbaaGreatDoor
open Go.RowKit
set_option maxRecDepth 100000

theorem ptr_record {S T : List UInt8} (hS : rightN S) (hT : rightN T) {N a : Nat} (ha : (writeB S).length = a) (hn : ((writeB S ++ writeB T) ++ [0, 5, 0, 1, 0, 0, 0, 9, 0, 2, 192, 0]).length = N) :
    readRv ((writeB S ++ writeB T) ++ [0, 5, 0, 1, 0, 0, 0, 9, 0, 2, 192, 0]) N a = ⟨⟨T, 5, 1, 9, false, zero16, S, []⟩, N, fl0⟩ := by
  have h1 : 1 ≤ (writeB S).length := by rw [writeB_length]; split <;> omega
  have hn' := hn
  simp only [List.length_append, List.length_cons, List.length_nil] at hn'
  have hd : ((writeB S ++ writeB T) ++ [0, 5, 0, 1, 0, 0, 0, 9, 0, 2, 192, 0]).drop a = writeB T ++ (headB 0 5 0 1 0 0 0 9 0 2 ++ [192, 0]) := by
    rw [List.append_assoc, List.drop_left' ha]
    rfl
  obtain ⟨h10, hN, hq, hr⟩ := head_read hn hT (at_ := a) (p := a + (writeB T).length) (by omega) hd rfl (by decide)
  rw [hr, show (0 : UInt8).toNat * 256 + (2 : UInt8).toNat = 2 from rfl]
  have hv := ptr_read hn hS (r1 := writeB T ++ [0, 5, 0, 1, 0, 0, 0, 9, 0, 2, 192, 0]) (by rw [List.append_assoc]) (at_ := a + (writeB T).length + 10) (by omega) h10
  rw [len_name (a + (writeB T).length + 8) _ (a + (writeB T).length + 12) rfl (by rw [show ((a + (writeB T).length + 8 : Nat) : Int) + 2 = ((a + (writeB T).length + 10 : Nat) : Int) by omega]; exact hv)]
  rw [if_pos (by omega), show a + (writeB T).length + 8 + 2 + 2 = N by simp only [List.length_cons, List.length_nil] at hN; omega]
  rfl
set_option maxHeartbeats 4000000 in
theorem recordPointers (s t : ByteArray) (hs : s.size ≤ 9223372036854775807) (ht : t.size ≤ 9223372036854775807) {w : World} (hE : Env w) (hg : Handle w) : Calls Tryz.prog 7 #[.string s, .string t] w fun e w' => e = .returned (.bool true) ∧ Below w.heap.size w w' := by
  have HE := Lib.hid (And.intro hE hg)
  clear hE hg
  have KS := Lib.hid fun w1 => playName_any s hs w1
  have KT := Lib.hid fun w1 => playName_any t ht w1
  have rs := playN_right s.data.toList
  have rt := playN_right t.data.toList
  generalize playN s.data.toList = S at KS rs
  generalize playN t.data.toList = T at KT rt
  have WS := Lib.hid fun w1 => ref_write_right rs.1 w1
  have WT := Lib.hid fun w1 => ref_write_right rt.1 w1
  have l1 := writeB_le rs.1
  have l2 := writeB_le rt.1
  obtain ⟨N, hN⟩ : ∃ N, ((writeB S ++ writeB T) ++ [0, 5, 0, 1, 0, 0, 0, 9, 0, 2, 192, 0]).length = N := ⟨_, rfl⟩
  obtain ⟨a, ha⟩ : ∃ a, (writeB S).length = a := ⟨_, rfl⟩
  obtain ⟨b, hb⟩ : ∃ b, (writeB T).length = b := ⟨_, rfl⟩
  have hR := ptr_record rs.1 rt.1 ha hN
  have hN2 : 0 + a + b + 12 = N := by rw [← hN]; simp [ha, hb]; omega
  rw [ha] at WS l1
  rw [hb] at WT l2
  have HR := Lib.hid hR
  have HN := Lib.hid hN2
  clear hR rs rt hN ha hb hN2
  generalize writeB S = sb at WS HR
  generalize writeB T = tb at WT HR
  go_enter Tryz.func7, Tryz.ntmps7
  go_wp2_with fail
  refine (KS.out w).mono ?_
  rintro e w1 ⟨rfl, b1⟩
  have H1 := Lib.hid b1
  clear b1
  go_wp2_with fail
  refine (KT.out w1).mono ?_
  rintro e w2 ⟨rfl, b2⟩
  have H2 := Lib.hid (H1.out.trans (b2.mono H1.out.size))
  clear b2
  go_wp2_with fail
  refine (WS.out w2).mono ?_
  rintro e w3 ⟨A3, c3, rfl, hB3, b3⟩
  have H3 := Lib.hid (And.intro hB3 (H2.out.trans (b3.mono H2.out.size)))
  clear hB3 b3
  go_wp2_with (first
    | (refine wpList_store_fl rfl (.tmp 6) (.tmp 23) rfl 0 0 false rfl rfl H4.out.1 ?_; intro w5 a5 o5 z5 g5; have H5 := Lib.hid (And.intro (H4.out.2.1.farFl H4.out.1 o5) (g5 w.heap.size w H3.out.2.size H4.out.2.2)); clear a5 o5 z5 g5)
    | (refine wpList_alloc_fl rfl rfl ?_; intro w4 a4 g4 z4; have H4 := Lib.hid (And.intro a4 (And.intro (H3.out.1.later g4 (Nat.le_refl _)) (H3.out.2.trans (g4.mono H3.out.2.size)))); clear a4 g4 z4))
  refine (WT.out w5).mono ?_
  rintro e w6 ⟨A6, c6, rfl, hB6, b6⟩
  have H6 := Lib.hid (And.intro (H5.out.1.later b6 (Nat.le_refl _)) (And.intro hB6 (H5.out.2.trans (b6.mono H5.out.2.size))))
  clear hB6 b6
  go_wp2_with (first
    | (at_builtin; refine wpList_append_bs rfl (.tmp 36) (.tmp 37) 22 rfl w8.heap.size 5 info5 Tryz.underlying22 _ (a + b) (sb ++ tb) rfl (H10.out.1.alloc _) _ 12 12 [0, 5, 0, 1, 0, 0, 0, 9, 0, 2, 192, 0] rfl (by exact Bs.lit _ [0, 5, 0, 1, 0, 0, 0, 9, 0, 2, 192, 0] 12 rfl (by unfold maxLen; omega) _ rfl _) (by omega) (by have := H10.out.2.size; simp; omega) ?_; intro v11 w11 o11 g11 n11 m11; have o11' := owns_n (n' := N) (by have := HN.out; omega) o11; obtain ⟨A11, c11, rfl, hB11⟩ := Bs.of_own o11'; have H11 := Lib.hid (And.intro hB11 (H8.out.2.2.trans (((H10.out.2.alloc H10.out.2.size _).grown g11 (by have := H10.out.2.size; simp; omega) (fun q hq => (H10.out.1.lt q hq).1)).mono H8.out.2.2.size))); clear o11 o11' g11 n11 m11 hB11)
    | (at_builtin; refine wpList_append_bs rfl (.tmp 33) (.tmp 34) 22 rfl w8.heap.size 5 info5 Tryz.underlying22 _ a sb rfl H9.out.1 A6 b c6 tb rfl (H8.out.2.1.later H9.out.2 (Nat.le_refl _)) (by omega) H9.out.2.size ?_; intro v10 w10 o10 g10 n10 m10; have H10 := Lib.hid (And.intro o10 (H9.out.2.grown g10 H9.out.2.size (fun q hq => (H9.out.1.lt q hq).1))); clear o10 g10 n10 m10)
    | (at_builtin; refine wpList_append_bs rfl (.const (.slice none 0 0)) (.tmp 29) 22 rfl w8.heap.size 5 info5 Tryz.underlying22 _ 0 [] rfl (World.ownsRow_nil _ _ _ _) A3 a c3 sb rfl H8.out.1 (by omega) (Nat.le_refl _) ?_; intro v9 w9 o9 g9 n9 m9; have o9' := owns_n (n' := a) (by omega) o9; rw [List.nil_append] at o9'; obtain ⟨A9, c9, rfl, _⟩ := Bs.of_own o9'; have H9 := Lib.hid (And.intro o9' ((Below.refl _ w8).grown g9 (Nat.le_refl _) (fun q hq => by cases hq))); clear o9 o9' g9 n9 m9)
    | (refine wpList_store_fl rfl (.tmp 8) (.tmp 28) rfl 0 0 false rfl rfl H7.out.1 ?_; intro w8 a8 o8 z8 g8; have H8 := Lib.hid (And.intro (H7.out.2.1.farFl H7.out.1 o8) (And.intro (H7.out.2.2.1.farFl H7.out.1 o8) (g8 w.heap.size w H6.out.2.2.size H7.out.2.2.2))); clear a8 o8 z8 g8)
    | (refine wpList_alloc_fl rfl rfl ?_; intro w7 a7 g7 z7; have H7 := Lib.hid (And.intro a7 (And.intro (H6.out.1.later g7 (Nat.le_refl _)) (And.intro (H6.out.2.1.later g7 (Nat.le_refl _)) (H6.out.2.2.trans (g7.mono H6.out.2.2.size))))); clear a7 g7 z7))
  have kr := readR_any H11.out.1 (by have := HN.out; omega) (a : Int) (by omega) (HE.out.2.later H11.out.2 (Nat.le_refl _))
  rw [HR.out] at kr
  unfold ReadRR at kr
  have KR := Lib.hid kr
  clear kr
  refine KR.out.mono ?_
  rintro e w12 ⟨A12, n12, c12, v12, rfl, hB12, t12, b12⟩
  obtain rfl := t12.none' rfl
  have hB12' := hB12.len
  have H12 := Lib.hid (And.intro hB12 (H11.out.2.trans (b12.mono H11.out.2.size)))
  clear hB12 t12 b12 hB12'
  go_wp2_with (first
    | (refine wpList_store_rc rfl (.tmp 14) (.tmp 48) rfl ⟨T, 5, 1, 9, false, zero16, S, []⟩ none 0 0 rfl rfl rfl H15.out.2.1 ?_; intro w16 a16 o16 z16 g16; have H16 := Lib.hid (And.intro (H15.out.1.same (o16 _ (Nat.ne_of_lt H14.out.1.lt))) (And.intro a16 (And.intro (H15.out.2.2.1.later (g16 w14.heap.size w14 (Nat.le_refl _) H15.out.2.2.2.1) (Nat.le_refl _)) (g16 w.heap.size w H14.out.2.2.size H15.out.2.2.2.2)))); clear a16 o16 z16 g16)
    | (refine wpList_build_rc5 rfl (.tmp 46) (.const (.int .i64 5)) (.const (.int .i64 1)) (.const (.int .u32 9)) (.tmp 47) rfl T 5 1 9 S rfl rfl rfl rfl rfl ?_)
    | (have q14 := H14.out.2.2; refine wpList_alloc_rc rfl rfl ?_; intro w15 a15 g15 z15; have H15 := Lib.hid (And.intro (H14.out.1.later g15 (Nat.le_refl _)) (And.intro a15 (And.intro H14.out.2.1 (And.intro g15 (q14.trans (g15.mono q14.size)))))); clear a15 g15 z15 q14)
    | (refine wpList_store_rc rfl (.tmp 11) (.tmp 43) rfl ⟨T, 5, 1, 9, false, zero16, S, []⟩ A12 n12 c12 rfl rfl rfl H13.out.1 ?_; intro w14 a14 o14 z14 g14; have H14 := Lib.hid (And.intro a14 (And.intro (H12.out.1.later (g14 w12.heap.size w12 (Nat.le_refl _) H13.out.2.1) (Nat.le_refl _)) (g14 w.heap.size w H12.out.2.size H13.out.2.2))); clear a14 o14 z14 g14)
    | (refine wpList_alloc_rc rfl rfl ?_; intro w13 a13 g13 z13; have H13 := Lib.hid (And.intro a13 (And.intro g13 (H12.out.2.trans (g13.mono H12.out.2.size)))); clear a13 g13 z13))
  refine (awake13 (HE.out.1.later H16.out.2.2.2 (Nat.le_refl _))).mono ?_
  rintro e w17 ⟨rfl, b17⟩
  have H17 := Lib.hid (And.intro (H16.out.1.later b17 (Nat.le_refl _)) (And.intro (H16.out.2.1.later b17 (Nat.le_refl _)) (And.intro (H16.out.2.2.1.later b17 (Nat.le_refl _)) (H16.out.2.2.2.trans (b17.mono H16.out.2.2.2.size)))))
  clear b17
  go_wp2_with (first
    | (refine wpList_wanted (by rfl) (wp_load_rc (.tmp 11) rfl rfl H17.out.1 ?_))
    | (refine wpList_wanted (by rfl) (wp_load_rc (.tmp 14) rfl rfl H17.out.2.1 ?_)))
  refine (record_same (r := ⟨T, 5, 1, 9, false, zero16, S, []⟩) rfl H17.out.2.2.1 (Bs.nil _)).mono ?_
  rintro e w18 ⟨rfl, b18⟩
  have H18 := Lib.hid (H17.out.2.2.2.trans (b18.mono H17.out.2.2.2.size))
  clear b18
  go_wp2_with fail
  go_ret
  exact ⟨rfl, H18.out⟩
end Go.Proofs.YtddnfbkmhgflbaaGreatDoor
