/-
  stockaderef12.WriteRecord: the document's own answer. Conditions: those of the slice; names of 2,000 bytes at most.
  stockaderef12.data where the type has no form of its own. Conditions: those of the slice; a million bytes at most.
  stockaderef12.data: the document's own answer, whatever the type. Conditions: those of the slice; a million bytes at most.
-/
import Derived.Test.YtpojiimcdknafaaGreatDoorZ45
import Derived.Test.YtpojiimcdknafaaGreatDoorZ44
namespace Go.Proofs.YtpojiimcdknafaaGreatDoor
open Go.RowKit
set_option maxRecDepth 100000

theorem ref_writeQ_ok {q : Qs} (h : rightQ q) (hs : q.name.length ≤ 2000) (w : World) : Calls Tryz.prog 17 #[.agg (qsv q)] w fun e w' => ∃ A' c', e = .returned (.tuple #[.slice A' (writeQB q).length c', .agg (flv 0 0 false)]) ∧ Bs w' A' (writeQB q).length c' (writeQB q) ∧ Ow w.heap.size A' ∧ Below w.heap.size w w' := by
  have k := ref_writeQ q hs w
  unfold RefB writeQv writeQe at k
  rw [if_pos h, if_pos h] at k
  refine k.mono ?_
  rintro e w' ⟨A', n', c', rfl, B, O, b⟩
  obtain rfl := B.len
  exact ⟨A', c', rfl, B, O, b⟩
set_option maxHeartbeats 8000000 in
theorem ref_writeR {r : Rc} (hk : r.ok) {A : Option Addr} {n c : Nat} {w : World} (hb : Bs w A n c r.data) (hn : r.name.length ≤ 2000) (ht : r.target.length ≤ 2000) (t0 : 0 ≤ r.ttl) (t1 : r.ttl < 4294967296) : Calls Tryz.prog 15 #[.agg (rcv r A n c)] w (RefB (writeRv r) (writeRe r) w) := by
  have a1 := RcBox.new w hk A n c
  have b1 : Below w.heap.size w (w.alloc (.cells (rcv r A n c) 28)) := (Below.refl _ _).alloc (Nat.le_refl _) _
  obtain ⟨W, hW⟩ : ∃ W, w.alloc (.cells (rcv r A n c) 28) = W := ⟨_, rfl⟩
  rw [hW] at a1 b1
  have HA := Lib.hid (And.intro a1 b1)
  have HW := Lib.hid hW
  have HL1 := Lib.hid (RcBox.lt a1)
  have KR := fun (w1 : World) (hw1 : Below w.heap.size w w1) => ref_rightR hk (hb.later hw1 (Nat.le_refl _)) hn ht
  have HB := Lib.hid hb
  clear a1 b1 hW hb
  unfold RefB writeRv writeRe
  by_cases hr : rightR r
  case neg =>
    rw [if_neg hr, if_neg hr]
    rw [decide_eq_false hr] at KR
    have KR := Lib.hid KR
    clear hr
    --<< no
    go_enter Tryz.func15, Tryz.ntmps15
    go_wp2_with (first
      | (refine wpList_load_rc rfl (.tmp 1) rfl rfl H2.out.1 ?_)
      | (rw [HW.out]; refine wpList_alloc_fl rfl rfl ?_; intro w2 a2 b2 z2; have H2 := Lib.hid (And.intro (HA.out.1.later b2 (Nat.le_refl _)) (And.intro a2 (HA.out.2.trans (b2.mono HA.out.2.size)))); clear a2 b2 z2))
    refine (KR.out w2 H2.out.2.2).mono ?_
    rintro e w3 ⟨rfl, b3⟩
    have H3 := Lib.hid (And.intro (H2.out.1.later b3 (Nat.le_refl _)) (And.intro (H2.out.2.1.later b3 (Nat.le_refl _)) (H2.out.2.2.trans (b3.mono H2.out.2.2.size))))
    clear b3
    go_wp2_with fail
    refine (help_bare 1 _).mono ?_
    rintro e w9 ⟨rfl, b9⟩
    have H9 := Lib.hid (And.intro (H3.out.2.1.later b9 (Nat.le_refl _)) (H3.out.2.2.trans (b9.mono H3.out.2.2.size)))
    clear b9
    go_wp2_with (refine wpList_store_fl rfl (.tmp 3) (.tmp 10) rfl 1 0 false rfl rfl H9.out.1 ?_; intro w10 a10 o10 z10 g10; have H10 := Lib.hid (And.intro a10 (g10 w.heap.size w (Nat.le_of_lt HL1.out) H9.out.2)); clear a10 o10 z10 g10)
    exact bodyPost_ret (results_tmp_fl rfl _ rfl H10.out.1) rfl ⟨none, 0, 0, rfl, Bs.nil _, ow_none _, H10.out.2⟩
    -->>
  rw [if_pos hr, if_pos hr]
  rw [decide_eq_true hr] at KR
  have KR := Lib.hid KR
  have KW := Lib.hid (fun w1 => ref_writeQ_ok (q := r.asks) hr.1 hn w1)
  have hwl := writeB_le hr.1.1
  have hql := writeQB_length r.asks
  have hnm : r.asks.name = r.name := rfl
  rw [hnm] at hwl hql
  have hqb : (writeQB r.asks).length ≤ 259 := by omega
  obtain ⟨N, hN⟩ : ∃ N, (writeQB r.asks).length = N := ⟨_, rfl⟩
  rw [hN] at KW hqb
  have HN := Lib.hid hN
  have htr := hr.2.2.1
  have hdl := hr.2.2.2.1
  have hal := alike_cases hr
  have hlen := HB.out.len
  clear hwl hql hnm hN hr
  by_cases k28 : r.kind = 28
  case pos =>
    --<< k28
    have hv : r.v6 = true := by
      rcases hal with x | x | x | x
      · exact x.2.1
      · omega
      · omega
      · omega
    have hdt : dataB r = r.adr.take 16 := by unfold dataB; rw [if_pos (by omega), hv]; rfl
    clear hal
    have HK := Lib.hid k28
    clear k28
    go_enter Tryz.func15, Tryz.ntmps15
    go_wp2_with (first
      | (refine wpList_load_rc rfl (.tmp 1) rfl rfl H2.out.1 ?_)
      | (rw [HW.out]; refine wpList_alloc_fl rfl rfl ?_; intro w2 a2 b2 z2; have H2 := Lib.hid (And.intro (HA.out.1.later b2 (Nat.le_refl _)) (And.intro a2 (HA.out.2.trans (b2.mono HA.out.2.size)))); clear a2 b2 z2))
    refine (KR.out w2 H2.out.2.2).mono ?_
    rintro e w3 ⟨rfl, b3⟩
    have H3 := Lib.hid (And.intro (H2.out.1.later b3 (Nat.le_refl _)) (And.intro (H2.out.2.1.later b3 (Nat.le_refl _)) (H2.out.2.2.trans (b3.mono H2.out.2.2.size))))
    clear b3
    have e0 := H3.out.1.name
    have e1 := H3.out.1.kind
    have e2 := H3.out.1.cls
    go_wp2_with (refine wpList_build_qs rfl (.tmp 13) (.tmp 15) (.tmp 17) rfl r.asks rfl rfl rfl ?_)
    refine (KW.out w3).mono ?_
    rintro e w4 ⟨A4, c4, rfl, B4, O4, b4⟩
    have H4 := Lib.hid (And.intro (H3.out.1.later b4 (Nat.le_refl _)) (And.intro (H3.out.2.1.later b4 (Nat.le_refl _)) (And.intro B4 (H3.out.2.2.trans (b4.mono H3.out.2.2.size)))))
    have HL2 := Lib.hid (FlBox.lt H4.out.2.1)
    clear B4 O4 b4 e0 e1 e2
    go_wp2_with (first
        | (refine wpList_store_fl rfl (.tmp 5) (.tmp 21) rfl 0 0 false rfl rfl H5.out.2.2.1 ?_; intro w6 a6 o6 z6 g6; have H6 := Lib.hid (And.intro (H5.out.1.same (o6 _ (Nat.ne_of_lt (Nat.lt_trans HL1.out HL2.out)))) (And.intro (H5.out.2.1.same (o6 _ (Nat.ne_of_lt HL2.out))) (And.intro (H4.out.2.2.1.keep (fun b o hb => World.cell?_of_block ((o6 b (Nat.ne_of_lt hb)).trans (HB5.out.block b hb)))) (g6 w.heap.size w (Nat.le_of_lt (Nat.lt_trans HL1.out HL2.out)) H5.out.2.2.2)))); have f1 := H6.out.1.kind; rw [HK.out] at f1; have f2 := H6.out.1.ttl; have f3 := H6.out.1.target; have f4 := H6.out.1.data; clear a6 o6 z6 g6)
        | (refine wpList_alloc_fl rfl rfl ?_; intro w5 a5 b5 z5; have H5 := Lib.hid (And.intro (H4.out.1.later b5 (Nat.le_refl _)) (And.intro (H4.out.2.1.later b5 (Nat.le_refl _)) (And.intro a5 (H4.out.2.2.2.trans (b5.mono H4.out.2.2.2.size))))); have HB5 := Lib.hid b5; clear a5 b5 z5)
        | (refine wpList_load_rcAd rfl (.tmp 31) rfl rfl H6.out.1 ?_; rw [hv]))
    refine (size_ref true r.adr hk _).mono ?_
    rintro e w8 ⟨rfl, b8⟩
    rw [show ((wid true : Nat) : Int) = 128 from rfl]
    have H8 := Lib.hid (And.intro (H6.out.1.later b8 (Nat.le_refl _)) (And.intro (H6.out.2.1.later b8 (Nat.le_refl _)) (And.intro (H6.out.2.2.1.later b8 (Nat.le_refl _)) (H6.out.2.2.2.trans (b8.mono H6.out.2.2.2.size)))))
    have f2 := H8.out.1.ttl
    clear b8
    go_wp2_with fail
    have HX := Lib.hid (show Bs w8 (some ⟨w.heap.size, 5, none⟩) 16 (16) (dataB r) from by rw [hdt]; exact H8.out.1.adrB.cut (i := 0) (k := 16) (by omega) (fun _ => rfl) (fun h => by cases h))
    refine (put_bs H8.out.2.2.1 r.ttl 4 (by omega) (by omega)).mono ?_
    rintro e w20 ⟨A20, c20, rfl, B20, O20, b20⟩
    have H20 := Lib.hid (And.intro (H8.out.2.1.later b20 (Nat.le_refl _)) (And.intro B20 (And.intro (HX.out.later b20 (Nat.le_refl _)) (H8.out.2.2.2.trans (b20.mono H8.out.2.2.2.size)))))
    clear B20 O20 b20
    go_wp2_with fail
    refine (put_bs H20.out.2.1 ((16 : Nat) : Int) 2 (by omega) (by omega)).mono ?_
    rintro e w21 ⟨A21, c21, rfl, B21, O21, b21⟩
    have HG := Lib.hid (FlBox.lt H20.out.1)
    have H21 := Lib.hid (And.intro (H20.out.1.later b21 (Nat.le_refl _)) (And.intro O21 (And.intro (H20.out.2.2.1.later b21 (Nat.le_refl _)) (And.intro (H20.out.2.2.2.trans (b21.mono H20.out.2.2.2.size)) b21.size))))
    clear B21 O21 b21
    go_wp2_with (first
      | (refine wpList_store_fl rfl (.tmp 3) (.tmp 54) rfl 0 0 false rfl rfl H22.out.1 ?_; intro w23 a23 o23 z23 g23; have H23 := Lib.hid (And.intro a23 (And.intro (H22.out.2.1.farBlk (fun a ha => Nat.ne_of_gt (Nat.lt_of_lt_of_le HG.out (H22.out.2.2.1 a ha))) o23) (g23 w.heap.size w (Nat.le_of_lt HL1.out) H22.out.2.2.2))); clear a23 o23 z23 g23)
      | (at_builtin; refine wpList_append_bs rfl (.tmp 51) (.tmp 52) 22 rfl w20.heap.size 5 info5 Tryz.underlying22 (.slice A21 (N + 4 + 2) c21) (N + 4 + 2) _ rfl H21.out.2.1 (some ⟨w.heap.size, 5, none⟩) 16 (16) (dataB r) rfl H21.out.2.2.1 (by omega) H21.out.2.2.2.2 ?_; intro v22 w22 o22 g22 n22 m22; have b22 : Below w.heap.size w w22 := H21.out.2.2.2.1.grown g22 H21.out.2.2.2.1.size (fun q hq => Nat.le_trans (Nat.le_of_lt (Nat.lt_trans HL1.out HG.out)) (H21.out.2.1.lt q hq).1); obtain ⟨A22, c22, rfl, B22⟩ := Bs.of_own o22; have H22 := Lib.hid (And.intro (H21.out.1.same (g22.block _ (Nat.lt_of_lt_of_le HG.out H21.out.2.2.2.2) (fun hq => absurd (H21.out.2.1.lt _ hq.symm).1 (Nat.not_le_of_lt HG.out)))) (And.intro B22 (And.intro (own_ow o22) b22))); clear o22 g22 n22 m22 b22 B22))
    refine bodyPost_ret (results_tmp_fl rfl _ rfl H23.out.1) rfl ⟨A22, _, c22, rfl, ?_, (fun a ha => Nat.le_of_lt (Nat.lt_of_lt_of_le (Nat.lt_trans HL1.out HG.out) (H22.out.2.2.1 a ha))), H23.out.2.2⟩
    have hz := H23.out.2.1
    unfold writeRB
    rw [← HX.out.len] at hz
    rw [List.append_assoc, List.append_assoc] at hz
    rw [HX.out.len] at hz ⊢
    exact hz
    -->>
  by_cases k1 : r.kind = 1
  case pos =>
    --<< k1
    have hv : r.v6 = false := by
      rcases hal with x | x | x | x
      · omega
      · exact x.2.1
      · omega
      · omega
    have hdt : dataB r = r.adr.take 4 := by unfold dataB; rw [if_pos (by omega), hv]; rfl
    clear hal
    have HK := Lib.hid k1
    clear k1
    go_enter Tryz.func15, Tryz.ntmps15
    go_wp2_with (first
      | (refine wpList_load_rc rfl (.tmp 1) rfl rfl H2.out.1 ?_)
      | (rw [HW.out]; refine wpList_alloc_fl rfl rfl ?_; intro w2 a2 b2 z2; have H2 := Lib.hid (And.intro (HA.out.1.later b2 (Nat.le_refl _)) (And.intro a2 (HA.out.2.trans (b2.mono HA.out.2.size)))); clear a2 b2 z2))
    refine (KR.out w2 H2.out.2.2).mono ?_
    rintro e w3 ⟨rfl, b3⟩
    have H3 := Lib.hid (And.intro (H2.out.1.later b3 (Nat.le_refl _)) (And.intro (H2.out.2.1.later b3 (Nat.le_refl _)) (H2.out.2.2.trans (b3.mono H2.out.2.2.size))))
    clear b3
    have e0 := H3.out.1.name
    have e1 := H3.out.1.kind
    have e2 := H3.out.1.cls
    go_wp2_with (refine wpList_build_qs rfl (.tmp 13) (.tmp 15) (.tmp 17) rfl r.asks rfl rfl rfl ?_)
    refine (KW.out w3).mono ?_
    rintro e w4 ⟨A4, c4, rfl, B4, O4, b4⟩
    have H4 := Lib.hid (And.intro (H3.out.1.later b4 (Nat.le_refl _)) (And.intro (H3.out.2.1.later b4 (Nat.le_refl _)) (And.intro B4 (H3.out.2.2.trans (b4.mono H3.out.2.2.size)))))
    have HL2 := Lib.hid (FlBox.lt H4.out.2.1)
    clear B4 O4 b4 e0 e1 e2
    go_wp2_with (first
        | (refine wpList_store_fl rfl (.tmp 5) (.tmp 21) rfl 0 0 false rfl rfl H5.out.2.2.1 ?_; intro w6 a6 o6 z6 g6; have H6 := Lib.hid (And.intro (H5.out.1.same (o6 _ (Nat.ne_of_lt (Nat.lt_trans HL1.out HL2.out)))) (And.intro (H5.out.2.1.same (o6 _ (Nat.ne_of_lt HL2.out))) (And.intro (H4.out.2.2.1.keep (fun b o hb => World.cell?_of_block ((o6 b (Nat.ne_of_lt hb)).trans (HB5.out.block b hb)))) (g6 w.heap.size w (Nat.le_of_lt (Nat.lt_trans HL1.out HL2.out)) H5.out.2.2.2)))); have f1 := H6.out.1.kind; rw [HK.out] at f1; have f2 := H6.out.1.ttl; have f3 := H6.out.1.target; have f4 := H6.out.1.data; clear a6 o6 z6 g6)
        | (refine wpList_alloc_fl rfl rfl ?_; intro w5 a5 b5 z5; have H5 := Lib.hid (And.intro (H4.out.1.later b5 (Nat.le_refl _)) (And.intro (H4.out.2.1.later b5 (Nat.le_refl _)) (And.intro a5 (H4.out.2.2.2.trans (b5.mono H4.out.2.2.2.size))))); have HB5 := Lib.hid b5; clear a5 b5 z5)
        | (refine wpList_load_rcAd rfl (.tmp 31) rfl rfl H6.out.1 ?_; rw [hv]))
    refine (size_ref false r.adr hk _).mono ?_
    rintro e w8 ⟨rfl, b8⟩
    rw [show ((wid false : Nat) : Int) = 32 from rfl]
    have H8 := Lib.hid (And.intro (H6.out.1.later b8 (Nat.le_refl _)) (And.intro (H6.out.2.1.later b8 (Nat.le_refl _)) (And.intro (H6.out.2.2.1.later b8 (Nat.le_refl _)) (H6.out.2.2.2.trans (b8.mono H6.out.2.2.2.size)))))
    have f2 := H8.out.1.ttl
    clear b8
    go_wp2_with fail
    have HX := Lib.hid (show Bs w8 (some ⟨w.heap.size, 5, none⟩) 4 (16) (dataB r) from by rw [hdt]; exact H8.out.1.adrB.cut (i := 0) (k := 4) (by omega) (fun _ => rfl) (fun h => by cases h))
    refine (put_bs H8.out.2.2.1 r.ttl 4 (by omega) (by omega)).mono ?_
    rintro e w20 ⟨A20, c20, rfl, B20, O20, b20⟩
    have H20 := Lib.hid (And.intro (H8.out.2.1.later b20 (Nat.le_refl _)) (And.intro B20 (And.intro (HX.out.later b20 (Nat.le_refl _)) (H8.out.2.2.2.trans (b20.mono H8.out.2.2.2.size)))))
    clear B20 O20 b20
    go_wp2_with fail
    refine (put_bs H20.out.2.1 ((4 : Nat) : Int) 2 (by omega) (by omega)).mono ?_
    rintro e w21 ⟨A21, c21, rfl, B21, O21, b21⟩
    have HG := Lib.hid (FlBox.lt H20.out.1)
    have H21 := Lib.hid (And.intro (H20.out.1.later b21 (Nat.le_refl _)) (And.intro O21 (And.intro (H20.out.2.2.1.later b21 (Nat.le_refl _)) (And.intro (H20.out.2.2.2.trans (b21.mono H20.out.2.2.2.size)) b21.size))))
    clear B21 O21 b21
    go_wp2_with (first
      | (refine wpList_store_fl rfl (.tmp 3) (.tmp 54) rfl 0 0 false rfl rfl H22.out.1 ?_; intro w23 a23 o23 z23 g23; have H23 := Lib.hid (And.intro a23 (And.intro (H22.out.2.1.farBlk (fun a ha => Nat.ne_of_gt (Nat.lt_of_lt_of_le HG.out (H22.out.2.2.1 a ha))) o23) (g23 w.heap.size w (Nat.le_of_lt HL1.out) H22.out.2.2.2))); clear a23 o23 z23 g23)
      | (at_builtin; refine wpList_append_bs rfl (.tmp 51) (.tmp 52) 22 rfl w20.heap.size 5 info5 Tryz.underlying22 (.slice A21 (N + 4 + 2) c21) (N + 4 + 2) _ rfl H21.out.2.1 (some ⟨w.heap.size, 5, none⟩) 4 (16) (dataB r) rfl H21.out.2.2.1 (by omega) H21.out.2.2.2.2 ?_; intro v22 w22 o22 g22 n22 m22; have b22 : Below w.heap.size w w22 := H21.out.2.2.2.1.grown g22 H21.out.2.2.2.1.size (fun q hq => Nat.le_trans (Nat.le_of_lt (Nat.lt_trans HL1.out HG.out)) (H21.out.2.1.lt q hq).1); obtain ⟨A22, c22, rfl, B22⟩ := Bs.of_own o22; have H22 := Lib.hid (And.intro (H21.out.1.same (g22.block _ (Nat.lt_of_lt_of_le HG.out H21.out.2.2.2.2) (fun hq => absurd (H21.out.2.1.lt _ hq.symm).1 (Nat.not_le_of_lt HG.out)))) (And.intro B22 (And.intro (own_ow o22) b22))); clear o22 g22 n22 m22 b22 B22))
    refine bodyPost_ret (results_tmp_fl rfl _ rfl H23.out.1) rfl ⟨A22, _, c22, rfl, ?_, (fun a ha => Nat.le_of_lt (Nat.lt_of_lt_of_le (Nat.lt_trans HL1.out HG.out) (H22.out.2.2.1 a ha))), H23.out.2.2⟩
    have hz := H23.out.2.1
    unfold writeRB
    rw [← HX.out.len] at hz
    rw [List.append_assoc, List.append_assoc] at hz
    rw [HX.out.len] at hz ⊢
    exact hz
    -->>
  by_cases k5 : r.kind = 5
  case pos =>
    --<< k5
    have hdt : dataB r = writeB r.target := by unfold dataB; rw [if_neg (by omega), if_pos k5]
    have hwt := writeB_le htr
    obtain ⟨M, hM⟩ : ∃ M, (writeB r.target).length = M := ⟨_, rfl⟩
    have KT := fun w1 => ref_write_right htr w1
    rw [hM] at hwt KT
    have KT := Lib.hid KT
    have HM := Lib.hid hM
    clear hM
    clear hal
    have HK := Lib.hid k5
    clear k5
    go_enter Tryz.func15, Tryz.ntmps15
    go_wp2_with (first
      | (refine wpList_load_rc rfl (.tmp 1) rfl rfl H2.out.1 ?_)
      | (rw [HW.out]; refine wpList_alloc_fl rfl rfl ?_; intro w2 a2 b2 z2; have H2 := Lib.hid (And.intro (HA.out.1.later b2 (Nat.le_refl _)) (And.intro a2 (HA.out.2.trans (b2.mono HA.out.2.size)))); clear a2 b2 z2))
    refine (KR.out w2 H2.out.2.2).mono ?_
    rintro e w3 ⟨rfl, b3⟩
    have H3 := Lib.hid (And.intro (H2.out.1.later b3 (Nat.le_refl _)) (And.intro (H2.out.2.1.later b3 (Nat.le_refl _)) (H2.out.2.2.trans (b3.mono H2.out.2.2.size))))
    clear b3
    have e0 := H3.out.1.name
    have e1 := H3.out.1.kind
    have e2 := H3.out.1.cls
    go_wp2_with (refine wpList_build_qs rfl (.tmp 13) (.tmp 15) (.tmp 17) rfl r.asks rfl rfl rfl ?_)
    refine (KW.out w3).mono ?_
    rintro e w4 ⟨A4, c4, rfl, B4, O4, b4⟩
    have H4 := Lib.hid (And.intro (H3.out.1.later b4 (Nat.le_refl _)) (And.intro (H3.out.2.1.later b4 (Nat.le_refl _)) (And.intro B4 (H3.out.2.2.trans (b4.mono H3.out.2.2.size)))))
    have HL2 := Lib.hid (FlBox.lt H4.out.2.1)
    clear B4 O4 b4 e0 e1 e2
    go_wp2_with (first
        | (refine wpList_store_fl rfl (.tmp 5) (.tmp 21) rfl 0 0 false rfl rfl H5.out.2.2.1 ?_; intro w6 a6 o6 z6 g6; have H6 := Lib.hid (And.intro (H5.out.1.same (o6 _ (Nat.ne_of_lt (Nat.lt_trans HL1.out HL2.out)))) (And.intro (H5.out.2.1.same (o6 _ (Nat.ne_of_lt HL2.out))) (And.intro (H4.out.2.2.1.keep (fun b o hb => World.cell?_of_block ((o6 b (Nat.ne_of_lt hb)).trans (HB5.out.block b hb)))) (g6 w.heap.size w (Nat.le_of_lt (Nat.lt_trans HL1.out HL2.out)) H5.out.2.2.2)))); have f1 := H6.out.1.kind; rw [HK.out] at f1; have f2 := H6.out.1.ttl; have f3 := H6.out.1.target; have f4 := H6.out.1.data; clear a6 o6 z6 g6)
        | (refine wpList_alloc_fl rfl rfl ?_; intro w5 a5 b5 z5; have H5 := Lib.hid (And.intro (H4.out.1.later b5 (Nat.le_refl _)) (And.intro (H4.out.2.1.later b5 (Nat.le_refl _)) (And.intro a5 (H4.out.2.2.2.trans (b5.mono H4.out.2.2.2.size))))); have HB5 := Lib.hid b5; clear a5 b5 z5))
    refine (KT.out _).mono ?_
    rintro e w8 ⟨A8, c8, rfl, B8, b8⟩
    have H8 := Lib.hid (And.intro (H6.out.1.later b8 (Nat.le_refl _)) (And.intro (H6.out.2.1.later b8 (Nat.le_refl _)) (And.intro (H6.out.2.2.1.later b8 (Nat.le_refl _)) (H6.out.2.2.2.trans (b8.mono H6.out.2.2.2.size)))))
    have HB8 := Lib.hid B8
    have f5 := H8.out.1.ttl
    clear b8 B8
    go_wp2_with fail
    have HX := Lib.hid (show Bs w8 A8 M (c8) (dataB r) from by rw [hdt]; exact HB8.out)
    refine (put_bs H8.out.2.2.1 r.ttl 4 (by omega) (by omega)).mono ?_
    rintro e w20 ⟨A20, c20, rfl, B20, O20, b20⟩
    have H20 := Lib.hid (And.intro (H8.out.2.1.later b20 (Nat.le_refl _)) (And.intro B20 (And.intro (HX.out.later b20 (Nat.le_refl _)) (H8.out.2.2.2.trans (b20.mono H8.out.2.2.2.size)))))
    clear B20 O20 b20
    go_wp2_with fail
    refine (put_bs H20.out.2.1 ((M : Nat) : Int) 2 (by omega) (by omega)).mono ?_
    rintro e w21 ⟨A21, c21, rfl, B21, O21, b21⟩
    have HG := Lib.hid (FlBox.lt H20.out.1)
    have H21 := Lib.hid (And.intro (H20.out.1.later b21 (Nat.le_refl _)) (And.intro O21 (And.intro (H20.out.2.2.1.later b21 (Nat.le_refl _)) (And.intro (H20.out.2.2.2.trans (b21.mono H20.out.2.2.2.size)) b21.size))))
    clear B21 O21 b21
    go_wp2_with (first
      | (refine wpList_store_fl rfl (.tmp 3) (.tmp 54) rfl 0 0 false rfl rfl H22.out.1 ?_; intro w23 a23 o23 z23 g23; have H23 := Lib.hid (And.intro a23 (And.intro (H22.out.2.1.farBlk (fun a ha => Nat.ne_of_gt (Nat.lt_of_lt_of_le HG.out (H22.out.2.2.1 a ha))) o23) (g23 w.heap.size w (Nat.le_of_lt HL1.out) H22.out.2.2.2))); clear a23 o23 z23 g23)
      | (at_builtin; refine wpList_append_bs rfl (.tmp 51) (.tmp 52) 22 rfl w20.heap.size 5 info5 Tryz.underlying22 (.slice A21 (N + 4 + 2) c21) (N + 4 + 2) _ rfl H21.out.2.1 A8 M (c8) (dataB r) rfl H21.out.2.2.1 (by omega) H21.out.2.2.2.2 ?_; intro v22 w22 o22 g22 n22 m22; have b22 : Below w.heap.size w w22 := H21.out.2.2.2.1.grown g22 H21.out.2.2.2.1.size (fun q hq => Nat.le_trans (Nat.le_of_lt (Nat.lt_trans HL1.out HG.out)) (H21.out.2.1.lt q hq).1); obtain ⟨A22, c22, rfl, B22⟩ := Bs.of_own o22; have H22 := Lib.hid (And.intro (H21.out.1.same (g22.block _ (Nat.lt_of_lt_of_le HG.out H21.out.2.2.2.2) (fun hq => absurd (H21.out.2.1.lt _ hq.symm).1 (Nat.not_le_of_lt HG.out)))) (And.intro B22 (And.intro (own_ow o22) b22))); clear o22 g22 n22 m22 b22 B22))
    refine bodyPost_ret (results_tmp_fl rfl _ rfl H23.out.1) rfl ⟨A22, _, c22, rfl, ?_, (fun a ha => Nat.le_of_lt (Nat.lt_of_lt_of_le (Nat.lt_trans HL1.out HG.out) (H22.out.2.2.1 a ha))), H23.out.2.2⟩
    have hz := H23.out.2.1
    unfold writeRB
    rw [← HX.out.len] at hz
    rw [List.append_assoc, List.append_assoc] at hz
    rw [HX.out.len] at hz ⊢
    exact hz
    -->>
  --<< ke
  have hdt : dataB r = r.data := by unfold dataB; rw [if_neg (by omega), if_neg k5]
  clear hal
  go_enter Tryz.func15, Tryz.ntmps15
  go_wp2_with (first
    | (refine wpList_load_rc rfl (.tmp 1) rfl rfl H2.out.1 ?_)
    | (rw [HW.out]; refine wpList_alloc_fl rfl rfl ?_; intro w2 a2 b2 z2; have H2 := Lib.hid (And.intro (HA.out.1.later b2 (Nat.le_refl _)) (And.intro a2 (HA.out.2.trans (b2.mono HA.out.2.size)))); clear a2 b2 z2))
  refine (KR.out w2 H2.out.2.2).mono ?_
  rintro e w3 ⟨rfl, b3⟩
  have H3 := Lib.hid (And.intro (H2.out.1.later b3 (Nat.le_refl _)) (And.intro (H2.out.2.1.later b3 (Nat.le_refl _)) (H2.out.2.2.trans (b3.mono H2.out.2.2.size))))
  clear b3
  have e0 := H3.out.1.name
  have e1 := H3.out.1.kind
  have e2 := H3.out.1.cls
  go_wp2_with (refine wpList_build_qs rfl (.tmp 13) (.tmp 15) (.tmp 17) rfl r.asks rfl rfl rfl ?_)
  refine (KW.out w3).mono ?_
  rintro e w4 ⟨A4, c4, rfl, B4, O4, b4⟩
  have H4 := Lib.hid (And.intro (H3.out.1.later b4 (Nat.le_refl _)) (And.intro (H3.out.2.1.later b4 (Nat.le_refl _)) (And.intro B4 (H3.out.2.2.trans (b4.mono H3.out.2.2.size)))))
  have HL2 := Lib.hid (FlBox.lt H4.out.2.1)
  clear B4 O4 b4 e0 e1 e2
  go_wp2_with (first
      | (refine wpList_store_fl rfl (.tmp 5) (.tmp 21) rfl 0 0 false rfl rfl H5.out.2.2.1 ?_; intro w6 a6 o6 z6 g6; have H6 := Lib.hid (And.intro (H5.out.1.same (o6 _ (Nat.ne_of_lt (Nat.lt_trans HL1.out HL2.out)))) (And.intro (H5.out.2.1.same (o6 _ (Nat.ne_of_lt HL2.out))) (And.intro (H4.out.2.2.1.keep (fun b o hb => World.cell?_of_block ((o6 b (Nat.ne_of_lt hb)).trans (HB5.out.block b hb)))) (g6 w.heap.size w (Nat.le_of_lt (Nat.lt_trans HL1.out HL2.out)) H5.out.2.2.2)))); have f1 := H6.out.1.kind; have f2 := H6.out.1.ttl; have f3 := H6.out.1.target; have f4 := H6.out.1.data; clear a6 o6 z6 g6)
      | (refine wpList_alloc_fl rfl rfl ?_; intro w5 a5 b5 z5; have H5 := Lib.hid (And.intro (H4.out.1.later b5 (Nat.le_refl _)) (And.intro (H4.out.2.1.later b5 (Nat.le_refl _)) (And.intro a5 (H4.out.2.2.2.trans (b5.mono H4.out.2.2.2.size))))); have HB5 := Lib.hid b5; clear a5 b5 z5))
  have HX := Lib.hid (show Bs w6 A n (c) (dataB r) from by rw [hdt]; exact HB.out.later H6.out.2.2.2 (Nat.le_refl _))
  refine (put_bs H6.out.2.2.1 r.ttl 4 (by omega) (by omega)).mono ?_
  rintro e w20 ⟨A20, c20, rfl, B20, O20, b20⟩
  have H20 := Lib.hid (And.intro (H6.out.2.1.later b20 (Nat.le_refl _)) (And.intro B20 (And.intro (HX.out.later b20 (Nat.le_refl _)) (H6.out.2.2.2.trans (b20.mono H6.out.2.2.2.size)))))
  clear B20 O20 b20
  go_wp2_with fail
  refine (put_bs H20.out.2.1 ((n : Nat) : Int) 2 (by omega) (by omega)).mono ?_
  rintro e w21 ⟨A21, c21, rfl, B21, O21, b21⟩
  have HG := Lib.hid (FlBox.lt H20.out.1)
  have H21 := Lib.hid (And.intro (H20.out.1.later b21 (Nat.le_refl _)) (And.intro O21 (And.intro (H20.out.2.2.1.later b21 (Nat.le_refl _)) (And.intro (H20.out.2.2.2.trans (b21.mono H20.out.2.2.2.size)) b21.size))))
  clear B21 O21 b21
  go_wp2_with (first
    | (refine wpList_store_fl rfl (.tmp 3) (.tmp 54) rfl 0 0 false rfl rfl H22.out.1 ?_; intro w23 a23 o23 z23 g23; have H23 := Lib.hid (And.intro a23 (And.intro (H22.out.2.1.farBlk (fun a ha => Nat.ne_of_gt (Nat.lt_of_lt_of_le HG.out (H22.out.2.2.1 a ha))) o23) (g23 w.heap.size w (Nat.le_of_lt HL1.out) H22.out.2.2.2))); clear a23 o23 z23 g23)
    | (at_builtin; refine wpList_append_bs rfl (.tmp 51) (.tmp 52) 22 rfl w20.heap.size 5 info5 Tryz.underlying22 (.slice A21 (N + 4 + 2) c21) (N + 4 + 2) _ rfl H21.out.2.1 A n (c) (dataB r) rfl H21.out.2.2.1 (by omega) H21.out.2.2.2.2 ?_; intro v22 w22 o22 g22 n22 m22; have b22 : Below w.heap.size w w22 := H21.out.2.2.2.1.grown g22 H21.out.2.2.2.1.size (fun q hq => Nat.le_trans (Nat.le_of_lt (Nat.lt_trans HL1.out HG.out)) (H21.out.2.1.lt q hq).1); obtain ⟨A22, c22, rfl, B22⟩ := Bs.of_own o22; have H22 := Lib.hid (And.intro (H21.out.1.same (g22.block _ (Nat.lt_of_lt_of_le HG.out H21.out.2.2.2.2) (fun hq => absurd (H21.out.2.1.lt _ hq.symm).1 (Nat.not_le_of_lt HG.out)))) (And.intro B22 (And.intro (own_ow o22) b22))); clear o22 g22 n22 m22 b22 B22))
  refine bodyPost_ret (results_tmp_fl rfl _ rfl H23.out.1) rfl ⟨A22, _, c22, rfl, ?_, (fun a ha => Nat.le_of_lt (Nat.lt_of_lt_of_le (Nat.lt_trans HL1.out HG.out) (H22.out.2.2.1 a ha))), H23.out.2.2⟩
  have hz := H23.out.2.1
  unfold writeRB
  rw [← HX.out.len] at hz
  rw [List.append_assoc, List.append_assoc] at hz
  rw [HX.out.len] at hz ⊢
  exact hz
  -->>
end Go.Proofs.YtpojiimcdknafaaGreatDoor

namespace Go.Proofs.YtpojiimcdknafaaGreatDoor
open Go.RowKit
set_option maxRecDepth 100000

set_option maxHeartbeats 8000000 in
theorem ref_data0 {A : Option Addr} {n c : Nat} {l : List UInt8} {w : World} (hb : Bs w A n c l) (hn : n ≤ 1000000) (q : Qs) (t : Int) (p k : Nat) (hk : p + 2 + k ≤ n) (hq : q.kind ≠ 28 ∧ q.kind ≠ 1 ∧ q.kind ≠ 5) : Calls Tryz.prog 47 #[.slice A n c, .agg (rcv (q.asRc t) none 0 0), .int .i64 ((p : Int) + 2), .int .i64 k] w (RefD (dataV l n (q.asRc t) p k) w) := by
  have a1 := RcBox.new w (asRc_ok q t) none 0 0
  have b1 : Below w.heap.size w (w.alloc (.cells (rcv (q.asRc t) none 0 0) 28)) := (Below.refl _ _).alloc (Nat.le_refl _) _
  obtain ⟨W, hW⟩ : ∃ W, w.alloc (.cells (rcv (q.asRc t) none 0 0) 28) = W := ⟨_, rfl⟩
  rw [hW] at a1 b1
  have HA := Lib.hid (And.intro a1 b1)
  have HW := Lib.hid hW
  have HL1 := Lib.hid a1.lt
  have HB := Lib.hid hb
  have hcap := hb.cap
  have hmax := hb.max
  have hlen := hb.len
  unfold maxLen at hmax
  clear a1 b1 hW hb
  obtain ⟨Z, hZ⟩ : ∃ Z, Value.agg (rcv .zero none 0 0) = Z := ⟨_, rfl⟩
  have HZ := Lib.hid hZ
  clear hZ
  unfold dataV RefD
  obtain ⟨nm, kd, cl⟩ := q
  have hkd : (Qs.asRc ⟨nm, kd, cl⟩ t).kind = kd := rfl
  rw [hkd]
  clear hkd
  dsimp only at hq
  obtain ⟨k28, k1, k5⟩ := hq
  rw [if_neg k28, if_neg k1, if_neg k5]
  obtain ⟨ab, ao, hA, _⟩ := HB.out.here (by omega)
  subst hA
  obtain ⟨R, hR⟩ : ∃ R : List UInt8, R = (l.drop (p + 2)).take k := ⟨_, rfl⟩
  have HRL := Lib.hid hR
  by_cases hcp : c = p + 2
  case pos =>
    obtain rfl : k = 0 := by omega
    subst hcp
    go_enter Tryz.func47, Tryz.ntmps47
    go_wp2_with (first
      | (refine wpList_alloc_fl rfl rfl ?_; intro w3 a3 b3 z3; have H3 := Lib.hid (And.intro (H2.out.1.later b3 (Nat.le_refl _)) (And.intro (H2.out.2.1.later b3 (Nat.le_refl _)) (And.intro a3 (H2.out.2.2.trans (b3.mono H2.out.2.2.size))))); have HL2 := Lib.hid H2.out.2.1.lt; clear a3 b3 z3)
      | (rw [HW.out]; refine wpList_alloc_rc rfl rfl ?_; intro w2 a2 b2 z2; have H2 := Lib.hid (And.intro (HA.out.1.later b2 (Nat.le_refl _)) (And.intro a2 (HA.out.2.trans (b2.mono HA.out.2.size)))); clear a2 b2 z2))
    refine (help_at 7 _ _).mono ?_
    rintro e w4 ⟨rfl, b4⟩
    have H4 := Lib.hid (And.intro (H3.out.1.later b4 (Nat.le_refl _)) (And.intro (H3.out.2.1.later b4 (Nat.le_refl _)) (And.intro (H3.out.2.2.1.later b4 (Nat.le_refl _)) (H3.out.2.2.2.trans (b4.mono H3.out.2.2.2.size)))))
    have HL3 := Lib.hid H4.out.2.2.1.lt
    clear b4
    go_wp2_with (first
      | (refine wpList_store_fl rfl (.tmp 10) (.tmp 17) rfl 7 p true rfl rfl H5.out.2.2.2.1 ?_; intro w6 a6 o6 z6 g6; have H6 := Lib.hid (And.intro (H5.out.1.same (o6 _ (Nat.ne_of_lt (Nat.lt_trans HL1.out (Nat.lt_trans HL2.out HL3.out))))) (And.intro (H5.out.2.1.same (o6 _ (Nat.ne_of_lt (Nat.lt_trans HL2.out HL3.out)))) (And.intro (H5.out.2.2.1.same (o6 _ (Nat.ne_of_lt HL3.out))) (And.intro a6 (g6 w.heap.size w (Nat.le_of_lt (Nat.lt_trans HL1.out (Nat.lt_trans HL2.out HL3.out))) H5.out.2.2.2.2))))); (have e1 : w6.cell? ⟨w.heap.size, 1, none⟩ = some (.int .i64 kd) := H6.out.1.kind); have HC := Lib.hid (show Bs w6 (some ⟨ab, ao, none⟩) 0 (p + 2 - (p + 2)) R from by rw [HRL.out]; exact (HB.out.later H6.out.2.2.2.2 (Nat.le_refl _)).cut (i := p + 2) (k := 0) (by omega) (fun h => absurd h (by omega)) (fun h => by cases h)); have HL6 := Lib.hid H6.out.2.2.2.1.lt; clear a6 o6 z6 g6)
      | (refine wpList_alloc_fl rfl rfl ?_; intro w5 a5 b5 z5; have H5 := Lib.hid (And.intro (H4.out.1.later b5 (Nat.le_refl _)) (And.intro (H4.out.2.1.later b5 (Nat.le_refl _)) (And.intro (H4.out.2.2.1.later b5 (Nat.le_refl _)) (And.intro a5 (H4.out.2.2.2.trans (b5.mono H4.out.2.2.2.size)))))); clear a5 b5 z5)
      | (refine wpList_store_fl rfl (.tmp 9) (.tmp 83) rfl 0 0 false rfl rfl H20.out.2.1 ?_; intro w21 a21 o21 z21 g21; have H21 := Lib.hid (And.intro (H20.out.1.same (o21 _ (Nat.ne_of_lt HL2.out))) (And.intro a21 (And.intro (H20.out.2.2.1.farBlk (fun a ha => Nat.ne_of_gt (Nat.lt_of_lt_of_le (Nat.lt_trans HL3.out HL6.out) (H10.out.2.2.2.2.2 a ha))) o21) (g21 w.heap.size w (Nat.le_of_lt (Nat.lt_trans HL1.out HL2.out)) H20.out.2.2.2)))); clear a21 o21 z21 g21)
      | (refine wpList_store_rc rfl (.tmp 8) (.tmp 82) rfl { (Qs.asRc ⟨nm, kd, cl⟩ t) with data := R } A9 0 c9 rfl rfl rfl H10.out.2.1 ?_; intro w20 a20 o20 z20 g20; have H20 := Lib.hid (And.intro a20 (And.intro (H10.out.2.2.1.same (o20 _ (Ne.symm (Nat.ne_of_lt HL2.out)))) (And.intro (H10.out.2.2.2.2.1.farBlk (fun a ha => Nat.ne_of_gt (Nat.lt_of_lt_of_le (Nat.lt_trans HL2.out (Nat.lt_trans HL3.out HL6.out)) (H10.out.2.2.2.2.2 a ha))) o20) (g20 w.heap.size w (Nat.le_of_lt HL1.out) H10.out.2.2.2.1)))); clear a20 o20 z20 g20)
      | (refine wpList_load_rc rfl (.tmp 5) rfl rfl H10.out.1 ?_)
      | (refine wpList_putData_rc rfl (.tmp 27) (.tmp 26) rfl R A9 0 c9 rfl rfl H9.out.1 ?_; intro w10 a10 o10 z10 g10; have H10 := Lib.hid (And.intro (show RcBox w10 w.heap.size { (Qs.asRc ⟨nm, kd, cl⟩ t) with data := R } A9 0 c9 from a10) (And.intro (H9.out.2.1.same (o10 _ (Ne.symm (Nat.ne_of_lt HL1.out)))) (And.intro (H9.out.2.2.1.same (o10 _ (Ne.symm (Nat.ne_of_lt (Nat.lt_trans HL1.out HL2.out))))) (And.intro (g10 w.heap.size w (Nat.le_refl _) H9.out.2.2.2.1) (And.intro (H9.out.2.2.2.2.1.farBlk (fun a ha => Nat.ne_of_gt (Nat.lt_of_lt_of_le (Nat.lt_trans (Nat.lt_trans HL1.out (Nat.lt_trans HL2.out HL3.out)) HL6.out) (H9.out.2.2.2.2.2 a ha))) o10) H9.out.2.2.2.2.2))))); clear a10 o10 z10 g10)
      | (at_builtin; refine wpList_append_bs rfl (.const (.slice none 0 0)) (.tmp 25) 22 rfl w6.heap.size 5 info5 Tryz.underlying22 _ 0 [] rfl (World.ownsRow_nil _ _ _ _) (some ⟨ab, ao, none⟩) 0 (p + 2 - (p + 2)) R rfl HC.out (by omega) (Nat.le_refl _) ?_; intro v9 w9 o9 g9 n9 m9; have b9 : Below w6.heap.size w6 w9 := (Below.refl _ w6).grown g9 (Nat.le_refl _) (fun x hx => by cases hx); (have p9 := owns_n (n' := 0) (by omega) o9); rw [List.nil_append] at p9; obtain ⟨A9, c9, rfl, B9⟩ := Bs.of_own p9; have H9 := Lib.hid (And.intro (H6.out.1.later b9 (Nat.le_refl _)) (And.intro (H6.out.2.1.later b9 (Nat.le_refl _)) (And.intro (H6.out.2.2.1.later b9 (Nat.le_refl _)) (And.intro (H6.out.2.2.2.2.trans (b9.mono H6.out.2.2.2.2.size)) (And.intro B9 (own_ow p9)))))); clear o9 p9 g9 n9 m9 b9 B9))
    exact bodyPost_ret (results_rcFl _ rfl rfl rfl H21.out.1 H21.out.2.1) rfl ⟨A9, 0, c9, by rw [HRL.out]; rfl, by have hz := H21.out.2.2.1; rw [HRL.out] at hz; exact hz, (fun a ha => Nat.le_of_lt (Nat.lt_of_lt_of_le (Nat.lt_trans (Nat.lt_trans HL1.out (Nat.lt_trans HL2.out HL3.out)) HL6.out) (H10.out.2.2.2.2.2 a ha))), H21.out.2.2.2⟩
  have hck : ¬ c = p + 2 := hcp
  go_enter Tryz.func47, Tryz.ntmps47
  go_wp2_with (first
    | (refine wpList_alloc_fl rfl rfl ?_; intro w3 a3 b3 z3; have H3 := Lib.hid (And.intro (H2.out.1.later b3 (Nat.le_refl _)) (And.intro (H2.out.2.1.later b3 (Nat.le_refl _)) (And.intro a3 (H2.out.2.2.trans (b3.mono H2.out.2.2.size))))); have HL2 := Lib.hid H2.out.2.1.lt; clear a3 b3 z3)
    | (rw [HW.out]; refine wpList_alloc_rc rfl rfl ?_; intro w2 a2 b2 z2; have H2 := Lib.hid (And.intro (HA.out.1.later b2 (Nat.le_refl _)) (And.intro a2 (HA.out.2.trans (b2.mono HA.out.2.size)))); clear a2 b2 z2))
  refine (help_at 7 _ _).mono ?_
  rintro e w4 ⟨rfl, b4⟩
  have H4 := Lib.hid (And.intro (H3.out.1.later b4 (Nat.le_refl _)) (And.intro (H3.out.2.1.later b4 (Nat.le_refl _)) (And.intro (H3.out.2.2.1.later b4 (Nat.le_refl _)) (H3.out.2.2.2.trans (b4.mono H3.out.2.2.2.size)))))
  have HL3 := Lib.hid H4.out.2.2.1.lt
  clear b4
  go_wp2_with (first
    | (refine wpList_store_fl rfl (.tmp 10) (.tmp 17) rfl 7 p true rfl rfl H5.out.2.2.2.1 ?_; intro w6 a6 o6 z6 g6; have H6 := Lib.hid (And.intro (H5.out.1.same (o6 _ (Nat.ne_of_lt (Nat.lt_trans HL1.out (Nat.lt_trans HL2.out HL3.out))))) (And.intro (H5.out.2.1.same (o6 _ (Nat.ne_of_lt (Nat.lt_trans HL2.out HL3.out)))) (And.intro (H5.out.2.2.1.same (o6 _ (Nat.ne_of_lt HL3.out))) (And.intro a6 (g6 w.heap.size w (Nat.le_of_lt (Nat.lt_trans HL1.out (Nat.lt_trans HL2.out HL3.out))) H5.out.2.2.2.2))))); (have e1 : w6.cell? ⟨w.heap.size, 1, none⟩ = some (.int .i64 kd) := H6.out.1.kind); have HC := Lib.hid (show Bs w6 (some ⟨ab, ao + (p + 2), none⟩) (p + 2 + k - (p + 2)) (c - (p + 2)) R from by rw [HRL.out, show p + 2 + k - (p + 2) = k by omega]; exact (HB.out.later H6.out.2.2.2.2 (Nat.le_refl _)).cut (i := p + 2) (k := k) (by omega) (fun _ => by simp [Addr.add]) (fun h => by cases h)); have HL6 := Lib.hid H6.out.2.2.2.1.lt; clear a6 o6 z6 g6)
    | (refine wpList_alloc_fl rfl rfl ?_; intro w5 a5 b5 z5; have H5 := Lib.hid (And.intro (H4.out.1.later b5 (Nat.le_refl _)) (And.intro (H4.out.2.1.later b5 (Nat.le_refl _)) (And.intro (H4.out.2.2.1.later b5 (Nat.le_refl _)) (And.intro a5 (H4.out.2.2.2.trans (b5.mono H4.out.2.2.2.size)))))); clear a5 b5 z5)
      | (refine wpList_store_fl rfl (.tmp 9) (.tmp 83) rfl 0 0 false rfl rfl H20.out.2.1 ?_; intro w21 a21 o21 z21 g21; have H21 := Lib.hid (And.intro (H20.out.1.same (o21 _ (Nat.ne_of_lt HL2.out))) (And.intro a21 (And.intro (H20.out.2.2.1.farBlk (fun a ha => Nat.ne_of_gt (Nat.lt_of_lt_of_le (Nat.lt_trans HL3.out HL6.out) (H10.out.2.2.2.2.2 a ha))) o21) (g21 w.heap.size w (Nat.le_of_lt (Nat.lt_trans HL1.out HL2.out)) H20.out.2.2.2)))); clear a21 o21 z21 g21)
      | (refine wpList_store_rc rfl (.tmp 8) (.tmp 82) rfl { (Qs.asRc ⟨nm, kd, cl⟩ t) with data := R } A9 k c9 rfl rfl rfl H10.out.2.1 ?_; intro w20 a20 o20 z20 g20; have H20 := Lib.hid (And.intro a20 (And.intro (H10.out.2.2.1.same (o20 _ (Ne.symm (Nat.ne_of_lt HL2.out)))) (And.intro (H10.out.2.2.2.2.1.farBlk (fun a ha => Nat.ne_of_gt (Nat.lt_of_lt_of_le (Nat.lt_trans HL2.out (Nat.lt_trans HL3.out HL6.out)) (H10.out.2.2.2.2.2 a ha))) o20) (g20 w.heap.size w (Nat.le_of_lt HL1.out) H10.out.2.2.2.1)))); clear a20 o20 z20 g20)
      | (refine wpList_load_rc rfl (.tmp 5) rfl rfl H10.out.1 ?_)
      | (refine wpList_putData_rc rfl (.tmp 27) (.tmp 26) rfl R A9 k c9 rfl rfl H9.out.1 ?_; intro w10 a10 o10 z10 g10; have H10 := Lib.hid (And.intro (show RcBox w10 w.heap.size { (Qs.asRc ⟨nm, kd, cl⟩ t) with data := R } A9 k c9 from a10) (And.intro (H9.out.2.1.same (o10 _ (Ne.symm (Nat.ne_of_lt HL1.out)))) (And.intro (H9.out.2.2.1.same (o10 _ (Ne.symm (Nat.ne_of_lt (Nat.lt_trans HL1.out HL2.out))))) (And.intro (g10 w.heap.size w (Nat.le_refl _) H9.out.2.2.2.1) (And.intro (H9.out.2.2.2.2.1.farBlk (fun a ha => Nat.ne_of_gt (Nat.lt_of_lt_of_le (Nat.lt_trans (Nat.lt_trans HL1.out (Nat.lt_trans HL2.out HL3.out)) HL6.out) (H9.out.2.2.2.2.2 a ha))) o10) H9.out.2.2.2.2.2))))); clear a10 o10 z10 g10)
      | (at_builtin; refine wpList_append_bs rfl (.const (.slice none 0 0)) (.tmp 25) 22 rfl w6.heap.size 5 info5 Tryz.underlying22 _ 0 [] rfl (World.ownsRow_nil _ _ _ _) (some ⟨ab, ao + (p + 2), none⟩) (p + 2 + k - (p + 2)) (c - (p + 2)) R rfl HC.out (by omega) (Nat.le_refl _) ?_; intro v9 w9 o9 g9 n9 m9; have b9 : Below w6.heap.size w6 w9 := (Below.refl _ w6).grown g9 (Nat.le_refl _) (fun x hx => by cases hx); (have p9 := owns_n (n' := k) (by omega) o9); rw [List.nil_append] at p9; obtain ⟨A9, c9, rfl, B9⟩ := Bs.of_own p9; have H9 := Lib.hid (And.intro (H6.out.1.later b9 (Nat.le_refl _)) (And.intro (H6.out.2.1.later b9 (Nat.le_refl _)) (And.intro (H6.out.2.2.1.later b9 (Nat.le_refl _)) (And.intro (H6.out.2.2.2.2.trans (b9.mono H6.out.2.2.2.2.size)) (And.intro B9 (own_ow p9)))))); clear o9 p9 g9 n9 m9 b9 B9))
  exact bodyPost_ret (results_rcFl _ rfl rfl rfl H21.out.1 H21.out.2.1) rfl ⟨A9, k, c9, by rw [HRL.out]; rfl, by have hz := H21.out.2.2.1; rw [HRL.out] at hz; exact hz, (fun a ha => Nat.le_of_lt (Nat.lt_of_lt_of_le (Nat.lt_trans (Nat.lt_trans HL1.out (Nat.lt_trans HL2.out HL3.out)) HL6.out) (H10.out.2.2.2.2.2 a ha))), H21.out.2.2.2⟩
end Go.Proofs.YtpojiimcdknafaaGreatDoor

namespace Go.Proofs.YtpojiimcdknafaaGreatDoor
open Go.RowKit
set_option maxRecDepth 100000

theorem ref_data {A : Option Addr} {n c : Nat} {l : List UInt8} {w : World} (hb : Bs w A n c l) (hn : n ≤ 1000000) (q : Qs) (t : Int) (p k : Nat) (hk : p + 2 + k ≤ n) : Calls Tryz.prog 47 #[.slice A n c, .agg (rcv (q.asRc t) none 0 0), .int .i64 ((p : Int) + 2), .int .i64 k] w (RefD (dataV l n (q.asRc t) p k) w) := by
  by_cases k28 : q.kind = 28
  · exact ref_data6 hb hn q t p k hk k28
  by_cases k1 : q.kind = 1
  · exact ref_data4 hb hn q t p k hk k1
  by_cases k5 : q.kind = 5
  · exact ref_data5 hb hn q t p k hk k5
  · exact ref_data0 hb hn q t p k hk ⟨k28, k1, k5⟩
end Go.Proofs.YtpojiimcdknafaaGreatDoor
