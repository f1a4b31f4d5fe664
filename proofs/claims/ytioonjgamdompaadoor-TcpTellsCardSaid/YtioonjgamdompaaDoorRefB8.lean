/-
  stockaderef01.BuildTcp, set, port: the document's own answers on what is built. Conditions: those of the slice; 2^47 bytes at most; the numbers of four bytes are such.
-/
import Derived.Test.YtioonjgamdompaaDoorBld8
import Derived.Test.YtioonjgamdompaaDoorRefOver
import Derived.Test.YtioonjgamdompaaDoorRefPut
namespace Go.Proofs.YtioonjgamdompaaDoor
open Go.RowKit
set_option maxRecDepth 100000

theorem refPort_any (v : Int) (w : World) : Calls Tryd.prog 29 #[.int .i64 v] w fun e w' => e = .returned (.bool (decide (0 ≤ v ∧ v ≤ 65535))) ∧ w = w' := by
  by_cases h0 : 0 ≤ v
  · by_cases h1 : v ≤ 65535
    · rw [decide_eq_true (⟨h0, h1⟩ : 0 ≤ v ∧ v ≤ 65535)]
      go_enter Tryd.func29, Tryd.ntmps29
      go_wp2
      go_ret
      exact ⟨rfl, rfl⟩
    · rw [decide_eq_false (show ¬ (0 ≤ v ∧ v ≤ 65535) from fun h => h1 h.2)]
      go_enter Tryd.func29, Tryd.ntmps29
      go_wp2
      go_ret
      exact ⟨rfl, rfl⟩
  · rw [decide_eq_false (show ¬ (0 ≤ v ∧ v ≤ 65535) from fun h => h0 h.1)]
    go_enter Tryd.func29, Tryd.ntmps29
    go_wp2
    go_ret
    exact ⟨rfl, rfl⟩
set_option maxHeartbeats 1000000 in
theorem set_any {A : Option Addr} {n c : Nat} {l : List UInt8} {w : World} (hb : Bs w A n c l) (i k : Nat) (hi : i + 2 ≤ n) (hk : k ≤ 65535) (h47 : n ≤ 140737488350000) : Calls Tryd.prog 32 #[.slice A n c, .int .i64 i, .int .i64 k] w fun e w' =>
    ∃ A' c', e = .returned (.slice A' n c') ∧ w'.ownsRow w.heap.size 5 1 (.slice A' n c') n (bv ((l.set i (UInt8.ofNat (k / 256))).set (i + 1) (UInt8.ofNat (k % 256)))) ∧ Below w.heap.size w w' := by
  have HB := Lib.hid hb
  clear hb
  have q1 : (i : Int) < n := by omega
  have q2 : (i : Int) + 1 < n := by omega
  have q3 : (0 : Int) ≤ (i : Int) + 1 := by omega
  go_enter Tryd.func32, Tryd.ntmps32
  go_wp2_with (at_builtin; refine wpList_append_bs rfl (.const (.slice none 0 0)) (.tmp 8) 22 rfl w.heap.size 5 info5 Tryd.underlying22 _ 0 [] rfl (World.ownsRow_nil _ _ _ _) A n c l rfl HB.out (by omega) (Nat.le_refl _) ?_; intro v1 w1 o1 g1 _ _; have b1 : Below w.heap.size w w1 := (Below.refl _ w).grown g1 (Nat.le_refl _) (fun q hq => by cases hq); replace o1 := owns_n (n' := n) (by omega) o1; rw [List.nil_append] at o1; obtain ⟨g, cap, rfl, _, _⟩ := o1.form (by omega); obtain ⟨⟨p, _, hcp⟩, hfp⟩ := own_cell o1 (j := i) (by omega); obtain ⟨⟨q, _, hcq⟩, hfq⟩ := own_cell o1 (j := i + 1) (by omega); have H1 := Lib.hid (And.intro o1 b1); clear o1 g1 b1)
  obtain ⟨s1, s2⟩ := own_put H1.out.1 H1.out.2 (Nat.le_refl _) i (.int .u8 ((k : Int) / 256)) (UInt8.ofNat (k / 256)) (congrArg (Value.int IntKind.u8) (by simp only [UInt8.toNat_ofNat']; omega))
  obtain ⟨s3, s4⟩ := own_put s1 s2 (Nat.le_refl _) (i + 1) (.int .u8 ((k : Int) % 256)) (UInt8.ofNat (k % 256)) (congrArg (Value.int IntKind.u8) (by simp only [UInt8.toNat_ofNat']; omega))
  go_ret
  exact ⟨_, _, rfl, s3, s4⟩
theorem tcpH_flat2 (s : Sg) (r : List UInt8) : ([] ++ putn s.sp 2 ++ putn s.dp 2 ++ putn s.seq 4 ++ putn s.ack 4 ++ [80, ub s.fl, 4, 0, 0, 0, 0, 0]) ++ r = tcpH s 0 0 ++ r := by simp [tcpH]
/-- What the reference of Build hands back. -/
def BldF (ah : List UInt8) (s : Sg) (w : World) (e : Ending) (w' : World) : Prop := ∃ A' n' c', e = .returned (.tuple #[.slice A' n' c', .agg (flv (blde s).code (blde s).at_ (blde s).placed)]) ∧ Bs w' A' n' c' (bldv ah s) ∧ Below w.heap.size w w'
theorem bldF_no {ah : List UInt8} {s : Sg} {w0 w : World} (h : ¬ mayT s) (hb : Below w0.heap.size w0 w) : BldF ah s w0 (.returned (.tuple #[.slice none 0 0, .agg (flv 1 0 false)])) w := by
  unfold BldF bldv blde
  rw [if_neg h, if_neg h]
  exact ⟨none, 0, 0, rfl, Bs.nil _, hb⟩
theorem bldF_yes {ah : List UInt8} {s : Sg} {w0 w : World} (h : mayT s) {A' : Option Addr} {n' c' : Nat} (hB : Bs w A' n' c' (tcpB ah s)) (hb : Below w0.heap.size w0 w) : BldF ah s w0 (.returned (.tuple #[.slice A' n' c', .agg (flv 0 0 false)])) w := by
  unfold BldF bldv blde
  rw [if_pos h, if_pos h]
  exact ⟨A', n', c', rfl, hB, hb⟩
set_option maxHeartbeats 2000000 in
theorem ref_build_tcp {A : Option Addr} {n c : Nat} {w : World} {s : Sg} (hb : Bs w A n c s.pay) (hq : 0 ≤ s.seq ∧ s.seq < 4294967296) (hk : 0 ≤ s.ack ∧ s.ack < 4294967296) (sv dv : Bool) {sb db : List UInt8} (hsb : sb.length = 16) (hdb : db.length = 16) :
    Calls Tryd.prog 11 #[.agg (sgv s A n c), .agg (adv sv sb), .agg (adv dv db)] w (BldF (aheadL sv sb db 6 (20 + n)) s w) := by
  have hl := hb.len
  have hcap := hb.cap
  have hmax := hb.max
  unfold maxLen at hmax
  have b0 : Below w.heap.size w (w.alloc (.cells (sgv s A n c) 28)) := (Below.refl _ _).alloc (Nat.le_refl _) _
  have s0 := SgBox.new w s A n c
  have a1 := AdBox.new (w.alloc (.cells (sgv s A n c) 28)) sv hsb
  have b1 := Below.alloc (Below.refl (w.alloc (.cells (sgv s A n c) 28)).heap.size _) (Nat.le_refl _) (.cells (adv sv sb) 25)
  have a2 := AdBox.new ((w.alloc (.cells (sgv s A n c) 28)).alloc (.cells (adv sv sb) 25)) dv hdb
  have b2 := Below.alloc (Below.refl ((w.alloc (.cells (sgv s A n c) 28)).alloc (.cells (adv sv sb) 25)).heap.size _) (Nat.le_refl _) (.cells (adv dv db) 25)
  have hA := And.intro ((s0.later b1 (Nat.le_refl _)).later b2 (Nat.le_refl _)) (And.intro (a1.later b2 (Nat.le_refl _)) (And.intro a2 (b0.trans ((b1.mono b0.size).trans (b2.mono (Nat.le_trans b0.size b1.size))))))
  simp only [World.size_alloc] at hA
  obtain ⟨W, hW⟩ : ∃ W, ((w.alloc (.cells (sgv s A n c) 28)).alloc (.cells (adv sv sb) 25)).alloc (.cells (adv dv db) 25) = W := ⟨_, rfl⟩
  rw [hW] at hA
  have HA := Lib.hid hA
  unfold sgv at hW
  have HW := Lib.hid hW
  have HB := Lib.hid (hb.later hA.2.2.2 (Nat.le_refl _))
  clear b0 s0 a1 b1 a2 b2 hA hW hb
  by_cases hm : ¬ mayT s
  · have HM := Lib.hid hm
    have hnm := not_mayT hm
    rw [hl] at hnm
    clear hm
    obtain ⟨sp, dp, seq, ack, fl, pay⟩ := s
    dsimp only at hnm hq hk
    unfold sgv
    dsimp only
    rcases hnm with h1 | ⟨h1, h2⟩ | ⟨h1, h2, h3⟩ | ⟨h1, h2, h3, h4⟩ | ⟨h1, h2, h3, h4, h5⟩
    all_goals
      go_enter Tryd.func11, Tryd.ntmps11
      go_wp2_with (first
        | (rw [HW.out]; refine wpList_alloc_fl rfl rfl ?_; intro w1 a1 b1 z1; have hx := HA.out.1.later b1 (Nat.le_refl _); have d0 := hx.cell 0; have d1 := hx.cell 1; have d4 := hx.cell 4; have d5 := hx.cell 5; dsimp only [sgv] at d0 d1 d4 d5; simp only [List.getElem?_toArray, List.getElem?_cons_zero, List.getElem?_cons_succ] at d0 d1 d4 d5; have H1 := Lib.hid (And.intro a1 (HA.out.2.2.2.trans (b1.mono HA.out.2.2.2.size))); clear a1 b1 z1 hx)
        | (go_at_call 29; refine (refPort_any _ _).mono ?_; rintro e w' ⟨rfl, rfl⟩)
        | (go_at_call 30; refine (help_bare 1 _).mono ?_; rintro e w2 ⟨rfl, b2⟩; have H2 := Lib.hid (And.intro (H1.out.1.later b2 (Nat.le_refl _)) (H1.out.2.trans (b2.mono H1.out.2.size))); clear b2)
        | (have hg : w.heap.size ≤ W.heap.size := HA.out.2.2.2.size; refine wpList_store_fl rfl (.tmp 7) (.tmp 35) rfl 1 0 false rfl rfl H2.out.1 ?_; intro w3 a3 o3 z3 b3; have H3 := Lib.hid (And.intro a3 (b3 w.heap.size w hg H2.out.2)); clear a3 o3 z3 b3))
      exact bodyPost_ret (results_tmp_fl rfl _ rfl H3.out.1) rfl (bldF_no HM.out H3.out.2)
  · have hm : mayT s := Decidable.not_not.1 hm
    have HM := Lib.hid hm
    obtain ⟨⟨m1, m2⟩, ⟨m3, m4⟩, ⟨m5, m6⟩, m7⟩ := hm
    obtain ⟨sp, dp, seq, ack, fl, pay⟩ := s
    dsimp only at hq hk m1 m2 m3 m4 m5 m6 m7 hl
    have q1 : decide (0 ≤ sp ∧ sp ≤ 65535) = true := decide_eq_true ⟨m1, m2⟩
    have q2 : decide (0 ≤ dp ∧ dp ≤ 65535) = true := decide_eq_true ⟨m3, m4⟩
    have q3 : ¬ 65515 < n := by omega
    have q4 : ¬ 63 < fl := by omega
    unfold sgv
    dsimp only
    go_enter Tryd.func11, Tryd.ntmps11
    go_wp2_with (first
      | (rw [HW.out]; refine wpList_alloc_fl rfl rfl ?_; intro w1 a1 b1 z1; have hx := HA.out.1.later b1 (Nat.le_refl _); have d0 := hx.cell 0; have d1 := hx.cell 1; have d4 := hx.cell 4; have d5 := hx.cell 5; dsimp only [sgv] at d0 d1 d4 d5; simp only [List.getElem?_toArray, List.getElem?_cons_zero, List.getElem?_cons_succ] at d0 d1 d4 d5; have H1 := Lib.hid (And.intro a1 (And.intro (HA.out.2.2.2.trans (b1.mono HA.out.2.2.2.size)) (And.intro hx (And.intro (HA.out.2.1.later b1 (Nat.le_refl _)) (And.intro (HA.out.2.2.1.later b1 (Nat.le_refl _)) (HB.out.later b1 (Nat.le_refl _))))))); clear a1 b1 z1 hx)
      | (go_at_call 29; refine (refPort_any _ _).mono ?_; rintro e w' ⟨rfl, rfl⟩))
    clear d0 d1 d4 d5
    have rc : ∀ w', Below w1.heap.size w1 w' → SgBox w' w.heap.size ⟨sp, dp, seq, ack, fl, pay⟩ A n c := fun w' h => H1.out.2.2.1.later h (Nat.le_refl _)
    have rc0 : ∀ w', Below w1.heap.size w1 w' → w'.cell? ⟨w.heap.size, 0, none⟩ = some (.int .i64 sp) := fun w' h => (rc w' h).cell 0
    have rc1 : ∀ w', Below w1.heap.size w1 w' → w'.cell? ⟨w.heap.size, 1, none⟩ = some (.int .i64 dp) := fun w' h => (rc w' h).cell 1
    have rc2 : ∀ w', Below w1.heap.size w1 w' → w'.cell? ⟨w.heap.size, 2, none⟩ = some (.int .u32 seq) := fun w' h => (rc w' h).cell 2
    have rc3 : ∀ w', Below w1.heap.size w1 w' → w'.cell? ⟨w.heap.size, 3, none⟩ = some (.int .u32 ack) := fun w' h => (rc w' h).cell 3
    have rc4 := Lib.hid fun w' (h : Below w1.heap.size w1 w') => (rc w' h).cell 4
    have rc5 := Lib.hid fun w' (h : Below w1.heap.size w1 w') => (rc w' h).cell 5
    clear rc
    have hS : Below w1.heap.size w1 w1.drew := (Below.refl _ _).drew
    refine rg_begin (fun w' => Below w1.heap.size w1 w') 7 (by kernel_rfl) rfl ?_
    refine rg_take 0 (v := ?rv1) rfl (by kernel_rfl) (by kernel_rfl) (by kernel_rfl) (fun _ _ _ h => h) (by rfl) hS (fun w2 hw2 => ?ry1) ?rr1
    case ry1 => ((try dsimp only at hw2); go_simp <;> with_reducible rfl)
    simp only [Act.put, List.setIfInBounds_toArray, List.set_cons_zero, List.set_cons_succ]
    refine rg_take 3 (v := ?rv2) rfl (by kernel_rfl) (by kernel_rfl) (by kernel_rfl) (fun _ _ _ h => h) (by rfl) hS (fun w2 hw2 => ?ry2) ?rr2
    case ry2 => ((try dsimp only at hw2); go_simp <;> with_reducible rfl)
    simp only [Act.put, List.setIfInBounds_toArray, List.set_cons_zero, List.set_cons_succ]
    refine rg_take 1 (v := ?rv3) rfl (by kernel_rfl) (by kernel_rfl) (by kernel_rfl) (fun _ _ _ h => h) (by rfl) hS (fun w2 hw2 => ?ry3) ?rr3
    case ry3 => ((try dsimp only at hw2); go_simp <;> with_reducible rfl)
    simp only [Act.put, List.setIfInBounds_toArray, List.set_cons_zero, List.set_cons_succ]
    refine rg_take 4 (v := ?rv4) rfl (by kernel_rfl) (by kernel_rfl) (by kernel_rfl) (fun _ _ _ h => h) (by rfl) hS (fun w2 hw2 => ?ry4) ?rr4
    case ry4 => ((try dsimp only at hw2); go_simp <;> with_reducible rfl)
    simp only [Act.put, List.setIfInBounds_toArray, List.set_cons_zero, List.set_cons_succ]
    refine rg_step 2 rfl (by kernel_rfl) (by rfl) (fun K hK => ?_)
    go_simp
    refine (ref_put (Bs.nil _) sp 2 (by omega) (by omega)).mono ?_
    rintro e w2 ⟨v2, rfl, o2, g2⟩
    obtain ⟨A2, c2, rfl, hB2⟩ := Bs.of_own o2
    replace hS := hS.trans (g2.mono hS.size)
    have H2 := Lib.hid hB2
    clear o2 g2 hB2
    refine hK.out _ _ hS ?_
    clear hK K
    try simp only [Act.put, List.setIfInBounds_toArray, List.set_cons_zero, List.set_cons_succ]
    refine rg_step 5 rfl (by kernel_rfl) (by rfl) (fun K hK => ?_)
    go_simp
    refine (ref_put H2.out dp 2 (by omega) (by omega)).mono ?_
    rintro e w3 ⟨v3, rfl, o3, g3⟩
    obtain ⟨A3, c3, rfl, hB3⟩ := Bs.of_own o3
    replace hS := hS.trans (g3.mono hS.size)
    have H3 := Lib.hid (And.intro hB3 hS)
    clear o3 g3 hB3
    refine hK.out _ _ hS ?_
    clear hK K
    try simp only [Act.put, List.setIfInBounds_toArray, List.set_cons_zero, List.set_cons_succ]
    refine rg_take 6 (v := ?rv5) rfl (by kernel_rfl) (by kernel_rfl) (by kernel_rfl) (fun _ _ _ h => h) (by rfl) hS (fun w2 hw2 => ?ry5) ?rr5
    case ry5 => ((try dsimp only at hw2); go_simp <;> with_reducible rfl)
    simp only [Act.put, List.setIfInBounds_toArray, List.set_cons_zero, List.set_cons_succ]
    refine rg_done (by kernel_rfl) ?_
    clear hS
    go_wp2_with fail
    have hS : Below w1.heap.size w1 w3.drew := H3.out.2.drew
    refine rg_begin (fun w' => Below w1.heap.size w1 w') 10 (by kernel_rfl) rfl ?_
    refine rg_take 0 (v := ?rv6) rfl (by kernel_rfl) (by kernel_rfl) (by kernel_rfl) (fun _ _ _ h => h) (by rfl) hS (fun w2 hw2 => ?ry6) ?rr6
    case ry6 => ((try dsimp only at hw2); go_simp <;> with_reducible rfl)
    simp only [Act.put, List.setIfInBounds_toArray, List.set_cons_zero, List.set_cons_succ]
    refine rg_take 1 (v := ?rv7) rfl (by kernel_rfl) (by kernel_rfl) (by kernel_rfl) (fun _ _ _ h => h) (by rfl) hS (fun w2 hw2 => ?ry7) ?rr7
    case ry7 => ((try dsimp only at hw2); go_simp <;> with_reducible rfl)
    simp only [Act.put, List.setIfInBounds_toArray, List.set_cons_zero, List.set_cons_succ]
    refine rg_take 5 (v := ?rv8) rfl (by kernel_rfl) (by kernel_rfl) (by kernel_rfl) (fun _ _ _ h => h) (by rfl) hS (fun w2 hw2 => ?ry8) ?rr8
    case ry8 => ((try dsimp only at hw2); go_simp <;> with_reducible rfl)
    simp only [Act.put, List.setIfInBounds_toArray, List.set_cons_zero, List.set_cons_succ]
    refine rg_take 2 (v := ?rv9) rfl (by kernel_rfl) (by kernel_rfl) (by kernel_rfl) (fun _ _ _ h => h) (by rfl) hS (fun w2 hw2 => ?ry9) ?rr9
    case ry9 => ((try dsimp only at hw2); go_simp <;> with_reducible rfl)
    simp only [Act.put, List.setIfInBounds_toArray, List.set_cons_zero, List.set_cons_succ]
    refine rg_take 6 (v := ?rv10) rfl (by kernel_rfl) (by kernel_rfl) (by kernel_rfl) (fun _ _ _ h => h) (by rfl) hS (fun w2 hw2 => ?ry10) ?rr10
    case ry10 => ((try dsimp only at hw2); go_simp <;> with_reducible rfl)
    simp only [Act.put, List.setIfInBounds_toArray, List.set_cons_zero, List.set_cons_succ]
    refine rg_take 3 (v := ?rv11) rfl (by kernel_rfl) (by kernel_rfl) (by kernel_rfl) (fun _ _ _ h => h) (by rfl) hS (fun w2 hw2 => ?ry11) ?rr11
    case ry11 => ((try dsimp only at hw2); go_simp <;> with_reducible rfl)
    simp only [Act.put, List.setIfInBounds_toArray, List.set_cons_zero, List.set_cons_succ]
    refine rg_take 7 (v := ?rv12) rfl (by kernel_rfl) (by kernel_rfl) (by kernel_rfl) (fun _ _ _ h => h) (by rfl) hS (fun w2 hw2 => ?ry12) ?rr12
    case ry12 => ((try dsimp only at hw2); go_simp <;> with_reducible rfl)
    simp only [Act.put, List.setIfInBounds_toArray, List.set_cons_zero, List.set_cons_succ]
    have e2 : IntKind.i64.wrap seq = seq := by rw [IntKind.wrap_i64]; omega
    have e3 : IntKind.i64.wrap ack = ack := by rw [IntKind.wrap_i64]; omega
    have E2 := Lib.hid e2
    have E3 := Lib.hid e3
    clear e2 e3
    refine rg_step 4 rfl (by kernel_rfl) (by rfl) (fun K hK => ?_)
    go_simp
    rw [E2.out]
    refine (ref_put (H3.out.1.later (Below.refl _ _).drew (Nat.le_refl _)) seq 4 (by omega) (by omega)).mono ?_
    rintro e w4 ⟨v4, rfl, o4, g4⟩
    obtain ⟨A4, c4, rfl, hB4⟩ := Bs.of_own o4
    replace hS := hS.trans (g4.mono hS.size)
    have H4 := Lib.hid hB4
    clear o4 g4 hB4
    refine hK.out _ _ hS ?_
    clear hK K
    try simp only [Act.put, List.setIfInBounds_toArray, List.set_cons_zero, List.set_cons_succ]
    refine rg_step 8 rfl (by kernel_rfl) (by rfl) (fun K hK => ?_)
    go_simp
    rw [E3.out]
    refine (ref_put H4.out ack 4 (by omega) (by omega)).mono ?_
    rintro e w5 ⟨v5, rfl, o5, g5⟩
    have o5' := owns_base o5 hS.size
    replace hS := hS.trans (g5.mono hS.size)
    have H5 := Lib.hid (And.intro o5' hS)
    have d4 := rc4.out _ hS
    have d5 := rc5.out _ hS
    clear o5 o5' g5
    dsimp only [sgv] at d4 d5
    simp only [List.getElem?_toArray, List.getElem?_cons_zero, List.getElem?_cons_succ] at d4 d5
    refine hK.out _ _ hS ?_
    clear hK K
    try simp only [Act.put, List.setIfInBounds_toArray, List.set_cons_zero, List.set_cons_succ]
    refine rg_take 9 (v := ?rv13) rfl (by kernel_rfl) (by kernel_rfl) (by kernel_rfl) (fun _ _ _ h => h) (by rfl) hS (fun w2 hw2 => ?ry13) ?rr13
    case ry13 => ((try dsimp only at hw2); go_simp <;> with_reducible rfl)
    simp only [Act.put, List.setIfInBounds_toArray, List.set_cons_zero, List.set_cons_succ]
    refine rg_done (by kernel_rfl) ?_
    have hs5 := hS.size
    clear hS
    go_wp2_with (first
      | (at_builtin; refine wpList_append_bs rfl (.tmp 51) (.tmp 55) 22 rfl w1.heap.size 5 info5 Tryd.underlying22 _ _ _ rfl (H5.out.1.alloc _) (some ⟨w5.heap.size, 0, none⟩) 8 8 [80, ub fl, 4, 0, 0, 0, 0, 0] rfl (Bs.lit _ _ 8 rfl (by unfold maxLen; omega) _ (by simp [bv, ub_cell]; omega) _) (by omega) (by simp; omega) ?_; intro v6 w6 o6 g6 _ _; have b6 : Below w1.heap.size w1 w6 := (H5.out.2.alloc hs5 _).grown g6 (by simp; omega) (fun q hq => (H5.out.1.lt q hq).1); have d5 : w6.cell? ⟨w.heap.size, 5, none⟩ = some (.slice A n c) := rc5.out _ b6; have hs6 := b6.size; have H6 := Lib.hid (And.intro o6 b6); clear o6 g6 b6)
      | (at_builtin; refine wpList_append_bs rfl (.tmp 57) (.tmp 59) 22 rfl w1.heap.size 5 info5 Tryd.underlying22 _ _ _ rfl H6.out.1 A n c pay rfl (H1.out.2.2.2.2.2.later H6.out.2 (Nat.le_refl _)) (by omega) hs6 ?_; intro v7 w7 o7 g7 _ _; have b7 : Below w1.heap.size w1 w7 := H6.out.2.grown g7 hs6 (fun q hq => (H6.out.1.lt q hq).1); (replace o7 : w7.ownsRow w1.heap.size 5 1 v7 (20 + n) (bv (tcpH ⟨sp, dp, seq, ack, fl, pay⟩ 0 0 ++ pay)) := by rw [← tcpH_flat2]; exact owns_n (by omega) o7); obtain ⟨A7, c7, rfl, hB7⟩ := Bs.of_own o7; have H7 := Lib.hid (And.intro (H1.out.2.2.2.1.later b7 (Nat.le_refl _)) (And.intro (H1.out.2.2.2.2.1.later b7 (Nat.le_refl _)) (And.intro hB7 b7))); clear o7 g7 b7 hB7)
      | (refine wpList_load_ad rfl (.tmp 4) rfl rfl H7.out.1 ?_)
      | (refine wpList_load_ad rfl (.tmp 5) rfl rfl H7.out.2.1 ?_))
    have ko := ref_over sv dv sb db hsb hdb 6 H7.out.2.2.1 (by omega)
    rw [show cks (aheadL sv sb db 6 (20 + n) ++ (tcpH ⟨sp, dp, seq, ack, fl, pay⟩ 0 0 ++ pay)) = tcpK (aheadL sv sb db 6 (20 + n)) ⟨sp, dp, seq, ack, fl, pay⟩ from rfl] at ko
    have hk16 : tcpK (aheadL sv sb db 6 (20 + n)) ⟨sp, dp, seq, ack, fl, pay⟩ ≤ 65535 := cks_le _
    obtain ⟨k, hk0⟩ : ∃ k, tcpK (aheadL sv sb db 6 (20 + n)) ⟨sp, dp, seq, ack, fl, pay⟩ = k := ⟨_, rfl⟩
    rw [hk0] at ko hk16
    have HK := Lib.hid hk0
    clear hk0
    refine ko.mono ?_
    rintro e w8 ⟨rfl, g8⟩
    have b8 := H7.out.2.2.2.trans (g8.mono H7.out.2.2.2.size)
    have H8 := Lib.hid (And.intro (H7.out.2.2.1.later g8 (Nat.le_refl _)) b8)
    clear ko g8 b8
    go_wp2_with fail
    refine (set_any H8.out.1 16 k (by omega) hk16 (by omega)).mono ?_
    rintro e w9 ⟨A9, c9, rfl, o9, g9⟩
    rw [show (16 + 1 : Nat) = 17 from rfl, tcpH_set] at o9
    have b9 := H8.out.2.trans (g9.mono H8.out.2.size)
    have H9 := Lib.hid (And.intro (owns_base o9 H8.out.2.size) (And.intro (H1.out.1.later b9 (Nat.le_refl _)) (And.intro b9 (HA.out.2.2.2.size))))
    have hlt : W.heap.size < w1.heap.size := H1.out.1.lt
    clear o9 g9 b9
    go_wp2_with (refine wpList_store_fl rfl (.tmp 7) (.tmp 67) rfl 0 0 false rfl rfl H9.out.2.1 ?_; intro w10 a10 o10 z10 b10; have H10 := Lib.hid (And.intro a10 (And.intro (Bs.own_later H9.out.1 fun j hj => o10 j (by omega)) (b10 w.heap.size w H9.out.2.2.2 (H1.out.2.1.trans (H9.out.2.2.1.mono H1.out.2.1.size))))); clear a10 o10 z10 b10)
    have hB10 := H10.out.2.1
    rw [← HK.out] at hB10
    exact bodyPost_ret (v := .tuple #[.slice A9 (20 + n) c9, .agg (flv 0 0 false)]) (results_tmp_fl (p := 6) (u := 7) rfl _ rfl H10.out.1) rfl (bldF_yes HM.out hB10 H10.out.2.2)
end Go.Proofs.YtioonjgamdompaaDoor
