/-
  Package tcp's Build: the bytes, or why there are none. Conditions: those of the slice; 2^47 bytes at most; the numbers of four bytes are such.
-/
import Derived.Test.YtioonjgamdompaaDoorPar8
namespace Go.Proofs.YtioonjgamdompaaDoor
open Go.RowKit
set_option maxRecDepth 100000

theorem putn_nat {k : Nat} (h : k ≤ 65535) : putn (k : Int) 2 = [UInt8.ofNat (k / 256), UInt8.ofNat (k % 256)] := by
  have e1 : (2 : Int) ^ (8 * 1) = 256 := rfl
  have e0 : (2 : Int) ^ (8 * 0) = 1 := rfl
  simp only [putn, e1, e0, Int.ediv_one]
  rw [show ((k : Int) / 256 % 256).toNat = k / 256 by omega, show ((k : Int) % 256).toNat = k % 256 by omega]
theorem tcpH_flat (s : Sg) (r : List UInt8) : (([] ++ putn s.sp 2 ++ putn s.dp 2 ++ putn s.seq 4 ++ putn s.ack 4 ++ [80, ub s.fl]) ++ putn 1024 2) ++ ([0, 0, 0, 0] ++ (r ++ [])) = tcpH s 0 0 ++ r := by
  rw [show putn 1024 2 = [4, 0] from rfl]
  simp [tcpH]
theorem tcpH_splice (s : Sg) (x y u v : UInt8) (r : List UInt8) : (tcpH s x y ++ r).take 16 ++ ([u, v] ++ (tcpH s x y ++ r).drop (16 + 2)) = tcpH s u v ++ r := by
  obtain ⟨_, _, _, _, _, _, _, _, _, _, _, _, e1, e2, e3, e4, h⟩ := tcpH_cons s x y r
  rw [h]
  unfold tcpH
  rw [e1, e2, e3, e4]
  rfl
/-- What Build answers. -/
def bldv (ah : List UInt8) (s : Sg) : List UInt8 := if mayT s then tcpB ah s else []
def blde (s : Sg) : Fl := if mayT s then ⟨0, 0, false⟩ else ⟨1, 0, false⟩
def BldT (ah : List UInt8) (s : Sg) (w : World) (e : Ending) (w' : World) : Prop := ∃ A' n' c' v, e = .returned (.tuple #[.slice A' n' c', v]) ∧ Bs w' A' n' c' (bldv ah s) ∧ Tells w' v (blde s) ∧ Below w.heap.size w w'
theorem bldT_no {ah : List UInt8} {s : Sg} {w0 w : World} (h : ¬ mayT s) (hb : Below w0.heap.size w0 w) : BldT ah s w0 (.returned (.tuple #[.slice none 0 0, .iface 34 (.int .i64 1)])) w := by
  unfold BldT bldv blde
  rw [if_neg h, if_neg h]
  exact ⟨none, 0, 0, _, rfl, Bs.nil _, Tells.bare _ 1 (by decide) 0, hb⟩
theorem bldT_yes {ah : List UInt8} {s : Sg} {w0 w : World} (h : mayT s) {A' : Option Addr} {n' c' : Nat} (hB : Bs w A' n' c' (tcpB ah s)) (hb : Below w0.heap.size w0 w) : BldT ah s w0 (.returned (.tuple #[.slice A' n' c', .nilIface])) w := by
  unfold BldT bldv blde
  rw [if_pos h, if_pos h]
  exact ⟨A', n', c', _, rfl, hB, Tells.nil _ _ _, hb⟩
theorem not_mayT {s : Sg} (h : ¬ mayT s) : decide (0 ≤ s.sp ∧ s.sp ≤ 65535) = false ∨ (decide (0 ≤ s.sp ∧ s.sp ≤ 65535) = true ∧ decide (0 ≤ s.dp ∧ s.dp ≤ 65535) = false) ∨
    (decide (0 ≤ s.sp ∧ s.sp ≤ 65535) = true ∧ decide (0 ≤ s.dp ∧ s.dp ≤ 65535) = true ∧ s.fl < 0) ∨ (decide (0 ≤ s.sp ∧ s.sp ≤ 65535) = true ∧ decide (0 ≤ s.dp ∧ s.dp ≤ 65535) = true ∧ ¬ s.fl < 0 ∧ 63 < s.fl) ∨
    (decide (0 ≤ s.sp ∧ s.sp ≤ 65535) = true ∧ decide (0 ≤ s.dp ∧ s.dp ≤ 65535) = true ∧ ¬ s.fl < 0 ∧ ¬ 63 < s.fl ∧ 65515 < s.pay.length) := by
  unfold mayT at h
  by_cases h1 : 0 ≤ s.sp ∧ s.sp ≤ 65535
  · by_cases h2 : 0 ≤ s.dp ∧ s.dp ≤ 65535
    · rw [decide_eq_true h1, decide_eq_true h2]
      refine .inr (.inr ?_)
      by_cases h3 : s.fl < 0
      · exact .inl ⟨rfl, rfl, h3⟩
      · by_cases h4 : 63 < s.fl
        · exact .inr (.inl ⟨rfl, rfl, h3, h4⟩)
        · refine .inr (.inr ⟨rfl, rfl, h3, h4, ?_⟩)
          omega
    · exact .inr (.inl ⟨decide_eq_true h1, decide_eq_false h2⟩)
  · exact .inl (decide_eq_false h1)

set_option maxHeartbeats 2000000 in
theorem build_tcp {A : Option Addr} {n c : Nat} {w : World} {s : Sg} (hb : Bs w A n c s.pay) (hq : 0 ≤ s.seq ∧ s.seq < 4294967296) (hk : 0 ≤ s.ack ∧ s.ack < 4294967296) (sv dv : Bool) {sb db : List UInt8} (hsb : sb.length = 16) (hdb : db.length = 16) :
    Calls Tryd.prog 10 #[.agg (sgv s A n c), .agg (adv sv sb), .agg (adv dv db)] w (BldT (aheadL sv sb db 6 (20 + n)) s w) := by
  have hl := hb.len
  have hcap := hb.cap
  have hmax := hb.max
  unfold maxLen at hmax
  have b0 : Below w.heap.size w (w.alloc (.cells (sgv s A n c) 28)) := (Below.refl _ _).alloc (Nat.le_refl _) _
  have s0 := SgBox.new w s A n c
  have a1 := AdBox.new (w.alloc (.cells (sgv s A n c) 28)) sv hsb
  have b1 := Below.alloc (Below.refl (w.alloc (.cells (sgv s A n c) 28)).heap.size _) (Nat.le_refl _) (.cells (adv sv sb) 25)
  have a2 := AdBox.new ((w.alloc (.cells (sgv s A n c) 28)).alloc (.cells (adv sv sb) 25)) dv hdb
  have b2 := Below.alloc (Below.refl ((w.alloc (.cells (sgv s A n c) 28)).alloc (.cells (adv sv sb) 25)).heap.size _) (Nat.le_refl _) (.cells (adv dv db) 25)
  have hA := And.intro ((s0.later b1 (Nat.le_refl _)).later b2 (Nat.le_refl _)) (And.intro (a1.later b2 (Nat.le_refl _)) (And.intro a2 (b0.trans ((b1.mono b0.size).trans (b2.mono (Nat.le_trans b0.size b1.size))))))
  simp only [World.size_alloc] at hA
  obtain ⟨W, hW⟩ : ∃ W, ((w.alloc (.cells (sgv s A n c) 28)).alloc (.cells (adv sv sb) 25)).alloc (.cells (adv dv db) 25) = W := ⟨_, rfl⟩
  rw [hW] at hA
  have HA := Lib.hid hA
  unfold sgv at hW
  have HW := Lib.hid hW
  have HB := Lib.hid (hb.later hA.2.2.2 (Nat.le_refl _))
  have d0 := hA.1.cell 0
  have d1 := hA.1.cell 1
  have d2 := hA.1.cell 2
  have d3 := hA.1.cell 3
  have d4 := hA.1.cell 4
  have d5 := hA.1.cell 5
  clear b0 s0 a1 b1 a2 b2 hA hW hb
  by_cases hm : ¬ mayT s
  · have HM := Lib.hid hm
    have hnm := not_mayT hm
    rw [hl] at hnm
    clear hm
    obtain ⟨sp, dp, seq, ack, fl, pay⟩ := s
    dsimp only [sgv] at d0 d1 d2 d3 d4 d5 hnm hq hk
    simp only [List.getElem?_toArray, List.getElem?_cons_zero, List.getElem?_cons_succ] at d0 d1 d2 d3 d4 d5
    unfold sgv
    dsimp only
    rcases hnm with h1 | ⟨h1, h2⟩ | ⟨h1, h2, h3⟩ | ⟨h1, h2, h3, h4⟩ | ⟨h1, h2, h3, h4, h5⟩
    all_goals
      go_enter Tryd.func10, Tryd.ntmps10
      go_wp2_with (first | (rw [HW.out]; go_at_call 25; refine (isPort_any _ _).mono ?_; rintro e w' ⟨rfl, rfl⟩) | (go_at_call 25; refine (isPort_any _ _).mono ?_; rintro e w' ⟨rfl, rfl⟩))
      go_ret2
      exact bldT_no HM.out HA.out.2.2.2
  · have hm : mayT s := Decidable.not_not.1 hm
    have HM := Lib.hid hm
    obtain ⟨⟨m1, m2⟩, ⟨m3, m4⟩, ⟨m5, m6⟩, m7⟩ := hm
    have rc : ∀ w', Below W.heap.size W w' → SgBox w' w.heap.size s A n c := fun w' h => HA.out.1.later h (Nat.le_refl _)
    obtain ⟨sp, dp, seq, ack, fl, pay⟩ := s
    dsimp only [sgv] at d0 d1 d2 d3 d4 d5 hq hk m1 m2 m3 m4 m5 m6 m7 hl
    simp only [List.getElem?_toArray, List.getElem?_cons_zero, List.getElem?_cons_succ] at d0 d1 d2 d3 d4 d5
    have rc0 : ∀ w', Below W.heap.size W w' → w'.cell? ⟨w.heap.size, 0, none⟩ = some (.int .i64 sp) := fun w' h => (rc w' h).cell 0
    have rc1 : ∀ w', Below W.heap.size W w' → w'.cell? ⟨w.heap.size, 1, none⟩ = some (.int .i64 dp) := fun w' h => (rc w' h).cell 1
    have rc2 : ∀ w', Below W.heap.size W w' → w'.cell? ⟨w.heap.size, 2, none⟩ = some (.int .u32 seq) := fun w' h => (rc w' h).cell 2
    have rc3 : ∀ w', Below W.heap.size W w' → w'.cell? ⟨w.heap.size, 3, none⟩ = some (.int .u32 ack) := fun w' h => (rc w' h).cell 3
    have rc4 := Lib.hid fun w' (h : Below W.heap.size W w') => (rc w' h).cell 4
    have rc5 := Lib.hid fun w' (h : Below W.heap.size W w') => (rc w' h).cell 5
    have q1 : decide (0 ≤ sp ∧ sp ≤ 65535) = true := decide_eq_true ⟨m1, m2⟩
    have q2 : decide (0 ≤ dp ∧ dp ≤ 65535) = true := decide_eq_true ⟨m3, m4⟩
    have q3 : ¬ 65515 < n := by omega
    have q4 : ¬ 63 < fl := by omega
    unfold sgv
    dsimp only
    clear rc
    go_enter Tryd.func10, Tryd.ntmps10
    go_wp2_with (first | (rw [HW.out]; go_at_call 25; refine (isPort_any _ _).mono ?_; rintro e w' ⟨rfl, rfl⟩) | (go_at_call 25; refine (isPort_any _ _).mono ?_; rintro e w' ⟨rfl, rfl⟩))
    clear d0 d1 d2 d3 d4 d5
    have hS : Below W.heap.size W W.drew := (Below.refl _ _).drew
    refine rg_begin (fun w' => Below W.heap.size W w') 7 (by kernel_rfl) rfl ?_
    refine rg_take 0 (v := ?rv1) rfl (by kernel_rfl) (by kernel_rfl) (by kernel_rfl) (fun _ _ _ h => h) (by rfl) hS (fun w2 hw2 => ?ry1) ?rr1
    case ry1 => ((try dsimp only at hw2); go_simp <;> with_reducible rfl)
    simp only [Act.put, List.setIfInBounds_toArray, List.set_cons_zero, List.set_cons_succ]
    refine rg_take 3 (v := ?rv2) rfl (by kernel_rfl) (by kernel_rfl) (by kernel_rfl) (fun _ _ _ h => h) (by rfl) hS (fun w2 hw2 => ?ry2) ?rr2
    case ry2 => ((try dsimp only at hw2); go_simp <;> with_reducible rfl)
    simp only [Act.put, List.setIfInBounds_toArray, List.set_cons_zero, List.set_cons_succ]
    refine rg_take 1 (v := ?rv3) rfl (by kernel_rfl) (by kernel_rfl) (by kernel_rfl) (fun _ _ _ h => h) (by rfl) hS (fun w2 hw2 => ?ry3) ?rr3
    case ry3 => ((try dsimp only at hw2); go_simp <;> with_reducible rfl)
    simp only [Act.put, List.setIfInBounds_toArray, List.set_cons_zero, List.set_cons_succ]
    refine rg_take 4 (v := ?rv4) rfl (by kernel_rfl) (by kernel_rfl) (by kernel_rfl) (fun _ _ _ h => h) (by rfl) hS (fun w2 hw2 => ?ry4) ?rr4
    case ry4 => ((try dsimp only at hw2); go_simp <;> with_reducible rfl)
    simp only [Act.put, List.setIfInBounds_toArray, List.set_cons_zero, List.set_cons_succ]
    refine rg_step 2 rfl (by kernel_rfl) (by rfl) (fun K hK => ?_)
    go_simp
    refine (put16_any (Bs.nil _) sp (by omega)).mono ?_
    rintro e w1 ⟨v1, rfl, o1, g1⟩
    obtain ⟨A1, c1, rfl, hB1⟩ := Bs.of_own o1
    replace hS := hS.trans (g1.mono hS.size)
    have H1 := Lib.hid hB1
    clear o1 g1 hB1
    refine hK.out _ _ hS ?_
    clear hK K
    try simp only [Act.put, List.setIfInBounds_toArray, List.set_cons_zero, List.set_cons_succ]
    refine rg_step 5 rfl (by kernel_rfl) (by rfl) (fun K hK => ?_)
    go_simp
    refine (put16_any H1.out dp (by omega)).mono ?_
    rintro e w2 ⟨v2, rfl, o2, g2⟩
    obtain ⟨A2, c2, rfl, hB2⟩ := Bs.of_own o2
    replace hS := hS.trans (g2.mono hS.size)
    have H2 := Lib.hid (And.intro hB2 hS)
    clear o2 g2 hB2
    refine hK.out _ _ hS ?_
    clear hK K
    try simp only [Act.put, List.setIfInBounds_toArray, List.set_cons_zero, List.set_cons_succ]
    refine rg_take 6 (v := ?rv5) rfl (by kernel_rfl) (by kernel_rfl) (by kernel_rfl) (fun _ _ _ h => h) (by rfl) hS (fun w2 hw2 => ?ry5) ?rr5
    case ry5 => ((try dsimp only at hw2); go_simp <;> with_reducible rfl)
    simp only [Act.put, List.setIfInBounds_toArray, List.set_cons_zero, List.set_cons_succ]
    refine rg_done (by kernel_rfl) ?_
    clear hS
    go_wp2_with fail
    have hS : Below W.heap.size W w2.drew := H2.out.2.drew
    refine rg_begin (fun w' => Below W.heap.size W w') 8 (by kernel_rfl) rfl ?_
    refine rg_take 0 (v := ?rv6) rfl (by kernel_rfl) (by kernel_rfl) (by kernel_rfl) (fun _ _ _ h => h) (by rfl) hS (fun w2 hw2 => ?ry6) ?rr6
    case ry6 => ((try dsimp only at hw2); go_simp <;> with_reducible rfl)
    simp only [Act.put, List.setIfInBounds_toArray, List.set_cons_zero, List.set_cons_succ]
    refine rg_take 1 (v := ?rv7) rfl (by kernel_rfl) (by kernel_rfl) (by kernel_rfl) (fun _ _ _ h => h) (by rfl) hS (fun w2 hw2 => ?ry7) ?rr7
    case ry7 => ((try dsimp only at hw2); go_simp <;> with_reducible rfl)
    simp only [Act.put, List.setIfInBounds_toArray, List.set_cons_zero, List.set_cons_succ]
    refine rg_take 4 (v := ?rv8) rfl (by kernel_rfl) (by kernel_rfl) (by kernel_rfl) (fun _ _ _ h => h) (by rfl) hS (fun w2 hw2 => ?ry8) ?rr8
    case ry8 => ((try dsimp only at hw2); go_simp <;> with_reducible rfl)
    simp only [Act.put, List.setIfInBounds_toArray, List.set_cons_zero, List.set_cons_succ]
    refine rg_take 2 (v := ?rv9) rfl (by kernel_rfl) (by kernel_rfl) (by kernel_rfl) (fun _ _ _ h => h) (by rfl) hS (fun w2 hw2 => ?ry9) ?rr9
    case ry9 => ((try dsimp only at hw2); go_simp <;> with_reducible rfl)
    simp only [Act.put, List.setIfInBounds_toArray, List.set_cons_zero, List.set_cons_succ]
    refine rg_take 5 (v := ?rv10) rfl (by kernel_rfl) (by kernel_rfl) (by kernel_rfl) (fun _ _ _ h => h) (by rfl) hS (fun w2 hw2 => ?ry10) ?rr10
    case ry10 => ((try dsimp only at hw2); go_simp <;> with_reducible rfl)
    simp only [Act.put, List.setIfInBounds_toArray, List.set_cons_zero, List.set_cons_succ]
    refine rg_step 3 rfl (by kernel_rfl) (by rfl) (fun K hK => ?_)
    go_simp
    refine (put32_any (H2.out.1.later (Below.refl _ _).drew (Nat.le_refl _)) seq hq.1 hq.2 (by omega)).mono ?_
    rintro e w3 ⟨v3, rfl, o3, g3⟩
    obtain ⟨A3, c3, rfl, hB3⟩ := Bs.of_own o3
    replace hS := hS.trans (g3.mono hS.size)
    have H3 := Lib.hid hB3
    clear o3 g3 hB3
    refine hK.out _ _ hS ?_
    clear hK K
    try simp only [Act.put, List.setIfInBounds_toArray, List.set_cons_zero, List.set_cons_succ]
    refine rg_step 6 rfl (by kernel_rfl) (by rfl) (fun K hK => ?_)
    go_simp
    refine (put32_any H3.out ack hk.1 hk.2 (by omega)).mono ?_
    rintro e w4 ⟨v4, rfl, o4, g4⟩
    have o4' := owns_base o4 (Nat.le_trans hS.size (Nat.le_refl _))
    replace hS := hS.trans (g4.mono hS.size)
    have H4 := Lib.hid (And.intro o4' hS)
    have d4 := rc4.out _ hS
    clear o4 o4' g4
    dsimp only [sgv] at d4
    simp only [List.getElem?_toArray, List.getElem?_cons_zero, List.getElem?_cons_succ] at d4
    refine hK.out _ _ hS ?_
    clear hK K
    try simp only [Act.put, List.setIfInBounds_toArray, List.set_cons_zero, List.set_cons_succ]
    refine rg_take 7 (v := ?rv11) rfl (by kernel_rfl) (by kernel_rfl) (by kernel_rfl) (fun _ _ _ h => h) (by rfl) hS (fun w2 hw2 => ?ry11) ?rr11
    case ry11 => ((try dsimp only at hw2); go_simp <;> with_reducible rfl)
    simp only [Act.put, List.setIfInBounds_toArray, List.set_cons_zero, List.set_cons_succ]
    refine rg_done (by kernel_rfl) ?_
    have hs4 := hS.size
    clear hS
    go_wp2_with (at_builtin; refine wpList_append_bs rfl (.tmp 49) (.tmp 53) 22 rfl W.heap.size 5 info5 Tryd.underlying22 _ _ _ rfl (H4.out.1.alloc _) (some ⟨w4.heap.size, 0, none⟩) 2 2 [80, ub fl] rfl (Bs.lit _ _ 2 rfl (by unfold maxLen; omega) _ (by simp [bv, ub_cell]; omega) _) (by omega) (by simp; omega) ?_; intro v5 w5 o5 g5 n5 m5)
    have b5 : Below W.heap.size W w5 := (H4.out.2.alloc hs4 _).grown g5 (by simp; omega) (fun q hq => (H4.out.1.lt q hq).1)
    obtain ⟨A5, c5, rfl, hB5⟩ := Bs.of_own o5
    refine (put16_any hB5 1024 (by omega)).mono ?_
    rintro e w6 ⟨v6, rfl, o6, g6⟩
    obtain ⟨A6, c6, rfl, hB6⟩ := Bs.of_own o6
    have b6 := b5.trans (g6.mono b5.size)
    have hs6 := b6.size
    have d5 : w6.cell? ⟨w.heap.size, 5, none⟩ = some (.slice A n c) := rc5.out _ b6
    have hw6 : w.heap.size < w6.heap.size := lt_of_cell' d5
    obtain ⟨l6, hl6, hB6⟩ : ∃ l6, l6 ++ ([0, 0, 0, 0] ++ (pay ++ [])) = tcpH ⟨sp, dp, seq, ack, fl, pay⟩ 0 0 ++ pay ∧ Bs w6 A6 16 c6 l6 := ⟨_, tcpH_flat ⟨sp, dp, seq, ack, fl, pay⟩ pay, hB6⟩
    have HL6 := Lib.hid hl6
    have H6 := Lib.hid (And.intro hB6 b6)
    clear o5 g5 n5 m5 b5 hB5 o6 g6 hB6 b6 d4 hl6
    have z6 : Bs (w6.alloc (.cells #[.int .u8 0, .int .u8 0, .int .u8 0, .int .u8 0] 5)) (some ⟨w6.heap.size, 0, none⟩) 4 4 [0, 0, 0, 0] := Bs.lit w6 [0, 0, 0, 0] 4 rfl (by unfold maxLen; omega) #[.int .u8 0, .int .u8 0, .int .u8 0, .int .u8 0] rfl 5
    have hWd : Below w6.heap.size w6 (w6.alloc (.cells #[.int .u8 0, .int .u8 0, .int .u8 0, .int .u8 0] 5)) := (Below.refl _ _).alloc (Nat.le_refl _) _
    have hp := pieces_new (w := w6.alloc (.cells #[.int .u8 0, .int .u8 0, .int .u8 0, .int .u8 0] 5)) [⟨A6, 16, c6, l6⟩, ⟨some ⟨w6.heap.size, 0, none⟩, 4, 4, [0, 0, 0, 0]⟩, ⟨A, n, c, pay⟩] (by simp; exact ⟨H6.out.1.later hWd (Nat.le_refl _), z6, (HB.out.later H6.out.2 (Nat.le_refl _)).later hWd (Nat.le_refl _)⟩) #[.slice A6 16 c6, .slice (some ⟨w6.heap.size, 0, none⟩) 4 4, .slice A n c] rfl 22
    rw [World.size_alloc] at hp
    have kc := concat_any (w6.heap.size + 1) 3 3 _ _ rfl (by omega) hp (by simp [total]; omega)
    have bW : Below W.heap.size W ((w6.alloc (.cells #[.int .u8 0, .int .u8 0, .int .u8 0, .int .u8 0] 5)).alloc (.cells #[.slice A6 16 c6, .slice (some ⟨w6.heap.size, 0, none⟩) 4 4, .slice A n c] 22)) := (H6.out.2.alloc hs6 _).alloc (by simp; omega) _
    have HC := Lib.hid (And.intro kc bW)
    clear z6 hWd hp kc bW
    go_wp2_with fail
    refine HC.out.1.mono ?_
    rintro e w7 ⟨v7, rfl, o7, g7⟩
    have b7 := HC.out.2.trans (g7.mono HC.out.2.size)
    replace o7 := owns_base o7 HC.out.2.size
    rw [show flat [⟨A6, 16, c6, l6⟩, ⟨some ⟨w6.heap.size, 0, none⟩, 4, 4, [0, 0, 0, 0]⟩, ⟨A, n, c, pay⟩] = tcpH ⟨sp, dp, seq, ack, fl, pay⟩ 0 0 ++ pay from HL6.out] at o7
    obtain ⟨N, hN⟩ : ∃ N, N = 20 + n := ⟨_, rfl⟩
    replace o7 := owns_n (n' := N) (by simp [total]; omega) o7
    have u1 : (16 : Int) ≤ (N : Int) := by omega
    obtain ⟨g, cap, rfl, hc1, _⟩ := o7.form (by omega)
    obtain ⟨_, _, e7, hB7⟩ := Bs.of_own o7
    cases e7
    have hcap7 := hB7.cap
    have u2 : (16 : Int) ≤ (cap : Int) := by omega
    have u3 : ¬ cap = 16 := by omega
    have u4 : N ≤ 140737488350000 := by omega
    have HN := Lib.hid hN
    have u5 : 20 ≤ N := by omega
    have H7 := Lib.hid (And.intro o7 (And.intro b7 hB7))
    clear g7 b7 o7 hB7 hN d5 hw6 hs6
    go_wp2_with fail
    have hS : Below W.heap.size W w7.drew := H7.out.2.1.drew
    refine rg_begin (fun w' => Below W.heap.size W w') 8 (by kernel_rfl) rfl ?_
    refine rg_take 0 (v := ?rv12) rfl (by kernel_rfl) (by kernel_rfl) (by kernel_rfl) (fun _ _ _ h => h) (by rfl) hS (fun w2 hw2 => ?ry12) ?rr12
    case ry12 => ((try dsimp only at hw2); go_simp <;> with_reducible rfl)
    simp only [Act.put, List.setIfInBounds_toArray, List.set_cons_zero, List.set_cons_succ]
    refine rg_load 2 rfl (by kernel_rfl) (by kernel_rfl) (by kernel_rfl) ((w.heap.size+1)) 0 (adv sv sb) (fun _ _ _ h => h) (by rfl) 25 (.tmp 4) rfl rfl hS (fun w2 h2 => (AdBox.later HA.out.2.1 h2 (Nat.le_refl _)).range) Tryd.underlying25 rfl (ad_size sv HA.out.2.1.2) ?_
    simp only [Act.put, List.setIfInBounds_toArray, List.set_cons_zero, List.set_cons_succ]
    refine rg_load 3 rfl (by kernel_rfl) (by kernel_rfl) (by kernel_rfl) ((w.heap.size+1+1)) 0 (adv dv db) (fun _ _ _ h => h) (by rfl) 25 (.tmp 5) rfl rfl hS (fun w2 h2 => (AdBox.later HA.out.2.2.1 h2 (Nat.le_refl _)).range) Tryd.underlying25 rfl (ad_size dv HA.out.2.2.1.2) ?_
    simp only [Act.put, List.setIfInBounds_toArray, List.set_cons_zero, List.set_cons_succ]
    refine rg_take 4 (v := ?rv13) rfl (by kernel_rfl) (by kernel_rfl) (by kernel_rfl) (fun _ _ _ h => h) (by rfl) hS (fun w2 hw2 => ?ry13) ?rr13
    case ry13 => ((try dsimp only at hw2); go_simp <;> with_reducible rfl)
    simp only [Act.put, List.setIfInBounds_toArray, List.set_cons_zero, List.set_cons_succ]
    refine rg_take 1 (v := ?rv14) rfl (by kernel_rfl) (by kernel_rfl) (by kernel_rfl) (fun _ _ _ h => h) (by rfl) hS (fun w2 hw2 => ?ry14) ?rr14
    case ry14 => ((try dsimp only at hw2); go_simp <;> with_reducible rfl)
    simp only [Act.put, List.setIfInBounds_toArray, List.set_cons_zero, List.set_cons_succ]
    have ko := over_cks sv dv hsb hdb 6 (H7.out.2.2.later (Below.refl _ _).drew (Nat.le_refl _)) u4
    rw [show cks (aheadL sv sb db 6 N ++ (tcpH ⟨sp, dp, seq, ack, fl, pay⟩ 0 0 ++ pay)) = tcpK (aheadL sv sb db 6 N) ⟨sp, dp, seq, ack, fl, pay⟩ from rfl] at ko
    have hk16 : tcpK (aheadL sv sb db 6 N) ⟨sp, dp, seq, ack, fl, pay⟩ ≤ 65535 := cks_le _
    obtain ⟨k, hk0⟩ : ∃ k, tcpK (aheadL sv sb db 6 N) ⟨sp, dp, seq, ack, fl, pay⟩ = k := ⟨_, rfl⟩
    rw [hk0] at ko hk16
    have HK := Lib.hid hk0
    clear hk0
    refine rg_step 5 rfl (by kernel_rfl) (by rfl) (fun K hK => ?_)
    go_simp
    refine ko.mono ?_
    rintro e w8 ⟨rfl, g8⟩
    replace hS := hS.trans (g8.mono hS.size)
    have H8 := Lib.hid ((Below.refl w7.heap.size w7).drew.trans g8)
    clear g8 ko
    refine hK.out _ _ hS ?_
    clear hK K
    try simp only [Act.put, List.setIfInBounds_toArray, List.set_cons_zero, List.set_cons_succ]
    refine rg_step 6 rfl (by kernel_rfl) (by rfl) (fun K hK => ?_)
    go_simp
    refine (put16_any (Bs.nil _) k (by omega)).mono ?_
    rintro e w9 ⟨v9, rfl, o9, g9⟩
    rw [putn_nat hk16] at o9
    obtain ⟨A9, c9, rfl, hB9⟩ := Bs.of_own o9
    replace hS := hS.trans (g9.mono hS.size)
    have b79 := H8.out.trans (g9.mono H8.out.size)
    have o79 := own_kept H7.out.1 b79
    have H9 := Lib.hid (And.intro o79 hB9)
    clear o9 g9 b79 o79 hB9
    refine hK.out _ _ hS ?_
    clear hK K
    try simp only [Act.put, List.setIfInBounds_toArray, List.set_cons_zero, List.set_cons_succ]
    refine rg_step 7 rfl (by kernel_rfl) (by rfl) (fun K hK => ?_)
    refine wp_copy_own (.tmp 63) (.tmp 68) 22 rfl Tryd.underlying22 (by kernel_rfl) H9.out.1 rfl rfl H9.out.2 (by omega) (by omega) (by omega) ?_
    intro w10 o10 p10 b10
    rw [List.nil_append, tcpH_splice ⟨sp, dp, seq, ack, fl, pay⟩] at o10
    replace hS := b10 _ _ (Nat.le_refl _) hS
    have H10 := Lib.hid (And.intro o10 hS)
    clear o10 p10 b10
    refine hK.out _ _ hS ?_
    clear hK K
    try simp only [Act.put, List.setIfInBounds_toArray, List.set_cons_zero, List.set_cons_succ]
    refine rg_done (by kernel_rfl) ?_
    clear hS
    go_wp2_with fail
    go_ret2
    obtain ⟨_, _, e10, hB10⟩ := Bs.of_own H10.out.1
    cases e10
    rw [← HK.out, HN.out] at hB10
    rw [HN.out]
    exact bldT_yes HM.out hB10 (HA.out.2.2.2.trans (H10.out.2.mono HA.out.2.2.2.size))
end Go.Proofs.YtioonjgamdompaaDoor
