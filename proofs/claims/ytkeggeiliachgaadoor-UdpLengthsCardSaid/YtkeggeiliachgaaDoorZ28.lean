/-
  stockadehelp.Datagram at equal datagrams; stockadelaw09.mended; stockadelaw09.awake; what was built is parsed. Conditions: those of the slices; 2^47 bytes at most.
  A datagram's box: a number stored; a datagram without a sum, with another length, with a byte turned, parsed. Conditions: those of the slice; 2^47 bytes at most.
  stockaderef01.BuildUdp: the document's own answers on what is built. Conditions: those of the slice; 2^47 bytes at most.
-/
import Derived.Test.YtkeggeiliachgaaDoorZ27
import Derived.Test.YtkeggeiliachgaaDoorZ26
import Derived.Test.YtkeggeiliachgaaDoorZ15
import Derived.Test.YtkeggeiliachgaaDoorZ02
import Derived.Test.YtkeggeiliachgaaDoorZ18
import Derived.Test.YtkeggeiliachgaaDoorZ16
namespace Go.Proofs.YtkeggeiliachgaaDoor
open Go.RowKit
set_option maxRecDepth 100000

set_option maxHeartbeats 1000000 in
theorem datagram_same {A B : Option Addr} {n c m d : Nat} {s : Dg} {w : World} (ha : Bs w A n c s.pay) (hb : Bs w B m d s.pay) : Calls Tryd.prog 12 #[.agg (dgv s A n c), .agg (dgv s B m d)] w fun e w' => e = .returned (.bool true) ∧ Below w.heap.size w w' := by
  have s0 := DgBox.new w s A n c
  have b0 : Below w.heap.size w (w.alloc (.cells (dgv s A n c) 27)) := (Below.refl _ _).alloc (Nat.le_refl _) _
  have s1 := DgBox.new (w.alloc (.cells (dgv s A n c) 27)) s B m d
  have b1 := Below.alloc (Below.refl (w.alloc (.cells (dgv s A n c) 27)).heap.size _) (Nat.le_refl _) (.cells (dgv s B m d) 27)
  have hA := And.intro (s0.later b1 (Nat.le_refl _)) (And.intro s1 (b0.trans (b1.mono b0.size)))
  simp only [World.size_alloc] at hA
  obtain ⟨W, hW⟩ : ∃ W, (w.alloc (.cells (dgv s A n c) 27)).alloc (.cells (dgv s B m d) 27) = W := ⟨_, rfl⟩
  rw [hW] at hA
  have K := Lib.hid (bytes_same (ha.later hA.2.2 (Nat.le_refl _)) (hb.later hA.2.2 (Nat.le_refl _)))
  have HA := Lib.hid hA
  unfold dgv at hW
  have HW := Lib.hid hW
  have d0 := hA.1.cell 0
  have d1 := hA.1.cell 1
  have d2 := hA.1.cell 2
  have e0 := hA.2.1.cell 0
  have e1 := hA.2.1.cell 1
  have e2 := hA.2.1.cell 2
  clear b0 s0 s1 b1 hA hW ha hb
  obtain ⟨sp, dp, pay⟩ := s
  dsimp only [dgv] at d0 d1 d2 e0 e1 e2
  simp only [List.getElem?_toArray, List.getElem?_cons_zero, List.getElem?_cons_succ] at d0 d1 d2 e0 e1 e2
  unfold dgv
  dsimp only
  go_enter Tryd.func12, Tryd.ntmps12
  go_wp2_with (first | (rw [HW.out]; go_at_call 14; refine K.out.mono ?_; rintro e w' ⟨rfl, rfl⟩) | (go_at_call 14; refine K.out.mono ?_; rintro e w' ⟨rfl, rfl⟩))
  go_ret
  exact ⟨rfl, HA.out.2.2⟩

theorem setU4 (l : List UInt8) (x y u v : UInt8) : ((((l.set 6 x).set 7 y).set 6 u).set 7 v) = (l.set 6 u).set 7 v := by
  rw [List.set_comm _ _ (show 7 ≠ 6 by decide), List.set_set, List.set_set]
set_option maxHeartbeats 4000000 in
theorem mendedU_any {A : Option Addr} {n c : Nat} {l : List UInt8} {w : World} (hb : Bs w A n c l) (h47 : n ≤ 140737488350000) (sv dv : Bool) {sb db : List UInt8} (hsb : sb.length = 16) (hdb : db.length = 16) :
    Calls Tryd.prog 9 #[.slice A n c, .agg (adv sv sb), .agg (adv dv db)] w fun e w' => ∃ A' c', e = .returned (.slice A' n c') ∧ Bs w' A' n c' (mendU (aheadL sv sb db 17) l n) ∧ Below w.heap.size w w' := by
  have hl := hb.len
  have A1 := AdBox.new w sv hsb
  have B1 : Below w.heap.size w (w.alloc (.cells (adv sv sb) 25)) := (Below.refl _ _).alloc (Nat.le_refl _) _
  have A2 := AdBox.new (w.alloc (.cells (adv sv sb) 25)) dv hdb
  rw [World.size_alloc] at A2
  have B2 : Below (w.heap.size + 1) (w.alloc (.cells (adv sv sb) 25)) ((w.alloc (.cells (adv sv sb) 25)).alloc (.cells (adv dv db) 25)) := (Below.refl _ _).alloc (by simp) _
  have hA := And.intro (A1.later B2 (by simp)) (And.intro A2 (B1.trans (B2.mono (by omega))))
  obtain ⟨W, hW⟩ : ∃ W, (w.alloc (.cells (adv sv sb) 25)).alloc (.cells (adv dv db) 25) = W := ⟨_, rfl⟩
  rw [hW] at hA
  have HB := Lib.hid (hb.later hA.2.2 (Nat.le_refl _))
  have HA := Lib.hid hA
  have HW := Lib.hid hW
  clear A1 B1 A2 B2 hA hW hb
  unfold mendU
  by_cases hs : n < 8
  · rw [if_pos hs]
    go_enter Tryd.func9, Tryd.ntmps9
    go_wp2_with (at_builtin; rw [HW.out]; refine wpList_append_bs rfl (.const (.slice none 0 0)) (.tmp 10) 22 rfl W.heap.size 5 info5 Tryd.underlying22 _ 0 [] rfl (World.ownsRow_nil _ _ _ _) A n c l rfl HB.out (by omega) (Nat.le_refl _) ?_; intro v1 w1 o1 g1 _ _; have b1 : Below W.heap.size W w1 := (Below.refl _ W).grown g1 (Nat.le_refl _) (fun q hq => by cases hq); replace o1 := owns_n (n' := n) (by omega) o1; rw [List.nil_append] at o1; obtain ⟨A1, c1, rfl, hB1⟩ := Bs.of_own o1; have H1 := Lib.hid (And.intro hB1 (HA.out.2.2.trans (b1.mono HA.out.2.2.size))); clear o1 g1 b1 hB1)
    go_ret
    exact ⟨A1, c1, rfl, H1.out⟩
  rw [if_neg hs]
  have hs' : ¬ (n : Int) < 8 := by omega
  obtain ⟨p4, hp4, hv4⟩ := bat_some hl (i := 4) (by omega)
  obtain ⟨p5, hp5, hv5⟩ := bat_some hl (i := 5) (by omega)
  have hp4l := p4.toNat_lt
  have hp5l := p5.toNat_lt
  have hk0 : num2 l 4 = p4.toNat * 256 + p5.toNat := by rw [num2_bat (by omega), hv4, hv5]
  have hor := i64_or_byte p4.toNat p5.toNat (by omega) hp5l
  obtain ⟨k, hk⟩ : ∃ k, num2 l 4 = k := ⟨_, rfl⟩
  rw [hk] at hk0 ⊢
  rw [show ((p4.toNat : Int) * 256 + p5.toNat) = (k : Int) by omega] at hor
  have hor2 : bits .or .i64 (IntKind.i64.wrap (IntKind.i64.wrap (p4.toNat : Int) * 256)) (IntKind.i64.wrap (p5.toNat : Int)) = (k : Int) := by
    rw [show IntKind.i64.wrap (p4.toNat : Int) = p4.toNat by rw [IntKind.wrap_i64]; omega, show IntKind.i64.wrap ((p4.toNat : Int) * 256) = (p4.toNat : Int) * 256 by rw [IntKind.wrap_i64]; omega, show IntKind.i64.wrap (p5.toNat : Int) = p5.toNat by rw [IntKind.wrap_i64]; omega]
    exact hor
  have HOR := Lib.hid hor2
  clear hor2
  have HP := Lib.hid (And.intro hp4 hp5)
  have v1 : (4 : Int) < n := by omega
  have v2 : (5 : Int) < n := by omega
  clear hv4 hv5 hk hk0 hp4 hp5
  by_cases hbad : k < 8 ∨ n < k
  · rw [if_pos hbad]
    have q8 : (k : Int) < 8 ∨ (¬ (k : Int) < 8 ∧ (n : Int) < (k : Int)) := by omega
    clear hbad
    · go_enter Tryd.func9, Tryd.ntmps9
      go_wp2_with (at_builtin; rw [HW.out]; refine wpList_append_bs rfl (.const (.slice none 0 0)) (.tmp 10) 22 rfl W.heap.size 5 info5 Tryd.underlying22 _ 0 [] rfl (World.ownsRow_nil _ _ _ _) A n c l rfl HB.out (by omega) (Nat.le_refl _) ?_; intro v1 w1 o1 g1 _ _; have b1 : Below W.heap.size W w1 := (Below.refl _ W).grown g1 (Nat.le_refl _) (fun q hq => by cases hq); replace o1 := owns_n (n' := n) (by omega) o1; rw [List.nil_append] at o1; obtain ⟨g, cap, rfl, _, hgl⟩ := o1.form (by omega); obtain ⟨⟨_, e4, hc4⟩, _⟩ := own_cell o1 (j := 4) (by omega); obtain ⟨⟨_, e5, hc5⟩, _⟩ := own_cell o1 (j := 5) (by omega); (rw [HP.out.1] at e4); cases e4; (rw [HP.out.2] at e5); cases e5; have rc4 : ∀ w', Below w1.heap.size w1 w' → w'.cell? ⟨g, 4, none⟩ = some (.int .u8 p4.toNat) := fun w' h => (h.cell hgl).trans hc4; have rc5 : ∀ w', Below w1.heap.size w1 w' → w'.cell? ⟨g, 5, none⟩ = some (.int .u8 p5.toNat) := fun w' h => (h.cell hgl).trans hc5; have H1 := Lib.hid (And.intro o1 b1); clear o1 g1 b1 hc4 hc5 hgl)
      have hS : Below w1.heap.size w1 w1.drew := (Below.refl _ _).drew
      have o2 := own_kept H1.out.1 hS
      have b2 := H1.out.2.trans (hS.mono H1.out.2.size)
      refine rg_begin (fun w' => Below w1.heap.size w1 w') 11 (by kernel_rfl) rfl ?_
      obtain ⟨w2, hw2⟩ : ∃ w2, w1.drew = w2 := ⟨_, rfl⟩
      rw [hw2] at hS o2 b2 ⊢
      clear hw2
      refine rg_take 0 (v := ?rv1) rfl (by kernel_rfl) (by kernel_rfl) (by kernel_rfl) (fun _ _ _ h => h) (by rfl) hS (fun w2 hw2 => ?ry1) ?rr1
      case ry1 => ((try dsimp only at hw2); go_simp <;> with_reducible rfl)
      simp only [Act.put, List.setIfInBounds_toArray, List.set_cons_zero, List.set_cons_succ]
      refine rg_take 5 (v := ?rv2) rfl (by kernel_rfl) (by kernel_rfl) (by kernel_rfl) (fun _ _ _ h => h) (by rfl) hS (fun w2 hw2 => ?ry2) ?rr2
      case ry2 => ((try dsimp only at hw2); go_simp <;> with_reducible rfl)
      simp only [Act.put, List.setIfInBounds_toArray, List.set_cons_zero, List.set_cons_succ]
      refine rg_take 1 (v := ?rv3) rfl (by kernel_rfl) (by kernel_rfl) (by kernel_rfl) (fun _ _ _ h => h) (by rfl) hS (fun w2 hw2 => ?ry3) ?rr3
      case ry3 => ((try dsimp only at hw2); go_simp <;> with_reducible rfl)
      simp only [Act.put, List.setIfInBounds_toArray, List.set_cons_zero, List.set_cons_succ]
      refine rg_take 6 (v := ?rv4) rfl (by kernel_rfl) (by kernel_rfl) (by kernel_rfl) (fun _ _ _ h => h) (by rfl) hS (fun w2 hw2 => ?ry4) ?rr4
      case ry4 => ((try dsimp only at hw2); go_simp <;> with_reducible rfl)
      simp only [Act.put, List.setIfInBounds_toArray, List.set_cons_zero, List.set_cons_succ]
      refine rg_take 2 (v := ?rv5) rfl (by kernel_rfl) (by kernel_rfl) (by kernel_rfl) (fun _ _ _ h => h) (by rfl) hS (fun w2 hw2 => ?ry5) ?rr5
      case ry5 => ((try dsimp only at hw2); go_simp <;> with_reducible rfl)
      simp only [Act.put, List.setIfInBounds_toArray, List.set_cons_zero, List.set_cons_succ]
      refine rg_take 7 (v := ?rv6) rfl (by kernel_rfl) (by kernel_rfl) (by kernel_rfl) (fun _ _ _ h => h) (by rfl) hS (fun w2 hw2 => ?ry6) ?rr6
      case ry6 => ((try dsimp only at hw2); go_simp <;> with_reducible rfl)
      simp only [Act.put, List.setIfInBounds_toArray, List.set_cons_zero, List.set_cons_succ]
      refine rg_take 3 (v := ?rv7) rfl (by kernel_rfl) (by kernel_rfl) (by kernel_rfl) (fun _ _ _ h => h) (by rfl) hS (fun w2 hw2 => ?ry7) ?rr7
      case ry7 => ((try dsimp only at hw2); go_simp <;> with_reducible rfl)
      simp only [Act.put, List.setIfInBounds_toArray, List.set_cons_zero, List.set_cons_succ]
      refine rg_take 8 (v := ?rv8) rfl (by kernel_rfl) (by kernel_rfl) (by kernel_rfl) (fun _ _ _ h => h) (by rfl) hS (fun w2 hw2 => ?ry8) ?rr8
      case ry8 => ((try dsimp only at hw2); go_simp <;> with_reducible rfl)
      simp only [Act.put, List.setIfInBounds_toArray, List.set_cons_zero, List.set_cons_succ]
      refine rg_take 4 (v := ?rv9) rfl (by kernel_rfl) (by kernel_rfl) (by kernel_rfl) (fun _ _ _ h => h) (by rfl) hS (fun w2 hw2 => ?ry9) ?rr9
      case ry9 => ((try dsimp only at hw2); go_simp <;> with_reducible rfl)
      simp only [Act.put, List.setIfInBounds_toArray, List.set_cons_zero, List.set_cons_succ]
      refine rg_take 9 (v := ?rv10) rfl (by kernel_rfl) (by kernel_rfl) (by kernel_rfl) (fun _ _ _ h => h) (by rfl) hS (fun w2 hw2 => ?ry10) ?rr10
      case ry10 => ((try dsimp only at hw2); go_simp <;> with_reducible rfl)
      simp only [Act.put, List.setIfInBounds_toArray, List.set_cons_zero, List.set_cons_succ]
      rw [HOR.out]
      refine rg_take 10 (v := ?rv11) rfl (by kernel_rfl) (by kernel_rfl) (by kernel_rfl) (fun _ _ _ h => h) (by rfl) hS (fun w2 hw2 => ?ry11) ?rr11
      case ry11 => ((try dsimp only at hw2); go_simp <;> with_reducible rfl)
      simp only [Act.put, List.setIfInBounds_toArray, List.set_cons_zero, List.set_cons_succ]
      refine rg_done (by kernel_rfl) ?_
      clear hS rc4 rc5
      obtain ⟨_, _, ee, hB1⟩ := Bs.of_own o2
      cases ee
      have H2 := Lib.hid (And.intro hB1 (HA.out.2.2.trans (b2.mono HA.out.2.2.size)))
      clear o2 b2 hB1
      rcases q8 with q8 | ⟨q8, q9⟩
      all_goals
        go_wp2_with fail
        go_ret
        exact ⟨_, _, rfl, H2.out⟩
  · rw [if_neg hbad]
    have q8 : ¬ (k : Int) < 8 := by omega
    have q9 : ¬ (n : Int) < (k : Int) := by omega
    have hkn : k ≤ n := by omega
    clear hbad hs
    have u1 : (6 : Int) < n := by omega
    have u2 : (7 : Int) < n := by omega
    have hk16 : cks (aheadL sv sb db 17 k ++ ((l.set 6 0).set 7 0).take k) ≤ 65535 := cks_le _
    generalize hv0 : cks (aheadL sv sb db 17 k ++ ((l.set 6 0).set 7 0).take k) = v at hk16 ⊢
    have HV := Lib.hid hv0
    clear hv0
    go_enter Tryd.func9, Tryd.ntmps9
    go_wp2_with (at_builtin; rw [HW.out]; refine wpList_append_bs rfl (.const (.slice none 0 0)) (.tmp 10) 22 rfl W.heap.size 5 info5 Tryd.underlying22 _ 0 [] rfl (World.ownsRow_nil _ _ _ _) A n c l rfl HB.out (by omega) (Nat.le_refl _) ?_; intro v1 w1 o1 g1 _ _; have b1 : Below W.heap.size W w1 := (Below.refl _ W).grown g1 (Nat.le_refl _) (fun q hq => by cases hq); replace o1 := owns_n (n' := n) (by omega) o1; rw [List.nil_append] at o1; obtain ⟨g, cap, rfl, _, hgl⟩ := o1.form (by omega); obtain ⟨⟨_, e4, hc4⟩, _⟩ := own_cell o1 (j := 4) (by omega); obtain ⟨⟨_, e5, hc5⟩, _⟩ := own_cell o1 (j := 5) (by omega); (rw [HP.out.1] at e4); cases e4; (rw [HP.out.2] at e5); cases e5; have rc4 : ∀ w', Below w1.heap.size w1 w' → w'.cell? ⟨g, 4, none⟩ = some (.int .u8 p4.toNat) := fun w' h => (h.cell hgl).trans hc4; have rc5 : ∀ w', Below w1.heap.size w1 w' → w'.cell? ⟨g, 5, none⟩ = some (.int .u8 p5.toNat) := fun w' h => (h.cell hgl).trans hc5; have H1 := Lib.hid (And.intro o1 b1); clear o1 g1 b1 hc4 hc5 hgl)
    have hS : Below w1.heap.size w1 w1.drew := (Below.refl _ _).drew
    have o2 := own_kept H1.out.1 hS
    have b2 := H1.out.2.trans (hS.mono H1.out.2.size)
    refine rg_begin (fun w' => Below w1.heap.size w1 w') 11 (by kernel_rfl) rfl ?_
    obtain ⟨w2, hw2⟩ : ∃ w2, w1.drew = w2 := ⟨_, rfl⟩
    rw [hw2] at hS o2 b2 ⊢
    clear hw2
    refine rg_take 0 (v := ?rv12) rfl (by kernel_rfl) (by kernel_rfl) (by kernel_rfl) (fun _ _ _ h => h) (by rfl) hS (fun w2 hw2 => ?ry12) ?rr12
    case ry12 => ((try dsimp only at hw2); go_simp <;> with_reducible rfl)
    simp only [Act.put, List.setIfInBounds_toArray, List.set_cons_zero, List.set_cons_succ]
    refine rg_take 5 (v := ?rv13) rfl (by kernel_rfl) (by kernel_rfl) (by kernel_rfl) (fun _ _ _ h => h) (by rfl) hS (fun w2 hw2 => ?ry13) ?rr13
    case ry13 => ((try dsimp only at hw2); go_simp <;> with_reducible rfl)
    simp only [Act.put, List.setIfInBounds_toArray, List.set_cons_zero, List.set_cons_succ]
    refine rg_take 1 (v := ?rv14) rfl (by kernel_rfl) (by kernel_rfl) (by kernel_rfl) (fun _ _ _ h => h) (by rfl) hS (fun w2 hw2 => ?ry14) ?rr14
    case ry14 => ((try dsimp only at hw2); go_simp <;> with_reducible rfl)
    simp only [Act.put, List.setIfInBounds_toArray, List.set_cons_zero, List.set_cons_succ]
    refine rg_take 6 (v := ?rv15) rfl (by kernel_rfl) (by kernel_rfl) (by kernel_rfl) (fun _ _ _ h => h) (by rfl) hS (fun w2 hw2 => ?ry15) ?rr15
    case ry15 => ((try dsimp only at hw2); go_simp <;> with_reducible rfl)
    simp only [Act.put, List.setIfInBounds_toArray, List.set_cons_zero, List.set_cons_succ]
    refine rg_take 2 (v := ?rv16) rfl (by kernel_rfl) (by kernel_rfl) (by kernel_rfl) (fun _ _ _ h => h) (by rfl) hS (fun w2 hw2 => ?ry16) ?rr16
    case ry16 => ((try dsimp only at hw2); go_simp <;> with_reducible rfl)
    simp only [Act.put, List.setIfInBounds_toArray, List.set_cons_zero, List.set_cons_succ]
    refine rg_take 7 (v := ?rv17) rfl (by kernel_rfl) (by kernel_rfl) (by kernel_rfl) (fun _ _ _ h => h) (by rfl) hS (fun w2 hw2 => ?ry17) ?rr17
    case ry17 => ((try dsimp only at hw2); go_simp <;> with_reducible rfl)
    simp only [Act.put, List.setIfInBounds_toArray, List.set_cons_zero, List.set_cons_succ]
    refine rg_take 3 (v := ?rv18) rfl (by kernel_rfl) (by kernel_rfl) (by kernel_rfl) (fun _ _ _ h => h) (by rfl) hS (fun w2 hw2 => ?ry18) ?rr18
    case ry18 => ((try dsimp only at hw2); go_simp <;> with_reducible rfl)
    simp only [Act.put, List.setIfInBounds_toArray, List.set_cons_zero, List.set_cons_succ]
    refine rg_take 8 (v := ?rv19) rfl (by kernel_rfl) (by kernel_rfl) (by kernel_rfl) (fun _ _ _ h => h) (by rfl) hS (fun w2 hw2 => ?ry19) ?rr19
    case ry19 => ((try dsimp only at hw2); go_simp <;> with_reducible rfl)
    simp only [Act.put, List.setIfInBounds_toArray, List.set_cons_zero, List.set_cons_succ]
    refine rg_take 4 (v := ?rv20) rfl (by kernel_rfl) (by kernel_rfl) (by kernel_rfl) (fun _ _ _ h => h) (by rfl) hS (fun w2 hw2 => ?ry20) ?rr20
    case ry20 => ((try dsimp only at hw2); go_simp <;> with_reducible rfl)
    simp only [Act.put, List.setIfInBounds_toArray, List.set_cons_zero, List.set_cons_succ]
    refine rg_take 9 (v := ?rv21) rfl (by kernel_rfl) (by kernel_rfl) (by kernel_rfl) (fun _ _ _ h => h) (by rfl) hS (fun w2 hw2 => ?ry21) ?rr21
    case ry21 => ((try dsimp only at hw2); go_simp <;> with_reducible rfl)
    simp only [Act.put, List.setIfInBounds_toArray, List.set_cons_zero, List.set_cons_succ]
    rw [HOR.out]
    refine rg_take 10 (v := ?rv22) rfl (by kernel_rfl) (by kernel_rfl) (by kernel_rfl) (fun _ _ _ h => h) (by rfl) hS (fun w2 hw2 => ?ry22) ?rr22
    case ry22 => ((try dsimp only at hw2); go_simp <;> with_reducible rfl)
    simp only [Act.put, List.setIfInBounds_toArray, List.set_cons_zero, List.set_cons_succ]
    refine rg_done (by kernel_rfl) ?_
    clear hS rc4 rc5
    obtain ⟨⟨p6, _, hc6⟩, hf6⟩ := own_cell o2 (j := 6) (by omega)
    obtain ⟨⟨p7, _, hc7⟩, hf7⟩ := own_cell o2 (j := 7) (by omega)
    obtain ⟨_, _, ee, hB1⟩ := Bs.of_own o2
    cases ee
    have hcap1 := hB1.cap
    have q7 : (k : Int) ≤ (cap : Int) := by omega
    obtain ⟨s1, s2⟩ := own_put o2 b2 (Nat.le_refl _) 6 (.int .u8 0) 0 rfl
    obtain ⟨s3, s4⟩ := own_put s1 s2 (Nat.le_refl _) 7 (.int .u8 0) 0 rfl
    have H2 := Lib.hid (And.intro s3 (And.intro s4 (And.intro (HA.out.1.later s4 (Nat.le_refl _)) (HA.out.2.1.later s4 (Nat.le_refl _)))))
    clear o2 b2 s1 s2 s3 s4 hB1 hcap1
    go_wp2_with fail
    generalize (w2.setCell ⟨g, 6, none⟩ (.int .u8 0)).setCell ⟨g, 7, none⟩ (.int .u8 0) = w3 at H2 ⊢
    clear hc6 hf6 hc7 hf7
    have hS : Below w3.heap.size w3 w3.drew := (Below.refl _ _).drew
    refine rg_begin (fun w' => Below w3.heap.size w3 w') 7 (by kernel_rfl) rfl ?_
    refine rg_load 0 rfl (by kernel_rfl) (by kernel_rfl) (by kernel_rfl) (w.heap.size) 0 (adv sv sb) (fun _ _ _ h => h) (by rfl) 25 (.tmp 4) rfl rfl hS (fun w2 h2 => (AdBox.later H2.out.2.2.1 h2 (Nat.le_refl _)).range) Tryd.underlying25 rfl (ad_size sv H2.out.2.2.1.2) ?_
    simp only [Act.put, List.setIfInBounds_toArray, List.set_cons_zero, List.set_cons_succ]
    refine rg_load 1 rfl (by kernel_rfl) (by kernel_rfl) (by kernel_rfl) ((w.heap.size+1)) 0 (adv dv db) (fun _ _ _ h => h) (by rfl) 25 (.tmp 5) rfl rfl hS (fun w2 h2 => (AdBox.later H2.out.2.2.2 h2 (Nat.le_refl _)).range) Tryd.underlying25 rfl (ad_size dv H2.out.2.2.2.2) ?_
    simp only [Act.put, List.setIfInBounds_toArray, List.set_cons_zero, List.set_cons_succ]
    refine rg_take 2 (v := ?rv23) rfl (by kernel_rfl) (by kernel_rfl) (by kernel_rfl) (fun _ _ _ h => h) (by rfl) hS (fun w2 hw2 => ?ry23) ?rr23
    case ry23 => ((try dsimp only at hw2); go_simp <;> with_reducible rfl)
    simp only [Act.put, List.setIfInBounds_toArray, List.set_cons_zero, List.set_cons_succ]
    refine rg_take 3 (v := ?rv24) rfl (by kernel_rfl) (by kernel_rfl) (by kernel_rfl) (fun _ _ _ h => h) (by rfl) hS (fun w2 hw2 => ?ry24) ?rr24
    case ry24 => ((try dsimp only at hw2); go_simp <;> with_reducible rfl)
    simp only [Act.put, List.setIfInBounds_toArray, List.set_cons_zero, List.set_cons_succ]
    refine rg_take 4 (v := ?rv25) rfl (by kernel_rfl) (by kernel_rfl) (by kernel_rfl) (fun _ _ _ h => h) (by rfl) hS (fun w2 hw2 => ?ry25) ?rr25
    case ry25 => ((try dsimp only at hw2); go_simp <;> with_reducible rfl)
    simp only [Act.put, List.setIfInBounds_toArray, List.set_cons_zero, List.set_cons_succ]
    refine rg_step 5 rfl (by kernel_rfl) (by rfl) (fun K hK => ?_)
    go_simp
    obtain ⟨A2, c2, e2, hB2⟩ := Bs.of_own H2.out.1
    cases e2
    have ko := ref_over sv dv sb db hsb hdb 17 ((hB2.first hkn).later hS (Nat.le_refl _)) (by omega)
    rw [HV.out] at ko
    refine ko.mono ?_
    rintro e w4 ⟨rfl, g4⟩
    replace hS := hS.trans (g4.mono hS.size)
    have o3 := own_kept H2.out.1 hS
    obtain ⟨⟨p', _, hcp'⟩, hfp'⟩ := own_cell o3 (j := 6) (by omega)
    obtain ⟨⟨q', _, hcq'⟩, hfq'⟩ := own_cell o3 (j := 7) (by omega)
    have H3 := Lib.hid (And.intro o3 (H2.out.2.1.trans (hS.mono H2.out.2.1.size)))
    clear ko g4 o3 hB2
    refine hK.out _ _ hS ?_
    clear hK K
    try simp only [Act.put, List.setIfInBounds_toArray, List.set_cons_zero, List.set_cons_succ]
    refine rg_take 6 (v := ?rv26) rfl (by kernel_rfl) (by kernel_rfl) (by kernel_rfl) (fun _ _ _ h => h) (by rfl) hS (fun w2 hw2 => ?ry26) ?rr26
    case ry26 => ((try dsimp only at hw2); go_simp <;> with_reducible rfl)
    simp only [Act.put, List.setIfInBounds_toArray, List.set_cons_zero, List.set_cons_succ]
    refine rg_done (by kernel_rfl) ?_
    clear hS
    go_wp2_with fail
    obtain ⟨s1, s2⟩ := own_put H3.out.1 H3.out.2 (Nat.le_refl _) 6 (.int .u8 ((v : Int) / 256)) (UInt8.ofNat (v / 256)) (congrArg (Value.int IntKind.u8) (by simp only [UInt8.toNat_ofNat']; omega))
    obtain ⟨s3, s4⟩ := own_put s1 s2 (Nat.le_refl _) 7 (.int .u8 ((v : Int) % 256)) (UInt8.ofNat (v % 256)) (congrArg (Value.int IntKind.u8) (by simp only [UInt8.toNat_ofNat']; omega))
    obtain ⟨_, _, e3, hB⟩ := Bs.of_own s3
    cases e3
    rw [setU4] at hB
    go_ret
    exact ⟨_, _, rfl, hB, HA.out.2.2.trans (s4.mono HA.out.2.2.size)⟩
/-- What was built is parsed, with what stands behind it, too. -/
theorem parseU_built {A : Option Addr} {n c : Nat} {w : World} {s : Dg} {sv dv : Bool} {sb db : List UInt8} (hsb : sb.length = 16) (hdb : db.length = 16) (hm : mayD s) {m : Nat} {r : List UInt8} (hmn : m = 8 + s.pay.length) (hr : r.length ≤ 100000) (hb : Bs w A n c (udpB (aheadL sv sb db 17 m) s ++ r)) :
    Calls Tryd.prog 7 #[.slice A n c, .agg (adv sv sb), .agg (adv dv db)] w (ParU (s, ⟨0, 0, false⟩) w) := by
  subst hmn
  have h4 := hm.2.2
  have hn := hb.len
  rw [List.length_append, udpB_length] at hn
  have k := parse_udp hb (by omega) sv dv hsb hdb
  rw [udpO_built hm (aheadL sv sb db 17) (ahead_even sv hsb hdb 17) r, udpv_built hm _ sv r hn.symm] at k
  exact k
/-- Where it may be built. -/
theorem buildU_ok {A : Option Addr} {n c : Nat} {w : World} {s : Dg} (hm : mayD s) (hb : Bs w A n c s.pay) (sv dv : Bool) {sb db : List UInt8} (hsb : sb.length = 16) (hdb : db.length = 16) :
    Calls Tryd.prog 10 #[.agg (dgv s A n c), .agg (adv sv sb), .agg (adv dv db)] w fun e w' => ∃ A' c', e = .returned (.tuple #[.slice A' (8 + n) c', .nilIface]) ∧ Bs w' A' (8 + n) c' (udpB (aheadL sv sb db 17 (8 + n)) s) ∧ Below w.heap.size w w' := by
  refine (build_udp hb sv dv hsb hdb).mono ?_
  rintro e w' ⟨A', n', c', v, rfl, hB, t, b⟩
  unfold bldue at t
  unfold bldu at hB
  rw [if_pos hm] at t hB
  obtain rfl := Tells.none' t rfl
  obtain rfl : n' = 8 + n := by rw [← hB.len, udpB_length, hb.len]
  exact ⟨A', c', rfl, hB, b⟩
set_option maxHeartbeats 1000000 in
theorem awake09 (w : World) : Calls Tryd.prog 6 #[] w fun e w' => e = .returned (.bool true) ∧ Below w.heap.size w w' := by
  have hm : mayD ⟨5, 6, [7]⟩ := by refine ⟨?_, ?_, ?_⟩ <;> decide
  have z0 : Bs (w.alloc (.cells #[.int .u8 7] 5)) (some ⟨w.heap.size, 0, none⟩) 1 1 [7] := Bs.lit w [7] 1 rfl (by unfold maxLen; omega) #[.int .u8 7] rfl 5
  have b0 : Below w.heap.size w (w.alloc (.cells #[.int .u8 7] 5)) := (Below.refl _ _).alloc (Nat.le_refl _) _
  have k1 := buildU_ok (s := ⟨5, 6, [7]⟩) hm z0 false false (sb := zad) (db := zad) rfl rfl
  have K1 := Lib.hid k1
  have HM := Lib.hid hm
  have H0 := Lib.hid b0
  clear k1 hm z0 b0
  go_enter Tryd.func6, Tryd.ntmps6
  go_wp2_with fail
  refine K1.out.mono ?_
  rintro e w1 ⟨A1, c1, rfl, hb1, b1⟩
  have H1 := Lib.hid (And.intro hb1 (H0.out.trans (b1.mono H0.out.size)))
  clear hb1 b1
  go_wp2_with fail
  have k2 := parseU_built (dv := false) (s := ⟨5, 6, [7]⟩) (r := []) rfl rfl HM.out rfl (by simp) (by rw [List.append_nil]; exact H1.out.1)
  refine k2.mono ?_
  rintro e w2 ⟨A2, n2, c2, v2, rfl, hb2, t2, b2⟩
  obtain rfl := Tells.none' t2 rfl
  obtain rfl : n2 = 1 := hb2.len.symm
  have H2 := Lib.hid (H1.out.2.trans (b2.mono H1.out.2.size))
  clear k2 t2 b2 hb2
  go_wp2_with (first
    | (refine wpList_alloc_dg rfl rfl ?_; intro w3 a3 b3 z3; have H3 := Lib.hid (And.intro a3 (And.intro (H2.out.trans (b3.mono H2.out.size)) b3)); clear a3 b3 z3)
    | (refine wpList_store_dg rfl (.tmp 3) (.tmp 18) rfl ⟨5, 6, [7]⟩ A2 1 c2 rfl rfl H3.out.1 ?_; intro w4 a4 o4 z4 b4; have c0 := a4.cell 0; have c1 := a4.cell 2; dsimp only [dgv] at c0 c1; simp only [List.getElem?_toArray, List.getElem?_cons_zero, List.getElem?_cons_succ] at c0 c1; have H4 := Lib.hid (b4 w.heap.size w H2.out.size H3.out.2.1); clear a4 o4 z4 b4))
  go_ret
  exact ⟨rfl, H4.out⟩
end Go.Proofs.YtkeggeiliachgaaDoor

namespace Go.Proofs.YtkeggeiliachgaaDoor
open Go.RowKit
set_option maxRecDepth 100000

theorem DgBox.putSp {w : World} {g : Nat} {sp dp : Int} {pay : List UInt8} {A : Option Addr} {n c : Nat} (h : DgBox w g ⟨sp, dp, pay⟩ A n c) (v : Int) : DgBox (w.setCell ⟨g, 0, none⟩ (.int .i64 v)) g ⟨v, dp, pay⟩ A n c := by
  unfold DgBox at h ⊢
  rw [setCell_eq_setRow w g 0 _ _ _ _ h]
  exact setRow_heap w g _ _ _ _ h
theorem DgBox.putDp {w : World} {g : Nat} {sp dp : Int} {pay : List UInt8} {A : Option Addr} {n c : Nat} (h : DgBox w g ⟨sp, dp, pay⟩ A n c) (v : Int) : DgBox (w.setCell ⟨g, 1, none⟩ (.int .i64 v)) g ⟨sp, v, pay⟩ A n c := by
  unfold DgBox at h ⊢
  rw [setCell_eq_setRow w g 1 _ _ _ _ h]
  exact setRow_heap w g _ _ _ _ h
/-- Without a sum. -/
theorem parseU_none {A : Option Addr} {n c : Nat} {w : World} {s : Dg} {sv dv : Bool} {sb db ah : List UInt8} (hsb : sb.length = 16) (hdb : db.length = 16) (hm : mayD s) (hn : n = 8 + s.pay.length) (hb : Bs w A n c (((udpB ah s).set 6 0).set 7 0)) :
    Calls Tryd.prog 7 #[.slice A n c, .agg (adv sv sb), .agg (adv dv db)] w (ParU (if sv = true then (.zero, ⟨8, 6, true⟩) else (s, ⟨0, 0, false⟩)) w) := by
  have h4 := hm.2.2
  have k := parse_udp hb (by omega) sv dv hsb hdb
  rw [udpv_none hm ah sv _ hn] at k
  exact k
/-- With another length, and its sum as it should be. -/
theorem parseU_bad {A : Option Addr} {n c k : Nat} {w : World} {s : Dg} {ah : List UInt8} (hm : mayD s) (hn : n = 8 + s.pay.length) {u v : UInt8} (hk : u.toNat * 256 + v.toNat = k) (h : k < 8 ∨ n < k) (hb : Bs w A n c (mendU (aheadL false zad zad 17) (((udpB ah s).set 4 u).set 5 v) n)) :
    Calls Tryd.prog 7 #[.slice A n c, .agg (adv false zad), .agg (adv false zad)] w (ParU (.zero, ⟨7, 4, true⟩) w) := by
  have h4 := hm.2.2
  have q := parse_udp hb (by omega) false false (sb := zad) (db := zad) rfl rfl
  rw [udpv_len_bad false _ (aheadL false zad zad 17) hn hk h] at q
  exact q
theorem parseU_cut {A : Option Addr} {n c k : Nat} {w : World} {s : Dg} {ah : List UInt8} (hm : mayD s) (hn : n = 8 + s.pay.length) {u v : UInt8} (hk : u.toNat * 256 + v.toNat = k) (h8 : 8 ≤ k) (hkn : k ≤ n) (hb : Bs w A n c (mendU (aheadL false zad zad 17) (((udpB ah s).set 4 u).set 5 v) n)) :
    Calls Tryd.prog 7 #[.slice A n c, .agg (adv false zad), .agg (adv false zad)] w fun e w' => ∃ x A' n' c', e = .returned (.tuple #[.agg (dgv x A' n' c'), .nilIface]) ∧ x.pay = s.pay.take (k - 8) ∧ Bs w' A' n' c' x.pay ∧ Below w.heap.size w w' := by
  have h4 := hm.2.2
  have q := parse_udp hb (by omega) false false (sb := zad) (db := zad) rfl rfl
  obtain ⟨q1, q2⟩ := udpv_len_ok (ah := ah) (d := s) (u := u) (v := v) (aheadL false zad zad 17) (ahead_even false rfl rfl 17) hn hk h8 hkn rfl
  refine q.mono ?_
  rintro e w' ⟨A', n', c', x, rfl, hB, t, b⟩
  rw [q1] at t
  obtain rfl := Tells.none' t rfl
  exact ⟨_, A', n', c', rfl, q2, hB, b⟩
/-- With a byte turned. -/
theorem parseU_turned {A : Option Addr} {n c j : Nat} {w : World} {s : Dg} (hm : mayD s) (hn : n = 8 + s.pay.length) (hj : j < 4 ∨ 7 < j) {p x : UInt8} (hp : (udpB (aheadL false zad zad 17 n) s)[j]? = some p) (hb : Bs w A n c ((udpB (aheadL false zad zad 17 n) s).set j x)) :
    Calls Tryd.prog 7 #[.slice A n c, .agg (adv false zad), .agg (adv false zad)] w fun e w' => ∃ y A' n' c' v, e = .returned (.tuple #[.agg (dgv y A' n' c'), v]) ∧ Tells w' v (if x = p then ⟨0, 0, false⟩ else ⟨8, 6, true⟩) ∧ Below w.heap.size w w' := by
  have h4 := hm.2.2
  have q := parse_udp hb (by omega) false false (sb := zad) (db := zad) rfl rfl
  refine q.mono ?_
  rintro e w' ⟨A', n', c', v, rfl, hB, t, b⟩
  rw [udpv_turned hm (aheadL false zad zad 17) (ahead_even false rfl rfl 17) hn hj hp false] at t
  exact ⟨_, A', n', c', v, rfl, t, b⟩
end Go.Proofs.YtkeggeiliachgaaDoor

namespace Go.Proofs.YtkeggeiliachgaaDoor
open Go.RowKit
set_option maxRecDepth 100000

theorem udpH_flat2 (s : Dg) (r : List UInt8) : ([] ++ putn s.sp 2 ++ putn s.dp 2 ++ putn ((8 + s.pay.length : Nat) : Int) 2) ++ [0, 0] ++ r = udpH s 0 0 ++ r := by simp [udpH]
/-- What the reference of Build hands back. -/
def BldUF (ah : List UInt8) (s : Dg) (w : World) (e : Ending) (w' : World) : Prop := ∃ A' n' c', e = .returned (.tuple #[.slice A' n' c', .agg (flv (bldue s).code (bldue s).at_ (bldue s).placed)]) ∧ Bs w' A' n' c' (bldu ah s) ∧ Below w.heap.size w w'
theorem bldUF_no {ah : List UInt8} {s : Dg} {w0 w : World} (h : ¬ mayD s) (hb : Below w0.heap.size w0 w) : BldUF ah s w0 (.returned (.tuple #[.slice none 0 0, .agg (flv 1 0 false)])) w := by
  unfold BldUF bldu bldue
  rw [if_neg h, if_neg h]
  exact ⟨none, 0, 0, rfl, Bs.nil _, hb⟩
theorem bldUF_yes {ah : List UInt8} {s : Dg} {w0 w : World} (h : mayD s) {A' : Option Addr} {n' c' : Nat} (hB : Bs w A' n' c' (udpB ah s)) (hb : Below w0.heap.size w0 w) : BldUF ah s w0 (.returned (.tuple #[.slice A' n' c', .agg (flv 0 0 false)])) w := by
  unfold BldUF bldu bldue
  rw [if_pos h, if_pos h]
  exact ⟨A', n', c', rfl, hB, hb⟩
set_option maxHeartbeats 2000000 in
theorem ref_build_udp {A : Option Addr} {n c : Nat} {w : World} {s : Dg} (hb : Bs w A n c s.pay) (sv dv : Bool) {sb db : List UInt8} (hsb : sb.length = 16) (hdb : db.length = 16) :
    Calls Tryd.prog 11 #[.agg (dgv s A n c), .agg (adv sv sb), .agg (adv dv db)] w (BldUF (aheadL sv sb db 17 (8 + n)) s w) := by
  have hl := hb.len
  have hcap := hb.cap
  have hmax := hb.max
  unfold maxLen at hmax
  have b0 : Below w.heap.size w (w.alloc (.cells (dgv s A n c) 27)) := (Below.refl _ _).alloc (Nat.le_refl _) _
  have s0 := DgBox.new w s A n c
  have a1 := AdBox.new (w.alloc (.cells (dgv s A n c) 27)) sv hsb
  have b1 := Below.alloc (Below.refl (w.alloc (.cells (dgv s A n c) 27)).heap.size _) (Nat.le_refl _) (.cells (adv sv sb) 25)
  have a2 := AdBox.new ((w.alloc (.cells (dgv s A n c) 27)).alloc (.cells (adv sv sb) 25)) dv hdb
  have b2 := Below.alloc (Below.refl ((w.alloc (.cells (dgv s A n c) 27)).alloc (.cells (adv sv sb) 25)).heap.size _) (Nat.le_refl _) (.cells (adv dv db) 25)
  have hA := And.intro ((s0.later b1 (Nat.le_refl _)).later b2 (Nat.le_refl _)) (And.intro (a1.later b2 (Nat.le_refl _)) (And.intro a2 (b0.trans ((b1.mono b0.size).trans (b2.mono (Nat.le_trans b0.size b1.size))))))
  simp only [World.size_alloc] at hA
  obtain ⟨W, hW⟩ : ∃ W, ((w.alloc (.cells (dgv s A n c) 27)).alloc (.cells (adv sv sb) 25)).alloc (.cells (adv dv db) 25) = W := ⟨_, rfl⟩
  rw [hW] at hA
  have HA := Lib.hid hA
  unfold dgv at hW
  have HW := Lib.hid hW
  have HB := Lib.hid (hb.later hA.2.2.2 (Nat.le_refl _))
  clear b0 s0 a1 b1 a2 b2 hA hW hb
  by_cases hm : ¬ mayD s
  · have HM := Lib.hid hm
    have hnm := not_mayD hm
    rw [hl] at hnm
    clear hm
    obtain ⟨sp, dp, pay⟩ := s
    dsimp only at hnm
    unfold dgv
    dsimp only
    rcases hnm with h1 | ⟨h1, h2⟩ | ⟨h1, h2, h3⟩
    all_goals
      go_enter Tryd.func11, Tryd.ntmps11
      go_wp2_with (first
        | (rw [HW.out]; refine wpList_alloc_fl rfl rfl ?_; intro w1 a1 b1 z1; have hx := HA.out.1.later b1 (Nat.le_refl _); have d0 := hx.cell 0; have d1 := hx.cell 1; have d2 := hx.cell 2; dsimp only [dgv] at d0 d1 d2; simp only [List.getElem?_toArray, List.getElem?_cons_zero, List.getElem?_cons_succ] at d0 d1 d2; have H1 := Lib.hid (And.intro a1 (HA.out.2.2.2.trans (b1.mono HA.out.2.2.2.size))); clear a1 b1 z1 hx)
        | (go_at_call 28; refine (refPort_any _ _).mono ?_; rintro e w' ⟨rfl, rfl⟩)
        | (go_at_call 29; refine (help_bare 1 _).mono ?_; rintro e w2 ⟨rfl, b2⟩; have H2 := Lib.hid (And.intro (H1.out.1.later b2 (Nat.le_refl _)) (H1.out.2.trans (b2.mono H1.out.2.size))); clear b2)
        | (have hg : w.heap.size ≤ W.heap.size := HA.out.2.2.2.size; refine wpList_store_fl rfl (.tmp 7) (.tmp 26) rfl 1 0 false rfl rfl H2.out.1 ?_; intro w3 a3 o3 z3 b3; have H3 := Lib.hid (And.intro a3 (b3 w.heap.size w hg H2.out.2)); clear a3 o3 z3 b3))
      exact bodyPost_ret (results_tmp_fl rfl _ rfl H3.out.1) rfl (bldUF_no HM.out H3.out.2)
  · have hm : mayD s := Decidable.not_not.1 hm
    have HM := Lib.hid hm
    obtain ⟨⟨m1, m2⟩, ⟨m3, m4⟩, m7⟩ := hm
    obtain ⟨sp, dp, pay⟩ := s
    dsimp only at m1 m2 m3 m4 m7 hl
    have q1 : decide (0 ≤ sp ∧ sp ≤ 65535) = true := decide_eq_true ⟨m1, m2⟩
    have q2 : decide (0 ≤ dp ∧ dp ≤ 65535) = true := decide_eq_true ⟨m3, m4⟩
    have q3 : ¬ 65527 < n := by omega
    unfold dgv
    dsimp only
    go_enter Tryd.func11, Tryd.ntmps11
    go_wp2_with (first
      | (rw [HW.out]; refine wpList_alloc_fl rfl rfl ?_; intro w1 a1 b1 z1; have hx := HA.out.1.later b1 (Nat.le_refl _); have d0 := hx.cell 0; have d1 := hx.cell 1; have d2 := hx.cell 2; dsimp only [dgv] at d0 d1 d2; simp only [List.getElem?_toArray, List.getElem?_cons_zero, List.getElem?_cons_succ] at d0 d1 d2; have H1 := Lib.hid (And.intro a1 (And.intro (HA.out.2.2.2.trans (b1.mono HA.out.2.2.2.size)) (And.intro hx (And.intro (HA.out.2.1.later b1 (Nat.le_refl _)) (And.intro (HA.out.2.2.1.later b1 (Nat.le_refl _)) (HB.out.later b1 (Nat.le_refl _))))))); clear a1 b1 z1 hx)
      | (go_at_call 28; refine (refPort_any _ _).mono ?_; rintro e w' ⟨rfl, rfl⟩))
    clear d0 d1 d2
    have rc : ∀ w', Below w1.heap.size w1 w' → DgBox w' w.heap.size ⟨sp, dp, pay⟩ A n c := fun w' h => H1.out.2.2.1.later h (Nat.le_refl _)
    have rc0 : ∀ w', Below w1.heap.size w1 w' → w'.cell? ⟨w.heap.size, 0, none⟩ = some (.int .i64 sp) := fun w' h => (rc w' h).cell 0
    have rc1 : ∀ w', Below w1.heap.size w1 w' → w'.cell? ⟨w.heap.size, 1, none⟩ = some (.int .i64 dp) := fun w' h => (rc w' h).cell 1
    have rc2 : ∀ w', Below w1.heap.size w1 w' → w'.cell? ⟨w.heap.size, 2, none⟩ = some (.slice A n c) := fun w' h => (rc w' h).cell 2
    clear rc
    have hS : Below w1.heap.size w1 w1.drew := (Below.refl _ _).drew
    refine rg_begin (fun w' => Below w1.heap.size w1 w') 12 (by kernel_rfl) rfl ?_
    refine rg_take 0 (v := ?rv1) rfl (by kernel_rfl) (by kernel_rfl) (by kernel_rfl) (fun _ _ _ h => h) (by rfl) hS (fun w2 hw2 => ?ry1) ?rr1
    case ry1 => ((try dsimp only at hw2); go_simp <;> with_reducible rfl)
    simp only [Act.put, List.setIfInBounds_toArray, List.set_cons_zero, List.set_cons_succ]
    refine rg_take 3 (v := ?rv2) rfl (by kernel_rfl) (by kernel_rfl) (by kernel_rfl) (fun _ _ _ h => h) (by rfl) hS (fun w2 hw2 => ?ry2) ?rr2
    case ry2 => ((try dsimp only at hw2); go_simp <;> with_reducible rfl)
    simp only [Act.put, List.setIfInBounds_toArray, List.set_cons_zero, List.set_cons_succ]
    refine rg_take 6 (v := ?rv3) rfl (by kernel_rfl) (by kernel_rfl) (by kernel_rfl) (fun _ _ _ h => h) (by rfl) hS (fun w2 hw2 => ?ry3) ?rr3
    case ry3 => ((try dsimp only at hw2); go_simp <;> with_reducible rfl)
    simp only [Act.put, List.setIfInBounds_toArray, List.set_cons_zero, List.set_cons_succ]
    refine rg_take 1 (v := ?rv4) rfl (by kernel_rfl) (by kernel_rfl) (by kernel_rfl) (fun _ _ _ h => h) (by rfl) hS (fun w2 hw2 => ?ry4) ?rr4
    case ry4 => ((try dsimp only at hw2); go_simp <;> with_reducible rfl)
    simp only [Act.put, List.setIfInBounds_toArray, List.set_cons_zero, List.set_cons_succ]
    refine rg_take 4 (v := ?rv5) rfl (by kernel_rfl) (by kernel_rfl) (by kernel_rfl) (fun _ _ _ h => h) (by rfl) hS (fun w2 hw2 => ?ry5) ?rr5
    case ry5 => ((try dsimp only at hw2); go_simp <;> with_reducible rfl)
    simp only [Act.put, List.setIfInBounds_toArray, List.set_cons_zero, List.set_cons_succ]
    refine rg_take 7 (v := ?rv6) rfl (by kernel_rfl) (by kernel_rfl) (by kernel_rfl) (fun _ _ _ h => h) (by rfl) hS (fun w2 hw2 => ?ry6) ?rr6
    case ry6 => ((try dsimp only at hw2); go_simp <;> with_reducible rfl)
    simp only [Act.put, List.setIfInBounds_toArray, List.set_cons_zero, List.set_cons_succ]
    refine rg_take 8 (v := ?rv7) rfl (by kernel_rfl) (by kernel_rfl) (by kernel_rfl) (fun _ _ _ h => h) (by rfl) hS (fun w2 hw2 => ?ry7) ?rr7
    case ry7 => ((try dsimp only at hw2); go_simp <;> with_reducible rfl)
    simp only [Act.put, List.setIfInBounds_toArray, List.set_cons_zero, List.set_cons_succ]
    refine rg_take 9 (v := ?rv8) rfl (by kernel_rfl) (by kernel_rfl) (by kernel_rfl) (fun _ _ _ h => h) (by rfl) hS (fun w2 hw2 => ?ry8) ?rr8
    case ry8 => ((try dsimp only at hw2); go_simp <;> with_reducible rfl)
    simp only [Act.put, List.setIfInBounds_toArray, List.set_cons_zero, List.set_cons_succ]
    refine rg_step 2 rfl (by kernel_rfl) (by rfl) (fun K hK => ?_)
    go_simp
    refine (ref_put (Bs.nil _) sp 2 (by omega) (by omega)).mono ?_
    rintro e w2 ⟨v2, rfl, o2, g2⟩
    obtain ⟨A2, c2, rfl, hB2⟩ := Bs.of_own o2
    replace hS := hS.trans (g2.mono hS.size)
    have H2 := Lib.hid hB2
    clear o2 g2 hB2
    refine hK.out _ _ hS ?_
    clear hK K
    try simp only [Act.put, List.setIfInBounds_toArray, List.set_cons_zero, List.set_cons_succ]
    refine rg_step 5 rfl (by kernel_rfl) (by rfl) (fun K hK => ?_)
    go_simp
    refine (ref_put H2.out dp 2 (by omega) (by omega)).mono ?_
    rintro e w3 ⟨v3, rfl, o3, g3⟩
    obtain ⟨A3, c3, rfl, hB3⟩ := Bs.of_own o3
    replace hS := hS.trans (g3.mono hS.size)
    have H3 := Lib.hid hB3
    clear o3 g3 hB3
    refine hK.out _ _ hS ?_
    clear hK K
    try simp only [Act.put, List.setIfInBounds_toArray, List.set_cons_zero, List.set_cons_succ]
    have e4 : IntKind.i64.wrap (8 + (n : Int)) = ((8 + pay.length : Nat) : Int) := by rw [IntKind.wrap_i64]; omega
    have E4 := Lib.hid e4
    clear e4
    refine rg_step 10 rfl (by kernel_rfl) (by rfl) (fun K hK => ?_)
    go_simp
    rw [E4.out]
    refine (ref_put H3.out ((8 + pay.length : Nat) : Int) 2 (by omega) (by omega)).mono ?_
    rintro e w4 ⟨v4, rfl, o4, g4⟩
    have o4' := owns_base o4 hS.size
    replace hS := hS.trans (g4.mono hS.size)
    have H4 := Lib.hid (And.intro o4' hS)
    clear o4 o4' g4
    refine hK.out _ _ hS ?_
    clear hK K
    try simp only [Act.put, List.setIfInBounds_toArray, List.set_cons_zero, List.set_cons_succ]
    refine rg_take 11 (v := ?rv9) rfl (by kernel_rfl) (by kernel_rfl) (by kernel_rfl) (fun _ _ _ h => h) (by rfl) hS (fun w2 hw2 => ?ry9) ?rr9
    case ry9 => ((try dsimp only at hw2); go_simp <;> with_reducible rfl)
    simp only [Act.put, List.setIfInBounds_toArray, List.set_cons_zero, List.set_cons_succ]
    refine rg_done (by kernel_rfl) ?_
    clear hS
    go_wp2_with fail
    have hS : Below w1.heap.size w1 w4.drew := H4.out.2.drew
    have o4 := own_kept H4.out.1 (Below.refl w4.heap.size w4).drew
    refine rg_begin (fun w' => Below w1.heap.size w1 w') 7 (by kernel_rfl) rfl ?_
    obtain ⟨W4, hW4⟩ : ∃ W4, w4.drew = W4 := ⟨_, rfl⟩
    rw [hW4] at hS o4 ⊢
    clear hW4
    refine rg_take 0 (v := ?rv10) rfl (by kernel_rfl) (by kernel_rfl) (by kernel_rfl) (fun _ _ _ h => h) (by rfl) hS (fun w2 hw2 => ?ry10) ?rr10
    case ry10 => ((try dsimp only at hw2); go_simp <;> with_reducible rfl)
    simp only [Act.put, List.setIfInBounds_toArray, List.set_cons_zero, List.set_cons_succ]
    refine rg_take 3 (v := ?rv11) rfl (by kernel_rfl) (by kernel_rfl) (by kernel_rfl) (fun _ _ _ h => h) (by rfl) hS (fun w2 hw2 => ?ry11) ?rr11
    case ry11 => ((try dsimp only at hw2); go_simp <;> with_reducible rfl)
    simp only [Act.put, List.setIfInBounds_toArray, List.set_cons_zero, List.set_cons_succ]
    refine rg_take 4 (v := ?rv12) rfl (by kernel_rfl) (by kernel_rfl) (by kernel_rfl) (fun _ _ _ h => h) (by rfl) hS (fun w2 hw2 => ?ry12) ?rr12
    case ry12 => ((try dsimp only at hw2); go_simp <;> with_reducible rfl)
    simp only [Act.put, List.setIfInBounds_toArray, List.set_cons_zero, List.set_cons_succ]
    refine rg_step 1 rfl (by kernel_rfl) (by rfl) (fun K hK => ?_)
    go_simp
    have hs4 := hS.size
    replace hS := hS.alloc hs4 (.cells #[.int .u8 0, .int .u8 0] 5)
    replace o4 := o4.alloc (.cells #[.int .u8 0, .int .u8 0] 5)
    refine hK.out _ _ hS ?_
    clear hK K
    try simp only [Act.put, List.setIfInBounds_toArray, List.set_cons_zero, List.set_cons_succ]
    refine rg_step 2 rfl (by kernel_rfl) (by rfl) (fun K hK => ?_)
    refine wp_append_bs (.tmp 38) (.tmp 39) 22 rfl w1.heap.size 5 info5 Tryd.underlying22 _ _ _ rfl o4 (some ⟨W4.heap.size, 0, none⟩) 2 2 [0, 0] rfl (Bs.lit W4 [0, 0] 2 rfl (by unfold maxLen; omega) #[.int .u8 0, .int .u8 0] rfl 5) (by omega) hS.size ?_
    intro v6 w6 o6 g6 _ _
    replace hS : Below w1.heap.size w1 w6 := hS.grown g6 hS.size (fun q hq => (o4.lt q hq).1)
    clear o4 g6
    refine hK.out _ _ hS ?_
    clear hK K
    try simp only [Act.put, List.setIfInBounds_toArray, List.set_cons_zero, List.set_cons_succ]
    refine rg_step 5 rfl (by kernel_rfl) (by rfl) (fun K hK => ?_)
    refine wp_append_bs (.tmp 40) (.tmp 42) 22 rfl w1.heap.size 5 info5 Tryd.underlying22 _ _ _ rfl o6 A n c pay rfl (H1.out.2.2.2.2.2.later hS (Nat.le_refl _)) (by omega) hS.size ?_
    intro v7 w7 o7 g7 _ _
    replace hS : Below w1.heap.size w1 w7 := hS.grown g7 hS.size (fun q hq => (o6.lt q hq).1)
    have o8 : w7.ownsRow w1.heap.size 5 1 v7 (8 + n) (bv (udpH ⟨sp, dp, pay⟩ 0 0 ++ pay)) := by rw [← udpH_flat2]; exact owns_n (by omega) o7
    obtain ⟨A7, c7, rfl, hB7⟩ := Bs.of_own o8
    have H7 := Lib.hid (And.intro (H1.out.2.2.2.1.later hS (Nat.le_refl _)) (And.intro (H1.out.2.2.2.2.1.later hS (Nat.le_refl _)) (And.intro hB7 hS)))
    clear o6 o7 o8 g7 hB7
    refine hK.out _ _ hS ?_
    clear hK K
    try simp only [Act.put, List.setIfInBounds_toArray, List.set_cons_zero, List.set_cons_succ]
    refine rg_take 6 (v := ?rv13) rfl (by kernel_rfl) (by kernel_rfl) (by kernel_rfl) (fun _ _ _ h => h) (by rfl) hS (fun w2 hw2 => ?ry13) ?rr13
    case ry13 => ((try dsimp only at hw2); go_simp <;> with_reducible rfl)
    simp only [Act.put, List.setIfInBounds_toArray, List.set_cons_zero, List.set_cons_succ]
    refine rg_done (by kernel_rfl) ?_
    clear hS hs4
    go_wp2_with (first
      | (refine wpList_load_ad rfl (.tmp 4) rfl rfl H7.out.1 ?_)
      | (refine wpList_load_ad rfl (.tmp 5) rfl rfl H7.out.2.1 ?_))
    have ko := ref_over sv dv sb db hsb hdb 17 H7.out.2.2.1 (by omega)
    rw [show cks (aheadL sv sb db 17 (8 + n) ++ (udpH ⟨sp, dp, pay⟩ 0 0 ++ pay)) = udpK (aheadL sv sb db 17 (8 + n)) ⟨sp, dp, pay⟩ from rfl] at ko
    have hk16 : udpK (aheadL sv sb db 17 (8 + n)) ⟨sp, dp, pay⟩ ≤ 65535 := cks_le _
    obtain ⟨k, hk0⟩ : ∃ k, udpK (aheadL sv sb db 17 (8 + n)) ⟨sp, dp, pay⟩ = k := ⟨_, rfl⟩
    rw [hk0] at ko hk16
    have HK := Lib.hid hk0
    clear hk0
    refine ko.mono ?_
    rintro e w8 ⟨rfl, g8⟩
    have b8 := H7.out.2.2.2.trans (g8.mono H7.out.2.2.2.size)
    have H8 := Lib.hid (And.intro (H7.out.2.2.1.later g8 (Nat.le_refl _)) b8)
    clear ko g8 b8
    by_cases hk0 : k = 0
    · subst hk0
      have HZ := Lib.hid (show nonzero 0 = 65535 from rfl)
      go_wp2_with fail
      refine (set_any H8.out.1 6 65535 (by omega) (by omega) (by omega)).mono ?_
      rintro e w9 ⟨A9, c9, rfl, o9, g9⟩
      rw [show (6 + 1 : Nat) = 7 from rfl, udpH_set] at o9
      have b9 := H8.out.2.trans (g9.mono H8.out.2.size)
      have H9 := Lib.hid (And.intro (owns_base o9 H8.out.2.size) (And.intro (H1.out.1.later b9 (Nat.le_refl _)) (And.intro b9 (HA.out.2.2.2.size))))
      have hlt : W.heap.size < w1.heap.size := H1.out.1.lt
      clear o9 g9 b9
      go_wp2_with (refine wpList_store_fl rfl (.tmp 7) (.tmp 53) rfl 0 0 false rfl rfl H9.out.2.1 ?_; intro w10 a10 o10 z10 b10; have H10 := Lib.hid (And.intro a10 (And.intro (Bs.own_later H9.out.1 fun j hj => o10 j (by omega)) (b10 w.heap.size w H9.out.2.2.2 (H1.out.2.1.trans (H9.out.2.2.1.mono H1.out.2.1.size))))); clear a10 o10 z10 b10)
      have hB10 : Bs w10 A9 (8 + n) c9 (udpB (aheadL sv sb db 17 (8 + n)) ⟨sp, dp, pay⟩) := by
        have h := H10.out.2.1
        unfold udpB
        rw [HK.out, HZ.out]
        exact h
      exact bodyPost_ret (v := .tuple #[.slice A9 (8 + n) c9, .agg (flv 0 0 false)]) (results_tmp_fl (p := 6) (u := 7) rfl _ rfl H10.out.1) rfl (bldUF_yes HM.out hB10 H10.out.2.2)
    · have hk' : ¬ (k : Int) = 0 := by omega
      have HZ := Lib.hid (show nonzero k = k from if_neg hk0)
      go_wp2_with fail
      refine (set_any H8.out.1 6 k (by omega) (by omega) (by omega)).mono ?_
      rintro e w9 ⟨A9, c9, rfl, o9, g9⟩
      rw [show (6 + 1 : Nat) = 7 from rfl, udpH_set] at o9
      have b9 := H8.out.2.trans (g9.mono H8.out.2.size)
      have H9 := Lib.hid (And.intro (owns_base o9 H8.out.2.size) (And.intro (H1.out.1.later b9 (Nat.le_refl _)) (And.intro b9 (HA.out.2.2.2.size))))
      have hlt : W.heap.size < w1.heap.size := H1.out.1.lt
      clear o9 g9 b9
      go_wp2_with (refine wpList_store_fl rfl (.tmp 7) (.tmp 53) rfl 0 0 false rfl rfl H9.out.2.1 ?_; intro w10 a10 o10 z10 b10; have H10 := Lib.hid (And.intro a10 (And.intro (Bs.own_later H9.out.1 fun j hj => o10 j (by omega)) (b10 w.heap.size w H9.out.2.2.2 (H1.out.2.1.trans (H9.out.2.2.1.mono H1.out.2.1.size))))); clear a10 o10 z10 b10)
      have hB10 : Bs w10 A9 (8 + n) c9 (udpB (aheadL sv sb db 17 (8 + n)) ⟨sp, dp, pay⟩) := by
        have h := H10.out.2.1
        unfold udpB
        rw [HK.out, HZ.out]
        exact h
      exact bodyPost_ret (v := .tuple #[.slice A9 (8 + n) c9, .agg (flv 0 0 false)]) (results_tmp_fl (p := 6) (u := 7) rfl _ rfl H10.out.1) rfl (bldUF_yes HM.out hB10 H10.out.2.2)
end Go.Proofs.YtkeggeiliachgaaDoor
