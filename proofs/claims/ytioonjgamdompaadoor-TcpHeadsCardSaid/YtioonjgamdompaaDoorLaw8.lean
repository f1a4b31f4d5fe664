/-
  stockadehelp.Segment at equal segments; stockadelaw08.mended; stockadelaw08.awake. Conditions: those of the slices; 2^47 bytes at most.
-/
import Derived.Test.YtioonjgamdompaaDoorBld8
import Derived.Test.YtioonjgamdompaaDoorRefOver
import Derived.Test.YtioonjgamdompaaDoorSame
import Derived.Test.YtioonjgamdompaaDoorPk8
namespace Go.Proofs.YtioonjgamdompaaDoor
open Go.RowKit
set_option maxRecDepth 100000

set_option maxHeartbeats 1000000 in
theorem segment_same {A B : Option Addr} {n c m d : Nat} {s : Sg} {w : World} (ha : Bs w A n c s.pay) (hb : Bs w B m d s.pay) : Calls Tryd.prog 12 #[.agg (sgv s A n c), .agg (sgv s B m d)] w fun e w' => e = .returned (.bool true) ∧ Below w.heap.size w w' := by
  have s0 := SgBox.new w s A n c
  have b0 : Below w.heap.size w (w.alloc (.cells (sgv s A n c) 28)) := (Below.refl _ _).alloc (Nat.le_refl _) _
  have s1 := SgBox.new (w.alloc (.cells (sgv s A n c) 28)) s B m d
  have b1 := Below.alloc (Below.refl (w.alloc (.cells (sgv s A n c) 28)).heap.size _) (Nat.le_refl _) (.cells (sgv s B m d) 28)
  have hA := And.intro (s0.later b1 (Nat.le_refl _)) (And.intro s1 (b0.trans (b1.mono b0.size)))
  simp only [World.size_alloc] at hA
  obtain ⟨W, hW⟩ : ∃ W, (w.alloc (.cells (sgv s A n c) 28)).alloc (.cells (sgv s B m d) 28) = W := ⟨_, rfl⟩
  rw [hW] at hA
  have K := Lib.hid (bytes_same (ha.later hA.2.2 (Nat.le_refl _)) (hb.later hA.2.2 (Nat.le_refl _)))
  have HA := Lib.hid hA
  unfold sgv at hW
  have HW := Lib.hid hW
  have d0 := hA.1.cell 0
  have d1 := hA.1.cell 1
  have d2 := hA.1.cell 2
  have d3 := hA.1.cell 3
  have d4 := hA.1.cell 4
  have d5 := hA.1.cell 5
  have e0 := hA.2.1.cell 0
  have e1 := hA.2.1.cell 1
  have e2 := hA.2.1.cell 2
  have e3 := hA.2.1.cell 3
  have e4 := hA.2.1.cell 4
  have e5 := hA.2.1.cell 5
  clear b0 s0 s1 b1 hA hW ha hb
  obtain ⟨sp, dp, seq, ack, fl, pay⟩ := s
  dsimp only [sgv] at d0 d1 d2 d3 d4 d5 e0 e1 e2 e3 e4 e5
  simp only [List.getElem?_toArray, List.getElem?_cons_zero, List.getElem?_cons_succ] at d0 d1 d2 d3 d4 d5 e0 e1 e2 e3 e4 e5
  unfold sgv
  dsimp only
  go_enter Tryd.func12, Tryd.ntmps12
  go_wp2_with (first | (rw [HW.out]; go_at_call 14; refine K.out.mono ?_; rintro e w' ⟨rfl, rfl⟩) | (go_at_call 14; refine K.out.mono ?_; rintro e w' ⟨rfl, rfl⟩))
  go_ret
  exact ⟨rfl, HA.out.2.2⟩

theorem set4 (l : List UInt8) (x y u v : UInt8) : ((((l.set 16 x).set 17 y).set 16 u).set 17 v) = (l.set 16 u).set 17 v := by
  rw [List.set_comm _ _ (show 17 ≠ 16 by decide), List.set_set, List.set_set]
/-- With its sum as it should be. -/
def mendL (sv : Bool) (sb db l : List UInt8) (n : Nat) : List UInt8 := if n < 20 then l else mendAt (aheadL sv sb db 6 n) l 16
set_option maxHeartbeats 2000000 in
theorem mended_any {A : Option Addr} {n c : Nat} {l : List UInt8} {w : World} (hb : Bs w A n c l) (h47 : n ≤ 140737488350000) (sv dv : Bool) {sb db : List UInt8} (hsb : sb.length = 16) (hdb : db.length = 16) :
    Calls Tryd.prog 9 #[.slice A n c, .agg (adv sv sb), .agg (adv dv db)] w fun e w' => ∃ A' c', e = .returned (.slice A' n c') ∧ Bs w' A' n c' (mendL sv sb db l n) ∧ Below w.heap.size w w' := by
  have A1 := AdBox.new w sv hsb
  have B1 : Below w.heap.size w (w.alloc (.cells (adv sv sb) 25)) := (Below.refl _ _).alloc (Nat.le_refl _) _
  have A2 := AdBox.new (w.alloc (.cells (adv sv sb) 25)) dv hdb
  rw [World.size_alloc] at A2
  have B2 : Below (w.heap.size + 1) (w.alloc (.cells (adv sv sb) 25)) ((w.alloc (.cells (adv sv sb) 25)).alloc (.cells (adv dv db) 25)) := (Below.refl _ _).alloc (by simp) _
  have hA := And.intro (A1.later B2 (by simp)) (And.intro A2 (B1.trans (B2.mono (by omega))))
  obtain ⟨W, hW⟩ : ∃ W, (w.alloc (.cells (adv sv sb) 25)).alloc (.cells (adv dv db) 25) = W := ⟨_, rfl⟩
  rw [hW] at hA
  have HB := Lib.hid (hb.later hA.2.2 (Nat.le_refl _))
  have HA := Lib.hid hA
  have HW := Lib.hid hW
  clear A1 B1 A2 B2 hA hW hb
  unfold mendL
  by_cases hs : n < 20
  · rw [if_pos hs]
    go_enter Tryd.func9, Tryd.ntmps9
    go_wp2_with (at_builtin; rw [HW.out]; refine wpList_append_bs rfl (.const (.slice none 0 0)) (.tmp 9) 22 rfl W.heap.size 5 info5 Tryd.underlying22 _ 0 [] rfl (World.ownsRow_nil _ _ _ _) A n c l rfl HB.out (by omega) (Nat.le_refl _) ?_; intro v1 w1 o1 g1 _ _; have b1 : Below W.heap.size W w1 := (Below.refl _ W).grown g1 (Nat.le_refl _) (fun q hq => by cases hq); replace o1 := owns_n (n' := n) (by omega) o1; rw [List.nil_append] at o1; obtain ⟨A1, c1, rfl, hB1⟩ := Bs.of_own o1; have H1 := Lib.hid (And.intro hB1 (HA.out.2.2.trans (b1.mono HA.out.2.2.size))); clear o1 g1 b1 hB1)
    go_ret
    exact ⟨A1, c1, rfl, H1.out⟩
  · rw [if_neg hs]
    have hs' : ¬ (n : Int) < 20 := by omega
    have q1 : (16 : Int) < n := by omega
    have q2 : (17 : Int) < n := by omega
    have hk16 : cks (aheadL sv sb db 6 n ++ (l.set 16 0).set 17 0) ≤ 65535 := cks_le _
    rw [show mendAt (aheadL sv sb db 6 n) l 16 = (l.set 16 (UInt8.ofNat (cks (aheadL sv sb db 6 n ++ (l.set 16 0).set 17 0) / 256))).set 17 (UInt8.ofNat (cks (aheadL sv sb db 6 n ++ (l.set 16 0).set 17 0) % 256)) from rfl]
    generalize hk0 : cks (aheadL sv sb db 6 n ++ (l.set 16 0).set 17 0) = k at hk16 ⊢
    have HK := Lib.hid hk0
    clear hk0
    go_enter Tryd.func9, Tryd.ntmps9
    go_wp2_with (first
      | (at_builtin; rw [HW.out]; refine wpList_append_bs rfl (.const (.slice none 0 0)) (.tmp 9) 22 rfl W.heap.size 5 info5 Tryd.underlying22 _ 0 [] rfl (World.ownsRow_nil _ _ _ _) A n c l rfl HB.out (by omega) (Nat.le_refl _) ?_; intro v1 w1 o1 g1 _ _; have b1 : Below W.heap.size W w1 := (Below.refl _ W).grown g1 (Nat.le_refl _) (fun q hq => by cases hq); replace o1 := owns_n (n' := n) (by omega) o1; rw [List.nil_append] at o1; obtain ⟨g, cap, rfl, _, _⟩ := o1.form (by omega); obtain ⟨⟨p, _, hcp⟩, hfp⟩ := own_cell o1 (j := 16) (by omega); obtain ⟨⟨q, _, hcq⟩, hfq⟩ := own_cell o1 (j := 17) (by omega); obtain ⟨s1, s2⟩ := own_put o1 b1 (Nat.le_refl _) 16 (.int .u8 0) 0 rfl; obtain ⟨s3, s4⟩ := own_put s1 s2 (Nat.le_refl _) 17 (.int .u8 0) 0 rfl; have H2 := Lib.hid (And.intro s3 (And.intro s4 (And.intro (HA.out.1.later s4 (Nat.le_refl _)) (HA.out.2.1.later s4 (Nat.le_refl _))))); clear o1 g1 b1 s1 s2 s3 s4)
      | (refine wpList_load_ad rfl (.tmp 4) rfl rfl H2.out.2.2.1 ?_)
      | (refine wpList_load_ad rfl (.tmp 5) rfl rfl H2.out.2.2.2 ?_))
    obtain ⟨A2, c2, e2, hB2⟩ := Bs.of_own H2.out.1
    cases e2
    have ko := ref_over sv dv sb db hsb hdb 6 hB2 h47
    rw [HK.out] at ko
    refine ko.mono ?_
    rintro e w3 ⟨rfl, g3⟩
    have o3 := own_kept H2.out.1 g3
    obtain ⟨⟨p', _, hcp'⟩, hfp'⟩ := own_cell o3 (j := 16) (by omega)
    obtain ⟨⟨q', _, hcq'⟩, hfq'⟩ := own_cell o3 (j := 17) (by omega)
    have H3 := Lib.hid (And.intro o3 (H2.out.2.1.trans (g3.mono H2.out.2.1.size)))
    clear ko g3 o3 hB2 hcp hcq hfp hfq
    go_wp2_with fail
    obtain ⟨s1, s2⟩ := own_put H3.out.1 H3.out.2 (Nat.le_refl _) 16 (.int .u8 ((k : Int) / 256)) (UInt8.ofNat (k / 256)) (congrArg (Value.int IntKind.u8) (by simp only [UInt8.toNat_ofNat']; omega))
    obtain ⟨s3, s4⟩ := own_put s1 s2 (Nat.le_refl _) 17 (.int .u8 ((k : Int) % 256)) (UInt8.ofNat (k % 256)) (congrArg (Value.int IntKind.u8) (by simp only [UInt8.toNat_ofNat']; omega))
    obtain ⟨_, _, e3, hB⟩ := Bs.of_own s3
    cases e3
    rw [set4] at hB
    go_ret
    exact ⟨_, _, rfl, hB, HA.out.2.2.trans (s4.mono HA.out.2.2.size)⟩
def zad : List UInt8 := [0, 0, 0, 0, 0, 0, 0, 0, 0, 0, 0, 0, 0, 0, 0, 0]
/-- What was built is parsed. -/
theorem parse_built {A : Option Addr} {n c : Nat} {w : World} {s : Sg} {sv dv : Bool} {sb db : List UInt8} (hsb : sb.length = 16) (hdb : db.length = 16) (hm : mayT s) (hq : 0 ≤ s.seq ∧ s.seq < 4294967296) (hk : 0 ≤ s.ack ∧ s.ack < 4294967296) {m : Nat} (hmn : m = 20 + s.pay.length) (hn : n = m) (hb : Bs w A n c (tcpB (aheadL sv sb db 6 m) s)) :
    Calls Tryd.prog 7 #[.slice A n c, .agg (adv sv sb), .agg (adv dv db)] w (ParT (s, ⟨0, 0, false⟩) w) := by
  subst hn
  have h4 := hm.2.2.2
  have k := parse_tcp hb (by omega) sv dv hsb hdb
  rw [tcpB_sum _ (ahead_even sv hsb hdb 6 n) s, tcpv_built hm hq hk _ 0 hmn, if_neg (by decide)] at k
  exact k
set_option maxHeartbeats 1000000 in
theorem awake08 (w : World) : Calls Tryd.prog 6 #[] w fun e w' => e = .returned (.bool true) ∧ Below w.heap.size w w' := by
  have hm : mayT ⟨5, 6, 0, 0, 2, []⟩ := by refine ⟨?_, ?_, ?_, ?_⟩ <;> decide
  have k1 := build_tcp (w := w) (A := none) (n := 0) (c := 0) (s := ⟨5, 6, 0, 0, 2, []⟩) (Bs.nil w) (by decide) (by decide) false false (sb := zad) (db := zad) rfl rfl
  have e1 : bldv (aheadL false zad zad 6 (20 + 0)) ⟨5, 6, 0, 0, 2, []⟩ = tcpB (aheadL false zad zad 6 20) ⟨5, 6, 0, 0, 2, []⟩ := by unfold bldv; rw [if_pos hm]
  have e2 : blde ⟨5, 6, 0, 0, 2, []⟩ = ⟨0, 0, false⟩ := by unfold blde; rw [if_pos hm]
  unfold BldT at k1
  rw [e1, e2] at k1
  have K1 := Lib.hid k1
  have HM := Lib.hid hm
  clear k1 e1 e2 hm
  go_enter Tryd.func6, Tryd.ntmps6
  go_wp2_with fail
  refine K1.out.mono ?_
  rintro e w1 ⟨A1, n1, c1, v1, rfl, hb1, t1, b1⟩
  obtain rfl := Tells.none' t1 rfl
  obtain rfl : n1 = 20 := by rw [← hb1.len, tcpB_length]; rfl
  have H1 := Lib.hid (And.intro hb1 b1)
  clear hb1 t1 b1
  go_wp2_with fail
  have k2 := parse_built (dv := false) (s := ⟨5, 6, 0, 0, 2, []⟩) rfl rfl HM.out (by decide) (by decide) rfl rfl H1.out.1
  refine k2.mono ?_
  rintro e w2 ⟨A2, n2, c2, v2, rfl, hb2, t2, b2⟩
  obtain rfl := Tells.none' t2 rfl
  have H2 := Lib.hid (H1.out.2.trans (b2.mono H1.out.2.size))
  clear k2 t2 b2 hb2
  go_wp2_with (first
    | (refine wpList_alloc_sg rfl rfl ?_; intro w3 a3 b3 z3; have H3 := Lib.hid (And.intro a3 (And.intro (H2.out.trans (b3.mono H2.out.size)) b3)); clear a3 b3 z3)
    | (refine wpList_store_sg rfl (.tmp 3) (.tmp 17) rfl ⟨5, 6, 0, 0, 2, []⟩ A2 n2 c2 rfl rfl H3.out.1 ?_; intro w4 a4 o4 z4 b4; have c0 := a4.cell 0; have c4 := a4.cell 4; dsimp only [sgv] at c0 c4; simp only [List.getElem?_toArray, List.getElem?_cons_zero, List.getElem?_cons_succ] at c0 c4; have H4 := Lib.hid (b4 w.heap.size w H2.out.size H3.out.2.1); clear a4 o4 z4 b4))
  go_ret
  exact ⟨rfl, H4.out⟩
end Go.Proofs.YtioonjgamdompaaDoor
