/-
  Package tcp's Parse: a segment, or why there is none. Conditions: those of the slice; 2^47 bytes at most.
-/
import Derived.Test.YtioonjgamdompaaDoorTcp8
import Derived.Test.YtioonjgamdompaaDoorClone
namespace Go.Proofs.YtioonjgamdompaaDoor
open Go.RowKit
set_option maxRecDepth 100000

theorem ahead_even (v1 : Bool) {a b : List UInt8} (ha : a.length = 16) (hb : b.length = 16) (proto : Int) (n : Nat) : (aheadL v1 a b proto n).length % 2 = 0 := by cases v1 <;> simp [aheadL, putn_length, ha, hb]
theorem over_cks (v1 v2 : Bool) {a b : List UInt8} (ha : a.length = 16) (hb : b.length = 16) (proto : Int) {A : Option Addr} {n c : Nat} {l : List UInt8} {w : World} (hs : Bs w A n c l) (h47 : n ≤ 140737488350000) :
    Calls Tryd.prog 18 #[.agg (adv v1 a), .agg (adv v2 b), .int .i64 proto, .slice A n c] w fun e w' => e = .returned (.int .i64 (cks (aheadL v1 a b proto n ++ l) : Nat)) ∧ Below w.heap.size w w' := by
  rw [cks_append _ _ (ahead_even v1 ha hb proto n)]
  exact over_any v1 v2 a b ha hb proto hs (by omega)
theorem tcpv_no {l : List UInt8} {n : Nat} (o : Nat) (h : (headv l n).2.code ≠ 0) : tcpv o l n = (.zero, (headv l n).2) := by
  unfold headv at h ⊢
  unfold tcpv
  by_cases h1 : n < 20
  · rw [if_pos h1, if_pos h1]
  · rw [if_neg h1] at h ⊢
    rw [if_neg h1]
    by_cases h2 : bat l 12 / 16 < 5 ∨ n < 4 * (bat l 12 / 16)
    · rw [if_pos h2, if_pos h2]
    · rw [if_neg h2] at h
      exact absurd rfl h
theorem tcpv_yes {l : List UInt8} {n : Nat} (o : Nat) (h : (headv l n).2.code = 0) : 20 ≤ n ∧ 20 ≤ 4 * (bat l 12 / 16) ∧ 4 * (bat l 12 / 16) ≤ n ∧ headv l n = (l.take (4 * (bat l 12 / 16)), ⟨0, 0, false⟩) ∧
    tcpv o l n = if o ≠ 0 then (.zero, ⟨8, 16, true⟩) else (⟨num2 l 0, num2 l 2, num4 l 4, num4 l 8, (bat l 13 % 64 : Nat), l.drop (4 * (bat l 12 / 16))⟩, ⟨0, 0, false⟩) := by
  unfold headv at h ⊢
  unfold tcpv
  by_cases h1 : n < 20
  · rw [if_pos h1] at h
    exact absurd h (by decide)
  · rw [if_neg h1] at h ⊢
    rw [if_neg h1]
    by_cases h2 : bat l 12 / 16 < 5 ∨ n < 4 * (bat l 12 / 16)
    · rw [if_pos h2] at h
      exact absurd h (by decide)
    · rw [if_neg h2, if_neg h2]
      exact ⟨by omega, by omega, by omega, rfl, rfl⟩
/-- What Parse hands back. -/
def ParT (r : Sg × Fl) (w : World) (e : Ending) (w' : World) : Prop := ∃ A' n' c' v, e = .returned (.tuple #[.agg (sgv r.1 A' n' c'), v]) ∧ Bs w' A' n' c' r.1.pay ∧ Tells w' v r.2 ∧ Below w.heap.size w w'
set_option maxHeartbeats 2000000 in
theorem parse_tcp {A : Option Addr} {n c : Nat} {l : List UInt8} {w : World} (hb : Bs w A n c l) (h47 : n ≤ 140737488350000) (sv dv : Bool) {sb db : List UInt8} (hsb : sb.length = 16) (hdb : db.length = 16) :
    Calls Tryd.prog 7 #[.slice A n c, .agg (adv sv sb), .agg (adv dv db)] w (ParT (tcpv (cks (aheadL sv sb db 6 n ++ l)) l n) w) := by
  have hl := hb.len
  have HB := Lib.hid hb
  have hcap := hb.cap
  have hmax := hb.max
  unfold maxLen at hmax
  have A1 := AdBox.new w sv hsb
  have B1 : Below w.heap.size w (w.alloc (.cells (adv sv sb) 25)) := (Below.refl _ _).alloc (Nat.le_refl _) _
  have A2 := AdBox.new (w.alloc (.cells (adv sv sb) 25)) dv hdb
  rw [World.size_alloc] at A2
  have B2 : Below (w.heap.size + 1) (w.alloc (.cells (adv sv sb) 25)) ((w.alloc (.cells (adv sv sb) 25)).alloc (.cells (adv dv db) 25)) := (Below.refl _ _).alloc (by simp) _
  have hA := And.intro (A1.later B2 (by simp)) (And.intro A2 (B1.trans (B2.mono (by omega))))
  obtain ⟨W, hW⟩ : ∃ W, (w.alloc (.cells (adv sv sb) 25)).alloc (.cells (adv dv db) 25) = W := ⟨_, rfl⟩
  rw [hW] at hA
  have HA := Lib.hid hA
  have HW := Lib.hid hW
  clear A1 B1 A2 B2 hA hW hb
  have kh := fun w1 (hb1 : Below w.heap.size w w1) => headOf_any (HB.out.later hb1 (Nat.le_refl _)) h47
  by_cases hf : (headv l n).2.code ≠ 0
  · rw [tcpv_no _ hf]
    generalize (headv l n).2 = f at hf kh ⊢
    have KH := Lib.hid kh
    clear kh
    go_enter Tryd.func7, Tryd.ntmps7
    go_wp2_with (rw [HW.out]; refine wpList_alloc_sg rfl rfl ?_; intro w1 a1 b1 z1; have H1 := Lib.hid (And.intro a1 (HA.out.2.2.trans (b1.mono HA.out.2.2.size))); clear a1 b1 z1)
    refine (KH.out _ H1.out.2).mono ?_
    rintro e w2 ⟨A2, n2, c2, v2, rfl, g1, g2, g3⟩
    obtain ⟨T, x, rfl⟩ := Tells.held' g2 hf
    have H2 := Lib.hid (And.intro (H1.out.1.later g3 (Nat.le_refl _)) (And.intro g2 (H1.out.2.trans (g3.mono H1.out.2.size))))
    have hg : w.heap.size ≤ W.heap.size := HA.out.2.2.size
    clear g1 g2 g3
    go_wp2_with (refine wpList_store_sg rfl (.tmp 6) (.tmp 17) rfl .zero none 0 0 rfl rfl H2.out.1 ?_; intro w3 a3 o3 z3 b3; have H3 := Lib.hid (And.intro a3 (And.intro (b3 w.heap.size w hg H2.out.2.2) (H2.out.2.1.farSg H2.out.1 o3))); clear a3 o3 z3 b3)
    exact bodyPost_ret (results_sg_tmp rfl _ rfl H3.out.1) rfl ⟨none, 0, 0, .iface T x, rfl, Bs.nil _, H3.out.2.2, H3.out.2.1⟩
  · obtain ⟨hn, hh5, hhn, e1, e2⟩ := tcpv_yes (cks (aheadL sv sb db 6 n ++ l)) (by omega : (headv l n).2.code = 0)
    rw [e2]
    rw [e1] at kh
    clear e1 e2 hf
    have ko := fun w1 (hb1 : Below w.heap.size w w1) => over_cks sv dv hsb hdb 6 (HB.out.later hb1 (Nat.le_refl _)) h47
    generalize cks (aheadL sv sb db 6 n ++ l) = o at ko ⊢
    generalize hk : 4 * (bat l 12 / 16) = k at hh5 hhn kh ⊢
    have KH := Lib.hid kh
    have KO := Lib.hid ko
    have HK := Lib.hid hk
    clear kh ko hk
    obtain ⟨b0, off0, rfl, _⟩ := HB.out.here (by omega)
    by_cases ho : o ≠ 0
    · rw [if_pos ho]
      have ho' : ¬ (o : Int) = 0 := by omega
      go_enter Tryd.func7, Tryd.ntmps7
      go_wp2_with (rw [HW.out]; refine wpList_alloc_sg rfl rfl ?_; intro w1 a1 b1 z1; have H1 := Lib.hid (And.intro (HA.out.1.later b1 (Nat.le_refl _)) (And.intro (HA.out.2.1.later b1 (Nat.le_refl _)) (And.intro a1 (HA.out.2.2.trans (b1.mono HA.out.2.2.size))))); clear a1 b1 z1)
      refine (KH.out _ H1.out.2.2.2).mono ?_
      rintro e w2 ⟨A2, n2, c2, v2, rfl, g1, g2, g3⟩
      obtain rfl := Tells.none' g2 rfl
      have H2 := Lib.hid (And.intro (H1.out.1.later g3 (Nat.le_refl _)) (And.intro (H1.out.2.1.later g3 (Nat.le_refl _)) (And.intro (H1.out.2.2.1.later g3 (Nat.le_refl _)) (H1.out.2.2.2.trans (g3.mono H1.out.2.2.2.size)))))
      clear g1 g2 g3
      go_wp2_with (first | (refine wpList_load_ad rfl (.tmp 4) rfl rfl H2.out.1 ?_) | (refine wpList_load_ad rfl (.tmp 5) rfl rfl H2.out.2.1 ?_))
      refine (KO.out _ H2.out.2.2.2).mono ?_
      rintro e w3 ⟨rfl, g3⟩
      have H3 := Lib.hid (And.intro (H2.out.2.2.1.later g3 (Nat.le_refl _)) (H2.out.2.2.2.trans (g3.mono H2.out.2.2.2.size)))
      clear g3
      go_wp2_with fail
      refine (wrap_told (a := 0) 16 (Tells.bare _ 8 (by decide) 0) (by decide)).mono ?_
      rintro e w4 ⟨v4, rfl, g1, g2⟩
      have H4 := Lib.hid (And.intro (H3.out.1.later g2 (Nat.le_refl _)) (And.intro g1 (H3.out.2.trans (g2.mono H3.out.2.size))))
      have hg : w.heap.size ≤ W.heap.size := HA.out.2.2.size
      clear g1 g2
      go_wp2_with (refine wpList_store_sg rfl (.tmp 6) (.tmp 24) rfl .zero none 0 0 rfl rfl H4.out.1 ?_; intro w5 a3 o3 z3 b3; have H5 := Lib.hid (And.intro a3 (And.intro (b3 w.heap.size w hg H4.out.2.2) (H4.out.2.1.farSg H4.out.1 o3))); clear a3 o3 z3 b3)
      exact bodyPost_ret (results_sg_tmp rfl _ rfl H5.out.1) rfl ⟨none, 0, 0, v4, rfl, Bs.nil _, H5.out.2.2, H5.out.2.1⟩
    · rw [if_neg ho]
      obtain rfl : o = 0 := by omega
      have hx13 := get_part hl (i := 0) (k := k) (by omega) (j := 13) (by omega)
      rw [List.drop_zero, Nat.zero_add] at hx13
      obtain ⟨x, hx0, hxb⟩ := hx13
      rw [← hxb]
      have hxl := x.toNat_lt
      have HX := Lib.hid hx0
      clear hx0 hxb ho
      have q1 : (k : Int) ≤ (c : Int) := by omega
      have q2 : (k : Int) ≤ (n : Int) := by omega
      have q4 : (13 : Int) < (k : Int) := by omega
      have q3 : c = k ∨ ¬ c = k := by omega
      rcases q3 with q3 | q3
      · obtain rfl : k = n := by omega
        obtain rfl : k = c := q3.symm
        have hp0 := Bs.empty w (some ⟨b0, off0, none⟩) (c := 0) (by unfold maxLen; omega) (by simp)
        rw [show ([] : List UInt8) = l.drop k from (List.drop_of_length_le (by omega)).symm] at hp0
        have HP := Lib.hid hp0
        clear hp0
        go_enter Tryd.func7, Tryd.ntmps7
        go_wp2_with (rw [HW.out]; refine wpList_alloc_sg rfl rfl ?_; intro w1 a1 b1 z1; have H1 := Lib.hid (And.intro (HA.out.1.later b1 (Nat.le_refl _)) (And.intro (HA.out.2.1.later b1 (Nat.le_refl _)) (And.intro a1 (HA.out.2.2.trans (b1.mono HA.out.2.2.size))))); clear a1 b1 z1)
        refine (KH.out _ H1.out.2.2.2).mono ?_
        rintro e w2 ⟨A2, n2, c2, v2, rfl, g1, g2, g3⟩
        obtain rfl := Tells.none' g2 rfl
        obtain rfl : k = n2 := by rw [← g1.len, List.length_take]; omega
        obtain ⟨bb, of2, rfl, hc2⟩ := g1.here (by omega)
        have hc0 := hc2 13 x HX.out
        have H2 := Lib.hid (And.intro (H1.out.1.later g3 (Nat.le_refl _)) (And.intro (H1.out.2.1.later g3 (Nat.le_refl _)) (And.intro (H1.out.2.2.1.later g3 (Nat.le_refl _)) (And.intro (H1.out.2.2.2.trans (g3.mono H1.out.2.2.2.size)) (And.intro g1 hc0)))))
        clear g1 g2 g3 hc2 hc0
        go_wp2_with (first | (refine wpList_load_ad rfl (.tmp 4) rfl rfl H2.out.1 ?_) | (refine wpList_load_ad rfl (.tmp 5) rfl rfl H2.out.2.1 ?_))
        refine (KO.out _ H2.out.2.2.2.1).mono ?_
        rintro e w3 ⟨rfl, g3⟩
        have hS : Below w.heap.size w w3.drew ∧ w3.drew.heap[bb]? = w3.heap[bb]? := ⟨(H2.out.2.2.2.1.trans (g3.mono H2.out.2.2.2.1.size)).drew, rfl⟩
        have hb3 := (H2.out.2.2.2.2.1.later g3 (Nat.le_refl _)).later (w' := w3.drew) ((Below.refl _ _).drew) (Nat.le_refl _)
        have hbl : bb < w3.heap.size := Nat.lt_of_lt_of_le (lt_of_cell' H2.out.2.2.2.2.2) g3.size
        have hcb : w3.cell? ⟨bb, of2 + 13, none⟩ = some (.int .u8 x.toNat) := (g3.cell (Nat.lt_of_lt_of_le (lt_of_cell' H2.out.2.2.2.2.2) (Nat.le_refl _))).trans H2.out.2.2.2.2.2
        have hbne : bb ≠ W.heap.size := fun h => by
          have h2 := (H2.out.2.2.1.later g3 (Nat.le_refl _)).cell (of2 + 13)
          rw [← h, hcb] at h2
          simp [sgv] at h2
        have H3 := Lib.hid (And.intro ((H2.out.2.2.1.later g3 (Nat.le_refl _)).later (w' := w3.drew) ((Below.refl _ _).drew) (Nat.le_refl _)) (And.intro hb3 (And.intro hbl hbne)))
        have hc3 : ∀ w' : World, (Below w.heap.size w w' ∧ w'.heap[bb]? = w3.heap[bb]?) → w'.cell? ⟨bb, of2 + 13, none⟩ = some (.int .u8 x.toNat) := fun w' h => (World.cell?_of_block h.2).trans hcb
        clear g3 hb3 hbl hbne hcb
        go_wp2_with fail
        refine rg_begin (fun w' => Below w.heap.size w w' ∧ w'.heap[bb]? = w3.heap[bb]?) 21 (by kernel_rfl) rfl ?_
        refine rg_take 0 (v := ?rv1) rfl (by kernel_rfl) (by kernel_rfl) (by kernel_rfl) (fun _ _ _ h => h) (by rfl) hS (fun w2 hw2 => ?ry1) ?rr1
        case ry1 => ((try dsimp only at hw2); go_simp <;> with_reducible rfl)
        simp only [Act.put, List.setIfInBounds_toArray, List.set_cons_zero, List.set_cons_succ]
        refine rg_take 2 (v := ?rv2) rfl (by kernel_rfl) (by kernel_rfl) (by kernel_rfl) (fun _ _ _ h => h) (by rfl) hS (fun w2 hw2 => ?ry2) ?rr2
        case ry2 => ((try dsimp only at hw2); go_simp <;> with_reducible rfl)
        simp only [Act.put, List.setIfInBounds_toArray, List.set_cons_zero, List.set_cons_succ]
        refine rg_take 4 (v := ?rv3) rfl (by kernel_rfl) (by kernel_rfl) (by kernel_rfl) (fun _ _ _ h => h) (by rfl) hS (fun w2 hw2 => ?ry3) ?rr3
        case ry3 => ((try dsimp only at hw2); go_simp <;> with_reducible rfl)
        simp only [Act.put, List.setIfInBounds_toArray, List.set_cons_zero, List.set_cons_succ]
        refine rg_take 6 (v := ?rv4) rfl (by kernel_rfl) (by kernel_rfl) (by kernel_rfl) (fun _ _ _ h => h) (by rfl) hS (fun w2 hw2 => ?ry4) ?rr4
        case ry4 => ((try dsimp only at hw2); go_simp <;> with_reducible rfl)
        simp only [Act.put, List.setIfInBounds_toArray, List.set_cons_zero, List.set_cons_succ]
        refine rg_take 8 (v := ?rv5) rfl (by kernel_rfl) (by kernel_rfl) (by kernel_rfl) (fun _ _ _ h => h) (by rfl) hS (fun w2 hw2 => ?ry5) ?rr5
        case ry5 => ((try dsimp only at hw2); go_simp <;> with_reducible rfl)
        simp only [Act.put, List.setIfInBounds_toArray, List.set_cons_zero, List.set_cons_succ]
        refine rg_take 13 (v := ?rv6) rfl (by kernel_rfl) (by kernel_rfl) (by kernel_rfl) (fun _ _ _ h => h) (by rfl) hS (fun w2 hw2 => ?ry6) ?rr6
        case ry6 => ((try dsimp only at hw2); go_simp <;> with_reducible rfl)
        simp only [Act.put, List.setIfInBounds_toArray, List.set_cons_zero, List.set_cons_succ]
        refine rg_take 14 (v := ?rv7) rfl (by kernel_rfl) (by kernel_rfl) (by kernel_rfl) (fun _ _ _ h => h) (by rfl) hS (fun w2 hw2 => ?ry7) ?rr7
        case ry7 => ((try dsimp only at hw2); go_simp <;> with_reducible rfl)
        simp only [Act.put, List.setIfInBounds_toArray, List.set_cons_zero, List.set_cons_succ]
        refine rg_take 9 (v := ?rv8) rfl (by kernel_rfl) (by kernel_rfl) (by kernel_rfl) (fun _ _ _ h => h) (by rfl) hS (fun w2 hw2 => ?ry8) ?rr8
        case ry8 => ((try dsimp only at hw2); go_simp <;> with_reducible rfl)
        simp only [Act.put, List.setIfInBounds_toArray, List.set_cons_zero, List.set_cons_succ]
        refine rg_take 15 (v := ?rv9) rfl (by kernel_rfl) (by kernel_rfl) (by kernel_rfl) (fun _ _ _ h => h) (by rfl) hS (fun w2 hw2 => ?ry9) ?rr9
        case ry9 => ((try dsimp only at hw2); go_simp <;> with_reducible rfl)
        simp only [Act.put, List.setIfInBounds_toArray, List.set_cons_zero, List.set_cons_succ]
        refine rg_take 10 (v := ?rv10) rfl (by kernel_rfl) (by kernel_rfl) (by kernel_rfl) (fun _ _ _ h => h) (by rfl) hS (fun w2 hw2 => ?ry10) ?rr10
        case ry10 => ((try dsimp only at hw2); go_simp <;> with_reducible rfl)
        simp only [Act.put, List.setIfInBounds_toArray, List.set_cons_zero, List.set_cons_succ]
        refine rg_take 16 (v := ?rv11) rfl (by kernel_rfl) (by kernel_rfl) (by kernel_rfl) (fun _ _ _ h => h) (by rfl) hS (fun w2 hw2 => ?ry11) ?rr11
        case ry11 => ((try dsimp only at hw2); go_simp <;> with_reducible rfl)
        simp only [Act.put, List.setIfInBounds_toArray, List.set_cons_zero, List.set_cons_succ]
        refine rg_take 11 (v := ?rv12) rfl (by kernel_rfl) (by kernel_rfl) (by kernel_rfl) (fun _ _ _ h => h) (by rfl) hS (fun w2 hw2 => ?ry12) ?rr12
        case ry12 => ((try dsimp only at hw2); go_simp <;> with_reducible rfl)
        simp only [Act.put, List.setIfInBounds_toArray, List.set_cons_zero, List.set_cons_succ]
        refine rg_take 12 (v := ?rv13) rfl (by kernel_rfl) (by kernel_rfl) (by kernel_rfl) (fun _ _ _ h => h) (by rfl) hS (fun w2 hw2 => ?ry13) ?rr13
        case ry13 => ((try dsimp only at hw2); go_simp <;> with_reducible rfl)
        simp only [Act.put, List.setIfInBounds_toArray, List.set_cons_zero, List.set_cons_succ]
        have n0 := number16_any H3.out.2.1 0 (by omega)
        rw [num2_take (by omega)] at n0
        have n2 := number16_any H3.out.2.1 2 (by omega)
        rw [num2_take (by omega)] at n2
        have n4 := number32_any H3.out.2.1 4 (by omega)
        rw [num4_take (by omega)] at n4
        have n8 := number32_any H3.out.2.1 8 (by omega)
        rw [num4_take (by omega)] at n8
        refine rg_step 1 rfl (by kernel_rfl) (by rfl) (fun K hK => ?_)
        go_simp
        refine n0.mono ?_
        rintro e w' ⟨rfl, rfl⟩
        refine hK.out _ _ hS ?_
        clear hK K
        try simp only [Act.put, List.setIfInBounds_toArray, List.set_cons_zero, List.set_cons_succ]
        refine rg_step 3 rfl (by kernel_rfl) (by rfl) (fun K hK => ?_)
        go_simp
        refine n2.mono ?_
        rintro e w' ⟨rfl, rfl⟩
        refine hK.out _ _ hS ?_
        clear hK K
        try simp only [Act.put, List.setIfInBounds_toArray, List.set_cons_zero, List.set_cons_succ]
        refine rg_step 5 rfl (by kernel_rfl) (by rfl) (fun K hK => ?_)
        go_simp
        refine n4.mono ?_
        rintro e w' ⟨rfl, rfl⟩
        refine hK.out _ _ hS ?_
        clear hK K
        try simp only [Act.put, List.setIfInBounds_toArray, List.set_cons_zero, List.set_cons_succ]
        refine rg_step 7 rfl (by kernel_rfl) (by rfl) (fun K hK => ?_)
        go_simp
        refine n8.mono ?_
        rintro e w' ⟨rfl, rfl⟩
        refine hK.out _ _ hS ?_
        clear hK K
        try simp only [Act.put, List.setIfInBounds_toArray, List.set_cons_zero, List.set_cons_succ]
        refine rg_step 17 rfl (by kernel_rfl) (by rfl) (fun K hK => ?_)
        go_simp
        refine (clone_any (HP.out.later hS.1 (Nat.le_refl _)) (by omega)).mono ?_
        rintro e w4 ⟨v4, rfl, o4, g4⟩
        obtain ⟨A4, c4, rfl, hB4⟩ := Bs.of_own o4
        replace hS : Below w.heap.size w w4 ∧ w4.heap[bb]? = w3.heap[bb]? := ⟨hS.1.trans (g4.mono hS.1.size), (g4.block bb H3.out.2.2.1).trans hS.2⟩
        have hlw : W.heap.size < w3.drew.heap.size := H3.out.1.lt
        have H4 := Lib.hid (And.intro (H3.out.1.later g4 (Nat.le_refl _)) (And.intro o4 hlw))
        clear o4 g4 hB4 hlw
        refine hK.out _ _ hS ?_
        clear hK K
        try simp only [Act.put, List.setIfInBounds_toArray, List.set_cons_zero, List.set_cons_succ]
        refine rg_step 18 rfl (by kernel_rfl) (by rfl) (fun K hK => ?_)
        refine wp_build_sg (.tmp 28) (.tmp 30) (.tmp 32) (.tmp 34) (.tmp 39) (.tmp 44) rfl ⟨num2 l 0, num2 l 2, num4 l 4, num4 l 8, (x.toNat % 64 : Nat), l.drop k⟩ A4 _ c4 rfl rfl rfl rfl (congrArg (Value.int IntKind.i64) (flag_i64 ⟨x.toNat, hxl⟩)) rfl ?_
        refine hK.out _ _ hS ?_
        clear hK K
        try simp only [Act.put, List.setIfInBounds_toArray, List.set_cons_zero, List.set_cons_succ]
        refine rg_step 19 rfl (by kernel_rfl) (by rfl) (fun K hK => ?_)
        refine wp_store_sgF (.tmp 6) (.tmp 45) rfl ⟨num2 l 0, num2 l 2, num4 l 4, num4 l 8, (x.toNat % 64 : Nat), l.drop k⟩ A4 _ c4 rfl rfl H4.out.1 ?_
        intro w5 a5 o5 b5
        replace hS : Below w.heap.size w w5 ∧ w5.heap[bb]? = w3.heap[bb]? := ⟨b5 _ _ HA.out.2.2.size hS.1, (o5 bb H3.out.2.2.2).trans hS.2⟩
        have H5 := Lib.hid (And.intro a5 (And.intro hS.1 (Bs.own_later H4.out.2.1 fun j hj => o5 j (by have := H4.out.2.2; omega))))
        clear a5 o5 b5
        refine hK.out _ _ hS ?_
        clear hK K
        simp only [Act.put]
        refine rg_take 20 (v := ?rv14) rfl (by kernel_rfl) (by kernel_rfl) (by kernel_rfl) (fun _ _ _ h => h) (by rfl) hS (fun w2 hw2 => ?ry14) ?rr14
        case ry14 => ((try dsimp only at hw2); go_simp <;> with_reducible rfl)
        simp only [Act.put, List.setIfInBounds_toArray, List.set_cons_zero, List.set_cons_succ]
        refine rg_done (by kernel_rfl) ?_
        clear hS
        go_wp2_with fail
        exact bodyPost_ret (results_sg_tmp rfl _ rfl H5.out.1) rfl ⟨A4, _, c4, .nilIface, rfl, H5.out.2.2, Tells.nil _ _ _, H5.out.2.1⟩
      · have hcut := HB.out.cut (i := k) (k := n - k) (by omega) (A' := some ⟨b0, off0 + k, none⟩) (fun _ => by simp [add_plain]) (by simp)
        rw [List.take_of_length_le (by rw [List.length_drop, hl]; exact Nat.le_refl _)] at hcut
        have HP := Lib.hid hcut
        clear hcut
        go_enter Tryd.func7, Tryd.ntmps7
        go_wp2_with (rw [HW.out]; refine wpList_alloc_sg rfl rfl ?_; intro w1 a1 b1 z1; have H1 := Lib.hid (And.intro (HA.out.1.later b1 (Nat.le_refl _)) (And.intro (HA.out.2.1.later b1 (Nat.le_refl _)) (And.intro a1 (HA.out.2.2.trans (b1.mono HA.out.2.2.size))))); clear a1 b1 z1)
        refine (KH.out _ H1.out.2.2.2).mono ?_
        rintro e w2 ⟨A2, n2, c2, v2, rfl, g1, g2, g3⟩
        obtain rfl := Tells.none' g2 rfl
        obtain rfl : k = n2 := by rw [← g1.len, List.length_take]; omega
        obtain ⟨bb, of2, rfl, hc2⟩ := g1.here (by omega)
        have hc0 := hc2 13 x HX.out
        have H2 := Lib.hid (And.intro (H1.out.1.later g3 (Nat.le_refl _)) (And.intro (H1.out.2.1.later g3 (Nat.le_refl _)) (And.intro (H1.out.2.2.1.later g3 (Nat.le_refl _)) (And.intro (H1.out.2.2.2.trans (g3.mono H1.out.2.2.2.size)) (And.intro g1 hc0)))))
        clear g1 g2 g3 hc2 hc0
        go_wp2_with (first | (refine wpList_load_ad rfl (.tmp 4) rfl rfl H2.out.1 ?_) | (refine wpList_load_ad rfl (.tmp 5) rfl rfl H2.out.2.1 ?_))
        refine (KO.out _ H2.out.2.2.2.1).mono ?_
        rintro e w3 ⟨rfl, g3⟩
        have hS : Below w.heap.size w w3.drew ∧ w3.drew.heap[bb]? = w3.heap[bb]? := ⟨(H2.out.2.2.2.1.trans (g3.mono H2.out.2.2.2.1.size)).drew, rfl⟩
        have hb3 := (H2.out.2.2.2.2.1.later g3 (Nat.le_refl _)).later (w' := w3.drew) ((Below.refl _ _).drew) (Nat.le_refl _)
        have hbl : bb < w3.heap.size := Nat.lt_of_lt_of_le (lt_of_cell' H2.out.2.2.2.2.2) g3.size
        have hcb : w3.cell? ⟨bb, of2 + 13, none⟩ = some (.int .u8 x.toNat) := (g3.cell (Nat.lt_of_lt_of_le (lt_of_cell' H2.out.2.2.2.2.2) (Nat.le_refl _))).trans H2.out.2.2.2.2.2
        have hbne : bb ≠ W.heap.size := fun h => by
          have h2 := (H2.out.2.2.1.later g3 (Nat.le_refl _)).cell (of2 + 13)
          rw [← h, hcb] at h2
          simp [sgv] at h2
        have H3 := Lib.hid (And.intro ((H2.out.2.2.1.later g3 (Nat.le_refl _)).later (w' := w3.drew) ((Below.refl _ _).drew) (Nat.le_refl _)) (And.intro hb3 (And.intro hbl hbne)))
        have hc3 : ∀ w' : World, (Below w.heap.size w w' ∧ w'.heap[bb]? = w3.heap[bb]?) → w'.cell? ⟨bb, of2 + 13, none⟩ = some (.int .u8 x.toNat) := fun w' h => (World.cell?_of_block h.2).trans hcb
        clear g3 hb3 hbl hbne hcb
        go_wp2_with fail
        refine rg_begin (fun w' => Below w.heap.size w w' ∧ w'.heap[bb]? = w3.heap[bb]?) 21 (by kernel_rfl) rfl ?_
        refine rg_take 0 (v := ?rv15) rfl (by kernel_rfl) (by kernel_rfl) (by kernel_rfl) (fun _ _ _ h => h) (by rfl) hS (fun w2 hw2 => ?ry15) ?rr15
        case ry15 => ((try dsimp only at hw2); go_simp <;> with_reducible rfl)
        simp only [Act.put, List.setIfInBounds_toArray, List.set_cons_zero, List.set_cons_succ]
        refine rg_take 2 (v := ?rv16) rfl (by kernel_rfl) (by kernel_rfl) (by kernel_rfl) (fun _ _ _ h => h) (by rfl) hS (fun w2 hw2 => ?ry16) ?rr16
        case ry16 => ((try dsimp only at hw2); go_simp <;> with_reducible rfl)
        simp only [Act.put, List.setIfInBounds_toArray, List.set_cons_zero, List.set_cons_succ]
        refine rg_take 4 (v := ?rv17) rfl (by kernel_rfl) (by kernel_rfl) (by kernel_rfl) (fun _ _ _ h => h) (by rfl) hS (fun w2 hw2 => ?ry17) ?rr17
        case ry17 => ((try dsimp only at hw2); go_simp <;> with_reducible rfl)
        simp only [Act.put, List.setIfInBounds_toArray, List.set_cons_zero, List.set_cons_succ]
        refine rg_take 6 (v := ?rv18) rfl (by kernel_rfl) (by kernel_rfl) (by kernel_rfl) (fun _ _ _ h => h) (by rfl) hS (fun w2 hw2 => ?ry18) ?rr18
        case ry18 => ((try dsimp only at hw2); go_simp <;> with_reducible rfl)
        simp only [Act.put, List.setIfInBounds_toArray, List.set_cons_zero, List.set_cons_succ]
        refine rg_take 8 (v := ?rv19) rfl (by kernel_rfl) (by kernel_rfl) (by kernel_rfl) (fun _ _ _ h => h) (by rfl) hS (fun w2 hw2 => ?ry19) ?rr19
        case ry19 => ((try dsimp only at hw2); go_simp <;> with_reducible rfl)
        simp only [Act.put, List.setIfInBounds_toArray, List.set_cons_zero, List.set_cons_succ]
        refine rg_take 13 (v := ?rv20) rfl (by kernel_rfl) (by kernel_rfl) (by kernel_rfl) (fun _ _ _ h => h) (by rfl) hS (fun w2 hw2 => ?ry20) ?rr20
        case ry20 => ((try dsimp only at hw2); go_simp <;> with_reducible rfl)
        simp only [Act.put, List.setIfInBounds_toArray, List.set_cons_zero, List.set_cons_succ]
        refine rg_take 14 (v := ?rv21) rfl (by kernel_rfl) (by kernel_rfl) (by kernel_rfl) (fun _ _ _ h => h) (by rfl) hS (fun w2 hw2 => ?ry21) ?rr21
        case ry21 => ((try dsimp only at hw2); go_simp <;> with_reducible rfl)
        simp only [Act.put, List.setIfInBounds_toArray, List.set_cons_zero, List.set_cons_succ]
        refine rg_take 9 (v := ?rv22) rfl (by kernel_rfl) (by kernel_rfl) (by kernel_rfl) (fun _ _ _ h => h) (by rfl) hS (fun w2 hw2 => ?ry22) ?rr22
        case ry22 => ((try dsimp only at hw2); go_simp <;> with_reducible rfl)
        simp only [Act.put, List.setIfInBounds_toArray, List.set_cons_zero, List.set_cons_succ]
        refine rg_take 15 (v := ?rv23) rfl (by kernel_rfl) (by kernel_rfl) (by kernel_rfl) (fun _ _ _ h => h) (by rfl) hS (fun w2 hw2 => ?ry23) ?rr23
        case ry23 => ((try dsimp only at hw2); go_simp <;> with_reducible rfl)
        simp only [Act.put, List.setIfInBounds_toArray, List.set_cons_zero, List.set_cons_succ]
        refine rg_take 10 (v := ?rv24) rfl (by kernel_rfl) (by kernel_rfl) (by kernel_rfl) (fun _ _ _ h => h) (by rfl) hS (fun w2 hw2 => ?ry24) ?rr24
        case ry24 => ((try dsimp only at hw2); go_simp <;> with_reducible rfl)
        simp only [Act.put, List.setIfInBounds_toArray, List.set_cons_zero, List.set_cons_succ]
        refine rg_take 16 (v := ?rv25) rfl (by kernel_rfl) (by kernel_rfl) (by kernel_rfl) (fun _ _ _ h => h) (by rfl) hS (fun w2 hw2 => ?ry25) ?rr25
        case ry25 => ((try dsimp only at hw2); go_simp <;> with_reducible rfl)
        simp only [Act.put, List.setIfInBounds_toArray, List.set_cons_zero, List.set_cons_succ]
        refine rg_take 11 (v := ?rv26) rfl (by kernel_rfl) (by kernel_rfl) (by kernel_rfl) (fun _ _ _ h => h) (by rfl) hS (fun w2 hw2 => ?ry26) ?rr26
        case ry26 => ((try dsimp only at hw2); go_simp <;> with_reducible rfl)
        simp only [Act.put, List.setIfInBounds_toArray, List.set_cons_zero, List.set_cons_succ]
        refine rg_take 12 (v := ?rv27) rfl (by kernel_rfl) (by kernel_rfl) (by kernel_rfl) (fun _ _ _ h => h) (by rfl) hS (fun w2 hw2 => ?ry27) ?rr27
        case ry27 => ((try dsimp only at hw2); go_simp <;> with_reducible rfl)
        simp only [Act.put, List.setIfInBounds_toArray, List.set_cons_zero, List.set_cons_succ]
        have n0 := number16_any H3.out.2.1 0 (by omega)
        rw [num2_take (by omega)] at n0
        have n2 := number16_any H3.out.2.1 2 (by omega)
        rw [num2_take (by omega)] at n2
        have n4 := number32_any H3.out.2.1 4 (by omega)
        rw [num4_take (by omega)] at n4
        have n8 := number32_any H3.out.2.1 8 (by omega)
        rw [num4_take (by omega)] at n8
        refine rg_step 1 rfl (by kernel_rfl) (by rfl) (fun K hK => ?_)
        go_simp
        refine n0.mono ?_
        rintro e w' ⟨rfl, rfl⟩
        refine hK.out _ _ hS ?_
        clear hK K
        try simp only [Act.put, List.setIfInBounds_toArray, List.set_cons_zero, List.set_cons_succ]
        refine rg_step 3 rfl (by kernel_rfl) (by rfl) (fun K hK => ?_)
        go_simp
        refine n2.mono ?_
        rintro e w' ⟨rfl, rfl⟩
        refine hK.out _ _ hS ?_
        clear hK K
        try simp only [Act.put, List.setIfInBounds_toArray, List.set_cons_zero, List.set_cons_succ]
        refine rg_step 5 rfl (by kernel_rfl) (by rfl) (fun K hK => ?_)
        go_simp
        refine n4.mono ?_
        rintro e w' ⟨rfl, rfl⟩
        refine hK.out _ _ hS ?_
        clear hK K
        try simp only [Act.put, List.setIfInBounds_toArray, List.set_cons_zero, List.set_cons_succ]
        refine rg_step 7 rfl (by kernel_rfl) (by rfl) (fun K hK => ?_)
        go_simp
        refine n8.mono ?_
        rintro e w' ⟨rfl, rfl⟩
        refine hK.out _ _ hS ?_
        clear hK K
        try simp only [Act.put, List.setIfInBounds_toArray, List.set_cons_zero, List.set_cons_succ]
        refine rg_step 17 rfl (by kernel_rfl) (by rfl) (fun K hK => ?_)
        go_simp
        refine (clone_any (HP.out.later hS.1 (Nat.le_refl _)) (by omega)).mono ?_
        rintro e w4 ⟨v4, rfl, o4, g4⟩
        obtain ⟨A4, c4, rfl, hB4⟩ := Bs.of_own o4
        replace hS : Below w.heap.size w w4 ∧ w4.heap[bb]? = w3.heap[bb]? := ⟨hS.1.trans (g4.mono hS.1.size), (g4.block bb H3.out.2.2.1).trans hS.2⟩
        have hlw : W.heap.size < w3.drew.heap.size := H3.out.1.lt
        have H4 := Lib.hid (And.intro (H3.out.1.later g4 (Nat.le_refl _)) (And.intro o4 hlw))
        clear o4 g4 hB4 hlw
        refine hK.out _ _ hS ?_
        clear hK K
        try simp only [Act.put, List.setIfInBounds_toArray, List.set_cons_zero, List.set_cons_succ]
        refine rg_step 18 rfl (by kernel_rfl) (by rfl) (fun K hK => ?_)
        refine wp_build_sg (.tmp 28) (.tmp 30) (.tmp 32) (.tmp 34) (.tmp 39) (.tmp 44) rfl ⟨num2 l 0, num2 l 2, num4 l 4, num4 l 8, (x.toNat % 64 : Nat), l.drop k⟩ A4 _ c4 rfl rfl rfl rfl (congrArg (Value.int IntKind.i64) (flag_i64 ⟨x.toNat, hxl⟩)) rfl ?_
        refine hK.out _ _ hS ?_
        clear hK K
        try simp only [Act.put, List.setIfInBounds_toArray, List.set_cons_zero, List.set_cons_succ]
        refine rg_step 19 rfl (by kernel_rfl) (by rfl) (fun K hK => ?_)
        refine wp_store_sgF (.tmp 6) (.tmp 45) rfl ⟨num2 l 0, num2 l 2, num4 l 4, num4 l 8, (x.toNat % 64 : Nat), l.drop k⟩ A4 _ c4 rfl rfl H4.out.1 ?_
        intro w5 a5 o5 b5
        replace hS : Below w.heap.size w w5 ∧ w5.heap[bb]? = w3.heap[bb]? := ⟨b5 _ _ HA.out.2.2.size hS.1, (o5 bb H3.out.2.2.2).trans hS.2⟩
        have H5 := Lib.hid (And.intro a5 (And.intro hS.1 (Bs.own_later H4.out.2.1 fun j hj => o5 j (by have := H4.out.2.2; omega))))
        clear a5 o5 b5
        refine hK.out _ _ hS ?_
        clear hK K
        simp only [Act.put]
        refine rg_take 20 (v := ?rv28) rfl (by kernel_rfl) (by kernel_rfl) (by kernel_rfl) (fun _ _ _ h => h) (by rfl) hS (fun w2 hw2 => ?ry28) ?rr28
        case ry28 => ((try dsimp only at hw2); go_simp <;> with_reducible rfl)
        simp only [Act.put, List.setIfInBounds_toArray, List.set_cons_zero, List.set_cons_succ]
        refine rg_done (by kernel_rfl) ?_
        clear hS
        go_wp2_with fail
        exact bodyPost_ret (results_sg_tmp rfl _ rfl H5.out.1) rfl ⟨A4, _, c4, .nilIface, rfl, H5.out.2.2, Tells.nil _ _ _, H5.out.2.1⟩
end Go.Proofs.YtioonjgamdompaaDoor
