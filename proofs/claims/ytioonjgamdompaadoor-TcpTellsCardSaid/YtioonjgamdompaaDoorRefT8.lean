/-
  stockaderef01.Tcp: the document's own answers on segments. Conditions: those of the slice; 2^47 bytes at most.
-/
import Derived.Test.YtioonjgamdompaaDoorPar8
import Derived.Test.YtioonjgamdompaaDoorRefOver
import Derived.Test.YtioonjgamdompaaDoorRef
namespace Go.Proofs.YtioonjgamdompaaDoor
open Go.RowKit
set_option maxRecDepth 100000

/-- What the reference of Parse hands back. -/
def ParF (r : Sg × Fl) (w : World) (e : Ending) (w' : World) : Prop := ∃ A' n' c', e = .returned (.tuple #[.agg (sgv r.1 A' n' c'), .agg (flv r.2.code r.2.at_ r.2.placed)]) ∧ Bs w' A' n' c' r.1.pay ∧ Below w.heap.size w w'
theorem flag_ref : ∀ x : Fin 256, IntKind.i64.wrap (bits BinOp.and IntKind.u8 ((x.val : Nat) : Int) 63) = ((x.val % 64 : Nat) : Int) := by decide +kernel
theorem u32_in {k : Nat} (h : k < 4294967296) : IntKind.u32.wrap (k : Int) = k := by rw [wrap_u32']; omega
set_option maxHeartbeats 2000000 in
theorem ref_tcp {A : Option Addr} {n c : Nat} {l : List UInt8} {w : World} (hb : Bs w A n c l) (h47 : n ≤ 140737488350000) (sv dv : Bool) {sb db : List UInt8} (hsb : sb.length = 16) (hdb : db.length = 16) :
    Calls Tryd.prog 8 #[.slice A n c, .agg (adv sv sb), .agg (adv dv db)] w (ParF (tcpv (cks (aheadL sv sb db 6 n ++ l)) l n) w) := by
  have hl := hb.len
  have HB := Lib.hid hb
  have hcap := hb.cap
  have hmax := hb.max
  unfold maxLen at hmax
  have A1 := AdBox.new w sv hsb
  have B1 : Below w.heap.size w (w.alloc (.cells (adv sv sb) 25)) := (Below.refl _ _).alloc (Nat.le_refl _) _
  have A2 := AdBox.new (w.alloc (.cells (adv sv sb) 25)) dv hdb
  rw [World.size_alloc] at A2
  have B2 : Below (w.heap.size + 1) (w.alloc (.cells (adv sv sb) 25)) ((w.alloc (.cells (adv sv sb) 25)).alloc (.cells (adv dv db) 25)) := (Below.refl _ _).alloc (by simp) _
  have hA := And.intro (A1.later B2 (by simp)) (And.intro A2 (B1.trans (B2.mono (by omega))))
  obtain ⟨W, hW⟩ : ∃ W, (w.alloc (.cells (adv sv sb) 25)).alloc (.cells (adv dv db) 25) = W := ⟨_, rfl⟩
  rw [hW] at hA
  have HA := Lib.hid hA
  have HW := Lib.hid hW
  clear A1 B1 A2 B2 hA hW hb
  unfold tcpv
  by_cases hs : n < 20
  · rw [if_pos hs]
    go_enter Tryd.func8, Tryd.ntmps8
    go_wp2_with (first
      | (rw [HW.out]; refine wpList_alloc_sg rfl rfl ?_; intro w1 a1 b1 z1; have H1 := Lib.hid (And.intro (HA.out.1.later b1 (Nat.le_refl _)) (And.intro (HA.out.2.1.later b1 (Nat.le_refl _)) (And.intro a1 (And.intro (HA.out.2.2.trans (b1.mono HA.out.2.2.size)) b1)))); clear a1 b1 z1)
      | (refine wpList_alloc_fl rfl rfl ?_; intro w2 a2 b2 z2; have H2 := Lib.hid (And.intro (H1.out.1.later b2 (Nat.le_refl _)) (And.intro (H1.out.2.1.later b2 (Nat.le_refl _)) (And.intro (H1.out.2.2.1.later b2 (Nat.le_refl _)) (And.intro a2 (And.intro (H1.out.2.2.2.1.trans (b2.mono H1.out.2.2.2.1.size)) b2))))); clear a2 b2 z2))
    have HX := Lib.hid (And.intro H2.out.2.2.1 (And.intro H2.out.2.2.2.1 H2.out.2.2.2.2.1))
    refine (help_at 3 0 _).mono ?_
    rintro e w7 ⟨rfl, g7⟩
    have H7 := Lib.hid (And.intro (HX.out.1.later g7 (Nat.le_refl _)) (And.intro (HX.out.2.1.later g7 (Nat.le_refl _)) (HX.out.2.2.trans (g7.mono HX.out.2.2.size))))
    have hg : w.heap.size ≤ W.heap.size := HA.out.2.2.size
    have hg1 : W.heap.size < w1.heap.size := H1.out.2.2.1.lt
    have hg2 : w.heap.size ≤ w1.heap.size := by omega
    clear g7
    go_wp2_with (first
      | (refine wpList_store_sg rfl (.tmp 6) (.tmp 12) rfl .zero none 0 0 rfl rfl H7.out.1 ?_; intro w8 a8 o8 z8 b8; have H8 := Lib.hid (And.intro a8 (And.intro (H7.out.2.1.same (o8 _ (by omega))) (b8 w.heap.size w hg H7.out.2.2))); clear a8 o8 z8 b8)
      | (refine wpList_store_fl rfl (.tmp 7) (.tmp 13) rfl 3 0 true rfl rfl H8.out.2.1 ?_; intro w9 a9 o9 z9 b9; have H9 := Lib.hid (And.intro (H8.out.1.same (o9 _ (by omega))) (And.intro a9 (b9 w.heap.size w hg2 H8.out.2.2))); clear a9 o9 z9 b9))
    exact bodyPost_ret (results_sg_fl rfl _ rfl rfl H9.out.1 H9.out.2.1) rfl ⟨none, 0, 0, rfl, Bs.nil _, H9.out.2.2⟩
  rw [if_neg hs]
  obtain ⟨b0, off0, rfl, hc0⟩ := HB.out.here (by omega)
  obtain ⟨x, hx, hxb⟩ := bat_some hl (i := 12) (by omega)
  have d12 : ∀ w', Below w.heap.size w w' → w'.cell? ⟨b0, off0 + 12, none⟩ = some (.int .u8 x.toNat) := fun w' h => by
    have hc := hc0 12 x hx
    exact (h.cell (lt_of_cell' hc)).trans hc
  have D12 := Lib.hid d12
  have hxl := x.toNat_lt
  rw [hxb]
  clear hx hxb d12
  by_cases h5 : x.toNat / 16 < 5
  · rw [if_pos (.inl h5)]
    have q5 : (x.toNat : Int) / 16 * 4 < 20 := by omega
    clear hc0
    go_enter Tryd.func8, Tryd.ntmps8
    go_wp2_with (first
      | (rw [HW.out]; refine wpList_alloc_sg rfl rfl ?_; intro w1 a1 b1 z1; have H1 := Lib.hid (And.intro (HA.out.1.later b1 (Nat.le_refl _)) (And.intro (HA.out.2.1.later b1 (Nat.le_refl _)) (And.intro a1 (And.intro (HA.out.2.2.trans (b1.mono HA.out.2.2.size)) b1)))); clear a1 b1 z1)
      | (refine wpList_alloc_fl rfl rfl ?_; intro w2 a2 b2 z2; have H2 := Lib.hid (And.intro (H1.out.1.later b2 (Nat.le_refl _)) (And.intro (H1.out.2.1.later b2 (Nat.le_refl _)) (And.intro (H1.out.2.2.1.later b2 (Nat.le_refl _)) (And.intro a2 (And.intro (H1.out.2.2.2.1.trans (b2.mono H1.out.2.2.2.1.size)) b2))))); have d12 := D12.out _ H2.out.2.2.2.2.1; clear a2 b2 z2))
    have HX := Lib.hid (And.intro H2.out.2.2.1 (And.intro H2.out.2.2.2.1 H2.out.2.2.2.2.1))
    refine (help_at 7 12 _).mono ?_
    rintro e w7 ⟨rfl, g7⟩
    have H7 := Lib.hid (And.intro (HX.out.1.later g7 (Nat.le_refl _)) (And.intro (HX.out.2.1.later g7 (Nat.le_refl _)) (HX.out.2.2.trans (g7.mono HX.out.2.2.size))))
    have hg : w.heap.size ≤ W.heap.size := HA.out.2.2.size
    have hg1 : W.heap.size < w1.heap.size := H1.out.2.2.1.lt
    have hg2 : w.heap.size ≤ w1.heap.size := by omega
    clear g7
    go_wp2_with (first
      | (refine wpList_store_sg rfl (.tmp 6) (.tmp 28) rfl .zero none 0 0 rfl rfl H7.out.1 ?_; intro w8 a8 o8 z8 b8; have H8 := Lib.hid (And.intro a8 (And.intro (H7.out.2.1.same (o8 _ (by omega))) (b8 w.heap.size w hg H7.out.2.2))); clear a8 o8 z8 b8)
      | (refine wpList_store_fl rfl (.tmp 7) (.tmp 29) rfl 7 12 true rfl rfl H8.out.2.1 ?_; intro w9 a9 o9 z9 b9; have H9 := Lib.hid (And.intro (H8.out.1.same (o9 _ (by omega))) (And.intro a9 (b9 w.heap.size w hg2 H8.out.2.2))); clear a9 o9 z9 b9))
    exact bodyPost_ret (results_sg_fl rfl _ rfl rfl H9.out.1 H9.out.2.1) rfl ⟨none, 0, 0, rfl, Bs.nil _, H9.out.2.2⟩
  have q5 : ¬ (x.toNat : Int) / 16 * 4 < 20 := by omega
  by_cases h6 : n < 4 * (x.toNat / 16)
  · rw [if_pos (.inr h6)]
    have q6 : (n : Int) < (x.toNat : Int) / 16 * 4 := by omega
    clear hc0
    go_enter Tryd.func8, Tryd.ntmps8
    go_wp2_with (first
      | (rw [HW.out]; refine wpList_alloc_sg rfl rfl ?_; intro w1 a1 b1 z1; have H1 := Lib.hid (And.intro (HA.out.1.later b1 (Nat.le_refl _)) (And.intro (HA.out.2.1.later b1 (Nat.le_refl _)) (And.intro a1 (And.intro (HA.out.2.2.trans (b1.mono HA.out.2.2.size)) b1)))); clear a1 b1 z1)
      | (refine wpList_alloc_fl rfl rfl ?_; intro w2 a2 b2 z2; have H2 := Lib.hid (And.intro (H1.out.1.later b2 (Nat.le_refl _)) (And.intro (H1.out.2.1.later b2 (Nat.le_refl _)) (And.intro (H1.out.2.2.1.later b2 (Nat.le_refl _)) (And.intro a2 (And.intro (H1.out.2.2.2.1.trans (b2.mono H1.out.2.2.2.1.size)) b2))))); have d12 := D12.out _ H2.out.2.2.2.2.1; clear a2 b2 z2))
    have HX := Lib.hid (And.intro H2.out.2.2.1 (And.intro H2.out.2.2.2.1 H2.out.2.2.2.2.1))
    refine (help_at 7 12 _).mono ?_
    rintro e w7 ⟨rfl, g7⟩
    have H7 := Lib.hid (And.intro (HX.out.1.later g7 (Nat.le_refl _)) (And.intro (HX.out.2.1.later g7 (Nat.le_refl _)) (HX.out.2.2.trans (g7.mono HX.out.2.2.size))))
    have hg : w.heap.size ≤ W.heap.size := HA.out.2.2.size
    have hg1 : W.heap.size < w1.heap.size := H1.out.2.2.1.lt
    have hg2 : w.heap.size ≤ w1.heap.size := by omega
    clear g7
    go_wp2_with (first
      | (refine wpList_store_sg rfl (.tmp 6) (.tmp 28) rfl .zero none 0 0 rfl rfl H7.out.1 ?_; intro w8 a8 o8 z8 b8; have H8 := Lib.hid (And.intro a8 (And.intro (H7.out.2.1.same (o8 _ (by omega))) (b8 w.heap.size w hg H7.out.2.2))); clear a8 o8 z8 b8)
      | (refine wpList_store_fl rfl (.tmp 7) (.tmp 29) rfl 7 12 true rfl rfl H8.out.2.1 ?_; intro w9 a9 o9 z9 b9; have H9 := Lib.hid (And.intro (H8.out.1.same (o9 _ (by omega))) (And.intro a9 (b9 w.heap.size w hg2 H8.out.2.2))); clear a9 o9 z9 b9))
    exact bodyPost_ret (results_sg_fl rfl _ rfl rfl H9.out.1 H9.out.2.1) rfl ⟨none, 0, 0, rfl, Bs.nil _, H9.out.2.2⟩
  have q6 : ¬ (n : Int) < (x.toNat : Int) / 16 * 4 := by omega
  rw [if_neg (show ¬ (x.toNat / 16 < 5 ∨ n < 4 * (x.toNat / 16)) by omega)]
  have ko := fun w1 (hb1 : Below w.heap.size w w1) => ref_over sv dv sb db hsb hdb 6 (HB.out.later hb1 (Nat.le_refl _)) h47
  generalize cks (aheadL sv sb db 6 n ++ l) = o at ko ⊢
  have KO := Lib.hid ko
  clear ko
  by_cases ho : o ≠ 0
  · rw [if_pos ho]
    have ho' : ¬ (o : Int) = 0 := by omega
    clear hc0
    go_enter Tryd.func8, Tryd.ntmps8
    go_wp2_with (first
      | (refine wpList_load_ad rfl (.tmp 4) rfl rfl H2.out.1 ?_) | (refine wpList_load_ad rfl (.tmp 5) rfl rfl H2.out.2.1 ?_)
      | (rw [HW.out]; refine wpList_alloc_sg rfl rfl ?_; intro w1 a1 b1 z1; have H1 := Lib.hid (And.intro (HA.out.1.later b1 (Nat.le_refl _)) (And.intro (HA.out.2.1.later b1 (Nat.le_refl _)) (And.intro a1 (And.intro (HA.out.2.2.trans (b1.mono HA.out.2.2.size)) b1)))); clear a1 b1 z1)
      | (refine wpList_alloc_fl rfl rfl ?_; intro w2 a2 b2 z2; have H2 := Lib.hid (And.intro (H1.out.1.later b2 (Nat.le_refl _)) (And.intro (H1.out.2.1.later b2 (Nat.le_refl _)) (And.intro (H1.out.2.2.1.later b2 (Nat.le_refl _)) (And.intro a2 (And.intro (H1.out.2.2.2.1.trans (b2.mono H1.out.2.2.2.1.size)) b2))))); have d12 := D12.out _ H2.out.2.2.2.2.1; clear a2 b2 z2))
    refine (KO.out _ H2.out.2.2.2.2.1).mono ?_
    rintro e w3 ⟨rfl, g3⟩
    have H3 := Lib.hid (And.intro (H2.out.2.2.1.later g3 (Nat.le_refl _)) (And.intro (H2.out.2.2.2.1.later g3 (Nat.le_refl _)) (H2.out.2.2.2.2.1.trans (g3.mono H2.out.2.2.2.2.1.size))))
    clear g3
    go_wp2_with fail
    refine (help_at 8 16 _).mono ?_
    rintro e w7 ⟨rfl, g7⟩
    have H7 := Lib.hid (And.intro (H3.out.1.later g7 (Nat.le_refl _)) (And.intro (H3.out.2.1.later g7 (Nat.le_refl _)) (H3.out.2.2.trans (g7.mono H3.out.2.2.size))))
    have hg : w.heap.size ≤ W.heap.size := HA.out.2.2.size
    have hg1 : W.heap.size < w1.heap.size := H1.out.2.2.1.lt
    have hg2 : w.heap.size ≤ w1.heap.size := by omega
    clear g7
    go_wp2_with (first
      | (refine wpList_store_sg rfl (.tmp 6) (.tmp 35) rfl .zero none 0 0 rfl rfl H7.out.1 ?_; intro w8 a8 o8 z8 b8; have H8 := Lib.hid (And.intro a8 (And.intro (H7.out.2.1.same (o8 _ (by omega))) (b8 w.heap.size w hg H7.out.2.2))); clear a8 o8 z8 b8)
      | (refine wpList_store_fl rfl (.tmp 7) (.tmp 36) rfl 8 16 true rfl rfl H8.out.2.1 ?_; intro w9 a9 o9 z9 b9; have H9 := Lib.hid (And.intro (H8.out.1.same (o9 _ (by omega))) (And.intro a9 (b9 w.heap.size w hg2 H8.out.2.2))); clear a9 o9 z9 b9))
    exact bodyPost_ret (results_sg_fl rfl _ rfl rfl H9.out.1 H9.out.2.1) rfl ⟨none, 0, 0, rfl, Bs.nil _, H9.out.2.2⟩
  · rw [if_neg ho]
    obtain rfl : o = 0 := by omega
    obtain ⟨y, hy, hyb⟩ := bat_some hl (i := 13) (by omega)
    have D13 := Lib.hid fun w' (h : Below w.heap.size w w') => (h.cell (lt_of_cell' (hc0 13 y hy))).trans (hc0 13 y hy)
    have hyl := y.toNat_lt
    rw [hyb]
    clear hy hyb ho hc0
    have he : (x.toNat : Int) / 16 * 4 = ((4 * (x.toNat / 16) : Nat) : Int) := by omega
    obtain ⟨k, hk⟩ : ∃ k, 4 * (x.toNat / 16) = k := ⟨_, rfl⟩
    rw [hk] at he ⊢
    have q1 : (k : Int) ≤ (c : Int) := by omega
    have q2 : (k : Int) ≤ (n : Int) := by omega
    have q4 : (13 : Int) < (n : Int) := by omega
    have q7 : 20 ≤ k := by omega
    have q8 : k ≤ n := by omega
    have HE := Lib.hid he
    clear hk
    have q3 : c = k ∨ ¬ c = k := by omega
    rcases q3 with q3 | q3
    · obtain rfl : k = n := by omega
      obtain rfl : k = c := q3.symm
      have hp0 := Bs.empty w (some ⟨b0, off0, none⟩) (c := 0) (by unfold maxLen; omega) (by simp)
      rw [show ([] : List UInt8) = l.drop k from (List.drop_of_length_le (by omega)).symm] at hp0
      have HP := Lib.hid hp0
      clear hp0
      go_enter Tryd.func8, Tryd.ntmps8
      go_wp2_with (first
        | (refine wpList_load_ad rfl (.tmp 4) rfl rfl H2.out.1 ?_) | (refine wpList_load_ad rfl (.tmp 5) rfl rfl H2.out.2.1 ?_)
        | (rw [HW.out]; refine wpList_alloc_sg rfl rfl ?_; intro w1 a1 b1 z1; have H1 := Lib.hid (And.intro (HA.out.1.later b1 (Nat.le_refl _)) (And.intro (HA.out.2.1.later b1 (Nat.le_refl _)) (And.intro a1 (And.intro (HA.out.2.2.trans (b1.mono HA.out.2.2.size)) b1)))); clear a1 b1 z1)
        | (refine wpList_alloc_fl rfl rfl ?_; intro w2 a2 b2 z2; have H2 := Lib.hid (And.intro (H1.out.1.later b2 (Nat.le_refl _)) (And.intro (H1.out.2.1.later b2 (Nat.le_refl _)) (And.intro (H1.out.2.2.1.later b2 (Nat.le_refl _)) (And.intro a2 (And.intro (H1.out.2.2.2.1.trans (b2.mono H1.out.2.2.2.1.size)) b2))))); have d12 := D12.out _ H2.out.2.2.2.2.1; clear a2 b2 z2))
      refine (KO.out _ H2.out.2.2.2.2.1).mono ?_
      rintro e w3 ⟨rfl, g3⟩
      have H3 := Lib.hid (And.intro (H2.out.2.2.1.later g3 (Nat.le_refl _)) (And.intro (H2.out.2.2.2.1.later g3 (Nat.le_refl _)) (H2.out.2.2.2.2.1.trans (g3.mono H2.out.2.2.2.2.1.size))))
      clear g3
      go_wp2_with fail
      have hS : Below w.heap.size w w3.drew := H3.out.2.2.drew
      have d13 := D13.out
      have n0 := num_any (HB.out.later hS (Nat.le_refl _)) 0 2 (by omega) (by omega)
      have n2 := num_any (HB.out.later hS (Nat.le_refl _)) 2 2 (by omega) (by omega)
      have n4 := num_any (HB.out.later hS (Nat.le_refl _)) 4 4 (by omega) (by omega)
      have n8 := num_any (HB.out.later hS (Nat.le_refl _)) 8 4 (by omega) (by omega)
      rw [show be ((l.drop 0).take 2) = num2 l 0 from rfl] at n0
      rw [show be ((l.drop 2).take 2) = num2 l 2 from rfl] at n2
      rw [show be ((l.drop 4).take 4) = num4 l 4 from rfl] at n4
      rw [show be ((l.drop 8).take 4) = num4 l 8 from rfl] at n8
      refine rg_begin (fun w' => Below w.heap.size w w') 23 (by kernel_rfl) rfl ?_
      refine rg_take 0 (v := ?rv1) rfl (by kernel_rfl) (by kernel_rfl) (by kernel_rfl) (fun _ _ _ h => h) (by rfl) hS (fun w2 hw2 => ?ry1) ?rr1
      case ry1 => ((try dsimp only at hw2); go_simp <;> with_reducible rfl)
      simp only [Act.put, List.setIfInBounds_toArray, List.set_cons_zero, List.set_cons_succ]
      refine rg_take 2 (v := ?rv2) rfl (by kernel_rfl) (by kernel_rfl) (by kernel_rfl) (fun _ _ _ h => h) (by rfl) hS (fun w2 hw2 => ?ry2) ?rr2
      case ry2 => ((try dsimp only at hw2); go_simp <;> with_reducible rfl)
      simp only [Act.put, List.setIfInBounds_toArray, List.set_cons_zero, List.set_cons_succ]
      refine rg_take 4 (v := ?rv3) rfl (by kernel_rfl) (by kernel_rfl) (by kernel_rfl) (fun _ _ _ h => h) (by rfl) hS (fun w2 hw2 => ?ry3) ?rr3
      case ry3 => ((try dsimp only at hw2); go_simp <;> with_reducible rfl)
      simp only [Act.put, List.setIfInBounds_toArray, List.set_cons_zero, List.set_cons_succ]
      refine rg_take 7 (v := ?rv4) rfl (by kernel_rfl) (by kernel_rfl) (by kernel_rfl) (fun _ _ _ h => h) (by rfl) hS (fun w2 hw2 => ?ry4) ?rr4
      case ry4 => ((try dsimp only at hw2); go_simp <;> with_reducible rfl)
      simp only [Act.put, List.setIfInBounds_toArray, List.set_cons_zero, List.set_cons_succ]
      refine rg_take 10 (v := ?rv5) rfl (by kernel_rfl) (by kernel_rfl) (by kernel_rfl) (fun _ _ _ h => h) (by rfl) hS (fun w2 hw2 => ?ry5) ?rr5
      case ry5 => ((try dsimp only at hw2); go_simp <;> with_reducible rfl)
      simp only [Act.put, List.setIfInBounds_toArray, List.set_cons_zero, List.set_cons_succ]
      refine rg_take 15 (v := ?rv6) rfl (by kernel_rfl) (by kernel_rfl) (by kernel_rfl) (fun _ _ _ h => h) (by rfl) hS (fun w2 hw2 => ?ry6) ?rr6
      case ry6 => ((try dsimp only at hw2); go_simp <;> with_reducible rfl)
      simp only [Act.put, List.setIfInBounds_toArray, List.set_cons_zero, List.set_cons_succ]
      refine rg_take 16 (v := ?rv7) rfl (by kernel_rfl) (by kernel_rfl) (by kernel_rfl) (fun _ _ _ h => h) (by rfl) hS (fun w2 hw2 => ?ry7) ?rr7
      case ry7 => ((try dsimp only at hw2); go_simp <;> with_reducible rfl)
      simp only [Act.put, List.setIfInBounds_toArray, List.set_cons_zero, List.set_cons_succ]
      refine rg_take 11 (v := ?rv8) rfl (by kernel_rfl) (by kernel_rfl) (by kernel_rfl) (fun _ _ _ h => h) (by rfl) hS (fun w2 hw2 => ?ry8) ?rr8
      case ry8 => ((try dsimp only at hw2); go_simp <;> with_reducible rfl)
      simp only [Act.put, List.setIfInBounds_toArray, List.set_cons_zero, List.set_cons_succ]
      refine rg_take 17 (v := ?rv9) rfl (by kernel_rfl) (by kernel_rfl) (by kernel_rfl) (fun _ _ _ h => h) (by rfl) hS (fun w2 hw2 => ?ry9) ?rr9
      case ry9 => ((try dsimp only at hw2); go_simp <;> with_reducible rfl)
      simp only [Act.put, List.setIfInBounds_toArray, List.set_cons_zero, List.set_cons_succ]
      refine rg_take 12 (v := ?rv10) rfl (by kernel_rfl) (by kernel_rfl) (by kernel_rfl) (fun _ _ _ h => h) (by rfl) hS (fun w2 hw2 => ?ry10) ?rr10
      case ry10 => ((try dsimp only at hw2); go_simp <;> with_reducible rfl)
      simp only [Act.put, List.setIfInBounds_toArray, List.set_cons_zero, List.set_cons_succ]
      refine rg_take 13 (v := ?rv11) rfl (by kernel_rfl) (by kernel_rfl) (by kernel_rfl) (fun _ _ _ h => h) (by rfl) hS (fun w2 hw2 => ?ry11) ?rr11
      case ry11 => ((try dsimp only at hw2); go_simp <;> with_reducible rfl)
      simp only [Act.put, List.setIfInBounds_toArray, List.set_cons_zero, List.set_cons_succ]
      refine rg_take 14 (v := ?rv12) rfl (by kernel_rfl) (by kernel_rfl) (by kernel_rfl) (fun _ _ _ h => h) (by rfl) hS (fun w2 hw2 => ?ry12) ?rr12
      case ry12 => ((try dsimp only at hw2); go_simp <;> with_reducible rfl)
      simp only [Act.put, List.setIfInBounds_toArray, List.set_cons_zero, List.set_cons_succ]
      refine rg_take 20 (v := ?rv13) rfl (by kernel_rfl) (by kernel_rfl) (by kernel_rfl) (fun _ _ _ h => h) (by rfl) hS (fun w2 hw2 => ?ry13) ?rr13
      case ry13 => ((try dsimp only at hw2); go_simp <;> with_reducible rfl)
      simp only [Act.put, List.setIfInBounds_toArray, List.set_cons_zero, List.set_cons_succ]
      refine rg_step 1 rfl (by kernel_rfl) (by rfl) (fun K hK => ?_)
      go_simp
      refine n0.mono ?_
      rintro e w' ⟨rfl, rfl⟩
      refine hK.out _ _ hS ?_
      clear hK K
      try simp only [Act.put, List.setIfInBounds_toArray, List.set_cons_zero, List.set_cons_succ]
      refine rg_step 3 rfl (by kernel_rfl) (by rfl) (fun K hK => ?_)
      go_simp
      refine n2.mono ?_
      rintro e w' ⟨rfl, rfl⟩
      refine hK.out _ _ hS ?_
      clear hK K
      try simp only [Act.put, List.setIfInBounds_toArray, List.set_cons_zero, List.set_cons_succ]
      refine rg_step 5 rfl (by kernel_rfl) (by rfl) (fun K hK => ?_)
      go_simp
      refine n4.mono ?_
      rintro e w' ⟨rfl, rfl⟩
      refine hK.out _ _ hS ?_
      clear hK K
      try simp only [Act.put, List.setIfInBounds_toArray, List.set_cons_zero, List.set_cons_succ]
      refine rg_take 6 (v := ?rv14) rfl (by kernel_rfl) (by kernel_rfl) (by kernel_rfl) (fun _ _ _ h => h) (by rfl) hS (fun w2 hw2 => ?ry14) ?rr14
      case ry14 => ((try dsimp only at hw2); go_simp <;> with_reducible rfl)
      simp only [Act.put, List.setIfInBounds_toArray, List.set_cons_zero, List.set_cons_succ]
      refine rg_step 8 rfl (by kernel_rfl) (by rfl) (fun K hK => ?_)
      go_simp
      refine n8.mono ?_
      rintro e w' ⟨rfl, rfl⟩
      refine hK.out _ _ hS ?_
      clear hK K
      try simp only [Act.put, List.setIfInBounds_toArray, List.set_cons_zero, List.set_cons_succ]
      refine rg_take 9 (v := ?rv15) rfl (by kernel_rfl) (by kernel_rfl) (by kernel_rfl) (fun _ _ _ h => h) (by rfl) hS (fun w2 hw2 => ?ry15) ?rr15
      case ry15 => ((try dsimp only at hw2); go_simp <;> with_reducible rfl)
      simp only [Act.put, List.setIfInBounds_toArray, List.set_cons_zero, List.set_cons_succ]
      refine rg_step 18 rfl (by kernel_rfl) (by rfl) (fun K hK => ?_)
      refine wp_append_bs (.const (.slice none 0 0)) (.tmp 54) 22 rfl w3.drew.heap.size 5 info5 Tryd.underlying22 _ 0 [] rfl (World.ownsRow_nil _ _ _ _) _ _ _ _ rfl (HP.out.later hS (Nat.le_refl _)) (by omega) (Nat.le_refl _) ?_
      intro v4 w4 o4 g4 _ _
      have b4 : Below w3.drew.heap.size w3.drew w4 := (Below.refl _ _).grown g4 (Nat.le_refl _) (fun q hq => by cases hq)
      obtain ⟨A4, c4, rfl, hB4⟩ := Bs.of_own o4
      replace hS : Below w.heap.size w w4 := hS.trans (b4.mono hS.size)
      have H4 := Lib.hid (And.intro (H3.out.1.later ((Below.refl w3.heap.size w3).drew.trans b4) (Nat.le_refl _)) (And.intro (H3.out.2.1.later ((Below.refl w3.heap.size w3).drew.trans b4) (Nat.le_refl _)) (And.intro o4 (show w3.heap.size ≤ w3.drew.heap.size from Nat.le_refl _))))
      clear o4 g4 b4 hB4
      refine hK.out _ _ hS ?_
      clear hK K
      try simp only [Act.put, List.setIfInBounds_toArray, List.set_cons_zero, List.set_cons_succ]
      refine rg_step 19 rfl (by kernel_rfl) (by rfl) (fun K hK => ?_)
      refine wp_build_sg (.tmp 38) (.tmp 40) (.tmp 43) (.tmp 46) (.tmp 51) (.tmp 55) rfl ⟨num2 l 0, num2 l 2, num4 l 4, num4 l 8, (y.toNat % 64 : Nat), l.drop k⟩ A4 _ c4 rfl rfl (congrArg (Value.int IntKind.u32) (u32_in (num4_lt _ _))) (congrArg (Value.int IntKind.u32) (u32_in (num4_lt _ _))) (congrArg (Value.int IntKind.i64) (flag_ref ⟨y.toNat, hyl⟩)) rfl ?_
      refine hK.out _ _ hS ?_
      clear hK K
      try simp only [Act.put, List.setIfInBounds_toArray, List.set_cons_zero, List.set_cons_succ]
      refine rg_step 21 rfl (by kernel_rfl) (by rfl) (fun K hK => ?_)
      refine wp_store_sgF (.tmp 6) (.tmp 56) rfl ⟨num2 l 0, num2 l 2, num4 l 4, num4 l 8, (y.toNat % 64 : Nat), l.drop k⟩ A4 _ c4 rfl rfl H4.out.1 ?_
      intro w5 a5 o5 b5
      have hlt1 : W.heap.size < w1.heap.size := H1.out.2.2.1.lt
      have hlt2 : w1.heap.size < w3.heap.size := H3.out.2.1.lt
      replace hS : Below w.heap.size w w5 := b5 _ _ HA.out.2.2.size hS
      have H5 := Lib.hid (And.intro a5 (And.intro (H4.out.2.1.same (o5 _ (by omega))) (And.intro (own_same' H4.out.2.2.1 fun j hj => o5 j (by have := H4.out.2.2.2; omega)) hlt2)))
      have hg2 : w.heap.size ≤ w1.heap.size := by have := HA.out.2.2.size; omega
      clear a5 o5 b5 hlt2
      refine hK.out _ _ hS ?_
      clear hK K
      simp only [Act.put]
      refine rg_step 22 rfl (by kernel_rfl) (by rfl) (fun K hK => ?_)
      refine wp_store_flF (.tmp 7) (.tmp 57) rfl 0 0 false rfl rfl H5.out.2.1 ?_
      intro w6 a6 o6 b6
      replace hS : Below w.heap.size w w6 := b6 _ _ hg2 hS
      have H6 := Lib.hid (And.intro (H5.out.1.same (o6 _ (by omega))) (And.intro a6 (And.intro (Bs.own_later H5.out.2.2.1 fun j hj => o6 j (by have := H5.out.2.2.2; have := H4.out.2.2.2; omega)) hS)))
      clear a6 o6 b6
      refine hK.out _ _ hS ?_
      clear hK K
      simp only [Act.put]
      refine rg_done (by kernel_rfl) ?_
      clear hS
      go_wp2_with fail
      exact bodyPost_ret (results_sg_fl rfl _ rfl rfl H6.out.1 H6.out.2.1) rfl ⟨A4, _, c4, rfl, H6.out.2.2.1, H6.out.2.2.2⟩
    · have hcut := HB.out.cut (i := k) (k := n - k) (by omega) (A' := some ⟨b0, off0 + k, none⟩) (fun _ => by simp [add_plain]) (by simp)
      rw [List.take_of_length_le (by rw [List.length_drop, hl]; exact Nat.le_refl _)] at hcut
      have HP := Lib.hid hcut
      clear hcut
      go_enter Tryd.func8, Tryd.ntmps8
      go_wp2_with (first
        | (refine wpList_load_ad rfl (.tmp 4) rfl rfl H2.out.1 ?_) | (refine wpList_load_ad rfl (.tmp 5) rfl rfl H2.out.2.1 ?_)
        | (rw [HW.out]; refine wpList_alloc_sg rfl rfl ?_; intro w1 a1 b1 z1; have H1 := Lib.hid (And.intro (HA.out.1.later b1 (Nat.le_refl _)) (And.intro (HA.out.2.1.later b1 (Nat.le_refl _)) (And.intro a1 (And.intro (HA.out.2.2.trans (b1.mono HA.out.2.2.size)) b1)))); clear a1 b1 z1)
        | (refine wpList_alloc_fl rfl rfl ?_; intro w2 a2 b2 z2; have H2 := Lib.hid (And.intro (H1.out.1.later b2 (Nat.le_refl _)) (And.intro (H1.out.2.1.later b2 (Nat.le_refl _)) (And.intro (H1.out.2.2.1.later b2 (Nat.le_refl _)) (And.intro a2 (And.intro (H1.out.2.2.2.1.trans (b2.mono H1.out.2.2.2.1.size)) b2))))); have d12 := D12.out _ H2.out.2.2.2.2.1; clear a2 b2 z2))
      refine (KO.out _ H2.out.2.2.2.2.1).mono ?_
      rintro e w3 ⟨rfl, g3⟩
      have H3 := Lib.hid (And.intro (H2.out.2.2.1.later g3 (Nat.le_refl _)) (And.intro (H2.out.2.2.2.1.later g3 (Nat.le_refl _)) (H2.out.2.2.2.2.1.trans (g3.mono H2.out.2.2.2.2.1.size))))
      clear g3
      go_wp2_with fail
      have hS : Below w.heap.size w w3.drew := H3.out.2.2.drew
      have d13 := D13.out
      have n0 := num_any (HB.out.later hS (Nat.le_refl _)) 0 2 (by omega) (by omega)
      have n2 := num_any (HB.out.later hS (Nat.le_refl _)) 2 2 (by omega) (by omega)
      have n4 := num_any (HB.out.later hS (Nat.le_refl _)) 4 4 (by omega) (by omega)
      have n8 := num_any (HB.out.later hS (Nat.le_refl _)) 8 4 (by omega) (by omega)
      rw [show be ((l.drop 0).take 2) = num2 l 0 from rfl] at n0
      rw [show be ((l.drop 2).take 2) = num2 l 2 from rfl] at n2
      rw [show be ((l.drop 4).take 4) = num4 l 4 from rfl] at n4
      rw [show be ((l.drop 8).take 4) = num4 l 8 from rfl] at n8
      refine rg_begin (fun w' => Below w.heap.size w w') 23 (by kernel_rfl) rfl ?_
      refine rg_take 0 (v := ?rv16) rfl (by kernel_rfl) (by kernel_rfl) (by kernel_rfl) (fun _ _ _ h => h) (by rfl) hS (fun w2 hw2 => ?ry16) ?rr16
      case ry16 => ((try dsimp only at hw2); go_simp <;> with_reducible rfl)
      simp only [Act.put, List.setIfInBounds_toArray, List.set_cons_zero, List.set_cons_succ]
      refine rg_take 2 (v := ?rv17) rfl (by kernel_rfl) (by kernel_rfl) (by kernel_rfl) (fun _ _ _ h => h) (by rfl) hS (fun w2 hw2 => ?ry17) ?rr17
      case ry17 => ((try dsimp only at hw2); go_simp <;> with_reducible rfl)
      simp only [Act.put, List.setIfInBounds_toArray, List.set_cons_zero, List.set_cons_succ]
      refine rg_take 4 (v := ?rv18) rfl (by kernel_rfl) (by kernel_rfl) (by kernel_rfl) (fun _ _ _ h => h) (by rfl) hS (fun w2 hw2 => ?ry18) ?rr18
      case ry18 => ((try dsimp only at hw2); go_simp <;> with_reducible rfl)
      simp only [Act.put, List.setIfInBounds_toArray, List.set_cons_zero, List.set_cons_succ]
      refine rg_take 7 (v := ?rv19) rfl (by kernel_rfl) (by kernel_rfl) (by kernel_rfl) (fun _ _ _ h => h) (by rfl) hS (fun w2 hw2 => ?ry19) ?rr19
      case ry19 => ((try dsimp only at hw2); go_simp <;> with_reducible rfl)
      simp only [Act.put, List.setIfInBounds_toArray, List.set_cons_zero, List.set_cons_succ]
      refine rg_take 10 (v := ?rv20) rfl (by kernel_rfl) (by kernel_rfl) (by kernel_rfl) (fun _ _ _ h => h) (by rfl) hS (fun w2 hw2 => ?ry20) ?rr20
      case ry20 => ((try dsimp only at hw2); go_simp <;> with_reducible rfl)
      simp only [Act.put, List.setIfInBounds_toArray, List.set_cons_zero, List.set_cons_succ]
      refine rg_take 15 (v := ?rv21) rfl (by kernel_rfl) (by kernel_rfl) (by kernel_rfl) (fun _ _ _ h => h) (by rfl) hS (fun w2 hw2 => ?ry21) ?rr21
      case ry21 => ((try dsimp only at hw2); go_simp <;> with_reducible rfl)
      simp only [Act.put, List.setIfInBounds_toArray, List.set_cons_zero, List.set_cons_succ]
      refine rg_take 16 (v := ?rv22) rfl (by kernel_rfl) (by kernel_rfl) (by kernel_rfl) (fun _ _ _ h => h) (by rfl) hS (fun w2 hw2 => ?ry22) ?rr22
      case ry22 => ((try dsimp only at hw2); go_simp <;> with_reducible rfl)
      simp only [Act.put, List.setIfInBounds_toArray, List.set_cons_zero, List.set_cons_succ]
      refine rg_take 11 (v := ?rv23) rfl (by kernel_rfl) (by kernel_rfl) (by kernel_rfl) (fun _ _ _ h => h) (by rfl) hS (fun w2 hw2 => ?ry23) ?rr23
      case ry23 => ((try dsimp only at hw2); go_simp <;> with_reducible rfl)
      simp only [Act.put, List.setIfInBounds_toArray, List.set_cons_zero, List.set_cons_succ]
      refine rg_take 17 (v := ?rv24) rfl (by kernel_rfl) (by kernel_rfl) (by kernel_rfl) (fun _ _ _ h => h) (by rfl) hS (fun w2 hw2 => ?ry24) ?rr24
      case ry24 => ((try dsimp only at hw2); go_simp <;> with_reducible rfl)
      simp only [Act.put, List.setIfInBounds_toArray, List.set_cons_zero, List.set_cons_succ]
      refine rg_take 12 (v := ?rv25) rfl (by kernel_rfl) (by kernel_rfl) (by kernel_rfl) (fun _ _ _ h => h) (by rfl) hS (fun w2 hw2 => ?ry25) ?rr25
      case ry25 => ((try dsimp only at hw2); go_simp <;> with_reducible rfl)
      simp only [Act.put, List.setIfInBounds_toArray, List.set_cons_zero, List.set_cons_succ]
      refine rg_take 13 (v := ?rv26) rfl (by kernel_rfl) (by kernel_rfl) (by kernel_rfl) (fun _ _ _ h => h) (by rfl) hS (fun w2 hw2 => ?ry26) ?rr26
      case ry26 => ((try dsimp only at hw2); go_simp <;> with_reducible rfl)
      simp only [Act.put, List.setIfInBounds_toArray, List.set_cons_zero, List.set_cons_succ]
      refine rg_take 14 (v := ?rv27) rfl (by kernel_rfl) (by kernel_rfl) (by kernel_rfl) (fun _ _ _ h => h) (by rfl) hS (fun w2 hw2 => ?ry27) ?rr27
      case ry27 => ((try dsimp only at hw2); go_simp <;> with_reducible rfl)
      simp only [Act.put, List.setIfInBounds_toArray, List.set_cons_zero, List.set_cons_succ]
      refine rg_take 20 (v := ?rv28) rfl (by kernel_rfl) (by kernel_rfl) (by kernel_rfl) (fun _ _ _ h => h) (by rfl) hS (fun w2 hw2 => ?ry28) ?rr28
      case ry28 => ((try dsimp only at hw2); go_simp <;> with_reducible rfl)
      simp only [Act.put, List.setIfInBounds_toArray, List.set_cons_zero, List.set_cons_succ]
      refine rg_step 1 rfl (by kernel_rfl) (by rfl) (fun K hK => ?_)
      go_simp
      refine n0.mono ?_
      rintro e w' ⟨rfl, rfl⟩
      refine hK.out _ _ hS ?_
      clear hK K
      try simp only [Act.put, List.setIfInBounds_toArray, List.set_cons_zero, List.set_cons_succ]
      refine rg_step 3 rfl (by kernel_rfl) (by rfl) (fun K hK => ?_)
      go_simp
      refine n2.mono ?_
      rintro e w' ⟨rfl, rfl⟩
      refine hK.out _ _ hS ?_
      clear hK K
      try simp only [Act.put, List.setIfInBounds_toArray, List.set_cons_zero, List.set_cons_succ]
      refine rg_step 5 rfl (by kernel_rfl) (by rfl) (fun K hK => ?_)
      go_simp
      refine n4.mono ?_
      rintro e w' ⟨rfl, rfl⟩
      refine hK.out _ _ hS ?_
      clear hK K
      try simp only [Act.put, List.setIfInBounds_toArray, List.set_cons_zero, List.set_cons_succ]
      refine rg_take 6 (v := ?rv29) rfl (by kernel_rfl) (by kernel_rfl) (by kernel_rfl) (fun _ _ _ h => h) (by rfl) hS (fun w2 hw2 => ?ry29) ?rr29
      case ry29 => ((try dsimp only at hw2); go_simp <;> with_reducible rfl)
      simp only [Act.put, List.setIfInBounds_toArray, List.set_cons_zero, List.set_cons_succ]
      refine rg_step 8 rfl (by kernel_rfl) (by rfl) (fun K hK => ?_)
      go_simp
      refine n8.mono ?_
      rintro e w' ⟨rfl, rfl⟩
      refine hK.out _ _ hS ?_
      clear hK K
      try simp only [Act.put, List.setIfInBounds_toArray, List.set_cons_zero, List.set_cons_succ]
      refine rg_take 9 (v := ?rv30) rfl (by kernel_rfl) (by kernel_rfl) (by kernel_rfl) (fun _ _ _ h => h) (by rfl) hS (fun w2 hw2 => ?ry30) ?rr30
      case ry30 => ((try dsimp only at hw2); go_simp <;> with_reducible rfl)
      simp only [Act.put, List.setIfInBounds_toArray, List.set_cons_zero, List.set_cons_succ]
      refine rg_step 18 rfl (by kernel_rfl) (by rfl) (fun K hK => ?_)
      refine wp_append_bs (.const (.slice none 0 0)) (.tmp 54) 22 rfl w3.drew.heap.size 5 info5 Tryd.underlying22 _ 0 [] rfl (World.ownsRow_nil _ _ _ _) _ _ _ _ rfl (HP.out.later hS (Nat.le_refl _)) (by omega) (Nat.le_refl _) ?_
      intro v4 w4 o4 g4 _ _
      have b4 : Below w3.drew.heap.size w3.drew w4 := (Below.refl _ _).grown g4 (Nat.le_refl _) (fun q hq => by cases hq)
      obtain ⟨A4, c4, rfl, hB4⟩ := Bs.of_own o4
      replace hS : Below w.heap.size w w4 := hS.trans (b4.mono hS.size)
      have H4 := Lib.hid (And.intro (H3.out.1.later ((Below.refl w3.heap.size w3).drew.trans b4) (Nat.le_refl _)) (And.intro (H3.out.2.1.later ((Below.refl w3.heap.size w3).drew.trans b4) (Nat.le_refl _)) (And.intro o4 (show w3.heap.size ≤ w3.drew.heap.size from Nat.le_refl _))))
      clear o4 g4 b4 hB4
      refine hK.out _ _ hS ?_
      clear hK K
      try simp only [Act.put, List.setIfInBounds_toArray, List.set_cons_zero, List.set_cons_succ]
      refine rg_step 19 rfl (by kernel_rfl) (by rfl) (fun K hK => ?_)
      refine wp_build_sg (.tmp 38) (.tmp 40) (.tmp 43) (.tmp 46) (.tmp 51) (.tmp 55) rfl ⟨num2 l 0, num2 l 2, num4 l 4, num4 l 8, (y.toNat % 64 : Nat), l.drop k⟩ A4 _ c4 rfl rfl (congrArg (Value.int IntKind.u32) (u32_in (num4_lt _ _))) (congrArg (Value.int IntKind.u32) (u32_in (num4_lt _ _))) (congrArg (Value.int IntKind.i64) (flag_ref ⟨y.toNat, hyl⟩)) rfl ?_
      refine hK.out _ _ hS ?_
      clear hK K
      try simp only [Act.put, List.setIfInBounds_toArray, List.set_cons_zero, List.set_cons_succ]
      refine rg_step 21 rfl (by kernel_rfl) (by rfl) (fun K hK => ?_)
      refine wp_store_sgF (.tmp 6) (.tmp 56) rfl ⟨num2 l 0, num2 l 2, num4 l 4, num4 l 8, (y.toNat % 64 : Nat), l.drop k⟩ A4 _ c4 rfl rfl H4.out.1 ?_
      intro w5 a5 o5 b5
      have hlt1 : W.heap.size < w1.heap.size := H1.out.2.2.1.lt
      have hlt2 : w1.heap.size < w3.heap.size := H3.out.2.1.lt
      replace hS : Below w.heap.size w w5 := b5 _ _ HA.out.2.2.size hS
      have H5 := Lib.hid (And.intro a5 (And.intro (H4.out.2.1.same (o5 _ (by omega))) (And.intro (own_same' H4.out.2.2.1 fun j hj => o5 j (by have := H4.out.2.2.2; omega)) hlt2)))
      have hg2 : w.heap.size ≤ w1.heap.size := by have := HA.out.2.2.size; omega
      clear a5 o5 b5 hlt2
      refine hK.out _ _ hS ?_
      clear hK K
      simp only [Act.put]
      refine rg_step 22 rfl (by kernel_rfl) (by rfl) (fun K hK => ?_)
      refine wp_store_flF (.tmp 7) (.tmp 57) rfl 0 0 false rfl rfl H5.out.2.1 ?_
      intro w6 a6 o6 b6
      replace hS : Below w.heap.size w w6 := b6 _ _ hg2 hS
      have H6 := Lib.hid (And.intro (H5.out.1.same (o6 _ (by omega))) (And.intro a6 (And.intro (Bs.own_later H5.out.2.2.1 fun j hj => o6 j (by have := H5.out.2.2.2; have := H4.out.2.2.2; omega)) hS)))
      clear a6 o6 b6
      refine hK.out _ _ hS ?_
      clear hK K
      simp only [Act.put]
      refine rg_done (by kernel_rfl) ?_
      clear hS
      go_wp2_with fail
      exact bodyPost_ret (results_sg_fl rfl _ rfl rfl H6.out.1 H6.out.2.1) rfl ⟨A4, _, c4, rfl, H6.out.2.2.1, H6.out.2.2.2⟩
end Go.Proofs.YtioonjgamdompaaDoor
