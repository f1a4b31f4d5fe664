/-
  
-/
import Derived.Test.YtoagfmonfgagbaaGreatDoorZ44
import Derived.Test.YtoagfmonfgagbaaGreatDoorZ43
import Derived.Test.YtoagfmonfgagbaaGreatDoorZ45
import Derived.Deep.DeepCutAuto
import Derived.Deep.CutBlock
namespace Go.Proofs.YtoagfmonfgagbaaGreatDoor
open Go.RowKit
set_option maxRecDepth 100000
theorem run_build_need (w : World) : (Instr.build 55 #[(1, .string ⟨#[97]⟩), (4, .int .i64 6), (6, .int .i64 5)]).run Tryz.prog w = .ok (.agg (rwv needX0)) w := by kernel_rfl
theorem wpList_build_need {ops : Array Oper} {rest : List Oper} {o : Oper} {a : Act} {w : World} {Q : Exit → Act → World → Prop} (hgd : o.guard = none) (ho : o.op = .build 55 #[(1, .const (.string ⟨#[97]⟩)), (4, .const (.int .i64 6)), (6, .const (.int .i64 5))])
    (h : wpList Tryz.prog ops Q rest (a.put o.dst (.agg (rwv needX0))) w) : wpList Tryz.prog ops Q (o :: rest) a w :=
  wpList_plain hgd fun _ hK => by
    have hrun := run_build_need w
    unfold Oper.wp execOp
    simp only [ho, List.map_toArray, List.map_cons, List.map_nil]
    rw [show a.eval (.const (.string ⟨#[97]⟩)) = .string ⟨#[97]⟩ from rfl, show a.eval (.const (.int .i64 6)) = .int .i64 6 from rfl, show a.eval (.const (.int .i64 5)) = .int .i64 5 from rfl]
    simp only [Sem.run_bind, Sem.run_pure, Result.andThen_ok, hrun]
    exact hK _ _ h
theorem u64_mod19 (a m : Int) (h0 : 0 < m) : 0 ≤ (IntKind.u64.wrap a).tmod m ∧ (IntKind.u64.wrap a).tmod m < m := by
  have h : IntKind.u64.wrap a = a % 18446744073709551616 := rfl
  have h2 : 0 ≤ IntKind.u64.wrap a := by rw [h]; omega
  rw [Int.tmod_eq_emod_of_nonneg h2]
  exact ⟨Int.emod_nonneg (IntKind.u64.wrap a) (show m ≠ 0 by omega), Int.emod_lt_of_pos (IntKind.u64.wrap a) h0⟩
set_option maxHeartbeats 16000000 in
theorem ruleNeeds {A1 A2 : Option Addr} {n1 c1 n2 c2 : Nat} {ss : List Ad19} {us : List Rw} {w : World} (h1 : A9S w A1 n1 c1 ss) (h2 : RwS w A2 n2 c2 us) (hn : ∀ x ∈ us, x.name.length ≤ 9223372036854775807) (n : Int) (hE : Env19 w) :
    Calls Tryz.prog 8 #[.agg (rsv (.slice A1 n1 c1) (.slice A2 n2 c2)), .int .i64 n] w fun e w' => e = .returned (.bool true) ∧ Below w.heap.size w w' := by
  obtain ⟨q1, q2⟩ := u64_mod19 n 9 (by omega)
  obtain ⟨k, hk⟩ : ∃ k : Nat, (IntKind.u64.wrap n).tmod 9 = (k : Int) := ⟨_, (Int.toNat_of_nonneg q1).symm⟩
  have hk9 : k < 9 := by omega
  obtain ⟨s, hs⟩ : ∃ s, w.heap.size = s := ⟨_, rfl⟩
  have hbx : RsBox (w.alloc (.cells (rsv (.slice A1 n1 c1) (.slice A2 n2 c2)) 25)) s (.slice A1 n1 c1) (.slice A2 n2 c2) := by rw [← hs]; exact World.alloc_heap_new w _
  have hb0 : Below w.heap.size w (w.alloc (.cells (rsv (.slice A1 n1 c1) (.slice A2 n2 c2)) 25)) := (Below.refl _ _).alloc (Nat.le_refl _) _
  have hz0 : (w.alloc (.cells (rsv (.slice A1 n1 c1) (.slice A2 n2 c2)) 25)).heap.size = s + 1 := by simp [hs]
  have K := playRules19 (h1.later hb0 (Nat.le_refl _)) (h2.later hb0 (Nat.le_refl _)) hn
  obtain ⟨va, hva⟩ : ∃ va, Value.slice A1 n1 c1 = va := ⟨_, rfl⟩
  obtain ⟨vb, hvb⟩ : ∃ vb, Value.slice A2 n2 c2 = vb := ⟨_, rfl⟩
  rw [hva, hvb] at K hbx hb0 hz0
  have one1 : va.oneCell' = true := by rw [← hva]; rfl
  have one2 : vb.oneCell' = true := by rw [← hvb]; rfl
  obtain ⟨W0, hW0⟩ : ∃ W0, w.alloc (.cells (rsv va vb) 25) = W0 := ⟨_, rfl⟩
  rw [hva, hvb]
  rw [hW0] at K hbx hb0 hz0
  have HK := Lib.hid K
  have H0 := Lib.hid (And.intro hbx (And.intro hb0 hz0))
  have HE := Lib.hid hE
  have HKQ := Lib.hid (And.intro hk hk9)
  have HW0 := Lib.hid hW0
  clear K hbx hb0 hz0 hE h1 h2 hn hva hvb hW0 q1 q2 hk hk9
  go_enter Tryz.func8, Tryz.ntmps8
  go_upto_block 0 with (first
    | (rw [HW0.out])
    | (refine wpList_load_rs (g := s) (p := va) (q := vb) rfl (.tmp 2) rfl (by rw [← hs]; rfl) H0.out.1 ?_)
    | (go_at_call 10; refine HK.out.mono ?_; rintro e w1 ⟨v1, v2, x, rfl, hpl⟩; have hq := (hpl.2.2.2.2.2.2.1.block s (lt_blk H0.out.1)).trans H0.out.1; have H1 := Lib.hid (And.intro hpl hq); clear hpl hq)
    | (refine wpList_store_rs (g := s) rfl (.tmp 2) (.tmp 7) rfl v1 v2 H1.out.1.1.one H1.out.1.2.1.one (by rw [← hs]; rfl) rfl H1.out.2 ?_; intro w2 a2 o2 z2 b2; have H2 := Lib.hid (And.intro a2 (And.intro o2 (b2 s w (Nat.le_refl _) (by rw [← hs]; exact H0.out.2.1.trans (H1.out.1.2.2.2.2.2.2.1.mono (by rw [hs, H0.out.2.2]; omega)))))); clear a2 o2 z2 b2)
    | (refine wpList_build_need rfl rfl ?_)
    | (refine wpList_alloc_rw rfl rfl ?_; intro w4 a4 b4 z4; have H4 := Lib.hid (And.intro a4 b4); clear a4 b4 z4)
    | (refine wpList_store_rw rfl (.tmp 5) (.tmp 8) rfl needX0 rfl rfl (List.length_replicate ..) H4.out.1 ?_; intro w5 a5 o5 z5 b5; have H5 := Lib.hid (And.intro a5 (b5 w2.heap.size w2 (Nat.le_refl _) H4.out.2)); clear a5 o5 z5 b5))
  rw [HKQ.out.1]
  obtain ⟨g5, hg5⟩ : ∃ g, w2.heap.size = g := ⟨_, rfl⟩
  have hx5 := H5.out.1
  have hb5 := H5.out.2
  rw [hg5] at hx5 hb5 ⊢
  obtain ⟨d0, d1, d2, d21, d22, d23, dn⟩ := hx5.cells
  have z1 := hx5.frozen 1
  have z2 := hx5.frozen 2
  have z21 := hx5.frozen 21
  have z22 := hx5.frozen 22
  have z23 := hx5.frozen 23
  have HXB := Lib.hid (And.intro hx5 hb5)
  clear hx5 hb5 d0 dn
  go_cut [5] (fun p wx => p = .pointer (some ⟨g5, 0, none⟩) ∧ RwBox wx g5 (needX k) ∧ Below g5 w5 wx)
  case first =>
    have hk := HKQ.out.2
    rcases (show k = 0 ∨ k = 1 ∨ k = 2 ∨ k = 3 ∨ k = 4 ∨ k = 5 ∨ k = 6 ∨ k = 7 ∨ k = 8 by omega) with rfl | rfl | rfl | rfl | rfl | rfl | rfl | rfl | rfl
    · clear hk
      go_wp2_with fail
      go_meet
      exact ⟨rfl, HXB.out.1.put1 [65], (Below.refl g5 w5).setCell (p := ⟨g5, 1, none⟩) (Nat.le_refl _) _⟩
    · clear hk
      go_wp2_with fail
      go_meet
      exact ⟨rfl, HXB.out.1.put21 7, (Below.refl g5 w5).setCell (p := ⟨g5, 21, none⟩) (Nat.le_refl _) _⟩
    · clear hk
      go_wp2_with fail
      go_meet
      exact ⟨rfl, HXB.out.1.put22 6, (Below.refl g5 w5).setCell (p := ⟨g5, 22, none⟩) (Nat.le_refl _) _⟩
    · clear hk
      go_wp2_with fail
      go_meet
      exact ⟨rfl, HXB.out.1.put23 65536, (Below.refl g5 w5).setCell (p := ⟨g5, 23, none⟩) (Nat.le_refl _) _⟩
    · clear hk
      go_wp2_with fail
      go_meet
      exact ⟨rfl, HXB.out.1.put22 (-1), (Below.refl g5 w5).setCell (p := ⟨g5, 22, none⟩) (Nat.le_refl _) _⟩
    · clear hk
      go_wp2_with (first
        | (refine wpList_store_net rfl (.tmp 32) (.tmp 31) rfl rfl (v6 := false) (bs := List.replicate 16 0) (n := 1) rfl rfl HXB.out.1 ?_; intro w7 a7 o7 z7 b7; have H7 := Lib.hid (And.intro a7 (b7 g5 w5 (Nat.le_refl _) (Below.refl g5 w5))); clear a7 o7 z7 b7))
      go_meet
      exact ⟨rfl, H7.out.1, H7.out.2⟩
    · clear hk
      go_wp2_with fail
      go_meet
      exact ⟨rfl, HXB.out.1.put1 [97, 35, 98], (Below.refl g5 w5).setCell (p := ⟨g5, 1, none⟩) (Nat.le_refl _) _⟩
    · clear hk
      go_wp2_with fail
      go_meet
      exact ⟨rfl, HXB.out.1.put1 [42, 46, 97], (Below.refl g5 w5).setCell (p := ⟨g5, 1, none⟩) (Nat.le_refl _) _⟩
    · clear hk
      go_wp2_with fail
      go_meet
      exact ⟨rfl, (HXB.out.1.put1 []).put2 true, ((Below.refl g5 w5).setCell (p := ⟨g5, 1, none⟩) (Nat.le_refl _) _).setCell (p := ⟨g5, 2, none⟩) (Nat.le_refl _) _⟩
  case rest =>
    obtain ⟨rfl, hX, hbX⟩ := hcut
    clear d1 d2 d21 d22 d23 z1 z2 z21 z22 z23
    have hb2c : Below w2.heap.size w2 wc := by rw [hg5]; exact HXB.out.2.trans hbX
    have ne1 : ∀ b, v1.ownBlock = some b → b ≠ s := fun b hb => by have := (H1.out.1.1.lt hb).1; have := H0.out.2.2; omega
    have ne2 : ∀ b, v2.ownBlock = some b → b ≠ s := fun b hb => by have := (H1.out.1.2.1.lt hb).1; have := H0.out.2.2; omega
    have r1 : A9O wc (s + 1) v1 x.servers := by
      have h := (H1.out.1.1.kept fun b hb => H2.out.2.1 b (ne1 b hb)).later hb2c
      rw [H0.out.2.2] at h
      exact h
    have r2 : RwO wc (s + 1) v2 (x.rules.map rwR) := by
      have h := (H1.out.1.2.1.kept fun b hb => H2.out.2.1 b (ne2 b hb)).later hb2c
      rw [H0.out.2.2] at h
      exact h
    have r3 : RsBox wc s v1 v2 := (hb2c.block s (lt_blk H2.out.1)).trans H2.out.1
    have r4 : Below s w wc := H2.out.2.2.trans (hb2c.mono (by have := H2.out.2.2.size; omega))
    have hbad : rightW x.servers (x.rules.map rwR ++ [needX k]) = false := bad_right (need_bad k)
    have hfit := need_fit k
    obtain ⟨X, hXX⟩ : ∃ X, needX k = X := ⟨_, rfl⟩
    rw [hXX] at hX hbad hfit
    have kc1 : wc.cell? ⟨s, 1, none⟩ = some v2 := cell_of_row wc s 1 _ _ _ r3
    have HC := Lib.hid (And.intro hX (And.intro r1 (And.intro r2 (And.intro r3 (And.intro r4 (And.intro hbad hfit))))))
    have HNE := Lib.hid (And.intro ne1 ne2)
    clear hX hbX hb2c ne1 ne2 r1 r2 r3 r4 hbad hfit hXX
    go_wp2_with (first
      | (refine wpList_load_rw rfl (.tmp 5) rfl rfl HC.out.1.2 HC.out.1.range ?_)
      | (refine wpList_lit_rw rfl (.tmp 41) rfl X HC.out.1.2 rfl ?_; obtain ⟨w7, hw7⟩ : ∃ w7, wc.alloc (.cells (rwv X) 55) = w7 := ⟨_, rfl⟩; rw [hw7]; have H7 := Lib.hid (And.intro (show w7.heap[wc.heap.size]? = some (.cells (rwv X) 55 (0, 0)) by rw [← hw7]; exact World.alloc_heap_new wc _) (show Below wc.heap.size wc w7 by rw [← hw7]; exact (Below.refl _ _).alloc (Nat.le_refl _) _)); clear hw7 kc1)
      | (at_builtin; refine wpList_push_rw rfl (.tmp 40) (.tmp 42) rfl (s + 1) v2 (x.rules.map rwR) rfl (HC.out.2.2.1.later H7.out.2) rfl (range_blk19 H7.out.1) HC.out.1.2 (by rw [List.length_map]; have := H1.out.1.2.2.2.2.1; omega) (by have := lt_blk HC.out.2.2.2.1; have := H7.out.2.size; omega) ?_; intro v3 w8 o8 g8 at8; obtain ⟨A5, c5, rfl, _, _⟩ := RwS.of_own o8; obtain ⟨m5, hm5⟩ : ∃ m, (x.rules.map rwR ++ [X]).length = m := ⟨_, rfl⟩; rw [hm5] at o8 at8 ⊢; have hgb := (g8.block s (Nat.lt_of_lt_of_le (lt_blk HC.out.2.2.2.1) H7.out.2.size) (fun e => HNE.out.2 s e.symm rfl)).trans ((H7.out.2.block s (lt_blk HC.out.2.2.2.1)).trans HC.out.2.2.2.1); have kc2 : w8.cell? ⟨s, 1, none⟩ = some v2 := cell_of_row w8 s 1 _ _ _ hgb; (have kc3 : w8.frozen? ⟨s, 1, none⟩ = false := by simp [World.frozen?, hgb]); have H8 := Lib.hid (And.intro o8 (And.intro g8 (And.intro at8 hgb))); clear o8 g8 at8 hgb))
    clear kc2 kc3
    have hrow : Row w8 s 25 [v1, v2] := H8.out.2.2.2
    have hfar : ∀ i, i ≠ s → (w8.setCell ⟨s, 1, none⟩ (.slice A5 m5 c5)).heap[i]? = w8.heap[i]? := fun i hi => Below.heap_setCell w8 ⟨s, 1, none⟩ _ i hi
    have ff1 : RsBox (w8.setCell ⟨s, 1, none⟩ (.slice A5 m5 c5)) s v1 (.slice A5 m5 c5) := hrow.put 1 (.slice A5 m5 c5)
    have hlt1 : ∀ b, v1.ownBlock = some b → b < wc.heap.size := fun b hb => (HC.out.2.1.lt hb).2
    have ff2 : A9O (w8.setCell ⟨s, 1, none⟩ (.slice A5 m5 c5)) (s + 1) v1 x.servers := HC.out.2.1.kept fun b hb => (hfar b (HNE.out.1 b hb)).trans ((H8.out.2.1.block b (Nat.lt_of_lt_of_le (hlt1 b hb) H7.out.2.size) (fun e => H1.out.1.2.2.2.2.2.2.2 b hb e.symm)).trans (H7.out.2.block b (hlt1 b hb)))
    have ff3 : RwO (w8.setCell ⟨s, 1, none⟩ (.slice A5 m5 c5)) (s + 1) (.slice A5 m5 c5) (x.rules.map rwR ++ [X]) := H8.out.1.kept fun b hb => hfar b (by have := (H8.out.1.lt hb).1; omega)
    have ff4 : Below s w (w8.setCell ⟨s, 1, none⟩ (.slice A5 m5 c5)) := ((HC.out.2.2.2.2.1.trans (H7.out.2.mono (by have := HC.out.2.2.2.2.1.size; omega))).grown H8.out.2.1 (by have := HC.out.2.2.2.2.1.size; have := H7.out.2.size; omega) (fun i e => by have := (HC.out.2.2.1.lt e).1; omega)).setCell (p := ⟨s, 1, none⟩) (Nat.le_refl _) _
    obtain ⟨w9, hw9⟩ : ∃ w9, w8.setCell ⟨s, 1, none⟩ (.slice A5 m5 c5) = w9 := ⟨_, rfl⟩
    rw [hw9] at ff1 ff2 ff3 ff4 ⊢
    have H9 := Lib.hid (And.intro ff1 (And.intro ff2 (And.intro ff3 ff4)))
    clear hrow hfar ff1 ff2 ff3 ff4 hlt1 hw9
    have he9 := HE.out.later H9.out.2.2.2 (Nat.le_of_eq hs)
    refine (awake19 he9).mono ?_
    clear he9
    rintro e w10 ⟨rfl, b10⟩
    have hf : ∀ u ∈ x.rules.map rwR ++ [X], u.fit := fun u hu => by
      rcases List.mem_append.1 hu with hu | hu
      · obtain ⟨y, hy, rfl⟩ := List.mem_map.1 hu
        exact fit_ok (H1.out.1.2.2.1.one y hy)
      · rw [List.mem_singleton.1 hu]; exact HC.out.2.2.2.2.2.2
    have hb10 : Below s w w10 := H9.out.2.2.2.trans (b10.mono (by have := H9.out.2.2.2.size; omega))
    obtain ⟨B1, e1, hv1, s1, _⟩ := A9S.of_own (H9.out.2.1.later b10)
    obtain ⟨B2, e2, hv2, s2, _⟩ := RwS.of_own (H9.out.2.2.1.later b10)
    have hbx10 : RsBox w10 s v1 (.slice A5 m5 c5) := (b10.block s (lt_blk H9.out.1)).trans H9.out.1
    have KR := fun (w' : World) (h : Below w10.heap.size w10 w') => right19 (s1.later h (Nat.le_refl _)) (s2.later h (Nat.le_refl _)) (HE.out.later (hb10.trans (h.mono (by have := hb10.size; omega))) (Nat.le_of_eq hs)) hf
    have KT := fun (w' : World) (h : Below w10.heap.size w10 w') => text_none19 (s1.later h (Nat.le_refl _)) (s2.later h (Nat.le_refl _)) (HE.out.later (hb10.trans (h.mono (by have := hb10.size; omega))) (Nat.le_of_eq hs)) hf HC.out.2.2.2.2.2.1
    rw [HC.out.2.2.2.2.2.1, ← hv1, ← hv2] at KR
    rw [← hv1, ← hv2] at KT
    have HR := Lib.hid KR
    have HT := Lib.hid KT
    have H10 := Lib.hid (And.intro hbx10 hb10)
    clear KR KT s1 s2 hv1 hv2 hf hb10 hbx10 b10
    go_wp2_with (first
      | (refine wpList_wantd rfl (wp_load_rs (g := s) (p := v1) (q := .slice A5 m5 c5) (.tmp 2) rfl rfl H10.out.1 ?_)))
    refine (HR.out w10 (Below.refl _ _)).mono ?_
    rintro e w11 ⟨rfl, b11⟩
    have H11 := Lib.hid (And.intro b11 ((b11.block s (lt_blk H10.out.1)).trans H10.out.1))
    clear b11
    go_wp2_with (first
      | (refine wpList_wantd rfl (wp_load_rs (g := s) (p := v1) (q := .slice A5 m5 c5) (.tmp 2) rfl rfl H11.out.2 ?_)))
    refine (HT.out w11 H11.out.1).mono ?_
    rintro e w12 ⟨rfl, b12⟩
    have H12 := Lib.hid (H11.out.1.trans (b12.mono H11.out.1.size))
    clear b12
    have hie : (mkS []).toList.isEmpty = true := by rw [Lib.toList_data, mkS_data]; rfl
    go_wp2_with fail
    go_ret
    refine ⟨rfl, ?_⟩
    rw [hs]
    exact H10.out.2.trans (H12.out.mono (by have := H10.out.2.size; omega))
end Go.Proofs.YtoagfmonfgagbaaGreatDoor
