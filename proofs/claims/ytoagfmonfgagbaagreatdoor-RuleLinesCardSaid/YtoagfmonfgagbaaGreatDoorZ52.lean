/-
  
-/
import Derived.Test.YtoagfmonfgagbaaGreatDoorZ51
import Derived.Deep.DeepCutAuto
import Derived.Deep.CutBlock
namespace Go.Proofs.YtoagfmonfgagbaaGreatDoor
open Go.RowKit
set_option maxRecDepth 100000
def PlF (x : Rs19) : Prop := RightR fx x ∧ x.servers.length ≤ 5 ∧ x.rules.length ≤ 20 ∧ cost x ≤ 1300
set_option maxHeartbeats 16000000 in
theorem ruleLines {A1 A2 : Option Addr} {n1 c1 n2 c2 : Nat} {ss : List Ad19} {us : List Rw} {A3 A4 : Option Addr} {n3 c3 n4 c4 : Nat} {ss' : List Ad19} {us' : List Rw} {w : World} (h1 : A9S w A1 n1 c1 ss) (h2 : RwS w A2 n2 c2 us) (hn : ∀ x ∈ us, x.name.length ≤ 9223372036854775807) (h3 : A9S w A3 n3 c3 ss') (h4 : RwS w A4 n4 c4 us') (hn' : ∀ x ∈ us', x.name.length ≤ 9223372036854775807) (n : Int) (hE : Env19 w) :
    Calls Tryz.prog 6 #[.agg (rsv (.slice A1 n1 c1) (.slice A2 n2 c2)), .agg (rsv (.slice A3 n3 c3) (.slice A4 n4 c4)), .int .i64 n] w fun e w' => e = .returned (.bool true) ∧ Below w.heap.size w w' := by
  obtain ⟨q1, q2⟩ := num_mod19 n 5 (by omega) (by omega)
  obtain ⟨N, hN⟩ : ∃ N : Nat, wrap64 ((IntKind.u64.wrap n).tmod 5) = (N : Int) := ⟨_, (Int.toNat_of_nonneg q1).symm⟩
  have hN5 : N < 5 := by omega
  have HNN := Lib.hid (And.intro hN hN5)
  clear q1 q2 hN hN5
  obtain ⟨s, hs⟩ : ∃ s, w.heap.size = s := ⟨_, rfl⟩
  obtain ⟨va, hva⟩ : ∃ va, Value.slice A1 n1 c1 = va := ⟨_, rfl⟩
  obtain ⟨vb, hvb⟩ : ∃ vb, Value.slice A2 n2 c2 = vb := ⟨_, rfl⟩
  obtain ⟨vc, hvc⟩ : ∃ vc, Value.slice A3 n3 c3 = vc := ⟨_, rfl⟩
  obtain ⟨vd, hvd⟩ : ∃ vd, Value.slice A4 n4 c4 = vd := ⟨_, rfl⟩
  have KA := fun (w' : World) (h : Below s w w') => playRules19 (h1.later h (Nat.le_of_eq hs)) (h2.later h (Nat.le_of_eq hs)) hn
  have KB := fun (w' : World) (h : Below s w w') => playRules19 (h3.later h (Nat.le_of_eq hs)) (h4.later h (Nat.le_of_eq hs)) hn'
  rw [hva, hvb] at KA
  rw [hvc, hvd] at KB
  rw [hva, hvb, hvc, hvd]
  have HA := Lib.hid KA
  have HB := Lib.hid KB
  have one1 : va.oneCell' = true := by rw [← hva]; rfl
  have one2 : vb.oneCell' = true := by rw [← hvb]; rfl
  have one3 : vc.oneCell' = true := by rw [← hvc]; rfl
  have one4 : vd.oneCell' = true := by rw [← hvd]; rfl
  obtain ⟨W1, hW1⟩ : ∃ W1, w.alloc (.cells (rsv va vb) 25) = W1 := ⟨_, rfl⟩
  obtain ⟨W2, hW2⟩ : ∃ W2, W1.alloc (.cells (rsv vc vd) 25) = W2 := ⟨_, rfl⟩
  have z1 : W1.heap.size = s + 1 := by rw [← hW1]; simp [hs]
  have z2 : W2.heap.size = s + 2 := by rw [← hW2]; simp [z1]
  have bx1 : RsBox W1 s va vb := by rw [← hW1, ← hs]; exact World.alloc_heap_new w _
  have b12 : Below (s + 1) W1 W2 := by rw [← hW2]; exact (Below.refl _ _).alloc (Nat.le_of_eq z1.symm) _
  have bx2 : RsBox W2 (s + 1) vc vd := by rw [← hW2, ← z1]; exact World.alloc_heap_new W1 _
  have b01 : Below s w W1 := by rw [← hW1]; exact (Below.refl _ _).alloc (Nat.le_of_eq hs.symm) _
  have H2 := Lib.hid (And.intro ((b12.block s (by omega)).trans bx1 : RsBox W2 s va vb) (And.intro bx2 (And.intro (b01.trans (b12.mono (by omega))) z2)))
  have HE := Lib.hid hE
  have HW1 := Lib.hid hW1
  have HW2 := Lib.hid hW2
  have HZ := Lib.hid (And.intro hs z1)
  clear KA KB hE h1 h2 h3 h4 hn hn' hva hvb hvc hvd hW1 hW2 z1 z2 bx1 b12 bx2 b01
  go_enter Tryz.func6, Tryz.ntmps6
  go_upto_region 1 with (first | (rw [HW1.out]) | (rw [HW2.out]))
  rw [HZ.out.2]
  try rw [HZ.out.1]
  go_cut [] (fun wx => ∃ v1 v2 v3 v4 x y, PlF x ∧ PlF y ∧ Keep wx s v1 v2 x ∧ Keep wx (s + 1) v3 v4 y ∧ Below s w wx ∧ s + 2 ≤ wx.heap.size)
  case first =>
    have hb1 : RsBox W2.drew s va vb := H2.out.1
    have hb2 : RsBox W2.drew (s + 1) vc vd := H2.out.2.1
    have hS : Below s w W2.drew := H2.out.2.2.1.drew
    have hz : s + 2 ≤ W2.drew.heap.size := Nat.le_of_eq H2.out.2.2.2.symm
    refine rg_begin (fun w' => Below s w w') 6 (by kernel_rfl) rfl ?_
    refine rg_any [0, 2] (by kernel_rfl) (by simp) ?_
    refine rg_or 0 rfl (by rfl) (fun K hK => ?_) ?_
    · refine wp_load_rs (g := s) (p := va) (q := vb) (.tmp 3) rfl rfl hb1 ?_
      refine hK.out _ _ hS ?_
      clear hK
      (try simp only [Act.put, List.setIfInBounds_toArray, List.set_cons_zero, List.set_cons_succ])
      refine rg_any [1, 2] (by kernel_rfl) (by simp) ?_
      refine rg_or 1 rfl (by rfl) (fun K hK => ?_) ?_
      · go_simp
        refine (HA.out _ hS).mono ?_
        rintro e u1 ⟨v1, v2, x, rfl, hp⟩
        have bK := hp.2.2.2.2.2.2.1
        replace hb1 := (bK.block s (lt_blk hb1)).trans hb1
        replace hb2 := (bK.block (s + 1) (lt_blk hb2)).trans hb2
        have k1 := hp.1.base hz
        have k2 := hp.2.1.base hz
        have q1 := And.intro hp.2.2.1 (And.intro hp.2.2.2.1 (And.intro hp.2.2.2.2.1 hp.2.2.2.2.2.1))
        replace hS := hS.trans (bK.mono (Nat.le_trans (by omega) hz))
        replace hz := Nat.le_trans hz bK.size
        clear bK hp
        refine hK.out _ _ hS ?_
        clear hK
        (try simp only [Act.put, List.setIfInBounds_toArray, List.set_cons_zero, List.set_cons_succ])
        refine rg_step 2 rfl (by kernel_rfl) (by rfl) (fun K hK => ?_)
        refine wp_load_rs (g := s + 1) (p := vc) (q := vd) (.tmp 4) rfl rfl hb2 ?_
        refine hK.out _ _ hS ?_
        clear hK
        (try simp only [Act.put, List.setIfInBounds_toArray, List.set_cons_zero, List.set_cons_succ])
        refine rg_step 3 rfl (by kernel_rfl) (by rfl) (fun K hK => ?_)
        go_simp
        refine (HB.out _ hS).mono ?_
        rintro e u2 ⟨v3, v4, y, rfl, hp⟩
        have bK := hp.2.2.2.2.2.2.1
        replace hb1 := (bK.block s (lt_blk hb1)).trans hb1
        replace hb2 := (bK.block (s + 1) (lt_blk hb2)).trans hb2
        replace k1 := k1.later bK
        replace k2 := k2.later bK
        have k3 := hp.1.base hz
        have k4 := hp.2.1.base hz
        have q2 := And.intro hp.2.2.1 (And.intro hp.2.2.2.1 (And.intro hp.2.2.2.2.1 hp.2.2.2.2.2.1))
        replace hS := hS.trans (bK.mono (Nat.le_trans (by omega) hz))
        replace hz := Nat.le_trans hz bK.size
        clear bK hp
        refine hK.out _ _ hS ?_
        clear hK
        (try simp only [Act.put, List.setIfInBounds_toArray, List.set_cons_zero, List.set_cons_succ])
        refine rg_step 4 rfl (by kernel_rfl) (by rfl) (fun K hK => ?_)
        refine wp_store_rs (g := s) (.tmp 3) (.tmp 13) rfl v1 v2 k1.one k2.one rfl rfl hb1 fun u3 a3 o3 z3 b3 => ?_
        replace k1 := k1.kept fun b hb => o3 b (by have := (k1.lt hb).1; omega)
        replace k2 := k2.kept fun b hb => o3 b (by have := (k2.lt hb).1; omega)
        replace k3 := k3.kept fun b hb => o3 b (by have := (k3.lt hb).1; omega)
        replace k4 := k4.kept fun b hb => o3 b (by have := (k4.lt hb).1; omega)
        replace hb2 := (o3 (s + 1) (by omega)).trans hb2
        replace hb1 := a3
        replace hS := b3 s w (by omega) hS
        rw [← z3] at hz
        clear a3 o3 z3 b3
        refine hK.out _ _ hS ?_
        clear hK
        (try simp only [Act.put])
        refine rg_step 5 rfl (by kernel_rfl) (by rfl) (fun K hK => ?_)
        refine wp_store_rs (g := s + 1) (.tmp 4) (.tmp 15) rfl v3 v4 k3.one k4.one rfl rfl hb2 fun u4 a3 o3 z3 b3 => ?_
        replace k1 := k1.kept fun b hb => o3 b (by have := (k1.lt hb).1; omega)
        replace k2 := k2.kept fun b hb => o3 b (by have := (k2.lt hb).1; omega)
        replace k3 := k3.kept fun b hb => o3 b (by have := (k3.lt hb).1; omega)
        replace k4 := k4.kept fun b hb => o3 b (by have := (k4.lt hb).1; omega)
        replace hb1 := (o3 s (by omega)).trans hb1
        replace hb2 := a3
        replace hS := b3 s w (by omega) hS
        rw [← z3] at hz
        clear a3 o3 z3 b3
        refine hK.out _ _ hS ?_
        clear hK
        (try simp only [Act.put])
        refine rg_done (by kernel_rfl) ?_
        go_wp2_with fail
        go_meet
        exact ⟨v1, v2, v3, v4, x, y, ⟨q1.1, q1.2.1, q1.2.2.1, q1.2.2.2⟩, ⟨q2.1, q2.2.1, q2.2.2.1, q2.2.2.2⟩, ⟨hb1, k1.base (Nat.zero_le _), k2.base (Nat.zero_le _)⟩, ⟨hb2, k3.base (Nat.zero_le _), k4.base (Nat.zero_le _)⟩, hS, hz⟩
      refine rg_or 2 rfl (by rfl) (fun K hK => ?_) ?_
      · refine wp_load_rs (g := s + 1) (p := vc) (q := vd) (.tmp 4) rfl rfl hb2 ?_
        refine hK.out _ _ hS ?_
        clear hK
        (try simp only [Act.put, List.setIfInBounds_toArray, List.set_cons_zero, List.set_cons_succ])
        refine rg_step 1 rfl (by kernel_rfl) (by rfl) (fun K hK => ?_)
        go_simp
        refine (HA.out _ hS).mono ?_
        rintro e u5 ⟨v1, v2, x, rfl, hp⟩
        have bK := hp.2.2.2.2.2.2.1
        replace hb1 := (bK.block s (lt_blk hb1)).trans hb1
        replace hb2 := (bK.block (s + 1) (lt_blk hb2)).trans hb2
        have k1 := hp.1.base hz
        have k2 := hp.2.1.base hz
        have q1 := And.intro hp.2.2.1 (And.intro hp.2.2.2.1 (And.intro hp.2.2.2.2.1 hp.2.2.2.2.2.1))
        replace hS := hS.trans (bK.mono (Nat.le_trans (by omega) hz))
        replace hz := Nat.le_trans hz bK.size
        clear bK hp
        refine hK.out _ _ hS ?_
        clear hK
        (try simp only [Act.put, List.setIfInBounds_toArray, List.set_cons_zero, List.set_cons_succ])
        refine rg_step 3 rfl (by kernel_rfl) (by rfl) (fun K hK => ?_)
        go_simp
        refine (HB.out _ hS).mono ?_
        rintro e u6 ⟨v3, v4, y, rfl, hp⟩
        have bK := hp.2.2.2.2.2.2.1
        replace hb1 := (bK.block s (lt_blk hb1)).trans hb1
        replace hb2 := (bK.block (s + 1) (lt_blk hb2)).trans hb2
        replace k1 := k1.later bK
        replace k2 := k2.later bK
        have k3 := hp.1.base hz
        have k4 := hp.2.1.base hz
        have q2 := And.intro hp.2.2.1 (And.intro hp.2.2.2.1 (And.intro hp.2.2.2.2.1 hp.2.2.2.2.2.1))
        replace hS := hS.trans (bK.mono (Nat.le_trans (by omega) hz))
        replace hz := Nat.le_trans hz bK.size
        clear bK hp
        refine hK.out _ _ hS ?_
        clear hK
        (try simp only [Act.put, List.setIfInBounds_toArray, List.set_cons_zero, List.set_cons_succ])
        refine rg_step 4 rfl (by kernel_rfl) (by rfl) (fun K hK => ?_)
        refine wp_store_rs (g := s) (.tmp 3) (.tmp 13) rfl v1 v2 k1.one k2.one rfl rfl hb1 fun u7 a3 o3 z3 b3 => ?_
        replace k1 := k1.kept fun b hb => o3 b (by have := (k1.lt hb).1; omega)
        replace k2 := k2.kept fun b hb => o3 b (by have := (k2.lt hb).1; omega)
        replace k3 := k3.kept fun b hb => o3 b (by have := (k3.lt hb).1; omega)
        replace k4 := k4.kept fun b hb => o3 b (by have := (k4.lt hb).1; omega)
        replace hb2 := (o3 (s + 1) (by omega)).trans hb2
        replace hb1 := a3
        replace hS := b3 s w (by omega) hS
        rw [← z3] at hz
        clear a3 o3 z3 b3
        refine hK.out _ _ hS ?_
        clear hK
        (try simp only [Act.put])
        refine rg_step 5 rfl (by kernel_rfl) (by rfl) (fun K hK => ?_)
        refine wp_store_rs (g := s + 1) (.tmp 4) (.tmp 15) rfl v3 v4 k3.one k4.one rfl rfl hb2 fun u8 a3 o3 z3 b3 => ?_
        replace k1 := k1.kept fun b hb => o3 b (by have := (k1.lt hb).1; omega)
        replace k2 := k2.kept fun b hb => o3 b (by have := (k2.lt hb).1; omega)
        replace k3 := k3.kept fun b hb => o3 b (by have := (k3.lt hb).1; omega)
        replace k4 := k4.kept fun b hb => o3 b (by have := (k4.lt hb).1; omega)
        replace hb1 := (o3 s (by omega)).trans hb1
        replace hb2 := a3
        replace hS := b3 s w (by omega) hS
        rw [← z3] at hz
        clear a3 o3 z3 b3
        refine hK.out _ _ hS ?_
        clear hK
        (try simp only [Act.put])
        refine rg_done (by kernel_rfl) ?_
        go_wp2_with fail
        go_meet
        exact ⟨v1, v2, v3, v4, x, y, ⟨q1.1, q1.2.1, q1.2.2.1, q1.2.2.2⟩, ⟨q2.1, q2.2.1, q2.2.2.1, q2.2.2.2⟩, ⟨hb1, k1.base (Nat.zero_le _), k2.base (Nat.zero_le _)⟩, ⟨hb2, k3.base (Nat.zero_le _), k4.base (Nat.zero_le _)⟩, hS, hz⟩
      exact AllReadyH.nil
    refine rg_or 2 rfl (by rfl) (fun K hK => ?_) ?_
    · refine wp_load_rs (g := s + 1) (p := vc) (q := vd) (.tmp 4) rfl rfl hb2 ?_
      refine hK.out _ _ hS ?_
      clear hK
      (try simp only [Act.put, List.setIfInBounds_toArray, List.set_cons_zero, List.set_cons_succ])
      refine rg_step 0 rfl (by kernel_rfl) (by rfl) (fun K hK => ?_)
      refine wp_load_rs (g := s) (p := va) (q := vb) (.tmp 3) rfl rfl hb1 ?_
      refine hK.out _ _ hS ?_
      clear hK
      (try simp only [Act.put, List.setIfInBounds_toArray, List.set_cons_zero, List.set_cons_succ])
      refine rg_step 1 rfl (by kernel_rfl) (by rfl) (fun K hK => ?_)
      go_simp
      refine (HA.out _ hS).mono ?_
      rintro e u9 ⟨v1, v2, x, rfl, hp⟩
      have bK := hp.2.2.2.2.2.2.1
      replace hb1 := (bK.block s (lt_blk hb1)).trans hb1
      replace hb2 := (bK.block (s + 1) (lt_blk hb2)).trans hb2
      have k1 := hp.1.base hz
      have k2 := hp.2.1.base hz
      have q1 := And.intro hp.2.2.1 (And.intro hp.2.2.2.1 (And.intro hp.2.2.2.2.1 hp.2.2.2.2.2.1))
      replace hS := hS.trans (bK.mono (Nat.le_trans (by omega) hz))
      replace hz := Nat.le_trans hz bK.size
      clear bK hp
      refine hK.out _ _ hS ?_
      clear hK
      (try simp only [Act.put, List.setIfInBounds_toArray, List.set_cons_zero, List.set_cons_succ])
      refine rg_step 3 rfl (by kernel_rfl) (by rfl) (fun K hK => ?_)
      go_simp
      refine (HB.out _ hS).mono ?_
      rintro e u10 ⟨v3, v4, y, rfl, hp⟩
      have bK := hp.2.2.2.2.2.2.1
      replace hb1 := (bK.block s (lt_blk hb1)).trans hb1
      replace hb2 := (bK.block (s + 1) (lt_blk hb2)).trans hb2
      replace k1 := k1.later bK
      replace k2 := k2.later bK
      have k3 := hp.1.base hz
      have k4 := hp.2.1.base hz
      have q2 := And.intro hp.2.2.1 (And.intro hp.2.2.2.1 (And.intro hp.2.2.2.2.1 hp.2.2.2.2.2.1))
      replace hS := hS.trans (bK.mono (Nat.le_trans (by omega) hz))
      replace hz := Nat.le_trans hz bK.size
      clear bK hp
      refine hK.out _ _ hS ?_
      clear hK
      (try simp only [Act.put, List.setIfInBounds_toArray, List.set_cons_zero, List.set_cons_succ])
      refine rg_step 4 rfl (by kernel_rfl) (by rfl) (fun K hK => ?_)
      refine wp_store_rs (g := s) (.tmp 3) (.tmp 13) rfl v1 v2 k1.one k2.one rfl rfl hb1 fun u11 a3 o3 z3 b3 => ?_
      replace k1 := k1.kept fun b hb => o3 b (by have := (k1.lt hb).1; omega)
      replace k2 := k2.kept fun b hb => o3 b (by have := (k2.lt hb).1; omega)
      replace k3 := k3.kept fun b hb => o3 b (by have := (k3.lt hb).1; omega)
      replace k4 := k4.kept fun b hb => o3 b (by have := (k4.lt hb).1; omega)
      replace hb2 := (o3 (s + 1) (by omega)).trans hb2
      replace hb1 := a3
      replace hS := b3 s w (by omega) hS
      rw [← z3] at hz
      clear a3 o3 z3 b3
      refine hK.out _ _ hS ?_
      clear hK
      (try simp only [Act.put])
      refine rg_step 5 rfl (by kernel_rfl) (by rfl) (fun K hK => ?_)
      refine wp_store_rs (g := s + 1) (.tmp 4) (.tmp 15) rfl v3 v4 k3.one k4.one rfl rfl hb2 fun u12 a3 o3 z3 b3 => ?_
      replace k1 := k1.kept fun b hb => o3 b (by have := (k1.lt hb).1; omega)
      replace k2 := k2.kept fun b hb => o3 b (by have := (k2.lt hb).1; omega)
      replace k3 := k3.kept fun b hb => o3 b (by have := (k3.lt hb).1; omega)
      replace k4 := k4.kept fun b hb => o3 b (by have := (k4.lt hb).1; omega)
      replace hb1 := (o3 s (by omega)).trans hb1
      replace hb2 := a3
      replace hS := b3 s w (by omega) hS
      rw [← z3] at hz
      clear a3 o3 z3 b3
      refine hK.out _ _ hS ?_
      clear hK
      (try simp only [Act.put])
      refine rg_done (by kernel_rfl) ?_
      go_wp2_with fail
      go_meet
      exact ⟨v1, v2, v3, v4, x, y, ⟨q1.1, q1.2.1, q1.2.2.1, q1.2.2.2⟩, ⟨q2.1, q2.2.1, q2.2.2.1, q2.2.2.2⟩, ⟨hb1, k1.base (Nat.zero_le _), k2.base (Nat.zero_le _)⟩, ⟨hb2, k3.base (Nat.zero_le _), k4.base (Nat.zero_le _)⟩, hS, hz⟩
    exact AllReadyH.nil
  case rest =>
    obtain ⟨v1, v2, v3, v4, x, y, px, py, hX, hY, hb, hz⟩ := hcut
    have EN := Lib.hid (fun (w' : World) (h : Below wc.heap.size wc w') => HE.out.later (hb.trans (h.mono (by omega))) (Nat.le_of_eq hs))
    have HX := Lib.hid (And.intro px (And.intro py (And.intro hX (And.intro hY (And.intro hb hz)))))
    clear px py hX hY hb hz
    go_wp2_with (first
      | (refine wpList_load_rs (g := s) (p := v1) (q := v2) rfl (.tmp 3) rfl rfl HX.out.2.2.1.1 ?_))
    refine (HX.out.2.2.1.text HX.out.1.1 (EN.out _ (Below.refl _ _))).mono ?_
    rintro e w3 ⟨rfl, b3⟩
    have B3 := Lib.hid b3
    have hlx := text_long HX.out.1.1 HX.out.1.2.1 HX.out.1.2.2.1 HX.out.1.2.2.2
    obtain ⟨T, hT⟩ : ∃ T, textR fx x = T := ⟨_, rfl⟩
    have HT := Lib.hid (And.intro hT (show T.length ≤ 3090 by rw [← hT]; exact hlx))
    rw [hT]
    clear b3 hlx hT
    go_wp2_with fail
    rw [HNN.out.1]
    go_loopw [7, 8] (fun sv i wr => ∃ k : Nat, k ≤ N + 1 ∧ i = .int .i64 ((N : Int) - (k : Int)) ∧ sv = .string (mkS (T ++ nbs k)) ∧ Hid (Below wc.heap.size wc wr)) (fun _ i _ => (intOf i + 1).toNat)
    case atStart => exact ⟨0, Nat.zero_le _, by simp, by simp [nbs], B3⟩
    case round =>
      obtain ⟨k, hk, rfl, rfl, HR⟩ := hrel
      by_cases hkn : k ≤ N
      · have hi : (0 : Int) ≤ (N : Int) - (k : Int) := by omega
        have hN5 := HNN.out.2
        obtain ⟨J, hJ⟩ : ∃ J, mkS (T ++ nbs k) = J := ⟨_, rfl⟩
        obtain ⟨J1, hJ1⟩ : ∃ J, mkS (T ++ nbs (k + 1)) = J := ⟨_, rfl⟩
        have hcat : J ++ (⟨#[32, 35, 32, 110, 111, 116, 104, 105, 110, 103, 10, 10]⟩ : ByteArray) = J1 := by rw [← hJ, ← hJ1, nbs, ← List.append_assoc]; exact mkS_cat _ _
        have lJ : J.size ≤ 4000 := by rw [← hJ, mkS_size, List.length_append, nbs_len]; have := HT.out.2; omega
        have HS := Lib.hid hJ1
        rw [hJ]
        clear hJ hJ1
        obtain ⟨i, hie⟩ : ∃ i : Int, (N : Int) - (k : Int) = i := ⟨_, rfl⟩
        rw [hie] at hi ⊢
        have hi9 : i ≤ 5 := by omega
        go_wp2_with fail
        exact ⟨⟨k + 1, by omega, by go_num, by rw [HS.out], HR⟩, by simp [intOf]; omega⟩
      · obtain rfl : k = N + 1 := by omega
        have hi : ¬ (0 : Int) ≤ (N : Int) - ((N + 1 : Nat) : Int) := by omega
        obtain ⟨i, hie⟩ : ∃ i : Int, (N : Int) - ((N + 1 : Nat) : Int) = i := ⟨_, rfl⟩
        rw [hie] at hi ⊢
        have hlj : (T ++ nbs (N + 1)).length ≤ 3150 := by rw [List.length_append, nbs_len]; have := HT.out.2; have := HNN.out.2; omega
        have hly := text_long (right_rules HX.out.2.1.1) (Nat.zero_le _) HX.out.2.1.2.2.1 HX.out.2.1.2.2.2
        have hcat0 := mkS_cat (T ++ nbs (N + 1)) (textR fx (⟨[], y.rules⟩ : Rs19))
        have htv := lines_textV HX.out.1.1 HX.out.2.1.1 (by have := HX.out.1.2.2.1; have := HX.out.2.1.2.2.1; omega) (N + 1)
        rw [HT.out.1] at htv
        obtain ⟨J, hJ⟩ : ∃ J, mkS (T ++ nbs (N + 1)) = J := ⟨_, rfl⟩
        obtain ⟨J1, hJ1⟩ : ∃ J, mkS (textR fx (⟨[], y.rules⟩ : Rs19)) = J := ⟨_, rfl⟩
        obtain ⟨J2, hJ2⟩ : ∃ J, mkS (T ++ nbs (N + 1) ++ textR fx (⟨[], y.rules⟩ : Rs19)) = J := ⟨_, rfl⟩
        have lJ : J.size ≤ 4000 := by rw [← hJ, mkS_size]; omega
        have lJ1 : J1.size ≤ 4000 := by rw [← hJ1, mkS_size]; omega
        have lJ2 : J2.size ≤ 20000 := by rw [← hJ2, mkS_size, List.length_append]; omega
        have htv2 : textV J2.data.toList = .inr ⟨x.servers, x.rules ++ y.rules⟩ := by rw [← hJ2, mkS_data]; exact htv
        rw [hJ, hJ1, hJ2] at hcat0
        have hcat : J ++ J1 = J2 := hcat0
        have HP := Lib.hid (And.intro lJ2 htv2)
        have hYr := HX.out.2.2.2.1.later HR.out
        obtain ⟨A5, c5, e5, g5, _⟩ := RwS.of_own hYr.2.2
        obtain ⟨m5, hm5⟩ : ∃ m, (y.rules.map rwR).length = m := ⟨_, rfl⟩
        rw [hm5] at e5 g5
        have KT := textO (x := ⟨[], y.rules⟩) (A9O.nil wr 0) hYr.2.2 (right_rules HX.out.2.1.1) (EN.out _ HR.out)
        rw [e5, hJ1] at KT
        have HKT := Lib.hid KT
        have kc4 : wr.cell? ⟨s + 1, 1, none⟩ = some (.slice A5 m5 c5) := by rw [← e5]; exact cell_of_row wr (s + 1) 1 _ _ _ hYr.1
        rw [hJ]
        clear hcat0 htv htv2 hJ hJ1 hJ2 hlj hly lJ2 hYr e5 g5 hm5 KT
        go_wp2_with (first
          | (refine wpList_plain rfl fun _ hK => wp_build_rs2 (.tmp 31) rfl A5 m5 c5 rfl (hK _ _ ?_); clear hK))
        refine HKT.out.mono ?_
        rintro e w4 ⟨rfl, b4⟩
        have H4 := Lib.hid (HR.out.trans (b4.mono HR.out.size))
        clear b4 kc4
        go_wp2_with fail
        refine (parsed_ok (s := J2) (EN.out _ H4.out) HP.out.1 HP.out.2).mono ?_
        rintro e w5p ⟨v5, v6, rfl, k1, k2, b5⟩
        have H5p := Lib.hid (And.intro (H4.out.trans (b5.mono H4.out.size)) (And.intro k1 k2))
        clear b5 k1 k2
        go_wp2_with (first
          | (refine wpList_alloc_rs rfl rfl ?_; intro w5a a2 b2 z2; have H5a := Lib.hid (And.intro a2 b2); clear a2 b2 z2)
          | (refine wpList_store_rs rfl (.tmp 9) (.tmp 36) rfl v5 v6 H5p.out.2.1.one H5p.out.2.2.one rfl rfl H5a.out.1 ?_; intro w5 a3 o3 z3 b3; have H5 := Lib.hid (And.intro a3 (b3 w5p.heap.size w5p (Nat.le_refl _) H5a.out.2)); clear a3 o3 z3 b3))
        obtain ⟨g9, hg9⟩ : ∃ g, w5p.heap.size = g := ⟨_, rfl⟩
        have K5 : Keep w5 g9 v5 v6 ⟨x.servers, x.rules ++ y.rules⟩ := by rw [← hg9]; exact ⟨H5.out.1, (H5p.out.2.1.later H5.out.2).base (Nat.zero_le _), (H5p.out.2.2.later H5.out.2).base (Nat.zero_le _)⟩
        have B5 : Below wc.heap.size wc w5 := H5p.out.1.trans (H5.out.2.mono H5p.out.1.size)
        rw [hg9]
        obtain ⟨W, hW⟩ : ∃ W, w5 = W := ⟨_, rfl⟩
        rw [hW] at K5 B5 ⊢
        have H6 := Lib.hid (And.intro K5 B5)
        have X6 := HX.out.2.2.1.later B5
        have Y6 := HX.out.2.2.2.1.later B5
        obtain ⟨A1, c1, e1, _, _⟩ := A9S.of_own X6.2.1
        obtain ⟨m1, hm1⟩ : ∃ m, x.servers.length = m := ⟨_, rfl⟩
        obtain ⟨A2, c2, e2, s2, _⟩ := RwS.of_own X6.2.2
        obtain ⟨m2, hm2⟩ : ∃ m, (x.rules.map rwR).length = m := ⟨_, rfl⟩
        obtain ⟨A4, c4, e4, s4, _⟩ := RwS.of_own Y6.2.2
        obtain ⟨m4, hm4⟩ : ∃ m, (y.rules.map rwR).length = m := ⟨_, rfl⟩
        rw [hm1] at e1
        rw [hm2] at e2 s2
        rw [hm4] at e4 s4
        subst e1 e2 e4
        obtain ⟨xr, hxr⟩ : ∃ l, x.rules.map rwR = l := ⟨_, rfl⟩
        obtain ⟨yr, hyr⟩ : ∃ l, y.rules.map rwR = l := ⟨_, rfl⟩
        have HM := Lib.hid (show m2 ≤ 20 ∧ m4 ≤ 20 ∧ xr.length ≤ 20 from ⟨by rw [← hm2, List.length_map]; exact HX.out.1.2.2.1, by rw [← hm4, List.length_map]; exact HX.out.2.1.2.2.1, by rw [← hxr, List.length_map]; exact HX.out.1.2.2.1⟩)
        rw [hxr] at s2
        rw [hyr] at s4
        have HS2 := Lib.hid (fun (w' : World) (h : Below W.heap.size W w') => s2.later h (Nat.le_refl _))
        have HS4 := Lib.hid (fun (w' : World) (h : Below W.heap.size W w') => s4.later h (Nat.le_refl _))
        have rk1 : ∀ w', Below W.heap.size W w' → w'.cell? ⟨s, 0, none⟩ = some (.slice A1 m1 c1) := fun w' h => cell_of_row w' s 0 _ _ _ (X6.later h).1
        have rk2 : ∀ w', Below W.heap.size W w' → w'.cell? ⟨s, 1, none⟩ = some (.slice A2 m2 c2) := fun w' h => cell_of_row w' s 1 _ _ _ (X6.later h).1
        have rk3 : ∀ w', Below W.heap.size W w' → w'.cell? ⟨s + 1, 1, none⟩ = some (.slice A4 m4 c4) := fun w' h => cell_of_row w' (s + 1) 1 _ _ _ (Y6.later h).1
        have HXY := Lib.hid (And.intro X6 (And.intro hxr hyr))
        clear K5 B5 X6 Y6 s2 s4 hm1 hm2 hm4 hxr hyr hg9 hW
        go_cut [11] (fun p wx => ∃ g v6, p = .pointer (some ⟨g, 0, none⟩) ∧ RsBox wx g (.slice A1 m1 c1) v6 ∧ RwO wx W.heap.size v6 (xr ++ yr) ∧ Below W.heap.size W wx)
        case first =>
          have hS : Below W.heap.size W W.drew := (Below.refl _ _).drew
          refine rg_begin (fun w' => Below W.heap.size W w') 11 (by kernel_rfl) rfl ?_
          refine rg_take 0 (v := ?rv1) rfl (by kernel_rfl) (by kernel_rfl) (by kernel_rfl) (fun _ _ _ h => h) (by rfl) hS (fun w2 hw2 => ?ry1) ?rr1
          case ry1 => ((try dsimp only at hw2); go_simp <;> with_reducible rfl)
          simp only [Act.put, List.setIfInBounds_toArray, List.set_cons_zero, List.set_cons_succ]
          refine rg_take 2 (v := ?rv2) rfl (by kernel_rfl) (by kernel_rfl) (by kernel_rfl) (fun _ _ _ h => h) (by rfl) hS (fun w2 hw2 => ?ry2) ?rr2
          case ry2 => ((try dsimp only at hw2); go_simp <;> with_reducible rfl)
          simp only [Act.put, List.setIfInBounds_toArray, List.set_cons_zero, List.set_cons_succ]
          refine rg_take 5 (v := ?rv3) rfl (by kernel_rfl) (by kernel_rfl) (by kernel_rfl) (fun _ _ _ h => h) (by rfl) hS (fun w2 hw2 => ?ry3) ?rr3
          case ry3 => ((try dsimp only at hw2); go_simp <;> with_reducible rfl)
          simp only [Act.put, List.setIfInBounds_toArray, List.set_cons_zero, List.set_cons_succ]
          refine rg_take 1 (v := ?rv4) rfl (by kernel_rfl) (by kernel_rfl) (by kernel_rfl) (fun _ _ _ h => h) (by rfl) hS (fun w2 hw2 => ?ry4) ?rr4
          case ry4 => ((try dsimp only at hw2); go_simp <;> with_reducible rfl)
          simp only [Act.put, List.setIfInBounds_toArray, List.set_cons_zero, List.set_cons_succ]
          refine rg_take 3 (v := ?rv5) rfl (by kernel_rfl) (by kernel_rfl) (by kernel_rfl) (fun _ _ _ h => h) (by rfl) hS (fun w2 hw2 => ?ry5) ?rr5
          case ry5 => ((try dsimp only at hw2); go_simp <;> with_reducible rfl)
          simp only [Act.put, List.setIfInBounds_toArray, List.set_cons_zero, List.set_cons_succ]
          refine rg_take 6 (v := ?rv6) rfl (by kernel_rfl) (by kernel_rfl) (by kernel_rfl) (fun _ _ _ h => h) (by rfl) hS (fun w2 hw2 => ?ry6) ?rr6
          case ry6 => ((try dsimp only at hw2); go_simp <;> with_reducible rfl)
          simp only [Act.put, List.setIfInBounds_toArray, List.set_cons_zero, List.set_cons_succ]
          refine rg_any [4, 9] (by kernel_rfl) (by simp) ?_
          refine rg_or 4 rfl (by rfl) (fun K hK => ?_) ?_
          · refine wp_cat_rw (.const (.slice none 0 0)) (.tmp 41) rfl W.heap.size (.slice none 0 0) [] rfl (RwO.nil _ _) rfl (HS2.out _ hS) (by have := HM.out.1; show 0 + _ ≤ _; omega) hS.size ?_
            intro v5 u13 hR3 gR atR
            rw [List.nil_append] at hR3
            replace hS := hS.grown gR hS.size (fun k e => by cases e)
            have hR := hR3
            clear hR3 gR atR
            refine hK.out _ _ hS ?_
            clear hK
            (try simp only [Act.put, List.setIfInBounds_toArray, List.set_cons_zero, List.set_cons_succ])
            refine rg_any [7, 9] (by kernel_rfl) (by simp) ?_
            refine rg_or 7 rfl (by rfl) (fun K hK => ?_) ?_
            · refine wp_cat_rw (.tmp 42) (.tmp 44) rfl W.heap.size v5 xr rfl hR rfl (HS4.out _ hS) (by have := HM.out.1; have := HM.out.2.1; have := HM.out.2.2; omega) hS.size ?_
              intro v6 u14 hR3 gR atR
              replace hS := hS.grown gR hS.size (fun k e => (hR.lt e).1)
              replace hR := hR3
              clear hR3 gR atR
              refine hK.out _ _ hS ?_
              clear hK
              (try simp only [Act.put, List.setIfInBounds_toArray, List.set_cons_zero, List.set_cons_succ])
              refine rg_any [8, 9] (by kernel_rfl) (by simp) ?_
              refine rg_or 8 rfl (by rfl) (fun K hK => ?_) ?_
              · obtain ⟨A3, c3, rfl, _, _⟩ := RwS.of_own hR
                obtain ⟨m3, hm3⟩ : ∃ m, (xr ++ yr).length = m := ⟨_, rfl⟩
                rw [hm3] at hR ⊢
                refine wp_build_rs3 (.tmp 39) (.tmp 45) rfl A1 m1 c1 A3 m3 c3 rfl rfl ?_
                refine hK.out _ _ hS ?_
                clear hK
                (try simp only [Act.put, List.setIfInBounds_toArray, List.set_cons_zero, List.set_cons_succ])
                refine rg_step 9 rfl (by kernel_rfl) (by rfl) (fun K hK => ?_)
                have hN0 := fun b (hb : (Value.slice A3 m3 c3).ownBlock = some b) => (hR.lt hb).2
                refine wp_alloc_rs rfl fun u16 hB bK zB => ?_
                replace hR := hR.later bK
                obtain ⟨g5, hg5⟩ : ∃ g, u14.heap.size = g := ⟨_, rfl⟩
                have hN : ∀ b, (Value.slice A3 m3 c3).ownBlock = some b → b ≠ g5 := fun b hb => by have := hN0 b hb; omega
                clear hN0
                have hG : W.heap.size ≤ g5 := by rw [← hg5]; exact hS.size
                rw [hg5] at hB ⊢
                replace hS := hS.trans (bK.mono hS.size)
                clear bK zB hg5
                refine hK.out _ _ hS ?_
                clear hK
                (try simp only [Act.put, List.setIfInBounds_toArray, List.set_cons_zero, List.set_cons_succ])
                refine rg_step 10 rfl (by kernel_rfl) (by rfl) (fun K hK => ?_)
                refine wp_store_rs (.tmp 11) (.tmp 46) rfl (.slice A1 m1 c1) (.slice A3 m3 c3) rfl rfl rfl rfl hB fun u17 a3 o3 z3 b3 => ?_
                replace hS := b3 W.heap.size W hG hS
                replace hR := hR.kept fun b hb => o3 b (hN b hb)
                refine hK.out _ _ hS ?_
                clear hK
                (try simp only [Act.put])
                refine rg_done (by kernel_rfl) ?_
                go_wp2_with fail
                go_meet
                exact ⟨_, .slice A3 m3 c3, rfl, a3, hR, hS⟩
              refine rg_or 9 rfl (by rfl) (fun K hK => ?_) ?_
              · have hN0 := fun b (hb : v6.ownBlock = some b) => (hR.lt hb).2
                refine wp_alloc_rs rfl fun u18 hB bK zB => ?_
                replace hR := hR.later bK
                obtain ⟨g5, hg5⟩ : ∃ g, u14.heap.size = g := ⟨_, rfl⟩
                have hN : ∀ b, v6.ownBlock = some b → b ≠ g5 := fun b hb => by have := hN0 b hb; omega
                clear hN0
                have hG : W.heap.size ≤ g5 := by rw [← hg5]; exact hS.size
                rw [hg5] at hB ⊢
                replace hS := hS.trans (bK.mono hS.size)
                clear bK zB hg5
                refine hK.out _ _ hS ?_
                clear hK
                (try simp only [Act.put, List.setIfInBounds_toArray, List.set_cons_zero, List.set_cons_succ])
                refine rg_step 8 rfl (by kernel_rfl) (by rfl) (fun K hK => ?_)
                obtain ⟨A3, c3, rfl, _, _⟩ := RwS.of_own hR
                obtain ⟨m3, hm3⟩ : ∃ m, (xr ++ yr).length = m := ⟨_, rfl⟩
                rw [hm3] at hR hN ⊢
                refine wp_build_rs3 (.tmp 39) (.tmp 45) rfl A1 m1 c1 A3 m3 c3 rfl rfl ?_
                refine hK.out _ _ hS ?_
                clear hK
                (try simp only [Act.put, List.setIfInBounds_toArray, List.set_cons_zero, List.set_cons_succ])
                refine rg_step 10 rfl (by kernel_rfl) (by rfl) (fun K hK => ?_)
                refine wp_store_rs (.tmp 11) (.tmp 46) rfl (.slice A1 m1 c1) (.slice A3 m3 c3) rfl rfl rfl rfl hB fun u20 a3 o3 z3 b3 => ?_
                replace hS := b3 W.heap.size W hG hS
                replace hR := hR.kept fun b hb => o3 b (hN b hb)
                refine hK.out _ _ hS ?_
                clear hK
                (try simp only [Act.put])
                refine rg_done (by kernel_rfl) ?_
                go_wp2_with fail
                go_meet
                exact ⟨_, .slice A3 m3 c3, rfl, a3, hR, hS⟩
              exact AllReadyH.nil
            refine rg_or 9 rfl (by rfl) (fun K hK => ?_) ?_
            · have hN0 := fun b (hb : v5.ownBlock = some b) => (hR.lt hb).2
              refine wp_alloc_rs rfl fun u21 hB bK zB => ?_
              replace hR := hR.later bK
              obtain ⟨g5, hg5⟩ : ∃ g, u13.heap.size = g := ⟨_, rfl⟩
              have hN : ∀ b, v5.ownBlock = some b → b ≠ g5 := fun b hb => by have := hN0 b hb; omega
              clear hN0
              have hG : W.heap.size ≤ g5 := by rw [← hg5]; exact hS.size
              rw [hg5] at hB ⊢
              replace hS := hS.trans (bK.mono hS.size)
              clear bK zB hg5
              refine hK.out _ _ hS ?_
              clear hK
              (try simp only [Act.put, List.setIfInBounds_toArray, List.set_cons_zero, List.set_cons_succ])
              refine rg_step 7 rfl (by kernel_rfl) (by rfl) (fun K hK => ?_)
              refine wp_cat_rw (.tmp 42) (.tmp 44) rfl W.heap.size v5 xr rfl hR rfl (HS4.out _ hS) (by have := HM.out.1; have := HM.out.2.1; have := HM.out.2.2; omega) hS.size ?_
              intro v6 u22 hR3 gR atR
              have hlb := lt_blk hB
              replace hB := (gR.block _ hlb (fun e => hN _ e.symm rfl)).trans hB
              replace hN : ∀ b, v6.ownBlock = some b → b ≠ g5 := fun b hb => by rcases atR with e | e <;> rw [e] at hb; exact hN b hb; cases hb; omega
              clear hlb
              replace hS := hS.grown gR hS.size (fun k e => (hR.lt e).1)
              replace hR := hR3
              clear hR3 gR atR
              refine hK.out _ _ hS ?_
              clear hK
              (try simp only [Act.put, List.setIfInBounds_toArray, List.set_cons_zero, List.set_cons_succ])
              refine rg_step 8 rfl (by kernel_rfl) (by rfl) (fun K hK => ?_)
              obtain ⟨A3, c3, rfl, _, _⟩ := RwS.of_own hR
              obtain ⟨m3, hm3⟩ : ∃ m, (xr ++ yr).length = m := ⟨_, rfl⟩
              rw [hm3] at hR hN ⊢
              refine wp_build_rs3 (.tmp 39) (.tmp 45) rfl A1 m1 c1 A3 m3 c3 rfl rfl ?_
              refine hK.out _ _ hS ?_
              clear hK
              (try simp only [Act.put, List.setIfInBounds_toArray, List.set_cons_zero, List.set_cons_succ])
              refine rg_step 10 rfl (by kernel_rfl) (by rfl) (fun K hK => ?_)
              refine wp_store_rs (.tmp 11) (.tmp 46) rfl (.slice A1 m1 c1) (.slice A3 m3 c3) rfl rfl rfl rfl hB fun u24 a3 o3 z3 b3 => ?_
              replace hS := b3 W.heap.size W hG hS
              replace hR := hR.kept fun b hb => o3 b (hN b hb)
              refine hK.out _ _ hS ?_
              clear hK
              (try simp only [Act.put])
              refine rg_done (by kernel_rfl) ?_
              go_wp2_with fail
              go_meet
              exact ⟨_, .slice A3 m3 c3, rfl, a3, hR, hS⟩
            exact AllReadyH.nil
          refine rg_or 9 rfl (by rfl) (fun K hK => ?_) ?_
          · refine wp_alloc_rs rfl fun u25 hB bK zB => ?_
            obtain ⟨g5, hg5⟩ : ∃ g, W.drew.heap.size = g := ⟨_, rfl⟩
            have hG : W.heap.size ≤ g5 := by rw [← hg5]; exact hS.size
            rw [hg5] at hB ⊢
            replace hS := hS.trans (bK.mono hS.size)
            clear bK zB hg5
            refine hK.out _ _ hS ?_
            clear hK
            (try simp only [Act.put, List.setIfInBounds_toArray, List.set_cons_zero, List.set_cons_succ])
            refine rg_step 4 rfl (by kernel_rfl) (by rfl) (fun K hK => ?_)
            refine wp_cat_rw (.const (.slice none 0 0)) (.tmp 41) rfl W.heap.size (.slice none 0 0) [] rfl (RwO.nil _ _) rfl (HS2.out _ hS) (by have := HM.out.1; show 0 + _ ≤ _; omega) hS.size ?_
            intro v5 u26 hR3 gR atR
            rw [List.nil_append] at hR3
            have hlb := lt_blk hB
            replace hB := (gR.block _ hlb (by simp [Value.ownBlock])).trans hB
            have hN : ∀ b, v5.ownBlock = some b → b ≠ g5 := fun b hb => by rcases atR with e | e <;> rw [e] at hb <;> cases hb; omega
            clear hlb
            replace hS := hS.grown gR hS.size (fun k e => by cases e)
            have hR := hR3
            clear hR3 gR atR
            refine hK.out _ _ hS ?_
            clear hK
            (try simp only [Act.put, List.setIfInBounds_toArray, List.set_cons_zero, List.set_cons_succ])
            refine rg_step 7 rfl (by kernel_rfl) (by rfl) (fun K hK => ?_)
            refine wp_cat_rw (.tmp 42) (.tmp 44) rfl W.heap.size v5 xr rfl hR rfl (HS4.out _ hS) (by have := HM.out.1; have := HM.out.2.1; have := HM.out.2.2; omega) hS.size ?_
            intro v6 u27 hR3 gR atR
            have hlb := lt_blk hB
            replace hB := (gR.block _ hlb (fun e => hN _ e.symm rfl)).trans hB
            replace hN : ∀ b, v6.ownBlock = some b → b ≠ g5 := fun b hb => by rcases atR with e | e <;> rw [e] at hb; exact hN b hb; cases hb; omega
            clear hlb
            replace hS := hS.grown gR hS.size (fun k e => (hR.lt e).1)
            replace hR := hR3
            clear hR3 gR atR
            refine hK.out _ _ hS ?_
            clear hK
            (try simp only [Act.put, List.setIfInBounds_toArray, List.set_cons_zero, List.set_cons_succ])
            refine rg_step 8 rfl (by kernel_rfl) (by rfl) (fun K hK => ?_)
            obtain ⟨A3, c3, rfl, _, _⟩ := RwS.of_own hR
            obtain ⟨m3, hm3⟩ : ∃ m, (xr ++ yr).length = m := ⟨_, rfl⟩
            rw [hm3] at hR hN ⊢
            refine wp_build_rs3 (.tmp 39) (.tmp 45) rfl A1 m1 c1 A3 m3 c3 rfl rfl ?_
            refine hK.out _ _ hS ?_
            clear hK
            (try simp only [Act.put, List.setIfInBounds_toArray, List.set_cons_zero, List.set_cons_succ])
            refine rg_step 10 rfl (by kernel_rfl) (by rfl) (fun K hK => ?_)
            refine wp_store_rs (.tmp 11) (.tmp 46) rfl (.slice A1 m1 c1) (.slice A3 m3 c3) rfl rfl rfl rfl hB fun u29 a3 o3 z3 b3 => ?_
            replace hS := b3 W.heap.size W hG hS
            replace hR := hR.kept fun b hb => o3 b (hN b hb)
            refine hK.out _ _ hS ?_
            clear hK
            (try simp only [Act.put])
            refine rg_done (by kernel_rfl) ?_
            go_wp2_with fail
            go_meet
            exact ⟨_, .slice A3 m3 c3, rfl, a3, hR, hS⟩
          exact AllReadyH.nil
        case rest =>
          obtain ⟨g, v7, rfl, hg, hr, hbW⟩ := hcut
          clear rk1 rk2 rk3
          have B7 : Below W.heap.size W wc := hbW
          have H7 := Lib.hid (And.intro (show Keep wc g (.slice A1 m1 c1) v7 ⟨x.servers, x.rules ++ y.rules⟩ from ⟨hg, (HXY.out.1.later hbW).2.1, by show RwO wc 0 v7 ((x.rules ++ y.rules).map rwR); rw [List.map_append, HXY.out.2.1, HXY.out.2.2]; exact hr.base (Nat.zero_le _)⟩) (And.intro (H6.out.1.later hbW) (H6.out.2.trans (hbW.mono H6.out.2.size))))
          clear hg hr hbW B7
          go_wp2_with fail
          refine (awake19 (EN.out _ H7.out.2.2)).mono ?_
          rintro e w8 ⟨rfl, b8⟩
          have K8 := H7.out.1.later b8
          have M8 := H7.out.2.1.later b8
          have H8 := Lib.hid (And.intro K8 (And.intro M8 (H7.out.2.2.trans (b8.mono H7.out.2.2.size))))
          clear K8 M8 b8
          go_wp2_with (first
            | (refine wpList_wantd rfl (wp_load_rs (g := g9) (p := v5) (q := v6) (.tmp 9) rfl rfl H8.out.2.1.1 ?_))
            | (refine wpList_wantd rfl (wp_load_rs (g := g) (p := .slice A1 m1 c1) (q := v7) (.tmp 11) rfl rfl H8.out.1.1 ?_)))
          refine (H8.out.2.1.same H8.out.1).mono ?_
          rintro e w9 ⟨rfl, b9⟩
          have H9 := Lib.hid (H8.out.2.2.trans (b9.mono H8.out.2.2.size))
          clear b9
          go_wp2_with fail
          go_ret
          refine ⟨rfl, ?_⟩
          rw [hs]
          exact HX.out.2.2.2.2.1.trans (H9.out.mono (by have := HX.out.2.2.2.2.2; omega))
end Go.Proofs.YtoagfmonfgagbaaGreatDoor
