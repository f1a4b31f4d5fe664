/-
  
-/
import Derived.Test.YtoagfmonfgagbaaGreatDoorZ22
import Derived.Test.YtoagfmonfgagbaaGreatDoorZ30
import Derived.Lib.AppendZeros
import Derived.Deep.LoopGhost
namespace Go.Proofs.YtoagfmonfgagbaaGreatDoor
open Go.RowKit
set_option maxRecDepth 100000
theorem grow_nilI (n : Nat) (w : World) (h47 : n ≤ 1000000) : Calls Tryz.prog 156 #[.slice none 0 0, .int .i64 n] w fun e w' =>
    ∃ v', e = .returned v' ∧ w'.ownsRow w.heap.size 3 1 v' 0 [] ∧ Below w.heap.size w w' := by
  rcases Nat.eq_zero_or_pos n with hn | hn
  · subst hn
    go_enter Tryz.func156, Tryz.ntmps156
    go_wp2
    go_ret
    exact ⟨_, rfl, World.ownsRow_nil _ _ _ _, Below.refl _ _⟩
  · obtain ⟨i0, hi, hz, hz1, hz2⟩ := info_parts infoInt
    have hr := fun w => Lib.run_append_nil_zeros (P := Tryz.prog) w 39 3 39 3 i0 (.int .i64 0) .i64 .i64 Tryz.underlying39 Tryz.underlying3 hi hz n hn (by omega) (by omega) (by rw [hz2]; omega)
    have HR := Lib.hid hr
    have hge := grownCap_ge w n 0 3
    have hcm : grownCap w n 0 3 ≤ maxLen := grownCap_le_maxLen w n 0 3 (by unfold maxLen; omega)
    have HG := Lib.hid (And.intro hge hcm)
    have HZ := Lib.hid (And.intro hz1 hz2)
    clear hr hge hcm hz1 hz2
    go_enter Tryz.func156, Tryz.ntmps156
    go_wp2_with (at_builtin; refine Lib.wpList_append_run _ rfl (.tmp 20) (.tmp 21) 39 3 rfl _ _ rfl rfl _ _ (HR.out _) ?_)
    go_ret
    refine ⟨_, rfl, ?_, ((Below.refl _ w).alloc (Nat.le_refl _) _).drew⟩
    refine ⟨rfl, .inr ⟨_, _, _, rfl, Nat.le_refl _, heap_alloc_new w _, Nat.zero_le _, HG.out.2, ?_, by simp⟩⟩
    have := HG.out.1
    simp [size_zeroCells]
    omega
structure PieceI where
  A : Option Addr
  n : Nat
  c : Nat
  l : List Nat
def totalI (ps : List PieceI) : Nat := (ps.map (·.n)).sum
def flatI (ps : List PieceI) : List Nat := ps.flatMap (·.l)
def PiecesI (w : World) (g : Nat) (ps : List PieceI) : Prop := ∀ (i : Nat) p, ps[i]? = some p → w.cell? ⟨g, i, none⟩ = some (.slice p.A p.n p.c) ∧ Gs w p.A p.n p.c (iv p.l)
theorem PiecesI.later {w w' : World} {g B : Nat} {ps : List PieceI} (h : PiecesI w g ps) (hb : Below B w w') (hB : w.heap.size ≤ B) : PiecesI w' g ps := fun i p hp => by
  obtain ⟨h1, h2⟩ := h i p hp
  exact ⟨by rw [hb.cell (p := ⟨g, i, none⟩) (by have := lt_of_cell' h1; show g < B; simp at this; omega), h1], h2.later hb hB⟩
theorem totalI_take {ps : List PieceI} {k : Nat} {p : PieceI} (h : ps[k]? = some p) : totalI (ps.take (k + 1)) = totalI (ps.take k) + p.n := by
  rw [List.take_add_one, h]; unfold totalI; simp
theorem flatI_take {ps : List PieceI} {k : Nat} {p : PieceI} (h : ps[k]? = some p) : flatI (ps.take (k + 1)) = flatI (ps.take k) ++ p.l := by
  rw [List.take_add_one, h]; unfold flatI; simp
theorem totalI_le (ps : List PieceI) (k : Nat) : totalI (ps.take k) ≤ totalI ps := by
  induction ps generalizing k with
  | nil => simp [totalI]
  | cons p ps ih =>
    cases k with
    | zero => simp [totalI]
    | succ k =>
      have := ih k
      simp [totalI] at this ⊢
      omega
set_option maxHeartbeats 1000000 in
theorem concatI_any (g m c : Nat) (ps : List PieceI) (w : World) (hm : ps.length = m) (hm1 : m ≤ 1000000) (hps : PiecesI w g ps) (h47 : totalI ps ≤ 1000000) : Calls Tryz.prog 142 #[.slice (some ⟨g, 0, none⟩) m c] w fun e w' =>
    ∃ v', e = .returned v' ∧ w'.ownsRow w.heap.size 3 1 v' (totalI ps) (iv (flatI ps)) ∧ Below w.heap.size w w' := by
  have HP := Lib.hid hps
  have HM := Lib.hid hm
  clear hps hm
  go_enter Tryz.func142, Tryz.ntmps142
  go_wp2_with fail
  go_loop [3, 11] (fun s i => ∃ k : Nat, k ≤ m ∧ i = .int .i64 k ∧ s = .int .i64 (totalI (ps.take k))) (fun _ i => m - (intOf i).toNat)
  case atStart => exact ⟨0, Nat.zero_le _, rfl, rfl⟩
  case round =>
    obtain ⟨k, hk, rfl, rfl⟩ := hrel
    by_cases hlt : k < m
    · have hkl : k < ps.length := by rw [HM.out]; exact hlt
      obtain ⟨p, hp⟩ : ∃ p, ps[k]? = some p := ⟨_, List.getElem?_eq_getElem hkl⟩
      obtain ⟨h1, h2⟩ := HP.out k _ hp
      have ht := totalI_take hp
      have hle := totalI_le ps (k + 1)
      have ht1 : totalI (ps.take k) + p.n ≤ 1000000 := by omega
      have HT := Lib.hid ht
      clear ht hle h2 hp
      go_wp2_with fail
      all_goals exact ⟨⟨k + 1, hlt, by go_num, by rw [HT.out]; go_num⟩, by simp [intOf]; omega⟩
    · obtain rfl : k = m := by omega
      have hk : ps.take k = ps := List.take_of_length_le (by rw [HM.out]; exact Nat.le_refl _)
      rw [hk]
      clear hk
      go_wp2_with fail
      refine (grow_nilI (totalI ps) _ h47).mono ?_
      rintro e w1 ⟨v1, rfl, o1, b1⟩
      have H1 := Lib.hid (And.intro o1 b1)
      clear o1 b1
      go_wp2_with fail
      go_loopw [6, 27] (fun s i wr => ∃ j : Nat, j ≤ k ∧ i = .int .i64 j ∧ wr.ownsRow w.heap.size 3 1 s (totalI (ps.take j)) (iv (flatI (ps.take j))) ∧ Below w.heap.size w wr) (fun _ i _ => k - (intOf i).toNat)
      case atStart => exact ⟨0, Nat.zero_le _, rfl, H1.out.1, H1.out.2⟩
      case round =>
        obtain ⟨j, hj, rfl, ho, hb⟩ := hrel
        by_cases hlt2 : j < k
        · have hkl : j < ps.length := by rw [HM.out]; exact hlt2
          obtain ⟨p, hp⟩ : ∃ p, ps[j]? = some p := ⟨_, List.getElem?_eq_getElem hkl⟩
          obtain ⟨h1, h2⟩ := (HP.out.later hb (Nat.le_refl _)) j _ hp
          have ht := totalI_take hp
          have hf := flatI_take hp
          have hle := totalI_le ps (j + 1)
          have ht1 : totalI (ps.take j) + p.n ≤ 1000000 := by omega
          have HT := Lib.hid (And.intro ht (And.intro hf (And.intro h2 (And.intro ho hb))))
          have hsz := hb.size
          clear ht hle h2 hf ho hb hp
          go_wp2_with (at_builtin; refine wpList_append_gs rfl (.tmp 31) (.tmp 32) 39 rfl w.heap.size 3 infoInt rfl (by omega) Tryz.underlying39 _ _ _ rfl HT.out.2.2.2.1 p.A p.n p.c (iv p.l) rfl HT.out.2.2.1 (iv_one _) ht1 hsz ?_; intro v2 w2 o2 g2)
          have H2 := Lib.hid (And.intro o2 (HT.out.2.2.2.2.grown g2 hsz (fun q hq => (HT.out.2.2.2.1.lt q hq).1)))
          clear o2 g2
          go_wp2
          go_roundw
          case rel =>
            refine ⟨j + 1, hlt2, by go_num, ?_, H2.out.2⟩
            rw [HT.out.1, HT.out.2.1, iv_append]
            exact H2.out.1
          case measure => simp [intOf]; omega
        · obtain rfl : j = k := by omega
          rw [List.take_of_length_le (show ps.length ≤ j by rw [HM.out]; exact Nat.le_refl _)] at ho
          have H3 := Lib.hid (And.intro ho hb)
          clear ho hb
          go_wp2
          go_ret
          exact ⟨_, rfl, H3.out.1, H3.out.2⟩
end Go.Proofs.YtoagfmonfgagbaaGreatDoor
