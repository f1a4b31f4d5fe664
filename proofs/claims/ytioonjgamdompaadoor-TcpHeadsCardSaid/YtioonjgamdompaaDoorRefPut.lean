/-
  stockaderef01.Put. Conditions: those of the slice; 2^47 bytes at most.
-/
import Derived.Test.YtioonjgamdompaaDoorPut
namespace Go.Proofs.YtioonjgamdompaaDoor
open Go.RowKit

theorem putn_step (v : Int) (n j : Nat) (hj : j < n) : putn v n = (putn v n).take (n - 1 - j) ++ (UInt8.ofNat ((v / 2 ^ (8 * j)) % 256).toNat :: putn v j) := by
  induction n with
  | zero => omega
  | succ n ih =>
    by_cases h : j = n
    · subst h
      simp [putn]
    · have := ih (by omega)
      rw [show n + 1 - 1 - j = (n - 1 - j) + 1 by omega]
      simp only [putn, List.take_succ_cons, List.cons_append]
      rw [← this]

set_option maxRecDepth 100000 in
set_option maxHeartbeats 1000000 in
theorem ref_put {A : Option Addr} {n c : Nat} {l : List UInt8} {w : World} (hb : Bs w A n c l) (v : Int) (k : Nat) (hk : k ≤ 4) (h47 : n ≤ 140737488350000) : Calls Tryd.prog 31 #[.slice A n c, .int .i64 v, .int .i64 k] w fun e w' =>
    ∃ v', e = .returned v' ∧ w'.ownsRow w.heap.size 5 1 v' (n + k) (bv (l ++ putn v k)) ∧ Below w.heap.size w w' := by
  have HB := Lib.hid hb
  clear hb
  go_enter Tryd.func31, Tryd.ntmps31
  go_wp2_with (at_builtin; refine wpList_append_bs rfl (.const (.slice none 0 0)) (.tmp 9) 22 rfl w.heap.size 5 info5 Tryd.underlying22 _ 0 [] rfl (World.ownsRow_nil _ _ _ _) A n c l rfl HB.out (by omega) (Nat.le_refl _) ?_; intro v1 w1 o1 g1 n1 a1)
  have b1 : Below w.heap.size w w1 := (Below.refl _ w).grown g1 (Nat.le_refl _) (fun q hq => by cases hq)
  have H1 := Lib.hid (And.intro o1 b1)
  clear o1 g1 n1 a1 b1
  go_wp2_with fail
  go_loopw [7, 8] (fun s i wr => ∃ j : Nat, j ≤ k ∧ i = .int .i64 ((j : Int) - 1) ∧ wr.ownsRow w.heap.size 5 1 s (n + (k - j)) (bv (l ++ (putn v k).take (k - j))) ∧ Below w.heap.size w wr) (fun _ i _ => (intOf i + 1).toNat)
  case atStart => exact ⟨k, Nat.le_refl _, rfl, by simpa using H1.out.1, H1.out.2⟩
  case round =>
    obtain ⟨j, hj, rfl, ho, hb⟩ := hrel
    rcases Nat.eq_zero_or_pos j with h0 | h0
    · subst h0
      rw [Nat.sub_zero, List.take_of_length_le (by rw [putn_length]; exact Nat.le_refl _)] at ho
      have H2 := Lib.hid (And.intro ho hb)
      clear ho hb
      go_wp2_with fail
      go_ret
      exact ⟨_, rfl, H2.out⟩
    · obtain ⟨i, rfl⟩ : ∃ i, j = i + 1 := ⟨j - 1, by omega⟩
      have hst := putn_step v k i (by omega)
      have htk : (putn v k).take (k - i) = (putn v k).take (k - (i + 1)) ++ [UInt8.ofNat ((v / 2 ^ (8 * i)) % 256).toNat] := by
        have hl : ((putn v k).take (k - 1 - i)).length = k - 1 - i := by rw [List.length_take, putn_length]; omega
        conv => lhs; rw [hst]
        rw [show k - (i + 1) = k - 1 - i by omega, List.take_append, List.take_of_length_le (by rw [hl]; omega), hl, show k - i - (k - 1 - i) = 1 by omega]
        rfl
      have hsz := hb.size
      have HT := Lib.hid (And.intro htk (And.intro ho hb))
      clear hst htk ho hb
      rw [show (((i + 1 : Nat) : Int) - 1) = (i : Int) by omega]
      rcases (show i = 0 ∨ i = 1 ∨ i = 2 ∨ i = 3 by omega) with rfl | rfl | rfl | rfl
      all_goals
        simp only [show (2 : Int) ^ (8 * 0) = 1 from rfl, show (2 : Int) ^ (8 * 1) = 256 from rfl, show (2 : Int) ^ (8 * 2) = 65536 from rfl, show (2 : Int) ^ (8 * 3) = 16777216 from rfl, Int.ediv_one] at HT
        go_wp2_with (at_builtin; refine wpList_append_bs rfl (.tmp 17) (.tmp 24) 22 rfl w.heap.size 5 info5 Tryd.underlying22 _ _ _ rfl (HT.out.2.1.alloc _) _ 1 1 _ rfl (by exact Bs.byte _ _ _) (by omega) (by simp; omega) ?_; intro v2 w2 o2 g2 n2 a2)
        have b2 : Below w.heap.size w w2 := (HT.out.2.2.alloc hsz _).grown g2 (by simp; omega) (fun q hq => (HT.out.2.1.lt q hq).1)
        have H2 := Lib.hid (And.intro o2 b2)
        clear o2 g2 n2 a2 b2
        go_wp2_with fail
        first
          | refine ⟨⟨0, by omega, rfl, ?_, H2.out.2⟩, by simp [intOf]⟩
          | refine ⟨⟨1, by omega, rfl, ?_, H2.out.2⟩, by simp [intOf]⟩
          | refine ⟨⟨2, by omega, rfl, ?_, H2.out.2⟩, by simp [intOf]⟩
          | refine ⟨⟨3, by omega, rfl, ?_, H2.out.2⟩, by simp [intOf]⟩
        rw [HT.out.1, ← List.append_assoc]
        refine owns_n ?_ H2.out.1
        omega
end Go.Proofs.YtioonjgamdompaaDoor
