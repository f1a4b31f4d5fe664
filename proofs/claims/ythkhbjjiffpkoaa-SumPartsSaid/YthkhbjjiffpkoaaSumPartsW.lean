/-
  stockadelaw03.SumParts answers true, whatever is handed in. No conditions.
-/
import Derived.Test.YthkhbjjiffpkoaaAwake03
import Derived.Test.YthkhbjjiffpkoaaPut
namespace Go.Proofs.Ythkhbjjiffpkoaa
open Go.RowKit

theorem byte_of (x : Int) : (UInt8.ofNat (x % 256).toNat).toNat = (x % 256).toNat := by
  have h : (x % 256).toNat < 256 := by omega
  simp only [UInt8.toNat_ofNat']
  omega
theorem tot_putn2 (x : Nat) (h : x ≤ 65535) (l : List UInt8) : tot (putn (x : Int) 2 ++ l) = x + tot l := by
  simp only [putn, List.cons_append, List.nil_append, tot, byte_of]
  simp
  omega

set_option maxRecDepth 100000 in
set_option maxHeartbeats 4000000 in
theorem sumParts {A B : Option Addr} {n c m d : Nat} {l k : List UInt8} {w : World} (ha : Bs w A n c l) (hb : Bs w B m d k) : Calls Try.prog 7 #[.slice A n c, .slice B m d] w fun e w' => e = .returned (.bool true) ∧ Below w.heap.size w w' := by
  have hn := Nat.le_trans ha.cap ha.max
  have hm := Nat.le_trans hb.cap hb.max
  have hnc := ha.cap
  unfold maxLen at hn hm
  have hx := ha.cut (i := 0) (k := n / 2 * 2) (by omega) (A' := A) (fun _ => by cases A <;> simp [Addr.add]) (by cases A <;> simp)
  rw [List.drop_zero, Nat.sub_zero] at hx
  have HA := Lib.hid hx
  have HB := Lib.hid hb
  have HL := Lib.hid ha.len
  clear ha hb hx
  by_cases hbig : 1000 < n
  · go_enter Try.func7, Try.ntmps7
    go_wp2_with fail
    refine (awake03 _).mono ?_
    rintro e w1 ⟨rfl, h1⟩
    have H1 := Lib.hid h1
    clear h1
    go_wp2_with fail
    go_ret
    exact ⟨rfl, H1.out⟩
  · by_cases hbig2 : 1000 < m
    · go_enter Try.func7, Try.ntmps7
      go_wp2_with fail
      refine (awake03 _).mono ?_
      rintro e w1 ⟨rfl, h1⟩
      have H1 := Lib.hid h1
      clear h1
      go_wp2_with fail
      go_ret
      exact ⟨rfl, H1.out⟩
    · go_enter Try.func7, Try.ntmps7
      go_wp2_with fail
      obtain ⟨s1, e1⟩ : ∃ s, cks (l.take (n / 2 * 2)) = s := ⟨_, rfl⟩
      obtain ⟨s2, e2⟩ : ∃ s, cks k = s := ⟨_, rfl⟩
      have q1 : s1 ≤ 65535 := by rw [← e1]; exact cks_le _
      have q2 : s2 ≤ 65535 := by rw [← e2]; exact cks_le _
      have HE := Lib.hid (And.intro e1 e2)
      clear e1 e2
      refine (of_any HA.out (by omega)).mono ?_
      rintro e w1 ⟨rfl, b1⟩
      rw [HE.out.1]
      have H1 := Lib.hid b1
      clear b1
      go_wp2_with fail
      refine (of_any (HB.out.later H1.out (Nat.le_refl _)) (by omega)).mono ?_
      rintro e w2 ⟨rfl, b2⟩
      rw [HE.out.2]
      have hb2 := H1.out.trans (b2.mono H1.out.size)
      have H2 := Lib.hid (And.intro hb2 (And.intro (HA.out.later hb2 (Nat.le_refl _)) (HB.out.later hb2 (Nat.le_refl _))))
      clear b2 hb2
      go_wp2_with (first
        | (at_builtin; refine wpList_append_bs rfl (.const (.slice none 0 0)) (.tmp 30) 25 rfl w.heap.size 5 info5 Try.underlying25 _ 0 [] rfl (World.ownsRow_nil _ _ _ _) _ _ _ _ rfl H2.out.2.1 (by omega) H2.out.1.size ?_; intro v3 w3 o3 g3 _ _; have H3 := Lib.hid (And.intro o3 (H2.out.1.grown g3 H2.out.1.size (fun q hq => by cases hq))); clear o3 g3)
        | (at_builtin; refine wpList_append_bs rfl (.tmp 31) (.tmp 32) 25 rfl w.heap.size 5 info5 Try.underlying25 _ _ _ rfl H3.out.1 _ _ _ _ rfl (HB.out.later H3.out.2 (Nat.le_refl _)) (by omega) H3.out.2.size ?_; intro v4 w4 o4 g4 _ _; have H4 := Lib.hid (And.intro o4 (H3.out.2.grown g4 H3.out.2.size (fun q hq => (H3.out.1.lt q hq).1))); clear o4 g4))
      obtain ⟨A4, c4, rfl, hB4⟩ := Bs.of_own (owns_n (n' := n / 2 * 2 + m) (by omega) H4.out.1)
      have hb5 := H4.out.2.alloc H4.out.2.size (.cells #[.int .u8 ((65535 - (s1 : Int)) / 256), .int .u8 ((65535 - (s1 : Int)) % 256), .int .u8 ((65535 - (s2 : Int)) / 256), .int .u8 ((65535 - (s2 : Int)) % 256)] 5)
      have hT := Bs.lit w4 (putn (65535 - (s1 : Int)) 2 ++ putn (65535 - (s2 : Int)) 2) 4 (by simp [putn_length]) (by unfold maxLen; omega) #[.int .u8 ((65535 - (s1 : Int)) / 256), .int .u8 ((65535 - (s1 : Int)) % 256), .int .u8 ((65535 - (s2 : Int)) / 256), .int .u8 ((65535 - (s2 : Int)) % 256)] (by simp [putn, bv]; omega) 5
      have H5 := Lib.hid (And.intro hb5 (And.intro hT (hB4.later ((Below.refl w4.heap.size w4).alloc (Nat.le_refl _) (.cells #[.int .u8 ((65535 - (s1 : Int)) / 256), .int .u8 ((65535 - (s1 : Int)) % 256), .int .u8 ((65535 - (s2 : Int)) / 256), .int .u8 ((65535 - (s2 : Int)) % 256)] 5)) (Nat.le_refl _))))
      clear hB4 hb5 hT
      refine (awake03 _).mono ?_
      rintro e w6 ⟨rfl, b6⟩
      have hb6 := H5.out.1.trans (b6.mono H5.out.1.size)
      have H6 := Lib.hid (And.intro hb6 (And.intro (H5.out.2.1.later b6 (Nat.le_refl _)) (H5.out.2.2.later b6 (Nat.le_refl _))))
      clear b6 hb6
      go_wp2_with fail
      refine (of_any H6.out.2.2 (by omega)).mono ?_
      rintro e w7 ⟨rfl, b7⟩
      have H7 := Lib.hid (And.intro (H6.out.1.trans (b7.mono H6.out.1.size)) (H6.out.2.1.later b7 (Nat.le_refl _)))
      clear b7
      have heq : cks ([] ++ l.take (n / 2 * 2) ++ k) = cks (putn (65535 - (s1 : Int)) 2 ++ putn (65535 - (s2 : Int)) 2) := by
        have h1 : fold (tot (l.take (n / 2 * 2))) = 65535 - s1 := by have := HE.out.1; have := fold_le (tot (l.take (n / 2 * 2))); unfold cks at *; omega
        have h2 : fold (tot k) = 65535 - s2 := by have := HE.out.2; have := fold_le (tot k); unfold cks at *; omega
        rw [List.nil_append, cks_append _ _ (by rw [List.length_take, HL.out]; omega)]
        unfold cks
        rw [show (65535 - (s1 : Int)) = ((65535 - s1 : Nat) : Int) by omega, show (65535 - (s2 : Int)) = ((65535 - s2 : Nat) : Int) by omega, tot_putn2 _ (by omega), show putn ((65535 - s2 : Nat) : Int) 2 = putn ((65535 - s2 : Nat) : Int) 2 ++ [] by simp, tot_putn2 _ (by omega), ← h1, ← h2]
        simp only [tot, Nat.add_zero]
        rw [fold_fold, fold_fold']
      obtain ⟨r, hr⟩ : ∃ r, cks (putn (65535 - (s1 : Int)) 2 ++ putn (65535 - (s2 : Int)) 2) = r := ⟨_, rfl⟩
      rw [heq, hr]
      have HR := Lib.hid hr
      clear heq hr
      go_wp2_with fail
      refine (of_any H7.out.2 (by omega)).mono ?_
      rintro e w8 ⟨rfl, b8⟩
      rw [HR.out]
      have H8 := Lib.hid (H7.out.1.trans (b8.mono H7.out.1.size))
      clear b8
      go_wp2_with fail
      go_ret
      exact ⟨rfl, H8.out⟩
end Go.Proofs.Ythkhbjjiffpkoaa
