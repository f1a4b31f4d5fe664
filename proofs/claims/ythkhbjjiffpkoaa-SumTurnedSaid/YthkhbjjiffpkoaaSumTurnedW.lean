/-
  stockadelaw03.SumTurned answers true, whatever is handed in. No conditions.
-/
import Derived.Test.YthkhbjjiffpkoaaSumChecksW
import Derived.Test.YthkhbjjiffpkoaaReg
import Derived.BigRegion
namespace Go.Proofs.Ythkhbjjiffpkoaa
open Go.RowKit

set_option maxRecDepth 10000 in
/-- One pair and another exchanged. -/
theorem cks_swap (l : List UInt8) (i k : Nat) (p q r s : UInt8) (hi : i % 2 = 0) (hk : k % 2 = 0) (hp : l[i]? = some p) (hq : l[i + 1]? = some q) (hr : l[k]? = some r) (hs : l[k + 1]? = some s) :
    cks ((((l.set i r).set (i + 1) s).set k p).set (k + 1) q) = cks l := by
  have h1 := tot_set l i p q r s hi hp hq
  obtain ⟨b1, _⟩ := List.getElem?_eq_some_iff.1 hp
  obtain ⟨b2, _⟩ := List.getElem?_eq_some_iff.1 hq
  have hr' : ((l.set i r).set (i + 1) s)[k]? = some r := by
    by_cases h : i = k
    · subst h; rw [List.getElem?_set_ne (by omega), List.getElem?_set_self b1]
    · rw [List.getElem?_set_ne (by omega), List.getElem?_set_ne (by omega), hr]
  have hs' : ((l.set i r).set (i + 1) s)[k + 1]? = some s := by
    by_cases h : i = k
    · subst h; exact List.getElem?_set_self (by rw [List.length_set]; exact b2)
    · rw [List.getElem?_set_ne (by omega), List.getElem?_set_ne (by omega), hs]
  have h2 := tot_set _ k r s p q hk hr' hs'
  unfold cks
  rw [show tot ((((l.set i r).set (i + 1) s).set k p).set (k + 1) q) = tot l by omega]
theorem xor_ne (p y : UInt8) (h : y ≠ 0) : p ^^^ y ≠ p := by
  intro e
  apply h
  have : p ^^^ (p ^^^ y) = p ^^^ p := by rw [e]
  rwa [← UInt8.xor_assoc, UInt8.xor_self, UInt8.zero_xor] at this
set_option maxRecDepth 10000 in
/-- A byte turned is seen. -/
theorem cks_turned (l : List UInt8) (i : Nat) (p q y : UInt8) (hi : i % 2 = 0) (hp : l[i]? = some p) (hq : l[i + 1]? = some q) (h : y ≠ 0) : cks (l.set i (p ^^^ y)) ≠ cks l := by
  have h1 := tot_set1 l i p q (p ^^^ y) hi hp hq
  have h2 := xor_ne p y h
  have h3 : (p ^^^ y).toNat ≠ p.toNat := fun e => h2 (UInt8.toNat_inj.1 e)
  have l1 := (p ^^^ y).toNat_lt
  have l2 := p.toNat_lt
  have l3 := fold_le (tot (l.set i (p ^^^ y)))
  have l4 := fold_le (tot l)
  have h4 : fold (tot (l.set i (p ^^^ y))) ≠ fold (tot l) := by
    rcases Nat.lt_or_gt_of_ne h3 with h5 | h5
    · exact fold_ne (by omega) (by omega)
    · exact (fold_ne (by omega) (by omega)).symm
  unfold cks
  omega
theorem cks_zeros (l : List UInt8) : cks (l ++ [0, 0]) = cks l := by
  unfold cks
  rw [show l ++ [0, 0] = (l ++ [0]) ++ [0] by simp, tot_zero, tot_zero]
theorem xor_u8 (x y : UInt8) : bits .xor .u8 (x.toNat : Int) (y.toNat : Int) = ((x ^^^ y).toNat : Int) := by
  rw [u8_xor_nat _ _ x.toNat_lt y.toNat_lt, UInt8.toNat_xor]

set_option maxRecDepth 100000 in
set_option maxHeartbeats 4000000 in
theorem sumTurned {A : Option Addr} {n c : Nat} {l : List UInt8} {w : World} (hb : Bs w A n c l) (i0 k0 : Int) (y : UInt8) : Calls Try.prog 5 #[.slice A n c, .int .i64 i0, .int .i64 k0, .int .u8 y.toNat] w fun e w' => e = .returned (.bool true) ∧ Below w.heap.size w w' := by
  have hm := Nat.le_trans hb.cap hb.max
  unfold maxLen at hm
  have HB := Lib.hid hb
  clear hb
  by_cases hbig : n < 4
  · go_enter Try.func5, Try.ntmps5
    go_wp2_with fail
    refine (awake03 _).mono ?_
    rintro e w1 ⟨rfl, h1⟩
    have H1 := Lib.hid h1
    clear h1
    go_wp2_with fail
    go_ret
    exact ⟨rfl, H1.out⟩
  · by_cases hbig2 : 2000 < n
    · go_enter Try.func5, Try.ntmps5
      go_wp2_with fail
      refine (awake03 _).mono ?_
      rintro e w1 ⟨rfl, h1⟩
      have H1 := Lib.hid h1
      clear h1
      go_wp2_with fail
      go_ret
      exact ⟨rfl, H1.out⟩
    · go_enter Try.func5, Try.ntmps5
      go_wp2_with (at_builtin; refine wpList_append_bs rfl (.const (.slice none 0 0)) (.tmp 24) 25 rfl w.heap.size 5 info5 Try.underlying25 (.slice none 0 0) 0 [] rfl (World.ownsRow_nil _ _ _ _) _ _ _ _ rfl HB.out (by omega) (Nat.le_refl _) ?_; intro v3 w3 o3 g3 _ _; have o4 := owns_n (n' := n) (by omega) o3; rw [List.nil_append] at o4; obtain ⟨g, cap, rfl, hg1, hg2⟩ := o4.form (by omega); have H3 := Lib.hid (And.intro o4 ((Below.refl w.heap.size w).grown g3 (Nat.le_refl _) (fun q hq => by cases hq))); clear o3 g3 o4)
      refine rg_begin (fun w' => w3.drew = w') 14 (by kernel_rfl) rfl ?_
      have hS : w3.drew = w3.drew := rfl
      have hu : IntKind.u64.wrap ((n : Int) / 2) = (n : Int) / 2 := by show ((n : Int) / 2) % 18446744073709551616 = _; omega
      have hz : ¬ ((n : Int) / 2 = 0) := by omega
      refine rg_take 0 (v := ?rv1) rfl (by kernel_rfl) (by kernel_rfl) (by kernel_rfl) (fun _ _ _ h => h) (by rfl) hS (fun w2 hw2 => ?ry1) ?rr1
      case ry1 => ((try dsimp only at hw2); go_simp <;> with_reducible rfl)
      simp only [Act.put, List.setIfInBounds_toArray, List.set_cons_zero, List.set_cons_succ]
      refine rg_take 2 (v := ?rv2) rfl (by kernel_rfl) (by kernel_rfl) (by kernel_rfl) (fun _ _ _ h => h) (by rfl) hS (fun w2 hw2 => ?ry2) ?rr2
      case ry2 => ((try dsimp only at hw2); go_simp <;> with_reducible rfl)
      simp only [Act.put, List.setIfInBounds_toArray, List.set_cons_zero, List.set_cons_succ]
      refine rg_take 1 (v := ?rv3) rfl (by kernel_rfl) (by kernel_rfl) (by kernel_rfl) (fun _ _ _ h => h) (by rfl) hS (fun w2 hw2 => ?ry3) ?rr3
      case ry3 => ((try dsimp only at hw2); go_simp <;> with_reducible rfl)
      simp only [Act.put, List.setIfInBounds_toArray, List.set_cons_zero, List.set_cons_succ]
      refine rg_take 3 (v := ?rv4) rfl (by kernel_rfl) (by kernel_rfl) (by kernel_rfl) (fun _ _ _ h => h) (by rfl) hS (fun w2 hw2 => ?ry4) ?rr4
      case ry4 => ((try dsimp only at hw2); go_simp <;> with_reducible rfl)
      simp only [Act.put, List.setIfInBounds_toArray, List.set_cons_zero, List.set_cons_succ]
      refine rg_take 4 (v := ?rv5) rfl (by kernel_rfl) (by kernel_rfl) (by kernel_rfl) (fun _ _ _ h => h) (by rfl) hS (fun w2 hw2 => ?ry5) ?rr5
      case ry5 => ((try dsimp only at hw2); go_simp <;> with_reducible rfl)
      simp only [Act.put, List.setIfInBounds_toArray, List.set_cons_zero, List.set_cons_succ]
      refine rg_take 5 (v := ?rv6) rfl (by kernel_rfl) (by kernel_rfl) (by kernel_rfl) (fun _ _ _ h => h) (by rfl) hS (fun w2 hw2 => ?ry6) ?rr6
      case ry6 => ((try dsimp only at hw2); go_simp <;> with_reducible rfl)
      simp only [Act.put, List.setIfInBounds_toArray, List.set_cons_zero, List.set_cons_succ]
      refine rg_take 12 (v := ?rv7) rfl (by kernel_rfl) (by kernel_rfl) (by kernel_rfl) (fun _ _ _ h => h) (by rfl) hS (fun w2 hw2 => ?ry7) ?rr7
      case ry7 => ((try dsimp only at hw2); go_simp <;> with_reducible rfl)
      simp only [Act.put, List.setIfInBounds_toArray, List.set_cons_zero, List.set_cons_succ]
      refine rg_take 6 (v := ?rv8) rfl (by kernel_rfl) (by kernel_rfl) (by kernel_rfl) (fun _ _ _ h => h) (by rfl) hS (fun w2 hw2 => ?ry8) ?rr8
      case ry8 => ((try dsimp only at hw2); go_simp <;> with_reducible rfl)
      simp only [Act.put, List.setIfInBounds_toArray, List.set_cons_zero, List.set_cons_succ]
      refine rg_take 8 (v := ?rv9) rfl (by kernel_rfl) (by kernel_rfl) (by kernel_rfl) (fun _ _ _ h => h) (by rfl) hS (fun w2 hw2 => ?ry9) ?rr9
      case ry9 => ((try dsimp only at hw2); go_simp <;> with_reducible rfl)
      simp only [Act.put, List.setIfInBounds_toArray, List.set_cons_zero, List.set_cons_succ]
      refine rg_take 7 (v := ?rv10) rfl (by kernel_rfl) (by kernel_rfl) (by kernel_rfl) (fun _ _ _ h => h) (by rfl) hS (fun w2 hw2 => ?ry10) ?rr10
      case ry10 => ((try dsimp only at hw2); go_simp <;> with_reducible rfl)
      simp only [Act.put, List.setIfInBounds_toArray, List.set_cons_zero, List.set_cons_succ]
      refine rg_take 9 (v := ?rv11) rfl (by kernel_rfl) (by kernel_rfl) (by kernel_rfl) (fun _ _ _ h => h) (by rfl) hS (fun w2 hw2 => ?ry11) ?rr11
      case ry11 => ((try dsimp only at hw2); go_simp <;> with_reducible rfl)
      simp only [Act.put, List.setIfInBounds_toArray, List.set_cons_zero, List.set_cons_succ]
      refine rg_take 10 (v := ?rv12) rfl (by kernel_rfl) (by kernel_rfl) (by kernel_rfl) (fun _ _ _ h => h) (by rfl) hS (fun w2 hw2 => ?ry12) ?rr12
      case ry12 => ((try dsimp only at hw2); go_simp <;> with_reducible rfl)
      simp only [Act.put, List.setIfInBounds_toArray, List.set_cons_zero, List.set_cons_succ]
      refine rg_take 11 (v := ?rv13) rfl (by kernel_rfl) (by kernel_rfl) (by kernel_rfl) (fun _ _ _ h => h) (by rfl) hS (fun w2 hw2 => ?ry13) ?rr13
      case ry13 => ((try dsimp only at hw2); go_simp <;> with_reducible rfl)
      simp only [Act.put, List.setIfInBounds_toArray, List.set_cons_zero, List.set_cons_succ]
      refine rg_take 13 (v := ?rv14) rfl (by kernel_rfl) (by kernel_rfl) (by kernel_rfl) (fun _ _ _ h => h) (by rfl) hS (fun w2 hw2 => ?ry14) ?rr14
      case ry14 => ((try dsimp only at hw2); go_simp <;> with_reducible rfl)
      simp only [Act.put, List.setIfInBounds_toArray, List.set_cons_zero, List.set_cons_succ]
      refine rg_done (by kernel_rfl) ?_
      obtain ⟨q1, q2⟩ := num_rem i0 ((n : Int) / 2) (by omega) (by omega)
      obtain ⟨q3, q4⟩ := num_rem k0 ((n : Int) / 2) (by omega) (by omega)
      rw [show IntKind.i64.wrap ((IntKind.u64.wrap i0).tmod ((n : Int) / 2)) = wrap64 ((IntKind.u64.wrap i0).tmod ((n : Int) / 2)) from (IntKind.wrap_i64 _).trans (by unfold wrap64; rfl), show IntKind.i64.wrap ((IntKind.u64.wrap k0).tmod ((n : Int) / 2)) = wrap64 ((IntKind.u64.wrap k0).tmod ((n : Int) / 2)) from (IntKind.wrap_i64 _).trans (by unfold wrap64; rfl)]
      generalize wrap64 ((IntKind.u64.wrap i0).tmod ((n : Int) / 2)) = x1 at q1 q2 ⊢
      generalize wrap64 ((IntKind.u64.wrap k0).tmod ((n : Int) / 2)) = x2 at q3 q4 ⊢
      obtain ⟨i, rfl⟩ := Int.eq_ofNat_of_zero_le q1
      obtain ⟨k, rfl⟩ := Int.eq_ofNat_of_zero_le q3
      have o4 := own_kept H3.out.1 (Below.refl w3.heap.size w3).drew
      have b4 := H3.out.2.drew
      clear hS hu hz
      generalize w3.drew = W at o4 b4 ⊢
      obtain ⟨p1, p2, hp1, hp2, hc1, hc2, hf1, hf2⟩ := pair_at o4 (2 * i) (by omega)
      obtain ⟨p3, p4, hp3, hp4, hc3, hc4, hf3, hf4⟩ := pair_at o4 (2 * k) (by omega)
      have H4 := Lib.hid (And.intro o4 (And.intro b4 (And.intro hp1 (And.intro hp2 (And.intro hp3 hp4)))))
      clear o4 b4 hp1 hp2 hp3 hp4
      by_cases hik : i = k
      · subst hik
        obtain rfl : p1 = p3 := Option.some.inj (H4.out.2.2.1.symm.trans H4.out.2.2.2.2.1)
        obtain rfl : p2 = p4 := Option.some.inj (H4.out.2.2.2.1.symm.trans H4.out.2.2.2.2.2)
        clear hc3 hc4 hf3 hf4
        go_wp2_with fail
        go_region
        obtain ⟨o5, b5⟩ := pair_set H4.out.1 H4.out.2.1 (2 * i) _ _ p1 p2 rfl rfl
        obtain ⟨o6, b6⟩ := pair_set o5 b5 (2 * i) _ _ p1 p2 rfl rfl
        have o7 := own_kept o6 (Below.refl _ _).drew
        have hX := cks_swap l (2 * i) (2 * i) p1 p2 p1 p2 (by omega) (by omega) H4.out.2.2.1 H4.out.2.2.2.1 H4.out.2.2.2.2.1 H4.out.2.2.2.2.2
        obtain ⟨r, hr⟩ : ∃ r, cks l = r := ⟨_, rfl⟩
        rw [hr] at hX
        have H7 := Lib.hid (And.intro o7 (And.intro b6.drew (And.intro hX hr)))
        clear o5 b5 o6 b6 o7 hX hr hc1 hc2 hf1 hf2
        generalize ((((W.setCell ⟨g, 2 * i, none⟩ (.int .u8 p1.toNat)).setCell ⟨g, 2 * i + 1, none⟩ (.int .u8 p2.toNat)).setCell ⟨g, 2 * i, none⟩ (.int .u8 p1.toNat)).setCell ⟨g, 2 * i + 1, none⟩ (.int .u8 p2.toNat)).drew = W7 at H7 ⊢
        have hly := y.toNat_lt
        have hlp := p1.toNat_lt
        go_wp2_with (at_builtin; refine wpList_append_bs rfl (.const (.slice none 0 0)) (.tmp 78) 25 rfl w.heap.size 5 info5 Try.underlying25 (.slice none 0 0) 0 [] rfl (World.ownsRow_nil _ _ _ _) _ _ _ _ rfl (HB.out.later H7.out.2.1 (Nat.le_refl _)) (by omega) H7.out.2.1.size ?_; intro v8 w8 o8 g8 _ a8; have o9 := owns_n (n' := n) (by omega) o8; rw [List.nil_append] at o9; obtain ⟨gy, capy, rfl, _, _⟩ := o9.form (by omega); obtain ⟨z1, z2, hz1, hz2, he1, _, hh1, _⟩ := pair_at o9 (2 * i) (by omega); have H8 := Lib.hid (And.intro o9 (And.intro (H7.out.2.1.grown g8 H7.out.2.1.size (fun q hq => by cases hq)) (And.intro (World.ownsRow.kept H7.out.1 g8 (.inr (by simp [Value.ownBlock]))) (And.intro hz1 hz2)))); have hxor := xor_u8 z1 y; have hgy : gy = W7.heap.size := (by simpa [Value.ownBlock] using a8); have HG := Lib.hid hgy; clear o8 g8 o9 hz1 hz2 a8 hgy)
        have hne : g ≠ gy := by have := HG.out; have := (H7.out.1.lt g rfl).2; omega
        obtain ⟨o10, g10⟩ := H8.out.1.stored (2 * i) (.int .u8 (z1 ^^^ y).toNat)
        rw [bv_set] at o10
        have ox := World.ownsRow.kept H8.out.2.2.1 g10 (.inr (by simpa [Value.ownBlock] using hne))
        have b10 := H8.out.2.1.grown g10 H8.out.2.1.size (fun q hq => (H8.out.1.lt q hq).1)
        rw [UInt8.toNat_xor] at o10 b10 ox
        obtain ⟨_, _, e1, BX⟩ := Bs.of_own ox
        cases e1
        obtain ⟨_, _, e1, BY⟩ := Bs.of_own o10
        cases e1
        have H10 := Lib.hid (And.intro BX (And.intro BY (And.intro (HB.out.later b10 (Nat.le_refl _)) b10)))
        have hyn := fun h => cks_turned l (2 * i) z1 z2 y (by omega) H8.out.2.2.2.1 H8.out.2.2.2.2 h
        rw [H7.out.2.2.2] at hyn
        obtain ⟨r2, hr2⟩ : ∃ r, cks (l.set (2 * i) (z1 ^^^ y)) = r := ⟨_, rfl⟩
        rw [hr2] at hyn
        have HY := Lib.hid (And.intro hr2 hyn)
        have hz := cks_zeros l
        rw [H7.out.2.2.2] at hz
        have HZ := Lib.hid hz
        clear o10 g10 ox b10 BX BY hyn hr2 hz hne he1 hh1 hxor
        refine (awake03 _).mono ?_
        rintro e w11 ⟨rfl, b11⟩
        have H11 := Lib.hid (And.intro (H10.out.1.later b11 (Nat.le_refl _)) (And.intro (H10.out.2.1.later b11 (Nat.le_refl _)) (And.intro (H10.out.2.2.1.later b11 (Nat.le_refl _)) (H10.out.2.2.2.trans (b11.mono H10.out.2.2.2.size)))))
        clear b11
        go_wp2_with fail
        refine (of_any H11.out.1 (by omega)).mono ?_
        rintro e w12 ⟨rfl, b12⟩
        rw [H7.out.2.2.1]
        have H12 := Lib.hid (And.intro (H11.out.2.1.later b12 (Nat.le_refl _)) (And.intro (H11.out.2.2.1.later b12 (Nat.le_refl _)) (H11.out.2.2.2.trans (b12.mono H11.out.2.2.2.size))))
        clear b12
        go_wp2_with fail
        refine (of_any H12.out.2.1 (by omega)).mono ?_
        rintro e w13 ⟨rfl, b13⟩
        rw [H7.out.2.2.2]
        have H13 := Lib.hid (And.intro (H12.out.1.later b13 (Nat.le_refl _)) (And.intro (H12.out.2.1.later b13 (Nat.le_refl _)) (H12.out.2.2.trans (b13.mono H12.out.2.2.size))))
        clear b13
        go_wp2_with (first
          | (at_builtin; refine wpList_append_bs_w (by rfl) (.const (.slice none 0 0)) (.tmp 97) 25 rfl w13.heap.size 5 info5 Try.underlying25 (.slice none 0 0) 0 [] rfl (World.ownsRow_nil _ _ _ _) _ _ _ _ rfl H13.out.2.1 (by omega) (Nat.le_refl _) ?_; intro v14 w14 o14 g14 _ _; have b14 := (Below.refl w13.heap.size w13).grown g14 (Nat.le_refl _) (fun q hq => by cases hq); have o14' := own_kept o14 ((Below.refl w14.heap.size w14).alloc (Nat.le_refl _) (.cells #[.int .u8 0, .int .u8 0] 5)); have H14 := Lib.hid (And.intro o14' (b14.alloc b14.size (.cells #[.int .u8 0, .int .u8 0] 5))); clear o14 g14 b14 o14')
          | (at_builtin; refine wpList_append_bs_w (by rfl) (.tmp 98) (.tmp 99) 25 rfl w13.heap.size 5 info5 Try.underlying25 _ _ _ rfl H14.out.1 _ 2 2 [0, 0] rfl (Bs.lit w14 [0, 0] 2 rfl (by unfold maxLen; omega) _ (by rfl) _) (by omega) H14.out.2.size ?_; intro v15 w15 o15 g15 _ _; have H15 := Lib.hid (And.intro (owns_n (n' := n + 2) (by omega) o15) (H14.out.2.grown g15 H14.out.2.size (fun q hq => (H14.out.1.lt q hq).1))); clear o15 g15))
        obtain ⟨AZ, cz, rfl, BZ⟩ := Bs.of_own H15.out.1
        rw [List.nil_append] at BZ
        have H16 := Lib.hid (And.intro BZ (And.intro (H13.out.1.later H15.out.2 (Nat.le_refl _)) (And.intro (H13.out.2.1.later H15.out.2 (Nat.le_refl _)) (H13.out.2.2.trans (H15.out.2.mono H13.out.2.2.size)))))
        clear BZ
        refine (of_any H16.out.1 (by omega)).mono ?_
        rintro e w17 ⟨rfl, b17⟩
        rw [HZ.out]
        have H17 := Lib.hid (And.intro (H16.out.2.1.later b17 (Nat.le_refl _)) (And.intro (H16.out.2.2.1.later b17 (Nat.le_refl _)) (H16.out.2.2.2.trans (b17.mono H16.out.2.2.2.size))))
        clear b17
        go_wp2_with fail
        refine (of_any H17.out.2.1 (by omega)).mono ?_
        rintro e w18 ⟨rfl, b18⟩
        rw [H7.out.2.2.2]
        have H18 := Lib.hid (And.intro (H17.out.1.later b18 (Nat.le_refl _)) (And.intro (H17.out.2.1.later b18 (Nat.le_refl _)) (H17.out.2.2.trans (b18.mono H17.out.2.2.size))))
        clear b18
        by_cases hy0 : y = 0
        · have hq : ((y.toNat : Int) == 0) = true := by subst hy0; rfl
          clear hy0
          go_wp2_with fail
          go_ret
          exact ⟨rfl, H18.out.2.2⟩
        · have hq : ((y.toNat : Int) == 0) = false := by
            have : y.toNat ≠ 0 := fun e => hy0 (UInt8.toNat_inj.1 e)
            simp; omega
          have hrr : ((r2 : Int) != (r : Int)) = true := by have := HY.out.2 hy0; simp; omega
          have HRR := Lib.hid hrr
          clear hy0 hrr
          go_wp2_with fail
          refine (of_any H18.out.1 (by omega)).mono ?_
          rintro e w19 ⟨rfl, b19⟩
          rw [HY.out.1]
          have H19 := Lib.hid (And.intro (H18.out.2.1.later b19 (Nat.le_refl _)) (H18.out.2.2.trans (b19.mono H18.out.2.2.size)))
          clear b19
          go_wp2_with fail
          refine (of_any H19.out.1 (by omega)).mono ?_
          rintro e w20 ⟨rfl, b20⟩
          rw [H7.out.2.2.2]
          have H20 := Lib.hid (H19.out.2.trans (b20.mono H19.out.2.size))
          have hrr := HRR.out
          clear b20
          go_wp2_with fail
          go_ret
          exact ⟨rfl, H20.out⟩
      · have d1 : ¬ (2 * i = 2 * k) := by omega
        have d2 : ¬ (2 * i = 2 * k + 1) := by omega
        have d3 : ¬ (2 * i + 1 = 2 * k) := by omega
        have d4 : ¬ (2 * i + 1 = 2 * k + 1) := by omega
        go_wp2_with fail
        go_region
        clear d1 d2 d3 d4 hc3 hc4 hf3 hf4 hik
        obtain ⟨o5, b5⟩ := pair_set H4.out.1 H4.out.2.1 (2 * i) _ _ p3 p4 rfl rfl
        obtain ⟨o6, b6⟩ := pair_set o5 b5 (2 * k) _ _ p1 p2 rfl rfl
        have o7 := own_kept o6 (Below.refl _ _).drew
        have hX := cks_swap l (2 * i) (2 * k) p1 p2 p3 p4 (by omega) (by omega) H4.out.2.2.1 H4.out.2.2.2.1 H4.out.2.2.2.2.1 H4.out.2.2.2.2.2
        obtain ⟨r, hr⟩ : ∃ r, cks l = r := ⟨_, rfl⟩
        rw [hr] at hX
        have H7 := Lib.hid (And.intro o7 (And.intro b6.drew (And.intro hX hr)))
        clear o5 b5 o6 b6 o7 hX hr hc1 hc2 hf1 hf2
        generalize ((((W.setCell ⟨g, 2 * i, none⟩ (.int .u8 p3.toNat)).setCell ⟨g, 2 * i + 1, none⟩ (.int .u8 p4.toNat)).setCell ⟨g, 2 * k, none⟩ (.int .u8 p1.toNat)).setCell ⟨g, 2 * k + 1, none⟩ (.int .u8 p2.toNat)).drew = W7 at H7 ⊢
        have hly := y.toNat_lt
        have hlp := p1.toNat_lt
        go_wp2_with (at_builtin; refine wpList_append_bs rfl (.const (.slice none 0 0)) (.tmp 78) 25 rfl w.heap.size 5 info5 Try.underlying25 (.slice none 0 0) 0 [] rfl (World.ownsRow_nil _ _ _ _) _ _ _ _ rfl (HB.out.later H7.out.2.1 (Nat.le_refl _)) (by omega) H7.out.2.1.size ?_; intro v8 w8 o8 g8 _ a8; have o9 := owns_n (n' := n) (by omega) o8; rw [List.nil_append] at o9; obtain ⟨gy, capy, rfl, _, _⟩ := o9.form (by omega); obtain ⟨z1, z2, hz1, hz2, he1, _, hh1, _⟩ := pair_at o9 (2 * i) (by omega); have H8 := Lib.hid (And.intro o9 (And.intro (H7.out.2.1.grown g8 H7.out.2.1.size (fun q hq => by cases hq)) (And.intro (World.ownsRow.kept H7.out.1 g8 (.inr (by simp [Value.ownBlock]))) (And.intro hz1 hz2)))); have hxor := xor_u8 z1 y; have hgy : gy = W7.heap.size := (by simpa [Value.ownBlock] using a8); have HG := Lib.hid hgy; clear o8 g8 o9 hz1 hz2 a8 hgy)
        have hne : g ≠ gy := by have := HG.out; have := (H7.out.1.lt g rfl).2; omega
        obtain ⟨o10, g10⟩ := H8.out.1.stored (2 * i) (.int .u8 (z1 ^^^ y).toNat)
        rw [bv_set] at o10
        have ox := World.ownsRow.kept H8.out.2.2.1 g10 (.inr (by simpa [Value.ownBlock] using hne))
        have b10 := H8.out.2.1.grown g10 H8.out.2.1.size (fun q hq => (H8.out.1.lt q hq).1)
        rw [UInt8.toNat_xor] at o10 b10 ox
        obtain ⟨_, _, e1, BX⟩ := Bs.of_own ox
        cases e1
        obtain ⟨_, _, e1, BY⟩ := Bs.of_own o10
        cases e1
        have H10 := Lib.hid (And.intro BX (And.intro BY (And.intro (HB.out.later b10 (Nat.le_refl _)) b10)))
        have hyn := fun h => cks_turned l (2 * i) z1 z2 y (by omega) H8.out.2.2.2.1 H8.out.2.2.2.2 h
        rw [H7.out.2.2.2] at hyn
        obtain ⟨r2, hr2⟩ : ∃ r, cks (l.set (2 * i) (z1 ^^^ y)) = r := ⟨_, rfl⟩
        rw [hr2] at hyn
        have HY := Lib.hid (And.intro hr2 hyn)
        have hz := cks_zeros l
        rw [H7.out.2.2.2] at hz
        have HZ := Lib.hid hz
        clear o10 g10 ox b10 BX BY hyn hr2 hz hne he1 hh1 hxor
        refine (awake03 _).mono ?_
        rintro e w11 ⟨rfl, b11⟩
        have H11 := Lib.hid (And.intro (H10.out.1.later b11 (Nat.le_refl _)) (And.intro (H10.out.2.1.later b11 (Nat.le_refl _)) (And.intro (H10.out.2.2.1.later b11 (Nat.le_refl _)) (H10.out.2.2.2.trans (b11.mono H10.out.2.2.2.size)))))
        clear b11
        go_wp2_with fail
        refine (of_any H11.out.1 (by omega)).mono ?_
        rintro e w12 ⟨rfl, b12⟩
        rw [H7.out.2.2.1]
        have H12 := Lib.hid (And.intro (H11.out.2.1.later b12 (Nat.le_refl _)) (And.intro (H11.out.2.2.1.later b12 (Nat.le_refl _)) (H11.out.2.2.2.trans (b12.mono H11.out.2.2.2.size))))
        clear b12
        go_wp2_with fail
        refine (of_any H12.out.2.1 (by omega)).mono ?_
        rintro e w13 ⟨rfl, b13⟩
        rw [H7.out.2.2.2]
        have H13 := Lib.hid (And.intro (H12.out.1.later b13 (Nat.le_refl _)) (And.intro (H12.out.2.1.later b13 (Nat.le_refl _)) (H12.out.2.2.trans (b13.mono H12.out.2.2.size))))
        clear b13
        go_wp2_with (first
          | (at_builtin; refine wpList_append_bs_w (by rfl) (.const (.slice none 0 0)) (.tmp 97) 25 rfl w13.heap.size 5 info5 Try.underlying25 (.slice none 0 0) 0 [] rfl (World.ownsRow_nil _ _ _ _) _ _ _ _ rfl H13.out.2.1 (by omega) (Nat.le_refl _) ?_; intro v14 w14 o14 g14 _ _; have b14 := (Below.refl w13.heap.size w13).grown g14 (Nat.le_refl _) (fun q hq => by cases hq); have o14' := own_kept o14 ((Below.refl w14.heap.size w14).alloc (Nat.le_refl _) (.cells #[.int .u8 0, .int .u8 0] 5)); have H14 := Lib.hid (And.intro o14' (b14.alloc b14.size (.cells #[.int .u8 0, .int .u8 0] 5))); clear o14 g14 b14 o14')
          | (at_builtin; refine wpList_append_bs_w (by rfl) (.tmp 98) (.tmp 99) 25 rfl w13.heap.size 5 info5 Try.underlying25 _ _ _ rfl H14.out.1 _ 2 2 [0, 0] rfl (Bs.lit w14 [0, 0] 2 rfl (by unfold maxLen; omega) _ (by rfl) _) (by omega) H14.out.2.size ?_; intro v15 w15 o15 g15 _ _; have H15 := Lib.hid (And.intro (owns_n (n' := n + 2) (by omega) o15) (H14.out.2.grown g15 H14.out.2.size (fun q hq => (H14.out.1.lt q hq).1))); clear o15 g15))
        obtain ⟨AZ, cz, rfl, BZ⟩ := Bs.of_own H15.out.1
        rw [List.nil_append] at BZ
        have H16 := Lib.hid (And.intro BZ (And.intro (H13.out.1.later H15.out.2 (Nat.le_refl _)) (And.intro (H13.out.2.1.later H15.out.2 (Nat.le_refl _)) (H13.out.2.2.trans (H15.out.2.mono H13.out.2.2.size)))))
        clear BZ
        refine (of_any H16.out.1 (by omega)).mono ?_
        rintro e w17 ⟨rfl, b17⟩
        rw [HZ.out]
        have H17 := Lib.hid (And.intro (H16.out.2.1.later b17 (Nat.le_refl _)) (And.intro (H16.out.2.2.1.later b17 (Nat.le_refl _)) (H16.out.2.2.2.trans (b17.mono H16.out.2.2.2.size))))
        clear b17
        go_wp2_with fail
        refine (of_any H17.out.2.1 (by omega)).mono ?_
        rintro e w18 ⟨rfl, b18⟩
        rw [H7.out.2.2.2]
        have H18 := Lib.hid (And.intro (H17.out.1.later b18 (Nat.le_refl _)) (And.intro (H17.out.2.1.later b18 (Nat.le_refl _)) (H17.out.2.2.trans (b18.mono H17.out.2.2.size))))
        clear b18
        by_cases hy0 : y = 0
        · have hq : ((y.toNat : Int) == 0) = true := by subst hy0; rfl
          clear hy0
          go_wp2_with fail
          go_ret
          exact ⟨rfl, H18.out.2.2⟩
        · have hq : ((y.toNat : Int) == 0) = false := by
            have : y.toNat ≠ 0 := fun e => hy0 (UInt8.toNat_inj.1 e)
            simp; omega
          have hrr : ((r2 : Int) != (r : Int)) = true := by have := HY.out.2 hy0; simp; omega
          have HRR := Lib.hid hrr
          clear hy0 hrr
          go_wp2_with fail
          refine (of_any H18.out.1 (by omega)).mono ?_
          rintro e w19 ⟨rfl, b19⟩
          rw [HY.out.1]
          have H19 := Lib.hid (And.intro (H18.out.2.1.later b19 (Nat.le_refl _)) (H18.out.2.2.trans (b19.mono H18.out.2.2.size)))
          clear b19
          go_wp2_with fail
          refine (of_any H19.out.1 (by omega)).mono ?_
          rintro e w20 ⟨rfl, b20⟩
          rw [H7.out.2.2.2]
          have H20 := Lib.hid (H19.out.2.trans (b20.mono H19.out.2.size))
          have hrr := HRR.out
          clear b20
          go_wp2_with fail
          go_ret
          exact ⟨rfl, H20.out⟩
theorem sumTurned_byte {A : Option Addr} {n c : Nat} {l : List UInt8} {w : World} (hb : Bs w A n c l) (i0 k0 by_ : Int) (h : 0 ≤ by_ ∧ by_ ≤ 255) : Calls Try.prog 5 #[.slice A n c, .int .i64 i0, .int .i64 k0, .int .u8 by_] w fun e w' => e = .returned (.bool true) ∧ Below w.heap.size w w' := by
  have e : by_ = ((UInt8.ofNat by_.toNat).toNat : Int) := by simp only [UInt8.toNat_ofNat']; omega
  rw [e]
  exact sumTurned hb i0 k0 _
end Go.Proofs.Ythkhbjjiffpkoaa
