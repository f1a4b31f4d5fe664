/-
  RuleMany, walked. Conditions: what the program's text has laid (Env19, Handle).
  RuleRefuses, walked. Conditions: what the program's text has laid (Env19, Handle).
-/
import Derived.Test.YtoagfmonfgagbaaGreatDoorZ49
import Derived.Test.YtoagfmonfgagbaaGreatDoorZ35
import Derived.Deep.Cut
namespace Go.Proofs.YtoagfmonfgagbaaGreatDoor
open Go.RowKit
set_option maxRecDepth 100000

def atR : Nat → Nat
  | 0 => 0
  | k + 1 => 18 * k
def atS : Nat → Nat
  | 0 => 0
  | k + 1 => (manyS k).length + 9
set_option maxHeartbeats 8000000 in
theorem many_rules (n : Int) (q : Nat) (hq : q < 3) (hn : wrap64 ((IntKind.u64.wrap n).tmod 3) = (q : Int)) {w : World} (hE : Env19 w) (hg : Handle w) : Calls Tryz.prog 5 #[.bool false, .int .i64 n] w fun e w' => e = .returned (.bool true) ∧ Below w.heap.size w w' := by
  have HE := Lib.hid (And.intro hE hg)
  have HN := Lib.hid hn
  clear hE hg hn
  go_enter Tryz.func5, Tryz.ntmps5
  go_upto_region 5 with fail
  rw [HN.out]
  obtain ⟨N, hN⟩ : ∃ N, 199 + q = N := ⟨_, rfl⟩
  have e1 : wrap64 (199 + (q : Int)) = (N : Int) := by rw [← hN]; rw [IntWalk.wrap64_in _ (by omega)]; omega
  rw [e1]
  have hN1 : 199 ≤ N := by omega
  have hN2 : N ≤ 201 := by omega
  clear e1 hN hq
  go_wp2_with fail
  go_loopw [6, 7, 8] (fun s z i wr => ∃ k : Nat, k ≤ N ∧ i = .int .i64 k ∧ s = .string (mkS (manyR k)) ∧ (∃ y : Int, z = .int .i64 y ∧ y = (atR k : Int)) ∧ Hid (Below w.heap.size w wr)) (fun _ _ i _ => N - (intOf i).toNat)
  case atStart => exact ⟨0, Nat.zero_le _, rfl, rfl, ⟨0, rfl, rfl⟩, Lib.hid (Below.refl _ _)⟩
  case round =>
    obtain ⟨k, hk, rfl, rfl, ⟨y, rfl, hy⟩, HX⟩ := hrel
    by_cases hkn : k < N
    · clear hy
      obtain ⟨J, hJ⟩ : ∃ J, mkS (manyR k) = J := ⟨_, rfl⟩
      obtain ⟨J1, hJ1⟩ : ∃ J, mkS (manyR (k + 1)) = J := ⟨_, rfl⟩
      have hcat : J ++ (⟨#[100, 101, 110, 121, 32, 110, 97, 109, 101, 32, 97, 32, 97, 110, 121, 32, 42, 10]⟩ : ByteArray) = J1 := by rw [← hJ, ← hJ1, manyR_succ]; exact mkS_cat _ _
      have hsz : J.size = 18 * k := by rw [← hJ, mkS_size, manyR_len]
      have lJ : J.size ≤ 4000 := by omega
      have HS := Lib.hid (And.intro hsz hJ1)
      rw [hJ]
      clear hsz hJ hJ1
      go_wp2_with fail
      exact ⟨⟨k + 1, hkn, by go_num, by rw [HS.out.2], ⟨_, rfl, by rw [HS.out.1]; rfl⟩, HX⟩, by simp [intOf]; omega⟩
    · obtain rfl : k = N := by omega
      have HY := Lib.hid hy
      clear hy
      obtain ⟨J, hJ⟩ : ∃ J, mkS (manyR k) = J := ⟨_, rfl⟩
      rw [hJ]
      have HJ := Lib.hid hJ
      clear hJ
      by_cases hbig : 200 < k
      · have e201 : k = 201 := by omega
        have HB := Lib.hid e201
        clear e201
        go_wp2_with fail
        refine (parsed_err (s := J) (HE.out.1.later HX.out (Nat.le_refl _)) (by rw [← HJ.out, mkS_size]; rw [manyR_len]; omega) (by rw [← HJ.out, mkS_data, HB.out]; exact manyR_big)).mono ?_
        rintro e w1 ⟨g, rfl, hgg, b1⟩
        have H1 := Lib.hid (And.intro (HX.out.trans (b1.mono HX.out.size)) hgg)
        clear hgg b1
        go_wp2_with (first
          | (refine wpList_alloc_rs rfl rfl ?_; intro w2 a2 b2 z2; have H2 := Lib.hid (And.intro a2 b2); clear a2 b2 z2)
          | (refine wpList_store_rs rfl (.tmp 9) (.tmp 40) rfl (.slice none 0 0) (.slice none 0 0) rfl rfl rfl rfl H2.out.1 ?_; intro w3 a3 o3 z3 b3; have bb := b3 w1.heap.size w1 (Nat.le_refl _) H2.out.2; have H3 := Lib.hid (And.intro (H1.out.1.trans (bb.mono H1.out.1.size)) ((bb.block g (lt_blk H1.out.2)).trans H1.out.2)); clear a3 o3 z3 b3 bb))
        refine (awake19 (HE.out.1.later H3.out.1 (Nat.le_refl _))).mono ?_
        rintro e w4 ⟨rfl, b4⟩
        have H4 := Lib.hid (And.intro (H3.out.1.trans (b4.mono H3.out.1.size)) ((b4.block g (lt_blk H3.out.2)).trans H3.out.2))
        clear b4
        go_wp2_with fail
        refine (help_at 4 y w4).mono ?_
        rintro e w5 ⟨rfl, b5⟩
        have H5 := Lib.hid (And.intro (H4.out.1.trans (b5.mono H4.out.1.size)) ((b5.block g (lt_blk H4.out.2)).trans H4.out.2))
        clear b5
        go_wp2_with fail
        have ht := told_at19 (w := w5) (g := g) (n := 4) (by decide) H5.out.2
        have ey : y = ((3600 : Nat) : Int) := by rw [HY.out, HB.out]; rfl
        rw [ey]
        refine (is_told3 ht (Handle.later H5.out.1 (Nat.le_refl _) HE.out.2)).mono ?_
        rintro e w6 ⟨rfl, b6⟩
        have H6 := Lib.hid (H5.out.1.trans (b6.mono H5.out.1.size))
        clear b6 ht ey
        go_wp2_with fail
        go_ret
        exact ⟨rfl, H6.out⟩
      · obtain ⟨r, t1, t2, t3⟩ : ∃ r, textV (manyR k) = .inr r ∧ r.servers.length = 0 ∧ r.rules.length = k := ⟨_, manyR_ok (by omega), rfl, List.length_replicate ..⟩
        have HT := Lib.hid (And.intro t1 (And.intro t2 t3))
        clear t1 t2 t3
        go_wp2_with fail
        refine (parsed_ok (s := J) (HE.out.1.later HX.out (Nat.le_refl _)) (by rw [← HJ.out, mkS_size]; rw [manyR_len]; omega) (by rw [← HJ.out, mkS_data]; exact HT.out.1)).mono ?_
        rintro e w1 ⟨v1, v2, rfl, hA, hB, b1⟩
        have H1 := Lib.hid (And.intro (HX.out.trans (b1.mono HX.out.size)) (And.intro hA hB))
        clear hA hB b1
        go_wp2_with (first
          | (refine wpList_alloc_rs rfl rfl ?_; intro w2 a2 b2 z2; have H2 := Lib.hid (And.intro a2 b2); clear a2 b2 z2)
          | (refine wpList_store_rs rfl (.tmp 9) (.tmp 40) rfl v1 v2 H1.out.2.1.one H1.out.2.2.one rfl rfl H2.out.1 ?_; intro w3 a3 o3 z3 b3; have bb := b3 w1.heap.size w1 (Nat.le_refl _) H2.out.2; obtain ⟨A1, c1, A2, c2, g1, g2⟩ := box_lens a3 (H1.out.2.1.later bb) (H1.out.2.2.later bb); rw [HT.out.2.1] at g1; rw [HT.out.2.2] at g2; have H3 := Lib.hid (And.intro (H1.out.1.trans (bb.mono H1.out.1.size)) (And.intro g1 g2)); clear a3 o3 z3 b3 bb g1 g2))
        refine (awake19 (HE.out.1.later H3.out.1 (Nat.le_refl _))).mono ?_
        rintro e w4 ⟨rfl, b4⟩
        have g3 := (b4.cell (lt_cell H3.out.2.1)).trans H3.out.2.1
        have g4 := (b4.cell (lt_cell H3.out.2.2)).trans H3.out.2.2
        have H4 := Lib.hid (H3.out.1.trans (b4.mono H3.out.1.size))
        clear b4
        go_wp2_with fail
        go_ret
        exact ⟨rfl, H4.out⟩
set_option maxHeartbeats 8000000 in
theorem many_servers (n : Int) (q : Nat) (hq : q < 3) (hn : wrap64 ((IntKind.u64.wrap n).tmod 3) = (q : Int)) {w : World} (hE : Env19 w) (hg : Handle w) : Calls Tryz.prog 5 #[.bool true, .int .i64 n] w fun e w' => e = .returned (.bool true) ∧ Below w.heap.size w w' := by
  have HE := Lib.hid (And.intro hE hg)
  have HN := Lib.hid hn
  clear hE hg hn
  go_enter Tryz.func5, Tryz.ntmps5
  go_upto_region 5 with fail
  rw [HN.out]
  obtain ⟨N, hN⟩ : ∃ N, 19 + q = N := ⟨_, rfl⟩
  have e1 : wrap64 (19 + (q : Int)) = (N : Int) := by rw [← hN]; rw [IntWalk.wrap64_in _ (by omega)]; omega
  rw [e1]
  have hN1 : 19 ≤ N := by omega
  have hN2 : N ≤ 21 := by omega
  clear e1 hN hq
  go_wp2_with fail
  go_loopw [6, 7, 8] (fun s z i wr => ∃ k : Nat, k ≤ N ∧ i = .int .i64 k ∧ s = .string (mkS (manyS k)) ∧ (∃ y : Int, z = .int .i64 y ∧ y = (atS k : Int)) ∧ Hid (Below w.heap.size w wr)) (fun _ _ i _ => N - (intOf i).toNat)
  case atStart => exact ⟨0, Nat.zero_le _, rfl, rfl, ⟨0, rfl, rfl⟩, Lib.hid (Below.refl _ _)⟩
  case round =>
    obtain ⟨k, hk, rfl, rfl, ⟨y, rfl, hy⟩, HX⟩ := hrel
    by_cases hkn : k < N
    · clear hy
      have hcat1 := mkS_cat (manyS k) bRs
      have hcat2 := mkS_cat (manyS k ++ bRs) (dgt k)
      have hcat3 := mkS_cat ((manyS k ++ bRs) ++ dgt k) [10]
      have e3 : ((manyS k ++ bRs) ++ dgt k) ++ [10] = manyS (k + 1) := by rw [manyS]; simp
      rw [e3] at hcat3
      have hl := manyS_len k
      have hl1 : (manyS (k + 1)).length ≤ 18 * (k + 1) := manyS_len (k + 1)
      have hl2 : (manyS k ++ bRs).length ≤ 18 * k + 15 := by rw [List.length_append]; show _ + 15 ≤ _; omega
      have hl3 : (manyS k ++ bRs ++ dgt k).length ≤ 18 * k + 17 := by have := dgt_len k; rw [List.length_append]; omega
      obtain ⟨J, hJ⟩ : ∃ J, mkS (manyS k) = J := ⟨_, rfl⟩
      obtain ⟨J1, hJ1⟩ : ∃ J, mkS (manyS k ++ bRs) = J := ⟨_, rfl⟩
      obtain ⟨J2, hJ2⟩ : ∃ J, mkS (manyS k ++ bRs ++ dgt k) = J := ⟨_, rfl⟩
      obtain ⟨J3, hJ3⟩ : ∃ J, mkS (manyS (k + 1)) = J := ⟨_, rfl⟩
      obtain ⟨D, hD⟩ : ∃ J, mkS (dgt k) = J := ⟨_, rfl⟩
      have lJ : J.size ≤ 1000 := by rw [← hJ, mkS_size]; omega
      have lJ1 : J1.size ≤ 1000 := by rw [← hJ1, mkS_size]; omega
      have lJ2 : J2.size ≤ 1000 := by rw [← hJ2, mkS_size]; omega
      have lD : D.size ≤ 1000 := by rw [← hD, mkS_size]; have := dgt_len k; omega
      have hz : J.size = (manyS k).length := by rw [← hJ, mkS_size]
      rw [hJ, hJ1] at hcat1
      rw [hJ1, hJ2, hD] at hcat2
      rw [hJ2, hJ3] at hcat3
      have hc1 : J ++ (⟨#[114, 101, 115, 111, 108, 118, 101, 114, 32, 49, 46, 50, 46, 51, 46]⟩ : ByteArray) = J1 := hcat1
      have hc3 : J2 ++ (⟨#[10]⟩ : ByteArray) = J3 := hcat3
      have K := digits_any k (by omega)
      rw [dgt_eq (by omega), hD] at K
      have HK := Lib.hid K
      have HS := Lib.hid (And.intro hz hJ3)
      rw [hJ]
      clear hz hJ hJ1 hJ2 hJ3 hD K hcat1 hcat3 e3 hl hl1 hl2 hl3
      go_wp2_with fail
      refine (HK.out _).mono ?_
      rintro e w1 ⟨rfl, b1⟩
      have H1 := Lib.hid (HX.out.trans (b1.mono HX.out.size))
      clear b1
      go_wp2_with fail
      exact ⟨⟨k + 1, hkn, by go_num, by rw [HS.out.2], ⟨_, rfl, by rw [HS.out.1]; rfl⟩, H1⟩, by simp [intOf]; omega⟩
    · obtain rfl : k = N := by omega
      have HY := Lib.hid hy
      clear hy
      obtain ⟨J, hJ⟩ : ∃ J, mkS (manyS k) = J := ⟨_, rfl⟩
      rw [hJ]
      have HJ := Lib.hid hJ
      clear hJ
      by_cases hbig : 20 < k
      · have e201 : k = 21 := by omega
        have HB := Lib.hid e201
        clear e201
        go_wp2_with fail
        refine (parsed_err (s := J) (HE.out.1.later HX.out (Nat.le_refl _)) (by rw [← HJ.out, mkS_size]; have := manyS_len k; omega) (by rw [← HJ.out, mkS_data, HB.out]; exact manyS_big)).mono ?_
        rintro e w1 ⟨g, rfl, hgg, b1⟩
        have H1 := Lib.hid (And.intro (HX.out.trans (b1.mono HX.out.size)) hgg)
        clear hgg b1
        go_wp2_with (first
          | (refine wpList_alloc_rs rfl rfl ?_; intro w2 a2 b2 z2; have H2 := Lib.hid (And.intro a2 b2); clear a2 b2 z2)
          | (refine wpList_store_rs rfl (.tmp 9) (.tmp 40) rfl (.slice none 0 0) (.slice none 0 0) rfl rfl rfl rfl H2.out.1 ?_; intro w3 a3 o3 z3 b3; have bb := b3 w1.heap.size w1 (Nat.le_refl _) H2.out.2; have H3 := Lib.hid (And.intro (H1.out.1.trans (bb.mono H1.out.1.size)) ((bb.block g (lt_blk H1.out.2)).trans H1.out.2)); clear a3 o3 z3 b3 bb))
        refine (awake19 (HE.out.1.later H3.out.1 (Nat.le_refl _))).mono ?_
        rintro e w4 ⟨rfl, b4⟩
        have H4 := Lib.hid (And.intro (H3.out.1.trans (b4.mono H3.out.1.size)) ((b4.block g (lt_blk H3.out.2)).trans H3.out.2))
        clear b4
        go_wp2_with fail
        refine (help_at 4 y w4).mono ?_
        rintro e w5 ⟨rfl, b5⟩
        have H5 := Lib.hid (And.intro (H4.out.1.trans (b5.mono H4.out.1.size)) ((b5.block g (lt_blk H4.out.2)).trans H4.out.2))
        clear b5
        go_wp2_with fail
        have ht := told_at19 (w := w5) (g := g) (n := 4) (by decide) H5.out.2
        have ey : y = (((manyS 20).length + 9 : Nat) : Int) := by rw [HY.out, HB.out]; rfl
        rw [ey]
        refine (is_told3 ht (Handle.later H5.out.1 (Nat.le_refl _) HE.out.2)).mono ?_
        rintro e w6 ⟨rfl, b6⟩
        have H6 := Lib.hid (H5.out.1.trans (b6.mono H5.out.1.size))
        clear b6 ht ey
        go_wp2_with fail
        go_ret
        exact ⟨rfl, H6.out⟩
      · obtain ⟨r, t1, t2, t3⟩ := manyS_ok hN1 (by omega)
        have HT := Lib.hid (And.intro t1 (And.intro t2 t3))
        clear t1 t2 t3
        go_wp2_with fail
        refine (parsed_ok (s := J) (HE.out.1.later HX.out (Nat.le_refl _)) (by rw [← HJ.out, mkS_size]; have := manyS_len k; omega) (by rw [← HJ.out, mkS_data]; exact HT.out.1)).mono ?_
        rintro e w1 ⟨v1, v2, rfl, hA, hB, b1⟩
        have H1 := Lib.hid (And.intro (HX.out.trans (b1.mono HX.out.size)) (And.intro hA hB))
        clear hA hB b1
        go_wp2_with (first
          | (refine wpList_alloc_rs rfl rfl ?_; intro w2 a2 b2 z2; have H2 := Lib.hid (And.intro a2 b2); clear a2 b2 z2)
          | (refine wpList_store_rs rfl (.tmp 9) (.tmp 40) rfl v1 v2 H1.out.2.1.one H1.out.2.2.one rfl rfl H2.out.1 ?_; intro w3 a3 o3 z3 b3; have bb := b3 w1.heap.size w1 (Nat.le_refl _) H2.out.2; obtain ⟨A1, c1, A2, c2, g1, g2⟩ := box_lens a3 (H1.out.2.1.later bb) (H1.out.2.2.later bb); rw [HT.out.2.1] at g1; rw [HT.out.2.2] at g2; have H3 := Lib.hid (And.intro (H1.out.1.trans (bb.mono H1.out.1.size)) (And.intro g1 g2)); clear a3 o3 z3 b3 bb g1 g2))
        refine (awake19 (HE.out.1.later H3.out.1 (Nat.le_refl _))).mono ?_
        rintro e w4 ⟨rfl, b4⟩
        have g3 := (b4.cell (lt_cell H3.out.2.1)).trans H3.out.2.1
        have g4 := (b4.cell (lt_cell H3.out.2.2)).trans H3.out.2.2
        have H4 := Lib.hid (H3.out.1.trans (b4.mono H3.out.1.size))
        clear b4
        go_wp2_with fail
        go_ret
        exact ⟨rfl, H4.out⟩
theorem ruleMany (b : Bool) (n : Int) {w : World} (hE : Env19 w) (hg : Handle w) : Calls Tryz.prog 5 #[.bool b, .int .i64 n] w fun e w' => e = .returned (.bool true) ∧ Below w.heap.size w w' := by
  obtain ⟨q1, q2⟩ := num_mod19 n 3 (by omega) (by omega)
  obtain ⟨q, hq⟩ : ∃ q : Nat, wrap64 ((IntKind.u64.wrap n).tmod 3) = (q : Int) := ⟨_, (Int.toNat_of_nonneg q1).symm⟩
  have h3 : q < 3 := by omega
  cases b with
  | true => exact many_servers n q h3 hq hE hg
  | false => exact many_rules n q h3 hq hE hg
end Go.Proofs.YtoagfmonfgagbaaGreatDoor

namespace Go.Proofs.YtoagfmonfgagbaaGreatDoor
open Go.RowKit
set_option maxRecDepth 100000

/-- Three rows just laid: the world by a letter. -/
theorem three_rows19 {P : Program} {c : Code} {Q : Exit → Act → World → Prop} {a : Act} {w : World} {cs0 cs1 cs2 : Array Value} {T0 T1 T2 : TypeId} (vs0 vs1 vs2 : List Value) (h0 : cs0.toList = vs0) (h1 : cs1.toList = vs1) (h2 : cs2.toList = vs2)
    (h : ∀ W, Row W w.heap.size T0 vs0 → Row W (w.heap.size + 1) T1 vs1 → Row W (w.heap.size + 1 + 1) T2 vs2 → Below w.heap.size w W → c.wp P Q a W) : c.wp P Q a (((w.alloc (.cells cs0 T0)).alloc (.cells cs1 T1)).alloc (.cells cs2 T2)) := by
  have r0 := Row.new' w T0 h0
  have r1 := Row.new' (w.alloc (.cells cs0 T0)) T1 h1
  have r2 := Row.new' ((w.alloc (.cells cs0 T0)).alloc (.cells cs1 T1)) T2 h2
  rw [World.size_alloc] at r1
  rw [World.size_alloc, World.size_alloc] at r2
  have b1 : Below (w.alloc (.cells cs0 T0)).heap.size (w.alloc (.cells cs0 T0)) (((w.alloc (.cells cs0 T0)).alloc (.cells cs1 T1)).alloc (.cells cs2 T2)) := ((Below.refl _ _).alloc (Nat.le_refl _) _).alloc (by simp) _
  exact h _ (r0.later b1 (Nat.le_refl _)) (r1.later ((Below.refl _ _).alloc (Nat.le_refl _) _) (Nat.le_refl _)) r2 (((Below.refl _ _).alloc (Nat.le_refl _) _).trans (b1.mono (by simp)))
def rowS : List Value := refT.map fun t => .string (mkS t.1)
def rowC : List Value := refT.map fun t => .int .i64 t.2.1
def rowA : List Value := refT.map fun t => .int .i64 (t.2.2 : Int)
theorem row_s {k : Nat} {t : List UInt8 × Int × Nat} (h : refT[k]? = some t) : rowS[k]? = some (.string (mkS t.1)) := by unfold rowS; rw [List.getElem?_map, h]; rfl
theorem row_c {k : Nat} {t : List UInt8 × Int × Nat} (h : refT[k]? = some t) : rowC[k]? = some (.int .i64 t.2.1) := by unfold rowC; rw [List.getElem?_map, h]; rfl
theorem row_a {k : Nat} {t : List UInt8 × Int × Nat} (h : refT[k]? = some t) : rowA[k]? = some (.int .i64 (t.2.2 : Int)) := by unfold rowA; rw [List.getElem?_map, h]; rfl
set_option maxHeartbeats 8000000 in
theorem ref_good (n : Int) (k : Nat) (l : List UInt8) (a : Nat) (x : Rs19) (hk : refT[k]? = some (l, 0, a)) (hk21 : k < 21) (hlen : l.length ≤ 100) (hn : wrap64 ((IntKind.u64.wrap n).tmod 21) = (k : Int)) (ht : textV l = .inr x) (hx : x.rules.length = 1) {w : World} (hE : Env19 w) : Calls Tryz.prog 4 #[.int .i64 n] w fun e w' => e = .returned (.bool true) ∧ Below w.heap.size w w' := by
  have HE := Lib.hid hE
  have HN := Lib.hid hn
  have HK := Lib.hid (And.intro hk (And.intro ht (And.intro hx hlen)))
  have q1 : (0 : Int) ≤ (k : Int) := by omega
  have q2 : (k : Int) < 21 := by omega
  clear hE hn hk ht hx hlen
  go_enter Tryz.func4, Tryz.ntmps4
  go_upto_region 5 with (fail)
  rw [HN.out]
  refine three_rows19 rowS rowC rowA (by kernel_rfl) (by kernel_rfl) (by kernel_rfl) ?_
  intro W r0 r1 r2 b0
  have c0 := r0.cell (row_s HK.out.1)
  have H0 := Lib.hid (And.intro r1 b0)
  clear r0 r1 r2 b0
  go_wp2_with fail
  refine (parsed_ok (s := mkS l) (HE.out.later H0.out.2 (Nat.le_refl _)) (by rw [mkS_size]; have := HK.out.2.2.2; omega) (by rw [mkS_data]; exact HK.out.2.1)).mono ?_
  rintro e w1 ⟨v1, v2, rfl, hA, hB, b1⟩
  have H1 := Lib.hid (And.intro (H0.out.2.trans (b1.mono H0.out.2.size)) (And.intro (H0.out.1.later b1 (Nat.le_refl _)) (And.intro hA hB)))
  clear hA hB b1 c0
  go_wp2_with (first
    | (refine wpList_alloc_rs rfl rfl ?_; intro w2 a2 b2 z2; have H2 := Lib.hid (And.intro a2 b2); clear a2 b2 z2)
    | (refine wpList_store_rs rfl (.tmp 7) (.tmp 22) rfl v1 v2 H1.out.2.2.1.one H1.out.2.2.2.one rfl rfl H2.out.1 ?_; intro w3 a3 o3 z3 b3; have bb := b3 w1.heap.size w1 (Nat.le_refl _) H2.out.2; obtain ⟨A1, c1, A2, c2, g1, g2⟩ := box_lens a3 (H1.out.2.2.1.later bb) (H1.out.2.2.2.later bb); rw [HK.out.2.2.1] at g2; have cc := (H1.out.2.1.later bb (Nat.le_refl _)).cell (row_c HK.out.1); have H3 := Lib.hid (And.intro (H1.out.1.trans (bb.mono H1.out.1.size)) g2); clear a3 o3 z3 b3 bb g1 g2))
  refine (awake19 (HE.out.later H3.out.1 (Nat.le_refl _))).mono ?_
  rintro e w4 ⟨rfl, b4⟩
  have g3 := (b4.cell (lt_cell H3.out.2)).trans H3.out.2
  have H4 := Lib.hid (H3.out.1.trans (b4.mono H3.out.1.size))
  clear b4 cc
  go_wp2_with fail
  go_ret
  exact ⟨rfl, H4.out⟩
set_option maxHeartbeats 8000000 in
theorem ref_bad (n : Int) (k : Nat) (l : List UInt8) (c : Int) (a : Nat) (hk : refT[k]? = some (l, c, a)) (hk21 : k < 21) (hlen : l.length ≤ 100) (hn : wrap64 ((IntKind.u64.wrap n).tmod 21) = (k : Int)) (hc : c ≠ 0) (ht : textV l = .inl (c, a)) {w : World} (hE : Env19 w) (hg : Handle w) : Calls Tryz.prog 4 #[.int .i64 n] w fun e w' => e = .returned (.bool true) ∧ Below w.heap.size w w' := by
  have HE := Lib.hid (And.intro hE hg)
  have HN := Lib.hid hn
  have HK := Lib.hid (And.intro hk (And.intro ht (And.intro hc hlen)))
  have q1 : (0 : Int) ≤ (k : Int) := by omega
  have q2 : (k : Int) < 21 := by omega
  have ec : (c == 0) = false := by rw [beq_eq_false_iff_ne]; exact hc
  clear hE hg hn hk ht hlen hc
  go_enter Tryz.func4, Tryz.ntmps4
  go_upto_region 5 with (fail)
  rw [HN.out]
  refine three_rows19 rowS rowC rowA (by kernel_rfl) (by kernel_rfl) (by kernel_rfl) ?_
  intro W r0 r1 r2 b0
  have c0 := r0.cell (row_s HK.out.1)
  have H0 := Lib.hid (And.intro (And.intro r1 r2) b0)
  clear r0 r1 r2 b0
  go_wp2_with fail
  refine (parsed_err (s := mkS l) (HE.out.1.later H0.out.2 (Nat.le_refl _)) (by rw [mkS_size]; have := HK.out.2.2.2; omega) (by rw [mkS_data]; exact HK.out.2.1)).mono ?_
  rintro e w1 ⟨g, rfl, hgg, b1⟩
  have H1 := Lib.hid (And.intro (H0.out.2.trans (b1.mono H0.out.2.size)) (And.intro (And.intro (H0.out.1.1.later b1 (Nat.le_refl _)) (H0.out.1.2.later b1 (Nat.le_refl _))) hgg))
  clear hgg b1 c0
  go_upto_region 8 with (first
    | (refine wpList_alloc_rs rfl rfl ?_; intro w2 a2 b2 z2; have H2 := Lib.hid (And.intro a2 b2); clear a2 b2 z2)
    | (refine wpList_store_rs rfl (.tmp 7) (.tmp 22) rfl (.slice none 0 0) (.slice none 0 0) rfl rfl rfl rfl H2.out.1 ?_; intro w3 a3 o3 z3 b3; have bb := b3 w1.heap.size w1 (Nat.le_refl _) H2.out.2; have cc := (H1.out.2.1.1.later bb (Nat.le_refl _)).cell (row_c HK.out.1); have ca := (H1.out.2.1.2.later bb (Nat.le_refl _)).cell (row_a HK.out.1); have H3 := Lib.hid (And.intro (H1.out.1.trans (bb.mono H1.out.1.size)) (And.intro ((bb.block g (lt_blk H1.out.2.2)).trans H1.out.2.2) (And.intro (And.intro cc ca) (And.intro (cell_of_row w3 w1.heap.size 0 _ _ _ a3) (cell_of_row w3 w1.heap.size 1 _ _ _ a3))))); clear a3 o3 z3 b3 bb ca))
  clear cc
  have rc : ∀ w', Below w3.heap.size w3 w' → w'.cell? ⟨w.heap.size + 1, k, none⟩ = some (.int .i64 c) := fun w' h => (h.cell (lt_cell H3.out.2.2.1.1)).trans H3.out.2.2.1.1
  have ra : ∀ w', Below w3.heap.size w3 w' → w'.cell? ⟨w.heap.size + 1 + 1, k, none⟩ = some (.int .i64 (a : Int)) := fun w' h => (h.cell (lt_cell H3.out.2.2.1.2)).trans H3.out.2.2.1.2
  have rb0 : ∀ w', Below w3.heap.size w3 w' → w'.cell? ⟨w1.heap.size, 0, none⟩ = some (.slice none 0 0) := fun w' h => (h.cell (lt_cell H3.out.2.2.2.1)).trans H3.out.2.2.2.1
  have rb1 : ∀ w', Below w3.heap.size w3 w' → w'.cell? ⟨w1.heap.size, 1, none⟩ = some (.slice none 0 0) := fun w' h => (h.cell (lt_cell H3.out.2.2.2.2)).trans H3.out.2.2.2.2
  have hS : Below w3.heap.size w3 w3.drew := (Below.refl _ _).drew
  refine rg_begin (fun w' => Below w3.heap.size w3 w') 27 (by kernel_rfl) rfl ?_
  refine rg_step 0 rfl (by kernel_rfl) (by rfl) (fun K hK => ?_)
  go_simp
  refine (awake19 (HE.out.1.later (H3.out.1.trans (hS.mono H3.out.1.size)) (Nat.le_refl _))).mono ?_
  rintro e w4 ⟨rfl, b4⟩
  replace hS := hS.trans (b4.mono hS.size)
  clear b4
  refine hK.out _ _ hS ?_
  clear hK K
  try simp only [Act.put, List.setIfInBounds_toArray, List.set_cons_zero, List.set_cons_succ]
  refine rg_take 1 (v := ?rv1) rfl (by kernel_rfl) (by kernel_rfl) (by kernel_rfl) (fun _ _ _ h => h) (by rfl) hS (fun w2 hw2 => ?ry1) ?rr1
  case ry1 => ((try dsimp only at hw2); go_simp <;> with_reducible rfl)
  simp only [Act.put, List.setIfInBounds_toArray, List.set_cons_zero, List.set_cons_succ]
  refine rg_take 2 (v := ?rv2) rfl (by kernel_rfl) (by kernel_rfl) (by kernel_rfl) (fun _ _ _ h => h) (by rfl) hS (fun w2 hw2 => ?ry2) ?rr2
  case ry2 => ((try dsimp only at hw2); go_simp <;> with_reducible rfl)
  simp only [Act.put, List.setIfInBounds_toArray, List.set_cons_zero, List.set_cons_succ]
  refine rg_take 3 (v := ?rv3) rfl (by kernel_rfl) (by kernel_rfl) (by kernel_rfl) (fun _ _ _ h => h) (by rfl) hS (fun w2 hw2 => ?ry3) ?rr3
  case ry3 => ((try dsimp only at hw2); go_simp <;> with_reducible rfl)
  simp only [Act.put, List.setIfInBounds_toArray, List.set_cons_zero, List.set_cons_succ]
  refine rg_take 4 (v := ?rv4) rfl (by kernel_rfl) (by kernel_rfl) (by kernel_rfl) (fun _ _ _ h => h) (by rfl) hS (fun w2 hw2 => ?ry4) ?rr4
  case ry4 => ((try dsimp only at hw2); go_simp <;> with_reducible rfl)
  simp only [Act.put, List.setIfInBounds_toArray, List.set_cons_zero, List.set_cons_succ]
  refine rg_take 7 (v := ?rv5) rfl (by kernel_rfl) (by kernel_rfl) (by kernel_rfl) (fun _ _ _ h => h) (by rfl) hS (fun w2 hw2 => ?ry5) ?rr5
  case ry5 => ((try dsimp only at hw2); go_simp <;> with_reducible rfl)
  simp only [Act.put, List.setIfInBounds_toArray, List.set_cons_zero, List.set_cons_succ]
  refine rg_take 8 (v := ?rv6) rfl (by kernel_rfl) (by kernel_rfl) (by kernel_rfl) (fun _ _ _ h => h) (by rfl) hS (fun w2 hw2 => ?ry6) ?rr6
  case ry6 => ((try dsimp only at hw2); go_simp <;> with_reducible rfl)
  simp only [Act.put, List.setIfInBounds_toArray, List.set_cons_zero, List.set_cons_succ]
  refine rg_take 5 (v := ?rv7) rfl (by kernel_rfl) (by kernel_rfl) (by kernel_rfl) (fun _ _ _ h => h) (by rfl) hS (fun w2 hw2 => ?ry7) ?rr7
  case ry7 => ((try dsimp only at hw2); go_simp <;> with_reducible rfl)
  simp only [Act.put, List.setIfInBounds_toArray, List.set_cons_zero, List.set_cons_succ]
  refine rg_take 9 (v := ?rv8) rfl (by kernel_rfl) (by kernel_rfl) (by kernel_rfl) (fun _ _ _ h => h) (by rfl) hS (fun w2 hw2 => ?ry8) ?rr8
  case ry8 => ((try dsimp only at hw2); go_simp <;> with_reducible rfl)
  simp only [Act.put, List.setIfInBounds_toArray, List.set_cons_zero, List.set_cons_succ]
  refine rg_take 6 (v := ?rv9) rfl (by kernel_rfl) (by kernel_rfl) (by kernel_rfl) (fun _ _ _ h => h) (by rfl) hS (fun w2 hw2 => ?ry9) ?rr9
  case ry9 => ((try dsimp only at hw2); go_simp <;> with_reducible rfl)
  simp only [Act.put, List.setIfInBounds_toArray, List.set_cons_zero, List.set_cons_succ]
  refine rg_take 10 (v := ?rv10) rfl (by kernel_rfl) (by kernel_rfl) (by kernel_rfl) (fun _ _ _ h => h) (by rfl) hS (fun w2 hw2 => ?ry10) ?rr10
  case ry10 => ((try dsimp only at hw2); go_simp <;> with_reducible rfl)
  simp only [Act.put, List.setIfInBounds_toArray, List.set_cons_zero, List.set_cons_succ]
  refine rg_step 11 rfl (by kernel_rfl) (by rfl) (fun K hK => ?_)
  go_simp
  refine (help_at c (a : Int) w4).mono ?_
  rintro e w5 ⟨rfl, b5⟩
  replace hS := hS.trans (b5.mono hS.size)
  clear b5
  refine hK.out _ _ hS ?_
  clear hK K
  try simp only [Act.put, List.setIfInBounds_toArray, List.set_cons_zero, List.set_cons_succ]
  refine rg_step 12 rfl (by kernel_rfl) (by rfl) (fun K hK => ?_)
  go_simp
  have ht := told_at19 (w := w5) (g := g) (n := c) (p := a) HK.out.2.2.1 ((hS.block g (lt_blk H3.out.2.1)).trans H3.out.2.1)
  refine (is_told3 ht (Handle.later (H3.out.1.trans (hS.mono H3.out.1.size)) (Nat.le_refl _) HE.out.2)).mono ?_
  rintro e w6 ⟨rfl, b6⟩
  replace hS := hS.trans (b6.mono hS.size)
  clear b6 ht
  refine hK.out _ _ hS ?_
  clear hK K
  try simp only [Act.put, List.setIfInBounds_toArray, List.set_cons_zero, List.set_cons_succ]
  refine rg_take 13 (v := ?rv11) rfl (by kernel_rfl) (by kernel_rfl) (by kernel_rfl) (fun _ _ _ h => h) (by rfl) hS (fun w2 hw2 => ?ry11) ?rr11
  case ry11 => ((try dsimp only at hw2); go_simp <;> with_reducible rfl)
  simp only [Act.put, List.setIfInBounds_toArray, List.set_cons_zero, List.set_cons_succ]
  refine rg_take 14 (v := ?rv12) rfl (by kernel_rfl) (by kernel_rfl) (by kernel_rfl) (fun _ _ _ h => h) (by rfl) hS (fun w2 hw2 => ?ry12) ?rr12
  case ry12 => ((try dsimp only at hw2); go_simp <;> with_reducible rfl)
  simp only [Act.put, List.setIfInBounds_toArray, List.set_cons_zero, List.set_cons_succ]
  refine rg_take 15 (v := ?rv13) rfl (by kernel_rfl) (by kernel_rfl) (by kernel_rfl) (fun _ _ _ h => h) (by rfl) hS (fun w2 hw2 => ?ry13) ?rr13
  case ry13 => ((try dsimp only at hw2); go_simp <;> with_reducible rfl)
  simp only [Act.put, List.setIfInBounds_toArray, List.set_cons_zero, List.set_cons_succ]
  refine rg_take 16 (v := ?rv14) rfl (by kernel_rfl) (by kernel_rfl) (by kernel_rfl) (fun _ _ _ h => h) (by rfl) hS (fun w2 hw2 => ?ry14) ?rr14
  case ry14 => ((try dsimp only at hw2); go_simp <;> with_reducible rfl)
  simp only [Act.put, List.setIfInBounds_toArray, List.set_cons_zero, List.set_cons_succ]
  refine rg_take 17 (v := ?rv15) rfl (by kernel_rfl) (by kernel_rfl) (by kernel_rfl) (fun _ _ _ h => h) (by rfl) hS (fun w2 hw2 => ?ry15) ?rr15
  case ry15 => ((try dsimp only at hw2); go_simp <;> with_reducible rfl)
  simp only [Act.put, List.setIfInBounds_toArray, List.set_cons_zero, List.set_cons_succ]
  refine rg_take 18 (v := ?rv16) rfl (by kernel_rfl) (by kernel_rfl) (by kernel_rfl) (fun _ _ _ h => h) (by rfl) hS (fun w2 hw2 => ?ry16) ?rr16
  case ry16 => ((try dsimp only at hw2); go_simp <;> with_reducible rfl)
  simp only [Act.put, List.setIfInBounds_toArray, List.set_cons_zero, List.set_cons_succ]
  refine rg_take 19 (v := ?rv17) rfl (by kernel_rfl) (by kernel_rfl) (by kernel_rfl) (fun _ _ _ h => h) (by rfl) hS (fun w2 hw2 => ?ry17) ?rr17
  case ry17 => ((try dsimp only at hw2); go_simp <;> with_reducible rfl)
  simp only [Act.put, List.setIfInBounds_toArray, List.set_cons_zero, List.set_cons_succ]
  refine rg_take 20 (v := ?rv18) rfl (by kernel_rfl) (by kernel_rfl) (by kernel_rfl) (fun _ _ _ h => h) (by rfl) hS (fun w2 hw2 => ?ry18) ?rr18
  case ry18 => ((try dsimp only at hw2); go_simp <;> with_reducible rfl)
  simp only [Act.put, List.setIfInBounds_toArray, List.set_cons_zero, List.set_cons_succ]
  refine rg_take 21 (v := ?rv19) rfl (by kernel_rfl) (by kernel_rfl) (by kernel_rfl) (fun _ _ _ h => h) (by rfl) hS (fun w2 hw2 => ?ry19) ?rr19
  case ry19 => ((try dsimp only at hw2); go_simp <;> with_reducible rfl)
  simp only [Act.put, List.setIfInBounds_toArray, List.set_cons_zero, List.set_cons_succ]
  refine rg_take 22 (v := ?rv20) rfl (by kernel_rfl) (by kernel_rfl) (by kernel_rfl) (fun _ _ _ h => h) (by rfl) hS (fun w2 hw2 => ?ry20) ?rr20
  case ry20 => ((try dsimp only at hw2); go_simp <;> with_reducible rfl)
  simp only [Act.put, List.setIfInBounds_toArray, List.set_cons_zero, List.set_cons_succ]
  refine rg_take 23 (v := ?rv21) rfl (by kernel_rfl) (by kernel_rfl) (by kernel_rfl) (fun _ _ _ h => h) (by rfl) hS (fun w2 hw2 => ?ry21) ?rr21
  case ry21 => ((try dsimp only at hw2); go_simp <;> with_reducible rfl)
  simp only [Act.put, List.setIfInBounds_toArray, List.set_cons_zero, List.set_cons_succ]
  refine rg_take 24 (v := ?rv22) rfl (by kernel_rfl) (by kernel_rfl) (by kernel_rfl) (fun _ _ _ h => h) (by rfl) hS (fun w2 hw2 => ?ry22) ?rr22
  case ry22 => ((try dsimp only at hw2); go_simp <;> with_reducible rfl)
  simp only [Act.put, List.setIfInBounds_toArray, List.set_cons_zero, List.set_cons_succ]
  refine rg_take 25 (v := ?rv23) rfl (by kernel_rfl) (by kernel_rfl) (by kernel_rfl) (fun _ _ _ h => h) (by rfl) hS (fun w2 hw2 => ?ry23) ?rr23
  case ry23 => ((try dsimp only at hw2); go_simp <;> with_reducible rfl)
  simp only [Act.put, List.setIfInBounds_toArray, List.set_cons_zero, List.set_cons_succ]
  refine rg_take 26 (v := ?rv24) rfl (by kernel_rfl) (by kernel_rfl) (by kernel_rfl) (fun _ _ _ h => h) (by rfl) hS (fun w2 hw2 => ?ry24) ?rr24
  case ry24 => ((try dsimp only at hw2); go_simp <;> with_reducible rfl)
  simp only [Act.put, List.setIfInBounds_toArray, List.set_cons_zero, List.set_cons_succ]
  refine rg_done (by kernel_rfl) ?_
  go_wp2_with fail
  go_ret
  exact ⟨rfl, H3.out.1.trans (hS.mono H3.out.1.size)⟩
theorem ruleRefuses (n : Int) {w : World} (hE : Env19 w) (hg : Handle w) : Calls Tryz.prog 4 #[.int .i64 n] w fun e w' => e = .returned (.bool true) ∧ Below w.heap.size w w' := by
  obtain ⟨q1, q2⟩ := num_mod19 n 21 (by omega) (by omega)
  obtain ⟨k, hk⟩ : ∃ k : Nat, wrap64 ((IntKind.u64.wrap n).tmod 21) = (k : Int) := ⟨_, (Int.toNat_of_nonneg q1).symm⟩
  have h21 : k < 21 := by omega
  obtain ⟨⟨l, c, a⟩, ht⟩ : ∃ t, refT[k]? = some t := ⟨_, List.getElem?_eq_getElem (by show k < 21; exact h21)⟩
  have hm := List.mem_of_getElem? ht
  have hl : l.length ≤ 100 := ref_len _ hm
  rcases ref_ways hm with ⟨h1, h2⟩ | ⟨h1, x, h2, h3⟩
  · exact ref_bad n k l c a ht h21 hl hk h1 h2 hE hg
  · obtain rfl : c = 0 := h1
    exact ref_good n k l a x ht h21 hl hk h2 h3 hE
end Go.Proofs.YtoagfmonfgagbaaGreatDoor
