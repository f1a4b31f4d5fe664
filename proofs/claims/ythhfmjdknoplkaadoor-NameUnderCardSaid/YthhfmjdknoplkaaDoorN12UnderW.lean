/-
  stockadelaw12.NameUnder answers true, whatever is handed in. Conditions: what the program's text has laid (internal/bytealg.MaxLen holds an int).
-/
import Derived.Test.YthhfmjdknoplkaaDoorN12LabelsW
import Derived.IntWalk
namespace Go.Proofs.YthhfmjdknoplkaaDoor
open Go.RowKit
set_option maxRecDepth 100000

/-- The labels from a place on, as they come. -/
theorem join_drop {ls : List (List UInt8)} {k i : Nat} {x : List UInt8} (h : ls[i]? = some x) (hki : k ≤ i) : (ls.drop k).take (i + 1 - k) = (ls.drop k).take (i - k) ++ [x] := by
  rw [show i + 1 - k = (i - k) + 1 by omega, List.take_add_one, List.getElem?_drop, show k + (i - k) = i by omega, h]
  rfl
theorem num_modU (a : Int) (m : Int) (h0 : 0 ≤ m) (h1 : m ≤ 1000) : 0 ≤ wrap64 ((IntKind.u64.wrap a).tmod (m + 1)) ∧ wrap64 ((IntKind.u64.wrap a).tmod (m + 1)) ≤ m := by
  have h : IntKind.u64.wrap a = a % 18446744073709551616 := rfl
  have h2 : 0 ≤ IntKind.u64.wrap a := by rw [h]; omega
  rw [Int.tmod_eq_emod_of_nonneg h2]
  have h3 := Int.emod_nonneg (IntKind.u64.wrap a) (show m + 1 ≠ 0 by omega)
  have h4 := Int.emod_lt_of_pos (IntKind.u64.wrap a) (show 0 < m + 1 by omega)
  rw [show wrap64 (IntKind.u64.wrap a % (m + 1)) = IntKind.u64.wrap a % (m + 1) by unfold wrap64; omega]
  omega
set_option maxHeartbeats 2000000 in
theorem nameUnder (s m : ByteArray) (hs : s.size ≤ 9223372036854775807) (hm : m.size ≤ 9223372036854775807) (n : Int) {w : World} (hE : Env w) : Calls Tryd.prog 6 #[.string s, .int .i64 n, .string m] w fun e w' => e = .returned (.bool true) ∧ Below w.heap.size w w' := by
  have KP := Lib.hid (playName_any s hs w)
  have KM := Lib.hid (fun w1 => playName_any m hm w1)
  obtain ⟨hr, h60⟩ := playN_right s.data.toList
  obtain ⟨hr2, h602⟩ := playN_right m.data.toList
  generalize playN s.data.toList = p at KP hr h60
  generalize playN m.data.toList = q at KM hr2 h602
  have hps : (mkS p).size = p.length := mkS_size p
  have hqs : (mkS q).size = q.length := mkS_size q
  have HE := Lib.hid hE
  have KL := fun w1 (hb : Below w.heap.size w w1) => labels_any (mkS p) (by rw [mkS_size]; omega) (hE.later hb (Nat.le_refl _))
  rw [mkS_data] at KL
  obtain ⟨ls, hls⟩ : ∃ ls, labsN p = ls := ⟨_, rfl⟩
  rw [hls] at KL
  have HL := Lib.hid KL
  have HLS := Lib.hid (And.intro hls hr)
  have hsz : 1 + sizeL ls ≤ 255 := by rw [← hls]; exact hr.2
  have hge := sizeL_ge ls
  clear hE KL hls hr hr2
  go_enter Tryd.func6, Tryd.ntmps6
  go_wp2_with fail
  refine KP.out.mono ?_
  rintro e w1 ⟨rfl, b1⟩
  have H1 := Lib.hid b1
  clear b1
  go_wp2_with fail
  refine (KM.out w1).mono ?_
  rintro e w2 ⟨rfl, b2⟩
  have H2 := Lib.hid (H1.out.trans (b2.mono H1.out.size))
  clear b2
  go_wp2_with fail
  refine (HL.out w2 H2.out).mono ?_
  rintro e w3 ⟨A, n', c, rfl, hG, b3⟩
  obtain rfl := gs_len hG
  have hcap := hG.cap
  have hmax := hG.max
  unfold maxLen at hmax
  have H3 := Lib.hid (And.intro hG (H2.out.trans (b3.mono H2.out.size)))
  clear hG b3
  go_wp2_with fail
  refine (awake12 (HE.out.later H3.out.2 (Nat.le_refl _))).mono ?_
  rintro e w4 ⟨rfl, b4⟩
  have H4 := Lib.hid (And.intro (H3.out.1.later b4 (Nat.le_refl _)) (H3.out.2.trans (b4.mono H3.out.2.size)))
  clear b4
  obtain ⟨q1, q2⟩ := num_modU n (ls.length : Int) (by omega) (by omega)
  obtain ⟨k0, hk0⟩ := Int.eq_ofNat_of_zero_le q1
  have hne : 0 < ls.length → (mkS p).toList.isEmpty = false := fun h => mkS_some (fun e => by
    have := HLS.out.1
    rw [e] at this
    rw [← this] at h
    exact absurd h (by decide))
  have hkl : k0 ≤ ls.length := by omega
  have hzn : joinD ((ls.drop k0).take (ls.length - k0)) = joinD ((labsN p).drop k0) := by rw [HLS.out.1, List.take_of_length_le (by rw [List.length_drop]; exact Nat.le_refl _)]
  have hzl : ∀ i, (joinD ((ls.drop k0).take i)).length ≤ 255 := fun i => by
    have h1 := sizeL_append (ls.take k0) (ls.drop k0)
    rw [List.take_append_drop] at h1
    have := join_take_le (ls := ls.drop k0) i
    omega
  have KU1 := Lib.hid (fun w1 => under_any p (joinD ((labsN p).drop k0)) (by omega) (by rw [← hzn]; have := hzl (ls.length - k0); omega) w1)
  rw [decide_eq_true (under_labels p k0), ← hzn] at KU1
  have KU2 := Lib.hid (fun w1 => under_any p [] (by omega) (by decide) w1)
  rw [decide_eq_true (show underN p [] from .inl rfl), show mkS [] = ⟨#[]⟩ from rfl] at KU2
  have KU3 := Lib.hid (fun w1 => under_any (q ++ 46 :: p) p (by simp; omega) (by omega) w1)
  rw [decide_eq_true (under_dot q p)] at KU3
  have KU4 := Lib.hid (fun w1 => under_any p (120 :: p) (by omega) (by simp; omega) w1)
  rw [decide_eq_false (not_under_longer 120 p)] at KU4
  have KU5 := Lib.hid (fun (hp : p ≠ []) w1 => show Calls Tryd.prog 19 #[.string (mkS (120 :: p)), .string (mkS p)] w1 (fun e w' => e = .returned (.bool false) ∧ w1 = w') by
    have h := under_any (120 :: p) p (by simp; omega) (by omega) w1
    rw [decide_eq_false (longer_not_under (show (120 : UInt8) ≠ 46 by decide) hp)] at h
    exact h)
  have hcx : (⟨#[120]⟩ : ByteArray) ++ mkS p = mkS (120 :: p) := mkS_append [120] p
  have hcq : mkS q ++ ⟨#[46]⟩ = mkS (q ++ [46]) := mkS_append q [46]
  have hcr : mkS (q ++ [46]) ++ mkS p = mkS (q ++ 46 :: p) := by rw [mkS_append]; simp
  have hqs2 : (mkS (q ++ [46])).size = q.length + 1 := by rw [mkS_size]; simp
  have HC := Lib.hid (And.intro hcx (And.intro hcq (And.intro hcr hqs2)))
  clear hcx hcq hcr hqs2
  rw [hk0] at q2
  have hw0 : wrap64 ((IntKind.u64.wrap n).tmod ((ls.length : Int) + 1)) = (k0 : Int) := hk0
  have HW0 := Lib.hid hw0
  have hl0 : ¬ 0 < ls.length ∨ 0 < ls.length := by omega
  have HZ := Lib.hid (And.intro hzn hzl)
  clear hw0 hk0 q1 q2 hzn hzl
  rcases hl0 with hl0 | hl0
  all_goals
    go_wp2_with fail
    rw [HW0.out]
    go_loop [8, 9] (fun z i => ∃ k : Nat, k0 ≤ k ∧ k ≤ ls.length ∧ i = .int .i64 k ∧ z = .string (mkS (joinD ((ls.drop k0).take (k - k0))))) (fun _ i => ls.length - (intOf i).toNat)
    case atStart => exact ⟨k0, Nat.le_refl _, hkl, rfl, by rw [Nat.sub_self]; rfl⟩
    case round =>
      obtain ⟨k, hk1, hk2, rfl, rfl⟩ := hrel
      by_cases hlt : k < ls.length
      · obtain ⟨x, hxk⟩ : ∃ x, ls[k]? = some x := ⟨ls[k]'hlt, List.getElem?_eq_getElem _⟩
        obtain ⟨b, o, rfl, h1⟩ := gs_at H4.out.1 hxk
        have hxs : (mkS x).size = x.length := mkS_size x
        have hmem := List.mem_of_getElem? hxk
        have hxl := mem_sizeL ls x hmem
        have hjd := join_drop hxk hk1
        have hzl := HZ.out.2 (k - k0)
        have hallne : ∀ y ∈ (ls.drop k0).take (k - k0), y ≠ [] := fun y hy => labOk_ne (HLS.out.2.1 y (by rw [HLS.out.1]; exact List.mem_of_mem_drop (List.mem_of_mem_take hy)))
        generalize (ls.drop k0).take (k - k0) = zs at hjd hzl hallne ⊢
        by_cases hz0 : zs = []
        · subst hz0
          have hc1 : mkS [] ++ mkS x = mkS (joinD ((ls.drop k0).take (k + 1 - k0))) := by rw [hjd, mkS_append]; rfl
          have he := mkS_empty (l := joinD []) rfl
          have hs0 : (mkS (joinD [])).size = 0 := rfl
          have HK := Lib.hid hc1
          have hc2 : mkS (joinD []) ++ mkS x = mkS (joinD ((ls.drop k0).take (k + 1 - k0))) := hc1
          have hn1 : ¬ 9223372036854775807 < x.length := by omega
          have hn2 : ¬ 9223372036854775807 < 0 + x.length := by omega
          clear hjd hallne hmem hxk hc1 HK
          go_wp2_with fail
          refine ⟨⟨k + 1, by omega, hlt, by go_num, rfl⟩, by simp [intOf]; omega⟩
        · have he := mkS_some (joinD_ne hz0 hallne)
          have hc1 : mkS (joinD zs) ++ ⟨#[46]⟩ = mkS (joinD zs ++ [46]) := mkS_append _ [46]
          have hc2 : mkS (joinD zs ++ [46]) ++ mkS x = mkS (joinD ((ls.drop k0).take (k + 1 - k0))) := by rw [hjd, mkS_append, joinD_snoc _ _ hz0]; simp
          have hs1 : (mkS (joinD zs)).size = (joinD zs).length := mkS_size _
          have hs2 : (mkS (joinD zs ++ [46])).size = (joinD zs).length + 1 := by rw [mkS_size]; simp
          have hn1 : ¬ 9223372036854775807 < (joinD zs).length + 1 := by omega
          have hn2 : ¬ 9223372036854775807 < (joinD zs).length + 1 + x.length := by omega
          clear hjd hallne hmem hxk hzl
          go_wp2_with fail
          refine ⟨⟨k + 1, by omega, hlt, by go_num, rfl⟩, by simp [intOf]; omega⟩
      · obtain rfl : k = ls.length := by omega
        have H5 := Lib.hid H4.out.2
        have hcx := HC.out.1
        have hcq := HC.out.2.1
        have hcr := HC.out.2.2.1
        have hqs2 := HC.out.2.2.2
        have hm1 : ¬ 9223372036854775807 < 1 + p.length := by omega
        have hm2 : ¬ 9223372036854775807 < q.length + 1 := by omega
        have hm3 : ¬ 9223372036854775807 < q.length + 1 + p.length := by omega
        by_cases hp : p = []
        · have rp0 := mkS_empty hp
          by_cases hlz : 0 < ls.length
          · exact absurd ((hne hlz).symm.trans rp0) (by decide)
          · clear hl0
            by_cases hq : q = []
            · have rq0 := mkS_empty hq
              clear hp hq
              go_wp2_with fail
              refine (KU1.out _).mono ?_
              rintro e w' ⟨rfl, rfl⟩
              go_wp2_with fail
              refine (KU2.out _).mono ?_
              rintro e w' ⟨rfl, rfl⟩
              go_wp2_with fail
              refine (KU4.out _).mono ?_
              rintro e w' ⟨rfl, rfl⟩
              go_wp2_with fail
              go_ret
              exact ⟨rfl, H5.out⟩
            · have rq1 := mkS_some hq
              clear hp hq
              go_wp2_with fail
              refine (KU1.out _).mono ?_
              rintro e w' ⟨rfl, rfl⟩
              go_wp2_with fail
              refine (KU2.out _).mono ?_
              rintro e w' ⟨rfl, rfl⟩
              go_wp2_with fail
              refine (KU4.out _).mono ?_
              rintro e w' ⟨rfl, rfl⟩
              go_wp2_with fail
              go_ret
              exact ⟨rfl, H5.out⟩
        · have rp1 := mkS_some hp
          have HK5 := Lib.hid (KU5.out hp)
          by_cases hq : q = []
          · have rq0 := mkS_empty hq
            clear hp hq
            go_wp2_with fail
            refine (KU1.out _).mono ?_
            rintro e w' ⟨rfl, rfl⟩
            go_wp2_with fail
            refine (KU2.out _).mono ?_
            rintro e w' ⟨rfl, rfl⟩
            go_wp2_with fail
            refine (KU4.out _).mono ?_
            rintro e w' ⟨rfl, rfl⟩
            go_wp2_with fail
            refine (HK5.out _).mono ?_
            rintro e w' ⟨rfl, rfl⟩
            go_wp2_with fail
            go_ret
            exact ⟨rfl, H5.out⟩
          · have rq1 := mkS_some hq
            clear hp hq
            go_wp2_with fail
            refine (KU1.out _).mono ?_
            rintro e w' ⟨rfl, rfl⟩
            go_wp2_with fail
            refine (KU2.out _).mono ?_
            rintro e w' ⟨rfl, rfl⟩
            go_wp2_with fail
            refine (KU3.out _).mono ?_
            rintro e w' ⟨rfl, rfl⟩
            go_wp2_with fail
            refine (KU4.out _).mono ?_
            rintro e w' ⟨rfl, rfl⟩
            go_wp2_with fail
            refine (HK5.out _).mono ?_
            rintro e w' ⟨rfl, rfl⟩
            go_wp2_with fail
            go_ret
            exact ⟨rfl, H5.out⟩
end Go.Proofs.YthhfmjdknoplkaaDoor
