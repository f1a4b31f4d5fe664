/-
  stockaderef12's label, Labels, Right, Under, lower; stockadehelp.Plain of texts. Conditions: the texts' lengths; those of the slices.
-/
import Derived.Test.YtepenemhidhdpaaGreatDoorZ39
import Derived.Test.YtepenemhidhdpaaGreatDoorZ24
import Derived.BigQuiet
import Derived.Deep.QuietTactic
namespace Go.Proofs.YtepenemhidhdpaaGreatDoor
open Go.RowKit
set_option maxRecDepth 100000

set_option maxHeartbeats 1000000 in
theorem ref_label (s : ByteArray) (hs : s.size ≤ 1000000) (w : World) : Calls Tryz.prog 87 #[.string s] w fun e w' => e = .returned (.bool (decide (labOk s.data.toList))) ∧ w = w' := by
  have HL := Lib.hid (Lib.size_eq s).symm
  go_enter Tryz.func87, Tryz.ntmps87
  go_wp2_with fail
  go_loop [3] (fun i => ∃ k : Nat, k ≤ s.size ∧ i = .int .i64 k ∧ ∀ (j : Nat) (x : UInt8), j < k → s.data.toList[j]? = some x → sign x) (fun i => s.size - (intOf i).toNat)
  case atStart => exact ⟨0, Nat.zero_le _, rfl, fun j x h => absurd h (by omega)⟩
  case round =>
    obtain ⟨k, hk, rfl, hall⟩ := hrel
    by_cases hlt : k < s.size
    · obtain ⟨x, hx, hsk⟩ := str_at (s := s) (i := k) hlt
      have hxl := x.toNat_lt
      have HX := Lib.hid (And.intro hx hall)
      clear hx hall
      by_cases hsg : sign x
      · have HS := Lib.hid hsg
        unfold sign at hsg
        obtain ⟨d1, d2, d3, d4⟩ := hsg
        have e1 : ((x.toNat : Int) == 46) = false := by rw [beq_eq_false_iff_ne]; omega
        rcases (show ¬ 65 ≤ x.toNat ∨ (65 ≤ x.toNat ∧ ¬ x.toNat ≤ 90) by omega) with d5 | ⟨d5, d6⟩
        all_goals
          clear d3 d4
          go_wp2_with fail
          go_round
          case rel =>
            refine ⟨k + 1, hlt, by go_num, fun j y hj hy => ?_⟩
            by_cases hjk : j = k
            · subst hjk
              rw [HX.out.1] at hy
              obtain rfl := Option.some.inj hy
              exact HS.out
            · exact HX.out.2 j y (by omega) hy
          case measure => simp [intOf]; omega
      · have hno : decide (labOk s.data.toList) = false := decide_eq_false (fun h => hsg (h.1 x (List.mem_of_getElem? HX.out.1)))
        have HN := Lib.hid hno
        unfold sign at hsg
        rcases (show x.toNat < 33 ∨ (¬ x.toNat < 33 ∧ 126 < x.toNat) ∨ (¬ x.toNat < 33 ∧ ¬ 126 < x.toNat ∧ x.toNat = 46) ∨ (¬ x.toNat < 33 ∧ ¬ 126 < x.toNat ∧ x.toNat ≠ 46 ∧ 65 ≤ x.toNat ∧ x.toNat ≤ 90) by omega) with d1 | ⟨d1, d2⟩ | ⟨d1, d2, d3⟩ | ⟨d1, d2, d3, d4, d5⟩
        all_goals
          clear hsg hno
          go_wp2_with fail
          go_ret
          rw [HN.out]
          exact ⟨rfl, rfl⟩
    · obtain rfl : k = s.size := by omega
      have e1 : decide (labOk s.data.toList) = (decide (1 ≤ (s.size : Int)) && decide ((s.size : Int) ≤ 63)) := by
        rw [Bool.eq_iff_iff, decide_eq_true_iff, Bool.and_eq_true, decide_eq_true_iff, decide_eq_true_iff]
        unfold labOk
        rw [HL.out]
        constructor
        · rintro ⟨_, h2, h3⟩; omega
        · rintro ⟨h2, h3⟩
          refine ⟨fun c hc => ?_, by omega, by omega⟩
          obtain ⟨j, hj⟩ := List.mem_iff_getElem?.1 hc
          exact hall j c (by have := (List.getElem?_eq_some_iff.1 hj).1; rw [HL.out] at this; exact this) hj
      have E1 := Lib.hid e1
      clear hall e1
      by_cases h1 : 1 ≤ s.size
      · go_wp2_with fail
        go_ret
        refine ⟨?_, rfl⟩
        rw [E1.out, decide_eq_true (show (1 : Int) ≤ (s.size : Int) by omega), Bool.true_and]
        rfl
      · go_wp2_with fail
        go_ret
        refine ⟨?_, rfl⟩
        rw [E1.out, decide_eq_false (show ¬ (1 : Int) ≤ (s.size : Int) by omega), Bool.false_and]
        rfl

theorem ref_labels (s : ByteArray) (hs : s.size ≤ 2000) (w : World) : Calls Tryz.prog 54 #[.string s] w fun e w' =>
    ∃ A n c, e = .returned (.slice A n c) ∧ Gs w' A n c (sv (mkSs (labsN s.data.toList))) ∧ Below w.heap.size w w' := by
  by_cases h0 : s.size = 0
  · obtain rfl := str_empty h0
    clear h0
    go_enter Tryz.func54, Tryz.ntmps54
    go_wp2_with fail
    go_ret
    exact ⟨none, 0, 0, rfl, Gs.nil _, Below.refl _ _⟩
  · have e0 : s.toList.isEmpty = false := by
      rw [← decide_eq_emptyBytes]
      exact decide_eq_false (fun h => h0 (by rw [h]; rfl))
    have hl : labsN s.data.toList = spl 46 s.data.toList := by
      unfold labsN
      rw [if_neg]
      intro h
      exact h0 (by rw [Lib.size_eq, h]; rfl)
    rw [hl]
    have K := Lib.hid (refSplit_any s hs 46 w)
    clear hl h0
    go_enter Tryz.func54, Tryz.ntmps54
    go_wp2_with fail
    refine K.out.mono ?_
    rintro e w' ⟨v, xs, rfl, o1, hx, b1⟩
    obtain ⟨A, c, rfl, hG⟩ := Gs.of_own o1
    have hxs : xs = mkSs (spl 46 s.data.toList) := by rw [← hx, mk_bts]
    subst hxs
    have H1 := Lib.hid (And.intro hG b1)
    clear o1 hx b1 hG
    go_wp2_with fail
    go_ret
    exact ⟨_, _, _, rfl, H1.out.1, H1.out.2⟩

theorem sizeL_take_next {ls : List (List UInt8)} {k : Nat} {x : List UInt8} (h : ls[k]? = some x) : sizeL (ls.take (k + 1)) = sizeL (ls.take k) + (1 + x.length) := by
  rw [List.take_add_one, h]
  exact sizeL_one _ x
theorem sizeL_take_le (ls : List (List UInt8)) (k : Nat) : sizeL (ls.take k) ≤ sizeL ls := by
  have h1 := sizeL_append (ls.take k) (ls.drop k)
  rw [List.take_append_drop] at h1
  omega
theorem labs_size (l : List UInt8) : sizeL (labsN l) ≤ l.length + 1 := by
  by_cases h : l = []
  · rw [h]; decide
  · rw [sizeL_labsN h]; exact Nat.le_refl _
set_option maxHeartbeats 1000000 in
theorem ref_right (s : ByteArray) (hs : s.size ≤ 2000) (w : World) : Calls Tryz.prog 53 #[.string s] w fun e w' => e = .returned (.bool (decide (rightN s.data.toList))) ∧ Below w.heap.size w w' := by
  have K := Lib.hid (ref_labels s hs w)
  have hsl := labs_size s.data.toList
  rw [(Lib.size_eq s).symm] at hsl
  obtain ⟨dd, hdd⟩ : ∃ dd, decide (rightN s.data.toList) = dd := ⟨_, rfl⟩
  rw [hdd]
  have hiff : dd = true ↔ (∀ x ∈ labsN s.data.toList, labOk x) ∧ 1 + sizeL (labsN s.data.toList) ≤ 255 := by rw [← hdd, decide_eq_true_iff]; exact Iff.rfl
  clear hdd
  obtain ⟨ls, hls⟩ : ∃ ls, labsN s.data.toList = ls := ⟨_, rfl⟩
  rw [hls] at K hsl hiff
  have HD := Lib.hid hiff
  clear hiff
  have hge := sizeL_ge ls
  clear hls
  go_enter Tryz.func53, Tryz.ntmps53
  go_wp2_with fail
  refine K.out.mono ?_
  rintro e w1 ⟨A, n, c, rfl, hG, b1⟩
  have hn : n = ls.length := by have := hG.len; unfold sv mkSs at this; rw [List.length_map, List.length_map] at this; exact this.symm
  subst hn
  have hcap := hG.cap
  have hmax := hG.max
  unfold maxLen at hmax
  have H1 := Lib.hid (And.intro hG b1)
  clear hG b1
  go_wp2_with fail
  go_loop [4, 5] (fun n i => ∃ k : Nat, k ≤ ls.length ∧ i = .int .i64 k ∧ n = .int .i64 (1 + (sizeL (ls.take k) : Nat) : Int) ∧ ∀ (j : Nat) x, j < k → ls[j]? = some x → labOk x) (fun _ i => ls.length - (intOf i).toNat)
  case atStart => exact ⟨0, Nat.zero_le _, rfl, rfl, fun j x h => absurd h (by omega)⟩
  case round =>
    obtain ⟨k, hk, rfl, rfl, hall⟩ := hrel
    have hst := sizeL_take_le ls k
    by_cases hlt : k < ls.length
    · obtain ⟨x, hxk⟩ : ∃ x, ls[k]? = some x := ⟨ls[k]'hlt, List.getElem?_eq_getElem _⟩
      obtain ⟨b, o, rfl, h1⟩ := H1.out.1.get (k := k) (x := .string (mkS x)) (by unfold sv mkSs; rw [List.map_map, List.getElem?_map, hxk]; rfl)
      have hxl := mem_sizeL ls x (List.mem_of_getElem? hxk)
      have hxs : (mkS x).size = x.length := mkS_size x
      have KL := Lib.hid (ref_label (mkS x) (by rw [hxs]; omega) w1)
      rw [mkS_data] at KL
      have HX := Lib.hid (And.intro hxk (And.intro hall (sizeL_take_next hxk)))
      clear hall hxk
      by_cases hok : labOk x
      · rw [decide_eq_true hok] at KL
        have HO := Lib.hid hok
        clear hok
        go_wp2_with fail
        refine KL.out.mono ?_
        rintro e w' ⟨rfl, rfl⟩
        go_wp2_with fail
        go_round
        case rel =>
          refine ⟨k + 1, hlt, by go_num, by rw [HX.out.2.2]; push_cast; congr 1; omega, fun j y hj hy => ?_⟩
          by_cases hjk : j = k
          · subst hjk
            rw [HX.out.1] at hy
            obtain rfl := Option.some.inj hy
            exact HO.out
          · exact HX.out.2.1 j y (by omega) hy
        case measure => simp [intOf]; omega
      · rw [decide_eq_false hok] at KL
        have hno : dd = false := by
          cases hd : dd with
          | true => exact absurd ((HD.out.1 hd).1 x (List.mem_of_getElem? HX.out.1)) hok
          | false => rfl
        have HN := Lib.hid hno
        clear hok hno
        go_wp2_with fail
        refine KL.out.mono ?_
        rintro e w' ⟨rfl, rfl⟩
        go_wp2_with fail
        go_ret
        exact ⟨by rw [HN.out]; rfl, H1.out.2⟩
    · obtain rfl : k = ls.length := by omega
      rw [List.take_of_length_le (Nat.le_refl _)]
      have e1 : dd = decide ((1 : Int) + (sizeL ls : Int) ≤ 255) := by
        rw [Bool.eq_iff_iff, decide_eq_true_iff, HD.out]
        constructor
        · rintro ⟨_, h⟩; omega
        · intro h
          refine ⟨fun x hx => ?_, by omega⟩
          obtain ⟨j, hj⟩ := List.mem_iff_getElem?.1 hx
          exact hall j x (List.getElem?_eq_some_iff.1 hj).1 hj
      have E1 := Lib.hid e1
      clear hall e1
      go_wp2_with fail
      go_ret
      exact ⟨by rw [E1.out]; rfl, H1.out.2⟩

set_option maxHeartbeats 1000000 in
theorem ref_lower {A : Option Addr} {n c : Nat} {l : List UInt8} {w : World} (hb : Bs w A n c l) (hn : n ≤ 1000000) : Calls Tryz.prog 95 #[.slice A n c] w fun e w' => e = .returned (.string (mkS (lowL l))) ∧ Below w.heap.size w w' := by
  have hcap := hb.cap
  have hmax := hb.max
  unfold maxLen at hmax
  have HB := Lib.hid hb
  have HL := Lib.hid hb.len
  clear hb
  go_enter Tryz.func95, Tryz.ntmps95
  go_wp2_with fail
  go_loopw [3, 4] (fun v i wr => ∃ k : Nat, k ≤ n ∧ i = .int .i64 k ∧ wr.ownsRow w.heap.size 5 1 v k (bv (lowL (l.take k))) ∧ Below w.heap.size w wr) (fun _ i _ => n - (intOf i).toNat)
  case atStart => exact ⟨0, Nat.zero_le _, rfl, World.ownsRow_nil _ _ _ _, Below.refl _ _⟩
  case round =>
    obtain ⟨k, hk, rfl, ho, hbe⟩ := hrel
    by_cases hlt : k < n
    · obtain ⟨x, hx⟩ : ∃ x, l[k]? = some x := ⟨l[k]'(by rw [HL.out]; exact hlt), List.getElem?_eq_getElem _⟩
      obtain ⟨b, off, rfl, hc⟩ := (HB.out.later hbe (Nat.le_refl _)).here (by omega)
      have hcx := hc k x hx
      have hnext : lowL (l.take (k + 1)) = lowL (l.take k) ++ [lowB x] := by
        rw [List.take_add_one, hx]
        unfold lowL
        simp
      have HO := Lib.hid (And.intro ho (And.intro hbe hnext))
      have hxl := x.toNat_lt
      clear hc ho hbe hnext hx
      by_cases h65 : 65 ≤ x.toNat
      · by_cases h90 : x.toNat ≤ 90
        · have hlo : ((lowB x).toNat : Int) = (x.toNat : Int) + 32 := by
            rw [(lowB_cap ⟨h65, h90⟩).1, UInt8.toNat_add]
            show (((x.toNat + 32) % 256 : Nat) : Int) = _
            omega
          have HLO := Lib.hid hlo
          clear hlo
          go_wp2_with (at_builtin; refine wpList_append_bs rfl (.tmp 24) (.tmp 26) 22 rfl w.heap.size 5 info5 Tryz.underlying22 _ k (lowL (l.take k)) rfl (HO.out.1.alloc _) _ 1 1 [lowB x] rfl (by exact Bs.lit _ [lowB x] 1 rfl (by unfold maxLen; omega) _ (by simp [bv, HLO.out]) _) (by omega) (by have := HO.out.2.1.size; simp; omega) ?_; intro v3 w3 o3 g3 n3 m3; have H3 := Lib.hid (And.intro o3 g3); clear o3 g3 n3 m3)
          have hb3 : Below w.heap.size w w3 := (HO.out.2.1.alloc HO.out.2.1.size _).grown H3.out.2 (by have := HO.out.2.1.size; simp; omega) (fun q hq => (HO.out.1.lt q hq).1)
          refine ⟨⟨k + 1, hlt, by go_num, by rw [HO.out.2.2]; exact H3.out.1, hb3⟩, by simp [intOf]; omega⟩
        · have hlo : lowB x = x := lowB_not (by omega)
          have HLO := Lib.hid hlo
          clear hlo
          go_wp2_with (at_builtin; refine wpList_append_bs rfl (.tmp 24) (.tmp 26) 22 rfl w.heap.size 5 info5 Tryz.underlying22 _ k (lowL (l.take k)) rfl (HO.out.1.alloc _) _ 1 1 [x] rfl (by exact Bs.lit _ [x] 1 rfl (by unfold maxLen; omega) _ rfl _) (by omega) (by have := HO.out.2.1.size; simp; omega) ?_; intro v3 w3 o3 g3 n3 m3; have H3 := Lib.hid (And.intro o3 g3); clear o3 g3 n3 m3)
          have hb3 : Below w.heap.size w w3 := (HO.out.2.1.alloc HO.out.2.1.size _).grown H3.out.2 (by have := HO.out.2.1.size; simp; omega) (fun q hq => (HO.out.1.lt q hq).1)
          refine ⟨⟨k + 1, hlt, by go_num, by rw [HO.out.2.2, HLO.out]; exact H3.out.1, hb3⟩, by simp [intOf]; omega⟩
      · have hlo : lowB x = x := lowB_not (by omega)
        have HLO := Lib.hid hlo
        clear hlo
        go_wp2_with (at_builtin; refine wpList_append_bs rfl (.tmp 24) (.tmp 26) 22 rfl w.heap.size 5 info5 Tryz.underlying22 _ k (lowL (l.take k)) rfl (HO.out.1.alloc _) _ 1 1 [x] rfl (by exact Bs.lit _ [x] 1 rfl (by unfold maxLen; omega) _ rfl _) (by omega) (by have := HO.out.2.1.size; simp; omega) ?_; intro v3 w3 o3 g3 n3 m3; have H3 := Lib.hid (And.intro o3 g3); clear o3 g3 n3 m3)
        have hb3 : Below w.heap.size w w3 := (HO.out.2.1.alloc HO.out.2.1.size _).grown H3.out.2 (by have := HO.out.2.1.size; simp; omega) (fun q hq => (HO.out.1.lt q hq).1)
        refine ⟨⟨k + 1, hlt, by go_num, by rw [HO.out.2.2, HLO.out]; exact H3.out.1, hb3⟩, by simp [intOf]; omega⟩
    · obtain rfl : k = n := by omega
      obtain ⟨A', c', rfl, hB⟩ := Bs.of_own ho
      rw [List.take_of_length_le (by rw [HL.out]; exact Nat.le_refl _)] at hB
      have hcv := hB.convert (P := Tryz.prog) 22 5 9 Tryz.underlying22 Tryz.underlying5 Tryz.underlying9
      have HW := Lib.hid hbe
      clear ho hbe hB
      go_wp2_with fail
      go_ret
      exact ⟨rfl, HW.out⟩

end Go.Proofs.YtepenemhidhdpaaGreatDoor
