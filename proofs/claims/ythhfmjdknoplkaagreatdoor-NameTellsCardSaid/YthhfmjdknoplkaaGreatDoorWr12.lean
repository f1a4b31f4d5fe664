/-
  Package name's Write, Under; strings.HasSuffix. Conditions: a million bytes at most; what the program's text has laid (internal/bytealg.MaxLen holds an int).
-/
import Derived.Test.YthhfmjdknoplkaaGreatDoorRead12
import Derived.Lib.AppendStr
namespace Go.Proofs.YthhfmjdknoplkaaGreatDoor
open Go.RowKit
set_option maxRecDepth 100000

theorem strCells_bv (s : ByteArray) : Lib.strCells s = bv s.data.toList := rfl
theorem wireL_snoc (ls : List (List UInt8)) (x : List UInt8) : wireL (ls ++ [x]) = wireL ls ++ [UInt8.ofNat x.length] ++ x := by
  rw [wireL_append]
  simp [wireL]
set_option maxHeartbeats 2000000 in
theorem write_any (s : ByteArray) (hs : s.size ≤ 1000000) {w : World} (hE : Env w) : Calls Tryz.prog 8 #[.string s] w fun e w' =>
    ∃ A c v, e = .returned (.tuple #[.slice A (writev s.data.toList).length c, v]) ∧ w'.ownsRow w.heap.size 5 1 (.slice A (writev s.data.toList).length c) (writev s.data.toList).length (bv (writev s.data.toList)) ∧ Tells w' v (writee s.data.toList) ∧ Below w.heap.size w w' := by
  have KR := Lib.hid (right_any s hs hE)
  unfold writev writee
  by_cases hr : rightN s.data.toList
  · rw [decide_eq_true hr] at KR
    rw [if_pos hr, if_pos hr]
    unfold writeB
    have KL := Lib.hid (fun w1 (hb : Below w.heap.size w w1) => labels_any s hs (hE.later hb (Nat.le_refl _)))
    obtain ⟨ls, hls⟩ : ∃ ls, labsN s.data.toList = ls := ⟨_, rfl⟩
    unfold rightN at hr
    rw [hls] at hr KL ⊢
    obtain ⟨hr1, hr2⟩ := hr
    have hge := sizeL_ge ls
    have HR := Lib.hid hr1
    have HZ := Lib.hid (And.intro hr2 hge)
    obtain ⟨i0, hi, hz0, hz1, hz2⟩ := info_parts info5
    have HI := Lib.hid (And.intro hi (And.intro hz0 (And.intro hz1 hz2)))
    clear hr1 hls hE hi hz0 hz1 hz2 hr2 hge
    go_enter Tryz.func8, Tryz.ntmps8
    go_wp2_with fail
    refine KR.out.mono ?_
    rintro e w1 ⟨rfl, b1⟩
    have H1 := Lib.hid b1
    clear b1
    go_wp2_with fail
    refine (KL.out w1 H1.out).mono ?_
    rintro e w2 ⟨A, n, c, rfl, hG, b2⟩
    have hn : n = ls.length := by have := hG.len; unfold sv mkSs at this; rw [List.length_map, List.length_map] at this; exact this.symm
    subst hn
    have hcap := hG.cap
    have hmax := hG.max
    unfold maxLen at hmax
    have H2 := Lib.hid (And.intro hG (H1.out.trans (b2.mono H1.out.size)))
    clear hG b2
    go_wp2_with fail
    go_loopw [4, 14] (fun b i wr => ∃ k : Nat, k ≤ ls.length ∧ i = .int .i64 k ∧ wr.ownsRow w2.heap.size 5 1 b (wireL (ls.take k)).length (bv (wireL (ls.take k))) ∧ Below w2.heap.size w2 wr) (fun _ i _ => ls.length - (intOf i).toNat)
    case atStart => exact ⟨0, Nat.zero_le _, rfl, World.ownsRow_nil _ _ _ _, Below.refl _ _⟩
    case round =>
      obtain ⟨k, hk, rfl, ho, hbe⟩ := hrel
      have hwl : (wireL (ls.take k)).length ≤ 255 := by
        have h1 := sizeL_append (ls.take k) (ls.drop k)
        rw [List.take_append_drop] at h1
        rw [wireL_length]
        have := HZ.out.1
        omega
      by_cases hlt : k < ls.length
      · obtain ⟨x, hxk⟩ : ∃ x, ls[k]? = some x := ⟨ls[k]'hlt, List.getElem?_eq_getElem _⟩
        obtain ⟨b, o, rfl, h1⟩ := (H2.out.1.later hbe (Nat.le_refl _)).get (k := k) (x := .string (mkS x)) (by unfold sv mkSs; rw [List.map_map, List.getElem?_map, hxk]; rfl)
        have hxo := HR.out x (List.mem_of_getElem? hxk)
        have hx63 := hxo.2.2
        have hxs : (mkS x).size = x.length := mkS_size x
        have hsn : wireL (ls.take (k + 1)) = wireL (ls.take k) ++ [UInt8.ofNat x.length] ++ x := by rw [List.take_add_one, hxk]; exact wireL_snoc _ _
        have HS := Lib.hid hsn
        have HO := Lib.hid (And.intro ho hbe)
        clear ho hbe hxo hsn hxk
        generalize hwk : wireL (ls.take k) = wk at HO HS hwl
        clear hwk
        go_wp2_with (first
          | (at_builtin; refine wpList_append_bs rfl (.tmp 18) (.tmp 22) 22 rfl w2.heap.size 5 info5 Tryz.underlying22 _ wk.length wk rfl (HO.out.1.alloc _) _ 1 1 [UInt8.ofNat x.length] rfl (by exact Bs.lit _ [UInt8.ofNat x.length] 1 rfl (by unfold maxLen; omega) _ (by simp [bv] <;> omega) _) (by omega) (by have := HO.out.2.size; simp; omega) ?_; intro v3 w3 o3 g3 n3 m3; have H3 := Lib.hid (And.intro o3 g3); clear o3 g3 n3 m3)
          | (at_builtin; refine Lib.wpList_append_own_string _ rfl (.tmp 24) (.tmp 25) 22 9 rfl w2.heap.size 5 i0 Tryz.underlying22 Tryz.underlying9 HI.out.1 HI.out.2.1 HI.out.2.2.1 HI.out.2.2.2 _ _ _ rfl H3.out.1 (mkS x) rfl (by unfold maxLen; simp only [hxs]; omega) (by simp only [hxs]; omega) (by have := HO.out.2.size; have := H3.out.2.size; simp at this; omega) ?_; intro v4 w4 o4 g4 _; have H4 := Lib.hid (And.intro o4 g4); clear o4 g4))
        have hb3 : Below w2.heap.size w2 w3 := (HO.out.2.alloc HO.out.2.size _).grown H3.out.2 (by have := HO.out.2.size; simp; omega) (fun q hq => (HO.out.1.lt q hq).1)
        have hb4 : Below w2.heap.size w2 w4 := hb3.grown H4.out.2 hb3.size (fun q hq => (H3.out.1.lt q hq).1)
        refine ⟨⟨k + 1, hlt, by go_num, ?_, hb4⟩, by simp [intOf]; omega⟩
        have o4 := H4.out.1
        rw [strCells_bv, mkS_data, ← bv_append, hxs] at o4
        rw [HS.out]
        exact owns_n (by simp; omega) o4
      · obtain rfl : k = ls.length := by omega
        rw [List.take_of_length_le (Nat.le_refl _)] at ho hwl
        have HO := Lib.hid (And.intro ho hbe)
        clear ho hbe
        go_wp2_with (at_builtin; refine wpList_append_bs rfl (.tmp 28) (.tmp 29) 22 rfl w2.heap.size 5 info5 Tryz.underlying22 _ _ (wireL ls) rfl (HO.out.1.alloc _) _ 1 1 [0] rfl (by exact Bs.lit _ [0] 1 rfl (by unfold maxLen; omega) _ rfl _) (by omega) (by have := HO.out.2.size; simp; omega) ?_; intro v3 w3 o3 g3 n3 m3; have H3 := Lib.hid (And.intro o3 g3); clear o3 g3 n3 m3)
        have hb3 : Below w2.heap.size w2 w3 := (HO.out.2.alloc HO.out.2.size _).grown H3.out.2 (by have := HO.out.2.size; simp; omega) (fun q hq => (HO.out.1.lt q hq).1)
        have o3 : w3.ownsRow w2.heap.size 5 1 v3 (wireL ls ++ [0]).length (bv (wireL ls ++ [0])) := owns_n (by simp) H3.out.1
        obtain ⟨A', c', rfl, _⟩ := Bs.of_own o3
        have H4 := Lib.hid (And.intro (owns_base o3 H2.out.2.size) (H2.out.2.trans (hb3.mono H2.out.2.size)))
        clear o3 hb3
        go_ret2
        exact ⟨_, _, _, rfl, H4.out.1, Tells.nil _ _ _, H4.out.2⟩
  · rw [decide_eq_false hr] at KR
    rw [if_neg hr, if_neg hr]
    clear hr hE
    go_enter Tryz.func8, Tryz.ntmps8
    go_wp2_with fail
    refine KR.out.mono ?_
    rintro e w1 ⟨rfl, b1⟩
    have H1 := Lib.hid b1
    clear b1
    go_wp2_with fail
    go_ret2
    exact ⟨none, 0, _, rfl, World.ownsRow_nil _ _ _ _, Tells.bare _ 13 (by decide) 0, H1.out⟩

/-- Does a text end so? -/
theorem suffix_any (s p : ByteArray) (hs : s.size ≤ 2000000) (w : World) : Calls Tryz.prog 56 #[.string s, .string p] w fun e w' => e = .returned (.bool (decide (p.size ≤ s.size ∧ s.data.toList.drop (s.size - p.size) = p.data.toList))) ∧ w = w' := by
  by_cases h : p.size ≤ s.size
  · have hd : (s.extract (s.size - p.size) s.size).data.toList = s.data.toList.drop (s.size - p.size) := by
      rw [cut_piece, List.take_of_length_le (by rw [List.length_drop, ← Lib.size_eq]; omega)]
    go_enter Tryz.func56, Tryz.ntmps56
    go_wp2_with fail
    go_ret
    refine ⟨?_, rfl⟩
    show Ending.returned (Value.bool ((s.extract (s.size - p.size) s.size).toList == p.toList)) = _
    rw [Lib.toList_data, Lib.toList_data, hd]
    congr 2
    rw [Bool.eq_iff_iff, beq_iff_eq, decide_eq_true_iff]
    exact ⟨fun h' => ⟨h, h'⟩, fun h' => h'.2⟩
  · rw [decide_eq_false (fun h' => h h'.1)]
    go_enter Tryz.func56, Tryz.ntmps56
    go_wp2_with fail
    go_ret
    exact ⟨rfl, rfl⟩
theorem hasSuffix_any (s p : ByteArray) (hs : s.size ≤ 2000000) (w : World) : Calls Tryz.prog 37 #[.string s, .string p] w fun e w' => e = .returned (.bool (decide (p.size ≤ s.size ∧ s.data.toList.drop (s.size - p.size) = p.data.toList))) ∧ w = w' := by
  have K := Lib.hid (suffix_any s p hs w)
  generalize decide (p.size ≤ s.size ∧ s.data.toList.drop (s.size - p.size) = p.data.toList) = d at K ⊢
  go_enter Tryz.func37, Tryz.ntmps37
  go_wp2_with fail
  refine K.out.mono ?_
  rintro e w' ⟨rfl, rfl⟩
  go_wp2_with fail
  go_ret
  exact ⟨rfl, rfl⟩
theorem mkS_append (a b : List UInt8) : mkS a ++ mkS b = mkS (a ++ b) := by
  apply ByteArray.ext
  simp [mkS]
theorem drop_dot {a z : List UInt8} (h : z.length < a.length) : a.drop (a.length - (z.length + 1)) = 46 :: z ↔ a.drop (a.length - z.length) = z ∧ a[a.length - z.length - 1]? = some 46 := by
  obtain ⟨k, hk⟩ : ∃ k, a.length = z.length + 1 + k := ⟨a.length - z.length - 1, by omega⟩
  rw [show a.length - (z.length + 1) = k by omega, show a.length - z.length = k + 1 by omega, show k + 1 - 1 = k by omega]
  have hlt : k < a.length := by omega
  rw [List.drop_eq_getElem_cons hlt, List.getElem?_eq_getElem hlt, List.cons.injEq, Option.some.injEq]
  exact And.comm
/-- A name under a zone. -/
theorem under_iff (a z : List UInt8) : underN a z ↔ z = [] ∨ a = z ∨ (z.length + 1 ≤ a.length ∧ a.drop (a.length - (z.length + 1)) = 46 :: z) := by
  unfold underN
  constructor
  · rintro (h | h | ⟨h1, h2, h3⟩)
    · exact .inl h
    · exact .inr (.inl h)
    · exact .inr (.inr ⟨h1, (drop_dot h1).2 ⟨h2, h3⟩⟩)
  · rintro (h | h | ⟨h1, h2⟩)
    · exact .inl h
    · exact .inr (.inl h)
    · exact .inr (.inr ⟨h1, ((drop_dot h1).1 h2).1, ((drop_dot h1).1 h2).2⟩)
set_option maxHeartbeats 1000000 in
theorem under_any (a z : List UInt8) (ha : a.length ≤ 2000000) (hzl : z.length ≤ 1000000) (w : World) : Calls Tryz.prog 17 #[.string (mkS a), .string (mkS z)] w fun e w' => e = .returned (.bool (decide (underN a z))) ∧ w = w' := by
  have hz : (mkS z).toList.isEmpty = decide (z = []) := by
    rw [Lib.toList_data, mkS_data]
    cases z <;> rfl
  have haz : ((mkS a).toList == (mkS z).toList) = decide (a = z) := by
    rw [Lib.toList_data, Lib.toList_data, mkS_data, mkS_data]
    rw [Bool.eq_iff_iff, beq_iff_eq, decide_eq_true_iff]
  have hzs : (mkS z).size ≤ 1000000 := by rw [mkS_size]; exact hzl
  have K := hasSuffix_any (mkS a) (mkS (46 :: z)) (by rw [mkS_size]; exact ha) w
  rw [mkS_data, mkS_data, mkS_size, mkS_size, List.length_cons] at K
  have hcat : (⟨#[46]⟩ : ByteArray) ++ mkS z = mkS (46 :: z) := mkS_append [46] z
  have hu : decide (underN a z) = (decide (z = []) || decide (a = z) || decide (z.length + 1 ≤ a.length ∧ a.drop (a.length - (z.length + 1)) = 46 :: z)) := by
    rw [Bool.eq_iff_iff, decide_eq_true_iff, under_iff]
    simp [or_assoc]
  rw [hu]
  generalize decide (z.length + 1 ≤ a.length ∧ a.drop (a.length - (z.length + 1)) = 46 :: z) = d3 at K ⊢
  generalize decide (a = z) = d2 at haz ⊢
  generalize decide (z = []) = d1 at hz ⊢
  have HK := Lib.hid K
  clear K hu
  cases d1 with
  | true =>
    go_enter Tryz.func17, Tryz.ntmps17
    go_wp2_with fail
    go_ret
    exact ⟨rfl, rfl⟩
  | false =>
    cases d2 with
    | true =>
      go_enter Tryz.func17, Tryz.ntmps17
      go_wp2_with fail
      go_ret
      exact ⟨rfl, rfl⟩
    | false =>
      go_enter Tryz.func17, Tryz.ntmps17
      go_wp2_with fail
      refine HK.out.mono ?_
      rintro e w' ⟨rfl, rfl⟩
      go_wp2_with fail
      go_ret
      exact ⟨rfl, rfl⟩
end Go.Proofs.YthhfmjdknoplkaaGreatDoor
