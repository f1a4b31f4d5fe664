/-
  stockadelaw07.kinds: kinds of heads, of numbers. Conditions: those of the slice.
-/
import Derived.Test.YtceigepclemdmaaDoorAwake07
namespace Go.Proofs.YtceigepclemdmaaDoor
open Go.RowKit
set_option maxRecDepth 100000

/-- A kind, of a number, at a place. -/
def kz (z : Int) (i : Nat) : Int :=
  let k := ([0, 43, 60, 44] : List Int).getD (wrap64 ((IntKind.u64.wrap z).tmod 4)).toNat 0
  if k = 0 ∧ 0 < i then 60 else k
def kindsv (zs : List Int) : List Int := (zs.take 8).mapIdx fun i z => kz z i
theorem kindsv_length (zs : List Int) : (kindsv zs).length = min 8 zs.length := by simp [kindsv]
theorem kindsv_get {zs : List Int} {i : Nat} {z : Int} (h8 : i < 8) (h : zs[i]? = some z) : (kindsv zs)[i]? = some (kz z i) := by
  unfold kindsv
  rw [List.getElem?_mapIdx, List.getElem?_take, if_pos h8, h]
  rfl
theorem kz_four (z : Int) : ∃ q : Nat, q < 4 ∧ wrap64 ((IntKind.u64.wrap z).tmod 4) = q := by
  obtain ⟨h0, h1⟩ := num_mod7 z 4 (by omega) (by omega)
  exact ⟨(wrap64 ((IntKind.u64.wrap z).tmod 4)).toNat, by omega, by omega⟩
theorem kz_may (z : Int) (i : Nat) : ext (kz z i) ∧ (kz z i = 0 → i = 0) := by
  obtain ⟨q, hq, e⟩ := kz_four z
  unfold kz
  rw [e, Int.toNat_natCast]
  rcases (show q = 0 ∨ q = 1 ∨ q = 2 ∨ q = 3 by omega) with rfl | rfl | rfl | rfl
  · by_cases hi : 0 < i
    · exact ⟨by rw [show (([0, 43, 60, 44] : List Int).getD 0 0) = 0 from rfl, if_pos ⟨rfl, hi⟩]; decide, fun h => by rw [show (([0, 43, 60, 44] : List Int).getD 0 0) = 0 from rfl, if_pos ⟨rfl, hi⟩] at h; cases h⟩
    · exact ⟨by rw [show (([0, 43, 60, 44] : List Int).getD 0 0) = 0 from rfl, if_neg (fun h => hi h.2)]; decide, fun _ => by omega⟩
  · exact ⟨by rw [show (([0, 43, 60, 44] : List Int).getD 1 0) = 43 from rfl, if_neg (by omega)]; decide, fun h => by rw [show (([0, 43, 60, 44] : List Int).getD 1 0) = 43 from rfl, if_neg (by omega)] at h; cases h⟩
  · exact ⟨by rw [show (([0, 43, 60, 44] : List Int).getD 2 0) = 60 from rfl, if_neg (by omega)]; decide, fun h => by rw [show (([0, 43, 60, 44] : List Int).getD 2 0) = 60 from rfl, if_neg (by omega)] at h; cases h⟩
  · exact ⟨by rw [show (([0, 43, 60, 44] : List Int).getD 3 0) = 44 from rfl, if_neg (by omega)]; decide, fun h => by rw [show (([0, 43, 60, 44] : List Int).getD 3 0) = 44 from rfl, if_neg (by omega)] at h; cases h⟩
theorem kindsv_may (zs : List Int) : ∀ (i : Nat) (k : Int), (kindsv zs)[i]? = some k → ext k ∧ (k = 0 → i = 0) := fun i k h => by
  unfold kindsv at h
  rw [List.getElem?_mapIdx] at h
  cases hz : (zs.take 8)[i]? with
  | none => rw [hz] at h; cases h
  | some z =>
    rw [hz] at h
    obtain rfl := Option.some.inj h
    exact kz_may z i

theorem Gs.lit_at (w : World) (g : Nat) (hg : w.heap.size = g) (vs : List Value) (m : Nat) (hm : vs.length = m) (hmm : m ≤ maxLen) (cs : Array Value) (hcs : cs.toList = vs) (T : TypeId) : Gs (w.alloc (.cells cs T)) (some ⟨g, 0, none⟩) m m vs := by
  subst hg
  exact Gs.lit w vs m hm hmm cs hcs T

set_option maxHeartbeats 4000000 in
theorem kinds_any {B : Option Addr} {m d : Nat} {zs : List Int} {w : World} (hz : Gs w B m d (zv zs)) : Calls Tryd.prog 13 #[.slice B m d] w fun e w' =>
    ∃ A' c', e = .returned (.slice A' (kindsv zs).length c') ∧ Gs w' A' (kindsv zs).length c' (zv (kindsv zs)) ∧ w'.ownsRow w.heap.size 3 1 (.slice A' (kindsv zs).length c') (kindsv zs).length (zv (kindsv zs)) ∧ Below w.heap.size w w' := by
  have hm2 := Nat.le_trans hz.cap hz.max
  have hzl : zs.length = m := by rw [← zv_length]; exact hz.len
  unfold maxLen at hm2
  have HZ := Lib.hid hz
  have HL := Lib.hid hzl
  clear hz hzl
  go_enter Tryd.func13, Tryd.ntmps13
  go_wp2_with fail
  go_loopw [3, 4] (fun h i wr => ∃ j : Nat, j ≤ m ∧ j ≤ 8 ∧ i = .int .i64 j ∧ wr.ownsRow w.heap.size 3 1 h j (zv ((kindsv zs).take j)) ∧ Below w.heap.size w wr) (fun _ i _ => 8 - (intOf i).toNat)
  case atStart => exact ⟨0, Nat.zero_le _, by omega, rfl, World.ownsRow_nil _ _ _ _, Below.refl _ _⟩
  case round =>
    obtain ⟨j, hj, hj8, rfl, ho, hb⟩ := hrel
    by_cases hend : j = m ∨ j = 8
    · have hlen : (kindsv zs).length = j := by rw [kindsv_length, HL.out]; omega
      rw [List.take_of_length_le (by rw [hlen]; exact Nat.le_refl _)] at ho
      obtain ⟨A1, c1, rfl, hG⟩ := Gs.of_own ho
      have HE := Lib.hid (show ∃ A' c', Ending.returned (.slice A1 j c1) = .returned (.slice A' (kindsv zs).length c') ∧ Gs wr A' (kindsv zs).length c' (zv (kindsv zs)) ∧ wr.ownsRow w.heap.size 3 1 (.slice A' (kindsv zs).length c') (kindsv zs).length (zv (kindsv zs)) ∧ Below w.heap.size w wr from by rw [hlen]; exact ⟨A1, c1, rfl, hG, ho, hb⟩)
      clear ho hG hb hlen
      rcases hend with rfl | rfl
      · go_wp2_with fail
        go_ret
        exact HE.out
      · by_cases h8 : m = 8
        · subst h8
          go_wp2_with fail
          go_ret
          exact HE.out
        · have h9 : 8 < m := by omega
          go_wp2_with fail
          go_ret
          exact HE.out
    · have hlt : j < m := by omega
      have hlt8 : j < 8 := by omega
      obtain ⟨z, hzk⟩ : ∃ z, zs[j]? = some z := ⟨zs[j]'(by rw [HL.out]; exact hlt), List.getElem?_eq_getElem _⟩
      obtain ⟨b, off, rfl, hc⟩ := (HZ.out.later hb (Nat.le_refl _)).get (zv_at hzk)
      have hkg := kindsv_get hlt8 hzk
      obtain ⟨q, hq4, hq⟩ := kz_four z
      have hsz := hb.size
      have HT := Lib.hid (And.intro ho (And.intro hb hkg))
      have HQ := Lib.hid hq
      have hlt4 : b < wr.heap.size := lt_of_cell' hc
      clear ho hb hkg hend hzk
      rcases (show q = 0 ∧ 0 < j ∨ q = 0 ∧ j = 0 ∨ q = 1 ∨ q = 2 ∨ q = 3 by omega) with ⟨rfl, hj0⟩ | ⟨rfl, rfl⟩ | rfl | rfl | rfl
      · have hkz : kz z j = 60 := by
          unfold kz
          rw [HQ.out, show (([0, 43, 60, 44] : List Int).getD ((0 : Nat) : Int).toNat 0) = 0 from rfl]
          rw [if_pos ⟨rfl, hj0⟩]
        have hst : (kindsv zs).take (j + 1) = (kindsv zs).take j ++ [60] := by rw [List.take_add_one, HT.out.2.2, hkz]; rfl
        have HS := Lib.hid hst
        have hq' : wrap64 ((IntKind.u64.wrap z).tmod 4) = 0 := hq
        clear hkz hst hq
        go_wp2_with (at_builtin; refine wpList_append_gs rfl (.tmp 32) (.tmp 34) 26 rfl w.heap.size 3 infoInt rfl (by omega) Tryd.underlying26 _ j _ rfl ((HT.out.1.alloc _).alloc _) _ 1 1 (zv [60]) rfl (by exact Gs.lit_at _ _ (by simp) (zv [60]) 1 rfl (by unfold maxLen; omega) #[.int .i64 60] rfl _) (zv_one _) (by omega) (by simp; omega) ?_; intro v2 w2 o2 g2)
        have b2 : Below w.heap.size w w2 := ((HT.out.2.1.alloc hsz _).alloc (by simp; omega) _).grown g2 (by simp; omega) (fun x hx => (HT.out.1.lt x hx).1)
        have H2 := Lib.hid (And.intro o2 b2)
        clear o2 g2 b2
        go_wp2_with fail
        refine ⟨⟨j + 1, by omega, by omega, by go_num, ?_, H2.out.2⟩, by simp [intOf] <;> omega⟩
        rw [HS.out, zv_append]
        exact H2.out.1
      · rw [Nat.add_zero] at hc
        have hkz : kz z 0 = 0 := by
          unfold kz
          rw [HQ.out, show (([0, 43, 60, 44] : List Int).getD ((0 : Nat) : Int).toNat 0) = 0 from rfl]
          rw [if_neg (by omega)]
        have hst : (kindsv zs).take (0 + 1) = (kindsv zs).take 0 ++ [0] := by rw [List.take_add_one, HT.out.2.2, hkz]; rfl
        have HS := Lib.hid hst
        have hq' : wrap64 ((IntKind.u64.wrap z).tmod 4) = 0 := hq
        clear hkz hst hq
        go_wp2_with (at_builtin; refine wpList_append_gs rfl (.tmp 32) (.tmp 34) 26 rfl w.heap.size 3 infoInt rfl (by omega) Tryd.underlying26 _ 0 _ rfl ((HT.out.1.alloc _).alloc _) _ 1 1 (zv [0]) rfl (by exact Gs.lit_at _ _ (by simp) (zv [0]) 1 rfl (by unfold maxLen; omega) #[.int .i64 0] rfl _) (zv_one _) (by omega) (by simp; omega) ?_; intro v2 w2 o2 g2)
        have b2 : Below w.heap.size w w2 := ((HT.out.2.1.alloc hsz _).alloc (by simp; omega) _).grown g2 (by simp; omega) (fun x hx => (HT.out.1.lt x hx).1)
        have H2 := Lib.hid (And.intro o2 b2)
        clear o2 g2 b2
        go_wp2_with fail
        refine ⟨⟨0 + 1, by omega, by omega, by go_num, ?_, H2.out.2⟩, by simp [intOf] <;> omega⟩
        rw [HS.out, zv_append]
        exact H2.out.1
      · have hkz : kz z j = 43 := by
          unfold kz
          rw [HQ.out, show (([0, 43, 60, 44] : List Int).getD ((1 : Nat) : Int).toNat 0) = 43 from rfl]
          rw [if_neg (by omega)]
        have hst : (kindsv zs).take (j + 1) = (kindsv zs).take j ++ [43] := by rw [List.take_add_one, HT.out.2.2, hkz]; rfl
        have HS := Lib.hid hst
        have hq' : wrap64 ((IntKind.u64.wrap z).tmod 4) = 1 := hq
        clear hkz hst hq
        go_wp2_with (at_builtin; refine wpList_append_gs rfl (.tmp 32) (.tmp 34) 26 rfl w.heap.size 3 infoInt rfl (by omega) Tryd.underlying26 _ j _ rfl ((HT.out.1.alloc _).alloc _) _ 1 1 (zv [43]) rfl (by exact Gs.lit_at _ _ (by simp) (zv [43]) 1 rfl (by unfold maxLen; omega) #[.int .i64 43] rfl _) (zv_one _) (by omega) (by simp; omega) ?_; intro v2 w2 o2 g2)
        have b2 : Below w.heap.size w w2 := ((HT.out.2.1.alloc hsz _).alloc (by simp; omega) _).grown g2 (by simp; omega) (fun x hx => (HT.out.1.lt x hx).1)
        have H2 := Lib.hid (And.intro o2 b2)
        clear o2 g2 b2
        go_wp2_with fail
        refine ⟨⟨j + 1, by omega, by omega, by go_num, ?_, H2.out.2⟩, by simp [intOf] <;> omega⟩
        rw [HS.out, zv_append]
        exact H2.out.1
      · have hkz : kz z j = 60 := by
          unfold kz
          rw [HQ.out, show (([0, 43, 60, 44] : List Int).getD ((2 : Nat) : Int).toNat 0) = 60 from rfl]
          rw [if_neg (by omega)]
        have hst : (kindsv zs).take (j + 1) = (kindsv zs).take j ++ [60] := by rw [List.take_add_one, HT.out.2.2, hkz]; rfl
        have HS := Lib.hid hst
        have hq' : wrap64 ((IntKind.u64.wrap z).tmod 4) = 2 := hq
        clear hkz hst hq
        go_wp2_with (at_builtin; refine wpList_append_gs rfl (.tmp 32) (.tmp 34) 26 rfl w.heap.size 3 infoInt rfl (by omega) Tryd.underlying26 _ j _ rfl ((HT.out.1.alloc _).alloc _) _ 1 1 (zv [60]) rfl (by exact Gs.lit_at _ _ (by simp) (zv [60]) 1 rfl (by unfold maxLen; omega) #[.int .i64 60] rfl _) (zv_one _) (by omega) (by simp; omega) ?_; intro v2 w2 o2 g2)
        have b2 : Below w.heap.size w w2 := ((HT.out.2.1.alloc hsz _).alloc (by simp; omega) _).grown g2 (by simp; omega) (fun x hx => (HT.out.1.lt x hx).1)
        have H2 := Lib.hid (And.intro o2 b2)
        clear o2 g2 b2
        go_wp2_with fail
        refine ⟨⟨j + 1, by omega, by omega, by go_num, ?_, H2.out.2⟩, by simp [intOf] <;> omega⟩
        rw [HS.out, zv_append]
        exact H2.out.1
      · have hkz : kz z j = 44 := by
          unfold kz
          rw [HQ.out, show (([0, 43, 60, 44] : List Int).getD ((3 : Nat) : Int).toNat 0) = 44 from rfl]
          rw [if_neg (by omega)]
        have hst : (kindsv zs).take (j + 1) = (kindsv zs).take j ++ [44] := by rw [List.take_add_one, HT.out.2.2, hkz]; rfl
        have HS := Lib.hid hst
        have hq' : wrap64 ((IntKind.u64.wrap z).tmod 4) = 3 := hq
        clear hkz hst hq
        go_wp2_with (at_builtin; refine wpList_append_gs rfl (.tmp 32) (.tmp 34) 26 rfl w.heap.size 3 infoInt rfl (by omega) Tryd.underlying26 _ j _ rfl ((HT.out.1.alloc _).alloc _) _ 1 1 (zv [44]) rfl (by exact Gs.lit_at _ _ (by simp) (zv [44]) 1 rfl (by unfold maxLen; omega) #[.int .i64 44] rfl _) (zv_one _) (by omega) (by simp; omega) ?_; intro v2 w2 o2 g2)
        have b2 : Below w.heap.size w w2 := ((HT.out.2.1.alloc hsz _).alloc (by simp; omega) _).grown g2 (by simp; omega) (fun x hx => (HT.out.1.lt x hx).1)
        have H2 := Lib.hid (And.intro o2 b2)
        clear o2 g2 b2
        go_wp2_with fail
        refine ⟨⟨j + 1, by omega, by omega, by go_num, ?_, H2.out.2⟩, by simp [intOf] <;> omega⟩
        rw [HS.out, zv_append]
        exact H2.out.1
end Go.Proofs.YtceigepclemdmaaDoor
