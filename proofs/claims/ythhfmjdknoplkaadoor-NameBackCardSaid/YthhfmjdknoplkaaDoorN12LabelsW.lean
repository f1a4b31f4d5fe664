/-
  stockadelaw12.NameLabels answers true, whatever is handed in. Conditions: what the program's text has laid (internal/bytealg.MaxLen holds an int).
-/
import Derived.Test.YthhfmjdknoplkaaDoorAwake12
namespace Go.Proofs.YthhfmjdknoplkaaDoor
open Go.RowKit
set_option maxRecDepth 100000

theorem mkS_empty {l : List UInt8} (h : l = []) : (mkS l).toList.isEmpty = true := by rw [h, Lib.toList_data, mkS_data]; rfl
theorem mkS_some {l : List UInt8} (h : l ≠ []) : (mkS l).toList.isEmpty = false := by
  rw [Lib.toList_data, mkS_data]
  cases l with
  | nil => exact absurd rfl h
  | cons _ _ => rfl
theorem join_take_le {ls : List (List UInt8)} (k : Nat) : (joinD (ls.take k)).length ≤ sizeL ls := by
  have h1 := sizeL_append (ls.take k) (ls.drop k)
  rw [List.take_append_drop] at h1
  by_cases h : ls.take k = []
  · rw [h]; simp [joinD]
  · have := joinD_length _ h; omega
/-- A label put behind what there is. -/
theorem join_next {ls : List (List UInt8)} {k : Nat} {x : List UInt8} (h : ls[k]? = some x) (hk : 0 < k) : mkS (joinD (ls.take k)) ++ ⟨#[46]⟩ = mkS (joinD (ls.take k) ++ [46]) ∧ mkS (joinD (ls.take k) ++ [46]) ++ mkS x = mkS (joinD (ls.take (k + 1))) := by
  refine ⟨mkS_append _ [46], ?_⟩
  rw [mkS_append, List.take_add_one, h]
  show _ = mkS (joinD (ls.take k ++ [x]))
  have hkl := (List.getElem?_eq_some_iff.1 h).1
  rw [joinD_snoc _ _ (fun e => by have := congrArg List.length e; rw [List.length_take] at this; simp only [List.length_nil] at this; omega)]
  simp
theorem join_first {ls : List (List UInt8)} {x : List UInt8} (h : ls[0]? = some x) : mkS [] ++ mkS x = mkS (joinD (ls.take 1)) := by
  rw [mkS_append]
  cases ls with
  | nil => cases h
  | cons y r => obtain rfl := Option.some.inj h; rfl
theorem gs_len {w : World} {A : Option Addr} {n c : Nat} {ls : List (List UInt8)} (h : Gs w A n c (sv (mkSs ls))) : n = ls.length := by
  have := h.len; unfold sv mkSs at this; rw [List.length_map, List.length_map] at this; exact this.symm
theorem gs_at {w : World} {A : Option Addr} {n c : Nat} {ls : List (List UInt8)} (h : Gs w A n c (sv (mkSs ls))) {k : Nat} {x : List UInt8} (hx : ls[k]? = some x) : ∃ b off, A = some ⟨b, off, none⟩ ∧ w.cell? ⟨b, off + k, none⟩ = some (.string (mkS x)) :=
  h.get (by unfold sv mkSs; rw [List.map_map, List.getElem?_map, hx]; rfl)
set_option maxHeartbeats 2000000 in
theorem nameLabels (s : ByteArray) (hs : s.size ≤ 9223372036854775807) {w : World} (hE : Env w) : Calls Tryd.prog 9 #[.string s] w fun e w' => e = .returned (.bool true) ∧ Below w.heap.size w w' := by
  have KP := Lib.hid (playName_any s hs w)
  obtain ⟨hr, h60⟩ := playN_right s.data.toList
  generalize playN s.data.toList = p at KP hr h60
  have hps : (mkS p).size = p.length := mkS_size p
  have hjl : joinD (labsN p) = p := joinD_labsN p
  obtain ⟨q, hq, hpq⟩ : ∃ q, (writev p).length = q ∧ (p = [] ∧ q = 1 ∨ p ≠ [] ∧ q = p.length + 2) := by
    refine ⟨_, rfl, ?_⟩
    unfold writev
    rw [if_pos hr, writeB_length p]
    by_cases h : p = []
    · rw [if_pos h]; exact .inl ⟨h, rfl⟩
    · rw [if_neg h]; exact .inr ⟨h, rfl⟩
  have hwe : writee p = ⟨0, 0, false⟩ := if_pos hr
  have HE := Lib.hid hE
  have KL := Lib.hid (fun w1 (hb : Below w.heap.size w w1) => labels_any (mkS p) (by rw [mkS_size]; omega) (hE.later hb (Nat.le_refl _)))
  have KW := fun w1 (hb : Below w.heap.size w w1) => write_any (mkS p) (by rw [mkS_size]; omega) (hE.later hb (Nat.le_refl _))
  rw [mkS_data] at KL KW
  rw [hq] at KW
  have HJ := Lib.hid hjl
  have HR := Lib.hid hr
  have HW := Lib.hid (And.intro KW hwe)
  obtain ⟨ls, hls⟩ : ∃ ls, labsN p = ls := ⟨_, rfl⟩
  rw [hls] at KL HJ
  have hsz : 1 + sizeL ls ≤ 255 := by rw [← hls]; exact hr.2
  have HX := Lib.hid (show ∀ x ∈ ls, labOk x by rw [← hls]; exact hr.1)
  have HPQ := Lib.hid hpq
  clear hE hr hjl hq KW hls hwe hpq
  go_enter Tryd.func9, Tryd.ntmps9
  go_wp2_with fail
  refine KP.out.mono ?_
  rintro e w1 ⟨rfl, b1⟩
  have H1 := Lib.hid b1
  clear b1
  go_wp2_with fail
  refine (KL.out w1 H1.out).mono ?_
  rintro e w2 ⟨A, n, c, rfl, hG, b2⟩
  obtain rfl := gs_len hG
  have hcap := hG.cap
  have hmax := hG.max
  unfold maxLen at hmax
  have H2 := Lib.hid (And.intro hG (H1.out.trans (b2.mono H1.out.size)))
  clear hG b2
  go_wp2_with fail
  go_loopw [4, 5] (fun t i wr => ∃ k : Nat, k ≤ ls.length ∧ i = .int .i64 k ∧ t = .string (mkS (joinD (ls.take k))) ∧ Below w2.heap.size w2 wr) (fun _ i _ => ls.length - (intOf i).toNat)
  case atStart => exact ⟨0, Nat.zero_le _, rfl, rfl, Below.refl _ _⟩
  case round =>
    obtain ⟨k, hk, rfl, rfl, hbe⟩ := hrel
    by_cases hlt : k < ls.length
    · obtain ⟨x, hxk⟩ : ∃ x, ls[k]? = some x := ⟨ls[k]'hlt, List.getElem?_eq_getElem _⟩
      obtain ⟨b, o, rfl, h1⟩ := gs_at (H2.out.1.later hbe (Nat.le_refl _)) hxk
      have hxo := HX.out x (List.mem_of_getElem? hxk)
      have hx0 := mkS_some (labOk_ne hxo)
      have hx63 := hxo.2.2
      have hxs : (mkS x).size = x.length := mkS_size x
      have hjt := join_take_le (ls := ls) k
      have hs1 : (mkS (joinD (ls.take k))).size = (joinD (ls.take k)).length := mkS_size _
      have hs2 : (mkS (joinD (ls.take k) ++ [46])).size = (joinD (ls.take k)).length + 1 := by rw [mkS_size]; simp
      have KR := fun w1 (hb : Below w.heap.size w w1) => right_any (mkS x) (by rw [mkS_size]; omega) (HE.out.later hb (Nat.le_refl _))
      rw [mkS_data, decide_eq_true (label_right hxo).1] at KR
      have HK := Lib.hid (KR wr (H2.out.2.trans (hbe.mono H2.out.2.size)))
      have HB := Lib.hid hbe
      clear hxo hbe KR
      rcases Nat.eq_zero_or_pos k with h0 | h0
      · subst h0
        have hj := join_first hxk
        have he : joinD (ls.take 0) = [] := rfl
        rw [he] at hs1 hs2 hjt ⊢
        have HJ2 := Lib.hid hj
        clear he hs2 hxk
        rw [Nat.add_zero] at h1
        go_wp2_with fail
        refine HK.out.mono ?_
        rintro e w3 ⟨rfl, b3⟩
        have h1' := (b3.cell (p := ⟨b, o, none⟩) (lt_of_cell' h1)).trans h1
        have H3 := Lib.hid (HB.out.trans (b3.mono HB.out.size))
        clear b3
        go_wp2_with fail
        refine ⟨⟨1, hlt, by go_num, rfl, H3.out⟩, by simp [intOf]; omega⟩
      · obtain ⟨hj1, hj2⟩ := join_next hxk h0
        go_wp2_with fail
        refine HK.out.mono ?_
        rintro e w3 ⟨rfl, b3⟩
        have h1' := (b3.cell (p := ⟨b, o + k, none⟩) (lt_of_cell' h1)).trans h1
        have H3 := Lib.hid (HB.out.trans (b3.mono HB.out.size))
        clear b3
        go_wp2_with fail
        refine ⟨⟨k + 1, hlt, by go_num, rfl, H3.out⟩, by simp [intOf]; omega⟩
    · obtain rfl : k = ls.length := by omega
      rw [List.take_of_length_le (Nat.le_refl _), HJ.out]
      have HB := Lib.hid (H2.out.2.trans (hbe.mono H2.out.2.size))
      clear hbe
      go_wp2_with fail
      refine (HW.out.1 wr HB.out).mono ?_
      rintro e w3 ⟨A3, c3, v3, rfl, _, t3, b3⟩
      obtain rfl := Tells.none' t3 (by rw [HW.out.2])
      have H3 := Lib.hid (HB.out.trans (b3.mono HB.out.size))
      clear t3 b3
      go_wp2_with fail
      refine (awake12 (HE.out.later H3.out (Nat.le_refl _))).mono ?_
      rintro e w4 ⟨rfl, b4⟩
      have H4 := Lib.hid (H3.out.trans (b4.mono H3.out.size))
      clear b4
      rcases HPQ.out with ⟨hp0, hq⟩ | ⟨hp0, hq⟩
      · have he := mkS_empty hp0
        subst hq
        clear hp0
        go_wp2_with fail
        go_ret
        exact ⟨rfl, H4.out⟩
      · have he := mkS_some hp0
        subst hq
        clear hp0
        go_wp2_with fail
        go_ret
        exact ⟨rfl, H4.out⟩
end Go.Proofs.YthhfmjdknoplkaaDoor
