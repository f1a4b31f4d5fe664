/-
  
-/
import Derived.Test.YtoagfmonfgagbaaGreatDoorZ17
import Derived.Test.YtoagfmonfgagbaaGreatDoorZ06
import Derived.Test.YtoagfmonfgagbaaGreatDoorZ16
import Derived.BigRegion
import Derived.RegionTactic
import Derived.Laws.BitsAllLaws
import Derived.Laws.BitsLemmas
namespace Go.Proofs.YtoagfmonfgagbaaGreatDoor
open Go.RowKit
set_option maxRecDepth 100000
def mk8 (k : Nat) : UInt8 := UInt8.ofNat (255 * 2 ^ (8 - k))
def firstv (bs : List UInt8) (n : Nat) : List UInt8 := bs.mapIdx fun i b => b &&& mk8 (min (n - 8 * i) 8)
theorem firstv_len (bs : List UInt8) (n : Nat) : (firstv bs n).length = bs.length := by simp [firstv]
def firstz (bs : List UInt8) (n j : Nat) : List UInt8 := (firstv bs n).take j ++ bs.drop j
theorem firstz_set {bs : List UInt8} {n j : Nat} {b : UInt8} (hb : bs[j]? = some b) : (firstz bs n j).set j (b &&& mk8 (min (n - 8 * j) 8)) = firstz bs n (j + 1) := by
  have hlt := (List.getElem?_eq_some_iff.1 hb).1
  have h1 : (firstv bs n)[j]? = some (b &&& mk8 (min (n - 8 * j) 8)) := by simp [firstv, hb]
  have h2 : ((firstv bs n).take j).length = j := by rw [List.length_take, firstv_len]; omega
  have h3 : bs.drop j = b :: bs.drop (j + 1) := by rw [List.drop_eq_getElem_cons hlt]; congr 1; exact Option.some.inj ((List.getElem?_eq_getElem hlt).symm.trans hb)
  unfold firstz
  rw [List.set_append_right _ _ (by omega), h2, Nat.sub_self, h3, List.take_add_one, h1]
  simp
theorem firstz_get {bs : List UInt8} {n j : Nat} {b : UInt8} (hb : bs[j]? = some b) : (firstz bs n j)[j]? = some b := by
  have hlt := (List.getElem?_eq_some_iff.1 hb).1
  have h2 : ((firstv bs n).take j).length = j := by rw [List.length_take, firstv_len]; omega
  unfold firstz
  rw [List.getElem?_append_right (by omega), h2, Nat.sub_self, List.getElem?_drop]
  exact hb
theorem u8_and' (a b : UInt8) : bits .and .u8 (a.toNat : Int) (b.toNat : Int) = (((a &&& b).toNat : Nat) : Int) := by
  have ha : a.toNat < 256 := a.toNat_lt
  have hb : b.toNat < 256 := b.toNat_lt
  rw [UInt8.toNat_and]
  exact Go.u8_and_nat _ _ ha hb
theorem first_step (bs : List UInt8) {n j : Nat} {b : UInt8} (hb : bs[j]? = some b) {w wr : World} (hr : Row wr w.heap.size 49 (bv (firstz bs n j))) (hw : Below w.heap.size w wr) (c : Int) (hc : c = ((mk8 (min (n - 8 * j) 8)).toNat : Int)) :
    Row (wr.setCell ⟨w.heap.size, j, none⟩ (.int .u8 (bits .and .u8 (b.toNat : Int) c))).drew w.heap.size 49 (bv (firstz bs n (j + 1))) ∧ Below w.heap.size w (wr.setCell ⟨w.heap.size, j, none⟩ (.int .u8 (bits .and .u8 (b.toNat : Int) c))).drew := by
  subst hc
  rw [u8_and']
  have h2 := hr.put j (.int .u8 ((b &&& mk8 (min (n - 8 * j) 8)).toNat : Int))
  rw [bv_set, firstz_set hb] at h2
  exact ⟨h2, (hw.setCell (Nat.le_refl _) _).drew⟩
set_option maxHeartbeats 4000000 in
theorem first_any (bs : List UInt8) (hl : bs.length = 16) (n : Nat) (hn : n ≤ 128) (w : World) : Calls Tryz.prog 86 #[.agg (bv bs).toArray, .int .i64 n] w fun e w' =>
    e = .returned (.agg (bv (firstv bs n)).toArray) ∧ Below w.heap.size w w' := by
  have hsz : (Tryz.prog.info? 49).map (·.size) = some 16 := by kernel_rfl
  have r0 := (Row.new' w 49 (cs := (bv bs).toArray) rfl).later ((Below.refl _ _).alloc (Nat.le_refl _) (.cells (bv (List.replicate 16 0)).toArray 49)) (Nat.le_refl _)
  have r1 := Row.new' (w.alloc (.cells (bv bs).toArray 49)) 49 (cs := (bv (List.replicate 16 0)).toArray) rfl
  have b0 : Below w.heap.size w ((w.alloc (.cells (bv bs).toArray 49)).alloc (.cells (bv (List.replicate 16 0)).toArray 49)) := ((Below.refl _ _).alloc (Nat.le_refl _) _).alloc (by simp) _
  have hz : (bv (List.replicate 16 0)).toArray = #[Value.int IntKind.u8 0, Value.int IntKind.u8 0, Value.int IntKind.u8 0, Value.int IntKind.u8 0, Value.int IntKind.u8 0, Value.int IntKind.u8 0, Value.int IntKind.u8 0, Value.int IntKind.u8 0, Value.int IntKind.u8 0, Value.int IntKind.u8 0, Value.int IntKind.u8 0, Value.int IntKind.u8 0, Value.int IntKind.u8 0, Value.int IntKind.u8 0, Value.int IntKind.u8 0, Value.int IntKind.u8 0] := rfl
  rw [World.size_alloc] at r1
  rw [hz] at r0 b0
  have r1 : Row ((w.alloc (.cells (bv bs).toArray 49)).alloc (.cells #[Value.int IntKind.u8 0, Value.int IntKind.u8 0, Value.int IntKind.u8 0, Value.int IntKind.u8 0, Value.int IntKind.u8 0, Value.int IntKind.u8 0, Value.int IntKind.u8 0, Value.int IntKind.u8 0, Value.int IntKind.u8 0, Value.int IntKind.u8 0, Value.int IntKind.u8 0, Value.int IntKind.u8 0, Value.int IntKind.u8 0, Value.int IntKind.u8 0, Value.int IntKind.u8 0, Value.int IntKind.u8 0] 49)) (w.heap.size + 1) 49 (bv (List.replicate 16 0)) := r1
  have HL := Lib.hid hl
  have HI := Lib.hid (And.intro hsz (And.intro r0 (And.intro r1 b0)))
  clear hl hz hsz r0 r1 b0
  go_enter Tryz.func86, Tryz.ntmps86
  go_wp2_with fail
  generalize hW : ((w.alloc (.cells (bv bs).toArray 49)).alloc _) = W at HI ⊢
  clear hW
  go_loopw [7] (fun i wr => ∃ j : Nat, i = .int .i64 j ∧ j ≤ 16 ∧ Hid (Row wr w.heap.size 49 (bv (firstz bs n j)) ∧ Below w.heap.size w wr ∧ Row wr (w.heap.size + 1) 49 (bv (List.replicate 16 0)))) (fun i _ => 16 - (intOf i).toNat)
  case atStart => exact ⟨0, rfl, by omega, Lib.hid ⟨by simpa [firstz] using HI.out.2.1, HI.out.2.2.2, HI.out.2.2.1⟩⟩
  case round =>
    obtain ⟨j, rfl, hj, hh⟩ := hrel
    by_cases hlt : j < 16
    · obtain ⟨b, hb⟩ : ∃ b, bs[j]? = some b := ⟨_, List.getElem?_eq_getElem (by rw [HL.out]; exact hlt)⟩
      have hcell := hh.out.1.cell (bv_at (firstz_get (n := n) hb))
      have hfr := hh.out.1.frozen j
      obtain ⟨k, hk⟩ : ∃ k, min (n - 8 * j) 8 = k := ⟨_, rfl⟩
      have hstep := first_step bs hb hh.out.1 hh.out.2.1
      rw [hk] at hstep
      have HST := Lib.hid hstep
      have h3 : ∀ v : Int, Row (wr.setCell ⟨w.heap.size, j, none⟩ (.int .u8 v)).drew (w.heap.size + 1) 49 (bv (List.replicate 16 0)) := fun v => hh.out.2.2.far (by show w.heap.size + 1 ≠ w.heap.size; omega) _
      have H3 := Lib.hid h3
      have HB := Lib.hid hb
      clear hstep hb h3
      have hk9 : (n : Int) - 8 * (j : Int) < 0 ∨ (n : Int) - 8 * (j : Int) = 0 ∨ (n : Int) - 8 * (j : Int) = 1 ∨ (n : Int) - 8 * (j : Int) = 2 ∨ (n : Int) - 8 * (j : Int) = 3 ∨ (n : Int) - 8 * (j : Int) = 4 ∨ (n : Int) - 8 * (j : Int) = 5 ∨ (n : Int) - 8 * (j : Int) = 6 ∨ (n : Int) - 8 * (j : Int) = 7 ∨ (n : Int) - 8 * (j : Int) = 8 ∨ 8 < (n : Int) - 8 * (j : Int) := by omega
      rcases hk9 with h1 | h1 | h1 | h1 | h1 | h1 | h1 | h1 | h1 | h1 | h1
      · obtain rfl : k = 0 := by omega
        clear hk
        go_wp2_with fail
        all_goals (try (exfalso; omega))
        clear h1
        go_region
        have H4 := Lib.hid (And.intro (HST.out 0 rfl) (H3.out (bits .and .u8 (b.toNat : Int) 0)))
        go_wp2_with fail
        go_roundw
        case rel => exact ⟨j + 1, by go_num, by omega, Lib.hid ⟨H4.out.1.1, H4.out.1.2, H4.out.2⟩⟩
        case measure => simp [intOf]; omega
      · obtain rfl : k = 0 := by omega
        have H1 := Lib.hid h1
        clear hk h1
        go_wp2_with fail
        all_goals (try (exfalso; have := H1.out; omega))
        rw [H1.out]
        go_region
        have H4 := Lib.hid (And.intro (HST.out 0 rfl) (H3.out (bits .and .u8 (b.toNat : Int) 0)))
        go_wp2_with fail
        go_roundw
        case rel => exact ⟨j + 1, by go_num, by omega, Lib.hid ⟨H4.out.1.1, H4.out.1.2, H4.out.2⟩⟩
        case measure => simp [intOf]; omega
      · obtain rfl : k = 1 := by omega
        have H1 := Lib.hid h1
        clear hk h1
        go_wp2_with fail
        all_goals (try (exfalso; have := H1.out; omega))
        rw [H1.out]
        go_region
        have H4 := Lib.hid (And.intro (HST.out 128 rfl) (H3.out (bits .and .u8 (b.toNat : Int) 128)))
        go_wp2_with fail
        go_roundw
        case rel => exact ⟨j + 1, by go_num, by omega, Lib.hid ⟨H4.out.1.1, H4.out.1.2, H4.out.2⟩⟩
        case measure => simp [intOf]; omega
      · obtain rfl : k = 2 := by omega
        have H1 := Lib.hid h1
        clear hk h1
        go_wp2_with fail
        all_goals (try (exfalso; have := H1.out; omega))
        rw [H1.out]
        go_region
        have H4 := Lib.hid (And.intro (HST.out 192 rfl) (H3.out (bits .and .u8 (b.toNat : Int) 192)))
        go_wp2_with fail
        go_roundw
        case rel => exact ⟨j + 1, by go_num, by omega, Lib.hid ⟨H4.out.1.1, H4.out.1.2, H4.out.2⟩⟩
        case measure => simp [intOf]; omega
      · obtain rfl : k = 3 := by omega
        have H1 := Lib.hid h1
        clear hk h1
        go_wp2_with fail
        all_goals (try (exfalso; have := H1.out; omega))
        rw [H1.out]
        go_region
        have H4 := Lib.hid (And.intro (HST.out 224 rfl) (H3.out (bits .and .u8 (b.toNat : Int) 224)))
        go_wp2_with fail
        go_roundw
        case rel => exact ⟨j + 1, by go_num, by omega, Lib.hid ⟨H4.out.1.1, H4.out.1.2, H4.out.2⟩⟩
        case measure => simp [intOf]; omega
      · obtain rfl : k = 4 := by omega
        have H1 := Lib.hid h1
        clear hk h1
        go_wp2_with fail
        all_goals (try (exfalso; have := H1.out; omega))
        rw [H1.out]
        go_region
        have H4 := Lib.hid (And.intro (HST.out 240 rfl) (H3.out (bits .and .u8 (b.toNat : Int) 240)))
        go_wp2_with fail
        go_roundw
        case rel => exact ⟨j + 1, by go_num, by omega, Lib.hid ⟨H4.out.1.1, H4.out.1.2, H4.out.2⟩⟩
        case measure => simp [intOf]; omega
      · obtain rfl : k = 5 := by omega
        have H1 := Lib.hid h1
        clear hk h1
        go_wp2_with fail
        all_goals (try (exfalso; have := H1.out; omega))
        rw [H1.out]
        go_region
        have H4 := Lib.hid (And.intro (HST.out 248 rfl) (H3.out (bits .and .u8 (b.toNat : Int) 248)))
        go_wp2_with fail
        go_roundw
        case rel => exact ⟨j + 1, by go_num, by omega, Lib.hid ⟨H4.out.1.1, H4.out.1.2, H4.out.2⟩⟩
        case measure => simp [intOf]; omega
      · obtain rfl : k = 6 := by omega
        have H1 := Lib.hid h1
        clear hk h1
        go_wp2_with fail
        all_goals (try (exfalso; have := H1.out; omega))
        rw [H1.out]
        go_region
        have H4 := Lib.hid (And.intro (HST.out 252 rfl) (H3.out (bits .and .u8 (b.toNat : Int) 252)))
        go_wp2_with fail
        go_roundw
        case rel => exact ⟨j + 1, by go_num, by omega, Lib.hid ⟨H4.out.1.1, H4.out.1.2, H4.out.2⟩⟩
        case measure => simp [intOf]; omega
      · obtain rfl : k = 7 := by omega
        have H1 := Lib.hid h1
        clear hk h1
        go_wp2_with fail
        all_goals (try (exfalso; have := H1.out; omega))
        rw [H1.out]
        go_region
        have H4 := Lib.hid (And.intro (HST.out 254 rfl) (H3.out (bits .and .u8 (b.toNat : Int) 254)))
        go_wp2_with fail
        go_roundw
        case rel => exact ⟨j + 1, by go_num, by omega, Lib.hid ⟨H4.out.1.1, H4.out.1.2, H4.out.2⟩⟩
        case measure => simp [intOf]; omega
      · obtain rfl : k = 8 := by omega
        have H1 := Lib.hid h1
        clear hk h1
        go_wp2_with fail
        all_goals (try (exfalso; have := H1.out; omega))
        rw [H1.out]
        go_region
        have H4 := Lib.hid (And.intro (HST.out 255 rfl) (H3.out (bits .and .u8 (b.toNat : Int) 255)))
        go_wp2_with fail
        go_roundw
        case rel => exact ⟨j + 1, by go_num, by omega, Lib.hid ⟨H4.out.1.1, H4.out.1.2, H4.out.2⟩⟩
        case measure => simp [intOf]; omega
      · obtain rfl : k = 8 := by omega
        clear hk
        go_wp2_with fail
        all_goals (try (exfalso; omega))
        clear h1
        go_region
        have H4 := Lib.hid (And.intro (HST.out 255 rfl) (H3.out (bits .and .u8 (b.toNat : Int) 255)))
        go_wp2_with fail
        go_roundw
        case rel => exact ⟨j + 1, by go_num, by omega, Lib.hid ⟨H4.out.1.1, H4.out.1.2, H4.out.2⟩⟩
        case measure => simp [intOf]; omega
    · obtain rfl : j = 16 := by omega
      have hz : firstz bs n 16 = firstv bs n := by unfold firstz; rw [List.take_of_length_le (by rw [firstv_len, HL.out]; omega), List.drop_of_length_le (by rw [HL.out]; omega), List.append_nil]
      have hr := hh.out.1
      rw [hz] at hr
      have hlen : (bv (firstv bs n)).toArray.size = 16 := by simp [bv_length, firstv_len, HL.out]
      have H5 := Lib.hid (And.intro hr (And.intro hh.out.2.1 (And.intro hh.out.2.2 hlen)))
      clear hr hz hlen
      go_wp2_with (first
        | (refine wpList_load_row rfl 49 (.tmp 2) rfl w.heap.size rfl 49 (bv (firstv bs n)).toArray (0, 0) _ H5.out.1 Tryz.underlying49 rfl (by rw [H5.out.2.2.2]; exact HI.out.1) ?_)
        | (refine wpList_store_row rfl 49 (.tmp 4) (.tmp 25) rfl (w.heap.size + 1) (bv (firstv bs n)).toArray rfl rfl 49 _ H5.out.2.2.1 (by rw [H5.out.2.2.2]; exact HI.out.1) (by rw [H5.out.2.2.2]; rfl) (by simpa [Array.all_eq_true_iff_forall_mem] using bv_one (firstv bs n)) ?_))
      exact bodyPost_ret (v := .agg (bv (firstv bs n)).toArray) (results_cell_row rfl _ _ (w.heap.size + 1) 49 _ (0, 0) _ rfl (setRow_heap _ _ _ _ _ _ H5.out.2.2.1) Tryz.underlying49 rfl (by rw [H5.out.2.2.2]; exact HI.out.1)) rfl ⟨rfl, below_setRow H5.out.2.1 (by omega) _⟩
end Go.Proofs.YtoagfmonfgagbaaGreatDoor
