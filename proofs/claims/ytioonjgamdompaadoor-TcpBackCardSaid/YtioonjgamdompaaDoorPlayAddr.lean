/-
  stockadeplay.Addr. No conditions.
-/
import Derived.Test.YtioonjgamdompaaDoorAdr
import Derived.Laws.CopyOwn
import Derived.Test.YtioonjgamdompaaDoorAddr
namespace Go.Proofs.YtioonjgamdompaaDoor
open Go.RowKit

/-- The bytes of an address that is right. -/
def norm (v6 : Bool) (a : List UInt8) : List UInt8 := if v6 then a else a.take 4 ++ List.replicate 12 0
theorem norm_len (v6 : Bool) {a : List UInt8} (h : a.length = 16) : (norm v6 a).length = 16 := by cases v6 <;> simp [norm, h]
/-- Zeros from the fifth byte up to a place. -/
def zeroed (a : List UInt8) (j : Nat) : List UInt8 := a.take 4 ++ List.replicate (j - 4) 0 ++ a.drop j
theorem zeroed_set {a : List UInt8} (h : a.length = 16) {j : Nat} (h4 : 4 ≤ j) (h16 : j < 16) : (zeroed a j).set j 0 = zeroed a (j + 1) := by
  apply List.ext_getElem?
  intro i
  rw [List.getElem?_set]
  simp only [zeroed, List.getElem?_append, List.length_append, List.length_take, List.length_replicate, List.getElem?_take, List.getElem?_replicate, List.getElem?_drop, List.length_drop, h]
  grind

set_option maxRecDepth 100000 in
set_option maxHeartbeats 1000000 in
theorem play_addr (v1 v6 : Bool) (a : List UInt8) (ha : a.length = 16) (w : World) : Calls Tryd.prog 15 #[.agg (adv v1 a), .bool v6] w fun e w' =>
    e = .returned (.agg (adv v6 (norm v6 a))) ∧ Below w.heap.size w w' := by
  go_enter Tryd.func15, Tryd.ntmps15
  go_wp2_with fail
  rw [adv_set0]
  have A1 := (AdBox.new w v6 ha).later ((Below.refl _ _).alloc (Nat.le_refl _) (.cells (adv false (List.replicate 16 0)) 25)) (Nat.le_refl _)
  have A2 := AdBox.new (w.alloc (.cells (adv v6 a) 25)) false (bs := List.replicate 16 0) rfl
  rw [World.size_alloc] at A2
  have B2 := ((Below.refl _ w).alloc (Nat.le_refl _) (.cells (adv v6 a) 25)).alloc (by simp) (.cells (adv false (List.replicate 16 0)) 25)
  have hz : adv false (List.replicate 16 0) = #[Value.bool false, Value.int IntKind.u8 0, Value.int IntKind.u8 0, Value.int IntKind.u8 0, Value.int IntKind.u8 0, Value.int IntKind.u8 0, Value.int IntKind.u8 0, Value.int IntKind.u8 0, Value.int IntKind.u8 0, Value.int IntKind.u8 0, Value.int IntKind.u8 0, Value.int IntKind.u8 0, Value.int IntKind.u8 0, Value.int IntKind.u8 0, Value.int IntKind.u8 0, Value.int IntKind.u8 0, Value.int IntKind.u8 0] := rfl
  rw [← hz]
  generalize hW : (w.alloc (Obj.cells (adv v6 a) 25)).alloc (Obj.cells (adv false (List.replicate 16 0)) 25) = W at A1 A2 B2 ⊢
  have H0 := Lib.hid (And.intro A1 (And.intro A2 B2))
  clear hz hW A1 A2 B2
  cases v6
  · have HA := Lib.hid ha
    clear ha
    go_loopw [5] (fun i wr => ∃ j : Nat, 4 ≤ j ∧ j ≤ 16 ∧ i = .int .i64 j ∧ AdBox wr w.heap.size false (zeroed a j) ∧ AdBox wr (w.heap.size + 1) false (List.replicate 16 0) ∧ Below w.heap.size w wr) (fun i _ => 16 - (intOf i).toNat)
    case atStart => exact ⟨4, by omega, by omega, rfl, by simpa [zeroed] using H0.out.1, H0.out.2.1, H0.out.2.2⟩
    case round =>
      obtain ⟨j, h4, h16, rfl, a1, a2, hb⟩ := hrel
      by_cases hlt : j < 16
      · obtain ⟨x, _, hc⟩ := a1.there j hlt
        have hf := a1.frozen (1 + j)
        have a3 := a1.put j 0
        rw [zeroed_set HA.out h4 hlt] at a3
        have H1 := Lib.hid (And.intro a3 (And.intro (a2.far (p := ⟨w.heap.size, 1 + j, none⟩) (by simp) (.int .u8 (0 : UInt8).toNat)) (hb.setCell (p := ⟨w.heap.size, 1 + j, none⟩) (Nat.le_refl _) (.int .u8 (0 : UInt8).toNat))))
        clear a1 a2 a3 hb
        go_wp2_with fail
        go_roundw
        case rel => exact ⟨j + 1, by omega, by omega, by go_num, H1.out⟩
        case measure => simp [intOf]; omega
      · obtain rfl : j = 16 := by omega
        have hz : zeroed a 16 = norm false a := by simp [zeroed, norm, List.drop_of_length_le (Nat.le_of_eq HA.out)]
        rw [hz] at a1
        have H1 := Lib.hid (And.intro a1 (And.intro a2 hb))
        clear a1 a2 hb hz
        go_wp2_with (first
          | (refine wpList_load_ad rfl (.tmp 2) rfl rfl H1.out.1 ?_)
          | (refine wpList_store_row rfl 25 (.tmp 4) (.tmp 19) rfl (w.heap.size + 1) _ rfl rfl 25 _ H1.out.2.1.1 (ad_size _ (norm_len false HA.out)) (by rw [adv_size _ H1.out.2.1.2, adv_size _ (norm_len false HA.out)]) (adv_one _ _) ?_))
        exact bodyPost_ret (v := .agg (adv false (norm false a))) (results_cell_row rfl _ _ (w.heap.size + 1) 25 _ (0, 0) _ rfl (setRow_heap _ _ _ _ _ _ H1.out.2.1.1) Tryd.underlying25 rfl (ad_size _ (norm_len false HA.out))) rfl ⟨rfl, below_setRow H1.out.2.2 (by omega) _⟩
  · go_loopw [5] (fun i wr => i = .int .i64 4 ∧ wr = W) (fun _ _ => 0)
    case atStart => exact ⟨rfl, rfl⟩
    case round =>
      obtain ⟨rfl, rfl⟩ := hrel
      go_wp2_with (first
          | (refine wpList_load_ad rfl (.tmp 2) rfl rfl H0.out.1 ?_)
          | (refine wpList_store_row rfl 25 (.tmp 4) (.tmp 19) rfl (w.heap.size + 1) _ rfl rfl 25 _ H0.out.2.1.1 (ad_size _ ha) (by rw [adv_size _ H0.out.2.1.2, adv_size _ ha]) (adv_one _ _) ?_))
      exact bodyPost_ret (v := .agg (adv true (norm true a))) (results_cell_row rfl _ _ (w.heap.size + 1) 25 _ (0, 0) _ rfl (setRow_heap _ _ _ _ _ _ H0.out.2.1.1) Tryd.underlying25 rfl (ad_size _ ha)) rfl ⟨rfl, below_setRow H0.out.2.2 (by omega) _⟩
end Go.Proofs.YtioonjgamdompaaDoor
