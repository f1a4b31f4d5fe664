/-
  
-/
import Derived.Test.YtoagfmonfgagbaaGreatDoorZ40
import Derived.Test.YtoagfmonfgagbaaGreatDoorZ22
import Derived.Test.YtoagfmonfgagbaaGreatDoorChecked
import Derived.WalkKit
import Derived.Outline
import Derived.Test.YtoagfmonfgagbaaGreatDoorZ04
import Derived.Laws.CopyOwn
import Derived.Test.YtoagfmonfgagbaaGreatDoorZ02
import Derived.Lib.ConvBytes
import Derived.Lib.Strings
namespace Go.Proofs.YtoagfmonfgagbaaGreatDoor
open Go.RowKit
set_option maxRecDepth 100000
def capB (c : UInt8) : Prop := 65 ≤ c.toNat ∧ c.toNat ≤ 90
instance (c : UInt8) : Decidable (capB c) := by unfold capB; infer_instance
theorem capital_any (c : UInt8) (w : World) : Calls Tryz.prog 171 #[.int .u8 c.toNat] w fun e w' => e = .returned (.bool (decide (capB c))) ∧ w = w' := by
  by_cases h0 : 65 ≤ c.toNat
  · have e1 : decide (capB c) = decide ((c.toNat : Int) ≤ 90) := decide_eq_decide.2 ⟨fun h => by have := h.2; omega, fun h => ⟨h0, by omega⟩⟩
    rw [e1]
    clear e1
    go_enter Tryz.func171, Tryz.ntmps171
    go_wp2
    go_ret
    exact ⟨rfl, rfl⟩
  · rw [decide_eq_false (show ¬ capB c from fun h => h0 h.1)]
    go_enter Tryz.func171, Tryz.ntmps171
    go_wp2
    go_ret
    exact ⟨rfl, rfl⟩
theorem odd_any (c : UInt8) (w : World) : Calls Tryz.prog 160 #[.int .u8 c.toNat] w fun e w' => e = .returned (.bool (decide (¬ sign c))) ∧ w = w' := by
  by_cases h0 : c.toNat < 33
  · rw [decide_eq_true (show ¬ sign c from fun h => by unfold sign at h; omega)]
    go_enter Tryz.func160, Tryz.ntmps160
    go_wp2_with fail
    go_ret
    exact ⟨rfl, rfl⟩
  · by_cases h1 : 126 < c.toNat
    · rw [decide_eq_true (show ¬ sign c from fun h => by unfold sign at h; omega)]
      go_enter Tryz.func160, Tryz.ntmps160
      go_wp2_with fail
      go_ret
      exact ⟨rfl, rfl⟩
    · by_cases h2 : c.toNat = 46
      · rw [decide_eq_true (show ¬ sign c from fun h => by unfold sign at h; omega)]
        go_enter Tryz.func160, Tryz.ntmps160
        go_wp2_with fail
        go_ret
        exact ⟨rfl, rfl⟩
      · have e : decide (¬ sign c) = (decide ((c.toNat : Int) < 33) || decide (126 < (c.toNat : Int)) || (c.toNat : Int) == 46 || decide (capB c)) := by
          rw [decide_eq_false (show ¬ (c.toNat : Int) < 33 by omega), decide_eq_false (show ¬ 126 < (c.toNat : Int) by omega), beq_eq_false_iff_ne.2 (show (c.toNat : Int) ≠ 46 by omega), Bool.false_or, Bool.false_or, Bool.false_or]
          apply decide_eq_decide.2
          unfold sign capB
          omega
        rw [e]
        have K := Lib.hid (capital_any c w)
        generalize decide (capB c) = r at K ⊢
        clear e
        go_enter Tryz.func160, Tryz.ntmps160
        go_wp2_with fail
        refine K.out.mono ?_
        rintro e w' ⟨rfl, rfl⟩
        go_wp2_with fail
        go_ret
        exact ⟨rfl, rfl⟩
end Go.Proofs.YtoagfmonfgagbaaGreatDoor

namespace Go.Proofs.YtoagfmonfgagbaaGreatDoor
open Go.RowKit
set_option maxRecDepth 100000
set_option maxHeartbeats 1000000 in
theorem indexB_any {A : Option Addr} {n c : Nat} {l : List UInt8} {w : World} (hb : Bs w A n c l) : Calls Tryz.prog 170 #[.slice A n c, .func (.func 160) #[] #[]] w fun e w' =>
    ∃ r : Int, e = .returned (.int .i64 r) ∧ decide (0 ≤ r) = decide (∃ x ∈ l, ¬ sign x) ∧ w = w' := by
  have hcap := hb.cap
  have hmax := hb.max
  unfold maxLen at hmax
  have HB := Lib.hid hb
  clear hb
  go_enter Tryz.func170, Tryz.ntmps170
  go_wp2_with fail
  go_loop [8] (fun i => ∃ k : Nat, k ≤ n ∧ i = .int .i64 k ∧ ∀ (j : Nat) (x : UInt8), j < k → l[j]? = some x → sign x) (fun i => n - (intOf i).toNat)
  case atStart => exact ⟨0, Nat.zero_le _, rfl, fun j x h => absurd h (by omega)⟩
  case round =>
    obtain ⟨k, hk, rfl, hall⟩ := hrel
    by_cases hlt : k < n
    · obtain ⟨b, o, rfl, h1⟩ := HB.out.get hlt
      obtain ⟨x, hx⟩ : ∃ x, l[k]? = some x := ⟨l[k]'(by rw [HB.out.len]; exact hlt), List.getElem?_eq_getElem _⟩
      have hxe : l[k]'(by rw [HB.out.len]; exact hlt) = x := by
        have := List.getElem?_eq_getElem (l := l) (i := k) (by rw [HB.out.len]; exact hlt)
        rw [this] at hx
        exact Option.some.inj hx
      rw [hxe] at h1
      have K := Lib.hid (odd_any x w)
      have HX := Lib.hid (And.intro hx hall)
      clear hx hxe hall
      by_cases hs : sign x
      · rw [decide_eq_false (show ¬ ¬ sign x from fun h => h hs)] at K
        have HS := Lib.hid hs
        clear hs
        go_wp2_with fail
        refine K.out.mono ?_
        rintro e w' ⟨rfl, rfl⟩
        go_wp2_with fail
        go_round
        case rel =>
          refine ⟨k + 1, hlt, by go_num, fun j y hj hy => ?_⟩
          by_cases hjk : j = k
          · subst hjk
            rw [HX.out.1] at hy
            obtain rfl := Option.some.inj hy
            exact HS.out
          · exact HX.out.2 j y (by omega) hy
        case measure => simp [intOf]; omega
      · rw [decide_eq_true hs] at K
        have HS := Lib.hid hs
        clear hs
        go_wp2_with fail
        refine K.out.mono ?_
        rintro e w' ⟨rfl, rfl⟩
        go_wp2_with fail
        go_ret
        refine ⟨_, rfl, ?_, rfl⟩
        rw [decide_eq_true (show (0 : Int) ≤ (k : Int) by omega), decide_eq_true]
        exact ⟨x, List.mem_of_getElem? HX.out.1, HS.out⟩
    · obtain rfl : k = n := by omega
      have HX := Lib.hid hall
      clear hall
      go_wp2_with fail
      go_ret
      refine ⟨-1, rfl, ?_, rfl⟩
      refine ⟨fun h => absurd h (by decide), ?_⟩
      rintro ⟨x, hm, hs⟩
      exfalso
      obtain ⟨j, hj⟩ := List.mem_iff_getElem?.1 hm
      exact hs (HX.out j x (by have := (List.getElem?_eq_some_iff.1 hj).1; rw [HB.out.len] at this; exact this) hj)
theorem contB_any {A : Option Addr} {n c : Nat} {l : List UInt8} {w : World} (hb : Bs w A n c l) : Calls Tryz.prog 159 #[.slice A n c, .func (.func 160) #[] #[]] w fun e w' =>
    e = .returned (.bool (decide (∃ x ∈ l, ¬ sign x))) ∧ w = w' := by
  have K := Lib.hid (indexB_any hb)
  clear hb
  generalize decide (∃ x ∈ l, ¬ sign x) = d at K ⊢
  go_enter Tryz.func159, Tryz.ntmps159
  go_wp2_with fail
  refine K.out.mono ?_
  rintro e w' ⟨r, rfl, hr, rfl⟩
  subst hr
  go_wp2_with fail
  go_ret
  exact ⟨rfl, rfl⟩
theorem bs_of_str (w : World) (s : ByteArray) (hs : s.size ≤ 1000000) : Bs (Lib.bytesWorld w 5 s) (some ⟨w.heap.size, 0, none⟩) s.size (grownCap w s.size 0 5) s.data.toList ∧ Below w.heap.size w (Lib.bytesWorld w 5 s) := by
  refine ⟨⟨(Lib.size_eq s).symm, grownCap_ge w s.size 0 _, grownCap_le_maxLen w s.size 0 _ (by unfold maxLen; omega), (fun h => by cases h), fun hn => ⟨_, _, rfl, fun i x hx => ?_⟩⟩, ⟨rfl, rfl, rfl, by rw [Lib.bytesWorld_size]; omega, fun i hi => Lib.bytesWorld_at_old w _ s i hi⟩⟩
  rw [Nat.zero_add, Lib.bytesWorld_cell w _ s i (by have := (List.getElem?_eq_some_iff.1 hx).1; rw [Lib.size_eq]; exact this)]
  unfold List.getD
  rw [hx]
  rfl
theorem str_empty {s : ByteArray} (h : s.size = 0) : s = ⟨#[]⟩ := by
  cases s with
  | mk d =>
    have : d.size = 0 := h
    rw [Array.eq_empty_of_size_eq_zero this]
theorem labOk_not (s : ByteArray) : (¬ labOk s.data.toList) ↔ s.size = 0 ∨ 63 < s.size ∨ ∃ x ∈ s.data.toList, ¬ sign x := by
  rw [Lib.size_eq]
  unfold labOk
  constructor
  · intro h
    by_cases h1 : ∃ x ∈ s.data.toList, ¬ sign x
    · exact .inr (.inr h1)
    · by_cases h2 : s.data.toList.length = 0
      · exact .inl h2
      · by_cases h3 : 63 < s.data.toList.length
        · exact .inr (.inl h3)
        · exact absurd ⟨fun c hc => Decidable.byContradiction fun hs => h1 ⟨c, hc, hs⟩, by omega, by omega⟩ h
  · rintro h ⟨h1, h2, h3⟩
    rcases h with h | h | ⟨x, hx, hs⟩
    · omega
    · omega
    · exact hs (h1 x hx)
set_option maxHeartbeats 1000000 in
theorem wrong_any (s : ByteArray) (hs : s.size ≤ 1000000) (w : World) : Calls Tryz.prog 145 #[.string s] w fun e w' => e = .returned (.bool (decide (¬ labOk s.data.toList))) ∧ Below w.heap.size w w' := by
  have hno := labOk_not s
  by_cases h0 : s.size = 0
  · rw [decide_eq_true (hno.2 (.inl h0))]
    obtain rfl := str_empty h0
    clear hno h0
    go_enter Tryz.func145, Tryz.ntmps145
    go_wp2_with fail
    go_ret
    exact ⟨rfl, Below.refl _ _⟩
  · have e0 : s.toList.isEmpty = false := by
      rw [Lib.toList_data]
      cases hd : s.data.toList with
      | nil => exact absurd (by rw [Lib.size_eq, hd]; rfl) h0
      | cons _ _ => rfl
    by_cases h1 : 63 < s.size
    · rw [decide_eq_true (hno.2 (.inr (.inl h1)))]
      clear hno
      go_enter Tryz.func145, Tryz.ntmps145
      go_wp2_with fail
      go_ret
      exact ⟨rfl, Below.refl _ _⟩
    · have e1 : decide (¬ labOk s.data.toList) = (decide (63 < (s.size : Int)) || decide (∃ x ∈ s.data.toList, ¬ sign x)) := by
        rw [decide_eq_false (show ¬ 63 < (s.size : Int) by omega), Bool.false_or]
        apply decide_eq_decide.2
        rw [hno]
        exact ⟨fun h => by rcases h with h | h | h <;> first | exact absurd h h0 | exact absurd h h1 | exact h, fun h => .inr (.inr h)⟩
      rw [e1]
      obtain ⟨hB, hW⟩ := bs_of_str w s hs
      have K := Lib.hid (And.intro (contB_any hB) hW)
      have y1 : ∀ w : World, (convert 9 67 (.string s)).run Tryz.prog w = .ok (.slice (some ⟨w.heap.size, 0, none⟩) s.size (grownCap w s.size 0 5)) (Lib.bytesWorld w 5 s) := fun w => Lib.run_convert_string_bytes w _ _ _ s Tryz.underlying9 Tryz.underlying67 Tryz.underlying5
      clear hno e1 hB hW
      generalize decide (∃ x ∈ s.data.toList, ¬ sign x) = d at K ⊢
      go_enter Tryz.func145, Tryz.ntmps145
      go_wp2_with fail
      refine K.out.1.mono ?_
      rintro e w' ⟨rfl, rfl⟩
      go_wp2_with fail
      go_ret
      exact ⟨rfl, K.out.2⟩
end Go.Proofs.YtoagfmonfgagbaaGreatDoor
