/-
  Package ip6's number, turn, isHead, may. Conditions: those of the slice.
-/
import Derived.Test.YtceigepclemdmaaDoorSpec7
import Derived.Test.YtceigepclemdmaaDoorRight
import Derived.Test.YtceigepclemdmaaDoorOctE
namespace Go.Proofs.YtceigepclemdmaaDoor
open Go.RowKit
set_option maxRecDepth 100000

theorem num_any6 {A : Option Addr} {n c : Nat} {l : List UInt8} {w : World} (hb : Bs w A n c l) (i : Nat) (hi : i + 2 ≤ n) : Calls Tryd.prog 19 #[.slice A n c, .int .i64 i] w fun e w' => e = .returned (.int .i64 (num2 l i)) ∧ w = w' := by
  have H := Lib.hid (u16_ok hb i hi)
  unfold num2
  clear hb
  go_enter Tryd.func19, Tryd.ntmps19
  go_wp2_with fail
  refine H.out.mono ?_
  rintro e w' ⟨rfl, rfl⟩
  go_wp2_with fail
  go_ret
  exact ⟨rfl, rfl⟩

/-- An error's number as an error; 0 as none. -/
def ev (c : Int) : Value := if c = 0 then .nilIface else .iface 34 (.int .i64 c)
/-- What turn answers. -/
def turnv (k b : Int) : Int := if ext k then (if k = 0 ∧ 0 < b then 10 else if 8 ≤ b then 11 else 0) else 5
theorem turnv_first {b : Int} (h : 0 < b) : turnv 0 b = 10 := by unfold turnv; rw [if_pos (show ext 0 from .inl rfl), if_pos ⟨rfl, h⟩]
theorem turnv_zero {b : Int} (h : ¬ 0 < b) : turnv 0 b = 0 := by unfold turnv; rw [if_pos (show ext 0 from .inl rfl), if_neg (fun x => h x.2), if_neg (by omega)]
theorem turnv_deep {k b : Int} (hk : ext k) (h0 : k ≠ 0) (h : 8 ≤ b) : turnv k b = 11 := by unfold turnv; rw [if_pos hk, if_neg (fun x => h0 x.1), if_pos h]
theorem turnv_ok {k b : Int} (hk : ext k) (h0 : k ≠ 0) (h : ¬ 8 ≤ b) : turnv k b = 0 := by unfold turnv; rw [if_pos hk, if_neg (fun x => h0 x.1), if_neg h]
theorem turnv_no {k b : Int} (hk : ¬ ext k) : turnv k b = 5 := by unfold turnv; rw [if_neg hk]
theorem turn_any (k b : Int) (w : World) : Calls Tryd.prog 27 #[.int .i64 k, .int .i64 b] w fun e w' => e = .returned (ev (turnv k b)) ∧ w = w' := by
  rcases (show k = 0 ∨ k = 43 ∨ k = 60 ∨ k = 44 ∨ ¬ (k = 0 ∨ k = 43 ∨ k = 60 ∨ k = 44) by omega) with rfl | rfl | rfl | rfl | h
  · rcases (show 0 < b ∨ ¬ 0 < b by omega) with hb | hb
    · rw [turnv_first hb]
      go_enter Tryd.func27, Tryd.ntmps27
      go_wp2
      go_ret
      exact ⟨rfl, rfl⟩
    · rw [turnv_zero hb]
      have hb8 : ¬ 8 ≤ b := by omega
      go_enter Tryd.func27, Tryd.ntmps27
      go_wp2
      go_ret
      exact ⟨rfl, rfl⟩
  · rcases (show 8 ≤ b ∨ ¬ 8 ≤ b by omega) with hb | hb
    · rw [turnv_deep (show ext 43 by unfold ext; omega) (by omega) hb]
      go_enter Tryd.func27, Tryd.ntmps27
      go_wp2
      go_ret
      exact ⟨rfl, rfl⟩
    · rw [turnv_ok (show ext 43 by unfold ext; omega) (by omega) hb]
      go_enter Tryd.func27, Tryd.ntmps27
      go_wp2
      go_ret
      exact ⟨rfl, rfl⟩
  · rcases (show 8 ≤ b ∨ ¬ 8 ≤ b by omega) with hb | hb
    · rw [turnv_deep (show ext 60 by unfold ext; omega) (by omega) hb]
      go_enter Tryd.func27, Tryd.ntmps27
      go_wp2
      go_ret
      exact ⟨rfl, rfl⟩
    · rw [turnv_ok (show ext 60 by unfold ext; omega) (by omega) hb]
      go_enter Tryd.func27, Tryd.ntmps27
      go_wp2
      go_ret
      exact ⟨rfl, rfl⟩
  · rcases (show 8 ≤ b ∨ ¬ 8 ≤ b by omega) with hb | hb
    · rw [turnv_deep (show ext 44 by unfold ext; omega) (by omega) hb]
      go_enter Tryd.func27, Tryd.ntmps27
      go_wp2
      go_ret
      exact ⟨rfl, rfl⟩
    · rw [turnv_ok (show ext 44 by unfold ext; omega) (by omega) hb]
      go_enter Tryd.func27, Tryd.ntmps27
      go_wp2
      go_ret
      exact ⟨rfl, rfl⟩
  · rw [turnv_no (show ¬ ext k from h)]
    have h0 : ¬ k = 0 := by omega
    have h1 : ¬ k = 43 := by omega
    have h2 : ¬ k = 60 := by omega
    have h3 : ¬ k = 44 := by omega
    clear h
    go_enter Tryd.func27, Tryd.ntmps27
    go_wp2
    go_ret
    exact ⟨rfl, rfl⟩

theorem isHead_any (k : Int) (w : World) : Calls Tryd.prog 26 #[.int .i64 k] w fun e w' => e = .returned (.bool (decide (ext k))) ∧ w = w' := by
  have H := turn_any k 0 w
  by_cases h : ext k
  · have ht : turnv k 0 = 0 := by unfold turnv; rw [if_pos h, if_neg (by omega), if_neg (by omega)]
    rw [decide_eq_true h]
    rw [ht, show ev 0 = .nilIface from rfl] at H
    have H := Lib.hid H
    clear h ht
    go_enter Tryd.func26, Tryd.ntmps26
    go_wp2_with fail
    refine H.out.mono ?_
    rintro e w' ⟨rfl, rfl⟩
    go_wp2_with fail
    refine (Is_nil _ _ w).mono ?_
    rintro e w' ⟨rfl, rfl⟩
    go_wp2_with fail
    go_ret
    exact ⟨rfl, rfl⟩
  · have ht : turnv k 0 = 5 := by unfold turnv; rw [if_neg h]
    rw [decide_eq_false h]
    rw [ht, show ev 5 = .iface 34 (.int .i64 5) from rfl] at H
    have H := Lib.hid H
    clear h ht
    go_enter Tryd.func26, Tryd.ntmps26
    go_wp2_with fail
    refine H.out.mono ?_
    rintro e w' ⟨rfl, rfl⟩
    go_wp2_with fail
    refine (Is_any (x := 5) (Faults.errno (w := w) 5)).mono ?_
    rintro e w' ⟨rfl, rfl⟩
    go_wp2_with fail
    go_ret
    exact ⟨rfl, rfl⟩

theorem firstv_all6 {bs : List UInt8} (h : bs.length ≤ 16) : firstv bs 128 = bs := by
  apply List.ext_getElem?
  intro i
  rw [show (firstv bs 128)[i]? = (bs[i]?).map fun b => b &&& mk8 (min (128 - 8 * i) 8) by simp [firstv]]
  cases hb : bs[i]? with
  | none => rfl
  | some b =>
    have hi := (List.getElem?_eq_some_iff.1 hb).1
    show some (b &&& mk8 (min (128 - 8 * i) 8)) = some b
    rw [show min (128 - 8 * i) 8 = 8 by omega, show mk8 8 = 255 from rfl, show (255 : UInt8) = -1 from rfl, UInt8.and_neg_one]
theorem right_true {bs : List UInt8} (hl : bs.length = 16) : rightv true bs = true := by unfold rightv; rw [show wid true = 128 from rfl, firstv_all6 (by omega), beq_self_eq_true]
theorem may_any (v6 : Bool) (bs : List UInt8) (hl : bs.length = 16) (w : World) : Calls Tryd.prog 25 #[.agg (adv v6 bs)] w fun e w' => e = .returned (.bool v6) ∧ Below w.heap.size w w' := by
  have A1 := AdBox.new w v6 hl
  have B1 : Below w.heap.size w (w.alloc (.cells (adv v6 bs) 25)) := (Below.refl _ _).alloc (Nat.le_refl _) _
  have HA := Lib.hid (And.intro A1 B1)
  clear A1 B1
  go_enter Tryd.func25, Tryd.ntmps25
  go_wp2_with (refine wpList_load_ad rfl (.tmp 1) rfl rfl HA.out.1 ?_)
  generalize w.alloc (.cells (adv v6 bs) 25) = W at HA ⊢
  have hR := Right_any v6 bs hl W
  cases hr : rightv v6 bs with
  | false =>
    rw [hr] at hR
    have hv : v6 = false := by
      cases v6 with
      | false => rfl
      | true => rw [right_true hl] at hr; cases hr
    subst hv
    have HR := Lib.hid hR
    clear hR hr
    refine HR.out.mono ?_
    rintro e w1 ⟨rfl, b1⟩
    have H1 := Lib.hid (HA.out.2.trans (b1.mono HA.out.2.size))
    clear b1
    go_wp2_with fail
    go_ret
    exact ⟨rfl, H1.out⟩
  | true =>
    rw [hr] at hR
    have HR := Lib.hid hR
    clear hR hr
    refine HR.out.mono ?_
    rintro e w1 ⟨rfl, b1⟩
    have c1 := (HA.out.1.later b1 (Nat.le_refl _)).v6_cell
    have H1 := Lib.hid (HA.out.2.trans (b1.mono HA.out.2.size))
    clear b1
    go_wp2_with fail
    go_ret
    exact ⟨rfl, H1.out⟩
end Go.Proofs.YtceigepclemdmaaDoor
