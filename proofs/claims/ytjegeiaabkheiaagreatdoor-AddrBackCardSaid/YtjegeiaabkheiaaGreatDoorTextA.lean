/-
  Package addr's Text. Conditions: what the program's text has laid (Env).
-/
import Derived.Test.YtjegeiaabkheiaaGreatDoorText6
import Derived.Test.YtjegeiaabkheiaaGreatDoorRNet
namespace Go.Proofs.YtjegeiaabkheiaaGreatDoor
open Go.RowKit
set_option maxRecDepth 100000

/-- An address as text. -/
def textv (v6 : Bool) (bs : List UInt8) : List UInt8 := if rightv v6 bs then (if v6 then text6v bs else text4v bs) else []
theorem wpList_load_arr {ops : Array Oper} {rest : List Oper} {o : Oper} {a : Act} {w : World} {Q : Exit → Act → World → Prop} (hgd : o.guard = none) (x : Operand) (ho : o.op = .load 22 x) {g : Nat} {bs : List UInt8} (hl : bs.length = 16)
    (hx : a.eval x = .pointer (some ⟨g, 1, none⟩)) (hr : w.rangeAt g 1 (bv bs).toArray.toList) (h : wpList Tryz.prog ops Q rest (a.put o.dst (.agg (bv bs).toArray)) w) : wpList Tryz.prog ops Q (o :: rest) a w :=
  wpList_load_mid hgd 22 x ho g 1 hx (bv bs) _ hr Tryz.underlying22 rfl (arr_size hl) h

set_option maxHeartbeats 1000000 in
theorem Text_any (v6 : Bool) (bs : List UInt8) (hl : bs.length = 16) {w : World} (hE : Env w) : Calls Tryz.prog 15 #[.agg (adv v6 bs)] w fun e w' => e = .returned (.string (mkS (textv v6 bs))) ∧ Below w.heap.size w w' := by
  have A1 := AdBox.new w v6 hl
  have B1 : Below w.heap.size w (w.alloc (.cells (adv v6 bs) 24)) := (Below.refl _ _).alloc (Nat.le_refl _) _
  have HE := Lib.hid hE
  have H1 := Lib.hid (And.intro A1 B1)
  clear A1 B1 hE
  have h4 : ∀ w1, Below w.heap.size w w1 → Hid (Calls Tryz.prog 40 #[.agg (bv bs).toArray] w1 fun e w' => e = .returned (.string (mkS (text4v bs))) ∧ Below w1.heap.size w1 w') := fun w1 hb => text4_any bs hl (HE.out.later hb (Nat.le_refl _))
  have h6 : ∀ w1, Below w.heap.size w w1 → Hid (Calls Tryz.prog 39 #[.agg (bv bs).toArray] w1 fun e w' => e = .returned (.string (mkS (text6v bs))) ∧ Below w1.heap.size w1 w') := fun w1 hb => text6_any bs hl (HE.out.later hb (Nat.le_refl _))
  have H4 := Lib.hid h4
  have H6 := Lib.hid h6
  clear h4 h6
  have hres : textv v6 bs = if rightv v6 bs then (if v6 then text6v bs else text4v bs) else [] := rfl
  have hR := Right_any v6 bs hl
  cases hr : rightv v6 bs with
  | false =>
    rw [hr] at hres hR
    have HR := Lib.hid hR
    have HT := Lib.hid hres
    clear hR hres hr
    go_enter Tryz.func15, Tryz.ntmps15
    go_wp2_with (refine wpList_load_ad rfl (.tmp 1) rfl rfl H1.out.1 ?_)
    refine (HR.out _).mono ?_
    rintro e w1 ⟨rfl, b1⟩
    have H2 := Lib.hid (H1.out.2.trans (b1.mono H1.out.2.size))
    clear b1
    go_wp2_with fail
    go_ret
    exact ⟨by rw [HT.out]; rfl, H2.out⟩
  | true =>
    rw [hr] at hres hR
    have HR := Lib.hid hR
    have HT := Lib.hid hres
    clear hR hres hr
    cases v6
    · go_enter Tryz.func15, Tryz.ntmps15
      go_wp2_with (refine wpList_load_ad rfl (.tmp 1) rfl rfl H1.out.1 ?_)
      refine (HR.out _).mono ?_
      rintro e w1 ⟨rfl, b1⟩
      have hc := (H1.out.1.later b1 (Nat.le_refl _)).v6_cell
      have H2 := Lib.hid (And.intro (H1.out.2.trans (b1.mono H1.out.2.size)) (H1.out.1.later b1 (Nat.le_refl _)))
      clear b1
      go_wp2_with (refine wpList_load_arr rfl (.tmp 13) rfl hl rfl H2.out.2.range1 ?_)
      refine (H4.out w1 H2.out.1).out.mono ?_
      rintro e w2 ⟨rfl, b2⟩
      have H3 := Lib.hid (H2.out.1.trans (b2.mono H2.out.1.size))
      clear b2
      go_wp2_with fail
      go_ret
      exact ⟨by rw [HT.out]; rfl, H3.out⟩
    · go_enter Tryz.func15, Tryz.ntmps15
      go_wp2_with (refine wpList_load_ad rfl (.tmp 1) rfl rfl H1.out.1 ?_)
      refine (HR.out _).mono ?_
      rintro e w1 ⟨rfl, b1⟩
      have hc := (H1.out.1.later b1 (Nat.le_refl _)).v6_cell
      have H2 := Lib.hid (And.intro (H1.out.2.trans (b1.mono H1.out.2.size)) (H1.out.1.later b1 (Nat.le_refl _)))
      clear b1
      go_wp2_with (refine wpList_load_arr rfl (.tmp 10) rfl hl rfl H2.out.2.range1 ?_)
      refine (H6.out w1 H2.out.1).out.mono ?_
      rintro e w2 ⟨rfl, b2⟩
      have H3 := Lib.hid (H2.out.1.trans (b2.mono H2.out.1.size))
      clear b2
      go_wp2_with fail
      go_ret
      exact ⟨by rw [HT.out]; rfl, H3.out⟩
end Go.Proofs.YtjegeiaabkheiaaGreatDoor
