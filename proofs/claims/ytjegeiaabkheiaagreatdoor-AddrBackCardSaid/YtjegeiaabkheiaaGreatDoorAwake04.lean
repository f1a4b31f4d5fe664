/-
  stockadelaw04.awake answers true. Conditions: what the program's text has laid (Env).
-/
import Derived.Test.YtjegeiaabkheiaaGreatDoorParse
import Derived.Test.YtjegeiaabkheiaaGreatDoorTextA
import Derived.Test.YtjegeiaabkheiaaGreatDoorIn
import Derived.Test.YtjegeiaabkheiaaGreatDoorPxL
namespace Go.Proofs.YtjegeiaabkheiaaGreatDoor
open Go.RowKit
set_option maxRecDepth 100000

def b1234 : List UInt8 := [1, 2, 3, 4, 0, 0, 0, 0, 0, 0, 0, 0, 0, 0, 0, 0]
def t1234 : ByteArray := ⟨#[49, 46, 50, 46, 51, 46, 52]⟩
theorem parse_1234 : parsev t1234.data.toList = some (false, b1234) := by decide +kernel
theorem dec_small (n : Nat) (h : n < 10) : Lib.decDigits n = [UInt8.ofNat (48 + n)] := by rw [Lib.decDigits, dif_pos h]
theorem right_1234 : rightv false b1234 = true := by decide +kernel
theorem text_1234 : mkS (textv false b1234) = t1234 := by
  apply bytes_inj'
  rw [mkS_data]
  unfold textv
  rw [right_1234]
  show text4v b1234 = _
  unfold text4v
  show Lib.join [Lib.decDigits 1, Lib.decDigits 2, Lib.decDigits 3, Lib.decDigits 4] [46] = _
  rw [dec_small 1 (by omega), dec_small 2 (by omega), dec_small 3 (by omega), dec_small 4 (by omega)]
  rfl
def n1 : List UInt8 := [1, 0, 0, 0, 0, 0, 0, 0, 0, 0, 0, 0, 0, 0, 0, 0]
theorem in_1234 : inv false b1234 false n1 8 = true := by decide +kernel

set_option maxHeartbeats 1000000 in
theorem awake04 {w : World} (hE : Env w) : Calls Tryz.prog 7 #[] w fun e w' => e = .returned (.bool true) ∧ Below w.heap.size w w' := by
  have k1 := Parse_any t1234 (by decide) hE
  rw [parse_1234] at k1
  have K1 := Lib.hid k1
  have HE := Lib.hid hE
  clear k1 hE
  have KT : ∀ w1, Below w.heap.size w w1 → Hid (Calls Tryz.prog 15 #[.agg (adv false b1234)] w1 fun e w' => e = .returned (.string t1234) ∧ Below w1.heap.size w1 w') := fun w1 hb => by
    have := Text_any false b1234 rfl (HE.out.later hb (Nat.le_refl _))
    rw [text_1234] at this
    exact this
  have KR : ∀ w1, Hid (Calls Tryz.prog 13 #[.agg (adv false b1234)] w1 fun e w' => e = .returned (.bool true) ∧ Below w1.heap.size w1 w') := fun w1 => by
    have := Right_any false b1234 rfl w1
    rw [right_1234] at this
    exact this
  have KI : ∀ w1, Hid (Calls Tryz.prog 21 #[.agg (adv false b1234), .agg (pxv false n1 8)] w1 fun e w' => e = .returned (.bool true) ∧ Below w1.heap.size w1 w') := fun w1 => by
    have := In_any false b1234 rfl false n1 rfl 8 w1
    rw [in_1234] at this
    exact this
  have KT := Lib.hid KT
  have KR := Lib.hid KR
  have KI := Lib.hid KI
  go_enter Tryz.func7, Tryz.ntmps7
  go_wp2_with fail
  refine K1.out.mono ?_
  rintro e w1 ⟨b1, _, rfl⟩
  have H1 := Lib.hid b1
  clear b1
  go_wp2_with (first
    | (refine wpList_alloc_ad rfl rfl ?_; intro w2 a2 b2 z2; have H2 := Lib.hid (And.intro a2 (And.intro (H1.out.trans (b2.mono H1.out.size)) b2)); clear a2 b2 z2)
    | (refine wpList_store_ad rfl (.tmp 1) (.tmp 5) rfl false b1234 rfl rfl rfl H2.out.1 ?_; intro w3 a3 o3 z3 b3; have H3 := Lib.hid (And.intro a3 (b3 w.heap.size w H1.out.size H2.out.2.1)); clear a3 o3 z3 b3)
    | (refine wpList_load_row_w rfl 24 (.tmp 1) rfl w1.heap.size 0 rfl (adv false b1234) _ H3.out.1.range Tryz.underlying24 rfl (ad_size false rfl) ?_))
  refine (KT.out w3 H3.out.2).out.mono ?_
  rintro e w4 ⟨rfl, b4⟩
  have H4 := Lib.hid (And.intro (H3.out.1.later b4 (Nat.le_refl _)) (H3.out.2.trans (b4.mono H3.out.2.size)))
  clear b4
  have ht : t1234.toList = [49, 46, 50, 46, 51, 46, 52] := by rw [ByteArray.toList_eq]; rfl
  go_wp2_with (refine wpList_load_row_w rfl 24 (.tmp 1) rfl w1.heap.size 0 rfl (adv false b1234) _ H4.out.1.range Tryz.underlying24 rfl (ad_size false rfl) ?_)
  refine (KR.out w4).out.mono ?_
  rintro e w5 ⟨rfl, b5⟩
  have H5 := Lib.hid (And.intro (H4.out.1.later b5 (Nat.le_refl _)) (H4.out.2.trans (b5.mono H4.out.2.size)))
  clear b5
  go_wp2_with (refine wpList_load_row_w rfl 24 (.tmp 1) rfl w1.heap.size 0 rfl (adv false b1234) _ H5.out.1.range Tryz.underlying24 rfl (ad_size false rfl) ?_)
  refine (KI.out w5).out.mono ?_
  rintro e w6 ⟨rfl, b6⟩
  have H6 := Lib.hid (H5.out.2.trans (b6.mono H5.out.2.size))
  clear b6
  go_wp2_with fail
  go_ret
  exact ⟨rfl, H6.out⟩
end Go.Proofs.YtjegeiaabkheiaaGreatDoor
