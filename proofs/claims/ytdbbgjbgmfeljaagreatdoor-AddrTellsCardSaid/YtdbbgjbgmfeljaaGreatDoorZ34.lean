/-
  stockadelaw04.awake answers true. Conditions: what the program's text has laid (Env).
  Package addr's ParseNet. Conditions: what the program's text has laid (Env).
  What parts a text has: so many cuts at most against all cuts; where a dot stands there is no address of version 6. No conditions.
  An address of version 6: the code's parts against the document's. No conditions.
  A net in a text: the code's parts against the document's. No conditions.
  stockaderef01: six: an address of version 6, as the document's own answers read it. Conditions: the text's length.
-/
import Derived.Test.YtdbbgjbgmfeljaaGreatDoorZ33
import Derived.Test.YtdbbgjbgmfeljaaGreatDoorZ30
import Derived.Test.YtdbbgjbgmfeljaaGreatDoorZ15
import Derived.Test.YtdbbgjbgmfeljaaGreatDoorZ14
import Derived.Test.YtdbbgjbgmfeljaaGreatDoorZ32
import Derived.Test.YtdbbgjbgmfeljaaGreatDoorZ07
import Derived.BigRegion
namespace Go.Proofs.YtdbbgjbgmfeljaaGreatDoor
open Go.RowKit
set_option maxRecDepth 100000

def b1234 : List UInt8 := [1, 2, 3, 4, 0, 0, 0, 0, 0, 0, 0, 0, 0, 0, 0, 0]
def t1234 : ByteArray := ⟨#[49, 46, 50, 46, 51, 46, 52]⟩
theorem parse_1234 : parsev t1234.data.toList = some (false, b1234) := by decide +kernel
theorem dec_small (n : Nat) (h : n < 10) : Lib.decDigits n = [UInt8.ofNat (48 + n)] := by rw [Lib.decDigits, dif_pos h]
theorem right_1234 : rightv false b1234 = true := by decide +kernel
theorem text_1234 : mkS (textv false b1234) = t1234 := by
  apply bytes_inj'
  rw [mkS_data]
  unfold textv
  rw [right_1234]
  show text4v b1234 = _
  unfold text4v
  show Lib.join [Lib.decDigits 1, Lib.decDigits 2, Lib.decDigits 3, Lib.decDigits 4] [46] = _
  rw [dec_small 1 (by omega), dec_small 2 (by omega), dec_small 3 (by omega), dec_small 4 (by omega)]
  rfl
def n1 : List UInt8 := [1, 0, 0, 0, 0, 0, 0, 0, 0, 0, 0, 0, 0, 0, 0, 0]
theorem in_1234 : inv false b1234 false n1 8 = true := by decide +kernel

set_option maxHeartbeats 1000000 in
theorem awake04 {w : World} (hE : Env w) : Calls Tryz.prog 4 #[] w fun e w' => e = .returned (.bool true) ∧ Below w.heap.size w w' := by
  have k1 := Parse_any t1234 (by decide) hE
  rw [parse_1234] at k1
  have K1 := Lib.hid k1
  have HE := Lib.hid hE
  clear k1 hE
  have KT : ∀ w1, Below w.heap.size w w1 → Hid (Calls Tryz.prog 12 #[.agg (adv false b1234)] w1 fun e w' => e = .returned (.string t1234) ∧ Below w1.heap.size w1 w') := fun w1 hb => by
    have := Text_any false b1234 rfl (HE.out.later hb (Nat.le_refl _))
    rw [text_1234] at this
    exact this
  have KR : ∀ w1, Hid (Calls Tryz.prog 10 #[.agg (adv false b1234)] w1 fun e w' => e = .returned (.bool true) ∧ Below w1.heap.size w1 w') := fun w1 => by
    have := Right_any false b1234 rfl w1
    rw [right_1234] at this
    exact this
  have KI : ∀ w1, Hid (Calls Tryz.prog 18 #[.agg (adv false b1234), .agg (pxv false n1 8)] w1 fun e w' => e = .returned (.bool true) ∧ Below w1.heap.size w1 w') := fun w1 => by
    have := In_any false b1234 rfl false n1 rfl 8 w1
    rw [in_1234] at this
    exact this
  have KT := Lib.hid KT
  have KR := Lib.hid KR
  have KI := Lib.hid KI
  go_enter Tryz.func4, Tryz.ntmps4
  go_wp2_with fail
  refine K1.out.mono ?_
  rintro e w1 ⟨b1, _, rfl⟩
  have H1 := Lib.hid b1
  clear b1
  go_wp2_with (first
    | (refine wpList_alloc_ad rfl rfl ?_; intro w2 a2 b2 z2; have H2 := Lib.hid (And.intro a2 (And.intro (H1.out.trans (b2.mono H1.out.size)) b2)); clear a2 b2 z2)
    | (refine wpList_store_ad rfl (.tmp 1) (.tmp 5) rfl false b1234 rfl rfl rfl H2.out.1 ?_; intro w3 a3 o3 z3 b3; have H3 := Lib.hid (And.intro a3 (b3 w.heap.size w H1.out.size H2.out.2.1)); clear a3 o3 z3 b3)
    | (refine wpList_load_row_w rfl 24 (.tmp 1) rfl w1.heap.size 0 rfl (adv false b1234) _ H3.out.1.range Tryz.underlying24 rfl (ad_size false rfl) ?_))
  refine (KT.out w3 H3.out.2).out.mono ?_
  rintro e w4 ⟨rfl, b4⟩
  have H4 := Lib.hid (And.intro (H3.out.1.later b4 (Nat.le_refl _)) (H3.out.2.trans (b4.mono H3.out.2.size)))
  clear b4
  have ht : t1234.toList = [49, 46, 50, 46, 51, 46, 52] := by rw [ByteArray.toList_eq]; rfl
  go_wp2_with (refine wpList_load_row_w rfl 24 (.tmp 1) rfl w1.heap.size 0 rfl (adv false b1234) _ H4.out.1.range Tryz.underlying24 rfl (ad_size false rfl) ?_)
  refine (KR.out w4).out.mono ?_
  rintro e w5 ⟨rfl, b5⟩
  have H5 := Lib.hid (And.intro (H4.out.1.later b5 (Nat.le_refl _)) (H4.out.2.trans (b5.mono H4.out.2.size)))
  clear b5
  go_wp2_with (refine wpList_load_row_w rfl 24 (.tmp 1) rfl w1.heap.size 0 rfl (adv false b1234) _ H5.out.1.range Tryz.underlying24 rfl (ad_size false rfl) ?_)
  refine (KI.out w5).out.mono ?_
  rintro e w6 ⟨rfl, b6⟩
  have H6 := Lib.hid (H5.out.2.trans (b6.mono H5.out.2.size))
  clear b6
  go_wp2_with fail
  go_ret
  exact ⟨rfl, H6.out⟩
end Go.Proofs.YtdbbgjbgmfeljaaGreatDoor

namespace Go.Proofs.YtdbbgjbgmfeljaaGreatDoor
open Go.RowKit
set_option maxRecDepth 100000

/-- The net that a text tells. -/
def parsenetv (l : List UInt8) : Option (Bool × List UInt8 × Nat) :=
  (parsev (Lib.cut l [47]).1).bind fun a => (decv (Lib.cut l [47]).2.1).bind fun n => if rightnetv a.1 a.2 n then some (a.1, a.2, n) else none
def Pn (r : Option (Bool × List UInt8 × Nat)) (w : World) (e : Ending) (w' : World) : Prop :=
  Below w.heap.size w w' ∧ match r with
    | some (v6, bs, n) => bs.length = 16 ∧ e = .returned (.tuple #[.agg (pxv v6 bs n), .nilIface])
    | none => e = .returned (.tuple #[.agg (pxv false (List.replicate 16 0) 0), .iface 32 (.int .i64 17)])

set_option maxHeartbeats 4000000 in
theorem ParseNet_any (s : ByteArray) (hs : s.size < 4294967281) {w : World} (hE : Env w) : Calls Tryz.prog 7 #[.string s] w (Pn (parsenetv s.data.toList) w) := by
  have hl : s.data.toList.length = s.size := (Lib.size_eq s).symm
  have hcl := cut_len s.data.toList [47]
  have hpn : parsenetv s.data.toList = (parsev (Lib.cut s.data.toList [47]).1).bind fun a => (decv (Lib.cut s.data.toList [47]).2.1).bind fun n => if rightnetv a.1 a.2 n then some (a.1, a.2, n) else none := rfl
  have HE := Lib.hid hE
  clear hE
  go_enter Tryz.func7, Tryz.ntmps7
  go_wp2_with (refine wpList_alloc_px rfl rfl ?_; intro w1 a1 b1 z1; have H1 := Lib.hid (And.intro a1 b1); clear a1 b1 z1)
  refine (cut_any s ⟨#[47]⟩ hs (HE.out.later H1.out.2 (Nat.le_refl _))).mono ?_
  rw [show (ByteArray.mk #[47]).data.toList = [47] from rfl]
  rintro e w2 ⟨rfl, b2⟩
  obtain ⟨la, ra, sh, hc⟩ : ∃ la ra sh, Lib.cut s.data.toList [47] = (la, ra, sh) := ⟨_, _, _, rfl⟩
  rw [hc] at hcl hpn ⊢
  simp only at hcl hpn ⊢
  have H2 := Lib.hid (And.intro (H1.out.1.later b2 (Nat.le_refl _)) (H1.out.2.trans (b2.mono H1.out.2.size)))
  have HPN := Lib.hid hpn
  have hla : (ByteArray.mk la.toArray).size < 4294967281 := by show la.toArray.size < _; simp; omega
  have hra : (ByteArray.mk ra.toArray).size ≤ maxLen := by show ra.toArray.size ≤ _; unfold maxLen; simp; omega
  have k1 := Parse_any ⟨la.toArray⟩ hla (HE.out.later H2.out.2 (Nat.le_refl _))
  rw [show (ByteArray.mk la.toArray).data.toList = la from by simp] at k1
  have K2 : ∀ w3, Below w.heap.size w w3 → Hid (Calls Tryz.prog 27 #[.string ⟨ra.toArray⟩] w3 (Num (decv ra) w3)) := fun w3 hb => by
    have := decimal_any ⟨ra.toArray⟩ hra (HE.out.later hb (Nat.le_refl _))
    rw [show (ByteArray.mk ra.toArray).data.toList = ra from by simp] at this
    exact this
  have K2 := Lib.hid K2
  have K1 := Lib.hid k1
  clear hc b2 hpn hla hra k1 hcl hl
  cases hx : parsev la with
  | none =>
    rw [hx] at K1 HPN
    clear hx
    simp only [Option.bind_none] at HPN
    go_wp2_with fail
    refine K1.out.mono ?_
    rintro e w3 ⟨b3, rfl⟩
    have H3 := Lib.hid (And.intro (H2.out.1.later b3 (Nat.le_refl _)) (H2.out.2.trans (b3.mono H2.out.2.size)))
    clear b3
    go_wp2_with (first
      | (refine wpList_alloc_ad rfl rfl ?_; intro w4 a4 b4 z4; have H4 := Lib.hid (And.intro (H3.out.1.later b4 (Nat.le_refl _)) (And.intro a4 (And.intro (H3.out.2.trans (b4.mono H3.out.2.size)) b4))); clear a4 b4 z4)
      | (refine wpList_store_ad rfl (.tmp 7) (.tmp 20) rfl false (List.replicate 16 0) rfl rfl rfl H4.out.2.1 ?_; intro w5 a5 o5 z5 b5; have H5 := Lib.hid (And.intro (H3.out.1.later (b5 _ _ (Nat.le_refl _) H4.out.2.2.2) (Nat.le_refl _)) (b5 w.heap.size w H3.out.2.size H4.out.2.2.1)); clear a5 o5 z5 b5)
      | (refine wpList_store_px rfl (.tmp 2) (.tmp 24) rfl false (List.replicate 16 0) 0 rfl rfl rfl H5.out.1 ?_; intro w6 a6 o6 z6 b6; have H6 := Lib.hid (And.intro a6 (b6 w.heap.size w (Nat.le_refl _) H5.out.2)); clear a6 o6 z6 b6))
    exact bodyPost_ret (results_px_tmp rfl _ rfl H6.out.1) rfl (by rw [HPN.out]; exact ⟨H6.out.2, rfl⟩)
  | some x =>
    obtain ⟨v6, bs⟩ := x
    rw [hx] at K1 HPN
    clear hx
    simp only [Option.bind_some] at HPN
    go_wp2_with fail
    refine K1.out.mono ?_
    rintro e w3 ⟨b3, hbs, rfl⟩
    have H3 := Lib.hid (And.intro (H2.out.1.later b3 (Nat.le_refl _)) (H2.out.2.trans (b3.mono H2.out.2.size)))
    clear b3
    go_wp2_with (first
      | (refine wpList_alloc_ad rfl rfl ?_; intro w4 a4 b4 z4; have H4 := Lib.hid (And.intro (H3.out.1.later b4 (Nat.le_refl _)) (And.intro a4 (And.intro (H3.out.2.trans (b4.mono H3.out.2.size)) b4))); clear a4 b4 z4)
      | (refine wpList_store_ad rfl (.tmp 7) (.tmp 20) rfl v6 bs rfl rfl hbs H4.out.2.1 ?_; intro w5 a5 o5 z5 b5; have H5 := Lib.hid (And.intro (H3.out.1.later (b5 _ _ (Nat.le_refl _) H4.out.2.2.2) (Nat.le_refl _)) (And.intro a5 (b5 w.heap.size w H3.out.2.size H4.out.2.2.1))); clear a5 o5 z5 b5))
    have hsz := adv_size v6 hbs
    have hsz2 := pxv_size v6 0 hbs
    have hfo := fold_px v6 hbs
    have hse := set_px v6 hbs 0
    have k2 := (K2.out _ H5.out.2.2).out
    have K2' := Lib.hid k2
    clear k2
    cases hn : decv ra with
    | none =>
      rw [hn] at K2' HPN
      clear hn
      simp only [Option.bind_none] at HPN
      refine K2'.out.mono ?_
      rintro e w6 ⟨b6, er, rfl, d6⟩
      obtain ⟨T, xv, rfl⟩ := d6.held
      have H6 := Lib.hid (And.intro (H5.out.1.later b6 (Nat.le_refl _)) (And.intro (H5.out.2.1.later b6 (Nat.le_refl _)) (H5.out.2.2.trans (b6.mono H5.out.2.2.size))))
      clear b6 d6
      go_wp2_with (first
        | (refine wpList_load_ad rfl (.tmp 7) rfl rfl H6.out.2.1 ?_)
        | (refine wpList_alloc_px rfl rfl ?_; intro w7 a7 b7 z7; have H7 := Lib.hid (And.intro (H6.out.1.later b7 (Nat.le_refl _)) (And.intro a7 (And.intro (H6.out.2.2.trans (b7.mono H6.out.2.2.size)) b7))); clear a7 b7 z7)
        | (refine wpList_store_px rfl (.tmp 10) (.tmp 33) rfl v6 bs 0 rfl rfl hbs H7.out.2.1 ?_; intro w8 a8 o8 z8 b8; have H8 := Lib.hid (And.intro (H6.out.1.later (b8 _ _ (Nat.le_refl _) H7.out.2.2.2) (Nat.le_refl _)) (b8 w.heap.size w H6.out.2.2.size H7.out.2.2.1)); clear a8 o8 z8 b8)
        | (refine wpList_store_px rfl (.tmp 2) (.tmp 41) rfl false (List.replicate 16 0) 0 rfl rfl rfl H8.out.1 ?_; intro w9 a9 o9 z9 b9; have H9 := Lib.hid (And.intro a9 (b9 w.heap.size w (Nat.le_refl _) H8.out.2)); clear a9 o9 z9 b9))
      exact bodyPost_ret (results_px_tmp rfl _ rfl H9.out.1) rfl (by rw [HPN.out]; exact ⟨H9.out.2, rfl⟩)
    | some n =>
      rw [hn] at K2' HPN
      have hn1 := decv_lt hn
      clear hn
      simp only [Option.bind_some] at HPN
      have hRN := RightNet_any v6 bs hbs n
      refine K2'.out.mono ?_
      rintro e w6 ⟨b6, rfl⟩
      have H6 := Lib.hid (And.intro (H5.out.1.later b6 (Nat.le_refl _)) (And.intro (H5.out.2.1.later b6 (Nat.le_refl _)) (H5.out.2.2.trans (b6.mono H5.out.2.2.size))))
      clear b6
      cases hrn : rightnetv v6 bs n with
      | false =>
        rw [hrn] at hRN HPN
        have HRN := Lib.hid hRN
        clear hRN hrn
        go_wp2_with (first
          | (refine wpList_load_ad rfl (.tmp 7) rfl rfl H6.out.2.1 ?_)
          | (refine wpList_alloc_px rfl rfl ?_; intro w7 a7 b7 z7; have H7 := Lib.hid (And.intro (H6.out.1.later b7 (Nat.le_refl _)) (And.intro a7 (And.intro (H6.out.2.2.trans (b7.mono H6.out.2.2.size)) b7))); clear a7 b7 z7)
          | (refine wpList_store_px rfl (.tmp 10) (.tmp 33) rfl v6 bs n rfl rfl hbs H7.out.2.1 ?_; intro w8 a8 o8 z8 b8; have H8 := Lib.hid (And.intro (H6.out.1.later (b8 _ _ (Nat.le_refl _) H7.out.2.2.2) (Nat.le_refl _)) (And.intro a8 (b8 w.heap.size w H6.out.2.2.size H7.out.2.2.1))); clear a8 o8 z8 b8)
          | (refine wpList_load_row_w rfl 26 (.tmp 10) rfl w6.heap.size 0 rfl (pxv v6 bs n) _ H8.out.2.1.range Tryz.underlying26 rfl (px_size v6 n hbs) ?_))
        refine (HRN.out _).mono ?_
        rintro e w9 ⟨rfl, b9⟩
        have H9 := Lib.hid (And.intro (H8.out.1.later b9 (Nat.le_refl _)) (H8.out.2.2.trans (b9.mono H8.out.2.2.size)))
        clear b9
        go_wp2_with (refine wpList_store_px rfl (.tmp 2) (.tmp 41) rfl false (List.replicate 16 0) 0 rfl rfl rfl H9.out.1 ?_; intro w10 a9 o9 z9 b9; have H10 := Lib.hid (And.intro a9 (b9 w.heap.size w (Nat.le_refl _) H9.out.2)); clear a9 o9 z9 b9)
        exact bodyPost_ret (results_px_tmp rfl _ rfl H10.out.1) rfl (by rw [HPN.out]; exact ⟨H10.out.2, rfl⟩)
      | true =>
        rw [hrn] at hRN HPN
        have HRN := Lib.hid hRN
        clear hRN hrn
        go_wp2_with (first
          | (refine wpList_load_ad rfl (.tmp 7) rfl rfl H6.out.2.1 ?_)
          | (refine wpList_alloc_px rfl rfl ?_; intro w7 a7 b7 z7; have H7 := Lib.hid (And.intro (H6.out.1.later b7 (Nat.le_refl _)) (And.intro a7 (And.intro (H6.out.2.2.trans (b7.mono H6.out.2.2.size)) b7))); clear a7 b7 z7)
          | (refine wpList_store_px rfl (.tmp 10) (.tmp 33) rfl v6 bs n rfl rfl hbs H7.out.2.1 ?_; intro w8 a8 o8 z8 b8; have H8 := Lib.hid (And.intro (H6.out.1.later (b8 _ _ (Nat.le_refl _) H7.out.2.2.2) (Nat.le_refl _)) (And.intro a8 (b8 w.heap.size w H6.out.2.2.size H7.out.2.2.1))); clear a8 o8 z8 b8)
          | (refine wpList_load_row_w rfl 26 (.tmp 10) rfl w6.heap.size 0 rfl (pxv v6 bs n) _ H8.out.2.1.range Tryz.underlying26 rfl (px_size v6 n hbs) ?_))
        refine (HRN.out _).mono ?_
        rintro e w9 ⟨rfl, b9⟩
        have H9 := Lib.hid (And.intro (H8.out.1.later b9 (Nat.le_refl _)) (And.intro (H8.out.2.1.later b9 (Nat.le_refl _)) (H8.out.2.2.trans (b9.mono H8.out.2.2.size))))
        clear b9
        go_wp2_with (first
          | (refine wpList_load_px rfl (.tmp 10) rfl rfl H9.out.2.1 ?_)
          | (refine wpList_store_px rfl (.tmp 2) (.tmp 43) rfl v6 bs n rfl rfl hbs H9.out.1 ?_; intro w10 a9 o9 z9 b9; have H10 := Lib.hid (And.intro a9 (b9 w.heap.size w (Nat.le_refl _) H9.out.2.2)); clear a9 o9 z9 b9))
        exact bodyPost_ret (results_px_tmp rfl _ rfl H10.out.1) rfl (by rw [HPN.out]; exact ⟨H10.out.2, hbs, rfl⟩)
end Go.Proofs.YtdbbgjbgmfeljaaGreatDoor

namespace Go.Proofs.YtdbbgjbgmfeljaaGreatDoor
open Go.RowKit
set_option maxRecDepth 100000

theorem splN_few (c : UInt8) : ∀ (l : List UInt8) (k K : Nat), l.length ≤ K → (splN c l K).length ≤ k + 1 → splN c l k = splN c l K
  | [], k, K, _, _ => by cases k <;> cases K <;> rfl
  | b :: r, k, 0, hK, _ => by simp at hK
  | b :: r, 0, K + 1, hK, h => by
    simp only [List.length_cons] at hK
    unfold splN at h
    split at h
    · have := splN_ne c r K
      simp only [List.length_cons] at h
      exact absurd (List.eq_nil_of_length_eq_zero (by omega)) this
    · rename_i hb
      have hlen : (splN c r (K + 1)).length ≤ 0 + 1 := by
        cases hs : splN c r (K + 1) with
        | nil => simp
        | cons x xs => rw [hs] at h; simpa [onHead] using h
      have ih := splN_few c r 0 (K + 1) (by omega) hlen
      rw [splN_zero] at ih
      show [b :: r] = (if b = c then [] :: splN c r K else onHead b (splN c r (K + 1)))
      rw [if_neg hb, ← ih]
      rfl
  | b :: r, k + 1, K + 1, hK, h => by
    simp only [List.length_cons] at hK
    show (if b = c then [] :: splN c r k else onHead b (splN c r (k + 1))) = (if b = c then [] :: splN c r K else onHead b (splN c r (K + 1)))
    unfold splN at h
    split at h
    · rename_i hb
      rw [if_pos hb, if_pos hb, splN_few c r k K (by omega) (by simp only [List.length_cons] at h; omega)]
    · rename_i hb
      rw [if_neg hb, if_neg hb]
      have hlen : (splN c r (K + 1)).length ≤ k + 1 + 1 := by
        cases hs : splN c r (K + 1) with
        | nil => simp
        | cons x xs => rw [hs] at h; simpa [onHead] using h
      rw [splN_few c r (k + 1) (K + 1) (by omega) hlen]
theorem onHead_len (b : UInt8) {ls : List (List UInt8)} (h : ls ≠ []) : (onHead b ls).length = ls.length := by
  cases ls with
  | nil => exact absurd rfl h
  | cons x xs => rfl
theorem splN_many (c : UInt8) : ∀ (l : List UInt8) (k K : Nat), l.length ≤ K → k + 1 < (splN c l K).length → (splN c l k).length = k + 1 ∧ ∃ p ∈ splN c l k, c ∈ p
  | [], k, K, _, h => by cases K <;> simp [splN] at h
  | b :: r, k, 0, hK, _ => by simp at hK
  | b :: r, 0, K + 1, hK, h => by
    simp only [List.length_cons] at hK
    rw [splN_zero]
    refine ⟨rfl, b :: r, by simp, ?_⟩
    by_cases hb : b = c
    · rw [hb]; simp
    · have h' : 0 + 1 < (splN c r (K + 1)).length := by
        have h2 : (splN c (b :: r) (K + 1)) = onHead b (splN c r (K + 1)) := by show (if b = c then _ else _) = _; rw [if_neg hb]
        rw [h2, onHead_len b (splN_ne c r _)] at h
        exact h
      obtain ⟨_, p, hp, hc⟩ := splN_many c r 0 (K + 1) (by omega) h'
      rw [splN_zero] at hp
      obtain rfl := List.mem_singleton.1 hp
      exact List.mem_cons_of_mem _ hc
  | b :: r, k + 1, K + 1, hK, h => by
    simp only [List.length_cons] at hK
    by_cases hb : b = c
    · have h1 : splN c (b :: r) (K + 1) = [] :: splN c r K := by show (if b = c then _ else _) = _; rw [if_pos hb]
      have h2 : splN c (b :: r) (k + 1) = [] :: splN c r k := by show (if b = c then _ else _) = _; rw [if_pos hb]
      rw [h1, List.length_cons] at h
      obtain ⟨h3, p, hp, hc⟩ := splN_many c r k K (by omega) (by omega)
      rw [h2]
      exact ⟨by rw [List.length_cons, h3], p, List.mem_cons_of_mem _ hp, hc⟩
    · have h1 : splN c (b :: r) (K + 1) = onHead b (splN c r (K + 1)) := by show (if b = c then _ else _) = _; rw [if_neg hb]
      have h2 : splN c (b :: r) (k + 1) = onHead b (splN c r (k + 1)) := by show (if b = c then _ else _) = _; rw [if_neg hb]
      rw [h1, onHead_len b (splN_ne c r _)] at h
      obtain ⟨h3, p, hp, hc⟩ := splN_many c r (k + 1) (K + 1) (by omega) h
      rw [h2]
      refine ⟨by rw [onHead_len b (splN_ne c r _), h3], ?_⟩
      cases hs : splN c r (k + 1) with
      | nil => exact absurd hs (splN_ne c r _)
      | cons x xs =>
        rw [hs] at hp
        rcases List.mem_cons.1 hp with rfl | hp
        · exact ⟨b :: p, by simp [onHead], List.mem_cons_of_mem _ hc⟩
        · exact ⟨p, by simp [onHead, hp], hc⟩
theorem puGo_digits {B : Nat} : ∀ (l : List UInt8) (n m : Nat), puGo B n l = some m → ∀ c ∈ l, dg c < B
  | [], _, _, _, c, hc => by cases hc
  | b :: r, n, m, h, c, hc => by
    unfold puGo at h
    split at h
    · rename_i hb
      rcases List.mem_cons.1 hc with rfl | hc
      · exact hb
      · exact puGo_digits r _ m h c hc
    · cases h
theorem numv_digits {B most m : Nat} {l : List UInt8} (h : numv B most l = some m) : ∀ c ∈ l, dg c < B := by
  unfold numv at h
  split at h
  · cases h
  · unfold pu at h
    split at h
    · cases h
    · exact puGo_digits l 0 m h
theorem octetv_dot {l : List UInt8} (h : (46 : UInt8) ∈ l) : octetv l = none := by
  cases ho : octetv l with
  | none => rfl
  | some n =>
    unfold octetv decv at ho
    split at ho
    · cases ho
    · cases hn : numv 10 3 l with
      | none => rw [hn] at ho; cases ho
      | some m => exact absurd (numv_digits hn 46 h) (by decide)
theorem groupv_dot {l : List UInt8} (h : (46 : UInt8) ∈ l) : groupv l = none := by
  cases hn : groupv l with
  | none => rfl
  | some m => exact absurd (numv_digits (B := 16) (most := 4) hn 46 h) (by decide)
theorem allv_mem {rd : List UInt8 → Option Nat} {ls : List (List UInt8)} {x : List UInt8} (h : x ∈ ls) (hx : rd x = none) : allv rd ls = none := by
  obtain ⟨k, hk⟩ := List.mem_iff_getElem?.1 h
  exact allv_none hk hx
/-- The code's parts of version 4 against the document's. -/
theorem four_r4 (l : List UInt8) : (∃ bs, r4 l = some bs ∧ four l = some (some bs)) ∨ (r4 l = none ∧ four l = none) ∨ (r4 l = none ∧ four l = some none ∧ (46 : UInt8) ∈ l ∨ (spl 46 l).length = 4 ∧ r4 l = none ∧ four l = some none) := by
  by_cases h4 : (spl 46 l).length = 4
  · have hs : splN 46 l 3 = spl 46 l := splN_few 46 l 3 l.length (Nat.le_refl _) (by show (spl 46 l).length ≤ 4; omega)
    have h1 : r4 l = (allv octetv (spl 46 l)).map ab4 := by unfold r4; rw [if_pos h4]
    have h2 : four l = some ((allv octetv (spl 46 l)).map ab4) := by unfold four; rw [hs, if_pos h4]
    cases ha : allv octetv (spl 46 l) with
    | none => rw [ha] at h1 h2; exact .inr (.inr (.inr ⟨h4, h1, h2⟩))
    | some ns => rw [ha] at h1 h2; exact .inl ⟨ab4 ns, h1, h2⟩
  · have h1 : r4 l = none := by unfold r4; rw [if_neg h4]
    by_cases h5 : 4 < (spl 46 l).length
    · obtain ⟨h3, p, hp, hc⟩ := splN_many 46 l 3 l.length (Nat.le_refl _) (by show 3 + 1 < (spl 46 l).length; omega)
      refine .inr (.inr (.inl ⟨h1, ?_, ?_⟩))
      · unfold four
        rw [h3, if_pos rfl, allv_mem hp (octetv_dot hc)]
        rfl
      · exact Classical.byContradiction fun hn => by
          have := sp_plain 46 l l.length hn
          unfold spl at h5
          rw [this] at h5
          simp at h5
    · have hs : splN 46 l 3 = spl 46 l := splN_few 46 l 3 l.length (Nat.le_refl _) (by show (spl 46 l).length ≤ 4; omega)
      refine .inr (.inl ⟨h1, ?_⟩)
      unfold four
      rw [hs, if_neg h4]
end Go.Proofs.YtdbbgjbgmfeljaaGreatDoor

namespace Go.Proofs.YtdbbgjbgmfeljaaGreatDoor
open Go.RowKit
set_option maxRecDepth 100000

theorem groupv_colon {l : List UInt8} (h : (58 : UInt8) ∈ l) : groupv l = none := by
  cases hn : groupv l with
  | none => rfl
  | some m => exact absurd (numv_digits (B := 16) (most := 4) hn 58 h) (by decide)
theorem groupsv_few {l : List UInt8} {ns : List Nat} (h : rgs l = some ns) (h8 : ns.length ≤ 8) : groupsv l = some ns := by
  unfold rgs at h
  unfold groupsv
  split at h
  · rename_i hl; rw [if_pos hl]; exact h
  · rename_i hl
    rw [if_neg hl]
    have hlen := allv_length h
    rw [splN_few 58 l 7 l.length (Nat.le_refl _) (by show (spl 58 l).length ≤ 8; omega)]
    exact h
theorem groupsv_none {l : List UInt8} (h : rgs l = none) : groupsv l = none := by
  unfold rgs at h
  unfold groupsv
  split at h
  · cases h
  · rename_i hl
    rw [if_neg hl]
    by_cases h8 : (spl 58 l).length ≤ 8
    · rw [splN_few 58 l 7 l.length (Nat.le_refl _) h8]; exact h
    · obtain ⟨_, p, hp, hc⟩ := splN_many 58 l 7 l.length (Nat.le_refl _) (by show 7 + 1 < (spl 58 l).length; omega)
      exact allv_mem hp (groupv_colon hc)
theorem groupsv_many {l : List UInt8} {ns : List Nat} (h : rgs l = some ns) (h8 : 8 < ns.length) : groupsv l = none := by
  unfold rgs at h
  unfold groupsv
  split at h
  · obtain rfl := Option.some.inj h; simp at h8
  · rename_i hl
    rw [if_neg hl]
    have hlen := allv_length h
    obtain ⟨_, p, hp, hc⟩ := splN_many 58 l 7 l.length (Nat.le_refl _) (by show 7 + 1 < (spl 58 l).length; omega)
    exact allv_mem hp (groupv_colon hc)
/-- An address of version 6, as the document's own answers read it. -/
def r6 (l : List UInt8) : Option (List UInt8) :=
  if (Lib.cut l [58, 58]).2.2 then (rgs (Lib.cut l [58, 58]).1).bind fun x => (rgs (Lib.cut l [58, 58]).2.1).bind fun y => if x.length + y.length ≤ 7 then some (g2 (x ++ List.replicate (8 - x.length - y.length) 0 ++ y)) else none
  else (rgs l).bind fun x => if x.length = 8 then some (g2 x) else none
theorem cut_flag (l sep : List UInt8) (h : (Lib.cut l sep).2.2 = false) : Lib.cut l sep = (l, [], false) := by
  unfold Lib.cut at h ⊢
  split at h
  · cases h
  · rename_i hi; rw [if_neg hi]
theorem r6_six (l : List UInt8) : r6 l = six l := by
  unfold r6 six
  cases hf : (Lib.cut l [58, 58]).2.2 with
  | false =>
    rw [cut_flag l _ hf, if_neg (by simp)]
    show _ = (groupsv l).bind fun x => (groupsv []).bind fun y => _
    rw [show groupsv [] = some [] from rfl]
    cases hx : rgs l with
    | none => rw [groupsv_none hx]; rfl
    | some x =>
      by_cases h8 : x.length ≤ 8
      · rw [groupsv_few hx h8]
        simp only [Option.bind_some, List.length_nil, Nat.add_zero, Nat.sub_zero, List.append_nil]
        by_cases h : x.length = 8
        · rw [if_pos h, if_pos ⟨h8, by symm; simp; omega⟩, h]
          simp
        · rw [if_neg h, if_neg (fun hh => by
            have := hh.2
            have := of_decide_eq_false this.symm
            omega)]
      · rw [groupsv_many hx (by omega)]
        simp only [Option.bind_some]
        rw [if_neg (by omega)]
        rfl
  | true =>
    rw [if_pos rfl]
    cases hx : rgs (Lib.cut l [58, 58]).1 with
    | none => rw [groupsv_none hx]; rfl
    | some x =>
      by_cases hx8 : x.length ≤ 8
      · rw [groupsv_few hx hx8]
        simp only [Option.bind_some]
        cases hy : rgs (Lib.cut l [58, 58]).2.1 with
        | none => rw [groupsv_none hy]; rfl
        | some y =>
          by_cases hy8 : y.length ≤ 8
          · rw [groupsv_few hy hy8]
            simp only [Option.bind_some]
            by_cases h : x.length + y.length ≤ 7
            · rw [if_pos h, if_pos ⟨by omega, by symm; simp; omega⟩]
            · rw [if_neg h, if_neg (fun hh => by
                have := of_decide_eq_true hh.2.symm
                omega)]
          · rw [groupsv_many hy (by omega)]
            simp only [Option.bind_some]
            rw [if_neg (by omega)]
            rfl
      · rw [groupsv_many hx (by omega)]
        simp only [Option.bind_some]
        cases hy : rgs (Lib.cut l [58, 58]).2.1 with
        | none => rfl
        | some y =>
          simp only [Option.bind_some]
          rw [if_neg (by omega)]
          rfl
theorem splN_mem {c d : UInt8} (hd : d ≠ c) : ∀ (l : List UInt8) (k : Nat), d ∈ l → ∃ p ∈ splN c l k, d ∈ p
  | l, 0, h => ⟨l, by rw [splN_zero]; simp, h⟩
  | [], k + 1, h => by cases h
  | b :: r, k + 1, h => by
    show ∃ p ∈ (if b = c then [] :: splN c r k else onHead b (splN c r (k + 1))), d ∈ p
    by_cases hb : b = c
    · rw [if_pos hb]
      rcases List.mem_cons.1 h with rfl | h
      · exact absurd hb hd
      · obtain ⟨p, hp, hdp⟩ := splN_mem hd r k h
        exact ⟨p, List.mem_cons_of_mem _ hp, hdp⟩
    · rw [if_neg hb]
      cases hs : splN c r (k + 1) with
      | nil => exact absurd hs (splN_ne c r _)
      | cons x xs =>
        rcases List.mem_cons.1 h with rfl | h
        · exact ⟨d :: x, by simp [onHead], by simp⟩
        · obtain ⟨p, hp, hdp⟩ := splN_mem hd r (k + 1) h
          rw [hs] at hp
          rcases List.mem_cons.1 hp with rfl | hp
          · exact ⟨b :: p, by simp [onHead], List.mem_cons_of_mem _ hdp⟩
          · exact ⟨p, by simp [onHead, hp], hdp⟩
theorem groupsv_dot {l : List UInt8} (h : (46 : UInt8) ∈ l) : groupsv l = none := by
  unfold groupsv
  rw [if_neg (by rintro rfl; cases h)]
  obtain ⟨p, hp, hd⟩ := splN_mem (c := 58) (d := 46) (by decide) l 7 h
  exact allv_mem hp (groupv_dot hd)
theorem six_dot {l : List UInt8} (h : (46 : UInt8) ∈ l) : six l = none := by
  unfold six
  cases hf : (Lib.cut l [58, 58]).2.2 with
  | false => rw [cut_flag l _ hf, groupsv_dot h]; rfl
  | true =>
    have hc : 46 ∈ (Lib.cut l [58, 58]).1 ∨ 46 ∈ (Lib.cut l [58, 58]).2.1 := by
      have hspec := Lib.index_spec l [58, 58]
      unfold Lib.cut at hf ⊢
      split at hf
      · rename_i hi
        rw [if_pos hi]
        rcases hspec with ⟨h1, _⟩ | ⟨i, h1, h2, h3, _⟩
        · omega
        · rw [h1, Int.toNat_natCast]
          have hd : l.drop i = 58 :: 58 :: l.drop (i + 2) := by
            unfold Lib.occAt at h3
            obtain ⟨t, ht⟩ := List.isPrefixOf_iff_prefix.1 h3
            rw [← List.drop_drop, ← ht]
            rfl
          rw [← List.take_append_drop i l, hd] at h
          rcases List.mem_append.1 h with h | h
          · exact .inl h
          · refine .inr ?_
            have : (46 : UInt8) ∈ l.drop (i + 2) := by simpa using h
            exact this
      · cases hf
    rcases hc with h | h
    · rw [groupsv_dot h]; rfl
    · rw [groupsv_dot h]
      cases groupsv (Lib.cut l [58, 58]).1 <;> rfl
/-- What a text is as an address: the code's answer is the document's. -/
theorem parsev_ref (l : List UInt8) : parsev l = match r4 l with
    | some bs => some (false, bs)
    | none => (r6 l).map fun bs => (true, bs) := by
  have hdot : (spl 46 l).length = 4 → (46 : UInt8) ∈ l := fun h => Classical.byContradiction fun hn => by
    unfold spl at h
    rw [sp_plain 46 l l.length hn] at h
    simp at h
  unfold parsev
  rcases four_r4 l with ⟨bs, h1, h2⟩ | ⟨h1, h2⟩ | ⟨h1, h2, h3⟩ | ⟨h4, h1, h2⟩
  · rw [h1, h2]
  · rw [h1, h2, r6_six]
  · rw [h1, h2, r6_six, six_dot h3]; rfl
  · rw [h1, h2, r6_six, six_dot (hdot h4)]; rfl
end Go.Proofs.YtdbbgjbgmfeljaaGreatDoor

namespace Go.Proofs.YtdbbgjbgmfeljaaGreatDoor
open Go.RowKit
set_option maxRecDepth 100000

theorem ix_sg (c : UInt8) : ∀ (x y : List UInt8), c ∉ x → Lib.index (x ++ c :: y) [c] = x.length
  | [], y, _ => by show Lib.index (c :: y) [c] = 0; unfold Lib.index; rw [if_pos (by simp [List.isPrefixOf])]
  | b :: x, y, h => by
    have ih := ix_sg c x y (fun hm => h (List.mem_cons_of_mem _ hm))
    rw [List.cons_append]
    unfold Lib.index
    rw [if_neg (by simp only [List.isPrefixOf, Bool.and_true, beq_iff_eq]; rintro rfl; exact h (by simp)), ih, if_neg (by simp)]
    simp
theorem ct_one {c : UInt8} {x y : List UInt8} (h : c ∉ x) : Lib.cut (x ++ c :: y) [c] = (x, y, true) := by
  have hi := ix_sg c x y h
  unfold Lib.cut
  rw [hi, if_pos (by omega), Int.toNat_natCast, List.take_left, show x.length + [c].length = x.length + 1 from rfl, ← List.drop_drop, List.drop_left]
  rfl
theorem ix_no (c : UInt8) : ∀ (x : List UInt8), c ∉ x → Lib.index x [c] = -1
  | [], _ => rfl
  | b :: x, h => by
    have ih := ix_no c x (fun hm => h (List.mem_cons_of_mem _ hm))
    unfold Lib.index
    rw [if_neg (by simp only [List.isPrefixOf, Bool.and_true, beq_iff_eq]; rintro rfl; exact h (by simp)), ih]
    rfl
theorem ct_no {c : UInt8} {x : List UInt8} (h : c ∉ x) : Lib.cut x [c] = (x, [], false) := by
  unfold Lib.cut; rw [ix_no c x h, if_neg (by omega)]
theorem spl_first {c : UInt8} {a b : List UInt8} (h : c ∉ a) : spl c (a ++ c :: b) = a :: spl c b := by
  unfold spl
  rw [show (a ++ c :: b).length = (a.length + b.length) + 1 by simp; omega, sp_cons c a b _ h, splN_ge c b (a.length + b.length) b.length (by omega) (Nat.le_refl _)]
theorem decv_slash {l : List UInt8} (h : (47 : UInt8) ∈ l) : decv l = none := by
  cases ho : decv l with
  | none => rfl
  | some n =>
    unfold decv at ho
    split at ho
    · cases ho
    · exact absurd (numv_digits ho 47 h) (by decide)
/-- A net, as the document's own answers read it. -/
def rnet (l : List UInt8) : Option (Bool × List UInt8 × Nat) :=
  match spl 47 l with
  | [a, b] => (parsev a).bind fun x => (decv b).bind fun n => if rightnetv x.1 x.2 n then some (x.1, x.2, n) else none
  | _ => none
theorem parsenetv_ref (l : List UInt8) : parsenetv l = rnet l := by
  unfold parsenetv rnet
  by_cases h : (47 : UInt8) ∈ l
  · obtain ⟨a, b, rfl, ha⟩ := List.eq_append_cons_of_mem h
    rw [ct_one ha, spl_first ha]
    simp only
    by_cases hb : (47 : UInt8) ∈ b
    · obtain ⟨b1, b2, rfl, hb1⟩ := List.eq_append_cons_of_mem hb
      rw [decv_slash hb, spl_first hb1]
      cases hs : spl 47 b2 with
      | nil => exact absurd hs (splN_ne _ _ _)
      | cons x xs =>
        simp only
        cases parsev a <;> rfl
    · rw [show spl 47 b = [b] from sp_plain 47 b _ hb]
  · rw [ct_no h, show spl 47 l = [l] from sp_plain 47 l _ h]
    simp only
    rw [show decv [] = none from rfl]
    cases parsev l <;> rfl
end Go.Proofs.YtdbbgjbgmfeljaaGreatDoor

namespace Go.Proofs.YtdbbgjbgmfeljaaGreatDoor
open Go.RowKit
set_option maxRecDepth 100000

def lnOf : Value → Nat
  | .slice _ n _ => n
  | _ => 0
theorem rgs_len {l : List UInt8} {ns : List Nat} (h : rgs l = some ns) : ns.length ≤ l.length + 1 := by
  unfold rgs at h
  split at h
  · obtain rfl := Option.some.inj h; simp
  · rw [allv_length h]; exact spl_len 58 l
theorem rgs_lt {l : List UInt8} {ns : List Nat} (h : rgs l = some ns) : ∀ n ∈ ns, n < 65536 := by
  unfold rgs at h
  split at h
  · obtain rfl := Option.some.inj h; simp
  · exact allv_lt (fun l n h => groupv_lt h) h
theorem RG.form {r : Option (List Nat)} {w w' : World} {e : Ending} (h : RG r w e w') : Below w.heap.size w w' ∧ ∃ A n c b, e = .returned (.tuple #[.slice A n c, .bool b]) := by
  obtain ⟨hb, hm⟩ := h
  cases r with
  | none => exact ⟨hb, _, _, _, _, hm⟩
  | some ns => obtain ⟨A, c, he, _⟩ := hm; exact ⟨hb, _, _, _, _, he⟩
/-- Where the first two signs stand, of those looked at so far. -/
def Gap (l : List UInt8) (k : Nat) (g : Int) : Prop := (g = -1 ∧ ∀ j, j < k → Lib.occAt l [58, 58] j = false) ∨ ∃ q : Nat, g = q ∧ q + 2 ≤ l.length ∧ Lib.occAt l [58, 58] q = true ∧ ∀ j, j < q → Lib.occAt l [58, 58] j = false
theorem occ_take (l : List UInt8) (k : Nat) : Lib.occAt l [58, 58] k = decide ((l.drop k).take 2 = [58, 58]) := by
  unfold Lib.occAt
  rw [Bool.eq_iff_iff, List.isPrefixOf_iff_prefix, List.prefix_iff_eq_take, decide_eq_true_iff]
  exact ⟨Eq.symm, Eq.symm⟩
theorem occ_len {l : List UInt8} {k : Nat} (h : Lib.occAt l [58, 58] k = true) : k + 2 ≤ l.length := by
  rw [occ_take] at h
  have h2 := congrArg List.length (of_decide_eq_true h)
  rw [List.length_take, List.length_drop] at h2
  simp only [List.length_cons, List.length_nil] at h2
  omega
theorem gap_end {l : List UInt8} {k : Nat} {g : Int} (h : Gap l k g) (hk : l.length ≤ k + 1) : (g = -1 ∧ Lib.cut l [58, 58] = (l, [], false)) ∨ ∃ q : Nat, g = q ∧ q + 2 ≤ l.length ∧ Lib.cut l [58, 58] = (l.take q, l.drop (q + 2), true) := by
  rcases h with ⟨rfl, hn⟩ | ⟨q, rfl, hq, ho, hn⟩
  · refine .inl ⟨rfl, ?_⟩
    rcases Lib.index_spec l [58, 58] with ⟨h1, _⟩ | ⟨i, _, _, h3, _⟩
    · unfold Lib.cut; rw [h1, if_neg (by omega)]
    · have h4 := occ_len h3
      rw [hn i (by omega)] at h3
      cases h3
  · refine .inr ⟨q, rfl, hq, ?_⟩
    rcases Lib.index_spec l [58, 58] with ⟨_, h2⟩ | ⟨i, h1, _, h3, h4⟩
    · rw [h2 q (by omega)] at ho; cases ho
    · obtain rfl : i = q := by
        rcases Nat.lt_trichotomy i q with h | h | h
        · rw [hn i h] at h3; cases h3
        · exact h
        · rw [h4 q h] at ho; cases ho
      unfold Lib.cut
      rw [h1, if_pos (by omega), Int.toNat_natCast]
      rfl
theorem r6_one {l : List UInt8} (h : Lib.cut l [58, 58] = (l, [], false)) : r6 l = (rgs l).bind fun x => if x.length = 8 then some (g2 x) else none := by
  unfold r6; rw [h, if_neg (by simp)]
theorem r6_two {l a b : List UInt8} (h : Lib.cut l [58, 58] = (a, b, true)) : r6 l = (rgs a).bind fun x => (rgs b).bind fun y => if x.length + y.length ≤ 7 then some (g2 (x ++ List.replicate (8 - x.length - y.length) 0 ++ y)) else none := by
  unfold r6; rw [h, if_pos rfl]

set_option maxHeartbeats 8000000 in
theorem refSix_any (s : ByteArray) (hs : s.size ≤ 1000) (w : World) : Calls Tryz.prog 24 #[.string s] w (R4 true (r6 s.data.toList) w) := by
  have hl : s.data.toList.length = s.size := (Lib.size_eq s).symm
  have HL := Lib.hid hl
  clear hl
  go_enter Tryz.func24, Tryz.ntmps24
  go_wp2_with (refine wpList_alloc_ad rfl rfl ?_; intro w1 a1 b1 z1; have H1 := Lib.hid (And.intro a1 b1); clear a1 b1 z1)
  go_loop [4, 5] (fun g i => ∃ (k : Nat) (gi : Int), i = .int .i64 k ∧ k ≤ s.size ∧ g = .int .i64 gi ∧ -1 ≤ gi ∧ gi ≤ 1000 ∧ Hid (Gap s.data.toList k gi)) (fun _ i => s.size - (intOf i).toNat)
  case atStart => exact ⟨0, -1, rfl, Nat.zero_le _, rfl, by omega, by omega, Lib.hid (.inl ⟨rfl, fun j h => absurd h (Nat.not_lt_zero j)⟩)⟩
  case round =>
    obtain ⟨k, gi, rfl, hk, rfl, hg1, hg2, hG⟩ := hrel
    by_cases hlt : k + 1 < s.size
    · by_cases hg : gi < 0
      · obtain rfl : gi = -1 := by omega
        have hN : ∀ j, j < k → Lib.occAt s.data.toList [58, 58] j = false := by
          rcases hG.out with ⟨_, h⟩ | ⟨q, h, _⟩
          · exact h
          · omega
        have hpc := cut_piece s k (k + 2)
        rw [show k + 2 - k = 2 by omega] at hpc
        have hoc := occ_take s.data.toList k
        have q1 : (k : Int) ≤ (k : Int) + 2 := by omega
        have q2 : (k : Int) + 2 ≤ (s.size : Int) := by omega
        have q3 : ((k : Int) + 2).toNat = k + 2 := by omega
        by_cases ho : (s.data.toList.drop k).take 2 = [58, 58]
        · rw [decide_eq_true ho] at hoc
          have he : s.extract k (k + 2) = ⟨#[58, 58]⟩ := bytes_inj' (by rw [hpc, ho])
          have HG := Lib.hid (show Gap s.data.toList (k + 1) k from .inr ⟨k, rfl, by rw [HL.out]; omega, hoc, hN⟩)
          clear hpc hoc ho hN hG
          go_wp2_with fail
          go_round
          case rel => exact ⟨k + 1, k, by go_num, by omega, rfl, by omega, by omega, HG⟩
          case measure => simp [intOf]; omega
        · rw [decide_eq_false ho] at hoc
          have he : ((s.extract k (k + 2)).toList == [58, 58]) = false := by
            rw [beq_eq_false_iff_ne, ByteArray.toList_eq, hpc]; exact ho
          have HG := Lib.hid (show Gap s.data.toList (k + 1) (-1) from .inl ⟨rfl, fun j hj => by
            by_cases h : j = k
            · subst h; exact hoc
            · exact hN j (by omega)⟩)
          clear hpc hoc ho hN hG
          go_wp2_with fail
          go_round
          case rel => exact ⟨k + 1, -1, by go_num, by omega, rfl, by omega, by omega, HG⟩
          case measure => simp [intOf]; omega
      · have HG := Lib.hid (show Gap s.data.toList (k + 1) gi by
          rcases hG.out with ⟨h, _⟩ | h
          · omega
          · exact .inr h)
        clear hG
        go_wp2_with fail
        go_round
        case rel => exact ⟨k + 1, gi, by go_num, by omega, rfl, by omega, by omega, HG⟩
        case measure => simp [intOf]; omega
    · have hend := gap_end hG.out (by rw [HL.out]; omega)
      clear hG
      rcases hend with ⟨rfl, hc⟩ | ⟨q, rfl, hq2, hc⟩
      · have hr2 := r6_one hc
        have HG := fun w => refGroups_any s hs w
        cases hx : rgs s.data.toList with
        | none =>
          rw [hx] at HG hr2
          have HR := Lib.hid hr2.symm
          have HG := Lib.hid HG
          clear hx hc hr2
          go_wp2_with fail
          refine (HG.out _).mono ?_
          rintro e w2 ⟨b2, rfl⟩
          have H2 := Lib.hid (And.intro (H1.out.1.later b2 (Nat.le_refl _)) (And.intro (H1.out.2.trans (b2.mono H1.out.2.size)) trivial))
          clear b2
          go_wp2_with (refine wpList_store_ad rfl (.tmp 2) (.tmp 47) rfl false (List.replicate 16 0) rfl rfl rfl H2.out.1 ?_; intro w5 a5 o5 z5 b5; have H5 := Lib.hid (And.intro a5 (b5 w.heap.size w (Nat.le_refl _) H2.out.2.1)); clear a5 o5 z5 b5)
          exact bodyPost_ret (results_ad_tmp rfl _ rfl H5.out.1) rfl (by rw [← HR.out]; exact ⟨H5.out.2, rfl⟩)
        | some ns =>
          have hnl := rgs_len hx
          have hnt := rgs_lt hx
          rw [hx] at HG hr2
          simp only [Option.bind_some] at hr2
          have hn1 : ns.length ≤ 1001 := by rw [HL.out] at hnl; omega
          by_cases h8 : ns.length = 8
          · rw [if_pos h8] at hr2
            have HR := Lib.hid hr2.symm
            have HG := Lib.hid HG
            have HN := Lib.hid (And.intro h8 hnt)
            have h8' : ((ns.length : Int) != 8) = false := by simp; omega
            clear hx hc hr2 hnl hnt
            go_wp2_with fail
            refine (HG.out _).mono ?_
            rintro e W ⟨b2, A8, c8, rfl, g2_⟩
            have HT := Lib.hid (And.intro g2_ (And.intro (H1.out.1.later b2 (Nat.le_refl _)) (H1.out.2.trans (b2.mono H1.out.2.size))))
            clear b2 g2_
            go_wp2_with (first
              | (refine wpList_alloc_ad rfl rfl ?_; intro w5 a5 b5 z5; have H5 := Lib.hid (And.intro a5 (And.intro b5 z5)); clear a5 b5 z5)
              | (refine wpList_store_ad rfl (.tmp 13) (.tmp 94) rfl true (List.replicate 16 0) rfl rfl rfl H5.out.1 ?_; intro w6 a6 o6 z6 b6; have H6 := Lib.hid (And.intro a6 (And.intro (b6 W.heap.size W (Nat.le_refl _) H5.out.2.1) z6)); clear a6 o6 z6 b6))
            have H9 := Lib.hid (And.intro (HT.out.2.1.later H6.out.2.1 (Nat.le_refl _)) (HT.out.2.2.trans (H6.out.2.1.mono HT.out.2.2.size)))
            go_loopw [14] (fun i wr => ∃ k : Nat, i = .int .i64 k ∧ k ≤ 8 ∧ Hid (AdBox wr W.heap.size true (g2z ns k) ∧ Below W.heap.size W wr)) (fun i _ => 8 - (intOf i).toNat)
            case atStart => exact ⟨0, rfl, by omega, Lib.hid ⟨by simpa [g2z, g2] using H6.out.1, H6.out.2.1⟩⟩
            case round =>
              obtain ⟨k2, rfl, hk2, hh2⟩ := hrel
              have hGs := HT.out.1.later hh2.out.2 (Nat.le_refl _)
              by_cases hlt2 : k2 < 8
              · obtain ⟨n, hnk⟩ : ∃ n, ns[k2]? = some n := ⟨_, List.getElem?_eq_getElem (by rw [HN.out.1]; omega)⟩
                have hn2 := HN.out.2 n (List.mem_of_getElem? hnk)
                have hb9 : ∀ b off, A8 = some ⟨b, off, none⟩ → b < W.heap.size := fun b off e1 => by
                  obtain ⟨_, _, e0, hc0⟩ := HT.out.1.get (iv_at hnk)
                  rw [e1] at e0
                  cases e0
                  have := lt_of_cell' hc0
                  simpa using this
                obtain ⟨b9, off9, rfl, hrow⟩ := hGs.get (iv_at hnk)
                have hb9 := hb9 b9 off9 rfl
                have hne : b9 ≠ W.heap.size := by omega
                obtain ⟨x1, _, hc1⟩ := hh2.out.1.there (2 * k2) (by omega)
                have hf1 := hh2.out.1.frozen (1 + 2 * k2)
                obtain ⟨x2, _, hc2⟩ := hh2.out.1.there (2 * k2 + 1) (by omega)
                have hf2 := hh2.out.1.frozen (1 + (2 * k2 + 1))
                have a3 := (hh2.out.1.put (2 * k2) (UInt8.ofNat (n / 256))).put (2 * k2 + 1) (UInt8.ofNat (n % 256))
                rw [g2z_set HN.out.1 hnk, show ((UInt8.ofNat (n / 256)).toNat : Int) = (n : Int) / 256 by rw [UInt8.toNat_ofNat']; omega, show ((UInt8.ofNat (n % 256)).toNat : Int) = (n : Int) % 256 by rw [UInt8.toNat_ofNat']; omega] at a3
                have b3 := (hh2.out.2.setCell (p := ⟨W.heap.size, 1 + 2 * k2, none⟩) (Nat.le_refl _) (.int .u8 ((n : Int) / 256))).setCell (p := ⟨W.heap.size, 1 + (2 * k2 + 1), none⟩) (Nat.le_refl _) (.int .u8 ((n : Int) % 256))
                have H10 := Lib.hid (And.intro a3 b3.drew)
                clear a3 b3 hnk hb9 hGs
                go_wp2_with fail
                go_region
                go_wp2_with fail
                go_roundw
                case rel => exact ⟨k2 + 1, by go_num, by omega, H10⟩
                case measure => simp [intOf]; omega
              · obtain rfl : k2 = 8 := by omega
                have hg : g2z ns 8 = g2 ns := by unfold g2z; rw [List.take_of_length_le (by rw [HN.out.1]; omega)]; simp
                have hgl : (g2 ns).length = 16 := by rw [g2_len, HN.out.1]
                have hA := hh2.out.1
                rw [hg] at hA
                have H10 := Lib.hid (And.intro hA (And.intro (hh2.out.2) hgl))
                clear hA hg hgl hGs
                go_wp2_with (first
                  | (refine wpList_load_ad rfl (.tmp 13) rfl rfl H10.out.1 ?_)
                  | (refine wpList_store_ad rfl (.tmp 2) (.tmp 119) rfl true (g2 ns) rfl rfl H10.out.2.2 (HT.out.2.1.later H10.out.2.1 (Nat.le_refl _)) ?_; intro w11 a5 o5 z5 b5; have H11 := Lib.hid (And.intro a5 (b5 w.heap.size w (Nat.le_refl _) (HT.out.2.2.trans (H10.out.2.1.mono HT.out.2.2.size)))); clear a5 o5 z5 b5))
                exact bodyPost_ret (results_ad_tmp rfl _ rfl H11.out.1) rfl (by rw [← HR.out]; exact ⟨H11.out.2, H10.out.2.2, rfl⟩)
          · rw [if_neg h8] at hr2
            have HR := Lib.hid hr2.symm
            have HG := Lib.hid HG
            have h8' : ((ns.length : Int) != 8) = true := by simp; omega
            clear hx hc hr2 hnl hnt h8
            go_wp2_with fail
            refine (HG.out _).mono ?_
            rintro e w2 ⟨b2, A8, c8, rfl, g2_⟩
            have H2 := Lib.hid (And.intro (H1.out.1.later b2 (Nat.le_refl _)) (And.intro (H1.out.2.trans (b2.mono H1.out.2.size)) trivial))
            clear b2 g2_
            go_wp2_with (refine wpList_store_ad rfl (.tmp 2) (.tmp 47) rfl false (List.replicate 16 0) rfl rfl rfl H2.out.1 ?_; intro w5 a5 o5 z5 b5; have H5 := Lib.hid (And.intro a5 (b5 w.heap.size w (Nat.le_refl _) H2.out.2.1)); clear a5 o5 z5 b5)
            exact bodyPost_ret (results_ad_tmp rfl _ rfl H5.out.1) rfl (by rw [← HR.out]; exact ⟨H5.out.2, rfl⟩)
      · have hr2 := r6_two hc
        rw [HL.out] at hq2
        have HX := fun w => refGroups_any (s.extract 0 q) (by rw [Lib.size_eq, cut_piece, List.length_take]; omega) w
        have HY := fun w => refGroups_any (s.extract (q + 2) s.size) (by rw [Lib.size_eq, cut_piece, List.length_take, List.length_drop, HL.out]; omega) w
        have e1 : (s.extract 0 q).data.toList = s.data.toList.take q := by rw [cut_piece, List.drop_zero, Nat.sub_zero]
        have e2 : (s.extract (q + 2) s.size).data.toList = s.data.toList.drop (q + 2) := by rw [cut_piece, List.take_of_length_le (by rw [List.length_drop, HL.out]; omega)]
        rw [e1] at HX
        rw [e2] at HY
        cases hx : rgs (s.data.toList.take q) with
        | none =>
          rw [hx] at HX hr2
          have HR := Lib.hid hr2.symm
          have HX := Lib.hid HX
          have HY := Lib.hid HY
          clear hx hc hr2 e1 e2
          go_wp2_with fail
          refine (HX.out _).mono ?_
          rintro e w2 ⟨b2, rfl⟩
          have H2 := Lib.hid (And.intro (H1.out.1.later b2 (Nat.le_refl _)) (And.intro (H1.out.2.trans (b2.mono H1.out.2.size)) trivial))
          clear b2
          go_wp2_with fail
          refine (HY.out _).mono ?_
          intro e w3 hf
          obtain ⟨b3, Ay, ny, cy, by_, rfl⟩ := hf.form
          have H3 := Lib.hid (And.intro (H2.out.1.later b3 (Nat.le_refl _)) (And.intro (H2.out.2.1.trans (b3.mono H2.out.2.1.size)) trivial))
          clear b3 hf
          go_wp2_with (refine wpList_store_ad rfl (.tmp 2) (.tmp 78) rfl false (List.replicate 16 0) rfl rfl rfl H3.out.1 ?_; intro w5 a5 o5 z5 b5; have H5 := Lib.hid (And.intro a5 (b5 w.heap.size w (Nat.le_refl _) H3.out.2.1)); clear a5 o5 z5 b5)
          exact bodyPost_ret (results_ad_tmp rfl _ rfl H5.out.1) rfl (by rw [← HR.out]; exact ⟨H5.out.2, rfl⟩)
        | some x =>
          have hxl := rgs_len hx
          have hxt := rgs_lt hx
          rw [List.length_take, HL.out] at hxl
          have hx1 : x.length ≤ 1001 := by omega
          rw [hx] at HX hr2
          simp only [Option.bind_some] at hr2
          cases hy : rgs (s.data.toList.drop (q + 2)) with
          | none =>
            rw [hy] at HY hr2
            have HR := Lib.hid hr2.symm
            have HX := Lib.hid HX
            have HY := Lib.hid HY
            clear hx hy hc hr2 e1 e2 hxl hxt
            go_wp2_with fail
            refine (HX.out _).mono ?_
            rintro e w2 ⟨b2, Ax, cx, rfl, gx⟩
            have H2 := Lib.hid (And.intro (H1.out.1.later b2 (Nat.le_refl _)) (And.intro (H1.out.2.trans (b2.mono H1.out.2.size)) trivial))
            clear b2 gx
            go_wp2_with fail
            refine (HY.out _).mono ?_
            rintro e w3 ⟨b3, rfl⟩
            have H3 := Lib.hid (And.intro (H2.out.1.later b3 (Nat.le_refl _)) (And.intro (H2.out.2.1.trans (b3.mono H2.out.2.1.size)) trivial))
            clear b3
            go_wp2_with (refine wpList_store_ad rfl (.tmp 2) (.tmp 78) rfl false (List.replicate 16 0) rfl rfl rfl H3.out.1 ?_; intro w5 a5 o5 z5 b5; have H5 := Lib.hid (And.intro a5 (b5 w.heap.size w (Nat.le_refl _) H3.out.2.1)); clear a5 o5 z5 b5)
            exact bodyPost_ret (results_ad_tmp rfl _ rfl H5.out.1) rfl (by rw [← HR.out]; exact ⟨H5.out.2, rfl⟩)
          | some y =>
            have hyl := rgs_len hy
            have hyt := rgs_lt hy
            rw [List.length_drop, HL.out] at hyl
            have hy1 : y.length ≤ 1001 := by omega
            rw [hy] at HY hr2
            simp only [Option.bind_some] at hr2
            have HX := Lib.hid HX
            have HY := Lib.hid HY
            have HXY := Lib.hid (And.intro hxt hyt)
            clear hx hy hc e1 e2 hxl hyl hxt hyt
            by_cases h7 : x.length + y.length ≤ 7
            · rw [if_pos h7] at hr2
              have HR0 := Lib.hid hr2
              clear hr2
              have h7' : ¬ (7 : Int) < (x.length : Int) + (y.length : Int) := by omega
              go_wp2_with fail
              refine (HX.out _).mono ?_
              rintro e w2 ⟨b2, Ax, cx, rfl, gx⟩
              have H2 := Lib.hid (And.intro (H1.out.1.later b2 (Nat.le_refl _)) (And.intro (H1.out.2.trans (b2.mono H1.out.2.size)) gx))
              clear b2 gx
              go_wp2_with fail
              refine (HY.out _).mono ?_
              rintro e w3 ⟨b3, Ay, cy, rfl, gy⟩
              have H3 := Lib.hid (And.intro (H2.out.1.later b3 (Nat.le_refl _)) (And.intro (H2.out.2.1.trans (b3.mono H2.out.2.1.size)) (And.intro (H2.out.2.2.later b3 (Nat.le_refl _)) gy)))
              clear b3 gy
              go_wp2_with (at_builtin; refine wpList_append_gs rfl (.tmp 79) (.tmp 80) 73 rfl w3.heap.size 3 infoInt rfl (by omega) Tryz.underlying73 (.slice none 0 0) 0 [] rfl (World.ownsRow_nil _ _ _ _) _ _ _ _ rfl H3.out.2.2.1 (iv_one x) (by omega) (Nat.le_refl _) ?_; intro v4 w4 o4 g4; rw [Nat.zero_add, List.nil_append] at o4; have H4 := Lib.hid (And.intro o4 ((Below.refl w3.heap.size w3).grown g4 (Nat.le_refl _) (fun q hq => by cases hq))); clear o4 g4)
              go_loopw [6] (fun l wr => ∃ k : Nat, x.length + k + y.length ≤ 8 ∧ wr.ownsRow w3.heap.size 3 1 l (x.length + k) (iv (x ++ List.replicate k 0)) ∧ Below w3.heap.size w3 wr) (fun l _ => 8 - lnOf l)
              case atStart => exact ⟨0, by omega, by simpa using H4.out.1, H4.out.2⟩
              case round =>
                obtain ⟨j, hj, ho, hb⟩ := hrel
                obtain ⟨Al, cl, rfl, hGl⟩ := Gs.of_own ho
                have hsz := hb.size
                have HO := Lib.hid (And.intro ho hb)
                clear ho hb hGl
                by_cases hlt3 : x.length + j + y.length < 8
                · have hlt3' : ((x.length + j : Nat) : Int) + (y.length : Int) < 8 := by omega
                  go_wp2_with (at_builtin; refine wpList_append_gs rfl (.tmp 88) (.tmp 89) 73 rfl w3.heap.size 3 infoInt rfl (by omega) Tryz.underlying73 _ _ _ rfl (HO.out.1.alloc _) _ 1 1 _ rfl (by exact Gs.lit _ [.int .i64 0] 1 rfl (by unfold maxLen; omega) _ rfl _) (iv_one [0]) (by omega) (by simp; omega) ?_; intro v2 w5 o2 g2)
                  have hb2 : Below w3.heap.size w3 w5 := (HO.out.2.alloc hsz _).grown g2 (by simp; omega) (fun q hq => (HO.out.1.lt q hq).1)
                  have o4 : w5.ownsRow w3.heap.size 3 1 v2 (x.length + (j + 1)) (iv (x ++ List.replicate (j + 1) 0)) := by
                    rw [List.replicate_succ', ← List.append_assoc, iv_append]
                    exact o2
                  obtain ⟨A2, c2, rfl, _⟩ := Gs.of_own o4
                  refine ⟨⟨j + 1, by omega, o4, hb2⟩, by simp [lnOf]; omega⟩
                · have hj8 : x.length + j + y.length = 8 := by omega
                  obtain rfl : j = 8 - x.length - y.length := by omega
                  generalize hjj : 8 - x.length - y.length = j at *
                  obtain ⟨ns, hns⟩ : ∃ ns, x ++ List.replicate j 0 ++ y = ns := ⟨_, rfl⟩
                  have hn8 : ns.length = 8 := by rw [← hns]; simp; omega
                  have hnt : ∀ n ∈ ns, n < 65536 := by
                    rw [← hns]
                    intro n hn
                    rcases List.mem_append.1 hn with hn | hn
                    · rcases List.mem_append.1 hn with hn | hn
                      · exact HXY.out.1 n hn
                      · rw [(List.mem_replicate.1 hn).2]; omega
                    · exact HXY.out.2 n hn
                  have HN := Lib.hid (And.intro hn8 hnt)
                  have HR := Lib.hid (show some (g2 ns) = r6 s.data.toList by rw [HR0.out, hns])
                  have HNS := Lib.hid hns
                  have hlt3' : ¬ ((x.length + j : Nat) : Int) + (y.length : Int) < 8 := by omega
                  clear hn8 hnt hns hjj
                  go_wp2_with (first
                    | (at_builtin; refine wpList_append_gs rfl (.tmp 91) (.tmp 92) 73 rfl w3.heap.size 3 infoInt rfl (by omega) Tryz.underlying73 _ _ _ rfl HO.out.1 _ _ _ _ rfl (H3.out.2.2.2.later HO.out.2 (Nat.le_refl _)) (iv_one y) (by omega) hsz ?_; intro vT W oT gT; rw [hj8, ← iv_append, HNS.out] at oT; obtain ⟨A8, c8, rfl, hG8⟩ := Gs.of_own oT; have bT := HO.out.2.grown gT hsz (fun q hq => (HO.out.1.lt q hq).1); have HT := Lib.hid (And.intro hG8 (And.intro (H3.out.1.later bT (Nat.le_refl _)) (H3.out.2.1.trans (bT.mono H3.out.2.1.size)))); clear oT gT hG8 bT)
                    | (refine wpList_alloc_ad rfl rfl ?_; intro w5 a5 b5 z5; have H5 := Lib.hid (And.intro a5 (And.intro b5 z5)); clear a5 b5 z5)
                    | (refine wpList_store_ad rfl (.tmp 13) (.tmp 94) rfl true (List.replicate 16 0) rfl rfl rfl H5.out.1 ?_; intro w6 a6 o6 z6 b6; have H6 := Lib.hid (And.intro a6 (And.intro (b6 W.heap.size W (Nat.le_refl _) H5.out.2.1) z6)); clear a6 o6 z6 b6))
                  have H9 := Lib.hid (And.intro (HT.out.2.1.later H6.out.2.1 (Nat.le_refl _)) (HT.out.2.2.trans (H6.out.2.1.mono HT.out.2.2.size)))
                  go_loopw [14] (fun i wr => ∃ k : Nat, i = .int .i64 k ∧ k ≤ 8 ∧ Hid (AdBox wr W.heap.size true (g2z ns k) ∧ Below W.heap.size W wr)) (fun i _ => 8 - (intOf i).toNat)
                  case atStart => exact ⟨0, rfl, by omega, Lib.hid ⟨by simpa [g2z, g2] using H6.out.1, H6.out.2.1⟩⟩
                  case round =>
                    obtain ⟨k2, rfl, hk2, hh2⟩ := hrel
                    have hGs := HT.out.1.later hh2.out.2 (Nat.le_refl _)
                    by_cases hlt2 : k2 < 8
                    · obtain ⟨n, hnk⟩ : ∃ n, ns[k2]? = some n := ⟨_, List.getElem?_eq_getElem (by rw [HN.out.1]; omega)⟩
                      have hn2 := HN.out.2 n (List.mem_of_getElem? hnk)
                      have hb9 : ∀ b off, A8 = some ⟨b, off, none⟩ → b < W.heap.size := fun b off e1 => by
                        obtain ⟨_, _, e0, hc0⟩ := HT.out.1.get (iv_at hnk)
                        rw [e1] at e0
                        cases e0
                        have := lt_of_cell' hc0
                        simpa using this
                      obtain ⟨b9, off9, rfl, hrow⟩ := hGs.get (iv_at hnk)
                      have hb9 := hb9 b9 off9 rfl
                      have hne : b9 ≠ W.heap.size := by omega
                      obtain ⟨x1, _, hc1⟩ := hh2.out.1.there (2 * k2) (by omega)
                      have hf1 := hh2.out.1.frozen (1 + 2 * k2)
                      obtain ⟨x2, _, hc2⟩ := hh2.out.1.there (2 * k2 + 1) (by omega)
                      have hf2 := hh2.out.1.frozen (1 + (2 * k2 + 1))
                      have a3 := (hh2.out.1.put (2 * k2) (UInt8.ofNat (n / 256))).put (2 * k2 + 1) (UInt8.ofNat (n % 256))
                      rw [g2z_set HN.out.1 hnk, show ((UInt8.ofNat (n / 256)).toNat : Int) = (n : Int) / 256 by rw [UInt8.toNat_ofNat']; omega, show ((UInt8.ofNat (n % 256)).toNat : Int) = (n : Int) % 256 by rw [UInt8.toNat_ofNat']; omega] at a3
                      have b3 := (hh2.out.2.setCell (p := ⟨W.heap.size, 1 + 2 * k2, none⟩) (Nat.le_refl _) (.int .u8 ((n : Int) / 256))).setCell (p := ⟨W.heap.size, 1 + (2 * k2 + 1), none⟩) (Nat.le_refl _) (.int .u8 ((n : Int) % 256))
                      have H10 := Lib.hid (And.intro a3 b3.drew)
                      clear a3 b3 hnk hb9 hGs
                      go_wp2_with fail
                      go_region
                      go_wp2_with fail
                      go_roundw
                      case rel => exact ⟨k2 + 1, by go_num, by omega, H10⟩
                      case measure => simp [intOf]; omega
                    · obtain rfl : k2 = 8 := by omega
                      have hg : g2z ns 8 = g2 ns := by unfold g2z; rw [List.take_of_length_le (by rw [HN.out.1]; omega)]; simp
                      have hgl : (g2 ns).length = 16 := by rw [g2_len, HN.out.1]
                      have hA := hh2.out.1
                      rw [hg] at hA
                      have H10 := Lib.hid (And.intro hA (And.intro (hh2.out.2) hgl))
                      clear hA hg hgl hGs
                      go_wp2_with (first
                        | (refine wpList_load_ad rfl (.tmp 13) rfl rfl H10.out.1 ?_)
                        | (refine wpList_store_ad rfl (.tmp 2) (.tmp 119) rfl true (g2 ns) rfl rfl H10.out.2.2 (HT.out.2.1.later H10.out.2.1 (Nat.le_refl _)) ?_; intro w11 a5 o5 z5 b5; have H11 := Lib.hid (And.intro a5 (b5 w.heap.size w (Nat.le_refl _) (HT.out.2.2.trans (H10.out.2.1.mono HT.out.2.2.size)))); clear a5 o5 z5 b5))
                      exact bodyPost_ret (results_ad_tmp rfl _ rfl H11.out.1) rfl (by rw [← HR.out]; exact ⟨H11.out.2, H10.out.2.2, rfl⟩)
            · rw [if_neg h7] at hr2
              have HR := Lib.hid hr2.symm
              clear hr2
              have h7' : (7 : Int) < (x.length : Int) + (y.length : Int) := by omega
              go_wp2_with fail
              refine (HX.out _).mono ?_
              rintro e w2 ⟨b2, Ax, cx, rfl, gx⟩
              have H2 := Lib.hid (And.intro (H1.out.1.later b2 (Nat.le_refl _)) (And.intro (H1.out.2.trans (b2.mono H1.out.2.size)) trivial))
              clear b2 gx
              go_wp2_with fail
              refine (HY.out _).mono ?_
              rintro e w3 ⟨b3, Ay, cy, rfl, gy⟩
              have H3 := Lib.hid (And.intro (H2.out.1.later b3 (Nat.le_refl _)) (And.intro (H2.out.2.1.trans (b3.mono H2.out.2.1.size)) trivial))
              clear b3 gy
              go_wp2_with (refine wpList_store_ad rfl (.tmp 2) (.tmp 78) rfl false (List.replicate 16 0) rfl rfl rfl H3.out.1 ?_; intro w5 a5 o5 z5 b5; have H5 := Lib.hid (And.intro a5 (b5 w.heap.size w (Nat.le_refl _) H3.out.2.1)); clear a5 o5 z5 b5)
              exact bodyPost_ret (results_ad_tmp rfl _ rfl H5.out.1) rfl (by rw [← HR.out]; exact ⟨H5.out.2, rfl⟩)
end Go.Proofs.YtdbbgjbgmfeljaaGreatDoor
