/-
  Package addr's ParseNet. Conditions: what the program's text has laid (Env).
-/
import Derived.Test.YtjegeiaabkheiaaGreatDoorPxL
import Derived.Test.YtjegeiaabkheiaaGreatDoorParse
namespace Go.Proofs.YtjegeiaabkheiaaGreatDoor
open Go.RowKit
set_option maxRecDepth 100000

/-- The net that a text tells. -/
def parsenetv (l : List UInt8) : Option (Bool × List UInt8 × Nat) :=
  (parsev (Lib.cut l [47]).1).bind fun a => (decv (Lib.cut l [47]).2.1).bind fun n => if rightnetv a.1 a.2 n then some (a.1, a.2, n) else none
def Pn (r : Option (Bool × List UInt8 × Nat)) (w : World) (e : Ending) (w' : World) : Prop :=
  Below w.heap.size w w' ∧ match r with
    | some (v6, bs, n) => bs.length = 16 ∧ e = .returned (.tuple #[.agg (pxv v6 bs n), .nilIface])
    | none => e = .returned (.tuple #[.agg (pxv false (List.replicate 16 0) 0), .iface 32 (.int .i64 17)])

set_option maxHeartbeats 4000000 in
theorem ParseNet_any (s : ByteArray) (hs : s.size < 4294967281) {w : World} (hE : Env w) : Calls Tryz.prog 10 #[.string s] w (Pn (parsenetv s.data.toList) w) := by
  have hl : s.data.toList.length = s.size := (Lib.size_eq s).symm
  have hcl := cut_len s.data.toList [47]
  have hpn : parsenetv s.data.toList = (parsev (Lib.cut s.data.toList [47]).1).bind fun a => (decv (Lib.cut s.data.toList [47]).2.1).bind fun n => if rightnetv a.1 a.2 n then some (a.1, a.2, n) else none := rfl
  have HE := Lib.hid hE
  clear hE
  go_enter Tryz.func10, Tryz.ntmps10
  go_wp2_with (refine wpList_alloc_px rfl rfl ?_; intro w1 a1 b1 z1; have H1 := Lib.hid (And.intro a1 b1); clear a1 b1 z1)
  refine (cut_any s ⟨#[47]⟩ hs (HE.out.later H1.out.2 (Nat.le_refl _))).mono ?_
  rw [show (ByteArray.mk #[47]).data.toList = [47] from rfl]
  rintro e w2 ⟨rfl, b2⟩
  obtain ⟨la, ra, sh, hc⟩ : ∃ la ra sh, Lib.cut s.data.toList [47] = (la, ra, sh) := ⟨_, _, _, rfl⟩
  rw [hc] at hcl hpn ⊢
  simp only at hcl hpn ⊢
  have H2 := Lib.hid (And.intro (H1.out.1.later b2 (Nat.le_refl _)) (H1.out.2.trans (b2.mono H1.out.2.size)))
  have HPN := Lib.hid hpn
  have hla : (ByteArray.mk la.toArray).size < 4294967281 := by show la.toArray.size < _; simp; omega
  have hra : (ByteArray.mk ra.toArray).size ≤ maxLen := by show ra.toArray.size ≤ _; unfold maxLen; simp; omega
  have k1 := Parse_any ⟨la.toArray⟩ hla (HE.out.later H2.out.2 (Nat.le_refl _))
  rw [show (ByteArray.mk la.toArray).data.toList = la from by simp] at k1
  have K2 : ∀ w3, Below w.heap.size w w3 → Hid (Calls Tryz.prog 33 #[.string ⟨ra.toArray⟩] w3 (Num (decv ra) w3)) := fun w3 hb => by
    have := decimal_any ⟨ra.toArray⟩ hra (HE.out.later hb (Nat.le_refl _))
    rw [show (ByteArray.mk ra.toArray).data.toList = ra from by simp] at this
    exact this
  have K2 := Lib.hid K2
  have K1 := Lib.hid k1
  clear hc b2 hpn hla hra k1 hcl hl
  cases hx : parsev la with
  | none =>
    rw [hx] at K1 HPN
    clear hx
    simp only [Option.bind_none] at HPN
    go_wp2_with fail
    refine K1.out.mono ?_
    rintro e w3 ⟨b3, rfl⟩
    have H3 := Lib.hid (And.intro (H2.out.1.later b3 (Nat.le_refl _)) (H2.out.2.trans (b3.mono H2.out.2.size)))
    clear b3
    go_wp2_with (first
      | (refine wpList_alloc_ad rfl rfl ?_; intro w4 a4 b4 z4; have H4 := Lib.hid (And.intro (H3.out.1.later b4 (Nat.le_refl _)) (And.intro a4 (And.intro (H3.out.2.trans (b4.mono H3.out.2.size)) b4))); clear a4 b4 z4)
      | (refine wpList_store_ad rfl (.tmp 7) (.tmp 20) rfl false (List.replicate 16 0) rfl rfl rfl H4.out.2.1 ?_; intro w5 a5 o5 z5 b5; have H5 := Lib.hid (And.intro (H3.out.1.later (b5 _ _ (Nat.le_refl _) H4.out.2.2.2) (Nat.le_refl _)) (b5 w.heap.size w H3.out.2.size H4.out.2.2.1)); clear a5 o5 z5 b5)
      | (refine wpList_store_px rfl (.tmp 2) (.tmp 24) rfl false (List.replicate 16 0) 0 rfl rfl rfl H5.out.1 ?_; intro w6 a6 o6 z6 b6; have H6 := Lib.hid (And.intro a6 (b6 w.heap.size w (Nat.le_refl _) H5.out.2)); clear a6 o6 z6 b6))
    exact bodyPost_ret (results_px_tmp rfl _ rfl H6.out.1) rfl (by rw [HPN.out]; exact ⟨H6.out.2, rfl⟩)
  | some x =>
    obtain ⟨v6, bs⟩ := x
    rw [hx] at K1 HPN
    clear hx
    simp only [Option.bind_some] at HPN
    go_wp2_with fail
    refine K1.out.mono ?_
    rintro e w3 ⟨b3, hbs, rfl⟩
    have H3 := Lib.hid (And.intro (H2.out.1.later b3 (Nat.le_refl _)) (H2.out.2.trans (b3.mono H2.out.2.size)))
    clear b3
    go_wp2_with (first
      | (refine wpList_alloc_ad rfl rfl ?_; intro w4 a4 b4 z4; have H4 := Lib.hid (And.intro (H3.out.1.later b4 (Nat.le_refl _)) (And.intro a4 (And.intro (H3.out.2.trans (b4.mono H3.out.2.size)) b4))); clear a4 b4 z4)
      | (refine wpList_store_ad rfl (.tmp 7) (.tmp 20) rfl v6 bs rfl rfl hbs H4.out.2.1 ?_; intro w5 a5 o5 z5 b5; have H5 := Lib.hid (And.intro (H3.out.1.later (b5 _ _ (Nat.le_refl _) H4.out.2.2.2) (Nat.le_refl _)) (And.intro a5 (b5 w.heap.size w H3.out.2.size H4.out.2.2.1))); clear a5 o5 z5 b5))
    have hsz := adv_size v6 hbs
    have hsz2 := pxv_size v6 0 hbs
    have hfo := fold_px v6 hbs
    have hse := set_px v6 hbs 0
    have k2 := (K2.out _ H5.out.2.2).out
    have K2' := Lib.hid k2
    clear k2
    cases hn : decv ra with
    | none =>
      rw [hn] at K2' HPN
      clear hn
      simp only [Option.bind_none] at HPN
      refine K2'.out.mono ?_
      rintro e w6 ⟨b6, er, rfl, d6⟩
      obtain ⟨T, xv, rfl⟩ := d6.held
      have H6 := Lib.hid (And.intro (H5.out.1.later b6 (Nat.le_refl _)) (And.intro (H5.out.2.1.later b6 (Nat.le_refl _)) (H5.out.2.2.trans (b6.mono H5.out.2.2.size))))
      clear b6 d6
      go_wp2_with (first
        | (refine wpList_load_ad rfl (.tmp 7) rfl rfl H6.out.2.1 ?_)
        | (refine wpList_alloc_px rfl rfl ?_; intro w7 a7 b7 z7; have H7 := Lib.hid (And.intro (H6.out.1.later b7 (Nat.le_refl _)) (And.intro a7 (And.intro (H6.out.2.2.trans (b7.mono H6.out.2.2.size)) b7))); clear a7 b7 z7)
        | (refine wpList_store_px rfl (.tmp 10) (.tmp 33) rfl v6 bs 0 rfl rfl hbs H7.out.2.1 ?_; intro w8 a8 o8 z8 b8; have H8 := Lib.hid (And.intro (H6.out.1.later (b8 _ _ (Nat.le_refl _) H7.out.2.2.2) (Nat.le_refl _)) (b8 w.heap.size w H6.out.2.2.size H7.out.2.2.1)); clear a8 o8 z8 b8)
        | (refine wpList_store_px rfl (.tmp 2) (.tmp 41) rfl false (List.replicate 16 0) 0 rfl rfl rfl H8.out.1 ?_; intro w9 a9 o9 z9 b9; have H9 := Lib.hid (And.intro a9 (b9 w.heap.size w (Nat.le_refl _) H8.out.2)); clear a9 o9 z9 b9))
      exact bodyPost_ret (results_px_tmp rfl _ rfl H9.out.1) rfl (by rw [HPN.out]; exact ⟨H9.out.2, rfl⟩)
    | some n =>
      rw [hn] at K2' HPN
      have hn1 := decv_lt hn
      clear hn
      simp only [Option.bind_some] at HPN
      have hRN := RightNet_any v6 bs hbs n
      refine K2'.out.mono ?_
      rintro e w6 ⟨b6, rfl⟩
      have H6 := Lib.hid (And.intro (H5.out.1.later b6 (Nat.le_refl _)) (And.intro (H5.out.2.1.later b6 (Nat.le_refl _)) (H5.out.2.2.trans (b6.mono H5.out.2.2.size))))
      clear b6
      cases hrn : rightnetv v6 bs n with
      | false =>
        rw [hrn] at hRN HPN
        have HRN := Lib.hid hRN
        clear hRN hrn
        go_wp2_with (first
          | (refine wpList_load_ad rfl (.tmp 7) rfl rfl H6.out.2.1 ?_)
          | (refine wpList_alloc_px rfl rfl ?_; intro w7 a7 b7 z7; have H7 := Lib.hid (And.intro (H6.out.1.later b7 (Nat.le_refl _)) (And.intro a7 (And.intro (H6.out.2.2.trans (b7.mono H6.out.2.2.size)) b7))); clear a7 b7 z7)
          | (refine wpList_store_px rfl (.tmp 10) (.tmp 33) rfl v6 bs n rfl rfl hbs H7.out.2.1 ?_; intro w8 a8 o8 z8 b8; have H8 := Lib.hid (And.intro (H6.out.1.later (b8 _ _ (Nat.le_refl _) H7.out.2.2.2) (Nat.le_refl _)) (And.intro a8 (b8 w.heap.size w H6.out.2.2.size H7.out.2.2.1))); clear a8 o8 z8 b8)
          | (refine wpList_load_row_w rfl 26 (.tmp 10) rfl w6.heap.size 0 rfl (pxv v6 bs n) _ H8.out.2.1.range Tryz.underlying26 rfl (px_size v6 n hbs) ?_))
        refine (HRN.out _).mono ?_
        rintro e w9 ⟨rfl, b9⟩
        have H9 := Lib.hid (And.intro (H8.out.1.later b9 (Nat.le_refl _)) (H8.out.2.2.trans (b9.mono H8.out.2.2.size)))
        clear b9
        go_wp2_with (refine wpList_store_px rfl (.tmp 2) (.tmp 41) rfl false (List.replicate 16 0) 0 rfl rfl rfl H9.out.1 ?_; intro w10 a9 o9 z9 b9; have H10 := Lib.hid (And.intro a9 (b9 w.heap.size w (Nat.le_refl _) H9.out.2)); clear a9 o9 z9 b9)
        exact bodyPost_ret (results_px_tmp rfl _ rfl H10.out.1) rfl (by rw [HPN.out]; exact ⟨H10.out.2, rfl⟩)
      | true =>
        rw [hrn] at hRN HPN
        have HRN := Lib.hid hRN
        clear hRN hrn
        go_wp2_with (first
          | (refine wpList_load_ad rfl (.tmp 7) rfl rfl H6.out.2.1 ?_)
          | (refine wpList_alloc_px rfl rfl ?_; intro w7 a7 b7 z7; have H7 := Lib.hid (And.intro (H6.out.1.later b7 (Nat.le_refl _)) (And.intro a7 (And.intro (H6.out.2.2.trans (b7.mono H6.out.2.2.size)) b7))); clear a7 b7 z7)
          | (refine wpList_store_px rfl (.tmp 10) (.tmp 33) rfl v6 bs n rfl rfl hbs H7.out.2.1 ?_; intro w8 a8 o8 z8 b8; have H8 := Lib.hid (And.intro (H6.out.1.later (b8 _ _ (Nat.le_refl _) H7.out.2.2.2) (Nat.le_refl _)) (And.intro a8 (b8 w.heap.size w H6.out.2.2.size H7.out.2.2.1))); clear a8 o8 z8 b8)
          | (refine wpList_load_row_w rfl 26 (.tmp 10) rfl w6.heap.size 0 rfl (pxv v6 bs n) _ H8.out.2.1.range Tryz.underlying26 rfl (px_size v6 n hbs) ?_))
        refine (HRN.out _).mono ?_
        rintro e w9 ⟨rfl, b9⟩
        have H9 := Lib.hid (And.intro (H8.out.1.later b9 (Nat.le_refl _)) (And.intro (H8.out.2.1.later b9 (Nat.le_refl _)) (H8.out.2.2.trans (b9.mono H8.out.2.2.size))))
        clear b9
        go_wp2_with (first
          | (refine wpList_load_px rfl (.tmp 10) rfl rfl H9.out.2.1 ?_)
          | (refine wpList_store_px rfl (.tmp 2) (.tmp 43) rfl v6 bs n rfl rfl hbs H9.out.1 ?_; intro w10 a9 o9 z9 b9; have H10 := Lib.hid (And.intro a9 (b9 w.heap.size w (Nat.le_refl _) H9.out.2.2)); clear a9 o9 z9 b9))
        exact bodyPost_ret (results_px_tmp rfl _ rfl H10.out.1) rfl (by rw [HPN.out]; exact ⟨H10.out.2, hbs, rfl⟩)
end Go.Proofs.YtjegeiaabkheiaaGreatDoor
