/-
  stockaderef01: ParseAddr: the document's own answers on texts as addresses. Conditions: the text's length.
  stockaderef01: ParseNet: the document's own answers on texts as nets. Conditions: the text's length.
-/
import Derived.Test.YtdbbgjbgmfeljaaGreatDoorZ34
import Derived.Test.YtdbbgjbgmfeljaaGreatDoorZ15
import Derived.Test.YtdbbgjbgmfeljaaGreatDoorZ11
import Derived.Test.YtdbbgjbgmfeljaaGreatDoorZ16
namespace Go.Proofs.YtdbbgjbgmfeljaaGreatDoor
open Go.RowKit
set_option maxRecDepth 100000

/-- What such a call answers: the address, and no error; or none, and which error. -/
def RPa (r : Option (Bool × List UInt8)) (w : World) (e : Ending) (w' : World) : Prop :=
  Below w.heap.size w w' ∧ match r with
    | some (v6, bs) => bs.length = 16 ∧ e = .returned (.tuple #[.agg (adv v6 bs), .agg (flv 0 0 false)])
    | none => e = .returned (.tuple #[.agg (adv false (List.replicate 16 0)), .agg (flv 17 0 false)])

set_option maxHeartbeats 4000000 in
theorem refParse_any (s : ByteArray) (hs : s.size ≤ 1000) (w : World) : Calls Tryz.prog 6 #[.string s] w (RPa (parsev s.data.toList) w) := by
  have hpv := parsev_ref s.data.toList
  have K4 := fun w => refFour_any s hs w
  have K6 := fun w => refSix_any s hs w
  cases h4 : r4 s.data.toList with
  | some bs =>
    rw [h4] at hpv K4
    have HP := Lib.hid hpv
    have HK4 := Lib.hid K4
    clear hpv h4 K4 K6
    go_enter Tryz.func6, Tryz.ntmps6
    go_wp2_with (first
      | (refine wpList_alloc_ad rfl rfl ?_; intro w1 a1 b1 z1; have H1 := Lib.hid (And.intro a1 b1); clear a1 b1 z1)
      | (refine wpList_alloc_fl rfl rfl ?_; intro w2 a2 b2 z2; have H2 := Lib.hid (And.intro (H1.out.1.later b2 (Nat.le_refl _)) (And.intro a2 (H1.out.2.trans (b2.mono H1.out.2.size)))); clear a2 b2 z2))
    have hne : w.heap.size ≠ w1.heap.size := Nat.ne_of_lt H1.out.1.lt
    refine (HK4.out _).mono ?_
    rintro e w3 ⟨b3, hbs, rfl⟩
    have H3 := Lib.hid (And.intro (H2.out.1.later b3 (Nat.le_refl _)) (And.intro (H2.out.2.1.later b3 (Nat.le_refl _)) (H2.out.2.2.trans (b3.mono H2.out.2.2.size))))
    clear b3
    go_wp2_with (first
      | (refine wpList_alloc_ad rfl rfl ?_; intro w4 a4 b4 z4; have H4 := Lib.hid (And.intro a4 b4); clear a4 b4 z4)
      | (refine wpList_store_ad rfl (.tmp 4) (.tmp 9) rfl false bs rfl rfl hbs H4.out.1 ?_; intro w5 a5 o5 z5 b5; have bb := b5 _ _ (Nat.le_refl _) H4.out.2; have H5 := Lib.hid (And.intro a5 (And.intro (H3.out.1.later bb (Nat.le_refl _)) (And.intro (H3.out.2.1.later bb (Nat.le_refl _)) (H3.out.2.2.trans (bb.mono H3.out.2.2.size))))); clear a5 o5 z5 b5 bb)
      | (refine wpList_load_ad rfl (.tmp 4) rfl rfl H5.out.1 ?_)
      | (refine wpList_store_ad rfl (.tmp 2) (.tmp 22) rfl false bs rfl rfl hbs H5.out.2.1 ?_; intro w6 a6 o6 z6 b6; have H6 := Lib.hid (And.intro a6 (And.intro (H5.out.2.2.1.same (o6 _ hne.symm)) (b6 w.heap.size w (Nat.le_refl _) H5.out.2.2.2))); clear a6 o6 z6 b6)
      | (refine wpList_store_fl rfl (.tmp 3) (.tmp 23) rfl 0 0 false rfl rfl H6.out.2.1 ?_; intro w7 a7 o7 z7 b7; have H7 := Lib.hid (And.intro (H6.out.1.same (o7 _ hne)) (And.intro a7 (b7 w.heap.size w H1.out.2.size H6.out.2.2))); clear a7 o7 z7 b7))
    exact bodyPost_ret (results_ad_fl rfl _ rfl rfl H7.out.1 H7.out.2.1) rfl (by rw [HP.out]; exact ⟨H7.out.2.2, hbs, rfl⟩)
  | none =>
    rw [h4] at hpv K4
    have HK4 := Lib.hid K4
    clear h4 K4
    cases h6 : r6 s.data.toList with
    | some bs =>
      rw [h6] at hpv K6
      simp only [Option.map_some] at hpv
      have HP := Lib.hid hpv
      have HK6 := Lib.hid K6
      clear hpv h6 K6
      go_enter Tryz.func6, Tryz.ntmps6
      go_wp2_with (first
        | (refine wpList_alloc_ad rfl rfl ?_; intro w1 a1 b1 z1; have H1 := Lib.hid (And.intro a1 b1); clear a1 b1 z1)
        | (refine wpList_alloc_fl rfl rfl ?_; intro w2 a2 b2 z2; have H2 := Lib.hid (And.intro (H1.out.1.later b2 (Nat.le_refl _)) (And.intro a2 (H1.out.2.trans (b2.mono H1.out.2.size)))); clear a2 b2 z2))
      have hne : w.heap.size ≠ w1.heap.size := Nat.ne_of_lt H1.out.1.lt
      refine (HK4.out _).mono ?_
      rintro e w3 ⟨b3, rfl⟩
      have H3 := Lib.hid (And.intro (H2.out.1.later b3 (Nat.le_refl _)) (And.intro (H2.out.2.1.later b3 (Nat.le_refl _)) (H2.out.2.2.trans (b3.mono H2.out.2.2.size))))
      clear b3
      go_wp2_with (first
        | (refine wpList_alloc_ad rfl rfl ?_; intro w4 a4 b4 z4; have H4 := Lib.hid (And.intro a4 b4); clear a4 b4 z4)
        | (refine wpList_store_ad rfl (.tmp 4) (.tmp 9) rfl false (List.replicate 16 0) rfl rfl rfl H4.out.1 ?_; intro w5 a5 o5 z5 b5; have H5 := Lib.hid (And.intro a5 (b5 _ _ (Nat.le_refl _) H4.out.2)); clear a5 o5 z5 b5))
      refine (HK6.out _).mono ?_
      rintro e w6 ⟨b6, hbs, rfl⟩
      have H6 := Lib.hid (And.intro (H5.out.1.later b6 (Nat.le_refl _)) (H5.out.2.trans (b6.mono H5.out.2.size)))
      clear b6
      go_wp2_with (first
        | (refine wpList_store_ad rfl (.tmp 4) (.tmp 16) rfl true bs rfl rfl hbs H6.out.1 ?_; intro w7 a7 o7 z7 b7; have bb := b7 _ _ (Nat.le_refl _) H6.out.2; have H7 := Lib.hid (And.intro a7 (And.intro (H3.out.1.later bb (Nat.le_refl _)) (And.intro (H3.out.2.1.later bb (Nat.le_refl _)) (H3.out.2.2.trans (bb.mono H3.out.2.2.size))))); clear a7 o7 z7 b7 bb)
        | (refine wpList_load_ad rfl (.tmp 4) rfl rfl H7.out.1 ?_)
        | (refine wpList_store_ad rfl (.tmp 2) (.tmp 22) rfl true bs rfl rfl hbs H7.out.2.1 ?_; intro w8 a8 o8 z8 b8; have H8 := Lib.hid (And.intro a8 (And.intro (H7.out.2.2.1.same (o8 _ hne.symm)) (b8 w.heap.size w (Nat.le_refl _) H7.out.2.2.2))); clear a8 o8 z8 b8)
        | (refine wpList_store_fl rfl (.tmp 3) (.tmp 23) rfl 0 0 false rfl rfl H8.out.2.1 ?_; intro w9 a9 o9 z9 b9; have H9 := Lib.hid (And.intro (H8.out.1.same (o9 _ hne)) (And.intro a9 (b9 w.heap.size w H1.out.2.size H8.out.2.2))); clear a9 o9 z9 b9))
      exact bodyPost_ret (results_ad_fl rfl _ rfl rfl H9.out.1 H9.out.2.1) rfl (by rw [HP.out]; exact ⟨H9.out.2.2, hbs, rfl⟩)
    | none =>
      rw [h6] at hpv K6
      simp only [Option.map_none] at hpv
      have HP := Lib.hid hpv
      have HK6 := Lib.hid K6
      clear hpv h6 K6
      go_enter Tryz.func6, Tryz.ntmps6
      go_wp2_with (first
        | (refine wpList_alloc_ad rfl rfl ?_; intro w1 a1 b1 z1; have H1 := Lib.hid (And.intro a1 b1); clear a1 b1 z1)
        | (refine wpList_alloc_fl rfl rfl ?_; intro w2 a2 b2 z2; have H2 := Lib.hid (And.intro (H1.out.1.later b2 (Nat.le_refl _)) (And.intro a2 (H1.out.2.trans (b2.mono H1.out.2.size)))); clear a2 b2 z2))
      have hne : w.heap.size ≠ w1.heap.size := Nat.ne_of_lt H1.out.1.lt
      refine (HK4.out _).mono ?_
      rintro e w3 ⟨b3, rfl⟩
      have H3 := Lib.hid (And.intro (H2.out.1.later b3 (Nat.le_refl _)) (And.intro (H2.out.2.1.later b3 (Nat.le_refl _)) (H2.out.2.2.trans (b3.mono H2.out.2.2.size))))
      clear b3
      go_wp2_with (first
        | (refine wpList_alloc_ad rfl rfl ?_; intro w4 a4 b4 z4; have H4 := Lib.hid (And.intro a4 b4); clear a4 b4 z4)
        | (refine wpList_store_ad rfl (.tmp 4) (.tmp 9) rfl false (List.replicate 16 0) rfl rfl rfl H4.out.1 ?_; intro w5 a5 o5 z5 b5; have H5 := Lib.hid (And.intro a5 (b5 _ _ (Nat.le_refl _) H4.out.2)); clear a5 o5 z5 b5))
      refine (HK6.out _).mono ?_
      rintro e w6 ⟨b6, rfl⟩
      have H6 := Lib.hid (And.intro (H5.out.1.later b6 (Nat.le_refl _)) (H5.out.2.trans (b6.mono H5.out.2.size)))
      clear b6
      go_wp2_with (refine wpList_store_ad rfl (.tmp 4) (.tmp 16) rfl false (List.replicate 16 0) rfl rfl rfl H6.out.1 ?_; intro w7 a7 o7 z7 b7; have bb := b7 _ _ (Nat.le_refl _) H6.out.2; have H7 := Lib.hid (And.intro (H3.out.1.later bb (Nat.le_refl _)) (And.intro (H3.out.2.1.later bb (Nat.le_refl _)) (H3.out.2.2.trans (bb.mono H3.out.2.2.size)))); clear a7 o7 z7 b7 bb)
      refine (help_bare 17 _).mono ?_
      rintro e w8 ⟨rfl, b8⟩
      have H8 := Lib.hid (And.intro (H7.out.1.later b8 (Nat.le_refl _)) (And.intro (H7.out.2.1.later b8 (Nat.le_refl _)) (H7.out.2.2.trans (b8.mono H7.out.2.2.size))))
      clear b8
      go_wp2_with (first
        | (refine wpList_store_ad rfl (.tmp 2) (.tmp 20) rfl false (List.replicate 16 0) rfl rfl rfl H8.out.1 ?_; intro w9 a9 o9 z9 b9; have H9 := Lib.hid (And.intro a9 (And.intro (H8.out.2.1.same (o9 _ hne.symm)) (b9 w.heap.size w (Nat.le_refl _) H8.out.2.2))); clear a9 o9 z9 b9)
        | (refine wpList_store_fl rfl (.tmp 3) (.tmp 21) rfl 17 0 false rfl rfl H9.out.2.1 ?_; intro w10 a10 o10 z10 b10; have H10 := Lib.hid (And.intro (H9.out.1.same (o10 _ hne)) (And.intro a10 (b10 w.heap.size w H1.out.2.size H9.out.2.2))); clear a10 o10 z10 b10))
      exact bodyPost_ret (results_ad_fl rfl _ rfl rfl H10.out.1 H10.out.2.1) rfl (by rw [HP.out]; exact ⟨H10.out.2.2, rfl⟩)
end Go.Proofs.YtdbbgjbgmfeljaaGreatDoor

namespace Go.Proofs.YtdbbgjbgmfeljaaGreatDoor
open Go.RowKit
set_option maxRecDepth 100000

def RPn (r : Option (Bool × List UInt8 × Nat)) (w : World) (e : Ending) (w' : World) : Prop :=
  Below w.heap.size w w' ∧ match r with
    | some (v6, bs, n) => bs.length = 16 ∧ e = .returned (.tuple #[.agg (pxv v6 bs n), .agg (flv 0 0 false)])
    | none => e = .returned (.tuple #[.agg (pxv false (List.replicate 16 0) 0), .agg (flv 17 0 false)])
theorem RPa.form {r : Option (Bool × List UInt8)} {w w' : World} {e : Ending} (h : RPa r w e w') : Below w.heap.size w w' ∧ ∃ (v6 : Bool) (bs : List UInt8) (code : Int), bs.length = 16 ∧ e = .returned (.tuple #[.agg (adv v6 bs), .agg (flv code 0 false)]) ∧ ((r = some (v6, bs) ∧ code = 0) ∨ (r = none ∧ code = 17)) := by
  obtain ⟨hb, hm⟩ := h
  cases r with
  | none => exact ⟨hb, false, _, 17, rfl, hm, .inr ⟨rfl, rfl⟩⟩
  | some x => obtain ⟨v6, bs⟩ := x; obtain ⟨h1, h2⟩ := hm; exact ⟨hb, v6, bs, 0, h1, h2, .inl ⟨rfl, rfl⟩⟩
theorem rnet_none {l : List UInt8} (h : (spl 47 l).length ≠ 2) : rnet l = none := by
  unfold rnet
  split
  · rename_i e; rw [e] at h; simp at h
  · rfl
theorem rnet_two {l a b : List UInt8} (h : spl 47 l = [a, b]) : rnet l = (parsev a).bind fun x => (decv b).bind fun n => if rightnetv x.1 x.2 n then some (x.1, x.2, n) else none := by
  unfold rnet; rw [h]

set_option maxHeartbeats 8000000 in
theorem refParseNet_any (s : ByteArray) (hs : s.size ≤ 1000) (w : World) : Calls Tryz.prog 8 #[.string s] w (RPn (parsenetv s.data.toList) w) := by
  have hpn := parsenetv_ref s.data.toList
  have HSP := Lib.hid fun w => refSplit_any s hs 47 w
  have hls : s.data.toList.length = s.size := (Lib.size_eq s).symm
  go_enter Tryz.func8, Tryz.ntmps8
  go_wp2_with (first
    | (refine wpList_alloc_px rfl rfl ?_; intro w1 a1 b1 z1; have H1 := Lib.hid (And.intro a1 b1); clear a1 b1 z1)
    | (refine wpList_alloc_fl rfl rfl ?_; intro w2 a2 b2 z2; have H2 := Lib.hid (And.intro (H1.out.1.later b2 (Nat.le_refl _)) (And.intro a2 (H1.out.2.trans (b2.mono H1.out.2.size)))); clear a2 b2 z2))
  have hne : w.heap.size ≠ w1.heap.size := Nat.ne_of_lt H1.out.1.lt
  refine (HSP.out _).mono ?_
  rintro e w3 ⟨v, xs, rfl, o3, hbt, b3⟩
  obtain ⟨A, c, rfl, hG⟩ := Gs.of_own o3
  have H3 := Lib.hid (And.intro (H2.out.1.later b3 (Nat.le_refl _)) (And.intro (H2.out.2.1.later b3 (Nat.le_refl _)) (H2.out.2.2.trans (b3.mono H2.out.2.2.size))))
  clear b3 o3
  have hlx : xs.length = (spl 47 s.data.toList).length := by rw [← hbt]; simp [bts]
  by_cases h2 : xs.length = 2
  case neg =>
    have HRES := Lib.hid (hpn.trans (rnet_none (l := s.data.toList) (by omega)))
    have hb2 : ((xs.length : Int) == 2) = false := by simp; omega
    have HT := H3
    clear hpn hlx h2 hbt hG
    go_wp2_with fail
    refine (help_bare 17 _).mono ?_
    rintro e w20 ⟨rfl, b20⟩
    have H20 := Lib.hid (And.intro (HT.out.1.later b20 (Nat.le_refl _)) (And.intro (HT.out.2.1.later b20 (Nat.le_refl _)) (HT.out.2.2.trans (b20.mono HT.out.2.2.size))))
    clear b20
    go_wp2_with (first
      | (refine wpList_store_px rfl (.tmp 2) (.tmp 40) rfl false (List.replicate 16 0) 0 rfl rfl rfl H20.out.1 ?_; intro w21 a21 o21 z21 b21; have H21 := Lib.hid (And.intro a21 (And.intro (H20.out.2.1.same (o21 _ hne.symm)) (b21 w.heap.size w (Nat.le_refl _) H20.out.2.2))); clear a21 o21 z21 b21)
      | (refine wpList_store_fl rfl (.tmp 3) (.tmp 41) rfl 17 0 false rfl rfl H21.out.2.1 ?_; intro w22 a22 o22 z22 b22; have H22 := Lib.hid (And.intro (H21.out.1.same (o22 _ hne)) (And.intro a22 (b22 w.heap.size w H1.out.2.size H21.out.2.2))); clear a22 o22 z22 b22))
    exact bodyPost_ret (results_px_fl rfl _ rfl rfl H22.out.1 H22.out.2.1) rfl (by rw [HRES.out]; exact ⟨H22.out.2.2, rfl⟩)
  case pos =>
    obtain ⟨x0, x1, rfl⟩ : ∃ x0 x1, xs = [x0, x1] := by
      match xs, h2 with
      | [x0, x1], _ => exact ⟨x0, x1, rfl⟩
    have hsp : spl 47 s.data.toList = [x0.data.toList, x1.data.toList] := hbt.symm
    have hm0 : x0.data.toList ∈ spl 47 s.data.toList := by rw [hsp]; simp
    have hm1 : x1.data.toList ∈ spl 47 s.data.toList := by rw [hsp]; simp
    have hs0 : x0.size ≤ 1000 := by
      have h1 := splN_mem_len 47 s.data.toList _ _ hm0
      rw [Lib.size_eq]; omega
    have hs1 : x1.size ≤ 1000 := by
      have h1 := splN_mem_len 47 s.data.toList _ _ hm1
      rw [Lib.size_eq]; omega
    have HRN := Lib.hid (hpn.trans (rnet_two hsp))
    have HPA := Lib.hid fun w => refParse_any x0 hs0 w
    obtain ⟨d, hd⟩ : ∃ d, rv (decv x1.data.toList) = d := ⟨_, rfl⟩
    have hD := fun w => refDecimal_any x1 (by omega) w
    rw [hd] at hD
    have HD := Lib.hid hD
    obtain ⟨gb, off, rfl, hcs⟩ := hG.here (by simp)
    have hc0 : w3.cell? ⟨gb, off, none⟩ = some (.string x0) := hcs 0 _ rfl
    have hc1 : w3.cell? ⟨gb, off + 1, none⟩ = some (.string x1) := hcs 1 _ rfl
    have HC := Lib.hid hc1
    clear hpn hlx h2 hbt hG hcs hsp hm0 hm1 hD hls hc1
    go_wp2_with fail
    refine (HPA.out _).mono ?_
    intro e w4 hf
    obtain ⟨b4, v6, bs, code, hbs, rfl, hcode⟩ := hf.form
    have H4 := Lib.hid (And.intro (H3.out.1.later b4 (Nat.le_refl _)) (And.intro (H3.out.2.1.later b4 (Nat.le_refl _)) (And.intro (H3.out.2.2.trans (b4.mono H3.out.2.2.size)) ((b4.cell (p := ⟨gb, off + 1, none⟩) (by exact lt_cell HC.out)).trans HC.out))))
    clear b4 hf hc0
    go_wp2_with (first
      | (refine wpList_alloc_ad rfl rfl ?_; intro w5 a5 b5 z5; have H5 := Lib.hid (And.intro a5 b5); clear a5 b5 z5)
      | (refine wpList_alloc_fl rfl rfl ?_; intro w6 a6 b6 z6; have H6 := Lib.hid (And.intro (H5.out.1.later b6 (Nat.le_refl _)) (And.intro a6 (H5.out.2.trans (b6.mono H5.out.2.size)))); clear a6 b6 z6)
      | (refine wpList_store_ad rfl (.tmp 5) (.tmp 18) rfl v6 bs rfl rfl hbs H6.out.1 ?_; intro w7 a7 o7 z7 b7; have H7 := Lib.hid (And.intro a7 (And.intro (H6.out.2.1.same (o7 _ (Nat.ne_of_lt H5.out.1.lt).symm)) (b7 w4.heap.size w4 (Nat.le_refl _) H6.out.2.2))); clear a7 o7 z7 b7)
      | (refine wpList_store_fl rfl (.tmp 6) (.tmp 19) rfl code 0 false rfl rfl H7.out.2.1 ?_; intro w8 a8 o8 z8 b8; have bb := b8 w4.heap.size w4 H5.out.2.size H7.out.2.2; have H8 := Lib.hid (And.intro (H7.out.1.same (o8 _ (Nat.ne_of_lt H5.out.1.lt))) (And.intro a8 (And.intro (H4.out.1.later bb (Nat.le_refl _)) (And.intro (H4.out.2.1.later bb (Nat.le_refl _)) (H4.out.2.2.1.trans (bb.mono H4.out.2.2.1.size)))))); have HC8 := Lib.hid ((bb.cell (p := ⟨gb, off + 1, none⟩) (by exact lt_cell H4.out.2.2.2)).trans H4.out.2.2.2); clear a8 o8 z8 b8 bb))
    have hc1' : ∀ w', Below w8.heap.size w8 w' → w'.cell? ⟨gb, off + 1, none⟩ = some (.string x1) := fun w' h => (h.cell (p := ⟨gb, off + 1, none⟩) (by exact lt_cell HC8.out)).trans HC8.out
    have hsz := adv_size v6 hbs
    have hsz2 := pxv_size v6 0 hbs
    have hfo := fold_px v6 hbs
    have hse := set_px v6 hbs 0
    have hS : Below w8.heap.size w8 w8.drew := (Below.refl _ _).drew
    refine rg_begin (fun w' => Below w8.heap.size w8 w') 8 (by kernel_rfl) rfl ?_
    refine rg_load 0 rfl (by kernel_rfl) (by kernel_rfl) (by kernel_rfl) (w4.heap.size) 0 (adv v6 bs) (fun _ _ _ h => h) (by rfl) 24 (.tmp 5) rfl rfl hS (fun w2 h2 => (AdBox.later H8.out.1 h2 (Nat.le_refl _)).range) Tryz.underlying24 rfl (ad_size v6 H8.out.1.2) ?_
    simp only [Act.put, List.setIfInBounds_toArray, List.set_cons_zero, List.set_cons_succ]
    refine rg_take 1 (v := ?rv1) rfl (by kernel_rfl) (by kernel_rfl) (by kernel_rfl) (fun _ _ _ h => h) (by rfl) hS (fun w2 hw2 => ?ry1) ?rr1
    case ry1 => ((try dsimp only at hw2); go_simp <;> with_reducible rfl)
    simp only [Act.put, List.setIfInBounds_toArray, List.set_cons_zero, List.set_cons_succ]
    refine rg_take 2 (v := ?rv2) rfl (by kernel_rfl) (by kernel_rfl) (by kernel_rfl) (fun _ _ _ h => h) (by rfl) hS (fun w2 hw2 => ?ry2) ?rr2
    case ry2 => ((try dsimp only at hw2); go_simp <;> with_reducible rfl)
    simp only [Act.put, List.setIfInBounds_toArray, List.set_cons_zero, List.set_cons_succ]
    refine rg_take 3 (v := ?rv3) rfl (by kernel_rfl) (by kernel_rfl) (by kernel_rfl) (fun _ _ _ h => h) (by rfl) hS (fun w2 hw2 => ?ry3) ?rr3
    case ry3 => ((try dsimp only at hw2); go_simp <;> with_reducible rfl)
    simp only [Act.put, List.setIfInBounds_toArray, List.set_cons_zero, List.set_cons_succ]
    obtain ⟨W0, hW0⟩ : ∃ W0, w8.drew = W0 := ⟨_, rfl⟩
    rw [hW0] at hS ⊢
    have hW0s : w8.heap.size ≤ W0.heap.size := hS.size
    clear hW0
    refine rg_any [4, 6] (by kernel_rfl) (by simp) ?_
    refine rg_or 4 rfl (by rfl) (fun K hK => ?_) ?_
    · go_simp
      refine (HD.out _).mono ?_
      rintro e u3 ⟨rfl, rfl⟩
      refine hK.out _ _ hS ?_
      clear hK K
      try simp only [Act.put, List.setIfInBounds_toArray, List.set_cons_zero, List.set_cons_succ]
      refine rg_take 5 (v := ?rv4) rfl (by kernel_rfl) (by kernel_rfl) (by kernel_rfl) (fun _ _ _ h => h) (by rfl) hS (fun w2 hw2 => ?ry4) ?rr4
      case ry4 => ((try dsimp only at hw2); go_simp <;> with_reducible rfl)
      simp only [Act.put, List.setIfInBounds_toArray, List.set_cons_zero, List.set_cons_succ]
      refine rg_step 6 rfl (by kernel_rfl) (by rfl) (fun K hK => ?_)
      refine wp_alloc_px rfl ?_
      intro u1 P bA
      replace hS := hS.trans (bA.mono hS.size)
      clear bA
      refine hK.out _ _ hS ?_
      clear hK K
      try simp only [Act.put, List.setIfInBounds_toArray, List.set_cons_zero, List.set_cons_succ]
      refine rg_step 7 rfl (by kernel_rfl) (by rfl) (fun K hK => ?_)
      refine wp_store_pxF (.tmp 7) (.tmp 25) rfl rfl rfl hbs P ?_
      intro u4 P2 far keep
      replace hS := keep _ _ hW0s hS
      clear P far keep
      have P := P2
      clear P2
      refine hK.out _ _ hS ?_
      clear hK K
      try simp only [Act.put]
      refine rg_done (by kernel_rfl) ?_
      have HV := Lib.hid (And.intro (H8.out.2.2.1.later hS (Nat.le_refl _)) (And.intro (H8.out.2.2.2.1.later hS (Nat.le_refl _)) (And.intro (H8.out.2.2.2.2.trans (hS.mono H8.out.2.2.2.2.size)) P)))
      have cF : u4.cell? ⟨w5.heap.size, 0, none⟩ = some (.int .i64 code) := (H8.out.2.1.later hS (Nat.le_refl _)).cell 0
      have cB := P.bits_cell
      clear hS P
      rcases hcode with ⟨hpa, rfl⟩ | ⟨hpa, rfl⟩
      · cases hn : decv x1.data.toList with
        | none =>
          obtain rfl : d = -1 := by rw [← hd, hn]; rfl
          have HRES := Lib.hid (show parsenetv s.data.toList = none by rw [HRN.out, hpa, hn]; rfl)
          have HT := Lib.hid (And.intro HV.out.1 (And.intro HV.out.2.1 HV.out.2.2.1))
          clear hpa hn hd
          go_wp2_with fail
          refine (help_bare 17 _).mono ?_
          rintro e w20 ⟨rfl, b20⟩
          have H20 := Lib.hid (And.intro (HT.out.1.later b20 (Nat.le_refl _)) (And.intro (HT.out.2.1.later b20 (Nat.le_refl _)) (HT.out.2.2.trans (b20.mono HT.out.2.2.size))))
          clear b20
          go_wp2_with (first
            | (refine wpList_store_px rfl (.tmp 2) (.tmp 40) rfl false (List.replicate 16 0) 0 rfl rfl rfl H20.out.1 ?_; intro w21 a21 o21 z21 b21; have H21 := Lib.hid (And.intro a21 (And.intro (H20.out.2.1.same (o21 _ hne.symm)) (b21 w.heap.size w (Nat.le_refl _) H20.out.2.2))); clear a21 o21 z21 b21)
            | (refine wpList_store_fl rfl (.tmp 3) (.tmp 41) rfl 17 0 false rfl rfl H21.out.2.1 ?_; intro w22 a22 o22 z22 b22; have H22 := Lib.hid (And.intro (H21.out.1.same (o22 _ hne)) (And.intro a22 (b22 w.heap.size w H1.out.2.size H21.out.2.2))); clear a22 o22 z22 b22))
          exact bodyPost_ret (results_px_fl rfl _ rfl rfl H22.out.1 H22.out.2.1) rfl (by rw [HRES.out]; exact ⟨H22.out.2.2, rfl⟩)
        | some n =>
          obtain rfl : d = (n : Int) := by rw [← hd, hn]; rfl
          have hres : parsenetv s.data.toList = if rightnetv v6 bs n then some (v6, bs, n) else none := by rw [HRN.out, hpa, hn]; rfl
          have HRT := fun w => refRightNet_any v6 bs hbs (n : Int) w
          cases hr : rightnetv v6 bs n with
          | false =>
            rw [hr] at hres HRT
            have HRES := Lib.hid hres
            have HRT := Lib.hid HRT
            clear hpa hn hd hres hr
            go_wp2_with (refine wpList_load_row_w (by rfl) 26 (.tmp 7) rfl _ 0 rfl (pxv v6 bs n) _ HV.out.2.2.2.range Tryz.underlying26 rfl (px_size v6 n hbs) ?_)
            refine (HRT.out _).mono ?_
            rintro e w9 ⟨rfl, b9⟩
            have HT := Lib.hid (And.intro (HV.out.1.later b9 (Nat.le_refl _)) (And.intro (HV.out.2.1.later b9 (Nat.le_refl _)) (HV.out.2.2.1.trans (b9.mono HV.out.2.2.1.size))))
            clear b9 cF cB
            go_wp2_with fail
            refine (help_bare 17 _).mono ?_
            rintro e w20 ⟨rfl, b20⟩
            have H20 := Lib.hid (And.intro (HT.out.1.later b20 (Nat.le_refl _)) (And.intro (HT.out.2.1.later b20 (Nat.le_refl _)) (HT.out.2.2.trans (b20.mono HT.out.2.2.size))))
            clear b20
            go_wp2_with (first
              | (refine wpList_store_px rfl (.tmp 2) (.tmp 40) rfl false (List.replicate 16 0) 0 rfl rfl rfl H20.out.1 ?_; intro w21 a21 o21 z21 b21; have H21 := Lib.hid (And.intro a21 (And.intro (H20.out.2.1.same (o21 _ hne.symm)) (b21 w.heap.size w (Nat.le_refl _) H20.out.2.2))); clear a21 o21 z21 b21)
              | (refine wpList_store_fl rfl (.tmp 3) (.tmp 41) rfl 17 0 false rfl rfl H21.out.2.1 ?_; intro w22 a22 o22 z22 b22; have H22 := Lib.hid (And.intro (H21.out.1.same (o22 _ hne)) (And.intro a22 (b22 w.heap.size w H1.out.2.size H21.out.2.2))); clear a22 o22 z22 b22))
            exact bodyPost_ret (results_px_fl rfl _ rfl rfl H22.out.1 H22.out.2.1) rfl (by rw [HRES.out]; exact ⟨H22.out.2.2, rfl⟩)
          | true =>
            rw [hr] at hres HRT
            have HRES := Lib.hid hres
            have HRT := Lib.hid HRT
            clear hpa hn hd hres hr
            go_wp2_with (refine wpList_load_row_w (by rfl) 26 (.tmp 7) rfl _ 0 rfl (pxv v6 bs n) _ HV.out.2.2.2.range Tryz.underlying26 rfl (px_size v6 n hbs) ?_)
            refine (HRT.out _).mono ?_
            rintro e w9 ⟨rfl, b9⟩
            have H9 := Lib.hid (And.intro (HV.out.1.later b9 (Nat.le_refl _)) (And.intro (HV.out.2.1.later b9 (Nat.le_refl _)) (And.intro (HV.out.2.2.1.trans (b9.mono HV.out.2.2.1.size)) (HV.out.2.2.2.later b9 (Nat.le_refl _)))))
            clear b9 cF cB
            go_wp2_with (first
              | (refine wpList_load_px rfl (.tmp 7) rfl rfl H9.out.2.2.2 ?_)
              | (refine wpList_store_px rfl (.tmp 2) (.tmp 38) rfl v6 bs n rfl rfl hbs H9.out.1 ?_; intro w21 a21 o21 z21 b21; have H21 := Lib.hid (And.intro a21 (And.intro (H9.out.2.1.same (o21 _ hne.symm)) (b21 w.heap.size w (Nat.le_refl _) H9.out.2.2.1))); clear a21 o21 z21 b21)
              | (refine wpList_store_fl rfl (.tmp 3) (.tmp 39) rfl 0 0 false rfl rfl H21.out.2.1 ?_; intro w22 a22 o22 z22 b22; have H22 := Lib.hid (And.intro (H21.out.1.same (o22 _ hne)) (And.intro a22 (b22 w.heap.size w H1.out.2.size H21.out.2.2))); clear a22 o22 z22 b22))
            exact bodyPost_ret (results_px_fl rfl _ rfl rfl H22.out.1 H22.out.2.1) rfl (by rw [HRES.out]; exact ⟨H22.out.2.2, hbs, rfl⟩)
      · have HRES := Lib.hid (show parsenetv s.data.toList = none by rw [HRN.out, hpa]; rfl)
        have HT := Lib.hid (And.intro HV.out.1 (And.intro HV.out.2.1 HV.out.2.2.1))
        clear hpa hd
        go_wp2_with fail
        refine (help_bare 17 _).mono ?_
        rintro e w20 ⟨rfl, b20⟩
        have H20 := Lib.hid (And.intro (HT.out.1.later b20 (Nat.le_refl _)) (And.intro (HT.out.2.1.later b20 (Nat.le_refl _)) (HT.out.2.2.trans (b20.mono HT.out.2.2.size))))
        clear b20
        go_wp2_with (first
          | (refine wpList_store_px rfl (.tmp 2) (.tmp 40) rfl false (List.replicate 16 0) 0 rfl rfl rfl H20.out.1 ?_; intro w21 a21 o21 z21 b21; have H21 := Lib.hid (And.intro a21 (And.intro (H20.out.2.1.same (o21 _ hne.symm)) (b21 w.heap.size w (Nat.le_refl _) H20.out.2.2))); clear a21 o21 z21 b21)
          | (refine wpList_store_fl rfl (.tmp 3) (.tmp 41) rfl 17 0 false rfl rfl H21.out.2.1 ?_; intro w22 a22 o22 z22 b22; have H22 := Lib.hid (And.intro (H21.out.1.same (o22 _ hne)) (And.intro a22 (b22 w.heap.size w H1.out.2.size H21.out.2.2))); clear a22 o22 z22 b22))
        exact bodyPost_ret (results_px_fl rfl _ rfl rfl H22.out.1 H22.out.2.1) rfl (by rw [HRES.out]; exact ⟨H22.out.2.2, rfl⟩)
    refine rg_or 6 rfl (by rfl) (fun K hK => ?_) AllReadyH.nil
    refine wp_alloc_px rfl ?_
    intro u1 P bA
    replace hS := hS.trans (bA.mono hS.size)
    clear bA
    refine hK.out _ _ hS ?_
    clear hK K
    try simp only [Act.put, List.setIfInBounds_toArray, List.set_cons_zero, List.set_cons_succ]
    refine rg_step 4 rfl (by kernel_rfl) (by rfl) (fun K hK => ?_)
    go_simp
    refine (HD.out _).mono ?_
    rintro e u3 ⟨rfl, rfl⟩
    refine hK.out _ _ hS ?_
    clear hK K
    try simp only [Act.put, List.setIfInBounds_toArray, List.set_cons_zero, List.set_cons_succ]
    refine rg_take 5 (v := ?rv5) rfl (by kernel_rfl) (by kernel_rfl) (by kernel_rfl) (fun _ _ _ h => h) (by rfl) hS (fun w2 hw2 => ?ry5) ?rr5
    case ry5 => ((try dsimp only at hw2); go_simp <;> with_reducible rfl)
    simp only [Act.put, List.setIfInBounds_toArray, List.set_cons_zero, List.set_cons_succ]
    refine rg_step 7 rfl (by kernel_rfl) (by rfl) (fun K hK => ?_)
    refine wp_store_pxF (.tmp 7) (.tmp 25) rfl rfl rfl hbs P ?_
    intro u4 P2 far keep
    replace hS := keep _ _ hW0s hS
    clear P far keep
    have P := P2
    clear P2
    refine hK.out _ _ hS ?_
    clear hK K
    try simp only [Act.put]
    refine rg_done (by kernel_rfl) ?_
    have HV := Lib.hid (And.intro (H8.out.2.2.1.later hS (Nat.le_refl _)) (And.intro (H8.out.2.2.2.1.later hS (Nat.le_refl _)) (And.intro (H8.out.2.2.2.2.trans (hS.mono H8.out.2.2.2.2.size)) P)))
    have cF : u4.cell? ⟨w5.heap.size, 0, none⟩ = some (.int .i64 code) := (H8.out.2.1.later hS (Nat.le_refl _)).cell 0
    have cB := P.bits_cell
    clear hS P
    rcases hcode with ⟨hpa, rfl⟩ | ⟨hpa, rfl⟩
    · cases hn : decv x1.data.toList with
      | none =>
        obtain rfl : d = -1 := by rw [← hd, hn]; rfl
        have HRES := Lib.hid (show parsenetv s.data.toList = none by rw [HRN.out, hpa, hn]; rfl)
        have HT := Lib.hid (And.intro HV.out.1 (And.intro HV.out.2.1 HV.out.2.2.1))
        clear hpa hn hd
        go_wp2_with fail
        refine (help_bare 17 _).mono ?_
        rintro e w20 ⟨rfl, b20⟩
        have H20 := Lib.hid (And.intro (HT.out.1.later b20 (Nat.le_refl _)) (And.intro (HT.out.2.1.later b20 (Nat.le_refl _)) (HT.out.2.2.trans (b20.mono HT.out.2.2.size))))
        clear b20
        go_wp2_with (first
          | (refine wpList_store_px rfl (.tmp 2) (.tmp 40) rfl false (List.replicate 16 0) 0 rfl rfl rfl H20.out.1 ?_; intro w21 a21 o21 z21 b21; have H21 := Lib.hid (And.intro a21 (And.intro (H20.out.2.1.same (o21 _ hne.symm)) (b21 w.heap.size w (Nat.le_refl _) H20.out.2.2))); clear a21 o21 z21 b21)
          | (refine wpList_store_fl rfl (.tmp 3) (.tmp 41) rfl 17 0 false rfl rfl H21.out.2.1 ?_; intro w22 a22 o22 z22 b22; have H22 := Lib.hid (And.intro (H21.out.1.same (o22 _ hne)) (And.intro a22 (b22 w.heap.size w H1.out.2.size H21.out.2.2))); clear a22 o22 z22 b22))
        exact bodyPost_ret (results_px_fl rfl _ rfl rfl H22.out.1 H22.out.2.1) rfl (by rw [HRES.out]; exact ⟨H22.out.2.2, rfl⟩)
      | some n =>
        obtain rfl : d = (n : Int) := by rw [← hd, hn]; rfl
        have hres : parsenetv s.data.toList = if rightnetv v6 bs n then some (v6, bs, n) else none := by rw [HRN.out, hpa, hn]; rfl
        have HRT := fun w => refRightNet_any v6 bs hbs (n : Int) w
        cases hr : rightnetv v6 bs n with
        | false =>
          rw [hr] at hres HRT
          have HRES := Lib.hid hres
          have HRT := Lib.hid HRT
          clear hpa hn hd hres hr
          go_wp2_with (refine wpList_load_row_w (by rfl) 26 (.tmp 7) rfl _ 0 rfl (pxv v6 bs n) _ HV.out.2.2.2.range Tryz.underlying26 rfl (px_size v6 n hbs) ?_)
          refine (HRT.out _).mono ?_
          rintro e w9 ⟨rfl, b9⟩
          have HT := Lib.hid (And.intro (HV.out.1.later b9 (Nat.le_refl _)) (And.intro (HV.out.2.1.later b9 (Nat.le_refl _)) (HV.out.2.2.1.trans (b9.mono HV.out.2.2.1.size))))
          clear b9 cF cB
          go_wp2_with fail
          refine (help_bare 17 _).mono ?_
          rintro e w20 ⟨rfl, b20⟩
          have H20 := Lib.hid (And.intro (HT.out.1.later b20 (Nat.le_refl _)) (And.intro (HT.out.2.1.later b20 (Nat.le_refl _)) (HT.out.2.2.trans (b20.mono HT.out.2.2.size))))
          clear b20
          go_wp2_with (first
            | (refine wpList_store_px rfl (.tmp 2) (.tmp 40) rfl false (List.replicate 16 0) 0 rfl rfl rfl H20.out.1 ?_; intro w21 a21 o21 z21 b21; have H21 := Lib.hid (And.intro a21 (And.intro (H20.out.2.1.same (o21 _ hne.symm)) (b21 w.heap.size w (Nat.le_refl _) H20.out.2.2))); clear a21 o21 z21 b21)
            | (refine wpList_store_fl rfl (.tmp 3) (.tmp 41) rfl 17 0 false rfl rfl H21.out.2.1 ?_; intro w22 a22 o22 z22 b22; have H22 := Lib.hid (And.intro (H21.out.1.same (o22 _ hne)) (And.intro a22 (b22 w.heap.size w H1.out.2.size H21.out.2.2))); clear a22 o22 z22 b22))
          exact bodyPost_ret (results_px_fl rfl _ rfl rfl H22.out.1 H22.out.2.1) rfl (by rw [HRES.out]; exact ⟨H22.out.2.2, rfl⟩)
        | true =>
          rw [hr] at hres HRT
          have HRES := Lib.hid hres
          have HRT := Lib.hid HRT
          clear hpa hn hd hres hr
          go_wp2_with (refine wpList_load_row_w (by rfl) 26 (.tmp 7) rfl _ 0 rfl (pxv v6 bs n) _ HV.out.2.2.2.range Tryz.underlying26 rfl (px_size v6 n hbs) ?_)
          refine (HRT.out _).mono ?_
          rintro e w9 ⟨rfl, b9⟩
          have H9 := Lib.hid (And.intro (HV.out.1.later b9 (Nat.le_refl _)) (And.intro (HV.out.2.1.later b9 (Nat.le_refl _)) (And.intro (HV.out.2.2.1.trans (b9.mono HV.out.2.2.1.size)) (HV.out.2.2.2.later b9 (Nat.le_refl _)))))
          clear b9 cF cB
          go_wp2_with (first
            | (refine wpList_load_px rfl (.tmp 7) rfl rfl H9.out.2.2.2 ?_)
            | (refine wpList_store_px rfl (.tmp 2) (.tmp 38) rfl v6 bs n rfl rfl hbs H9.out.1 ?_; intro w21 a21 o21 z21 b21; have H21 := Lib.hid (And.intro a21 (And.intro (H9.out.2.1.same (o21 _ hne.symm)) (b21 w.heap.size w (Nat.le_refl _) H9.out.2.2.1))); clear a21 o21 z21 b21)
            | (refine wpList_store_fl rfl (.tmp 3) (.tmp 39) rfl 0 0 false rfl rfl H21.out.2.1 ?_; intro w22 a22 o22 z22 b22; have H22 := Lib.hid (And.intro (H21.out.1.same (o22 _ hne)) (And.intro a22 (b22 w.heap.size w H1.out.2.size H21.out.2.2))); clear a22 o22 z22 b22))
          exact bodyPost_ret (results_px_fl rfl _ rfl rfl H22.out.1 H22.out.2.1) rfl (by rw [HRES.out]; exact ⟨H22.out.2.2, hbs, rfl⟩)
    · have HRES := Lib.hid (show parsenetv s.data.toList = none by rw [HRN.out, hpa]; rfl)
      have HT := Lib.hid (And.intro HV.out.1 (And.intro HV.out.2.1 HV.out.2.2.1))
      clear hpa hd
      go_wp2_with fail
      refine (help_bare 17 _).mono ?_
      rintro e w20 ⟨rfl, b20⟩
      have H20 := Lib.hid (And.intro (HT.out.1.later b20 (Nat.le_refl _)) (And.intro (HT.out.2.1.later b20 (Nat.le_refl _)) (HT.out.2.2.trans (b20.mono HT.out.2.2.size))))
      clear b20
      go_wp2_with (first
        | (refine wpList_store_px rfl (.tmp 2) (.tmp 40) rfl false (List.replicate 16 0) 0 rfl rfl rfl H20.out.1 ?_; intro w21 a21 o21 z21 b21; have H21 := Lib.hid (And.intro a21 (And.intro (H20.out.2.1.same (o21 _ hne.symm)) (b21 w.heap.size w (Nat.le_refl _) H20.out.2.2))); clear a21 o21 z21 b21)
        | (refine wpList_store_fl rfl (.tmp 3) (.tmp 41) rfl 17 0 false rfl rfl H21.out.2.1 ?_; intro w22 a22 o22 z22 b22; have H22 := Lib.hid (And.intro (H21.out.1.same (o22 _ hne)) (And.intro a22 (b22 w.heap.size w H1.out.2.size H21.out.2.2))); clear a22 o22 z22 b22))
      exact bodyPost_ret (results_px_fl rfl _ rfl rfl H22.out.1 H22.out.2.1) rfl (by rw [HRES.out]; exact ⟨H22.out.2.2, rfl⟩)
end Go.Proofs.YtdbbgjbgmfeljaaGreatDoor
