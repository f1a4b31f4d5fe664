/-
  
-/
import Derived.Test.YtoagfmonfgagbaaGreatDoorZ19
import Derived.Test.YtoagfmonfgagbaaGreatDoorZ36
import Derived.Test.YtoagfmonfgagbaaGreatDoorZ34
import Derived.Test.YtoagfmonfgagbaaGreatDoorZ15
import Derived.Test.YtoagfmonfgagbaaGreatDoorZ24
import Derived.Test.YtoagfmonfgagbaaGreatDoorZ16
import Derived.Laws.ResultCell
namespace Go.Proofs.YtoagfmonfgagbaaGreatDoor
open Go.RowKit
set_option maxRecDepth 100000
def parsenetv (l : List UInt8) : Option (Bool × List UInt8 × Nat) :=
  (parsev (Lib.cut l [47]).1).bind fun a => (decv (Lib.cut l [47]).2.1).bind fun n => if rightnetv a.1 a.2 n then some (a.1, a.2, n) else none
def Pn (r : Option (Bool × List UInt8 × Nat)) (w : World) (e : Ending) (w' : World) : Prop :=
  Below w.heap.size w w' ∧ match r with
    | some (v6, bs, n) => bs.length = 16 ∧ e = .returned (.tuple #[.agg (pxv v6 bs n), .nilIface])
    | none => e = .returned (.tuple #[.agg (pxv false (List.replicate 16 0) 0), .iface 37 (.int .i64 17)])
set_option maxHeartbeats 4000000 in
theorem ParseNet_any (s : ByteArray) (hs : s.size < 4294967281) {w : World} (hE : Env w) : Calls Tryz.prog 129 #[.string s] w (Pn (parsenetv s.data.toList) w) := by
  have hl : s.data.toList.length = s.size := (Lib.size_eq s).symm
  have hcl := cut_len s.data.toList [47]
  have hpn : parsenetv s.data.toList = (parsev (Lib.cut s.data.toList [47]).1).bind fun a => (decv (Lib.cut s.data.toList [47]).2.1).bind fun n => if rightnetv a.1 a.2 n then some (a.1, a.2, n) else none := rfl
  have HE := Lib.hid hE
  clear hE
  go_enter Tryz.func129, Tryz.ntmps129
  go_wp2_with (refine wpList_alloc_px rfl rfl ?_; intro w1 a1 b1 z1; have H1 := Lib.hid (And.intro a1 b1); clear a1 b1 z1)
  refine (cut_any s ⟨#[47]⟩ hs (HE.out.later H1.out.2 (Nat.le_refl _))).mono ?_
  rw [show (ByteArray.mk #[47]).data.toList = [47] from rfl]
  rintro e w2 ⟨rfl, b2⟩
  obtain ⟨la, ra, sh, hc⟩ : ∃ la ra sh, Lib.cut s.data.toList [47] = (la, ra, sh) := ⟨_, _, _, rfl⟩
  rw [hc] at hcl hpn ⊢
  simp only at hcl hpn ⊢
  have H2 := Lib.hid (And.intro (H1.out.1.later b2 (Nat.le_refl _)) (H1.out.2.trans (b2.mono H1.out.2.size)))
  have HPN := Lib.hid hpn
  have hla : (ByteArray.mk la.toArray).size < 4294967281 := by show la.toArray.size < _; simp; omega
  have hra : (ByteArray.mk ra.toArray).size ≤ maxLen := by show ra.toArray.size ≤ _; unfold maxLen; simp; omega
  have k1 := Parse_any ⟨la.toArray⟩ hla (HE.out.later H2.out.2 (Nat.le_refl _))
  rw [show (ByteArray.mk la.toArray).data.toList = la from by simp] at k1
  have K2 : ∀ w3, Below w.heap.size w w3 → Hid (Calls Tryz.prog 149 #[.string ⟨ra.toArray⟩] w3 (Num (decv ra) w3)) := fun w3 hb => by
    have := decimal_any ⟨ra.toArray⟩ hra (HE.out.later hb (Nat.le_refl _))
    rw [show (ByteArray.mk ra.toArray).data.toList = ra from by simp] at this
    exact this
  have K2 := Lib.hid K2
  have K1 := Lib.hid k1
  clear hc b2 hpn hla hra k1 hcl hl
  cases hx : parsev la with
  | none =>
    rw [hx] at K1 HPN
    clear hx
    simp only [Option.bind_none] at HPN
    go_wp2_with fail
    refine K1.out.mono ?_
    rintro e w3 ⟨b3, rfl⟩
    have H3 := Lib.hid (And.intro (H2.out.1.later b3 (Nat.le_refl _)) (H2.out.2.trans (b3.mono H2.out.2.size)))
    clear b3
    go_wp2_with (first
      | (refine wpList_alloc_ad rfl rfl ?_; intro w4 a4 b4 z4; have H4 := Lib.hid (And.intro (H3.out.1.later b4 (Nat.le_refl _)) (And.intro a4 (And.intro (H3.out.2.trans (b4.mono H3.out.2.size)) b4))); clear a4 b4 z4)
      | (refine wpList_store_ad rfl (.tmp 7) (.tmp 20) rfl false (List.replicate 16 0) rfl rfl rfl H4.out.2.1 ?_; intro w5 a5 o5 z5 b5; have H5 := Lib.hid (And.intro (H3.out.1.later (b5 _ _ (Nat.le_refl _) H4.out.2.2.2) (Nat.le_refl _)) (b5 w.heap.size w H3.out.2.size H4.out.2.2.1)); clear a5 o5 z5 b5)
      | (refine wpList_store_px rfl (.tmp 2) (.tmp 24) rfl false (List.replicate 16 0) 0 rfl rfl rfl H5.out.1 ?_; intro w6 a6 o6 z6 b6; have H6 := Lib.hid (And.intro a6 (b6 w.heap.size w (Nat.le_refl _) H5.out.2)); clear a6 o6 z6 b6))
    exact bodyPost_ret (results_px_tmp rfl _ rfl H6.out.1) rfl (by rw [HPN.out]; exact ⟨H6.out.2, rfl⟩)
  | some x =>
    obtain ⟨v6, bs⟩ := x
    rw [hx] at K1 HPN
    clear hx
    simp only [Option.bind_some] at HPN
    go_wp2_with fail
    refine K1.out.mono ?_
    rintro e w3 ⟨b3, hbs, rfl⟩
    have H3 := Lib.hid (And.intro (H2.out.1.later b3 (Nat.le_refl _)) (H2.out.2.trans (b3.mono H2.out.2.size)))
    clear b3
    go_wp2_with (first
      | (refine wpList_alloc_ad rfl rfl ?_; intro w4 a4 b4 z4; have H4 := Lib.hid (And.intro (H3.out.1.later b4 (Nat.le_refl _)) (And.intro a4 (And.intro (H3.out.2.trans (b4.mono H3.out.2.size)) b4))); clear a4 b4 z4)
      | (refine wpList_store_ad rfl (.tmp 7) (.tmp 20) rfl v6 bs rfl rfl hbs H4.out.2.1 ?_; intro w5 a5 o5 z5 b5; have H5 := Lib.hid (And.intro (H3.out.1.later (b5 _ _ (Nat.le_refl _) H4.out.2.2.2) (Nat.le_refl _)) (And.intro a5 (b5 w.heap.size w H3.out.2.size H4.out.2.2.1))); clear a5 o5 z5 b5))
    have hsz := adv_size v6 hbs
    have hsz2 := pxv_size v6 0 hbs
    have hfo := fold_px v6 hbs
    have hse := set_px v6 hbs 0
    have k2 := (K2.out _ H5.out.2.2).out
    have K2' := Lib.hid k2
    clear k2
    cases hn : decv ra with
    | none =>
      rw [hn] at K2' HPN
      clear hn
      simp only [Option.bind_none] at HPN
      refine K2'.out.mono ?_
      rintro e w6 ⟨b6, er, rfl, d6⟩
      obtain ⟨T, xv, rfl⟩ := d6.held
      have H6 := Lib.hid (And.intro (H5.out.1.later b6 (Nat.le_refl _)) (And.intro (H5.out.2.1.later b6 (Nat.le_refl _)) (H5.out.2.2.trans (b6.mono H5.out.2.2.size))))
      clear b6 d6
      go_wp2_with (first
        | (refine wpList_load_ad rfl (.tmp 7) rfl rfl H6.out.2.1 ?_)
        | (refine wpList_alloc_px rfl rfl ?_; intro w7 a7 b7 z7; have H7 := Lib.hid (And.intro (H6.out.1.later b7 (Nat.le_refl _)) (And.intro a7 (And.intro (H6.out.2.2.trans (b7.mono H6.out.2.2.size)) b7))); clear a7 b7 z7)
        | (refine wpList_store_px rfl (.tmp 10) (.tmp 33) rfl v6 bs 0 rfl rfl hbs H7.out.2.1 ?_; intro w8 a8 o8 z8 b8; have H8 := Lib.hid (And.intro (H6.out.1.later (b8 _ _ (Nat.le_refl _) H7.out.2.2.2) (Nat.le_refl _)) (b8 w.heap.size w H6.out.2.2.size H7.out.2.2.1)); clear a8 o8 z8 b8)
        | (refine wpList_store_px rfl (.tmp 2) (.tmp 41) rfl false (List.replicate 16 0) 0 rfl rfl rfl H8.out.1 ?_; intro w9 a9 o9 z9 b9; have H9 := Lib.hid (And.intro a9 (b9 w.heap.size w (Nat.le_refl _) H8.out.2)); clear a9 o9 z9 b9))
      exact bodyPost_ret (results_px_tmp rfl _ rfl H9.out.1) rfl (by rw [HPN.out]; exact ⟨H9.out.2, rfl⟩)
    | some n =>
      rw [hn] at K2' HPN
      have hn1 := decv_lt hn
      clear hn
      simp only [Option.bind_some] at HPN
      have hRN := RightNet_any v6 bs hbs n
      refine K2'.out.mono ?_
      rintro e w6 ⟨b6, rfl⟩
      have H6 := Lib.hid (And.intro (H5.out.1.later b6 (Nat.le_refl _)) (And.intro (H5.out.2.1.later b6 (Nat.le_refl _)) (H5.out.2.2.trans (b6.mono H5.out.2.2.size))))
      clear b6
      cases hrn : rightnetv v6 bs n with
      | false =>
        rw [hrn] at hRN HPN
        have HRN := Lib.hid hRN
        clear hRN hrn
        go_wp2_with (first
          | (refine wpList_load_ad rfl (.tmp 7) rfl rfl H6.out.2.1 ?_)
          | (refine wpList_alloc_px rfl rfl ?_; intro w7 a7 b7 z7; have H7 := Lib.hid (And.intro (H6.out.1.later b7 (Nat.le_refl _)) (And.intro a7 (And.intro (H6.out.2.2.trans (b7.mono H6.out.2.2.size)) b7))); clear a7 b7 z7)
          | (refine wpList_store_px rfl (.tmp 10) (.tmp 33) rfl v6 bs n rfl rfl hbs H7.out.2.1 ?_; intro w8 a8 o8 z8 b8; have H8 := Lib.hid (And.intro (H6.out.1.later (b8 _ _ (Nat.le_refl _) H7.out.2.2.2) (Nat.le_refl _)) (And.intro a8 (b8 w.heap.size w H6.out.2.2.size H7.out.2.2.1))); clear a8 o8 z8 b8)
          | (refine wpList_load_row_w rfl 53 (.tmp 10) rfl w6.heap.size 0 rfl (pxv v6 bs n) _ H8.out.2.1.range Tryz.underlying53 rfl (px_size v6 n hbs) ?_))
        refine (HRN.out _).mono ?_
        rintro e w9 ⟨rfl, b9⟩
        have H9 := Lib.hid (And.intro (H8.out.1.later b9 (Nat.le_refl _)) (H8.out.2.2.trans (b9.mono H8.out.2.2.size)))
        clear b9
        go_wp2_with (refine wpList_store_px rfl (.tmp 2) (.tmp 41) rfl false (List.replicate 16 0) 0 rfl rfl rfl H9.out.1 ?_; intro w10 a9 o9 z9 b9; have H10 := Lib.hid (And.intro a9 (b9 w.heap.size w (Nat.le_refl _) H9.out.2)); clear a9 o9 z9 b9)
        exact bodyPost_ret (results_px_tmp rfl _ rfl H10.out.1) rfl (by rw [HPN.out]; exact ⟨H10.out.2, rfl⟩)
      | true =>
        rw [hrn] at hRN HPN
        have HRN := Lib.hid hRN
        clear hRN hrn
        go_wp2_with (first
          | (refine wpList_load_ad rfl (.tmp 7) rfl rfl H6.out.2.1 ?_)
          | (refine wpList_alloc_px rfl rfl ?_; intro w7 a7 b7 z7; have H7 := Lib.hid (And.intro (H6.out.1.later b7 (Nat.le_refl _)) (And.intro a7 (And.intro (H6.out.2.2.trans (b7.mono H6.out.2.2.size)) b7))); clear a7 b7 z7)
          | (refine wpList_store_px rfl (.tmp 10) (.tmp 33) rfl v6 bs n rfl rfl hbs H7.out.2.1 ?_; intro w8 a8 o8 z8 b8; have H8 := Lib.hid (And.intro (H6.out.1.later (b8 _ _ (Nat.le_refl _) H7.out.2.2.2) (Nat.le_refl _)) (And.intro a8 (b8 w.heap.size w H6.out.2.2.size H7.out.2.2.1))); clear a8 o8 z8 b8)
          | (refine wpList_load_row_w rfl 53 (.tmp 10) rfl w6.heap.size 0 rfl (pxv v6 bs n) _ H8.out.2.1.range Tryz.underlying53 rfl (px_size v6 n hbs) ?_))
        refine (HRN.out _).mono ?_
        rintro e w9 ⟨rfl, b9⟩
        have H9 := Lib.hid (And.intro (H8.out.1.later b9 (Nat.le_refl _)) (And.intro (H8.out.2.1.later b9 (Nat.le_refl _)) (H8.out.2.2.trans (b9.mono H8.out.2.2.size))))
        clear b9
        go_wp2_with (first
          | (refine wpList_load_px rfl (.tmp 10) rfl rfl H9.out.2.1 ?_)
          | (refine wpList_store_px rfl (.tmp 2) (.tmp 43) rfl v6 bs n rfl rfl hbs H9.out.1 ?_; intro w10 a9 o9 z9 b9; have H10 := Lib.hid (And.intro a9 (b9 w.heap.size w (Nat.le_refl _) H9.out.2.2)); clear a9 o9 z9 b9))
        exact bodyPost_ret (results_px_tmp rfl _ rfl H10.out.1) rfl (by rw [HPN.out]; exact ⟨H10.out.2, hbs, rfl⟩)
end Go.Proofs.YtoagfmonfgagbaaGreatDoor

namespace Go.Proofs.YtoagfmonfgagbaaGreatDoor
open Go.RowKit
set_option maxRecDepth 100000
def nd : List UInt8 → Prop
  | [] => True
  | [b] => b ≠ 58
  | b :: b' :: r => (b ≠ 58 ∨ b' ≠ 58) ∧ nd (b' :: r)
theorem nd_plain : ∀ (p q : List UInt8), (58 : UInt8) ∉ p → nd q → nd (p ++ q)
  | [], q, _, hq => hq
  | b :: p, q, hp, hq => by
    have hb : b ≠ 58 := fun h => hp (by rw [h]; simp)
    have ih := nd_plain p q (fun h => hp (List.mem_cons_of_mem _ h)) hq
    rw [List.cons_append]
    cases h : p ++ q with
    | nil => exact hb
    | cons b' r => rw [h] at ih; exact ⟨.inl hb, ih⟩
theorem nd_sep {q : List UInt8} (hq : nd q) (hne : q ≠ []) (hh : q.head? ≠ some 58) : nd (58 :: q) := by
  cases q with
  | nil => exact absurd rfl hne
  | cons b r => exact ⟨.inr (fun h => hh (by rw [h]; rfl)), hq⟩
theorem tail_cons (c : UInt8) (y : List UInt8) (r : List (List UInt8)) : Lib.joinTail [c] (y :: r) = c :: (y ++ Lib.joinTail [c] r) := by simp [Lib.joinTail]
theorem tail_nil (c : UInt8) : Lib.joinTail [c] [] = [] := rfl
theorem nd_tail : ∀ (r : List (List UInt8)), (∀ p ∈ r, p ≠ [] ∧ (58 : UInt8) ∉ p) → nd (Lib.joinTail [58] r)
  | [], _ => trivial
  | y :: r, h => by
    have hy := h y (by simp)
    have ih := nd_tail r (fun p hp => h p (List.mem_cons_of_mem _ hp))
    rw [tail_cons]
    refine nd_sep (nd_plain y _ hy.2 ih) (by simp [hy.1]) ?_
    cases y with
    | nil => exact absurd rfl hy.1
    | cons b t => intro hb; exact hy.2 (by rw [← Option.some.inj hb]; simp)
theorem nd_join {ps : List (List UInt8)} (h : ∀ p ∈ ps, p ≠ [] ∧ (58 : UInt8) ∉ p) : nd (Lib.join ps [58]) := by
  cases ps with
  | nil => exact trivial
  | cons x r => rw [Lib.join_cons]; exact nd_plain x _ (h x (by simp)).2 (nd_tail r (fun p hp => h p (List.mem_cons_of_mem _ hp)))
theorem index_nd_none : ∀ (x : List UInt8), nd x → Lib.index x [58, 58] = -1
  | [], _ => rfl
  | [b], hb => by
    have hb : b ≠ 58 := hb
    show (if List.isPrefixOf [58, 58] [b] = true then (0 : Int) else if Lib.index [] [58, 58] == -1 then -1 else _) = -1
    rw [if_neg (by simp [List.isPrefixOf])]
    rfl
  | b :: b' :: r, h => by
    have ih := index_nd_none (b' :: r) h.2
    unfold Lib.index
    rw [if_neg (by simp only [List.isPrefixOf, Bool.and_true, Bool.and_eq_true, beq_iff_eq]; rintro ⟨rfl, rfl⟩; rcases h.1 with h | h <;> exact h rfl), ih]
    rfl
theorem index_nd : ∀ (x y : List UInt8), nd x → Lib.index (x ++ 58 :: 58 :: y) [58, 58] = x.length
  | [], y, _ => by show Lib.index (58 :: 58 :: y) [58, 58] = 0; unfold Lib.index; rw [if_pos (by simp [List.isPrefixOf])]
  | [b], y, hb => by
    have hb : b ≠ 58 := hb
    have ih := index_nd [] y trivial
    rw [List.nil_append] at ih
    show Lib.index (b :: 58 :: 58 :: y) [58, 58] = 1
    unfold Lib.index
    rw [if_neg (by simp only [List.isPrefixOf, Bool.and_true, Bool.and_eq_true, beq_iff_eq]; exact fun h => hb h.1.symm), ih]
    rfl
  | b :: b' :: r, y, h => by
    have ih := index_nd (b' :: r) y h.2
    show (if List.isPrefixOf [58, 58] (b :: b' :: (r ++ 58 :: 58 :: y)) = true then (0 : Int) else if Lib.index (b' :: r ++ 58 :: 58 :: y) [58, 58] == -1 then -1 else Lib.index (b' :: r ++ 58 :: 58 :: y) [58, 58] + 1) = _
    rw [if_neg (by simp only [List.isPrefixOf, Bool.and_true, Bool.and_eq_true, beq_iff_eq]; rintro ⟨rfl, rfl⟩; rcases h.1 with h | h <;> exact h rfl), ih, if_neg (by simp; omega)]
    simp
theorem cut_nd_none {x : List UInt8} (h : nd x) : Lib.cut x [58, 58] = (x, [], false) := by
  unfold Lib.cut; rw [index_nd_none x h, if_neg (by omega)]
theorem cut_nd {x y : List UInt8} (h : nd x) : Lib.cut (x ++ [58, 58] ++ y) [58, 58] = (x, y, true) := by
  have hi := index_nd x y h
  rw [show x ++ [58, 58] ++ y = x ++ 58 :: 58 :: y by simp]
  unfold Lib.cut
  rw [hi, if_pos (by omega), Int.toNat_natCast, List.take_left]
  rw [show x.length + ([58, 58] : List UInt8).length = x.length + 2 from rfl, ← List.drop_drop, List.drop_left]
  rfl
theorem index_sg (c : UInt8) : ∀ (x y : List UInt8), c ∉ x → Lib.index (x ++ c :: y) [c] = x.length
  | [], y, _ => by show Lib.index (c :: y) [c] = 0; unfold Lib.index; rw [if_pos (by simp [List.isPrefixOf])]
  | b :: x, y, h => by
    have ih := index_sg c x y (fun hm => h (List.mem_cons_of_mem _ hm))
    rw [List.cons_append]
    unfold Lib.index
    rw [if_neg (by simp only [List.isPrefixOf, Bool.and_true, beq_iff_eq]; rintro rfl; exact h (by simp)), ih, if_neg (by simp)]
    simp
theorem cut_one {c : UInt8} {x y : List UInt8} (h : c ∉ x) : Lib.cut (x ++ [c] ++ y) [c] = (x, y, true) := by
  have hi := index_sg c x y h
  rw [show x ++ [c] ++ y = x ++ c :: y by simp]
  unfold Lib.cut
  rw [hi, if_pos (by omega), Int.toNat_natCast, List.take_left, show x.length + [c].length = x.length + 1 from rfl, ← List.drop_drop, List.drop_left]
  rfl
theorem spl_plain (c : UInt8) : ∀ (x : List UInt8) (k : Nat), c ∉ x → splN c x k = [x]
  | x, 0, _ => splN_zero c x
  | [], k + 1, _ => rfl
  | b :: x, k + 1, h => by
    unfold splN
    rw [if_neg (by rintro rfl; exact h (by simp)), spl_plain c x (k + 1) (fun hm => h (List.mem_cons_of_mem _ hm))]
    rfl
theorem spl_cons (c : UInt8) : ∀ (x r : List UInt8) (k : Nat), c ∉ x → splN c (x ++ c :: r) (k + 1) = x :: splN c r k
  | [], r, k, _ => by show (if c = c then [] :: splN c r k else onHead c (splN c r (k + 1))) = _; rw [if_pos rfl]
  | b :: x, r, k, h => by
    show (if b = c then [] :: splN c (x ++ c :: r) k else onHead b (splN c (x ++ c :: r) (k + 1))) = _
    rw [if_neg (by rintro rfl; exact h (by simp)), spl_cons c x r k (fun hm => h (List.mem_cons_of_mem _ hm))]
    rfl
theorem spl_tail (c : UInt8) : ∀ (r : List (List UInt8)) (x : List UInt8) (k : Nat), (∀ p ∈ x :: r, c ∉ p) → r.length ≤ k → splN c (x ++ Lib.joinTail [c] r) k = x :: r
  | [], x, k, h, _ => by rw [tail_nil, List.append_nil]; exact spl_plain c x k (h x (by simp))
  | y :: r, x, 0, _, hk => by simp at hk
  | y :: r, x, k + 1, h, hk => by
    rw [tail_cons, spl_cons c x _ k (h x (by simp)), spl_tail c r y k (fun p hp => h p (List.mem_cons_of_mem _ hp)) (by simpa using hk)]
theorem spl_join {c : UInt8} {ps : List (List UInt8)} {k : Nat} (hne : ps ≠ []) (h : ∀ p ∈ ps, c ∉ p) (hk : ps.length ≤ k + 1) : splN c (Lib.join ps [c]) k = ps := by
  cases ps with
  | nil => exact absurd rfl hne
  | cons x r => rw [Lib.join_cons]; exact spl_tail c r x k h (by simpa using hk)
theorem allv_map {α : Type} {rd : List UInt8 → Option Nat} {f : α → List UInt8} {g : α → Nat} : ∀ (l : List α), (∀ a ∈ l, rd (f a) = some (g a)) → allv rd (l.map f) = some (l.map g)
  | [], _ => rfl
  | a :: l, h => by
    rw [List.map_cons, allv, h a (by simp), allv_map l (fun a ha => h a (List.mem_cons_of_mem _ ha))]
    rfl
theorem octet_back : ∀ b : Fin 256, octetv (dec3 b.val) = some b.val ∧ (46 : UInt8) ∉ dec3 b.val ∧ (47 : UInt8) ∉ dec3 b.val := by decide +kernel
theorem dec_back : ∀ n : Fin 129, decv (dec3 n.val) = some n.val := by decide +kernel
theorem hd_dg : ∀ a : Fin 16, dg (hd a.val) = a.val ∧ hd a.val ≠ 58 ∧ hd a.val ≠ 46 ∧ hd a.val ≠ 47 := by decide +kernel
theorem hd_dg' {a : Nat} (h : a < 16) : dg (hd a) = a := (hd_dg ⟨a, h⟩).1
theorem group_back {v : Nat} (h : v < 65536) : groupv (hex4 v) = some v := by
  unfold groupv numv pu hex4
  split
  · rename_i h1
    simp only [List.length_cons, List.length_nil]
    rw [if_neg (by omega), if_neg (by simp)]
    simp only [puGo, hd_dg' h1, if_pos h1]
    simp
  · split
    · rename_i h1 h2
      simp only [List.length_cons, List.length_nil]
      rw [if_neg (by omega), if_neg (by simp)]
      simp only [puGo, hd_dg' (show v / 16 < 16 by omega), hd_dg' (show v % 16 < 16 by omega), if_pos (show v / 16 < 16 by omega), if_pos (show v % 16 < 16 by omega)]
      congr 1; omega
    · split
      · rename_i h1 h2 h3
        simp only [List.length_cons, List.length_nil]
        rw [if_neg (by omega), if_neg (by simp)]
        simp only [puGo, hd_dg' (show v / 256 < 16 by omega), hd_dg' (show v / 16 % 16 < 16 by omega), hd_dg' (show v % 16 < 16 by omega), if_pos (show v / 256 < 16 by omega), if_pos (show v / 16 % 16 < 16 by omega), if_pos (show v % 16 < 16 by omega)]
        congr 1; omega
      · rename_i h1 h2 h3
        simp only [List.length_cons, List.length_nil]
        rw [if_neg (by omega), if_neg (by simp)]
        simp only [puGo, hd_dg' (show v / 4096 < 16 by omega), hd_dg' (show v / 256 % 16 < 16 by omega), hd_dg' (show v / 16 % 16 < 16 by omega), hd_dg' (show v % 16 < 16 by omega), if_pos (show v / 4096 < 16 by omega), if_pos (show v / 256 % 16 < 16 by omega), if_pos (show v / 16 % 16 < 16 by omega), if_pos (show v % 16 < 16 by omega)]
        congr 1; omega
theorem hex_no {v : Nat} (h : v < 65536) {c : UInt8} (hc : c = 58 ∨ c = 46 ∨ c = 47) : c ∉ hex4 v := by
  have hno : ∀ a, a < 16 → hd a ≠ c := fun a ha => by
    have := (hd_dg ⟨a, ha⟩).2
    rcases hc with rfl | rfl | rfl
    · exact this.1
    · exact this.2.1
    · exact this.2.2
  unfold hex4
  split
  · rename_i h1; simp only [List.mem_singleton]; exact fun e => hno _ h1 e.symm
  · split
    · simp only [List.mem_cons, List.not_mem_nil, or_false]
      rintro (e | e) <;> exact hno _ (by omega) e.symm
    · split
      · simp only [List.mem_cons, List.not_mem_nil, or_false]
        rintro (e | e | e) <;> exact hno _ (by omega) e.symm
      · simp only [List.mem_cons, List.not_mem_nil, or_false]
        rintro (e | e | e | e) <;> exact hno _ (by omega) e.symm
theorem hex_ne (v : Nat) : hex4 v ≠ [] := by
  unfold hex4
  split
  · simp
  · split
    · simp
    · split <;> simp
theorem lst_zero (zs : List Bool) : ∀ k, (∀ i, (lst zs k).1 ≤ i → i < k → zs.getD i false = true) ∧ (∀ i, (lst zs k).2.1 ≤ i → i < (lst zs k).2.2 → zs.getD i false = true)
  | 0 => ⟨fun i _ h => absurd h (by omega), fun i _ h => absurd h (Nat.not_lt_zero i)⟩
  | k + 1 => by
    obtain ⟨h1, h2⟩ := lst_zero zs k
    have hst : ∀ i, (if zs.getD k false then (lst zs k).1 else k + 1) ≤ i → i < k + 1 → zs.getD i false = true := by
      intro i hi hk
      cases hz : zs.getD k false with
      | true =>
        rw [hz, if_pos rfl] at hi
        by_cases hik : i = k
        · rw [hik]; exact hz
        · exact h1 i hi (by omega)
      | false =>
        rw [hz] at hi
        have hi : k + 1 ≤ i := hi
        omega
    show (∀ i, (lstep (lst zs k) k (zs.getD k false)).1 ≤ i → i < k + 1 → zs.getD i false = true) ∧ (∀ i, (lstep (lst zs k) k (zs.getD k false)).2.1 ≤ i → i < (lstep (lst zs k) k (zs.getD k false)).2.2 → zs.getD i false = true)
    unfold lstep
    generalize (if zs.getD k false = true then (lst zs k).1 else k + 1) = st at hst ⊢
    split
    · exact ⟨hst, hst⟩
    · exact ⟨hst, h2⟩
def vals6 (bs : List UInt8) : List Nat := (List.range 8).map (grp bs)
theorem vals6_len (bs : List UInt8) : (vals6 bs).length = 8 := by simp [vals6]
theorem vals6_lt (bs : List UInt8) : ∀ v ∈ vals6 bs, v < 65536 := fun v hv => by
  obtain ⟨i, _, rfl⟩ := List.mem_map.1 hv
  exact grp_lt bs i
theorem w6_vals (bs : List UInt8) : w6 bs = (vals6 bs).map hex4 := by unfold w6 vals6; rw [List.map_map]; rfl
theorem byte_hi (a b : UInt8) : UInt8.ofNat ((a.toNat * 256 + b.toNat) / 256) = a := by
  have := b.toNat_lt
  rw [show (a.toNat * 256 + b.toNat) / 256 = a.toNat by omega, UInt8.ofNat_toNat]
theorem byte_lo (a b : UInt8) : UInt8.ofNat ((a.toNat * 256 + b.toNat) % 256) = b := by
  have := b.toNat_lt
  rw [show (a.toNat * 256 + b.toNat) % 256 = b.toNat by omega, UInt8.ofNat_toNat]
theorem g2_vals {bs : List UInt8} (h : bs.length = 16) : g2 (vals6 bs) = bs := by
  obtain ⟨a0, a1, a2, a3, a4, a5, a6, a7, a8, a9, a10, a11, a12, a13, a14, a15, rfl⟩ := explicit16 h
  show g2 [a0.toNat * 256 + a1.toNat, a2.toNat * 256 + a3.toNat, a4.toNat * 256 + a5.toNat, a6.toNat * 256 + a7.toNat, a8.toNat * 256 + a9.toNat, a10.toNat * 256 + a11.toNat, a12.toNat * 256 + a13.toNat, a14.toNat * 256 + a15.toNat] = _
  simp only [g2, List.flatMap_cons, List.flatMap_nil, byte_hi, byte_lo, List.cons_append, List.nil_append]
theorem hex_parts {l : List Nat} (h : ∀ v ∈ l, v < 65536) : ∀ p ∈ l.map hex4, p ≠ [] ∧ (58 : UInt8) ∉ p := fun p hp => by
  obtain ⟨v, hv, rfl⟩ := List.mem_map.1 hp
  exact ⟨hex_ne v, hex_no (h v hv) (.inl rfl)⟩
theorem groups_text {l : List Nat} (h : ∀ v ∈ l, v < 65536) (h8 : l.length ≤ 8) : groupsv (Lib.join (l.map hex4) [58]) = some l := by
  unfold groupsv
  cases l with
  | nil => rw [if_pos (show Lib.join (List.map hex4 []) [58] = [] from rfl)]
  | cons v l =>
    have hne : Lib.join ((v :: l).map hex4) [58] ≠ [] := by
      rw [List.map_cons, Lib.join_cons]
      have := hex_ne v
      simp [this]
    rw [if_neg hne, spl_join (by simp) (fun p hp => (hex_parts h p hp).2) (by rw [List.length_map]; exact h8), allv_map (g := fun v => v) _ (fun a ha => group_back (h a ha)), List.map_id']
theorem zero_of {v : Nat} (h : v < 65536) (hz : hex4 v = [48]) : v = 0 := by
  have h1 := group_back h
  rw [hz] at h1
  have h2 : groupv [48] = some 0 := by decide +kernel
  rw [h2] at h1
  exact (Option.some.inj h1).symm
theorem six_text {bs : List UInt8} (h : bs.length = 16) : six (text6f bs) = some bs := by
  have hlt := vals6_lt bs
  have hl8 := vals6_len bs
  have hz6 : (z6 bs).length = 8 := by unfold z6; rw [List.length_map, w6_vals, List.length_map, hl8]
  have hok := lst_ok (z6 bs) (z6 bs).length
  have hzr := (lst_zero (z6 bs) (z6 bs).length).2
  rw [hz6] at hok
  have hlong : longestv (z6 bs) = (lst (z6 bs) (z6 bs).length).2 := rfl
  rw [← hlong] at hzr
  rw [hz6] at hlong
  rw [← hlong] at hok
  unfold text6f
  generalize longestv (z6 bs) = ab at hok hzr ⊢
  obtain ⟨a, b⟩ := ab
  simp only at hok hzr ⊢
  rw [w6_vals]
  by_cases hab : a = b
  · rw [if_pos hab]
    unfold six
    rw [cut_nd_none (nd_join (hex_parts hlt))]
    simp only [groups_text hlt (by omega), Option.bind_some]
    rw [show groupsv [] = some [] from rfl]
    simp only [Option.bind_some, List.length_nil, Nat.add_zero, hl8]
    rw [if_pos (by decide)]
    simp [g2_vals h]
  · rw [if_neg hab, ← List.map_take, ← List.map_drop]
    have ht : ∀ v ∈ (vals6 bs).take a, v < 65536 := fun v hv => hlt v (List.mem_of_mem_take hv)
    have hd' : ∀ v ∈ (vals6 bs).drop b, v < 65536 := fun v hv => hlt v (List.mem_of_mem_drop hv)
    have hta : ((vals6 bs).take a).length = a := by rw [List.length_take]; omega
    have hdb : ((vals6 bs).drop b).length = 8 - b := by rw [List.length_drop, hl8]
    unfold six
    rw [cut_nd (nd_join (hex_parts ht))]
    simp only [groups_text ht (by omega), groups_text hd' (by omega), Option.bind_some, hta, hdb]
    rw [if_pos ⟨by omega, by symm; simp; omega⟩]
    have hmid : List.replicate (8 - a - (8 - b)) 0 = ((vals6 bs).drop a).take (b - a) := by
      apply List.ext_getElem?
      intro i
      rw [List.getElem?_replicate, List.getElem?_take, List.getElem?_drop]
      by_cases hi : i < b - a
      · rw [if_pos (by omega), if_pos hi]
        have hz := hzr (a + i) (by omega) (by omega)
        have hv : (vals6 bs)[a + i]? = some (grp bs (a + i)) := by
          unfold vals6
          rw [List.getElem?_map, List.getElem?_range (by omega)]
          rfl
        have hw : (z6 bs).getD (a + i) false = decide (hex4 (grp bs (a + i)) = [48]) := by
          unfold z6
          rw [w6_vals]
          simp only [List.getD, List.getElem?_map, hv]
          rfl
        rw [hw] at hz
        rw [hv, zero_of (grp_lt bs _) (of_decide_eq_true hz)]
      · rw [if_neg (by omega), if_neg hi]
    have hsplit : (vals6 bs).take a ++ ((vals6 bs).drop a).take (b - a) ++ (vals6 bs).drop b = vals6 bs := by
      have h1 : ((vals6 bs).drop a).drop (b - a) = (vals6 bs).drop b := by rw [List.drop_drop]; congr 1; omega
      rw [List.append_assoc, ← h1, List.take_append_drop, List.take_append_drop]
    rw [hmid, hsplit, g2_vals h]
theorem mem_tail {c s : UInt8} : ∀ {r : List (List UInt8)}, c ∈ Lib.joinTail [s] r → c = s ∨ ∃ p ∈ r, c ∈ p
  | [], h => by rw [tail_nil] at h; cases h
  | y :: r, h => by
    rw [tail_cons] at h
    rcases List.mem_cons.1 h with h | h
    · exact .inl h
    · rcases List.mem_append.1 h with h | h
      · exact .inr ⟨y, by simp, h⟩
      · rcases mem_tail h with h | ⟨p, hp, hc⟩
        · exact .inl h
        · exact .inr ⟨p, List.mem_cons_of_mem _ hp, hc⟩
theorem mem_join {c s : UInt8} {ps : List (List UInt8)} (h : c ∈ Lib.join ps [s]) : c = s ∨ ∃ p ∈ ps, c ∈ p := by
  cases ps with
  | nil => cases h
  | cons x r =>
    rw [Lib.join_cons] at h
    rcases List.mem_append.1 h with h | h
    · exact .inr ⟨x, by simp, h⟩
    · rcases mem_tail h with h | ⟨p, hp, hc⟩
      · exact .inl h
      · exact .inr ⟨p, List.mem_cons_of_mem _ hp, hc⟩
theorem not_join {c : UInt8} {l : List Nat} (h : ∀ v ∈ l, v < 65536) (hc : c = 46 ∨ c = 47) : c ∉ Lib.join (l.map hex4) [58] := fun hm => by
  rcases mem_join hm with h1 | ⟨p, hp, hcp⟩
  · rcases hc with rfl | rfl <;> exact absurd h1 (by decide)
  · obtain ⟨v, hv, rfl⟩ := List.mem_map.1 hp
    exact hex_no (h v hv) (.inr hc) hcp
theorem not_text6 (bs : List UInt8) {c : UInt8} (hc : c = 46 ∨ c = 47) : c ∉ text6f bs := by
  have hlt := vals6_lt bs
  unfold text6f
  rw [w6_vals]
  split
  · exact not_join hlt hc
  · rw [← List.map_take, ← List.map_drop]
    intro hm
    rcases List.mem_append.1 hm with hm | hm
    · rcases List.mem_append.1 hm with hm | hm
      · exact not_join (fun v hv => hlt v (List.mem_of_mem_take hv)) hc hm
      · have h58 : c = 58 := by simpa using hm
        rcases hc with rfl | rfl <;> exact absurd h58 (by decide)
    · exact not_join (fun v hv => hlt v (List.mem_of_mem_drop hv)) hc hm
def parts4 (bs : List UInt8) : List (List UInt8) := (bs.take 4).map fun b => dec3 b.toNat
theorem octet_of (b : UInt8) : octetv (dec3 b.toNat) = some b.toNat ∧ (46 : UInt8) ∉ dec3 b.toNat ∧ (47 : UInt8) ∉ dec3 b.toNat := octet_back ⟨b.toNat, b.toNat_lt⟩
theorem four_text {bs : List UInt8} (h : bs.length = 16) (hr : rightv false bs = true) : four (Lib.join (parts4 bs) [46]) = some (some bs) := by
  have hl : (parts4 bs).length = 4 := by simp [parts4, h]
  have hs : splN 46 (Lib.join (parts4 bs) [46]) 3 = parts4 bs := spl_join (by intro e; rw [e] at hl; cases hl) (fun p hp => by
    obtain ⟨b, _, rfl⟩ := List.mem_map.1 hp
    exact (octet_of b).2.1) (by omega)
  unfold four
  rw [hs, if_pos hl]
  unfold parts4
  rw [allv_map (g := fun b : UInt8 => b.toNat) _ (fun b _ => (octet_of b).1)]
  show some (some (ab4 ((bs.take 4).map fun b => b.toNat))) = _
  have hb : bs = bs.take 4 ++ List.replicate 12 0 := by
    unfold rightv at hr
    have h1 := eq_of_beq hr
    rw [← norm_first false h] at h1
    exact h1
  congr 2
  unfold ab4
  rw [List.map_map, List.length_map, List.length_take, h]
  conv => rhs; rw [hb]
  congr 1
  have : (UInt8.ofNat ∘ fun b : UInt8 => b.toNat) = id := by funext b; simp
  rw [this, List.map_id]
theorem parse_text {v6 : Bool} {bs : List UInt8} (h : bs.length = 16) (hr : rightv v6 bs = true) : parsev (textv v6 bs) = some (v6, bs) := by
  rw [textv_f]
  unfold textf
  rw [if_pos hr]
  cases v6 with
  | false =>
    rw [if_neg (by simp)]
    unfold parsev
    rw [show ((bs.take 4).map fun b => dec3 b.toNat) = parts4 bs from rfl, four_text h hr]
  | true =>
    rw [if_pos rfl]
    unfold parsev
    have h4 : four (text6f bs) = none := by
      unfold four
      rw [spl_plain 46 _ 3 (not_text6 bs (.inl rfl)), if_neg (by simp)]
    rw [h4, six_text h]
    rfl
theorem parse_right {l : List UInt8} {v6 : Bool} {bs : List UInt8} (hl : bs.length = 16) (h : parsev l = some (v6, bs)) : rightv v6 bs = true := by
  cases v6 with
  | true =>
    unfold rightv
    rw [show wid true = 128 from rfl, firstv_all (by omega), beq_self_eq_true]
  | false =>
    unfold parsev at h
    split at h
    · rename_i bs' h4
      have hbs : bs' = bs := by simpa using h
      subst hbs
      unfold four at h4
      split at h4
      · rename_i hlen
        obtain ⟨ns, hns, rfl⟩ : ∃ ns, allv octetv (splN 46 l 3) = some ns ∧ ab4 ns = bs' := by
          cases hn : allv octetv (splN 46 l 3) with
          | none => rw [hn] at h4; simp at h4
          | some ns => rw [hn] at h4; exact ⟨ns, rfl, by simpa using h4⟩
        have hn4 : ns.length = 4 := by rw [allv_length hns]; exact hlen
        unfold rightv
        rw [show wid false = 32 from rfl, show firstv (ab4 ns) 32 = norm false (ab4 ns) from (norm_first false hl).symm]
        have : norm false (ab4 ns) = ab4 ns := by
          show (ab4 ns).take 4 ++ List.replicate 12 0 = ab4 ns
          unfold ab4
          rw [List.take_left' (by rw [List.length_map, hn4]), hn4]
        rw [this, beq_self_eq_true]
      · cases h4
    · cases h
    · cases h6 : six l with
      | none => rw [h6] at h; cases h
      | some x => rw [h6] at h; simp at h
theorem not_text {v6 : Bool} {bs : List UInt8} : (47 : UInt8) ∉ textv v6 bs := by
  rw [textv_f]
  unfold textf
  split
  · split
    · exact not_text6 bs (.inr rfl)
    · intro hm
      rcases mem_join hm with h1 | ⟨p, hp, hcp⟩
      · exact absurd h1 (by decide)
      · obtain ⟨b, _, rfl⟩ := List.mem_map.1 hp
        exact (octet_of b).2.2 hcp
  · simp
theorem net_text {v6 : Bool} {bs : List UInt8} {n : Nat} (h : bs.length = 16) (hr : rightnetv v6 bs n = true) : parsenetv (textnetv v6 bs n) = some (v6, bs, n) := by
  have hr' := hr
  unfold rightnetv at hr'
  simp only [Bool.and_eq_true, decide_eq_true_eq] at hr'
  obtain ⟨⟨⟨h1, _⟩, h3⟩, _⟩ := hr'
  have hn : n < 129 := by have := wid_le v6; omega
  unfold textnetv
  rw [if_pos hr, Int.toNat_natCast]
  unfold parsenetv
  rw [cut_one not_text, dec3_eq (by omega)]
  simp only [parse_text h h1, Option.bind_some]
  have hd : decv (dec3 n) = some n := dec_back ⟨n, hn⟩
  rw [hd]
  simp only [Option.bind_some]
  rw [if_pos hr]
end Go.Proofs.YtoagfmonfgagbaaGreatDoor

namespace Go.Proofs.YtoagfmonfgagbaaGreatDoor
open Go.RowKit
set_option maxRecDepth 100000
def p16 : Nat → List UInt8 → Option Nat
  | n, [] => some n
  | n, c :: l => if digB c then (if n * 10 + (c.toNat - 48) ≤ 65535 then p16 (n * 10 + (c.toNat - 48)) l else none) else none
theorem p16_cons (n : Nat) (c : UInt8) (l : List UInt8) : p16 n (c :: l) = if digB c then (if n * 10 + (c.toNat - 48) ≤ 65535 then p16 (n * 10 + (c.toNat - 48)) l else none) else none := rfl
theorem p16_le : ∀ (l : List UInt8) (n m : Nat), p16 n l = some m → n ≤ 65535 → m ≤ 65535
  | [], n, m, h, hn => by cases h; exact hn
  | c :: l, n, m, h, hn => by
    rw [p16_cons] at h
    split at h
    · split at h
      · exact p16_le l _ _ h (by assumption)
      · cases h
    · cases h
theorem decGo_ge : ∀ (l : List UInt8) (n m : Nat), decGo n l = some m → n * 10 ^ l.length ≤ m
  | [], n, m, h => by cases h; simp
  | c :: l, n, m, h => by
    rw [decGo] at h
    split at h
    · have ih := decGo_ge l _ _ h
      rw [List.length_cons, Nat.pow_succ]
      have : n * (10 ^ l.length * 10) ≤ (n * 10 + (c.toNat - 48)) * 10 ^ l.length := by
        rw [Nat.add_mul, show n * (10 ^ l.length * 10) = n * 10 * 10 ^ l.length by rw [Nat.mul_assoc, Nat.mul_comm (10 ^ l.length) 10]]
        exact Nat.le_add_right _ _
      omega
    · cases h
theorem decGo_le {l : List UInt8} {n m : Nat} (h : decGo n l = some m) : n ≤ m := by
  have h1 := decGo_ge l n m h
  have h2 : n * 1 ≤ n * 10 ^ l.length := Nat.mul_le_mul_left n (Nat.pow_pos (show 0 < 10 by decide))
  omega
theorem p16_dec : ∀ (l : List UInt8) (n : Nat), n ≤ 65535 → p16 n l = (decGo n l).bind fun m => if 65535 < m then none else some m
  | [], n, h => by
    show some n = if 65535 < n then none else some n
    rw [if_neg (by omega)]
  | c :: l, n, h => by
    rw [p16_cons, decGo]
    by_cases hd : digB c = true
    · rw [if_pos hd, if_pos hd]
      by_cases hn : n * 10 + (c.toNat - 48) ≤ 65535
      · rw [if_pos hn, p16_dec l _ hn]
      · rw [if_neg hn]
        cases hg : decGo (n * 10 + (c.toNat - 48)) l with
        | none => rfl
        | some m =>
          have := decGo_le hg
          rw [Option.bind_some, if_pos (by omega)]
    · rw [if_neg hd, if_neg hd]; rfl
theorem port_p16 (l : List UInt8) : portN l = if l = [] then none else if 1 < l.length ∧ l.head? = some 48 then none else p16 0 l := by
  unfold portN
  by_cases h0 : l = []
  · subst h0; rfl
  rw [if_neg h0]
  by_cases h1 : 1 < l.length ∧ l.head? = some 48
  · rw [if_pos (.inr h1), if_pos h1]
  rw [if_neg h1, p16_dec l 0 (by omega)]
  unfold decN
  rw [if_neg h0]
  by_cases h5 : 5 < l.length
  · rw [if_pos (.inl h5)]
    cases hg : decGo 0 l with
    | none => rfl
    | some m =>
      rw [Option.bind_some]
      match l, h0, h1, h5, hg with
      | c :: t, h0, h1, h5, hg =>
        rw [decGo] at hg
        split at hg
        · rename_i hd
          have hc : 49 ≤ c.toNat := by
            have hne : c ≠ 48 := fun e => h1 ⟨by omega, by rw [e]; rfl⟩
            have h48 : c.toNat ≠ 48 := fun e => hne (UInt8.toNat_inj.1 (by rw [e]; rfl))
            unfold digB at hd
            simp only [Bool.and_eq_true, decide_eq_true_eq] at hd
            omega
          have hge := decGo_ge t _ _ hg
          have h6 : 10 ^ 5 ≤ 10 ^ t.length := Nat.pow_le_pow_right (by omega) (by rw [List.length_cons] at h5; omega)
          have h7 : 1 * 10 ^ t.length ≤ (0 * 10 + (c.toNat - 48)) * 10 ^ t.length := Nat.mul_le_mul_right _ (by omega)
          rw [if_pos (by omega)]
        · cases hg
  · rw [if_neg (fun h => h.elim h5 h1)]
theorem first_of (c : UInt8) : ∀ l : List UInt8, c ∈ l → ∃ x y, l = x ++ c :: y ∧ c ∉ x
  | [], h => by cases h
  | b :: l, h => by
    by_cases hb : b = c
    · exact ⟨[], l, by rw [hb]; rfl, by simp⟩
    · have h2 : c ∈ l := (List.mem_cons.1 h).resolve_left fun e => hb e.symm
      obtain ⟨x, y, e, hx⟩ := first_of c l h2
      exact ⟨b :: x, y, by rw [e]; rfl, fun hm => (List.mem_cons.1 hm).elim (fun e => hb e.symm) hx⟩
theorem cut_dash : ∀ l : List UInt8, Lib.cut l [45] = ((dashV l).1, ((dashV l).2).getD [], (dashV l).2.isSome) := fun l => by
  by_cases h : (45 : UInt8) ∈ l
  · obtain ⟨x, y, rfl, hx⟩ := first_of 45 l h
    rw [dash_some hx]
    have := cut_one (c := 45) (x := x) (y := y) hx
    rw [List.append_assoc] at this
    exact this
  · rw [dash_none h]
    unfold Lib.cut
    rw [index_one, if_neg h]
    rfl
def u16 : Option Nat → Int → Int → Value
  | some n, _, _ => .tuple #[.int .u64 n, .nilIface]
  | none, v, k => .tuple #[.int .u64 v, .iface 224 (.int .i64 k)]
set_option maxRecDepth 100000 in
set_option maxHeartbeats 8000000 in
theorem pu16 (t : ByteArray) (hne : t.size ≠ 0) (hmax : t.size ≤ 1000000) (w : World) :
    Calls Tryz.prog 150 #[.string t, .int .i64 10, .int .i64 16] w fun e w' => ∃ v k, e = .returned (u16 (p16 0 t.data.toList) v k) ∧ (k = 1 ∨ k = 2) ∧ Below w.heap.size w w' := by
  have hemp : t.toList.isEmpty = false := by
    rw [← decide_eq_emptyBytes]
    exact decide_eq_false (fun h => hne (by rw [h]; rfl))
  have hcv := Lib.run_convert_string_bytes (P := Tryz.prog) w 9 67 5 t (u := .string) Tryz.underlying9 Tryz.underlying67 Tryz.underlying5
  have hB : ∀ j, j < t.size → (Lib.bytesWorld w 5 t).cell? ⟨w.heap.size, j, none⟩ = some (.int .u8 (t.data.toList.getD j 0).toNat) := fun j hj => Lib.bytesWorld_cell w 5 t j hj
  have hbe : Below w.heap.size w (Lib.bytesWorld w 5 t) := Lib.bytesWorld_below w 5 t
  obtain ⟨W1, hW1⟩ : ∃ W1, W1 = Lib.bytesWorld w 5 t := ⟨_, rfl⟩
  rw [← hW1] at hcv hB hbe
  clear hW1
  have HBe := Lib.hid hbe
  clear hbe
  obtain ⟨bs, hL⟩ : ∃ bs, bs = t.data.toList := ⟨_, rfl⟩
  have hLn : bs.length = t.size := by rw [hL, Lib.size_eq]
  rw [← hL] at hB ⊢
  clear hL
  have hmv : IntKind.u64.wrap (IntKind.u64.wrap 65536 - 1) = 65535 := by
    rw [IntKind.wrap_u64, IntKind.wrap_u64]
    decide
  go_enter Tryz.func150, Tryz.ntmps150
  go_wp2
  go_loop [12, 13, 101] (fun vu vn vi => ∃ (k acc : Nat) (a : Int), vu = .bool false ∧ vn = .int .u64 a ∧ vi = .int .i64 k ∧ k ≤ t.size ∧ Hid (a = (acc : Int) ∧ acc ≤ 65535 ∧ p16 0 bs = p16 acc (bs.drop k)))
    (fun _ _ vi => t.size - (intOf vi).toNat)
  case atStart => exact ⟨0, 0, 0, rfl, rfl, rfl, by omega, rfl, by omega, rfl⟩
  case round =>
    obtain ⟨k, acc, a, rfl, rfl, rfl, hk, hh⟩ := hrel
    obtain ⟨ha, hacc, hdec⟩ := hh.out
    clear hh
    have a0 : 0 ≤ a := by omega
    have a1 : a < 65536 := by omega
    by_cases hkn : k < t.size
    · have hc := hB k hkn
      have hdrop : bs.drop k = bs[k]'(by omega) :: bs.drop (k + 1) := List.drop_eq_getElem_cons (by omega)
      have hget : bs.getD k 0 = bs[k]'(by omega) := by simp [List.getD, List.getElem?_eq_getElem (show k < bs.length by omega)]
      rw [hdrop, p16_cons] at hdec
      rw [hget] at hc
      generalize bs[k]'(by omega) = c at hc hdec
      have hc256 : c.toNat < 256 := c.toNat_lt
      clear hB hdrop hget
      have hdb : digB c = decide (48 ≤ c.toNat ∧ c.toNat ≤ 57) := by unfold digB; rw [Bool.eq_iff_iff]; simp
      by_cases hdig : 48 ≤ c.toNat ∧ c.toNat ≤ 57
      · rw [hdb, decide_eq_true hdig, if_pos rfl] at hdec
        obtain ⟨hd0, hd1⟩ := hdig
        clear hdb
        by_cases hmax2 : acc * 10 + (c.toNat - 48) ≤ 65535
        · rw [if_pos hmax2] at hdec
          have hlim : a * 10 + ((c.toNat : Int) - 48) ≤ 65535 := by omega
          have HN : Hid (a * 10 + ((c.toNat : Int) - 48) = ((acc * 10 + (c.toNat - 48) : Nat) : Int) ∧ acc * 10 + (c.toNat - 48) ≤ 65535 ∧ p16 0 bs = p16 (acc * 10 + (c.toNat - 48)) (bs.drop (k + 1))) := Lib.hid ⟨by omega, hmax2, hdec⟩
          clear hacc hdec ha hmax2
          go_wp2
          refine ⟨⟨k + 1, acc * 10 + (c.toNat - 48), a * 10 + ((c.toNat : Int) - 48), rfl, (by first | rfl | (congr 1; omega)), (by first | rfl | (congr 1; omega)), by omega, HN⟩, by simp [intOf]; omega⟩
        · rw [if_neg hmax2] at hdec
          have hlim : 65535 < a * 10 + ((c.toNat : Int) - 48) := by omega
          have HD := Lib.hid hdec
          clear hacc hdec ha hmax2
          go_wp2
          go_ret2
          exact ⟨65535, 1, by rw [HD.out]; rfl, .inl rfl, HBe.out⟩
      · rw [hdb, decide_eq_false hdig, if_neg (by decide)] at hdec
        clear hdb
        have HD := Lib.hid hdec
        clear hdec hacc ha
        by_cases h95 : (c.toNat : Int) = 95
        · rw [h95] at hc
          have H95 := Lib.hid h95
          clear hdig h95
          have hu : bits .or .u8 95 32 = 127 := by decide
          go_wp2_with (go_at_call 162; refine (lower_any _ _).mono ?_; rw [hu]; rintro e w' ⟨rfl, rfl⟩)
          go_ret2
          exact ⟨0, 2, by rw [HD.out]; rfl, .inr rfl, HBe.out⟩
        have h95' : ((c.toNat : Int) == 95) = false := by simpa using h95
        obtain ⟨hv0, hv1, _⟩ := low_facts c hdig
        clear h95
        have hlow : ∀ w : World, Calls Tryz.prog 162 #[.int .u8 c.toNat] w fun e w' => e = .returned (.int .u8 (low c)) ∧ w = w' := fun w => lower_any _ w
        have HLOW := Lib.hid hlow
        clear hlow
        generalize hlc : low c = lc at *
        clear hlc
        by_cases hal : 97 ≤ lc ∧ lc ≤ 122
        · obtain ⟨hl0, hl1⟩ := hal
          have hlt2 : 10 ≤ lc - 97 + 10 := by omega
          go_wp2_with (go_at_call 162; refine (HLOW.out _).mono ?_; rintro e w' ⟨rfl, rfl⟩)
          all_goals go_ret2
          all_goals exact ⟨0, 2, by rw [HD.out]; rfl, .inr rfl, HBe.out⟩
        · go_wp2_with (go_at_call 162; refine (HLOW.out _).mono ?_; rintro e w' ⟨rfl, rfl⟩)
          all_goals go_ret2
          all_goals exact ⟨0, 2, by rw [HD.out]; rfl, .inr rfl, HBe.out⟩
    · have hkk : k = t.size := by omega
      subst hkk
      rw [List.drop_eq_nil_of_le (by omega)] at hdec
      replace hdec : p16 0 bs = some acc := hdec
      have HD := Lib.hid hdec
      subst ha
      clear hacc a0 a1 hdec
      go_wp2
      go_ret2
      exact ⟨0, 1, by rw [HD.out]; rfl, .inl rfl, HBe.out⟩
theorem pu16_empty (w : World) : Calls Tryz.prog 150 #[.string ⟨#[]⟩, .int .i64 10, .int .i64 16] w fun e w' => e = .returned (u16 none 0 2) ∧ Below w.heap.size w w' := by
  go_enter Tryz.func150, Tryz.ntmps150
  go_wp2
  go_ret2
  exact ⟨rfl, Below.refl _ _⟩
def protoL : List (List UInt8 × Int) := [(kwTcp, 6), (kwUdp, 17), (kwIcmp, 1), (kwAny, 256)]
structure Env19 (w : World) : Prop where
  env : Env w
  rng : ∃ T x, w.cell? ⟨7, 0, none⟩ = some (.iface T x)
  prot : ∃ b off, w.cell? ⟨1, 0, none⟩ = some (.slice (some ⟨b, off, none⟩) 4 4) ∧ ∀ (i : Nat) (q : List UInt8 × Int), protoL[i]? = some q → w.cell? ⟨b, off + i * 2, none⟩ = some (.string (mkS q.1)) ∧ w.cell? ⟨b, off + i * 2 + 1, none⟩ = some (.int .i64 q.2)
theorem Env19.later {w w' : World} (h : Env19 w) {B : Nat} (hb : Below B w w') (hB : w.heap.size ≤ B) : Env19 w' := by
  have hc : ∀ (b o : Nat) (v : Value), w.cell? ⟨b, o, none⟩ = some v → w'.cell? ⟨b, o, none⟩ = some v := fun b o v h => by
    rw [hb.cell (p := ⟨b, o, none⟩) (by have := lt_cell h; show b < B; omega)]; exact h
  obtain ⟨T, x, hx⟩ := h.rng
  obtain ⟨b, off, h1, h2⟩ := h.prot
  exact ⟨h.env.later hb hB, ⟨T, x, hc _ _ _ hx⟩, ⟨b, off, hc _ _ _ h1, fun i q hq => ⟨hc _ _ _ (h2 i q hq).1, hc _ _ _ (h2 i q hq).2⟩⟩⟩
theorem clone19 (s : ByteArray) (hlim : s.size ≤ 1000000) (w : World) : Calls Tryz.prog 172 #[.string s] w fun e w' => e = .returned (.string s) ∧ Below w.heap.size w w' :=
  (Any.stringslite_Clone (P := Tryz.prog) (ρ := Tryz.laysC245_ren) { Tryz.laysC245.toM with } s w (by omega)).mono fun _ _ h => h
set_option maxHeartbeats 1000000 in
theorem rangeErr19 (fn s : ByteArray) {T : TypeId} {x : Value} (hs : s.size ≤ 1000000) {w : World} (hv : w.cell? ⟨7, 0, none⟩ = some (.iface T x)) : Calls Tryz.prog 165 #[.string fn, .string s] w fun e w' => ∃ N, e = .returned (.pointer (some ⟨N, 0, none⟩)) ∧ Below w.heap.size w w' := by
  have hG : (7 : Nat) < w.heap.size := lt_cell hv
  have hvd : w.drew.cell? ⟨7, 0, none⟩ = some (.iface T x) := hv
  have mixed : Tryz.prog.follows .mixedOrders = true := by kernel_rfl
  have K := Lib.hid (fun w => clone19 s hs w)
  go_enter Tryz.func165, Tryz.ntmps165
  go_wp2_with fail
  go_region_with (go_at_call 172; refine (K.out _).mono ?_; rintro e w2 ⟨rfl, hbel⟩; have hv2 : w2.cell? ⟨7, 0, none⟩ = some (.iface T x) := (hbel.cell (p := ⟨7, 0, none⟩) hG).trans hvd)
  all_goals
    go_wp2
    go_ret
    have hs2 : w.heap.size ≤ w2.heap.size := hbel.size
    exact ⟨_, rfl, ((Below.drew (Below.refl _ w)).trans hbel).alloc hs2 _⟩
theorem toRange19 (fn s : ByteArray) (hs : s.size ≤ 1000000) {w : World} (hE : Env19 w) : Calls Tryz.prog 151 #[.string fn, .string s, .int .i64 10, .int .i64 16, .iface 224 (.int .i64 1)] w fun e w' => ∃ N, e = .returned (.iface 226 (.pointer (some ⟨N, 0, none⟩))) ∧ Below w.heap.size w w' := by
  obtain ⟨T, x, hv⟩ := hE.rng
  have K := Lib.hid (rangeErr19 fn s hs hv)
  clear hv hE
  have heq : ∀ n W, (binOp .eql 29 (.iface 224 (.int .i64 1)) (.iface 224 (.int .i64 n))).run Tryz.prog W = .ok (.bool ((1 : Int) == n)) W := fun n W => Lib.run_eql_iface_int W 1 n Tryz.underlying29 (by kernel_rfl) Tryz.underlying224
  go_enter Tryz.func151, Tryz.ntmps151
  go_wp2_with fail
  refine K.out.mono ?_
  rintro e w2 ⟨N, rfl, h2⟩
  have H := Lib.hid h2
  clear h2
  go_wp2_with fail
  go_ret
  exact ⟨N, rfl, H.out⟩
theorem toSyn19 (fn s : ByteArray) (hs : s.size ≤ 1000000) {w : World} (hE : Env19 w) : Calls Tryz.prog 151 #[.string fn, .string s, .int .i64 10, .int .i64 16, .iface 224 (.int .i64 2)] w fun e w' => ∃ N, e = .returned (.iface 226 (.pointer (some ⟨N, 0, none⟩))) ∧ Below w.heap.size w w' := by
  obtain ⟨p, hp⟩ := hE.env.syn
  exact (Tryz.strconv_toError_syntax fn s 10 16 _ w (by omega) hp (.inr ⟨_, _, rfl⟩)).mono fun e w' ⟨N, h1, _, _, h4⟩ => ⟨N, h1, h4⟩
theorem parseU19 (s : ByteArray) (hs : s.size ≤ 1000000) {w : World} (hE : Env19 w) : Calls Tryz.prog 130 #[.string s, .int .i64 10, .int .i64 16] w fun e w' => Below w.heap.size w w' ∧ match (if s.size = 0 then none else p16 0 s.data.toList) with
    | some n => n ≤ 65535 ∧ e = .returned (.tuple #[.int .u64 n, .nilIface])
    | none => ∃ v N, e = .returned (.tuple #[.int .u64 v, .iface 226 (.pointer (some ⟨N, 0, none⟩))]) := by
  have k1 : Calls Tryz.prog 150 #[.string s, .int .i64 10, .int .i64 16] w fun e w' => ∃ v k, e = .returned (u16 (if s.size = 0 then none else p16 0 s.data.toList) v k) ∧ (k = 1 ∨ k = 2) ∧ Below w.heap.size w w' := by
    by_cases h0 : s.size = 0
    · have ht : s = ⟨#[]⟩ := by
        obtain ⟨⟨l⟩⟩ := s
        cases l with
        | nil => rfl
        | cons _ _ => simp [ByteArray.size] at h0
      subst ht
      exact (pu16_empty w).mono fun e w' ⟨h1, h2⟩ => ⟨0, 2, h1, .inr rfl, h2⟩
    · rw [if_neg h0]
      exact pu16 s h0 hs w
  have hle : ∀ n, (if s.size = 0 then none else p16 0 s.data.toList) = some n → n ≤ 65535 := fun n h => by
    split at h
    · cases h
    · exact p16_le _ _ _ h (by omega)
  have K2 : ∀ w1, Below w.heap.size w w1 → ∀ k : Int, k = 1 ∨ k = 2 → Hid (Calls Tryz.prog 151 #[.string ⟨#[80, 97, 114, 115, 101, 85, 105, 110, 116]⟩, .string s, .int .i64 10, .int .i64 16, .iface 224 (.int .i64 k)] w1 fun e w' => ∃ N, e = .returned (.iface 226 (.pointer (some ⟨N, 0, none⟩))) ∧ Below w1.heap.size w1 w') := fun w1 hb k hk => by
    rcases hk with rfl | rfl
    · exact toRange19 _ s hs (hE.later hb (Nat.le_refl _))
    · exact toSyn19 _ s hs (hE.later hb (Nat.le_refl _))
  have K2 := Lib.hid K2
  clear hE
  generalize (if s.size = 0 then none else p16 0 s.data.toList) = r at k1 hle ⊢
  have K1 := Lib.hid k1
  have HL := Lib.hid hle
  clear k1 hle
  cases r with
  | some n =>
    go_enter Tryz.func130, Tryz.ntmps130
    go_wp2_with fail
    refine K1.out.mono ?_
    rintro e w1 ⟨v, k, rfl, _, b1⟩
    simp only [u16]
    have H1 := Lib.hid b1
    clear b1
    go_wp2_with fail
    go_ret2
    exact ⟨H1.out, HL.out _ rfl, rfl⟩
  | none =>
    go_enter Tryz.func130, Tryz.ntmps130
    go_wp2_with fail
    refine K1.out.mono ?_
    rintro e w1 ⟨v, k, rfl, hk, b1⟩
    simp only [u16]
    have H1 := Lib.hid b1
    have K3 := K2.out w1 b1 k hk
    clear b1 hk
    go_wp2_with fail
    refine K3.out.mono ?_
    rintro e w2 ⟨N, rfl, b2⟩
    have H2 := Lib.hid (H1.out.trans (b2.mono H1.out.size))
    clear b2
    go_wp2_with fail
    go_ret2
    exact ⟨H2.out, v, N, rfl⟩
def errV (n : Int) : Value := .iface 37 (.int .i64 n)
set_option maxHeartbeats 1000000 in
theorem port19 (s : ByteArray) (hs : s.size ≤ 1000000) {w : World} (hE : Env19 w) : Calls Tryz.prog 112 #[.string s] w fun e w' => Below w.heap.size w w' ∧ match portN s.data.toList with
    | some n => n ≤ 65535 ∧ e = .returned (.tuple #[.int .i64 n, .nilIface])
    | none => e = .returned (.tuple #[.int .i64 0, errV 16]) := by
  have hp := port_p16 s.data.toList
  have hsz := Lib.size_eq s
  have k1 := parseU19 s hs hE
  by_cases h0 : s.size = 0
  · have hl : s.data.toList = [] := List.eq_nil_of_length_eq_zero (by omega)
    rw [if_pos h0] at k1
    rw [hl, if_pos rfl] at hp
    rw [hl, hp]
    have K1 := Lib.hid k1
    clear k1 hp hl hE hsz
    go_enter Tryz.func112, Tryz.ntmps112
    go_wp2_with fail
    refine K1.out.mono ?_
    rintro e w1 ⟨b1, v, N, rfl⟩
    have H1 := Lib.hid b1
    clear b1
    go_wp2_with fail
    go_ret2
    exact ⟨H1.out, rfl⟩
  · rw [if_neg h0] at k1
    have hne : s.data.toList ≠ [] := fun e => h0 (by rw [hsz, e]; rfl)
    rw [if_neg hne] at hp
    rw [hp]
    obtain ⟨c, hc, hsk⟩ := str_at (s := s) (i := 0) (Nat.pos_of_ne_zero h0)
    have hhd : s.data.toList.head? = some c := by rw [List.head?_eq_getElem?]; exact hc
    rw [hhd, ← hsz]
    have H48 : Hid ((c.toNat : Int) = 48 ↔ c = 48) := ⟨fun h => UInt8.toNat_inj.1 (by have : (48 : UInt8).toNat = 48 := rfl; omega), fun h => by rw [h]; rfl⟩
    generalize p16 0 s.data.toList = r at k1 ⊢
    have K1 := Lib.hid k1
    have HS := Lib.hid hsk
    clear k1 hp hhd hE hsz hne hc
    cases r with
    | none =>
      have e0 : (if 1 < s.size ∧ some c = some 48 then (none : Option Nat) else none) = none := by split <;> rfl
      rw [e0]
      go_enter Tryz.func112, Tryz.ntmps112
      go_wp2_with fail
      refine K1.out.mono ?_
      rintro e w1 ⟨b1, v, N, rfl⟩
      have H1 := Lib.hid b1
      clear b1
      go_wp2_with fail
      go_ret2
      exact ⟨H1.out, rfl⟩
    | some n =>
      by_cases h1 : 1 < s.size
      · by_cases h48 : c = 48
        · rw [if_pos ⟨h1, by rw [h48]⟩]
          subst h48
          clear HS
          go_enter Tryz.func112, Tryz.ntmps112
          go_wp2_with fail
          refine K1.out.mono ?_
          rintro e w1 ⟨b1, hn, rfl⟩
          have H1 := Lib.hid b1
          clear b1
          go_wp2_with fail
          go_ret2
          exact ⟨H1.out, rfl⟩
        · rw [if_neg (fun h => h48 (Option.some.inj h.2))]
          have hcn : ((c.toNat : Int) == 48) = false := by rw [beq_eq_false_iff_ne]; exact fun h => h48 (H48.out.1 h)
          clear h48
          go_enter Tryz.func112, Tryz.ntmps112
          go_wp2_with fail
          refine K1.out.mono ?_
          rintro e w1 ⟨b1, hn, rfl⟩
          have H1 := Lib.hid b1
          clear b1
          go_wp2_with fail
          go_ret2
          first | exact ⟨H1.out, hn, rfl⟩ | exact ⟨H1.out, rfl⟩
      · rw [if_neg (fun h => h1 h.1)]
        go_enter Tryz.func112, Tryz.ntmps112
        go_wp2_with fail
        refine K1.out.mono ?_
        rintro e w1 ⟨b1, hn, rfl⟩
        have H1 := Lib.hid b1
        clear b1
        go_wp2_with fail
        go_ret2
        first | exact ⟨H1.out, hn, rfl⟩ | exact ⟨H1.out, rfl⟩
end Go.Proofs.YtoagfmonfgagbaaGreatDoor
