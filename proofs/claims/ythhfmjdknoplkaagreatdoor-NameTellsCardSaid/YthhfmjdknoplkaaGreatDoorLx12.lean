/-
  What the statements of stage 12 ask, as values: as long as may be, cut anywhere, under a zone, one byte, each label. No conditions.
-/
import Derived.Test.YthhfmjdknoplkaaGreatDoorNm12
namespace Go.Proofs.YthhfmjdknoplkaaGreatDoor
open Go.RowKit
set_option maxRecDepth 100000

/-! ### Too long -/
theorem read_long {l : List UInt8} {n : Nat} (hn : l.length = n) : ∀ (ys : List (List UInt8)) (at_ below size : Nat) (a : List UInt8) (next : Option Nat) (rest : List UInt8), (∀ y ∈ ys, labOk (lowL y)) → size ≤ 255 → 255 < size + sizeL ys → l.drop at_ = wireL ys ++ rest →
    ∃ p, readS l n ⟨at_, below, size, a, next⟩ = .bad 13 p
  | [], _, _, _, _, _, _, _, h5, h, _ => absurd h (by show ¬ 255 < _ + 0; omega)
  | y :: ys, at_, below, size, a, next, rest, hy, h5, hs, hd => by
    have hy0 := hy y (by simp)
    have h1 := hy0.2.1
    have h63 := hy0.2.2
    rw [lowL_length] at h1 h63
    have hsz : sizeL (y :: ys) = 1 + y.length + sizeL ys := rfl
    rw [wireL_cons, List.cons_append, List.append_assoc] at hd
    obtain ⟨hb, hlt, hd1⟩ := bat_head hd
    have hbl : bat l at_ = y.length := by rw [hb, UInt8.toNat_ofNat']; omega
    have hd2 : l.drop (at_ + 1 + y.length) = wireL ys ++ rest := by rw [← List.drop_drop (i := y.length) (j := at_ + 1), hd1, List.drop_left' rfl]
    have htk : (l.drop (at_ + 1)).take y.length = y := by rw [hd1, List.take_left' rfl]
    have hlen : at_ + 1 + y.length ≤ n := by
      have := congrArg List.length hd1
      rw [List.length_drop, List.length_append] at this
      omega
    by_cases hbig : 255 < size + 1 + y.length
    · refine ⟨at_, readS_end ?_⟩
      unfold rstep
      dsimp only
      rw [hbl, htk, if_neg (by omega), if_neg (by omega), if_pos (by omega), if_neg (by omega), if_neg (by simpa using hy0), if_pos hbig]
    · have hst : rstep l n ⟨at_, below, size, a, next⟩ = .inl ⟨at_ + 1 + y.length, below, size + 1 + y.length, dotted a (lowL y), next⟩ := by
        unfold rstep
        dsimp only
        rw [hbl, htk, if_neg (by omega), if_neg (by omega), if_pos (by omega), if_neg (by omega), if_neg (by simpa using hy0), if_neg hbig]
      rw [readS_on hst (by dsimp only; omega)]
      exact read_long hn ys _ _ _ _ _ rest (fun z hz => hy z (List.mem_cons_of_mem _ hz)) (by omega) (by omega) hd2
/-- So many labels of so many signs. -/
def longL (n size : Nat) : List (List UInt8) := List.replicate n (List.replicate size 120)
def longOk (n size : Nat) : Prop := size ≤ 63 ∧ n * (size + 1) + 1 ≤ 255
instance (n size : Nat) : Decidable (longOk n size) := by unfold longOk; infer_instance
theorem longL_size (n size : Nat) : sizeL (longL n size) = n * (size + 1) := by
  unfold sizeL longL
  rw [List.map_replicate, List.sum_replicate_nat, List.length_replicate, Nat.add_comm 1 size]
theorem longL_mem {n size : Nat} (h1 : 1 ≤ size) : ∀ x ∈ longL n size, x ≠ [] ∧ ∀ c ∈ x, sign c := fun x hx => by
  obtain rfl := List.eq_of_mem_replicate hx
  refine ⟨fun e => ?_, fun c hc => ?_⟩
  · have := congrArg List.length e
    rw [List.length_replicate] at this
    simp at this
    omega
  · obtain rfl := List.eq_of_mem_replicate hc
    decide
theorem longL_labs {n size : Nat} (h1 : 1 ≤ size) : labsN (joinD (longL n size)) = longL n size := join_labs (longL_mem h1)
theorem longL_right {n size : Nat} (hn : 1 ≤ n) (h1 : 1 ≤ size) : rightN (joinD (longL n size)) ↔ longOk n size := by
  unfold rightN longOk
  rw [longL_labs h1, longL_size]
  constructor
  · rintro ⟨h2, h3⟩
    have := (h2 (List.replicate size 120) (by unfold longL; rw [List.mem_replicate]; exact ⟨by omega, rfl⟩)).2.2
    rw [List.length_replicate] at this
    exact ⟨this, by omega⟩
  · rintro ⟨h2, h3⟩
    refine ⟨fun x hx => ⟨(longL_mem h1 x hx).2, ?_⟩, by omega⟩
    obtain rfl := List.eq_of_mem_replicate hx
    rw [List.length_replicate]
    exact ⟨h1, h2⟩
theorem long_read {n size : Nat} (hn : 1 ≤ n) (h1 : 1 ≤ size) (h70 : size ≤ 70) {l : List UInt8} (hl : l = wireL (longL n size) ++ [0]) {m : Nat} (hm : l.length = m) :
    (longOk n size → readv l m 0 = .ok (joinD (longL n size)) m) ∧ (¬ longOk n size → ∃ c p, readv l m 0 = .bad c p ∧ (c = 12 ∨ c = 13) ∧ (size ≤ 63 → c = 13)) := by
  have hd : l.drop 0 = wireL (longL n size) ++ 0 :: [] := hl
  have hlow : ∀ y ∈ longL n size, lowL y = y := fun y hy => by
    unfold lowL
    conv => rhs; rw [← List.map_id y]
    exact List.map_congr_left fun c hc => lowB_sign ((longL_mem h1 y hy).2 c hc)
  refine ⟨fun hok => ?_, fun hno => ?_⟩
  · have hr := (longL_right hn h1).2 hok
    have h := read_written hm hr (at_ := 0) (rest := []) (by rw [List.append_nil]; unfold writeB; rw [longL_labs h1]; exact hl)
    have e : (writeB (joinD (longL n size))).length = m := by unfold writeB; rw [longL_labs h1, ← hl, hm]
    rw [e, Nat.zero_add] at h
    exact h
  · unfold readv
    rw [if_neg (by omega), Int.toNat_zero]
    by_cases h63 : size ≤ 63
    · have hlab : ∀ y ∈ longL n size, labOk (lowL y) := fun y hy => by
        rw [hlow y hy]
        refine ⟨(longL_mem h1 y hy).2, ?_⟩
        obtain rfl := List.eq_of_mem_replicate hy
        rw [List.length_replicate]
        exact ⟨h1, h63⟩
      obtain ⟨p, hp⟩ := read_long hm (longL n size) 0 0 1 [] none _ hlab (by omega) (by
        rw [longL_size]
        unfold longOk at hno
        omega) hd
      exact ⟨13, p, hp, .inr rfl, fun _ => rfl⟩
    · obtain ⟨k, rfl⟩ : ∃ k, n = k + 1 := ⟨n - 1, by omega⟩
      have hd0 : l.drop 0 = UInt8.ofNat size :: (List.replicate size 120 ++ (wireL (longL k size) ++ [0])) := by
        rw [hd]
        show wireL (List.replicate size 120 :: longL k size) ++ [0] = _
        rw [wireL_cons, List.length_replicate]
        simp
      obtain ⟨hb, hlt, _⟩ := bat_head hd0
      have hbl : bat l 0 = size := by rw [hb, UInt8.toNat_ofNat']; omega
      refine ⟨12, 0, readS_end ?_, .inl rfl, fun h => absurd h h63⟩
      unfold rstep
      dsimp only
      rw [hbl, if_neg (by omega), if_neg (by omega), if_neg (by omega), if_neg (by omega)]

/-! ### Cut anywhere -/
theorem cut_read {ls : List (List UInt8)} (hx : ∀ x ∈ ls, labOk x) (hs : 1 + sizeL ls ≤ 255) {cut at_ j : Nat} (hcut : cut < sizeL ls + 1) (hat : sizeL (ls.take j) = at_) (hle : at_ ≤ cut)
    (hend : at_ = cut ∨ ∃ x, ls[j]? = some x ∧ cut < at_ + 1 + x.length) {l : List UInt8} (hl : l = (wireL ls ++ [0]).take cut) : readv l cut 0 = .bad 3 at_ := by
  have hlen : l.length = cut := by rw [hl, List.length_take, List.length_append, wireL_length]; simp; omega
  have hsp : wireL ls ++ [0] = wireL (ls.take j) ++ (wireL (ls.drop j) ++ [0]) := by rw [← List.append_assoc, ← wireL_append, List.take_append_drop]
  have hsj : sizeL ls = at_ + sizeL (ls.drop j) := by rw [← hat, ← sizeL_append, List.take_append_drop]
  have hd : l.drop 0 = wireL (ls.take j) ++ (wireL (ls.drop j) ++ [0]).take (cut - at_) := by
    rw [List.drop_zero, hl, hsp, List.take_append, wireL_length, hat, List.take_of_length_le (by rw [wireL_length]; omega)]
  have hlow : ∀ y ∈ ls.take j, labOk (lowL y) := fun y hy => by
    have := hx y (List.mem_of_mem_take hy)
    rw [lowL_ok this]; exact this
  unfold readv
  rw [if_neg (by omega), Int.toNat_zero, read_labels hlen (ls.take j) 0 0 1 [] none _ hlow (by omega) hd, hat, Nat.zero_add]
  by_cases he : at_ = cut
  · refine readS_end ?_
    unfold rstep
    dsimp only
    rw [if_pos (by omega)]
  · rcases hend with h | ⟨x, hjx, hbig⟩
    · exact absurd h he
    · have hjl := (List.getElem?_eq_some_iff.1 hjx).1
      have hxk := hx x (List.mem_of_getElem? hjx)
      have hdj : ls.drop j = x :: ls.drop (j + 1) := by
        rw [List.drop_eq_getElem_cons hjl]
        rw [List.getElem?_eq_getElem hjl] at hjx
        rw [Option.some.inj hjx]
      obtain ⟨d, hd1⟩ : ∃ d, cut - at_ = d + 1 := ⟨cut - at_ - 1, by omega⟩
      have hd2 : l.drop at_ = UInt8.ofNat x.length :: ((x ++ wireL (ls.drop (j + 1))) ++ [0]).take d := by
        have h1 : l.drop at_ = (l.drop 0).drop (wireL (ls.take j)).length := by rw [List.drop_drop, wireL_length, hat, Nat.zero_add]
        rw [h1, hd, List.drop_left' rfl, hdj, wireL_cons, hd1]
        rfl
      obtain ⟨hb, hlt, _⟩ := bat_head hd2
      have h63 := hxk.2.2
      have h1 := hxk.2.1
      have hbl : bat l at_ = x.length := by rw [hb, UInt8.toNat_ofNat']; omega
      refine readS_end ?_
      unfold rstep
      dsimp only
      rw [hbl, if_neg (by omega), if_neg (by omega), if_pos (by omega), if_pos hbig]
/-- The length that stands at a label's place. -/
theorem wire_at {ls : List (List UInt8)} {j at_ : Nat} {x : List UInt8} (hjx : ls[j]? = some x) (hat : sizeL (ls.take j) = at_) {r : List UInt8} : (wireL ls ++ r)[at_]? = some (UInt8.ofNat x.length) ∧ sizeL (ls.take (j + 1)) = at_ + 1 + x.length := by
  have hjl := (List.getElem?_eq_some_iff.1 hjx).1
  have hdj : ls.drop j = x :: ls.drop (j + 1) := by
    rw [List.drop_eq_getElem_cons hjl]
    rw [List.getElem?_eq_getElem hjl] at hjx
    rw [Option.some.inj hjx]
  refine ⟨?_, ?_⟩
  · have e : wireL ls ++ r = wireL (ls.take j) ++ (wireL (x :: ls.drop (j + 1)) ++ r) := by rw [← hdj, ← List.append_assoc, ← wireL_append, List.take_append_drop]
    rw [e, List.getElem?_append_right (by rw [wireL_length]; omega), wireL_length, hat, Nat.sub_self, wireL_cons]
    rfl
  · rw [List.take_add_one, hjx, sizeL_append, hat]
    show at_ + (1 + x.length + 0) = _
    omega
/-- Lengths that are none. -/
theorem none_read {l : List UInt8} {n : Nat} (hn : l.length = n) {x : UInt8} {r : List UInt8} (hl : l = x :: r) (h1 : 64 ≤ x.toNat) (h2 : x.toNat < 192) : readv l n 0 = .bad 12 0 := by
  unfold readv
  have hd : l.drop 0 = x :: r := hl
  obtain ⟨hb, hlt, _⟩ := bat_head hd
  rw [if_neg (by omega), Int.toNat_zero]
  refine readS_end ?_
  unfold rstep
  dsimp only
  rw [hb, if_neg (by omega), if_neg (by omega), if_neg (by omega), if_neg (by omega)]

/-! ### Under a zone -/
theorem joinD_append : ∀ (a b : List (List UInt8)), a ≠ [] → b ≠ [] → joinD (a ++ b) = joinD a ++ 46 :: joinD b
  | [], _, h, _ => absurd rfl h
  | [x], b, _, hb => joinD_cons x hb
  | x :: y :: r, b, _, hb => by
    show joinD (x :: ((y :: r) ++ b)) = _
    rw [joinD_cons x (by simp), joinD_append (y :: r) b (by simp) hb, joinD_cons x (by simp)]
    simp
theorem under_dot (a z : List UInt8) : underN (a ++ 46 :: z) z := by
  refine .inr (.inr ⟨by simp; omega, ?_, ?_⟩)
  · rw [List.length_append, List.length_cons, show a.length + (z.length + 1) - z.length = a.length + 1 by omega, ← List.drop_drop, List.drop_left' rfl]
    rfl
  · rw [List.length_append, List.length_cons, show a.length + (z.length + 1) - z.length - 1 = a.length by omega, List.getElem?_append_right (Nat.le_refl _), Nat.sub_self]
    rfl
theorem under_labels (s : List UInt8) (k : Nat) : underN s (joinD ((labsN s).drop k)) := by
  by_cases hb : (labsN s).drop k = []
  · rw [hb]; exact .inl rfl
  · by_cases ha : (labsN s).take k = []
    · have h1 := (List.take_append_drop k (labsN s)).symm
      rw [ha, List.nil_append] at h1
      rw [← h1, joinD_labsN]
      exact .inr (.inl rfl)
    · have e : s = joinD ((labsN s).take k) ++ 46 :: joinD ((labsN s).drop k) := by
        rw [← joinD_append _ _ ha hb, List.take_append_drop, joinD_labsN]
      conv => arg 1; rw [e]
      exact under_dot _ _
theorem not_under_longer (x : UInt8) (s : List UInt8) : ¬ underN s (x :: s) := by
  rintro (h | h | ⟨h, _⟩)
  · cases h
  · have := congrArg List.length h
    simp at this
  · rw [List.length_cons] at h
    omega
theorem longer_not_under {x : UInt8} (hx : x ≠ 46) {s : List UInt8} (hs : s ≠ []) : ¬ underN (x :: s) s := by
  rintro (h | h | ⟨_, _, h⟩)
  · exact hs h
  · have := congrArg List.length h
    simp at this
  · rw [List.length_cons, show s.length + 1 - s.length - 1 = 0 by omega] at h
    exact hx (Option.some.inj h)

/-! ### One byte; dots where there may be none -/
theorem spl_sep (c : UInt8) (r : List UInt8) : spl c (c :: r) = [] :: spl c r := by
  unfold spl
  rw [List.length_cons, splN_cons, if_pos rfl]
theorem spl_oth {c x : UInt8} (h : x ≠ c) (r : List UInt8) : spl c (x :: r) = onHead x (spl c r) := by
  unfold spl
  rw [List.length_cons, splN_cons, if_neg h, splN_ge c r (r.length + 1) r.length (by omega) (Nat.le_refl _)]
theorem onHead_append (x : UInt8) {u : List (List UInt8)} (v : List (List UInt8)) (h : u ≠ []) : onHead x (u ++ v) = onHead x u ++ v := by
  cases u with
  | nil => exact absurd rfl h
  | cons y u => rfl
theorem spl_append (c : UInt8) : ∀ (a b : List UInt8), spl c (a ++ c :: b) = spl c a ++ spl c b
  | [], b => by rw [List.nil_append, spl_sep]; rfl
  | x :: a, b => by
    rw [List.cons_append]
    by_cases h : x = c
    · rw [h, spl_sep, spl_sep, spl_append c a b]; rfl
    · rw [spl_oth h, spl_oth h, spl_append c a b, onHead_append x _ (show spl c a ≠ [] from splN_ne c a _)]
theorem not_right {l : List UInt8} (h : [] ∈ labsN l) : ¬ rightN l := fun hr => labOk_ne (hr.1 _ h) rfl
theorem dot_behind (l : List UInt8) : ¬ rightN (l ++ [46]) := by
  apply not_right
  unfold labsN
  rw [if_neg (by simp), spl_append 46 l []]
  exact List.mem_append_right _ (by rw [show spl 46 ([] : List UInt8) = [[]] from rfl]; simp)
theorem dot_ahead (l : List UInt8) : ¬ rightN (46 :: l) := by
  apply not_right
  unfold labsN
  rw [if_neg (by simp), spl_sep]
  simp
theorem dots_between (a b : List UInt8) : ¬ rightN (a ++ 46 :: 46 :: b) := by
  apply not_right
  unfold labsN
  rw [if_neg (by simp), spl_append, spl_sep]
  simp
theorem right_one (c : UInt8) : rightN [c] ↔ sign c := by
  by_cases h : c = 46
  · rw [h]; decide
  · have e : labsN [c] = [[c]] := by
      unfold labsN
      rw [if_neg (by simp), spl_oth h]
      rfl
    unfold rightN
    rw [e]
    constructor
    · rintro ⟨h1, _⟩
      exact (h1 [c] (by simp)).1 c (by simp)
    · intro hs
      refine ⟨fun x hx => ?_, (show 1 + 2 ≤ 255 by decide)⟩
      obtain rfl := List.mem_singleton.1 hx
      exact ⟨fun b hb => by obtain rfl := List.mem_singleton.1 hb; exact hs, by simp, by simp⟩
theorem one_read (c : UInt8) {l : List UInt8} (hl : l = [1, c, 0]) : readv l 3 0 = if sign (lowB c) then .ok [lowB c] 3 else .bad 12 0 := by
  have hn : l.length = 3 := by rw [hl]; rfl
  have hd : l.drop 0 = wireL [[c]] ++ 0 :: [] := hl
  by_cases hs : sign (lowB c)
  · rw [if_pos hs]
    exact read_wire (at_ := 0) hn (ys := [[c]]) (rest := []) (fun y hy => by
      obtain rfl := List.mem_singleton.1 hy
      exact ⟨fun b hb => by obtain rfl := List.mem_singleton.1 hb; exact hs, by simp [lowL], by simp [lowL]⟩) (show 1 + 2 ≤ 255 by decide) hd
  · rw [if_neg hs]
    unfold readv
    rw [if_neg (by omega), Int.toNat_zero]
    refine readS_end ?_
    unfold rstep
    dsimp only
    obtain ⟨hb, _, hd1⟩ := bat_head (show l.drop 0 = 1 :: c :: 0 :: [] from hl)
    have h1 : UInt8.toNat 1 = 1 := rfl
    rw [hb, h1, hd1, if_neg (by omega), if_neg (by omega), if_pos (by omega), if_neg (by omega), if_pos]
    rintro ⟨h2, _⟩
    exact hs (h2 (lowB c) (by simp [lowL]))
theorem lowB_cap {c : UInt8} (h : 65 ≤ c.toNat ∧ c.toNat ≤ 90) : lowB c = c + 32 ∧ sign (c + 32) := by
  have e : (c + 32).toNat = c.toNat + 32 := by
    rw [UInt8.toNat_add]
    show (c.toNat + 32) % 256 = _
    omega
  refine ⟨by unfold lowB; rw [if_pos h], ?_⟩
  unfold sign
  rw [e]
  omega
theorem lowB_not {c : UInt8} (h : ¬ (65 ≤ c.toNat ∧ c.toNat ≤ 90)) : lowB c = c := by unfold lowB; rw [if_neg h]
theorem head_right {s : List UInt8} {x : UInt8} (hx : sign x) (h60 : s.length ≤ 60) (hs : ∃ ls : List (List UInt8), s = joinD ls ∧ (∀ x ∈ ls, x ≠ [] ∧ ∀ c ∈ x, sign c)) : rightN (x :: s) := by
  obtain ⟨ls, rfl, hls⟩ := hs
  cases ls with
  | nil => exact (right_one x).2 hx
  | cons y r =>
    have e : x :: joinD (y :: r) = joinD ((x :: y) :: r) := by
      cases r with
      | nil => rfl
      | cons z r => rfl
    rw [e]
    refine join_right (fun z hz => ?_) (by rw [← e, List.length_cons]; omega)
    rcases List.mem_cons.1 hz with rfl | hz
    · refine ⟨by simp, fun c hc => ?_⟩
      rcases List.mem_cons.1 hc with rfl | hc
      · exact hx
      · exact (hls y (by simp)).2 c hc
    · exact hls z (List.mem_cons_of_mem _ hz)
/-- Each label is a name by itself. -/
theorem label_right {x : List UInt8} (h : labOk x) : rightN x ∧ labsN x = [x] := by
  have e : labsN x = [x] := labsN_joinD (ls := [x]) fun y hy => by obtain rfl := List.mem_singleton.1 hy; exact ⟨labOk_no h, labOk_ne h⟩
  refine ⟨⟨fun y hy => ?_, ?_⟩, e⟩
  · rw [e] at hy
    obtain rfl := List.mem_singleton.1 hy
    exact h
  · rw [e]
    have := h.2.2
    show 1 + (1 + x.length + 0) ≤ 255
    omega
end Go.Proofs.YthhfmjdknoplkaaGreatDoor
