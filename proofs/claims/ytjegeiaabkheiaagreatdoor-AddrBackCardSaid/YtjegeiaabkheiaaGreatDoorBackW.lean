/-
  stockadelaw04.AddrBack answers true, whatever is handed in: what is told as text is parsed; '==' of nets; the walk. Conditions: what the program's text has laid (Env); the text's length is an int.
-/
import Derived.Test.YtjegeiaabkheiaaGreatDoorTNet
import Derived.Test.YtjegeiaabkheiaaGreatDoorPNet
import Derived.Test.YtjegeiaabkheiaaGreatDoorMask
import Derived.Test.YtjegeiaabkheiaaGreatDoorEqA
import Derived.Test.YtjegeiaabkheiaaGreatDoorPlayNet
import Derived.Test.YtjegeiaabkheiaaGreatDoorAwake04
namespace Go.Proofs.YtjegeiaabkheiaaGreatDoor
open Go.RowKit
set_option maxRecDepth 100000

/-- Two signs never stand side by side, nor one at the end. -/
def nd : List UInt8 → Prop
  | [] => True
  | [b] => b ≠ 58
  | b :: b' :: r => (b ≠ 58 ∨ b' ≠ 58) ∧ nd (b' :: r)
theorem nd_plain : ∀ (p q : List UInt8), (58 : UInt8) ∉ p → nd q → nd (p ++ q)
  | [], q, _, hq => hq
  | b :: p, q, hp, hq => by
    have hb : b ≠ 58 := fun h => hp (by rw [h]; simp)
    have ih := nd_plain p q (fun h => hp (List.mem_cons_of_mem _ h)) hq
    rw [List.cons_append]
    cases h : p ++ q with
    | nil => exact hb
    | cons b' r => rw [h] at ih; exact ⟨.inl hb, ih⟩
theorem nd_sep {q : List UInt8} (hq : nd q) (hne : q ≠ []) (hh : q.head? ≠ some 58) : nd (58 :: q) := by
  cases q with
  | nil => exact absurd rfl hne
  | cons b r => exact ⟨.inr (fun h => hh (by rw [h]; rfl)), hq⟩
theorem tail_cons (c : UInt8) (y : List UInt8) (r : List (List UInt8)) : Lib.joinTail [c] (y :: r) = c :: (y ++ Lib.joinTail [c] r) := by simp [Lib.joinTail]
theorem tail_nil (c : UInt8) : Lib.joinTail [c] [] = [] := rfl
theorem nd_tail : ∀ (r : List (List UInt8)), (∀ p ∈ r, p ≠ [] ∧ (58 : UInt8) ∉ p) → nd (Lib.joinTail [58] r)
  | [], _ => trivial
  | y :: r, h => by
    have hy := h y (by simp)
    have ih := nd_tail r (fun p hp => h p (List.mem_cons_of_mem _ hp))
    rw [tail_cons]
    refine nd_sep (nd_plain y _ hy.2 ih) (by simp [hy.1]) ?_
    cases y with
    | nil => exact absurd rfl hy.1
    | cons b t => intro hb; exact hy.2 (by rw [← Option.some.inj hb]; simp)
theorem nd_join {ps : List (List UInt8)} (h : ∀ p ∈ ps, p ≠ [] ∧ (58 : UInt8) ∉ p) : nd (Lib.join ps [58]) := by
  cases ps with
  | nil => exact trivial
  | cons x r => rw [Lib.join_cons]; exact nd_plain x _ (h x (by simp)).2 (nd_tail r (fun p hp => h p (List.mem_cons_of_mem _ hp)))
theorem index_nd_none : ∀ (x : List UInt8), nd x → Lib.index x [58, 58] = -1
  | [], _ => rfl
  | [b], hb => by
    have hb : b ≠ 58 := hb
    show (if List.isPrefixOf [58, 58] [b] = true then (0 : Int) else if Lib.index [] [58, 58] == -1 then -1 else _) = -1
    rw [if_neg (by simp [List.isPrefixOf])]
    rfl
  | b :: b' :: r, h => by
    have ih := index_nd_none (b' :: r) h.2
    unfold Lib.index
    rw [if_neg (by simp only [List.isPrefixOf, Bool.and_true, Bool.and_eq_true, beq_iff_eq]; rintro ⟨rfl, rfl⟩; rcases h.1 with h | h <;> exact h rfl), ih]
    rfl
theorem index_nd : ∀ (x y : List UInt8), nd x → Lib.index (x ++ 58 :: 58 :: y) [58, 58] = x.length
  | [], y, _ => by show Lib.index (58 :: 58 :: y) [58, 58] = 0; unfold Lib.index; rw [if_pos (by simp [List.isPrefixOf])]
  | [b], y, hb => by
    have hb : b ≠ 58 := hb
    have ih := index_nd [] y trivial
    rw [List.nil_append] at ih
    show Lib.index (b :: 58 :: 58 :: y) [58, 58] = 1
    unfold Lib.index
    rw [if_neg (by simp only [List.isPrefixOf, Bool.and_true, Bool.and_eq_true, beq_iff_eq]; exact fun h => hb h.1.symm), ih]
    rfl
  | b :: b' :: r, y, h => by
    have ih := index_nd (b' :: r) y h.2
    show (if List.isPrefixOf [58, 58] (b :: b' :: (r ++ 58 :: 58 :: y)) = true then (0 : Int) else if Lib.index (b' :: r ++ 58 :: 58 :: y) [58, 58] == -1 then -1 else Lib.index (b' :: r ++ 58 :: 58 :: y) [58, 58] + 1) = _
    rw [if_neg (by simp only [List.isPrefixOf, Bool.and_true, Bool.and_eq_true, beq_iff_eq]; rintro ⟨rfl, rfl⟩; rcases h.1 with h | h <;> exact h rfl), ih, if_neg (by simp; omega)]
    simp
theorem cut_nd_none {x : List UInt8} (h : nd x) : Lib.cut x [58, 58] = (x, [], false) := by
  unfold Lib.cut; rw [index_nd_none x h, if_neg (by omega)]
theorem cut_nd {x y : List UInt8} (h : nd x) : Lib.cut (x ++ [58, 58] ++ y) [58, 58] = (x, y, true) := by
  have hi := index_nd x y h
  rw [show x ++ [58, 58] ++ y = x ++ 58 :: 58 :: y by simp]
  unfold Lib.cut
  rw [hi, if_pos (by omega), Int.toNat_natCast, List.take_left]
  rw [show x.length + ([58, 58] : List UInt8).length = x.length + 2 from rfl, ← List.drop_drop, List.drop_left]
  rfl
theorem index_sg (c : UInt8) : ∀ (x y : List UInt8), c ∉ x → Lib.index (x ++ c :: y) [c] = x.length
  | [], y, _ => by show Lib.index (c :: y) [c] = 0; unfold Lib.index; rw [if_pos (by simp [List.isPrefixOf])]
  | b :: x, y, h => by
    have ih := index_sg c x y (fun hm => h (List.mem_cons_of_mem _ hm))
    rw [List.cons_append]
    unfold Lib.index
    rw [if_neg (by simp only [List.isPrefixOf, Bool.and_true, beq_iff_eq]; rintro rfl; exact h (by simp)), ih, if_neg (by simp)]
    simp
theorem cut_one {c : UInt8} {x y : List UInt8} (h : c ∉ x) : Lib.cut (x ++ [c] ++ y) [c] = (x, y, true) := by
  have hi := index_sg c x y h
  rw [show x ++ [c] ++ y = x ++ c :: y by simp]
  unfold Lib.cut
  rw [hi, if_pos (by omega), Int.toNat_natCast, List.take_left, show x.length + [c].length = x.length + 1 from rfl, ← List.drop_drop, List.drop_left]
  rfl

theorem spl_plain (c : UInt8) : ∀ (x : List UInt8) (k : Nat), c ∉ x → splN c x k = [x]
  | x, 0, _ => splN_zero c x
  | [], k + 1, _ => rfl
  | b :: x, k + 1, h => by
    unfold splN
    rw [if_neg (by rintro rfl; exact h (by simp)), spl_plain c x (k + 1) (fun hm => h (List.mem_cons_of_mem _ hm))]
    rfl
theorem spl_cons (c : UInt8) : ∀ (x r : List UInt8) (k : Nat), c ∉ x → splN c (x ++ c :: r) (k + 1) = x :: splN c r k
  | [], r, k, _ => by show (if c = c then [] :: splN c r k else onHead c (splN c r (k + 1))) = _; rw [if_pos rfl]
  | b :: x, r, k, h => by
    show (if b = c then [] :: splN c (x ++ c :: r) k else onHead b (splN c (x ++ c :: r) (k + 1))) = _
    rw [if_neg (by rintro rfl; exact h (by simp)), spl_cons c x r k (fun hm => h (List.mem_cons_of_mem _ hm))]
    rfl
theorem spl_tail (c : UInt8) : ∀ (r : List (List UInt8)) (x : List UInt8) (k : Nat), (∀ p ∈ x :: r, c ∉ p) → r.length ≤ k → splN c (x ++ Lib.joinTail [c] r) k = x :: r
  | [], x, k, h, _ => by rw [tail_nil, List.append_nil]; exact spl_plain c x k (h x (by simp))
  | y :: r, x, 0, _, hk => by simp at hk
  | y :: r, x, k + 1, h, hk => by
    rw [tail_cons, spl_cons c x _ k (h x (by simp)), spl_tail c r y k (fun p hp => h p (List.mem_cons_of_mem _ hp)) (by simpa using hk)]
theorem spl_join {c : UInt8} {ps : List (List UInt8)} {k : Nat} (hne : ps ≠ []) (h : ∀ p ∈ ps, c ∉ p) (hk : ps.length ≤ k + 1) : splN c (Lib.join ps [c]) k = ps := by
  cases ps with
  | nil => exact absurd rfl hne
  | cons x r => rw [Lib.join_cons]; exact spl_tail c r x k h (by simpa using hk)
theorem allv_map {α : Type} {rd : List UInt8 → Option Nat} {f : α → List UInt8} {g : α → Nat} : ∀ (l : List α), (∀ a ∈ l, rd (f a) = some (g a)) → allv rd (l.map f) = some (l.map g)
  | [], _ => rfl
  | a :: l, h => by
    rw [List.map_cons, allv, h a (by simp), allv_map l (fun a ha => h a (List.mem_cons_of_mem _ ha))]
    rfl

/-- Numbers as digits, and back. -/
theorem octet_back : ∀ b : Fin 256, octetv (dec3 b.val) = some b.val ∧ (46 : UInt8) ∉ dec3 b.val ∧ (47 : UInt8) ∉ dec3 b.val := by decide +kernel
theorem dec_back : ∀ n : Fin 129, decv (dec3 n.val) = some n.val := by decide +kernel
theorem hd_dg : ∀ a : Fin 16, dg (hd a.val) = a.val ∧ hd a.val ≠ 58 ∧ hd a.val ≠ 46 ∧ hd a.val ≠ 47 := by decide +kernel
theorem hd_dg' {a : Nat} (h : a < 16) : dg (hd a) = a := (hd_dg ⟨a, h⟩).1
theorem group_back {v : Nat} (h : v < 65536) : groupv (hex4 v) = some v := by
  unfold groupv numv pu hex4
  split
  · rename_i h1
    simp only [List.length_cons, List.length_nil]
    rw [if_neg (by omega), if_neg (by simp)]
    simp only [puGo, hd_dg' h1, if_pos h1]
    simp
  · split
    · rename_i h1 h2
      simp only [List.length_cons, List.length_nil]
      rw [if_neg (by omega), if_neg (by simp)]
      simp only [puGo, hd_dg' (show v / 16 < 16 by omega), hd_dg' (show v % 16 < 16 by omega), if_pos (show v / 16 < 16 by omega), if_pos (show v % 16 < 16 by omega)]
      congr 1; omega
    · split
      · rename_i h1 h2 h3
        simp only [List.length_cons, List.length_nil]
        rw [if_neg (by omega), if_neg (by simp)]
        simp only [puGo, hd_dg' (show v / 256 < 16 by omega), hd_dg' (show v / 16 % 16 < 16 by omega), hd_dg' (show v % 16 < 16 by omega), if_pos (show v / 256 < 16 by omega), if_pos (show v / 16 % 16 < 16 by omega), if_pos (show v % 16 < 16 by omega)]
        congr 1; omega
      · rename_i h1 h2 h3
        simp only [List.length_cons, List.length_nil]
        rw [if_neg (by omega), if_neg (by simp)]
        simp only [puGo, hd_dg' (show v / 4096 < 16 by omega), hd_dg' (show v / 256 % 16 < 16 by omega), hd_dg' (show v / 16 % 16 < 16 by omega), hd_dg' (show v % 16 < 16 by omega), if_pos (show v / 4096 < 16 by omega), if_pos (show v / 256 % 16 < 16 by omega), if_pos (show v / 16 % 16 < 16 by omega), if_pos (show v % 16 < 16 by omega)]
        congr 1; omega
theorem hex_no {v : Nat} (h : v < 65536) {c : UInt8} (hc : c = 58 ∨ c = 46 ∨ c = 47) : c ∉ hex4 v := by
  have hno : ∀ a, a < 16 → hd a ≠ c := fun a ha => by
    have := (hd_dg ⟨a, ha⟩).2
    rcases hc with rfl | rfl | rfl
    · exact this.1
    · exact this.2.1
    · exact this.2.2
  unfold hex4
  split
  · rename_i h1; simp only [List.mem_singleton]; exact fun e => hno _ h1 e.symm
  · split
    · simp only [List.mem_cons, List.not_mem_nil, or_false]
      rintro (e | e) <;> exact hno _ (by omega) e.symm
    · split
      · simp only [List.mem_cons, List.not_mem_nil, or_false]
        rintro (e | e | e) <;> exact hno _ (by omega) e.symm
      · simp only [List.mem_cons, List.not_mem_nil, or_false]
        rintro (e | e | e | e) <;> exact hno _ (by omega) e.symm
theorem hex_ne (v : Nat) : hex4 v ≠ [] := by
  unfold hex4
  split
  · simp
  · split
    · simp
    · split <;> simp


/-- Where the longest run is, all are noughts. -/
theorem lst_zero (zs : List Bool) : ∀ k, (∀ i, (lst zs k).1 ≤ i → i < k → zs.getD i false = true) ∧ (∀ i, (lst zs k).2.1 ≤ i → i < (lst zs k).2.2 → zs.getD i false = true)
  | 0 => ⟨fun i _ h => absurd h (by omega), fun i _ h => absurd h (Nat.not_lt_zero i)⟩
  | k + 1 => by
    obtain ⟨h1, h2⟩ := lst_zero zs k
    have hst : ∀ i, (if zs.getD k false then (lst zs k).1 else k + 1) ≤ i → i < k + 1 → zs.getD i false = true := by
      intro i hi hk
      cases hz : zs.getD k false with
      | true =>
        rw [hz, if_pos rfl] at hi
        by_cases hik : i = k
        · rw [hik]; exact hz
        · exact h1 i hi (by omega)
      | false =>
        rw [hz] at hi
        have hi : k + 1 ≤ i := hi
        omega
    show (∀ i, (lstep (lst zs k) k (zs.getD k false)).1 ≤ i → i < k + 1 → zs.getD i false = true) ∧ (∀ i, (lstep (lst zs k) k (zs.getD k false)).2.1 ≤ i → i < (lstep (lst zs k) k (zs.getD k false)).2.2 → zs.getD i false = true)
    unfold lstep
    generalize (if zs.getD k false = true then (lst zs k).1 else k + 1) = st at hst ⊢
    split
    · exact ⟨hst, hst⟩
    · exact ⟨hst, h2⟩

def vals6 (bs : List UInt8) : List Nat := (List.range 8).map (grp bs)
theorem vals6_len (bs : List UInt8) : (vals6 bs).length = 8 := by simp [vals6]
theorem vals6_lt (bs : List UInt8) : ∀ v ∈ vals6 bs, v < 65536 := fun v hv => by
  obtain ⟨i, _, rfl⟩ := List.mem_map.1 hv
  exact grp_lt bs i
theorem w6_vals (bs : List UInt8) : w6 bs = (vals6 bs).map hex4 := by unfold w6 vals6; rw [List.map_map]; rfl
theorem byte_hi (a b : UInt8) : UInt8.ofNat ((a.toNat * 256 + b.toNat) / 256) = a := by
  have := b.toNat_lt
  rw [show (a.toNat * 256 + b.toNat) / 256 = a.toNat by omega, UInt8.ofNat_toNat]
theorem byte_lo (a b : UInt8) : UInt8.ofNat ((a.toNat * 256 + b.toNat) % 256) = b := by
  have := b.toNat_lt
  rw [show (a.toNat * 256 + b.toNat) % 256 = b.toNat by omega, UInt8.ofNat_toNat]
theorem g2_vals {bs : List UInt8} (h : bs.length = 16) : g2 (vals6 bs) = bs := by
  obtain ⟨a0, a1, a2, a3, a4, a5, a6, a7, a8, a9, a10, a11, a12, a13, a14, a15, rfl⟩ := explicit16 h
  show g2 [a0.toNat * 256 + a1.toNat, a2.toNat * 256 + a3.toNat, a4.toNat * 256 + a5.toNat, a6.toNat * 256 + a7.toNat, a8.toNat * 256 + a9.toNat, a10.toNat * 256 + a11.toNat, a12.toNat * 256 + a13.toNat, a14.toNat * 256 + a15.toNat] = _
  simp only [g2, List.flatMap_cons, List.flatMap_nil, byte_hi, byte_lo, List.cons_append, List.nil_append]
theorem hex_parts {l : List Nat} (h : ∀ v ∈ l, v < 65536) : ∀ p ∈ l.map hex4, p ≠ [] ∧ (58 : UInt8) ∉ p := fun p hp => by
  obtain ⟨v, hv, rfl⟩ := List.mem_map.1 hp
  exact ⟨hex_ne v, hex_no (h v hv) (.inl rfl)⟩
theorem groups_text {l : List Nat} (h : ∀ v ∈ l, v < 65536) (h8 : l.length ≤ 8) : groupsv (Lib.join (l.map hex4) [58]) = some l := by
  unfold groupsv
  cases l with
  | nil => rw [if_pos (show Lib.join (List.map hex4 []) [58] = [] from rfl)]
  | cons v l =>
    have hne : Lib.join ((v :: l).map hex4) [58] ≠ [] := by
      rw [List.map_cons, Lib.join_cons]
      have := hex_ne v
      simp [this]
    rw [if_neg hne, spl_join (by simp) (fun p hp => (hex_parts h p hp).2) (by rw [List.length_map]; exact h8), allv_map (g := fun v => v) _ (fun a ha => group_back (h a ha)), List.map_id']
theorem zero_of {v : Nat} (h : v < 65536) (hz : hex4 v = [48]) : v = 0 := by
  have h1 := group_back h
  rw [hz] at h1
  have h2 : groupv [48] = some 0 := by decide +kernel
  rw [h2] at h1
  exact (Option.some.inj h1).symm
theorem six_text {bs : List UInt8} (h : bs.length = 16) : six (text6f bs) = some bs := by
  have hlt := vals6_lt bs
  have hl8 := vals6_len bs
  have hz6 : (z6 bs).length = 8 := by unfold z6; rw [List.length_map, w6_vals, List.length_map, hl8]
  have hok := lst_ok (z6 bs) (z6 bs).length
  have hzr := (lst_zero (z6 bs) (z6 bs).length).2
  rw [hz6] at hok
  have hlong : longestv (z6 bs) = (lst (z6 bs) (z6 bs).length).2 := rfl
  rw [← hlong] at hzr
  rw [hz6] at hlong
  rw [← hlong] at hok
  unfold text6f
  generalize longestv (z6 bs) = ab at hok hzr ⊢
  obtain ⟨a, b⟩ := ab
  simp only at hok hzr ⊢
  rw [w6_vals]
  by_cases hab : a = b
  · rw [if_pos hab]
    unfold six
    rw [cut_nd_none (nd_join (hex_parts hlt))]
    simp only [groups_text hlt (by omega), Option.bind_some]
    rw [show groupsv [] = some [] from rfl]
    simp only [Option.bind_some, List.length_nil, Nat.add_zero, hl8]
    rw [if_pos (by decide)]
    simp [g2_vals h]
  · rw [if_neg hab, ← List.map_take, ← List.map_drop]
    have ht : ∀ v ∈ (vals6 bs).take a, v < 65536 := fun v hv => hlt v (List.mem_of_mem_take hv)
    have hd' : ∀ v ∈ (vals6 bs).drop b, v < 65536 := fun v hv => hlt v (List.mem_of_mem_drop hv)
    have hta : ((vals6 bs).take a).length = a := by rw [List.length_take]; omega
    have hdb : ((vals6 bs).drop b).length = 8 - b := by rw [List.length_drop, hl8]
    unfold six
    rw [cut_nd (nd_join (hex_parts ht))]
    simp only [groups_text ht (by omega), groups_text hd' (by omega), Option.bind_some, hta, hdb]
    rw [if_pos ⟨by omega, by symm; simp; omega⟩]
    have hmid : List.replicate (8 - a - (8 - b)) 0 = ((vals6 bs).drop a).take (b - a) := by
      apply List.ext_getElem?
      intro i
      rw [List.getElem?_replicate, List.getElem?_take, List.getElem?_drop]
      by_cases hi : i < b - a
      · rw [if_pos (by omega), if_pos hi]
        have hz := hzr (a + i) (by omega) (by omega)
        have hv : (vals6 bs)[a + i]? = some (grp bs (a + i)) := by
          unfold vals6
          rw [List.getElem?_map, List.getElem?_range (by omega)]
          rfl
        have hw : (z6 bs).getD (a + i) false = decide (hex4 (grp bs (a + i)) = [48]) := by
          unfold z6
          rw [w6_vals]
          simp only [List.getD, List.getElem?_map, hv]
          rfl
        rw [hw] at hz
        rw [hv, zero_of (grp_lt bs _) (of_decide_eq_true hz)]
      · rw [if_neg (by omega), if_neg hi]
    have hsplit : (vals6 bs).take a ++ ((vals6 bs).drop a).take (b - a) ++ (vals6 bs).drop b = vals6 bs := by
      have h1 : ((vals6 bs).drop a).drop (b - a) = (vals6 bs).drop b := by rw [List.drop_drop]; congr 1; omega
      rw [List.append_assoc, ← h1, List.take_append_drop, List.take_append_drop]
    rw [hmid, hsplit, g2_vals h]

theorem mem_tail {c s : UInt8} : ∀ {r : List (List UInt8)}, c ∈ Lib.joinTail [s] r → c = s ∨ ∃ p ∈ r, c ∈ p
  | [], h => by rw [tail_nil] at h; cases h
  | y :: r, h => by
    rw [tail_cons] at h
    rcases List.mem_cons.1 h with h | h
    · exact .inl h
    · rcases List.mem_append.1 h with h | h
      · exact .inr ⟨y, by simp, h⟩
      · rcases mem_tail h with h | ⟨p, hp, hc⟩
        · exact .inl h
        · exact .inr ⟨p, List.mem_cons_of_mem _ hp, hc⟩
theorem mem_join {c s : UInt8} {ps : List (List UInt8)} (h : c ∈ Lib.join ps [s]) : c = s ∨ ∃ p ∈ ps, c ∈ p := by
  cases ps with
  | nil => cases h
  | cons x r =>
    rw [Lib.join_cons] at h
    rcases List.mem_append.1 h with h | h
    · exact .inr ⟨x, by simp, h⟩
    · rcases mem_tail h with h | ⟨p, hp, hc⟩
      · exact .inl h
      · exact .inr ⟨p, List.mem_cons_of_mem _ hp, hc⟩
theorem not_join {c : UInt8} {l : List Nat} (h : ∀ v ∈ l, v < 65536) (hc : c = 46 ∨ c = 47) : c ∉ Lib.join (l.map hex4) [58] := fun hm => by
  rcases mem_join hm with h1 | ⟨p, hp, hcp⟩
  · rcases hc with rfl | rfl <;> exact absurd h1 (by decide)
  · obtain ⟨v, hv, rfl⟩ := List.mem_map.1 hp
    exact hex_no (h v hv) (.inr hc) hcp
theorem not_text6 (bs : List UInt8) {c : UInt8} (hc : c = 46 ∨ c = 47) : c ∉ text6f bs := by
  have hlt := vals6_lt bs
  unfold text6f
  rw [w6_vals]
  split
  · exact not_join hlt hc
  · rw [← List.map_take, ← List.map_drop]
    intro hm
    rcases List.mem_append.1 hm with hm | hm
    · rcases List.mem_append.1 hm with hm | hm
      · exact not_join (fun v hv => hlt v (List.mem_of_mem_take hv)) hc hm
      · have h58 : c = 58 := by simpa using hm
        rcases hc with rfl | rfl <;> exact absurd h58 (by decide)
    · exact not_join (fun v hv => hlt v (List.mem_of_mem_drop hv)) hc hm
def parts4 (bs : List UInt8) : List (List UInt8) := (bs.take 4).map fun b => dec3 b.toNat
theorem octet_of (b : UInt8) : octetv (dec3 b.toNat) = some b.toNat ∧ (46 : UInt8) ∉ dec3 b.toNat ∧ (47 : UInt8) ∉ dec3 b.toNat := octet_back ⟨b.toNat, b.toNat_lt⟩
theorem four_text {bs : List UInt8} (h : bs.length = 16) (hr : rightv false bs = true) : four (Lib.join (parts4 bs) [46]) = some (some bs) := by
  have hl : (parts4 bs).length = 4 := by simp [parts4, h]
  have hs : splN 46 (Lib.join (parts4 bs) [46]) 3 = parts4 bs := spl_join (by intro e; rw [e] at hl; cases hl) (fun p hp => by
    obtain ⟨b, _, rfl⟩ := List.mem_map.1 hp
    exact (octet_of b).2.1) (by omega)
  unfold four
  rw [hs, if_pos hl]
  unfold parts4
  rw [allv_map (g := fun b : UInt8 => b.toNat) _ (fun b _ => (octet_of b).1)]
  show some (some (ab4 ((bs.take 4).map fun b => b.toNat))) = _
  have hb : bs = bs.take 4 ++ List.replicate 12 0 := by
    unfold rightv at hr
    have h1 := eq_of_beq hr
    rw [← norm_first false h] at h1
    exact h1
  congr 2
  unfold ab4
  rw [List.map_map, List.length_map, List.length_take, h]
  conv => rhs; rw [hb]
  congr 1
  have : (UInt8.ofNat ∘ fun b : UInt8 => b.toNat) = id := by funext b; simp
  rw [this, List.map_id]
theorem parse_text {v6 : Bool} {bs : List UInt8} (h : bs.length = 16) (hr : rightv v6 bs = true) : parsev (textv v6 bs) = some (v6, bs) := by
  rw [textv_f]
  unfold textf
  rw [if_pos hr]
  cases v6 with
  | false =>
    rw [if_neg (by simp)]
    unfold parsev
    rw [show ((bs.take 4).map fun b => dec3 b.toNat) = parts4 bs from rfl, four_text h hr]
  | true =>
    rw [if_pos rfl]
    unfold parsev
    have h4 : four (text6f bs) = none := by
      unfold four
      rw [spl_plain 46 _ 3 (not_text6 bs (.inl rfl)), if_neg (by simp)]
    rw [h4, six_text h]
    rfl
theorem parse_right {l : List UInt8} {v6 : Bool} {bs : List UInt8} (hl : bs.length = 16) (h : parsev l = some (v6, bs)) : rightv v6 bs = true := by
  cases v6 with
  | true =>
    unfold rightv
    rw [show wid true = 128 from rfl, firstv_all (by omega), beq_self_eq_true]
  | false =>
    unfold parsev at h
    split at h
    · rename_i bs' h4
      have hbs : bs' = bs := by simpa using h
      subst hbs
      unfold four at h4
      split at h4
      · rename_i hlen
        obtain ⟨ns, hns, rfl⟩ : ∃ ns, allv octetv (splN 46 l 3) = some ns ∧ ab4 ns = bs' := by
          cases hn : allv octetv (splN 46 l 3) with
          | none => rw [hn] at h4; simp at h4
          | some ns => rw [hn] at h4; exact ⟨ns, rfl, by simpa using h4⟩
        have hn4 : ns.length = 4 := by rw [allv_length hns]; exact hlen
        unfold rightv
        rw [show wid false = 32 from rfl, show firstv (ab4 ns) 32 = norm false (ab4 ns) from (norm_first false hl).symm]
        have : norm false (ab4 ns) = ab4 ns := by
          show (ab4 ns).take 4 ++ List.replicate 12 0 = ab4 ns
          unfold ab4
          rw [List.take_left' (by rw [List.length_map, hn4]), hn4]
        rw [this, beq_self_eq_true]
      · cases h4
    · cases h
    · cases h6 : six l with
      | none => rw [h6] at h; cases h
      | some x => rw [h6] at h; simp at h
theorem not_text {v6 : Bool} {bs : List UInt8} : (47 : UInt8) ∉ textv v6 bs := by
  rw [textv_f]
  unfold textf
  split
  · split
    · exact not_text6 bs (.inr rfl)
    · intro hm
      rcases mem_join hm with h1 | ⟨p, hp, hcp⟩
      · exact absurd h1 (by decide)
      · obtain ⟨b, _, rfl⟩ := List.mem_map.1 hp
        exact (octet_of b).2.2 hcp
  · simp
theorem net_text {v6 : Bool} {bs : List UInt8} {n : Nat} (h : bs.length = 16) (hr : rightnetv v6 bs n = true) : parsenetv (textnetv v6 bs n) = some (v6, bs, n) := by
  have hr' := hr
  unfold rightnetv at hr'
  simp only [Bool.and_eq_true, decide_eq_true_eq] at hr'
  obtain ⟨⟨⟨h1, _⟩, h3⟩, _⟩ := hr'
  have hn : n < 129 := by have := wid_le v6; omega
  unfold textnetv
  rw [if_pos hr, Int.toNat_natCast]
  unfold parsenetv
  rw [cut_one not_text, dec3_eq (by omega)]
  simp only [parse_text h h1, Option.bind_some]
  have hd : decv (dec3 n) = some n := dec_back ⟨n, hn⟩
  rw [hd]
  simp only [Option.bind_some]
  rw [if_pos hr]


theorem part_ad (v : Bool) {a : List UInt8} (ha : a.length = 16) (n : Int) (w : World) : (part 24 (pxv v a n) 0).run Tryz.prog w = .ok (.agg (adv v a)) w := by
  obtain ⟨_, _, _, _, _, _, _, _, _, _, _, _, _, _, _, _, rfl⟩ := explicit16 ha
  kernel_rfl
theorem part_n (v : Bool) {a : List UInt8} (ha : a.length = 16) (n : Int) (w : World) : (part 3 (pxv v a n) 17).run Tryz.prog w = .ok (.int .i64 n) w := by
  obtain ⟨_, _, _, _, _, _, _, _, _, _, _, _, _, _, _, _, rfl⟩ := explicit16 ha
  kernel_rfl
theorem fields_px : ∃ f g : Field, (Tryz.prog.fieldsOf 26).toList = [f, g] ∧ (f.name ≠ "_") ∧ (g.name ≠ "_") ∧ f.type = 24 ∧ f.offset = 0 ∧ g.type = 3 ∧ g.offset = 17 := by
  refine ⟨(Tryz.prog.fieldsOf 26).toList.head!, (Tryz.prog.fieldsOf 26).toList.tail.head!, by kernel_rfl, ?_, ?_, by kernel_rfl, by kernel_rfl, by kernel_rfl, by kernel_rfl⟩
  · exact of_decide_eq_true (by kernel_rfl)
  · exact of_decide_eq_true (by kernel_rfl)
theorem eqIn_px (d : Nat) (v u : Bool) {a b : List UInt8} (ha : a.length = 16) (hb : b.length = 16) (n m : Int) (w : World) : (Op.equalIn (d + 4) 26 (.agg (pxv v a n)) (.agg (pxv u b m))).run Tryz.prog w = .ok ((v == u) && (a == b) && (n == m)) w := by
  rw [run_equalIn_struct w (d + 3) 26 _ _ (by kernel_rfl) (by kernel_rfl)]
  obtain ⟨f, g, hf, h1, h2, h3, h4, h5, h6⟩ := fields_px
  rw [hf]
  have e1 := eqIn_ad d v u ha hb w
  have e2 : (Op.equalIn (d + 3) 3 (.int .i64 n) (.int .i64 m)).run Tryz.prog w = .ok (n == m) w := by
    simp [Op.equalIn, run_underlying Tryz.underlying3]
  simp only [Op.eqFields, if_pos h1, if_pos h2, h3, h4, h5, h6, Sem.run_bind, part_ad v ha, part_ad u hb, part_n v ha, part_n u hb, e1, e2, Result.andThen_ok, Sem.run_ite, Sem.run_pure]
  cases ((v == u) && (a == b)) <;> cases (n == m) <;> rfl
theorem eql_px (v u : Bool) {a b : List UInt8} (ha : a.length = 16) (hb : b.length = 16) (n m : Int) (w : World) : (binOp .eql 26 (.agg (pxv v a n)) (.agg (pxv u b m))).run Tryz.prog w = .ok (.bool ((v == u) && (a == b) && (n == m))) w := by
  rw [run_eql_struct]
  have h := eqIn_px 9996 v u ha hb n m w
  rw [show (10000 : Nat) = 9996 + 4 from rfl] at *
  simp only [h]
  rfl

theorem wp_load_ad {o : Oper} {a : Act} {w : World} {K : Act → World → Prop} {Q : Exit → Act → World → Prop} (x : Operand) (ho : o.op = .load 24 x) {g : Nat} {v6 : Bool} {bs : List UInt8} (hx : a.eval x = .pointer (some ⟨g, 0, none⟩)) (hA : AdBox w g v6 bs)
    (h : K (a.put o.dst (.agg (adv v6 bs))) w) : o.wp Tryz.prog a w K Q :=
  wp_load_mid (P := Tryz.prog) 24 x ho g 0 hx (adv v6 bs).toList _ hA.range Tryz.underlying24 rfl (by simpa using ad_size v6 hA.2) (by simpa using h)
theorem wp_load_px {o : Oper} {a : Act} {w : World} {K : Act → World → Prop} {Q : Exit → Act → World → Prop} (x : Operand) (ho : o.op = .load 26 x) {g : Nat} {v6 : Bool} {bs : List UInt8} {n : Int} (hx : a.eval x = .pointer (some ⟨g, 0, none⟩)) (hA : PxBox w g v6 bs n)
    (h : K (a.put o.dst (.agg (pxv v6 bs n))) w) : o.wp Tryz.prog a w K Q :=
  wp_load_mid (P := Tryz.prog) 26 x ho g 0 hx (pxv v6 bs n).toList _ hA.range Tryz.underlying26 rfl (by simpa using px_size v6 n hA.2) (by simpa using h)
theorem wp_store_ad2 {o : Oper} {a : Act} {w : World} {K : Act → World → Prop} {Q : Exit → Act → World → Prop} (x y : Operand) (ho : o.op = .store 24 x y) {g : Nat} {v6 v0 : Bool} {bs b0 : List UInt8}
    (hx : a.eval x = .pointer (some ⟨g, 0, none⟩)) (hy : a.eval y = .agg (adv v6 bs)) (hl : bs.length = 16) (hA : AdBox w g v0 b0)
    (h : ∀ w', AdBox w' g v6 bs → (∀ k, k ≠ g → w'.heap[k]? = w.heap[k]?) → (∀ B w0, B ≤ g → Below B w0 w → Below B w0 w') → K (a.put o.dst undef) w') : o.wp Tryz.prog a w K Q :=
  wp_store_row 24 x y ho g (adv v6 bs) hx hy 24 _ hA.1 (ad_size v6 hl) (by rw [adv_size v0 hA.2, adv_size v6 hl]) (adv_one v6 bs)
    (h _ ⟨setRow_heap w g _ _ _ _ hA.1, hl⟩ (fun k hk => setRow_other w g k _ hk) (fun B w0 hB hb => below_setRow hb hB _))
theorem wp_store_px {o : Oper} {a : Act} {w : World} {K : Act → World → Prop} {Q : Exit → Act → World → Prop} (x y : Operand) (ho : o.op = .store 26 x y) {g : Nat} {v6 v0 : Bool} {bs b0 : List UInt8} {n n0 : Int}
    (hx : a.eval x = .pointer (some ⟨g, 0, none⟩)) (hy : a.eval y = .agg (pxv v6 bs n)) (hl : bs.length = 16) (hA : PxBox w g v0 b0 n0)
    (h : ∀ w', PxBox w' g v6 bs n → (∀ k, k ≠ g → w'.heap[k]? = w.heap[k]?) → (∀ B w0, B ≤ g → Below B w0 w → Below B w0 w') → K (a.put o.dst undef) w') : o.wp Tryz.prog a w K Q :=
  wp_store_row 26 x y ho g (pxv v6 bs n) hx hy 26 _ hA.1 (px_size v6 n hl) (by rw [pxv_size v0 n0 hA.2, pxv_size v6 n hl]) (pxv_one v6 bs n)
    (h _ ⟨setRow_heap w g _ _ _ _ hA.1, hl⟩ (fun k hk => setRow_other w g k _ hk) (fun B w0 hB hb => below_setRow hb hB _))

theorem right_first' (v6 : Bool) (bs : List UInt8) {n : Nat} (hn : n ≤ wid v6) : rightv v6 (firstv bs n) = true := by
  unfold rightv
  rw [first_fix hn, beq_self_eq_true]
theorem rightnet_first' (v6 : Bool) (bs : List UInt8) {n : Nat} (hn : n ≤ wid v6) : rightnetv v6 (firstv bs n) n = true := by
  unfold rightnetv
  rw [right_first' v6 bs hn, Int.toNat_natCast, first_fix (Nat.le_refl _), beq_self_eq_true, decide_eq_true (by omega), decide_eq_true (by omega)]
  rfl

/-- What Parse answers, whatever the text: an address that is right, and an error or none. -/
theorem Pa.form {r : Option (Bool × List UInt8)} {w w' : World} {e : Ending} (h : Pa r w e w') (hr : ∀ v6 bs, bs.length = 16 → r = some (v6, bs) → rightv v6 bs = true) : ∃ (v6 : Bool) (bs : List UInt8) (er : Value), e = .returned (.tuple #[.agg (adv v6 bs), er]) ∧ bs.length = 16 ∧ rightv v6 bs = true ∧ Below w.heap.size w w' ∧ (er = .nilIface ∨ er = .iface 32 (.int .i64 17)) := by
  obtain ⟨hb, h⟩ := h
  cases r with
  | some x =>
    obtain ⟨v6, bs⟩ := x
    exact ⟨v6, bs, _, h.2, h.1, hr v6 bs h.1 rfl, hb, .inl rfl⟩
  | none => exact ⟨false, _, _, h, rfl, by decide +kernel, hb, .inr rfl⟩


set_option maxHeartbeats 16000000 in
theorem addrBack {av pv : Bool} {xs ps : List UInt8} (ha : xs.length = 16) (hp : ps.length = 16) (n : Int) (s : ByteArray) (hs : s.size < 9223372036854775808) {w : World} (hE : Env w) : Calls Tryz.prog 4 #[.agg (adv av xs), .agg (pxv pv ps n), .string s] w fun e w' => e = .returned (.bool true) ∧ Below w.heap.size w w' := by
  have HE := Lib.hid hE
  have A1 := Lib.hid ((AdBox.new w av ha).later ((Below.refl _ _).alloc (Nat.le_refl _) (.cells (pxv pv ps n) 26)) (Nat.le_refl _))
  have P1 := PxBox.new (w.alloc (.cells (adv av xs) 24)) pv n hp
  rw [World.size_alloc] at P1
  have P1 := Lib.hid P1
  have B1 := Lib.hid (((Below.refl w.heap.size w).alloc (Nat.le_refl _) (.cells (adv av xs) 24)).alloc (by simp) (.cells (pxv pv ps n) 26))
  clear hE
  by_cases hbig : 200 < s.size
  · have hq : (200 : Int) < (s.size : Int) := by omega
    go_enter Tryz.func4, Tryz.ntmps4
    go_wp2_with fail
    refine (awake04 (HE.out.later B1.out (Nat.le_refl _))).mono ?_
    rintro e w1 ⟨rfl, b1⟩
    have H1 := Lib.hid (B1.out.trans (b1.mono B1.out.size))
    clear b1
    go_wp2_with fail
    go_ret
    exact ⟨rfl, H1.out⟩
  have hq : ¬ (200 : Int) < (s.size : Int) := by omega
  go_enter Tryz.func4, Tryz.ntmps4
  go_wp2_with fail
  generalize hW : (w.alloc (.cells (adv av xs) 24)).alloc (.cells (pxv pv ps n) 26) = W at A1 P1 B1 ⊢
  clear hW
  refine rg_cut (fun a' w' => ∃ m : Nat, m ≤ wid pv ∧ a' = { tmps := #[.agg (adv av xs), .agg (pxv pv ps n), .string s, .pointer (some ⟨w.heap.size, 0, none⟩), .pointer (some ⟨w.heap.size + 1, 0, none⟩), undef, .bool false, undef, undef, undef, undef, undef, undef, undef, undef, .string s, .int .i64 s.size, .bool false, undef, .agg (adv av xs), .pointer (some ⟨w.heap.size, 0, none⟩), .bool av, .agg (adv av (norm av xs)), .agg (pxv pv ps n), .agg (pxv pv (firstv ps m) m), undef, undef, undef, undef, undef, undef, undef, undef, undef, undef, undef, undef, undef, undef, undef, undef, undef, undef, undef, undef, undef, undef, undef, undef, undef, undef, undef, undef, undef, undef, undef, undef, undef, undef, undef, undef, undef, undef, undef, undef, undef, undef, undef, undef, undef, undef, undef, undef, undef, undef, undef, undef, undef, undef, undef], defers := [] } ∧ AdBox w' w.heap.size av (norm av xs) ∧ PxBox w' (w.heap.size + 1) pv (firstv ps m) m ∧ Below w.heap.size w w') ?_ ?_
  · have hS : Below w.heap.size w W.drew := B1.out.drew
    have A : AdBox W.drew w.heap.size av xs := A1.out.later (Below.refl _ _).drew (Nat.le_refl _)
    have P : PxBox W.drew (w.heap.size + 1) pv ps n := P1.out.later (Below.refl _ _).drew (Nat.le_refl _)
    refine rg_begin (fun w' => Below w.heap.size w w') 8 (by kernel_rfl) rfl ?_
    refine rg_take 1 (v := ?rv1) rfl (by kernel_rfl) (by kernel_rfl) (by kernel_rfl) (fun _ _ _ h => h) (by rfl) hS (fun w2 hw2 => ?ry1) ?rr1
    case ry1 => ((try dsimp only at hw2); go_simp <;> with_reducible rfl)
    simp only [Act.put, List.setIfInBounds_toArray, List.set_cons_zero, List.set_cons_succ]
    obtain ⟨W0, hW0⟩ : ∃ W0, W.drew = W0 := ⟨_, rfl⟩
    rw [hW0] at hS A P ⊢
    clear hW0
    refine rg_any [0, 2, 4] (by kernel_rfl) (by simp) ?_
    refine rg_or 0 rfl (by rfl) (fun K hK => ?_) ?_
    · refine wp_load_ad (.tmp 3) rfl rfl A ?_
      refine hK.out _ _ hS ?_
      clear hK K
      try simp only [Act.put, List.setIfInBounds_toArray, List.set_cons_zero, List.set_cons_succ]
      refine rg_any [2, 4] (by kernel_rfl) (by simp) ?_
      refine rg_or 2 rfl (by rfl) (fun K hK => ?_) ?_
      · have cA := A.v6_cell
        go_simp
        clear cA
        refine hK.out _ _ hS ?_
        clear hK K
        try simp only [Act.put, List.setIfInBounds_toArray, List.set_cons_zero, List.set_cons_succ]
        refine rg_any [3, 4] (by kernel_rfl) (by simp) ?_
        refine rg_or 3 rfl (by rfl) (fun K hK => ?_) ?_
        · go_simp
          refine (play_addr av av xs ha _).mono ?_
          rintro e u3 ⟨rfl, bK⟩
          replace A := A.later bK (Nat.le_refl _)
          replace P := P.later bK (Nat.le_refl _)
          replace hS := hS.trans (bK.mono hS.size)
          clear bK
          refine hK.out _ _ hS ?_
          clear hK K
          try simp only [Act.put, List.setIfInBounds_toArray, List.set_cons_zero, List.set_cons_succ]
          refine rg_step 4 rfl (by kernel_rfl) (by rfl) (fun K hK => ?_)
          refine wp_load_px (.tmp 4) rfl rfl P ?_
          refine hK.out _ _ hS ?_
          clear hK K
          try simp only [Act.put, List.setIfInBounds_toArray, List.set_cons_zero, List.set_cons_succ]
          refine rg_step 5 rfl (by kernel_rfl) (by rfl) (fun K hK => ?_)
          go_simp
          refine (play_net pv ps hp n _).mono ?_
          rintro e u5 ⟨m, hm, rfl, bK⟩
          replace A := A.later bK (Nat.le_refl _)
          replace P := P.later bK (Nat.le_refl _)
          replace hS := hS.trans (bK.mono hS.size)
          clear bK
          refine hK.out _ _ hS ?_
          clear hK K
          try simp only [Act.put, List.setIfInBounds_toArray, List.set_cons_zero, List.set_cons_succ]
          refine rg_step 6 rfl (by kernel_rfl) (by rfl) (fun K hK => ?_)
          refine wp_store_ad2 (.tmp 3) (.tmp 22) rfl rfl rfl (norm_len av ha) A ?_
          intro u6 A2 far keep
          replace P := P.same (far _ (Nat.ne_of_gt (Nat.lt_succ_self _)))
          replace hS := keep _ _ (Nat.le_refl _) hS
          clear A far keep
          have A := A2
          clear A2
          refine hK.out _ _ hS ?_
          clear hK K
          try simp only [Act.put]
          refine rg_step 7 rfl (by kernel_rfl) (by rfl) (fun K hK => ?_)
          refine wp_store_px (.tmp 4) (.tmp 24) rfl rfl rfl (by rw [firstv_len, hp]) P ?_
          intro u7 P2 far keep
          replace A := A.same (far _ (Nat.ne_of_lt (Nat.lt_succ_self _)))
          replace hS := keep _ _ (Nat.le_succ _) hS
          clear P far keep
          have P := P2
          clear P2
          refine hK.out _ _ hS ?_
          clear hK K
          try simp only [Act.put]
          refine rg_done (by kernel_rfl) ?_
          exact ⟨m, hm, rfl, A, P, hS⟩
        refine rg_or 4 rfl (by rfl) (fun K hK => ?_) AllReadyH.nil
        · refine wp_load_px (.tmp 4) rfl rfl P ?_
          refine hK.out _ _ hS ?_
          clear hK K
          try simp only [Act.put, List.setIfInBounds_toArray, List.set_cons_zero, List.set_cons_succ]
          refine rg_step 3 rfl (by kernel_rfl) (by rfl) (fun K hK => ?_)
          go_simp
          refine (play_addr av av xs ha _).mono ?_
          rintro e u9 ⟨rfl, bK⟩
          replace A := A.later bK (Nat.le_refl _)
          replace P := P.later bK (Nat.le_refl _)
          replace hS := hS.trans (bK.mono hS.size)
          clear bK
          refine hK.out _ _ hS ?_
          clear hK K
          try simp only [Act.put, List.setIfInBounds_toArray, List.set_cons_zero, List.set_cons_succ]
          refine rg_step 5 rfl (by kernel_rfl) (by rfl) (fun K hK => ?_)
          go_simp
          refine (play_net pv ps hp n _).mono ?_
          rintro e u10 ⟨m, hm, rfl, bK⟩
          replace A := A.later bK (Nat.le_refl _)
          replace P := P.later bK (Nat.le_refl _)
          replace hS := hS.trans (bK.mono hS.size)
          clear bK
          refine hK.out _ _ hS ?_
          clear hK K
          try simp only [Act.put, List.setIfInBounds_toArray, List.set_cons_zero, List.set_cons_succ]
          refine rg_step 6 rfl (by kernel_rfl) (by rfl) (fun K hK => ?_)
          refine wp_store_ad2 (.tmp 3) (.tmp 22) rfl rfl rfl (norm_len av ha) A ?_
          intro u11 A2 far keep
          replace P := P.same (far _ (Nat.ne_of_gt (Nat.lt_succ_self _)))
          replace hS := keep _ _ (Nat.le_refl _) hS
          clear A far keep
          have A := A2
          clear A2
          refine hK.out _ _ hS ?_
          clear hK K
          try simp only [Act.put]
          refine rg_step 7 rfl (by kernel_rfl) (by rfl) (fun K hK => ?_)
          refine wp_store_px (.tmp 4) (.tmp 24) rfl rfl rfl (by rw [firstv_len, hp]) P ?_
          intro u12 P2 far keep
          replace A := A.same (far _ (Nat.ne_of_lt (Nat.lt_succ_self _)))
          replace hS := keep _ _ (Nat.le_succ _) hS
          clear P far keep
          have P := P2
          clear P2
          refine hK.out _ _ hS ?_
          clear hK K
          try simp only [Act.put]
          refine rg_done (by kernel_rfl) ?_
          exact ⟨m, hm, rfl, A, P, hS⟩
      refine rg_or 4 rfl (by rfl) (fun K hK => ?_) AllReadyH.nil
      · refine wp_load_px (.tmp 4) rfl rfl P ?_
        refine hK.out _ _ hS ?_
        clear hK K
        try simp only [Act.put, List.setIfInBounds_toArray, List.set_cons_zero, List.set_cons_succ]
        refine rg_step 2 rfl (by kernel_rfl) (by rfl) (fun K hK => ?_)
        have cA := A.v6_cell
        go_simp
        clear cA
        refine hK.out _ _ hS ?_
        clear hK K
        try simp only [Act.put, List.setIfInBounds_toArray, List.set_cons_zero, List.set_cons_succ]
        refine rg_step 3 rfl (by kernel_rfl) (by rfl) (fun K hK => ?_)
        go_simp
        refine (play_addr av av xs ha _).mono ?_
        rintro e u15 ⟨rfl, bK⟩
        replace A := A.later bK (Nat.le_refl _)
        replace P := P.later bK (Nat.le_refl _)
        replace hS := hS.trans (bK.mono hS.size)
        clear bK
        refine hK.out _ _ hS ?_
        clear hK K
        try simp only [Act.put, List.setIfInBounds_toArray, List.set_cons_zero, List.set_cons_succ]
        refine rg_step 5 rfl (by kernel_rfl) (by rfl) (fun K hK => ?_)
        go_simp
        refine (play_net pv ps hp n _).mono ?_
        rintro e u16 ⟨m, hm, rfl, bK⟩
        replace A := A.later bK (Nat.le_refl _)
        replace P := P.later bK (Nat.le_refl _)
        replace hS := hS.trans (bK.mono hS.size)
        clear bK
        refine hK.out _ _ hS ?_
        clear hK K
        try simp only [Act.put, List.setIfInBounds_toArray, List.set_cons_zero, List.set_cons_succ]
        refine rg_step 6 rfl (by kernel_rfl) (by rfl) (fun K hK => ?_)
        refine wp_store_ad2 (.tmp 3) (.tmp 22) rfl rfl rfl (norm_len av ha) A ?_
        intro u17 A2 far keep
        replace P := P.same (far _ (Nat.ne_of_gt (Nat.lt_succ_self _)))
        replace hS := keep _ _ (Nat.le_refl _) hS
        clear A far keep
        have A := A2
        clear A2
        refine hK.out _ _ hS ?_
        clear hK K
        try simp only [Act.put]
        refine rg_step 7 rfl (by kernel_rfl) (by rfl) (fun K hK => ?_)
        refine wp_store_px (.tmp 4) (.tmp 24) rfl rfl rfl (by rw [firstv_len, hp]) P ?_
        intro u18 P2 far keep
        replace A := A.same (far _ (Nat.ne_of_lt (Nat.lt_succ_self _)))
        replace hS := keep _ _ (Nat.le_succ _) hS
        clear P far keep
        have P := P2
        clear P2
        refine hK.out _ _ hS ?_
        clear hK K
        try simp only [Act.put]
        refine rg_done (by kernel_rfl) ?_
        exact ⟨m, hm, rfl, A, P, hS⟩
    refine rg_or 2 rfl (by rfl) (fun K hK => ?_) ?_
    · have cA := A.v6_cell
      go_simp
      clear cA
      refine hK.out _ _ hS ?_
      clear hK K
      try simp only [Act.put, List.setIfInBounds_toArray, List.set_cons_zero, List.set_cons_succ]
      refine rg_any [0, 4] (by kernel_rfl) (by simp) ?_
      refine rg_or 0 rfl (by rfl) (fun K hK => ?_) ?_
      · refine wp_load_ad (.tmp 3) rfl rfl A ?_
        refine hK.out _ _ hS ?_
        clear hK K
        try simp only [Act.put, List.setIfInBounds_toArray, List.set_cons_zero, List.set_cons_succ]
        refine rg_any [3, 4] (by kernel_rfl) (by simp) ?_
        refine rg_or 3 rfl (by rfl) (fun K hK => ?_) ?_
        · go_simp
          refine (play_addr av av xs ha _).mono ?_
          rintro e u21 ⟨rfl, bK⟩
          replace A := A.later bK (Nat.le_refl _)
          replace P := P.later bK (Nat.le_refl _)
          replace hS := hS.trans (bK.mono hS.size)
          clear bK
          refine hK.out _ _ hS ?_
          clear hK K
          try simp only [Act.put, List.setIfInBounds_toArray, List.set_cons_zero, List.set_cons_succ]
          refine rg_step 4 rfl (by kernel_rfl) (by rfl) (fun K hK => ?_)
          refine wp_load_px (.tmp 4) rfl rfl P ?_
          refine hK.out _ _ hS ?_
          clear hK K
          try simp only [Act.put, List.setIfInBounds_toArray, List.set_cons_zero, List.set_cons_succ]
          refine rg_step 5 rfl (by kernel_rfl) (by rfl) (fun K hK => ?_)
          go_simp
          refine (play_net pv ps hp n _).mono ?_
          rintro e u23 ⟨m, hm, rfl, bK⟩
          replace A := A.later bK (Nat.le_refl _)
          replace P := P.later bK (Nat.le_refl _)
          replace hS := hS.trans (bK.mono hS.size)
          clear bK
          refine hK.out _ _ hS ?_
          clear hK K
          try simp only [Act.put, List.setIfInBounds_toArray, List.set_cons_zero, List.set_cons_succ]
          refine rg_step 6 rfl (by kernel_rfl) (by rfl) (fun K hK => ?_)
          refine wp_store_ad2 (.tmp 3) (.tmp 22) rfl rfl rfl (norm_len av ha) A ?_
          intro u24 A2 far keep
          replace P := P.same (far _ (Nat.ne_of_gt (Nat.lt_succ_self _)))
          replace hS := keep _ _ (Nat.le_refl _) hS
          clear A far keep
          have A := A2
          clear A2
          refine hK.out _ _ hS ?_
          clear hK K
          try simp only [Act.put]
          refine rg_step 7 rfl (by kernel_rfl) (by rfl) (fun K hK => ?_)
          refine wp_store_px (.tmp 4) (.tmp 24) rfl rfl rfl (by rw [firstv_len, hp]) P ?_
          intro u25 P2 far keep
          replace A := A.same (far _ (Nat.ne_of_lt (Nat.lt_succ_self _)))
          replace hS := keep _ _ (Nat.le_succ _) hS
          clear P far keep
          have P := P2
          clear P2
          refine hK.out _ _ hS ?_
          clear hK K
          try simp only [Act.put]
          refine rg_done (by kernel_rfl) ?_
          exact ⟨m, hm, rfl, A, P, hS⟩
        refine rg_or 4 rfl (by rfl) (fun K hK => ?_) AllReadyH.nil
        · refine wp_load_px (.tmp 4) rfl rfl P ?_
          refine hK.out _ _ hS ?_
          clear hK K
          try simp only [Act.put, List.setIfInBounds_toArray, List.set_cons_zero, List.set_cons_succ]
          refine rg_step 3 rfl (by kernel_rfl) (by rfl) (fun K hK => ?_)
          go_simp
          refine (play_addr av av xs ha _).mono ?_
          rintro e u27 ⟨rfl, bK⟩
          replace A := A.later bK (Nat.le_refl _)
          replace P := P.later bK (Nat.le_refl _)
          replace hS := hS.trans (bK.mono hS.size)
          clear bK
          refine hK.out _ _ hS ?_
          clear hK K
          try simp only [Act.put, List.setIfInBounds_toArray, List.set_cons_zero, List.set_cons_succ]
          refine rg_step 5 rfl (by kernel_rfl) (by rfl) (fun K hK => ?_)
          go_simp
          refine (play_net pv ps hp n _).mono ?_
          rintro e u28 ⟨m, hm, rfl, bK⟩
          replace A := A.later bK (Nat.le_refl _)
          replace P := P.later bK (Nat.le_refl _)
          replace hS := hS.trans (bK.mono hS.size)
          clear bK
          refine hK.out _ _ hS ?_
          clear hK K
          try simp only [Act.put, List.setIfInBounds_toArray, List.set_cons_zero, List.set_cons_succ]
          refine rg_step 6 rfl (by kernel_rfl) (by rfl) (fun K hK => ?_)
          refine wp_store_ad2 (.tmp 3) (.tmp 22) rfl rfl rfl (norm_len av ha) A ?_
          intro u29 A2 far keep
          replace P := P.same (far _ (Nat.ne_of_gt (Nat.lt_succ_self _)))
          replace hS := keep _ _ (Nat.le_refl _) hS
          clear A far keep
          have A := A2
          clear A2
          refine hK.out _ _ hS ?_
          clear hK K
          try simp only [Act.put]
          refine rg_step 7 rfl (by kernel_rfl) (by rfl) (fun K hK => ?_)
          refine wp_store_px (.tmp 4) (.tmp 24) rfl rfl rfl (by rw [firstv_len, hp]) P ?_
          intro u30 P2 far keep
          replace A := A.same (far _ (Nat.ne_of_lt (Nat.lt_succ_self _)))
          replace hS := keep _ _ (Nat.le_succ _) hS
          clear P far keep
          have P := P2
          clear P2
          refine hK.out _ _ hS ?_
          clear hK K
          try simp only [Act.put]
          refine rg_done (by kernel_rfl) ?_
          exact ⟨m, hm, rfl, A, P, hS⟩
      refine rg_or 4 rfl (by rfl) (fun K hK => ?_) AllReadyH.nil
      · refine wp_load_px (.tmp 4) rfl rfl P ?_
        refine hK.out _ _ hS ?_
        clear hK K
        try simp only [Act.put, List.setIfInBounds_toArray, List.set_cons_zero, List.set_cons_succ]
        refine rg_step 0 rfl (by kernel_rfl) (by rfl) (fun K hK => ?_)
        refine wp_load_ad (.tmp 3) rfl rfl A ?_
        refine hK.out _ _ hS ?_
        clear hK K
        try simp only [Act.put, List.setIfInBounds_toArray, List.set_cons_zero, List.set_cons_succ]
        refine rg_step 3 rfl (by kernel_rfl) (by rfl) (fun K hK => ?_)
        go_simp
        refine (play_addr av av xs ha _).mono ?_
        rintro e u33 ⟨rfl, bK⟩
        replace A := A.later bK (Nat.le_refl _)
        replace P := P.later bK (Nat.le_refl _)
        replace hS := hS.trans (bK.mono hS.size)
        clear bK
        refine hK.out _ _ hS ?_
        clear hK K
        try simp only [Act.put, List.setIfInBounds_toArray, List.set_cons_zero, List.set_cons_succ]
        refine rg_step 5 rfl (by kernel_rfl) (by rfl) (fun K hK => ?_)
        go_simp
        refine (play_net pv ps hp n _).mono ?_
        rintro e u34 ⟨m, hm, rfl, bK⟩
        replace A := A.later bK (Nat.le_refl _)
        replace P := P.later bK (Nat.le_refl _)
        replace hS := hS.trans (bK.mono hS.size)
        clear bK
        refine hK.out _ _ hS ?_
        clear hK K
        try simp only [Act.put, List.setIfInBounds_toArray, List.set_cons_zero, List.set_cons_succ]
        refine rg_step 6 rfl (by kernel_rfl) (by rfl) (fun K hK => ?_)
        refine wp_store_ad2 (.tmp 3) (.tmp 22) rfl rfl rfl (norm_len av ha) A ?_
        intro u35 A2 far keep
        replace P := P.same (far _ (Nat.ne_of_gt (Nat.lt_succ_self _)))
        replace hS := keep _ _ (Nat.le_refl _) hS
        clear A far keep
        have A := A2
        clear A2
        refine hK.out _ _ hS ?_
        clear hK K
        try simp only [Act.put]
        refine rg_step 7 rfl (by kernel_rfl) (by rfl) (fun K hK => ?_)
        refine wp_store_px (.tmp 4) (.tmp 24) rfl rfl rfl (by rw [firstv_len, hp]) P ?_
        intro u36 P2 far keep
        replace A := A.same (far _ (Nat.ne_of_lt (Nat.lt_succ_self _)))
        replace hS := keep _ _ (Nat.le_succ _) hS
        clear P far keep
        have P := P2
        clear P2
        refine hK.out _ _ hS ?_
        clear hK K
        try simp only [Act.put]
        refine rg_done (by kernel_rfl) ?_
        exact ⟨m, hm, rfl, A, P, hS⟩
    refine rg_or 4 rfl (by rfl) (fun K hK => ?_) AllReadyH.nil
    · refine wp_load_px (.tmp 4) rfl rfl P ?_
      refine hK.out _ _ hS ?_
      clear hK K
      try simp only [Act.put, List.setIfInBounds_toArray, List.set_cons_zero, List.set_cons_succ]
      refine rg_any [0, 2] (by kernel_rfl) (by simp) ?_
      refine rg_or 0 rfl (by rfl) (fun K hK => ?_) ?_
      · refine wp_load_ad (.tmp 3) rfl rfl A ?_
        refine hK.out _ _ hS ?_
        clear hK K
        try simp only [Act.put, List.setIfInBounds_toArray, List.set_cons_zero, List.set_cons_succ]
        refine rg_step 2 rfl (by kernel_rfl) (by rfl) (fun K hK => ?_)
        have cA := A.v6_cell
        go_simp
        clear cA
        refine hK.out _ _ hS ?_
        clear hK K
        try simp only [Act.put, List.setIfInBounds_toArray, List.set_cons_zero, List.set_cons_succ]
        refine rg_step 3 rfl (by kernel_rfl) (by rfl) (fun K hK => ?_)
        go_simp
        refine (play_addr av av xs ha _).mono ?_
        rintro e u40 ⟨rfl, bK⟩
        replace A := A.later bK (Nat.le_refl _)
        replace P := P.later bK (Nat.le_refl _)
        replace hS := hS.trans (bK.mono hS.size)
        clear bK
        refine hK.out _ _ hS ?_
        clear hK K
        try simp only [Act.put, List.setIfInBounds_toArray, List.set_cons_zero, List.set_cons_succ]
        refine rg_step 5 rfl (by kernel_rfl) (by rfl) (fun K hK => ?_)
        go_simp
        refine (play_net pv ps hp n _).mono ?_
        rintro e u41 ⟨m, hm, rfl, bK⟩
        replace A := A.later bK (Nat.le_refl _)
        replace P := P.later bK (Nat.le_refl _)
        replace hS := hS.trans (bK.mono hS.size)
        clear bK
        refine hK.out _ _ hS ?_
        clear hK K
        try simp only [Act.put, List.setIfInBounds_toArray, List.set_cons_zero, List.set_cons_succ]
        refine rg_step 6 rfl (by kernel_rfl) (by rfl) (fun K hK => ?_)
        refine wp_store_ad2 (.tmp 3) (.tmp 22) rfl rfl rfl (norm_len av ha) A ?_
        intro u42 A2 far keep
        replace P := P.same (far _ (Nat.ne_of_gt (Nat.lt_succ_self _)))
        replace hS := keep _ _ (Nat.le_refl _) hS
        clear A far keep
        have A := A2
        clear A2
        refine hK.out _ _ hS ?_
        clear hK K
        try simp only [Act.put]
        refine rg_step 7 rfl (by kernel_rfl) (by rfl) (fun K hK => ?_)
        refine wp_store_px (.tmp 4) (.tmp 24) rfl rfl rfl (by rw [firstv_len, hp]) P ?_
        intro u43 P2 far keep
        replace A := A.same (far _ (Nat.ne_of_lt (Nat.lt_succ_self _)))
        replace hS := keep _ _ (Nat.le_succ _) hS
        clear P far keep
        have P := P2
        clear P2
        refine hK.out _ _ hS ?_
        clear hK K
        try simp only [Act.put]
        refine rg_done (by kernel_rfl) ?_
        exact ⟨m, hm, rfl, A, P, hS⟩
      refine rg_or 2 rfl (by rfl) (fun K hK => ?_) AllReadyH.nil
      · have cA := A.v6_cell
        go_simp
        clear cA
        refine hK.out _ _ hS ?_
        clear hK K
        try simp only [Act.put, List.setIfInBounds_toArray, List.set_cons_zero, List.set_cons_succ]
        refine rg_step 0 rfl (by kernel_rfl) (by rfl) (fun K hK => ?_)
        refine wp_load_ad (.tmp 3) rfl rfl A ?_
        refine hK.out _ _ hS ?_
        clear hK K
        try simp only [Act.put, List.setIfInBounds_toArray, List.set_cons_zero, List.set_cons_succ]
        refine rg_step 3 rfl (by kernel_rfl) (by rfl) (fun K hK => ?_)
        go_simp
        refine (play_addr av av xs ha _).mono ?_
        rintro e u46 ⟨rfl, bK⟩
        replace A := A.later bK (Nat.le_refl _)
        replace P := P.later bK (Nat.le_refl _)
        replace hS := hS.trans (bK.mono hS.size)
        clear bK
        refine hK.out _ _ hS ?_
        clear hK K
        try simp only [Act.put, List.setIfInBounds_toArray, List.set_cons_zero, List.set_cons_succ]
        refine rg_step 5 rfl (by kernel_rfl) (by rfl) (fun K hK => ?_)
        go_simp
        refine (play_net pv ps hp n _).mono ?_
        rintro e u47 ⟨m, hm, rfl, bK⟩
        replace A := A.later bK (Nat.le_refl _)
        replace P := P.later bK (Nat.le_refl _)
        replace hS := hS.trans (bK.mono hS.size)
        clear bK
        refine hK.out _ _ hS ?_
        clear hK K
        try simp only [Act.put, List.setIfInBounds_toArray, List.set_cons_zero, List.set_cons_succ]
        refine rg_step 6 rfl (by kernel_rfl) (by rfl) (fun K hK => ?_)
        refine wp_store_ad2 (.tmp 3) (.tmp 22) rfl rfl rfl (norm_len av ha) A ?_
        intro u48 A2 far keep
        replace P := P.same (far _ (Nat.ne_of_gt (Nat.lt_succ_self _)))
        replace hS := keep _ _ (Nat.le_refl _) hS
        clear A far keep
        have A := A2
        clear A2
        refine hK.out _ _ hS ?_
        clear hK K
        try simp only [Act.put]
        refine rg_step 7 rfl (by kernel_rfl) (by rfl) (fun K hK => ?_)
        refine wp_store_px (.tmp 4) (.tmp 24) rfl rfl rfl (by rw [firstv_len, hp]) P ?_
        intro u49 P2 far keep
        replace A := A.same (far _ (Nat.ne_of_lt (Nat.lt_succ_self _)))
        replace hS := keep _ _ (Nat.le_succ _) hS
        clear P far keep
        have P := P2
        clear P2
        refine hK.out _ _ hS ?_
        clear hK K
        try simp only [Act.put]
        refine rg_done (by kernel_rfl) ?_
        exact ⟨m, hm, rfl, A, P, hS⟩
  · rintro a3 W3 ⟨m, hm, rfl, A3, P3, B3⟩
    obtain ⟨X, hX⟩ : ∃ X, norm av xs = X := ⟨_, rfl⟩
    obtain ⟨Z, hZ⟩ : ∃ Z, firstv ps m = Z := ⟨_, rfl⟩
    have hXl : X.length = 16 := by rw [← hX, norm_len av ha]
    have hXr : rightv av X = true := by rw [← hX, norm_first av ha]; exact right_first' av xs (Nat.le_refl _)
    have hZl : Z.length = 16 := by rw [← hZ, firstv_len, hp]
    have hZr : rightnetv pv Z m = true := by rw [← hZ]; exact rightnet_first' pv ps hm
    rw [hX] at A3 ⊢
    rw [hZ] at P3 ⊢
    have H3 := Lib.hid (And.intro A3 (And.intro P3 B3))
    clear A3 P3 B3 hX hZ
    have HK := Lib.hid (And.intro (parse_text hXl hXr) (net_text hZl hZr))
    have hT1 := textv_len av X
    have hT2 : (textnetv pv Z m).length ≤ 20000 := by
      unfold textnetv
      rw [if_pos hZr]
      have h1 := textv_len pv Z
      have h2 := dec3_len m
      have h3 := wid_le pv
      rw [List.length_append, List.length_append, Int.toNat_natCast, dec3_eq (by omega)]
      simp only [List.length_cons, List.length_nil]
      omega
    go_wp2_with (refine wpList_load_ad rfl (.tmp 3) rfl rfl (H3.out.1) ?_)
    refine (Text_any av X hXl (HE.out.later (H3.out.2.2) (Nat.le_refl _))).mono ?_
    rintro e w4 ⟨rfl, b4⟩
    have H4 := Lib.hid (And.intro ((H3.out.1).later b4 (Nat.le_refl _)) (And.intro ((H3.out.2.1).later b4 (Nat.le_refl _)) ((H3.out.2.2).trans (b4.mono (H3.out.2.2).size))))
    clear b4
    go_wp2_with fail
    have K5 := Parse_any (mkS (textv av X)) (by rw [Lib.size_eq, mkS_data]; omega) (HE.out.later (H4.out.2.2) (Nat.le_refl _))
    rw [mkS_data, HK.out.1] at K5
    refine K5.mono ?_
    clear K5
    rintro e w5 ⟨b5, _, rfl⟩
    have H5 := Lib.hid (And.intro ((H4.out.1).later b5 (Nat.le_refl _)) (And.intro ((H4.out.2.1).later b5 (Nat.le_refl _)) ((H4.out.2.2).trans (b5.mono (H4.out.2.2).size))))
    clear b5
    go_wp2_with (first
      | (refine wpList_alloc_ad rfl rfl ?_; intro w6 a6 b6 z6; have H6 := Lib.hid (And.intro a6 b6); clear a6 b6 z6)
      | (refine wpList_store_ad rfl (.tmp 7) (.tmp 29) rfl av X rfl rfl hXl H6.out.1 ?_; intro w7 a7 o7 z7 b7; have D7 := b7 _ _ (Nat.le_refl _) H6.out.2; have H7 := Lib.hid (And.intro ((H5.out.1).later D7 (Nat.le_refl _)) (And.intro ((H5.out.2.1).later D7 (Nat.le_refl _)) (And.intro a7 ((H5.out.2.2).trans (D7.mono (H5.out.2.2).size))))); clear a7 o7 z7 b7 D7)
      | (refine wpList_load_px rfl (.tmp 4) rfl rfl (H7.out.2.1) ?_))
    refine (TextNet_any pv Z hZl m (HE.out.later (H7.out.2.2.2) (Nat.le_refl _))).mono ?_
    rintro e w8 ⟨rfl, b8⟩
    have H8 := Lib.hid (And.intro ((H7.out.1).later b8 (Nat.le_refl _)) (And.intro ((H7.out.2.1).later b8 (Nat.le_refl _)) (And.intro ((H7.out.2.2.1).later b8 (Nat.le_refl _)) ((H7.out.2.2.2).trans (b8.mono (H7.out.2.2.2).size)))))
    clear b8
    go_wp2_with fail
    have K9 := ParseNet_any (mkS (textnetv pv Z m)) (by rw [Lib.size_eq, mkS_data]; omega) (HE.out.later (H8.out.2.2.2) (Nat.le_refl _))
    rw [mkS_data, HK.out.2] at K9
    refine K9.mono ?_
    clear K9
    rintro e w9 ⟨b9, _, rfl⟩
    have H9 := Lib.hid (And.intro ((H8.out.1).later b9 (Nat.le_refl _)) (And.intro ((H8.out.2.1).later b9 (Nat.le_refl _)) (And.intro ((H8.out.2.2.1).later b9 (Nat.le_refl _)) ((H8.out.2.2.2).trans (b9.mono (H8.out.2.2.2).size)))))
    clear b9
    go_wp2_with (first
      | (refine wpList_alloc_px rfl rfl ?_; intro w10 a10 b10 z10; have H10 := Lib.hid (And.intro a10 b10); clear a10 b10 z10)
      | (refine wpList_store_px rfl (.tmp 9) (.tmp 35) rfl pv Z m rfl rfl hZl H10.out.1 ?_; intro w11 a11 o11 z11 b11; have D11 := b11 _ _ (Nat.le_refl _) H10.out.2; have H11 := Lib.hid (And.intro ((H9.out.1).later D11 (Nat.le_refl _)) (And.intro ((H9.out.2.1).later D11 (Nat.le_refl _)) (And.intro ((H9.out.2.2.1).later D11 (Nat.le_refl _)) (And.intro a11 ((H9.out.2.2.2).trans (D11.mono (H9.out.2.2.2).size)))))); clear a11 o11 z11 b11 D11))
    refine (Parse_any s (by omega) (HE.out.later (H11.out.2.2.2.2) (Nat.le_refl _))).mono ?_
    rintro e w12 hpa
    obtain ⟨zv, zb, er, rfl, hzl, hzr, b12, her⟩ := hpa.form (fun v bs hl h => parse_right hl h)
    have H12 := Lib.hid (And.intro ((H11.out.1).later b12 (Nat.le_refl _)) (And.intro ((H11.out.2.1).later b12 (Nat.le_refl _)) (And.intro ((H11.out.2.2.1).later b12 (Nat.le_refl _)) (And.intro ((H11.out.2.2.2.1).later b12 (Nat.le_refl _)) ((H11.out.2.2.2.2).trans (b12.mono (H11.out.2.2.2.2).size))))))
    clear b12 hpa
    go_wp2_with (first
      | (refine wpList_alloc_ad rfl rfl ?_; intro w13 a13 b13 z13; have H13 := Lib.hid (And.intro a13 b13); clear a13 b13 z13)
      | (refine wpList_store_ad rfl (.tmp 11) (.tmp 40) rfl zv zb rfl rfl hzl H13.out.1 ?_; intro w14 a14 o14 z14 b14; have D14 := b14 _ _ (Nat.le_refl _) H13.out.2; have H14 := Lib.hid (And.intro ((H12.out.1).later D14 (Nat.le_refl _)) (And.intro ((H12.out.2.1).later D14 (Nat.le_refl _)) (And.intro ((H12.out.2.2.1).later D14 (Nat.le_refl _)) (And.intro ((H12.out.2.2.2.1).later D14 (Nat.le_refl _)) (And.intro a14 ((H12.out.2.2.2.2).trans (D14.mono (H12.out.2.2.2.2).size))))))); clear a14 o14 z14 b14 D14)
      | (refine wpList_load_ad rfl (.tmp 11) rfl rfl (H14.out.2.2.2.2.1) ?_))
    have hT3 := textv_len zv zb
    refine (Text_any zv zb hzl (HE.out.later (H14.out.2.2.2.2.2) (Nat.le_refl _))).mono ?_
    rintro e w15 ⟨rfl, b15⟩
    have H15 := Lib.hid (And.intro ((H14.out.1).later b15 (Nat.le_refl _)) (And.intro ((H14.out.2.1).later b15 (Nat.le_refl _)) (And.intro ((H14.out.2.2.1).later b15 (Nat.le_refl _)) (And.intro ((H14.out.2.2.2.1).later b15 (Nat.le_refl _)) (And.intro ((H14.out.2.2.2.2.1).later b15 (Nat.le_refl _)) ((H14.out.2.2.2.2.2).trans (b15.mono (H14.out.2.2.2.2.2).size)))))))
    clear b15
    go_wp2_with fail
    have K16 := Parse_any (mkS (textv zv zb)) (by rw [Lib.size_eq, mkS_data]; omega) (HE.out.later (H15.out.2.2.2.2.2) (Nat.le_refl _))
    rw [mkS_data, parse_text hzl hzr] at K16
    refine K16.mono ?_
    clear K16
    rintro e w16 ⟨b16, _, rfl⟩
    have H16 := Lib.hid (And.intro ((H15.out.1).later b16 (Nat.le_refl _)) (And.intro ((H15.out.2.1).later b16 (Nat.le_refl _)) (And.intro ((H15.out.2.2.1).later b16 (Nat.le_refl _)) (And.intro ((H15.out.2.2.2.1).later b16 (Nat.le_refl _)) (And.intro ((H15.out.2.2.2.2.1).later b16 (Nat.le_refl _)) ((H15.out.2.2.2.2.2).trans (b16.mono (H15.out.2.2.2.2.2).size)))))))
    clear b16
    go_wp2_with (first
      | (refine wpList_alloc_ad rfl rfl ?_; intro w17 a17 b17 z17; have H17 := Lib.hid (And.intro a17 b17); clear a17 b17 z17)
      | (refine wpList_store_ad rfl (.tmp 13) (.tmp 46) rfl zv zb rfl rfl hzl H17.out.1 ?_; intro w18 a18 o18 z18 b18; have D18 := b18 _ _ (Nat.le_refl _) H17.out.2; have H18 := Lib.hid (And.intro ((H16.out.1).later D18 (Nat.le_refl _)) (And.intro ((H16.out.2.1).later D18 (Nat.le_refl _)) (And.intro ((H16.out.2.2.1).later D18 (Nat.le_refl _)) (And.intro ((H16.out.2.2.2.1).later D18 (Nat.le_refl _)) (And.intro ((H16.out.2.2.2.2.1).later D18 (Nat.le_refl _)) (And.intro a18 ((H16.out.2.2.2.2.2).trans (D18.mono (H16.out.2.2.2.2.2).size)))))))); clear a18 o18 z18 b18 D18))
    refine (awake04 (HE.out.later (H18.out.2.2.2.2.2.2) (Nat.le_refl _))).mono ?_
    rintro e w19 ⟨rfl, b19⟩
    have H19 := Lib.hid (And.intro ((H18.out.1).later b19 (Nat.le_refl _)) (And.intro ((H18.out.2.1).later b19 (Nat.le_refl _)) (And.intro ((H18.out.2.2.1).later b19 (Nat.le_refl _)) (And.intro ((H18.out.2.2.2.1).later b19 (Nat.le_refl _)) (And.intro ((H18.out.2.2.2.2.1).later b19 (Nat.le_refl _)) (And.intro ((H18.out.2.2.2.2.2.1).later b19 (Nat.le_refl _)) ((H18.out.2.2.2.2.2.2).trans (b19.mono (H18.out.2.2.2.2.2.2).size))))))))
    clear b19
    have y1 : ∀ w, (binOp .eql 24 (.agg (adv av X)) (.agg (adv av X))).run Tryz.prog w = .ok (.bool true) w := fun w => by rw [eql_ad av av hXl hXl w]; simp
    have y2 : ∀ w, (binOp .eql 26 (.agg (pxv pv Z m)) (.agg (pxv pv Z m))).run Tryz.prog w = .ok (.bool true) w := fun w => by rw [eql_px pv pv hZl hZl m m w]; simp
    have y3 : ∀ w, (binOp .eql 24 (.agg (adv zv zb)) (.agg (adv zv zb))).run Tryz.prog w = .ok (.bool true) w := fun w => by rw [eql_ad zv zv hzl hzl w]; simp
    rcases her with rfl | rfl
    all_goals
      go_wp2_with (first
        | (refine wpList_load_row_w (by rfl) 24 (.tmp 7) rfl w5.heap.size 0 rfl (adv av X) _ (H19.out.2.2.1).range Tryz.underlying24 rfl (ad_size av hXl) ?_)
        | (refine wpList_load_row_w (by rfl) 24 (.tmp 3) rfl w.heap.size 0 rfl (adv av X) _ (H19.out.1).range Tryz.underlying24 rfl (ad_size av hXl) ?_)
        | (refine wpList_load_row_w (by rfl) 26 (.tmp 9) rfl w9.heap.size 0 rfl (pxv pv Z m) _ (H19.out.2.2.2.1).range Tryz.underlying26 rfl (px_size pv m hZl) ?_)
        | (refine wpList_load_row_w (by rfl) 26 (.tmp 4) rfl (w.heap.size + 1) 0 rfl (pxv pv Z m) _ (H19.out.2.1).range Tryz.underlying26 rfl (px_size pv m hZl) ?_)
        | (refine wpList_load_row_w (by rfl) 24 (.tmp 13) rfl w16.heap.size 0 rfl (adv zv zb) _ (H19.out.2.2.2.2.2.1).range Tryz.underlying24 rfl (ad_size zv hzl) ?_)
        | (refine wpList_load_row_w (by rfl) 24 (.tmp 11) rfl w12.heap.size 0 rfl (adv zv zb) _ (H19.out.2.2.2.2.1).range Tryz.underlying24 rfl (ad_size zv hzl) ?_))
      go_ret
      exact ⟨rfl, (H19.out.2.2.2.2.2.2)⟩
end Go.Proofs.YtjegeiaabkheiaaGreatDoor
