/-
  What Parse answers on a packet of version 6 that was built, a byte of it turned. No conditions.
-/
import Derived.Test.YtceigepclemdmaaDoorBuilt7
namespace Go.Proofs.YtceigepclemdmaaDoor
open Go.RowKit
set_option maxRecDepth 100000

theorem bat_same {l : List UInt8} {i : Nat} (x : UInt8) (h : i < l.length) : bat (l.set i x) i = x.toNat := by
  unfold bat List.getD
  rw [List.getElem?_set_self h]
  rfl
theorem bat_ne {l : List UInt8} {i j : Nat} (x : UInt8) (h : i ≠ j) : bat (l.set i x) j = bat l j := by
  unfold bat List.getD
  rw [List.getElem?_set_ne h]
theorem num2_bat {l : List UInt8} {i : Nat} (h : i + 2 ≤ l.length) : num2 l i = bat l i * 256 + bat l (i + 1) := by
  obtain ⟨x, hx⟩ : ∃ x, l[i]? = some x := ⟨l[i]'(by omega), List.getElem?_eq_getElem _⟩
  obtain ⟨y, hy⟩ : ∃ y, l[i + 1]? = some y := ⟨l[i + 1]'(by omega), List.getElem?_eq_getElem _⟩
  rw [bat_get hx, bat_get hy]
  unfold num2
  have h1 : l.drop i = x :: y :: l.drop (i + 2) := by
    rw [List.drop_eq_getElem_cons (by omega : i < l.length), List.drop_eq_getElem_cons (by omega : i + 1 < l.length)]
    rw [List.getElem?_eq_getElem (by omega : i < l.length)] at hx
    rw [List.getElem?_eq_getElem (by omega : i + 1 < l.length)] at hy
    rw [Option.some.inj hx, Option.some.inj hy]
  rw [h1]
  simp [be]

/-- A packet with so many heads of these kinds, three bytes behind them. -/
structure Pkt (l : List UInt8) (z : Nat) (K : Nat → Int) : Prop where
  len : l.length = 43 + 8 * z
  one : 1 ≤ z
  eight : z ≤ 8
  zero : bat l 0 = 96
  size : bat l 4 * 256 + bat l 5 = 8 * z + 3
  kind : (bat l 6 : Int) = K 0
  next : ∀ i, i < z → (bat l (40 + 8 * i) : Int) = K (i + 1) ∧ bat l (40 + 8 * i + 1) = 0 ∧ bat l (40 + 8 * i + 2) = 0 ∧ bat l (40 + 8 * i + 3) = 0
  kinds : ∀ i, i < z → (K i = 0 ∧ i = 0) ∨ K i = 43 ∨ K i = 60
  last : K z = 6
theorem ip6v_walk {l : List UInt8} {n to : Nat} (hl : l.length = n) (h40 : 40 ≤ n) (h0 : bat l 0 = 96) (hs : bat l 4 * 256 + bat l 5 + 40 = to) (hto : to ≤ n) {r : Int × Nat × Fl} (hr : walk l to 8 (bat l 6) 40 = r) :
    (ip6v l n).2 = if r.2.2.code ≠ 0 then r.2.2 else ⟨0, 0, false⟩ := by
  have h45 : num2 l 4 = bat l 4 * 256 + bat l 5 := num2_bat (by omega)
  have hn : 40 + num2 l 4 = to := by omega
  unfold ip6v
  rw [if_neg (by omega), if_neg (by rw [h0]; omega), hn, if_neg (by omega), hr]
  split <;> rfl
theorem frag_num {l : List UInt8} {i : Nat} (h : i + 4 ≤ l.length) : fragv l i ↔ ¬ bits .and .i64 ((bat l (i + 2) * 256 + bat l (i + 3) : Nat) : Int) 65529 = 0 := by
  unfold fragv
  rw [num2_bat (by omega)]
theorem no_frag {l : List UInt8} {i : Nat} (h : i + 4 ≤ l.length) (h2 : bat l (i + 2) = 0) (h3 : bat l (i + 3) = 0) : ¬ fragv l i := by
  rw [frag_num h, h2, h3]
  exact fun h => h (by decide +kernel)
theorem hsz_8 {l : List UInt8} {k : Int} {i : Nat} (h : bat l (i + 1) = 0) : hsz l k i = 8 := by
  unfold hsz
  rw [h]
  split <;> rfl
section
variable {l : List UInt8} {z : Nat} {K : Nat → Int} (P : Pkt l z K) {a : Nat} (ha : a < z)
include P ha
theorem Pkt.ext_at : ext (K a) := by
  rcases P.kinds a ha with ⟨h, _⟩ | h | h
  · exact .inl h
  · exact .inr (.inl h)
  · exact .inr (.inr (.inl h))
/-- The next kind 0. -/
theorem Pkt.order : (ip6v (l.set (40 + 8 * a) 0) (43 + 8 * z)).2 = ⟨10, ((40 + 8 * a + 8 : Nat) : Int), true⟩ := by
  have hl := P.len
  have hne : ∀ j, 40 + 8 * a ≠ j → bat (l.set (40 + 8 * a) 0) j = bat l j := fun j h => bat_ne 0 h
  refine (ip6v_walk (l := l.set (40 + 8 * a) 0) (to := 43 + 8 * z) (r := (0, 0, ⟨10, ((40 + 8 * a + 8 : Nat) : Int), true⟩)) (by rw [List.length_set, hl]) (by omega) (by rw [hne 0 (by omega)]; exact P.zero) (by rw [hne 4 (by omega), hne 5 (by omega)]; have := P.size; omega) (by omega) ?_).trans (if_pos (show (10 : Int) ≠ 0 by decide))
  rw [hne 6 (by omega), P.kind]
  have hw := walk_on (l := l.set (40 + 8 * a) 0) (to := 43 + 8 * z) (fun i => if i = a + 1 then 0 else K i) (a + 1) (by have := P.eight; omega) (fun i hi => by
    have hk := P.kinds i (by omega)
    obtain ⟨n1, n2, n3, n4⟩ := P.next i (by omega)
    have hi1 : ¬ i = a + 1 := by omega
    have hK : (if i = a + 1 then (0 : Int) else K i) = K i := if_neg hi1
    rw [hK]
    refine ⟨P.ext_at (by omega), fun h => by rcases hk with h1 | h1 | h1 <;> omega, hsz_8 (by rw [hne _ (by omega)]; exact n2), fun h => by rcases hk with h1 | h1 | h1 <;> omega, by omega, ?_⟩
    by_cases hia : i = a
    · subst hia
      rw [if_pos rfl, bat_same 0 (by omega)]
      rfl
    · rw [if_neg (by omega), hne _ (by omega)]
      exact n1)
  have h0 : (if (0 : Nat) = a + 1 then (0 : Int) else K 0) = K 0 := if_neg (by omega)
  rw [h0] at hw
  rw [hw, if_pos rfl, walk_order (by omega)]
  rw [show 40 + 8 * (a + 1) = 40 + 8 * a + 8 by omega]
/-- A head that is too long. -/
theorem Pkt.long (v : UInt8) (hv : z ≤ v.toNat) : (ip6v (l.set (40 + 8 * a + 1) v) (43 + 8 * z)).2 = ⟨3, ((40 + 8 * a : Nat) : Int), true⟩ := by
  have hl := P.len
  have hne : ∀ j, 40 + 8 * a + 1 ≠ j → bat (l.set (40 + 8 * a + 1) v) j = bat l j := fun j h => bat_ne v h
  refine (ip6v_walk (l := l.set (40 + 8 * a + 1) v) (to := 43 + 8 * z) (r := (0, 0, ⟨3, ((40 + 8 * a : Nat) : Int), true⟩)) (by rw [List.length_set, hl]) (by omega) (by rw [hne 0 (by omega)]; exact P.zero) (by rw [hne 4 (by omega), hne 5 (by omega)]; have := P.size; omega) (by omega) ?_).trans (if_pos (show (3 : Int) ≠ 0 by decide))
  rw [hne 6 (by omega), P.kind]
  have hw := walk_on (l := l.set (40 + 8 * a + 1) v) (to := 43 + 8 * z) K a (by have := P.eight; omega) (fun i hi => by
    have hk := P.kinds i (by omega)
    obtain ⟨n1, n2, n3, n4⟩ := P.next i (by omega)
    exact ⟨P.ext_at (by omega), fun h => by rcases hk with h1 | h1 | h1 <;> omega, hsz_8 (by rw [hne _ (by omega)]; exact n2), fun h => by rcases hk with h1 | h1 | h1 <;> omega, by omega, by rw [hne _ (by omega)]; exact n1⟩)
  have hk := P.kinds a ha
  have h8 := P.eight
  have hst : stepv (l.set (40 + 8 * a + 1) v) (43 + 8 * z) (K a) (40 + 8 * a) = ⟨3, ((40 + 8 * a : Nat) : Int), true⟩ := by
    have hz : hsz (l.set (40 + 8 * a + 1) v) (K a) (40 + 8 * a) = 8 + 8 * v.toNat := by
      unfold hsz
      rw [if_neg (by rcases hk with h1 | h1 | h1 <;> omega), bat_same v (by omega)]
    unfold stepv
    rw [if_pos (.inr (by rw [hz]; omega))]
  rw [hw, show 8 - a = (7 - a) + 1 by omega, walk_bad (P.ext_at ha) (fun h => by rcases hk with h1 | h1 | h1 <;> omega) (by rw [hst]; show (3 : Int) ≠ 0; decide), hst]
/-- A part of a packet. -/
theorem Pkt.part (l1 : List UInt8) (h1 : l1 = if a = 0 then l.set 6 44 else l.set (32 + 8 * a) 44) (u v : UInt8) :
    (ip6v ((l1.set (40 + 8 * a + 2) u).set (40 + 8 * a + 3) v) (43 + 8 * z)).2 = if bits .and .i64 ((u.toNat * 256 + v.toNat : Nat) : Int) 65529 = 0 then ⟨0, 0, false⟩ else ⟨9, ((40 + 8 * a : Nat) : Int), true⟩ := by
  have hl := P.len
  have h8 := P.eight
  have hll : l1.length = 43 + 8 * z := by rw [h1]; split <;> rw [List.length_set, hl]
  obtain ⟨L, hL⟩ : ∃ L, (l1.set (40 + 8 * a + 2) u).set (40 + 8 * a + 3) v = L := ⟨_, rfl⟩
  have hLl : L.length = 43 + 8 * z := by rw [← hL, List.length_set, List.length_set, hll]
  have hq : ∀ j, j ≠ 40 + 8 * a + 2 → j ≠ 40 + 8 * a + 3 → bat L j = bat l1 j := fun j e1 e2 => by rw [← hL, bat_ne v (by omega), bat_ne u (by omega)]
  have hu : bat L (40 + 8 * a + 2) = u.toNat := by rw [← hL, bat_ne v (by omega), bat_same u (by omega)]
  have hv : bat L (40 + 8 * a + 3) = v.toNat := by rw [← hL, bat_same v (by rw [List.length_set]; omega)]
  have hne : ∀ j, j ≠ 40 + 8 * a + 2 → j ≠ 40 + 8 * a + 3 → ¬ (a = 0 ∧ j = 6) → ¬ (a ≠ 0 ∧ j = 32 + 8 * a) → bat L j = bat l j := fun j e1 e2 e3 e4 => by
    rw [hq j e1 e2, h1]
    by_cases h : a = 0
    · rw [if_pos h, bat_ne 44 (by omega)]
    · rw [if_neg h, bat_ne 44 (by omega)]
  have hmark : a ≠ 0 → bat L (32 + 8 * a) = 44 := fun h => by rw [hq _ (by omega) (by omega), h1, if_neg h, bat_same 44 (by omega)]; rfl
  have hmark0 : a = 0 → bat L 6 = 44 := fun h => by rw [hq _ (by omega) (by omega), h1, if_pos h, bat_same 44 (by omega)]; rfl
  rw [hL]
  have hfr : fragv L (40 + 8 * a) ↔ ¬ bits .and .i64 ((u.toNat * 256 + v.toNat : Nat) : Int) 65529 = 0 := by rw [frag_num (by omega), hu, hv]
  have hK0 : (bat L 6 : Int) = if (0 : Nat) = a then (44 : Int) else K 0 := by
    by_cases h : a = 0
    · rw [hmark0 h, if_pos h.symm]; rfl
    · rw [if_neg (by omega), hne 6 (by omega) (by omega) (by omega) (by omega)]; exact P.kind
  have hstep : ∀ i, i < z → (i = a → ¬ fragv L (40 + 8 * a)) → ext (if i = a then 44 else K i) ∧ ((if i = a then (44 : Int) else K i) = 0 → i = 0) ∧ hsz L (if i = a then 44 else K i) (40 + 8 * i) = 8 ∧ ¬ ((if i = a then (44 : Int) else K i) = 44 ∧ fragv L (40 + 8 * i)) ∧ 48 + 8 * i ≤ 43 + 8 * z ∧ (bat L (40 + 8 * i) : Int) = if i + 1 = a then 44 else K (i + 1) := by
    intro i hi hnf
    have hk := P.kinds i hi
    obtain ⟨n1, n2, n3, n4⟩ := P.next i hi
    have hnext : (bat L (40 + 8 * i) : Int) = if i + 1 = a then 44 else K (i + 1) := by
      by_cases h : i + 1 = a
      · rw [if_pos h, show 40 + 8 * i = 32 + 8 * a by omega, hmark (by omega)]; rfl
      · rw [if_neg h, hne _ (by omega) (by omega) (by omega) (by omega)]; exact n1
    by_cases h : i = a
    · rw [if_pos h]
      refine ⟨.inr (.inr (.inr rfl)), fun h => by omega, if_pos rfl, ?_, by omega, hnext⟩
      intro hx
      exact hnf h (by rw [h] at hx; exact hx.2)
    · rw [if_neg h]
      exact ⟨P.ext_at hi, fun h => by rcases hk with h1 | h1 | h1 <;> omega, hsz_8 (by rw [hne _ (by omega) (by omega) (by omega) (by omega)]; exact n2), fun h => by rcases hk with h1 | h1 | h1 <;> omega, by omega, hnext⟩
  have hbase : ∀ {r : Int × Nat × Fl}, walk L (43 + 8 * z) 8 (if (0 : Nat) = a then 44 else K 0) 40 = r → (ip6v L (43 + 8 * z)).2 = if r.2.2.code ≠ 0 then r.2.2 else ⟨0, 0, false⟩ := fun hr =>
    ip6v_walk hLl (by omega) (by rw [hne 0 (by omega) (by omega) (by omega) (by omega)]; exact P.zero) (by rw [hne 4 (by omega) (by omega) (by omega) (by omega), hne 5 (by omega) (by omega) (by omega) (by omega)]; have := P.size; omega) (Nat.le_refl _) (by rw [hK0]; exact hr)
  by_cases hf : bits .and .i64 ((u.toNat * 256 + v.toNat : Nat) : Int) 65529 = 0
  · rw [if_pos hf]
    have hnf : ¬ fragv L (40 + 8 * a) := fun h => hfr.1 h hf
    have hw := walk_on (l := L) (to := 43 + 8 * z) (fun i => if i = a then 44 else K i) z (by omega) (fun i hi => hstep i hi (fun _ => hnf))
    have hl6 : (if z = a then (44 : Int) else K z) = 6 := by rw [if_neg (by omega)]; exact P.last
    have he := hbase (hw.trans (by rw [hl6, walk_end (by decide)]))
    rw [he, if_neg (fun h => h rfl)]
  · rw [if_neg hf]
    have hw := walk_on (l := L) (to := 43 + 8 * z) (fun i => if i = a then 44 else K i) a (by omega) (fun i hi => hstep i (by omega) (fun h => by omega))
    have hk44 : (if a = a then (44 : Int) else K a) = 44 := if_pos rfl
    have hst : stepv L (43 + 8 * z) 44 (40 + 8 * a) = ⟨9, ((40 + 8 * a : Nat) : Int), true⟩ := by
      unfold stepv
      rw [if_neg (by have : hsz L 44 (40 + 8 * a) = 8 := if_pos rfl; omega), if_pos ⟨rfl, hfr.2 hf⟩]
    have he := hbase (hw.trans (by rw [hk44, show 8 - a = (7 - a) + 1 by omega, walk_bad (.inr (.inr (.inr rfl))) (fun h => by omega) (by rw [hst]; show (9 : Int) ≠ 0; decide), hst]))
    rw [he, if_pos (show (9 : Int) ≠ 0 by decide)]
end
/-- Ten heads of one kind. -/
theorem ip6v_ten {l : List UInt8} (hl : l.length = 120) (h0 : bat l 0 = 96) (hs : bat l 4 * 256 + bat l 5 = 80) (h6 : bat l 6 = 60) (hk : ∀ i, i < 10 → bat l (40 + 8 * i) = 60 ∧ bat l (40 + 8 * i + 1) = 0) : (ip6v l 120).2 = ⟨11, 104, true⟩ := by
  refine (ip6v_walk (l := l) (to := 120) (r := (0, 0, ⟨11, 104, true⟩)) hl (by omega) h0 (by omega) (by omega) ?_).trans (if_pos (show (11 : Int) ≠ 0 by decide))
  rw [h6]
  have hw := walk_on (l := l) (to := 120) (fun _ => 60) 8 (by omega) (fun i hi => by
    obtain ⟨h1, h2⟩ := hk i (by omega)
    exact ⟨.inr (.inr (.inl rfl)), fun h => by omega, hsz_8 h2, fun h => by omega, by omega, by rw [h1]; rfl⟩)
  exact hw.trans (walk_deep (.inr (.inr (.inl rfl))) (by omega))
/-- Eight bytes apart, so many bytes 60. -/
def tenv (D : List UInt8) : Nat → List UInt8
  | 0 => D
  | j + 1 => (tenv D j).set (40 + 8 * j) 60
theorem tenv_length (D : List UInt8) : ∀ j, (tenv D j).length = D.length
  | 0 => rfl
  | j + 1 => by unfold tenv; rw [List.length_set, tenv_length D j]
theorem tenv_ne (D : List UInt8) {k : Nat} : ∀ j, (∀ i, i < j → 40 + 8 * i ≠ k) → bat (tenv D j) k = bat D k
  | 0, _ => rfl
  | j + 1, h => by unfold tenv; rw [bat_ne 60 (h j (by omega)), tenv_ne D j (fun i hi => h i (by omega))]
theorem tenv_at {D : List UInt8} (hl : D.length = 120) {i : Nat} : ∀ j, j ≤ 10 → i < j → bat (tenv D j) (40 + 8 * i) = 60
  | 0, _, h => by omega
  | j + 1, hj, h => by
    unfold tenv
    by_cases e : j = i
    · subst e
      rw [bat_same 60 (by rw [tenv_length]; omega)]
      rfl
    · rw [bat_ne 60 (by omega)]
      exact tenv_at hl j (by omega) (by omega)
theorem deep_built {l : List UInt8} {z : Nat} {K : Nat → Int} (P : Pkt l z K) {D : List UInt8} (hD : l.take 40 ++ List.replicate 80 0 = D) : (ip6v (tenv (((D.set 4 0).set 5 80).set 6 60) 10) 120).2 = ⟨11, 104, true⟩ := by
  have hl := P.len
  have ht : (l.take 40).length = 40 := by rw [List.length_take]; omega
  have hDl : D.length = 120 := by rw [← hD, List.length_append, ht, List.length_replicate]
  obtain ⟨E, hE⟩ : ∃ E, ((D.set 4 0).set 5 80).set 6 60 = E := ⟨_, rfl⟩
  have hEl : E.length = 120 := by rw [← hE]; simp [hDl]
  have hz : ∀ k, 40 ≤ k → k < 120 → bat D k = 0 := fun k h1 h2 => by
    unfold bat List.getD
    rw [← hD, List.getElem?_append_right (by omega), ht, List.getElem?_replicate, if_pos (by omega)]
    rfl
  have hEn : ∀ k, k ≠ 4 → k ≠ 5 → k ≠ 6 → bat E k = bat D k := fun k h4 h5 h6 => by rw [← hE, bat_ne 60 (by omega), bat_ne 80 (by omega), bat_ne 0 (by omega)]
  have e0 : bat E 0 = 96 := by
    rw [hEn 0 (by omega) (by omega) (by omega), ← P.zero]
    unfold bat List.getD
    rw [← hD, List.getElem?_append_left (by omega), List.getElem?_take, if_pos (by omega)]
  have e4 : bat E 4 = 0 := by rw [← hE, bat_ne 60 (by omega), bat_ne 80 (by omega), bat_same 0 (by omega)]; rfl
  have e5 : bat E 5 = 80 := by rw [← hE, bat_ne 60 (by omega), bat_same 80 (by rw [List.length_set]; omega)]; rfl
  have e6 : bat E 6 = 60 := by rw [← hE, bat_same 60 (by rw [List.length_set, List.length_set]; omega)]; rfl
  rw [hE]
  refine ip6v_ten (by rw [tenv_length, hEl]) (by rw [tenv_ne E 10 (fun i hi => by omega), e0]) (by rw [tenv_ne E 10 (fun i hi => by omega), tenv_ne E 10 (fun i hi => by omega), e4, e5]) (by rw [tenv_ne E 10 (fun i hi => by omega), e6]) (fun i hi => ⟨tenv_at hEl 10 (Nat.le_refl _) hi, ?_⟩)
  rw [tenv_ne E 10 (fun j hj => by omega), hEn _ (by omega) (by omega) (by omega)]
  exact hz _ (by omega) (by omega)
end Go.Proofs.YtceigepclemdmaaDoor
