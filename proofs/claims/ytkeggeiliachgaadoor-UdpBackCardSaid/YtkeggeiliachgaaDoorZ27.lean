/-
  Package sum's Over as one sum over what is thought ahead of the bytes; two bytes of a number. Conditions: those of the slice; 2^47 bytes at most.
  Package udp's isPort, number, told, ownOf, isRight. Conditions: those of the slice; 2^47 bytes at most.
  Package udp's Build: the bytes, or why there are none. Conditions: those of the slice; 2^47 bytes at most.
  Package udp's Parse: a datagram, or why there is none. Conditions: those of the slice; 2^47 bytes at most.
-/
import Derived.Test.YtkeggeiliachgaaDoorZ26
import Derived.Test.YtkeggeiliachgaaDoorZ18
import Derived.Test.YtkeggeiliachgaaDoorZ21
import Derived.Test.YtkeggeiliachgaaDoorZ14
import Derived.Test.YtkeggeiliachgaaDoorZ04
namespace Go.Proofs.YtkeggeiliachgaaDoor
open Go.RowKit
set_option maxRecDepth 100000

theorem ahead_even (v1 : Bool) {a b : List UInt8} (ha : a.length = 16) (hb : b.length = 16) (proto : Int) (n : Nat) : (aheadL v1 a b proto n).length % 2 = 0 := by cases v1 <;> simp [aheadL, putn_length, ha, hb]
theorem over_cks (v1 v2 : Bool) {a b : List UInt8} (ha : a.length = 16) (hb : b.length = 16) (proto : Int) {A : Option Addr} {n c : Nat} {l : List UInt8} {w : World} (hs : Bs w A n c l) (h47 : n ≤ 140737488350000) :
    Calls Tryd.prog 27 #[.agg (adv v1 a), .agg (adv v2 b), .int .i64 proto, .slice A n c] w fun e w' => e = .returned (.int .i64 (cks (aheadL v1 a b proto n ++ l) : Nat)) ∧ Below w.heap.size w w' := by
  rw [cks_append _ _ (ahead_even v1 ha hb proto n)]
  exact over_any v1 v2 a b ha hb proto hs (by omega)
theorem putn_nat {k : Nat} (h : k ≤ 65535) : putn (k : Int) 2 = [UInt8.ofNat (k / 256), UInt8.ofNat (k % 256)] := by
  have e1 : (2 : Int) ^ (8 * 1) = 256 := rfl
  have e0 : (2 : Int) ^ (8 * 0) = 1 := rfl
  simp only [putn, e1, e0, Int.ediv_one]
  rw [show ((k : Int) / 256 % 256).toNat = k / 256 by omega, show ((k : Int) % 256).toNat = k % 256 by omega]
def zad : List UInt8 := [0, 0, 0, 0, 0, 0, 0, 0, 0, 0, 0, 0, 0, 0, 0, 0]
end Go.Proofs.YtkeggeiliachgaaDoor

namespace Go.Proofs.YtkeggeiliachgaaDoor
open Go.RowKit
set_option maxRecDepth 100000

theorem isPortU_any (v : Int) (w : World) : Calls Tryd.prog 23 #[.int .i64 v] w fun e w' => e = .returned (.bool (decide (0 ≤ v ∧ v ≤ 65535))) ∧ w = w' := by
  by_cases h0 : 0 ≤ v
  · by_cases h1 : v ≤ 65535
    · rw [decide_eq_true (⟨h0, h1⟩ : 0 ≤ v ∧ v ≤ 65535)]
      go_enter Tryd.func23, Tryd.ntmps23
      go_wp2
      go_ret
      exact ⟨rfl, rfl⟩
    · rw [decide_eq_false (show ¬ (0 ≤ v ∧ v ≤ 65535) from fun h => h1 h.2)]
      go_enter Tryd.func23, Tryd.ntmps23
      go_wp2
      go_ret
      exact ⟨rfl, rfl⟩
  · rw [decide_eq_false (show ¬ (0 ≤ v ∧ v ≤ 65535) from fun h => h0 h.1)]
    go_enter Tryd.func23, Tryd.ntmps23
    go_wp2
    go_ret
    exact ⟨rfl, rfl⟩
theorem numberU_any {A : Option Addr} {n c : Nat} {l : List UInt8} {w : World} (hb : Bs w A n c l) (i : Nat) (hi : i + 2 ≤ n) : Calls Tryd.prog 20 #[.slice A n c, .int .i64 i] w fun e w' => e = .returned (.int .i64 (num2 l i)) ∧ w = w' := by
  have k := Lib.hid (u16_ok hb i hi)
  unfold num2
  clear hb
  go_enter Tryd.func20, Tryd.ntmps20
  go_wp2_with fail
  refine k.out.mono ?_
  rintro e w' ⟨rfl, rfl⟩
  go_wp2_with fail
  go_ret
  exact ⟨rfl, rfl⟩
theorem told_any (k : Nat) (w : World) : Calls Tryd.prog 26 #[.int .i64 k] w fun e w' => e = .returned (.int .i64 (nonzero k : Nat)) ∧ w = w' := by
  unfold nonzero
  by_cases h : k = 0
  · subst h
    rw [if_pos rfl]
    go_enter Tryd.func26, Tryd.ntmps26
    go_wp2
    go_ret
    exact ⟨rfl, rfl⟩
  · rw [if_neg h]
    have h' : ¬ (k : Int) = 0 := by omega
    go_enter Tryd.func26, Tryd.ntmps26
    go_wp2
    go_ret
    exact ⟨rfl, rfl⟩

/-- A datagram's own bytes, or why there are none. -/
def ownv (l : List UInt8) (n : Nat) : List UInt8 × Fl :=
  if n < 8 then ([], ⟨3, 0, true⟩)
  else if num2 l 4 < 8 ∨ n < num2 l 4 then ([], ⟨7, 4, true⟩)
  else (l.take (num2 l 4), ⟨0, 0, false⟩)
theorem right_eq (v6 : Bool) (o : Nat) (l : List UInt8) : (!decide (udpBad v6 o l)) = if num2 l 6 = 0 then !v6 else decide ((o : Int) = 0) := by
  unfold udpBad
  by_cases h0 : num2 l 6 = 0
  · rw [if_pos h0]
    cases v6 <;> simp [h0]
  · rw [if_neg h0]
    by_cases ho : o = 0 <;> simp [h0, ho]
set_option maxHeartbeats 2000000 in
theorem ownOf_any {A : Option Addr} {n c : Nat} {l : List UInt8} {w : World} (hb : Bs w A n c l) (h47 : n ≤ 140737488350000) : Calls Tryd.prog 17 #[.slice A n c] w fun e w' =>
    ∃ A' n' c' v, e = .returned (.tuple #[.slice A' n' c', v]) ∧ Bs w' A' n' c' (ownv l n).1 ∧ Tells w' v (ownv l n).2 ∧ Below w.heap.size w w' := by
  have hl := hb.len
  have HB := Lib.hid hb
  clear hb
  unfold ownv
  by_cases hs : n < 8
  · rw [if_pos hs]
    have k1 := part_any HB.out (0 : Nat) (8 : Nat) (by omega) (by omega) h47
    rw [need_short (by omega) (by omega)] at k1
    have K1 := Lib.hid k1
    clear k1
    go_enter Tryd.func17, Tryd.ntmps17
    go_wp2_with fail
    refine K1.out.mono ?_
    rintro e w2 ⟨A2, n2, c2, v2, rfl, g1, g2, g3⟩
    obtain ⟨T, x, rfl⟩ := Tells.held' g2 (by simp)
    have H2 := Lib.hid (And.intro g2 g3)
    clear g1 g2 g3
    go_wp2_with fail
    go_ret2
    exact ⟨none, 0, 0, .iface T x, rfl, Bs.nil _, H2.out⟩
  rw [if_neg hs]
  have k1 := part_any HB.out (0 : Nat) (8 : Nat) (by omega) (by omega) h47
  rw [need_there (by omega), part_there (by omega), List.drop_zero] at k1
  have K1 := Lib.hid k1
  clear k1
  have hk16 := num2_lt l 4
  obtain ⟨k, hk⟩ : ∃ k, num2 l 4 = k := ⟨_, rfl⟩
  rw [hk] at hk16 ⊢
  have HK := Lib.hid hk
  clear hk
  by_cases h5 : k < 8
  · rw [if_pos (.inl h5)]
    have k2 := fun w1 (hb1 : Below w.heap.size w w1) => part_any (HB.out.later hb1 (Nat.le_refl _)) (0 : Nat) (k : Int) (by omega) (by omega) h47
    rw [need_there (by omega), part_there (by omega)] at k2
    have K2 := Lib.hid k2
    have hq : (k : Int) < 8 := by omega
    clear k2 h5
    go_enter Tryd.func17, Tryd.ntmps17
    go_wp2_with fail
    refine K1.out.mono ?_
    rintro e w2 ⟨A2, n2, c2, v2, rfl, g1, g2, g3⟩
    obtain rfl := Tells.none' g2 rfl
    have hn2 : n2 = 8 := by rw [← g1.len, List.length_take]; omega
    subst hn2
    have k3 := numberU_any g1 4 (by omega)
    rw [num2_take (by omega), HK.out] at k3
    have H2 := Lib.hid (And.intro g3 k3)
    clear g1 g2 g3 k3
    go_wp2_with fail
    refine H2.out.2.mono ?_
    rintro e w' ⟨rfl, rfl⟩
    go_wp2_with fail
    refine (K2.out _ H2.out.1).mono ?_
    rintro e w3 ⟨A3, n3, c3, v3, rfl, g1, g2, g3⟩
    obtain rfl := Tells.none' g2 rfl
    have H3 := Lib.hid (H2.out.1.trans (g3.mono H2.out.1.size))
    clear g1 g2 g3
    go_wp2_with fail
    refine (wrap_told (a := 0) 4 (Tells.bare _ 7 (by decide) 0) (by decide)).mono ?_
    rintro e w4 ⟨v4, rfl, g1, g2⟩
    have H4 := Lib.hid (And.intro g1 (H3.out.trans (g2.mono H3.out.size)))
    clear g1 g2
    go_wp2_with fail
    go_ret2
    exact ⟨none, 0, 0, v4, rfl, Bs.nil _, H4.out⟩
  have hq : ¬ (k : Int) < 8 := by omega
  by_cases h6 : n < k
  · rw [if_pos (.inr h6)]
    have k2 := fun w1 (hb1 : Below w.heap.size w w1) => part_any (HB.out.later hb1 (Nat.le_refl _)) (0 : Nat) (k : Int) (by omega) (by omega) h47
    rw [need_short (by omega) (by omega)] at k2
    have K2 := Lib.hid k2
    clear k2 h5 h6
    go_enter Tryd.func17, Tryd.ntmps17
    go_wp2_with fail
    refine K1.out.mono ?_
    rintro e w2 ⟨A2, n2, c2, v2, rfl, g1, g2, g3⟩
    obtain rfl := Tells.none' g2 rfl
    have hn2 : n2 = 8 := by rw [← g1.len, List.length_take]; omega
    subst hn2
    have k3 := numberU_any g1 4 (by omega)
    rw [num2_take (by omega), HK.out] at k3
    have H2 := Lib.hid (And.intro g3 k3)
    clear g1 g2 g3 k3
    go_wp2_with fail
    refine H2.out.2.mono ?_
    rintro e w' ⟨rfl, rfl⟩
    go_wp2_with fail
    refine (K2.out _ H2.out.1).mono ?_
    rintro e w3 ⟨A3, n3, c3, v3, rfl, g1, g2, g3⟩
    have k4 := Is_told g2 (by simp) 3
    obtain ⟨T3, x3, rfl⟩ := Tells.held' g2 (by simp)
    have H3 := Lib.hid (H2.out.1.trans (g3.mono H2.out.1.size))
    have K4 := Lib.hid k4
    clear g1 g2 g3 k4
    go_wp2_with fail
    refine K4.out.mono ?_
    rintro e w' ⟨rfl, rfl⟩
    go_wp2_with fail
    refine (wrap_told (a := 0) 4 (Tells.bare _ 7 (by decide) 0) (by decide)).mono ?_
    rintro e w4 ⟨v4, rfl, g1, g2⟩
    have H4 := Lib.hid (And.intro g1 (H3.out.trans (g2.mono H3.out.size)))
    clear g1 g2
    go_wp2_with fail
    go_ret2
    exact ⟨none, 0, 0, v4, rfl, Bs.nil _, H4.out⟩
  · rw [if_neg (show ¬ (k < 8 ∨ n < k) by omega)]
    have k2 := fun w1 (hb1 : Below w.heap.size w w1) => part_any (HB.out.later hb1 (Nat.le_refl _)) (0 : Nat) (k : Int) (by omega) (by omega) h47
    rw [need_there (by omega), part_there (by omega), List.drop_zero] at k2
    have K2 := Lib.hid k2
    clear k2 h5 h6
    go_enter Tryd.func17, Tryd.ntmps17
    go_wp2_with fail
    refine K1.out.mono ?_
    rintro e w2 ⟨A2, n2, c2, v2, rfl, g1, g2, g3⟩
    obtain rfl := Tells.none' g2 rfl
    have hn2 : n2 = 8 := by rw [← g1.len, List.length_take]; omega
    subst hn2
    have k3 := numberU_any g1 4 (by omega)
    rw [num2_take (by omega), HK.out] at k3
    have H2 := Lib.hid (And.intro g3 k3)
    clear g1 g2 g3 k3
    go_wp2_with fail
    refine H2.out.2.mono ?_
    rintro e w' ⟨rfl, rfl⟩
    go_wp2_with fail
    refine (K2.out _ H2.out.1).mono ?_
    rintro e w3 ⟨A3, n3, c3, v3, rfl, g1, g2, g3⟩
    obtain rfl := Tells.none' g2 rfl
    have H3 := Lib.hid (And.intro g1 (H2.out.1.trans (g3.mono H2.out.1.size)))
    clear g1 g2 g3
    go_wp2_with fail
    refine (Is_nil _ _ _).mono ?_
    rintro e w' ⟨rfl, rfl⟩
    go_wp2_with fail
    go_ret2
    exact ⟨A3, n3, c3, .nilIface, rfl, H3.out.1, Tells.nil _ _ _, H3.out.2⟩

set_option maxHeartbeats 1000000 in
theorem isRight_any {A : Option Addr} {n c : Nat} {l : List UInt8} {w : World} (hb : Bs w A n c l) (h8 : 8 ≤ n) (h47 : n ≤ 140737488350000) (sv dv : Bool) {sb db : List UInt8} (hsb : sb.length = 16) (hdb : db.length = 16) :
    Calls Tryd.prog 18 #[.slice A n c, .agg (adv sv sb), .agg (adv dv db)] w fun e w' => e = .returned (.bool (!decide (udpBad sv (cks (aheadL sv sb db 17 n ++ l)) l))) ∧ Below w.heap.size w w' := by
  have A1 := AdBox.new w sv hsb
  have B1 : Below w.heap.size w (w.alloc (.cells (adv sv sb) 25)) := (Below.refl _ _).alloc (Nat.le_refl _) _
  have A2 := AdBox.new (w.alloc (.cells (adv sv sb) 25)) dv hdb
  rw [World.size_alloc] at A2
  have B2 : Below (w.heap.size + 1) (w.alloc (.cells (adv sv sb) 25)) ((w.alloc (.cells (adv sv sb) 25)).alloc (.cells (adv dv db) 25)) := (Below.refl _ _).alloc (by simp) _
  have hA := And.intro (A1.later B2 (by simp)) (And.intro A2 (B1.trans (B2.mono (by omega))))
  obtain ⟨W, hW⟩ : ∃ W, (w.alloc (.cells (adv sv sb) 25)).alloc (.cells (adv dv db) 25) = W := ⟨_, rfl⟩
  rw [hW] at hA
  have k1 := numberU_any (hb.later hA.2.2 (Nat.le_refl _)) 6 (by omega)
  have ko := over_cks sv dv hsb hdb 17 (hb.later hA.2.2 (Nat.le_refl _)) h47
  generalize cks (aheadL sv sb db 17 n ++ l) = o at ko ⊢
  rw [right_eq]
  generalize num2 l 6 = z at k1 ⊢
  have HA := Lib.hid hA
  have HW := Lib.hid hW
  have K1 := Lib.hid k1
  have KO := Lib.hid ko
  have d0 := hA.1.v6_cell
  clear A1 B1 A2 B2 hA hW hb k1 ko
  by_cases h0 : z = 0
  · subst h0
    rw [if_pos rfl]
    go_enter Tryd.func18, Tryd.ntmps18
    go_wp2_with fail
    rw [HW.out]
    refine K1.out.mono ?_
    rintro e w' ⟨rfl, rfl⟩
    go_wp2_with fail
    go_ret
    exact ⟨rfl, HA.out.2.2⟩
  · have h0' : ¬ (z : Int) = 0 := by omega
    rw [if_neg h0]
    clear d0
    go_enter Tryd.func18, Tryd.ntmps18
    go_wp2_with fail
    rw [HW.out]
    refine K1.out.mono ?_
    rintro e w' ⟨rfl, rfl⟩
    go_wp2_with (first | (refine wpList_load_ad rfl (.tmp 4) rfl rfl HA.out.1 ?_) | (refine wpList_load_ad rfl (.tmp 5) rfl rfl HA.out.2.1 ?_))
    refine KO.out.mono ?_
    rintro e w2 ⟨rfl, g2⟩
    have H2 := Lib.hid (HA.out.2.2.trans (g2.mono HA.out.2.2.size))
    clear g2
    go_wp2_with fail
    go_ret
    exact ⟨rfl, H2.out⟩
end Go.Proofs.YtkeggeiliachgaaDoor

namespace Go.Proofs.YtkeggeiliachgaaDoor
open Go.RowKit
set_option maxRecDepth 100000

theorem udpH_flat (s : Dg) (r : List UInt8) : ([] ++ putn s.sp 2 ++ putn s.dp 2 ++ putn ((8 + s.pay.length : Nat) : Int) 2) ++ ([0, 0] ++ (r ++ [])) = udpH s 0 0 ++ r := by
  simp [udpH]
/-- What Build answers. -/
def bldu (ah : List UInt8) (s : Dg) : List UInt8 := if mayD s then udpB ah s else []
def bldue (s : Dg) : Fl := if mayD s then ⟨0, 0, false⟩ else ⟨1, 0, false⟩
def BldU (ah : List UInt8) (s : Dg) (w : World) (e : Ending) (w' : World) : Prop := ∃ A' n' c' v, e = .returned (.tuple #[.slice A' n' c', v]) ∧ Bs w' A' n' c' (bldu ah s) ∧ Tells w' v (bldue s) ∧ Below w.heap.size w w'
theorem bldU_no {ah : List UInt8} {s : Dg} {w0 w : World} (h : ¬ mayD s) (hb : Below w0.heap.size w0 w) : BldU ah s w0 (.returned (.tuple #[.slice none 0 0, .iface 33 (.int .i64 1)])) w := by
  unfold BldU bldu bldue
  rw [if_neg h, if_neg h]
  exact ⟨none, 0, 0, _, rfl, Bs.nil _, Tells.bare _ 1 (by decide) 0, hb⟩
theorem bldU_yes {ah : List UInt8} {s : Dg} {w0 w : World} (h : mayD s) {A' : Option Addr} {n' c' : Nat} (hB : Bs w A' n' c' (udpB ah s)) (hb : Below w0.heap.size w0 w) : BldU ah s w0 (.returned (.tuple #[.slice A' n' c', .nilIface])) w := by
  unfold BldU bldu bldue
  rw [if_pos h, if_pos h]
  exact ⟨A', n', c', _, rfl, hB, Tells.nil _ _ _, hb⟩
theorem not_mayD {s : Dg} (h : ¬ mayD s) : decide (0 ≤ s.sp ∧ s.sp ≤ 65535) = false ∨ (decide (0 ≤ s.sp ∧ s.sp ≤ 65535) = true ∧ decide (0 ≤ s.dp ∧ s.dp ≤ 65535) = false) ∨
    (decide (0 ≤ s.sp ∧ s.sp ≤ 65535) = true ∧ decide (0 ≤ s.dp ∧ s.dp ≤ 65535) = true ∧ 65527 < s.pay.length) := by
  unfold mayD at h
  by_cases h1 : 0 ≤ s.sp ∧ s.sp ≤ 65535
  · by_cases h2 : 0 ≤ s.dp ∧ s.dp ≤ 65535
    · rw [decide_eq_true h1, decide_eq_true h2]
      exact .inr (.inr ⟨rfl, rfl, by omega⟩)
    · exact .inr (.inl ⟨decide_eq_true h1, decide_eq_false h2⟩)
  · exact .inl (decide_eq_false h1)

set_option maxHeartbeats 2000000 in
theorem build_udp {A : Option Addr} {n c : Nat} {w : World} {s : Dg} (hb : Bs w A n c s.pay) (sv dv : Bool) {sb db : List UInt8} (hsb : sb.length = 16) (hdb : db.length = 16) :
    Calls Tryd.prog 10 #[.agg (dgv s A n c), .agg (adv sv sb), .agg (adv dv db)] w (BldU (aheadL sv sb db 17 (8 + n)) s w) := by
  have hl := hb.len
  have hcap := hb.cap
  have hmax := hb.max
  unfold maxLen at hmax
  have b0 : Below w.heap.size w (w.alloc (.cells (dgv s A n c) 27)) := (Below.refl _ _).alloc (Nat.le_refl _) _
  have s0 := DgBox.new w s A n c
  have a1 := AdBox.new (w.alloc (.cells (dgv s A n c) 27)) sv hsb
  have b1 := Below.alloc (Below.refl (w.alloc (.cells (dgv s A n c) 27)).heap.size _) (Nat.le_refl _) (.cells (adv sv sb) 25)
  have a2 := AdBox.new ((w.alloc (.cells (dgv s A n c) 27)).alloc (.cells (adv sv sb) 25)) dv hdb
  have b2 := Below.alloc (Below.refl ((w.alloc (.cells (dgv s A n c) 27)).alloc (.cells (adv sv sb) 25)).heap.size _) (Nat.le_refl _) (.cells (adv dv db) 25)
  have hA := And.intro ((s0.later b1 (Nat.le_refl _)).later b2 (Nat.le_refl _)) (And.intro (a1.later b2 (Nat.le_refl _)) (And.intro a2 (b0.trans ((b1.mono b0.size).trans (b2.mono (Nat.le_trans b0.size b1.size))))))
  simp only [World.size_alloc] at hA
  obtain ⟨W, hW⟩ : ∃ W, ((w.alloc (.cells (dgv s A n c) 27)).alloc (.cells (adv sv sb) 25)).alloc (.cells (adv dv db) 25) = W := ⟨_, rfl⟩
  rw [hW] at hA
  have HA := Lib.hid hA
  unfold dgv at hW
  have HW := Lib.hid hW
  have HB := Lib.hid (hb.later hA.2.2.2 (Nat.le_refl _))
  have d0 := hA.1.cell 0
  have d1 := hA.1.cell 1
  have d2 := hA.1.cell 2
  clear b0 s0 a1 b1 a2 b2 hA hW hb
  by_cases hm : ¬ mayD s
  · have HM := Lib.hid hm
    have hnm := not_mayD hm
    rw [hl] at hnm
    clear hm
    obtain ⟨sp, dp, pay⟩ := s
    dsimp only [dgv] at d0 d1 d2 hnm
    simp only [List.getElem?_toArray, List.getElem?_cons_zero, List.getElem?_cons_succ] at d0 d1 d2
    unfold dgv
    dsimp only
    rcases hnm with h1 | ⟨h1, h2⟩ | ⟨h1, h2, h3⟩
    all_goals
      go_enter Tryd.func10, Tryd.ntmps10
      go_wp2_with (first | (rw [HW.out]; go_at_call 23; refine (isPortU_any _ _).mono ?_; rintro e w' ⟨rfl, rfl⟩) | (go_at_call 23; refine (isPortU_any _ _).mono ?_; rintro e w' ⟨rfl, rfl⟩))
      go_ret2
      exact bldU_no HM.out HA.out.2.2.2
  · have hm : mayD s := Decidable.not_not.1 hm
    have HM := Lib.hid hm
    obtain ⟨⟨m1, m2⟩, ⟨m3, m4⟩, m7⟩ := hm
    have rc : ∀ w', Below W.heap.size W w' → DgBox w' w.heap.size s A n c := fun w' h => HA.out.1.later h (Nat.le_refl _)
    obtain ⟨sp, dp, pay⟩ := s
    dsimp only [dgv] at d0 d1 d2 m1 m2 m3 m4 m7 hl
    simp only [List.getElem?_toArray, List.getElem?_cons_zero, List.getElem?_cons_succ] at d0 d1 d2
    have rc0 : ∀ w', Below W.heap.size W w' → w'.cell? ⟨w.heap.size, 0, none⟩ = some (.int .i64 sp) := fun w' h => (rc w' h).cell 0
    have rc1 : ∀ w', Below W.heap.size W w' → w'.cell? ⟨w.heap.size, 1, none⟩ = some (.int .i64 dp) := fun w' h => (rc w' h).cell 1
    have rc2 := Lib.hid (show ∀ w', Below W.heap.size W w' → w'.cell? ⟨w.heap.size, 2, none⟩ = some (.slice A n c) from fun w' h => (rc w' h).cell 2)
    have q1 : decide (0 ≤ sp ∧ sp ≤ 65535) = true := decide_eq_true ⟨m1, m2⟩
    have q2 : decide (0 ≤ dp ∧ dp ≤ 65535) = true := decide_eq_true ⟨m3, m4⟩
    have q3 : ¬ 65527 < n := by omega
    unfold dgv
    dsimp only
    clear rc
    go_enter Tryd.func10, Tryd.ntmps10
    go_wp2_with (first | (rw [HW.out]; go_at_call 23; refine (isPortU_any _ _).mono ?_; rintro e w' ⟨rfl, rfl⟩) | (go_at_call 23; refine (isPortU_any _ _).mono ?_; rintro e w' ⟨rfl, rfl⟩))
    clear d0 d1 d2
    have hS : Below W.heap.size W W.drew := (Below.refl _ _).drew
    refine rg_begin (fun w' => Below W.heap.size W w') 7 (by kernel_rfl) rfl ?_
    refine rg_take 0 (v := ?rv1) rfl (by kernel_rfl) (by kernel_rfl) (by kernel_rfl) (fun _ _ _ h => h) (by rfl) hS (fun w2 hw2 => ?ry1) ?rr1
    case ry1 => ((try dsimp only at hw2); go_simp <;> with_reducible rfl)
    simp only [Act.put, List.setIfInBounds_toArray, List.set_cons_zero, List.set_cons_succ]
    refine rg_take 3 (v := ?rv2) rfl (by kernel_rfl) (by kernel_rfl) (by kernel_rfl) (fun _ _ _ h => h) (by rfl) hS (fun w2 hw2 => ?ry2) ?rr2
    case ry2 => ((try dsimp only at hw2); go_simp <;> with_reducible rfl)
    simp only [Act.put, List.setIfInBounds_toArray, List.set_cons_zero, List.set_cons_succ]
    refine rg_take 1 (v := ?rv3) rfl (by kernel_rfl) (by kernel_rfl) (by kernel_rfl) (fun _ _ _ h => h) (by rfl) hS (fun w2 hw2 => ?ry3) ?rr3
    case ry3 => ((try dsimp only at hw2); go_simp <;> with_reducible rfl)
    simp only [Act.put, List.setIfInBounds_toArray, List.set_cons_zero, List.set_cons_succ]
    refine rg_take 4 (v := ?rv4) rfl (by kernel_rfl) (by kernel_rfl) (by kernel_rfl) (fun _ _ _ h => h) (by rfl) hS (fun w2 hw2 => ?ry4) ?rr4
    case ry4 => ((try dsimp only at hw2); go_simp <;> with_reducible rfl)
    simp only [Act.put, List.setIfInBounds_toArray, List.set_cons_zero, List.set_cons_succ]
    refine rg_step 2 rfl (by kernel_rfl) (by rfl) (fun K hK => ?_)
    go_simp
    refine (put16_any (Bs.nil _) sp (by omega)).mono ?_
    rintro e w1 ⟨v1, rfl, o1, g1⟩
    obtain ⟨A1, c1, rfl, hB1⟩ := Bs.of_own o1
    replace hS := hS.trans (g1.mono hS.size)
    have H1 := Lib.hid hB1
    clear o1 g1 hB1
    refine hK.out _ _ hS ?_
    clear hK K
    try simp only [Act.put, List.setIfInBounds_toArray, List.set_cons_zero, List.set_cons_succ]
    refine rg_step 5 rfl (by kernel_rfl) (by rfl) (fun K hK => ?_)
    go_simp
    refine (put16_any H1.out dp (by omega)).mono ?_
    rintro e w2 ⟨v2, rfl, o2, g2⟩
    obtain ⟨A2, c2, rfl, hB2⟩ := Bs.of_own o2
    replace hS := hS.trans (g2.mono hS.size)
    have H2 := Lib.hid (And.intro hB2 hS)
    clear o2 g2 hB2
    refine hK.out _ _ hS ?_
    clear hK K
    try simp only [Act.put, List.setIfInBounds_toArray, List.set_cons_zero, List.set_cons_succ]
    refine rg_take 6 (v := ?rv5) rfl (by kernel_rfl) (by kernel_rfl) (by kernel_rfl) (fun _ _ _ h => h) (by rfl) hS (fun w2 hw2 => ?ry5) ?rr5
    case ry5 => ((try dsimp only at hw2); go_simp <;> with_reducible rfl)
    simp only [Act.put, List.setIfInBounds_toArray, List.set_cons_zero, List.set_cons_succ]
    refine rg_done (by kernel_rfl) ?_
    clear hS
    have d2 := rc2.out _ H2.out.2
    go_wp2_with fail
    refine (put16_any H2.out.1 (8 + (n : Int)) (by omega)).mono ?_
    rintro e w6 ⟨v6, rfl, o6, g6⟩
    rw [show (8 + (n : Int)) = ((8 + pay.length : Nat) : Int) by omega] at o6
    obtain ⟨A6, c6, rfl, hB6⟩ := Bs.of_own o6
    have b6 := H2.out.2.trans (g6.mono H2.out.2.size)
    have hs6 := b6.size
    clear d2
    have d2 : w6.cell? ⟨w.heap.size, 2, none⟩ = some (.slice A n c) := rc2.out _ b6
    have hw6 : w.heap.size < w6.heap.size := lt_of_cell' d2
    obtain ⟨l6, hl6, hB6⟩ : ∃ l6, l6 ++ ([0, 0] ++ (pay ++ [])) = udpH ⟨sp, dp, pay⟩ 0 0 ++ pay ∧ Bs w6 A6 6 c6 l6 := ⟨_, udpH_flat ⟨sp, dp, pay⟩ pay, hB6⟩
    have HL6 := Lib.hid hl6
    have H6 := Lib.hid (And.intro hB6 b6)
    clear o6 g6 hB6 b6 hl6
    have z6 : Bs (w6.alloc (.cells #[.int .u8 0, .int .u8 0] 5)) (some ⟨w6.heap.size, 0, none⟩) 2 2 [0, 0] := Bs.lit w6 [0, 0] 2 rfl (by unfold maxLen; omega) #[.int .u8 0, .int .u8 0] rfl 5
    have hWd : Below w6.heap.size w6 (w6.alloc (.cells #[.int .u8 0, .int .u8 0] 5)) := (Below.refl _ _).alloc (Nat.le_refl _) _
    have hp := pieces_new (w := w6.alloc (.cells #[.int .u8 0, .int .u8 0] 5)) [⟨A6, 6, c6, l6⟩, ⟨some ⟨w6.heap.size, 0, none⟩, 2, 2, [0, 0]⟩, ⟨A, n, c, pay⟩] (by simp; exact ⟨H6.out.1.later hWd (Nat.le_refl _), z6, (HB.out.later H6.out.2 (Nat.le_refl _)).later hWd (Nat.le_refl _)⟩) #[.slice A6 6 c6, .slice (some ⟨w6.heap.size, 0, none⟩) 2 2, .slice A n c] rfl 22
    rw [World.size_alloc] at hp
    have kc := concat_any (w6.heap.size + 1) 3 3 _ _ rfl (by omega) hp (by simp [total]; omega)
    have bW : Below W.heap.size W ((w6.alloc (.cells #[.int .u8 0, .int .u8 0] 5)).alloc (.cells #[.slice A6 6 c6, .slice (some ⟨w6.heap.size, 0, none⟩) 2 2, .slice A n c] 22)) := (H6.out.2.alloc hs6 _).alloc (by simp; omega) _
    have HC := Lib.hid (And.intro kc bW)
    clear z6 hWd hp kc bW
    go_wp2_with fail
    refine HC.out.1.mono ?_
    rintro e w7 ⟨v7, rfl, o7, g7⟩
    have b7 := HC.out.2.trans (g7.mono HC.out.2.size)
    replace o7 := owns_base o7 HC.out.2.size
    rw [show flat [⟨A6, 6, c6, l6⟩, ⟨some ⟨w6.heap.size, 0, none⟩, 2, 2, [0, 0]⟩, ⟨A, n, c, pay⟩] = udpH ⟨sp, dp, pay⟩ 0 0 ++ pay from HL6.out] at o7
    obtain ⟨N, hN⟩ : ∃ N, N = 8 + n := ⟨_, rfl⟩
    replace o7 := owns_n (n' := N) (by simp [total]; omega) o7
    have u1 : (6 : Int) ≤ (N : Int) := by omega
    obtain ⟨g, cap, rfl, hc1, _⟩ := o7.form (by omega)
    obtain ⟨_, _, e7, hB7⟩ := Bs.of_own o7
    cases e7
    have hcap7 := hB7.cap
    have u2 : (6 : Int) ≤ (cap : Int) := by omega
    have u3 : ¬ cap = 6 := by omega
    have u4 : N ≤ 140737488350000 := by omega
    have HN := Lib.hid hN
    have u5 : 8 ≤ N := by omega
    have H7 := Lib.hid (And.intro o7 (And.intro b7 hB7))
    clear g7 b7 o7 hB7 hN d2 hw6 hs6
    go_wp2_with fail
    have hS : Below W.heap.size W w7.drew := H7.out.2.1.drew
    refine rg_begin (fun w' => Below W.heap.size W w') 9 (by kernel_rfl) rfl ?_
    refine rg_take 0 (v := ?rv6) rfl (by kernel_rfl) (by kernel_rfl) (by kernel_rfl) (fun _ _ _ h => h) (by rfl) hS (fun w2 hw2 => ?ry6) ?rr6
    case ry6 => ((try dsimp only at hw2); go_simp <;> with_reducible rfl)
    simp only [Act.put, List.setIfInBounds_toArray, List.set_cons_zero, List.set_cons_succ]
    refine rg_load 2 rfl (by kernel_rfl) (by kernel_rfl) (by kernel_rfl) ((w.heap.size+1)) 0 (adv sv sb) (fun _ _ _ h => h) (by rfl) 25 (.tmp 4) rfl rfl hS (fun w2 h2 => (AdBox.later HA.out.2.1 h2 (Nat.le_refl _)).range) Tryd.underlying25 rfl (ad_size sv HA.out.2.1.2) ?_
    simp only [Act.put, List.setIfInBounds_toArray, List.set_cons_zero, List.set_cons_succ]
    refine rg_load 3 rfl (by kernel_rfl) (by kernel_rfl) (by kernel_rfl) ((w.heap.size+1+1)) 0 (adv dv db) (fun _ _ _ h => h) (by rfl) 25 (.tmp 5) rfl rfl hS (fun w2 h2 => (AdBox.later HA.out.2.2.1 h2 (Nat.le_refl _)).range) Tryd.underlying25 rfl (ad_size dv HA.out.2.2.1.2) ?_
    simp only [Act.put, List.setIfInBounds_toArray, List.set_cons_zero, List.set_cons_succ]
    refine rg_take 4 (v := ?rv7) rfl (by kernel_rfl) (by kernel_rfl) (by kernel_rfl) (fun _ _ _ h => h) (by rfl) hS (fun w2 hw2 => ?ry7) ?rr7
    case ry7 => ((try dsimp only at hw2); go_simp <;> with_reducible rfl)
    simp only [Act.put, List.setIfInBounds_toArray, List.set_cons_zero, List.set_cons_succ]
    refine rg_take 1 (v := ?rv8) rfl (by kernel_rfl) (by kernel_rfl) (by kernel_rfl) (fun _ _ _ h => h) (by rfl) hS (fun w2 hw2 => ?ry8) ?rr8
    case ry8 => ((try dsimp only at hw2); go_simp <;> with_reducible rfl)
    simp only [Act.put, List.setIfInBounds_toArray, List.set_cons_zero, List.set_cons_succ]
    have ko := over_cks sv dv hsb hdb 17 (H7.out.2.2.later (Below.refl _ _).drew (Nat.le_refl _)) u4
    rw [show cks (aheadL sv sb db 17 N ++ (udpH ⟨sp, dp, pay⟩ 0 0 ++ pay)) = udpK (aheadL sv sb db 17 N) ⟨sp, dp, pay⟩ from rfl] at ko
    have hk16 : udpK (aheadL sv sb db 17 N) ⟨sp, dp, pay⟩ ≤ 65535 := cks_le _
    obtain ⟨k, hk0⟩ : ∃ k, udpK (aheadL sv sb db 17 N) ⟨sp, dp, pay⟩ = k := ⟨_, rfl⟩
    rw [hk0] at ko hk16
    have HK := Lib.hid hk0
    clear hk0
    refine rg_step 5 rfl (by kernel_rfl) (by rfl) (fun K hK => ?_)
    go_simp
    refine ko.mono ?_
    rintro e w8 ⟨rfl, g8⟩
    replace hS := hS.trans (g8.mono hS.size)
    have H8 := Lib.hid ((Below.refl w7.heap.size w7).drew.trans g8)
    clear g8 ko
    refine hK.out _ _ hS ?_
    clear hK K
    try simp only [Act.put, List.setIfInBounds_toArray, List.set_cons_zero, List.set_cons_succ]
    refine rg_step 6 rfl (by kernel_rfl) (by rfl) (fun K hK => ?_)
    go_simp
    refine (told_any k _).mono ?_
    rintro e w' ⟨rfl, rfl⟩
    have hk1 := nonzero_in hk16
    refine hK.out _ _ hS ?_
    clear hK K
    try simp only [Act.put, List.setIfInBounds_toArray, List.set_cons_zero, List.set_cons_succ]
    refine rg_step 7 rfl (by kernel_rfl) (by rfl) (fun K hK => ?_)
    go_simp
    refine (put16_any (Bs.nil _) (nonzero k : Nat) (by omega)).mono ?_
    rintro e w9 ⟨v9, rfl, o9, g9⟩
    rw [putn_nat hk1.2] at o9
    obtain ⟨A9, c9, rfl, hB9⟩ := Bs.of_own o9
    replace hS := hS.trans (g9.mono hS.size)
    have b79 := H8.out.trans (g9.mono H8.out.size)
    have o79 := own_kept H7.out.1 b79
    have H9 := Lib.hid (And.intro o79 hB9)
    clear o9 g9 b79 o79 hB9
    refine hK.out _ _ hS ?_
    clear hK K
    try simp only [Act.put, List.setIfInBounds_toArray, List.set_cons_zero, List.set_cons_succ]
    refine rg_step 8 rfl (by kernel_rfl) (by rfl) (fun K hK => ?_)
    refine wp_copy_own (.tmp 45) (.tmp 51) 22 rfl Tryd.underlying22 (by kernel_rfl) H9.out.1 rfl rfl H9.out.2 (by omega) (by omega) (by omega) ?_
    intro w10 o10 p10 b10
    rw [List.nil_append, udpH_splice ⟨sp, dp, pay⟩] at o10
    replace hS := b10 _ _ (Nat.le_refl _) hS
    have H10 := Lib.hid (And.intro o10 hS)
    clear o10 p10 b10
    refine hK.out _ _ hS ?_
    clear hK K
    try simp only [Act.put, List.setIfInBounds_toArray, List.set_cons_zero, List.set_cons_succ]
    refine rg_done (by kernel_rfl) ?_
    clear hS
    go_wp2_with fail
    go_ret2
    obtain ⟨_, _, e10, hB10⟩ := Bs.of_own H10.out.1
    cases e10
    rw [← HK.out, HN.out] at hB10
    rw [HN.out]
    exact bldU_yes HM.out hB10 (HA.out.2.2.2.trans (H10.out.2.mono HA.out.2.2.2.size))
end Go.Proofs.YtkeggeiliachgaaDoor

namespace Go.Proofs.YtkeggeiliachgaaDoor
open Go.RowKit
set_option maxRecDepth 100000

theorem udpv_no {v6 : Bool} {l : List UInt8} {n : Nat} (o : Nat) (h : (ownv l n).2.code ≠ 0) : udpv v6 o l n = (.zero, (ownv l n).2) := by
  unfold ownv at h ⊢
  unfold udpv
  by_cases h1 : n < 8
  · rw [if_pos h1, if_pos h1]
  · rw [if_neg h1] at h ⊢
    rw [if_neg h1]
    by_cases h2 : num2 l 4 < 8 ∨ n < num2 l 4
    · rw [if_pos h2, if_pos h2]
    · rw [if_neg h2] at h
      exact absurd rfl h
theorem udpv_yes {v6 : Bool} {l : List UInt8} {n : Nat} (o : Nat) (h : (ownv l n).2.code = 0) : 8 ≤ n ∧ 8 ≤ num2 l 4 ∧ num2 l 4 ≤ n ∧ ownv l n = (l.take (num2 l 4), ⟨0, 0, false⟩) ∧
    udpv v6 o l n = if udpBad v6 o l then (.zero, ⟨8, 6, true⟩) else (⟨num2 l 0, num2 l 2, (l.take (num2 l 4)).drop 8⟩, ⟨0, 0, false⟩) := by
  unfold ownv at h ⊢
  unfold udpv
  by_cases h1 : n < 8
  · rw [if_pos h1] at h
    exact absurd h (by decide)
  · rw [if_neg h1] at h ⊢
    rw [if_neg h1]
    by_cases h2 : num2 l 4 < 8 ∨ n < num2 l 4
    · rw [if_pos h2] at h
      exact absurd h (by decide)
    · rw [if_neg h2, if_neg h2]
      exact ⟨by omega, by omega, by omega, rfl, rfl⟩
theorem udpBad_take {v6 : Bool} {o k : Nat} {l : List UInt8} (h : 8 ≤ k) : udpBad v6 o (l.take k) ↔ udpBad v6 o l := by unfold udpBad; rw [num2_take h]
/-- What Parse hands back. -/
def ParU (r : Dg × Fl) (w : World) (e : Ending) (w' : World) : Prop := ∃ A' n' c' v, e = .returned (.tuple #[.agg (dgv r.1 A' n' c'), v]) ∧ Bs w' A' n' c' r.1.pay ∧ Tells w' v r.2 ∧ Below w.heap.size w w'
set_option maxHeartbeats 2000000 in
theorem parse_udp {A : Option Addr} {n c : Nat} {l : List UInt8} {w : World} (hb : Bs w A n c l) (h47 : n ≤ 140737488350000) (sv dv : Bool) {sb db : List UInt8} (hsb : sb.length = 16) (hdb : db.length = 16) :
    Calls Tryd.prog 7 #[.slice A n c, .agg (adv sv sb), .agg (adv dv db)] w (ParU (udpv sv (udpO (aheadL sv sb db 17) l) l n) w) := by
  have hl := hb.len
  have HB := Lib.hid hb
  have A1 := AdBox.new w sv hsb
  have B1 : Below w.heap.size w (w.alloc (.cells (adv sv sb) 25)) := (Below.refl _ _).alloc (Nat.le_refl _) _
  have A2 := AdBox.new (w.alloc (.cells (adv sv sb) 25)) dv hdb
  rw [World.size_alloc] at A2
  have B2 : Below (w.heap.size + 1) (w.alloc (.cells (adv sv sb) 25)) ((w.alloc (.cells (adv sv sb) 25)).alloc (.cells (adv dv db) 25)) := (Below.refl _ _).alloc (by simp) _
  have hA := And.intro (A1.later B2 (by simp)) (And.intro A2 (B1.trans (B2.mono (by omega))))
  obtain ⟨W, hW⟩ : ∃ W, (w.alloc (.cells (adv sv sb) 25)).alloc (.cells (adv dv db) 25) = W := ⟨_, rfl⟩
  rw [hW] at hA
  have HA := Lib.hid hA
  have HW := Lib.hid hW
  clear A1 B1 A2 B2 hA hW hb
  have kh := fun w1 (hb1 : Below w.heap.size w w1) => ownOf_any (HB.out.later hb1 (Nat.le_refl _)) h47
  by_cases hf : (ownv l n).2.code ≠ 0
  · rw [udpv_no _ hf]
    generalize (ownv l n).2 = f at hf kh ⊢
    have KH := Lib.hid kh
    clear kh
    go_enter Tryd.func7, Tryd.ntmps7
    go_wp2_with (rw [HW.out]; refine wpList_alloc_dg rfl rfl ?_; intro w1 a1 b1 z1; have H1 := Lib.hid (And.intro a1 (HA.out.2.2.trans (b1.mono HA.out.2.2.size))); clear a1 b1 z1)
    refine (KH.out _ H1.out.2).mono ?_
    rintro e w2 ⟨A2, n2, c2, v2, rfl, g1, g2, g3⟩
    obtain ⟨T, x, rfl⟩ := Tells.held' g2 hf
    have H2 := Lib.hid (And.intro (H1.out.1.later g3 (Nat.le_refl _)) (And.intro g2 (H1.out.2.trans (g3.mono H1.out.2.size))))
    have hg : w.heap.size ≤ W.heap.size := HA.out.2.2.size
    clear g1 g2 g3
    go_wp2_with (refine wpList_store_dg rfl (.tmp 6) (.tmp 17) rfl .zero none 0 0 rfl rfl H2.out.1 ?_; intro w3 a3 o3 z3 b3; have H3 := Lib.hid (And.intro a3 (And.intro (b3 w.heap.size w hg H2.out.2.2) (H2.out.2.1.farDg H2.out.1 o3))); clear a3 o3 z3 b3)
    exact bodyPost_ret (results_dg_tmp rfl _ rfl H3.out.1) rfl ⟨none, 0, 0, .iface T x, rfl, Bs.nil _, H3.out.2.2, H3.out.2.1⟩
  · obtain ⟨hn, hh5, hhn, e1, e2⟩ := udpv_yes (v6 := sv) (udpO (aheadL sv sb db 17) l) (by omega : (ownv l n).2.code = 0)
    rw [e2]
    rw [e1] at kh
    clear e1 e2 hf
    unfold udpO
    generalize num2 l 4 = k at hh5 hhn kh ⊢
    have ko := fun w1 A1 c1 (hb1 : Bs w1 A1 k c1 (l.take k)) => isRight_any hb1 hh5 (by omega) sv dv hsb hdb
    generalize cks (aheadL sv sb db 17 k ++ l.take k) = o at ko ⊢
    have KH := Lib.hid kh
    have KO := Lib.hid ko
    clear kh ko
    by_cases ho : udpBad sv o l
    · rw [if_pos ho]
      rw [decide_eq_true ((udpBad_take hh5).2 ho)] at KO
      clear ho
      go_enter Tryd.func7, Tryd.ntmps7
      go_wp2_with (rw [HW.out]; refine wpList_alloc_dg rfl rfl ?_; intro w1 a1 b1 z1; have H1 := Lib.hid (And.intro (HA.out.1.later b1 (Nat.le_refl _)) (And.intro (HA.out.2.1.later b1 (Nat.le_refl _)) (And.intro a1 (HA.out.2.2.trans (b1.mono HA.out.2.2.size))))); clear a1 b1 z1)
      refine (KH.out _ H1.out.2.2.2).mono ?_
      rintro e w2 ⟨A2, n2, c2, v2, rfl, g1, g2, g3⟩
      obtain rfl := Tells.none' g2 rfl
      obtain rfl : k = n2 := by rw [← g1.len, List.length_take]; omega
      have H2 := Lib.hid (And.intro (H1.out.1.later g3 (Nat.le_refl _)) (And.intro (H1.out.2.1.later g3 (Nat.le_refl _)) (And.intro (H1.out.2.2.1.later g3 (Nat.le_refl _)) (And.intro (H1.out.2.2.2.trans (g3.mono H1.out.2.2.2.size)) g1))))
      clear g1 g2 g3
      go_wp2_with (first | (refine wpList_load_ad rfl (.tmp 4) rfl rfl H2.out.1 ?_) | (refine wpList_load_ad rfl (.tmp 5) rfl rfl H2.out.2.1 ?_))
      refine (KO.out _ _ _ H2.out.2.2.2.2).mono ?_
      rintro e w3 ⟨rfl, g3⟩
      have H3 := Lib.hid (And.intro (H2.out.2.2.1.later g3 (Nat.le_refl _)) (H2.out.2.2.2.1.trans (g3.mono H2.out.2.2.2.1.size)))
      clear g3
      go_wp2_with fail
      refine (wrap_told (a := 0) 6 (Tells.bare _ 8 (by decide) 0) (by decide)).mono ?_
      rintro e w4 ⟨v4, rfl, g1, g2⟩
      have H4 := Lib.hid (And.intro (H3.out.1.later g2 (Nat.le_refl _)) (And.intro g1 (H3.out.2.trans (g2.mono H3.out.2.size))))
      have hg : w.heap.size ≤ W.heap.size := HA.out.2.2.size
      clear g1 g2
      go_wp2_with (refine wpList_store_dg rfl (.tmp 6) (.tmp 24) rfl .zero none 0 0 rfl rfl H4.out.1 ?_; intro w5 a3 o3 z3 b3; have H5 := Lib.hid (And.intro a3 (And.intro (b3 w.heap.size w hg H4.out.2.2) (H4.out.2.1.farDg H4.out.1 o3))); clear a3 o3 z3 b3)
      exact bodyPost_ret (results_dg_tmp rfl _ rfl H5.out.1) rfl ⟨none, 0, 0, v4, rfl, Bs.nil _, H5.out.2.2, H5.out.2.1⟩
    · rw [if_neg ho]
      rw [decide_eq_false (fun h => ho ((udpBad_take hh5).1 h))] at KO
      clear ho
      have q2 : (8 : Int) ≤ (k : Int) := by omega
      go_enter Tryd.func7, Tryd.ntmps7
      go_wp2_with (rw [HW.out]; refine wpList_alloc_dg rfl rfl ?_; intro w1 a1 b1 z1; have H1 := Lib.hid (And.intro (HA.out.1.later b1 (Nat.le_refl _)) (And.intro (HA.out.2.1.later b1 (Nat.le_refl _)) (And.intro a1 (HA.out.2.2.trans (b1.mono HA.out.2.2.size))))); clear a1 b1 z1)
      refine (KH.out _ H1.out.2.2.2).mono ?_
      rintro e w2 ⟨A2, n2, c2, v2, rfl, g1, g2, g3⟩
      obtain rfl := Tells.none' g2 rfl
      obtain rfl : k = n2 := by rw [← g1.len, List.length_take]; omega
      have H2 := Lib.hid (And.intro (H1.out.1.later g3 (Nat.le_refl _)) (And.intro (H1.out.2.1.later g3 (Nat.le_refl _)) (And.intro (H1.out.2.2.1.later g3 (Nat.le_refl _)) (And.intro (H1.out.2.2.2.trans (g3.mono H1.out.2.2.2.size)) g1))))
      clear g1 g2 g3
      go_wp2_with (first | (refine wpList_load_ad rfl (.tmp 4) rfl rfl H2.out.1 ?_) | (refine wpList_load_ad rfl (.tmp 5) rfl rfl H2.out.2.1 ?_))
      refine (KO.out _ _ _ H2.out.2.2.2.2).mono ?_
      rintro e w3 ⟨rfl, g3⟩
      have hB3 := H2.out.2.2.2.2.later g3 (Nat.le_refl _)
      have H3 := Lib.hid (And.intro (H2.out.2.2.1.later g3 (Nat.le_refl _)) (And.intro (H2.out.2.2.2.1.trans (g3.mono H2.out.2.2.2.1.size)) hB3))
      clear g3
      obtain ⟨b0, off0, rfl, _⟩ := hB3.here (by omega)
      have hcap := hB3.cap
      have hmax := hB3.max
      unfold maxLen at hmax
      have q1 : (8 : Int) ≤ (c2 : Int) := by omega
      have q3 : c2 = 8 ∨ ¬ c2 = 8 := by omega
      rcases q3 with q3 | q3
      · obtain rfl : c2 = 8 := q3
        obtain rfl : k = 8 := by omega
        have hp0 := Bs.empty w3 (some ⟨b0, off0, none⟩) (c := 0) (by unfold maxLen; omega) (by simp)
        rw [show ([] : List UInt8) = (l.take 8).drop 8 from (List.drop_of_length_le (by rw [List.length_take]; omega)).symm] at hp0
        have HP := Lib.hid hp0
        clear hp0 hB3
        go_wp2_with fail
        have hS : Below w.heap.size w w3.drew := H3.out.2.1.drew
        have n0 := numberU_any (H3.out.2.2.later (Below.refl _ _).drew (Nat.le_refl _)) 0 (by omega)
        rw [num2_take (by omega)] at n0
        have n2 := numberU_any (H3.out.2.2.later (Below.refl _ _).drew (Nat.le_refl _)) 2 (by omega)
        rw [num2_take (by omega)] at n2
        refine rg_begin (fun w' => Below w.heap.size w w') 9 (by kernel_rfl) rfl ?_
        refine rg_take 0 (v := ?rv1) rfl (by kernel_rfl) (by kernel_rfl) (by kernel_rfl) (fun _ _ _ h => h) (by rfl) hS (fun w2 hw2 => ?ry1) ?rr1
        case ry1 => ((try dsimp only at hw2); go_simp <;> with_reducible rfl)
        simp only [Act.put, List.setIfInBounds_toArray, List.set_cons_zero, List.set_cons_succ]
        refine rg_take 2 (v := ?rv2) rfl (by kernel_rfl) (by kernel_rfl) (by kernel_rfl) (fun _ _ _ h => h) (by rfl) hS (fun w2 hw2 => ?ry2) ?rr2
        case ry2 => ((try dsimp only at hw2); go_simp <;> with_reducible rfl)
        simp only [Act.put, List.setIfInBounds_toArray, List.set_cons_zero, List.set_cons_succ]
        refine rg_take 4 (v := ?rv3) rfl (by kernel_rfl) (by kernel_rfl) (by kernel_rfl) (fun _ _ _ h => h) (by rfl) hS (fun w2 hw2 => ?ry3) ?rr3
        case ry3 => ((try dsimp only at hw2); go_simp <;> with_reducible rfl)
        simp only [Act.put, List.setIfInBounds_toArray, List.set_cons_zero, List.set_cons_succ]
        refine rg_take 5 (v := ?rv4) rfl (by kernel_rfl) (by kernel_rfl) (by kernel_rfl) (fun _ _ _ h => h) (by rfl) hS (fun w2 hw2 => ?ry4) ?rr4
        case ry4 => ((try dsimp only at hw2); go_simp <;> with_reducible rfl)
        simp only [Act.put, List.setIfInBounds_toArray, List.set_cons_zero, List.set_cons_succ]
        refine rg_step 1 rfl (by kernel_rfl) (by rfl) (fun K hK => ?_)
        go_simp
        refine n0.mono ?_
        rintro e w' ⟨rfl, rfl⟩
        refine hK.out _ _ hS ?_
        clear hK K
        try simp only [Act.put, List.setIfInBounds_toArray, List.set_cons_zero, List.set_cons_succ]
        refine rg_step 3 rfl (by kernel_rfl) (by rfl) (fun K hK => ?_)
        go_simp
        refine n2.mono ?_
        rintro e w' ⟨rfl, rfl⟩
        refine hK.out _ _ hS ?_
        clear hK K
        try simp only [Act.put, List.setIfInBounds_toArray, List.set_cons_zero, List.set_cons_succ]
        refine rg_step 6 rfl (by kernel_rfl) (by rfl) (fun K hK => ?_)
        refine wp_build_dg (.tmp 28) (.tmp 30) (.tmp 32) rfl ⟨num2 l 0, num2 l 2, (l.take 8).drop 8⟩ _ _ _ rfl rfl rfl ?_
        refine hK.out _ _ hS ?_
        clear hK K
        try simp only [Act.put, List.setIfInBounds_toArray, List.set_cons_zero, List.set_cons_succ]
        refine rg_step 7 rfl (by kernel_rfl) (by rfl) (fun K hK => ?_)
        refine wp_store_dgF (.tmp 6) (.tmp 33) rfl ⟨num2 l 0, num2 l 2, (l.take 8).drop 8⟩ _ _ _ rfl rfl (H3.out.1.later (Below.refl _ _).drew (Nat.le_refl _)) ?_
        intro w5 a5 o5 b5
        replace hS : Below w.heap.size w w5 := b5 _ _ HA.out.2.2.size hS
        have H5 := Lib.hid (And.intro a5 (And.intro hS ((HP.out.later (Below.refl _ _).drew (Nat.le_refl _)).farDg (H3.out.1.later (Below.refl _ _).drew (Nat.le_refl _)) o5)))
        clear a5 o5 b5
        refine hK.out _ _ hS ?_
        clear hK K
        simp only [Act.put]
        refine rg_take 8 (v := ?rv5) rfl (by kernel_rfl) (by kernel_rfl) (by kernel_rfl) (fun _ _ _ h => h) (by rfl) hS (fun w2 hw2 => ?ry5) ?rr5
        case ry5 => ((try dsimp only at hw2); go_simp <;> with_reducible rfl)
        simp only [Act.put, List.setIfInBounds_toArray, List.set_cons_zero, List.set_cons_succ]
        refine rg_done (by kernel_rfl) ?_
        clear hS
        go_wp2_with fail
        exact bodyPost_ret (results_dg_tmp rfl _ rfl H5.out.1) rfl ⟨_, _, _, .nilIface, rfl, H5.out.2.2, Tells.nil _ _ _, H5.out.2.1⟩
      · have hcut := hB3.cut (i := 8) (k := k - 8) (by omega) (A' := some ⟨b0, off0 + 8, none⟩) (fun _ => by simp [add_plain]) (by simp)
        rw [List.take_of_length_le (by rw [List.length_drop, List.length_take]; omega)] at hcut
        have HP := Lib.hid hcut
        clear hcut hB3
        go_wp2_with fail
        have hS : Below w.heap.size w w3.drew := H3.out.2.1.drew
        have n0 := numberU_any (H3.out.2.2.later (Below.refl _ _).drew (Nat.le_refl _)) 0 (by omega)
        rw [num2_take (by omega)] at n0
        have n2 := numberU_any (H3.out.2.2.later (Below.refl _ _).drew (Nat.le_refl _)) 2 (by omega)
        rw [num2_take (by omega)] at n2
        refine rg_begin (fun w' => Below w.heap.size w w') 9 (by kernel_rfl) rfl ?_
        refine rg_take 0 (v := ?rv6) rfl (by kernel_rfl) (by kernel_rfl) (by kernel_rfl) (fun _ _ _ h => h) (by rfl) hS (fun w2 hw2 => ?ry6) ?rr6
        case ry6 => ((try dsimp only at hw2); go_simp <;> with_reducible rfl)
        simp only [Act.put, List.setIfInBounds_toArray, List.set_cons_zero, List.set_cons_succ]
        refine rg_take 2 (v := ?rv7) rfl (by kernel_rfl) (by kernel_rfl) (by kernel_rfl) (fun _ _ _ h => h) (by rfl) hS (fun w2 hw2 => ?ry7) ?rr7
        case ry7 => ((try dsimp only at hw2); go_simp <;> with_reducible rfl)
        simp only [Act.put, List.setIfInBounds_toArray, List.set_cons_zero, List.set_cons_succ]
        refine rg_take 4 (v := ?rv8) rfl (by kernel_rfl) (by kernel_rfl) (by kernel_rfl) (fun _ _ _ h => h) (by rfl) hS (fun w2 hw2 => ?ry8) ?rr8
        case ry8 => ((try dsimp only at hw2); go_simp <;> with_reducible rfl)
        simp only [Act.put, List.setIfInBounds_toArray, List.set_cons_zero, List.set_cons_succ]
        refine rg_take 5 (v := ?rv9) rfl (by kernel_rfl) (by kernel_rfl) (by kernel_rfl) (fun _ _ _ h => h) (by rfl) hS (fun w2 hw2 => ?ry9) ?rr9
        case ry9 => ((try dsimp only at hw2); go_simp <;> with_reducible rfl)
        simp only [Act.put, List.setIfInBounds_toArray, List.set_cons_zero, List.set_cons_succ]
        refine rg_step 1 rfl (by kernel_rfl) (by rfl) (fun K hK => ?_)
        go_simp
        refine n0.mono ?_
        rintro e w' ⟨rfl, rfl⟩
        refine hK.out _ _ hS ?_
        clear hK K
        try simp only [Act.put, List.setIfInBounds_toArray, List.set_cons_zero, List.set_cons_succ]
        refine rg_step 3 rfl (by kernel_rfl) (by rfl) (fun K hK => ?_)
        go_simp
        refine n2.mono ?_
        rintro e w' ⟨rfl, rfl⟩
        refine hK.out _ _ hS ?_
        clear hK K
        try simp only [Act.put, List.setIfInBounds_toArray, List.set_cons_zero, List.set_cons_succ]
        refine rg_step 6 rfl (by kernel_rfl) (by rfl) (fun K hK => ?_)
        refine wp_build_dg (.tmp 28) (.tmp 30) (.tmp 32) rfl ⟨num2 l 0, num2 l 2, (l.take k).drop 8⟩ _ _ _ rfl rfl rfl ?_
        refine hK.out _ _ hS ?_
        clear hK K
        try simp only [Act.put, List.setIfInBounds_toArray, List.set_cons_zero, List.set_cons_succ]
        refine rg_step 7 rfl (by kernel_rfl) (by rfl) (fun K hK => ?_)
        refine wp_store_dgF (.tmp 6) (.tmp 33) rfl ⟨num2 l 0, num2 l 2, (l.take k).drop 8⟩ _ _ _ rfl rfl (H3.out.1.later (Below.refl _ _).drew (Nat.le_refl _)) ?_
        intro w5 a5 o5 b5
        replace hS : Below w.heap.size w w5 := b5 _ _ HA.out.2.2.size hS
        have H5 := Lib.hid (And.intro a5 (And.intro hS ((HP.out.later (Below.refl _ _).drew (Nat.le_refl _)).farDg (H3.out.1.later (Below.refl _ _).drew (Nat.le_refl _)) o5)))
        clear a5 o5 b5
        refine hK.out _ _ hS ?_
        clear hK K
        simp only [Act.put]
        refine rg_take 8 (v := ?rv10) rfl (by kernel_rfl) (by kernel_rfl) (by kernel_rfl) (fun _ _ _ h => h) (by rfl) hS (fun w2 hw2 => ?ry10) ?rr10
        case ry10 => ((try dsimp only at hw2); go_simp <;> with_reducible rfl)
        simp only [Act.put, List.setIfInBounds_toArray, List.set_cons_zero, List.set_cons_succ]
        refine rg_done (by kernel_rfl) ?_
        clear hS
        go_wp2_with fail
        exact bodyPost_ret (results_dg_tmp rfl _ rfl H5.out.1) rfl ⟨_, _, _, .nilIface, rfl, H5.out.2.2, Tells.nil _ _ _, H5.out.2.1⟩
end Go.Proofs.YtkeggeiliachgaaDoor
