/-
  stockadelaw07.awake answers true; numbers cut by a remainder. No conditions.
-/
import Derived.Test.YtceigepclemdmaaDoorPar7
import Derived.Test.YtceigepclemdmaaDoorBld7
import Derived.Test.YtceigepclemdmaaDoorBuilt7
namespace Go.Proofs.YtceigepclemdmaaDoor
open Go.RowKit
set_option maxRecDepth 100000

theorem num_mod7 (a : Int) (m : Int) (h0 : 0 < m) (h1 : m ≤ 1000000) : 0 ≤ wrap64 ((IntKind.u64.wrap a).tmod m) ∧ wrap64 ((IntKind.u64.wrap a).tmod m) < m := by
  have h : IntKind.u64.wrap a = a % 18446744073709551616 := rfl
  have h2 : 0 ≤ IntKind.u64.wrap a := by rw [h]; omega
  rw [Int.tmod_eq_emod_of_nonneg h2]
  have h3 := Int.emod_nonneg (IntKind.u64.wrap a) (show m ≠ 0 by omega)
  have h4 := Int.emod_lt_of_pos (IntKind.u64.wrap a) h0
  generalize IntKind.u64.wrap a % m = x at h3 h4
  unfold wrap64
  omega
theorem build_yes6 {sv dv : Bool} {proto : Int} {ks : List Int} {n : Nat} (h : may6 sv dv proto ks n) (a b l : List UInt8) : build6v sv dv a b proto ks n l = built6 a b proto ks n l ∧ build6e sv dv proto ks n = ⟨0, 0, false⟩ := ⟨by unfold build6v; rw [if_pos h], by unfold build6e; rw [if_pos h]⟩
theorem build_no6 {sv dv : Bool} {proto : Int} {ks : List Int} {n : Nat} (h : ¬ may6 sv dv proto ks n) (a b l : List UInt8) : build6v sv dv a b proto ks n l = [] ∧ build6e sv dv proto ks n = ⟨1, 0, false⟩ := ⟨by unfold build6v; rw [if_neg h], by unfold build6e; rw [if_neg h]⟩
theorem may_awake : may6 true true 17 [0, 60] 1 := by
  refine ⟨rfl, rfl, by omega, by decide, by decide, ?_, by decide⟩
  intro i k h
  match i, h with
  | 0, h => obtain rfl := Option.some.inj h.symm; exact ⟨by decide, fun _ => rfl⟩
  | 1, h => obtain rfl := Option.some.inj h.symm; exact ⟨by decide, fun h => by cases h⟩
  | i + 2, h => simp at h

set_option maxHeartbeats 1000000 in
theorem awake07 (w : World) : Calls Tryd.prog 6 #[] w fun e w' => e = .returned (.bool true) ∧ Below w.heap.size w w' := by
  have B0 : Below w.heap.size w ((w.alloc (.cells #[.int .i64 0, .int .i64 60] 3)).alloc (.cells #[.int .u8 9] 5)) := ((Below.refl _ _).alloc (Nat.le_refl _) _).alloc (by simp) _
  have hz : Gs ((w.alloc (.cells #[.int .i64 0, .int .i64 60] 3)).alloc (.cells #[.int .u8 9] 5)) (some ⟨w.heap.size, 0, none⟩) 2 2 (zv [0, 60]) := (Gs.lit w (zv [0, 60]) 2 rfl (by unfold maxLen; omega) #[.int .i64 0, .int .i64 60] rfl 3).later ((Below.refl _ _).alloc (Nat.le_refl _) _) (Nat.le_refl _)
  have hb : Bs ((w.alloc (.cells #[.int .i64 0, .int .i64 60] 3)).alloc (.cells #[.int .u8 9] 5)) (some ⟨w.heap.size + 1, 0, none⟩) 1 1 [9] := Bs.lit_at _ _ (by simp) [9] 1 rfl (by unfold maxLen; omega) #[.int .u8 9] rfl 5
  have k1 := build_ip6 true true (sb := z16') (db := z16') rfl rfl 17 hz hb
  unfold BldR at k1
  rw [(build_yes6 may_awake _ _ _).1, (build_yes6 may_awake [] [] []).2] at k1
  have hlen := built6_length (a := z16') (b := z16') rfl rfl 17 [0, 60] (n := 1) (l := [9]) rfl
  have hip := ip6v_built_self (a := z16') (b := z16') rfl rfl may_awake (l := [9]) rfl (N := 57) rfl
  have K1 := Lib.hid (And.intro k1 (And.intro B0 (And.intro hlen hip)))
  clear k1 B0 hz hb hlen hip
  go_enter Tryd.func6, Tryd.ntmps6
  go_wp2_with fail
  refine K1.out.1.mono ?_
  rintro e w1 ⟨A1, n1, c1, v1, rfl, hb1, t1, b1⟩
  obtain rfl := Tells.none' t1 rfl
  obtain rfl : 57 = n1 := by rw [← hb1.len, K1.out.2.2.1]; rfl
  have H1 := Lib.hid (And.intro hb1 (K1.out.2.1.trans (b1.mono K1.out.2.1.size)))
  clear hb1 t1 b1
  go_wp2_with fail
  have k2 := parse_ip6 H1.out.1 (by omega)
  rw [K1.out.2.2.2] at k2
  refine k2.mono ?_
  rintro e w2 ⟨v2, rfl, t2, b2⟩
  obtain rfl := Tells.none' t2 rfl
  have H2 := Lib.hid (H1.out.2.trans (b2.mono H1.out.2.size))
  clear k2 t2 b2
  go_wp2_with (first
    | (refine wpList_alloc_hd rfl rfl ?_; intro w3 a3 b3 z3; have H3 := Lib.hid (And.intro a3 (And.intro (H2.out.trans (b3.mono H2.out.size)) b3)); clear a3 b3 z3)
    | (refine wpList_store_hd rfl (.tmp 3) (.tmp 16) rfl _ rfl rfl ⟨rfl, rfl⟩ H3.out.1 ?_; intro w4 a4 o4 z4 b4; have c1 := a4.proto; have c2 := a4.from_; have c3 := a4.to; dsimp only at c1 c2 c3; have H4 := Lib.hid (b4 w.heap.size w H2.out.size H3.out.2.1); clear a4 o4 z4 b4))
  go_ret
  exact ⟨rfl, H4.out⟩
end Go.Proofs.YtceigepclemdmaaDoor
