/-
  sum.Over. Conditions: those of the slice; 2^47 bytes at most.
-/
import Derived.Test.YtioonjgamdompaaDoorAddr
import Derived.Test.YtioonjgamdompaaDoorAdded
namespace Go.Proofs.YtioonjgamdompaaDoor
open Go.RowKit

set_option maxRecDepth 100000 in
set_option maxHeartbeats 1000000 in
theorem over_any (v1 v2 : Bool) (a b : List UInt8) (ha : a.length = 16) (hb : b.length = 16) (proto : Int) {A : Option Addr} {n c : Nat} {l : List UInt8} {w : World} (hs : Bs w A n c l) (h47 : n ≤ 140737488355328) :
    Calls Tryd.prog 18 #[.agg (adv v1 a), .agg (adv v2 b), .int .i64 proto, .slice A n c] w fun e w' =>
      e = .returned (.int .i64 (65535 - fold (tot (aheadL v1 a b proto n) + tot l) : Nat)) ∧ Below w.heap.size w w' := by
  have A1 := (AdBox.new w v1 ha).later ((Below.refl _ _).alloc (Nat.le_refl _) (.cells (adv v2 b) 25)) (Nat.le_refl _)
  have A2 := AdBox.new (w.alloc (.cells (adv v1 a) 25)) v2 hb
  rw [World.size_alloc] at A2
  have HA := Lib.hid (And.intro A1 A2)
  have B2 := Lib.hid (((Below.refl _ w).alloc (Nat.le_refl _) (.cells (adv v1 a) 25)).alloc (by simp) (.cells (adv v2 b) 25))
  have HB := Lib.hid hs
  have ht := tot_le l
  have hl := hs.len
  have ht2 := tot_le (aheadL v1 a b proto n)
  have hl2' : (aheadL v1 a b proto n).length ≤ 40 := by cases v1 <;> simp [aheadL, putn_length, ha, hb]
  have HT := Lib.hid (show tot (aheadL v1 a b proto n) < 9223372036854775808 - 10 ∧ tot l ≤ 9223372036854775808 by omega)
  clear A1 A2 hs ht hl ht2 hl2'
  go_enter Tryd.func18, Tryd.ntmps18
  go_wp2_with (first | (refine wpList_load_ad rfl (.tmp 4) rfl rfl HA.out.1 ?_) | (refine wpList_load_ad rfl (.tmp 5) rfl rfl HA.out.2 ?_))
  refine (ahead_any v1 v2 a b ha hb proto n _).mono ?_
  rintro e w1 ⟨v1', rfl, o1, b1⟩
  obtain ⟨A', c', rfl, hB⟩ := Bs.of_own o1
  have H1 := Lib.hid (And.intro hB (B2.out.trans (b1.mono B2.out.size)))
  clear o1 b1 hB
  go_wp2_with fail
  refine (added_any H1.out.1 (by cases v1 <;> simp [aheadL, putn_length, ha, hb])).mono ?_
  rintro e w2 ⟨rfl, b2⟩
  have H2 := Lib.hid (H1.out.2.trans (b2.mono H1.out.2.size))
  clear b2
  go_wp2_with fail
  refine (added_any (HB.out.later H2.out (Nat.le_refl _)) h47).mono ?_
  rintro e w3 ⟨rfl, b3⟩
  have H3 := Lib.hid (H2.out.trans (b3.mono H2.out.size))
  have HE := Lib.hid (show IntKind.u64.wrap ((tot (aheadL v1 a b proto n) : Int) + (tot l : Int)) = ((tot (aheadL v1 a b proto n) + tot l : Nat) : Int) by rw [show ((tot (aheadL v1 a b proto n) : Int) + (tot l : Int)) = ((tot (aheadL v1 a b proto n) + tot l : Nat) : Int) by omega, u64_small _ (by have := HT.out; omega)])
  clear b3
  go_wp2_with fail
  rw [HE.out]
  refine (closed_any _ (by have := HT.out; omega) _).mono ?_
  rintro e w4 ⟨rfl, rfl⟩
  go_wp2_with fail
  go_ret
  exact ⟨rfl, H3.out⟩
end Go.Proofs.YtioonjgamdompaaDoor
