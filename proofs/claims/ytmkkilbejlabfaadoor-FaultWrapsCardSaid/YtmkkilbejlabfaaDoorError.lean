/-
  The numbers that the laws make (from 1 to 21), and their texts: (Errno).Error and (*Fault).Error hand back some text. Conditions: the number is from 1 to 21.
-/
import Derived.Test.YtmkkilbejlabfaaDoorAwake
import Derived.WalkSpells
import Derived.WalkLawsBesides
namespace Go.Proofs.YtmkkilbejlabfaaDoor
open Go.RowKit Go.Extern.Stop Go.Stop Go.Extern

theorem num21 (a : Int) : 1 ≤ wrap64 (IntKind.u64.wrap (1 + (IntKind.u64.wrap a).tmod 21)) ∧ wrap64 (IntKind.u64.wrap (1 + (IntKind.u64.wrap a).tmod 21)) ≤ 21 := by
  have h : IntKind.u64.wrap a = a % 18446744073709551616 := rfl
  have h0 : 0 ≤ IntKind.u64.wrap a := by rw [h]; omega
  have h1 : (IntKind.u64.wrap a).tmod 21 = IntKind.u64.wrap a % 21 := Int.tmod_eq_emod_of_nonneg h0
  rw [h1]
  have h2 : IntKind.u64.wrap (1 + IntKind.u64.wrap a % 21) = (1 + IntKind.u64.wrap a % 21) % 18446744073709551616 := rfl
  rw [h2]
  unfold wrap64
  omega

theorem text_some (a b : ByteArray) (h : 0 < a.size) : (a ++ b).toList.isEmpty = false := by
  rw [← decide_eq_emptyBytes]
  refine decide_eq_false fun e => ?_
  have := congrArg ByteArray.size e
  rw [ByteArray.size_append] at this
  have h0 : ByteArray.empty.size = 0 := rfl
  omega

set_option maxRecDepth 100000 in
set_option maxHeartbeats 1000000 in
theorem errno_text {w : World} (n : Int) (h1 : 1 ≤ n) (h2 : n ≤ 21) : Calls Tryd.prog 48 #[.int .i64 n] w fun e w' => ∃ s : ByteArray, e = .returned (.string s) ∧ s.size ≤ 8 ∧ Below w.heap.size w w' := by
  have hq : ((UInt8.ofNat (48 + n / 10).toNat).toNat : Int) = 48 + n / 10 := by simp; omega
  have hr : ((UInt8.ofNat (48 + n % 10).toNat).toNat : Int) = 48 + n % 10 := by simp; omega
  obtain ⟨s, hs, hx⟩ : ∃ s : ByteArray, s.size ≤ 2 ∧ (convert 104 9 (.slice (some ⟨w.heap.size, 0, none⟩) 2 2)).run Tryd.prog (w.alloc (.cells #[.int .u8 (48 + n / 10), .int .u8 (48 + n % 10)] 5)) = .ok (.string s) (w.alloc (.cells #[.int .u8 (48 + n / 10), .int .u8 (48 + n % 10)] 5)) := by
    refine ⟨_, ?_, run_convert_bytes_back (P := Tryd.prog) (w.alloc (.cells #[.int .u8 (48 + n / 10), .int .u8 (48 + n % 10)] 5)) 104 9 5 ⟨w.heap.size, 0, none⟩ 2 [UInt8.ofNat (48 + n / 10).toNat, UInt8.ofNat (48 + n % 10).toNat] Tryd.underlying104 Tryd.underlying5 Tryd.underlying9 ?_⟩
    · exact Nat.le_refl 2
    · intro j hj
      rcases j with _ | _ | j
      · show World.cell? _ ⟨w.heap.size, 0, none⟩ = some (.int .u8 ((UInt8.ofNat (48 + n / 10).toNat).toNat : Int))
        rw [hq]; simp
      · show World.cell? _ ⟨w.heap.size, 1, none⟩ = some (.int .u8 ((UInt8.ofNat (48 + n % 10).toNat).toNat : Int))
        rw [hr]; simp
      · exact absurd (show j + 1 + 1 < 2 from hj) (by omega)
  clear hq hr
  go_enter Tryd.func48, Tryd.ntmps48
  go_wp2_with fail
  go_ret
  exact ⟨_, rfl, by rw [ByteArray.size_append]; show 6 + s.size ≤ 8; omega, (Below.refl _ _).alloc (Nat.le_refl _) _⟩

set_option maxRecDepth 100000 in
set_option maxHeartbeats 1000000 in
theorem fault_text {w : World} {b : Nat} {at_ n : Int} (h1 : 1 ≤ n) (h2 : n ≤ 21) (h : Faults w 1 (.iface 44 (.pointer (some ⟨b, 0, none⟩))) [(b, at_)] n) : Calls Tryd.prog 49 #[.pointer (some ⟨b, 0, none⟩)] w fun e w' => ∃ s : ByteArray, e = .returned (.string s) ∧ s.toList.isEmpty = false ∧ Below w.heap.size w w' := by
  obtain ⟨c1, hc⟩ : ∃ v, w.cell? ⟨b, 1, none⟩ = some v ∧ v = .iface 22 (.int .i64 n) := by
    cases h with
    | fault _ _ _ v fs _ hh g0 g1 g => cases g; exact ⟨_, g1, rfl⟩
  obtain ⟨hc, rfl⟩ := hc
  have m := mErE
  clear h
  go_enter Tryd.func49, Tryd.ntmps49
  go_wp2_with (go_at_call 48; refine (errno_text n h1 h2).mono ?_; rintro e w1 ⟨s, rfl, hs, hb⟩)
  go_ret
  exact ⟨_, rfl, text_some _ _ (by decide), hb⟩
end Go.Proofs.YtmkkilbejlabfaaDoor
