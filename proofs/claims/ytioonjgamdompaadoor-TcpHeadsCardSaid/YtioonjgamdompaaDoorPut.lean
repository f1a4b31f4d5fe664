/-
  octets.Put16, Put32: the bytes of a number behind some. Conditions: 2^47 bytes at most.
-/
import Derived.Test.YtioonjgamdompaaDoorClone
namespace Go.Proofs.YtioonjgamdompaaDoor
open Go.RowKit

/-- The lowest bytes of a number, so many, the highest first. -/
def putn (v : Int) : Nat → List UInt8
  | 0 => []
  | n + 1 => UInt8.ofNat ((v / 2 ^ (8 * n)) % 256).toNat :: putn v n
theorem putn_length (v : Int) (n : Nat) : (putn v n).length = n := by
  induction n with
  | zero => rfl
  | succ n ih => simp [putn, ih]
theorem byte_cell (x : Int) : ((UInt8.ofNat (x % 256).toNat).toNat : Int) = x % 256 := by
  have h : (x % 256).toNat < 256 := by omega
  simp only [UInt8.toNat_ofNat']
  omega

/-- Two parts, the second one a literal, as a call of slices.Concat lays them. -/
theorem pieces_lit {w : World} {A : Option Addr} {n c : Nat} {l : List UInt8} (hb : Bs w A n c l) (ys : List UInt8) (m : Nat) (hm : ys.length = m) (hmm : m ≤ maxLen) (cs : Array Value) (hcs : cs.toList = bv ys) (T U : TypeId) :
    Pieces ((w.alloc (.cells cs T)).alloc (.cells #[.slice A n c, .slice (some ⟨w.heap.size, 0, none⟩) m m] U)) (w.heap.size + 1) [⟨A, n, c, l⟩, ⟨some ⟨w.heap.size, 0, none⟩, m, m, ys⟩] := by
  have hb1 : Below w.heap.size w ((w.alloc (.cells cs T)).alloc (.cells #[.slice A n c, .slice (some ⟨w.heap.size, 0, none⟩) m m] U)) := ((Below.refl _ _).alloc (Nat.le_refl _) _).alloc (by simp) _
  intro i p hp
  match i, hp with
  | 0, hp =>
    obtain rfl := Option.some.inj hp.symm
    exact ⟨by rw [World.cell?_alloc_at _ _ _ _ (by simp)]; rfl, hb.later hb1 (Nat.le_refl _)⟩
  | 1, hp =>
    obtain rfl := Option.some.inj hp.symm
    refine ⟨by rw [World.cell?_alloc_at _ _ _ _ (by simp)]; rfl, hm, Nat.le_refl _, hmm, (fun h => by cases h), fun _ => ⟨_, _, rfl, fun i x hx => ?_⟩⟩
    rw [World.cell?_alloc_past _ _ _ (by simp), World.cell?_alloc_at _ _ _ _ rfl, ← Array.getElem?_toList, hcs, Nat.zero_add]
    unfold bv
    rw [List.getElem?_map, hx]
    rfl
  | k + 2, hp => simp at hp

set_option maxRecDepth 100000 in
set_option maxHeartbeats 400000 in
theorem put16_any {A : Option Addr} {n c : Nat} {l : List UInt8} {w : World} (hb : Bs w A n c l) (v : Int) (h47 : n ≤ 140737488350000) : Calls Tryd.prog 26 #[.slice A n c, .int .i64 v] w fun e w' =>
    ∃ v', e = .returned v' ∧ w'.ownsRow w.heap.size 5 1 v' (n + 2) (bv (l ++ putn v 2)) ∧ Below w.heap.size w w' := by
  have hp := pieces_lit hb (putn v 2) 2 (putn_length _ _) (by unfold maxLen; omega) #[.int .u8 (v / 256 % 256), .int .u8 (v % 256)] (by simp [putn, bv]; omega) 5 22
  have hc := concat_any (w.heap.size + 1) 2 2 _ _ rfl (by omega) hp (by simp [total]; omega)
  have HC := Lib.hid (And.intro hc trivial)
  have hq : Below w.heap.size w ((w.alloc (.cells #[.int .u8 (v / 256 % 256), .int .u8 (v % 256)] 5)).alloc (.cells #[.slice A n c, .slice (some ⟨w.heap.size, 0, none⟩) 2 2] 22)) := ((Below.refl _ _).alloc (Nat.le_refl _) _).alloc (by simp) _
  have HQ := Lib.hid hq
  clear hb hp hc hq
  go_enter Tryd.func26, Tryd.ntmps26
  go_wp2_with fail
  refine HC.out.1.mono ?_
  rintro e w1 ⟨v1, rfl, o1, b1⟩
  have H1 := Lib.hid (And.intro o1 b1)
  clear o1 b1
  go_wp2_with fail
  go_ret
  refine ⟨v1, rfl, ?_, HQ.out.trans (H1.out.2.mono HQ.out.size)⟩
  exact owns_base (by simpa [total, flat] using H1.out.1) (HQ.out.size)
set_option maxRecDepth 100000 in
set_option maxHeartbeats 400000 in
theorem put32_any {A : Option Addr} {n c : Nat} {l : List UInt8} {w : World} (hb : Bs w A n c l) (v : Int) (h0 : 0 ≤ v) (h32 : v < 4294967296) (h47 : n ≤ 140737488350000) : Calls Tryd.prog 27 #[.slice A n c, .int .u32 v] w fun e w' =>
    ∃ v', e = .returned v' ∧ w'.ownsRow w.heap.size 5 1 v' (n + 4) (bv (l ++ putn v 4)) ∧ Below w.heap.size w w' := by
  have hp := pieces_lit hb (putn v 4) 4 (putn_length _ _) (by unfold maxLen; omega) #[.int .u8 (v / 16777216), .int .u8 (v / 65536 % 256), .int .u8 (v / 256 % 256), .int .u8 (v % 256)] (by simp [putn, bv]; omega) 5 22
  have hc := concat_any (w.heap.size + 1) 2 2 _ _ rfl (by omega) hp (by simp [total]; omega)
  have HC := Lib.hid (And.intro hc trivial)
  have hq : Below w.heap.size w ((w.alloc (.cells #[.int .u8 (v / 16777216), .int .u8 (v / 65536 % 256), .int .u8 (v / 256 % 256), .int .u8 (v % 256)] 5)).alloc (.cells #[.slice A n c, .slice (some ⟨w.heap.size, 0, none⟩) 4 4] 22)) := ((Below.refl _ _).alloc (Nat.le_refl _) _).alloc (by simp) _
  have HQ := Lib.hid hq
  clear hb hp hc hq
  go_enter Tryd.func27, Tryd.ntmps27
  go_wp2_with fail
  refine HC.out.1.mono ?_
  rintro e w1 ⟨v1, rfl, o1, b1⟩
  have H1 := Lib.hid (And.intro o1 b1)
  clear o1 b1
  go_wp2_with fail
  go_ret
  refine ⟨v1, rfl, ?_, HQ.out.trans (H1.out.2.mono HQ.out.size)⟩
  exact owns_base (by simpa [total, flat] using H1.out.1) (HQ.out.size)
end Go.Proofs.YtioonjgamdompaaDoor
