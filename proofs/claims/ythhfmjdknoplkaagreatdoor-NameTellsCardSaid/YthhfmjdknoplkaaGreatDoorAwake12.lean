/-
  stockadelaw12.awake answers true. Conditions: what the program's text has laid (internal/bytealg.MaxLen holds an int).
-/
import Derived.Test.YthhfmjdknoplkaaGreatDoorPn12
namespace Go.Proofs.YthhfmjdknoplkaaGreatDoor
open Go.RowKit
set_option maxRecDepth 100000

theorem str_eq_lit {s : ByteArray} {l : List UInt8} (h : s.data.toList = l) : (s.toList == l) = true := by
  rw [Lib.toList_data, h]
  exact beq_self_eq_true l
theorem ReadR.fine {x : List UInt8} {k : Nat} {w w' : World} {e : Ending} (h : ReadR (.ok x k) w e w') : e = .returned (.tuple #[.string (mkS x), .int .i64 (k : Nat), .nilIface]) ∧ Below w.heap.size w w' := by
  obtain ⟨v, rfl, t, b⟩ := h
  obtain rfl := Tells.none' t rfl
  exact ⟨rfl, b⟩
theorem ReadR.no {c : Int} {a : Nat} {w w' : World} {e : Ending} (h : ReadR (.bad c a) w e w') (hc : c ≠ 0) : ∃ T x, e = .returned (.tuple #[.string ⟨#[]⟩, .int .i64 0, .iface T x]) ∧ Tells w' (.iface T x) ⟨c, a, true⟩ ∧ Below w.heap.size w w' := by
  obtain ⟨v, rfl, t, b⟩ := h
  obtain ⟨T, x, rfl⟩ := Tells.held' t hc
  exact ⟨T, x, rfl, t, b⟩
theorem read_fine {A : Option Addr} {n c : Nat} {l : List UInt8} {w : World} (hb : Bs w A n c l) (h47 : n ≤ 140737488350000) (at_ : Int) (ha : at_ ≤ 9223372036854775807) {x : List UInt8} {k : Nat} (h : readv l n at_ = .ok x k) : Calls Tryz.prog 6 #[.slice A n c, .int .i64 at_] w fun e w' => e = .returned (.tuple #[.string (mkS x), .int .i64 (k : Nat), .nilIface]) ∧ Below w.heap.size w w' := by
  have K := Read_any hb h47 at_ ha
  rw [h] at K
  exact K.mono fun _ _ h => h.fine
theorem read_no {A : Option Addr} {n c : Nat} {l : List UInt8} {w : World} (hb : Bs w A n c l) (h47 : n ≤ 140737488350000) (at_ : Int) (ha : at_ ≤ 9223372036854775807) {cd : Int} {k : Nat} (h : readv l n at_ = .bad cd k) (hc : cd ≠ 0) : Calls Tryz.prog 6 #[.slice A n c, .int .i64 at_] w fun e w' => ∃ T x, e = .returned (.tuple #[.string ⟨#[]⟩, .int .i64 0, .iface T x]) ∧ Tells w' (.iface T x) ⟨cd, k, true⟩ ∧ Below w.heap.size w w' := by
  have K := Read_any hb h47 at_ ha
  rw [h] at K
  exact K.mono fun _ _ h => h.no hc
set_option maxHeartbeats 1000000 in
theorem awake12 {w : World} (hE : Env w) : Calls Tryz.prog 4 #[] w fun e w' => e = .returned (.bool true) ∧ Below w.heap.size w w' := by
  have hB := Bs.lit w [1, 65, 0] 3 rfl (by unfold maxLen; omega) #[.int .u8 1, .int .u8 65, .int .u8 0] rfl 5
  have hW : Below w.heap.size w (w.alloc (.cells #[.int .u8 1, .int .u8 65, .int .u8 0] 5)) := (Below.refl _ _).alloc (Nat.le_refl _) _
  have K := read_fine hB (by omega) 0 (by omega) (by rw [show ((0 : Int)) = ((0 : Nat) : Int) from rfl]; exact (one_read 65 rfl).trans (if_pos (show sign (lowB 65) by decide)))
  have KR := Lib.hid (fun w1 (hb : Below w.heap.size w w1) => right_any ⟨#[97, 46, 98]⟩ (show 3 ≤ 1000000 by omega) (hE.later hb (Nat.le_refl _)))
  rw [show decide (rightN (⟨#[97, 46, 98]⟩ : ByteArray).data.toList) = true from decide_eq_true (by decide +kernel)] at KR
  have KU := Lib.hid (fun w1 => (show Calls Tryz.prog 17 #[.string ⟨#[98, 46, 97]⟩, .string ⟨#[97]⟩] w1 _ from under_any [98, 46, 97] [97] (show 3 ≤ 2000000 by omega) (show 1 ≤ 1000000 by omega) w1))
  rw [show decide (underN [98, 46, 97] [97]) = true from decide_eq_true (by decide +kernel)] at KU
  have KL := Lib.hid (fun w1 (hb : Below w.heap.size w w1) => labels_any ⟨#[97, 46, 98]⟩ (show 3 ≤ 1000000 by omega) (hE.later hb (Nat.le_refl _)))
  rw [show labsN (⟨#[97, 46, 98]⟩ : ByteArray).data.toList = [[97], [98]] from by decide +kernel] at KL
  have HK := Lib.hid (And.intro K hW)
  have hs : ((mkS [lowB 65]).toList == [97]) = true := str_eq_lit (by rw [mkS_data]; rfl)
  clear K hW hB
  go_enter Tryz.func4, Tryz.ntmps4
  go_wp2_with fail
  refine HK.out.1.mono ?_
  rintro e w1 ⟨rfl, b1⟩
  have H1 := Lib.hid (HK.out.2.trans (b1.mono HK.out.2.size))
  clear b1
  go_wp2_with fail
  refine (KR.out w1 H1.out).mono ?_
  rintro e w2 ⟨rfl, b2⟩
  have H2 := Lib.hid (H1.out.trans (b2.mono H1.out.size))
  clear b2
  go_wp2_with fail
  refine (KU.out w2).mono ?_
  rintro e w' ⟨rfl, rfl⟩
  go_wp2_with fail
  refine (KL.out w2 H2.out).mono ?_
  rintro e w3 ⟨A, n, c, rfl, hG, b3⟩
  obtain rfl : n = 2 := by have := hG.len; simpa [sv, mkSs] using this.symm
  have H3 := Lib.hid (H2.out.trans (b3.mono H2.out.size))
  clear hG b3
  go_wp2_with fail
  go_ret
  exact ⟨rfl, H3.out⟩
end Go.Proofs.YthhfmjdknoplkaaGreatDoor
