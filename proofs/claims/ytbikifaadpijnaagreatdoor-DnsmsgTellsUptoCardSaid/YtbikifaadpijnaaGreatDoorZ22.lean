/-
  octets.stretch, U16, U32, Part where so many bytes are there. Conditions: those of the slice; 2^47 bytes at most.
-/
import Derived.Test.YtbikifaadpijnaaGreatDoorZ20
import Derived.Test.YtbikifaadpijnaaGreatDoorZ19
import Derived.LaidEql
namespace Go.Proofs.YtbikifaadpijnaaGreatDoor
open Go.RowKit

set_option maxRecDepth 100000 in
/-- errors.Is of nil, at something that is not. -/
theorem Is_nil (T : TypeId) (x : Value) (w : World) : Calls Tryz.prog 43 #[.nilIface, .iface T x] w fun e w' => e = .returned (.bool false) ∧ w = w' := by
  have y1 : ∀ w : World, (binOp .eql 31 .nilIface (.iface T x)).run Tryz.prog w = .ok (.bool false) w := fun w => run_eql_iface_nil_left w T x Tryz.underlying31
  go_enter Tryz.func43, Tryz.ntmps43
  go_wp2
  go_ret
  exact ⟨rfl, rfl⟩

theorem stretch_of_cut {A : Option Addr} {n c : Nat} {at_ k : Int} {w : World} {l : List UInt8} {k' : Nat} (h : Calls Tryz.prog 105 #[.slice A n c, .int .i64 at_, .int .i64 k] w fun e w' => ∃ A' c', e = .returned (.tuple #[.slice A' k' c', .nilIface]) ∧ w = w' ∧ Bs w A' k' c' l) :
    Calls Tryz.prog 81 #[.slice A n c, .int .i64 at_, .int .i64 k] w fun e w' => ∃ A' c', e = .returned (.tuple #[.slice A' k' c', .nilIface]) ∧ w = w' ∧ Bs w A' k' c' l := by
  have H := Lib.hid h
  clear h
  go_enter Tryz.func81, Tryz.ntmps81
  go_wp2_with fail
  refine H.out.mono ?_
  rintro e w' ⟨A', c', rfl, rfl, hb⟩
  have HB := Lib.hid hb
  clear hb
  go_wp2_with fail
  refine (Is_nil _ _ _).mono ?_
  rintro e w' ⟨rfl, rfl⟩
  go_wp2_with fail
  go_ret2
  exact ⟨A', c', rfl, rfl, HB.out⟩

theorem be_from (l : List UInt8) : ∀ v : Nat, l.foldl (fun v x => v * 256 + x.toNat) v < (v + 1) * 256 ^ l.length := by
  induction l with
  | nil => intro v; simp
  | cons x l ih =>
    intro v
    have h := ih (v * 256 + x.toNat)
    have hx := x.toNat_lt
    rw [List.foldl_cons, List.length_cons, Nat.pow_succ']
    refine Nat.lt_of_lt_of_le h ?_
    rw [← Nat.mul_assoc]
    exact Nat.mul_le_mul_right _ (by omega)
theorem be_take_lt (l : List UInt8) (k : Nat) : be (l.take k) < 256 ^ k := by
  have h := be_from (l.take k) 0
  have h2 : (256 : Nat) ^ (l.take k).length ≤ 256 ^ k := Nat.pow_le_pow_right (by omega) (by rw [List.length_take]; omega)
  unfold be
  omega

theorem u16_ok {A : Option Addr} {n c : Nat} {l : List UInt8} {w : World} (hb : Bs w A n c l) (at_ : Nat) (hk : at_ + 2 ≤ n) : Calls Tryz.prog 48 #[.slice A n c, .int .i64 at_] w fun e w' =>
    e = .returned (.tuple #[.int .i64 (be ((l.drop at_).take 2) : Nat), .nilIface]) ∧ w = w' := by
  have H := Lib.hid (stretch_of_cut (cut_ok hb at_ 2 hk))
  have hlt : be ((l.drop at_).take 2) < 65536 := be_take_lt _ 2
  clear hb
  go_enter Tryz.func48, Tryz.ntmps48
  go_wp2_with fail
  refine H.out.mono ?_
  rintro e w' ⟨A', c', rfl, rfl, hb⟩
  have HB := Lib.hid hb
  clear hb
  go_wp2_with fail
  refine (number_any HB.out).mono ?_
  rintro e w' ⟨rfl, rfl⟩
  rw [Nat.mod_eq_of_lt (by omega : be ((l.drop at_).take 2) < 4294967296)]
  go_wp2_with fail
  go_ret2
  exact ⟨rfl, rfl⟩
theorem u32_ok {A : Option Addr} {n c : Nat} {l : List UInt8} {w : World} (hb : Bs w A n c l) (at_ : Nat) (hk : at_ + 4 ≤ n) : Calls Tryz.prog 84 #[.slice A n c, .int .i64 at_] w fun e w' =>
    e = .returned (.tuple #[.int .u32 (be ((l.drop at_).take 4) : Nat), .nilIface]) ∧ w = w' := by
  have H := Lib.hid (stretch_of_cut (cut_ok hb at_ 4 hk))
  have hlt : be ((l.drop at_).take 4) < 4294967296 := be_take_lt _ 4
  clear hb
  go_enter Tryz.func84, Tryz.ntmps84
  go_wp2_with fail
  refine H.out.mono ?_
  rintro e w' ⟨A', c', rfl, rfl, hb⟩
  have HB := Lib.hid hb
  clear hb
  go_wp2_with fail
  refine (number_any HB.out).mono ?_
  rintro e w' ⟨rfl, rfl⟩
  rw [Nat.mod_eq_of_lt hlt]
  go_wp2_with fail
  go_ret2
  exact ⟨rfl, rfl⟩
theorem part_of_cut {A : Option Addr} {n c : Nat} {at_ k : Int} {w : World} {l : List UInt8} {k' : Nat} (h : Calls Tryz.prog 105 #[.slice A n c, .int .i64 at_, .int .i64 k] w fun e w' => ∃ A' c', e = .returned (.tuple #[.slice A' k' c', .nilIface]) ∧ w = w' ∧ Bs w A' k' c' l) (h47 : k' ≤ 140737488355328) :
    Calls Tryz.prog 110 #[.slice A n c, .int .i64 at_, .int .i64 k] w fun e w' =>
      ∃ v', e = .returned (.tuple #[v', .nilIface]) ∧ w'.ownsRow w.heap.size 5 1 v' k' (bv l) ∧ Below w.heap.size w w' := by
  have H := Lib.hid (stretch_of_cut h)
  clear h
  go_enter Tryz.func110, Tryz.ntmps110
  go_wp2_with fail
  refine H.out.mono ?_
  rintro e w' ⟨A', c', rfl, rfl, hb⟩
  have HB := Lib.hid hb
  clear hb
  go_wp2_with fail
  refine (clone_any HB.out h47).mono ?_
  rintro e w1 ⟨v1, rfl, o1, b1⟩
  have H1 := Lib.hid (And.intro o1 b1)
  clear o1 b1
  go_wp2_with fail
  go_ret2
  exact ⟨v1, rfl, H1.out⟩
end Go.Proofs.YtbikifaadpijnaaGreatDoor
