/-
  '==' of two addresses, inside of structs. No conditions.
-/
import Derived.Test.YtbikifaadpijnaaGreatDoorZ21
import Derived.Test.YtbikifaadpijnaaGreatDoorZ26
import Derived.Laws.StructEq
namespace Go.Proofs.YtbikifaadpijnaaGreatDoor
open Go.RowKit
set_option maxRecDepth 100000

theorem part_v6 (v : Bool) {a : List UInt8} (ha : a.length = 16) (w : World) : (part 4 (adv v a) 0).run Tryz.prog w = .ok (.bool v) w := by
  obtain ⟨_, _, _, _, _, _, _, _, _, _, _, _, _, _, _, _, rfl⟩ := ex16 ha
  kernel_rfl
theorem part_b (v : Bool) {a : List UInt8} (ha : a.length = 16) (w : World) : (part 53 (adv v a) 1).run Tryz.prog w = .ok (.agg (bv a).toArray) w := by
  obtain ⟨_, _, _, _, _, _, _, _, _, _, _, _, _, _, _, _, rfl⟩ := ex16 ha
  kernel_rfl
theorem fields_ad : ∃ f g : Field, (Tryz.prog.fieldsOf 55).toList = [f, g] ∧ (f.name ≠ "_") ∧ (g.name ≠ "_") ∧ f.type = 4 ∧ f.offset = 0 ∧ g.type = 53 ∧ g.offset = 1 := by
  refine ⟨(Tryz.prog.fieldsOf 55).toList.head!, (Tryz.prog.fieldsOf 55).toList.tail.head!, by kernel_rfl, ?_, ?_, by kernel_rfl, by kernel_rfl, by kernel_rfl, by kernel_rfl⟩
  · exact of_decide_eq_true (by kernel_rfl)
  · exact of_decide_eq_true (by kernel_rfl)
theorem eqIn_ad (d : Nat) (v u : Bool) {a b : List UInt8} (ha : a.length = 16) (hb : b.length = 16) (w : World) : (Op.equalIn (d + 3) 55 (.agg (adv v a)) (.agg (adv u b))).run Tryz.prog w = .ok ((v == u) && (a == b)) w := by
  rw [run_equalIn_struct w (d + 2) 55 _ _ (by kernel_rfl) (by kernel_rfl)]
  obtain ⟨f, g, hf, h1, h2, h3, h4, h5, h6⟩ := fields_ad
  rw [hf]
  have e1 : (Op.equalIn (d + 2) 4 (.bool v) (.bool u)).run Tryz.prog w = .ok (v == u) w := by
    simp [Op.equalIn, run_underlying Tryz.underlying4]
  have e2 : (Op.equalIn (d + 2) 53 (.agg (bv a).toArray) (.agg (bv b).toArray)).run Tryz.prog w = .ok (a == b) w :=
    run_equalIn_bytes w d 53 5 16 Tryz.underlying53 Tryz.underlying5 (fun w => by kernel_rfl) a b ha hb
  simp only [Op.eqFields, if_pos h1, if_pos h2, h3, h4, h5, h6, Sem.run_bind, part_v6 v ha, part_v6 u hb, part_b v ha, part_b u hb, e1, e2, Result.andThen_ok, Sem.run_ite, Sem.run_pure]
  cases v <;> cases u <;> cases (a == b) <;> rfl
end Go.Proofs.YtbikifaadpijnaaGreatDoor
