/-
  '==' of two addresses, and of a head with itself. No conditions.
-/
import Derived.Test.YtceigepclemdmaaHd
import Derived.Test.YtceigepclemdmaaRight
import Derived.Laws.StructEq
namespace Go.Proofs.Ytceigepclemdmaa
open Go.RowKit
set_option maxRecDepth 100000

theorem part_v6 (v : Bool) {a : List UInt8} (ha : a.length = 16) (w : World) : (part 4 (adv v a) 0).run Try.prog w = .ok (.bool v) w := by
  obtain ⟨_, _, _, _, _, _, _, _, _, _, _, _, _, _, _, _, rfl⟩ := ex16 ha
  kernel_rfl
theorem part_b (v : Bool) {a : List UInt8} (ha : a.length = 16) (w : World) : (part 22 (adv v a) 1).run Try.prog w = .ok (.agg (bv a).toArray) w := by
  obtain ⟨_, _, _, _, _, _, _, _, _, _, _, _, _, _, _, _, rfl⟩ := ex16 ha
  kernel_rfl
theorem fields_ad : ∃ f g : Field, (Try.prog.fieldsOf 24).toList = [f, g] ∧ (f.name ≠ "_") ∧ (g.name ≠ "_") ∧ f.type = 4 ∧ f.offset = 0 ∧ g.type = 22 ∧ g.offset = 1 := by
  refine ⟨(Try.prog.fieldsOf 24).toList.head!, (Try.prog.fieldsOf 24).toList.tail.head!, by kernel_rfl, ?_, ?_, by kernel_rfl, by kernel_rfl, by kernel_rfl, by kernel_rfl⟩
  · exact of_decide_eq_true (by kernel_rfl)
  · exact of_decide_eq_true (by kernel_rfl)
theorem eqIn_ad (d : Nat) (v u : Bool) {a b : List UInt8} (ha : a.length = 16) (hb : b.length = 16) (w : World) : (Op.equalIn (d + 3) 24 (.agg (adv v a)) (.agg (adv u b))).run Try.prog w = .ok ((v == u) && (a == b)) w := by
  rw [run_equalIn_struct w (d + 2) 24 _ _ (by kernel_rfl) (by kernel_rfl)]
  obtain ⟨f, g, hf, h1, h2, h3, h4, h5, h6⟩ := fields_ad
  rw [hf]
  have e1 : (Op.equalIn (d + 2) 4 (.bool v) (.bool u)).run Try.prog w = .ok (v == u) w := by
    simp [Op.equalIn, run_underlying Try.underlying4]
  have e2 : (Op.equalIn (d + 2) 22 (.agg (bv a).toArray) (.agg (bv b).toArray)).run Try.prog w = .ok (a == b) w :=
    run_equalIn_bytes w d 22 5 16 Try.underlying22 Try.underlying5 (fun w => by kernel_rfl) a b ha hb
  simp only [Op.eqFields, if_pos h1, if_pos h2, h3, h4, h5, h6, Sem.run_bind, part_v6 v ha, part_v6 u hb, part_b v ha, part_b u hb, e1, e2, Result.andThen_ok, Sem.run_ite, Sem.run_pure]
  cases v <;> cases u <;> cases (a == b) <;> rfl

theorem part_src {h : Hd} (hk : h.ok) (w : World) : (part 24 (hdv h) 0).run Try.prog w = .ok (.agg (adv h.v6 h.src)) w := by
  obtain ⟨v, s, d, p, f, t⟩ := h
  obtain ⟨hs, hd⟩ := hk
  obtain ⟨_, _, _, _, _, _, _, _, _, _, _, _, _, _, _, _, rfl⟩ := ex16 hs
  obtain ⟨_, _, _, _, _, _, _, _, _, _, _, _, _, _, _, _, rfl⟩ := ex16 hd
  kernel_rfl
theorem part_dst {h : Hd} (hk : h.ok) (w : World) : (part 24 (hdv h) 17).run Try.prog w = .ok (.agg (adv h.v6 h.dst)) w := by
  obtain ⟨v, s, d, p, f, t⟩ := h
  obtain ⟨hs, hd⟩ := hk
  obtain ⟨_, _, _, _, _, _, _, _, _, _, _, _, _, _, _, _, rfl⟩ := ex16 hs
  obtain ⟨_, _, _, _, _, _, _, _, _, _, _, _, _, _, _, _, rfl⟩ := ex16 hd
  kernel_rfl
theorem part_3 {h : Hd} (hk : h.ok) (w : World) : (part 3 (hdv h) 34).run Try.prog w = .ok (.int .i64 h.proto) w ∧ (part 3 (hdv h) 35).run Try.prog w = .ok (.int .i64 h.from_) w ∧ (part 3 (hdv h) 36).run Try.prog w = .ok (.int .i64 h.to) w := by
  obtain ⟨v, s, d, p, f, t⟩ := h
  obtain ⟨hs, hd⟩ := hk
  obtain ⟨_, _, _, _, _, _, _, _, _, _, _, _, _, _, _, _, rfl⟩ := ex16 hs
  obtain ⟨_, _, _, _, _, _, _, _, _, _, _, _, _, _, _, _, rfl⟩ := ex16 hd
  refine ⟨?_, ?_, ?_⟩ <;> kernel_rfl
theorem fields_hd : ∃ f0 f1 f2 f3 f4 : Field, (Try.prog.fieldsOf 36).toList = [f0, f1, f2, f3, f4] ∧ (f0.name ≠ "_" ∧ f1.name ≠ "_" ∧ f2.name ≠ "_" ∧ f3.name ≠ "_" ∧ f4.name ≠ "_") ∧ (f0.type = 24 ∧ f1.type = 24 ∧ f2.type = 3 ∧ f3.type = 3 ∧ f4.type = 3) ∧ (f0.offset = 0 ∧ f1.offset = 17 ∧ f2.offset = 34 ∧ f3.offset = 35 ∧ f4.offset = 36) := by
  refine ⟨(Try.prog.fieldsOf 36).toList.head!, (Try.prog.fieldsOf 36).toList.tail.head!, (Try.prog.fieldsOf 36).toList.tail.tail.head!, (Try.prog.fieldsOf 36).toList.tail.tail.tail.head!, (Try.prog.fieldsOf 36).toList.tail.tail.tail.tail.head!, by kernel_rfl, ⟨?_, ?_, ?_, ?_, ?_⟩, ⟨by kernel_rfl, by kernel_rfl, by kernel_rfl, by kernel_rfl, by kernel_rfl⟩, ⟨by kernel_rfl, by kernel_rfl, by kernel_rfl, by kernel_rfl, by kernel_rfl⟩⟩ <;> exact of_decide_eq_true (by kernel_rfl)
theorem eqIn_hd (d : Nat) {h : Hd} (hk : h.ok) (w : World) : (Op.equalIn (d + 4) 36 (.agg (hdv h)) (.agg (hdv h))).run Try.prog w = .ok true w := by
  rw [run_equalIn_struct w (d + 3) 36 _ _ (by kernel_rfl) (by kernel_rfl)]
  obtain ⟨f0, f1, f2, f3, f4, hf, ⟨n0, n1, n2, n3, n4⟩, ⟨t0, t1, t2, t3, t4⟩, ⟨o0, o1, o2, o3, o4⟩⟩ := fields_hd
  rw [hf]
  have e0 := eqIn_ad d h.v6 h.v6 hk.1 hk.1 w
  have e1 := eqIn_ad d h.v6 h.v6 hk.2 hk.2 w
  rw [beq_self_eq_true, beq_self_eq_true, Bool.and_true] at e0 e1
  have e2 : ∀ n : Int, (Op.equalIn (d + 3) 3 (.int .i64 n) (.int .i64 n)).run Try.prog w = .ok true w := fun n => by
    simp [Op.equalIn, run_underlying Try.underlying3]
  obtain ⟨p2, p3, p4⟩ := part_3 hk w
  simp only [Op.eqFields, if_pos n0, if_pos n1, if_pos n2, if_pos n3, if_pos n4, t0, t1, t2, t3, t4, o0, o1, o2, o3, o4, Sem.run_bind, part_src hk, part_dst hk, p2, p3, p4, e0, e1, e2, Result.andThen_ok, Sem.run_ite, Sem.run_pure]
  rfl
theorem eql_hd {h : Hd} (hk : h.ok) (w : World) : (binOp .eql 36 (.agg (hdv h)) (.agg (hdv h))).run Try.prog w = .ok (.bool true) w := by
  rw [run_eql_struct]
  have h1 := eqIn_hd 9996 hk w
  rw [show (10000 : Nat) = 9996 + 4 from rfl] at *
  simp only [h1]
  rfl
end Go.Proofs.Ytceigepclemdmaa
