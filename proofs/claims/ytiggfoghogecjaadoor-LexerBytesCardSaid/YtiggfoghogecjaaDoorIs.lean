/-
  errors.Is and errors.is at a target that is a number, over any chain. Conditions: the error is a chain.
-/
import Derived.Test.YtiggfoghogecjaaDoorErr
import Derived.Test.YtiggfoghogecjaaDoorMeth
namespace Go.Proofs.YtiggfoghogecjaaDoor
open Go.RowKit Go.Extern.Stop Go.Stop Go.Extern

/-- '==' of two numbers, both held as errors. -/
theorem eqlErr (a b : Int) (w : World) : (binOp .eql 25 (.iface 28 (.int .i64 a)) (.iface 28 (.int .i64 b))).run Tryd.prog w = .ok (.bool (a == b)) w := by
  have hu := Tryd.underlying25
  have hv := Tryd.underlying28
  have hc : (typeInfo 28).run Tryd.prog w = .ok ((Tryd.prog.info? 28).getD default) w := by kernel_rfl
  have hk : ((Tryd.prog.info? 28).getD default).comparable = true := by kernel_rfl
  have h : ∀ d : Nat, (Op.equalIn (d + 2) 25 (.iface 28 (.int .i64 a)) (.iface 28 (.int .i64 b))).run Tryd.prog w = .ok (a == b) w := fun d => by
    simp [Op.equalIn, run_underlying hu, run_underlying hv, hc, hk]
  have h2 : (Op.equal 25 (.iface 28 (.int .i64 a)) (.iface 28 (.int .i64 b))).run Tryd.prog w = .ok (a == b) w := h 9998
  simp only [binOp]
  simp [h2]
theorem eqlF (v x : Value) (w : World) : (binOp .eql 25 (.iface 48 v) (.iface 28 x)).run Tryd.prog w = .ok (.bool false) w := run_eql_iface_types _ _ _ _ Tryd.underlying25 (by decide) w

/-- A chain in which every step is a fault, down to a number. -/
inductive Faults (w : World) : Nat → Value → List (Nat × Int) → Int → Prop
  | errno (n : Int) : Faults w 0 (.iface 28 (.int .i64 n)) [] n
  | fault (d b : Nat) (at_ : Int) (v : Value) (fs : List (Nat × Int)) (n : Int) : w.heap[b]? = some (.cells #[.int .i64 at_, v] 54 (0, 0)) → w.cell? ⟨b, 0, none⟩ = some (.int .i64 at_) → w.cell? ⟨b, 1, none⟩ = some v → Faults w d v fs n → Faults w (d + 1) (.iface 48 (.pointer (some ⟨b, 0, none⟩))) ((b, at_) :: fs) n
theorem Faults.chain {w : World} {d : Nat} {v : Value} {fs : List (Nat × Int)} {n : Int} (h : Faults w d v fs n) : Chain w d v fs (some n) := by
  induction h with
  | errno n => exact .errno n
  | fault d b at_ v fs n hh h0 h1 h ih => exact .fault d b at_ v fs _ hh h0 h1 ih
theorem Faults.later {w w' : World} {B : Nat} (hb : Below B w w') (hB : w.heap.size ≤ B) {d : Nat} {v : Value} {fs : List (Nat × Int)} {n : Int} (h : Faults w d v fs n) : Faults w' d v fs n := by
  induction h with
  | errno n => exact .errno n
  | fault d b at_ v fs c hh h0 h1 h ih =>
    have hlt := lt_of_cell h0
    exact .fault d b at_ v fs c ((hb.block b (by omega)).trans hh) ((hb.cell (p := ⟨b, 0, none⟩) (by show b < B; omega)).trans h0) ((hb.cell (p := ⟨b, 1, none⟩) (by show b < B; omega)).trans h1) ih

set_option maxRecDepth 100000 in
set_option maxHeartbeats 1000000 in
theorem is_any {d : Nat} {v : Value} {fs : List (Nat × Int)} {n x : Int} {w : World} (hc : Faults w d v fs n) :
    Calls Tryd.prog 27 #[v, .iface 28 (.int .i64 x), .bool true] w fun e w' => e = .returned (.bool (n == x)) ∧ w = w' := by
  have y1 := eqlErr
  have y2 := eqlF
  have z1 := noIsE
  have z2 := noIsF
  have z3 := noUnE
  have z4 := hasUnF
  have z5 := noUsE
  have m2 := mUnF
  go_enter Tryd.func27, Tryd.ntmps27
  go_wp2
  go_loopg [0] d (fun k u wr => ∃ fs', Faults wr k u fs' n ∧ w = wr)
  case atStart => exact ⟨fs, hc, rfl⟩
  case round =>
    obtain ⟨fs', hc', rfl⟩ := hrel
    clear hc
    cases hc' with
    | errno n =>
      by_cases h : n = x
      · subst h
        go_wp2
        go_ret
        exact ⟨by simp, rfl⟩
      · have hb : (n == x) = false := by simp [h]
        go_wp2
        go_ret
        exact ⟨by rw [hb]; rfl, rfl⟩
    | fault d' b at_ v' fs'' _ hh h0 h1 hc'' =>
      clear hh
      obtain ⟨T, x1, rfl⟩ := hc''.chain.held
      have HC := Lib.hid hc''
      clear hc''
      go_wp2_with (go_at_call 57; refine (unF b (.iface T x1) _ h1).mono ?_; rintro e w' ⟨rfl, rfl⟩)
      go_roundg d'
      case measure => omega
      case rel => exact ⟨fs'', HC.out, rfl⟩

theorem comparableE2 (w : World) : (ReflectliteType.method (fun t => do Rtype.noPackHeld "Comparable" t; (fun a => Value.bool a.comparable) <$> typeInfo t) #[.agg #[.pointer (some ⟨2, 28, none⟩)]]).run Tryd.prog w = .ok (.bool true) w := by kernel_rfl

set_option maxRecDepth 100000 in
set_option maxHeartbeats 1000000 in
/-- errors.Is at a number. -/
theorem Is_any {d : Nat} {v : Value} {fs : List (Nat × Int)} {n x : Int} {w : World} (hc : Faults w d v fs n) :
    Calls Tryd.prog 19 #[v, .iface 28 (.int .i64 x)] w fun e w' => e = .returned (.bool (n == x)) ∧ w = w' := by
  obtain ⟨T, xv, rfl⟩ := hc.chain.held
  have x1 := @run_callFunc_extern Tryd.prog 26 _ ReflectliteType.typeOf Tryd.func26 (by kernel_rfl) (by kernel_rfl) (by kernel_rfl) (by kernel_rfl)
  have x2 := @run_callFunc_extern Tryd.prog 63 _ (ReflectliteType.method (fun t => do Rtype.noPackHeld "Comparable" t; pure (.bool (← typeInfo t).comparable))) Tryd.func63 (by kernel_rfl) (by kernel_rfl) (by kernel_rfl) (by kernel_rfl)
  have y1 := typeOfE
  have y2 := mComparable
  have y3 := comparableE2
  have HK := Lib.hid (is_any (x := x) hc)
  clear hc
  go_enter Tryd.func19, Tryd.ntmps19
  go_wp2_with (go_at_call 27; refine HK.out.mono ?_; rintro e w' ⟨rfl, rfl⟩)
  go_ret
  exact ⟨rfl, rfl⟩
end Go.Proofs.YtiggfoghogecjaaDoor
