/-
  errors.Is and errors.is at a target that is a number, over any chain. Conditions: the error is a chain.
-/
import Derived.Test.YtdpmjbhkmfjpfaaErr
import Derived.Test.YtdpmjbhkmfjpfaaMeth
namespace Go.Proofs.Ytdpmjbhkmfjpfaa
open Go.RowKit Go.Extern.Stop Go.Stop Go.Extern

/-- '==' of two numbers, both held as errors. -/
theorem eqlErr (a b : Int) (w : World) : (binOp .eql 28 (.iface 46 (.int .i64 a)) (.iface 46 (.int .i64 b))).run Try.prog w = .ok (.bool (a == b)) w := by
  have hu := Try.underlying28
  have hv := Try.underlying46
  have hc : (typeInfo 46).run Try.prog w = .ok ((Try.prog.info? 46).getD default) w := by kernel_rfl
  have hk : ((Try.prog.info? 46).getD default).comparable = true := by kernel_rfl
  have h : ∀ d : Nat, (Op.equalIn (d + 2) 28 (.iface 46 (.int .i64 a)) (.iface 46 (.int .i64 b))).run Try.prog w = .ok (a == b) w := fun d => by
    simp [Op.equalIn, run_underlying hu, run_underlying hv, hc, hk]
  have h2 : (Op.equal 28 (.iface 46 (.int .i64 a)) (.iface 46 (.int .i64 b))).run Try.prog w = .ok (a == b) w := h 9998
  simp only [binOp]
  simp [h2]
theorem eqlR (v x : Value) (w : World) : (binOp .eql 28 (.iface 48 v) (.iface 46 x)).run Try.prog w = .ok (.bool false) w := run_eql_iface_types _ _ _ _ Try.underlying28 (by decide) w

/-- A chain in which every step is a fault, down to a number. -/
inductive Faults (w : World) : Nat → Value → List (Nat × Int) → Int → Prop
  | errno (n : Int) : Faults w 0 (.iface 46 (.int .i64 n)) [] n
  | refusal (d : Nat) (id : Int) (v : Value) (fs : List (Nat × Int)) (n : Int) : Faults w d v fs n → Faults w (d + 1) (.iface 48 (.agg #[.int .i64 id, v])) fs n
theorem Faults.chain {w : World} {d : Nat} {v : Value} {fs : List (Nat × Int)} {n : Int} (h : Faults w d v fs n) : Chain w d v fs (some n) := by
  induction h with
  | errno n => exact .errno n
  | refusal d id v fs n h ih => exact .refusal d id v fs _ ih
theorem Faults.later {w w' : World} {B : Nat} (hb : Below B w w') (hB : w.heap.size ≤ B) {d : Nat} {v : Value} {fs : List (Nat × Int)} {n : Int} (h : Faults w d v fs n) : Faults w' d v fs n := by
  induction h with
  | errno n => exact .errno n
  | refusal d id v fs c h ih => exact (fun _ _ => .refusal d id v fs c ih) hb hB

set_option maxRecDepth 100000 in
set_option maxHeartbeats 1000000 in
theorem is_any {d : Nat} {v : Value} {fs : List (Nat × Int)} {n x : Int} {w : World} (hc : Faults w d v fs n) :
    Calls Try.prog 23 #[v, .iface 46 (.int .i64 x), .bool true] w fun e w' => e = .returned (.bool (n == x)) ∧ Below w.heap.size w w' := by
  have y1 := eqlErr
  have yR := eqlR
  have z1 := noIsE
  have zR := noIsR
  have zS := hasUnR
  have z3 := noUnE
  have z5 := noUsE
  have mR := mUnR
  go_enter Try.func23, Try.ntmps23
  go_wp2
  go_loopg [0] d (fun k u wr => ∃ fs', Faults wr k u fs' n ∧ Below w.heap.size w wr)
  case atStart => exact ⟨fs, hc, Below.refl _ _⟩
  case round =>
    obtain ⟨fs', hc', hb⟩ := hrel
    have Hb := Lib.hid hb
    clear hb
    clear hc
    cases hc' with
    | errno n =>
      by_cases h : n = x
      · subst h
        go_wp2
        go_ret
        exact ⟨by simp, Hb.out⟩
      · have hnb : (n == x) = false := by simp [h]
        go_wp2
        go_ret
        exact ⟨by rw [hnb]; rfl, Hb.out⟩
    | refusal d' id v' _ _ hc'' =>
      obtain ⟨T, x1, rfl⟩ := hc''.chain.held
      have HC := Lib.hid hc''
      clear hc''
      go_wp2_with (go_at_call 53; refine (unR id (.iface T x1) _).mono ?_; rintro e w' ⟨rfl, hb2⟩)
      go_roundg d'
      case measure => omega
      case rel => exact ⟨_, HC.out.later hb2 (Nat.le_refl _), (Hb.out).trans (hb2.mono (Hb.out).size)⟩

theorem comparableE2 (w : World) : (ReflectliteType.method (fun t => do Rtype.noPackHeld "Comparable" t; (fun a => Value.bool a.comparable) <$> typeInfo t) #[.agg #[.pointer (some ⟨0, 46, none⟩)]]).run Try.prog w = .ok (.bool true) w := by kernel_rfl

set_option maxRecDepth 100000 in
set_option maxHeartbeats 1000000 in
/-- errors.Is at a number. -/
theorem Is_any {d : Nat} {v : Value} {fs : List (Nat × Int)} {n x : Int} {w : World} (hc : Faults w d v fs n) :
    Calls Try.prog 14 #[v, .iface 46 (.int .i64 x)] w fun e w' => e = .returned (.bool (n == x)) ∧ Below w.heap.size w w' := by
  obtain ⟨T, xv, rfl⟩ := hc.chain.held
  have x1 := @run_callFunc_extern Try.prog 22 _ ReflectliteType.typeOf Try.func22 (by kernel_rfl) (by kernel_rfl) (by kernel_rfl) (by kernel_rfl)
  have x2 := @run_callFunc_extern Try.prog 57 _ (ReflectliteType.method (fun t => do Rtype.noPackHeld "Comparable" t; pure (.bool (← typeInfo t).comparable))) Try.func57 (by kernel_rfl) (by kernel_rfl) (by kernel_rfl) (by kernel_rfl)
  have y1 := typeOfE
  have y2 := mComparable
  have y3 := comparableE2
  have HK := Lib.hid (is_any (x := x) hc)
  clear hc
  go_enter Try.func14, Try.ntmps14
  go_wp2_with (go_at_call 23; refine HK.out.mono ?_; rintro e w' ⟨rfl, hb⟩)
  go_ret
  exact ⟨rfl, hb⟩
end Go.Proofs.Ytdpmjbhkmfjpfaa
