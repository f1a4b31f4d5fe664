/-
  errors.Is and errors.is at a target that is a number, over any chain. Conditions: the error is a chain.
-/
import Derived.Test.YtdpmjbhkmfjpfaaDoorErr
import Derived.Test.YtdpmjbhkmfjpfaaDoorMeth
namespace Go.Proofs.YtdpmjbhkmfjpfaaDoor
open Go.RowKit Go.Extern.Stop Go.Stop Go.Extern

/-- '==' of two numbers, both held as errors. -/
theorem eqlErr (a b : Int) (w : World) : (binOp .eql 35 (.iface 37 (.int .i64 a)) (.iface 37 (.int .i64 b))).run Tryd.prog w = .ok (.bool (a == b)) w := by
  have hu := Tryd.underlying35
  have hv := Tryd.underlying37
  have hc : (typeInfo 37).run Tryd.prog w = .ok ((Tryd.prog.info? 37).getD default) w := by kernel_rfl
  have hk : ((Tryd.prog.info? 37).getD default).comparable = true := by kernel_rfl
  have h : ∀ d : Nat, (Op.equalIn (d + 2) 35 (.iface 37 (.int .i64 a)) (.iface 37 (.int .i64 b))).run Tryd.prog w = .ok (a == b) w := fun d => by
    simp [Op.equalIn, run_underlying hu, run_underlying hv, hc, hk]
  have h2 : (Op.equal 35 (.iface 37 (.int .i64 a)) (.iface 37 (.int .i64 b))).run Tryd.prog w = .ok (a == b) w := h 9998
  simp only [binOp]
  simp [h2]
theorem eqlF (v x : Value) (w : World) : (binOp .eql 35 (.iface 61 v) (.iface 37 x)).run Tryd.prog w = .ok (.bool false) w := run_eql_iface_types _ _ _ _ Tryd.underlying35 (by decide) w
theorem eqlR (v x : Value) (w : World) : (binOp .eql 35 (.iface 79 v) (.iface 37 x)).run Tryd.prog w = .ok (.bool false) w := run_eql_iface_types _ _ _ _ Tryd.underlying35 (by decide) w

/-- A chain in which every step is a fault, down to a number. -/
inductive Faults (w : World) : Nat → Value → List (Nat × Int) → Int → Prop
  | errno (n : Int) : Faults w 0 (.iface 37 (.int .i64 n)) [] n
  | fault (d b : Nat) (at_ : Int) (v : Value) (fs : List (Nat × Int)) (n : Int) : w.heap[b]? = some (.cells #[.int .i64 at_, v] 67 (0, 0)) → w.cell? ⟨b, 0, none⟩ = some (.int .i64 at_) → w.cell? ⟨b, 1, none⟩ = some v → Faults w d v fs n → Faults w (d + 1) (.iface 61 (.pointer (some ⟨b, 0, none⟩))) ((b, at_) :: fs) n
  | refusal (d : Nat) (id : Int) (v : Value) (fs : List (Nat × Int)) (n : Int) : Faults w d v fs n → Faults w (d + 1) (.iface 79 (.agg #[.int .i64 id, v])) fs n
theorem Faults.chain {w : World} {d : Nat} {v : Value} {fs : List (Nat × Int)} {n : Int} (h : Faults w d v fs n) : Chain w d v fs (some n) := by
  induction h with
  | errno n => exact .errno n
  | fault d b at_ v fs n hh h0 h1 h ih => exact .fault d b at_ v fs _ hh h0 h1 ih
  | refusal d id v fs n h ih => exact .refusal d id v fs _ ih
theorem Faults.later {w w' : World} {B : Nat} (hb : Below B w w') (hB : w.heap.size ≤ B) {d : Nat} {v : Value} {fs : List (Nat × Int)} {n : Int} (h : Faults w d v fs n) : Faults w' d v fs n := by
  induction h with
  | errno n => exact .errno n
  | fault d b at_ v fs c hh h0 h1 h ih =>
    have hlt := lt_of_cell h0
    exact .fault d b at_ v fs c ((hb.block b (by omega)).trans hh) ((hb.cell (p := ⟨b, 0, none⟩) (by show b < B; omega)).trans h0) ((hb.cell (p := ⟨b, 1, none⟩) (by show b < B; omega)).trans h1) ih
  | refusal d id v fs c h ih => exact (fun _ _ => .refusal d id v fs c ih) hb hB

set_option maxRecDepth 100000 in
set_option maxHeartbeats 1000000 in
theorem is_any {d : Nat} {v : Value} {fs : List (Nat × Int)} {n x : Int} {w : World} (hc : Faults w d v fs n) :
    Calls Tryd.prog 40 #[v, .iface 37 (.int .i64 x), .bool true] w fun e w' => e = .returned (.bool (n == x)) ∧ Below w.heap.size w w' := by
  have y1 := eqlErr
  have y2 := eqlF
  have yR := eqlR
  have z1 := noIsE
  have z2 := noIsF
  have zR := noIsR
  have zS := hasUnR
  have z3 := noUnE
  have z4 := hasUnF
  have z5 := noUsE
  have m2 := mUnF
  have mR := mUnR
  go_enter Tryd.func40, Tryd.ntmps40
  go_wp2
  go_loopg [0] d (fun k u wr => ∃ fs', Faults wr k u fs' n ∧ Below w.heap.size w wr)
  case atStart => exact ⟨fs, hc, Below.refl _ _⟩
  case round =>
    obtain ⟨fs', hc', hb⟩ := hrel
    have Hb := Lib.hid hb
    clear hb
    clear hc
    cases hc' with
    | errno n =>
      by_cases h : n = x
      · subst h
        go_wp2
        go_ret
        exact ⟨by simp, Hb.out⟩
      · have hnb : (n == x) = false := by simp [h]
        go_wp2
        go_ret
        exact ⟨by rw [hnb]; rfl, Hb.out⟩
    | fault d' b at_ v' fs'' _ hh h0 h1 hc'' =>
      clear hh
      obtain ⟨T, x1, rfl⟩ := hc''.chain.held
      have HC := Lib.hid hc''
      clear hc''
      go_wp2_with (go_at_call 76; refine (unF b (.iface T x1) _ h1).mono ?_; rintro e w' ⟨rfl, rfl⟩)
      go_roundg d'
      case measure => omega
      case rel => exact ⟨fs'', HC.out, Hb.out⟩
    | refusal d' id v' _ _ hc'' =>
      obtain ⟨T, x1, rfl⟩ := hc''.chain.held
      have HC := Lib.hid hc''
      clear hc''
      go_wp2_with (go_at_call 78; refine (unR id (.iface T x1) _).mono ?_; rintro e w' ⟨rfl, hb2⟩)
      go_roundg d'
      case measure => omega
      case rel => exact ⟨_, HC.out.later hb2 (Nat.le_refl _), (Hb.out).trans (hb2.mono (Hb.out).size)⟩

theorem comparableE2 (w : World) : (ReflectliteType.method (fun t => do Rtype.noPackHeld "Comparable" t; (fun a => Value.bool a.comparable) <$> typeInfo t) #[.agg #[.pointer (some ⟨1, 37, none⟩)]]).run Tryd.prog w = .ok (.bool true) w := by kernel_rfl

set_option maxRecDepth 100000 in
set_option maxHeartbeats 1000000 in
/-- errors.Is at a number. -/
theorem Is_any {d : Nat} {v : Value} {fs : List (Nat × Int)} {n x : Int} {w : World} (hc : Faults w d v fs n) :
    Calls Tryd.prog 24 #[v, .iface 37 (.int .i64 x)] w fun e w' => e = .returned (.bool (n == x)) ∧ Below w.heap.size w w' := by
  obtain ⟨T, xv, rfl⟩ := hc.chain.held
  have x1 := @run_callFunc_extern Tryd.prog 39 _ ReflectliteType.typeOf Tryd.func39 (by kernel_rfl) (by kernel_rfl) (by kernel_rfl) (by kernel_rfl)
  have x2 := @run_callFunc_extern Tryd.prog 84 _ (ReflectliteType.method (fun t => do Rtype.noPackHeld "Comparable" t; pure (.bool (← typeInfo t).comparable))) Tryd.func84 (by kernel_rfl) (by kernel_rfl) (by kernel_rfl) (by kernel_rfl)
  have y1 := typeOfE
  have y2 := mComparable
  have y3 := comparableE2
  have HK := Lib.hid (is_any (x := x) hc)
  clear hc
  go_enter Tryd.func24, Tryd.ntmps24
  go_wp2_with (go_at_call 40; refine HK.out.mono ?_; rintro e w' ⟨rfl, hb⟩)
  go_ret
  exact ⟨rfl, hb⟩
end Go.Proofs.YtdpmjbhkmfjpfaaDoor
