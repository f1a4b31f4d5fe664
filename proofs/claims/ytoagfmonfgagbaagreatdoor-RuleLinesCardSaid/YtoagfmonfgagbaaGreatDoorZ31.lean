/-
  
-/
import Derived.Test.YtoagfmonfgagbaaGreatDoorZ30
import Derived.LaidEql
import Derived.Stop.Asserts
import Derived.RowKitTokens
import Derived.Deep.LoopGhost
namespace Go.Proofs.YtoagfmonfgagbaaGreatDoor
open Go.RowKit Go.Extern.Stop Go.Stop Go.Extern
set_option maxRecDepth 100000
theorem noIsapiErrno (v : Value) (x : TypeId) (w : World) : (Instr.typeAssert (.iface 37 v) x 156 true).run Tryz.prog w = .ok (.tuple #[.nilIface, .bool false]) w := run_typeAssert_lacksB Tryz.underlying156 (by kernel_rfl) (by kernel_rfl) v x w
theorem noUnsapiErrno (v : Value) (x : TypeId) (w : World) : (Instr.typeAssert (.iface 37 v) x 153 true).run Tryz.prog w = .ok (.tuple #[.nilIface, .bool false]) w := run_typeAssert_lacksB Tryz.underlying153 (by kernel_rfl) (by kernel_rfl) v x w
theorem noIsapiFault (v : Value) (x : TypeId) (w : World) : (Instr.typeAssert (.iface 84 v) x 156 true).run Tryz.prog w = .ok (.tuple #[.nilIface, .bool false]) w := run_typeAssert_lacksB Tryz.underlying156 (by kernel_rfl) (by kernel_rfl) v x w
theorem noUnsapiFault (v : Value) (x : TypeId) (w : World) : (Instr.typeAssert (.iface 84 v) x 153 true).run Tryz.prog w = .ok (.tuple #[.nilIface, .bool false]) w := run_typeAssert_lacksB Tryz.underlying153 (by kernel_rfl) (by kernel_rfl) v x w
theorem noIsstrconvNumError (v : Value) (x : TypeId) (w : World) : (Instr.typeAssert (.iface 226 v) x 156 true).run Tryz.prog w = .ok (.tuple #[.nilIface, .bool false]) w := run_typeAssert_lacksB Tryz.underlying156 (by kernel_rfl) (by kernel_rfl) v x w
theorem noUnsstrconvNumError (v : Value) (x : TypeId) (w : World) : (Instr.typeAssert (.iface 226 v) x 153 true).run Tryz.prog w = .ok (.tuple #[.nilIface, .bool false]) w := run_typeAssert_lacksB Tryz.underlying153 (by kernel_rfl) (by kernel_rfl) v x w
theorem noIserrorserrorString (v : Value) (x : TypeId) (w : World) : (Instr.typeAssert (.iface 238 v) x 156 true).run Tryz.prog w = .ok (.tuple #[.nilIface, .bool false]) w := run_typeAssert_lacksB Tryz.underlying156 (by kernel_rfl) (by kernel_rfl) v x w
theorem noUnserrorserrorString (v : Value) (x : TypeId) (w : World) : (Instr.typeAssert (.iface 238 v) x 153 true).run Tryz.prog w = .ok (.tuple #[.nilIface, .bool false]) w := run_typeAssert_lacksB Tryz.underlying153 (by kernel_rfl) (by kernel_rfl) v x w
theorem noUnapiErrno (v : Value) (x : TypeId) (w : World) : (Instr.typeAssert (.iface 37 v) x 151 true).run Tryz.prog w = .ok (.tuple #[.nilIface, .bool false]) w := run_typeAssert_lacksB Tryz.underlying151 (by kernel_rfl) (by kernel_rfl) v x w
theorem noUnerrorserrorString (v : Value) (x : TypeId) (w : World) : (Instr.typeAssert (.iface 238 v) x 151 true).run Tryz.prog w = .ok (.tuple #[.nilIface, .bool false]) w := run_typeAssert_lacksB Tryz.underlying151 (by kernel_rfl) (by kernel_rfl) v x w
theorem hasUnapiFault (v : Value) (x : TypeId) (w : World) : (Instr.typeAssert (.iface 84 v) x 151 true).run Tryz.prog w = .ok (.tuple #[.iface 84 v, .bool true]) w := run_typeAssert_hasB Tryz.underlying151 (by kernel_rfl) v x w
theorem eqlapiFault (v x : Value) (w : World) : (binOp .eql 29 (.iface 84 v) (.iface 37 x)).run Tryz.prog w = .ok (.bool false) w := run_eql_iface_types _ _ _ _ Tryz.underlying29 (by decide) w
theorem hasUnstrconvNumError (v : Value) (x : TypeId) (w : World) : (Instr.typeAssert (.iface 226 v) x 151 true).run Tryz.prog w = .ok (.tuple #[.iface 226 v, .bool true]) w := run_typeAssert_hasB Tryz.underlying151 (by kernel_rfl) v x w
theorem eqlstrconvNumError (v x : Value) (w : World) : (binOp .eql 29 (.iface 226 v) (.iface 37 x)).run Tryz.prog w = .ok (.bool false) w := run_eql_iface_types _ _ _ _ Tryz.underlying29 (by decide) w
theorem eqlerrorserrorString (v x : Value) (w : World) : (binOp .eql 29 (.iface 238 v) (.iface 37 x)).run Tryz.prog w = .ok (.bool false) w := run_eql_iface_types _ _ _ _ Tryz.underlying29 (by decide) w
theorem mUnwF (a : Addr) (w : World) : (Go.method 372 84 (.pointer (some a)) "Unwrap").run Tryz.prog w = .ok (198, .pointer (some a)) w := by kernel_rfl
theorem mUnwN (a : Addr) (w : World) : (Go.method 372 226 (.pointer (some a)) "Unwrap").run Tryz.prog w = .ok (215, .pointer (some a)) w := by kernel_rfl
theorem mComp (h : Value) (w : World) : (Go.method 372 144 (.agg #[h]) "Comparable").run Tryz.prog w = .ok (204, .agg #[h]) w := by kernel_rfl
theorem typeOfErrno (v : Value) (w : World) : (ReflectliteType.typeOf #[.iface 37 v]).run Tryz.prog w = .ok (.iface 144 (.agg #[.pointer (some ⟨10, 37, none⟩)])) w := by kernel_rfl
theorem comparableErrno (w : World) : (ReflectliteType.method (fun t => do Rtype.noPackHeld "Comparable" t; (fun a => Value.bool a.comparable) <$> typeInfo t) #[.agg #[.pointer (some ⟨10, 37, none⟩)]]).run Tryz.prog w = .ok (.bool true) w := by kernel_rfl
theorem eqlErrno (a b : Int) (w : World) : (binOp .eql 29 (.iface 37 (.int .i64 a)) (.iface 37 (.int .i64 b))).run Tryz.prog w = .ok (.bool (a == b)) w := by
  have hu := Tryz.underlying29
  have hv := Tryz.underlying37
  have hc : (typeInfo 37).run Tryz.prog w = .ok ((Tryz.prog.info? 37).getD default) w := by kernel_rfl
  have hk : ((Tryz.prog.info? 37).getD default).comparable = true := by kernel_rfl
  have h : ∀ d : Nat, (Op.equalIn (d + 2) 29 (.iface 37 (.int .i64 a)) (.iface 37 (.int .i64 b))).run Tryz.prog w = .ok (a == b) w := fun d => by
    simp [Op.equalIn, run_underlying hu, run_underlying hv, hc, hk]
  have h2 : (Op.equal 29 (.iface 37 (.int .i64 a)) (.iface 37 (.int .i64 b))).run Tryz.prog w = .ok (a == b) w := h 9998
  simp only [binOp]
  simp [h2]
theorem unwF (b : Nat) (v : Value) (w : World) (h1 : w.cell? ⟨b, 1, none⟩ = some v) : Calls Tryz.prog 198 #[.pointer (some ⟨b, 0, none⟩)] w fun e w' => e = .returned v ∧ w = w' := by
  go_enter Tryz.func198, Tryz.ntmps198
  go_wp2
  go_ret
  exact ⟨rfl, rfl⟩
theorem unwN (b : Nat) (v : Value) (w : World) (h1 : w.cell? ⟨b, 2, none⟩ = some v) : Calls Tryz.prog 215 #[.pointer (some ⟨b, 0, none⟩)] w fun e w' => e = .returned v ∧ w = w' := by
  go_enter Tryz.func215, Tryz.ntmps215
  go_wp2
  go_ret
  exact ⟨rfl, rfl⟩
inductive Not6 (w : World) : Nat → Value → Prop
  | num (n : Int) : (n == 6) = false → Not6 w 0 (.iface 37 (.int .i64 n))
  | str (p : Addr) : Not6 w 0 (.iface 238 (.pointer (some p)))
  | lib (d b T : Nat) (x : Value) : w.cell? ⟨b, 2, none⟩ = some (.iface T x) → Not6 w d (.iface T x) → Not6 w (d + 1) (.iface 226 (.pointer (some ⟨b, 0, none⟩)))
  | fault (d b T : Nat) (x : Value) : w.cell? ⟨b, 1, none⟩ = some (.iface T x) → Not6 w d (.iface T x) → Not6 w (d + 1) (.iface 84 (.pointer (some ⟨b, 0, none⟩)))
theorem Bad.not6 {w : World} {v : Value} (h : Bad w v) : ∃ d, Not6 w d v := by
  cases h with
  | num => exact ⟨0, .num 16 rfl⟩
  | lib N fn s p h => exact ⟨1, .lib 0 N _ _ (by rw [cell_of_row w N 2 _ _ _ h]; rfl) (.str p)⟩
theorem Dead.not6 {w : World} {v : Value} (h : Dead w v) : ∃ d, Not6 w d v := by
  cases h with
  | mk b at_ v h1 h2 =>
    obtain ⟨T, x, rfl⟩ := h2.held
    obtain ⟨d, hd⟩ := h2.not6
    exact ⟨d + 1, .fault d b T x (h1.cell rfl) hd⟩
set_option maxHeartbeats 1000000 in
theorem is_not6 {d : Nat} {v : Value} {w : World} (hc : Not6 w d v) :
    Calls Tryz.prog 61 #[v, .iface 37 (.int .i64 6), .bool true] w fun e w' => e = .returned (.bool false) ∧ w = w' := by
  have e1 := eqlErrno
  have m1 := mUnwF
  have m2 := mUnwN
  have := noIsapiErrno
  have := noUnsapiErrno
  have := noIsapiFault
  have := noUnsapiFault
  have := noIsstrconvNumError
  have := noUnsstrconvNumError
  have := noIserrorserrorString
  have := noUnserrorserrorString
  have := noUnapiErrno
  have := noUnerrorserrorString
  have := hasUnapiFault
  have := eqlapiFault
  have := hasUnstrconvNumError
  have := eqlstrconvNumError
  have := eqlerrorserrorString
  go_enter Tryz.func61, Tryz.ntmps61
  go_wp2
  go_loopg [0] d (fun k u wr => Not6 wr k u ∧ w = wr)
  case atStart => exact ⟨hc, rfl⟩
  case round =>
    obtain ⟨hc', rfl⟩ := hrel
    clear hc
    cases hc' with
    | num n hn =>
      go_wp2
      go_ret
      exact ⟨rfl, rfl⟩
    | str p =>
      go_wp2
      go_ret
      exact ⟨rfl, rfl⟩
    | lib d' b T x h1 hc'' =>
      have HC := Lib.hid hc''
      clear hc''
      go_wp2_with (go_at_call 215; refine (unwN b (.iface T x) _ h1).mono ?_; rintro e w' ⟨rfl, rfl⟩)
      go_roundg d'
      case measure => omega
      case rel => exact ⟨HC.out, rfl⟩
    | fault d' b T x h1 hc'' =>
      have HC := Lib.hid hc''
      clear hc''
      go_wp2_with (go_at_call 198; refine (unwF b (.iface T x) _ h1).mono ?_; rintro e w' ⟨rfl, rfl⟩)
      go_roundg d'
      case measure => omega
      case rel => exact ⟨HC.out, rfl⟩
theorem is_6 (w : World) : Calls Tryz.prog 61 #[.iface 37 (.int .i64 6), .iface 37 (.int .i64 6), .bool true] w fun e w' => e = .returned (.bool true) ∧ w = w' := by
  have e1 := eqlErrno
  go_enter Tryz.func61, Tryz.ntmps61
  go_wp2
  go_loop [0] (fun u => u = .iface 37 (.int .i64 6)) (fun _ => 0)
  case atStart => rfl
  case round =>
    obtain rfl := hrel
    go_wp2
    go_ret
    exact ⟨rfl, rfl⟩
theorem Is_nil6 (w : World) : Calls Tryz.prog 36 #[.nilIface, .iface 37 (.int .i64 6)] w fun e w' => e = .returned (.bool false) ∧ w = w' := by
  have e1 : ∀ w : World, (binOp .eql 29 .nilIface (.iface 37 (.int .i64 6))).run Tryz.prog w = .ok (.bool false) w := fun w => by kernel_rfl
  go_enter Tryz.func36, Tryz.ntmps36
  go_wp2
  go_ret
  exact ⟨rfl, rfl⟩
set_option maxHeartbeats 1000000 in
theorem Is_of {T : TypeId} {xv : Value} {b : Bool} {w : World} (hk : Calls Tryz.prog 61 #[.iface T xv, .iface 37 (.int .i64 6), .bool true] w fun e w' => e = .returned (.bool b) ∧ w = w') :
    Calls Tryz.prog 36 #[.iface T xv, .iface 37 (.int .i64 6)] w fun e w' => e = .returned (.bool b) ∧ w = w' := by
  have x1 := @run_callFunc_extern Tryz.prog 60 _ ReflectliteType.typeOf Tryz.func60 (by kernel_rfl) (by kernel_rfl) (by kernel_rfl) (by kernel_rfl)
  have x2 := @run_callFunc_extern Tryz.prog 204 _ (ReflectliteType.method (fun t => do Rtype.noPackHeld "Comparable" t; pure (.bool (← typeInfo t).comparable))) Tryz.func204 (by kernel_rfl) (by kernel_rfl) (by kernel_rfl) (by kernel_rfl)
  have y1 := typeOfErrno
  have y2 := mComp
  have y3 := comparableErrno
  have HK := Lib.hid hk
  clear hk
  go_enter Tryz.func36, Tryz.ntmps36
  go_wp2_with (go_at_call 61; refine HK.out.mono ?_; rintro e w' ⟨rfl, rfl⟩)
  go_ret
  exact ⟨rfl, rfl⟩
theorem Is_not6 {d : Nat} {v : Value} {w : World} (hc : Not6 w d v) : Calls Tryz.prog 36 #[v, .iface 37 (.int .i64 6)] w fun e w' => e = .returned (.bool false) ∧ w = w' := by
  have h : ∃ T x, v = .iface T x := by cases hc <;> exact ⟨_, _, rfl⟩
  obtain ⟨T, x, rfl⟩ := h
  exact Is_of (is_not6 hc)
theorem Is_6 (w : World) : Calls Tryz.prog 36 #[.iface 37 (.int .i64 6), .iface 37 (.int .i64 6)] w fun e w' => e = .returned (.bool true) ∧ w = w' := Is_of (is_6 w)
end Go.Proofs.YtoagfmonfgagbaaGreatDoor
