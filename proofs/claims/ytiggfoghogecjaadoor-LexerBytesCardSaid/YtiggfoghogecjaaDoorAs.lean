/-
  errors.As at the targets *api.Errno and **api.Fault, over any chain and at nil. Conditions: errors.errorType holds the handle of the type error; the target's cell is there and not frozen.
-/
import Derived.Test.YtiggfoghogecjaaDoorAsE
import Derived.Test.YtiggfoghogecjaaDoorAsF
namespace Go.Proofs.YtiggfoghogecjaaDoor
open Go.RowKit Go.Extern.Stop Go.Stop Go.Extern

/-- The variable errors.errorType holds the handle of the type error. -/
def Handle (w : World) : Prop := w.cell? ⟨0, 0, none⟩ = some (.iface 72 (.agg #[.pointer (some ⟨2, 25, none⟩)]))

theorem ret_bool {a b : Bool} (h : a = b) : Ending.returned (.bool a) = .returned (.bool b) := by rw [h]

theorem As_nil (t : Value) (w : World) : Calls Tryd.prog 18 #[.nilIface, t] w fun e w' => e = .returned (.bool false) ∧ w = w' := by
  go_enter Tryd.func18, Tryd.ntmps18
  go_wp2
  go_ret
  exact ⟨rfl, rfl⟩

theorem AsWorld.later {hit : Option Value} {t : Addr} {w w1 : World} {w' : World} (hb : Below w.heap.size w w1) (h : AsWorld hit t w1 w') : AsWorld hit t w w' := by
  cases hit with
  | none => exact hb.trans (Below.mono h hb.size)
  | some x => obtain ⟨w2, hb1, hw⟩ := h; exact ⟨w2, hb.trans (hb1.mono hb.size), hw⟩

set_option maxRecDepth 100000 in
set_option maxHeartbeats 1000000 in
theorem As_E {d : Nat} {v : Value} {fs : List (Nat × Int)} {c : Option Int} {w : World} {t : Addr} {old : Value} (hc : Chain w d v fs c) (hg : Handle w) (ht : w.cell? t = some old) (hf : w.frozen? t = false) :
    Calls Tryd.prog 18 #[v, .iface 50 (.pointer (some t))] w (AsPost (c.map (fun n => .int .i64 n)) t w) := by
  obtain ⟨T, x, rfl⟩ := hc.held
  have x1 := @run_callFunc_extern Tryd.prog 22 _ (fun args => ReflectliteValue.unpack (args.getD 0 (.tuple #[]))) Tryd.func22 (by kernel_rfl) (by kernel_rfl) (by kernel_rfl) (by kernel_rfl)
  have x2 := @run_callFunc_extern Tryd.prog 23 _ (ReflectliteValue.methodAny (ReflectliteValue.valueError "reflectlite.Value.Type" 0) (fun t _ _ _ => ReflectliteType.toType t)) Tryd.func23 (by kernel_rfl) (by kernel_rfl) (by kernel_rfl) (by kernel_rfl)
  have x3 := @run_callFunc_extern Tryd.prog 24 _ (ReflectliteValue.method (ReflectliteValue.valueError "reflectlite.Value.IsNil" 0) ReflectliteValue.isNil) Tryd.func24 (by kernel_rfl) (by kernel_rfl) (by kernel_rfl) (by kernel_rfl)
  have x4 := @run_callFunc_extern Tryd.prog 52 _ (ReflectliteType.abiMethod fun t => do pure (.int .u8 (← Rtype.kind t))) Tryd.func52 (by kernel_rfl) (by kernel_rfl) (by kernel_rfl) (by kernel_rfl)
  have x5 := @run_callFunc_extern Tryd.prog 64 _ (ReflectliteType.method ReflectliteType.elem) Tryd.func64 (by kernel_rfl) (by kernel_rfl) (by kernel_rfl) (by kernel_rfl)
  have x6 := @run_callFunc_extern Tryd.prog 65 _ (ReflectliteType.relation "Implements" ReflectliteType.implements_) Tryd.func65 (by kernel_rfl) (by kernel_rfl) (by kernel_rfl) (by kernel_rfl)
  have y1 := valueOfPE
  have y2 := typePE
  have y3 := mKind
  have y4 := mElem
  have y5 := mImplements
  have y6 := kindPE
  have y7 := kindE
  have y8 := elemPE
  have y9 := implementsE
  have hlt : 0 < w.heap.size := lt_of_cell hg
  have htl : t.block < w.heap.size := by cases t; exact lt_of_cell ht
  have n8 := isNilPE ⟨w.heap.size, 0, none⟩ t ((w.alloc (.cells #[.pointer (some t)] 50)).alloc (.cells #[.pointer (some ⟨2, 50, none⟩), .pointer (some ⟨w.heap.size, 0, none⟩), .int .u64 150] 60)) (by simp)
  have hb : Below w.heap.size w ((w.alloc (.cells #[.pointer (some t)] 50)).alloc (.cells #[.pointer (some ⟨2, 50, none⟩), .pointer (some ⟨w.heap.size, 0, none⟩), .int .u64 150] 60)) := ((Below.refl _ _).alloc (Nat.le_refl _) _).alloc (by simp) _
  have hg2 := (hb.cell (p := ⟨0, 0, none⟩) hlt).trans hg
  have hk := asE (hc.later hb (Nat.le_refl _)) (a := ⟨w.heap.size, 0, none⟩) (by simp) ((hb.cell htl).trans ht) ((hb.frozen htl).trans hf)
  have HK := Lib.hid hk
  have HB := Lib.hid hb
  clear hk hb hc hg
  go_enter Tryd.func18, Tryd.ntmps18
  go_wp2_with (go_at_call 25; refine HK.out.mono ?_; rintro e w' ⟨rfl, hp⟩)
  go_ret
  exact ⟨ret_bool (by simp), AsWorld.later HB.out hp⟩
set_option maxRecDepth 100000 in
set_option maxHeartbeats 1000000 in
theorem As_F {d : Nat} {v : Value} {fs : List (Nat × Int)} {c : Option Int} {w : World} {t : Addr} {old : Value} (hc : Chain w d v fs c) (hg : Handle w) (ht : w.cell? t = some old) (hf : w.frozen? t = false) :
    Calls Tryd.prog 18 #[v, .iface 52 (.pointer (some t))] w (AsPost (fs.head?.map (fun p => .pointer (some ⟨p.1, 0, none⟩))) t w) := by
  obtain ⟨T, x, rfl⟩ := hc.held
  have x1 := @run_callFunc_extern Tryd.prog 22 _ (fun args => ReflectliteValue.unpack (args.getD 0 (.tuple #[]))) Tryd.func22 (by kernel_rfl) (by kernel_rfl) (by kernel_rfl) (by kernel_rfl)
  have x2 := @run_callFunc_extern Tryd.prog 23 _ (ReflectliteValue.methodAny (ReflectliteValue.valueError "reflectlite.Value.Type" 0) (fun t _ _ _ => ReflectliteType.toType t)) Tryd.func23 (by kernel_rfl) (by kernel_rfl) (by kernel_rfl) (by kernel_rfl)
  have x3 := @run_callFunc_extern Tryd.prog 24 _ (ReflectliteValue.method (ReflectliteValue.valueError "reflectlite.Value.IsNil" 0) ReflectliteValue.isNil) Tryd.func24 (by kernel_rfl) (by kernel_rfl) (by kernel_rfl) (by kernel_rfl)
  have x4 := @run_callFunc_extern Tryd.prog 52 _ (ReflectliteType.abiMethod fun t => do pure (.int .u8 (← Rtype.kind t))) Tryd.func52 (by kernel_rfl) (by kernel_rfl) (by kernel_rfl) (by kernel_rfl)
  have x5 := @run_callFunc_extern Tryd.prog 64 _ (ReflectliteType.method ReflectliteType.elem) Tryd.func64 (by kernel_rfl) (by kernel_rfl) (by kernel_rfl) (by kernel_rfl)
  have x6 := @run_callFunc_extern Tryd.prog 65 _ (ReflectliteType.relation "Implements" ReflectliteType.implements_) Tryd.func65 (by kernel_rfl) (by kernel_rfl) (by kernel_rfl) (by kernel_rfl)
  have y1 := valueOfPF
  have y2 := typePF
  have y3 := mKind
  have y4 := mElem
  have y5 := mImplements
  have y6 := kindPF
  have y7 := kindF
  have y8 := elemPF
  have y9 := implementsF
  have hlt : 0 < w.heap.size := lt_of_cell hg
  have htl : t.block < w.heap.size := by cases t; exact lt_of_cell ht
  have n8 := isNilPF ⟨w.heap.size, 0, none⟩ t ((w.alloc (.cells #[.pointer (some t)] 52)).alloc (.cells #[.pointer (some ⟨2, 52, none⟩), .pointer (some ⟨w.heap.size, 0, none⟩), .int .u64 150] 60)) (by simp)
  have hb : Below w.heap.size w ((w.alloc (.cells #[.pointer (some t)] 52)).alloc (.cells #[.pointer (some ⟨2, 52, none⟩), .pointer (some ⟨w.heap.size, 0, none⟩), .int .u64 150] 60)) := ((Below.refl _ _).alloc (Nat.le_refl _) _).alloc (by simp) _
  have hg2 := (hb.cell (p := ⟨0, 0, none⟩) hlt).trans hg
  have hk := asF (hc.later hb (Nat.le_refl _)) (a := ⟨w.heap.size, 0, none⟩) (by simp) ((hb.cell htl).trans ht) ((hb.frozen htl).trans hf)
  have HK := Lib.hid hk
  have HB := Lib.hid hb
  clear hk hb hc hg
  go_enter Tryd.func18, Tryd.ntmps18
  go_wp2_with (go_at_call 25; refine HK.out.mono ?_; rintro e w' ⟨rfl, hp⟩)
  go_ret
  exact ⟨ret_bool (by simp), AsWorld.later HB.out hp⟩
end Go.Proofs.YtiggfoghogecjaaDoor
