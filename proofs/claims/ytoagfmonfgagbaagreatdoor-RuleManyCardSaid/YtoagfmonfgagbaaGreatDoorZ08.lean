/-
  errors.As and errors.as at the targets *api.Errno and **api.Fault, over any chain of faults, joins and numbers. Conditions: errors.errorType holds the handle of the type error; the target's cell is there and not frozen.
  errors.as at the target *api.Errno. Conditions as in Err.
  errors.as at the target **api.Fault. Conditions as in Err.
  errors.As at the targets *api.Errno and **api.Fault, over any chain and at nil. Conditions: errors.errorType holds the handle of the type error; the target's cell is there and not frozen.
  errors.Is and errors.is at a target that is a number, over any chain. Conditions: the error is a chain.
  PLAIN: a chain of errors is the only one at its value; no fault stands in it twice. No conditions.
  fault.Wrap; the handle's condition in later worlds. Conditions: the error is a chain.
-/
import Derived.Test.YtoagfmonfgagbaaGreatDoorZ07
import Derived.Deep.LoopGhost
import Derived.Lib.Hide
import Derived.Outline
namespace Go.Proofs.YtoagfmonfgagbaaGreatDoor
open Go.RowKit Go.Extern.Stop Go.Stop Go.Extern

/-- An error in memory: numbers, faults, joins of one. d: how deep; fs: the faults in it, outermost first (block, place); c: the number in it. -/
inductive Chain (w : World) : Nat → Value → List (Nat × Int) → Option Int → Prop
  | errno (n : Int) : Chain w 0 (.iface 37 (.int .i64 n)) [] (some n)
  | other (p : Addr) : Chain w 0 (.iface 238 (.pointer (some p))) [] none
  | fault (d b : Nat) (at_ : Int) (v : Value) (fs : List (Nat × Int)) (c : Option Int) : w.heap[b]? = some (.cells #[.int .i64 at_, v] 90 (0, 0)) → w.cell? ⟨b, 0, none⟩ = some (.int .i64 at_) → w.cell? ⟨b, 1, none⟩ = some v → Chain w d v fs c → Chain w (d + 1) (.iface 84 (.pointer (some ⟨b, 0, none⟩))) ((b, at_) :: fs) c

theorem lt_of_cell {w : World} {b o : Nat} {p : Option Nat} {v : Value} (h : w.cell? ⟨b, o, p⟩ = some v) : b < w.heap.size := by
  rcases Nat.lt_or_ge b w.heap.size with h' | h'
  · exact h'
  · simp [World.cell?, Array.getElem?_eq_none h'] at h
theorem cell_far (w : World) (p a : Addr) (v : Value) (h : p.block ≠ a.block) : (w.setCell p v).cell? a = w.cell? a :=
  World.cell?_of_block (w := w) (Below.heap_setCell w p v a.block (fun e => h e.symm))

theorem Chain.held {w : World} {d : Nat} {v : Value} {fs : List (Nat × Int)} {c : Option Int} (h : Chain w d v fs c) : ∃ T x, v = .iface T x := by
  cases h with
  | errno n => exact ⟨_, _, rfl⟩
  | other p => exact ⟨_, _, rfl⟩
  | fault d b at_ v fs c hh h0 h1 h => exact ⟨_, _, rfl⟩

/-- What was an error is that error in every later world. -/
theorem Chain.later {w w' : World} {B : Nat} (hb : Below B w w') (hB : w.heap.size ≤ B) {d : Nat} {v : Value} {fs : List (Nat × Int)} {c : Option Int} (h : Chain w d v fs c) : Chain w' d v fs c := by
  induction h with
  | errno n => exact .errno n
  | other p => exact .other p
  | fault d b at_ v fs c hh h0 h1 h ih =>
    have hlt := lt_of_cell h0
    exact .fault d b at_ v fs c ((hb.block b (by omega)).trans hh) ((hb.cell (p := ⟨b, 0, none⟩) (by show b < B; omega)).trans h0) ((hb.cell (p := ⟨b, 1, none⟩) (by show b < B; omega)).trans h1) ih

/-- (*Fault).Unwrap, (*joinError).Unwrap. -/
theorem unF (b : Nat) (v : Value) (w : World) (h1 : w.cell? ⟨b, 1, none⟩ = some v) : Calls Tryz.prog 198 #[.pointer (some ⟨b, 0, none⟩)] w fun e w' => e = .returned v ∧ w = w' := by
  go_enter Tryz.func198, Tryz.ntmps198
  go_wp2
  go_ret
  exact ⟨rfl, rfl⟩
end Go.Proofs.YtoagfmonfgagbaaGreatDoor

namespace Go.Proofs.YtoagfmonfgagbaaGreatDoor
open Go.RowKit Go.Extern.Stop Go.Stop Go.Extern

/-- What errors.As leaves behind: the target holds what was found; all else that was there is as it was. -/
def AsWorld (hit : Option Value) (t : Addr) (w w' : World) : Prop :=
  match hit with
  | some x => ∃ w1, Below w.heap.size w w1 ∧ w' = w1.setCell t x
  | none => Below w.heap.size w w'
def AsPost (hit : Option Value) (t : Addr) (w : World) (e : Ending) (w' : World) : Prop := e = .returned (.bool hit.isSome) ∧ AsWorld hit t w w'

set_option maxRecDepth 100000 in
set_option maxHeartbeats 1000000 in
theorem asE_any (N : Nat) : ∀ (d : Nat) (v : Value) (fs : List (Nat × Int)) (c : Option Int) (w : World) (t a : Addr) (old : Value), d < N → Chain w d v fs c → w.cell? a = some (.pointer (some t)) → w.cell? t = some old → w.frozen? t = false →
    Calls Tryz.prog 59 #[v, .iface 86 (.pointer (some t)), .agg #[.pointer (some ⟨10, 86, none⟩), .pointer (some a), .int .u64 150], .iface 144 (.agg #[.pointer (some ⟨10, 37, none⟩)])] w (AsPost (c.map (fun n => .int .i64 n)) t w) := by
  induction N with
  | zero => intro d v fs c w t a old hd; omega
  | succ N ih =>
    intro d v fs c w t a old hd hc ha ht hf
    have x1 := @run_callFunc_extern Tryz.prog 60 _ ReflectliteType.typeOf Tryz.func60 (by kernel_rfl) (by kernel_rfl) (by kernel_rfl) (by kernel_rfl)
    have x2 := @run_callFunc_extern Tryz.prog 203 _ (ReflectliteType.relation "AssignableTo" ReflectliteType.assignableTo) Tryz.func203 (by kernel_rfl) (by kernel_rfl) (by kernel_rfl) (by kernel_rfl)
    have x3 := @run_callFunc_extern Tryz.prog 80 _ (ReflectliteValue.method (ReflectliteValue.valueError "reflectlite.Value.Elem" 0) ReflectliteValue.elem) Tryz.func80 (by kernel_rfl) (by kernel_rfl) (by kernel_rfl) (by kernel_rfl)
    have x4 := @run_callFunc_extern Tryz.prog 56 _ (fun args => ReflectliteValue.unpack (args.getD 0 (.tuple #[]))) Tryz.func56 (by kernel_rfl) (by kernel_rfl) (by kernel_rfl) (by kernel_rfl)
    have x5 := @run_callFunc_extern Tryz.prog 81 _ ReflectliteValue.set Tryz.func81 (by kernel_rfl) (by kernel_rfl) (by kernel_rfl) (by kernel_rfl)
    have y1 := typeOfE
    have y2 := typeOfF
    have y4 := typeOfS
    have y5 := asgEE
    have y6 := asgFE
    have y8 := asgSE
    have z1 := noAsE
    have z2 := noAsF
    have z4 := noAsS
    have z5 := noUnE
    have z6 := hasUnF
    have z8 := noUnS
    have z9 := noUsE
    have zB := noUsS
    have v1 := valueOfE
    have m1 := mAsg
    have m2 := mUnF
    go_enter Tryz.func59, Tryz.ntmps59
    go_wp2
    go_loopg [0] d (fun k u wr => ∃ fs', k < N + 1 ∧ Chain wr k u fs' c ∧ Below w.heap.size w wr ∧ wr.cell? ⟨w.heap.size, 0, none⟩ = some (.pointer (some ⟨10, 86, none⟩)) ∧ wr.cell? ⟨w.heap.size, 1, none⟩ = some (.pointer (some a)) ∧ wr.cell? ⟨w.heap.size, 2, none⟩ = some (.int .u64 150) ∧ wr.cell? a = some (.pointer (some t)) ∧ wr.cell? t = some old ∧ wr.frozen? t = false)
    case atStart =>
      have hb : Below w.heap.size w (w.alloc (.cells #[.pointer (some ⟨10, 86, none⟩), .pointer (some a), .int .u64 150] 117)) := (Below.refl _ _).alloc (Nat.le_refl _) _
      have hal : a.block < w.heap.size := by cases a; exact lt_of_cell ha
      have htl : t.block < w.heap.size := by cases t; exact lt_of_cell ht
      exact ⟨fs, hd, hc.later hb (Nat.le_refl _), hb, by simp, by simp, by simp, (hb.cell hal).trans ha, (hb.cell htl).trans ht, (hb.frozen htl).trans hf⟩
    case round =>
      obtain ⟨fs', hkN, hc', hb, b0, b1, b2, ha', ht', hf'⟩ := hrel
      have Hb := Lib.hid hb
      clear hb ha ht hf hc
      cases hc' with
      | errno n =>
        have el := elemVPE a t wr ha'
        have htl : t.block < wr.heap.size := by cases t; exact lt_of_cell ht'
        have st := setE t ⟨wr.heap.size, 0, none⟩ n old (wr.alloc (.cells #[.int .i64 n] 37)) (by rw [World.cell?_alloc_at _ _ _ _ (by simp)]; rfl)
          (by rw [World.cell?_alloc_lt _ _ t htl]; exact ht') (by rw [World.frozen?_alloc_old _ _ t (Nat.ne_of_lt htl)]; exact hf')
        go_wp2
        go_ret
        exact ⟨rfl, _, (Hb.out).alloc (Hb.out).size _, rfl⟩
      | other p =>
        go_wp2
        go_ret
        exact ⟨rfl, Hb.out⟩
      | fault d' b at_ v' fs'' c' hh h0 h1 hc'' =>
        clear hh
        obtain ⟨T, x, rfl⟩ := hc''.held
        have HC := Lib.hid hc''
        clear hc''
        go_wp2_with (go_at_call 198; refine (unF b (.iface T x) _ h1).mono ?_; rintro e w' ⟨rfl, rfl⟩)
        go_roundg d'
        case measure => omega
        case rel => exact ⟨fs'', by omega, HC.out, Hb.out, b0, b1, b2, ha', ht', hf'⟩

/-- errors.as at *api.Errno, over any chain. -/
theorem asE {d : Nat} {v : Value} {fs : List (Nat × Int)} {c : Option Int} {w : World} {t a : Addr} {old : Value} (hc : Chain w d v fs c) (ha : w.cell? a = some (.pointer (some t))) (ht : w.cell? t = some old) (hf : w.frozen? t = false) :
    Calls Tryz.prog 59 #[v, .iface 86 (.pointer (some t)), .agg #[.pointer (some ⟨10, 86, none⟩), .pointer (some a), .int .u64 150], .iface 144 (.agg #[.pointer (some ⟨10, 37, none⟩)])] w (AsPost (c.map (fun n => .int .i64 n)) t w) :=
  asE_any (d + 1) d v fs c w t a old (Nat.lt_succ_self d) hc ha ht hf
end Go.Proofs.YtoagfmonfgagbaaGreatDoor

namespace Go.Proofs.YtoagfmonfgagbaaGreatDoor
open Go.RowKit Go.Extern.Stop Go.Stop Go.Extern

set_option maxRecDepth 100000 in
set_option maxHeartbeats 1000000 in
theorem asF_any (N : Nat) : ∀ (d : Nat) (v : Value) (fs : List (Nat × Int)) (c : Option Int) (w : World) (t a : Addr) (old : Value), d < N → Chain w d v fs c → w.cell? a = some (.pointer (some t)) → w.cell? t = some old → w.frozen? t = false →
    Calls Tryz.prog 59 #[v, .iface 88 (.pointer (some t)), .agg #[.pointer (some ⟨10, 88, none⟩), .pointer (some a), .int .u64 150], .iface 144 (.agg #[.pointer (some ⟨10, 84, none⟩)])] w (AsPost (fs.head?.map (fun p => .pointer (some ⟨p.1, 0, none⟩))) t w) := by
  induction N with
  | zero => intro d v fs c w t a old hd; omega
  | succ N ih =>
    intro d v fs c w t a old hd hc ha ht hf
    have x1 := @run_callFunc_extern Tryz.prog 60 _ ReflectliteType.typeOf Tryz.func60 (by kernel_rfl) (by kernel_rfl) (by kernel_rfl) (by kernel_rfl)
    have x2 := @run_callFunc_extern Tryz.prog 203 _ (ReflectliteType.relation "AssignableTo" ReflectliteType.assignableTo) Tryz.func203 (by kernel_rfl) (by kernel_rfl) (by kernel_rfl) (by kernel_rfl)
    have x3 := @run_callFunc_extern Tryz.prog 80 _ (ReflectliteValue.method (ReflectliteValue.valueError "reflectlite.Value.Elem" 0) ReflectliteValue.elem) Tryz.func80 (by kernel_rfl) (by kernel_rfl) (by kernel_rfl) (by kernel_rfl)
    have x4 := @run_callFunc_extern Tryz.prog 56 _ (fun args => ReflectliteValue.unpack (args.getD 0 (.tuple #[]))) Tryz.func56 (by kernel_rfl) (by kernel_rfl) (by kernel_rfl) (by kernel_rfl)
    have x5 := @run_callFunc_extern Tryz.prog 81 _ ReflectliteValue.set Tryz.func81 (by kernel_rfl) (by kernel_rfl) (by kernel_rfl) (by kernel_rfl)
    have y1 := typeOfE
    have y2 := typeOfF
    have y4 := typeOfS
    have y5 := asgEF
    have y6 := asgFF
    have y8 := asgSF
    have z1 := noAsE
    have z2 := noAsF
    have z4 := noAsS
    have z5 := noUnE
    have z6 := hasUnF
    have z8 := noUnS
    have z9 := noUsE
    have zB := noUsS
    have v1 := valueOfF
    have m1 := mAsg
    have m2 := mUnF
    go_enter Tryz.func59, Tryz.ntmps59
    go_wp2
    go_loopg [0] d (fun k u wr => ∃ c', k < N + 1 ∧ Chain wr k u fs c' ∧ Below w.heap.size w wr ∧ wr.cell? ⟨w.heap.size, 0, none⟩ = some (.pointer (some ⟨10, 88, none⟩)) ∧ wr.cell? ⟨w.heap.size, 1, none⟩ = some (.pointer (some a)) ∧ wr.cell? ⟨w.heap.size, 2, none⟩ = some (.int .u64 150) ∧ wr.cell? a = some (.pointer (some t)) ∧ wr.cell? t = some old ∧ wr.frozen? t = false)
    case atStart =>
      have hb : Below w.heap.size w (w.alloc (.cells #[.pointer (some ⟨10, 88, none⟩), .pointer (some a), .int .u64 150] 117)) := (Below.refl _ _).alloc (Nat.le_refl _) _
      have hal : a.block < w.heap.size := by cases a; exact lt_of_cell ha
      have htl : t.block < w.heap.size := by cases t; exact lt_of_cell ht
      exact ⟨c, hd, hc.later hb (Nat.le_refl _), hb, by simp, by simp, by simp, (hb.cell hal).trans ha, (hb.cell htl).trans ht, (hb.frozen htl).trans hf⟩
    case round =>
      obtain ⟨c', hkN, hc', hb, b0, b1, b2, ha', ht', hf'⟩ := hrel
      have Hb := Lib.hid hb
      clear hb ha ht hf hc
      cases hc' with
      | errno n =>
        go_wp2
        go_ret
        exact ⟨rfl, Hb.out⟩
      | other p =>
        go_wp2
        go_ret
        exact ⟨rfl, Hb.out⟩
      | fault d' b at_ v' fs'' c'' hh h0 h1 hc'' =>
        clear hh
        have el := elemVPF a t wr ha'
        have htl : t.block < wr.heap.size := by cases t; exact lt_of_cell ht'
        have st := setF t ⟨wr.heap.size, 0, none⟩ ⟨b, 0, none⟩ old (wr.alloc (.cells #[.pointer (some ⟨b, 0, none⟩)] 84)) (by rw [World.cell?_alloc_at _ _ _ _ (by simp)]; rfl)
          (by rw [World.cell?_alloc_lt _ _ t htl]; exact ht') (by rw [World.frozen?_alloc_old _ _ t (Nat.ne_of_lt htl)]; exact hf')
        clear hc''
        go_wp2
        go_ret
        exact ⟨rfl, _, (Hb.out).alloc (Hb.out).size _, rfl⟩

/-- errors.as at *api.Errno, over any chain. -/
theorem asF {d : Nat} {v : Value} {fs : List (Nat × Int)} {c : Option Int} {w : World} {t a : Addr} {old : Value} (hc : Chain w d v fs c) (ha : w.cell? a = some (.pointer (some t))) (ht : w.cell? t = some old) (hf : w.frozen? t = false) :
    Calls Tryz.prog 59 #[v, .iface 88 (.pointer (some t)), .agg #[.pointer (some ⟨10, 88, none⟩), .pointer (some a), .int .u64 150], .iface 144 (.agg #[.pointer (some ⟨10, 84, none⟩)])] w (AsPost (fs.head?.map (fun p => .pointer (some ⟨p.1, 0, none⟩))) t w) :=
  asF_any (d + 1) d v fs c w t a old (Nat.lt_succ_self d) hc ha ht hf
end Go.Proofs.YtoagfmonfgagbaaGreatDoor

namespace Go.Proofs.YtoagfmonfgagbaaGreatDoor
open Go.RowKit Go.Extern.Stop Go.Stop Go.Extern

/-- The variable errors.errorType holds the handle of the type error. -/
def Handle (w : World) : Prop := w.cell? ⟨0, 0, none⟩ = some (.iface 144 (.agg #[.pointer (some ⟨10, 29, none⟩)]))

theorem ret_bool {a b : Bool} (h : a = b) : Ending.returned (.bool a) = .returned (.bool b) := by rw [h]

theorem As_nil (t : Value) (w : World) : Calls Tryz.prog 35 #[.nilIface, t] w fun e w' => e = .returned (.bool false) ∧ w = w' := by
  go_enter Tryz.func35, Tryz.ntmps35
  go_wp2
  go_ret
  exact ⟨rfl, rfl⟩

theorem AsWorld.later {hit : Option Value} {t : Addr} {w w1 : World} {w' : World} (hb : Below w.heap.size w w1) (h : AsWorld hit t w1 w') : AsWorld hit t w w' := by
  cases hit with
  | none => exact hb.trans (Below.mono h hb.size)
  | some x => obtain ⟨w2, hb1, hw⟩ := h; exact ⟨w2, hb.trans (hb1.mono hb.size), hw⟩

set_option maxRecDepth 100000 in
set_option maxHeartbeats 1000000 in
theorem As_E {d : Nat} {v : Value} {fs : List (Nat × Int)} {c : Option Int} {w : World} {t : Addr} {old : Value} (hc : Chain w d v fs c) (hg : Handle w) (ht : w.cell? t = some old) (hf : w.frozen? t = false) :
    Calls Tryz.prog 35 #[v, .iface 86 (.pointer (some t))] w (AsPost (c.map (fun n => .int .i64 n)) t w) := by
  obtain ⟨T, x, rfl⟩ := hc.held
  have x1 := @run_callFunc_extern Tryz.prog 56 _ (fun args => ReflectliteValue.unpack (args.getD 0 (.tuple #[]))) Tryz.func56 (by kernel_rfl) (by kernel_rfl) (by kernel_rfl) (by kernel_rfl)
  have x2 := @run_callFunc_extern Tryz.prog 57 _ (ReflectliteValue.methodAny (ReflectliteValue.valueError "reflectlite.Value.Type" 0) (fun t _ _ _ => ReflectliteType.toType t)) Tryz.func57 (by kernel_rfl) (by kernel_rfl) (by kernel_rfl) (by kernel_rfl)
  have x3 := @run_callFunc_extern Tryz.prog 58 _ (ReflectliteValue.method (ReflectliteValue.valueError "reflectlite.Value.IsNil" 0) ReflectliteValue.isNil) Tryz.func58 (by kernel_rfl) (by kernel_rfl) (by kernel_rfl) (by kernel_rfl)
  have x4 := @run_callFunc_extern Tryz.prog 192 _ (ReflectliteType.abiMethod fun t => do pure (.int .u8 (← Rtype.kind t))) Tryz.func192 (by kernel_rfl) (by kernel_rfl) (by kernel_rfl) (by kernel_rfl)
  have x5 := @run_callFunc_extern Tryz.prog 205 _ (ReflectliteType.method ReflectliteType.elem) Tryz.func205 (by kernel_rfl) (by kernel_rfl) (by kernel_rfl) (by kernel_rfl)
  have x6 := @run_callFunc_extern Tryz.prog 206 _ (ReflectliteType.relation "Implements" ReflectliteType.implements_) Tryz.func206 (by kernel_rfl) (by kernel_rfl) (by kernel_rfl) (by kernel_rfl)
  have y1 := valueOfPE
  have y2 := typePE
  have y3 := mKind
  have y4 := mElem
  have y5 := mImplements
  have y6 := kindPE
  have y7 := kindE
  have y8 := elemPE
  have y9 := implementsE
  have hlt : 0 < w.heap.size := lt_of_cell hg
  have htl : t.block < w.heap.size := by cases t; exact lt_of_cell ht
  have n8 := isNilPE ⟨w.heap.size, 0, none⟩ t ((w.alloc (.cells #[.pointer (some t)] 86)).alloc (.cells #[.pointer (some ⟨10, 86, none⟩), .pointer (some ⟨w.heap.size, 0, none⟩), .int .u64 150] 117)) (by simp)
  have hb : Below w.heap.size w ((w.alloc (.cells #[.pointer (some t)] 86)).alloc (.cells #[.pointer (some ⟨10, 86, none⟩), .pointer (some ⟨w.heap.size, 0, none⟩), .int .u64 150] 117)) := ((Below.refl _ _).alloc (Nat.le_refl _) _).alloc (by simp) _
  have hg2 := (hb.cell (p := ⟨0, 0, none⟩) hlt).trans hg
  have hk := asE (hc.later hb (Nat.le_refl _)) (a := ⟨w.heap.size, 0, none⟩) (by simp) ((hb.cell htl).trans ht) ((hb.frozen htl).trans hf)
  have HK := Lib.hid hk
  have HB := Lib.hid hb
  clear hk hb hc hg
  go_enter Tryz.func35, Tryz.ntmps35
  go_wp2_with (go_at_call 59; refine HK.out.mono ?_; rintro e w' ⟨rfl, hp⟩)
  go_ret
  exact ⟨ret_bool (by simp), AsWorld.later HB.out hp⟩
set_option maxRecDepth 100000 in
set_option maxHeartbeats 1000000 in
theorem As_F {d : Nat} {v : Value} {fs : List (Nat × Int)} {c : Option Int} {w : World} {t : Addr} {old : Value} (hc : Chain w d v fs c) (hg : Handle w) (ht : w.cell? t = some old) (hf : w.frozen? t = false) :
    Calls Tryz.prog 35 #[v, .iface 88 (.pointer (some t))] w (AsPost (fs.head?.map (fun p => .pointer (some ⟨p.1, 0, none⟩))) t w) := by
  obtain ⟨T, x, rfl⟩ := hc.held
  have x1 := @run_callFunc_extern Tryz.prog 56 _ (fun args => ReflectliteValue.unpack (args.getD 0 (.tuple #[]))) Tryz.func56 (by kernel_rfl) (by kernel_rfl) (by kernel_rfl) (by kernel_rfl)
  have x2 := @run_callFunc_extern Tryz.prog 57 _ (ReflectliteValue.methodAny (ReflectliteValue.valueError "reflectlite.Value.Type" 0) (fun t _ _ _ => ReflectliteType.toType t)) Tryz.func57 (by kernel_rfl) (by kernel_rfl) (by kernel_rfl) (by kernel_rfl)
  have x3 := @run_callFunc_extern Tryz.prog 58 _ (ReflectliteValue.method (ReflectliteValue.valueError "reflectlite.Value.IsNil" 0) ReflectliteValue.isNil) Tryz.func58 (by kernel_rfl) (by kernel_rfl) (by kernel_rfl) (by kernel_rfl)
  have x4 := @run_callFunc_extern Tryz.prog 192 _ (ReflectliteType.abiMethod fun t => do pure (.int .u8 (← Rtype.kind t))) Tryz.func192 (by kernel_rfl) (by kernel_rfl) (by kernel_rfl) (by kernel_rfl)
  have x5 := @run_callFunc_extern Tryz.prog 205 _ (ReflectliteType.method ReflectliteType.elem) Tryz.func205 (by kernel_rfl) (by kernel_rfl) (by kernel_rfl) (by kernel_rfl)
  have x6 := @run_callFunc_extern Tryz.prog 206 _ (ReflectliteType.relation "Implements" ReflectliteType.implements_) Tryz.func206 (by kernel_rfl) (by kernel_rfl) (by kernel_rfl) (by kernel_rfl)
  have y1 := valueOfPF
  have y2 := typePF
  have y3 := mKind
  have y4 := mElem
  have y5 := mImplements
  have y6 := kindPF
  have y7 := kindF
  have y8 := elemPF
  have y9 := implementsF
  have hlt : 0 < w.heap.size := lt_of_cell hg
  have htl : t.block < w.heap.size := by cases t; exact lt_of_cell ht
  have n8 := isNilPF ⟨w.heap.size, 0, none⟩ t ((w.alloc (.cells #[.pointer (some t)] 88)).alloc (.cells #[.pointer (some ⟨10, 88, none⟩), .pointer (some ⟨w.heap.size, 0, none⟩), .int .u64 150] 117)) (by simp)
  have hb : Below w.heap.size w ((w.alloc (.cells #[.pointer (some t)] 88)).alloc (.cells #[.pointer (some ⟨10, 88, none⟩), .pointer (some ⟨w.heap.size, 0, none⟩), .int .u64 150] 117)) := ((Below.refl _ _).alloc (Nat.le_refl _) _).alloc (by simp) _
  have hg2 := (hb.cell (p := ⟨0, 0, none⟩) hlt).trans hg
  have hk := asF (hc.later hb (Nat.le_refl _)) (a := ⟨w.heap.size, 0, none⟩) (by simp) ((hb.cell htl).trans ht) ((hb.frozen htl).trans hf)
  have HK := Lib.hid hk
  have HB := Lib.hid hb
  clear hk hb hc hg
  go_enter Tryz.func35, Tryz.ntmps35
  go_wp2_with (go_at_call 59; refine HK.out.mono ?_; rintro e w' ⟨rfl, hp⟩)
  go_ret
  exact ⟨ret_bool (by simp), AsWorld.later HB.out hp⟩
end Go.Proofs.YtoagfmonfgagbaaGreatDoor

namespace Go.Proofs.YtoagfmonfgagbaaGreatDoor
open Go.RowKit Go.Extern.Stop Go.Stop Go.Extern

/-- '==' of two numbers, both held as errors. -/
theorem eqlErr (a b : Int) (w : World) : (binOp .eql 29 (.iface 37 (.int .i64 a)) (.iface 37 (.int .i64 b))).run Tryz.prog w = .ok (.bool (a == b)) w := by
  have hu := Tryz.underlying29
  have hv := Tryz.underlying37
  have hc : (typeInfo 37).run Tryz.prog w = .ok ((Tryz.prog.info? 37).getD default) w := by kernel_rfl
  have hk : ((Tryz.prog.info? 37).getD default).comparable = true := by kernel_rfl
  have h : ∀ d : Nat, (Op.equalIn (d + 2) 29 (.iface 37 (.int .i64 a)) (.iface 37 (.int .i64 b))).run Tryz.prog w = .ok (a == b) w := fun d => by
    simp [Op.equalIn, run_underlying hu, run_underlying hv, hc, hk]
  have h2 : (Op.equal 29 (.iface 37 (.int .i64 a)) (.iface 37 (.int .i64 b))).run Tryz.prog w = .ok (a == b) w := h 9998
  simp only [binOp]
  simp [h2]
theorem eqlF (v x : Value) (w : World) : (binOp .eql 29 (.iface 84 v) (.iface 37 x)).run Tryz.prog w = .ok (.bool false) w := run_eql_iface_types _ _ _ _ Tryz.underlying29 (by decide) w
theorem eqlS (v x : Value) (w : World) : (binOp .eql 29 (.iface 238 v) (.iface 37 x)).run Tryz.prog w = .ok (.bool false) w := run_eql_iface_types _ _ _ _ Tryz.underlying29 (by decide) w

/-- A chain in which every step is a fault, down to a number. -/
inductive Faults (w : World) : Nat → Value → List (Nat × Int) → Int → Prop
  | errno (n : Int) : Faults w 0 (.iface 37 (.int .i64 n)) [] n
  | fault (d b : Nat) (at_ : Int) (v : Value) (fs : List (Nat × Int)) (n : Int) : w.heap[b]? = some (.cells #[.int .i64 at_, v] 90 (0, 0)) → w.cell? ⟨b, 0, none⟩ = some (.int .i64 at_) → w.cell? ⟨b, 1, none⟩ = some v → Faults w d v fs n → Faults w (d + 1) (.iface 84 (.pointer (some ⟨b, 0, none⟩))) ((b, at_) :: fs) n
theorem Faults.chain {w : World} {d : Nat} {v : Value} {fs : List (Nat × Int)} {n : Int} (h : Faults w d v fs n) : Chain w d v fs (some n) := by
  induction h with
  | errno n => exact .errno n
  | fault d b at_ v fs n hh h0 h1 h ih => exact .fault d b at_ v fs _ hh h0 h1 ih
theorem Faults.later {w w' : World} {B : Nat} (hb : Below B w w') (hB : w.heap.size ≤ B) {d : Nat} {v : Value} {fs : List (Nat × Int)} {n : Int} (h : Faults w d v fs n) : Faults w' d v fs n := by
  induction h with
  | errno n => exact .errno n
  | fault d b at_ v fs c hh h0 h1 h ih =>
    have hlt := lt_of_cell h0
    exact .fault d b at_ v fs c ((hb.block b (by omega)).trans hh) ((hb.cell (p := ⟨b, 0, none⟩) (by show b < B; omega)).trans h0) ((hb.cell (p := ⟨b, 1, none⟩) (by show b < B; omega)).trans h1) ih

set_option maxRecDepth 100000 in
set_option maxHeartbeats 1000000 in
theorem is_any {d : Nat} {v : Value} {fs : List (Nat × Int)} {n x : Int} {w : World} (hc : Faults w d v fs n) :
    Calls Tryz.prog 61 #[v, .iface 37 (.int .i64 x), .bool true] w fun e w' => e = .returned (.bool (n == x)) ∧ w = w' := by
  have y1 := eqlErr
  have y2 := eqlF
  have z1 := noIsE
  have z2 := noIsF
  have z3 := noUnE
  have z4 := hasUnF
  have z5 := noUsE
  have m2 := mUnF
  go_enter Tryz.func61, Tryz.ntmps61
  go_wp2
  go_loopg [0] d (fun k u wr => ∃ fs', Faults wr k u fs' n ∧ w = wr)
  case atStart => exact ⟨fs, hc, rfl⟩
  case round =>
    obtain ⟨fs', hc', rfl⟩ := hrel
    clear hc
    cases hc' with
    | errno n =>
      by_cases h : n = x
      · subst h
        go_wp2
        go_ret
        exact ⟨by simp, rfl⟩
      · have hb : (n == x) = false := by simp [h]
        go_wp2
        go_ret
        exact ⟨by rw [hb]; rfl, rfl⟩
    | fault d' b at_ v' fs'' _ hh h0 h1 hc'' =>
      clear hh
      obtain ⟨T, x1, rfl⟩ := hc''.chain.held
      have HC := Lib.hid hc''
      clear hc''
      go_wp2_with (go_at_call 198; refine (unF b (.iface T x1) _ h1).mono ?_; rintro e w' ⟨rfl, rfl⟩)
      go_roundg d'
      case measure => omega
      case rel => exact ⟨fs'', HC.out, rfl⟩

theorem comparableE2 (w : World) : (ReflectliteType.method (fun t => do Rtype.noPackHeld "Comparable" t; (fun a => Value.bool a.comparable) <$> typeInfo t) #[.agg #[.pointer (some ⟨10, 37, none⟩)]]).run Tryz.prog w = .ok (.bool true) w := by kernel_rfl

set_option maxRecDepth 100000 in
set_option maxHeartbeats 1000000 in
/-- errors.Is at a number. -/
theorem Is_any {d : Nat} {v : Value} {fs : List (Nat × Int)} {n x : Int} {w : World} (hc : Faults w d v fs n) :
    Calls Tryz.prog 36 #[v, .iface 37 (.int .i64 x)] w fun e w' => e = .returned (.bool (n == x)) ∧ w = w' := by
  obtain ⟨T, xv, rfl⟩ := hc.chain.held
  have x1 := @run_callFunc_extern Tryz.prog 60 _ ReflectliteType.typeOf Tryz.func60 (by kernel_rfl) (by kernel_rfl) (by kernel_rfl) (by kernel_rfl)
  have x2 := @run_callFunc_extern Tryz.prog 204 _ (ReflectliteType.method (fun t => do Rtype.noPackHeld "Comparable" t; pure (.bool (← typeInfo t).comparable))) Tryz.func204 (by kernel_rfl) (by kernel_rfl) (by kernel_rfl) (by kernel_rfl)
  have y1 := typeOfE
  have y2 := mComparable
  have y3 := comparableE2
  have HK := Lib.hid (is_any (x := x) hc)
  clear hc
  go_enter Tryz.func36, Tryz.ntmps36
  go_wp2_with (go_at_call 61; refine HK.out.mono ?_; rintro e w' ⟨rfl, rfl⟩)
  go_ret
  exact ⟨rfl, rfl⟩
end Go.Proofs.YtoagfmonfgagbaaGreatDoor

namespace Go.Proofs.YtoagfmonfgagbaaGreatDoor
open Go.RowKit

/-- The outermost fault, as errors.As hands it on. -/
def fp : List (Nat × Int) → Value
  | [] => .pointer none
  | p :: _ => .pointer (some ⟨p.1, 0, none⟩)

theorem Chain.only {w : World} {d : Nat} {v : Value} {fs : List (Nat × Int)} {c : Option Int} (h : Chain w d v fs c) : ∀ {d' : Nat} {fs' : List (Nat × Int)} {c' : Option Int}, Chain w d' v fs' c' → fs = fs' ∧ c = c' := by
  induction h with
  | errno n => intro d' fs' c' h'; cases h'; exact ⟨rfl, rfl⟩
  | other p => intro d' fs' c' h'; cases h'; exact ⟨rfl, rfl⟩
  | fault d b at_ v fs c hh h0 h1 h ih =>
    intro d' fs' c' h'
    cases h' with
    | fault d2 _ at2 v2 fs2 _ gg g0 g1 g =>
      have e0 : at_ = at2 := by have := h0.symm.trans g0; simpa using this
      have e1 : v = v2 := Option.some.inj (h1.symm.trans g1)
      subst e0; subst e1
      obtain ⟨rfl, rfl⟩ := ih g
      exact ⟨rfl, rfl⟩

/-- What the outermost fault holds: its place, and an error with the other faults. -/
theorem Chain.next {w : World} {d : Nat} {v : Value} {p : Nat × Int} {fs : List (Nat × Int)} {c : Option Int} (h : Chain w d v (p :: fs) c) : ∃ d' v', w.heap[p.1]? = some (.cells #[.int .i64 p.2, v'] 90 (0, 0)) ∧ w.cell? ⟨p.1, 0, none⟩ = some (.int .i64 p.2) ∧ w.cell? ⟨p.1, 1, none⟩ = some v' ∧ Chain w d' v' fs c := by
  generalize hl : p :: fs = l at h
  induction h with
  | errno n => cases hl
  | other p => cases hl
  | fault d b at_ v fs c hh h0 h1 h ih => cases hl; exact ⟨_, _, hh, h0, h1, h⟩

theorem Chain.drop {w : World} {d : Nat} {v : Value} {fs : List (Nat × Int)} {c : Option Int} (h : Chain w d v fs c) : ∀ i, ∃ d' v', Chain w d' v' (fs.drop i) c := by
  induction fs generalizing d v with
  | nil => intro i; exact ⟨d, v, by simpa using h⟩
  | cons p fs ih =>
    intro i
    cases i with
    | zero => exact ⟨d, v, h⟩
    | succ i =>
      obtain ⟨d', v', _, _, _, h'⟩ := h.next
      simpa using ih h' i

/-- No fault stands in an error twice. -/
theorem Chain.apart {w : World} {d : Nat} {v : Value} {fs : List (Nat × Int)} {c : Option Int} (h : Chain w d v fs c) (i j : Nat) (hij : i < j) (p q : Nat × Int) (s t : List (Nat × Int)) (hi : fs.drop i = p :: s) (hj : fs.drop j = q :: t) : p.1 ≠ q.1 := by
  intro e
  obtain ⟨d1, v1, c1⟩ := h.drop i
  obtain ⟨d2, v2, c2⟩ := h.drop j
  rw [hi] at c1
  rw [hj] at c2
  obtain ⟨d3, v3, _, _, a1, c3⟩ := c1.next
  obtain ⟨d4, v4, _, _, b1, c4⟩ := c2.next
  rw [e] at a1
  have hv : v3 = v4 := Option.some.inj (a1.symm.trans b1)
  subst hv
  obtain ⟨hs, _⟩ := c3.only c4
  have l1 := congrArg List.length hi
  have l2 := congrArg List.length hj
  rw [hs] at l1
  simp only [List.length_drop, List.length_cons] at l1 l2
  omega
end Go.Proofs.YtoagfmonfgagbaaGreatDoor

namespace Go.Proofs.YtoagfmonfgagbaaGreatDoor
open Go.RowKit Go.Extern.Stop Go.Stop Go.Extern

theorem Handle.later {w w' : World} {B : Nat} (hb : Below B w w') (hB : w.heap.size ≤ B) (h : Handle w) : Handle w' := by
  have hlt : 0 < w.heap.size := lt_of_cell h
  exact (hb.cell (p := ⟨0, 0, none⟩) (by show (0 : Nat) < B; omega)).trans h

theorem ret_val {a b : Value} (h : a = b) : Ending.returned a = .returned b := by rw [h]

theorem wrap_nil (at_ : Value) (w : World) : Calls Tryz.prog 43 #[at_, .nilIface] w fun e w' => e = .returned .nilIface ∧ w = w' := by
  go_enter Tryz.func43, Tryz.ntmps43
  go_wp2
  go_ret
  exact ⟨rfl, rfl⟩
/-- Wrap of an error: a new fault in a block of its own. -/
theorem wrap_some (at_ : Int) (T : TypeId) (x : Value) (w : World) : Calls Tryz.prog 43 #[.int .i64 at_, .iface T x] w fun e w' =>
    e = .returned (.iface 84 (.pointer (some ⟨w.heap.size, 0, none⟩))) ∧ w.alloc (.cells #[.int .i64 at_, .iface T x] 90) = w' := by
  go_enter Tryz.func43, Tryz.ntmps43
  go_wp2
  go_ret
  exact ⟨rfl, rfl⟩
/-- A fault around a chain is a chain. -/
theorem Chain.wrapped {w : World} {d : Nat} {v : Value} {fs : List (Nat × Int)} {c : Option Int} (h : Chain w d v fs c) (at_ : Int) : Chain (w.alloc (.cells #[.int .i64 at_, v] 90)) (d + 1) (.iface 84 (.pointer (some ⟨w.heap.size, 0, none⟩))) ((w.heap.size, at_) :: fs) c :=
  .fault d w.heap.size at_ v fs c (by show (w.heap.push _)[w.heap.size]? = _; exact Array.getElem?_push_size) (by simp) (by simp) (h.later ((Below.refl w.heap.size w).alloc (Nat.le_refl _) _) (Nat.le_refl _))
end Go.Proofs.YtoagfmonfgagbaaGreatDoor
