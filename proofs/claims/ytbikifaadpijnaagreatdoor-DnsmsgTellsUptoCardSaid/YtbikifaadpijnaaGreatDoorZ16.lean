/-
  errors.As and errors.as at the targets *api.Errno and **api.Fault, over any chain of faults, joins and numbers. Conditions: errors.errorType holds the handle of the type error; the target's cell is there and not frozen.
  errors.as at the target *api.Errno. Conditions as in Err.
  errors.as at the target **api.Fault. Conditions as in Err.
  errors.As at the targets *api.Errno and **api.Fault, over any chain and at nil. Conditions: errors.errorType holds the handle of the type error; the target's cell is there and not frozen.
  errors.Is and errors.is at a target that is a number, over any chain. Conditions: the error is a chain.
  PLAIN: a chain of errors is the only one at its value; no fault stands in it twice. No conditions.
  fault.Wrap; the handle's condition in later worlds. Conditions: the error is a chain.
  outermost, inner of package fault. Conditions: the error is a chain; errors.errorType holds the handle of the type error.
  circular of package fault: false at every chain. Conditions: the faults are those of a chain; errors.errorType holds the handle of the type error.
  Place, Code, Deeper of package fault. Conditions: the error is nil or a chain; errors.errorType holds the handle of the type error.
-/
import Derived.Test.YtbikifaadpijnaaGreatDoorZ15
import Derived.Deep.LoopGhost
import Derived.Lib.Hide
import Derived.Outline
import Derived.Defers
import Derived.Recover
namespace Go.Proofs.YtbikifaadpijnaaGreatDoor
open Go.RowKit Go.Extern.Stop Go.Stop Go.Extern

/-- An error in memory: numbers, faults, joins of one. d: how deep; fs: the faults in it, outermost first (block, place); c: the number in it. -/
inductive Chain (w : World) : Nat → Value → List (Nat × Int) → Option Int → Prop
  | errno (n : Int) : Chain w 0 (.iface 34 (.int .i64 n)) [] (some n)
  | fault (d b : Nat) (at_ : Int) (v : Value) (fs : List (Nat × Int)) (c : Option Int) : w.heap[b]? = some (.cells #[.int .i64 at_, v] 97 (0, 0)) → w.cell? ⟨b, 0, none⟩ = some (.int .i64 at_) → w.cell? ⟨b, 1, none⟩ = some v → Chain w d v fs c → Chain w (d + 1) (.iface 91 (.pointer (some ⟨b, 0, none⟩))) ((b, at_) :: fs) c

theorem lt_of_cell {w : World} {b o : Nat} {p : Option Nat} {v : Value} (h : w.cell? ⟨b, o, p⟩ = some v) : b < w.heap.size := by
  rcases Nat.lt_or_ge b w.heap.size with h' | h'
  · exact h'
  · simp [World.cell?, Array.getElem?_eq_none h'] at h
theorem cell_far (w : World) (p a : Addr) (v : Value) (h : p.block ≠ a.block) : (w.setCell p v).cell? a = w.cell? a :=
  World.cell?_of_block (w := w) (Below.heap_setCell w p v a.block (fun e => h e.symm))

theorem Chain.held {w : World} {d : Nat} {v : Value} {fs : List (Nat × Int)} {c : Option Int} (h : Chain w d v fs c) : ∃ T x, v = .iface T x := by
  cases h with
  | errno n => exact ⟨_, _, rfl⟩
  | fault d b at_ v fs c hh h0 h1 h => exact ⟨_, _, rfl⟩

/-- What was an error is that error in every later world. -/
theorem Chain.later {w w' : World} {B : Nat} (hb : Below B w w') (hB : w.heap.size ≤ B) {d : Nat} {v : Value} {fs : List (Nat × Int)} {c : Option Int} (h : Chain w d v fs c) : Chain w' d v fs c := by
  induction h with
  | errno n => exact .errno n
  | fault d b at_ v fs c hh h0 h1 h ih =>
    have hlt := lt_of_cell h0
    exact .fault d b at_ v fs c ((hb.block b (by omega)).trans hh) ((hb.cell (p := ⟨b, 0, none⟩) (by show b < B; omega)).trans h0) ((hb.cell (p := ⟨b, 1, none⟩) (by show b < B; omega)).trans h1) ih

/-- (*Fault).Unwrap, (*joinError).Unwrap. -/
theorem unF (b : Nat) (v : Value) (w : World) (h1 : w.cell? ⟨b, 1, none⟩ = some v) : Calls Tryz.prog 176 #[.pointer (some ⟨b, 0, none⟩)] w fun e w' => e = .returned v ∧ w = w' := by
  go_enter Tryz.func176, Tryz.ntmps176
  go_wp2
  go_ret
  exact ⟨rfl, rfl⟩
end Go.Proofs.YtbikifaadpijnaaGreatDoor

namespace Go.Proofs.YtbikifaadpijnaaGreatDoor
open Go.RowKit Go.Extern.Stop Go.Stop Go.Extern

/-- What errors.As leaves behind: the target holds what was found; all else that was there is as it was. -/
def AsWorld (hit : Option Value) (t : Addr) (w w' : World) : Prop :=
  match hit with
  | some x => ∃ w1, Below w.heap.size w w1 ∧ w' = w1.setCell t x
  | none => Below w.heap.size w w'
def AsPost (hit : Option Value) (t : Addr) (w : World) (e : Ending) (w' : World) : Prop := e = .returned (.bool hit.isSome) ∧ AsWorld hit t w w'

set_option maxRecDepth 100000 in
set_option maxHeartbeats 1000000 in
theorem asE_any (N : Nat) : ∀ (d : Nat) (v : Value) (fs : List (Nat × Int)) (c : Option Int) (w : World) (t a : Addr) (old : Value), d < N → Chain w d v fs c → w.cell? a = some (.pointer (some t)) → w.cell? t = some old → w.frozen? t = false →
    Calls Tryz.prog 75 #[v, .iface 93 (.pointer (some t)), .agg #[.pointer (some ⟨4, 93, none⟩), .pointer (some a), .int .u64 150], .iface 171 (.agg #[.pointer (some ⟨4, 34, none⟩)])] w (AsPost (c.map (fun n => .int .i64 n)) t w) := by
  induction N with
  | zero => intro d v fs c w t a old hd; omega
  | succ N ih =>
    intro d v fs c w t a old hd hc ha ht hf
    have x1 := @run_callFunc_extern Tryz.prog 76 _ ReflectliteType.typeOf Tryz.func76 (by kernel_rfl) (by kernel_rfl) (by kernel_rfl) (by kernel_rfl)
    have x2 := @run_callFunc_extern Tryz.prog 181 _ (ReflectliteType.relation "AssignableTo" ReflectliteType.assignableTo) Tryz.func181 (by kernel_rfl) (by kernel_rfl) (by kernel_rfl) (by kernel_rfl)
    have x3 := @run_callFunc_extern Tryz.prog 102 _ (ReflectliteValue.method (ReflectliteValue.valueError "reflectlite.Value.Elem" 0) ReflectliteValue.elem) Tryz.func102 (by kernel_rfl) (by kernel_rfl) (by kernel_rfl) (by kernel_rfl)
    have x4 := @run_callFunc_extern Tryz.prog 72 _ (fun args => ReflectliteValue.unpack (args.getD 0 (.tuple #[]))) Tryz.func72 (by kernel_rfl) (by kernel_rfl) (by kernel_rfl) (by kernel_rfl)
    have x5 := @run_callFunc_extern Tryz.prog 103 _ ReflectliteValue.set Tryz.func103 (by kernel_rfl) (by kernel_rfl) (by kernel_rfl) (by kernel_rfl)
    have y1 := typeOfE
    have y2 := typeOfF
    have y5 := asgEE
    have y6 := asgFE
    have z1 := noAsE
    have z2 := noAsF
    have z5 := noUnE
    have z6 := hasUnF
    have z9 := noUsE
    have v1 := valueOfE
    have m1 := mAsg
    have m2 := mUnF
    go_enter Tryz.func75, Tryz.ntmps75
    go_wp2
    go_loopg [0] d (fun k u wr => ∃ fs', k < N + 1 ∧ Chain wr k u fs' c ∧ Below w.heap.size w wr ∧ wr.cell? ⟨w.heap.size, 0, none⟩ = some (.pointer (some ⟨4, 93, none⟩)) ∧ wr.cell? ⟨w.heap.size, 1, none⟩ = some (.pointer (some a)) ∧ wr.cell? ⟨w.heap.size, 2, none⟩ = some (.int .u64 150) ∧ wr.cell? a = some (.pointer (some t)) ∧ wr.cell? t = some old ∧ wr.frozen? t = false)
    case atStart =>
      have hb : Below w.heap.size w (w.alloc (.cells #[.pointer (some ⟨4, 93, none⟩), .pointer (some a), .int .u64 150] 135)) := (Below.refl _ _).alloc (Nat.le_refl _) _
      have hal : a.block < w.heap.size := by cases a; exact lt_of_cell ha
      have htl : t.block < w.heap.size := by cases t; exact lt_of_cell ht
      exact ⟨fs, hd, hc.later hb (Nat.le_refl _), hb, by simp, by simp, by simp, (hb.cell hal).trans ha, (hb.cell htl).trans ht, (hb.frozen htl).trans hf⟩
    case round =>
      obtain ⟨fs', hkN, hc', hb, b0, b1, b2, ha', ht', hf'⟩ := hrel
      have Hb := Lib.hid hb
      clear hb ha ht hf hc
      cases hc' with
      | errno n =>
        have el := elemVPE a t wr ha'
        have htl : t.block < wr.heap.size := by cases t; exact lt_of_cell ht'
        have st := setE t ⟨wr.heap.size, 0, none⟩ n old (wr.alloc (.cells #[.int .i64 n] 34)) (by rw [World.cell?_alloc_at _ _ _ _ (by simp)]; rfl)
          (by rw [World.cell?_alloc_lt _ _ t htl]; exact ht') (by rw [World.frozen?_alloc_old _ _ t (Nat.ne_of_lt htl)]; exact hf')
        go_wp2
        go_ret
        exact ⟨rfl, _, (Hb.out).alloc (Hb.out).size _, rfl⟩
      | fault d' b at_ v' fs'' c' hh h0 h1 hc'' =>
        clear hh
        obtain ⟨T, x, rfl⟩ := hc''.held
        have HC := Lib.hid hc''
        clear hc''
        go_wp2_with (go_at_call 176; refine (unF b (.iface T x) _ h1).mono ?_; rintro e w' ⟨rfl, rfl⟩)
        go_roundg d'
        case measure => omega
        case rel => exact ⟨fs'', by omega, HC.out, Hb.out, b0, b1, b2, ha', ht', hf'⟩

/-- errors.as at *api.Errno, over any chain. -/
theorem asE {d : Nat} {v : Value} {fs : List (Nat × Int)} {c : Option Int} {w : World} {t a : Addr} {old : Value} (hc : Chain w d v fs c) (ha : w.cell? a = some (.pointer (some t))) (ht : w.cell? t = some old) (hf : w.frozen? t = false) :
    Calls Tryz.prog 75 #[v, .iface 93 (.pointer (some t)), .agg #[.pointer (some ⟨4, 93, none⟩), .pointer (some a), .int .u64 150], .iface 171 (.agg #[.pointer (some ⟨4, 34, none⟩)])] w (AsPost (c.map (fun n => .int .i64 n)) t w) :=
  asE_any (d + 1) d v fs c w t a old (Nat.lt_succ_self d) hc ha ht hf
end Go.Proofs.YtbikifaadpijnaaGreatDoor

namespace Go.Proofs.YtbikifaadpijnaaGreatDoor
open Go.RowKit Go.Extern.Stop Go.Stop Go.Extern

set_option maxRecDepth 100000 in
set_option maxHeartbeats 1000000 in
theorem asF_any (N : Nat) : ∀ (d : Nat) (v : Value) (fs : List (Nat × Int)) (c : Option Int) (w : World) (t a : Addr) (old : Value), d < N → Chain w d v fs c → w.cell? a = some (.pointer (some t)) → w.cell? t = some old → w.frozen? t = false →
    Calls Tryz.prog 75 #[v, .iface 95 (.pointer (some t)), .agg #[.pointer (some ⟨4, 95, none⟩), .pointer (some a), .int .u64 150], .iface 171 (.agg #[.pointer (some ⟨4, 91, none⟩)])] w (AsPost (fs.head?.map (fun p => .pointer (some ⟨p.1, 0, none⟩))) t w) := by
  induction N with
  | zero => intro d v fs c w t a old hd; omega
  | succ N ih =>
    intro d v fs c w t a old hd hc ha ht hf
    have x1 := @run_callFunc_extern Tryz.prog 76 _ ReflectliteType.typeOf Tryz.func76 (by kernel_rfl) (by kernel_rfl) (by kernel_rfl) (by kernel_rfl)
    have x2 := @run_callFunc_extern Tryz.prog 181 _ (ReflectliteType.relation "AssignableTo" ReflectliteType.assignableTo) Tryz.func181 (by kernel_rfl) (by kernel_rfl) (by kernel_rfl) (by kernel_rfl)
    have x3 := @run_callFunc_extern Tryz.prog 102 _ (ReflectliteValue.method (ReflectliteValue.valueError "reflectlite.Value.Elem" 0) ReflectliteValue.elem) Tryz.func102 (by kernel_rfl) (by kernel_rfl) (by kernel_rfl) (by kernel_rfl)
    have x4 := @run_callFunc_extern Tryz.prog 72 _ (fun args => ReflectliteValue.unpack (args.getD 0 (.tuple #[]))) Tryz.func72 (by kernel_rfl) (by kernel_rfl) (by kernel_rfl) (by kernel_rfl)
    have x5 := @run_callFunc_extern Tryz.prog 103 _ ReflectliteValue.set Tryz.func103 (by kernel_rfl) (by kernel_rfl) (by kernel_rfl) (by kernel_rfl)
    have y1 := typeOfE
    have y2 := typeOfF
    have y5 := asgEF
    have y6 := asgFF
    have z1 := noAsE
    have z2 := noAsF
    have z5 := noUnE
    have z6 := hasUnF
    have z9 := noUsE
    have v1 := valueOfF
    have m1 := mAsg
    have m2 := mUnF
    go_enter Tryz.func75, Tryz.ntmps75
    go_wp2
    go_loopg [0] d (fun k u wr => ∃ c', k < N + 1 ∧ Chain wr k u fs c' ∧ Below w.heap.size w wr ∧ wr.cell? ⟨w.heap.size, 0, none⟩ = some (.pointer (some ⟨4, 95, none⟩)) ∧ wr.cell? ⟨w.heap.size, 1, none⟩ = some (.pointer (some a)) ∧ wr.cell? ⟨w.heap.size, 2, none⟩ = some (.int .u64 150) ∧ wr.cell? a = some (.pointer (some t)) ∧ wr.cell? t = some old ∧ wr.frozen? t = false)
    case atStart =>
      have hb : Below w.heap.size w (w.alloc (.cells #[.pointer (some ⟨4, 95, none⟩), .pointer (some a), .int .u64 150] 135)) := (Below.refl _ _).alloc (Nat.le_refl _) _
      have hal : a.block < w.heap.size := by cases a; exact lt_of_cell ha
      have htl : t.block < w.heap.size := by cases t; exact lt_of_cell ht
      exact ⟨c, hd, hc.later hb (Nat.le_refl _), hb, by simp, by simp, by simp, (hb.cell hal).trans ha, (hb.cell htl).trans ht, (hb.frozen htl).trans hf⟩
    case round =>
      obtain ⟨c', hkN, hc', hb, b0, b1, b2, ha', ht', hf'⟩ := hrel
      have Hb := Lib.hid hb
      clear hb ha ht hf hc
      cases hc' with
      | errno n =>
        go_wp2
        go_ret
        exact ⟨rfl, Hb.out⟩
      | fault d' b at_ v' fs'' c'' hh h0 h1 hc'' =>
        clear hh
        have el := elemVPF a t wr ha'
        have htl : t.block < wr.heap.size := by cases t; exact lt_of_cell ht'
        have st := setF t ⟨wr.heap.size, 0, none⟩ ⟨b, 0, none⟩ old (wr.alloc (.cells #[.pointer (some ⟨b, 0, none⟩)] 91)) (by rw [World.cell?_alloc_at _ _ _ _ (by simp)]; rfl)
          (by rw [World.cell?_alloc_lt _ _ t htl]; exact ht') (by rw [World.frozen?_alloc_old _ _ t (Nat.ne_of_lt htl)]; exact hf')
        clear hc''
        go_wp2
        go_ret
        exact ⟨rfl, _, (Hb.out).alloc (Hb.out).size _, rfl⟩

/-- errors.as at *api.Errno, over any chain. -/
theorem asF {d : Nat} {v : Value} {fs : List (Nat × Int)} {c : Option Int} {w : World} {t a : Addr} {old : Value} (hc : Chain w d v fs c) (ha : w.cell? a = some (.pointer (some t))) (ht : w.cell? t = some old) (hf : w.frozen? t = false) :
    Calls Tryz.prog 75 #[v, .iface 95 (.pointer (some t)), .agg #[.pointer (some ⟨4, 95, none⟩), .pointer (some a), .int .u64 150], .iface 171 (.agg #[.pointer (some ⟨4, 91, none⟩)])] w (AsPost (fs.head?.map (fun p => .pointer (some ⟨p.1, 0, none⟩))) t w) :=
  asF_any (d + 1) d v fs c w t a old (Nat.lt_succ_self d) hc ha ht hf
end Go.Proofs.YtbikifaadpijnaaGreatDoor

namespace Go.Proofs.YtbikifaadpijnaaGreatDoor
open Go.RowKit Go.Extern.Stop Go.Stop Go.Extern

/-- The variable errors.errorType holds the handle of the type error. -/
def Handle (w : World) : Prop := w.cell? ⟨0, 0, none⟩ = some (.iface 171 (.agg #[.pointer (some ⟨4, 31, none⟩)]))

theorem ret_bool {a b : Bool} (h : a = b) : Ending.returned (.bool a) = .returned (.bool b) := by rw [h]

theorem As_nil (t : Value) (w : World) : Calls Tryz.prog 42 #[.nilIface, t] w fun e w' => e = .returned (.bool false) ∧ w = w' := by
  go_enter Tryz.func42, Tryz.ntmps42
  go_wp2
  go_ret
  exact ⟨rfl, rfl⟩

theorem AsWorld.later {hit : Option Value} {t : Addr} {w w1 : World} {w' : World} (hb : Below w.heap.size w w1) (h : AsWorld hit t w1 w') : AsWorld hit t w w' := by
  cases hit with
  | none => exact hb.trans (Below.mono h hb.size)
  | some x => obtain ⟨w2, hb1, hw⟩ := h; exact ⟨w2, hb.trans (hb1.mono hb.size), hw⟩

set_option maxRecDepth 100000 in
set_option maxHeartbeats 1000000 in
theorem As_E {d : Nat} {v : Value} {fs : List (Nat × Int)} {c : Option Int} {w : World} {t : Addr} {old : Value} (hc : Chain w d v fs c) (hg : Handle w) (ht : w.cell? t = some old) (hf : w.frozen? t = false) :
    Calls Tryz.prog 42 #[v, .iface 93 (.pointer (some t))] w (AsPost (c.map (fun n => .int .i64 n)) t w) := by
  obtain ⟨T, x, rfl⟩ := hc.held
  have x1 := @run_callFunc_extern Tryz.prog 72 _ (fun args => ReflectliteValue.unpack (args.getD 0 (.tuple #[]))) Tryz.func72 (by kernel_rfl) (by kernel_rfl) (by kernel_rfl) (by kernel_rfl)
  have x2 := @run_callFunc_extern Tryz.prog 73 _ (ReflectliteValue.methodAny (ReflectliteValue.valueError "reflectlite.Value.Type" 0) (fun t _ _ _ => ReflectliteType.toType t)) Tryz.func73 (by kernel_rfl) (by kernel_rfl) (by kernel_rfl) (by kernel_rfl)
  have x3 := @run_callFunc_extern Tryz.prog 74 _ (ReflectliteValue.method (ReflectliteValue.valueError "reflectlite.Value.IsNil" 0) ReflectliteValue.isNil) Tryz.func74 (by kernel_rfl) (by kernel_rfl) (by kernel_rfl) (by kernel_rfl)
  have x4 := @run_callFunc_extern Tryz.prog 171 _ (ReflectliteType.abiMethod fun t => do pure (.int .u8 (← Rtype.kind t))) Tryz.func171 (by kernel_rfl) (by kernel_rfl) (by kernel_rfl) (by kernel_rfl)
  have x5 := @run_callFunc_extern Tryz.prog 183 _ (ReflectliteType.method ReflectliteType.elem) Tryz.func183 (by kernel_rfl) (by kernel_rfl) (by kernel_rfl) (by kernel_rfl)
  have x6 := @run_callFunc_extern Tryz.prog 184 _ (ReflectliteType.relation "Implements" ReflectliteType.implements_) Tryz.func184 (by kernel_rfl) (by kernel_rfl) (by kernel_rfl) (by kernel_rfl)
  have y1 := valueOfPE
  have y2 := typePE
  have y3 := mKind
  have y4 := mElem
  have y5 := mImplements
  have y6 := kindPE
  have y7 := kindE
  have y8 := elemPE
  have y9 := implementsE
  have hlt : 0 < w.heap.size := lt_of_cell hg
  have htl : t.block < w.heap.size := by cases t; exact lt_of_cell ht
  have n8 := isNilPE ⟨w.heap.size, 0, none⟩ t ((w.alloc (.cells #[.pointer (some t)] 93)).alloc (.cells #[.pointer (some ⟨4, 93, none⟩), .pointer (some ⟨w.heap.size, 0, none⟩), .int .u64 150] 135)) (by simp)
  have hb : Below w.heap.size w ((w.alloc (.cells #[.pointer (some t)] 93)).alloc (.cells #[.pointer (some ⟨4, 93, none⟩), .pointer (some ⟨w.heap.size, 0, none⟩), .int .u64 150] 135)) := ((Below.refl _ _).alloc (Nat.le_refl _) _).alloc (by simp) _
  have hg2 := (hb.cell (p := ⟨0, 0, none⟩) hlt).trans hg
  have hk := asE (hc.later hb (Nat.le_refl _)) (a := ⟨w.heap.size, 0, none⟩) (by simp) ((hb.cell htl).trans ht) ((hb.frozen htl).trans hf)
  have HK := Lib.hid hk
  have HB := Lib.hid hb
  clear hk hb hc hg
  go_enter Tryz.func42, Tryz.ntmps42
  go_wp2_with (go_at_call 75; refine HK.out.mono ?_; rintro e w' ⟨rfl, hp⟩)
  go_ret
  exact ⟨ret_bool (by simp), AsWorld.later HB.out hp⟩
set_option maxRecDepth 100000 in
set_option maxHeartbeats 1000000 in
theorem As_F {d : Nat} {v : Value} {fs : List (Nat × Int)} {c : Option Int} {w : World} {t : Addr} {old : Value} (hc : Chain w d v fs c) (hg : Handle w) (ht : w.cell? t = some old) (hf : w.frozen? t = false) :
    Calls Tryz.prog 42 #[v, .iface 95 (.pointer (some t))] w (AsPost (fs.head?.map (fun p => .pointer (some ⟨p.1, 0, none⟩))) t w) := by
  obtain ⟨T, x, rfl⟩ := hc.held
  have x1 := @run_callFunc_extern Tryz.prog 72 _ (fun args => ReflectliteValue.unpack (args.getD 0 (.tuple #[]))) Tryz.func72 (by kernel_rfl) (by kernel_rfl) (by kernel_rfl) (by kernel_rfl)
  have x2 := @run_callFunc_extern Tryz.prog 73 _ (ReflectliteValue.methodAny (ReflectliteValue.valueError "reflectlite.Value.Type" 0) (fun t _ _ _ => ReflectliteType.toType t)) Tryz.func73 (by kernel_rfl) (by kernel_rfl) (by kernel_rfl) (by kernel_rfl)
  have x3 := @run_callFunc_extern Tryz.prog 74 _ (ReflectliteValue.method (ReflectliteValue.valueError "reflectlite.Value.IsNil" 0) ReflectliteValue.isNil) Tryz.func74 (by kernel_rfl) (by kernel_rfl) (by kernel_rfl) (by kernel_rfl)
  have x4 := @run_callFunc_extern Tryz.prog 171 _ (ReflectliteType.abiMethod fun t => do pure (.int .u8 (← Rtype.kind t))) Tryz.func171 (by kernel_rfl) (by kernel_rfl) (by kernel_rfl) (by kernel_rfl)
  have x5 := @run_callFunc_extern Tryz.prog 183 _ (ReflectliteType.method ReflectliteType.elem) Tryz.func183 (by kernel_rfl) (by kernel_rfl) (by kernel_rfl) (by kernel_rfl)
  have x6 := @run_callFunc_extern Tryz.prog 184 _ (ReflectliteType.relation "Implements" ReflectliteType.implements_) Tryz.func184 (by kernel_rfl) (by kernel_rfl) (by kernel_rfl) (by kernel_rfl)
  have y1 := valueOfPF
  have y2 := typePF
  have y3 := mKind
  have y4 := mElem
  have y5 := mImplements
  have y6 := kindPF
  have y7 := kindF
  have y8 := elemPF
  have y9 := implementsF
  have hlt : 0 < w.heap.size := lt_of_cell hg
  have htl : t.block < w.heap.size := by cases t; exact lt_of_cell ht
  have n8 := isNilPF ⟨w.heap.size, 0, none⟩ t ((w.alloc (.cells #[.pointer (some t)] 95)).alloc (.cells #[.pointer (some ⟨4, 95, none⟩), .pointer (some ⟨w.heap.size, 0, none⟩), .int .u64 150] 135)) (by simp)
  have hb : Below w.heap.size w ((w.alloc (.cells #[.pointer (some t)] 95)).alloc (.cells #[.pointer (some ⟨4, 95, none⟩), .pointer (some ⟨w.heap.size, 0, none⟩), .int .u64 150] 135)) := ((Below.refl _ _).alloc (Nat.le_refl _) _).alloc (by simp) _
  have hg2 := (hb.cell (p := ⟨0, 0, none⟩) hlt).trans hg
  have hk := asF (hc.later hb (Nat.le_refl _)) (a := ⟨w.heap.size, 0, none⟩) (by simp) ((hb.cell htl).trans ht) ((hb.frozen htl).trans hf)
  have HK := Lib.hid hk
  have HB := Lib.hid hb
  clear hk hb hc hg
  go_enter Tryz.func42, Tryz.ntmps42
  go_wp2_with (go_at_call 75; refine HK.out.mono ?_; rintro e w' ⟨rfl, hp⟩)
  go_ret
  exact ⟨ret_bool (by simp), AsWorld.later HB.out hp⟩
end Go.Proofs.YtbikifaadpijnaaGreatDoor

namespace Go.Proofs.YtbikifaadpijnaaGreatDoor
open Go.RowKit Go.Extern.Stop Go.Stop Go.Extern

/-- '==' of two numbers, both held as errors. -/
theorem eqlErr (a b : Int) (w : World) : (binOp .eql 31 (.iface 34 (.int .i64 a)) (.iface 34 (.int .i64 b))).run Tryz.prog w = .ok (.bool (a == b)) w := by
  have hu := Tryz.underlying31
  have hv := Tryz.underlying34
  have hc : (typeInfo 34).run Tryz.prog w = .ok ((Tryz.prog.info? 34).getD default) w := by kernel_rfl
  have hk : ((Tryz.prog.info? 34).getD default).comparable = true := by kernel_rfl
  have h : ∀ d : Nat, (Op.equalIn (d + 2) 31 (.iface 34 (.int .i64 a)) (.iface 34 (.int .i64 b))).run Tryz.prog w = .ok (a == b) w := fun d => by
    simp [Op.equalIn, run_underlying hu, run_underlying hv, hc, hk]
  have h2 : (Op.equal 31 (.iface 34 (.int .i64 a)) (.iface 34 (.int .i64 b))).run Tryz.prog w = .ok (a == b) w := h 9998
  simp only [binOp]
  simp [h2]
theorem eqlF (v x : Value) (w : World) : (binOp .eql 31 (.iface 91 v) (.iface 34 x)).run Tryz.prog w = .ok (.bool false) w := run_eql_iface_types _ _ _ _ Tryz.underlying31 (by decide) w

/-- A chain in which every step is a fault, down to a number. -/
inductive Faults (w : World) : Nat → Value → List (Nat × Int) → Int → Prop
  | errno (n : Int) : Faults w 0 (.iface 34 (.int .i64 n)) [] n
  | fault (d b : Nat) (at_ : Int) (v : Value) (fs : List (Nat × Int)) (n : Int) : w.heap[b]? = some (.cells #[.int .i64 at_, v] 97 (0, 0)) → w.cell? ⟨b, 0, none⟩ = some (.int .i64 at_) → w.cell? ⟨b, 1, none⟩ = some v → Faults w d v fs n → Faults w (d + 1) (.iface 91 (.pointer (some ⟨b, 0, none⟩))) ((b, at_) :: fs) n
theorem Faults.chain {w : World} {d : Nat} {v : Value} {fs : List (Nat × Int)} {n : Int} (h : Faults w d v fs n) : Chain w d v fs (some n) := by
  induction h with
  | errno n => exact .errno n
  | fault d b at_ v fs n hh h0 h1 h ih => exact .fault d b at_ v fs _ hh h0 h1 ih
theorem Faults.later {w w' : World} {B : Nat} (hb : Below B w w') (hB : w.heap.size ≤ B) {d : Nat} {v : Value} {fs : List (Nat × Int)} {n : Int} (h : Faults w d v fs n) : Faults w' d v fs n := by
  induction h with
  | errno n => exact .errno n
  | fault d b at_ v fs c hh h0 h1 h ih =>
    have hlt := lt_of_cell h0
    exact .fault d b at_ v fs c ((hb.block b (by omega)).trans hh) ((hb.cell (p := ⟨b, 0, none⟩) (by show b < B; omega)).trans h0) ((hb.cell (p := ⟨b, 1, none⟩) (by show b < B; omega)).trans h1) ih

set_option maxRecDepth 100000 in
set_option maxHeartbeats 1000000 in
theorem is_any {d : Nat} {v : Value} {fs : List (Nat × Int)} {n x : Int} {w : World} (hc : Faults w d v fs n) :
    Calls Tryz.prog 77 #[v, .iface 34 (.int .i64 x), .bool true] w fun e w' => e = .returned (.bool (n == x)) ∧ w = w' := by
  have y1 := eqlErr
  have y2 := eqlF
  have z1 := noIsE
  have z2 := noIsF
  have z3 := noUnE
  have z4 := hasUnF
  have z5 := noUsE
  have m2 := mUnF
  go_enter Tryz.func77, Tryz.ntmps77
  go_wp2
  go_loopg [0] d (fun k u wr => ∃ fs', Faults wr k u fs' n ∧ w = wr)
  case atStart => exact ⟨fs, hc, rfl⟩
  case round =>
    obtain ⟨fs', hc', rfl⟩ := hrel
    clear hc
    cases hc' with
    | errno n =>
      by_cases h : n = x
      · subst h
        go_wp2
        go_ret
        exact ⟨by simp, rfl⟩
      · have hb : (n == x) = false := by simp [h]
        go_wp2
        go_ret
        exact ⟨by rw [hb]; rfl, rfl⟩
    | fault d' b at_ v' fs'' _ hh h0 h1 hc'' =>
      clear hh
      obtain ⟨T, x1, rfl⟩ := hc''.chain.held
      have HC := Lib.hid hc''
      clear hc''
      go_wp2_with (go_at_call 176; refine (unF b (.iface T x1) _ h1).mono ?_; rintro e w' ⟨rfl, rfl⟩)
      go_roundg d'
      case measure => omega
      case rel => exact ⟨fs'', HC.out, rfl⟩

theorem comparableE2 (w : World) : (ReflectliteType.method (fun t => do Rtype.noPackHeld "Comparable" t; (fun a => Value.bool a.comparable) <$> typeInfo t) #[.agg #[.pointer (some ⟨4, 34, none⟩)]]).run Tryz.prog w = .ok (.bool true) w := by kernel_rfl

set_option maxRecDepth 100000 in
set_option maxHeartbeats 1000000 in
/-- errors.Is at a number. -/
theorem Is_any {d : Nat} {v : Value} {fs : List (Nat × Int)} {n x : Int} {w : World} (hc : Faults w d v fs n) :
    Calls Tryz.prog 43 #[v, .iface 34 (.int .i64 x)] w fun e w' => e = .returned (.bool (n == x)) ∧ w = w' := by
  obtain ⟨T, xv, rfl⟩ := hc.chain.held
  have x1 := @run_callFunc_extern Tryz.prog 76 _ ReflectliteType.typeOf Tryz.func76 (by kernel_rfl) (by kernel_rfl) (by kernel_rfl) (by kernel_rfl)
  have x2 := @run_callFunc_extern Tryz.prog 182 _ (ReflectliteType.method (fun t => do Rtype.noPackHeld "Comparable" t; pure (.bool (← typeInfo t).comparable))) Tryz.func182 (by kernel_rfl) (by kernel_rfl) (by kernel_rfl) (by kernel_rfl)
  have y1 := typeOfE
  have y2 := mComparable
  have y3 := comparableE2
  have HK := Lib.hid (is_any (x := x) hc)
  clear hc
  go_enter Tryz.func43, Tryz.ntmps43
  go_wp2_with (go_at_call 77; refine HK.out.mono ?_; rintro e w' ⟨rfl, rfl⟩)
  go_ret
  exact ⟨rfl, rfl⟩
end Go.Proofs.YtbikifaadpijnaaGreatDoor

namespace Go.Proofs.YtbikifaadpijnaaGreatDoor
open Go.RowKit

/-- The outermost fault, as errors.As hands it on. -/
def fp : List (Nat × Int) → Value
  | [] => .pointer none
  | p :: _ => .pointer (some ⟨p.1, 0, none⟩)

theorem Chain.only {w : World} {d : Nat} {v : Value} {fs : List (Nat × Int)} {c : Option Int} (h : Chain w d v fs c) : ∀ {d' : Nat} {fs' : List (Nat × Int)} {c' : Option Int}, Chain w d' v fs' c' → fs = fs' ∧ c = c' := by
  induction h with
  | errno n => intro d' fs' c' h'; cases h'; exact ⟨rfl, rfl⟩
  | fault d b at_ v fs c hh h0 h1 h ih =>
    intro d' fs' c' h'
    cases h' with
    | fault d2 _ at2 v2 fs2 _ gg g0 g1 g =>
      have e0 : at_ = at2 := by have := h0.symm.trans g0; simpa using this
      have e1 : v = v2 := Option.some.inj (h1.symm.trans g1)
      subst e0; subst e1
      obtain ⟨rfl, rfl⟩ := ih g
      exact ⟨rfl, rfl⟩

/-- What the outermost fault holds: its place, and an error with the other faults. -/
theorem Chain.next {w : World} {d : Nat} {v : Value} {p : Nat × Int} {fs : List (Nat × Int)} {c : Option Int} (h : Chain w d v (p :: fs) c) : ∃ d' v', w.heap[p.1]? = some (.cells #[.int .i64 p.2, v'] 97 (0, 0)) ∧ w.cell? ⟨p.1, 0, none⟩ = some (.int .i64 p.2) ∧ w.cell? ⟨p.1, 1, none⟩ = some v' ∧ Chain w d' v' fs c := by
  generalize hl : p :: fs = l at h
  induction h with
  | errno n => cases hl
  | fault d b at_ v fs c hh h0 h1 h ih => cases hl; exact ⟨_, _, hh, h0, h1, h⟩

theorem Chain.drop {w : World} {d : Nat} {v : Value} {fs : List (Nat × Int)} {c : Option Int} (h : Chain w d v fs c) : ∀ i, ∃ d' v', Chain w d' v' (fs.drop i) c := by
  induction fs generalizing d v with
  | nil => intro i; exact ⟨d, v, by simpa using h⟩
  | cons p fs ih =>
    intro i
    cases i with
    | zero => exact ⟨d, v, h⟩
    | succ i =>
      obtain ⟨d', v', _, _, _, h'⟩ := h.next
      simpa using ih h' i

/-- No fault stands in an error twice. -/
theorem Chain.apart {w : World} {d : Nat} {v : Value} {fs : List (Nat × Int)} {c : Option Int} (h : Chain w d v fs c) (i j : Nat) (hij : i < j) (p q : Nat × Int) (s t : List (Nat × Int)) (hi : fs.drop i = p :: s) (hj : fs.drop j = q :: t) : p.1 ≠ q.1 := by
  intro e
  obtain ⟨d1, v1, c1⟩ := h.drop i
  obtain ⟨d2, v2, c2⟩ := h.drop j
  rw [hi] at c1
  rw [hj] at c2
  obtain ⟨d3, v3, _, _, a1, c3⟩ := c1.next
  obtain ⟨d4, v4, _, _, b1, c4⟩ := c2.next
  rw [e] at a1
  have hv : v3 = v4 := Option.some.inj (a1.symm.trans b1)
  subst hv
  obtain ⟨hs, _⟩ := c3.only c4
  have l1 := congrArg List.length hi
  have l2 := congrArg List.length hj
  rw [hs] at l1
  simp only [List.length_drop, List.length_cons] at l1 l2
  omega
end Go.Proofs.YtbikifaadpijnaaGreatDoor

namespace Go.Proofs.YtbikifaadpijnaaGreatDoor
open Go.RowKit Go.Extern.Stop Go.Stop Go.Extern

theorem Handle.later {w w' : World} {B : Nat} (hb : Below B w w') (hB : w.heap.size ≤ B) (h : Handle w) : Handle w' := by
  have hlt : 0 < w.heap.size := lt_of_cell h
  exact (hb.cell (p := ⟨0, 0, none⟩) (by show (0 : Nat) < B; omega)).trans h

theorem ret_val {a b : Value} (h : a = b) : Ending.returned a = .returned b := by rw [h]

theorem wrap_nil (at_ : Value) (w : World) : Calls Tryz.prog 20 #[at_, .nilIface] w fun e w' => e = .returned .nilIface ∧ w = w' := by
  go_enter Tryz.func20, Tryz.ntmps20
  go_wp2
  go_ret
  exact ⟨rfl, rfl⟩
/-- Wrap of an error: a new fault in a block of its own. -/
theorem wrap_some (at_ : Int) (T : TypeId) (x : Value) (w : World) : Calls Tryz.prog 20 #[.int .i64 at_, .iface T x] w fun e w' =>
    e = .returned (.iface 91 (.pointer (some ⟨w.heap.size, 0, none⟩))) ∧ w.alloc (.cells #[.int .i64 at_, .iface T x] 97) = w' := by
  go_enter Tryz.func20, Tryz.ntmps20
  go_wp2
  go_ret
  exact ⟨rfl, rfl⟩
/-- A fault around a chain is a chain. -/
theorem Chain.wrapped {w : World} {d : Nat} {v : Value} {fs : List (Nat × Int)} {c : Option Int} (h : Chain w d v fs c) (at_ : Int) : Chain (w.alloc (.cells #[.int .i64 at_, v] 97)) (d + 1) (.iface 91 (.pointer (some ⟨w.heap.size, 0, none⟩))) ((w.heap.size, at_) :: fs) c :=
  .fault d w.heap.size at_ v fs c (by show (w.heap.push _)[w.heap.size]? = _; exact Array.getElem?_push_size) (by simp) (by simp) (h.later ((Below.refl w.heap.size w).alloc (Nat.le_refl _) _) (Nat.le_refl _))
end Go.Proofs.YtbikifaadpijnaaGreatDoor

namespace Go.Proofs.YtbikifaadpijnaaGreatDoor
open Go.RowKit Go.Extern.Stop Go.Stop Go.Extern

theorem outermost_nil (w : World) : Calls Tryz.prog 135 #[.nilIface] w fun e w' => e = .returned (.pointer none) ∧ Below w.heap.size w w' := by
  go_enter Tryz.func135, Tryz.ntmps135
  go_wp2_with (go_at_call 42; refine (As_nil _ _).mono ?_; rintro e w' ⟨rfl, rfl⟩)
  go_ret
  exact ⟨rfl, (Below.refl _ _).alloc (Nat.le_refl _) _⟩

theorem outermost {d : Nat} {v : Value} {fs : List (Nat × Int)} {c : Option Int} {w : World} (hc : Chain w d v fs c) (hg : Handle w) : Calls Tryz.prog 135 #[v] w fun e w' => e = .returned (fp fs) ∧ Below w.heap.size w w' := by
  have hb : Below w.heap.size w (w.alloc (.cells #[.pointer none] 91)) := (Below.refl _ _).alloc (Nat.le_refl _) _
  have hk := As_F (hc.later hb (Nat.le_refl _)) (hg.later hb (Nat.le_refl _)) (t := ⟨w.heap.size, 0, none⟩) (old := .pointer none) (by simp) (by simp)
  have HB := Lib.hid hb
  cases fs with
  | nil =>
    have hk1 : Calls Tryz.prog 42 #[v, .iface 95 (.pointer (some ⟨w.heap.size, 0, none⟩))] (w.alloc (.cells #[.pointer none] 91)) (fun e w' => e = .returned (.bool false) ∧ Below (w.alloc (.cells #[.pointer none] 91)).heap.size (w.alloc (.cells #[.pointer none] 91)) w') := hk
    have HK := Lib.hid hk1
    clear hk hk1 hb hc hg
    go_enter Tryz.func135, Tryz.ntmps135
    go_wp2_with (go_at_call 42; refine HK.out.mono ?_; rintro e w' ⟨rfl, hp⟩)
    go_ret
    exact ⟨rfl, HB.out.trans (hp.mono HB.out.size)⟩
  | cons p fs =>
    have hk1 : Calls Tryz.prog 42 #[v, .iface 95 (.pointer (some ⟨w.heap.size, 0, none⟩))] (w.alloc (.cells #[.pointer none] 91)) (fun e w' => e = .returned (.bool true) ∧ Below w.heap.size w w' ∧ w'.cell? ⟨w.heap.size, 0, none⟩ = some (.pointer (some ⟨p.1, 0, none⟩))) := hk.mono (by
      rintro e w' ⟨he, w1, hb1, hw⟩
      refine ⟨he, ?_, ?_⟩
      · rw [hw]; exact (HB.out.trans (hb1.mono HB.out.size)).setCell (Nat.le_refl _) _
      · rw [hw]; exact World.cell?_setCell_same' _ _ _ (by rw [hb1.cell (p := ⟨w.heap.size, 0, none⟩) (by simp)]; simp))
    have HK := Lib.hid hk1
    clear hk hk1 hb hc hg
    go_enter Tryz.func135, Tryz.ntmps135
    go_wp2_with (go_at_call 42; refine HK.out.mono ?_; rintro e w' ⟨rfl, hp, hq⟩)
    go_ret
    exact ⟨rfl, hp⟩

theorem inner_nil (w : World) : Calls Tryz.prog 145 #[.pointer none] w fun e w' => e = .returned (.pointer none) ∧ Below w.heap.size w w' := by
  go_enter Tryz.func145, Tryz.ntmps145
  go_wp2_with fail
  go_ret
  exact ⟨rfl, Below.refl _ _⟩
/-- inner: the next fault. -/
theorem inner {d : Nat} {v : Value} {fs : List (Nat × Int)} {c : Option Int} {w : World} (hc : Chain w d v fs c) (hg : Handle w) : Calls Tryz.prog 145 #[fp fs] w fun e w' => e = .returned (fp fs.tail) ∧ Below w.heap.size w w' := by
  cases fs with
  | nil => exact inner_nil w
  | cons p fs =>
    obtain ⟨d', v', hh, h0, h1, h⟩ := hc.next
    have hk := outermost h hg
    have HK := Lib.hid hk
    clear hk hc hg h h0 hh
    show Calls Tryz.prog 145 #[.pointer (some ⟨p.1, 0, none⟩)] w _
    go_enter Tryz.func145, Tryz.ntmps145
    go_wp2_with (go_at_call 135; refine HK.out.mono ?_; rintro e w' ⟨rfl, hp⟩)
    go_ret
    exact ⟨rfl, hp⟩
end Go.Proofs.YtbikifaadpijnaaGreatDoor

namespace Go.Proofs.YtbikifaadpijnaaGreatDoor
open Go.RowKit Go.Extern.Stop Go.Stop Go.Extern

/-- '!=' of two faults in blocks of their own. -/
theorem ptr_ne {w : World} {a b : Nat} {ca cb : Array Value} {ta tb : TypeId} (h : a ≠ b) (ha : w.heap[a]? = some (.cells ca ta (0, 0))) (hb : w.heap[b]? = some (.cells cb tb (0, 0))) :
    (binOp .neq 91 (.pointer (some ⟨a, 0, none⟩)) (.pointer (some ⟨b, 0, none⟩))).run Tryz.prog w = .ok (.bool true) w := by
  have hs := run_sameAddr_other (P := Tryz.prog) w (a := ⟨a, 0, none⟩) (b := ⟨b, 0, none⟩) (by intro e; injection e with e; exact h e) ha hb
  have hz : (sizeOf 97).run Tryz.prog w = .ok 2 w := by kernel_rfl
  have k : ∀ d : Nat, (Op.equalIn (d + 1) 91 (.pointer (some ⟨a, 0, none⟩)) (.pointer (some ⟨b, 0, none⟩))).run Tryz.prog w = .ok false w := by
    intro d
    simp [Op.equalIn, run_underlying Tryz.underlying91, hs, hz]
  have k2 : (Op.equal 91 (.pointer (some ⟨a, 0, none⟩)) (.pointer (some ⟨b, 0, none⟩))).run Tryz.prog w = .ok false w := k 9999
  simp only [binOp]
  simp [k2]

/-- inner of the fault at place i. -/
theorem inner_at {d : Nat} {v : Value} {fs : List (Nat × Int)} {c : Option Int} {w w1 : World} (hc : Chain w d v fs c) (hg : Handle w) (hb : Below w.heap.size w w1) (i : Nat) :
    Calls Tryz.prog 145 #[fp (fs.drop i)] w1 fun e w' => e = .returned (fp (fs.drop (i + 1))) ∧ Below w.heap.size w w' := by
  obtain ⟨d1, v1, c1⟩ := hc.drop i
  have k := inner (c1.later hb (Nat.le_refl _)) (hg.later hb (Nat.le_refl _))
  rw [List.tail_drop] at k
  exact k.mono fun e w' ⟨he, hb1⟩ => ⟨he, hb.trans (hb1.mono hb.size)⟩

set_option maxRecDepth 100000 in
set_option maxHeartbeats 1000000 in
theorem circular {d : Nat} {v : Value} {fs : List (Nat × Int)} {c : Option Int} {w : World} (hc : Chain w d v fs c) (hg : Handle w) : Calls Tryz.prog 137 #[fp fs] w fun e w' => e = .returned (.bool false) ∧ Below w.heap.size w w' := by
  have hk := inner hc hg
  have HK := Lib.hid hk
  have HC := Lib.hid hc
  have HG := Lib.hid hg
  clear hk hc hg
  go_enter Tryz.func137, Tryz.ntmps137
  go_wp2_with (go_at_call 145; refine HK.out.mono ?_; rintro e w' ⟨rfl, hp⟩)
  go_loopg [3, 4] (fs.length + 1) (fun k s f wr => ∃ i, fs.length < k + 2 * i ∧ s = fp (fs.drop i) ∧ f = fp (fs.drop (2 * i + 1)) ∧ Below w.heap.size w wr)
  case atStart => exact ⟨0, by omega, by simp, by simp, hp⟩
  case round =>
    obtain ⟨i, hk, rfl, rfl, hb⟩ := hrel
    cases hf : fs.drop (2 * i + 1) with
    | nil =>
      have Hb := Lib.hid hb
      clear hb hf hk
      rw [show fp [] = Value.pointer none from rfl]
      go_wp2_with fail
      go_ret
      exact ⟨rfl, Hb.out⟩
    | cons q t =>
      have hlen := congrArg List.length hf
      simp only [List.length_drop, List.length_cons] at hlen
      cases hs : fs.drop i with
      | nil =>
        have := congrArg List.length hs
        simp only [List.length_drop, List.length_nil] at this
        omega
      | cons p s =>
        have hne := HC.out.apart i (2 * i + 1) (by omega) p q s t hs hf
        obtain ⟨d1, v1, c1⟩ := HC.out.drop i
        obtain ⟨d2, v2, c2⟩ := HC.out.drop (2 * i + 1)
        rw [hs] at c1
        rw [hf] at c2
        obtain ⟨_, _, g1, l1, _, _⟩ := c1.next
        obtain ⟨_, _, g2, l2, _, _⟩ := c2.next
        have hpq := ptr_ne (fun e => hne e.symm) ((hb.block q.1 (lt_of_cell l2)).trans g2) ((hb.block p.1 (lt_of_cell l1)).trans g1)
        clear c1 c2 g1 g2 l1 l2
        have k1 := inner_at HC.out HG.out hb i
        rw [hs] at k1
        rw [show fp (p :: s) = Value.pointer (some ⟨p.1, 0, none⟩) from rfl] at k1 ⊢
        rw [show fp (q :: t) = Value.pointer (some ⟨q.1, 0, none⟩) from rfl]
        have HL := Lib.hid (And.intro hlen hk)
        have HF := Lib.hid hf
        have K1 := Lib.hid k1
        clear hlen hk hs hf hb hne k1
        go_wp2_with fail
        refine K1.out.mono ?_
        rintro e w1 ⟨rfl, hb1⟩
        have k2 := inner_at HC.out HG.out hb1 (2 * i + 1)
        rw [HF.out] at k2
        rw [show fp (q :: t) = Value.pointer (some ⟨q.1, 0, none⟩) from rfl] at k2
        have K2 := Lib.hid k2
        clear k2 hb1
        go_wp2_with fail
        refine K2.out.mono ?_
        rintro e w2 ⟨rfl, hb2⟩
        have K3 := Lib.hid (inner_at HC.out HG.out hb2 (2 * i + 1 + 1))
        clear hb2
        go_wp2_with fail
        refine K3.out.mono ?_
        rintro e w3 ⟨rfl, hb3⟩
        have HB := Lib.hid hb3
        clear hb3
        go_wp2_with fail
        go_roundg (gk - 1)
        case measure => have := HL.out; omega
        case rel => exact ⟨i + 1, by have := HL.out; omega, rfl, rfl, HB.out⟩
end Go.Proofs.YtbikifaadpijnaaGreatDoor

namespace Go.Proofs.YtbikifaadpijnaaGreatDoor
open Go.RowKit Go.Extern.Stop Go.Stop Go.Extern

theorem place_idle (a b : Value) (w : World) : CallsD Tryz.prog 134 #[a, b] .returning w fun e u' w' => e = .returned (.tuple #[]) ∧ u' = .returning ∧ w = w' := by
  refine callsD_of_wpS Tryz.func134 rfl fun c₀ cs hu => ?_
  apply wpS_seq
  apply wpS_region
  simp [wpOpsS, go_sem, recoverD, hu, Tryz.ntmps134, Exit.thenS]
  refine wpS_cond (t := false) (by simp [Act.eval, Array.replicate]) ?_
  simp only [Bool.false_eq_true, if_false]
  refine wpS_of_wp (wp_skip ?_)
  cases c₀
  simp_all [bodyPostS, results, Tryz.results134]
theorem code_idle (a : Value) (w : World) : CallsD Tryz.prog 136 #[a] .returning w fun e u' w' => e = .returned (.tuple #[]) ∧ u' = .returning ∧ w = w' := by
  refine callsD_of_wpS Tryz.func136 rfl fun c₀ cs hu => ?_
  apply wpS_seq
  apply wpS_region
  simp [wpOpsS, go_sem, recoverD, hu, Tryz.ntmps136, Exit.thenS]
  refine wpS_cond (t := false) (by simp [Act.eval, Array.replicate]) ?_
  simp only [Bool.false_eq_true, if_false]
  refine wpS_of_wp (wp_skip ?_)
  cases c₀
  simp_all [bodyPostS, results, Tryz.results136]

/-- What Place says of the faults in an error. -/
def placeOf : List (Nat × Int) → Int × Bool
  | [] => (0, false)
  | p :: _ => (p.2, true)

set_option maxRecDepth 100000 in
set_option maxHeartbeats 400000 in
theorem place {d : Nat} {v : Value} {fs : List (Nat × Int)} {c : Option Int} {w : World} (hc : Chain w d v fs c) (hg : Handle w) : Calls Tryz.prog 125 #[v] w fun e w' => e = .returned (.tuple #[.int .i64 (placeOf fs).1, .bool (placeOf fs).2]) ∧ Below w.heap.size w w' := by
  have hb : Below w.heap.size w ((w.alloc (.cells #[.int .i64 0] 3)).alloc (.cells #[.bool false] 4)) := ((Below.refl _ _).alloc (Nat.le_refl _) _).alloc (by simp) _
  have hk := (outermost (hc.later hb (Nat.le_refl _)) (hg.later hb (Nat.le_refl _))).mono (R' := fun e w' => e = .returned (fp fs) ∧ Below w.heap.size w w' ∧ w'.cell? ⟨w.heap.size, 0, none⟩ = some (.int .i64 0) ∧ w'.cell? ⟨w.heap.size + 1, 0, none⟩ = some (.bool false) ∧ w'.frozen? ⟨w.heap.size, 0, none⟩ = false ∧ w'.frozen? ⟨w.heap.size + 1, 0, none⟩ = false) (by
    rintro e w' ⟨he, hb1⟩
    exact ⟨he, hb.trans (hb1.mono hb.size), by rw [hb1.cell (p := ⟨w.heap.size, 0, none⟩) (by simp; omega)]; simp, by rw [hb1.cell (p := ⟨w.heap.size + 1, 0, none⟩) (by simp)]; simp,
      by rw [hb1.frozen (p := ⟨w.heap.size, 0, none⟩) (by simp; omega)]; simp, by rw [hb1.frozen (p := ⟨w.heap.size + 1, 0, none⟩) (by simp)]; simp⟩)
  have hmf : ∀ (fn : Fn) (first cap : Array Value) (w : World), (Instr.makeFunc fn first cap).run Tryz.prog w = .ok (.func fn first cap) w := fun _ _ _ _ => rfl
  cases fs with
  | nil =>
    rw [show fp [] = Value.pointer none from rfl] at hk
    have HK := Lib.hid hk
    clear hk hb hc hg
    go_enter_defers Tryz.func125, Tryz.ntmps125
    go_wp2_with (go_at_call 135; refine HK.out.mono ?_; rintro e w' ⟨rfl, hp, c0, c1, f0, f1⟩)
    have r0 : ((w'.setCell ⟨w.heap.size, 0, none⟩ (.int .i64 0)).setCell ⟨w.heap.size + 1, 0, none⟩ (.bool false)).cell? ⟨w.heap.size, 0, none⟩ = some (.int .i64 0) := by
      rw [cell_far _ _ _ _ (by simp)]; exact World.cell?_setCell_same' _ _ _ (by rw [c0]; rfl)
    have r1 : ((w'.setCell ⟨w.heap.size, 0, none⟩ (.int .i64 0)).setCell ⟨w.heap.size + 1, 0, none⟩ (.bool false)).cell? ⟨w.heap.size + 1, 0, none⟩ = some (.bool false) :=
      World.cell?_setCell_same' _ _ _ (by rw [cell_far _ _ _ _ (by simp), c1]; rfl)
    have HP := Lib.hid ((hp.setCell (p := ⟨w.heap.size, 0, none⟩) (Nat.le_refl _) (.int .i64 0)).setCell (p := ⟨w.heap.size + 1, 0, none⟩) (by simp) (.bool false))
    refine leaves_cons (f := 134) (args := #[.pointer (some ⟨w.heap.size, 0, none⟩), .pointer (some ⟨w.heap.size + 1, 0, none⟩)]) (by simp) (by simp [go_sem]) ?_
    refine (place_idle _ _ _).mono ?_
    rintro e u' w'' ⟨rfl, rfl, rfl⟩
    simp [Leaves, settle, results, Tryz.results125, go_sem, r0, r1]
    exact ⟨⟨rfl, rfl⟩, HP.out⟩
  | cons p fs =>
    obtain ⟨d', v', _, h0, _, _⟩ := hc.next
    rw [show fp (p :: fs) = Value.pointer (some ⟨p.1, 0, none⟩) from rfl] at hk
    have HK := Lib.hid (hk.mono (R' := fun e w' => e = .returned (.pointer (some ⟨p.1, 0, none⟩)) ∧ Below w.heap.size w w' ∧ w'.cell? ⟨w.heap.size, 0, none⟩ = some (.int .i64 0) ∧ w'.cell? ⟨w.heap.size + 1, 0, none⟩ = some (.bool false) ∧ w'.frozen? ⟨w.heap.size, 0, none⟩ = false ∧ w'.frozen? ⟨w.heap.size + 1, 0, none⟩ = false ∧ w'.cell? ⟨p.1, 0, none⟩ = some (.int .i64 p.2)) (by
      rintro e w' ⟨he, hp, c0, c1, f0, f1⟩
      exact ⟨he, hp, c0, c1, f0, f1, (hp.cell (p := ⟨p.1, 0, none⟩) (lt_of_cell h0)).trans h0⟩))
    clear hk hb hc hg h0
    go_enter_defers Tryz.func125, Tryz.ntmps125
    go_wp2_with (go_at_call 135; refine HK.out.mono ?_; rintro e w' ⟨rfl, hp, c0, c1, f0, f1, h0⟩)
    have r0 : ((w'.setCell ⟨w.heap.size, 0, none⟩ (.int .i64 p.2)).setCell ⟨w.heap.size + 1, 0, none⟩ (.bool true)).cell? ⟨w.heap.size, 0, none⟩ = some (.int .i64 p.2) := by
      rw [cell_far _ _ _ _ (by simp)]; exact World.cell?_setCell_same' _ _ _ (by rw [c0]; rfl)
    have r1 : ((w'.setCell ⟨w.heap.size, 0, none⟩ (.int .i64 p.2)).setCell ⟨w.heap.size + 1, 0, none⟩ (.bool true)).cell? ⟨w.heap.size + 1, 0, none⟩ = some (.bool true) :=
      World.cell?_setCell_same' _ _ _ (by rw [cell_far _ _ _ _ (by simp), c1]; rfl)
    have HP := Lib.hid ((hp.setCell (p := ⟨w.heap.size, 0, none⟩) (Nat.le_refl _) (.int .i64 p.2)).setCell (p := ⟨w.heap.size + 1, 0, none⟩) (by simp) (.bool true))
    refine leaves_cons (f := 134) (args := #[.pointer (some ⟨w.heap.size, 0, none⟩), .pointer (some ⟨w.heap.size + 1, 0, none⟩)]) (by simp) (by simp [go_sem]) ?_
    refine (place_idle _ _ _).mono ?_
    rintro e u' w'' ⟨rfl, rfl, rfl⟩
    simp [Leaves, settle, results, Tryz.results125, go_sem, r0, r1]
    exact ⟨⟨rfl, rfl⟩, HP.out⟩

theorem place_nil (w : World) : Calls Tryz.prog 125 #[.nilIface] w fun e w' => e = .returned (.tuple #[.int .i64 0, .bool false]) ∧ Below w.heap.size w w' := by
  have hb : Below w.heap.size w ((w.alloc (.cells #[.int .i64 0] 3)).alloc (.cells #[.bool false] 4)) := ((Below.refl _ _).alloc (Nat.le_refl _) _).alloc (by simp) _
  have hk := (outermost_nil ((w.alloc (.cells #[.int .i64 0] 3)).alloc (.cells #[.bool false] 4))).mono (R' := fun e w' => e = .returned (.pointer none) ∧ Below w.heap.size w w' ∧ w'.cell? ⟨w.heap.size, 0, none⟩ = some (.int .i64 0) ∧ w'.cell? ⟨w.heap.size + 1, 0, none⟩ = some (.bool false) ∧ w'.frozen? ⟨w.heap.size, 0, none⟩ = false ∧ w'.frozen? ⟨w.heap.size + 1, 0, none⟩ = false) (by
    rintro e w' ⟨he, hb1⟩
    exact ⟨he, hb.trans (hb1.mono hb.size), by rw [hb1.cell (p := ⟨w.heap.size, 0, none⟩) (by simp; omega)]; simp, by rw [hb1.cell (p := ⟨w.heap.size + 1, 0, none⟩) (by simp)]; simp,
      by rw [hb1.frozen (p := ⟨w.heap.size, 0, none⟩) (by simp; omega)]; simp, by rw [hb1.frozen (p := ⟨w.heap.size + 1, 0, none⟩) (by simp)]; simp⟩)
  have hmf : ∀ (fn : Fn) (first cap : Array Value) (w : World), (Instr.makeFunc fn first cap).run Tryz.prog w = .ok (.func fn first cap) w := fun _ _ _ _ => rfl
  have HK := Lib.hid hk
  clear hk hb
  go_enter_defers Tryz.func125, Tryz.ntmps125
  go_wp2_with (go_at_call 135; refine HK.out.mono ?_; rintro e w' ⟨rfl, hp, c0, c1, f0, f1⟩)
  have r0 : ((w'.setCell ⟨w.heap.size, 0, none⟩ (.int .i64 0)).setCell ⟨w.heap.size + 1, 0, none⟩ (.bool false)).cell? ⟨w.heap.size, 0, none⟩ = some (.int .i64 0) := by
    rw [cell_far _ _ _ _ (by simp)]; exact World.cell?_setCell_same' _ _ _ (by rw [c0]; rfl)
  have r1 : ((w'.setCell ⟨w.heap.size, 0, none⟩ (.int .i64 0)).setCell ⟨w.heap.size + 1, 0, none⟩ (.bool false)).cell? ⟨w.heap.size + 1, 0, none⟩ = some (.bool false) :=
    World.cell?_setCell_same' _ _ _ (by rw [cell_far _ _ _ _ (by simp), c1]; rfl)
  have HP := Lib.hid ((hp.setCell (p := ⟨w.heap.size, 0, none⟩) (Nat.le_refl _) (.int .i64 0)).setCell (p := ⟨w.heap.size + 1, 0, none⟩) (by simp) (.bool false))
  refine leaves_cons (f := 134) (args := #[.pointer (some ⟨w.heap.size, 0, none⟩), .pointer (some ⟨w.heap.size + 1, 0, none⟩)]) (by simp) (by simp [go_sem]) ?_
  refine (place_idle _ _ _).mono ?_
  rintro e u' w'' ⟨rfl, rfl, rfl⟩
  simp [Leaves, settle, results, Tryz.results125, go_sem, r0, r1]
  exact HP.out

set_option maxRecDepth 100000 in
set_option maxHeartbeats 400000 in
theorem code {d : Nat} {v : Value} {fs : List (Nat × Int)} {c : Option Int} {w : World} (hc : Chain w d v fs c) (hg : Handle w) : Calls Tryz.prog 126 #[v] w fun e w' => e = .returned (.int .i64 (c.getD 0)) ∧ Below w.heap.size w w' := by
  have hb : Below w.heap.size w (w.alloc (.cells #[.int .i64 0] 34)) := (Below.refl _ _).alloc (Nat.le_refl _) _
  have hmf : ∀ (fn : Fn) (first cap : Array Value) (w : World), (Instr.makeFunc fn first cap).run Tryz.prog w = .ok (.func fn first cap) w := fun _ _ _ _ => rfl
  have K1 := Lib.hid (outermost (hc.later hb (Nat.le_refl _)) (hg.later hb (Nat.le_refl _)))
  have HC := Lib.hid hc
  have HG := Lib.hid hg
  have HB := Lib.hid hb
  clear hc hg hb
  go_enter_defers Tryz.func126, Tryz.ntmps126
  go_wp2_with fail
  refine K1.out.mono ?_
  rintro e w1 ⟨rfl, h1⟩
  have hb1 := HB.out.trans (h1.mono HB.out.size)
  have K2 := Lib.hid (circular (HC.out.later hb1 (Nat.le_refl _)) (HG.out.later hb1 (Nat.le_refl _)))
  have H1 := Lib.hid h1
  clear h1 hb1
  go_wp2_with fail
  refine K2.out.mono ?_
  rintro e w2 ⟨rfl, h2⟩
  have h12 := H1.out.trans (h2.mono H1.out.size)
  have hb2 := HB.out.trans (h12.mono HB.out.size)
  have t2 : w2.cell? ⟨w.heap.size, 0, none⟩ = some (.int .i64 0) := by rw [h12.cell (p := ⟨w.heap.size, 0, none⟩) (by simp)]; simp
  have z2 : w2.frozen? ⟨w.heap.size, 0, none⟩ = false := by rw [h12.frozen (p := ⟨w.heap.size, 0, none⟩) (by simp)]; simp
  have k3 := (As_E (HC.out.later hb2 (Nat.le_refl _)) (HG.out.later hb2 (Nat.le_refl _)) t2 z2).mono (R' := fun e w' => e = .returned (.bool c.isSome) ∧ Below w.heap.size w w' ∧ w'.cell? ⟨w.heap.size, 0, none⟩ = some (.int .i64 (c.getD 0)) ∧ w'.frozen? ⟨w.heap.size, 0, none⟩ = false) (by
    have hlt : w.heap.size < w2.heap.size := lt_of_cell t2
    rintro e w' ⟨he, hw⟩
    cases c with
    | none =>
      have hw : Below w2.heap.size w2 w' := hw
      exact ⟨he, hb2.trans (hw.mono hb2.size), by rw [hw.cell (p := ⟨w.heap.size, 0, none⟩) hlt]; exact t2, by rw [hw.frozen (p := ⟨w.heap.size, 0, none⟩) hlt]; exact z2⟩
    | some n =>
      obtain ⟨w3, h3, rfl⟩ := hw
      exact ⟨he, (hb2.trans (h3.mono hb2.size)).setCell (Nat.le_refl _) _, World.cell?_setCell_same' _ _ _ (by rw [h3.cell (p := ⟨w.heap.size, 0, none⟩) hlt, t2]; rfl), by rw [World.frozen?_setCell, h3.frozen (p := ⟨w.heap.size, 0, none⟩) hlt]; exact z2⟩)
  have K3 := Lib.hid k3
  clear h2 h12 hb2 t2 z2 k3
  cases c with
  | none =>
    go_wp2_with (go_at_call 42; refine K3.out.mono ?_; rintro e w3 ⟨rfl, hp, c0, f0⟩)
    have r0 : (w3.setCell ⟨w.heap.size, 0, none⟩ (.int .i64 0)).cell? ⟨w.heap.size, 0, none⟩ = some (.int .i64 0) := World.cell?_setCell_same' _ _ _ (by rw [c0]; rfl)
    have HP := Lib.hid (hp.setCell (p := ⟨w.heap.size, 0, none⟩) (Nat.le_refl _) (.int .i64 0))
    refine leaves_cons (f := 136) (args := #[.pointer (some ⟨w.heap.size, 0, none⟩)]) (by simp) (by simp [go_sem]) ?_
    refine (code_idle _ _).mono ?_
    rintro e u' w'' ⟨rfl, rfl, rfl⟩
    simp [Leaves, settle, results, Tryz.results126, go_sem, r0]
    exact HP.out
  | some n =>
    go_wp2_with (go_at_call 42; refine K3.out.mono ?_; rintro e w3 ⟨rfl, hp, c0, f0⟩)
    have r0 : (w3.setCell ⟨w.heap.size, 0, none⟩ (.int .i64 n)).cell? ⟨w.heap.size, 0, none⟩ = some (.int .i64 n) := World.cell?_setCell_same' _ _ _ (by rw [c0]; rfl)
    have HP := Lib.hid (hp.setCell (p := ⟨w.heap.size, 0, none⟩) (Nat.le_refl _) (.int .i64 n))
    refine leaves_cons (f := 136) (args := #[.pointer (some ⟨w.heap.size, 0, none⟩)]) (by simp) (by simp [go_sem]) ?_
    refine (code_idle _ _).mono ?_
    rintro e u' w'' ⟨rfl, rfl, rfl⟩
    simp [Leaves, settle, results, Tryz.results126, go_sem, r0]
    exact HP.out

theorem circular_nil {w : World} (hg : Handle w) : Calls Tryz.prog 137 #[.pointer none] w fun e w' => e = .returned (.bool false) ∧ Below w.heap.size w w' := by
  have h := circular (d := 0) (v := .iface 34 (.int .i64 0)) (fs := []) (c := some 0) (w := w) (Chain.errno 0) hg
  rw [show fp [] = Value.pointer none from rfl] at h
  exact h

set_option maxRecDepth 100000 in
set_option maxHeartbeats 400000 in
theorem code_nil {w : World} (hg : Handle w) : Calls Tryz.prog 126 #[.nilIface] w fun e w' => e = .returned (.int .i64 0) ∧ Below w.heap.size w w' := by
  have hb : Below w.heap.size w (w.alloc (.cells #[.int .i64 0] 34)) := (Below.refl _ _).alloc (Nat.le_refl _) _
  have hmf : ∀ (fn : Fn) (first cap : Array Value) (w : World), (Instr.makeFunc fn first cap).run Tryz.prog w = .ok (.func fn first cap) w := fun _ _ _ _ => rfl
  have K1 := Lib.hid (outermost_nil (w.alloc (.cells #[.int .i64 0] 34)))
  have HG := Lib.hid hg
  have HB := Lib.hid hb
  clear hg hb
  go_enter_defers Tryz.func126, Tryz.ntmps126
  go_wp2_with fail
  refine K1.out.mono ?_
  rintro e w1 ⟨rfl, h1⟩
  have hb1 := HB.out.trans (h1.mono HB.out.size)
  have K2 := Lib.hid (circular_nil (HG.out.later hb1 (Nat.le_refl _)))
  have H1 := Lib.hid h1
  clear h1 hb1
  go_wp2_with fail
  refine K2.out.mono ?_
  rintro e w2 ⟨rfl, h2⟩
  have h12 := H1.out.trans (h2.mono H1.out.size)
  have hp := HB.out.trans (h12.mono HB.out.size)
  have c0 : w2.cell? ⟨w.heap.size, 0, none⟩ = some (.int .i64 0) := by rw [h12.cell (p := ⟨w.heap.size, 0, none⟩) (by simp)]; simp
  have f0 : w2.frozen? ⟨w.heap.size, 0, none⟩ = false := by rw [h12.frozen (p := ⟨w.heap.size, 0, none⟩) (by simp)]; simp
  have H2 := Lib.hid hp
  clear h2 h12 hp
  go_wp2_with (go_at_call 42; refine (As_nil _ _).mono ?_; rintro e w3 ⟨rfl, rfl⟩)
  have r0 : (w2.setCell ⟨w.heap.size, 0, none⟩ (.int .i64 0)).cell? ⟨w.heap.size, 0, none⟩ = some (.int .i64 0) := World.cell?_setCell_same' _ _ _ (by rw [c0]; rfl)
  have HP := Lib.hid (H2.out.setCell (p := ⟨w.heap.size, 0, none⟩) (Nat.le_refl _) (.int .i64 0))
  refine leaves_cons (f := 136) (args := #[.pointer (some ⟨w.heap.size, 0, none⟩)]) (by simp) (by simp [go_sem]) ?_
  refine (code_idle _ _).mono ?_
  rintro e u' w'' ⟨rfl, rfl, rfl⟩
  simp [Leaves, settle, results, Tryz.results126, go_sem, r0]
  exact HP.out

theorem deeper_nil (by_ : Value) (w : World) : Calls Tryz.prog 111 #[by_, .nilIface] w fun e w' => e = .returned .nilIface ∧ w = w' := by
  go_enter Tryz.func111, Tryz.ntmps111
  go_wp2_with fail
  go_ret
  exact ⟨rfl, rfl⟩

/-- Deeper: a new fault with the number of the error, so much further. -/
theorem deeper {d : Nat} {v : Value} {fs : List (Nat × Int)} {c : Option Int} {w : World} (by_ : Int) (hc : Chain w d v fs c) (hg : Handle w) : Calls Tryz.prog 111 #[.int .i64 by_, v] w fun e w' =>
    ∃ b, e = .returned (.iface 91 (.pointer (some ⟨b, 0, none⟩))) ∧ Below w.heap.size w w' ∧ Chain w' 1 (.iface 91 (.pointer (some ⟨b, 0, none⟩))) [(b, wrap64 (by_ + (placeOf fs).1))] (some (c.getD 0)) := by
  obtain ⟨T, x, rfl⟩ := hc.held
  have K1 := Lib.hid (place hc hg)
  have HC := Lib.hid hc
  have HG := Lib.hid hg
  clear hc hg
  go_enter Tryz.func111, Tryz.ntmps111
  go_wp2_with fail
  refine K1.out.mono ?_
  rintro e w1 ⟨rfl, h1⟩
  have K2 := Lib.hid (code (HC.out.later h1 (Nat.le_refl _)) (HG.out.later h1 (Nat.le_refl _)))
  have H1 := Lib.hid h1
  clear h1
  go_wp2_with fail
  refine K2.out.mono ?_
  rintro e w2 ⟨rfl, h2⟩
  have H2 := Lib.hid (H1.out.trans (h2.mono H1.out.size))
  clear h2
  go_wp2_with (go_at_call 20; refine (wrap_some _ _ _ _).mono ?_; rintro e w3 ⟨rfl, rfl⟩)
  go_ret
  exact ⟨_, rfl, H2.out.alloc H2.out.size _, Chain.wrapped (Chain.errno _) _⟩
end Go.Proofs.YtbikifaadpijnaaGreatDoor
