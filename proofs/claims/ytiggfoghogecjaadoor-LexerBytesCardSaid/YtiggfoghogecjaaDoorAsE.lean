/-
  errors.as at the target *api.Errno. Conditions as in Err.
-/
import Derived.Test.YtiggfoghogecjaaDoorErr
import Derived.Test.YtiggfoghogecjaaDoorMeth
namespace Go.Proofs.YtiggfoghogecjaaDoor
open Go.RowKit Go.Extern.Stop Go.Stop Go.Extern

/-- What errors.As leaves behind: the target holds what was found; all else that was there is as it was. -/
def AsWorld (hit : Option Value) (t : Addr) (w w' : World) : Prop :=
  match hit with
  | some x => ∃ w1, Below w.heap.size w w1 ∧ w' = w1.setCell t x
  | none => Below w.heap.size w w'
def AsPost (hit : Option Value) (t : Addr) (w : World) (e : Ending) (w' : World) : Prop := e = .returned (.bool hit.isSome) ∧ AsWorld hit t w w'

set_option maxRecDepth 100000 in
set_option maxHeartbeats 1000000 in
theorem asE_any (N : Nat) : ∀ (d : Nat) (v : Value) (fs : List (Nat × Int)) (c : Option Int) (w : World) (t a : Addr) (old : Value), d < N → Chain w d v fs c → w.cell? a = some (.pointer (some t)) → w.cell? t = some old → w.frozen? t = false →
    Calls Tryd.prog 25 #[v, .iface 50 (.pointer (some t)), .agg #[.pointer (some ⟨2, 50, none⟩), .pointer (some a), .int .u64 150], .iface 72 (.agg #[.pointer (some ⟨2, 28, none⟩)])] w (AsPost (c.map (fun n => .int .i64 n)) t w) := by
  induction N with
  | zero => intro d v fs c w t a old hd; omega
  | succ N ih =>
    intro d v fs c w t a old hd hc ha ht hf
    have x1 := @run_callFunc_extern Tryd.prog 26 _ ReflectliteType.typeOf Tryd.func26 (by kernel_rfl) (by kernel_rfl) (by kernel_rfl) (by kernel_rfl)
    have x2 := @run_callFunc_extern Tryd.prog 62 _ (ReflectliteType.relation "AssignableTo" ReflectliteType.assignableTo) Tryd.func62 (by kernel_rfl) (by kernel_rfl) (by kernel_rfl) (by kernel_rfl)
    have x3 := @run_callFunc_extern Tryd.prog 29 _ (ReflectliteValue.method (ReflectliteValue.valueError "reflectlite.Value.Elem" 0) ReflectliteValue.elem) Tryd.func29 (by kernel_rfl) (by kernel_rfl) (by kernel_rfl) (by kernel_rfl)
    have x4 := @run_callFunc_extern Tryd.prog 22 _ (fun args => ReflectliteValue.unpack (args.getD 0 (.tuple #[]))) Tryd.func22 (by kernel_rfl) (by kernel_rfl) (by kernel_rfl) (by kernel_rfl)
    have x5 := @run_callFunc_extern Tryd.prog 30 _ ReflectliteValue.set Tryd.func30 (by kernel_rfl) (by kernel_rfl) (by kernel_rfl) (by kernel_rfl)
    have y1 := typeOfE
    have y2 := typeOfF
    have y5 := asgEE
    have y6 := asgFE
    have z1 := noAsE
    have z2 := noAsF
    have z5 := noUnE
    have z6 := hasUnF
    have z9 := noUsE
    have v1 := valueOfE
    have m1 := mAsg
    have m2 := mUnF
    go_enter Tryd.func25, Tryd.ntmps25
    go_wp2
    go_loopg [0] d (fun k u wr => ∃ fs', k < N + 1 ∧ Chain wr k u fs' c ∧ Below w.heap.size w wr ∧ wr.cell? ⟨w.heap.size, 0, none⟩ = some (.pointer (some ⟨2, 50, none⟩)) ∧ wr.cell? ⟨w.heap.size, 1, none⟩ = some (.pointer (some a)) ∧ wr.cell? ⟨w.heap.size, 2, none⟩ = some (.int .u64 150) ∧ wr.cell? a = some (.pointer (some t)) ∧ wr.cell? t = some old ∧ wr.frozen? t = false)
    case atStart =>
      have hb : Below w.heap.size w (w.alloc (.cells #[.pointer (some ⟨2, 50, none⟩), .pointer (some a), .int .u64 150] 60)) := (Below.refl _ _).alloc (Nat.le_refl _) _
      have hal : a.block < w.heap.size := by cases a; exact lt_of_cell ha
      have htl : t.block < w.heap.size := by cases t; exact lt_of_cell ht
      exact ⟨fs, hd, hc.later hb (Nat.le_refl _), hb, by simp, by simp, by simp, (hb.cell hal).trans ha, (hb.cell htl).trans ht, (hb.frozen htl).trans hf⟩
    case round =>
      obtain ⟨fs', hkN, hc', hb, b0, b1, b2, ha', ht', hf'⟩ := hrel
      have Hb := Lib.hid hb
      clear hb ha ht hf hc
      cases hc' with
      | errno n =>
        have el := elemVPE a t wr ha'
        have htl : t.block < wr.heap.size := by cases t; exact lt_of_cell ht'
        have st := setE t ⟨wr.heap.size, 0, none⟩ n old (wr.alloc (.cells #[.int .i64 n] 28)) (by rw [World.cell?_alloc_at _ _ _ _ (by simp)]; rfl)
          (by rw [World.cell?_alloc_lt _ _ t htl]; exact ht') (by rw [World.frozen?_alloc_old _ _ t (Nat.ne_of_lt htl)]; exact hf')
        go_wp2
        go_ret
        exact ⟨rfl, _, (Hb.out).alloc (Hb.out).size _, rfl⟩
      | fault d' b at_ v' fs'' c' hh h0 h1 hc'' =>
        clear hh
        obtain ⟨T, x, rfl⟩ := hc''.held
        have HC := Lib.hid hc''
        clear hc''
        go_wp2_with (go_at_call 57; refine (unF b (.iface T x) _ h1).mono ?_; rintro e w' ⟨rfl, rfl⟩)
        go_roundg d'
        case measure => omega
        case rel => exact ⟨fs'', by omega, HC.out, Hb.out, b0, b1, b2, ha', ht', hf'⟩

/-- errors.as at *api.Errno, over any chain. -/
theorem asE {d : Nat} {v : Value} {fs : List (Nat × Int)} {c : Option Int} {w : World} {t a : Addr} {old : Value} (hc : Chain w d v fs c) (ha : w.cell? a = some (.pointer (some t))) (ht : w.cell? t = some old) (hf : w.frozen? t = false) :
    Calls Tryd.prog 25 #[v, .iface 50 (.pointer (some t)), .agg #[.pointer (some ⟨2, 50, none⟩), .pointer (some a), .int .u64 150], .iface 72 (.agg #[.pointer (some ⟨2, 28, none⟩)])] w (AsPost (c.map (fun n => .int .i64 n)) t w) :=
  asE_any (d + 1) d v fs c w t a old (Nat.lt_succ_self d) hc ha ht hf
end Go.Proofs.YtiggfoghogecjaaDoor
