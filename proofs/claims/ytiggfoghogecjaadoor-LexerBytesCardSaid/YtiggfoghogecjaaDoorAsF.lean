/-
  errors.as at the target **api.Fault. Conditions as in Err.
-/
import Derived.Test.YtiggfoghogecjaaDoorAsE
namespace Go.Proofs.YtiggfoghogecjaaDoor
open Go.RowKit Go.Extern.Stop Go.Stop Go.Extern

set_option maxRecDepth 100000 in
set_option maxHeartbeats 1000000 in
theorem asF_any (N : Nat) : ∀ (d : Nat) (v : Value) (fs : List (Nat × Int)) (c : Option Int) (w : World) (t a : Addr) (old : Value), d < N → Chain w d v fs c → w.cell? a = some (.pointer (some t)) → w.cell? t = some old → w.frozen? t = false →
    Calls Tryd.prog 25 #[v, .iface 52 (.pointer (some t)), .agg #[.pointer (some ⟨2, 52, none⟩), .pointer (some a), .int .u64 150], .iface 72 (.agg #[.pointer (some ⟨2, 48, none⟩)])] w (AsPost (fs.head?.map (fun p => .pointer (some ⟨p.1, 0, none⟩))) t w) := by
  induction N with
  | zero => intro d v fs c w t a old hd; omega
  | succ N ih =>
    intro d v fs c w t a old hd hc ha ht hf
    have x1 := @run_callFunc_extern Tryd.prog 26 _ ReflectliteType.typeOf Tryd.func26 (by kernel_rfl) (by kernel_rfl) (by kernel_rfl) (by kernel_rfl)
    have x2 := @run_callFunc_extern Tryd.prog 62 _ (ReflectliteType.relation "AssignableTo" ReflectliteType.assignableTo) Tryd.func62 (by kernel_rfl) (by kernel_rfl) (by kernel_rfl) (by kernel_rfl)
    have x3 := @run_callFunc_extern Tryd.prog 29 _ (ReflectliteValue.method (ReflectliteValue.valueError "reflectlite.Value.Elem" 0) ReflectliteValue.elem) Tryd.func29 (by kernel_rfl) (by kernel_rfl) (by kernel_rfl) (by kernel_rfl)
    have x4 := @run_callFunc_extern Tryd.prog 22 _ (fun args => ReflectliteValue.unpack (args.getD 0 (.tuple #[]))) Tryd.func22 (by kernel_rfl) (by kernel_rfl) (by kernel_rfl) (by kernel_rfl)
    have x5 := @run_callFunc_extern Tryd.prog 30 _ ReflectliteValue.set Tryd.func30 (by kernel_rfl) (by kernel_rfl) (by kernel_rfl) (by kernel_rfl)
    have y1 := typeOfE
    have y2 := typeOfF
    have y5 := asgEF
    have y6 := asgFF
    have z1 := noAsE
    have z2 := noAsF
    have z5 := noUnE
    have z6 := hasUnF
    have z9 := noUsE
    have v1 := valueOfF
    have m1 := mAsg
    have m2 := mUnF
    go_enter Tryd.func25, Tryd.ntmps25
    go_wp2
    go_loopg [0] d (fun k u wr => ∃ c', k < N + 1 ∧ Chain wr k u fs c' ∧ Below w.heap.size w wr ∧ wr.cell? ⟨w.heap.size, 0, none⟩ = some (.pointer (some ⟨2, 52, none⟩)) ∧ wr.cell? ⟨w.heap.size, 1, none⟩ = some (.pointer (some a)) ∧ wr.cell? ⟨w.heap.size, 2, none⟩ = some (.int .u64 150) ∧ wr.cell? a = some (.pointer (some t)) ∧ wr.cell? t = some old ∧ wr.frozen? t = false)
    case atStart =>
      have hb : Below w.heap.size w (w.alloc (.cells #[.pointer (some ⟨2, 52, none⟩), .pointer (some a), .int .u64 150] 60)) := (Below.refl _ _).alloc (Nat.le_refl _) _
      have hal : a.block < w.heap.size := by cases a; exact lt_of_cell ha
      have htl : t.block < w.heap.size := by cases t; exact lt_of_cell ht
      exact ⟨c, hd, hc.later hb (Nat.le_refl _), hb, by simp, by simp, by simp, (hb.cell hal).trans ha, (hb.cell htl).trans ht, (hb.frozen htl).trans hf⟩
    case round =>
      obtain ⟨c', hkN, hc', hb, b0, b1, b2, ha', ht', hf'⟩ := hrel
      have Hb := Lib.hid hb
      clear hb ha ht hf hc
      cases hc' with
      | errno n =>
        go_wp2
        go_ret
        exact ⟨rfl, Hb.out⟩
      | fault d' b at_ v' fs'' c'' hh h0 h1 hc'' =>
        clear hh
        have el := elemVPF a t wr ha'
        have htl : t.block < wr.heap.size := by cases t; exact lt_of_cell ht'
        have st := setF t ⟨wr.heap.size, 0, none⟩ ⟨b, 0, none⟩ old (wr.alloc (.cells #[.pointer (some ⟨b, 0, none⟩)] 48)) (by rw [World.cell?_alloc_at _ _ _ _ (by simp)]; rfl)
          (by rw [World.cell?_alloc_lt _ _ t htl]; exact ht') (by rw [World.frozen?_alloc_old _ _ t (Nat.ne_of_lt htl)]; exact hf')
        clear hc''
        go_wp2
        go_ret
        exact ⟨rfl, _, (Hb.out).alloc (Hb.out).size _, rfl⟩

/-- errors.as at *api.Errno, over any chain. -/
theorem asF {d : Nat} {v : Value} {fs : List (Nat × Int)} {c : Option Int} {w : World} {t a : Addr} {old : Value} (hc : Chain w d v fs c) (ha : w.cell? a = some (.pointer (some t))) (ht : w.cell? t = some old) (hf : w.frozen? t = false) :
    Calls Tryd.prog 25 #[v, .iface 52 (.pointer (some t)), .agg #[.pointer (some ⟨2, 52, none⟩), .pointer (some a), .int .u64 150], .iface 72 (.agg #[.pointer (some ⟨2, 48, none⟩)])] w (AsPost (fs.head?.map (fun p => .pointer (some ⟨p.1, 0, none⟩))) t w) :=
  asF_any (d + 1) d v fs c w t a old (Nat.lt_succ_self d) hc ha ht hf
end Go.Proofs.YtiggfoghogecjaaDoor
