/-
  errors.as at the target **api.Fault. Conditions as in Err.
-/
import Derived.Test.YtmkkilbejlabfaaDoorAsE
namespace Go.Proofs.YtmkkilbejlabfaaDoor
open Go.RowKit Go.Extern.Stop Go.Stop Go.Extern

set_option maxRecDepth 100000 in
set_option maxHeartbeats 1000000 in
theorem asF_any (N : Nat) : ∀ (d : Nat) (v : Value) (fs : List (Nat × Int)) (c : Option Int) (w : World) (t a : Addr) (old : Value), d < N → Chain w d v fs c → w.cell? a = some (.pointer (some t)) → w.cell? t = some old → w.frozen? t = false →
    Calls Tryd.prog 27 #[v, .iface 50 (.pointer (some t)), .agg #[.pointer (some ⟨1, 50, none⟩), .pointer (some a), .int .u64 150], .iface 74 (.agg #[.pointer (some ⟨1, 44, none⟩)])] w (AsPost (fs.head?.map (fun p => .pointer (some ⟨p.1, 0, none⟩))) t w) := by
  induction N with
  | zero => intro d v fs c w t a old hd; omega
  | succ N ih =>
    intro d v fs c w t a old hd hc ha ht hf
    have x1 := @run_callFunc_extern Tryd.prog 20 _ ReflectliteType.typeOf Tryd.func20 (by kernel_rfl) (by kernel_rfl) (by kernel_rfl) (by kernel_rfl)
    have x2 := @run_callFunc_extern Tryd.prog 58 _ (ReflectliteType.relation "AssignableTo" ReflectliteType.assignableTo) Tryd.func58 (by kernel_rfl) (by kernel_rfl) (by kernel_rfl) (by kernel_rfl)
    have x3 := @run_callFunc_extern Tryd.prog 29 _ (ReflectliteValue.method (ReflectliteValue.valueError "reflectlite.Value.Elem" 0) ReflectliteValue.elem) Tryd.func29 (by kernel_rfl) (by kernel_rfl) (by kernel_rfl) (by kernel_rfl)
    have x4 := @run_callFunc_extern Tryd.prog 24 _ (fun args => ReflectliteValue.unpack (args.getD 0 (.tuple #[]))) Tryd.func24 (by kernel_rfl) (by kernel_rfl) (by kernel_rfl) (by kernel_rfl)
    have x5 := @run_callFunc_extern Tryd.prog 30 _ ReflectliteValue.set Tryd.func30 (by kernel_rfl) (by kernel_rfl) (by kernel_rfl) (by kernel_rfl)
    have y1 := typeOfE
    have y2 := typeOfF
    have y3 := typeOfJ
    have y4 := typeOfS
    have y5 := asgEF
    have y6 := asgFF
    have y7 := asgJF
    have y8 := asgSF
    have z1 := noAsE
    have z2 := noAsF
    have z3 := noAsJ
    have z4 := noAsS
    have z5 := noUnE
    have z6 := hasUnF
    have z7 := noUnJ
    have z8 := noUnS
    have z9 := noUsE
    have zA := hasUsJ
    have zB := noUsS
    have v1 := valueOfF
    have m1 := mAsg
    have m2 := mUnF
    have m3 := mUnJ
    go_enter Tryd.func27, Tryd.ntmps27
    go_wp2
    go_loopg [0] d (fun k u wr => ∃ c', k < N + 1 ∧ Chain wr k u fs c' ∧ Below w.heap.size w wr ∧ wr.cell? ⟨w.heap.size, 0, none⟩ = some (.pointer (some ⟨1, 50, none⟩)) ∧ wr.cell? ⟨w.heap.size, 1, none⟩ = some (.pointer (some a)) ∧ wr.cell? ⟨w.heap.size, 2, none⟩ = some (.int .u64 150) ∧ wr.cell? a = some (.pointer (some t)) ∧ wr.cell? t = some old ∧ wr.frozen? t = false)
    case atStart =>
      have hb : Below w.heap.size w (w.alloc (.cells #[.pointer (some ⟨1, 50, none⟩), .pointer (some a), .int .u64 150] 66)) := (Below.refl _ _).alloc (Nat.le_refl _) _
      have hal : a.block < w.heap.size := by cases a; exact lt_of_cell ha
      have htl : t.block < w.heap.size := by cases t; exact lt_of_cell ht
      exact ⟨c, hd, hc.later hb (Nat.le_refl _), hb, by simp, by simp, by simp, (hb.cell hal).trans ha, (hb.cell htl).trans ht, (hb.frozen htl).trans hf⟩
    case round =>
      obtain ⟨c', hkN, hc', hb, b0, b1, b2, ha', ht', hf'⟩ := hrel
      have Hb := Lib.hid hb
      clear hb ha ht hf hc
      cases hc' with
      | errno n =>
        go_wp2
        go_ret
        exact ⟨rfl, Hb.out⟩
      | other p =>
        go_wp2
        go_ret
        exact ⟨rfl, Hb.out⟩
      | fault d' b at_ v' fs'' c'' hh h0 h1 hc'' =>
        clear hh
        have el := elemVPF a t wr ha'
        have htl : t.block < wr.heap.size := by cases t; exact lt_of_cell ht'
        have st := setF t ⟨wr.heap.size, 0, none⟩ ⟨b, 0, none⟩ old (wr.alloc (.cells #[.pointer (some ⟨b, 0, none⟩)] 44)) (by rw [World.cell?_alloc_at _ _ _ _ (by simp)]; rfl)
          (by rw [World.cell?_alloc_lt _ _ t htl]; exact ht') (by rw [World.frozen?_alloc_old _ _ t (Nat.ne_of_lt htl)]; exact hf')
        clear hc''
        go_wp2
        go_ret
        exact ⟨rfl, _, (Hb.out).alloc (Hb.out).size _, rfl⟩
      | join d' b e cap v' fs'' c'' h0 h1 hc'' =>
        obtain ⟨T, x, rfl⟩ := hc''.held
        have HC := Lib.hid hc''
        clear hc''
        cases fs with
        | cons p fs =>
          have hk : Calls Tryd.prog 27 #[.iface T x, .iface 50 (.pointer (some t)), .agg #[.pointer (some ⟨1, 50, none⟩), .pointer (some a), .int .u64 150], .iface 74 (.agg #[.pointer (some ⟨1, 44, none⟩)])] wr (fun e w' => e = .returned (.bool true) ∧ ∃ w1, Below wr.heap.size wr w1 ∧ w' = w1.setCell t (.pointer (some ⟨p.1, 0, none⟩))) := ih d' (.iface T x) (p :: fs) c' wr t a old (by omega) HC.out ha' ht' hf'
          have HK := Lib.hid hk
          clear hk ih
          go_wp2_with (go_at_call 52; refine (unJ b _ _ h0).mono ?_; rintro e w' ⟨rfl, rfl⟩)
          refine wp_loop_rounds 1 ?_
          rw [rounds_succ]
          go_wp2_with (go_at_call 27; refine HK.out.mono ?_; rintro e w' ⟨rfl, w1, hb1, rfl⟩)
          go_ret
          exact ⟨rfl, _, (Hb.out).trans (hb1.mono (Hb.out).size), rfl⟩
        | nil =>
          have hk : Calls Tryd.prog 27 #[.iface T x, .iface 50 (.pointer (some t)), .agg #[.pointer (some ⟨1, 50, none⟩), .pointer (some a), .int .u64 150], .iface 74 (.agg #[.pointer (some ⟨1, 44, none⟩)])] wr (fun e w' => e = .returned (.bool false) ∧ Below wr.heap.size wr w') := ih d' (.iface T x) [] c' wr t a old (by omega) HC.out ha' ht' hf'
          have HK := Lib.hid hk
          clear hk ih
          go_wp2_with (go_at_call 52; refine (unJ b _ _ h0).mono ?_; rintro e w' ⟨rfl, rfl⟩)
          refine wp_loop_rounds 2 ?_
          rw [rounds_succ]
          go_wp2_with (go_at_call 27; refine HK.out.mono ?_; rintro e w' ⟨rfl, hb1⟩)
          rw [rounds_succ]
          go_wp2
          go_ret
          exact ⟨rfl, (Hb.out).trans (hb1.mono (Hb.out).size)⟩

/-- errors.as at *api.Errno, over any chain. -/
theorem asF {d : Nat} {v : Value} {fs : List (Nat × Int)} {c : Option Int} {w : World} {t a : Addr} {old : Value} (hc : Chain w d v fs c) (ha : w.cell? a = some (.pointer (some t))) (ht : w.cell? t = some old) (hf : w.frozen? t = false) :
    Calls Tryd.prog 27 #[v, .iface 50 (.pointer (some t)), .agg #[.pointer (some ⟨1, 50, none⟩), .pointer (some a), .int .u64 150], .iface 74 (.agg #[.pointer (some ⟨1, 44, none⟩)])] w (AsPost (fs.head?.map (fun p => .pointer (some ⟨p.1, 0, none⟩))) t w) :=
  asF_any (d + 1) d v fs c w t a old (Nat.lt_succ_self d) hc ha ht hf
end Go.Proofs.YtmkkilbejlabfaaDoor
