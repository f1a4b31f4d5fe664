/-
  circular of package fault: false at every chain. Conditions: the faults are those of a chain; errors.errorType holds the handle of the type error.
-/
import Derived.Test.YtmkkilbejlabfaaDoorFault
namespace Go.Proofs.YtmkkilbejlabfaaDoor
open Go.RowKit Go.Extern.Stop Go.Stop Go.Extern

/-- '!=' of two faults in blocks of their own. -/
theorem ptr_ne {w : World} {a b : Nat} {ca cb : Array Value} {ta tb : TypeId} (h : a ≠ b) (ha : w.heap[a]? = some (.cells ca ta (0, 0))) (hb : w.heap[b]? = some (.cells cb tb (0, 0))) :
    (binOp .neq 44 (.pointer (some ⟨a, 0, none⟩)) (.pointer (some ⟨b, 0, none⟩))).run Tryd.prog w = .ok (.bool true) w := by
  have hs := run_sameAddr_other (P := Tryd.prog) w (a := ⟨a, 0, none⟩) (b := ⟨b, 0, none⟩) (by intro e; injection e with e; exact h e) ha hb
  have hz : (sizeOf 46).run Tryd.prog w = .ok 2 w := by kernel_rfl
  have k : ∀ d : Nat, (Op.equalIn (d + 1) 44 (.pointer (some ⟨a, 0, none⟩)) (.pointer (some ⟨b, 0, none⟩))).run Tryd.prog w = .ok false w := by
    intro d
    simp [Op.equalIn, run_underlying Tryd.underlying44, hs, hz]
  have k2 : (Op.equal 44 (.pointer (some ⟨a, 0, none⟩)) (.pointer (some ⟨b, 0, none⟩))).run Tryd.prog w = .ok false w := k 9999
  simp only [binOp]
  simp [k2]

/-- inner of the fault at place i. -/
theorem inner_at {d : Nat} {v : Value} {fs : List (Nat × Int)} {c : Option Int} {w w1 : World} (hc : Chain w d v fs c) (hg : Handle w) (hb : Below w.heap.size w w1) (i : Nat) :
    Calls Tryd.prog 28 #[fp (fs.drop i)] w1 fun e w' => e = .returned (fp (fs.drop (i + 1))) ∧ Below w.heap.size w w' := by
  obtain ⟨d1, v1, c1⟩ := hc.drop i
  have k := inner (c1.later hb (Nat.le_refl _)) (hg.later hb (Nat.le_refl _))
  rw [List.tail_drop] at k
  exact k.mono fun e w' ⟨he, hb1⟩ => ⟨he, hb.trans (hb1.mono hb.size)⟩

set_option maxRecDepth 100000 in
set_option maxHeartbeats 1000000 in
theorem circular {d : Nat} {v : Value} {fs : List (Nat × Int)} {c : Option Int} {w : World} (hc : Chain w d v fs c) (hg : Handle w) : Calls Tryd.prog 23 #[fp fs] w fun e w' => e = .returned (.bool false) ∧ Below w.heap.size w w' := by
  have hk := inner hc hg
  have HK := Lib.hid hk
  have HC := Lib.hid hc
  have HG := Lib.hid hg
  clear hk hc hg
  go_enter Tryd.func23, Tryd.ntmps23
  go_wp2_with (go_at_call 28; refine HK.out.mono ?_; rintro e w' ⟨rfl, hp⟩)
  go_loopg [3, 4] (fs.length + 1) (fun k s f wr => ∃ i, fs.length < k + 2 * i ∧ s = fp (fs.drop i) ∧ f = fp (fs.drop (2 * i + 1)) ∧ Below w.heap.size w wr)
  case atStart => exact ⟨0, by omega, by simp, by simp, hp⟩
  case round =>
    obtain ⟨i, hk, rfl, rfl, hb⟩ := hrel
    cases hf : fs.drop (2 * i + 1) with
    | nil =>
      have Hb := Lib.hid hb
      clear hb hf hk
      rw [show fp [] = Value.pointer none from rfl]
      go_wp2_with fail
      go_ret
      exact ⟨rfl, Hb.out⟩
    | cons q t =>
      have hlen := congrArg List.length hf
      simp only [List.length_drop, List.length_cons] at hlen
      cases hs : fs.drop i with
      | nil =>
        have := congrArg List.length hs
        simp only [List.length_drop, List.length_nil] at this
        omega
      | cons p s =>
        have hne := HC.out.apart i (2 * i + 1) (by omega) p q s t hs hf
        obtain ⟨d1, v1, c1⟩ := HC.out.drop i
        obtain ⟨d2, v2, c2⟩ := HC.out.drop (2 * i + 1)
        rw [hs] at c1
        rw [hf] at c2
        obtain ⟨_, _, g1, l1, _, _⟩ := c1.next
        obtain ⟨_, _, g2, l2, _, _⟩ := c2.next
        have hpq := ptr_ne (fun e => hne e.symm) ((hb.block q.1 (lt_of_cell l2)).trans g2) ((hb.block p.1 (lt_of_cell l1)).trans g1)
        clear c1 c2 g1 g2 l1 l2
        have k1 := inner_at HC.out HG.out hb i
        rw [hs] at k1
        rw [show fp (p :: s) = Value.pointer (some ⟨p.1, 0, none⟩) from rfl] at k1 ⊢
        rw [show fp (q :: t) = Value.pointer (some ⟨q.1, 0, none⟩) from rfl]
        have HL := Lib.hid (And.intro hlen hk)
        have HF := Lib.hid hf
        have K1 := Lib.hid k1
        clear hlen hk hs hf hb hne k1
        go_wp2_with fail
        refine K1.out.mono ?_
        rintro e w1 ⟨rfl, hb1⟩
        have k2 := inner_at HC.out HG.out hb1 (2 * i + 1)
        rw [HF.out] at k2
        rw [show fp (q :: t) = Value.pointer (some ⟨q.1, 0, none⟩) from rfl] at k2
        have K2 := Lib.hid k2
        clear k2 hb1
        go_wp2_with fail
        refine K2.out.mono ?_
        rintro e w2 ⟨rfl, hb2⟩
        have K3 := Lib.hid (inner_at HC.out HG.out hb2 (2 * i + 1 + 1))
        clear hb2
        go_wp2_with fail
        refine K3.out.mono ?_
        rintro e w3 ⟨rfl, hb3⟩
        have HB := Lib.hid hb3
        clear hb3
        go_wp2_with fail
        go_roundg (gk - 1)
        case measure => have := HL.out; omega
        case rel => exact ⟨i + 1, by have := HL.out; omega, rfl, rfl, HB.out⟩
end Go.Proofs.YtmkkilbejlabfaaDoor
