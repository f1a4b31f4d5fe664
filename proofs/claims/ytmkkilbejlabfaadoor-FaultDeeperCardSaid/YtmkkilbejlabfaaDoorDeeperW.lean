/-
  stockadelaw01.FaultDeeper answers true, whatever the numbers. Conditions: errors.errorType holds the handle of the type error; the slice's cells are there.
-/
import Derived.Test.YtmkkilbejlabfaaDoorError
import Derived.IntWalk
namespace Go.Proofs.YtmkkilbejlabfaaDoor
open Go.RowKit Go.Extern.Stop Go.Stop Go.Extern

theorem tmod_small (a : Int) : -1000000 < a.tmod 1000000 ∧ a.tmod 1000000 < 1000000 := by
  have h := Int.tmod_lt_of_pos a (show (0 : Int) < 1000000 by decide)
  have h2 := Int.tmod_lt_of_pos (-a) (show (0 : Int) < 1000000 by decide)
  rw [Int.neg_tmod] at h2
  omega

/-- What holds at the loop's head: the error is a chain of faults, the outermost of which stands at the sum. -/
def DeepRel (w : World) (x : Int) (len k : Nat) (f s i : Value) (wr : World) : Prop :=
  ∃ (m : Nat) (d : Nat) (fs : List (Nat × Int)) (z : Int), k = 31 - m ∧ m ≤ 30 ∧ m ≤ len ∧ i = .int .i64 (m : Int) ∧ s = .int .i64 z ∧ -1000000 * ((m : Int) + 1) < z ∧ z < 1000000 * ((m : Int) + 1) ∧ (placeOf fs).1 = z ∧ Faults wr d f fs x ∧ Below w.heap.size w wr

set_option maxRecDepth 100000 in
set_option maxHeartbeats 2000000 in
theorem deepers {w : World} (at_ code_ : Int) (placed : Bool) (ad : Option Addr) (zs : List Int) (cap : Nat) (hm : zs.length ≤ maxLen) (hcell : ∀ i, i < zs.length → ∃ b off, ad = some ⟨b, off, none⟩ ∧ w.cell? ⟨b, off + i, none⟩ = some (.int .i64 (zs.getD i 0))) (hg : Handle w) :
    Calls Tryd.prog 4 #[.int .i64 at_, .slice ad zs.length cap, .int .i64 code_, .bool placed] w fun e w' => e = .returned (.bool true) ∧ Below w.heap.size w w' := by
  have HG := Lib.hid hg
  have HC := Lib.hid hcell
  clear hg hcell
  unfold maxLen at hm
  have hx := num21 code_
  have ht := tmod_small at_
  cases placed
  case' false =>
    go_enter Tryd.func4, Tryd.ntmps4
    go_wp2_with fail
    generalize wrap64 (IntKind.u64.wrap (1 + (IntKind.u64.wrap code_).tmod 21)) = x at hx ⊢
    have HS : Hid (DeepRel w x zs.length 31 (.iface 22 (.int .i64 x)) (.int .i64 0) (.int .i64 0) w) := ⟨0, 0, [], 0, rfl, by omega, by omega, rfl, rfl, by omega, by omega, rfl, .errno x, Below.refl _ _⟩
    have HX := Lib.hid hx
    clear hx ht
  case' true =>
    go_enter Tryd.func4, Tryd.ntmps4
    go_wp2_with fail
    generalize wrap64 (IntKind.u64.wrap (1 + (IntKind.u64.wrap code_).tmod 21)) = x at hx ⊢
    generalize at_.tmod 1000000 = z0 at ht ⊢
    have HX := Lib.hid hx
    have HT := Lib.hid ht
    clear hx ht
    have K0 := Lib.hid (wrap z0 (Faults.errno (w := w) x))
    refine K0.out.mono ?_
    rintro e w0 ⟨b0, rfl, h0, c0⟩
    have HS : Hid (DeepRel w x zs.length 31 (.iface 44 (.pointer (some ⟨b0, 0, none⟩))) (.int .i64 z0) (.int .i64 0) w0) := ⟨0, 1, [(b0, z0)], z0, rfl, by omega, by omega, rfl, rfl, by have := HT.out; omega, by have := HT.out; omega, rfl, c0, h0⟩
    clear h0 c0
    go_wp2_with fail
  all_goals
    go_loopg [10, 11, 12] 31 (fun k f s i wr => DeepRel w x zs.length k f s i wr)
    case atStart => exact HS.out
    case round =>
      obtain ⟨m, d, fs, z, hk, hm30, hml, rfl, rfl, hz1, hz2, hpl, hf, hb⟩ := hrel
      obtain ⟨T, xv, rfl⟩ := hf.chain.held
      by_cases hlt : m < zs.length ∧ m < 30
      · obtain ⟨hlt, h30⟩ := hlt
        obtain ⟨b, off, rfl, hc⟩ := HC.out m hlt
        have hc1 : wr.cell? ⟨b, off + m, none⟩ = some (.int .i64 (zs.getD m 0)) := (hb.cell (p := ⟨b, off + m, none⟩) (lt_of_cell hc)).trans hc
        have HF := Lib.hid hf
        have HB := Lib.hid hb
        have HK := Lib.hid (And.intro hk hpl)
        clear hf hb hk hpl hc
        have hxx : x ≠ 0 := by have := HX.out; omega
        have HXX := Lib.hid hxx
        clear hxx
        go_wp2_with fail
        have hd := tmod_small zs[m]
        generalize zs[m].tmod 1000000 = dd at hd ⊢
        have hz3 : -9223372036854775808 ≤ dd + z ∧ dd + z ≤ 9223372036854775807 := by omega
        have k1 := deep dd HF.out (HG.out.later HB.out (Nat.le_refl _))
        rw [HK.out.2, IntWalk.wrap64_in _ hz3] at k1
        have K1 := Lib.hid k1
        clear k1 hz3
        refine K1.out.mono ?_
        rintro e w1 ⟨b1, rfl, h1, c1⟩
        have H1 := Lib.hid (HB.out.trans (h1.mono HB.out.size))
        have C1 := Lib.hid c1
        clear h1 c1
        go_wp2_with fail
        refine (help_at x (z + dd) _).mono ?_
        rintro e w2 ⟨rfl, h2⟩
        have H2 := Lib.hid (H1.out.trans (h2.mono H1.out.size))
        have C2 := Lib.hid (C1.out.later h2 (Nat.le_refl _))
        have k3 := help_is x (z + dd) true HXX.out C2.out (HG.out.later H2.out (Nat.le_refl _))
        rw [show isFail x [(b1, dd + z)] x (z + dd) true = true by simp [isFail, Int.add_comm]] at k3
        have K3 := Lib.hid k3
        clear h2 k3
        go_wp2_with fail
        refine K3.out.mono ?_
        rintro e w3 ⟨rfl, h3⟩
        have H3 := Lib.hid (H2.out.trans (h3.mono H2.out.size))
        have C3 := Lib.hid (C2.out.later h3 (Nat.le_refl _))
        clear h3
        go_wp2_with fail
        go_roundg (gk - 1)
        case measure => have := HK.out.1; omega
        case rel => exact ⟨m + 1, 1, [(b1, dd + z)], z + dd, by have := HK.out.1; omega, by omega, by omega, by go_num, rfl, by omega, by omega, Int.add_comm _ _, C3.out, H3.out⟩
      · have HF := Lib.hid hf
        have HB := Lib.hid hb
        have HL := Lib.hid hlt
        have K1 := Lib.hid (awake (HG.out.later hb (Nat.le_refl _)))
        have hend : (m < zs.length ∧ ¬ m < 30) ∨ ¬ m < zs.length := by omega
        clear hf hb hpl hk hlt hz1 hz2
        rcases hend with ⟨hl1, h30⟩ | hl1
        all_goals
          go_wp2_with fail
          refine K1.out.mono ?_
          rintro e w1 ⟨rfl, h1⟩
          have H1 := Lib.hid (HB.out.trans (h1.mono HB.out.size))
          have K2 : Hid (Calls Tryd.prog 13 #[.iface T xv] w1 fun e w' => e = .returned (.int .i64 x) ∧ Below w1.heap.size w1 w') := code (HF.out.later h1 (Nat.le_refl _)).chain (HG.out.later H1.out (Nat.le_refl _))
          clear h1
          go_wp2_with fail
          refine (deeper_nil _ _).mono ?_
          rintro e w2 ⟨rfl, rfl⟩
          go_wp2_with fail
          refine K2.out.mono ?_
          rintro e w3 ⟨rfl, h3⟩
          have H3 := Lib.hid (H1.out.trans (h3.mono H1.out.size))
          clear h3
          go_wp2_with fail
          go_ret
          exact ⟨rfl, H3.out⟩
end Go.Proofs.YtmkkilbejlabfaaDoor
