/-
  
-/
import Derived.Test.YtoagfmonfgagbaaGreatDoorZ39
import Derived.Test.YtoagfmonfgagbaaGreatDoorZ47
import Derived.Test.YtoagfmonfgagbaaGreatDoorZ52
import Derived.Test.YtoagfmonfgagbaaGreatDoorCards
import Derived.Test.YtoagfmonfgagbaaGreatDoorTie
import Derived.ProofKit
import Derived.SevenTiedAt
namespace Go.Proofs.YtoagfmonfgagbaaGreatDoor
open Go.ChangeShapes Go.WideShapes Go.RowKit
set_option maxRecDepth 100000 in
theorem ruleLines_lifted (os : Os) (started : os.Started) (H : Type) (enc : TypeId × Value → H) :
    ReturnsInHanded {} Tryz.checked os 6 .any (fun w args => (Rows.ruleLinesSpec.pre enc Tryz.prog Tryz.f6 [] false w args ∧ laidMetH Tryz.prog laidR w) ∧ sizedMet enc Tryz.prog Tryz.f6 (OpenSpec.ofChange Rows.ruleLinesSpec) false w args)
      (Rows.ruleLinesSpec.post enc Tryz.prog Tryz.f6 false true false false) := by
  refine wrap_and_shaped (C := Tryz.checked) (X := fun w _ => laidMetH Tryz.prog laidR w) (fun _ _ _ hh h => h.of_heap hh) own started (by kernel_rfl) Tryz.func6
    (ChangeSpec.witness_shaped (enc := enc) (C := Tryz.checked) (os := os) (X := fun w _ => laidMetH Tryz.prog laidR w) false (laidWorldR os) #[.agg #[.slice none 0 0, .slice none 0 0], .agg #[.slice none 0 0, .slice none 0 0], .int .i64 0] 8 (laidWorldR_os os) (laidWorldR_shaped os _) (by kernel_rfl) (by kernel_rfl) (by kernel_rfl) (laidWorldR_metH os _)) ?_
  intro W base args ds gs before hval0 hW hL hsh
  have hval : ∀ (j : Nat) t v, Tryz.f6.params[j]? = some t → args[j]? = some v → Value.okWide Tryz.prog W .any base t v := hval0
  have hW' := hW
  obtain ⟨p, q, hA0, hV0, rfl, hfz, hnd⟩ := hW
  have hA : DataW.TrodAll enc Tryz.prog W 0 (fun _ => true) true Tryz.f6.params.toList args.toList ds p := hA0
  have hV : DataW.TrodVars enc Tryz.prog W (fun _ => true) [] gs q := hV0
  have hE := env19_of_laid (show laidMet Tryz.prog laidR W from hL) hsh
  obtain ⟨rfl, rfl⟩ : gs = [] ∧ q = [] := by
    cases gs with
    | nil => exact ⟨rfl, hV⟩
    | cons g r => exact absurd hV (by intro h; cases h)
  have hlt : ∀ x ∈ p, x.block < W.heap.size := fun x hx => by simpa using hW'.lt x (by simpa using hx)
  have stays : ∀ W', Below W.heap.size W W' → DataW.TrodAll enc Tryz.prog W' 0 (fun b => decide (b < W.heap.size)) true Tryz.f6.params.toList args.toList ds p := fun W' hb =>
    trodAll_stays laidOut hb _ _ _ _ (by kernel_rfl) hA hlt
  clear hA0 hfz hnd hval0
  rw [Tryz.params6] at hA hval
  obtain ⟨v0, vs0, d0, ds0, p0, q0, hargs, rfl, rfl, h0, g0⟩ := trodAll_cons hA
  obtain ⟨v1, vs1, d1, ds1, p1, q1, rfl, rfl, rfl, h1, g1⟩ := trodAll_cons g0
  obtain ⟨v2, vs2, d2, ds2, p2, q2, rfl, rfl, rfl, h2, g2⟩ := trodAll_cons g1
  obtain ⟨rfl, rfl, rfl⟩ := trodAll_nil g2
  obtain rfl : args = #[v0, v1, v2] := by cases args; simp_all
  obtain ⟨A0a, n0a, c0a, S0, A0b, n0b, c0b, U0, rfl, hs0, hu0, hn0⟩ := rules_of (hval 0 25 v0 rfl rfl) h0
  obtain ⟨A1a, n1a, c1a, S1, A1b, n1b, c1b, U1, rfl, hs1, hu1, hn1⟩ := rules_of (hval 1 25 v1 rfl rfl) h1
  obtain ⟨n2, rfl, rfl, rfl, r2⟩ := open_int Tryz.underlying3 (hval 2 3 v2 rfl rfl) h2
  have r2 := i64_range r2
  clear hA hval
  refine (ruleLines hs0 hu0 hn0 hs1 hu1 hn1 n2 hE).mono fun e W' ⟨he, hb⟩ => ?_
  subst he
  exact ⟨_, rfl, _, _, _, [], _, [], hW', trodAll_mk1 (shut_bool Tryz.underlying4 true), stays W' hb, rfl, hb.frame _, fun h => by cases h⟩
theorem ruleLines_holds : Rows.RuleLinesSaid :=
  OpenClaim.holds_of_wide 6 Tryz.f6 rfl rfl rfl rfl rfl rfl rfl ⟨rfl, rfl, rfl, rfl, rfl⟩ rfl rfl rfl rfl rfl (by kernel_rfl) Tryz.func6 (by kernel_rfl)
    (of_decide_eq_true (by kernel_rfl)) (by unfold Func.isWrapper; rw [if_neg (of_decide_eq_false (by kernel_rfl))]; exact ⟨rfl, rfl⟩)
    (fun os started H enc _ => ruleLines_lifted os started H enc)
theorem ruleLines_card : Rows.RuleLinesCardSaid :=
  Claim7.holds_tied_plain_at .later [] _ _ _ _
    ruleLines_holds (fun _ h => by cases h) (by kernel_rfl) (fun _ h => by cases h) ruleLines_row_tie rfl ⟨rfl, rfl⟩ (by kernel_rfl) rfl
    (fun f fn hf hfn => by
      obtain rfl : f = 6 := Option.some.inj ((show Tryz.prog.funcNamed Rows.ruleLinesRow.func = some 6 by kernel_rfl).symm.trans hf) |>.symm
      obtain rfl : fn = Tryz.f6 := (Option.some.inj (Tryz.func6.symm.trans hfn)).symm
      exact ⟨by kernel_rfl, fun j t ht => by
        rw [Tryz.params6] at ht
        have h3 : t = 25 ∨ t = 3 := by
          rcases j with _ | _ | _ | j
          · obtain rfl : 25 = t := by simpa using ht
            exact Or.inl rfl
          · obtain rfl : 25 = t := by simpa using ht
            exact Or.inl rfl
          · obtain rfl : 3 = t := by simpa using ht
            exact Or.inr (rfl)
          · simp at ht
        rcases h3 with rfl | rfl
        · exact (show Tryz.prog.wantsStandIn 25 = false by kernel_rfl)
        · exact (show Tryz.prog.wantsStandIn 3 = false by kernel_rfl)⟩)
    (by kernel_rfl)
#print axioms ruleLines_card
end Go.Proofs.YtoagfmonfgagbaaGreatDoor
