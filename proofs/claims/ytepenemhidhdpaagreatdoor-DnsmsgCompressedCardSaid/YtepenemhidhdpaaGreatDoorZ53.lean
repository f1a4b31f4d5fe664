/-
  DnsmsgCompressed: for every input the law returns true, and its arguments read as they did. Conditions: those of the row (the listed variables of Go's library start as the program's text lays them), which the card ties to the text.
-/
import Derived.Test.YtepenemhidhdpaaGreatDoorZ52
import Derived.Test.YtepenemhidhdpaaGreatDoorZ51
import Derived.Test.YtepenemhidhdpaaGreatDoorCards
import Derived.Test.YtepenemhidhdpaaGreatDoorTie
import Derived.ProofKit
import Derived.SevenTiedAt
namespace Go.Proofs.YtepenemhidhdpaaGreatDoor
open Go.ChangeShapes Go.WideShapes Go.RowKit

set_option maxRecDepth 100000 in
theorem dnsmsgCompressed_lifted (os : Os) (started : os.Started) (H : Type) (enc : TypeId × Value → H) :
    ReturnsInHanded {} Tryz.checked os 5 .any (fun w args => (Rows.dnsmsgCompressedSpec.pre enc Tryz.prog Tryz.f5 [] false w args ∧ laidMetH Tryz.prog laid8 w) ∧ sizedMet enc Tryz.prog Tryz.f5 (OpenSpec.ofChange Rows.dnsmsgCompressedSpec) false w args)
      (Rows.dnsmsgCompressedSpec.post enc Tryz.prog Tryz.f5 false true false false) := by
  refine wrap_and_shaped (C := Tryz.checked) (X := fun w _ => laidMetH Tryz.prog laid8 w) (fun _ _ _ hh h => h.of_heap hh) own started (by kernel_rfl) Tryz.func5
    (ChangeSpec.witness_shaped (enc := enc) (C := Tryz.checked) (os := os) (X := fun w _ => laidMetH Tryz.prog laid8 w) false (laidWorld8 os) #[.string ⟨#[]⟩, .int .i64 0, .int .u32 0] 8 (laidWorld8_os os) (laidWorld8_shaped os _) (by kernel_rfl) (by kernel_rfl) (by kernel_rfl) (laidWorld8_met os _)) ?_
  intro W base args ds gs before hval0 hW hL hsh
  have hval : ∀ (j : Nat) t v, Tryz.f5.params[j]? = some t → args[j]? = some v → Value.okWide Tryz.prog W .any base t v := hval0
  have hW' := hW
  obtain ⟨p, q, hA0, hV0, rfl, hfz, hnd⟩ := hW
  have hA : DataW.TrodAll enc Tryz.prog W 0 (fun _ => true) true Tryz.f5.params.toList args.toList ds p := hA0
  have hV : DataW.TrodVars enc Tryz.prog W (fun _ => true) [] gs q := hV0
  have hE := env_of_laid hsh
  have hg := handle_of_laid8 hL
  obtain ⟨rfl, rfl⟩ : gs = [] ∧ q = [] := by
    cases gs with
    | nil => exact ⟨rfl, hV⟩
    | cons g r => exact absurd hV (by intro h; cases h)
  have hlt : ∀ x ∈ p, x.block < W.heap.size := fun x hx => by simpa using hW'.lt x (by simpa using hx)
  have stays : ∀ W', Below W.heap.size W W' → DataW.TrodAll enc Tryz.prog W' 0 (fun b => decide (b < W.heap.size)) true Tryz.f5.params.toList args.toList ds p := fun W' hb =>
    trodAll_stays laidOut hb _ _ _ _ (by kernel_rfl) hA hlt
  clear hA0 hfz hnd hval0
  rw [Tryz.params5] at hA hval
  obtain ⟨v0, vs0, d0, ds0, p0, q0, hargs, rfl, rfl, h0, g0⟩ := trodAll_cons hA
  obtain ⟨v1, vs1, d1, ds1, p1, q1, rfl, rfl, rfl, h1, g1⟩ := trodAll_cons g0
  obtain ⟨v2, vs2, d2, ds2, p2, q2, rfl, rfl, rfl, h2, g2⟩ := trodAll_cons g1
  obtain ⟨rfl, rfl, rfl⟩ := trodAll_nil g2
  obtain rfl : args = #[v0, v1, v2] := by cases args; simp_all
  obtain ⟨s0, rfl, rfl, rfl, hs0⟩ := Go.ChangeMaps.open_string Tryz.underlying9 (hval 0 9 v0 rfl rfl) h0
  obtain ⟨n1, rfl, rfl, rfl, r1⟩ := open_int Tryz.underlying3 (hval 1 3 v1 rfl rfl) h1
  have r1 := i64_range r1
  obtain ⟨n2, rfl, rfl, rfl, r2⟩ := open_int Tryz.underlying49 (hval 2 49 v2 rfl rfl) h2
  have r2 := u32_range r2
  clear hA hval
  refine (dnsmsgCompressed s0 (by unfold maxLen at hs0; omega) n1 n2 (by omega) (by omega) hE hg).mono fun e W' ⟨he, hb⟩ => ?_
  subst he
  exact ⟨_, rfl, _, _, _, [], _, [], hW', trodAll_mk1 (shut_bool Tryz.underlying4 true), stays W' hb, rfl, hb.frame _, fun h => by cases h⟩

theorem dnsmsgCompressed_holds : Rows.DnsmsgCompressedSaid :=
  OpenClaim.holds_of_wide 5 Tryz.f5 rfl rfl rfl rfl rfl rfl rfl ⟨rfl, rfl, rfl, rfl, rfl⟩ rfl rfl rfl rfl rfl (by kernel_rfl) Tryz.func5 (by kernel_rfl)
    (of_decide_eq_true (by kernel_rfl)) (by unfold Func.isWrapper; rw [if_neg (of_decide_eq_false (by kernel_rfl))]; exact ⟨rfl, rfl⟩)
    (fun os started H enc _ => dnsmsgCompressed_lifted os started H enc)

theorem dnsmsgCompressed_card : Rows.DnsmsgCompressedCardSaid :=
  Claim7.holds_tied_plain_at .later [] _ _ _ _
    dnsmsgCompressed_holds (fun _ h => by cases h) (by kernel_rfl) (fun _ h => by cases h) dnsmsgCompressed_row_tie rfl ⟨rfl, rfl⟩ (by kernel_rfl) rfl
    (fun f fn hf hfn => by
      obtain rfl : f = 5 := Option.some.inj ((show Tryz.prog.funcNamed Rows.dnsmsgCompressedRow.func = some 5 by kernel_rfl).symm.trans hf) |>.symm
      obtain rfl : fn = Tryz.f5 := (Option.some.inj (Tryz.func5.symm.trans hfn)).symm
      exact ⟨by kernel_rfl, fun j t ht => by
        rw [Tryz.params5] at ht
        have h3 : t = 9 ∨ t = 3 ∨ t = 49 := by
          rcases j with _ | _ | _ | j
          · obtain rfl : 9 = t := by simpa using ht
            exact Or.inl rfl
          · obtain rfl : 3 = t := by simpa using ht
            exact Or.inr (Or.inl rfl)
          · obtain rfl : 49 = t := by simpa using ht
            exact Or.inr (Or.inr (rfl))
          · simp at ht
        rcases h3 with rfl | rfl | rfl
        · exact (show Tryz.prog.wantsStandIn 9 = false by kernel_rfl)
        · exact (show Tryz.prog.wantsStandIn 3 = false by kernel_rfl)
        · exact (show Tryz.prog.wantsStandIn 49 = false by kernel_rfl)⟩)
    (by kernel_rfl)
#print axioms dnsmsgCompressed_card
end Go.Proofs.YtepenemhidhdpaaGreatDoor
