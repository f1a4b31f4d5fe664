/-
  AddrTexts: for every input the law returns true, and its arguments read as they did. Conditions: those of the row (the listed variables of Go's library start as the program's text lays them), which the card ties to the text.
-/
import Derived.Test.YtcdomcccdbdmhaaDoorKitF
import Derived.Test.YtcdomcccdbdmhaaDoorTxW
import Derived.Test.YtcdomcccdbdmhaaDoorCards
import Derived.Test.YtcdomcccdbdmhaaDoorTie
import Derived.ProofKit
import Derived.SevenTiedAt
namespace Go.Proofs.YtcdomcccdbdmhaaDoor
open Go.ChangeShapes Go.WideShapes Go.RowKit

set_option maxRecDepth 100000 in
theorem addrTexts_lifted (os : Os) (started : os.Started) (H : Type) (enc : TypeId × Value → H) :
    ReturnsInHanded {} Tryd.checked os 3 .any (fun w args => (Rows.addrTextsSpec.pre enc Tryd.prog Tryd.f3 [] false w args ∧ laidMetH Tryd.prog laid7 w) ∧ sizedMet enc Tryd.prog Tryd.f3 (OpenSpec.ofChange Rows.addrTextsSpec) false w args)
      (Rows.addrTextsSpec.post enc Tryd.prog Tryd.f3 false true false false) := by
  refine wrap_and_shaped (C := Tryd.checked) (X := fun w _ => laidMetH Tryd.prog laid7 w) (fun _ _ _ hh h => h.of_heap hh) own started (by kernel_rfl) Tryd.func3
    (ChangeSpec.witness_shaped (enc := enc) (C := Tryd.checked) (os := os) (X := fun w _ => laidMetH Tryd.prog laid7 w) false (laidWorld7 os) #[.int .u8 0, .int .u8 0, .int .u8 0, .int .u8 0, .int .i64 0, .int .i64 0] 8 (laidWorld7_os os) (laidWorld7_shaped os _) (by kernel_rfl) (by kernel_rfl) (by kernel_rfl) (laidWorld7_metH os _)) ?_
  intro W base args ds gs before hval0 hW hL hsh
  have hval : ∀ (j : Nat) t v, Tryd.f3.params[j]? = some t → args[j]? = some v → Value.okWide Tryd.prog W .any base t v := hval0
  have hW' := hW
  obtain ⟨p, q, hA0, hV0, rfl, hfz, hnd⟩ := hW
  have hA : DataW.TrodAll enc Tryd.prog W 0 (fun _ => true) true Tryd.f3.params.toList args.toList ds p := hA0
  have hV : DataW.TrodVars enc Tryd.prog W (fun _ => true) [] gs q := hV0
  have hE := env_of_laid (laid7_plain hL) hsh
  obtain ⟨rfl, rfl⟩ : gs = [] ∧ q = [] := by
    cases gs with
    | nil => exact ⟨rfl, hV⟩
    | cons g r => exact absurd hV (by intro h; cases h)
  have hlt : ∀ x ∈ p, x.block < W.heap.size := fun x hx => by simpa using hW'.lt x (by simpa using hx)
  have stays : ∀ W', Below W.heap.size W W' → DataW.TrodAll enc Tryd.prog W' 0 (fun b => decide (b < W.heap.size)) true Tryd.f3.params.toList args.toList ds p := fun W' hb =>
    trodAll_stays laidOut hb _ _ _ _ (by kernel_rfl) hA hlt
  clear hA0 hfz hnd hval0
  rw [Tryd.params3] at hA hval
  obtain ⟨v0, vs0, d0, ds0, p0, q0, hargs, rfl, rfl, h0, g0⟩ := trodAll_cons hA
  obtain ⟨v1, vs1, d1, ds1, p1, q1, rfl, rfl, rfl, h1, g1⟩ := trodAll_cons g0
  obtain ⟨v2, vs2, d2, ds2, p2, q2, rfl, rfl, rfl, h2, g2⟩ := trodAll_cons g1
  obtain ⟨v3, vs3, d3, ds3, p3, q3, rfl, rfl, rfl, h3, g3⟩ := trodAll_cons g2
  obtain ⟨v4, vs4, d4, ds4, p4, q4, rfl, rfl, rfl, h4, g4⟩ := trodAll_cons g3
  obtain ⟨v5, vs5, d5, ds5, p5, q5, rfl, rfl, rfl, h5, g5⟩ := trodAll_cons g4
  obtain ⟨rfl, rfl, rfl⟩ := trodAll_nil g5
  obtain rfl : args = #[v0, v1, v2, v3, v4, v5] := by cases args; simp_all
  obtain ⟨n0, rfl, rfl, rfl, r0⟩ := open_int Tryd.underlying5 (hval 0 5 v0 rfl rfl) h0
  have r0 := u8_range r0
  obtain ⟨n1, rfl, rfl, rfl, r1⟩ := open_int Tryd.underlying5 (hval 1 5 v1 rfl rfl) h1
  have r1 := u8_range r1
  obtain ⟨n2, rfl, rfl, rfl, r2⟩ := open_int Tryd.underlying5 (hval 2 5 v2 rfl rfl) h2
  have r2 := u8_range r2
  obtain ⟨n3, rfl, rfl, rfl, r3⟩ := open_int Tryd.underlying5 (hval 3 5 v3 rfl rfl) h3
  have r3 := u8_range r3
  obtain ⟨n4, rfl, rfl, rfl, r4⟩ := open_int Tryd.underlying3 (hval 4 3 v4 rfl rfl) h4
  have r4 := i64_range r4
  obtain ⟨n5, rfl, rfl, rfl, r5⟩ := open_int Tryd.underlying3 (hval 5 3 v5 rfl rfl) h5
  have r5 := i64_range r5
  clear hA hval
  refine (addrTexts ⟨r0.1, by omega⟩ ⟨r1.1, by omega⟩ ⟨r2.1, by omega⟩ ⟨r3.1, by omega⟩ hE).mono fun e W' ⟨he, hb⟩ => ?_
  subst he
  exact ⟨_, rfl, _, _, _, [], _, [], hW', trodAll_mk1 (shut_bool Tryd.underlying4 true), stays W' hb, rfl, hb.frame _, fun h => by cases h⟩

theorem addrTexts_holds : Rows.AddrTextsSaid :=
  OpenClaim.holds_of_wide 3 Tryd.f3 rfl rfl rfl rfl rfl rfl rfl ⟨rfl, rfl, rfl, rfl, rfl⟩ rfl rfl rfl rfl rfl (by kernel_rfl) Tryd.func3 (by kernel_rfl)
    (of_decide_eq_true (by kernel_rfl)) (by unfold Func.isWrapper; rw [if_neg (of_decide_eq_false (by kernel_rfl))]; exact ⟨rfl, rfl⟩)
    (fun os started H enc _ => addrTexts_lifted os started H enc)

theorem addrTexts_card : Rows.AddrTextsCardSaid :=
  Claim7.holds_tied_plain_at .later [] _ _ _ _
    addrTexts_holds (fun _ h => by cases h) (by kernel_rfl) (fun _ h => by cases h) addrTexts_row_tie rfl ⟨rfl, rfl⟩ (by kernel_rfl) rfl
    (fun f fn hf hfn => by
      obtain rfl : f = 3 := Option.some.inj ((show Tryd.prog.funcNamed Rows.addrTextsRow.func = some 3 by kernel_rfl).symm.trans hf) |>.symm
      obtain rfl : fn = Tryd.f3 := (Option.some.inj (Tryd.func3.symm.trans hfn)).symm
      exact ⟨by kernel_rfl, fun j t ht => by
        rw [Tryd.params3] at ht
        have h3 : t = 5 ∨ t = 3 := by
          rcases j with _ | _ | _ | _ | _ | _ | j
          · obtain rfl : 5 = t := by simpa using ht
            exact Or.inl rfl
          · obtain rfl : 5 = t := by simpa using ht
            exact Or.inl rfl
          · obtain rfl : 5 = t := by simpa using ht
            exact Or.inl rfl
          · obtain rfl : 5 = t := by simpa using ht
            exact Or.inl rfl
          · obtain rfl : 3 = t := by simpa using ht
            exact Or.inr (rfl)
          · obtain rfl : 3 = t := by simpa using ht
            exact Or.inr (rfl)
          · simp at ht
        rcases h3 with rfl | rfl
        · exact (show Tryd.prog.wantsStandIn 5 = false by kernel_rfl)
        · exact (show Tryd.prog.wantsStandIn 3 = false by kernel_rfl)⟩)
    (by kernel_rfl)
#print axioms addrTexts_card
end Go.Proofs.YtcdomcccdbdmhaaDoor
