/-
  DnsmsgEnds: for every input the law returns true, and its arguments read as they did. Conditions: those of the row (the listed variables of Go's library start as the program's text lays them), which the card ties to the text.
-/
import Derived.Test.YtpojiimcdknafaaGreatDoorZ51
import Derived.Test.YtpojiimcdknafaaGreatDoorZ49
import Derived.Test.YtpojiimcdknafaaGreatDoorZ50
import Derived.Test.YtpojiimcdknafaaGreatDoorCards
import Derived.Test.YtpojiimcdknafaaGreatDoorTie
import Derived.ProofKit
import Derived.SevenTiedAt
namespace Go.Proofs.YtpojiimcdknafaaGreatDoor
open Go.ChangeShapes Go.WideShapes Go.RowKit

set_option maxRecDepth 100000 in
theorem dnsmsgEnds_lifted (os : Os) (started : os.Started) (H : Type) (enc : TypeId × Value → H) :
    ReturnsInHanded {} Tryz.checked os 6 .any (fun w args => (Rows.dnsmsgEndsSpec.pre enc Tryz.prog Tryz.f6 [] false w args ∧ laidMetH Tryz.prog laid8 w) ∧ sizedMet enc Tryz.prog Tryz.f6 (OpenSpec.ofChange Rows.dnsmsgEndsSpec) false w args)
      (Rows.dnsmsgEndsSpec.post enc Tryz.prog Tryz.f6 false true false false) := by
  refine wrap_and_shaped (C := Tryz.checked) (X := fun w _ => laidMetH Tryz.prog laid8 w) (fun _ _ _ hh h => h.of_heap hh) own started (by kernel_rfl) Tryz.func6
    (ChangeSpec.witness_shaped (enc := enc) (C := Tryz.checked) (os := os) (X := fun w _ => laidMetH Tryz.prog laid8 w) false (laidWorld8 os) #[.agg #[.int .i64 0, .bool false, .int .i64 0, .int .i64 0, .int .i64 0, .slice none 0 0, .slice none 0 0, .slice none 0 0, .slice none 0 0], .slice none 0 0, .int .i64 0, .int .i64 0] 8 (laidWorld8_os os) (laidWorld8_shaped os _) (by kernel_rfl) (by kernel_rfl) (by kernel_rfl) (laidWorld8_met os _)) ?_
  intro W base args ds gs before hval0 hW hL hsh
  have hval : ∀ (j : Nat) t v, Tryz.f6.params[j]? = some t → args[j]? = some v → Value.okWide Tryz.prog W .any base t v := hval0
  have hW' := hW
  obtain ⟨p, q, hA0, hV0, rfl, hfz, hnd⟩ := hW
  have hA : DataW.TrodAll enc Tryz.prog W 0 (fun _ => true) true Tryz.f6.params.toList args.toList ds p := hA0
  have hV : DataW.TrodVars enc Tryz.prog W (fun _ => true) [] gs q := hV0
  have hE := env_of_laid hsh
  have hg := handle_of_laid8 hL
  obtain ⟨rfl, rfl⟩ : gs = [] ∧ q = [] := by
    cases gs with
    | nil => exact ⟨rfl, hV⟩
    | cons g r => exact absurd hV (by intro h; cases h)
  have hlt : ∀ x ∈ p, x.block < W.heap.size := fun x hx => by simpa using hW'.lt x (by simpa using hx)
  have stays : ∀ W', Below W.heap.size W W' → DataW.TrodAll enc Tryz.prog W' 0 (fun b => decide (b < W.heap.size)) true Tryz.f6.params.toList args.toList ds p := fun W' hb =>
    trodAll_stays laidOut hb _ _ _ _ (by kernel_rfl) hA hlt
  clear hA0 hfz hnd hval0
  rw [Tryz.params6] at hA hval
  obtain ⟨v0, vs0, d0, ds0, p0, q0, hargs, rfl, rfl, h0, g0⟩ := trodAll_cons hA
  obtain ⟨v1, vs1, d1, ds1, p1, q1, rfl, rfl, rfl, h1, g1⟩ := trodAll_cons g0
  obtain ⟨v2, vs2, d2, ds2, p2, q2, rfl, rfl, rfl, h2, g2⟩ := trodAll_cons g1
  obtain ⟨v3, vs3, d3, ds3, p3, q3, rfl, rfl, rfl, h3, g3⟩ := trodAll_cons g2
  obtain ⟨rfl, rfl, rfl⟩ := trodAll_nil g3
  obtain rfl : args = #[v0, v1, v2, v3] := by cases args; simp_all
  obtain ⟨sq0, sa0, su0, se0, m0, rfl, hm0, ha0⟩ := message_of (hval 0 59 v0 rfl rfl) h0
  obtain ⟨A1, c1, m1, l1, rfl, hb1⟩ := bytes_of (hval 1 22 v1 rfl rfl) h1
  obtain ⟨n2, rfl, rfl, rfl, r2⟩ := open_int Tryz.underlying3 (hval 2 3 v2 rfl rfl) h2
  have r2 := i64_range r2
  obtain ⟨n3, rfl, rfl, rfl, r3⟩ := open_int Tryz.underlying3 (hval 3 3 v3 rfl rfl) h3
  have r3 := i64_range r3
  clear hA hval
  refine (dnsmsgEnds n2 n3 hm0 ha0 hb1 hE hg).mono fun e W' ⟨he, hb⟩ => ?_
  subst he
  exact ⟨_, rfl, _, _, _, [], _, [], hW', trodAll_mk1 (shut_bool Tryz.underlying4 true), stays W' hb, rfl, hb.frame _, fun h => by cases h⟩

theorem dnsmsgEnds_holds : Rows.DnsmsgEndsSaid :=
  OpenClaim.holds_of_wide 6 Tryz.f6 rfl rfl rfl rfl rfl rfl rfl ⟨rfl, rfl, rfl, rfl, rfl⟩ rfl rfl rfl rfl rfl (by kernel_rfl) Tryz.func6 (by kernel_rfl)
    (of_decide_eq_true (by kernel_rfl)) (by unfold Func.isWrapper; rw [if_neg (of_decide_eq_false (by kernel_rfl))]; exact ⟨rfl, rfl⟩)
    (fun os started H enc _ => dnsmsgEnds_lifted os started H enc)

theorem dnsmsgEnds_card : Rows.DnsmsgEndsCardSaid :=
  Claim7.holds_tied_plain_at .later [] _ _ _ _
    dnsmsgEnds_holds (fun _ h => by cases h) (by kernel_rfl) (fun _ h => by cases h) dnsmsgEnds_row_tie rfl ⟨rfl, rfl⟩ (by kernel_rfl) rfl
    (fun f fn hf hfn => by
      obtain rfl : f = 6 := Option.some.inj ((show Tryz.prog.funcNamed Rows.dnsmsgEndsRow.func = some 6 by kernel_rfl).symm.trans hf) |>.symm
      obtain rfl : fn = Tryz.f6 := (Option.some.inj (Tryz.func6.symm.trans hfn)).symm
      exact ⟨by kernel_rfl, fun j t ht => by
        rw [Tryz.params6] at ht
        have h3 : t = 59 ∨ t = 22 ∨ t = 3 := by
          rcases j with _ | _ | _ | _ | j
          · obtain rfl : 59 = t := by simpa using ht
            exact Or.inl rfl
          · obtain rfl : 22 = t := by simpa using ht
            exact Or.inr (Or.inl rfl)
          · obtain rfl : 3 = t := by simpa using ht
            exact Or.inr (Or.inr (rfl))
          · obtain rfl : 3 = t := by simpa using ht
            exact Or.inr (Or.inr (rfl))
          · simp at ht
        rcases h3 with rfl | rfl | rfl
        · exact (show Tryz.prog.wantsStandIn 59 = false by kernel_rfl)
        · exact (show Tryz.prog.wantsStandIn 22 = false by kernel_rfl)
        · exact (show Tryz.prog.wantsStandIn 3 = false by kernel_rfl)⟩)
    (by kernel_rfl)
#print axioms dnsmsgEnds_card
end Go.Proofs.YtpojiimcdknafaaGreatDoor
