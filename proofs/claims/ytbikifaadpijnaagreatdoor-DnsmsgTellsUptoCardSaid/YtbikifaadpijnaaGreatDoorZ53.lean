/-
  DnsmsgTells, bounded: for every input that holds together at most 1048576 values and letters the law returns true, and its arguments read as they did. Conditions: that bound; those of the row (the listed variables of Go's library start as the program's text lays them), which the card ties to the text.
-/
import Derived.Test.YtbikifaadpijnaaGreatDoorZ52
import Derived.Test.YtbikifaadpijnaaGreatDoorZ49
import Derived.Test.YtbikifaadpijnaaGreatDoorZ51
import Derived.Test.YtbikifaadpijnaaGreatDoorCards
import Derived.Test.YtbikifaadpijnaaGreatDoorTie
import Derived.ProofKit
import Derived.SevenTiedAt
import Derived.Stop.Joined
import Derived.Deep.DeepHandedRow
namespace Go.Proofs.YtbikifaadpijnaaGreatDoor
open Go.ChangeShapes Go.WideShapes Go.RowKit

theorem dnsmsgTells_reads (os : Os) {H : Type} (enc : TypeId × Value → H) : DataW.whole enc Tryz.prog ((laidWorld8 os).forCall (fun _ _ => 0) ⟨#[], #[.slice none 0 0, .agg #[.int .i64 0, .bool false, .int .i64 0, .int .i64 0, .int .i64 0, .slice none 0 0, .slice none 0 0, .slice none 0 0, .slice none 0 0]], []⟩).memory Tryz.f3.params.toList Rows.dnsmsgTellsSpec.vars false (#[.slice none 0 0, .agg #[.int .i64 0, .bool false, .int .i64 0, .int .i64 0, .int .i64 0, .slice none 0 0, .slice none 0 0, .slice none 0 0, .slice none 0 0]] : Array Value).toList 8 = some ([.nil, .agg [.lit (.int .i64 0), .lit (.bool false), .lit (.int .i64 0), .lit (.int .i64 0), .lit (.int .i64 0), .nil, .nil, .nil, .nil]], [], []) := by kernel_rfl
set_option maxRecDepth 100000 in
theorem dnsmsgTells_lifted (os : Os) (started : os.Started) (H : Type) (enc : TypeId × Value → H) (F : Stop.Interp) :
    ReturnsInHanded {} Tryz.checked os 3 .any ((Rows.OpenSpec.upto Rows.dnsmsgTellsSpec).preRow enc Tryz.prog Tryz.f3 Rows.dnsmsgTellsUptoRow.domain false Rows.dnsmsgTellsUptoRow.laid) (((Rows.OpenSpec.upto Rows.dnsmsgTellsSpec).at F).post enc Tryz.prog Tryz.f3 false true false false) := by
  have hok : Input.okWideB Tryz.checked.prog ((laidWorld8 os).forCall (fun _ _ => 0) ⟨#[], #[.slice none 0 0, .agg #[.int .i64 0, .bool false, .int .i64 0, .int .i64 0, .int .i64 0, .slice none 0 0, .slice none 0 0, .slice none 0 0, .slice none 0 0]], []⟩) 3 ⟨#[], #[.slice none 0 0, .agg #[.int .i64 0, .bool false, .int .i64 0, .int .i64 0, .int .i64 0, .slice none 0 0, .slice none 0 0, .slice none 0 0, .slice none 0 0]], []⟩ = true := by kernel_rfl
  refine returnsInHanded_of_row (C := Tryz.checked) (s := Rows.OpenSpec.upto Rows.dnsmsgTellsSpec) own started (by kernel_rfl) Tryz.func3
    ⟨laidWorld8 os, fun _ _ => 0, ⟨#[], #[.slice none 0 0, .agg #[.int .i64 0, .bool false, .int .i64 0, .int .i64 0, .int .i64 0, .slice none 0 0, .slice none 0 0, .slice none 0 0, .slice none 0 0]], []⟩, laidWorld8_os os, laidWorld8_shaped os _, (Input.okWide_of_okWideB (base := 0) hok).1, (Input.okWide_of_okWideB hok).2,
      OpenSpec.preRow_of_cond 8 (dnsmsgTells_reads os enc) (by kernel_rfl) (fun k hk => by cases hk; kernel_rfl) (by kernel_rfl) (laidWorld8_met os _), by
        simp only [Assume.holds]
        exact ⟨by simp, by simp, fun _ => Modest.zero, by simp, by simp⟩⟩ ?_
  intro W base args ds gs before hval0 hW _ hcond _ hL hsh _
  have hk : Rows.uptoSmall H (ds ++ gs) = true := hcond _ rfl
  have hval : ∀ (j : Nat) t v, Tryz.f3.params[j]? = some t → args[j]? = some v → Value.okWide Tryz.prog W .any base t v := hval0
  have hW' := hW
  obtain ⟨p, q, hA0, hV0, rfl, hfz, hnd⟩ := hW
  have hA : DataW.TrodAll enc Tryz.prog W 0 (fun _ => true) true Tryz.f3.params.toList args.toList ds p := hA0
  have hV : DataW.TrodVars enc Tryz.prog W (fun _ => true) [] gs q := hV0
  have hE := env_of_laid hsh
  have hg := handle_of_laid8 hL
  obtain ⟨rfl, rfl⟩ : gs = [] ∧ q = [] := by
    cases gs with
    | nil => exact ⟨rfl, hV⟩
    | cons g r => exact absurd hV (by intro h; cases h)
  have hlt : ∀ x ∈ p, x.block < W.heap.size := fun x hx => by simpa using hW'.lt x (by simpa using hx)
  have stays : ∀ W', Below W.heap.size W W' → DataW.TrodAll enc Tryz.prog W' 0 (fun b => decide (b < W.heap.size)) true Tryz.f3.params.toList args.toList ds p := fun W' hb =>
    trodAll_stays laidOut hb _ _ _ _ (by kernel_rfl) hA hlt
  clear hA0 hfz hnd hval0 hcond
  rw [Tryz.params3] at hA hval
  obtain ⟨v0, vs0, d0, ds0, p0, q0, hargs, rfl, rfl, h0, g0⟩ := trodAll_cons hA
  obtain ⟨v1, vs1, d1, ds1, p1, q1, rfl, rfl, rfl, h1, g1⟩ := trodAll_cons g0
  obtain ⟨rfl, rfl, rfl⟩ := trodAll_nil g1
  obtain rfl : args = #[v0, v1] := by cases args; simp_all
  obtain ⟨A0, c0, m0, l0, rfl, hb0⟩ := bytes_of (hval 0 22 v0 rfl rfl) h0
  obtain ⟨sq1, sa1, su1, se1, m1, rfl, hm1, ha1, hbk⟩ := message_ofB (hval 1 26 v1 rfl rfl) h1
  have hbulk : Rows.uptoBulkAll ([d0, d1] ++ []) ≤ 1048576 := of_decide_eq_true hk
  simp only [List.append_nil, Rows.uptoBulkAll] at hbulk
  have htt : ∀ r ∈ recs m1, 0 ≤ r.ttl ∧ r.ttl < 4294967296 := fun r hr => by
    unfold recs at hr
    rcases List.mem_append.1 hr with h | h
    · exact (ha1.an r h).1
    rcases List.mem_append.1 h with h | h
    · exact (ha1.au r h).1
    · exact (ha1.ex r h).1
  clear hA hval hk
  refine (dnsmsgTells hb0 hm1 htt (by omega) (by omega) (by omega) (by omega) hE hg).mono fun e W' ⟨he, hb⟩ => ?_
  subst he
  exact ⟨_, rfl, _, _, _, [], _, [], hW', trodAll_mk1 (shut_bool Tryz.underlying4 true), stays W' hb, rfl, hb.frame _, fun h => by cases h⟩

theorem dnsmsgTellsUpto_holds : Rows.DnsmsgTellsUptoSaid :=
  OpenClaim.holds_of_cond 3 Tryz.f3 rfl rfl rfl rfl rfl rfl rfl ⟨rfl, rfl, rfl, rfl, rfl⟩ rfl rfl rfl rfl rfl (by kernel_rfl) Tryz.func3 (by kernel_rfl)
    (of_decide_eq_true (by kernel_rfl)) (by unfold Func.isWrapper; rw [if_neg (of_decide_eq_false (by kernel_rfl))]; exact ⟨rfl, rfl⟩)
    (fun os started H enc _ F => by rw [OpenClaim.pre_eq_preRow]; exact dnsmsgTells_lifted os started H enc F)

theorem dnsmsgTellsUpto_card : Rows.DnsmsgTellsUptoCardSaid :=
  Claim7.holds_tied_plain_at .later [] _ _ _ _
    dnsmsgTellsUpto_holds (fun _ h => by cases h) (by kernel_rfl) (fun _ h => by cases h) dnsmsgTellsUpto_row_tie rfl ⟨rfl, rfl⟩ (by kernel_rfl) rfl
    (fun f fn hf hfn => by
      obtain rfl : f = 3 := Option.some.inj ((show Tryz.prog.funcNamed Rows.dnsmsgTellsUptoRow.func = some 3 by kernel_rfl).symm.trans hf) |>.symm
      obtain rfl : fn = Tryz.f3 := (Option.some.inj (Tryz.func3.symm.trans hfn)).symm
      exact ⟨by kernel_rfl, fun j t ht => by
        rw [Tryz.params3] at ht
        have h3 : t = 22 ∨ t = 26 := by
          rcases j with _ | _ | j
          · obtain rfl : 22 = t := by simpa using ht
            exact Or.inl rfl
          · obtain rfl : 26 = t := by simpa using ht
            exact Or.inr (rfl)
          · simp at ht
        rcases h3 with rfl | rfl
        · exact (show Tryz.prog.wantsStandIn 22 = false by kernel_rfl)
        · exact (show Tryz.prog.wantsStandIn 26 = false by kernel_rfl)⟩)
    (by kernel_rfl)
#print axioms dnsmsgTellsUpto_card
end Go.Proofs.YtbikifaadpijnaaGreatDoor
