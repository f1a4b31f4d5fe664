/-
  stockadelaw12.NameBytes answers true, whatever is handed in. Conditions: what the program's text has laid (internal/bytealg.MaxLen holds an int; errors.errorType holds the handle of the type error).
-/
import Derived.Test.YthhfmjdknoplkaaDoorN12LabelsW
import Derived.Deep.DeepCutAuto
import Derived.IntWalk
namespace Go.Proofs.YthhfmjdknoplkaaDoor
open Go.RowKit
set_option maxRecDepth 100000

theorem byte_names {p : List UInt8} (h60 : p.length ≤ 60) (hfull : rightN (97 :: p)) : ∃ f f2 f3 f4 f5 : ByteArray, ((⟨#[97]⟩ : ByteArray) ++ mkS p = f ∧ f ++ ⟨#[46]⟩ = f2 ∧ (⟨#[46]⟩ : ByteArray) ++ f = f3 ∧ f ++ ⟨#[46, 46]⟩ = f4 ∧ f4 ++ f = f5 ∧ ¬ 9223372036854775807 < f.size + 1 ∧ ¬ 9223372036854775807 < 1 + f.size ∧ ¬ 9223372036854775807 < f.size + 2 ∧ ¬ 9223372036854775807 < f4.size + f.size) ∧
    (f.size ≤ 1000 ∧ rightN f.data.toList) ∧ (f2.size ≤ 1000 ∧ ¬ rightN f2.data.toList) ∧ (f3.size ≤ 1000 ∧ ¬ rightN f3.data.toList) ∧ (f5.size ≤ 1000 ∧ ¬ rightN f5.data.toList) := by
  refine ⟨mkS (97 :: p), mkS ((97 :: p) ++ [46]), mkS (46 :: 97 :: p), mkS ((97 :: p) ++ [46, 46]), mkS ((97 :: p) ++ 46 :: 46 :: 97 :: p), ⟨mkS_append [97] p, mkS_append _ [46], mkS_append [46] _, mkS_append _ [46, 46], by rw [mkS_append]; simp, ?_, ?_, ?_, ?_⟩, ⟨?_, by rw [mkS_data]; exact hfull⟩, ⟨?_, by rw [mkS_data]; exact dot_behind _⟩, ⟨?_, by rw [mkS_data]; exact dot_ahead _⟩, ⟨?_, by rw [mkS_data]; exact dots_between _ _⟩⟩
  all_goals
    simp only [mkS_size, List.length_cons, List.length_append, List.length_nil]
    omega
end Go.Proofs.YthhfmjdknoplkaaDoor
