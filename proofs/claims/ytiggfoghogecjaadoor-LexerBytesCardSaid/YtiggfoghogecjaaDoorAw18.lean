/-
  Package stockadelaw18's awake. No conditions.
-/
import Derived.Test.YtiggfoghogecjaaDoorLx18
namespace Go.Proofs.YtiggfoghogecjaaDoor
open Go.RowKit
set_option maxRecDepth 100000

set_option maxHeartbeats 1000000 in
theorem awake18 (w : World) : Calls Tryd.prog 5 #[] w fun e w' => e = .returned (.bool true) ∧ Below w.heap.size w w' := by
  have K := Lib.hid (tokens18 ⟨#[97, 32, 98]⟩ (by decide) w)
  have hv : lexM .gap 0 1 (⟨#[97, 32, 98]⟩ : ByteArray).data.toList = .inr [⟨true, 0, 1, [97]⟩, ⟨true, 2, 1, [98]⟩, ⟨false, 3, 1, []⟩] := by rfl
  have HV := Lib.hid hv
  clear hv
  go_enter Tryd.func5, Tryd.ntmps5
  go_wp2_with fail
  refine K.out.mono ?_
  rintro e w' ⟨v, rfl, hr, hb⟩
  rw [HV.out] at hr
  obtain ⟨r, rfl, ho⟩ := hr
  obtain ⟨g, c, rfl, hc⟩ := ho.head (by simp)
  have c1 : w'.cell? ⟨g, 7, none⟩ = some (.string ⟨#[98]⟩) := (tk_at (hc 1 _ rfl)).2.2.2
  have c2 : w'.cell? ⟨g, 8, none⟩ = some (.int .i64 2) := (tk_at (hc 2 _ rfl)).1
  have HB := Lib.hid hb
  clear hb ho hc
  go_wp2_with fail
  go_ret
  exact ⟨rfl, HB.out⟩
end Go.Proofs.YtiggfoghogecjaaDoor
