/-
  
-/
import Derived.Test.YtoagfmonfgagbaaGreatDoorChecked
import Derived.Below
import Derived.Lib.Hide
import Derived.Lib.SmallJoins
import Derived.Lib.ItoaNum
import Derived.Lib.LaidTab
namespace Go.Proofs.YtoagfmonfgagbaaGreatDoor
open Go.RowKit
set_option maxRecDepth 100000
structure Env (w : World) : Prop where
  maxLen : ∃ m, w.cell? ⟨2, 0, none⟩ = some (.int .i64 m)
  syn : ∃ p, w.cell? ⟨6, 0, none⟩ = some (.iface 238 (.pointer (some p)))
  pow : Lib.TabIs Tryz.prog w "internal/strconv.uint64pow10" .u64 Lib.pow10Tab
  four : w.cell? ⟨5, 15, none⟩ = some (.int .u8 4)
theorem lt_cell {w : World} {b o : Nat} {p : Option Nat} {v : Value} (h : w.cell? ⟨b, o, p⟩ = some v) : b < w.heap.size := by
  rcases Nat.lt_or_ge b w.heap.size with h' | h'
  · exact h'
  · simp [World.cell?, Array.getElem?_eq_none h'] at h
theorem Env.later {w w' : World} (h : Env w) {B : Nat} (hb : Below B w w') (hB : w.heap.size ≤ B) : Env w' := by
  have hc : ∀ (b o : Nat) (v : Value), w.cell? ⟨b, o, none⟩ = some v → w'.cell? ⟨b, o, none⟩ = some v := fun b o v h => by
    rw [hb.cell (p := ⟨b, o, none⟩) (by have := lt_cell h; show b < B; omega)]; exact h
  refine ⟨h.maxLen.imp fun _ h => hc _ _ _ h, h.syn.imp fun _ h => hc _ _ _ h, ?_, hc _ _ _ h.four⟩
  exact Go.Joins.var_stays (g := 3) (by kernel_rfl) h.pow hb hB
end Go.Proofs.YtoagfmonfgagbaaGreatDoor
