/-
  Parts of addresses put together; what is thought ahead of some bytes (sum.ahead). No conditions.
-/
import Derived.Test.YtbikifaadpijnaaGreatDoorZ19
import Derived.Test.YtbikifaadpijnaaGreatDoorZ08
namespace Go.Proofs.YtbikifaadpijnaaGreatDoor
open Go.RowKit

/-- Some parts, their headers just laid. -/
theorem pieces_new {w : World} (ps : List Piece) (h : ∀ p ∈ ps, Bs w p.A p.n p.c p.l) (cs : Array Value) (hcs : cs.toList = ps.map Piece.v) (U : TypeId) : Pieces (w.alloc (.cells cs U)) w.heap.size ps := by
  have hb1 : Below w.heap.size w (w.alloc (.cells cs U)) := (Below.refl _ _).alloc (Nat.le_refl _) _
  intro i p hp
  refine ⟨?_, (h p (List.mem_of_getElem? hp)).later hb1 (Nat.le_refl _)⟩
  rw [World.cell?_alloc_at _ _ _ _ rfl, ← Array.getElem?_toList, hcs, List.getElem?_map, hp]
  rfl

end Go.Proofs.YtbikifaadpijnaaGreatDoor
