/-
  
-/
import Derived.Below
import Derived.Deep.MidRow
import Derived.Deep.WholeRow
import Derived.Laws.CopyOwn
import Derived.Laws.MakeOwn
import Derived.Lib.Hide
import Derived.RowKit
namespace Go.Proofs.YtoagfmonfgagbaaGreatDoor
open Go.RowKit
def Row (w : World) (g : Nat) (T : TypeId) (vs : List Value) : Prop := w.heap[g]? = some (.cells vs.toArray T (0, 0))
section
variable {w w' : World} {g : Nat} {T : TypeId} {vs : List Value}
theorem Row.lt (h : Row w g T vs) : g < w.heap.size := (Array.getElem?_eq_some_iff.1 h).1
theorem Row.later {B : Nat} (h : Row w g T vs) (hb : Below B w w') (hB : w.heap.size ≤ B) : Row w' g T vs := (hb.block g (by have := h.lt; omega)).trans h
theorem Row.new (w : World) (cs : Array Value) (T : TypeId) : Row (w.alloc (.cells cs T)) w.heap.size T cs.toList := heap_alloc_last w _
theorem Row.new' (w : World) {cs : Array Value} {vs : List Value} (T : TypeId) (h : cs.toList = vs) : Row (w.alloc (.cells cs T)) w.heap.size T vs := h ▸ Row.new w cs T
theorem Row.get (h : Row w g T vs) (i : Nat) : w.cell? ⟨g, i, none⟩ = vs[i]? := by rw [cell_of_row w g i _ _ _ h]; simp
theorem Row.cell (h : Row w g T vs) {i : Nat} {v : Value} (hi : vs[i]? = some v) : w.cell? ⟨g, i, none⟩ = some v := by rw [h.get i, hi]
theorem Row.frozen (h : Row w g T vs) (i : Nat) : w.frozen? ⟨g, i, none⟩ = false := by unfold Row at h; simp [World.frozen?, h]
theorem Row.put (h : Row w g T vs) (i : Nat) (v : Value) : Row (w.setCell ⟨g, i, none⟩ v) g T (vs.set i v) := by
  rw [setCell_eq_setRow w g i _ _ _ _ h]
  have := setRow_heap w g _ ((vs.toArray).setIfInBounds i v) _ _ h
  simpa [Row] using this
theorem Row.far (h : Row w g T vs) {p : Addr} (hp : g ≠ p.block) (v : Value) : Row (w.setCell p v) g T vs := (Below.heap_setCell w p v g hp).trans h
end
def iv (ns : List Nat) : List Value := ns.map fun (n : Nat) => Value.int .i64 (n : Int)
def sv (xs : List ByteArray) : List Value := xs.map .string
theorem iv_length (ns : List Nat) : (iv ns).length = ns.length := by simp [iv]
theorem iv_at {ns : List Nat} {i n : Nat} (h : ns[i]? = some n) : (iv ns)[i]? = some (.int .i64 n) := by simp [iv, h]
theorem sv_at {xs : List ByteArray} {i : Nat} {x : ByteArray} (h : xs[i]? = some x) : (sv xs)[i]? = some (.string x) := by simp [sv, h]
theorem iv_set (ns : List Nat) (i n : Nat) : (iv ns).set i (.int .i64 n) = iv (ns.set i n) := by simp [iv, List.map_set]
theorem sv_set (xs : List ByteArray) (i : Nat) (x : ByteArray) : (sv xs).set i (.string x) = sv (xs.set i x) := by simp [sv, List.map_set]
theorem iv_made (n : Nat) : (madeCells #[.int .i64 0] n).toList = iv (List.replicate n 0) := by rw [toList_madeCells_one]; simp [iv]
theorem sv_made (n : Nat) : (madeCells #[.string ByteArray.empty] n).toList = sv (List.replicate n ByteArray.empty) := by rw [toList_madeCells_one]; simp [sv]
def allv (rd : List UInt8 → Option Nat) : List (List UInt8) → Option (List Nat)
  | [] => some []
  | x :: r => (rd x).bind fun n => (allv rd r).map fun ns => n :: ns
theorem allv_append (rd : List UInt8 → Option Nat) (l m : List (List UInt8)) : allv rd (l ++ m) = (allv rd l).bind fun a => (allv rd m).map fun b => a ++ b := by
  induction l with
  | nil => cases h : allv rd m <;> simp [allv, h]
  | cons x r ih =>
    simp only [List.cons_append, allv, ih]
    cases rd x <;> cases allv rd r <;> cases allv rd m <;> simp
theorem allv_length {rd : List UInt8 → Option Nat} : ∀ {l : List (List UInt8)} {ns : List Nat}, allv rd l = some ns → ns.length = l.length
  | [], ns, h => by obtain rfl := Option.some.inj h; rfl
  | x :: r, ns, h => by
    simp only [allv] at h
    cases h1 : rd x <;> cases h2 : allv rd r <;> rw [h1, h2] at h
    · cases h
    · cases h
    · cases h
    · obtain rfl := Option.some.inj h
      rw [List.length_cons, List.length_cons, allv_length h2]
theorem allv_lt {rd : List UInt8 → Option Nat} {b : Nat} (hrd : ∀ l n, rd l = some n → n < b) : ∀ {l : List (List UInt8)} {ns : List Nat}, allv rd l = some ns → ∀ n ∈ ns, n < b
  | [], ns, h => by obtain rfl := Option.some.inj h; intro n hn; cases hn
  | x :: r, ns, h => by
    simp only [allv] at h
    cases h1 : rd x <;> cases h2 : allv rd r <;> rw [h1, h2] at h
    · cases h
    · cases h
    · cases h
    · obtain rfl := Option.some.inj h
      intro n hn
      rcases List.mem_cons.1 hn with rfl | hn
      · exact hrd _ _ h1
      · exact allv_lt hrd h2 n hn
theorem set_done (a : List Nat) (n m : Nat) : (a ++ List.replicate (m + 1) 0).set a.length n = (a ++ [n]) ++ List.replicate m 0 := by
  rw [List.replicate_succ, List.set_append_right _ _ (Nat.le_refl _)]
  simp
end Go.Proofs.YtoagfmonfgagbaaGreatDoor
