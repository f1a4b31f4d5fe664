/-
  PLAIN: entries by their ids, as a table; moved, cancelled. No conditions.
-/
import Derived.Test.YtdpmjbhkmfjpfaaDoorPurE17
namespace Go.Proofs.YtdpmjbhkmfjpfaaDoor

/-- The entries of a table: at each id one of that id, or none. -/
def Mh (K : Nat) (h : Nat → Option Int) : List En := (List.range K).filterMap fun j => (h j).map fun t => (⟨(j : Int), t⟩ : En)
theorem Mh.mem {K : Nat} {h : Nat → Option Int} {e : En} : e ∈ Mh K h ↔ ∃ j : Nat, j < K ∧ h j = some e.at_ ∧ e.id = j := by
  unfold Mh
  rw [List.mem_filterMap]
  constructor
  · rintro ⟨j, hj, he⟩
    rw [Option.map_eq_some_iff] at he
    obtain ⟨t, ht, rfl⟩ := he
    exact ⟨j, List.mem_range.1 hj, ht, rfl⟩
  · rintro ⟨j, hj, h1, h2⟩
    refine ⟨j, List.mem_range.2 hj, ?_⟩
    rw [h1]
    obtain ⟨i, t⟩ := e
    dsimp only at h2
    rw [h2]
    rfl
theorem Mh.has {K : Nat} {h : Nat → Option Int} {i : Nat} : hasV (Mh K h) i = decide (i < K ∧ (h i).isSome = true) := by
  by_cases hc : i < K ∧ (h i).isSome = true
  · rw [decide_eq_true hc]
    obtain ⟨t, ht⟩ := Option.isSome_iff_exists.1 hc.2
    exact hasV_iff.2 ⟨⟨i, t⟩, Mh.mem.2 ⟨i, hc.1, ht, rfl⟩, rfl⟩
  · rw [decide_eq_false hc]
    refine Bool.eq_false_iff.2 fun h2 => hc ?_
    obtain ⟨e, he, h3⟩ := hasV_iff.1 h2
    obtain ⟨j, hj, h4, h5⟩ := Mh.mem.1 he
    obtain rfl : j = i := by omega
    exact ⟨hj, by rw [h4]; rfl⟩
theorem filterMap_congr' {α β : Type} {f g : α → Option β} : ∀ {l : List α}, (∀ x ∈ l, f x = g x) → l.filterMap f = l.filterMap g
  | [], _ => rfl
  | a :: l, h => by
    rw [List.filterMap_cons, List.filterMap_cons, h a (List.mem_cons_self ..), filterMap_congr' fun x hx => h x (List.mem_cons_of_mem _ hx)]
theorem Mh.congr {K : Nat} {h k : Nat → Option Int} (e : ∀ j, j < K → h j = k j) : Mh K h = Mh K k :=
  filterMap_congr' fun j hj => by rw [e j (List.mem_range.1 hj)]
theorem Mh.move {K : Nat} {h : Nat → Option Int} (i : Nat) (t : Int) : moveE (Mh K h) i t = Mh K fun j => if j = i then (h j).map fun _ => t else h j := by
  unfold moveE Mh
  rw [List.map_filterMap]
  refine filterMap_congr' fun j _ => ?_
  dsimp only
  generalize h j = x
  cases x with
  | none => by_cases hj : j = i <;> simp [hj]
  | some u =>
    by_cases hj : j = i
    · subst hj
      simp
    · have h2 : ¬ ((j : Int) = (i : Int)) := by omega
      simp [hj, h2]
theorem Mh.cancel {K : Nat} {h : Nat → Option Int} (i : Nat) : cancelE (Mh K h) i = Mh K fun j => if j = i then none else h j := by
  unfold cancelE Mh
  rw [List.filter_filterMap]
  refine filterMap_congr' fun j _ => ?_
  dsimp only
  generalize h j = x
  cases x with
  | none => by_cases hj : j = i <;> simp [hj]
  | some u =>
    by_cases hj : j = i
    · subst hj
      simp
    · have h2 : ¬ ((j : Int) = (i : Int)) := by omega
      simp [hj, Option.filter, h2]
theorem Mh.succ (K : Nat) (h : Nat → Option Int) : Mh (K + 1) h = Mh K h ++ ((h K).map fun t => (⟨(K : Int), t⟩ : En)).toList := by
  unfold Mh
  rw [List.range_succ, List.filterMap_append]
  cases hk : h K <;> simp [hk]
end Go.Proofs.YtdpmjbhkmfjpfaaDoor
