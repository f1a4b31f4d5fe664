/-
  PLAIN: lists of entries in order: where an entry goes, what is due, what is gone. No conditions.
-/
import Derived.Test.YtdpmjbhkmfjpfaaDoorSpec17
namespace Go.Proofs.YtdpmjbhkmfjpfaaDoor

def SortedE (xs : List En) : Prop := xs.Pairwise En.lt
/-- Where an id stands; -1. -/
def idxv (xs : List En) (id : Int) : Int := match xs.findIdx? (fun e => e.id == id) with | some i => (i : Int) | none => -1
theorem idxv_no {xs : List En} {id : Int} (h : ∀ (j : Nat) (e : En), xs[j]? = some e → (e.id == id) = false) : idxv xs id = -1 := by
  unfold idxv
  rw [List.findIdx?_eq_none_iff.2 fun e he => ?_]
  obtain ⟨j, hj⟩ := List.getElem?_of_mem he
  exact h j e hj
theorem idxv_at {xs : List En} {id : Int} {k : Nat} {e : En} (hk : xs[k]? = some e) (he : (e.id == id) = true) (h : ∀ (j : Nat) (e : En), j < k → xs[j]? = some e → (e.id == id) = false) : idxv xs id = k := by
  unfold idxv
  obtain ⟨hlt, hv⟩ := List.getElem?_eq_some_iff.1 hk
  rw [show xs.findIdx? (fun e => e.id == id) = some k from List.findIdx?_eq_some_iff_getElem.2 ⟨hlt, by rw [hv]; exact he, fun j hj => ?_⟩]
  have := h j (xs[j]'(by omega)) hj (List.getElem?_eq_getElem _)
  simp [this]
theorem idxv_cases (xs : List En) (id : Int) : (idxv xs id = -1 ∧ hasV xs id = false) ∨ ∃ (k : Nat) (e : En), idxv xs id = k ∧ xs[k]? = some e ∧ e.id = id ∧ hasV xs id = true := by
  unfold idxv
  cases hf : xs.findIdx? (fun e => e.id == id) with
  | none =>
    refine .inl ⟨rfl, ?_⟩
    rw [List.findIdx?_eq_none_iff] at hf
    unfold hasV
    rw [List.any_eq_false]
    intro e he
    simpa using hf e he
  | some k =>
    obtain ⟨hlt, hv, _⟩ := List.findIdx?_eq_some_iff_getElem.1 hf
    exact .inr ⟨k, xs[k], rfl, List.getElem?_eq_getElem hlt, by simpa using hv, hasV_iff.2 ⟨_, List.getElem_mem hlt, by simpa using hv⟩⟩
/-- So far they are ahead of x, from there on they are not. -/
def Parts (xs : List En) (p : En → Prop) (i : Nat) : Prop := i ≤ xs.length ∧ ∀ (k : Nat) (e : En), xs[k]? = some e → (k < i ↔ p e)
theorem sorted_get {xs : List En} (hs : SortedE xs) {i j : Nat} {a b : En} (hi : xs[i]? = some a) (hj : xs[j]? = some b) (hij : i < j) : En.lt a b := by
  obtain ⟨h1, rfl⟩ := List.getElem?_eq_some_iff.1 hi
  obtain ⟨h2, rfl⟩ := List.getElem?_eq_some_iff.1 hj
  exact List.pairwise_iff_getElem.1 hs i j h1 h2 hij
theorem mem_take_get {xs : List En} {i : Nat} {a : En} (h : a ∈ xs.take i) : ∃ k, k < i ∧ xs[k]? = some a := by
  obtain ⟨k, hk⟩ := List.getElem?_of_mem h
  rw [List.getElem?_take] at hk
  split at hk
  · exact ⟨k, by assumption, hk⟩
  · cases hk
theorem mem_drop_get {xs : List En} {i : Nat} {a : En} (h : a ∈ xs.drop i) : ∃ k, i ≤ k ∧ xs[k]? = some a := by
  obtain ⟨k, hk⟩ := List.getElem?_of_mem h
  rw [List.getElem?_drop] at hk
  exact ⟨i + k, by omega, hk⟩
/-- In its place. -/
theorem ins_sorted {xs : List En} {x : En} {i : Nat} (hs : SortedE xs) (hp : Parts xs (fun e => En.lt e x) i) (hx : ∀ e ∈ xs, e.id ≠ x.id) : SortedE (xs.take i ++ x :: xs.drop i) := by
  have h0 : SortedE (xs.take i ++ xs.drop i) := by rw [List.take_append_drop]; exact hs
  have h1 := List.pairwise_append.1 h0
  refine List.pairwise_append.2 ⟨h1.1, List.pairwise_cons.2 ⟨fun b hb => ?_, h1.2.1⟩, fun a ha b hb => ?_⟩
  · obtain ⟨k, hk, hg⟩ := mem_drop_get hb
    have h2 : ¬ En.lt b x := fun h => by have := (hp.2 k b hg).2 h; omega
    have h3 := hx b (List.mem_of_getElem? hg)
    unfold En.lt at *
    omega
  · rcases List.mem_cons.1 hb with rfl | hb
    · obtain ⟨k, hk, hg⟩ := mem_take_get ha
      exact (hp.2 k a hg).1 hk
    · exact h1.2.2 a ha b hb
theorem ins_perm (xs : List En) (x : En) (i : Nat) : (xs.take i ++ x :: xs.drop i).Perm (xs ++ [x]) := by
  have h := List.perm_middle (a := x) (l₁ := xs.take i) (l₂ := xs.drop i)
  rw [List.take_append_drop] at h
  exact h.trans (List.perm_append_comm (l₁ := [x]) (l₂ := xs))
theorem sorted_sub {xs ys : List En} (hs : SortedE xs) (h : ys.Sublist xs) : SortedE ys := List.Pairwise.sublist h hs
theorem sorted_next {x : En} {xs : List En} (hs : SortedE (x :: xs)) : nextV (x :: xs) = some x := by
  have h := List.pairwise_cons.1 hs
  refine nextV_of (List.mem_cons_self ..) fun y hy => ?_
  rcases List.mem_cons.1 hy with rfl | hy
  · exact En.lt_irrefl _
  · exact En.lt_asymm (h.1 y hy)
/-- What is due of a list in order: so many of its beginning. -/
theorem due_parts {xs : List En} {now : Int} {i : Nat} (hs : SortedE xs) (hp : Parts xs (fun e => e.at_ ≤ now) i) : dueL now xs = (xs.take i, xs.drop i) := by
  obtain ⟨h1, h2, h3⟩ := dueL_spec now xs
  have ht : xs.filter (fun e => decide (e.at_ ≤ now)) = xs.take i := by
    conv => lhs; rw [← List.take_append_drop i xs]
    rw [List.filter_append, List.filter_eq_self.2 fun e he => ?_, List.filter_eq_nil_iff.2 fun e he => ?_, List.append_nil]
    · obtain ⟨k, hk, hg⟩ := mem_drop_get he
      have : ¬ e.at_ ≤ now := fun h => by have := (hp.2 k e hg).2 h; omega
      simpa using this
    · obtain ⟨k, hk, hg⟩ := mem_take_get he
      simpa using (hp.2 k e hg).1 hk
  have hd : xs.filter (fun e => decide (now < e.at_)) = xs.drop i := by
    conv => lhs; rw [← List.take_append_drop i xs]
    rw [List.filter_append, List.filter_eq_nil_iff.2 fun e he => ?_, List.filter_eq_self.2 fun e he => ?_, List.nil_append]
    · obtain ⟨k, hk, hg⟩ := mem_drop_get he
      have : ¬ e.at_ ≤ now := fun h => by have := (hp.2 k e hg).2 h; omega
      simp; omega
    · obtain ⟨k, hk, hg⟩ := mem_take_get he
      have := (hp.2 k e hg).1 hk
      simp; omega
  refine Prod.ext ?_ (h1.trans hd)
  refine sorted_eq h3 ((sorted_sub hs (List.take_sublist i xs)).imp fun h => En.lt_asymm h) ?_
  rw [← ht]
  exact h2
def orv (x y : Int) : Int := if x ≠ 0 then x else y
def cmpv (x y : Int) : Int := if x < y then -1 else if y < x then 1 else 0
theorem cmp_lt (a b : En) : (orv (cmpv a.at_ b.at_) (cmpv a.id b.id) < 0) ↔ En.lt a b := by
  unfold orv cmpv En.lt
  by_cases h1 : a.at_ < b.at_
  · simp [h1]
  · by_cases h2 : b.at_ < a.at_
    · simp [h1, h2]; omega
    · have h3 : a.at_ = b.at_ := by omega
      by_cases h4 : a.id < b.id
      · simp [h3, h4]
      · by_cases h5 : b.id < a.id
        · simp [h3, h4, h5]
        · simp [h3, h4, h5]
end Go.Proofs.YtdpmjbhkmfjpfaaDoor
