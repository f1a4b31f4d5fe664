/-
  What follows of where a name leads: each step stands in a record, each address in one of the last name. No conditions.
-/
import Derived.Test.YtdpjfcdfopmoaaaWy15
namespace Go.Proofs.Ytdpjfcdfopmoaaa
open Go.RowKit
set_option maxRecDepth 100000

/-- The least Ttl of those that led to name i. -/
def lft (xs : List Rk) (ns : List ByteArray) : Nat → Int
  | 0 => 4294967295
  | i + 1 => min (lft xs ns i) (match ns[i]? with
    | some x => (match xs.find? (fun r => leads r x) with
      | some r => r.ttl
      | none => 0)
    | none => 0)
theorem lft_pre (xs : List Rk) (ns : List ByteArray) (z : ByteArray) : ∀ (i : Nat), i ≤ ns.length → lft xs (ns ++ [z]) i = lft xs ns i
  | 0, _ => rfl
  | i + 1, h => by
    unfold lft
    rw [lft_pre xs ns z i (by omega), List.getElem?_append_left (by omega)]
structure WayI (xs : List Rk) (s : ByteArray) (ns : List ByteArray) (left : Int) (cur : ByteArray) : Prop where
  pos : 1 ≤ ns.length
  len : ns.length ≤ 16
  first : ns[0]? = some s
  last : ns[ns.length - 1]? = some cur
  step : ∀ i, i + 1 < ns.length → ∃ (x : ByteArray) (r : Rk), ns[i]? = some x ∧ xs.find? (fun r => leads r x) = some r ∧ ns[i + 1]? = some r.target
  left : left = lft xs ns (ns.length - 1)
theorem WayI.next {xs : List Rk} {s : ByteArray} {ns : List ByteArray} {left : Int} {cur : ByteArray} (h : WayI xs s ns left cur) {r : Rk} (hf : xs.find? (fun r => leads r cur) = some r) (hl : ns.length ≠ 16) : WayI xs s (ns ++ [r.target]) (min left r.ttl) r.target := by
  have hp := h.pos
  have h16 := h.len
  refine ⟨by simp, by simp; omega, by rw [List.getElem?_append_left (by omega)]; exact h.first, by simp, fun i hi => ?_, ?_⟩
  · rw [List.length_append] at hi
    have hi : i + 1 < ns.length + 1 := hi
    by_cases he : i + 1 = ns.length
    · refine ⟨cur, r, ?_, hf, ?_⟩
      · rw [List.getElem?_append_left (by omega), show i = ns.length - 1 by omega]
        exact h.last
      · rw [List.getElem?_append_right (by omega), he, Nat.sub_self]
        rfl
    · obtain ⟨x, q, h1, h2, h3⟩ := h.step i (by omega)
      exact ⟨x, q, by rw [List.getElem?_append_left (by omega)]; exact h1, h2, by rw [List.getElem?_append_left (by omega)]; exact h3⟩
  · rw [List.length_append, show ns.length + [r.target].length - 1 = (ns.length - 1) + 1 by have : [r.target].length = 1 := rfl; omega]
    unfold lft
    rw [lft_pre _ _ _ _ (by omega), ← h.left, List.getElem?_append_left (by omega), h.last]
    dsimp only
    rw [hf]
theorem wayv_inv {xs : List Rk} {s : ByteArray} : ∀ {k : Nat} {ns ns' : List ByteArray} {left left' : Int} {cur : ByteArray}, WayI xs s ns left cur → wayv xs k ns left cur = some (ns', left') → ∃ cur', WayI xs s ns' left' cur'
  | 0, _, _, _, _, _, _, h => by cases h
  | k + 1, ns, ns', left, left', cur, hi, h => by
    unfold wayv at h
    cases hf : xs.find? (fun x => leads x cur) with
    | none =>
      rw [hf] at h
      cases h
      exact ⟨cur, hi⟩
    | some r =>
      rw [hf] at h
      dsimp only at h
      split at h
      · cases h
      · rename_i hno
        simp at hno
        exact wayv_inv (hi.next hf hno.2) h
theorem way_inv {xs : List Rk} {s : ByteArray} {ns : List ByteArray} {left : Int} (h : wayv xs 16 [s] 4294967295 s = some (ns, left)) : ∃ cur, WayI xs s ns left cur :=
  wayv_inv ⟨by simp, by simp, rfl, rfl, fun i hi => by simp at hi, rfl⟩ h
theorem fold_says {s : ByteArray} {left : Int} : ∀ (xs : List Rk) (fs : List Fo) (f : Fo), f ∈ xs.foldl (fstep s left) fs → f ∈ fs ∨ ∃ r ∈ xs, says r s = true ∧ f = ⟨r.v6, r.adr, min left r.ttl⟩
  | [], _, _, h => .inl h
  | r :: t, fs, f, h => by
    rcases fold_says t _ f h with h | ⟨q, hq, h1, h2⟩
    · unfold fstep at h
      split at h
      · rename_i hc
        rw [Bool.and_eq_true] at hc
        rcases List.mem_append.1 h with h | h
        · exact .inl h
        · exact .inr ⟨r, List.mem_cons_self .., hc.1, List.mem_singleton.1 h⟩
      · exact .inl h
    · exact .inr ⟨q, List.mem_cons_of_mem _ hq, h1, h2⟩
theorem found_says {xs : List Rk} {s : ByteArray} {left : Int} {f : Fo} (h : f ∈ foundv xs s left) : ∃ r ∈ xs, says r s = true ∧ f = ⟨r.v6, r.adr, min left r.ttl⟩ := by
  rcases fold_says xs [] f h with h | h
  · cases h
  · exact h
/-- The first that is one thing is the first that is less, if it is that. -/
theorem find_finer {p q : Rk → Bool} (hpq : ∀ x, q x = true → p x = true) : ∀ {xs : List Rk} {r : Rk}, xs.find? p = some r → q r = true → xs.find? q = some r
  | [], _, h, _ => by cases h
  | a :: t, r, h, hq => by
    cases ha : p a with
    | true =>
      simp only [List.find?, ha] at h
      cases h
      simp only [List.find?, hq]
    | false =>
      simp only [List.find?, ha] at h
      have hqa : q a = false := by
        cases hqa : q a with
        | false => rfl
        | true => rw [hpq a hqa] at ha; cases ha
      simp only [List.find?, hqa]
      exact find_finer hpq h hq
/-- What the law looks for: the record of a step; the record of an address. -/
def m1 (a b : ByteArray) (x : Rk) : Bool := (x.kind == 5) && ((x.cls == 1) && (decide (x.name = a) && decide (x.target = b)))
def m2 (last : ByteArray) (least : Int) (f : Fo) (x : Rk) : Bool := ((x.kind == 1) || (x.kind == 28)) && ((x.cls == 1) && (decide (x.name = last) && (((x.v6 == f.v6) && (x.adr == f.adr)) && (f.ttl == min least x.ttl))))
theorem m1_leads (a b : ByteArray) (x : Rk) (h : m1 a b x = true) : leads x a = true := by
  unfold m1 at h
  unfold leads
  simp at h ⊢
  exact ⟨h.2.2.1, h.2.1, h.1⟩
theorem m1_first {xs : List Rk} {a : ByteArray} {r : Rk} (h : xs.find? (fun x => leads x a) = some r) : xs.find? (m1 a r.target) = some r := by
  refine find_finer (m1_leads a r.target) h ?_
  have := List.find?_some h
  unfold leads at this
  unfold m1
  simp at this ⊢
  exact ⟨this.2.2, this.2.1, this.1⟩
theorem m2_found {xs : List Rk} {s : ByteArray} {left : Int} {f : Fo} (h : f ∈ foundv xs s left) : xs.any (m2 s left f) = true := by
  obtain ⟨r, hr, h1, rfl⟩ := found_says h
  refine List.any_eq_true.2 ⟨r, hr, ?_⟩
  unfold says at h1
  unfold m2
  simp at h1 ⊢
  exact ⟨h1.2.2, h1.2.1, h1.1⟩
theorem any_next {p : Rk → Bool} {xs : List Rk} {k : Nat} {x : Rk} (h : xs[k]? = some x) : (xs.take (k + 1)).any p = ((xs.take k).any p || p x) := by
  rw [List.take_add_one, h, List.any_append]
  simp
end Go.Proofs.Ytdpjfcdfopmoaaa
