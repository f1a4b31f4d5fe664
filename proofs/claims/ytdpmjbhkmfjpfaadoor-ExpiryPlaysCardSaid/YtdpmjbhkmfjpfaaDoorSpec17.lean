/-
  What ends when, as a list in which each id is once: pushed, moved, cancelled, first, due; whatever the order in which it is kept. Pure. No conditions.
-/
import Derived.Lib.Hide
namespace Go.Proofs.YtdpmjbhkmfjpfaaDoor

theorem filter_erase_not {α : Type} [DecidableEq α] {p : α → Bool} {e : α} (h : p e = false) : ∀ (l : List α), (l.erase e).filter p = l.filter p
  | [] => rfl
  | a :: l => by
    by_cases ha : a = e
    · subst ha
      rw [List.erase_cons_head, List.filter_cons_of_neg (by simp [h])]
    · rw [List.erase_cons_tail (by simpa using ha)]
      cases hp : p a with
      | true => rw [List.filter_cons_of_pos hp, List.filter_cons_of_pos hp, filter_erase_not h l]
      | false => rw [List.filter_cons_of_neg (by simp [hp]), List.filter_cons_of_neg (by simp [hp]), filter_erase_not h l]
/-- What ends when. -/
structure En where
  id : Int
  at_ : Int
deriving DecidableEq
/-- What is due first: by when it ends, then by id. -/
def En.lt (a b : En) : Prop := a.at_ < b.at_ ∨ (a.at_ = b.at_ ∧ a.id < b.id)
instance (a b : En) : Decidable (En.lt a b) := by unfold En.lt; infer_instance
theorem En.lt_irrefl (a : En) : ¬ En.lt a a := by unfold En.lt; omega
theorem En.lt_trans {a b c : En} (h : En.lt a b) (h2 : En.lt b c) : En.lt a c := by unfold En.lt at *; omega
theorem En.lt_asymm {a b : En} (h : En.lt a b) : ¬ En.lt b a := by unfold En.lt at *; omega
theorem En.eq_of_not {a b : En} (h : ¬ En.lt a b) (h2 : ¬ En.lt b a) : a = b := by
  obtain ⟨i, x⟩ := a
  obtain ⟨j, y⟩ := b
  unfold En.lt at *
  dsimp only at h h2
  have h3 : i = j := by omega
  have h4 : x = y := by omega
  rw [h3, h4]
theorem En.not_trans {a b c : En} (h : ¬ En.lt b a) (h2 : ¬ En.lt c b) : ¬ En.lt c a := by unfold En.lt at *; omega
/-- Each id is there once. -/
def uniq (l : List En) : Prop := l.Pairwise fun a b => a.id ≠ b.id
theorem uniq.perm {l m : List En} (h : uniq l) (hp : l.Perm m) : uniq m := hp.pairwise h fun hab => fun e => hab e.symm
theorem uniq.eq {l : List En} (h : uniq l) {a b : En} (ha : a ∈ l) (hb : b ∈ l) (e : a.id = b.id) : a = b := by
  induction l with
  | nil => cases ha
  | cons x l ih =>
    have h2 := List.pairwise_cons.1 h
    rcases List.mem_cons.1 ha with rfl | ha' <;> rcases List.mem_cons.1 hb with rfl | hb'
    · rfl
    · exact absurd e (h2.1 b hb')
    · exact absurd e.symm (h2.1 a ha')
    · exact ih h2.2 ha' hb'
/-- The place of an id. -/
def placeV (l : List En) (id : Int) : Option Nat := l.findIdx? fun e => e.id == id
def hasV (l : List En) (id : Int) : Bool := l.any fun e => e.id == id
theorem hasV_iff {l : List En} {id : Int} : hasV l id = true ↔ ∃ e ∈ l, e.id = id := by simp [hasV]
theorem hasV_perm {l m : List En} (h : l.Perm m) (id : Int) : hasV l id = hasV m id := by
  rw [Bool.eq_iff_iff, hasV_iff, hasV_iff]
  exact ⟨fun ⟨e, h1, h2⟩ => ⟨e, h.mem_iff.1 h1, h2⟩, fun ⟨e, h1, h2⟩ => ⟨e, h.mem_iff.2 h1, h2⟩⟩
/-- How many a table is for. -/
def heldV (n : Int) : Nat := if n ≤ 0 then 0 else if 1000 < n then 1000 else n.toNat
def pushE (cap : Nat) (l : List En) (id : Int) : Int := if hasV l id then 19 else if cap ≤ l.length then 18 else 0
/-- The first of all. -/
def nextV : List En → Option En
  | [] => none
  | a :: l => match nextV l with
    | none => some a
    | some b => if En.lt b a then some b else some a
theorem nextV_mem : ∀ {l : List En} {e : En}, nextV l = some e → e ∈ l ∧ ∀ x ∈ l, ¬ En.lt x e
  | [], e, h => by cases h
  | a :: l, e, h => by
    unfold nextV at h
    cases hn : nextV l with
    | none =>
      rw [hn] at h
      obtain rfl : a = e := Option.some.inj h
      have hl : l = [] := by
        cases l with
        | nil => rfl
        | cons b l =>
          unfold nextV at hn
          cases h2 : nextV l with
          | none => rw [h2] at hn; cases hn
          | some c =>
            rw [h2] at hn
            dsimp only at hn
            split at hn <;> cases hn
      subst hl
      exact ⟨by simp, fun x hx => by rw [List.mem_singleton.1 hx]; exact En.lt_irrefl _⟩
    | some b =>
      obtain ⟨h1, h2⟩ := nextV_mem hn
      rw [hn] at h
      dsimp only at h
      by_cases hb : En.lt b a
      · rw [if_pos hb] at h
        obtain rfl : b = e := Option.some.inj h
        refine ⟨List.mem_cons_of_mem _ h1, fun x hx => ?_⟩
        rcases List.mem_cons.1 hx with rfl | hx
        · exact En.lt_asymm hb
        · exact h2 x hx
      · rw [if_neg hb] at h
        obtain rfl : a = e := Option.some.inj h
        refine ⟨List.mem_cons_self .., fun x hx => ?_⟩
        rcases List.mem_cons.1 hx with rfl | hx
        · exact En.lt_irrefl _
        · exact En.not_trans hb (h2 x hx)
theorem nextV_none {l : List En} : nextV l = none ↔ l = [] := by
  constructor
  · intro h
    cases l with
    | nil => rfl
    | cons a l =>
      unfold nextV at h
      cases h2 : nextV l with
      | none => rw [h2] at h; cases h
      | some c =>
        rw [h2] at h
        dsimp only at h
        split at h <;> cases h
  · rintro rfl
    rfl
theorem nextV_of {l : List En} {e : En} (h : e ∈ l) (hm : ∀ x ∈ l, ¬ En.lt x e) : nextV l = some e := by
  cases hn : nextV l with
  | none => rw [nextV_none.1 hn] at h; cases h
  | some b =>
    obtain ⟨h1, h2⟩ := nextV_mem hn
    rw [En.eq_of_not (hm b h1) (h2 e h)]
theorem nextV_perm {l m : List En} (h : l.Perm m) : nextV l = nextV m := by
  cases hn : nextV l with
  | none =>
    rw [nextV_none.1 hn] at h
    rw [List.nil_perm.1 h]
    rfl
  | some e =>
    obtain ⟨h1, h2⟩ := nextV_mem hn
    exact (nextV_of (h.mem_iff.1 h1) fun x hx => h2 x (h.mem_iff.2 hx)).symm
/-- All that end so far, one by one: they, and what is left. -/
def dueV : Nat → Int → List En → List En × List En
  | 0, _, l => ([], l)
  | k + 1, now, l => match nextV l with
    | none => ([], l)
    | some e => if now < e.at_ then ([], l) else (e :: (dueV k now (l.erase e)).1, (dueV k now (l.erase e)).2)
def dueL (now : Int) (l : List En) : List En × List En := dueV (l.length + 1) now l
theorem dueV_spec (now : Int) : ∀ (k : Nat) (l : List En), l.length < k → (dueV k now l).2 = l.filter (fun e => decide (now < e.at_)) ∧ (dueV k now l).1.Perm (l.filter fun e => decide (e.at_ ≤ now)) ∧ (dueV k now l).1.Pairwise fun a b => ¬ En.lt b a
  | 0, l, h => by omega
  | k + 1, l, h => by
    unfold dueV
    cases hn : nextV l with
    | none =>
      rw [nextV_none.1 hn]
      exact ⟨rfl, List.Perm.refl _, List.Pairwise.nil⟩
    | some e =>
      obtain ⟨h1, h2⟩ := nextV_mem hn
      dsimp only
      by_cases hl : now < e.at_
      · rw [if_pos hl]
        have hall : ∀ x ∈ l, now < x.at_ := fun x hx => by
          have h3 := h2 x hx
          unfold En.lt at h3
          omega
        refine ⟨(List.filter_eq_self.2 fun x hx => by simpa using hall x hx).symm, ?_, List.Pairwise.nil⟩
        rw [List.filter_eq_nil_iff.2 fun x hx => by have := hall x hx; simp; omega]
      · rw [if_neg hl]
        have hlen : (l.erase e).length < k := by
          have := List.length_erase_of_mem h1
          have := List.length_pos_of_mem h1
          omega
        obtain ⟨i1, i2, i3⟩ := dueV_spec now k (l.erase e) hlen
        have hpe := List.perm_cons_erase h1
        refine ⟨?_, ?_, List.Pairwise.cons (fun x hx => ?_) i3⟩
        · rw [i1]
          rw [filter_erase_not (by simpa using hl)]
        · have h3 := (i2.cons e)
          refine h3.trans ?_
          have h4 := hpe.filter fun x => decide (x.at_ ≤ now)
          rw [List.filter_cons_of_pos (by simp; omega)] at h4
          exact h4.symm
        · have h3 := (List.mem_filter.1 (i2.mem_iff.1 hx)).1
          exact h2 x (List.mem_of_mem_erase h3)
theorem dueL_spec (now : Int) (l : List En) : (dueL now l).2 = l.filter (fun e => decide (now < e.at_)) ∧ (dueL now l).1.Perm (l.filter fun e => decide (e.at_ ≤ now)) ∧ (dueL now l).1.Pairwise fun a b => ¬ En.lt b a :=
  dueV_spec now _ l (Nat.lt_succ_self _)
/-- Sorted lists of the same things are the same. -/
theorem sorted_eq : ∀ {l m : List En}, l.Pairwise (fun a b => ¬ En.lt b a) → m.Pairwise (fun a b => ¬ En.lt b a) → l.Perm m → l = m
  | [], m, _, _, h => (List.nil_perm.1 h).symm
  | a :: l, [], _, _, h => absurd h.length_eq (by simp)
  | a :: l, b :: m, hl, hm, h => by
    have h1 := List.pairwise_cons.1 hl
    have h2 := List.pairwise_cons.1 hm
    have hab : a = b := by
      have ha : a ∈ b :: m := h.mem_iff.1 (List.mem_cons_self ..)
      have hb : b ∈ a :: l := h.mem_iff.2 (List.mem_cons_self ..)
      rcases List.mem_cons.1 ha with e | ha
      · exact e
      rcases List.mem_cons.1 hb with e | hb
      · exact e.symm
      exact En.eq_of_not (h2.1 a ha) (h1.1 b hb)
    subst hab
    rw [sorted_eq h1.2 h2.2 (List.Perm.cons_inv h)]
theorem dueL_perm {now : Int} {l m : List En} (h : l.Perm m) : (dueL now l).1 = (dueL now m).1 ∧ (dueL now l).2.Perm (dueL now m).2 := by
  obtain ⟨a1, a2, a3⟩ := dueL_spec now l
  obtain ⟨b1, b2, b3⟩ := dueL_spec now m
  refine ⟨sorted_eq a3 b3 (a2.trans ((h.filter _).trans b2.symm)), ?_⟩
  rw [a1, b1]
  exact h.filter _
theorem uniq.filter {l : List En} (h : uniq l) (p : En → Bool) : uniq (l.filter p) := List.Pairwise.filter p h
theorem uniq.sub {l m : List En} (h : uniq l) (hs : m.Sublist l) : uniq m := List.Pairwise.sublist hs h
/-- What is due is in strict order, each id once. -/
theorem dueL_strict {now : Int} {l : List En} (h : uniq l) : (dueL now l).1.Pairwise En.lt := by
  obtain ⟨_, a2, a3⟩ := dueL_spec now l
  have hu : uniq (dueL now l).1 := (h.filter _).perm a2.symm
  unfold uniq at hu
  refine (a3.and hu).imp fun {a b} hab => ?_
  obtain ⟨h1, h2⟩ := hab
  unfold En.lt at *
  omega
def cancelE (l : List En) (id : Int) : List En := l.filter fun e => e.id != id
theorem cancelE_length {l : List En} (h : uniq l) {id : Int} (hi : hasV l id = true) : (cancelE l id).length + 1 = l.length := by
  induction l with
  | nil => simp [hasV] at hi
  | cons a l ih =>
    have h2 := List.pairwise_cons.1 h
    by_cases ha : a.id = id
    · have hl : cancelE l id = l := List.filter_eq_self.2 fun x hx => by have := h2.1 x hx; simp; omega
      have e : cancelE (a :: l) id = cancelE l id := by unfold cancelE; rw [List.filter_cons_of_neg (by simp [ha])]
      rw [e, hl, List.length_cons]
    · have hi2 : hasV l id = true := by
        rw [hasV_iff] at hi ⊢
        obtain ⟨e, he, h3⟩ := hi
        rcases List.mem_cons.1 he with rfl | he
        · exact absurd h3 ha
        · exact ⟨e, he, h3⟩
      have e : cancelE (a :: l) id = a :: cancelE l id := by unfold cancelE; rw [List.filter_cons_of_pos (by simp [ha])]
      rw [e, List.length_cons, List.length_cons, ih h2.2 hi2]
def moveE (l : List En) (id at_ : Int) : List En := l.map fun e => if e.id = id then ⟨id, at_⟩ else e
theorem moveE_ids (l : List En) (id at_ : Int) : (moveE l id at_).map (·.id) = l.map (·.id) := by
  unfold moveE
  rw [List.map_map]
  refine List.map_congr_left fun e _ => ?_
  show (if e.id = id then (⟨id, at_⟩ : En) else e).id = e.id
  split <;> simp_all
theorem uniq_ids {l : List En} : uniq l ↔ (l.map (·.id)).Nodup := by
  unfold uniq List.Nodup
  rw [List.pairwise_map]
theorem uniq.move {l : List En} (h : uniq l) (id at_ : Int) : uniq (moveE l id at_) := by
  rw [uniq_ids] at h ⊢
  rw [moveE_ids]
  exact h
theorem uniq.cancel {l : List En} (h : uniq l) (id : Int) : uniq (cancelE l id) := h.filter _
theorem uniq.push {l : List En} (h : uniq l) {id at_ : Int} (hi : hasV l id = false) : uniq (l ++ [⟨id, at_⟩]) := by
  unfold uniq at *
  refine List.pairwise_append.2 ⟨h, List.pairwise_singleton _ _, fun a ha b hb => ?_⟩
  rw [List.mem_singleton.1 hb]
  intro e
  have : hasV l id = true := hasV_iff.2 ⟨a, ha, e⟩
  rw [hi] at this
  cases this
theorem moveE_perm {l m : List En} (h : l.Perm m) (id at_ : Int) : (moveE l id at_).Perm (moveE m id at_) := h.map _
theorem cancelE_perm {l m : List En} (h : l.Perm m) (id : Int) : (cancelE l id).Perm (cancelE m id) := h.filter _
/-- When an id ends. -/
def atV (l : List En) (id : Int) : Option Int := (l.find? fun e => e.id == id).map (·.at_)
theorem atV_of {l : List En} (h : uniq l) {e : En} (he : e ∈ l) : atV l e.id = some e.at_ := by
  unfold atV
  cases hf : l.find? fun x => x.id == e.id with
  | none => exact absurd (List.find?_eq_none.1 hf e he) (by simp)
  | some x =>
    have h1 := List.mem_of_find?_eq_some hf
    have h2 := List.find?_some hf
    rw [h.eq h1 he (by simpa using h2)]
    rfl
theorem atV_none {l : List En} {id : Int} (h : hasV l id = false) : atV l id = none := by
  unfold atV
  rw [List.find?_eq_none.2 fun x hx => ?_]
  · rfl
  · intro e
    have : hasV l id = true := hasV_iff.2 ⟨x, hx, by simpa using e⟩
    rw [h] at this
    cases this
theorem atV_perm {l m : List En} (hu : uniq l) (h : l.Perm m) (id : Int) : atV l id = atV m id := by
  cases hi : hasV l id with
  | false => rw [atV_none hi, atV_none (by rw [← hasV_perm h]; exact hi)]
  | true =>
    obtain ⟨e, he, rfl⟩ := hasV_iff.1 hi
    rw [atV_of hu he, atV_of (hu.perm h) (h.mem_iff.1 he)]
/-- What goes first is the first of what is due. -/
theorem due_next {now : Int} {l : List En} {e : En} (hn : nextV l = some e) (hl : e.at_ ≤ now) : ∃ t, (dueL now l).1 = e :: t ∧ t = (dueL now (l.erase e)).1 ∧ (dueL now l).2 = (dueL now (l.erase e)).2 := by
  have h1 := (nextV_mem hn).1
  have hlen : (l.erase e).length + 1 = l.length := by
    have := List.length_erase_of_mem h1
    have := List.length_pos_of_mem h1
    omega
  refine ⟨_, ?_, rfl, ?_⟩
  · unfold dueL
    rw [show l.length + 1 = ((l.erase e).length + 1) + 1 by omega, dueV, hn]
    dsimp only
    rw [if_neg (by omega)]
  · unfold dueL
    rw [show l.length + 1 = ((l.erase e).length + 1) + 1 by omega, dueV, hn]
    dsimp only
    rw [if_neg (by omega)]
theorem cancelE_idx : ∀ {l : List En} {i : Nat} {e : En}, uniq l → l[i]? = some e → cancelE l e.id = l.take i ++ l.drop (i + 1)
  | [], i, e, _, h => by simp at h
  | a :: l, 0, e, hu, h => by
    obtain rfl : a = e := by simpa using h
    have h2 := List.pairwise_cons.1 hu
    have hl : l.filter (fun x => x.id != a.id) = l := List.filter_eq_self.2 fun x hx => by have := h2.1 x hx; simp; omega
    unfold cancelE
    rw [List.filter_cons_of_neg (by simp), hl]
    rfl
  | a :: l, i + 1, e, hu, h => by
    have h2 := List.pairwise_cons.1 hu
    have hi : l[i]? = some e := by simpa using h
    have hne := h2.1 e (List.mem_of_getElem? hi)
    have ih := cancelE_idx (List.Pairwise.of_cons hu) hi
    unfold cancelE at ih ⊢
    rw [List.filter_cons_of_pos (by simpa using hne), ih]
    rfl
theorem moveE_idx : ∀ {l : List En} {i : Nat} {e : En} (at_ : Int), uniq l → l[i]? = some e → moveE l e.id at_ = l.set i ⟨e.id, at_⟩
  | [], i, e, _, _, h => by simp at h
  | a :: l, 0, e, at_, hu, h => by
    obtain rfl : a = e := by simpa using h
    have h2 := List.pairwise_cons.1 hu
    unfold moveE
    rw [List.map_cons, if_pos rfl]
    have hl : l.map (fun x => if x.id = a.id then (⟨a.id, at_⟩ : En) else x) = l := by
      have : l.map (fun x => if x.id = a.id then (⟨a.id, at_⟩ : En) else x) = l.map id := List.map_congr_left fun x hx => if_neg fun e => h2.1 x hx e.symm
      rw [this, List.map_id]
    rw [hl]
    rfl
  | a :: l, i + 1, e, at_, hu, h => by
    have h2 := List.pairwise_cons.1 hu
    have hi : l[i]? = some e := by simpa using h
    have hne := h2.1 e (List.mem_of_getElem? hi)
    have ih := moveE_idx at_ (List.Pairwise.of_cons hu) hi
    unfold moveE at ih ⊢
    rw [List.map_cons, if_neg hne, ih]
    rfl
theorem cancelE_erase {l : List En} {e : En} (hu : uniq l) (he : e ∈ l) : cancelE l e.id = l.erase e := by
  induction l with
  | nil => cases he
  | cons a l ih =>
    have h2 := List.pairwise_cons.1 hu
    by_cases ha : a = e
    · subst ha
      have hl : l.filter (fun x => x.id != a.id) = l := List.filter_eq_self.2 fun x hx => by have := h2.1 x hx; simp; omega
      unfold cancelE
      rw [List.filter_cons_of_neg (by simp), hl, List.erase_cons_head]
    · have he' : e ∈ l := by
        rcases List.mem_cons.1 he with h | h
        · exact absurd h.symm ha
        · exact h
      have ih' := ih (List.Pairwise.of_cons hu) he'
      unfold cancelE at ih' ⊢
      rw [List.filter_cons_of_pos (by have := h2.1 e he'; simpa using this), ih', List.erase_cons_tail (by simpa using ha)]
/-- The place of an id, in a list where each is once. -/
theorem place_at {l : List En} (hu : uniq l) {i : Nat} {e : En} (h : l[i]? = some e) {j : Nat} {x : En} (hj : l[j]? = some x) (hx : x.id = e.id) : j = i := by
  rcases Nat.lt_trichotomy i j with hlt | heq | hlt
  · have := List.pairwise_iff_getElem.1 hu i j (List.getElem?_eq_some_iff.1 h).1 (List.getElem?_eq_some_iff.1 hj).1 hlt
    rw [(List.getElem?_eq_some_iff.1 h).2, (List.getElem?_eq_some_iff.1 hj).2] at this
    exact absurd hx.symm this
  · exact heq.symm
  · have := List.pairwise_iff_getElem.1 hu j i (List.getElem?_eq_some_iff.1 hj).1 (List.getElem?_eq_some_iff.1 h).1 hlt
    rw [(List.getElem?_eq_some_iff.1 h).2, (List.getElem?_eq_some_iff.1 hj).2] at this
    exact absurd hx this
/-- So many of a list behind the first: what is the least of them so far. -/
def bestV : Option En → List En → Option En
  | b, [] => b
  | none, a :: l => bestV (some a) l
  | some b, a :: l => bestV (some (if En.lt a b then a else b)) l
theorem bestV_some : ∀ (l : List En) (b : En), ∃ e, bestV (some b) l = some e ∧ (e = b ∨ e ∈ l) ∧ ¬ En.lt b e ∧ ∀ x ∈ l, ¬ En.lt x e
  | [], b => ⟨b, rfl, Or.inl rfl, En.lt_irrefl b, fun x h => by cases h⟩
  | a :: l, b => by
    by_cases hab : En.lt a b
    · obtain ⟨e, h1, h2, h3, h4⟩ := bestV_some l a
      refine ⟨e, by rw [bestV, if_pos hab]; exact h1, ?_, ?_, fun x hx => ?_⟩
      · rcases h2 with rfl | h2
        · exact Or.inr (List.mem_cons_self ..)
        · exact Or.inr (List.mem_cons_of_mem _ h2)
      · exact En.not_trans (a := e) h3 (En.lt_asymm hab)
      · rcases List.mem_cons.1 hx with rfl | hx
        · exact h3
        · exact h4 x hx
    · obtain ⟨e, h1, h2, h3, h4⟩ := bestV_some l b
      refine ⟨e, by rw [bestV, if_neg hab]; exact h1, ?_, h3, fun x hx => ?_⟩
      · rcases h2 with rfl | h2
        · exact Or.inl rfl
        · exact Or.inr (List.mem_cons_of_mem _ h2)
      · rcases List.mem_cons.1 hx with rfl | hx
        · exact En.not_trans (a := e) h3 hab
        · exact h4 x hx
theorem bestV_next (l : List En) : bestV none l = nextV l := by
  cases l with
  | nil => rfl
  | cons a l =>
    obtain ⟨e, h1, h2, h3, h4⟩ := bestV_some l a
    rw [bestV, h1]
    refine (nextV_of ?_ fun x hx => ?_).symm
    · rcases h2 with rfl | h2
      · exact List.mem_cons_self ..
      · exact List.mem_cons_of_mem _ h2
    · rcases List.mem_cons.1 hx with rfl | hx
      · exact h3
      · exact h4 x hx
end Go.Proofs.YtdpmjbhkmfjpfaaDoor
