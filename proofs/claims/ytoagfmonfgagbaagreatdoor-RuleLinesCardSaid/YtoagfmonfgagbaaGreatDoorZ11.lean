/-
  
-/
import Derived.RangeFuncNested
import Derived.RangeFuncBound
import Derived.RangeFuncCalls
import Derived.RangeFuncLeaves
import Derived.RangeFuncBox
import Derived.Shelf.Abstract
import Derived.Shelf.RegionOpen
import Derived.WalkKit
import Derived.OwnWalkIn
import Derived.TacticsInMore
import Derived.LoopNIn
import Derived.LoopIn
import Derived.RegionIn
import Derived.Lib.Hide
import Derived.Test.YtoagfmonfgagbaaGreatDoorChecked
import Derived.Test.YtoagfmonfgagbaaGreatDoorZ04
namespace Go.Proofs.YtoagfmonfgagbaaGreatDoor
open Go.RowKit Go.Shelf
def Hands {α : Type} (F : Fence) (n : Nat) (P : Program) (f : Nat) (lb : Array Value) (Rd : α → Value → World → Prop) (Kp : World → World → Prop) (all part : List α → Prop) (w0 : World) : Prop :=
  ∀ (l : Nat) (J Jx : List α → World → Prop) (W : World), Below w0.heap.size w0 W → (∀ s A B, J s A → Below A.heap.size A B → J s B) → (∀ s A B, Jx s A → Below A.heap.size A B → Jx s B) →
    (∀ pre x v W1, J pre W1 → Rd x v W1 → YieldAt F (n - 1) P l #[v] W1 fun e W2 => (e = .returned (.bool true) ∧ J (pre ++ [x]) W2 ∧ Kp W1 W2) ∨ (e = .returned (.bool false) ∧ Jx (pre ++ [x]) W2)) →
    J [] W → CallsIn F n P f (#[.func (.yield l) #[] #[]] ++ lb) W fun e W2 => (∃ v, e = .returned v) ∧ ((∃ xs, all xs ∧ J xs W2) ∨ (∃ xs, part xs ∧ Jx xs W2))
theorem below_grown {A B : World} (h : Below A.heap.size A B) : A.grownBy B none := ⟨h.os, h.tape, h.output, h.size, fun k hk _ => h.block k hk⟩
section
variable {α : Type} {F : Fence} {n : Nat} {P : Program} {w : World}
def HandsPost (B : Nat) (Kp : World → World → Prop) (I Ix : List α → World → Prop) (xs : List α) (W : World) : Exit → Act → World → Prop
  | .normal, _, W2 => KeepsFrom B W W2 ∧ Kp W W2 ∧ I xs W2
  | .ret, _, W2 => KeepsFrom B W W2 ∧ Ix xs W2
  | _, _, _ => False
set_option maxHeartbeats 1000000 in
theorem range_hands {g : Operand} {p : Tmp} {assign body : Code} {Q : Exit → Act → World → Prop} {a : Act} (hro : F.round = none) (h1 : 1 ≤ n) {f : Nat} {lb : Array Value}
    (hg : a.eval g = .func (.func f) #[] lb) (hF : F.fn f) (ent : ∀ args w, (callFunc f args).run P w = .ok (.enter f args) w)
    {Rd : α → Value → World → Prop} (hRd : ∀ x v W l o o', w.heap.size ≤ l → W.heap[l]? = some o → o.isCells = false → Rd x v W → Rd x v (W.putObj l o'))
    {Kp : World → World → Prop} (hKt : ∀ A B C, Kp A B → Kp B C → Kp A C) (hKo : ∀ W l o o', w.heap.size ≤ l → W.heap[l]? = some o → o.isCells = false → Kp W (W.putObj l o'))
    {all part : List α → Prop} {w0 : World} (hit : Hands F (n - 1) P f lb Rd Kp all part w0) (hw0 : Below w0.heap.size w0 w)
    (I Ix : List α → World → Prop) (hI : OwnFrom w.heap.size I) (hIx : OwnFrom w.heap.size Ix) (h0 : I [] w) (a1 : Value → Act)
    (hassign : ∀ l v W (K : Act → World → Prop), K (a1 v) W → assign.wpIn (F.inRound l) (n - 1 - 1) P (Exit.then K (fun _ _ _ => False)) { tmps := a.tmps.setIfInBounds p v, defers := [] } W)
    (hbody : ∀ l pre x v W, I pre W → Rd x v W → body.wpIn (F.inRound l) (n - 1 - 1) P (HandsPost w.heap.size Kp I Ix (pre ++ [x]) W) (a1 v) W)
    (hdone : ∀ D xs W, w.heap.size ≤ D → all xs → I xs W → W.heap[D]? = some (.deferred (some [])) → Q .normal { a with defers := { target := .collected D, args := #[] } :: a.defers } W)
    (hstop : ∀ D xs W, w.heap.size ≤ D → part xs → Ix xs W → W.heap[D]? = some (.deferred (some [])) → Code.ret.wpIn F n P Q { a with defers := { target := .collected D, args := #[] } :: a.defers } W) :
    (Code.rangeFunc g #[p] assign body).wpIn F n P Q a w := by
  refine wpIn_rangeFunc fun fn hfn => ?_
  rw [hro]
  obtain ⟨D, hD⟩ : ∃ D, w.heap.size = D := ⟨_, rfl⟩
  let R : LoopState → Option Code → Loop := fun st j => { state := st, pending := j, fn := fn, tmps := a.tmps, params := #[p], assign := assign, body := body, defers := D }
  let V := (w.alloc (.deferred (some []))).alloc (.loop (R .ready none))
  have hV0 : V.heap[D]? = some (.deferred (some [])) := by
    rw [← hD]
    exact (Below.heap_alloc _ _ _ (by simp)).trans (World.alloc_heap_new w _)
  have hV1 : V.heap[D + 1]? = some (.loop (R .ready none)) := by
    have h := World.alloc_heap_new (w.alloc (.deferred (some []))) (.loop (R .ready none))
    rw [World.size_alloc, hD] at h
    exact h
  have hVb : Below w0.heap.size w0 V := hw0.trans ((((Below.refl _ w).alloc (Nat.le_refl _) _).alloc (by simp) _).mono hw0.size)
  refine ⟨D + 1, [{ target := .collected D, args := #[] }], V, { target := .fn (.func f) lb, args := #[.func (.yield (D + 1)) #[] #[]] }, V, f, #[.func (.yield (D + 1)) #[] #[]] ++ lb, V, ?_, ?_, ?_, ?_, fun _ => h1, ?_⟩
  · have h := run_enterLoop_outer (P := P) (w := w) fn a.tmps #[p] assign body
    rw [hD] at h
    exact h
  · simp only [resolve, hg]
    simp [go_sem]
  · intro f' hf'
    simp [Target.leads] at hf'
    subst hf'
    exact hF
  · simp [invoke, go_sem, ent]
  let M : Loop → World → Prop := fun r W => W.heap[D + 1]? = some (.loop r) ∧ W.heap[D]? = some (.deferred (some []))
  have hM : ∀ r A B, M r A → Below A.heap.size A B → M r B := fun r A B h hb =>
    ⟨(hb.block _ (Array.getElem?_eq_some_iff.1 h.1).1).trans h.1, (hb.block _ (Array.getElem?_eq_some_iff.1 h.2).1).trans h.2⟩
  have own : ∀ {X : List α → World → Prop}, OwnFrom w.heap.size X → ∀ s A B, X s A → Below A.heap.size A B → X s B := fun hX s A B h hb => hX s A B none h (below_grown hb) (fun _ e => by cases e)
  have hend : ∀ r W j, M r W → r.state = .busy → r = R .busy none → (Instr.endRound (D + 1) j).run P W = .ok (.bool j.isNone) (W.putObj (D + 1) (.loop (R (if j.isNone then .ready else .done) j))) ∧ M (R (if j.isNone then .ready else .done) j) (W.putObj (D + 1) (.loop (R (if j.isNone then .ready else .done) j))) := fun r W j h _ hr => by
    subst hr
    exact ⟨run_endRound (P := P) j h.1, World.putObj_heap_same (Array.getElem?_eq_some_iff.1 h.1).1, (World.putObj_heap_other (by omega)).trans h.2⟩
  refine (hit (D + 1) (fun s W => I s W ∧ M (R .ready none) W) (fun s W => Ix s W ∧ M (R .done (some .ret)) W) V hVb
    (fun s A B h hb => ⟨own hI s A B h.1 hb, hM _ A B h.2 hb⟩) (fun s A B h hb => ⟨own hIx s A B h.1 hb, hM _ A B h.2 hb⟩) ?_ ⟨hI.alloc _ (hI.alloc _ h0), hV1, hV0⟩).mono ?_
  · rintro pre x v W ⟨hi, hm⟩ hx
    have hlt : D + 1 < W.heap.size := (Array.getElem?_eq_some_iff.1 hm.1).1
    refine ⟨fn, a.tmps.setIfInBounds p v, assign, body, by simpa [R] using run_yield (P := P) (args := #[v]) hm.1 rfl, roundIn_of_wpIn hfn ?_⟩
    refine hassign (D + 1) v W _ ?_
    refine ⟨_, run_beginRound hm.1 rfl, ?_⟩
    obtain ⟨W1, hW1⟩ : ∃ W1, W.putObj (D + 1) (.loop { R .ready none with state := .busy }) = W1 := ⟨_, rfl⟩
    have hi1 : I pre W1 := by rw [← hW1]; exact hI.putObj _ hi (by omega) hm.1 rfl
    have hx1 : Rd x v W1 := by rw [← hW1]; exact hRd x v W _ _ _ (by omega) hm.1 rfl hx
    have hk1 : Kp W W1 := by rw [← hW1]; exact hKo W _ _ _ (by omega) hm.1 rfl
    have hm1 : M (R .busy none) W1 := by
      rw [← hW1]
      exact ⟨World.putObj_heap_same hlt, (World.putObj_heap_other (by omega)).trans hm.2⟩
    rw [hW1]
    have hkeep : ∀ W2, KeepsFrom w.heap.size W1 W2 → M (R .busy none) W2 := fun W2 hk => ⟨hk.same _ _ (by omega) hm1.1 rfl, hk.same _ _ (by omega) hm1.2 rfl⟩
    refine wpIn_mono (hbody _ pre x v W1 hi1 hx1) ?_
    rintro e a2 W2 hp
    cases e with
    | normal =>
      obtain ⟨hk, hkp, hi2⟩ := hp
      have hm2 := hkeep W2 hk
      obtain ⟨hr, hm3⟩ := hend _ W2 none hm2 rfl rfl
      exact ⟨_, _, hr, .inl ⟨rfl, ⟨hI.putObj _ hi2 (by omega) hm2.1 rfl, hm3⟩, hKt _ _ _ hk1 (hKt _ _ _ hkp (hKo W2 _ _ _ (by omega) hm2.1 rfl))⟩⟩
    | ret =>
      obtain ⟨hk, hi2⟩ := hp
      have hm2 := hkeep W2 hk
      obtain ⟨hr, hm3⟩ := hend _ W2 (some .ret) hm2 rfl rfl
      exact ⟨_, _, hr, .inr ⟨rfl, hIx.putObj _ hi2 (by omega) hm2.1 rfl, hm3⟩⟩
    | exit id => exact hp.elim
    | goto t => exact hp.elim
    | panic ch => exact hp.elim
    | outgrown => exact hp.elim
  · rintro e W ⟨⟨v, rfl⟩, ⟨xs, hs, hi, hm⟩ | ⟨xs, hs, hi, hm⟩⟩
    · exact ⟨none, _, run_endLoop (P := P) hm.1 (by simp [R]), hdone D xs _ (by omega) hs (hI.putObj _ hi (by omega) hm.1 rfl) ((World.putObj_heap_other (by omega)).trans hm.2)⟩
    · exact ⟨some .ret, _, run_endLoop (P := P) hm.1 (by simp [R]), hstop D xs _ (by omega) hs (hIx.putObj _ hi (by omega) hm.1 rfl) ((World.putObj_heap_other (by omega)).trans hm.2)⟩
end
end Go.Proofs.YtoagfmonfgagbaaGreatDoor

namespace Go.Proofs.YtoagfmonfgagbaaGreatDoor
open Go.RowKit Go.Shelf
def HandsP {α : Type} (F : Fence) (n : Nat) (P : Program) (f : Nat) (lb : Array Value) (Rd : List α → α → Value → World → Prop) (Kp : World → World → Prop) (all part : List α → Prop) (w0 : World) : Prop :=
  ∀ (l : Nat) (J Jx : List α → World → Prop) (W : World), Below w0.heap.size w0 W → (∀ s A B, J s A → Below A.heap.size A B → J s B) → (∀ s A B, Jx s A → Below A.heap.size A B → Jx s B) →
    (∀ pre x v W1, J pre W1 → Rd pre x v W1 → YieldAt F (n - 1) P l #[v] W1 fun e W2 => (e = .returned (.bool true) ∧ J (pre ++ [x]) W2 ∧ Kp W1 W2) ∨ (e = .returned (.bool false) ∧ Jx (pre ++ [x]) W2)) →
    J [] W → CallsIn F n P f (#[.func (.yield l) #[] #[]] ++ lb) W fun e W2 => (∃ v, e = .returned v) ∧ ((∃ xs, all xs ∧ J xs W2) ∨ (∃ xs, part xs ∧ Jx xs W2))
section
variable {α : Type} {F : Fence} {n : Nat} {P : Program} {w : World}
set_option maxHeartbeats 1000000 in
theorem range_handsP {g : Operand} {p : Tmp} {assign body : Code} {Q : Exit → Act → World → Prop} {a : Act} (hro : F.round = none) (h1 : 1 ≤ n) {f : Nat} {lb : Array Value}
    (hg : a.eval g = .func (.func f) #[] lb) (hF : F.fn f) (ent : ∀ args w, (callFunc f args).run P w = .ok (.enter f args) w)
    {Rd : List α → α → Value → World → Prop} (hRd : ∀ pre x v W l o o', w.heap.size ≤ l → W.heap[l]? = some o → o.isCells = false → Rd pre x v W → Rd pre x v (W.putObj l o'))
    {Kp : World → World → Prop} (hKt : ∀ A B C, Kp A B → Kp B C → Kp A C) (hKo : ∀ W l o o', w.heap.size ≤ l → W.heap[l]? = some o → o.isCells = false → Kp W (W.putObj l o'))
    {all part : List α → Prop} {w0 : World} (hit : HandsP F (n - 1) P f lb Rd Kp all part w0) (hw0 : Below w0.heap.size w0 w)
    (I Ix : List α → World → Prop) (hI : OwnFrom w.heap.size I) (hIx : OwnFrom w.heap.size Ix) (h0 : I [] w) (a1 : Value → Act)
    (hassign : ∀ l v W (K : Act → World → Prop), K (a1 v) W → assign.wpIn (F.inRound l) (n - 1 - 1) P (Exit.then K (fun _ _ _ => False)) { tmps := a.tmps.setIfInBounds p v, defers := [] } W)
    (hbody : ∀ l pre x v W, I pre W → Rd pre x v W → body.wpIn (F.inRound l) (n - 1 - 1) P (HandsPost w.heap.size Kp I Ix (pre ++ [x]) W) (a1 v) W)
    (hdone : ∀ D xs W, w.heap.size ≤ D → all xs → I xs W → W.heap[D]? = some (.deferred (some [])) → Q .normal { a with defers := { target := .collected D, args := #[] } :: a.defers } W)
    (hstop : ∀ D xs W, w.heap.size ≤ D → part xs → Ix xs W → W.heap[D]? = some (.deferred (some [])) → Code.ret.wpIn F n P Q { a with defers := { target := .collected D, args := #[] } :: a.defers } W) :
    (Code.rangeFunc g #[p] assign body).wpIn F n P Q a w := by
  refine wpIn_rangeFunc fun fn hfn => ?_
  rw [hro]
  obtain ⟨D, hD⟩ : ∃ D, w.heap.size = D := ⟨_, rfl⟩
  let R : LoopState → Option Code → Loop := fun st j => { state := st, pending := j, fn := fn, tmps := a.tmps, params := #[p], assign := assign, body := body, defers := D }
  let V := (w.alloc (.deferred (some []))).alloc (.loop (R .ready none))
  have hV0 : V.heap[D]? = some (.deferred (some [])) := by
    rw [← hD]
    exact (Below.heap_alloc _ _ _ (by simp)).trans (World.alloc_heap_new w _)
  have hV1 : V.heap[D + 1]? = some (.loop (R .ready none)) := by
    have h := World.alloc_heap_new (w.alloc (.deferred (some []))) (.loop (R .ready none))
    rw [World.size_alloc, hD] at h
    exact h
  have hVb : Below w0.heap.size w0 V := hw0.trans ((((Below.refl _ w).alloc (Nat.le_refl _) _).alloc (by simp) _).mono hw0.size)
  refine ⟨D + 1, [{ target := .collected D, args := #[] }], V, { target := .fn (.func f) lb, args := #[.func (.yield (D + 1)) #[] #[]] }, V, f, #[.func (.yield (D + 1)) #[] #[]] ++ lb, V, ?_, ?_, ?_, ?_, fun _ => h1, ?_⟩
  · have h := run_enterLoop_outer (P := P) (w := w) fn a.tmps #[p] assign body
    rw [hD] at h
    exact h
  · simp only [resolve, hg]
    simp [go_sem]
  · intro f' hf'
    simp [Target.leads] at hf'
    subst hf'
    exact hF
  · simp [invoke, go_sem, ent]
  let M : Loop → World → Prop := fun r W => W.heap[D + 1]? = some (.loop r) ∧ W.heap[D]? = some (.deferred (some []))
  have hM : ∀ r A B, M r A → Below A.heap.size A B → M r B := fun r A B h hb =>
    ⟨(hb.block _ (Array.getElem?_eq_some_iff.1 h.1).1).trans h.1, (hb.block _ (Array.getElem?_eq_some_iff.1 h.2).1).trans h.2⟩
  have own : ∀ {X : List α → World → Prop}, OwnFrom w.heap.size X → ∀ s A B, X s A → Below A.heap.size A B → X s B := fun hX s A B h hb => hX s A B none h (below_grown hb) (fun _ e => by cases e)
  have hend : ∀ r W j, M r W → r.state = .busy → r = R .busy none → (Instr.endRound (D + 1) j).run P W = .ok (.bool j.isNone) (W.putObj (D + 1) (.loop (R (if j.isNone then .ready else .done) j))) ∧ M (R (if j.isNone then .ready else .done) j) (W.putObj (D + 1) (.loop (R (if j.isNone then .ready else .done) j))) := fun r W j h _ hr => by
    subst hr
    exact ⟨run_endRound (P := P) j h.1, World.putObj_heap_same (Array.getElem?_eq_some_iff.1 h.1).1, (World.putObj_heap_other (by omega)).trans h.2⟩
  refine (hit (D + 1) (fun s W => I s W ∧ M (R .ready none) W) (fun s W => Ix s W ∧ M (R .done (some .ret)) W) V hVb
    (fun s A B h hb => ⟨own hI s A B h.1 hb, hM _ A B h.2 hb⟩) (fun s A B h hb => ⟨own hIx s A B h.1 hb, hM _ A B h.2 hb⟩) ?_ ⟨hI.alloc _ (hI.alloc _ h0), hV1, hV0⟩).mono ?_
  · rintro pre x v W ⟨hi, hm⟩ hx
    have hlt : D + 1 < W.heap.size := (Array.getElem?_eq_some_iff.1 hm.1).1
    refine ⟨fn, a.tmps.setIfInBounds p v, assign, body, by simpa [R] using run_yield (P := P) (args := #[v]) hm.1 rfl, roundIn_of_wpIn hfn ?_⟩
    refine hassign (D + 1) v W _ ?_
    refine ⟨_, run_beginRound hm.1 rfl, ?_⟩
    obtain ⟨W1, hW1⟩ : ∃ W1, W.putObj (D + 1) (.loop { R .ready none with state := .busy }) = W1 := ⟨_, rfl⟩
    have hi1 : I pre W1 := by rw [← hW1]; exact hI.putObj _ hi (by omega) hm.1 rfl
    have hx1 : Rd pre x v W1 := by rw [← hW1]; exact hRd pre x v W _ _ _ (by omega) hm.1 rfl hx
    have hk1 : Kp W W1 := by rw [← hW1]; exact hKo W _ _ _ (by omega) hm.1 rfl
    have hm1 : M (R .busy none) W1 := by
      rw [← hW1]
      exact ⟨World.putObj_heap_same hlt, (World.putObj_heap_other (by omega)).trans hm.2⟩
    rw [hW1]
    have hkeep : ∀ W2, KeepsFrom w.heap.size W1 W2 → M (R .busy none) W2 := fun W2 hk => ⟨hk.same _ _ (by omega) hm1.1 rfl, hk.same _ _ (by omega) hm1.2 rfl⟩
    refine wpIn_mono (hbody _ pre x v W1 hi1 hx1) ?_
    rintro e a2 W2 hp
    cases e with
    | normal =>
      obtain ⟨hk, hkp, hi2⟩ := hp
      have hm2 := hkeep W2 hk
      obtain ⟨hr, hm3⟩ := hend _ W2 none hm2 rfl rfl
      exact ⟨_, _, hr, .inl ⟨rfl, ⟨hI.putObj _ hi2 (by omega) hm2.1 rfl, hm3⟩, hKt _ _ _ hk1 (hKt _ _ _ hkp (hKo W2 _ _ _ (by omega) hm2.1 rfl))⟩⟩
    | ret =>
      obtain ⟨hk, hi2⟩ := hp
      have hm2 := hkeep W2 hk
      obtain ⟨hr, hm3⟩ := hend _ W2 (some .ret) hm2 rfl rfl
      exact ⟨_, _, hr, .inr ⟨rfl, hIx.putObj _ hi2 (by omega) hm2.1 rfl, hm3⟩⟩
    | exit id => exact hp.elim
    | goto t => exact hp.elim
    | panic ch => exact hp.elim
    | outgrown => exact hp.elim
  · rintro e W ⟨⟨v, rfl⟩, ⟨xs, hs, hi, hm⟩ | ⟨xs, hs, hi, hm⟩⟩
    · exact ⟨none, _, run_endLoop (P := P) hm.1 (by simp [R]), hdone D xs _ (by omega) hs (hI.putObj _ hi (by omega) hm.1 rfl) ((World.putObj_heap_other (by omega)).trans hm.2)⟩
    · exact ⟨some .ret, _, run_endLoop (P := P) hm.1 (by simp [R]), hstop D xs _ (by omega) hs (hIx.putObj _ hi (by omega) hm.1 rfl) ((World.putObj_heap_other (by omega)).trans hm.2)⟩
end
end Go.Proofs.YtoagfmonfgagbaaGreatDoor
