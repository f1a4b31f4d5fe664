/-
  append of a slice of bytes, nil included, onto a row of the call's own; append of a few bytes that stand in a block; whatever the program. Conditions: 2^47 bytes at most.
-/
import Derived.Test.YtoagfmonfgagbaaGreatDoorZ18
import Derived.Laws.AppendOwnNone
import Derived.WalkKit
namespace Go.Proofs.YtoagfmonfgagbaaGreatDoor
open Go.RowKit

/-- A literal of bytes, just laid. -/
theorem Bs.lit (w : World) (ys : List UInt8) (m : Nat) (hm : ys.length = m) (hmm : m ≤ maxLen) (cs : Array Value) (hcs : cs.toList = bv ys) (T : TypeId) : Bs (w.alloc (.cells cs T)) (some ⟨w.heap.size, 0, none⟩) m m ys := by
  refine ⟨hm, Nat.le_refl _, hmm, (fun h => by cases h), fun _ => ⟨_, _, rfl, fun i x hx => ?_⟩⟩
  rw [World.cell?_alloc_at _ _ _ _ rfl, ← Array.getElem?_toList, hcs, Nat.zero_add]
  unfold bv
  rw [List.getElem?_map, hx]
  rfl

theorem Bs.lit_at (w : World) (g : Nat) (hg : w.heap.size = g) (ys : List UInt8) (m : Nat) (hm : ys.length = m) (hmm : m ≤ maxLen) (cs : Array Value) (hcs : cs.toList = bv ys) (T : TypeId) : Bs (w.alloc (.cells cs T)) (some ⟨g, 0, none⟩) m m ys := by
  subst hg
  exact Bs.lit w ys m hm hmm cs hcs T
/-- One byte, just laid. -/
theorem Bs.byte (w : World) (x : Int) (T : TypeId) : Bs (w.alloc (.cells #[.int .u8 (x % 256)] T)) (some ⟨w.heap.size, 0, none⟩) 1 1 [UInt8.ofNat (x % 256).toNat] :=
  Bs.lit w _ 1 rfl (by unfold maxLen; omega) _ (by simp [bv]; omega) T

theorem wp_append_bs {P : Program} {w : World} {o : Oper} {a : Act} {K : Act → World → Prop} {Q : Exit → Act → World → Prop} (s x : Operand) (t : TypeId)
    (ho : o.op = .call { callee := .builtin .append, args := #[s, x], argTypes := #[t, t] })
    (base : Nat) (e : TypeId) (hi5 : (P.info? e).map (fun i => (i.zero, i.size, i.bytes)) = some (some (Value.int IntKind.u8 0), 1, 1)) (ht : P.underlying t = some (.slice e))
    (v : Value) (n : Nat) (ys : List UInt8) (hs : a.eval s = v) (hown : w.ownsRow base e 1 v n (bv ys))
    (A : Option Addr) (m c : Nat) (l : List UInt8) (hx : a.eval x = .slice A m c) (hb : Bs w A m c l) (h47 : n + m ≤ 140737488355328) (hbase : base ≤ w.heap.size)
    (h : ∀ v' w', w'.ownsRow base e 1 v' (n + m) (bv (ys ++ l)) → w.grownBy w' v.ownBlock → (v' = .slice none 0 0 ↔ v = .slice none 0 0 ∧ m = 0) → (v'.ownBlock = v.ownBlock ∨ v'.ownBlock = some w.heap.size) → K (a.put o.dst v') w') : Oper.wp P o a w K Q := by
  obtain ⟨i0, hi, hz, hz1, hz2⟩ := info_parts hi5
  rw [bv_append] at h
  cases A with
  | none =>
    obtain rfl := hb.none_ rfl
    obtain rfl : m = 0 := by have := hb.cap; omega
    obtain rfl := List.eq_nil_of_length_eq_zero hb.len
    have hrun := run_append_owned_none (P := P) (w := w) base t o.type e i0 1 ht hi v n _ hown
    unfold Oper.wp
    simp [execOp, ho, resolve, invoke, builtin, hs, hx, hrun, Result.andThen]
    exact h v w (by simpa [bv] using hown) (World.grownBy.refl w _) (by simp) (.inl rfl)
  | some ad =>
    obtain ⟨v', w', hr, h2, h3, h4, h5⟩ := run_append_own_at (P := P) w base t o.type e i0 _ 1 1 ht hi hz hz1 hz2 rfl (by omega) v n _ hown ad m c (bv l) (by rw [bv_length, hb.len]; omega) (fun j u hj => by
      obtain ⟨y, hy, rfl⟩ := bv_get hj
      obtain ⟨b, off, e0, hc⟩ := hb.here (by have := hb.len; have := (List.getElem?_eq_some_iff.1 hy).1; omega)
      cases e0
      rw [add_plain]
      exact hc j y hy) (bv_one l) (by unfold maxLen; omega) (by omega) hbase
    unfold Oper.wp execOp
    simp only [ho, resolve, invoke, builtin, Sem.run_bind, Sem.run_pure, Result.andThen_ok, List.map_toArray, List.map_cons, List.map_nil, hs, hx, hr]
    exact h v' w' h2 h3 h4 h5
theorem wpList_append_bs {P : Program} {w : World} {ops : Array Oper} {rest : List Oper} {o : Oper} {a : Act} {Q : Exit → Act → World → Prop} (hgd : o.guard = none) (s x : Operand) (t : TypeId)
    (ho : o.op = .call { callee := .builtin .append, args := #[s, x], argTypes := #[t, t] })
    (base : Nat) (e : TypeId) (hi5 : (P.info? e).map (fun i => (i.zero, i.size, i.bytes)) = some (some (Value.int IntKind.u8 0), 1, 1)) (ht : P.underlying t = some (.slice e))
    (v : Value) (n : Nat) (ys : List UInt8) (hs : a.eval s = v) (hown : w.ownsRow base e 1 v n (bv ys))
    (A : Option Addr) (m c : Nat) (l : List UInt8) (hx : a.eval x = .slice A m c) (hb : Bs w A m c l) (h47 : n + m ≤ 140737488355328) (hbase : base ≤ w.heap.size)
    (h : ∀ v' w', w'.ownsRow base e 1 v' (n + m) (bv (ys ++ l)) → w.grownBy w' v.ownBlock → (v' = .slice none 0 0 ↔ v = .slice none 0 0 ∧ m = 0) → (v'.ownBlock = v.ownBlock ∨ v'.ownBlock = some w.heap.size) → wpList P ops Q rest (a.put o.dst v') w') :
    wpList P ops Q (o :: rest) a w :=
  wpList_plain hgd fun _ hK => wp_append_bs s x t ho base e hi5 ht v n ys hs hown A m c l hx hb h47 hbase fun v' w' h1 h2 h3 h4 => hK _ _ (h v' w' h1 h2 h3 h4)

/-- .. behind a guard that lets it. -/
theorem wpList_append_bs_w {P : Program} {w : World} {ops : Array Oper} {rest : List Oper} {o : Oper} {a : Act} {Q : Exit → Act → World → Prop} (hw : Region.wanted o (yielded ops a.tmps) = true) (s x : Operand) (t : TypeId)
    (ho : o.op = .call { callee := .builtin .append, args := #[s, x], argTypes := #[t, t] })
    (base : Nat) (e : TypeId) (hi5 : (P.info? e).map (fun i => (i.zero, i.size, i.bytes)) = some (some (Value.int IntKind.u8 0), 1, 1)) (ht : P.underlying t = some (.slice e))
    (v : Value) (n : Nat) (ys : List UInt8) (hs : a.eval s = v) (hown : w.ownsRow base e 1 v n (bv ys))
    (A : Option Addr) (m c : Nat) (l : List UInt8) (hx : a.eval x = .slice A m c) (hb : Bs w A m c l) (h47 : n + m ≤ 140737488355328) (hbase : base ≤ w.heap.size)
    (h : ∀ v' w', w'.ownsRow base e 1 v' (n + m) (bv (ys ++ l)) → w.grownBy w' v.ownBlock → (v' = .slice none 0 0 ↔ v = .slice none 0 0 ∧ m = 0) → (v'.ownBlock = v.ownBlock ∨ v'.ownBlock = some w.heap.size) → wpList P ops Q rest (a.put o.dst v') w') :
    wpList P ops Q (o :: rest) a w := by
  have h1 := wp_append_bs (P := P) (o := o) (a := a) (w := w) (K := wpList P ops Q rest) (Q := Q) s x t ho base e hi5 ht v n ys hs hown A m c l hx hb h47 hbase h
  unfold wpList
  rw [if_pos hw]
  exact .inl h1

/-- At a step of a region that draws its order: a slice of bytes, one at least, put behind nil. -/
theorem step_append_nil {P : Program} {w : World} {ops : Array Oper} {o : Oper} {a : Act} {K : Act → World → Prop} {Q : Exit → Act → World → Prop} {E : Prop} (hgd : o.guard = none) (s x : Operand) (t : TypeId)
    (ho : o.op = .call { callee := .builtin .append, args := #[s, x], argTypes := #[t, t] })
    (e : TypeId) (hi5 : (P.info? e).map (fun i => (i.zero, i.size, i.bytes)) = some (some (Value.int IntKind.u8 0), 1, 1)) (ht : P.underlying t = some (.slice e))
    (hs : a.eval s = .slice none 0 0)
    (b off m c : Nat) (l : List UInt8) (hx : a.eval x = .slice (some ⟨b, off, none⟩) m c) (hb : Bs w (some ⟨b, off, none⟩) m c l) (hm : 0 < m) (h47 : m ≤ 140737488355328)
    (h : ∀ g cap w', Bs w' (some ⟨g, 0, none⟩) m cap l → Below w.heap.size w w' → w.heap.size ≤ g → K (a.put o.dst (.slice (some ⟨g, 0, none⟩) m cap)) w') :
    if Region.wanted o (yielded ops a.tmps) = true then Oper.wp P o a w K Q else E := by
  obtain ⟨i0, hi, hz, hz1, hz2⟩ := info_parts hi5
  refine step_append_lies w hgd s x t ho w.heap.size e i0 _ 1 1 ht hi hz hz1 hz2 rfl (by omega) (.slice none 0 0) 0 [] hs (World.ownsRow_nil _ _ _ _) ⟨b, off, none⟩ m c (bv l) hx (by rw [bv_length, hb.len]; omega) (fun j u hj => ?_) (bv_one l) hm (by unfold maxLen; omega) (by omega) (Nat.le_refl _) _ rfl ?_
  · obtain ⟨y, hy, rfl⟩ := bv_get hj
    obtain ⟨b', off', e0, hc⟩ := hb.here hm
    cases e0
    rw [add_plain]
    exact hc j y hy
  · intro g cap w' ho hg hat hlt
    rw [Nat.zero_add] at ho ⊢
    obtain ⟨A, c', e1, h1⟩ := Bs.of_own (l := l) (by simpa using ho)
    cases e1
    refine h g cap w' h1 ⟨hg.os, hg.tape, hg.output, hg.size, fun i hi => hg.block i hi (by simp [Value.ownBlock])⟩ ?_
    rcases hat with e | e
    · cases e
    · omega
end Go.Proofs.YtoagfmonfgagbaaGreatDoor
