/-
  
-/
import Derived.Test.YtoagfmonfgagbaaGreatDoorZ04
import Derived.Laws.AppendOwnNone
import Derived.WalkKit
import Derived.Test.YtoagfmonfgagbaaGreatDoorZ06
namespace Go.Proofs.YtoagfmonfgagbaaGreatDoor
open Go.RowKit
theorem Bs.lit (w : World) (ys : List UInt8) (m : Nat) (hm : ys.length = m) (hmm : m ≤ maxLen) (cs : Array Value) (hcs : cs.toList = bv ys) (T : TypeId) : Bs (w.alloc (.cells cs T)) (some ⟨w.heap.size, 0, none⟩) m m ys := by
  refine ⟨hm, Nat.le_refl _, hmm, (fun h => by cases h), fun _ => ⟨_, _, rfl, fun i x hx => ?_⟩⟩
  rw [World.cell?_alloc_at _ _ _ _ rfl, ← Array.getElem?_toList, hcs, Nat.zero_add]
  unfold bv
  rw [List.getElem?_map, hx]
  rfl
theorem wp_append_bs {P : Program} {w : World} {o : Oper} {a : Act} {K : Act → World → Prop} {Q : Exit → Act → World → Prop} (s x : Operand) (t : TypeId)
    (ho : o.op = .call { callee := .builtin .append, args := #[s, x], argTypes := #[t, t] })
    (base : Nat) (e : TypeId) (hi5 : (P.info? e).map (fun i => (i.zero, i.size, i.bytes)) = some (some (Value.int IntKind.u8 0), 1, 1)) (ht : P.underlying t = some (.slice e))
    (v : Value) (n : Nat) (ys : List UInt8) (hs : a.eval s = v) (hown : w.ownsRow base e 1 v n (bv ys))
    (A : Option Addr) (m c : Nat) (l : List UInt8) (hx : a.eval x = .slice A m c) (hb : Bs w A m c l) (h47 : n + m ≤ 140737488355328) (hbase : base ≤ w.heap.size)
    (h : ∀ v' w', w'.ownsRow base e 1 v' (n + m) (bv (ys ++ l)) → w.grownBy w' v.ownBlock → (v' = .slice none 0 0 ↔ v = .slice none 0 0 ∧ m = 0) → (v'.ownBlock = v.ownBlock ∨ v'.ownBlock = some w.heap.size) → K (a.put o.dst v') w') : Oper.wp P o a w K Q := by
  obtain ⟨i0, hi, hz, hz1, hz2⟩ := info_parts hi5
  rw [bv_append] at h
  cases A with
  | none =>
    obtain rfl := hb.none_ rfl
    obtain rfl : m = 0 := by have := hb.cap; omega
    obtain rfl := List.eq_nil_of_length_eq_zero hb.len
    have hrun := run_append_owned_none (P := P) (w := w) base t o.type e i0 1 ht hi v n _ hown
    unfold Oper.wp
    simp [execOp, ho, resolve, invoke, builtin, hs, hx, hrun, Result.andThen]
    exact h v w (by simpa [bv] using hown) (World.grownBy.refl w _) (by simp) (.inl rfl)
  | some ad =>
    obtain ⟨v', w', hr, h2, h3, h4, h5⟩ := run_append_own_at (P := P) w base t o.type e i0 _ 1 1 ht hi hz hz1 hz2 rfl (by omega) v n _ hown ad m c (bv l) (by rw [bv_length, hb.len]; omega) (fun j u hj => by
      obtain ⟨y, hy, rfl⟩ := bv_get hj
      obtain ⟨b, off, e0, hc⟩ := hb.here (by have := hb.len; have := (List.getElem?_eq_some_iff.1 hy).1; omega)
      cases e0
      rw [add_plain]
      exact hc j y hy) (bv_one l) (by unfold maxLen; omega) (by omega) hbase
    unfold Oper.wp execOp
    simp only [ho, resolve, invoke, builtin, Sem.run_bind, Sem.run_pure, Result.andThen_ok, List.map_toArray, List.map_cons, List.map_nil, hs, hx, hr]
    exact h v' w' h2 h3 h4 h5
theorem wpList_append_bs {P : Program} {w : World} {ops : Array Oper} {rest : List Oper} {o : Oper} {a : Act} {Q : Exit → Act → World → Prop} (hgd : o.guard = none) (s x : Operand) (t : TypeId)
    (ho : o.op = .call { callee := .builtin .append, args := #[s, x], argTypes := #[t, t] })
    (base : Nat) (e : TypeId) (hi5 : (P.info? e).map (fun i => (i.zero, i.size, i.bytes)) = some (some (Value.int IntKind.u8 0), 1, 1)) (ht : P.underlying t = some (.slice e))
    (v : Value) (n : Nat) (ys : List UInt8) (hs : a.eval s = v) (hown : w.ownsRow base e 1 v n (bv ys))
    (A : Option Addr) (m c : Nat) (l : List UInt8) (hx : a.eval x = .slice A m c) (hb : Bs w A m c l) (h47 : n + m ≤ 140737488355328) (hbase : base ≤ w.heap.size)
    (h : ∀ v' w', w'.ownsRow base e 1 v' (n + m) (bv (ys ++ l)) → w.grownBy w' v.ownBlock → (v' = .slice none 0 0 ↔ v = .slice none 0 0 ∧ m = 0) → (v'.ownBlock = v.ownBlock ∨ v'.ownBlock = some w.heap.size) → wpList P ops Q rest (a.put o.dst v') w') :
    wpList P ops Q (o :: rest) a w :=
  wpList_plain hgd fun _ hK => wp_append_bs s x t ho base e hi5 ht v n ys hs hown A m c l hx hb h47 hbase fun v' w' h1 h2 h3 h4 => hK _ _ (h v' w' h1 h2 h3 h4)
end Go.Proofs.YtoagfmonfgagbaaGreatDoor

namespace Go.Proofs.YtoagfmonfgagbaaGreatDoor
open Go.RowKit
structure Gs (w : World) (A : Option Addr) (n c : Nat) (l : List Value) : Prop where
  len : l.length = n
  cap : n ≤ c
  max : c ≤ maxLen
  none_ : A = none → c = 0
  here : 0 < n → ∃ b off, A = some ⟨b, off, none⟩ ∧ ∀ (i : Nat) x, l[i]? = some x → w.cell? ⟨b, off + i, none⟩ = some x
section
variable {w w' : World} {A : Option Addr} {n c : Nat} {l : List Value}
theorem Gs.nil (w : World) : Gs w none 0 0 [] := ⟨rfl, Nat.le_refl _, Nat.zero_le _, fun _ => rfl, fun h => absurd h (by omega)⟩
theorem Gs.later {B : Nat} (h : Gs w A n c l) (hb : Below B w w') (hB : w.heap.size ≤ B) : Gs w' A n c l :=
  ⟨h.len, h.cap, h.max, h.none_, fun hn => by
    obtain ⟨b, off, hA, hc⟩ := h.here hn
    refine ⟨b, off, hA, fun i x hx => ?_⟩
    have h1 := hc i x hx
    rw [hb.cell (p := ⟨b, off + i, none⟩) (by have := lt_of_cell' h1; show b < B; simp at this; omega), h1]⟩
theorem Gs.far {b off : Nat} {p : Addr} (h : Gs w (some ⟨b, off, none⟩) n c l) (hp : p.block ≠ b) (v : Value) : Gs (w.setCell p v) (some ⟨b, off, none⟩) n c l :=
  ⟨h.len, h.cap, h.max, h.none_, fun hn => by
    obtain ⟨b', off', e0, hc⟩ := h.here hn
    cases e0
    exact ⟨b, off, rfl, fun i x hx => (World.cell?_of_block (w := w) (Below.heap_setCell w p v b (fun e => hp e.symm))).trans (hc i x hx)⟩⟩
theorem Gs.get {k : Nat} {x : Value} (h : Gs w A n c l) (hk : l[k]? = some x) : ∃ b off, A = some ⟨b, off, none⟩ ∧ w.cell? ⟨b, off + k, none⟩ = some x := by
  obtain ⟨b, off, hA, hc⟩ := h.here (by have := h.len; have := (List.getElem?_eq_some_iff.1 hk).1; omega)
  exact ⟨b, off, hA, hc k x hk⟩
theorem Gs.of_own {base : Nat} {e : TypeId} {v : Value} (h : w.ownsRow base e 1 v n l) : ∃ A c, v = .slice A n c ∧ Gs w A n c l := by
  have hl : l.length = n := by have := h.1; omega
  rcases h.2 with ⟨rfl, rfl⟩ | ⟨g, cap, cur, rfl, hb, hh, hc, hm, _, _⟩
  · obtain rfl := List.eq_nil_of_length_eq_zero hl
    exact ⟨none, 0, rfl, Gs.nil w⟩
  · refine ⟨_, _, rfl, hl, hc, hm, (fun h => by cases h), fun hn => ⟨g, 0, rfl, fun i x hx => ?_⟩⟩
    have := h.cells (g := g) rfl i x hx
    rw [add_plain] at this
    exact this
theorem Gs.of_row {g : Nat} {T : TypeId} (h : Row w g T l) (hn : l.length = n) (hm : n ≤ maxLen) : Gs w (some ⟨g, 0, none⟩) n n l :=
  ⟨hn, Nat.le_refl _, hm, (fun h => by cases h), fun _ => ⟨g, 0, rfl, fun i x hx => by rw [Nat.zero_add]; exact h.cell hx⟩⟩
theorem Gs.lit (w : World) (vs : List Value) (m : Nat) (hm : vs.length = m) (hmm : m ≤ maxLen) (cs : Array Value) (hcs : cs.toList = vs) (T : TypeId) : Gs (w.alloc (.cells cs T)) (some ⟨w.heap.size, 0, none⟩) m m vs :=
  Gs.of_row (Row.new' w T hcs) hm hmm
theorem wp_append_gs {P : Program} {w : World} {o : Oper} {a : Act} {K : Act → World → Prop} {Q : Exit → Act → World → Prop} (s x : Operand) (t : TypeId)
    (ho : o.op = .call { callee := .builtin .append, args := #[s, x], argTypes := #[t, t] })
    (base : Nat) (e : TypeId) {z : Value} {by_ : Nat} (hi5 : (P.info? e).map (fun i => (i.zero, i.size, i.bytes)) = some (some z, 1, by_)) (hz1 : z.cells.size = 1) (hby : by_ ≤ 64) (ht : P.underlying t = some (.slice e))
    (v : Value) (n : Nat) (ys : List Value) (hs : a.eval s = v) (hown : w.ownsRow base e 1 v n ys)
    (A : Option Addr) (m c : Nat) (l : List Value) (hx : a.eval x = .slice A m c) (hb : Gs w A m c l) (h1 : ∀ u ∈ l, u.oneCell' = true) (h6 : n + m ≤ 1000000) (hbase : base ≤ w.heap.size)
    (h : ∀ v' w', w'.ownsRow base e 1 v' (n + m) (ys ++ l) → w.grownBy w' v.ownBlock → K (a.put o.dst v') w') : Oper.wp P o a w K Q := by
  obtain ⟨i0, hi, hz, hz1', hz2⟩ := info_parts hi5
  cases A with
  | none =>
    obtain rfl := hb.none_ rfl
    obtain rfl : m = 0 := by have := hb.cap; omega
    obtain rfl := List.eq_nil_of_length_eq_zero hb.len
    have hrun := run_append_owned_none (P := P) (w := w) base t o.type e i0 1 ht hi v n _ hown
    unfold Oper.wp
    simp [execOp, ho, resolve, invoke, builtin, hs, hx, hrun, Result.andThen]
    exact h v w (by simpa using hown) (World.grownBy.refl w _)
  | some ad =>
    have hbb : (n + m) * by_ ≤ 140737488355328 := Nat.le_trans (Nat.mul_le_mul h6 hby) (by decide)
    obtain ⟨v', w', hr, h2, h3, h4, h5⟩ := run_append_own_at (P := P) w base t o.type e i0 _ 1 by_ ht hi hz hz1' hz2 hz1 (by omega) v n _ hown ad m c l (by rw [hb.len]; omega) (fun j u hj => by
      obtain ⟨b, off, e0, hc⟩ := hb.get hj
      cases e0
      rw [add_plain]
      exact hc) h1 (by unfold maxLen; omega) hbb hbase
    unfold Oper.wp execOp
    simp only [ho, resolve, invoke, builtin, Sem.run_bind, Sem.run_pure, Result.andThen_ok, List.map_toArray, List.map_cons, List.map_nil, hs, hx, hr]
    exact h v' w' h2 h3
theorem wpList_append_gs {P : Program} {w : World} {ops : Array Oper} {rest : List Oper} {o : Oper} {a : Act} {Q : Exit → Act → World → Prop} (hgd : o.guard = none) (s x : Operand) (t : TypeId)
    (ho : o.op = .call { callee := .builtin .append, args := #[s, x], argTypes := #[t, t] })
    (base : Nat) (e : TypeId) {z : Value} {by_ : Nat} (hi5 : (P.info? e).map (fun i => (i.zero, i.size, i.bytes)) = some (some z, 1, by_)) (hz1 : z.cells.size = 1) (hby : by_ ≤ 64) (ht : P.underlying t = some (.slice e))
    (v : Value) (n : Nat) (ys : List Value) (hs : a.eval s = v) (hown : w.ownsRow base e 1 v n ys)
    (A : Option Addr) (m c : Nat) (l : List Value) (hx : a.eval x = .slice A m c) (hb : Gs w A m c l) (h1 : ∀ u ∈ l, u.oneCell' = true) (h6 : n + m ≤ 1000000) (hbase : base ≤ w.heap.size)
    (h : ∀ v' w', w'.ownsRow base e 1 v' (n + m) (ys ++ l) → w.grownBy w' v.ownBlock → wpList P ops Q rest (a.put o.dst v') w') :
    wpList P ops Q (o :: rest) a w :=
  wpList_plain hgd fun _ hK => wp_append_gs s x t ho base e hi5 hz1 hby ht v n ys hs hown A m c l hx hb h1 h6 hbase fun v' w' h1 h2 => hK _ _ (h v' w' h1 h2)
end
theorem iv_one (ns : List Nat) : ∀ u ∈ iv ns, u.oneCell' = true := by
  intro u hu
  obtain ⟨x, _, rfl⟩ := List.mem_map.1 hu
  rfl
theorem sv_one (xs : List ByteArray) : ∀ u ∈ sv xs, u.oneCell' = true := by
  intro u hu
  obtain ⟨x, _, rfl⟩ := List.mem_map.1 hu
  rfl
theorem iv_append (a b : List Nat) : iv (a ++ b) = iv a ++ iv b := by simp [iv]
theorem sv_append (a b : List ByteArray) : sv (a ++ b) = sv a ++ sv b := by simp [sv]
end Go.Proofs.YtoagfmonfgagbaaGreatDoor
