/-
  A queue and the document's table side by side, and a box that stays. Conditions: those of both.
-/
import Derived.Test.YtdpmjbhkmfjpfaaDoorPl17
namespace Go.Proofs.YtdpmjbhkmfjpfaaDoor
open Go.RowKit
set_option maxRecDepth 100000

def OpB (w : World) (p : Nat) (o : Op17) : Prop := w.heap[p]? = some (.cells #[.int .i64 o.kind, .int .i64 o.id, .int .u64 o.at_] 32 (0, 0))
/-- Both, by the same world. -/
structure Pq (w wr : World) (g e : Nat) (ob oe : Option Nat) (N : Int) (ys zs : List En) : Prop where
  q : QL wr g ob (heldV N) ys
  t : Ed wr e oe N zs
  dis : Dis g ob e oe
  lg : Lo w.heap.size g ob
  le : Lo w.heap.size e oe
  bel : Below w.heap.size w wr
  uniq : Go.Proofs.YtdpmjbhkmfjpfaaDoor.uniq zs
theorem Pq.later {w wr w' : World} {g e : Nat} {ob oe : Option Nat} {N : Int} {ys zs : List En} (h : Pq w wr g e ob oe N ys zs) (hb : Below wr.heap.size wr w') : Pq w w' g e ob oe N ys zs :=
  ⟨h.q.later hb (Nat.le_refl _), h.t.later hb (Nat.le_refl _), h.dis, h.lg, h.le, h.bel.trans (hb.mono h.bel.size), h.uniq⟩
theorem Pq.qstep {w wr w' : World} {g e : Nat} {ob oe ob' : Option Nat} {N : Int} {ys zs ys' : List En} (h : Pq w wr g e ob oe N ys zs) (h1 : QL w' g ob' (heldV N) ys') (hm : Mv g ob wr w') (hf : Fresh ob ob' wr.heap.size) : Pq w w' g e ob' oe N ys' zs :=
  ⟨h1, h.t.keep (hm.block e h.t.lt (fun e2 => h.dis.1 e2.symm) (fun e2 => h.dis.2.1 e2.symm)) fun b hb => hm.block b (h.t.lto hb) (fun e2 => h.dis.2.2.1 (e2 ▸ hb)) (fun e2 => h.dis.2.2.2 b e2.symm hb),
    h.dis.fresh hf h.t.lt (fun _ hb => h.t.lto hb), h.lg.fresh hf h.bel.size, h.le, hm.lo h.bel h.lg h.bel.size, h.uniq⟩
theorem Pq.tstep {w wr w' : World} {g e : Nat} {ob oe oe' : Option Nat} {N : Int} {ys zs zs' : List En} (h : Pq w wr g e ob oe N ys zs) (h1 : Ed w' e oe' N zs') (hm : Mv e none wr w') (hf : Fr oe oe' wr.heap.size) (hu : Go.Proofs.YtdpmjbhkmfjpfaaDoor.uniq zs') : Pq w w' g e ob oe' N ys zs' :=
  ⟨h.q.keep (hm.block g h.q.lt h.dis.1 (by simp)) fun b hb => hm.block b (h.q.lto hb) (fun e2 => h.dis.2.1 (e2 ▸ hb)) (by simp), h1,
    ⟨h.dis.1, h.dis.2.1, fun e2 => by
      rcases hf g e2 with e3 | e3
      · exact h.dis.2.2.1 e3
      · have := h.q.lt
        omega, fun b hb e2 => by
      rcases hf b e2 with e3 | e3
      · exact h.dis.2.2.2 b hb e3
      · have := h.q.lto hb
        omega⟩, h.lg, ⟨h.le.1, fun b hb => by
      rcases hf b hb with e3 | e3
      · exact h.le.2 b e3
      · exact Nat.le_trans h.bel.size e3⟩, Mv.below h.bel hm h.le.1 (fun b hb => by cases hb) h.bel.size, hu⟩
/-- And a box that none of them holds. -/
def Pp (w wr : World) (g e : Nat) (N : Int) (ys zs : List En) (p : Nat) (o : Op17) : Prop := ∃ ob oe, Pq w wr g e ob oe N ys zs ∧ OpB wr p o ∧ p ≠ g ∧ p ≠ e ∧ ob ≠ some p ∧ oe ≠ some p
def Ps (w wr : World) (g e : Nat) (N : Int) (ys : List En) : Prop := ∃ ob oe, Pq w wr g e ob oe N ys ys
section
variable {w wr w' : World} {g e p : Nat} {N : Int} {ys zs : List En} {o : Op17}
theorem OpB.lt (h : OpB wr p o) : p < wr.heap.size := (Array.getElem?_eq_some_iff.1 h).1
theorem OpB.cell (h : OpB wr p o) (j : Nat) : wr.cell? ⟨p, j, none⟩ = #[Value.int .i64 o.kind, .int .i64 o.id, .int .u64 o.at_][j]? := cell_of_row wr p j _ _ _ h
theorem Ps.box (h : Ps w wr g e N ys) (o : Op17) : Pp w (wr.alloc (.cells #[.int .i64 o.kind, .int .i64 o.id, .int .u64 o.at_] 32)) g e N ys ys wr.heap.size o := by
  obtain ⟨ob, oe, h⟩ := h
  exact ⟨ob, oe, h.later ((Below.refl _ _).alloc (Nat.le_refl _) _), heap_alloc_new wr _, Nat.ne_of_gt h.q.lt, Nat.ne_of_gt h.t.lt, fun e2 => absurd (h.q.lto e2) (Nat.lt_irrefl _), fun e2 => absurd (h.t.lto e2) (Nat.lt_irrefl _)⟩
theorem Pp.base (h : Pp w wr g e N ys ys p o) : Ps w wr g e N ys := by
  obtain ⟨ob, oe, h, _⟩ := h
  exact ⟨ob, oe, h⟩
theorem Ps.below (h : Ps w wr g e N ys) : Below w.heap.size w wr := by
  obtain ⟨ob, oe, h⟩ := h
  exact h.bel
theorem Ps.later (h : Ps w wr g e N ys) (hb : Below wr.heap.size wr w') : Ps w w' g e N ys := by
  obtain ⟨ob, oe, h⟩ := h
  exact ⟨ob, oe, h.later hb⟩
theorem Pp.op (h : Pp w wr g e N ys zs p o) : OpB wr p o := by
  obtain ⟨ob, oe, _, h, _⟩ := h
  exact h
theorem Pp.below (h : Pp w wr g e N ys zs p o) : Below w.heap.size w wr := by
  obtain ⟨ob, oe, h, _⟩ := h
  exact h.bel
theorem Pp.later (h : Pp w wr g e N ys zs p o) (hb : Below wr.heap.size wr w') : Pp w w' g e N ys zs p o := by
  obtain ⟨ob, oe, h, h1, h2⟩ := h
  exact ⟨ob, oe, h.later hb, (hb.block p h1.lt).trans h1, h2⟩
theorem Pp.qstep {ob oe ob' : Option Nat} {ys' : List En} (h : Pq w wr g e ob oe N ys zs) (h5 : OpB wr p o ∧ p ≠ g ∧ p ≠ e ∧ ob ≠ some p ∧ oe ≠ some p) (h1 : QL w' g ob' (heldV N) ys') (hm : Mv g ob wr w') (hf : Fresh ob ob' wr.heap.size) : Pp w w' g e N ys' zs p o :=
  ⟨ob', oe, h.qstep h1 hm hf, (hm.block p h5.1.lt h5.2.1 (fun e2 => h5.2.2.2.1 e2.symm)).trans h5.1, h5.2.1, h5.2.2.1, fun e2 => by
    rcases hf with e3 | ⟨b, e3, hb⟩
    · exact h5.2.2.2.1 (e3 ▸ e2)
    · have := h5.1.lt
      rw [e3] at e2
      have := Option.some.inj e2
      omega, h5.2.2.2.2⟩
theorem Pp.tstep {ob oe oe' : Option Nat} {zs' : List En} (h : Pq w wr g e ob oe N ys zs) (h5 : OpB wr p o ∧ p ≠ g ∧ p ≠ e ∧ ob ≠ some p ∧ oe ≠ some p) (h1 : Ed w' e oe' N zs') (hm : Mv e none wr w') (hf : Fr oe oe' wr.heap.size) (hu : uniq zs') : Pp w w' g e N ys zs' p o :=
  ⟨ob, oe', h.tstep h1 hm hf hu, (hm.block p h5.1.lt h5.2.2.1 (by simp)).trans h5.1, h5.2.1, h5.2.2.1, h5.2.2.2.1, fun e2 => by
    rcases hf p e2 with e3 | e3
    · exact h5.2.2.2.2 e3
    · have := h5.1.lt
      omega⟩
theorem Pp.qpush (h : Pp w wr g e N ys zs p o) (hbig : ys.length ≤ 100000) (id t : Int) : Calls Tryd.prog 16 #[.pointer (some ⟨g, 0, none⟩), .int .i64 id, .int .u64 t] wr fun ev w' => ev = .returned (resV id (pushE (heldV N) ys id)) ∧ Pp w w' g e N (pushL (heldV N) ys id t) zs p o := by
  obtain ⟨ob, oe, h, h5⟩ := h
  exact (push_L h.q hbig id t).mono fun _ _ ⟨e1, ob', k1, k2, k3⟩ => ⟨e1, Pp.qstep h h5 k1 k2 k3⟩
theorem Pp.qmove (h : Pp w wr g e N ys zs p o) (hbig : ys.length ≤ 100000) (id t : Int) : Calls Tryd.prog 9 #[.pointer (some ⟨g, 0, none⟩), .int .i64 id, .int .u64 t] wr fun ev w' => ev = .returned (resV id (hasC ys id)) ∧ Pp w w' g e N (moveE ys id t) zs p o := by
  obtain ⟨ob, oe, h, h5⟩ := h
  exact (move_L h.q hbig id t).mono fun _ _ ⟨e1, ob', k1, k2, k3⟩ => ⟨e1, Pp.qstep h h5 k1 k2 k3⟩
theorem Pp.qcancel (h : Pp w wr g e N ys zs p o) (id : Int) : Calls Tryd.prog 11 #[.pointer (some ⟨g, 0, none⟩), .int .i64 id] wr fun ev w' => ev = .returned (resV id (hasC ys id)) ∧ Pp w w' g e N (cancelE ys id) zs p o := by
  obtain ⟨ob, oe, h, h5⟩ := h
  exact (cancel_L h.q id).mono fun _ _ ⟨e1, k1, k2⟩ => ⟨e1, Pp.qstep h h5 k1 k2 (.inl rfl)⟩
theorem Pp.qdue (h : Pp w wr g e N ys zs p o) (hbig : ys.length ≤ 100000) (now : Int) : Calls Tryd.prog 14 #[.pointer (some ⟨g, 0, none⟩), .int .u64 now] wr fun ev w' => ∃ v, ev = .returned v ∧ Pp w w' g e N (dueL now ys).2 zs p o ∧ EO w' v (dueL now ys).1 ∧ ∀ b, v.ownBlock = some b → b ≠ e := by
  obtain ⟨ob, oe, h, h5⟩ := h
  exact (due_L h.q (by omega) now).mono fun _ _ ⟨v, e1, k1, k2, k3, k4⟩ => ⟨v, e1, Pp.qstep h h5 k1 k4 (.inl rfl), k2, fun b hb => by
    rcases k3 with e3 | ⟨b', e3, hb'⟩
    · rw [e3] at hb; cases hb
    · rw [e3] at hb
      have := h.t.lt
      have := Option.some.inj hb
      omega⟩
theorem Pp.tpush (h : Pp w wr g e N ys zs p o) (hbig : zs.length ≤ 100000) (id t : Int) : Calls Tryd.prog 17 #[.pointer (some ⟨e, 0, none⟩), .int .i64 id, .int .u64 t] wr fun ev w' => ev = .returned (.agg #[.int .i64 (pushE (heldV N) zs id), .int .i64 0, .bool false]) ∧ Pp w w' g e N ys (pushL (heldV N) zs id t) p o := by
  obtain ⟨ob, oe, h, h5⟩ := h
  refine (push_E h.t hbig id t).mono fun _ _ ⟨e1, ob', k1, k2, k3⟩ => ⟨e1, Pp.tstep h h5 k1 k2 k3 ?_⟩
  unfold pushL
  by_cases h0 : pushE (heldV N) zs id = 0
  · rw [if_pos h0]
    refine h.uniq.push ?_
    unfold pushE at h0
    cases hv : hasV zs id with
    | false => rfl
    | true => rw [hv] at h0; simp at h0
  · rw [if_neg h0]
    exact h.uniq
theorem Pp.tmove (h : Pp w wr g e N ys zs p o) (hbig : zs.length ≤ 100000) (id t : Int) : Calls Tryd.prog 10 #[.pointer (some ⟨e, 0, none⟩), .int .i64 id, .int .u64 t] wr fun ev w' => ev = .returned (.agg #[.int .i64 (hasC zs id), .int .i64 0, .bool false]) ∧ Pp w w' g e N ys (moveE zs id t) p o := by
  obtain ⟨ob, oe, h, h5⟩ := h
  exact (move_E h.t h.uniq hbig id t).mono fun _ _ ⟨e1, ob', k1, k2, k3⟩ => ⟨e1, Pp.tstep h h5 k1 k2 k3 (h.uniq.move id t)⟩
theorem Pp.tcancel (h : Pp w wr g e N ys zs p o) (hbig : zs.length ≤ 100000) (id : Int) : Calls Tryd.prog 12 #[.pointer (some ⟨e, 0, none⟩), .int .i64 id] wr fun ev w' => ev = .returned (.agg #[.int .i64 (hasC zs id), .int .i64 0, .bool false]) ∧ Pp w w' g e N ys (cancelE zs id) p o := by
  obtain ⟨ob, oe, h, h5⟩ := h
  exact (cancel_E h.t h.uniq hbig id).mono fun _ _ ⟨e1, ob', k1, k2, k3⟩ => ⟨e1, Pp.tstep h h5 k1 k2 k3 (h.uniq.cancel id)⟩
theorem Pp.tdue (h : Pp w wr g e N ys zs p o) (hbig : zs.length ≤ 100000) (now : Int) : Calls Tryd.prog 15 #[.pointer (some ⟨e, 0, none⟩), .int .u64 now] wr fun ev w' => ∃ v, ev = .returned v ∧ Pp w w' g e N ys (dueL now zs).2 p o ∧ EO w' v (dueL now zs).1 ∧ Mv e none wr w' := by
  obtain ⟨ob, oe, h, h5⟩ := h
  refine (due_E h.t h.uniq hbig now).mono fun _ _ ⟨v, ob', e1, k1, k2, k3, k4⟩ => ⟨v, e1, Pp.tstep h h5 k1 k3 k4 ?_, k2, k3⟩
  rw [(dueL_spec now zs).1]
  exact h.uniq.filter _
theorem Ps.qnext (h : Ps w wr g e N ys) : Calls Tryd.prog 18 #[.pointer (some ⟨g, 0, none⟩)] wr fun ev w' => ev = .returned (nextR (nextV ys)) ∧ Below wr.heap.size wr w' := by
  obtain ⟨ob, oe, h⟩ := h
  exact next_L h.q
theorem Ps.tnext (h : Ps w wr g e N ys) (hbig : ys.length ≤ 100000) : Calls Tryd.prog 19 #[.pointer (some ⟨e, 0, none⟩)] wr fun ev w' => ev = .returned (nextR (nextV ys)) ∧ Below wr.heap.size wr w' := by
  obtain ⟨ob, oe, h⟩ := h
  exact next_E h.t (by omega)
theorem Ps.qat (h : Ps w wr g e N ys) (id : Int) : Calls Tryd.prog 20 #[.pointer (some ⟨g, 0, none⟩), .int .i64 id] wr fun ev w' => ev = .returned (atR (atV ys id)) ∧ Below wr.heap.size wr w' := by
  obtain ⟨ob, oe, h⟩ := h
  exact at_L h.q id
theorem Ps.qlen (h : Ps w wr g e N ys) : Calls Tryd.prog 21 #[.pointer (some ⟨g, 0, none⟩)] wr fun ev w' => ev = .returned (.int .i64 ys.length) ∧ wr = w' := by
  obtain ⟨ob, oe, h⟩ := h
  exact len_L h.q
theorem Ps.row (h : Ps w wr g e N ys) : ∃ A c, wr.cell? ⟨e, 1, none⟩ = some (.slice A ys.length c) ∧ EnS wr A ys.length c ys := by
  obtain ⟨ob, oe, h⟩ := h
  obtain ⟨A, c, _, q1, _, hs, _⟩ := h.t.open_
  exact ⟨A, c, q1, hs⟩
theorem Ps.uniq (h : Ps w wr g e N ys) : Go.Proofs.YtdpmjbhkmfjpfaaDoor.uniq ys := by
  obtain ⟨ob, oe, h⟩ := h
  exact h.uniq
end
theorem pushL_length (cap : Nat) (l : List En) (id t : Int) : (pushL cap l id t).length ≤ l.length + 1 := by
  unfold pushL
  split
  · simp
  · omega
theorem moveE_length (l : List En) (id t : Int) : (moveE l id t).length = l.length := by simp [moveE]
theorem cancelE_le (l : List En) (id : Int) : (cancelE l id).length ≤ l.length := List.length_filter_le _ _
theorem dueL_le (now : Int) (l : List En) : (dueL now l).2.length ≤ l.length := by
  rw [(dueL_spec now l).1]
  exact List.length_filter_le _ _
theorem nextR_tup (o : Option En) : ∃ i t b, nextR o = .tuple #[.agg #[.int .i64 i, .int .u64 t], .bool b] := by
  cases o <;> exact ⟨_, _, _, rfl⟩
theorem atR_tup (o : Option Int) : ∃ t b, atR o = .tuple #[.int .u64 t, .bool b] := by
  cases o <;> exact ⟨_, _, rfl⟩
theorem EnB.range {w : World} {g : Nat} {i t : Int} (h : EnB w g i t) : w.rangeAt g 0 [.int .i64 i, .int .u64 t] :=
  en_range (cell_of_row w g 0 _ _ _ h) (cell_of_row w g 1 _ _ _ h)
theorem EnB.lt {w : World} {g : Nat} {i t : Int} (h : EnB w g i t) : g < w.heap.size := (Array.getElem?_eq_some_iff.1 h).1
/-- What was seen of an id among the first. -/
def Seen (ys : List En) (id : Int) (k : Nat) (t : Int) (b : Bool) : Prop := (b = false ∧ t = 0 ∧ ∀ (j : Nat) (x : En), j < k → ys[j]? = some x → x.id ≠ id) ∨ (b = true ∧ ∃ x ∈ ys, x.id = id ∧ t = x.at_)
theorem Seen.end_ {ys : List En} {id t : Int} {b : Bool} (hu : uniq ys) (h : Seen ys id ys.length t b) : atR (atV ys id) = .tuple #[.int .u64 t, .bool b] := by
  rcases h with ⟨rfl, rfl, h⟩ | ⟨rfl, x, hx, rfl, rfl⟩
  · have hv : hasV ys id = false := by
      refine Bool.eq_false_iff.2 fun h2 => ?_
      obtain ⟨y, hy, h3⟩ := hasV_iff.1 h2
      obtain ⟨j, hj⟩ := List.mem_iff_getElem?.1 hy
      exact h j y (List.getElem?_eq_some_iff.1 hj).1 hj h3
    rw [atV_none hv]
    rfl
  · rw [atV_of hu hx]
    rfl
theorem Seen.yes {ys : List En} {id t : Int} {b : Bool} {k : Nat} {x : En} (_h : Seen ys id k t b) (hx : ys[k]? = some x) (he : x.id = id) : Seen ys id (k + 1) x.at_ true := .inr ⟨rfl, x, List.mem_of_getElem? hx, he, rfl⟩
theorem Seen.no {ys : List En} {id t : Int} {b : Bool} {k : Nat} {x : En} (h : Seen ys id k t b) (hx : ys[k]? = some x) (he : x.id ≠ id) : Seen ys id (k + 1) t b := by
  rcases h with ⟨rfl, rfl, h⟩ | h
  · refine .inl ⟨rfl, rfl, fun j y hj hy => ?_⟩
    by_cases hjk : j = k
    · subst hjk
      obtain rfl := Option.some.inj (hx.symm.trans hy)
      exact he
    · exact h j y (by omega) hy
  · exact .inr h
end Go.Proofs.YtdpmjbhkmfjpfaaDoor
