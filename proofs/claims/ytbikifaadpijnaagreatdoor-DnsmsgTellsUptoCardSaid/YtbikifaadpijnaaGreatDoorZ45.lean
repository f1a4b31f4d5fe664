/-
  Slices of questions and of records: as rows of the call's own that grow, and as they read. Conditions: a million of them at most.
  append of records onto an own row, in a drawn region; where a row's data lie. No conditions.
  slices.Concat at lists of records, three of them. Conditions: those of the slices; a thousand records at most.
  Package dnsmsg's list, at questions and at records. Conditions: those of the slice; 2^47 bytes at most; a million of them at most; errors.errorType holds the handle of the type error.
  A slice of records that a call owns, with the blocks that its row and its data lie between: it stays where these blocks stay. Conditions: none.
  stockaderef12.records: what the document tells of so many records. Conditions: those of the slice; a million bytes at most.
  Package dnsmsg's whole: a message's lists, one behind the other. Conditions: those of the slice; 2^47 bytes at most; errors.errorType holds the handle of the type error.
  Package dnsmsg's written, at questions and at records. Conditions: those of the slices; a thousand of them at most; what the program's text has laid (internal/bytealg.MaxLen holds an int).
-/
import Derived.Test.YtbikifaadpijnaaGreatDoorZ32
import Derived.Test.YtbikifaadpijnaaGreatDoorZ41
import Derived.Maps.AppendAt
import Derived.Great.BuildSlice
import Derived.Laws.AppendOwnNone
import Derived.Test.YtbikifaadpijnaaGreatDoorZ19
import Derived.IntWalk
import Derived.Test.YtbikifaadpijnaaGreatDoorZ44
import Derived.Test.YtbikifaadpijnaaGreatDoorZ40
import Derived.Test.YtbikifaadpijnaaGreatDoorZ31
import Derived.Test.YtbikifaadpijnaaGreatDoorZ42
namespace Go.Proofs.YtbikifaadpijnaaGreatDoor
open Go.RowKit
set_option maxRecDepth 100000

theorem Bs.away {w w' : World} {A : Option Addr} {n c : Nat} {l : List UInt8} (h : Bs w A n c l) (hk : 0 < n → ∀ a, A = some a → w'.heap[a.block]? = w.heap[a.block]?) : Bs w' A n c l :=
  ⟨h.len, h.cap, h.max, h.none_, fun hn => by
    obtain ⟨b, off, hA, hc⟩ := h.here hn
    refine ⟨b, off, hA, fun i x hx => ?_⟩
    rw [← hc i x hx]
    exact World.cell?_of_block (a := ⟨b, off + i, none⟩) (hk hn ⟨b, off, none⟩ hA)⟩
theorem Bs.blk {w : World} {A : Option Addr} {n c : Nat} {l : List UInt8} (h : Bs w A n c l) (hn : 0 < n) {a : Addr} (ha : A = some a) : a.block < w.heap.size := by
  obtain ⟨b, off, hA, hc⟩ := h.here hn
  rw [ha] at hA
  cases hA
  obtain ⟨x, hx⟩ : ∃ x, l[0]? = some x := ⟨l[0]'(by have := h.len; omega), List.getElem?_eq_getElem _⟩
  exact lt_of_cell' (hc 0 x hx)
theorem infoQ : (Tryz.prog.info? 51).map (fun i => (i.zero, i.size, i.bytes)) = some (some (.agg (qsv .zero)), 3, 32) := by kernel_rfl
theorem infoR : (Tryz.prog.info? 57).map (fun i => (i.zero, i.size, i.bytes)) = some (some (.agg (rcv .zero none 0 0)), 23, 96) := by kernel_rfl
theorem info_of {P : Program} {e : TypeId} {z : Value} {s b : Nat} (h : (P.info? e).map (fun i => (i.zero, i.size, i.bytes)) = some (some z, s, b)) : ∃ i, P.info? e = some i ∧ i.zero = some z ∧ i.size = s ∧ i.bytes = b := by
  cases hi : P.info? e with
  | none => rw [hi] at h; cases h
  | some i =>
    rw [hi] at h
    simp only [Option.map_some, Option.some.injEq, Prod.mk.injEq] at h
    exact ⟨i, rfl, h.1, h.2.1, h.2.2⟩
/-- A slice literal of one struct. -/
theorem wpList_lit1 {P : Program} {ops : Array Oper} {rest : List Oper} {o : Oper} {a : Act} {w : World} {Q : Exit → Act → World → Prop} (hgd : o.guard = none) (t e : TypeId) (x : Operand) (ho : o.op = .buildSlice t 1 #[(0, x)])
    (cs : Array Value) (hx : a.eval x = .agg cs) {z : Value} {s b : Nat} (hi : (P.info? e).map (fun i => (i.zero, i.size, i.bytes)) = some (some z, s, b)) (hs : cs.size = s) (hp : 0 < s) (hm : s ≤ 1000) (hu : P.underlying t = some (.slice e))
    (h : wpList P ops Q rest (a.put o.dst (.slice (some ⟨w.heap.size, 0, none⟩) 1 1)) (w.alloc (.cells cs e))) : wpList P ops Q (o :: rest) a w := by
  obtain ⟨i, h1, h2, h3, _⟩ := info_of hi
  refine wpList_buildSlice hgd t e 1 _ ho cs i z hu h1 h2 (by rw [h3]; omega) (by rw [h3]; omega) ?_ h
  have hf := Great.fill_whole hp [Value.agg cs] ((Array.range (1 * i.size)).map (z.cells[· % z.cells.size]!)) (fun v hv => by
    obtain rfl := List.mem_singleton.1 hv
    exact hs) (by simp [h3])
  rw [h3] at hf ⊢
  simp only [List.zipIdx, List.map_cons, List.map_nil, List.flatMap_cons, List.flatMap_nil, List.append_nil] at hf
  simp only [List.map_toArray, List.map_cons, List.map_nil, hx]
  rw [hf]
  simp [Value.cells]
/-! ### Questions -/
def qsL (xs : List Qs) : List Value := xs.map fun q => .agg (qsv q)
def qsC (xs : List Qs) : List Value := (qsL xs).flatMap fun v => v.cells.toList
theorem qsC_snoc (xs : List Qs) (q : Qs) : qsC (xs ++ [q]) = qsC xs ++ (qsv q).toList := by simp [qsC, qsL, Value.cells]
def QsO (w : World) (base : Nat) (v : Value) (xs : List Qs) : Prop := w.ownsRow base 51 3 v xs.length (qsC xs)
theorem QsO.nil (w : World) (base : Nat) : QsO w base (.slice none 0 0) [] := World.ownsRow_nil _ _ _ _
theorem QsO.later {w w' : World} {base : Nat} {v : Value} {xs : List Qs} (h : QsO w base v xs) (hb : Below w.heap.size w w') : QsO w' base v xs := own_kept h hb
theorem wpList_push_qs {ops : Array Oper} {rest : List Oper} {o : Oper} {a : Act} {w : World} {Q : Exit → Act → World → Prop} (hgd : o.guard = none) (s x : Operand)
    (ho : o.op = .call { callee := .builtin .append, args := #[s, x], argTypes := #[23, 23] }) (base : Nat) (v : Value) (xs : List Qs) (hs : a.eval s = v) (hown : QsO w base v xs)
    {g : Nat} {q : Qs} (hx : a.eval x = .slice (some ⟨g, 0, none⟩) 1 1) (hq : QsBox w g q) (hm : xs.length ≤ 1000000) (hbase : base ≤ w.heap.size)
    (h : ∀ v' w', QsO w' base v' (xs ++ [q]) → w.grownBy w' v.ownBlock → wpList Tryz.prog ops Q rest (a.put o.dst v') w') : wpList Tryz.prog ops Q (o :: rest) a w := by
  obtain ⟨i, h1, h2, h3, h4⟩ := info_of infoQ
  refine wpList_append_own_at w hgd s x 23 ho base 51 i _ 3 32 Tryz.underlying23 h1 h2 h3 h4 rfl (by decide) v xs.length _ hs hown ⟨g, 0, none⟩ 1 1 (qsv q).toList hx rfl (fun j u hj => by
    have := hq.range j u hj
    rw [add_plain]
    exact this) (fun u hu => by
    have := (Array.all_eq_true'.1 (qs_one q)) u (by simpa using hu)
    exact this) (by unfold maxLen; omega) (by omega) hbase ?_
  intro v' w' o' g' _ _
  refine h v' w' ?_ g'
  unfold QsO
  rw [qsC_snoc, List.length_append]
  exact o'
/-- A slice of questions, as it reads. -/
structure QsS (lo : Nat) (w : World) (A : Option Addr) (n c : Nat) (xs : List Qs) : Prop where
  len : xs.length = n
  cap : n ≤ c
  max : c ≤ maxLen
  none_ : A = none → c = 0
  here : ∀ (i : Nat) q, xs[i]? = some q → ∃ b off, A = some ⟨b, off, none⟩ ∧ w.rangeAt b (off + i * 3) (qsv q).toList ∧ lo ≤ b
theorem rangeAt_later {B : Nat} {w w' : World} {b o : Nat} {cs : List Value} (h : w.rangeAt b o cs) (_ : cs ≠ []) (hb : Below B w w') (hB : w.heap.size ≤ B) : w'.rangeAt b o cs := fun j v hj => by
  have h1 := h j v hj
  have hlt : b < w.heap.size := lt_of_cell' h1
  rw [hb.cell (p := ⟨b, o + j, none⟩) (by show b < B; omega)]
  exact h1
theorem QsS.later {B lo : Nat} {w w' : World} {A : Option Addr} {n c : Nat} {xs : List Qs} (h : QsS lo w A n c xs) (hb : Below B w w') (hB : w.heap.size ≤ B) : QsS lo w' A n c xs :=
  ⟨h.len, h.cap, h.max, h.none_, fun i q hq => by
    obtain ⟨b, off, hA, hr, hl⟩ := h.here i q hq
    exact ⟨b, off, hA, rangeAt_later hr (by simp [qsv]) hb hB, hl⟩⟩
theorem QsS.away {lo : Nat} {w w' : World} {A : Option Addr} {n c : Nat} {xs : List Qs} (h : QsS lo w A n c xs) (hk : ∀ k, lo ≤ k → w'.heap[k]? = w.heap[k]?) : QsS lo w' A n c xs :=
  ⟨h.len, h.cap, h.max, h.none_, fun i q hq => by
    obtain ⟨b, off, hA, hr, hl⟩ := h.here i q hq
    exact ⟨b, off, hA, fun j u hj => (World.cell?_of_block (a := ⟨b, off + i * 3 + j, none⟩) (hk b hl)).trans (hr j u hj), hl⟩⟩
theorem QsS.low {lo lo' : Nat} {w : World} {A : Option Addr} {n c : Nat} {xs : List Qs} (h : QsS lo w A n c xs) (hl : lo' ≤ lo) : QsS lo' w A n c xs :=
  ⟨h.len, h.cap, h.max, h.none_, fun i q hq => by
    obtain ⟨b, off, hA, hr, hb⟩ := h.here i q hq
    exact ⟨b, off, hA, hr, Nat.le_trans hl hb⟩⟩
theorem QsS.nil (lo : Nat) (w : World) : QsS lo w none 0 0 [] := ⟨rfl, Nat.le_refl _, Nat.zero_le _, fun _ => rfl, fun i q h => by cases h⟩
theorem QsS.of_own {w : World} {base : Nat} {v : Value} {xs : List Qs} (h : QsO w base v xs) : ∃ A c, v = .slice A xs.length c ∧ QsS base w A xs.length c xs := by
  unfold QsO at h
  rcases h.2 with ⟨rfl, h0⟩ | ⟨g, cap, cur, rfl, hlo, _, hc, hm, _, _⟩
  · obtain rfl := List.eq_nil_of_length_eq_zero h0
    exact ⟨none, 0, rfl, QsS.nil _ w⟩
  · refine ⟨_, _, rfl, rfl, hc, hm, (fun h => by cases h), fun i q hq => ⟨g, 0, rfl, fun j u hj => ?_, hlo⟩⟩
    have hj3 : j < 3 := by
      have := (List.getElem?_eq_some_iff.1 hj).1
      simpa [qsv] using this
    have hk := h.cells (g := g) rfl (i * 3 + j) u (by
      unfold qsC
      rw [Great.flat_get (s := 3) (by decide) (qsL xs) (fun v hv => by
        unfold qsL at hv
        obtain ⟨q', _, rfl⟩ := List.mem_map.1 hv
        rfl) (i * 3 + j), show (i * 3 + j) / 3 = i by omega, show (i * 3 + j) % 3 = j by omega]
      unfold qsL
      rw [List.getElem?_map, hq]
      simpa [Value.cells] using hj)
    rw [add_plain, Nat.zero_add] at hk
    rw [Nat.zero_add]
    exact hk
/-! ### Records -/
def rcL (xs : List Rc) (ds : List Sl) : List Value := List.zipWith (fun r s => .agg (rcv r s.A s.n s.c)) xs ds
def rcC (xs : List Rc) (ds : List Sl) : List Value := (rcL xs ds).flatMap fun v => v.cells.toList
theorem rcC_snoc {xs : List Rc} {ds : List Sl} (h : xs.length = ds.length) (r : Rc) (s : Sl) : rcC (xs ++ [r]) (ds ++ [s]) = rcC xs ds ++ (rcv r s.A s.n s.c).toList := by
  unfold rcC rcL
  rw [List.zipWith_append h]
  simp [Value.cells]
structure RcO (lo : Nat) (w : World) (base : Nat) (v : Value) (xs : List Rc) (ds : List Sl) : Prop where
  own : w.ownsRow base 57 23 v xs.length (rcC xs ds)
  len : xs.length = ds.length
  ok : ∀ r ∈ xs, r.ok
  dat : ∀ (i : Nat) r s, xs[i]? = some r → ds[i]? = some s → Bs w s.A s.n s.c r.data ∧ (0 < s.n → ∀ a, s.A = some a → some a.block ≠ v.ownBlock ∧ lo ≤ a.block)
theorem RcO.nil (lo : Nat) (w : World) (base : Nat) : RcO lo w base (.slice none 0 0) [] [] := ⟨World.ownsRow_nil _ _ _ _, rfl, (fun r h => by cases h), fun i r s h => by cases h⟩
theorem RcO.later {lo : Nat} {w w' : World} {base : Nat} {v : Value} {xs : List Rc} {ds : List Sl} (h : RcO lo w base v xs ds) (hb : Below w.heap.size w w') : RcO lo w' base v xs ds :=
  ⟨own_kept h.own hb, h.len, h.ok, fun i r s hr hs => ⟨(h.dat i r s hr hs).1.later hb (Nat.le_refl _), (h.dat i r s hr hs).2⟩⟩
theorem RcO.fresh {lo : Nat} {w : World} {base : Nat} {v : Value} {xs : List Rc} {ds : List Sl} (h : RcO lo w base v xs ds) {A : Option Addr} {n : Nat} (hO : Ow w.heap.size A) : lo ≤ w.heap.size → 0 < n → ∀ a, A = some a → some a.block ≠ v.ownBlock ∧ lo ≤ a.block := fun hbs _ a ha =>
  ⟨fun e => absurd (World.ownsRow.lt h.own a.block e.symm).2 (Nat.not_lt_of_le (hO a ha)), Nat.le_trans hbs (hO a ha)⟩
theorem wpList_push_rc {ops : Array Oper} {rest : List Oper} {o : Oper} {a : Act} {w : World} {Q : Exit → Act → World → Prop} (hgd : o.guard = none) (s x : Operand)
    (ho : o.op = .call { callee := .builtin .append, args := #[s, x], argTypes := #[24, 24] }) {lo : Nat} (base : Nat) (v : Value) (xs : List Rc) (ds : List Sl) (hs : a.eval s = v) (hown : RcO lo w base v xs ds)
    {g : Nat} {r : Rc} {d : Sl} (hx : a.eval x = .slice (some ⟨g, 0, none⟩) 1 1) (hq : RcBox w g r d.A d.n d.c) (hd : Bs w d.A d.n d.c r.data) (hdv : 0 < d.n → ∀ a, d.A = some a → some a.block ≠ v.ownBlock ∧ lo ≤ a.block) (hm : xs.length ≤ 1000000) (hbase : base ≤ w.heap.size)
    (h : ∀ v' w', RcO lo w' base v' (xs ++ [r]) (ds ++ [d]) → w.grownBy w' v.ownBlock → wpList Tryz.prog ops Q rest (a.put o.dst v') w') : wpList Tryz.prog ops Q (o :: rest) a w := by
  obtain ⟨i, h1, h2, h3, h4⟩ := info_of infoR
  refine wpList_append_own_at w hgd s x 24 ho base 57 i _ 23 96 Tryz.underlying24 h1 h2 h3 h4 (by simpa [Value.cells] using rcv_size Rc.zero_ok none 0 0) (by decide) v xs.length _ hs hown.own ⟨g, 0, none⟩ 1 1 (rcv r d.A d.n d.c).toList hx (by rw [Array.length_toList, rcv_size hq.2]) (fun j u hj => by
    have := hq.range j u hj
    rw [add_plain]
    exact this) (fun u hu => by
    have := (Array.all_eq_true'.1 (rcv_one r d.A d.n d.c)) u (by simpa using hu)
    exact this) (by unfold maxLen; omega) (by omega) hbase ?_
  intro v' w' o' g' _ hat
  have away : ∀ (A : Option Addr) (n c : Nat) (l : List UInt8), Bs w A n c l → (0 < n → ∀ a, A = some a → some a.block ≠ v.ownBlock ∧ lo ≤ a.block) → Bs w' A n c l ∧ (0 < n → ∀ a, A = some a → some a.block ≠ v'.ownBlock ∧ lo ≤ a.block) := fun A n c l hB hA =>
    ⟨hB.away fun hn a ha => g'.block a.block (hB.blk hn ha) (hA hn a ha).1, fun hn a ha => by
      refine ⟨?_, (hA hn a ha).2⟩
      rcases hat with e | e
      · rw [e]; exact (hA hn a ha).1
      · rw [e]
        intro e2
        have h1 := hB.blk hn ha
        have h2 := Option.some.inj e2
        omega⟩
  refine h v' w' ⟨?_, by simp [hown.len], ?_, ?_⟩ g'
  · rw [rcC_snoc hown.len, List.length_append]
    exact o'
  · intro r' hr'
    rcases List.mem_append.1 hr' with hr' | hr'
    · exact hown.ok r' hr'
    · obtain rfl := List.mem_singleton.1 hr'
      exact hq.2
  · intro j r' s' hr' hs'
    by_cases hj : j < xs.length
    · rw [List.getElem?_append_left hj] at hr'
      rw [List.getElem?_append_left (by rw [← hown.len]; exact hj)] at hs'
      exact away _ _ _ _ (hown.dat j r' s' hr' hs').1 (hown.dat j r' s' hr' hs').2
    · rw [List.getElem?_append_right (by omega)] at hr'
      rw [List.getElem?_append_right (by rw [← hown.len]; omega), ← hown.len] at hs'
      have hj0 : j - xs.length = 0 := by
        have := (List.getElem?_eq_some_iff.1 hr').1
        simp at this
        omega
      rw [hj0] at hr' hs'
      cases hr'
      cases hs'
      exact away _ _ _ _ hd hdv
/-- A slice of records, as it reads. -/
structure RcS (lo : Nat) (w : World) (A : Option Addr) (n c : Nat) (xs : List Rc) : Prop where
  len : xs.length = n
  cap : n ≤ c
  max : c ≤ maxLen
  none_ : A = none → c = 0
  ok : ∀ r ∈ xs, r.ok
  here : ∀ (i : Nat) r, xs[i]? = some r → ∃ b off B k m, A = some ⟨b, off, none⟩ ∧ w.rangeAt b (off + i * 23) (rcv r B k m).toList ∧ Bs w B k m r.data ∧ lo ≤ b ∧ (0 < k → ∀ a, B = some a → lo ≤ a.block)
theorem rcv_ne (r : Rc) (A : Option Addr) (n c : Nat) : (rcv r A n c).toList ≠ [] := by rw [rcv_list]; simp
theorem RcS.later {B lo : Nat} {w w' : World} {A : Option Addr} {n c : Nat} {xs : List Rc} (h : RcS lo w A n c xs) (hb : Below B w w') (hB : w.heap.size ≤ B) : RcS lo w' A n c xs :=
  ⟨h.len, h.cap, h.max, h.none_, h.ok, fun i r hr => by
    obtain ⟨b, off, B', k, m, hA, hr2, hd, hl⟩ := h.here i r hr
    exact ⟨b, off, B', k, m, hA, rangeAt_later hr2 (rcv_ne _ _ _ _) hb hB, hd.later hb hB, hl⟩⟩
theorem RcS.away {lo : Nat} {w w' : World} {A : Option Addr} {n c : Nat} {xs : List Rc} (h : RcS lo w A n c xs) (hk : ∀ k, lo ≤ k → w'.heap[k]? = w.heap[k]?) : RcS lo w' A n c xs :=
  ⟨h.len, h.cap, h.max, h.none_, h.ok, fun i r hr => by
    obtain ⟨b, off, B', k, m, hA, hr2, hd, hl, hl2⟩ := h.here i r hr
    exact ⟨b, off, B', k, m, hA, fun j u hj => (World.cell?_of_block (a := ⟨b, off + i * 23 + j, none⟩) (hk b hl)).trans (hr2 j u hj), hd.away (fun hn a ha => hk a.block (hl2 hn a ha)), hl, hl2⟩⟩
theorem RcS.low {lo lo' : Nat} {w : World} {A : Option Addr} {n c : Nat} {xs : List Rc} (h : RcS lo w A n c xs) (hl : lo' ≤ lo) : RcS lo' w A n c xs :=
  ⟨h.len, h.cap, h.max, h.none_, h.ok, fun i r hr => by
    obtain ⟨b, off, B', k, m, hA, hr2, hd, h1, h2⟩ := h.here i r hr
    exact ⟨b, off, B', k, m, hA, hr2, hd, Nat.le_trans hl h1, fun hn a ha => Nat.le_trans hl (h2 hn a ha)⟩⟩
theorem RcS.nil (lo : Nat) (w : World) : RcS lo w none 0 0 [] := ⟨rfl, Nat.le_refl _, Nat.zero_le _, fun _ => rfl, (fun r h => by cases h), fun i q h => by cases h⟩
theorem RcS.of_own {lo : Nat} {w : World} {base : Nat} {v : Value} {xs : List Rc} {ds : List Sl} (h : RcO lo w base v xs ds) (hlb : lo ≤ base) : ∃ A c, v = .slice A xs.length c ∧ RcS lo w A xs.length c xs := by
  have ho := h.own
  rcases ho.2 with ⟨rfl, h0⟩ | ⟨g, cap, cur, rfl, hlo, _, hc, hm, _, _⟩
  · obtain rfl := List.eq_nil_of_length_eq_zero h0
    exact ⟨none, 0, rfl, RcS.nil _ w⟩
  · refine ⟨_, _, rfl, rfl, hc, hm, (fun h => by cases h), h.ok, fun i r hr => ?_⟩
    have hi := (List.getElem?_eq_some_iff.1 hr).1
    obtain ⟨s, hs⟩ : ∃ s, ds[i]? = some s := ⟨ds[i]'(by rw [← h.len]; exact hi), List.getElem?_eq_getElem _⟩
    have hk := h.ok r (List.mem_of_getElem? hr)
    refine ⟨g, 0, s.A, s.n, s.c, rfl, fun j u hj => ?_, (h.dat i r s hr hs).1, Nat.le_trans hlb hlo, fun hn a ha => ((h.dat i r s hr hs).2 hn a ha).2⟩
    have hj3 : j < 23 := by
      have := (List.getElem?_eq_some_iff.1 hj).1
      rw [Array.length_toList, rcv_size hk] at this
      exact this
    have hz := ho.cells (g := g) rfl (i * 23 + j) u (by
      unfold rcC
      rw [Great.flat_get (s := 23) (by decide) (rcL xs ds) (fun v hv => by
        unfold rcL at hv
        obtain ⟨k, hk1⟩ := List.mem_iff_getElem?.1 hv
        rw [List.getElem?_zipWith] at hk1
        cases hx : xs[k]? with
        | none => rw [hx] at hk1; simp at hk1
        | some r' =>
          cases hd : ds[k]? with
          | none => rw [hx, hd] at hk1; simp at hk1
          | some s' =>
            rw [hx, hd] at hk1
            simp at hk1
            subst hk1
            exact rcv_size (h.ok r' (List.mem_of_getElem? hx)) _ _ _) (i * 23 + j), show (i * 23 + j) / 23 = i by omega, show (i * 23 + j) % 23 = j by omega]
      unfold rcL
      rw [List.getElem?_zipWith, hr, hs]
      simpa [Value.cells] using hj)
    rw [add_plain, Nat.zero_add] at hz
    rw [Nat.zero_add]
    exact hz
/-- A slice of records, with what each one's bytes are told by. -/
structure RcK (w : World) (A : Option Addr) (n c : Nat) (xs : List Rc) (ds : List Sl) : Prop where
  len : xs.length = n
  dlen : ds.length = n
  cap : n ≤ c
  max : c ≤ maxLen
  none_ : A = none → c = 0
  ok : ∀ r ∈ xs, r.ok
  cells : ∀ ad, A = some ad → ∀ (j : Nat) u, (rcC xs ds)[j]? = some u → w.cell? (ad.add j) = some u
  dat : ∀ (i : Nat) r s, xs[i]? = some r → ds[i]? = some s → Bs w s.A s.n s.c r.data
theorem rcL_size {xs : List Rc} {ds : List Sl} (h : ∀ r ∈ xs, r.ok) : ∀ v ∈ rcL xs ds, v.cells.size = 23 := fun v hv => by
  unfold rcL at hv
  obtain ⟨k, hk1⟩ := List.mem_iff_getElem?.1 hv
  rw [List.getElem?_zipWith] at hk1
  cases hx : xs[k]? with
  | none => rw [hx] at hk1; simp at hk1
  | some r' =>
    cases hd : ds[k]? with
    | none => rw [hx, hd] at hk1; simp at hk1
    | some s' =>
      rw [hx, hd] at hk1
      simp at hk1
      subst hk1
      exact rcv_size (h r' (List.mem_of_getElem? hx)) _ _ _
theorem RcS.known {lo : Nat} {w : World} {A : Option Addr} {n c : Nat} {xs : List Rc} (h : RcS lo w A n c xs) : ∃ ds, RcK w A n c xs ds := by
  have hd : ∀ i : Fin n, ∃ s : Sl, ∀ r, xs[i.1]? = some r → ∃ b off, A = some ⟨b, off, none⟩ ∧ w.rangeAt b (off + i.1 * 23) (rcv r s.A s.n s.c).toList ∧ Bs w s.A s.n s.c r.data := fun i => by
    have hi : i.1 < xs.length := by rw [h.len]; exact i.2
    obtain ⟨b, off, B, k, m, hA, hr, hb, _⟩ := h.here i.1 _ (List.getElem?_eq_getElem hi)
    refine ⟨⟨B, k, m⟩, fun r hr2 => ?_⟩
    rw [List.getElem?_eq_getElem hi] at hr2
    cases hr2
    exact ⟨b, off, hA, hr, hb⟩
  refine ⟨List.ofFn fun i => Classical.choose (hd i), h.len, by simp, h.cap, h.max, h.none_, h.ok, ?_, ?_⟩
  · intro ad hA j u hj
    unfold rcC at hj
    rw [Great.flat_get (s := 23) (by decide) _ (rcL_size h.ok) j] at hj
    unfold rcL at hj
    rw [List.getElem?_zipWith] at hj
    cases hx : xs[j / 23]? with
    | none => rw [hx] at hj; simp at hj
    | some r =>
      have hi : j / 23 < n := by rw [← h.len]; exact (List.getElem?_eq_some_iff.1 hx).1
      rw [hx, List.getElem?_ofFn, dif_pos hi] at hj
      obtain ⟨b, off, hA2, hr, _⟩ := Classical.choose_spec (hd ⟨j / 23, hi⟩) r hx
      rw [hA] at hA2
      cases hA2
      have hz := hr (j % 23) u (by simpa [Value.cells] using hj)
      rw [add_plain]
      have e : off + j / 23 * 23 + j % 23 = off + j := by omega
      rw [e] at hz
      exact hz
  · intro i r s hr hs
    have hi : i < n := by rw [← h.len]; exact (List.getElem?_eq_some_iff.1 hr).1
    rw [List.getElem?_ofFn, dif_pos hi] at hs
    cases hs
    obtain ⟨_, _, _, _, hb⟩ := Classical.choose_spec (hd ⟨i, hi⟩) r hr
    exact hb
theorem RcK.later {w w' : World} {A : Option Addr} {n c : Nat} {xs : List Rc} {ds : List Sl} (h : RcK w A n c xs ds) {B : Nat} (hb : Below B w w') (hB : w.heap.size ≤ B) : RcK w' A n c xs ds :=
  ⟨h.len, h.dlen, h.cap, h.max, h.none_, h.ok, fun ad hA j u hj => by
    have h1 := h.cells ad hA j u hj
    have hlt := lt_of_cell' h1
    rw [hb.cell (p := ad.add j) (by omega)]
    exact h1, fun i r s hr hs => (h.dat i r s hr hs).later hb hB⟩
theorem wpList_cat_rc {ops : Array Oper} {rest : List Oper} {o : Oper} {a : Act} {w : World} {Q : Exit → Act → World → Prop} (hgd : o.guard = none) (s x : Operand)
    (ho : o.op = .call { callee := .builtin .append, args := #[s, x], argTypes := #[24, 24] }) {lo : Nat} (base : Nat) (v : Value) (xs : List Rc) (ds : List Sl) (hs : a.eval s = v) (hown : RcO lo w base v xs ds)
    (A : Option Addr) (n c : Nat) (ys : List Rc) (es : List Sl) (hx : a.eval x = .slice A n c) (hy : RcK w A n c ys es) (hsep : ∀ s ∈ es, 0 < s.n → ∀ a, s.A = some a → some a.block ≠ v.ownBlock ∧ lo ≤ a.block) (hm : xs.length + n ≤ 1000000) (hbase : base ≤ w.heap.size)
    (h : ∀ v' w', RcO lo w' base v' (xs ++ ys) (ds ++ es) → w.grownBy w' v.ownBlock → wpList Tryz.prog ops Q rest (a.put o.dst v') w') : wpList Tryz.prog ops Q (o :: rest) a w := by
  obtain ⟨i, h1, h2, h3, h4⟩ := info_of infoR
  cases A with
  | none =>
    obtain rfl := hy.none_ rfl
    obtain rfl : n = 0 := by have := hy.cap; omega
    obtain rfl := List.eq_nil_of_length_eq_zero hy.len
    obtain rfl := List.eq_nil_of_length_eq_zero hy.dlen
    refine wpList_append_own_none hgd s x 24 ho base 57 i 23 Tryz.underlying24 h1 v xs.length _ hs hown.own hx ?_
    exact h v w (by rw [List.append_nil, List.append_nil]; exact hown) ⟨rfl, rfl, rfl, Nat.le_refl _, fun _ _ _ => rfl⟩
  | some ad =>
    have hcl : (rcC ys es).length = n * 23 := by
      unfold rcC
      have : ∀ (vs : List Value), (∀ v ∈ vs, v.cells.size = 23) → (vs.flatMap fun v => v.cells.toList).length = vs.length * 23 := by
        intro vs hv
        induction vs with
        | nil => rfl
        | cons a vs ih =>
          rw [List.flatMap_cons, List.length_append, ih (fun v h => hv v (by simp [h])), Array.length_toList, hv a (by simp), List.length_cons]
          omega
      rw [this _ (rcL_size hy.ok)]
      unfold rcL
      rw [List.length_zipWith, hy.len, hy.dlen, Nat.min_self]
    have hone : ∀ u ∈ rcC ys es, u.oneCell' = true := by
      intro u hu
      unfold rcC at hu
      obtain ⟨v', hv', hu'⟩ := List.mem_flatMap.1 hu
      unfold rcL at hv'
      obtain ⟨k, hk1⟩ := List.mem_iff_getElem?.1 hv'
      rw [List.getElem?_zipWith] at hk1
      cases hx : ys[k]? with
      | none => rw [hx] at hk1; simp at hk1
      | some r' =>
        cases hd : es[k]? with
        | none => rw [hx, hd] at hk1; simp at hk1
        | some s' =>
          rw [hx, hd] at hk1
          simp at hk1
          subst hk1
          exact (Array.all_eq_true'.1 (rcv_one r' s'.A s'.n s'.c)) u (by simpa [Value.cells] using hu')
    refine wpList_append_own_at w hgd s x 24 ho base 57 i _ 23 96 Tryz.underlying24 h1 h2 h3 h4 (by simpa [Value.cells] using rcv_size Rc.zero_ok none 0 0) (by decide) v xs.length _ hs hown.own ad n c (rcC ys es) hx hcl (hy.cells ad rfl) hone (by unfold maxLen; omega) (by omega) hbase ?_
    intro v' w' o' g' _ hat
    have away : ∀ (A : Option Addr) (n c : Nat) (l : List UInt8), Bs w A n c l → (0 < n → ∀ a, A = some a → some a.block ≠ v.ownBlock ∧ lo ≤ a.block) → Bs w' A n c l ∧ (0 < n → ∀ a, A = some a → some a.block ≠ v'.ownBlock ∧ lo ≤ a.block) := fun A n c l hB hA =>
      ⟨hB.away fun hn a ha => g'.block a.block (hB.blk hn ha) (hA hn a ha).1, fun hn a ha => by
        refine ⟨?_, (hA hn a ha).2⟩
        rcases hat with e | e
        · rw [e]; exact (hA hn a ha).1
        · rw [e]
          intro e2
          have h1 := hB.blk hn ha
          have h2 := Option.some.inj e2
          omega⟩
    refine h v' w' ⟨?_, by simp [hown.len, hy.len, hy.dlen], ?_, ?_⟩ g'
    · have e : rcC (xs ++ ys) (ds ++ es) = rcC xs ds ++ rcC ys es := by
        unfold rcC rcL
        rw [List.zipWith_append hown.len, List.flatMap_append]
      rw [e, List.length_append, hy.len]
      exact o'
    · intro r' hr'
      rcases List.mem_append.1 hr' with hr' | hr'
      · exact hown.ok r' hr'
      · exact hy.ok r' hr'
    · intro j r' s' hr' hs'
      by_cases hj : j < xs.length
      · rw [List.getElem?_append_left hj] at hr'
        rw [List.getElem?_append_left (by rw [← hown.len]; exact hj)] at hs'
        exact away _ _ _ _ (hown.dat j r' s' hr' hs').1 (hown.dat j r' s' hr' hs').2
      · rw [List.getElem?_append_right (by omega)] at hr'
        rw [List.getElem?_append_right (by rw [← hown.len]; omega), ← hown.len] at hs'
        exact away _ _ _ _ (hy.dat _ r' s' hr' hs') (hsep s' (List.mem_of_getElem? hs'))
end Go.Proofs.YtbikifaadpijnaaGreatDoor

namespace Go.Proofs.YtbikifaadpijnaaGreatDoor
open Go.RowKit
set_option maxRecDepth 100000

theorem wp_cat_rc {o : Oper} {a : Act} {w : World} {K : Act → World → Prop} {Q : Exit → Act → World → Prop} (s x : Operand)
    (ho : o.op = .call { callee := .builtin .append, args := #[s, x], argTypes := #[24, 24] }) {lo : Nat} (base : Nat) (v : Value) (xs : List Rc) (ds : List Sl) (hs : a.eval s = v) (hown : RcO lo w base v xs ds)
    (A : Option Addr) (n c : Nat) (ys : List Rc) (es : List Sl) (hx : a.eval x = .slice A n c) (hy : RcK w A n c ys es) (hsep : ∀ s ∈ es, 0 < s.n → ∀ a, s.A = some a → some a.block ≠ v.ownBlock ∧ lo ≤ a.block) (hm : xs.length + n ≤ 1000000) (hbase : base ≤ w.heap.size)
    (h : ∀ v' w', RcO lo w' base v' (xs ++ ys) (ds ++ es) → w.grownBy w' v.ownBlock → K (a.put o.dst v') w') : o.wp Tryz.prog a w K Q := by
  obtain ⟨i, h1, h2, h3, h4⟩ := info_of infoR
  cases A with
  | none =>
    obtain rfl := hy.none_ rfl
    obtain rfl : n = 0 := by have := hy.cap; omega
    obtain rfl := List.eq_nil_of_length_eq_zero hy.len
    obtain rfl := List.eq_nil_of_length_eq_zero hy.dlen
    have hrun := run_append_owned_none (P := Tryz.prog) (w := w) base 24 o.type 57 i 23 Tryz.underlying24 h1 v xs.length _ hown.own
    unfold Oper.wp execOp
    simp only [ho, resolve, invoke, builtin, Sem.run_bind, Sem.run_pure, Result.andThen_ok, List.map_toArray, List.map_cons, List.map_nil, hs, hx, hrun]
    exact h v w (by rw [List.append_nil, List.append_nil]; exact hown) ⟨rfl, rfl, rfl, Nat.le_refl _, fun _ _ _ => rfl⟩
  | some ad =>
    have hcl : (rcC ys es).length = n * 23 := by
      unfold rcC
      have : ∀ (vs : List Value), (∀ v ∈ vs, v.cells.size = 23) → (vs.flatMap fun v => v.cells.toList).length = vs.length * 23 := by
        intro vs hv
        induction vs with
        | nil => rfl
        | cons a vs ih =>
          rw [List.flatMap_cons, List.length_append, ih (fun v h => hv v (by simp [h])), Array.length_toList, hv a (by simp), List.length_cons]
          omega
      rw [this _ (rcL_size hy.ok)]
      unfold rcL
      rw [List.length_zipWith, hy.len, hy.dlen, Nat.min_self]
    have hone : ∀ u ∈ rcC ys es, u.oneCell' = true := by
      intro u hu
      unfold rcC at hu
      obtain ⟨v', hv', hu'⟩ := List.mem_flatMap.1 hu
      unfold rcL at hv'
      obtain ⟨k, hk1⟩ := List.mem_iff_getElem?.1 hv'
      rw [List.getElem?_zipWith] at hk1
      cases hx : ys[k]? with
      | none => rw [hx] at hk1; simp at hk1
      | some r' =>
        cases hd : es[k]? with
        | none => rw [hx, hd] at hk1; simp at hk1
        | some s' =>
          rw [hx, hd] at hk1
          simp at hk1
          subst hk1
          exact (Array.all_eq_true'.1 (rcv_one r' s'.A s'.n s'.c)) u (by simpa [Value.cells] using hu')
    obtain ⟨v', w', hrun, o', g', _, hat⟩ := run_append_own_at (P := Tryz.prog) w base 24 o.type 57 i _ 23 96 Tryz.underlying24 h1 h2 h3 h4 (by simpa [Value.cells] using rcv_size Rc.zero_ok none 0 0) (by decide) v xs.length _ hown.own ad n c (rcC ys es) hcl (hy.cells ad rfl) hone (by unfold maxLen; omega) (by omega) hbase
    have away : ∀ (A : Option Addr) (n c : Nat) (l : List UInt8), Bs w A n c l → (0 < n → ∀ a, A = some a → some a.block ≠ v.ownBlock ∧ lo ≤ a.block) → Bs w' A n c l ∧ (0 < n → ∀ a, A = some a → some a.block ≠ v'.ownBlock ∧ lo ≤ a.block) := fun A n c l hB hA =>
      ⟨hB.away fun hn a ha => g'.block a.block (hB.blk hn ha) (hA hn a ha).1, fun hn a ha => by
        refine ⟨?_, (hA hn a ha).2⟩
        rcases hat with e | e
        · rw [e]; exact (hA hn a ha).1
        · rw [e]
          intro e2
          have h1 := hB.blk hn ha
          have h2 := Option.some.inj e2
          omega⟩
    unfold Oper.wp execOp
    simp only [ho, resolve, invoke, builtin, Sem.run_bind, Sem.run_pure, Result.andThen_ok, List.map_toArray, List.map_cons, List.map_nil, hs, hx, hrun]
    refine h v' w' ⟨?_, by simp [hown.len, hy.len, hy.dlen], ?_, ?_⟩ g'
    · have e : rcC (xs ++ ys) (ds ++ es) = rcC xs ds ++ rcC ys es := by
        unfold rcC rcL
        rw [List.zipWith_append hown.len, List.flatMap_append]
      rw [e, List.length_append, hy.len]
      exact o'
    · intro r' hr'
      rcases List.mem_append.1 hr' with hr' | hr'
      · exact hown.ok r' hr'
      · exact hy.ok r' hr'
    · intro j r' s' hr' hs'
      by_cases hj : j < xs.length
      · rw [List.getElem?_append_left hj] at hr'
        rw [List.getElem?_append_left (by rw [← hown.len]; exact hj)] at hs'
        exact away _ _ _ _ (hown.dat j r' s' hr' hs').1 (hown.dat j r' s' hr' hs').2
      · rw [List.getElem?_append_right (by omega)] at hr'
        rw [List.getElem?_append_right (by rw [← hown.len]; omega), ← hown.len] at hs'
        exact away _ _ _ _ (hy.dat _ r' s' hr' hs') (hsep s' (List.mem_of_getElem? hs'))
theorem RcK.blk {w : World} {A : Option Addr} {n c : Nat} {xs : List Rc} {ds : List Sl} (h : RcK w A n c xs ds) : ∀ s ∈ ds, 0 < s.n → ∀ a, s.A = some a → a.block < w.heap.size := fun s hs hn a ha => by
  obtain ⟨i, hi⟩ := List.mem_iff_getElem?.1 hs
  have hil : i < xs.length := by rw [h.len, ← h.dlen]; exact (List.getElem?_eq_some_iff.1 hi).1
  exact (h.dat i _ s (List.getElem?_eq_getElem hil) hi).blk hn ha
end Go.Proofs.YtbikifaadpijnaaGreatDoor

namespace Go.Proofs.YtbikifaadpijnaaGreatDoor
open Go.RowKit
set_option maxRecDepth 100000

set_option maxHeartbeats 400000 in
theorem growR_nil (n : Nat) (w : World) (h47 : n ≤ 1000000) : Calls Tryz.prog 61 #[.slice none 0 0, .int .i64 n] w fun e w' =>
    ∃ v', e = .returned v' ∧ w'.ownsRow w.heap.size 57 23 v' 0 [] ∧ Below w.heap.size w w' := by
  rcases Nat.eq_zero_or_pos n with hn | hn
  · subst hn
    go_enter Tryz.func61, Tryz.ntmps61
    go_wp2
    go_ret
    exact ⟨_, rfl, World.ownsRow_nil _ _ _ _, Below.refl _ _⟩
  · obtain ⟨i0, hi, hz, hz1, hz2⟩ := info_of infoR
    have hr := fun w => Lib.run_append_nil_zeros (P := Tryz.prog) w 24 3 24 57 i0 (.agg (rcv .zero none 0 0)) .i64 .i64 Tryz.underlying24 Tryz.underlying3 hi hz n hn (by omega) (by omega) (by rw [hz2]; omega)
    have HR := Lib.hid hr
    have hge := grownCap_ge w n 0 57
    have hcm : grownCap w n 0 57 ≤ maxLen := grownCap_le_maxLen w n 0 57 (by unfold maxLen; omega)
    have HG := Lib.hid (And.intro hge hcm)
    have hzs : (Value.agg (rcv .zero none 0 0)).cells.size = 23 := by simpa [Value.cells] using rcv_size Rc.zero_ok none 0 0
    have HZ := Lib.hid (And.intro hzs (And.intro hz1 hz2))
    clear hr hge hcm hz1 hz2 hzs
    go_enter Tryz.func61, Tryz.ntmps61
    go_wp2_with (at_builtin; refine Lib.wpList_append_run _ rfl (.tmp 20) (.tmp 21) 24 3 rfl _ _ rfl rfl _ _ (HR.out _) ?_)
    go_ret
    refine ⟨_, rfl, ?_, ((Below.refl _ w).alloc (Nat.le_refl _) _).drew⟩
    refine ⟨rfl, .inr ⟨_, _, _, rfl, Nat.le_refl _, heap_alloc_new w _, Nat.zero_le _, HG.out.2, ?_, by simp⟩⟩
    have hge := HG.out.1
    rw [Array.size_append, size_zeroCells, size_zeroCells, rcv_size Rc.zero_ok]
    omega
/-- A list of records, as slices.Concat is handed it. -/
structure PieceR where
  s : Sl
  xs : List Rc
  ds : List Sl
def totR (ps : List PieceR) : Nat := (ps.map (·.s.n)).sum
def allR (ps : List PieceR) : List Rc := ps.flatMap (·.xs)
def allD (ps : List PieceR) : List Sl := ps.flatMap (·.ds)
def PiecesR (w : World) (g : Nat) (ps : List PieceR) : Prop := ∀ (i : Nat) p, ps[i]? = some p → w.cell? ⟨g, i, none⟩ = some (.slice p.s.A p.s.n p.s.c) ∧ RcK w p.s.A p.s.n p.s.c p.xs p.ds
theorem PiecesR.later {w w' : World} {g B : Nat} {ps : List PieceR} (h : PiecesR w g ps) (hb : Below B w w') (hB : w.heap.size ≤ B) : PiecesR w' g ps := fun i p hp => by
  obtain ⟨h1, h2⟩ := h i p hp
  exact ⟨by rw [hb.cell (p := ⟨g, i, none⟩) (by have := lt_of_cell' h1; show g < B; simp at this; omega), h1], h2.later hb hB⟩
theorem totR_take {ps : List PieceR} {k : Nat} (h : k < ps.length) : totR (ps.take (k + 1)) = totR (ps.take k) + ps[k].s.n := by
  rw [List.take_succ_eq_append_getElem h]; unfold totR; rw [List.map_append, List.sum_append]; simp
theorem allR_take {ps : List PieceR} {k : Nat} (h : k < ps.length) : allR (ps.take (k + 1)) = allR (ps.take k) ++ ps[k].xs := by
  rw [List.take_succ_eq_append_getElem h]; unfold allR; rw [List.flatMap_append]; simp
theorem allD_take {ps : List PieceR} {k : Nat} (h : k < ps.length) : allD (ps.take (k + 1)) = allD (ps.take k) ++ ps[k].ds := by
  rw [List.take_succ_eq_append_getElem h]; unfold allD; rw [List.flatMap_append]; simp
theorem totR_le (ps : List PieceR) (k : Nat) : totR (ps.take k) ≤ totR ps := by
  induction ps generalizing k with
  | nil => simp [totR]
  | cons p ps ih =>
    cases k with
    | zero => simp [totR]
    | succ k =>
      have := ih k
      simp [totR] at this ⊢
      omega
theorem RcO.zero {lo : Nat} {w : World} {base : Nat} {v : Value} (h : w.ownsRow base 57 23 v 0 []) : RcO lo w base v [] [] := ⟨h, rfl, (fun r h => by cases h), fun i r s h => by cases h⟩
set_option maxHeartbeats 1000000 in
theorem concatR_any (g m c : Nat) (ps : List PieceR) (w : World) (hm : ps.length = m) (hm1 : m ≤ 1000) (hps : PiecesR w g ps) (h47 : totR ps ≤ 1000) : Calls Tryz.prog 31 #[.slice (some ⟨g, 0, none⟩) m c] w fun e w' =>
    ∃ A' c', e = .returned (.slice A' (allR ps).length c') ∧ RcS 0 w' A' (allR ps).length c' (allR ps) ∧ Below w.heap.size w w' := by
  have HP := Lib.hid hps
  have HM := Lib.hid hm
  clear hps hm
  --<< c
  go_enter Tryz.func31, Tryz.ntmps31
  go_wp2_with fail
  go_loop [3, 11] (fun s i => ∃ k : Nat, k ≤ m ∧ i = .int .i64 k ∧ s = .int .i64 (totR (ps.take k))) (fun _ i => m - (intOf i).toNat)
  case atStart => exact ⟨0, Nat.zero_le _, rfl, rfl⟩
  case round =>
    obtain ⟨k, hk, rfl, rfl⟩ := hrel
    by_cases hlt : k < m
    · have hkl : k < ps.length := by rw [HM.out]; exact hlt
      obtain ⟨h1, h2⟩ := HP.out k _ (List.getElem?_eq_getElem hkl)
      have ht := totR_take hkl
      have hle := totR_le ps (k + 1)
      generalize ps[k] = p at h1 h2 ht
      have ht1 : totR (ps.take k) + p.s.n ≤ 1000 := by omega
      have HT := Lib.hid ht
      clear ht hle h2
      go_wp2_with fail
      all_goals exact ⟨⟨k + 1, hlt, by go_num, by rw [HT.out]; go_num⟩, by simp [intOf]; omega⟩
    · obtain rfl : k = m := by omega
      have hk : ps.take k = ps := List.take_of_length_le (by rw [HM.out]; exact Nat.le_refl _)
      rw [hk]
      clear hk
      go_wp2_with fail
      refine (growR_nil (totR ps) _ (by omega)).mono ?_
      rintro e w1 ⟨v1, rfl, o1, b1⟩
      have H1 := Lib.hid (And.intro o1 b1)
      clear o1 b1
      go_wp2_with fail
      go_loopw [6, 27] (fun s i wr => ∃ j : Nat, j ≤ k ∧ i = .int .i64 j ∧ RcO 0 wr w.heap.size s (allR (ps.take j)) (allD (ps.take j)) ∧ (allR (ps.take j)).length ≤ totR (ps.take j) ∧ Below w.heap.size w wr) (fun _ i _ => k - (intOf i).toNat)
      case atStart => exact ⟨0, Nat.zero_le _, rfl, RcO.zero H1.out.1, Nat.zero_le _, H1.out.2⟩
      case round =>
        obtain ⟨j, hj, rfl, ho, hl, hb⟩ := hrel
        by_cases hlt2 : j < k
        · have hkl : j < ps.length := by rw [HM.out]; exact hlt2
          obtain ⟨h1, h2⟩ := (HP.out.later hb (Nat.le_refl _)) j _ (List.getElem?_eq_getElem hkl)
          have h3 := (HP.out j _ (List.getElem?_eq_getElem hkl)).2
          have ht := totR_take hkl
          have hf := allR_take hkl
          have hd := allD_take hkl
          have hle := totR_le ps (j + 1)
          generalize ps[j] = p at h1 h2 h3 ht hf hd
          have ht1 : (allR (ps.take j)).length + p.s.n ≤ 1000000 := by omega
          have hsep : ∀ s ∈ p.ds, 0 < s.n → ∀ a, s.A = some a → some a.block ≠ _ ∧ 0 ≤ a.block := fun s hs hn a ha => ⟨fun e => by
            obtain ⟨i, hi⟩ := List.mem_iff_getElem?.1 hs
            have hil : i < p.xs.length := by rw [h3.len, ← h3.dlen]; exact (List.getElem?_eq_some_iff.1 hi).1
            have hb1 := (h3.dat i _ s (List.getElem?_eq_getElem hil) hi).blk hn ha
            have hb2 := (World.ownsRow.lt ho.own a.block e.symm).1
            omega, Nat.zero_le _⟩
          have HT := Lib.hid (And.intro ht (And.intro hf (And.intro h2 (And.intro ho (And.intro hb (And.intro hd (And.intro hl h3)))))))
          have HSEP := Lib.hid hsep
          have hsz := hb.size
          clear ht hle h2 hf ho hb hd hl h3 hsep
          go_wp2_with (at_builtin; refine wpList_cat_rc rfl (.tmp 31) (.tmp 32) rfl w.heap.size _ _ _ rfl HT.out.2.2.2.1 p.s.A p.s.n p.s.c p.xs p.ds rfl HT.out.2.2.1 HSEP.out ht1 hsz ?_; intro v2 w2 o2 g2)
          have H2 := Lib.hid (And.intro o2 (HT.out.2.2.2.2.1.grown g2 hsz (fun q hq => (World.ownsRow.lt HT.out.2.2.2.1.own q hq).1)))
          clear o2 g2
          go_wp2
          go_roundw
          case rel =>
            refine ⟨j + 1, hlt2, by go_num, ?_, ?_, H2.out.2⟩
            · rw [HT.out.2.1, HT.out.2.2.2.2.2.1]
              exact H2.out.1
            · rw [HT.out.2.1, HT.out.1, List.length_append, HT.out.2.2.1.len]
              have := HT.out.2.2.2.2.2.2.1
              omega
          case measure => simp [intOf]; omega
        · obtain rfl : j = k := by omega
          rw [List.take_of_length_le (show ps.length ≤ j by rw [HM.out]; exact Nat.le_refl _)] at ho
          obtain ⟨A3, c3, rfl, S3⟩ := RcS.of_own ho (Nat.zero_le _)
          have H3 := Lib.hid (And.intro S3 hb)
          clear ho hb S3 hl
          go_wp2
          go_ret
          exact ⟨A3, c3, rfl, H3.out.1, H3.out.2⟩
  -->>
end Go.Proofs.YtbikifaadpijnaaGreatDoor

namespace Go.Proofs.YtbikifaadpijnaaGreatDoor
open Go.RowKit
set_option maxRecDepth 100000

theorem readR_next {l : List UInt8} {n : Nat} {at_ : Int} (h : (readRv l n at_).f.code = 0) : (readRv l n at_).next ≤ n + 65541 ∧ (readRv l n at_).f = fl0 := by
  unfold readRv readRq at h ⊢
  by_cases h1 : (readQv l n at_).f.code ≠ 0
  · rw [if_pos h1] at h; exact absurd h h1
  rw [if_neg h1] at h ⊢
  by_cases h2 : n < (readQv l n at_).next + 4
  · rw [if_pos h2] at h; exact absurd h (by simp [Rr.bad])
  rw [if_neg h2] at h ⊢
  by_cases h3 : n < (readQv l n at_).next + 6 + (if n < (readQv l n at_).next + 6 then 0 else num2 l ((readQv l n at_).next + 4))
  · rw [if_pos h3] at h; exact absurd h (by simp [Rr.bad])
  rw [if_neg h3] at h ⊢
  by_cases h4 : (dataV l n ((readQv l n at_).q.asRc (num4 l (readQv l n at_).next)) ((readQv l n at_).next + 4) (num2 l ((readQv l n at_).next + 4))).2.code ≠ 0
  · rw [if_pos h4] at h; exact absurd h h4
  rw [if_neg h4]
  have hn := num2_lt l ((readQv l n at_).next + 4)
  refine ⟨?_, rfl⟩
  show (readQv l n at_).next + 6 + num2 l ((readQv l n at_).next + 4) ≤ n + 65541
  by_cases h5 : n < (readQv l n at_).next + 6
  · rw [if_pos h5] at h3; omega
  · rw [if_neg h5] at h3; omega
theorem readRv_ok {l : List UInt8} {n : Nat} (hn : l.length = n) (at_ : Int) : (readRv l n at_).r.ok := by
  unfold readRv readRq
  repeat' split
  all_goals first
    | exact Rc.zero_ok
    | exact dataV_ok l n _ _ ((readQv l n at_).next + 4) (num2 l ((readQv l n at_).next + 4)) (by rw [List.length_take, List.length_drop]; omega)
set_option maxHeartbeats 4000000 in
theorem listQ_any {A : Option Addr} {n c : Nat} {l : List UInt8} {w : World} (hb : Bs w A n c l) (h47 : n ≤ 140737488350000) (p k : Nat) (hp : p ≤ 140737488480000) (hk : k ≤ 1000000) : Calls Tryz.prog 50 #[.slice A n c, .int .i64 p, .int .i64 k, .func (.func 51) #[] #[]] w fun e w' =>
    ∃ A' n' c' v, e = .returned (.tuple #[.slice A' n' c', .int .i64 (listV (rdQ l n) k p).next, v]) ∧ QsS w.heap.size w' A' n' c' (listV (rdQ l n) k p).xs ∧ Tells w' v (listV (rdQ l n) k p).f ∧ Below w.heap.size w w' := by
  have hself := listV_self (rdQ l n) k p
  obtain ⟨T, hT⟩ : ∃ T, listV (rdQ l n) k p = T := ⟨_, rfl⟩
  have hself : (listV (rdQ l n) k p).behind [] = T := hself.trans hT
  rw [hT]
  have HB := Lib.hid hb
  have HS := Lib.hid hself
  clear hb hT hself
  --<< Q
  go_enter Tryz.func50, Tryz.ntmps50
  go_wp2_with fail
  go_loopw [1, 11, 16] (fun at_ v i wr => ∃ (j P : Nat) (xs : List Qs), j ≤ k ∧ P ≤ 140737488480000 ∧ xs.length = j ∧ i = .int .i64 j ∧ at_ = .int .i64 P ∧ QsO wr w.heap.size v xs ∧ (listV (rdQ l n) (k - j) P).behind xs = T ∧ Below w.heap.size w wr) (fun _ _ i _ => k - (intOf i).toNat)
  case atStart => exact ⟨0, p, [], Nat.zero_le _, hp, rfl, rfl, rfl, QsO.nil _ _, HS.out, Below.refl _ _⟩
  case round =>
    obtain ⟨j, P, xs, hj, hP, hx, rfl, rfl, ho, ht, hbe⟩ := hrel
    have HO := Lib.hid (And.intro ho (And.intro ht hbe))
    clear ho ht hbe
    by_cases hlt : j < k
    · have hnx := readQ_next (l := l) (n := n) (at_ := (P : Int))
      have ht := HO.out.2.1
      rw [show k - j = (k - j - 1) + 1 by omega] at ht
      have KQ := (fun w1 (b : Below w.heap.size w w1) => readQ_any (HB.out.later b (Nat.le_refl _)) h47 (P : Int) (by omega))
      unfold ReadQR at KQ
      by_cases hc : (rdQ l n P).2.2.code ≠ 0
      · rw [listV_bad _ _ hc] at ht
        have KQ := Lib.hid KQ
        have HT := Lib.hid ht
        clear ht hnx
        go_wp2_with fail
        refine (KQ.out _ HO.out.2.2).mono ?_
        rintro e w2 ⟨v2, rfl, t2, b2⟩
        obtain ⟨T2, x2, rfl⟩ := t2.held' hc
        have H2 := Lib.hid (And.intro t2 (HO.out.2.2.trans (b2.mono HO.out.2.2.size)))
        clear t2 b2
        go_wp2_with (first
          | (refine wpList_store_qs rfl (.tmp 12) (.tmp 23) rfl (readQv l n P).q rfl rfl H3.out.1 ?_; intro w4 a4 o4 z4 g4; have H4 := Lib.hid (g4 _ _ (Nat.le_refl _) H3.out.2); clear a4 o4 z4 g4)
          | (refine wpList_alloc_qs rfl rfl ?_; intro w3 a3 b3 z3; have H3 := Lib.hid (And.intro a3 b3); clear a3 b3 z3))
        rw [← HT.out]
        exact bodyPost_ret (by simp [results, Tryz.results50, go_sem]; rfl) rfl ⟨none, 0, 0, .iface T2 x2, rfl, QsS.nil _ _, H2.out.1.later H4.out (Nat.le_refl _), H2.out.2.trans (H4.out.mono H2.out.2.size)⟩
      · have hc0 : (rdQ l n P).2.2.code = 0 := Decidable.not_not.1 hc
        obtain ⟨hn1, hf1⟩ := hnx hc0
        rw [listV_on _ _ hc0] at ht
        have KQ := Lib.hid KQ
        have HT := Lib.hid ht
        have hP2 : (readQv l n P).next ≤ 140737488480000 := by omega
        clear ht hnx hn1 hf1 hc
        go_wp2_with fail
        refine (KQ.out _ HO.out.2.2).mono ?_
        rintro e w2 ⟨v2, rfl, t2, b2⟩
        obtain rfl := t2.none' hc0
        have H2 := Lib.hid (And.intro (HO.out.1.later b2) (HO.out.2.2.trans (b2.mono HO.out.2.2.size)))
        clear t2 b2
        go_wp2_with (first
          | (refine wpList_push_qs rfl (.tmp 29) (.tmp 31) rfl w.heap.size _ xs rfl H6.out.2.1 rfl H6.out.1 (by omega) H6.out.2.2.size ?_; intro v7 w7 o7 g7; have H7 := Lib.hid (And.intro o7 (H6.out.2.2.grown g7 H6.out.2.2.size (fun x hx => (World.ownsRow.lt H6.out.2.1 x hx).1))); clear o7 g7)
          | (refine wpList_lit1 rfl 23 51 (.tmp 30) rfl (qsv (readQv l n P).q) rfl infoQ rfl (by decide) (by decide) Tryz.underlying23 ?_; have b6 : Below w4.heap.size w4 (w4.alloc (.cells (qsv (readQv l n P).q) 51)) := (Below.refl _ _).alloc (Nat.le_refl _) _; obtain ⟨w6, hw6⟩ : ∃ w6, w4.alloc (.cells (qsv (readQv l n P).q) 51) = w6 := ⟨_, rfl⟩; (have a6 := QsBox.new w4 (readQv l n P).q); rw [hw6] at a6 b6 ⊢; have H6 := Lib.hid (And.intro a6 (And.intro (H4.out.2.1.later b6) (H4.out.2.2.trans (b6.mono H4.out.2.2.size)))); clear a6 b6 hw6)
          | (refine wpList_load_qs rfl (.tmp 12) rfl rfl H4.out.1 ?_)
          | (refine wpList_store_qs rfl (.tmp 12) (.tmp 23) rfl (readQv l n P).q rfl rfl H3.out.1 ?_; intro w4 a4 o4 z4 g4; have b4 := g4 _ _ (Nat.le_refl _) H3.out.2; have H4 := Lib.hid (And.intro a4 (And.intro (H2.out.1.later b4) (H2.out.2.trans (b4.mono H2.out.2.size)))); clear a4 o4 z4 g4 b4)
          | (refine wpList_alloc_qs rfl rfl ?_; intro w3 a3 b3 z3; have H3 := Lib.hid (And.intro a3 b3); clear a3 b3 z3))
        go_roundw
        case rel => exact ⟨j + 1, (readQv l n P).next, xs ++ [(readQv l n P).q], hlt, hP2, by simp [hx], by go_num, rfl, H7.out.1, by rw [show k - (j + 1) = k - j - 1 by omega]; exact HT.out, H7.out.2⟩
        case measure => simp [intOf]; omega
    · obtain rfl : j = k := by omega
      have ht := HO.out.2.1
      rw [Nat.sub_self, listV_end] at ht
      obtain ⟨A3, c3, rfl, S3⟩ := QsS.of_own HO.out.1
      have HT := Lib.hid (And.intro ht S3)
      clear ht S3
      go_wp2_with fail
      rw [← HT.out.1]
      exact bodyPost_ret (by simp [results, Tryz.results50, go_sem]) rfl ⟨A3, xs.length, c3, .nilIface, rfl, HT.out.2, Tells.nil _ _ _, HO.out.2.2⟩
  -->>
set_option maxHeartbeats 4000000 in
theorem listR_any {A : Option Addr} {n c : Nat} {l : List UInt8} {w : World} (hb : Bs w A n c l) (h47 : n ≤ 140737488350000) (p k : Nat) (hp : p ≤ 140737488480000) (hk : k ≤ 1000000) (hg : Handle w) : Calls Tryz.prog 52 #[.slice A n c, .int .i64 p, .int .i64 k, .func (.func 53) #[] #[]] w fun e w' =>
    ∃ A' n' c' v, e = .returned (.tuple #[.slice A' n' c', .int .i64 (listV (rdR l n) k p).next, v]) ∧ RcS w.heap.size w' A' n' c' (listV (rdR l n) k p).xs ∧ Tells w' v (listV (rdR l n) k p).f ∧ Below w.heap.size w w' := by
  have hself := listV_self (rdR l n) k p
  obtain ⟨T, hT⟩ : ∃ T, listV (rdR l n) k p = T := ⟨_, rfl⟩
  have hself : (listV (rdR l n) k p).behind [] = T := hself.trans hT
  rw [hT]
  have HB := Lib.hid hb
  have HS := Lib.hid hself
  have HH := Lib.hid hg
  clear hb hT hself hg
  --<< R
  go_enter Tryz.func52, Tryz.ntmps52
  go_wp2_with fail
  go_loopw [1, 11, 16] (fun at_ v i wr => ∃ (j P : Nat) (xs : List Rc) (ds : List Sl), j ≤ k ∧ P ≤ 140737488480000 ∧ xs.length = j ∧ i = .int .i64 j ∧ at_ = .int .i64 P ∧ RcO w.heap.size wr w.heap.size v xs ds ∧ (listV (rdR l n) (k - j) P).behind xs = T ∧ Below w.heap.size w wr) (fun _ _ i _ => k - (intOf i).toNat)
  case atStart => exact ⟨0, p, [], [], Nat.zero_le _, hp, rfl, rfl, rfl, RcO.nil _ _ _, HS.out, Below.refl _ _⟩
  case round =>
    obtain ⟨j, P, xs, ds, hj, hP, hx, rfl, rfl, ho, ht, hbe⟩ := hrel
    have HO := Lib.hid (And.intro ho (And.intro ht hbe))
    clear ho ht hbe
    by_cases hlt : j < k
    · have hnx := readR_next (l := l) (n := n) (at_ := (P : Int))
      have ht := HO.out.2.1
      rw [show k - j = (k - j - 1) + 1 by omega] at ht
      have KQ := (fun w1 (b : Below w.heap.size w w1) => readR_own (HB.out.later b (Nat.le_refl _)) h47 (P : Int) (by omega) (Handle.later b (Nat.le_refl _) HH.out))
      unfold ReadRO at KQ
      have hrok := readRv_ok HB.out.len (P : Int)
      by_cases hc : (rdR l n P).2.2.code ≠ 0
      · rw [listV_bad _ _ hc] at ht
        have KQ := Lib.hid KQ
        have HT := Lib.hid ht
        have HRK := Lib.hid hrok
        clear ht hnx hrok
        go_wp2_with fail
        refine (KQ.out _ HO.out.2.2).mono ?_
        rintro e w2 ⟨A2, n2, c2, v2, rfl, B2, _, t2, b2⟩
        obtain ⟨T2, x2, rfl⟩ := t2.held' hc
        have H2 := Lib.hid (And.intro t2 (HO.out.2.2.trans (b2.mono HO.out.2.2.size)))
        clear t2 b2 B2
        go_wp2_with (first
          | (refine wpList_store_rc rfl (.tmp 12) (.tmp 23) rfl (readRv l n P).r A2 n2 c2 rfl rfl HRK.out H3.out.1 ?_; intro w4 a4 o4 z4 g4; have H4 := Lib.hid (g4 _ _ (Nat.le_refl _) H3.out.2); clear a4 o4 z4 g4)
          | (refine wpList_alloc_rc rfl rfl ?_; intro w3 a3 b3 z3; have H3 := Lib.hid (And.intro a3 b3); clear a3 b3 z3))
        rw [← HT.out]
        exact bodyPost_ret (by simp [results, Tryz.results52, go_sem]; rfl) rfl ⟨none, 0, 0, .iface T2 x2, rfl, RcS.nil _ _, H2.out.1.later H4.out (Nat.le_refl _), H2.out.2.trans (H4.out.mono H2.out.2.size)⟩
      · have hc0 : (rdR l n P).2.2.code = 0 := Decidable.not_not.1 hc
        obtain ⟨hn1, hf1⟩ := hnx hc0
        rw [listV_on _ _ hc0] at ht
        have KQ := Lib.hid KQ
        have HT := Lib.hid ht
        have HRK := Lib.hid hrok
        have hP2 : (readRv l n P).next ≤ 140737488480000 := by omega
        clear ht hnx hn1 hf1 hc hrok
        go_wp2_with fail
        refine (KQ.out _ HO.out.2.2).mono ?_
        rintro e w2 ⟨A2, n2, c2, v2, rfl, B2, O2, t2, b2⟩
        obtain rfl := t2.none' hc0
        have H2 := Lib.hid (And.intro (HO.out.1.later b2) (And.intro (And.intro B2 (HO.out.1.fresh (n := n2) O2 HO.out.2.2.size)) (HO.out.2.2.trans (b2.mono HO.out.2.2.size))))
        clear t2 b2 B2 O2
        go_wp2_with (first
          | (refine wpList_push_rc rfl (.tmp 29) (.tmp 31) rfl w.heap.size _ xs ds rfl H6.out.2.1 (d := ⟨A2, n2, c2⟩) rfl H6.out.1 H6.out.2.2.1.1 H6.out.2.2.1.2 (by omega) H6.out.2.2.2.size ?_; intro v7 w7 o7 g7; have H7 := Lib.hid (And.intro o7 (H6.out.2.2.2.grown g7 H6.out.2.2.2.size (fun x hx => (World.ownsRow.lt H6.out.2.1.own x hx).1))); clear o7 g7)
          | (refine wpList_lit1 rfl 24 57 (.tmp 30) rfl (rcv (readRv l n P).r A2 n2 c2) rfl infoR (rcv_size HRK.out _ _ _) (by decide) (by decide) Tryz.underlying24 ?_; have b6 : Below w4.heap.size w4 (w4.alloc (.cells (rcv (readRv l n P).r A2 n2 c2) 57)) := (Below.refl _ _).alloc (Nat.le_refl _) _; obtain ⟨w6, hw6⟩ : ∃ w6, w4.alloc (.cells (rcv (readRv l n P).r A2 n2 c2) 57) = w6 := ⟨_, rfl⟩; (have a6 := RcBox.new w4 HRK.out A2 n2 c2); rw [hw6] at a6 b6 ⊢; have H6 := Lib.hid (And.intro a6 (And.intro (H4.out.2.1.later b6) (And.intro (And.intro (H4.out.2.2.1.1.later b6 (Nat.le_refl _)) H4.out.2.2.1.2) (H4.out.2.2.2.trans (b6.mono H4.out.2.2.2.size))))); clear a6 b6 hw6)
          | (refine wpList_load_rc rfl (.tmp 12) rfl rfl H4.out.1 ?_)
          | (refine wpList_store_rc rfl (.tmp 12) (.tmp 23) rfl (readRv l n P).r A2 n2 c2 rfl rfl HRK.out H3.out.1 ?_; intro w4 a4 o4 z4 g4; have b4 := g4 _ _ (Nat.le_refl _) H3.out.2; have H4 := Lib.hid (And.intro a4 (And.intro (H2.out.1.later b4) (And.intro (And.intro (H2.out.2.1.1.later b4 (Nat.le_refl _)) H2.out.2.1.2) (H2.out.2.2.trans (b4.mono H2.out.2.2.size))))); clear a4 o4 z4 g4 b4)
          | (refine wpList_alloc_rc rfl rfl ?_; intro w3 a3 b3 z3; have H3 := Lib.hid (And.intro a3 b3); clear a3 b3 z3))
        go_roundw
        case rel => exact ⟨j + 1, (readRv l n P).next, xs ++ [(readRv l n P).r], ds ++ [⟨A2, n2, c2⟩], hlt, hP2, by simp [hx], by go_num, rfl, H7.out.1, by rw [show k - (j + 1) = k - j - 1 by omega]; exact HT.out, H7.out.2⟩
        case measure => simp [intOf]; omega
    · obtain rfl : j = k := by omega
      have ht := HO.out.2.1
      rw [Nat.sub_self, listV_end] at ht
      obtain ⟨A3, c3, rfl, S3⟩ := RcS.of_own HO.out.1 (Nat.le_refl _)
      have HT := Lib.hid (And.intro ht S3)
      clear ht S3
      go_wp2_with fail
      rw [← HT.out.1]
      exact bodyPost_ret (by simp [results, Tryz.results52, go_sem]) rfl ⟨A3, xs.length, c3, .nilIface, rfl, HT.out.2, Tells.nil _ _ _, HO.out.2.2⟩
  -->>
end Go.Proofs.YtbikifaadpijnaaGreatDoor

namespace Go.Proofs.YtbikifaadpijnaaGreatDoor
open Go.RowKit
set_option maxRecDepth 100000

theorem own_moved {w w' : World} {base n size : Nat} {e : TypeId} {v : Value} {xs : List Value} (h : w.ownsRow base e size v n xs) (hh : ∀ b, v.ownBlock = some b → w'.heap[b]? = w.heap[b]?) : w'.ownsRow base e size v n xs := by
  refine ⟨h.1, ?_⟩
  rcases h.2 with h | ⟨g, cap, cur, e1, h1, h2, h3⟩
  · exact Or.inl h
  · exact Or.inr ⟨g, cap, cur, e1, h1, (hh g (by rw [e1]; rfl)).trans h2, h3⟩
theorem RcO.moved {lo base : Nat} {w w' : World} {v : Value} {xs : List Rc} {ds : List Sl} (h : RcO lo w base v xs ds) (h1 : ∀ b, v.ownBlock = some b → w'.heap[b]? = w.heap[b]?)
    (h2 : ∀ (i : Nat) r s, xs[i]? = some r → ds[i]? = some s → 0 < s.n → ∀ a, s.A = some a → w'.heap[a.block]? = w.heap[a.block]?) : RcO lo w' base v xs ds :=
  ⟨own_moved h.own h1, h.len, h.ok, fun i r s hr hs => ⟨(h.dat i r s hr hs).1.away (h2 i r s hr hs), (h.dat i r s hr hs).2⟩⟩
structure RcW (lo base hi : Nat) (w : World) (A : Option Addr) (n c : Nat) (xs : List Rc) : Prop where
  low_ : lo ≤ base
  ex : ∃ ds, RcO lo w base (.slice A n c) xs ds ∧ (∀ b, (Value.slice A n c).ownBlock = some b → b < hi) ∧ ∀ (i : Nat) r s, xs[i]? = some r → ds[i]? = some s → 0 < s.n → ∀ a, s.A = some a → a.block < hi
section
variable {lo base hi n c : Nat} {w w' : World} {A : Option Addr} {xs : List Rc}
theorem RcW.moved (h : RcW lo base hi w A n c xs) (hk : ∀ k, lo ≤ k → k < hi → k < w.heap.size → w'.heap[k]? = w.heap[k]?) : RcW lo base hi w' A n c xs := by
  obtain ⟨hl, ds, ho, h1, h2⟩ := h
  refine ⟨hl, ds, ho.moved (fun b hb => ?_) (fun i r s hr hs hn a ha => ?_), h1, h2⟩
  · have hq := World.ownsRow.lt ho.own b hb
    exact hk b (Nat.le_trans hl hq.1) (h1 b hb) hq.2
  · exact hk a.block ((ho.dat i r s hr hs).2 hn a ha).2 (h2 i r s hr hs hn a ha) ((ho.dat i r s hr hs).1.blk hn ha)
theorem RcW.later (h : RcW lo base hi w A n c xs) {B : Nat} (hb : Below B w w') (hB : w.heap.size ≤ B) : RcW lo base hi w' A n c xs := h.moved fun k _ _ h3 => hb.block k (by omega)
theorem RcW.away (h : RcW lo base hi w A n c xs) (hk : ∀ k, lo ≤ k → w'.heap[k]? = w.heap[k]?) : RcW lo base hi w' A n c xs := h.moved fun k h1 _ _ => hk k h1
theorem RcW.awayB (h : RcW lo base hi w A n c xs) (hk : ∀ k, lo ≤ k → k < w.heap.size → w'.heap[k]? = w.heap[k]?) : RcW lo base hi w' A n c xs := h.moved fun k h1 _ h3 => hk k h1 h3
theorem RcW.low (h : RcW lo base hi w A n c xs) {lo' : Nat} (hl : lo' ≤ lo) : RcW lo' base hi w A n c xs := by
  obtain ⟨h0, ds, ho, h1, h2⟩ := h
  exact ⟨Nat.le_trans hl h0, ds, ⟨ho.own, ho.len, ho.ok, fun i r s hr hs => ⟨(ho.dat i r s hr hs).1, fun hn a ha => ⟨((ho.dat i r s hr hs).2 hn a ha).1, Nat.le_trans hl ((ho.dat i r s hr hs).2 hn a ha).2⟩⟩⟩, h1, h2⟩
theorem RcW.rcs (h : RcW lo base hi w A n c xs) : RcS lo w A n c xs := by
  obtain ⟨h0, ds, ho, h1, h2⟩ := h
  obtain ⟨A', c', e, hs⟩ := RcS.of_own ho h0
  cases e
  exact hs
theorem RcW.len (h : RcW lo base hi w A n c xs) : xs.length = n := h.rcs.len
theorem RcW.of_own {ds : List Sl} (h : RcO lo w base (.slice A n c) xs ds) (hl : lo ≤ base) : RcW lo base w.heap.size w A n c xs :=
  ⟨hl, ds, h, fun b hb => (World.ownsRow.lt h.own b hb).2, fun i r s hr hs hn _ ha => (h.dat i r s hr hs).1.blk hn ha⟩
end
end Go.Proofs.YtbikifaadpijnaaGreatDoor

namespace Go.Proofs.YtbikifaadpijnaaGreatDoor
open Go.RowKit
set_option maxRecDepth 100000

theorem results_tmp_tmp_fl {fn : Func} {p u v : Tmp} (tmps : Array Value) {w : World} {k : Nat} (h : fn.results = #[.tmp p, .tmp u, .cell v 36]) {fc fa : Int} {fp : Bool} (hv : tmps.getD v undef = .pointer (some ⟨k, 0, none⟩)) (hF : FlBox w k fc fa fp) :
    (results fn tmps).run Tryz.prog w = .ok (.tuple #[tmps.getD p undef, tmps.getD u undef, .agg (flv fc fa fp)]) w := by
  have e : (results fn tmps).run Tryz.prog w = ((asAddr (tmps.getD v undef)).run Tryz.prog w).andThen fun b w₃ => ((loadVar 36 b).run Tryz.prog w₃).andThen fun y w₄ => .ok (.tuple #[tmps.getD p undef, tmps.getD u undef, y]) w₄ := by
    simp only [results, h]
    simp [Sem.run_bind, Result.andThen]
  rw [e, hv]
  simp [asAddr, run_loadVar_row w k 36 36 (flv fc fa fp) (0, 0) _ hF Tryz.underlying36 rfl (fl_size fc fa fp)]
set_option maxHeartbeats 4000000 in
theorem ref_records {A : Option Addr} {n c : Nat} {l : List UInt8} {w : World} (hb : Bs w A n c l) (hn : n ≤ 1000000) (p k : Nat) (hp : p ≤ 2000000) (hk : k ≤ 1000000) : Calls Tryz.prog 25 #[.slice A n c, .int .i64 p, .int .i64 k] w fun e w' =>
    ∃ A' n' c', e = .returned (.tuple #[.slice A' n' c', .int .i64 (listV (rdR l n) k p).next, .agg (flv (listV (rdR l n) k p).f.code (listV (rdR l n) k p).f.at_ (listV (rdR l n) k p).f.placed)]) ∧ RcS w.heap.size w' A' n' c' (listV (rdR l n) k p).xs ∧ Below w.heap.size w w' := by
  have hself := listV_self (rdR l n) k p
  obtain ⟨T, hT⟩ : ∃ T, listV (rdR l n) k p = T := ⟨_, rfl⟩
  have hself : (listV (rdR l n) k p).behind [] = T := hself.trans hT
  rw [hT]
  have HB := Lib.hid hb
  have HS := Lib.hid hself
  clear hb hT hself
  go_enter Tryz.func25, Tryz.ntmps25
  go_wp2_with (refine wpList_alloc_fl rfl rfl ?_; intro w1 a1 b1 z1; have H1 := Lib.hid (And.intro a1 b1); have z1' := a1.lt; clear a1 b1 z1)
  have hz1 := Nat.le_of_lt z1'
  go_loopw [1, 9, 10] (fun at_ v i wr => ∃ (j P : Nat) (xs : List Rc) (ds : List Sl), j ≤ k ∧ P ≤ 2000000 ∧ xs.length = j ∧ i = .int .i64 j ∧ at_ = .int .i64 P ∧ RcO w1.heap.size wr w1.heap.size v xs ds ∧ (listV (rdR l n) (k - j) P).behind xs = T ∧ Below w1.heap.size w1 wr) (fun _ _ i _ => k - (intOf i).toNat)
  case atStart => exact ⟨0, p, [], [], Nat.zero_le _, hp, rfl, rfl, rfl, RcO.nil _ _ _, HS.out, Below.refl _ _⟩
  case round =>
    obtain ⟨j, P, xs, ds, hj, hP, hx, rfl, rfl, ho, ht, hbe⟩ := hrel
    have hbw : Below w.heap.size w wr := H1.out.2.trans (hbe.mono hz1)
    have h8 := H1.out.1.later hbe (Nat.le_refl _)
    have HO := Lib.hid (And.intro ho (And.intro hbe (And.intro hbw h8)))
    have hzw := hbe.size
    clear ho hbe hbw h8
    by_cases hlt : j < k
    · have hnx := readR_next (l := l) (n := n) (at_ := (P : Int))
      have hrok := readRv_ok HB.out.len (P : Int)
      have KQ := ref_readR (HB.out.later HO.out.2.2.1 (Nat.le_refl _)) hn (P : Int) (by omega)
      rw [show k - j = (k - j - 1) + 1 by omega] at ht
      obtain ⟨D, hD⟩ : ∃ D, readRv l n (P : Int) = D := ⟨_, rfl⟩
      have hrd : rdR l n P = (D.r, D.next, D.f) := by unfold rdR; rw [hD]
      rw [hD] at KQ hnx hrok
      unfold RefRr at KQ
      obtain ⟨r, nx, ⟨fc, fa, fp⟩⟩ := D
      dsimp only at KQ hnx hrok hrd
      clear hD
      by_cases hc : fc ≠ 0
      · rw [listV_bad _ _ (by rw [hrd]; exact hc), hrd] at ht
        dsimp only at ht
        have hcb : (fc != 0) = true := by rw [bne_iff_ne]; exact hc
        have KQ := Lib.hid KQ
        have HT := Lib.hid ht
        have HRK := Lib.hid hrok
        clear ht hnx hrok hrd
        go_wp2_with fail
        refine KQ.out.mono ?_
        rintro e w2 ⟨A2, n2, c2, rfl, B2, _, b2⟩
        have H2 := Lib.hid (And.intro (HO.out.2.2.2.later b2 (Nat.le_refl _)) (HO.out.2.2.1.trans (b2.mono HO.out.2.2.1.size)))
        have hz2 := b2.size
        clear b2 B2
        go_wp2_with (first
          | (refine wpList_store_fl rfl (.tmp 13) (.tmp 25) rfl fc fa fp rfl rfl H5.out.2.1 ?_; intro w6 a6 o6 z6 g6; have H6 := Lib.hid (And.intro a6 (g6 _ _ (Nat.le_trans hz1 (Nat.le_trans hzw (Nat.le_trans hz2 (Nat.le_of_lt HG.out)))) H5.out.2.2.1)); have H68 := Lib.hid (H5.out.2.2.2.same (o6 _ (Nat.ne_of_lt (Nat.lt_trans (Nat.lt_of_lt_of_le z1' (Nat.le_trans hzw hz2)) HG.out)))); have e0 := fl_head a6; clear a6 o6 z6 g6)
          | (refine wpList_store_rc rfl (.tmp 11) (.tmp 23) rfl r A2 n2 c2 rfl rfl HRK.out H4.out.1 ?_; intro w5 a5 o5 z5 g5; have H5 := Lib.hid (And.intro a5 (And.intro (H4.out.2.1.same (o5 _ (Ne.symm (Nat.ne_of_lt HG.out)))) (And.intro (g5 _ _ (Nat.le_trans hz1 (Nat.le_trans hzw hz2)) H4.out.2.2.1) (H4.out.2.2.2.same (o5 _ (Nat.ne_of_lt (Nat.lt_of_lt_of_le z1' (Nat.le_trans hzw hz2)))))))); clear a5 o5 z5 g5)
          | (refine wpList_alloc_fl rfl rfl ?_; intro w4 a4 b4 z4; have HG := Lib.hid H3.out.1.lt; have H4 := Lib.hid (And.intro (H3.out.1.later b4 (Nat.le_refl _)) (And.intro a4 (And.intro (H3.out.2.1.trans (b4.mono H3.out.2.1.size)) (H3.out.2.2.later b4 (Nat.le_refl _))))); clear a4 b4 z4)
          | (refine wpList_alloc_rc rfl rfl ?_; intro w3 a3 b3 z3; have H3 := Lib.hid (And.intro a3 (And.intro (H2.out.2.trans (b3.mono H2.out.2.size)) (H2.out.1.later b3 (Nat.le_refl _)))); clear a3 b3 z3))
        have hS : FlBox w6.drew w3.heap.size fc fa fp := H6.out.1
        refine rg_begin (fun w' => FlBox w' w3.heap.size fc fa fp) 4 (by kernel_rfl) rfl ?_
        refine rg_load 0 rfl (by kernel_rfl) (by kernel_rfl) (by kernel_rfl) (w3.heap.size) (0) ((flv fc fa fp)) (fun _ _ _ h => h) (by rfl) 36 (.tmp 13) rfl rfl hS (fun w2 h2 => (FlBox.range h2)) Tryz.underlying36 rfl (fl_size _ _ _) ?_
        simp only [Act.put, List.setIfInBounds_toArray, List.set_cons_zero, List.set_cons_succ]
        refine rg_take 1 (v := ?rv1) rfl (by kernel_rfl) (by kernel_rfl) (by kernel_rfl) (fun _ _ _ h => h) (by rfl) hS (fun w2 hw2 => ?ry1) ?rr1
        case ry1 => ((try dsimp only at hw2); go_simp <;> with_reducible rfl)
        simp only [Act.put, List.setIfInBounds_toArray, List.set_cons_zero, List.set_cons_succ]
        refine rg_take 2 (v := ?rv2) rfl (by kernel_rfl) (by kernel_rfl) (by kernel_rfl) (fun _ _ _ h => h) (by rfl) hS (fun w2 hw2 => ?ry2) ?rr2
        case ry2 => ((try dsimp only at hw2); go_simp <;> with_reducible rfl)
        simp only [Act.put, List.setIfInBounds_toArray, List.set_cons_zero, List.set_cons_succ]
        refine rg_step 3 rfl (by kernel_rfl) (by rfl) (fun K hK => ?_)
        refine wp_store_flF (.tmp 8) (.tmp 29) rfl fc fa fp rfl rfl H68.out ?_
        intro x5 a5 o5 g5
        replace hS : FlBox x5 w3.heap.size fc fa fp := FlBox.same hS (o5 _ (Ne.symm (Nat.ne_of_lt (Nat.lt_trans (Nat.lt_of_lt_of_le z1' (Nat.le_trans hzw hz2)) HG.out))))
        have HX5 := Lib.hid (And.intro a5 (g5 w.heap.size w (Nat.le_refl _) (Below.drew H6.out.2)))
        clear a5 o5 g5
        refine hK.out _ _ hS ?_
        clear hK K
        simp only [Act.put]
        refine rg_done (by kernel_rfl) ?_
        go_wp2_with fail
        rw [← HT.out]
        exact bodyPost_ret (results_tmp_tmp_fl _ rfl rfl HX5.out.1) rfl ⟨none, 0, 0, rfl, RcS.nil _ _, HX5.out.2⟩
      · have hc0 : fc = 0 := Decidable.not_not.1 hc
        obtain ⟨hn1, hf1⟩ := hnx hc0
        rw [listV_on _ _ (by rw [hrd]; exact hc0), hrd] at ht
        dsimp only at ht
        have hcb : (fc != 0) = false := by rw [hc0]; rfl
        have KQ := Lib.hid KQ
        have HT := Lib.hid ht
        have HRK := Lib.hid hrok
        have hP2 : nx ≤ 2000000 := by omega
        clear ht hnx hn1 hf1 hc hrok hrd hc0
        go_wp2_with fail
        refine KQ.out.mono ?_
        rintro e w2 ⟨A2, n2, c2, rfl, B2, O2, b2⟩
        have H2 := Lib.hid (And.intro (HO.out.1.later b2) (And.intro (And.intro B2 (HO.out.1.fresh (n := n2) O2 HO.out.2.1.size)) (HO.out.2.1.trans (b2.mono HO.out.2.1.size))))
        have hz2 := b2.size
        clear b2 B2 O2
        go_wp2_with (first
          | (refine wpList_push_rc rfl (.tmp 30) (.tmp 32) rfl w1.heap.size _ xs ds rfl H7.out.2.1 (d := ⟨A2, n2, c2⟩) rfl H7.out.1 H7.out.2.2.1.1 H7.out.2.2.1.2 (by omega) H7.out.2.2.2.size ?_; intro v8 w8 o8 g8; have H8 := Lib.hid (And.intro o8 (H7.out.2.2.2.grown g8 H7.out.2.2.2.size (fun x hx => (World.ownsRow.lt H7.out.2.1.own x hx).1))); clear o8 g8)
          | (refine wpList_lit1 rfl 24 57 (.tmp 31) rfl (rcv r A2 n2 c2) rfl infoR (rcv_size HRK.out _ _ _) (by decide) (by decide) Tryz.underlying24 ?_; have b7 : Below w6.heap.size w6 (w6.alloc (.cells (rcv r A2 n2 c2) 57)) := (Below.refl _ _).alloc (Nat.le_refl _) _; obtain ⟨w7, hw7⟩ : ∃ w7, w6.alloc (.cells (rcv r A2 n2 c2) 57) = w7 := ⟨_, rfl⟩; (have a7 := RcBox.new w6 HRK.out A2 n2 c2); rw [hw7] at a7 b7 ⊢; have H7 := Lib.hid (And.intro a7 (And.intro (H6.out.2.1.later b7) (And.intro (And.intro (H6.out.2.2.1.1.later b7 (Nat.le_refl _)) H6.out.2.2.1.2) (H6.out.2.2.2.trans (b7.mono H6.out.2.2.2.size))))); clear a7 b7 hw7)
          | (refine wpList_load_rc rfl (.tmp 11) rfl rfl H6.out.1 ?_)
          | (refine wpList_store_fl rfl (.tmp 13) (.tmp 25) rfl fc fa fp rfl rfl H5.out.2 ?_; intro w6 a6 o6 z6 g6; have b6 := g6 _ _ (Nat.le_of_lt HG.out) H5b.out; have H6 := Lib.hid (And.intro (H5.out.1.same (o6 _ (Nat.ne_of_lt HG.out))) (And.intro (H2.out.1.later b6) (And.intro (And.intro (H2.out.2.1.1.later b6 (Nat.le_refl _)) H2.out.2.1.2) (H2.out.2.2.trans (b6.mono H2.out.2.2.size))))); have e0 := fl_head a6; clear a6 o6 z6 g6 b6)
          | (refine wpList_store_rc rfl (.tmp 11) (.tmp 23) rfl r A2 n2 c2 rfl rfl HRK.out H4.out.1 ?_; intro w5 a5 o5 z5 g5; have H5 := Lib.hid (And.intro a5 (H4.out.2.1.same (o5 _ (Ne.symm (Nat.ne_of_lt HG.out))))); have H5b := Lib.hid (g5 _ _ (Nat.le_refl _) H4.out.2.2); clear a5 o5 z5 g5)
          | (refine wpList_alloc_fl rfl rfl ?_; intro w4 a4 b4 z4; have HG := Lib.hid H3.out.1.lt; have H4 := Lib.hid (And.intro (H3.out.1.later b4 (Nat.le_refl _)) (And.intro a4 (H3.out.2.trans (b4.mono H3.out.2.size)))); clear a4 b4 z4)
          | (refine wpList_alloc_rc rfl rfl ?_; intro w3 a3 b3 z3; have H3 := Lib.hid (And.intro a3 b3); clear a3 b3 z3))
        go_roundw
        case rel => exact ⟨j + 1, nx, xs ++ [r], ds ++ [⟨A2, n2, c2⟩], hlt, hP2, by simp [hx], by go_num, rfl, H8.out.1, by rw [show k - (j + 1) = k - j - 1 by omega]; exact HT.out, H8.out.2⟩
        case measure => simp [intOf]; omega
    · obtain rfl : j = k := by omega
      rw [Nat.sub_self, listV_end] at ht
      obtain ⟨A3, c3, rfl, S3⟩ := RcS.of_own HO.out.1 (Nat.le_refl _)
      have HT := Lib.hid (And.intro ht S3)
      clear ht S3
      go_wp2_with (refine wpList_store_fl rfl (.tmp 8) (.tmp 37) rfl 0 0 false rfl rfl HO.out.2.2.2 ?_; intro w9 a9 o9 z9 g9; have H9 := Lib.hid (And.intro a9 (And.intro (g9 w.heap.size w (Nat.le_refl _) HO.out.2.2.1) ((HT.out.2.away fun k hk => o9 k (by omega)).low hz1))); clear a9 o9 z9 g9)
      rw [← HT.out.1]
      exact bodyPost_ret (results_tmp_tmp_fl _ rfl rfl H9.out.1) rfl ⟨A3, xs.length, c3, rfl, H9.out.2.2, H9.out.2.1⟩
end Go.Proofs.YtbikifaadpijnaaGreatDoor

namespace Go.Proofs.YtbikifaadpijnaaGreatDoor
open Go.RowKit
set_option maxRecDepth 100000

theorem wpList_put_ms {ops : Array Oper} {rest : List Oper} {o : Oper} {a : Act} {w : World} {Q : Exit → Act → World → Prop} (hgd : o.guard = none) (ty : TypeId) (x y : Operand) (ho : o.op = .store ty x y) {g : Nat} (j : Nat) (s : Sl) (hx : a.eval x = .pointer (some ⟨g, j, none⟩)) (hy : a.eval y = .slice s.A s.n s.c) (hi : (Tryz.prog.info? ty).map (·.size) = some 1)
    {mh : Mh} {sq sa su se sq' sa' su' se' : Sl} (hA : MsBox w g mh sq sa su se) (hj : j < 9) (hset : (msv mh sq sa su se).setIfInBounds j (.slice s.A s.n s.c) = msv mh sq' sa' su' se')
    (h : ∀ w', MsBox w' g mh sq' sa' su' se' → (∀ k, k ≠ g → w'.heap[k]? = w.heap[k]?) → w'.heap.size = w.heap.size → (∀ B w0, B ≤ g → Below B w0 w → Below B w0 w') → wpList Tryz.prog ops Q rest (a.put o.dst undef) w') : wpList Tryz.prog ops Q (o :: rest) a w := by
  refine wpList_plain hgd fun K hK => ?_
  have e : w.setCell ⟨g, j, none⟩ (.slice s.A s.n s.c) = w.setRow g (msv mh sq' sa' su' se') := by
    rw [setCell_eq_setRow w g j _ _ _ (.slice s.A s.n s.c) hA, hset]
  have hrun := run_storeVar_cell (P := Tryz.prog) w g j ty (.slice s.A s.n s.c) hA (by exact hj) hi rfl
  unfold Oper.wp execOp
  simp only [ho, hx, hy, Instr.storeAt, Instr.sureAddr, Sem.run_bind, Sem.run_pure, Result.andThen_ok, hrun]
  rw [e]
  exact hK _ _ (h _ (setRow_heap w g _ _ _ _ hA) (fun k hk => setRow_other w g k _ hk) (size_setRow w g _) (fun B w0 hB hb => below_setRow hb hB _))
/-- Where the three lists' heads lie. -/
def P3 (w : World) (gp g : Nat) : Prop := w.heap[gp]? = some (.cells #[.pointer (some ⟨g, 6, none⟩), .pointer (some ⟨g, 7, none⟩), .pointer (some ⟨g, 8, none⟩)] 107 (0, 0))
theorem P3.lt {w : World} {gp g : Nat} (h : P3 w gp g) : gp < w.heap.size := (Array.getElem?_eq_some_iff.1 h).1
theorem P3.later {w w' : World} {gp g : Nat} (h : P3 w gp g) (hb : Below w.heap.size w w') : P3 w' gp g := (hb.block gp h.lt).trans h
theorem P3.cell {w : World} {gp g : Nat} (h : P3 w gp g) (j : Nat) : w.cell? ⟨gp, j, none⟩ = (#[.pointer (some ⟨g, 6, none⟩), .pointer (some ⟨g, 7, none⟩), .pointer (some ⟨g, 8, none⟩)] : Array Value)[j]? := cell_of_row w gp j _ _ _ h
/-- What whole hands back. -/
def WholeR (x : Mw) (w : World) (e : Ending) (w' : World) : Prop := ∃ sq sa su se v, e = .returned (.tuple #[.agg (msv x.m.h sq sa su se), .int .i64 x.next, v]) ∧ QsS w.heap.size w' sq.A sq.n sq.c x.m.qs ∧ RcS w.heap.size w' sa.A sa.n sa.c x.m.an ∧ RcS w.heap.size w' su.A su.n su.c x.m.au ∧ RcS w.heap.size w' se.A se.n se.c x.m.ex ∧ Tells w' v x.f ∧ Below w.heap.size w w'
theorem results_ms3 {fn : Func} {p u v : Tmp} (tmps : Array Value) {w : World} {g : Nat} (h : fn.results = #[.cell p 26, .tmp u, .tmp v]) {mh : Mh} {sq sa su se : Sl} (hp : tmps.getD p undef = .pointer (some ⟨g, 0, none⟩)) (hA : MsBox w g mh sq sa su se) : (results fn tmps).run Tryz.prog w = .ok (.tuple #[.agg (msv mh sq sa su se), tmps.getD u undef, tmps.getD v undef]) w := by
  rw [results_cell_tmp_tmp h, hp]
  simp [asAddr, run_loadVar_row w g 26 26 (msv mh sq sa su se) (0, 0) _ hA Tryz.underlying26 rfl (ms_size mh sq sa su se)]
theorem ms_zero_eq : msv .zero .zero .zero .zero .zero = #[.int .i64 0, .bool false, .int .i64 0, .int .i64 0, .int .i64 0, .slice none 0 0, .slice none 0 0, .slice none 0 0, .slice none 0 0] := rfl
theorem listV_next {α : Type} {rd : Nat → α × Nat × Fl} {B : Nat} (h1 : ∀ p, (rd p).2.2.code = 0 → (rd p).2.1 ≤ B) : ∀ {k p : Nat}, p ≤ B → (listV rd k p).f.code = 0 → (listV rd k p).next ≤ B
  | 0, p, hp, _ => hp
  | k + 1, p, hp, hc => by
    rw [listV] at hc ⊢
    by_cases h : (rd p).2.2.code ≠ 0
    · rw [if_pos h] at hc
      exact absurd hc h
    rw [if_neg h] at hc ⊢
    by_cases h2 : (listV rd k (rd p).2.1).f.code ≠ 0
    · rw [if_pos h2] at hc
      exact absurd hc h2
    rw [if_neg h2]
    exact listV_next h1 (h1 p (Decidable.not_not.1 h)) (Decidable.not_not.1 h2)
theorem listQ_next {l : List UInt8} {n k : Nat} (hc : (listV (rdQ l n) k 12).f.code = 0) : (listV (rdQ l n) k 12).next ≤ n + 12 := listV_next (fun p h => by have := (readQ_next h).1; unfold rdQ; dsimp only; omega) (by omega) hc
theorem listR_next {l : List UInt8} {n k p : Nat} (hp : p ≤ n + 65541 + 12) (hc : (listV (rdR l n) k p).f.code = 0) : (listV (rdR l n) k p).next ≤ n + 65541 + 12 := listV_next (fun p h => by have := (readR_next h).1; unfold rdR; dsimp only; omega) hp hc
set_option maxHeartbeats 8000000 in
theorem whole_any {A : Option Addr} {n c : Nat} {l : List UInt8} {w : World} (hb : Bs w A n c l) (h47 : n ≤ 140737488350000) (u : Nat → Int) (h : Nat → Nat) (hu : ∀ i, i < 6 → u i = h i) (hlt : ∀ i, h i < 65536) (hg : Handle w) : Calls Tryz.prog 21 #[.agg (hdv u), .slice A n c] w (WholeR (wholeV l n h) w) := by
  have a1 := HxBox.new w u
  have b1 : Below w.heap.size w (w.alloc (.cells (hdv u) 61)) := (Below.refl _ _).alloc (Nat.le_refl _) _
  obtain ⟨W, hW⟩ : ∃ W, w.alloc (.cells (hdv u) 61) = W := ⟨_, rfl⟩
  rw [hW] at a1 b1
  have HW := Lib.hid hW
  have HA := Lib.hid (And.intro a1 b1)
  have HL1 := Lib.hid (HxBox.lt a1)
  have HB := Lib.hid (And.intro hb hg)
  have HU := Lib.hid hu
  have k2 := hlt 2
  have k3 := hlt 3
  have k4 := hlt 4
  have k5 := hlt 5
  have KB := Lib.hid (fun w1 => begun_any u (h 0) (h 1) (hu 0 (by decide)) (hu 1 (by decide)) (hlt 0) (hlt 1) w1)
  have KQ := (fun w1 (b : Below w.heap.size w w1) => listQ_any (hb.later b (Nat.le_refl _)) h47 12 (h 2) (by omega) (by omega))
  have nq : (listV (rdQ l n) (h 2) 12).f.code = 0 → (listV (rdQ l n) (h 2) 12).next ≤ n + 12 := fun hc => listQ_next hc
  unfold wholeV
  generalize listV (rdQ l n) (h 2) 12 = q at KQ nq ⊢
  obtain ⟨qx, qn, qf⟩ := q
  dsimp only at KQ nq
  have KQ := Lib.hid KQ
  clear a1 b1 hW hb hg hu
  obtain ⟨Z, hZ⟩ : ∃ Z, wholeR l n h ⟨qx, qn, qf⟩ = Z := ⟨_, rfl⟩
  rw [hZ]
  unfold wholeR at hZ
  dsimp only at hZ
  unfold WholeR
  by_cases hq : qf.code ≠ 0
  case pos =>
    --<< a
    rw [if_pos hq] at hZ
    subst hZ
    go_enter Tryz.func21, Tryz.ntmps21
    go_wp2_with (first
      | (refine wpList_load_hd rfl (.tmp 2) rfl rfl H2.out.1 ?_)
      | (rw [HW.out]; refine wpList_alloc_ms rfl rfl ?_; intro w2 a2 b2 z2; have H2 := Lib.hid (And.intro (HA.out.1.later b2 (Nat.le_refl _)) (And.intro a2 (HA.out.2.trans (b2.mono HA.out.2.size)))); have HL2 := Lib.hid a2.lt; clear a2 b2 z2))
    refine (KB.out w2).mono ?_
    rintro e w3 ⟨rfl, b3⟩
    have H3 := Lib.hid (And.intro (H2.out.1.later b3 (Nat.le_refl _)) (And.intro (H2.out.2.1.later b3 (Nat.le_refl _)) (H2.out.2.2.trans (b3.mono H2.out.2.2.size))))
    have HL3 := Lib.hid (MsBox.lt H3.out.2.1)
    clear b3
    go_wp2_with (first
      | (refine wpList_store_ms rfl (.tmp 7) (.tmp 14) rfl (begunV (h 0) (h 1)) .zero .zero .zero .zero rfl rfl H4.out.2.2.1 ?_; intro w5 a5 o5 z5 g5; have H5 := Lib.hid (And.intro (H4.out.1.same (o5 _ (Nat.ne_of_lt (Nat.lt_trans HL1.out HL3.out)))) (And.intro (H4.out.2.1.same (o5 _ (Nat.ne_of_lt HL3.out))) (And.intro a5 (g5 w.heap.size w (Nat.le_of_lt (Nat.lt_trans HL1.out HL3.out)) H4.out.2.2.2)))); (have e2 : w5.cell? ⟨w.heap.size, 2, none⟩ = some (.int .i64 (h 2)) := by rw [H5.out.1.at_ (by decide), HU.out 2 (by decide)]); clear a5 o5 z5 g5)
      | (refine wpList_alloc_ms rfl rfl ?_; intro w4 a4 b4 z4; have H4 := Lib.hid (And.intro (H3.out.1.later b4 (Nat.le_refl _)) (And.intro (H3.out.2.1.later b4 (Nat.le_refl _)) (And.intro a4 (H3.out.2.2.trans (b4.mono H3.out.2.2.size))))); clear a4 b4 z4))
    refine (KQ.out w5 H5.out.2.2.2).mono ?_
    rintro e w6 ⟨A6, n6, c6, v6, rfl, S6, t6, b6⟩
    obtain ⟨T6, x6, rfl⟩ := t6.held' hq
    have H6 := Lib.hid (And.intro (H5.out.2.1.later b6 (Nat.le_refl _)) (And.intro t6 (H5.out.2.2.2.trans (b6.mono H5.out.2.2.2.size))))
    clear S6 t6 b6 e2
    go_wp2_with (refine wpList_store_ms rfl (.tmp 4) (.tmp 25) rfl .zero .zero .zero .zero .zero rfl rfl H6.out.1 ?_; intro w7 a7 o7 z7 g7; have H7 := Lib.hid (And.intro a7 (And.intro (H6.out.2.1.farMs H6.out.1 o7) (g7 w.heap.size w (Nat.le_of_lt HL1.out) H6.out.2.2))); clear a7 o7 z7 g7)
    exact bodyPost_ret (results_ms3 _ rfl rfl H7.out.1) rfl ⟨.zero, .zero, .zero, .zero, .iface T6 x6, rfl, QsS.nil _ _, RcS.nil _ _, RcS.nil _ _, RcS.nil _ _, H7.out.2⟩
    -->>
  rw [if_neg hq] at hZ
  have hq0 : qf.code = 0 := Decidable.not_not.1 hq
  have hqn := nq hq0
  have KA := (fun w1 (b : Below w.heap.size w w1) => listR_any (HB.out.1.later b (Nat.le_refl _)) h47 qn (h 3) (by omega) (by omega) (Handle.later b (Nat.le_refl _) HB.out.2))
  have na : (listV (rdR l n) (h 3) qn).f.code = 0 → (listV (rdR l n) (h 3) qn).next ≤ n + 65541 + 12 := fun hc => listR_next (by omega) hc
  generalize listV (rdR l n) (h 3) qn = a at KA na hZ
  obtain ⟨ax, an, af⟩ := a
  have KU := (fun w1 (b : Below w.heap.size w w1) (hz : an ≤ n + 65541 + 12) => listR_any (HB.out.1.later b (Nat.le_refl _)) h47 an (h 4) (by omega) (by omega) (Handle.later b (Nat.le_refl _) HB.out.2))
  have nu : an ≤ n + 65541 + 12 → (listV (rdR l n) (h 4) an).f.code = 0 → (listV (rdR l n) (h 4) an).next ≤ n + 65541 + 12 := fun hz hc => listR_next (by omega) hc
  dsimp only at KA na KU nu hZ
  generalize listV (rdR l n) (h 4) an = b at KU nu hZ
  obtain ⟨ux, un, uf⟩ := b
  have KE := (fun w1 (b : Below w.heap.size w w1) (hz : un ≤ n + 65541 + 12) => listR_any (HB.out.1.later b (Nat.le_refl _)) h47 un (h 5) (by omega) (by omega) (Handle.later b (Nat.le_refl _) HB.out.2))
  dsimp only at KU nu KE hZ
  generalize listV (rdR l n) (h 5) un = c at KE hZ
  obtain ⟨ex, en, ef⟩ := c
  dsimp only at KE hZ
  have HZ := Lib.hid hZ
  have KA := Lib.hid KA
  have KU := Lib.hid KU
  have KE := Lib.hid KE
  have NA := Lib.hid na
  have NU := Lib.hid nu
  clear na nu nq hq hZ
  --<< b
  go_enter Tryz.func21, Tryz.ntmps21
  go_wp2_with (first
    | (refine wpList_load_hd rfl (.tmp 2) rfl rfl H2.out.1 ?_)
    | (rw [HW.out]; refine wpList_alloc_ms rfl rfl ?_; intro w2 a2 b2 z2; have H2 := Lib.hid (And.intro (HA.out.1.later b2 (Nat.le_refl _)) (And.intro a2 (HA.out.2.trans (b2.mono HA.out.2.size)))); have HL2 := Lib.hid a2.lt; clear a2 b2 z2))
  refine (KB.out w2).mono ?_
  rintro e w3 ⟨rfl, b3⟩
  have H3 := Lib.hid (And.intro (H2.out.1.later b3 (Nat.le_refl _)) (And.intro (H2.out.2.1.later b3 (Nat.le_refl _)) (H2.out.2.2.trans (b3.mono H2.out.2.2.size))))
  have HL3 := Lib.hid (MsBox.lt H3.out.2.1)
  clear b3
  go_wp2_with (first
    | (refine wpList_store_ms rfl (.tmp 7) (.tmp 14) rfl (begunV (h 0) (h 1)) .zero .zero .zero .zero rfl rfl H4.out.2.2.1 ?_; intro w5 a5 o5 z5 g5; have H5 := Lib.hid (And.intro (H4.out.1.same (o5 _ (Nat.ne_of_lt (Nat.lt_trans HL1.out HL3.out)))) (And.intro (H4.out.2.1.same (o5 _ (Nat.ne_of_lt HL3.out))) (And.intro a5 (g5 w.heap.size w (Nat.le_of_lt (Nat.lt_trans HL1.out HL3.out)) H4.out.2.2.2)))); (have e2 : w5.cell? ⟨w.heap.size, 2, none⟩ = some (.int .i64 (h 2)) := by rw [H5.out.1.at_ (by decide), HU.out 2 (by decide)]); clear a5 o5 z5 g5)
    | (refine wpList_alloc_ms rfl rfl ?_; intro w4 a4 b4 z4; have H4 := Lib.hid (And.intro (H3.out.1.later b4 (Nat.le_refl _)) (And.intro (H3.out.2.1.later b4 (Nat.le_refl _)) (And.intro a4 (H3.out.2.2.trans (b4.mono H3.out.2.2.size))))); clear a4 b4 z4))
  refine (KQ.out w5 H5.out.2.2.2).mono ?_
  rintro e w6 ⟨A6, n6, c6, v6, rfl, S6, t6, b6⟩
  obtain rfl := t6.none' hq0
  have H6 := Lib.hid (And.intro (H5.out.1.later b6 (Nat.le_refl _)) (And.intro (H5.out.2.1.later b6 (Nat.le_refl _)) (And.intro (H5.out.2.2.1.later b6 (Nat.le_refl _)) (And.intro S6 (And.intro (H5.out.2.2.2.trans (b6.mono H5.out.2.2.2.size)) b6.size)))))
  have HL4 := Lib.hid (MsBox.lt H5.out.2.2.1)
  have HL35 := Lib.hid (MsBox.lt H5.out.2.2.1)
  have HL56 := Lib.hid b6.size
  clear S6 t6 b6 e2
  go_wp2_with (refine wpList_put_ms rfl 23 (.tmp 28) (.tmp 27) rfl 5 ⟨A6, n6, c6⟩ rfl rfl (by kernel_rfl) H6.out.2.2.1 (by decide) (sq' := ⟨A6, n6, c6⟩) (sa' := .zero) (su' := .zero) (se' := .zero) rfl ?_; intro w7 a7 o7 z7 g7; have H7 := Lib.hid (And.intro (H6.out.1.same (o7 _ (Nat.ne_of_lt (Nat.lt_trans HL1.out HL3.out)))) (And.intro (H6.out.2.1.same (o7 _ (Nat.ne_of_lt HL3.out))) (And.intro a7 (And.intro (H6.out.2.2.2.1.away (fun k hk => o7 k (Nat.ne_of_gt (Nat.lt_of_lt_of_le HL4.out hk)))) (g7 w.heap.size w (Nat.le_of_lt (Nat.lt_trans HL1.out HL3.out)) H6.out.2.2.2.2.1))))); have HS7 := Lib.hid (Nat.le_of_eq z7.symm); clear a7 o7 g7 z7)
  obtain ⟨w8, hw8⟩ : ∃ w8, w7.alloc (.cells #[.pointer (some ⟨w3.heap.size, 6, none⟩), .pointer (some ⟨w3.heap.size, 7, none⟩), .pointer (some ⟨w3.heap.size, 8, none⟩)] 107) = w8 := ⟨_, rfl⟩
  have p8 : P3 w8 w7.heap.size w3.heap.size := by rw [← hw8]; exact heap_alloc_last w7 _
  have b8 : Below w7.heap.size w7 w8 := by rw [← hw8]; exact (Below.refl _ _).alloc (Nat.le_refl _) _
  rw [hw8]
  have HG7 := Lib.hid (MsBox.lt H7.out.2.2.1)
  have HL57 := Lib.hid (Nat.le_trans HL56.out HS7.out)
  have H8 := Lib.hid (And.intro (H7.out.1.later b8 (Nat.le_refl _)) (And.intro (H7.out.2.1.later b8 (Nat.le_refl _)) (And.intro (H7.out.2.2.1.later b8 (Nat.le_refl _)) (And.intro (H7.out.2.2.2.1.later b8 (Nat.le_refl _)) (And.intro p8 (H7.out.2.2.2.2.trans (b8.mono H7.out.2.2.2.2.size)))))))
  clear p8 b8 hw8
  obtain ⟨mh, hmh⟩ : ∃ mh, begunV (h 0) (h 1) = mh := ⟨_, rfl⟩
  rw [hmh] at H8
  have HMH := Lib.hid hmh
  clear hmh
  go_loopw [9, 34] (fun at_ i wr => (HxBox wr w.heap.size u ∧ MsBox wr W.heap.size .zero .zero .zero .zero .zero ∧ P3 wr w7.heap.size w3.heap.size ∧ QsS w5.heap.size wr A6 n6 c6 qx ∧ Below w.heap.size w wr) ∧ ((i = .int .i64 0 ∧ at_ = .int .i64 qn ∧ MsBox wr w3.heap.size mh ⟨A6, n6, c6⟩ .zero .zero .zero) ∨ (∃ sa : Sl, i = .int .i64 1 ∧ at_ = .int .i64 an ∧ MsBox wr w3.heap.size mh ⟨A6, n6, c6⟩ sa .zero .zero ∧ af.code = 0 ∧ RcS w5.heap.size wr sa.A sa.n sa.c ax) ∨ (∃ sa su : Sl, i = .int .i64 2 ∧ at_ = .int .i64 un ∧ MsBox wr w3.heap.size mh ⟨A6, n6, c6⟩ sa su .zero ∧ (af.code = 0 ∧ uf.code = 0) ∧ RcS w5.heap.size wr sa.A sa.n sa.c ax ∧ RcS w5.heap.size wr su.A su.n su.c ux) ∨ (∃ sa su se : Sl, i = .int .i64 3 ∧ at_ = .int .i64 en ∧ MsBox wr w3.heap.size mh ⟨A6, n6, c6⟩ sa su se ∧ (af.code = 0 ∧ uf.code = 0 ∧ ef.code = 0) ∧ RcS w5.heap.size wr sa.A sa.n sa.c ax ∧ RcS w5.heap.size wr su.A su.n su.c ux ∧ RcS w5.heap.size wr se.A se.n se.c ex))) (fun _ i _ => 3 - (intOf i).toNat)
  case atStart => exact ⟨⟨H8.out.1, H8.out.2.1, H8.out.2.2.2.2.1, H8.out.2.2.2.1, H8.out.2.2.2.2.2⟩, .inl ⟨rfl, rfl, H8.out.2.2.1⟩⟩
  case round =>
    obtain ⟨⟨r1, r2, r3, r4, r5⟩, ⟨rfl, rfl, r6⟩ | ⟨sa, rfl, rfl, r6, hc0, ra⟩ | ⟨sa, su, rfl, rfl, r6, ⟨hc0, hc1⟩, ra, ru⟩ | ⟨sa, su, se, rfl, rfl, r6, ⟨hc0, hc1, hc2⟩, ra, ru, re⟩⟩ := hrel
    · have R := Lib.hid (And.intro r1 (And.intro r2 (And.intro r3 (And.intro r4 (And.intro r5 r6)))))
      have pc : wr.cell? ⟨w7.heap.size, 0, none⟩ = some (.pointer (some ⟨w3.heap.size, 6, none⟩)) := r3.cell 0
      have hcc : wr.cell? ⟨w.heap.size, 3, none⟩ = some (.int .i64 (h 3)) := by rw [r1.at_ (by decide), HU.out 3 (by decide)]
      clear r1 r2 r3 r4 r5 r6 
      go_wp2_with fail
      refine (KA.out wr R.out.2.2.2.2.1).mono ?_
      rintro e w9 ⟨A9, n9, c9, v9, rfl, S9, t9, b9⟩
      have hlow : w5.heap.size ≤ wr.heap.size := Nat.le_trans HL57.out (Nat.le_of_lt R.out.2.2.1.lt)
      have S9 := S9.low hlow
      by_cases hk : af.code ≠ 0
      · obtain ⟨T9, x9, rfl⟩ := t9.held' hk
        have TT := Lib.hid t9
        have U := Lib.hid (And.intro (R.out.1.later b9 (Nat.le_refl _)) (And.intro (R.out.2.1.later b9 (Nat.le_refl _)) (And.intro (R.out.2.2.1.later b9) (And.intro (R.out.2.2.2.1.later b9 (Nat.le_refl _)) (And.intro (R.out.2.2.2.2.1.trans (b9.mono R.out.2.2.2.2.1.size)) (And.intro (R.out.2.2.2.2.2.later b9 (Nat.le_refl _)) (And.intro S9 trivial)))))))
        clear S9 t9 b9 pc hcc
        go_wp2_with (first
          | (refine wpList_store_ms rfl (.tmp 4) (.tmp 54) rfl .zero .zero .zero .zero .zero rfl rfl V.out.2.1 ?_; intro w11 a11 o11 z11 g11; have X := Lib.hid (And.intro a11 (And.intro ((TT.out.farMs U.out.2.2.2.2.2.1 V.out.2.2.2.2.2.2.2.2).farMs V.out.2.1 o11) (g11 w.heap.size w (Nat.le_of_lt HL1.out) V.out.2.2.2.2.1))); clear a11 o11 z11 g11)
          | (refine wpList_put_ms rfl 24 (.tmp 51) (.tmp 48) rfl 6 ⟨A9, n9, c9⟩ rfl rfl (by kernel_rfl) U.out.2.2.2.2.2.1 (by decide) (sq' := ⟨A6, n6, c6⟩) (sa' := ⟨A9, n9, c9⟩) (su' := .zero) (se' := .zero) rfl ?_; intro w10 a10 o10 z10 g10; have V := Lib.hid (And.intro (U.out.1.same (o10 _ (Nat.ne_of_lt (Nat.lt_trans HL1.out HL3.out)))) (And.intro (U.out.2.1.same (o10 _ (Nat.ne_of_lt HL3.out))) (And.intro (show P3 w10 w7.heap.size w3.heap.size from (o10 _ (Ne.symm (Nat.ne_of_lt HG7.out))).trans U.out.2.2.1) (And.intro (U.out.2.2.2.1.away (fun k hk => o10 k (Nat.ne_of_gt (Nat.lt_of_lt_of_le HL35.out hk)))) (And.intro (g10 w.heap.size w (Nat.le_of_lt (Nat.lt_trans HL1.out HL3.out)) U.out.2.2.2.2.1) (And.intro a10 (And.intro (U.out.2.2.2.2.2.2.1.away (fun k hk => o10 k (Nat.ne_of_gt (Nat.lt_of_lt_of_le HL35.out hk)))) (And.intro trivial o10)))))))); clear a10 o10 z10 g10))
        have hz := HZ.out
        rw [if_pos hk] at hz
        rw [← hz]
        exact bodyPost_ret (results_ms3 _ rfl rfl X.out.1) rfl ⟨.zero, .zero, .zero, .zero, .iface T9 x9, rfl, QsS.nil _ _, RcS.nil _ _, RcS.nil _ _, RcS.nil _ _, X.out.2⟩
      · have hk0 : af.code = 0 := Decidable.not_not.1 hk
        obtain rfl := t9.none' hk0
        have U := Lib.hid (And.intro (R.out.1.later b9 (Nat.le_refl _)) (And.intro (R.out.2.1.later b9 (Nat.le_refl _)) (And.intro (R.out.2.2.1.later b9) (And.intro (R.out.2.2.2.1.later b9 (Nat.le_refl _)) (And.intro (R.out.2.2.2.2.1.trans (b9.mono R.out.2.2.2.2.1.size)) (And.intro (R.out.2.2.2.2.2.later b9 (Nat.le_refl _)) (And.intro S9 trivial)))))))
        clear S9 t9 b9 pc hcc hk
        go_wp2_with (refine wpList_put_ms rfl 24 (.tmp 51) (.tmp 48) rfl 6 ⟨A9, n9, c9⟩ rfl rfl (by kernel_rfl) U.out.2.2.2.2.2.1 (by decide) (sq' := ⟨A6, n6, c6⟩) (sa' := ⟨A9, n9, c9⟩) (su' := .zero) (se' := .zero) rfl ?_; intro w10 a10 o10 z10 g10; have V := Lib.hid (And.intro (U.out.1.same (o10 _ (Nat.ne_of_lt (Nat.lt_trans HL1.out HL3.out)))) (And.intro (U.out.2.1.same (o10 _ (Nat.ne_of_lt HL3.out))) (And.intro (show P3 w10 w7.heap.size w3.heap.size from (o10 _ (Ne.symm (Nat.ne_of_lt HG7.out))).trans U.out.2.2.1) (And.intro (U.out.2.2.2.1.away (fun k hk => o10 k (Nat.ne_of_gt (Nat.lt_of_lt_of_le HL35.out hk)))) (And.intro (g10 w.heap.size w (Nat.le_of_lt (Nat.lt_trans HL1.out HL3.out)) U.out.2.2.2.2.1) (And.intro a10 (And.intro (U.out.2.2.2.2.2.2.1.away (fun k hk => o10 k (Nat.ne_of_gt (Nat.lt_of_lt_of_le HL35.out hk)))) (And.intro trivial o10)))))))); clear a10 o10 z10 g10)
        go_roundw
        case rel => exact ⟨⟨V.out.1, V.out.2.1, V.out.2.2.1, V.out.2.2.2.1, V.out.2.2.2.2.1⟩, .inr (.inl ⟨⟨A9, n9, c9⟩, by go_num, rfl, V.out.2.2.2.2.2.1, hk0, V.out.2.2.2.2.2.2.1⟩)⟩
        case measure => simp [intOf]
    · have R := Lib.hid (And.intro r1 (And.intro r2 (And.intro r3 (And.intro r4 (And.intro r5 (And.intro r6 ra))))))
      have pc : wr.cell? ⟨w7.heap.size, 1, none⟩ = some (.pointer (some ⟨w3.heap.size, 7, none⟩)) := r3.cell 1
      have hcc : wr.cell? ⟨w.heap.size, 4, none⟩ = some (.int .i64 (h 4)) := by rw [r1.at_ (by decide), HU.out 4 (by decide)]
      clear r1 r2 r3 r4 r5 r6 ra
      go_wp2_with fail
      refine (KU.out wr R.out.2.2.2.2.1 (NA.out hc0)).mono ?_
      rintro e w9 ⟨A9, n9, c9, v9, rfl, S9, t9, b9⟩
      have hlow : w5.heap.size ≤ wr.heap.size := Nat.le_trans HL57.out (Nat.le_of_lt R.out.2.2.1.lt)
      have S9 := S9.low hlow
      by_cases hk : uf.code ≠ 0
      · obtain ⟨T9, x9, rfl⟩ := t9.held' hk
        have TT := Lib.hid t9
        have U := Lib.hid (And.intro (R.out.1.later b9 (Nat.le_refl _)) (And.intro (R.out.2.1.later b9 (Nat.le_refl _)) (And.intro (R.out.2.2.1.later b9) (And.intro (R.out.2.2.2.1.later b9 (Nat.le_refl _)) (And.intro (R.out.2.2.2.2.1.trans (b9.mono R.out.2.2.2.2.1.size)) (And.intro (R.out.2.2.2.2.2.1.later b9 (Nat.le_refl _)) (And.intro S9 (R.out.2.2.2.2.2.2.later b9 (Nat.le_refl _)))))))))
        clear S9 t9 b9 pc hcc
        go_wp2_with (first
          | (refine wpList_store_ms rfl (.tmp 4) (.tmp 54) rfl .zero .zero .zero .zero .zero rfl rfl V.out.2.1 ?_; intro w11 a11 o11 z11 g11; have X := Lib.hid (And.intro a11 (And.intro ((TT.out.farMs U.out.2.2.2.2.2.1 V.out.2.2.2.2.2.2.2.2).farMs V.out.2.1 o11) (g11 w.heap.size w (Nat.le_of_lt HL1.out) V.out.2.2.2.2.1))); clear a11 o11 z11 g11)
          | (refine wpList_put_ms rfl 24 (.tmp 51) (.tmp 48) rfl 7 ⟨A9, n9, c9⟩ rfl rfl (by kernel_rfl) U.out.2.2.2.2.2.1 (by decide) (sq' := ⟨A6, n6, c6⟩) (sa' := sa) (su' := ⟨A9, n9, c9⟩) (se' := .zero) rfl ?_; intro w10 a10 o10 z10 g10; have V := Lib.hid (And.intro (U.out.1.same (o10 _ (Nat.ne_of_lt (Nat.lt_trans HL1.out HL3.out)))) (And.intro (U.out.2.1.same (o10 _ (Nat.ne_of_lt HL3.out))) (And.intro (show P3 w10 w7.heap.size w3.heap.size from (o10 _ (Ne.symm (Nat.ne_of_lt HG7.out))).trans U.out.2.2.1) (And.intro (U.out.2.2.2.1.away (fun k hk => o10 k (Nat.ne_of_gt (Nat.lt_of_lt_of_le HL35.out hk)))) (And.intro (g10 w.heap.size w (Nat.le_of_lt (Nat.lt_trans HL1.out HL3.out)) U.out.2.2.2.2.1) (And.intro a10 (And.intro (U.out.2.2.2.2.2.2.1.away (fun k hk => o10 k (Nat.ne_of_gt (Nat.lt_of_lt_of_le HL35.out hk)))) (And.intro ((U.out.2.2.2.2.2.2.2).away (fun k hk => o10 k (Nat.ne_of_gt (Nat.lt_of_lt_of_le HL35.out hk)))) o10)))))))); clear a10 o10 z10 g10))
        have hz := HZ.out
        rw [if_neg (fun e => e hc0), if_pos hk] at hz
        rw [← hz]
        exact bodyPost_ret (results_ms3 _ rfl rfl X.out.1) rfl ⟨.zero, .zero, .zero, .zero, .iface T9 x9, rfl, QsS.nil _ _, RcS.nil _ _, RcS.nil _ _, RcS.nil _ _, X.out.2⟩
      · have hk0 : uf.code = 0 := Decidable.not_not.1 hk
        obtain rfl := t9.none' hk0
        have U := Lib.hid (And.intro (R.out.1.later b9 (Nat.le_refl _)) (And.intro (R.out.2.1.later b9 (Nat.le_refl _)) (And.intro (R.out.2.2.1.later b9) (And.intro (R.out.2.2.2.1.later b9 (Nat.le_refl _)) (And.intro (R.out.2.2.2.2.1.trans (b9.mono R.out.2.2.2.2.1.size)) (And.intro (R.out.2.2.2.2.2.1.later b9 (Nat.le_refl _)) (And.intro S9 (R.out.2.2.2.2.2.2.later b9 (Nat.le_refl _)))))))))
        clear S9 t9 b9 pc hcc hk
        go_wp2_with (refine wpList_put_ms rfl 24 (.tmp 51) (.tmp 48) rfl 7 ⟨A9, n9, c9⟩ rfl rfl (by kernel_rfl) U.out.2.2.2.2.2.1 (by decide) (sq' := ⟨A6, n6, c6⟩) (sa' := sa) (su' := ⟨A9, n9, c9⟩) (se' := .zero) rfl ?_; intro w10 a10 o10 z10 g10; have V := Lib.hid (And.intro (U.out.1.same (o10 _ (Nat.ne_of_lt (Nat.lt_trans HL1.out HL3.out)))) (And.intro (U.out.2.1.same (o10 _ (Nat.ne_of_lt HL3.out))) (And.intro (show P3 w10 w7.heap.size w3.heap.size from (o10 _ (Ne.symm (Nat.ne_of_lt HG7.out))).trans U.out.2.2.1) (And.intro (U.out.2.2.2.1.away (fun k hk => o10 k (Nat.ne_of_gt (Nat.lt_of_lt_of_le HL35.out hk)))) (And.intro (g10 w.heap.size w (Nat.le_of_lt (Nat.lt_trans HL1.out HL3.out)) U.out.2.2.2.2.1) (And.intro a10 (And.intro (U.out.2.2.2.2.2.2.1.away (fun k hk => o10 k (Nat.ne_of_gt (Nat.lt_of_lt_of_le HL35.out hk)))) (And.intro ((U.out.2.2.2.2.2.2.2).away (fun k hk => o10 k (Nat.ne_of_gt (Nat.lt_of_lt_of_le HL35.out hk)))) o10)))))))); clear a10 o10 z10 g10)
        go_roundw
        case rel => exact ⟨⟨V.out.1, V.out.2.1, V.out.2.2.1, V.out.2.2.2.1, V.out.2.2.2.2.1⟩, .inr (.inr (.inl ⟨sa, ⟨A9, n9, c9⟩, by go_num, rfl, V.out.2.2.2.2.2.1, ⟨hc0, hk0⟩, V.out.2.2.2.2.2.2.2.1, V.out.2.2.2.2.2.2.1⟩))⟩
        case measure => simp [intOf]
    · have R := Lib.hid (And.intro r1 (And.intro r2 (And.intro r3 (And.intro r4 (And.intro r5 (And.intro r6 (And.intro ra ru)))))))
      have pc : wr.cell? ⟨w7.heap.size, 2, none⟩ = some (.pointer (some ⟨w3.heap.size, 8, none⟩)) := r3.cell 2
      have hcc : wr.cell? ⟨w.heap.size, 5, none⟩ = some (.int .i64 (h 5)) := by rw [r1.at_ (by decide), HU.out 5 (by decide)]
      clear r1 r2 r3 r4 r5 r6 ra ru
      go_wp2_with fail
      refine (KE.out wr R.out.2.2.2.2.1 (NU.out (NA.out hc0) hc1)).mono ?_
      rintro e w9 ⟨A9, n9, c9, v9, rfl, S9, t9, b9⟩
      have hlow : w5.heap.size ≤ wr.heap.size := Nat.le_trans HL57.out (Nat.le_of_lt R.out.2.2.1.lt)
      have S9 := S9.low hlow
      by_cases hk : ef.code ≠ 0
      · obtain ⟨T9, x9, rfl⟩ := t9.held' hk
        have TT := Lib.hid t9
        have U := Lib.hid (And.intro (R.out.1.later b9 (Nat.le_refl _)) (And.intro (R.out.2.1.later b9 (Nat.le_refl _)) (And.intro (R.out.2.2.1.later b9) (And.intro (R.out.2.2.2.1.later b9 (Nat.le_refl _)) (And.intro (R.out.2.2.2.2.1.trans (b9.mono R.out.2.2.2.2.1.size)) (And.intro (R.out.2.2.2.2.2.1.later b9 (Nat.le_refl _)) (And.intro S9 (And.intro (R.out.2.2.2.2.2.2.1.later b9 (Nat.le_refl _)) (R.out.2.2.2.2.2.2.2.later b9 (Nat.le_refl _))))))))))
        clear S9 t9 b9 pc hcc
        go_wp2_with (first
          | (refine wpList_store_ms rfl (.tmp 4) (.tmp 54) rfl .zero .zero .zero .zero .zero rfl rfl V.out.2.1 ?_; intro w11 a11 o11 z11 g11; have X := Lib.hid (And.intro a11 (And.intro ((TT.out.farMs U.out.2.2.2.2.2.1 V.out.2.2.2.2.2.2.2.2).farMs V.out.2.1 o11) (g11 w.heap.size w (Nat.le_of_lt HL1.out) V.out.2.2.2.2.1))); clear a11 o11 z11 g11)
          | (refine wpList_put_ms rfl 24 (.tmp 51) (.tmp 48) rfl 8 ⟨A9, n9, c9⟩ rfl rfl (by kernel_rfl) U.out.2.2.2.2.2.1 (by decide) (sq' := ⟨A6, n6, c6⟩) (sa' := sa) (su' := su) (se' := ⟨A9, n9, c9⟩) rfl ?_; intro w10 a10 o10 z10 g10; have V := Lib.hid (And.intro (U.out.1.same (o10 _ (Nat.ne_of_lt (Nat.lt_trans HL1.out HL3.out)))) (And.intro (U.out.2.1.same (o10 _ (Nat.ne_of_lt HL3.out))) (And.intro (show P3 w10 w7.heap.size w3.heap.size from (o10 _ (Ne.symm (Nat.ne_of_lt HG7.out))).trans U.out.2.2.1) (And.intro (U.out.2.2.2.1.away (fun k hk => o10 k (Nat.ne_of_gt (Nat.lt_of_lt_of_le HL35.out hk)))) (And.intro (g10 w.heap.size w (Nat.le_of_lt (Nat.lt_trans HL1.out HL3.out)) U.out.2.2.2.2.1) (And.intro a10 (And.intro (U.out.2.2.2.2.2.2.1.away (fun k hk => o10 k (Nat.ne_of_gt (Nat.lt_of_lt_of_le HL35.out hk)))) (And.intro (And.intro ((U.out.2.2.2.2.2.2.2.1).away (fun k hk => o10 k (Nat.ne_of_gt (Nat.lt_of_lt_of_le HL35.out hk)))) ((U.out.2.2.2.2.2.2.2.2).away (fun k hk => o10 k (Nat.ne_of_gt (Nat.lt_of_lt_of_le HL35.out hk))))) o10)))))))); clear a10 o10 z10 g10))
        have hz := HZ.out
        rw [if_neg (fun e => e hc0), if_neg (fun e => e hc1), if_pos hk] at hz
        rw [← hz]
        exact bodyPost_ret (results_ms3 _ rfl rfl X.out.1) rfl ⟨.zero, .zero, .zero, .zero, .iface T9 x9, rfl, QsS.nil _ _, RcS.nil _ _, RcS.nil _ _, RcS.nil _ _, X.out.2⟩
      · have hk0 : ef.code = 0 := Decidable.not_not.1 hk
        obtain rfl := t9.none' hk0
        have U := Lib.hid (And.intro (R.out.1.later b9 (Nat.le_refl _)) (And.intro (R.out.2.1.later b9 (Nat.le_refl _)) (And.intro (R.out.2.2.1.later b9) (And.intro (R.out.2.2.2.1.later b9 (Nat.le_refl _)) (And.intro (R.out.2.2.2.2.1.trans (b9.mono R.out.2.2.2.2.1.size)) (And.intro (R.out.2.2.2.2.2.1.later b9 (Nat.le_refl _)) (And.intro S9 (And.intro (R.out.2.2.2.2.2.2.1.later b9 (Nat.le_refl _)) (R.out.2.2.2.2.2.2.2.later b9 (Nat.le_refl _))))))))))
        clear S9 t9 b9 pc hcc hk
        go_wp2_with (refine wpList_put_ms rfl 24 (.tmp 51) (.tmp 48) rfl 8 ⟨A9, n9, c9⟩ rfl rfl (by kernel_rfl) U.out.2.2.2.2.2.1 (by decide) (sq' := ⟨A6, n6, c6⟩) (sa' := sa) (su' := su) (se' := ⟨A9, n9, c9⟩) rfl ?_; intro w10 a10 o10 z10 g10; have V := Lib.hid (And.intro (U.out.1.same (o10 _ (Nat.ne_of_lt (Nat.lt_trans HL1.out HL3.out)))) (And.intro (U.out.2.1.same (o10 _ (Nat.ne_of_lt HL3.out))) (And.intro (show P3 w10 w7.heap.size w3.heap.size from (o10 _ (Ne.symm (Nat.ne_of_lt HG7.out))).trans U.out.2.2.1) (And.intro (U.out.2.2.2.1.away (fun k hk => o10 k (Nat.ne_of_gt (Nat.lt_of_lt_of_le HL35.out hk)))) (And.intro (g10 w.heap.size w (Nat.le_of_lt (Nat.lt_trans HL1.out HL3.out)) U.out.2.2.2.2.1) (And.intro a10 (And.intro (U.out.2.2.2.2.2.2.1.away (fun k hk => o10 k (Nat.ne_of_gt (Nat.lt_of_lt_of_le HL35.out hk)))) (And.intro (And.intro ((U.out.2.2.2.2.2.2.2.1).away (fun k hk => o10 k (Nat.ne_of_gt (Nat.lt_of_lt_of_le HL35.out hk)))) ((U.out.2.2.2.2.2.2.2.2).away (fun k hk => o10 k (Nat.ne_of_gt (Nat.lt_of_lt_of_le HL35.out hk))))) o10)))))))); clear a10 o10 z10 g10)
        go_roundw
        case rel => exact ⟨⟨V.out.1, V.out.2.1, V.out.2.2.1, V.out.2.2.2.1, V.out.2.2.2.2.1⟩, .inr (.inr (.inr ⟨sa, su, ⟨A9, n9, c9⟩, by go_num, rfl, V.out.2.2.2.2.2.1, ⟨hc0, hc1, hk0⟩, V.out.2.2.2.2.2.2.2.1.1, V.out.2.2.2.2.2.2.2.1.2, V.out.2.2.2.2.2.2.1⟩))⟩
        case measure => simp [intOf]
    · have R := Lib.hid (And.intro r2 (And.intro r4 (And.intro r5 (And.intro r6 (And.intro ra (And.intro ru re))))))
      clear r1 r2 r3 r4 r5 r6 ra ru re
      go_wp2_with (first
        | (refine wpList_store_ms rfl (.tmp 4) (.tmp 57) rfl mh ⟨A6, n6, c6⟩ sa su se rfl rfl R.out.1 ?_; intro w11 a11 o11 z11 g11; have X := Lib.hid (And.intro a11 (And.intro o11 (g11 w.heap.size w (Nat.le_of_lt HL1.out) R.out.2.2.1))); clear a11 o11 z11 g11)
        | (refine wpList_load_ms rfl (.tmp 7) rfl rfl R.out.2.2.2.1 ?_))
      have hz := HZ.out
      rw [if_neg (fun e => e hc0), if_neg (fun e => e hc1), if_neg (fun e => e hc2), HMH.out] at hz
      rw [← hz]
      have hw5 : w.heap.size ≤ w5.heap.size := H5.out.2.2.2.size
      have far : ∀ k, w5.heap.size ≤ k → w11.heap[k]? = wr.heap[k]? := fun k hk => X.out.2.1 k (Nat.ne_of_gt (Nat.lt_of_lt_of_le (Nat.lt_trans HL3.out HL35.out) hk))
      exact bodyPost_ret (results_ms3 _ rfl rfl X.out.1) rfl ⟨⟨A6, n6, c6⟩, sa, su, se, .nilIface, rfl, (R.out.2.1.away far).low hw5, (R.out.2.2.2.2.1.away far).low hw5, (R.out.2.2.2.2.2.1.away far).low hw5, (R.out.2.2.2.2.2.2.away far).low hw5, Tells.nil _ _ _, X.out.2.2⟩
  -->>
end Go.Proofs.YtbikifaadpijnaaGreatDoor

namespace Go.Proofs.YtbikifaadpijnaaGreatDoor
open Go.RowKit
set_option maxRecDepth 100000

theorem writeQB_le {q : Qs} (h : rightQ q) : (writeQB q).length ≤ 259 := by
  have h1 := writeB_le h.1
  have h2 := writeQB_length q
  omega
theorem writeRB_le {r : Rc} (h : rightR r) (_ : r.ok) : (writeRB r).length ≤ 1265 := by
  have h1 := writeQB_le h.1
  have h2 := dataB_le h
  unfold writeRB
  simp only [List.length_append, putn_length]
  omega
theorem qsB_snoc (xs : List Qs) (q : Qs) : qsB (xs ++ [q]) = qsB xs ++ writeQB q := by simp [qsB]
theorem rsB_snoc (xs : List Rc) (r : Rc) : rsB (xs ++ [r]) = rsB xs ++ writeRB r := by simp [rsB]
theorem qsB_le {xs : List Qs} (h : ∀ q ∈ xs, rightQ q) : (qsB xs).length ≤ 259 * xs.length := by
  induction xs with
  | nil => simp [qsB]
  | cons q xs ih =>
    have h1 := writeQB_le (h q (by simp))
    have h2 := ih (fun q' hq => h q' (by simp [hq]))
    unfold qsB at *
    simp only [List.map_cons, List.flatten_cons, List.length_append, List.length_cons]
    omega
theorem rsB_le {xs : List Rc} (h : ∀ r ∈ xs, rightR r) (hk : ∀ r ∈ xs, r.ok) : (rsB xs).length ≤ 1265 * xs.length := by
  induction xs with
  | nil => simp [rsB]
  | cons q xs ih =>
    have h1 := writeRB_le (h q (by simp)) (hk q (by simp))
    have h2 := ih (fun q' hq => h q' (by simp [hq])) (fun q' hq => hk q' (by simp [hq]))
    unfold rsB at *
    simp only [List.map_cons, List.flatten_cons, List.length_append, List.length_cons]
    omega
set_option maxHeartbeats 4000000 in
theorem writtenQ_any {lo : Nat} {A : Option Addr} {n c : Nat} {xs : List Qs} {w : World} (hS : QsS lo w A n c xs) (hs : ∀ q ∈ xs, q.name.length ≤ 1000000) (hn : n ≤ 1000) (hE : Env w) : Calls Tryz.prog 28 #[.slice A n c, .func (.func 29) #[] #[]] w fun e w' =>
    ((∀ q ∈ xs, rightQ q) → ∃ A' m c', e = .returned (.tuple #[.slice A' m c', .nilIface]) ∧ Bs w' A' m c' (qsB xs)) ∧ (¬ (∀ q ∈ xs, rightQ q) → e = .returned (.tuple #[.slice none 0 0, .iface 34 (.int .i64 1)])) ∧ Below w.heap.size w w' := by
  have hlen := hS.len
  have HS := Lib.hid hS
  have HN := Lib.hid hs
  have HE := Lib.hid hE
  clear hS hs hE
  --<< Q
  go_enter Tryz.func28, Tryz.ntmps28
  go_wp2_with fail
  go_loopw [6, 13] (fun v i wr => ∃ k : Nat, k ≤ n ∧ i = .int .i64 k ∧ (∀ q ∈ xs.take k, rightQ q) ∧ wr.ownsRow w.heap.size 5 1 v (qsB (xs.take k)).length (bv (qsB (xs.take k))) ∧ Below w.heap.size w wr) (fun _ i _ => n - (intOf i).toNat)
  case atStart => exact ⟨0, Nat.zero_le _, rfl, (fun q h => by simp at h), World.ownsRow_nil _ _ _ _, Below.refl _ _⟩
  case round =>
    obtain ⟨k, hk, rfl, hr, ho, hbe⟩ := hrel
    have hle := qsB_le (xs := xs.take k) hr
    have hle2 : (qsB (xs.take k)).length ≤ 259 * n := Nat.le_trans hle (Nat.mul_le_mul_left _ (by rw [List.length_take]; omega))
    by_cases hlt : k < n
    · obtain ⟨x, hx⟩ : ∃ x, xs[k]? = some x := ⟨xs[k]'(by omega), List.getElem?_eq_getElem _⟩
      have hxm := List.mem_of_getElem? hx
      have hsx := HN.out x hxm
      obtain ⟨b, off, hA, hr_, _⟩ := (HS.out.later hbe (Nat.le_refl _)).here k x hx
      subst hA
      have HSX := Lib.hid hsx
      have HX := Lib.hid hx
      have HR := Lib.hid hr
      have hx1 : xs.take (k + 1) = xs.take k ++ [x] := by rw [List.take_add_one, hx]; rfl
      have HX1 := Lib.hid hx1
      obtain ⟨pre, hpre⟩ : ∃ pre, qsB (xs.take k) = pre := ⟨_, rfl⟩
      rw [hpre] at ho hle2
      have HPRE := Lib.hid hpre
      have HO := Lib.hid (And.intro ho hbe)
      have HCR := Lib.hid hr_
      clear ho hbe hx hr hsx hle hx1 hpre
      have HXM := Lib.hid hxm
      clear hxm hr_
      go_wp2_with (first
        | (refine wpList_load_qs rfl (.tmp 8) rfl rfl H4.out.1 ?_)
        | (refine wpList_store_qs rfl (.tmp 8) (.tmp 16) rfl x rfl rfl H3.out.1 ?_; intro w4 a4 o4 z4 g4; have b4 := g4 _ _ (Nat.le_refl _) H3.out.2; have H4 := Lib.hid (And.intro a4 (And.intro (own_kept HO.out.1 b4) (HO.out.2.trans (b4.mono HO.out.2.size)))); clear a4 o4 z4 g4 b4)
        | (refine wpList_alloc_qs rfl rfl ?_; intro w3 a3 b3 z3; have H3 := Lib.hid (And.intro a3 b3); clear a3 b3 z3)
        | (refine wpList_load_mid rfl 51 (.tmp 15) rfl b (off + k * 3) rfl (qsv x).toList _ HCR.out Tryz.underlying51 rfl (by simpa using qs_size x) ?_; rw [Array.toArray_toList]))
      have kw := writeQ_any x HSX.out (Env.later HE.out H4.out.2.2 (Nat.le_refl _))
      by_cases hrx : rightQ x
      · rw [show writeQv x = writeQB x from if_pos hrx, show writeQe x = fl0 from if_pos hrx] at kw
        have hlx := writeQB_le hrx
        have HRX := Lib.hid hrx
        clear hrx
        refine kw.mono ?_
        rintro e w5 ⟨A5, c5, v5, rfl, B5, t5, b5⟩
        obtain rfl := t5.none' rfl
        have H5 := Lib.hid (And.intro (own_kept H4.out.2.1 b5) (And.intro B5 (H4.out.2.2.trans (b5.mono H4.out.2.2.size))))
        clear t5 b5 B5 kw
        obtain ⟨m5, hm5⟩ : ∃ m5, (writeQB x).length = m5 := ⟨_, rfl⟩
        rw [hm5] at H5 hlx ⊢
        have HM5 := Lib.hid hm5
        clear hm5
        go_wp2_with (at_builtin; refine wpList_append_bs rfl (.tmp 26) (.tmp 27) 22 rfl w.heap.size 5 info5 Tryz.underlying22 _ _ pre rfl H5.out.1 A5 m5 c5 (writeQB x) rfl H5.out.2.1 (by omega) H5.out.2.2.size ?_; intro v6 w6 o6 g6 n6 m6; have H6 := Lib.hid (And.intro o6 (H5.out.2.2.grown g6 H5.out.2.2.size (fun z hz => (World.ownsRow.lt H5.out.1 z hz).1))); clear o6 g6 n6 m6)
        go_roundw
        case rel =>
          refine ⟨k + 1, hlt, by go_num, ?_, ?_, H6.out.2⟩
          · rw [HX1.out]
            intro q hq
            rcases List.mem_append.1 hq with h | h
            · exact HR.out q h
            · rw [List.mem_singleton.1 h]; exact HRX.out
          · rw [HX1.out, qsB_snoc, HPRE.out, List.length_append, HM5.out]
            exact H6.out.1
        case measure => simp [intOf]; omega
      · rw [show writeQv x = [] from if_neg hrx, show writeQe x = ⟨1, 0, false⟩ from if_neg hrx] at kw
        refine kw.mono ?_
        rintro e w5 ⟨A5, c5, v5, rfl, B5, t5, b5⟩
        obtain ⟨T5, x5, rfl⟩ := t5.held' (by decide)
        have H5 := Lib.hid (H4.out.2.2.trans (b5.mono H4.out.2.2.size))
        have HRX := Lib.hid hrx
        clear t5 b5 B5 kw hrx
        go_wp2_with fail
        go_ret2
        exact ⟨fun h => absurd (h x HXM.out) HRX.out, fun _ => rfl, H5.out⟩
    · obtain rfl : k = n := by omega
      rw [List.take_of_length_le (by omega)] at hr ho
      obtain ⟨A3, c3, rfl, B3⟩ := Bs.of_own ho
      have H3 := Lib.hid (And.intro B3 (And.intro hbe hr))
      clear B3 hbe hr ho hle hle2
      go_wp2_with fail
      go_ret2
      exact ⟨fun _ => ⟨A3, _, c3, rfl, H3.out.1⟩, fun h => absurd H3.out.2.2 h, H3.out.2.1⟩
  -->>
set_option maxHeartbeats 4000000 in
theorem writtenR_any {lo : Nat} {A : Option Addr} {n c : Nat} {xs : List Rc} {w : World} (hS : RcS lo w A n c xs) (hs : ∀ r ∈ xs, (r.name.length ≤ 1000000 ∧ r.target.length ≤ 1000000) ∧ (0 ≤ r.ttl ∧ r.ttl < 4294967296)) (hn : n ≤ 1000) (hE : Env w) : Calls Tryz.prog 30 #[.slice A n c, .func (.func 32) #[] #[]] w fun e w' =>
    ((∀ q ∈ xs, rightR q) → ∃ A' m c', e = .returned (.tuple #[.slice A' m c', .nilIface]) ∧ Bs w' A' m c' (rsB xs)) ∧ (¬ (∀ q ∈ xs, rightR q) → e = .returned (.tuple #[.slice none 0 0, .iface 34 (.int .i64 1)])) ∧ Below w.heap.size w w' := by
  have hlen := hS.len
  have HS := Lib.hid hS
  have HN := Lib.hid hs
  have HE := Lib.hid hE
  have HK := Lib.hid hS.ok
  clear hS hs hE
  --<< R
  go_enter Tryz.func30, Tryz.ntmps30
  go_wp2_with fail
  go_loopw [6, 13] (fun v i wr => ∃ k : Nat, k ≤ n ∧ i = .int .i64 k ∧ (∀ q ∈ xs.take k, rightR q) ∧ wr.ownsRow w.heap.size 5 1 v (rsB (xs.take k)).length (bv (rsB (xs.take k))) ∧ Below w.heap.size w wr) (fun _ i _ => n - (intOf i).toNat)
  case atStart => exact ⟨0, Nat.zero_le _, rfl, (fun q h => by simp at h), World.ownsRow_nil _ _ _ _, Below.refl _ _⟩
  case round =>
    obtain ⟨k, hk, rfl, hr, ho, hbe⟩ := hrel
    have hle := rsB_le (xs := xs.take k) hr (fun r h => HK.out r (List.mem_of_mem_take h))
    have hle2 : (rsB (xs.take k)).length ≤ 1265 * n := Nat.le_trans hle (Nat.mul_le_mul_left _ (by rw [List.length_take]; omega))
    by_cases hlt : k < n
    · obtain ⟨x, hx⟩ : ∃ x, xs[k]? = some x := ⟨xs[k]'(by omega), List.getElem?_eq_getElem _⟩
      have hxm := List.mem_of_getElem? hx
      have hsx := HN.out x hxm
      obtain ⟨b, off, B, m, d, hA, hr_, hd, _, _⟩ := (HS.out.later hbe (Nat.le_refl _)).here k x hx
      subst hA
      have HXK := Lib.hid (HK.out x hxm)
      have HD := Lib.hid hd
      clear hd
      have HSX := Lib.hid hsx
      have HX := Lib.hid hx
      have HR := Lib.hid hr
      have hx1 : xs.take (k + 1) = xs.take k ++ [x] := by rw [List.take_add_one, hx]; rfl
      have HX1 := Lib.hid hx1
      obtain ⟨pre, hpre⟩ : ∃ pre, rsB (xs.take k) = pre := ⟨_, rfl⟩
      rw [hpre] at ho hle2
      have HPRE := Lib.hid hpre
      have HO := Lib.hid (And.intro ho hbe)
      have HCR := Lib.hid hr_
      clear ho hbe hx hr hsx hle hx1 hpre
      have HXM := Lib.hid hxm
      clear hxm hr_
      go_wp2_with (first
        | (refine wpList_load_rc rfl (.tmp 8) rfl rfl H4.out.1 ?_)
        | (refine wpList_store_rc rfl (.tmp 8) (.tmp 16) rfl x B m d rfl rfl HXK.out H3.out.1 ?_; intro w4 a4 o4 z4 g4; have b4 := g4 _ _ (Nat.le_refl _) H3.out.2; have H4 := Lib.hid (And.intro a4 (And.intro (And.intro (own_kept HO.out.1 b4) (HO.out.2.trans (b4.mono HO.out.2.size))) (HD.out.later b4 (Nat.le_refl _)))); clear a4 o4 z4 g4 b4)
        | (refine wpList_alloc_rc rfl rfl ?_; intro w3 a3 b3 z3; have H3 := Lib.hid (And.intro a3 b3); clear a3 b3 z3)
        | (refine wpList_load_mid rfl 57 (.tmp 15) rfl b (off + k * 23) rfl (rcv x B m d).toList _ HCR.out Tryz.underlying57 rfl (by simpa using rc_size HXK.out B m d) ?_; rw [Array.toArray_toList]))
      have kw := writeR_any HXK.out H4.out.2.2 HSX.out.1.1 HSX.out.1.2 HSX.out.2.1 HSX.out.2.2 (Env.later HE.out H4.out.2.1.2 (Nat.le_refl _))
      by_cases hrx : rightR x
      · rw [show writeRv x = writeRB x from if_pos hrx, show writeRe x = fl0 from if_pos hrx] at kw
        have hlx := writeRB_le hrx HXK.out
        have HRX := Lib.hid hrx
        clear hrx
        refine kw.mono ?_
        rintro e w5 ⟨A5, c5, v5, rfl, B5, t5, b5⟩
        obtain rfl := t5.none' rfl
        have H5 := Lib.hid (And.intro (own_kept H4.out.2.1.1 b5) (And.intro B5 (H4.out.2.1.2.trans (b5.mono H4.out.2.1.2.size))))
        clear t5 b5 B5 kw
        obtain ⟨m5, hm5⟩ : ∃ m5, (writeRB x).length = m5 := ⟨_, rfl⟩
        rw [hm5] at H5 hlx ⊢
        have HM5 := Lib.hid hm5
        clear hm5
        go_wp2_with (at_builtin; refine wpList_append_bs rfl (.tmp 26) (.tmp 27) 22 rfl w.heap.size 5 info5 Tryz.underlying22 _ _ pre rfl H5.out.1 A5 m5 c5 (writeRB x) rfl H5.out.2.1 (by omega) H5.out.2.2.size ?_; intro v6 w6 o6 g6 n6 m6; have H6 := Lib.hid (And.intro o6 (H5.out.2.2.grown g6 H5.out.2.2.size (fun z hz => (World.ownsRow.lt H5.out.1 z hz).1))); clear o6 g6 n6 m6)
        go_roundw
        case rel =>
          refine ⟨k + 1, hlt, by go_num, ?_, ?_, H6.out.2⟩
          · rw [HX1.out]
            intro q hq
            rcases List.mem_append.1 hq with h | h
            · exact HR.out q h
            · rw [List.mem_singleton.1 h]; exact HRX.out
          · rw [HX1.out, rsB_snoc, HPRE.out, List.length_append, HM5.out]
            exact H6.out.1
        case measure => simp [intOf]; omega
      · rw [show writeRv x = [] from if_neg hrx, show writeRe x = ⟨1, 0, false⟩ from if_neg hrx] at kw
        refine kw.mono ?_
        rintro e w5 ⟨A5, c5, v5, rfl, B5, t5, b5⟩
        obtain ⟨T5, x5, rfl⟩ := t5.held' (by decide)
        have H5 := Lib.hid (H4.out.2.1.2.trans (b5.mono H4.out.2.1.2.size))
        have HRX := Lib.hid hrx
        clear t5 b5 B5 kw hrx
        go_wp2_with fail
        go_ret2
        exact ⟨fun h => absurd (h x HXM.out) HRX.out, fun _ => rfl, H5.out⟩
    · obtain rfl : k = n := by omega
      rw [List.take_of_length_le (by omega)] at hr ho
      obtain ⟨A3, c3, rfl, B3⟩ := Bs.of_own ho
      have H3 := Lib.hid (And.intro B3 (And.intro hbe hr))
      clear B3 hbe hr ho hle hle2
      go_wp2_with fail
      go_ret2
      exact ⟨fun _ => ⟨A3, _, c3, rfl, H3.out.1⟩, fun h => absurd H3.out.2.2 h, H3.out.2.1⟩
  -->>
end Go.Proofs.YtbikifaadpijnaaGreatDoor
