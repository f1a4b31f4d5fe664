/-
  
-/
import Derived.Test.YtoagfmonfgagbaaGreatDoorZ17
import Derived.Test.YtoagfmonfgagbaaGreatDoorZ25
namespace Go.Proofs.YtoagfmonfgagbaaGreatDoor
open Go.RowKit
set_option maxRecDepth 100000
def a9v (x : Bool × List UInt8) : Array Value := adv x.1 x.2
def A9ok (x : Bool × List UInt8) : Prop := x.2.length = 16
theorem a9v_size {x : Bool × List UInt8} (h : A9ok x) : (a9v x).size = 17 := adv_size x.1 h
theorem a9v_one {x : Bool × List UInt8} (_ : A9ok x) : (a9v x).all (·.oneCell') = true := adv_one x.1 x.2
theorem owns_block {w w' : World} {base : Nat} {e : TypeId} {size : Nat} {v : Value} {n : Nat} {xs : List Value} (h : w.ownsRow base e size v n xs) (hk : ∀ b, v.ownBlock = some b → w'.heap[b]? = w.heap[b]?) : w'.ownsRow base e size v n xs := by
  refine ⟨h.1, ?_⟩
  rcases h.2 with h2 | ⟨g, cap, cur, rfl, h3, h4, h5⟩
  · exact .inl h2
  · exact .inr ⟨g, cap, cur, rfl, h3, (hk g rfl).trans h4, h5⟩
theorem wp_append_at {P : Program} {o : Oper} {a : Act} (w : World) {K : Act → World → Prop} {Q : Exit → Act → World → Prop} (s x : Operand) (t : TypeId)
    (ho : o.op = .call { callee := .builtin .append, args := #[s, x], argTypes := #[t, t] })
    (base : Nat) (e : TypeId) (i : TypeInfo) (z : Value) (size bytes : Nat) (ht : P.underlying t = some (.slice e)) (hi : P.info? e = some i) (hz : i.zero = some z)
    (hsize : i.size = size) (hby : i.bytes = bytes) (hzs : z.cells.size = size) (hsz : 0 < size)
    (v : Value) (n : Nat) (xs : List Value) (hs : a.eval s = v) (hown : w.ownsRow base e size v n xs)
    (ad : Addr) (m c : Nat) (news : List Value) (hx : a.eval x = .slice (some ad) m c) (hl : news.length = m * size) (hnews : ∀ j u, news[j]? = some u → w.cell? (ad.add j) = some u) (h1 : ∀ u ∈ news, u.oneCell' = true)
    (h63 : n + m ≤ maxLen) (hbytes : (n + m) * bytes ≤ 140737488355328) (hbase : base ≤ w.heap.size)
    (h : ∀ v' w', w'.ownsRow base e size v' (n + m) (xs ++ news) → w.grownBy w' v.ownBlock → (v' = .slice none 0 0 ↔ v = .slice none 0 0 ∧ m = 0) → (v'.ownBlock = v.ownBlock ∨ v'.ownBlock = some w.heap.size) → K (a.put o.dst v') w') :
    o.wp P a w K Q := by
  obtain ⟨v', w', hr, h2, h3, h4, h5⟩ := run_append_own_at (P := P) w base t o.type e i z size bytes ht hi hz hsize hby hzs hsz v n xs hown ad m c news hl hnews h1 h63 hbytes hbase
  unfold Oper.wp execOp
  simp only [ho, resolve, invoke, builtin, Sem.run_bind, Sem.run_pure, Result.andThen_ok, List.map_toArray, List.map_cons, List.map_nil, hs, hx, hr]
  exact h v' w' h2 h3 h4 h5
def a9L (xs : List (Bool × List UInt8)) : List Value := xs.map fun t => .agg (a9v t)
def a9C (xs : List (Bool × List UInt8)) : List Value := (a9L xs).flatMap fun v => v.cells.toList
theorem a9C_snoc (xs : List (Bool × List UInt8)) (t : (Bool × List UInt8)) : a9C (xs ++ [t]) = a9C xs ++ (a9v t).toList := by simp [a9C, a9L, Value.cells]
theorem a9C_len {xs : List (Bool × List UInt8)} (h : ∀ r ∈ xs, A9ok r) : (a9C xs).length = xs.length * 17 := by
  induction xs with
  | nil => rfl
  | cons a t ih =>
    have e : a9C (a :: t) = (a9v a).toList ++ a9C t := by simp [a9C, a9L, Value.cells]
    rw [e, List.length_append, ih (fun r hr => h r (List.mem_cons_of_mem _ hr)), Array.length_toList, a9v_size (h a (List.mem_cons_self ..)), List.length_cons]
    omega
theorem a9C_get {xs : List (Bool × List UInt8)} (h : ∀ r ∈ xs, A9ok r) {i j : Nat} {r : (Bool × List UInt8)} (hr : xs[i]? = some r) {u : Value} (hj : (a9v r).toList[j]? = some u) : (a9C xs)[i * 17 + j]? = some u := by
  have hj3 : j < 17 := by
    have := (List.getElem?_eq_some_iff.1 hj).1
    rw [Array.length_toList, a9v_size (h r (List.mem_of_getElem? hr))] at this
    exact this
  unfold a9C
  rw [Great.flat_get (s := 17) (by decide) (a9L xs) (fun v hv => by
    unfold a9L at hv
    obtain ⟨q', hq, rfl⟩ := List.mem_map.1 hv
    exact a9v_size (h q' hq)) (i * 17 + j), show (i * 17 + j) / 17 = i by omega, show (i * 17 + j) % 17 = j by omega]
  unfold a9L
  rw [List.getElem?_map, hr]
  simpa [Value.cells] using hj
structure A9S (w : World) (A : Option Addr) (n c : Nat) (xs : List (Bool × List UInt8)) : Prop where
  len : xs.length = n
  cap : n ≤ c
  max : c ≤ maxLen
  none_ : A = none → c = 0
  ok : ∀ r ∈ xs, A9ok r
  here : ∀ (i : Nat) t, xs[i]? = some t → ∃ b off, A = some ⟨b, off, none⟩ ∧ w.rangeAt b (off + i * 17) (a9v t).toList
theorem A9S.later {B : Nat} {w w' : World} {A : Option Addr} {n c : Nat} {xs : List (Bool × List UInt8)} (h : A9S w A n c xs) (hb : Below B w w') (hB : w.heap.size ≤ B) : A9S w' A n c xs :=
  ⟨h.len, h.cap, h.max, h.none_, h.ok, fun i r hr => by
    obtain ⟨b, off, hA, hr2⟩ := h.here i r hr
    exact ⟨b, off, hA, range_kept hr2 hb hB⟩⟩
theorem A9S.kept {w w' : World} {A : Option Addr} {n c : Nat} {xs : List (Bool × List UInt8)} (h : A9S w A n c xs) (hk : ∀ b o, A = some ⟨b, o, none⟩ → w'.heap[b]? = w.heap[b]?) : A9S w' A n c xs :=
  ⟨h.len, h.cap, h.max, h.none_, h.ok, fun i r hr => by
    obtain ⟨b, off, hA, hr2⟩ := h.here i r hr
    exact ⟨b, off, hA, fun j v hj => (World.cell?_of_block (w := w) (hk b off hA)).trans (hr2 j v hj)⟩⟩
theorem A9S.nil (w : World) : A9S w none 0 0 [] := ⟨rfl, Nat.le_refl _, Nat.zero_le _, fun _ => rfl, (fun r h => by cases h), fun i q h => by cases h⟩
def A9O (w : World) (base : Nat) (v : Value) (xs : List (Bool × List UInt8)) : Prop := w.ownsRow base 51 17 v xs.length (a9C xs) ∧ ∀ r ∈ xs, A9ok r
theorem A9O.nil (w : World) (base : Nat) : A9O w base (.slice none 0 0) [] := ⟨World.ownsRow_nil _ _ _ _, fun r h => by cases h⟩
theorem A9O.later {w w' : World} {base : Nat} {v : Value} {xs : List (Bool × List UInt8)} (h : A9O w base v xs) (hb : Below w.heap.size w w') : A9O w' base v xs := ⟨own_kept h.1 hb, h.2⟩
theorem A9O.lt {w : World} {base : Nat} {v : Value} {xs : List (Bool × List UInt8)} (h : A9O w base v xs) {b : Nat} (hb : v.ownBlock = some b) : base ≤ b ∧ b < w.heap.size := World.ownsRow.lt h.1 b hb
theorem A9O.kept {w w' : World} {base : Nat} {v : Value} {xs : List (Bool × List UInt8)} (h : A9O w base v xs) (hk : ∀ b, v.ownBlock = some b → w'.heap[b]? = w.heap[b]?) : A9O w' base v xs := ⟨owns_block h.1 hk, h.2⟩
theorem A9S.of_own {w : World} {base : Nat} {v : Value} {xs : List (Bool × List UInt8)} (h : A9O w base v xs) : ∃ A c, v = .slice A xs.length c ∧ A9S w A xs.length c xs ∧ (A = none ∨ ∃ b, A = some ⟨b, 0, none⟩) := by
  obtain ⟨h, hk⟩ := h
  rcases h.2 with ⟨rfl, h0⟩ | ⟨g, cap, cur, rfl, hlo, _, hc, hm, _, _⟩
  · obtain rfl := List.eq_nil_of_length_eq_zero h0
    exact ⟨none, 0, rfl, A9S.nil w, .inl rfl⟩
  · refine ⟨_, _, rfl, ⟨rfl, hc, hm, (fun h => by cases h), hk, fun i q hq => ⟨g, 0, rfl, fun j u hj => ?_⟩⟩, .inr ⟨g, rfl⟩⟩
    have hk2 := h.cells (g := g) rfl (i * 17 + j) u (a9C_get hk hq hj)
    rw [add_plain, Nat.zero_add] at hk2
    rw [Nat.zero_add]
    exact hk2
theorem infoA9 : (Tryz.prog.info? 51).map (fun i => (i.zero, i.size, i.bytes)) = some (some (.agg (a9v (false, List.replicate 16 0))), 17, 17) := by kernel_rfl
section
variable {ops : Array Oper} {rest : List Oper} {o : Oper} {a : Act} {w : World} {Q : Exit → Act → World → Prop}
theorem wp_push_a9 {K : Act → World → Prop} (s x : Operand)
    (ho : o.op = .call { callee := .builtin .append, args := #[s, x], argTypes := #[22, 22] }) (base : Nat) (v : Value) (xs : List (Bool × List UInt8)) (hs : a.eval s = v) (hown : A9O w base v xs)
    {g : Nat} {t : (Bool × List UInt8)} (hx : a.eval x = .slice (some ⟨g, 0, none⟩) 1 1) (hq : w.rangeAt g 0 (a9v t).toList) (hk : A9ok t) (hm : xs.length ≤ 1000000) (hbase : base ≤ w.heap.size)
    (h : ∀ v' w', A9O w' base v' (xs ++ [t]) → w.grownBy w' v.ownBlock → (v'.ownBlock = v.ownBlock ∨ v'.ownBlock = some w.heap.size) → K (a.put o.dst v') w') : o.wp Tryz.prog a w K Q := by
  obtain ⟨i, h1, h2, h3, h4⟩ := info_of18 infoA9
  refine wp_append_at w s x 22 ho base 51 i _ 17 17 Tryz.underlying22 h1 h2 h3 h4 (by kernel_rfl) (by decide) v xs.length _ hs hown.1 ⟨g, 0, none⟩ 1 1 (a9v t).toList hx (by rw [Array.length_toList, a9v_size hk]) (fun j u hj => by
    have := hq j u hj
    rw [add_plain]
    exact this) (fun u hu => by
    have := (Array.all_eq_true'.1 (a9v_one hk)) u (by simpa using hu)
    exact this) (by unfold maxLen; omega) (by omega) hbase ?_
  intro v' w' o' g' _ hat
  refine h v' w' ⟨?_, fun r hr => ?_⟩ g' hat
  · rw [a9C_snoc, List.length_append]
    exact o'
  · rcases List.mem_append.1 hr with hr | hr
    · exact hown.2 r hr
    · obtain rfl := List.mem_singleton.1 hr; exact hk
theorem wp_lit_a9 {K : Act → World → Prop} (x : Operand) (ho : o.op = .buildSlice 22 1 #[(0, x)])
    (t : (Bool × List UInt8)) (hk : A9ok t) (hx : a.eval x = .agg (a9v t))
    (h : K (a.put o.dst (.slice (some ⟨w.heap.size, 0, none⟩) 1 1)) (w.alloc (.cells (a9v t) 51))) : o.wp Tryz.prog a w K Q := by
  obtain ⟨i, h1, h2, h3, _⟩ := info_of18 infoA9
  refine wp_buildSlice 22 51 1 _ ho (a9v t) i _ Tryz.underlying22 h1 h2 (by rw [h3]; omega) (by rw [h3]; omega) ?_ h
  have hf := Great.fill_whole (s := 17) (by decide) [Value.agg (a9v t)] ((Array.range (1 * i.size)).map ((Value.agg (a9v (false, List.replicate 16 0))).cells[· % (Value.agg (a9v (false, List.replicate 16 0))).cells.size]!)) (fun v hv => by
    obtain rfl := List.mem_singleton.1 hv
    exact a9v_size hk) (by simp [h3])
  rw [h3] at hf ⊢
  simp only [List.zipIdx, List.map_cons, List.map_nil, List.flatMap_cons, List.flatMap_nil, List.append_nil] at hf
  simp only [List.map_toArray, List.map_cons, List.map_nil, hx]
  rw [hf]
  simp [Value.cells]
end
end Go.Proofs.YtoagfmonfgagbaaGreatDoor
