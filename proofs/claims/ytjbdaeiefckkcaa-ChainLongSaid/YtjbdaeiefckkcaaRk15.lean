/-
  A record as package chain reads it (its data told by one cell alone), in a box and in rows; what is found, in a box and in rows; '==' of addresses and of what is found. No conditions.
-/
import Derived.Test.YtjbdaeiefckkcaaAdrL
import Derived.Test.YtjbdaeiefckkcaaGs
import Derived.Test.YtjbdaeiefckkcaaMid
import Derived.Test.YtjbdaeiefckkcaaInfoS
import Derived.Laws.StructEq
import Derived.Stop.BytesEq
import Derived.Maps.AppendAt
import Derived.Great.BuildSlice
import Derived.Laws.AppendOwnNone
namespace Go.Proofs.Ytjbdaeiefckkcaa
open Go.RowKit
set_option maxRecDepth 100000

theorem ex16k {bs : List UInt8} (h : bs.length = 16) : ∃ a0 a1 a2 a3 a4 a5 a6 a7 a8 a9 a10 a11 a12 a13 a14 a15, bs = [a0, a1, a2, a3, a4, a5, a6, a7, a8, a9, a10, a11, a12, a13, a14, a15] := by
  match bs, h with
  | [a0, a1, a2, a3, a4, a5, a6, a7, a8, a9, a10, a11, a12, a13, a14, a15], _ => exact ⟨_, _, _, _, _, _, _, _, _, _, _, _, _, _, _, _, rfl⟩
/-- A record. -/
structure Rk where
  name : ByteArray
  kind : Int
  cls : Int
  ttl : Int
  v6 : Bool
  adr : List UInt8
  target : ByteArray
  dat : Value
def Rk.ok (r : Rk) : Prop := r.adr.length = 16 ∧ r.dat.oneCell' = true
/-- Its cells. -/
def rkv (r : Rk) : Array Value := (#[.string r.name, .int .i64 r.kind, .int .i64 r.cls, .int .u32 r.ttl] : Array Value).append ((adv r.v6 r.adr).append #[.string r.target, r.dat])
theorem rkv_list (r : Rk) : (rkv r).toList = [.string r.name, .int .i64 r.kind, .int .i64 r.cls, .int .u32 r.ttl] ++ ((.bool r.v6 :: bv r.adr) ++ [.string r.target, r.dat]) := by
  simp [rkv, adv]
theorem rkv_size {r : Rk} (hk : r.ok) : (rkv r).size = 23 := by
  have h := hk.1
  rw [← Array.length_toList, rkv_list]
  simp [bv_length, h]
theorem rkv_one {r : Rk} (hk : r.ok) : (rkv r).all (·.oneCell') = true :=
  Array.all_eq_true_iff_forall_mem.2 fun v hv => by
    rw [← Array.mem_toList_iff, rkv_list] at hv
    rcases List.mem_append.1 hv with hv | hv
    · simp only [List.mem_cons, List.not_mem_nil, or_false] at hv
      rcases hv with rfl | rfl | rfl | rfl <;> rfl
    · rcases List.mem_append.1 hv with hv | hv
      · rcases List.mem_cons.1 hv with rfl | hv
        · rfl
        · exact bv_one _ v hv
      · simp only [List.mem_cons, List.not_mem_nil, or_false] at hv
        rcases hv with rfl | rfl
        · rfl
        · exact hk.2
theorem rk_size {r : Rk} (hk : r.ok) : (Try.prog.info? 32).map (·.size) = some (rkv r).size := by rw [rkv_size hk]; kernel_rfl
/-- Its cells, at a place. -/
theorem rk_at {w : World} {b o : Nat} {r : Rk} (hk : r.ok) (h : w.rangeAt b o (rkv r).toList) : w.cell? ⟨b, o, none⟩ = some (.string r.name) ∧ w.cell? ⟨b, o + 1, none⟩ = some (.int .i64 r.kind) ∧ w.cell? ⟨b, o + 2, none⟩ = some (.int .i64 r.cls) ∧ w.cell? ⟨b, o + 3, none⟩ = some (.int .u32 r.ttl) ∧ w.cell? ⟨b, o + 21, none⟩ = some (.string r.target) ∧ w.rangeAt b (o + 4) (adv r.v6 r.adr).toList := by
  obtain ⟨_, _, _, _, _, _, _, _, _, _, _, _, _, _, _, _, e1⟩ := ex16k hk.1
  refine ⟨h 0 _ (by rw [rkv_list]; rfl), h 1 _ (by rw [rkv_list]; rfl), h 2 _ (by rw [rkv_list]; rfl), h 3 _ (by rw [rkv_list]; rfl), h 21 _ (by rw [rkv_list, e1]; rfl), fun j v hj => ?_⟩
  have h1 := h (4 + j) v (by
    rw [rkv_list, List.getElem?_append_right (by simp)]
    simp only [List.length_cons, List.length_nil, Nat.add_sub_cancel_left]
    rw [List.getElem?_append_left]
    · simpa [adv] using hj
    · have := (List.getElem?_eq_some_iff.1 hj).1
      simpa [adv] using this)
  rw [show o + (4 + j) = o + 4 + j by omega] at h1
  exact h1
/-- A block that holds them. -/
def RkBox (w : World) (g : Nat) (r : Rk) : Prop := w.heap[g]? = some (.cells (rkv r) 32 (0, 0)) ∧ r.ok
section
variable {w w' : World} {g : Nat} {r : Rk}
theorem RkBox.lt (H : RkBox w g r) : g < w.heap.size := (Array.getElem?_eq_some_iff.1 H.1).1
theorem RkBox.later {B : Nat} (H : RkBox w g r) (hb : Below B w w') (hB : w.heap.size ≤ B) : RkBox w' g r := ⟨(hb.block g (by have := H.lt; omega)).trans H.1, H.2⟩
theorem RkBox.same (H : RkBox w g r) (hh : w'.heap[g]? = w.heap[g]?) : RkBox w' g r := ⟨hh.trans H.1, H.2⟩
theorem RkBox.new (w : World) (hk : r.ok) : RkBox (w.alloc (.cells (rkv r) 32)) w.heap.size r := ⟨heap_alloc_last w _, hk⟩
theorem RkBox.range (H : RkBox w g r) : w.rangeAt g 0 (rkv r).toList := fun j v hj => by
  rw [cell_of_row w g (0 + j) _ _ _ H.1, Nat.zero_add, ← Array.getElem?_toList]; exact hj
theorem RkBox.name (H : RkBox w g r) : w.cell? ⟨g, 0, none⟩ = some (.string r.name) := (rk_at H.2 H.range).1
theorem RkBox.kind (H : RkBox w g r) : w.cell? ⟨g, 1, none⟩ = some (.int .i64 r.kind) := by have h := (rk_at H.2 H.range).2.1; rwa [Nat.zero_add] at h
theorem RkBox.cls (H : RkBox w g r) : w.cell? ⟨g, 2, none⟩ = some (.int .i64 r.cls) := by have h := (rk_at H.2 H.range).2.2.1; rwa [Nat.zero_add] at h
theorem RkBox.ttl (H : RkBox w g r) : w.cell? ⟨g, 3, none⟩ = some (.int .u32 r.ttl) := by have h := (rk_at H.2 H.range).2.2.2.1; rwa [Nat.zero_add] at h
theorem RkBox.target (H : RkBox w g r) : w.cell? ⟨g, 21, none⟩ = some (.string r.target) := by have h := (rk_at H.2 H.range).2.2.2.2.1; rwa [Nat.zero_add] at h
theorem RkBox.adrR (H : RkBox w g r) : w.rangeAt g 4 (adv r.v6 r.adr).toList := by have h := (rk_at H.2 H.range).2.2.2.2.2; rwa [Nat.zero_add] at h
theorem RkBox.frozen (H : RkBox w g r) (j : Nat) : w.frozen? ⟨g, j, none⟩ = false := by simp [World.frozen?, H.1]
end
section
variable {ops : Array Oper} {rest : List Oper} {o : Oper} {a : Act} {w : World} {Q : Exit → Act → World → Prop}
theorem rk_zero_eq : rkv ⟨⟨#[]⟩, 0, 0, 0, false, List.replicate 16 0, ⟨#[]⟩, .slice none 0 0⟩ = (#[.string ⟨#[]⟩, .int .i64 0, .int .i64 0, .int .u32 0, .bool false, .int .u8 0, .int .u8 0, .int .u8 0, .int .u8 0, .int .u8 0, .int .u8 0, .int .u8 0, .int .u8 0, .int .u8 0, .int .u8 0, .int .u8 0, .int .u8 0, .int .u8 0, .int .u8 0, .int .u8 0, .int .u8 0, .string ⟨#[]⟩, .slice none 0 0] : Array Value) := by kernel_rfl
def rk0 : Rk := ⟨⟨#[]⟩, 0, 0, 0, false, List.replicate 16 0, ⟨#[]⟩, .slice none 0 0⟩
theorem rk0_ok : rk0.ok := ⟨rfl, rfl⟩
theorem wp_alloc_rk {K : Act → World → Prop} (ho : o.op = .alloc 32)
    (h : ∀ w', RkBox w' w.heap.size rk0 → Below w.heap.size w w' → w'.heap.size = w.heap.size + 1 → K (a.put o.dst (.pointer (some ⟨w.heap.size, 0, none⟩))) w') : o.wp Try.prog a w K Q := by
  have h1 := h (w.alloc (.cells (rkv rk0) 32)) (RkBox.new w rk0_ok) ((Below.refl _ w).alloc (Nat.le_refl _) _) (by simp)
  unfold rk0 at h1
  rw [rk_zero_eq] at h1
  obtain ⟨dst, op, ty, pos, after, guard⟩ := o
  simp only at ho
  subst ho
  go_simp
  exact h1
theorem wpList_alloc_rk (hgd : o.guard = none) (ho : o.op = .alloc 32)
    (h : ∀ w', RkBox w' w.heap.size rk0 → Below w.heap.size w w' → w'.heap.size = w.heap.size + 1 → wpList Try.prog ops Q rest (a.put o.dst (.pointer (some ⟨w.heap.size, 0, none⟩))) w') : wpList Try.prog ops Q (o :: rest) a w :=
  wpList_plain hgd fun _ hK => wp_alloc_rk ho fun w' h1 h2 h3 => hK _ _ (h w' h1 h2 h3)
theorem wp_store_rk {K : Act → World → Prop} (x y : Operand) (ho : o.op = .store 32 x y) {g : Nat} (r : Rk) {r0 : Rk}
    (hx : a.eval x = .pointer (some ⟨g, 0, none⟩)) (hy : a.eval y = .agg (rkv r)) (hk : r.ok) (hA : RkBox w g r0)
    (h : ∀ w', RkBox w' g r → (∀ k, k ≠ g → w'.heap[k]? = w.heap[k]?) → w'.heap.size = w.heap.size → (∀ B w0, B ≤ g → Below B w0 w → Below B w0 w') → K (a.put o.dst undef) w') : o.wp Try.prog a w K Q :=
  wp_store_row 32 x y ho g (rkv r) hx hy 32 _ hA.1 (rk_size hk) (by rw [rkv_size hA.2, rkv_size hk]) (rkv_one hk)
    (h _ ⟨setRow_heap w g _ _ _ _ hA.1, hk⟩ (fun k hk => setRow_other w g k _ hk) (size_setRow w g _) (fun B w0 hB hb => below_setRow hb hB _))
theorem wpList_store_rk (hgd : o.guard = none) (x y : Operand) (ho : o.op = .store 32 x y) {g : Nat} (r : Rk) {r0 : Rk}
    (hx : a.eval x = .pointer (some ⟨g, 0, none⟩)) (hy : a.eval y = .agg (rkv r)) (hk : r.ok) (hA : RkBox w g r0)
    (h : ∀ w', RkBox w' g r → (∀ k, k ≠ g → w'.heap[k]? = w.heap[k]?) → w'.heap.size = w.heap.size → (∀ B w0, B ≤ g → Below B w0 w → Below B w0 w') → wpList Try.prog ops Q rest (a.put o.dst undef) w') : wpList Try.prog ops Q (o :: rest) a w :=
  wpList_plain hgd fun _ hK => wp_store_rk x y ho r hx hy hk hA fun w' h1 h2 h3 h4 => hK _ _ (h w' h1 h2 h3 h4)
theorem wp_load_rk {K : Act → World → Prop} (x : Operand) (ho : o.op = .load 32 x) {b f : Nat} {r : Rk} (hx : a.eval x = .pointer (some ⟨b, f, none⟩)) (hk : r.ok) (hA : w.rangeAt b f (rkv r).toList)
    (h : K (a.put o.dst (.agg (rkv r))) w) : o.wp Try.prog a w K Q :=
  wp_load_mid (P := Try.prog) 32 x ho b f hx (rkv r).toList _ hA Try.underlying32 rfl (by simpa using rk_size hk) (by simpa using h)
theorem wpList_load_rk (hgd : o.guard = none) (x : Operand) (ho : o.op = .load 32 x) {b f : Nat} {r : Rk} (hx : a.eval x = .pointer (some ⟨b, f, none⟩)) (hk : r.ok) (hA : w.rangeAt b f (rkv r).toList)
    (h : wpList Try.prog ops Q rest (a.put o.dst (.agg (rkv r))) w) : wpList Try.prog ops Q (o :: rest) a w :=
  wpList_plain hgd fun _ hK => wp_load_rk x ho hx hk hA (hK _ _ h)
theorem wp_load_adr {K : Act → World → Prop} (x : Operand) (ho : o.op = .load 29 x) {b f : Nat} {v : Bool} {l : List UInt8} (hx : a.eval x = .pointer (some ⟨b, f, none⟩)) (hl : l.length = 16) (hA : w.rangeAt b f (adv v l).toList)
    (h : K (a.put o.dst (.agg (adv v l))) w) : o.wp Try.prog a w K Q :=
  wp_load_mid (P := Try.prog) 29 x ho b f hx (adv v l).toList _ hA Try.underlying29 rfl (by simpa using ad_size v hl) (by simpa using h)
theorem wpList_load_adr (hgd : o.guard = none) (x : Operand) (ho : o.op = .load 29 x) {b f : Nat} {v : Bool} {l : List UInt8} (hx : a.eval x = .pointer (some ⟨b, f, none⟩)) (hl : l.length = 16) (hA : w.rangeAt b f (adv v l).toList)
    (h : wpList Try.prog ops Q rest (a.put o.dst (.agg (adv v l))) w) : wpList Try.prog ops Q (o :: rest) a w :=
  wpList_plain hgd fun _ hK => wp_load_adr x ho hx hl hA (hK _ _ h)
/-- What a guard wants. -/
theorem wpList_wantd {P : Program} {ops : Array Oper} {rest : List Oper} {o : Oper} {a : Act} {w : World} {Q : Exit → Act → World → Prop} (hw : Region.wanted o (yielded ops a.tmps) = true) (h : o.wp P a w (wpList P ops Q rest) Q) : wpList P ops Q (o :: rest) a w := by
  unfold wpList
  rw [if_pos hw]
  exact .inl h
end
theorem rangeAt_kept {B : Nat} {w w' : World} {b o : Nat} {cs : List Value} (h : w.rangeAt b o cs) (hb : Below B w w') (hB : w.heap.size ≤ B) : w'.rangeAt b o cs := fun j v hj => by
  have h1 := h j v hj
  have hlt : b < w.heap.size := lt_of_cell' h1
  rw [hb.cell (p := ⟨b, o + j, none⟩) (by show b < B; omega)]
  exact h1
/-- A slice of records, as it reads. -/
structure Rks (w : World) (A : Option Addr) (n c : Nat) (xs : List Rk) : Prop where
  len : xs.length = n
  cap : n ≤ c
  max : c ≤ maxLen
  none_ : A = none → c = 0
  ok : ∀ r ∈ xs, r.ok
  here : ∀ (i : Nat) r, xs[i]? = some r → ∃ b off, A = some ⟨b, off, none⟩ ∧ w.rangeAt b (off + i * 23) (rkv r).toList
theorem Rks.later {B : Nat} {w w' : World} {A : Option Addr} {n c : Nat} {xs : List Rk} (h : Rks w A n c xs) (hb : Below B w w') (hB : w.heap.size ≤ B) : Rks w' A n c xs :=
  ⟨h.len, h.cap, h.max, h.none_, h.ok, fun i r hr => by
    obtain ⟨b, off, hA, hr2⟩ := h.here i r hr
    exact ⟨b, off, hA, rangeAt_kept hr2 hb hB⟩⟩
theorem Rks.nil (w : World) : Rks w none 0 0 [] := ⟨rfl, Nat.le_refl _, Nat.zero_le _, fun _ => rfl, (fun r h => by cases h), fun i q h => by cases h⟩
def rkL (xs : List Rk) : List Value := xs.map fun r => .agg (rkv r)
def rkC (xs : List Rk) : List Value := (rkL xs).flatMap fun v => v.cells.toList
theorem rkC_snoc (xs : List Rk) (r : Rk) : rkC (xs ++ [r]) = rkC xs ++ (rkv r).toList := by simp [rkC, rkL, Value.cells]
theorem rkC_len {xs : List Rk} (h : ∀ r ∈ xs, r.ok) : (rkC xs).length = xs.length * 23 := by
  induction xs with
  | nil => rfl
  | cons a t ih =>
    have e : rkC (a :: t) = (rkv a).toList ++ rkC t := by simp [rkC, rkL, Value.cells]
    rw [e, List.length_append, ih (fun r hr => h r (List.mem_cons_of_mem _ hr)), Array.length_toList, rkv_size (h a (List.mem_cons_self ..)), List.length_cons]
    omega
theorem rkC_get {xs : List Rk} (h : ∀ r ∈ xs, r.ok) {i j : Nat} {r : Rk} (hr : xs[i]? = some r) {u : Value} (hj : (rkv r).toList[j]? = some u) : (rkC xs)[i * 23 + j]? = some u := by
  have hj3 : j < 23 := by
    have := (List.getElem?_eq_some_iff.1 hj).1
    rw [Array.length_toList, rkv_size (h r (List.mem_of_getElem? hr))] at this
    exact this
  unfold rkC
  rw [Great.flat_get (s := 23) (by decide) (rkL xs) (fun v hv => by
    unfold rkL at hv
    obtain ⟨q', hq, rfl⟩ := List.mem_map.1 hv
    exact rkv_size (h q' hq)) (i * 23 + j), show (i * 23 + j) / 23 = i by omega, show (i * 23 + j) % 23 = j by omega]
  unfold rkL
  rw [List.getElem?_map, hr]
  simpa [Value.cells] using hj
/-- A block that holds records, as a slice. -/
theorem Rks.of_block {w : World} {g : Nat} {T : TypeId} {cs : Array Value} {xs : List Rk} (h : w.heap[g]? = some (.cells cs T (0, 0))) (hcs : cs.toList = rkC xs) (hk : ∀ r ∈ xs, r.ok) (hm : xs.length ≤ maxLen) {n : Nat} (hn : xs.length = n) : Rks w (some ⟨g, 0, none⟩) n n xs :=
  ⟨hn, Nat.le_refl _, hn ▸ hm, (fun h => by cases h), hk, fun i r hr => ⟨g, 0, rfl, fun j u hj => by
    rw [Nat.zero_add, cell_of_row w g (i * 23 + j) _ _ _ h, ← Array.getElem?_toList, hcs]
    exact rkC_get hk hr hj⟩⟩
/-! ### '==' of addresses -/
theorem part_v6k (v : Bool) {a : List UInt8} (ha : a.length = 16) (w : World) : (part 4 (adv v a) 0).run Try.prog w = .ok (.bool v) w := by
  obtain ⟨_, _, _, _, _, _, _, _, _, _, _, _, _, _, _, _, rfl⟩ := ex16k ha
  kernel_rfl
theorem part_bk (v : Bool) {a : List UInt8} (ha : a.length = 16) (w : World) : (part 27 (adv v a) 1).run Try.prog w = .ok (.agg (bv a).toArray) w := by
  obtain ⟨_, _, _, _, _, _, _, _, _, _, _, _, _, _, _, _, rfl⟩ := ex16k ha
  kernel_rfl
theorem fields_adk : ∃ f g : Field, (Try.prog.fieldsOf 29).toList = [f, g] ∧ (f.name ≠ "_") ∧ (g.name ≠ "_") ∧ f.type = 4 ∧ f.offset = 0 ∧ g.type = 27 ∧ g.offset = 1 := by
  refine ⟨(Try.prog.fieldsOf 29).toList.head!, (Try.prog.fieldsOf 29).toList.tail.head!, by kernel_rfl, ?_, ?_, by kernel_rfl, by kernel_rfl, by kernel_rfl, by kernel_rfl⟩
  · exact of_decide_eq_true (by kernel_rfl)
  · exact of_decide_eq_true (by kernel_rfl)
theorem eqIn_adk (d : Nat) (v u : Bool) {a b : List UInt8} (ha : a.length = 16) (hb : b.length = 16) (w : World) : (Op.equalIn (d + 3) 29 (.agg (adv v a)) (.agg (adv u b))).run Try.prog w = .ok ((v == u) && (a == b)) w := by
  rw [run_equalIn_struct w (d + 2) 29 _ _ (by kernel_rfl) (by kernel_rfl)]
  obtain ⟨f, g, hf, h1, h2, h3, h4, h5, h6⟩ := fields_adk
  rw [hf]
  have e1 : (Op.equalIn (d + 2) 4 (.bool v) (.bool u)).run Try.prog w = .ok (v == u) w := by
    simp [Op.equalIn, run_underlying Try.underlying4]
  have e2 : (Op.equalIn (d + 2) 27 (.agg (bv a).toArray) (.agg (bv b).toArray)).run Try.prog w = .ok (a == b) w :=
    run_equalIn_bytes w d 27 5 16 Try.underlying27 Try.underlying5 (fun w => by kernel_rfl) a b ha hb
  simp only [Op.eqFields, if_pos h1, if_pos h2, h3, h4, h5, h6, Sem.run_bind, part_v6k v ha, part_v6k u hb, part_bk v ha, part_bk u hb, e1, e2, Result.andThen_ok, Sem.run_ite, Sem.run_pure]
  cases v <;> cases u <;> cases (a == b) <;> rfl
theorem eql_adk (v u : Bool) {a b : List UInt8} (ha : a.length = 16) (hb : b.length = 16) (w : World) : (binOp .eql 29 (.agg (adv v a)) (.agg (adv u b))).run Try.prog w = .ok (.bool ((v == u) && (a == b))) w := by
  rw [run_eql_struct]
  have h1 := eqIn_adk 9997 v u ha hb w
  rw [show (10000 : Nat) = 9997 + 3 from rfl] at *
  simp only [h1]
  rfl
/-! ### What is found -/
structure Fo where
  v6 : Bool
  adr : List UInt8
  ttl : Int
  deriving DecidableEq
def Fo.ok (f : Fo) : Prop := f.adr.length = 16
def fov (f : Fo) : Array Value := (adv f.v6 f.adr).push (.int .u32 f.ttl)
theorem fov_list (f : Fo) : (fov f).toList = .bool f.v6 :: (bv f.adr ++ [.int .u32 f.ttl]) := by simp [fov, adv]
theorem fov_size {f : Fo} (h : f.ok) : (fov f).size = 18 := by
  unfold Fo.ok at h
  rw [← Array.length_toList, fov_list]; simp [bv_length, h]
theorem fov_one (f : Fo) : (fov f).all (·.oneCell') = true :=
  Array.all_eq_true_iff_forall_mem.2 fun v hv => by
    rw [← Array.mem_toList_iff, fov_list] at hv
    rcases List.mem_cons.1 hv with rfl | hv
    · rfl
    rcases List.mem_append.1 hv with hv | hv
    · exact bv_one _ v hv
    · obtain rfl := List.mem_singleton.1 hv
      rfl
theorem fo_size {f : Fo} (h : f.ok) : (Try.prog.info? 44).map (·.size) = some (fov f).size := by rw [fov_size h]; kernel_rfl
theorem fo_at {w : World} {b o : Nat} {f : Fo} (hk : f.ok) (h : w.rangeAt b o (fov f).toList) : w.rangeAt b o (adv f.v6 f.adr).toList ∧ w.cell? ⟨b, o + 17, none⟩ = some (.int .u32 f.ttl) := by
  refine ⟨fun j v hj => h j v ?_, h 17 _ ?_⟩
  · have hlt := (List.getElem?_eq_some_iff.1 hj).1
    rw [show (fov f).toList = (adv f.v6 f.adr).toList ++ [.int .u32 f.ttl] by simp [fov], List.getElem?_append_left hlt]
    exact hj
  · obtain ⟨_, _, _, _, _, _, _, _, _, _, _, _, _, _, _, _, e1⟩ := ex16k hk
    rw [fov_list, e1]; rfl
def FoBox (w : World) (g : Nat) (f : Fo) : Prop := w.heap[g]? = some (.cells (fov f) 44 (0, 0)) ∧ f.ok
theorem FoBox.lt {w : World} {g : Nat} {f : Fo} (H : FoBox w g f) : g < w.heap.size := (Array.getElem?_eq_some_iff.1 H.1).1
theorem FoBox.later {w w' : World} {g : Nat} {f : Fo} {B : Nat} (H : FoBox w g f) (hb : Below B w w') (hB : w.heap.size ≤ B) : FoBox w' g f := ⟨(hb.block g (by have := H.lt; omega)).trans H.1, H.2⟩
theorem FoBox.new (w : World) {f : Fo} (hk : f.ok) : FoBox (w.alloc (.cells (fov f) 44)) w.heap.size f := ⟨heap_alloc_last w _, hk⟩
theorem FoBox.range {w : World} {g : Nat} {f : Fo} (H : FoBox w g f) : w.rangeAt g 0 (fov f).toList := fun j v hj => by
  rw [cell_of_row w g (0 + j) _ _ _ H.1, Nat.zero_add, ← Array.getElem?_toList]; exact hj
theorem FoBox.adrR {w : World} {g : Nat} {f : Fo} (H : FoBox w g f) : w.rangeAt g 0 (adv f.v6 f.adr).toList := (fo_at H.2 H.range).1
section
variable {ops : Array Oper} {rest : List Oper} {o : Oper} {a : Act} {w : World} {Q : Exit → Act → World → Prop}
theorem wp_load_fo {K : Act → World → Prop} (x : Operand) (ho : o.op = .load 44 x) {b f : Nat} {r : Fo} (hx : a.eval x = .pointer (some ⟨b, f, none⟩)) (hk : r.ok) (hA : w.rangeAt b f (fov r).toList)
    (h : K (a.put o.dst (.agg (fov r))) w) : o.wp Try.prog a w K Q :=
  wp_load_mid (P := Try.prog) 44 x ho b f hx (fov r).toList _ hA Try.underlying44 rfl (by simpa using fo_size hk) (by simpa using h)
theorem wpList_load_fo (hgd : o.guard = none) (x : Operand) (ho : o.op = .load 44 x) {b f : Nat} {r : Fo} (hx : a.eval x = .pointer (some ⟨b, f, none⟩)) (hk : r.ok) (hA : w.rangeAt b f (fov r).toList)
    (h : wpList Try.prog ops Q rest (a.put o.dst (.agg (fov r))) w) : wpList Try.prog ops Q (o :: rest) a w :=
  wpList_plain hgd fun _ hK => wp_load_fo x ho hx hk hA (hK _ _ h)
theorem run_build_fo {f : Fo} (hk : f.ok) (w : World) : (Instr.build 44 #[(0, .agg (adv f.v6 f.adr)), (1, .int .u32 f.ttl)]).run Try.prog w = .ok (.agg (fov f)) w := by
  obtain ⟨v, l, t⟩ := f
  obtain ⟨_, _, _, _, _, _, _, _, _, _, _, _, _, _, _, _, rfl⟩ := ex16k hk
  kernel_rfl
theorem wp_build_fo {K : Act → World → Prop} (x0 x1 : Operand) (ho : o.op = .build 44 #[(0, x0), (1, x1)]) (f : Fo) (hk : f.ok) (h0 : a.eval x0 = .agg (adv f.v6 f.adr)) (h1 : a.eval x1 = .int .u32 f.ttl)
    (h : K (a.put o.dst (.agg (fov f))) w) : o.wp Try.prog a w K Q := by
  have hrun := run_build_fo hk w
  unfold Oper.wp execOp
  simp only [ho, Sem.run_bind, Sem.run_pure, Result.andThen_ok, List.map_toArray, List.map_cons, List.map_nil, h0, h1, hrun]
  exact h
theorem wpList_build_fo (hgd : o.guard = none) (x0 x1 : Operand) (ho : o.op = .build 44 #[(0, x0), (1, x1)]) (f : Fo) (hk : f.ok) (h0 : a.eval x0 = .agg (adv f.v6 f.adr)) (h1 : a.eval x1 = .int .u32 f.ttl)
    (h : wpList Try.prog ops Q rest (a.put o.dst (.agg (fov f))) w) : wpList Try.prog ops Q (o :: rest) a w :=
  wpList_plain hgd fun _ hK => wp_build_fo x0 x1 ho f hk h0 h1 (hK _ _ h)
end
def foL (xs : List Fo) : List Value := xs.map fun f => .agg (fov f)
def foC (xs : List Fo) : List Value := (foL xs).flatMap fun v => v.cells.toList
theorem foC_snoc (xs : List Fo) (f : Fo) : foC (xs ++ [f]) = foC xs ++ (fov f).toList := by simp [foC, foL, Value.cells]
theorem foC_get {xs : List Fo} (h : ∀ r ∈ xs, r.ok) {i j : Nat} {r : Fo} (hr : xs[i]? = some r) {u : Value} (hj : (fov r).toList[j]? = some u) : (foC xs)[i * 18 + j]? = some u := by
  have hj3 : j < 18 := by
    have := (List.getElem?_eq_some_iff.1 hj).1
    rw [Array.length_toList, fov_size (h r (List.mem_of_getElem? hr))] at this
    exact this
  unfold foC
  rw [Great.flat_get (s := 18) (by decide) (foL xs) (fun v hv => by
    unfold foL at hv
    obtain ⟨q', hq, rfl⟩ := List.mem_map.1 hv
    exact fov_size (h q' hq)) (i * 18 + j), show (i * 18 + j) / 18 = i by omega, show (i * 18 + j) % 18 = j by omega]
  unfold foL
  rw [List.getElem?_map, hr]
  simpa [Value.cells] using hj
/-- A slice of what is found, as it reads. -/
structure Fos (w : World) (A : Option Addr) (n c : Nat) (xs : List Fo) : Prop where
  len : xs.length = n
  cap : n ≤ c
  max : c ≤ maxLen
  none_ : A = none → c = 0
  ok : ∀ r ∈ xs, r.ok
  here : ∀ (i : Nat) r, xs[i]? = some r → ∃ b off, A = some ⟨b, off, none⟩ ∧ w.rangeAt b (off + i * 18) (fov r).toList
theorem Fos.later {B : Nat} {w w' : World} {A : Option Addr} {n c : Nat} {xs : List Fo} (h : Fos w A n c xs) (hb : Below B w w') (hB : w.heap.size ≤ B) : Fos w' A n c xs :=
  ⟨h.len, h.cap, h.max, h.none_, h.ok, fun i r hr => by
    obtain ⟨b, off, hA, hr2⟩ := h.here i r hr
    exact ⟨b, off, hA, rangeAt_kept hr2 hb hB⟩⟩
theorem Fos.nil (w : World) : Fos w none 0 0 [] := ⟨rfl, Nat.le_refl _, Nat.zero_le _, fun _ => rfl, (fun r h => by cases h), fun i q h => by cases h⟩
theorem Fos.of_block {w : World} {g : Nat} {T : TypeId} {cs : Array Value} {xs : List Fo} (h : w.heap[g]? = some (.cells cs T (0, 0))) (hcs : cs.toList = foC xs) (hk : ∀ r ∈ xs, r.ok) (hm : xs.length ≤ maxLen) {n : Nat} (hn : xs.length = n) : Fos w (some ⟨g, 0, none⟩) n n xs :=
  ⟨hn, Nat.le_refl _, hn ▸ hm, (fun h => by cases h), hk, fun i r hr => ⟨g, 0, rfl, fun j u hj => by
    rw [Nat.zero_add, cell_of_row w g (i * 18 + j) _ _ _ h, ← Array.getElem?_toList, hcs]
    exact foC_get hk hr hj⟩⟩
/-- A row of the call's own of what is found. -/
def FoO (w : World) (base : Nat) (v : Value) (xs : List Fo) : Prop := w.ownsRow base 44 18 v xs.length (foC xs) ∧ ∀ f ∈ xs, f.ok
theorem FoO.nil (w : World) (base : Nat) : FoO w base (.slice none 0 0) [] := ⟨World.ownsRow_nil _ _ _ _, fun f h => by cases h⟩
theorem FoO.later {w w' : World} {base : Nat} {v : Value} {xs : List Fo} (h : FoO w base v xs) (hb : Below w.heap.size w w') : FoO w' base v xs := ⟨own_kept h.1 hb, h.2⟩
theorem Fos.of_own {w : World} {base : Nat} {v : Value} {xs : List Fo} (h : FoO w base v xs) : ∃ A c, v = .slice A xs.length c ∧ Fos w A xs.length c xs := by
  obtain ⟨h, hk⟩ := h
  rcases h.2 with ⟨rfl, h0⟩ | ⟨g, cap, cur, rfl, hlo, _, hc, hm, _, _⟩
  · obtain rfl := List.eq_nil_of_length_eq_zero h0
    exact ⟨none, 0, rfl, Fos.nil w⟩
  · refine ⟨_, _, rfl, rfl, hc, hm, (fun h => by cases h), hk, fun i q hq => ⟨g, 0, rfl, fun j u hj => ?_⟩⟩
    have hk2 := h.cells (g := g) rfl (i * 18 + j) u (foC_get hk hq hj)
    rw [add_plain, Nat.zero_add] at hk2
    rw [Nat.zero_add]
    exact hk2
theorem info_of15 {P : Program} {e : TypeId} {z : Value} {s b : Nat} (h : (P.info? e).map (fun i => (i.zero, i.size, i.bytes)) = some (some z, s, b)) : ∃ i, P.info? e = some i ∧ i.zero = some z ∧ i.size = s ∧ i.bytes = b := by
  cases hi : P.info? e with
  | none => rw [hi] at h; cases h
  | some i =>
    rw [hi] at h
    simp only [Option.map_some, Option.some.injEq, Prod.mk.injEq] at h
    exact ⟨i, rfl, h.1, h.2.1, h.2.2⟩
def fo0 : Fo := ⟨false, List.replicate 16 0, 0⟩
theorem infoFo : (Try.prog.info? 44).map (fun i => (i.zero, i.size, i.bytes)) = some (some (.agg (fov fo0)), 18, 24) := by kernel_rfl
theorem wpList_push_fo {ops : Array Oper} {rest : List Oper} {o : Oper} {a : Act} {w : World} {Q : Exit → Act → World → Prop} (hgd : o.guard = none) (s x : Operand)
    (ho : o.op = .call { callee := .builtin .append, args := #[s, x], argTypes := #[35, 35] }) (base : Nat) (v : Value) (xs : List Fo) (hs : a.eval s = v) (hown : FoO w base v xs)
    {g : Nat} {q : Fo} (hx : a.eval x = .slice (some ⟨g, 0, none⟩) 1 1) (hq : FoBox w g q) (hm : xs.length ≤ 1000000) (hbase : base ≤ w.heap.size)
    (h : ∀ v' w', FoO w' base v' (xs ++ [q]) → w.grownBy w' v.ownBlock → wpList Try.prog ops Q rest (a.put o.dst v') w') : wpList Try.prog ops Q (o :: rest) a w := by
  obtain ⟨i, h1, h2, h3, h4⟩ := info_of15 infoFo
  refine wpList_append_own_at w hgd s x 35 ho base 44 i _ 18 24 Try.underlying35 h1 h2 h3 h4 (by kernel_rfl) (by decide) v xs.length _ hs hown.1 ⟨g, 0, none⟩ 1 1 (fov q).toList hx (by rw [Array.length_toList, fov_size hq.2]) (fun j u hj => by
    have := hq.range j u hj
    rw [add_plain]
    exact this) (fun u hu => by
    have := (Array.all_eq_true'.1 (fov_one q)) u (by simpa using hu)
    exact this) (by unfold maxLen; omega) (by omega) hbase ?_
  intro v' w' o' g' _ _
  refine h v' w' ⟨?_, fun f hf => ?_⟩ g'
  · rw [foC_snoc, List.length_append]
    exact o'
  · rcases List.mem_append.1 hf with hf | hf
    · exact hown.2 f hf
    · obtain rfl := List.mem_singleton.1 hf
      exact hq.2
/-- A slice literal of one struct. -/
theorem wpList_one15 {P : Program} {ops : Array Oper} {rest : List Oper} {o : Oper} {a : Act} {w : World} {Q : Exit → Act → World → Prop} (hgd : o.guard = none) (t e : TypeId) (x : Operand) (ho : o.op = .buildSlice t 1 #[(0, x)])
    (cs : Array Value) (hx : a.eval x = .agg cs) {z : Value} {s b : Nat} (hi : (P.info? e).map (fun i => (i.zero, i.size, i.bytes)) = some (some z, s, b)) (hs : cs.size = s) (hp : 0 < s) (hm : s ≤ 1000) (hu : P.underlying t = some (.slice e))
    (h : wpList P ops Q rest (a.put o.dst (.slice (some ⟨w.heap.size, 0, none⟩) 1 1)) (w.alloc (.cells cs e))) : wpList P ops Q (o :: rest) a w := by
  obtain ⟨i, h1, h2, h3, _⟩ := info_of15 hi
  refine wpList_buildSlice hgd t e 1 _ ho cs i z hu h1 h2 (by rw [h3]; omega) (by rw [h3]; omega) ?_ h
  have hf := Great.fill_whole hp [Value.agg cs] ((Array.range (1 * i.size)).map (z.cells[· % z.cells.size]!)) (fun v hv => by
    obtain rfl := List.mem_singleton.1 hv
    exact hs) (by simp [h3])
  rw [h3] at hf ⊢
  simp only [List.zipIdx, List.map_cons, List.map_nil, List.flatMap_cons, List.flatMap_nil, List.append_nil] at hf
  simp only [List.map_toArray, List.map_cons, List.map_nil, hx]
  rw [hf]
  simp [Value.cells]
end Go.Proofs.Ytjbdaeiefckkcaa
