/-
  
-/
import Derived.Test.YtoagfmonfgagbaaGreatDoorZ19
import Derived.Test.YtoagfmonfgagbaaGreatDoorZ28
namespace Go.Proofs.YtoagfmonfgagbaaGreatDoor
open Go.RowKit
set_option maxRecDepth 100000
structure Rw where
  allow : Bool
  name : List UInt8
  wild : Bool
  v6 : Bool
  adr : List UInt8
  bits : Int
  proto : Int
  low : Int
  high : Int
deriving DecidableEq
def Rw.ok (r : Rw) : Prop := r.adr.length = 16
def rwv (r : Rw) : Array Value := (#[.bool r.allow, .string (mkS r.name), .bool r.wild] : Array Value).append ((pxv r.v6 r.adr r.bits).append #[.int .i64 r.proto, .int .i64 r.low, .int .i64 r.high])
theorem rwv_list (r : Rw) : (rwv r).toList = [.bool r.allow, .string (mkS r.name), .bool r.wild] ++ ((pxv r.v6 r.adr r.bits).toList ++ [.int .i64 r.proto, .int .i64 r.low, .int .i64 r.high]) := by
  simp [rwv]
theorem rwv_size {r : Rw} (hk : r.ok) : (rwv r).size = 24 := by
  have h := pxv_size r.v6 r.bits hk
  rw [← Array.length_toList, rwv_list]
  simp [h]
theorem rwv_one {r : Rw} (_ : r.ok) : (rwv r).all (·.oneCell') = true :=
  Array.all_eq_true_iff_forall_mem.2 fun v hv => by
    rw [← Array.mem_toList_iff, rwv_list] at hv
    rcases List.mem_append.1 hv with hv | hv
    · simp only [List.mem_cons, List.not_mem_nil, or_false] at hv
      rcases hv with rfl | rfl | rfl <;> rfl
    · rcases List.mem_append.1 hv with hv | hv
      · exact Array.all_eq_true_iff_forall_mem.1 (pxv_one r.v6 r.adr r.bits) v (Array.mem_toList_iff.1 hv)
      · simp only [List.mem_cons, List.not_mem_nil, or_false] at hv
        rcases hv with rfl | rfl | rfl <;> rfl
theorem rw_size {r : Rw} (hk : r.ok) : (Tryz.prog.info? 55).map (·.size) = some (rwv r).size := by rw [rwv_size hk]; kernel_rfl
theorem rw_at {w : World} {b o : Nat} {r : Rw} (hk : r.ok) (h : w.rangeAt b o (rwv r).toList) : w.cell? ⟨b, o, none⟩ = some (.bool r.allow) ∧ w.cell? ⟨b, o + 1, none⟩ = some (.string (mkS r.name)) ∧ w.cell? ⟨b, o + 2, none⟩ = some (.bool r.wild) ∧ w.cell? ⟨b, o + 21, none⟩ = some (.int .i64 r.proto) ∧ w.cell? ⟨b, o + 22, none⟩ = some (.int .i64 r.low) ∧ w.cell? ⟨b, o + 23, none⟩ = some (.int .i64 r.high) ∧ w.rangeAt b (o + 3) (pxv r.v6 r.adr r.bits).toList := by
  obtain ⟨_, _, _, _, _, _, _, _, _, _, _, _, _, _, _, _, e1⟩ := explicit16 hk
  refine ⟨h 0 _ (by rw [rwv_list]; rfl), h 1 _ (by rw [rwv_list]; rfl), h 2 _ (by rw [rwv_list]; rfl), h 21 _ (by rw [rwv_list, e1]; rfl), h 22 _ (by rw [rwv_list, e1]; rfl), h 23 _ (by rw [rwv_list, e1]; rfl), fun j v hj => ?_⟩
  have h1 := h (3 + j) v (by
    rw [rwv_list, List.getElem?_append_right (by simp)]
    simp only [List.length_cons, List.length_nil, Nat.add_sub_cancel_left]
    rw [List.getElem?_append_left]
    · simpa using hj
    · have := (List.getElem?_eq_some_iff.1 hj).1
      simpa using this)
  rw [show o + (3 + j) = o + 3 + j by omega] at h1
  exact h1
def RwBox (w : World) (g : Nat) (r : Rw) : Prop := w.heap[g]? = some (.cells (rwv r) 55 (0, 0)) ∧ r.ok
section
variable {w w' : World} {g : Nat} {r : Rw}
theorem RwBox.lt (H : RwBox w g r) : g < w.heap.size := (Array.getElem?_eq_some_iff.1 H.1).1
theorem RwBox.later {B : Nat} (H : RwBox w g r) (hb : Below B w w') (hB : w.heap.size ≤ B) : RwBox w' g r := ⟨(hb.block g (by have := H.lt; omega)).trans H.1, H.2⟩
theorem RwBox.same (H : RwBox w g r) (hh : w'.heap[g]? = w.heap[g]?) : RwBox w' g r := ⟨hh.trans H.1, H.2⟩
theorem RwBox.new (w : World) (hk : r.ok) : RwBox (w.alloc (.cells (rwv r) 55)) w.heap.size r := ⟨heap_alloc_last w _, hk⟩
theorem RwBox.range (H : RwBox w g r) : w.rangeAt g 0 (rwv r).toList := fun j v hj => by
  rw [cell_of_row w g (0 + j) _ _ _ H.1, Nat.zero_add, ← Array.getElem?_toList]; exact hj
theorem RwBox.cells (H : RwBox w g r) : w.cell? ⟨g, 0, none⟩ = some (.bool r.allow) ∧ w.cell? ⟨g, 1, none⟩ = some (.string (mkS r.name)) ∧ w.cell? ⟨g, 2, none⟩ = some (.bool r.wild) ∧ w.cell? ⟨g, 21, none⟩ = some (.int .i64 r.proto) ∧ w.cell? ⟨g, 22, none⟩ = some (.int .i64 r.low) ∧ w.cell? ⟨g, 23, none⟩ = some (.int .i64 r.high) ∧ w.rangeAt g 3 (pxv r.v6 r.adr r.bits).toList := by
  have h := rw_at H.2 H.range
  simpa only [Nat.zero_add] using h
theorem RwBox.frozen (H : RwBox w g r) (j : Nat) : w.frozen? ⟨g, j, none⟩ = false := by simp [World.frozen?, H.1]
end
def rw0 : Rw := ⟨false, [], false, false, List.replicate 16 0, 0, 0, 0, 0⟩
theorem rw0_ok : rw0.ok := rfl
section
variable {ops : Array Oper} {rest : List Oper} {o : Oper} {a : Act} {w : World} {Q : Exit → Act → World → Prop}
theorem rw_zero_eq : rwv rw0 = (#[.bool false, .string ⟨#[]⟩, .bool false, .bool false, .int .u8 0, .int .u8 0, .int .u8 0, .int .u8 0, .int .u8 0, .int .u8 0, .int .u8 0, .int .u8 0, .int .u8 0, .int .u8 0, .int .u8 0, .int .u8 0, .int .u8 0, .int .u8 0, .int .u8 0, .int .u8 0, .int .i64 0, .int .i64 0, .int .i64 0, .int .i64 0] : Array Value) := by kernel_rfl
theorem wp_alloc_rw {K : Act → World → Prop} (ho : o.op = .alloc 55)
    (h : ∀ w', RwBox w' w.heap.size rw0 → Below w.heap.size w w' → w'.heap.size = w.heap.size + 1 → K (a.put o.dst (.pointer (some ⟨w.heap.size, 0, none⟩))) w') : o.wp Tryz.prog a w K Q := by
  have h1 := h (w.alloc (.cells (rwv rw0) 55)) (RwBox.new w rw0_ok) ((Below.refl _ w).alloc (Nat.le_refl _) _) (by simp)
  rw [rw_zero_eq] at h1
  obtain ⟨dst, op, ty, pos, after, guard⟩ := o
  simp only at ho
  subst ho
  go_simp
  exact h1
theorem wpList_alloc_rw (hgd : o.guard = none) (ho : o.op = .alloc 55)
    (h : ∀ w', RwBox w' w.heap.size rw0 → Below w.heap.size w w' → w'.heap.size = w.heap.size + 1 → wpList Tryz.prog ops Q rest (a.put o.dst (.pointer (some ⟨w.heap.size, 0, none⟩))) w') : wpList Tryz.prog ops Q (o :: rest) a w :=
  wpList_plain hgd fun _ hK => wp_alloc_rw ho fun w' h1 h2 h3 => hK _ _ (h w' h1 h2 h3)
theorem wp_store_rw {K : Act → World → Prop} (x y : Operand) (ho : o.op = .store 55 x y) {g : Nat} (r : Rw) {r0 : Rw}
    (hx : a.eval x = .pointer (some ⟨g, 0, none⟩)) (hy : a.eval y = .agg (rwv r)) (hk : r.ok) (hA : RwBox w g r0)
    (h : ∀ w', RwBox w' g r → (∀ k, k ≠ g → w'.heap[k]? = w.heap[k]?) → w'.heap.size = w.heap.size → (∀ B w0, B ≤ g → Below B w0 w → Below B w0 w') → K (a.put o.dst undef) w') : o.wp Tryz.prog a w K Q :=
  wp_store_row 55 x y ho g (rwv r) hx hy 55 _ hA.1 (rw_size hk) (by rw [rwv_size hA.2, rwv_size hk]) (rwv_one hk)
    (h _ ⟨setRow_heap w g _ _ _ _ hA.1, hk⟩ (fun k hk => setRow_other w g k _ hk) (size_setRow w g _) (fun B w0 hB hb => below_setRow hb hB _))
theorem wpList_store_rw (hgd : o.guard = none) (x y : Operand) (ho : o.op = .store 55 x y) {g : Nat} (r : Rw) {r0 : Rw}
    (hx : a.eval x = .pointer (some ⟨g, 0, none⟩)) (hy : a.eval y = .agg (rwv r)) (hk : r.ok) (hA : RwBox w g r0)
    (h : ∀ w', RwBox w' g r → (∀ k, k ≠ g → w'.heap[k]? = w.heap[k]?) → w'.heap.size = w.heap.size → (∀ B w0, B ≤ g → Below B w0 w → Below B w0 w') → wpList Tryz.prog ops Q rest (a.put o.dst undef) w') : wpList Tryz.prog ops Q (o :: rest) a w :=
  wpList_plain hgd fun _ hK => wp_store_rw x y ho r hx hy hk hA fun w' h1 h2 h3 h4 => hK _ _ (h w' h1 h2 h3 h4)
theorem wp_load_rw {K : Act → World → Prop} (x : Operand) (ho : o.op = .load 55 x) {b f : Nat} {r : Rw} (hx : a.eval x = .pointer (some ⟨b, f, none⟩)) (hk : r.ok) (hA : w.rangeAt b f (rwv r).toList)
    (h : K (a.put o.dst (.agg (rwv r))) w) : o.wp Tryz.prog a w K Q :=
  wp_load_mid (P := Tryz.prog) 55 x ho b f hx (rwv r).toList _ hA Tryz.underlying55 rfl (by simpa using rw_size hk) (by simpa using h)
theorem wpList_load_rw (hgd : o.guard = none) (x : Operand) (ho : o.op = .load 55 x) {b f : Nat} {r : Rw} (hx : a.eval x = .pointer (some ⟨b, f, none⟩)) (hk : r.ok) (hA : w.rangeAt b f (rwv r).toList)
    (h : wpList Tryz.prog ops Q rest (a.put o.dst (.agg (rwv r))) w) : wpList Tryz.prog ops Q (o :: rest) a w :=
  wpList_plain hgd fun _ hK => wp_load_rw x ho hx hk hA (hK _ _ h)
theorem wp_load_a9 {K : Act → World → Prop} (x : Operand) (ho : o.op = .load 51 x) {b f : Nat} {r : Bool × List UInt8} (hx : a.eval x = .pointer (some ⟨b, f, none⟩)) (hk : A9ok r) (hA : w.rangeAt b f (a9v r).toList)
    (h : K (a.put o.dst (.agg (a9v r))) w) : o.wp Tryz.prog a w K Q :=
  wp_load_mid (P := Tryz.prog) 51 x ho b f hx (a9v r).toList _ hA Tryz.underlying51 rfl (by have h1 := ad_size r.1 hk; simpa [a9v] using h1) (by simpa using h)
theorem wpList_load_a9 (hgd : o.guard = none) (x : Operand) (ho : o.op = .load 51 x) {b f : Nat} {r : Bool × List UInt8} (hx : a.eval x = .pointer (some ⟨b, f, none⟩)) (hk : A9ok r) (hA : w.rangeAt b f (a9v r).toList)
    (h : wpList Tryz.prog ops Q rest (a.put o.dst (.agg (a9v r))) w) : wpList Tryz.prog ops Q (o :: rest) a w :=
  wpList_plain hgd fun _ hK => wp_load_a9 x ho hx hk hA (hK _ _ h)
theorem wp_load_px' {K : Act → World → Prop} (x : Operand) (ho : o.op = .load 53 x) {b f : Nat} {v6 : Bool} {bs : List UInt8} {n : Int} (hx : a.eval x = .pointer (some ⟨b, f, none⟩)) (hk : bs.length = 16) (hA : w.rangeAt b f (pxv v6 bs n).toList)
    (h : K (a.put o.dst (.agg (pxv v6 bs n))) w) : o.wp Tryz.prog a w K Q :=
  wp_load_mid (P := Tryz.prog) 53 x ho b f hx (pxv v6 bs n).toList _ hA Tryz.underlying53 rfl (by simpa using px_size v6 n hk) (by simpa using h)
theorem wpList_load_px' (hgd : o.guard = none) (x : Operand) (ho : o.op = .load 53 x) {b f : Nat} {v6 : Bool} {bs : List UInt8} {n : Int} (hx : a.eval x = .pointer (some ⟨b, f, none⟩)) (hk : bs.length = 16) (hA : w.rangeAt b f (pxv v6 bs n).toList)
    (h : wpList Tryz.prog ops Q rest (a.put o.dst (.agg (pxv v6 bs n))) w) : wpList Tryz.prog ops Q (o :: rest) a w :=
  wpList_plain hgd fun _ hK => wp_load_px' x ho hx hk hA (hK _ _ h)
end
def rwL (xs : List Rw) : List Value := xs.map fun t => .agg (rwv t)
def rwC (xs : List Rw) : List Value := (rwL xs).flatMap fun v => v.cells.toList
theorem rwC_snoc (xs : List Rw) (t : Rw) : rwC (xs ++ [t]) = rwC xs ++ (rwv t).toList := by simp [rwC, rwL, Value.cells]
theorem rwC_len {xs : List Rw} (h : ∀ r ∈ xs, Rw.ok r) : (rwC xs).length = xs.length * 24 := by
  induction xs with
  | nil => rfl
  | cons a t ih =>
    have e : rwC (a :: t) = (rwv a).toList ++ rwC t := by simp [rwC, rwL, Value.cells]
    rw [e, List.length_append, ih (fun r hr => h r (List.mem_cons_of_mem _ hr)), Array.length_toList, rwv_size (h a (List.mem_cons_self ..)), List.length_cons]
    omega
theorem rwC_get {xs : List Rw} (h : ∀ r ∈ xs, Rw.ok r) {i j : Nat} {r : Rw} (hr : xs[i]? = some r) {u : Value} (hj : (rwv r).toList[j]? = some u) : (rwC xs)[i * 24 + j]? = some u := by
  have hj3 : j < 24 := by
    have := (List.getElem?_eq_some_iff.1 hj).1
    rw [Array.length_toList, rwv_size (h r (List.mem_of_getElem? hr))] at this
    exact this
  unfold rwC
  rw [Great.flat_get (s := 24) (by decide) (rwL xs) (fun v hv => by
    unfold rwL at hv
    obtain ⟨q', hq, rfl⟩ := List.mem_map.1 hv
    exact rwv_size (h q' hq)) (i * 24 + j), show (i * 24 + j) / 24 = i by omega, show (i * 24 + j) % 24 = j by omega]
  unfold rwL
  rw [List.getElem?_map, hr]
  simpa [Value.cells] using hj
structure RwS (w : World) (A : Option Addr) (n c : Nat) (xs : List Rw) : Prop where
  len : xs.length = n
  cap : n ≤ c
  max : c ≤ maxLen
  none_ : A = none → c = 0
  ok : ∀ r ∈ xs, Rw.ok r
  here : ∀ (i : Nat) t, xs[i]? = some t → ∃ b off, A = some ⟨b, off, none⟩ ∧ w.rangeAt b (off + i * 24) (rwv t).toList
theorem RwS.later {B : Nat} {w w' : World} {A : Option Addr} {n c : Nat} {xs : List Rw} (h : RwS w A n c xs) (hb : Below B w w') (hB : w.heap.size ≤ B) : RwS w' A n c xs :=
  ⟨h.len, h.cap, h.max, h.none_, h.ok, fun i r hr => by
    obtain ⟨b, off, hA, hr2⟩ := h.here i r hr
    exact ⟨b, off, hA, range_kept hr2 hb hB⟩⟩
theorem RwS.kept {w w' : World} {A : Option Addr} {n c : Nat} {xs : List Rw} (h : RwS w A n c xs) (hk : ∀ b o, A = some ⟨b, o, none⟩ → w'.heap[b]? = w.heap[b]?) : RwS w' A n c xs :=
  ⟨h.len, h.cap, h.max, h.none_, h.ok, fun i r hr => by
    obtain ⟨b, off, hA, hr2⟩ := h.here i r hr
    exact ⟨b, off, hA, fun j v hj => (World.cell?_of_block (w := w) (hk b off hA)).trans (hr2 j v hj)⟩⟩
theorem RwS.nil (w : World) : RwS w none 0 0 [] := ⟨rfl, Nat.le_refl _, Nat.zero_le _, fun _ => rfl, (fun r h => by cases h), fun i q h => by cases h⟩
def RwO (w : World) (base : Nat) (v : Value) (xs : List Rw) : Prop := w.ownsRow base 55 24 v xs.length (rwC xs) ∧ ∀ r ∈ xs, Rw.ok r
theorem RwO.nil (w : World) (base : Nat) : RwO w base (.slice none 0 0) [] := ⟨World.ownsRow_nil _ _ _ _, fun r h => by cases h⟩
theorem RwO.later {w w' : World} {base : Nat} {v : Value} {xs : List Rw} (h : RwO w base v xs) (hb : Below w.heap.size w w') : RwO w' base v xs := ⟨own_kept h.1 hb, h.2⟩
theorem RwO.lt {w : World} {base : Nat} {v : Value} {xs : List Rw} (h : RwO w base v xs) {b : Nat} (hb : v.ownBlock = some b) : base ≤ b ∧ b < w.heap.size := World.ownsRow.lt h.1 b hb
theorem RwO.kept {w w' : World} {base : Nat} {v : Value} {xs : List Rw} (h : RwO w base v xs) (hk : ∀ b, v.ownBlock = some b → w'.heap[b]? = w.heap[b]?) : RwO w' base v xs := ⟨owns_block h.1 hk, h.2⟩
theorem RwS.of_own {w : World} {base : Nat} {v : Value} {xs : List Rw} (h : RwO w base v xs) : ∃ A c, v = .slice A xs.length c ∧ RwS w A xs.length c xs ∧ (A = none ∨ ∃ b, A = some ⟨b, 0, none⟩) := by
  obtain ⟨h, hk⟩ := h
  rcases h.2 with ⟨rfl, h0⟩ | ⟨g, cap, cur, rfl, hlo, _, hc, hm, _, _⟩
  · obtain rfl := List.eq_nil_of_length_eq_zero h0
    exact ⟨none, 0, rfl, RwS.nil w, .inl rfl⟩
  · refine ⟨_, _, rfl, ⟨rfl, hc, hm, (fun h => by cases h), hk, fun i q hq => ⟨g, 0, rfl, fun j u hj => ?_⟩⟩, .inr ⟨g, rfl⟩⟩
    have hk2 := h.cells (g := g) rfl (i * 24 + j) u (rwC_get hk hq hj)
    rw [add_plain, Nat.zero_add] at hk2
    rw [Nat.zero_add]
    exact hk2
theorem infoRw : (Tryz.prog.info? 55).map (fun i => (i.zero, i.size, i.bytes)) = some (some (.agg (rwv rw0)), 24, 88) := by kernel_rfl
section
variable {ops : Array Oper} {rest : List Oper} {o : Oper} {a : Act} {w : World} {Q : Exit → Act → World → Prop}
theorem wp_push_rw {K : Act → World → Prop} (s x : Operand)
    (ho : o.op = .call { callee := .builtin .append, args := #[s, x], argTypes := #[23, 23] }) (base : Nat) (v : Value) (xs : List Rw) (hs : a.eval s = v) (hown : RwO w base v xs)
    {g : Nat} {t : Rw} (hx : a.eval x = .slice (some ⟨g, 0, none⟩) 1 1) (hq : w.rangeAt g 0 (rwv t).toList) (hk : Rw.ok t) (hm : xs.length ≤ 1000000) (hbase : base ≤ w.heap.size)
    (h : ∀ v' w', RwO w' base v' (xs ++ [t]) → w.grownBy w' v.ownBlock → (v'.ownBlock = v.ownBlock ∨ v'.ownBlock = some w.heap.size) → K (a.put o.dst v') w') : o.wp Tryz.prog a w K Q := by
  obtain ⟨i, h1, h2, h3, h4⟩ := info_of18 infoRw
  refine wp_append_at w s x 23 ho base 55 i _ 24 88 Tryz.underlying23 h1 h2 h3 h4 (by kernel_rfl) (by decide) v xs.length _ hs hown.1 ⟨g, 0, none⟩ 1 1 (rwv t).toList hx (by rw [Array.length_toList, rwv_size hk]) (fun j u hj => by
    have := hq j u hj
    rw [add_plain]
    exact this) (fun u hu => by
    have := (Array.all_eq_true'.1 (rwv_one hk)) u (by simpa using hu)
    exact this) (by unfold maxLen; omega) (by omega) hbase ?_
  intro v' w' o' g' _ hat
  refine h v' w' ⟨?_, fun r hr => ?_⟩ g' hat
  · rw [rwC_snoc, List.length_append]
    exact o'
  · rcases List.mem_append.1 hr with hr | hr
    · exact hown.2 r hr
    · obtain rfl := List.mem_singleton.1 hr; exact hk
theorem wpList_push_rw (hgd : o.guard = none) (s x : Operand)
    (ho : o.op = .call { callee := .builtin .append, args := #[s, x], argTypes := #[23, 23] }) (base : Nat) (v : Value) (xs : List Rw) (hs : a.eval s = v) (hown : RwO w base v xs)
    {g : Nat} {t : Rw} (hx : a.eval x = .slice (some ⟨g, 0, none⟩) 1 1) (hq : w.rangeAt g 0 (rwv t).toList) (hk : Rw.ok t) (hm : xs.length ≤ 1000000) (hbase : base ≤ w.heap.size)
    (h : ∀ v' w', RwO w' base v' (xs ++ [t]) → w.grownBy w' v.ownBlock → (v'.ownBlock = v.ownBlock ∨ v'.ownBlock = some w.heap.size) → wpList Tryz.prog ops Q rest (a.put o.dst v') w') : wpList Tryz.prog ops Q (o :: rest) a w :=
  wpList_plain hgd fun _ hK => wp_push_rw s x ho base v xs hs hown hx hq hk hm hbase fun v' w' h1 h2 h3 => hK _ _ (h v' w' h1 h2 h3)
theorem wp_lit_rw {K : Act → World → Prop} (x : Operand) (ho : o.op = .buildSlice 23 1 #[(0, x)])
    (t : Rw) (hk : Rw.ok t) (hx : a.eval x = .agg (rwv t))
    (h : K (a.put o.dst (.slice (some ⟨w.heap.size, 0, none⟩) 1 1)) (w.alloc (.cells (rwv t) 55))) : o.wp Tryz.prog a w K Q := by
  obtain ⟨i, h1, h2, h3, _⟩ := info_of18 infoRw
  refine wp_buildSlice 23 55 1 _ ho (rwv t) i _ Tryz.underlying23 h1 h2 (by rw [h3]; omega) (by rw [h3]; omega) ?_ h
  have hf := Great.fill_whole (s := 24) (by decide) [Value.agg (rwv t)] ((Array.range (1 * i.size)).map ((Value.agg (rwv rw0)).cells[· % (Value.agg (rwv rw0)).cells.size]!)) (fun v hv => by
    obtain rfl := List.mem_singleton.1 hv
    exact rwv_size hk) (by simp [h3])
  rw [h3] at hf ⊢
  simp only [List.zipIdx, List.map_cons, List.map_nil, List.flatMap_cons, List.flatMap_nil, List.append_nil] at hf
  simp only [List.map_toArray, List.map_cons, List.map_nil, hx]
  rw [hf]
  simp [Value.cells]
theorem wpList_lit_rw (hgd : o.guard = none) (x : Operand) (ho : o.op = .buildSlice 23 1 #[(0, x)])
    (t : Rw) (hk : Rw.ok t) (hx : a.eval x = .agg (rwv t))
    (h : wpList Tryz.prog ops Q rest (a.put o.dst (.slice (some ⟨w.heap.size, 0, none⟩) 1 1)) (w.alloc (.cells (rwv t) 55))) : wpList Tryz.prog ops Q (o :: rest) a w :=
  wpList_plain hgd fun _ hK => wp_lit_rw x ho t hk hx (hK _ _ h)
end
end Go.Proofs.YtoagfmonfgagbaaGreatDoor
