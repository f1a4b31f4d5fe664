/-
  
-/
import Derived.Test.YtoagfmonfgagbaaGreatDoorZ04
import Derived.Test.YtoagfmonfgagbaaGreatDoorZ22
import Derived.Laws.CopyOwn
import Derived.Test.YtoagfmonfgagbaaGreatDoorZ16
import Derived.Test.YtoagfmonfgagbaaGreatDoorZ23
import Derived.Test.YtoagfmonfgagbaaGreatDoorProg
import Derived.Test.YtoagfmonfgagbaaGreatDoorZ02
import Derived.Laws.StructEq
import Derived.Laws.ResultCell
import Derived.Maps.AppendAt
import Derived.Great.BuildSlice
import Derived.Laws.AppendOwnNone
import Derived.Lib.ConvBytes
import Derived.Lib.Strings
namespace Go.Proofs.YtoagfmonfgagbaaGreatDoor
open Go.RowKit
set_option maxRecDepth 100000
theorem mkS_inj {a b : List UInt8} (h : mkS a = mkS b) : a = b := by
  rw [← mkS_data a, ← mkS_data b, h]
theorem ba_beq (x y : ByteArray) : (x == y) = decide (x = y) := by
  obtain ⟨a⟩ := x
  obtain ⟨b⟩ := y
  have e : ((⟨a⟩ : ByteArray) == ⟨b⟩) = (a == b) := rfl
  rw [e, Bool.eq_iff_iff, decide_eq_true_iff]
  simp
def Tk.kind (t : Tk) : Int := if t.word then 1 else 2
def tkv (t : Tk) : Array Value := #[.int .i64 t.kind, .int .i64 t.at_, .int .i64 t.row, .string (mkS t.text)]
theorem tkv_size (t : Tk) : (tkv t).size = 4 := rfl
theorem tkv_one (t : Tk) : (tkv t).all (·.oneCell') = true := by simp [tkv, Value.oneCell']
theorem tk_size (t : Tk) : (Tryz.prog.info? 96).map (·.size) = some (tkv t).size := by
  show _ = some 4
  kernel_rfl
def TkBox (w : World) (g : Nat) (t : Tk) : Prop := w.heap[g]? = some (.cells (tkv t) 96 (0, 0))
section
variable {w w' : World} {g : Nat} {t : Tk}
theorem TkBox.lt (H : TkBox w g t) : g < w.heap.size := (Array.getElem?_eq_some_iff.1 H).1
theorem TkBox.later {B : Nat} (H : TkBox w g t) (hb : Below B w w') (hB : w.heap.size ≤ B) : TkBox w' g t := (hb.block g (by have := H.lt; omega)).trans H
theorem TkBox.same (H : TkBox w g t) (hh : w'.heap[g]? = w.heap[g]?) : TkBox w' g t := hh.trans H
theorem TkBox.new (w : World) (t : Tk) : TkBox (w.alloc (.cells (tkv t) 96)) w.heap.size t := heap_alloc_last w _
theorem TkBox.range (H : TkBox w g t) : w.rangeAt g 0 (tkv t).toList := fun j v hj => by
  rw [cell_of_row w g (0 + j) _ _ _ H, Nat.zero_add, ← Array.getElem?_toList]; exact hj
theorem TkBox.cell (H : TkBox w g t) (j : Nat) : w.cell? ⟨g, j, none⟩ = (tkv t)[j]? := cell_of_row w g j _ _ _ H
theorem TkBox.frozen (H : TkBox w g t) (j : Nat) : w.frozen? ⟨g, j, none⟩ = false := by unfold TkBox at H; simp [World.frozen?, H]
end
theorem tk_at {w : World} {b o : Nat} {t : Tk} (h : w.rangeAt b o (tkv t).toList) : w.cell? ⟨b, o, none⟩ = some (.int .i64 t.kind) ∧ w.cell? ⟨b, o + 1, none⟩ = some (.int .i64 t.at_) ∧ w.cell? ⟨b, o + 2, none⟩ = some (.int .i64 t.row) ∧ w.cell? ⟨b, o + 3, none⟩ = some (.string (mkS t.text)) :=
  ⟨h 0 _ rfl, h 1 _ rfl, h 2 _ rfl, h 3 _ rfl⟩
def tk0 : Tk := ⟨false, 0, 0, []⟩
section
variable {ops : Array Oper} {rest : List Oper} {o : Oper} {a : Act} {w : World} {Q : Exit → Act → World → Prop}
theorem wp_load_tk {K : Act → World → Prop} (x : Operand) (ho : o.op = .load 96 x) {b f : Nat} {t : Tk} (hx : a.eval x = .pointer (some ⟨b, f, none⟩)) (hA : w.rangeAt b f (tkv t).toList)
    (h : K (a.put o.dst (.agg (tkv t))) w) : o.wp Tryz.prog a w K Q :=
  wp_load_mid (P := Tryz.prog) 96 x ho b f hx (tkv t).toList _ hA Tryz.underlying96 rfl (by simpa using tk_size t) (by simpa using h)
theorem wpList_load_tk (hgd : o.guard = none) (x : Operand) (ho : o.op = .load 96 x) {b f : Nat} {t : Tk} (hx : a.eval x = .pointer (some ⟨b, f, none⟩)) (hA : w.rangeAt b f (tkv t).toList)
    (h : wpList Tryz.prog ops Q rest (a.put o.dst (.agg (tkv t))) w) : wpList Tryz.prog ops Q (o :: rest) a w :=
  wpList_plain hgd fun _ hK => wp_load_tk x ho hx hA (hK _ _ h)
def tkZ : Array Value := #[.int .i64 0, .int .i64 0, .int .i64 0, .string ⟨#[]⟩]
theorem wp_alloc_tk {K : Act → World → Prop} (ho : o.op = .alloc 96)
    (h : ∀ w', w'.heap[w.heap.size]? = some (.cells tkZ 96 (0, 0)) → Below w.heap.size w w' → w'.heap.size = w.heap.size + 1 → K (a.put o.dst (.pointer (some ⟨w.heap.size, 0, none⟩))) w') : o.wp Tryz.prog a w K Q := by
  have h1 := h (w.alloc (.cells tkZ 96)) (heap_alloc_last w _) ((Below.refl _ w).alloc (Nat.le_refl _) _) (by simp)
  obtain ⟨dst, op, ty, pos, after, guard⟩ := o
  simp only at ho
  subst ho
  unfold tkZ at h1
  go_simp
  exact h1
theorem wpList_alloc_tk (hgd : o.guard = none) (ho : o.op = .alloc 96)
    (h : ∀ w', w'.heap[w.heap.size]? = some (.cells tkZ 96 (0, 0)) → Below w.heap.size w w' → w'.heap.size = w.heap.size + 1 → wpList Tryz.prog ops Q rest (a.put o.dst (.pointer (some ⟨w.heap.size, 0, none⟩))) w') : wpList Tryz.prog ops Q (o :: rest) a w :=
  wpList_plain hgd fun _ hK => wp_alloc_tk ho fun w' h1 h2 h3 => hK _ _ (h w' h1 h2 h3)
theorem run_build_word (at_ row : Nat) (s : ByteArray) (w : World) : (Instr.build 96 #[(0, .int .i64 1), (1, .int .i64 at_), (2, .int .i64 row), (3, .string s)]).run Tryz.prog w = .ok (.agg #[.int .i64 1, .int .i64 at_, .int .i64 row, .string s]) w := by kernel_rfl
theorem run_build_line (at_ row : Nat) (w : World) : (Instr.build 96 #[(0, .int .i64 2), (1, .int .i64 at_), (2, .int .i64 row)]).run Tryz.prog w = .ok (.agg #[.int .i64 2, .int .i64 at_, .int .i64 row, .string ⟨#[]⟩]) w := by kernel_rfl
theorem wpList_build_word (hgd : o.guard = none) (k y z s : Operand) (ho : o.op = .build 96 #[(0, k), (1, y), (2, z), (3, s)]) (t : Tk) (hw : t.word = true) (hk : a.eval k = .int .i64 1) (hy : a.eval y = .int .i64 t.at_) (hz : a.eval z = .int .i64 t.row) (hs : a.eval s = .string (mkS t.text))
    (h : wpList Tryz.prog ops Q rest (a.put o.dst (.agg (tkv t))) w) : wpList Tryz.prog ops Q (o :: rest) a w :=
  wpList_plain hgd fun _ hK => by
    have hrun := run_build_word t.at_ t.row (mkS t.text) w
    have e : (#[.int .i64 1, .int .i64 t.at_, .int .i64 t.row, .string (mkS t.text)] : Array Value) = tkv t := by unfold tkv Tk.kind; rw [hw]; rfl
    rw [e] at hrun
    unfold Oper.wp execOp
    simp only [ho, Sem.run_bind, Sem.run_pure, Result.andThen_ok, List.map_toArray, List.map_cons, List.map_nil, hk, hy, hz, hs, hrun]
    exact hK _ _ h
theorem wpList_wantd {P : Program} {ops : Array Oper} {rest : List Oper} {o : Oper} {a : Act} {w : World} {Q : Exit → Act → World → Prop} (hw : Region.wanted o (yielded ops a.tmps) = true) (h : o.wp P a w (wpList P ops Q rest) Q) : wpList P ops Q (o :: rest) a w := by
  unfold wpList
  rw [if_pos hw]
  exact .inl h
theorem wpList_build_line (hgd : o.guard = none) (k y z : Operand) (ho : o.op = .build 96 #[(0, k), (1, y), (2, z)]) (t : Tk) (hw : t.word = false) (ht : t.text = []) (hk : a.eval k = .int .i64 2) (hy : a.eval y = .int .i64 t.at_) (hz : a.eval z = .int .i64 t.row)
    (h : wpList Tryz.prog ops Q rest (a.put o.dst (.agg (tkv t))) w) : wpList Tryz.prog ops Q (o :: rest) a w :=
  wpList_plain hgd fun _ hK => by
    have hrun := run_build_line t.at_ t.row w
    have e : (#[.int .i64 2, .int .i64 t.at_, .int .i64 t.row, .string ⟨#[]⟩] : Array Value) = tkv t := by unfold tkv Tk.kind; rw [hw, ht]; rfl
    rw [e] at hrun
    unfold Oper.wp execOp
    simp only [ho, Sem.run_bind, Sem.run_pure, Result.andThen_ok, List.map_toArray, List.map_cons, List.map_nil, hk, hy, hz, hrun]
    exact hK _ _ h
end
def tkL (xs : List Tk) : List Value := xs.map fun t => .agg (tkv t)
def tkC (xs : List Tk) : List Value := (tkL xs).flatMap fun v => v.cells.toList
theorem tkC_snoc (xs : List Tk) (t : Tk) : tkC (xs ++ [t]) = tkC xs ++ (tkv t).toList := by simp [tkC, tkL, Value.cells]
theorem tkC_get {xs : List Tk} {i j : Nat} {t : Tk} (hr : xs[i]? = some t) {u : Value} (hj : (tkv t).toList[j]? = some u) : (tkC xs)[i * 4 + j]? = some u := by
  have hj3 : j < 4 := by
    have := (List.getElem?_eq_some_iff.1 hj).1
    rw [Array.length_toList, tkv_size t] at this
    exact this
  unfold tkC
  rw [Great.flat_get (s := 4) (by decide) (tkL xs) (fun v hv => by
    unfold tkL at hv
    obtain ⟨q', hq, rfl⟩ := List.mem_map.1 hv
    exact tkv_size q') (i * 4 + j), show (i * 4 + j) / 4 = i by omega, show (i * 4 + j) % 4 = j by omega]
  unfold tkL
  rw [List.getElem?_map, hr]
  simpa [Value.cells] using hj
structure TkS (w : World) (A : Option Addr) (n c : Nat) (xs : List Tk) : Prop where
  len : xs.length = n
  cap : n ≤ c
  max : c ≤ maxLen
  none_ : A = none → c = 0
  here : ∀ (i : Nat) t, xs[i]? = some t → ∃ b off, A = some ⟨b, off, none⟩ ∧ w.rangeAt b (off + i * 4) (tkv t).toList
theorem range_kept {B : Nat} {w w' : World} {b o : Nat} {cs : List Value} (h : w.rangeAt b o cs) (hb : Below B w w') (hB : w.heap.size ≤ B) : w'.rangeAt b o cs := fun j v hj => by
  have h1 := h j v hj
  have hlt : b < w.heap.size := lt_of_cell' h1
  rw [hb.cell (p := ⟨b, o + j, none⟩) (by show b < B; omega)]
  exact h1
theorem TkS.later {B : Nat} {w w' : World} {A : Option Addr} {n c : Nat} {xs : List Tk} (h : TkS w A n c xs) (hb : Below B w w') (hB : w.heap.size ≤ B) : TkS w' A n c xs :=
  ⟨h.len, h.cap, h.max, h.none_, fun i r hr => by
    obtain ⟨b, off, hA, hr2⟩ := h.here i r hr
    exact ⟨b, off, hA, range_kept hr2 hb hB⟩⟩
theorem TkS.nil (w : World) : TkS w none 0 0 [] := ⟨rfl, Nat.le_refl _, Nat.zero_le _, fun _ => rfl, fun i q h => by cases h⟩
def TkO (w : World) (base : Nat) (v : Value) (xs : List Tk) : Prop := w.ownsRow base 96 4 v xs.length (tkC xs)
theorem TkO.nil (w : World) (base : Nat) : TkO w base (.slice none 0 0) [] := World.ownsRow_nil _ _ _ _
theorem TkO.later {w w' : World} {base : Nat} {v : Value} {xs : List Tk} (h : TkO w base v xs) (hb : Below w.heap.size w w') : TkO w' base v xs := own_kept h hb
theorem TkO.lt {w : World} {base : Nat} {v : Value} {xs : List Tk} (h : TkO w base v xs) {b : Nat} (hb : v.ownBlock = some b) : base ≤ b ∧ b < w.heap.size := World.ownsRow.lt h b hb
theorem TkS.of_own {w : World} {base : Nat} {v : Value} {xs : List Tk} (h : TkO w base v xs) : ∃ A c, v = .slice A xs.length c ∧ TkS w A xs.length c xs := by
  unfold TkO at h
  rcases h.2 with ⟨rfl, h0⟩ | ⟨g, cap, cur, rfl, hlo, _, hc, hm, _, _⟩
  · obtain rfl := List.eq_nil_of_length_eq_zero h0
    exact ⟨none, 0, rfl, TkS.nil w⟩
  · refine ⟨_, _, rfl, rfl, hc, hm, (fun h => by cases h), fun i q hq => ⟨g, 0, rfl, fun j u hj => ?_⟩⟩
    have hk2 := h.cells (g := g) rfl (i * 4 + j) u (tkC_get hq hj)
    rw [add_plain, Nat.zero_add] at hk2
    rw [Nat.zero_add]
    exact hk2
theorem info_of18 {P : Program} {e : TypeId} {z : Value} {s b : Nat} (h : (P.info? e).map (fun i => (i.zero, i.size, i.bytes)) = some (some z, s, b)) : ∃ i, P.info? e = some i ∧ i.zero = some z ∧ i.size = s ∧ i.bytes = b := by
  cases hi : P.info? e with
  | none => rw [hi] at h; cases h
  | some i =>
    rw [hi] at h
    simp only [Option.map_some, Option.some.injEq, Prod.mk.injEq] at h
    exact ⟨i, rfl, h.1, h.2.1, h.2.2⟩
theorem infoTk : (Tryz.prog.info? 96).map (fun i => (i.zero, i.size, i.bytes)) = some (some (.agg #[.int .i64 0, .int .i64 0, .int .i64 0, .string ⟨#[]⟩]), 4, 40) := by kernel_rfl
theorem wpList_push_tk {ops : Array Oper} {rest : List Oper} {o : Oper} {a : Act} {w : World} {Q : Exit → Act → World → Prop} (hgd : o.guard = none) (s x : Operand)
    (ho : o.op = .call { callee := .builtin .append, args := #[s, x], argTypes := #[62, 62] }) (base : Nat) (v : Value) (xs : List Tk) (hs : a.eval s = v) (hown : TkO w base v xs)
    {g : Nat} {t : Tk} (hx : a.eval x = .slice (some ⟨g, 0, none⟩) 1 1) (hq : TkBox w g t) (hm : xs.length ≤ 1000000) (hbase : base ≤ w.heap.size)
    (h : ∀ v' w', TkO w' base v' (xs ++ [t]) → w.grownBy w' v.ownBlock → (v'.ownBlock = v.ownBlock ∨ v'.ownBlock = some w.heap.size) → wpList Tryz.prog ops Q rest (a.put o.dst v') w') : wpList Tryz.prog ops Q (o :: rest) a w := by
  obtain ⟨i, h1, h2, h3, h4⟩ := info_of18 infoTk
  refine wpList_append_own_at w hgd s x 62 ho base 96 i _ 4 40 Tryz.underlying62 h1 h2 h3 h4 (by kernel_rfl) (by decide) v xs.length _ hs hown ⟨g, 0, none⟩ 1 1 (tkv t).toList hx (by rw [Array.length_toList, tkv_size t]) (fun j u hj => by
    have := hq.range j u hj
    rw [add_plain]
    exact this) (fun u hu => by
    have := (Array.all_eq_true'.1 (tkv_one t)) u (by simpa using hu)
    exact this) (by unfold maxLen; omega) (by omega) hbase ?_
  intro v' w' o' g' _ hat
  refine h v' w' ?_ g' hat
  unfold TkO
  rw [tkC_snoc, List.length_append]
  exact o'
theorem wpList_lit_tk {ops : Array Oper} {rest : List Oper} {o : Oper} {a : Act} {w : World} {Q : Exit → Act → World → Prop} (hgd : o.guard = none) (x : Operand) (ho : o.op = .buildSlice 62 1 #[(0, x)])
    (t : Tk) (hx : a.eval x = .agg (tkv t))
    (h : wpList Tryz.prog ops Q rest (a.put o.dst (.slice (some ⟨w.heap.size, 0, none⟩) 1 1)) (w.alloc (.cells (tkv t) 96))) : wpList Tryz.prog ops Q (o :: rest) a w := by
  obtain ⟨i, h1, h2, h3, _⟩ := info_of18 infoTk
  refine wpList_buildSlice hgd 62 96 1 _ ho (tkv t) i _ Tryz.underlying62 h1 h2 (by rw [h3]; omega) (by rw [h3]; omega) ?_ h
  have hf := Great.fill_whole (s := 4) (by decide) [Value.agg (tkv t)] ((Array.range (1 * i.size)).map ((Value.agg #[.int .i64 0, .int .i64 0, .int .i64 0, .string ⟨#[]⟩]).cells[· % (Value.agg #[.int .i64 0, .int .i64 0, .int .i64 0, .string ⟨#[]⟩]).cells.size]!)) (fun v hv => by
    obtain rfl := List.mem_singleton.1 hv
    rfl) (by simp [h3])
  rw [h3] at hf ⊢
  simp only [List.zipIdx, List.map_cons, List.map_nil, List.flatMap_cons, List.flatMap_nil, List.append_nil] at hf
  simp only [List.map_toArray, List.map_cons, List.map_nil, hx]
  rw [hf]
  simp [Value.cells]
end Go.Proofs.YtoagfmonfgagbaaGreatDoor
