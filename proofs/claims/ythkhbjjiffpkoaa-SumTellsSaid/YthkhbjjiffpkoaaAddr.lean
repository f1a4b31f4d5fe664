/-
  An api.Addr as a value, and in a box. No conditions.
-/
import Derived.Test.YthkhbjjiffpkoaaPut
import Derived.Deep.MidRow
import Derived.Deep.WholeRow
import Derived.Laws.CopyOwn
import Derived.Deep.RegionHeld3
import Derived.RegionTactic
import Derived.Deep.RegionWith
import Derived.IntWalk
import Derived.BigQuiet
import Derived.Deep.QuietTactic
namespace Go.Proofs.Ythkhbjjiffpkoaa
open Go.RowKit

/-- The cells of an address: its version, its sixteen bytes. -/
def adv (v6 : Bool) (bs : List UInt8) : Array Value := (Value.bool v6 :: bv bs).toArray
theorem adv_size (v6 : Bool) {bs : List UInt8} (h : bs.length = 16) : (adv v6 bs).size = 17 := by simp [adv, bv_length, h]
/-- A block that holds an address. -/
def AdBox (w : World) (g : Nat) (v6 : Bool) (bs : List UInt8) : Prop := w.heap[g]? = some (.cells (adv v6 bs) 24 (0, 0)) ∧ bs.length = 16
theorem AdBox.later {w w' : World} {B g : Nat} {v6 : Bool} {bs : List UInt8} (h : AdBox w g v6 bs) (hb : Below B w w') (hB : w.heap.size ≤ B) : AdBox w' g v6 bs := by
  have hlt : g < w.heap.size := (Array.getElem?_eq_some_iff.1 h.1).1
  exact ⟨(hb.block g (by omega)).trans h.1, h.2⟩
theorem AdBox.lt {w : World} {g : Nat} {v6 : Bool} {bs : List UInt8} (h : AdBox w g v6 bs) : g < w.heap.size := (Array.getElem?_eq_some_iff.1 h.1).1
theorem AdBox.new (w : World) (v6 : Bool) {bs : List UInt8} (h : bs.length = 16) : AdBox (w.alloc (.cells (adv v6 bs) 24)) w.heap.size v6 bs := ⟨heap_alloc_last w _, h⟩
theorem AdBox.v6_cell {w : World} {g : Nat} {v6 : Bool} {bs : List UInt8} (h : AdBox w g v6 bs) : w.cell? ⟨g, 0, none⟩ = some (.bool v6) := by
  rw [cell_of_row w g 0 _ _ _ h.1]; rfl
theorem AdBox.bytes {w : World} {g : Nat} {v6 : Bool} {bs : List UInt8} (h : AdBox w g v6 bs) : Bs w (some ⟨g, 1, none⟩) 16 16 bs := by
  refine ⟨h.2, Nat.le_refl _, by unfold maxLen; omega, (fun h => by cases h), fun _ => ⟨g, 1, rfl, fun i x hx => ?_⟩⟩
  rw [cell_of_row w g (1 + i) _ _ _ h.1]
  simp only [adv, Nat.add_comm 1 i, List.getElem?_toArray, List.getElem?_cons_succ]
  unfold bv
  rw [List.getElem?_map, hx]; rfl
theorem AdBox.bytes4 {w : World} {g : Nat} {v6 : Bool} {bs : List UInt8} (h : AdBox w g v6 bs) : Bs w (some ⟨g, 1, none⟩) 4 16 (bs.take 4) := by
  have := h.bytes.cut (i := 0) (k := 4) (by omega) (A' := some ⟨g, 1, none⟩) (fun _ => by simp [add_plain]) (by simp)
  simpa using this
theorem AdBox.load {w : World} {g : Nat} {v6 : Bool} {bs : List UInt8} (h : AdBox w g v6 bs) : (Instr.loadAt 24 (.pointer (some ⟨g, 0, none⟩))).run Try.prog w = .ok (.agg (adv v6 bs)) w := by
  simp only [Instr.loadAt, Instr.sureAddr, Sem.run_bind, Sem.run_pure, Result.andThen_ok, run_loadVar_row w g _ 24 (adv v6 bs) (0, 0) _ h.1 Try.underlying24 rfl (by rw [adv_size v6 h.2]; kernel_rfl)]

theorem adv_set (v6 : Bool) (bs : List UInt8) (i : Nat) (x : UInt8) : (adv v6 bs).setIfInBounds (1 + i) (.int .u8 x.toNat) = adv v6 (bs.set i x) := by
  simp [adv, bv, Nat.add_comm 1 i, List.map_set]
theorem adv_set0 (v6 v : Bool) (bs : List UInt8) : (adv v6 bs).setIfInBounds 0 (.bool v) = adv v bs := by simp [adv]
theorem adv_one (v6 : Bool) (bs : List UInt8) : (adv v6 bs).all (·.oneCell') = true :=
  Array.all_eq_true_iff_forall_mem.2 fun v hv => by
    simp only [adv, List.mem_toArray, List.mem_cons] at hv
    rcases hv with rfl | hv
    · rfl
    · exact bv_one bs v hv
/-- A byte stored, the version stored. -/
theorem AdBox.put {w : World} {g : Nat} {v6 : Bool} {bs : List UInt8} (h : AdBox w g v6 bs) (i : Nat) (x : UInt8) : AdBox (w.setCell ⟨g, 1 + i, none⟩ (.int .u8 x.toNat)) g v6 (bs.set i x) := by
  rw [setCell_eq_setRow w g (1 + i) _ _ _ _ h.1, adv_set]
  exact ⟨setRow_heap w g _ _ _ _ h.1, by rw [List.length_set]; exact h.2⟩
theorem AdBox.put0 {w : World} {g : Nat} {v6 : Bool} {bs : List UInt8} (h : AdBox w g v6 bs) (v : Bool) : AdBox (w.setCell ⟨g, 0, none⟩ (.bool v)) g v bs := by
  rw [setCell_eq_setRow w g 0 _ _ _ _ h.1, adv_set0]
  exact ⟨setRow_heap w g _ _ _ _ h.1, h.2⟩
theorem AdBox.far {w : World} {g : Nat} {v6 : Bool} {bs : List UInt8} (h : AdBox w g v6 bs) {p : Addr} (hp : g ≠ p.block) (v : Value) : AdBox (w.setCell p v) g v6 bs := ⟨(Below.heap_setCell w p v g hp).trans h.1, h.2⟩
theorem AdBox.frozen {w : World} {g : Nat} {v6 : Bool} {bs : List UInt8} (h : AdBox w g v6 bs) (i : Nat) : w.frozen? ⟨g, i, none⟩ = false := by simp [World.frozen?, h.1]
theorem AdBox.there {w : World} {g : Nat} {v6 : Bool} {bs : List UInt8} (h : AdBox w g v6 bs) (i : Nat) (hi : i < 16) : ∃ x : UInt8, bs[i]? = some x ∧ w.cell? ⟨g, 1 + i, none⟩ = some (.int .u8 x.toNat) := by
  have hl := h.2
  refine ⟨bs[i]'(by omega), List.getElem?_eq_getElem (by omega), ?_⟩
  obtain ⟨b, off, e, hc⟩ := h.bytes.get hi
  cases e
  exact hc
theorem ad_zero : (Try.prog.info? 24).map (·.size) = some 17 := by kernel_rfl
theorem ad_size (v6 : Bool) {bs : List UInt8} (h : bs.length = 16) : (Try.prog.info? 24).map (·.size) = some (adv v6 bs).size := by rw [adv_size v6 h]; exact ad_zero
theorem AdBox.range {w : World} {g : Nat} {v6 : Bool} {bs : List UInt8} (h : AdBox w g v6 bs) : w.rangeAt g 0 (adv v6 bs).toList := fun j v hj => by
  rw [cell_of_row w g (0 + j) _ _ _ h.1, Nat.zero_add, ← Array.getElem?_toList]; exact hj
/-- At a list of operations: the load of an address out of its box. -/
theorem wpList_load_ad {w : World} {ops : Array Oper} {rest : List Oper} {o : Oper} {a : Act} {Q : Exit → Act → World → Prop} (hgd : o.guard = none) (x : Operand) (ho : o.op = .load 24 x) {g : Nat} {v6 : Bool} {bs : List UInt8}
    (hx : a.eval x = .pointer (some ⟨g, 0, none⟩)) (hA : AdBox w g v6 bs) (h : wpList Try.prog ops Q rest (a.put o.dst (.agg (adv v6 bs))) w) : wpList Try.prog ops Q (o :: rest) a w :=
  wpList_load_row hgd 24 x ho g hx 24 (adv v6 bs) (0, 0) _ hA.1 Try.underlying24 rfl (by rw [adv_size v6 hA.2]; kernel_rfl) h
/-- An address's own variable is made. -/
theorem wp_alloc_ad {o : Oper} {a : Act} {w : World} {K : Act → World → Prop} {Q : Exit → Act → World → Prop} (ho : o.op = .alloc 24)
    (h : ∀ w', AdBox w' w.heap.size false (List.replicate 16 0) → Below w.heap.size w w' → w.heap.size < w'.heap.size → K (a.put o.dst (.pointer (some ⟨w.heap.size, 0, none⟩))) w') : o.wp Try.prog a w K Q := by
  have hz : adv false (List.replicate 16 0) = #[Value.bool false, Value.int IntKind.u8 0, Value.int IntKind.u8 0, Value.int IntKind.u8 0, Value.int IntKind.u8 0, Value.int IntKind.u8 0, Value.int IntKind.u8 0, Value.int IntKind.u8 0, Value.int IntKind.u8 0, Value.int IntKind.u8 0, Value.int IntKind.u8 0, Value.int IntKind.u8 0, Value.int IntKind.u8 0, Value.int IntKind.u8 0, Value.int IntKind.u8 0, Value.int IntKind.u8 0, Value.int IntKind.u8 0] := rfl
  have h1 := h (w.alloc (.cells (adv false (List.replicate 16 0)) 24)) (AdBox.new w false rfl) ((Below.refl _ w).alloc (Nat.le_refl _) _) (by simp)
  rw [hz] at h1
  obtain ⟨dst, op, ty, pos, after, guard⟩ := o
  simp only at ho
  subst ho
  go_simp
  exact h1
/-- An address stored whole into a variable. -/
theorem wp_store_ad {o : Oper} {a : Act} {w : World} {K : Act → World → Prop} {Q : Exit → Act → World → Prop} (x y : Operand) (ho : o.op = .store 24 x y) {g : Nat} {v6 v0 : Bool} {bs b0 : List UInt8}
    (hx : a.eval x = .pointer (some ⟨g, 0, none⟩)) (hy : a.eval y = .agg (adv v6 bs)) (hl : bs.length = 16) (hA : AdBox w g v0 b0)
    (h : ∀ w', AdBox w' g v6 bs → (∀ g' v' b', g' ≠ g → AdBox w g' v' b' → AdBox w' g' v' b') → (∀ B w0, B ≤ g → Below B w0 w → Below B w0 w') → K (a.put o.dst undef) w') : o.wp Try.prog a w K Q :=
  wp_store_row 24 x y ho g (adv v6 bs) hx hy 24 _ hA.1 (ad_size v6 hl) (by rw [adv_size v0 hA.2, adv_size v6 hl]) (adv_one v6 bs)
    (h _ ⟨setRow_heap w g _ _ _ _ hA.1, hl⟩ (fun g' v' b' hg h' => ⟨(setRow_other w g g' _ hg).trans h'.1, h'.2⟩) (fun B w0 hB hb => below_setRow hb hB _))
/-- Some parts, their headers just laid. -/
theorem pieces_new {w : World} (ps : List Piece) (h : ∀ p ∈ ps, Bs w p.A p.n p.c p.l) (cs : Array Value) (hcs : cs.toList = ps.map Piece.v) (U : TypeId) : Pieces (w.alloc (.cells cs U)) w.heap.size ps := by
  have hb1 : Below w.heap.size w (w.alloc (.cells cs U)) := (Below.refl _ _).alloc (Nat.le_refl _) _
  intro i p hp
  refine ⟨?_, (h p (List.mem_of_getElem? hp)).later hb1 (Nat.le_refl _)⟩
  rw [World.cell?_alloc_at _ _ _ _ rfl, ← Array.getElem?_toList, hcs, List.getElem?_map, hp]
  rfl

theorem putn_wrap32 (n : Int) : putn (n % 4294967296) 4 = putn n 4 := by
  have h : ∀ k, k < 4 → n % 4294967296 / 2 ^ (8 * k) % 256 = n / 2 ^ (8 * k) % 256 := by
    intro k hk
    match k, hk with
    | 0, _ => simp
    | 1, _ => simp; omega
    | 2, _ => simp; omega
    | 3, _ => simp; omega
  simp only [putn, h 0 (by omega), h 1 (by omega), h 2 (by omega), h 3 (by omega)]
theorem wrap_u32' (n : Int) : IntKind.u32.wrap n = n % 4294967296 := rfl
/-- What is thought ahead of some bytes. -/
def aheadL (v6 : Bool) (a b : List UInt8) (proto : Int) (n : Nat) : List UInt8 :=
  if v6 then a ++ b ++ putn n 4 ++ [0, 0, 0, UInt8.ofNat (proto % 256).toNat] else a.take 4 ++ b.take 4 ++ [0, UInt8.ofNat (proto % 256).toNat] ++ putn n 2

set_option maxRecDepth 100000 in
set_option maxHeartbeats 1000000 in
theorem ahead_any (v1 v2 : Bool) (a b : List UInt8) (ha : a.length = 16) (hb : b.length = 16) (proto : Int) (n : Nat) (w : World) :
    Calls Try.prog 16 #[.agg (adv v1 a), .agg (adv v2 b), .int .i64 proto, .int .i64 n] w fun e w' =>
      ∃ v', e = .returned v' ∧ w'.ownsRow w.heap.size 5 1 v' (aheadL v1 a b proto n).length (bv (aheadL v1 a b proto n)) ∧ Below w.heap.size w w' := by
  have A1 := Lib.hid ((AdBox.new w v1 ha).later ((Below.refl _ _).alloc (Nat.le_refl _) (.cells (adv v2 b) 24)) (Nat.le_refl _))
  have A2 := Lib.hid (AdBox.new (w.alloc (.cells (adv v1 a) 24)) v2 hb)
  have B2 := Lib.hid (((Below.refl _ w).alloc (Nat.le_refl _) (.cells (adv v1 a) 24)).alloc (by simp) (.cells (adv v2 b) 24))
  have c1 := A1.out.v6_cell
  cases v1
  · go_enter Try.func16, Try.ntmps16
    go_wp2_with fail
    generalize hW : (w.alloc (Obj.cells (adv false a) 24)).alloc (Obj.cells (adv v2 b) 24) = W at A1 A2 B2 c1 ⊢
    rw [World.size_alloc] at A2
    have hWd : Below W.heap.size W (W.alloc (.cells #[.int .u8 0, .int .u8 (proto % 256)] 5)) := (Below.refl _ _).alloc (Nat.le_refl _) _
    have hl := Bs.lit W [0, UInt8.ofNat (proto % 256).toNat] 2 rfl (by unfold maxLen; omega) #[.int .u8 0, .int .u8 (proto % 256)] (by simp [bv]; omega) 5
    have hp := pieces_new (w := W.alloc (.cells #[.int .u8 0, .int .u8 (proto % 256)] 5)) [⟨some ⟨w.heap.size, 1, none⟩, 4, 16, a.take 4⟩, ⟨some ⟨w.heap.size + 1, 1, none⟩, 4, 16, b.take 4⟩, ⟨some ⟨W.heap.size, 0, none⟩, 2, 2, [0, UInt8.ofNat (proto % 256).toNat]⟩] (by simp; exact ⟨A1.out.bytes4.later hWd (Nat.le_refl _), A2.out.bytes4.later hWd (Nat.le_refl _), hl⟩) #[.slice (some ⟨w.heap.size, 1, none⟩) 4 16, .slice (some ⟨w.heap.size + 1, 1, none⟩) 4 16, .slice (some ⟨W.heap.size, 0, none⟩) 2 2] rfl 25
    rw [World.size_alloc] at hp
    have hc := concat_any (W.heap.size + 1) 3 3 _ _ rfl (by omega) (hp.later (Below.refl _ _).drew (Nat.le_refl _)) (by simp [total])
    simp only [total, flat, List.map_cons, List.map_nil, List.sum_cons, List.sum_nil, List.flatMap_cons, List.flatMap_nil, List.append_nil, Nat.reduceAdd, World.size_drew, World.size_alloc] at hc
    have HC := Lib.hid hc
    clear hW hp hc hl hWd
    go_region_with (first
      | (go_at_call 21; refine HC.out.mono ?_; rintro e w1 ⟨v1, rfl, o1, b1⟩; obtain ⟨A', c', rfl, hB⟩ := Bs.of_own o1; have H1 := Lib.hid (And.intro hB b1); clear o1 b1 hB)
      | (go_at_call 22; refine (put16_any H1.out.1 _ (by omega)).mono ?_; rintro e w2 ⟨v2', rfl, o2, b2⟩; have H2 := Lib.hid (And.intro o2 b2); clear o2 b2))
    have b3 : Below w.heap.size w w2 := by
      have hb1 : Below w.heap.size w w1 := ((B2.out.alloc B2.out.size _).alloc (by simp; have := B2.out.size; omega) _).drew.trans (H1.out.2.mono (by have := B2.out.size; omega))
      exact hb1.trans (H2.out.2.mono hb1.size)
    have o3 := owns_base (base' := w.heap.size) H2.out.1 (Nat.le_trans B2.out.size (Nat.le_trans (by simp; omega) H1.out.2.size))
    have H3 := Lib.hid (And.intro o3 b3)
    clear o3 b3
    go_wp2_with fail
    go_ret
    exact ⟨v2', rfl, owns_n (n := 12) (by simp [aheadL, putn_length, ha, hb]) (by simpa [aheadL] using H3.out.1), H3.out.2⟩
  · go_enter Try.func16, Try.ntmps16
    go_wp2_with fail
    generalize hW : (w.alloc (Obj.cells (adv true a) 24)).alloc (Obj.cells (adv v2 b) 24) = W at A1 A2 B2 c1 ⊢
    rw [World.size_alloc] at A2
    have hp := pieces_new (w := W) [⟨some ⟨w.heap.size, 1, none⟩, 16, 16, a⟩, ⟨some ⟨w.heap.size + 1, 1, none⟩, 16, 16, b⟩] (by simp; exact ⟨A1.out.bytes, A2.out.bytes⟩) #[.slice (some ⟨w.heap.size, 1, none⟩) 16 16, .slice (some ⟨w.heap.size + 1, 1, none⟩) 16 16] rfl 25
    have hc := concat_any W.heap.size 2 2 _ _ rfl (by omega) (hp.later (Below.refl _ _).drew (Nat.le_refl _)) (by simp [total])
    simp only [total, flat, List.map_cons, List.map_nil, List.sum_cons, List.sum_nil, List.flatMap_cons, List.flatMap_nil, List.append_nil, Nat.reduceAdd, World.size_drew, World.size_alloc] at hc
    have HC := Lib.hid hc
    have HV := Lib.hid (show 0 ≤ IntKind.u32.wrap (n : Int) ∧ IntKind.u32.wrap (n : Int) < 4294967296 by rw [wrap_u32']; omega)
    clear hW hp hc
    go_region_with (first
      | (go_at_call 21; refine HC.out.mono ?_; rintro e w1 ⟨v1, rfl, o1, b1⟩; obtain ⟨A', c', rfl, hB⟩ := Bs.of_own o1; have H1 := Lib.hid (And.intro hB b1); clear o1 b1 hB)
      | (go_at_call 20; refine (put32_any H1.out.1 _ HV.out.1 HV.out.2 (by omega)).mono ?_; rintro e w2 ⟨v2', rfl, o2, b2⟩; have H2 := Lib.hid (And.intro o2 b2); clear o2 b2))
    have o3 : (w2.alloc (.cells #[.int .u8 0, .int .u8 0, .int .u8 0, .int .u8 (proto % 256)] 5)).ownsRow w.heap.size 5 1 v2' 36 (bv (a ++ b ++ putn (n : Int) 4)) := by
      have h := own_kept H2.out.1 ((Below.refl w2.heap.size w2).alloc (Nat.le_refl _) (.cells #[.int .u8 0, .int .u8 0, .int .u8 0, .int .u8 (proto % 256)] 5))
      rw [wrap_u32', putn_wrap32] at h
      exact owns_base h (Nat.le_trans B2.out.size (Nat.le_trans (by simp) H1.out.2.size))
    have b3 : Below w.heap.size w (w2.alloc (.cells #[.int .u8 0, .int .u8 0, .int .u8 0, .int .u8 (proto % 256)] 5)) := by
      have hb1 : Below w.heap.size w w1 := (B2.out.alloc B2.out.size _).drew.trans (H1.out.2.mono (by have := B2.out.size; omega))
      exact (hb1.trans (H2.out.2.mono hb1.size)).alloc (hb1.trans (H2.out.2.mono hb1.size)).size _
    have H3 := Lib.hid (And.intro o3 b3)
    clear o3 b3
    go_wp2_with (at_builtin; refine wpList_append_bs rfl (.tmp 21) (.tmp 24) 25 rfl w.heap.size 5 info5 Try.underlying25 _ 36 _ rfl H3.out.1 _ 4 4 [0, 0, 0, UInt8.ofNat (proto % 256).toNat] rfl (Bs.lit w2 _ 4 rfl (by unfold maxLen; omega) _ (by simp [bv]; omega) _) (by omega) H3.out.2.size ?_; intro v4 w4 o4 g4 _ _; have H4 := Lib.hid (And.intro o4 (H3.out.2.grown g4 H3.out.2.size (fun q hq => (H3.out.1.lt q hq).1))); clear o4 g4)
    go_ret
    exact ⟨v4, rfl, owns_n (n := 40) (by simp [aheadL, putn_length, ha, hb]) (by simpa [aheadL] using H4.out.1), H4.out.2⟩
end Go.Proofs.Ythkhbjjiffpkoaa
