/-
  Package addr's first: so many bits of sixteen bytes. No conditions.
  A box that tells an error (stockadehelp.Fail): made, stored into, loaded; handed back beside a value. No conditions.
  stockaderef01.addr: the address there, of a version. Conditions: those of the slice, and that its bytes are there.
-/
import Derived.Test.YtbikifaadpijnaaGreatDoorZ09
import Derived.Test.YtbikifaadpijnaaGreatDoorZ06
import Derived.Test.YtbikifaadpijnaaGreatDoorZ10
import Derived.BigRegion
import Derived.RegionTactic
import Derived.Laws.BitsAllLaws
import Derived.Laws.BitsLemmas
namespace Go.Proofs.YtbikifaadpijnaaGreatDoor
open Go.RowKit
set_option maxRecDepth 100000

/-- The first so many bits of a byte are kept. -/
def mk8 (k : Nat) : UInt8 := UInt8.ofNat (255 * 2 ^ (8 - k))
def firstv (bs : List UInt8) (n : Nat) : List UInt8 := bs.mapIdx fun i b => b &&& mk8 (min (n - 8 * i) 8)
theorem firstv_len (bs : List UInt8) (n : Nat) : (firstv bs n).length = bs.length := by simp [firstv]
def firstz (bs : List UInt8) (n j : Nat) : List UInt8 := (firstv bs n).take j ++ bs.drop j
theorem firstz_set {bs : List UInt8} {n j : Nat} {b : UInt8} (hb : bs[j]? = some b) : (firstz bs n j).set j (b &&& mk8 (min (n - 8 * j) 8)) = firstz bs n (j + 1) := by
  have hlt := (List.getElem?_eq_some_iff.1 hb).1
  have h1 : (firstv bs n)[j]? = some (b &&& mk8 (min (n - 8 * j) 8)) := by simp [firstv, hb]
  have h2 : ((firstv bs n).take j).length = j := by rw [List.length_take, firstv_len]; omega
  have h3 : bs.drop j = b :: bs.drop (j + 1) := by rw [List.drop_eq_getElem_cons hlt]; congr 1; exact Option.some.inj ((List.getElem?_eq_getElem hlt).symm.trans hb)
  unfold firstz
  rw [List.set_append_right _ _ (by omega), h2, Nat.sub_self, h3, List.take_add_one, h1]
  simp
theorem firstz_get {bs : List UInt8} {n j : Nat} {b : UInt8} (hb : bs[j]? = some b) : (firstz bs n j)[j]? = some b := by
  have hlt := (List.getElem?_eq_some_iff.1 hb).1
  have h2 : ((firstv bs n).take j).length = j := by rw [List.length_take, firstv_len]; omega
  unfold firstz
  rw [List.getElem?_append_right (by omega), h2, Nat.sub_self, List.getElem?_drop]
  exact hb
theorem u8_and' (a b : UInt8) : bits .and .u8 (a.toNat : Int) (b.toNat : Int) = (((a &&& b).toNat : Nat) : Int) := by
  have ha : a.toNat < 256 := a.toNat_lt
  have hb : b.toNat < 256 := b.toNat_lt
  rw [UInt8.toNat_and]
  exact Go.u8_and_nat _ _ ha hb

/-- A round of its loop. -/
theorem first_step (bs : List UInt8) {n j : Nat} {b : UInt8} (hb : bs[j]? = some b) {w wr : World} (hr : Row wr w.heap.size 53 (bv (firstz bs n j))) (hw : Below w.heap.size w wr) (c : Int) (hc : c = ((mk8 (min (n - 8 * j) 8)).toNat : Int)) :
    Row (wr.setCell ⟨w.heap.size, j, none⟩ (.int .u8 (bits .and .u8 (b.toNat : Int) c))).drew w.heap.size 53 (bv (firstz bs n (j + 1))) ∧ Below w.heap.size w (wr.setCell ⟨w.heap.size, j, none⟩ (.int .u8 (bits .and .u8 (b.toNat : Int) c))).drew := by
  subst hc
  rw [u8_and']
  have h2 := hr.put j (.int .u8 ((b &&& mk8 (min (n - 8 * j) 8)).toNat : Int))
  rw [bv_set, firstz_set hb] at h2
  exact ⟨h2, (hw.setCell (Nat.le_refl _) _).drew⟩

set_option maxHeartbeats 4000000 in
theorem first_any (bs : List UInt8) (hl : bs.length = 16) (n : Nat) (hn : n ≤ 128) (w : World) : Calls Tryz.prog 116 #[.agg (bv bs).toArray, .int .i64 n] w fun e w' =>
    e = .returned (.agg (bv (firstv bs n)).toArray) ∧ Below w.heap.size w w' := by
  have hsz : (Tryz.prog.info? 53).map (·.size) = some 16 := by kernel_rfl
  have r0 := (Row.new' w 53 (cs := (bv bs).toArray) rfl).later ((Below.refl _ _).alloc (Nat.le_refl _) (.cells (bv (List.replicate 16 0)).toArray 53)) (Nat.le_refl _)
  have r1 := Row.new' (w.alloc (.cells (bv bs).toArray 53)) 53 (cs := (bv (List.replicate 16 0)).toArray) rfl
  have b0 : Below w.heap.size w ((w.alloc (.cells (bv bs).toArray 53)).alloc (.cells (bv (List.replicate 16 0)).toArray 53)) := ((Below.refl _ _).alloc (Nat.le_refl _) _).alloc (by simp) _
  have hz : (bv (List.replicate 16 0)).toArray = #[Value.int IntKind.u8 0, Value.int IntKind.u8 0, Value.int IntKind.u8 0, Value.int IntKind.u8 0, Value.int IntKind.u8 0, Value.int IntKind.u8 0, Value.int IntKind.u8 0, Value.int IntKind.u8 0, Value.int IntKind.u8 0, Value.int IntKind.u8 0, Value.int IntKind.u8 0, Value.int IntKind.u8 0, Value.int IntKind.u8 0, Value.int IntKind.u8 0, Value.int IntKind.u8 0, Value.int IntKind.u8 0] := rfl
  rw [World.size_alloc] at r1
  rw [hz] at r0 b0
  have r1 : Row ((w.alloc (.cells (bv bs).toArray 53)).alloc (.cells #[Value.int IntKind.u8 0, Value.int IntKind.u8 0, Value.int IntKind.u8 0, Value.int IntKind.u8 0, Value.int IntKind.u8 0, Value.int IntKind.u8 0, Value.int IntKind.u8 0, Value.int IntKind.u8 0, Value.int IntKind.u8 0, Value.int IntKind.u8 0, Value.int IntKind.u8 0, Value.int IntKind.u8 0, Value.int IntKind.u8 0, Value.int IntKind.u8 0, Value.int IntKind.u8 0, Value.int IntKind.u8 0] 53)) (w.heap.size + 1) 53 (bv (List.replicate 16 0)) := r1
  have HL := Lib.hid hl
  have HI := Lib.hid (And.intro hsz (And.intro r0 (And.intro r1 b0)))
  clear hl hz hsz r0 r1 b0
  go_enter Tryz.func116, Tryz.ntmps116
  go_wp2_with fail
  generalize hW : ((w.alloc (.cells (bv bs).toArray 53)).alloc _) = W at HI ⊢
  clear hW
  go_loopw [7] (fun i wr => ∃ j : Nat, i = .int .i64 j ∧ j ≤ 16 ∧ Hid (Row wr w.heap.size 53 (bv (firstz bs n j)) ∧ Below w.heap.size w wr ∧ Row wr (w.heap.size + 1) 53 (bv (List.replicate 16 0)))) (fun i _ => 16 - (intOf i).toNat)
  case atStart => exact ⟨0, rfl, by omega, Lib.hid ⟨by simpa [firstz] using HI.out.2.1, HI.out.2.2.2, HI.out.2.2.1⟩⟩
  case round =>
    obtain ⟨j, rfl, hj, hh⟩ := hrel
    by_cases hlt : j < 16
    · obtain ⟨b, hb⟩ : ∃ b, bs[j]? = some b := ⟨_, List.getElem?_eq_getElem (by rw [HL.out]; exact hlt)⟩
      have hcell := hh.out.1.cell (bv_at (firstz_get (n := n) hb))
      have hfr := hh.out.1.frozen j
      obtain ⟨k, hk⟩ : ∃ k, min (n - 8 * j) 8 = k := ⟨_, rfl⟩
      have hstep := first_step bs hb hh.out.1 hh.out.2.1
      rw [hk] at hstep
      have HST := Lib.hid hstep
      have h3 : ∀ v : Int, Row (wr.setCell ⟨w.heap.size, j, none⟩ (.int .u8 v)).drew (w.heap.size + 1) 53 (bv (List.replicate 16 0)) := fun v => hh.out.2.2.far (by show w.heap.size + 1 ≠ w.heap.size; omega) _
      have H3 := Lib.hid h3
      have HB := Lib.hid hb
      clear hstep hb h3
      have hk9 : (n : Int) - 8 * (j : Int) < 0 ∨ (n : Int) - 8 * (j : Int) = 0 ∨ (n : Int) - 8 * (j : Int) = 1 ∨ (n : Int) - 8 * (j : Int) = 2 ∨ (n : Int) - 8 * (j : Int) = 3 ∨ (n : Int) - 8 * (j : Int) = 4 ∨ (n : Int) - 8 * (j : Int) = 5 ∨ (n : Int) - 8 * (j : Int) = 6 ∨ (n : Int) - 8 * (j : Int) = 7 ∨ (n : Int) - 8 * (j : Int) = 8 ∨ 8 < (n : Int) - 8 * (j : Int) := by omega
      rcases hk9 with h1 | h1 | h1 | h1 | h1 | h1 | h1 | h1 | h1 | h1 | h1
      · obtain rfl : k = 0 := by omega
        clear hk
        go_wp2_with fail
        all_goals (try (exfalso; omega))
        clear h1
        go_region
        have H4 := Lib.hid (And.intro (HST.out 0 rfl) (H3.out (bits .and .u8 (b.toNat : Int) 0)))
        go_wp2_with fail
        go_roundw
        case rel => exact ⟨j + 1, by go_num, by omega, Lib.hid ⟨H4.out.1.1, H4.out.1.2, H4.out.2⟩⟩
        case measure => simp [intOf]; omega
      · obtain rfl : k = 0 := by omega
        have H1 := Lib.hid h1
        clear hk h1
        go_wp2_with fail
        all_goals (try (exfalso; have := H1.out; omega))
        rw [H1.out]
        go_region
        have H4 := Lib.hid (And.intro (HST.out 0 rfl) (H3.out (bits .and .u8 (b.toNat : Int) 0)))
        go_wp2_with fail
        go_roundw
        case rel => exact ⟨j + 1, by go_num, by omega, Lib.hid ⟨H4.out.1.1, H4.out.1.2, H4.out.2⟩⟩
        case measure => simp [intOf]; omega
      · obtain rfl : k = 1 := by omega
        have H1 := Lib.hid h1
        clear hk h1
        go_wp2_with fail
        all_goals (try (exfalso; have := H1.out; omega))
        rw [H1.out]
        go_region
        have H4 := Lib.hid (And.intro (HST.out 128 rfl) (H3.out (bits .and .u8 (b.toNat : Int) 128)))
        go_wp2_with fail
        go_roundw
        case rel => exact ⟨j + 1, by go_num, by omega, Lib.hid ⟨H4.out.1.1, H4.out.1.2, H4.out.2⟩⟩
        case measure => simp [intOf]; omega
      · obtain rfl : k = 2 := by omega
        have H1 := Lib.hid h1
        clear hk h1
        go_wp2_with fail
        all_goals (try (exfalso; have := H1.out; omega))
        rw [H1.out]
        go_region
        have H4 := Lib.hid (And.intro (HST.out 192 rfl) (H3.out (bits .and .u8 (b.toNat : Int) 192)))
        go_wp2_with fail
        go_roundw
        case rel => exact ⟨j + 1, by go_num, by omega, Lib.hid ⟨H4.out.1.1, H4.out.1.2, H4.out.2⟩⟩
        case measure => simp [intOf]; omega
      · obtain rfl : k = 3 := by omega
        have H1 := Lib.hid h1
        clear hk h1
        go_wp2_with fail
        all_goals (try (exfalso; have := H1.out; omega))
        rw [H1.out]
        go_region
        have H4 := Lib.hid (And.intro (HST.out 224 rfl) (H3.out (bits .and .u8 (b.toNat : Int) 224)))
        go_wp2_with fail
        go_roundw
        case rel => exact ⟨j + 1, by go_num, by omega, Lib.hid ⟨H4.out.1.1, H4.out.1.2, H4.out.2⟩⟩
        case measure => simp [intOf]; omega
      · obtain rfl : k = 4 := by omega
        have H1 := Lib.hid h1
        clear hk h1
        go_wp2_with fail
        all_goals (try (exfalso; have := H1.out; omega))
        rw [H1.out]
        go_region
        have H4 := Lib.hid (And.intro (HST.out 240 rfl) (H3.out (bits .and .u8 (b.toNat : Int) 240)))
        go_wp2_with fail
        go_roundw
        case rel => exact ⟨j + 1, by go_num, by omega, Lib.hid ⟨H4.out.1.1, H4.out.1.2, H4.out.2⟩⟩
        case measure => simp [intOf]; omega
      · obtain rfl : k = 5 := by omega
        have H1 := Lib.hid h1
        clear hk h1
        go_wp2_with fail
        all_goals (try (exfalso; have := H1.out; omega))
        rw [H1.out]
        go_region
        have H4 := Lib.hid (And.intro (HST.out 248 rfl) (H3.out (bits .and .u8 (b.toNat : Int) 248)))
        go_wp2_with fail
        go_roundw
        case rel => exact ⟨j + 1, by go_num, by omega, Lib.hid ⟨H4.out.1.1, H4.out.1.2, H4.out.2⟩⟩
        case measure => simp [intOf]; omega
      · obtain rfl : k = 6 := by omega
        have H1 := Lib.hid h1
        clear hk h1
        go_wp2_with fail
        all_goals (try (exfalso; have := H1.out; omega))
        rw [H1.out]
        go_region
        have H4 := Lib.hid (And.intro (HST.out 252 rfl) (H3.out (bits .and .u8 (b.toNat : Int) 252)))
        go_wp2_with fail
        go_roundw
        case rel => exact ⟨j + 1, by go_num, by omega, Lib.hid ⟨H4.out.1.1, H4.out.1.2, H4.out.2⟩⟩
        case measure => simp [intOf]; omega
      · obtain rfl : k = 7 := by omega
        have H1 := Lib.hid h1
        clear hk h1
        go_wp2_with fail
        all_goals (try (exfalso; have := H1.out; omega))
        rw [H1.out]
        go_region
        have H4 := Lib.hid (And.intro (HST.out 254 rfl) (H3.out (bits .and .u8 (b.toNat : Int) 254)))
        go_wp2_with fail
        go_roundw
        case rel => exact ⟨j + 1, by go_num, by omega, Lib.hid ⟨H4.out.1.1, H4.out.1.2, H4.out.2⟩⟩
        case measure => simp [intOf]; omega
      · obtain rfl : k = 8 := by omega
        have H1 := Lib.hid h1
        clear hk h1
        go_wp2_with fail
        all_goals (try (exfalso; have := H1.out; omega))
        rw [H1.out]
        go_region
        have H4 := Lib.hid (And.intro (HST.out 255 rfl) (H3.out (bits .and .u8 (b.toNat : Int) 255)))
        go_wp2_with fail
        go_roundw
        case rel => exact ⟨j + 1, by go_num, by omega, Lib.hid ⟨H4.out.1.1, H4.out.1.2, H4.out.2⟩⟩
        case measure => simp [intOf]; omega
      · obtain rfl : k = 8 := by omega
        clear hk
        go_wp2_with fail
        all_goals (try (exfalso; omega))
        clear h1
        go_region
        have H4 := Lib.hid (And.intro (HST.out 255 rfl) (H3.out (bits .and .u8 (b.toNat : Int) 255)))
        go_wp2_with fail
        go_roundw
        case rel => exact ⟨j + 1, by go_num, by omega, Lib.hid ⟨H4.out.1.1, H4.out.1.2, H4.out.2⟩⟩
        case measure => simp [intOf]; omega
    · obtain rfl : j = 16 := by omega
      have hz : firstz bs n 16 = firstv bs n := by unfold firstz; rw [List.take_of_length_le (by rw [firstv_len, HL.out]; omega), List.drop_of_length_le (by rw [HL.out]; omega), List.append_nil]
      have hr := hh.out.1
      rw [hz] at hr
      have hlen : (bv (firstv bs n)).toArray.size = 16 := by simp [bv_length, firstv_len, HL.out]
      have H5 := Lib.hid (And.intro hr (And.intro hh.out.2.1 (And.intro hh.out.2.2 hlen)))
      clear hr hz hlen
      go_wp2_with (first
        | (refine wpList_load_row rfl 53 (.tmp 2) rfl w.heap.size rfl 53 (bv (firstv bs n)).toArray (0, 0) _ H5.out.1 Tryz.underlying53 rfl (by rw [H5.out.2.2.2]; exact HI.out.1) ?_)
        | (refine wpList_store_row rfl 53 (.tmp 4) (.tmp 25) rfl (w.heap.size + 1) (bv (firstv bs n)).toArray rfl rfl 53 _ H5.out.2.2.1 (by rw [H5.out.2.2.2]; exact HI.out.1) (by rw [H5.out.2.2.2]; rfl) (by simpa [Array.all_eq_true_iff_forall_mem] using bv_one (firstv bs n)) ?_))
      exact bodyPost_ret (v := .agg (bv (firstv bs n)).toArray) (results_cell_row rfl _ _ (w.heap.size + 1) 53 _ (0, 0) _ rfl (setRow_heap _ _ _ _ _ _ H5.out.2.2.1) Tryz.underlying53 rfl (by rw [H5.out.2.2.2]; exact HI.out.1)) rfl ⟨rfl, below_setRow H5.out.2.1 (by omega) _⟩
end Go.Proofs.YtbikifaadpijnaaGreatDoor

namespace Go.Proofs.YtbikifaadpijnaaGreatDoor
open Go.RowKit
set_option maxRecDepth 100000

def flv (c a : Int) (p : Bool) : Array Value := #[.int .i64 c, .int .i64 a, .bool p]
def FlBox (w : World) (g : Nat) (c a : Int) (p : Bool) : Prop := w.heap[g]? = some (.cells (flv c a p) 36 (0, 0))
theorem FlBox.lt {w : World} {g : Nat} {c a : Int} {p : Bool} (h : FlBox w g c a p) : g < w.heap.size := (Array.getElem?_eq_some_iff.1 h).1
theorem FlBox.later {w w' : World} {B g : Nat} {c a : Int} {p : Bool} (h : FlBox w g c a p) (hb : Below B w w') (hB : w.heap.size ≤ B) : FlBox w' g c a p := by
  have hlt := FlBox.lt h
  exact (hb.block g (by omega)).trans h
theorem FlBox.new (w : World) (c a : Int) (p : Bool) : FlBox (w.alloc (.cells (flv c a p) 36)) w.heap.size c a p := heap_alloc_last w _
theorem FlBox.same {w w' : World} {g : Nat} {c a : Int} {p : Bool} (h : FlBox w g c a p) (hh : w'.heap[g]? = w.heap[g]?) : FlBox w' g c a p := hh.trans h
theorem FlBox.cell {w : World} {g : Nat} {c a : Int} {p : Bool} (h : FlBox w g c a p) (j : Nat) : w.cell? ⟨g, j, none⟩ = (flv c a p)[j]? := cell_of_row w g j _ _ _ h
theorem FlBox.range {w : World} {g : Nat} {c a : Int} {p : Bool} (h : FlBox w g c a p) : w.rangeAt g 0 (flv c a p).toList := fun j v hj => by
  rw [cell_of_row w g (0 + j) _ _ _ h, Nat.zero_add, ← Array.getElem?_toList]; exact hj
theorem fl_size (c a : Int) (p : Bool) : (Tryz.prog.info? 36).map (·.size) = some (flv c a p).size := by
  show _ = some 3
  kernel_rfl
theorem fl_one (c a : Int) (p : Bool) : (flv c a p).all (·.oneCell') = true := by simp [flv, Value.oneCell']
theorem wpList_alloc_fl {ops : Array Oper} {rest : List Oper} {o : Oper} {a : Act} {w : World} {Q : Exit → Act → World → Prop} (hgd : o.guard = none) (ho : o.op = .alloc 36)
    (h : ∀ w', FlBox w' w.heap.size 0 0 false → Below w.heap.size w w' → w'.heap.size = w.heap.size + 1 → wpList Tryz.prog ops Q rest (a.put o.dst (.pointer (some ⟨w.heap.size, 0, none⟩))) w') : wpList Tryz.prog ops Q (o :: rest) a w :=
  wpList_plain hgd fun _ hK => by
    have h1 := hK _ _ (h (w.alloc (.cells (flv 0 0 false) 36)) (FlBox.new w 0 0 false) ((Below.refl _ w).alloc (Nat.le_refl _) _) (by simp))
    obtain ⟨dst, op, ty, pos, after, guard⟩ := o
    simp only at ho
    subst ho
    go_simp
    exact h1
theorem wpList_store_fl {ops : Array Oper} {rest : List Oper} {o : Oper} {a : Act} {w : World} {Q : Exit → Act → World → Prop} (hgd : o.guard = none) (x y : Operand) (ho : o.op = .store 36 x y) {g : Nat} (c i : Int) (p : Bool) {c0 i0 : Int} {p0 : Bool}
    (hx : a.eval x = .pointer (some ⟨g, 0, none⟩)) (hy : a.eval y = .agg (flv c i p)) (hA : FlBox w g c0 i0 p0)
    (h : ∀ w', FlBox w' g c i p → (∀ k, k ≠ g → w'.heap[k]? = w.heap[k]?) → w'.heap.size = w.heap.size → (∀ B w0, B ≤ g → Below B w0 w → Below B w0 w') → wpList Tryz.prog ops Q rest (a.put o.dst undef) w') : wpList Tryz.prog ops Q (o :: rest) a w :=
  wpList_store_row hgd 36 x y ho g (flv c i p) hx hy 36 _ hA (fl_size c i p) rfl (fl_one c i p)
    (h _ (setRow_heap w g _ _ _ _ hA) (fun k hk => setRow_other w g k _ hk) (size_setRow w g _) (fun _ _ hB hb => below_setRow hb hB _))
theorem results_cell_cell {fn : Func} {p u : Tmp} {ty ty2 : TypeId} (h : fn.results = #[.cell p ty, .cell u ty2]) (tmps : Array Value) (P : Program) (w : World) :
    (results fn tmps).run P w =
      ((asAddr (tmps.getD p undef)).run P w).andThen fun a w₁ => ((loadVar ty a).run P w₁).andThen fun v w₂ => ((asAddr (tmps.getD u undef)).run P w₂).andThen fun a' w₃ => ((loadVar ty2 a').run P w₃).andThen fun v' w₄ => .ok (.tuple #[v, v']) w₄ := by
  simp only [results, h]
  simp [Sem.run_bind, Result.andThen]
theorem results_tmp_cell {fn : Func} {p u : Tmp} {ty2 : TypeId} (h : fn.results = #[.tmp p, .cell u ty2]) (tmps : Array Value) (P : Program) (w : World) :
    (results fn tmps).run P w = ((asAddr (tmps.getD u undef)).run P w).andThen fun a' w₃ => ((loadVar ty2 a').run P w₃).andThen fun v' w₄ => .ok (.tuple #[tmps.getD p undef, v']) w₄ := by
  simp only [results, h]
  simp [Sem.run_bind, Result.andThen]
theorem results_tmp_fl {fn : Func} {p u : Tmp} (h : fn.results = #[.tmp p, .cell u 36]) (tmps : Array Value) {w : World} {k : Nat} {c i : Int} {b : Bool} (hu : tmps.getD u undef = .pointer (some ⟨k, 0, none⟩)) (hF : FlBox w k c i b) : (results fn tmps).run Tryz.prog w = .ok (.tuple #[tmps.getD p undef, .agg (flv c i b)]) w := by
  rw [results_tmp_cell h, hu]
  simp [asAddr, run_loadVar_row w k 36 36 (flv c i b) (0, 0) _ hF Tryz.underlying36 rfl (fl_size c i b)]
theorem wpList_load_fl {ops : Array Oper} {rest : List Oper} {o : Oper} {a : Act} {w : World} {Q : Exit → Act → World → Prop} (hgd : o.guard = none) (x : Operand) (ho : o.op = .load 36 x) {g : Nat} {c i : Int} {p : Bool} (hx : a.eval x = .pointer (some ⟨g, 0, none⟩)) (hA : FlBox w g c i p)
    (h : wpList Tryz.prog ops Q rest (a.put o.dst (.agg (flv c i p))) w) : wpList Tryz.prog ops Q (o :: rest) a w :=
  wpList_load_row hgd 36 x ho g hx 36 (flv c i p) (0, 0) _ hA Tryz.underlying36 rfl (fl_size c i p) h
theorem wp_load_flF {o : Oper} {a : Act} {w : World} {K : Act → World → Prop} {Q : Exit → Act → World → Prop} (x : Operand) (ho : o.op = .load 36 x) {g : Nat} {c i : Int} {p : Bool} (hx : a.eval x = .pointer (some ⟨g, 0, none⟩)) (hA : FlBox w g c i p)
    (h : K (a.put o.dst (.agg (flv c i p))) w) : o.wp Tryz.prog a w K Q :=
  wp_load_mid (P := Tryz.prog) 36 x ho g 0 hx (flv c i p).toList _ hA.range Tryz.underlying36 rfl (by simpa using fl_size c i p) (by simpa using h)
theorem wp_store_flF {o : Oper} {a : Act} {w : World} {K : Act → World → Prop} {Q : Exit → Act → World → Prop} (x y : Operand) (ho : o.op = .store 36 x y) {g : Nat} (c i : Int) (p : Bool) {c0 i0 : Int} {p0 : Bool}
    (hx : a.eval x = .pointer (some ⟨g, 0, none⟩)) (hy : a.eval y = .agg (flv c i p)) (hA : FlBox w g c0 i0 p0)
    (h : ∀ w', FlBox w' g c i p → (∀ k, k ≠ g → w'.heap[k]? = w.heap[k]?) → (∀ B w0, B ≤ g → Below B w0 w → Below B w0 w') → K (a.put o.dst undef) w') : o.wp Tryz.prog a w K Q :=
  wp_store_row 36 x y ho g (flv c i p) hx hy 36 _ hA (fl_size c i p) rfl (fl_one c i p)
    (h _ (setRow_heap w g _ _ _ _ hA) (fun k hk => setRow_other w g k _ hk) (fun _ _ hB hb => below_setRow hb hB _))
end Go.Proofs.YtbikifaadpijnaaGreatDoor

namespace Go.Proofs.YtbikifaadpijnaaGreatDoor
open Go.RowKit
set_option maxRecDepth 100000

/-- Sixteen bytes, filled up to a place. -/
def filled (l : List UInt8) (i j : Nat) : List UInt8 := (l.drop i).take j ++ List.replicate (16 - j) 0
theorem filled_length' {l : List UInt8} {i j : Nat} (hl : i + j ≤ l.length) (hj : j ≤ 16) : (filled l i j).length = 16 := by
  unfold filled
  rw [List.length_append, List.length_take, List.length_drop, List.length_replicate]
  omega
theorem filled_set' {l : List UInt8} {i j : Nat} {x : UInt8} (hl : i + j < l.length) (hj : j < 16) (hx : l[i + j]? = some x) : (filled l i j).set j x = filled l i (j + 1) := by
  unfold filled
  have ht : ((l.drop i).take j).length = j := by rw [List.length_take, List.length_drop]; omega
  rw [List.set_append_right _ _ (by rw [ht]; exact Nat.le_refl _), ht, Nat.sub_self, List.take_add_one, List.getElem?_drop, hx, show 16 - j = (16 - (j + 1)) + 1 by omega, List.replicate_succ]
  simp
theorem filled_length {l : List UInt8} {i j : Nat} (hl : i + 16 ≤ l.length) (hj : j ≤ 16) : (filled l i j).length = 16 := by
  unfold filled
  rw [List.length_append, List.length_take, List.length_drop, List.length_replicate]
  omega
theorem filled_set {l : List UInt8} {i j : Nat} {x : UInt8} (hl : i + 16 ≤ l.length) (hj : j < 16) (hx : l[i + j]? = some x) : (filled l i j).set j x = filled l i (j + 1) := by
  unfold filled
  have ht : ((l.drop i).take j).length = j := by rw [List.length_take, List.length_drop]; omega
  rw [List.set_append_right _ _ (by rw [ht]; exact Nat.le_refl _), ht, Nat.sub_self, List.take_add_one, List.getElem?_drop, hx, show 16 - j = (16 - (j + 1)) + 1 by omega, List.replicate_succ]
  simp
theorem filled_all (l : List UInt8) (i : Nat) : filled l i 16 = (l.drop i).take 16 := by simp [filled]

end Go.Proofs.YtbikifaadpijnaaGreatDoor
