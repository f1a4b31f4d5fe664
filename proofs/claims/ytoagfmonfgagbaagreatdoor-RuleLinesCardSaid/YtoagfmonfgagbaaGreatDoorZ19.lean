/-
  
-/
import Derived.Test.YtoagfmonfgagbaaGreatDoorZ18
import Derived.Stop.BytesEq
import Derived.Test.YtoagfmonfgagbaaGreatDoorZ17
import Derived.Laws.CopyOwn
import Derived.Laws.StructEq
namespace Go.Proofs.YtoagfmonfgagbaaGreatDoor
open Go.RowKit
set_option maxRecDepth 100000
def wid (v6 : Bool) : Nat := if v6 then 128 else 32
theorem wid_le (v6 : Bool) : wid v6 ≤ 128 := by cases v6 <;> decide
theorem AdBox.range1 {w : World} {g : Nat} {v6 : Bool} {bs : List UInt8} (h : AdBox w g v6 bs) : w.rangeAt g 1 (bv bs).toArray.toList := fun j v hj => by
  rw [cell_of_row w g (1 + j) _ _ _ h.1]
  simp only [adv, List.getElem?_toArray, Nat.add_comm 1 j, List.getElem?_cons_succ]
  simpa using hj
theorem arr_size {bs : List UInt8} (h : bs.length = 16) : (Tryz.prog.info? 49).map (·.size) = some (bv bs).toArray.size := by
  rw [show (bv bs).toArray.size = 16 by simp [bv_length, h]]; kernel_rfl
theorem eql_arr {xs ys : List UInt8} (hx : xs.length = 16) (hy : ys.length = 16) (w : World) : (binOp .eql 49 (.agg (bv xs).toArray) (.agg (bv ys).toArray)).run Tryz.prog w = .ok (.bool (xs == ys)) w :=
  run_eql_bytes w 49 5 16 Tryz.underlying49 Tryz.underlying5 (fun w => by kernel_rfl) xs ys hx hy
theorem width_any (v6 : Bool) (bs : List UInt8) (hl : bs.length = 16) (w : World) : Calls Tryz.prog 87 #[.agg (adv v6 bs)] w fun e w' => e = .returned (.int .i64 (wid v6)) ∧ Below w.heap.size w w' := by
  have a1 := AdBox.new w v6 hl
  have b1 : Below w.heap.size w (w.alloc (.cells (adv v6 bs) 51)) := (Below.refl _ _).alloc (Nat.le_refl _) _
  have c1 := a1.v6_cell
  have H1 := Lib.hid b1
  generalize hW : w.alloc (.cells (adv v6 bs) 51) = W at c1 H1
  clear a1 b1
  cases v6
  · go_enter Tryz.func87, Tryz.ntmps87
    go_wp2
    go_ret
    exact ⟨rfl, H1.out⟩
  · go_enter Tryz.func87, Tryz.ntmps87
    go_wp2
    go_ret
    exact ⟨rfl, H1.out⟩
def rightv (v6 : Bool) (bs : List UInt8) : Bool := bs == firstv bs (wid v6)
set_option maxHeartbeats 1000000 in
theorem Right_any (v6 : Bool) (bs : List UInt8) (hl : bs.length = 16) (w : World) : Calls Tryz.prog 70 #[.agg (adv v6 bs)] w fun e w' => e = .returned (.bool (rightv v6 bs)) ∧ Below w.heap.size w w' := by
  have A1 := Lib.hid (AdBox.new w v6 hl)
  have B1 := Lib.hid ((Below.refl w.heap.size w).alloc (Nat.le_refl _) (.cells (adv v6 bs) 51))
  have heq := eql_arr hl (firstv_len bs (wid v6) ▸ hl : (firstv bs (wid v6)).length = 16)
  have hw := wid_le v6
  go_enter Tryz.func70, Tryz.ntmps70
  go_wp2_with fail
  generalize hW : w.alloc (.cells (adv v6 bs) 51) = W at A1 B1 ⊢
  clear hW
  have hS : Below W.heap.size W W.drew := (Below.refl _ _).drew
  refine rg_begin (fun w' => Below W.heap.size W w') 9 (by kernel_rfl) rfl ?_
  refine rg_take 0 (v := ?rv1) rfl (by kernel_rfl) (by kernel_rfl) (by kernel_rfl) (fun _ _ _ h => h) (by rfl) hS (fun w2 hw2 => ?ry1) ?rr1
  case ry1 => ((try dsimp only at hw2); go_simp <;> with_reducible rfl)
  simp only [Act.put, List.setIfInBounds_toArray, List.set_cons_zero, List.set_cons_succ]
  refine rg_take 2 (v := ?rv2) rfl (by kernel_rfl) (by kernel_rfl) (by kernel_rfl) (fun _ _ _ h => h) (by rfl) hS (fun w2 hw2 => ?ry2) ?rr2
  case ry2 => ((try dsimp only at hw2); go_simp <;> with_reducible rfl)
  simp only [Act.put, List.setIfInBounds_toArray, List.set_cons_zero, List.set_cons_succ]
  refine rg_load 4 rfl (by kernel_rfl) (by kernel_rfl) (by kernel_rfl) (w.heap.size) 0 (adv v6 bs) (fun _ _ _ h => h) (by rfl) 51 (.tmp 1) rfl rfl hS (fun w2 h2 => (AdBox.later A1.out h2 (Nat.le_refl _)).range) Tryz.underlying51 rfl (ad_size v6 A1.out.2) ?_
  simp only [Act.put, List.setIfInBounds_toArray, List.set_cons_zero, List.set_cons_succ]
  refine rg_load 1 rfl (by kernel_rfl) (by kernel_rfl) (by kernel_rfl) (w.heap.size) (1) ((bv bs).toArray) (fun _ _ _ h => h) (by rfl) 49 (.tmp 3) rfl rfl hS (fun w2 h2 => (A1.out.later h2 (Nat.le_refl _)).range1) Tryz.underlying49 rfl (arr_size hl) ?_
  simp only [Act.put, List.setIfInBounds_toArray, List.set_cons_zero, List.set_cons_succ]
  refine rg_load 3 rfl (by kernel_rfl) (by kernel_rfl) (by kernel_rfl) (w.heap.size) (1) ((bv bs).toArray) (fun _ _ _ h => h) (by rfl) 49 (.tmp 5) rfl rfl hS (fun w2 h2 => (A1.out.later h2 (Nat.le_refl _)).range1) Tryz.underlying49 rfl (arr_size hl) ?_
  simp only [Act.put, List.setIfInBounds_toArray, List.set_cons_zero, List.set_cons_succ]
  refine rg_step 5 rfl (by kernel_rfl) (by rfl) (fun K hK => ?_)
  go_simp
  refine (width_any v6 bs hl _).mono ?_
  rintro e w1 ⟨rfl, b1⟩
  replace hS := hS.trans (b1.mono hS.size)
  clear b1
  refine hK.out _ _ hS ?_
  clear hK K
  try simp only [Act.put, List.setIfInBounds_toArray, List.set_cons_zero, List.set_cons_succ]
  refine rg_step 6 rfl (by kernel_rfl) (by rfl) (fun K hK => ?_)
  go_simp
  refine (first_any bs hl (wid v6) hw _).mono ?_
  rintro e w2 ⟨rfl, b2⟩
  replace hS := hS.trans (b2.mono hS.size)
  clear b2
  refine hK.out _ _ hS ?_
  clear hK K
  try simp only [Act.put, List.setIfInBounds_toArray, List.set_cons_zero, List.set_cons_succ]
  refine rg_take 7 (v := ?rv3) rfl (by kernel_rfl) (by kernel_rfl) (by kernel_rfl) (fun _ _ _ h => h) (by rfl) hS (fun w2 hw2 => ?ry3) ?rr3
  case ry3 => ((try dsimp only at hw2); go_simp <;> with_reducible rfl)
  simp only [Act.put, List.setIfInBounds_toArray, List.set_cons_zero, List.set_cons_succ]
  refine rg_take 8 (v := ?rv4) rfl (by kernel_rfl) (by kernel_rfl) (by kernel_rfl) (fun _ _ _ h => h) (by rfl) hS (fun w2 hw2 => ?ry4) ?rr4
  case ry4 => ((try dsimp only at hw2); go_simp <;> with_reducible rfl)
  simp only [Act.put, List.setIfInBounds_toArray, List.set_cons_zero, List.set_cons_succ]
  refine rg_done (by kernel_rfl) ?_
  have H2 := Lib.hid (B1.out.trans (hS.mono B1.out.size))
  clear hS
  go_wp2_with fail
  go_ret
  exact ⟨rfl, H2.out⟩
end Go.Proofs.YtoagfmonfgagbaaGreatDoor

namespace Go.Proofs.YtoagfmonfgagbaaGreatDoor
open Go.RowKit
def norm (v6 : Bool) (a : List UInt8) : List UInt8 := if v6 then a else a.take 4 ++ List.replicate 12 0
theorem norm_len (v6 : Bool) {a : List UInt8} (h : a.length = 16) : (norm v6 a).length = 16 := by cases v6 <;> simp [norm, h]
def zeroed (a : List UInt8) (j : Nat) : List UInt8 := a.take 4 ++ List.replicate (j - 4) 0 ++ a.drop j
theorem zeroed_set {a : List UInt8} (h : a.length = 16) {j : Nat} (h4 : 4 ≤ j) (h16 : j < 16) : (zeroed a j).set j 0 = zeroed a (j + 1) := by
  apply List.ext_getElem?
  intro i
  rw [List.getElem?_set]
  simp only [zeroed, List.getElem?_append, List.length_append, List.length_take, List.length_replicate, List.getElem?_take, List.getElem?_replicate, List.getElem?_drop, List.length_drop, h]
  grind
set_option maxRecDepth 100000 in
set_option maxHeartbeats 1000000 in
theorem play_addr (v1 v6 : Bool) (a : List UInt8) (ha : a.length = 16) (w : World) : Calls Tryz.prog 18 #[.agg (adv v1 a), .bool v6] w fun e w' =>
    e = .returned (.agg (adv v6 (norm v6 a))) ∧ Below w.heap.size w w' := by
  go_enter Tryz.func18, Tryz.ntmps18
  go_wp2_with fail
  rw [adv_set0]
  have A1 := (AdBox.new w v6 ha).later ((Below.refl _ _).alloc (Nat.le_refl _) (.cells (adv false (List.replicate 16 0)) 51)) (Nat.le_refl _)
  have A2 := AdBox.new (w.alloc (.cells (adv v6 a) 51)) false (bs := List.replicate 16 0) rfl
  rw [World.size_alloc] at A2
  have B2 := ((Below.refl _ w).alloc (Nat.le_refl _) (.cells (adv v6 a) 51)).alloc (by simp) (.cells (adv false (List.replicate 16 0)) 51)
  have hz : adv false (List.replicate 16 0) = #[Value.bool false, Value.int IntKind.u8 0, Value.int IntKind.u8 0, Value.int IntKind.u8 0, Value.int IntKind.u8 0, Value.int IntKind.u8 0, Value.int IntKind.u8 0, Value.int IntKind.u8 0, Value.int IntKind.u8 0, Value.int IntKind.u8 0, Value.int IntKind.u8 0, Value.int IntKind.u8 0, Value.int IntKind.u8 0, Value.int IntKind.u8 0, Value.int IntKind.u8 0, Value.int IntKind.u8 0, Value.int IntKind.u8 0] := rfl
  rw [← hz]
  generalize hW : (w.alloc (Obj.cells (adv v6 a) 51)).alloc (Obj.cells (adv false (List.replicate 16 0)) 51) = W at A1 A2 B2 ⊢
  have H0 := Lib.hid (And.intro A1 (And.intro A2 B2))
  clear hz hW A1 A2 B2
  cases v6
  · have HA := Lib.hid ha
    clear ha
    go_loopw [5] (fun i wr => ∃ j : Nat, 4 ≤ j ∧ j ≤ 16 ∧ i = .int .i64 j ∧ AdBox wr w.heap.size false (zeroed a j) ∧ AdBox wr (w.heap.size + 1) false (List.replicate 16 0) ∧ Below w.heap.size w wr) (fun i _ => 16 - (intOf i).toNat)
    case atStart => exact ⟨4, by omega, by omega, rfl, by simpa [zeroed] using H0.out.1, H0.out.2.1, H0.out.2.2⟩
    case round =>
      obtain ⟨j, h4, h16, rfl, a1, a2, hb⟩ := hrel
      by_cases hlt : j < 16
      · obtain ⟨x, _, hc⟩ := a1.there j hlt
        have hf := a1.frozen (1 + j)
        have a3 := a1.put j 0
        rw [zeroed_set HA.out h4 hlt] at a3
        have H1 := Lib.hid (And.intro a3 (And.intro (a2.far (p := ⟨w.heap.size, 1 + j, none⟩) (by simp) (.int .u8 (0 : UInt8).toNat)) (hb.setCell (p := ⟨w.heap.size, 1 + j, none⟩) (Nat.le_refl _) (.int .u8 (0 : UInt8).toNat))))
        clear a1 a2 a3 hb
        go_wp2_with fail
        go_roundw
        case rel => exact ⟨j + 1, by omega, by omega, by go_num, H1.out⟩
        case measure => simp [intOf]; omega
      · obtain rfl : j = 16 := by omega
        have hz : zeroed a 16 = norm false a := by simp [zeroed, norm, List.drop_of_length_le (Nat.le_of_eq HA.out)]
        rw [hz] at a1
        have H1 := Lib.hid (And.intro a1 (And.intro a2 hb))
        clear a1 a2 hb hz
        go_wp2_with (first
          | (refine wpList_load_ad rfl (.tmp 2) rfl rfl H1.out.1 ?_)
          | (refine wpList_store_row rfl 51 (.tmp 4) (.tmp 19) rfl (w.heap.size + 1) _ rfl rfl 51 _ H1.out.2.1.1 (ad_size _ (norm_len false HA.out)) (by rw [adv_size _ H1.out.2.1.2, adv_size _ (norm_len false HA.out)]) (adv_one _ _) ?_))
        exact bodyPost_ret (v := .agg (adv false (norm false a))) (results_cell_row rfl _ _ (w.heap.size + 1) 51 _ (0, 0) _ rfl (setRow_heap _ _ _ _ _ _ H1.out.2.1.1) Tryz.underlying51 rfl (ad_size _ (norm_len false HA.out))) rfl ⟨rfl, below_setRow H1.out.2.2 (by omega) _⟩
  · go_loopw [5] (fun i wr => i = .int .i64 4 ∧ wr = W) (fun _ _ => 0)
    case atStart => exact ⟨rfl, rfl⟩
    case round =>
      obtain ⟨rfl, rfl⟩ := hrel
      go_wp2_with (first
          | (refine wpList_load_ad rfl (.tmp 2) rfl rfl H0.out.1 ?_)
          | (refine wpList_store_row rfl 51 (.tmp 4) (.tmp 19) rfl (w.heap.size + 1) _ rfl rfl 51 _ H0.out.2.1.1 (ad_size _ ha) (by rw [adv_size _ H0.out.2.1.2, adv_size _ ha]) (adv_one _ _) ?_))
      exact bodyPost_ret (v := .agg (adv true (norm true a))) (results_cell_row rfl _ _ (w.heap.size + 1) 51 _ (0, 0) _ rfl (setRow_heap _ _ _ _ _ _ H0.out.2.1.1) Tryz.underlying51 rfl (ad_size _ ha)) rfl ⟨rfl, below_setRow H0.out.2.2 (by omega) _⟩
end Go.Proofs.YtoagfmonfgagbaaGreatDoor

namespace Go.Proofs.YtoagfmonfgagbaaGreatDoor
open Go.RowKit
set_option maxRecDepth 100000
theorem mk_and : ∀ p q : Fin 9, mk8 p.val &&& mk8 q.val = mk8 (min p.val q.val) := by decide +kernel
theorem mk_clr : ∀ p q : Fin 9, p.val ≤ q.val → mk8 q.val &&& (mk8 p.val ||| ~~~ mk8 q.val) = mk8 p.val := by decide +kernel
theorem mk_full : ∀ p : Fin 9, mk8 p.val ||| ~~~ mk8 p.val = 255 := by decide +kernel
theorem mk_step : ∀ p q : Fin 8, p.val ≤ q.val → (mk8 p.val ||| ~~~ mk8 q.val) &&& ~~~ (UInt8.ofNat (2 ^ (7 - q.val))) = mk8 p.val ||| ~~~ mk8 (q.val + 1) := by decide +kernel
theorem mk_and' (p q : Nat) (hp : p ≤ 8) (hq : q ≤ 8) : mk8 p &&& mk8 q = mk8 (min p q) := mk_and ⟨p, by omega⟩ ⟨q, by omega⟩
theorem firstv_get (bs : List UInt8) (n i : Nat) : (firstv bs n)[i]? = (bs[i]?).map fun b => b &&& mk8 (min (n - 8 * i) 8) := by simp [firstv]
theorem firstv_twice (bs : List UInt8) (n m : Nat) : firstv (firstv bs n) m = firstv bs (min n m) := by
  apply List.ext_getElem?
  intro i
  rw [firstv_get, firstv_get, firstv_get, Option.map_map]
  congr 1
  funext b
  show b &&& mk8 (min (n - 8 * i) 8) &&& mk8 (min (m - 8 * i) 8) = _
  rw [UInt8.and_assoc, mk_and' _ _ (by omega) (by omega)]
  congr 2
  omega
theorem firstv_all {bs : List UInt8} (h : bs.length ≤ 16) : firstv bs 128 = bs := by
  apply List.ext_getElem?
  intro i
  rw [firstv_get]
  cases hb : bs[i]? with
  | none => rfl
  | some b =>
    have hi := (List.getElem?_eq_some_iff.1 hb).1
    show some (b &&& mk8 (min (128 - 8 * i) 8)) = some b
    rw [show min (128 - 8 * i) 8 = 8 by omega, show mk8 8 = 255 from rfl, show (255 : UInt8) = -1 from rfl, UInt8.and_neg_one]
theorem norm_first (v6 : Bool) {bs : List UInt8} (h : bs.length = 16) : norm v6 bs = firstv bs (wid v6) := by
  cases v6 with
  | true => exact (firstv_all (Nat.le_of_eq h)).symm
  | false =>
    apply List.ext_getElem?
    intro i
    rw [firstv_get]
    show (bs.take 4 ++ List.replicate 12 0)[i]? = (bs[i]?).map fun b => b &&& mk8 (min (32 - 8 * i) 8)
    by_cases h4 : i < 4
    · rw [List.getElem?_append_left (by rw [List.length_take]; omega), List.getElem?_take, if_pos h4, List.getElem?_eq_getElem (by omega)]
      simp only [Option.map_some]
      rw [show min (32 - 8 * i) 8 = 8 by omega, show mk8 8 = 255 from rfl, show (255 : UInt8) = -1 from rfl, UInt8.and_neg_one]
    · rw [List.getElem?_append_right (by rw [List.length_take]; omega), List.length_take, List.getElem?_replicate]
      by_cases h16 : i < 16
      · rw [if_pos (by omega), List.getElem?_eq_getElem (by omega)]
        simp only [Option.map_some]
        rw [show min (32 - 8 * i) 8 = 0 by omega, show mk8 0 = 0 from rfl, UInt8.and_zero]
      · rw [if_neg (by omega), List.getElem?_eq_none (by omega)]
        rfl
end Go.Proofs.YtoagfmonfgagbaaGreatDoor

namespace Go.Proofs.YtoagfmonfgagbaaGreatDoor
open Go.RowKit
set_option maxRecDepth 100000
def pxv (v6 : Bool) (bs : List UInt8) (n : Int) : Array Value := (Value.bool v6 :: (bv bs ++ [.int .i64 n])).toArray
theorem pxv_size (v6 : Bool) {bs : List UInt8} (n : Int) (h : bs.length = 16) : (pxv v6 bs n).size = 18 := by simp [pxv, bv_length, h]
def PxBox (w : World) (g : Nat) (v6 : Bool) (bs : List UInt8) (n : Int) : Prop := w.heap[g]? = some (.cells (pxv v6 bs n) 53 (0, 0)) ∧ bs.length = 16
theorem PxBox.lt {w : World} {g : Nat} {v6 : Bool} {bs : List UInt8} {n : Int} (h : PxBox w g v6 bs n) : g < w.heap.size := (Array.getElem?_eq_some_iff.1 h.1).1
theorem PxBox.later {w w' : World} {B g : Nat} {v6 : Bool} {bs : List UInt8} {n : Int} (h : PxBox w g v6 bs n) (hb : Below B w w') (hB : w.heap.size ≤ B) : PxBox w' g v6 bs n :=
  ⟨(hb.block g (by have := h.lt; omega)).trans h.1, h.2⟩
theorem PxBox.new (w : World) (v6 : Bool) {bs : List UInt8} (n : Int) (h : bs.length = 16) : PxBox (w.alloc (.cells (pxv v6 bs n) 53)) w.heap.size v6 bs n := ⟨heap_alloc_last w _, h⟩
section
variable {w : World} {g : Nat} {v6 : Bool} {bs : List UInt8} {n : Int}
theorem PxBox.range (h : PxBox w g v6 bs n) : w.rangeAt g 0 (pxv v6 bs n).toList := fun j v hj => by
  rw [cell_of_row w g (0 + j) _ _ _ h.1, Nat.zero_add, ← Array.getElem?_toList]; exact hj
theorem PxBox.range0 (h : PxBox w g v6 bs n) : w.rangeAt g 0 (adv v6 bs).toList := fun j v hj => by
  rw [cell_of_row w g (0 + j) _ _ _ h.1, Nat.zero_add]
  simp only [pxv, List.getElem?_toArray]
  simp only [adv] at hj
  rw [← List.cons_append, List.getElem?_append_left (by exact (List.getElem?_eq_some_iff.1 hj).1)]
  exact hj
theorem PxBox.range1 (h : PxBox w g v6 bs n) : w.rangeAt g 1 (bv bs).toArray.toList := fun j v hj => by
  rw [cell_of_row w g (1 + j) _ _ _ h.1]
  simp only [pxv, List.getElem?_toArray, Nat.add_comm 1 j, List.getElem?_cons_succ]
  rw [List.getElem?_append_left (by exact (List.getElem?_eq_some_iff.1 hj).1)]
  exact hj
theorem PxBox.bits_cell (h : PxBox w g v6 bs n) : w.cell? ⟨g, 17, none⟩ = some (.int .i64 n) := by
  rw [cell_of_row w g 17 _ _ _ h.1]
  simp only [pxv, List.getElem?_toArray, List.getElem?_cons_succ]
  rw [List.getElem?_append_right (by rw [bv_length, h.2]; omega), bv_length, h.2]
  rfl
theorem PxBox.v6_cell (h : PxBox w g v6 bs n) : w.cell? ⟨g, 0, none⟩ = some (.bool v6) := by
  rw [cell_of_row w g 0 _ _ _ h.1]; rfl
end
theorem px_size (v6 : Bool) {bs : List UInt8} (n : Int) (h : bs.length = 16) : (Tryz.prog.info? 53).map (·.size) = some (pxv v6 bs n).size := by rw [pxv_size v6 n h]; kernel_rfl
def rightnetv (v6 : Bool) (bs : List UInt8) (n : Int) : Bool := rightv v6 bs && decide (0 ≤ n) && decide (n ≤ wid v6) && (bs == firstv bs n.toNat)
set_option maxHeartbeats 4000000 in
theorem RightNet_any (v6 : Bool) (bs : List UInt8) (hl : bs.length = 16) (n : Int) (w : World) : Calls Tryz.prog 91 #[.agg (pxv v6 bs n)] w fun e w' => e = .returned (.bool (rightnetv v6 bs n)) ∧ Below w.heap.size w w' := by
  have P1 := Lib.hid (PxBox.new w v6 n hl)
  have B1 := Lib.hid ((Below.refl w.heap.size w).alloc (Nat.le_refl _) (.cells (pxv v6 bs n) 53))
  cases hr : rightv v6 bs with
  | false =>
    have hres : rightnetv v6 bs n = false := by unfold rightnetv; rw [hr]; rfl
    rw [hres]
    clear hres
    go_enter Tryz.func91, Tryz.ntmps91
    go_wp2_with fail
    generalize hW : w.alloc (.cells (pxv v6 bs n) 53) = W at P1 B1 ⊢
    clear hW
    have hcB : ∀ w', Below W.heap.size W w' → w'.cell? ⟨w.heap.size, 17, none⟩ = some (.int .i64 n) := fun w' h => (P1.out.later h (Nat.le_refl _)).bits_cell
    have hS : Below W.heap.size W W.drew := (Below.refl _ _).drew
    refine rg_begin (fun w' => Below W.heap.size W w') 29 (by kernel_rfl) rfl ?_
    refine rg_take 0 (v := ?rv1) rfl (by kernel_rfl) (by kernel_rfl) (by kernel_rfl) (fun _ _ _ h => h) (by rfl) hS (fun w2 hw2 => ?ry1) ?rr1
    case ry1 => ((try dsimp only at hw2); go_simp <;> with_reducible rfl)
    simp only [Act.put, List.setIfInBounds_toArray, List.set_cons_zero, List.set_cons_succ]
    refine rg_load 1 rfl (by kernel_rfl) (by kernel_rfl) (by kernel_rfl) (w.heap.size) (0) ((adv v6 bs)) (fun _ _ _ h => h) (by rfl) 51 (.tmp 3) rfl rfl hS (fun w2 h2 => (P1.out.later h2 (Nat.le_refl _)).range0) Tryz.underlying51 rfl (ad_size v6 hl) ?_
    simp only [Act.put, List.setIfInBounds_toArray, List.set_cons_zero, List.set_cons_succ]
    refine rg_step 2 rfl (by kernel_rfl) (by rfl) (fun K hK => ?_)
    go_simp
    refine (Right_any v6 bs hl _).mono ?_
    rw [hr]
    rintro e w1 ⟨rfl, b1⟩
    replace hS := hS.trans (b1.mono hS.size)
    clear b1
    refine hK.out _ _ hS ?_
    clear hK K
    try simp only [Act.put, List.setIfInBounds_toArray, List.set_cons_zero, List.set_cons_succ]
    refine rg_take 3 (v := ?rv2) rfl (by kernel_rfl) (by kernel_rfl) (by kernel_rfl) (fun _ _ _ h => h) (by rfl) hS (fun w2 hw2 => ?ry2) ?rr2
    case ry2 => ((try dsimp only at hw2); go_simp <;> with_reducible rfl)
    simp only [Act.put, List.setIfInBounds_toArray, List.set_cons_zero, List.set_cons_succ]
    refine rg_skip 4 rfl (by kernel_rfl) (by kernel_rfl) (by kernel_rfl) (fun _ _ _ h => h) (by rfl) hS ?_
    simp only [Act.put, List.setIfInBounds_toArray, List.set_cons_zero, List.set_cons_succ]
    refine rg_skip 5 rfl (by kernel_rfl) (by kernel_rfl) (by kernel_rfl) (fun _ _ _ h => h) (by rfl) hS ?_
    simp only [Act.put, List.setIfInBounds_toArray, List.set_cons_zero, List.set_cons_succ]
    refine rg_skip 6 rfl (by kernel_rfl) (by kernel_rfl) (by kernel_rfl) (fun _ _ _ h => h) (by rfl) hS ?_
    simp only [Act.put, List.setIfInBounds_toArray, List.set_cons_zero, List.set_cons_succ]
    refine rg_take 7 (v := ?rv3) rfl (by kernel_rfl) (by kernel_rfl) (by kernel_rfl) (fun _ _ _ h => h) (by rfl) hS (fun w2 hw2 => ?ry3) ?rr3
    case ry3 => ((try dsimp only at hw2); go_simp <;> with_reducible rfl)
    simp only [Act.put, List.setIfInBounds_toArray, List.set_cons_zero, List.set_cons_succ]
    refine rg_take 8 (v := ?rv4) rfl (by kernel_rfl) (by kernel_rfl) (by kernel_rfl) (fun _ _ _ h => h) (by rfl) hS (fun w2 hw2 => ?ry4) ?rr4
    case ry4 => ((try dsimp only at hw2); go_simp <;> with_reducible rfl)
    simp only [Act.put, List.setIfInBounds_toArray, List.set_cons_zero, List.set_cons_succ]
    refine rg_skip 9 rfl (by kernel_rfl) (by kernel_rfl) (by kernel_rfl) (fun _ _ _ h => h) (by rfl) hS ?_
    simp only [Act.put, List.setIfInBounds_toArray, List.set_cons_zero, List.set_cons_succ]
    refine rg_skip 10 rfl (by kernel_rfl) (by kernel_rfl) (by kernel_rfl) (fun _ _ _ h => h) (by rfl) hS ?_
    simp only [Act.put, List.setIfInBounds_toArray, List.set_cons_zero, List.set_cons_succ]
    refine rg_skip 11 rfl (by kernel_rfl) (by kernel_rfl) (by kernel_rfl) (fun _ _ _ h => h) (by rfl) hS ?_
    simp only [Act.put, List.setIfInBounds_toArray, List.set_cons_zero, List.set_cons_succ]
    refine rg_skip 12 rfl (by kernel_rfl) (by kernel_rfl) (by kernel_rfl) (fun _ _ _ h => h) (by rfl) hS ?_
    simp only [Act.put, List.setIfInBounds_toArray, List.set_cons_zero, List.set_cons_succ]
    refine rg_skip 13 rfl (by kernel_rfl) (by kernel_rfl) (by kernel_rfl) (fun _ _ _ h => h) (by rfl) hS ?_
    simp only [Act.put, List.setIfInBounds_toArray, List.set_cons_zero, List.set_cons_succ]
    refine rg_skip 14 rfl (by kernel_rfl) (by kernel_rfl) (by kernel_rfl) (fun _ _ _ h => h) (by rfl) hS ?_
    simp only [Act.put, List.setIfInBounds_toArray, List.set_cons_zero, List.set_cons_succ]
    refine rg_take 15 (v := ?rv5) rfl (by kernel_rfl) (by kernel_rfl) (by kernel_rfl) (fun _ _ _ h => h) (by rfl) hS (fun w2 hw2 => ?ry5) ?rr5
    case ry5 => ((try dsimp only at hw2); go_simp <;> with_reducible rfl)
    simp only [Act.put, List.setIfInBounds_toArray, List.set_cons_zero, List.set_cons_succ]
    refine rg_take 16 (v := ?rv6) rfl (by kernel_rfl) (by kernel_rfl) (by kernel_rfl) (fun _ _ _ h => h) (by rfl) hS (fun w2 hw2 => ?ry6) ?rr6
    case ry6 => ((try dsimp only at hw2); go_simp <;> with_reducible rfl)
    simp only [Act.put, List.setIfInBounds_toArray, List.set_cons_zero, List.set_cons_succ]
    refine rg_skip 17 rfl (by kernel_rfl) (by kernel_rfl) (by kernel_rfl) (fun _ _ _ h => h) (by rfl) hS ?_
    simp only [Act.put, List.setIfInBounds_toArray, List.set_cons_zero, List.set_cons_succ]
    refine rg_skip 18 rfl (by kernel_rfl) (by kernel_rfl) (by kernel_rfl) (fun _ _ _ h => h) (by rfl) hS ?_
    simp only [Act.put, List.setIfInBounds_toArray, List.set_cons_zero, List.set_cons_succ]
    refine rg_skip 19 rfl (by kernel_rfl) (by kernel_rfl) (by kernel_rfl) (fun _ _ _ h => h) (by rfl) hS ?_
    simp only [Act.put, List.setIfInBounds_toArray, List.set_cons_zero, List.set_cons_succ]
    refine rg_skip 20 rfl (by kernel_rfl) (by kernel_rfl) (by kernel_rfl) (fun _ _ _ h => h) (by rfl) hS ?_
    simp only [Act.put, List.setIfInBounds_toArray, List.set_cons_zero, List.set_cons_succ]
    refine rg_skip 21 rfl (by kernel_rfl) (by kernel_rfl) (by kernel_rfl) (fun _ _ _ h => h) (by rfl) hS ?_
    simp only [Act.put, List.setIfInBounds_toArray, List.set_cons_zero, List.set_cons_succ]
    refine rg_skip 22 rfl (by kernel_rfl) (by kernel_rfl) (by kernel_rfl) (fun _ _ _ h => h) (by rfl) hS ?_
    simp only [Act.put, List.setIfInBounds_toArray, List.set_cons_zero, List.set_cons_succ]
    refine rg_skip 23 rfl (by kernel_rfl) (by kernel_rfl) (by kernel_rfl) (fun _ _ _ h => h) (by rfl) hS ?_
    simp only [Act.put, List.setIfInBounds_toArray, List.set_cons_zero, List.set_cons_succ]
    refine rg_skip 24 rfl (by kernel_rfl) (by kernel_rfl) (by kernel_rfl) (fun _ _ _ h => h) (by rfl) hS ?_
    simp only [Act.put, List.setIfInBounds_toArray, List.set_cons_zero, List.set_cons_succ]
    refine rg_skip 25 rfl (by kernel_rfl) (by kernel_rfl) (by kernel_rfl) (fun _ _ _ h => h) (by rfl) hS ?_
    simp only [Act.put, List.setIfInBounds_toArray, List.set_cons_zero, List.set_cons_succ]
    refine rg_skip 26 rfl (by kernel_rfl) (by kernel_rfl) (by kernel_rfl) (fun _ _ _ h => h) (by rfl) hS ?_
    simp only [Act.put, List.setIfInBounds_toArray, List.set_cons_zero, List.set_cons_succ]
    refine rg_take 27 (v := ?rv7) rfl (by kernel_rfl) (by kernel_rfl) (by kernel_rfl) (fun _ _ _ h => h) (by rfl) hS (fun w2 hw2 => ?ry7) ?rr7
    case ry7 => ((try dsimp only at hw2); go_simp <;> with_reducible rfl)
    simp only [Act.put, List.setIfInBounds_toArray, List.set_cons_zero, List.set_cons_succ]
    refine rg_take 28 (v := ?rv8) rfl (by kernel_rfl) (by kernel_rfl) (by kernel_rfl) (fun _ _ _ h => h) (by rfl) hS (fun w2 hw2 => ?ry8) ?rr8
    case ry8 => ((try dsimp only at hw2); go_simp <;> with_reducible rfl)
    simp only [Act.put, List.setIfInBounds_toArray, List.set_cons_zero, List.set_cons_succ]
    refine rg_done (by kernel_rfl) ?_
    have H2 := Lib.hid (B1.out.trans (hS.mono B1.out.size))
    clear hS
    go_wp2_with fail
    go_ret
    exact ⟨rfl, H2.out⟩
  | true =>
    by_cases h0 : 0 ≤ n
    · have hd0 : decide (0 ≤ n) = true := decide_eq_true h0
      by_cases h1 : n ≤ wid v6
      · have hd1 : decide (n ≤ (wid v6 : Int)) = true := decide_eq_true h1
        obtain ⟨m, rfl⟩ : ∃ m : Nat, n = m := ⟨n.toNat, by omega⟩
        have hm : m ≤ 128 := by have := wid_le v6; omega
        have heq := eql_arr hl (firstv_len bs m ▸ hl : (firstv bs m).length = 16)
        have hres : rightnetv v6 bs m = (bs == firstv bs m) := by unfold rightnetv; rw [hr, hd0, hd1]; rfl
        rw [hres]
        clear hres
        go_enter Tryz.func91, Tryz.ntmps91
        go_wp2_with fail
        generalize hW : w.alloc (.cells (pxv v6 bs m) 53) = W at P1 B1 ⊢
        clear hW
        have hcB : ∀ w', Below W.heap.size W w' → w'.cell? ⟨w.heap.size, 17, none⟩ = some (.int .i64 m) := fun w' h => (P1.out.later h (Nat.le_refl _)).bits_cell
        have hS : Below W.heap.size W W.drew := (Below.refl _ _).drew
        refine rg_begin (fun w' => Below W.heap.size W w') 29 (by kernel_rfl) rfl ?_
        refine rg_take 0 (v := ?rv9) rfl (by kernel_rfl) (by kernel_rfl) (by kernel_rfl) (fun _ _ _ h => h) (by rfl) hS (fun w2 hw2 => ?ry9) ?rr9
        case ry9 => ((try dsimp only at hw2); go_simp <;> with_reducible rfl)
        simp only [Act.put, List.setIfInBounds_toArray, List.set_cons_zero, List.set_cons_succ]
        refine rg_load 1 rfl (by kernel_rfl) (by kernel_rfl) (by kernel_rfl) (w.heap.size) (0) ((adv v6 bs)) (fun _ _ _ h => h) (by rfl) 51 (.tmp 3) rfl rfl hS (fun w2 h2 => (P1.out.later h2 (Nat.le_refl _)).range0) Tryz.underlying51 rfl (ad_size v6 hl) ?_
        simp only [Act.put, List.setIfInBounds_toArray, List.set_cons_zero, List.set_cons_succ]
        refine rg_step 2 rfl (by kernel_rfl) (by rfl) (fun K hK => ?_)
        go_simp
        refine (Right_any v6 bs hl _).mono ?_
        rw [hr]
        rintro e w1 ⟨rfl, b1⟩
        replace hS := hS.trans (b1.mono hS.size)
        clear b1
        refine hK.out _ _ hS ?_
        clear hK K
        try simp only [Act.put, List.setIfInBounds_toArray, List.set_cons_zero, List.set_cons_succ]
        refine rg_take 3 (v := ?rv10) rfl (by kernel_rfl) (by kernel_rfl) (by kernel_rfl) (fun _ _ _ h => h) (by rfl) hS (fun w2 hw2 => ?ry10) ?rr10
        case ry10 => ((try dsimp only at hw2); go_simp <;> with_reducible rfl)
        simp only [Act.put, List.setIfInBounds_toArray, List.set_cons_zero, List.set_cons_succ]
        refine rg_take 4 (v := ?rv11) rfl (by kernel_rfl) (by kernel_rfl) (by kernel_rfl) (fun _ _ _ h => h) (by rfl) hS (fun w2 hw2 => ?ry11) ?rr11
        case ry11 => ((try dsimp only at hw2); go_simp <;> with_reducible rfl)
        simp only [Act.put, List.setIfInBounds_toArray, List.set_cons_zero, List.set_cons_succ]
        refine rg_take 5 (v := ?rv12) rfl (by kernel_rfl) (by kernel_rfl) (by kernel_rfl) (fun _ _ _ h => h) (by rfl) hS (fun w2 hw2 => ?ry12) ?rr12
        case ry12 => ((try dsimp only at hw2); go_simp <;> with_reducible rfl)
        simp only [Act.put, List.setIfInBounds_toArray, List.set_cons_zero, List.set_cons_succ]
        refine rg_take 6 (v := ?rv13) rfl (by kernel_rfl) (by kernel_rfl) (by kernel_rfl) (fun _ _ _ h => h) (by rfl) hS (fun w2 hw2 => ?ry13) ?rr13
        case ry13 => ((try dsimp only at hw2); go_simp <;> with_reducible rfl)
        simp only [Act.put, List.setIfInBounds_toArray, List.set_cons_zero, List.set_cons_succ]
        refine rg_take 7 (v := ?rv14) rfl (by kernel_rfl) (by kernel_rfl) (by kernel_rfl) (fun _ _ _ h => h) (by rfl) hS (fun w2 hw2 => ?ry14) ?rr14
        case ry14 => ((try dsimp only at hw2); go_simp <;> with_reducible rfl)
        simp only [Act.put, List.setIfInBounds_toArray, List.set_cons_zero, List.set_cons_succ]
        refine rg_take 8 (v := ?rv15) rfl (by kernel_rfl) (by kernel_rfl) (by kernel_rfl) (fun _ _ _ h => h) (by rfl) hS (fun w2 hw2 => ?ry15) ?rr15
        case ry15 => ((try dsimp only at hw2); go_simp <;> with_reducible rfl)
        simp only [Act.put, List.setIfInBounds_toArray, List.set_cons_zero, List.set_cons_succ]
        refine rg_take 9 (v := ?rv16) rfl (by kernel_rfl) (by kernel_rfl) (by kernel_rfl) (fun _ _ _ h => h) (by rfl) hS (fun w2 hw2 => ?ry16) ?rr16
        case ry16 => ((try dsimp only at hw2); go_simp <;> with_reducible rfl)
        simp only [Act.put, List.setIfInBounds_toArray, List.set_cons_zero, List.set_cons_succ]
        refine rg_take 10 (v := ?rv17) rfl (by kernel_rfl) (by kernel_rfl) (by kernel_rfl) (fun _ _ _ h => h) (by rfl) hS (fun w2 hw2 => ?ry17) ?rr17
        case ry17 => ((try dsimp only at hw2); go_simp <;> with_reducible rfl)
        simp only [Act.put, List.setIfInBounds_toArray, List.set_cons_zero, List.set_cons_succ]
        refine rg_take 11 (v := ?rv18) rfl (by kernel_rfl) (by kernel_rfl) (by kernel_rfl) (fun _ _ _ h => h) (by rfl) hS (fun w2 hw2 => ?ry18) ?rr18
        case ry18 => ((try dsimp only at hw2); go_simp <;> with_reducible rfl)
        simp only [Act.put, List.setIfInBounds_toArray, List.set_cons_zero, List.set_cons_succ]
        refine rg_load 12 rfl (by kernel_rfl) (by kernel_rfl) (by kernel_rfl) (w.heap.size) (0) ((adv v6 bs)) (fun _ _ _ h => h) (by rfl) 51 (.tmp 14) rfl rfl hS (fun w2 h2 => (P1.out.later h2 (Nat.le_refl _)).range0) Tryz.underlying51 rfl (ad_size v6 hl) ?_
        simp only [Act.put, List.setIfInBounds_toArray, List.set_cons_zero, List.set_cons_succ]
        refine rg_step 13 rfl (by kernel_rfl) (by rfl) (fun K hK => ?_)
        go_simp
        refine (width_any v6 bs hl _).mono ?_
        rintro e w2 ⟨rfl, b2⟩
        replace hS := hS.trans (b2.mono hS.size)
        clear b2
        refine hK.out _ _ hS ?_
        clear hK K
        try simp only [Act.put, List.setIfInBounds_toArray, List.set_cons_zero, List.set_cons_succ]
        refine rg_take 14 (v := ?rv19) rfl (by kernel_rfl) (by kernel_rfl) (by kernel_rfl) (fun _ _ _ h => h) (by rfl) hS (fun w2 hw2 => ?ry19) ?rr19
        case ry19 => ((try dsimp only at hw2); go_simp <;> with_reducible rfl)
        simp only [Act.put, List.setIfInBounds_toArray, List.set_cons_zero, List.set_cons_succ]
        refine rg_take 15 (v := ?rv20) rfl (by kernel_rfl) (by kernel_rfl) (by kernel_rfl) (fun _ _ _ h => h) (by rfl) hS (fun w2 hw2 => ?ry20) ?rr20
        case ry20 => ((try dsimp only at hw2); go_simp <;> with_reducible rfl)
        simp only [Act.put, List.setIfInBounds_toArray, List.set_cons_zero, List.set_cons_succ]
        refine rg_take 16 (v := ?rv21) rfl (by kernel_rfl) (by kernel_rfl) (by kernel_rfl) (fun _ _ _ h => h) (by rfl) hS (fun w2 hw2 => ?ry21) ?rr21
        case ry21 => ((try dsimp only at hw2); go_simp <;> with_reducible rfl)
        simp only [Act.put, List.setIfInBounds_toArray, List.set_cons_zero, List.set_cons_succ]
        refine rg_take 17 (v := ?rv22) rfl (by kernel_rfl) (by kernel_rfl) (by kernel_rfl) (fun _ _ _ h => h) (by rfl) hS (fun w2 hw2 => ?ry22) ?rr22
        case ry22 => ((try dsimp only at hw2); go_simp <;> with_reducible rfl)
        simp only [Act.put, List.setIfInBounds_toArray, List.set_cons_zero, List.set_cons_succ]
        refine rg_take 18 (v := ?rv23) rfl (by kernel_rfl) (by kernel_rfl) (by kernel_rfl) (fun _ _ _ h => h) (by rfl) hS (fun w2 hw2 => ?ry23) ?rr23
        case ry23 => ((try dsimp only at hw2); go_simp <;> with_reducible rfl)
        simp only [Act.put, List.setIfInBounds_toArray, List.set_cons_zero, List.set_cons_succ]
        refine rg_take 20 (v := ?rv24) rfl (by kernel_rfl) (by kernel_rfl) (by kernel_rfl) (fun _ _ _ h => h) (by rfl) hS (fun w2 hw2 => ?ry24) ?rr24
        case ry24 => ((try dsimp only at hw2); go_simp <;> with_reducible rfl)
        simp only [Act.put, List.setIfInBounds_toArray, List.set_cons_zero, List.set_cons_succ]
        refine rg_take 21 (v := ?rv25) rfl (by kernel_rfl) (by kernel_rfl) (by kernel_rfl) (fun _ _ _ h => h) (by rfl) hS (fun w2 hw2 => ?ry25) ?rr25
        case ry25 => ((try dsimp only at hw2); go_simp <;> with_reducible rfl)
        simp only [Act.put, List.setIfInBounds_toArray, List.set_cons_zero, List.set_cons_succ]
        refine rg_take 23 (v := ?rv26) rfl (by kernel_rfl) (by kernel_rfl) (by kernel_rfl) (fun _ _ _ h => h) (by rfl) hS (fun w2 hw2 => ?ry26) ?rr26
        case ry26 => ((try dsimp only at hw2); go_simp <;> with_reducible rfl)
        simp only [Act.put, List.setIfInBounds_toArray, List.set_cons_zero, List.set_cons_succ]
        refine rg_take 24 (v := ?rv27) rfl (by kernel_rfl) (by kernel_rfl) (by kernel_rfl) (fun _ _ _ h => h) (by rfl) hS (fun w2 hw2 => ?ry27) ?rr27
        case ry27 => ((try dsimp only at hw2); go_simp <;> with_reducible rfl)
        simp only [Act.put, List.setIfInBounds_toArray, List.set_cons_zero, List.set_cons_succ]
        refine rg_load 19 rfl (by kernel_rfl) (by kernel_rfl) (by kernel_rfl) (w.heap.size) (1) ((bv bs).toArray) (fun _ _ _ h => h) (by rfl) 49 (.tmp 21) rfl rfl hS (fun w2 h2 => (P1.out.later h2 (Nat.le_refl _)).range1) Tryz.underlying49 rfl (arr_size hl) ?_
        simp only [Act.put, List.setIfInBounds_toArray, List.set_cons_zero, List.set_cons_succ]
        refine rg_load 22 rfl (by kernel_rfl) (by kernel_rfl) (by kernel_rfl) (w.heap.size) (1) ((bv bs).toArray) (fun _ _ _ h => h) (by rfl) 49 (.tmp 24) rfl rfl hS (fun w2 h2 => (P1.out.later h2 (Nat.le_refl _)).range1) Tryz.underlying49 rfl (arr_size hl) ?_
        simp only [Act.put, List.setIfInBounds_toArray, List.set_cons_zero, List.set_cons_succ]
        refine rg_step 25 rfl (by kernel_rfl) (by rfl) (fun K hK => ?_)
        go_simp
        refine (first_any bs hl m hm _).mono ?_
        rintro e w3 ⟨rfl, b3⟩
        replace hS := hS.trans (b3.mono hS.size)
        clear b3
        refine hK.out _ _ hS ?_
        clear hK K
        try simp only [Act.put, List.setIfInBounds_toArray, List.set_cons_zero, List.set_cons_succ]
        refine rg_take 26 (v := ?rv28) rfl (by kernel_rfl) (by kernel_rfl) (by kernel_rfl) (fun _ _ _ h => h) (by rfl) hS (fun w2 hw2 => ?ry28) ?rr28
        case ry28 => ((try dsimp only at hw2); go_simp <;> with_reducible rfl)
        simp only [Act.put, List.setIfInBounds_toArray, List.set_cons_zero, List.set_cons_succ]
        refine rg_take 27 (v := ?rv29) rfl (by kernel_rfl) (by kernel_rfl) (by kernel_rfl) (fun _ _ _ h => h) (by rfl) hS (fun w2 hw2 => ?ry29) ?rr29
        case ry29 => ((try dsimp only at hw2); go_simp <;> with_reducible rfl)
        simp only [Act.put, List.setIfInBounds_toArray, List.set_cons_zero, List.set_cons_succ]
        refine rg_take 28 (v := ?rv30) rfl (by kernel_rfl) (by kernel_rfl) (by kernel_rfl) (fun _ _ _ h => h) (by rfl) hS (fun w2 hw2 => ?ry30) ?rr30
        case ry30 => ((try dsimp only at hw2); go_simp <;> with_reducible rfl)
        simp only [Act.put, List.setIfInBounds_toArray, List.set_cons_zero, List.set_cons_succ]
        refine rg_done (by kernel_rfl) ?_
        have H2 := Lib.hid (B1.out.trans (hS.mono B1.out.size))
        clear hS
        go_wp2_with fail
        go_ret
        exact ⟨rfl, H2.out⟩
      · have hd1 : decide (n ≤ (wid v6 : Int)) = false := decide_eq_false h1
        have hres : rightnetv v6 bs n = false := by unfold rightnetv; rw [hr, hd1]; simp
        rw [hres]
        clear hres
        go_enter Tryz.func91, Tryz.ntmps91
        go_wp2_with fail
        generalize hW : w.alloc (.cells (pxv v6 bs n) 53) = W at P1 B1 ⊢
        clear hW
        have hcB : ∀ w', Below W.heap.size W w' → w'.cell? ⟨w.heap.size, 17, none⟩ = some (.int .i64 n) := fun w' h => (P1.out.later h (Nat.le_refl _)).bits_cell
        have hS : Below W.heap.size W W.drew := (Below.refl _ _).drew
        refine rg_begin (fun w' => Below W.heap.size W w') 29 (by kernel_rfl) rfl ?_
        refine rg_take 0 (v := ?rv31) rfl (by kernel_rfl) (by kernel_rfl) (by kernel_rfl) (fun _ _ _ h => h) (by rfl) hS (fun w2 hw2 => ?ry31) ?rr31
        case ry31 => ((try dsimp only at hw2); go_simp <;> with_reducible rfl)
        simp only [Act.put, List.setIfInBounds_toArray, List.set_cons_zero, List.set_cons_succ]
        refine rg_load 1 rfl (by kernel_rfl) (by kernel_rfl) (by kernel_rfl) (w.heap.size) (0) ((adv v6 bs)) (fun _ _ _ h => h) (by rfl) 51 (.tmp 3) rfl rfl hS (fun w2 h2 => (P1.out.later h2 (Nat.le_refl _)).range0) Tryz.underlying51 rfl (ad_size v6 hl) ?_
        simp only [Act.put, List.setIfInBounds_toArray, List.set_cons_zero, List.set_cons_succ]
        refine rg_step 2 rfl (by kernel_rfl) (by rfl) (fun K hK => ?_)
        go_simp
        refine (Right_any v6 bs hl _).mono ?_
        rw [hr]
        rintro e w1 ⟨rfl, b1⟩
        replace hS := hS.trans (b1.mono hS.size)
        clear b1
        refine hK.out _ _ hS ?_
        clear hK K
        try simp only [Act.put, List.setIfInBounds_toArray, List.set_cons_zero, List.set_cons_succ]
        refine rg_take 3 (v := ?rv32) rfl (by kernel_rfl) (by kernel_rfl) (by kernel_rfl) (fun _ _ _ h => h) (by rfl) hS (fun w2 hw2 => ?ry32) ?rr32
        case ry32 => ((try dsimp only at hw2); go_simp <;> with_reducible rfl)
        simp only [Act.put, List.setIfInBounds_toArray, List.set_cons_zero, List.set_cons_succ]
        refine rg_take 4 (v := ?rv33) rfl (by kernel_rfl) (by kernel_rfl) (by kernel_rfl) (fun _ _ _ h => h) (by rfl) hS (fun w2 hw2 => ?ry33) ?rr33
        case ry33 => ((try dsimp only at hw2); go_simp <;> with_reducible rfl)
        simp only [Act.put, List.setIfInBounds_toArray, List.set_cons_zero, List.set_cons_succ]
        refine rg_take 5 (v := ?rv34) rfl (by kernel_rfl) (by kernel_rfl) (by kernel_rfl) (fun _ _ _ h => h) (by rfl) hS (fun w2 hw2 => ?ry34) ?rr34
        case ry34 => ((try dsimp only at hw2); go_simp <;> with_reducible rfl)
        simp only [Act.put, List.setIfInBounds_toArray, List.set_cons_zero, List.set_cons_succ]
        refine rg_take 6 (v := ?rv35) rfl (by kernel_rfl) (by kernel_rfl) (by kernel_rfl) (fun _ _ _ h => h) (by rfl) hS (fun w2 hw2 => ?ry35) ?rr35
        case ry35 => ((try dsimp only at hw2); go_simp <;> with_reducible rfl)
        simp only [Act.put, List.setIfInBounds_toArray, List.set_cons_zero, List.set_cons_succ]
        refine rg_take 7 (v := ?rv36) rfl (by kernel_rfl) (by kernel_rfl) (by kernel_rfl) (fun _ _ _ h => h) (by rfl) hS (fun w2 hw2 => ?ry36) ?rr36
        case ry36 => ((try dsimp only at hw2); go_simp <;> with_reducible rfl)
        simp only [Act.put, List.setIfInBounds_toArray, List.set_cons_zero, List.set_cons_succ]
        refine rg_take 8 (v := ?rv37) rfl (by kernel_rfl) (by kernel_rfl) (by kernel_rfl) (fun _ _ _ h => h) (by rfl) hS (fun w2 hw2 => ?ry37) ?rr37
        case ry37 => ((try dsimp only at hw2); go_simp <;> with_reducible rfl)
        simp only [Act.put, List.setIfInBounds_toArray, List.set_cons_zero, List.set_cons_succ]
        refine rg_take 9 (v := ?rv38) rfl (by kernel_rfl) (by kernel_rfl) (by kernel_rfl) (fun _ _ _ h => h) (by rfl) hS (fun w2 hw2 => ?ry38) ?rr38
        case ry38 => ((try dsimp only at hw2); go_simp <;> with_reducible rfl)
        simp only [Act.put, List.setIfInBounds_toArray, List.set_cons_zero, List.set_cons_succ]
        refine rg_take 10 (v := ?rv39) rfl (by kernel_rfl) (by kernel_rfl) (by kernel_rfl) (fun _ _ _ h => h) (by rfl) hS (fun w2 hw2 => ?ry39) ?rr39
        case ry39 => ((try dsimp only at hw2); go_simp <;> with_reducible rfl)
        simp only [Act.put, List.setIfInBounds_toArray, List.set_cons_zero, List.set_cons_succ]
        refine rg_take 11 (v := ?rv40) rfl (by kernel_rfl) (by kernel_rfl) (by kernel_rfl) (fun _ _ _ h => h) (by rfl) hS (fun w2 hw2 => ?ry40) ?rr40
        case ry40 => ((try dsimp only at hw2); go_simp <;> with_reducible rfl)
        simp only [Act.put, List.setIfInBounds_toArray, List.set_cons_zero, List.set_cons_succ]
        refine rg_load 12 rfl (by kernel_rfl) (by kernel_rfl) (by kernel_rfl) (w.heap.size) (0) ((adv v6 bs)) (fun _ _ _ h => h) (by rfl) 51 (.tmp 14) rfl rfl hS (fun w2 h2 => (P1.out.later h2 (Nat.le_refl _)).range0) Tryz.underlying51 rfl (ad_size v6 hl) ?_
        simp only [Act.put, List.setIfInBounds_toArray, List.set_cons_zero, List.set_cons_succ]
        refine rg_step 13 rfl (by kernel_rfl) (by rfl) (fun K hK => ?_)
        go_simp
        refine (width_any v6 bs hl _).mono ?_
        rintro e w2 ⟨rfl, b2⟩
        replace hS := hS.trans (b2.mono hS.size)
        clear b2
        refine hK.out _ _ hS ?_
        clear hK K
        try simp only [Act.put, List.setIfInBounds_toArray, List.set_cons_zero, List.set_cons_succ]
        refine rg_take 14 (v := ?rv41) rfl (by kernel_rfl) (by kernel_rfl) (by kernel_rfl) (fun _ _ _ h => h) (by rfl) hS (fun w2 hw2 => ?ry41) ?rr41
        case ry41 => ((try dsimp only at hw2); go_simp <;> with_reducible rfl)
        simp only [Act.put, List.setIfInBounds_toArray, List.set_cons_zero, List.set_cons_succ]
        refine rg_take 15 (v := ?rv42) rfl (by kernel_rfl) (by kernel_rfl) (by kernel_rfl) (fun _ _ _ h => h) (by rfl) hS (fun w2 hw2 => ?ry42) ?rr42
        case ry42 => ((try dsimp only at hw2); go_simp <;> with_reducible rfl)
        simp only [Act.put, List.setIfInBounds_toArray, List.set_cons_zero, List.set_cons_succ]
        refine rg_take 16 (v := ?rv43) rfl (by kernel_rfl) (by kernel_rfl) (by kernel_rfl) (fun _ _ _ h => h) (by rfl) hS (fun w2 hw2 => ?ry43) ?rr43
        case ry43 => ((try dsimp only at hw2); go_simp <;> with_reducible rfl)
        simp only [Act.put, List.setIfInBounds_toArray, List.set_cons_zero, List.set_cons_succ]
        refine rg_skip 17 rfl (by kernel_rfl) (by kernel_rfl) (by kernel_rfl) (fun _ _ _ h => h) (by rfl) hS ?_
        simp only [Act.put, List.setIfInBounds_toArray, List.set_cons_zero, List.set_cons_succ]
        refine rg_skip 18 rfl (by kernel_rfl) (by kernel_rfl) (by kernel_rfl) (fun _ _ _ h => h) (by rfl) hS ?_
        simp only [Act.put, List.setIfInBounds_toArray, List.set_cons_zero, List.set_cons_succ]
        refine rg_skip 19 rfl (by kernel_rfl) (by kernel_rfl) (by kernel_rfl) (fun _ _ _ h => h) (by rfl) hS ?_
        simp only [Act.put, List.setIfInBounds_toArray, List.set_cons_zero, List.set_cons_succ]
        refine rg_skip 20 rfl (by kernel_rfl) (by kernel_rfl) (by kernel_rfl) (fun _ _ _ h => h) (by rfl) hS ?_
        simp only [Act.put, List.setIfInBounds_toArray, List.set_cons_zero, List.set_cons_succ]
        refine rg_skip 21 rfl (by kernel_rfl) (by kernel_rfl) (by kernel_rfl) (fun _ _ _ h => h) (by rfl) hS ?_
        simp only [Act.put, List.setIfInBounds_toArray, List.set_cons_zero, List.set_cons_succ]
        refine rg_skip 22 rfl (by kernel_rfl) (by kernel_rfl) (by kernel_rfl) (fun _ _ _ h => h) (by rfl) hS ?_
        simp only [Act.put, List.setIfInBounds_toArray, List.set_cons_zero, List.set_cons_succ]
        refine rg_skip 23 rfl (by kernel_rfl) (by kernel_rfl) (by kernel_rfl) (fun _ _ _ h => h) (by rfl) hS ?_
        simp only [Act.put, List.setIfInBounds_toArray, List.set_cons_zero, List.set_cons_succ]
        refine rg_skip 24 rfl (by kernel_rfl) (by kernel_rfl) (by kernel_rfl) (fun _ _ _ h => h) (by rfl) hS ?_
        simp only [Act.put, List.setIfInBounds_toArray, List.set_cons_zero, List.set_cons_succ]
        refine rg_skip 25 rfl (by kernel_rfl) (by kernel_rfl) (by kernel_rfl) (fun _ _ _ h => h) (by rfl) hS ?_
        simp only [Act.put, List.setIfInBounds_toArray, List.set_cons_zero, List.set_cons_succ]
        refine rg_skip 26 rfl (by kernel_rfl) (by kernel_rfl) (by kernel_rfl) (fun _ _ _ h => h) (by rfl) hS ?_
        simp only [Act.put, List.setIfInBounds_toArray, List.set_cons_zero, List.set_cons_succ]
        refine rg_take 27 (v := ?rv44) rfl (by kernel_rfl) (by kernel_rfl) (by kernel_rfl) (fun _ _ _ h => h) (by rfl) hS (fun w2 hw2 => ?ry44) ?rr44
        case ry44 => ((try dsimp only at hw2); go_simp <;> with_reducible rfl)
        simp only [Act.put, List.setIfInBounds_toArray, List.set_cons_zero, List.set_cons_succ]
        refine rg_take 28 (v := ?rv45) rfl (by kernel_rfl) (by kernel_rfl) (by kernel_rfl) (fun _ _ _ h => h) (by rfl) hS (fun w2 hw2 => ?ry45) ?rr45
        case ry45 => ((try dsimp only at hw2); go_simp <;> with_reducible rfl)
        simp only [Act.put, List.setIfInBounds_toArray, List.set_cons_zero, List.set_cons_succ]
        refine rg_done (by kernel_rfl) ?_
        have H2 := Lib.hid (B1.out.trans (hS.mono B1.out.size))
        clear hS
        go_wp2_with fail
        go_ret
        exact ⟨rfl, H2.out⟩
    · have hd0 : decide (0 ≤ n) = false := decide_eq_false h0
      have hres : rightnetv v6 bs n = false := by unfold rightnetv; rw [hr, hd0]; rfl
      rw [hres]
      clear hres
      go_enter Tryz.func91, Tryz.ntmps91
      go_wp2_with fail
      generalize hW : w.alloc (.cells (pxv v6 bs n) 53) = W at P1 B1 ⊢
      clear hW
      have hcB : ∀ w', Below W.heap.size W w' → w'.cell? ⟨w.heap.size, 17, none⟩ = some (.int .i64 n) := fun w' h => (P1.out.later h (Nat.le_refl _)).bits_cell
      have hS : Below W.heap.size W W.drew := (Below.refl _ _).drew
      refine rg_begin (fun w' => Below W.heap.size W w') 29 (by kernel_rfl) rfl ?_
      refine rg_take 0 (v := ?rv46) rfl (by kernel_rfl) (by kernel_rfl) (by kernel_rfl) (fun _ _ _ h => h) (by rfl) hS (fun w2 hw2 => ?ry46) ?rr46
      case ry46 => ((try dsimp only at hw2); go_simp <;> with_reducible rfl)
      simp only [Act.put, List.setIfInBounds_toArray, List.set_cons_zero, List.set_cons_succ]
      refine rg_load 1 rfl (by kernel_rfl) (by kernel_rfl) (by kernel_rfl) (w.heap.size) (0) ((adv v6 bs)) (fun _ _ _ h => h) (by rfl) 51 (.tmp 3) rfl rfl hS (fun w2 h2 => (P1.out.later h2 (Nat.le_refl _)).range0) Tryz.underlying51 rfl (ad_size v6 hl) ?_
      simp only [Act.put, List.setIfInBounds_toArray, List.set_cons_zero, List.set_cons_succ]
      refine rg_step 2 rfl (by kernel_rfl) (by rfl) (fun K hK => ?_)
      go_simp
      refine (Right_any v6 bs hl _).mono ?_
      rw [hr]
      rintro e w1 ⟨rfl, b1⟩
      replace hS := hS.trans (b1.mono hS.size)
      clear b1
      refine hK.out _ _ hS ?_
      clear hK K
      try simp only [Act.put, List.setIfInBounds_toArray, List.set_cons_zero, List.set_cons_succ]
      refine rg_take 3 (v := ?rv47) rfl (by kernel_rfl) (by kernel_rfl) (by kernel_rfl) (fun _ _ _ h => h) (by rfl) hS (fun w2 hw2 => ?ry47) ?rr47
      case ry47 => ((try dsimp only at hw2); go_simp <;> with_reducible rfl)
      simp only [Act.put, List.setIfInBounds_toArray, List.set_cons_zero, List.set_cons_succ]
      refine rg_take 4 (v := ?rv48) rfl (by kernel_rfl) (by kernel_rfl) (by kernel_rfl) (fun _ _ _ h => h) (by rfl) hS (fun w2 hw2 => ?ry48) ?rr48
      case ry48 => ((try dsimp only at hw2); go_simp <;> with_reducible rfl)
      simp only [Act.put, List.setIfInBounds_toArray, List.set_cons_zero, List.set_cons_succ]
      refine rg_take 5 (v := ?rv49) rfl (by kernel_rfl) (by kernel_rfl) (by kernel_rfl) (fun _ _ _ h => h) (by rfl) hS (fun w2 hw2 => ?ry49) ?rr49
      case ry49 => ((try dsimp only at hw2); go_simp <;> with_reducible rfl)
      simp only [Act.put, List.setIfInBounds_toArray, List.set_cons_zero, List.set_cons_succ]
      refine rg_take 6 (v := ?rv50) rfl (by kernel_rfl) (by kernel_rfl) (by kernel_rfl) (fun _ _ _ h => h) (by rfl) hS (fun w2 hw2 => ?ry50) ?rr50
      case ry50 => ((try dsimp only at hw2); go_simp <;> with_reducible rfl)
      simp only [Act.put, List.setIfInBounds_toArray, List.set_cons_zero, List.set_cons_succ]
      refine rg_take 7 (v := ?rv51) rfl (by kernel_rfl) (by kernel_rfl) (by kernel_rfl) (fun _ _ _ h => h) (by rfl) hS (fun w2 hw2 => ?ry51) ?rr51
      case ry51 => ((try dsimp only at hw2); go_simp <;> with_reducible rfl)
      simp only [Act.put, List.setIfInBounds_toArray, List.set_cons_zero, List.set_cons_succ]
      refine rg_take 8 (v := ?rv52) rfl (by kernel_rfl) (by kernel_rfl) (by kernel_rfl) (fun _ _ _ h => h) (by rfl) hS (fun w2 hw2 => ?ry52) ?rr52
      case ry52 => ((try dsimp only at hw2); go_simp <;> with_reducible rfl)
      simp only [Act.put, List.setIfInBounds_toArray, List.set_cons_zero, List.set_cons_succ]
      refine rg_skip 9 rfl (by kernel_rfl) (by kernel_rfl) (by kernel_rfl) (fun _ _ _ h => h) (by rfl) hS ?_
      simp only [Act.put, List.setIfInBounds_toArray, List.set_cons_zero, List.set_cons_succ]
      refine rg_skip 10 rfl (by kernel_rfl) (by kernel_rfl) (by kernel_rfl) (fun _ _ _ h => h) (by rfl) hS ?_
      simp only [Act.put, List.setIfInBounds_toArray, List.set_cons_zero, List.set_cons_succ]
      refine rg_skip 11 rfl (by kernel_rfl) (by kernel_rfl) (by kernel_rfl) (fun _ _ _ h => h) (by rfl) hS ?_
      simp only [Act.put, List.setIfInBounds_toArray, List.set_cons_zero, List.set_cons_succ]
      refine rg_skip 12 rfl (by kernel_rfl) (by kernel_rfl) (by kernel_rfl) (fun _ _ _ h => h) (by rfl) hS ?_
      simp only [Act.put, List.setIfInBounds_toArray, List.set_cons_zero, List.set_cons_succ]
      refine rg_skip 13 rfl (by kernel_rfl) (by kernel_rfl) (by kernel_rfl) (fun _ _ _ h => h) (by rfl) hS ?_
      simp only [Act.put, List.setIfInBounds_toArray, List.set_cons_zero, List.set_cons_succ]
      refine rg_skip 14 rfl (by kernel_rfl) (by kernel_rfl) (by kernel_rfl) (fun _ _ _ h => h) (by rfl) hS ?_
      simp only [Act.put, List.setIfInBounds_toArray, List.set_cons_zero, List.set_cons_succ]
      refine rg_take 15 (v := ?rv53) rfl (by kernel_rfl) (by kernel_rfl) (by kernel_rfl) (fun _ _ _ h => h) (by rfl) hS (fun w2 hw2 => ?ry53) ?rr53
      case ry53 => ((try dsimp only at hw2); go_simp <;> with_reducible rfl)
      simp only [Act.put, List.setIfInBounds_toArray, List.set_cons_zero, List.set_cons_succ]
      refine rg_take 16 (v := ?rv54) rfl (by kernel_rfl) (by kernel_rfl) (by kernel_rfl) (fun _ _ _ h => h) (by rfl) hS (fun w2 hw2 => ?ry54) ?rr54
      case ry54 => ((try dsimp only at hw2); go_simp <;> with_reducible rfl)
      simp only [Act.put, List.setIfInBounds_toArray, List.set_cons_zero, List.set_cons_succ]
      refine rg_skip 17 rfl (by kernel_rfl) (by kernel_rfl) (by kernel_rfl) (fun _ _ _ h => h) (by rfl) hS ?_
      simp only [Act.put, List.setIfInBounds_toArray, List.set_cons_zero, List.set_cons_succ]
      refine rg_skip 18 rfl (by kernel_rfl) (by kernel_rfl) (by kernel_rfl) (fun _ _ _ h => h) (by rfl) hS ?_
      simp only [Act.put, List.setIfInBounds_toArray, List.set_cons_zero, List.set_cons_succ]
      refine rg_skip 19 rfl (by kernel_rfl) (by kernel_rfl) (by kernel_rfl) (fun _ _ _ h => h) (by rfl) hS ?_
      simp only [Act.put, List.setIfInBounds_toArray, List.set_cons_zero, List.set_cons_succ]
      refine rg_skip 20 rfl (by kernel_rfl) (by kernel_rfl) (by kernel_rfl) (fun _ _ _ h => h) (by rfl) hS ?_
      simp only [Act.put, List.setIfInBounds_toArray, List.set_cons_zero, List.set_cons_succ]
      refine rg_skip 21 rfl (by kernel_rfl) (by kernel_rfl) (by kernel_rfl) (fun _ _ _ h => h) (by rfl) hS ?_
      simp only [Act.put, List.setIfInBounds_toArray, List.set_cons_zero, List.set_cons_succ]
      refine rg_skip 22 rfl (by kernel_rfl) (by kernel_rfl) (by kernel_rfl) (fun _ _ _ h => h) (by rfl) hS ?_
      simp only [Act.put, List.setIfInBounds_toArray, List.set_cons_zero, List.set_cons_succ]
      refine rg_skip 23 rfl (by kernel_rfl) (by kernel_rfl) (by kernel_rfl) (fun _ _ _ h => h) (by rfl) hS ?_
      simp only [Act.put, List.setIfInBounds_toArray, List.set_cons_zero, List.set_cons_succ]
      refine rg_skip 24 rfl (by kernel_rfl) (by kernel_rfl) (by kernel_rfl) (fun _ _ _ h => h) (by rfl) hS ?_
      simp only [Act.put, List.setIfInBounds_toArray, List.set_cons_zero, List.set_cons_succ]
      refine rg_skip 25 rfl (by kernel_rfl) (by kernel_rfl) (by kernel_rfl) (fun _ _ _ h => h) (by rfl) hS ?_
      simp only [Act.put, List.setIfInBounds_toArray, List.set_cons_zero, List.set_cons_succ]
      refine rg_skip 26 rfl (by kernel_rfl) (by kernel_rfl) (by kernel_rfl) (fun _ _ _ h => h) (by rfl) hS ?_
      simp only [Act.put, List.setIfInBounds_toArray, List.set_cons_zero, List.set_cons_succ]
      refine rg_take 27 (v := ?rv55) rfl (by kernel_rfl) (by kernel_rfl) (by kernel_rfl) (fun _ _ _ h => h) (by rfl) hS (fun w2 hw2 => ?ry55) ?rr55
      case ry55 => ((try dsimp only at hw2); go_simp <;> with_reducible rfl)
      simp only [Act.put, List.setIfInBounds_toArray, List.set_cons_zero, List.set_cons_succ]
      refine rg_take 28 (v := ?rv56) rfl (by kernel_rfl) (by kernel_rfl) (by kernel_rfl) (fun _ _ _ h => h) (by rfl) hS (fun w2 hw2 => ?ry56) ?rr56
      case ry56 => ((try dsimp only at hw2); go_simp <;> with_reducible rfl)
      simp only [Act.put, List.setIfInBounds_toArray, List.set_cons_zero, List.set_cons_succ]
      refine rg_done (by kernel_rfl) ?_
      have H2 := Lib.hid (B1.out.trans (hS.mono B1.out.size))
      clear hS
      go_wp2_with fail
      go_ret
      exact ⟨rfl, H2.out⟩
end Go.Proofs.YtoagfmonfgagbaaGreatDoor

namespace Go.Proofs.YtoagfmonfgagbaaGreatDoor
open Go.RowKit
set_option maxRecDepth 100000
def clrv (bs : List UInt8) (n i : Nat) : List UInt8 := bs.mapIdx fun j b => b &&& (mk8 (min (n - 8 * j) 8) ||| ~~~ mk8 (min (i - 8 * j) 8))
theorem clrv_len (bs : List UInt8) (n i : Nat) : (clrv bs n i).length = bs.length := by simp [clrv]
theorem clrv_get (bs : List UInt8) (n i j : Nat) : (clrv bs n i)[j]? = (bs[j]?).map fun b => b &&& (mk8 (min (n - 8 * j) 8) ||| ~~~ mk8 (min (i - 8 * j) 8)) := by simp [clrv]
theorem clrv_start (bs : List UInt8) (n : Nat) : clrv bs n n = bs := by
  apply List.ext_getElem?
  intro j
  rw [clrv_get]
  cases bs[j]? with
  | none => rfl
  | some b =>
    simp only [Option.map_some]
    rw [mk_full ⟨min (n - 8 * j) 8, by omega⟩, show (255 : UInt8) = -1 from rfl, UInt8.and_neg_one]
theorem clrv_end {bs : List UInt8} {n W : Nat} (h : firstv bs W = bs) (hn : n ≤ W) : clrv bs n W = firstv bs n := by
  apply List.ext_getElem?
  intro j
  rw [clrv_get, firstv_get]
  conv => lhs; rw [← h]
  rw [firstv_get, Option.map_map]
  congr 1
  funext b
  show b &&& mk8 (min (W - 8 * j) 8) &&& (mk8 (min (n - 8 * j) 8) ||| ~~~ mk8 (min (W - 8 * j) 8)) = b &&& mk8 (min (n - 8 * j) 8)
  rw [UInt8.and_assoc, mk_clr ⟨min (n - 8 * j) 8, by omega⟩ ⟨min (W - 8 * j) 8, by omega⟩ (by simp only; omega)]
theorem clrv_step {bs : List UInt8} {n j q : Nat} {b : UInt8} (hn : n ≤ 8 * j + q) (hq : q < 8) (hb : (clrv bs n (8 * j + q))[j]? = some b) : (clrv bs n (8 * j + q)).set j (b &&& ~~~ (UInt8.ofNat (2 ^ (7 - q)))) = clrv bs n (8 * j + q + 1) := by
  apply List.ext_getElem?
  intro k
  rw [List.getElem?_set, clrv_get, clrv_get]
  rw [clrv_get] at hb
  by_cases hk : j = k
  · subst hk
    rw [if_pos rfl]
    cases hbs : bs[j]? with
    | none => rw [hbs] at hb; cases hb
    | some x =>
      rw [hbs] at hb
      have hx : x &&& (mk8 (min (n - 8 * j) 8) ||| ~~~ mk8 (min (8 * j + q - 8 * j) 8)) = b := Option.some.inj hb
      have hlt : j < (clrv bs n (8 * j + q)).length := by rw [clrv_len]; exact (List.getElem?_eq_some_iff.1 hbs).1
      rw [if_pos hlt, ← hx, UInt8.and_assoc, show min (8 * j + q - 8 * j) 8 = q by omega]
      show some _ = some _
      have hm := mk_step ⟨min (n - 8 * j) 8, by omega⟩ ⟨q, hq⟩ (by simp only; omega)
      simp only at hm
      rw [hm, show min (8 * j + q + 1 - 8 * j) 8 = q + 1 by omega]
  · rw [if_neg hk]
    congr 1
    funext b
    rcases Nat.lt_or_gt_of_ne hk with h | h
    · rw [show min (8 * j + q - 8 * k) 8 = 0 by omega, show min (8 * j + q + 1 - 8 * k) 8 = 0 by omega]
    · rw [show min (8 * j + q - 8 * k) 8 = 8 by omega, show min (8 * j + q + 1 - 8 * k) 8 = 8 by omega]
theorem first_fix {bs : List UInt8} {n W : Nat} (hn : n ≤ W) : firstv (firstv bs n) W = firstv bs n := by rw [firstv_twice, Nat.min_eq_left hn]
theorem first_cut {bs : List UInt8} {n m : Nat} (hn : n ≤ m) : firstv (firstv bs m) n = firstv bs n := by rw [firstv_twice, Nat.min_eq_right hn]
theorem size_any (v6 : Bool) (bs : List UInt8) (hl : bs.length = 16) (w : World) : Calls Tryz.prog 40 #[.agg (adv v6 bs)] w fun e w' => e = .returned (.int .i64 (wid v6)) ∧ Below w.heap.size w w' := by
  have a1 := AdBox.new w v6 hl
  have b1 : Below w.heap.size w (w.alloc (.cells (adv v6 bs) 51)) := (Below.refl _ _).alloc (Nat.le_refl _) _
  have c1 := a1.v6_cell
  have H1 := Lib.hid b1
  generalize hW : w.alloc (.cells (adv v6 bs) 51) = W at c1 H1
  clear a1 b1
  cases v6
  · go_enter Tryz.func40, Tryz.ntmps40
    go_wp2
    go_ret
    exact ⟨rfl, H1.out⟩
  · go_enter Tryz.func40, Tryz.ntmps40
    go_wp2
    go_ret
    exact ⟨rfl, H1.out⟩
end Go.Proofs.YtoagfmonfgagbaaGreatDoor

namespace Go.Proofs.YtoagfmonfgagbaaGreatDoor
open Go.RowKit
set_option maxRecDepth 100000
theorem explicit16 {bs : List UInt8} (h : bs.length = 16) : ∃ a0 a1 a2 a3 a4 a5 a6 a7 a8 a9 a10 a11 a12 a13 a14 a15, bs = [a0, a1, a2, a3, a4, a5, a6, a7, a8, a9, a10, a11, a12, a13, a14, a15] := by
  match bs, h with
  | [a0, a1, a2, a3, a4, a5, a6, a7, a8, a9, a10, a11, a12, a13, a14, a15], _ => exact ⟨_, _, _, _, _, _, _, _, _, _, _, _, _, _, _, _, rfl⟩
theorem pxv_one (v6 : Bool) (bs : List UInt8) (n : Int) : (pxv v6 bs n).all (·.oneCell') = true :=
  Array.all_eq_true_iff_forall_mem.2 fun v hv => by
    simp only [pxv, List.mem_toArray, List.mem_cons, List.mem_append, List.mem_nil_iff, or_false] at hv
    rcases hv with rfl | hv | rfl
    · rfl
    · exact bv_one bs v hv
    · rfl
theorem px_zero : pxv false (List.replicate 16 0) 0 = #[Value.bool false, Value.int IntKind.u8 0, Value.int IntKind.u8 0, Value.int IntKind.u8 0, Value.int IntKind.u8 0, Value.int IntKind.u8 0, Value.int IntKind.u8 0, Value.int IntKind.u8 0, Value.int IntKind.u8 0, Value.int IntKind.u8 0, Value.int IntKind.u8 0, Value.int IntKind.u8 0, Value.int IntKind.u8 0, Value.int IntKind.u8 0, Value.int IntKind.u8 0, Value.int IntKind.u8 0, Value.int IntKind.u8 0, Value.int IntKind.i64 0] := rfl
theorem fold_px (v6 : Bool) {bs : List UInt8} (h : bs.length = 16) : Array.foldl (fun (cs : Array Value) (x : Value × Nat) => cs.setIfInBounds x.snd x.fst) #[Value.bool false, Value.int IntKind.u8 0, Value.int IntKind.u8 0, Value.int IntKind.u8 0, Value.int IntKind.u8 0, Value.int IntKind.u8 0, Value.int IntKind.u8 0, Value.int IntKind.u8 0, Value.int IntKind.u8 0, Value.int IntKind.u8 0, Value.int IntKind.u8 0, Value.int IntKind.u8 0, Value.int IntKind.u8 0, Value.int IntKind.u8 0, Value.int IntKind.u8 0, Value.int IntKind.u8 0, Value.int IntKind.u8 0, Value.int IntKind.i64 0] (adv v6 bs).zipIdx 0 17 = pxv v6 bs 0 := by
  obtain ⟨_, _, _, _, _, _, _, _, _, _, _, _, _, _, _, _, rfl⟩ := explicit16 h
  kernel_rfl
theorem set_px (v6 : Bool) {bs : List UInt8} (h : bs.length = 16) (n m : Int) : (pxv v6 bs n).setIfInBounds 17 (.int .i64 m) = pxv v6 bs m := by
  obtain ⟨_, _, _, _, _, _, _, _, _, _, _, _, _, _, _, _, rfl⟩ := explicit16 h
  kernel_rfl
theorem wpList_alloc_px {ops : Array Oper} {rest : List Oper} {o : Oper} {a : Act} {w : World} {Q : Exit → Act → World → Prop} (hgd : o.guard = none) (ho : o.op = .alloc 53)
    (h : ∀ w', PxBox w' w.heap.size false (List.replicate 16 0) 0 → Below w.heap.size w w' → w'.heap.size = w.heap.size + 1 → wpList Tryz.prog ops Q rest (a.put o.dst (.pointer (some ⟨w.heap.size, 0, none⟩))) w') : wpList Tryz.prog ops Q (o :: rest) a w :=
  wpList_plain hgd fun _ hK => by
    have h1 := hK _ _ (h (w.alloc (.cells (pxv false (List.replicate 16 0) 0) 53)) (PxBox.new w false 0 rfl) ((Below.refl _ w).alloc (Nat.le_refl _) _) (by simp))
    rw [px_zero] at h1
    obtain ⟨dst, op, ty, pos, after, guard⟩ := o
    simp only at ho
    subst ho
    go_simp
    exact h1
theorem wpList_store_px {ops : Array Oper} {rest : List Oper} {o : Oper} {a : Act} {w : World} {Q : Exit → Act → World → Prop} (hgd : o.guard = none) (x y : Operand) (ho : o.op = .store 53 x y) {g : Nat} (v6 : Bool) (bs : List UInt8) (n : Int) {v0 : Bool} {b0 : List UInt8} {n0 : Int}
    (hx : a.eval x = .pointer (some ⟨g, 0, none⟩)) (hy : a.eval y = .agg (pxv v6 bs n)) (hl : bs.length = 16) (hA : PxBox w g v0 b0 n0)
    (h : ∀ w', PxBox w' g v6 bs n → (∀ k, k ≠ g → w'.heap[k]? = w.heap[k]?) → w'.heap.size = w.heap.size → (∀ B w0, B ≤ g → Below B w0 w → Below B w0 w') → wpList Tryz.prog ops Q rest (a.put o.dst undef) w') : wpList Tryz.prog ops Q (o :: rest) a w :=
  wpList_store_row hgd 53 x y ho g (pxv v6 bs n) hx hy 53 _ hA.1 (px_size v6 n hl) (by rw [pxv_size v0 n0 hA.2, pxv_size v6 n hl]) (pxv_one v6 bs n)
    (h _ ⟨setRow_heap w g _ _ _ _ hA.1, hl⟩ (fun k hk => setRow_other w g k _ hk) (size_setRow w g _) (fun B w0 hB hb => below_setRow hb hB _))
theorem wpList_load_px {ops : Array Oper} {rest : List Oper} {o : Oper} {a : Act} {w : World} {Q : Exit → Act → World → Prop} (hgd : o.guard = none) (x : Operand) (ho : o.op = .load 53 x) {g : Nat} {v6 : Bool} {bs : List UInt8} {n : Int}
    (hx : a.eval x = .pointer (some ⟨g, 0, none⟩)) (hA : PxBox w g v6 bs n) (h : wpList Tryz.prog ops Q rest (a.put o.dst (.agg (pxv v6 bs n))) w) : wpList Tryz.prog ops Q (o :: rest) a w :=
  wpList_load_row hgd 53 x ho g hx 53 (pxv v6 bs n) (0, 0) _ hA.1 Tryz.underlying53 rfl (px_size v6 n hA.2) h
theorem wpList_load_row_w {ops : Array Oper} {rest : List Oper} {o : Oper} {a : Act} {w : World} {Q : Exit → Act → World → Prop} (hw : Region.wanted o (yielded ops a.tmps) = true) (ty : TypeId) (x : Operand) (ho : o.op = .load ty x) (b off : Nat) (hx : a.eval x = .pointer (some ⟨b, off, none⟩)) (cs : Array Value) (d : TypeDesc) (hc : w.rangeAt b off cs.toList)
    (hu : Tryz.prog.underlying ty = some d) (hd : d.isRow = true) (hi : (Tryz.prog.info? ty).map (·.size) = some cs.size) (h : wpList Tryz.prog ops Q rest (a.put o.dst (.agg cs)) w) : wpList Tryz.prog ops Q (o :: rest) a w := by
  have h1 := wp_load_mid (P := Tryz.prog) (op := o) (a := a) (w := w) (K := wpList Tryz.prog ops Q rest) (Q := Q) ty x ho b off hx cs.toList d hc hu hd (by simpa using hi) (by simpa using h)
  unfold wpList
  rw [if_pos hw]
  exact .inl h1
theorem PxBox.same {w w' : World} {g : Nat} {v6 : Bool} {bs : List UInt8} {n : Int} (h : PxBox w g v6 bs n) (hh : w'.heap[g]? = w.heap[g]?) : PxBox w' g v6 bs n := ⟨hh.trans h.1, h.2⟩
theorem results_px_tmp {fn : Func} {p u : Tmp} (h : fn.results = #[.cell p 53, .tmp u]) (tmps : Array Value) {w : World} {g : Nat} {v6 : Bool} {bs : List UInt8} {n : Int} (hp : tmps.getD p undef = .pointer (some ⟨g, 0, none⟩)) (hA : PxBox w g v6 bs n) :
    (results fn tmps).run Tryz.prog w = .ok (.tuple #[.agg (pxv v6 bs n), tmps.getD u undef]) w := by
  rw [results_cell_tmp h, hp]
  simp [asAddr, run_loadVar_row w g 53 53 (pxv v6 bs n) (0, 0) _ hA.1 Tryz.underlying53 rfl (px_size v6 n hA.2)]
end Go.Proofs.YtoagfmonfgagbaaGreatDoor

namespace Go.Proofs.YtoagfmonfgagbaaGreatDoor
open Go.RowKit
set_option maxRecDepth 100000
theorem part_v6 (v : Bool) {a : List UInt8} (ha : a.length = 16) (w : World) : (part 4 (adv v a) 0).run Tryz.prog w = .ok (.bool v) w := by
  obtain ⟨_, _, _, _, _, _, _, _, _, _, _, _, _, _, _, _, rfl⟩ := explicit16 ha
  kernel_rfl
theorem part_b (v : Bool) {a : List UInt8} (ha : a.length = 16) (w : World) : (part 49 (adv v a) 1).run Tryz.prog w = .ok (.agg (bv a).toArray) w := by
  obtain ⟨_, _, _, _, _, _, _, _, _, _, _, _, _, _, _, _, rfl⟩ := explicit16 ha
  kernel_rfl
theorem fields_ad : ∃ f g : Field, (Tryz.prog.fieldsOf 51).toList = [f, g] ∧ (f.name ≠ "_") ∧ (g.name ≠ "_") ∧ f.type = 4 ∧ f.offset = 0 ∧ g.type = 49 ∧ g.offset = 1 := by
  refine ⟨(Tryz.prog.fieldsOf 51).toList.head!, (Tryz.prog.fieldsOf 51).toList.tail.head!, by kernel_rfl, ?_, ?_, by kernel_rfl, by kernel_rfl, by kernel_rfl, by kernel_rfl⟩
  · exact of_decide_eq_true (by kernel_rfl)
  · exact of_decide_eq_true (by kernel_rfl)
theorem eqIn_ad (d : Nat) (v u : Bool) {a b : List UInt8} (ha : a.length = 16) (hb : b.length = 16) (w : World) : (Op.equalIn (d + 3) 51 (.agg (adv v a)) (.agg (adv u b))).run Tryz.prog w = .ok ((v == u) && (a == b)) w := by
  rw [run_equalIn_struct w (d + 2) 51 _ _ (by kernel_rfl) (by kernel_rfl)]
  obtain ⟨f, g, hf, h1, h2, h3, h4, h5, h6⟩ := fields_ad
  rw [hf]
  have e1 : (Op.equalIn (d + 2) 4 (.bool v) (.bool u)).run Tryz.prog w = .ok (v == u) w := by
    simp [Op.equalIn, run_underlying Tryz.underlying4]
  have e2 : (Op.equalIn (d + 2) 49 (.agg (bv a).toArray) (.agg (bv b).toArray)).run Tryz.prog w = .ok (a == b) w :=
    run_equalIn_bytes w d 49 5 16 Tryz.underlying49 Tryz.underlying5 (fun w => by kernel_rfl) a b ha hb
  simp only [Op.eqFields, if_pos h1, if_pos h2, h3, h4, h5, h6, Sem.run_bind, part_v6 v ha, part_v6 u hb, part_b v ha, part_b u hb, e1, e2, Result.andThen_ok, Sem.run_ite, Sem.run_pure]
  cases v <;> cases u <;> cases (a == b) <;> rfl
theorem eql_ad (v u : Bool) {a b : List UInt8} (ha : a.length = 16) (hb : b.length = 16) (w : World) : (binOp .eql 51 (.agg (adv v a)) (.agg (adv u b))).run Tryz.prog w = .ok (.bool ((v == u) && (a == b))) w := by
  rw [run_eql_struct]
  have h := eqIn_ad 9997 v u ha hb w
  rw [show (10000 : Nat) = 9997 + 3 from rfl] at *
  simp only [h]
  rfl
end Go.Proofs.YtoagfmonfgagbaaGreatDoor

namespace Go.Proofs.YtoagfmonfgagbaaGreatDoor
open Go.RowKit
set_option maxRecDepth 100000
theorem right_yes {bs : List UInt8} (hl : bs.length = 16) (h : ∀ (i : Nat) (x : UInt8), 4 ≤ i → bs[i]? = some x → x = 0) : rightv false bs = true := by
  unfold rightv
  rw [show wid false = 32 from rfl, show firstv bs 32 = norm false bs from (norm_first false hl).symm]
  have : norm false bs = bs := by
    show bs.take 4 ++ List.replicate 12 0 = bs
    apply List.ext_getElem?
    intro i
    by_cases h4 : i < 4
    · rw [List.getElem?_append_left (by rw [List.length_take]; omega), List.getElem?_take, if_pos h4]
    · rw [List.getElem?_append_right (by rw [List.length_take]; omega), List.length_take, List.getElem?_replicate]
      by_cases h16 : i < 16
      · rw [if_pos (by omega), List.getElem?_eq_getElem (by omega), h i bs[i] (by omega) (List.getElem?_eq_getElem (by omega))]
      · rw [if_neg (by omega), List.getElem?_eq_none (by omega)]
  rw [this, beq_self_eq_true]
theorem right_no {bs : List UInt8} {i : Nat} {x : UInt8} (h4 : 4 ≤ i) (hx : bs[i]? = some x) (h0 : x ≠ 0) : rightv false bs = false := by
  cases hr : rightv false bs with
  | false => rfl
  | true =>
    unfold rightv at hr
    have h1 := eq_of_beq hr
    rw [show wid false = 32 from rfl] at h1
    rw [h1, firstv_get] at hx
    cases hb : bs[i]? with
    | none => rw [hb] at hx; cases hx
    | some b =>
      rw [hb] at hx
      have h2 : b &&& mk8 (min (32 - 8 * i) 8) = x := Option.some.inj hx
      rw [show min (32 - 8 * i) 8 = 0 by omega, show mk8 0 = 0 from rfl, UInt8.and_zero] at h2
      exact absurd h2.symm h0
set_option maxHeartbeats 1000000 in
theorem refRight_any (v6 : Bool) (bs : List UInt8) (hl : bs.length = 16) (w : World) : Calls Tryz.prog 37 #[.agg (adv v6 bs)] w fun e w' => e = .returned (.bool (rightv v6 bs)) ∧ Below w.heap.size w w' := by
  have A1 := AdBox.new w v6 hl
  have B1 : Below w.heap.size w (w.alloc (.cells (adv v6 bs) 51)) := (Below.refl _ _).alloc (Nat.le_refl _) _
  have c0 := A1.v6_cell
  have H1 := Lib.hid (And.intro A1 B1)
  clear A1 B1
  generalize hW : w.alloc (.cells (adv v6 bs) 51) = W at c0 H1
  cases v6 with
  | true =>
    have hr : rightv true bs = true := by unfold rightv; rw [show wid true = 128 from rfl, firstv_all (by omega), beq_self_eq_true]
    rw [hr]
    clear hr
    go_enter Tryz.func37, Tryz.ntmps37
    go_wp2_with fail
    go_loop [3] (fun i => ∃ j : Nat, 4 ≤ j ∧ j ≤ 16 ∧ i = .int .i64 j) (fun i => 16 - (intOf i).toNat)
    case atStart => exact ⟨4, by omega, by omega, rfl⟩
    case round =>
      obtain ⟨j, h4, h16, rfl⟩ := hrel
      by_cases hlt : j < 16
      · go_wp2_with fail
        go_round
        case rel => exact ⟨j + 1, by omega, by omega, by go_num⟩
        case measure => simp [intOf]; omega
      · obtain rfl : j = 16 := by omega
        go_wp2_with fail
        go_ret
        exact ⟨rfl, H1.out.2⟩
  | false =>
    go_enter Tryz.func37, Tryz.ntmps37
    go_wp2_with fail
    go_loop [3] (fun i => ∃ j : Nat, 4 ≤ j ∧ j ≤ 16 ∧ i = .int .i64 j ∧ ∀ (k : Nat) (x : UInt8), 4 ≤ k → k < j → bs[k]? = some x → x = 0) (fun i => 16 - (intOf i).toNat)
    case atStart => exact ⟨4, by omega, by omega, rfl, fun k x h1 h2 => by omega⟩
    case round =>
      obtain ⟨j, h4, h16, rfl, hz⟩ := hrel
      have HZ := Lib.hid hz
      clear hz
      by_cases hlt : j < 16
      · obtain ⟨x, hx, hc⟩ := H1.out.1.there j hlt
        by_cases hx0 : x = 0
        · subst hx0
          have hc0 : W.cell? ⟨w.heap.size, 1 + j, none⟩ = some (.int .u8 0) := hc
          clear hc
          have HX := Lib.hid hx
          clear hx
          go_wp2_with fail
          go_round
          case rel =>
            refine ⟨j + 1, by omega, by omega, by go_num, fun k x h1 h2 h3 => ?_⟩
            by_cases hk : k = j
            · subst hk; exact (Option.some.inj (HX.out.symm.trans h3)).symm
            · exact HZ.out k x h1 (by omega) h3
          case measure => simp [intOf]; omega
        · have hr := right_no h4 hx hx0
          have hn0 : ¬ (x.toNat : Int) = 0 := fun h => hx0 (by
            have h2 : x.toNat = 0 := by omega
            exact UInt8.toNat_inj.1 h2)
          have HR := Lib.hid hr
          clear hr hx
          go_wp2_with fail
          go_ret
          exact ⟨by rw [HR.out]; rfl, H1.out.2⟩
      · obtain rfl : j = 16 := by omega
        have hr := right_yes hl (fun i x h4 hx => HZ.out i x h4 (by have := (List.getElem?_eq_some_iff.1 hx).1; omega) hx)
        have HR := Lib.hid hr
        clear hr
        go_wp2_with fail
        go_ret
        exact ⟨by rw [HR.out]; rfl, H1.out.2⟩
end Go.Proofs.YtoagfmonfgagbaaGreatDoor

namespace Go.Proofs.YtoagfmonfgagbaaGreatDoor
open Go.RowKit
set_option maxRecDepth 100000
def bitv (bs : List UInt8) (i : Nat) : Nat := (bs.getD (i / 8) 0).toNat / 2 ^ (7 - i % 8) % 2
theorem and1 : ∀ y : Fin 256, bits .and .i64 (y.val : Int) 1 = ((y.val % 2 : Nat) : Int) := by decide +kernel
theorem and1' (x : UInt8) (k : Nat) : bits .and .i64 ((x.toNat / 2 ^ k : Nat) : Int) 1 = ((x.toNat / 2 ^ k % 2 : Nat) : Int) :=
  and1 ⟨x.toNat / 2 ^ k, Nat.lt_of_le_of_lt (Nat.div_le_self _ _) x.toNat_lt⟩
set_option maxHeartbeats 1000000 in
theorem bit_any (v6 : Bool) (bs : List UInt8) (hl : bs.length = 16) (i : Nat) (hi : i < 128) (w : World) : Calls Tryz.prog 82 #[.agg (adv v6 bs), .int .i64 i] w fun e w' => e = .returned (.int .i64 (bitv bs i)) ∧ Below w.heap.size w w' := by
  have A1 := AdBox.new w v6 hl
  have B1 : Below w.heap.size w (w.alloc (.cells (adv v6 bs) 51)) := (Below.refl _ _).alloc (Nat.le_refl _) _
  obtain ⟨b, hb8⟩ : ∃ b, i / 8 = b := ⟨_, rfl⟩
  have hb16 : b < 16 := by omega
  have i1 : (i : Int) / 8 = (b : Int) := by omega
  obtain ⟨x, hx, hc⟩ := A1.there b hb16
  have H1 := Lib.hid B1
  have hbit : bitv bs i = x.toNat / 2 ^ (7 - i % 8) % 2 := by
    unfold bitv
    rw [hb8]
    simp [List.getD, hx]
  have hx2 := x.toNat_lt
  clear A1 B1
  generalize hW : w.alloc (.cells (adv v6 bs) 51) = W at hc H1
  rcases (show i % 8 = 0 ∨ i % 8 = 1 ∨ i % 8 = 2 ∨ i % 8 = 3 ∨ i % 8 = 4 ∨ i % 8 = 5 ∨ i % 8 = 6 ∨ i % 8 = 7 by omega) with hq | hq | hq | hq | hq | hq | hq | hq
  · have i2 : (i : Int) % 8 = 0 := by omega
    have ha := and1' x (7 - 0)
    have HA := Lib.hid ha
    clear ha
    rw [hq] at hbit
    have HB := Lib.hid hbit
    clear hbit hq
    go_enter Tryz.func82, Tryz.ntmps82
    go_wp2_with fail
    go_ret
    rw [HB.out]
    refine ⟨?_, H1.out⟩
    rw [← HA.out]
    first
      | rfl
      | (rw [show (2 : Nat) ^ (7 - 7) = 1 from rfl, Nat.div_one]; rfl)
  · have i2 : (i : Int) % 8 = 1 := by omega
    have ha := and1' x (7 - 1)
    have HA := Lib.hid ha
    clear ha
    rw [hq] at hbit
    have HB := Lib.hid hbit
    clear hbit hq
    go_enter Tryz.func82, Tryz.ntmps82
    go_wp2_with fail
    go_ret
    rw [HB.out]
    refine ⟨?_, H1.out⟩
    rw [← HA.out]
    first
      | rfl
      | (rw [show (2 : Nat) ^ (7 - 7) = 1 from rfl, Nat.div_one]; rfl)
  · have i2 : (i : Int) % 8 = 2 := by omega
    have ha := and1' x (7 - 2)
    have HA := Lib.hid ha
    clear ha
    rw [hq] at hbit
    have HB := Lib.hid hbit
    clear hbit hq
    go_enter Tryz.func82, Tryz.ntmps82
    go_wp2_with fail
    go_ret
    rw [HB.out]
    refine ⟨?_, H1.out⟩
    rw [← HA.out]
    first
      | rfl
      | (rw [show (2 : Nat) ^ (7 - 7) = 1 from rfl, Nat.div_one]; rfl)
  · have i2 : (i : Int) % 8 = 3 := by omega
    have ha := and1' x (7 - 3)
    have HA := Lib.hid ha
    clear ha
    rw [hq] at hbit
    have HB := Lib.hid hbit
    clear hbit hq
    go_enter Tryz.func82, Tryz.ntmps82
    go_wp2_with fail
    go_ret
    rw [HB.out]
    refine ⟨?_, H1.out⟩
    rw [← HA.out]
    first
      | rfl
      | (rw [show (2 : Nat) ^ (7 - 7) = 1 from rfl, Nat.div_one]; rfl)
  · have i2 : (i : Int) % 8 = 4 := by omega
    have ha := and1' x (7 - 4)
    have HA := Lib.hid ha
    clear ha
    rw [hq] at hbit
    have HB := Lib.hid hbit
    clear hbit hq
    go_enter Tryz.func82, Tryz.ntmps82
    go_wp2_with fail
    go_ret
    rw [HB.out]
    refine ⟨?_, H1.out⟩
    rw [← HA.out]
    first
      | rfl
      | (rw [show (2 : Nat) ^ (7 - 7) = 1 from rfl, Nat.div_one]; rfl)
  · have i2 : (i : Int) % 8 = 5 := by omega
    have ha := and1' x (7 - 5)
    have HA := Lib.hid ha
    clear ha
    rw [hq] at hbit
    have HB := Lib.hid hbit
    clear hbit hq
    go_enter Tryz.func82, Tryz.ntmps82
    go_wp2_with fail
    go_ret
    rw [HB.out]
    refine ⟨?_, H1.out⟩
    rw [← HA.out]
    first
      | rfl
      | (rw [show (2 : Nat) ^ (7 - 7) = 1 from rfl, Nat.div_one]; rfl)
  · have i2 : (i : Int) % 8 = 6 := by omega
    have ha := and1' x (7 - 6)
    have HA := Lib.hid ha
    clear ha
    rw [hq] at hbit
    have HB := Lib.hid hbit
    clear hbit hq
    go_enter Tryz.func82, Tryz.ntmps82
    go_wp2_with fail
    go_ret
    rw [HB.out]
    refine ⟨?_, H1.out⟩
    rw [← HA.out]
    first
      | rfl
      | (rw [show (2 : Nat) ^ (7 - 7) = 1 from rfl, Nat.div_one]; rfl)
  · have i2 : (i : Int) % 8 = 7 := by omega
    have ha := and1' x (7 - 7)
    have HA := Lib.hid ha
    clear ha
    rw [hq] at hbit
    have HB := Lib.hid hbit
    clear hbit hq
    go_enter Tryz.func82, Tryz.ntmps82
    go_wp2_with fail
    go_ret
    rw [HB.out]
    refine ⟨?_, H1.out⟩
    rw [← HA.out]
    first
      | rfl
      | (rw [show (2 : Nat) ^ (7 - 7) = 1 from rfl, Nat.div_one]; rfl)
end Go.Proofs.YtoagfmonfgagbaaGreatDoor

namespace Go.Proofs.YtoagfmonfgagbaaGreatDoor
open Go.RowKit
set_option maxRecDepth 100000
theorem bit_zero : ∀ b : Fin 256, ∀ k : Fin 9, (UInt8.ofNat b.val &&& mk8 k.val = UInt8.ofNat b.val) ↔ (∀ j : Fin 8, k.val ≤ j.val → b.val / 2 ^ (7 - j.val) % 2 = 0) := by decide +kernel
theorem mask_zero (x : UInt8) {k : Nat} (hk : k ≤ 8) : x &&& mk8 k = x ↔ ∀ j, j < 8 → k ≤ j → x.toNat / 2 ^ (7 - j) % 2 = 0 := by
  have h := bit_zero ⟨x.toNat, x.toNat_lt⟩ ⟨k, by omega⟩
  simp only [UInt8.ofNat_toNat] at h
  rw [h]
  exact ⟨fun h j hj => h ⟨j, hj⟩, fun h j => h j.val j.isLt⟩
theorem bitv_at {bs : List UInt8} {i j : Nat} {b : UInt8} (hb : bs[i]? = some b) (hj : j < 8) : bitv bs (8 * i + j) = b.toNat / 2 ^ (7 - j) % 2 := by
  unfold bitv
  rw [show (8 * i + j) / 8 = i by omega, show (8 * i + j) % 8 = j by omega]
  simp [List.getD, hb]
theorem first_fix_iff {bs : List UInt8} (hl : bs.length = 16) (n : Nat) : firstv bs n = bs ↔ ∀ i, n ≤ i → i < 128 → bitv bs i = 0 := by
  constructor
  · intro h i hi h128
    obtain ⟨b, hb⟩ : ∃ b, bs[i / 8]? = some b := ⟨bs[i / 8]'(by omega), List.getElem?_eq_getElem _⟩
    have h1 : (firstv bs n)[i / 8]? = some b := by rw [h, hb]
    rw [firstv_get, hb] at h1
    have h2 : b &&& mk8 (min (n - 8 * (i / 8)) 8) = b := Option.some.inj h1
    have h3 := (mask_zero b (by omega)).1 h2 (i % 8) (by omega) (by omega)
    have h4 := bitv_at hb (show i % 8 < 8 by omega)
    rw [show 8 * (i / 8) + i % 8 = i by omega] at h4
    rw [h4, h3]
  · intro h
    apply List.ext_getElem?
    intro i
    rw [firstv_get]
    cases hb : bs[i]? with
    | none => rfl
    | some b =>
      have hi := (List.getElem?_eq_some_iff.1 hb).1
      show some (b &&& mk8 (min (n - 8 * i) 8)) = some b
      rw [(mask_zero b (by omega)).2 (fun j hj hk => by rw [← bitv_at hb hj]; exact h (8 * i + j) (by omega) (by omega))]
theorem rightnet_bits {v6 : Bool} {bs : List UInt8} (hl : bs.length = 16) {n : Nat} (hr : rightv v6 bs = true) (hn : n ≤ wid v6) : rightnetv v6 bs n = true ↔ ∀ i, n ≤ i → i < 128 → bitv bs i = 0 := by
  rw [← first_fix_iff hl]
  unfold rightnetv
  rw [hr, Int.toNat_natCast, decide_eq_true (show (0 : Int) ≤ n by omega), decide_eq_true (show (n : Int) ≤ wid v6 by omega)]
  simp only [Bool.true_and, beq_iff_eq]
  exact ⟨Eq.symm, Eq.symm⟩
set_option maxHeartbeats 4000000 in
theorem refRightNet_any (v6 : Bool) (bs : List UInt8) (hl : bs.length = 16) (n : Int) (w : World) : Calls Tryz.prog 64 #[.agg (pxv v6 bs n)] w fun e w' => e = .returned (.bool (rightnetv v6 bs n)) ∧ Below w.heap.size w w' := by
  have P1 := Lib.hid (PxBox.new w v6 n hl)
  have B1 := Lib.hid ((Below.refl w.heap.size w).alloc (Nat.le_refl _) (.cells (pxv v6 bs n) 53))
  cases hr : rightv v6 bs with
  | false =>
    have hres : rightnetv v6 bs n = false := by unfold rightnetv; rw [hr]; rfl
    rw [hres]
    clear hres
    go_enter Tryz.func64, Tryz.ntmps64
    go_wp2_with fail
    generalize hW : w.alloc (.cells (pxv v6 bs n) 53) = W at P1 B1 ⊢
    clear hW
    have hS : Below W.heap.size W W.drew := (Below.refl _ _).drew
    refine rg_begin (fun w' => Below W.heap.size W w') 17 (by kernel_rfl) rfl ?_
    refine rg_take 0 (v := ?rv1) rfl (by kernel_rfl) (by kernel_rfl) (by kernel_rfl) (fun _ _ _ h => h) (by rfl) hS (fun w2 hw2 => ?ry1) ?rr1
    case ry1 => ((try dsimp only at hw2); go_simp <;> with_reducible rfl)
    simp only [Act.put, List.setIfInBounds_toArray, List.set_cons_zero, List.set_cons_succ]
    refine rg_load 1 rfl (by kernel_rfl) (by kernel_rfl) (by kernel_rfl) (w.heap.size) (0) ((adv v6 bs)) (fun _ _ _ h => h) (by rfl) 51 (.tmp 4) rfl rfl hS (fun w2 h2 => (P1.out.later h2 (Nat.le_refl _)).range0) Tryz.underlying51 rfl (ad_size v6 hl) ?_
    simp only [Act.put, List.setIfInBounds_toArray, List.set_cons_zero, List.set_cons_succ]
    refine rg_step 2 rfl (by kernel_rfl) (by rfl) (fun K hK => ?_)
    go_simp
    refine (refRight_any v6 bs hl _).mono ?_
    rw [hr]
    rintro e w1 ⟨rfl, b1⟩
    replace hS := hS.trans (b1.mono hS.size)
    clear b1
    refine hK.out _ _ hS ?_
    clear hK K
    try simp only [Act.put, List.setIfInBounds_toArray, List.set_cons_zero, List.set_cons_succ]
    refine rg_take 3 (v := ?rv2) rfl (by kernel_rfl) (by kernel_rfl) (by kernel_rfl) (fun _ _ _ h => h) (by rfl) hS (fun w2 hw2 => ?ry2) ?rr2
    case ry2 => ((try dsimp only at hw2); go_simp <;> with_reducible rfl)
    simp only [Act.put, List.setIfInBounds_toArray, List.set_cons_zero, List.set_cons_succ]
    refine rg_take 4 (v := ?rv3) rfl (by kernel_rfl) (by kernel_rfl) (by kernel_rfl) (fun _ _ _ h => h) (by rfl) hS (fun w2 hw2 => ?ry3) ?rr3
    case ry3 => ((try dsimp only at hw2); go_simp <;> with_reducible rfl)
    simp only [Act.put, List.setIfInBounds_toArray, List.set_cons_zero, List.set_cons_succ]
    refine rg_skip 5 rfl (by kernel_rfl) (by kernel_rfl) (by kernel_rfl) (fun _ _ _ h => h) (by rfl) hS ?_
    simp only [Act.put, List.setIfInBounds_toArray, List.set_cons_zero, List.set_cons_succ]
    refine rg_skip 6 rfl (by kernel_rfl) (by kernel_rfl) (by kernel_rfl) (fun _ _ _ h => h) (by rfl) hS ?_
    simp only [Act.put, List.setIfInBounds_toArray, List.set_cons_zero, List.set_cons_succ]
    refine rg_skip 7 rfl (by kernel_rfl) (by kernel_rfl) (by kernel_rfl) (fun _ _ _ h => h) (by rfl) hS ?_
    simp only [Act.put, List.setIfInBounds_toArray, List.set_cons_zero, List.set_cons_succ]
    refine rg_take 8 (v := ?rv4) rfl (by kernel_rfl) (by kernel_rfl) (by kernel_rfl) (fun _ _ _ h => h) (by rfl) hS (fun w2 hw2 => ?ry4) ?rr4
    case ry4 => ((try dsimp only at hw2); go_simp <;> with_reducible rfl)
    simp only [Act.put, List.setIfInBounds_toArray, List.set_cons_zero, List.set_cons_succ]
    refine rg_take 9 (v := ?rv5) rfl (by kernel_rfl) (by kernel_rfl) (by kernel_rfl) (fun _ _ _ h => h) (by rfl) hS (fun w2 hw2 => ?ry5) ?rr5
    case ry5 => ((try dsimp only at hw2); go_simp <;> with_reducible rfl)
    simp only [Act.put, List.setIfInBounds_toArray, List.set_cons_zero, List.set_cons_succ]
    refine rg_skip 10 rfl (by kernel_rfl) (by kernel_rfl) (by kernel_rfl) (fun _ _ _ h => h) (by rfl) hS ?_
    simp only [Act.put, List.setIfInBounds_toArray, List.set_cons_zero, List.set_cons_succ]
    refine rg_skip 11 rfl (by kernel_rfl) (by kernel_rfl) (by kernel_rfl) (fun _ _ _ h => h) (by rfl) hS ?_
    simp only [Act.put, List.setIfInBounds_toArray, List.set_cons_zero, List.set_cons_succ]
    refine rg_skip 12 rfl (by kernel_rfl) (by kernel_rfl) (by kernel_rfl) (fun _ _ _ h => h) (by rfl) hS ?_
    simp only [Act.put, List.setIfInBounds_toArray, List.set_cons_zero, List.set_cons_succ]
    refine rg_skip 13 rfl (by kernel_rfl) (by kernel_rfl) (by kernel_rfl) (fun _ _ _ h => h) (by rfl) hS ?_
    simp only [Act.put, List.setIfInBounds_toArray, List.set_cons_zero, List.set_cons_succ]
    refine rg_skip 14 rfl (by kernel_rfl) (by kernel_rfl) (by kernel_rfl) (fun _ _ _ h => h) (by rfl) hS ?_
    simp only [Act.put, List.setIfInBounds_toArray, List.set_cons_zero, List.set_cons_succ]
    refine rg_skip 15 rfl (by kernel_rfl) (by kernel_rfl) (by kernel_rfl) (fun _ _ _ h => h) (by rfl) hS ?_
    simp only [Act.put, List.setIfInBounds_toArray, List.set_cons_zero, List.set_cons_succ]
    refine rg_take 16 (v := ?rv6) rfl (by kernel_rfl) (by kernel_rfl) (by kernel_rfl) (fun _ _ _ h => h) (by rfl) hS (fun w2 hw2 => ?ry6) ?rr6
    case ry6 => ((try dsimp only at hw2); go_simp <;> with_reducible rfl)
    simp only [Act.put, List.setIfInBounds_toArray, List.set_cons_zero, List.set_cons_succ]
    refine rg_done (by kernel_rfl) ?_
    have H2 := Lib.hid (B1.out.trans (hS.mono B1.out.size))
    clear hS
    go_wp2_with fail
    go_ret
    exact ⟨rfl, H2.out⟩
  | true =>
    by_cases h0 : 0 ≤ n
    · have hd0 : decide (n < 0) = false := decide_eq_false (by omega)
      by_cases h1 : n ≤ wid v6
      · have hd1 : decide ((wid v6 : Int) < n) = false := decide_eq_false (by omega)
        obtain ⟨m, rfl⟩ : ∃ m : Nat, n = m := ⟨n.toNat, by omega⟩
        have hwl := wid_le v6
        have hm : m ≤ 128 := by omega
        have hd1n : decide (wid v6 < m) = false := decide_eq_false (by omega)
        have hbits := rightnet_bits hl hr (show m ≤ wid v6 by omega)
        have HBI := Lib.hid hbits
        clear hbits
        go_enter Tryz.func64, Tryz.ntmps64
        go_wp2_with fail
        generalize hW : w.alloc (.cells (pxv v6 bs m) 53) = W at P1 B1 ⊢
        clear hW
        have hcB : ∀ w', Below W.heap.size W w' → w'.cell? ⟨w.heap.size, 17, none⟩ = some (.int .i64 m) := fun w' h => (P1.out.later h (Nat.le_refl _)).bits_cell
        have hS : Below W.heap.size W W.drew := (Below.refl _ _).drew
        refine rg_begin (fun w' => Below W.heap.size W w') 17 (by kernel_rfl) rfl ?_
        refine rg_take 0 (v := ?rv7) rfl (by kernel_rfl) (by kernel_rfl) (by kernel_rfl) (fun _ _ _ h => h) (by rfl) hS (fun w2 hw2 => ?ry7) ?rr7
        case ry7 => ((try dsimp only at hw2); go_simp <;> with_reducible rfl)
        simp only [Act.put, List.setIfInBounds_toArray, List.set_cons_zero, List.set_cons_succ]
        refine rg_load 1 rfl (by kernel_rfl) (by kernel_rfl) (by kernel_rfl) (w.heap.size) (0) ((adv v6 bs)) (fun _ _ _ h => h) (by rfl) 51 (.tmp 4) rfl rfl hS (fun w2 h2 => (P1.out.later h2 (Nat.le_refl _)).range0) Tryz.underlying51 rfl (ad_size v6 hl) ?_
        simp only [Act.put, List.setIfInBounds_toArray, List.set_cons_zero, List.set_cons_succ]
        refine rg_step 2 rfl (by kernel_rfl) (by rfl) (fun K hK => ?_)
        go_simp
        refine (refRight_any v6 bs hl _).mono ?_
        rw [hr]
        rintro e w1 ⟨rfl, b1⟩
        replace hS := hS.trans (b1.mono hS.size)
        clear b1
        refine hK.out _ _ hS ?_
        clear hK K
        try simp only [Act.put, List.setIfInBounds_toArray, List.set_cons_zero, List.set_cons_succ]
        refine rg_take 3 (v := ?rv8) rfl (by kernel_rfl) (by kernel_rfl) (by kernel_rfl) (fun _ _ _ h => h) (by rfl) hS (fun w2 hw2 => ?ry8) ?rr8
        case ry8 => ((try dsimp only at hw2); go_simp <;> with_reducible rfl)
        simp only [Act.put, List.setIfInBounds_toArray, List.set_cons_zero, List.set_cons_succ]
        refine rg_take 4 (v := ?rv9) rfl (by kernel_rfl) (by kernel_rfl) (by kernel_rfl) (fun _ _ _ h => h) (by rfl) hS (fun w2 hw2 => ?ry9) ?rr9
        case ry9 => ((try dsimp only at hw2); go_simp <;> with_reducible rfl)
        simp only [Act.put, List.setIfInBounds_toArray, List.set_cons_zero, List.set_cons_succ]
        refine rg_take 5 (v := ?rv10) rfl (by kernel_rfl) (by kernel_rfl) (by kernel_rfl) (fun _ _ _ h => h) (by rfl) hS (fun w2 hw2 => ?ry10) ?rr10
        case ry10 => ((try dsimp only at hw2); go_simp <;> with_reducible rfl)
        simp only [Act.put, List.setIfInBounds_toArray, List.set_cons_zero, List.set_cons_succ]
        refine rg_take 6 (v := ?rv11) rfl (by kernel_rfl) (by kernel_rfl) (by kernel_rfl) (fun _ _ _ h => h) (by rfl) hS (fun w2 hw2 => ?ry11) ?rr11
        case ry11 => ((try dsimp only at hw2); go_simp <;> with_reducible rfl)
        simp only [Act.put, List.setIfInBounds_toArray, List.set_cons_zero, List.set_cons_succ]
        refine rg_take 7 (v := ?rv12) rfl (by kernel_rfl) (by kernel_rfl) (by kernel_rfl) (fun _ _ _ h => h) (by rfl) hS (fun w2 hw2 => ?ry12) ?rr12
        case ry12 => ((try dsimp only at hw2); go_simp <;> with_reducible rfl)
        simp only [Act.put, List.setIfInBounds_toArray, List.set_cons_zero, List.set_cons_succ]
        refine rg_take 8 (v := ?rv13) rfl (by kernel_rfl) (by kernel_rfl) (by kernel_rfl) (fun _ _ _ h => h) (by rfl) hS (fun w2 hw2 => ?ry13) ?rr13
        case ry13 => ((try dsimp only at hw2); go_simp <;> with_reducible rfl)
        simp only [Act.put, List.setIfInBounds_toArray, List.set_cons_zero, List.set_cons_succ]
        refine rg_take 9 (v := ?rv14) rfl (by kernel_rfl) (by kernel_rfl) (by kernel_rfl) (fun _ _ _ h => h) (by rfl) hS (fun w2 hw2 => ?ry14) ?rr14
        case ry14 => ((try dsimp only at hw2); go_simp <;> with_reducible rfl)
        simp only [Act.put, List.setIfInBounds_toArray, List.set_cons_zero, List.set_cons_succ]
        refine rg_take 10 (v := ?rv15) rfl (by kernel_rfl) (by kernel_rfl) (by kernel_rfl) (fun _ _ _ h => h) (by rfl) hS (fun w2 hw2 => ?ry15) ?rr15
        case ry15 => ((try dsimp only at hw2); go_simp <;> with_reducible rfl)
        simp only [Act.put, List.setIfInBounds_toArray, List.set_cons_zero, List.set_cons_succ]
        refine rg_take 11 (v := ?rv16) rfl (by kernel_rfl) (by kernel_rfl) (by kernel_rfl) (fun _ _ _ h => h) (by rfl) hS (fun w2 hw2 => ?ry16) ?rr16
        case ry16 => ((try dsimp only at hw2); go_simp <;> with_reducible rfl)
        simp only [Act.put, List.setIfInBounds_toArray, List.set_cons_zero, List.set_cons_succ]
        refine rg_take 12 (v := ?rv17) rfl (by kernel_rfl) (by kernel_rfl) (by kernel_rfl) (fun _ _ _ h => h) (by rfl) hS (fun w2 hw2 => ?ry17) ?rr17
        case ry17 => ((try dsimp only at hw2); go_simp <;> with_reducible rfl)
        simp only [Act.put, List.setIfInBounds_toArray, List.set_cons_zero, List.set_cons_succ]
        refine rg_load 13 rfl (by kernel_rfl) (by kernel_rfl) (by kernel_rfl) (w.heap.size) (0) ((adv v6 bs)) (fun _ _ _ h => h) (by rfl) 51 (.tmp 16) rfl rfl hS (fun w2 h2 => (P1.out.later h2 (Nat.le_refl _)).range0) Tryz.underlying51 rfl (ad_size v6 hl) ?_
        simp only [Act.put, List.setIfInBounds_toArray, List.set_cons_zero, List.set_cons_succ]
        refine rg_step 14 rfl (by kernel_rfl) (by rfl) (fun K hK => ?_)
        go_simp
        refine (size_any v6 bs hl _).mono ?_
        rintro e w2 ⟨rfl, b2⟩
        replace hS := hS.trans (b2.mono hS.size)
        clear b2
        refine hK.out _ _ hS ?_
        clear hK K
        try simp only [Act.put, List.setIfInBounds_toArray, List.set_cons_zero, List.set_cons_succ]
        refine rg_take 15 (v := ?rv18) rfl (by kernel_rfl) (by kernel_rfl) (by kernel_rfl) (fun _ _ _ h => h) (by rfl) hS (fun w2 hw2 => ?ry18) ?rr18
        case ry18 => ((try dsimp only at hw2); go_simp <;> with_reducible rfl)
        simp only [Act.put, List.setIfInBounds_toArray, List.set_cons_zero, List.set_cons_succ]
        refine rg_take 16 (v := ?rv19) rfl (by kernel_rfl) (by kernel_rfl) (by kernel_rfl) (fun _ _ _ h => h) (by rfl) hS (fun w2 hw2 => ?ry19) ?rr19
        case ry19 => ((try dsimp only at hw2); go_simp <;> with_reducible rfl)
        simp only [Act.put, List.setIfInBounds_toArray, List.set_cons_zero, List.set_cons_succ]
        refine rg_done (by kernel_rfl) ?_
        have H2 := Lib.hid (And.intro (P1.out.later hS (Nat.le_refl _)) (B1.out.trans (hS.mono B1.out.size)))
        have cB := hcB _ hS
        clear hS hcB
        go_wp2_with fail
        clear cB
        go_loopw [3] (fun i wr => ∃ j : Nat, m ≤ j ∧ j ≤ 128 ∧ i = .int .i64 j ∧ PxBox wr w.heap.size v6 bs m ∧ Below w.heap.size w wr ∧ ∀ k, m ≤ k → k < j → bitv bs k = 0) (fun i _ => 128 - (intOf i).toNat)
        case atStart => exact ⟨m, Nat.le_refl _, hm, rfl, H2.out.1, H2.out.2, fun k h1 h2 => by omega⟩
        case round =>
          obtain ⟨j, hmj, hj, rfl, hp, hb, hz⟩ := hrel
          have HJ := Lib.hid (And.intro hp (And.intro hb hz))
          clear hp hb hz
          by_cases hlt : j < 128
          · have hlt' : (j : Int) < 128 := by omega
            go_wp2_with (refine wpList_load_row_w rfl 51 (.tmp 27) rfl w.heap.size 0 rfl (adv v6 bs) _ HJ.out.1.range0 Tryz.underlying51 rfl (ad_size v6 hl) ?_)
            refine (bit_any v6 bs hl j hlt _).mono ?_
            rintro e w3 ⟨rfl, b3⟩
            have H3 := Lib.hid (And.intro (HJ.out.1.later b3 (Nat.le_refl _)) (HJ.out.2.1.trans (b3.mono HJ.out.2.1.size)))
            clear b3
            by_cases hbz : bitv bs j = 0
            · rw [hbz]
              have HBZ := Lib.hid hbz
              clear hbz
              go_wp2_with fail
              go_roundw
              case rel =>
                refine ⟨j + 1, by omega, by omega, by go_num, H3.out.1, H3.out.2, fun k h1 h2 => ?_⟩
                by_cases hk : k = j
                · rw [hk]; exact HBZ.out
                · exact HJ.out.2.2 k h1 (by omega)
              case measure => simp [intOf]; omega
            · have hres : rightnetv v6 bs m = false := by
                cases hc : rightnetv v6 bs m with
                | false => rfl
                | true => exact absurd (HBI.out.1 hc j hmj hlt) hbz
              have HRES := Lib.hid hres
              generalize bitv bs j = bz at hbz ⊢
              clear hres
              go_wp2_with fail
              go_ret
              exact ⟨by rw [HRES.out]; rfl, H3.out.2⟩
          · obtain rfl : j = 128 := by omega
            have HRES := Lib.hid (HBI.out.2 (fun i h1 h2 => HJ.out.2.2 i h1 h2))
            go_wp2_with fail
            go_ret
            exact ⟨by rw [HRES.out]; rfl, HJ.out.2.1⟩
      · have hd1 : decide ((wid v6 : Int) < n) = true := decide_eq_true (by omega)
        have hres : rightnetv v6 bs n = false := by unfold rightnetv; rw [hr, decide_eq_false h1]; simp
        rw [hres]
        clear hres
        go_enter Tryz.func64, Tryz.ntmps64
        go_wp2_with fail
        generalize hW : w.alloc (.cells (pxv v6 bs n) 53) = W at P1 B1 ⊢
        clear hW
        have hcB : ∀ w', Below W.heap.size W w' → w'.cell? ⟨w.heap.size, 17, none⟩ = some (.int .i64 n) := fun w' h => (P1.out.later h (Nat.le_refl _)).bits_cell
        have hS : Below W.heap.size W W.drew := (Below.refl _ _).drew
        refine rg_begin (fun w' => Below W.heap.size W w') 17 (by kernel_rfl) rfl ?_
        refine rg_take 0 (v := ?rv20) rfl (by kernel_rfl) (by kernel_rfl) (by kernel_rfl) (fun _ _ _ h => h) (by rfl) hS (fun w2 hw2 => ?ry20) ?rr20
        case ry20 => ((try dsimp only at hw2); go_simp <;> with_reducible rfl)
        simp only [Act.put, List.setIfInBounds_toArray, List.set_cons_zero, List.set_cons_succ]
        refine rg_load 1 rfl (by kernel_rfl) (by kernel_rfl) (by kernel_rfl) (w.heap.size) (0) ((adv v6 bs)) (fun _ _ _ h => h) (by rfl) 51 (.tmp 4) rfl rfl hS (fun w2 h2 => (P1.out.later h2 (Nat.le_refl _)).range0) Tryz.underlying51 rfl (ad_size v6 hl) ?_
        simp only [Act.put, List.setIfInBounds_toArray, List.set_cons_zero, List.set_cons_succ]
        refine rg_step 2 rfl (by kernel_rfl) (by rfl) (fun K hK => ?_)
        go_simp
        refine (refRight_any v6 bs hl _).mono ?_
        rw [hr]
        rintro e w1 ⟨rfl, b1⟩
        replace hS := hS.trans (b1.mono hS.size)
        clear b1
        refine hK.out _ _ hS ?_
        clear hK K
        try simp only [Act.put, List.setIfInBounds_toArray, List.set_cons_zero, List.set_cons_succ]
        refine rg_take 3 (v := ?rv21) rfl (by kernel_rfl) (by kernel_rfl) (by kernel_rfl) (fun _ _ _ h => h) (by rfl) hS (fun w2 hw2 => ?ry21) ?rr21
        case ry21 => ((try dsimp only at hw2); go_simp <;> with_reducible rfl)
        simp only [Act.put, List.setIfInBounds_toArray, List.set_cons_zero, List.set_cons_succ]
        refine rg_take 4 (v := ?rv22) rfl (by kernel_rfl) (by kernel_rfl) (by kernel_rfl) (fun _ _ _ h => h) (by rfl) hS (fun w2 hw2 => ?ry22) ?rr22
        case ry22 => ((try dsimp only at hw2); go_simp <;> with_reducible rfl)
        simp only [Act.put, List.setIfInBounds_toArray, List.set_cons_zero, List.set_cons_succ]
        refine rg_take 5 (v := ?rv23) rfl (by kernel_rfl) (by kernel_rfl) (by kernel_rfl) (fun _ _ _ h => h) (by rfl) hS (fun w2 hw2 => ?ry23) ?rr23
        case ry23 => ((try dsimp only at hw2); go_simp <;> with_reducible rfl)
        simp only [Act.put, List.setIfInBounds_toArray, List.set_cons_zero, List.set_cons_succ]
        refine rg_take 6 (v := ?rv24) rfl (by kernel_rfl) (by kernel_rfl) (by kernel_rfl) (fun _ _ _ h => h) (by rfl) hS (fun w2 hw2 => ?ry24) ?rr24
        case ry24 => ((try dsimp only at hw2); go_simp <;> with_reducible rfl)
        simp only [Act.put, List.setIfInBounds_toArray, List.set_cons_zero, List.set_cons_succ]
        refine rg_take 7 (v := ?rv25) rfl (by kernel_rfl) (by kernel_rfl) (by kernel_rfl) (fun _ _ _ h => h) (by rfl) hS (fun w2 hw2 => ?ry25) ?rr25
        case ry25 => ((try dsimp only at hw2); go_simp <;> with_reducible rfl)
        simp only [Act.put, List.setIfInBounds_toArray, List.set_cons_zero, List.set_cons_succ]
        refine rg_take 8 (v := ?rv26) rfl (by kernel_rfl) (by kernel_rfl) (by kernel_rfl) (fun _ _ _ h => h) (by rfl) hS (fun w2 hw2 => ?ry26) ?rr26
        case ry26 => ((try dsimp only at hw2); go_simp <;> with_reducible rfl)
        simp only [Act.put, List.setIfInBounds_toArray, List.set_cons_zero, List.set_cons_succ]
        refine rg_take 9 (v := ?rv27) rfl (by kernel_rfl) (by kernel_rfl) (by kernel_rfl) (fun _ _ _ h => h) (by rfl) hS (fun w2 hw2 => ?ry27) ?rr27
        case ry27 => ((try dsimp only at hw2); go_simp <;> with_reducible rfl)
        simp only [Act.put, List.setIfInBounds_toArray, List.set_cons_zero, List.set_cons_succ]
        refine rg_take 10 (v := ?rv28) rfl (by kernel_rfl) (by kernel_rfl) (by kernel_rfl) (fun _ _ _ h => h) (by rfl) hS (fun w2 hw2 => ?ry28) ?rr28
        case ry28 => ((try dsimp only at hw2); go_simp <;> with_reducible rfl)
        simp only [Act.put, List.setIfInBounds_toArray, List.set_cons_zero, List.set_cons_succ]
        refine rg_take 11 (v := ?rv29) rfl (by kernel_rfl) (by kernel_rfl) (by kernel_rfl) (fun _ _ _ h => h) (by rfl) hS (fun w2 hw2 => ?ry29) ?rr29
        case ry29 => ((try dsimp only at hw2); go_simp <;> with_reducible rfl)
        simp only [Act.put, List.setIfInBounds_toArray, List.set_cons_zero, List.set_cons_succ]
        refine rg_take 12 (v := ?rv30) rfl (by kernel_rfl) (by kernel_rfl) (by kernel_rfl) (fun _ _ _ h => h) (by rfl) hS (fun w2 hw2 => ?ry30) ?rr30
        case ry30 => ((try dsimp only at hw2); go_simp <;> with_reducible rfl)
        simp only [Act.put, List.setIfInBounds_toArray, List.set_cons_zero, List.set_cons_succ]
        refine rg_load 13 rfl (by kernel_rfl) (by kernel_rfl) (by kernel_rfl) (w.heap.size) (0) ((adv v6 bs)) (fun _ _ _ h => h) (by rfl) 51 (.tmp 16) rfl rfl hS (fun w2 h2 => (P1.out.later h2 (Nat.le_refl _)).range0) Tryz.underlying51 rfl (ad_size v6 hl) ?_
        simp only [Act.put, List.setIfInBounds_toArray, List.set_cons_zero, List.set_cons_succ]
        refine rg_step 14 rfl (by kernel_rfl) (by rfl) (fun K hK => ?_)
        go_simp
        refine (size_any v6 bs hl _).mono ?_
        rintro e w2 ⟨rfl, b2⟩
        replace hS := hS.trans (b2.mono hS.size)
        clear b2
        refine hK.out _ _ hS ?_
        clear hK K
        try simp only [Act.put, List.setIfInBounds_toArray, List.set_cons_zero, List.set_cons_succ]
        refine rg_take 15 (v := ?rv31) rfl (by kernel_rfl) (by kernel_rfl) (by kernel_rfl) (fun _ _ _ h => h) (by rfl) hS (fun w2 hw2 => ?ry31) ?rr31
        case ry31 => ((try dsimp only at hw2); go_simp <;> with_reducible rfl)
        simp only [Act.put, List.setIfInBounds_toArray, List.set_cons_zero, List.set_cons_succ]
        refine rg_take 16 (v := ?rv32) rfl (by kernel_rfl) (by kernel_rfl) (by kernel_rfl) (fun _ _ _ h => h) (by rfl) hS (fun w2 hw2 => ?ry32) ?rr32
        case ry32 => ((try dsimp only at hw2); go_simp <;> with_reducible rfl)
        simp only [Act.put, List.setIfInBounds_toArray, List.set_cons_zero, List.set_cons_succ]
        refine rg_done (by kernel_rfl) ?_
        have H2 := Lib.hid (B1.out.trans (hS.mono B1.out.size))
        clear hS
        go_wp2_with fail
        go_ret
        exact ⟨rfl, H2.out⟩
    · have hd0 : decide (n < 0) = true := decide_eq_true (by omega)
      have hres : rightnetv v6 bs n = false := by unfold rightnetv; rw [hr, decide_eq_false h0]; rfl
      rw [hres]
      clear hres
      go_enter Tryz.func64, Tryz.ntmps64
      go_wp2_with fail
      generalize hW : w.alloc (.cells (pxv v6 bs n) 53) = W at P1 B1 ⊢
      clear hW
      have hcB : ∀ w', Below W.heap.size W w' → w'.cell? ⟨w.heap.size, 17, none⟩ = some (.int .i64 n) := fun w' h => (P1.out.later h (Nat.le_refl _)).bits_cell
      have hS : Below W.heap.size W W.drew := (Below.refl _ _).drew
      refine rg_begin (fun w' => Below W.heap.size W w') 17 (by kernel_rfl) rfl ?_
      refine rg_take 0 (v := ?rv33) rfl (by kernel_rfl) (by kernel_rfl) (by kernel_rfl) (fun _ _ _ h => h) (by rfl) hS (fun w2 hw2 => ?ry33) ?rr33
      case ry33 => ((try dsimp only at hw2); go_simp <;> with_reducible rfl)
      simp only [Act.put, List.setIfInBounds_toArray, List.set_cons_zero, List.set_cons_succ]
      refine rg_load 1 rfl (by kernel_rfl) (by kernel_rfl) (by kernel_rfl) (w.heap.size) (0) ((adv v6 bs)) (fun _ _ _ h => h) (by rfl) 51 (.tmp 4) rfl rfl hS (fun w2 h2 => (P1.out.later h2 (Nat.le_refl _)).range0) Tryz.underlying51 rfl (ad_size v6 hl) ?_
      simp only [Act.put, List.setIfInBounds_toArray, List.set_cons_zero, List.set_cons_succ]
      refine rg_step 2 rfl (by kernel_rfl) (by rfl) (fun K hK => ?_)
      go_simp
      refine (refRight_any v6 bs hl _).mono ?_
      rw [hr]
      rintro e w1 ⟨rfl, b1⟩
      replace hS := hS.trans (b1.mono hS.size)
      clear b1
      refine hK.out _ _ hS ?_
      clear hK K
      try simp only [Act.put, List.setIfInBounds_toArray, List.set_cons_zero, List.set_cons_succ]
      refine rg_take 3 (v := ?rv34) rfl (by kernel_rfl) (by kernel_rfl) (by kernel_rfl) (fun _ _ _ h => h) (by rfl) hS (fun w2 hw2 => ?ry34) ?rr34
      case ry34 => ((try dsimp only at hw2); go_simp <;> with_reducible rfl)
      simp only [Act.put, List.setIfInBounds_toArray, List.set_cons_zero, List.set_cons_succ]
      refine rg_take 4 (v := ?rv35) rfl (by kernel_rfl) (by kernel_rfl) (by kernel_rfl) (fun _ _ _ h => h) (by rfl) hS (fun w2 hw2 => ?ry35) ?rr35
      case ry35 => ((try dsimp only at hw2); go_simp <;> with_reducible rfl)
      simp only [Act.put, List.setIfInBounds_toArray, List.set_cons_zero, List.set_cons_succ]
      refine rg_take 5 (v := ?rv36) rfl (by kernel_rfl) (by kernel_rfl) (by kernel_rfl) (fun _ _ _ h => h) (by rfl) hS (fun w2 hw2 => ?ry36) ?rr36
      case ry36 => ((try dsimp only at hw2); go_simp <;> with_reducible rfl)
      simp only [Act.put, List.setIfInBounds_toArray, List.set_cons_zero, List.set_cons_succ]
      refine rg_take 6 (v := ?rv37) rfl (by kernel_rfl) (by kernel_rfl) (by kernel_rfl) (fun _ _ _ h => h) (by rfl) hS (fun w2 hw2 => ?ry37) ?rr37
      case ry37 => ((try dsimp only at hw2); go_simp <;> with_reducible rfl)
      simp only [Act.put, List.setIfInBounds_toArray, List.set_cons_zero, List.set_cons_succ]
      refine rg_take 7 (v := ?rv38) rfl (by kernel_rfl) (by kernel_rfl) (by kernel_rfl) (fun _ _ _ h => h) (by rfl) hS (fun w2 hw2 => ?ry38) ?rr38
      case ry38 => ((try dsimp only at hw2); go_simp <;> with_reducible rfl)
      simp only [Act.put, List.setIfInBounds_toArray, List.set_cons_zero, List.set_cons_succ]
      refine rg_take 8 (v := ?rv39) rfl (by kernel_rfl) (by kernel_rfl) (by kernel_rfl) (fun _ _ _ h => h) (by rfl) hS (fun w2 hw2 => ?ry39) ?rr39
      case ry39 => ((try dsimp only at hw2); go_simp <;> with_reducible rfl)
      simp only [Act.put, List.setIfInBounds_toArray, List.set_cons_zero, List.set_cons_succ]
      refine rg_take 9 (v := ?rv40) rfl (by kernel_rfl) (by kernel_rfl) (by kernel_rfl) (fun _ _ _ h => h) (by rfl) hS (fun w2 hw2 => ?ry40) ?rr40
      case ry40 => ((try dsimp only at hw2); go_simp <;> with_reducible rfl)
      simp only [Act.put, List.setIfInBounds_toArray, List.set_cons_zero, List.set_cons_succ]
      refine rg_skip 10 rfl (by kernel_rfl) (by kernel_rfl) (by kernel_rfl) (fun _ _ _ h => h) (by rfl) hS ?_
      simp only [Act.put, List.setIfInBounds_toArray, List.set_cons_zero, List.set_cons_succ]
      refine rg_skip 11 rfl (by kernel_rfl) (by kernel_rfl) (by kernel_rfl) (fun _ _ _ h => h) (by rfl) hS ?_
      simp only [Act.put, List.setIfInBounds_toArray, List.set_cons_zero, List.set_cons_succ]
      refine rg_skip 12 rfl (by kernel_rfl) (by kernel_rfl) (by kernel_rfl) (fun _ _ _ h => h) (by rfl) hS ?_
      simp only [Act.put, List.setIfInBounds_toArray, List.set_cons_zero, List.set_cons_succ]
      refine rg_skip 13 rfl (by kernel_rfl) (by kernel_rfl) (by kernel_rfl) (fun _ _ _ h => h) (by rfl) hS ?_
      simp only [Act.put, List.setIfInBounds_toArray, List.set_cons_zero, List.set_cons_succ]
      refine rg_skip 14 rfl (by kernel_rfl) (by kernel_rfl) (by kernel_rfl) (fun _ _ _ h => h) (by rfl) hS ?_
      simp only [Act.put, List.setIfInBounds_toArray, List.set_cons_zero, List.set_cons_succ]
      refine rg_skip 15 rfl (by kernel_rfl) (by kernel_rfl) (by kernel_rfl) (fun _ _ _ h => h) (by rfl) hS ?_
      simp only [Act.put, List.setIfInBounds_toArray, List.set_cons_zero, List.set_cons_succ]
      refine rg_take 16 (v := ?rv41) rfl (by kernel_rfl) (by kernel_rfl) (by kernel_rfl) (fun _ _ _ h => h) (by rfl) hS (fun w2 hw2 => ?ry41) ?rr41
      case ry41 => ((try dsimp only at hw2); go_simp <;> with_reducible rfl)
      simp only [Act.put, List.setIfInBounds_toArray, List.set_cons_zero, List.set_cons_succ]
      refine rg_done (by kernel_rfl) ?_
      have H2 := Lib.hid (B1.out.trans (hS.mono B1.out.size))
      clear hS
      go_wp2_with fail
      go_ret
      exact ⟨rfl, H2.out⟩
end Go.Proofs.YtoagfmonfgagbaaGreatDoor
