/-
  Package addr's width and Right. No conditions.
-/
import Derived.Test.YtceigepclemdmaaDoorFirst
import Derived.Stop.BytesEq
namespace Go.Proofs.YtceigepclemdmaaDoor
open Go.RowKit
set_option maxRecDepth 100000

def wid (v6 : Bool) : Nat := if v6 then 128 else 32
theorem wid_le (v6 : Bool) : wid v6 ≤ 128 := by cases v6 <;> decide
theorem AdBox.range1 {w : World} {g : Nat} {v6 : Bool} {bs : List UInt8} (h : AdBox w g v6 bs) : w.rangeAt g 1 (bv bs).toArray.toList := fun j v hj => by
  rw [cell_of_row w g (1 + j) _ _ _ h.1]
  simp only [adv, List.getElem?_toArray, Nat.add_comm 1 j, List.getElem?_cons_succ]
  simpa using hj
theorem arr_size {bs : List UInt8} (h : bs.length = 16) : (Tryd.prog.info? 23).map (·.size) = some (bv bs).toArray.size := by
  rw [show (bv bs).toArray.size = 16 by simp [bv_length, h]]; kernel_rfl
theorem eql_arr {xs ys : List UInt8} (hx : xs.length = 16) (hy : ys.length = 16) (w : World) : (binOp .eql 23 (.agg (bv xs).toArray) (.agg (bv ys).toArray)).run Tryd.prog w = .ok (.bool (xs == ys)) w :=
  run_eql_bytes w 23 5 16 Tryd.underlying23 Tryd.underlying5 (fun w => by kernel_rfl) xs ys hx hy

theorem width_any (v6 : Bool) (bs : List UInt8) (hl : bs.length = 16) (w : World) : Calls Tryd.prog 50 #[.agg (adv v6 bs)] w fun e w' => e = .returned (.int .i64 (wid v6)) ∧ Below w.heap.size w w' := by
  have a1 := AdBox.new w v6 hl
  have b1 : Below w.heap.size w (w.alloc (.cells (adv v6 bs) 25)) := (Below.refl _ _).alloc (Nat.le_refl _) _
  have c1 := a1.v6_cell
  have H1 := Lib.hid b1
  generalize hW : w.alloc (.cells (adv v6 bs) 25) = W at c1 H1
  clear a1 b1
  cases v6
  · go_enter Tryd.func50, Tryd.ntmps50
    go_wp2
    go_ret
    exact ⟨rfl, H1.out⟩
  · go_enter Tryd.func50, Tryd.ntmps50
    go_wp2
    go_ret
    exact ⟨rfl, H1.out⟩

def rightv (v6 : Bool) (bs : List UInt8) : Bool := bs == firstv bs (wid v6)
set_option maxHeartbeats 1000000 in
theorem Right_any (v6 : Bool) (bs : List UInt8) (hl : bs.length = 16) (w : World) : Calls Tryd.prog 38 #[.agg (adv v6 bs)] w fun e w' => e = .returned (.bool (rightv v6 bs)) ∧ Below w.heap.size w w' := by
  have A1 := Lib.hid (AdBox.new w v6 hl)
  have B1 := Lib.hid ((Below.refl w.heap.size w).alloc (Nat.le_refl _) (.cells (adv v6 bs) 25))
  have heq := eql_arr hl (firstv_len bs (wid v6) ▸ hl : (firstv bs (wid v6)).length = 16)
  have hw := wid_le v6
  go_enter Tryd.func38, Tryd.ntmps38
  go_wp2_with fail
  generalize hW : w.alloc (.cells (adv v6 bs) 25) = W at A1 B1 ⊢
  clear hW
  have hS : Below W.heap.size W W.drew := (Below.refl _ _).drew
  refine rg_begin (fun w' => Below W.heap.size W w') 9 (by kernel_rfl) rfl ?_
  refine rg_take 0 (v := ?rv1) rfl (by kernel_rfl) (by kernel_rfl) (by kernel_rfl) (fun _ _ _ h => h) (by rfl) hS (fun w2 hw2 => ?ry1) ?rr1
  case ry1 => ((try dsimp only at hw2); go_simp <;> with_reducible rfl)
  simp only [Act.put, List.setIfInBounds_toArray, List.set_cons_zero, List.set_cons_succ]
  refine rg_take 2 (v := ?rv2) rfl (by kernel_rfl) (by kernel_rfl) (by kernel_rfl) (fun _ _ _ h => h) (by rfl) hS (fun w2 hw2 => ?ry2) ?rr2
  case ry2 => ((try dsimp only at hw2); go_simp <;> with_reducible rfl)
  simp only [Act.put, List.setIfInBounds_toArray, List.set_cons_zero, List.set_cons_succ]
  refine rg_load 4 rfl (by kernel_rfl) (by kernel_rfl) (by kernel_rfl) (w.heap.size) 0 (adv v6 bs) (fun _ _ _ h => h) (by rfl) 25 (.tmp 1) rfl rfl hS (fun w2 h2 => (AdBox.later A1.out h2 (Nat.le_refl _)).range) Tryd.underlying25 rfl (ad_size v6 A1.out.2) ?_
  simp only [Act.put, List.setIfInBounds_toArray, List.set_cons_zero, List.set_cons_succ]
  refine rg_load 1 rfl (by kernel_rfl) (by kernel_rfl) (by kernel_rfl) (w.heap.size) (1) ((bv bs).toArray) (fun _ _ _ h => h) (by rfl) 23 (.tmp 3) rfl rfl hS (fun w2 h2 => (A1.out.later h2 (Nat.le_refl _)).range1) Tryd.underlying23 rfl (arr_size hl) ?_
  simp only [Act.put, List.setIfInBounds_toArray, List.set_cons_zero, List.set_cons_succ]
  refine rg_load 3 rfl (by kernel_rfl) (by kernel_rfl) (by kernel_rfl) (w.heap.size) (1) ((bv bs).toArray) (fun _ _ _ h => h) (by rfl) 23 (.tmp 5) rfl rfl hS (fun w2 h2 => (A1.out.later h2 (Nat.le_refl _)).range1) Tryd.underlying23 rfl (arr_size hl) ?_
  simp only [Act.put, List.setIfInBounds_toArray, List.set_cons_zero, List.set_cons_succ]
  refine rg_step 5 rfl (by kernel_rfl) (by rfl) (fun K hK => ?_)
  go_simp
  refine (width_any v6 bs hl _).mono ?_
  rintro e w1 ⟨rfl, b1⟩
  replace hS := hS.trans (b1.mono hS.size)
  clear b1
  refine hK.out _ _ hS ?_
  clear hK K
  try simp only [Act.put, List.setIfInBounds_toArray, List.set_cons_zero, List.set_cons_succ]
  refine rg_step 6 rfl (by kernel_rfl) (by rfl) (fun K hK => ?_)
  go_simp
  refine (first_any bs hl (wid v6) hw _).mono ?_
  rintro e w2 ⟨rfl, b2⟩
  replace hS := hS.trans (b2.mono hS.size)
  clear b2
  refine hK.out _ _ hS ?_
  clear hK K
  try simp only [Act.put, List.setIfInBounds_toArray, List.set_cons_zero, List.set_cons_succ]
  refine rg_take 7 (v := ?rv3) rfl (by kernel_rfl) (by kernel_rfl) (by kernel_rfl) (fun _ _ _ h => h) (by rfl) hS (fun w2 hw2 => ?ry3) ?rr3
  case ry3 => ((try dsimp only at hw2); go_simp <;> with_reducible rfl)
  simp only [Act.put, List.setIfInBounds_toArray, List.set_cons_zero, List.set_cons_succ]
  refine rg_take 8 (v := ?rv4) rfl (by kernel_rfl) (by kernel_rfl) (by kernel_rfl) (fun _ _ _ h => h) (by rfl) hS (fun w2 hw2 => ?ry4) ?rr4
  case ry4 => ((try dsimp only at hw2); go_simp <;> with_reducible rfl)
  simp only [Act.put, List.setIfInBounds_toArray, List.set_cons_zero, List.set_cons_succ]
  refine rg_done (by kernel_rfl) ?_
  have H2 := Lib.hid (B1.out.trans (hS.mono B1.out.size))
  clear hS
  go_wp2_with fail
  go_ret
  exact ⟨rfl, H2.out⟩
end Go.Proofs.YtceigepclemdmaaDoor
