/-
  Package addr's width and Right. No conditions.
  stockadeplay.Addr. No conditions.
  The first so many bits of sixteen bytes: cut twice; all of them; an address as it is normal. No conditions.
  stockaderef01.Right: the document's own answer on whether an address is right. No conditions.
-/
import Derived.Test.YtbikifaadpijnaaGreatDoorZ11
import Derived.Stop.BytesEq
import Derived.Test.YtbikifaadpijnaaGreatDoorZ08
import Derived.Laws.CopyOwn
namespace Go.Proofs.YtbikifaadpijnaaGreatDoor
open Go.RowKit
set_option maxRecDepth 100000

def wid (v6 : Bool) : Nat := if v6 then 128 else 32
theorem wid_le (v6 : Bool) : wid v6 ≤ 128 := by cases v6 <;> decide
theorem AdBox.range1 {w : World} {g : Nat} {v6 : Bool} {bs : List UInt8} (h : AdBox w g v6 bs) : w.rangeAt g 1 (bv bs).toArray.toList := fun j v hj => by
  rw [cell_of_row w g (1 + j) _ _ _ h.1]
  simp only [adv, List.getElem?_toArray, Nat.add_comm 1 j, List.getElem?_cons_succ]
  simpa using hj
theorem arr_size {bs : List UInt8} (h : bs.length = 16) : (Tryz.prog.info? 53).map (·.size) = some (bv bs).toArray.size := by
  rw [show (bv bs).toArray.size = 16 by simp [bv_length, h]]; kernel_rfl
theorem eql_arr {xs ys : List UInt8} (hx : xs.length = 16) (hy : ys.length = 16) (w : World) : (binOp .eql 53 (.agg (bv xs).toArray) (.agg (bv ys).toArray)).run Tryz.prog w = .ok (.bool (xs == ys)) w :=
  run_eql_bytes w 53 5 16 Tryz.underlying53 Tryz.underlying5 (fun w => by kernel_rfl) xs ys hx hy

theorem width_any (v6 : Bool) (bs : List UInt8) (hl : bs.length = 16) (w : World) : Calls Tryz.prog 117 #[.agg (adv v6 bs)] w fun e w' => e = .returned (.int .i64 (wid v6)) ∧ Below w.heap.size w w' := by
  have a1 := AdBox.new w v6 hl
  have b1 : Below w.heap.size w (w.alloc (.cells (adv v6 bs) 55)) := (Below.refl _ _).alloc (Nat.le_refl _) _
  have c1 := a1.v6_cell
  have H1 := Lib.hid b1
  generalize hW : w.alloc (.cells (adv v6 bs) 55) = W at c1 H1
  clear a1 b1
  cases v6
  · go_enter Tryz.func117, Tryz.ntmps117
    go_wp2
    go_ret
    exact ⟨rfl, H1.out⟩
  · go_enter Tryz.func117, Tryz.ntmps117
    go_wp2
    go_ret
    exact ⟨rfl, H1.out⟩

def rightv (v6 : Bool) (bs : List UInt8) : Bool := bs == firstv bs (wid v6)
set_option maxHeartbeats 1000000 in
theorem Right_any (v6 : Bool) (bs : List UInt8) (hl : bs.length = 16) (w : World) : Calls Tryz.prog 95 #[.agg (adv v6 bs)] w fun e w' => e = .returned (.bool (rightv v6 bs)) ∧ Below w.heap.size w w' := by
  have A1 := Lib.hid (AdBox.new w v6 hl)
  have B1 := Lib.hid ((Below.refl w.heap.size w).alloc (Nat.le_refl _) (.cells (adv v6 bs) 55))
  have heq := eql_arr hl (firstv_len bs (wid v6) ▸ hl : (firstv bs (wid v6)).length = 16)
  have hw := wid_le v6
  go_enter Tryz.func95, Tryz.ntmps95
  go_wp2_with fail
  generalize hW : w.alloc (.cells (adv v6 bs) 55) = W at A1 B1 ⊢
  clear hW
  have hS : Below W.heap.size W W.drew := (Below.refl _ _).drew
  refine rg_begin (fun w' => Below W.heap.size W w') 9 (by kernel_rfl) rfl ?_
  refine rg_take 0 (v := ?rv1) rfl (by kernel_rfl) (by kernel_rfl) (by kernel_rfl) (fun _ _ _ h => h) (by rfl) hS (fun w2 hw2 => ?ry1) ?rr1
  case ry1 => ((try dsimp only at hw2); go_simp <;> with_reducible rfl)
  simp only [Act.put, List.setIfInBounds_toArray, List.set_cons_zero, List.set_cons_succ]
  refine rg_take 2 (v := ?rv2) rfl (by kernel_rfl) (by kernel_rfl) (by kernel_rfl) (fun _ _ _ h => h) (by rfl) hS (fun w2 hw2 => ?ry2) ?rr2
  case ry2 => ((try dsimp only at hw2); go_simp <;> with_reducible rfl)
  simp only [Act.put, List.setIfInBounds_toArray, List.set_cons_zero, List.set_cons_succ]
  refine rg_load 4 rfl (by kernel_rfl) (by kernel_rfl) (by kernel_rfl) (w.heap.size) 0 (adv v6 bs) (fun _ _ _ h => h) (by rfl) 55 (.tmp 1) rfl rfl hS (fun w2 h2 => (AdBox.later A1.out h2 (Nat.le_refl _)).range) Tryz.underlying55 rfl (ad_size v6 A1.out.2) ?_
  simp only [Act.put, List.setIfInBounds_toArray, List.set_cons_zero, List.set_cons_succ]
  refine rg_load 1 rfl (by kernel_rfl) (by kernel_rfl) (by kernel_rfl) (w.heap.size) (1) ((bv bs).toArray) (fun _ _ _ h => h) (by rfl) 53 (.tmp 3) rfl rfl hS (fun w2 h2 => (A1.out.later h2 (Nat.le_refl _)).range1) Tryz.underlying53 rfl (arr_size hl) ?_
  simp only [Act.put, List.setIfInBounds_toArray, List.set_cons_zero, List.set_cons_succ]
  refine rg_load 3 rfl (by kernel_rfl) (by kernel_rfl) (by kernel_rfl) (w.heap.size) (1) ((bv bs).toArray) (fun _ _ _ h => h) (by rfl) 53 (.tmp 5) rfl rfl hS (fun w2 h2 => (A1.out.later h2 (Nat.le_refl _)).range1) Tryz.underlying53 rfl (arr_size hl) ?_
  simp only [Act.put, List.setIfInBounds_toArray, List.set_cons_zero, List.set_cons_succ]
  refine rg_step 5 rfl (by kernel_rfl) (by rfl) (fun K hK => ?_)
  go_simp
  refine (width_any v6 bs hl _).mono ?_
  rintro e w1 ⟨rfl, b1⟩
  replace hS := hS.trans (b1.mono hS.size)
  clear b1
  refine hK.out _ _ hS ?_
  clear hK K
  try simp only [Act.put, List.setIfInBounds_toArray, List.set_cons_zero, List.set_cons_succ]
  refine rg_step 6 rfl (by kernel_rfl) (by rfl) (fun K hK => ?_)
  go_simp
  refine (first_any bs hl (wid v6) hw _).mono ?_
  rintro e w2 ⟨rfl, b2⟩
  replace hS := hS.trans (b2.mono hS.size)
  clear b2
  refine hK.out _ _ hS ?_
  clear hK K
  try simp only [Act.put, List.setIfInBounds_toArray, List.set_cons_zero, List.set_cons_succ]
  refine rg_take 7 (v := ?rv3) rfl (by kernel_rfl) (by kernel_rfl) (by kernel_rfl) (fun _ _ _ h => h) (by rfl) hS (fun w2 hw2 => ?ry3) ?rr3
  case ry3 => ((try dsimp only at hw2); go_simp <;> with_reducible rfl)
  simp only [Act.put, List.setIfInBounds_toArray, List.set_cons_zero, List.set_cons_succ]
  refine rg_take 8 (v := ?rv4) rfl (by kernel_rfl) (by kernel_rfl) (by kernel_rfl) (fun _ _ _ h => h) (by rfl) hS (fun w2 hw2 => ?ry4) ?rr4
  case ry4 => ((try dsimp only at hw2); go_simp <;> with_reducible rfl)
  simp only [Act.put, List.setIfInBounds_toArray, List.set_cons_zero, List.set_cons_succ]
  refine rg_done (by kernel_rfl) ?_
  have H2 := Lib.hid (B1.out.trans (hS.mono B1.out.size))
  clear hS
  go_wp2_with fail
  go_ret
  exact ⟨rfl, H2.out⟩
end Go.Proofs.YtbikifaadpijnaaGreatDoor

namespace Go.Proofs.YtbikifaadpijnaaGreatDoor
open Go.RowKit

/-- The bytes of an address that is right. -/
def norm (v6 : Bool) (a : List UInt8) : List UInt8 := if v6 then a else a.take 4 ++ List.replicate 12 0
theorem norm_len (v6 : Bool) {a : List UInt8} (h : a.length = 16) : (norm v6 a).length = 16 := by cases v6 <;> simp [norm, h]
/-- Zeros from the fifth byte up to a place. -/
def zeroed (a : List UInt8) (j : Nat) : List UInt8 := a.take 4 ++ List.replicate (j - 4) 0 ++ a.drop j
theorem zeroed_set {a : List UInt8} (h : a.length = 16) {j : Nat} (h4 : 4 ≤ j) (h16 : j < 16) : (zeroed a j).set j 0 = zeroed a (j + 1) := by
  apply List.ext_getElem?
  intro i
  rw [List.getElem?_set]
  simp only [zeroed, List.getElem?_append, List.length_append, List.length_take, List.length_replicate, List.getElem?_take, List.getElem?_replicate, List.getElem?_drop, List.length_drop, h]
  grind

set_option maxRecDepth 100000 in
set_option maxHeartbeats 1000000 in
theorem play_addr (v1 v6 : Bool) (a : List UInt8) (ha : a.length = 16) (w : World) : Calls Tryz.prog 104 #[.agg (adv v1 a), .bool v6] w fun e w' =>
    e = .returned (.agg (adv v6 (norm v6 a))) ∧ Below w.heap.size w w' := by
  go_enter Tryz.func104, Tryz.ntmps104
  go_wp2_with fail
  rw [adv_set0]
  have A1 := (AdBox.new w v6 ha).later ((Below.refl _ _).alloc (Nat.le_refl _) (.cells (adv false (List.replicate 16 0)) 55)) (Nat.le_refl _)
  have A2 := AdBox.new (w.alloc (.cells (adv v6 a) 55)) false (bs := List.replicate 16 0) rfl
  rw [World.size_alloc] at A2
  have B2 := ((Below.refl _ w).alloc (Nat.le_refl _) (.cells (adv v6 a) 55)).alloc (by simp) (.cells (adv false (List.replicate 16 0)) 55)
  have hz : adv false (List.replicate 16 0) = #[Value.bool false, Value.int IntKind.u8 0, Value.int IntKind.u8 0, Value.int IntKind.u8 0, Value.int IntKind.u8 0, Value.int IntKind.u8 0, Value.int IntKind.u8 0, Value.int IntKind.u8 0, Value.int IntKind.u8 0, Value.int IntKind.u8 0, Value.int IntKind.u8 0, Value.int IntKind.u8 0, Value.int IntKind.u8 0, Value.int IntKind.u8 0, Value.int IntKind.u8 0, Value.int IntKind.u8 0, Value.int IntKind.u8 0] := rfl
  rw [← hz]
  generalize hW : (w.alloc (Obj.cells (adv v6 a) 55)).alloc (Obj.cells (adv false (List.replicate 16 0)) 55) = W at A1 A2 B2 ⊢
  have H0 := Lib.hid (And.intro A1 (And.intro A2 B2))
  clear hz hW A1 A2 B2
  cases v6
  · have HA := Lib.hid ha
    clear ha
    go_loopw [5] (fun i wr => ∃ j : Nat, 4 ≤ j ∧ j ≤ 16 ∧ i = .int .i64 j ∧ AdBox wr w.heap.size false (zeroed a j) ∧ AdBox wr (w.heap.size + 1) false (List.replicate 16 0) ∧ Below w.heap.size w wr) (fun i _ => 16 - (intOf i).toNat)
    case atStart => exact ⟨4, by omega, by omega, rfl, by simpa [zeroed] using H0.out.1, H0.out.2.1, H0.out.2.2⟩
    case round =>
      obtain ⟨j, h4, h16, rfl, a1, a2, hb⟩ := hrel
      by_cases hlt : j < 16
      · obtain ⟨x, _, hc⟩ := a1.there j hlt
        have hf := a1.frozen (1 + j)
        have a3 := a1.put j 0
        rw [zeroed_set HA.out h4 hlt] at a3
        have H1 := Lib.hid (And.intro a3 (And.intro (a2.far (p := ⟨w.heap.size, 1 + j, none⟩) (by simp) (.int .u8 (0 : UInt8).toNat)) (hb.setCell (p := ⟨w.heap.size, 1 + j, none⟩) (Nat.le_refl _) (.int .u8 (0 : UInt8).toNat))))
        clear a1 a2 a3 hb
        go_wp2_with fail
        go_roundw
        case rel => exact ⟨j + 1, by omega, by omega, by go_num, H1.out⟩
        case measure => simp [intOf]; omega
      · obtain rfl : j = 16 := by omega
        have hz : zeroed a 16 = norm false a := by simp [zeroed, norm, List.drop_of_length_le (Nat.le_of_eq HA.out)]
        rw [hz] at a1
        have H1 := Lib.hid (And.intro a1 (And.intro a2 hb))
        clear a1 a2 hb hz
        go_wp2_with (first
          | (refine wpList_load_ad rfl (.tmp 2) rfl rfl H1.out.1 ?_)
          | (refine wpList_store_row rfl 55 (.tmp 4) (.tmp 19) rfl (w.heap.size + 1) _ rfl rfl 55 _ H1.out.2.1.1 (ad_size _ (norm_len false HA.out)) (by rw [adv_size _ H1.out.2.1.2, adv_size _ (norm_len false HA.out)]) (adv_one _ _) ?_))
        exact bodyPost_ret (v := .agg (adv false (norm false a))) (results_cell_row rfl _ _ (w.heap.size + 1) 55 _ (0, 0) _ rfl (setRow_heap _ _ _ _ _ _ H1.out.2.1.1) Tryz.underlying55 rfl (ad_size _ (norm_len false HA.out))) rfl ⟨rfl, below_setRow H1.out.2.2 (by omega) _⟩
  · go_loopw [5] (fun i wr => i = .int .i64 4 ∧ wr = W) (fun _ _ => 0)
    case atStart => exact ⟨rfl, rfl⟩
    case round =>
      obtain ⟨rfl, rfl⟩ := hrel
      go_wp2_with (first
          | (refine wpList_load_ad rfl (.tmp 2) rfl rfl H0.out.1 ?_)
          | (refine wpList_store_row rfl 55 (.tmp 4) (.tmp 19) rfl (w.heap.size + 1) _ rfl rfl 55 _ H0.out.2.1.1 (ad_size _ ha) (by rw [adv_size _ H0.out.2.1.2, adv_size _ ha]) (adv_one _ _) ?_))
      exact bodyPost_ret (v := .agg (adv true (norm true a))) (results_cell_row rfl _ _ (w.heap.size + 1) 55 _ (0, 0) _ rfl (setRow_heap _ _ _ _ _ _ H0.out.2.1.1) Tryz.underlying55 rfl (ad_size _ ha)) rfl ⟨rfl, below_setRow H0.out.2.2 (by omega) _⟩
end Go.Proofs.YtbikifaadpijnaaGreatDoor

namespace Go.Proofs.YtbikifaadpijnaaGreatDoor
open Go.RowKit
set_option maxRecDepth 100000

theorem mk_and : ∀ p q : Fin 9, mk8 p.val &&& mk8 q.val = mk8 (min p.val q.val) := by decide +kernel
theorem mk_clr : ∀ p q : Fin 9, p.val ≤ q.val → mk8 q.val &&& (mk8 p.val ||| ~~~ mk8 q.val) = mk8 p.val := by decide +kernel
theorem mk_full : ∀ p : Fin 9, mk8 p.val ||| ~~~ mk8 p.val = 255 := by decide +kernel
theorem mk_step : ∀ p q : Fin 8, p.val ≤ q.val → (mk8 p.val ||| ~~~ mk8 q.val) &&& ~~~ (UInt8.ofNat (2 ^ (7 - q.val))) = mk8 p.val ||| ~~~ mk8 (q.val + 1) := by decide +kernel
theorem mk_and' (p q : Nat) (hp : p ≤ 8) (hq : q ≤ 8) : mk8 p &&& mk8 q = mk8 (min p q) := mk_and ⟨p, by omega⟩ ⟨q, by omega⟩

theorem firstv_get (bs : List UInt8) (n i : Nat) : (firstv bs n)[i]? = (bs[i]?).map fun b => b &&& mk8 (min (n - 8 * i) 8) := by simp [firstv]
theorem firstv_twice (bs : List UInt8) (n m : Nat) : firstv (firstv bs n) m = firstv bs (min n m) := by
  apply List.ext_getElem?
  intro i
  rw [firstv_get, firstv_get, firstv_get, Option.map_map]
  congr 1
  funext b
  show b &&& mk8 (min (n - 8 * i) 8) &&& mk8 (min (m - 8 * i) 8) = _
  rw [UInt8.and_assoc, mk_and' _ _ (by omega) (by omega)]
  congr 2
  omega
theorem firstv_all {bs : List UInt8} (h : bs.length ≤ 16) : firstv bs 128 = bs := by
  apply List.ext_getElem?
  intro i
  rw [firstv_get]
  cases hb : bs[i]? with
  | none => rfl
  | some b =>
    have hi := (List.getElem?_eq_some_iff.1 hb).1
    show some (b &&& mk8 (min (128 - 8 * i) 8)) = some b
    rw [show min (128 - 8 * i) 8 = 8 by omega, show mk8 8 = 255 from rfl, show (255 : UInt8) = -1 from rfl, UInt8.and_neg_one]
theorem norm_first (v6 : Bool) {bs : List UInt8} (h : bs.length = 16) : norm v6 bs = firstv bs (wid v6) := by
  cases v6 with
  | true => exact (firstv_all (Nat.le_of_eq h)).symm
  | false =>
    apply List.ext_getElem?
    intro i
    rw [firstv_get]
    show (bs.take 4 ++ List.replicate 12 0)[i]? = (bs[i]?).map fun b => b &&& mk8 (min (32 - 8 * i) 8)
    by_cases h4 : i < 4
    · rw [List.getElem?_append_left (by rw [List.length_take]; omega), List.getElem?_take, if_pos h4, List.getElem?_eq_getElem (by omega)]
      simp only [Option.map_some]
      rw [show min (32 - 8 * i) 8 = 8 by omega, show mk8 8 = 255 from rfl, show (255 : UInt8) = -1 from rfl, UInt8.and_neg_one]
    · rw [List.getElem?_append_right (by rw [List.length_take]; omega), List.length_take, List.getElem?_replicate]
      by_cases h16 : i < 16
      · rw [if_pos (by omega), List.getElem?_eq_getElem (by omega)]
        simp only [Option.map_some]
        rw [show min (32 - 8 * i) 8 = 0 by omega, show mk8 0 = 0 from rfl, UInt8.and_zero]
      · rw [if_neg (by omega), List.getElem?_eq_none (by omega)]
        rfl
end Go.Proofs.YtbikifaadpijnaaGreatDoor

namespace Go.Proofs.YtbikifaadpijnaaGreatDoor
open Go.RowKit
set_option maxRecDepth 100000

theorem right_yes {bs : List UInt8} (hl : bs.length = 16) (h : ∀ (i : Nat) (x : UInt8), 4 ≤ i → bs[i]? = some x → x = 0) : rightv false bs = true := by
  unfold rightv
  rw [show wid false = 32 from rfl, show firstv bs 32 = norm false bs from (norm_first false hl).symm]
  have : norm false bs = bs := by
    show bs.take 4 ++ List.replicate 12 0 = bs
    apply List.ext_getElem?
    intro i
    by_cases h4 : i < 4
    · rw [List.getElem?_append_left (by rw [List.length_take]; omega), List.getElem?_take, if_pos h4]
    · rw [List.getElem?_append_right (by rw [List.length_take]; omega), List.length_take, List.getElem?_replicate]
      by_cases h16 : i < 16
      · rw [if_pos (by omega), List.getElem?_eq_getElem (by omega), h i bs[i] (by omega) (List.getElem?_eq_getElem (by omega))]
      · rw [if_neg (by omega), List.getElem?_eq_none (by omega)]
  rw [this, beq_self_eq_true]
theorem right_no {bs : List UInt8} {i : Nat} {x : UInt8} (h4 : 4 ≤ i) (hx : bs[i]? = some x) (h0 : x ≠ 0) : rightv false bs = false := by
  cases hr : rightv false bs with
  | false => rfl
  | true =>
    unfold rightv at hr
    have h1 := eq_of_beq hr
    rw [show wid false = 32 from rfl] at h1
    rw [h1, firstv_get] at hx
    cases hb : bs[i]? with
    | none => rw [hb] at hx; cases hx
    | some b =>
      rw [hb] at hx
      have h2 : b &&& mk8 (min (32 - 8 * i) 8) = x := Option.some.inj hx
      rw [show min (32 - 8 * i) 8 = 0 by omega, show mk8 0 = 0 from rfl, UInt8.and_zero] at h2
      exact absurd h2.symm h0

set_option maxHeartbeats 1000000 in
theorem refRight_any (v6 : Bool) (bs : List UInt8) (hl : bs.length = 16) (w : World) : Calls Tryz.prog 101 #[.agg (adv v6 bs)] w fun e w' => e = .returned (.bool (rightv v6 bs)) ∧ Below w.heap.size w w' := by
  have A1 := AdBox.new w v6 hl
  have B1 : Below w.heap.size w (w.alloc (.cells (adv v6 bs) 55)) := (Below.refl _ _).alloc (Nat.le_refl _) _
  have c0 := A1.v6_cell
  have H1 := Lib.hid (And.intro A1 B1)
  clear A1 B1
  generalize hW : w.alloc (.cells (adv v6 bs) 55) = W at c0 H1
  cases v6 with
  | true =>
    have hr : rightv true bs = true := by unfold rightv; rw [show wid true = 128 from rfl, firstv_all (by omega), beq_self_eq_true]
    rw [hr]
    clear hr
    go_enter Tryz.func101, Tryz.ntmps101
    go_wp2_with fail
    go_loop [3] (fun i => ∃ j : Nat, 4 ≤ j ∧ j ≤ 16 ∧ i = .int .i64 j) (fun i => 16 - (intOf i).toNat)
    case atStart => exact ⟨4, by omega, by omega, rfl⟩
    case round =>
      obtain ⟨j, h4, h16, rfl⟩ := hrel
      by_cases hlt : j < 16
      · go_wp2_with fail
        go_round
        case rel => exact ⟨j + 1, by omega, by omega, by go_num⟩
        case measure => simp [intOf]; omega
      · obtain rfl : j = 16 := by omega
        go_wp2_with fail
        go_ret
        exact ⟨rfl, H1.out.2⟩
  | false =>
    go_enter Tryz.func101, Tryz.ntmps101
    go_wp2_with fail
    go_loop [3] (fun i => ∃ j : Nat, 4 ≤ j ∧ j ≤ 16 ∧ i = .int .i64 j ∧ ∀ (k : Nat) (x : UInt8), 4 ≤ k → k < j → bs[k]? = some x → x = 0) (fun i => 16 - (intOf i).toNat)
    case atStart => exact ⟨4, by omega, by omega, rfl, fun k x h1 h2 => by omega⟩
    case round =>
      obtain ⟨j, h4, h16, rfl, hz⟩ := hrel
      have HZ := Lib.hid hz
      clear hz
      by_cases hlt : j < 16
      · obtain ⟨x, hx, hc⟩ := H1.out.1.there j hlt
        by_cases hx0 : x = 0
        · subst hx0
          have hc0 : W.cell? ⟨w.heap.size, 1 + j, none⟩ = some (.int .u8 0) := hc
          clear hc
          have HX := Lib.hid hx
          clear hx
          go_wp2_with fail
          go_round
          case rel =>
            refine ⟨j + 1, by omega, by omega, by go_num, fun k x h1 h2 h3 => ?_⟩
            by_cases hk : k = j
            · subst hk; exact (Option.some.inj (HX.out.symm.trans h3)).symm
            · exact HZ.out k x h1 (by omega) h3
          case measure => simp [intOf]; omega
        · have hr := right_no h4 hx hx0
          have hn0 : ¬ (x.toNat : Int) = 0 := fun h => hx0 (by
            have h2 : x.toNat = 0 := by omega
            exact UInt8.toNat_inj.1 h2)
          have HR := Lib.hid hr
          clear hr hx
          go_wp2_with fail
          go_ret
          exact ⟨by rw [HR.out]; rfl, H1.out.2⟩
      · obtain rfl : j = 16 := by omega
        have hr := right_yes hl (fun i x h4 hx => HZ.out i x h4 (by have := (List.getElem?_eq_some_iff.1 hx).1; omega) hx)
        have HR := Lib.hid hr
        clear hr
        go_wp2_with fail
        go_ret
        exact ⟨by rw [HR.out]; rfl, H1.out.2⟩
end Go.Proofs.YtbikifaadpijnaaGreatDoor
