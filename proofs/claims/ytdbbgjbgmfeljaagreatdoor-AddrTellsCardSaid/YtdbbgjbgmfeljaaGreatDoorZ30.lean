/-
  Package addr's text6. Conditions: what the program's text has laid (Env).
  Package addr's Text. Conditions: what the program's text has laid (Env).
  The text of an address, reckoned without a recursion on a number. No conditions.
  The text of an address of version 6, as two loops make it: the longest run, then group by group. Of no program but the words. No conditions.
  Package addr's TextNet. Conditions: what the program's text has laid (Env).
-/
import Derived.Test.YtdbbgjbgmfeljaaGreatDoorZ29
import Derived.Test.YtdbbgjbgmfeljaaGreatDoorZ01
import Derived.Test.YtdbbgjbgmfeljaaGreatDoorZ14
namespace Go.Proofs.YtdbbgjbgmfeljaaGreatDoor
open Go.RowKit
set_option maxRecDepth 100000

theorem ret_str {a b : ByteArray} (h : a = b) : Ending.returned (.string a) = .returned (.string b) := by rw [h]
/-- The number of a group. -/
def grp (bs : List UInt8) (i : Nat) : Nat := (bs.getD (2 * i) 0).toNat * 256 + (bs.getD (2 * i + 1) 0).toNat
theorem grp_lt (bs : List UInt8) (i : Nat) : grp bs i < 65536 := by
  unfold grp
  have := (bs.getD (2 * i) 0).toNat_lt
  have := (bs.getD (2 * i + 1) 0).toNat_lt
  omega
def words6 (bs : List UInt8) : List ByteArray := (List.range 8).map fun i => mkS (hexL (grp bs i))
theorem words6_len (bs : List UInt8) : (words6 bs).length = 8 := by simp [words6]
def text6v (bs : List UInt8) : List UInt8 :=
  if (longestv ((words6 bs).map isZ)).1 = (longestv ((words6 bs).map isZ)).2 then Lib.join ((words6 bs).map fun x => x.data.toList) [58]
  else Lib.join (((words6 bs).take (longestv ((words6 bs).map isZ)).1).map fun x => x.data.toList) [58] ++ [58, 58] ++ Lib.join (((words6 bs).drop (longestv ((words6 bs).map isZ)).2).map fun x => x.data.toList) [58]
theorem hexL_len {v : Nat} (h : v < 65536) : (hexL v).length ≤ 4 := by
  unfold hexL
  split
  · simp
  · rw [List.length_append]
    unfold hexL
    split
    · simp
    · rw [List.length_append]
      unfold hexL
      split
      · simp
      · rw [List.length_append]
        unfold hexL
        rw [dif_pos (by omega)]
        simp
theorem words6_size (bs : List UInt8) : ∀ x ∈ words6 bs, x.size ≤ 100 := by
  intro x hx
  obtain ⟨i, _, rfl⟩ := List.mem_map.1 hx
  have := hexL_len (grp_lt bs i)
  rw [Lib.size_eq, mkS_data]
  omega
theorem words6_at (bs : List UInt8) {k : Nat} (hk : k < 8) : (words6 bs)[k]? = some (mkS (hexL (grp bs k))) := by
  unfold words6
  rw [List.getElem?_map, List.getElem?_range hk]
  rfl

theorem join_len {sep : List UInt8} (hs : sep.length ≤ 100) : ∀ l : List (List UInt8), (∀ x ∈ l, x.length ≤ 100) → (Lib.join l sep).length ≤ 200 * l.length
  | [], _ => by simp [Lib.join, List.intercalate]
  | [x], hx => by rw [Lib.join_one]; have := hx x (by simp); simp; omega
  | x :: y :: r, hx => by
    have h1 := join_len hs (y :: r) (fun z hz => hx z (List.mem_cons_of_mem _ hz))
    have h2 : Lib.join (x :: y :: r) sep = x ++ sep ++ Lib.join (y :: r) sep := by simp [Lib.join, List.intercalate]
    have h3 := hx x (by simp)
    rw [h2]
    simp only [List.length_append, List.length_cons] at h1 ⊢
    omega
/-- .. of a part of the words, by a letter. -/
theorem join_J {w : World} {g : Nat} (bs : List UInt8) (hr : Row w g 9 (sv (words6 bs))) (o n c : Nat) (ho : o + n ≤ 8) (hc : n ≤ c) :
    Calls Tryz.prog 57 #[.slice (some ⟨g, o, none⟩) n c, .string ⟨#[58]⟩] w fun e w' => ∃ J : ByteArray, e = .returned (.string J) ∧ J.data.toList = Lib.join ((((words6 bs).drop o).take n).map fun x => x.data.toList) [58] ∧ J.size ≤ 2000 ∧ Below w.heap.size w w' := by
  refine (join_any hr o n c (by rw [words6_len]; exact ho) hc ⟨#[58]⟩ (words6_size bs) (by show 1 ≤ 100; omega) (by omega)).mono fun e w' ⟨he, hb⟩ => ⟨_, he, mkS_data _, ?_, hb⟩
  rw [Lib.size_eq, mkS_data]
  have h := join_len (sep := [58]) (by simp) ((((words6 bs).drop o).take n).map fun x => x.data.toList) (fun x hx => by
    obtain ⟨y, hy, rfl⟩ := List.mem_map.1 hx
    rw [← Lib.size_eq]
    exact words6_size bs y (List.mem_of_mem_drop (List.mem_of_mem_take hy)))
  rw [List.length_map, List.length_take] at h
  have : min n ((words6 bs).drop o).length ≤ 8 := by omega
  exact Nat.le_trans h (by omega)

set_option maxHeartbeats 4000000 in
theorem text6_any (bs : List UInt8) (hl : bs.length = 16) {w : World} (hE : Env w) : Calls Tryz.prog 33 #[.agg (bv bs).toArray] w fun e w' => e = .returned (.string (mkS (text6v bs))) ∧ Below w.heap.size w w' := by
  have hmk : ∀ w : World, (Instr.makeSlice 56 (.int .i64 8) (.int .i64 8)).run Tryz.prog w = .ok (.slice (some ⟨w.heap.size, 0, none⟩) 8 8) (w.alloc (.cells (madeCells #[.string ByteArray.empty] 8) 9)) := fun w => makeStrs 8 (by omega) w
  have r0 := Row.new' w 22 (cs := (bv bs).toArray) rfl
  have b1 : Below (w.alloc (.cells (bv bs).toArray 22)).heap.size (w.alloc (.cells (bv bs).toArray 22)) ((w.alloc (.cells (bv bs).toArray 22)).alloc (.cells (madeCells #[.string ByteArray.empty] 8) 9)) := (Below.refl _ _).alloc (Nat.le_refl _) _
  have r1 := Row.new' (w.alloc (.cells (bv bs).toArray 22)) 9 (sv_made 8)
  have b0 : Below w.heap.size w ((w.alloc (.cells (bv bs).toArray 22)).alloc (.cells (madeCells #[.string ByteArray.empty] 8) 9)) := ((Below.refl _ _).alloc (Nat.le_refl _) _).trans (b1.mono (by simp))
  rw [World.size_alloc] at r1
  have H0 := Lib.hid (And.intro (r0.later b1 (Nat.le_refl _)) (And.intro r1 b0))
  have HE := Lib.hid hE
  have HL := Lib.hid hl
  clear r0 b1 r1 b0 hE hl
  go_enter Tryz.func33, Tryz.ntmps33
  go_wp2_with fail
  generalize hW : ((w.alloc (.cells (bv bs).toArray 22)).alloc (.cells (madeCells #[.string ByteArray.empty] 8) 9)) = W at H0 ⊢
  clear hW hmk
  go_loopw [10] (fun i wr => ∃ k : Nat, i = .int .i64 k ∧ k ≤ 8 ∧ Hid (Row wr (w.heap.size + 1) 9 (sv ((words6 bs).take k ++ List.replicate (8 - k) ByteArray.empty)) ∧ Row wr w.heap.size 22 (bv bs) ∧ Below w.heap.size w wr)) (fun i _ => 8 - (intOf i).toNat)
  case atStart => exact ⟨0, rfl, by omega, Lib.hid ⟨H0.out.2.1, H0.out.1, H0.out.2.2⟩⟩
  case round =>
    obtain ⟨k, rfl, hk, hh⟩ := hrel
    by_cases hlt : k < 8
    · obtain ⟨x, hx⟩ : ∃ x, bs[2 * k]? = some x := ⟨_, List.getElem?_eq_getElem (by rw [HL.out]; omega)⟩
      obtain ⟨y, hy⟩ : ∃ y, bs[2 * k + 1]? = some y := ⟨_, List.getElem?_eq_getElem (by rw [HL.out]; omega)⟩
      have hx2 : x.toNat < 256 := x.toNat_lt
      have hy2 : y.toNat < 256 := y.toNat_lt
      have hg : grp bs k = x.toNat * 256 + y.toNat := by unfold grp; simp [List.getD, hx, hy]
      have hw6 := words6_at bs hlt
      rw [hg] at hw6
      have hor := i64_or_byte x.toNat y.toNat (by omega) hy2
      have q1 : (0 : Int) ≤ 2 * (k : Int) := by omega
      have q2 : 2 * (k : Int) < 16 := by omega
      have q4 : (0 : Int) ≤ 2 * (k : Int) + 1 := by omega
      have q5 : 2 * (k : Int) + 1 < 16 := by omega
      have q3 : (2 * (k : Int)).toNat = 2 * k := by omega
      have q6 : (2 * (k : Int) + 1).toNat = 2 * k + 1 := by omega
      have q7 : IntKind.i64.wrap (2 * (k : Int)) = 2 * (k : Int) := IntWalk.i64_in _ (by omega)
      have q8 : IntKind.i64.wrap (2 * (k : Int) + 1) = 2 * (k : Int) + 1 := IntWalk.i64_in _ (by omega)
      have q9 : IntKind.i64.wrap (x.toNat : Int) = (x.toNat : Int) := IntWalk.i64_in _ (by omega)
      have q10 : IntKind.i64.wrap (y.toNat : Int) = (y.toNat : Int) := IntWalk.i64_in _ (by omega)
      have q11 : IntKind.i64.wrap ((x.toNat : Int) * 256) = (x.toNat : Int) * 256 := IntWalk.i64_in _ (by omega)
      have hc1 : ∀ w', Row w' w.heap.size 22 (bv bs) → w'.cell? ⟨w.heap.size, 2 * k, none⟩ = some (.int .u8 x.toNat) := fun w' h => h.cell (bv_at hx)
      have hc2 : ∀ w', Row w' w.heap.size 22 (bv bs) → w'.cell? ⟨w.heap.size, 2 * k + 1, none⟩ = some (.int .u8 y.toNat) := fun w' h => h.cell (bv_at hy)
      have hlen : ((words6 bs).take k).length = k := by rw [List.length_take, words6_len]; omega
      have hF : ∀ w1, Below w.heap.size w w1 → Hid (Calls Tryz.prog 55 #[.int .i64 ((x.toNat : Int) * 256 + (y.toNat : Int)), .int .i64 16] w1 fun e w' => e = .returned (.string (mkS (hexL (x.toNat * 256 + y.toNat)))) ∧ Below w1.heap.size w1 w') := fun w1 hb => by
        have h := FormatInt16 (x.toNat * 256 + y.toNat) (by omega) (HE.out.later hb (Nat.le_refl _))
        rw [show ((x.toNat * 256 + y.toNat : Nat) : Int) = (x.toNat : Int) * 256 + (y.toNat : Int) by omega] at h
        exact h
      have HF := Lib.hid hF
      have hcell2 : wr.cell? ⟨w.heap.size + 1, k, none⟩ = some (.string ByteArray.empty) := hh.out.1.cell (sv_at (by
        rw [List.getElem?_append_right (by omega), hlen, Nat.sub_self, List.getElem?_replicate, if_pos (by omega)]))
      have hf2 := hh.out.1.frozen k
      have HB := Lib.hid (And.intro hw6 (And.intro hlen (And.intro hcell2 hf2)))
      have HG := Lib.hid hg
      clear hw6 hlen hF hcell2 hf2 hx hy hg
      have hS : Row wr.drew w.heap.size 22 (bv bs) := hh.out.2.1
      go_wp2_with fail
      refine rg_begin (fun w' => Row w' w.heap.size 22 (bv bs)) 18 (by kernel_rfl) rfl ?_
      refine rg_take 0 (v := ?rv1) rfl (by kernel_rfl) (by kernel_rfl) (by kernel_rfl) (fun _ _ _ h => h) (by rfl) hS (fun w2 hw2 => ?ry1) ?rr1
      case ry1 => ((try dsimp only at hw2); go_simp <;> with_reducible rfl)
      simp only [Act.put, List.setIfInBounds_toArray, List.set_cons_zero, List.set_cons_succ]
      refine rg_take 1 (v := ?rv2) rfl (by kernel_rfl) (by kernel_rfl) (by kernel_rfl) (fun _ _ _ h => h) (by rfl) hS (fun w2 hw2 => ?ry2) ?rr2
      case ry2 => ((try dsimp only at hw2); go_simp <;> with_reducible rfl)
      simp only [Act.put, List.setIfInBounds_toArray, List.set_cons_zero, List.set_cons_succ]
      refine rg_take 2 (v := ?rv3) rfl (by kernel_rfl) (by kernel_rfl) (by kernel_rfl) (fun _ _ _ h => h) (by rfl) hS (fun w2 hw2 => ?ry3) ?rr3
      case ry3 => ((try dsimp only at hw2); go_simp <;> with_reducible rfl)
      simp only [Act.put, List.setIfInBounds_toArray, List.set_cons_zero, List.set_cons_succ]
      refine rg_take 8 (v := ?rv4) rfl (by kernel_rfl) (by kernel_rfl) (by kernel_rfl) (fun _ _ _ h => h) (by rfl) hS (fun w2 hw2 => ?ry4) ?rr4
      case ry4 => ((try dsimp only at hw2); go_simp <;> with_reducible rfl)
      simp only [Act.put, List.setIfInBounds_toArray, List.set_cons_zero, List.set_cons_succ]
      refine rg_take 3 (v := ?rv5) rfl (by kernel_rfl) (by kernel_rfl) (by kernel_rfl) (fun _ _ _ h => h) (by rfl) hS (fun w2 hw2 => ?ry5) ?rr5
      case ry5 => ((try dsimp only at hw2); go_simp <;> with_reducible rfl)
      simp only [Act.put, List.setIfInBounds_toArray, List.set_cons_zero, List.set_cons_succ]
      refine rg_take 9 (v := ?rv6) rfl (by kernel_rfl) (by kernel_rfl) (by kernel_rfl) (fun _ _ _ h => h) (by rfl) hS (fun w2 hw2 => ?ry6) ?rr6
      case ry6 => ((try dsimp only at hw2); go_simp <;> with_reducible rfl)
      simp only [Act.put, List.setIfInBounds_toArray, List.set_cons_zero, List.set_cons_succ]
      refine rg_take 4 (v := ?rv7) rfl (by kernel_rfl) (by kernel_rfl) (by kernel_rfl) (fun _ _ _ h => h) (by rfl) hS (fun w2 hw2 => ?ry7) ?rr7
      case ry7 => ((try dsimp only at hw2); go_simp <;> with_reducible rfl)
      simp only [Act.put, List.setIfInBounds_toArray, List.set_cons_zero, List.set_cons_succ]
      refine rg_take 10 (v := ?rv8) rfl (by kernel_rfl) (by kernel_rfl) (by kernel_rfl) (fun _ _ _ h => h) (by rfl) hS (fun w2 hw2 => ?ry8) ?rr8
      case ry8 => ((try dsimp only at hw2); go_simp <;> with_reducible rfl)
      simp only [Act.put, List.setIfInBounds_toArray, List.set_cons_zero, List.set_cons_succ]
      refine rg_take 5 (v := ?rv9) rfl (by kernel_rfl) (by kernel_rfl) (by kernel_rfl) (fun _ _ _ h => h) (by rfl) hS (fun w2 hw2 => ?ry9) ?rr9
      case ry9 => ((try dsimp only at hw2); go_simp <;> with_reducible rfl)
      simp only [Act.put, List.setIfInBounds_toArray, List.set_cons_zero, List.set_cons_succ]
      refine rg_take 11 (v := ?rv10) rfl (by kernel_rfl) (by kernel_rfl) (by kernel_rfl) (fun _ _ _ h => h) (by rfl) hS (fun w2 hw2 => ?ry10) ?rr10
      case ry10 => ((try dsimp only at hw2); go_simp <;> with_reducible rfl)
      simp only [Act.put, List.setIfInBounds_toArray, List.set_cons_zero, List.set_cons_succ]
      refine rg_take 6 (v := ?rv11) rfl (by kernel_rfl) (by kernel_rfl) (by kernel_rfl) (fun _ _ _ h => h) (by rfl) hS (fun w2 hw2 => ?ry11) ?rr11
      case ry11 => ((try dsimp only at hw2); go_simp <;> with_reducible rfl)
      simp only [Act.put, List.setIfInBounds_toArray, List.set_cons_zero, List.set_cons_succ]
      refine rg_take 12 (v := ?rv12) rfl (by kernel_rfl) (by kernel_rfl) (by kernel_rfl) (fun _ _ _ h => h) (by rfl) hS (fun w2 hw2 => ?ry12) ?rr12
      case ry12 => ((try dsimp only at hw2); go_simp <;> with_reducible rfl)
      simp only [Act.put, List.setIfInBounds_toArray, List.set_cons_zero, List.set_cons_succ]
      refine rg_take 7 (v := ?rv13) rfl (by kernel_rfl) (by kernel_rfl) (by kernel_rfl) (fun _ _ _ h => h) (by rfl) hS (fun w2 hw2 => ?ry13) ?rr13
      case ry13 => ((try dsimp only at hw2); go_simp <;> with_reducible rfl)
      simp only [Act.put, List.setIfInBounds_toArray, List.set_cons_zero, List.set_cons_succ]
      refine rg_take 13 (v := ?rv14) rfl (by kernel_rfl) (by kernel_rfl) (by kernel_rfl) (fun _ _ _ h => h) (by rfl) hS (fun w2 hw2 => ?ry14) ?rr14
      case ry14 => ((try dsimp only at hw2); go_simp <;> with_reducible rfl)
      simp only [Act.put, List.setIfInBounds_toArray, List.set_cons_zero, List.set_cons_succ]
      refine rg_take 14 (v := ?rv15) rfl (by kernel_rfl) (by kernel_rfl) (by kernel_rfl) (fun _ _ _ h => h) (by rfl) hS (fun w2 hw2 => ?ry15) ?rr15
      case ry15 => ((try dsimp only at hw2); go_simp <;> with_reducible rfl)
      simp only [Act.put, List.setIfInBounds_toArray, List.set_cons_zero, List.set_cons_succ]
      refine rg_step 15 rfl (by kernel_rfl) (by rfl) (fun K hK => ?_)
      go_simp
      refine (HF.out wr.drew hh.out.2.2.drew).out.mono ?_
      rintro e w1 ⟨rfl, b1⟩
      have c1 := b1.cell (p := ⟨w.heap.size + 1, k, none⟩) (by exact lt_cell HB.out.2.2.1)
      have f1 := b1.frozen (p := ⟨w.heap.size + 1, k, none⟩) (by exact lt_cell HB.out.2.2.1)
      rw [show wr.drew.cell? ⟨w.heap.size + 1, k, none⟩ = _ from HB.out.2.2.1] at c1
      rw [show wr.drew.frozen? ⟨w.heap.size + 1, k, none⟩ = _ from HB.out.2.2.2] at f1
      have r2 : Row (w1.setCell ⟨w.heap.size + 1, k, none⟩ (.string (mkS (hexL (x.toNat * 256 + y.toNat))))) (w.heap.size + 1) 9 (sv ((words6 bs).take (k + 1) ++ List.replicate (8 - (k + 1)) ByteArray.empty)) := by
        have h : Row wr.drew (w.heap.size + 1) 9 (sv ((words6 bs).take k ++ List.replicate (8 - k) ByteArray.empty)) := hh.out.1
        have := (h.later b1 (Nat.le_refl _)).put k (.string (mkS (hexL (x.toNat * 256 + y.toNat))))
        rw [sv_set, List.set_append_right _ _ (by rw [HB.out.2.1]; exact Nat.le_refl _), HB.out.2.1, Nat.sub_self, show 8 - k = (8 - (k + 1)) + 1 by omega, List.replicate_succ, List.set_cons_zero] at this
        rw [List.take_add_one, HB.out.1]
        simpa using this
      have r3 := (hS.later b1 (Nat.le_refl _)).far (p := ⟨w.heap.size + 1, k, none⟩) (by show w.heap.size ≠ w.heap.size + 1; omega) (.string (mkS (hexL (x.toNat * 256 + y.toNat))))
      have b3 := (hh.out.2.2.drew.trans (b1.mono hh.out.2.2.drew.size)).setCell (p := ⟨w.heap.size + 1, k, none⟩) (by show w.heap.size ≤ w.heap.size + 1; omega) (.string (mkS (hexL (x.toNat * 256 + y.toNat))))
      replace hS := hS.later b1 (Nat.le_refl _)
      have H2 := Lib.hid (And.intro r2 (And.intro r3 b3))
      clear r2 r3 b3 b1
      refine hK.out _ _ hS ?_
      clear hK K
      try simp only [Act.put, List.setIfInBounds_toArray, List.set_cons_zero, List.set_cons_succ]
      refine rg_take 16 (v := ?rv16) rfl (by kernel_rfl) (by kernel_rfl) (by kernel_rfl) (fun _ _ _ h => h) (by rfl) hS (fun w2 hw2 => ?ry16) ?rr16
      case ry16 => ((try dsimp only at hw2); go_simp <;> with_reducible rfl)
      simp only [Act.put, List.setIfInBounds_toArray, List.set_cons_zero, List.set_cons_succ]
      refine rg_step 17 rfl (by kernel_rfl) (by rfl) (fun K hK => ?_)
      go_simp
      replace hS := H2.out.2.1
      refine hK.out _ _ hS ?_
      clear hK K
      try simp only [Act.put, List.setIfInBounds_toArray, List.set_cons_zero, List.set_cons_succ]
      refine rg_done (by kernel_rfl) ?_
      clear hS
      go_wp2_with fail
      go_roundw
      case rel => exact ⟨k + 1, by go_num, by omega, H2⟩
      case measure => simp [intOf]; omega
    · obtain rfl : k = 8 := by omega
      have hr := hh.out.1
      rw [List.take_of_length_le (Nat.le_of_eq (words6_len bs)), Nat.sub_self, List.replicate_zero, List.append_nil] at hr
      have hlo := longest_any (w.heap.size + 1) 8 (words6 bs) (words6_len bs) (by omega) hr
      have hok := lst_ok ((words6 bs).map isZ) ((words6 bs).map isZ).length
      have h8 : ((words6 bs).map isZ).length = 8 := by rw [List.length_map, words6_len]
      have htx : text6v bs = text6v bs := rfl
      conv at htx => rhs; unfold text6v
      rw [show (lst ((words6 bs).map isZ) ((words6 bs).map isZ).length).2 = longestv ((words6 bs).map isZ) from rfl, h8] at hok
      obtain ⟨f, t, hft⟩ : ∃ f t, longestv ((words6 bs).map isZ) = (f, t) := ⟨_, _, rfl⟩
      rw [hft] at hlo hok htx
      simp only at hlo hok htx
      obtain ⟨_, hok1, hok2⟩ := hok
      have HLO := Lib.hid hlo
      have HRW := Lib.hid hr
      clear hlo hr hft h8
      by_cases heq : f = t
      · subst heq
        rw [if_pos rfl] at htx
        have hj := join_any HRW.out 0 8 8 (by rw [words6_len]; omega) (Nat.le_refl _) ⟨#[58]⟩ (words6_size bs) (by show 1 ≤ 100; omega) (by omega)
        rw [List.drop_zero, List.take_of_length_le (Nat.le_of_eq (words6_len bs)), show (ByteArray.mk #[58]).data.toList = [58] from rfl, ← htx] at hj
        have HJ := Lib.hid hj
        have hff : ((f : Int) == f) = true := by simp
        clear hj htx
        go_wp2_with fail
        refine HLO.out.mono ?_
        rintro e w1 ⟨rfl, rfl⟩
        go_wp2_with fail
        refine HJ.out.mono ?_
        rintro e w1 ⟨rfl, b1⟩
        have H2 := Lib.hid (hh.out.2.2.trans (b1.mono hh.out.2.2.size))
        clear b1
        go_wp2_with fail
        go_ret
        exact ⟨rfl, H2.out⟩
      · rw [if_neg heq] at htx
        have hfe : ((f : Int) == t) = false := by simpa using fun h => heq (by omega)
        have HTX := Lib.hid htx
        clear htx heq
        go_wp2_with fail
        refine HLO.out.mono ?_
        rintro e w1 ⟨rfl, rfl⟩
        go_wp2_with fail
        have p1 : (f : Int) ≤ 8 := by omega
        have p2 : (t : Int) ≤ 8 := by omega
        have p3 : (0 : Int) ≤ t := by omega
        by_cases ht8 : t = 8
        · subst ht8
          have hS : Row wr.drew (w.heap.size + 1) 9 (sv (words6 bs)) := HRW.out
          have hB : Below w.heap.size w wr.drew := hh.out.2.2.drew
          refine rg_begin (fun w' => Row w' (w.heap.size + 1) 9 (sv (words6 bs))) 11 (by kernel_rfl) rfl ?_
          refine rg_take 0 (v := ?rv17) rfl (by kernel_rfl) (by kernel_rfl) (by kernel_rfl) (fun _ _ _ h => h) (by rfl) hS (fun w2 hw2 => ?ry17) ?rr17
          case ry17 => ((try dsimp only at hw2); go_simp <;> with_reducible rfl)
          simp only [Act.put, List.setIfInBounds_toArray, List.set_cons_zero, List.set_cons_succ]
          refine rg_take 1 (v := ?rv18) rfl (by kernel_rfl) (by kernel_rfl) (by kernel_rfl) (fun _ _ _ h => h) (by rfl) hS (fun w2 hw2 => ?ry18) ?rr18
          case ry18 => ((try dsimp only at hw2); go_simp <;> with_reducible rfl)
          simp only [Act.put, List.setIfInBounds_toArray, List.set_cons_zero, List.set_cons_succ]
          refine rg_take 5 (v := ?rv19) rfl (by kernel_rfl) (by kernel_rfl) (by kernel_rfl) (fun _ _ _ h => h) (by rfl) hS (fun w2 hw2 => ?ry19) ?rr19
          case ry19 => ((try dsimp only at hw2); go_simp <;> with_reducible rfl)
          simp only [Act.put, List.setIfInBounds_toArray, List.set_cons_zero, List.set_cons_succ]
          refine rg_take 6 (v := ?rv20) rfl (by kernel_rfl) (by kernel_rfl) (by kernel_rfl) (fun _ _ _ h => h) (by rfl) hS (fun w2 hw2 => ?ry20) ?rr20
          case ry20 => ((try dsimp only at hw2); go_simp <;> with_reducible rfl)
          simp only [Act.put, List.setIfInBounds_toArray, List.set_cons_zero, List.set_cons_succ]
          refine rg_take 2 (v := ?rv21) rfl (by kernel_rfl) (by kernel_rfl) (by kernel_rfl) (fun _ _ _ h => h) (by rfl) hS (fun w2 hw2 => ?ry21) ?rr21
          case ry21 => ((try dsimp only at hw2); go_simp <;> with_reducible rfl)
          simp only [Act.put, List.setIfInBounds_toArray, List.set_cons_zero, List.set_cons_succ]
          refine rg_take 7 (v := ?rv22) rfl (by kernel_rfl) (by kernel_rfl) (by kernel_rfl) (fun _ _ _ h => h) (by rfl) hS (fun w2 hw2 => ?ry22) ?rr22
          case ry22 => ((try dsimp only at hw2); go_simp <;> with_reducible rfl)
          simp only [Act.put, List.setIfInBounds_toArray, List.set_cons_zero, List.set_cons_succ]
          refine rg_step 3 rfl (by kernel_rfl) (by rfl) (fun K hK => ?_)
          go_simp
          refine (join_J bs hS 0 f 8 (by omega) (by omega)).mono ?_
          rintro e w1 ⟨J1, rfl, hj1, hz1, b1⟩
          replace hS := hS.later b1 (Nat.le_refl _)
          replace hB := hB.trans (b1.mono hB.size)
          have n1 : (9223372036854775807 < J1.size + 2) = False := eq_false (by omega)
          have HJ1 := Lib.hid hj1
          clear b1 hj1
          refine hK.out _ _ hS ?_
          clear hK K
          try simp only [Act.put, List.setIfInBounds_toArray, List.set_cons_zero, List.set_cons_succ]
          refine rg_take 4 (v := ?rv23) rfl (by kernel_rfl) (by kernel_rfl) (by kernel_rfl) (fun _ _ _ h => h) (by rfl) hS (fun w2 hw2 => ?ry23) ?rr23
          case ry23 => ((try dsimp only at hw2); go_simp <;> with_reducible rfl)
          simp only [Act.put, List.setIfInBounds_toArray, List.set_cons_zero, List.set_cons_succ]
          refine rg_step 8 rfl (by kernel_rfl) (by rfl) (fun K hK => ?_)
          go_simp
          refine (join_J bs hS 0 0 0 (by omega) (by omega)).mono ?_
          rintro e w2 ⟨J2, rfl, hj2, hz2, b2⟩
          replace hS := hS.later b2 (Nat.le_refl _)
          replace hB := hB.trans (b2.mono hB.size)
          have n2 : (9223372036854775807 < J1.size + 2 + J2.size) = False := eq_false (by omega)
          have HJ2 := Lib.hid hj2
          clear b2 hj2
          refine hK.out _ _ hS ?_
          clear hK K
          try simp only [Act.put, List.setIfInBounds_toArray, List.set_cons_zero, List.set_cons_succ]
          refine rg_take 9 (v := ?rv24) rfl (by kernel_rfl) (by kernel_rfl) (by kernel_rfl) (fun _ _ _ h => h) (by rfl) hS (fun w2 hw2 => ?ry24) ?rr24
          case ry24 => ((try dsimp only at hw2); go_simp <;> with_reducible rfl)
          simp only [Act.put, List.setIfInBounds_toArray, List.set_cons_zero, List.set_cons_succ]
          refine rg_take 10 (v := ?rv25) rfl (by kernel_rfl) (by kernel_rfl) (by kernel_rfl) (fun _ _ _ h => h) (by rfl) hS (fun w2 hw2 => ?ry25) ?rr25
          case ry25 => ((try dsimp only at hw2); go_simp <;> with_reducible rfl)
          simp only [Act.put, List.setIfInBounds_toArray, List.set_cons_zero, List.set_cons_succ]
          refine rg_done (by kernel_rfl) ?_
          have H2 := Lib.hid hB
          clear hS hB
          go_wp2_with fail
          go_ret
          refine ⟨ret_str (bytes_inj' ?_), H2.out⟩
          rw [mkS_data, HTX.out, ByteArray.data_append, ByteArray.data_append, Array.toList_append, Array.toList_append, HJ1.out, HJ2.out]
          rw [List.drop_zero, List.take_zero, List.drop_of_length_le (Nat.le_of_eq (words6_len bs))]
        · have p4' : (8 = t) = False := eq_false fun h => ht8 h.symm
          have hS : Row wr.drew (w.heap.size + 1) 9 (sv (words6 bs)) := HRW.out
          have hB : Below w.heap.size w wr.drew := hh.out.2.2.drew
          refine rg_begin (fun w' => Row w' (w.heap.size + 1) 9 (sv (words6 bs))) 11 (by kernel_rfl) rfl ?_
          refine rg_take 0 (v := ?rv26) rfl (by kernel_rfl) (by kernel_rfl) (by kernel_rfl) (fun _ _ _ h => h) (by rfl) hS (fun w2 hw2 => ?ry26) ?rr26
          case ry26 => ((try dsimp only at hw2); go_simp <;> with_reducible rfl)
          simp only [Act.put, List.setIfInBounds_toArray, List.set_cons_zero, List.set_cons_succ]
          refine rg_take 1 (v := ?rv27) rfl (by kernel_rfl) (by kernel_rfl) (by kernel_rfl) (fun _ _ _ h => h) (by rfl) hS (fun w2 hw2 => ?ry27) ?rr27
          case ry27 => ((try dsimp only at hw2); go_simp <;> with_reducible rfl)
          simp only [Act.put, List.setIfInBounds_toArray, List.set_cons_zero, List.set_cons_succ]
          refine rg_take 5 (v := ?rv28) rfl (by kernel_rfl) (by kernel_rfl) (by kernel_rfl) (fun _ _ _ h => h) (by rfl) hS (fun w2 hw2 => ?ry28) ?rr28
          case ry28 => ((try dsimp only at hw2); go_simp <;> with_reducible rfl)
          simp only [Act.put, List.setIfInBounds_toArray, List.set_cons_zero, List.set_cons_succ]
          refine rg_take 6 (v := ?rv29) rfl (by kernel_rfl) (by kernel_rfl) (by kernel_rfl) (fun _ _ _ h => h) (by rfl) hS (fun w2 hw2 => ?ry29) ?rr29
          case ry29 => ((try dsimp only at hw2); go_simp <;> with_reducible rfl)
          simp only [Act.put, List.setIfInBounds_toArray, List.set_cons_zero, List.set_cons_succ]
          refine rg_take 2 (v := ?rv30) rfl (by kernel_rfl) (by kernel_rfl) (by kernel_rfl) (fun _ _ _ h => h) (by rfl) hS (fun w2 hw2 => ?ry30) ?rr30
          case ry30 => ((try dsimp only at hw2); go_simp <;> with_reducible rfl)
          simp only [Act.put, List.setIfInBounds_toArray, List.set_cons_zero, List.set_cons_succ]
          refine rg_take 7 (v := ?rv31) rfl (by kernel_rfl) (by kernel_rfl) (by kernel_rfl) (fun _ _ _ h => h) (by rfl) hS (fun w2 hw2 => ?ry31) ?rr31
          case ry31 => ((try dsimp only at hw2); go_simp <;> with_reducible rfl)
          simp only [Act.put, List.setIfInBounds_toArray, List.set_cons_zero, List.set_cons_succ]
          refine rg_step 3 rfl (by kernel_rfl) (by rfl) (fun K hK => ?_)
          go_simp
          refine (join_J bs hS 0 f 8 (by omega) (by omega)).mono ?_
          rintro e w1 ⟨J1, rfl, hj1, hz1, b1⟩
          replace hS := hS.later b1 (Nat.le_refl _)
          replace hB := hB.trans (b1.mono hB.size)
          have n1 : (9223372036854775807 < J1.size + 2) = False := eq_false (by omega)
          have HJ1 := Lib.hid hj1
          clear b1 hj1
          refine hK.out _ _ hS ?_
          clear hK K
          try simp only [Act.put, List.setIfInBounds_toArray, List.set_cons_zero, List.set_cons_succ]
          refine rg_take 4 (v := ?rv32) rfl (by kernel_rfl) (by kernel_rfl) (by kernel_rfl) (fun _ _ _ h => h) (by rfl) hS (fun w2 hw2 => ?ry32) ?rr32
          case ry32 => ((try dsimp only at hw2); go_simp <;> with_reducible rfl)
          simp only [Act.put, List.setIfInBounds_toArray, List.set_cons_zero, List.set_cons_succ]
          refine rg_step 8 rfl (by kernel_rfl) (by rfl) (fun K hK => ?_)
          go_simp
          refine (join_J bs hS t (8 - t) (8 - t) (by omega) (by omega)).mono ?_
          rintro e w2 ⟨J2, rfl, hj2, hz2, b2⟩
          replace hS := hS.later b2 (Nat.le_refl _)
          replace hB := hB.trans (b2.mono hB.size)
          have n2 : (9223372036854775807 < J1.size + 2 + J2.size) = False := eq_false (by omega)
          have HJ2 := Lib.hid hj2
          clear b2 hj2
          refine hK.out _ _ hS ?_
          clear hK K
          try simp only [Act.put, List.setIfInBounds_toArray, List.set_cons_zero, List.set_cons_succ]
          refine rg_take 9 (v := ?rv33) rfl (by kernel_rfl) (by kernel_rfl) (by kernel_rfl) (fun _ _ _ h => h) (by rfl) hS (fun w2 hw2 => ?ry33) ?rr33
          case ry33 => ((try dsimp only at hw2); go_simp <;> with_reducible rfl)
          simp only [Act.put, List.setIfInBounds_toArray, List.set_cons_zero, List.set_cons_succ]
          refine rg_take 10 (v := ?rv34) rfl (by kernel_rfl) (by kernel_rfl) (by kernel_rfl) (fun _ _ _ h => h) (by rfl) hS (fun w2 hw2 => ?ry34) ?rr34
          case ry34 => ((try dsimp only at hw2); go_simp <;> with_reducible rfl)
          simp only [Act.put, List.setIfInBounds_toArray, List.set_cons_zero, List.set_cons_succ]
          refine rg_done (by kernel_rfl) ?_
          have H2 := Lib.hid hB
          clear hS hB
          go_wp2_with fail
          go_ret
          refine ⟨ret_str (bytes_inj' ?_), H2.out⟩
          rw [mkS_data, HTX.out, ByteArray.data_append, ByteArray.data_append, Array.toList_append, Array.toList_append, HJ1.out, HJ2.out]
          rw [List.drop_zero, show List.take (8 - t) ((words6 bs).drop t) = (words6 bs).drop t from List.take_of_length_le (by rw [List.length_drop, words6_len]; exact Nat.le_refl _)]
end Go.Proofs.YtdbbgjbgmfeljaaGreatDoor

namespace Go.Proofs.YtdbbgjbgmfeljaaGreatDoor
open Go.RowKit
set_option maxRecDepth 100000

/-- An address as text. -/
def textv (v6 : Bool) (bs : List UInt8) : List UInt8 := if rightv v6 bs then (if v6 then text6v bs else text4v bs) else []
theorem wpList_load_arr {ops : Array Oper} {rest : List Oper} {o : Oper} {a : Act} {w : World} {Q : Exit → Act → World → Prop} (hgd : o.guard = none) (x : Operand) (ho : o.op = .load 22 x) {g : Nat} {bs : List UInt8} (hl : bs.length = 16)
    (hx : a.eval x = .pointer (some ⟨g, 1, none⟩)) (hr : w.rangeAt g 1 (bv bs).toArray.toList) (h : wpList Tryz.prog ops Q rest (a.put o.dst (.agg (bv bs).toArray)) w) : wpList Tryz.prog ops Q (o :: rest) a w :=
  wpList_load_mid hgd 22 x ho g 1 hx (bv bs) _ hr Tryz.underlying22 rfl (arr_size hl) h

set_option maxHeartbeats 1000000 in
theorem Text_any (v6 : Bool) (bs : List UInt8) (hl : bs.length = 16) {w : World} (hE : Env w) : Calls Tryz.prog 12 #[.agg (adv v6 bs)] w fun e w' => e = .returned (.string (mkS (textv v6 bs))) ∧ Below w.heap.size w w' := by
  have A1 := AdBox.new w v6 hl
  have B1 : Below w.heap.size w (w.alloc (.cells (adv v6 bs) 24)) := (Below.refl _ _).alloc (Nat.le_refl _) _
  have HE := Lib.hid hE
  have H1 := Lib.hid (And.intro A1 B1)
  clear A1 B1 hE
  have h4 : ∀ w1, Below w.heap.size w w1 → Hid (Calls Tryz.prog 34 #[.agg (bv bs).toArray] w1 fun e w' => e = .returned (.string (mkS (text4v bs))) ∧ Below w1.heap.size w1 w') := fun w1 hb => text4_any bs hl (HE.out.later hb (Nat.le_refl _))
  have h6 : ∀ w1, Below w.heap.size w w1 → Hid (Calls Tryz.prog 33 #[.agg (bv bs).toArray] w1 fun e w' => e = .returned (.string (mkS (text6v bs))) ∧ Below w1.heap.size w1 w') := fun w1 hb => text6_any bs hl (HE.out.later hb (Nat.le_refl _))
  have H4 := Lib.hid h4
  have H6 := Lib.hid h6
  clear h4 h6
  have hres : textv v6 bs = if rightv v6 bs then (if v6 then text6v bs else text4v bs) else [] := rfl
  have hR := Right_any v6 bs hl
  cases hr : rightv v6 bs with
  | false =>
    rw [hr] at hres hR
    have HR := Lib.hid hR
    have HT := Lib.hid hres
    clear hR hres hr
    go_enter Tryz.func12, Tryz.ntmps12
    go_wp2_with (refine wpList_load_ad rfl (.tmp 1) rfl rfl H1.out.1 ?_)
    refine (HR.out _).mono ?_
    rintro e w1 ⟨rfl, b1⟩
    have H2 := Lib.hid (H1.out.2.trans (b1.mono H1.out.2.size))
    clear b1
    go_wp2_with fail
    go_ret
    exact ⟨by rw [HT.out]; rfl, H2.out⟩
  | true =>
    rw [hr] at hres hR
    have HR := Lib.hid hR
    have HT := Lib.hid hres
    clear hR hres hr
    cases v6
    · go_enter Tryz.func12, Tryz.ntmps12
      go_wp2_with (refine wpList_load_ad rfl (.tmp 1) rfl rfl H1.out.1 ?_)
      refine (HR.out _).mono ?_
      rintro e w1 ⟨rfl, b1⟩
      have hc := (H1.out.1.later b1 (Nat.le_refl _)).v6_cell
      have H2 := Lib.hid (And.intro (H1.out.2.trans (b1.mono H1.out.2.size)) (H1.out.1.later b1 (Nat.le_refl _)))
      clear b1
      go_wp2_with (refine wpList_load_arr rfl (.tmp 13) rfl hl rfl H2.out.2.range1 ?_)
      refine (H4.out w1 H2.out.1).out.mono ?_
      rintro e w2 ⟨rfl, b2⟩
      have H3 := Lib.hid (H2.out.1.trans (b2.mono H2.out.1.size))
      clear b2
      go_wp2_with fail
      go_ret
      exact ⟨by rw [HT.out]; rfl, H3.out⟩
    · go_enter Tryz.func12, Tryz.ntmps12
      go_wp2_with (refine wpList_load_ad rfl (.tmp 1) rfl rfl H1.out.1 ?_)
      refine (HR.out _).mono ?_
      rintro e w1 ⟨rfl, b1⟩
      have hc := (H1.out.1.later b1 (Nat.le_refl _)).v6_cell
      have H2 := Lib.hid (And.intro (H1.out.2.trans (b1.mono H1.out.2.size)) (H1.out.1.later b1 (Nat.le_refl _)))
      clear b1
      go_wp2_with (refine wpList_load_arr rfl (.tmp 10) rfl hl rfl H2.out.2.range1 ?_)
      refine (H6.out w1 H2.out.1).out.mono ?_
      rintro e w2 ⟨rfl, b2⟩
      have H3 := Lib.hid (H2.out.1.trans (b2.mono H2.out.1.size))
      clear b2
      go_wp2_with fail
      go_ret
      exact ⟨by rw [HT.out]; rfl, H3.out⟩
end Go.Proofs.YtdbbgjbgmfeljaaGreatDoor

namespace Go.Proofs.YtdbbgjbgmfeljaaGreatDoor
open Go.RowKit
set_option maxRecDepth 100000

/-- The digits of small numbers, without a recursion on the number. -/
def dec3 (n : Nat) : List UInt8 := if n < 10 then [UInt8.ofNat (48 + n)] else if n < 100 then [UInt8.ofNat (48 + n / 10), UInt8.ofNat (48 + n % 10)] else [UInt8.ofNat (48 + n / 100), UInt8.ofNat (48 + n / 10 % 10), UInt8.ofNat (48 + n % 10)]
theorem dec3_eq {n : Nat} (h : n < 1000) : Lib.decDigits n = dec3 n := by
  have hd : ∀ m, Lib.decDigits m = if m < 10 then [UInt8.ofNat (48 + m)] else Lib.decDigits (m / 10) ++ [UInt8.ofNat (48 + m % 10)] := fun m => by
    rw [Lib.decDigits]; split <;> rfl
  unfold dec3
  rw [hd n]
  split
  · rfl
  · rw [hd (n / 10)]
    by_cases h2 : n < 100
    · rw [if_pos (by omega), if_pos h2]; rfl
    · rw [if_neg (by omega), if_neg h2, hd (n / 10 / 10), if_pos (by omega), Nat.div_div_eq_div_mul]; rfl
def hex4 (v : Nat) : List UInt8 := if v < 16 then [hd v] else if v < 256 then [hd (v / 16), hd (v % 16)] else if v < 4096 then [hd (v / 256), hd (v / 16 % 16), hd (v % 16)] else [hd (v / 4096), hd (v / 256 % 16), hd (v / 16 % 16), hd (v % 16)]
theorem hex4_eq {v : Nat} (h : v < 65536) : hexL v = hex4 v := by
  have hh : ∀ m, hexL m = if m < 16 then [hd m] else hexL (m / 16) ++ [hd (m % 16)] := fun m => by
    rw [hexL]; split <;> rfl
  unfold hex4
  rw [hh v]
  split
  · rfl
  · rw [hh (v / 16)]
    by_cases h2 : v < 256
    · rw [if_pos (by omega), if_pos h2]; rfl
    · rw [if_neg (by omega), if_neg h2, hh (v / 16 / 16)]
      by_cases h3 : v < 4096
      · rw [if_pos (by omega), if_pos h3, Nat.div_div_eq_div_mul]; rfl
      · rw [if_neg (by omega), if_neg h3, hh (v / 16 / 16 / 16), if_pos (by omega)]; simp [Nat.div_div_eq_div_mul]
/-- The texts again, so reckoned. -/
def w6 (bs : List UInt8) : List (List UInt8) := (List.range 8).map fun i => hex4 (grp bs i)
def z6 (bs : List UInt8) : List Bool := (w6 bs).map fun l => decide (l = [48])
def text6f (bs : List UInt8) : List UInt8 :=
  if (longestv (z6 bs)).1 = (longestv (z6 bs)).2 then Lib.join (w6 bs) [58]
  else Lib.join ((w6 bs).take (longestv (z6 bs)).1) [58] ++ [58, 58] ++ Lib.join ((w6 bs).drop (longestv (z6 bs)).2) [58]
def textf (v6 : Bool) (bs : List UInt8) : List UInt8 := if rightv v6 bs then (if v6 then text6f bs else Lib.join ((bs.take 4).map fun b => dec3 b.toNat) [46]) else []
theorem words6_f (bs : List UInt8) : (words6 bs).map (fun x => x.data.toList) = w6 bs := by
  unfold words6 w6
  rw [List.map_map]
  apply List.map_congr_left
  intro i _
  show (mkS (hexL (grp bs i))).data.toList = _
  rw [mkS_data, hex4_eq (grp_lt bs i)]
theorem words6_z (bs : List UInt8) : (words6 bs).map isZ = z6 bs := by
  unfold z6
  rw [← words6_f, List.map_map]
  apply List.map_congr_left
  intro x _
  show decide (x = mkS [48]) = decide (x.data.toList = [48])
  rw [decide_eq_decide]
  exact ⟨fun h => by rw [h, mkS_data], fun h => bytes_inj' (h.trans (mkS_data [48]).symm)⟩
theorem textv_f (v6 : Bool) (bs : List UInt8) : textv v6 bs = textf v6 bs := by
  unfold textv textf
  have h6 : text6v bs = text6f bs := by
    unfold text6v text6f
    rw [words6_z, List.map_take, List.map_drop, words6_f]
  have h4 : text4v bs = Lib.join ((bs.take 4).map fun b => dec3 b.toNat) [46] := by
    unfold text4v
    congr 1
    apply List.map_congr_left
    intro b _
    have : b.toNat < 256 := b.toNat_lt
    exact dec3_eq (by omega)
  rw [h6, h4]
theorem num_mod4 (a : Int) (m : Int) (h0 : 0 < m) (h1 : m ≤ 1000000) : 0 ≤ wrap64 ((IntKind.u64.wrap a).tmod m) ∧ wrap64 ((IntKind.u64.wrap a).tmod m) < m := by
  have h2 : 0 ≤ IntKind.u64.wrap a := by rw [IntKind.wrap_u64]; omega
  rw [Int.tmod_eq_emod_of_nonneg h2]
  have h3 := Int.emod_nonneg (IntKind.u64.wrap a) (show m ≠ 0 by omega)
  have h4 := Int.emod_lt_of_pos (IntKind.u64.wrap a) h0
  generalize IntKind.u64.wrap a % m = x at h3 h4
  unfold wrap64
  omega
end Go.Proofs.YtdbbgjbgmfeljaaGreatDoor

namespace Go.Proofs.YtdbbgjbgmfeljaaGreatDoor
open Go.RowKit
set_option maxRecDepth 100000

/-- How many in a row hold from there on. -/
def runz (zs : List Bool) (i : Nat) : Nat := ((zs.drop i).takeWhile id).length
theorem run_list : ∀ (n : Nat) (l : List Bool), (∀ k, k < n → l[k]? = some true) → l[n]? ≠ some true → (l.takeWhile id).length = n
  | 0, [], _, _ => rfl
  | 0, b :: l, _, h => by
    cases b with
    | true => exact absurd rfl h
    | false => rfl
  | n + 1, [], h, _ => by have := h 0 (Nat.succ_pos n); simp at this
  | n + 1, b :: l, h, h2 => by
    have h0 : b = true := by have := h 0 (Nat.succ_pos n); simpa using this
    have ih := run_list n l (fun k hk => by have := h (k + 1) (by omega); simpa using this) (by simpa using h2)
    rw [h0]
    show (true :: l.takeWhile id).length = n + 1
    rw [List.length_cons, ih]
theorem runz_eq {zs : List Bool} {i n : Nat} (h : ∀ k, k < n → zs[i + k]? = some true) (h2 : zs[i + n]? ≠ some true) : runz zs i = n :=
  run_list n (zs.drop i) (fun k hk => by rw [List.getElem?_drop]; exact h k hk) (by rw [List.getElem?_drop]; exact h2)
/-- The longest run that the loops find; (-1, 1): none. -/
def bst (zs : List Bool) : Nat → Int × Nat
  | 0 => (-1, 1)
  | k + 1 => if (bst zs k).2 < runz zs k then ((k : Int), runz zs k) else bst zs k
/-- Where the gap begins and ends; (8, 8): none. -/
def gapv (zs : List Bool) : Nat × Nat := if (longestv zs).1 = (longestv zs).2 then (8, 8) else longestv zs
theorem bst_all : ∀ a b c d e f g h : Bool, bst [a, b, c, d, e, f, g, h] 8 = if (gapv [a, b, c, d, e, f, g, h]).1 = 8 then (-1, 1) else (((gapv [a, b, c, d, e, f, g, h]).1 : Int), (gapv [a, b, c, d, e, f, g, h]).2 - (gapv [a, b, c, d, e, f, g, h]).1) := by decide +kernel
theorem list8 {α : Type} {l : List α} (h : l.length = 8) : ∃ a b c d e f g i : α, l = [a, b, c, d, e, f, g, i] := by
  match l, h with
  | [a, b, c, d, e, f, g, i], _ => exact ⟨a, b, c, d, e, f, g, i, rfl⟩
theorem bst_gap {zs : List Bool} (h : zs.length = 8) : bst zs 8 = if (gapv zs).1 = 8 then (-1, 1) else (((gapv zs).1 : Int), (gapv zs).2 - (gapv zs).1) := by
  obtain ⟨a, b, c, d, e, f, g, i, rfl⟩ := list8 h
  exact bst_all a b c d e f g i
theorem bst_ok {zs : List Bool} (h : zs.length = 8) : ∀ k, k ≤ 8 → 1 ≤ (bst zs k).2 ∧ (bst zs k).2 ≤ 8 ∧ -1 ≤ (bst zs k).1 ∧ (bst zs k).1 ≤ 8
  | 0, _ => ⟨Nat.le_refl _, by show 1 ≤ 8; omega, by show (-1 : Int) ≤ -1; omega, by show (-1 : Int) ≤ 8; omega⟩
  | k + 1, hk => by
    obtain ⟨h1, h2, h3, h4⟩ := bst_ok h k (by omega)
    have hr : runz zs k ≤ 8 := by
      unfold runz
      exact Nat.le_trans (List.IsPrefix.length_le (List.takeWhile_prefix _)) (by rw [List.length_drop]; omega)
    unfold bst
    split
    · exact ⟨by simp only; omega, hr, by simp only; omega, by simp only; omega⟩
    · exact ⟨h1, h2, h3, h4⟩
theorem gap_ok {zs : List Bool} (h : zs.length = 8) : (gapv zs).1 < (gapv zs).2 ∧ (gapv zs).2 ≤ 8 ∨ (gapv zs).1 = 8 ∧ (gapv zs).2 = 8 := by
  obtain ⟨_, h2, h3⟩ := lst_ok zs zs.length
  unfold gapv
  split
  · exact .inr ⟨rfl, rfl⟩
  · rename_i hne
    refine .inl ⟨?_, ?_⟩
    · have : (longestv zs).1 ≤ (longestv zs).2 := h2
      omega
    · have : (longestv zs).2 ≤ zs.length := h3
      omega
/-- The text so far, ahead of a group. -/
def tx (ws : List (List UInt8)) (b t i : Nat) : List UInt8 := if i ≤ b then Lib.join (ws.take i) [58] else Lib.join (ws.take b) [58] ++ [58, 58] ++ Lib.join ((ws.drop t).take (i - t)) [58]
theorem last_ne {z : List UInt8} (h : z ≠ []) (h58 : (58 : UInt8) ∉ z) (a : List UInt8) : ∃ c, c ≠ 58 ∧ (a ++ z).getLast? = some c := by
  refine ⟨z.getLast h, fun e => h58 (e ▸ List.getLast_mem h), ?_⟩
  rw [List.getLast?_append, List.getLast?_eq_some_getLast h]
  rfl
theorem glue {ws : List (List UInt8)} (hw : ∀ p ∈ ws, p ≠ [] ∧ (58 : UInt8) ∉ p) {P : List UInt8} (hP : P = [] ∨ P.getLast? = some 58) {k : Nat} {x : List UInt8} (hx : ws[k]? = some x) :
    ((P ++ Lib.join (ws.take k) [58] = [] ∨ (P ++ Lib.join (ws.take k) [58]).getLast? = some 58) ∧ P ++ Lib.join (ws.take (k + 1)) [58] = (P ++ Lib.join (ws.take k) [58]) ++ x) ∨
    (∃ c, c ≠ 58 ∧ (P ++ Lib.join (ws.take k) [58]).getLast? = some c ∧ P ++ Lib.join (ws.take (k + 1)) [58] = (P ++ Lib.join (ws.take k) [58]) ++ [58] ++ x) := by
  cases ws with
  | nil => simp at hx
  | cons y r =>
    cases k with
    | zero =>
      obtain rfl : y = x := by simpa using hx
      refine .inl ⟨?_, ?_⟩
      · show P ++ [] = [] ∨ (P ++ []).getLast? = some 58
        rw [List.append_nil]; exact hP
      · show P ++ Lib.join [y] [58] = (P ++ []) ++ y
        rw [Lib.join_one, List.append_nil]
    | succ k =>
      have hx' : r[k]? = some x := by simpa using hx
      have h1 : Lib.join ((y :: r).take (k + 1)) [58] = y ++ Lib.joinTail [58] (r.take k) := by rw [List.take_succ_cons, Lib.join_cons]
      have h2 : Lib.join ((y :: r).take (k + 1 + 1)) [58] = y ++ (Lib.joinTail [58] (r.take k) ++ [58] ++ x) := by rw [List.take_succ_cons, Lib.join_cons, Lib.joinTail_take_succ _ _ _ _ hx']
      have hl : ∃ c, c ≠ 58 ∧ (P ++ Lib.join ((y :: r).take (k + 1)) [58]).getLast? = some c := by
        rw [h1]
        cases k with
        | zero =>
          obtain ⟨hy, hy58⟩ := hw y (by simp)
          show ∃ c, c ≠ 58 ∧ (P ++ (y ++ [])).getLast? = some c
          rw [List.append_nil]
          exact last_ne hy hy58 P
        | succ k =>
          have hlt := (List.getElem?_eq_some_iff.1 hx').1
          obtain ⟨z, hz⟩ : ∃ z, r[k]? = some z := ⟨r[k]'(by omega), List.getElem?_eq_getElem _⟩
          obtain ⟨hz1, hz2⟩ := hw z (List.mem_cons_of_mem _ (List.mem_of_getElem? hz))
          rw [Lib.joinTail_take_succ _ _ _ _ hz]
          obtain ⟨c, h3, h4⟩ := last_ne hz1 hz2 (P ++ (y ++ (Lib.joinTail [58] (r.take k) ++ [58])))
          exact ⟨c, h3, by rw [← h4]; simp only [List.append_assoc]⟩
      obtain ⟨c, h3, h4⟩ := hl
      refine .inr ⟨c, h3, h4, ?_⟩
      rw [h1, h2]
      simp only [List.append_assoc]
theorem tx_step {ws : List (List UInt8)} (hw : ∀ p ∈ ws, p ≠ [] ∧ (58 : UInt8) ∉ p) {b t i : Nat} {x : List UInt8} (hx : ws[i]? = some x) (hi : i < b ∨ t ≤ i ∧ b < t) :
    ((tx ws b t i = [] ∨ (tx ws b t i).getLast? = some 58) ∧ tx ws b t (i + 1) = tx ws b t i ++ x) ∨ (∃ c, c ≠ 58 ∧ (tx ws b t i).getLast? = some c ∧ tx ws b t (i + 1) = tx ws b t i ++ [58] ++ x) := by
  rcases hi with hi | ⟨hi, hbt⟩
  · have e1 : tx ws b t i = [] ++ Lib.join (ws.take i) [58] := by unfold tx; rw [if_pos (by omega), List.nil_append]
    have e2 : tx ws b t (i + 1) = [] ++ Lib.join (ws.take (i + 1)) [58] := by unfold tx; rw [if_pos (by omega), List.nil_append]
    rw [e1, e2]
    exact glue hw (.inl rfl) hx
  · have e1 : tx ws b t i = (Lib.join (ws.take b) [58] ++ [58, 58]) ++ Lib.join ((ws.drop t).take (i - t)) [58] := by unfold tx; rw [if_neg (by omega)]
    have e2 : tx ws b t (i + 1) = (Lib.join (ws.take b) [58] ++ [58, 58]) ++ Lib.join ((ws.drop t).take (i - t + 1)) [58] := by unfold tx; rw [if_neg (by omega), show i + 1 - t = i - t + 1 by omega]
    rw [e1, e2]
    refine glue (fun p hp => hw p (List.mem_of_mem_drop hp)) (.inr ?_) ?_
    · rw [List.getLast?_append]; rfl
    · rw [List.getElem?_drop, show t + (i - t) = i by omega, hx]
theorem tx_gap {ws : List (List UInt8)} {b t : Nat} (h : b < t) : tx ws b t t = tx ws b t b ++ [58, 58] := by
  unfold tx
  rw [if_neg (by omega), if_pos (Nat.le_refl _), Nat.sub_self, List.take_zero]
  show _ ++ _ ++ [] = _
  rw [List.append_nil]
theorem w6_len (bs : List UInt8) : (w6 bs).length = 8 := by simp [w6]
theorem z6_len (bs : List UInt8) : (z6 bs).length = 8 := by simp [z6, w6]
theorem tx_end (bs : List UInt8) : tx (w6 bs) (gapv (z6 bs)).1 (gapv (z6 bs)).2 8 = text6f bs := by
  unfold text6f
  by_cases h : (longestv (z6 bs)).1 = (longestv (z6 bs)).2
  · rw [if_pos h]
    have hg : gapv (z6 bs) = (8, 8) := by unfold gapv; rw [if_pos h]
    rw [hg]
    unfold tx
    rw [if_pos (Nat.le_refl _), List.take_of_length_le (by rw [w6_len]; exact Nat.le_refl _)]
  · rw [if_neg h]
    have hg : gapv (z6 bs) = longestv (z6 bs) := by unfold gapv; rw [if_neg h]
    have ho := gap_ok (z6_len bs)
    rw [hg] at ho ⊢
    unfold tx
    rw [if_neg (by omega), show List.take (8 - (longestv (z6 bs)).2) ((w6 bs).drop (longestv (z6 bs)).2) = (w6 bs).drop (longestv (z6 bs)).2 from List.take_of_length_le (by rw [List.length_drop, w6_len]; exact Nat.le_refl _)]
theorem hd_zero : ∀ a : Fin 16, hd a.val = 48 → a.val = 0 := by decide +kernel
theorem hex4_zero {v : Nat} : hex4 v = [48] ↔ v = 0 := by
  constructor
  · intro h
    unfold hex4 at h
    split at h
    · rename_i hv
      exact hd_zero ⟨v, hv⟩ (by simpa using h)
    · split at h
      · simp at h
      · split at h <;> simp at h
  · rintro rfl; rfl
theorem z6_at (bs : List UInt8) {i : Nat} (hi : i < 8) : (z6 bs)[i]? = some (decide (grp bs i = 0)) := by
  unfold z6 w6
  rw [List.getElem?_map, List.getElem?_map, List.getElem?_range hi]
  show some (decide (hex4 (grp bs i) = [48])) = _
  rw [decide_eq_decide.2 hex4_zero]
theorem w6_at (bs : List UInt8) {i : Nat} (hi : i < 8) : (w6 bs)[i]? = some (hexL (grp bs i)) := by
  unfold w6
  rw [List.getElem?_map, List.getElem?_range hi, hex4_eq (grp_lt bs i)]
  rfl
theorem hd_colon : ∀ a : Fin 16, hd a.val ≠ 58 := by decide +kernel
theorem hexL_parts : ∀ (k v : Nat), v < 16 ^ (k + 1) → hexL v ≠ [] ∧ (58 : UInt8) ∉ hexL v
  | k, v, hv => by
    rw [hexL]
    split
    · rename_i h
      exact ⟨by simp, by simp only [List.mem_singleton]; exact fun e => hd_colon ⟨v, h⟩ e.symm⟩
    · rename_i h
      match k, hv with
      | 0, hv => exact absurd (by simpa using hv) h
      | k + 1, hv =>
        obtain ⟨_, h2⟩ := hexL_parts k (v / 16) (by rw [Nat.pow_succ] at hv; omega)
        refine ⟨by simp, ?_⟩
        rw [List.mem_append, List.mem_singleton]
        rintro (h3 | h3)
        · exact h2 h3
        · exact hd_colon ⟨v % 16, Nat.mod_lt _ (by omega)⟩ h3.symm
theorem w6_parts (bs : List UInt8) : ∀ p ∈ w6 bs, p ≠ [] ∧ (58 : UInt8) ∉ p := by
  intro p hp
  obtain ⟨i, hi, rfl⟩ := List.mem_map.1 hp
  rw [← hex4_eq (grp_lt bs i)]
  exact hexL_parts 3 _ (grp_lt bs i)
end Go.Proofs.YtdbbgjbgmfeljaaGreatDoor

namespace Go.Proofs.YtdbbgjbgmfeljaaGreatDoor
open Go.RowKit
set_option maxRecDepth 100000

theorem hex4_len (v : Nat) : (hex4 v).length ≤ 4 := by
  unfold hex4
  split
  · simp
  · split
    · simp
    · split <;> simp
theorem dec3_len (v : Nat) : (dec3 v).length ≤ 3 := by
  unfold dec3
  split
  · simp
  · split <;> simp
theorem textv_len (v6 : Bool) (bs : List UInt8) : (textv v6 bs).length ≤ 10000 := by
  rw [textv_f]
  have hw : (w6 bs).length = 8 := by simp [w6]
  have h6 : ∀ x ∈ w6 bs, x.length ≤ 100 := fun x hx => by
    unfold w6 at hx
    obtain ⟨i, _, rfl⟩ := List.mem_map.1 hx
    have := hex4_len (grp bs i)
    omega
  unfold textf
  split
  · split
    · unfold text6f
      split
      · have := join_len (sep := [58]) (by simp) (w6 bs) h6
        omega
      · have h1 := join_len (sep := [58]) (by simp) ((w6 bs).take (longestv (z6 bs)).1) (fun x hx => h6 x (List.mem_of_mem_take hx))
        have h2 := join_len (sep := [58]) (by simp) ((w6 bs).drop (longestv (z6 bs)).2) (fun x hx => h6 x (List.mem_of_mem_drop hx))
        have h3 : ((w6 bs).take (longestv (z6 bs)).1).length ≤ 8 := by rw [List.length_take, hw]; omega
        have h4 : ((w6 bs).drop (longestv (z6 bs)).2).length ≤ 8 := by rw [List.length_drop, hw]; omega
        rw [List.length_append, List.length_append]
        simp only [List.length_cons, List.length_nil]
        omega
    · have h1 := join_len (sep := [46]) (by simp) ((bs.take 4).map fun b => dec3 b.toNat) (fun x hx => by
        obtain ⟨i, _, rfl⟩ := List.mem_map.1 hx
        have := dec3_len i.toNat
        omega)
      have h2 : ((bs.take 4).map fun b => dec3 b.toNat).length ≤ 4 := by rw [List.length_map, List.length_take]; omega
      omega
  · simp
/-- A net as text. -/
def textnetv (v6 : Bool) (bs : List UInt8) (n : Int) : List UInt8 := if rightnetv v6 bs n then textv v6 bs ++ [47] ++ Lib.decDigits n.toNat else []

set_option maxHeartbeats 1000000 in
theorem TextNet_any (v6 : Bool) (bs : List UInt8) (hl : bs.length = 16) (n : Int) {w : World} (hE : Env w) : Calls Tryz.prog 16 #[.agg (pxv v6 bs n)] w fun e w' => e = .returned (.string (mkS (textnetv v6 bs n))) ∧ Below w.heap.size w w' := by
  have HE := Lib.hid hE
  have P1 := Lib.hid (PxBox.new w v6 n hl)
  have B1 := Lib.hid ((Below.refl w.heap.size w).alloc (Nat.le_refl _) (.cells (pxv v6 bs n) 26))
  clear hE
  have hR := RightNet_any v6 bs hl n
  cases hr : rightnetv v6 bs n with
  | false =>
    have hres : mkS (textnetv v6 bs n) = ⟨#[]⟩ := by unfold textnetv; rw [hr]; rfl
    rw [hres]
    rw [hr] at hR
    have HR := Lib.hid hR
    clear hres hR hr
    go_enter Tryz.func16, Tryz.ntmps16
    go_wp2_with (refine wpList_load_px rfl (.tmp 1) rfl rfl P1.out ?_)
    refine (HR.out _).mono ?_
    rintro e w1 ⟨rfl, b1⟩
    have H2 := Lib.hid (B1.out.trans (b1.mono B1.out.size))
    clear b1
    go_wp2_with fail
    go_ret
    exact ⟨rfl, H2.out⟩
  | true =>
    have hres : textnetv v6 bs n = textv v6 bs ++ [47] ++ Lib.decDigits n.toNat := by unfold textnetv; rw [hr]; rfl
    have hn : 0 ≤ n ∧ n ≤ 128 := by
      unfold rightnetv at hr
      simp only [Bool.and_eq_true, decide_eq_true_eq] at hr
      have := wid_le v6
      omega
    obtain ⟨k, rfl⟩ : ∃ k : Nat, n = k := ⟨n.toNat, by omega⟩
    have ht := textv_len v6 bs
    have hd := dec3_len k
    rw [← dec3_eq (n := k) (by omega)] at hd
    rw [hr] at hR
    have HR := Lib.hid hR
    obtain ⟨J, hJ⟩ : ∃ J, mkS (textv v6 bs) = J := ⟨_, rfl⟩
    obtain ⟨D, hD⟩ : ∃ D, mkS (Lib.decDigits k) = D := ⟨_, rfl⟩
    have hJd : J.data.toList = textv v6 bs := by rw [← hJ, mkS_data]
    have hDd : D.data.toList = Lib.decDigits k := by rw [← hD, mkS_data]
    have hJs : J.size ≤ 10000 := by rw [Lib.size_eq, hJd]; exact ht
    have hDs : D.size ≤ 3 := by rw [Lib.size_eq, hDd]; exact hd
    have hfin : mkS (textnetv v6 bs k) = J ++ ⟨#[47]⟩ ++ D := bytes_inj' (by
      rw [mkS_data, hres, ByteArray.data_append, ByteArray.data_append, Array.toList_append, Array.toList_append, hJd, hDd, Int.toNat_natCast])
    have HF := Lib.hid hfin
    have KT : ∀ w1, Below w.heap.size w w1 → Hid (Calls Tryz.prog 12 #[.agg (adv v6 bs)] w1 fun e w' => e = .returned (.string J) ∧ Below w1.heap.size w1 w') := fun w1 hb => by
      have := Text_any v6 bs hl (HE.out.later hb (Nat.le_refl _))
      rw [hJ] at this
      exact this
    have KI : ∀ w1, Below w.heap.size w w1 → Hid (Calls Tryz.prog 40 #[.int .i64 k] w1 fun e w' => e = .returned (.string D) ∧ Below w1.heap.size w1 w') := fun w1 hb => by
      have := itoa_any k (by omega) (HE.out.later hb (Nat.le_refl _))
      rw [hD] at this
      exact this
    have HK := Lib.hid (And.intro KT KI)
    have n1 : (9223372036854775807 < J.size + 1) = False := eq_false (by omega)
    have n2 : (9223372036854775807 < J.size + 1 + D.size) = False := eq_false (by omega)
    clear hres hn ht hd hr hR hJ hD hJd hDd hJs hDs hfin KT KI
    rw [HF.out]
    go_enter Tryz.func16, Tryz.ntmps16
    go_wp2_with (refine wpList_load_px rfl (.tmp 1) rfl rfl P1.out ?_)
    refine (HR.out _).mono ?_
    rintro e w1 ⟨rfl, b1⟩
    have H2 := Lib.hid (And.intro (P1.out.later b1 (Nat.le_refl _)) (B1.out.trans (b1.mono B1.out.size)))
    clear b1
    go_wp2_with fail
    have hcB : ∀ w', Below w1.heap.size w1 w' → w'.cell? ⟨w.heap.size, 17, none⟩ = some (.int .i64 k) := fun w' h => (H2.out.1.later h (Nat.le_refl _)).bits_cell
    have hS : Below w1.heap.size w1 w1.drew := (Below.refl _ _).drew
    have hB : Below w.heap.size w w1.drew := H2.out.2.drew
    refine rg_begin (fun w' => Below w1.heap.size w1 w') 9 (by kernel_rfl) rfl ?_
    refine rg_take 0 (v := ?rv1) rfl (by kernel_rfl) (by kernel_rfl) (by kernel_rfl) (fun _ _ _ h => h) (by rfl) hS (fun w2 hw2 => ?ry1) ?rr1
    case ry1 => ((try dsimp only at hw2); go_simp <;> with_reducible rfl)
    simp only [Act.put, List.setIfInBounds_toArray, List.set_cons_zero, List.set_cons_succ]
    refine rg_take 4 (v := ?rv2) rfl (by kernel_rfl) (by kernel_rfl) (by kernel_rfl) (fun _ _ _ h => h) (by rfl) hS (fun w2 hw2 => ?ry2) ?rr2
    case ry2 => ((try dsimp only at hw2); go_simp <;> with_reducible rfl)
    simp only [Act.put, List.setIfInBounds_toArray, List.set_cons_zero, List.set_cons_succ]
    refine rg_load 1 rfl (by kernel_rfl) (by kernel_rfl) (by kernel_rfl) (w.heap.size) (0) ((adv v6 bs)) (fun _ _ _ h => h) (by rfl) 24 (.tmp 6) rfl rfl hS (fun w2 h2 => (H2.out.1.later h2 (Nat.le_refl _)).range0) Tryz.underlying24 rfl (ad_size v6 hl) ?_
    simp only [Act.put, List.setIfInBounds_toArray, List.set_cons_zero, List.set_cons_succ]
    refine rg_take 5 (v := ?rv3) rfl (by kernel_rfl) (by kernel_rfl) (by kernel_rfl) (fun _ _ _ h => h) (by rfl) hS (fun w2 hw2 => ?ry3) ?rr3
    case ry3 => ((try dsimp only at hw2); go_simp <;> with_reducible rfl)
    simp only [Act.put, List.setIfInBounds_toArray, List.set_cons_zero, List.set_cons_succ]
    refine rg_step 2 rfl (by kernel_rfl) (by rfl) (fun K hK => ?_)
    go_simp
    refine (HK.out.1 _ hB).out.mono ?_
    rintro e w2 ⟨rfl, b2⟩
    replace hS := hS.trans (b2.mono hS.size)
    replace hB := hB.trans (b2.mono hB.size)
    clear b2
    refine hK.out _ _ hS ?_
    clear hK K
    try simp only [Act.put, List.setIfInBounds_toArray, List.set_cons_zero, List.set_cons_succ]
    refine rg_take 3 (v := ?rv4) rfl (by kernel_rfl) (by kernel_rfl) (by kernel_rfl) (fun _ _ _ h => h) (by rfl) hS (fun w2 hw2 => ?ry4) ?rr4
    case ry4 => ((try dsimp only at hw2); go_simp <;> with_reducible rfl)
    simp only [Act.put, List.setIfInBounds_toArray, List.set_cons_zero, List.set_cons_succ]
    refine rg_step 6 rfl (by kernel_rfl) (by rfl) (fun K hK => ?_)
    go_simp
    refine (HK.out.2 _ hB).out.mono ?_
    rintro e w3 ⟨rfl, b3⟩
    replace hS := hS.trans (b3.mono hS.size)
    replace hB := hB.trans (b3.mono hB.size)
    clear b3
    refine hK.out _ _ hS ?_
    clear hK K
    try simp only [Act.put, List.setIfInBounds_toArray, List.set_cons_zero, List.set_cons_succ]
    refine rg_take 7 (v := ?rv5) rfl (by kernel_rfl) (by kernel_rfl) (by kernel_rfl) (fun _ _ _ h => h) (by rfl) hS (fun w2 hw2 => ?ry5) ?rr5
    case ry5 => ((try dsimp only at hw2); go_simp <;> with_reducible rfl)
    simp only [Act.put, List.setIfInBounds_toArray, List.set_cons_zero, List.set_cons_succ]
    refine rg_take 8 (v := ?rv6) rfl (by kernel_rfl) (by kernel_rfl) (by kernel_rfl) (fun _ _ _ h => h) (by rfl) hS (fun w2 hw2 => ?ry6) ?rr6
    case ry6 => ((try dsimp only at hw2); go_simp <;> with_reducible rfl)
    simp only [Act.put, List.setIfInBounds_toArray, List.set_cons_zero, List.set_cons_succ]
    refine rg_done (by kernel_rfl) ?_
    have H3 := Lib.hid hB
    clear hS hB hcB
    go_wp2_with fail
    go_ret
    exact ⟨rfl, H3.out⟩
end Go.Proofs.YtdbbgjbgmfeljaaGreatDoor
