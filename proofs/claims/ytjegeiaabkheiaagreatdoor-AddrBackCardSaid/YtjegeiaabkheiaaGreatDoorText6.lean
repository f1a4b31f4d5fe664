/-
  Package addr's text6. Conditions: what the program's text has laid (Env).
-/
import Derived.Test.YtjegeiaabkheiaaGreatDoorLong
import Derived.Test.YtjegeiaabkheiaaGreatDoorBits
namespace Go.Proofs.YtjegeiaabkheiaaGreatDoor
open Go.RowKit
set_option maxRecDepth 100000

theorem ret_str {a b : ByteArray} (h : a = b) : Ending.returned (.string a) = .returned (.string b) := by rw [h]
/-- The number of a group. -/
def grp (bs : List UInt8) (i : Nat) : Nat := (bs.getD (2 * i) 0).toNat * 256 + (bs.getD (2 * i + 1) 0).toNat
theorem grp_lt (bs : List UInt8) (i : Nat) : grp bs i < 65536 := by
  unfold grp
  have := (bs.getD (2 * i) 0).toNat_lt
  have := (bs.getD (2 * i + 1) 0).toNat_lt
  omega
def words6 (bs : List UInt8) : List ByteArray := (List.range 8).map fun i => mkS (hexL (grp bs i))
theorem words6_len (bs : List UInt8) : (words6 bs).length = 8 := by simp [words6]
def text6v (bs : List UInt8) : List UInt8 :=
  if (longestv ((words6 bs).map isZ)).1 = (longestv ((words6 bs).map isZ)).2 then Lib.join ((words6 bs).map fun x => x.data.toList) [58]
  else Lib.join (((words6 bs).take (longestv ((words6 bs).map isZ)).1).map fun x => x.data.toList) [58] ++ [58, 58] ++ Lib.join (((words6 bs).drop (longestv ((words6 bs).map isZ)).2).map fun x => x.data.toList) [58]
theorem hexL_len {v : Nat} (h : v < 65536) : (hexL v).length ≤ 4 := by
  unfold hexL
  split
  · simp
  · rw [List.length_append]
    unfold hexL
    split
    · simp
    · rw [List.length_append]
      unfold hexL
      split
      · simp
      · rw [List.length_append]
        unfold hexL
        rw [dif_pos (by omega)]
        simp
theorem words6_size (bs : List UInt8) : ∀ x ∈ words6 bs, x.size ≤ 100 := by
  intro x hx
  obtain ⟨i, _, rfl⟩ := List.mem_map.1 hx
  have := hexL_len (grp_lt bs i)
  rw [Lib.size_eq, mkS_data]
  omega
theorem words6_at (bs : List UInt8) {k : Nat} (hk : k < 8) : (words6 bs)[k]? = some (mkS (hexL (grp bs k))) := by
  unfold words6
  rw [List.getElem?_map, List.getElem?_range hk]
  rfl

theorem join_len {sep : List UInt8} (hs : sep.length ≤ 100) : ∀ l : List (List UInt8), (∀ x ∈ l, x.length ≤ 100) → (Lib.join l sep).length ≤ 200 * l.length
  | [], _ => by simp [Lib.join, List.intercalate]
  | [x], hx => by rw [Lib.join_one]; have := hx x (by simp); simp; omega
  | x :: y :: r, hx => by
    have h1 := join_len hs (y :: r) (fun z hz => hx z (List.mem_cons_of_mem _ hz))
    have h2 : Lib.join (x :: y :: r) sep = x ++ sep ++ Lib.join (y :: r) sep := by simp [Lib.join, List.intercalate]
    have h3 := hx x (by simp)
    rw [h2]
    simp only [List.length_append, List.length_cons] at h1 ⊢
    omega
/-- .. of a part of the words, by a letter. -/
theorem join_J {w : World} {g : Nat} (bs : List UInt8) (hr : Row w g 9 (sv (words6 bs))) (o n c : Nat) (ho : o + n ≤ 8) (hc : n ≤ c) :
    Calls Tryz.prog 62 #[.slice (some ⟨g, o, none⟩) n c, .string ⟨#[58]⟩] w fun e w' => ∃ J : ByteArray, e = .returned (.string J) ∧ J.data.toList = Lib.join ((((words6 bs).drop o).take n).map fun x => x.data.toList) [58] ∧ J.size ≤ 2000 ∧ Below w.heap.size w w' := by
  refine (join_any hr o n c (by rw [words6_len]; exact ho) hc ⟨#[58]⟩ (words6_size bs) (by show 1 ≤ 100; omega) (by omega)).mono fun e w' ⟨he, hb⟩ => ⟨_, he, mkS_data _, ?_, hb⟩
  rw [Lib.size_eq, mkS_data]
  have h := join_len (sep := [58]) (by simp) ((((words6 bs).drop o).take n).map fun x => x.data.toList) (fun x hx => by
    obtain ⟨y, hy, rfl⟩ := List.mem_map.1 hx
    rw [← Lib.size_eq]
    exact words6_size bs y (List.mem_of_mem_drop (List.mem_of_mem_take hy)))
  rw [List.length_map, List.length_take] at h
  have : min n ((words6 bs).drop o).length ≤ 8 := by omega
  exact Nat.le_trans h (by omega)

set_option maxHeartbeats 4000000 in
theorem text6_any (bs : List UInt8) (hl : bs.length = 16) {w : World} (hE : Env w) : Calls Tryz.prog 39 #[.agg (bv bs).toArray] w fun e w' => e = .returned (.string (mkS (text6v bs))) ∧ Below w.heap.size w w' := by
  have hmk : ∀ w : World, (Instr.makeSlice 54 (.int .i64 8) (.int .i64 8)).run Tryz.prog w = .ok (.slice (some ⟨w.heap.size, 0, none⟩) 8 8) (w.alloc (.cells (madeCells #[.string ByteArray.empty] 8) 9)) := fun w => makeStrs 8 (by omega) w
  have r0 := Row.new' w 22 (cs := (bv bs).toArray) rfl
  have b1 : Below (w.alloc (.cells (bv bs).toArray 22)).heap.size (w.alloc (.cells (bv bs).toArray 22)) ((w.alloc (.cells (bv bs).toArray 22)).alloc (.cells (madeCells #[.string ByteArray.empty] 8) 9)) := (Below.refl _ _).alloc (Nat.le_refl _) _
  have r1 := Row.new' (w.alloc (.cells (bv bs).toArray 22)) 9 (sv_made 8)
  have b0 : Below w.heap.size w ((w.alloc (.cells (bv bs).toArray 22)).alloc (.cells (madeCells #[.string ByteArray.empty] 8) 9)) := ((Below.refl _ _).alloc (Nat.le_refl _) _).trans (b1.mono (by simp))
  rw [World.size_alloc] at r1
  have H0 := Lib.hid (And.intro (r0.later b1 (Nat.le_refl _)) (And.intro r1 b0))
  have HE := Lib.hid hE
  have HL := Lib.hid hl
  clear r0 b1 r1 b0 hE hl
  go_enter Tryz.func39, Tryz.ntmps39
  go_wp2_with fail
  generalize hW : ((w.alloc (.cells (bv bs).toArray 22)).alloc (.cells (madeCells #[.string ByteArray.empty] 8) 9)) = W at H0 ⊢
  clear hW hmk
  go_loopw [10] (fun i wr => ∃ k : Nat, i = .int .i64 k ∧ k ≤ 8 ∧ Hid (Row wr (w.heap.size + 1) 9 (sv ((words6 bs).take k ++ List.replicate (8 - k) ByteArray.empty)) ∧ Row wr w.heap.size 22 (bv bs) ∧ Below w.heap.size w wr)) (fun i _ => 8 - (intOf i).toNat)
  case atStart => exact ⟨0, rfl, by omega, Lib.hid ⟨H0.out.2.1, H0.out.1, H0.out.2.2⟩⟩
  case round =>
    obtain ⟨k, rfl, hk, hh⟩ := hrel
    by_cases hlt : k < 8
    · obtain ⟨x, hx⟩ : ∃ x, bs[2 * k]? = some x := ⟨_, List.getElem?_eq_getElem (by rw [HL.out]; omega)⟩
      obtain ⟨y, hy⟩ : ∃ y, bs[2 * k + 1]? = some y := ⟨_, List.getElem?_eq_getElem (by rw [HL.out]; omega)⟩
      have hx2 : x.toNat < 256 := x.toNat_lt
      have hy2 : y.toNat < 256 := y.toNat_lt
      have hg : grp bs k = x.toNat * 256 + y.toNat := by unfold grp; simp [List.getD, hx, hy]
      have hw6 := words6_at bs hlt
      rw [hg] at hw6
      have hor := i64_or_byte x.toNat y.toNat (by omega) hy2
      have q1 : (0 : Int) ≤ 2 * (k : Int) := by omega
      have q2 : 2 * (k : Int) < 16 := by omega
      have q4 : (0 : Int) ≤ 2 * (k : Int) + 1 := by omega
      have q5 : 2 * (k : Int) + 1 < 16 := by omega
      have q3 : (2 * (k : Int)).toNat = 2 * k := by omega
      have q6 : (2 * (k : Int) + 1).toNat = 2 * k + 1 := by omega
      have q7 : IntKind.i64.wrap (2 * (k : Int)) = 2 * (k : Int) := IntWalk.i64_in _ (by omega)
      have q8 : IntKind.i64.wrap (2 * (k : Int) + 1) = 2 * (k : Int) + 1 := IntWalk.i64_in _ (by omega)
      have q9 : IntKind.i64.wrap (x.toNat : Int) = (x.toNat : Int) := IntWalk.i64_in _ (by omega)
      have q10 : IntKind.i64.wrap (y.toNat : Int) = (y.toNat : Int) := IntWalk.i64_in _ (by omega)
      have q11 : IntKind.i64.wrap ((x.toNat : Int) * 256) = (x.toNat : Int) * 256 := IntWalk.i64_in _ (by omega)
      have hc1 : ∀ w', Row w' w.heap.size 22 (bv bs) → w'.cell? ⟨w.heap.size, 2 * k, none⟩ = some (.int .u8 x.toNat) := fun w' h => h.cell (bv_at hx)
      have hc2 : ∀ w', Row w' w.heap.size 22 (bv bs) → w'.cell? ⟨w.heap.size, 2 * k + 1, none⟩ = some (.int .u8 y.toNat) := fun w' h => h.cell (bv_at hy)
      have hlen : ((words6 bs).take k).length = k := by rw [List.length_take, words6_len]; omega
      have hF : ∀ w1, Below w.heap.size w w1 → Hid (Calls Tryz.prog 60 #[.int .i64 ((x.toNat : Int) * 256 + (y.toNat : Int)), .int .i64 16] w1 fun e w' => e = .returned (.string (mkS (hexL (x.toNat * 256 + y.toNat)))) ∧ Below w1.heap.size w1 w') := fun w1 hb => by
        have h := FormatInt16 (x.toNat * 256 + y.toNat) (by omega) (HE.out.later hb (Nat.le_refl _))
        rw [show ((x.toNat * 256 + y.toNat : Nat) : Int) = (x.toNat : Int) * 256 + (y.toNat : Int) by omega] at h
        exact h
      have HF := Lib.hid hF
      have hcell2 : wr.cell? ⟨w.heap.size + 1, k, none⟩ = some (.string ByteArray.empty) := hh.out.1.cell (sv_at (by
        rw [List.getElem?_append_right (by omega), hlen, Nat.sub_self, List.getElem?_replicate, if_pos (by omega)]))
      have hf2 := hh.out.1.frozen k
      have HB := Lib.hid (And.intro hw6 (And.intro hlen (And.intro hcell2 hf2)))
      have HG := Lib.hid hg
      clear hw6 hlen hF hcell2 hf2 hx hy hg
      have hS : Row wr.drew w.heap.size 22 (bv bs) := hh.out.2.1
      go_wp2_with fail
      refine rg_begin (fun w' => Row w' w.heap.size 22 (bv bs)) 18 (by kernel_rfl) rfl ?_
      refine rg_take 0 (v := ?rv1) rfl (by kernel_rfl) (by kernel_rfl) (by kernel_rfl) (fun _ _ _ h => h) (by rfl) hS (fun w2 hw2 => ?ry1) ?rr1
      case ry1 => ((try dsimp only at hw2); go_simp <;> with_reducible rfl)
      simp only [Act.put, List.setIfInBounds_toArray, List.set_cons_zero, List.set_cons_succ]
      refine rg_take 1 (v := ?rv2) rfl (by kernel_rfl) (by kernel_rfl) (by kernel_rfl) (fun _ _ _ h => h) (by rfl) hS (fun w2 hw2 => ?ry2) ?rr2
      case ry2 => ((try dsimp only at hw2); go_simp <;> with_reducible rfl)
      simp only [Act.put, List.setIfInBounds_toArray, List.set_cons_zero, List.set_cons_succ]
      refine rg_take 2 (v := ?rv3) rfl (by kernel_rfl) (by kernel_rfl) (by kernel_rfl) (fun _ _ _ h => h) (by rfl) hS (fun w2 hw2 => ?ry3) ?rr3
      case ry3 => ((try dsimp only at hw2); go_simp <;> with_reducible rfl)
      simp only [Act.put, List.setIfInBounds_toArray, List.set_cons_zero, List.set_cons_succ]
      refine rg_take 8 (v := ?rv4) rfl (by kernel_rfl) (by kernel_rfl) (by kernel_rfl) (fun _ _ _ h => h) (by rfl) hS (fun w2 hw2 => ?ry4) ?rr4
      case ry4 => ((try dsimp only at hw2); go_simp <;> with_reducible rfl)
      simp only [Act.put, List.setIfInBounds_toArray, List.set_cons_zero, List.set_cons_succ]
      refine rg_take 3 (v := ?rv5) rfl (by kernel_rfl) (by kernel_rfl) (by kernel_rfl) (fun _ _ _ h => h) (by rfl) hS (fun w2 hw2 => ?ry5) ?rr5
      case ry5 => ((try dsimp only at hw2); go_simp <;> with_reducible rfl)
      simp only [Act.put, List.setIfInBounds_toArray, List.set_cons_zero, List.set_cons_succ]
      refine rg_take 9 (v := ?rv6) rfl (by kernel_rfl) (by kernel_rfl) (by kernel_rfl) (fun _ _ _ h => h) (by rfl) hS (fun w2 hw2 => ?ry6) ?rr6
      case ry6 => ((try dsimp only at hw2); go_simp <;> with_reducible rfl)
      simp only [Act.put, List.setIfInBounds_toArray, List.set_cons_zero, List.set_cons_succ]
      refine rg_take 4 (v := ?rv7) rfl (by kernel_rfl) (by kernel_rfl) (by kernel_rfl) (fun _ _ _ h => h) (by rfl) hS (fun w2 hw2 => ?ry7) ?rr7
      case ry7 => ((try dsimp only at hw2); go_simp <;> with_reducible rfl)
      simp only [Act.put, List.setIfInBounds_toArray, List.set_cons_zero, List.set_cons_succ]
      refine rg_take 10 (v := ?rv8) rfl (by kernel_rfl) (by kernel_rfl) (by kernel_rfl) (fun _ _ _ h => h) (by rfl) hS (fun w2 hw2 => ?ry8) ?rr8
      case ry8 => ((try dsimp only at hw2); go_simp <;> with_reducible rfl)
      simp only [Act.put, List.setIfInBounds_toArray, List.set_cons_zero, List.set_cons_succ]
      refine rg_take 5 (v := ?rv9) rfl (by kernel_rfl) (by kernel_rfl) (by kernel_rfl) (fun _ _ _ h => h) (by rfl) hS (fun w2 hw2 => ?ry9) ?rr9
      case ry9 => ((try dsimp only at hw2); go_simp <;> with_reducible rfl)
      simp only [Act.put, List.setIfInBounds_toArray, List.set_cons_zero, List.set_cons_succ]
      refine rg_take 11 (v := ?rv10) rfl (by kernel_rfl) (by kernel_rfl) (by kernel_rfl) (fun _ _ _ h => h) (by rfl) hS (fun w2 hw2 => ?ry10) ?rr10
      case ry10 => ((try dsimp only at hw2); go_simp <;> with_reducible rfl)
      simp only [Act.put, List.setIfInBounds_toArray, List.set_cons_zero, List.set_cons_succ]
      refine rg_take 6 (v := ?rv11) rfl (by kernel_rfl) (by kernel_rfl) (by kernel_rfl) (fun _ _ _ h => h) (by rfl) hS (fun w2 hw2 => ?ry11) ?rr11
      case ry11 => ((try dsimp only at hw2); go_simp <;> with_reducible rfl)
      simp only [Act.put, List.setIfInBounds_toArray, List.set_cons_zero, List.set_cons_succ]
      refine rg_take 12 (v := ?rv12) rfl (by kernel_rfl) (by kernel_rfl) (by kernel_rfl) (fun _ _ _ h => h) (by rfl) hS (fun w2 hw2 => ?ry12) ?rr12
      case ry12 => ((try dsimp only at hw2); go_simp <;> with_reducible rfl)
      simp only [Act.put, List.setIfInBounds_toArray, List.set_cons_zero, List.set_cons_succ]
      refine rg_take 7 (v := ?rv13) rfl (by kernel_rfl) (by kernel_rfl) (by kernel_rfl) (fun _ _ _ h => h) (by rfl) hS (fun w2 hw2 => ?ry13) ?rr13
      case ry13 => ((try dsimp only at hw2); go_simp <;> with_reducible rfl)
      simp only [Act.put, List.setIfInBounds_toArray, List.set_cons_zero, List.set_cons_succ]
      refine rg_take 13 (v := ?rv14) rfl (by kernel_rfl) (by kernel_rfl) (by kernel_rfl) (fun _ _ _ h => h) (by rfl) hS (fun w2 hw2 => ?ry14) ?rr14
      case ry14 => ((try dsimp only at hw2); go_simp <;> with_reducible rfl)
      simp only [Act.put, List.setIfInBounds_toArray, List.set_cons_zero, List.set_cons_succ]
      refine rg_take 14 (v := ?rv15) rfl (by kernel_rfl) (by kernel_rfl) (by kernel_rfl) (fun _ _ _ h => h) (by rfl) hS (fun w2 hw2 => ?ry15) ?rr15
      case ry15 => ((try dsimp only at hw2); go_simp <;> with_reducible rfl)
      simp only [Act.put, List.setIfInBounds_toArray, List.set_cons_zero, List.set_cons_succ]
      refine rg_step 15 rfl (by kernel_rfl) (by rfl) (fun K hK => ?_)
      go_simp
      refine (HF.out wr.drew hh.out.2.2.drew).out.mono ?_
      rintro e w1 ⟨rfl, b1⟩
      have c1 := b1.cell (p := ⟨w.heap.size + 1, k, none⟩) (by exact lt_cell HB.out.2.2.1)
      have f1 := b1.frozen (p := ⟨w.heap.size + 1, k, none⟩) (by exact lt_cell HB.out.2.2.1)
      rw [show wr.drew.cell? ⟨w.heap.size + 1, k, none⟩ = _ from HB.out.2.2.1] at c1
      rw [show wr.drew.frozen? ⟨w.heap.size + 1, k, none⟩ = _ from HB.out.2.2.2] at f1
      have r2 : Row (w1.setCell ⟨w.heap.size + 1, k, none⟩ (.string (mkS (hexL (x.toNat * 256 + y.toNat))))) (w.heap.size + 1) 9 (sv ((words6 bs).take (k + 1) ++ List.replicate (8 - (k + 1)) ByteArray.empty)) := by
        have h : Row wr.drew (w.heap.size + 1) 9 (sv ((words6 bs).take k ++ List.replicate (8 - k) ByteArray.empty)) := hh.out.1
        have := (h.later b1 (Nat.le_refl _)).put k (.string (mkS (hexL (x.toNat * 256 + y.toNat))))
        rw [sv_set, List.set_append_right _ _ (by rw [HB.out.2.1]; exact Nat.le_refl _), HB.out.2.1, Nat.sub_self, show 8 - k = (8 - (k + 1)) + 1 by omega, List.replicate_succ, List.set_cons_zero] at this
        rw [List.take_add_one, HB.out.1]
        simpa using this
      have r3 := (hS.later b1 (Nat.le_refl _)).far (p := ⟨w.heap.size + 1, k, none⟩) (by show w.heap.size ≠ w.heap.size + 1; omega) (.string (mkS (hexL (x.toNat * 256 + y.toNat))))
      have b3 := (hh.out.2.2.drew.trans (b1.mono hh.out.2.2.drew.size)).setCell (p := ⟨w.heap.size + 1, k, none⟩) (by show w.heap.size ≤ w.heap.size + 1; omega) (.string (mkS (hexL (x.toNat * 256 + y.toNat))))
      replace hS := hS.later b1 (Nat.le_refl _)
      have H2 := Lib.hid (And.intro r2 (And.intro r3 b3))
      clear r2 r3 b3 b1
      refine hK.out _ _ hS ?_
      clear hK K
      try simp only [Act.put, List.setIfInBounds_toArray, List.set_cons_zero, List.set_cons_succ]
      refine rg_take 16 (v := ?rv16) rfl (by kernel_rfl) (by kernel_rfl) (by kernel_rfl) (fun _ _ _ h => h) (by rfl) hS (fun w2 hw2 => ?ry16) ?rr16
      case ry16 => ((try dsimp only at hw2); go_simp <;> with_reducible rfl)
      simp only [Act.put, List.setIfInBounds_toArray, List.set_cons_zero, List.set_cons_succ]
      refine rg_step 17 rfl (by kernel_rfl) (by rfl) (fun K hK => ?_)
      go_simp
      replace hS := H2.out.2.1
      refine hK.out _ _ hS ?_
      clear hK K
      try simp only [Act.put, List.setIfInBounds_toArray, List.set_cons_zero, List.set_cons_succ]
      refine rg_done (by kernel_rfl) ?_
      clear hS
      go_wp2_with fail
      go_roundw
      case rel => exact ⟨k + 1, by go_num, by omega, H2⟩
      case measure => simp [intOf]; omega
    · obtain rfl : k = 8 := by omega
      have hr := hh.out.1
      rw [List.take_of_length_le (Nat.le_of_eq (words6_len bs)), Nat.sub_self, List.replicate_zero, List.append_nil] at hr
      have hlo := longest_any (w.heap.size + 1) 8 (words6 bs) (words6_len bs) (by omega) hr
      have hok := lst_ok ((words6 bs).map isZ) ((words6 bs).map isZ).length
      have h8 : ((words6 bs).map isZ).length = 8 := by rw [List.length_map, words6_len]
      have htx : text6v bs = text6v bs := rfl
      conv at htx => rhs; unfold text6v
      rw [show (lst ((words6 bs).map isZ) ((words6 bs).map isZ).length).2 = longestv ((words6 bs).map isZ) from rfl, h8] at hok
      obtain ⟨f, t, hft⟩ : ∃ f t, longestv ((words6 bs).map isZ) = (f, t) := ⟨_, _, rfl⟩
      rw [hft] at hlo hok htx
      simp only at hlo hok htx
      obtain ⟨_, hok1, hok2⟩ := hok
      have HLO := Lib.hid hlo
      have HRW := Lib.hid hr
      clear hlo hr hft h8
      by_cases heq : f = t
      · subst heq
        rw [if_pos rfl] at htx
        have hj := join_any HRW.out 0 8 8 (by rw [words6_len]; omega) (Nat.le_refl _) ⟨#[58]⟩ (words6_size bs) (by show 1 ≤ 100; omega) (by omega)
        rw [List.drop_zero, List.take_of_length_le (Nat.le_of_eq (words6_len bs)), show (ByteArray.mk #[58]).data.toList = [58] from rfl, ← htx] at hj
        have HJ := Lib.hid hj
        have hff : ((f : Int) == f) = true := by simp
        clear hj htx
        go_wp2_with fail
        refine HLO.out.mono ?_
        rintro e w1 ⟨rfl, rfl⟩
        go_wp2_with fail
        refine HJ.out.mono ?_
        rintro e w1 ⟨rfl, b1⟩
        have H2 := Lib.hid (hh.out.2.2.trans (b1.mono hh.out.2.2.size))
        clear b1
        go_wp2_with fail
        go_ret
        exact ⟨rfl, H2.out⟩
      · rw [if_neg heq] at htx
        have hfe : ((f : Int) == t) = false := by simpa using fun h => heq (by omega)
        have HTX := Lib.hid htx
        clear htx heq
        go_wp2_with fail
        refine HLO.out.mono ?_
        rintro e w1 ⟨rfl, rfl⟩
        go_wp2_with fail
        have p1 : (f : Int) ≤ 8 := by omega
        have p2 : (t : Int) ≤ 8 := by omega
        have p3 : (0 : Int) ≤ t := by omega
        by_cases ht8 : t = 8
        · subst ht8
          have hS : Row wr.drew (w.heap.size + 1) 9 (sv (words6 bs)) := HRW.out
          have hB : Below w.heap.size w wr.drew := hh.out.2.2.drew
          refine rg_begin (fun w' => Row w' (w.heap.size + 1) 9 (sv (words6 bs))) 11 (by kernel_rfl) rfl ?_
          refine rg_take 0 (v := ?rv17) rfl (by kernel_rfl) (by kernel_rfl) (by kernel_rfl) (fun _ _ _ h => h) (by rfl) hS (fun w2 hw2 => ?ry17) ?rr17
          case ry17 => ((try dsimp only at hw2); go_simp <;> with_reducible rfl)
          simp only [Act.put, List.setIfInBounds_toArray, List.set_cons_zero, List.set_cons_succ]
          refine rg_take 1 (v := ?rv18) rfl (by kernel_rfl) (by kernel_rfl) (by kernel_rfl) (fun _ _ _ h => h) (by rfl) hS (fun w2 hw2 => ?ry18) ?rr18
          case ry18 => ((try dsimp only at hw2); go_simp <;> with_reducible rfl)
          simp only [Act.put, List.setIfInBounds_toArray, List.set_cons_zero, List.set_cons_succ]
          refine rg_take 5 (v := ?rv19) rfl (by kernel_rfl) (by kernel_rfl) (by kernel_rfl) (fun _ _ _ h => h) (by rfl) hS (fun w2 hw2 => ?ry19) ?rr19
          case ry19 => ((try dsimp only at hw2); go_simp <;> with_reducible rfl)
          simp only [Act.put, List.setIfInBounds_toArray, List.set_cons_zero, List.set_cons_succ]
          refine rg_take 6 (v := ?rv20) rfl (by kernel_rfl) (by kernel_rfl) (by kernel_rfl) (fun _ _ _ h => h) (by rfl) hS (fun w2 hw2 => ?ry20) ?rr20
          case ry20 => ((try dsimp only at hw2); go_simp <;> with_reducible rfl)
          simp only [Act.put, List.setIfInBounds_toArray, List.set_cons_zero, List.set_cons_succ]
          refine rg_take 2 (v := ?rv21) rfl (by kernel_rfl) (by kernel_rfl) (by kernel_rfl) (fun _ _ _ h => h) (by rfl) hS (fun w2 hw2 => ?ry21) ?rr21
          case ry21 => ((try dsimp only at hw2); go_simp <;> with_reducible rfl)
          simp only [Act.put, List.setIfInBounds_toArray, List.set_cons_zero, List.set_cons_succ]
          refine rg_take 7 (v := ?rv22) rfl (by kernel_rfl) (by kernel_rfl) (by kernel_rfl) (fun _ _ _ h => h) (by rfl) hS (fun w2 hw2 => ?ry22) ?rr22
          case ry22 => ((try dsimp only at hw2); go_simp <;> with_reducible rfl)
          simp only [Act.put, List.setIfInBounds_toArray, List.set_cons_zero, List.set_cons_succ]
          refine rg_step 3 rfl (by kernel_rfl) (by rfl) (fun K hK => ?_)
          go_simp
          refine (join_J bs hS 0 f 8 (by omega) (by omega)).mono ?_
          rintro e w1 ⟨J1, rfl, hj1, hz1, b1⟩
          replace hS := hS.later b1 (Nat.le_refl _)
          replace hB := hB.trans (b1.mono hB.size)
          have n1 : (9223372036854775807 < J1.size + 2) = False := eq_false (by omega)
          have HJ1 := Lib.hid hj1
          clear b1 hj1
          refine hK.out _ _ hS ?_
          clear hK K
          try simp only [Act.put, List.setIfInBounds_toArray, List.set_cons_zero, List.set_cons_succ]
          refine rg_take 4 (v := ?rv23) rfl (by kernel_rfl) (by kernel_rfl) (by kernel_rfl) (fun _ _ _ h => h) (by rfl) hS (fun w2 hw2 => ?ry23) ?rr23
          case ry23 => ((try dsimp only at hw2); go_simp <;> with_reducible rfl)
          simp only [Act.put, List.setIfInBounds_toArray, List.set_cons_zero, List.set_cons_succ]
          refine rg_step 8 rfl (by kernel_rfl) (by rfl) (fun K hK => ?_)
          go_simp
          refine (join_J bs hS 0 0 0 (by omega) (by omega)).mono ?_
          rintro e w2 ⟨J2, rfl, hj2, hz2, b2⟩
          replace hS := hS.later b2 (Nat.le_refl _)
          replace hB := hB.trans (b2.mono hB.size)
          have n2 : (9223372036854775807 < J1.size + 2 + J2.size) = False := eq_false (by omega)
          have HJ2 := Lib.hid hj2
          clear b2 hj2
          refine hK.out _ _ hS ?_
          clear hK K
          try simp only [Act.put, List.setIfInBounds_toArray, List.set_cons_zero, List.set_cons_succ]
          refine rg_take 9 (v := ?rv24) rfl (by kernel_rfl) (by kernel_rfl) (by kernel_rfl) (fun _ _ _ h => h) (by rfl) hS (fun w2 hw2 => ?ry24) ?rr24
          case ry24 => ((try dsimp only at hw2); go_simp <;> with_reducible rfl)
          simp only [Act.put, List.setIfInBounds_toArray, List.set_cons_zero, List.set_cons_succ]
          refine rg_take 10 (v := ?rv25) rfl (by kernel_rfl) (by kernel_rfl) (by kernel_rfl) (fun _ _ _ h => h) (by rfl) hS (fun w2 hw2 => ?ry25) ?rr25
          case ry25 => ((try dsimp only at hw2); go_simp <;> with_reducible rfl)
          simp only [Act.put, List.setIfInBounds_toArray, List.set_cons_zero, List.set_cons_succ]
          refine rg_done (by kernel_rfl) ?_
          have H2 := Lib.hid hB
          clear hS hB
          go_wp2_with fail
          go_ret
          refine ⟨ret_str (bytes_inj' ?_), H2.out⟩
          rw [mkS_data, HTX.out, ByteArray.data_append, ByteArray.data_append, Array.toList_append, Array.toList_append, HJ1.out, HJ2.out]
          rw [List.drop_zero, List.take_zero, List.drop_of_length_le (Nat.le_of_eq (words6_len bs))]
        · have p4' : (8 = t) = False := eq_false fun h => ht8 h.symm
          have hS : Row wr.drew (w.heap.size + 1) 9 (sv (words6 bs)) := HRW.out
          have hB : Below w.heap.size w wr.drew := hh.out.2.2.drew
          refine rg_begin (fun w' => Row w' (w.heap.size + 1) 9 (sv (words6 bs))) 11 (by kernel_rfl) rfl ?_
          refine rg_take 0 (v := ?rv26) rfl (by kernel_rfl) (by kernel_rfl) (by kernel_rfl) (fun _ _ _ h => h) (by rfl) hS (fun w2 hw2 => ?ry26) ?rr26
          case ry26 => ((try dsimp only at hw2); go_simp <;> with_reducible rfl)
          simp only [Act.put, List.setIfInBounds_toArray, List.set_cons_zero, List.set_cons_succ]
          refine rg_take 1 (v := ?rv27) rfl (by kernel_rfl) (by kernel_rfl) (by kernel_rfl) (fun _ _ _ h => h) (by rfl) hS (fun w2 hw2 => ?ry27) ?rr27
          case ry27 => ((try dsimp only at hw2); go_simp <;> with_reducible rfl)
          simp only [Act.put, List.setIfInBounds_toArray, List.set_cons_zero, List.set_cons_succ]
          refine rg_take 5 (v := ?rv28) rfl (by kernel_rfl) (by kernel_rfl) (by kernel_rfl) (fun _ _ _ h => h) (by rfl) hS (fun w2 hw2 => ?ry28) ?rr28
          case ry28 => ((try dsimp only at hw2); go_simp <;> with_reducible rfl)
          simp only [Act.put, List.setIfInBounds_toArray, List.set_cons_zero, List.set_cons_succ]
          refine rg_take 6 (v := ?rv29) rfl (by kernel_rfl) (by kernel_rfl) (by kernel_rfl) (fun _ _ _ h => h) (by rfl) hS (fun w2 hw2 => ?ry29) ?rr29
          case ry29 => ((try dsimp only at hw2); go_simp <;> with_reducible rfl)
          simp only [Act.put, List.setIfInBounds_toArray, List.set_cons_zero, List.set_cons_succ]
          refine rg_take 2 (v := ?rv30) rfl (by kernel_rfl) (by kernel_rfl) (by kernel_rfl) (fun _ _ _ h => h) (by rfl) hS (fun w2 hw2 => ?ry30) ?rr30
          case ry30 => ((try dsimp only at hw2); go_simp <;> with_reducible rfl)
          simp only [Act.put, List.setIfInBounds_toArray, List.set_cons_zero, List.set_cons_succ]
          refine rg_take 7 (v := ?rv31) rfl (by kernel_rfl) (by kernel_rfl) (by kernel_rfl) (fun _ _ _ h => h) (by rfl) hS (fun w2 hw2 => ?ry31) ?rr31
          case ry31 => ((try dsimp only at hw2); go_simp <;> with_reducible rfl)
          simp only [Act.put, List.setIfInBounds_toArray, List.set_cons_zero, List.set_cons_succ]
          refine rg_step 3 rfl (by kernel_rfl) (by rfl) (fun K hK => ?_)
          go_simp
          refine (join_J bs hS 0 f 8 (by omega) (by omega)).mono ?_
          rintro e w1 ⟨J1, rfl, hj1, hz1, b1⟩
          replace hS := hS.later b1 (Nat.le_refl _)
          replace hB := hB.trans (b1.mono hB.size)
          have n1 : (9223372036854775807 < J1.size + 2) = False := eq_false (by omega)
          have HJ1 := Lib.hid hj1
          clear b1 hj1
          refine hK.out _ _ hS ?_
          clear hK K
          try simp only [Act.put, List.setIfInBounds_toArray, List.set_cons_zero, List.set_cons_succ]
          refine rg_take 4 (v := ?rv32) rfl (by kernel_rfl) (by kernel_rfl) (by kernel_rfl) (fun _ _ _ h => h) (by rfl) hS (fun w2 hw2 => ?ry32) ?rr32
          case ry32 => ((try dsimp only at hw2); go_simp <;> with_reducible rfl)
          simp only [Act.put, List.setIfInBounds_toArray, List.set_cons_zero, List.set_cons_succ]
          refine rg_step 8 rfl (by kernel_rfl) (by rfl) (fun K hK => ?_)
          go_simp
          refine (join_J bs hS t (8 - t) (8 - t) (by omega) (by omega)).mono ?_
          rintro e w2 ⟨J2, rfl, hj2, hz2, b2⟩
          replace hS := hS.later b2 (Nat.le_refl _)
          replace hB := hB.trans (b2.mono hB.size)
          have n2 : (9223372036854775807 < J1.size + 2 + J2.size) = False := eq_false (by omega)
          have HJ2 := Lib.hid hj2
          clear b2 hj2
          refine hK.out _ _ hS ?_
          clear hK K
          try simp only [Act.put, List.setIfInBounds_toArray, List.set_cons_zero, List.set_cons_succ]
          refine rg_take 9 (v := ?rv33) rfl (by kernel_rfl) (by kernel_rfl) (by kernel_rfl) (fun _ _ _ h => h) (by rfl) hS (fun w2 hw2 => ?ry33) ?rr33
          case ry33 => ((try dsimp only at hw2); go_simp <;> with_reducible rfl)
          simp only [Act.put, List.setIfInBounds_toArray, List.set_cons_zero, List.set_cons_succ]
          refine rg_take 10 (v := ?rv34) rfl (by kernel_rfl) (by kernel_rfl) (by kernel_rfl) (fun _ _ _ h => h) (by rfl) hS (fun w2 hw2 => ?ry34) ?rr34
          case ry34 => ((try dsimp only at hw2); go_simp <;> with_reducible rfl)
          simp only [Act.put, List.setIfInBounds_toArray, List.set_cons_zero, List.set_cons_succ]
          refine rg_done (by kernel_rfl) ?_
          have H2 := Lib.hid hB
          clear hS hB
          go_wp2_with fail
          go_ret
          refine ⟨ret_str (bytes_inj' ?_), H2.out⟩
          rw [mkS_data, HTX.out, ByteArray.data_append, ByteArray.data_append, Array.toList_append, Array.toList_append, HJ1.out, HJ2.out]
          rw [List.drop_zero, show List.take (8 - t) ((words6 bs).drop t) = (words6 bs).drop t from List.take_of_length_le (by rw [List.length_drop, words6_len]; exact Nat.le_refl _)]
end Go.Proofs.YtjegeiaabkheiaaGreatDoor
