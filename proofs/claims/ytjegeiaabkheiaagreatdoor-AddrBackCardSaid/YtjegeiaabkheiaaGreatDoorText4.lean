/-
  Package addr's text4; strconv.Itoa and strings.Join as they are called. Conditions: what the program's text has laid (Env).
-/
import Derived.Test.YtjegeiaabkheiaaGreatDoorSplit
import Derived.Test.YtjegeiaabkheiaaGreatDoorRight
namespace Go.Proofs.YtjegeiaabkheiaaGreatDoor
open Go.RowKit
set_option maxRecDepth 100000

theorem below_grow (w : World) (k : Nat) (os : Array Obj) : Below w.heap.size w (Sort.grow (w.drewN k) os) := by
  refine ⟨rfl, rfl, rfl, by simp [Sort.grow, World.drewN], fun i hi => ?_⟩
  show (w.heap ++ os)[i]? = w.heap[i]?
  rw [Array.getElem?_append_left hi]
/-- A text out of its bytes. -/
def mkS (l : List UInt8) : ByteArray := ⟨l.toArray⟩
theorem mkS_data (l : List UInt8) : (mkS l).data.toList = l := by simp [mkS]
theorem itoa_any (n : Nat) (hn : n ≤ 1000000) {w : World} (hE : Env w) : Calls Tryz.prog 45 #[.int .i64 n] w fun e w' => e = .returned (.string (mkS (Lib.decDigits n))) ∧ Below w.heap.size w w' := by
  refine (Tryz.strconv_Itoa n (by omega) (by omega) w hE.pow).mono fun e w' ⟨he, k, os, hw⟩ => ⟨?_, ?_⟩
  · rw [he]
    unfold Lib.itoa mkS
    rw [if_neg (by omega), Int.toNat_natCast]
  · subst hw; exact below_grow w k os
/-- strings.Join of a part of a row of texts. -/
theorem join_any {w : World} {g : Nat} {xs : List ByteArray} (hr : Row w g 9 (sv xs)) (o n c : Nat) (ho : o + n ≤ xs.length) (hc : n ≤ c) (sep : ByteArray) (hx : ∀ x ∈ xs, x.size ≤ 100) (hs : sep.size ≤ 100) (hn : n ≤ 1000) :
    Calls Tryz.prog 62 #[.slice (some ⟨g, o, none⟩) n c, .string sep] w fun e w' => e = .returned (.string (mkS (Lib.join (((xs.drop o).take n).map fun x => x.data.toList) sep.data.toList))) ∧ Below w.heap.size w w' := by
  have hl : ((xs.drop o).take n).length = n := by rw [List.length_take, List.length_drop]; omega
  have hj : ∀ l : List (List UInt8), (∀ x ∈ l, x.length ≤ 100) → (Lib.join l sep.data.toList).length ≤ 200 * l.length := by
    intro l
    induction l with
    | nil => intro _; simp [Lib.join, List.intercalate]
    | cons x r ih =>
      intro hx
      cases r with
      | nil => rw [Lib.join_one]; have := hx x (by simp); simp; omega
      | cons y r =>
        have h1 := ih (fun z hz => hx z (List.mem_cons_of_mem _ hz))
        have h2 : Lib.join (x :: y :: r) sep.data.toList = x ++ sep.data.toList ++ Lib.join (y :: r) sep.data.toList := by simp [Lib.join, List.intercalate]
        have h3 := hx x (by simp)
        have h4 : sep.data.toList.length ≤ 100 := by rw [← Lib.size_eq]; exact hs
        rw [h2]
        simp only [List.length_append, List.length_cons] at h1 ⊢
        omega
  have hlen : (Lib.join (((xs.drop o).take n).map (·.data.toList)) sep.data.toList).length ≤ 140737488355328 := by
    have := hj (((xs.drop o).take n).map (·.data.toList)) (fun x hx' => by
      obtain ⟨y, hy, rfl⟩ := List.mem_map.1 hx'
      have := hx y (List.mem_of_mem_drop (List.mem_of_mem_take hy))
      rw [← Lib.size_eq]
      exact this)
    rw [List.length_map, hl] at this
    omega
  have k := Tryz.strings_Join g o c ((xs.drop o).take n) sep w (fun j x hj => by
    rw [List.getElem?_take] at hj
    split at hj
    · rw [List.getElem?_drop] at hj
      exact hr.cell (sv_at hj)
    · cases hj) hr.lt (by omega) (by omega) hlen
  rw [hl] at k
  exact k

theorem decDigits_len {n : Nat} (h : n < 1000) : (Lib.decDigits n).length ≤ 3 := by
  unfold Lib.decDigits
  split
  · simp
  · rw [List.length_append]
    unfold Lib.decDigits
    split
    · simp
    · rw [List.length_append]
      unfold Lib.decDigits
      rw [dif_pos (by omega)]
      simp
/-- An address of version 4 as text. -/
def words4 (bs : List UInt8) : List ByteArray := (bs.take 4).map fun b => mkS (Lib.decDigits b.toNat)
def text4v (bs : List UInt8) : List UInt8 := Lib.join ((bs.take 4).map fun b => Lib.decDigits b.toNat) [46]

set_option maxHeartbeats 1000000 in
theorem text4_any (bs : List UInt8) (hl : bs.length = 16) {w : World} (hE : Env w) : Calls Tryz.prog 40 #[.agg (bv bs).toArray] w fun e w' => e = .returned (.string (mkS (text4v bs))) ∧ Below w.heap.size w w' := by
  have hmk : ∀ w : World, (Instr.makeSlice 54 (.int .i64 4) (.int .i64 4)).run Tryz.prog w = .ok (.slice (some ⟨w.heap.size, 0, none⟩) 4 4) (w.alloc (.cells (madeCells #[.string ByteArray.empty] 4) 9)) := fun w => makeStrs 4 (by omega) w
  have r0 := Row.new' w 22 (cs := (bv bs).toArray) rfl
  have b1 : Below (w.alloc (.cells (bv bs).toArray 22)).heap.size (w.alloc (.cells (bv bs).toArray 22)) ((w.alloc (.cells (bv bs).toArray 22)).alloc (.cells (madeCells #[.string ByteArray.empty] 4) 9)) := (Below.refl _ _).alloc (Nat.le_refl _) _
  have r1 := Row.new' (w.alloc (.cells (bv bs).toArray 22)) 9 (sv_made 4)
  have b0 : Below w.heap.size w ((w.alloc (.cells (bv bs).toArray 22)).alloc (.cells (madeCells #[.string ByteArray.empty] 4) 9)) := ((Below.refl _ _).alloc (Nat.le_refl _) _).trans (b1.mono (by simp))
  rw [World.size_alloc] at r1
  have H0 := Lib.hid (And.intro (r0.later b1 (Nat.le_refl _)) (And.intro r1 b0))
  have HE := Lib.hid hE
  have HL := Lib.hid hl
  clear r0 b1 r1 b0 hE hl
  go_enter Tryz.func40, Tryz.ntmps40
  go_wp2_with fail
  generalize hW : ((w.alloc (.cells (bv bs).toArray 22)).alloc (.cells (madeCells #[.string ByteArray.empty] 4) 9)) = W at H0 ⊢
  clear hW hmk
  go_loopw [8] (fun i wr => ∃ k : Nat, i = .int .i64 k ∧ k ≤ 4 ∧ Hid (Row wr (w.heap.size + 1) 9 (sv ((words4 bs).take k ++ List.replicate (4 - k) ByteArray.empty)) ∧ Row wr w.heap.size 22 (bv bs) ∧ Below w.heap.size w wr)) (fun i _ => 4 - (intOf i).toNat)
  case atStart => exact ⟨0, rfl, by omega, Lib.hid ⟨H0.out.2.1, H0.out.1, H0.out.2.2⟩⟩
  case round =>
    obtain ⟨k, rfl, hk, hh⟩ := hrel
    by_cases hlt : k < 4
    · obtain ⟨b, hb⟩ : ∃ b, bs[k]? = some b := ⟨_, List.getElem?_eq_getElem (by rw [HL.out]; omega)⟩
      have hb2 := b.toNat_lt
      have hcell := hh.out.2.1.cell (bv_at hb)
      have hw4 : (words4 bs)[k]? = some (mkS (Lib.decDigits b.toNat)) := by
        unfold words4
        rw [List.getElem?_map, List.getElem?_take, if_pos hlt, hb]
        rfl
      have hlen : ((words4 bs).take k).length = k := by
        unfold words4
        rw [List.length_take, List.length_map, List.length_take, HL.out]; omega
      have hit := itoa_any b.toNat (by omega) (HE.out.later hh.out.2.2 (Nat.le_refl _))
      have hc2 : wr.cell? ⟨w.heap.size + 1, k, none⟩ = some (.string ByteArray.empty) := hh.out.1.cell (sv_at (by
        rw [List.getElem?_append_right (by omega), hlen, Nat.sub_self, List.getElem?_replicate, if_pos (by omega)]))
      have hf2 := hh.out.1.frozen k
      have HIT := Lib.hid hit
      have HB := Lib.hid (And.intro hw4 hlen)
      have HC2 := Lib.hid (And.intro hc2 hf2)
      clear hit hw4 hlen hb hc2 hf2
      go_wp2_with fail
      refine HIT.out.mono ?_
      rintro e w1 ⟨rfl, b1⟩
      have c1 := b1.cell (p := ⟨w.heap.size + 1, k, none⟩) (by exact lt_cell HC2.out.1)
      have f1 := b1.frozen (p := ⟨w.heap.size + 1, k, none⟩) (by exact lt_cell HC2.out.1)
      rw [HC2.out.1] at c1
      rw [HC2.out.2] at f1
      have r2 : Row (w1.setCell ⟨w.heap.size + 1, k, none⟩ (.string (mkS (Lib.decDigits b.toNat)))) (w.heap.size + 1) 9 (sv ((words4 bs).take (k + 1) ++ List.replicate (4 - (k + 1)) ByteArray.empty)) := by
        have := (hh.out.1.later b1 (Nat.le_refl _)).put k (.string (mkS (Lib.decDigits b.toNat)))
        rw [sv_set, List.set_append_right _ _ (by rw [HB.out.2]; exact Nat.le_refl _), HB.out.2, Nat.sub_self, show 4 - k = (4 - (k + 1)) + 1 by omega, List.replicate_succ, List.set_cons_zero] at this
        rw [List.take_add_one, HB.out.1]
        simpa using this
      have r3 := (hh.out.2.1.later b1 (Nat.le_refl _)).far (p := ⟨w.heap.size + 1, k, none⟩) (by show w.heap.size ≠ w.heap.size + 1; omega) (.string (mkS (Lib.decDigits b.toNat)))
      have b3 := (hh.out.2.2.trans (b1.mono hh.out.2.2.size)).setCell (p := ⟨w.heap.size + 1, k, none⟩) (by show w.heap.size ≤ w.heap.size + 1; omega) (.string (mkS (Lib.decDigits b.toNat)))
      have H2 := Lib.hid (And.intro r2 (And.intro r3 b3))
      clear r2 r3 b3 b1
      go_wp2_with fail
      go_roundw
      case rel => exact ⟨k + 1, by go_num, by omega, H2⟩
      case measure => simp [intOf]; omega
    · obtain rfl : k = 4 := by omega
      have hlw : (words4 bs).length = 4 := by unfold words4; rw [List.length_map, List.length_take, HL.out]; rfl
      have hr := hh.out.1
      rw [List.take_of_length_le (Nat.le_of_eq hlw), Nat.sub_self, List.replicate_zero, List.append_nil] at hr
      have hj := join_any hr 0 4 4 (by omega) (Nat.le_refl _) ⟨#[46]⟩ (fun x hx => by
        obtain ⟨b, _, rfl⟩ := List.mem_map.1 hx
        have h1 : (mkS (Lib.decDigits b.toNat)).size = (Lib.decDigits b.toNat).length := by rw [Lib.size_eq, mkS_data]
        have h2 : b.toNat < 256 := b.toNat_lt
        have h3 := decDigits_len (n := b.toNat) (by omega)
        omega) (by show 1 ≤ 100; omega) (by omega)
      rw [List.drop_zero, List.take_of_length_le (Nat.le_of_eq hlw)] at hj
      have he : (words4 bs).map (fun x => x.data.toList) = (bs.take 4).map fun b => Lib.decDigits b.toNat := by
        unfold words4; rw [List.map_map]; congr 1
      rw [he] at hj
      have hj : Calls Tryz.prog 62 #[.slice (some ⟨w.heap.size + 1, 0, none⟩) 4 4, .string ⟨#[46]⟩] wr fun e w' => e = .returned (.string (mkS (text4v bs))) ∧ Below wr.heap.size wr w' := hj
      have HJ := Lib.hid hj
      clear hr hlw hj he
      go_wp2_with fail
      refine HJ.out.mono ?_
      rintro e w1 ⟨rfl, b1⟩
      have H2 := Lib.hid (hh.out.2.2.trans (b1.mono hh.out.2.2.size))
      clear b1
      go_wp2_with fail
      go_ret
      exact ⟨rfl, H2.out⟩
end Go.Proofs.YtjegeiaabkheiaaGreatDoor
