/-
  
-/
import Derived.Test.YtoagfmonfgagbaaGreatDoorZ30
import Derived.Test.YtoagfmonfgagbaaGreatDoorZ19
import Derived.Test.YtoagfmonfgagbaaGreatDoorZ02
import Derived.Test.YtoagfmonfgagbaaGreatDoorZ16
import Derived.BigRegion
import Derived.Test.YtoagfmonfgagbaaGreatDoorZ14
import Derived.Test.YtoagfmonfgagbaaGreatDoorZ01
namespace Go.Proofs.YtoagfmonfgagbaaGreatDoor
open Go.RowKit
set_option maxRecDepth 100000
theorem below_grow (w : World) (k : Nat) (os : Array Obj) : Below w.heap.size w (Sort.grow (w.drewN k) os) := by
  refine ⟨rfl, rfl, rfl, by simp [Sort.grow, World.drewN], fun i hi => ?_⟩
  show (w.heap ++ os)[i]? = w.heap[i]?
  rw [Array.getElem?_append_left hi]
theorem itoa_any (n : Nat) (hn : n ≤ 1000000) {w : World} (hE : Env w) : Calls Tryz.prog 90 #[.int .i64 n] w fun e w' => e = .returned (.string (mkS (Lib.decDigits n))) ∧ Below w.heap.size w w' := by
  refine (Tryz.strconv_Itoa n (by omega) (by omega) w hE.pow).mono fun e w' ⟨he, k, os, hw⟩ => ⟨?_, ?_⟩
  · rw [he]
    unfold Lib.itoa mkS
    rw [if_neg (by omega), Int.toNat_natCast]
  · subst hw; exact below_grow w k os
theorem join_any {w : World} {g : Nat} {xs : List ByteArray} (hr : Row w g 9 (sv xs)) (o n c : Nat) (ho : o + n ≤ xs.length) (hc : n ≤ c) (sep : ByteArray) (hx : ∀ x ∈ xs, x.size ≤ 100) (hs : sep.size ≤ 100) (hn : n ≤ 1000) :
    Calls Tryz.prog 27 #[.slice (some ⟨g, o, none⟩) n c, .string sep] w fun e w' => e = .returned (.string (mkS (Lib.join (((xs.drop o).take n).map fun x => x.data.toList) sep.data.toList))) ∧ Below w.heap.size w w' := by
  have hl : ((xs.drop o).take n).length = n := by rw [List.length_take, List.length_drop]; omega
  have hj : ∀ l : List (List UInt8), (∀ x ∈ l, x.length ≤ 100) → (Lib.join l sep.data.toList).length ≤ 200 * l.length := by
    intro l
    induction l with
    | nil => intro _; simp [Lib.join, List.intercalate]
    | cons x r ih =>
      intro hx
      cases r with
      | nil => rw [Lib.join_one]; have := hx x (by simp); simp; omega
      | cons y r =>
        have h1 := ih (fun z hz => hx z (List.mem_cons_of_mem _ hz))
        have h2 : Lib.join (x :: y :: r) sep.data.toList = x ++ sep.data.toList ++ Lib.join (y :: r) sep.data.toList := by simp [Lib.join, List.intercalate]
        have h3 := hx x (by simp)
        have h4 : sep.data.toList.length ≤ 100 := by rw [← Lib.size_eq]; exact hs
        rw [h2]
        simp only [List.length_append, List.length_cons] at h1 ⊢
        omega
  have hlen : (Lib.join (((xs.drop o).take n).map (·.data.toList)) sep.data.toList).length ≤ 140737488355328 := by
    have := hj (((xs.drop o).take n).map (·.data.toList)) (fun x hx' => by
      obtain ⟨y, hy, rfl⟩ := List.mem_map.1 hx'
      have := hx y (List.mem_of_mem_drop (List.mem_of_mem_take hy))
      rw [← Lib.size_eq]
      exact this)
    rw [List.length_map, hl] at this
    omega
  have k := Tryz.strings_Join g o c ((xs.drop o).take n) sep w (fun j x hj => by
    rw [List.getElem?_take] at hj
    split at hj
    · rw [List.getElem?_drop] at hj
      exact hr.cell (sv_at hj)
    · cases hj) hr.lt (by omega) (by omega) hlen
  rw [hl] at k
  exact k
theorem decDigits_len {n : Nat} (h : n < 1000) : (Lib.decDigits n).length ≤ 3 := by
  unfold Lib.decDigits
  split
  · simp
  · rw [List.length_append]
    unfold Lib.decDigits
    split
    · simp
    · rw [List.length_append]
      unfold Lib.decDigits
      rw [dif_pos (by omega)]
      simp
def words4 (bs : List UInt8) : List ByteArray := (bs.take 4).map fun b => mkS (Lib.decDigits b.toNat)
def text4v (bs : List UInt8) : List UInt8 := Lib.join ((bs.take 4).map fun b => Lib.decDigits b.toNat) [46]
set_option maxHeartbeats 1000000 in
theorem text4_any (bs : List UInt8) (hl : bs.length = 16) {w : World} (hE : Env w) : Calls Tryz.prog 72 #[.agg (bv bs).toArray] w fun e w' => e = .returned (.string (mkS (text4v bs))) ∧ Below w.heap.size w w' := by
  have hmk : ∀ w : World, (Instr.makeSlice 36 (.int .i64 4) (.int .i64 4)).run Tryz.prog w = .ok (.slice (some ⟨w.heap.size, 0, none⟩) 4 4) (w.alloc (.cells (madeCells #[.string ByteArray.empty] 4) 9)) := fun w => makeStrs 4 (by omega) w
  have r0 := Row.new' w 49 (cs := (bv bs).toArray) rfl
  have b1 : Below (w.alloc (.cells (bv bs).toArray 49)).heap.size (w.alloc (.cells (bv bs).toArray 49)) ((w.alloc (.cells (bv bs).toArray 49)).alloc (.cells (madeCells #[.string ByteArray.empty] 4) 9)) := (Below.refl _ _).alloc (Nat.le_refl _) _
  have r1 := Row.new' (w.alloc (.cells (bv bs).toArray 49)) 9 (sv_made 4)
  have b0 : Below w.heap.size w ((w.alloc (.cells (bv bs).toArray 49)).alloc (.cells (madeCells #[.string ByteArray.empty] 4) 9)) := ((Below.refl _ _).alloc (Nat.le_refl _) _).trans (b1.mono (by simp))
  rw [World.size_alloc] at r1
  have H0 := Lib.hid (And.intro (r0.later b1 (Nat.le_refl _)) (And.intro r1 b0))
  have HE := Lib.hid hE
  have HL := Lib.hid hl
  clear r0 b1 r1 b0 hE hl
  go_enter Tryz.func72, Tryz.ntmps72
  go_wp2_with fail
  generalize hW : ((w.alloc (.cells (bv bs).toArray 49)).alloc (.cells (madeCells #[.string ByteArray.empty] 4) 9)) = W at H0 ⊢
  clear hW hmk
  go_loopw [8] (fun i wr => ∃ k : Nat, i = .int .i64 k ∧ k ≤ 4 ∧ Hid (Row wr (w.heap.size + 1) 9 (sv ((words4 bs).take k ++ List.replicate (4 - k) ByteArray.empty)) ∧ Row wr w.heap.size 49 (bv bs) ∧ Below w.heap.size w wr)) (fun i _ => 4 - (intOf i).toNat)
  case atStart => exact ⟨0, rfl, by omega, Lib.hid ⟨H0.out.2.1, H0.out.1, H0.out.2.2⟩⟩
  case round =>
    obtain ⟨k, rfl, hk, hh⟩ := hrel
    by_cases hlt : k < 4
    · obtain ⟨b, hb⟩ : ∃ b, bs[k]? = some b := ⟨_, List.getElem?_eq_getElem (by rw [HL.out]; omega)⟩
      have hb2 := b.toNat_lt
      have hcell := hh.out.2.1.cell (bv_at hb)
      have hw4 : (words4 bs)[k]? = some (mkS (Lib.decDigits b.toNat)) := by
        unfold words4
        rw [List.getElem?_map, List.getElem?_take, if_pos hlt, hb]
        rfl
      have hlen : ((words4 bs).take k).length = k := by
        unfold words4
        rw [List.length_take, List.length_map, List.length_take, HL.out]; omega
      have hit := itoa_any b.toNat (by omega) (HE.out.later hh.out.2.2 (Nat.le_refl _))
      have hc2 : wr.cell? ⟨w.heap.size + 1, k, none⟩ = some (.string ByteArray.empty) := hh.out.1.cell (sv_at (by
        rw [List.getElem?_append_right (by omega), hlen, Nat.sub_self, List.getElem?_replicate, if_pos (by omega)]))
      have hf2 := hh.out.1.frozen k
      have HIT := Lib.hid hit
      have HB := Lib.hid (And.intro hw4 hlen)
      have HC2 := Lib.hid (And.intro hc2 hf2)
      clear hit hw4 hlen hb hc2 hf2
      go_wp2_with fail
      refine HIT.out.mono ?_
      rintro e w1 ⟨rfl, b1⟩
      have c1 := b1.cell (p := ⟨w.heap.size + 1, k, none⟩) (by exact lt_cell HC2.out.1)
      have f1 := b1.frozen (p := ⟨w.heap.size + 1, k, none⟩) (by exact lt_cell HC2.out.1)
      rw [HC2.out.1] at c1
      rw [HC2.out.2] at f1
      have r2 : Row (w1.setCell ⟨w.heap.size + 1, k, none⟩ (.string (mkS (Lib.decDigits b.toNat)))) (w.heap.size + 1) 9 (sv ((words4 bs).take (k + 1) ++ List.replicate (4 - (k + 1)) ByteArray.empty)) := by
        have := (hh.out.1.later b1 (Nat.le_refl _)).put k (.string (mkS (Lib.decDigits b.toNat)))
        rw [sv_set, List.set_append_right _ _ (by rw [HB.out.2]; exact Nat.le_refl _), HB.out.2, Nat.sub_self, show 4 - k = (4 - (k + 1)) + 1 by omega, List.replicate_succ, List.set_cons_zero] at this
        rw [List.take_add_one, HB.out.1]
        simpa using this
      have r3 := (hh.out.2.1.later b1 (Nat.le_refl _)).far (p := ⟨w.heap.size + 1, k, none⟩) (by show w.heap.size ≠ w.heap.size + 1; omega) (.string (mkS (Lib.decDigits b.toNat)))
      have b3 := (hh.out.2.2.trans (b1.mono hh.out.2.2.size)).setCell (p := ⟨w.heap.size + 1, k, none⟩) (by show w.heap.size ≤ w.heap.size + 1; omega) (.string (mkS (Lib.decDigits b.toNat)))
      have H2 := Lib.hid (And.intro r2 (And.intro r3 b3))
      clear r2 r3 b3 b1
      go_wp2_with fail
      go_roundw
      case rel => exact ⟨k + 1, by go_num, by omega, H2⟩
      case measure => simp [intOf]; omega
    · obtain rfl : k = 4 := by omega
      have hlw : (words4 bs).length = 4 := by unfold words4; rw [List.length_map, List.length_take, HL.out]; rfl
      have hr := hh.out.1
      rw [List.take_of_length_le (Nat.le_of_eq hlw), Nat.sub_self, List.replicate_zero, List.append_nil] at hr
      have hj := join_any hr 0 4 4 (by omega) (Nat.le_refl _) ⟨#[46]⟩ (fun x hx => by
        obtain ⟨b, _, rfl⟩ := List.mem_map.1 hx
        have h1 : (mkS (Lib.decDigits b.toNat)).size = (Lib.decDigits b.toNat).length := by rw [Lib.size_eq, mkS_data]
        have h2 : b.toNat < 256 := b.toNat_lt
        have h3 := decDigits_len (n := b.toNat) (by omega)
        omega) (by show 1 ≤ 100; omega) (by omega)
      rw [List.drop_zero, List.take_of_length_le (Nat.le_of_eq hlw)] at hj
      have he : (words4 bs).map (fun x => x.data.toList) = (bs.take 4).map fun b => Lib.decDigits b.toNat := by
        unfold words4; rw [List.map_map]; congr 1
      rw [he] at hj
      have hj : Calls Tryz.prog 27 #[.slice (some ⟨w.heap.size + 1, 0, none⟩) 4 4, .string ⟨#[46]⟩] wr fun e w' => e = .returned (.string (mkS (text4v bs))) ∧ Below wr.heap.size wr w' := hj
      have HJ := Lib.hid hj
      clear hr hlw hj he
      go_wp2_with fail
      refine HJ.out.mono ?_
      rintro e w1 ⟨rfl, b1⟩
      have H2 := Lib.hid (hh.out.2.2.trans (b1.mono hh.out.2.2.size))
      clear b1
      go_wp2_with fail
      go_ret
      exact ⟨rfl, H2.out⟩
end Go.Proofs.YtoagfmonfgagbaaGreatDoor

namespace Go.Proofs.YtoagfmonfgagbaaGreatDoor
open Go.RowKit
set_option maxRecDepth 100000
theorem bytes_injD {a b : ByteArray} (h : a.data.toList = b.data.toList) : a = b := by
  obtain ⟨⟨a⟩⟩ := a
  obtain ⟨⟨b⟩⟩ := b
  cases h
  rfl
end Go.Proofs.YtoagfmonfgagbaaGreatDoor

namespace Go.Proofs.YtoagfmonfgagbaaGreatDoor
open Go.RowKit
set_option maxRecDepth 100000
def lstep (s : Nat × Nat × Nat) (i : Nat) (z : Bool) : Nat × Nat × Nat :=
  if max (s.2.2 - s.2.1) 1 < i + 1 - (if z then s.1 else i + 1) then ((if z then s.1 else i + 1), (if z then s.1 else i + 1), i + 1) else ((if z then s.1 else i + 1), s.2.1, s.2.2)
def lst (zs : List Bool) : Nat → Nat × Nat × Nat
  | 0 => (0, 0, 0)
  | k + 1 => lstep (lst zs k) k (zs.getD k false)
def longestv (zs : List Bool) : Nat × Nat := (lst zs zs.length).2
theorem lst_ok (zs : List Bool) : ∀ k, (lst zs k).1 ≤ k ∧ (lst zs k).2.1 ≤ (lst zs k).2.2 ∧ (lst zs k).2.2 ≤ k
  | 0 => ⟨Nat.le_refl _, Nat.le_refl _, Nat.le_refl _⟩
  | k + 1 => by
    obtain ⟨h1, h2, h3⟩ := lst_ok zs k
    unfold lst lstep
    generalize lst zs k = s at *
    obtain ⟨a, b, c⟩ := s
    simp only at *
    cases zs.getD k false <;> simp only [Bool.false_eq_true, if_false, if_true] <;> split <;> simp only <;> omega
theorem bytes_inj' {a b : ByteArray} (h : a.data.toList = b.data.toList) : a = b := by
  obtain ⟨⟨a⟩⟩ := a
  obtain ⟨⟨b⟩⟩ := b
  cases h
  rfl
def isZ (x : ByteArray) : Bool := decide (x = mkS [48])
set_option maxHeartbeats 2000000 in
theorem longest_any (g n : Nat) (xs : List ByteArray) (hn : xs.length = n) (hn8 : n ≤ 1000) {w : World} (hr : Row w g 9 (sv xs)) : Calls Tryz.prog 89 #[.slice (some ⟨g, 0, none⟩) n n] w fun e w' =>
    e = .returned (.tuple #[.int .i64 (longestv (xs.map isZ)).1, .int .i64 (longestv (xs.map isZ)).2]) ∧ w = w' := by
  have HR := Lib.hid hr
  have HN := Lib.hid hn
  clear hr hn
  go_enter Tryz.func89, Tryz.ntmps89
  go_wp2_with fail
  go_loop [2, 3, 4, 10] (fun f t s i => ∃ k a b c : Nat, i = .int .i64 k ∧ s = .int .i64 a ∧ f = .int .i64 b ∧ t = .int .i64 c ∧ k ≤ n ∧ a ≤ k ∧ b ≤ c ∧ c ≤ k ∧ Hid (lst (xs.map isZ) k = (a, b, c))) (fun _ _ _ i => n - (intOf i).toNat)
  case atStart => exact ⟨0, 0, 0, 0, rfl, rfl, rfl, rfl, by omega, by omega, by omega, by omega, Lib.hid rfl⟩
  case round =>
    obtain ⟨k, a, b, c, rfl, rfl, rfl, rfl, hk, ha, hb, hc, hh⟩ := hrel
    by_cases hlt : k < n
    · obtain ⟨x, hx⟩ : ∃ x, xs[k]? = some x := ⟨_, List.getElem?_eq_getElem (by rw [HN.out]; exact hlt)⟩
      have hcell := HR.out.cell (sv_at hx)
      have hz : (xs.map isZ).getD k false = isZ x := by rw [List.getD, List.getElem?_map, hx]; rfl
      have hst : lst (xs.map isZ) (k + 1) = lstep (a, b, c) k (isZ x) := by
        show lstep (lst (xs.map isZ) k) k ((xs.map isZ).getD k false) = _
        rw [hh.out, hz]
      unfold lstep at hst
      by_cases h0 : x = mkS [48]
      · have hi : isZ x = true := decide_eq_true h0
        rw [hi] at hst
        simp only [if_true] at hst
        subst h0
        have hne : (Value.string (mkS [48])) = Value.string ⟨#[48]⟩ := rfl
        rw [hne] at hcell
        by_cases hm : max (c - b) 1 < k + 1 - a
        · rw [if_pos hm] at hst
          have h1 : max ((c : Int) - b) 1 < (k : Int) + 1 - a := by omega
          have HS := Lib.hid hst
          clear hst hi hz hx hm
          go_wp2_with fail
          all_goals (try (exfalso; omega))
          all_goals exact ⟨⟨k + 1, a, a, k + 1, by go_num, rfl, rfl, by go_num, by omega, by omega, by omega, by omega, HS⟩, by simp [intOf]; omega⟩
        · rw [if_neg hm] at hst
          have h1 : ¬ max ((c : Int) - b) 1 < (k : Int) + 1 - a := by omega
          have HS := Lib.hid hst
          clear hst hi hz hx hm
          go_wp2_with fail
          all_goals (try (exfalso; omega))
          all_goals exact ⟨⟨k + 1, a, b, c, by go_num, rfl, rfl, rfl, by omega, by omega, by omega, by omega, HS⟩, by simp [intOf]; omega⟩
      · have hi : isZ x = false := decide_eq_false h0
        rw [hi] at hst
        simp only [Bool.false_eq_true, if_false] at hst
        rw [if_neg (by omega)] at hst
        have HS := Lib.hid hst
        have hq : (!(x.toList == [48])) = true := by
          rw [Bool.not_eq_true', beq_eq_false_iff_ne, ByteArray.toList_eq]
          intro h
          exact h0 (bytes_inj' (h.trans (mkS_data [48]).symm))
        clear hst hi hz hx
        go_wp2_with fail
        all_goals (try (exfalso; omega))
        all_goals exact ⟨⟨k + 1, k + 1, b, c, by go_num, by go_num, rfl, rfl, by omega, by omega, by omega, by omega, HS⟩, by simp [intOf]; omega⟩
    · obtain rfl : k = n := by omega
      have hl : longestv (xs.map isZ) = (b, c) := by unfold longestv; rw [List.length_map, HN.out, hh.out]
      have HL := Lib.hid hl
      clear hl
      go_wp2_with fail
      go_ret2
      rw [HL.out]
      exact ⟨rfl, rfl⟩
end Go.Proofs.YtoagfmonfgagbaaGreatDoor

namespace Go.Proofs.YtoagfmonfgagbaaGreatDoor
open Go.RowKit
set_option maxRecDepth 100000
theorem ret_str {a b : ByteArray} (h : a = b) : Ending.returned (.string a) = .returned (.string b) := by rw [h]
def grp (bs : List UInt8) (i : Nat) : Nat := (bs.getD (2 * i) 0).toNat * 256 + (bs.getD (2 * i + 1) 0).toNat
theorem grp_lt (bs : List UInt8) (i : Nat) : grp bs i < 65536 := by
  unfold grp
  have := (bs.getD (2 * i) 0).toNat_lt
  have := (bs.getD (2 * i + 1) 0).toNat_lt
  omega
def words6 (bs : List UInt8) : List ByteArray := (List.range 8).map fun i => mkS (hexL (grp bs i))
theorem words6_len (bs : List UInt8) : (words6 bs).length = 8 := by simp [words6]
def text6v (bs : List UInt8) : List UInt8 :=
  if (longestv ((words6 bs).map isZ)).1 = (longestv ((words6 bs).map isZ)).2 then Lib.join ((words6 bs).map fun x => x.data.toList) [58]
  else Lib.join (((words6 bs).take (longestv ((words6 bs).map isZ)).1).map fun x => x.data.toList) [58] ++ [58, 58] ++ Lib.join (((words6 bs).drop (longestv ((words6 bs).map isZ)).2).map fun x => x.data.toList) [58]
theorem hexL_len {v : Nat} (h : v < 65536) : (hexL v).length ≤ 4 := by
  unfold hexL
  split
  · simp
  · rw [List.length_append]
    unfold hexL
    split
    · simp
    · rw [List.length_append]
      unfold hexL
      split
      · simp
      · rw [List.length_append]
        unfold hexL
        rw [dif_pos (by omega)]
        simp
theorem words6_size (bs : List UInt8) : ∀ x ∈ words6 bs, x.size ≤ 100 := by
  intro x hx
  obtain ⟨i, _, rfl⟩ := List.mem_map.1 hx
  have := hexL_len (grp_lt bs i)
  rw [Lib.size_eq, mkS_data]
  omega
theorem words6_at (bs : List UInt8) {k : Nat} (hk : k < 8) : (words6 bs)[k]? = some (mkS (hexL (grp bs k))) := by
  unfold words6
  rw [List.getElem?_map, List.getElem?_range hk]
  rfl
theorem join_len {sep : List UInt8} (hs : sep.length ≤ 100) : ∀ l : List (List UInt8), (∀ x ∈ l, x.length ≤ 100) → (Lib.join l sep).length ≤ 200 * l.length
  | [], _ => by simp [Lib.join, List.intercalate]
  | [x], hx => by rw [Lib.join_one]; have := hx x (by simp); simp; omega
  | x :: y :: r, hx => by
    have h1 := join_len hs (y :: r) (fun z hz => hx z (List.mem_cons_of_mem _ hz))
    have h2 : Lib.join (x :: y :: r) sep = x ++ sep ++ Lib.join (y :: r) sep := by simp [Lib.join, List.intercalate]
    have h3 := hx x (by simp)
    rw [h2]
    simp only [List.length_append, List.length_cons] at h1 ⊢
    omega
theorem join_J {w : World} {g : Nat} (bs : List UInt8) (hr : Row w g 9 (sv (words6 bs))) (o n c : Nat) (ho : o + n ≤ 8) (hc : n ≤ c) :
    Calls Tryz.prog 27 #[.slice (some ⟨g, o, none⟩) n c, .string ⟨#[58]⟩] w fun e w' => ∃ J : ByteArray, e = .returned (.string J) ∧ J.data.toList = Lib.join ((((words6 bs).drop o).take n).map fun x => x.data.toList) [58] ∧ J.size ≤ 2000 ∧ Below w.heap.size w w' := by
  refine (join_any hr o n c (by rw [words6_len]; exact ho) hc ⟨#[58]⟩ (words6_size bs) (by show 1 ≤ 100; omega) (by omega)).mono fun e w' ⟨he, hb⟩ => ⟨_, he, mkS_data _, ?_, hb⟩
  rw [Lib.size_eq, mkS_data]
  have h := join_len (sep := [58]) (by simp) ((((words6 bs).drop o).take n).map fun x => x.data.toList) (fun x hx => by
    obtain ⟨y, hy, rfl⟩ := List.mem_map.1 hx
    rw [← Lib.size_eq]
    exact words6_size bs y (List.mem_of_mem_drop (List.mem_of_mem_take hy)))
  rw [List.length_map, List.length_take] at h
  have : min n ((words6 bs).drop o).length ≤ 8 := by omega
  exact Nat.le_trans h (by omega)
set_option maxHeartbeats 4000000 in
theorem text6_any (bs : List UInt8) (hl : bs.length = 16) {w : World} (hE : Env w) : Calls Tryz.prog 71 #[.agg (bv bs).toArray] w fun e w' => e = .returned (.string (mkS (text6v bs))) ∧ Below w.heap.size w w' := by
  have hmk : ∀ w : World, (Instr.makeSlice 36 (.int .i64 8) (.int .i64 8)).run Tryz.prog w = .ok (.slice (some ⟨w.heap.size, 0, none⟩) 8 8) (w.alloc (.cells (madeCells #[.string ByteArray.empty] 8) 9)) := fun w => makeStrs 8 (by omega) w
  have r0 := Row.new' w 49 (cs := (bv bs).toArray) rfl
  have b1 : Below (w.alloc (.cells (bv bs).toArray 49)).heap.size (w.alloc (.cells (bv bs).toArray 49)) ((w.alloc (.cells (bv bs).toArray 49)).alloc (.cells (madeCells #[.string ByteArray.empty] 8) 9)) := (Below.refl _ _).alloc (Nat.le_refl _) _
  have r1 := Row.new' (w.alloc (.cells (bv bs).toArray 49)) 9 (sv_made 8)
  have b0 : Below w.heap.size w ((w.alloc (.cells (bv bs).toArray 49)).alloc (.cells (madeCells #[.string ByteArray.empty] 8) 9)) := ((Below.refl _ _).alloc (Nat.le_refl _) _).trans (b1.mono (by simp))
  rw [World.size_alloc] at r1
  have H0 := Lib.hid (And.intro (r0.later b1 (Nat.le_refl _)) (And.intro r1 b0))
  have HE := Lib.hid hE
  have HL := Lib.hid hl
  clear r0 b1 r1 b0 hE hl
  go_enter Tryz.func71, Tryz.ntmps71
  go_wp2_with fail
  generalize hW : ((w.alloc (.cells (bv bs).toArray 49)).alloc (.cells (madeCells #[.string ByteArray.empty] 8) 9)) = W at H0 ⊢
  clear hW hmk
  go_loopw [10] (fun i wr => ∃ k : Nat, i = .int .i64 k ∧ k ≤ 8 ∧ Hid (Row wr (w.heap.size + 1) 9 (sv ((words6 bs).take k ++ List.replicate (8 - k) ByteArray.empty)) ∧ Row wr w.heap.size 49 (bv bs) ∧ Below w.heap.size w wr)) (fun i _ => 8 - (intOf i).toNat)
  case atStart => exact ⟨0, rfl, by omega, Lib.hid ⟨H0.out.2.1, H0.out.1, H0.out.2.2⟩⟩
  case round =>
    obtain ⟨k, rfl, hk, hh⟩ := hrel
    by_cases hlt : k < 8
    · obtain ⟨x, hx⟩ : ∃ x, bs[2 * k]? = some x := ⟨_, List.getElem?_eq_getElem (by rw [HL.out]; omega)⟩
      obtain ⟨y, hy⟩ : ∃ y, bs[2 * k + 1]? = some y := ⟨_, List.getElem?_eq_getElem (by rw [HL.out]; omega)⟩
      have hx2 : x.toNat < 256 := x.toNat_lt
      have hy2 : y.toNat < 256 := y.toNat_lt
      have hg : grp bs k = x.toNat * 256 + y.toNat := by unfold grp; simp [List.getD, hx, hy]
      have hw6 := words6_at bs hlt
      rw [hg] at hw6
      have hor := i64_or_byte x.toNat y.toNat (by omega) hy2
      have q1 : (0 : Int) ≤ 2 * (k : Int) := by omega
      have q2 : 2 * (k : Int) < 16 := by omega
      have q4 : (0 : Int) ≤ 2 * (k : Int) + 1 := by omega
      have q5 : 2 * (k : Int) + 1 < 16 := by omega
      have q3 : (2 * (k : Int)).toNat = 2 * k := by omega
      have q6 : (2 * (k : Int) + 1).toNat = 2 * k + 1 := by omega
      have q7 : IntKind.i64.wrap (2 * (k : Int)) = 2 * (k : Int) := IntWalk.i64_in _ (by omega)
      have q8 : IntKind.i64.wrap (2 * (k : Int) + 1) = 2 * (k : Int) + 1 := IntWalk.i64_in _ (by omega)
      have q9 : IntKind.i64.wrap (x.toNat : Int) = (x.toNat : Int) := IntWalk.i64_in _ (by omega)
      have q10 : IntKind.i64.wrap (y.toNat : Int) = (y.toNat : Int) := IntWalk.i64_in _ (by omega)
      have q11 : IntKind.i64.wrap ((x.toNat : Int) * 256) = (x.toNat : Int) * 256 := IntWalk.i64_in _ (by omega)
      have hc1 : ∀ w', Row w' w.heap.size 49 (bv bs) → w'.cell? ⟨w.heap.size, 2 * k, none⟩ = some (.int .u8 x.toNat) := fun w' h => h.cell (bv_at hx)
      have hc2 : ∀ w', Row w' w.heap.size 49 (bv bs) → w'.cell? ⟨w.heap.size, 2 * k + 1, none⟩ = some (.int .u8 y.toNat) := fun w' h => h.cell (bv_at hy)
      have hlen : ((words6 bs).take k).length = k := by rw [List.length_take, words6_len]; omega
      have hF : ∀ w1, Below w.heap.size w w1 → Hid (Calls Tryz.prog 88 #[.int .i64 ((x.toNat : Int) * 256 + (y.toNat : Int)), .int .i64 16] w1 fun e w' => e = .returned (.string (mkS (hexL (x.toNat * 256 + y.toNat)))) ∧ Below w1.heap.size w1 w') := fun w1 hb => by
        have h := FormatInt16 (x.toNat * 256 + y.toNat) (by omega) (HE.out.later hb (Nat.le_refl _))
        rw [show ((x.toNat * 256 + y.toNat : Nat) : Int) = (x.toNat : Int) * 256 + (y.toNat : Int) by omega] at h
        exact h
      have HF := Lib.hid hF
      have hcell2 : wr.cell? ⟨w.heap.size + 1, k, none⟩ = some (.string ByteArray.empty) := hh.out.1.cell (sv_at (by
        rw [List.getElem?_append_right (by omega), hlen, Nat.sub_self, List.getElem?_replicate, if_pos (by omega)]))
      have hf2 := hh.out.1.frozen k
      have HB := Lib.hid (And.intro hw6 (And.intro hlen (And.intro hcell2 hf2)))
      have HG := Lib.hid hg
      clear hw6 hlen hF hcell2 hf2 hx hy hg
      have hS : Row wr.drew w.heap.size 49 (bv bs) := hh.out.2.1
      go_wp2_with fail
      refine rg_begin (fun w' => Row w' w.heap.size 49 (bv bs)) 18 (by kernel_rfl) rfl ?_
      refine rg_take 0 (v := ?rv1) rfl (by kernel_rfl) (by kernel_rfl) (by kernel_rfl) (fun _ _ _ h => h) (by rfl) hS (fun w2 hw2 => ?ry1) ?rr1
      case ry1 => ((try dsimp only at hw2); go_simp <;> with_reducible rfl)
      simp only [Act.put, List.setIfInBounds_toArray, List.set_cons_zero, List.set_cons_succ]
      refine rg_take 1 (v := ?rv2) rfl (by kernel_rfl) (by kernel_rfl) (by kernel_rfl) (fun _ _ _ h => h) (by rfl) hS (fun w2 hw2 => ?ry2) ?rr2
      case ry2 => ((try dsimp only at hw2); go_simp <;> with_reducible rfl)
      simp only [Act.put, List.setIfInBounds_toArray, List.set_cons_zero, List.set_cons_succ]
      refine rg_take 2 (v := ?rv3) rfl (by kernel_rfl) (by kernel_rfl) (by kernel_rfl) (fun _ _ _ h => h) (by rfl) hS (fun w2 hw2 => ?ry3) ?rr3
      case ry3 => ((try dsimp only at hw2); go_simp <;> with_reducible rfl)
      simp only [Act.put, List.setIfInBounds_toArray, List.set_cons_zero, List.set_cons_succ]
      refine rg_take 8 (v := ?rv4) rfl (by kernel_rfl) (by kernel_rfl) (by kernel_rfl) (fun _ _ _ h => h) (by rfl) hS (fun w2 hw2 => ?ry4) ?rr4
      case ry4 => ((try dsimp only at hw2); go_simp <;> with_reducible rfl)
      simp only [Act.put, List.setIfInBounds_toArray, List.set_cons_zero, List.set_cons_succ]
      refine rg_take 3 (v := ?rv5) rfl (by kernel_rfl) (by kernel_rfl) (by kernel_rfl) (fun _ _ _ h => h) (by rfl) hS (fun w2 hw2 => ?ry5) ?rr5
      case ry5 => ((try dsimp only at hw2); go_simp <;> with_reducible rfl)
      simp only [Act.put, List.setIfInBounds_toArray, List.set_cons_zero, List.set_cons_succ]
      refine rg_take 9 (v := ?rv6) rfl (by kernel_rfl) (by kernel_rfl) (by kernel_rfl) (fun _ _ _ h => h) (by rfl) hS (fun w2 hw2 => ?ry6) ?rr6
      case ry6 => ((try dsimp only at hw2); go_simp <;> with_reducible rfl)
      simp only [Act.put, List.setIfInBounds_toArray, List.set_cons_zero, List.set_cons_succ]
      refine rg_take 4 (v := ?rv7) rfl (by kernel_rfl) (by kernel_rfl) (by kernel_rfl) (fun _ _ _ h => h) (by rfl) hS (fun w2 hw2 => ?ry7) ?rr7
      case ry7 => ((try dsimp only at hw2); go_simp <;> with_reducible rfl)
      simp only [Act.put, List.setIfInBounds_toArray, List.set_cons_zero, List.set_cons_succ]
      refine rg_take 10 (v := ?rv8) rfl (by kernel_rfl) (by kernel_rfl) (by kernel_rfl) (fun _ _ _ h => h) (by rfl) hS (fun w2 hw2 => ?ry8) ?rr8
      case ry8 => ((try dsimp only at hw2); go_simp <;> with_reducible rfl)
      simp only [Act.put, List.setIfInBounds_toArray, List.set_cons_zero, List.set_cons_succ]
      refine rg_take 5 (v := ?rv9) rfl (by kernel_rfl) (by kernel_rfl) (by kernel_rfl) (fun _ _ _ h => h) (by rfl) hS (fun w2 hw2 => ?ry9) ?rr9
      case ry9 => ((try dsimp only at hw2); go_simp <;> with_reducible rfl)
      simp only [Act.put, List.setIfInBounds_toArray, List.set_cons_zero, List.set_cons_succ]
      refine rg_take 11 (v := ?rv10) rfl (by kernel_rfl) (by kernel_rfl) (by kernel_rfl) (fun _ _ _ h => h) (by rfl) hS (fun w2 hw2 => ?ry10) ?rr10
      case ry10 => ((try dsimp only at hw2); go_simp <;> with_reducible rfl)
      simp only [Act.put, List.setIfInBounds_toArray, List.set_cons_zero, List.set_cons_succ]
      refine rg_take 6 (v := ?rv11) rfl (by kernel_rfl) (by kernel_rfl) (by kernel_rfl) (fun _ _ _ h => h) (by rfl) hS (fun w2 hw2 => ?ry11) ?rr11
      case ry11 => ((try dsimp only at hw2); go_simp <;> with_reducible rfl)
      simp only [Act.put, List.setIfInBounds_toArray, List.set_cons_zero, List.set_cons_succ]
      refine rg_take 12 (v := ?rv12) rfl (by kernel_rfl) (by kernel_rfl) (by kernel_rfl) (fun _ _ _ h => h) (by rfl) hS (fun w2 hw2 => ?ry12) ?rr12
      case ry12 => ((try dsimp only at hw2); go_simp <;> with_reducible rfl)
      simp only [Act.put, List.setIfInBounds_toArray, List.set_cons_zero, List.set_cons_succ]
      refine rg_take 7 (v := ?rv13) rfl (by kernel_rfl) (by kernel_rfl) (by kernel_rfl) (fun _ _ _ h => h) (by rfl) hS (fun w2 hw2 => ?ry13) ?rr13
      case ry13 => ((try dsimp only at hw2); go_simp <;> with_reducible rfl)
      simp only [Act.put, List.setIfInBounds_toArray, List.set_cons_zero, List.set_cons_succ]
      refine rg_take 13 (v := ?rv14) rfl (by kernel_rfl) (by kernel_rfl) (by kernel_rfl) (fun _ _ _ h => h) (by rfl) hS (fun w2 hw2 => ?ry14) ?rr14
      case ry14 => ((try dsimp only at hw2); go_simp <;> with_reducible rfl)
      simp only [Act.put, List.setIfInBounds_toArray, List.set_cons_zero, List.set_cons_succ]
      refine rg_take 14 (v := ?rv15) rfl (by kernel_rfl) (by kernel_rfl) (by kernel_rfl) (fun _ _ _ h => h) (by rfl) hS (fun w2 hw2 => ?ry15) ?rr15
      case ry15 => ((try dsimp only at hw2); go_simp <;> with_reducible rfl)
      simp only [Act.put, List.setIfInBounds_toArray, List.set_cons_zero, List.set_cons_succ]
      refine rg_step 15 rfl (by kernel_rfl) (by rfl) (fun K hK => ?_)
      go_simp
      refine (HF.out wr.drew hh.out.2.2.drew).out.mono ?_
      rintro e w1 ⟨rfl, b1⟩
      have c1 := b1.cell (p := ⟨w.heap.size + 1, k, none⟩) (by exact lt_cell HB.out.2.2.1)
      have f1 := b1.frozen (p := ⟨w.heap.size + 1, k, none⟩) (by exact lt_cell HB.out.2.2.1)
      rw [show wr.drew.cell? ⟨w.heap.size + 1, k, none⟩ = _ from HB.out.2.2.1] at c1
      rw [show wr.drew.frozen? ⟨w.heap.size + 1, k, none⟩ = _ from HB.out.2.2.2] at f1
      have r2 : Row (w1.setCell ⟨w.heap.size + 1, k, none⟩ (.string (mkS (hexL (x.toNat * 256 + y.toNat))))) (w.heap.size + 1) 9 (sv ((words6 bs).take (k + 1) ++ List.replicate (8 - (k + 1)) ByteArray.empty)) := by
        have h : Row wr.drew (w.heap.size + 1) 9 (sv ((words6 bs).take k ++ List.replicate (8 - k) ByteArray.empty)) := hh.out.1
        have := (h.later b1 (Nat.le_refl _)).put k (.string (mkS (hexL (x.toNat * 256 + y.toNat))))
        rw [sv_set, List.set_append_right _ _ (by rw [HB.out.2.1]; exact Nat.le_refl _), HB.out.2.1, Nat.sub_self, show 8 - k = (8 - (k + 1)) + 1 by omega, List.replicate_succ, List.set_cons_zero] at this
        rw [List.take_add_one, HB.out.1]
        simpa using this
      have r3 := (hS.later b1 (Nat.le_refl _)).far (p := ⟨w.heap.size + 1, k, none⟩) (by show w.heap.size ≠ w.heap.size + 1; omega) (.string (mkS (hexL (x.toNat * 256 + y.toNat))))
      have b3 := (hh.out.2.2.drew.trans (b1.mono hh.out.2.2.drew.size)).setCell (p := ⟨w.heap.size + 1, k, none⟩) (by show w.heap.size ≤ w.heap.size + 1; omega) (.string (mkS (hexL (x.toNat * 256 + y.toNat))))
      replace hS := hS.later b1 (Nat.le_refl _)
      have H2 := Lib.hid (And.intro r2 (And.intro r3 b3))
      clear r2 r3 b3 b1
      refine hK.out _ _ hS ?_
      clear hK K
      try simp only [Act.put, List.setIfInBounds_toArray, List.set_cons_zero, List.set_cons_succ]
      refine rg_take 16 (v := ?rv16) rfl (by kernel_rfl) (by kernel_rfl) (by kernel_rfl) (fun _ _ _ h => h) (by rfl) hS (fun w2 hw2 => ?ry16) ?rr16
      case ry16 => ((try dsimp only at hw2); go_simp <;> with_reducible rfl)
      simp only [Act.put, List.setIfInBounds_toArray, List.set_cons_zero, List.set_cons_succ]
      refine rg_step 17 rfl (by kernel_rfl) (by rfl) (fun K hK => ?_)
      go_simp
      replace hS := H2.out.2.1
      refine hK.out _ _ hS ?_
      clear hK K
      try simp only [Act.put, List.setIfInBounds_toArray, List.set_cons_zero, List.set_cons_succ]
      refine rg_done (by kernel_rfl) ?_
      clear hS
      go_wp2_with fail
      go_roundw
      case rel => exact ⟨k + 1, by go_num, by omega, H2⟩
      case measure => simp [intOf]; omega
    · obtain rfl : k = 8 := by omega
      have hr := hh.out.1
      rw [List.take_of_length_le (Nat.le_of_eq (words6_len bs)), Nat.sub_self, List.replicate_zero, List.append_nil] at hr
      have hlo := longest_any (w.heap.size + 1) 8 (words6 bs) (words6_len bs) (by omega) hr
      have hok := lst_ok ((words6 bs).map isZ) ((words6 bs).map isZ).length
      have h8 : ((words6 bs).map isZ).length = 8 := by rw [List.length_map, words6_len]
      have htx : text6v bs = text6v bs := rfl
      conv at htx => rhs; unfold text6v
      rw [show (lst ((words6 bs).map isZ) ((words6 bs).map isZ).length).2 = longestv ((words6 bs).map isZ) from rfl, h8] at hok
      obtain ⟨f, t, hft⟩ : ∃ f t, longestv ((words6 bs).map isZ) = (f, t) := ⟨_, _, rfl⟩
      rw [hft] at hlo hok htx
      simp only at hlo hok htx
      obtain ⟨_, hok1, hok2⟩ := hok
      have HLO := Lib.hid hlo
      have HRW := Lib.hid hr
      clear hlo hr hft h8
      by_cases heq : f = t
      · subst heq
        rw [if_pos rfl] at htx
        have hj := join_any HRW.out 0 8 8 (by rw [words6_len]; omega) (Nat.le_refl _) ⟨#[58]⟩ (words6_size bs) (by show 1 ≤ 100; omega) (by omega)
        rw [List.drop_zero, List.take_of_length_le (Nat.le_of_eq (words6_len bs)), show (ByteArray.mk #[58]).data.toList = [58] from rfl, ← htx] at hj
        have HJ := Lib.hid hj
        have hff : ((f : Int) == f) = true := by simp
        clear hj htx
        go_wp2_with fail
        refine HLO.out.mono ?_
        rintro e w1 ⟨rfl, rfl⟩
        go_wp2_with fail
        refine HJ.out.mono ?_
        rintro e w1 ⟨rfl, b1⟩
        have H2 := Lib.hid (hh.out.2.2.trans (b1.mono hh.out.2.2.size))
        clear b1
        go_wp2_with fail
        go_ret
        exact ⟨rfl, H2.out⟩
      · rw [if_neg heq] at htx
        have hfe : ((f : Int) == t) = false := by simpa using fun h => heq (by omega)
        have HTX := Lib.hid htx
        clear htx heq
        go_wp2_with fail
        refine HLO.out.mono ?_
        rintro e w1 ⟨rfl, rfl⟩
        go_wp2_with fail
        have p1 : (f : Int) ≤ 8 := by omega
        have p2 : (t : Int) ≤ 8 := by omega
        have p3 : (0 : Int) ≤ t := by omega
        by_cases ht8 : t = 8
        · subst ht8
          have hS : Row wr.drew (w.heap.size + 1) 9 (sv (words6 bs)) := HRW.out
          have hB : Below w.heap.size w wr.drew := hh.out.2.2.drew
          refine rg_begin (fun w' => Row w' (w.heap.size + 1) 9 (sv (words6 bs))) 11 (by kernel_rfl) rfl ?_
          refine rg_take 0 (v := ?rv17) rfl (by kernel_rfl) (by kernel_rfl) (by kernel_rfl) (fun _ _ _ h => h) (by rfl) hS (fun w2 hw2 => ?ry17) ?rr17
          case ry17 => ((try dsimp only at hw2); go_simp <;> with_reducible rfl)
          simp only [Act.put, List.setIfInBounds_toArray, List.set_cons_zero, List.set_cons_succ]
          refine rg_take 1 (v := ?rv18) rfl (by kernel_rfl) (by kernel_rfl) (by kernel_rfl) (fun _ _ _ h => h) (by rfl) hS (fun w2 hw2 => ?ry18) ?rr18
          case ry18 => ((try dsimp only at hw2); go_simp <;> with_reducible rfl)
          simp only [Act.put, List.setIfInBounds_toArray, List.set_cons_zero, List.set_cons_succ]
          refine rg_take 5 (v := ?rv19) rfl (by kernel_rfl) (by kernel_rfl) (by kernel_rfl) (fun _ _ _ h => h) (by rfl) hS (fun w2 hw2 => ?ry19) ?rr19
          case ry19 => ((try dsimp only at hw2); go_simp <;> with_reducible rfl)
          simp only [Act.put, List.setIfInBounds_toArray, List.set_cons_zero, List.set_cons_succ]
          refine rg_take 6 (v := ?rv20) rfl (by kernel_rfl) (by kernel_rfl) (by kernel_rfl) (fun _ _ _ h => h) (by rfl) hS (fun w2 hw2 => ?ry20) ?rr20
          case ry20 => ((try dsimp only at hw2); go_simp <;> with_reducible rfl)
          simp only [Act.put, List.setIfInBounds_toArray, List.set_cons_zero, List.set_cons_succ]
          refine rg_take 2 (v := ?rv21) rfl (by kernel_rfl) (by kernel_rfl) (by kernel_rfl) (fun _ _ _ h => h) (by rfl) hS (fun w2 hw2 => ?ry21) ?rr21
          case ry21 => ((try dsimp only at hw2); go_simp <;> with_reducible rfl)
          simp only [Act.put, List.setIfInBounds_toArray, List.set_cons_zero, List.set_cons_succ]
          refine rg_take 7 (v := ?rv22) rfl (by kernel_rfl) (by kernel_rfl) (by kernel_rfl) (fun _ _ _ h => h) (by rfl) hS (fun w2 hw2 => ?ry22) ?rr22
          case ry22 => ((try dsimp only at hw2); go_simp <;> with_reducible rfl)
          simp only [Act.put, List.setIfInBounds_toArray, List.set_cons_zero, List.set_cons_succ]
          refine rg_step 3 rfl (by kernel_rfl) (by rfl) (fun K hK => ?_)
          go_simp
          refine (join_J bs hS 0 f 8 (by omega) (by omega)).mono ?_
          rintro e w1 ⟨J1, rfl, hj1, hz1, b1⟩
          replace hS := hS.later b1 (Nat.le_refl _)
          replace hB := hB.trans (b1.mono hB.size)
          have n1 : (9223372036854775807 < J1.size + 2) = False := eq_false (by omega)
          have HJ1 := Lib.hid hj1
          clear b1 hj1
          refine hK.out _ _ hS ?_
          clear hK K
          try simp only [Act.put, List.setIfInBounds_toArray, List.set_cons_zero, List.set_cons_succ]
          refine rg_take 4 (v := ?rv23) rfl (by kernel_rfl) (by kernel_rfl) (by kernel_rfl) (fun _ _ _ h => h) (by rfl) hS (fun w2 hw2 => ?ry23) ?rr23
          case ry23 => ((try dsimp only at hw2); go_simp <;> with_reducible rfl)
          simp only [Act.put, List.setIfInBounds_toArray, List.set_cons_zero, List.set_cons_succ]
          refine rg_step 8 rfl (by kernel_rfl) (by rfl) (fun K hK => ?_)
          go_simp
          refine (join_J bs hS 0 0 0 (by omega) (by omega)).mono ?_
          rintro e w2 ⟨J2, rfl, hj2, hz2, b2⟩
          replace hS := hS.later b2 (Nat.le_refl _)
          replace hB := hB.trans (b2.mono hB.size)
          have n2 : (9223372036854775807 < J1.size + 2 + J2.size) = False := eq_false (by omega)
          have HJ2 := Lib.hid hj2
          clear b2 hj2
          refine hK.out _ _ hS ?_
          clear hK K
          try simp only [Act.put, List.setIfInBounds_toArray, List.set_cons_zero, List.set_cons_succ]
          refine rg_take 9 (v := ?rv24) rfl (by kernel_rfl) (by kernel_rfl) (by kernel_rfl) (fun _ _ _ h => h) (by rfl) hS (fun w2 hw2 => ?ry24) ?rr24
          case ry24 => ((try dsimp only at hw2); go_simp <;> with_reducible rfl)
          simp only [Act.put, List.setIfInBounds_toArray, List.set_cons_zero, List.set_cons_succ]
          refine rg_take 10 (v := ?rv25) rfl (by kernel_rfl) (by kernel_rfl) (by kernel_rfl) (fun _ _ _ h => h) (by rfl) hS (fun w2 hw2 => ?ry25) ?rr25
          case ry25 => ((try dsimp only at hw2); go_simp <;> with_reducible rfl)
          simp only [Act.put, List.setIfInBounds_toArray, List.set_cons_zero, List.set_cons_succ]
          refine rg_done (by kernel_rfl) ?_
          have H2 := Lib.hid hB
          clear hS hB
          go_wp2_with fail
          go_ret
          refine ⟨ret_str (bytes_inj' ?_), H2.out⟩
          rw [mkS_data, HTX.out, ByteArray.data_append, ByteArray.data_append, Array.toList_append, Array.toList_append, HJ1.out, HJ2.out]
          rw [List.drop_zero, List.take_zero, List.drop_of_length_le (Nat.le_of_eq (words6_len bs))]
        · have p4' : (8 = t) = False := eq_false fun h => ht8 h.symm
          have hS : Row wr.drew (w.heap.size + 1) 9 (sv (words6 bs)) := HRW.out
          have hB : Below w.heap.size w wr.drew := hh.out.2.2.drew
          refine rg_begin (fun w' => Row w' (w.heap.size + 1) 9 (sv (words6 bs))) 11 (by kernel_rfl) rfl ?_
          refine rg_take 0 (v := ?rv26) rfl (by kernel_rfl) (by kernel_rfl) (by kernel_rfl) (fun _ _ _ h => h) (by rfl) hS (fun w2 hw2 => ?ry26) ?rr26
          case ry26 => ((try dsimp only at hw2); go_simp <;> with_reducible rfl)
          simp only [Act.put, List.setIfInBounds_toArray, List.set_cons_zero, List.set_cons_succ]
          refine rg_take 1 (v := ?rv27) rfl (by kernel_rfl) (by kernel_rfl) (by kernel_rfl) (fun _ _ _ h => h) (by rfl) hS (fun w2 hw2 => ?ry27) ?rr27
          case ry27 => ((try dsimp only at hw2); go_simp <;> with_reducible rfl)
          simp only [Act.put, List.setIfInBounds_toArray, List.set_cons_zero, List.set_cons_succ]
          refine rg_take 5 (v := ?rv28) rfl (by kernel_rfl) (by kernel_rfl) (by kernel_rfl) (fun _ _ _ h => h) (by rfl) hS (fun w2 hw2 => ?ry28) ?rr28
          case ry28 => ((try dsimp only at hw2); go_simp <;> with_reducible rfl)
          simp only [Act.put, List.setIfInBounds_toArray, List.set_cons_zero, List.set_cons_succ]
          refine rg_take 6 (v := ?rv29) rfl (by kernel_rfl) (by kernel_rfl) (by kernel_rfl) (fun _ _ _ h => h) (by rfl) hS (fun w2 hw2 => ?ry29) ?rr29
          case ry29 => ((try dsimp only at hw2); go_simp <;> with_reducible rfl)
          simp only [Act.put, List.setIfInBounds_toArray, List.set_cons_zero, List.set_cons_succ]
          refine rg_take 2 (v := ?rv30) rfl (by kernel_rfl) (by kernel_rfl) (by kernel_rfl) (fun _ _ _ h => h) (by rfl) hS (fun w2 hw2 => ?ry30) ?rr30
          case ry30 => ((try dsimp only at hw2); go_simp <;> with_reducible rfl)
          simp only [Act.put, List.setIfInBounds_toArray, List.set_cons_zero, List.set_cons_succ]
          refine rg_take 7 (v := ?rv31) rfl (by kernel_rfl) (by kernel_rfl) (by kernel_rfl) (fun _ _ _ h => h) (by rfl) hS (fun w2 hw2 => ?ry31) ?rr31
          case ry31 => ((try dsimp only at hw2); go_simp <;> with_reducible rfl)
          simp only [Act.put, List.setIfInBounds_toArray, List.set_cons_zero, List.set_cons_succ]
          refine rg_step 3 rfl (by kernel_rfl) (by rfl) (fun K hK => ?_)
          go_simp
          refine (join_J bs hS 0 f 8 (by omega) (by omega)).mono ?_
          rintro e w1 ⟨J1, rfl, hj1, hz1, b1⟩
          replace hS := hS.later b1 (Nat.le_refl _)
          replace hB := hB.trans (b1.mono hB.size)
          have n1 : (9223372036854775807 < J1.size + 2) = False := eq_false (by omega)
          have HJ1 := Lib.hid hj1
          clear b1 hj1
          refine hK.out _ _ hS ?_
          clear hK K
          try simp only [Act.put, List.setIfInBounds_toArray, List.set_cons_zero, List.set_cons_succ]
          refine rg_take 4 (v := ?rv32) rfl (by kernel_rfl) (by kernel_rfl) (by kernel_rfl) (fun _ _ _ h => h) (by rfl) hS (fun w2 hw2 => ?ry32) ?rr32
          case ry32 => ((try dsimp only at hw2); go_simp <;> with_reducible rfl)
          simp only [Act.put, List.setIfInBounds_toArray, List.set_cons_zero, List.set_cons_succ]
          refine rg_step 8 rfl (by kernel_rfl) (by rfl) (fun K hK => ?_)
          go_simp
          refine (join_J bs hS t (8 - t) (8 - t) (by omega) (by omega)).mono ?_
          rintro e w2 ⟨J2, rfl, hj2, hz2, b2⟩
          replace hS := hS.later b2 (Nat.le_refl _)
          replace hB := hB.trans (b2.mono hB.size)
          have n2 : (9223372036854775807 < J1.size + 2 + J2.size) = False := eq_false (by omega)
          have HJ2 := Lib.hid hj2
          clear b2 hj2
          refine hK.out _ _ hS ?_
          clear hK K
          try simp only [Act.put, List.setIfInBounds_toArray, List.set_cons_zero, List.set_cons_succ]
          refine rg_take 9 (v := ?rv33) rfl (by kernel_rfl) (by kernel_rfl) (by kernel_rfl) (fun _ _ _ h => h) (by rfl) hS (fun w2 hw2 => ?ry33) ?rr33
          case ry33 => ((try dsimp only at hw2); go_simp <;> with_reducible rfl)
          simp only [Act.put, List.setIfInBounds_toArray, List.set_cons_zero, List.set_cons_succ]
          refine rg_take 10 (v := ?rv34) rfl (by kernel_rfl) (by kernel_rfl) (by kernel_rfl) (fun _ _ _ h => h) (by rfl) hS (fun w2 hw2 => ?ry34) ?rr34
          case ry34 => ((try dsimp only at hw2); go_simp <;> with_reducible rfl)
          simp only [Act.put, List.setIfInBounds_toArray, List.set_cons_zero, List.set_cons_succ]
          refine rg_done (by kernel_rfl) ?_
          have H2 := Lib.hid hB
          clear hS hB
          go_wp2_with fail
          go_ret
          refine ⟨ret_str (bytes_inj' ?_), H2.out⟩
          rw [mkS_data, HTX.out, ByteArray.data_append, ByteArray.data_append, Array.toList_append, Array.toList_append, HJ1.out, HJ2.out]
          rw [List.drop_zero, show List.take (8 - t) ((words6 bs).drop t) = (words6 bs).drop t from List.take_of_length_le (by rw [List.length_drop, words6_len]; exact Nat.le_refl _)]
end Go.Proofs.YtoagfmonfgagbaaGreatDoor

namespace Go.Proofs.YtoagfmonfgagbaaGreatDoor
open Go.RowKit
set_option maxRecDepth 100000
def textv (v6 : Bool) (bs : List UInt8) : List UInt8 := if rightv v6 bs then (if v6 then text6v bs else text4v bs) else []
theorem wpList_load_arr {ops : Array Oper} {rest : List Oper} {o : Oper} {a : Act} {w : World} {Q : Exit → Act → World → Prop} (hgd : o.guard = none) (x : Operand) (ho : o.op = .load 49 x) {g : Nat} {bs : List UInt8} (hl : bs.length = 16)
    (hx : a.eval x = .pointer (some ⟨g, 1, none⟩)) (hr : w.rangeAt g 1 (bv bs).toArray.toList) (h : wpList Tryz.prog ops Q rest (a.put o.dst (.agg (bv bs).toArray)) w) : wpList Tryz.prog ops Q (o :: rest) a w :=
  wpList_load_mid hgd 49 x ho g 1 hx (bv bs) _ hr Tryz.underlying49 rfl (arr_size hl) h
set_option maxHeartbeats 1000000 in
theorem Text_any (v6 : Bool) (bs : List UInt8) (hl : bs.length = 16) {w : World} (hE : Env w) : Calls Tryz.prog 46 #[.agg (adv v6 bs)] w fun e w' => e = .returned (.string (mkS (textv v6 bs))) ∧ Below w.heap.size w w' := by
  have A1 := AdBox.new w v6 hl
  have B1 : Below w.heap.size w (w.alloc (.cells (adv v6 bs) 51)) := (Below.refl _ _).alloc (Nat.le_refl _) _
  have HE := Lib.hid hE
  have H1 := Lib.hid (And.intro A1 B1)
  clear A1 B1 hE
  have h4 : ∀ w1, Below w.heap.size w w1 → Hid (Calls Tryz.prog 72 #[.agg (bv bs).toArray] w1 fun e w' => e = .returned (.string (mkS (text4v bs))) ∧ Below w1.heap.size w1 w') := fun w1 hb => text4_any bs hl (HE.out.later hb (Nat.le_refl _))
  have h6 : ∀ w1, Below w.heap.size w w1 → Hid (Calls Tryz.prog 71 #[.agg (bv bs).toArray] w1 fun e w' => e = .returned (.string (mkS (text6v bs))) ∧ Below w1.heap.size w1 w') := fun w1 hb => text6_any bs hl (HE.out.later hb (Nat.le_refl _))
  have H4 := Lib.hid h4
  have H6 := Lib.hid h6
  clear h4 h6
  have hres : textv v6 bs = if rightv v6 bs then (if v6 then text6v bs else text4v bs) else [] := rfl
  have hR := Right_any v6 bs hl
  cases hr : rightv v6 bs with
  | false =>
    rw [hr] at hres hR
    have HR := Lib.hid hR
    have HT := Lib.hid hres
    clear hR hres hr
    go_enter Tryz.func46, Tryz.ntmps46
    go_wp2_with (refine wpList_load_ad rfl (.tmp 1) rfl rfl H1.out.1 ?_)
    refine (HR.out _).mono ?_
    rintro e w1 ⟨rfl, b1⟩
    have H2 := Lib.hid (H1.out.2.trans (b1.mono H1.out.2.size))
    clear b1
    go_wp2_with fail
    go_ret
    exact ⟨by rw [HT.out]; rfl, H2.out⟩
  | true =>
    rw [hr] at hres hR
    have HR := Lib.hid hR
    have HT := Lib.hid hres
    clear hR hres hr
    cases v6
    · go_enter Tryz.func46, Tryz.ntmps46
      go_wp2_with (refine wpList_load_ad rfl (.tmp 1) rfl rfl H1.out.1 ?_)
      refine (HR.out _).mono ?_
      rintro e w1 ⟨rfl, b1⟩
      have hc := (H1.out.1.later b1 (Nat.le_refl _)).v6_cell
      have H2 := Lib.hid (And.intro (H1.out.2.trans (b1.mono H1.out.2.size)) (H1.out.1.later b1 (Nat.le_refl _)))
      clear b1
      go_wp2_with (refine wpList_load_arr rfl (.tmp 13) rfl hl rfl H2.out.2.range1 ?_)
      refine (H4.out w1 H2.out.1).out.mono ?_
      rintro e w2 ⟨rfl, b2⟩
      have H3 := Lib.hid (H2.out.1.trans (b2.mono H2.out.1.size))
      clear b2
      go_wp2_with fail
      go_ret
      exact ⟨by rw [HT.out]; rfl, H3.out⟩
    · go_enter Tryz.func46, Tryz.ntmps46
      go_wp2_with (refine wpList_load_ad rfl (.tmp 1) rfl rfl H1.out.1 ?_)
      refine (HR.out _).mono ?_
      rintro e w1 ⟨rfl, b1⟩
      have hc := (H1.out.1.later b1 (Nat.le_refl _)).v6_cell
      have H2 := Lib.hid (And.intro (H1.out.2.trans (b1.mono H1.out.2.size)) (H1.out.1.later b1 (Nat.le_refl _)))
      clear b1
      go_wp2_with (refine wpList_load_arr rfl (.tmp 10) rfl hl rfl H2.out.2.range1 ?_)
      refine (H6.out w1 H2.out.1).out.mono ?_
      rintro e w2 ⟨rfl, b2⟩
      have H3 := Lib.hid (H2.out.1.trans (b2.mono H2.out.1.size))
      clear b2
      go_wp2_with fail
      go_ret
      exact ⟨by rw [HT.out]; rfl, H3.out⟩
end Go.Proofs.YtoagfmonfgagbaaGreatDoor

namespace Go.Proofs.YtoagfmonfgagbaaGreatDoor
open Go.RowKit
set_option maxRecDepth 100000
def dec3 (n : Nat) : List UInt8 := if n < 10 then [UInt8.ofNat (48 + n)] else if n < 100 then [UInt8.ofNat (48 + n / 10), UInt8.ofNat (48 + n % 10)] else [UInt8.ofNat (48 + n / 100), UInt8.ofNat (48 + n / 10 % 10), UInt8.ofNat (48 + n % 10)]
theorem dec3_eq {n : Nat} (h : n < 1000) : Lib.decDigits n = dec3 n := by
  have hd : ∀ m, Lib.decDigits m = if m < 10 then [UInt8.ofNat (48 + m)] else Lib.decDigits (m / 10) ++ [UInt8.ofNat (48 + m % 10)] := fun m => by
    rw [Lib.decDigits]; split <;> rfl
  unfold dec3
  rw [hd n]
  split
  · rfl
  · rw [hd (n / 10)]
    by_cases h2 : n < 100
    · rw [if_pos (by omega), if_pos h2]; rfl
    · rw [if_neg (by omega), if_neg h2, hd (n / 10 / 10), if_pos (by omega), Nat.div_div_eq_div_mul]; rfl
def hex4 (v : Nat) : List UInt8 := if v < 16 then [hd v] else if v < 256 then [hd (v / 16), hd (v % 16)] else if v < 4096 then [hd (v / 256), hd (v / 16 % 16), hd (v % 16)] else [hd (v / 4096), hd (v / 256 % 16), hd (v / 16 % 16), hd (v % 16)]
theorem hex4_eq {v : Nat} (h : v < 65536) : hexL v = hex4 v := by
  have hh : ∀ m, hexL m = if m < 16 then [hd m] else hexL (m / 16) ++ [hd (m % 16)] := fun m => by
    rw [hexL]; split <;> rfl
  unfold hex4
  rw [hh v]
  split
  · rfl
  · rw [hh (v / 16)]
    by_cases h2 : v < 256
    · rw [if_pos (by omega), if_pos h2]; rfl
    · rw [if_neg (by omega), if_neg h2, hh (v / 16 / 16)]
      by_cases h3 : v < 4096
      · rw [if_pos (by omega), if_pos h3, Nat.div_div_eq_div_mul]; rfl
      · rw [if_neg (by omega), if_neg h3, hh (v / 16 / 16 / 16), if_pos (by omega)]; simp [Nat.div_div_eq_div_mul]
def w6 (bs : List UInt8) : List (List UInt8) := (List.range 8).map fun i => hex4 (grp bs i)
def z6 (bs : List UInt8) : List Bool := (w6 bs).map fun l => decide (l = [48])
def text6f (bs : List UInt8) : List UInt8 :=
  if (longestv (z6 bs)).1 = (longestv (z6 bs)).2 then Lib.join (w6 bs) [58]
  else Lib.join ((w6 bs).take (longestv (z6 bs)).1) [58] ++ [58, 58] ++ Lib.join ((w6 bs).drop (longestv (z6 bs)).2) [58]
def textf (v6 : Bool) (bs : List UInt8) : List UInt8 := if rightv v6 bs then (if v6 then text6f bs else Lib.join ((bs.take 4).map fun b => dec3 b.toNat) [46]) else []
theorem words6_f (bs : List UInt8) : (words6 bs).map (fun x => x.data.toList) = w6 bs := by
  unfold words6 w6
  rw [List.map_map]
  apply List.map_congr_left
  intro i _
  show (mkS (hexL (grp bs i))).data.toList = _
  rw [mkS_data, hex4_eq (grp_lt bs i)]
theorem words6_z (bs : List UInt8) : (words6 bs).map isZ = z6 bs := by
  unfold z6
  rw [← words6_f, List.map_map]
  apply List.map_congr_left
  intro x _
  show decide (x = mkS [48]) = decide (x.data.toList = [48])
  rw [decide_eq_decide]
  exact ⟨fun h => by rw [h, mkS_data], fun h => bytes_inj' (h.trans (mkS_data [48]).symm)⟩
theorem textv_f (v6 : Bool) (bs : List UInt8) : textv v6 bs = textf v6 bs := by
  unfold textv textf
  have h6 : text6v bs = text6f bs := by
    unfold text6v text6f
    rw [words6_z, List.map_take, List.map_drop, words6_f]
  have h4 : text4v bs = Lib.join ((bs.take 4).map fun b => dec3 b.toNat) [46] := by
    unfold text4v
    congr 1
    apply List.map_congr_left
    intro b _
    have : b.toNat < 256 := b.toNat_lt
    exact dec3_eq (by omega)
  rw [h6, h4]
theorem num_mod4 (a : Int) (m : Int) (h0 : 0 < m) (h1 : m ≤ 1000000) : 0 ≤ wrap64 ((IntKind.u64.wrap a).tmod m) ∧ wrap64 ((IntKind.u64.wrap a).tmod m) < m := by
  have h2 : 0 ≤ IntKind.u64.wrap a := by rw [IntKind.wrap_u64]; omega
  rw [Int.tmod_eq_emod_of_nonneg h2]
  have h3 := Int.emod_nonneg (IntKind.u64.wrap a) (show m ≠ 0 by omega)
  have h4 := Int.emod_lt_of_pos (IntKind.u64.wrap a) h0
  generalize IntKind.u64.wrap a % m = x at h3 h4
  unfold wrap64
  omega
end Go.Proofs.YtoagfmonfgagbaaGreatDoor

namespace Go.Proofs.YtoagfmonfgagbaaGreatDoor
open Go.RowKit
set_option maxRecDepth 100000
theorem andnot_all : ∀ x : Fin 256, ∀ q : Fin 8, bits .andNot .u8 (x.val : Int) ((2 ^ (7 - q.val) : Nat) : Int) = (((UInt8.ofNat x.val &&& ~~~ (UInt8.ofNat (2 ^ (7 - q.val)))).toNat : Nat) : Int) := by decide +kernel
theorem andnot_u8 (x : UInt8) (q : Nat) (hq : q < 8) (c : Int) (hc : c = ((2 ^ (7 - q) : Nat) : Int)) : bits .andNot .u8 (x.toNat : Int) c = (((x &&& ~~~ (UInt8.ofNat (2 ^ (7 - q)))).toNat : Nat) : Int) := by
  subst hc
  have h := andnot_all ⟨x.toNat, x.toNat_lt⟩ ⟨q, hq⟩
  simp only [UInt8.ofNat_toNat] at h
  exact h
theorem clr_byte {X : List UInt8} {m j b q : Nat} {x : UInt8} (hx : (clrv X m j)[b]? = some x) (hb8 : j / 8 = b) (hq : j % 8 = q) (hmj : m ≤ j) : (clrv X m j).set b (x &&& ~~~ (UInt8.ofNat (2 ^ (7 - q)))) = clrv X m (j + 1) := by
  have hj : j = 8 * b + q := by omega
  subst hj
  exact clrv_step hmj (by omega) hx
theorem AdBox.clr {w : World} {g : Nat} {v6 : Bool} {X : List UInt8} {m j b : Nat} {x : UInt8} (h : AdBox w g v6 (clrv X m j)) (hx : (clrv X m j)[b]? = some x) (hb8 : j / 8 = b) (hmj : m ≤ j) (q : Nat) (hq : j % 8 = q) (c : Int) (hc : c = ((2 ^ (7 - q) : Nat) : Int)) :
    AdBox (w.setCell ⟨g, 1 + b, none⟩ (.int .u8 (bits .andNot .u8 (x.toNat : Int) c))) g v6 (clrv X m (j + 1)) := by
  rw [andnot_u8 x q (by omega) c hc, ← clr_byte hx hb8 hq hmj]
  exact h.put b _
theorem PxBox.far {w : World} {g : Nat} {v6 : Bool} {bs : List UInt8} {n : Int} (h : PxBox w g v6 bs n) {p : Addr} (hp : g ≠ p.block) (v : Value) : PxBox (w.setCell p v) g v6 bs n := ⟨(Below.heap_setCell w p v g hp).trans h.1, h.2⟩
set_option maxHeartbeats 4000000 in
theorem play_net (v6 : Bool) (bs : List UInt8) (hl : bs.length = 16) (n : Int) (w : World) : Calls Tryz.prog 22 #[.agg (pxv v6 bs n)] w fun e w' =>
    ∃ m : Nat, m ≤ wid v6 ∧ e = .returned (.agg (pxv v6 (firstv bs m) m)) ∧ Below w.heap.size w w' := by
  have P1 := Lib.hid (PxBox.new w v6 n hl)
  have B1 := Lib.hid ((Below.refl w.heap.size w).alloc (Nat.le_refl _) (.cells (pxv v6 bs n) 53))
  go_enter Tryz.func22, Tryz.ntmps22
  go_wp2_with (first
    | (refine wpList_alloc_px rfl rfl ?_; intro w2 a2 b2 z2; rw [World.size_alloc] at a2; have H2 := Lib.hid (And.intro (P1.out.later b2 (Nat.le_refl _)) (And.intro a2 (B1.out.trans (b2.mono B1.out.size)))); have c0 := H2.out.1.v6_cell; clear a2 b2 z2)
    | (refine wpList_load_row_w rfl 51 (.tmp 6) rfl w.heap.size 0 rfl (adv v6 bs) _ H2.out.1.range0 Tryz.underlying51 rfl (ad_size v6 hl) ?_))
  refine (play_addr v6 v6 bs hl _).mono ?_
  rw [norm_first v6 hl]
  rintro e w3 ⟨rfl, b3⟩
  have hwl := wid_le v6
  have hfl : (firstv bs (wid v6)).length = 16 := by rw [firstv_len, hl]
  have hlt2 := H2.out.2.1.lt
  have H3 := Lib.hid (And.intro (H2.out.1.later b3 (Nat.le_refl _)) (And.intro (H2.out.2.1.later b3 (Nat.le_refl _)) (H2.out.2.2.trans (b3.mono H2.out.2.2.size))))
  clear b3 c0 hlt2
  go_wp2_with (first
    | (refine wpList_alloc_ad rfl rfl ?_; intro w4 a4 b4 z4; have H4 := Lib.hid (And.intro (H3.out.1.later b4 (Nat.le_refl _)) (And.intro (H3.out.2.1.later b4 (Nat.le_refl _)) (And.intro a4 (And.intro (H3.out.2.2.trans (b4.mono H3.out.2.2.size)) (And.intro H3.out.1.lt H3.out.2.1.lt))))); clear a4 b4 z4)
    | (refine wpList_store_ad rfl (.tmp 3) (.tmp 11) rfl v6 (firstv bs (wid v6)) rfl rfl hfl H4.out.2.2.1 ?_; intro w5 a5 o5 z5 b5; have H5 := Lib.hid (And.intro (H4.out.1.same (o5 _ (Nat.ne_of_lt H4.out.2.2.2.2.1))) (And.intro (H4.out.2.1.same (o5 _ (Nat.ne_of_lt H4.out.2.2.2.2.2))) (And.intro a5 (And.intro (b5 w.heap.size w H3.out.2.2.size H4.out.2.2.2.1) H4.out.2.2.2.2)))); clear a5 o5 z5 b5))
  simp only [Act.put, List.setIfInBounds_toArray, List.set_cons_zero, List.set_cons_succ]
  obtain ⟨W, hW⟩ : ∃ W, wid v6 = W := ⟨_, rfl⟩
  obtain ⟨X, hX⟩ : ∃ X, firstv bs W = X := ⟨_, rfl⟩
  rw [hW] at H5 hwl hfl ⊢
  rw [hX] at H5 hfl ⊢
  have hcN : ∀ w', Below w5.heap.size w5 w' → w'.cell? ⟨w.heap.size, 17, none⟩ = some (.int .i64 n) := fun w' h => (H5.out.1.later h (Nat.le_refl _)).bits_cell
  obtain ⟨q1, q2⟩ := num_mod4 n ((W : Int) + 1) (by omega) (by omega)
  have i1 : IntKind.i64.wrap ((W : Int) + 1) = (W : Int) + 1 := IntWalk.i64_in _ (by omega)
  have i2 : IntKind.u64.wrap ((W : Int) + 1) = (W : Int) + 1 := by show ((W : Int) + 1) % 18446744073709551616 = _; omega
  have i3 : ¬ (W : Int) + 1 = 0 := by omega
  have hS : Below w5.heap.size w5 w5.drew := (Below.refl _ _).drew
  refine rg_begin (fun w' => Below w5.heap.size w5 w') 10 (by kernel_rfl) rfl ?_
  refine rg_take 0 (v := ?rv1) rfl (by kernel_rfl) (by kernel_rfl) (by kernel_rfl) (fun _ _ _ h => h) (by rfl) hS (fun w2 hw2 => ?ry1) ?rr1
  case ry1 => ((try dsimp only at hw2); go_simp <;> with_reducible rfl)
  simp only [Act.put, List.setIfInBounds_toArray, List.set_cons_zero, List.set_cons_succ]
  refine rg_load 3 rfl (by kernel_rfl) (by kernel_rfl) (by kernel_rfl) (w3.heap.size) 0 (adv v6 X) (fun _ _ _ h => h) (by rfl) 51 (.tmp 3) rfl rfl hS (fun w2 h2 => (AdBox.later H5.out.2.2.1 h2 (Nat.le_refl _)).range) Tryz.underlying51 rfl (ad_size v6 H5.out.2.2.1.2) ?_
  simp only [Act.put, List.setIfInBounds_toArray, List.set_cons_zero, List.set_cons_succ]
  refine rg_take 1 (v := ?rv2) rfl (by kernel_rfl) (by kernel_rfl) (by kernel_rfl) (fun _ _ _ h => h) (by rfl) hS (fun w2 hw2 => ?ry2) ?rr2
  case ry2 => ((try dsimp only at hw2); go_simp <;> with_reducible rfl)
  simp only [Act.put, List.setIfInBounds_toArray, List.set_cons_zero, List.set_cons_succ]
  refine rg_take 2 (v := ?rv3) rfl (by kernel_rfl) (by kernel_rfl) (by kernel_rfl) (fun _ _ _ h => h) (by rfl) hS (fun w2 hw2 => ?ry3) ?rr3
  case ry3 => ((try dsimp only at hw2); go_simp <;> with_reducible rfl)
  simp only [Act.put, List.setIfInBounds_toArray, List.set_cons_zero, List.set_cons_succ]
  refine rg_step 4 rfl (by kernel_rfl) (by rfl) (fun K hK => ?_)
  go_simp
  refine (size_any v6 X hfl _).mono ?_
  rw [hW]
  rintro e w6 ⟨rfl, b6⟩
  replace hS := hS.trans (b6.mono hS.size)
  clear b6
  refine hK.out _ _ hS ?_
  clear hK K
  try simp only [Act.put, List.setIfInBounds_toArray, List.set_cons_zero, List.set_cons_succ]
  refine rg_take 5 (v := ?rv4) rfl (by kernel_rfl) (by kernel_rfl) (by kernel_rfl) (fun _ _ _ h => h) (by rfl) hS (fun w2 hw2 => ?ry4) ?rr4
  case ry4 => ((try dsimp only at hw2); go_simp <;> with_reducible rfl)
  simp only [Act.put, List.setIfInBounds_toArray, List.set_cons_zero, List.set_cons_succ]
  refine rg_take 6 (v := ?rv5) rfl (by kernel_rfl) (by kernel_rfl) (by kernel_rfl) (fun _ _ _ h => h) (by rfl) hS (fun w2 hw2 => ?ry5) ?rr5
  case ry5 => ((try dsimp only at hw2); go_simp <;> with_reducible rfl)
  simp only [Act.put, List.setIfInBounds_toArray, List.set_cons_zero, List.set_cons_succ]
  refine rg_take 7 (v := ?rv6) rfl (by kernel_rfl) (by kernel_rfl) (by kernel_rfl) (fun _ _ _ h => h) (by rfl) hS (fun w2 hw2 => ?ry6) ?rr6
  case ry6 => ((try dsimp only at hw2); go_simp <;> with_reducible rfl)
  simp only [Act.put, List.setIfInBounds_toArray, List.set_cons_zero, List.set_cons_succ]
  refine rg_take 8 (v := ?rv7) rfl (by kernel_rfl) (by kernel_rfl) (by kernel_rfl) (fun _ _ _ h => h) (by rfl) hS (fun w2 hw2 => ?ry7) ?rr7
  case ry7 => ((try dsimp only at hw2); go_simp <;> with_reducible rfl)
  simp only [Act.put, List.setIfInBounds_toArray, List.set_cons_zero, List.set_cons_succ]
  refine rg_take 9 (v := ?rv8) rfl (by kernel_rfl) (by kernel_rfl) (by kernel_rfl) (fun _ _ _ h => h) (by rfl) hS (fun w2 hw2 => ?ry8) ?rr8
  case ry8 => ((try dsimp only at hw2); go_simp <;> with_reducible rfl)
  simp only [Act.put, List.setIfInBounds_toArray, List.set_cons_zero, List.set_cons_succ]
  refine rg_done (by kernel_rfl) ?_
  have H6 := Lib.hid (And.intro (H5.out.2.1.later hS (Nat.le_refl _)) (And.intro (H5.out.2.2.1.later hS (Nat.le_refl _)) (H5.out.2.2.2.1.trans (hS.mono H5.out.2.2.2.1.size))))
  clear hS hcN i1 i2 i3
  rw [show IntKind.i64.wrap ((IntKind.u64.wrap n).tmod ((W : Int) + 1)) = wrap64 ((IntKind.u64.wrap n).tmod ((W : Int) + 1)) from (IntKind.wrap_i64 _).trans (by unfold wrap64; rfl)]
  generalize wrap64 ((IntKind.u64.wrap n).tmod ((W : Int) + 1)) = y at q1 q2 ⊢
  obtain ⟨m, rfl⟩ := Int.eq_ofNat_of_zero_le q1
  have hm : m ≤ W := by omega
  have hfix : firstv X W = X := by rw [← hX, first_fix (Nat.le_refl _)]
  have hres : firstv X m = firstv bs m := by rw [← hX, first_cut hm]
  have HX := Lib.hid (And.intro hfix (And.intro hres (And.intro hW H5.out.2.2.2.2)))
  have hg1 : w.heap.size + 1 ≠ w3.heap.size := by have := H5.out.2.2.2.2.2; omega
  have hg2 : w.heap.size ≤ w3.heap.size := H3.out.2.2.size
  clear q1 q2 hfix hres hX hW
  go_wp2_with fail
  go_loopw [5] (fun i wr => ∃ j : Nat, m ≤ j ∧ j ≤ W ∧ i = .int .i64 j ∧ PxBox wr (w.heap.size + 1) false (List.replicate 16 0) 0 ∧ AdBox wr w3.heap.size v6 (clrv X m j) ∧ Below w.heap.size w wr) (fun i _ => W - (intOf i).toNat)
  case atStart => exact ⟨m, Nat.le_refl _, hm, rfl, H6.out.1, by rw [clrv_start]; exact H6.out.2.1, H6.out.2.2⟩
  case round =>
    obtain ⟨j, hmj, hjW, rfl, hp, ha, hb⟩ := hrel
    have hcl : (clrv X m j).length = 16 := by rw [clrv_len, hfl]
    have hsz := fun w => size_any v6 (clrv X m j) hcl w
    rw [HX.out.2.2.1] at hsz
    have HJ := Lib.hid (And.intro hp (And.intro ha (And.intro hb hsz)))
    clear hp ha hb hsz
    by_cases hlt : j < W
    · have hlt' : (j : Int) < (W : Int) := by omega
      obtain ⟨b, hb8⟩ : ∃ b, j / 8 = b := ⟨_, rfl⟩
      have hb16 : b < 16 := by omega
      have i1 : (j : Int) / 8 = (b : Int) := by omega
      go_wp2_with (refine wpList_load_ad rfl (.tmp 3) rfl rfl HJ.out.2.1 ?_)
      refine (HJ.out.2.2.2 _).mono ?_
      rintro e w7 ⟨rfl, b7⟩
      have H7 := Lib.hid (And.intro (HJ.out.1.later b7 (Nat.le_refl _)) (And.intro (HJ.out.2.1.later b7 (Nat.le_refl _)) (HJ.out.2.2.1.trans (b7.mono HJ.out.2.2.1.size))))
      clear b7
      obtain ⟨x, hx, hc⟩ := H7.out.2.1.there b hb16
      have hf := H7.out.2.1.frozen (1 + b)
      rcases (show j % 8 = 0 ∨ j % 8 = 1 ∨ j % 8 = 2 ∨ j % 8 = 3 ∨ j % 8 = 4 ∨ j % 8 = 5 ∨ j % 8 = 6 ∨ j % 8 = 7 by omega) with hq | hq | hq | hq | hq | hq | hq | hq
      · have i2 : (j : Int) % 8 = 0 := by omega
        have H8 := Lib.hid (And.intro (H7.out.1.far (p := ⟨w3.heap.size, 1 + b, none⟩) hg1 (.int .u8 (bits .andNot .u8 (x.toNat : Int) 128))) (And.intro (H7.out.2.1.clr hx hb8 hmj 0 hq 128 rfl) (H7.out.2.2.setCell (p := ⟨w3.heap.size, 1 + b, none⟩) hg2 (.int .u8 (bits .andNot .u8 (x.toNat : Int) 128)))))
        go_wp2_with fail
        exact ⟨⟨j + 1, by omega, by omega, by go_num, H8.out.1, H8.out.2.1, H8.out.2.2⟩, by simp [intOf]; omega⟩
      · have i2 : (j : Int) % 8 = 1 := by omega
        have H8 := Lib.hid (And.intro (H7.out.1.far (p := ⟨w3.heap.size, 1 + b, none⟩) hg1 (.int .u8 (bits .andNot .u8 (x.toNat : Int) 64))) (And.intro (H7.out.2.1.clr hx hb8 hmj 1 hq 64 rfl) (H7.out.2.2.setCell (p := ⟨w3.heap.size, 1 + b, none⟩) hg2 (.int .u8 (bits .andNot .u8 (x.toNat : Int) 64)))))
        go_wp2_with fail
        exact ⟨⟨j + 1, by omega, by omega, by go_num, H8.out.1, H8.out.2.1, H8.out.2.2⟩, by simp [intOf]; omega⟩
      · have i2 : (j : Int) % 8 = 2 := by omega
        have H8 := Lib.hid (And.intro (H7.out.1.far (p := ⟨w3.heap.size, 1 + b, none⟩) hg1 (.int .u8 (bits .andNot .u8 (x.toNat : Int) 32))) (And.intro (H7.out.2.1.clr hx hb8 hmj 2 hq 32 rfl) (H7.out.2.2.setCell (p := ⟨w3.heap.size, 1 + b, none⟩) hg2 (.int .u8 (bits .andNot .u8 (x.toNat : Int) 32)))))
        go_wp2_with fail
        exact ⟨⟨j + 1, by omega, by omega, by go_num, H8.out.1, H8.out.2.1, H8.out.2.2⟩, by simp [intOf]; omega⟩
      · have i2 : (j : Int) % 8 = 3 := by omega
        have H8 := Lib.hid (And.intro (H7.out.1.far (p := ⟨w3.heap.size, 1 + b, none⟩) hg1 (.int .u8 (bits .andNot .u8 (x.toNat : Int) 16))) (And.intro (H7.out.2.1.clr hx hb8 hmj 3 hq 16 rfl) (H7.out.2.2.setCell (p := ⟨w3.heap.size, 1 + b, none⟩) hg2 (.int .u8 (bits .andNot .u8 (x.toNat : Int) 16)))))
        go_wp2_with fail
        exact ⟨⟨j + 1, by omega, by omega, by go_num, H8.out.1, H8.out.2.1, H8.out.2.2⟩, by simp [intOf]; omega⟩
      · have i2 : (j : Int) % 8 = 4 := by omega
        have H8 := Lib.hid (And.intro (H7.out.1.far (p := ⟨w3.heap.size, 1 + b, none⟩) hg1 (.int .u8 (bits .andNot .u8 (x.toNat : Int) 8))) (And.intro (H7.out.2.1.clr hx hb8 hmj 4 hq 8 rfl) (H7.out.2.2.setCell (p := ⟨w3.heap.size, 1 + b, none⟩) hg2 (.int .u8 (bits .andNot .u8 (x.toNat : Int) 8)))))
        go_wp2_with fail
        exact ⟨⟨j + 1, by omega, by omega, by go_num, H8.out.1, H8.out.2.1, H8.out.2.2⟩, by simp [intOf]; omega⟩
      · have i2 : (j : Int) % 8 = 5 := by omega
        have H8 := Lib.hid (And.intro (H7.out.1.far (p := ⟨w3.heap.size, 1 + b, none⟩) hg1 (.int .u8 (bits .andNot .u8 (x.toNat : Int) 4))) (And.intro (H7.out.2.1.clr hx hb8 hmj 5 hq 4 rfl) (H7.out.2.2.setCell (p := ⟨w3.heap.size, 1 + b, none⟩) hg2 (.int .u8 (bits .andNot .u8 (x.toNat : Int) 4)))))
        go_wp2_with fail
        exact ⟨⟨j + 1, by omega, by omega, by go_num, H8.out.1, H8.out.2.1, H8.out.2.2⟩, by simp [intOf]; omega⟩
      · have i2 : (j : Int) % 8 = 6 := by omega
        have H8 := Lib.hid (And.intro (H7.out.1.far (p := ⟨w3.heap.size, 1 + b, none⟩) hg1 (.int .u8 (bits .andNot .u8 (x.toNat : Int) 2))) (And.intro (H7.out.2.1.clr hx hb8 hmj 6 hq 2 rfl) (H7.out.2.2.setCell (p := ⟨w3.heap.size, 1 + b, none⟩) hg2 (.int .u8 (bits .andNot .u8 (x.toNat : Int) 2)))))
        go_wp2_with fail
        exact ⟨⟨j + 1, by omega, by omega, by go_num, H8.out.1, H8.out.2.1, H8.out.2.2⟩, by simp [intOf]; omega⟩
      · have i2 : (j : Int) % 8 = 7 := by omega
        have H8 := Lib.hid (And.intro (H7.out.1.far (p := ⟨w3.heap.size, 1 + b, none⟩) hg1 (.int .u8 (bits .andNot .u8 (x.toNat : Int) 1))) (And.intro (H7.out.2.1.clr hx hb8 hmj 7 hq 1 rfl) (H7.out.2.2.setCell (p := ⟨w3.heap.size, 1 + b, none⟩) hg2 (.int .u8 (bits .andNot .u8 (x.toNat : Int) 1)))))
        go_wp2_with fail
        exact ⟨⟨j + 1, by omega, by omega, by go_num, H8.out.1, H8.out.2.1, H8.out.2.2⟩, by simp [intOf]; omega⟩
    · obtain rfl : j = W := by omega
      go_wp2_with (refine wpList_load_ad rfl (.tmp 3) rfl rfl HJ.out.2.1 ?_)
      refine (HJ.out.2.2.2 _).mono ?_
      rintro e w7 ⟨rfl, b7⟩
      have ha7 := HJ.out.2.1.later b7 (Nat.le_refl _)
      rw [clrv_end HX.out.1 hm, HX.out.2.1] at ha7
      have hfl2 : (firstv bs m).length = 16 := by rw [firstv_len, hl]
      have H7 := Lib.hid (And.intro (HJ.out.1.later b7 (Nat.le_refl _)) (And.intro ha7 (HJ.out.2.2.1.trans (b7.mono HJ.out.2.2.1.size))))
      have hsz := adv_size v6 hfl2
      have hsz2 := pxv_size v6 0 hfl2
      have hfo := fold_px v6 hfl2
      have hse := set_px v6 hfl2 0
      clear b7 ha7
      go_wp2_with (first
        | (refine wpList_load_ad rfl (.tmp 3) rfl rfl H7.out.2.1 ?_)
        | (refine wpList_store_px rfl (.tmp 2) (.tmp 45) rfl v6 (firstv bs m) m rfl rfl hfl2 H7.out.1 ?_; intro w8 a8 o8 z8 b8; have H8 := Lib.hid (And.intro a8 (b8 w.heap.size w (Nat.le_succ _) H7.out.2.2)); clear a8 o8 z8 b8))
      exact bodyPost_ret (v := .agg (pxv v6 (firstv bs m) m)) (results_cell_row rfl _ _ (w.heap.size + 1) 53 _ (0, 0) _ rfl H8.out.1.1 Tryz.underlying53 rfl (px_size v6 m hfl2)) rfl ⟨m, by rw [HX.out.2.2.1]; exact hm, rfl, H8.out.2⟩
end Go.Proofs.YtoagfmonfgagbaaGreatDoor

namespace Go.Proofs.YtoagfmonfgagbaaGreatDoor
open Go.RowKit
set_option maxRecDepth 100000
theorem hex4_len (v : Nat) : (hex4 v).length ≤ 4 := by
  unfold hex4
  split
  · simp
  · split
    · simp
    · split <;> simp
theorem dec3_len (v : Nat) : (dec3 v).length ≤ 3 := by
  unfold dec3
  split
  · simp
  · split <;> simp
theorem textv_len (v6 : Bool) (bs : List UInt8) : (textv v6 bs).length ≤ 10000 := by
  rw [textv_f]
  have hw : (w6 bs).length = 8 := by simp [w6]
  have h6 : ∀ x ∈ w6 bs, x.length ≤ 100 := fun x hx => by
    unfold w6 at hx
    obtain ⟨i, _, rfl⟩ := List.mem_map.1 hx
    have := hex4_len (grp bs i)
    omega
  unfold textf
  split
  · split
    · unfold text6f
      split
      · have := join_len (sep := [58]) (by simp) (w6 bs) h6
        omega
      · have h1 := join_len (sep := [58]) (by simp) ((w6 bs).take (longestv (z6 bs)).1) (fun x hx => h6 x (List.mem_of_mem_take hx))
        have h2 := join_len (sep := [58]) (by simp) ((w6 bs).drop (longestv (z6 bs)).2) (fun x hx => h6 x (List.mem_of_mem_drop hx))
        have h3 : ((w6 bs).take (longestv (z6 bs)).1).length ≤ 8 := by rw [List.length_take, hw]; omega
        have h4 : ((w6 bs).drop (longestv (z6 bs)).2).length ≤ 8 := by rw [List.length_drop, hw]; omega
        rw [List.length_append, List.length_append]
        simp only [List.length_cons, List.length_nil]
        omega
    · have h1 := join_len (sep := [46]) (by simp) ((bs.take 4).map fun b => dec3 b.toNat) (fun x hx => by
        obtain ⟨i, _, rfl⟩ := List.mem_map.1 hx
        have := dec3_len i.toNat
        omega)
      have h2 : ((bs.take 4).map fun b => dec3 b.toNat).length ≤ 4 := by rw [List.length_map, List.length_take]; omega
      omega
  · simp
def textnetv (v6 : Bool) (bs : List UInt8) (n : Int) : List UInt8 := if rightnetv v6 bs n then textv v6 bs ++ [47] ++ Lib.decDigits n.toNat else []
set_option maxHeartbeats 1000000 in
theorem TextNet_any (v6 : Bool) (bs : List UInt8) (hl : bs.length = 16) (n : Int) {w : World} (hE : Env w) : Calls Tryz.prog 73 #[.agg (pxv v6 bs n)] w fun e w' => e = .returned (.string (mkS (textnetv v6 bs n))) ∧ Below w.heap.size w w' := by
  have HE := Lib.hid hE
  have P1 := Lib.hid (PxBox.new w v6 n hl)
  have B1 := Lib.hid ((Below.refl w.heap.size w).alloc (Nat.le_refl _) (.cells (pxv v6 bs n) 53))
  clear hE
  have hR := RightNet_any v6 bs hl n
  cases hr : rightnetv v6 bs n with
  | false =>
    have hres : mkS (textnetv v6 bs n) = ⟨#[]⟩ := by unfold textnetv; rw [hr]; rfl
    rw [hres]
    rw [hr] at hR
    have HR := Lib.hid hR
    clear hres hR hr
    go_enter Tryz.func73, Tryz.ntmps73
    go_wp2_with (refine wpList_load_px rfl (.tmp 1) rfl rfl P1.out ?_)
    refine (HR.out _).mono ?_
    rintro e w1 ⟨rfl, b1⟩
    have H2 := Lib.hid (B1.out.trans (b1.mono B1.out.size))
    clear b1
    go_wp2_with fail
    go_ret
    exact ⟨rfl, H2.out⟩
  | true =>
    have hres : textnetv v6 bs n = textv v6 bs ++ [47] ++ Lib.decDigits n.toNat := by unfold textnetv; rw [hr]; rfl
    have hn : 0 ≤ n ∧ n ≤ 128 := by
      unfold rightnetv at hr
      simp only [Bool.and_eq_true, decide_eq_true_eq] at hr
      have := wid_le v6
      omega
    obtain ⟨k, rfl⟩ : ∃ k : Nat, n = k := ⟨n.toNat, by omega⟩
    have ht := textv_len v6 bs
    have hd := dec3_len k
    rw [← dec3_eq (n := k) (by omega)] at hd
    rw [hr] at hR
    have HR := Lib.hid hR
    obtain ⟨J, hJ⟩ : ∃ J, mkS (textv v6 bs) = J := ⟨_, rfl⟩
    obtain ⟨D, hD⟩ : ∃ D, mkS (Lib.decDigits k) = D := ⟨_, rfl⟩
    have hJd : J.data.toList = textv v6 bs := by rw [← hJ, mkS_data]
    have hDd : D.data.toList = Lib.decDigits k := by rw [← hD, mkS_data]
    have hJs : J.size ≤ 10000 := by rw [Lib.size_eq, hJd]; exact ht
    have hDs : D.size ≤ 3 := by rw [Lib.size_eq, hDd]; exact hd
    have hfin : mkS (textnetv v6 bs k) = J ++ ⟨#[47]⟩ ++ D := bytes_inj' (by
      rw [mkS_data, hres, ByteArray.data_append, ByteArray.data_append, Array.toList_append, Array.toList_append, hJd, hDd, Int.toNat_natCast])
    have HF := Lib.hid hfin
    have KT : ∀ w1, Below w.heap.size w w1 → Hid (Calls Tryz.prog 46 #[.agg (adv v6 bs)] w1 fun e w' => e = .returned (.string J) ∧ Below w1.heap.size w1 w') := fun w1 hb => by
      have := Text_any v6 bs hl (HE.out.later hb (Nat.le_refl _))
      rw [hJ] at this
      exact this
    have KI : ∀ w1, Below w.heap.size w w1 → Hid (Calls Tryz.prog 90 #[.int .i64 k] w1 fun e w' => e = .returned (.string D) ∧ Below w1.heap.size w1 w') := fun w1 hb => by
      have := itoa_any k (by omega) (HE.out.later hb (Nat.le_refl _))
      rw [hD] at this
      exact this
    have HK := Lib.hid (And.intro KT KI)
    have n1 : (9223372036854775807 < J.size + 1) = False := eq_false (by omega)
    have n2 : (9223372036854775807 < J.size + 1 + D.size) = False := eq_false (by omega)
    clear hres hn ht hd hr hR hJ hD hJd hDd hJs hDs hfin KT KI
    rw [HF.out]
    go_enter Tryz.func73, Tryz.ntmps73
    go_wp2_with (refine wpList_load_px rfl (.tmp 1) rfl rfl P1.out ?_)
    refine (HR.out _).mono ?_
    rintro e w1 ⟨rfl, b1⟩
    have H2 := Lib.hid (And.intro (P1.out.later b1 (Nat.le_refl _)) (B1.out.trans (b1.mono B1.out.size)))
    clear b1
    go_wp2_with fail
    have hcB : ∀ w', Below w1.heap.size w1 w' → w'.cell? ⟨w.heap.size, 17, none⟩ = some (.int .i64 k) := fun w' h => (H2.out.1.later h (Nat.le_refl _)).bits_cell
    have hS : Below w1.heap.size w1 w1.drew := (Below.refl _ _).drew
    have hB : Below w.heap.size w w1.drew := H2.out.2.drew
    refine rg_begin (fun w' => Below w1.heap.size w1 w') 9 (by kernel_rfl) rfl ?_
    refine rg_take 0 (v := ?rv1) rfl (by kernel_rfl) (by kernel_rfl) (by kernel_rfl) (fun _ _ _ h => h) (by rfl) hS (fun w2 hw2 => ?ry1) ?rr1
    case ry1 => ((try dsimp only at hw2); go_simp <;> with_reducible rfl)
    simp only [Act.put, List.setIfInBounds_toArray, List.set_cons_zero, List.set_cons_succ]
    refine rg_take 4 (v := ?rv2) rfl (by kernel_rfl) (by kernel_rfl) (by kernel_rfl) (fun _ _ _ h => h) (by rfl) hS (fun w2 hw2 => ?ry2) ?rr2
    case ry2 => ((try dsimp only at hw2); go_simp <;> with_reducible rfl)
    simp only [Act.put, List.setIfInBounds_toArray, List.set_cons_zero, List.set_cons_succ]
    refine rg_load 1 rfl (by kernel_rfl) (by kernel_rfl) (by kernel_rfl) (w.heap.size) (0) ((adv v6 bs)) (fun _ _ _ h => h) (by rfl) 51 (.tmp 6) rfl rfl hS (fun w2 h2 => (H2.out.1.later h2 (Nat.le_refl _)).range0) Tryz.underlying51 rfl (ad_size v6 hl) ?_
    simp only [Act.put, List.setIfInBounds_toArray, List.set_cons_zero, List.set_cons_succ]
    refine rg_take 5 (v := ?rv3) rfl (by kernel_rfl) (by kernel_rfl) (by kernel_rfl) (fun _ _ _ h => h) (by rfl) hS (fun w2 hw2 => ?ry3) ?rr3
    case ry3 => ((try dsimp only at hw2); go_simp <;> with_reducible rfl)
    simp only [Act.put, List.setIfInBounds_toArray, List.set_cons_zero, List.set_cons_succ]
    refine rg_step 2 rfl (by kernel_rfl) (by rfl) (fun K hK => ?_)
    go_simp
    refine (HK.out.1 _ hB).out.mono ?_
    rintro e w2 ⟨rfl, b2⟩
    replace hS := hS.trans (b2.mono hS.size)
    replace hB := hB.trans (b2.mono hB.size)
    clear b2
    refine hK.out _ _ hS ?_
    clear hK K
    try simp only [Act.put, List.setIfInBounds_toArray, List.set_cons_zero, List.set_cons_succ]
    refine rg_take 3 (v := ?rv4) rfl (by kernel_rfl) (by kernel_rfl) (by kernel_rfl) (fun _ _ _ h => h) (by rfl) hS (fun w2 hw2 => ?ry4) ?rr4
    case ry4 => ((try dsimp only at hw2); go_simp <;> with_reducible rfl)
    simp only [Act.put, List.setIfInBounds_toArray, List.set_cons_zero, List.set_cons_succ]
    refine rg_step 6 rfl (by kernel_rfl) (by rfl) (fun K hK => ?_)
    go_simp
    refine (HK.out.2 _ hB).out.mono ?_
    rintro e w3 ⟨rfl, b3⟩
    replace hS := hS.trans (b3.mono hS.size)
    replace hB := hB.trans (b3.mono hB.size)
    clear b3
    refine hK.out _ _ hS ?_
    clear hK K
    try simp only [Act.put, List.setIfInBounds_toArray, List.set_cons_zero, List.set_cons_succ]
    refine rg_take 7 (v := ?rv5) rfl (by kernel_rfl) (by kernel_rfl) (by kernel_rfl) (fun _ _ _ h => h) (by rfl) hS (fun w2 hw2 => ?ry5) ?rr5
    case ry5 => ((try dsimp only at hw2); go_simp <;> with_reducible rfl)
    simp only [Act.put, List.setIfInBounds_toArray, List.set_cons_zero, List.set_cons_succ]
    refine rg_take 8 (v := ?rv6) rfl (by kernel_rfl) (by kernel_rfl) (by kernel_rfl) (fun _ _ _ h => h) (by rfl) hS (fun w2 hw2 => ?ry6) ?rr6
    case ry6 => ((try dsimp only at hw2); go_simp <;> with_reducible rfl)
    simp only [Act.put, List.setIfInBounds_toArray, List.set_cons_zero, List.set_cons_succ]
    refine rg_done (by kernel_rfl) ?_
    have H3 := Lib.hid hB
    clear hS hB hcB
    go_wp2_with fail
    go_ret
    exact ⟨rfl, H3.out⟩
end Go.Proofs.YtoagfmonfgagbaaGreatDoor
