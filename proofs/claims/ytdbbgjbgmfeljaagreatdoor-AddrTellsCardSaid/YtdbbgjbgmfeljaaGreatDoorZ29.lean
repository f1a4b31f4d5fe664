/-
  Package addr's text4; strconv.Itoa and strings.Join as they are called. Conditions: what the program's text has laid (Env).
  stockadehelp.Digits. Conditions: a million at most.
  Package addr's longest: the longest run of groups of 0. No conditions.
  stockaderef01: Decimal: the document's own answers on digits. Conditions: the text's length.
  stockaderef01: group: the document's own answers on digits to the base 16. Conditions: the text's length.
-/
import Derived.Test.YtdbbgjbgmfeljaaGreatDoorZ25
import Derived.Test.YtdbbgjbgmfeljaaGreatDoorZ14
import Derived.Test.YtdbbgjbgmfeljaaGreatDoorZ07
import Derived.BigRegion
import Derived.Test.YtdbbgjbgmfeljaaGreatDoorZ22
import Derived.Test.YtdbbgjbgmfeljaaGreatDoorZ03
namespace Go.Proofs.YtdbbgjbgmfeljaaGreatDoor
open Go.RowKit
set_option maxRecDepth 100000

theorem below_grow (w : World) (k : Nat) (os : Array Obj) : Below w.heap.size w (Sort.grow (w.drewN k) os) := by
  refine ⟨rfl, rfl, rfl, by simp [Sort.grow, World.drewN], fun i hi => ?_⟩
  show (w.heap ++ os)[i]? = w.heap[i]?
  rw [Array.getElem?_append_left hi]
/-- A text out of its bytes. -/
def mkS (l : List UInt8) : ByteArray := ⟨l.toArray⟩
theorem mkS_data (l : List UInt8) : (mkS l).data.toList = l := by simp [mkS]
theorem itoa_any (n : Nat) (hn : n ≤ 1000000) {w : World} (hE : Env w) : Calls Tryz.prog 40 #[.int .i64 n] w fun e w' => e = .returned (.string (mkS (Lib.decDigits n))) ∧ Below w.heap.size w w' := by
  refine (Tryz.strconv_Itoa n (by omega) (by omega) w hE.pow).mono fun e w' ⟨he, k, os, hw⟩ => ⟨?_, ?_⟩
  · rw [he]
    unfold Lib.itoa mkS
    rw [if_neg (by omega), Int.toNat_natCast]
  · subst hw; exact below_grow w k os
/-- strings.Join of a part of a row of texts. -/
theorem join_any {w : World} {g : Nat} {xs : List ByteArray} (hr : Row w g 9 (sv xs)) (o n c : Nat) (ho : o + n ≤ xs.length) (hc : n ≤ c) (sep : ByteArray) (hx : ∀ x ∈ xs, x.size ≤ 100) (hs : sep.size ≤ 100) (hn : n ≤ 1000) :
    Calls Tryz.prog 57 #[.slice (some ⟨g, o, none⟩) n c, .string sep] w fun e w' => e = .returned (.string (mkS (Lib.join (((xs.drop o).take n).map fun x => x.data.toList) sep.data.toList))) ∧ Below w.heap.size w w' := by
  have hl : ((xs.drop o).take n).length = n := by rw [List.length_take, List.length_drop]; omega
  have hj : ∀ l : List (List UInt8), (∀ x ∈ l, x.length ≤ 100) → (Lib.join l sep.data.toList).length ≤ 200 * l.length := by
    intro l
    induction l with
    | nil => intro _; simp [Lib.join, List.intercalate]
    | cons x r ih =>
      intro hx
      cases r with
      | nil => rw [Lib.join_one]; have := hx x (by simp); simp; omega
      | cons y r =>
        have h1 := ih (fun z hz => hx z (List.mem_cons_of_mem _ hz))
        have h2 : Lib.join (x :: y :: r) sep.data.toList = x ++ sep.data.toList ++ Lib.join (y :: r) sep.data.toList := by simp [Lib.join, List.intercalate]
        have h3 := hx x (by simp)
        have h4 : sep.data.toList.length ≤ 100 := by rw [← Lib.size_eq]; exact hs
        rw [h2]
        simp only [List.length_append, List.length_cons] at h1 ⊢
        omega
  have hlen : (Lib.join (((xs.drop o).take n).map (·.data.toList)) sep.data.toList).length ≤ 140737488355328 := by
    have := hj (((xs.drop o).take n).map (·.data.toList)) (fun x hx' => by
      obtain ⟨y, hy, rfl⟩ := List.mem_map.1 hx'
      have := hx y (List.mem_of_mem_drop (List.mem_of_mem_take hy))
      rw [← Lib.size_eq]
      exact this)
    rw [List.length_map, hl] at this
    omega
  have k := Tryz.strings_Join g o c ((xs.drop o).take n) sep w (fun j x hj => by
    rw [List.getElem?_take] at hj
    split at hj
    · rw [List.getElem?_drop] at hj
      exact hr.cell (sv_at hj)
    · cases hj) hr.lt (by omega) (by omega) hlen
  rw [hl] at k
  exact k

theorem decDigits_len {n : Nat} (h : n < 1000) : (Lib.decDigits n).length ≤ 3 := by
  unfold Lib.decDigits
  split
  · simp
  · rw [List.length_append]
    unfold Lib.decDigits
    split
    · simp
    · rw [List.length_append]
      unfold Lib.decDigits
      rw [dif_pos (by omega)]
      simp
/-- An address of version 4 as text. -/
def words4 (bs : List UInt8) : List ByteArray := (bs.take 4).map fun b => mkS (Lib.decDigits b.toNat)
def text4v (bs : List UInt8) : List UInt8 := Lib.join ((bs.take 4).map fun b => Lib.decDigits b.toNat) [46]

set_option maxHeartbeats 1000000 in
theorem text4_any (bs : List UInt8) (hl : bs.length = 16) {w : World} (hE : Env w) : Calls Tryz.prog 34 #[.agg (bv bs).toArray] w fun e w' => e = .returned (.string (mkS (text4v bs))) ∧ Below w.heap.size w w' := by
  have hmk : ∀ w : World, (Instr.makeSlice 56 (.int .i64 4) (.int .i64 4)).run Tryz.prog w = .ok (.slice (some ⟨w.heap.size, 0, none⟩) 4 4) (w.alloc (.cells (madeCells #[.string ByteArray.empty] 4) 9)) := fun w => makeStrs 4 (by omega) w
  have r0 := Row.new' w 22 (cs := (bv bs).toArray) rfl
  have b1 : Below (w.alloc (.cells (bv bs).toArray 22)).heap.size (w.alloc (.cells (bv bs).toArray 22)) ((w.alloc (.cells (bv bs).toArray 22)).alloc (.cells (madeCells #[.string ByteArray.empty] 4) 9)) := (Below.refl _ _).alloc (Nat.le_refl _) _
  have r1 := Row.new' (w.alloc (.cells (bv bs).toArray 22)) 9 (sv_made 4)
  have b0 : Below w.heap.size w ((w.alloc (.cells (bv bs).toArray 22)).alloc (.cells (madeCells #[.string ByteArray.empty] 4) 9)) := ((Below.refl _ _).alloc (Nat.le_refl _) _).trans (b1.mono (by simp))
  rw [World.size_alloc] at r1
  have H0 := Lib.hid (And.intro (r0.later b1 (Nat.le_refl _)) (And.intro r1 b0))
  have HE := Lib.hid hE
  have HL := Lib.hid hl
  clear r0 b1 r1 b0 hE hl
  go_enter Tryz.func34, Tryz.ntmps34
  go_wp2_with fail
  generalize hW : ((w.alloc (.cells (bv bs).toArray 22)).alloc (.cells (madeCells #[.string ByteArray.empty] 4) 9)) = W at H0 ⊢
  clear hW hmk
  go_loopw [8] (fun i wr => ∃ k : Nat, i = .int .i64 k ∧ k ≤ 4 ∧ Hid (Row wr (w.heap.size + 1) 9 (sv ((words4 bs).take k ++ List.replicate (4 - k) ByteArray.empty)) ∧ Row wr w.heap.size 22 (bv bs) ∧ Below w.heap.size w wr)) (fun i _ => 4 - (intOf i).toNat)
  case atStart => exact ⟨0, rfl, by omega, Lib.hid ⟨H0.out.2.1, H0.out.1, H0.out.2.2⟩⟩
  case round =>
    obtain ⟨k, rfl, hk, hh⟩ := hrel
    by_cases hlt : k < 4
    · obtain ⟨b, hb⟩ : ∃ b, bs[k]? = some b := ⟨_, List.getElem?_eq_getElem (by rw [HL.out]; omega)⟩
      have hb2 := b.toNat_lt
      have hcell := hh.out.2.1.cell (bv_at hb)
      have hw4 : (words4 bs)[k]? = some (mkS (Lib.decDigits b.toNat)) := by
        unfold words4
        rw [List.getElem?_map, List.getElem?_take, if_pos hlt, hb]
        rfl
      have hlen : ((words4 bs).take k).length = k := by
        unfold words4
        rw [List.length_take, List.length_map, List.length_take, HL.out]; omega
      have hit := itoa_any b.toNat (by omega) (HE.out.later hh.out.2.2 (Nat.le_refl _))
      have hc2 : wr.cell? ⟨w.heap.size + 1, k, none⟩ = some (.string ByteArray.empty) := hh.out.1.cell (sv_at (by
        rw [List.getElem?_append_right (by omega), hlen, Nat.sub_self, List.getElem?_replicate, if_pos (by omega)]))
      have hf2 := hh.out.1.frozen k
      have HIT := Lib.hid hit
      have HB := Lib.hid (And.intro hw4 hlen)
      have HC2 := Lib.hid (And.intro hc2 hf2)
      clear hit hw4 hlen hb hc2 hf2
      go_wp2_with fail
      refine HIT.out.mono ?_
      rintro e w1 ⟨rfl, b1⟩
      have c1 := b1.cell (p := ⟨w.heap.size + 1, k, none⟩) (by exact lt_cell HC2.out.1)
      have f1 := b1.frozen (p := ⟨w.heap.size + 1, k, none⟩) (by exact lt_cell HC2.out.1)
      rw [HC2.out.1] at c1
      rw [HC2.out.2] at f1
      have r2 : Row (w1.setCell ⟨w.heap.size + 1, k, none⟩ (.string (mkS (Lib.decDigits b.toNat)))) (w.heap.size + 1) 9 (sv ((words4 bs).take (k + 1) ++ List.replicate (4 - (k + 1)) ByteArray.empty)) := by
        have := (hh.out.1.later b1 (Nat.le_refl _)).put k (.string (mkS (Lib.decDigits b.toNat)))
        rw [sv_set, List.set_append_right _ _ (by rw [HB.out.2]; exact Nat.le_refl _), HB.out.2, Nat.sub_self, show 4 - k = (4 - (k + 1)) + 1 by omega, List.replicate_succ, List.set_cons_zero] at this
        rw [List.take_add_one, HB.out.1]
        simpa using this
      have r3 := (hh.out.2.1.later b1 (Nat.le_refl _)).far (p := ⟨w.heap.size + 1, k, none⟩) (by show w.heap.size ≠ w.heap.size + 1; omega) (.string (mkS (Lib.decDigits b.toNat)))
      have b3 := (hh.out.2.2.trans (b1.mono hh.out.2.2.size)).setCell (p := ⟨w.heap.size + 1, k, none⟩) (by show w.heap.size ≤ w.heap.size + 1; omega) (.string (mkS (Lib.decDigits b.toNat)))
      have H2 := Lib.hid (And.intro r2 (And.intro r3 b3))
      clear r2 r3 b3 b1
      go_wp2_with fail
      go_roundw
      case rel => exact ⟨k + 1, by go_num, by omega, H2⟩
      case measure => simp [intOf]; omega
    · obtain rfl : k = 4 := by omega
      have hlw : (words4 bs).length = 4 := by unfold words4; rw [List.length_map, List.length_take, HL.out]; rfl
      have hr := hh.out.1
      rw [List.take_of_length_le (Nat.le_of_eq hlw), Nat.sub_self, List.replicate_zero, List.append_nil] at hr
      have hj := join_any hr 0 4 4 (by omega) (Nat.le_refl _) ⟨#[46]⟩ (fun x hx => by
        obtain ⟨b, _, rfl⟩ := List.mem_map.1 hx
        have h1 : (mkS (Lib.decDigits b.toNat)).size = (Lib.decDigits b.toNat).length := by rw [Lib.size_eq, mkS_data]
        have h2 : b.toNat < 256 := b.toNat_lt
        have h3 := decDigits_len (n := b.toNat) (by omega)
        omega) (by show 1 ≤ 100; omega) (by omega)
      rw [List.drop_zero, List.take_of_length_le (Nat.le_of_eq hlw)] at hj
      have he : (words4 bs).map (fun x => x.data.toList) = (bs.take 4).map fun b => Lib.decDigits b.toNat := by
        unfold words4; rw [List.map_map]; congr 1
      rw [he] at hj
      have hj : Calls Tryz.prog 57 #[.slice (some ⟨w.heap.size + 1, 0, none⟩) 4 4, .string ⟨#[46]⟩] wr fun e w' => e = .returned (.string (mkS (text4v bs))) ∧ Below wr.heap.size wr w' := hj
      have HJ := Lib.hid hj
      clear hr hlw hj he
      go_wp2_with fail
      refine HJ.out.mono ?_
      rintro e w1 ⟨rfl, b1⟩
      have H2 := Lib.hid (hh.out.2.2.trans (b1.mono hh.out.2.2.size))
      clear b1
      go_wp2_with fail
      go_ret
      exact ⟨rfl, H2.out⟩
end Go.Proofs.YtdbbgjbgmfeljaaGreatDoor

namespace Go.Proofs.YtdbbgjbgmfeljaaGreatDoor
open Go.RowKit
set_option maxRecDepth 100000

theorem ret_strD {a b : ByteArray} (h : a = b) : Ending.returned (.string a) = .returned (.string b) := by rw [h]
theorem bytes_injD {a b : ByteArray} (h : a.data.toList = b.data.toList) : a = b := by
  obtain ⟨⟨a⟩⟩ := a
  obtain ⟨⟨b⟩⟩ := b
  cases h
  rfl
/-- string([]byte{b}) -/
theorem conv1 (b : UInt8) {W : World} {g : Nat} (h : W.cell? ⟨g, 0, none⟩ = some (.int .u8 b.toNat)) : (convert 70 9 (.slice (some ⟨g, 0, none⟩) 1 1)).run Tryz.prog W = .ok (.string (mkS [b])) W := by
  have hb : Bs W (some ⟨g, 0, none⟩) 1 1 [b] := ⟨rfl, Nat.le_refl _, by unfold maxLen; omega, (fun h => by cases h), fun _ => ⟨g, 0, rfl, fun j x hx => by
    match j, hx with
    | 0, hx => obtain rfl := Option.some.inj hx; exact h
    | j + 1, hx => simp at hx⟩⟩
  exact hb.convert 70 5 9 Tryz.underlying70 Tryz.underlying5 Tryz.underlying9
theorem dec_step (n : Nat) : Lib.decDigits n = if n < 10 then [UInt8.ofNat (48 + n)] else Lib.decDigits (n / 10) ++ [UInt8.ofNat (48 + n % 10)] := by
  rw [Lib.decDigits]; split <;> rfl
theorem dec_len6 : ∀ n : Nat, (Lib.decDigits n).length ≤ n + 1 := by
  intro n
  induction n using Nat.strongRecOn with
  | _ n ih =>
    rw [dec_step]
    split
    · simp
    · have := ih (n / 10) (by omega)
      rw [List.length_append]
      simp
      omega

set_option maxHeartbeats 1000000 in
theorem digits_any (n : Nat) (hn : n ≤ 1000000) : ∀ w : World, Calls Tryz.prog 35 #[.int .i64 n] w fun e w' => e = .returned (.string (mkS (Lib.decDigits n))) ∧ Below w.heap.size w w' := by
  induction n using Nat.strongRecOn with
  | _ n ih =>
    intro w
    by_cases h : n < 10
    · obtain ⟨x, hx⟩ : ∃ x, UInt8.ofNat (48 + n) = x := ⟨_, rfl⟩
      have hu : ((UInt8.ofNat (48 + n)).toNat : Int) = 48 + n := by rw [UInt8.toNat_ofNat']; omega
      rw [hx] at hu
      have hcv : ∀ (W : World) (g : Nat), W.cell? ⟨g, 0, none⟩ = some (.int .u8 (48 + (n : Int))) → (convert 70 9 (.slice (some ⟨g, 0, none⟩) 1 1)).run Tryz.prog W = .ok (.string (mkS [x])) W := fun W g hc => conv1 _ (by rw [hc, hu])
      have hd : Lib.decDigits n = [x] := by rw [dec_step, if_pos h, hx]
      have HD := Lib.hid hd
      clear hd hu ih hx
      go_enter Tryz.func35, Tryz.ntmps35
      go_wp2
      go_ret
      exact ⟨by rw [HD.out]; rfl, (Below.refl _ _).alloc (Nat.le_refl _) _⟩
    · have hi := ih (n / 10) (by omega) (by omega)
      obtain ⟨x, hx⟩ : ∃ x, UInt8.ofNat (48 + n % 10) = x := ⟨_, rfl⟩
      have hu : ((UInt8.ofNat (48 + n % 10)).toNat : Int) = 48 + (n : Int) % 10 := by rw [UInt8.toNat_ofNat']; omega
      rw [hx] at hu
      have hcv : ∀ (W : World) (g : Nat), W.cell? ⟨g, 0, none⟩ = some (.int .u8 (48 + (n : Int) % 10)) → (convert 70 9 (.slice (some ⟨g, 0, none⟩) 1 1)).run Tryz.prog W = .ok (.string (mkS [x])) W := fun W g hc => conv1 _ (by rw [hc, hu])
      have hd : Lib.decDigits n = Lib.decDigits (n / 10) ++ [x] := by rw [dec_step, if_neg h, hx]
      have hl := dec_len6 (n / 10)
      obtain ⟨J, hJ⟩ : ∃ J, mkS (Lib.decDigits (n / 10)) = J := ⟨_, rfl⟩
      have hJd : J.data.toList = Lib.decDigits (n / 10) := by rw [← hJ, mkS_data]
      have hJs : J.size ≤ 1000001 := by rw [Lib.size_eq, hJd]; omega
      rw [hJ, show ((n / 10 : Nat) : Int) = (n : Int) / 10 by omega] at hi
      have HI := Lib.hid hi
      have HD := Lib.hid (And.intro hd hJd)
      have nJ : (9223372036854775807 < J.size + 1) = False := eq_false (by omega)
      have nJ2 : (9223372036854775807 < J.size + (mkS [x]).size) = False := eq_false (by rw [show (mkS [x]).size = 1 from rfl]; omega)
      have q0 : ¬ ((n : Int) < 10) := by omega
      have q1 : (n : Int).tdiv 10 = (n : Int) / 10 := Int.tdiv_eq_ediv_of_nonneg (by omega)
      have q2 : (n : Int).tmod 10 = (n : Int) % 10 := Int.tmod_eq_emod_of_nonneg (by omega)
      have q3 : IntKind.i64.wrap ((n : Int) / 10) = (n : Int) / 10 := IntWalk.i64_in _ (by omega)
      have q4 : IntKind.i64.wrap (48 + (n : Int) % 10) = 48 + (n : Int) % 10 := IntWalk.i64_in _ (by omega)
      have q5 : IntKind.u8.wrap (48 + (n : Int) % 10) = 48 + (n : Int) % 10 := IntWalk.u8_in _ (by omega)
      have q6 : IntKind.i64.wrap ((n : Int) % 10) = (n : Int) % 10 := IntWalk.i64_in _ (by omega)
      clear hd hu ih hi hl hJ hJd hx
      go_enter Tryz.func35, Tryz.ntmps35
      go_wp2_with fail
      have hS : Below w.heap.size w w.drew := (Below.refl _ _).drew
      refine rg_begin (fun w' => Below w.heap.size w w') 11 (by kernel_rfl) rfl ?_
      refine rg_take 0 (v := ?rv1) rfl (by kernel_rfl) (by kernel_rfl) (by kernel_rfl) (fun _ _ _ h => h) (by rfl) hS (fun w2 hw2 => ?ry1) ?rr1
      case ry1 => ((try dsimp only at hw2); go_simp <;> with_reducible rfl)
      simp only [Act.put, List.setIfInBounds_toArray, List.set_cons_zero, List.set_cons_succ]
      refine rg_take 3 (v := ?rv2) rfl (by kernel_rfl) (by kernel_rfl) (by kernel_rfl) (fun _ _ _ h => h) (by rfl) hS (fun w2 hw2 => ?ry2) ?rr2
      case ry2 => ((try dsimp only at hw2); go_simp <;> with_reducible rfl)
      simp only [Act.put, List.setIfInBounds_toArray, List.set_cons_zero, List.set_cons_succ]
      refine rg_take 1 (v := ?rv3) rfl (by kernel_rfl) (by kernel_rfl) (by kernel_rfl) (fun _ _ _ h => h) (by rfl) hS (fun w2 hw2 => ?ry3) ?rr3
      case ry3 => ((try dsimp only at hw2); go_simp <;> with_reducible rfl)
      simp only [Act.put, List.setIfInBounds_toArray, List.set_cons_zero, List.set_cons_succ]
      refine rg_take 4 (v := ?rv4) rfl (by kernel_rfl) (by kernel_rfl) (by kernel_rfl) (fun _ _ _ h => h) (by rfl) hS (fun w2 hw2 => ?ry4) ?rr4
      case ry4 => ((try dsimp only at hw2); go_simp <;> with_reducible rfl)
      simp only [Act.put, List.setIfInBounds_toArray, List.set_cons_zero, List.set_cons_succ]
      refine rg_take 5 (v := ?rv5) rfl (by kernel_rfl) (by kernel_rfl) (by kernel_rfl) (fun _ _ _ h => h) (by rfl) hS (fun w2 hw2 => ?ry5) ?rr5
      case ry5 => ((try dsimp only at hw2); go_simp <;> with_reducible rfl)
      simp only [Act.put, List.setIfInBounds_toArray, List.set_cons_zero, List.set_cons_succ]
      refine rg_take 6 (v := ?rv6) rfl (by kernel_rfl) (by kernel_rfl) (by kernel_rfl) (fun _ _ _ h => h) (by rfl) hS (fun w2 hw2 => ?ry6) ?rr6
      case ry6 => ((try dsimp only at hw2); go_simp <;> with_reducible rfl)
      simp only [Act.put, List.setIfInBounds_toArray, List.set_cons_zero, List.set_cons_succ]
      refine rg_any [2, 7] (by kernel_rfl) (by simp) ?_
      refine rg_or 2 rfl (by rfl) (fun K hK => ?_) ?_
      · go_simp
        refine (HI.out _).mono ?_
        rintro e u ⟨rfl, bK⟩
        replace hS := hS.trans (bK.mono hS.size)
        clear bK
        refine hK.out _ _ hS ?_
        clear hK K
        try simp only [Act.put, List.setIfInBounds_toArray, List.set_cons_zero, List.set_cons_succ]
        refine rg_step 7 rfl (by kernel_rfl) (by rfl) (fun K hK => ?_)
        go_simp
        have hc : (u.alloc (.cells #[.int .u8 (48 + (n : Int) % 10)] 5)).cell? ⟨u.heap.size, 0, none⟩ = some (.int .u8 (48 + (n : Int) % 10)) := by rw [World.cell?_alloc_at _ _ _ _ rfl]; rfl
        replace hS := hS.alloc hS.size (.cells #[.int .u8 (48 + (n : Int) % 10)] 5)
        refine hK.out _ _ hS ?_
        clear hK K
        try simp only [Act.put, List.setIfInBounds_toArray, List.set_cons_zero, List.set_cons_succ]
        refine rg_step 8 rfl (by kernel_rfl) (by rfl) (fun K hK => ?_)
        go_simp
        refine hK.out _ _ hS ?_
        clear hK K
        try simp only [Act.put, List.setIfInBounds_toArray, List.set_cons_zero, List.set_cons_succ]
        refine rg_take 9 (v := ?rv7) rfl (by kernel_rfl) (by kernel_rfl) (by kernel_rfl) (fun _ _ _ h => h) (by rfl) hS (fun w2 hw2 => ?ry7) ?rr7
        case ry7 => ((try dsimp only at hw2); go_simp <;> with_reducible rfl)
        simp only [Act.put, List.setIfInBounds_toArray, List.set_cons_zero, List.set_cons_succ]
        refine rg_take 10 (v := ?rv8) rfl (by kernel_rfl) (by kernel_rfl) (by kernel_rfl) (fun _ _ _ h => h) (by rfl) hS (fun w2 hw2 => ?ry8) ?rr8
        case ry8 => ((try dsimp only at hw2); go_simp <;> with_reducible rfl)
        simp only [Act.put, List.setIfInBounds_toArray, List.set_cons_zero, List.set_cons_succ]
        refine rg_done (by kernel_rfl) ?_
        have H2 := Lib.hid hS
        clear hS hc
        go_wp2_with fail
        go_ret
        exact ⟨ret_strD (bytes_injD (by rw [ByteArray.data_append, Array.toList_append, HD.out.2, mkS_data, mkS_data, HD.out.1])), H2.out⟩
      refine rg_or 7 rfl (by rfl) (fun K hK => ?_) AllReadyH.nil
      go_simp
      have hc : (w.alloc (.cells #[.int .u8 (48 + (n : Int) % 10)] 5)).drew.cell? ⟨w.heap.size, 0, none⟩ = some (.int .u8 (48 + (n : Int) % 10)) := by
        show (w.alloc (.cells #[.int .u8 (48 + (n : Int) % 10)] 5)).cell? ⟨w.heap.size, 0, none⟩ = _
        rw [World.cell?_alloc_at _ _ _ _ rfl]; rfl
      replace hS : Below w.heap.size w (w.alloc (.cells #[.int .u8 (48 + (n : Int) % 10)] 5)).drew := ((Below.refl w.heap.size w).alloc (Nat.le_refl _) (.cells #[.int .u8 (48 + (n : Int) % 10)] 5)).drew
      refine hK.out _ _ hS ?_
      clear hK K
      try simp only [Act.put, List.setIfInBounds_toArray, List.set_cons_zero, List.set_cons_succ]
      generalize hW : (w.alloc (.cells #[.int .u8 (48 + (n : Int) % 10)] 5)).drew = W2 at hS hc ⊢
      clear hW
      refine rg_any [2, 8] (by kernel_rfl) (by simp) ?_
      refine rg_or 2 rfl (by rfl) (fun K hK => ?_) ?_
      · go_simp
        refine (HI.out _).mono ?_
        rintro e u ⟨rfl, bK⟩
        replace hS := hS.trans (bK.mono hS.size)
        replace hc := (bK.cell (p := ⟨_, 0, none⟩) (by exact lt_cell hc)).trans hc
        clear bK
        refine hK.out _ _ hS ?_
        clear hK K
        try simp only [Act.put, List.setIfInBounds_toArray, List.set_cons_zero, List.set_cons_succ]
        refine rg_step 8 rfl (by kernel_rfl) (by rfl) (fun K hK => ?_)
        go_simp
        refine hK.out _ _ hS ?_
        clear hK K
        try simp only [Act.put, List.setIfInBounds_toArray, List.set_cons_zero, List.set_cons_succ]
        refine rg_take 9 (v := ?rv9) rfl (by kernel_rfl) (by kernel_rfl) (by kernel_rfl) (fun _ _ _ h => h) (by rfl) hS (fun w2 hw2 => ?ry9) ?rr9
        case ry9 => ((try dsimp only at hw2); go_simp <;> with_reducible rfl)
        simp only [Act.put, List.setIfInBounds_toArray, List.set_cons_zero, List.set_cons_succ]
        refine rg_take 10 (v := ?rv10) rfl (by kernel_rfl) (by kernel_rfl) (by kernel_rfl) (fun _ _ _ h => h) (by rfl) hS (fun w2 hw2 => ?ry10) ?rr10
        case ry10 => ((try dsimp only at hw2); go_simp <;> with_reducible rfl)
        simp only [Act.put, List.setIfInBounds_toArray, List.set_cons_zero, List.set_cons_succ]
        refine rg_done (by kernel_rfl) ?_
        have H2 := Lib.hid hS
        clear hS hc
        go_wp2_with fail
        go_ret
        exact ⟨ret_strD (bytes_injD (by rw [ByteArray.data_append, Array.toList_append, HD.out.2, mkS_data, mkS_data, HD.out.1])), H2.out⟩
      refine rg_or 8 rfl (by rfl) (fun K hK => ?_) AllReadyH.nil
      go_simp
      refine hK.out _ _ hS ?_
      clear hK K
      try simp only [Act.put, List.setIfInBounds_toArray, List.set_cons_zero, List.set_cons_succ]
      refine rg_step 2 rfl (by kernel_rfl) (by rfl) (fun K hK => ?_)
      go_simp
      refine (HI.out _).mono ?_
      rintro e u ⟨rfl, bK⟩
      replace hS := hS.trans (bK.mono hS.size)
      replace hc := (bK.cell (p := ⟨_, 0, none⟩) (by exact lt_cell hc)).trans hc
      clear bK
      refine hK.out _ _ hS ?_
      clear hK K
      try simp only [Act.put, List.setIfInBounds_toArray, List.set_cons_zero, List.set_cons_succ]
      refine rg_take 9 (v := ?rv11) rfl (by kernel_rfl) (by kernel_rfl) (by kernel_rfl) (fun _ _ _ h => h) (by rfl) hS (fun w2 hw2 => ?ry11) ?rr11
      case ry11 => ((try dsimp only at hw2); go_simp <;> with_reducible rfl)
      simp only [Act.put, List.setIfInBounds_toArray, List.set_cons_zero, List.set_cons_succ]
      refine rg_take 10 (v := ?rv12) rfl (by kernel_rfl) (by kernel_rfl) (by kernel_rfl) (fun _ _ _ h => h) (by rfl) hS (fun w2 hw2 => ?ry12) ?rr12
      case ry12 => ((try dsimp only at hw2); go_simp <;> with_reducible rfl)
      simp only [Act.put, List.setIfInBounds_toArray, List.set_cons_zero, List.set_cons_succ]
      refine rg_done (by kernel_rfl) ?_
      have H2 := Lib.hid hS
      clear hS hc
      go_wp2_with fail
      go_ret
      exact ⟨ret_strD (bytes_injD (by rw [ByteArray.data_append, Array.toList_append, HD.out.2, mkS_data, mkS_data, HD.out.1])), H2.out⟩
end Go.Proofs.YtdbbgjbgmfeljaaGreatDoor

namespace Go.Proofs.YtdbbgjbgmfeljaaGreatDoor
open Go.RowKit
set_option maxRecDepth 100000

/-- A step of the search: where the run that goes on began, and the longest one so far. -/
def lstep (s : Nat × Nat × Nat) (i : Nat) (z : Bool) : Nat × Nat × Nat :=
  if max (s.2.2 - s.2.1) 1 < i + 1 - (if z then s.1 else i + 1) then ((if z then s.1 else i + 1), (if z then s.1 else i + 1), i + 1) else ((if z then s.1 else i + 1), s.2.1, s.2.2)
def lst (zs : List Bool) : Nat → Nat × Nat × Nat
  | 0 => (0, 0, 0)
  | k + 1 => lstep (lst zs k) k (zs.getD k false)
def longestv (zs : List Bool) : Nat × Nat := (lst zs zs.length).2
theorem lst_ok (zs : List Bool) : ∀ k, (lst zs k).1 ≤ k ∧ (lst zs k).2.1 ≤ (lst zs k).2.2 ∧ (lst zs k).2.2 ≤ k
  | 0 => ⟨Nat.le_refl _, Nat.le_refl _, Nat.le_refl _⟩
  | k + 1 => by
    obtain ⟨h1, h2, h3⟩ := lst_ok zs k
    unfold lst lstep
    generalize lst zs k = s at *
    obtain ⟨a, b, c⟩ := s
    simp only at *
    cases zs.getD k false <;> simp only [Bool.false_eq_true, if_false, if_true] <;> split <;> simp only <;> omega
theorem bytes_inj' {a b : ByteArray} (h : a.data.toList = b.data.toList) : a = b := by
  obtain ⟨⟨a⟩⟩ := a
  obtain ⟨⟨b⟩⟩ := b
  cases h
  rfl
def isZ (x : ByteArray) : Bool := decide (x = mkS [48])

set_option maxHeartbeats 2000000 in
theorem longest_any (g n : Nat) (xs : List ByteArray) (hn : xs.length = n) (hn8 : n ≤ 1000) {w : World} (hr : Row w g 9 (sv xs)) : Calls Tryz.prog 56 #[.slice (some ⟨g, 0, none⟩) n n] w fun e w' =>
    e = .returned (.tuple #[.int .i64 (longestv (xs.map isZ)).1, .int .i64 (longestv (xs.map isZ)).2]) ∧ w = w' := by
  have HR := Lib.hid hr
  have HN := Lib.hid hn
  clear hr hn
  go_enter Tryz.func56, Tryz.ntmps56
  go_wp2_with fail
  go_loop [2, 3, 4, 10] (fun f t s i => ∃ k a b c : Nat, i = .int .i64 k ∧ s = .int .i64 a ∧ f = .int .i64 b ∧ t = .int .i64 c ∧ k ≤ n ∧ a ≤ k ∧ b ≤ c ∧ c ≤ k ∧ Hid (lst (xs.map isZ) k = (a, b, c))) (fun _ _ _ i => n - (intOf i).toNat)
  case atStart => exact ⟨0, 0, 0, 0, rfl, rfl, rfl, rfl, by omega, by omega, by omega, by omega, Lib.hid rfl⟩
  case round =>
    obtain ⟨k, a, b, c, rfl, rfl, rfl, rfl, hk, ha, hb, hc, hh⟩ := hrel
    by_cases hlt : k < n
    · obtain ⟨x, hx⟩ : ∃ x, xs[k]? = some x := ⟨_, List.getElem?_eq_getElem (by rw [HN.out]; exact hlt)⟩
      have hcell := HR.out.cell (sv_at hx)
      have hz : (xs.map isZ).getD k false = isZ x := by rw [List.getD, List.getElem?_map, hx]; rfl
      have hst : lst (xs.map isZ) (k + 1) = lstep (a, b, c) k (isZ x) := by
        show lstep (lst (xs.map isZ) k) k ((xs.map isZ).getD k false) = _
        rw [hh.out, hz]
      unfold lstep at hst
      by_cases h0 : x = mkS [48]
      · have hi : isZ x = true := decide_eq_true h0
        rw [hi] at hst
        simp only [if_true] at hst
        subst h0
        have hne : (Value.string (mkS [48])) = Value.string ⟨#[48]⟩ := rfl
        rw [hne] at hcell
        by_cases hm : max (c - b) 1 < k + 1 - a
        · rw [if_pos hm] at hst
          have h1 : max ((c : Int) - b) 1 < (k : Int) + 1 - a := by omega
          have HS := Lib.hid hst
          clear hst hi hz hx hm
          go_wp2_with fail
          all_goals (try (exfalso; omega))
          all_goals exact ⟨⟨k + 1, a, a, k + 1, by go_num, rfl, rfl, by go_num, by omega, by omega, by omega, by omega, HS⟩, by simp [intOf]; omega⟩
        · rw [if_neg hm] at hst
          have h1 : ¬ max ((c : Int) - b) 1 < (k : Int) + 1 - a := by omega
          have HS := Lib.hid hst
          clear hst hi hz hx hm
          go_wp2_with fail
          all_goals (try (exfalso; omega))
          all_goals exact ⟨⟨k + 1, a, b, c, by go_num, rfl, rfl, rfl, by omega, by omega, by omega, by omega, HS⟩, by simp [intOf]; omega⟩
      · have hi : isZ x = false := decide_eq_false h0
        rw [hi] at hst
        simp only [Bool.false_eq_true, if_false] at hst
        rw [if_neg (by omega)] at hst
        have HS := Lib.hid hst
        have hq : (!(x.toList == [48])) = true := by
          rw [Bool.not_eq_true', beq_eq_false_iff_ne, ByteArray.toList_eq]
          intro h
          exact h0 (bytes_inj' (h.trans (mkS_data [48]).symm))
        clear hst hi hz hx
        go_wp2_with fail
        all_goals (try (exfalso; omega))
        all_goals exact ⟨⟨k + 1, k + 1, b, c, by go_num, by go_num, rfl, rfl, by omega, by omega, by omega, by omega, HS⟩, by simp [intOf]; omega⟩
    · obtain rfl : k = n := by omega
      have hl : longestv (xs.map isZ) = (b, c) := by unfold longestv; rw [List.length_map, HN.out, hh.out]
      have HL := Lib.hid hl
      clear hl
      go_wp2_with fail
      go_ret2
      rw [HL.out]
      exact ⟨rfl, rfl⟩
end Go.Proofs.YtdbbgjbgmfeljaaGreatDoor

namespace Go.Proofs.YtdbbgjbgmfeljaaGreatDoor
open Go.RowKit
set_option maxRecDepth 100000

/-- A number, or -1. -/
def rv : Option Nat → Int
  | some n => n
  | none => -1
/-- What stands at a place of a text. -/
theorem str_at {s : ByteArray} {i : Nat} (h : i < s.size) : ∃ c : UInt8, s.data.toList[i]? = some c ∧ s[i] = c := ⟨s[i], by rw [Array.getElem?_toList]; exact Array.getElem?_eq_getElem h, rfl⟩
theorem drop_at {l : List UInt8} {i : Nat} {c : UInt8} (h : l[i]? = some c) : l.drop i = c :: l.drop (i + 1) := by
  obtain ⟨h1, h2⟩ := List.getElem?_eq_some_iff.1 h
  rw [List.drop_eq_getElem_cons h1, h2]
theorem dg_digit {c : UInt8} (h : 48 ≤ c.toNat ∧ c.toNat ≤ 57) : dg c = c.toNat - 48 := by unfold dg; rw [if_pos h]
theorem dg_none {c : UInt8} (h : ¬ (48 ≤ c.toNat ∧ c.toNat ≤ 57)) : ¬ dg c < 10 := by
  unfold dg
  rw [if_neg h]
  split
  · omega
  · split <;> omega
theorem decv_short {l : List UInt8} (h : l.length < 1) : decv l = none := by
  have : l = [] := List.eq_nil_of_length_eq_zero (by omega)
  subst this
  rfl
theorem decv_long {l : List UInt8} (h : 3 < l.length) : decv l = none := by
  unfold decv numv
  split
  all_goals first | rfl | (rw [if_pos h])
theorem decv_nought {l : List UInt8} (h : 1 < l.length) (h0 : l[0]? = some 48) : decv l = none := by
  unfold decv
  rw [if_pos ⟨h, by rw [List.head?_eq_getElem?]; exact h0⟩]
theorem decv_go {l : List UInt8} (h1 : 1 ≤ l.length) (h3 : l.length ≤ 3) (h0 : 1 < l.length → l[0]? ≠ some 48) : decv l = puGo 10 0 l := by
  unfold decv numv pu
  rw [if_neg (fun h => h0 h.1 (by rw [← List.head?_eq_getElem?]; exact h.2)), if_neg (by omega), if_neg (by rintro rfl; simp at h1)]

set_option maxHeartbeats 2000000 in
theorem refDecimal_any (s : ByteArray) (hs : s.size < 4294967281) (w : World) : Calls Tryz.prog 29 #[.string s, .int .i64 3] w fun e w' => e = .returned (.int .i64 (rv (decv s.data.toList))) ∧ w = w' := by
  have hl : s.data.toList.length = s.size := (Lib.size_eq s).symm
  by_cases h1 : s.size < 1
  · rw [decv_short (by omega), show rv none = -1 from rfl]
    have h1' : (s.size : Int) < 1 := by omega
    clear hl
    go_enter Tryz.func29, Tryz.ntmps29
    go_wp2_with fail
    go_ret
    exact ⟨rfl, rfl⟩
  have n1 : decide ((s.size : Int) < 1) = false := decide_eq_false (by omega)
  by_cases h3 : 3 < s.size
  · rw [decv_long (by omega), show rv none = -1 from rfl]
    have n3 : decide ((3 : Int) < (s.size : Int)) = true := decide_eq_true (by omega)
    clear hl
    go_enter Tryz.func29, Tryz.ntmps29
    go_wp2_with fail
    go_ret
    exact ⟨rfl, rfl⟩
  have n3 : decide ((3 : Int) < (s.size : Int)) = false := decide_eq_false (by omega)
  have n0 : 0 < s.size := by omega
  obtain ⟨c0, hc0, hs0⟩ := str_at (s := s) (i := 0) n0
  by_cases h0 : 1 < s.size ∧ c0 = 48
  · obtain ⟨h2, rfl⟩ := h0
    rw [decv_nought (by omega) hc0, show rv none = -1 from rfl]
    have n2 : decide ((1 : Int) < (s.size : Int)) = true := decide_eq_true (by omega)
    have hs0' : ((s[0].toNat : Int) == 48) = true := by rw [hs0]; rfl
    clear hl hc0
    go_enter Tryz.func29, Tryz.ntmps29
    go_wp2_with fail
    go_ret
    exact ⟨rfl, rfl⟩
  · have hgo : decv s.data.toList = puGo 10 0 s.data.toList := decv_go (by omega) (by omega) (fun h e => h0 ⟨by omega, by rw [e] at hc0; exact (Option.some.inj hc0).symm⟩)
    rw [hgo]
    have HL := Lib.hid (And.intro hl hs0)
    obtain ⟨b1, hb1, hw⟩ : ∃ b1 : Bool, decide ((1 : Int) < (s.size : Int)) = b1 ∧ (b1 = true → ((s[0].toNat : Int) == 48) = false) := by
      refine ⟨_, rfl, fun h => ?_⟩
      have h2 := of_decide_eq_true h
      rw [hs0, beq_eq_false_iff_ne]
      intro e
      refine h0 ⟨by omega, UInt8.toNat_inj.1 ?_⟩
      show c0.toNat = 48
      omega
    clear hgo hl hc0 hs0 h0
    have hpow : ∀ k, k ≤ 3 → (10 : Nat) ^ k ≤ 1000 := fun k hk => Nat.pow_le_pow_right (by omega) hk
    have HP := Lib.hid hpow
    clear hpow
    cases b1
    all_goals
      (try have hs0' := hw rfl)
      clear hw
      go_enter Tryz.func29, Tryz.ntmps29
      go_wp2_with fail
      go_loop [5, 6] (fun v i => ∃ k acc : Nat, k ≤ s.size ∧ i = .int .i64 k ∧ v = .int .i64 acc ∧ Hid (acc < 10 ^ k ∧ puGo 10 0 s.data.toList = puGo 10 acc (s.data.toList.drop k))) (fun _ i => s.size - (intOf i).toNat)
      case atStart => exact ⟨0, 0, Nat.zero_le _, rfl, rfl, Lib.hid ⟨by decide, rfl⟩⟩
      case round =>
        obtain ⟨k, acc, hk, rfl, rfl, hh⟩ := hrel
        have hacc : acc < 1000 := Nat.lt_of_lt_of_le hh.out.1 (HP.out k (by omega))
        by_cases hlt : k < s.size
        · obtain ⟨c, hc, hsk⟩ := str_at (s := s) (i := k) hlt
          have hdr := hh.out.2
          rw [drop_at hc] at hdr
          have hc256 := c.toNat_lt
          by_cases hd : 48 ≤ c.toNat ∧ c.toNat ≤ 57
          · obtain ⟨d1, d2⟩ := hd
            rw [show puGo 10 acc (c :: s.data.toList.drop (k + 1)) = if dg c < 10 then puGo 10 (acc * 10 + dg c) (s.data.toList.drop (k + 1)) else none from rfl, dg_digit ⟨d1, d2⟩, if_pos (by omega)] at hdr
            have hN := Lib.hid (And.intro (show acc * 10 + (c.toNat - 48) < 10 ^ (k + 1) by have := hh.out.1; rw [Nat.pow_succ]; omega) hdr)
            have m1 : ¬ (c.toNat : Int) < 48 := by omega
            have m2 : ¬ (57 : Int) < (c.toNat : Int) := by omega
            clear hdr hh hc
            go_wp2_with fail
            have hcast : (acc : Int) * 10 + ((c.toNat : Int) - 48) = ((acc * 10 + (c.toNat - 48) : Nat) : Int) := by omega
            exact ⟨⟨k + 1, acc * 10 + (c.toNat - 48), hlt, by go_num, by rw [hcast], Lib.hid ⟨hN.out.1, hN.out.2⟩⟩, by simp [intOf]; omega⟩
          · rw [show puGo 10 acc (c :: s.data.toList.drop (k + 1)) = if dg c < 10 then puGo 10 (acc * 10 + dg c) (s.data.toList.drop (k + 1)) else none from rfl, if_neg (dg_none hd)] at hdr
            have HN := Lib.hid hdr
            rcases (show c.toNat < 48 ∨ (48 ≤ c.toNat ∧ 57 < c.toNat) by omega) with hd2 | ⟨hd2, hd3⟩
            · have m1 : (c.toNat : Int) < 48 := by omega
              clear hdr hh hc hd
              go_wp2_with fail
              go_ret
              exact ⟨by rw [HN.out]; rfl, rfl⟩
            · have m1 : ¬ (c.toNat : Int) < 48 := by omega
              have m2 : (57 : Int) < (c.toNat : Int) := by omega
              clear hdr hh hc hd
              go_wp2_with fail
              go_ret
              exact ⟨by rw [HN.out]; rfl, rfl⟩
        · obtain rfl : k = s.size := by omega
          have hdr := hh.out.2
          rw [List.drop_of_length_le (by rw [HL.out.1]; exact Nat.le_refl _)] at hdr
          have HN := Lib.hid (show puGo 10 0 s.data.toList = some acc from hdr)
          clear hdr hh
          go_wp2_with fail
          go_ret
          exact ⟨by rw [HN.out]; rfl, rfl⟩
end Go.Proofs.YtdbbgjbgmfeljaaGreatDoor

namespace Go.Proofs.YtdbbgjbgmfeljaaGreatDoor
open Go.RowKit
set_option maxRecDepth 100000

theorem groupv_short {l : List UInt8} (h : l.length < 1) : groupv l = none := by
  have : l = [] := List.eq_nil_of_length_eq_zero (by omega)
  subst this
  rfl
theorem groupv_long {l : List UInt8} (h : 4 < l.length) : groupv l = none := by
  unfold groupv numv
  rw [if_pos h]
theorem groupv_go {l : List UInt8} (h1 : 1 ≤ l.length) (h3 : l.length ≤ 4) : groupv l = puGo 16 0 l := by
  unfold groupv numv pu
  rw [if_neg (by omega), if_neg (by rintro rfl; simp at h1)]
theorem dg_low {c : UInt8} (h : 97 ≤ c.toNat ∧ c.toNat ≤ 102) : dg c = c.toNat - 87 := by unfold dg; rw [if_neg (by omega), if_pos (by omega)]
theorem dg_cap {c : UInt8} (h : 65 ≤ c.toNat ∧ c.toNat ≤ 70) : dg c = c.toNat - 55 := by unfold dg; rw [if_neg (by omega), if_neg (by omega), if_pos (by omega)]
theorem dg_none16 {c : UInt8} (h1 : ¬ (48 ≤ c.toNat ∧ c.toNat ≤ 57)) (h2 : ¬ (97 ≤ c.toNat ∧ c.toNat ≤ 102)) (h3 : ¬ (65 ≤ c.toNat ∧ c.toNat ≤ 70)) : ¬ dg c < 16 := by
  unfold dg
  rw [if_neg h1]
  split
  · omega
  · split <;> omega

set_option maxHeartbeats 4000000 in
theorem refGroup_any (s : ByteArray) (hs : s.size < 4294967281) (w : World) : Calls Tryz.prog 63 #[.string s] w fun e w' => e = .returned (.int .i64 (rv (groupv s.data.toList))) ∧ w = w' := by
  have hl : s.data.toList.length = s.size := (Lib.size_eq s).symm
  by_cases h1 : s.size < 1
  · rw [groupv_short (by omega), show rv none = -1 from rfl]
    have h1' : (s.size : Int) < 1 := by omega
    clear hl
    go_enter Tryz.func63, Tryz.ntmps63
    go_wp2_with fail
    go_ret
    exact ⟨rfl, rfl⟩
  have n1 : decide ((s.size : Int) < 1) = false := decide_eq_false (by omega)
  by_cases h3 : 4 < s.size
  · rw [groupv_long (by omega), show rv none = -1 from rfl]
    have n3 : decide ((4 : Int) < (s.size : Int)) = true := decide_eq_true (by omega)
    clear hl
    go_enter Tryz.func63, Tryz.ntmps63
    go_wp2_with fail
    go_ret
    exact ⟨rfl, rfl⟩
  have n3 : decide ((4 : Int) < (s.size : Int)) = false := decide_eq_false (by omega)
  rw [groupv_go (by omega) (by omega)]
  have HL := Lib.hid hl
  clear hl
  have HP := Lib.hid (show ∀ k, k ≤ 4 → (16 : Nat) ^ k ≤ 65536 from fun k hk => Nat.pow_le_pow_right (by omega) hk)
  go_enter Tryz.func63, Tryz.ntmps63
  go_wp2_with fail
  go_loop [3, 4] (fun v i => ∃ k acc : Nat, k ≤ s.size ∧ i = .int .i64 k ∧ v = .int .i64 acc ∧ Hid (acc < 16 ^ k ∧ puGo 16 0 s.data.toList = puGo 16 acc (s.data.toList.drop k))) (fun _ i => s.size - (intOf i).toNat)
  case atStart => exact ⟨0, 0, Nat.zero_le _, rfl, rfl, Lib.hid ⟨by decide, rfl⟩⟩
  case round =>
    obtain ⟨k, acc, hk, rfl, rfl, hh⟩ := hrel
    have hacc : acc < 65536 := Nat.lt_of_lt_of_le hh.out.1 (HP.out k (by omega))
    by_cases hlt : k < s.size
    · obtain ⟨c, hc, hsk⟩ := str_at (s := s) (i := k) hlt
      have hdr := hh.out.2
      rw [drop_at hc, show puGo 16 acc (c :: s.data.toList.drop (k + 1)) = if dg c < 16 then puGo 16 (acc * 16 + dg c) (s.data.toList.drop (k + 1)) else none from rfl] at hdr
      have hc256 := c.toNat_lt
      rcases (show (48 ≤ c.toNat ∧ c.toNat ≤ 57) ∨ (97 ≤ c.toNat ∧ c.toNat ≤ 102) ∨ (65 ≤ c.toNat ∧ c.toNat ≤ 70) ∨ c.toNat < 48 ∨ (58 ≤ c.toNat ∧ c.toNat ≤ 64) ∨ (71 ≤ c.toNat ∧ c.toNat ≤ 96) ∨ 103 ≤ c.toNat by omega) with hd | hd | hd | hd | hd | hd | hd
      · rw [dg_digit hd, if_pos (by omega)] at hdr
        have hN := Lib.hid (And.intro (show acc * 16 + (c.toNat - 48) < 16 ^ (k + 1) by have := hh.out.1; rw [Nat.pow_succ]; omega) hdr)
        have m1 : (48 : Int) ≤ (c.toNat : Int) := by omega
        have m2 : (c.toNat : Int) ≤ 57 := by omega
        clear hdr hh hc
        go_wp2_with fail
        have hcast : (acc : Int) * 16 + ((c.toNat : Int) - 48) = ((acc * 16 + (c.toNat - 48) : Nat) : Int) := by omega
        exact ⟨⟨k + 1, acc * 16 + (c.toNat - 48), hlt, by go_num, by rw [hcast], Lib.hid ⟨hN.out.1, hN.out.2⟩⟩, by simp [intOf]; omega⟩
      · rw [dg_low hd, if_pos (by omega)] at hdr
        have hN := Lib.hid (And.intro (show acc * 16 + (c.toNat - 87) < 16 ^ (k + 1) by have := hh.out.1; rw [Nat.pow_succ]; omega) hdr)
        have m1 : (48 : Int) ≤ (c.toNat : Int) := by omega
        have m2 : ¬ (c.toNat : Int) ≤ 57 := by omega
        have m3 : (97 : Int) ≤ (c.toNat : Int) := by omega
        have m4 : (c.toNat : Int) ≤ 102 := by omega
        clear hdr hh hc
        go_wp2_with fail
        have hcast : (acc : Int) * 16 + ((c.toNat : Int) - 97) + 10 = ((acc * 16 + (c.toNat - 87) : Nat) : Int) := by omega
        exact ⟨⟨k + 1, acc * 16 + (c.toNat - 87), hlt, by go_num, by rw [hcast], Lib.hid ⟨hN.out.1, hN.out.2⟩⟩, by simp [intOf]; omega⟩
      · rw [dg_cap hd, if_pos (by omega)] at hdr
        have hN := Lib.hid (And.intro (show acc * 16 + (c.toNat - 55) < 16 ^ (k + 1) by have := hh.out.1; rw [Nat.pow_succ]; omega) hdr)
        have m1 : (48 : Int) ≤ (c.toNat : Int) := by omega
        have m2 : ¬ (c.toNat : Int) ≤ 57 := by omega
        have m3 : ¬ (97 : Int) ≤ (c.toNat : Int) := by omega
        have m5 : (65 : Int) ≤ (c.toNat : Int) := by omega
        have m6 : (c.toNat : Int) ≤ 70 := by omega
        clear hdr hh hc
        go_wp2_with fail
        have hcast : (acc : Int) * 16 + ((c.toNat : Int) - 65) + 10 = ((acc * 16 + (c.toNat - 55) : Nat) : Int) := by omega
        exact ⟨⟨k + 1, acc * 16 + (c.toNat - 55), hlt, by go_num, by rw [hcast], Lib.hid ⟨hN.out.1, hN.out.2⟩⟩, by simp [intOf]; omega⟩
      all_goals
        rw [if_neg (dg_none16 (by omega) (by omega) (by omega))] at hdr
        have HN := Lib.hid hdr
        have m1 : (48 : Int) ≤ (c.toNat : Int) ∨ (c.toNat : Int) < 48 := by omega
        clear hdr hh hc
        first
          | (have q1 : (c.toNat : Int) < 48 := by omega
             have q2 : (c.toNat : Int) < 97 := by omega
             have q3 : (c.toNat : Int) < 65 := by omega
             clear m1
             go_wp2_with fail
             go_ret
             exact ⟨by rw [HN.out]; rfl, rfl⟩)
          | (have q1 : (48 : Int) ≤ (c.toNat : Int) := by omega
             have q2 : (57 : Int) < (c.toNat : Int) := by omega
             have q3 : (c.toNat : Int) < 65 := by omega
             have q4 : (c.toNat : Int) < 97 := by omega
             clear m1
             go_wp2_with fail
             go_ret
             exact ⟨by rw [HN.out]; rfl, rfl⟩)
          | (have q1 : (48 : Int) ≤ (c.toNat : Int) := by omega
             have q2 : (57 : Int) < (c.toNat : Int) := by omega
             have q3 : (65 : Int) ≤ (c.toNat : Int) := by omega
             have q5 : (70 : Int) < (c.toNat : Int) := by omega
             have q4 : (c.toNat : Int) < 97 := by omega
             clear m1
             go_wp2_with fail
             go_ret
             exact ⟨by rw [HN.out]; rfl, rfl⟩)
          | (have q1 : (48 : Int) ≤ (c.toNat : Int) := by omega
             have q2 : (57 : Int) < (c.toNat : Int) := by omega
             have q3 : (65 : Int) ≤ (c.toNat : Int) := by omega
             have q5 : (70 : Int) < (c.toNat : Int) := by omega
             have q4 : (97 : Int) ≤ (c.toNat : Int) := by omega
             have q6 : (102 : Int) < (c.toNat : Int) := by omega
             clear m1
             go_wp2_with fail
             go_ret
             exact ⟨by rw [HN.out]; rfl, rfl⟩)
    · obtain rfl : k = s.size := by omega
      have hdr := hh.out.2
      rw [List.drop_of_length_le (by rw [HL.out]; exact Nat.le_refl _)] at hdr
      have HN := Lib.hid (show puGo 16 0 s.data.toList = some acc from hdr)
      clear hdr hh
      go_wp2_with fail
      go_ret
      exact ⟨by rw [HN.out]; rfl, rfl⟩
end Go.Proofs.YtdbbgjbgmfeljaaGreatDoor
