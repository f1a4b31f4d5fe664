/-
  
-/
import Derived.Test.YtoagfmonfgagbaaGreatDoorZ15
import Derived.Test.YtoagfmonfgagbaaGreatDoorZ06
import Derived.Test.YtoagfmonfgagbaaGreatDoorZ03
import Derived.Deep.OwnRows
import Derived.Test.YtoagfmonfgagbaaGreatDoorZ23
import Derived.Lib.SplitLaws
namespace Go.Proofs.YtoagfmonfgagbaaGreatDoor
open Go.RowKit
set_option maxRecDepth 100000
theorem infoInt : (Tryz.prog.info? 3).map (fun i => (i.zero, i.size, i.bytes)) = some (some (Value.int IntKind.i64 0), 1, 8) := by kernel_rfl
theorem makeInts (n : Nat) (hn : n ≤ 1000000) (w : World) : (Instr.makeSlice 39 (.int .i64 (n : Int)) (.int .i64 (n : Int))).run Tryz.prog w = .ok (.slice (some ⟨w.heap.size, 0, none⟩) n n) (w.alloc (.cells (madeCells #[.int .i64 0] n) 3)) :=
  run_make_row' (P := Tryz.prog) 39 3 (.int .i64 0) 8 Tryz.underlying39 infoInt rfl .i64 .i64 n (by omega) (by omega) w
theorem makeStrs (n : Nat) (hn : n ≤ 1000000) (w : World) : (Instr.makeSlice 36 (.int .i64 (n : Int)) (.int .i64 (n : Int))).run Tryz.prog w = .ok (.slice (some ⟨w.heap.size, 0, none⟩) n n) (w.alloc (.cells (madeCells #[.string ByteArray.empty] n) 9)) :=
  run_make_row' (P := Tryz.prog) 36 9 (.string ByteArray.empty) 16 Tryz.underlying36 infoStr rfl .i64 .i64 n (by omega) (by omega) w
structure Ss (w : World) (b : Nat) (xs : List ByteArray) : Prop where
  at_ : ∀ (i : Nat) x, xs[i]? = some x → w.cell? ⟨b, i, none⟩ = some (.string x)
  lt : b < w.heap.size
theorem Ss.later {w w' : World} {b : Nat} {xs : List ByteArray} (h : Ss w b xs) {B : Nat} (hb : Below B w w') (hB : w.heap.size ≤ B) : Ss w' b xs :=
  ⟨fun i x hx => by rw [hb.cell (p := ⟨b, i, none⟩) (by have := h.lt; show b < B; omega)]; exact h.at_ i x hx, by have := hb.size; have := h.lt; omega⟩
inductive Dead (w : World) : Value → Prop
  | mk (b : Nat) (at_ : Int) (v : Value) : Row w b 90 [.int .i64 at_, v] → Bad w v → Dead w (.iface 84 (.pointer (some ⟨b, 0, none⟩)))
theorem Dead.later {w w' : World} {v : Value} (h : Dead w v) {B : Nat} (hb : Below B w w') (hB : w.heap.size ≤ B) : Dead w' v := by
  cases h with
  | mk b at_ v h1 h2 => exact .mk b at_ v (h1.later hb hB) (h2.later hb hB)
theorem wrap_bad (at_ : Int) (T : TypeId) (x : Value) (w : World) : Calls Tryz.prog 43 #[.int .i64 at_, .iface T x] w fun e w' =>
    e = .returned (.iface 84 (.pointer (some ⟨w.heap.size, 0, none⟩))) ∧ w.alloc (.cells #[.int .i64 at_, .iface T x] 90) = w' := by
  go_enter Tryz.func43, Tryz.ntmps43
  go_wp2
  go_ret
  exact ⟨rfl, rfl⟩
def Nums (r : Option (List Nat)) (w : World) (e : Ending) (w' : World) : Prop :=
  Below w.heap.size w w' ∧ match r with
    | some ns => ∃ g, e = .returned (.tuple #[.slice (some ⟨g, 0, none⟩) ns.length ns.length, .nilIface]) ∧ w.heap.size ≤ g ∧ Row w' g 3 (iv ns)
    | none => ∃ er, e = .returned (.tuple #[.slice none 0 0, er]) ∧ Dead w' er
set_option maxHeartbeats 1000000 in
theorem each_octet (b : Nat) (xs : List ByteArray) (cap : Nat) (hn : xs.length ≤ 1000) (hc : xs.length ≤ cap) (hcm : cap ≤ maxLen) (hx : ∀ x ∈ xs, x.size ≤ maxLen) {w : World} (hE : Env w) (hs : Ss w b xs) :
    Calls Tryz.prog 139 #[.slice (some ⟨b, 0, none⟩) xs.length cap, .func (.func 140) #[] #[]] w (Nums (allv octetv (xs.map fun x => x.data.toList)) w) := by
  unfold maxLen at hcm
  have HX := Lib.hid hx
  have HE := Lib.hid hE
  have HS := Lib.hid hs
  clear hx hE hs
  have hmk := makeInts xs.length (by omega)
  go_enter Tryz.func139, Tryz.ntmps139
  go_wp2_with fail
  have r1 := Row.new' w 3 (iv_made xs.length)
  have b1 : Below w.heap.size w (w.alloc (.cells (madeCells #[.int .i64 0] xs.length) 3)) := (Below.refl _ _).alloc (Nat.le_refl _) _
  generalize hW : w.alloc (.cells (madeCells #[.int .i64 0] xs.length) 3) = W at r1 b1 ⊢
  clear hW hmk
  have H1 := Lib.hid (And.intro r1 b1)
  clear r1 b1
  have HG := Lib.hid (Nat.le_refl w.heap.size)
  go_loopw [16] (fun i wr => ∃ (k : Nat) (done : List Nat), i = .int .i64 k ∧ k ≤ xs.length ∧ Hid (allv octetv ((xs.take k).map fun x => x.data.toList) = some done ∧ Row wr w.heap.size 3 (iv (done ++ List.replicate (xs.length - k) 0)) ∧ Below w.heap.size w wr)) (fun i _ => xs.length - (intOf i).toNat)
  case atStart => exact ⟨0, [], rfl, Nat.zero_le _, Lib.hid ⟨rfl, H1.out.1, H1.out.2⟩⟩
  case round =>
    obtain ⟨k, done, rfl, hk, hh⟩ := hrel
    by_cases hlt : k < xs.length
    · obtain ⟨x, hxk⟩ : ∃ x, xs[k]? = some x := ⟨_, List.getElem?_eq_getElem hlt⟩
      have hxm := HX.out x (List.mem_of_getElem? hxk)
      have hsn : (xs.take (k + 1)).map (fun x => x.data.toList) = (xs.take k).map (fun x => x.data.toList) ++ [x.data.toList] := by
        rw [List.take_add_one, hxk]; simp
      have hdl : done.length = k := by
        rw [allv_length hh.out.1]; simp; omega
      have hcell := ((HS.out).later hh.out.2.2 (Nat.le_refl _)).at_ k x hxk
      have hbl := HS.out.lt
      have kx := octet_any x hxm (HE.out.later hh.out.2.2 (Nat.le_refl _))
      have hrow := hh.out.2.1.cell (i := k) (v := .int .i64 0) (by
        apply iv_at (n := 0)
        rw [List.getElem?_append_right (by omega), hdl, Nat.sub_self, List.getElem?_replicate, if_pos (by omega)])
      have hfr := hh.out.2.1.frozen k
      cases hr : octetv x.data.toList with
      | some n =>
        rw [hr] at kx
        have hsn2 : allv octetv ((xs.take (k + 1)).map fun x => x.data.toList) = some (done ++ [n]) := by
          rw [hsn, allv_append, hh.out.1]
          simp [allv, hr]
        have KX := Lib.hid kx
        have HSN := Lib.hid hsn2
        have HDL := Lib.hid hdl
        have HFR := Lib.hid (And.intro hrow hfr)
        clear kx hsn hsn2 hr hdl hxk hrow hfr
        go_wp2_with fail
        refine KX.out.mono ?_
        rintro e w1 ⟨b1, rfl⟩
        have c1 := b1.cell (p := ⟨w.heap.size, k, none⟩) (by exact lt_cell HFR.out.1)
        have f1 := b1.frozen (p := ⟨w.heap.size, k, none⟩) (by exact lt_cell HFR.out.1)
        rw [HFR.out.1] at c1
        rw [HFR.out.2] at f1
        have r2 : Row (w1.setCell ⟨w.heap.size, k, none⟩ (.int .i64 n)) w.heap.size 3 (iv ((done ++ [n]) ++ List.replicate (xs.length - (k + 1)) 0)) := by
          have := (hh.out.2.1.later b1 (Nat.le_refl _)).put k (.int .i64 n)
          rw [iv_set, show xs.length - k = (xs.length - (k + 1)) + 1 by omega] at this
          have e := set_done done n (xs.length - (k + 1))
          rw [HDL.out] at e
          rw [e] at this
          exact this
        have b2 : Below w.heap.size w (w1.setCell ⟨w.heap.size, k, none⟩ (.int .i64 n)) := (hh.out.2.2.trans (b1.mono hh.out.2.2.size)).setCell (Nat.le_refl _) _
        have H2 := Lib.hid (And.intro HSN.out (And.intro r2 b2))
        clear b1 r2 b2
        go_wp2_with fail
        go_roundw
        case rel => exact ⟨k + 1, done ++ [n], by go_num, by omega, H2⟩
        case measure => simp [intOf]; omega
      | none =>
        rw [hr] at kx
        have hno : allv octetv (xs.map fun x => x.data.toList) = none := by
          have e : xs.map (fun x => x.data.toList) = (xs.take (k + 1)).map (fun x => x.data.toList) ++ (xs.drop (k + 1)).map (fun x => x.data.toList) := by rw [← List.map_append, List.take_append_drop]
          rw [e, allv_append, hsn, allv_append, hh.out.1]
          simp [allv, hr]
        have KX := Lib.hid kx
        have HNO := Lib.hid hno
        clear kx hsn hno hr hdl hxk hrow hfr
        go_wp2_with fail
        refine KX.out.mono ?_
        rintro e w1 ⟨b1, er, rfl, d1⟩
        obtain ⟨T, xv, rfl⟩ := d1.held
        have b2 := hh.out.2.2.trans (b1.mono hh.out.2.2.size)
        have H2 := Lib.hid (And.intro d1 b2)
        clear d1 b1 b2
        go_wp2_with fail
        refine (wrap_bad _ _ _ _).mono ?_
        rintro e w2 ⟨rfl, rfl⟩
        have b3 : Below w.heap.size w (w1.alloc (.cells #[.int .i64 k, .iface T xv] 90)) := H2.out.2.alloc H2.out.2.size _
        have d3 : Dead (w1.alloc (.cells #[.int .i64 k, .iface T xv] 90)) (.iface 84 (.pointer (some ⟨w1.heap.size, 0, none⟩))) := .mk w1.heap.size k _ (Row.new w1 _ _) (H2.out.1.later ((Below.refl _ _).alloc (Nat.le_refl _) _) (Nat.le_refl _))
        have H3 := Lib.hid (And.intro b3 d3)
        clear b3 d3
        go_wp2_with fail
        go_ret2
        rw [HNO.out]
        exact ⟨H3.out.1, _, rfl, H3.out.2⟩
    · obtain rfl : k = xs.length := by omega
      have h1 := hh.out.1
      rw [List.take_length] at h1
      have hl := allv_length h1
      rw [List.length_map] at hl
      have H2 := Lib.hid (And.intro hl h1)
      clear h1 hl
      go_wp2_with fail
      go_ret2
      rw [H2.out.2]
      exact ⟨hh.out.2.2, w.heap.size, by rw [H2.out.1]; rfl, Nat.le_refl _, by simpa using hh.out.2.1⟩
set_option maxHeartbeats 1000000 in
theorem each_group (b : Nat) (xs : List ByteArray) (cap : Nat) (hn : xs.length ≤ 1000) (hc : xs.length ≤ cap) (hcm : cap ≤ maxLen) (hx : ∀ x ∈ xs, x.size ≤ maxLen) {w : World} (hE : Env w) (hs : Ss w b xs) :
    Calls Tryz.prog 139 #[.slice (some ⟨b, 0, none⟩) xs.length cap, .func (.func 155) #[] #[]] w (Nums (allv groupv (xs.map fun x => x.data.toList)) w) := by
  unfold maxLen at hcm
  have HX := Lib.hid hx
  have HE := Lib.hid hE
  have HS := Lib.hid hs
  clear hx hE hs
  have hmk := makeInts xs.length (by omega)
  go_enter Tryz.func139, Tryz.ntmps139
  go_wp2_with fail
  have r1 := Row.new' w 3 (iv_made xs.length)
  have b1 : Below w.heap.size w (w.alloc (.cells (madeCells #[.int .i64 0] xs.length) 3)) := (Below.refl _ _).alloc (Nat.le_refl _) _
  generalize hW : w.alloc (.cells (madeCells #[.int .i64 0] xs.length) 3) = W at r1 b1 ⊢
  clear hW hmk
  have H1 := Lib.hid (And.intro r1 b1)
  clear r1 b1
  have HG := Lib.hid (Nat.le_refl w.heap.size)
  go_loopw [16] (fun i wr => ∃ (k : Nat) (done : List Nat), i = .int .i64 k ∧ k ≤ xs.length ∧ Hid (allv groupv ((xs.take k).map fun x => x.data.toList) = some done ∧ Row wr w.heap.size 3 (iv (done ++ List.replicate (xs.length - k) 0)) ∧ Below w.heap.size w wr)) (fun i _ => xs.length - (intOf i).toNat)
  case atStart => exact ⟨0, [], rfl, Nat.zero_le _, Lib.hid ⟨rfl, H1.out.1, H1.out.2⟩⟩
  case round =>
    obtain ⟨k, done, rfl, hk, hh⟩ := hrel
    by_cases hlt : k < xs.length
    · obtain ⟨x, hxk⟩ : ∃ x, xs[k]? = some x := ⟨_, List.getElem?_eq_getElem hlt⟩
      have hxm := HX.out x (List.mem_of_getElem? hxk)
      have hsn : (xs.take (k + 1)).map (fun x => x.data.toList) = (xs.take k).map (fun x => x.data.toList) ++ [x.data.toList] := by
        rw [List.take_add_one, hxk]; simp
      have hdl : done.length = k := by
        rw [allv_length hh.out.1]; simp; omega
      have hcell := ((HS.out).later hh.out.2.2 (Nat.le_refl _)).at_ k x hxk
      have hbl := HS.out.lt
      have kx := group_any x hxm (HE.out.later hh.out.2.2 (Nat.le_refl _))
      have hrow := hh.out.2.1.cell (i := k) (v := .int .i64 0) (by
        apply iv_at (n := 0)
        rw [List.getElem?_append_right (by omega), hdl, Nat.sub_self, List.getElem?_replicate, if_pos (by omega)])
      have hfr := hh.out.2.1.frozen k
      cases hr : groupv x.data.toList with
      | some n =>
        rw [hr] at kx
        have hsn2 : allv groupv ((xs.take (k + 1)).map fun x => x.data.toList) = some (done ++ [n]) := by
          rw [hsn, allv_append, hh.out.1]
          simp [allv, hr]
        have KX := Lib.hid kx
        have HSN := Lib.hid hsn2
        have HDL := Lib.hid hdl
        have HFR := Lib.hid (And.intro hrow hfr)
        clear kx hsn hsn2 hr hdl hxk hrow hfr
        go_wp2_with fail
        refine KX.out.mono ?_
        rintro e w1 ⟨b1, rfl⟩
        have c1 := b1.cell (p := ⟨w.heap.size, k, none⟩) (by exact lt_cell HFR.out.1)
        have f1 := b1.frozen (p := ⟨w.heap.size, k, none⟩) (by exact lt_cell HFR.out.1)
        rw [HFR.out.1] at c1
        rw [HFR.out.2] at f1
        have r2 : Row (w1.setCell ⟨w.heap.size, k, none⟩ (.int .i64 n)) w.heap.size 3 (iv ((done ++ [n]) ++ List.replicate (xs.length - (k + 1)) 0)) := by
          have := (hh.out.2.1.later b1 (Nat.le_refl _)).put k (.int .i64 n)
          rw [iv_set, show xs.length - k = (xs.length - (k + 1)) + 1 by omega] at this
          have e := set_done done n (xs.length - (k + 1))
          rw [HDL.out] at e
          rw [e] at this
          exact this
        have b2 : Below w.heap.size w (w1.setCell ⟨w.heap.size, k, none⟩ (.int .i64 n)) := (hh.out.2.2.trans (b1.mono hh.out.2.2.size)).setCell (Nat.le_refl _) _
        have H2 := Lib.hid (And.intro HSN.out (And.intro r2 b2))
        clear b1 r2 b2
        go_wp2_with fail
        go_roundw
        case rel => exact ⟨k + 1, done ++ [n], by go_num, by omega, H2⟩
        case measure => simp [intOf]; omega
      | none =>
        rw [hr] at kx
        have hno : allv groupv (xs.map fun x => x.data.toList) = none := by
          have e : xs.map (fun x => x.data.toList) = (xs.take (k + 1)).map (fun x => x.data.toList) ++ (xs.drop (k + 1)).map (fun x => x.data.toList) := by rw [← List.map_append, List.take_append_drop]
          rw [e, allv_append, hsn, allv_append, hh.out.1]
          simp [allv, hr]
        have KX := Lib.hid kx
        have HNO := Lib.hid hno
        clear kx hsn hno hr hdl hxk hrow hfr
        go_wp2_with fail
        refine KX.out.mono ?_
        rintro e w1 ⟨b1, er, rfl, d1⟩
        obtain ⟨T, xv, rfl⟩ := d1.held
        have b2 := hh.out.2.2.trans (b1.mono hh.out.2.2.size)
        have H2 := Lib.hid (And.intro d1 b2)
        clear d1 b1 b2
        go_wp2_with fail
        refine (wrap_bad _ _ _ _).mono ?_
        rintro e w2 ⟨rfl, rfl⟩
        have b3 : Below w.heap.size w (w1.alloc (.cells #[.int .i64 k, .iface T xv] 90)) := H2.out.2.alloc H2.out.2.size _
        have d3 : Dead (w1.alloc (.cells #[.int .i64 k, .iface T xv] 90)) (.iface 84 (.pointer (some ⟨w1.heap.size, 0, none⟩))) := .mk w1.heap.size k _ (Row.new w1 _ _) (H2.out.1.later ((Below.refl _ _).alloc (Nat.le_refl _) _) (Nat.le_refl _))
        have H3 := Lib.hid (And.intro b3 d3)
        clear b3 d3
        go_wp2_with fail
        go_ret2
        rw [HNO.out]
        exact ⟨H3.out.1, _, rfl, H3.out.2⟩
    · obtain rfl : k = xs.length := by omega
      have h1 := hh.out.1
      rw [List.take_length] at h1
      have hl := allv_length h1
      rw [List.length_map] at hl
      have H2 := Lib.hid (And.intro hl h1)
      clear h1 hl
      go_wp2_with fail
      go_ret2
      rw [H2.out.2]
      exact ⟨hh.out.2.2, w.heap.size, by rw [H2.out.1]; rfl, Nat.le_refl _, by simpa using hh.out.2.1⟩
end Go.Proofs.YtoagfmonfgagbaaGreatDoor

namespace Go.Proofs.YtoagfmonfgagbaaGreatDoor
open Go.RowKit
set_option maxRecDepth 100000
theorem index_one (c : UInt8) : ∀ l : List UInt8, Lib.index l [c] = if c ∈ l then ((l.takeWhile (· ≠ c)).length : Int) else -1
  | [] => by simp [Lib.index]
  | b :: r => by
    unfold Lib.index
    by_cases hb : c = b
    · subst hb; simp
    · have hb' : b ≠ c := fun e => hb e.symm
      have : [c].isPrefixOf (b :: r) = false := by show (c == b && List.isPrefixOf [] r) = false; rw [beq_eq_false_iff_ne.2 hb]; rfl
      rw [this, index_one c r]
      by_cases hm : c ∈ r
      · rw [if_pos hm, if_pos (List.mem_cons_of_mem _ hm)]
        have h0 : ((((r.takeWhile (· ≠ c)).length : Int)) == -1) = false := by rw [beq_eq_false_iff_ne]; omega
        rw [h0]
        simp [hb']
      · rw [if_neg hm, if_neg (show ¬ c ∈ b :: r from fun h => (List.mem_cons.1 h).elim hb hm)]
        simp
theorem splN_cut (c : UInt8) (k : Nat) : ∀ l : List UInt8, splN c l (k + 1) = if c ∈ l then (l.takeWhile (· ≠ c)) :: splN c (l.drop ((l.takeWhile (· ≠ c)).length + 1)) k else [l]
  | [] => by simp [splN]
  | b :: r => by
    rw [splN_cons]
    by_cases hb : b = c
    · subst hb; simp
    · rw [if_neg hb, splN_cut c k r]
      have hb' : ¬ c = b := fun e => hb e.symm
      by_cases hm : c ∈ r
      · rw [if_pos hm, if_pos (List.mem_cons_of_mem _ hm)]
        simp [onHead, hb]
      · rw [if_neg hm, if_neg (by simp [hb', hm])]
        simp [onHead]
theorem takeWhile_take {l : List UInt8} {p : UInt8 → Bool} : l.takeWhile p = l.take (l.takeWhile p).length := by
  induction l with
  | nil => rfl
  | cons b r ih =>
    rw [List.takeWhile_cons]
    split
    · rw [List.length_cons, List.take_succ_cons, ← ih]
    · rfl
theorem splitB_list (c : UInt8) : ∀ (k : Nat) (s : ByteArray), (Lib.splitB ⟨#[c]⟩ 0 k s).map (fun x => x.data.toList) = splN c s.data.toList k
  | 0, s => by rw [Lib.splitB_zero, splN_zero]; rfl
  | k + 1, s => by
    have hi : Lib.indexB s ⟨#[c]⟩ = Lib.index s.data.toList [c] := rfl
    rw [splN_cut]
    unfold Lib.splitB
    rw [hi, index_one]
    by_cases hm : c ∈ s.data.toList
    · rw [if_pos hm, if_pos hm]
      have h0 : ((((s.data.toList.takeWhile (· ≠ c)).length : Int)) == -1) = false := by rw [beq_eq_false_iff_ne]; omega
      rw [h0]
      simp only [Bool.false_eq_true, if_false, List.map_cons, splitB_list c k]
      have e1 : (s.extract 0 ((((s.data.toList.takeWhile (· ≠ c)).length : Int)).toNat + 0)).data.toList = s.data.toList.takeWhile (· ≠ c) := by
        rw [ByteArray.data_extract, Array.toList_extract, List.extract_eq_take_drop]
        conv => rhs; rw [takeWhile_take]
        simp
      have e2 : (s.extract ((((s.data.toList.takeWhile (· ≠ c)).length : Int)).toNat + (ByteArray.mk #[c]).size) s.size).data.toList = s.data.toList.drop ((s.data.toList.takeWhile (· ≠ c)).length + 1) := by
        rw [ByteArray.data_extract, Array.toList_extract, List.extract_eq_take_drop]
        have hsz : s.size = s.data.toList.length := Lib.size_eq s
        rw [show (ByteArray.mk #[c]).size = 1 from rfl, Int.toNat_natCast, hsz, ← List.length_drop, List.take_length]
      rw [e1, e2]
    · rw [if_neg hm, if_neg hm]
      rfl
theorem splitN_any (c : UInt8) (n : Nat) (hn : 1 ≤ n) (hn2 : n ≤ 1000) (s : ByteArray) (hs : s.size < 4294967281) {w : World} (hE : Env w) :
    Calls Tryz.prog 138 #[.string s, .string ⟨#[c]⟩, .int .i64 n] w fun e w' => ∃ (b : Nat) (xs : List ByteArray) (cap : Nat), e = .returned (.slice (some ⟨b, 0, none⟩) xs.length cap) ∧ xs.length ≤ cap ∧ cap ≤ 1000 ∧ xs.map (fun x => x.data.toList) = splN c s.data.toList (n - 1) ∧ Ss w' b xs ∧ Below w.heap.size w w' := by
  obtain ⟨m, hm⟩ := hE.maxLen
  refine (Tryz.strings_SplitN s ⟨#[c]⟩ n m w hs hm (Nat.le_refl _) hn (by omega)).mono fun e w' ⟨he, hw⟩ => ?_
  have hl : s.data.toList.length = s.size := (Lib.size_eq s).symm
  have hx : (Lib.splitB ⟨#[c]⟩ 0 (min n (s.size + 1) - 1) s).map (fun x => x.data.toList) = splN c s.data.toList (n - 1) := by
    rw [splitB_list]
    by_cases h : n ≤ s.size + 1
    · rw [Nat.min_eq_left h]
    · rw [Nat.min_eq_right (by omega)]
      exact splN_ge c _ _ _ (by omega) (by omega)
  have hlen : (Lib.splitB ⟨#[c]⟩ 0 (min n (s.size + 1) - 1) s).length ≤ min n (s.size + 1) := by
    have h1 := congrArg List.length (splitB_list c (min n (s.size + 1) - 1) s)
    rw [List.length_map] at h1
    have h2 := splN_len c s.data.toList (min n (s.size + 1) - 1)
    have h3 : 1 ≤ min n (s.size + 1) := by omega
    omega
  subst hw
  refine ⟨_, _, _, he, hlen, by omega, hx, ⟨fun i x hi => ?_, by simp⟩, (Below.refl _ _).alloc (Nat.le_refl _) _⟩
  rw [World.cell?_alloc_at _ _ _ _ rfl]
  unfold Lib.cellsOf
  have hi' := (List.getElem?_eq_some_iff.1 hi).1
  rw [List.getElem?_toArray, List.getElem?_append_left (by simpa using hi'), List.getElem?_map, hi]
  rfl
theorem cut_any (s sep : ByteArray) (hs : s.size < 4294967281) {w : World} (hE : Env w) :
    Calls Tryz.prog 66 #[.string s, .string sep] w fun e w' => e = .returned (.tuple #[.string ⟨(Lib.cut s.data.toList sep.data.toList).1.toArray⟩, .string ⟨(Lib.cut s.data.toList sep.data.toList).2.1.toArray⟩, .bool (Lib.cut s.data.toList sep.data.toList).2.2]) ∧ Below w.heap.size w w' := by
  obtain ⟨m, hm⟩ := hE.maxLen
  refine (Tryz.strings_Cut s sep m w hs hm).mono fun e w' ⟨he, n, hw⟩ => ⟨he, ?_⟩
  subst hw
  exact Joins.below_draws _ _ _
theorem cut_len (l sep : List UInt8) : (Lib.cut l sep).1.length ≤ l.length ∧ (Lib.cut l sep).2.1.length ≤ l.length := by
  unfold Lib.cut
  split <;> simp <;> omega
end Go.Proofs.YtoagfmonfgagbaaGreatDoor

namespace Go.Proofs.YtoagfmonfgagbaaGreatDoor
open Go.RowKit
set_option maxRecDepth 100000
theorem splN_enough (c : UInt8) : ∀ (l : List UInt8) (k k' : Nat), l.count c ≤ k → l.count c ≤ k' → splN c l k = splN c l k'
  | [], k, k', _, _ => by cases k <;> cases k' <;> simp [splN]
  | b :: r, k, k', h, h' => by
    by_cases hb : b = c
    · subst hb
      rw [List.count_cons_self] at h h'
      obtain ⟨i, rfl⟩ : ∃ i, k = i + 1 := ⟨k - 1, by omega⟩
      obtain ⟨j, rfl⟩ : ∃ j, k' = j + 1 := ⟨k' - 1, by omega⟩
      rw [splN_cons, splN_cons, if_pos rfl, if_pos rfl, splN_enough b r i j (by omega) (by omega)]
    · rw [List.count_cons_of_ne hb] at h h'
      have hz : ∀ i, r.count c = 0 → splN c (b :: r) 0 = splN c (b :: r) (i + 1) := fun i h0 => by
        rw [splN_cons, if_neg hb, splN_enough c r (i + 1) 0 (by omega) (by omega), splN_zero, splN_zero]
        rfl
      cases k with
      | zero =>
        cases k' with
        | zero => rfl
        | succ j => exact hz j (by omega)
      | succ i =>
        cases k' with
        | zero => exact (hz i (by omega)).symm
        | succ j => rw [splN_cons, splN_cons, if_neg hb, if_neg hb, splN_enough c r (i + 1) (j + 1) (by omega) (by omega)]
theorem split_all (c : UInt8) (s : ByteArray) : bts (Lib.splitB ⟨#[c]⟩ 0 (Lib.countB s ⟨#[c]⟩) s) = spl c s.data.toList ∧ Lib.countB s ⟨#[c]⟩ ≤ s.size := by
  have hc : Lib.countB s ⟨#[c]⟩ = s.data.toList.count c := by
    show Lib.count s.data.toList [c] = _
    rw [Lib.count_one]
  refine ⟨?_, Lib.countB_le ⟨#[c]⟩ (show 1 ≤ 1 from Nat.le_refl _) s.size s (Nat.le_refl _)⟩
  unfold bts spl
  rw [splitB_list, hc]
  exact splN_enough c _ _ _ (Nat.le_refl _) (List.count_le_length)
end Go.Proofs.YtoagfmonfgagbaaGreatDoor
