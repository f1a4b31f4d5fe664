/-
  
-/
import Derived.Test.YtoagfmonfgagbaaGreatDoorZ37
import Derived.Test.YtoagfmonfgagbaaGreatDoorZ25
import Derived.Test.YtoagfmonfgagbaaGreatDoorZ26
namespace Go.Proofs.YtoagfmonfgagbaaGreatDoor
open Go.RowKit
set_option maxRecDepth 100000
def spv (a b : Int) : Array Value := #[.int .i64 a, .int .i64 b]
def SpBox (w : World) (g : Nat) (a b : Int) : Prop := w.heap[g]? = some (.cells (spv a b) 180 (0, 0))
theorem results_sp_tmp {fn : Func} {p u : Tmp} (h : fn.results = #[.cell p 180, .tmp u]) (tmps : Array Value) {w : World} {g : Nat} {a b : Int} (hp : tmps.getD p undef = .pointer (some ⟨g, 0, none⟩)) (hA : SpBox w g a b) :
    (results fn tmps).run Tryz.prog w = .ok (.tuple #[.agg (spv a b), tmps.getD u undef]) w := by
  rw [results_cell_tmp h, hp]
  simp [asAddr, run_loadVar_row w g 180 180 (spv a b) (0, 0) _ hA Tryz.underlying180 rfl (show (Tryz.prog.info? 180).map (·.size) = some 2 by kernel_rfl)]
theorem SpBox.lt {w : World} {g : Nat} {a b : Int} (H : SpBox w g a b) : g < w.heap.size := (Array.getElem?_eq_some_iff.1 H).1
theorem SpBox.later {w w' : World} {g : Nat} {a b : Int} {B : Nat} (H : SpBox w g a b) (hb : Below B w w') (hB : w.heap.size ≤ B) : SpBox w' g a b := (hb.block g (by have := H.lt; omega)).trans H
theorem SpBox.cell {w : World} {g : Nat} {a b : Int} (H : SpBox w g a b) (j : Nat) : w.cell? ⟨g, j, none⟩ = (spv a b)[j]? := cell_of_row w g j _ _ _ H
theorem sp_size (a b : Int) : (Tryz.prog.info? 180).map (·.size) = some (spv a b).size := by
  show _ = some 2
  kernel_rfl
section
variable {ops : Array Oper} {rest : List Oper} {o : Oper} {a : Act} {w : World} {Q : Exit → Act → World → Prop}
theorem wp_store_sp {K : Act → World → Prop} (x y : Operand) (ho : o.op = .store 180 x y) {g : Nat} (p q : Int) {p0 q0 : Int}
    (hx : a.eval x = .pointer (some ⟨g, 0, none⟩)) (hy : a.eval y = .agg (spv p q)) (hA : SpBox w g p0 q0)
    (h : ∀ w', SpBox w' g p q → (∀ k, k ≠ g → w'.heap[k]? = w.heap[k]?) → w'.heap.size = w.heap.size → (∀ B w0, B ≤ g → Below B w0 w → Below B w0 w') → K (a.put o.dst undef) w') : o.wp Tryz.prog a w K Q :=
  wp_store_row 180 x y ho g (spv p q) hx hy 180 _ hA (sp_size p q) rfl (by simp [spv, Value.oneCell'])
    (h _ (setRow_heap w g _ _ _ _ hA) (fun k hk => setRow_other w g k _ hk) (size_setRow w g _) (fun B w0 hB hb => below_setRow hb hB _))
theorem wpList_store_sp (hgd : o.guard = none) (x y : Operand) (ho : o.op = .store 180 x y) {g : Nat} (p q : Int) {p0 q0 : Int}
    (hx : a.eval x = .pointer (some ⟨g, 0, none⟩)) (hy : a.eval y = .agg (spv p q)) (hA : SpBox w g p0 q0)
    (h : ∀ w', SpBox w' g p q → (∀ k, k ≠ g → w'.heap[k]? = w.heap[k]?) → w'.heap.size = w.heap.size → (∀ B w0, B ≤ g → Below B w0 w → Below B w0 w') → wpList Tryz.prog ops Q rest (a.put o.dst undef) w') : wpList Tryz.prog ops Q (o :: rest) a w :=
  wpList_plain hgd fun _ hK => wp_store_sp x y ho p q hx hy hA fun w' h1 h2 h3 h4 => hK _ _ (h w' h1 h2 h3 h4)
theorem wp_alloc_sp {K : Act → World → Prop} (ho : o.op = .alloc 180)
    (h : ∀ w', SpBox w' w.heap.size 0 0 → Below w.heap.size w w' → w'.heap.size = w.heap.size + 1 → K (a.put o.dst (.pointer (some ⟨w.heap.size, 0, none⟩))) w') : o.wp Tryz.prog a w K Q := by
  have h1 := h (w.alloc (.cells (spv 0 0) 180)) (heap_alloc_last w _) ((Below.refl _ w).alloc (Nat.le_refl _) _) (by simp)
  obtain ⟨dst, op, ty, pos, after, guard⟩ := o
  simp only at ho
  subst ho
  unfold spv at h1
  go_simp
  exact h1
theorem wpList_alloc_sp (hgd : o.guard = none) (ho : o.op = .alloc 180)
    (h : ∀ w', SpBox w' w.heap.size 0 0 → Below w.heap.size w w' → w'.heap.size = w.heap.size + 1 → wpList Tryz.prog ops Q rest (a.put o.dst (.pointer (some ⟨w.heap.size, 0, none⟩))) w') : wpList Tryz.prog ops Q (o :: rest) a w :=
  wpList_plain hgd fun _ hK => wp_alloc_sp ho fun w' h1 h2 h3 => hK _ _ (h w' h1 h2 h3)
end
def Spans (r : Option (Nat × Nat)) (w : World) (e : Ending) (w' : World) : Prop := Below w.heap.size w w' ∧ match r with
    | some (a, b) => a ≤ b ∧ b ≤ 65535 ∧ e = .returned (.tuple #[.agg (spv a b), .nilIface])
    | none => e = .returned (.tuple #[.agg (spv 0 0), errV 16])
set_option maxHeartbeats 1000000 in
theorem ports19 (s : ByteArray) (hs : s.size ≤ 1000000) {w : World} (hE : Env19 w) : Calls Tryz.prog 102 #[.string s] w (Spans (portsV s.data.toList) w) := by
  by_cases h42 : s = ⟨#[42]⟩
  · subst h42
    have e1 : portsV (ByteArray.mk #[42]).data.toList = some (0, 65535) := rfl
    rw [e1]
    clear hE e1
    unfold Spans
    go_enter Tryz.func102, Tryz.ntmps102
    go_wp2_with fail
    refine bodyPost_ret (results_sp_tmp rfl _ rfl (heap_alloc_last w _)) rfl ?_
    exact ⟨(Below.refl _ w).alloc (Nat.le_refl _) _, by omega, by omega, rfl⟩
  · have hne : (([42] : List UInt8) == s.toList) = false := by
      rw [beq_eq_false_iff_ne]
      intro h
      apply h42
      rw [Lib.toList_data] at h
      rw [← mkS_back s, ← h]
      rfl
    have hne2 : (s.toList == ([42] : List UInt8)) = false := by rw [beq_eq_false_iff_ne] at hne ⊢; exact fun h => hne h.symm
    have hne3 : (s == (⟨#[42]⟩ : ByteArray)) = false := by rw [ba_beq, decide_eq_false h42]
    have hne4 : decide (s = (⟨#[42]⟩ : ByteArray)) = false := decide_eq_false h42
    have hl : s.data.toList ≠ [42] := fun h => h42 (by rw [← mkS_back s, h]; rfl)
    have hcl := cut_len s.data.toList [45]
    have hsz := Lib.size_eq s
    have hpv : ∀ x o, dashV s.data.toList = (x, o) → portsV s.data.toList = (match o with
      | none => (portN x).map fun a => (a, a)
      | some y => (portN x).bind fun a => (portN y).bind fun b => if a ≤ b then some (a, b) else none) ∧ Lib.cut s.data.toList [45] = (x, o.getD [], o.isSome) := fun x o h => by
      constructor
      · unfold portsV
        rw [if_neg hl, h]
        cases o <;> rfl
      · rw [cut_dash, h]
    obtain ⟨x, o, hd⟩ : ∃ x o, dashV s.data.toList = (x, o) := ⟨_, _, rfl⟩
    obtain ⟨hp1, hc1⟩ := hpv x o hd
    rw [hc1] at hcl
    simp only at hcl
    rw [hp1]
    have KP : ∀ l : List UInt8, l.length ≤ 1000000 → ∀ w1, Below w.heap.size w w1 → Hid (Calls Tryz.prog 112 #[.string (mkS l)] w1 fun e w' => Below w1.heap.size w1 w' ∧ match portN l with
      | some n => n ≤ 65535 ∧ e = .returned (.tuple #[.int .i64 n, .nilIface])
      | none => e = .returned (.tuple #[.int .i64 0, errV 16])) := fun l hl w1 hb => by
      have := port19 (mkS l) (by rw [mkS_size]; omega) (hE.later hb (Nat.le_refl _))
      rw [mkS_data] at this
      exact this
    have hx : x.length ≤ 1000000 := by omega
    have KX := Lib.hid (KP x hx)
    have hy : (o.getD []).length ≤ 1000000 := by omega
    have KY := Lib.hid (KP (o.getD []) hy)
    have KC : ∀ w1, Below w.heap.size w w1 → Hid (Calls Tryz.prog 66 #[.string s, .string ⟨#[45]⟩] w1 fun e w' => e = .returned (.tuple #[.string (mkS x), .string (mkS (o.getD [])), .bool o.isSome]) ∧ Below w1.heap.size w1 w') := fun w1 hb => by
      have kc := cut_any s ⟨#[45]⟩ (by omega) (hE.env.later hb (Nat.le_refl _))
      rw [show (ByteArray.mk #[45]).data.toList = [45] from rfl, hc1] at kc
      exact kc
    clear hpv hd hp1 hc1 hcl hsz hE hl KP hx hy
    generalize mkS x = X at KX KC
    generalize mkS (o.getD []) = Y at KY KC
    have KC2 := Lib.hid (fun w1 (hb : Below w.heap.size w w1) => KC w1 hb)
    clear KC
    unfold Spans
    cases o with
    | none =>
      have HXY : Hid (X = X) := rfl
      clear KY
      cases hx : portN x with
      | none =>
        rw [hx] at KX
        clear hx
        go_enter Tryz.func102, Tryz.ntmps102
        go_wp2_with (refine wpList_alloc_sp rfl rfl ?_; intro w1 a1 b1 _; have H1 := Lib.hid (And.intro a1 b1); clear a1 b1)
        refine (KC2.out _ H1.out.2).out.mono ?_
        rintro e w2 ⟨rfl, b2⟩
        have H2 := Lib.hid (And.intro (H1.out.1.later b2 (Nat.le_refl _)) (H1.out.2.trans (b2.mono H1.out.2.size)))
        clear b2
        go_wp2_with fail
        refine ((KX.out) _ H2.out.2).out.mono ?_
        rintro e w3 ⟨b3, rfl⟩
        have H3 := Lib.hid (And.intro (H2.out.1.later b3 (Nat.le_refl _)) (H2.out.2.trans (b3.mono H2.out.2.size)))
        clear b3
        unfold errV
        go_wp2_with (refine wpList_store_sp rfl (.tmp 2) (.tmp 29) rfl 0 0 rfl rfl H3.out.1 ?_; intro w4 a4 _ _ b4; have H4 := Lib.hid (And.intro a4 (b4 w.heap.size w (Nat.le_refl _) H3.out.2)); clear a4 b4)
        exact bodyPost_ret (results_sp_tmp rfl _ rfl H4.out.1) rfl ⟨H4.out.2, rfl⟩
      | some n =>
        rw [hx] at KX
        clear hx
        simp only [Option.map_some]
        go_enter Tryz.func102, Tryz.ntmps102
        go_wp2_with (refine wpList_alloc_sp rfl rfl ?_; intro w1 a1 b1 _; have H1 := Lib.hid (And.intro a1 b1); clear a1 b1)
        refine (KC2.out _ H1.out.2).out.mono ?_
        rintro e w2 ⟨rfl, b2⟩
        have H2 := Lib.hid (And.intro (H1.out.1.later b2 (Nat.le_refl _)) (H1.out.2.trans (b2.mono H1.out.2.size)))
        clear b2
        go_wp2_with fail
        refine ((KX.out) _ H2.out.2).out.mono ?_
        rintro e w3 ⟨b3, hn, rfl⟩
        have H3 := Lib.hid (And.intro (H2.out.1.later b3 (Nat.le_refl _)) (H2.out.2.trans (b3.mono H2.out.2.size)))
        clear b3
        go_wp2_with fail
        refine ((KX.out) _ H3.out.2).out.mono ?_
        rintro e w4 ⟨b4, hn, rfl⟩
        have H4 := Lib.hid (And.intro (H3.out.1.later b4 (Nat.le_refl _)) (H3.out.2.trans (b4.mono H3.out.2.size)))
        clear b4
        go_wp2_with (refine wpList_store_sp rfl (.tmp 2) (.tmp 47) rfl n n rfl rfl H4.out.1 ?_; intro w5 a5 _ _ b5; have H5 := Lib.hid (And.intro a5 (b5 w.heap.size w (Nat.le_refl _) H4.out.2)); clear a5 b5)
        exact bodyPost_ret (results_sp_tmp rfl _ rfl H5.out.1) rfl ⟨H5.out.2, Nat.le_refl _, hn, rfl⟩
    | some y =>
      have e2 : (some y).getD [] = y := rfl
      rw [e2] at KY
      cases hx : portN x with
      | none =>
        rw [hx] at KX
        clear hx KY
        go_enter Tryz.func102, Tryz.ntmps102
        go_wp2_with (refine wpList_alloc_sp rfl rfl ?_; intro w1 a1 b1 _; have H1 := Lib.hid (And.intro a1 b1); clear a1 b1)
        refine (KC2.out _ H1.out.2).out.mono ?_
        rintro e w2 ⟨rfl, b2⟩
        have H2 := Lib.hid (And.intro (H1.out.1.later b2 (Nat.le_refl _)) (H1.out.2.trans (b2.mono H1.out.2.size)))
        clear b2
        go_wp2_with fail
        refine ((KX.out) _ H2.out.2).out.mono ?_
        rintro e w3 ⟨b3, rfl⟩
        have H3 := Lib.hid (And.intro (H2.out.1.later b3 (Nat.le_refl _)) (H2.out.2.trans (b3.mono H2.out.2.size)))
        clear b3
        unfold errV
        go_wp2_with (refine wpList_store_sp rfl (.tmp 2) (.tmp 29) rfl 0 0 rfl rfl H3.out.1 ?_; intro w4 a4 _ _ b4; have H4 := Lib.hid (And.intro a4 (b4 w.heap.size w (Nat.le_refl _) H3.out.2)); clear a4 b4)
        exact bodyPost_ret (results_sp_tmp rfl _ rfl H4.out.1) rfl ⟨H4.out.2, rfl⟩
      | some n =>
        rw [hx] at KX
        clear hx
        have hb0 : ((some n).bind fun a => (portN y).bind fun b => if a ≤ b then some (a, b) else none) = (portN y).bind fun b => if n ≤ b then some (n, b) else none := rfl
        show Calls _ _ _ _ (fun e w' => Below _ _ _ ∧ match ((some n).bind fun a => (portN y).bind fun b => if a ≤ b then some (a, b) else none) with | some (a, b) => _ | none => _)
        rw [hb0]
        cases hy : portN y with
        | none =>
          rw [hy] at KY
          clear hy hb0
          go_enter Tryz.func102, Tryz.ntmps102
          go_wp2_with (refine wpList_alloc_sp rfl rfl ?_; intro w1 a1 b1 _; have H1 := Lib.hid (And.intro a1 b1); clear a1 b1)
          refine (KC2.out _ H1.out.2).out.mono ?_
          rintro e w2 ⟨rfl, b2⟩
          have H2 := Lib.hid (And.intro (H1.out.1.later b2 (Nat.le_refl _)) (H1.out.2.trans (b2.mono H1.out.2.size)))
          clear b2
          go_wp2_with fail
          refine ((KX.out) _ H2.out.2).out.mono ?_
          rintro e w3 ⟨b3, hn, rfl⟩
          have H3 := Lib.hid (And.intro (H2.out.1.later b3 (Nat.le_refl _)) (H2.out.2.trans (b3.mono H2.out.2.size)))
          clear b3
          go_wp2_with fail
          refine ((KY.out) _ H3.out.2).out.mono ?_
          rintro e w4 ⟨b4, rfl⟩
          have H4 := Lib.hid (And.intro (H3.out.1.later b4 (Nat.le_refl _)) (H3.out.2.trans (b4.mono H3.out.2.size)))
          clear b4
          unfold errV
          go_wp2_with (refine wpList_store_sp rfl (.tmp 2) (.tmp 38) rfl 0 0 rfl rfl H4.out.1 ?_; intro w5 a5 _ _ b5; have H5 := Lib.hid (And.intro a5 (b5 w.heap.size w (Nat.le_refl _) H4.out.2)); clear a5 b5)
          exact bodyPost_ret (results_sp_tmp rfl _ rfl H5.out.1) rfl ⟨H5.out.2, rfl⟩
        | some m =>
          rw [hy] at KY
          clear hy hb0
          rw [Option.bind_some]
          by_cases hle : n ≤ m
          · rw [if_pos hle]
            have hle2 : ((n : Int)) ≤ (m : Int) := by omega
            go_enter Tryz.func102, Tryz.ntmps102
            go_wp2_with (refine wpList_alloc_sp rfl rfl ?_; intro w1 a1 b1 _; have H1 := Lib.hid (And.intro a1 b1); clear a1 b1)
            refine (KC2.out _ H1.out.2).out.mono ?_
            rintro e w2 ⟨rfl, b2⟩
            have H2 := Lib.hid (And.intro (H1.out.1.later b2 (Nat.le_refl _)) (H1.out.2.trans (b2.mono H1.out.2.size)))
            clear b2
            go_wp2_with fail
            refine ((KX.out) _ H2.out.2).out.mono ?_
            rintro e w3 ⟨b3, hn, rfl⟩
            have H3 := Lib.hid (And.intro (H2.out.1.later b3 (Nat.le_refl _)) (H2.out.2.trans (b3.mono H2.out.2.size)))
            clear b3
            go_wp2_with fail
            refine ((KY.out) _ H3.out.2).out.mono ?_
            rintro e w4 ⟨b4, hn, rfl⟩
            have H4 := Lib.hid (And.intro (H3.out.1.later b4 (Nat.le_refl _)) (H3.out.2.trans (b4.mono H3.out.2.size)))
            clear b4
            go_wp2_with (refine wpList_store_sp rfl (.tmp 2) (.tmp 47) rfl n m rfl rfl H4.out.1 ?_; intro w5 a5 _ _ b5; have H5 := Lib.hid (And.intro a5 (b5 w.heap.size w (Nat.le_refl _) H4.out.2)); clear a5 b5)
            exact bodyPost_ret (results_sp_tmp rfl _ rfl H5.out.1) rfl ⟨H5.out.2, hle, hn, rfl⟩
          · rw [if_neg hle]
            have hle2 : (m : Int) < (n : Int) := by omega
            clear hle
            go_enter Tryz.func102, Tryz.ntmps102
            go_wp2_with (refine wpList_alloc_sp rfl rfl ?_; intro w1 a1 b1 _; have H1 := Lib.hid (And.intro a1 b1); clear a1 b1)
            refine (KC2.out _ H1.out.2).out.mono ?_
            rintro e w2 ⟨rfl, b2⟩
            have H2 := Lib.hid (And.intro (H1.out.1.later b2 (Nat.le_refl _)) (H1.out.2.trans (b2.mono H1.out.2.size)))
            clear b2
            go_wp2_with fail
            refine ((KX.out) _ H2.out.2).out.mono ?_
            rintro e w3 ⟨b3, hn, rfl⟩
            have H3 := Lib.hid (And.intro (H2.out.1.later b3 (Nat.le_refl _)) (H2.out.2.trans (b3.mono H2.out.2.size)))
            clear b3
            go_wp2_with fail
            refine ((KY.out) _ H3.out.2).out.mono ?_
            rintro e w4 ⟨b4, hm, rfl⟩
            have H4 := Lib.hid (And.intro (H3.out.1.later b4 (Nat.le_refl _)) (H3.out.2.trans (b4.mono H3.out.2.size)))
            clear b4
            go_wp2_with (refine wpList_store_sp rfl (.tmp 2) (.tmp 43) rfl 0 0 rfl rfl H4.out.1 ?_; intro w5 a5 _ _ b5; have H5 := Lib.hid (And.intro a5 (b5 w.heap.size w (Nat.le_refl _) H4.out.2)); clear a5 b5)
            exact bodyPost_ret (results_sp_tmp rfl _ rfl H5.out.1) rfl ⟨H5.out.2, rfl⟩
end Go.Proofs.YtoagfmonfgagbaaGreatDoor

namespace Go.Proofs.YtoagfmonfgagbaaGreatDoor
open Go.RowKit
set_option maxRecDepth 100000
theorem beq_one (c : UInt8) (s : ByteArray) (hs : ¬ s = ⟨#[c]⟩) : (([c] : List UInt8) == s.toList) = false := by
  rw [beq_eq_false_iff_ne]
  intro h
  apply hs
  rw [Lib.toList_data] at h
  rw [← mkS_back s, ← h]
  rfl
theorem index_ge (c : UInt8) : ∀ l : List UInt8, decide (0 ≤ Lib.indexByte l c) = l.contains c
  | [] => rfl
  | b :: l => by
    unfold Lib.indexByte
    have ih := index_ge c l
    by_cases hb : b = c
    · subst hb
      simp
    · have hb' : (b == c) = false := beq_eq_false_iff_ne.2 hb
      simp only [hb', Bool.false_eq_true, if_false]
      rw [List.contains_cons, beq_eq_false_iff_ne.2 (fun e => hb e.symm), Bool.false_or, ← ih]
      apply decide_eq_decide.2
      split <;> rename_i h <;> first | (simp at h; omega) | skip
      all_goals (constructor <;> intro h2 <;> simp_all <;> omega)
theorem indexB35 (s : ByteArray) (w : World) : Calls Tryz.prog 114 #[.string s, .int .u8 35] w fun e w' => e = .returned (.int .i64 (Lib.indexByte s.data.toList 35)) ∧ w = w' := by
  go_enter Tryz.func114, Tryz.ntmps114
  go_wp2
  rw [run_callFunc_extern Tryz.func131 (by kernel_rfl) (by kernel_rfl) (by kernel_rfl) (e := Extern.BytealgIndexByte.indexByte) (by kernel_rfl), Lib.run_indexByteString]
  simp only [Result.andThen]
  rw [Oper.upon_value]
  go_wp2
  go_ret
  exact ⟨rfl, rfl⟩
theorem index35 (s : ByteArray) (w : World) : Calls Tryz.prog 105 #[.string s, .string ⟨#[35]⟩] w fun e w' => ∃ k : Int, e = .returned (.int .i64 k) ∧ decide (0 ≤ k) = s.data.toList.contains 35 ∧ w = w' := by
  by_cases hs : s = ⟨#[35]⟩
  · subst hs
    go_enter Tryz.func105, Tryz.ntmps105
    go_wp2_with fail
    go_ret
    exact ⟨0, rfl, rfl, rfl⟩
  have hne := beq_one 35 s hs
  have K := Lib.hid (indexB35 s w)
  clear hs
  go_enter Tryz.func105, Tryz.ntmps105
  go_wp2_with fail
  refine K.out.mono ?_
  rintro e w' ⟨rfl, rfl⟩
  go_wp2_with fail
  go_ret
  exact ⟨_, rfl, index_ge 35 _, rfl⟩
theorem contains35 (s : ByteArray) (w : World) : Calls Tryz.prog 126 #[.string s, .string ⟨#[35]⟩] w fun e w' => e = .returned (.bool (s.data.toList.contains 35)) ∧ w = w' := by
  have K : Calls Tryz.prog 146 #[.string s, .string ⟨#[35]⟩] w fun e w' => ∃ k : Int, e = .returned (.int .i64 k) ∧ decide (0 ≤ k) = s.data.toList.contains 35 ∧ w = w' := by
    have K := Lib.hid (index35 s w)
    go_enter Tryz.func146, Tryz.ntmps146
    go_wp2_with fail
    refine K.out.mono ?_
    rintro e w' ⟨k, rfl, hk, rfl⟩
    have HK := Lib.hid hk
    clear hk
    go_wp2_with fail
    go_ret
    exact ⟨k, rfl, HK.out, rfl⟩
  have K := Lib.hid K
  go_enter Tryz.func126, Tryz.ntmps126
  go_wp2_with fail
  refine K.out.mono ?_
  rintro e w' ⟨k, rfl, hk, rfl⟩
  have HK := Lib.hid hk
  clear hk K
  go_wp2_with fail
  go_ret
  exact ⟨by rw [← HK.out]; rfl, rfl⟩
theorem wild_pre (l : List UInt8) : wildB l = true ↔ ∃ t, l = 42 :: 46 :: t := by
  constructor
  · intro h
    match l, h with
    | a :: b :: t, h =>
      unfold wildB at h
      simp only [Bool.and_eq_true, beq_iff_eq] at h
      exact ⟨t, by rw [h.1, h.2]⟩
  · rintro ⟨t, rfl⟩
    rfl
theorem hasPreL19 (s : ByteArray) (hs : s.size ≤ 1000000) (w : World) : Calls Tryz.prog 148 #[.string s, .string ⟨#[42, 46]⟩] w fun e w' => e = .returned (.bool (wildB s.data.toList)) ∧ w = w' := by
  have hsz := Lib.size_eq s
  by_cases h2 : 2 ≤ s.size
  · have he : ((s.extract 0 2).toList == ([42, 46] : List UInt8)) = wildB s.data.toList := by
      rw [Lib.toList_data, ByteArray.data_extract, Array.toList_extract, List.extract_eq_take_drop]
      cases hl : s.data.toList with
      | nil => have h9 := hsz; rw [hl] at h9; simp only [List.length_nil] at h9; omega
      | cons a r =>
        cases r with
        | nil => have h9 := hsz; rw [hl] at h9; simp only [List.length_cons, List.length_nil] at h9; omega
        | cons b t => unfold wildB; simp
    have he2 : (([42, 46] : List UInt8) == (s.extract 0 2).toList) = wildB s.data.toList := by
      rw [← he, Bool.eq_iff_iff, beq_iff_eq, beq_iff_eq]
      exact eq_comm
    generalize wildB s.data.toList = b at he he2 ⊢
    clear hsz
    go_enter Tryz.func148, Tryz.ntmps148
    go_wp2_with fail
    go_ret
    exact ⟨rfl, rfl⟩
  · have hw : wildB s.data.toList = false := by
      cases hl : s.data.toList with
      | nil => rfl
      | cons a r =>
        cases r with
        | nil => rfl
        | cons b t => have h9 := hsz; rw [hl] at h9; simp only [List.length_cons] at h9; omega
    rw [hw]
    clear hsz hw
    go_enter Tryz.func148, Tryz.ntmps148
    go_wp2_with fail
    go_ret
    exact ⟨rfl, rfl⟩
theorem hasPre19 (s : ByteArray) (hs : s.size ≤ 1000000) (w : World) : Calls Tryz.prog 128 #[.string s, .string ⟨#[42, 46]⟩] w fun e w' => e = .returned (.bool (wildB s.data.toList)) ∧ w = w' := by
  have K := Lib.hid (hasPreL19 s hs w)
  generalize wildB s.data.toList = b at K ⊢
  go_enter Tryz.func128, Tryz.ntmps128
  go_wp2_with fail
  refine K.out.mono ?_
  rintro e w' ⟨rfl, rfl⟩
  go_wp2_with fail
  go_ret
  exact ⟨rfl, rfl⟩
def hostV (l : List UInt8) : List UInt8 := if wildB l then l.drop 2 else l
theorem cutPre19 (s : ByteArray) (hs : s.size ≤ 1000000) (w : World) : Calls Tryz.prog 127 #[.string s, .string ⟨#[42, 46]⟩] w fun e w' => e = .returned (.tuple #[.string (mkS (hostV s.data.toList)), .bool (wildB s.data.toList)]) ∧ w = w' := by
  have k : Calls Tryz.prog 147 #[.string s, .string ⟨#[42, 46]⟩] w fun e w' => e = .returned (.tuple #[.string (mkS (hostV s.data.toList)), .bool (wildB s.data.toList)]) ∧ w = w' := by
    have K := Lib.hid (hasPreL19 s hs w)
    have hsz := Lib.size_eq s
    unfold hostV
    cases hw : wildB s.data.toList with
    | false =>
      rw [hw] at K
      rw [if_neg (by decide), mkS_back]
      clear hw hsz
      go_enter Tryz.func147, Tryz.ntmps147
      go_wp2_with fail
      refine K.out.mono ?_
      rintro e w' ⟨rfl, rfl⟩
      go_wp2_with fail
      go_ret2
      exact ⟨rfl, rfl⟩
    | true =>
      have h2 : 2 ≤ s.size := by
        obtain ⟨t, ht⟩ := (wild_pre _).1 hw
        rw [hsz, ht]
        simp
      have he : mkS (s.data.toList.drop 2) = s.extract 2 s.size := by
        apply ByteArray.ext
        apply Array.ext'
        rw [ByteArray.data_extract, Array.toList_extract, List.extract_eq_take_drop, hsz]
        simp [mkS]
        rw [List.take_of_length_le (by simp)]
      rw [hw] at K
      rw [if_pos rfl, he]
      clear hw hsz he
      go_enter Tryz.func147, Tryz.ntmps147
      go_wp2_with fail
      refine K.out.mono ?_
      rintro e w' ⟨rfl, rfl⟩
      go_wp2_with fail
      go_ret2
      exact ⟨rfl, rfl⟩
  have K := Lib.hid k
  generalize mkS (hostV s.data.toList) = x at K ⊢
  generalize wildB s.data.toList = b at K ⊢
  clear k
  go_enter Tryz.func127, Tryz.ntmps127
  go_wp2_with fail
  refine K.out.mono ?_
  rintro e w' ⟨rfl, rfl⟩
  go_wp2_with fail
  go_ret2
  exact ⟨rfl, rfl⟩
def numR : Option Int → Int → Value
  | some n, _ => .tuple #[.int .i64 n, .nilIface]
  | none, k => .tuple #[.int .i64 0, errV k]
theorem kw_or (s : ByteArray) (k : List UInt8) : s = mkS k ∨ (s.data.toList ≠ k ∧ (s.toList == k) = false ∧ (k == s.toList) = false) := by
  by_cases h : s.data.toList = k
  · left; rw [← mkS_back s, h]
  · right
    refine ⟨h, ?_, ?_⟩
    · rw [beq_eq_false_iff_ne, Lib.toList_data]; exact h
    · rw [beq_eq_false_iff_ne, Lib.toList_data]; exact fun e => h e.symm
set_option maxHeartbeats 2000000 in
theorem proto19 (s : ByteArray) {w : World} (hE : Env19 w) : Calls Tryz.prog 100 #[.string s] w fun e w' => Below w.heap.size w w' ∧ e = .returned (numR (protoV s.data.toList) 15) := by
  obtain ⟨b, off, hv, hq⟩ := hE.prot
  obtain ⟨a0, a1⟩ := hq 0 _ rfl
  obtain ⟨b0, b1⟩ := hq 1 _ rfl
  obtain ⟨c0, c1⟩ := hq 2 _ rfl
  obtain ⟨d0, d1⟩ := hq 3 _ rfl
  simp only [Nat.zero_mul, Nat.add_zero, Nat.reduceMul, Nat.reduceAdd, Nat.add_assoc] at a0 a1 b0 b1 c0 c1 d0 d1
  have hb := lt_cell a0
  clear hq hE
  go_enter Tryz.func100, Tryz.ntmps100
  go_wp2_with fail
  go_loopw [8] (fun i wr => ∃ k : Nat, k ≤ 4 ∧ i = .int .i64 k ∧ Hid ((1 ≤ k → s.data.toList ≠ kwTcp) ∧ (2 ≤ k → s.data.toList ≠ kwUdp) ∧ (3 ≤ k → s.data.toList ≠ kwIcmp) ∧ (4 ≤ k → s.data.toList ≠ kwAny)) ∧ Below w.heap.size w wr) (fun i _ => 4 - (intOf i).toNat)
  case atStart => exact ⟨0, by omega, rfl, ⟨fun h => absurd h (by omega), fun h => absurd h (by omega), fun h => absurd h (by omega), fun h => absurd h (by omega)⟩, Below.refl _ _⟩
  case round =>
    obtain ⟨k, hk, rfl, HX, hbe⟩ := hrel
    rcases (show k = 0 ∨ k = 1 ∨ k = 2 ∨ k = 3 ∨ k = 4 by omega) with rfl | rfl | rfl | rfl | rfl
    · have e0 : wr.cell? ⟨b, off, none⟩ = some (.string (mkS kwTcp)) := (hbe.cell (p := ⟨b, off, none⟩) hb).trans a0
      have e1 : wr.cell? ⟨b, off + 1, none⟩ = some (.int .i64 6) := (hbe.cell (p := ⟨b, off + 1, none⟩) hb).trans a1
      have HB := Lib.hid hbe
      clear a0 a1 b0 b1 c0 c1 d0 d1 hbe hv
      rcases kw_or s kwTcp with rfl | ⟨hne, hn1, hn2⟩
      · have hpv : protoV (mkS kwTcp).data.toList = some 6 := by rw [mkS_data]; rfl
        have HP := Lib.hid hpv
        clear hpv HX
        go_wp2_with fail
        go_ret2
        exact ⟨HB.out.alloc HB.out.size _, by rw [HP.out]; rfl⟩
      · have hn3 : ((mkS kwTcp).toList == s.toList) = false := by rw [Lib.toList_data, mkS_data]; exact hn2
        have HX2 := Lib.hid (And.intro hne HX.out)
        clear hne HX hn1 hn2
        go_wp2_with fail
        exact ⟨⟨1, by omega, rfl, ⟨(fun _ => HX2.out.1), (fun h => absurd h (by omega)), (fun h => absurd h (by omega)), (fun h => absurd h (by omega))⟩, HB.out.alloc HB.out.size _⟩, by simp [intOf]⟩
    · have e0 : wr.cell? ⟨b, off + 2, none⟩ = some (.string (mkS kwUdp)) := (hbe.cell (p := ⟨b, off + 2, none⟩) hb).trans b0
      have e1 : wr.cell? ⟨b, off + 3, none⟩ = some (.int .i64 17) := (hbe.cell (p := ⟨b, off + 3, none⟩) hb).trans b1
      have HB := Lib.hid hbe
      clear a0 a1 b0 b1 c0 c1 d0 d1 hbe hv
      rcases kw_or s kwUdp with rfl | ⟨hne, hn1, hn2⟩
      · have hpv : protoV (mkS kwUdp).data.toList = some 17 := by rw [mkS_data]; rfl
        have HP := Lib.hid hpv
        clear hpv HX
        go_wp2_with fail
        go_ret2
        exact ⟨HB.out.alloc HB.out.size _, by rw [HP.out]; rfl⟩
      · have hn3 : ((mkS kwUdp).toList == s.toList) = false := by rw [Lib.toList_data, mkS_data]; exact hn2
        have HX2 := Lib.hid (And.intro hne HX.out)
        clear hne HX hn1 hn2
        go_wp2_with fail
        exact ⟨⟨2, by omega, rfl, ⟨(fun h => HX2.out.2.1 (by omega)), (fun _ => HX2.out.1), (fun h => absurd h (by omega)), (fun h => absurd h (by omega))⟩, HB.out.alloc HB.out.size _⟩, by simp [intOf]⟩
    · have e0 : wr.cell? ⟨b, off + 4, none⟩ = some (.string (mkS kwIcmp)) := (hbe.cell (p := ⟨b, off + 4, none⟩) hb).trans c0
      have e1 : wr.cell? ⟨b, off + 5, none⟩ = some (.int .i64 1) := (hbe.cell (p := ⟨b, off + 5, none⟩) hb).trans c1
      have HB := Lib.hid hbe
      clear a0 a1 b0 b1 c0 c1 d0 d1 hbe hv
      rcases kw_or s kwIcmp with rfl | ⟨hne, hn1, hn2⟩
      · have hpv : protoV (mkS kwIcmp).data.toList = some 1 := by rw [mkS_data]; rfl
        have HP := Lib.hid hpv
        clear hpv HX
        go_wp2_with fail
        go_ret2
        exact ⟨HB.out.alloc HB.out.size _, by rw [HP.out]; rfl⟩
      · have hn3 : ((mkS kwIcmp).toList == s.toList) = false := by rw [Lib.toList_data, mkS_data]; exact hn2
        have HX2 := Lib.hid (And.intro hne HX.out)
        clear hne HX hn1 hn2
        go_wp2_with fail
        exact ⟨⟨3, by omega, rfl, ⟨(fun h => HX2.out.2.1 (by omega)), (fun h => HX2.out.2.2.1 (by omega)), (fun _ => HX2.out.1), (fun h => absurd h (by omega))⟩, HB.out.alloc HB.out.size _⟩, by simp [intOf]⟩
    · have e0 : wr.cell? ⟨b, off + 6, none⟩ = some (.string (mkS kwAny)) := (hbe.cell (p := ⟨b, off + 6, none⟩) hb).trans d0
      have e1 : wr.cell? ⟨b, off + 7, none⟩ = some (.int .i64 256) := (hbe.cell (p := ⟨b, off + 7, none⟩) hb).trans d1
      have HB := Lib.hid hbe
      clear a0 a1 b0 b1 c0 c1 d0 d1 hbe hv
      rcases kw_or s kwAny with rfl | ⟨hne, hn1, hn2⟩
      · have hpv : protoV (mkS kwAny).data.toList = some 256 := by rw [mkS_data]; rfl
        have HP := Lib.hid hpv
        clear hpv HX
        go_wp2_with fail
        go_ret2
        exact ⟨HB.out.alloc HB.out.size _, by rw [HP.out]; rfl⟩
      · have hn3 : ((mkS kwAny).toList == s.toList) = false := by rw [Lib.toList_data, mkS_data]; exact hn2
        have HX2 := Lib.hid (And.intro hne HX.out)
        clear hne HX hn1 hn2
        go_wp2_with fail
        exact ⟨⟨4, by omega, rfl, ⟨(fun h => HX2.out.2.1 (by omega)), (fun h => HX2.out.2.2.1 (by omega)), (fun h => HX2.out.2.2.2.1 (by omega)), (fun _ => HX2.out.1)⟩, HB.out.alloc HB.out.size _⟩, by simp [intOf]⟩
    · have HB := Lib.hid hbe
      have hpv : protoV s.data.toList = none := by
        unfold protoV
        rw [if_neg (HX.out.1 (by omega)), if_neg (HX.out.2.1 (by omega)), if_neg (HX.out.2.2.1 (by omega)), if_neg (HX.out.2.2.2 (by omega))]
      have HP := Lib.hid hpv
      clear a0 a1 b0 b1 c0 c1 d0 d1 hbe hv hpv HX
      go_wp2_with fail
      go_ret2
      exact ⟨HB.out, by rw [HP.out]; rfl⟩
end Go.Proofs.YtoagfmonfgagbaaGreatDoor
