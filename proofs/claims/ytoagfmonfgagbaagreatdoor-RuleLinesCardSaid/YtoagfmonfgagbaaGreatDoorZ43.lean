/-
  
-/
import Derived.Test.YtoagfmonfgagbaaGreatDoorZ38
import Derived.Test.YtoagfmonfgagbaaGreatDoorZ29
import Derived.Test.YtoagfmonfgagbaaGreatDoorZ42
import Derived.Test.YtoagfmonfgagbaaGreatDoorZ37
import Derived.Test.YtoagfmonfgagbaaGreatDoorZ19
import Derived.Test.YtoagfmonfgagbaaGreatDoorZ26
import Derived.Test.YtoagfmonfgagbaaGreatDoorZ07
namespace Go.Proofs.YtoagfmonfgagbaaGreatDoor
open Go.RowKit
set_option maxRecDepth 100000
def fx : Fx Ad19 (Bool × List UInt8 × Nat) where
  pa := parsev
  ta := fun a => textv a.1 a.2
  ra := fun a => a.2.length == 16 && rightv a.1 a.2
  pn := parsenetv
  tn := fun p => textnetv p.1 p.2.1 p.2.2
  rn := fun p => p.2.1.length == 16 && rightnetv p.1 p.2.1 p.2.2
  nm := fun l => decide (rightN l)
def rwOf (allow : Bool) (q : Sum (List UInt8 × Bool) (Bool × List UInt8 × Nat)) (pr lo hi : Int) : Rw := match q with
  | .inl p => ⟨allow, p.1, p.2, false, List.replicate 16 0, 0, pr, lo, hi⟩
  | .inr n => ⟨allow, [], false, n.1, n.2.1, n.2.2, pr, lo, hi⟩
section
variable {ops : Array Oper} {rest : List Oper} {o : Oper} {a : Act} {w : World} {Q : Exit → Act → World → Prop}
theorem run_build_rw0 (w : World) : (Instr.build 55 #[]).run Tryz.prog w = .ok (.agg (rwv rw0)) w := by kernel_rfl
theorem run_build_rwN (n : List UInt8) (b : Bool) (w : World) : (Instr.build 55 #[(1, .string (mkS n)), (2, .bool b)]).run Tryz.prog w = .ok (.agg (rwv (rwOf false (.inl (n, b)) 0 0 0))) w := by kernel_rfl
theorem run_build_rwP (v6 : Bool) {bs : List UInt8} (hl : bs.length = 16) (n : Int) (w : World) : (Instr.build 55 #[(3, .agg (pxv v6 bs n))]).run Tryz.prog w = .ok (.agg (rwv ⟨false, [], false, v6, bs, n, 0, 0, 0⟩)) w := by
  obtain ⟨_, _, _, _, _, _, _, _, _, _, _, _, _, _, _, _, rfl⟩ := explicit16 hl
  kernel_rfl
theorem wpList_build_rw0 (hgd : o.guard = none) (ho : o.op = .build 55 #[])
    (h : wpList Tryz.prog ops Q rest (a.put o.dst (.agg (rwv rw0))) w) : wpList Tryz.prog ops Q (o :: rest) a w :=
  wpList_plain hgd fun _ hK => by
    have hrun := run_build_rw0 w
    unfold Oper.wp execOp
    simp only [ho, Sem.run_bind, Sem.run_pure, Result.andThen_ok, List.map_toArray, List.map_nil, hrun]
    exact hK _ _ h
theorem wpList_build_rwN (hgd : o.guard = none) (x y : Operand) (ho : o.op = .build 55 #[(1, x), (2, y)]) (n : List UInt8) (b : Bool) (hx : a.eval x = .string (mkS n)) (hy : a.eval y = .bool b)
    (h : wpList Tryz.prog ops Q rest (a.put o.dst (.agg (rwv (rwOf false (.inl (n, b)) 0 0 0)))) w) : wpList Tryz.prog ops Q (o :: rest) a w :=
  wpList_plain hgd fun _ hK => by
    have hrun := run_build_rwN n b w
    unfold Oper.wp execOp
    simp only [ho, Sem.run_bind, Sem.run_pure, Result.andThen_ok, List.map_toArray, List.map_cons, List.map_nil, hx, hy, hrun]
    exact hK _ _ h
theorem wpList_build_rwP (hgd : o.guard = none) (x : Operand) (ho : o.op = .build 55 #[(3, x)]) (v6 : Bool) {bs : List UInt8} (hl : bs.length = 16) (n : Int) (hx : a.eval x = .agg (pxv v6 bs n))
    (h : wpList Tryz.prog ops Q rest (a.put o.dst (.agg (rwv ⟨false, [], false, v6, bs, n, 0, 0, 0⟩))) w) : wpList Tryz.prog ops Q (o :: rest) a w :=
  wpList_plain hgd fun _ hK => by
    have hrun := run_build_rwP v6 hl n w
    unfold Oper.wp execOp
    simp only [ho, Sem.run_bind, Sem.run_pure, Result.andThen_ok, List.map_toArray, List.map_cons, List.map_nil, hx, hrun]
    exact hK _ _ h
end
theorem results_rw_tmp {fn : Func} {p u : Tmp} (h : fn.results = #[.cell p 55, .tmp u]) (tmps : Array Value) {w : World} {g : Nat} {r : Rw} (hp : tmps.getD p undef = .pointer (some ⟨g, 0, none⟩)) (hA : RwBox w g r) :
    (results fn tmps).run Tryz.prog w = .ok (.tuple #[.agg (rwv r), tmps.getD u undef]) w := by
  rw [results_cell_tmp h, hp]
  simp [asAddr, run_loadVar_row w g 55 55 (rwv r) (0, 0) _ hA.1 Tryz.underlying55 rfl (rw_size hA.2)]
def PatR (r : Option (Sum (List UInt8 × Bool) (Bool × List UInt8 × Nat))) (k : Int) (w : World) (e : Ending) (w' : World) : Prop := Below w.heap.size w w' ∧ match r with
  | some q => (rwOf false q 0 0 0).ok ∧ e = .returned (.tuple #[.agg (rwv (rwOf false q 0 0 0)), .nilIface])
  | none => e = .returned (.tuple #[.agg (rwv rw0), errV k])
theorem spl_wild (t : List UInt8) : spl 46 (42 :: 46 :: t) = [42] :: spl 46 t := by
  unfold spl
  have h := spl_cons 46 [42] t (t.length + 1) (by decide)
  show splN 46 ([42] ++ 46 :: t) (t.length + 1 + 1) = _
  have hc := List.count_le_length (a := (46 : UInt8)) (l := t)
  rw [h, splN_enough 46 t (t.length + 1) t.length (by omega) hc]
theorem right_wild {t : List UInt8} (h : rightN (42 :: 46 :: t)) : rightN t ∧ t ≠ [] := by
  have e : labsN (42 :: 46 :: t) = [42] :: spl 46 t := by
    unfold labsN
    rw [if_neg (by simp)]
    exact spl_wild t
  unfold rightN at h
  rw [e] at h
  have ht : t ≠ [] := by
    rintro rfl
    have := h.1 [] (by simp [spl, splN])
    exact absurd this.2.1 (by simp)
  refine ⟨⟨fun x hx => ?_, ?_⟩, ht⟩
  · unfold labsN at hx
    rw [if_neg ht] at hx
    exact h.1 x (List.mem_cons_of_mem _ hx)
  · have h2 := h.2
    unfold labsN
    rw [if_neg ht]
    have e2 : sizeL ([42] :: spl 46 t) = 2 + sizeL (spl 46 t) := rfl
    omega
theorem pattern_ord (l : List UInt8) : patternV fx l = if l = [] ∨ ¬ rightN l ∨ l.contains 35 = true then none else if wildB (hostV l) then none else some (hostV l, wildB l) := by
  unfold patternV hostV
  cases hw : wildB l with
  | false =>
    simp only [Bool.false_eq_true, if_false]
    unfold plainN
    show (if (decide (rightN l) && !l.isEmpty && !l.contains 35 && !wildB l) = true then _ else _) = _
    rw [hw]
    by_cases h1 : l = []
    · subst h1; rfl
    · by_cases h2 : rightN l
      · cases h3 : l.contains 35 <;> simp [h1, h2]
      · simp [h1, h2]
  | true =>
    obtain ⟨t, rfl⟩ := (wild_pre l).1 hw
    simp only [if_true]
    show (if (decide (rightN (42 :: 46 :: t)) && plainN fx t) = true then some (t, true) else none) = if (42 :: 46 :: t) = [] ∨ ¬ rightN (42 :: 46 :: t) ∨ (42 :: 46 :: t).contains 35 = true then none else if wildB t = true then none else some (t, true)
    by_cases h2 : rightN (42 :: 46 :: t)
    · obtain ⟨h3, h4⟩ := right_wild h2
      have h5 : (42 :: 46 :: t).contains 35 = t.contains 35 := by simp
      unfold plainN
      show (if (decide (rightN (42 :: 46 :: t)) && (decide (rightN t) && !t.isEmpty && !t.contains 35 && !wildB t)) = true then _ else _) = _
      rw [h5]
      have h6 : t.isEmpty = false := by cases t with | nil => exact absurd rfl h4 | cons _ _ => rfl
      rw [decide_eq_true h2, decide_eq_true h3, h6]
      cases h7 : t.contains 35 <;> cases h8 : wildB t <;> simp [h2]
    · rw [decide_eq_false h2]
      simp [h2]
set_option maxHeartbeats 2000000 in
theorem pattern19 (s : ByteArray) (hs : s.size ≤ 1000000) {w : World} (hE : Env19 w) : Calls Tryz.prog 110 #[.string s] w (PatR ((patternV fx s.data.toList).map .inl) 13 w) := by
  have ho := pattern_ord s.data.toList
  have hsz := Lib.size_eq s
  rw [ho]
  have KR : ∀ w1, Below w.heap.size w w1 → Hid (Calls Tryz.prog 125 #[.string s] w1 fun e w' => e = .returned (.bool (decide (rightN s.data.toList))) ∧ Below w1.heap.size w1 w') := fun w1 hb => right_any s hs (hE.env.later hb (Nat.le_refl _))
  have KR := Lib.hid KR
  have KC := Lib.hid (fun w1 => contains35 s w1)
  have KP := Lib.hid (fun w1 => cutPre19 s hs w1)
  have hh : (hostV s.data.toList).length ≤ s.size := by
    unfold hostV
    split
    · rw [List.length_drop]; omega
    · omega
  have KH := Lib.hid (fun w1 => hasPre19 (mkS (hostV s.data.toList)) (by rw [mkS_size]; omega) w1)
  rw [mkS_data] at KH
  unfold PatR
  clear ho hE hh
  by_cases h0 : s.size = 0
  · have hl : s.data.toList = [] := List.eq_nil_of_length_eq_zero (by omega)
    have hse : s = ⟨#[]⟩ := by rw [← mkS_back s, hl]; rfl
    rw [if_pos (.inl hl)]
    subst hse
    clear KR KC KP KH hl hsz h0
    go_enter Tryz.func110, Tryz.ntmps110
    go_wp2_with (first
      | (refine wpList_alloc_rw rfl rfl ?_; intro w1 a1 b1 _; have H1 := Lib.hid (And.intro a1 b1); clear a1 b1)
      | (refine wpList_build_rw0 rfl rfl ?_)
      | (refine wpList_store_rw rfl (.tmp 2) (.tmp 17) rfl rw0 rfl rfl rw0_ok H1.out.1 ?_; intro w2 a2 _ _ b2; have H2 := Lib.hid (And.intro a2 (b2 w.heap.size w (Nat.le_refl _) H1.out.2)); clear a2 b2))
    exact bodyPost_ret (results_rw_tmp rfl _ rfl H2.out.1) rfl ⟨H2.out.2, rfl⟩
  have hl : s.data.toList ≠ [] := fun e => h0 (by rw [hsz, e]; rfl)
  have e0 : s.toList.isEmpty = false := by
    rw [Lib.toList_data]
    cases hd : s.data.toList with
    | nil => exact absurd hd hl
    | cons _ _ => rfl
  generalize s.data.toList = l at KR KC KP KH hl ⊢
  generalize hX : mkS (hostV l) = X at KP KH
  clear hsz
  by_cases hr : rightN l
  · rw [decide_eq_true hr] at KR
    cases h35 : l.contains 35 with
    | true =>
      rw [h35] at KC
      rw [if_pos (.inr (.inr rfl))]
      clear KP KH hl hr h35 hX
      go_enter Tryz.func110, Tryz.ntmps110
      go_wp2_with (refine wpList_alloc_rw rfl rfl ?_; intro w1 a1 b1 _; have H1 := Lib.hid (And.intro a1 b1); clear a1 b1)
      refine (KR.out _ H1.out.2).out.mono ?_
      rintro e w2 ⟨rfl, b2⟩
      have H2 := Lib.hid (And.intro (H1.out.1.later b2 (Nat.le_refl _)) (H1.out.2.trans (b2.mono H1.out.2.size)))
      clear b2
      go_wp2_with fail
      refine (KC.out _).mono ?_
      rintro e w3 ⟨rfl, rfl⟩
      go_wp2_with (first
        | (refine wpList_build_rw0 rfl rfl ?_)
        | (refine wpList_store_rw rfl (.tmp 2) (.tmp 17) rfl rw0 rfl rfl rw0_ok H2.out.1 ?_; intro w4 a4 _ _ b4; have H4 := Lib.hid (And.intro a4 (b4 w.heap.size w (Nat.le_refl _) H2.out.2)); clear a4 b4))
      exact bodyPost_ret (results_rw_tmp rfl _ rfl H4.out.1) rfl ⟨H4.out.2, rfl⟩
    | false =>
      rw [h35] at KC
      rw [if_neg (by simp [hl, hr])]
      clear hl hr h35
      cases hw : wildB (hostV l) with
      | true =>
        rw [hw] at KH
        rw [if_pos rfl]
        clear hw hX
        generalize wildB l = bw at KP
        go_enter Tryz.func110, Tryz.ntmps110
        go_wp2_with (refine wpList_alloc_rw rfl rfl ?_; intro w1 a1 b1 _; have H1 := Lib.hid (And.intro a1 b1); clear a1 b1)
        refine (KR.out _ H1.out.2).out.mono ?_
        rintro e w2 ⟨rfl, b2⟩
        have H2 := Lib.hid (And.intro (H1.out.1.later b2 (Nat.le_refl _)) (H1.out.2.trans (b2.mono H1.out.2.size)))
        clear b2
        go_wp2_with fail
        refine (KC.out _).mono ?_
        rintro e w3 ⟨rfl, rfl⟩
        go_wp2_with fail
        refine (KP.out _).mono ?_
        rintro e w3 ⟨rfl, rfl⟩
        go_wp2_with fail
        refine (KH.out _).mono ?_
        rintro e w3 ⟨rfl, rfl⟩
        go_wp2_with (first
          | (refine wpList_build_rw0 rfl rfl ?_)
          | (refine wpList_store_rw rfl (.tmp 2) (.tmp 26) rfl rw0 rfl rfl rw0_ok H2.out.1 ?_; intro w4 a4 _ _ b4; have H4 := Lib.hid (And.intro a4 (b4 w.heap.size w (Nat.le_refl _) H2.out.2)); clear a4 b4))
        exact bodyPost_ret (results_rw_tmp rfl _ rfl H4.out.1) rfl ⟨H4.out.2, rfl⟩
      | false =>
        rw [hw] at KH
        rw [if_neg (by decide)]
        clear hw
        generalize hbw : wildB l = bw at KP ⊢
        have HX := Lib.hid hX
        clear hbw hX
        simp only [Option.map_some]
        go_enter Tryz.func110, Tryz.ntmps110
        go_wp2_with (refine wpList_alloc_rw rfl rfl ?_; intro w1 a1 b1 _; have H1 := Lib.hid (And.intro a1 b1); clear a1 b1)
        refine (KR.out _ H1.out.2).out.mono ?_
        rintro e w2 ⟨rfl, b2⟩
        have H2 := Lib.hid (And.intro (H1.out.1.later b2 (Nat.le_refl _)) (H1.out.2.trans (b2.mono H1.out.2.size)))
        clear b2
        go_wp2_with fail
        refine (KC.out _).mono ?_
        rintro e w3 ⟨rfl, rfl⟩
        go_wp2_with fail
        refine (KP.out _).mono ?_
        rintro e w3 ⟨rfl, rfl⟩
        go_wp2_with fail
        refine (KH.out _).mono ?_
        rintro e w3 ⟨rfl, rfl⟩
        go_wp2_with (first
          | (refine wpList_build_rwN rfl (.tmp 28) (.tmp 29) rfl (hostV l) bw (congrArg Value.string HX.out.symm) rfl ?_)
          | (refine wpList_store_rw rfl (.tmp 2) (.tmp 30) rfl (rwOf false (.inl (hostV l, bw)) 0 0 0) rfl rfl rfl H2.out.1 ?_; intro w4 a4 _ _ b4; have H4 := Lib.hid (And.intro a4 (b4 w.heap.size w (Nat.le_refl _) H2.out.2)); clear a4 b4))
        exact bodyPost_ret (results_rw_tmp rfl _ rfl H4.out.1) rfl ⟨H4.out.2, rfl, rfl⟩
  · rw [decide_eq_false hr] at KR
    rw [if_pos (.inr (.inl hr))]
    clear KP KH hl hr hX KC
    go_enter Tryz.func110, Tryz.ntmps110
    go_wp2_with (refine wpList_alloc_rw rfl rfl ?_; intro w1 a1 b1 _; have H1 := Lib.hid (And.intro a1 b1); clear a1 b1)
    refine (KR.out _ H1.out.2).out.mono ?_
    rintro e w2 ⟨rfl, b2⟩
    have H2 := Lib.hid (And.intro (H1.out.1.later b2 (Nat.le_refl _)) (H1.out.2.trans (b2.mono H1.out.2.size)))
    clear b2
    go_wp2_with (first
      | (refine wpList_build_rw0 rfl rfl ?_)
      | (refine wpList_store_rw rfl (.tmp 2) (.tmp 17) rfl rw0 rfl rfl rw0_ok H2.out.1 ?_; intro w4 a4 _ _ b4; have H4 := Lib.hid (And.intro a4 (b4 w.heap.size w (Nat.le_refl _) H2.out.2)); clear a4 b4))
    exact bodyPost_ret (results_rw_tmp rfl _ rfl H4.out.1) rfl ⟨H4.out.2, rfl⟩
set_option maxHeartbeats 1000000 in
theorem net19 (s : ByteArray) (hs : s.size ≤ 1000000) {w : World} (hE : Env19 w) : Calls Tryz.prog 111 #[.string s] w (PatR ((parsenetv s.data.toList).map .inr) 17 w) := by
  have K : ∀ w1, Below w.heap.size w w1 → Hid (Calls Tryz.prog 129 #[.string s] w1 (Pn (parsenetv s.data.toList) w1)) := fun w1 hb => ParseNet_any s (by omega) (hE.env.later hb (Nat.le_refl _))
  have K := Lib.hid K
  clear hE
  generalize parsenetv s.data.toList = r at K ⊢
  unfold PatR
  cases r with
  | none =>
    go_enter Tryz.func111, Tryz.ntmps111
    go_wp2_with (refine wpList_alloc_rw rfl rfl ?_; intro w1 a1 b1 _; have H1 := Lib.hid (And.intro a1 b1); clear a1 b1)
    refine (K.out _ H1.out.2).out.mono ?_
    rintro e w2 ⟨b2, rfl⟩
    have H2 := Lib.hid (And.intro (H1.out.1.later b2 (Nat.le_refl _)) (H1.out.2.trans (b2.mono H1.out.2.size)))
    clear b2
    go_wp2_with (first
      | (refine wpList_alloc_px rfl rfl ?_; intro w3 a3 b3 _; have H3 := Lib.hid (And.intro a3 (And.intro (H2.out.1.later b3 (Nat.le_refl _)) (And.intro H2.out.1.lt (And.intro b3 (H2.out.2.trans (b3.mono H2.out.2.size)))))); clear a3 b3)
      | (refine wpList_store_px rfl (.tmp 4) (.tmp 9) rfl false (List.replicate 16 0) 0 rfl rfl rfl H3.out.1 ?_; intro w4 a4 o4 _ b4; have H4 := Lib.hid (And.intro a4 (And.intro (RwBox.same H3.out.2.1 (o4 _ (by have := H3.out.2.2.1; omega))) (b4 _ _ H2.out.2.size H3.out.2.2.2.2))); clear a4 o4 b4)
      | (refine wpList_load_px' rfl (.tmp 4) rfl rfl rfl H4.out.1.range ?_)
      | (refine wpList_build_rwP rfl (.tmp 11) rfl false rfl 0 rfl ?_)
      | (refine wpList_store_rw rfl (.tmp 2) (.tmp 12) rfl rw0 rfl rfl rw0_ok H4.out.2.1 ?_; intro w5 a5 _ _ b5; have H5 := Lib.hid (And.intro a5 (b5 w.heap.size w (Nat.le_refl _) H4.out.2.2)); clear a5 b5))
    exact bodyPost_ret (results_rw_tmp rfl _ rfl H5.out.1) rfl ⟨H5.out.2, rfl⟩
  | some x =>
    obtain ⟨v6, bs, n⟩ := x
    simp only [Option.map_some]
    go_enter Tryz.func111, Tryz.ntmps111
    go_wp2_with (refine wpList_alloc_rw rfl rfl ?_; intro w1 a1 b1 _; have H1 := Lib.hid (And.intro a1 b1); clear a1 b1)
    refine (K.out _ H1.out.2).out.mono ?_
    rintro e w2 ⟨b2, hl, rfl⟩
    have H2 := Lib.hid (And.intro (H1.out.1.later b2 (Nat.le_refl _)) (H1.out.2.trans (b2.mono H1.out.2.size)))
    have HLn := Lib.hid hl
    clear b2 hl
    go_wp2_with (first
      | (refine wpList_alloc_px rfl rfl ?_; intro w3 a3 b3 _; have H3 := Lib.hid (And.intro a3 (And.intro (H2.out.1.later b3 (Nat.le_refl _)) (And.intro H2.out.1.lt (And.intro b3 (H2.out.2.trans (b3.mono H2.out.2.size)))))); clear a3 b3)
      | (refine wpList_store_px rfl (.tmp 4) (.tmp 9) rfl v6 bs n rfl rfl HLn.out H3.out.1 ?_; intro w4 a4 o4 _ b4; have H4 := Lib.hid (And.intro a4 (And.intro (RwBox.same H3.out.2.1 (o4 _ (by have := H3.out.2.2.1; omega))) (b4 _ _ H2.out.2.size H3.out.2.2.2.2))); clear a4 o4 b4)
      | (refine wpList_load_px' rfl (.tmp 4) rfl rfl HLn.out H4.out.1.range ?_)
      | (refine wpList_build_rwP rfl (.tmp 11) rfl v6 HLn.out n rfl ?_)
      | (refine wpList_store_rw rfl (.tmp 2) (.tmp 12) rfl ⟨false, [], false, v6, bs, n, 0, 0, 0⟩ rfl rfl HLn.out H4.out.2.1 ?_; intro w5 a5 _ _ b5; have H5 := Lib.hid (And.intro a5 (b5 w.heap.size w (Nat.le_refl _) H4.out.2.2)); clear a5 b5))
    exact bodyPost_ret (results_rw_tmp rfl _ rfl H5.out.1) rfl ⟨H5.out.2, HLn.out, rfl⟩
end Go.Proofs.YtoagfmonfgagbaaGreatDoor

namespace Go.Proofs.YtoagfmonfgagbaaGreatDoor
open Go.RowKit
set_option maxRecDepth 100000
theorem eql_a9 {x y : Bool × List UInt8} (hx : A9ok x) (hy : A9ok y) (w : World) : (binOp .eql 51 (.agg (a9v x)) (.agg (a9v y))).run Tryz.prog w = .ok (.bool (decide (x = y))) w := by
  have h := eql_ad x.1 y.1 hx hy w
  have e : ((x.1 == y.1) && (x.2 == y.2)) = decide (x = y) := by
    rw [Bool.eq_iff_iff, Bool.and_eq_true, beq_iff_eq, beq_iff_eq, decide_eq_true_iff, Prod.ext_iff]
  rw [e] at h
  exact h
set_option maxHeartbeats 2000000 in
theorem indexA19 {A : Option Addr} {n c : Nat} {xs : List Ad19} {w : World} (hb : A9S w A n c xs) {x : Ad19} (hx : A9ok x) : Calls Tryz.prog 124 #[.slice A n c, .agg (a9v x)] w fun e w' =>
    ∃ r : Int, e = .returned (.int .i64 r) ∧ decide (0 ≤ r) = decide (x ∈ xs) ∧ Below w.heap.size w w' := by
  have hcap := hb.cap
  have hmax := hb.max
  unfold maxLen at hmax
  have hlen := hb.len
  have hG : AdBox (w.alloc (.cells (a9v x) 51)) w.heap.size x.1 x.2 := AdBox.new w x.1 hx
  have hB : Below w.heap.size w (w.alloc (.cells (a9v x) 51)) := (Below.refl _ w).alloc (Nat.le_refl _) _
  obtain ⟨W, hW⟩ : ∃ W, w.alloc (.cells (a9v x) 51) = W := ⟨_, rfl⟩
  rw [hW] at hG hB
  have HB := Lib.hid (And.intro (hb.later hB (Nat.le_refl _)) (And.intro hG (And.intro hB hb.ok)))
  have HW := Lib.hid hW
  have HL := Lib.hid hlen
  clear hb hG hB hW hlen
  obtain ⟨v, hv⟩ : ∃ v, a9v x = v := ⟨_, rfl⟩
  have HV := Lib.hid hv
  rw [hv] at HW ⊢
  clear hv
  go_enter Tryz.func124, Tryz.ntmps124
  go_wp2_with (rw [HW.out])
  go_loopw [8] (fun i wr => ∃ k : Nat, k ≤ n ∧ i = .int .i64 k ∧ Hid (∀ (j : Nat) y, j < k → xs[j]? = some y → x ≠ y) ∧ Below W.heap.size W wr) (fun i _ => n - (intOf i).toNat)
  case atStart => exact ⟨0, Nat.zero_le _, rfl, fun j x h => absurd h (by omega), Below.refl _ _⟩
  case round =>
    obtain ⟨k, hk, rfl, hall, hbe⟩ := hrel
    by_cases hkn : k < n
    · obtain ⟨y, hxk⟩ : ∃ y, xs[k]? = some y := ⟨xs[k]'(by have := HL.out; omega), List.getElem?_eq_getElem _⟩
      obtain ⟨b, off, hA, hr⟩ := (HB.out.1.later hbe (Nat.le_refl _)).here k y hxk
      obtain rfl := hA
      have hok := HB.out.2.2.2 y (List.mem_of_getElem? hxk)
      have hgx := HB.out.2.1.later hbe (Nat.le_refl _)
      have HX := Lib.hid (And.intro hxk (And.intro hbe (And.intro hgx (And.intro hr hok))))
      have he : ∀ w, (binOp .eql 51 (.agg v) (.agg (a9v y))).run Tryz.prog w = .ok (.bool (decide (x = y))) w := fun w => by rw [← HV.out]; exact eql_a9 hx hok w
      have HE := Lib.hid he
      clear hxk hbe hgx hr hok he
      obtain ⟨d, hd⟩ : ∃ d, decide (x = y) = d := ⟨_, rfl⟩
      rw [hd] at HE
      have HD := Lib.hid hd
      clear hd
      go_wp2_with fail
      have hS : Below wr.heap.size wr wr.drew := (Below.refl _ _).drew
      have he := HE.out
      refine rg_begin (fun w' => Below wr.heap.size wr w') 6 (by kernel_rfl) rfl ?_
      refine rg_load 0 rfl (by kernel_rfl) (by kernel_rfl) (by kernel_rfl) w.heap.size 0 v (fun _ _ _ h => h) (by rfl) 51 (.tmp 3) rfl rfl hS (fun w2 h2 => by rw [← HV.out]; exact (AdBox.later HX.out.2.2.1 h2 (Nat.le_refl _)).range) Tryz.underlying51 rfl (by rw [← HV.out]; exact ad_size x.1 hx) ?_
      simp only [Act.put, List.setIfInBounds_toArray, List.set_cons_zero, List.set_cons_succ]
      refine rg_take 1 (v := ?rv1) rfl (by kernel_rfl) (by kernel_rfl) (by kernel_rfl) (fun _ _ _ h => h) (by rfl) hS (fun w2 hw2 => ?ry1) ?rr1
      case ry1 => ((try dsimp only at hw2); go_simp <;> with_reducible rfl)
      simp only [Act.put, List.setIfInBounds_toArray, List.set_cons_zero, List.set_cons_succ]
      refine rg_take 2 (v := ?rv2) rfl (by kernel_rfl) (by kernel_rfl) (by kernel_rfl) (fun _ _ _ h => h) (by rfl) hS (fun w2 hw2 => ?ry2) ?rr2
      case ry2 => ((try dsimp only at hw2); go_simp <;> with_reducible rfl)
      simp only [Act.put, List.setIfInBounds_toArray, List.set_cons_zero, List.set_cons_succ]
      refine rg_take 3 (v := ?rv3) rfl (by kernel_rfl) (by kernel_rfl) (by kernel_rfl) (fun _ _ _ h => h) (by rfl) hS (fun w2 hw2 => ?ry3) ?rr3
      case ry3 => ((try dsimp only at hw2); go_simp <;> with_reducible rfl)
      simp only [Act.put, List.setIfInBounds_toArray, List.set_cons_zero, List.set_cons_succ]
      refine rg_load 4 rfl (by kernel_rfl) (by kernel_rfl) (by kernel_rfl) b (off + k * 17) (a9v y) (fun _ _ _ h => h) (by rfl) 51 (.tmp 14) rfl rfl hS (fun w2 h2 => range_kept HX.out.2.2.2.1 h2 (Nat.le_refl _)) Tryz.underlying51 rfl (ad_size y.1 HX.out.2.2.2.2) ?_
      simp only [Act.put, List.setIfInBounds_toArray, List.set_cons_zero, List.set_cons_succ]
      refine rg_take 5 (v := ?rv4) rfl (by kernel_rfl) (by kernel_rfl) (by kernel_rfl) (fun _ _ _ h => h) (by rfl) hS (fun w2 hw2 => ?ry4) ?rr4
      case ry4 => ((try dsimp only at hw2); go_simp <;> with_reducible rfl)
      simp only [Act.put, List.setIfInBounds_toArray, List.set_cons_zero, List.set_cons_succ]
      refine rg_done (by kernel_rfl) ?_
      cases d with
      | false =>
        go_wp2_with fail
        refine ⟨⟨k + 1, hkn, by go_num, fun j z hj hz => ?_, HX.out.2.1.trans (hS.mono HX.out.2.1.size)⟩, by simp [intOf]; omega⟩
        by_cases hjk : j = k
        · subst hjk
          rw [HX.out.1] at hz
          obtain rfl := Option.some.inj hz
          exact of_decide_eq_false HD.out
        · exact hall.out j z (by omega) hz
      | true =>
        go_wp2_with fail
        go_ret
        refine ⟨k, rfl, ?_, HB.out.2.2.1.trans ((HX.out.2.1.trans (hS.mono HX.out.2.1.size)).mono HB.out.2.2.1.size)⟩
        rw [decide_eq_true (show (0 : Int) ≤ (k : Int) by omega), decide_eq_true]
        rw [of_decide_eq_true HD.out]
        exact List.mem_of_getElem? HX.out.1
    · obtain rfl : k = n := by omega
      have HX := Lib.hid hbe
      clear hbe
      go_wp2_with fail
      go_ret
      refine ⟨-1, rfl, ?_, HB.out.2.2.1.trans (HX.out.mono HB.out.2.2.1.size)⟩
      rw [decide_eq_false (show ¬ (0 : Int) ≤ -1 by decide), decide_eq_false]
      intro hm
      obtain ⟨j, hj⟩ := List.mem_iff_getElem?.1 hm
      exact hall.out j x (by have := (List.getElem?_eq_some_iff.1 hj).1; have := HL.out; omega) hj rfl
theorem containsA19 {A : Option Addr} {n c : Nat} {xs : List Ad19} {w : World} (hb : A9S w A n c xs) {x : Ad19} (hx : A9ok x) : Calls Tryz.prog 109 #[.slice A n c, .agg (a9v x)] w fun e w' =>
    e = .returned (.bool (decide (x ∈ xs))) ∧ Below w.heap.size w w' := by
  have hG : AdBox (w.alloc (.cells (a9v x) 51)) w.heap.size x.1 x.2 := AdBox.new w x.1 hx
  have hB : Below w.heap.size w (w.alloc (.cells (a9v x) 51)) := (Below.refl _ w).alloc (Nat.le_refl _) _
  obtain ⟨W, hW⟩ : ∃ W, w.alloc (.cells (a9v x) 51) = W := ⟨_, rfl⟩
  rw [hW] at hG hB
  have K := Lib.hid (indexA19 (hb.later hB (Nat.le_refl _)) hx)
  have HB := Lib.hid (And.intro hG hB)
  have HW := Lib.hid hW
  clear hb hG hB hW
  obtain ⟨v, hv⟩ : ∃ v, a9v x = v := ⟨_, rfl⟩
  have HV := Lib.hid hv
  rw [hv] at HW ⊢
  have KV := Lib.hid (hv ▸ K.out)
  clear K hv
  go_enter Tryz.func109, Tryz.ntmps109
  go_wp2_with (first | rw [HW.out] | (refine wpList_load_row_w (by rfl) 51 (.tmp 3) rfl w.heap.size 0 rfl v _ (by rw [← HV.out]; exact HB.out.1.range) Tryz.underlying51 rfl (by rw [← HV.out]; exact ad_size x.1 hx) ?_))
  refine KV.out.mono ?_
  rintro e w2 ⟨r, rfl, hr, b2⟩
  have H2 := Lib.hid (And.intro hr (HB.out.2.trans (b2.mono HB.out.2.size)))
  clear hr b2
  go_wp2_with fail
  go_ret
  exact ⟨by rw [← H2.out.1]; rfl, H2.out.2⟩
def anotherV (xs : List Ad19) (l : List UInt8) : Sum Int Ad19 := match parsev l with
  | none => .inl 17
  | some x => if x ∈ xs then .inl 19 else if 20 ≤ xs.length then .inl 4 else .inr x
theorem four_len {l bs : List UInt8} (h4 : four l = some (some bs)) : bs.length = 16 := by
  unfold four at h4
  split at h4
  · rename_i hlen
    obtain ⟨ns, hns, rfl⟩ : ∃ ns, allv octetv (splN 46 l 3) = some ns ∧ ab4 ns = bs := by
      cases hn : allv octetv (splN 46 l 3) with
      | none => rw [hn] at h4; simp at h4
      | some ns => rw [hn] at h4; exact ⟨ns, rfl, by simpa using h4⟩
    have hn4 : ns.length = 4 := by rw [allv_length hns]; exact hlen
    unfold ab4
    rw [List.length_append, List.length_map, List.length_replicate]
    omega
  · cases h4
theorem six_len {l bs : List UInt8} (h : six l = some bs) : bs.length = 16 := by
  unfold six at h
  cases hx : groupsv (Lib.cut l [58, 58]).1 with
  | none => rw [hx] at h; cases h
  | some x =>
    cases hy : groupsv (Lib.cut l [58, 58]).2.1 with
    | none => rw [hx, hy] at h; cases h
    | some y =>
      rw [hx, hy, Option.bind_some, Option.bind_some] at h
      split at h
      · rename_i hc
        cases h
        rw [g2_len, List.length_append, List.length_append, List.length_replicate]
        omega
      · cases h
theorem parsev_len {l : List UInt8} {x : Ad19} (h : parsev l = some x) : x.2.length = 16 := by
  unfold parsev at h
  split at h
  · rename_i bs hf
    cases h
    exact four_len hf
  · cases h
  · cases hs : six l with
    | none => rw [hs] at h; cases h
    | some bs => rw [hs] at h; cases h; exact six_len hs
theorem anotherV_ok {xs : List Ad19} {l : List UInt8} {x : Ad19} (h : anotherV xs l = .inr x) : x.2.length = 16 := by
  unfold anotherV at h
  split at h
  · cases h
  · rename_i y hy
    split at h
    · cases h
    split at h
    · cases h
    · cases h
      exact parsev_len hy
def a9z : Ad19 := (false, List.replicate 16 0)
def AnR (r : Sum Int Ad19) (w : World) (e : Ending) (w' : World) : Prop := Below w.heap.size w w' ∧ match r with
  | .inr x => A9ok x ∧ e = .returned (.tuple #[.agg (a9v x), .nilIface])
  | .inl k => e = .returned (.tuple #[.agg (a9v a9z), errV k])
set_option maxHeartbeats 2000000 in
theorem another19 {A : Option Addr} {n c : Nat} {xs : List Ad19} (s : ByteArray) (hs : s.size ≤ 1000000) {w : World} (hb : A9S w A n c xs) (hE : Env19 w) : Calls Tryz.prog 95 #[.slice A n c, .string s] w (AnR (anotherV xs s.data.toList) w) := by
  have hcap := hb.cap
  have hmax := hb.max
  unfold maxLen at hmax
  have hlen := hb.len
  have K : ∀ w1, Below w.heap.size w w1 → Hid (Calls Tryz.prog 108 #[.string s] w1 (Pa (parsev s.data.toList) w1)) := fun w1 hb => Parse_any s (by omega) (hE.env.later hb (Nat.le_refl _))
  have K := Lib.hid K
  have KC : ∀ w1, Below w.heap.size w w1 → ∀ x : Ad19, A9ok x → Hid (Calls Tryz.prog 109 #[.slice A n c, .agg (a9v x)] w1 fun e w' => e = .returned (.bool (decide (x ∈ xs))) ∧ Below w1.heap.size w1 w') := fun w1 hb1 x hx => containsA19 (hb.later hb1 (Nat.le_refl _)) hx
  have KC := Lib.hid KC
  unfold anotherV AnR
  clear hE hb
  generalize parsev s.data.toList = r at K ⊢
  cases r with
  | none =>
    clear KC hlen
    go_enter Tryz.func95, Tryz.ntmps95
    go_wp2_with (refine wpList_alloc_ad rfl rfl ?_; intro w1 a1 b1 _; have H1 := Lib.hid (And.intro a1 b1); clear a1 b1)
    refine (K.out _ H1.out.2).out.mono ?_
    rintro e w2 ⟨b2, rfl⟩
    have H2 := Lib.hid (And.intro (H1.out.1.later b2 (Nat.le_refl _)) (H1.out.2.trans (b2.mono H1.out.2.size)))
    clear b2
    go_wp2_with (first
      | (refine wpList_alloc_ad rfl rfl ?_; intro w3 a3 b3 _; have H3 := Lib.hid (And.intro a3 (And.intro (H2.out.1.later b3 (Nat.le_refl _)) (And.intro H2.out.1.lt (And.intro b3 (H2.out.2.trans (b3.mono H2.out.2.size)))))); clear a3 b3)
      | (refine wpList_store_ad rfl (.tmp 6) (.tmp 11) rfl false (List.replicate 16 0) rfl rfl rfl H3.out.1 ?_; intro w4 a4 o4 _ b4; have H4 := Lib.hid (And.intro a4 (And.intro (AdBox.same H3.out.2.1 (o4 _ (by have := H3.out.2.2.1; omega))) (b4 _ _ H2.out.2.size H3.out.2.2.2.2))); clear a4 o4 b4)
      | (refine wpList_store_ad rfl (.tmp 4) (.tmp 16) rfl false (List.replicate 16 0) rfl rfl rfl H4.out.2.1 ?_; intro w5 a5 _ _ b5; have H5 := Lib.hid (And.intro a5 (b5 w.heap.size w (Nat.le_refl _) H4.out.2.2)); clear a5 b5))
    exact bodyPost_ret (results_ad_tmp rfl _ rfl H5.out.1) rfl ⟨H5.out.2, rfl⟩
  | some x =>
    obtain ⟨v6, bs⟩ := x
    simp only
    obtain ⟨d, hd⟩ : ∃ d, decide ((v6, bs) ∈ xs) = d := ⟨_, rfl⟩
    have HD := Lib.hid hd
    clear hd
    rw [hlen]
    have HN := Lib.hid hlen
    clear hlen
    by_cases h20 : 20 ≤ n
    · have h20' : (20 : Int) ≤ (n : Int) := by omega
      cases d with
      | true =>
        rw [if_pos (of_decide_eq_true HD.out)]
        go_enter Tryz.func95, Tryz.ntmps95
        go_wp2_with (refine wpList_alloc_ad rfl rfl ?_; intro w1 a1 b1 _; have H1 := Lib.hid (And.intro a1 b1); clear a1 b1)
        refine (K.out _ H1.out.2).out.mono ?_
        rintro e w2 ⟨b2, hl, rfl⟩
        have HLn := Lib.hid hl
        have H2 := Lib.hid (And.intro (H1.out.1.later b2 (Nat.le_refl _)) (H1.out.2.trans (b2.mono H1.out.2.size)))
        clear b2 hl
        go_wp2_with (first
          | (refine wpList_alloc_ad rfl rfl ?_; intro w3 a3 b3 _; have H3 := Lib.hid (And.intro a3 (And.intro (H2.out.1.later b3 (Nat.le_refl _)) (And.intro H2.out.1.lt (And.intro b3 (H2.out.2.trans (b3.mono H2.out.2.size)))))); clear a3 b3)
          | (refine wpList_store_ad rfl (.tmp 6) (.tmp 11) rfl v6 bs rfl rfl HLn.out H3.out.1 ?_; intro w4 a4 o4 _ b4; have H4 := Lib.hid (And.intro a4 (And.intro (AdBox.same H3.out.2.1 (o4 _ (by have := H3.out.2.2.1; omega))) (b4 _ _ H2.out.2.size H3.out.2.2.2.2))); clear a4 o4 b4)
          | (refine wpList_load_ad rfl (.tmp 6) rfl rfl H4.out.1 ?_))
        refine (KC.out _ H4.out.2.2 (v6, bs) HLn.out).out.mono ?_
        rw [HD.out]
        rintro e w5 ⟨rfl, b5⟩
        have H5 := Lib.hid (And.intro (H4.out.1.later b5 (Nat.le_refl _)) (And.intro (H4.out.2.1.later b5 (Nat.le_refl _)) (H4.out.2.2.trans (b5.mono H4.out.2.2.size))))
        clear b5
        go_wp2_with (first
          | (refine wpList_store_ad rfl (.tmp 4) (.tmp 22) rfl false (List.replicate 16 0) rfl rfl rfl H5.out.2.1 ?_; intro w6 a6 _ _ b6; have H6 := Lib.hid (And.intro a6 (b6 w.heap.size w (Nat.le_refl _) H5.out.2.2)); clear a6 b6))
        exact bodyPost_ret (results_ad_tmp rfl _ rfl H6.out.1) rfl ⟨H6.out.2, rfl⟩
      | false =>
        rw [if_neg (of_decide_eq_false HD.out), if_pos h20]
        go_enter Tryz.func95, Tryz.ntmps95
        go_wp2_with (refine wpList_alloc_ad rfl rfl ?_; intro w1 a1 b1 _; have H1 := Lib.hid (And.intro a1 b1); clear a1 b1)
        refine (K.out _ H1.out.2).out.mono ?_
        rintro e w2 ⟨b2, hl, rfl⟩
        have HLn := Lib.hid hl
        have H2 := Lib.hid (And.intro (H1.out.1.later b2 (Nat.le_refl _)) (H1.out.2.trans (b2.mono H1.out.2.size)))
        clear b2 hl
        go_wp2_with (first
          | (refine wpList_alloc_ad rfl rfl ?_; intro w3 a3 b3 _; have H3 := Lib.hid (And.intro a3 (And.intro (H2.out.1.later b3 (Nat.le_refl _)) (And.intro H2.out.1.lt (And.intro b3 (H2.out.2.trans (b3.mono H2.out.2.size)))))); clear a3 b3)
          | (refine wpList_store_ad rfl (.tmp 6) (.tmp 11) rfl v6 bs rfl rfl HLn.out H3.out.1 ?_; intro w4 a4 o4 _ b4; have H4 := Lib.hid (And.intro a4 (And.intro (AdBox.same H3.out.2.1 (o4 _ (by have := H3.out.2.2.1; omega))) (b4 _ _ H2.out.2.size H3.out.2.2.2.2))); clear a4 o4 b4)
          | (refine wpList_load_ad rfl (.tmp 6) rfl rfl H4.out.1 ?_))
        refine (KC.out _ H4.out.2.2 (v6, bs) HLn.out).out.mono ?_
        rw [HD.out]
        rintro e w5 ⟨rfl, b5⟩
        have H5 := Lib.hid (And.intro (H4.out.1.later b5 (Nat.le_refl _)) (And.intro (H4.out.2.1.later b5 (Nat.le_refl _)) (H4.out.2.2.trans (b5.mono H4.out.2.2.size))))
        clear b5
        go_wp2_with (first
          | (refine wpList_store_ad rfl (.tmp 4) (.tmp 28) rfl false (List.replicate 16 0) rfl rfl rfl H5.out.2.1 ?_; intro w6 a6 _ _ b6; have H6 := Lib.hid (And.intro a6 (b6 w.heap.size w (Nat.le_refl _) H5.out.2.2)); clear a6 b6))
        exact bodyPost_ret (results_ad_tmp rfl _ rfl H6.out.1) rfl ⟨H6.out.2, rfl⟩
    · have h20' : (n : Int) < 20 := by omega
      cases d with
      | true =>
        rw [if_pos (of_decide_eq_true HD.out)]
        go_enter Tryz.func95, Tryz.ntmps95
        go_wp2_with (refine wpList_alloc_ad rfl rfl ?_; intro w1 a1 b1 _; have H1 := Lib.hid (And.intro a1 b1); clear a1 b1)
        refine (K.out _ H1.out.2).out.mono ?_
        rintro e w2 ⟨b2, hl, rfl⟩
        have HLn := Lib.hid hl
        have H2 := Lib.hid (And.intro (H1.out.1.later b2 (Nat.le_refl _)) (H1.out.2.trans (b2.mono H1.out.2.size)))
        clear b2 hl
        go_wp2_with (first
          | (refine wpList_alloc_ad rfl rfl ?_; intro w3 a3 b3 _; have H3 := Lib.hid (And.intro a3 (And.intro (H2.out.1.later b3 (Nat.le_refl _)) (And.intro H2.out.1.lt (And.intro b3 (H2.out.2.trans (b3.mono H2.out.2.size)))))); clear a3 b3)
          | (refine wpList_store_ad rfl (.tmp 6) (.tmp 11) rfl v6 bs rfl rfl HLn.out H3.out.1 ?_; intro w4 a4 o4 _ b4; have H4 := Lib.hid (And.intro a4 (And.intro (AdBox.same H3.out.2.1 (o4 _ (by have := H3.out.2.2.1; omega))) (b4 _ _ H2.out.2.size H3.out.2.2.2.2))); clear a4 o4 b4)
          | (refine wpList_load_ad rfl (.tmp 6) rfl rfl H4.out.1 ?_))
        refine (KC.out _ H4.out.2.2 (v6, bs) HLn.out).out.mono ?_
        rw [HD.out]
        rintro e w5 ⟨rfl, b5⟩
        have H5 := Lib.hid (And.intro (H4.out.1.later b5 (Nat.le_refl _)) (And.intro (H4.out.2.1.later b5 (Nat.le_refl _)) (H4.out.2.2.trans (b5.mono H4.out.2.2.size))))
        clear b5
        go_wp2_with (first
          | (refine wpList_store_ad rfl (.tmp 4) (.tmp 22) rfl false (List.replicate 16 0) rfl rfl rfl H5.out.2.1 ?_; intro w6 a6 _ _ b6; have H6 := Lib.hid (And.intro a6 (b6 w.heap.size w (Nat.le_refl _) H5.out.2.2)); clear a6 b6))
        exact bodyPost_ret (results_ad_tmp rfl _ rfl H6.out.1) rfl ⟨H6.out.2, rfl⟩
      | false =>
        rw [if_neg (of_decide_eq_false HD.out), if_neg h20]
        clear h20
        go_enter Tryz.func95, Tryz.ntmps95
        go_wp2_with (refine wpList_alloc_ad rfl rfl ?_; intro w1 a1 b1 _; have H1 := Lib.hid (And.intro a1 b1); clear a1 b1)
        refine (K.out _ H1.out.2).out.mono ?_
        rintro e w2 ⟨b2, hl, rfl⟩
        have HLn := Lib.hid hl
        have H2 := Lib.hid (And.intro (H1.out.1.later b2 (Nat.le_refl _)) (H1.out.2.trans (b2.mono H1.out.2.size)))
        clear b2 hl
        go_wp2_with (first
          | (refine wpList_alloc_ad rfl rfl ?_; intro w3 a3 b3 _; have H3 := Lib.hid (And.intro a3 (And.intro (H2.out.1.later b3 (Nat.le_refl _)) (And.intro H2.out.1.lt (And.intro b3 (H2.out.2.trans (b3.mono H2.out.2.size)))))); clear a3 b3)
          | (refine wpList_store_ad rfl (.tmp 6) (.tmp 11) rfl v6 bs rfl rfl HLn.out H3.out.1 ?_; intro w4 a4 o4 _ b4; have H4 := Lib.hid (And.intro a4 (And.intro (AdBox.same H3.out.2.1 (o4 _ (by have := H3.out.2.2.1; omega))) (b4 _ _ H2.out.2.size H3.out.2.2.2.2))); clear a4 o4 b4)
          | (refine wpList_load_ad rfl (.tmp 6) rfl rfl H4.out.1 ?_))
        refine (KC.out _ H4.out.2.2 (v6, bs) HLn.out).out.mono ?_
        rw [HD.out]
        rintro e w5 ⟨rfl, b5⟩
        have H5 := Lib.hid (And.intro (H4.out.1.later b5 (Nat.le_refl _)) (And.intro (H4.out.2.1.later b5 (Nat.le_refl _)) (H4.out.2.2.trans (b5.mono H4.out.2.2.size))))
        clear b5
        go_wp2_with (first
          | (refine wpList_load_ad rfl (.tmp 6) rfl rfl H5.out.1 ?_)
          | (refine wpList_store_ad rfl (.tmp 4) (.tmp 30) rfl v6 bs rfl rfl HLn.out H5.out.2.1 ?_; intro w6 a6 _ _ b6; have H6 := Lib.hid (And.intro a6 (b6 w.heap.size w (Nat.le_refl _) H5.out.2.2)); clear a6 b6))
        exact bodyPost_ret (results_ad_tmp rfl _ rfl H6.out.1) rfl ⟨H6.out.2, HLn.out, rfl⟩
end Go.Proofs.YtoagfmonfgagbaaGreatDoor

namespace Go.Proofs.YtoagfmonfgagbaaGreatDoor
open Go.RowKit
set_option maxRecDepth 100000
structure Fr (S : Nat → Prop) (w w' : World) : Prop where
  os : w'.os = w.os
  tape : w'.tape = w.tape
  output : w'.output = w.output
  size : w.heap.size ≤ w'.heap.size
  block : ∀ k, k < w.heap.size → ¬ S k → w'.heap[k]? = w.heap[k]?
theorem Fr.refl (S : Nat → Prop) (w : World) : Fr S w w := ⟨rfl, rfl, rfl, Nat.le_refl _, fun _ _ _ => rfl⟩
theorem Fr.trans {S S' : Nat → Prop} {a b c : World} (h : Fr S a b) (k : Fr S' b c) (hs : ∀ i, i < a.heap.size → S' i → S i) : Fr S a c :=
  ⟨k.os.trans h.os, k.tape.trans h.tape, k.output.trans h.output, Nat.le_trans h.size k.size, fun i hi h1 => (k.block i (Nat.lt_of_lt_of_le hi h.size) fun e => h1 (hs i hi e)).trans (h.block i hi h1)⟩
theorem Fr.of_below {S : Nat → Prop} {w w' : World} (h : Below w.heap.size w w') : Fr S w w' := ⟨h.os, h.tape, h.output, h.size, fun k hk _ => h.block k hk⟩
theorem Fr.below {S : Nat → Prop} {B : Nat} {w0 w w' : World} (hb : Below B w0 w) (h : Fr S w w') (hS : ∀ i, S i → B ≤ i) (hB : B ≤ w.heap.size) : Below B w0 w' :=
  ⟨h.os.trans hb.os, h.tape.trans hb.tape, h.output.trans hb.output, Nat.le_trans hb.size h.size, fun k hk => (h.block k (by omega) (fun e => by have := hS k e; omega)).trans (hb.block k hk)⟩
theorem Fr.mono {S S' : Nat → Prop} {w w' : World} (h : Fr S w w') (hs : ∀ i, i < w.heap.size → S i → S' i) : Fr S' w w' := ⟨h.os, h.tape, h.output, h.size, fun k hk h1 => h.block k hk fun e => h1 (hs k hk e)⟩
theorem Fr.drew {S : Nat → Prop} {w w' : World} (h : Fr S w w') : Fr S w w'.drew := ⟨h.os, h.tape, h.output, h.size, h.block⟩
def LnB (w : World) (x : Nat) (A : Option Addr) (n c : Nat) (e : Int) : Prop := w.heap[x]? = some (.cells #[.slice A n c, .int .i64 e] 79 (0, 0))
theorem LnB.lt {w : World} {x : Nat} {A : Option Addr} {n c : Nat} {e : Int} (h : LnB w x A n c e) : x < w.heap.size := (Array.getElem?_eq_some_iff.1 h).1
theorem LnB.same {w w' : World} {x : Nat} {A : Option Addr} {n c : Nat} {e : Int} (h : LnB w x A n c e) (hh : w'.heap[x]? = w.heap[x]?) : LnB w' x A n c e := hh.trans h
theorem LnB.later {w w' : World} {x : Nat} {A : Option Addr} {n c : Nat} {e : Int} (h : LnB w x A n c e) (hb : Below w.heap.size w w') : LnB w' x A n c e := (hb.block x h.lt).trans h
theorem LnB.cell0 {w : World} {x : Nat} {A : Option Addr} {n c : Nat} {e : Int} (h : LnB w x A n c e) : w.cell? ⟨x, 0, none⟩ = some (.slice A n c) := cell_of_row w x 0 _ _ _ h
theorem LnB.cell1 {w : World} {x : Nat} {A : Option Addr} {n c : Nat} {e : Int} (h : LnB w x A n c e) : w.cell? ⟨x, 1, none⟩ = some (.int .i64 e) := cell_of_row w x 1 _ _ _ h
theorem LnB.frozen {w : World} {x : Nat} {A : Option Addr} {n c : Nat} {e : Int} (h : LnB w x A n c e) (j : Nat) : w.frozen? ⟨x, j, none⟩ = false := by unfold LnB at h; simp [World.frozen?, h]
theorem LnB.put {w : World} {x : Nat} {A A' : Option Addr} {n n' c c' : Nat} {e : Int} (h : LnB w x A n c e) : LnB (w.setCell ⟨x, 0, none⟩ (.slice A' n' c')) x A' n' c' e := by
  have h1 := Row.put (w := w) (g := x) (T := 79) (vs := [.slice A n c, .int .i64 e]) h 0 (.slice A' n' c')
  exact h1
theorem results_tk_tmp {fn : Func} {p u : Tmp} (h : fn.results = #[.cell p 96, .tmp u]) (tmps : Array Value) {w : World} {g : Nat} {t : Array Value} (ht : t.size = 4) (hp : tmps.getD p undef = .pointer (some ⟨g, 0, none⟩)) (hA : w.heap[g]? = some (.cells t 96 (0, 0))) :
    (results fn tmps).run Tryz.prog w = .ok (.tuple #[.agg t, tmps.getD u undef]) w := by
  rw [results_cell_tmp h, hp]
  simp [asAddr, run_loadVar_row w g 96 96 t (0, 0) _ hA Tryz.underlying96 rfl (by rw [ht]; kernel_rfl)]
section
variable {ops : Array Oper} {rest : List Oper} {o : Oper} {a : Act} {w : World} {Q : Exit → Act → World → Prop}
theorem wpList_store_t4 (hgd : o.guard = none) (x y : Operand) (ho : o.op = .store 96 x y) {g : Nat} (t : Array Value) (ht : t.size = 4) (h1 : t.all (·.oneCell') = true) {c0 : Array Value} (h0 : c0.size = 4)
    (hx : a.eval x = .pointer (some ⟨g, 0, none⟩)) (hy : a.eval y = .agg t) (hA : w.heap[g]? = some (.cells c0 96 (0, 0)))
    (h : ∀ w', w'.heap[g]? = some (.cells t 96 (0, 0)) → (∀ k, k ≠ g → w'.heap[k]? = w.heap[k]?) → w'.heap.size = w.heap.size → (∀ B w0, B ≤ g → Below B w0 w → Below B w0 w') → wpList Tryz.prog ops Q rest (a.put o.dst undef) w') : wpList Tryz.prog ops Q (o :: rest) a w :=
  wpList_plain hgd fun _ hK => wp_store_row 96 x y ho g t hx hy 96 _ hA (by rw [ht]; kernel_rfl) (by rw [h0, ht]) h1
    (hK _ _ (h _ (setRow_heap w g _ _ _ _ hA) (fun k hk => setRow_other w g k _ hk) (size_setRow w g _) (fun B w0 hB hb => below_setRow hb hB _)))
end
theorem tkZ_one : tkZ.all (·.oneCell') = true := by simp [tkZ, Value.oneCell']
theorem next_none19 {w : World} {x : Nat} {A : Option Addr} {c : Nat} {e : Int} (h : LnB w x A 0 c e) : Calls Tryz.prog 50 #[.pointer (some ⟨x, 0, none⟩)] w fun er w' => er = .returned (.tuple #[.agg tkZ, .bool false]) ∧ Below w.heap.size w w' := by
  have c0 := h.cell0
  have hx := h.lt
  clear h
  go_enter Tryz.func50, Tryz.ntmps50
  go_wp2_with (first
    | (refine wpList_alloc_tk rfl rfl ?_; intro w1 a1 b1 _; have c1 := (b1.cell (p := ⟨x, 0, none⟩) hx).trans c0; have H1 := Lib.hid (And.intro a1 b1); clear a1 b1)
    | (refine wpList_store_t4 rfl (.tmp 2) (.tmp 11) rfl tkZ rfl tkZ_one rfl rfl rfl H1.out.1 ?_; intro w2 a2 _ _ b2; have H2 := Lib.hid (And.intro a2 (b2 _ _ (Nat.le_refl _) H1.out.2)); clear a2 b2))
  exact bodyPost_ret (results_tk_tmp rfl _ rfl rfl H2.out.1) rfl ⟨rfl, H2.out.2⟩
theorem TkS.tail {w : World} {b off n c : Nat} {t : Tk} {ts : List Tk} (h : TkS w (some ⟨b, off, none⟩) n c (t :: ts)) : TkS w (some ⟨b, off + 4, none⟩) (n - 1) (c - 1) ts := by
  have hl := h.len
  have hc := h.cap
  have hm := h.max
  rw [List.length_cons] at hl
  refine ⟨by omega, by omega, by omega, (fun e => by cases e), fun i u hu => ?_⟩
  obtain ⟨b', off', e, hr⟩ := h.here (i + 1) u hu
  cases e
  exact ⟨b, off + 4, rfl, by rw [show off + 4 + i * 4 = off + (i + 1) * 4 by omega]; exact hr⟩
theorem TkS.tail1 {w : World} {b off n c : Nat} {t : Tk} {ts : List Tk} (h : TkS w (some ⟨b, off, none⟩) n c (t :: ts)) (h1 : c = 1) : TkS w (some ⟨b, off, none⟩) (n - 1) (c - 1) ts := by
  have hl := h.len
  have hc := h.cap
  have hm := h.max
  rw [List.length_cons] at hl
  have h0 : ts = [] := List.eq_nil_of_length_eq_zero (by omega)
  subst h0
  refine ⟨by simp at hl ⊢; omega, by omega, by omega, (fun e => by cases e), fun i u hu => by cases hu⟩
set_option maxHeartbeats 1000000 in
theorem next_some19 {w : World} {x : Nat} {A : Option Addr} {n c : Nat} {e : Int} (h : LnB w x A n c e) {t : Tk} {ts : List Tk} (hs : TkS w A n c (t :: ts)) : Calls Tryz.prog 50 #[.pointer (some ⟨x, 0, none⟩)] w fun er w' => er = .returned (.tuple #[.agg (tkv t), .bool true]) ∧ ∃ A', LnB w' x A' (n - 1) (c - 1) e ∧ (∀ w2, TkS w2 A n c (t :: ts) → TkS w2 A' (n - 1) (c - 1) ts) ∧ Fr (fun i => i = x) w w' := by
  obtain ⟨b, off, rfl, hr⟩ := hs.here 0 t rfl
  have hlen := hs.len
  have hcap := hs.cap
  have hmax := hs.max
  unfold maxLen at hmax
  rw [List.length_cons] at hlen
  have c0 := h.cell0
  have hx := h.lt
  rw [Nat.zero_mul, Nat.add_zero] at hr
  have HN := Lib.hid (And.intro h (And.intro hs hr))
  have n0 : 0 < n := by omega
  have n1 : ((n : Int) == 0) = false := by rw [beq_eq_false_iff_ne]; omega
  have n2 : (1 : Int) ≤ (n : Int) := by omega
  clear h hs hr
  have HL := Lib.hid hlen
  clear hlen
  by_cases hc : c = 1
  · subst hc
    obtain rfl : n = 1 := by omega
    go_enter Tryz.func50, Tryz.ntmps50
    go_wp2_with (first
      | (have H1' := H1; refine wpList_alloc_tk rfl rfl ?_; intro w3 a3 b3 z3; have c3 := (b3.cell (p := ⟨x, 0, none⟩) (by have := H1'.out.2.2.1; show x < w1.heap.size; omega)).trans c1; have H3 := Lib.hid (And.intro a3 (And.intro b3 z3)); clear a3 b3 z3 H1' c1)
      | (refine wpList_alloc_tk rfl rfl ?_; intro w1 a1 b1 z1; have c1 := (b1.cell (p := ⟨x, 0, none⟩) hx).trans c0; have H1 := Lib.hid (And.intro a1 (And.intro b1 (And.intro b1.size z1))); clear a1 b1 z1)
      | (refine wpList_load_tk rfl (.tmp 16) rfl rfl (range_kept HN.out.2.2 H1.out.2.1 (Nat.le_refl _)) ?_)
      | (refine wpList_store_t4 rfl (.tmp 4) (.tmp 17) rfl (tkv t) (tkv_size t) (tkv_one t) rfl rfl rfl H3.out.1 ?_; intro w4 a4 o4 z4 b4; have hne : x ≠ w1.heap.size := (by have := H1.out.2.2.1; omega); have hne2 : w.heap.size ≠ w1.heap.size := (by have := H1.out.2.2.2; omega); have hlt := (Array.getElem?_eq_some_iff.1 H1.out.1).1; have hx4 : w4.heap[x]? = w.heap[x]? := (o4 x hne).trans ((H3.out.2.1.block x (by have := H1.out.2.2.1; omega)).trans (H1.out.2.1.block x hx)); have hz4 := (o4 w.heap.size hne2).trans ((H3.out.2.1.block w.heap.size hlt).trans H1.out.1); have hb4 := b4 w.heap.size w H1.out.2.2.1 (H1.out.2.1.trans (H3.out.2.1.mono H1.out.2.2.1)); have hl4 := LnB.same HN.out.1 hx4; have c4 := hl4.cell0; have f4 := hl4.frozen 0; have H4 := Lib.hid (And.intro a4 (And.intro hz4 (And.intro hl4 (And.intro hb4 (And.intro hne hne2))))); clear a4 o4 z4 b4 hne hne2 hlt hx4 hz4 hb4 hl4 c3)
      | (have hx5 : x ≠ w1.heap.size := H4.out.2.2.2.2.1; refine wpList_load_tk rfl (.tmp 4) rfl rfl (TkBox.range ((Below.heap_setCell _ _ _ _ (Ne.symm hx5)).trans H4.out.1)) ?_; clear hx5)
      | (refine wpList_store_t4 rfl (.tmp 2) (.tmp 26) rfl (tkv t) (tkv_size t) (tkv_one t) rfl rfl rfl ((Below.heap_setCell _ _ _ _ (Nat.ne_of_gt hx)).trans H4.out.2.1) ?_; intro w6 a6 o6 z6 b6; have H6 := Lib.hid (And.intro a6 (And.intro o6 z6)); have H7 := Lib.hid b6; clear a6 o6 z6 b6))
    refine bodyPost_ret (results_tk_tmp rfl _ (tkv_size t) rfl H6.out.1) rfl ⟨rfl, ?_⟩
    obtain ⟨a4, hz4, hl4, hb4, hne, hne2⟩ := H4.out
    obtain ⟨a6, o6, z6⟩ := H6.out
    refine ⟨some ⟨b, off, none⟩, ?_, fun w2 h2 => h2.tail1 rfl, ?_⟩
    · exact LnB.same (LnB.put hl4) (o6 x (by omega))
    · have h5 : Fr (fun i => i = x) w (w4.setCell ⟨x, 0, none⟩ (.slice (some ⟨b, off, none⟩) 0 0)) := by
        have h6 := (Fr.of_below (S := fun i => i = x) hb4)
        exact ⟨h6.os, h6.tape, h6.output, by rw [World.size_setCell]; exact h6.size, fun k hk hkx => (Below.heap_setCell _ _ _ _ hkx).trans (h6.block k hk hkx)⟩
      have h7 := H7.out w.heap.size _ (Nat.le_refl _) (Below.refl w.heap.size _)
      exact ⟨h7.os.trans h5.os, h7.tape.trans h5.tape, h7.output.trans h5.output, Nat.le_trans h5.size (by rw [z6]; exact Nat.le_refl _), fun k hk hkx => (o6 k (by omega)).trans (h5.block k hk hkx)⟩
  · go_enter Tryz.func50, Tryz.ntmps50
    go_wp2_with (first
      | (have H1' := H1; refine wpList_alloc_tk rfl rfl ?_; intro w3 a3 b3 z3; have c3 := (b3.cell (p := ⟨x, 0, none⟩) (by have := H1'.out.2.2.1; show x < w1.heap.size; omega)).trans c1; have H3 := Lib.hid (And.intro a3 (And.intro b3 z3)); clear a3 b3 z3 H1' c1)
      | (refine wpList_alloc_tk rfl rfl ?_; intro w1 a1 b1 z1; have c1 := (b1.cell (p := ⟨x, 0, none⟩) hx).trans c0; have H1 := Lib.hid (And.intro a1 (And.intro b1 (And.intro b1.size z1))); clear a1 b1 z1)
      | (refine wpList_load_tk rfl (.tmp 16) rfl rfl (range_kept HN.out.2.2 H1.out.2.1 (Nat.le_refl _)) ?_)
      | (refine wpList_store_t4 rfl (.tmp 4) (.tmp 17) rfl (tkv t) (tkv_size t) (tkv_one t) rfl rfl rfl H3.out.1 ?_; intro w4 a4 o4 z4 b4; have hne : x ≠ w1.heap.size := (by have := H1.out.2.2.1; omega); have hne2 : w.heap.size ≠ w1.heap.size := (by have := H1.out.2.2.2; omega); have hlt := (Array.getElem?_eq_some_iff.1 H1.out.1).1; have hx4 : w4.heap[x]? = w.heap[x]? := (o4 x hne).trans ((H3.out.2.1.block x (by have := H1.out.2.2.1; omega)).trans (H1.out.2.1.block x hx)); have hz4 := (o4 w.heap.size hne2).trans ((H3.out.2.1.block w.heap.size hlt).trans H1.out.1); have hb4 := b4 w.heap.size w H1.out.2.2.1 (H1.out.2.1.trans (H3.out.2.1.mono H1.out.2.2.1)); have hl4 := LnB.same HN.out.1 hx4; have c4 := hl4.cell0; have f4 := hl4.frozen 0; have H4 := Lib.hid (And.intro a4 (And.intro hz4 (And.intro hl4 (And.intro hb4 (And.intro hne hne2))))); clear a4 o4 z4 b4 hne hne2 hlt hx4 hz4 hb4 hl4 c3)
      | (have hx5 : x ≠ w1.heap.size := H4.out.2.2.2.2.1; refine wpList_load_tk rfl (.tmp 4) rfl rfl (TkBox.range ((Below.heap_setCell _ _ _ _ (Ne.symm hx5)).trans H4.out.1)) ?_; clear hx5)
      | (refine wpList_store_t4 rfl (.tmp 2) (.tmp 26) rfl (tkv t) (tkv_size t) (tkv_one t) rfl rfl rfl ((Below.heap_setCell _ _ _ _ (Nat.ne_of_gt hx)).trans H4.out.2.1) ?_; intro w6 a6 o6 z6 b6; have H6 := Lib.hid (And.intro a6 (And.intro o6 z6)); have H7 := Lib.hid b6; clear a6 o6 z6 b6))
    refine bodyPost_ret (results_tk_tmp rfl _ (tkv_size t) rfl H6.out.1) rfl ⟨rfl, ?_⟩
    obtain ⟨a4, hz4, hl4, hb4, hne, hne2⟩ := H4.out
    obtain ⟨a6, o6, z6⟩ := H6.out
    refine ⟨some ⟨b, off + 4, none⟩, ?_, fun w2 h2 => h2.tail, ?_⟩
    · exact LnB.same (LnB.put hl4) (o6 x (by omega))
    · have h5 : Fr (fun i => i = x) w (w4.setCell ⟨x, 0, none⟩ (.slice (some ⟨b, off + 4, none⟩) (n - 1) (c - 1))) := by
        have h6 := (Fr.of_below (S := fun i => i = x) hb4)
        exact ⟨h6.os, h6.tape, h6.output, by rw [World.size_setCell]; exact h6.size, fun k hk hkx => (Below.heap_setCell _ _ _ _ hkx).trans (h6.block k hk hkx)⟩
      have h7 := H7.out w.heap.size _ (Nat.le_refl _) (Below.refl w.heap.size _)
      exact ⟨h7.os.trans h5.os, h7.tape.trans h5.tape, h7.output.trans h5.output, Nat.le_trans h5.size (by rw [z6]; exact Nat.le_refl _), fun k hk hkx => (o6 k (by omega)).trans (h5.block k hk hkx)⟩
end Go.Proofs.YtoagfmonfgagbaaGreatDoor

namespace Go.Proofs.YtoagfmonfgagbaaGreatDoor
open Go.RowKit
set_option maxRecDepth 100000
def ErrN (w : World) (v : Value) (n p : Int) : Prop := ∃ g, v = .iface 84 (.pointer (some ⟨g, 0, none⟩)) ∧ w.heap[g]? = some (.cells #[.int .i64 p, errV n] 90 (0, 0))
theorem ErrN.later {w w' : World} {B : Nat} {v : Value} {n p : Int} (h : ErrN w v n p) (hb : Below B w w') (hB : w.heap.size ≤ B) : ErrN w' v n p := by
  obtain ⟨g, rfl, hg⟩ := h
  exact ⟨g, rfl, (hb.block g (by have := (Array.getElem?_eq_some_iff.1 hg).1; omega)).trans hg⟩
def Step (w w' : World) (x : Nat) (A : Option Addr) (n c : Nat) (e : Int) (t : Tk) (ts : List Tk) : Prop := ∃ A', LnB w' x A' (n - 1) (c - 1) e ∧ (∀ w2, TkS w2 A n c (t :: ts) → TkS w2 A' (n - 1) (c - 1) ts) ∧ Fr (fun i => i = x) w w'
theorem Step.later {w w' w'' : World} {x : Nat} {A : Option Addr} {n c : Nat} {e : Int} {t : Tk} {ts : List Tk} (h : Step w w' x A n c e t ts) (hb : Below w'.heap.size w' w'') : Step w w'' x A n c e t ts := by
  obtain ⟨A', h1, h2, h3⟩ := h
  exact ⟨A', h1.later hb, h2, h3.trans (Fr.of_below (S := fun i => i = x) hb) fun i _ e => e⟩
theorem Step.fr {w w' : World} {x : Nat} {A : Option Addr} {n c : Nat} {e : Int} {t : Tk} {ts : List Tk} (h : Step w w' x A n c e t ts) : Fr (fun i => i = x) w w' := by
  obtain ⟨_, _, _, h3⟩ := h
  exact h3
theorem Step.ahead {w0 w w' : World} {x : Nat} {A : Option Addr} {n c : Nat} {e : Int} {t : Tk} {ts : List Tk} (hb : Below w0.heap.size w0 w) (h : Step w w' x A n c e t ts) : Step w0 w' x A n c e t ts := by
  obtain ⟨A', h1, h2, h3⟩ := h
  exact ⟨A', h1, h2, (Fr.of_below (S := fun i => i = x) hb).trans h3 fun i _ e => e⟩
theorem Step.same {w w' w'' : World} {x : Nat} {A : Option Addr} {n c : Nat} {e : Int} {t : Tk} {ts : List Tk} (h : Step w w' x A n c e t ts) (g : Nat) (hg : w.heap.size ≤ g) (hx : x ≠ g) (o : ∀ k, k ≠ g → w''.heap[k]? = w'.heap[k]?) (z : w''.heap.size = w'.heap.size) (b : ∀ B w0, B ≤ g → Below B w0 w' → Below B w0 w'') : Step w w'' x A n c e t ts := by
  obtain ⟨A', h1, h2, h3⟩ := h
  have hb := b g w' (Nat.le_refl _) (Below.refl _ _)
  refine ⟨A', h1.same (o x hx), h2, ⟨hb.os.trans h3.os, hb.tape.trans h3.tape, hb.output.trans h3.output, by rw [z]; exact h3.size, fun k hk hkx => (o k (by omega)).trans (h3.block k hk hkx)⟩⟩
theorem tk_text {w : World} {g : Nat} {t : Tk} (h : w.heap[g]? = some (.cells (tkv t) 96 (0, 0))) : w.cell? ⟨g, 1, none⟩ = some (.int .i64 t.at_) ∧ w.cell? ⟨g, 3, none⟩ = some (.string (mkS t.text)) := ⟨cell_of_row w g 1 _ _ _ h, cell_of_row w g 3 _ _ _ h⟩
set_option maxHeartbeats 1000000 in
theorem read_proto_none {w : World} {x : Nat} {A : Option Addr} {c : Nat} {e : Int} (h : LnB w x A 0 c e) : Calls Tryz.prog 99 #[.pointer (some ⟨x, 0, none⟩), .func (.func 100) #[] #[]] w fun r w' => ∃ er, r = .returned (.tuple #[.int .i64 0, er]) ∧ ErrN w' er 15 e ∧ Below w.heap.size w w' := by
  have K := Lib.hid (next_none19 h)
  have HN := Lib.hid h
  clear h
  go_enter Tryz.func99, Tryz.ntmps99
  go_wp2_with fail
  refine K.out.mono ?_
  rintro r w1 ⟨rfl, b1⟩
  have f1 := (HN.out.later b1).cell1
  have H1 := Lib.hid b1
  clear b1
  go_wp2_with (first
    | (refine wpList_alloc_tk rfl rfl ?_; intro w2 a2 b2 z2; have f2 := (b2.cell (p := ⟨x, 1, none⟩) (HN.out.later H1.out).lt).trans f1; have H2 := Lib.hid (And.intro a2 (H1.out.trans (b2.mono H1.out.size))); have H2b := Lib.hid b2; clear a2 b2 f1 z2)
    | (refine wpList_store_t4 rfl (.tmp 6) (.tmp 14) rfl tkZ rfl tkZ_one rfl rfl rfl H2.out.1 ?_; intro w3 a3 o3 z3 b3; have f3 := (World.cell?_of_block (w := w2) (a := ⟨x, 1, none⟩) (o3 x (by have := (HN.out.later H1.out).lt; omega))).trans f2; have H3 := Lib.hid (b3 w.heap.size w H1.out.size H2.out.2); clear a3 o3 b3 f2 z3))
  refine (wrap_some _ _ _ _).mono ?_
  rintro r w4 ⟨rfl, rfl⟩
  go_wp2_with fail
  go_ret2
  exact ⟨_, rfl, ⟨_, rfl, heap_alloc_last _ _⟩, H3.out.alloc H3.out.size _⟩
set_option maxHeartbeats 1000000 in
theorem read_proto_ok {w : World} {x : Nat} {A : Option Addr} {n c : Nat} {e : Int} (h : LnB w x A n c e) {t : Tk} {ts : List Tk} (hs : TkS w A n c (t :: ts)) {V : Value} (K : ∀ w1, Fr (fun i => i = x) w w1 → Calls Tryz.prog 100 #[.string (mkS t.text)] w1 fun r w' => r = .returned (.tuple #[V, .nilIface]) ∧ Below w1.heap.size w1 w') : Calls Tryz.prog 99 #[.pointer (some ⟨x, 0, none⟩), .func (.func 100) #[] #[]] w fun r w' => r = .returned (.tuple #[V, .nilIface]) ∧ Step w w' x A n c e t ts := by
  have KN := Lib.hid (next_some19 h hs)
  have K := Lib.hid K
  clear h hs
  go_enter Tryz.func99, Tryz.ntmps99
  go_wp2_with fail
  refine KN.out.mono ?_
  rintro r w1 ⟨rfl, hst0⟩
  have H1 := Lib.hid (show Step w w1 x A n c e t ts from hst0)
  clear hst0
  go_wp2_with (first
    | (refine wpList_alloc_tk rfl rfl ?_; intro w2 a2 b2 z2; have H2 := Lib.hid (And.intro a2 (And.intro b2 z2)); clear a2 b2 z2)
    | (refine wpList_store_t4 rfl (.tmp 6) (.tmp 14) rfl (tkv t) (tkv_size t) (tkv_one t) rfl rfl rfl H2.out.1 ?_; intro w3 a3 o3 z3 b3; have b4 := b3 w1.heap.size w1 (Nat.le_refl _) H2.out.2.1; obtain ⟨f1, f3⟩ := tk_text a3; have hst := H1.out.later b4; have H3 := Lib.hid (And.intro a3 (And.intro hst b4)); clear a3 b3 b4 hst o3 z3))
  have f1' := f1
  refine (K.out w3 H3.out.2.1.fr).mono ?_
  rintro r w4 ⟨rfl, b4⟩
  have g1 := (b4.cell (p := ⟨w1.heap.size, 1, none⟩) (lt_cell f1)).trans f1
  have H4 := Lib.hid (H3.out.2.1.later b4)
  clear b4 f1 f1' f3
  go_wp2_with fail
  refine (wrap_nil _ _).mono ?_
  rintro r w5 ⟨rfl, rfl⟩
  go_wp2_with fail
  go_ret2
  exact ⟨rfl, H4.out⟩
set_option maxHeartbeats 1000000 in
theorem read_proto_err {w : World} {x : Nat} {A : Option Addr} {n c : Nat} {e : Int} (h : LnB w x A n c e) {t : Tk} {ts : List Tk} (hs : TkS w A n c (t :: ts)) {k : Int} {V : Value} (K : ∀ w1, Fr (fun i => i = x) w w1 → Calls Tryz.prog 100 #[.string (mkS t.text)] w1 fun r w' => r = .returned (.tuple #[V, errV k]) ∧ Below w1.heap.size w1 w') : Calls Tryz.prog 99 #[.pointer (some ⟨x, 0, none⟩), .func (.func 100) #[] #[]] w fun r w' => ∃ er, r = .returned (.tuple #[V, er]) ∧ ErrN w' er k t.at_ ∧ Step w w' x A n c e t ts := by
  have KN := Lib.hid (next_some19 h hs)
  have K := Lib.hid K
  clear h hs
  go_enter Tryz.func99, Tryz.ntmps99
  go_wp2_with fail
  refine KN.out.mono ?_
  rintro r w1 ⟨rfl, hst0⟩
  have H1 := Lib.hid (show Step w w1 x A n c e t ts from hst0)
  clear hst0
  go_wp2_with (first
    | (refine wpList_alloc_tk rfl rfl ?_; intro w2 a2 b2 z2; have H2 := Lib.hid (And.intro a2 (And.intro b2 z2)); clear a2 b2 z2)
    | (refine wpList_store_t4 rfl (.tmp 6) (.tmp 14) rfl (tkv t) (tkv_size t) (tkv_one t) rfl rfl rfl H2.out.1 ?_; intro w3 a3 o3 z3 b3; have b4 := b3 w1.heap.size w1 (Nat.le_refl _) H2.out.2.1; obtain ⟨f1, f3⟩ := tk_text a3; have hst := H1.out.later b4; have H3 := Lib.hid (And.intro a3 (And.intro hst b4)); clear a3 b3 b4 hst o3 z3))
  have f1' := f1
  refine (K.out w3 H3.out.2.1.fr).mono ?_
  rintro r w4 ⟨rfl, b4⟩
  have g1 := (b4.cell (p := ⟨w1.heap.size, 1, none⟩) (lt_cell f1)).trans f1
  have H4 := Lib.hid (H3.out.2.1.later b4)
  clear b4 f1 f1' f3
  unfold errV
  go_wp2_with fail
  refine (wrap_some _ _ _ _).mono ?_
  rintro r w5 ⟨rfl, rfl⟩
  go_wp2_with fail
  go_ret2
  exact ⟨_, rfl, ⟨_, rfl, heap_alloc_last _ _⟩, H4.out.later ((Below.refl _ _).alloc (Nat.le_refl _) _)⟩
set_option maxHeartbeats 1000000 in
theorem read_subject_none {w : World} {x : Nat} {A : Option Addr} {c : Nat} {e : Int} (h : LnB w x A 0 c e) : Calls Tryz.prog 96 #[.pointer (some ⟨x, 0, none⟩), .func (.func 97) #[] #[]] w fun r w' => ∃ er, r = .returned (.tuple #[.nilFunc, er]) ∧ ErrN w' er 15 e ∧ Below w.heap.size w w' := by
  have K := Lib.hid (next_none19 h)
  have HN := Lib.hid h
  clear h
  go_enter Tryz.func96, Tryz.ntmps96
  go_wp2_with fail
  refine K.out.mono ?_
  rintro r w1 ⟨rfl, b1⟩
  have f1 := (HN.out.later b1).cell1
  have H1 := Lib.hid b1
  clear b1
  go_wp2_with (first
    | (refine wpList_alloc_tk rfl rfl ?_; intro w2 a2 b2 z2; have f2 := (b2.cell (p := ⟨x, 1, none⟩) (HN.out.later H1.out).lt).trans f1; have H2 := Lib.hid (And.intro a2 (H1.out.trans (b2.mono H1.out.size))); have H2b := Lib.hid b2; clear a2 b2 f1 z2)
    | (refine wpList_store_t4 rfl (.tmp 6) (.tmp 14) rfl tkZ rfl tkZ_one rfl rfl rfl H2.out.1 ?_; intro w3 a3 o3 z3 b3; have f3 := (World.cell?_of_block (w := w2) (a := ⟨x, 1, none⟩) (o3 x (by have := (HN.out.later H1.out).lt; omega))).trans f2; have H3 := Lib.hid (b3 w.heap.size w H1.out.size H2.out.2); clear a3 o3 b3 f2 z3))
  refine (wrap_some _ _ _ _).mono ?_
  rintro r w4 ⟨rfl, rfl⟩
  go_wp2_with fail
  go_ret2
  exact ⟨_, rfl, ⟨_, rfl, heap_alloc_last _ _⟩, H3.out.alloc H3.out.size _⟩
set_option maxHeartbeats 1000000 in
theorem read_subject_ok {w : World} {x : Nat} {A : Option Addr} {n c : Nat} {e : Int} (h : LnB w x A n c e) {t : Tk} {ts : List Tk} (hs : TkS w A n c (t :: ts)) {V : Value} (K : ∀ w1, Fr (fun i => i = x) w w1 → Calls Tryz.prog 97 #[.string (mkS t.text)] w1 fun r w' => r = .returned (.tuple #[V, .nilIface]) ∧ Below w1.heap.size w1 w') : Calls Tryz.prog 96 #[.pointer (some ⟨x, 0, none⟩), .func (.func 97) #[] #[]] w fun r w' => r = .returned (.tuple #[V, .nilIface]) ∧ Step w w' x A n c e t ts := by
  have KN := Lib.hid (next_some19 h hs)
  have K := Lib.hid K
  clear h hs
  go_enter Tryz.func96, Tryz.ntmps96
  go_wp2_with fail
  refine KN.out.mono ?_
  rintro r w1 ⟨rfl, hst0⟩
  have H1 := Lib.hid (show Step w w1 x A n c e t ts from hst0)
  clear hst0
  go_wp2_with (first
    | (refine wpList_alloc_tk rfl rfl ?_; intro w2 a2 b2 z2; have H2 := Lib.hid (And.intro a2 (And.intro b2 z2)); clear a2 b2 z2)
    | (refine wpList_store_t4 rfl (.tmp 6) (.tmp 14) rfl (tkv t) (tkv_size t) (tkv_one t) rfl rfl rfl H2.out.1 ?_; intro w3 a3 o3 z3 b3; have b4 := b3 w1.heap.size w1 (Nat.le_refl _) H2.out.2.1; obtain ⟨f1, f3⟩ := tk_text a3; have hst := H1.out.later b4; have H3 := Lib.hid (And.intro a3 (And.intro hst b4)); clear a3 b3 b4 hst o3 z3))
  have f1' := f1
  refine (K.out w3 H3.out.2.1.fr).mono ?_
  rintro r w4 ⟨rfl, b4⟩
  have g1 := (b4.cell (p := ⟨w1.heap.size, 1, none⟩) (lt_cell f1)).trans f1
  have H4 := Lib.hid (H3.out.2.1.later b4)
  clear b4 f1 f1' f3
  go_wp2_with fail
  refine (wrap_nil _ _).mono ?_
  rintro r w5 ⟨rfl, rfl⟩
  go_wp2_with fail
  go_ret2
  exact ⟨rfl, H4.out⟩
set_option maxHeartbeats 1000000 in
theorem read_subject_err {w : World} {x : Nat} {A : Option Addr} {n c : Nat} {e : Int} (h : LnB w x A n c e) {t : Tk} {ts : List Tk} (hs : TkS w A n c (t :: ts)) {k : Int} {V : Value} (K : ∀ w1, Fr (fun i => i = x) w w1 → Calls Tryz.prog 97 #[.string (mkS t.text)] w1 fun r w' => r = .returned (.tuple #[V, errV k]) ∧ Below w1.heap.size w1 w') : Calls Tryz.prog 96 #[.pointer (some ⟨x, 0, none⟩), .func (.func 97) #[] #[]] w fun r w' => ∃ er, r = .returned (.tuple #[V, er]) ∧ ErrN w' er k t.at_ ∧ Step w w' x A n c e t ts := by
  have KN := Lib.hid (next_some19 h hs)
  have K := Lib.hid K
  clear h hs
  go_enter Tryz.func96, Tryz.ntmps96
  go_wp2_with fail
  refine KN.out.mono ?_
  rintro r w1 ⟨rfl, hst0⟩
  have H1 := Lib.hid (show Step w w1 x A n c e t ts from hst0)
  clear hst0
  go_wp2_with (first
    | (refine wpList_alloc_tk rfl rfl ?_; intro w2 a2 b2 z2; have H2 := Lib.hid (And.intro a2 (And.intro b2 z2)); clear a2 b2 z2)
    | (refine wpList_store_t4 rfl (.tmp 6) (.tmp 14) rfl (tkv t) (tkv_size t) (tkv_one t) rfl rfl rfl H2.out.1 ?_; intro w3 a3 o3 z3 b3; have b4 := b3 w1.heap.size w1 (Nat.le_refl _) H2.out.2.1; obtain ⟨f1, f3⟩ := tk_text a3; have hst := H1.out.later b4; have H3 := Lib.hid (And.intro a3 (And.intro hst b4)); clear a3 b3 b4 hst o3 z3))
  have f1' := f1
  refine (K.out w3 H3.out.2.1.fr).mono ?_
  rintro r w4 ⟨rfl, b4⟩
  have g1 := (b4.cell (p := ⟨w1.heap.size, 1, none⟩) (lt_cell f1)).trans f1
  have H4 := Lib.hid (H3.out.2.1.later b4)
  clear b4 f1 f1' f3
  unfold errV
  go_wp2_with fail
  refine (wrap_some _ _ _ _).mono ?_
  rintro r w5 ⟨rfl, rfl⟩
  go_wp2_with fail
  go_ret2
  exact ⟨_, rfl, ⟨_, rfl, heap_alloc_last _ _⟩, H4.out.later ((Below.refl _ _).alloc (Nat.le_refl _) _)⟩
end Go.Proofs.YtoagfmonfgagbaaGreatDoor
