/-
  ChainLong: so many names, and no more; round nothing is found; in whatever order the records stand. Conditions: those of the slice.
-/
import Derived.Test.YtjbdaeiefckkcaaAw15
import Derived.Test.YtjbdaeiefckkcaaRo15
import Derived.IntWalk
import Derived.Deep.DeepCutAuto
namespace Go.Proofs.Ytjbdaeiefckkcaa
open Go.RowKit
set_option maxRecDepth 100000

theorem name15i {i : Int} {j : Nat} (h : i = (j : Int)) (hj : j < 21) (w : World) : Calls Try.prog 4 #[.int .i64 i] w fun e w' => e = .returned (.string (nm j)) ∧ Below w.heap.size w w' := by
  subst h
  exact name15 j hj w
theorem below20 (a : Int) : ∃ k : Nat, k < 20 ∧ wrap64 ((IntKind.u64.wrap a).tmod 20) = (k : Int) := by
  have h2 : 0 ≤ IntKind.u64.wrap a := by show 0 ≤ a % 18446744073709551616; omega
  rw [Int.tmod_eq_emod_of_nonneg h2]
  refine ⟨(IntKind.u64.wrap a % 20).toNat, by omega, ?_⟩
  unfold wrap64
  omega
theorem wpList_cat_rk {ops : Array Oper} {rest : List Oper} {o : Oper} {a : Act} {w : World} {Q : Exit → Act → World → Prop} (hgd : o.guard = none) (s x : Operand)
    (ho : o.op = .call { callee := .builtin .append, args := #[s, x], argTypes := #[26, 26] }) (base : Nat) (v : Value) (xs : List Rk) (hs : a.eval s = v) (hown : RkO w base v xs)
    {A : Addr} {n c : Nat} {ys : List Rk} (hx : a.eval x = .slice (some A) n c) (hq : Rks w (some A) n c ys) (hpl : 0 < n) (hm : xs.length + n ≤ 1000000) (hbase : base ≤ w.heap.size)
    (h : ∀ v' w', RkO w' base v' (xs ++ ys) → w.grownBy w' v.ownBlock → wpList Try.prog ops Q rest (a.put o.dst v') w') : wpList Try.prog ops Q (o :: rest) a w :=
  wpList_plain hgd fun _ hK => wp_cat_rk s x ho base v xs hs hown hx hq hpl hm hbase fun v' w' h1 h2 _ => hK _ _ (h v' w' h1 h2)
theorem belowN (a : Int) (n : Nat) (hn : n < 1000) : ∃ q : Nat, q < n + 1 ∧ wrap64 ((IntKind.u64.wrap a).tmod ((n : Int) + 1)) = (q : Int) := by
  have h2 : 0 ≤ IntKind.u64.wrap a := by show 0 ≤ a % 18446744073709551616; omega
  rw [Int.tmod_eq_emod_of_nonneg h2]
  have h3 := Int.emod_nonneg (IntKind.u64.wrap a) (show (n : Int) + 1 ≠ 0 by omega)
  have h4 := Int.emod_lt_of_pos (IntKind.u64.wrap a) (show 0 < (n : Int) + 1 by omega)
  refine ⟨(IntKind.u64.wrap a % ((n : Int) + 1)).toNat, by omega, ?_⟩
  unfold wrap64
  omega
theorem belowI (a : Int) (n : Nat) (hn : n < 1000) : ∃ q : Nat, q < n + 1 ∧ IntKind.i64.wrap ((IntKind.u64.wrap a).tmod (1 + (n : Int))) = (q : Int) := by
  obtain ⟨q, hq, e⟩ := belowN a n hn
  refine ⟨q, hq, ?_⟩
  rw [show (1 + (n : Int)) = (n : Int) + 1 from Int.add_comm _ _, IntKind.wrap_i64]
  unfold wrap64 at e
  omega
theorem run_build_ms6 (A : Option Addr) (n c : Nat) (w : World) : (Instr.build 41 #[(6, .slice A n c)]).run Try.prog w = .ok (.agg #[.int .i64 0, .bool false, .int .i64 0, .int .i64 0, .int .i64 0, .slice none 0 0, .slice A n c, .slice none 0 0, .slice none 0 0]) w := by kernel_rfl
theorem exec_build_ms6 {o : Oper} {a : Act} (x : Operand) (ho : o.op = .build 41 #[(6, x)]) {A : Option Addr} {n c : Nat} (hx : a.eval x = .slice A n c) (w : World) : (execOp a.eval o).run Try.prog w = .ok (.value (.agg #[.int .i64 0, .bool false, .int .i64 0, .int .i64 0, .int .i64 0, .slice none 0 0, .slice A n c, .slice none 0 0, .slice none 0 0])) w := by
  unfold execOp
  simp only [ho, Sem.run_bind, Sem.run_pure, Result.andThen_ok, List.map_toArray, List.map_cons, List.map_nil, hx, run_build_ms6]
theorem modN (t n : Nat) : ∃ p : Nat, p < n + 1 ∧ (t : Int).tmod ((n : Int) + 1) = (p : Int) :=
  ⟨t % (n + 1), Nat.mod_lt _ (by omega), by rw [Int.tmod_eq_emod_of_nonneg (by omega)]; push_cast; rfl⟩
theorem RkO.range {w : World} {base g n c : Nat} {xs : List Rk} (h : RkO w base (.slice (some ⟨g, 0, none⟩) n c) xs) {i : Nat} {r : Rk} (hi : xs[i]? = some r) : r.ok ∧ w.rangeAt g (i * 23) (rkv r).toList := by
  obtain ⟨A, c', e, hr⟩ := Rks.of_own h
  cases e
  obtain ⟨b, off, e, hx⟩ := hr.here i r hi
  cases e
  rw [Nat.zero_add] at hx
  exact ⟨h.2 r (List.mem_of_getElem? hi), hx⟩
theorem RkO.rks {w : World} {base g n c : Nat} {xs : List Rk} (h : RkO w base (.slice (some ⟨g, 0, none⟩) n c) xs) : Rks w (some ⟨g, 0, none⟩) n c xs := by
  obtain ⟨A, c', e, hr⟩ := Rks.of_own h
  cases e
  exact hr
set_option maxHeartbeats 8000000 in
theorem chainLong (nn rr : Int) (ad : Option Addr) (zs : List Int) (cap : Nat) {w : World} (hm : zs.length ≤ maxLen) (hc : ∀ i, i < zs.length → ∃ b off, ad = some ⟨b, off, none⟩ ∧ w.cell? ⟨b, off + i, none⟩ = some (.int .i64 (zs.getD i 0))) (ttl : Int) (ht0 : 0 ≤ ttl) (ht1 : ttl < 4294967296) : Calls Try.prog 3 #[.int .i64 nn, .int .i64 rr, .slice ad zs.length cap, .int .u32 ttl] w fun e w' => e = .returned (.bool true) ∧ Below w.heap.size w w' := by
  obtain ⟨k, hk, ek⟩ := below20 nn
  unfold maxLen at hm
  have q1 : ttl.tdiv 2 = ttl / 2 := Int.tdiv_eq_ediv_of_nonneg ht0
  have q2 : IntKind.u32.wrap (ttl / 2) = ttl / 2 := by rw [IntKind.wrap_u32]; omega
  have HC := Lib.hid hc
  clear hc
  go_enter Try.func3, Try.ntmps3
  go_wp2_with fail
  go_loopw [10, 11] (fun v i wx => ∃ j : Nat, j ≤ k ∧ i = .int .i64 j ∧ RkO wx w.heap.size v ((List.range j).map (stepR ttl)) ∧ Below w.heap.size w wx) (fun _ i _ => k - (intOf i).toNat)
  case atStart => exact ⟨0, Nat.zero_le _, rfl, RkO.nil _ _, Below.refl _ _⟩
  case round =>
    obtain ⟨j, hj, rfl, ho, hbe⟩ := hrel
    have HO := Lib.hid (And.intro ho hbe)
    clear ho hbe
    by_cases hjk : j < k
    · have q3 : IntKind.u32.wrap (j : Int) = (j : Int) := by rw [IntKind.wrap_u32]; omega
      have q4 : IntKind.u32.wrap (ttl / 2 + (j : Int)) = ttl / 2 + (j : Int) := by rw [IntKind.wrap_u32]; omega
      go_wp2_with fail
      refine (name15i rfl (by omega) _).mono ?_
      rintro e w1 ⟨rfl, b1⟩
      have H1 := Lib.hid (And.intro (HO.out.1.later b1) (HO.out.2.trans (b1.mono HO.out.2.size)))
      clear b1
      go_wp2_with fail
      refine (name15i (j := j + 1) (by omega) (by omega) _).mono ?_
      rintro e w2 ⟨rfl, b2⟩
      have H2 := Lib.hid (And.intro (H1.out.1.later b2) (H1.out.2.trans (b2.mono H1.out.2.size)))
      clear b2
      obtain ⟨R, hR⟩ : ∃ R, rkv (cnr (nm j) (nm (j + 1)) (ttl / 2 + (j : Int))) = R := ⟨_, rfl⟩
      have hv : rkL [stepR ttl j] = ([.agg R] : List Value) := by rw [← hR]; rfl
      have hok : ∀ r ∈ [stepR ttl j], r.ok := fun r hr => by obtain rfl := List.mem_singleton.1 hr; exact cnr_ok _ _ _
      have HV := Lib.hid (And.intro hv (And.intro hok hR))
      clear hv hok hR
      go_wp2_with fail
      refine (cname_let (nm j) (nm (j + 1)) (ttl / 2 + (j : Int)) HV.out.2.2 _).mono ?_
      rintro e w3 ⟨rfl, b3⟩
      have H3 := Lib.hid (And.intro (H2.out.1.later b3) (H2.out.2.trans (b3.mono H2.out.2.size)))
      clear b3
      go_wp2_with (first
        | (refine wpList_lits rfl 26 32 1 _ rfl ([.agg R] : List Value) rfl infoRk (rkL_sizes HV.out.1 HV.out.2.1) rfl (by decide) (by decide) (by decide) Try.underlying26 ?_; have h4 := Rks.laid w3 HV.out.1 HV.out.2.1 rfl (by show 1 ≤ 1000; omega); have H4 := Lib.hid (And.intro h4.1 (And.intro (H3.out.1.later h4.2) (H3.out.2.trans (h4.2.mono H3.out.2.size)))); clear h4; generalize w3.alloc (.cells (([.agg R] : List Value).flatMap fun v => v.cells.toList).toArray 32) = w4 at H4 ⊢)
        | (refine wpList_cat_rk rfl (.tmp 30) (.tmp 44) rfl w.heap.size _ _ rfl H4.out.2.1 rfl H4.out.1 (by decide) (by simp; omega) H4.out.2.2.size ?_; intro v5 w5 o5 g5; have H5 := Lib.hid (And.intro o5 (H4.out.2.2.grown g5 H4.out.2.2.size (fun q hq => (World.ownsRow.lt H4.out.2.1.1 q hq).1))); clear o5 g5))
      simp only [ek]
      have EK := Lib.hid ek
      clear ek
      go_wp2_with fail
      refine ⟨⟨j + 1, hjk, by go_num, ?_, H5.out.2⟩, by simp [intOf]; omega⟩
      rw [List.range_succ, List.map_append]
      exact H5.out.1
    · obtain rfl : j = k := by omega
      go_wp2_with fail
      refine (name15i (j := j) (by omega) (by omega) _).mono ?_
      rintro e w1 ⟨rfl, b1⟩
      have H1 := Lib.hid (And.intro (HO.out.1.later b1) (HO.out.2.trans (b1.mono HO.out.2.size)))
      clear b1
      obtain ⟨R, hR⟩ : ∃ R, rkv (arr (nm j) 7 ttl) = R := ⟨_, rfl⟩
      have hv : rkL [arr (nm j) 7 ttl] = ([.agg R] : List Value) := by rw [← hR]; rfl
      have hok : ∀ r ∈ [arr (nm j) 7 ttl], r.ok := fun r hr => by obtain rfl := List.mem_singleton.1 hr; exact arr_ok _ _ _
      have HV := Lib.hid (And.intro hv (And.intro hok hR))
      clear hv hok hR
      go_wp2_with fail
      refine (a_let (nm j) 7 ttl HV.out.2.2 _).mono ?_
      rintro e w3 ⟨rfl, b3⟩
      have H3 := Lib.hid (And.intro (H1.out.1.later b3) (H1.out.2.trans (b3.mono H1.out.2.size)))
      clear b3
      go_wp2_with (first
        | (refine wpList_lits rfl 26 32 1 _ rfl ([.agg R] : List Value) rfl infoRk (rkL_sizes HV.out.1 HV.out.2.1) rfl (by decide) (by decide) (by decide) Try.underlying26 ?_; have h4 := Rks.laid w3 HV.out.1 HV.out.2.1 rfl (by show 1 ≤ 1000; omega); have H4 := Lib.hid (And.intro h4.1 (And.intro (H3.out.1.later h4.2) (H3.out.2.trans (h4.2.mono H3.out.2.size)))); clear h4; generalize w3.alloc (.cells (([.agg R] : List Value).flatMap fun v => v.cells.toList).toArray 32) = w4 at H4 ⊢)
        | (refine wpList_cat_rk rfl (.tmp 46) (.tmp 53) rfl w.heap.size _ _ rfl H4.out.2.1 rfl H4.out.1 (by decide) (by simp; omega) H4.out.2.2.size ?_; intro v5 w5 o5 g5; have H5 := Lib.hid (And.intro o5 (H4.out.2.2.grown g5 H4.out.2.2.size (fun q hq => (World.ownsRow.lt H4.out.2.1.1 q hq).1))); clear o5 g5))
      obtain ⟨g, c, hv5, hlo⟩ : ∃ g c, v5 = .slice (some ⟨g, 0, none⟩) (j + 1) c ∧ w.heap.size ≤ g := by
        rcases H5.out.1.1.2 with ⟨_, h0⟩ | ⟨g, cap, cur, e, hlo, _⟩
        · exact absurd h0 (by simp)
        · exact ⟨g, cap, by rw [e]; simp, hlo⟩
      subst hv5
      have HG := Lib.hid hlo
      clear hlo
      go_wp2_with fail
      go_loopw [12, 13] (fun i _ wx => ∃ t : Nat, t ≤ 40 ∧ t ≤ zs.length ∧ i = .int .i64 t ∧ ∃ xs : List Rk, xs.Perm (lineL (j + 1) ttl) ∧ RkO wx w.heap.size (.slice (some ⟨g, 0, none⟩) (j + 1) c) xs ∧ Below w.heap.size w wx) (fun i _ _ => 40 - (intOf i).toNat)
      case atStart => exact ⟨0, by omega, by omega, rfl, _, List.Perm.refl _, H5.out.1, H5.out.2⟩
      case round =>
        obtain ⟨t, ht40, htl, rfl, xs, hp, ho, hbe⟩ := hrel
        have hxl : xs.length = j + 1 := by rw [hp.length_eq]; simp [lineL]
        have HX := Lib.hid (And.intro hp (And.intro ho (And.intro hbe hxl)))
        clear hp ho hbe hxl
        go_upto_region 10 with fail
        go_cut [62] (fun v wy => v = .bool (decide (t < zs.length ∧ t < 40)) ∧ wy = wr)
        case first =>
          by_cases hlt : t < zs.length
          · by_cases h40 : t < 40
            · go_wp2_with fail
              go_meet
              have h40' : (t : Int) < 40 := by omega
              exact ⟨by rw [decide_eq_true h40', decide_eq_true (⟨hlt, h40⟩ : t < zs.length ∧ t < 40)], rfl⟩
            · go_wp2_with fail
              go_meet
              have h40' : ¬ (t : Int) < 40 := by omega
              exact ⟨by rw [decide_eq_false h40', decide_eq_false (fun h : t < zs.length ∧ t < 40 => h40 h.2)], rfl⟩
          · go_wp2_with fail
            go_meet
            exact ⟨by rw [decide_eq_false (fun h : t < zs.length ∧ t < 40 => hlt h.1)], rfl⟩
        case rest =>
        obtain ⟨rfl, hwc⟩ := hcut
        rw [hwc]
        clear hwc
        by_cases hgo : t < zs.length ∧ t < 40
        · rw [decide_eq_true hgo]
          obtain ⟨hlt, h40⟩ := hgo
          obtain ⟨tb, tf, had, hcell⟩ := HC.out t hlt
          subst had
          have hcw : wr.cell? ⟨tb, tf + t, none⟩ = some (.int .i64 (zs.getD t 0)) := (HX.out.2.2.1.cell (p := ⟨tb, tf + t, none⟩) (lt_of_cell' hcell)).trans hcell
          obtain ⟨z, hz⟩ : ∃ z, zs.getD t 0 = z := ⟨_, rfl⟩
          rw [hz] at hcw
          clear hz hcell
          go_wp2_with fail
          obtain ⟨q, hq, eq⟩ := belowN z j (by omega)
          simp only [eq]
          clear eq
          obtain ⟨p, hp, ep⟩ := modN t j
          have EP := Lib.hid ep
          have hpl : p < xs.length := by rw [HX.out.2.2.2]; exact hp
          have hql : q < xs.length := by rw [HX.out.2.2.2]; exact hq
          obtain ⟨rp, erp⟩ : ∃ r, xs[p]'hpl = r := ⟨_, rfl⟩
          obtain ⟨rq, erq⟩ : ∃ r, xs[q]'hql = r := ⟨_, rfl⟩
          have hperm : ((xs.set p rq).set q rp).Perm (lineL (j + 1) ttl) := by
            subst erp erq
            exact (List.set_set_perm hpl hql).trans HX.out.1
          have hql1 : q < (xs.set p rq).length := by rw [List.length_set]; exact hql
          have xp : xs[p]? = some rp := by rw [List.getElem?_eq_getElem hpl, erp]
          have xq : xs[q]? = some rq := by rw [List.getElem?_eq_getElem hql, erq]
          clear erp erq
          have ho := HX.out.2.1.later (Below.refl _ wr).drew
          have hB := HX.out.2.2.1.drew
          obtain ⟨hkp, hrp⟩ := ho.range xp
          obtain ⟨hkq, hrq⟩ := ho.range xq
          have hS : True := trivial
          have hqj : (q : Int) < (j : Int) + 1 := by omega
          have hpj : (p : Int) < (j : Int) + 1 := by omega
          have hj1 : ¬ ((j : Int) + 1 = 0) := by omega
          refine rg_begin (fun _ => True) 22 (by kernel_rfl) rfl ?_
          refine rg_take 0 (v := ?rv1) rfl (by kernel_rfl) (by kernel_rfl) (by kernel_rfl) (fun _ _ _ h => h) (by rfl) hS (fun w2 hw2 => ?ry1) ?rr1
          case ry1 => ((try dsimp only at hw2); go_simp <;> with_reducible rfl)
          simp only [Act.put, List.setIfInBounds_toArray, List.set_cons_zero, List.set_cons_succ]
          refine rg_take 1 (v := ?rv2) rfl (by kernel_rfl) (by kernel_rfl) (by kernel_rfl) (fun _ _ _ h => h) (by rfl) hS (fun w2 hw2 => ?ry2) ?rr2
          case ry2 => ((try dsimp only at hw2); go_simp <;> with_reducible rfl)
          simp only [Act.put, List.setIfInBounds_toArray, List.set_cons_zero, List.set_cons_succ]
          refine rg_take 2 (v := ?rv3) rfl (by kernel_rfl) (by kernel_rfl) (by kernel_rfl) (fun _ _ _ h => h) (by rfl) hS (fun w2 hw2 => ?ry3) ?rr3
          case ry3 => ((try dsimp only at hw2); go_simp <;> with_reducible rfl)
          simp only [Act.put, List.setIfInBounds_toArray, List.set_cons_zero, List.set_cons_succ]
          refine rg_take 5 (v := ?rv4) rfl (by kernel_rfl) (by kernel_rfl) (by kernel_rfl) (fun _ _ _ h => h) (by rfl) hS (fun w2 hw2 => ?ry4) ?rr4
          case ry4 => ((try dsimp only at hw2); go_simp <;> with_reducible rfl)
          simp only [Act.put, List.setIfInBounds_toArray, List.set_cons_zero, List.set_cons_succ]
          refine rg_take 6 (v := ?rv5) rfl (by kernel_rfl) (by kernel_rfl) (by kernel_rfl) (fun _ _ _ h => h) (by rfl) hS (fun w2 hw2 => ?ry5) ?rr5
          case ry5 => ((try dsimp only at hw2); go_simp <;> with_reducible rfl)
          simp only [Act.put, List.setIfInBounds_toArray, List.set_cons_zero, List.set_cons_succ]
          refine rg_take 7 (v := ?rv6) rfl (by kernel_rfl) (by kernel_rfl) (by kernel_rfl) (fun _ _ _ h => h) (by rfl) hS (fun w2 hw2 => ?ry6) ?rr6
          case ry6 => ((try dsimp only at hw2); go_simp <;> with_reducible rfl)
          simp only [Act.put, List.setIfInBounds_toArray, List.set_cons_zero, List.set_cons_succ]
          refine rg_take 8 (v := ?rv7) rfl (by kernel_rfl) (by kernel_rfl) (by kernel_rfl) (fun _ _ _ h => h) (by rfl) hS (fun w2 hw2 => ?ry7) ?rr7
          case ry7 => ((try dsimp only at hw2); go_simp <;> with_reducible rfl)
          simp only [Act.put, List.setIfInBounds_toArray, List.set_cons_zero, List.set_cons_succ]
          refine rg_take 11 (v := ?rv8) rfl (by kernel_rfl) (by kernel_rfl) (by kernel_rfl) (fun _ _ _ h => h) (by rfl) hS (fun w2 hw2 => ?ry8) ?rr8
          case ry8 => ((try dsimp only at hw2); go_simp <;> with_reducible rfl)
          simp only [Act.put, List.setIfInBounds_toArray, List.set_cons_zero, List.set_cons_succ]
          refine rg_take 12 (v := ?rv9) rfl (by kernel_rfl) (by kernel_rfl) (by kernel_rfl) (fun _ _ _ h => h) (by rfl) hS (fun w2 hw2 => ?ry9) ?rr9
          case ry9 => ((try dsimp only at hw2); go_simp <;> with_reducible rfl)
          simp only [Act.put, List.setIfInBounds_toArray, List.set_cons_zero, List.set_cons_succ]
          refine rg_take 13 (v := ?rv10) rfl (by kernel_rfl) (by kernel_rfl) (by kernel_rfl) (fun _ _ _ h => h) (by rfl) hS (fun w2 hw2 => ?ry10) ?rr10
          case ry10 => ((try dsimp only at hw2); go_simp <;> with_reducible rfl)
          simp only [Act.put, List.setIfInBounds_toArray, List.set_cons_zero, List.set_cons_succ]
          refine rg_take 3 (v := ?rv11) rfl (by kernel_rfl) (by kernel_rfl) (by kernel_rfl) (fun _ _ _ h => h) (by rfl) hS (fun w2 hw2 => ?ry11) ?rr11
          case ry11 => ((try dsimp only at hw2); go_simp <;> with_reducible rfl)
          simp only [Act.put, List.setIfInBounds_toArray, List.set_cons_zero, List.set_cons_succ]
          refine rg_take 9 (v := ?rv12) rfl (by kernel_rfl) (by kernel_rfl) (by kernel_rfl) (fun _ _ _ h => h) (by rfl) hS (fun w2 hw2 => ?ry12) ?rr12
          case ry12 => ((try dsimp only at hw2); go_simp <;> with_reducible rfl)
          simp only [Act.put, List.setIfInBounds_toArray, List.set_cons_zero, List.set_cons_succ]
          refine rg_take 14 (v := ?rv13) rfl (by kernel_rfl) (by kernel_rfl) (by kernel_rfl) (fun _ _ _ h => h) (by rfl) hS (fun w2 hw2 => ?ry13) ?rr13
          case ry13 => ((try dsimp only at hw2); go_simp <;> with_reducible rfl)
          simp only [Act.put, List.setIfInBounds_toArray, List.set_cons_zero, List.set_cons_succ]
          refine rg_take 4 (v := ?rv14) rfl (by kernel_rfl) (by kernel_rfl) (by kernel_rfl) (fun _ _ _ h => h) (by rfl) hS (fun w2 hw2 => ?ry14) ?rr14
          case ry14 => ((try dsimp only at hw2); go_simp <;> with_reducible rfl)
          simp only [Act.put, List.setIfInBounds_toArray, List.set_cons_zero, List.set_cons_succ]
          refine rg_take 15 (v := ?rv15) rfl (by kernel_rfl) (by kernel_rfl) (by kernel_rfl) (fun _ _ _ h => h) (by rfl) hS (fun w2 hw2 => ?ry15) ?rr15
          case ry15 => ((try dsimp only at hw2); go_simp <;> with_reducible rfl)
          simp only [Act.put, List.setIfInBounds_toArray, List.set_cons_zero, List.set_cons_succ]
          try simp only [ep]
          refine rg_take 16 (v := ?rv16) rfl (by kernel_rfl) (by kernel_rfl) (by kernel_rfl) (fun _ _ _ h => h) (by rfl) hS (fun w2 hw2 => ?ry16) ?rr16
          case ry16 => ((try dsimp only at hw2); go_simp <;> with_reducible rfl)
          simp only [Act.put, List.setIfInBounds_toArray, List.set_cons_zero, List.set_cons_succ]
          refine rg_any [10, 17] (by kernel_rfl) (by simp) ?_
          refine rg_or 10 rfl (by rfl) (fun K hK => ?_) (rg_or 17 rfl (by rfl) (fun K hK => ?_) AllReadyH.nil)
          · skip
            refine wp_load_rk (.tmp 84) rfl rfl hkq hrq ?_
            refine hK.out _ _ hS ?_
            clear hK K
            try simp only [Act.put, List.setIfInBounds_toArray, List.set_cons_zero, List.set_cons_succ]
            refine rg_step 17 rfl (by kernel_rfl) (by rfl) (fun K hK => ?_)
            refine wp_load_rk (.tmp 91) rfl rfl hkp hrp ?_
            refine hK.out _ _ hS ?_
            clear hK K
            try simp only [Act.put, List.setIfInBounds_toArray, List.set_cons_zero, List.set_cons_succ]
            refine rg_take 18 (v := ?rv17) rfl (by kernel_rfl) (by kernel_rfl) (by kernel_rfl) (fun _ _ _ h => h) (by rfl) hS (fun w2 hw2 => ?ry17) ?rr17
            case ry17 => ((try dsimp only at hw2); go_simp <;> with_reducible rfl)
            simp only [Act.put, List.setIfInBounds_toArray, List.set_cons_zero, List.set_cons_succ]
            refine rg_step 19 rfl (by kernel_rfl) (by rfl) (fun K hK => ?_)
            refine wp_set_rk (.tmp 93) (.tmp 85) rfl ho hpl hkq rfl rfl ?_
            intro w1 o1 _ t1
            refine hK.out _ _ hS ?_
            clear hK K
            simp only [Act.put]
            refine rg_take 20 (v := ?rv18) rfl (by kernel_rfl) (by kernel_rfl) (by kernel_rfl) (fun _ _ _ h => h) (by rfl) hS (fun w2 hw2 => ?ry18) ?rr18
            case ry18 => ((try dsimp only at hw2); go_simp <;> with_reducible rfl)
            simp only [Act.put, List.setIfInBounds_toArray, List.set_cons_zero, List.set_cons_succ]
            refine rg_step 21 rfl (by kernel_rfl) (by rfl) (fun K hK => ?_)
            refine wp_set_rk (.tmp 94) (.tmp 92) rfl o1 hql1 hkp rfl rfl ?_
            intro w2 o2 _ t2
            refine hK.out _ _ hS ?_
            clear hK K
            simp only [Act.put]
            refine rg_done (by kernel_rfl) ?_
            go_wp2_with fail
            exact ⟨⟨t + 1, by omega, by omega, by go_num, _, hperm, o2, t2 _ _ HG.out (t1 _ _ HG.out hB)⟩, by simp [intOf]; omega⟩
          · skip
            refine wp_load_rk (.tmp 91) rfl rfl hkp hrp ?_
            refine hK.out _ _ hS ?_
            clear hK K
            try simp only [Act.put, List.setIfInBounds_toArray, List.set_cons_zero, List.set_cons_succ]
            refine rg_step 10 rfl (by kernel_rfl) (by rfl) (fun K hK => ?_)
            refine wp_load_rk (.tmp 84) rfl rfl hkq hrq ?_
            refine hK.out _ _ hS ?_
            clear hK K
            try simp only [Act.put, List.setIfInBounds_toArray, List.set_cons_zero, List.set_cons_succ]
            refine rg_take 18 (v := ?rv19) rfl (by kernel_rfl) (by kernel_rfl) (by kernel_rfl) (fun _ _ _ h => h) (by rfl) hS (fun w2 hw2 => ?ry19) ?rr19
            case ry19 => ((try dsimp only at hw2); go_simp <;> with_reducible rfl)
            simp only [Act.put, List.setIfInBounds_toArray, List.set_cons_zero, List.set_cons_succ]
            refine rg_step 19 rfl (by kernel_rfl) (by rfl) (fun K hK => ?_)
            refine wp_set_rk (.tmp 93) (.tmp 85) rfl ho hpl hkq rfl rfl ?_
            intro w1 o1 _ t1
            refine hK.out _ _ hS ?_
            clear hK K
            simp only [Act.put]
            refine rg_take 20 (v := ?rv20) rfl (by kernel_rfl) (by kernel_rfl) (by kernel_rfl) (fun _ _ _ h => h) (by rfl) hS (fun w2 hw2 => ?ry20) ?rr20
            case ry20 => ((try dsimp only at hw2); go_simp <;> with_reducible rfl)
            simp only [Act.put, List.setIfInBounds_toArray, List.set_cons_zero, List.set_cons_succ]
            refine rg_step 21 rfl (by kernel_rfl) (by rfl) (fun K hK => ?_)
            refine wp_set_rk (.tmp 94) (.tmp 92) rfl o1 hql1 hkp rfl rfl ?_
            intro w2 o2 _ t2
            refine hK.out _ _ hS ?_
            clear hK K
            simp only [Act.put]
            refine rg_done (by kernel_rfl) ?_
            go_wp2_with fail
            exact ⟨⟨t + 1, by omega, by omega, by go_num, _, hperm, o2, t2 _ _ HG.out (t1 _ _ HG.out hB)⟩, by simp [intOf]; omega⟩
        · rw [decide_eq_false hgo]
          clear hgo
          go_wp2_with fail
          refine (name15i (j := 0) rfl (by omega) _).mono ?_
          rintro e w1 ⟨rfl, b1⟩
          have H1 := Lib.hid (And.intro (HX.out.2.1.later b1) (HX.out.2.2.1.trans (b1.mono HX.out.2.2.1.size)))
          clear b1
          go_wp2_with fail
          refine (follow_any H1.out.1.rks (by omega) _ _ _ _ _ _ _ _ (nm 0)).mono ?_
          rintro e w2 ⟨B, m, d, C, k0, f0, rfl, hF, hG, b2⟩
          rw [follow_line ht0 ht1 (by omega) (by omega) HX.out.1] at hF hG
          have H2 := Lib.hid (And.intro (H1.out.1.later b2) (And.intro (H1.out.2.trans (b2.mono H1.out.2.size)) (And.intro hF hG)))
          clear b2 hF hG
          go_wp2_with fail
          obtain ⟨q, hq, eq'⟩ := belowI rr j (by omega)
          have hround : followv (xs ++ [cnr (nm j) (nm q) 9]) (nm 0) = ([], []) := follow_round ht0 ht1 (n := j + 1) (by omega) (by omega) HX.out.1 (q := q) hq 9
          have HRd := Lib.hid hround
          clear hround
          go_cut [16, 17] (fun f2 n2 wy => ∃ B' d' C' f', f2 = .slice B' 0 d' ∧ n2 = .slice C' 0 f' ∧ Below w2.heap.size w2 wy)
          case first =>
            have hb2 : Below w2.heap.size w2 w2.drew := (Below.refl _ _).drew
            have hcur := (H2.out.1.later hb2).rks
            have hxl := HX.out.2.2.2
            have hS : True := trivial
            have n1 : IntKind.u64.wrap (1 + (j : Int)) = 1 + (j : Int) := by show (1 + (j : Int)) % 18446744073709551616 = _; omega
            have n0 : ¬ (1 + (j : Int) = 0) := by omega
            have n4 : IntKind.i64.wrap (1 + (j : Int) - 1) = (j : Int) := by rw [IntKind.wrap_i64]; omega
            refine rg_begin (fun _ => True) 26 (by kernel_rfl) rfl ?_
            refine rg_take 0 (v := ?rv21) rfl (by kernel_rfl) (by kernel_rfl) (by kernel_rfl) (fun _ _ _ h => h) (by rfl) hS (fun w2 hw2 => ?ry21) ?rr21
            case ry21 => ((try dsimp only at hw2); go_simp <;> with_reducible rfl)
            simp only [Act.put, List.setIfInBounds_toArray, List.set_cons_zero, List.set_cons_succ]
            refine rg_take 2 (v := ?rv22) rfl (by kernel_rfl) (by kernel_rfl) (by kernel_rfl) (fun _ _ _ h => h) (by rfl) hS (fun w2 hw2 => ?ry22) ?rr22
            case ry22 => ((try dsimp only at hw2); go_simp <;> with_reducible rfl)
            simp only [Act.put, List.setIfInBounds_toArray, List.set_cons_zero, List.set_cons_succ]
            refine rg_take 3 (v := ?rv23) rfl (by kernel_rfl) (by kernel_rfl) (by kernel_rfl) (fun _ _ _ h => h) (by rfl) hS (fun w2 hw2 => ?ry23) ?rr23
            case ry23 => ((try dsimp only at hw2); go_simp <;> with_reducible rfl)
            simp only [Act.put, List.setIfInBounds_toArray, List.set_cons_zero, List.set_cons_succ]
            refine rg_take 6 (v := ?rv24) rfl (by kernel_rfl) (by kernel_rfl) (by kernel_rfl) (fun _ _ _ h => h) (by rfl) hS (fun w2 hw2 => ?ry24) ?rr24
            case ry24 => ((try dsimp only at hw2); go_simp <;> with_reducible rfl)
            simp only [Act.put, List.setIfInBounds_toArray, List.set_cons_zero, List.set_cons_succ]
            refine rg_take 7 (v := ?rv25) rfl (by kernel_rfl) (by kernel_rfl) (by kernel_rfl) (fun _ _ _ h => h) (by rfl) hS (fun w2 hw2 => ?ry25) ?rr25
            case ry25 => ((try dsimp only at hw2); go_simp <;> with_reducible rfl)
            simp only [Act.put, List.setIfInBounds_toArray, List.set_cons_zero, List.set_cons_succ]
            refine rg_take 9 (v := ?rv26) rfl (by kernel_rfl) (by kernel_rfl) (by kernel_rfl) (fun _ _ _ h => h) (by rfl) hS (fun w2 hw2 => ?ry26) ?rr26
            case ry26 => ((try dsimp only at hw2); go_simp <;> with_reducible rfl)
            simp only [Act.put, List.setIfInBounds_toArray, List.set_cons_zero, List.set_cons_succ]
            refine rg_take 18 (v := ?rv27) rfl (by kernel_rfl) (by kernel_rfl) (by kernel_rfl) (fun _ _ _ h => h) (by rfl) hS (fun w2 hw2 => ?ry27) ?rr27
            case ry27 => ((try dsimp only at hw2); go_simp <;> with_reducible rfl)
            simp only [Act.put, List.setIfInBounds_toArray, List.set_cons_zero, List.set_cons_succ]
            refine rg_take 4 (v := ?rv28) rfl (by kernel_rfl) (by kernel_rfl) (by kernel_rfl) (fun _ _ _ h => h) (by rfl) hS (fun w2 hw2 => ?ry28) ?rr28
            case ry28 => ((try dsimp only at hw2); go_simp <;> with_reducible rfl)
            simp only [Act.put, List.setIfInBounds_toArray, List.set_cons_zero, List.set_cons_succ]
            refine rg_take 8 (v := ?rv29) rfl (by kernel_rfl) (by kernel_rfl) (by kernel_rfl) (fun _ _ _ h => h) (by rfl) hS (fun w2 hw2 => ?ry29) ?rr29
            case ry29 => ((try dsimp only at hw2); go_simp <;> with_reducible rfl)
            simp only [Act.put, List.setIfInBounds_toArray, List.set_cons_zero, List.set_cons_succ]
            refine rg_take 10 (v := ?rv30) rfl (by kernel_rfl) (by kernel_rfl) (by kernel_rfl) (fun _ _ _ h => h) (by rfl) hS (fun w2 hw2 => ?ry30) ?rr30
            case ry30 => ((try dsimp only at hw2); go_simp <;> with_reducible rfl)
            simp only [Act.put, List.setIfInBounds_toArray, List.set_cons_zero, List.set_cons_succ]
            refine rg_take 11 (v := ?rv31) rfl (by kernel_rfl) (by kernel_rfl) (by kernel_rfl) (fun _ _ _ h => h) (by rfl) hS (fun w2 hw2 => ?ry31) ?rr31
            case ry31 => ((try dsimp only at hw2); go_simp <;> with_reducible rfl)
            simp only [Act.put, List.setIfInBounds_toArray, List.set_cons_zero, List.set_cons_succ]
            refine rg_take 12 (v := ?rv32) rfl (by kernel_rfl) (by kernel_rfl) (by kernel_rfl) (fun _ _ _ h => h) (by rfl) hS (fun w2 hw2 => ?ry32) ?rr32
            case ry32 => ((try dsimp only at hw2); go_simp <;> with_reducible rfl)
            simp only [Act.put, List.setIfInBounds_toArray, List.set_cons_zero, List.set_cons_succ]
            refine rg_step 1 rfl (by kernel_rfl) (by rfl) (fun K hK => ?_)
            refine wp_cat_rk (.const (.slice none 0 0)) (.tmp 104) rfl w2.heap.size _ [] rfl (RkO.nil _ _) rfl hcur (by omega) (by simp; omega) (Nat.le_refl _) ?_
            intro v3 w3 o3 g3 _
            have b3 : Below w2.heap.size w2 w3 := hb2.grown g3 hb2.size (fun q hq => by cases hq)
            refine hK.out _ _ hS ?_
            clear hK K
            try simp only [Act.put, List.setIfInBounds_toArray, List.set_cons_zero, List.set_cons_succ]
            refine rg_step 5 rfl (by kernel_rfl) (by rfl) (fun K hK => ?_)
            go_simp
            refine (name15i (j := j) (by omega) (by omega) _).mono ?_
            rintro e w4 ⟨rfl, c4⟩
            have o4 := o3.later c4
            have b4 := b3.trans (c4.mono b3.size)
            refine hK.out _ _ hS ?_
            clear hK K
            try simp only [Act.put, List.setIfInBounds_toArray, List.set_cons_zero, List.set_cons_succ]
            refine rg_step 13 rfl (by kernel_rfl) (by rfl) (fun K hK => ?_)
            go_simp
            refine (name15i (j := q) rfl (by omega) _).mono ?_
            rintro e w5 ⟨rfl, c5⟩
            have o5 := o4.later c5
            have b5 := b4.trans (c5.mono b4.size)
            refine hK.out _ _ hS ?_
            clear hK K
            try simp only [Act.put, List.setIfInBounds_toArray, List.set_cons_zero, List.set_cons_succ]
            obtain ⟨R, hR⟩ : ∃ R, rkv (cnr (nm j) (nm q) 9) = R := ⟨_, rfl⟩
            have hv : rkL [cnr (nm j) (nm q) 9] = ([.agg R] : List Value) := by rw [← hR]; rfl
            have hok : ∀ r ∈ [cnr (nm j) (nm q) 9], r.ok := fun r hr => by obtain rfl := List.mem_singleton.1 hr; exact cnr_ok _ _ _
            refine rg_step 14 rfl (by kernel_rfl) (by rfl) (fun K hK => ?_)
            go_simp
            refine (cname_let (nm j) (nm q) 9 hR _).mono ?_
            rintro e w6 ⟨rfl, c6⟩
            have o6 := o5.later c6
            have b6 := b5.trans (c6.mono b5.size)
            refine hK.out _ _ hS ?_
            clear hK K
            try simp only [Act.put, List.setIfInBounds_toArray, List.set_cons_zero, List.set_cons_succ]
            refine rg_step 15 rfl (by kernel_rfl) (by rfl) (fun K hK => ?_)
            refine wp_lits 26 32 1 _ rfl ([.agg R] : List Value) rfl infoRk (rkL_sizes hv hok) rfl (by decide) (by decide) (by decide) Try.underlying26 ?_
            have h7 := Rks.laid w6 hv hok rfl (by show 1 ≤ 1000; omega)
            generalize w6.alloc (.cells (([.agg R] : List Value).flatMap fun v => v.cells.toList).toArray 32) = w7 at h7 ⊢
            have o7 := o6.later h7.2
            have b7 := b6.trans (h7.2.mono b6.size)
            refine hK.out _ _ hS ?_
            clear hK K
            try simp only [Act.put, List.setIfInBounds_toArray, List.set_cons_zero, List.set_cons_succ]
            refine rg_step 16 rfl (by kernel_rfl) (by rfl) (fun K hK => ?_)
            refine wp_cat_rk (.tmp 105) (.tmp 119) rfl w2.heap.size _ _ rfl o7 rfl h7.1 (by decide) (by simp; omega) b7.size ?_
            intro v8 w8 o8 g8 _
            have b8 := b7.grown g8 b7.size (fun q hq => (World.ownsRow.lt o7.1 q hq).1)
            refine hK.out _ _ hS ?_
            clear hK K
            try simp only [Act.put, List.setIfInBounds_toArray, List.set_cons_zero, List.set_cons_succ]
            obtain ⟨Y8, eY8⟩ : ∃ Y, [] ++ xs ++ [cnr (nm j) (nm q) 9] = Y := ⟨_, rfl⟩
            rw [eY8] at o8
            have hfo : followv Y8 (nm 0) = ([], []) := by rw [← eY8, List.nil_append]; exact HRd.out
            have hln : Y8.length ≤ 1000000 := by rw [← eY8, List.length_append, List.nil_append]; have := HX.out.2.2.2; show xs.length + 1 ≤ 1000000; omega
            clear eY8
            obtain ⟨A8, c8, rfl, hR8⟩ := Rks.of_own o8
            clear o8 n1 n0 n4 eq' g3 g8 hR b3 b4 b5 b6 b7 o3 o4 o5 o6 o7 h7 hv hok hcur hb2
            generalize Y8.length = L8 at hR8 hln ⊢
            have HR8 := Lib.hid hR8
            have HFO := Lib.hid (And.intro hfo hln)
            have HB8 := Lib.hid b8
            clear hR8 hfo hln b8
            refine rg_take 17 rfl (by kernel_rfl) (by kernel_rfl) (by kernel_rfl) (fun _ _ _ h => h) (by rfl) hS (fun w2 _ => exec_build_ms6 (.tmp 120) rfl rfl w2) ?_
            simp only [Act.put, List.setIfInBounds_toArray, List.set_cons_zero, List.set_cons_succ]
            refine rg_step 19 rfl (by kernel_rfl) (by rfl) (fun K hK => ?_)
            go_simp
            refine (name15i (j := 0) rfl (by omega) _).mono ?_
            rintro e w9 ⟨rfl, c9⟩
            have H9 := Lib.hid (And.intro (HR8.out.later c9 (Nat.le_refl _)) (HB8.out.trans (c9.mono HB8.out.size)))
            clear c9
            refine hK.out _ _ hS ?_
            clear hK K
            try simp only [Act.put, List.setIfInBounds_toArray, List.set_cons_zero, List.set_cons_succ]
            refine rg_step 20 rfl (by kernel_rfl) (by rfl) (fun K hK => ?_)
            go_simp
            refine (follow_any H9.out.1 HFO.out.2 (.int .i64 0) (.bool false) (.int .i64 0) (.int .i64 0) (.int .i64 0) (.slice none 0 0) (.slice none 0 0) (.slice none 0 0) (nm 0)).mono ?_
            rintro e w10 ⟨B', m', d', C', k', f', rfl, hF', hG', c10⟩
            rw [HFO.out.1] at hF' hG'
            obtain rfl : m' = 0 := hF'.len.symm
            obtain rfl : k' = 0 := hG'.len.symm
            have H10 := Lib.hid (H9.out.2.trans (c10.mono H9.out.2.size))
            clear c10 hF' hG'
            refine hK.out _ _ hS ?_
            clear hK K
            try simp only [Act.put, List.setIfInBounds_toArray, List.set_cons_zero, List.set_cons_succ]
            refine rg_take 21 (v := ?rv33) rfl (by kernel_rfl) (by kernel_rfl) (by kernel_rfl) (fun _ _ _ h => h) (by rfl) hS (fun w2 hw2 => ?ry33) ?rr33
            case ry33 => ((try dsimp only at hw2); go_simp <;> with_reducible rfl)
            simp only [Act.put, List.setIfInBounds_toArray, List.set_cons_zero, List.set_cons_succ]
            refine rg_take 22 (v := ?rv34) rfl (by kernel_rfl) (by kernel_rfl) (by kernel_rfl) (fun _ _ _ h => h) (by rfl) hS (fun w2 hw2 => ?ry34) ?rr34
            case ry34 => ((try dsimp only at hw2); go_simp <;> with_reducible rfl)
            simp only [Act.put, List.setIfInBounds_toArray, List.set_cons_zero, List.set_cons_succ]
            refine rg_take 23 (v := ?rv35) rfl (by kernel_rfl) (by kernel_rfl) (by kernel_rfl) (fun _ _ _ h => h) (by rfl) hS (fun w2 hw2 => ?ry35) ?rr35
            case ry35 => ((try dsimp only at hw2); go_simp <;> with_reducible rfl)
            simp only [Act.put, List.setIfInBounds_toArray, List.set_cons_zero, List.set_cons_succ]
            refine rg_take 24 (v := ?rv36) rfl (by kernel_rfl) (by kernel_rfl) (by kernel_rfl) (fun _ _ _ h => h) (by rfl) hS (fun w2 hw2 => ?ry36) ?rr36
            case ry36 => ((try dsimp only at hw2); go_simp <;> with_reducible rfl)
            simp only [Act.put, List.setIfInBounds_toArray, List.set_cons_zero, List.set_cons_succ]
            refine rg_take 25 (v := ?rv37) rfl (by kernel_rfl) (by kernel_rfl) (by kernel_rfl) (fun _ _ _ h => h) (by rfl) hS (fun w2 hw2 => ?ry37) ?rr37
            case ry37 => ((try dsimp only at hw2); go_simp <;> with_reducible rfl)
            simp only [Act.put, List.setIfInBounds_toArray, List.set_cons_zero, List.set_cons_succ]
            refine rg_done (by kernel_rfl) ?_
            go_wp2_with fail
            go_meet
            exact ⟨_, _, _, _, rfl, rfl, H10.out⟩
          case rest =>
          obtain ⟨B', d', C', f', rfl, rfl, bR⟩ := hcut
          have H3 := Lib.hid (And.intro (H2.out.2.1.trans (bR.mono H2.out.2.1.size)) (And.intro (H2.out.2.2.1.later bR (Nat.le_refl _)) (H2.out.2.2.2.later bR (Nat.le_refl _))))
          clear bR
          by_cases h16 : j + 1 ≤ 16
          · have hF := H3.out.2.1
            have hG := H3.out.2.2
            rw [if_pos h16] at hF hG
            obtain rfl : m = 1 := hF.len.symm
            obtain rfl : k0 = j + 1 := by have h := hG.len; simp [sv, nms_len] at h; omega
            obtain ⟨fb, fo, rfl, hfo⟩ := hF.here 0 _ rfl
            have hok := hF.ok _ (List.mem_singleton.2 rfl)
            obtain ⟨tw, htw⟩ : ∃ tw : Int, (if j + 1 = 1 then ttl else ttl / 2) = tw := ⟨_, rfl⟩
            rw [htw] at hfo hok
            have HF := Lib.hid hfo
            have HW := Lib.hid (And.intro htw hok)
            clear hF hG hfo hok htw
            go_wp2_with fail
            refine (awake15 _).mono ?_
            rintro e w11 ⟨rfl, b11⟩
            have H4 := Lib.hid (And.intro (H3.out.1.trans (b11.mono H3.out.1.size)) (rangeAt_kept HF.out b11 (Nat.le_refl _)))
            clear b11
            go_upto_if 151 with fail
            go_cut [18] (fun v wy => v = .int .u32 tw ∧ wy = w11)
            case first =>
              by_cases hj0 : j = 0
              · have htw : ttl = tw := by have := HW.out.1; rwa [if_pos (by omega)] at this
                clear HW
                subst htw
                go_wp2_with fail
                go_meet
                exact ⟨rfl, rfl⟩
              · have htw : ttl / 2 = tw := by have := HW.out.1; rwa [if_neg (by omega)] at this
                clear HW
                have HM := Lib.hid htw
                clear htw
                go_wp2_with fail
                all_goals go_meet
                all_goals exact ⟨by have := HM.out; congr 1 <;> omega, rfl⟩
            case rest =>
            obtain ⟨rfl, hwc⟩ := hcut
            rw [hwc]
            clear hwc
            obtain ⟨X, hX⟩ : ∃ X, fov ⟨false, v4B 8 8 8 7, tw⟩ = X := ⟨_, rfl⟩
            have heq := eql_fo HW.out.2
            have hsz := fo_size HW.out.2
            have hrg := H4.out.2
            rw [hX] at heq hsz hrg
            have HS := Lib.hid hsz
            have HR := Lib.hid hrg
            have HX' := Lib.hid hX
            have hlen : ((j : Int) + 1 == 1 + (j : Int)) = true := by simp; omega
            have hlen' : ((j : Int) + 1 == (j : Int) + 1) = true := by simp
            have hlen2 : (((j + 1 : Nat) : Int) == 1 + (j : Int)) = true := by simp; omega
            clear hsz hrg hX
            have hS : Below w11.heap.size w11 w11.drew := (Below.refl _ _).drew
            go_wp2_with fail
            refine rg_begin (fun w' => Below w11.heap.size w11 w') 19 (by kernel_rfl) rfl ?_
            refine rg_take 0 (v := ?rv38) rfl (by kernel_rfl) (by kernel_rfl) (by kernel_rfl) (fun _ _ _ h => h) (by rfl) hS (fun w2 hw2 => ?ry38) ?rr38
            case ry38 => ((try dsimp only at hw2); go_simp <;> with_reducible rfl)
            simp only [Act.put, List.setIfInBounds_toArray, List.set_cons_zero, List.set_cons_succ]
            refine rg_take 2 (v := ?rv39) rfl (by kernel_rfl) (by kernel_rfl) (by kernel_rfl) (fun _ _ _ h => h) (by rfl) hS (fun w2 hw2 => ?ry39) ?rr39
            case ry39 => ((try dsimp only at hw2); go_simp <;> with_reducible rfl)
            simp only [Act.put, List.setIfInBounds_toArray, List.set_cons_zero, List.set_cons_succ]
            refine rg_take 1 (v := ?rv40) rfl (by kernel_rfl) (by kernel_rfl) (by kernel_rfl) (fun _ _ _ h => h) (by rfl) hS (fun w2 hw2 => ?ry40) ?rr40
            case ry40 => ((try dsimp only at hw2); go_simp <;> with_reducible rfl)
            simp only [Act.put, List.setIfInBounds_toArray, List.set_cons_zero, List.set_cons_succ]
            refine rg_take 3 (v := ?rv41) rfl (by kernel_rfl) (by kernel_rfl) (by kernel_rfl) (fun _ _ _ h => h) (by rfl) hS (fun w2 hw2 => ?ry41) ?rr41
            case ry41 => ((try dsimp only at hw2); go_simp <;> with_reducible rfl)
            simp only [Act.put, List.setIfInBounds_toArray, List.set_cons_zero, List.set_cons_succ]
            refine rg_take 4 (v := ?rv42) rfl (by kernel_rfl) (by kernel_rfl) (by kernel_rfl) (fun _ _ _ h => h) (by rfl) hS (fun w2 hw2 => ?ry42) ?rr42
            case ry42 => ((try dsimp only at hw2); go_simp <;> with_reducible rfl)
            simp only [Act.put, List.setIfInBounds_toArray, List.set_cons_zero, List.set_cons_succ]
            refine rg_take 5 (v := ?rv43) rfl (by kernel_rfl) (by kernel_rfl) (by kernel_rfl) (fun _ _ _ h => h) (by rfl) hS (fun w2 hw2 => ?ry43) ?rr43
            case ry43 => ((try dsimp only at hw2); go_simp <;> with_reducible rfl)
            simp only [Act.put, List.setIfInBounds_toArray, List.set_cons_zero, List.set_cons_succ]
            refine rg_take 6 (v := ?rv44) rfl (by kernel_rfl) (by kernel_rfl) (by kernel_rfl) (fun _ _ _ h => h) (by rfl) hS (fun w2 hw2 => ?ry44) ?rr44
            case ry44 => ((try dsimp only at hw2); go_simp <;> with_reducible rfl)
            simp only [Act.put, List.setIfInBounds_toArray, List.set_cons_zero, List.set_cons_succ]
            refine rg_take 7 (v := ?rv45) rfl (by kernel_rfl) (by kernel_rfl) (by kernel_rfl) (fun _ _ _ h => h) (by rfl) hS (fun w2 hw2 => ?ry45) ?rr45
            case ry45 => ((try dsimp only at hw2); go_simp <;> with_reducible rfl)
            simp only [Act.put, List.setIfInBounds_toArray, List.set_cons_zero, List.set_cons_succ]
            refine rg_take 8 (v := ?rv46) rfl (by kernel_rfl) (by kernel_rfl) (by kernel_rfl) (fun _ _ _ h => h) (by rfl) hS (fun w2 hw2 => ?ry46) ?rr46
            case ry46 => ((try dsimp only at hw2); go_simp <;> with_reducible rfl)
            simp only [Act.put, List.setIfInBounds_toArray, List.set_cons_zero, List.set_cons_succ]
            refine rg_take 9 (v := ?rv47) rfl (by kernel_rfl) (by kernel_rfl) (by kernel_rfl) (fun _ _ _ h => h) (by rfl) hS (fun w2 hw2 => ?ry47) ?rr47
            case ry47 => ((try dsimp only at hw2); go_simp <;> with_reducible rfl)
            simp only [Act.put, List.setIfInBounds_toArray, List.set_cons_zero, List.set_cons_succ]
            refine rg_take 10 (v := ?rv48) rfl (by kernel_rfl) (by kernel_rfl) (by kernel_rfl) (fun _ _ _ h => h) (by rfl) hS (fun w2 hw2 => ?ry48) ?rr48
            case ry48 => ((try dsimp only at hw2); go_simp <;> with_reducible rfl)
            simp only [Act.put, List.setIfInBounds_toArray, List.set_cons_zero, List.set_cons_succ]
            refine rg_take 14 (v := ?rv49) rfl (by kernel_rfl) (by kernel_rfl) (by kernel_rfl) (fun _ _ _ h => h) (by rfl) hS (fun w2 hw2 => ?ry49) ?rr49
            case ry49 => ((try dsimp only at hw2); go_simp <;> with_reducible rfl)
            simp only [Act.put, List.setIfInBounds_toArray, List.set_cons_zero, List.set_cons_succ]
            refine rg_take 11 (v := ?rv50) rfl (by kernel_rfl) (by kernel_rfl) (by kernel_rfl) (fun _ _ _ h => h) (by rfl) hS (fun w2 hw2 => ?ry50) ?rr50
            case ry50 => ((try dsimp only at hw2); go_simp <;> with_reducible rfl)
            simp only [Act.put, List.setIfInBounds_toArray, List.set_cons_zero, List.set_cons_succ]
            refine rg_load 12 rfl (by kernel_rfl) (by kernel_rfl) (by kernel_rfl) (fb) (fo) (X) (fun _ _ _ h => h) (by rfl) 44 (.tmp 167) rfl rfl hS (fun w2 h2 => rangeAt_kept HR.out h2 (Nat.le_refl _)) Try.underlying44 rfl (HS.out) ?_
            simp only [Act.put, List.setIfInBounds_toArray, List.set_cons_zero, List.set_cons_succ]
            refine rg_step 13 rfl (by kernel_rfl) (by rfl) (fun K hK => ?_)
            go_simp
            refine (v4k_any 8 8 8 7 _).mono ?_
            rintro e w12 ⟨rfl, b12⟩
            replace hS : Below w11.heap.size w11 w12 := hS.trans (b12.mono hS.size)
            clear b12
            refine hK.out _ _ hS ?_
            clear hK K
            try simp only [Act.put, List.setIfInBounds_toArray, List.set_cons_zero, List.set_cons_succ]
            refine rg_step 15 rfl (by kernel_rfl) (by rfl) (fun K hK => ?_)
            refine wp_build_fo (.tmp 169) (.tmp 170) rfl ⟨false, v4B 8 8 8 7, tw⟩ HW.out.2 rfl rfl ?_
            rw [HX'.out]
            refine hK.out _ _ hS ?_
            clear hK K
            try simp only [Act.put, List.setIfInBounds_toArray, List.set_cons_zero, List.set_cons_succ]
            refine rg_take 16 (v := ?rv51) rfl (by kernel_rfl) (by kernel_rfl) (by kernel_rfl) (fun _ _ _ h => h) (by rfl) hS (fun w2 hw2 => ?ry51) ?rr51
            case ry51 => ((try dsimp only at hw2); go_simp <;> with_reducible rfl)
            simp only [Act.put, List.setIfInBounds_toArray, List.set_cons_zero, List.set_cons_succ]
            refine rg_take 17 (v := ?rv52) rfl (by kernel_rfl) (by kernel_rfl) (by kernel_rfl) (fun _ _ _ h => h) (by rfl) hS (fun w2 hw2 => ?ry52) ?rr52
            case ry52 => ((try dsimp only at hw2); go_simp <;> with_reducible rfl)
            simp only [Act.put, List.setIfInBounds_toArray, List.set_cons_zero, List.set_cons_succ]
            refine rg_take 18 (v := ?rv53) rfl (by kernel_rfl) (by kernel_rfl) (by kernel_rfl) (fun _ _ _ h => h) (by rfl) hS (fun w2 hw2 => ?ry53) ?rr53
            case ry53 => ((try dsimp only at hw2); go_simp <;> with_reducible rfl)
            simp only [Act.put, List.setIfInBounds_toArray, List.set_cons_zero, List.set_cons_succ]
            refine rg_done (by kernel_rfl) ?_
            go_wp2_with fail
            go_ret
            exact ⟨rfl, H4.out.1.trans (hS.mono H4.out.1.size)⟩
          · have hF := H3.out.2.1
            have hG := H3.out.2.2
            rw [if_neg h16] at hF hG
            obtain rfl : m = 0 := hF.len.symm
            obtain rfl : k0 = 0 := hG.len.symm
            clear hF hG
            go_wp2_with fail
            refine (awake15 _).mono ?_
            rintro e w11 ⟨rfl, b11⟩
            have H4 := Lib.hid (H3.out.1.trans (b11.mono H3.out.1.size))
            clear b11
            go_wp2_with fail
            go_ret
            exact ⟨rfl, H4.out⟩
end Go.Proofs.Ytjbdaeiefckkcaa
