/-
  ChainFirst: of several records that lead on the first counts, of one address twice the first, other classes play no part. No conditions.
-/
import Derived.Test.YtdpjfcdfopmoaaaAw15
import Derived.IntWalk
namespace Go.Proofs.Ytdpjfcdfopmoaaa
open Go.RowKit
set_option maxRecDepth 100000

theorem wayv_idle {xs : List Rk} {r : Rk} (h : ∀ s, leads r s = false) : ∀ (k : Nat) (ns : List ByteArray) (left : Int) (s : ByteArray), wayv (xs ++ [r]) k ns left s = wayv xs k ns left s
  | 0, _, _, _ => rfl
  | k + 1, ns, left, s => by
    unfold wayv
    have e : (xs ++ [r]).find? (fun x => leads x s) = xs.find? (fun x => leads x s) := by
      rw [List.find?_append]
      simp [h s]
    rw [e]
    cases xs.find? (fun x => leads x s) with
    | none => rfl
    | some q => simp only [wayv_idle h k]
/-- A record that tells nothing plays no part. -/
theorem followv_idle {xs : List Rk} {r : Rk} (h : ∀ s, leads r s = false) (h2 : ∀ s, says r s = false) (s : ByteArray) : followv (xs ++ [r]) s = followv xs s := by
  unfold followv
  rw [wayv_idle h]
  cases wayv xs 16 [s] 4294967295 s with
  | none => rfl
  | some p =>
    obtain ⟨ns, left⟩ := p
    have e : foundv (xs ++ [r]) (ns.getLastD s) left = foundv xs (ns.getLastD s) left := by
      unfold foundv
      rw [List.foldl_append]
      exact fstep_no (.inl (h2 _))
    dsimp only
    rw [e]
theorem first_follow (ttl other c : Int) : followv [cnr ⟨#[97]⟩ ⟨#[98]⟩ 50, cnr ⟨#[97]⟩ ⟨#[99]⟩ 60, arr ⟨#[98]⟩ 1 ttl, arr ⟨#[98]⟩ 1 other, arr ⟨#[99]⟩ 2 5, arr ⟨#[98]⟩ 3 other, { arr ⟨#[98]⟩ 9 7 with cls := c }] ⟨#[97]⟩ = ([⟨false, v4B 8 8 8 1, min 50 ttl⟩, ⟨false, v4B 8 8 8 3, min 50 other⟩] ++ (if c = 1 then [⟨false, v4B 8 8 8 9, 7⟩] else []), [⟨#[97]⟩, ⟨#[98]⟩]) := by
  by_cases hc : c = 1
  · subst hc
    rfl
  · rw [if_neg hc, List.append_nil]
    exact (followv_idle (xs := [cnr ⟨#[97]⟩ ⟨#[98]⟩ 50, cnr ⟨#[97]⟩ ⟨#[99]⟩ 60, arr ⟨#[98]⟩ 1 ttl, arr ⟨#[98]⟩ 1 other, arr ⟨#[99]⟩ 2 5, arr ⟨#[98]⟩ 3 other]) (r := { arr ⟨#[98]⟩ 9 7 with cls := c }) (fun s => by simp [leads, hc]) (fun s => by simp [says, hc]) ⟨#[97]⟩).trans rfl
theorem rkv_cls (r : Rk) (c : Int) : (rkv r).setIfInBounds 2 (.int .i64 c) = rkv { r with cls := c } := by
  apply Array.toList_inj.1
  rw [Array.toList_setIfInBounds, rkv_list, rkv_list]
  rfl
theorem RkBox.setCls {w : World} {g : Nat} {r : Rk} (H : RkBox w g r) (c : Int) : RkBox (w.setCell ⟨g, 2, none⟩ (.int .i64 c)) g { r with cls := c } := by
  rw [setCell_eq_setRow w g 2 _ _ _ _ H.1, rkv_cls]
  exact ⟨setRow_heap w g _ _ _ _ H.1, H.2⟩
theorem FoO.laid (w : World) {xs : List Fo} {vs : List Value} (hv : foL xs = vs) (hk : ∀ r ∈ xs, r.ok) {n : Nat} (hn : xs.length = n) (hm : n ≤ 1000) : FoO (w.alloc (.cells (vs.flatMap fun v => v.cells.toList).toArray 37)) w.heap.size (.slice (some ⟨w.heap.size, 0, none⟩) n n) xs ∧ Below w.heap.size w (w.alloc (.cells (vs.flatMap fun v => v.cells.toList).toArray 37)) := by
  refine ⟨⟨?_, hk⟩, (Below.refl _ _).alloc (Nat.le_refl _) _⟩
  have hl : (vs.flatMap fun v => v.cells.toList).toArray.size = n * 18 := by
    subst hv hn
    show (foC xs).length = _
    clear hm
    induction xs with
    | nil => rfl
    | cons a t ih =>
      have e : foC (a :: t) = (fov a).toList ++ foC t := by simp [foC, foL, Value.cells]
      rw [e, List.length_append, ih (fun r hr => hk r (List.mem_cons_of_mem _ hr)), Array.length_toList, fov_size (hk a (List.mem_cons_self ..)), List.length_cons]
      omega
  have h := World.ownsRow_lit (base := w.heap.size) (e := 37) (size := 18) w (vs.flatMap fun v => v.cells.toList).toArray n (Nat.le_refl _) (by unfold maxLen; omega) hl
  have e : foC xs = (vs.flatMap fun v => v.cells.toList).toArray.toList := by simp [foC, hv]
  rw [hn, e]
  exact h
/-- The lesser of two numbers. -/
theorem wpList_minU {P : Program} {ops : Array Oper} {rest : List Oper} {o : Oper} {a : Act} {w : World} {Q : Exit → Act → World → Prop} (hgd : o.guard = none) (x y : Operand) (t : TypeId) (ho : o.op = .call { callee := .builtin .min, args := #[x, y], argTypes := #[t, t] }) (p q : Int) (hx : a.eval x = .int .u32 p) (hy : a.eval y = .int .u32 q)
    (h : wpList P ops Q rest (a.put o.dst (.int .u32 (min p q))) w) : wpList P ops Q (o :: rest) a w :=
  wpList_plain hgd fun _ hK => by
    have e : min p q = if q < p then q else p := by
      by_cases hl : q < p
      · rw [if_pos hl]; exact Int.min_eq_right (by omega)
      · rw [if_neg hl]; exact Int.min_eq_left (by omega)
    rw [e] at h
    unfold Oper.wp
    simp [execOp, ho, resolve, invoke, builtin, hx, hy, Result.andThen]
    exact hK _ _ h
set_option maxHeartbeats 8000000 in
theorem chainFirst (ttl other cls : Int) (w : World) : Calls Try.prog 6 #[.int .u32 ttl, .int .u32 other, .int .i64 cls] w fun e w' => e = .returned (.bool true) ∧ Below w.heap.size w w' := by
  obtain ⟨Ra, ha⟩ : ∃ R, rkv (arr ⟨#[98]⟩ 9 7) = R := ⟨_, rfl⟩
  have HRA := Lib.hid ha
  clear ha
  --<< a
  go_enter Try.func6, Try.ntmps6
  go_wp2_with fail
  generalize wrap64 ((IntKind.u64.wrap cls).tmod 65536) = c
  refine (a_any ⟨#[98]⟩ 9 7 w).mono ?_
  rintro e w1 ⟨rfl, b1⟩
  obtain ⟨r9, h9⟩ : ∃ r, arr ⟨#[98]⟩ 9 7 = r := ⟨_, rfl⟩
  have hok9 : r9.ok := h9 ▸ arr_ok _ _ _
  rw [h9]
  have H1 := Lib.hid (And.intro b1 hok9)
  have H9 := Lib.hid h9
  clear b1 hok9 h9
  go_wp2_with (first
    | (refine wpList_alloc_rk rfl rfl ?_; intro w2 a2 b2 s2; refine wpList_store_rk rfl (.tmp 7) (.tmp 18) rfl r9 rfl rfl H1.out.2 a2 ?_; intro w3 a3 _ s3 t3; have H3 := Lib.hid (And.intro a3 (H1.out.1.trans ((t3 _ _ (Nat.le_refl _) b2).mono H1.out.1.size))); have c3 := a3.cls; have f3 := a3.frozen 2; have H4 := Lib.hid (And.intro (a3.setCls c) (Below.setCell H3.out.2 (p := ⟨w1.heap.size, 2, none⟩) H1.out.1.size (.int .i64 c))); clear a2 b2 a3 t3))
  clear c3 f3 H3 s2 s3
  generalize w3.setCell ⟨w1.heap.size, 2, none⟩ (.int .i64 c) = W at H4 ⊢
  obtain ⟨R7, h7⟩ : ∃ R, rkv { r9 with cls := c } = R := ⟨_, rfl⟩
  obtain ⟨R1, h1⟩ : ∃ R, rkv (cnr ⟨#[97]⟩ ⟨#[98]⟩ 50) = R := ⟨_, rfl⟩
  obtain ⟨R2, h2⟩ : ∃ R, rkv (cnr ⟨#[97]⟩ ⟨#[99]⟩ 60) = R := ⟨_, rfl⟩
  obtain ⟨R3, h3⟩ : ∃ R, rkv (arr ⟨#[98]⟩ 1 ttl) = R := ⟨_, rfl⟩
  obtain ⟨R4, h4⟩ : ∃ R, rkv (arr ⟨#[98]⟩ 1 other) = R := ⟨_, rfl⟩
  obtain ⟨R5, h5⟩ : ∃ R, rkv (arr ⟨#[99]⟩ 2 5) = R := ⟨_, rfl⟩
  obtain ⟨R6, h6⟩ : ∃ R, rkv (arr ⟨#[98]⟩ 3 other) = R := ⟨_, rfl⟩
  have hok : ∀ r ∈ [cnr ⟨#[97]⟩ ⟨#[98]⟩ 50, cnr ⟨#[97]⟩ ⟨#[99]⟩ 60, arr ⟨#[98]⟩ 1 ttl, arr ⟨#[98]⟩ 1 other, arr ⟨#[99]⟩ 2 5, arr ⟨#[98]⟩ 3 other, { arr ⟨#[98]⟩ 9 7 with cls := c }], r.ok := fun r hr => by
    simp only [List.mem_cons, List.not_mem_nil, or_false] at hr
    rcases hr with rfl | rfl | rfl | rfl | rfl | rfl | rfl <;> exact ⟨rfl, rfl⟩
  have hv : rkL [cnr ⟨#[97]⟩ ⟨#[98]⟩ 50, cnr ⟨#[97]⟩ ⟨#[99]⟩ 60, arr ⟨#[98]⟩ 1 ttl, arr ⟨#[98]⟩ 1 other, arr ⟨#[99]⟩ 2 5, arr ⟨#[98]⟩ 3 other, { arr ⟨#[98]⟩ 9 7 with cls := c }] = ([.agg R1, .agg R2, .agg R3, .agg R4, .agg R5, .agg R6, .agg R7] : List Value) := by rw [← h1, ← h2, ← h3, ← h4, ← h5, ← h6, ← h7, ← H9.out]; rfl
  have hrg : W.rangeAt w1.heap.size 0 R7.toList := h7 ▸ H4.out.1.range
  have hsz : (Try.prog.info? 42).map (·.size) = some R7.size := h7 ▸ rk_size H4.out.1.2
  have HV := Lib.hid (And.intro hv hok)
  have HR := Lib.hid (And.intro hrg hsz)
  have HL := Lib.hid (And.intro h1 (And.intro h2 (And.intro h3 (And.intro h4 (And.intro h5 h6)))))
  have HW := Lib.hid H4.out.2
  clear hv hok hrg hsz h1 h2 h3 h4 h5 h6 h7 H4
  have hS : Below W.heap.size W W.drew := (Below.refl _ _).drew
  go_wp2_with fail
  refine rg_begin (fun w' => Below W.heap.size W w') 12 (by kernel_rfl) rfl ?_
  refine rg_take 2 (v := ?rv1) rfl (by kernel_rfl) (by kernel_rfl) (by kernel_rfl) (fun _ _ _ h => h) (by rfl) hS (fun w2 hw2 => ?ry1) ?rr1
  case ry1 => ((try dsimp only at hw2); go_simp <;> with_reducible rfl)
  simp only [Act.put, List.setIfInBounds_toArray, List.set_cons_zero, List.set_cons_succ]
  refine rg_take 4 (v := ?rv2) rfl (by kernel_rfl) (by kernel_rfl) (by kernel_rfl) (fun _ _ _ h => h) (by rfl) hS (fun w2 hw2 => ?ry2) ?rr2
  case ry2 => ((try dsimp only at hw2); go_simp <;> with_reducible rfl)
  simp only [Act.put, List.setIfInBounds_toArray, List.set_cons_zero, List.set_cons_succ]
  refine rg_take 7 (v := ?rv3) rfl (by kernel_rfl) (by kernel_rfl) (by kernel_rfl) (fun _ _ _ h => h) (by rfl) hS (fun w2 hw2 => ?ry3) ?rr3
  case ry3 => ((try dsimp only at hw2); go_simp <;> with_reducible rfl)
  simp only [Act.put, List.setIfInBounds_toArray, List.set_cons_zero, List.set_cons_succ]
  refine rg_load 9 rfl (by kernel_rfl) (by kernel_rfl) (by kernel_rfl) (w1.heap.size) (0) (R7) (fun _ _ _ h => h) (by rfl) 42 (.tmp 7) rfl rfl hS (fun w2 h2 => rangeAt_kept HR.out.1 h2 (Nat.le_refl _)) Try.underlying42 rfl (HR.out.2) ?_
  simp only [Act.put, List.setIfInBounds_toArray, List.set_cons_zero, List.set_cons_succ]
  refine rg_step 0 rfl (by kernel_rfl) (by rfl) (fun K hK => ?_)
  go_simp
  refine (cname_let ⟨#[97]⟩ ⟨#[98]⟩ 50 HL.out.1 _).mono ?_
  rintro e u0 ⟨rfl, bk⟩
  replace hS : Below W.heap.size W u0 := hS.trans (bk.mono hS.size)
  clear bk
  refine hK.out _ _ hS ?_
  clear hK K
  try simp only [Act.put, List.setIfInBounds_toArray, List.set_cons_zero, List.set_cons_succ]
  refine rg_step 1 rfl (by kernel_rfl) (by rfl) (fun K hK => ?_)
  go_simp
  refine (cname_let ⟨#[97]⟩ ⟨#[99]⟩ 60 HL.out.2.1 _).mono ?_
  rintro e u1 ⟨rfl, bk⟩
  replace hS : Below W.heap.size W u1 := hS.trans (bk.mono hS.size)
  clear bk
  refine hK.out _ _ hS ?_
  clear hK K
  try simp only [Act.put, List.setIfInBounds_toArray, List.set_cons_zero, List.set_cons_succ]
  refine rg_step 3 rfl (by kernel_rfl) (by rfl) (fun K hK => ?_)
  go_simp
  refine (a_let ⟨#[98]⟩ 1 ttl HL.out.2.2.1 _).mono ?_
  rintro e u2 ⟨rfl, bk⟩
  replace hS : Below W.heap.size W u2 := hS.trans (bk.mono hS.size)
  clear bk
  refine hK.out _ _ hS ?_
  clear hK K
  try simp only [Act.put, List.setIfInBounds_toArray, List.set_cons_zero, List.set_cons_succ]
  refine rg_step 5 rfl (by kernel_rfl) (by rfl) (fun K hK => ?_)
  go_simp
  refine (a_let ⟨#[98]⟩ 1 other HL.out.2.2.2.1 _).mono ?_
  rintro e u3 ⟨rfl, bk⟩
  replace hS : Below W.heap.size W u3 := hS.trans (bk.mono hS.size)
  clear bk
  refine hK.out _ _ hS ?_
  clear hK K
  try simp only [Act.put, List.setIfInBounds_toArray, List.set_cons_zero, List.set_cons_succ]
  refine rg_step 6 rfl (by kernel_rfl) (by rfl) (fun K hK => ?_)
  go_simp
  refine (a_let ⟨#[99]⟩ 2 5 HL.out.2.2.2.2.1 _).mono ?_
  rintro e u4 ⟨rfl, bk⟩
  replace hS : Below W.heap.size W u4 := hS.trans (bk.mono hS.size)
  clear bk
  refine hK.out _ _ hS ?_
  clear hK K
  try simp only [Act.put, List.setIfInBounds_toArray, List.set_cons_zero, List.set_cons_succ]
  refine rg_step 8 rfl (by kernel_rfl) (by rfl) (fun K hK => ?_)
  go_simp
  refine (a_let ⟨#[98]⟩ 3 other HL.out.2.2.2.2.2 _).mono ?_
  rintro e u5 ⟨rfl, bk⟩
  replace hS : Below W.heap.size W u5 := hS.trans (bk.mono hS.size)
  clear bk
  refine hK.out _ _ hS ?_
  clear hK K
  try simp only [Act.put, List.setIfInBounds_toArray, List.set_cons_zero, List.set_cons_succ]
  refine rg_step 10 rfl (by kernel_rfl) (by rfl) (fun K hK => ?_)
  refine wp_lits 23 42 7 _ rfl ([.agg R1, .agg R2, .agg R3, .agg R4, .agg R5, .agg R6, .agg R7] : List Value) rfl infoRk (rkL_sizes HV.out.1 HV.out.2) rfl (by decide) (by decide) (by decide) Try.underlying23 ?_
  have h3 := Rks.laid u5 HV.out.1 HV.out.2 rfl (by show 7 ≤ 1000; omega)
  replace hS : Below W.heap.size W (u5.alloc (.cells (([.agg R1, .agg R2, .agg R3, .agg R4, .agg R5, .agg R6, .agg R7] : List Value).flatMap fun v => v.cells.toList).toArray 42)) := hS.trans (h3.2.mono hS.size)
  have H5 := Lib.hid (And.intro h3.1 (HW.out.trans (hS.mono HW.out.size)))
  clear h3
  generalize u5.alloc (.cells (([.agg R1, .agg R2, .agg R3, .agg R4, .agg R5, .agg R6, .agg R7] : List Value).flatMap fun v => v.cells.toList).toArray 42) = w11 at H5 hS ⊢
  refine hK.out _ _ hS ?_
  clear hK K
  try simp only [Act.put, List.setIfInBounds_toArray, List.set_cons_zero, List.set_cons_succ]
  refine rg_take 11 (v := ?rv4) rfl (by kernel_rfl) (by kernel_rfl) (by kernel_rfl) (fun _ _ _ h => h) (by rfl) hS (fun w2 hw2 => ?ry4) ?rr4
  case ry4 => ((try dsimp only at hw2); go_simp <;> with_reducible rfl)
  simp only [Act.put, List.setIfInBounds_toArray, List.set_cons_zero, List.set_cons_succ]
  refine rg_done (by kernel_rfl) ?_
  clear hS
  go_wp2_with fail
  have KF := follow_any H5.out.1 (by show 7 ≤ 1000000; omega) (.int .i64 0) (.bool false) (.int .i64 0) (.int .i64 0) (.int .i64 0) (.slice none 0 0) (.slice none 0 0) (.slice none 0 0) ⟨#[97]⟩
  rw [first_follow] at KF
  obtain ⟨FS, hFS⟩ : ∃ FS : List Fo, [⟨false, v4B 8 8 8 1, min 50 ttl⟩, ⟨false, v4B 8 8 8 3, min 50 other⟩] ++ (if c = 1 then [⟨false, v4B 8 8 8 9, 7⟩] else []) = FS := ⟨_, rfl⟩
  rw [hFS] at KF
  have HFS := Lib.hid hFS
  clear hFS
  refine KF.mono ?_
  clear KF
  rintro e w12 ⟨B, m, d, C, k, f, rfl, hF, hG, b12⟩
  obtain rfl : k = 2 := hG.len.symm
  have H12 := Lib.hid (And.intro hF (And.intro hG (H5.out.2.trans (b12.mono H5.out.2.size))))
  clear hF hG b12
  obtain ⟨F1, hF1⟩ : ∃ F : Fo, F = ⟨false, v4B 8 8 8 1, min 50 ttl⟩ := ⟨_, rfl⟩
  obtain ⟨F2, hF2⟩ : ∃ F : Fo, F = ⟨false, v4B 8 8 8 3, min 50 other⟩ := ⟨_, rfl⟩
  obtain ⟨F3, hF3⟩ : ∃ F : Fo, F = ⟨false, v4B 8 8 8 9, 7⟩ := ⟨_, rfl⟩
  have hk1 : F1.ok := hF1 ▸ rfl
  have hk2 : F2.ok := hF2 ▸ rfl
  have hk3 : F3.ok := hF3 ▸ rfl
  have q1 : Value.agg (adv false (v4B 8 8 8 1)) = .agg (adv F1.v6 F1.adr) ∧ Value.int .u32 (min 50 ttl) = .int .u32 F1.ttl := by rw [hF1]; exact ⟨rfl, rfl⟩
  have q2 : Value.agg (adv false (v4B 8 8 8 3)) = .agg (adv F2.v6 F2.adr) ∧ Value.int .u32 (min 50 other) = .int .u32 F2.ttl := by rw [hF2]; exact ⟨rfl, rfl⟩
  have q3 : Value.agg (adv false (v4B 8 8 8 9)) = .agg (adv F3.v6 F3.adr) ∧ Value.int .u32 7 = .int .u32 F3.ttl := by rw [hF3]; exact ⟨rfl, rfl⟩
  have hok2 : ∀ r ∈ [F1, F2], r.ok := fun r hr => by
    simp only [List.mem_cons, List.not_mem_nil, or_false] at hr
    rcases hr with rfl | rfl
    · exact hk1
    · exact hk2
  have HK := Lib.hid (And.intro hk1 (And.intro hk2 (And.intro hk3 hok2)))
  have HQ := Lib.hid (And.intro q1 (And.intro q2 q3))
  have HFF := Lib.hid (And.intro hF1 (And.intro hF2 hF3))
  clear hk1 hk2 hk3 q1 q2 q3 hF1 hF2 hF3 hok2
  go_wp2_with fail
  refine (v4k_any 8 8 8 1 w12).mono ?_
  rintro e w13 ⟨rfl, b13⟩
  have H13 := Lib.hid (H12.out.2.2.trans (b13.mono H12.out.2.2.size))
  rw [HQ.out.1.1]
  go_wp2_with (first
    | (refine wpList_minU rfl (.const (.int .u32 50)) (.tmp 39) 35 rfl 50 ttl rfl rfl ?_; rw [HQ.out.1.2])
    | (refine wpList_build_fo rfl (.tmp 38) (.tmp 40) rfl F1 HK.out.1 rfl rfl ?_))
  refine (v4k_any 8 8 8 3 w13).mono ?_
  rintro e w14 ⟨rfl, b14⟩
  have H14 := Lib.hid (And.intro (H13.out.trans (b14.mono H13.out.size)) (And.intro (H12.out.1.later (b13.trans (b14.mono b13.size)) (Nat.le_refl _)) (H12.out.2.1.later (b13.trans (b14.mono b13.size)) (Nat.le_refl _))))
  clear b13 b14
  rw [HQ.out.2.1.1]
  by_cases hc : c = 1
  · have hT : [F1, F2] ++ [F3] = FS := by rw [← HFS.out, if_pos hc, HFF.out.1, HFF.out.2.1, HFF.out.2.2]
    obtain rfl : m = 3 := by rw [← H12.out.1.len, ← hT]; rfl
    have HT := Lib.hid hT
    clear hT
    obtain rfl : c = 1 := hc
    go_wp2_with (first
      | (refine wpList_minU rfl (.const (.int .u32 50)) (.tmp 43) 35 rfl 50 other rfl rfl ?_; rw [HQ.out.2.1.2])
      | (refine wpList_build_fo rfl (.tmp 42) (.tmp 44) rfl F2 HK.out.2.1 rfl rfl ?_)
      | (refine wpList_lits rfl 27 37 2 _ rfl ([.agg (fov F1), .agg (fov F2)] : List Value) rfl infoFo (foL_sizes (xs := [F1, F2]) rfl HK.out.2.2.2) rfl (by decide) (by decide) (by decide) Try.underlying27 ?_; have h5 := FoO.laid w14 (xs := [F1, F2]) (vs := ([.agg (fov F1), .agg (fov F2)] : List Value)) rfl HK.out.2.2.2 rfl (by show 2 ≤ 1000; omega); have H15 := Lib.hid (And.intro h5.1 h5.2); clear h5; generalize w14.alloc (.cells (([.agg (fov F1), .agg (fov F2)] : List Value).flatMap fun v => v.cells.toList).toArray 37) = w15 at H15 ⊢))
    refine (v4k_any 8 8 8 9 w15).mono ?_
    rintro e w16 ⟨rfl, b16⟩
    have H16 := Lib.hid (And.intro (H15.out.1.later b16) (H15.out.2.trans (b16.mono H15.out.2.size)))
    clear b16
    rw [HQ.out.2.2.1]
    go_wp2_with (first
      | (refine wpList_build_fo rfl (.tmp 50) (.const (.int .u32 7)) rfl F3 HK.out.2.2.1 rfl HQ.out.2.2.2 ?_)
      | (refine wpList_one15 rfl 27 37 (.tmp 51) rfl (fov F3) rfl infoFo (fov_size HK.out.2.2.1) (by decide) (by decide) Try.underlying27 ?_; have H17 := Lib.hid (And.intro (FoBox.new w16 HK.out.2.2.1) (And.intro (H16.out.1.later ((Below.refl _ _).alloc (Nat.le_refl _) (.cells (fov F3) 37))) (H16.out.2.trans ((Below.refl _ w16).alloc H16.out.2.size (.cells (fov F3) 37))))); generalize w16.alloc (.cells (fov F3) 37) = w17 at H17 ⊢)
      | (refine wpList_push_fo rfl (.tmp 49) (.tmp 52) rfl w14.heap.size _ [F1, F2] rfl H17.out.2.1 rfl H17.out.1 (by show 2 ≤ 1000000; omega) H17.out.2.2.size ?_; intro v18 w18 o18 g18; have HB := Lib.hid (H17.out.2.2.grown g18 H17.out.2.2.size (fun q hq => (World.ownsRow.lt H17.out.2.1.1 q hq).1)); obtain ⟨A8, c8, hv8, S8⟩ := Fos.of_own o18; subst hv8; have HS := Lib.hid S8; clear o18 g18 S8))
    refine (follow_any (Rks.nil w18) (by decide) _ _ _ _ _ _ _ _ ⟨#[97]⟩).mono ?_
    rintro e w19 h19
    rw [show followv [] ⟨#[97]⟩ = ([], [⟨#[97]⟩]) from rfl] at h19
    obtain ⟨Bx, mx, dx, Cx, kx, fx, rfl, hFx, hGx, b19⟩ := h19
    obtain rfl : mx = 0 := hFx.len.symm
    obtain rfl : kx = 1 := hGx.len.symm
    have H19 := Lib.hid (And.intro hGx (And.intro b19 (HB.out.trans (b19.mono HB.out.size))))
    clear hFx hGx b19
    go_wp2_with fail
    refine (awake15 w19).mono ?_
    rintro e w20 ⟨rfl, b20⟩
    have H20 := Lib.hid (And.intro (H19.out.1.later b20 (Nat.le_refl _)) (And.intro (H19.out.2.1.trans (b20.mono H19.out.2.1.size)) (H19.out.2.2.trans (b20.mono H19.out.2.2.size))))
    clear b20
    go_wp2_with fail
    refine (plainF_same (H14.out.2.1.later H20.out.2.2 (Nat.le_refl _)) (HT.out ▸ HS.out.later H20.out.2.1 (Nat.le_refl _))).mono ?_
    rintro e w21 ⟨rfl, b21⟩
    have H21 := Lib.hid (And.intro (H20.out.1.later b21 (Nat.le_refl _)) (H20.out.2.2.trans (b21.mono H20.out.2.2.size)))
    clear b21
    go_wp2_with fail
    have hL := Gs.lit w21 (sv [⟨#[97]⟩, ⟨#[98]⟩]) 2 rfl (by unfold maxLen; omega) #[.string ⟨#[97]⟩, .string ⟨#[98]⟩] rfl 9
    have b22 : Below w21.heap.size w21 (w21.alloc (.cells #[.string ⟨#[97]⟩, .string ⟨#[98]⟩] 9)) := (Below.refl _ _).alloc (Nat.le_refl _) _
    refine (plainT_same (H14.out.2.2.later (H21.out.2.trans (b22.mono H21.out.2.size)) (Nat.le_refl _)) hL).mono ?_
    rintro e w23 ⟨rfl, b23⟩
    have H23 := Lib.hid (And.intro (H21.out.1.later (b22.trans (b23.mono b22.size)) (Nat.le_refl _)) (H21.out.2.trans ((b22.trans (b23.mono b22.size)).mono H21.out.2.size)))
    clear b22 b23 hL
    go_wp2_with fail
    have hL := Gs.lit w23 (sv [⟨#[97]⟩]) 1 rfl (by unfold maxLen; omega) #[.string ⟨#[97]⟩] rfl 9
    have b24 : Below w23.heap.size w23 (w23.alloc (.cells #[.string ⟨#[97]⟩] 9)) := (Below.refl _ _).alloc (Nat.le_refl _) _
    refine (plainT_same (H23.out.1.later b24 (Nat.le_refl _)) hL).mono ?_
    rintro e w25 ⟨rfl, b25⟩
    have H25 := Lib.hid (H23.out.2.trans ((b24.trans (b25.mono b24.size)).mono H23.out.2.size))
    clear b24 b25 hL
    go_wp2_with fail
    go_ret
    exact ⟨rfl, H14.out.1.trans (H25.out.mono H14.out.1.size)⟩
  · have hT : [F1, F2] = FS := by rw [← HFS.out, if_neg hc, HFF.out.1, HFF.out.2.1, List.append_nil]
    obtain rfl : m = 2 := by rw [← H12.out.1.len, ← hT]; rfl
    have HT := Lib.hid hT
    clear hT
    go_wp2_with (first
      | (refine wpList_minU rfl (.const (.int .u32 50)) (.tmp 43) 35 rfl 50 other rfl rfl ?_; rw [HQ.out.2.1.2])
      | (refine wpList_build_fo rfl (.tmp 42) (.tmp 44) rfl F2 HK.out.2.1 rfl rfl ?_)
      | (refine wpList_lits rfl 27 37 2 _ rfl ([.agg (fov F1), .agg (fov F2)] : List Value) rfl infoFo (foL_sizes (xs := [F1, F2]) rfl HK.out.2.2.2) rfl (by decide) (by decide) (by decide) Try.underlying27 ?_; have h5 := FoO.laid w14 (xs := [F1, F2]) (vs := ([.agg (fov F1), .agg (fov F2)] : List Value)) rfl HK.out.2.2.2 rfl (by show 2 ≤ 1000; omega); have H15 := Lib.hid (And.intro h5.1 h5.2); clear h5; generalize w14.alloc (.cells (([.agg (fov F1), .agg (fov F2)] : List Value).flatMap fun v => v.cells.toList).toArray 37) = w15 at H15 ⊢))
    obtain ⟨A8, c8, hv8, S8⟩ := Fos.of_own H15.out.1
    have HB := Lib.hid H15.out.2
    have HS := Lib.hid S8
    cases hv8
    clear S8
    refine (follow_any (Rks.nil w15) (by decide) _ _ _ _ _ _ _ _ ⟨#[97]⟩).mono ?_
    rintro e w19 h19
    rw [show followv [] ⟨#[97]⟩ = ([], [⟨#[97]⟩]) from rfl] at h19
    obtain ⟨Bx, mx, dx, Cx, kx, fx, rfl, hFx, hGx, b19⟩ := h19
    obtain rfl : mx = 0 := hFx.len.symm
    obtain rfl : kx = 1 := hGx.len.symm
    have H19 := Lib.hid (And.intro hGx (And.intro b19 (HB.out.trans (b19.mono HB.out.size))))
    clear hFx hGx b19
    go_wp2_with fail
    refine (awake15 w19).mono ?_
    rintro e w20 ⟨rfl, b20⟩
    have H20 := Lib.hid (And.intro (H19.out.1.later b20 (Nat.le_refl _)) (And.intro (H19.out.2.1.trans (b20.mono H19.out.2.1.size)) (H19.out.2.2.trans (b20.mono H19.out.2.2.size))))
    clear b20
    go_wp2_with fail
    refine (plainF_same (H14.out.2.1.later H20.out.2.2 (Nat.le_refl _)) (HT.out ▸ HS.out.later H20.out.2.1 (Nat.le_refl _))).mono ?_
    rintro e w21 ⟨rfl, b21⟩
    have H21 := Lib.hid (And.intro (H20.out.1.later b21 (Nat.le_refl _)) (H20.out.2.2.trans (b21.mono H20.out.2.2.size)))
    clear b21
    go_wp2_with fail
    have hL := Gs.lit w21 (sv [⟨#[97]⟩, ⟨#[98]⟩]) 2 rfl (by unfold maxLen; omega) #[.string ⟨#[97]⟩, .string ⟨#[98]⟩] rfl 9
    have b22 : Below w21.heap.size w21 (w21.alloc (.cells #[.string ⟨#[97]⟩, .string ⟨#[98]⟩] 9)) := (Below.refl _ _).alloc (Nat.le_refl _) _
    refine (plainT_same (H14.out.2.2.later (H21.out.2.trans (b22.mono H21.out.2.size)) (Nat.le_refl _)) hL).mono ?_
    rintro e w23 ⟨rfl, b23⟩
    have H23 := Lib.hid (And.intro (H21.out.1.later (b22.trans (b23.mono b22.size)) (Nat.le_refl _)) (H21.out.2.trans ((b22.trans (b23.mono b22.size)).mono H21.out.2.size)))
    clear b22 b23 hL
    go_wp2_with fail
    have hL := Gs.lit w23 (sv [⟨#[97]⟩]) 1 rfl (by unfold maxLen; omega) #[.string ⟨#[97]⟩] rfl 9
    have b24 : Below w23.heap.size w23 (w23.alloc (.cells #[.string ⟨#[97]⟩] 9)) := (Below.refl _ _).alloc (Nat.le_refl _) _
    refine (plainT_same (H23.out.1.later b24 (Nat.le_refl _)) hL).mono ?_
    rintro e w25 ⟨rfl, b25⟩
    have H25 := Lib.hid (H23.out.2.trans ((b24.trans (b25.mono b24.size)).mono H23.out.2.size))
    clear b24 b25 hL
    go_wp2_with fail
    go_ret
    exact ⟨rfl, H14.out.1.trans (H25.out.mono H14.out.1.size)⟩
  -->>
end Go.Proofs.Ytdpjfcdfopmoaaa
