/-
  stockadehelp.In and Plain of texts, Plain of what is found; stockadeplay.V4; stockadelaw15's cname, a; awake. Conditions: those of the slices.
-/
import Derived.Test.YtjbdaeiefckkcaaWy15
namespace Go.Proofs.Ytjbdaeiefckkcaa
open Go.RowKit
set_option maxRecDepth 100000

--<< in
-->>
--<< plainT
theorem plainT1 (x y : ByteArray) (w : World) : Calls Try.prog 20 #[.string x, .string y] w fun e w' => e = .returned (.bool (decide (x = y))) ∧ w = w' := by
  rw [← str_dec]
  go_enter Try.func20, Try.ntmps20
  go_wp2
  go_ret
  exact ⟨rfl, rfl⟩
set_option maxHeartbeats 1000000 in
theorem sameT_same {A B : Option Addr} {n c d : Nat} {xs : List ByteArray} {w : World} (ha : Gs w A n c (sv xs)) (hb : Gs w B n d (sv xs)) : Calls Try.prog 19 #[.slice A n c, .slice B n d, .func (.func 20) #[] #[]] w fun e w' => e = .returned (.bool true) ∧ Below w.heap.size w w' := by
  have hm := Nat.le_trans ha.cap ha.max
  unfold maxLen at hm
  have hlen : xs.length = n := by have := ha.len; unfold sv at this; rw [List.length_map] at this; exact this
  have HA := Lib.hid (And.intro ha hb)
  clear ha hb
  go_enter Try.func19, Try.ntmps19
  go_wp2
  go_loopw [7] (fun i wr => ∃ k : Nat, k ≤ n ∧ i = .int .i64 k ∧ Below w.heap.size w wr) (fun i _ => n - (intOf i).toNat)
  case atStart => exact ⟨0, Nat.zero_le _, rfl, Below.refl _ _⟩
  case round =>
    obtain ⟨k, hk, rfl, hbe⟩ := hrel
    by_cases hlt : k < n
    · obtain ⟨x, hx⟩ : ∃ x, xs[k]? = some x := ⟨xs[k]'(by omega), List.getElem?_eq_getElem _⟩
      obtain ⟨b, o, rfl, h1⟩ := (HA.out.1.later hbe (Nat.le_refl _)).get (k := k) (x := .string x) (sv_at hx)
      obtain ⟨b', o', rfl, h2⟩ := (HA.out.2.later hbe (Nat.le_refl _)).get (k := k) (x := .string x) (sv_at hx)
      have r1 : ∀ w', Below wr.heap.size wr w' → w'.cell? ⟨b, o + k, none⟩ = some (.string x) := fun w' h => (h.cell (p := ⟨b, o + k, none⟩) (lt_of_cell' h1)).trans h1
      have r2 : ∀ w', Below wr.heap.size wr w' → w'.cell? ⟨b', o' + k, none⟩ = some (.string x) := fun w' h => (h.cell (p := ⟨b', o' + k, none⟩) (lt_of_cell' h2)).trans h2
      have HE := Lib.hid hbe
      have g0 : (0 : Int) ≤ (k : Int) := by omega
      have g1 : (k : Int) < (n : Int) := by omega
      have hS : Below wr.heap.size wr wr.drew := (Below.refl _ _).drew
      clear h1 h2 hx hbe
      go_wp2_with fail
      refine rg_begin (fun w' => Below wr.heap.size wr w') 11 (by kernel_rfl) rfl ?_
      refine rg_take 0 (v := ?rv1) rfl (by kernel_rfl) (by kernel_rfl) (by kernel_rfl) (fun _ _ _ h => h) (by rfl) hS (fun w2 hw2 => ?ry1) ?rr1
      case ry1 => ((try dsimp only at hw2); go_simp <;> with_reducible rfl)
      simp only [Act.put, List.setIfInBounds_toArray, List.set_cons_zero, List.set_cons_succ]
      refine rg_take 1 (v := ?rv2) rfl (by kernel_rfl) (by kernel_rfl) (by kernel_rfl) (fun _ _ _ h => h) (by rfl) hS (fun w2 hw2 => ?ry2) ?rr2
      case ry2 => ((try dsimp only at hw2); go_simp <;> with_reducible rfl)
      simp only [Act.put, List.setIfInBounds_toArray, List.set_cons_zero, List.set_cons_succ]
      refine rg_take 2 (v := ?rv3) rfl (by kernel_rfl) (by kernel_rfl) (by kernel_rfl) (fun _ _ _ h => h) (by rfl) hS (fun w2 hw2 => ?ry3) ?rr3
      case ry3 => ((try dsimp only at hw2); go_simp <;> with_reducible rfl)
      simp only [Act.put, List.setIfInBounds_toArray, List.set_cons_zero, List.set_cons_succ]
      refine rg_take 5 (v := ?rv4) rfl (by kernel_rfl) (by kernel_rfl) (by kernel_rfl) (fun _ _ _ h => h) (by rfl) hS (fun w2 hw2 => ?ry4) ?rr4
      case ry4 => ((try dsimp only at hw2); go_simp <;> with_reducible rfl)
      simp only [Act.put, List.setIfInBounds_toArray, List.set_cons_zero, List.set_cons_succ]
      refine rg_take 6 (v := ?rv5) rfl (by kernel_rfl) (by kernel_rfl) (by kernel_rfl) (fun _ _ _ h => h) (by rfl) hS (fun w2 hw2 => ?ry5) ?rr5
      case ry5 => ((try dsimp only at hw2); go_simp <;> with_reducible rfl)
      simp only [Act.put, List.setIfInBounds_toArray, List.set_cons_zero, List.set_cons_succ]
      refine rg_take 3 (v := ?rv6) rfl (by kernel_rfl) (by kernel_rfl) (by kernel_rfl) (fun _ _ _ h => h) (by rfl) hS (fun w2 hw2 => ?ry6) ?rr6
      case ry6 => ((try dsimp only at hw2); go_simp <;> with_reducible rfl)
      simp only [Act.put, List.setIfInBounds_toArray, List.set_cons_zero, List.set_cons_succ]
      refine rg_take 7 (v := ?rv7) rfl (by kernel_rfl) (by kernel_rfl) (by kernel_rfl) (fun _ _ _ h => h) (by rfl) hS (fun w2 hw2 => ?ry7) ?rr7
      case ry7 => ((try dsimp only at hw2); go_simp <;> with_reducible rfl)
      simp only [Act.put, List.setIfInBounds_toArray, List.set_cons_zero, List.set_cons_succ]
      refine rg_take 4 (v := ?rv8) rfl (by kernel_rfl) (by kernel_rfl) (by kernel_rfl) (fun _ _ _ h => h) (by rfl) hS (fun w2 hw2 => ?ry8) ?rr8
      case ry8 => ((try dsimp only at hw2); go_simp <;> with_reducible rfl)
      simp only [Act.put, List.setIfInBounds_toArray, List.set_cons_zero, List.set_cons_succ]
      refine rg_take 8 (v := ?rv9) rfl (by kernel_rfl) (by kernel_rfl) (by kernel_rfl) (fun _ _ _ h => h) (by rfl) hS (fun w2 hw2 => ?ry9) ?rr9
      case ry9 => ((try dsimp only at hw2); go_simp <;> with_reducible rfl)
      simp only [Act.put, List.setIfInBounds_toArray, List.set_cons_zero, List.set_cons_succ]
      refine rg_step 9 rfl (by kernel_rfl) (by rfl) (fun K hK => ?_)
      go_simp
      refine (plainT1 x x _).mono ?_
      rintro e w' ⟨rfl, rfl⟩
      rw [decide_eq_true rfl]
      refine hK.out _ _ hS ?_
      clear hK K
      try simp only [Act.put, List.setIfInBounds_toArray, List.set_cons_zero, List.set_cons_succ]
      refine rg_take 10 (v := ?rv10) rfl (by kernel_rfl) (by kernel_rfl) (by kernel_rfl) (fun _ _ _ h => h) (by rfl) hS (fun w2 hw2 => ?ry10) ?rr10
      case ry10 => ((try dsimp only at hw2); go_simp <;> with_reducible rfl)
      simp only [Act.put, List.setIfInBounds_toArray, List.set_cons_zero, List.set_cons_succ]
      refine rg_done (by kernel_rfl) ?_
      go_wp2_with fail
      refine ⟨⟨k + 1, hlt, by go_num, HE.out.drew⟩, by simp [intOf]; omega⟩
    · obtain rfl : k = n := by omega
      have HX := Lib.hid hbe
      clear hbe
      go_wp2_with fail
      go_ret
      exact ⟨rfl, HX.out⟩
theorem plainT_same {A B : Option Addr} {n c d : Nat} {xs : List ByteArray} {w : World} (ha : Gs w A n c (sv xs)) (hb : Gs w B n d (sv xs)) : Calls Try.prog 13 #[.slice A n c, .slice B n d] w fun e w' => e = .returned (.bool true) ∧ Below w.heap.size w w' := by
  have K := Lib.hid (sameT_same ha hb)
  clear ha hb
  go_enter Try.func13, Try.ntmps13
  go_wp2_with fail
  refine K.out.mono ?_
  rintro e w' ⟨rfl, hw⟩
  have HW := Lib.hid hw
  clear hw
  go_wp2_with fail
  go_ret
  exact ⟨rfl, HW.out⟩
-->>
--<< plainF
theorem part_fo {f : Fo} (hk : f.ok) (w : World) : (part 29 (fov f) 0).run Try.prog w = .ok (.agg (adv f.v6 f.adr)) w ∧ (part 23 (fov f) 17).run Try.prog w = .ok (.int .u32 f.ttl) w := by
  obtain ⟨v, l, t⟩ := f
  obtain ⟨_, _, _, _, _, _, _, _, _, _, _, _, _, _, _, _, rfl⟩ := ex16k hk
  exact ⟨by kernel_rfl, by kernel_rfl⟩
theorem fields_fo : ∃ f0 f1 : Field, (Try.prog.fieldsOf 44).toList = [f0, f1] ∧ (f0.name ≠ "_" ∧ f1.name ≠ "_") ∧ (f0.type = 29 ∧ f1.type = 23) ∧ (f0.offset = 0 ∧ f1.offset = 17) := by
  refine ⟨(Try.prog.fieldsOf 44).toList.head!, (Try.prog.fieldsOf 44).toList.tail.head!, by kernel_rfl, ⟨?_, ?_⟩, ⟨by kernel_rfl, by kernel_rfl⟩, ⟨by kernel_rfl, by kernel_rfl⟩⟩
  all_goals exact of_decide_eq_true (by kernel_rfl)
theorem eqIn_fo (d : Nat) {f : Fo} (hk : f.ok) (w : World) : (Op.equalIn (d + 4) 44 (.agg (fov f)) (.agg (fov f))).run Try.prog w = .ok true w := by
  rw [run_equalIn_struct w (d + 3) 44 _ _ (by kernel_rfl) (by kernel_rfl)]
  obtain ⟨f0, f1, hf, ⟨n0, n1⟩, ⟨t0, t1⟩, ⟨o0, o1⟩⟩ := fields_fo
  rw [hf]
  have e0 := eqIn_adk d f.v6 f.v6 hk hk w
  rw [beq_self_eq_true, beq_self_eq_true, Bool.and_true] at e0
  have e2 : ∀ n : Int, (Op.equalIn (d + 3) 23 (.int .u32 n) (.int .u32 n)).run Try.prog w = .ok true w := fun n => by
    simp [Op.equalIn, run_underlying Try.underlying23]
  obtain ⟨p0, p1⟩ := part_fo hk w
  simp only [Op.eqFields, if_pos n0, if_pos n1, t0, t1, o0, o1, Sem.run_bind, p0, p1, e0, e2, Result.andThen_ok, Sem.run_ite, Sem.run_pure]
  rfl
theorem eql_fo {f : Fo} (hk : f.ok) (w : World) : (binOp .eql 44 (.agg (fov f)) (.agg (fov f))).run Try.prog w = .ok (.bool true) w := by
  rw [run_eql_struct]
  have h1 := eqIn_fo 9996 hk w
  rw [show (10000 : Nat) = 9996 + 4 from rfl] at *
  simp only [h1]
  rfl
-->>
--<< recs
def v4B (a b c d : UInt8) : List UInt8 := [a, b, c, d, 0, 0, 0, 0, 0, 0, 0, 0, 0, 0, 0, 0]
theorem v4k_any (a b c d : UInt8) (w : World) : Calls Try.prog 10 #[.int .u8 a.toNat, .int .u8 b.toNat, .int .u8 c.toNat, .int .u8 d.toNat] w fun e w' => e = .returned (.agg (adv false (v4B a b c d))) ∧ Below w.heap.size w w' := by
  go_enter Try.func10, Try.ntmps10
  go_wp2_with fail
  exact bodyPost_ret (results_cell_row rfl _ _ w.heap.size 29 _ (0, 0) _ rfl (heap_alloc_last w _) Try.underlying29 rfl (by show _ = some 17; kernel_rfl)) rfl ⟨rfl, (Below.refl _ _).alloc (Nat.le_refl _) _⟩
def cnr (f t : ByteArray) (ttl : Int) : Rk := ⟨f, 5, 1, ttl, false, List.replicate 16 0, t, .slice none 0 0⟩
def arr (f : ByteArray) (d : UInt8) (ttl : Int) : Rk := ⟨f, 1, 1, ttl, false, v4B 8 8 8 d, ⟨#[]⟩, .slice none 0 0⟩
theorem cnr_ok (f t : ByteArray) (ttl : Int) : (cnr f t ttl).ok := ⟨rfl, rfl⟩
theorem arr_ok (f : ByteArray) (d : UInt8) (ttl : Int) : (arr f d ttl).ok := ⟨rfl, rfl⟩
theorem run_build_cnr (f t : ByteArray) (ttl : Int) (w : World) : (Instr.build 32 #[(0, .string f), (1, .int .i64 5), (2, .int .i64 1), (3, .int .u32 ttl), (5, .string t)]).run Try.prog w = .ok (.agg (rkv (cnr f t ttl))) w := by kernel_rfl
theorem run_build_arr (f : ByteArray) (d : UInt8) (ttl : Int) (w : World) : (Instr.build 32 #[(0, .string f), (1, .int .i64 1), (2, .int .i64 1), (3, .int .u32 ttl), (4, .agg (adv false (v4B 8 8 8 d)))]).run Try.prog w = .ok (.agg (rkv (arr f d ttl))) w := by kernel_rfl
theorem wpList_build_cnr {ops : Array Oper} {rest : List Oper} {o : Oper} {a : Act} {w : World} {Q : Exit → Act → World → Prop} (hgd : o.guard = none) (x0 x1 x2 x3 x4 : Operand) (ho : o.op = .build 32 #[(0, x0), (1, x1), (2, x2), (3, x3), (5, x4)]) (f t : ByteArray) (ttl : Int) (h0 : a.eval x0 = .string f) (h1 : a.eval x1 = .int .i64 5) (h2 : a.eval x2 = .int .i64 1) (h3 : a.eval x3 = .int .u32 ttl) (h4 : a.eval x4 = .string t)
    (h : wpList Try.prog ops Q rest (a.put o.dst (.agg (rkv (cnr f t ttl)))) w) : wpList Try.prog ops Q (o :: rest) a w :=
  wpList_plain hgd fun _ hK => by
    have hrun := run_build_cnr f t ttl w
    unfold Oper.wp execOp
    simp only [ho, Sem.run_bind, Sem.run_pure, Result.andThen_ok, List.map_toArray, List.map_cons, List.map_nil, h0, h1, h2, h3, h4, hrun]
    exact hK _ _ h
theorem wpList_build_arr {ops : Array Oper} {rest : List Oper} {o : Oper} {a : Act} {w : World} {Q : Exit → Act → World → Prop} (hgd : o.guard = none) (x0 x1 x2 x3 x4 : Operand) (ho : o.op = .build 32 #[(0, x0), (1, x1), (2, x2), (3, x3), (4, x4)]) (f : ByteArray) (d : UInt8) (ttl : Int) (h0 : a.eval x0 = .string f) (h1 : a.eval x1 = .int .i64 1) (h2 : a.eval x2 = .int .i64 1) (h3 : a.eval x3 = .int .u32 ttl) (h4 : a.eval x4 = .agg (adv false (v4B 8 8 8 d)))
    (h : wpList Try.prog ops Q rest (a.put o.dst (.agg (rkv (arr f d ttl)))) w) : wpList Try.prog ops Q (o :: rest) a w :=
  wpList_plain hgd fun _ hK => by
    have hrun := run_build_arr f d ttl w
    unfold Oper.wp execOp
    simp only [ho, Sem.run_bind, Sem.run_pure, Result.andThen_ok, List.map_toArray, List.map_cons, List.map_nil, h0, h1, h2, h3, h4, hrun]
    exact hK _ _ h
set_option maxHeartbeats 1000000 in
theorem cname_any (f t : ByteArray) (ttl : Int) (w : World) : Calls Try.prog 6 #[.string f, .string t, .int .u32 ttl] w fun e w' => e = .returned (.agg (rkv (cnr f t ttl))) ∧ Below w.heap.size w w' := by
  have hok := cnr_ok f t ttl
  go_enter Try.func6, Try.ntmps6
  go_wp2_with (first
    | (refine wpList_alloc_rk rfl rfl ?_; intro w1 a1 b1 s1; have H1 := Lib.hid (And.intro a1 b1); clear a1 b1)
    | (refine wpList_build_cnr rfl (.tmp 7) (.const (.int .i64 5)) (.const (.int .i64 1)) (.tmp 8) (.tmp 9) rfl f t ttl rfl rfl rfl rfl rfl ?_)
    | (refine wpList_store_rk rfl (.tmp 6) (.tmp 10) rfl (cnr f t ttl) rfl rfl hok H1.out.1 ?_; intro w2 a2 _ s2 t2; have H2 := Lib.hid (And.intro a2 (t2 _ _ (Nat.le_refl _) H1.out.2)); clear a2 t2))
  exact bodyPost_ret (results_cell_row rfl _ _ w.heap.size 32 _ (0, 0) _ rfl H2.out.1.1 Try.underlying32 rfl (rk_size hok)) rfl ⟨rfl, H2.out.2⟩
set_option maxHeartbeats 1000000 in
theorem a_any (f : ByteArray) (d : UInt8) (ttl : Int) (w : World) : Calls Try.prog 7 #[.string f, .int .u8 d.toNat, .int .u32 ttl] w fun e w' => e = .returned (.agg (rkv (arr f d ttl))) ∧ Below w.heap.size w w' := by
  have hok := arr_ok f d ttl
  go_enter Try.func7, Try.ntmps7
  go_wp2_with (first
    | (refine wpList_alloc_rk rfl rfl ?_; intro w1 a1 b1 s1; have H1 := Lib.hid (And.intro a1 b1); clear a1 b1))
  refine (v4k_any 8 8 8 d w1).mono ?_
  rintro e w3 ⟨rfl, b3⟩
  have H3 := Lib.hid (And.intro (H1.out.1.later b3 (Nat.le_refl _)) (H1.out.2.trans (b3.mono H1.out.2.size)))
  clear b3
  go_wp2_with (first
    | (refine wpList_build_arr rfl (.tmp 7) (.const (.int .i64 1)) (.const (.int .i64 1)) (.tmp 8) (.tmp 10) rfl f d ttl rfl rfl rfl rfl rfl ?_)
    | (refine wpList_store_rk rfl (.tmp 6) (.tmp 11) rfl (arr f d ttl) rfl rfl hok H3.out.1 ?_; intro w2 a2 _ s2 t2; have H2 := Lib.hid (And.intro a2 (t2 _ _ (Nat.le_refl _) H3.out.2)); clear a2 t2))
  exact bodyPost_ret (results_cell_row rfl _ _ w.heap.size 32 _ (0, 0) _ rfl H2.out.1.1 Try.underlying32 rfl (rk_size hok)) rfl ⟨rfl, H2.out.2⟩
/-- A slice literal of some structs. -/
theorem wp_lits {P : Program} {o : Oper} {a : Act} {w : World} {K : Act → World → Prop} {Q : Exit → Act → World → Prop} (t e : TypeId) (len : Nat) (parts : Array (Nat × Operand)) (ho : o.op = .buildSlice t len parts) (vs : List Value)
    (hev : parts.toList.map (fun p => (p.1, a.eval p.2)) = (vs.zipIdx 0).map fun x => (x.2, x.1)) {z : Value} {s b : Nat} (hi : (P.info? e).map (fun i => (i.zero, i.size, i.bytes)) = some (some z, s, b)) (hs : ∀ v ∈ vs, v.cells.size = s) (hl : len = vs.length) (hp : 0 < s) (hlp : 0 < len) (hm : len * s ≤ 16777216) (hu : P.underlying t = some (.slice e))
    (h : K (a.put o.dst (.slice (some ⟨w.heap.size, 0, none⟩) len len)) (w.alloc (.cells (vs.flatMap fun v => v.cells.toList).toArray e))) : o.wp P a w K Q := by
  obtain ⟨i, h1, h2, h3, _⟩ := info_of15 hi
  have hpos : 0 < len * s := Nat.mul_pos hlp hp
  refine wp_buildSlice t e len parts ho _ i z hu h1 h2 (by rw [h3]; omega) (by rw [h3]; omega) ?_ h
  rw [Array.toList_map, hev, h3]
  exact Great.fill_whole hp vs ((Array.range (len * s)).map (z.cells[· % z.cells.size]!)) hs (by simp [hl])
theorem wpList_lits {P : Program} {ops : Array Oper} {rest : List Oper} {o : Oper} {a : Act} {w : World} {Q : Exit → Act → World → Prop} (hgd : o.guard = none) (t e : TypeId) (len : Nat) (parts : Array (Nat × Operand)) (ho : o.op = .buildSlice t len parts) (vs : List Value)
    (hev : parts.toList.map (fun p => (p.1, a.eval p.2)) = (vs.zipIdx 0).map fun x => (x.2, x.1)) {z : Value} {s b : Nat} (hi : (P.info? e).map (fun i => (i.zero, i.size, i.bytes)) = some (some z, s, b)) (hs : ∀ v ∈ vs, v.cells.size = s) (hl : len = vs.length) (hp : 0 < s) (hlp : 0 < len) (hm : len * s ≤ 16777216) (hu : P.underlying t = some (.slice e))
    (h : wpList P ops Q rest (a.put o.dst (.slice (some ⟨w.heap.size, 0, none⟩) len len)) (w.alloc (.cells (vs.flatMap fun v => v.cells.toList).toArray e))) : wpList P ops Q (o :: rest) a w :=
  wpList_plain hgd fun _ hK => wp_lits t e len parts ho vs hev hi hs hl hp hlp hm hu (hK _ _ h)
theorem infoRk : (Try.prog.info? 32).map (fun i => (i.zero, i.size, i.bytes)) = some (some (.agg (rkv rk0)), 23, 96) := by kernel_rfl
theorem rkL_size {xs : List Rk} (h : ∀ r ∈ xs, r.ok) : ∀ v ∈ rkL xs, v.cells.size = 23 := fun v hv => by
  obtain ⟨r, hr, rfl⟩ := List.mem_map.1 hv
  exact rkv_size (h r hr)
theorem foL_size {xs : List Fo} (h : ∀ r ∈ xs, r.ok) : ∀ v ∈ foL xs, v.cells.size = 18 := fun v hv => by
  obtain ⟨r, hr, rfl⟩ := List.mem_map.1 hv
  exact fov_size (h r hr)
-->>
end Go.Proofs.Ytjbdaeiefckkcaa
