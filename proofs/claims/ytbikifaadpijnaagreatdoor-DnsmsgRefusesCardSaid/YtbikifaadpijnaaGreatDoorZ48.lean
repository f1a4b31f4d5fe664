/-
  stockadeplay.Message: a message that may be written. Conditions: those of the slices.
-/
import Derived.Test.YtbikifaadpijnaaGreatDoorZ47
import Derived.Test.YtbikifaadpijnaaGreatDoorZ44
import Derived.Test.YtbikifaadpijnaaGreatDoorZ43
import Derived.IntWalk
namespace Go.Proofs.YtbikifaadpijnaaGreatDoor
open Go.RowKit
set_option maxRecDepth 100000

theorem run_build_ms8 (mh : Mh) (sa su se : Sl) (w : World) : (Instr.build 26 #[(0, .int .i64 mh.id), (1, .bool mh.reply), (2, .int .i64 mh.opcode), (3, .int .i64 mh.code), (4, .int .i64 mh.flags), (6, .slice sa.A sa.n sa.c), (7, .slice su.A su.n su.c), (8, .slice se.A se.n se.c)]).run Tryz.prog w = .ok (.agg (msv mh .zero sa su se)) w := by kernel_rfl
theorem wp_build_ms8 {o : Oper} {a : Act} {w : World} {K : Act → World → Prop} {Q : Exit → Act → World → Prop} (x0 x1 x2 x3 x4 x6 x7 x8 : Operand) (ho : o.op = .build 26 #[(0, x0), (1, x1), (2, x2), (3, x3), (4, x4), (6, x6), (7, x7), (8, x8)]) (mh : Mh) (sa su se : Sl)
    (h0 : a.eval x0 = .int .i64 mh.id) (h1 : a.eval x1 = .bool mh.reply) (h2 : a.eval x2 = .int .i64 mh.opcode) (h3 : a.eval x3 = .int .i64 mh.code) (h4 : a.eval x4 = .int .i64 mh.flags) (h6 : a.eval x6 = .slice sa.A sa.n sa.c) (h7 : a.eval x7 = .slice su.A su.n su.c) (h8 : a.eval x8 = .slice se.A se.n se.c)
    (h : K (a.put o.dst (.agg (msv mh .zero sa su se))) w) : o.wp Tryz.prog a w K Q := by
  have hrun := run_build_ms8 mh sa su se w
  unfold Oper.wp execOp
  simp only [ho, Sem.run_bind, Sem.run_pure, Result.andThen_ok, List.map_toArray, List.map_cons, List.map_nil, h0, h1, h2, h3, h4, h6, h7, h8, hrun]
  exact h
/-- All blocks but one are as they were. -/
structure Held (g : Nat) (w w' : World) : Prop where
  os : w'.os = w.os
  tape : w'.tape = w.tape
  output : w'.output = w.output
  size : w.heap.size ≤ w'.heap.size
  block : ∀ k, k ≠ g → k < w.heap.size → w'.heap[k]? = w.heap[k]?
theorem Held.refl (g : Nat) (w : World) : Held g w w := ⟨rfl, rfl, rfl, Nat.le_refl _, fun _ _ _ => rfl⟩
theorem Held.below {g B : Nat} {w0 w w' : World} (h : Held g w w') (hb : Below B w0 w) (hB : B ≤ g) (hg : g < w.heap.size) : Below B w0 w' :=
  ⟨h.os.trans hb.os, h.tape.trans hb.tape, h.output.trans hb.output, Nat.le_trans hb.size h.size, fun k hk => (h.block k (by omega) (by omega)).trans (hb.block k hk)⟩
theorem Held.later {g : Nat} {w w1 w2 : World} (h : Held g w w1) (hb : Below w1.heap.size w1 w2) : Held g w w2 :=
  ⟨hb.os.trans h.os, hb.tape.trans h.tape, hb.output.trans h.output, Nat.le_trans h.size hb.size, fun k hk hl => (hb.block k (Nat.lt_of_lt_of_le hl h.size)).trans (h.block k hk hl)⟩
theorem Held.grown {g : Nat} {w w1 w2 : World} {row : Option Nat} (h : Held g w w1) (hg : w1.grownBy w2 row) (hr : ∀ k, row = some k → w.heap.size ≤ k) : Held g w w2 :=
  ⟨hg.os.trans h.os, hg.tape.trans h.tape, hg.output.trans h.output, Nat.le_trans h.size hg.size, fun k hk hl => (hg.block k (Nat.lt_of_lt_of_le hl h.size) (fun e => by have := hr k e.symm; omega)).trans (h.block k hk hl)⟩
theorem Held.store {g : Nat} {w w1 w2 : World} (h : Held g w w1) (ho : ∀ k, k ≠ g → w2.heap[k]? = w1.heap[k]?) (hb : Below 0 w1 w2) : Held g w w2 :=
  ⟨hb.os.trans h.os, hb.tape.trans h.tape, hb.output.trans h.output, Nat.le_trans h.size hb.size, fun k hk hl => (ho k hk).trans (h.block k hk hl)⟩
theorem RcS.awayB {lo : Nat} {w w' : World} {A : Option Addr} {n c : Nat} {xs : List Rc} (h : RcS lo w A n c xs) (hk : ∀ k, lo ≤ k → k < w.heap.size → w'.heap[k]? = w.heap[k]?) : RcS lo w' A n c xs :=
  ⟨h.len, h.cap, h.max, h.none_, h.ok, fun i r hr => by
    obtain ⟨b, off, B', k, m, hA, hr2, hd, hl, hl2⟩ := h.here i r hr
    have hb : b < w.heap.size := by
      obtain ⟨u, us, e⟩ : ∃ u us, (rcv r B' k m).toList = u :: us := List.exists_cons_of_ne_nil (rcv_ne r B' k m)
      exact lt_of_cell' (hr2 0 u (by rw [e]; rfl))
    exact ⟨b, off, B', k, m, hA, fun j u hj => (World.cell?_of_block (a := ⟨b, off + i * 23 + j, none⟩) (hk b hl hb)).trans (hr2 j u hj), hd.away (fun hn a ha => hk a.block (hl2 hn a ha) (hd.blk hn ha)), hl, hl2⟩⟩
theorem wp_put_ms {o : Oper} {a : Act} {w : World} {K : Act → World → Prop} {Q : Exit → Act → World → Prop} (ty : TypeId) (x y : Operand) (ho : o.op = .store ty x y) {g : Nat} (j : Nat) (s : Sl) (hx : a.eval x = .pointer (some ⟨g, j, none⟩)) (hy : a.eval y = .slice s.A s.n s.c) (hi : (Tryz.prog.info? ty).map (·.size) = some 1)
    {mh : Mh} {sq sa su se sq' sa' su' se' : Sl} (hA : MsBox w g mh sq sa su se) (hj : j < 9) (hset : (msv mh sq sa su se).setIfInBounds j (.slice s.A s.n s.c) = msv mh sq' sa' su' se')
    (h : ∀ w', MsBox w' g mh sq' sa' su' se' → (∀ k, k ≠ g → w'.heap[k]? = w.heap[k]?) → (∀ B w0, B ≤ g → Below B w0 w → Below B w0 w') → K (a.put o.dst undef) w') : o.wp Tryz.prog a w K Q := by
  have e : w.setCell ⟨g, j, none⟩ (.slice s.A s.n s.c) = w.setRow g (msv mh sq' sa' su' se') := by
    rw [setCell_eq_setRow w g j _ _ _ (.slice s.A s.n s.c) hA, hset]
  have hrun := run_storeVar_cell (P := Tryz.prog) w g j ty (.slice s.A s.n s.c) hA (by exact hj) hi rfl
  unfold Oper.wp execOp
  simp only [ho, hx, hy, Instr.storeAt, Instr.sureAddr, Sem.run_bind, Sem.run_pure, Result.andThen_ok, hrun]
  rw [e]
  exact h _ (setRow_heap w g _ _ _ _ hA) (fun k hk => setRow_other w g k _ hk) (fun B w0 hB hb => below_setRow hb hB _)
theorem wp_push_qs {o : Oper} {a : Act} {w : World} {K : Act → World → Prop} {Q : Exit → Act → World → Prop} (s x : Operand)
    (ho : o.op = .call { callee := .builtin .append, args := #[s, x], argTypes := #[23, 23] }) (base : Nat) (v : Value) (xs : List Qs) (hs : a.eval s = v) (hown : QsO w base v xs)
    {g : Nat} {q : Qs} (hx : a.eval x = .slice (some ⟨g, 0, none⟩) 1 1) (hq : QsBox w g q) (hm : xs.length ≤ 1000000) (hbase : base ≤ w.heap.size)
    (h : ∀ v' w', QsO w' base v' (xs ++ [q]) → w.grownBy w' v.ownBlock → K (a.put o.dst v') w') : o.wp Tryz.prog a w K Q := by
  obtain ⟨i, h1, h2, h3, h4⟩ := info_of infoQ
  obtain ⟨v', w', hr, o', g', _, _⟩ := run_append_own_at (P := Tryz.prog) w base 23 o.type 51 i _ 3 32 Tryz.underlying23 h1 h2 h3 h4 rfl (by decide) v xs.length _ hown ⟨g, 0, none⟩ 1 1 (qsv q).toList rfl (fun j u hj => by
    have := hq.range j u hj
    rw [add_plain]
    exact this) (fun u hu => by
    have := (Array.all_eq_true'.1 (qs_one q)) u (by simpa using hu)
    exact this) (by unfold maxLen; omega) (by omega) hbase
  unfold Oper.wp execOp
  simp only [ho, resolve, invoke, builtin, Sem.run_bind, Sem.run_pure, Result.andThen_ok, List.map_toArray, List.map_cons, List.map_nil, hs, hx, hr]
  refine h v' w' ?_ g'
  unfold QsO
  rw [qsC_snoc, List.length_append]
  exact o'
theorem wp_lit1 {P : Program} {o : Oper} {a : Act} {w : World} {K : Act → World → Prop} {Q : Exit → Act → World → Prop} (t e : TypeId) (x : Operand) (ho : o.op = .buildSlice t 1 #[(0, x)])
    (cs : Array Value) (hx : a.eval x = .agg cs) {z : Value} {s b : Nat} (hi : (P.info? e).map (fun i => (i.zero, i.size, i.bytes)) = some (some z, s, b)) (hs : cs.size = s) (hp : 0 < s) (hm : s ≤ 1000) (hu : P.underlying t = some (.slice e))
    (h : K (a.put o.dst (.slice (some ⟨w.heap.size, 0, none⟩) 1 1)) (w.alloc (.cells cs e))) : o.wp P a w K Q := by
  obtain ⟨i, h1, h2, h3, _⟩ := info_of hi
  refine wp_buildSlice t e 1 _ ho cs i z hu h1 h2 (by rw [h3]; omega) (by rw [h3]; omega) ?_ h
  have hf := Great.fill_whole hp [Value.agg cs] ((Array.range (1 * i.size)).map (z.cells[· % z.cells.size]!)) (fun v hv => by
    obtain rfl := List.mem_singleton.1 hv
    exact hs) (by simp [h3])
  rw [h3] at hf ⊢
  simp only [List.zipIdx, List.map_cons, List.map_nil, List.flatMap_cons, List.flatMap_nil, List.append_nil] at hf
  simp only [List.map_toArray, List.map_cons, List.map_nil, hx]
  rw [hf]
  simp [Value.cells]
/-- A question that may be written. -/
def Play1q (q : Qs) : Prop := rightQ q ∧ q.name.length ≤ 60
/-- A message that may be written. -/
structure PlayM (m : Ms) : Prop where
  h : rightH m.h
  qs : m.qs.length ≤ 4 ∧ ∀ q ∈ m.qs, Play1q q
  an : m.an.length ≤ 8 ∧ ∀ r ∈ m.an, Play1 r
  au : m.au.length ≤ 8 ∧ ∀ r ∈ m.au, Play1 r
  ex : m.ex.length ≤ 8 ∧ ∀ r ∈ m.ex, Play1 r
/-- A message among the arguments. -/
structure ArgM (m : Ms) : Prop where
  qs : ∀ q ∈ m.qs, q.name.length ≤ 9223372036854775807
  an : ∀ r ∈ m.an, Rec1 r
  au : ∀ r ∈ m.au, Rec1 r
  ex : ∀ r ∈ m.ex, Rec1 r
theorem rem_in (v : Int) (k : Int) (hk : 0 < k ∧ k ≤ 65536) : 0 ≤ IntKind.i64.wrap ((IntKind.u64.wrap v).tmod k) ∧ IntKind.i64.wrap ((IntKind.u64.wrap v).tmod k) < k := by
  have h1 : 0 ≤ IntKind.u64.wrap v := by show 0 ≤ v % 18446744073709551616; omega
  rw [Int.tmod_eq_emod_of_nonneg h1]
  have h2 := Int.emod_nonneg (IntKind.u64.wrap v) (show k ≠ 0 by omega)
  have h3 := Int.emod_lt_of_pos (IntKind.u64.wrap v) hk.1
  rw [IntKind.wrap_i64]
  omega
theorem rem_in' (v : Int) (k : Int) (hk : 0 < k ∧ k ≤ 65536) : 0 ≤ wrap64 ((IntKind.u64.wrap v).tmod k) ∧ wrap64 ((IntKind.u64.wrap v).tmod k) < k := by
  have h := rem_in v k hk
  have e : IntKind.i64.wrap ((IntKind.u64.wrap v).tmod k) = wrap64 ((IntKind.u64.wrap v).tmod k) := (IntKind.wrap_i64 _).trans (by unfold wrap64; rfl)
  rw [e] at h
  exact h
theorem port_short (v : Int) : shortI (wrap64 ((IntKind.u64.wrap v).tmod 65536)) := by
  have h := rem_in' v 65536 (by decide)
  unfold shortI
  omega
structure ExtM (lo : Nat) (w : World) (sq sa su se : Sl) (m : Ms) : Prop where
  ex : ∃ ba ha bu hu be he bq, RcW lo ba ha w sa.A sa.n sa.c m.an ∧ RcW lo bu hu w su.A su.n su.c m.au ∧ RcW lo be he w se.A se.n se.c m.ex ∧ QsO w bq (.slice sq.A sq.n sq.c) m.qs ∧ (ha ≤ be ∧ hu ≤ be ∧ be ≤ bq ∧ ha ≤ bq ∧ hu ≤ bq ∧ he ≤ bq) ∧ bq ≤ w.heap.size
set_option maxHeartbeats 16000000 in
theorem playM_own {lo : Nat} {sq sa su se : Sl} {m : Ms} {w : World} (hm : MsM lo w sq sa su se m) (hok : ArgM m) : Calls Tryz.prog 16 #[.agg (msv m.h sq sa su se)] w fun e w' =>
    ∃ tq ta tu te x, e = .returned (.agg (msv x.h tq ta tu te)) ∧ PlayM x ∧ MsM w.heap.size w' tq ta tu te x ∧ Below w.heap.size w w' ∧ ExtM w.heap.size w' tq ta tu te x := by
  have a1 := MsBox.new w m.h sq sa su se
  have b1 : Below w.heap.size w (w.alloc (.cells (msv m.h sq sa su se) 26)) := (Below.refl _ _).alloc (Nat.le_refl _) _
  obtain ⟨W, hW⟩ : ∃ W, w.alloc (.cells (msv m.h sq sa su se) 26) = W := ⟨_, rfl⟩
  rw [hW] at a1 b1
  have HW := Lib.hid hW
  have HA := Lib.hid (And.intro a1 b1)
  have HL1 := Lib.hid (MsBox.lt a1)
  have HM := Lib.hid (And.intro hm hok)
  have hql := hm.qs.len
  have hqc := hm.qs.cap
  have hqm := hm.qs.max
  unfold maxLen at hqm
  clear a1 b1 hW hm hok
  go_enter Tryz.func16, Tryz.ntmps16
  go_upto_region 1 with (rw [HW.out]; refine wpList_alloc_ms rfl rfl ?_; intro w2 a2 b2 z2; have H2 := Lib.hid (And.intro (HA.out.1.later b2 (Nat.le_refl _)) (And.intro a2 (HA.out.2.trans (b2.mono HA.out.2.size)))); clear a2 b2 z2)
  simp only [Act.put, List.setIfInBounds_toArray, List.set_cons_zero, List.set_cons_succ]
  go_cut [3] (fun p wx => ∃ (g : Nat) (mh : Mh) (ta tu te : Sl) (xa xu xe : List Rc) (ba ha bu hu be he : Nat), p = .pointer (some ⟨g, 0, none⟩) ∧ rightH mh ∧ MsBox wx g mh .zero ta tu te ∧ MsBox wx w.heap.size m.h sq sa su se ∧ MsBox wx W.heap.size .zero .zero .zero .zero .zero ∧ w2.heap.size ≤ g ∧ (∀ w', Held g wx w' → RcW w2.heap.size ba ha w' ta.A ta.n ta.c xa ∧ RcW w2.heap.size bu hu w' tu.A tu.n tu.c xu ∧ RcW w2.heap.size be he w' te.A te.n te.c xe) ∧ ((ta.n ≤ 8 ∧ ∀ r ∈ xa, Play1 r) ∧ (tu.n ≤ 8 ∧ ∀ r ∈ xu, Play1 r) ∧ (te.n ≤ 8 ∧ ∀ r ∈ xe, Play1 r)) ∧ (ha ≤ be ∧ hu ≤ be ∧ be ≤ wx.heap.size ∧ ha ≤ wx.heap.size ∧ hu ≤ wx.heap.size ∧ he ≤ wx.heap.size) ∧ Below w.heap.size w wx)
  case first =>
    --<< a
    have hS : Below w2.heap.size w2 w2.drew := (Below.refl _ _).drew
    have r0 : ∀ w', Below w2.heap.size w2 w' → w'.cell? ⟨w.heap.size, 0, none⟩ = some (.int .i64 m.h.id) := fun w' h => (H2.out.1.later h (Nat.le_refl _)).cell 0
    have r1 : ∀ w', Below w2.heap.size w2 w' → w'.cell? ⟨w.heap.size, 1, none⟩ = some (.bool m.h.reply) := fun w' h => (H2.out.1.later h (Nat.le_refl _)).cell 1
    have r2 : ∀ w', Below w2.heap.size w2 w' → w'.cell? ⟨w.heap.size, 2, none⟩ = some (.int .i64 m.h.opcode) := fun w' h => (H2.out.1.later h (Nat.le_refl _)).cell 2
    have r3 : ∀ w', Below w2.heap.size w2 w' → w'.cell? ⟨w.heap.size, 3, none⟩ = some (.int .i64 m.h.code) := fun w' h => (H2.out.1.later h (Nat.le_refl _)).cell 3
    have r4 : ∀ w', Below w2.heap.size w2 w' → w'.cell? ⟨w.heap.size, 4, none⟩ = some (.int .i64 m.h.flags) := fun w' h => (H2.out.1.later h (Nat.le_refl _)).cell 4
    have r6 : ∀ w', Below w2.heap.size w2 w' → w'.cell? ⟨w.heap.size, 6, none⟩ = some (.slice sa.A sa.n sa.c) := fun w' h => (H2.out.1.later h (Nat.le_refl _)).cell 6
    have r7 : ∀ w', Below w2.heap.size w2 w' → w'.cell? ⟨w.heap.size, 7, none⟩ = some (.slice su.A su.n su.c) := fun w' h => (H2.out.1.later h (Nat.le_refl _)).cell 7
    have r8 : ∀ w', Below w2.heap.size w2 w' → w'.cell? ⟨w.heap.size, 8, none⟩ = some (.slice se.A se.n se.c) := fun w' h => (H2.out.1.later h (Nat.le_refl _)).cell 8
    refine rg_begin (fun w' => Below w2.heap.size w2 w') 32 (by kernel_rfl) rfl ?_
    refine rg_take 0 (v := ?rv1) rfl (by kernel_rfl) (by kernel_rfl) (by kernel_rfl) (fun _ _ _ h => h) (by rfl) hS (fun w2 hw2 => ?ry1) ?rr1
    case ry1 => ((try dsimp only at hw2); go_simp <;> with_reducible rfl)
    simp only [Act.put, List.setIfInBounds_toArray, List.set_cons_zero, List.set_cons_succ]
    refine rg_take 3 (v := ?rv2) rfl (by kernel_rfl) (by kernel_rfl) (by kernel_rfl) (fun _ _ _ h => h) (by rfl) hS (fun w2 hw2 => ?ry2) ?rr2
    case ry2 => ((try dsimp only at hw2); go_simp <;> with_reducible rfl)
    simp only [Act.put, List.setIfInBounds_toArray, List.set_cons_zero, List.set_cons_succ]
    refine rg_take 5 (v := ?rv3) rfl (by kernel_rfl) (by kernel_rfl) (by kernel_rfl) (fun _ _ _ h => h) (by rfl) hS (fun w2 hw2 => ?ry3) ?rr3
    case ry3 => ((try dsimp only at hw2); go_simp <;> with_reducible rfl)
    simp only [Act.put, List.setIfInBounds_toArray, List.set_cons_zero, List.set_cons_succ]
    refine rg_take 10 (v := ?rv4) rfl (by kernel_rfl) (by kernel_rfl) (by kernel_rfl) (fun _ _ _ h => h) (by rfl) hS (fun w2 hw2 => ?ry4) ?rr4
    case ry4 => ((try dsimp only at hw2); go_simp <;> with_reducible rfl)
    simp only [Act.put, List.setIfInBounds_toArray, List.set_cons_zero, List.set_cons_succ]
    refine rg_take 15 (v := ?rv5) rfl (by kernel_rfl) (by kernel_rfl) (by kernel_rfl) (fun _ _ _ h => h) (by rfl) hS (fun w2 hw2 => ?ry5) ?rr5
    case ry5 => ((try dsimp only at hw2); go_simp <;> with_reducible rfl)
    simp only [Act.put, List.setIfInBounds_toArray, List.set_cons_zero, List.set_cons_succ]
    refine rg_take 20 (v := ?rv6) rfl (by kernel_rfl) (by kernel_rfl) (by kernel_rfl) (fun _ _ _ h => h) (by rfl) hS (fun w2 hw2 => ?ry6) ?rr6
    case ry6 => ((try dsimp only at hw2); go_simp <;> with_reducible rfl)
    simp only [Act.put, List.setIfInBounds_toArray, List.set_cons_zero, List.set_cons_succ]
    refine rg_take 23 (v := ?rv7) rfl (by kernel_rfl) (by kernel_rfl) (by kernel_rfl) (fun _ _ _ h => h) (by rfl) hS (fun w2 hw2 => ?ry7) ?rr7
    case ry7 => ((try dsimp only at hw2); go_simp <;> with_reducible rfl)
    simp only [Act.put, List.setIfInBounds_toArray, List.set_cons_zero, List.set_cons_succ]
    refine rg_take 26 (v := ?rv8) rfl (by kernel_rfl) (by kernel_rfl) (by kernel_rfl) (fun _ _ _ h => h) (by rfl) hS (fun w2 hw2 => ?ry8) ?rr8
    case ry8 => ((try dsimp only at hw2); go_simp <;> with_reducible rfl)
    simp only [Act.put, List.setIfInBounds_toArray, List.set_cons_zero, List.set_cons_succ]
    refine rg_take 1 (v := ?rv9) rfl (by kernel_rfl) (by kernel_rfl) (by kernel_rfl) (fun _ _ _ h => h) (by rfl) hS (fun w2 hw2 => ?ry9) ?rr9
    case ry9 => ((try dsimp only at hw2); go_simp <;> with_reducible rfl)
    simp only [Act.put, List.setIfInBounds_toArray, List.set_cons_zero, List.set_cons_succ]
    refine rg_take 4 (v := ?rv10) rfl (by kernel_rfl) (by kernel_rfl) (by kernel_rfl) (fun _ _ _ h => h) (by rfl) hS (fun w2 hw2 => ?ry10) ?rr10
    case ry10 => ((try dsimp only at hw2); go_simp <;> with_reducible rfl)
    simp only [Act.put, List.setIfInBounds_toArray, List.set_cons_zero, List.set_cons_succ]
    refine rg_take 6 (v := ?rv11) rfl (by kernel_rfl) (by kernel_rfl) (by kernel_rfl) (fun _ _ _ h => h) (by rfl) hS (fun w2 hw2 => ?ry11) ?rr11
    case ry11 => ((try dsimp only at hw2); go_simp <;> with_reducible rfl)
    simp only [Act.put, List.setIfInBounds_toArray, List.set_cons_zero, List.set_cons_succ]
    refine rg_take 11 (v := ?rv12) rfl (by kernel_rfl) (by kernel_rfl) (by kernel_rfl) (fun _ _ _ h => h) (by rfl) hS (fun w2 hw2 => ?ry12) ?rr12
    case ry12 => ((try dsimp only at hw2); go_simp <;> with_reducible rfl)
    simp only [Act.put, List.setIfInBounds_toArray, List.set_cons_zero, List.set_cons_succ]
    refine rg_take 16 (v := ?rv13) rfl (by kernel_rfl) (by kernel_rfl) (by kernel_rfl) (fun _ _ _ h => h) (by rfl) hS (fun w2 hw2 => ?ry13) ?rr13
    case ry13 => ((try dsimp only at hw2); go_simp <;> with_reducible rfl)
    simp only [Act.put, List.setIfInBounds_toArray, List.set_cons_zero, List.set_cons_succ]
    refine rg_take 21 (v := ?rv14) rfl (by kernel_rfl) (by kernel_rfl) (by kernel_rfl) (fun _ _ _ h => h) (by rfl) hS (fun w2 hw2 => ?ry14) ?rr14
    case ry14 => ((try dsimp only at hw2); go_simp <;> with_reducible rfl)
    simp only [Act.put, List.setIfInBounds_toArray, List.set_cons_zero, List.set_cons_succ]
    refine rg_take 24 (v := ?rv15) rfl (by kernel_rfl) (by kernel_rfl) (by kernel_rfl) (fun _ _ _ h => h) (by rfl) hS (fun w2 hw2 => ?ry15) ?rr15
    case ry15 => ((try dsimp only at hw2); go_simp <;> with_reducible rfl)
    simp only [Act.put, List.setIfInBounds_toArray, List.set_cons_zero, List.set_cons_succ]
    refine rg_take 27 (v := ?rv16) rfl (by kernel_rfl) (by kernel_rfl) (by kernel_rfl) (fun _ _ _ h => h) (by rfl) hS (fun w2 hw2 => ?ry16) ?rr16
    case ry16 => ((try dsimp only at hw2); go_simp <;> with_reducible rfl)
    simp only [Act.put, List.setIfInBounds_toArray, List.set_cons_zero, List.set_cons_succ]
    refine rg_take 7 (v := ?rv17) rfl (by kernel_rfl) (by kernel_rfl) (by kernel_rfl) (fun _ _ _ h => h) (by rfl) hS (fun w2 hw2 => ?ry17) ?rr17
    case ry17 => ((try dsimp only at hw2); go_simp <;> with_reducible rfl)
    simp only [Act.put, List.setIfInBounds_toArray, List.set_cons_zero, List.set_cons_succ]
    refine rg_take 12 (v := ?rv18) rfl (by kernel_rfl) (by kernel_rfl) (by kernel_rfl) (fun _ _ _ h => h) (by rfl) hS (fun w2 hw2 => ?ry18) ?rr18
    case ry18 => ((try dsimp only at hw2); go_simp <;> with_reducible rfl)
    simp only [Act.put, List.setIfInBounds_toArray, List.set_cons_zero, List.set_cons_succ]
    refine rg_take 17 (v := ?rv19) rfl (by kernel_rfl) (by kernel_rfl) (by kernel_rfl) (fun _ _ _ h => h) (by rfl) hS (fun w2 hw2 => ?ry19) ?rr19
    case ry19 => ((try dsimp only at hw2); go_simp <;> with_reducible rfl)
    simp only [Act.put, List.setIfInBounds_toArray, List.set_cons_zero, List.set_cons_succ]
    refine rg_take 8 (v := ?rv20) rfl (by kernel_rfl) (by kernel_rfl) (by kernel_rfl) (fun _ _ _ h => h) (by rfl) hS (fun w2 hw2 => ?ry20) ?rr20
    case ry20 => ((try dsimp only at hw2); go_simp <;> with_reducible rfl)
    simp only [Act.put, List.setIfInBounds_toArray, List.set_cons_zero, List.set_cons_succ]
    refine rg_take 13 (v := ?rv21) rfl (by kernel_rfl) (by kernel_rfl) (by kernel_rfl) (fun _ _ _ h => h) (by rfl) hS (fun w2 hw2 => ?ry21) ?rr21
    case ry21 => ((try dsimp only at hw2); go_simp <;> with_reducible rfl)
    simp only [Act.put, List.setIfInBounds_toArray, List.set_cons_zero, List.set_cons_succ]
    refine rg_take 18 (v := ?rv22) rfl (by kernel_rfl) (by kernel_rfl) (by kernel_rfl) (fun _ _ _ h => h) (by rfl) hS (fun w2 hw2 => ?ry22) ?rr22
    case ry22 => ((try dsimp only at hw2); go_simp <;> with_reducible rfl)
    simp only [Act.put, List.setIfInBounds_toArray, List.set_cons_zero, List.set_cons_succ]
    refine rg_take 9 (v := ?rv23) rfl (by kernel_rfl) (by kernel_rfl) (by kernel_rfl) (fun _ _ _ h => h) (by rfl) hS (fun w2 hw2 => ?ry23) ?rr23
    case ry23 => ((try dsimp only at hw2); go_simp <;> with_reducible rfl)
    simp only [Act.put, List.setIfInBounds_toArray, List.set_cons_zero, List.set_cons_succ]
    refine rg_take 14 (v := ?rv24) rfl (by kernel_rfl) (by kernel_rfl) (by kernel_rfl) (fun _ _ _ h => h) (by rfl) hS (fun w2 hw2 => ?ry24) ?rr24
    case ry24 => ((try dsimp only at hw2); go_simp <;> with_reducible rfl)
    simp only [Act.put, List.setIfInBounds_toArray, List.set_cons_zero, List.set_cons_succ]
    refine rg_take 19 (v := ?rv25) rfl (by kernel_rfl) (by kernel_rfl) (by kernel_rfl) (fun _ _ _ h => h) (by rfl) hS (fun w2 hw2 => ?ry25) ?rr25
    case ry25 => ((try dsimp only at hw2); go_simp <;> with_reducible rfl)
    simp only [Act.put, List.setIfInBounds_toArray, List.set_cons_zero, List.set_cons_succ]
    clear r0 r1 r2 r3 r4 r6 r7 r8
    refine rg_any [2, 30] (by kernel_rfl) (by simp) ?_
    refine rg_or 2 rfl (by rfl) (fun K hK => ?_) ?_
    · go_simp
      refine (port_below _ _).mono ?_
      rintro e u0 ⟨rfl, bK⟩
      replace hS := hS.trans (bK.mono hS.size)
      clear bK
      refine hK.out _ _ hS ?_
      clear hK K
      try simp only [Act.put, List.setIfInBounds_toArray, List.set_cons_zero, List.set_cons_succ]
      refine rg_any [22, 30] (by kernel_rfl) (by simp) ?_
      refine rg_or 22 rfl (by rfl) (fun K hK => ?_) ?_
      · go_simp
        refine (playRs_any (HM.out.1.an.later (H2.out.2.2.trans (Below.mono hS H2.out.2.2.size)) (Nat.le_refl _)) HM.out.2.an).mono ?_
        rintro e u1 ⟨Aa, na, ca, xa, rfl, Sa, la, pa, bK⟩
        replace Sa := Sa.low hS.size
        have za := Nat.le_refl u1.heap.size
        replace hS := hS.trans (bK.mono hS.size)
        clear bK
        refine hK.out _ _ hS ?_
        clear hK K
        try simp only [Act.put, List.setIfInBounds_toArray, List.set_cons_zero, List.set_cons_succ]
        refine rg_any [25, 30] (by kernel_rfl) (by simp) ?_
        refine rg_or 25 rfl (by rfl) (fun K hK => ?_) ?_
        · go_simp
          refine (playRs_any (HM.out.1.au.later (H2.out.2.2.trans (Below.mono hS H2.out.2.2.size)) (Nat.le_refl _)) HM.out.2.au).mono ?_
          rintro e u2 ⟨Au, nu, cu, xu, rfl, Su, lu, pu, bK⟩
          replace Su := Su.low hS.size
          replace Sa := Sa.later bK (Nat.le_refl _)
          replace za := Nat.le_trans za bK.size
          have zu := Nat.le_refl u2.heap.size
          replace hS := hS.trans (bK.mono hS.size)
          clear bK
          refine hK.out _ _ hS ?_
          clear hK K
          try simp only [Act.put, List.setIfInBounds_toArray, List.set_cons_zero, List.set_cons_succ]
          refine rg_any [28, 30] (by kernel_rfl) (by simp) ?_
          refine rg_or 28 rfl (by rfl) (fun K hK => ?_) ?_
          · go_simp
            refine (playRs_any (HM.out.1.ex.later (H2.out.2.2.trans (Below.mono hS H2.out.2.2.size)) (Nat.le_refl _)) HM.out.2.ex).mono ?_
            rintro e u3 ⟨Ae, ne, ce, xe, rfl, Se, le, pe, bK⟩
            replace Se := Se.low hS.size
            replace Sa := Sa.later bK (Nat.le_refl _)
            replace Su := Su.later bK (Nat.le_refl _)
            have ya := za
            have yu := zu
            have zb := bK.size
            replace za := Nat.le_trans za bK.size
            replace zu := Nat.le_trans zu bK.size
            have ze := Nat.le_refl u3.heap.size
            replace hS := hS.trans (bK.mono hS.size)
            clear bK
            refine hK.out _ _ hS ?_
            clear hK K
            try simp only [Act.put, List.setIfInBounds_toArray, List.set_cons_zero, List.set_cons_succ]
            refine rg_any [29, 30] (by kernel_rfl) (by simp) ?_
            refine rg_or 29 rfl (by rfl) (fun K hK => ?_) ?_
            · refine wp_build_ms8 (.tmp 8) (.tmp 10) (.tmp 15) (.tmp 20) (.tmp 25) (.tmp 28) (.tmp 31) (.tmp 34) rfl ⟨wrap64 ((IntKind.u64.wrap m.h.id).tmod 65536), m.h.reply, IntKind.i64.wrap ((IntKind.u64.wrap m.h.opcode).tmod 16), IntKind.i64.wrap ((IntKind.u64.wrap m.h.code).tmod 16), IntKind.i64.wrap ((IntKind.u64.wrap m.h.flags).tmod 128)⟩ ⟨Aa, na, ca⟩ ⟨Au, nu, cu⟩ ⟨Ae, ne, ce⟩ rfl rfl rfl rfl rfl rfl rfl rfl ?_
              obtain ⟨MH, hMH⟩ : ∃ MH : Mh, MH = ⟨wrap64 ((IntKind.u64.wrap m.h.id).tmod 65536), m.h.reply, IntKind.i64.wrap ((IntKind.u64.wrap m.h.opcode).tmod 16), IntKind.i64.wrap ((IntKind.u64.wrap m.h.code).tmod 16), IntKind.i64.wrap ((IntKind.u64.wrap m.h.flags).tmod 128)⟩ := ⟨_, rfl⟩
              rw [← hMH]
              have HMH := Lib.hid hMH
              clear hMH
              obtain ⟨X, hX⟩ : ∃ X, Value.agg (msv MH .zero ⟨Aa, na, ca⟩ ⟨Au, nu, cu⟩ ⟨Ae, ne, ce⟩) = X := ⟨_, rfl⟩
              rw [hX]
              have HX := Lib.hid hX
              clear hX
              refine hK.out _ _ hS ?_
              clear hK K
              try simp only [Act.put, List.setIfInBounds_toArray, List.set_cons_zero, List.set_cons_succ]
              refine rg_step 30 rfl (by kernel_rfl) (by rfl) (fun K hK => ?_)
              refine wp_alloc_msF rfl ?_
              intro u5 G bA
              have lG := hS.size
              replace hS := hS.trans (bA.mono hS.size)
              replace za := Nat.le_trans za bA.size
              replace zu := Nat.le_trans zu bA.size
              replace ze := Nat.le_trans ze bA.size
              replace zb := Nat.le_trans zb bA.size
              refine hK.out _ _ hS ?_
              clear hK K
              try simp only [Act.put, List.setIfInBounds_toArray, List.set_cons_zero, List.set_cons_succ]
              refine rg_step 31 rfl (by kernel_rfl) (by rfl) (fun K hK => ?_)
              refine wp_store_msF (.tmp 3) (.tmp 35) rfl MH .zero ⟨Aa, na, ca⟩ ⟨Au, nu, cu⟩ ⟨Ae, ne, ce⟩ rfl HX.out.symm G ?_
              intro u6 G2 oo gg
              have bE := gg _ _ (Nat.le_refl _) bA
              have zg := (gg 0 _ (Nat.zero_le _) (Below.refl 0 _)).size
              replace za := Nat.le_trans za zg
              replace zu := Nat.le_trans zu zg
              replace ze := Nat.le_trans ze zg
              replace zb := Nat.le_trans zb zg
              have KSa := fun w' (H : Held _ u6 w') => Sa.later (H.below bE (Nat.le_refl _) G2.lt) (Nat.le_refl _)
              have KSu := fun w' (H : Held _ u6 w') => Su.later (H.below bE (Nat.le_refl _) G2.lt) (Nat.le_refl _)
              have KSe := fun w' (H : Held _ u6 w') => Se.later (H.below bE (Nat.le_refl _) G2.lt) (Nat.le_refl _)
              replace hS := gg _ _ lG hS
              refine hK.out _ _ hS ?_
              clear hK K
              simp only [Act.put]
              refine rg_done (by kernel_rfl) ?_
              go_wp2_with fail
              go_meet
              refine ⟨_, MH, ⟨Aa, na, ca⟩, ⟨Au, nu, cu⟩, ⟨Ae, ne, ce⟩, xa, xu, xe, _, _, _, _, _, _, rfl, ?_, G2, H2.out.1.later hS (Nat.le_refl _), H2.out.2.1.later hS (Nat.le_refl _), lG, fun wy HH => ⟨KSa wy HH, KSu wy HH, KSe wy HH⟩, ⟨⟨la, pa⟩, ⟨lu, pu⟩, ⟨le, pe⟩⟩, ⟨ya, yu, zb, za, zu, ze⟩, H2.out.2.2.trans (Below.mono hS H2.out.2.2.size)⟩
              rw [HMH.out]
              unfold rightH
              dsimp only
              have q0 := rem_in' m.h.id 65536 (by decide)
              have q1 := rem_in m.h.opcode 16 (by decide)
              have q2 := rem_in m.h.code 16 (by decide)
              have q3 := rem_in m.h.flags 128 (by decide)
              omega
            refine rg_or 30 rfl (by rfl) (fun K hK => ?_) ?_
            · refine wp_alloc_msF rfl ?_
              intro u7 G bA
              have lG := hS.size
              replace hS := hS.trans (bA.mono hS.size)
              replace za := Nat.le_trans za bA.size
              replace zu := Nat.le_trans zu bA.size
              replace ze := Nat.le_trans ze bA.size
              replace zb := Nat.le_trans zb bA.size
              refine hK.out _ _ hS ?_
              clear hK K
              try simp only [Act.put, List.setIfInBounds_toArray, List.set_cons_zero, List.set_cons_succ]
              refine rg_step 29 rfl (by kernel_rfl) (by rfl) (fun K hK => ?_)
              refine wp_build_ms8 (.tmp 8) (.tmp 10) (.tmp 15) (.tmp 20) (.tmp 25) (.tmp 28) (.tmp 31) (.tmp 34) rfl ⟨wrap64 ((IntKind.u64.wrap m.h.id).tmod 65536), m.h.reply, IntKind.i64.wrap ((IntKind.u64.wrap m.h.opcode).tmod 16), IntKind.i64.wrap ((IntKind.u64.wrap m.h.code).tmod 16), IntKind.i64.wrap ((IntKind.u64.wrap m.h.flags).tmod 128)⟩ ⟨Aa, na, ca⟩ ⟨Au, nu, cu⟩ ⟨Ae, ne, ce⟩ rfl rfl rfl rfl rfl rfl rfl rfl ?_
              obtain ⟨MH, hMH⟩ : ∃ MH : Mh, MH = ⟨wrap64 ((IntKind.u64.wrap m.h.id).tmod 65536), m.h.reply, IntKind.i64.wrap ((IntKind.u64.wrap m.h.opcode).tmod 16), IntKind.i64.wrap ((IntKind.u64.wrap m.h.code).tmod 16), IntKind.i64.wrap ((IntKind.u64.wrap m.h.flags).tmod 128)⟩ := ⟨_, rfl⟩
              rw [← hMH]
              have HMH := Lib.hid hMH
              clear hMH
              obtain ⟨X, hX⟩ : ∃ X, Value.agg (msv MH .zero ⟨Aa, na, ca⟩ ⟨Au, nu, cu⟩ ⟨Ae, ne, ce⟩) = X := ⟨_, rfl⟩
              rw [hX]
              have HX := Lib.hid hX
              clear hX
              refine hK.out _ _ hS ?_
              clear hK K
              try simp only [Act.put, List.setIfInBounds_toArray, List.set_cons_zero, List.set_cons_succ]
              refine rg_step 31 rfl (by kernel_rfl) (by rfl) (fun K hK => ?_)
              refine wp_store_msF (.tmp 3) (.tmp 35) rfl MH .zero ⟨Aa, na, ca⟩ ⟨Au, nu, cu⟩ ⟨Ae, ne, ce⟩ rfl HX.out.symm G ?_
              intro u9 G2 oo gg
              have bE := gg _ _ (Nat.le_refl _) bA
              have zg := (gg 0 _ (Nat.zero_le _) (Below.refl 0 _)).size
              replace za := Nat.le_trans za zg
              replace zu := Nat.le_trans zu zg
              replace ze := Nat.le_trans ze zg
              replace zb := Nat.le_trans zb zg
              have KSa := fun w' (H : Held _ u9 w') => Sa.later (H.below bE (Nat.le_refl _) G2.lt) (Nat.le_refl _)
              have KSu := fun w' (H : Held _ u9 w') => Su.later (H.below bE (Nat.le_refl _) G2.lt) (Nat.le_refl _)
              have KSe := fun w' (H : Held _ u9 w') => Se.later (H.below bE (Nat.le_refl _) G2.lt) (Nat.le_refl _)
              replace hS := gg _ _ lG hS
              refine hK.out _ _ hS ?_
              clear hK K
              simp only [Act.put]
              refine rg_done (by kernel_rfl) ?_
              go_wp2_with fail
              go_meet
              refine ⟨_, MH, ⟨Aa, na, ca⟩, ⟨Au, nu, cu⟩, ⟨Ae, ne, ce⟩, xa, xu, xe, _, _, _, _, _, _, rfl, ?_, G2, H2.out.1.later hS (Nat.le_refl _), H2.out.2.1.later hS (Nat.le_refl _), lG, fun wy HH => ⟨KSa wy HH, KSu wy HH, KSe wy HH⟩, ⟨⟨la, pa⟩, ⟨lu, pu⟩, ⟨le, pe⟩⟩, ⟨ya, yu, zb, za, zu, ze⟩, H2.out.2.2.trans (Below.mono hS H2.out.2.2.size)⟩
              rw [HMH.out]
              unfold rightH
              dsimp only
              have q0 := rem_in' m.h.id 65536 (by decide)
              have q1 := rem_in m.h.opcode 16 (by decide)
              have q2 := rem_in m.h.code 16 (by decide)
              have q3 := rem_in m.h.flags 128 (by decide)
              omega
            exact AllReadyH.nil
          refine rg_or 30 rfl (by rfl) (fun K hK => ?_) ?_
          · refine wp_alloc_msF rfl ?_
            intro u10 G bA
            have lG := hS.size
            replace hS := hS.trans (bA.mono hS.size)
            replace za := Nat.le_trans za bA.size
            replace zu := Nat.le_trans zu bA.size
            refine hK.out _ _ hS ?_
            clear hK K
            try simp only [Act.put, List.setIfInBounds_toArray, List.set_cons_zero, List.set_cons_succ]
            refine rg_step 28 rfl (by kernel_rfl) (by rfl) (fun K hK => ?_)
            go_simp
            refine (playRs_any (HM.out.1.ex.later (H2.out.2.2.trans (Below.mono hS H2.out.2.2.size)) (Nat.le_refl _)) HM.out.2.ex).mono ?_
            rintro e u11 ⟨Ae, ne, ce, xe, rfl, Se, le, pe, bK⟩
            have ltSe := G.lt
            have ya := za
            have yu := zu
            have zb := bK.size
            replace za := Nat.le_trans za bK.size
            replace zu := Nat.le_trans zu bK.size
            have ze := Nat.le_refl u11.heap.size
            replace G := G.later bK (Nat.le_refl _)
            replace bA := bA.trans (bK.mono bA.size)
            replace hS := hS.trans (bK.mono hS.size)
            clear bK
            refine hK.out _ _ hS ?_
            clear hK K
            try simp only [Act.put, List.setIfInBounds_toArray, List.set_cons_zero, List.set_cons_succ]
            refine rg_step 29 rfl (by kernel_rfl) (by rfl) (fun K hK => ?_)
            refine wp_build_ms8 (.tmp 8) (.tmp 10) (.tmp 15) (.tmp 20) (.tmp 25) (.tmp 28) (.tmp 31) (.tmp 34) rfl ⟨wrap64 ((IntKind.u64.wrap m.h.id).tmod 65536), m.h.reply, IntKind.i64.wrap ((IntKind.u64.wrap m.h.opcode).tmod 16), IntKind.i64.wrap ((IntKind.u64.wrap m.h.code).tmod 16), IntKind.i64.wrap ((IntKind.u64.wrap m.h.flags).tmod 128)⟩ ⟨Aa, na, ca⟩ ⟨Au, nu, cu⟩ ⟨Ae, ne, ce⟩ rfl rfl rfl rfl rfl rfl rfl rfl ?_
            obtain ⟨MH, hMH⟩ : ∃ MH : Mh, MH = ⟨wrap64 ((IntKind.u64.wrap m.h.id).tmod 65536), m.h.reply, IntKind.i64.wrap ((IntKind.u64.wrap m.h.opcode).tmod 16), IntKind.i64.wrap ((IntKind.u64.wrap m.h.code).tmod 16), IntKind.i64.wrap ((IntKind.u64.wrap m.h.flags).tmod 128)⟩ := ⟨_, rfl⟩
            rw [← hMH]
            have HMH := Lib.hid hMH
            clear hMH
            obtain ⟨X, hX⟩ : ∃ X, Value.agg (msv MH .zero ⟨Aa, na, ca⟩ ⟨Au, nu, cu⟩ ⟨Ae, ne, ce⟩) = X := ⟨_, rfl⟩
            rw [hX]
            have HX := Lib.hid hX
            clear hX
            refine hK.out _ _ hS ?_
            clear hK K
            try simp only [Act.put, List.setIfInBounds_toArray, List.set_cons_zero, List.set_cons_succ]
            refine rg_step 31 rfl (by kernel_rfl) (by rfl) (fun K hK => ?_)
            refine wp_store_msF (.tmp 3) (.tmp 35) rfl MH .zero ⟨Aa, na, ca⟩ ⟨Au, nu, cu⟩ ⟨Ae, ne, ce⟩ rfl HX.out.symm G ?_
            intro u13 G2 oo gg
            have bE := gg _ _ (Nat.le_refl _) bA
            have zg := (gg 0 _ (Nat.zero_le _) (Below.refl 0 _)).size
            replace za := Nat.le_trans za zg
            replace zu := Nat.le_trans zu zg
            replace ze := Nat.le_trans ze zg
            replace zb := Nat.le_trans zb zg
            have KSa := fun w' (H : Held _ u13 w') => Sa.later (H.below bE (Nat.le_refl _) G2.lt) (Nat.le_refl _)
            have KSu := fun w' (H : Held _ u13 w') => Su.later (H.below bE (Nat.le_refl _) G2.lt) (Nat.le_refl _)
            replace Se := Se.away (fun k hk => oo k (Nat.ne_of_gt (Nat.lt_of_lt_of_le ltSe hk)))
            have KSe := fun w' (H : Held _ u13 w') => Se.awayB (fun k hk hl => H.block k (Nat.ne_of_gt (Nat.lt_of_lt_of_le ltSe hk)) hl)
            replace hS := gg _ _ lG hS
            refine hK.out _ _ hS ?_
            clear hK K
            simp only [Act.put]
            refine rg_done (by kernel_rfl) ?_
            go_wp2_with fail
            go_meet
            refine ⟨_, MH, ⟨Aa, na, ca⟩, ⟨Au, nu, cu⟩, ⟨Ae, ne, ce⟩, xa, xu, xe, _, _, _, _, _, _, rfl, ?_, G2, H2.out.1.later hS (Nat.le_refl _), H2.out.2.1.later hS (Nat.le_refl _), lG, fun wy HH => ⟨KSa wy HH, KSu wy HH, (KSe wy HH).low (Nat.le_trans lG (Nat.le_of_lt ltSe))⟩, ⟨⟨la, pa⟩, ⟨lu, pu⟩, ⟨le, pe⟩⟩, ⟨ya, yu, zb, za, zu, ze⟩, H2.out.2.2.trans (Below.mono hS H2.out.2.2.size)⟩
            rw [HMH.out]
            unfold rightH
            dsimp only
            have q0 := rem_in' m.h.id 65536 (by decide)
            have q1 := rem_in m.h.opcode 16 (by decide)
            have q2 := rem_in m.h.code 16 (by decide)
            have q3 := rem_in m.h.flags 128 (by decide)
            omega
          exact AllReadyH.nil
        refine rg_or 30 rfl (by rfl) (fun K hK => ?_) ?_
        · refine wp_alloc_msF rfl ?_
          intro u14 G bA
          have lG := hS.size
          replace hS := hS.trans (bA.mono hS.size)
          replace za := Nat.le_trans za bA.size
          refine hK.out _ _ hS ?_
          clear hK K
          try simp only [Act.put, List.setIfInBounds_toArray, List.set_cons_zero, List.set_cons_succ]
          refine rg_step 25 rfl (by kernel_rfl) (by rfl) (fun K hK => ?_)
          go_simp
          refine (playRs_any (HM.out.1.au.later (H2.out.2.2.trans (Below.mono hS H2.out.2.2.size)) (Nat.le_refl _)) HM.out.2.au).mono ?_
          rintro e u15 ⟨Au, nu, cu, xu, rfl, Su, lu, pu, bK⟩
          have ltSu := G.lt
          replace za := Nat.le_trans za bK.size
          have zu := Nat.le_refl u15.heap.size
          replace G := G.later bK (Nat.le_refl _)
          replace bA := bA.trans (bK.mono bA.size)
          replace hS := hS.trans (bK.mono hS.size)
          clear bK
          refine hK.out _ _ hS ?_
          clear hK K
          try simp only [Act.put, List.setIfInBounds_toArray, List.set_cons_zero, List.set_cons_succ]
          refine rg_step 28 rfl (by kernel_rfl) (by rfl) (fun K hK => ?_)
          go_simp
          refine (playRs_any (HM.out.1.ex.later (H2.out.2.2.trans (Below.mono hS H2.out.2.2.size)) (Nat.le_refl _)) HM.out.2.ex).mono ?_
          rintro e u16 ⟨Ae, ne, ce, xe, rfl, Se, le, pe, bK⟩
          have ltSe := G.lt
          replace Su := Su.later bK (Nat.le_refl _)
          have ya := za
          have yu := zu
          have zb := bK.size
          replace za := Nat.le_trans za bK.size
          replace zu := Nat.le_trans zu bK.size
          have ze := Nat.le_refl u16.heap.size
          replace G := G.later bK (Nat.le_refl _)
          replace bA := bA.trans (bK.mono bA.size)
          replace hS := hS.trans (bK.mono hS.size)
          clear bK
          refine hK.out _ _ hS ?_
          clear hK K
          try simp only [Act.put, List.setIfInBounds_toArray, List.set_cons_zero, List.set_cons_succ]
          refine rg_step 29 rfl (by kernel_rfl) (by rfl) (fun K hK => ?_)
          refine wp_build_ms8 (.tmp 8) (.tmp 10) (.tmp 15) (.tmp 20) (.tmp 25) (.tmp 28) (.tmp 31) (.tmp 34) rfl ⟨wrap64 ((IntKind.u64.wrap m.h.id).tmod 65536), m.h.reply, IntKind.i64.wrap ((IntKind.u64.wrap m.h.opcode).tmod 16), IntKind.i64.wrap ((IntKind.u64.wrap m.h.code).tmod 16), IntKind.i64.wrap ((IntKind.u64.wrap m.h.flags).tmod 128)⟩ ⟨Aa, na, ca⟩ ⟨Au, nu, cu⟩ ⟨Ae, ne, ce⟩ rfl rfl rfl rfl rfl rfl rfl rfl ?_
          obtain ⟨MH, hMH⟩ : ∃ MH : Mh, MH = ⟨wrap64 ((IntKind.u64.wrap m.h.id).tmod 65536), m.h.reply, IntKind.i64.wrap ((IntKind.u64.wrap m.h.opcode).tmod 16), IntKind.i64.wrap ((IntKind.u64.wrap m.h.code).tmod 16), IntKind.i64.wrap ((IntKind.u64.wrap m.h.flags).tmod 128)⟩ := ⟨_, rfl⟩
          rw [← hMH]
          have HMH := Lib.hid hMH
          clear hMH
          obtain ⟨X, hX⟩ : ∃ X, Value.agg (msv MH .zero ⟨Aa, na, ca⟩ ⟨Au, nu, cu⟩ ⟨Ae, ne, ce⟩) = X := ⟨_, rfl⟩
          rw [hX]
          have HX := Lib.hid hX
          clear hX
          refine hK.out _ _ hS ?_
          clear hK K
          try simp only [Act.put, List.setIfInBounds_toArray, List.set_cons_zero, List.set_cons_succ]
          refine rg_step 31 rfl (by kernel_rfl) (by rfl) (fun K hK => ?_)
          refine wp_store_msF (.tmp 3) (.tmp 35) rfl MH .zero ⟨Aa, na, ca⟩ ⟨Au, nu, cu⟩ ⟨Ae, ne, ce⟩ rfl HX.out.symm G ?_
          intro u18 G2 oo gg
          have bE := gg _ _ (Nat.le_refl _) bA
          have zg := (gg 0 _ (Nat.zero_le _) (Below.refl 0 _)).size
          replace za := Nat.le_trans za zg
          replace zu := Nat.le_trans zu zg
          replace ze := Nat.le_trans ze zg
          replace zb := Nat.le_trans zb zg
          have KSa := fun w' (H : Held _ u18 w') => Sa.later (H.below bE (Nat.le_refl _) G2.lt) (Nat.le_refl _)
          replace Su := Su.away (fun k hk => oo k (Nat.ne_of_gt (Nat.lt_of_lt_of_le ltSu hk)))
          have KSu := fun w' (H : Held _ u18 w') => Su.awayB (fun k hk hl => H.block k (Nat.ne_of_gt (Nat.lt_of_lt_of_le ltSu hk)) hl)
          replace Se := Se.away (fun k hk => oo k (Nat.ne_of_gt (Nat.lt_of_lt_of_le ltSe hk)))
          have KSe := fun w' (H : Held _ u18 w') => Se.awayB (fun k hk hl => H.block k (Nat.ne_of_gt (Nat.lt_of_lt_of_le ltSe hk)) hl)
          replace hS := gg _ _ lG hS
          refine hK.out _ _ hS ?_
          clear hK K
          simp only [Act.put]
          refine rg_done (by kernel_rfl) ?_
          go_wp2_with fail
          go_meet
          refine ⟨_, MH, ⟨Aa, na, ca⟩, ⟨Au, nu, cu⟩, ⟨Ae, ne, ce⟩, xa, xu, xe, _, _, _, _, _, _, rfl, ?_, G2, H2.out.1.later hS (Nat.le_refl _), H2.out.2.1.later hS (Nat.le_refl _), lG, fun wy HH => ⟨KSa wy HH, (KSu wy HH).low (Nat.le_trans lG (Nat.le_of_lt ltSu)), (KSe wy HH).low (Nat.le_trans lG (Nat.le_of_lt ltSe))⟩, ⟨⟨la, pa⟩, ⟨lu, pu⟩, ⟨le, pe⟩⟩, ⟨ya, yu, zb, za, zu, ze⟩, H2.out.2.2.trans (Below.mono hS H2.out.2.2.size)⟩
          rw [HMH.out]
          unfold rightH
          dsimp only
          have q0 := rem_in' m.h.id 65536 (by decide)
          have q1 := rem_in m.h.opcode 16 (by decide)
          have q2 := rem_in m.h.code 16 (by decide)
          have q3 := rem_in m.h.flags 128 (by decide)
          omega
        exact AllReadyH.nil
      refine rg_or 30 rfl (by rfl) (fun K hK => ?_) ?_
      · refine wp_alloc_msF rfl ?_
        intro u19 G bA
        have lG := hS.size
        replace hS := hS.trans (bA.mono hS.size)
        refine hK.out _ _ hS ?_
        clear hK K
        try simp only [Act.put, List.setIfInBounds_toArray, List.set_cons_zero, List.set_cons_succ]
        refine rg_step 22 rfl (by kernel_rfl) (by rfl) (fun K hK => ?_)
        go_simp
        refine (playRs_any (HM.out.1.an.later (H2.out.2.2.trans (Below.mono hS H2.out.2.2.size)) (Nat.le_refl _)) HM.out.2.an).mono ?_
        rintro e u20 ⟨Aa, na, ca, xa, rfl, Sa, la, pa, bK⟩
        have ltSa := G.lt
        have za := Nat.le_refl u20.heap.size
        replace G := G.later bK (Nat.le_refl _)
        replace bA := bA.trans (bK.mono bA.size)
        replace hS := hS.trans (bK.mono hS.size)
        clear bK
        refine hK.out _ _ hS ?_
        clear hK K
        try simp only [Act.put, List.setIfInBounds_toArray, List.set_cons_zero, List.set_cons_succ]
        refine rg_step 25 rfl (by kernel_rfl) (by rfl) (fun K hK => ?_)
        go_simp
        refine (playRs_any (HM.out.1.au.later (H2.out.2.2.trans (Below.mono hS H2.out.2.2.size)) (Nat.le_refl _)) HM.out.2.au).mono ?_
        rintro e u21 ⟨Au, nu, cu, xu, rfl, Su, lu, pu, bK⟩
        have ltSu := G.lt
        replace Sa := Sa.later bK (Nat.le_refl _)
        replace za := Nat.le_trans za bK.size
        have zu := Nat.le_refl u21.heap.size
        replace G := G.later bK (Nat.le_refl _)
        replace bA := bA.trans (bK.mono bA.size)
        replace hS := hS.trans (bK.mono hS.size)
        clear bK
        refine hK.out _ _ hS ?_
        clear hK K
        try simp only [Act.put, List.setIfInBounds_toArray, List.set_cons_zero, List.set_cons_succ]
        refine rg_step 28 rfl (by kernel_rfl) (by rfl) (fun K hK => ?_)
        go_simp
        refine (playRs_any (HM.out.1.ex.later (H2.out.2.2.trans (Below.mono hS H2.out.2.2.size)) (Nat.le_refl _)) HM.out.2.ex).mono ?_
        rintro e u22 ⟨Ae, ne, ce, xe, rfl, Se, le, pe, bK⟩
        have ltSe := G.lt
        replace Sa := Sa.later bK (Nat.le_refl _)
        replace Su := Su.later bK (Nat.le_refl _)
        have ya := za
        have yu := zu
        have zb := bK.size
        replace za := Nat.le_trans za bK.size
        replace zu := Nat.le_trans zu bK.size
        have ze := Nat.le_refl u22.heap.size
        replace G := G.later bK (Nat.le_refl _)
        replace bA := bA.trans (bK.mono bA.size)
        replace hS := hS.trans (bK.mono hS.size)
        clear bK
        refine hK.out _ _ hS ?_
        clear hK K
        try simp only [Act.put, List.setIfInBounds_toArray, List.set_cons_zero, List.set_cons_succ]
        refine rg_step 29 rfl (by kernel_rfl) (by rfl) (fun K hK => ?_)
        refine wp_build_ms8 (.tmp 8) (.tmp 10) (.tmp 15) (.tmp 20) (.tmp 25) (.tmp 28) (.tmp 31) (.tmp 34) rfl ⟨wrap64 ((IntKind.u64.wrap m.h.id).tmod 65536), m.h.reply, IntKind.i64.wrap ((IntKind.u64.wrap m.h.opcode).tmod 16), IntKind.i64.wrap ((IntKind.u64.wrap m.h.code).tmod 16), IntKind.i64.wrap ((IntKind.u64.wrap m.h.flags).tmod 128)⟩ ⟨Aa, na, ca⟩ ⟨Au, nu, cu⟩ ⟨Ae, ne, ce⟩ rfl rfl rfl rfl rfl rfl rfl rfl ?_
        obtain ⟨MH, hMH⟩ : ∃ MH : Mh, MH = ⟨wrap64 ((IntKind.u64.wrap m.h.id).tmod 65536), m.h.reply, IntKind.i64.wrap ((IntKind.u64.wrap m.h.opcode).tmod 16), IntKind.i64.wrap ((IntKind.u64.wrap m.h.code).tmod 16), IntKind.i64.wrap ((IntKind.u64.wrap m.h.flags).tmod 128)⟩ := ⟨_, rfl⟩
        rw [← hMH]
        have HMH := Lib.hid hMH
        clear hMH
        obtain ⟨X, hX⟩ : ∃ X, Value.agg (msv MH .zero ⟨Aa, na, ca⟩ ⟨Au, nu, cu⟩ ⟨Ae, ne, ce⟩) = X := ⟨_, rfl⟩
        rw [hX]
        have HX := Lib.hid hX
        clear hX
        refine hK.out _ _ hS ?_
        clear hK K
        try simp only [Act.put, List.setIfInBounds_toArray, List.set_cons_zero, List.set_cons_succ]
        refine rg_step 31 rfl (by kernel_rfl) (by rfl) (fun K hK => ?_)
        refine wp_store_msF (.tmp 3) (.tmp 35) rfl MH .zero ⟨Aa, na, ca⟩ ⟨Au, nu, cu⟩ ⟨Ae, ne, ce⟩ rfl HX.out.symm G ?_
        intro u24 G2 oo gg
        have bE := gg _ _ (Nat.le_refl _) bA
        have zg := (gg 0 _ (Nat.zero_le _) (Below.refl 0 _)).size
        replace za := Nat.le_trans za zg
        replace zu := Nat.le_trans zu zg
        replace ze := Nat.le_trans ze zg
        replace zb := Nat.le_trans zb zg
        replace Sa := Sa.away (fun k hk => oo k (Nat.ne_of_gt (Nat.lt_of_lt_of_le ltSa hk)))
        have KSa := fun w' (H : Held _ u24 w') => Sa.awayB (fun k hk hl => H.block k (Nat.ne_of_gt (Nat.lt_of_lt_of_le ltSa hk)) hl)
        replace Su := Su.away (fun k hk => oo k (Nat.ne_of_gt (Nat.lt_of_lt_of_le ltSu hk)))
        have KSu := fun w' (H : Held _ u24 w') => Su.awayB (fun k hk hl => H.block k (Nat.ne_of_gt (Nat.lt_of_lt_of_le ltSu hk)) hl)
        replace Se := Se.away (fun k hk => oo k (Nat.ne_of_gt (Nat.lt_of_lt_of_le ltSe hk)))
        have KSe := fun w' (H : Held _ u24 w') => Se.awayB (fun k hk hl => H.block k (Nat.ne_of_gt (Nat.lt_of_lt_of_le ltSe hk)) hl)
        replace hS := gg _ _ lG hS
        refine hK.out _ _ hS ?_
        clear hK K
        simp only [Act.put]
        refine rg_done (by kernel_rfl) ?_
        go_wp2_with fail
        go_meet
        refine ⟨_, MH, ⟨Aa, na, ca⟩, ⟨Au, nu, cu⟩, ⟨Ae, ne, ce⟩, xa, xu, xe, _, _, _, _, _, _, rfl, ?_, G2, H2.out.1.later hS (Nat.le_refl _), H2.out.2.1.later hS (Nat.le_refl _), lG, fun wy HH => ⟨(KSa wy HH).low (Nat.le_trans lG (Nat.le_of_lt ltSa)), (KSu wy HH).low (Nat.le_trans lG (Nat.le_of_lt ltSu)), (KSe wy HH).low (Nat.le_trans lG (Nat.le_of_lt ltSe))⟩, ⟨⟨la, pa⟩, ⟨lu, pu⟩, ⟨le, pe⟩⟩, ⟨ya, yu, zb, za, zu, ze⟩, H2.out.2.2.trans (Below.mono hS H2.out.2.2.size)⟩
        rw [HMH.out]
        unfold rightH
        dsimp only
        have q0 := rem_in' m.h.id 65536 (by decide)
        have q1 := rem_in m.h.opcode 16 (by decide)
        have q2 := rem_in m.h.code 16 (by decide)
        have q3 := rem_in m.h.flags 128 (by decide)
        omega
      exact AllReadyH.nil
    refine rg_or 30 rfl (by rfl) (fun K hK => ?_) ?_
    · refine wp_alloc_msF rfl ?_
      intro u25 G bA
      have lG := hS.size
      replace hS := hS.trans (bA.mono hS.size)
      refine hK.out _ _ hS ?_
      clear hK K
      try simp only [Act.put, List.setIfInBounds_toArray, List.set_cons_zero, List.set_cons_succ]
      refine rg_step 2 rfl (by kernel_rfl) (by rfl) (fun K hK => ?_)
      go_simp
      refine (port_below _ _).mono ?_
      rintro e u26 ⟨rfl, bK⟩
      replace G := G.later bK (Nat.le_refl _)
      replace bA := bA.trans (bK.mono bA.size)
      replace hS := hS.trans (bK.mono hS.size)
      clear bK
      refine hK.out _ _ hS ?_
      clear hK K
      try simp only [Act.put, List.setIfInBounds_toArray, List.set_cons_zero, List.set_cons_succ]
      refine rg_step 22 rfl (by kernel_rfl) (by rfl) (fun K hK => ?_)
      go_simp
      refine (playRs_any (HM.out.1.an.later (H2.out.2.2.trans (Below.mono hS H2.out.2.2.size)) (Nat.le_refl _)) HM.out.2.an).mono ?_
      rintro e u27 ⟨Aa, na, ca, xa, rfl, Sa, la, pa, bK⟩
      have ltSa := G.lt
      have za := Nat.le_refl u27.heap.size
      replace G := G.later bK (Nat.le_refl _)
      replace bA := bA.trans (bK.mono bA.size)
      replace hS := hS.trans (bK.mono hS.size)
      clear bK
      refine hK.out _ _ hS ?_
      clear hK K
      try simp only [Act.put, List.setIfInBounds_toArray, List.set_cons_zero, List.set_cons_succ]
      refine rg_step 25 rfl (by kernel_rfl) (by rfl) (fun K hK => ?_)
      go_simp
      refine (playRs_any (HM.out.1.au.later (H2.out.2.2.trans (Below.mono hS H2.out.2.2.size)) (Nat.le_refl _)) HM.out.2.au).mono ?_
      rintro e u28 ⟨Au, nu, cu, xu, rfl, Su, lu, pu, bK⟩
      have ltSu := G.lt
      replace Sa := Sa.later bK (Nat.le_refl _)
      replace za := Nat.le_trans za bK.size
      have zu := Nat.le_refl u28.heap.size
      replace G := G.later bK (Nat.le_refl _)
      replace bA := bA.trans (bK.mono bA.size)
      replace hS := hS.trans (bK.mono hS.size)
      clear bK
      refine hK.out _ _ hS ?_
      clear hK K
      try simp only [Act.put, List.setIfInBounds_toArray, List.set_cons_zero, List.set_cons_succ]
      refine rg_step 28 rfl (by kernel_rfl) (by rfl) (fun K hK => ?_)
      go_simp
      refine (playRs_any (HM.out.1.ex.later (H2.out.2.2.trans (Below.mono hS H2.out.2.2.size)) (Nat.le_refl _)) HM.out.2.ex).mono ?_
      rintro e u29 ⟨Ae, ne, ce, xe, rfl, Se, le, pe, bK⟩
      have ltSe := G.lt
      replace Sa := Sa.later bK (Nat.le_refl _)
      replace Su := Su.later bK (Nat.le_refl _)
      have ya := za
      have yu := zu
      have zb := bK.size
      replace za := Nat.le_trans za bK.size
      replace zu := Nat.le_trans zu bK.size
      have ze := Nat.le_refl u29.heap.size
      replace G := G.later bK (Nat.le_refl _)
      replace bA := bA.trans (bK.mono bA.size)
      replace hS := hS.trans (bK.mono hS.size)
      clear bK
      refine hK.out _ _ hS ?_
      clear hK K
      try simp only [Act.put, List.setIfInBounds_toArray, List.set_cons_zero, List.set_cons_succ]
      refine rg_step 29 rfl (by kernel_rfl) (by rfl) (fun K hK => ?_)
      refine wp_build_ms8 (.tmp 8) (.tmp 10) (.tmp 15) (.tmp 20) (.tmp 25) (.tmp 28) (.tmp 31) (.tmp 34) rfl ⟨wrap64 ((IntKind.u64.wrap m.h.id).tmod 65536), m.h.reply, IntKind.i64.wrap ((IntKind.u64.wrap m.h.opcode).tmod 16), IntKind.i64.wrap ((IntKind.u64.wrap m.h.code).tmod 16), IntKind.i64.wrap ((IntKind.u64.wrap m.h.flags).tmod 128)⟩ ⟨Aa, na, ca⟩ ⟨Au, nu, cu⟩ ⟨Ae, ne, ce⟩ rfl rfl rfl rfl rfl rfl rfl rfl ?_
      obtain ⟨MH, hMH⟩ : ∃ MH : Mh, MH = ⟨wrap64 ((IntKind.u64.wrap m.h.id).tmod 65536), m.h.reply, IntKind.i64.wrap ((IntKind.u64.wrap m.h.opcode).tmod 16), IntKind.i64.wrap ((IntKind.u64.wrap m.h.code).tmod 16), IntKind.i64.wrap ((IntKind.u64.wrap m.h.flags).tmod 128)⟩ := ⟨_, rfl⟩
      rw [← hMH]
      have HMH := Lib.hid hMH
      clear hMH
      obtain ⟨X, hX⟩ : ∃ X, Value.agg (msv MH .zero ⟨Aa, na, ca⟩ ⟨Au, nu, cu⟩ ⟨Ae, ne, ce⟩) = X := ⟨_, rfl⟩
      rw [hX]
      have HX := Lib.hid hX
      clear hX
      refine hK.out _ _ hS ?_
      clear hK K
      try simp only [Act.put, List.setIfInBounds_toArray, List.set_cons_zero, List.set_cons_succ]
      refine rg_step 31 rfl (by kernel_rfl) (by rfl) (fun K hK => ?_)
      refine wp_store_msF (.tmp 3) (.tmp 35) rfl MH .zero ⟨Aa, na, ca⟩ ⟨Au, nu, cu⟩ ⟨Ae, ne, ce⟩ rfl HX.out.symm G ?_
      intro u31 G2 oo gg
      have bE := gg _ _ (Nat.le_refl _) bA
      have zg := (gg 0 _ (Nat.zero_le _) (Below.refl 0 _)).size
      replace za := Nat.le_trans za zg
      replace zu := Nat.le_trans zu zg
      replace ze := Nat.le_trans ze zg
      replace zb := Nat.le_trans zb zg
      replace Sa := Sa.away (fun k hk => oo k (Nat.ne_of_gt (Nat.lt_of_lt_of_le ltSa hk)))
      have KSa := fun w' (H : Held _ u31 w') => Sa.awayB (fun k hk hl => H.block k (Nat.ne_of_gt (Nat.lt_of_lt_of_le ltSa hk)) hl)
      replace Su := Su.away (fun k hk => oo k (Nat.ne_of_gt (Nat.lt_of_lt_of_le ltSu hk)))
      have KSu := fun w' (H : Held _ u31 w') => Su.awayB (fun k hk hl => H.block k (Nat.ne_of_gt (Nat.lt_of_lt_of_le ltSu hk)) hl)
      replace Se := Se.away (fun k hk => oo k (Nat.ne_of_gt (Nat.lt_of_lt_of_le ltSe hk)))
      have KSe := fun w' (H : Held _ u31 w') => Se.awayB (fun k hk hl => H.block k (Nat.ne_of_gt (Nat.lt_of_lt_of_le ltSe hk)) hl)
      replace hS := gg _ _ lG hS
      refine hK.out _ _ hS ?_
      clear hK K
      simp only [Act.put]
      refine rg_done (by kernel_rfl) ?_
      go_wp2_with fail
      go_meet
      refine ⟨_, MH, ⟨Aa, na, ca⟩, ⟨Au, nu, cu⟩, ⟨Ae, ne, ce⟩, xa, xu, xe, _, _, _, _, _, _, rfl, ?_, G2, H2.out.1.later hS (Nat.le_refl _), H2.out.2.1.later hS (Nat.le_refl _), lG, fun wy HH => ⟨(KSa wy HH).low (Nat.le_trans lG (Nat.le_of_lt ltSa)), (KSu wy HH).low (Nat.le_trans lG (Nat.le_of_lt ltSu)), (KSe wy HH).low (Nat.le_trans lG (Nat.le_of_lt ltSe))⟩, ⟨⟨la, pa⟩, ⟨lu, pu⟩, ⟨le, pe⟩⟩, ⟨ya, yu, zb, za, zu, ze⟩, H2.out.2.2.trans (Below.mono hS H2.out.2.2.size)⟩
      rw [HMH.out]
      unfold rightH
      dsimp only
      have q0 := rem_in' m.h.id 65536 (by decide)
      have q1 := rem_in m.h.opcode 16 (by decide)
      have q2 := rem_in m.h.code 16 (by decide)
      have q3 := rem_in m.h.flags 128 (by decide)
      omega
    exact AllReadyH.nil
    -->>
  case rest =>
    obtain ⟨wx, rfl⟩ : ∃ wx, wx = wc := ⟨_, rfl⟩
    obtain ⟨g, mh, ta, tu, te, xa, xu, xe, ba, ha, bu, hu, be, he, rfl, hrh, b1, b2, b3, hgl, hcl, ⟨p1, p2, p3⟩, hzz, hbe⟩ := hcut
    have HZZ := Lib.hid hzz
    clear hzz
    have hgw : g < wx.heap.size := b1.lt
    have hW2 : W.heap.size < w2.heap.size := H2.out.2.1.lt
    have hw2 : w.heap.size < w2.heap.size := H2.out.1.lt
    have HC := Lib.hid (And.intro b2 (And.intro b3 (And.intro (And.intro p1 (And.intro p2 p3)) (And.intro hrh hbe))))
    have HCL := Lib.hid hcl
    have KB : ∀ wr, Held g wx wr → Below w.heap.size w wr := fun wr h => h.below HC.out.2.2.2.2 (by omega) hgw
    have K5 : ∀ wr, Held g wx wr → wr.cell? ⟨w.heap.size, 5, none⟩ = some (.slice sq.A sq.n sq.c) := fun wr h => (HC.out.1.same (h.block _ (by omega) HC.out.1.lt)).cell 5
    have HKB := Lib.hid KB
    have HK5 := Lib.hid K5
    clear b2 b3 p1 p2 p3 hrh hbe hcl KB K5
    go_wp2_with fail
    go_loopw [4] (fun i wr => ∃ (k : Nat) (s : Sl) (qs : List Qs), k ≤ sq.n ∧ k ≤ 4 ∧ i = .int .i64 k ∧ qs.length = k ∧ (∀ q ∈ qs, Play1q q) ∧ QsO wr wx.heap.size (.slice s.A s.n s.c) qs ∧ MsBox wr g mh s ta tu te ∧ Held g wx wr) (fun i _ => 4 - (intOf i).toNat)
    case atStart => exact ⟨0, .zero, [], Nat.zero_le _, Nat.zero_le _, rfl, rfl, (fun y h => by cases h), QsO.nil _ _, b1, Held.refl _ _⟩
    case round =>
      obtain ⟨k, s, qs, hk, hk4, rfl, hql2, hqp, ho, hms, hh⟩ := hrel
      have k5 := HK5.out _ hh
      have HO := Lib.hid (And.intro ho (And.intro hms (And.intro hqp hh)))
      clear ho hms hqp hh
      by_cases hlt : k < sq.n ∧ k < 4
      · obtain ⟨h1, h2⟩ := hlt
        obtain ⟨x, hx⟩ : ∃ x, m.qs[k]? = some x := ⟨m.qs[k]'(by omega), List.getElem?_eq_getElem _⟩
        have hxm := List.mem_of_getElem? hx
        have hsx := HM.out.2.qs x hxm
        obtain ⟨b, off, hA, hr, _⟩ := (HM.out.1.qs.later (HKB.out _ HO.out.2.2.2) (Nat.le_refl _)).here k x hx
        rw [hA] at k5
        have HR := Lib.hid hr
        have KN := Lib.hid (fun w1 => (by have h := playName_any (mkS x.name) (by simpa [mkS, ByteArray.size] using hsx) w1; rwa [mkS_data] at h : Calls Tryz.prog 47 #[.string (mkS x.name)] w1 fun e w' => e = .returned (.string (mkS (playN x.name))) ∧ Below w1.heap.size w1 w'))
        clear hx hr hsx hxm hA
        --<< c
        go_wp2_with (first
          | (refine wpList_store_qs rfl (.tmp 5) (.tmp 51) rfl x rfl rfl H5.out.1 ?_; intro w6 a6 o6 z6 g6; have b6 := g6 _ _ (Nat.le_refl _) H5.out.2; have H6 := Lib.hid (And.intro a6 (And.intro (HO.out.1.later b6) (And.intro (HO.out.2.1.later b6 (Nat.le_refl _)) (HO.out.2.2.2.later b6)))); clear a6 o6 z6 g6 b6)
          | (refine wpList_alloc_qs rfl rfl ?_; intro w5 a5 b5 z5; have H5 := Lib.hid (And.intro a5 b5); clear a5 b5 z5)
          | (refine wpList_load_mid rfl 51 (.tmp 50) rfl b (off + k * 3) rfl (qsv x).toList _ HR.out Tryz.underlying51 rfl (by simpa using qs_size x) ?_; rw [Array.toArray_toList]))
        have hown : ∀ j, (Value.slice s.A s.n s.c).ownBlock = some j → wx.heap.size ≤ j ∧ j < wr.heap.size := fun j e => World.ownsRow.lt HO.out.1 j e
        have hwr := HO.out.2.2.2.size
        have hD : Below w6.heap.size w6 w6.drew := (Below.refl _ _).drew
        have hO := H6.out.2.1.later hD
        have hM := H6.out.2.2.1.later hD (Nat.le_refl _)
        have hS : Held g wx w6.drew ∧ QsBox w6.drew wr.heap.size x := ⟨H6.out.2.2.2.later hD, H6.out.1.later hD (Nat.le_refl _)⟩
        obtain ⟨w7, hw7⟩ : ∃ w7, w6.drew = w7 := ⟨_, rfl⟩
        have q0 : ∀ w', (Held g wx w' ∧ QsBox w' wr.heap.size x) → w'.cell? ⟨wr.heap.size, 0, none⟩ = some (.string (mkS x.name)) := fun w' h => h.2.cell 0
        have q1 : ∀ w', (Held g wx w' ∧ QsBox w' wr.heap.size x) → w'.cell? ⟨wr.heap.size, 1, none⟩ = some (.int .i64 x.kind) := fun w' h => h.2.cell 1
        have q2 : ∀ w', (Held g wx w' ∧ QsBox w' wr.heap.size x) → w'.cell? ⟨wr.heap.size, 2, none⟩ = some (.int .i64 x.cls) := fun w' h => h.2.cell 2
        refine rg_begin (fun w' => Held g wx w' ∧ QsBox w' wr.heap.size x) 16 (by kernel_rfl) rfl ?_
        rw [hw7] at hO hM hS ⊢
        clear hw7 hD
        refine rg_take 0 (v := ?rv26) rfl (by kernel_rfl) (by kernel_rfl) (by kernel_rfl) (fun _ _ _ h => h) (by rfl) hS (fun w2 hw2 => ?ry26) ?rr26
        case ry26 => ((try dsimp only at hw2); go_simp <;> with_reducible rfl)
        simp only [Act.put, List.setIfInBounds_toArray, List.set_cons_zero, List.set_cons_succ]
        refine rg_take 2 (v := ?rv27) rfl (by kernel_rfl) (by kernel_rfl) (by kernel_rfl) (fun _ _ _ h => h) (by rfl) hS (fun w2 hw2 => ?ry27) ?rr27
        case ry27 => ((try dsimp only at hw2); go_simp <;> with_reducible rfl)
        simp only [Act.put, List.setIfInBounds_toArray, List.set_cons_zero, List.set_cons_succ]
        refine rg_take 5 (v := ?rv28) rfl (by kernel_rfl) (by kernel_rfl) (by kernel_rfl) (fun _ _ _ h => h) (by rfl) hS (fun w2 hw2 => ?ry28) ?rr28
        case ry28 => ((try dsimp only at hw2); go_simp <;> with_reducible rfl)
        simp only [Act.put, List.setIfInBounds_toArray, List.set_cons_zero, List.set_cons_succ]
        refine rg_take 8 (v := ?rv29) rfl (by kernel_rfl) (by kernel_rfl) (by kernel_rfl) (fun _ _ _ h => h) (by rfl) hS (fun w2 hw2 => ?ry29) ?rr29
        case ry29 => ((try dsimp only at hw2); go_simp <;> with_reducible rfl)
        simp only [Act.put, List.setIfInBounds_toArray, List.set_cons_zero, List.set_cons_succ]
        refine rg_take 3 (v := ?rv30) rfl (by kernel_rfl) (by kernel_rfl) (by kernel_rfl) (fun _ _ _ h => h) (by rfl) hS (fun w2 hw2 => ?ry30) ?rr30
        case ry30 => ((try dsimp only at hw2); go_simp <;> with_reducible rfl)
        simp only [Act.put, List.setIfInBounds_toArray, List.set_cons_zero, List.set_cons_succ]
        refine rg_take 6 (v := ?rv31) rfl (by kernel_rfl) (by kernel_rfl) (by kernel_rfl) (fun _ _ _ h => h) (by rfl) hS (fun w2 hw2 => ?ry31) ?rr31
        case ry31 => ((try dsimp only at hw2); go_simp <;> with_reducible rfl)
        simp only [Act.put, List.setIfInBounds_toArray, List.set_cons_zero, List.set_cons_succ]
        refine rg_take 9 (v := ?rv32) rfl (by kernel_rfl) (by kernel_rfl) (by kernel_rfl) (fun _ _ _ h => h) (by rfl) hS (fun w2 hw2 => ?ry32) ?rr32
        case ry32 => ((try dsimp only at hw2); go_simp <;> with_reducible rfl)
        simp only [Act.put, List.setIfInBounds_toArray, List.set_cons_zero, List.set_cons_succ]
        clear q0 q1 q2
        refine rg_any [1, 4] (by kernel_rfl) (by simp) ?_
        refine rg_or 1 rfl (by rfl) (fun K hK => ?_) ?_
        · have kg : w7.cell? ⟨g, 5, none⟩ = some (.slice s.A s.n s.c) := hM.cell 5
          go_simp
          clear kg
          refine hK.out _ _ hS ?_
          clear hK K
          try simp only [Act.put, List.setIfInBounds_toArray, List.set_cons_zero, List.set_cons_succ]
          refine rg_step 4 rfl (by kernel_rfl) (by rfl) (fun K hK => ?_)
          go_simp
          refine (KN.out _).mono ?_
          rintro e v1_1 ⟨rfl, bK⟩
          replace hO := hO.later bK
          replace hM := hM.later bK (Nat.le_refl _)
          replace hS : Held g wx v1_1 ∧ QsBox v1_1 wr.heap.size x := ⟨hS.1.later bK, hS.2.later bK (Nat.le_refl _)⟩
          clear bK
          refine hK.out _ _ hS ?_
          clear hK K
          try simp only [Act.put, List.setIfInBounds_toArray, List.set_cons_zero, List.set_cons_succ]
          refine rg_step 7 rfl (by kernel_rfl) (by rfl) (fun K hK => ?_)
          go_simp
          refine (port_below _ _).mono ?_
          rintro e v2_1 ⟨rfl, bK⟩
          replace hO := hO.later bK
          replace hM := hM.later bK (Nat.le_refl _)
          replace hS : Held g wx v2_1 ∧ QsBox v2_1 wr.heap.size x := ⟨hS.1.later bK, hS.2.later bK (Nat.le_refl _)⟩
          clear bK
          refine hK.out _ _ hS ?_
          clear hK K
          try simp only [Act.put, List.setIfInBounds_toArray, List.set_cons_zero, List.set_cons_succ]
          refine rg_step 10 rfl (by kernel_rfl) (by rfl) (fun K hK => ?_)
          go_simp
          refine (port_below _ _).mono ?_
          rintro e v3_1 ⟨rfl, bK⟩
          replace hO := hO.later bK
          replace hM := hM.later bK (Nat.le_refl _)
          replace hS : Held g wx v3_1 ∧ QsBox v3_1 wr.heap.size x := ⟨hS.1.later bK, hS.2.later bK (Nat.le_refl _)⟩
          clear bK
          refine hK.out _ _ hS ?_
          clear hK K
          try simp only [Act.put, List.setIfInBounds_toArray, List.set_cons_zero, List.set_cons_succ]
          refine rg_step 11 rfl (by kernel_rfl) (by rfl) (fun K hK => ?_)
          refine wp_build_qs (.tmp 56) (.tmp 59) (.tmp 62) rfl ⟨playN x.name, wrap64 ((IntKind.u64.wrap x.kind).tmod 65536), wrap64 ((IntKind.u64.wrap x.cls).tmod 65536)⟩ rfl rfl rfl ?_
          obtain ⟨Y, hY⟩ : ∃ Y : Value, Value.agg (qsv ⟨playN x.name, wrap64 ((IntKind.u64.wrap x.kind).tmod 65536), wrap64 ((IntKind.u64.wrap x.cls).tmod 65536)⟩) = Y := ⟨_, rfl⟩
          rw [hY]
          have HY := Lib.hid hY
          clear hY
          refine hK.out _ _ hS ?_
          clear hK K
          try simp only [Act.put, List.setIfInBounds_toArray, List.set_cons_zero, List.set_cons_succ]
          refine rg_step 12 rfl (by kernel_rfl) (by rfl) (fun K hK => ?_)
          refine wp_lit1 23 51 (.tmp 63) rfl (qsv ⟨playN x.name, wrap64 ((IntKind.u64.wrap x.kind).tmod 65536), wrap64 ((IntKind.u64.wrap x.cls).tmod 65536)⟩) HY.out.symm infoQ rfl (by decide) (by decide) Tryz.underlying23 ?_
          have bK : Below v3_1.heap.size v3_1 (v3_1.alloc (.cells (qsv ⟨playN x.name, wrap64 ((IntKind.u64.wrap x.kind).tmod 65536), wrap64 ((IntKind.u64.wrap x.cls).tmod 65536)⟩) 51)) := (Below.refl _ _).alloc (Nat.le_refl _) _
          have hQ := QsBox.new v3_1 ⟨playN x.name, wrap64 ((IntKind.u64.wrap x.kind).tmod 65536), wrap64 ((IntKind.u64.wrap x.cls).tmod 65536)⟩
          obtain ⟨v5_1, hu⟩ : ∃ u, v3_1.alloc (.cells (qsv ⟨playN x.name, wrap64 ((IntKind.u64.wrap x.kind).tmod 65536), wrap64 ((IntKind.u64.wrap x.cls).tmod 65536)⟩) 51) = u := ⟨_, rfl⟩
          rw [hu] at bK hQ ⊢
          clear hu
          replace hO := hO.later bK
          replace hM := hM.later bK (Nat.le_refl _)
          replace hS : Held g wx v5_1 ∧ QsBox v5_1 wr.heap.size x := ⟨hS.1.later bK, hS.2.later bK (Nat.le_refl _)⟩
          clear bK
          refine hK.out _ _ hS ?_
          clear hK K
          try simp only [Act.put, List.setIfInBounds_toArray, List.set_cons_zero, List.set_cons_succ]
          refine rg_step 13 rfl (by kernel_rfl) (by rfl) (fun K hK => ?_)
          refine wp_push_qs (.tmp 53) (.tmp 64) rfl wx.heap.size _ qs rfl hO rfl hQ (by omega) hS.1.size ?_
          intro v8 u8 O8 g8
          have hM8 := hM.same (g8.block g hM.lt (fun e => by have := hown g e.symm; omega))
          replace hS : Held g wx u8 ∧ QsBox u8 wr.heap.size x := ⟨hS.1.grown g8 (fun j e => (hown j e).1), hS.2.same (g8.block wr.heap.size hS.2.lt (fun e => by have := hown _ e.symm; omega))⟩
          obtain ⟨A8, c8, rfl, _⟩ := QsS.of_own O8
          refine hK.out _ _ hS ?_
          clear hK K
          try simp only [Act.put, List.setIfInBounds_toArray, List.set_cons_zero, List.set_cons_succ]
          refine rg_take 14 (v := ?rv33) rfl (by kernel_rfl) (by kernel_rfl) (by kernel_rfl) (fun _ _ _ h => h) (by rfl) hS (fun w2 hw2 => ?ry33) ?rr33
          case ry33 => ((try dsimp only at hw2); go_simp <;> with_reducible rfl)
          simp only [Act.put, List.setIfInBounds_toArray, List.set_cons_zero, List.set_cons_succ]
          refine rg_step 15 rfl (by kernel_rfl) (by rfl) (fun K hK => ?_)
          refine wp_put_ms 23 (.tmp 66) (.tmp 65) rfl 5 ⟨A8, _, c8⟩ rfl rfl (by kernel_rfl) hM8 (by decide) (sq' := ⟨A8, _, c8⟩) (sa' := ta) (su' := tu) (se' := te) rfl ?_
          intro u9 a9 o9 g9
          have O9 : QsO u9 wx.heap.size (.slice A8 (qs ++ [(⟨playN x.name, wrap64 ((IntKind.u64.wrap x.kind).tmod 65536), wrap64 ((IntKind.u64.wrap x.cls).tmod 65536)⟩ : Qs)]).length c8) (qs ++ [(⟨playN x.name, wrap64 ((IntKind.u64.wrap x.kind).tmod 65536), wrap64 ((IntKind.u64.wrap x.cls).tmod 65536)⟩ : Qs)]) := own_same' O8 (fun j hj => o9 j (by omega))
          replace hS : Held g wx u9 ∧ QsBox u9 wr.heap.size x := ⟨hS.1.store o9 (g9 0 _ (Nat.zero_le _) (Below.refl 0 _)), hS.2.same (o9 _ (by omega))⟩
          refine hK.out _ _ hS ?_
          clear hK K
          simp only [Act.put]
          refine rg_done (by kernel_rfl) ?_
          go_wp2_with fail
          go_roundw
          case rel => exact ⟨k + 1, ⟨A8, (qs ++ [(⟨playN x.name, wrap64 ((IntKind.u64.wrap x.kind).tmod 65536), wrap64 ((IntKind.u64.wrap x.cls).tmod 65536)⟩ : Qs)]).length, c8⟩, qs ++ [(⟨playN x.name, wrap64 ((IntKind.u64.wrap x.kind).tmod 65536), wrap64 ((IntKind.u64.wrap x.cls).tmod 65536)⟩ : Qs)], by omega, by omega, by go_num, by simp [hql2], (fun z hz => by
            rcases List.mem_append.1 hz with h | h
            · exact HO.out.2.2.1 z h
            · rw [List.mem_singleton.1 h]; exact ⟨⟨(playN_right x.name).1, port_short _, port_short _⟩, (playN_right x.name).2⟩), O9, a9, hS.1⟩
          case measure => simp [intOf]; omega
        refine rg_or 4 rfl (by rfl) (fun K hK => ?_) ?_
        · go_simp
          refine (KN.out _).mono ?_
          rintro e v0_0 ⟨rfl, bK⟩
          replace hO := hO.later bK
          replace hM := hM.later bK (Nat.le_refl _)
          replace hS : Held g wx v0_0 ∧ QsBox v0_0 wr.heap.size x := ⟨hS.1.later bK, hS.2.later bK (Nat.le_refl _)⟩
          clear bK
          refine hK.out _ _ hS ?_
          clear hK K
          try simp only [Act.put, List.setIfInBounds_toArray, List.set_cons_zero, List.set_cons_succ]
          refine rg_any [1, 7] (by kernel_rfl) (by simp) ?_
          refine rg_or 1 rfl (by rfl) (fun K hK => ?_) ?_
          · have kg : v0_0.cell? ⟨g, 5, none⟩ = some (.slice s.A s.n s.c) := hM.cell 5
            go_simp
            clear kg
            refine hK.out _ _ hS ?_
            clear hK K
            try simp only [Act.put, List.setIfInBounds_toArray, List.set_cons_zero, List.set_cons_succ]
            refine rg_step 7 rfl (by kernel_rfl) (by rfl) (fun K hK => ?_)
            go_simp
            refine (port_below _ _).mono ?_
            rintro e v2_1 ⟨rfl, bK⟩
            replace hO := hO.later bK
            replace hM := hM.later bK (Nat.le_refl _)
            replace hS : Held g wx v2_1 ∧ QsBox v2_1 wr.heap.size x := ⟨hS.1.later bK, hS.2.later bK (Nat.le_refl _)⟩
            clear bK
            refine hK.out _ _ hS ?_
            clear hK K
            try simp only [Act.put, List.setIfInBounds_toArray, List.set_cons_zero, List.set_cons_succ]
            refine rg_step 10 rfl (by kernel_rfl) (by rfl) (fun K hK => ?_)
            go_simp
            refine (port_below _ _).mono ?_
            rintro e v3_1 ⟨rfl, bK⟩
            replace hO := hO.later bK
            replace hM := hM.later bK (Nat.le_refl _)
            replace hS : Held g wx v3_1 ∧ QsBox v3_1 wr.heap.size x := ⟨hS.1.later bK, hS.2.later bK (Nat.le_refl _)⟩
            clear bK
            refine hK.out _ _ hS ?_
            clear hK K
            try simp only [Act.put, List.setIfInBounds_toArray, List.set_cons_zero, List.set_cons_succ]
            refine rg_step 11 rfl (by kernel_rfl) (by rfl) (fun K hK => ?_)
            refine wp_build_qs (.tmp 56) (.tmp 59) (.tmp 62) rfl ⟨playN x.name, wrap64 ((IntKind.u64.wrap x.kind).tmod 65536), wrap64 ((IntKind.u64.wrap x.cls).tmod 65536)⟩ rfl rfl rfl ?_
            obtain ⟨Y, hY⟩ : ∃ Y : Value, Value.agg (qsv ⟨playN x.name, wrap64 ((IntKind.u64.wrap x.kind).tmod 65536), wrap64 ((IntKind.u64.wrap x.cls).tmod 65536)⟩) = Y := ⟨_, rfl⟩
            rw [hY]
            have HY := Lib.hid hY
            clear hY
            refine hK.out _ _ hS ?_
            clear hK K
            try simp only [Act.put, List.setIfInBounds_toArray, List.set_cons_zero, List.set_cons_succ]
            refine rg_step 12 rfl (by kernel_rfl) (by rfl) (fun K hK => ?_)
            refine wp_lit1 23 51 (.tmp 63) rfl (qsv ⟨playN x.name, wrap64 ((IntKind.u64.wrap x.kind).tmod 65536), wrap64 ((IntKind.u64.wrap x.cls).tmod 65536)⟩) HY.out.symm infoQ rfl (by decide) (by decide) Tryz.underlying23 ?_
            have bK : Below v3_1.heap.size v3_1 (v3_1.alloc (.cells (qsv ⟨playN x.name, wrap64 ((IntKind.u64.wrap x.kind).tmod 65536), wrap64 ((IntKind.u64.wrap x.cls).tmod 65536)⟩) 51)) := (Below.refl _ _).alloc (Nat.le_refl _) _
            have hQ := QsBox.new v3_1 ⟨playN x.name, wrap64 ((IntKind.u64.wrap x.kind).tmod 65536), wrap64 ((IntKind.u64.wrap x.cls).tmod 65536)⟩
            obtain ⟨v5_1, hu⟩ : ∃ u, v3_1.alloc (.cells (qsv ⟨playN x.name, wrap64 ((IntKind.u64.wrap x.kind).tmod 65536), wrap64 ((IntKind.u64.wrap x.cls).tmod 65536)⟩) 51) = u := ⟨_, rfl⟩
            rw [hu] at bK hQ ⊢
            clear hu
            replace hO := hO.later bK
            replace hM := hM.later bK (Nat.le_refl _)
            replace hS : Held g wx v5_1 ∧ QsBox v5_1 wr.heap.size x := ⟨hS.1.later bK, hS.2.later bK (Nat.le_refl _)⟩
            clear bK
            refine hK.out _ _ hS ?_
            clear hK K
            try simp only [Act.put, List.setIfInBounds_toArray, List.set_cons_zero, List.set_cons_succ]
            refine rg_step 13 rfl (by kernel_rfl) (by rfl) (fun K hK => ?_)
            refine wp_push_qs (.tmp 53) (.tmp 64) rfl wx.heap.size _ qs rfl hO rfl hQ (by omega) hS.1.size ?_
            intro v8 u8 O8 g8
            have hM8 := hM.same (g8.block g hM.lt (fun e => by have := hown g e.symm; omega))
            replace hS : Held g wx u8 ∧ QsBox u8 wr.heap.size x := ⟨hS.1.grown g8 (fun j e => (hown j e).1), hS.2.same (g8.block wr.heap.size hS.2.lt (fun e => by have := hown _ e.symm; omega))⟩
            obtain ⟨A8, c8, rfl, _⟩ := QsS.of_own O8
            refine hK.out _ _ hS ?_
            clear hK K
            try simp only [Act.put, List.setIfInBounds_toArray, List.set_cons_zero, List.set_cons_succ]
            refine rg_take 14 (v := ?rv34) rfl (by kernel_rfl) (by kernel_rfl) (by kernel_rfl) (fun _ _ _ h => h) (by rfl) hS (fun w2 hw2 => ?ry34) ?rr34
            case ry34 => ((try dsimp only at hw2); go_simp <;> with_reducible rfl)
            simp only [Act.put, List.setIfInBounds_toArray, List.set_cons_zero, List.set_cons_succ]
            refine rg_step 15 rfl (by kernel_rfl) (by rfl) (fun K hK => ?_)
            refine wp_put_ms 23 (.tmp 66) (.tmp 65) rfl 5 ⟨A8, _, c8⟩ rfl rfl (by kernel_rfl) hM8 (by decide) (sq' := ⟨A8, _, c8⟩) (sa' := ta) (su' := tu) (se' := te) rfl ?_
            intro u9 a9 o9 g9
            have O9 : QsO u9 wx.heap.size (.slice A8 (qs ++ [(⟨playN x.name, wrap64 ((IntKind.u64.wrap x.kind).tmod 65536), wrap64 ((IntKind.u64.wrap x.cls).tmod 65536)⟩ : Qs)]).length c8) (qs ++ [(⟨playN x.name, wrap64 ((IntKind.u64.wrap x.kind).tmod 65536), wrap64 ((IntKind.u64.wrap x.cls).tmod 65536)⟩ : Qs)]) := own_same' O8 (fun j hj => o9 j (by omega))
            replace hS : Held g wx u9 ∧ QsBox u9 wr.heap.size x := ⟨hS.1.store o9 (g9 0 _ (Nat.zero_le _) (Below.refl 0 _)), hS.2.same (o9 _ (by omega))⟩
            refine hK.out _ _ hS ?_
            clear hK K
            simp only [Act.put]
            refine rg_done (by kernel_rfl) ?_
            go_wp2_with fail
            go_roundw
            case rel => exact ⟨k + 1, ⟨A8, (qs ++ [(⟨playN x.name, wrap64 ((IntKind.u64.wrap x.kind).tmod 65536), wrap64 ((IntKind.u64.wrap x.cls).tmod 65536)⟩ : Qs)]).length, c8⟩, qs ++ [(⟨playN x.name, wrap64 ((IntKind.u64.wrap x.kind).tmod 65536), wrap64 ((IntKind.u64.wrap x.cls).tmod 65536)⟩ : Qs)], by omega, by omega, by go_num, by simp [hql2], (fun z hz => by
              rcases List.mem_append.1 hz with h | h
              · exact HO.out.2.2.1 z h
              · rw [List.mem_singleton.1 h]; exact ⟨⟨(playN_right x.name).1, port_short _, port_short _⟩, (playN_right x.name).2⟩), O9, a9, hS.1⟩
            case measure => simp [intOf]; omega
          refine rg_or 7 rfl (by rfl) (fun K hK => ?_) ?_
          · go_simp
            refine (port_below _ _).mono ?_
            rintro e v1_0 ⟨rfl, bK⟩
            replace hO := hO.later bK
            replace hM := hM.later bK (Nat.le_refl _)
            replace hS : Held g wx v1_0 ∧ QsBox v1_0 wr.heap.size x := ⟨hS.1.later bK, hS.2.later bK (Nat.le_refl _)⟩
            clear bK
            refine hK.out _ _ hS ?_
            clear hK K
            try simp only [Act.put, List.setIfInBounds_toArray, List.set_cons_zero, List.set_cons_succ]
            refine rg_any [1, 10] (by kernel_rfl) (by simp) ?_
            refine rg_or 1 rfl (by rfl) (fun K hK => ?_) ?_
            · have kg : v1_0.cell? ⟨g, 5, none⟩ = some (.slice s.A s.n s.c) := hM.cell 5
              go_simp
              clear kg
              refine hK.out _ _ hS ?_
              clear hK K
              try simp only [Act.put, List.setIfInBounds_toArray, List.set_cons_zero, List.set_cons_succ]
              refine rg_step 10 rfl (by kernel_rfl) (by rfl) (fun K hK => ?_)
              go_simp
              refine (port_below _ _).mono ?_
              rintro e v3_1 ⟨rfl, bK⟩
              replace hO := hO.later bK
              replace hM := hM.later bK (Nat.le_refl _)
              replace hS : Held g wx v3_1 ∧ QsBox v3_1 wr.heap.size x := ⟨hS.1.later bK, hS.2.later bK (Nat.le_refl _)⟩
              clear bK
              refine hK.out _ _ hS ?_
              clear hK K
              try simp only [Act.put, List.setIfInBounds_toArray, List.set_cons_zero, List.set_cons_succ]
              refine rg_step 11 rfl (by kernel_rfl) (by rfl) (fun K hK => ?_)
              refine wp_build_qs (.tmp 56) (.tmp 59) (.tmp 62) rfl ⟨playN x.name, wrap64 ((IntKind.u64.wrap x.kind).tmod 65536), wrap64 ((IntKind.u64.wrap x.cls).tmod 65536)⟩ rfl rfl rfl ?_
              obtain ⟨Y, hY⟩ : ∃ Y : Value, Value.agg (qsv ⟨playN x.name, wrap64 ((IntKind.u64.wrap x.kind).tmod 65536), wrap64 ((IntKind.u64.wrap x.cls).tmod 65536)⟩) = Y := ⟨_, rfl⟩
              rw [hY]
              have HY := Lib.hid hY
              clear hY
              refine hK.out _ _ hS ?_
              clear hK K
              try simp only [Act.put, List.setIfInBounds_toArray, List.set_cons_zero, List.set_cons_succ]
              refine rg_step 12 rfl (by kernel_rfl) (by rfl) (fun K hK => ?_)
              refine wp_lit1 23 51 (.tmp 63) rfl (qsv ⟨playN x.name, wrap64 ((IntKind.u64.wrap x.kind).tmod 65536), wrap64 ((IntKind.u64.wrap x.cls).tmod 65536)⟩) HY.out.symm infoQ rfl (by decide) (by decide) Tryz.underlying23 ?_
              have bK : Below v3_1.heap.size v3_1 (v3_1.alloc (.cells (qsv ⟨playN x.name, wrap64 ((IntKind.u64.wrap x.kind).tmod 65536), wrap64 ((IntKind.u64.wrap x.cls).tmod 65536)⟩) 51)) := (Below.refl _ _).alloc (Nat.le_refl _) _
              have hQ := QsBox.new v3_1 ⟨playN x.name, wrap64 ((IntKind.u64.wrap x.kind).tmod 65536), wrap64 ((IntKind.u64.wrap x.cls).tmod 65536)⟩
              obtain ⟨v5_1, hu⟩ : ∃ u, v3_1.alloc (.cells (qsv ⟨playN x.name, wrap64 ((IntKind.u64.wrap x.kind).tmod 65536), wrap64 ((IntKind.u64.wrap x.cls).tmod 65536)⟩) 51) = u := ⟨_, rfl⟩
              rw [hu] at bK hQ ⊢
              clear hu
              replace hO := hO.later bK
              replace hM := hM.later bK (Nat.le_refl _)
              replace hS : Held g wx v5_1 ∧ QsBox v5_1 wr.heap.size x := ⟨hS.1.later bK, hS.2.later bK (Nat.le_refl _)⟩
              clear bK
              refine hK.out _ _ hS ?_
              clear hK K
              try simp only [Act.put, List.setIfInBounds_toArray, List.set_cons_zero, List.set_cons_succ]
              refine rg_step 13 rfl (by kernel_rfl) (by rfl) (fun K hK => ?_)
              refine wp_push_qs (.tmp 53) (.tmp 64) rfl wx.heap.size _ qs rfl hO rfl hQ (by omega) hS.1.size ?_
              intro v8 u8 O8 g8
              have hM8 := hM.same (g8.block g hM.lt (fun e => by have := hown g e.symm; omega))
              replace hS : Held g wx u8 ∧ QsBox u8 wr.heap.size x := ⟨hS.1.grown g8 (fun j e => (hown j e).1), hS.2.same (g8.block wr.heap.size hS.2.lt (fun e => by have := hown _ e.symm; omega))⟩
              obtain ⟨A8, c8, rfl, _⟩ := QsS.of_own O8
              refine hK.out _ _ hS ?_
              clear hK K
              try simp only [Act.put, List.setIfInBounds_toArray, List.set_cons_zero, List.set_cons_succ]
              refine rg_take 14 (v := ?rv35) rfl (by kernel_rfl) (by kernel_rfl) (by kernel_rfl) (fun _ _ _ h => h) (by rfl) hS (fun w2 hw2 => ?ry35) ?rr35
              case ry35 => ((try dsimp only at hw2); go_simp <;> with_reducible rfl)
              simp only [Act.put, List.setIfInBounds_toArray, List.set_cons_zero, List.set_cons_succ]
              refine rg_step 15 rfl (by kernel_rfl) (by rfl) (fun K hK => ?_)
              refine wp_put_ms 23 (.tmp 66) (.tmp 65) rfl 5 ⟨A8, _, c8⟩ rfl rfl (by kernel_rfl) hM8 (by decide) (sq' := ⟨A8, _, c8⟩) (sa' := ta) (su' := tu) (se' := te) rfl ?_
              intro u9 a9 o9 g9
              have O9 : QsO u9 wx.heap.size (.slice A8 (qs ++ [(⟨playN x.name, wrap64 ((IntKind.u64.wrap x.kind).tmod 65536), wrap64 ((IntKind.u64.wrap x.cls).tmod 65536)⟩ : Qs)]).length c8) (qs ++ [(⟨playN x.name, wrap64 ((IntKind.u64.wrap x.kind).tmod 65536), wrap64 ((IntKind.u64.wrap x.cls).tmod 65536)⟩ : Qs)]) := own_same' O8 (fun j hj => o9 j (by omega))
              replace hS : Held g wx u9 ∧ QsBox u9 wr.heap.size x := ⟨hS.1.store o9 (g9 0 _ (Nat.zero_le _) (Below.refl 0 _)), hS.2.same (o9 _ (by omega))⟩
              refine hK.out _ _ hS ?_
              clear hK K
              simp only [Act.put]
              refine rg_done (by kernel_rfl) ?_
              go_wp2_with fail
              go_roundw
              case rel => exact ⟨k + 1, ⟨A8, (qs ++ [(⟨playN x.name, wrap64 ((IntKind.u64.wrap x.kind).tmod 65536), wrap64 ((IntKind.u64.wrap x.cls).tmod 65536)⟩ : Qs)]).length, c8⟩, qs ++ [(⟨playN x.name, wrap64 ((IntKind.u64.wrap x.kind).tmod 65536), wrap64 ((IntKind.u64.wrap x.cls).tmod 65536)⟩ : Qs)], by omega, by omega, by go_num, by simp [hql2], (fun z hz => by
                rcases List.mem_append.1 hz with h | h
                · exact HO.out.2.2.1 z h
                · rw [List.mem_singleton.1 h]; exact ⟨⟨(playN_right x.name).1, port_short _, port_short _⟩, (playN_right x.name).2⟩), O9, a9, hS.1⟩
              case measure => simp [intOf]; omega
            refine rg_or 10 rfl (by rfl) (fun K hK => ?_) ?_
            · go_simp
              refine (port_below _ _).mono ?_
              rintro e v2_0 ⟨rfl, bK⟩
              replace hO := hO.later bK
              replace hM := hM.later bK (Nat.le_refl _)
              replace hS : Held g wx v2_0 ∧ QsBox v2_0 wr.heap.size x := ⟨hS.1.later bK, hS.2.later bK (Nat.le_refl _)⟩
              clear bK
              refine hK.out _ _ hS ?_
              clear hK K
              try simp only [Act.put, List.setIfInBounds_toArray, List.set_cons_zero, List.set_cons_succ]
              refine rg_any [1, 11] (by kernel_rfl) (by simp) ?_
              refine rg_or 1 rfl (by rfl) (fun K hK => ?_) ?_
              · have kg : v2_0.cell? ⟨g, 5, none⟩ = some (.slice s.A s.n s.c) := hM.cell 5
                go_simp
                clear kg
                refine hK.out _ _ hS ?_
                clear hK K
                try simp only [Act.put, List.setIfInBounds_toArray, List.set_cons_zero, List.set_cons_succ]
                refine rg_step 11 rfl (by kernel_rfl) (by rfl) (fun K hK => ?_)
                refine wp_build_qs (.tmp 56) (.tmp 59) (.tmp 62) rfl ⟨playN x.name, wrap64 ((IntKind.u64.wrap x.kind).tmod 65536), wrap64 ((IntKind.u64.wrap x.cls).tmod 65536)⟩ rfl rfl rfl ?_
                obtain ⟨Y, hY⟩ : ∃ Y : Value, Value.agg (qsv ⟨playN x.name, wrap64 ((IntKind.u64.wrap x.kind).tmod 65536), wrap64 ((IntKind.u64.wrap x.cls).tmod 65536)⟩) = Y := ⟨_, rfl⟩
                rw [hY]
                have HY := Lib.hid hY
                clear hY
                refine hK.out _ _ hS ?_
                clear hK K
                try simp only [Act.put, List.setIfInBounds_toArray, List.set_cons_zero, List.set_cons_succ]
                refine rg_step 12 rfl (by kernel_rfl) (by rfl) (fun K hK => ?_)
                refine wp_lit1 23 51 (.tmp 63) rfl (qsv ⟨playN x.name, wrap64 ((IntKind.u64.wrap x.kind).tmod 65536), wrap64 ((IntKind.u64.wrap x.cls).tmod 65536)⟩) HY.out.symm infoQ rfl (by decide) (by decide) Tryz.underlying23 ?_
                have bK : Below v2_0.heap.size v2_0 (v2_0.alloc (.cells (qsv ⟨playN x.name, wrap64 ((IntKind.u64.wrap x.kind).tmod 65536), wrap64 ((IntKind.u64.wrap x.cls).tmod 65536)⟩) 51)) := (Below.refl _ _).alloc (Nat.le_refl _) _
                have hQ := QsBox.new v2_0 ⟨playN x.name, wrap64 ((IntKind.u64.wrap x.kind).tmod 65536), wrap64 ((IntKind.u64.wrap x.cls).tmod 65536)⟩
                obtain ⟨v5_1, hu⟩ : ∃ u, v2_0.alloc (.cells (qsv ⟨playN x.name, wrap64 ((IntKind.u64.wrap x.kind).tmod 65536), wrap64 ((IntKind.u64.wrap x.cls).tmod 65536)⟩) 51) = u := ⟨_, rfl⟩
                rw [hu] at bK hQ ⊢
                clear hu
                replace hO := hO.later bK
                replace hM := hM.later bK (Nat.le_refl _)
                replace hS : Held g wx v5_1 ∧ QsBox v5_1 wr.heap.size x := ⟨hS.1.later bK, hS.2.later bK (Nat.le_refl _)⟩
                clear bK
                refine hK.out _ _ hS ?_
                clear hK K
                try simp only [Act.put, List.setIfInBounds_toArray, List.set_cons_zero, List.set_cons_succ]
                refine rg_step 13 rfl (by kernel_rfl) (by rfl) (fun K hK => ?_)
                refine wp_push_qs (.tmp 53) (.tmp 64) rfl wx.heap.size _ qs rfl hO rfl hQ (by omega) hS.1.size ?_
                intro v8 u8 O8 g8
                have hM8 := hM.same (g8.block g hM.lt (fun e => by have := hown g e.symm; omega))
                replace hS : Held g wx u8 ∧ QsBox u8 wr.heap.size x := ⟨hS.1.grown g8 (fun j e => (hown j e).1), hS.2.same (g8.block wr.heap.size hS.2.lt (fun e => by have := hown _ e.symm; omega))⟩
                obtain ⟨A8, c8, rfl, _⟩ := QsS.of_own O8
                refine hK.out _ _ hS ?_
                clear hK K
                try simp only [Act.put, List.setIfInBounds_toArray, List.set_cons_zero, List.set_cons_succ]
                refine rg_take 14 (v := ?rv36) rfl (by kernel_rfl) (by kernel_rfl) (by kernel_rfl) (fun _ _ _ h => h) (by rfl) hS (fun w2 hw2 => ?ry36) ?rr36
                case ry36 => ((try dsimp only at hw2); go_simp <;> with_reducible rfl)
                simp only [Act.put, List.setIfInBounds_toArray, List.set_cons_zero, List.set_cons_succ]
                refine rg_step 15 rfl (by kernel_rfl) (by rfl) (fun K hK => ?_)
                refine wp_put_ms 23 (.tmp 66) (.tmp 65) rfl 5 ⟨A8, _, c8⟩ rfl rfl (by kernel_rfl) hM8 (by decide) (sq' := ⟨A8, _, c8⟩) (sa' := ta) (su' := tu) (se' := te) rfl ?_
                intro u9 a9 o9 g9
                have O9 : QsO u9 wx.heap.size (.slice A8 (qs ++ [(⟨playN x.name, wrap64 ((IntKind.u64.wrap x.kind).tmod 65536), wrap64 ((IntKind.u64.wrap x.cls).tmod 65536)⟩ : Qs)]).length c8) (qs ++ [(⟨playN x.name, wrap64 ((IntKind.u64.wrap x.kind).tmod 65536), wrap64 ((IntKind.u64.wrap x.cls).tmod 65536)⟩ : Qs)]) := own_same' O8 (fun j hj => o9 j (by omega))
                replace hS : Held g wx u9 ∧ QsBox u9 wr.heap.size x := ⟨hS.1.store o9 (g9 0 _ (Nat.zero_le _) (Below.refl 0 _)), hS.2.same (o9 _ (by omega))⟩
                refine hK.out _ _ hS ?_
                clear hK K
                simp only [Act.put]
                refine rg_done (by kernel_rfl) ?_
                go_wp2_with fail
                go_roundw
                case rel => exact ⟨k + 1, ⟨A8, (qs ++ [(⟨playN x.name, wrap64 ((IntKind.u64.wrap x.kind).tmod 65536), wrap64 ((IntKind.u64.wrap x.cls).tmod 65536)⟩ : Qs)]).length, c8⟩, qs ++ [(⟨playN x.name, wrap64 ((IntKind.u64.wrap x.kind).tmod 65536), wrap64 ((IntKind.u64.wrap x.cls).tmod 65536)⟩ : Qs)], by omega, by omega, by go_num, by simp [hql2], (fun z hz => by
                  rcases List.mem_append.1 hz with h | h
                  · exact HO.out.2.2.1 z h
                  · rw [List.mem_singleton.1 h]; exact ⟨⟨(playN_right x.name).1, port_short _, port_short _⟩, (playN_right x.name).2⟩), O9, a9, hS.1⟩
                case measure => simp [intOf]; omega
              refine rg_or 11 rfl (by rfl) (fun K hK => ?_) ?_
              · refine wp_build_qs (.tmp 56) (.tmp 59) (.tmp 62) rfl ⟨playN x.name, wrap64 ((IntKind.u64.wrap x.kind).tmod 65536), wrap64 ((IntKind.u64.wrap x.cls).tmod 65536)⟩ rfl rfl rfl ?_
                obtain ⟨Y, hY⟩ : ∃ Y : Value, Value.agg (qsv ⟨playN x.name, wrap64 ((IntKind.u64.wrap x.kind).tmod 65536), wrap64 ((IntKind.u64.wrap x.cls).tmod 65536)⟩) = Y := ⟨_, rfl⟩
                rw [hY]
                have HY := Lib.hid hY
                clear hY
                refine hK.out _ _ hS ?_
                clear hK K
                try simp only [Act.put, List.setIfInBounds_toArray, List.set_cons_zero, List.set_cons_succ]
                refine rg_any [1, 12] (by kernel_rfl) (by simp) ?_
                refine rg_or 1 rfl (by rfl) (fun K hK => ?_) ?_
                · have kg : v2_0.cell? ⟨g, 5, none⟩ = some (.slice s.A s.n s.c) := hM.cell 5
                  go_simp
                  clear kg
                  refine hK.out _ _ hS ?_
                  clear hK K
                  try simp only [Act.put, List.setIfInBounds_toArray, List.set_cons_zero, List.set_cons_succ]
                  refine rg_step 12 rfl (by kernel_rfl) (by rfl) (fun K hK => ?_)
                  refine wp_lit1 23 51 (.tmp 63) rfl (qsv ⟨playN x.name, wrap64 ((IntKind.u64.wrap x.kind).tmod 65536), wrap64 ((IntKind.u64.wrap x.cls).tmod 65536)⟩) HY.out.symm infoQ rfl (by decide) (by decide) Tryz.underlying23 ?_
                  have bK : Below v2_0.heap.size v2_0 (v2_0.alloc (.cells (qsv ⟨playN x.name, wrap64 ((IntKind.u64.wrap x.kind).tmod 65536), wrap64 ((IntKind.u64.wrap x.cls).tmod 65536)⟩) 51)) := (Below.refl _ _).alloc (Nat.le_refl _) _
                  have hQ := QsBox.new v2_0 ⟨playN x.name, wrap64 ((IntKind.u64.wrap x.kind).tmod 65536), wrap64 ((IntKind.u64.wrap x.cls).tmod 65536)⟩
                  obtain ⟨v5_1, hu⟩ : ∃ u, v2_0.alloc (.cells (qsv ⟨playN x.name, wrap64 ((IntKind.u64.wrap x.kind).tmod 65536), wrap64 ((IntKind.u64.wrap x.cls).tmod 65536)⟩) 51) = u := ⟨_, rfl⟩
                  rw [hu] at bK hQ ⊢
                  clear hu
                  replace hO := hO.later bK
                  replace hM := hM.later bK (Nat.le_refl _)
                  replace hS : Held g wx v5_1 ∧ QsBox v5_1 wr.heap.size x := ⟨hS.1.later bK, hS.2.later bK (Nat.le_refl _)⟩
                  clear bK
                  refine hK.out _ _ hS ?_
                  clear hK K
                  try simp only [Act.put, List.setIfInBounds_toArray, List.set_cons_zero, List.set_cons_succ]
                  refine rg_step 13 rfl (by kernel_rfl) (by rfl) (fun K hK => ?_)
                  refine wp_push_qs (.tmp 53) (.tmp 64) rfl wx.heap.size _ qs rfl hO rfl hQ (by omega) hS.1.size ?_
                  intro v8 u8 O8 g8
                  have hM8 := hM.same (g8.block g hM.lt (fun e => by have := hown g e.symm; omega))
                  replace hS : Held g wx u8 ∧ QsBox u8 wr.heap.size x := ⟨hS.1.grown g8 (fun j e => (hown j e).1), hS.2.same (g8.block wr.heap.size hS.2.lt (fun e => by have := hown _ e.symm; omega))⟩
                  obtain ⟨A8, c8, rfl, _⟩ := QsS.of_own O8
                  refine hK.out _ _ hS ?_
                  clear hK K
                  try simp only [Act.put, List.setIfInBounds_toArray, List.set_cons_zero, List.set_cons_succ]
                  refine rg_take 14 (v := ?rv37) rfl (by kernel_rfl) (by kernel_rfl) (by kernel_rfl) (fun _ _ _ h => h) (by rfl) hS (fun w2 hw2 => ?ry37) ?rr37
                  case ry37 => ((try dsimp only at hw2); go_simp <;> with_reducible rfl)
                  simp only [Act.put, List.setIfInBounds_toArray, List.set_cons_zero, List.set_cons_succ]
                  refine rg_step 15 rfl (by kernel_rfl) (by rfl) (fun K hK => ?_)
                  refine wp_put_ms 23 (.tmp 66) (.tmp 65) rfl 5 ⟨A8, _, c8⟩ rfl rfl (by kernel_rfl) hM8 (by decide) (sq' := ⟨A8, _, c8⟩) (sa' := ta) (su' := tu) (se' := te) rfl ?_
                  intro u9 a9 o9 g9
                  have O9 : QsO u9 wx.heap.size (.slice A8 (qs ++ [(⟨playN x.name, wrap64 ((IntKind.u64.wrap x.kind).tmod 65536), wrap64 ((IntKind.u64.wrap x.cls).tmod 65536)⟩ : Qs)]).length c8) (qs ++ [(⟨playN x.name, wrap64 ((IntKind.u64.wrap x.kind).tmod 65536), wrap64 ((IntKind.u64.wrap x.cls).tmod 65536)⟩ : Qs)]) := own_same' O8 (fun j hj => o9 j (by omega))
                  replace hS : Held g wx u9 ∧ QsBox u9 wr.heap.size x := ⟨hS.1.store o9 (g9 0 _ (Nat.zero_le _) (Below.refl 0 _)), hS.2.same (o9 _ (by omega))⟩
                  refine hK.out _ _ hS ?_
                  clear hK K
                  simp only [Act.put]
                  refine rg_done (by kernel_rfl) ?_
                  go_wp2_with fail
                  go_roundw
                  case rel => exact ⟨k + 1, ⟨A8, (qs ++ [(⟨playN x.name, wrap64 ((IntKind.u64.wrap x.kind).tmod 65536), wrap64 ((IntKind.u64.wrap x.cls).tmod 65536)⟩ : Qs)]).length, c8⟩, qs ++ [(⟨playN x.name, wrap64 ((IntKind.u64.wrap x.kind).tmod 65536), wrap64 ((IntKind.u64.wrap x.cls).tmod 65536)⟩ : Qs)], by omega, by omega, by go_num, by simp [hql2], (fun z hz => by
                    rcases List.mem_append.1 hz with h | h
                    · exact HO.out.2.2.1 z h
                    · rw [List.mem_singleton.1 h]; exact ⟨⟨(playN_right x.name).1, port_short _, port_short _⟩, (playN_right x.name).2⟩), O9, a9, hS.1⟩
                  case measure => simp [intOf]; omega
                refine rg_or 12 rfl (by rfl) (fun K hK => ?_) ?_
                · refine wp_lit1 23 51 (.tmp 63) rfl (qsv ⟨playN x.name, wrap64 ((IntKind.u64.wrap x.kind).tmod 65536), wrap64 ((IntKind.u64.wrap x.cls).tmod 65536)⟩) HY.out.symm infoQ rfl (by decide) (by decide) Tryz.underlying23 ?_
                  have bK : Below v2_0.heap.size v2_0 (v2_0.alloc (.cells (qsv ⟨playN x.name, wrap64 ((IntKind.u64.wrap x.kind).tmod 65536), wrap64 ((IntKind.u64.wrap x.cls).tmod 65536)⟩) 51)) := (Below.refl _ _).alloc (Nat.le_refl _) _
                  have hQ := QsBox.new v2_0 ⟨playN x.name, wrap64 ((IntKind.u64.wrap x.kind).tmod 65536), wrap64 ((IntKind.u64.wrap x.cls).tmod 65536)⟩
                  obtain ⟨v4_0, hu⟩ : ∃ u, v2_0.alloc (.cells (qsv ⟨playN x.name, wrap64 ((IntKind.u64.wrap x.kind).tmod 65536), wrap64 ((IntKind.u64.wrap x.cls).tmod 65536)⟩) 51) = u := ⟨_, rfl⟩
                  rw [hu] at bK hQ ⊢
                  clear hu
                  replace hO := hO.later bK
                  replace hM := hM.later bK (Nat.le_refl _)
                  replace hS : Held g wx v4_0 ∧ QsBox v4_0 wr.heap.size x := ⟨hS.1.later bK, hS.2.later bK (Nat.le_refl _)⟩
                  clear bK
                  refine hK.out _ _ hS ?_
                  clear hK K
                  try simp only [Act.put, List.setIfInBounds_toArray, List.set_cons_zero, List.set_cons_succ]
                  refine rg_step 1 rfl (by kernel_rfl) (by rfl) (fun K hK => ?_)
                  have kg : v4_0.cell? ⟨g, 5, none⟩ = some (.slice s.A s.n s.c) := hM.cell 5
                  go_simp
                  clear kg
                  refine hK.out _ _ hS ?_
                  clear hK K
                  try simp only [Act.put, List.setIfInBounds_toArray, List.set_cons_zero, List.set_cons_succ]
                  refine rg_step 13 rfl (by kernel_rfl) (by rfl) (fun K hK => ?_)
                  refine wp_push_qs (.tmp 53) (.tmp 64) rfl wx.heap.size _ qs rfl hO rfl hQ (by omega) hS.1.size ?_
                  intro v8 u8 O8 g8
                  have hM8 := hM.same (g8.block g hM.lt (fun e => by have := hown g e.symm; omega))
                  replace hS : Held g wx u8 ∧ QsBox u8 wr.heap.size x := ⟨hS.1.grown g8 (fun j e => (hown j e).1), hS.2.same (g8.block wr.heap.size hS.2.lt (fun e => by have := hown _ e.symm; omega))⟩
                  obtain ⟨A8, c8, rfl, _⟩ := QsS.of_own O8
                  refine hK.out _ _ hS ?_
                  clear hK K
                  try simp only [Act.put, List.setIfInBounds_toArray, List.set_cons_zero, List.set_cons_succ]
                  refine rg_take 14 (v := ?rv38) rfl (by kernel_rfl) (by kernel_rfl) (by kernel_rfl) (fun _ _ _ h => h) (by rfl) hS (fun w2 hw2 => ?ry38) ?rr38
                  case ry38 => ((try dsimp only at hw2); go_simp <;> with_reducible rfl)
                  simp only [Act.put, List.setIfInBounds_toArray, List.set_cons_zero, List.set_cons_succ]
                  refine rg_step 15 rfl (by kernel_rfl) (by rfl) (fun K hK => ?_)
                  refine wp_put_ms 23 (.tmp 66) (.tmp 65) rfl 5 ⟨A8, _, c8⟩ rfl rfl (by kernel_rfl) hM8 (by decide) (sq' := ⟨A8, _, c8⟩) (sa' := ta) (su' := tu) (se' := te) rfl ?_
                  intro u9 a9 o9 g9
                  have O9 : QsO u9 wx.heap.size (.slice A8 (qs ++ [(⟨playN x.name, wrap64 ((IntKind.u64.wrap x.kind).tmod 65536), wrap64 ((IntKind.u64.wrap x.cls).tmod 65536)⟩ : Qs)]).length c8) (qs ++ [(⟨playN x.name, wrap64 ((IntKind.u64.wrap x.kind).tmod 65536), wrap64 ((IntKind.u64.wrap x.cls).tmod 65536)⟩ : Qs)]) := own_same' O8 (fun j hj => o9 j (by omega))
                  replace hS : Held g wx u9 ∧ QsBox u9 wr.heap.size x := ⟨hS.1.store o9 (g9 0 _ (Nat.zero_le _) (Below.refl 0 _)), hS.2.same (o9 _ (by omega))⟩
                  refine hK.out _ _ hS ?_
                  clear hK K
                  simp only [Act.put]
                  refine rg_done (by kernel_rfl) ?_
                  go_wp2_with fail
                  go_roundw
                  case rel => exact ⟨k + 1, ⟨A8, (qs ++ [(⟨playN x.name, wrap64 ((IntKind.u64.wrap x.kind).tmod 65536), wrap64 ((IntKind.u64.wrap x.cls).tmod 65536)⟩ : Qs)]).length, c8⟩, qs ++ [(⟨playN x.name, wrap64 ((IntKind.u64.wrap x.kind).tmod 65536), wrap64 ((IntKind.u64.wrap x.cls).tmod 65536)⟩ : Qs)], by omega, by omega, by go_num, by simp [hql2], (fun z hz => by
                    rcases List.mem_append.1 hz with h | h
                    · exact HO.out.2.2.1 z h
                    · rw [List.mem_singleton.1 h]; exact ⟨⟨(playN_right x.name).1, port_short _, port_short _⟩, (playN_right x.name).2⟩), O9, a9, hS.1⟩
                  case measure => simp [intOf]; omega
                exact AllReadyH.nil
              exact AllReadyH.nil
            exact AllReadyH.nil
          exact AllReadyH.nil
        exact AllReadyH.nil
        -->>
      · obtain ⟨A3, c3, e3, S3⟩ := QsS.of_own HO.out.1
        have S4 : QsS wx.heap.size wr s.A s.n s.c qs := by
          injection e3 with e1 e2 e4
          rw [e1, e2, e4]
          exact S3
        have HWB := Lib.hid (HC.out.2.1.same (HO.out.2.2.2.block _ (by omega) HC.out.2.1.lt))
        have HS4 := Lib.hid (And.intro S4 (HCL.out _ HO.out.2.2.2))
        have hWw : w.heap.size ≤ W.heap.size := HA.out.2.size
        have KZ : ∀ w8, MsBox w8 W.heap.size mh s ta tu te → (∀ k, k ≠ W.heap.size → w8.heap[k]? = wr.heap[k]?) → (∀ B w0, B ≤ W.heap.size → Below B w0 wr → Below B w0 w8) → (PlayM ⟨mh, qs, xa, xu, xe⟩ ∧ MsM w.heap.size w8 s ta tu te ⟨mh, qs, xa, xu, xe⟩ ∧ Below w.heap.size w w8 ∧ ExtM w.heap.size w8 s ta tu te ⟨mh, qs, xa, xu, xe⟩) := fun w8 a8 o8 g8 => by
          obtain ⟨z0, z1, z2, z3⟩ := HS4.out
          have y1 := z1.len
          have y2 := z2.len
          have y3 := z3.len
          have hp := HC.out.2.2.1
          exact ⟨⟨HC.out.2.2.2.1, ⟨by show qs.length ≤ 4; omega, HO.out.2.2.1⟩, ⟨by show xa.length ≤ 8; omega, hp.1.2⟩, ⟨by show xu.length ≤ 8; omega, hp.2.1.2⟩, ⟨by show xe.length ≤ 8; omega, hp.2.2.2⟩⟩, ⟨(z0.away fun k hk => o8 k (by omega)).low (by omega), ((z1.away fun k hk => o8 k (by omega)).low (by omega)).rcs, ((z2.away fun k hk => o8 k (by omega)).low (by omega)).rcs, ((z3.away fun k hk => o8 k (by omega)).low (by omega)).rcs⟩, g8 _ _ hWw (HKB.out _ HO.out.2.2.2),
            ⟨ba, ha, bu, hu, be, he, wx.heap.size, (z1.away fun k hk => o8 k (by omega)).low (by omega), (z2.away fun k hk => o8 k (by omega)).low (by omega), (z3.away fun k hk => o8 k (by omega)).low (by omega), own_moved HO.out.1 (fun b hb => o8 b (by have := (World.ownsRow.lt HO.out.1 b hb).1; omega)), HZZ.out, Nat.le_trans HO.out.2.2.2.size (g8 0 _ (Nat.zero_le _) (Below.refl 0 _)).size⟩⟩
        have HKZ := Lib.hid KZ
        clear KZ S3 S4 e3
        --<< d
        rcases Nat.lt_or_ge k sq.n with h | h
        · obtain rfl : k = 4 := by omega
          clear hlt
          go_wp2_with (first
            | (refine wpList_store_ms rfl (.tmp 2) (.tmp 67) rfl mh s ta tu te rfl rfl HWB.out ?_; intro w8 a8 o8 z8 g8; have H8 := Lib.hid (And.intro a8 (HKZ.out w8 a8 o8 g8)); clear a8 o8 z8 g8)
            | (refine wpList_load_ms rfl (.tmp 3) rfl rfl HO.out.2.1 ?_))
          exact bodyPost_ret (results_cell_row rfl _ _ W.heap.size 26 _ (0, 0) _ rfl H8.out.1 Tryz.underlying26 rfl (ms_size _ _ _ _ _)) rfl ⟨s, ta, tu, te, ⟨mh, qs, xa, xu, xe⟩, rfl, H8.out.2.1, H8.out.2.2.1, H8.out.2.2.2.1, H8.out.2.2.2.2⟩
        · obtain rfl : k = sq.n := by omega
          clear hlt
          go_wp2_with (first
            | (refine wpList_store_ms rfl (.tmp 2) (.tmp 67) rfl mh s ta tu te rfl rfl HWB.out ?_; intro w8 a8 o8 z8 g8; have H8 := Lib.hid (And.intro a8 (HKZ.out w8 a8 o8 g8)); clear a8 o8 z8 g8)
            | (refine wpList_load_ms rfl (.tmp 3) rfl rfl HO.out.2.1 ?_))
          exact bodyPost_ret (results_cell_row rfl _ _ W.heap.size 26 _ (0, 0) _ rfl H8.out.1 Tryz.underlying26 rfl (ms_size _ _ _ _ _)) rfl ⟨s, ta, tu, te, ⟨mh, qs, xa, xu, xe⟩, rfl, H8.out.2.1, H8.out.2.2.1, H8.out.2.2.2.1, H8.out.2.2.2.2⟩
        -->>
theorem playM_any {lo : Nat} {sq sa su se : Sl} {m : Ms} {w : World} (hm : MsM lo w sq sa su se m) (hok : ArgM m) : Calls Tryz.prog 16 #[.agg (msv m.h sq sa su se)] w fun e w' =>
    ∃ tq ta tu te x, e = .returned (.agg (msv x.h tq ta tu te)) ∧ PlayM x ∧ MsM w.heap.size w' tq ta tu te x ∧ Below w.heap.size w w' :=
  (playM_own hm hok).mono fun _ _ h => by
    obtain ⟨tq, ta, tu, te, x, h1, h2, h3, h4, _⟩ := h
    exact ⟨tq, ta, tu, te, x, h1, h2, h3, h4⟩
end Go.Proofs.YtbikifaadpijnaaGreatDoor
