/-
  Package dnsmsg's whole: a message's lists, one behind the other. Conditions: those of the slice; 2^47 bytes at most; errors.errorType holds the handle of the type error.
  dnsmsg.Parse: the message that bytes are, or why they are none. Conditions: those of the slice; 2^47 bytes at most; errors.errorType holds the handle of the type error.
-/
import Derived.Test.YtbikifaadpijnaaGreatDoorZ42
import Derived.Test.YtbikifaadpijnaaGreatDoorZ40
namespace Go.Proofs.YtbikifaadpijnaaGreatDoor
open Go.RowKit
set_option maxRecDepth 100000

theorem wpList_put_ms {ops : Array Oper} {rest : List Oper} {o : Oper} {a : Act} {w : World} {Q : Exit → Act → World → Prop} (hgd : o.guard = none) (ty : TypeId) (x y : Operand) (ho : o.op = .store ty x y) {g : Nat} (j : Nat) (s : Sl) (hx : a.eval x = .pointer (some ⟨g, j, none⟩)) (hy : a.eval y = .slice s.A s.n s.c) (hi : (Tryz.prog.info? ty).map (·.size) = some 1)
    {mh : Mh} {sq sa su se sq' sa' su' se' : Sl} (hA : MsBox w g mh sq sa su se) (hj : j < 9) (hset : (msv mh sq sa su se).setIfInBounds j (.slice s.A s.n s.c) = msv mh sq' sa' su' se')
    (h : ∀ w', MsBox w' g mh sq' sa' su' se' → (∀ k, k ≠ g → w'.heap[k]? = w.heap[k]?) → w'.heap.size = w.heap.size → (∀ B w0, B ≤ g → Below B w0 w → Below B w0 w') → wpList Tryz.prog ops Q rest (a.put o.dst undef) w') : wpList Tryz.prog ops Q (o :: rest) a w := by
  refine wpList_plain hgd fun K hK => ?_
  have e : w.setCell ⟨g, j, none⟩ (.slice s.A s.n s.c) = w.setRow g (msv mh sq' sa' su' se') := by
    rw [setCell_eq_setRow w g j _ _ _ (.slice s.A s.n s.c) hA, hset]
  have hrun := run_storeVar_cell (P := Tryz.prog) w g j ty (.slice s.A s.n s.c) hA (by exact hj) hi rfl
  unfold Oper.wp execOp
  simp only [ho, hx, hy, Instr.storeAt, Instr.sureAddr, Sem.run_bind, Sem.run_pure, Result.andThen_ok, hrun]
  rw [e]
  exact hK _ _ (h _ (setRow_heap w g _ _ _ _ hA) (fun k hk => setRow_other w g k _ hk) (size_setRow w g _) (fun B w0 hB hb => below_setRow hb hB _))
/-- Where the three lists' heads lie. -/
def P3 (w : World) (gp g : Nat) : Prop := w.heap[gp]? = some (.cells #[.pointer (some ⟨g, 6, none⟩), .pointer (some ⟨g, 7, none⟩), .pointer (some ⟨g, 8, none⟩)] 107 (0, 0))
theorem P3.lt {w : World} {gp g : Nat} (h : P3 w gp g) : gp < w.heap.size := (Array.getElem?_eq_some_iff.1 h).1
theorem P3.later {w w' : World} {gp g : Nat} (h : P3 w gp g) (hb : Below w.heap.size w w') : P3 w' gp g := (hb.block gp h.lt).trans h
theorem P3.cell {w : World} {gp g : Nat} (h : P3 w gp g) (j : Nat) : w.cell? ⟨gp, j, none⟩ = (#[.pointer (some ⟨g, 6, none⟩), .pointer (some ⟨g, 7, none⟩), .pointer (some ⟨g, 8, none⟩)] : Array Value)[j]? := cell_of_row w gp j _ _ _ h
/-- What whole hands back. -/
def WholeR (x : Mw) (w : World) (e : Ending) (w' : World) : Prop := ∃ sq sa su se v, e = .returned (.tuple #[.agg (msv x.m.h sq sa su se), .int .i64 x.next, v]) ∧ QsS w.heap.size w' sq.A sq.n sq.c x.m.qs ∧ RcS w.heap.size w' sa.A sa.n sa.c x.m.an ∧ RcS w.heap.size w' su.A su.n su.c x.m.au ∧ RcS w.heap.size w' se.A se.n se.c x.m.ex ∧ Tells w' v x.f ∧ Below w.heap.size w w'
theorem results_ms3 {fn : Func} {p u v : Tmp} (tmps : Array Value) {w : World} {g : Nat} (h : fn.results = #[.cell p 26, .tmp u, .tmp v]) {mh : Mh} {sq sa su se : Sl} (hp : tmps.getD p undef = .pointer (some ⟨g, 0, none⟩)) (hA : MsBox w g mh sq sa su se) : (results fn tmps).run Tryz.prog w = .ok (.tuple #[.agg (msv mh sq sa su se), tmps.getD u undef, tmps.getD v undef]) w := by
  rw [results_cell_tmp_tmp h, hp]
  simp [asAddr, run_loadVar_row w g 26 26 (msv mh sq sa su se) (0, 0) _ hA Tryz.underlying26 rfl (ms_size mh sq sa su se)]
theorem ms_zero_eq : msv .zero .zero .zero .zero .zero = #[.int .i64 0, .bool false, .int .i64 0, .int .i64 0, .int .i64 0, .slice none 0 0, .slice none 0 0, .slice none 0 0, .slice none 0 0] := rfl
theorem listV_next {α : Type} {rd : Nat → α × Nat × Fl} {B : Nat} (h1 : ∀ p, (rd p).2.2.code = 0 → (rd p).2.1 ≤ B) : ∀ {k p : Nat}, p ≤ B → (listV rd k p).f.code = 0 → (listV rd k p).next ≤ B
  | 0, p, hp, _ => hp
  | k + 1, p, hp, hc => by
    rw [listV] at hc ⊢
    by_cases h : (rd p).2.2.code ≠ 0
    · rw [if_pos h] at hc
      exact absurd hc h
    rw [if_neg h] at hc ⊢
    by_cases h2 : (listV rd k (rd p).2.1).f.code ≠ 0
    · rw [if_pos h2] at hc
      exact absurd hc h2
    rw [if_neg h2]
    exact listV_next h1 (h1 p (Decidable.not_not.1 h)) (Decidable.not_not.1 h2)
theorem listQ_next {l : List UInt8} {n k : Nat} (hc : (listV (rdQ l n) k 12).f.code = 0) : (listV (rdQ l n) k 12).next ≤ n + 12 := listV_next (fun p h => by have := (readQ_next h).1; unfold rdQ; dsimp only; omega) (by omega) hc
theorem listR_next {l : List UInt8} {n k p : Nat} (hp : p ≤ n + 65541 + 12) (hc : (listV (rdR l n) k p).f.code = 0) : (listV (rdR l n) k p).next ≤ n + 65541 + 12 := listV_next (fun p h => by have := (readR_next h).1; unfold rdR; dsimp only; omega) hp hc
set_option maxHeartbeats 8000000 in
theorem whole_any {A : Option Addr} {n c : Nat} {l : List UInt8} {w : World} (hb : Bs w A n c l) (h47 : n ≤ 140737488350000) (u : Nat → Int) (h : Nat → Nat) (hu : ∀ i, i < 6 → u i = h i) (hlt : ∀ i, h i < 65536) (hg : Handle w) : Calls Tryz.prog 21 #[.agg (hdv u), .slice A n c] w (WholeR (wholeV l n h) w) := by
  have a1 := HxBox.new w u
  have b1 : Below w.heap.size w (w.alloc (.cells (hdv u) 61)) := (Below.refl _ _).alloc (Nat.le_refl _) _
  obtain ⟨W, hW⟩ : ∃ W, w.alloc (.cells (hdv u) 61) = W := ⟨_, rfl⟩
  rw [hW] at a1 b1
  have HW := Lib.hid hW
  have HA := Lib.hid (And.intro a1 b1)
  have HL1 := Lib.hid (HxBox.lt a1)
  have HB := Lib.hid (And.intro hb hg)
  have HU := Lib.hid hu
  have k2 := hlt 2
  have k3 := hlt 3
  have k4 := hlt 4
  have k5 := hlt 5
  have KB := Lib.hid (fun w1 => begun_any u (h 0) (h 1) (hu 0 (by decide)) (hu 1 (by decide)) (hlt 0) (hlt 1) w1)
  have KQ := (fun w1 (b : Below w.heap.size w w1) => listQ_any (hb.later b (Nat.le_refl _)) h47 12 (h 2) (by omega) (by omega))
  have nq : (listV (rdQ l n) (h 2) 12).f.code = 0 → (listV (rdQ l n) (h 2) 12).next ≤ n + 12 := fun hc => listQ_next hc
  unfold wholeV
  generalize listV (rdQ l n) (h 2) 12 = q at KQ nq ⊢
  obtain ⟨qx, qn, qf⟩ := q
  dsimp only at KQ nq
  have KQ := Lib.hid KQ
  clear a1 b1 hW hb hg hu
  obtain ⟨Z, hZ⟩ : ∃ Z, wholeR l n h ⟨qx, qn, qf⟩ = Z := ⟨_, rfl⟩
  rw [hZ]
  unfold wholeR at hZ
  dsimp only at hZ
  unfold WholeR
  by_cases hq : qf.code ≠ 0
  case pos =>
    --<< a
    rw [if_pos hq] at hZ
    subst hZ
    go_enter Tryz.func21, Tryz.ntmps21
    go_wp2_with (first
      | (refine wpList_load_hd rfl (.tmp 2) rfl rfl H2.out.1 ?_)
      | (rw [HW.out]; refine wpList_alloc_ms rfl rfl ?_; intro w2 a2 b2 z2; have H2 := Lib.hid (And.intro (HA.out.1.later b2 (Nat.le_refl _)) (And.intro a2 (HA.out.2.trans (b2.mono HA.out.2.size)))); have HL2 := Lib.hid a2.lt; clear a2 b2 z2))
    refine (KB.out w2).mono ?_
    rintro e w3 ⟨rfl, b3⟩
    have H3 := Lib.hid (And.intro (H2.out.1.later b3 (Nat.le_refl _)) (And.intro (H2.out.2.1.later b3 (Nat.le_refl _)) (H2.out.2.2.trans (b3.mono H2.out.2.2.size))))
    have HL3 := Lib.hid (MsBox.lt H3.out.2.1)
    clear b3
    go_wp2_with (first
      | (refine wpList_store_ms rfl (.tmp 7) (.tmp 14) rfl (begunV (h 0) (h 1)) .zero .zero .zero .zero rfl rfl H4.out.2.2.1 ?_; intro w5 a5 o5 z5 g5; have H5 := Lib.hid (And.intro (H4.out.1.same (o5 _ (Nat.ne_of_lt (Nat.lt_trans HL1.out HL3.out)))) (And.intro (H4.out.2.1.same (o5 _ (Nat.ne_of_lt HL3.out))) (And.intro a5 (g5 w.heap.size w (Nat.le_of_lt (Nat.lt_trans HL1.out HL3.out)) H4.out.2.2.2)))); (have e2 : w5.cell? ⟨w.heap.size, 2, none⟩ = some (.int .i64 (h 2)) := by rw [H5.out.1.at_ (by decide), HU.out 2 (by decide)]); clear a5 o5 z5 g5)
      | (refine wpList_alloc_ms rfl rfl ?_; intro w4 a4 b4 z4; have H4 := Lib.hid (And.intro (H3.out.1.later b4 (Nat.le_refl _)) (And.intro (H3.out.2.1.later b4 (Nat.le_refl _)) (And.intro a4 (H3.out.2.2.trans (b4.mono H3.out.2.2.size))))); clear a4 b4 z4))
    refine (KQ.out w5 H5.out.2.2.2).mono ?_
    rintro e w6 ⟨A6, n6, c6, v6, rfl, S6, t6, b6⟩
    obtain ⟨T6, x6, rfl⟩ := t6.held' hq
    have H6 := Lib.hid (And.intro (H5.out.2.1.later b6 (Nat.le_refl _)) (And.intro t6 (H5.out.2.2.2.trans (b6.mono H5.out.2.2.2.size))))
    clear S6 t6 b6 e2
    go_wp2_with (refine wpList_store_ms rfl (.tmp 4) (.tmp 25) rfl .zero .zero .zero .zero .zero rfl rfl H6.out.1 ?_; intro w7 a7 o7 z7 g7; have H7 := Lib.hid (And.intro a7 (And.intro (H6.out.2.1.farMs H6.out.1 o7) (g7 w.heap.size w (Nat.le_of_lt HL1.out) H6.out.2.2))); clear a7 o7 z7 g7)
    exact bodyPost_ret (results_ms3 _ rfl rfl H7.out.1) rfl ⟨.zero, .zero, .zero, .zero, .iface T6 x6, rfl, QsS.nil _ _, RcS.nil _ _, RcS.nil _ _, RcS.nil _ _, H7.out.2⟩
    -->>
  rw [if_neg hq] at hZ
  have hq0 : qf.code = 0 := Decidable.not_not.1 hq
  have hqn := nq hq0
  have KA := (fun w1 (b : Below w.heap.size w w1) => listR_any (HB.out.1.later b (Nat.le_refl _)) h47 qn (h 3) (by omega) (by omega) (Handle.later b (Nat.le_refl _) HB.out.2))
  have na : (listV (rdR l n) (h 3) qn).f.code = 0 → (listV (rdR l n) (h 3) qn).next ≤ n + 65541 + 12 := fun hc => listR_next (by omega) hc
  generalize listV (rdR l n) (h 3) qn = a at KA na hZ
  obtain ⟨ax, an, af⟩ := a
  have KU := (fun w1 (b : Below w.heap.size w w1) (hz : an ≤ n + 65541 + 12) => listR_any (HB.out.1.later b (Nat.le_refl _)) h47 an (h 4) (by omega) (by omega) (Handle.later b (Nat.le_refl _) HB.out.2))
  have nu : an ≤ n + 65541 + 12 → (listV (rdR l n) (h 4) an).f.code = 0 → (listV (rdR l n) (h 4) an).next ≤ n + 65541 + 12 := fun hz hc => listR_next (by omega) hc
  dsimp only at KA na KU nu hZ
  generalize listV (rdR l n) (h 4) an = b at KU nu hZ
  obtain ⟨ux, un, uf⟩ := b
  have KE := (fun w1 (b : Below w.heap.size w w1) (hz : un ≤ n + 65541 + 12) => listR_any (HB.out.1.later b (Nat.le_refl _)) h47 un (h 5) (by omega) (by omega) (Handle.later b (Nat.le_refl _) HB.out.2))
  dsimp only at KU nu KE hZ
  generalize listV (rdR l n) (h 5) un = c at KE hZ
  obtain ⟨ex, en, ef⟩ := c
  dsimp only at KE hZ
  have HZ := Lib.hid hZ
  have KA := Lib.hid KA
  have KU := Lib.hid KU
  have KE := Lib.hid KE
  have NA := Lib.hid na
  have NU := Lib.hid nu
  clear na nu nq hq hZ
  --<< b
  go_enter Tryz.func21, Tryz.ntmps21
  go_wp2_with (first
    | (refine wpList_load_hd rfl (.tmp 2) rfl rfl H2.out.1 ?_)
    | (rw [HW.out]; refine wpList_alloc_ms rfl rfl ?_; intro w2 a2 b2 z2; have H2 := Lib.hid (And.intro (HA.out.1.later b2 (Nat.le_refl _)) (And.intro a2 (HA.out.2.trans (b2.mono HA.out.2.size)))); have HL2 := Lib.hid a2.lt; clear a2 b2 z2))
  refine (KB.out w2).mono ?_
  rintro e w3 ⟨rfl, b3⟩
  have H3 := Lib.hid (And.intro (H2.out.1.later b3 (Nat.le_refl _)) (And.intro (H2.out.2.1.later b3 (Nat.le_refl _)) (H2.out.2.2.trans (b3.mono H2.out.2.2.size))))
  have HL3 := Lib.hid (MsBox.lt H3.out.2.1)
  clear b3
  go_wp2_with (first
    | (refine wpList_store_ms rfl (.tmp 7) (.tmp 14) rfl (begunV (h 0) (h 1)) .zero .zero .zero .zero rfl rfl H4.out.2.2.1 ?_; intro w5 a5 o5 z5 g5; have H5 := Lib.hid (And.intro (H4.out.1.same (o5 _ (Nat.ne_of_lt (Nat.lt_trans HL1.out HL3.out)))) (And.intro (H4.out.2.1.same (o5 _ (Nat.ne_of_lt HL3.out))) (And.intro a5 (g5 w.heap.size w (Nat.le_of_lt (Nat.lt_trans HL1.out HL3.out)) H4.out.2.2.2)))); (have e2 : w5.cell? ⟨w.heap.size, 2, none⟩ = some (.int .i64 (h 2)) := by rw [H5.out.1.at_ (by decide), HU.out 2 (by decide)]); clear a5 o5 z5 g5)
    | (refine wpList_alloc_ms rfl rfl ?_; intro w4 a4 b4 z4; have H4 := Lib.hid (And.intro (H3.out.1.later b4 (Nat.le_refl _)) (And.intro (H3.out.2.1.later b4 (Nat.le_refl _)) (And.intro a4 (H3.out.2.2.trans (b4.mono H3.out.2.2.size))))); clear a4 b4 z4))
  refine (KQ.out w5 H5.out.2.2.2).mono ?_
  rintro e w6 ⟨A6, n6, c6, v6, rfl, S6, t6, b6⟩
  obtain rfl := t6.none' hq0
  have H6 := Lib.hid (And.intro (H5.out.1.later b6 (Nat.le_refl _)) (And.intro (H5.out.2.1.later b6 (Nat.le_refl _)) (And.intro (H5.out.2.2.1.later b6 (Nat.le_refl _)) (And.intro S6 (And.intro (H5.out.2.2.2.trans (b6.mono H5.out.2.2.2.size)) b6.size)))))
  have HL4 := Lib.hid (MsBox.lt H5.out.2.2.1)
  have HL35 := Lib.hid (MsBox.lt H5.out.2.2.1)
  have HL56 := Lib.hid b6.size
  clear S6 t6 b6 e2
  go_wp2_with (refine wpList_put_ms rfl 23 (.tmp 28) (.tmp 27) rfl 5 ⟨A6, n6, c6⟩ rfl rfl (by kernel_rfl) H6.out.2.2.1 (by decide) (sq' := ⟨A6, n6, c6⟩) (sa' := .zero) (su' := .zero) (se' := .zero) rfl ?_; intro w7 a7 o7 z7 g7; have H7 := Lib.hid (And.intro (H6.out.1.same (o7 _ (Nat.ne_of_lt (Nat.lt_trans HL1.out HL3.out)))) (And.intro (H6.out.2.1.same (o7 _ (Nat.ne_of_lt HL3.out))) (And.intro a7 (And.intro (H6.out.2.2.2.1.away (fun k hk => o7 k (Nat.ne_of_gt (Nat.lt_of_lt_of_le HL4.out hk)))) (g7 w.heap.size w (Nat.le_of_lt (Nat.lt_trans HL1.out HL3.out)) H6.out.2.2.2.2.1))))); have HS7 := Lib.hid (Nat.le_of_eq z7.symm); clear a7 o7 g7 z7)
  obtain ⟨w8, hw8⟩ : ∃ w8, w7.alloc (.cells #[.pointer (some ⟨w3.heap.size, 6, none⟩), .pointer (some ⟨w3.heap.size, 7, none⟩), .pointer (some ⟨w3.heap.size, 8, none⟩)] 107) = w8 := ⟨_, rfl⟩
  have p8 : P3 w8 w7.heap.size w3.heap.size := by rw [← hw8]; exact heap_alloc_last w7 _
  have b8 : Below w7.heap.size w7 w8 := by rw [← hw8]; exact (Below.refl _ _).alloc (Nat.le_refl _) _
  rw [hw8]
  have HG7 := Lib.hid (MsBox.lt H7.out.2.2.1)
  have HL57 := Lib.hid (Nat.le_trans HL56.out HS7.out)
  have H8 := Lib.hid (And.intro (H7.out.1.later b8 (Nat.le_refl _)) (And.intro (H7.out.2.1.later b8 (Nat.le_refl _)) (And.intro (H7.out.2.2.1.later b8 (Nat.le_refl _)) (And.intro (H7.out.2.2.2.1.later b8 (Nat.le_refl _)) (And.intro p8 (H7.out.2.2.2.2.trans (b8.mono H7.out.2.2.2.2.size)))))))
  clear p8 b8 hw8
  obtain ⟨mh, hmh⟩ : ∃ mh, begunV (h 0) (h 1) = mh := ⟨_, rfl⟩
  rw [hmh] at H8
  have HMH := Lib.hid hmh
  clear hmh
  go_loopw [9, 34] (fun at_ i wr => (HxBox wr w.heap.size u ∧ MsBox wr W.heap.size .zero .zero .zero .zero .zero ∧ P3 wr w7.heap.size w3.heap.size ∧ QsS w5.heap.size wr A6 n6 c6 qx ∧ Below w.heap.size w wr) ∧ ((i = .int .i64 0 ∧ at_ = .int .i64 qn ∧ MsBox wr w3.heap.size mh ⟨A6, n6, c6⟩ .zero .zero .zero) ∨ (∃ sa : Sl, i = .int .i64 1 ∧ at_ = .int .i64 an ∧ MsBox wr w3.heap.size mh ⟨A6, n6, c6⟩ sa .zero .zero ∧ af.code = 0 ∧ RcS w5.heap.size wr sa.A sa.n sa.c ax) ∨ (∃ sa su : Sl, i = .int .i64 2 ∧ at_ = .int .i64 un ∧ MsBox wr w3.heap.size mh ⟨A6, n6, c6⟩ sa su .zero ∧ (af.code = 0 ∧ uf.code = 0) ∧ RcS w5.heap.size wr sa.A sa.n sa.c ax ∧ RcS w5.heap.size wr su.A su.n su.c ux) ∨ (∃ sa su se : Sl, i = .int .i64 3 ∧ at_ = .int .i64 en ∧ MsBox wr w3.heap.size mh ⟨A6, n6, c6⟩ sa su se ∧ (af.code = 0 ∧ uf.code = 0 ∧ ef.code = 0) ∧ RcS w5.heap.size wr sa.A sa.n sa.c ax ∧ RcS w5.heap.size wr su.A su.n su.c ux ∧ RcS w5.heap.size wr se.A se.n se.c ex))) (fun _ i _ => 3 - (intOf i).toNat)
  case atStart => exact ⟨⟨H8.out.1, H8.out.2.1, H8.out.2.2.2.2.1, H8.out.2.2.2.1, H8.out.2.2.2.2.2⟩, .inl ⟨rfl, rfl, H8.out.2.2.1⟩⟩
  case round =>
    obtain ⟨⟨r1, r2, r3, r4, r5⟩, ⟨rfl, rfl, r6⟩ | ⟨sa, rfl, rfl, r6, hc0, ra⟩ | ⟨sa, su, rfl, rfl, r6, ⟨hc0, hc1⟩, ra, ru⟩ | ⟨sa, su, se, rfl, rfl, r6, ⟨hc0, hc1, hc2⟩, ra, ru, re⟩⟩ := hrel
    · have R := Lib.hid (And.intro r1 (And.intro r2 (And.intro r3 (And.intro r4 (And.intro r5 r6)))))
      have pc : wr.cell? ⟨w7.heap.size, 0, none⟩ = some (.pointer (some ⟨w3.heap.size, 6, none⟩)) := r3.cell 0
      have hcc : wr.cell? ⟨w.heap.size, 3, none⟩ = some (.int .i64 (h 3)) := by rw [r1.at_ (by decide), HU.out 3 (by decide)]
      clear r1 r2 r3 r4 r5 r6 
      go_wp2_with fail
      refine (KA.out wr R.out.2.2.2.2.1).mono ?_
      rintro e w9 ⟨A9, n9, c9, v9, rfl, S9, t9, b9⟩
      have hlow : w5.heap.size ≤ wr.heap.size := Nat.le_trans HL57.out (Nat.le_of_lt R.out.2.2.1.lt)
      have S9 := S9.low hlow
      by_cases hk : af.code ≠ 0
      · obtain ⟨T9, x9, rfl⟩ := t9.held' hk
        have TT := Lib.hid t9
        have U := Lib.hid (And.intro (R.out.1.later b9 (Nat.le_refl _)) (And.intro (R.out.2.1.later b9 (Nat.le_refl _)) (And.intro (R.out.2.2.1.later b9) (And.intro (R.out.2.2.2.1.later b9 (Nat.le_refl _)) (And.intro (R.out.2.2.2.2.1.trans (b9.mono R.out.2.2.2.2.1.size)) (And.intro (R.out.2.2.2.2.2.later b9 (Nat.le_refl _)) (And.intro S9 trivial)))))))
        clear S9 t9 b9 pc hcc
        go_wp2_with (first
          | (refine wpList_store_ms rfl (.tmp 4) (.tmp 54) rfl .zero .zero .zero .zero .zero rfl rfl V.out.2.1 ?_; intro w11 a11 o11 z11 g11; have X := Lib.hid (And.intro a11 (And.intro ((TT.out.farMs U.out.2.2.2.2.2.1 V.out.2.2.2.2.2.2.2.2).farMs V.out.2.1 o11) (g11 w.heap.size w (Nat.le_of_lt HL1.out) V.out.2.2.2.2.1))); clear a11 o11 z11 g11)
          | (refine wpList_put_ms rfl 24 (.tmp 51) (.tmp 48) rfl 6 ⟨A9, n9, c9⟩ rfl rfl (by kernel_rfl) U.out.2.2.2.2.2.1 (by decide) (sq' := ⟨A6, n6, c6⟩) (sa' := ⟨A9, n9, c9⟩) (su' := .zero) (se' := .zero) rfl ?_; intro w10 a10 o10 z10 g10; have V := Lib.hid (And.intro (U.out.1.same (o10 _ (Nat.ne_of_lt (Nat.lt_trans HL1.out HL3.out)))) (And.intro (U.out.2.1.same (o10 _ (Nat.ne_of_lt HL3.out))) (And.intro (show P3 w10 w7.heap.size w3.heap.size from (o10 _ (Ne.symm (Nat.ne_of_lt HG7.out))).trans U.out.2.2.1) (And.intro (U.out.2.2.2.1.away (fun k hk => o10 k (Nat.ne_of_gt (Nat.lt_of_lt_of_le HL35.out hk)))) (And.intro (g10 w.heap.size w (Nat.le_of_lt (Nat.lt_trans HL1.out HL3.out)) U.out.2.2.2.2.1) (And.intro a10 (And.intro (U.out.2.2.2.2.2.2.1.away (fun k hk => o10 k (Nat.ne_of_gt (Nat.lt_of_lt_of_le HL35.out hk)))) (And.intro trivial o10)))))))); clear a10 o10 z10 g10))
        have hz := HZ.out
        rw [if_pos hk] at hz
        rw [← hz]
        exact bodyPost_ret (results_ms3 _ rfl rfl X.out.1) rfl ⟨.zero, .zero, .zero, .zero, .iface T9 x9, rfl, QsS.nil _ _, RcS.nil _ _, RcS.nil _ _, RcS.nil _ _, X.out.2⟩
      · have hk0 : af.code = 0 := Decidable.not_not.1 hk
        obtain rfl := t9.none' hk0
        have U := Lib.hid (And.intro (R.out.1.later b9 (Nat.le_refl _)) (And.intro (R.out.2.1.later b9 (Nat.le_refl _)) (And.intro (R.out.2.2.1.later b9) (And.intro (R.out.2.2.2.1.later b9 (Nat.le_refl _)) (And.intro (R.out.2.2.2.2.1.trans (b9.mono R.out.2.2.2.2.1.size)) (And.intro (R.out.2.2.2.2.2.later b9 (Nat.le_refl _)) (And.intro S9 trivial)))))))
        clear S9 t9 b9 pc hcc hk
        go_wp2_with (refine wpList_put_ms rfl 24 (.tmp 51) (.tmp 48) rfl 6 ⟨A9, n9, c9⟩ rfl rfl (by kernel_rfl) U.out.2.2.2.2.2.1 (by decide) (sq' := ⟨A6, n6, c6⟩) (sa' := ⟨A9, n9, c9⟩) (su' := .zero) (se' := .zero) rfl ?_; intro w10 a10 o10 z10 g10; have V := Lib.hid (And.intro (U.out.1.same (o10 _ (Nat.ne_of_lt (Nat.lt_trans HL1.out HL3.out)))) (And.intro (U.out.2.1.same (o10 _ (Nat.ne_of_lt HL3.out))) (And.intro (show P3 w10 w7.heap.size w3.heap.size from (o10 _ (Ne.symm (Nat.ne_of_lt HG7.out))).trans U.out.2.2.1) (And.intro (U.out.2.2.2.1.away (fun k hk => o10 k (Nat.ne_of_gt (Nat.lt_of_lt_of_le HL35.out hk)))) (And.intro (g10 w.heap.size w (Nat.le_of_lt (Nat.lt_trans HL1.out HL3.out)) U.out.2.2.2.2.1) (And.intro a10 (And.intro (U.out.2.2.2.2.2.2.1.away (fun k hk => o10 k (Nat.ne_of_gt (Nat.lt_of_lt_of_le HL35.out hk)))) (And.intro trivial o10)))))))); clear a10 o10 z10 g10)
        go_roundw
        case rel => exact ⟨⟨V.out.1, V.out.2.1, V.out.2.2.1, V.out.2.2.2.1, V.out.2.2.2.2.1⟩, .inr (.inl ⟨⟨A9, n9, c9⟩, by go_num, rfl, V.out.2.2.2.2.2.1, hk0, V.out.2.2.2.2.2.2.1⟩)⟩
        case measure => simp [intOf]
    · have R := Lib.hid (And.intro r1 (And.intro r2 (And.intro r3 (And.intro r4 (And.intro r5 (And.intro r6 ra))))))
      have pc : wr.cell? ⟨w7.heap.size, 1, none⟩ = some (.pointer (some ⟨w3.heap.size, 7, none⟩)) := r3.cell 1
      have hcc : wr.cell? ⟨w.heap.size, 4, none⟩ = some (.int .i64 (h 4)) := by rw [r1.at_ (by decide), HU.out 4 (by decide)]
      clear r1 r2 r3 r4 r5 r6 ra
      go_wp2_with fail
      refine (KU.out wr R.out.2.2.2.2.1 (NA.out hc0)).mono ?_
      rintro e w9 ⟨A9, n9, c9, v9, rfl, S9, t9, b9⟩
      have hlow : w5.heap.size ≤ wr.heap.size := Nat.le_trans HL57.out (Nat.le_of_lt R.out.2.2.1.lt)
      have S9 := S9.low hlow
      by_cases hk : uf.code ≠ 0
      · obtain ⟨T9, x9, rfl⟩ := t9.held' hk
        have TT := Lib.hid t9
        have U := Lib.hid (And.intro (R.out.1.later b9 (Nat.le_refl _)) (And.intro (R.out.2.1.later b9 (Nat.le_refl _)) (And.intro (R.out.2.2.1.later b9) (And.intro (R.out.2.2.2.1.later b9 (Nat.le_refl _)) (And.intro (R.out.2.2.2.2.1.trans (b9.mono R.out.2.2.2.2.1.size)) (And.intro (R.out.2.2.2.2.2.1.later b9 (Nat.le_refl _)) (And.intro S9 (R.out.2.2.2.2.2.2.later b9 (Nat.le_refl _)))))))))
        clear S9 t9 b9 pc hcc
        go_wp2_with (first
          | (refine wpList_store_ms rfl (.tmp 4) (.tmp 54) rfl .zero .zero .zero .zero .zero rfl rfl V.out.2.1 ?_; intro w11 a11 o11 z11 g11; have X := Lib.hid (And.intro a11 (And.intro ((TT.out.farMs U.out.2.2.2.2.2.1 V.out.2.2.2.2.2.2.2.2).farMs V.out.2.1 o11) (g11 w.heap.size w (Nat.le_of_lt HL1.out) V.out.2.2.2.2.1))); clear a11 o11 z11 g11)
          | (refine wpList_put_ms rfl 24 (.tmp 51) (.tmp 48) rfl 7 ⟨A9, n9, c9⟩ rfl rfl (by kernel_rfl) U.out.2.2.2.2.2.1 (by decide) (sq' := ⟨A6, n6, c6⟩) (sa' := sa) (su' := ⟨A9, n9, c9⟩) (se' := .zero) rfl ?_; intro w10 a10 o10 z10 g10; have V := Lib.hid (And.intro (U.out.1.same (o10 _ (Nat.ne_of_lt (Nat.lt_trans HL1.out HL3.out)))) (And.intro (U.out.2.1.same (o10 _ (Nat.ne_of_lt HL3.out))) (And.intro (show P3 w10 w7.heap.size w3.heap.size from (o10 _ (Ne.symm (Nat.ne_of_lt HG7.out))).trans U.out.2.2.1) (And.intro (U.out.2.2.2.1.away (fun k hk => o10 k (Nat.ne_of_gt (Nat.lt_of_lt_of_le HL35.out hk)))) (And.intro (g10 w.heap.size w (Nat.le_of_lt (Nat.lt_trans HL1.out HL3.out)) U.out.2.2.2.2.1) (And.intro a10 (And.intro (U.out.2.2.2.2.2.2.1.away (fun k hk => o10 k (Nat.ne_of_gt (Nat.lt_of_lt_of_le HL35.out hk)))) (And.intro ((U.out.2.2.2.2.2.2.2).away (fun k hk => o10 k (Nat.ne_of_gt (Nat.lt_of_lt_of_le HL35.out hk)))) o10)))))))); clear a10 o10 z10 g10))
        have hz := HZ.out
        rw [if_neg (fun e => e hc0), if_pos hk] at hz
        rw [← hz]
        exact bodyPost_ret (results_ms3 _ rfl rfl X.out.1) rfl ⟨.zero, .zero, .zero, .zero, .iface T9 x9, rfl, QsS.nil _ _, RcS.nil _ _, RcS.nil _ _, RcS.nil _ _, X.out.2⟩
      · have hk0 : uf.code = 0 := Decidable.not_not.1 hk
        obtain rfl := t9.none' hk0
        have U := Lib.hid (And.intro (R.out.1.later b9 (Nat.le_refl _)) (And.intro (R.out.2.1.later b9 (Nat.le_refl _)) (And.intro (R.out.2.2.1.later b9) (And.intro (R.out.2.2.2.1.later b9 (Nat.le_refl _)) (And.intro (R.out.2.2.2.2.1.trans (b9.mono R.out.2.2.2.2.1.size)) (And.intro (R.out.2.2.2.2.2.1.later b9 (Nat.le_refl _)) (And.intro S9 (R.out.2.2.2.2.2.2.later b9 (Nat.le_refl _)))))))))
        clear S9 t9 b9 pc hcc hk
        go_wp2_with (refine wpList_put_ms rfl 24 (.tmp 51) (.tmp 48) rfl 7 ⟨A9, n9, c9⟩ rfl rfl (by kernel_rfl) U.out.2.2.2.2.2.1 (by decide) (sq' := ⟨A6, n6, c6⟩) (sa' := sa) (su' := ⟨A9, n9, c9⟩) (se' := .zero) rfl ?_; intro w10 a10 o10 z10 g10; have V := Lib.hid (And.intro (U.out.1.same (o10 _ (Nat.ne_of_lt (Nat.lt_trans HL1.out HL3.out)))) (And.intro (U.out.2.1.same (o10 _ (Nat.ne_of_lt HL3.out))) (And.intro (show P3 w10 w7.heap.size w3.heap.size from (o10 _ (Ne.symm (Nat.ne_of_lt HG7.out))).trans U.out.2.2.1) (And.intro (U.out.2.2.2.1.away (fun k hk => o10 k (Nat.ne_of_gt (Nat.lt_of_lt_of_le HL35.out hk)))) (And.intro (g10 w.heap.size w (Nat.le_of_lt (Nat.lt_trans HL1.out HL3.out)) U.out.2.2.2.2.1) (And.intro a10 (And.intro (U.out.2.2.2.2.2.2.1.away (fun k hk => o10 k (Nat.ne_of_gt (Nat.lt_of_lt_of_le HL35.out hk)))) (And.intro ((U.out.2.2.2.2.2.2.2).away (fun k hk => o10 k (Nat.ne_of_gt (Nat.lt_of_lt_of_le HL35.out hk)))) o10)))))))); clear a10 o10 z10 g10)
        go_roundw
        case rel => exact ⟨⟨V.out.1, V.out.2.1, V.out.2.2.1, V.out.2.2.2.1, V.out.2.2.2.2.1⟩, .inr (.inr (.inl ⟨sa, ⟨A9, n9, c9⟩, by go_num, rfl, V.out.2.2.2.2.2.1, ⟨hc0, hk0⟩, V.out.2.2.2.2.2.2.2.1, V.out.2.2.2.2.2.2.1⟩))⟩
        case measure => simp [intOf]
    · have R := Lib.hid (And.intro r1 (And.intro r2 (And.intro r3 (And.intro r4 (And.intro r5 (And.intro r6 (And.intro ra ru)))))))
      have pc : wr.cell? ⟨w7.heap.size, 2, none⟩ = some (.pointer (some ⟨w3.heap.size, 8, none⟩)) := r3.cell 2
      have hcc : wr.cell? ⟨w.heap.size, 5, none⟩ = some (.int .i64 (h 5)) := by rw [r1.at_ (by decide), HU.out 5 (by decide)]
      clear r1 r2 r3 r4 r5 r6 ra ru
      go_wp2_with fail
      refine (KE.out wr R.out.2.2.2.2.1 (NU.out (NA.out hc0) hc1)).mono ?_
      rintro e w9 ⟨A9, n9, c9, v9, rfl, S9, t9, b9⟩
      have hlow : w5.heap.size ≤ wr.heap.size := Nat.le_trans HL57.out (Nat.le_of_lt R.out.2.2.1.lt)
      have S9 := S9.low hlow
      by_cases hk : ef.code ≠ 0
      · obtain ⟨T9, x9, rfl⟩ := t9.held' hk
        have TT := Lib.hid t9
        have U := Lib.hid (And.intro (R.out.1.later b9 (Nat.le_refl _)) (And.intro (R.out.2.1.later b9 (Nat.le_refl _)) (And.intro (R.out.2.2.1.later b9) (And.intro (R.out.2.2.2.1.later b9 (Nat.le_refl _)) (And.intro (R.out.2.2.2.2.1.trans (b9.mono R.out.2.2.2.2.1.size)) (And.intro (R.out.2.2.2.2.2.1.later b9 (Nat.le_refl _)) (And.intro S9 (And.intro (R.out.2.2.2.2.2.2.1.later b9 (Nat.le_refl _)) (R.out.2.2.2.2.2.2.2.later b9 (Nat.le_refl _))))))))))
        clear S9 t9 b9 pc hcc
        go_wp2_with (first
          | (refine wpList_store_ms rfl (.tmp 4) (.tmp 54) rfl .zero .zero .zero .zero .zero rfl rfl V.out.2.1 ?_; intro w11 a11 o11 z11 g11; have X := Lib.hid (And.intro a11 (And.intro ((TT.out.farMs U.out.2.2.2.2.2.1 V.out.2.2.2.2.2.2.2.2).farMs V.out.2.1 o11) (g11 w.heap.size w (Nat.le_of_lt HL1.out) V.out.2.2.2.2.1))); clear a11 o11 z11 g11)
          | (refine wpList_put_ms rfl 24 (.tmp 51) (.tmp 48) rfl 8 ⟨A9, n9, c9⟩ rfl rfl (by kernel_rfl) U.out.2.2.2.2.2.1 (by decide) (sq' := ⟨A6, n6, c6⟩) (sa' := sa) (su' := su) (se' := ⟨A9, n9, c9⟩) rfl ?_; intro w10 a10 o10 z10 g10; have V := Lib.hid (And.intro (U.out.1.same (o10 _ (Nat.ne_of_lt (Nat.lt_trans HL1.out HL3.out)))) (And.intro (U.out.2.1.same (o10 _ (Nat.ne_of_lt HL3.out))) (And.intro (show P3 w10 w7.heap.size w3.heap.size from (o10 _ (Ne.symm (Nat.ne_of_lt HG7.out))).trans U.out.2.2.1) (And.intro (U.out.2.2.2.1.away (fun k hk => o10 k (Nat.ne_of_gt (Nat.lt_of_lt_of_le HL35.out hk)))) (And.intro (g10 w.heap.size w (Nat.le_of_lt (Nat.lt_trans HL1.out HL3.out)) U.out.2.2.2.2.1) (And.intro a10 (And.intro (U.out.2.2.2.2.2.2.1.away (fun k hk => o10 k (Nat.ne_of_gt (Nat.lt_of_lt_of_le HL35.out hk)))) (And.intro (And.intro ((U.out.2.2.2.2.2.2.2.1).away (fun k hk => o10 k (Nat.ne_of_gt (Nat.lt_of_lt_of_le HL35.out hk)))) ((U.out.2.2.2.2.2.2.2.2).away (fun k hk => o10 k (Nat.ne_of_gt (Nat.lt_of_lt_of_le HL35.out hk))))) o10)))))))); clear a10 o10 z10 g10))
        have hz := HZ.out
        rw [if_neg (fun e => e hc0), if_neg (fun e => e hc1), if_pos hk] at hz
        rw [← hz]
        exact bodyPost_ret (results_ms3 _ rfl rfl X.out.1) rfl ⟨.zero, .zero, .zero, .zero, .iface T9 x9, rfl, QsS.nil _ _, RcS.nil _ _, RcS.nil _ _, RcS.nil _ _, X.out.2⟩
      · have hk0 : ef.code = 0 := Decidable.not_not.1 hk
        obtain rfl := t9.none' hk0
        have U := Lib.hid (And.intro (R.out.1.later b9 (Nat.le_refl _)) (And.intro (R.out.2.1.later b9 (Nat.le_refl _)) (And.intro (R.out.2.2.1.later b9) (And.intro (R.out.2.2.2.1.later b9 (Nat.le_refl _)) (And.intro (R.out.2.2.2.2.1.trans (b9.mono R.out.2.2.2.2.1.size)) (And.intro (R.out.2.2.2.2.2.1.later b9 (Nat.le_refl _)) (And.intro S9 (And.intro (R.out.2.2.2.2.2.2.1.later b9 (Nat.le_refl _)) (R.out.2.2.2.2.2.2.2.later b9 (Nat.le_refl _))))))))))
        clear S9 t9 b9 pc hcc hk
        go_wp2_with (refine wpList_put_ms rfl 24 (.tmp 51) (.tmp 48) rfl 8 ⟨A9, n9, c9⟩ rfl rfl (by kernel_rfl) U.out.2.2.2.2.2.1 (by decide) (sq' := ⟨A6, n6, c6⟩) (sa' := sa) (su' := su) (se' := ⟨A9, n9, c9⟩) rfl ?_; intro w10 a10 o10 z10 g10; have V := Lib.hid (And.intro (U.out.1.same (o10 _ (Nat.ne_of_lt (Nat.lt_trans HL1.out HL3.out)))) (And.intro (U.out.2.1.same (o10 _ (Nat.ne_of_lt HL3.out))) (And.intro (show P3 w10 w7.heap.size w3.heap.size from (o10 _ (Ne.symm (Nat.ne_of_lt HG7.out))).trans U.out.2.2.1) (And.intro (U.out.2.2.2.1.away (fun k hk => o10 k (Nat.ne_of_gt (Nat.lt_of_lt_of_le HL35.out hk)))) (And.intro (g10 w.heap.size w (Nat.le_of_lt (Nat.lt_trans HL1.out HL3.out)) U.out.2.2.2.2.1) (And.intro a10 (And.intro (U.out.2.2.2.2.2.2.1.away (fun k hk => o10 k (Nat.ne_of_gt (Nat.lt_of_lt_of_le HL35.out hk)))) (And.intro (And.intro ((U.out.2.2.2.2.2.2.2.1).away (fun k hk => o10 k (Nat.ne_of_gt (Nat.lt_of_lt_of_le HL35.out hk)))) ((U.out.2.2.2.2.2.2.2.2).away (fun k hk => o10 k (Nat.ne_of_gt (Nat.lt_of_lt_of_le HL35.out hk))))) o10)))))))); clear a10 o10 z10 g10)
        go_roundw
        case rel => exact ⟨⟨V.out.1, V.out.2.1, V.out.2.2.1, V.out.2.2.2.1, V.out.2.2.2.2.1⟩, .inr (.inr (.inr ⟨sa, su, ⟨A9, n9, c9⟩, by go_num, rfl, V.out.2.2.2.2.2.1, ⟨hc0, hc1, hk0⟩, V.out.2.2.2.2.2.2.2.1.1, V.out.2.2.2.2.2.2.2.1.2, V.out.2.2.2.2.2.2.1⟩))⟩
        case measure => simp [intOf]
    · have R := Lib.hid (And.intro r2 (And.intro r4 (And.intro r5 (And.intro r6 (And.intro ra (And.intro ru re))))))
      clear r1 r2 r3 r4 r5 r6 ra ru re
      go_wp2_with (first
        | (refine wpList_store_ms rfl (.tmp 4) (.tmp 57) rfl mh ⟨A6, n6, c6⟩ sa su se rfl rfl R.out.1 ?_; intro w11 a11 o11 z11 g11; have X := Lib.hid (And.intro a11 (And.intro o11 (g11 w.heap.size w (Nat.le_of_lt HL1.out) R.out.2.2.1))); clear a11 o11 z11 g11)
        | (refine wpList_load_ms rfl (.tmp 7) rfl rfl R.out.2.2.2.1 ?_))
      have hz := HZ.out
      rw [if_neg (fun e => e hc0), if_neg (fun e => e hc1), if_neg (fun e => e hc2), HMH.out] at hz
      rw [← hz]
      have hw5 : w.heap.size ≤ w5.heap.size := H5.out.2.2.2.size
      have far : ∀ k, w5.heap.size ≤ k → w11.heap[k]? = wr.heap[k]? := fun k hk => X.out.2.1 k (Nat.ne_of_gt (Nat.lt_of_lt_of_le (Nat.lt_trans HL3.out HL35.out) hk))
      exact bodyPost_ret (results_ms3 _ rfl rfl X.out.1) rfl ⟨⟨A6, n6, c6⟩, sa, su, se, .nilIface, rfl, (R.out.2.1.away far).low hw5, (R.out.2.2.2.2.1.away far).low hw5, (R.out.2.2.2.2.2.1.away far).low hw5, (R.out.2.2.2.2.2.2.away far).low hw5, Tells.nil _ _ _, X.out.2.2⟩
  -->>
end Go.Proofs.YtbikifaadpijnaaGreatDoor

namespace Go.Proofs.YtbikifaadpijnaaGreatDoor
open Go.RowKit
set_option maxRecDepth 100000

/-- What Parse hands back. -/
def ParseR (x : Ms × Fl) (w : World) (e : Ending) (w' : World) : Prop := ∃ sq sa su se v, e = .returned (.tuple #[.agg (msv x.1.h sq sa su se), v]) ∧ QsS w.heap.size w' sq.A sq.n sq.c x.1.qs ∧ RcS w.heap.size w' sa.A sa.n sa.c x.1.an ∧ RcS w.heap.size w' su.A su.n su.c x.1.au ∧ RcS w.heap.size w' se.A se.n se.c x.1.ex ∧ Tells w' v x.2 ∧ Below w.heap.size w w'
theorem uK_at {l : List UInt8} {i : Nat} (h : i < 6) : uK l 6 i = (hdN l i : Int) := if_pos h
set_option maxHeartbeats 4000000 in
theorem parse_any {A : Option Addr} {n c : Nat} {l : List UInt8} {w : World} (hb : Bs w A n c l) (h47 : n ≤ 140737488350000) (hg : Handle w) : Calls Tryz.prog 8 #[.slice A n c] w (ParseR (parseM l n) w) := by
  have HB := Lib.hid (And.intro hb hg)
  have hlen := hb.len
  clear hb hg
  unfold parseM ParseR
  by_cases h4 : 4000 < n
  case pos =>
    --<< a
    rw [if_pos h4]
    have hd4 : decide ((4000 : Int) < (n : Int)) = true := decide_eq_true (by omega)
    go_enter Tryz.func8, Tryz.ntmps8
    go_wp2_with (first
      | (refine wpList_store_ms rfl (.tmp 2) (.tmp 11) rfl .zero .zero .zero .zero .zero rfl rfl H1.out.1 ?_; intro w2 a2 o2 z2 g2; have H2 := Lib.hid (And.intro a2 (g2 w.heap.size w (Nat.le_refl _) H1.out.2)); clear a2 o2 z2 g2)
      | (refine wpList_alloc_ms rfl rfl ?_; intro w1 a1 b1 z1; have H1 := Lib.hid (And.intro a1 b1); clear a1 b1 z1))
    exact bodyPost_ret (results_ms_tmp rfl _ rfl H2.out.1) rfl ⟨.zero, .zero, .zero, .zero, _, rfl, QsS.nil _ _, RcS.nil _ _, RcS.nil _ _, RcS.nil _ _, Tells.bare _ 4 (by decide) 0, H2.out.2⟩
    -->>
  rw [if_neg h4]
  have hd4 : decide ((4000 : Int) < (n : Int)) = false := decide_eq_false (by omega)
  have KH := Lib.hid (fun w1 (b : Below w.heap.size w w1) => headOf_any (HB.out.1.later b (Nat.le_refl _)) h47)
  by_cases h12 : n < 12
  case pos =>
    --<< b
    rw [if_pos h12]
    go_enter Tryz.func8, Tryz.ntmps8
    go_wp2_with (refine wpList_alloc_ms rfl rfl ?_; intro w1 a1 b1 z1; have H1 := Lib.hid (And.intro a1 b1); clear a1 b1 z1)
    refine (KH.out w1 H1.out.2).mono ?_
    rintro e w2 ⟨_, hh, b2⟩
    obtain ⟨T2, x2, rfl, t2⟩ := hh h12
    have H2 := Lib.hid (And.intro (H1.out.1.later b2 (Nat.le_refl _)) (And.intro t2 (H1.out.2.trans (b2.mono H1.out.2.size))))
    clear hh t2 b2
    go_wp2_with (first
      | (refine wpList_store_ms rfl (.tmp 2) (.tmp 20) rfl .zero .zero .zero .zero .zero rfl rfl H4.out.1 ?_; intro w5 a5 o5 z5 g5; have H5 := Lib.hid (And.intro a5 (And.intro (H4.out.2.1.farMs H4.out.1 o5) (g5 w.heap.size w (Nat.le_refl _) H4.out.2.2))); clear a5 o5 z5 g5)
      | (refine wpList_store_hd rfl (.tmp 4) (.tmp 16) rfl (fun _ => 0) rfl rfl H3.out.1 ?_; intro w4 a4 o4 z4 g4; have b4 := g4 _ _ (Nat.le_refl _) H3.out.2; have H4 := Lib.hid (And.intro (H2.out.1.later b4 (Nat.le_refl _)) (And.intro (H2.out.2.1.later b4 (Nat.le_refl _)) (H2.out.2.2.trans (b4.mono H2.out.2.2.size)))); clear a4 o4 z4 g4 b4)
      | (refine wpList_alloc_hd rfl rfl ?_; intro w3 a3 b3 z3; have H3 := Lib.hid (And.intro a3 b3); clear a3 b3 z3))
    exact bodyPost_ret (results_ms_tmp rfl _ rfl H5.out.1) rfl ⟨.zero, .zero, .zero, .zero, .iface T2 x2, rfl, QsS.nil _ _, RcS.nil _ _, RcS.nil _ _, RcS.nil _ _, H5.out.2⟩
    -->>
  rw [if_neg h12]
  have hsum : ∀ (x : Int), x = uK l 6 2 + uK l 6 3 + uK l 6 4 + uK l 6 5 → x = ((hdN l 2 + hdN l 3 + hdN l 4 + hdN l 5 : Nat) : Int) := fun x hx => by
    rw [hx, uK_at (by decide), uK_at (by decide), uK_at (by decide), uK_at (by decide)]
    omega
  have n2 := num2_lt l (2 * 2)
  have n3 := num2_lt l (2 * 3)
  have n4 := num2_lt l (2 * 4)
  have n5 := num2_lt l (2 * 5)
  obtain ⟨s, hs⟩ : ∃ s, hdN l 2 + hdN l 3 + hdN l 4 + hdN l 5 = s := ⟨_, rfl⟩
  have hsb : s < 1000000 := by unfold hdN at hs; omega
  rw [hs] at hsum ⊢
  have HSUM := Lib.hid (hsum _ rfl)
  have KT := Lib.hid (fun (g : Nat) (w1 : World) (H : HxBox w1 g (uK l 6)) => together_any H (fun i => by unfold uK; split <;> omega) (fun i => by
    have := num2_lt l (2 * i)
    unfold uK hdN
    split <;> omega))
  clear hs hsum n2 n3 n4 n5
  by_cases h64 : 64 < s
  case pos =>
    --<< c
    rw [if_pos h64]
    have hd64 : decide ((64 : Int) < (s : Int)) = true := decide_eq_true (by omega)
    go_enter Tryz.func8, Tryz.ntmps8
    go_wp2_with (refine wpList_alloc_ms rfl rfl ?_; intro w1 a1 b1 z1; have H1 := Lib.hid (And.intro a1 b1); clear a1 b1 z1)
    refine (KH.out w1 H1.out.2).mono ?_
    rintro e w2 ⟨hh, _, b2⟩
    obtain rfl := hh (by omega)
    have H2 := Lib.hid (And.intro (H1.out.1.later b2 (Nat.le_refl _)) (H1.out.2.trans (b2.mono H1.out.2.size)))
    clear hh b2
    go_wp2_with (first
      | (refine wpList_store_hd rfl (.tmp 4) (.tmp 16) rfl (uK l 6) rfl rfl H3.out.1 ?_; intro w4 a4 o4 z4 g4; have b4 := g4 _ _ (Nat.le_refl _) H3.out.2; have H4 := Lib.hid (And.intro (H2.out.1.later b4 (Nat.le_refl _)) (And.intro a4 (H2.out.2.trans (b4.mono H2.out.2.size)))); clear a4 o4 z4 g4 b4)
      | (refine wpList_alloc_hd rfl rfl ?_; intro w3 a3 b3 z3; have H3 := Lib.hid (And.intro a3 b3); clear a3 b3 z3))
    refine (KT.out _ _ H4.out.2.1).mono ?_
    rintro e w' ⟨rfl, rfl⟩
    rw [HSUM.out]
    go_wp2_with fail
    refine (wrap_told 4 (Tells.bare w4 4 (by decide) 0) (by decide)).mono ?_
    rintro e w5 ⟨v5, rfl, t5, b5⟩
    have H5 := Lib.hid (And.intro (H4.out.1.later b5 (Nat.le_refl _)) (And.intro t5 (H4.out.2.2.trans (b5.mono H4.out.2.2.size))))
    clear t5 b5
    go_wp2_with (refine wpList_store_ms rfl (.tmp 2) (.tmp 25) rfl .zero .zero .zero .zero .zero rfl rfl H5.out.1 ?_; intro w6 a6 o6 z6 g6; have H6 := Lib.hid (And.intro a6 (And.intro (H5.out.2.1.farMs H5.out.1 o6) (g6 w.heap.size w (Nat.le_refl _) H5.out.2.2))); clear a6 o6 z6 g6)
    exact bodyPost_ret (results_ms_tmp rfl _ rfl H6.out.1) rfl ⟨.zero, .zero, .zero, .zero, v5, rfl, QsS.nil _ _, RcS.nil _ _, RcS.nil _ _, RcS.nil _ _, H6.out.2⟩
    -->>
  rw [if_neg h64]
  have hd64 : decide ((64 : Int) < (s : Int)) = false := decide_eq_false (by omega)
  have KW := fun w1 (b : Below w.heap.size w w1) => whole_any (HB.out.1.later b (Nat.le_refl _)) h47 (uK l 6) (hdN l) (fun i hi => uK_at hi) (fun i => num2_lt l (2 * i)) (Handle.later b (Nat.le_refl _) HB.out.2)
  unfold WholeR at KW
  generalize wholeV l n (hdN l) = x at KW ⊢
  obtain ⟨m, nx, f⟩ := x
  dsimp only at KW
  have KW := Lib.hid KW
  have hnx : True := trivial
  unfold parseW
  dsimp only
  by_cases hf : f.code ≠ 0
  case pos =>
    --<< d
    rw [if_pos hf]
    go_enter Tryz.func8, Tryz.ntmps8
    go_wp2_with (refine wpList_alloc_ms rfl rfl ?_; intro w1 a1 b1 z1; have H1 := Lib.hid (And.intro a1 b1); clear a1 b1 z1)
    refine (KH.out w1 H1.out.2).mono ?_
    rintro e w2 ⟨hh, _, b2⟩
    obtain rfl := hh (by omega)
    have H2 := Lib.hid (And.intro (H1.out.1.later b2 (Nat.le_refl _)) (H1.out.2.trans (b2.mono H1.out.2.size)))
    clear hh b2
    go_wp2_with (first
      | (refine wpList_store_hd rfl (.tmp 4) (.tmp 16) rfl (uK l 6) rfl rfl H3.out.1 ?_; intro w4 a4 o4 z4 g4; have b4 := g4 _ _ (Nat.le_refl _) H3.out.2; have H4 := Lib.hid (And.intro (H2.out.1.later b4 (Nat.le_refl _)) (And.intro a4 (H2.out.2.trans (b4.mono H2.out.2.size)))); clear a4 o4 z4 g4 b4)
      | (refine wpList_alloc_hd rfl rfl ?_; intro w3 a3 b3 z3; have H3 := Lib.hid (And.intro a3 b3); clear a3 b3 z3))
    refine (KT.out _ _ H4.out.2.1).mono ?_
    rintro e w' ⟨rfl, rfl⟩
    rw [HSUM.out]
    go_wp2_with (refine wpList_load_hd rfl (.tmp 4) rfl rfl H4.out.2.1 ?_)
    refine (KW.out w4 H4.out.2.2).mono ?_
    rintro e w5 ⟨sq, sa, su, se, v5, rfl, _, _, _, _, t5, b5⟩
    obtain ⟨T5, x5, rfl⟩ := t5.held' hf
    have H5 := Lib.hid (And.intro (H4.out.1.later b5 (Nat.le_refl _)) (And.intro t5 (H4.out.2.2.trans (b5.mono H4.out.2.2.size))))
    clear t5 b5
    go_wp2_with (first
      | (refine wpList_store_ms rfl (.tmp 2) (.tmp 37) rfl .zero .zero .zero .zero .zero rfl rfl H7.out.1 ?_; intro w8 a8 o8 z8 g8; have H8 := Lib.hid (And.intro a8 (And.intro (H7.out.2.1.farMs H7.out.1 o8) (g8 w.heap.size w (Nat.le_refl _) H7.out.2.2))); clear a8 o8 z8 g8)
      | (refine wpList_store_ms rfl (.tmp 6) (.tmp 32) rfl m.h sq sa su se rfl rfl H6.out.1 ?_; intro w7 a7 o7 z7 g7; have b7 := g7 _ _ (Nat.le_refl _) H6.out.2; have H7 := Lib.hid (And.intro (H5.out.1.later b7 (Nat.le_refl _)) (And.intro (H5.out.2.1.later b7 (Nat.le_refl _)) (H5.out.2.2.trans (b7.mono H5.out.2.2.size)))); clear a7 o7 z7 g7 b7)
      | (refine wpList_alloc_ms rfl rfl ?_; intro w6 a6 b6 z6; have H6 := Lib.hid (And.intro a6 b6); clear a6 b6 z6))
    exact bodyPost_ret (results_ms_tmp rfl _ rfl H8.out.1) rfl ⟨.zero, .zero, .zero, .zero, .iface T5 x5, rfl, QsS.nil _ _, RcS.nil _ _, RcS.nil _ _, RcS.nil _ _, H8.out.2⟩
    -->>
  rw [if_neg hf]
  have hf0 : f.code = 0 := Decidable.not_not.1 hf
  clear hf
  by_cases hn : nx = n
  case neg =>
    --<< e
    rw [if_pos hn]
    have hn2 : ¬ (nx : Int) = (n : Int) := by omega
    go_enter Tryz.func8, Tryz.ntmps8
    go_wp2_with (refine wpList_alloc_ms rfl rfl ?_; intro w1 a1 b1 z1; have H1 := Lib.hid (And.intro a1 b1); clear a1 b1 z1)
    refine (KH.out w1 H1.out.2).mono ?_
    rintro e w2 ⟨hh, _, b2⟩
    obtain rfl := hh (by omega)
    have H2 := Lib.hid (And.intro (H1.out.1.later b2 (Nat.le_refl _)) (H1.out.2.trans (b2.mono H1.out.2.size)))
    clear hh b2
    go_wp2_with (first
      | (refine wpList_store_hd rfl (.tmp 4) (.tmp 16) rfl (uK l 6) rfl rfl H3.out.1 ?_; intro w4 a4 o4 z4 g4; have b4 := g4 _ _ (Nat.le_refl _) H3.out.2; have H4 := Lib.hid (And.intro (H2.out.1.later b4 (Nat.le_refl _)) (And.intro a4 (H2.out.2.trans (b4.mono H2.out.2.size)))); clear a4 o4 z4 g4 b4)
      | (refine wpList_alloc_hd rfl rfl ?_; intro w3 a3 b3 z3; have H3 := Lib.hid (And.intro a3 b3); clear a3 b3 z3))
    refine (KT.out _ _ H4.out.2.1).mono ?_
    rintro e w' ⟨rfl, rfl⟩
    rw [HSUM.out]
    go_wp2_with (refine wpList_load_hd rfl (.tmp 4) rfl rfl H4.out.2.1 ?_)
    refine (KW.out w4 H4.out.2.2).mono ?_
    rintro e w5 ⟨sq, sa, su, se, v5, rfl, _, _, _, _, t5, b5⟩
    obtain rfl := t5.none' hf0
    have H5 := Lib.hid (And.intro (H4.out.1.later b5 (Nat.le_refl _)) (H4.out.2.2.trans (b5.mono H4.out.2.2.size)))
    clear t5 b5
    go_wp2_with (first
      | (refine wpList_store_ms rfl (.tmp 6) (.tmp 32) rfl m.h sq sa su se rfl rfl H6.out.1 ?_; intro w7 a7 o7 z7 g7; have b7 := g7 _ _ (Nat.le_refl _) H6.out.2; have H7 := Lib.hid (And.intro (H5.out.1.later b7 (Nat.le_refl _)) (H5.out.2.trans (b7.mono H5.out.2.size))); clear a7 o7 z7 g7 b7)
      | (refine wpList_alloc_ms rfl rfl ?_; intro w6 a6 b6 z6; have H6 := Lib.hid (And.intro a6 b6); clear a6 b6 z6))
    refine (wrap_told (nx : Int) (Tells.bare w7 7 (by decide) 0) (by decide)).mono ?_
    rintro e w8 ⟨v8, rfl, t8, b8⟩
    have H8 := Lib.hid (And.intro (H7.out.1.later b8 (Nat.le_refl _)) (And.intro t8 (H7.out.2.trans (b8.mono H7.out.2.size))))
    clear t8 b8
    go_wp2_with (refine wpList_store_ms rfl (.tmp 2) (.tmp 43) rfl .zero .zero .zero .zero .zero rfl rfl H8.out.1 ?_; intro w9 a9 o9 z9 g9; have H9 := Lib.hid (And.intro a9 (And.intro (H8.out.2.1.farMs H8.out.1 o9) (g9 w.heap.size w (Nat.le_refl _) H8.out.2.2))); clear a9 o9 z9 g9)
    exact bodyPost_ret (results_ms_tmp rfl _ rfl H9.out.1) rfl ⟨.zero, .zero, .zero, .zero, v8, rfl, QsS.nil _ _, RcS.nil _ _, RcS.nil _ _, RcS.nil _ _, H9.out.2⟩
    -->>
  --<< f
  rw [if_neg (fun h => h hn)]
  subst hn
  go_enter Tryz.func8, Tryz.ntmps8
  go_wp2_with (refine wpList_alloc_ms rfl rfl ?_; intro w1 a1 b1 z1; have H1 := Lib.hid (And.intro a1 b1); have HL := Lib.hid a1.lt; clear a1 b1 z1)
  refine (KH.out w1 H1.out.2).mono ?_
  rintro e w2 ⟨hh, _, b2⟩
  obtain rfl := hh (by omega)
  have H2 := Lib.hid (And.intro (H1.out.1.later b2 (Nat.le_refl _)) (H1.out.2.trans (b2.mono H1.out.2.size)))
  clear hh b2
  go_wp2_with (first
    | (refine wpList_store_hd rfl (.tmp 4) (.tmp 16) rfl (uK l 6) rfl rfl H3.out.1 ?_; intro w4 a4 o4 z4 g4; have b4 := g4 _ _ (Nat.le_refl _) H3.out.2; have H4 := Lib.hid (And.intro (H2.out.1.later b4 (Nat.le_refl _)) (And.intro a4 (H2.out.2.trans (b4.mono H2.out.2.size)))); have HL4 := Lib.hid (MsBox.lt H4.out.1); clear a4 o4 z4 g4 b4)
    | (refine wpList_alloc_hd rfl rfl ?_; intro w3 a3 b3 z3; have H3 := Lib.hid (And.intro a3 b3); clear a3 b3 z3))
  refine (KT.out _ _ H4.out.2.1).mono ?_
  rintro e w' ⟨rfl, rfl⟩
  rw [HSUM.out]
  go_wp2_with (refine wpList_load_hd rfl (.tmp 4) rfl rfl H4.out.2.1 ?_)
  refine (KW.out w4 H4.out.2.2).mono ?_
  rintro e w5 ⟨sq, sa, su, se, v5, rfl, s1, s2, s3, s4, t5, b5⟩
  obtain rfl := t5.none' hf0
  have H5 := Lib.hid (And.intro (H4.out.1.later b5 (Nat.le_refl _)) (And.intro (And.intro s1 (And.intro s2 (And.intro s3 s4))) (H4.out.2.2.trans (b5.mono H4.out.2.2.size))))
  clear t5 b5 s1 s2 s3 s4
  go_wp2_with (first
    | (refine wpList_store_ms rfl (.tmp 2) (.tmp 47) rfl m.h sq sa su se rfl rfl H7.out.1 ?_; intro w8 a8 o8 z8 g8; have far : ∀ k, w4.heap.size ≤ k → w8.heap[k]? = w7.heap[k]? := (fun k hk => o8 k (Nat.ne_of_gt (Nat.lt_of_lt_of_le HL4.out hk))); have H8 := Lib.hid (And.intro a8 (And.intro (And.intro (H7.out.2.1.1.away far) (And.intro (H7.out.2.1.2.1.away far) (And.intro (H7.out.2.1.2.2.1.away far) (H7.out.2.1.2.2.2.away far)))) (g8 w.heap.size w (Nat.le_refl _) H7.out.2.2.1))); clear a8 o8 z8 g8 far)
    | (refine wpList_load_ms rfl (.tmp 6) rfl rfl H7.out.2.2.2 ?_)
    | (refine wpList_store_ms rfl (.tmp 6) (.tmp 32) rfl m.h sq sa su se rfl rfl H6.out.1 ?_; intro w7 a7 o7 z7 g7; have b7 := g7 _ _ (Nat.le_refl _) H6.out.2; have H7 := Lib.hid (And.intro (H5.out.1.later b7 (Nat.le_refl _)) (And.intro (And.intro (H5.out.2.1.1.later b7 (Nat.le_refl _)) (And.intro (H5.out.2.1.2.1.later b7 (Nat.le_refl _)) (And.intro (H5.out.2.1.2.2.1.later b7 (Nat.le_refl _)) (H5.out.2.1.2.2.2.later b7 (Nat.le_refl _))))) (And.intro (H5.out.2.2.trans (b7.mono H5.out.2.2.size)) a7))); clear a7 o7 z7 g7 b7)
    | (refine wpList_alloc_ms rfl rfl ?_; intro w6 a6 b6 z6; have H6 := Lib.hid (And.intro a6 b6); clear a6 b6 z6))
  have hw4 : w.heap.size ≤ w4.heap.size := H4.out.2.2.size
  exact bodyPost_ret (results_ms_tmp rfl _ rfl H8.out.1) rfl ⟨sq, sa, su, se, .nilIface, rfl, H8.out.2.1.1.low hw4, H8.out.2.1.2.1.low hw4, H8.out.2.1.2.2.1.low hw4, H8.out.2.1.2.2.2.low hw4, Tells.nil _ _ _, H8.out.2.2⟩
  -->>
end Go.Proofs.YtbikifaadpijnaaGreatDoor
