/-
  A message played may be written, is short enough, and is parsed as it was. No conditions.
  A message loaded behind a guard; stockadehelp.Code at what is told; what is parsed may be written as far as its length goes; numbers below. Conditions: errors.errorType holds the handle of the type error.
  DnsmsgRefuses, beside its walk: which messages may not be written; parts of a message's box stored; a record of 1000 bytes. Conditions: those of the slices.
-/
import Derived.Test.YtbikifaadpijnaaGreatDoorZ48
import Derived.Test.YtbikifaadpijnaaGreatDoorZ25
import Derived.Test.YtbikifaadpijnaaGreatDoorZ44
import Derived.Test.YtbikifaadpijnaaGreatDoorZ17
import Derived.Test.YtbikifaadpijnaaGreatDoorZ23
import Derived.Test.YtbikifaadpijnaaGreatDoorZ16
namespace Go.Proofs.YtbikifaadpijnaaGreatDoor
open Go.RowKit
set_option maxRecDepth 100000

theorem play1_fit {r : Rc} (h : Play1 r) : fitR r ∧ r.name.length ≤ 60 ∧ r.target.length ≤ 60 ∧ (writeRB r).length ≤ 134 := by
  obtain ⟨t, ht, hp⟩ := h
  have e := hp.time
  have h1 := hp.name
  have h2 := hp.target
  have h3 := hp.data
  have hd : (dataB r).length ≤ 62 := by
    unfold dataB
    split
    · rw [List.length_take]
      have hk : r.adr.length = 16 := hp.ok
      omega
    split
    · have hw := writeB_length r.target
      split at hw <;> omega
    · omega
  have hw := writeB_length r.name
  have hq := writeQB_length r.asks
  have hr := writeRB_length r
  have hn : r.asks.name = r.name := rfl
  rw [hn] at hq
  exact ⟨⟨hp.right, hp.ok, by omega, by omega⟩, h1, h2, by split at hw <;> omega⟩
theorem playRs_len : ∀ (rs : List Rc), (∀ r ∈ rs, Play1 r) → (rsB rs).length ≤ rs.length * 134
  | [], _ => by simp [rsB]
  | r :: rs, h => by
    have h1 := (play1_fit (h r (by simp))).2.2.2
    have ih := playRs_len rs (fun x hx => h x (by simp [hx]))
    rw [rsB_cons, List.length_append, List.length_cons]
    omega
theorem playQs_len : ∀ (qs : List Qs), (∀ q ∈ qs, Play1q q) → (qsB qs).length ≤ qs.length * 66
  | [], _ => by simp [qsB]
  | q :: qs, h => by
    have h1 := (h q (by simp)).2
    have ih := playQs_len qs (fun x hx => h x (by simp [hx]))
    have h2 := writeQB_length q
    have h3 := writeB_length q.name
    rw [qsB_cons, List.length_append, List.length_cons]
    split at h3 <;> omega
theorem playM_recs {m : Ms} (h : PlayM m) : ∀ r ∈ recs m, Play1 r := fun r hr => by
  unfold recs at hr
  rcases List.mem_append.1 hr with hr | hr
  · exact h.an.2 r hr
  rcases List.mem_append.1 hr with hr | hr
  · exact h.au.2 r hr
  · exact h.ex.2 r hr
theorem play_right {m : Ms} (h : PlayM m) : rightM m ∧ (∀ r ∈ recs m, fitR r) ∧ (msgB m).length ≤ 3492 ∧ MsOk m := by
  have hr := playM_recs h
  have hl : (recs m).length ≤ 24 := by
    unfold recs
    rw [List.length_append, List.length_append]
    have := h.an.1
    have := h.au.1
    have := h.ex.1
    omega
  have hq := h.qs.1
  refine ⟨⟨⟨h.h, by unfold countM; omega⟩, fun q hq => (h.qs.2 q hq).1, fun r hx => (play1_fit (hr r hx)).1.1⟩, fun r hx => (play1_fit (hr r hx)).1, ?_, ⟨fun q hq => ?_, fun r hx => ?_⟩⟩
  · have h1 := playRs_len (recs m) hr
    have h2 := playQs_len m.qs h.qs.2
    have hh : (headL m).length = 12 := by
      unfold headL
      simp only [List.length_append, putn_length]
    unfold msgB
    rw [List.length_append, List.length_append, hh]
    omega
  · have := (h.qs.2 q hq).2
    omega
  · obtain ⟨⟨_, _, t0, t1⟩, n1, n2, _⟩ := play1_fit (hr r hx)
    exact ⟨⟨by omega, by omega⟩, t0, t1⟩
end Go.Proofs.YtbikifaadpijnaaGreatDoor

namespace Go.Proofs.YtbikifaadpijnaaGreatDoor
open Go.RowKit
set_option maxRecDepth 100000

theorem rc_data_at {w : World} {b o : Nat} {r : Rc} {B : Option Addr} {k m : Nat} (hk : r.ok) (h : w.rangeAt b o (rcv r B k m).toList) : w.cell? ⟨b, o + 22, none⟩ = some (.slice B k m) := h 22 _ (by
  obtain ⟨_, _, _, _, _, _, _, _, _, _, _, _, _, _, _, _, e1⟩ := ex16 hk
  rw [rcv_list, e1]; rfl)
theorem wp_load_msg {o : Oper} {a : Act} {w : World} {K : Act → World → Prop} {Q : Exit → Act → World → Prop} (x : Operand) (ho : o.op = .load 26 x) {g : Nat} {mh : Mh} {sq sa su se : Sl} (hx : a.eval x = .pointer (some ⟨g, 0, none⟩)) (hA : MsBox w g mh sq sa su se)
    (h : K (a.put o.dst (.agg (msv mh sq sa su se))) w) : o.wp Tryz.prog a w K Q :=
  wp_load_mid (P := Tryz.prog) 26 x ho g 0 hx (msv mh sq sa su se).toList _ hA.range Tryz.underlying26 rfl (by simpa using ms_size mh sq sa su se) (by simpa using h)
/-- What is parsed may be written, as far as its length goes. -/
theorem ok_of_right {m : Ms} (h : rightM m) (h2 : ∀ r ∈ recs m, fitR r) : MsOk m :=
  ⟨fun q hq => by have := right_len (h.2.1 q hq).1; omega, fun r hr => by
    have h3 := h2 r hr
    have h4 := right_len h3.1.1.1
    have h5 := right_len h3.1.2.2.1
    exact ⟨⟨by have e : r.asks.name = r.name := rfl; rw [e] at h4; omega, by omega⟩, h3.2.2⟩⟩
theorem num_below (a : Int) {m : Nat} (h0 : 0 < m) (h1 : m ≤ 1000000) : ∃ k : Nat, k < m ∧ wrap64 ((IntKind.u64.wrap a).tmod (m : Int)) = (k : Int) := by
  have h2 : 0 ≤ IntKind.u64.wrap a := by show 0 ≤ a % 18446744073709551616; omega
  have h3 := Int.emod_nonneg (IntKind.u64.wrap a) (show (m : Int) ≠ 0 by omega)
  have h4 := Int.emod_lt_of_pos (IntKind.u64.wrap a) (show (0 : Int) < m by omega)
  rw [Int.tmod_eq_emod_of_nonneg h2]
  refine ⟨(IntKind.u64.wrap a % (m : Int)).toNat, by omega, ?_⟩
  unfold wrap64
  omega
end Go.Proofs.YtbikifaadpijnaaGreatDoor

namespace Go.Proofs.YtbikifaadpijnaaGreatDoor
open Go.RowKit
set_option maxRecDepth 100000

theorem wr_no {m : Ms} (h : ¬ rightM m) : writeMe m = ⟨1, 0, false⟩ ∧ writeMv m = [] := by
  unfold writeMe writeMv
  rw [if_neg h, if_neg (fun hh => h hh.1)]
  exact ⟨rfl, rfl⟩
theorem wr_h {m : Ms} (h : ¬ rightH m.h) : writeMe m = ⟨1, 0, false⟩ ∧ writeMv m = [] := wr_no fun hr => h hr.1.1
theorem wr_q {m : Ms} {q : Qs} (hq : q ∈ m.qs) (h : ¬ rightQ q) : writeMe m = ⟨1, 0, false⟩ ∧ writeMv m = [] := wr_no fun hr => h (hr.2.1 q hq)
theorem wr_r {m : Ms} {r : Rc} (hq : r ∈ recs m) (h : ¬ rightR r) : writeMe m = ⟨1, 0, false⟩ ∧ writeMv m = [] := wr_no fun hr => h (hr.2.2 r hq)
def qdot : Qs := ⟨[46], 0, 0⟩
def rneg : Rc := ⟨[], 1, -1, 0, false, zero16, [], []⟩
def r99 : Rc := ⟨[], 99, 0, 0, false, zero16, [], List.replicate 1000 0⟩
theorem qdot_no : ¬ rightQ qdot := by decide +kernel
theorem rneg_no : ¬ rightR rneg := by decide +kernel
theorem rneg_ok : rneg.ok := by rfl
theorem r99_ok : r99.ok := by rfl
theorem r99_right : rightR r99 := by
  have e : bareV r99 = { Rc.zero with data := r99.data } := by
    unfold bareV
    rw [if_neg (by decide), if_neg (by decide), if_neg (by decide)]
  refine ⟨by decide +kernel, by decide +kernel, by decide +kernel, by simp [r99], ?_⟩
  rw [e]
  exact ⟨⟨rfl, rfl⟩, rfl, rfl⟩
theorem r99_len : (writeRB r99).length = 1011 := by decide +kernel
def m99 (k : Nat) : Ms := ⟨.zero, [], List.replicate k r99, [], []⟩
theorem m99_recs (k : Nat) : recs (m99 k) = List.replicate k r99 := by simp [recs, m99]
theorem m99_big {k : Nat} (h4 : 4 ≤ k) (h13 : k ≤ 13) : writeMe (m99 k) = ⟨4, 0, false⟩ ∧ writeMv (m99 k) = [] ∧ MsOk (m99 k) := by
  have hr : rightM (m99 k) := by
    refine ⟨⟨by show rightH Mh.zero; decide, ?_⟩, (fun q h => by cases h), fun r h => ?_⟩
    · unfold countM
      rw [m99_recs, List.length_replicate]
      show 0 + k ≤ 64
      omega
    · rw [m99_recs] at h
      rw [List.eq_of_mem_replicate h]
      exact r99_right
  have hl : ¬ (msgB (m99 k)).length ≤ 4000 := by
    unfold msgB rsB
    rw [m99_recs, List.length_append, List.length_append, List.map_replicate, List.length_flatten, List.map_replicate, List.sum_replicate_nat, r99_len]
    omega
  unfold writeMe writeMv
  rw [if_pos hr, if_neg hl, if_neg (fun hh => hl hh.2)]
  refine ⟨rfl, rfl, (fun q h => by cases h), fun r h => ?_⟩
  rw [m99_recs] at h
  rw [List.eq_of_mem_replicate h]
  exact ⟨⟨by decide, by decide⟩, by decide, by decide⟩
theorem wpList_putS_ms {ops : Array Oper} {rest : List Oper} {o : Oper} {a : Act} {w : World} {Q : Exit → Act → World → Prop} (hgd : o.guard = none) (ty : TypeId) (x y : Operand) (ho : o.op = .store ty x y) {g : Nat} (j : Nat) (s : Sl) (hx : a.eval x = .pointer (some ⟨g, j, none⟩)) (hy : a.eval y = .slice s.A s.n s.c) (hi : (Tryz.prog.info? ty).map (·.size) = some 1)
    {mh : Mh} {sq sa su se sq' sa' su' se' : Sl} (hA : MsBox w g mh sq sa su se) (hj : j < 9) (hset : (msv mh sq sa su se).setIfInBounds j (.slice s.A s.n s.c) = msv mh sq' sa' su' se')
    (h : ∀ w', MsBox w' g mh sq' sa' su' se' → (∀ k, k ≠ g → w'.heap[k]? = w.heap[k]?) → (∀ B w0, B ≤ g → Below B w0 w → Below B w0 w') → wpList Tryz.prog ops Q rest (a.put o.dst undef) w') : wpList Tryz.prog ops Q (o :: rest) a w :=
  wpList_plain hgd fun _ hK => wp_put_ms ty x y ho j s hx hy hi hA hj hset fun w' h1 h2 h3 => hK _ _ (h w' h1 h2 h3)
theorem wpList_putN_ms {ops : Array Oper} {rest : List Oper} {o : Oper} {a : Act} {w : World} {Q : Exit → Act → World → Prop} (hgd : o.guard = none) (ty : TypeId) (x y : Operand) (ho : o.op = .store ty x y) {g : Nat} (j : Nat) (z : Int) (hx : a.eval x = .pointer (some ⟨g, j, none⟩)) (hy : a.eval y = .int .i64 z) (hi : (Tryz.prog.info? ty).map (·.size) = some 1)
    {mh : Mh} (mh' : Mh) {sq sa su se : Sl} (hA : MsBox w g mh sq sa su se) (hj : j < 9) (hset : (msv mh sq sa su se).setIfInBounds j (.int .i64 z) = msv mh' sq sa su se)
    (h : ∀ w', MsBox w' g mh' sq sa su se → (∀ k, k ≠ g → w'.heap[k]? = w.heap[k]?) → (∀ B w0, B ≤ g → Below B w0 w → Below B w0 w') → wpList Tryz.prog ops Q rest (a.put o.dst undef) w') : wpList Tryz.prog ops Q (o :: rest) a w := by
  have e : w.setCell ⟨g, j, none⟩ (.int .i64 z) = w.setRow g (msv mh' sq sa su se) := by
    rw [setCell_eq_setRow w g j _ _ _ (.int .i64 z) hA, hset]
  have hrun := run_storeVar_cell (P := Tryz.prog) w g j ty (.int .i64 z) hA (by exact hj) hi rfl
  refine wpList_plain hgd fun _ hK => ?_
  unfold Oper.wp execOp
  simp only [ho, hx, hy, Instr.storeAt, Instr.sureAddr, Sem.run_bind, Sem.run_pure, Result.andThen_ok, hrun]
  rw [e]
  exact hK _ _ (h _ (setRow_heap w g _ _ _ _ hA) (fun k hk => setRow_other w g k _ hk) (fun B w0 hB hb => below_setRow hb hB _))
theorem run_build_rneg (w : World) : (Instr.build 57 #[(1, .int .i64 1), (2, .int .i64 (-1))]).run Tryz.prog w = .ok (.agg (rcv rneg none 0 0)) w := by kernel_rfl
theorem wpList_build_rneg {ops : Array Oper} {rest : List Oper} {o : Oper} {a : Act} {w : World} {Q : Exit → Act → World → Prop} (hgd : o.guard = none) (ho : o.op = .build 57 #[(1, .const (.int .i64 1)), (2, .const (.int .i64 (-1)))])
    (h : wpList Tryz.prog ops Q rest (a.put o.dst (.agg (rcv rneg none 0 0))) w) : wpList Tryz.prog ops Q (o :: rest) a w :=
  wpList_plain hgd fun _ hK => by
    have hrun := run_build_rneg w
    have e1 : a.eval (.const (.int .i64 1)) = .int .i64 1 := rfl
    have e2 : a.eval (.const (.int .i64 (-1))) = .int .i64 (-1) := rfl
    unfold Oper.wp execOp
    simp only [ho, Sem.run_bind, Sem.run_pure, Result.andThen_ok, List.map_toArray, List.map_cons, List.map_nil, e1, e2, hrun]
    exact hK _ _ h
theorem run_build_r99 (A : Option Addr) (n c : Nat) (w : World) : (Instr.build 57 #[(1, .int .i64 99), (6, .slice A n c)]).run Tryz.prog w = .ok (.agg (rcv r99 A n c)) w := by kernel_rfl
theorem wp_build_r99 {o : Oper} {a : Act} {w : World} {K : Act → World → Prop} {Q : Exit → Act → World → Prop} (x : Operand) (ho : o.op = .build 57 #[(1, .const (.int .i64 99)), (6, x)]) {A : Option Addr} {n c : Nat} (hx : a.eval x = .slice A n c)
    (h : K (a.put o.dst (.agg (rcv r99 A n c))) w) : o.wp Tryz.prog a w K Q := by
  have hrun := run_build_r99 A n c w
  have e1 : a.eval (.const (.int .i64 99)) = .int .i64 99 := rfl
  unfold Oper.wp execOp
  simp only [ho, Sem.run_bind, Sem.run_pure, Result.andThen_ok, List.map_toArray, List.map_cons, List.map_nil, e1, hx, hrun]
  exact h
theorem infoU8 : (Tryz.prog.info? 5).map (fun i => (i.zero, i.size, i.bytes)) = some (some (Value.int IntKind.u8 0), 1, 1) := by kernel_rfl
theorem wp_make1000 {o : Oper} {a : Act} {w : World} {K : Act → World → Prop} {Q : Exit → Act → World → Prop} (ho : o.op = .makeSlice 22 (.const (.int .i64 1000)) (.const (.int .i64 1000)))
    (h : ∀ w', Bs w' (some ⟨w.heap.size, 0, none⟩) 1000 1000 (List.replicate 1000 0) → Below w.heap.size w w' → K (a.put o.dst (.slice (some ⟨w.heap.size, 0, none⟩) 1000 1000)) w') : o.wp Tryz.prog a w K Q := by
  have hrun := run_make_row' (P := Tryz.prog) 22 5 (.int .u8 0) 1 Tryz.underlying22 infoU8 rfl .i64 .i64 1000 (by omega) (by omega) w
  have e1 : a.eval (.const (.int .i64 1000)) = .int .i64 ((1000 : Nat) : Int) := rfl
  have hB := Bs.lit w (List.replicate 1000 0) 1000 (by simp) (by unfold maxLen; omega) (madeCells #[.int .u8 0] 1000) (by rw [toList_madeCells_one]; simp [bv]) 5
  have hb : Below w.heap.size w (w.alloc (.cells (madeCells #[.int .u8 0] 1000) 5)) := (Below.refl _ _).alloc (Nat.le_refl _) _
  unfold Oper.wp execOp
  simp only [ho, e1, Sem.run_bind, Sem.run_pure, Result.andThen_ok, hrun]
  exact h _ hB hb
theorem wp_push_rc {o : Oper} {a : Act} {w : World} {K : Act → World → Prop} {Q : Exit → Act → World → Prop} (s x : Operand)
    (ho : o.op = .call { callee := .builtin .append, args := #[s, x], argTypes := #[24, 24] }) {lo : Nat} (base : Nat) (v : Value) (xs : List Rc) (ds : List Sl) (hs : a.eval s = v) (hown : RcO lo w base v xs ds)
    {g : Nat} {r : Rc} {d : Sl} (hx : a.eval x = .slice (some ⟨g, 0, none⟩) 1 1) (hq : RcBox w g r d.A d.n d.c) (hd : Bs w d.A d.n d.c r.data) (hdv : 0 < d.n → ∀ a, d.A = some a → some a.block ≠ v.ownBlock ∧ lo ≤ a.block) (hm : xs.length ≤ 1000000) (hbase : base ≤ w.heap.size)
    (h : ∀ v' w', RcO lo w' base v' (xs ++ [r]) (ds ++ [d]) → w.grownBy w' v.ownBlock → K (a.put o.dst v') w') : o.wp Tryz.prog a w K Q := by
  obtain ⟨i, h1, h2, h3, h4⟩ := info_of infoR
  obtain ⟨v', w', hr, o', g', _, hat⟩ := run_append_own_at (P := Tryz.prog) w base 24 o.type 57 i _ 23 96 Tryz.underlying24 h1 h2 h3 h4 (by simpa [Value.cells] using rcv_size Rc.zero_ok none 0 0) (by decide) v xs.length _ hown.own ⟨g, 0, none⟩ 1 1 (rcv r d.A d.n d.c).toList (by rw [Array.length_toList, rcv_size hq.2]) (fun j u hj => by
    have := hq.range j u hj
    rw [add_plain]
    exact this) (fun u hu => by
    have := (Array.all_eq_true'.1 (rcv_one r d.A d.n d.c)) u (by simpa using hu)
    exact this) (by unfold maxLen; omega) (by omega) hbase
  have away : ∀ (A : Option Addr) (n c : Nat) (l : List UInt8), Bs w A n c l → (0 < n → ∀ a, A = some a → some a.block ≠ v.ownBlock ∧ lo ≤ a.block) → Bs w' A n c l ∧ (0 < n → ∀ a, A = some a → some a.block ≠ v'.ownBlock ∧ lo ≤ a.block) := fun A n c l hB hA =>
    ⟨hB.away fun hn a ha => g'.block a.block (hB.blk hn ha) (hA hn a ha).1, fun hn a ha => by
      refine ⟨?_, (hA hn a ha).2⟩
      rcases hat with e | e
      · rw [e]; exact (hA hn a ha).1
      · rw [e]
        intro e2
        have h1 := hB.blk hn ha
        have h2 := Option.some.inj e2
        omega⟩
  unfold Oper.wp execOp
  simp only [ho, resolve, invoke, builtin, Sem.run_bind, Sem.run_pure, Result.andThen_ok, List.map_toArray, List.map_cons, List.map_nil, hs, hx, hr]
  refine h v' w' ⟨?_, by simp [hown.len], ?_, ?_⟩ g'
  · rw [rcC_snoc hown.len, List.length_append]
    exact o'
  · intro r' hr'
    rcases List.mem_append.1 hr' with hr' | hr'
    · exact hown.ok r' hr'
    · obtain rfl := List.mem_singleton.1 hr'
      exact hq.2
  · intro j r' s' hr' hs'
    by_cases hj : j < xs.length
    · rw [List.getElem?_append_left hj] at hr'
      rw [List.getElem?_append_left (by rw [← hown.len]; exact hj)] at hs'
      exact away _ _ _ _ (hown.dat j r' s' hr' hs').1 (hown.dat j r' s' hr' hs').2
    · rw [List.getElem?_append_right (by omega)] at hr'
      rw [List.getElem?_append_right (by rw [← hown.len]; omega), ← hown.len] at hs'
      have hj0 : j - xs.length = 0 := by
        have := (List.getElem?_eq_some_iff.1 hr').1
        simp at this
        omega
      rw [hj0] at hr' hs'
      cases hr'
      cases hs'
      exact away _ _ _ _ hd hdv
theorem tmod_below (a : Int) {m : Nat} (h0 : 0 < m) (h1 : m ≤ 1000000) : ∃ k : Nat, k < m ∧ (IntKind.u64.wrap a).tmod (m : Int) = (k : Int) := by
  have h2 : 0 ≤ IntKind.u64.wrap a := by show 0 ≤ a % 18446744073709551616; omega
  rw [Int.tmod_eq_emod_of_nonneg h2]
  have h3 := Int.emod_nonneg (IntKind.u64.wrap a) (show (m : Int) ≠ 0 by omega)
  have h4 := Int.emod_lt_of_pos (IntKind.u64.wrap a) (show 0 < (m : Int) by omega)
  exact ⟨(IntKind.u64.wrap a % (m : Int)).toNat, by omega, by omega⟩
end Go.Proofs.YtbikifaadpijnaaGreatDoor
